/- Workers: slices.IndexFunc and ContainsFunc over workers; canWork, rakedBy, sumOf, weekOf, rakedByAll. -/
import Derived.Test.YtdikekecbapcaaaWorkI
import Derived.Test.YtdikekecbapcaaaRInt
import Derived.Test.YtdikekecbapcaaaWorkJb
import Derived.Shelf.Abstract
namespace Go.Proofs.Ytdikekecbapcaaa.WorkJ
open Go.RowKit Go.Proofs.Ytdikekecbapcaaa.Mem Go.Proofs.Ytdikekecbapcaaa.Base Go.Proofs.Ytdikekecbapcaaa.SWorker Go.Proofs.Ytdikekecbapcaaa.SInt Go.Proofs.Ytdikekecbapcaaa.RInt Go.Proofs.Ytdikekecbapcaaa.Regn Go.Proofs.Ytdikekecbapcaaa.Boxes Go.Proofs.Ytdikekecbapcaaa.Keep Go.Proofs.Ytdikekecbapcaaa.Work Go.Proofs.Ytdikekecbapcaaa.Work2 Go.Proofs.Ytdikekecbapcaaa.WorkS Go.Proofs.Ytdikekecbapcaaa.WorkI
set_option linter.unusedVariables false
set_option maxRecDepth 100000
set_option maxHeartbeats 800000 in
theorem by_impl (P : Option Addr) (cap : Nat) (p : List R) (w : World) (hr : Rd w w.heap.size P (flat p)) (hs : Sane p) :
    Calls Try.prog 70 #[.slice P p.length cap] w (RPost (.int .i64 (raked p)) w) := by
  have HR := Lib.hid hr; clear hr
  have HS := Lib.hid hs; have hl12 := hs.1; clear hs
  go_enter Try.func70, Try.ntmps70
  go_wp2_with fail
  refine (can_impl P cap p w HR.out (by omega)).mono ?_
  rintro e w1 ⟨rfl, HB⟩
  cases hw : works p
  · have HV := Lib.hid (show raked p = 0 by unfold raked; rw [hw]; rfl)
    go_wp2
    go_ret
    exact rpost (by rw [HV.out] <;> rfl) HB
  have HV := Lib.hid (show raked p = rakes p by unfold raked; rw [if_pos hw]); clear hw
  go_wp2
  go_loopw [3, 11] (fun s i wr => ∃ (k : Nat) (q : Int), k ≤ p.length ∧ i = .int .i64 k ∧ s = .int .i64 q ∧ Hid (rakes (p.take k) = q) ∧ 0 ≤ q ∧ q ≤ 50 * k ∧ Below w.heap.size w wr) (fun _ i _ => p.length - (intOf i).toNat)
  case atStart => exact ⟨0, 0, Nat.zero_le _, rfl, rfl, Lib.hid rfl, by omega, by omega, HB⟩
  case round =>
    clear HB
    obtain ⟨k, q, hk, rfl, rfl, HQ, q0, q1, HB⟩ := hrel
    by_cases hlt : k < p.length
    · obtain ⟨b, o, rfl, hb, hc⟩ := HR.out.at (k := k * 5) (by rw [flat_n]; omega)
      obtain ⟨x, hx⟩ : ∃ x, p[k] = x := ⟨_, rfl⟩
      obtain ⟨h0, h1, h2, h3, h4⟩ := cells5 HB hb hc hlt hx
      have hx2 : 0 ≤ x.f2 ∧ x.f2 ≤ 50 := by have := HS.out.2 p[k] (List.getElem_mem hlt); rw [hx] at this; omega
      have HN := Lib.hid (show rakes (p.take (k + 1)) = q + x.f2 by rw [List.take_succ_eq_append_getElem hlt, rakes_snoc, HQ.out, hx])
      have HX2 := Lib.hid hx2
      have HL := Lib.hid hlt
      clear hx hc
      have y2 : IntKind.i64.wrap (q + x.f2) = q + x.f2 := IntWalk.i64_in _ (by omega)
      clear hx2
      go_wp2
      go_roundw
      case rel => exact ⟨k + 1, q + x.f2, HL.out, by go_num, rfl, HN, by have := HX2.out; omega, by have := HX2.out; omega, al HB⟩
      case measure => have := HL.out; simp [intOf]; omega
    · have HF := Lib.hid (show raked p = q by rw [HV.out]; have := HQ.out; rwa [List.take_of_length_le (by omega)] at this)
      go_wp2
      go_ret
      exact rpost (by rw [HF.out] <;> rfl) HB
theorem sum_take (l : List Int) (k : Nat) (h : k < l.length) : (l.take (k + 1)).sum = (l.take k).sum + l[k] := by rw [List.take_succ_eq_append_getElem h, List.sum_append]; simp
theorem sum_impl (P : Option Addr) (cap : Nat) (l : List Int) (w : World) (hr : Rd w w.heap.size P (iv l)) (hn : l.length ≤ 1000) (hb : ∀ x ∈ l, 0 ≤ x ∧ x ≤ 10000) :
    Calls Try.prog 86 #[.slice P l.length cap] w (RPost (.int .i64 l.sum) w) := by
  have HR := Lib.hid hr; clear hr
  have HBD := Lib.hid hb; clear hb
  go_enter Try.func86, Try.ntmps86
  go_wp2
  go_loopw [3, 8] (fun s i wr => ∃ (k : Nat) (q : Int), k ≤ l.length ∧ i = .int .i64 k ∧ s = .int .i64 q ∧ Hid ((l.take k).sum = q) ∧ 0 ≤ q ∧ q ≤ 10000 * k ∧ Below w.heap.size w wr) (fun _ i _ => l.length - (intOf i).toNat)
  case atStart => exact ⟨0, 0, Nat.zero_le _, rfl, rfl, Lib.hid rfl, by omega, by omega, Below.refl _ _⟩
  case round =>
    obtain ⟨k, q, hk, rfl, rfl, HQ, q0, q1, HB⟩ := hrel
    by_cases hlt : k < l.length
    · obtain ⟨b, o, rfl, hb, hc⟩ := HR.out.at (k := k) (by rw [iv_len]; exact hlt)
      obtain ⟨x, hx⟩ : ∃ x, l[k] = x := ⟨_, rfl⟩
      have hcell : wr.cell? ⟨b, o + k, none⟩ = some (.int .i64 x) := ((bcell HB).1 _ _ hb).trans (by rw [← hx]; exact hc k _ (iv_get l k hlt))
      have hx2 : 0 ≤ x ∧ x ≤ 10000 := by rw [← hx]; exact HBD.out _ (List.getElem_mem hlt)
      have HN := Lib.hid (show (l.take (k + 1)).sum = q + x by rw [sum_take l k hlt, HQ.out, hx])
      have HX2 := Lib.hid hx2
      have HL := Lib.hid hlt
      clear hx hc
      have y2 : IntKind.i64.wrap (q + x) = q + x := IntWalk.i64_in _ (by omega)
      clear hx2
      go_wp2
      go_roundw
      case rel => exact ⟨k + 1, q + x, HL.out, by go_num, rfl, HN, by have := HX2.out; omega, by have := HX2.out; omega, HB⟩
      case measure => have := HL.out; simp [intOf]; omega
    · have HF := Lib.hid (show l.sum = q by have := HQ.out; rwa [List.take_of_length_le (by omega)] at this)
      go_wp2
      go_ret
      exact rpost (by rw [HF.out] <;> rfl) HB
end Go.Proofs.Ytdikekecbapcaaa.WorkJ
