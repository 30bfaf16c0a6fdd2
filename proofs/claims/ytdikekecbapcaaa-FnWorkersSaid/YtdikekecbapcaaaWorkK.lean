/- Workers: weekOf, rakedByAll. -/
import Derived.Test.YtdikekecbapcaaaWorkJc
import Derived.Test.YtdikekecbapcaaaWorkR
namespace Go.Proofs.Ytdikekecbapcaaa.WorkK
open Go.RowKit Go.Proofs.Ytdikekecbapcaaa.Mem Go.Proofs.Ytdikekecbapcaaa.Base Go.Proofs.Ytdikekecbapcaaa.SWorker Go.Proofs.Ytdikekecbapcaaa.SInt Go.Proofs.Ytdikekecbapcaaa.RInt Go.Proofs.Ytdikekecbapcaaa.Regn Go.Proofs.Ytdikekecbapcaaa.Boxes Go.Proofs.Ytdikekecbapcaaa.Keep Go.Proofs.Ytdikekecbapcaaa.Work Go.Proofs.Ytdikekecbapcaaa.Work2 Go.Proofs.Ytdikekecbapcaaa.WorkS Go.Proofs.Ytdikekecbapcaaa.WorkI Go.Proofs.Ytdikekecbapcaaa.WorkJ
set_option linter.unusedVariables false
set_option maxRecDepth 100000
theorem week_len (l : List R) (g : Int) : (week l g).length = 7 := weekN_len l g 7
theorem row_set {w : World} {base g n c : Nat} {S T : List Int} {k : Nat} {v : Int} (O : w.ownsRow base 3 1 (.slice (some ⟨g, 0, none⟩) n c) n (iv S)) (e : S.set k v = T) : (w.setCell ⟨g, k, none⟩ (.int .i64 v)).ownsRow base 3 1 (.slice (some ⟨g, 0, none⟩) n c) n (iv T) := by
  subst e
  have h := (O.stored k (.int .i64 v)).1
  have e : (iv S).set k (.int .i64 v) = iv (S.set k v) := by unfold iv; rw [List.map_set]
  rwa [e] at h
theorem row_get {w : World} {base g n c : Nat} {S : List Int} {k : Nat} {v : Int} (O : w.ownsRow base 3 1 (.slice (some ⟨g, 0, none⟩) n c) n (iv S)) (hv : S[k]? = some v) : w.cell? ⟨g, k, none⟩ = some (.int .i64 v) := by
  have hk : k < S.length := (List.getElem?_eq_some_iff.1 hv).1
  have hx : S[k] = v := (List.getElem?_eq_some_iff.1 hv).2
  rw [O.cellAt k (by have := O.1; rw [iv_len] at this; omega), iv_get S k hk, hx]
def weekRow (l : List R) (g : Int) (k : Nat) : List Int := weekN l g k ++ List.replicate (7 - k) 0
theorem weekRow_0 (l : List R) (g : Int) : weekRow l g 0 = List.replicate 7 0 := rfl
theorem weekRow_7 (l : List R) (g : Int) : weekRow l g 7 = week l g := by unfold weekRow week; simp
theorem weekRow_set {l : List R} {g : Int} {k : Nat} (hk : k < 7) : (weekRow l g k).set k (rakedOn l g k) = weekRow l g (k + 1) := by
  unfold weekRow
  rw [List.set_append_right _ _ (by rw [weekN_len]; exact Nat.le_refl _), weekN_len, Nat.sub_self, weekN_snoc, List.append_assoc]
  congr 1
  obtain ⟨m, hm⟩ : ∃ m, 7 - k = m + 1 := ⟨6 - k, by omega⟩
  rw [hm, show 7 - (k + 1) = m by omega, List.replicate_succ]; rfl
theorem weekRow_at {l : List R} {g : Int} {k : Nat} (hk : k < 7) : (weekRow l g k)[k]? = some 0 := by
  unfold weekRow
  rw [List.getElem?_append_right (by rw [weekN_len]; exact Nat.le_refl _), weekN_len, Nat.sub_self, List.getElem?_replicate, if_pos (by omega)]
theorem week_mem {l : List R} (h : Sane l) (g : Int) : ∀ x ∈ week l g, 0 ≤ x ∧ x ≤ 10000 := by
  intro x hx
  unfold week weekN at hx
  obtain ⟨d, _, rfl⟩ := List.mem_map.1 hx
  have := h.on g d
  omega
theorem pres_sub (l : List R) (g d : Int) : (pres l g d).Sublist l := List.filter_sublist
set_option maxHeartbeats 800000 in
theorem week_impl (P : Option Addr) (cap : Nat) (l : List R) (g : Int) (w : World) (hr : Rd w w.heap.size P (flat l)) (hs : Sane l) :
    Calls Try.prog 63 #[.slice P l.length cap, .int .i64 g] w (LPost (week l g) w) := by
  obtain ⟨i0, hi, hz0, hz1, hz2⟩ := info_parts info_int
  have HI := Lib.hid hz2; clear hz2
  have HI1 := Lib.hid hz1; clear hz1
  have HR := Lib.hid hr; clear hr
  have hl12 := hs.1
  have HS := Lib.hid hs; clear hs
  have c1 : i0.bytes * 7 ≤ 281474976710656 := by rw [HI.out]; omega
  have c2 : 7 ≤ maxLen := by unfold maxLen; omega
  go_enter Try.func63, Try.ntmps63
  go_wp2_with (at_make; go_must (refine wpList_make_full _ rfl _ _ 27 rfl w.heap.size 3 i0 _ 1 Try.underlying27 hi hz0 HI1.out _ _ _ _ 7 rfl rfl rfl rfl c1 c2 (Nat.le_refl _) ?_; intro w1 hown1 hg1))
  have HB : Below w.heap.size w w1 := (Below.refl _ w).grown hg1 (Nat.le_refl _) (by intro k hk; cases hk)
  have O : w1.ownsRow w.heap.size 3 1 (.slice (some ⟨w.heap.size, 0, none⟩) 7 7) 7 (iv (weekRow l g 0)) := by
    have e : iv (weekRow l g 0) = List.replicate 7 (.int .i64 0) := by rw [weekRow_0]; rfl
    rw [e]; simpa [Value.cells, toList_madeCells_one] using hown1
  clear hown1 hg1 c1 c2
  go_wp2
  go_loopw [10] (fun i wr => ∃ (k : Nat), k ≤ 7 ∧ i = .int .i64 k ∧ wr.ownsRow w.heap.size 3 1 (.slice (some ⟨w.heap.size, 0, none⟩) 7 7) 7 (iv (weekRow l g k)) ∧ Below w.heap.size w wr) (fun i _ => 7 - (intOf i).toNat)
  case atStart => exact ⟨0, by omega, rfl, O, HB⟩
  case round =>
    clear O HB
    obtain ⟨k, hk, rfl, O, HB⟩ := hrel
    by_cases hlt : k < 7
    · have hki : (k : Int) < 7 := by omega
      go_wp2_with fail
      refine (pres_impl P cap l g k wr ((HR.out.below HB (Nat.le_refl _)).mono HB.size) hl12).mono ?_
      rintro e v1 ⟨A1, a1, rfl, O1, hv⟩
      replace HB := be HB hv
      replace O := own_keep O hv
      clear hv
      go_wp2_with fail
      refine (by_impl A1 a1 (pres l g k) v1 (Rd.of_own O1) (HS.out.sub (pres_sub l g k))).mono ?_
      rintro e v2 ⟨rfl, hv⟩
      replace HB := be HB hv
      replace O := own_keep O hv
      clear hv O1
      have HE := Lib.hid (weekRow_set (l := l) (g := g) hlt)
      have g0 : v2.frozen? ⟨w.heap.size, k, none⟩ = false := O.frozenAt _
      have m0 := row_get O (weekRow_at hlt)
      unfold rakedOn at HE
      generalize raked (pres l g k) = r at HE ⊢
      go_wp2
      go_roundw
      case rel => exact ⟨k + 1, by omega, by go_num, row_set O HE.out, HB.setCell (Nat.le_refl _) _⟩
      case measure => simp [intOf]; omega
    · obtain rfl : k = 7 := by omega
      go_wp2
      go_ret
      exact l_mk (M := week l g) rfl (by rw [week_len] <;> rfl) (by rw [week_len, ← weekRow_7]; exact O) HB
set_option maxHeartbeats 800000 in
theorem all_impl (P : Option Addr) (cap : Nat) (l : List R) (w : World) (hr : Rd w w.heap.size P (flat l)) (hs : Sane l) :
    Calls Try.prog 74 #[.slice P l.length cap] w (RPost (.int .i64 (allOf l)) w) := by
  have HR := Lib.hid hr; clear hr
  have HS := Lib.hid hs; clear hs
  go_enter Try.func74, Try.ntmps74
  go_wp2
  go_loopw [3, 4] (fun s i wr => ∃ (k : Nat) (q : Int), k ≤ 5 ∧ i = .int .i64 ((k : Int) + 1) ∧ s = .int .i64 q ∧ Hid (gangs l k = q) ∧ 0 ≤ q ∧ q ≤ 4200 * k ∧ Below w.heap.size w wr) (fun _ i _ => 6 - (intOf i).toNat)
  case atStart => exact ⟨0, 0, by omega, rfl, rfl, Lib.hid rfl, by omega, by omega, Below.refl _ _⟩
  case round =>
    obtain ⟨k, q, hk, rfl, rfl, HQ, q0, q1, HB⟩ := hrel
    by_cases hlt : k < 5
    · have hki : (k : Int) + 1 ≤ 5 := by omega
      go_wp2_with fail
      refine (week_impl P cap l ((k : Int) + 1) wr ((HR.out.below HB (Nat.le_refl _)).mono HB.size) HS.out).mono ?_
      rintro e v1 ⟨A1, a1, rfl, O1, hv⟩
      replace HB := be HB hv
      clear hv
      go_wp2_with fail
      refine (sum_impl A1 a1 (week l ((k : Int) + 1)) v1 (Rd.of_own O1) (by rw [week_len]; omega) (week_mem HS.out _)).mono ?_
      rintro e v2 ⟨rfl, hv⟩
      replace HB := be HB hv
      clear hv O1
      have hb0 := weekSum_bd HS.out ((k : Int) + 1)
      have HN := Lib.hid (show gangs l (k + 1) = q + weekSum l ((k : Int) + 1) by rw [gangs_snoc, HQ.out])
      unfold weekSum at HN hb0
      generalize (week l ((k : Int) + 1)).sum = r at *
      have y1 : IntKind.i64.wrap (q + r) = q + r := IntWalk.i64_in _ (by omega)
      have HBD := Lib.hid hb0; clear hb0
      go_wp2
      go_roundw
      case rel => exact ⟨k + 1, q + r, by omega, by go_num, rfl, HN, by have := HBD.out; omega, by have := HBD.out; omega, HB⟩
      case measure => simp [intOf]; omega
    · obtain rfl : k = 5 := by omega
      have HE := Lib.hid (show allOf l = q from HQ.out)
      go_wp2
      go_ret
      exact rpost (by rw [HE.out] <;> rfl) HB
end Go.Proofs.Ytdikekecbapcaaa.WorkK
