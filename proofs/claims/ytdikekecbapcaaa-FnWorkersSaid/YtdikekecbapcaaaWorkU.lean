/- Workers: GangSizes, the model's and the program's. -/
import Derived.Test.YtdikekecbapcaaaWorkK
namespace Go.Proofs.Ytdikekecbapcaaa.WorkU
open Go.RowKit Go.Proofs.Ytdikekecbapcaaa.Mem Go.Proofs.Ytdikekecbapcaaa.Base Go.Proofs.Ytdikekecbapcaaa.SWorker Go.Proofs.Ytdikekecbapcaaa.SInt Go.Proofs.Ytdikekecbapcaaa.RInt Go.Proofs.Ytdikekecbapcaaa.Regn Go.Proofs.Ytdikekecbapcaaa.Boxes Go.Proofs.Ytdikekecbapcaaa.Keep Go.Proofs.Ytdikekecbapcaaa.Work Go.Proofs.Ytdikekecbapcaaa.Work2 Go.Proofs.Ytdikekecbapcaaa.WorkS Go.Proofs.Ytdikekecbapcaaa.WorkG Go.Proofs.Ytdikekecbapcaaa.WorkK
set_option linter.unusedVariables false
set_option maxRecDepth 100000
theorem sz_no {l : List R} (h : good l = false) : sizesL l = [] := by unfold sizesL; rw [h]; rfl
theorem sz_yes {l : List R} (h : good l = true) : sizesL l = sizes l := by unfold sizesL; rw [if_pos h]
theorem sz_set {l : List R} {k m : Nat} {x : R} {z : Int} (hk : k < l.length) (hx : l[k] = x) (hm : x.f1 = m) (h : m ≤ 5) (hz : (size (l.take k) m : Int) = z) : (sizes (l.take k)).set m (z + 1) = sizes (l.take (k + 1)) := by
  have := sizes_set hk hx (by omega)
  rw [hm, Int.toNat_natCast, hz] at this
  exact this
theorem size_le (l : List R) (k m : Nat) (h : l.length ≤ 12) : 0 ≤ (size (l.take k) m : Int) ∧ (size (l.take k) m : Int) ≤ 12 := by
  have h1 : size (l.take k) m ≤ (l.take k).length := List.countP_le_length
  rw [List.length_take] at h1
  omega
set_option maxHeartbeats 800000 in
theorem sz_spec (P : Option Addr) (cap : Nat) (l : List R) (w : World) (hr : Rd w w.heap.size P (flat l)) (hn : l.length ≤ 1048576) :
    Calls Try.prog 40 #[.slice P l.length cap] w (IPost (sizesL l) (good l) w) := by
  obtain ⟨i0, hi, hz0, hz1, hz2⟩ := info_parts info_int
  have HI := Lib.hid hz2; clear hz2
  have HI1 := Lib.hid hz1; clear hz1
  have HR := Lib.hid hr; clear hr
  go_enter Try.func40, Try.ntmps40
  go_wp2_with fail
  refine (good_spec P cap l w HR.out hn).mono ?_
  rintro e w1 ⟨rfl, HB⟩
  cases hg : good l
  · have O := RInt.empty_own HB
    have HV := Lib.hid hg; clear hg
    go_wp2
    go_ret2
    exact i_mk (sz_no HV.out) HV.out rfl O (al HB)
  have h12 := (good_all hg).1
  have HG := Lib.hid hg; clear hg
  have c1 : i0.bytes * 6 ≤ 281474976710656 := by rw [HI.out]; omega
  have c2 : 6 ≤ maxLen := by unfold maxLen; omega
  go_wp2_with (at_make; go_must (refine wpList_make_full _ rfl _ _ 27 rfl w.heap.size 3 i0 _ 1 Try.underlying27 hi hz0 HI1.out _ _ _ _ 6 rfl rfl rfl rfl c1 c2 HB.size ?_; intro w2 hown1 hg1))
  obtain ⟨g, hgw⟩ : ∃ g, w1.heap.size = g := ⟨_, rfl⟩
  have HGW := Lib.hid (show w.heap.size ≤ g by have := HB.size; omega)
  replace HB := bl_grown HB hg1 (by intro k hk; cases hk)
  rw [hgw] at hown1 ⊢
  have O : w2.ownsRow w.heap.size 3 1 (.slice (some ⟨g, 0, none⟩) 6 6) 6 (iv (sizes (l.take 0))) := by
    have e : iv (sizes (l.take 0)) = List.replicate 6 (.int .i64 0) := by rw [List.take_zero, sizes_nil]; rfl
    rw [e]; simpa [Value.cells, toList_madeCells_one] using hown1
  clear hown1 hg1 c1 c2 hgw
  go_wp2
  go_loopw [5] (fun i wr => ∃ (k : Nat), k ≤ l.length ∧ i = .int .i64 k ∧ wr.ownsRow w.heap.size 3 1 (.slice (some ⟨g, 0, none⟩) 6 6) 6 (iv (sizes (l.take k))) ∧ Below w.heap.size w wr) (fun i _ => l.length - (intOf i).toNat)
  case atStart => exact ⟨0, Nat.zero_le _, rfl, O, HB⟩
  case round =>
    clear O HB
    obtain ⟨k, hk, rfl, O, HB⟩ := hrel
    by_cases hlt : k < l.length
    · obtain ⟨b, o, rfl, hb, hc⟩ := HR.out.at (k := k * 5) (by rw [flat_n]; omega)
      obtain ⟨x, hx⟩ : ∃ x, l[k] = x := ⟨_, rfl⟩
      obtain ⟨h0, h1, h2, h3, h4⟩ := cells5 HB hb hc hlt hx
      have hx1 : 0 ≤ x.f1 ∧ x.f1 ≤ 5 := by have := okW_true ((good_all HG.out).2 k hlt); rw [hx] at this; omega
      obtain ⟨m, hm⟩ : ∃ m : Nat, x.f1 = m := ⟨x.f1.toNat, by omega⟩
      have hm5 : m ≤ 5 := by omega
      obtain ⟨z, hz⟩ : ∃ z : Int, (size (l.take k) m : Int) = z := ⟨_, rfl⟩
      have hzb := size_le l k m h12
      rw [hz] at hzb
      have m0 := row_get O (v := z) (by rw [sizes_get _ m (by omega), hz])
      have g0 : wr.frozen? ⟨g, m, none⟩ = false := O.frozenAt _
      have HE := Lib.hid (sz_set hlt hx hm hm5 hz)
      have y1 : IntKind.i64.wrap (z + 1) = z + 1 := IntWalk.i64_in _ (by omega)
      have HL := Lib.hid hlt
      rw [hm] at h1
      clear hx1 hm hz hzb h0 h2 h3 h4 hc hx
      go_wp2
      go_roundw
      case rel => exact ⟨k + 1, HL.out, by go_num, row_set O HE.out, HB.setCell (p := ⟨g, m, none⟩) HGW.out _⟩
      case measure => have := HL.out; simp [intOf]; omega
    · have HT := Lib.hid ((sz_yes HG.out).trans (show sizes l = sizes (l.take k) by rw [List.take_of_length_le (by omega)]))
      go_wp2
      go_ret2
      exact i_mk HT.out HG.out (by rw [sizes_len] <;> rfl) (by rw [sizes_len]; exact O) HB
set_option maxHeartbeats 800000 in
theorem sz_impl (P : Option Addr) (cap : Nat) (l : List R) (w : World) (hr : Rd w w.heap.size P (flat l)) (hcap : l.length ≤ cap) (hn : l.length ≤ 1048576) :
    Calls Try.prog 39 #[.slice P l.length cap] w (IPost (sizesL l) (good l) w) := by
  obtain ⟨i0, hi, hz0, hz1, hz2⟩ := info_parts info_int
  have HI := Lib.hid hz2; clear hz2
  have HI1 := Lib.hid hz1; clear hz1
  have HR := Lib.hid hr; clear hr
  go_enter Try.func39, Try.ntmps39
  go_wp2_with fail
  refine (are_impl P cap l w HR.out hn).mono ?_
  rintro e w1 ⟨rfl, HB⟩
  cases hg : good l
  · have O := RInt.empty_own HB
    have HV := Lib.hid hg; clear hg
    go_wp2
    go_ret2
    exact i_mk (sz_no HV.out) HV.out rfl O (al HB)
  have h12 := (good_all hg).1
  have HG := Lib.hid hg; clear hg
  have c1 : i0.bytes * 6 ≤ 281474976710656 := by rw [HI.out]; omega
  have c2 : 6 ≤ maxLen := by unfold maxLen; omega
  go_wp2_with (at_make; go_must (refine wpList_make_full _ rfl _ _ 27 rfl w.heap.size 3 i0 _ 1 Try.underlying27 hi hz0 HI1.out _ _ _ _ 6 rfl rfl rfl rfl c1 c2 HB.size ?_; intro w2 hown1 hg1))
  obtain ⟨g, hgw⟩ : ∃ g, w1.heap.size = g := ⟨_, rfl⟩
  have HGW := Lib.hid (show w.heap.size ≤ g by have := HB.size; omega)
  replace HB := bl_grown HB hg1 (by intro k hk; cases hk)
  rw [hgw] at hown1 ⊢
  have O : w2.ownsRow w.heap.size 3 1 (.slice (some ⟨g, 0, none⟩) 6 6) 6 (iv (sizes (l.take 0))) := by
    have e : iv (sizes (l.take 0)) = List.replicate 6 (.int .i64 0) := by rw [List.take_zero, sizes_nil]; rfl
    rw [e]; simpa [Value.cells, toList_madeCells_one] using hown1
  clear hown1 hg1 c1 c2 hgw
  go_wp2
  go_loopw [14] (fun i wr => ∃ (k : Nat), k ≤ l.length ∧ i = .int .i64 k ∧ wr.ownsRow w.heap.size 3 1 (.slice (some ⟨g, 0, none⟩) 6 6) 6 (iv (sizes (l.take k))) ∧ Below w.heap.size w wr) (fun i _ => l.length - (intOf i).toNat)
  case atStart => exact ⟨0, Nat.zero_le _, rfl, O, HB⟩
  case round =>
    clear O HB
    obtain ⟨k, hk, rfl, O, HB⟩ := hrel
    by_cases hlt : k < l.length
    · obtain ⟨b, o, rfl, hb, hc⟩ := HR.out.at (k := k * 5) (by rw [flat_n]; omega)
      obtain ⟨x, hx⟩ : ∃ x, l[k] = x := ⟨_, rfl⟩
      obtain ⟨h0, h1, h2, h3, h4⟩ := cells5 HB hb hc hlt hx
      have hx1 : 0 ≤ x.f1 ∧ x.f1 ≤ 5 := by have := okW_true ((good_all HG.out).2 k hlt); rw [hx] at this; omega
      obtain ⟨m, hm⟩ : ∃ m : Nat, x.f1 = m := ⟨x.f1.toNat, by omega⟩
      have hm5 : m ≤ 5 := by omega
      obtain ⟨z, hz⟩ : ∃ z : Int, (size (l.take k) m : Int) = z := ⟨_, rfl⟩
      have hzb := size_le l k m h12
      rw [hz] at hzb
      have m0 := row_get O (v := z) (by rw [sizes_get _ m (by omega), hz])
      have hgl := own_lt O
      have g0 : wr.frozen? ⟨g, m, none⟩ = false := O.frozenAt _
      have HE := Lib.hid (sz_set hlt hx hm hm5 hz)
      have y1 : IntKind.i64.wrap (z + 1) = z + 1 := IntWalk.i64_in _ (by omega)
      have HL := Lib.hid hlt
      rw [hm] at h1
      clear hx1 hm hz hzb hc hx
      go_wp2
      go_roundw
      case rel => exact ⟨k + 1, HL.out, by go_num, own_keep (row_set O HE.out) (al (Below.refl _ _)), al (HB.setCell (p := ⟨g, m, none⟩) HGW.out _)⟩
      case measure => have := HL.out; simp [intOf]; omega
    · have HT := Lib.hid ((sz_yes HG.out).trans (show sizes l = sizes (l.take k) by rw [List.take_of_length_le (by omega)]))
      go_wp2
      go_ret2
      exact i_mk HT.out HG.out (by rw [sizes_len] <;> rfl) (by rw [sizes_len]; exact O) HB
end Go.Proofs.Ytdikekecbapcaaa.WorkU
