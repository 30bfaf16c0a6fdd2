/- Workers: SpareWorkers, the model's. -/
import Derived.Test.YtdikekecbapcaaaWorkL
namespace Go.Proofs.Ytdikekecbapcaaa.WorkW
open Go.RowKit Go.Proofs.Ytdikekecbapcaaa.Mem Go.Proofs.Ytdikekecbapcaaa.Base Go.Proofs.Ytdikekecbapcaaa.Within Go.Proofs.Ytdikekecbapcaaa.SWorker Go.Proofs.Ytdikekecbapcaaa.SInt Go.Proofs.Ytdikekecbapcaaa.RInt Go.Proofs.Ytdikekecbapcaaa.Regn Go.Proofs.Ytdikekecbapcaaa.Boxes Go.Proofs.Ytdikekecbapcaaa.Keep Go.Proofs.Ytdikekecbapcaaa.Work Go.Proofs.Ytdikekecbapcaaa.Work2 Go.Proofs.Ytdikekecbapcaaa.WorkS Go.Proofs.Ytdikekecbapcaaa.WorkG Go.Proofs.Ytdikekecbapcaaa.WorkR Go.Proofs.Ytdikekecbapcaaa.WorkI Go.Proofs.Ytdikekecbapcaaa.WorkJ Go.Proofs.Ytdikekecbapcaaa.WorkK Go.Proofs.Ytdikekecbapcaaa.WorkL
set_option linter.unusedVariables false
set_option maxRecDepth 100000
theorem sp_no {l : List R} {g d : Int} (h : onOk l g d = false) : spareL l g d = [] := by unfold spareL; rw [h]; rfl
theorem sp_yes {l : List R} {g d : Int} (h : onOk l g d = true) : spareL l g d = spares (pres l g (day7 d)) (pres l g (day7 d)) := by unfold spareL; rw [if_pos h]
theorem sp_len (l : List R) (g d : Int) : (spareL l g d).length ≤ 100 := by
  unfold spareL
  split
  · rename_i h
    have h1 := spares_len (pres l g (day7 d)) (pres l g (day7 d))
    have h2 := (pres_sub l g (day7 d)).length_le
    have h3 : good l = true := by unfold onOk allOk at h; simp only [Bool.and_eq_true] at h; exact h.1.1
    have := (good_all h3).1
    omega
  · simp
/-- the model's rounds: of the first k workers. -/
def spTo (l : List R) (g e : Int) (k : Nat) : List Int := spares (pres l g e) ((l.take k).filter (here g e))
theorem spTo_end {l : List R} {g e : Int} {k : Nat} (h : l.length ≤ k) : spTo l g e k = spares (pres l g e) (pres l g e) := by
  unfold spTo; rw [List.take_of_length_le h]; rfl
theorem spTo_skip {l : List R} {g e : Int} {k : Nat} {x : R} (hk : k < l.length) (hx : l[k] = x) (h : here g e x = false) : spTo l g e (k + 1) = spTo l g e k := by
  unfold spTo; rw [filter_skip hk hx h]
theorem spTo_yes {l : List R} {g e : Int} {k : Nat} {x : R} (hk : k < l.length) (hx : l[k] = x) (h : here g e x = true) (hw : works (l.filter (less g e x.f0)) = true) : spTo l g e (k + 1) = spTo l g e k ++ [x.f0] := by
  rw [less_pres] at hw
  unfold spTo; rw [filter_yes hk hx h, spares_yes hw]
theorem spTo_no {l : List R} {g e : Int} {k : Nat} {x : R} (hk : k < l.length) (hx : l[k] = x) (h : here g e x = true) (hw : works (l.filter (less g e x.f0)) = false) : spTo l g e (k + 1) = spTo l g e k := by
  rw [less_pres] at hw
  unfold spTo; rw [filter_yes hk hx h, spares_no hw]
set_option maxHeartbeats 1600000 in
theorem spare_spec (P : Option Addr) (cap : Nat) (l : List R) (g d : Int) (w : World) (hr : Rd w w.heap.size P (flat l)) (hn : l.length ≤ 1048576) :
    Calls Try.prog 36 #[.slice P l.length cap, .int .i64 g, .int .i64 d] w (IPost (spareL l g d) (onOk l g d) w) := by
  obtain ⟨i0, hi, hz0, hz1, hz2⟩ := info_parts info_int
  have HI := Lib.hid hz2; clear hz2
  have HI1 := Lib.hid hz1; clear hz1
  have HR := Lib.hid hr; clear hr
  have HB0 : Below w.heap.size w (w.alloc (.cells #[] 3)) := al (Below.refl _ _)
  have O0 := RInt.empty_own (Below.refl w.heap.size w)
  go_enter Try.func36, Try.ntmps36
  go_wp2_with fail
  refine (good_spec P cap l _ ((HR.out.below HB0 (Nat.le_refl _)).mono HB0.size) hn).mono ?_
  rintro e w1 ⟨rfl, hv⟩
  have HB := be HB0 hv
  have O := own_keep O0 hv
  clear HB0 O0 hv
  cases hg : good l
  · have HV := Lib.hid (on1 (g := g) (d := d) hg)
    go_wp2
    go_ret2
    exact i_mk (sp_no HV.out) HV.out rfl O HB
  have HG := Lib.hid hg; clear hg
  have h12 := (good_all HG.out).1
  have HS := Lib.hid (good_sane HG.out)
  cases h1 : inB g 1 5
  · have HV := Lib.hid (on2 (l := l) (d := d) h1)
    go_wp2_with (go_at_call 65; (with_reducible refine (gang_spec _ _).mono ?_); rintro e' w' ⟨rfl, rfl⟩)
    go_ret2
    exact i_mk (sp_no HV.out) HV.out rfl O HB
  cases h2 : inB d 0 4000
  · have HV := Lib.hid (on3 (l := l) (g := g) h2)
    go_wp2_with first | (go_at_call 65; (with_reducible refine (gang_spec _ _).mono ?_); rintro e' w' ⟨rfl, rfl⟩) | (go_at_call 80; (with_reducible refine (day_spec _ _).mono ?_); rintro e' w' ⟨rfl, rfl⟩)
    go_ret2
    exact i_mk (sp_no HV.out) HV.out rfl O HB
  have HV := Lib.hid (on4 HG.out h1 h2)
  have HD := Lib.hid (day_in d h2)
  obtain ⟨e7, he7⟩ : ∃ e7, day7 d = e7 := ⟨_, rfl⟩
  have y0 : d.tmod 7 = e7 := he7
  have HE7 := Lib.hid he7; clear he7
  go_wp2_with first | (go_at_call 65; (with_reducible refine (gang_spec _ _).mono ?_); rintro e' w' ⟨rfl, rfl⟩) | (go_at_call 80; (with_reducible refine (day_spec _ _).mono ?_); rintro e' w' ⟨rfl, rfl⟩)
  clear h1 h2
  go_loopw [8, 9] (fun v i wr => ∃ (k : Nat) (L : List Int) (A : Option Addr) (c : Nat), k ≤ l.length ∧ L.length ≤ k ∧ i = .int .i64 k ∧ v = .slice A L.length c ∧ Hid (spTo l g e7 k = L) ∧ wr.ownsRow w.heap.size 3 1 (.slice A L.length c) L.length (iv L) ∧ Below w.heap.size w wr) (fun _ i _ => l.length - (intOf i).toNat)
  case atStart => exact ⟨0, [], _, _, by omega, Nat.le_refl _, rfl, rfl, Lib.hid rfl, O, HB⟩
  case round =>
    clear O HB
    obtain ⟨k, L, A, c, hk, hLk, rfl, rfl, HL, O, HB⟩ := hrel
    by_cases hlt : k < l.length
    · obtain ⟨b, o, rfl, hb, hc⟩ := HR.out.at (k := k * 5) (by rw [flat_n]; omega)
      obtain ⟨x, hx⟩ : ∃ x, l[k] = x := ⟨_, rfl⟩
      obtain ⟨h0, h1, h2, h3, h4⟩ := cells5 HB hb hc hlt hx
      have HX := Lib.hid hx; clear hx hc
      have HLT := Lib.hid hlt
      have HT := Lib.hid (show here g e7 x = (x.f1 == g && x.f4 != e7) from rfl)
      cases c1 : (x.f1 == g)
      · have hne : (x.f1 != g) = true := by simp [bne, c1]
        have HN := Lib.hid ((spTo_skip HLT.out HX.out (by rw [HT.out, c1]; rfl)).trans HL.out)
        go_wp2
        go_roundw
        case rel => exact ⟨k + 1, L, A, c, HLT.out, by omega, by go_num, rfl, HN, own_keep O (al (Below.refl _ _)), al HB⟩
        case measure => have := HLT.out; simp [intOf]; omega
      have hne : (x.f1 != g) = false := by simp [bne, c1]
      cases c2 : (x.f4 == e7)
      · have HH := Lib.hid (show here g e7 x = true by rw [HT.out, c1]; simp [bne, c2])
        clear HT c1
        have HBA := Lib.hid (al HB (o := .cells #[.int .i64 x.f0, .int .i64 x.f1, .int .i64 x.f2, .bool x.f3, .int .i64 x.f4] 50))
        have HOA := Lib.hid (own_keep O (al (Below.refl _ _) (o := .cells #[.int .i64 x.f0, .int .i64 x.f1, .int .i64 x.f2, .bool x.f3, .int .i64 x.f4] 50)))
        have HBX := Lib.hid (Box.new HB [.int .i64 x.f0, .int .i64 x.f1, .int .i64 x.f2, .bool x.f3, .int .i64 x.f4] 50 (g := wr.heap.size) rfl)
        clear O HB
        go_wp2_with fail
        clear h0 h1 h2 h3 h4 c2 hne
        refine (raked_spec _ cap l g e7 x.f0 _ ((HR.out.below HBA.out (Nat.le_refl _)).mono HBA.out.size) HS.out).mono ?_
        rintro e v1 ⟨rfl, hv⟩
        have HB := be HBA.out hv
        have O := own_keep HOA.out hv
        have BX := HBX.out.more hv
        obtain ⟨z, hz⟩ : ∃ z, wr.heap.size = z := ⟨_, rfl⟩
        rw [hz] at BX
        try rw [hz]
        clear hv HBA HOA HBX hz
        have m0 := BX.at0
        have mz := BX.there
        unfold rkV
        cases hw : works (l.filter (less g e7 x.f0))
        · have HN := Lib.hid ((spTo_no HLT.out HX.out HH.out hw).trans HL.out)
          go_wp2
          go_roundw
          case rel => exact ⟨k + 1, L, A, c, HLT.out, by omega, by go_num, rfl, HN, O, HB⟩
          case measure => have := HLT.out; simp [intOf]; omega
        · have HN := Lib.hid ((spTo_yes HLT.out HX.out HH.out hw).trans (by rw [HL.out]))
          have hm1 : L.length + 1 ≤ maxLen := by unfold maxLen; omega
          have hm2 : (L.length + 1) * 8 ≤ 140737488355328 := by omega
          go_wp2_with (at_builtin; go_must (refine wpList_append_own _ rfl _ _ 27 rfl w.heap.size 3 i0 _ 1 8 Try.underlying27 hi hz0 HI1.out HI.out rfl (by decide) _ L.length _ rfl (O.alloc _) ⟨v1.heap.size, 0, none⟩ 1 1 [.int .i64 x.f0] rfl rfl (cell_one_new _ _ _) (one_cell rfl) hm1 hm2 (by rw [size_alloc']; have := HB.size; omega) ?_; intro v' w9 hown1 hgrow _))
          have hB9 := below_append HB O hgrow
          obtain ⟨A1, c1, rfl⟩ := own_form hown1
          have HO1 := row_app (x := x.f0) hown1
          clear hgrow hown1 HB O hm1 hm2 m0 BX
          go_wp2
          go_roundw
          case rel => exact ⟨k + 1, L ++ [x.f0], A1, c1, HLT.out, by rw [List.length_append]; simp; omega, by go_num, by rw [List.length_append] <;> rfl, HN, HO1, hB9⟩
          case measure => have := HLT.out; simp [intOf]; omega
      · have HN := Lib.hid ((spTo_skip HLT.out HX.out (by rw [HT.out]; simp [bne, c2])).trans HL.out)
        go_wp2
        go_roundw
        case rel => exact ⟨k + 1, L, A, c, HLT.out, by omega, by go_num, rfl, HN, own_keep O (al (Below.refl _ _)), al HB⟩
        case measure => have := HLT.out; simp [intOf]; omega
    · have HE := Lib.hid ((sp_yes HV.out).trans (show spares (pres l g (day7 d)) (pres l g (day7 d)) = L by rw [HE7.out, ← spTo_end (show l.length ≤ k by omega)]; exact HL.out))
      go_wp2
      go_ret2
      exact i_mk HE.out HV.out rfl O HB
end Go.Proofs.Ytdikekecbapcaaa.WorkW
