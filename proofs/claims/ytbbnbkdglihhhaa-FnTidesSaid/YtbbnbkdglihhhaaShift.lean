/- ShiftTide: the model's and the program's. -/
import Derived.Test.YtbbnbkdglihhhaaRMark
namespace Go.Proofs.Ytbbnbkdglihhhaa.Shift
open Go.RowKit Go.Proofs.Ytbbnbkdglihhhaa.Mem Go.Proofs.Ytbbnbkdglihhhaa.Base Go.Proofs.Ytbbnbkdglihhhaa.Within Go.Proofs.Ytbbnbkdglihhhaa.SMark Go.Proofs.Ytbbnbkdglihhhaa.Regn Go.Proofs.Ytbbnbkdglihhhaa.Boxes Go.Proofs.Ytbbnbkdglihhhaa.Tide Go.Proofs.Ytbbnbkdglihhhaa.Tide2 Go.Proofs.Ytbbnbkdglihhhaa.Keep Go.Proofs.Ytbbnbkdglihhhaa.MClone Go.Proofs.Ytbbnbkdglihhhaa.RMark
set_option linter.unusedVariables false
set_option maxRecDepth 100000
def sh (l : List R) (d : Int) : List R := l.map fun x => ⟨x.f0, x.f1 + d⟩
theorem sh_len (l : List R) (d : Int) : (sh l d).length = l.length := by simp [sh]
def shTo (l : List R) (d : Int) (k : Nat) : List R := (sh l d).take k ++ l.drop k
theorem shTo_zero (l : List R) (d : Int) : shTo l d 0 = l := by simp [shTo]
theorem shTo_full (l : List R) (d : Int) : shTo l d l.length = sh l d := by unfold shTo; rw [List.drop_length, List.append_nil, ← sh_len l d, List.take_length]
theorem shTo_len (l : List R) (d : Int) (k : Nat) (h : k ≤ l.length) : (shTo l d k).length = l.length := by simp [shTo, sh_len]; omega
theorem shTo_at (l : List R) (d : Int) (k : Nat) (h : k < l.length) (h' : k < (shTo l d k).length) : (shTo l d k)[k] = l[k] := by
  have e : (shTo l d k)[k]? = l[k]? := by
    unfold shTo
    have hlen : ((sh l d).take k).length = k := by rw [List.length_take, sh_len]; omega
    rw [List.getElem?_append_right (by omega), hlen, List.getElem?_drop]
    congr 1; omega
  rw [List.getElem?_eq_getElem h', List.getElem?_eq_getElem h] at e
  exact Option.some.inj e
theorem shTo_set (l : List R) (d : Int) (k : Nat) (h : k < l.length) : (shTo l d k).set k ⟨l[k].f0, l[k].f1 + d⟩ = shTo l d (k + 1) := by
  unfold shTo
  have hlen : ((sh l d).take k).length = k := by rw [List.length_take, sh_len]; omega
  rw [List.set_append_right _ _ (by omega), hlen, Nat.sub_self, List.take_succ_eq_append_getElem (by rw [sh_len]; exact h), List.drop_eq_getElem_cons h, List.set_cons_zero, List.append_assoc]
  simp [sh]
theorem sh_snoc (l : List R) (d : Int) (k : Nat) (h : k < l.length) : (sh l d).take (k + 1) = (sh l d).take k ++ [⟨l[k].f0, l[k].f1 + d⟩] := by
  rw [List.take_succ_eq_append_getElem (by rw [sh_len]; exact h)]; simp [sh]
def shOk (l : List R) (d : Int) : Bool := good l && inB d (-1000) 1000 && good (sh l d)
def shL (l : List R) (d : Int) : List R := if shOk l d = true then sh l d else []
theorem shL_no {l : List R} {d : Int} (h : shOk l d = false) : shL l d = [] := by unfold shL; rw [h]; rfl
theorem shL_yes {l : List R} {d : Int} (h : shOk l d = true) : shL l d = sh l d := by unfold shL; rw [if_pos h]
theorem ok_bad {l : List R} {d : Int} (h : good l = false) : shOk l d = false := by unfold shOk; rw [h]; rfl
theorem ok_far {l : List R} {d : Int} (h : inB d (-1000) 1000 = false) : shOk l d = false := by unfold shOk; rw [h]; simp
theorem ok_in {l : List R} {d : Int} (h : good l = true) (h1 : inB d (-1000) 1000 = true) : shOk l d = good (sh l d) := by unfold shOk; rw [h, h1]; rfl
set_option maxHeartbeats 1000000 in
theorem shift_impl (P : Option Addr) (cap : Nat) (l : List R) (d : Int) (w : World) (hr : Rd w w.heap.size P (flat l)) (hcap : l.length ≤ cap) (hn : l.length ≤ 1048576) :
    Calls Try.prog 44 #[.slice P l.length cap, .int .i64 d] w (MPost (shL l d) (shOk l d) w) := by
  have HR := Lib.hid hr; clear hr
  go_enter Try.func44, Try.ntmps44
  go_wp2_with fail
  refine (tide_impl P cap l w HR.out hn).mono ?_
  rintro e w1 ⟨rfl, HB⟩
  cases hg : good l
  · have HE := Lib.hid (ok_bad (d := d) hg)
    go_wp2
    go_ret2
    exact m_mk (shL_no HE.out) HE.out rfl (empty_own HB) (al HB)
  have HG := Lib.hid hg
  cases hd : inB d (-1000) 1000
  · have HE := Lib.hid (ok_far (l := l) hd)
    go_wp2_with fail
    refine (within_any _ _ _ _).mono ?_
    rintro e _ ⟨rfl, rfl⟩
    rw [hd]
    go_wp2
    go_ret2
    exact m_mk (shL_no HE.out) HE.out rfl (empty_own HB) (al HB)
  have HE := Lib.hid (ok_in hg hd)
  have hdb := of_inB hd
  go_wp2_with fail
  refine (within_any _ _ _ _).mono ?_
  rintro e _ ⟨rfl, rfl⟩
  rw [hd]
  clear hg hd
  go_wp2_with fail
  refine (clone_any P cap l _ (rd_keep HR.out HB) hn).mono ?_
  rintro e w2 ⟨A, c, rfl, O, hv⟩
  replace O := own_base O HB.size
  replace HB := be HB hv
  clear hv
  have hl2 := (good_true HG.out).1
  obtain ⟨g, c', hA⟩ := own_some O (by omega)
  obtain ⟨rfl, rfl⟩ := hA
  have HGR := Lib.hid (own_ge O g (by simp [Value.ownBlock]))
  go_wp2
  go_loopw [21] (fun i wr => ∃ k : Nat, k ≤ l.length ∧ i = .int .i64 k ∧ wr.ownsRow w.heap.size 95 2 (.slice (some ⟨g, 0, none⟩) l.length c) l.length (flat (shTo l d k)) ∧ Below w.heap.size w wr) (fun i _ => l.length - (intOf i).toNat)
  case atStart => exact ⟨0, Nat.zero_le _, rfl, by rw [shTo_zero]; exact O, HB⟩
  case round =>
    clear HB O
    obtain ⟨k, hk, rfl, O, HB⟩ := hrel
    by_cases hlt : k < l.length
    · have hz := shTo_len l d k hk
      have hat := shTo_at l d k hlt (by omega)
      have hm := (good_true HG.out).2.2.2.2 k hlt
      rw [at_get hlt] at hm
      obtain ⟨x, hx⟩ : ∃ x, l[k] = x := ⟨_, rfl⟩
      rw [hx] at hm
      have h1 : wr.cell? ⟨g, k * 2 + 1, none⟩ = some (.int .i64 x.f1) := by
        rw [O.cellAt (k * 2 + 1) (by omega), flat_1 _ k (by omega), hat, hx]
      have f1 : wr.frozen? ⟨g, k * 2 + 1, none⟩ = false := O.frozenAt _
      have q1 : IntKind.i64.wrap (x.f1 + d) = x.f1 + d := IntWalk.i64_in _ (by omega)
      have O1 : (wr.setCell ⟨g, k * 2 + 1, none⟩ (.int .i64 (x.f1 + d))).ownsRow w.heap.size 95 2 (.slice (some ⟨g, 0, none⟩) l.length c) l.length (flat (shTo l d (k + 1))) := by
        have := (O.stored (k * 2 + 1) (.int .i64 (x.f1 + d))).1
        rw [flat_set1 _ k _ (by omega), hat, hx] at this
        have e := shTo_set l d k hlt
        rw [hx] at e
        rw [e] at this
        exact this
      have HB1 : Below w.heap.size w (wr.setCell ⟨g, k * 2 + 1, none⟩ (.int .i64 (x.f1 + d))) := HB.setCell (p := ⟨g, _, none⟩) HGR.out _
      clear hm hx hat hz O HB
      go_wp2
      go_roundw
      case rel => exact ⟨k + 1, hlt, by go_num, O1, HB1⟩
      case measure => simp [intOf]; omega
    · obtain rfl : k = l.length := by omega
      rw [shTo_full] at O
      have hln := sh_len l d
      go_wp2_with fail
      have HR2 := Rd.of_own O
      have HT := tide_impl (some ⟨g, 0, none⟩) c (sh l d) wr HR2 (by omega)
      rw [hln] at HT
      refine HT.mono ?_
      rintro e w3 ⟨rfl, hv⟩
      replace O := own_keep O hv
      replace HB := be HB hv
      clear hv HR2 HT
      cases hg : good (sh l d)
      · have HE1 := Lib.hid (HE.out.trans hg)
        go_wp2
        go_ret2
        exact m_mk (shL_no HE1.out) HE1.out rfl (empty_own HB) (al HB)
      · have HE1 := Lib.hid (HE.out.trans hg)
        have O2 : w3.ownsRow w.heap.size 95 2 (.slice (some ⟨g, 0, none⟩) (sh l d).length c) (sh l d).length (flat (sh l d)) := by rw [hln]; exact O
        go_wp2
        go_ret2
        exact m_mk (shL_yes HE1.out) HE1.out (by rw [hln] <;> rfl) O2 HB
set_option maxHeartbeats 1000000 in
theorem shift_spec (P : Option Addr) (cap : Nat) (l : List R) (d : Int) (w : World) (hr : Rd w w.heap.size P (flat l)) (hn : l.length ≤ 1048576) :
    Calls Try.prog 45 #[.slice P l.length cap, .int .i64 d] w (MPost (shL l d) (shOk l d) w) := by
  obtain ⟨i0, hi0, hz0, hz1, hz2⟩ := info_parts info_T
  have HI := Lib.hid hz2; clear hz2
  have HI1 := Lib.hid hz1; clear hz1
  have HR := Lib.hid hr; clear hr
  go_enter Try.func45, Try.ntmps45
  go_wp2_with fail
  have O := empty_own (Below.refl _ w)
  have HB : Below w.heap.size w (w.alloc (.cells #[] 95)) := al (Below.refl _ w)
  generalize w.alloc (.cells #[] 95) = V at O HB ⊢
  refine (good_spec P cap l V (rd_keep HR.out HB) hn).mono ?_
  rintro e w1 ⟨rfl, hv⟩
  replace O := own_keep O hv
  replace HB := be HB hv
  clear hv
  cases hg : good l
  · have HE := Lib.hid (ok_bad (d := d) hg)
    go_wp2
    go_ret2
    exact m_mk (shL_no HE.out) HE.out rfl O HB
  have HG := Lib.hid hg
  cases hd : inB d (-1000) 1000
  · have HE := Lib.hid (ok_far (l := l) hd)
    go_wp2_with fail
    refine (in_any _ _ _ _).mono ?_
    rintro e _ ⟨rfl, rfl⟩
    rw [hd]
    go_wp2
    go_ret2
    exact m_mk (shL_no HE.out) HE.out rfl O HB
  have HE := Lib.hid (ok_in hg hd)
  have hdb := of_inB hd
  have hl12 := (good_true HG.out).2.1
  go_wp2_with fail
  refine (in_any _ _ _ _).mono ?_
  rintro e _ ⟨rfl, rfl⟩
  rw [hd]
  clear hg hd
  go_wp2
  go_loopw [6, 7] (fun p i wr => ∃ (k : Nat) (M : List R) (A : Option Addr) (c : Nat), k ≤ l.length ∧ i = .int .i64 k ∧ p = .slice A M.length c ∧ Hid ((sh l d).take k = M) ∧ M.length ≤ k ∧ wr.ownsRow w.heap.size 95 2 (.slice A M.length c) M.length (flat M) ∧ Below w.heap.size w wr) (fun _ i _ => l.length - (intOf i).toNat)
  case atStart => exact ⟨0, [], _, _, Nat.zero_le _, rfl, rfl, Lib.hid rfl, Nat.le_refl _, O, HB⟩
  case round =>
    clear HB O
    obtain ⟨k, M, A, c, hk, rfl, rfl, HL0, hLk, O, HB⟩ := hrel
    by_cases hlt : k < l.length
    · obtain ⟨b, o, rfl, hb, hc⟩ := rd2 HR.out hlt
      obtain ⟨h0, h1⟩ := hc k hlt
      have hm := (good_true HG.out).2.2.2.2 k hlt
      rw [at_get hlt] at hm h0 h1
      obtain ⟨x, hx⟩ : ∃ x, l[k] = x := ⟨_, rfl⟩
      rw [hx] at hm h0 h1
      have HT := Lib.hid (show (sh l d).take (k + 1) = M ++ [⟨x.f0, x.f1 + d⟩] by rw [sh_snoc l d k hlt, HL0.out, hx])
      have q1 : IntKind.i64.wrap (x.f1 + d) = x.f1 + d := IntWalk.i64_in _ (by omega)
      have hm1 : M.length + 1 ≤ maxLen := by unfold maxLen; omega
      have hm2 : (M.length + 1) * 16 ≤ 140737488355328 := by omega
      clear hc hx hm
      have h0_c := ((bcell HB).1 _ _ hb).trans h0
      have h1_c := ((bcell HB).1 _ _ hb).trans h1
      go_wp2_with fail
      clear h0_c
      clear h1_c
      obtain ⟨v3, hV3⟩ : ∃ V : World, V = wr.drew := ⟨_, rfl⟩
      replace HB : Below w.heap.size w v3 := by rw [hV3]; exact be HB (Below.refl _ _).drew
      replace O : v3.ownsRow (w.heap.size) 95 2 (.slice A M.length c) (M.length) (flat M) := by rw [hV3]; exact own_keep O (Below.refl _ _).drew
      refine wp_region_tail 15 (fun L w' => Pin (L 14) v3 (v3.alloc (.cells #[.int .i64 x.f0, .int .i64 (x.f1 + d)] 95)) w') (by kernel_rfl) (by kernel_rfl) (by kernel_rfl) (by rw [← hV3]; exact Pin.start _ _) ?_
      clear hV3
      have h0_c := ((bcell HB).1 _ _ hb).trans h0
      have h1_c := ((bcell HB).1 _ _ hb).trans h1
      simp only [List.take_succ_cons, List.take_zero]
      iterate 15 (
        apply SeqH.op
        · intro L uw K hN hS hK
          first
            | (go_simp; exact hK.out _ (hS.skip (by decide)))
            | (have hE := (hS.2 (hN.out 14 (by decide +kernel))).symm; subst hE; clear hN; first | (go_simp; exact hK.out _ (hS.skip (by decide))) | (go_simp; exact hK.out _ Pin.put))
            | (rcases hS.two with hE | hE <;> (subst hE; clear hN; first | (go_simp; exact hK.out _ (hS.skip (by decide)))))
        try simp only [Act.put, List.setIfInBounds_toArray, List.set_cons_zero, List.set_cons_succ])
      refine SeqH.rest' rfl ?_
      intro L uv hL hS
      have hE := (hS.1 (hL 14 (by decide))).symm
      subst hE
      clear hS hL
      simp only [List.drop_succ_cons, List.drop_zero]
      go_wp2_with (at_builtin; go_must (refine wpList_append_own _ rfl _ _ 37 rfl w.heap.size 95 i0 _ 2 16 Try.underlying37 hi0 hz0 HI1.out HI.out rfl (by decide) _ M.length _ rfl (own_keep O (al (Below.refl _ _))) ⟨v3.heap.size, 0, none⟩ 1 1 [.int .i64 x.f0, .int .i64 (x.f1 + d)] rfl rfl (new2 v3 ⟨x.f0, x.f1 + d⟩) (one2 ⟨x.f0, x.f1 + d⟩) hm1 hm2 (by rw [size_alloc']; have := HB.size; omega) ?_; intro v' w9 hown1 hgrow _))
      have hB9 := below_append HB O hgrow
      obtain ⟨A1, c1, rfl⟩ := own_form hown1
      have HO1 := row_app (x := ⟨x.f0, x.f1 + d⟩) hown1
      clear hgrow hown1 HB O hm1 hm2 h0_c h1_c h0 h1
      go_wp2
      go_roundw
      case rel => exact ⟨k + 1, M ++ [⟨x.f0, x.f1 + d⟩], A1, c1, hlt, by go_num, by rw [List.length_append] <;> rfl, HT, by rw [List.length_append]; simp; omega, HO1, hB9⟩
      case measure => simp [intOf]; omega
    · obtain rfl : k = l.length := by omega
      have hls := HL0.out
      rw [List.take_of_length_le (by rw [sh_len]; omega)] at hls
      subst hls
      have hln := sh_len l d
      clear HL0
      have HR2 := Rd.of_own O
      have HT := Lib.hid (good_spec A c (sh l d) wr HR2 (by omega))
      rw [hln] at HT O
      have HLN := Lib.hid hln
      rw [hln]
      clear hln HR2
      go_wp2_with fail
      refine HT.out.mono ?_
      rintro e w3 ⟨rfl, hv⟩
      replace O := own_keep O hv
      replace HB := be HB hv
      clear hv
      cases hg : good (sh l d)
      · have HE1 := Lib.hid (HE.out.trans hg)
        go_wp2
        go_ret2
        exact m_mk (shL_no HE1.out) HE1.out rfl (empty_own HB) (al HB)
      · have HE1 := Lib.hid (HE.out.trans hg)
        have O2 : w3.ownsRow w.heap.size 95 2 (.slice A (sh l d).length c) (sh l d).length (flat (sh l d)) := by rw [HLN.out]; exact O
        go_wp2
        go_ret2
        exact m_mk (shL_yes HE1.out) HE1.out (by rw [HLN.out] <;> rfl) O2 HB
end Go.Proofs.Ytbbnbkdglihhhaa.Shift
