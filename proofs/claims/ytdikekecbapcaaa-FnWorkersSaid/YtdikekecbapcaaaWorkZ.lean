/- Workers: SpareWorkers, the program's. -/
import Derived.Test.YtdikekecbapcaaaWorkW
import Derived.Test.YtdikekecbapcaaaWorkY
import Derived.Test.YtdikekecbapcaaaWorkP
import Derived.Deep.CutBlock
import Derived.Deep.Cut
import Derived.Deep.DeepCutAuto
import Derived.Deep.RegionWith
import Derived.RegionTactic
import Derived.BigRegion
namespace Go.Proofs.Ytdikekecbapcaaa.WorkZ
open Go.RowKit Go.Proofs.Ytdikekecbapcaaa.Mem Go.Proofs.Ytdikekecbapcaaa.Base Go.Proofs.Ytdikekecbapcaaa.Within Go.Proofs.Ytdikekecbapcaaa.SWorker Go.Proofs.Ytdikekecbapcaaa.SInt Go.Proofs.Ytdikekecbapcaaa.RInt Go.Proofs.Ytdikekecbapcaaa.Regn Go.Proofs.Ytdikekecbapcaaa.Boxes Go.Proofs.Ytdikekecbapcaaa.Keep Go.Proofs.Ytdikekecbapcaaa.Work Go.Proofs.Ytdikekecbapcaaa.Work2 Go.Proofs.Ytdikekecbapcaaa.WorkS Go.Proofs.Ytdikekecbapcaaa.WorkG Go.Proofs.Ytdikekecbapcaaa.WorkR Go.Proofs.Ytdikekecbapcaaa.WorkI Go.Proofs.Ytdikekecbapcaaa.WorkJ Go.Proofs.Ytdikekecbapcaaa.WorkK Go.Proofs.Ytdikekecbapcaaa.WorkL Go.Proofs.Ytdikekecbapcaaa.WorkP Go.Proofs.Ytdikekecbapcaaa.WorkW Go.Proofs.Ytdikekecbapcaaa.WorkY
set_option linter.unusedVariables false
set_option maxRecDepth 100000
theorem blk_lt {w : World} {base : Nat} {e : TypeId} {size n c j : Nat} {A : Option Addr} {xs : List Value} (h : w.ownsRow base e size (.slice A n c) n xs) (hj : (Value.slice A n c).ownBlock = some j) : j < w.heap.size := by
  rcases h.2 with ⟨hv, _⟩ | ⟨g', cap, cur, hv, hb, hh, r⟩
  · rw [hv] at hj; simp [Value.ownBlock] at hj
  · rw [hv] at hj
    have := row_at hj
    subst this
    rcases Nat.lt_or_ge j w.heap.size with hl | hl
    · exact hl
    · rw [Array.getElem?_eq_none hl] at hh; cases hh
theorem flat_pre {p : List R} {k j : Nat} {u : Value} (h : (flat (p.take k))[j]? = some u) : (flat p)[j]? = some u := by
  have e : flat (p.take k) ++ flat (p.drop k) = flat p := by rw [flat_two, List.take_append_drop]
  have hj : j < (flat (p.take k)).length := (List.getElem?_eq_some_iff.1 h).1
  rw [← e, List.getElem?_append_left hj]; exact h
theorem flat_post {p : List R} {k j : Nat} {u : Value} (hk : k ≤ p.length) (h : (flat (p.drop k))[j]? = some u) : (flat p)[k * 5 + j]? = some u := by
  have e : flat (p.take k) ++ flat (p.drop k) = flat p := by rw [flat_two, List.take_append_drop]
  have hl : (flat (p.take k)).length = k * 5 := by rw [flat_n, List.length_take]; omega
  rw [← e, List.getElem?_append_right (by omega), hl, Nat.add_sub_cancel_left]; exact h
theorem own_read {w : World} {base q n c j : Nat} {p : List R} {u : Value} (O : w.ownsRow base 50 5 (.slice (some ⟨q, 0, none⟩) n c) n (flat p)) (h : (flat p)[j]? = some u) : q < w.heap.size ∧ w.cell? ⟨q, j, none⟩ = some u := by
  have hj : j < (flat p).length := (List.getElem?_eq_some_iff.1 h).1
  exact ⟨own_lt O, by rw [O.cellAt j (by have := O.1; omega)]; exact h⟩
/-- the row without one of its workers, joined out of what is before and behind. -/
theorem concat_out {w : World} {base q n c k o2 : Nat} {p : List R} (O : w.ownsRow base 50 5 (.slice (some ⟨q, 0, none⟩) n c) n (flat p)) (hk : k + 1 ≤ p.length) (h12 : p.length ≤ 12) (ho : k + 1 < p.length → o2 = (k + 1) * 5) :
    Calls Try.prog 82 #[.slice (some ⟨w.heap.size, 0, none⟩) 2 2]
      (w.alloc (.cells #[.slice (some ⟨q, 0, none⟩) k c, .slice (some ⟨q, o2, none⟩) (p.length - (k + 1)) (c - (k + 1))] 24))
      (RowPost (p.take k ++ p.drop (k + 1)) (w.alloc (.cells #[.slice (some ⟨q, 0, none⟩) k c, .slice (some ⟨q, o2, none⟩) (p.length - (k + 1)) (c - (k + 1))] 24))) := by
  have B := Box.new (Below.refl _ w) [.slice (some ⟨q, 0, none⟩) k c, .slice (some ⟨q, o2, none⟩) (p.length - (k + 1)) (c - (k + 1))] 24 (g := w.heap.size) rfl
  have O2 := own_keep O (al (Below.refl _ _) (o := .cells #[.slice (some ⟨q, 0, none⟩) k c, .slice (some ⟨q, o2, none⟩) (p.length - (k + 1)) (c - (k + 1))] 24))
  dsimp only [List.toArray] at B
  have hl1 : (p.take k).length = k := by rw [List.length_take]; omega
  have hl2 : (p.drop (k + 1)).length = p.length - (k + 1) := List.length_drop
  have := concat_any [⟨q, 0, c, p.take k⟩, ⟨q, o2, c - (k + 1), p.drop (k + 1)⟩] w.heap.size 0 2 _ B.there ?_ ?_ ?_ (by simp)
  · simpa using this
  · intro j hj
    match j, hj with
    | 0, _ => rw [show (([⟨q, 0, c, p.take k⟩, ⟨q, o2, c - (k + 1), p.drop (k + 1)⟩] : List Seg)[0]).val = .slice (some ⟨q, 0, none⟩) k c by unfold Seg.val; simp [hl1]]; exact B.at0
    | 1, _ => rw [show (([⟨q, 0, c, p.take k⟩, ⟨q, o2, c - (k + 1), p.drop (k + 1)⟩] : List Seg)[1]).val = .slice (some ⟨q, o2, none⟩) (p.length - (k + 1)) (c - (k + 1)) by unfold Seg.val; simp]; exact B.at1
  · intro s hs
    rcases List.mem_cons.1 hs with rfl | hs
    · intro j u hu
      have := own_read O2 (flat_pre hu)
      exact ⟨this.1, by rw [Nat.zero_add]; exact this.2⟩
    · rcases List.mem_singleton.1 hs with rfl
      intro j u hu
      have hne : k + 1 < p.length := by
        rcases Nat.lt_or_ge (k + 1) p.length with h | h
        · exact h
        · have hu2 : (flat (p.drop (k + 1)))[j]? = some u := hu
          rw [List.drop_eq_nil_of_le h] at hu2; simp [flat] at hu2
      have := own_read O2 (flat_post hk hu)
      refine ⟨this.1, ?_⟩
      show World.cell? _ ⟨q, o2 + j, none⟩ = _
      have e : o2 + j = (k + 1) * 5 + j := by rw [ho hne]
      rw [e]; exact this.2
  · unfold lens; simp only [List.flatMap_cons, List.flatMap_nil, List.length_append, List.length_nil, hl1, hl2]; omega
set_option maxHeartbeats 1600000 in
theorem spare_impl (P : Option Addr) (cap : Nat) (l : List R) (g d : Int) (w : World) (hr : Rd w w.heap.size P (flat l)) (hcap : l.length ≤ cap) (hn : l.length ≤ 1048576) :
    Calls Try.prog 35 #[.slice P l.length cap, .int .i64 g, .int .i64 d] w (IPost (spareL l g d) (onOk l g d) w) := by
  obtain ⟨i0, hi, hz0, hz1, hz2⟩ := info_parts info_int
  have HI := Lib.hid hz2; clear hz2
  have HI1 := Lib.hid hz1; clear hz1
  have HR := Lib.hid hr; clear hr
  go_enter Try.func35, Try.ntmps35
  go_wp2_with fail
  refine (are_impl P cap l w HR.out hn).mono ?_
  rintro e w1 ⟨rfl, HB⟩
  cases hg : good l
  · have HV := Lib.hid (on1 (g := g) (d := d) hg)
    have O := RInt.empty_own HB
    go_wp2
    go_ret2
    exact i_mk (sp_no HV.out) HV.out rfl O (al HB)
  have HG := Lib.hid hg; clear hg
  have h12 := (good_all HG.out).1
  cases h1 : inB g 1 5
  · have HV := Lib.hid (on2 (l := l) (d := d) h1)
    have O := RInt.empty_own HB
    go_wp2_with (go_at_call 62; (with_reducible refine (gang_impl _ _).mono ?_); rintro e' w' ⟨rfl, rfl⟩)
    go_ret2
    exact i_mk (sp_no HV.out) HV.out rfl O (al HB)
  cases h2 : inB d 0 4000
  · have HV := Lib.hid (on3 (l := l) (g := g) h2)
    have O := RInt.empty_own HB
    go_wp2_with first | (go_at_call 62; (with_reducible refine (gang_impl _ _).mono ?_); rintro e' w' ⟨rfl, rfl⟩) | (go_at_call 69; (with_reducible refine (within_any _ _ _ _).mono ?_); rintro e' w' ⟨rfl, rfl⟩)
    go_ret2
    exact i_mk (sp_no HV.out) HV.out rfl O (al HB)
  have HV := Lib.hid (on4 HG.out h1 h2)
  go_wp2_with first | (go_at_call 62; (with_reducible refine (gang_impl _ _).mono ?_); rintro e' w' ⟨rfl, rfl⟩) | (go_at_call 69; (with_reducible refine (within_any _ _ _ _).mono ?_); rintro e' w' ⟨rfl, rfl⟩)
  clear h1 h2
  refine (pres_impl P cap l g (day7 d) w1 ((HR.out.below HB (Nat.le_refl _)).mono HB.size) h12).mono ?_
  rintro e v1 ⟨A1, a1, rfl, O1, hv⟩
  have OP := own_base O1 HB.size
  replace HB := be HB hv
  clear O1 hv
  have HP := Lib.hid ((sp_yes HV.out))
  have hpl := (pres_sub l g (day7 d)).length_le
  have HPW := Lib.hid (List.Pairwise.sublist (pres_sub l g (day7 d)) (good_pair HG.out))
  generalize pres l g (day7 d) = p at *
  have HQ := Lib.hid (fun j hj => blk_lt OP (j := j) hj)
  have O := RInt.empty_own (Below.refl v1.heap.size v1)
  obtain ⟨z1, hz1⟩ : ∃ z1, v1.heap.size = z1 := ⟨_, rfl⟩
  have HB1 := al HB (o := .cells #[] 3)
  have HZ0 := Lib.hid (show z1 ≤ (v1.alloc (.cells #[] 3)).heap.size by rw [size_alloc']; omega)
  have OP1 := own_keep OP (al (Below.refl _ _) (o := .cells #[] 3))
  have HZB := Lib.hid (show w.heap.size ≤ z1 by have := HB.size; omega)
  go_wp2
  rw [hz1] at O HQ
  clear hz1
  go_loopw [9, 34] (fun v i wr => ∃ (k : Nat) (L : List Int) (A : Option Addr) (c : Nat), k ≤ p.length ∧ L.length ≤ k ∧ i = .int .i64 k ∧ v = .slice A L.length c ∧ Hid (spares p (p.take k) = L) ∧ wr.ownsRow z1 3 1 (.slice A L.length c) L.length (iv L) ∧ wr.ownsRow w.heap.size 50 5 (.slice A1 p.length a1) p.length (flat p) ∧ Below w.heap.size w wr ∧ z1 ≤ wr.heap.size) (fun _ i _ => p.length - (intOf i).toNat)
  case atStart => exact ⟨0, [], _, _, by omega, Nat.le_refl _, rfl, rfl, Lib.hid rfl, O, OP1, HB1, HZ0.out⟩
  case round =>
    clear O OP1 HB1 HB OP
    obtain ⟨k, L, A, c, hk, hLk, rfl, rfl, HL, O, OP, HB, hzr⟩ := hrel
    by_cases hlt : k < p.length
    · obtain ⟨q, rfl⟩ := WorkP.own_some OP (by omega)
      obtain ⟨x, hx⟩ : ∃ x, p[k] = x := ⟨_, rfl⟩
      obtain ⟨h0, h1, h2, h3, h4⟩ := own5 OP hlt hx
      have HX := Lib.hid hx; clear hx
      have hq := own_lt OP
      have hpa := own_cap OP
      have HLT := Lib.hid hlt
      go_upto_region 8 with fail
      have BX := Box.new HB [.int .i64 x.f0, .int .i64 x.f1, .int .i64 x.f2, .bool x.f3, .int .i64 x.f4] 50 (g := wr.heap.size) rfl
      replace O := own_keep O (al (Below.refl _ _) (o := .cells #[.int .i64 x.f0, .int .i64 x.f1, .int .i64 x.f2, .bool x.f3, .int .i64 x.f4] 50))
      replace OP := own_keep OP (al (Below.refl _ _) (o := .cells #[.int .i64 x.f0, .int .i64 x.f1, .int .i64 x.f2, .bool x.f3, .int .i64 x.f4] 50))
      replace HB := al HB (o := .cells #[.int .i64 x.f0, .int .i64 x.f1, .int .i64 x.f2, .bool x.f3, .int .i64 x.f4] 50)
      dsimp only [List.toArray] at BX
      generalize wr.alloc (.cells #[.int .i64 x.f0, .int .i64 x.f1, .int .i64 x.f2, .bool x.f3, .int .i64 x.f4] 50) = W8 at BX O OP HB ⊢
      generalize wr.heap.size = z8 at BX hq hzr ⊢
      clear h0 h1 h2 h3 h4
      have hka : k ≤ a1 := by omega
      have hkn : k + 1 ≤ p.length := hlt
      have y9 : IntKind.i64.wrap ((k : Int) + 1) = (k : Int) + 1 := IntWalk.i64_in _ (by omega)
      have hk0 : (0 : Int) ≤ (k : Int) + 1 := by omega
      have hk1 : (k : Int) + 1 ≤ (p.length : Int) := by omega
      have hkt : ((k : Int) + 1).toNat = k + 1 := by omega
      obtain ⟨o2, ho2, ho3⟩ : ∃ o2 : Nat, (if a1 = k + 1 then some (⟨q, 0, none⟩ : Addr) else some ⟨q, (k + 1) * 5, none⟩) = some ⟨q, o2, none⟩ ∧ (k + 1 < p.length → o2 = (k + 1) * 5) := by
        by_cases h : a1 = k + 1
        · exact ⟨0, if_pos h, fun h1 => by omega⟩
        · exact ⟨(k + 1) * 5, if_neg h, fun _ => rfl⟩
      have HO2 := Lib.hid ho2; clear ho2
      obtain ⟨v1, hV1⟩ : ∃ V : World, V = W8.drew := ⟨_, rfl⟩
      replace HB : Below w.heap.size w v1 := by rw [hV1]; exact be HB (Below.refl _ _).drew
      replace O : v1.ownsRow (z1) 3 1 (.slice A L.length c) (L.length) (iv L) := by rw [hV1]; exact own_keep O (Below.refl _ _).drew
      replace OP : v1.ownsRow (w.heap.size) 50 5 (.slice (some ⟨q, 0, none⟩) p.length a1) (p.length) (flat p) := by rw [hV1]; exact own_keep OP (Below.refl _ _).drew
      replace BX : Box (z8) ([.int .i64 x.f0, .int .i64 x.f1, .int .i64 x.f2, .bool x.f3, .int .i64 x.f4]) w v1 := by rw [hV1]; exact Box.more BX (Below.refl _ _).drew
      refine wp_region_last 7 (fun w' => v1 = w') (by kernel_rfl) (by kernel_rfl) (by kernel_rfl) hV1 ?_
      clear hV1
      simp only [List.take_succ_cons, List.take_zero]
      iterate 7 (
        apply SeqH.one
        · intro uw K hS hK
          subst hS
          first
            | (go_simp; exact hK.out _ rfl)
        try simp only [Act.put, List.setIfInBounds_toArray, List.set_cons_zero, List.set_cons_succ])
      refine SeqH.rest rfl ?_
      intro uv hS
      subst hS
      simp only [List.drop_succ_cons, List.drop_zero]
      rw [HO2.out]
      go_wp2_with fail
      have HCC := Lib.hid (concat_out (o2 := o2) OP hkn (by omega) ho3)
      clear hka hkn y9 hk0 hk1 hkt ho3
      refine HCC.out.mono ?_
      rintro e v3 ⟨A2, a2, rfl, O2, hv⟩
      replace hv := be (al (Below.refl _ _)) hv
      replace HB := be HB hv
      replace O := own_keep O hv
      replace OP := own_keep OP hv
      replace BX := BX.more hv
      clear hv HCC
      have hpe : (p.take k ++ p.drop (k + 1)).length ≤ 1048576 := by rw [List.length_append, List.length_take, List.length_drop]; omega
      rw [← out_one HPW.out k HLT.out, HX.out] at O2 hpe ⊢
      go_wp2_with fail
      refine (can_impl A2 a2 (p.filter fun y => y.f0 != x.f0) v3 (Rd.of_own O2) hpe).mono ?_
      rintro e v4 ⟨rfl, hv⟩
      replace HB := be HB hv
      replace O := own_keep O hv
      replace OP := own_keep OP hv
      replace BX := BX.more hv
      clear hv O2 hpe
      have m0 := BX.at0
      have mz := BX.there
      have HTS := Lib.hid (show p.take (k + 1) = p.take k ++ [x] by rw [List.take_succ_eq_append_getElem HLT.out, HX.out])
      cases hw : works (p.filter fun y => y.f0 != x.f0)
      · have HN := Lib.hid (show spares p (p.take (k + 1)) = L by rw [HTS.out, spares_no hw, HL.out])
        go_wp2
        go_roundw
        case rel => exact ⟨k + 1, L, A, c, HLT.out, by omega, by go_num, rfl, HN, O, OP, HB, by omega⟩
        case measure => have := HLT.out; simp [intOf]; omega
      · have HN := Lib.hid (show spares p (p.take (k + 1)) = L ++ [x.f0] by rw [HTS.out, spares_yes hw, HL.out])
        have hm1 : L.length + 1 ≤ maxLen := by unfold maxLen; omega
        have hm2 : (L.length + 1) * 8 ≤ 140737488355328 := by omega
        have HZ4 := Lib.hid (show z1 ≤ v4.heap.size by omega)
        go_wp2_with (at_builtin; go_must (refine wpList_append_own _ rfl _ _ 27 rfl z1 3 i0 _ 1 8 Try.underlying27 hi hz0 HI1.out HI.out rfl (by decide) _ L.length _ rfl (O.alloc _) ⟨v4.heap.size, 0, none⟩ 1 1 [.int .i64 x.f0] rfl rfl (cell_one_new _ _ _) (one_cell rfl) hm1 hm2 (by rw [size_alloc']; have := HZ4.out; omega) ?_; intro v' w9 hown1 hgrow _))
        have hz9 : z1 ≤ w9.heap.size := by have := hgrow.size; rw [size_alloc'] at this; have := HZ4.out; omega
        have hB9 := bl_grown (al HB) hgrow (fun j hj => by have := own_ge O j hj; have := HZB.out; omega)
        have OP9 := own_grownN (own_keep OP (al (Below.refl _ _))) hgrow (fun j hj => by have := own_ge O j hj; have := HQ.out q rfl; omega)
        obtain ⟨A3, c3, rfl⟩ := own_form hown1
        have HO1 := row_app (x := x.f0) hown1
        clear hgrow hown1 HB O hm1 hm2 m0 BX OP
        go_wp2
        go_roundw
        case rel => exact ⟨k + 1, L ++ [x.f0], A3, c3, HLT.out, by rw [List.length_append]; simp; omega, by go_num, by rw [List.length_append] <;> rfl, HN, HO1, OP9, hB9, hz9⟩
        case measure => have := HLT.out; simp [intOf]; omega
    · have HE := Lib.hid (HP.out.trans (show spares p p = L by have := HL.out; rwa [List.take_of_length_le (by omega)] at this))
      go_wp2
      go_ret2
      exact i_mk HE.out HV.out rfl (own_base O HZB.out) HB
end Go.Proofs.Ytdikekecbapcaaa.WorkZ
