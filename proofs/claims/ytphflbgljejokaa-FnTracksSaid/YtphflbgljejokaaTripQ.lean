/- slices.SortFunc over a short row of crossings, its comparison the closure impl.crossingsOn$1. Made by tools/mk_tripq.py. -/
import Derived.Test.YtphflbgljejokaaTripC
import Derived.Deep.Cut
import Derived.Deep.CutBlock
import Derived.Deep.DeepCutAuto
namespace Go.Proofs.Ytphflbgljejokaa.TripQ
open Go.RowKit Go.Proofs.Ytphflbgljejokaa.Mem Go.Proofs.Ytphflbgljejokaa.Base Go.Proofs.Ytphflbgljejokaa.Boxes Go.Proofs.Ytphflbgljejokaa.Keep Go.Proofs.Ytphflbgljejokaa.Regn Go.Proofs.Ytphflbgljejokaa.TripC
set_option linter.unusedVariables false
set_option linter.unusedSimpArgs false
set_option maxRecDepth 100000
def RPost (v : Value) (w : World) (e : Ending) (w' : World) : Prop := e = .returned v ∧ Below w.heap.size w w'
theorem cell_kept {w w' : World} {b o : Nat} {v : Value} (h : w.cell? ⟨b, o, none⟩ = some v) (hb : Below w.heap.size w w') : w'.cell? ⟨b, o, none⟩ = some v :=
  ((bcell hb).1 _ _ (World.block_lt_of_cell? w ⟨b, o, none⟩ h)).trans h
theorem sz_keep {w w' : World} {T : Nat} (h : T ≤ w.heap.size) (hb : Below w.heap.size w w') : T ≤ w'.heap.size := Nat.le_trans h hb.size
theorem lower {w w' : World} {B B' : Nat} (h : Below B w w') (hl : B' ≤ B) : Below B' w w' := ⟨h.os, h.tape, h.output, h.size, fun k hk => h.block k (by omega)⟩
theorem below_keep {w w' w0 : World} {T : Nat} (ht : T ≤ w0.heap.size) (h : Below T w0 w) (hb : Below w.heap.size w w') : Below T w0 w' := h.trans (lower hb (Nat.le_trans ht h.size))
/-- a row of crossings of section s, by the minutes of entering. -/
def mk (s : Int) (e : Int) : C := ⟨s, e, e + 4⟩
def ev (s : Int) (E : List Int) : List Value := cflat (E.map (mk s))
theorem ev_len (s : Int) (E : List Int) : (ev s E).length = E.length * 3 := by unfold ev; rw [cflat_n, List.length_map]
theorem ev_at {s : Int} {E : List Int} {k : Nat} {e : Int} (h : E[k]? = some e) : (ev s E)[k * 3]? = some (.int .i64 s) ∧ (ev s E)[k * 3 + 1]? = some (.int .i64 e) ∧ (ev s E)[k * 3 + 2]? = some (.int .i64 (e + 4)) := by
  have hk : k < E.length := by
    rcases Nat.lt_or_ge k E.length with h1 | h1
    · exact h1
    · rw [List.getElem?_eq_none h1] at h; cases h
  have hk2 : k < (E.map (mk s)).length := by rw [List.length_map]; exact hk
  have he : E[k] = e := by rw [List.getElem?_eq_getElem hk] at h; exact Option.some.inj h
  have hm : (E.map (mk s))[k] = mk s e := by rw [List.getElem_map, he]
  have h0 := cflat_0 _ k hk2; have h1 := cflat_1 _ k hk2; have h2 := cflat_2 _ k hk2
  rw [hm] at h0 h1 h2
  exact ⟨h0, h1, h2⟩
theorem ev_set {s : Int} {E : List Int} {k : Nat} {e : Int} (h : k < E.length) : (((ev s E).set (k * 3) (.int .i64 s)).set (k * 3 + 1) (.int .i64 e)).set (k * 3 + 2) (.int .i64 (e + 4)) = ev s (E.set k e) := by
  unfold ev cflat
  refine flat_ext C.cells 3 (fun _ => rfl) _ _ (by rw [List.length_set, List.length_set, List.length_set]; show (cflat _).length = _; rw [cflat_n]; simp) fun i j hi hj => ?_
  have hi' : i < E.length := by simpa using hi
  have hi2 : i < (E.map (mk s)).length := by simpa using hi'
  have hb := flat_get C.cells 3 (fun _ => rfl) (E.map (mk s)) i j hi2 hj
  have hlen : ((E.map (mk s)).flatMap C.cells).length = E.length * 3 := by have := cflat_n (E.map (mk s)); rw [List.length_map] at this; exact this
  by_cases hik : i = k
  · subst hik
    have e1 : ((E.set i e).map (mk s))[i] = mk s e := by simp
    rw [e1]
    match j, hj with
    | 0, _ => simp [List.getElem?_set, C.cells, mk, hlen]; omega
    | 1, _ => simp [List.getElem?_set, C.cells, mk, hlen]; omega
    | 2, _ => simp [List.getElem?_set, C.cells, mk, hlen]; omega
  · have e1 : ((E.set k e).map (mk s))[i] = (E.map (mk s))[i] := by simp [List.getElem_set_ne (fun h9 => hik h9.symm)]
    rw [e1, ← hb, List.getElem?_set_ne (by omega), List.getElem?_set_ne (by omega), List.getElem?_set_ne (by omega)]
/-- where x goes among the first j of p. -/
def posI (p : List Int) (x : Int) : Nat → Nat
  | 0 => 0
  | j + 1 => if x < p.getD j 0 then posI p x j else j + 1
def insI (p : List Int) (x : Int) : List Int := p.take (posI p x p.length) ++ x :: p.drop (posI p x p.length)
def sortI (l : List Int) : List Int := l.foldl insI []
theorem posI_le (p : List Int) (x : Int) : ∀ j, posI p x j ≤ j
  | 0 => Nat.le_refl _
  | j + 1 => by
    unfold posI
    split
    · exact Nat.le_succ_of_le (posI_le p x j)
    · exact Nat.le_refl _
theorem insI_len (p : List Int) (x : Int) : (insI p x).length = p.length + 1 := by
  have := posI_le p x p.length
  unfold insI; simp; omega
theorem sortI_snoc (l : List Int) (x : Int) : sortI (l ++ [x]) = insI (sortI l) x := by unfold sortI; rw [List.foldl_append]; rfl
theorem sortI_len (l : List Int) : (sortI l).length = l.length := by
  have h : ∀ (l p : List Int), (l.foldl insI p).length = p.length + l.length := by
    intro l
    induction l with
    | nil => intro p; simp
    | cons a l ih => intro p; rw [List.foldl_cons, ih, insI_len]; simp; omega
  unfold sortI; rw [h]; simp
def mid (p : List Int) (x : Int) (rest : List Int) (j : Nat) : List Int := p.take j ++ x :: (p.drop j ++ rest)
theorem mid_len (p : List Int) (x : Int) (rest : List Int) (j : Nat) : (mid p x rest j).length = p.length + rest.length + 1 := by unfold mid; simp; omega
theorem mid_x {p : List Int} {x : Int} {rest : List Int} {j : Nat} (hj : j ≤ p.length) : (mid p x rest j)[j]? = some x := by
  unfold mid
  rw [List.getElem?_append_right (by rw [List.length_take]; omega)]
  simp [Nat.min_eq_left hj]
theorem mid_y {p : List Int} {x : Int} {rest : List Int} {j : Nat} (hj : j < p.length) : (mid p x rest (j + 1))[j]? = some p[j] := by
  unfold mid
  rw [List.getElem?_append_left (by simp; omega), List.getElem?_take]
  simp [hj]
theorem posI_yes {p : List Int} {x : Int} {j : Nat} (hj : j < p.length) (h : x < p[j]) : posI p x (j + 1) = posI p x j := by
  have e : p.getD j 0 = p[j] := by simp [List.getD, hj]
  rw [posI, e, if_pos h]
theorem posI_no {p : List Int} {x : Int} {j : Nat} (hj : j < p.length) (h : ¬ x < p[j]) : posI p x (j + 1) = j + 1 := by
  have e : p.getD j 0 = p[j] := by simp [List.getD, hj]
  rw [posI, e, if_neg h]
theorem mid_swap {p : List Int} {x : Int} {rest : List Int} {j : Nat} (hj : j < p.length) : ((mid p x rest (j + 1)).set (j + 1) p[j]).set j x = mid p x rest j := by
  unfold mid
  have h1 : p.take (j + 1) = p.take j ++ [p[j]] := (List.take_succ_eq_append_getElem hj)
  have h2 : p.drop j = p[j] :: p.drop (j + 1) := List.drop_eq_getElem_cons hj
  have hl : (p.take j).length = j := by simp; omega
  rw [h1, h2]
  simp only [List.append_assoc, List.cons_append]
  rw [List.set_append_right _ _ (by omega), hl, show j + 1 - j = 1 by omega, List.set_append_right _ _ (by omega), hl, Nat.sub_self]
  rfl
theorem mid_top (p : List Int) (x : Int) (rest : List Int) : mid p x rest p.length = p ++ x :: rest := by unfold mid; simp
theorem mid_ins (p : List Int) (x : Int) (rest : List Int) : mid p x rest (posI p x p.length) = insI p x ++ rest := by unfold mid insI; simp
theorem ev_cell {w : World} {T g n c : Nat} {s : Int} {E : List Int} (h : w.ownsRow T 70 3 (.slice (some ⟨g, 0, none⟩) n c) n (ev s E)) {k : Nat} {e : Int} (hk : k < n) (he : E[k]? = some e) :
    w.cell? ⟨g, k * 3, none⟩ = some (.int .i64 s) ∧ w.cell? ⟨g, k * 3 + 1, none⟩ = some (.int .i64 e) ∧ w.cell? ⟨g, k * 3 + 2, none⟩ = some (.int .i64 (e + 4)) := by
  obtain ⟨h0, h1, h2⟩ := ev_at (s := s) he
  exact ⟨(h.cellAt _ (by omega)).trans h0, (h.cellAt _ (by omega)).trans h1, (h.cellAt _ (by omega)).trans h2⟩
theorem cmp_neg (a b : Int) : decide (cmpI a b < 0) = decide (a < b) := by
  unfold cmpI
  by_cases h : a < b
  · rw [if_pos h, decide_eq_true h]; rfl
  · rw [if_neg h, decide_eq_false h]; split <;> rfl
theorem clo (s1 e1 v1 s2 e2 v2 : Int) (w : World) : Calls Try.prog 102 #[.agg #[.int .i64 s1, .int .i64 e1, .int .i64 v1], .agg #[.int .i64 s2, .int .i64 e2, .int .i64 v2]] w (RPost (.int .i64 (cmpI e1 e2)) w) := by
  go_enter Try.func102, Try.ntmps102
  go_wp2_with (go_at_call 80; (with_reducible refine (cmp_any _ _ _).mono ?_); rintro e' w' ⟨rfl, rfl⟩)
  go_ret
  exact ⟨rfl, al (al (Below.refl _ _))⟩
def SoPost (T g2 c2 : Nat) (s : Int) (l q : List Int) (w : World) (e : Ending) (w' : World) : Prop :=
  (∃ v, e = .returned v) ∧ w'.ownsRow T 70 3 (.slice (some ⟨g2, 0, none⟩) l.length c2) l.length (ev s q) ∧ Below T w w'
set_option maxHeartbeats 3200000 in
theorem ins_any (T g2 c2 : Nat) (s : Int) (l : List Int) (w : World) (hT : T ≤ w.heap.size) (hn : l.length ≤ 12)
    (ho : w.ownsRow T 70 3 (.slice (some ⟨g2, 0, none⟩) l.length c2) l.length (ev s l)) :
    Calls Try.prog 108 #[.slice (some ⟨g2, 0, none⟩) l.length c2, .int .i64 0, .int .i64 l.length, .func (.func 102) #[] #[]] w (SoPost T g2 c2 s l (sortI l) w) := by
  obtain ⟨n, hnn⟩ : ∃ n, l.length = n := ⟨_, rfl⟩
  have HLN := Lib.hid hnn
  rw [hnn] at ho hn ⊢
  have hg2 : T ≤ g2 := own_ge ho g2 rfl
  have h0 : Hid (w.ownsRow T 70 3 (.slice (some ⟨g2, 0, none⟩) n c2) n (ev s (sortI (l.take 1) ++ l.drop 1))) := Lib.hid (by
    have e : sortI (l.take 1) ++ l.drop 1 = l := by cases l <;> rfl
    rw [e]; exact ho)
  clear ho hnn
  go_enter Try.func108, Try.ntmps108
  go_wp2
  go_loopw [8] (fun i wr => ∃ k : Nat, 1 ≤ k ∧ (k ≤ n ∨ k = 1) ∧ i = .int .i64 k ∧ Hid (wr.ownsRow T 70 3 (.slice (some ⟨g2, 0, none⟩) n c2) n (ev s (sortI (l.take k) ++ l.drop k))) ∧ Below T w wr) (fun i _ => n - (intOf i).toNat)
  case atStart => exact ⟨1, Nat.le_refl _, .inr rfl, rfl, h0, Below.refl _ _⟩
  case round =>
    clear h0
    obtain ⟨k, hk1, hk, rfl, HO, HB⟩ := hrel
    by_cases hlt : k < n
    · obtain ⟨p, hp⟩ : ∃ p, sortI (l.take k) = p := ⟨_, rfl⟩
      have hpl : p.length = k := by rw [← hp, sortI_len, List.length_take]; have := HLN.out; omega
      have hkl : k < l.length := by have := HLN.out; omega
      obtain ⟨x, hx⟩ : ∃ x, l[k] = x := ⟨_, rfl⟩
      have hdr : l.drop k = x :: l.drop (k + 1) := by rw [← hx]; exact List.drop_eq_getElem_cons hkl
      have HST : Hid (wr.ownsRow T 70 3 (.slice (some ⟨g2, 0, none⟩) n c2) n (ev s (mid p x (l.drop (k + 1)) k))) := Lib.hid (by
        have h := HO.out
        rw [hp, hdr, ← mid_top p x, hpl] at h; exact h)
      have HNX := Lib.hid (show sortI (l.take (k + 1)) ++ l.drop (k + 1) = mid p x (l.drop (k + 1)) (posI p x k) by
        rw [List.take_succ_eq_append_getElem hkl, sortI_snoc, hp, hx, ← hpl, mid_ins, hpl])
      have HRL := Lib.hid (show (l.drop (k + 1)).length = n - (k + 1) by rw [List.length_drop, HLN.out])
      have HPL := Lib.hid hpl
      clear hp hx hdr HO hpl
      obtain ⟨rest, hrest⟩ : ∃ r, l.drop (k + 1) = r := ⟨_, rfl⟩
      rw [hrest] at HST HNX HRL
      have HREST := Lib.hid hrest; clear hrest
      go_wp2
      generalize wr = w0 at *
      have HB0 := Lib.hid HB; clear HB
      go_loopw [9] (fun i wx => ∃ j : Nat, j ≤ k ∧ i = .int .i64 j ∧ Hid (posI p x k = posI p x j) ∧ Hid (wx.ownsRow T 70 3 (.slice (some ⟨g2, 0, none⟩) n c2) n (ev s (mid p x rest j))) ∧ Below T w wx) (fun i _ => (intOf i).toNat)
      case atStart => exact ⟨k, Nat.le_refl _, rfl, Lib.hid rfl, HST, HB0.out⟩
      case round =>
        clear HST
        obtain ⟨j, hj, rfl, HPO, HO, HB⟩ := hrel
        have O := HO.out
        have hT0 : T ≤ wr.heap.size := Nat.le_trans hT HB.size
        clear HO
        cases j with
        | zero =>
          have HFIN := Lib.hid (show sortI (l.take (k + 1)) ++ rest = mid p x rest 0 by rw [HNX.out, HPO.out]; rfl)
          go_wp2_with fail
          refine wp_region_text (fun w' => w'.ownsRow T 70 3 (.slice (some ⟨g2, 0, none⟩) n c2) n (ev s (mid p x rest 0)) ∧ Below T w w') (by kernel_rfl) (by kernel_rfl) ⟨own_keep O (Below.refl _ _).drew, below_keep hT HB (Below.refl _ _).drew⟩ ?_
          iterate 17 (
            apply SeqH.one
            · intro uw K hS hK
              obtain ⟨qO, qHB⟩ := hS
              first
                | (go_simp; exact hK.out _ ⟨qO, qHB⟩)
            try simp only [Act.put, List.setIfInBounds_toArray, List.set_cons_zero, List.set_cons_succ])
          refine SeqH.end' rfl ?_
          intro v1 hS
          clear O HB
          obtain ⟨O, HB⟩ := hS
          go_wp2
          go_roundw
          case rel => exact ⟨k + 1, by omega, .inl (by omega), by go_num, Lib.hid (by rw [HREST.out, HFIN.out]; exact O), HB⟩
          case measure => simp [intOf]; omega
        | succ j =>
          have hjp : j < p.length := by have := HPL.out; omega
          obtain ⟨y, hy⟩ : ∃ y, p[j] = y := ⟨_, rfl⟩
          obtain ⟨cx0, cx1, cx2⟩ := ev_cell O (k := j + 1) (e := x) (by omega) (mid_x (by have := HPL.out; omega))
          obtain ⟨cy0, cy1, cy2⟩ := ev_cell O (k := j) (e := y) (by omega) (by rw [← hy]; exact mid_y hjp)
          obtain ⟨z, hz⟩ : ∃ z, cmpI x y = z := ⟨_, rfl⟩
          have HZ := Lib.hid hz
          have hlt2 : decide (z < 0) = decide (x < y) := by rw [← hz]; exact cmp_neg x y
          have HSW := Lib.hid (show ((mid p x rest (j + 1)).set (j + 1) y).set j x = mid p x rest j by rw [← hy]; exact mid_swap hjp)
          have HML := Lib.hid (show j + 1 < (mid p x rest (j + 1)).length by rw [mid_len]; omega)
          have g0 : decide ((0 : Int) < (j : Int) + 1) = true := decide_eq_true (by omega)
          have g1 : decide (0 < j + 1) = true := decide_eq_true (by omega)
          have q1 : IntKind.i64.wrap (j : Int) = j := IntWalk.i64_in _ (by omega)
          have i1 : (j : Int) + 1 < n := by omega
          have i2 : (j : Int) < n := by omega
          have i3 : decide ((j : Int) + 1 < 0) = false := decide_eq_false (by omega)
          have i4 : ((j : Int) + 1).toNat = j + 1 := by omega
          have i5 : ¬ ((j : Int) + 1 < 0) := by omega
          have i6 : (0 : Int) ≤ (j : Int) + 1 := by omega
          have hjn : j + 1 < n := by omega
          have hjn2 : j < n := by omega
          by_cases hb : x < y
          · have HPO2 := Lib.hid (show posI p x k = posI p x j by rw [HPO.out, posI_yes hjp (by rw [hy]; exact hb)])
            rw [decide_eq_true hb] at hlt2
            clear hb hy hz hjp
            go_wp2_with fail
            refine wp_region_text (fun w' => w'.cell? ⟨g2, (j + 1) * 3, none⟩ = some (.int .i64 s) ∧ w'.cell? ⟨g2, (j + 1) * 3 + 1, none⟩ = some (.int .i64 x) ∧ w'.cell? ⟨g2, (j + 1) * 3 + 2, none⟩ = some (.int .i64 (x + 4)) ∧ w'.cell? ⟨g2, j * 3, none⟩ = some (.int .i64 s) ∧ w'.cell? ⟨g2, j * 3 + 1, none⟩ = some (.int .i64 y) ∧ w'.cell? ⟨g2, j * 3 + 2, none⟩ = some (.int .i64 (y + 4)) ∧ w'.ownsRow T 70 3 (.slice (some ⟨g2, 0, none⟩) n c2) n (ev s (mid p x rest (j + 1))) ∧ Below T w w') (by kernel_rfl) (by kernel_rfl) ⟨cell_kept cx0 (Below.refl _ _).drew, cell_kept cx1 (Below.refl _ _).drew, cell_kept cx2 (Below.refl _ _).drew, cell_kept cy0 (Below.refl _ _).drew, cell_kept cy1 (Below.refl _ _).drew, cell_kept cy2 (Below.refl _ _).drew, own_keep O (Below.refl _ _).drew, below_keep hT HB (Below.refl _ _).drew⟩ ?_
            iterate 17 (
              apply SeqH.one
              · intro uw K hS hK
                obtain ⟨qcx0, qcx1, qcx2, qcy0, qcy1, qcy2, qO, qHB⟩ := hS
                first
                  | (go_simp; exact hK.out _ ⟨qcx0, qcx1, qcx2, qcy0, qcy1, qcy2, qO, qHB⟩)
                  | (go_simp; go_at_call 102; (with_reducible refine (clo s x (x + 4) s y (y + 4) _).mono ?_); rintro e uw1 ⟨rfl, hv⟩; rw [HZ.out]; exact hK.out _ ⟨cell_kept qcx0 hv, cell_kept qcx1 hv, cell_kept qcx2 hv, cell_kept qcy0 hv, cell_kept qcy1 hv, cell_kept qcy2 hv, own_keep qO hv, below_keep hT qHB hv⟩)
              try simp only [Act.put, List.setIfInBounds_toArray, List.set_cons_zero, List.set_cons_succ])
            refine SeqH.end' rfl ?_
            intro v1 hS
            clear cx0 cx1 cx2 cy0 cy1 cy2 O HB
            obtain ⟨cx0, cx1, cx2, cy0, cy1, cy2, O, HB⟩ := hS
            go_wp2_with fail
            have fx0 : (v1).frozen? ⟨g2, (j + 1) * 3, none⟩ = false := O.frozenAt _
            have fx1 : (v1).frozen? ⟨g2, (j + 1) * 3 + 1, none⟩ = false := O.frozenAt _
            have fx2 : (v1).frozen? ⟨g2, (j + 1) * 3 + 2, none⟩ = false := O.frozenAt _
            have fy0 : (v1).frozen? ⟨g2, j * 3, none⟩ = false := O.frozenAt _
            have fy1 : (v1).frozen? ⟨g2, j * 3 + 1, none⟩ = false := O.frozenAt _
            have fy2 : (v1).frozen? ⟨g2, j * 3 + 2, none⟩ = false := O.frozenAt _
            go_region
            have O6 := Lib.hid (own_keep ((((((O.stored ((j + 1) * 3) (.int .i64 s)).1.stored ((j + 1) * 3 + 1) (.int .i64 y)).1.stored ((j + 1) * 3 + 2) (.int .i64 (y + 4))).1.stored (j * 3) (.int .i64 s)).1.stored (j * 3 + 1) (.int .i64 x)).1.stored (j * 3 + 2) (.int .i64 (x + 4))).1 (Below.refl _ _).drew)
            have HB6 := Lib.hid (((((((HB.setCell (p := ⟨g2, (j + 1) * 3, none⟩) hg2 (.int .i64 s)).setCell (p := ⟨g2, (j + 1) * 3 + 1, none⟩) hg2 (.int .i64 y)).setCell (p := ⟨g2, (j + 1) * 3 + 2, none⟩) hg2 (.int .i64 (y + 4))).setCell (p := ⟨g2, j * 3, none⟩) hg2 (.int .i64 s)).setCell (p := ⟨g2, j * 3 + 1, none⟩) hg2 (.int .i64 x)).setCell (p := ⟨g2, j * 3 + 2, none⟩) hg2 (.int .i64 (x + 4))).drew)
            clear cx0 cx1 cx2 cy0 cy1 cy2 fx0 fx1 fx2 fy0 fy1 fy2 O HB
            go_wp2
            go_roundw
            case rel => exact ⟨j, by omega, by go_num, HPO2, Lib.hid (by have h := O6.out; rw [ev_set HML.out, ev_set (by rw [List.length_set]; have := HML.out; omega), HSW.out] at h; exact h), HB6.out⟩
            case measure => simp [intOf]
          · have HFIN := Lib.hid (show sortI (l.take (k + 1)) ++ rest = mid p x rest (j + 1) by rw [HNX.out, HPO.out, posI_no hjp (by rw [hy]; exact hb)])
            rw [decide_eq_false hb] at hlt2
            clear hb hy hz hjp
            go_wp2_with fail
            refine wp_region_text (fun w' => w'.cell? ⟨g2, (j + 1) * 3, none⟩ = some (.int .i64 s) ∧ w'.cell? ⟨g2, (j + 1) * 3 + 1, none⟩ = some (.int .i64 x) ∧ w'.cell? ⟨g2, (j + 1) * 3 + 2, none⟩ = some (.int .i64 (x + 4)) ∧ w'.cell? ⟨g2, j * 3, none⟩ = some (.int .i64 s) ∧ w'.cell? ⟨g2, j * 3 + 1, none⟩ = some (.int .i64 y) ∧ w'.cell? ⟨g2, j * 3 + 2, none⟩ = some (.int .i64 (y + 4)) ∧ w'.ownsRow T 70 3 (.slice (some ⟨g2, 0, none⟩) n c2) n (ev s (mid p x rest (j + 1))) ∧ Below T w w') (by kernel_rfl) (by kernel_rfl) ⟨cell_kept cx0 (Below.refl _ _).drew, cell_kept cx1 (Below.refl _ _).drew, cell_kept cx2 (Below.refl _ _).drew, cell_kept cy0 (Below.refl _ _).drew, cell_kept cy1 (Below.refl _ _).drew, cell_kept cy2 (Below.refl _ _).drew, own_keep O (Below.refl _ _).drew, below_keep hT HB (Below.refl _ _).drew⟩ ?_
            iterate 17 (
              apply SeqH.one
              · intro uw K hS hK
                obtain ⟨qcx0, qcx1, qcx2, qcy0, qcy1, qcy2, qO, qHB⟩ := hS
                first
                  | (go_simp; exact hK.out _ ⟨qcx0, qcx1, qcx2, qcy0, qcy1, qcy2, qO, qHB⟩)
                  | (go_simp; go_at_call 102; (with_reducible refine (clo s x (x + 4) s y (y + 4) _).mono ?_); rintro e uw1 ⟨rfl, hv⟩; rw [HZ.out]; exact hK.out _ ⟨cell_kept qcx0 hv, cell_kept qcx1 hv, cell_kept qcx2 hv, cell_kept qcy0 hv, cell_kept qcy1 hv, cell_kept qcy2 hv, own_keep qO hv, below_keep hT qHB hv⟩)
              try simp only [Act.put, List.setIfInBounds_toArray, List.set_cons_zero, List.set_cons_succ])
            refine SeqH.end' rfl ?_
            intro v1 hS
            clear cx0 cx1 cx2 cy0 cy1 cy2 O HB
            obtain ⟨cx0, cx1, cx2, cy0, cy1, cy2, O, HB⟩ := hS
            go_wp2
            go_roundw
            case rel => exact ⟨k + 1, by omega, .inl (by omega), by go_num, Lib.hid (by rw [HREST.out, HFIN.out]; exact O), HB⟩
            case measure => simp [intOf]; omega
    · have hkk : n ≤ k := by omega
      have HF := Lib.hid (show sortI l = sortI (l.take k) ++ l.drop k by rw [List.take_of_length_le (by have := HLN.out; omega), List.drop_eq_nil_of_le (by have := HLN.out; omega), List.append_nil])
      go_wp2
      go_end0
      exact ⟨⟨_, rfl⟩, by rw [HF.out, HLN.out]; exact HO.out, HB⟩
theorem len64_any (x : Nat) (hx : x ≤ 12) (w : World) : Calls Try.prog 117 #[.int .u64 x] w fun e w' => ∃ z : Int, e = .returned (.int .i64 z) ∧ w = w' := by
  have hx2 : x = 0 ∨ x = 1 ∨ x = 2 ∨ x = 3 ∨ x = 4 ∨ x = 5 ∨ x = 6 ∨ x = 7 ∨ x = 8 ∨ x = 9 ∨ x = 10 ∨ x = 11 ∨ x = 12 := by omega
  rcases hx2 with rfl | rfl | rfl | rfl | rfl | rfl | rfl | rfl | rfl | rfl | rfl | rfl | rfl
  all_goals
    go_enter Try.func117, Try.ntmps117
    go_wp2
    go_ret
    exact ⟨_, rfl, rfl⟩
theorem len_any (x : Nat) (hx : x ≤ 12) (w : World) : Calls Try.prog 106 #[.int .u64 x] w fun e w' => ∃ z : Int, e = .returned (.int .i64 z) ∧ w = w' := by
  have HC := Lib.hid (len64_any x hx w)
  have y1 : IntKind.u64.wrap (x : Int) = x := IntWalk.u64_in _ (by omega)
  go_enter Try.func106, Try.ntmps106
  go_wp2_with fail
  refine HC.out.mono ?_
  rintro e _ ⟨z, rfl, rfl⟩
  go_wp2
  go_ret
  exact ⟨z, rfl, rfl⟩
set_option maxHeartbeats 1600000 in
theorem pdq_any (T g2 c2 : Nat) (s lim : Int) (l : List Int) (w : World) (hT : T ≤ w.heap.size) (hn : l.length ≤ 12)
    (ho : w.ownsRow T 70 3 (.slice (some ⟨g2, 0, none⟩) l.length c2) l.length (ev s l)) :
    Calls Try.prog 105 #[.slice (some ⟨g2, 0, none⟩) l.length c2, .int .i64 0, .int .i64 l.length, .int .i64 lim, .func (.func 102) #[] #[]] w (SoPost T g2 c2 s l (sortI l) w) := by
  have HI := Lib.hid (ins_any T g2 c2 s l w hT hn ho)
  have e1 : decide ((l.length : Int) ≤ 12) = true := decide_eq_true (by omega)
  have e2 : IntKind.i64.wrap (l.length : Int) = l.length := IntWalk.i64_in _ (by omega)
  clear ho
  go_enter Try.func105, Try.ntmps105
  go_wp2_with fail
  go_loopw [1, 2] (fun a b wr => a = .int .i64 0 ∧ b = .int .i64 l.length ∧ w = wr) (fun _ _ _ => 0)
  case atStart => exact ⟨rfl, rfl, rfl⟩
  case round =>
    obtain ⟨rfl, rfl, rfl⟩ := hrel
    go_wp2_with fail
    refine HI.out.mono ?_
    rintro e w1 ⟨⟨v, rfl⟩, O, HB⟩
    have HO := Lib.hid O; clear O
    go_wp2
    go_end0
    exact ⟨⟨_, rfl⟩, HO.out, HB⟩
theorem sort_any (T g2 c2 : Nat) (s : Int) (l : List Int) (w : World) (hT : T ≤ w.heap.size) (hn : l.length ≤ 12)
    (ho : w.ownsRow T 70 3 (.slice (some ⟨g2, 0, none⟩) l.length c2) l.length (ev s l)) :
    Calls Try.prog 101 #[.slice (some ⟨g2, 0, none⟩) l.length c2, .func (.func 102) #[] #[]] w (SoPost T g2 c2 s l (sortI l) w) := by
  have HI := Lib.hid (fun lim => pdq_any T g2 c2 s lim l w hT hn ho)
  have HL := Lib.hid (len_any l.length hn w)
  have y1 : IntKind.u64.wrap (l.length : Int) = l.length := IntWalk.u64_in _ (by omega)
  clear ho
  go_enter Try.func101, Try.ntmps101
  go_wp2_with fail
  refine HL.out.mono ?_
  rintro e _ ⟨z, rfl, rfl⟩
  go_wp2_with fail
  refine (HI.out z).mono ?_
  rintro e w1 ⟨⟨v, rfl⟩, O, HB⟩
  have HO := Lib.hid O; clear O
  go_wp2
  go_end0
  exact ⟨⟨_, rfl⟩, HO.out, HB⟩
end Go.Proofs.Ytphflbgljejokaa.TripQ
