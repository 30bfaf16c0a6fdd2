/- slices.Insert of one trip into a row of trips that the call owns. My own; the copies over elements of five cells stand here as laws. -/
import Derived.Test.YtknlgdahcfgbeaaTripCl
import Derived.Lib.AppendZerosOnto
import Derived.Lib.Overlaps
import Derived.Lib.SliceRun
import Derived.Laws.Externs
import Derived.Laws.CopyOwn
import Derived.Laws.CopyRow
import Derived.Deep.RegionLaw
import Derived.Shelf.RegionOpenPlain
import Derived.Shelf.Spec.SlicesInsert
namespace Go.Proofs.Ytknlgdahcfgbeaa.TripI
open Go.RowKit Go.Proofs.Ytknlgdahcfgbeaa.Mem Go.Proofs.Ytknlgdahcfgbeaa.Base Go.Proofs.Ytknlgdahcfgbeaa.STrip Go.Proofs.Ytknlgdahcfgbeaa.Boxes Go.Proofs.Ytknlgdahcfgbeaa.Keep Go.Proofs.Ytknlgdahcfgbeaa.TripCl
set_option linter.unusedVariables false
set_option maxRecDepth 100000
theorem run_copy_row2 {P : Program} (w : World) (dT sT ty elem : TypeId) (g o dLen dCap : Nat) (a : Addr) (sLen sCap : Nat) (cur : Array Value) (t : TypeId) (cs : List Value)
    (hu : P.underlying dT = some (.slice elem)) (hs : (P.info? elem).map (·.size) = some 5)
    (hg : w.heap[g]? = some (.cells cur t (0, 0))) (hn : cs.length = Nat.min sLen dLen * 5)
    (hsrc : ∀ j v, cs[j]? = some v → w.cell? (a.add j) = some v) (hfit : o + cs.length ≤ cur.size) (h1 : ∀ v ∈ cs, v.oneCell' = true) :
    (Builtin.copy_ #[dT, sT] ty #[.slice (some ⟨g, o, none⟩) dLen dCap, .slice (some a) sLen sCap]).run P w =
      .ok (goInt (Nat.min sLen dLen)) (w.setRow g (cur.toList.take o ++ cs ++ cur.toList.drop (o + cs.length)).toArray) := by
  have hl := run_loadCells_list (P := P) w a cs hsrc
  have hst := run_storeCells_at P g o t cs 0 cur w hg (by simpa using hfit) h1
  cases hq : P.info? elem with
  | none => simp [hq] at hs
  | some i =>
    have hi : i.size = 5 := by simpa [hq] using hs
    have hn2 : Nat.min sLen dLen * 5 = cs.length := by omega
    simp [Builtin.copy_, run_underlying hu, Builtin.lenOf, Builtin.firstCells, sizeOf, typeInfo, hq, hi, hn2, hl, hst]
def Oth (g : Nat) (w w' : World) : Prop := ∀ k, k ≠ g → w'.heap[k]? = w.heap[k]?
theorem copy_at {P : Program} (w : World) (dT sT ty elem : TypeId) (g off dLen dCap : Nat) (ad : Addr) (sLen sCap : Nat) (hu : P.underlying dT = some (.slice elem)) (hsz : (P.info? elem).map (·.size) = some 5)
    (cur : List Value) (t : TypeId) (hg : w.heap[g]? = some (.cells cur.toArray t (0, 0))) (cs : List Value) (hn : cs.length = Nat.min sLen dLen * 5)
    (hsrc : ∀ j v, cs[j]? = some v → w.cell? (ad.add j) = some v) (hfit : off + cs.length ≤ cur.length) (h1 : ∀ v ∈ cs, v.oneCell' = true) (B : Nat) (w0 : World) (hb : Below B w0 w) (hBg : B ≤ g) :
    ∃ w', (Builtin.copy_ #[dT, sT] ty #[.slice (some ⟨g, off, none⟩) dLen dCap, .slice (some ad) sLen sCap]).run P w = .ok (goInt (Nat.min sLen dLen)) w' ∧
      Hid (w'.heap[g]? = some (.cells (splice cur off cs).toArray t (0, 0))) ∧ Below B w0 w' ∧ Hid (Oth g w w') :=
  ⟨_, run_copy_row2 (P := P) w dT sT ty elem g off dLen dCap ad sLen sCap cur.toArray t cs hu hsz hg hn hsrc (by simpa using hfit) h1,
    (show _ = _ by simpa [splice] using setRow_heap w g _ _ t _ hg), below_setRow hb hBg _, (show Oth g w _ from fun k hk => setRow_other w g k _ hk)⟩
theorem step_copy2 {P : Program} {ops : Array Oper} {o : Oper} {a : Act} {w : World} {K : Act → World → Prop} {Q : Exit → Act → World → Prop} {E : Prop} (hgd : o.guard = none) (d s : Operand) (dT sT : TypeId)
    (ho : o.op = .call { callee := .builtin .copy, args := #[d, s], argTypes := #[dT, sT] }) (elem : TypeId) (hu : P.underlying dT = some (.slice elem)) (hsz : (P.info? elem).map (·.size) = some 5)
    (g off dLen dCap : Nat) (ad : Addr) (sLen sCap : Nat) (hd : a.eval d = .slice (some ⟨g, off, none⟩) dLen dCap) (hs : a.eval s = .slice (some ad) sLen sCap)
    (cur : List Value) (t : TypeId) (hg : w.heap[g]? = some (.cells cur.toArray t (0, 0))) (cs : List Value) (hn : cs.length = Nat.min sLen dLen * 5)
    (hsrc : ∀ j v, cs[j]? = some v → w.cell? (ad.add j) = some v) (o2 : Nat) (ho2 : off = o2) (hfit : o2 + cs.length ≤ cur.length) (h1 : ∀ v ∈ cs, v.oneCell' = true) (B : Nat) (w0 : World) (hb : Below B w0 w) (hBg : B ≤ g)
    (h : ∀ w', Hid (w'.heap[g]? = some (.cells (splice cur o2 cs).toArray t (0, 0))) → Below B w0 w' → Hid (Oth g w w') → K (a.put o.dst (goInt (Nat.min sLen dLen))) w') :
    if Region.wanted o (yielded ops a.tmps) = true then Oper.wp P o a w K Q else E := by
  subst ho2
  have hw : Region.wanted o (yielded ops a.tmps) = true := by simp [Region.wanted, hgd]
  rw [if_pos hw]
  have hrun := run_copy_row2 (P := P) w dT sT o.type elem g off dLen dCap ad sLen sCap cur.toArray t cs hu hsz hg hn hsrc (by simpa using hfit) h1
  unfold Oper.wp
  simp [execOp, ho, resolve, invoke, builtin, hd, hs, hrun, Result.andThen]
  exact h _ (show _ = _ by simpa [splice] using setRow_heap w g _ _ t _ hg) (below_setRow hb hBg _) (show Oth g w _ from fun k hk => setRow_other w g k _ hk)
/-- What Insert leaves: the row with x at place i. -/
def ins (l : List R) (i : Nat) (x : R) : List R := l.take i ++ x :: l.drop i
theorem ins_len (l : List R) (i : Nat) (x : R) (h : i ≤ l.length) : (ins l i x).length = l.length + 1 := by
  unfold ins; rw [List.length_append, List.length_cons, List.length_take, List.length_drop]; omega
theorem flat_app (a b : List R) : flat (a ++ b) = flat a ++ flat b := by unfold flat; rw [List.flatMap_append]
theorem flat_take : ∀ (l : List R) (i : Nat), flat (l.take i) = (flat l).take (i * 5)
  | [], i => by simp [flat]
  | x :: l, 0 => by simp [flat]
  | x :: l, i + 1 => by
    have h : flat (x :: l) = [.int .i64 x.f0, .int .i64 x.f1, .int .i64 x.f2, .int .i64 x.f3, .int .i64 x.f4] ++ flat l := rfl
    have h2 : flat (x :: l.take i) = [.int .i64 x.f0, .int .i64 x.f1, .int .i64 x.f2, .int .i64 x.f3, .int .i64 x.f4] ++ flat (l.take i) := rfl
    rw [List.take_succ_cons, h2, flat_take l i, h, show (i + 1) * 5 = i * 5 + 5 by omega, List.take_append]
    simp
theorem flat_drop : ∀ (l : List R) (i : Nat), flat (l.drop i) = (flat l).drop (i * 5)
  | [], i => by simp [flat]
  | x :: l, 0 => by simp
  | x :: l, i + 1 => by
    have h : flat (x :: l) = [.int .i64 x.f0, .int .i64 x.f1, .int .i64 x.f2, .int .i64 x.f3, .int .i64 x.f4] ++ flat l := rfl
    rw [List.drop_succ_cons, flat_drop l i, h, show (i + 1) * 5 = i * 5 + 5 by omega, List.drop_append]
    simp
theorem flat_ins (l : List R) (i : Nat) (x : R) : flat (ins l i x) = (flat l).take (i * 5) ++ ([.int .i64 x.f0, .int .i64 x.f1, .int .i64 x.f2, .int .i64 x.f3, .int .i64 x.f4] ++ (flat l).drop (i * 5)) := by
  have h2 : flat (x :: l.drop i) = [.int .i64 x.f0, .int .i64 x.f1, .int .i64 x.f2, .int .i64 x.f3, .int .i64 x.f4] ++ flat (l.drop i) := rfl
  unfold ins
  rw [flat_app, h2, flat_take, flat_drop]
/-- the row shifted in place: C holds F and more; the cells of F from a on go two on, V comes between. -/
theorem shift_list {α : Type} (C F V : List α) (a n : Nat) (ha : a ≤ n) (hF : C.take n = F) (hFl : F.length = n) (hV : V.length = 5) (hC : n + 5 ≤ C.length) :
    (splice (splice C (a + 5) (F.drop a)) a V).take (n + 5) = F.take a ++ (V ++ F.drop a) := by
  subst hF
  have hY : ((C.take n).drop a).length = n - a := by rw [List.length_drop, hFl]
  generalize hYY : (C.take n).drop a = Y at hY
  have hX : (C.take n).take a = C.take a := by rw [List.take_take]; congr 1; omega
  have hXl : (C.take a).length = a := by rw [List.length_take]; omega
  have h2l : (C.take (a + 5)).length = a + 5 := by rw [List.length_take]; omega
  unfold splice
  generalize C.drop (a + 5 + Y.length) = D
  have e1 : (C.take (a + 5) ++ (Y ++ D)).take a = C.take a := by
    rw [List.take_append_of_le_length (by omega), List.take_take]; congr 1; omega
  have e2 : (C.take (a + 5) ++ (Y ++ D)).drop (a + V.length) = Y ++ D := by
    rw [hV, List.drop_left' h2l]
  rw [e1, e2, hX]
  have e3 : C.take a ++ (V ++ (Y ++ D)) = (C.take a ++ (V ++ Y)) ++ D := by simp
  rw [e3, List.take_left' (by rw [List.length_append, List.length_append, hXl, hV, hY]; omega)]
/-- the new row: C begins with what stood ahead of a; V goes in, then what stood from a on. -/
theorem grow_list {α : Type} (C F V : List α) (a n : Nat) (ha : a ≤ n) (hC0 : C.take a = F.take a) (hFl : F.length = n) (hV : V.length = 5) (hC : n + 5 ≤ C.length) :
    (splice (splice C a V) (a + 5) (F.drop a)).take (n + 5) = F.take a ++ (V ++ F.drop a) := by
  have hY : (F.drop a).length = n - a := by rw [List.length_drop, hFl]
  generalize F.drop a = Y at hY
  have hXl : (C.take a).length = a := by rw [List.length_take]; omega
  unfold splice
  generalize C.drop (a + V.length) = D
  have e1 : (C.take a ++ (V ++ D)).take (a + 5) = C.take a ++ V := by
    rw [← List.append_assoc, List.take_left' (by rw [List.length_append, hXl, hV])]
  rw [e1, hC0]
  generalize (F.take a ++ (V ++ D)).drop (a + 5 + Y.length) = E
  rw [hC0] at hXl
  have e3 : F.take a ++ V ++ (Y ++ E) = (F.take a ++ (V ++ Y)) ++ E := by simp
  rw [e3, List.take_left' (by rw [List.length_append, List.length_append, hXl, hV, hY]; omega)]
def InsPost (l : List R) (i : Nat) (x : R) (B : Nat) (w0 : World) (e : Ending) (w' : World) : Prop :=
  ∃ A c, e = .returned (.slice A (l.length + 1) c) ∧ w'.ownsRow B 25 5 (.slice A (l.length + 1) c) (l.length + 1) (flat (ins l i x)) ∧ Below B w0 w'
theorem ins_mk {l : List R} {i : Nat} {x : R} {B : Nat} {w0 w' : World} {v : Value} {n : Nat} {xs : List Value} (hn : n = l.length + 1) (ho : w'.ownsRow B 25 5 v n xs) (hx : xs = flat (ins l i x)) (hB : Below B w0 w') : InsPost l i x B w0 (.returned v) w' := by
  subst hn; subst hx
  obtain ⟨A, c, rfl⟩ := own_form ho
  exact ⟨A, c, rfl, ho, hB⟩
theorem xnews (W : World) (x : R) : ∀ j u, [Value.int .i64 x.f0, .int .i64 x.f1, .int .i64 x.f2, .int .i64 x.f3, .int .i64 x.f4][j]? = some u → (W.alloc (.cells #[.int .i64 x.f0, .int .i64 x.f1, .int .i64 x.f2, .int .i64 x.f3, .int .i64 x.f4] 25)).cell? ((⟨W.heap.size, 0, none⟩ : Addr).add j) = some u := by
  intro j u hu
  rw [cell_add, Nat.zero_add, World.cell?_alloc_at _ _ _ _ rfl]
  simpa using hu
theorem xone (x : R) : ∀ u ∈ [Value.int .i64 x.f0, .int .i64 x.f1, .int .i64 x.f2, .int .i64 x.f3, .int .i64 x.f4], u.oneCell' = true := by
  intro u hu; simp at hu; rcases hu with rfl | rfl | rfl | rfl | rfl <;> rfl
set_option maxHeartbeats 800000 in
theorem end_any (A : Option Addr) (c : Nat) (l : List R) (x : R) (B : Nat) (w0 w : World) (O : w.ownsRow B 25 5 (.slice A l.length c) l.length (flat l)) (hb : Below B w0 w) (hB : B ≤ w.heap.size) (hn : l.length ≤ 1000) (hc : c ≤ maxLen) :
    Calls Try.prog 45 #[.slice A l.length c, .int .i64 l.length, .slice (some ⟨w.heap.size, 0, none⟩) 1 1] (w.alloc (.cells #[.int .i64 x.f0, .int .i64 x.f1, .int .i64 x.f2, .int .i64 x.f3, .int .i64 x.f4] 25)) (InsPost l l.length x B w0) := by
  obtain ⟨i0, hi, hz0, hz1, hz2⟩ := info_parts info_T
  have HI := Lib.hid hz2; clear hz2
  have HI1 := Lib.hid hz1; clear hz1
  have HO := Lib.hid (own_keep O (al (Below.refl _ w) (o := .cells #[.int .i64 x.f0, .int .i64 x.f1, .int .i64 x.f2, .int .i64 x.f3, .int .i64 x.f4] 25)))
  have HX := Lib.hid (xnews w x)
  have hbl := Lib.hid (hb.alloc hB (.cells #[.int .i64 x.f0, .int .i64 x.f1, .int .i64 x.f2, .int .i64 x.f3, .int .i64 x.f4] 25))
  have HF := Lib.hid (show flat (ins l l.length x) = flat l ++ [.int .i64 x.f0, .int .i64 x.f1, .int .i64 x.f2, .int .i64 x.f3, .int .i64 x.f4] by
    rw [flat_ins, List.take_of_length_le (by rw [flat_n]; omega), List.drop_eq_nil_of_le (by rw [flat_n]; omega)]; simp)
  have hcp := own_cap O
  unfold maxLen at hc
  clear O hb
  go_enter Try.func45, Try.ntmps45
  go_wp2_with (at_builtin; go_must (refine wpList_append_own _ rfl _ _ 35 rfl B 25 i0 _ 5 40 Try.underlying35 hi hz0 HI1.out HI.out rfl (by decide) _ l.length _ rfl HO.out ⟨w.heap.size, 0, none⟩ 1 1 [.int .i64 x.f0, .int .i64 x.f1, .int .i64 x.f2, .int .i64 x.f3, .int .i64 x.f4] rfl rfl HX.out (xone x) (by unfold maxLen; omega) (by omega) (by rw [size_alloc']; omega) ?_; intro v' w9 hown1 hgrow _))
  all_goals
    have hB9 := hbl.out.grown hgrow (by rw [size_alloc']; omega) (fun k hk => own_ge HO.out k hk)
    clear hgrow
    go_ret
    exact ins_mk rfl hown1 HF.out.symm hB9
theorem two1 (a b c d e : Value) {k : Nat} (h : 1 ≤ k) : [a, b, c, d, e].length = Nat.min 1 k * 5 := by
  show 5 = min 1 k * 5
  omega
theorem row_cells {w : World} {g : Nat} {cur : List Value} {t : TypeId} (h : w.heap[g]? = some (.cells cur.toArray t (0, 0))) (o : Nat) : w.cell? ⟨g, o, none⟩ = cur[o]? := by
  rw [cell_of_row w g o _ _ _ h]; simp
theorem frozen_row {w : World} {g : Nat} {cur : Array Value} {t : TypeId} (h : w.heap[g]? = some (.cells cur t (0, 0))) (o : Nat) : w.frozen? ⟨g, o, none⟩ = false := by
  simp [World.frozen?, h]
theorem shape_row {w : World} {g : Nat} {cur : Array Value} {t : TypeId} (h : w.heap[g]? = some (.cells cur t (0, 0))) : w.shape? g = some (t, cur.size) := by
  simp [World.shape?, h]
theorem size_T : (Try.prog.info? 25).map (·.size) = some 5 := by
  obtain ⟨i0, hi, hz0, hz1, hz2⟩ := info_parts info_T
  rw [hi]; simp [hz1]
theorem sizeOf_T (w : World) : (Go.sizeOf 25).run Try.prog w = .ok 5 w := by
  obtain ⟨i0, hi, hz0, hz1, hz2⟩ := info_parts info_T
  simp [sizeOf, typeInfo, hi, hz1]
theorem apart_any (w : World) (g vb : Nat) (cur cv : Array Value) (hg : w.heap[g]? = some (.cells cur 25 (0, 0))) (hv : w.heap[vb]? = some (.cells cv 25 (0, 0))) (hne : vb ≠ g) (hc : cur.size ≠ 0) (o lb cb : Nat) :
    (callFunc 58 #[.slice (some ⟨vb, 0, none⟩) 1 1, .slice (some ⟨g, o, none⟩) lb cb]).run Try.prog w = .ok (.value (.bool false)) w := by
  rw [run_callFunc_extern Try.func58 (by kernel_rfl) (by kernel_rfl) (by kernel_rfl) (e := Extern.SlicesOverlaps.overlaps #[35, 35] #[4]) (by kernel_rfl),
    Lib.run_overlaps_apart w 35 4 25 Try.underlying35 5 sizeOf_T ⟨vb, 0, none⟩ ⟨g, o, none⟩ 1 1 lb cb hne _ _ _ _ (shape_row hv) (shape_row hg) hc (frozen_row hv _) (frozen_row hv _)]
  rfl
theorem b_drew {B : Nat} {w0 w : World} (h : Below B w0 w) : Below B w0 w.drew := ⟨h.os, h.tape, h.output, h.size, h.block⟩
theorem fin_shift {w' : World} {g c i B : Nat} {l : List R} {x : R} {cur : List Value} (h : w'.heap[g]? = some (.cells (splice (splice cur ((i + 1) * 5) ((flat l).drop (i * 5))) (i * 5) [Value.int .i64 x.f0, Value.int .i64 x.f1, Value.int .i64 x.f2, Value.int .i64 x.f3, Value.int .i64 x.f4]).toArray 25 (0, 0)))
    (hB : B ≤ g) (hi : i ≤ l.length) (hroom : l.length + 1 ≤ c) (hc : c ≤ maxLen) (hcl : cur.length = c * 5) (hct : cur.take (l.length * 5) = flat l) :
    w'.ownsRow B 25 5 (.slice (some ⟨g, 0, none⟩) (l.length + 1) c) (l.length + 1) (flat (ins l i x)) := by
  have hfl := flat_n l
  have hd : ((flat l).drop (i * 5)).length = l.length * 5 - i * 5 := by rw [List.length_drop, hfl]
  have hs1 : (splice cur ((i + 1) * 5) ((flat l).drop (i * 5))).length = cur.length := length_splice _ _ _ (by rw [hd]; omega)
  have hs2 : (splice (splice cur ((i + 1) * 5) ((flat l).drop (i * 5))) (i * 5) [Value.int .i64 x.f0, Value.int .i64 x.f1, Value.int .i64 x.f2, Value.int .i64 x.f3, Value.int .i64 x.f4]).length = cur.length := by rw [length_splice _ _ _ (by rw [hs1]; simp; omega), hs1]
  refine ⟨by rw [flat_n, ins_len l i x hi], .inr ⟨g, c, _, rfl, hB, h, hroom, hc, by rw [List.size_toArray, hs2, hcl], ?_⟩⟩
  rw [flat_ins]
  have := shift_list cur (flat l) [Value.int .i64 x.f0, Value.int .i64 x.f1, Value.int .i64 x.f2, Value.int .i64 x.f3, Value.int .i64 x.f4] (i * 5) (l.length * 5) (by omega) hct hfl rfl (by omega)
  rw [show (l.length + 1) * 5 = l.length * 5 + 5 by omega, show (i + 1) * 5 = i * 5 + 5 by omega]
  exact this
theorem fin_grow {w' : World} {g c i B : Nat} {l : List R} {x : R} {cur : List Value} (h : w'.heap[g]? = some (.cells (splice (splice cur (i * 5) [Value.int .i64 x.f0, Value.int .i64 x.f1, Value.int .i64 x.f2, Value.int .i64 x.f3, Value.int .i64 x.f4]) ((i + 1) * 5) ((flat l).drop (i * 5))).toArray 25 (0, 0)))
    (hB : B ≤ g) (hi : i ≤ l.length) (hroom : l.length + 1 ≤ c) (hc : c ≤ maxLen) (hcl : cur.length = c * 5) (hct : cur.take (i * 5) = (flat l).take (i * 5)) :
    w'.ownsRow B 25 5 (.slice (some ⟨g, 0, none⟩) (l.length + 1) c) (l.length + 1) (flat (ins l i x)) := by
  have hfl := flat_n l
  have hd : ((flat l).drop (i * 5)).length = l.length * 5 - i * 5 := by rw [List.length_drop, hfl]
  have hs1 : (splice cur (i * 5) [Value.int .i64 x.f0, Value.int .i64 x.f1, Value.int .i64 x.f2, Value.int .i64 x.f3, Value.int .i64 x.f4]).length = cur.length := length_splice _ _ _ (by simp; omega)
  have hs2 : (splice (splice cur (i * 5) [Value.int .i64 x.f0, Value.int .i64 x.f1, Value.int .i64 x.f2, Value.int .i64 x.f3, Value.int .i64 x.f4]) ((i + 1) * 5) ((flat l).drop (i * 5))).length = cur.length := by rw [length_splice _ _ _ (by rw [hs1, hd]; omega), hs1]
  refine ⟨by rw [flat_n, ins_len l i x hi], .inr ⟨g, c, _, rfl, hB, h, hroom, hc, by rw [List.size_toArray, hs2, hcl], ?_⟩⟩
  rw [flat_ins]
  have := grow_list cur (flat l) [Value.int .i64 x.f0, Value.int .i64 x.f1, Value.int .i64 x.f2, Value.int .i64 x.f3, Value.int .i64 x.f4] (i * 5) (l.length * 5) (by omega) hct hfl rfl (by omega)
  rw [show (l.length + 1) * 5 = l.length * 5 + 5 by omega, show (i + 1) * 5 = i * 5 + 5 by omega]
  exact this
set_option maxHeartbeats 800000 in
theorem shift_any (g vb c i : Nat) (l : List R) (x : R) (cur : List Value) (B : Nat) (w0 w : World) (hi : i < l.length) (hroom : l.length + 1 ≤ c) (hc : c ≤ maxLen) (hg : w.heap[g]? = some (.cells cur.toArray 25 (0, 0))) (hcl : cur.length = c * 5) (hct : cur.take (l.length * 5) = flat l)
    (hv : w.heap[vb]? = some (.cells #[.int .i64 x.f0, .int .i64 x.f1, .int .i64 x.f2, .int .i64 x.f3, .int .i64 x.f4] 25 (0, 0))) (hne : vb ≠ g) (hn : l.length ≤ 1000) (hb : Below B w0 w) (hB : B ≤ g) :
    Calls Try.prog 45 #[.slice (some ⟨g, 0, none⟩) l.length c, .int .i64 i, .slice (some ⟨vb, 0, none⟩) 1 1] w (InsPost l i x B w0) := by
  have mixed : Try.prog.follows .mixedOrders = true := by kernel_rfl
  have hov := apart_any w g vb cur.toArray _ hg hv hne (by rw [List.size_toArray, hcl]; omega)
  have HG := Lib.hid hg; clear hg
  have HV := Lib.hid hv; clear hv
  have HCT := Lib.hid hct; clear hct
  have HCL := Lib.hid hcl; clear hcl
  have HB := Lib.hid hb; clear hb
  unfold maxLen at hc
  have hw1 : IntKind.i64.wrap ((i : Int) + 1) = (i : Int) + 1 := IntWalk.i64_in _ (by omega)
  have hw2 : IntKind.i64.wrap ((l.length : Int) + 1) = (l.length : Int) + 1 := IntWalk.i64_in _ (by omega)
  have hz2 : ¬ ((i : Int) = (l.length : Int)) := by omega
  have hb1 : (0 : Int) ≤ (i : Int) + 1 := by omega
  have hin : i ≤ l.length := by omega
  have htn : ((i : Int) + 1).toNat = i + 1 := by omega
  have htn2 : ((l.length : Int) + 1).toNat = l.length + 1 := by omega
  have hb2 : ¬ (c = i + 1) := by omega
  have hb3 : (i : Int) ≤ (l.length : Int) + 1 := by omega
  have hb4 : ¬ (c = i) := by omega
  go_enter Try.func45, Try.ntmps45
  go_wp2_with (simp only [hov])
  clear hov
  have hcs : ∀ j v, ((flat l).drop (i * 5))[j]? = some v → cur[i * 5 + j]? = some v := by
    intro j v h
    rw [List.getElem?_drop, ← HCT.out, List.getElem?_take] at h
    split at h
    · exact h
    · cases h
  have HCS := Lib.hid hcs; clear hcs
  have hd : ((flat l).drop (i * 5)).length = (l.length - i) * 5 := by rw [List.length_drop, flat_n]; omega
  have HD := Lib.hid hd; clear hd
  obtain ⟨cs, hcs⟩ : ∃ cs, cs = (flat l).drop (i * 5) := ⟨_, rfl⟩
  have HQ := Lib.hid hcs
  rw [← hcs] at HCS HD
  clear hcs
  go_region_law_o (refine step_copy2 rfl _ _ 35 35 rfl 25 Try.underlying35 size_T g ((i + 1) * 5) (l.length + 1 - (i + 1)) (c - (i + 1)) ⟨g, i * 5, none⟩ (l.length + 1 - i) (c - i) (by simp [Act.eval, Act.put]) (by simp [Act.eval, Act.put]) cur 25 HG.out cs (by rw [HD.out]; simp only [Nat.min_def]; split <;> omega) (fun j v h => by rw [cell_add]; exact (row_cells HG.out _).trans (HCS.out j v h)) _ rfl (by rw [HD.out, HCL.out]; omega) (fun v h => flat_one l v (by rw [HQ.out] at h; exact List.mem_of_mem_drop h)) B w0 (by first | exact HB.out | exact b_drew HB.out) hB ?_; intro w4 hg4 hq4 ho4)
  have HV4 := Lib.hid (show w4.heap[vb]? = some (.cells [Value.int .i64 x.f0, Value.int .i64 x.f1, Value.int .i64 x.f2, Value.int .i64 x.f3, Value.int .i64 x.f4].toArray 25 (0, 0)) from (ho4.out vb hne).trans HV.out)
  have hsl : (splice cur ((i + 1) * 5) cs).length = cur.length := length_splice _ _ _ (by rw [HD.out, HCL.out]; omega)
  have HSL := Lib.hid hsl; clear hsl
  clear ho4 HB
  obtain ⟨w5, h5, hg5, hq5, ho5⟩ := copy_at (P := Try.prog) w4 35 35 3 25 g (i * 5) (l.length + 1 - i) (c - i) ⟨vb, 0, none⟩ 1 1 Try.underlying35 size_T (splice cur ((i + 1) * 5) cs) 25 hg4.out [.int .i64 x.f0, .int .i64 x.f1, .int .i64 x.f2, .int .i64 x.f3, .int .i64 x.f4] (two1 _ _ _ _ _ (by omega))
    (fun j v h => by rw [cell_add, row_cells HV4.out, Nat.zero_add]; exact h) (by rw [HSL.out, HCL.out]; simp; omega) (xone x) B w0 hq4 hB
  have H5 := Lib.hid h5; clear h5
  go_wp2_with fail
  rw [H5.out]
  go_simp
  go_wp2
  have hO := fin_shift (by have := hg5.out; rw [HQ.out] at this; exact this) hB hin hroom (by unfold maxLen; omega) HCL.out HCT.out
  go_ret
  exact ins_mk rfl hO rfl hq5
set_option maxHeartbeats 800000 in
theorem grow_any (g vb c i : Nat) (l : List R) (x : R) (cur : List Value) (B : Nat) (w0 w : World) (hi : i < l.length) (hroom : c < l.length + 1) (hnc : l.length ≤ c) (hg : w.heap[g]? = some (.cells cur.toArray 25 (0, 0))) (hcl : cur.length = c * 5) (hct : cur.take (l.length * 5) = flat l)
    (hv : w.heap[vb]? = some (.cells #[.int .i64 x.f0, .int .i64 x.f1, .int .i64 x.f2, .int .i64 x.f3, .int .i64 x.f4] 25 (0, 0))) (hne : vb ≠ g) (hn : l.length ≤ 1000) (hb : Below B w0 w) (hB : B ≤ w.heap.size) (hgw : g < w.heap.size) (hvw : vb < w.heap.size) :
    Calls Try.prog 45 #[.slice (some ⟨g, 0, none⟩) l.length c, .int .i64 i, .slice (some ⟨vb, 0, none⟩) 1 1] w (InsPost l i x B w0) := by
  have mixed : Try.prog.follows .mixedOrders = true := by kernel_rfl
  obtain ⟨i0, hi0, hz0, hz1, hz2⟩ := info_parts info_T
  have hcs : ∀ j v, ((flat l).drop (i * 5))[j]? = some v → cur[i * 5 + j]? = some v := by
    intro j v h
    rw [List.getElem?_drop, ← hct, List.getElem?_take] at h
    split at h
    · exact h
    · cases h
  have hold : (Builtin.firstCells i0.size i (.slice (some ⟨g, 0, none⟩) i c)).run Try.prog w.drew = .ok ((flat l).take (i * 5)).toArray w.drew := by
    rw [hz1]
    refine run_firstCells_some w.drew 5 i ⟨g, 0, none⟩ i c ((flat l).take (i * 5)) (by rw [List.length_take, flat_n]; omega) (fun j v h => ?_)
    rw [cell_add, Nat.zero_add]
    refine (row_cells hg _).trans ?_
    rw [List.getElem?_take] at h
    split at h
    · rw [← hct, List.getElem?_take] at h
      split at h
      · exact h
      · cases h
    · cases h
  have hkk : (l.length : Int) + 1 - (i : Int) = ((l.length + 1 - i : Nat) : Int) := by omega
  have hik : i + (l.length + 1 - i) = l.length + 1 := by omega
  obtain ⟨G, hG⟩ : ∃ G, G = grownCap w (l.length + 1) c 25 := ⟨_, rfl⟩
  have hGn : l.length + 1 ≤ G := by rw [hG]; exact grownCap_ge w _ _ _
  have hGm : G ≤ maxLen := by rw [hG]; exact grownCap_le_maxLen w _ c _ (by unfold maxLen; omega)
  obtain ⟨ROW, hROW⟩ : ∃ ROW : Array Value, ROW = ((flat l).take (i * 5)).toArray ++ Builtin.zeroCells zero.val.cells (l.length + 1 - i) ++ Builtin.zeroCells zero.val.cells (G - (l.length + 1)) := ⟨_, rfl⟩
  have hzl : zero.val.cells.size = 5 := rfl
  have hRl : ROW.toList.length = G * 5 := by
    rw [hROW]
    have := flat_n l
    simp [Builtin.zeroCells, hzl, List.length_take, this]
    omega
  have hRt : ROW.toList.take (i * 5) = (flat l).take (i * 5) := by
    rw [hROW]
    have h1 : ((flat l).take (i * 5)).length = i * 5 := by rw [List.length_take, flat_n]; omega
    rw [Array.append_assoc, Array.toList_append, List.take_left' (by simpa using h1)]
  have hrz : ∀ ty, (Builtin.append_ #[35, 3] ty #[.slice (some ⟨g, 0, none⟩) i c, .int .i64 ((l.length : Int) + 1 - (i : Int))]).run Try.prog w =
      .ok (.slice (some ⟨w.heap.size, 0, none⟩) (l.length + 1) G) (w.drew.alloc (.cells ROW 25)) := fun ty => by
    have h := Lib.run_append_grow_zeros w 35 3 ty 25 i0 _ .i64 .i64 Try.underlying35 Try.underlying3 hi0 hz0 (some ⟨g, 0, none⟩) i c ((flat l).take (i * 5)) hold (l.length + 1 - i) (by omega) (by omega) (by omega) (by omega) (by rw [hz2]; omega) (by rw [hz2, hik]; exact growslice_fits hroom (by omega))
    rw [hik, ← hG, ← hROW] at h
    rw [hkk]
    exact h
  obtain ⟨W1, hW1⟩ : ∃ W1, W1 = w.drew.alloc (.cells ROW 25) := ⟨_, rfl⟩
  have hN : W1.heap[w.heap.size]? = some (.cells ROW.toList.toArray 25 (0, 0)) := by
    rw [hW1, Array.toArray_toList]; exact heap_alloc_new w.drew _
  have hV1 : W1.heap[vb]? = some (.cells [Value.int .i64 x.f0, Value.int .i64 x.f1, Value.int .i64 x.f2, Value.int .i64 x.f3, Value.int .i64 x.f4].toArray 25 (0, 0)) := by
    rw [hW1, Below.heap_alloc w.drew _ vb hvw]; exact hv
  have hG1 : W1.heap[g]? = some (.cells cur.toArray 25 (0, 0)) := by
    rw [hW1, Below.heap_alloc w.drew _ g hgw]; exact hg
  have hb1' : Below B w0 W1 := by rw [hW1]; exact (b_drew hb).alloc hB _
  rw [← hW1] at hrz
  clear hW1 hG hROW hold hb hg hv hi0 hz0 hz1 hz2 hkk hik
  have HN := Lib.hid hN; clear hN
  have HV := Lib.hid hV1; clear hV1
  have HG := Lib.hid hG1; clear hG1
  have HRT := Lib.hid hRt; clear hRt
  have HRL := Lib.hid hRl; clear hRl
  have HCS := Lib.hid hcs; clear hcs
  have HCT := Lib.hid hct; clear hct
  have HCL := Lib.hid hcl; clear hcl
  have HGM := Lib.hid hGm
  unfold maxLen at hGm
  generalize hgg : w.heap.size = g2 at hrz hB hgw hvw HN
  have hd : ((flat l).drop (i * 5)).length = (l.length - i) * 5 := by rw [List.length_drop, flat_n]; omega
  have HD := Lib.hid hd; clear hd
  obtain ⟨cs, hcs⟩ : ∃ cs, cs = (flat l).drop (i * 5) := ⟨_, rfl⟩
  have HQ := Lib.hid hcs
  rw [← hcs] at HCS HD
  clear hcs hgg
  have hw1 : IntKind.i64.wrap ((i : Int) + 1) = (i : Int) + 1 := IntWalk.i64_in _ (by omega)
  have hw2 : IntKind.i64.wrap ((l.length : Int) + 1) = (l.length : Int) + 1 := IntWalk.i64_in _ (by omega)
  have hw3 : IntKind.i64.wrap ((l.length : Int) + 1 - i) = (l.length : Int) + 1 - i := IntWalk.i64_in _ (by omega)
  have hz2 : ¬ ((i : Int) = (l.length : Int)) := by omega
  have hz3 : (c : Int) < (l.length : Int) + 1 := by omega
  have hb1 : (0 : Int) ≤ (i : Int) + 1 := by omega
  have hin : i ≤ l.length := by omega
  have hin2 : (i : Int) ≤ (l.length : Int) := by omega
  have htn : ((i : Int) + 1).toNat = i + 1 := by omega
  have hGi : ¬ (G = i) := by omega
  have hGim : ¬ (G = i + 1) := by omega
  have hci : ¬ (c = i) := by omega
  go_enter Try.func45, Try.ntmps45
  obtain ⟨w4, h4, hg4, hq4, ho4⟩ := copy_at (P := Try.prog) W1 35 35 3 25 g2 (i * 5) (l.length + 1 - i) (G - i) ⟨vb, 0, none⟩ 1 1 Try.underlying35 size_T ROW.toList 25 HN.out [.int .i64 x.f0, .int .i64 x.f1, .int .i64 x.f2, .int .i64 x.f3, .int .i64 x.f4] (two1 _ _ _ _ _ (by omega))
    (fun j v h => by rw [cell_add, row_cells HV.out, Nat.zero_add]; exact h) (by rw [HRL.out]; simp; omega) (xone x) B w0 hb1' hB
  have H4 := Lib.hid h4; clear h4
  have HG4 := Lib.hid (show w4.heap[g]? = some (.cells cur.toArray 25 (0, 0)) from (ho4.out g (by omega)).trans HG.out)
  have HSL := Lib.hid (show (splice ROW.toList (i * 5) [Value.int .i64 x.f0, Value.int .i64 x.f1, Value.int .i64 x.f2, Value.int .i64 x.f3, Value.int .i64 x.f4]).length = ROW.toList.length from length_splice _ _ _ (by rw [HRL.out]; simp; omega))
  go_wp2_with (at_builtin; refine Lib.wpList_append_run _ rfl _ _ _ _ rfl _ _ rfl rfl _ _ (hrz _) ?_)
  rw [H4.out]
  go_simp
  clear H4 ho4 HV HG hb1' HN
  go_wp2_with fail
  have hmin : Nat.min (l.length - i) (l.length + 1 - (i + 1)) = l.length - i := by show min _ _ = _; omega
  have HMIN := Lib.hid hmin; clear hmin
  go_region_law_o (refine step_copy2 rfl _ _ 35 35 rfl 25 Try.underlying35 size_T g2 ((i + 1) * 5) (l.length + 1 - (i + 1)) (G - (i + 1)) ⟨g, i * 5, none⟩ (l.length - i) (c - i) (by simp [Act.eval, Act.put]) (by simp [Act.eval, Act.put]) (splice ROW.toList (i * 5) [.int .i64 x.f0, .int .i64 x.f1, .int .i64 x.f2, .int .i64 x.f3, .int .i64 x.f4]) 25 hg4.out cs (by rw [HD.out, HMIN.out]) (fun j v h => by rw [cell_add]; exact (row_cells HG4.out _).trans (HCS.out j v h)) _ rfl (by rw [HD.out, HSL.out, HRL.out]; omega) (fun v h => flat_one l v (by rw [HQ.out] at h; exact List.mem_of_mem_drop h)) B w0 (by first | exact hq4 | exact b_drew hq4) hB ?_; intro w5 hg5 hq5 ho5)
  go_wp2
  have hO := fin_grow (by have := hg5.out; rw [HQ.out] at this; exact this) hB hin hGn HGM.out HRL.out HRT.out
  go_ret
  exact ins_mk rfl hO rfl hq5
theorem ins_any (A : Option Addr) (c i : Nat) (l : List R) (x : R) (B : Nat) (w0 w : World) (O : w.ownsRow B 25 5 (.slice A l.length c) l.length (flat l)) (hi : i ≤ l.length) (hb : Below B w0 w) (hB : B ≤ w.heap.size) (hn : l.length ≤ 1000) :
    Calls Try.prog 45 #[.slice A l.length c, .int .i64 i, .slice (some ⟨w.heap.size, 0, none⟩) 1 1] (w.alloc (.cells #[.int .i64 x.f0, .int .i64 x.f1, .int .i64 x.f2, .int .i64 x.f3, .int .i64 x.f4] 25)) (InsPost l i x B w0) := by
  have hcm : c ≤ maxLen := by
    rcases O.2 with ⟨h, _⟩ | ⟨g, cap, cur, h, _, _, _, h4, _⟩
    · injection h with _ _ h3; unfold maxLen; omega
    · injection h with _ _ h3; omega
  by_cases he : i = l.length
  · subst he
    exact end_any A c l x B w0 w O hb hB hn hcm
  · obtain ⟨h1, h2⟩ := O
    rcases h2 with ⟨h, h0⟩ | ⟨g, cap, cur, h, hBg, hh, h3, h4, h5, h6⟩
    · omega
    · injection h with hA h7 h8
      subst hA; subst h8
      have hgw : g < w.heap.size := (Array.getElem?_eq_some_iff.1 hh).1
      have hh' : (w.alloc (.cells #[.int .i64 x.f0, .int .i64 x.f1, .int .i64 x.f2, .int .i64 x.f3, .int .i64 x.f4] 25)).heap[g]? = some (.cells cur.toList.toArray 25 (0, 0)) := by
        rw [Below.heap_alloc w _ g hgw, Array.toArray_toList]; exact hh
      have hv := heap_alloc_new w (.cells #[.int .i64 x.f0, .int .i64 x.f1, .int .i64 x.f2, .int .i64 x.f3, .int .i64 x.f4] 25)
      have hz := size_alloc' w (.cells #[.int .i64 x.f0, .int .i64 x.f1, .int .i64 x.f2, .int .i64 x.f3, .int .i64 x.f4] 25)
      have hb' := hb.alloc hB (.cells #[.int .i64 x.f0, .int .i64 x.f1, .int .i64 x.f2, .int .i64 x.f3, .int .i64 x.f4] 25)
      by_cases hr : l.length + 1 ≤ c
      · exact shift_any g w.heap.size c i l x cur.toList B w0 _ (by omega) hr hcm hh' (by simpa using h5) h6 hv (by omega) hn hb' hBg
      · exact grow_any g w.heap.size c i l x cur.toList B w0 _ (by omega) (by omega) h3 hh' (by simpa using h5) h6 hv (by omega) hn hb' (by omega) (by omega) (by omega)
/-- the values to insert lie in any block of their own. -/
theorem end_gen (A : Option Addr) (c vb : Nat) (l : List R) (x : R) (B : Nat) (w0 w : World) (O : w.ownsRow B 25 5 (.slice A l.length c) l.length (flat l)) (hv : w.heap[vb]? = some (.cells #[.int .i64 x.f0, .int .i64 x.f1, .int .i64 x.f2, .int .i64 x.f3, .int .i64 x.f4] 25 (0, 0))) (hb : Below B w0 w) (hB : B ≤ w.heap.size) (hn : l.length ≤ 1000) (hc : c ≤ maxLen) :
    Calls Try.prog 45 #[.slice A l.length c, .int .i64 l.length, .slice (some ⟨vb, 0, none⟩) 1 1] w (InsPost l l.length x B w0) := by
  obtain ⟨i0, hi, hz0, hz1, hz2⟩ := info_parts info_T
  have HI := Lib.hid hz2; clear hz2
  have HI1 := Lib.hid hz1; clear hz1
  have HO := Lib.hid O
  have HX := Lib.hid (show ∀ j u, [Value.int .i64 x.f0, .int .i64 x.f1, .int .i64 x.f2, .int .i64 x.f3, .int .i64 x.f4][j]? = some u → w.cell? ((⟨vb, 0, none⟩ : Addr).add j) = some u by
    intro j u hu
    rw [cell_add, Nat.zero_add]
    exact (row_cells (cur := [.int .i64 x.f0, .int .i64 x.f1, .int .i64 x.f2, .int .i64 x.f3, .int .i64 x.f4]) hv j).trans hu)
  have hbl := Lib.hid hb
  have HBS := Lib.hid hB
  have HF := Lib.hid (show flat (ins l l.length x) = flat l ++ [.int .i64 x.f0, .int .i64 x.f1, .int .i64 x.f2, .int .i64 x.f3, .int .i64 x.f4] by
    rw [flat_ins, List.take_of_length_le (by rw [flat_n]; omega), List.drop_eq_nil_of_le (by rw [flat_n]; omega)]; simp)
  have hcp := own_cap O
  unfold maxLen at hc
  clear O hb hv hB
  go_enter Try.func45, Try.ntmps45
  go_wp2_with (at_builtin; go_must (refine wpList_append_own _ rfl _ _ 35 rfl B 25 i0 _ 5 40 Try.underlying35 hi hz0 HI1.out HI.out rfl (by decide) _ l.length _ rfl HO.out ⟨vb, 0, none⟩ 1 1 [.int .i64 x.f0, .int .i64 x.f1, .int .i64 x.f2, .int .i64 x.f3, .int .i64 x.f4] rfl rfl HX.out (xone x) (by unfold maxLen; omega) (by omega) HBS.out ?_; intro v' w9 hown1 hgrow _))
  all_goals
    have hB9 := hbl.out.grown hgrow HBS.out (fun k hk => own_ge HO.out k hk)
    clear hgrow
    go_ret
    exact ins_mk rfl hown1 HF.out.symm hB9
theorem insG (A : Option Addr) (c vb i : Nat) (l : List R) (x : R) (B : Nat) (w0 w : World) (O : w.ownsRow B 25 5 (.slice A l.length c) l.length (flat l)) (hv : w.heap[vb]? = some (.cells #[.int .i64 x.f0, .int .i64 x.f1, .int .i64 x.f2, .int .i64 x.f3, .int .i64 x.f4] 25 (0, 0))) (hne : ∀ k, (Value.slice A l.length c).ownBlock = some k → vb ≠ k) (hi : i ≤ l.length) (hb : Below B w0 w) (hB : B ≤ w.heap.size) (hn : l.length ≤ 1000) :
    Calls Try.prog 45 #[.slice A l.length c, .int .i64 i, .slice (some ⟨vb, 0, none⟩) 1 1] w (InsPost l i x B w0) := by
  have hcm : c ≤ maxLen := by
    rcases O.2 with ⟨h, _⟩ | ⟨g, cap, cur, h, _, _, _, h4, _⟩
    · injection h with _ _ h3; unfold maxLen; omega
    · injection h with _ _ h3; omega
  by_cases he : i = l.length
  · subst he
    exact end_gen A c vb l x B w0 w O hv hb hB hn hcm
  · obtain ⟨h1, h2⟩ := O
    rcases h2 with ⟨h, h0⟩ | ⟨g, cap, cur, h, hBg, hh, h3, h4, h5, h6⟩
    · omega
    · injection h with hA h7 h8
      subst hA; subst h8
      have hgw : g < w.heap.size := (Array.getElem?_eq_some_iff.1 hh).1
      have hvw : vb < w.heap.size := (Array.getElem?_eq_some_iff.1 hv).1
      have hh' : w.heap[g]? = some (.cells cur.toList.toArray 25 (0, 0)) := by rw [Array.toArray_toList]; exact hh
      have hvg : vb ≠ g := hne g rfl
      by_cases hr : l.length + 1 ≤ c
      · exact shift_any g vb c i l x cur.toList B w0 w (by omega) hr hcm hh' (by simpa using h5) h6 hv hvg hn hb hBg
      · exact grow_any g vb c i l x cur.toList B w0 w (by omega) (by omega) h3 hh' (by simpa using h5) h6 hv hvg hn hb hB hgw hvw
end Go.Proofs.Ytknlgdahcfgbeaa.TripI
