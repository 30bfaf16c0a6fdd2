/- SplitString: the program's walk. -/
import Derived.Test.YtggloekjjnhhjaaDoorSplitIt
namespace Go.Proofs.YtggloekjjnhhjaaDoor.ImplSplit
open Go Go.RowKit Go.Proofs.YtggloekjjnhhjaaDoor.Mem Go.Proofs.YtggloekjjnhhjaaDoor.Bytes Go.Proofs.YtggloekjjnhhjaaDoor.Strs Go.Proofs.YtggloekjjnhhjaaDoor.Split Go.Proofs.YtggloekjjnhhjaaDoor.SeqLaw Go.Proofs.YtggloekjjnhhjaaDoor.SplitIt
set_option linter.unusedVariables false
attribute [local go_sem] Oper.semAt_some

/-- What strings.SplitSeq hands back: its iterator over three new boxes. -/
def three (s p : ByteArray) (w : World) : World := ((w.alloc (.cells #[.string s] 9)).alloc (.cells #[.string p] 9)).alloc (.cells #[.int .i64 0] 3)
def itv (B : Nat) : Value := .func (.func 33) #[] #[.pointer (some ⟨B + 1, 0, none⟩), .pointer (some ⟨B, 0, none⟩), .pointer (some ⟨B + 2, 0, none⟩)]
theorem seq0_any (s p : ByteArray) (w : World) : Calls Tryd.prog 26 #[.string s, .string p, .int .i64 0] w fun e w' => e = .returned (itv w.heap.size) ∧ w' = three s p w := by
  go_enter Tryd.func26, Tryd.ntmps26
  go_wp2
  go_ret
  exact ⟨by simp [itv], rfl⟩
theorem seq_any (s p : ByteArray) (w : World) : Calls Tryd.prog 16 #[.string s, .string p] w fun e w' => e = .returned (itv w.heap.size) ∧ w' = three s p w := by
  go_enter Tryd.func16, Tryd.ntmps16
  go_wp2_with (go_at_call 26; refine (seq0_any _ _ _).mono ?_; rintro e w' ⟨rfl, rfl⟩)
  go_ret
  exact ⟨rfl, rfl⟩
theorem three_caps (s : ByteArray) (b : UInt8) (w : World) : Caps w.heap.size b s (three s ⟨#[b]⟩ w) := by
  refine ⟨?_, ?_, ?_⟩
  · exact ((Boxed.new w 9 (.string s)).alloc _).alloc _
  · have := (Boxed.new (w.alloc (.cells #[.string s] 9)) 9 (.string ⟨#[b]⟩)).alloc (.cells #[.int .i64 0] 3)
    rwa [World.size_alloc] at this
  · have := Boxed.new ((w.alloc (.cells #[.string s] 9)).alloc (.cells #[.string ⟨#[b]⟩] 9)) 3 (.int .i64 0)
    rwa [World.size_alloc, World.size_alloc] at this
def IPost (s : ByteArray) (b : UInt8) (w : World) (e : Ending) (w' : World) : Prop :=
  ∃ (A : Option Addr) (c : Nat), e = .returned (.tuple #[.slice A (vals b s).length c, .bool true]) ∧ w'.ownsRow w.heap.size 9 1 (.slice A (vals b s).length c) (vals b s).length (vals b s) ∧ Below w.heap.size w w'
theorem count_le (b : UInt8) (l : List UInt8) : Lib.countByte l b ≤ l.length := List.count_le_length

theorem sp_len (b : UInt8) : ∀ l : List UInt8, (sp b l).length = l.count b + 1
  | [] => by simp [sp]
  | c :: l => by
    have ih := sp_len b l
    unfold sp
    by_cases h : c = b
    · subst h; simp [ih]
    · rw [if_neg h, List.count_cons_of_ne h]
      split
      · rename_i h2; exact absurd h2 (sp_ne b l)
      · rename_i x r h2; rw [h2] at ih; simpa using ih
theorem sp_short (b : UInt8) : ∀ (l x : List UInt8), x ∈ sp b l → x.length ≤ l.length
  | [], x, h => by simp [sp] at h; simp [h]
  | c :: l, x, h => by
    unfold sp at h
    by_cases hc : c = b
    · rw [if_pos hc] at h
      rcases List.mem_cons.1 h with rfl | h
      · simp
      · have := sp_short b l x h; simp; omega
    · rw [if_neg hc] at h
      have ih := sp_short b l
      split at h
      · simp at h; simp [h]
      · rename_i y r h2
        rw [h2] at ih
        rcases List.mem_cons.1 h with rfl | h
        · have := ih y (by simp); simp; omega
        · have := ih x (by simp [h]); simp; omega
theorem vals_get {b : UInt8} {s : ByteArray} {k : Nat} {v : Value} (h : (vals b s)[k]? = some v) : ∃ t : ByteArray, t.size ≤ s.size ∧ v = .string t := by
  simp only [vals, strv, parts, List.map_map, List.getElem?_map, Option.map_eq_some_iff] at h
  obtain ⟨l, h1, rfl⟩ := h
  have := sp_short b _ l (List.mem_of_getElem? h1)
  exact ⟨⟨l.toArray⟩, by show l.toArray.size ≤ s.data.size; simpa using this, rfl⟩
theorem vals_len (b : UInt8) (s : ByteArray) : (vals b s).length = Lib.countByte s.data.toList b + 1 := by
  simp [vals, strv, parts, sp_len, Lib.countByte]
theorem keeps_of {U V : World} (h : Below U.heap.size U V) : KeepsOthers U V :=
  ⟨h.size, fun k o hk _ => (h.block k (Array.getElem?_eq_some_iff.1 hk).1).trans hk⟩
/-- Between two rounds: the first k parts lie in the one row, of which the box at P tells. -/
structure Inv (s : ByteArray) (b : UInt8) (c P : Nat) (w : World) (k : Nat) (W : World) : Prop where
  box : Boxed W P 26 (.slice (some ⟨w.heap.size, 0, none⟩) k (c + 1))
  row : W.ownsRow w.heap.size 9 1 (.slice (some ⟨w.heap.size, 0, none⟩) k (c + 1)) k ((vals b s).take k)
  bel : Below w.heap.size w W
theorem Inv.kept {s : ByteArray} {b : UInt8} {c P : Nat} {w : World} {k : Nat} {U V : World} {row : Option Nat} (h : Inv s b c P w k U) (hg : U.grownBy V row) (h1 : some P ≠ row) (h2 : some w.heap.size ≠ row) (h3 : ∀ r, row = some r → w.heap.size ≤ r) : Inv s b c P w k V :=
  ⟨h.box.kept hg h1, h.row.kept hg (.inr (by simpa [Value.ownBlock] using h2)), h.bel.grown hg h.bel.size h3⟩

/-- The place behind the row's last one: it can be written. -/
theorem spare {U : World} {g n cap : Nat} {xs : List Value} {e : TypeId} {base : Nat} (h : U.ownsRow base e 1 (.slice (some ⟨g, 0, none⟩) n cap) n xs) (hc : n + 1 ≤ cap) :
    (∃ v, U.cell? ⟨g, n, none⟩ = some v) ∧ U.frozen? ⟨g, n, none⟩ = false := by
  rcases h.2 with ⟨hv, _⟩ | ⟨g', cap', cur, hv, _, hh, _, _, hsz, _⟩
  · cases hv
  · injection hv with hv _ hcap
    injection hv with hv
    injection hv with hv
    subst hv
    subst hcap
    refine ⟨⟨cur[n]'(by omega), ?_⟩, ?_⟩
    · simp [World.cell?, hh, show n < cur.size by omega]
    · simp [World.frozen?, hh]
/-- One more part: behind the append and the store. -/
theorem app_run (i0 : TypeInfo) (hi : Tryd.prog.info? 9 = some i0) (h1 : i0.size = 1) {s : ByteArray} {b : UInt8} {c P k B : Nat} {w W w2 : World} {t : ByteArray} (hI : Inv s b c P w k W) (hb : Below W.drew.heap.size W.drew w2) (hc : k + 1 ≤ c + 1)
    (ht : (vals b s)[k]? = some (.string t)) (hP : w.heap.size < P) (hB : P < B) (hB2 : B + 2 < W.heap.size) :
    ∃ val, w2.cell? ⟨P, 0, none⟩ = some (.slice (some ⟨w.heap.size, 0, none⟩) k (c + 1)) ∧
      (w2.alloc (.cells #[.string t] 9)).cell? ⟨P, 0, none⟩ = some (.slice (some ⟨w.heap.size, 0, none⟩) k (c + 1)) ∧
      (w2.alloc (.cells #[.string t] 9)).cell? ⟨w.heap.size, k, none⟩ = some val ∧ (w2.alloc (.cells #[.string t] 9)).frozen? ⟨w.heap.size, k, none⟩ = false ∧
      ((w2.alloc (.cells #[.string t] 9)).setCell ⟨w.heap.size, k, none⟩ (.string t)).cell? ⟨P, 0, none⟩ = some (.slice (some ⟨w.heap.size, 0, none⟩) k (c + 1)) ∧
      ((w2.alloc (.cells #[.string t] 9)).setCell ⟨w.heap.size, k, none⟩ (.string t)).frozen? ⟨P, 0, none⟩ = false ∧
      Hid (∀ X, X = ((w2.alloc (.cells #[.string t] 9)).setCell ⟨w.heap.size, k, none⟩ (.string t)).setCell ⟨P, 0, none⟩ (.slice (some ⟨w.heap.size, 0, none⟩) (k + 1) (c + 1)) →
        KeepsOthers W X ∧ Kp B W X ∧ Inv s b c P w (k + 1) X) := by
  have hg2 : W.grownBy w2 none := ⟨hb.os, hb.tape, hb.output, hb.size, fun k hk _ => hb.block k hk⟩
  have hI2 := hI.kept hg2 (by simp) (by simp) (fun r e => by cases e)
  have hI3 := hI2.kept (World.grownBy_alloc w2 (.cells #[.string t] 9) none) (by simp) (by simp) (fun r e => by cases e)
  have hU : ∀ j, j < W.heap.size → (w2.alloc (.cells #[.string t] 9)).heap[j]? = W.heap[j]? := fun j hj => (Below.heap_alloc _ _ _ (Nat.lt_of_lt_of_le hj hb.size)).trans (hb.block j hj)
  have hUs : W.heap.size ≤ (w2.alloc (.cells #[.string t] 9)).heap.size := by have := hb.size; simp at this ⊢; omega
  obtain ⟨w3, hrun, r1, r2⟩ := run_append_fits (P := Tryd.prog) _ w.heap.size 26 26 9 i0 1 Tryd.underlying26 hi h1 w.heap.size k (c + 1) _ hI3.row ⟨w2.heap.size, 0, none⟩ 1 1 [.string t] rfl (cell_one_new _ _ _) (by simp [Value.oneCell']) hc
  obtain ⟨⟨val, hval⟩, hfz⟩ := spare hI3.row hc
  have hrun2 := run_append_room_cells (P := Tryd.prog) (w2.alloc (.cells #[.string t] 9)) 26 26 9 i0 Tryd.underlying26 hi w.heap.size 0 k (c + 1) ⟨w2.heap.size, 0, none⟩ 1 1 [.string t] (by simp [h1]) (cell_one_new _ _ _) (by simp [Value.oneCell']) hc
    (fun j hj => by obtain rfl : j = 0 := by simpa using hj
                    simp [h1, hval]) (fun j hj => by obtain rfl : j = 0 := by simpa using hj
                                                     simp [h1, hfz])
  rw [hrun] at hrun2
  have hw3 : w3 = (w2.alloc (.cells #[.string t] 9)).setCell ⟨w.heap.size, k, none⟩ (.string t) := by
    injection hrun2 with _ e
    simpa [World.setCells, h1] using e
  clear hrun hrun2
  subst hw3
  have hb3 := hI3.box.kept r2 (by simp; omega)
  refine ⟨val, hI2.box.cell, hI3.box.cell, hval, hfz, hb3.cell, hb3.frozen, Lib.hid ?_⟩
  rintro X rfl
  have hsame : ∀ j, j < W.heap.size → j ≠ w.heap.size → j ≠ P → (((w2.alloc (.cells #[.string t] 9)).setCell ⟨w.heap.size, k, none⟩ (.string t)).setCell ⟨P, 0, none⟩ (.slice (some ⟨w.heap.size, 0, none⟩) (k + 1) (c + 1))).heap[j]? = W.heap[j]? := fun j hj h1 h2 =>
    ((Below.heap_setCell _ _ _ j (by simpa using h2)).trans (Below.heap_setCell _ _ _ j (by simpa using h1))).trans (hU j hj)
  refine ⟨⟨?_, ?_⟩, ?_, ?_, ?_, ?_⟩
  · exact Nat.le_trans hUs (Nat.le_trans r2.size (grownBy_setCell' _ _ _).size)
  · intro j o hj ho
    refine (hsame j (Array.getElem?_eq_some_iff.1 hj).1 ?_ ?_).trans hj
    · rintro rfl
      obtain ⟨o', h2, h3⟩ := cells_of_cell (spare hI.row hc).1.choose_spec
      rw [hj] at h2; cases h2; rw [ho] at h3; cases h3
    · rintro rfl
      rw [show W.heap[j]? = _ from hI.box] at hj; cases hj; cases ho
  · intro j hj
    exact hsame j (by omega) (by omega) (by omega)
  · exact hb3.set _
  · have e : (vals b s).take (k + 1) = (vals b s).take k ++ [.string t] := by
      obtain ⟨h4, h5⟩ := List.getElem?_eq_some_iff.1 ht
      rw [List.take_succ_eq_append_getElem h4, h5]
    rw [e]
    exact r1.kept (grownBy_setCell' _ _ _) (.inr (by simp [Value.ownBlock]; omega))
  · exact (hI3.bel.grown r2 hI3.bel.size (fun j e => by cases e; exact Nat.le_refl _)).setCell (p := ⟨P, 0, none⟩) (by simp; omega) _

set_option maxRecDepth 100000 in
set_option maxHeartbeats 2000000 in
theorem impl_yes (s : ByteArray) (b : UInt8) (w : World) (hs : s.size ≤ 4000) : Calls Tryd.prog 6 #[.string s, .string ⟨#[b]⟩] w (IPost s b w) := by
  obtain ⟨i0, hi, hz0, hz1, hz2⟩ := info_parts info_str
  have HI := Lib.hid hz2; clear hz2
  have HI1 := Lib.hid hz1; clear hz1
  have hcl := count_le b s.data.toList
  have hl : s.data.toList.length = s.size := by simp
  obtain ⟨c, hc⟩ : ∃ c : Nat, (Lib.countByte s.data.toList b : Int) = c := ⟨_, rfl⟩
  have hcs : c ≤ 4000 := by omega
  have HCT := Lib.hid (show Calls Tryd.prog 15 #[.string s, .string ⟨#[b]⟩] w fun e w' => e = .returned (.int .i64 (c : Int)) ∧ w' = w from hc ▸ Tryd.strings_Count_one s b w)
  have HCN := Lib.hid (show Lib.countByte s.data.toList b = c by omega)
  clear hc hcl hl
  refine (callsIn_wide (n := 9)).1 ?_
  refine callsIn_of_wp_marks Tryd.func6 rfl trivial ?_ rfl
  simp only [Tryd.ntmps6, List.size_toArray, List.length_cons, List.length_nil, Nat.reduceAdd, Nat.reduceSub, Array.replicate_succ, Array.replicate_zero, List.push_toArray, List.append_toArray, List.nil_append, List.cons_append]
  have hcw : IntKind.i64.wrap ((c : Int) + 1) = (c : Int) + 1 := IntWalk.i64_in _ (by omega)
  gi_wp2_with (first | (refine ⟨trivial, ?_⟩; gi_at_call 15; refine (callsIn_wide.2 HCT.out).mono ?_; rintro e w' ⟨rfl, hw⟩; rw [hw]; clear hw) | (refine ⟨trivial, ?_⟩; gi_at_call 16; refine (callsIn_wide.2 (seq_any _ _ _)).mono ?_; rintro e w' ⟨rfl, rfl⟩) | (gi_at_make; refine wpListIn_make_own _ rfl _ _ 26 rfl w.heap.size 9 i0 _ 1 Tryd.underlying26 hi hz0 HI1.out .i64 .i64 _ (c + 1) rfl rfl (by omega) (by rw [HI.out]; omega) (by unfold maxLen; omega) (Nat.le_refl _) ?_; intro w1 hown1 hg1))
  have hbox := Boxed.new w1 26 (.slice (some ⟨w.heap.size, 0, none⟩) 0 (c + 1))
  obtain ⟨W1, hW1⟩ : ∃ W1, w1.alloc (.cells #[.slice (some ⟨w.heap.size, 0, none⟩) 0 (c + 1)] 26) = W1 := ⟨_, rfl⟩
  have hz : w.heap.size < w1.heap.size := (hown1.lt _ rfl).2
  have hs1 : W1.heap.size = w1.heap.size + 1 := by rw [← hW1]; simp
  have hI1 : Inv s b c w1.heap.size w 0 W1 := by
    rw [← hW1]
    exact ⟨hbox, by simpa using hown1.alloc _, ((Below.refl _ w).grown hg1 (Nat.le_refl _) (fun k e => by cases e)).alloc (by omega) _⟩
  clear hbox
  simp only [hW1]
  clear hW1
  have hcap := three_caps s b W1
  have hsz3 : (three s ⟨#[b]⟩ W1).heap.size = w1.heap.size + 4 := by simp [three]; omega
  have hI3 : Inv s b c w1.heap.size w 0 (three s ⟨#[b]⟩ W1) := by
    have al : ∀ {U : World} (o : Obj), Inv s b c w1.heap.size w 0 U → Inv s b c w1.heap.size w 0 (U.alloc o) := fun o h => h.kept (World.grownBy_alloc _ o none) (by simp) (by simp) (fun r e => by cases e)
    exact al _ (al _ (al _ hI1))
  clear hI1
  generalize three s ⟨#[b]⟩ W1 = W3 at *
  have hh := hands (9 - 1) (by omega) s b W1.heap.size W3 (by omega) hcap
  have hlen := Lib.hid (vals_len b s)
  rw [hs1] at hh
  refine range_hands (P := Tryd.prog) rfl (by omega) (gf := 33) rfl trivial (enters_of Tryd.func33 (by kernel_rfl) rfl) hh (by omega)
    (fun U k hk => rfl) (fun h1 h2 k hk => (h2 k hk).trans (h1 k hk)) (fun U o hU k hk => Below.heap_alloc U o k (by omega)) (fun U l o hl k hk => World.putObj_heap_other (by omega)) rfl
    (fun k W => Inv s b c w1.heap.size w k W ∧ w1.heap.size + 4 ≤ W.heap.size) ?keep ⟨hI3, by omega⟩ (fun v => { tmps := #[.string s, .string ⟨#[b]⟩, undef, undef, .slice none 0 0, .bool false, .pointer (some ⟨w1.heap.size, 0, none⟩), v, .string s, .int .i64 s.size, .bool (decide (4000 < (s.size : Int))), .bool (decide (4000 < (s.size : Int))), .string ⟨#[b]⟩, .int .i64 1, .bool false, .bool (decide (4000 < (s.size : Int))), undef, .string s, .string ⟨#[b]⟩, .int .i64 c, .int .i64 (c + 1), .slice (some ⟨w.heap.size, 0, none⟩) 0 (c + 1), .string s, .string ⟨#[b]⟩, itv (w1.heap.size + 1), v, undef, undef, undef, undef, undef, undef], defers := [] }) ?assign ?body ?done
  case assign =>
    intro l v W K hv hK
    gi_wp2
    exact hK
  case body =>
    rintro l k v W hv ⟨hI, hsW⟩
    have hmx : Tryd.prog.follows .mixedOrders = true := by kernel_rfl
    obtain ⟨hvl, hve⟩ := List.getElem?_eq_some_iff.1 hv
    obtain ⟨t, ht0, rfl⟩ := vals_get hv
    have ht : t.size ≤ 281474976710656 := by omega
    have hbc := hI.box.cell
    have hbf := hI.box.frozen
    gi_wp2
    have hlt3 : w1.heap.size + 1 + 2 < W.heap.size := by omega
    have hlc : k + 1 ≤ c + 1 := by rw [hlen.out, HCN.out] at hvl; omega
    gi_region_with_o (first | (refine ⟨trivial, ?_⟩; gi_at_call 17; refine (CallsIn.inRound l (callsIn_wide.2 (clone_any t _ ht))).mono ?_; rintro e w2 ⟨rfl, hb⟩; obtain ⟨val, hbc2, hbc4, hv2, hf2, hbc3, hbf3, hfin⟩ := app_run i0 hi HI1.out hI hb hlc hv hz (Nat.lt_succ_self _) hlt3))
    all_goals (gi_wp2; obtain ⟨q1, q2, q3⟩ := hfin.out _ rfl; refine ⟨q1, q2, q3, ?_⟩; have q4 := q1.size; simp at q4; omega)
  case keep =>
    rintro k U V row ⟨hi', hsU⟩ hg hr
    refine ⟨hi'.kept hg ?_ ?_ ?_, Nat.le_trans hsU hg.size⟩
    · rintro e
      rcases hr _ e.symm with h | ⟨h, _⟩ <;> omega
    · rintro e
      rcases hr _ e.symm with h | ⟨h, _⟩ <;> omega
    · rintro r e
      rcases hr _ e with h | ⟨h, _⟩ <;> omega
  case done =>
    rintro D W hD ⟨hI, hsW⟩ hK
    have hbc := hI.box.cell
    gi_wp2
    refine ⟨by simp, .inl ⟨_, _, rfl, run_takeDeferred hK, ?_⟩⟩
    have hg := grownBy_putObj' W D (.deferred none)
    have hI' := hI.kept hg (by simp; omega) (by simp; omega) (fun r e => by cases e; omega)
    refine ⟨.tuple #[.slice (some ⟨w.heap.size, 0, none⟩) (vals b s).length (c + 1), .bool true], by simp [results, Tryd.results6, go_sem], some ⟨w.heap.size, 0, none⟩, c + 1, rfl, ?_, hI'.bel⟩
    have := hI'.row
    rwa [List.take_length] at this
end Go.Proofs.YtggloekjjnhhjaaDoor.ImplSplit
