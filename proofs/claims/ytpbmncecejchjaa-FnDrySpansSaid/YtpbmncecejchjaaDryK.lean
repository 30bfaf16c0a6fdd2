/- Dry spans: the program's LongestDry. -/
import Derived.Test.YtpbmncecejchjaaDryJ
namespace Go.Proofs.Ytpbmncecejchjaa.DryK
open Go Go.RowKit Go.Proofs.Ytpbmncecejchjaa.Mem Go.Proofs.Ytpbmncecejchjaa.Base Go.Proofs.Ytpbmncecejchjaa.Boxes Go.Proofs.Ytpbmncecejchjaa.Keep Go.Proofs.Ytpbmncecejchjaa.Shw Go.Proofs.Ytpbmncecejchjaa.Dry Go.Proofs.Ytpbmncecejchjaa.DryS Go.Proofs.Ytpbmncecejchjaa.DryI Go.Proofs.Ytpbmncecejchjaa.DryJ Go.Proofs.Ytpbmncecejchjaa.SeqLaw2
open Go.Proofs.Ytpbmncecejchjaa.SShower (RPost rpost flat flat_n flat_0)
set_option linter.unusedVariables false
attribute [local go_sem] Oper.semAt_some
theorem lng_snoc : ∀ (l : List Q) (b x : Q), lng (l ++ [x]) b = if (lng l b).f1 - (lng l b).f0 < x.f1 - x.f0 then x else lng l b := by
  intro l
  induction l with
  | nil => intro b x; rfl
  | cons y l ih => intro b x; rw [List.cons_append, lng, lng]; exact ih _ x
theorem top_first {L : List Q} (h : 0 < L.length) : top (L.take 1) = L[0] := by
  cases L with
  | nil => simp at h
  | cons y r => rfl
theorem top_next {L : List Q} {k : Nat} (h : k < L.length) (hk : 0 < k) : top (L.take (k + 1)) = if (top (L.take k)).f1 - (top (L.take k)).f0 < L[k].f1 - L[k].f0 then L[k] else top (L.take k) := by
  cases L with
  | nil => simp at h
  | cons y r =>
    obtain ⟨j, rfl⟩ : ∃ j, k = j + 1 := ⟨k - 1, by omega⟩
    have hj : j < r.length := by simpa using h
    show lng (r.take (j + 1)) y = _
    rw [List.take_succ_eq_append_getElem hj, lng_snoc]
    rfl
/-- between two rounds: the longest so far and whether there is one. -/
structure Two (n₀ X : Nat) (w : World) (q : Q) (fnd : Bool) (W : World) : Prop where
  a : W.heap[X]? = some (.cells #[.int .i64 q.f0, .int .i64 q.f1] 48 (0, 0))
  b : W.heap[X + 1]? = some (.cells #[.bool fnd] 4 (0, 0))
  bel : Below n₀ w W
theorem Two.kept {n₀ X : Nat} {w : World} {q : Q} {fnd : Bool} {U V : World} {row : Option Nat} (h : Two n₀ X w q fnd U) (hn : n₀ ≤ w.heap.size) (hg : U.grownBy V row) (hr : ∀ r, row = some r → w.heap.size ≤ r ∧ ∃ o : Obj, U.heap[r]? = some o ∧ o.isCells = false) : Two n₀ X w q fnd V := by
  have key : ∀ (j : Nat) (c : Array Value) T, U.heap[j]? = some (.cells c T (0, 0)) → V.heap[j]? = some (.cells c T (0, 0)) := fun j c T hj => by
    refine (hg.block j (Array.getElem?_eq_some_iff.1 hj).1 (fun e => ?_)).trans hj
    obtain ⟨_, o, h1, h2⟩ := hr _ e.symm
    rw [hj] at h1; cases h1; cases h2
  exact ⟨key _ _ _ h.a, key _ _ _ h.b, h.bel.grown hg (Nat.le_trans hn h.bel.size) (fun r e => Nat.le_trans hn (hr r e).1)⟩
theorem Two.cells {n₀ X : Nat} {w : World} {q : Q} {fnd : Bool} {U : World} (h : Two n₀ X w q fnd U) :
    U.cell? ⟨X, 0, none⟩ = some (.int .i64 q.f0) ∧ U.cell? ⟨X, 1, none⟩ = some (.int .i64 q.f1) ∧ U.cell? ⟨X + 1, 0, none⟩ = some (.bool fnd) ∧ U.frozen? ⟨X, 0, none⟩ = false ∧ U.frozen? ⟨X, 1, none⟩ = false ∧ U.frozen? ⟨X + 1, 0, none⟩ = false :=
  ⟨box_cell h.a 0 _ rfl, box_cell h.a 1 _ rfl, box_cell h.b 0 _ rfl, by simp [World.frozen?, h.a], by simp [World.frozen?, h.a], by simp [World.frozen?, h.b]⟩
theorem setc {U : World} {X : Nat} {c : Array Value} {T : TypeId} (h : U.heap[X]? = some (.cells c T (0, 0))) (i : Nat) (v : Value) : (U.setCell ⟨X, i, none⟩ v).heap[X]? = some (.cells (c.setIfInBounds i v) T (0, 0)) := by
  obtain ⟨hlt, hk⟩ := Array.getElem?_eq_some_iff.1 h
  show (U.heap.modify X _)[X]? = _
  rw [Array.getElem?_eq_getElem (by rw [Array.size_modify]; exact hlt), Array.getElem_modify_self, hk]
  rfl
theorem set2 {U : World} {X : Nat} {a b : Value} {T : TypeId} (h : U.heap[X]? = some (.cells #[a, b] T (0, 0))) (c d : Value) : ((U.setCell ⟨X, 0, none⟩ c).setCell ⟨X, 1, none⟩ d).heap[X]? = some (.cells #[c, d] T (0, 0)) :=
  setc (setc h 0 c) 1 d
theorem set1 {U : World} {X : Nat} {a : Value} {T : TypeId} (h : U.heap[X]? = some (.cells #[a] T (0, 0))) (c : Value) : (U.setCell ⟨X, 0, none⟩ c).heap[X]? = some (.cells #[c] T (0, 0)) := setc h 0 c
theorem lng_mem : ∀ (l : List Q) (b : Q), lng l b = b ∨ lng l b ∈ l := by
  intro l
  induction l with
  | nil => intro b; exact .inl rfl
  | cons y l ih =>
    intro b
    unfold lng
    rcases ih (if b.f1 - b.f0 < y.f1 - y.f0 then y else b) with h | h
    · rw [h]; split
      · exact .inr (by simp)
      · exact .inl rfl
    · exact .inr (by simp [h])
theorem top_mem (l : List Q) : top l = ⟨0, 0⟩ ∨ top l ∈ l := by
  cases l with
  | nil => exact .inl rfl
  | cons y r =>
    rcases lng_mem r y with h | h
    · exact .inr (by show lng r y ∈ _; rw [h]; simp)
    · exact .inr (by show lng r y ∈ _; simp [h])
def put3 (U : World) (X : Nat) (x : Q) : World := ((U.setCell ⟨X, 0, none⟩ (.int .i64 x.f0)).setCell ⟨X, 1, none⟩ (.int .i64 x.f1)).setCell ⟨X + 1, 0, none⟩ (.bool true)
theorem put3_other (U : World) (X : Nat) (x : Q) (j : Nat) (h : j ≠ X) (h1 : j ≠ X + 1) : (put3 U X x).heap[j]? = U.heap[j]? :=
  (Below.heap_setCell _ _ _ j (by simpa using h1)).trans ((Below.heap_setCell _ _ _ j (by simpa using h)).trans (Below.heap_setCell _ _ _ j (by simpa using h)))
theorem Two.store {n₀ X B : Nat} {w : World} {q : Q} {fnd : Bool} {U : World} (h : Two n₀ X w q fnd U) (hX : n₀ ≤ X) (hB : B ≤ n₀) (x : Q) : Two n₀ X w x true (put3 U X x) ∧ KpB B U (put3 U X x) ∧ KeepsOthers U (put3 U X x) := by
  have hko : KeepsOthers U (put3 U X x) := ((KeepsOthers.setCell _ _ _).trans (KeepsOthers.setCell _ _ _)).trans (KeepsOthers.setCell _ _ _)
  refine ⟨⟨?_, ?_, ?_⟩, ⟨hko.size, fun j hj => put3_other U X x j (by omega) (by omega), fun j c T hc hT => (put3_other U X x j ?_ ?_).trans hc⟩, hko⟩
  · exact (Below.heap_setCell _ _ _ X (by simp)).trans (set2 h.a _ _)
  · refine set1 (a := .bool fnd) ?_ _
    exact ((Below.heap_setCell _ _ _ _ (by simp)).trans (Below.heap_setCell _ _ _ _ (by simp))).trans h.b
  · exact ((h.bel.setCell (p := ⟨X, 0, none⟩) hX _).setCell (p := ⟨X, 1, none⟩) hX _).setCell (p := ⟨X + 1, 0, none⟩) (by show n₀ ≤ X + 1; omega) _
  · rintro rfl
    rw [h.a] at hc
    injection hc with hc; injection hc with _ h2 _
    rw [← h2] at hT
    rcases hT with h | h <;> exact absurd h (by decide)
  · rintro rfl
    rw [h.b] at hc
    injection hc with hc; injection hc with _ h2 _
    rw [← h2] at hT
    rcases hT with h | h <;> exact absurd h (by decide)
set_option maxRecDepth 100000 in
set_option maxHeartbeats 2000000 in
theorem lon_yes (P : Option Addr) (cap : Nat) (l : List R) (f t : Int) (hg : good l = true) (h1 : SunA.spanOk f t = true) (w : World) (hr : Rd w w.heap.size P (flat l)) (hn : l.length ≤ 1048576) :
    Calls Try.prog 34 #[.slice P l.length cap, .int .i64 f, .int .i64 t] w (RPost (lonV (spans l f t)) w) := by
  have HR := Lib.hid hr; clear hr
  obtain ⟨f0, f1, f2⟩ := span_true h1
  have hs := good_sane hg
  have HARE := Lib.hid (ShwG.are_impl P cap l w HR.out hn)
  have hlen : (spans l f t).length ≤ 21 := by have := spans_len l f t; have := hs.1; omega
  have HBD := Lib.hid (fun q hq => spans_bd l f t q hq)
  have HS := Lib.hid hs
  have HG := Lib.hid hg
  have H1 := Lib.hid h1
  rw [hg] at HARE
  clear hs hg h1 hn
  refine (callsIn_wide (n := 9)).1 ?_
  refine callsIn_of_wp_marks Try.func34 rfl trivial ?_ rfl
  simp only [Try.ntmps34, List.size_toArray, List.length_cons, List.length_nil, Nat.reduceAdd, Nat.reduceSub, Array.replicate_succ, Array.replicate_zero, List.push_toArray, List.append_toArray, List.nil_append, List.cons_append]
  gi_wp2_with first | (refine ⟨trivial, ?_⟩; gi_at_call 19; refine (callsIn_wide.2 HARE.out).mono ?_; rintro e w1 ⟨rfl, HB⟩) | (refine ⟨trivial, ?_⟩; gi_at_call 98; refine (callsIn_wide.2 (SunF.span_impl f t _)).mono ?_; rintro e' w' ⟨rfl, rfl⟩; rw [H1.out])
  have hsn := HS.out.1
  obtain ⟨M, hM⟩ : ∃ M, spans l f t = M := ⟨_, rfl⟩
  have HH := hands (9 - 1) (by omega) P cap l f t f0 (by omega) f2 HS.out w.heap.size ((w1.alloc (.cells #[.int .i64 0, .int .i64 0] 48)).alloc (.cells #[.bool false] 4)) (((HR.out.below HB (Nat.le_refl _)).below ((Below.refl _ w1).alloc HB.size _) (Nat.le_refl _)).below ((Below.refl _ _).alloc (by rw [World.size_alloc]; have := HB.size; omega) _) (Nat.le_refl _)) (by rw [World.size_alloc, World.size_alloc]; have := HB.size; omega)
  rw [hM] at HH hlen ⊢
  have HH := Lib.hid HH
  have HBD2 := Lib.hid (show ∀ k (h : k < M.length), 0 ≤ M[k].f0 ∧ M[k].f0 ≤ M[k].f1 ∧ M[k].f1 ≤ 4000 from fun k h => by have := HBD.out M[k] (by rw [hM]; exact List.getElem_mem h); omega)
  have HT0 := Lib.hid (show Two w.heap.size w1.heap.size w (top (M.take 0)) (decide (0 < 0)) ((w1.alloc (.cells #[.int .i64 0, .int .i64 0] 48)).alloc (.cells #[.bool false] 4)) from
    ⟨(Below.heap_alloc _ _ _ (by rw [World.size_alloc]; omega)).trans (World.alloc_heap_new w1 _), by have := World.alloc_heap_new (w1.alloc (.cells #[.int .i64 0, .int .i64 0] 48)) (.cells #[.bool false] 4 (0, 0)); rwa [World.size_alloc] at this, (HB.alloc HB.size _).alloc (by rw [World.size_alloc]; have := HB.size; omega) _⟩)
  have hsz : ((w1.alloc (.cells #[.int .i64 0, .int .i64 0] 48)).alloc (.cells #[.bool false] 4)).heap.size = w1.heap.size + 2 := by rw [World.size_alloc, World.size_alloc]
  have hb1 := HB.size
  have HM := Lib.hid hM
  clear hM HR HARE hsn
  generalize (w1.alloc (.cells #[.int .i64 0, .int .i64 0] 48)).alloc (.cells #[.bool false] 4) = W0 at *
  generalize w1.heap.size = X at *
  refine range_hands (P := Try.prog) rfl (by omega) (gf := 100) rfl trivial (enters_of Try.func100 (by kernel_rfl) rfl) HH.out
    (fun U => KpB.refl _ U) (fun h1 h2 => h1.trans h2) (fun U o hU => KpB.alloc _ U o (by omega)) (fun U l o o' hl ho hc => KpB.put _ U l o o' (by omega) ho hc) rfl
    (fun k W => Two w.heap.size X w (top (M.take k)) (decide (0 < k)) W ∧ X + 1 < W.heap.size) ?keep ⟨HT0.out, by omega⟩
    (fun v b W => ∃ p, Bxd v W p ∧ b = { tmps := #[.slice P l.length cap, .int .i64 f, .int .i64 t, undef, undef, undef, .int .i64 0, .int .i64 0, .bool false, .pointer (some ⟨X, 0, none⟩), .pointer (some ⟨X + 1, 0, none⟩), .pointer (some ⟨p, 0, none⟩), .slice P l.length cap, .bool true, .bool false, .bool false, .int .i64 f, .int .i64 t, .bool true, .bool false, .bool false, .agg #[.int .i64 0, .int .i64 0], .slice P l.length cap, .int .i64 f, .int .i64 t, .agg #[.slice P l.length cap, .int .i64 f, .int .i64 t], .func (.func 100) #[.agg #[.slice P l.length cap, .int .i64 f, .int .i64 t]] #[], v, undef, undef, undef, undef, undef, undef, undef, undef, undef, undef, undef, undef, undef, undef, undef, undef, undef, undef, undef, undef, undef], defers := [] }) ?hax ?assign ?body ?done
  case keep =>
    rintro k U V row ⟨hR, hs⟩ hg hr
    exact ⟨hR.kept (Nat.le_refl _) hg (fun r e => ⟨by have := (hr r e).1; omega, (hr r e).2⟩), Nat.lt_of_lt_of_le hs hg.size⟩
  case hax =>
    rintro v b U l' o o' ⟨p, hb, rfl⟩ _ hl ho
    exact ⟨p, hb.put hl ho, rfl⟩
  case assign =>
    rintro l' k v W K hv ⟨hR, hs⟩ hK
    obtain ⟨hk, rfl⟩ := vals_get hv
    gi_wp2
    exact hK _ _ ⟨W.heap.size, ⟨_, _, rfl, World.alloc_heap_new _ _⟩, rfl⟩ (KeepsOthers.alloc _ _) (KpB.alloc _ _ _ (by omega)) ⟨hR.kept (Nat.le_refl _) (World.grownBy_alloc _ _ none) (fun r e => by cases e), by rw [World.size_alloc]; omega⟩
  case body =>
    rintro l' k v b W hv ⟨hT, hs⟩ ⟨p, hp, rfl⟩
    obtain ⟨hk, rfl⟩ := vals_get hv
    obtain ⟨z, hz⟩ : ∃ z, M[k] = z := ⟨_, rfl⟩
    have hbd := HBD2.out k hk
    rw [hz] at hbd hp ⊢
    obtain ⟨x, y, e2, hbp⟩ := hp
    obtain ⟨rfl, rfl⟩ : z.f0 = x ∧ z.f1 = y := by simpa using e2
    clear e2 hv
    have b0 := box_cell hbp 0 _ rfl
    have b1 := box_cell hbp 1 _ rfl
    obtain ⟨c0, c1, c2, g0, g1, g2⟩ := hT.cells
    rcases Nat.eq_zero_or_pos k with h0 | h0
    · subst h0
      have HN := Lib.hid (show top (M.take (0 + 1)) = z by rw [← hz]; exact top_first hk)
      obtain ⟨hst, hkp, hko⟩ := hT.store (by omega) (Nat.le_refl _) z
      have HST := Lib.hid (And.intro hst (And.intro hkp hko)); clear hst hkp hko
      unfold put3 at HST
      simp only [Nat.lt_irrefl, decide_false] at c2
      gi_wp2
      obtain ⟨h1, h2, h3⟩ := HST.out
      have hn := HN.out
      simp only [Nat.zero_add] at hn
      rw [hn]
      exact ⟨h3, h2, h1⟩
    · obtain ⟨q, hq⟩ : ∃ q, top (M.take k) = q := ⟨_, rfl⟩
      have hqb : 0 ≤ q.f0 ∧ q.f0 ≤ q.f1 ∧ q.f1 ≤ 4000 := by
        rcases top_mem (M.take k) with h | h
        · rw [← hq, h]; simp
        · rw [hq] at h
          obtain ⟨i, hi, he⟩ := List.getElem_of_mem (List.mem_of_mem_take h)
          rw [← he]; exact HBD2.out i hi
      have hnx := top_next hk h0
      rw [hq, hz] at hnx
      rw [hq] at hT c0 c1
      have hd : decide (0 < k) = true := decide_eq_true h0
      rw [hd] at hT c2
      have p1 : IntKind.i64.wrap (z.f1 - z.f0) = z.f1 - z.f0 := IntWalk.i64_in _ (by omega)
      have p2 : IntKind.i64.wrap (q.f1 - q.f0) = q.f1 - q.f0 := IntWalk.i64_in _ (by omega)
      by_cases hm : q.f1 - q.f0 < z.f1 - z.f0
      · have hm' : decide (q.f1 - q.f0 < z.f1 - z.f0) = true := decide_eq_true hm
        have HN := Lib.hid (show top (M.take (k + 1)) = z by rw [hnx, if_pos hm])
        obtain ⟨hst, hkp, hko⟩ := hT.store (by omega) (Nat.le_refl _) z
        have HST := Lib.hid (And.intro hst (And.intro hkp hko)); clear hst hkp hko
        unfold put3 at HST
        clear hnx hm hq hd h0 hbd hqb hT
        gi_wp2
        obtain ⟨h1, h2, h3⟩ := HST.out
        rw [HN.out]
        exact ⟨h3, h2, h1⟩
      · have hm' : decide (q.f1 - q.f0 < z.f1 - z.f0) = false := decide_eq_false hm
        have HN := Lib.hid (show top (M.take (k + 1)) = q by rw [hnx, if_neg hm])
        have HT := Lib.hid hT
        have HS' := Lib.hid hs
        clear hnx hm hq hd h0 hbd hqb hT
        gi_wp2
        rw [HN.out]
        exact ⟨KeepsOthers.refl _, KpB.refl _ _, HT.out⟩
  case done =>
    rintro D W hD ⟨hT, hs⟩ hK
    have hvl : (vals M).length = M.length := by simp [vals]
    rw [hvl, List.take_length] at hT
    obtain ⟨q, hq⟩ : ∃ q, top M = q := ⟨_, rfl⟩
    have HV := Lib.hid (show lonV M = .tuple #[.int .i64 q.f0, .int .i64 q.f1, .bool (decide (0 < M.length))] by unfold lonV; rw [hq])
    rw [hq] at hT
    obtain ⟨c0, c1, c2, g0, g1, g2⟩ := hT.cells
    have HT := Lib.hid hT
    generalize decide (0 < M.length) = fd at *
    clear hT hq hvl
    have hmx : Try.prog.follows .mixedOrders = true := by kernel_rfl
    gi_wp2
    gi_region_o
    all_goals gi_wp2
    all_goals
      have hK2 : W.drew.heap[D]? = some (.deferred (some [])) := hK
      have hB2 := (HT.out.bel.drew).grown (grownBy_putObj' W.drew D (.deferred none)) HT.out.bel.drew.size (fun r e => by cases e; omega)
      refine ⟨by simp, .inl ⟨_, _, rfl, run_takeDeferred hK2, ?_⟩⟩
      exact ⟨.tuple #[.int .i64 q.f0, .int .i64 q.f1, .bool fd], by simp [results, Try.results34, go_sem], by rw [HM.out, HV.out], hB2⟩
theorem lon_impl (P : Option Addr) (cap : Nat) (l : List R) (f t : Int) (w : World) (hr : Rd w w.heap.size P (flat l)) (hc : l.length ≤ cap) (hn : l.length ≤ 1048576) :
    Calls Try.prog 34 #[.slice P l.length cap, .int .i64 f, .int .i64 t] w (RPost (lonV (dryL l f t)) w) := by
  cases hg : good l
  · have HV := Lib.hid (dryL_no (dry1 (f := f) (t := t) hg))
    have HARE := Lib.hid (ShwG.are_impl P cap l w hr hn)
    rw [hg] at HARE
    clear hr hn
    go_enter Try.func34, Try.ntmps34
    go_wp2_with fail
    refine HARE.out.mono ?_
    rintro e w1 ⟨rfl, HB⟩
    go_wp2
    go_ret3
    exact rpost (by rw [HV.out] <;> rfl) HB
  cases h1 : SunA.spanOk f t
  · have HV := Lib.hid (dryL_no (dry2 (l := l) h1))
    have HARE := Lib.hid (ShwG.are_impl P cap l w hr hn)
    rw [hg] at HARE
    clear hr hn hg
    go_enter Try.func34, Try.ntmps34
    go_wp2_with fail
    refine HARE.out.mono ?_
    rintro e w1 ⟨rfl, HB⟩
    go_wp2_with (go_at_call 98; (with_reducible refine (SunF.span_impl _ _ _).mono ?_); rintro e' w' ⟨rfl, rfl⟩; rw [h1])
    go_ret3
    exact rpost (by rw [HV.out] <;> rfl) HB
  rw [dryL_yes (dry3 hg h1)]
  exact lon_yes P cap l f t hg h1 w hr hn
end Go.Proofs.Ytpbmncecejchjaa.DryK
