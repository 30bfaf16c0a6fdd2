/- Trips: spec.AddTrip: the row up to the place, the trip, the row behind it. Made by tools/mk_tripb.py. -/
import Derived.Test.YtknlgdahcfgbeaaTripA
import Derived.Deep.Cut
import Derived.Deep.CutBlock
import Derived.Deep.DeepCutAuto
import Derived.Deep.RegionLawGrows
namespace Go.Proofs.Ytknlgdahcfgbeaa.TripB
open Go.RowKit Go.Proofs.Ytknlgdahcfgbeaa.Mem Go.Proofs.Ytknlgdahcfgbeaa.Base Go.Proofs.Ytknlgdahcfgbeaa.STrip Go.Proofs.Ytknlgdahcfgbeaa.Regn Go.Proofs.Ytknlgdahcfgbeaa.Boxes Go.Proofs.Ytknlgdahcfgbeaa.Keep Go.Proofs.Ytknlgdahcfgbeaa.TripP Go.Proofs.Ytknlgdahcfgbeaa.TripS Go.Proofs.Ytknlgdahcfgbeaa.TripG Go.Proofs.Ytknlgdahcfgbeaa.TripCl Go.Proofs.Ytknlgdahcfgbeaa.TripI Go.Proofs.Ytknlgdahcfgbeaa.TripN Go.Proofs.Ytknlgdahcfgbeaa.TripA
set_option linter.unusedVariables false
set_option linter.unusedSimpArgs false
set_option maxRecDepth 100000
theorem drew_below (w : World) (q : Nat) : Below w.heap.size w (w.drewN q) := ⟨rfl, rfl, rfl, Nat.le_refl _, fun _ _ => rfl⟩
theorem step_own {P : Program} {w : World} {yf : Nat → Option Bool} {o : Oper} {a : Act} {K : Act → World → Prop} {Q : Exit → Act → World → Prop} {E : Prop} (hgd : o.guard = none) (s x : Operand) (t : TypeId)
    (ho : o.op = .call { callee := .builtin .append, args := #[s, x], argTypes := #[t, t] })
    (base : Nat) (e : TypeId) (i : TypeInfo) (z : Value) (size bytes : Nat) (ht : P.underlying t = some (.slice e)) (hi : P.info? e = some i) (hz : i.zero = some z)
    (hsize : i.size = size) (hby : i.bytes = bytes) (hzs : z.cells.size = size) (hsz : 0 < size)
    (v : Value) (n : Nat) (xs : List Value) (hs : a.eval s = v) (hown : w.ownsRow base e size v n xs)
    (ad : Addr) (m c : Nat) (news : List Value) (hx : a.eval x = .slice (some ad) m c) (hl : news.length = m * size) (hnews : ∀ j u, news[j]? = some u → w.cell? (ad.add j) = some u) (h1 : ∀ u ∈ news, u.oneCell' = true)
    (h63 : n + m ≤ maxLen) (hbytes : (n + m) * bytes ≤ 140737488355328) (hbase : base ≤ w.heap.size)
    (h : ∀ v' w', w'.ownsRow base e size v' (n + m) (xs ++ news) → w.grownBy w' v.ownBlock → (v' = .slice none 0 0 ↔ v = .slice none 0 0 ∧ m = 0) → K (a.put o.dst v') w') :
    if Region.wanted o yf = true then Oper.wp P o a w K Q else E := by
  rw [if_pos (by simp [Region.wanted, hgd])]
  exact wp_append_own w s x t ho base e i z size bytes ht hi hz hsize hby hzs hsz v n xs hs hown ad m c news hx hl hnews h1 h63 hbytes hbase h
/-- an append onto an empty row without room: nothing that stood is touched. -/
theorem step_fresh {P : Program} {w : World} {yf : Nat → Option Bool} {o : Oper} {a : Act} {K : Act → World → Prop} {Q : Exit → Act → World → Prop} {E : Prop} (hgd : o.guard = none) (s x : Operand) (t : TypeId)
    (ho : o.op = .call { callee := .builtin .append, args := #[s, x], argTypes := #[t, t] })
    (base : Nat) (e : TypeId) (i : TypeInfo) (z : Value) (size bytes : Nat) (ht : P.underlying t = some (.slice e)) (hi : P.info? e = some i) (hz : i.zero = some z)
    (hsize : i.size = size) (hby : i.bytes = bytes) (hzs : z.cells.size = size) (hsz : 0 < size)
    (g : Nat) (hs : a.eval s = .slice (some ⟨g, 0, none⟩) 0 0) (hown : w.ownsRow base e size (.slice (some ⟨g, 0, none⟩) 0 0) 0 [])
    (ad : Addr) (m c : Nat) (news : List Value) (hx : a.eval x = .slice (some ad) m c) (hl : news.length = m * size) (hnews : ∀ j u, news[j]? = some u → w.cell? (ad.add j) = some u) (h1 : ∀ u ∈ news, u.oneCell' = true)
    (h63 : m ≤ maxLen) (hbytes : m * bytes ≤ 140737488355328) (hbase : base ≤ w.heap.size)
    (h : ∀ v' w', w'.ownsRow base e size v' m news → Below w.heap.size w w' → K (a.put o.dst v') w') :
    if Region.wanted o yf = true then Oper.wp P o a w K Q else E := by
  rw [if_pos (by simp [Region.wanted, hgd])]
  by_cases hm : m = 0
  · subst hm
    obtain rfl : news = [] := List.eq_nil_of_length_eq_zero (by omega)
    have h9 := step_append_room (ops := #[]) (Q := Q) (K := K) (E := True) hgd s x t ho e i size ht hi hsize g 0 0 0 hs ad 0 c [] hx (by simp) hnews h1 (by omega) (fun j hj => by simp at hj) (h _ w hown (Below.refl _ _))
    rwa [if_pos (by simp [Region.wanted, hgd])] at h9
  · have h9 := step_append_grows (ops := #[]) (Q := Q) (K := K) (E := True) hgd s x t ho e i z size bytes ht hi hz hsize hby hzs hsz (some ⟨g, 0, none⟩) 0 0 [] hs (by simp) (by simp) (by simp) ad m c news hx hl hnews h1 (by omega) (by omega) (by simpa using hbytes) (fun v' w' ho' hg' => h v' w' (by rw [Nat.zero_add, List.nil_append] at ho'; exact own_base ho' hbase) ((Below.refl _ w).grown hg' (Nat.le_refl _) (fun k hk => by cases hk)))
    rwa [if_pos (by simp [Region.wanted, hgd])] at h9
theorem own0 (u : World) (base : Nat) (h : base ≤ u.heap.size) : (u.alloc (.cells #[] 25)).ownsRow base 25 5 (.slice (some ⟨u.heap.size, 0, none⟩) 0 0) 0 [] := by
  have := World.ownsRow_lit u #[] 0 (e := 25) (size := 5) (base := base) h (by unfold maxLen; omega) rfl
  simpa using this
theorem box_news {h : Nat} {x : R} {w u : World} (X : Box h [.int .i64 x.f0, .int .i64 x.f1, .int .i64 x.f2, .int .i64 x.f3, .int .i64 x.f4] w u) : ∀ j v, [Value.int .i64 x.f0, .int .i64 x.f1, .int .i64 x.f2, .int .i64 x.f3, .int .i64 x.f4][j]? = some v → u.cell? ((⟨h, 0, none⟩ : Addr).add j) = some v := by
  intro j v hv
  rw [cell_add, Nat.zero_add]
  exact X.cells j v hv
/-- The row that came in, read from any world of the call. -/
def Srcs (w : World) (b o : Nat) (l : List R) : Prop := ∀ u, Below w.heap.size w u → ∀ j v, (flat l)[j]? = some v → u.cell? ⟨b, o + j, none⟩ = some v
theorem Srcs.of {w : World} {b o : Nat} {l : List R} (h : Rd w w.heap.size (some ⟨b, o, none⟩) (flat l)) : Srcs w b o l := by
  intro u hu j v hv
  rcases h with h | ⟨b', o', hA, hb, hc⟩
  · rw [h] at hv; cases hv
  · injection hA with hA; injection hA with h1 h2 _; subst h1; subst h2
    rw [(bcell hu).1 _ _ hb]; exact hc j v hv
theorem Srcs.take {w u : World} {b o : Nat} {l : List R} (h : Srcs w b o l) (hu : Below w.heap.size w u) (k : Nat) : ∀ j v, (flat (l.take k))[j]? = some v → u.cell? ((⟨b, o, none⟩ : Addr).add j) = some v := by
  intro j v hv
  rw [cell_add]
  refine h u hu j v ?_
  rw [flat_take, List.getElem?_take] at hv
  split at hv
  · exact hv
  · cases hv
theorem Srcs.drop {w u : World} {b o : Nat} {l : List R} (h : Srcs w b o l) (hu : Below w.heap.size w u) (n : Nat) : ∀ j v, ((flat l).drop (n * 5))[j]? = some v → u.cell? ((⟨b, o + n * 5, none⟩ : Addr).add j) = some v := by
  intro j v hv
  rw [cell_add, Nat.add_assoc]
  rw [List.getElem?_drop] at hv
  exact h u hu _ v hv
theorem drop_none {u : World} {l : List R} {n : Nat} {ad : Addr} (h : l.length ≤ n) : ∀ j v, ((flat l).drop (n * 5))[j]? = some v → u.cell? (ad.add j) = some v := by
  intro j v hv
  rw [List.drop_eq_nil_of_le (by rw [flat_n]; omega)] at hv
  cases hv
set_option maxHeartbeats 3200000 in
theorem add_spec (b o cap : Nat) (l : List R) (x : R) (w : World) (hr : Rd w w.heap.size (some ⟨b, o, none⟩) (flat l)) (hn : l.length ≤ 1048576) (hcap : l.length ≤ cap) :
    Calls Try.prog 17 #[.slice (some ⟨b, o, none⟩) l.length cap, .agg #[.int .i64 x.f0, .int .i64 x.f1, .int .i64 x.f2, .int .i64 x.f3, .int .i64 x.f4]] w (APost l x w) := by
  obtain ⟨i0, hi, hz0, hz1, hz2⟩ := info_parts info_T
  have HI := Lib.hid hz2; clear hz2
  have HI1 := Lib.hid hz1; clear hz1
  have HR := Lib.hid hr
  have HSRC := Lib.hid (Srcs.of hr); clear hr
  obtain ⟨m, hm⟩ : ∃ m, raw l x = m := ⟨_, rfl⟩
  have HM := Lib.hid hm; clear hm
  go_enter Try.func17, Try.ntmps17
  go_upto_block 0 with fail
  have B := Box.new (Below.refl _ w) [.int .i64 x.f0, .int .i64 x.f1, .int .i64 x.f2, .int .i64 x.f3, .int .i64 x.f4] 25 (g := w.heap.size) rfl
  generalize (w.alloc (.cells #[.int .i64 x.f0, .int .i64 x.f1, .int .i64 x.f2, .int .i64 x.f3, .int .i64 x.f4] 25)) = W1 at B ⊢
  have B_0 := B.cells 0 _ rfl
  have B_1 := B.cells 1 _ rfl
  have B_2 := B.cells 2 _ rfl
  have B_3 := B.cells 3 _ rfl
  have B_4 := B.cells 4 _ rfl
  have B_f0 := B.free 0 (by simp)
  have B_f1 := B.free 1 (by simp)
  have B_f2 := B.free 2 (by simp)
  have B_f3 := B.free 3 (by simp)
  have B_f4 := B.free 4 (by simp)
  have B_t := B.there
  have hW1 := B.there
  go_cut [6] from 8 (fun iv wc => ∃ k : Nat, k ≤ l.length ∧ iv = .int .i64 k ∧ Hid (low l x.f0 = k) ∧ Box w.heap.size [.int .i64 x.f0, .int .i64 x.f1, .int .i64 x.f2, .int .i64 x.f3, .int .i64 x.f4] w wc)
  case first => as_aux_lemma =>
    go_wp2_with fail
    clear B_0 B_1 B_2 B_3 B_4 B_f0 B_f1 B_f2 B_f3 B_f4 B_t
    go_loopw [6] (fun i wr => ∃ k : Nat, k ≤ l.length ∧ i = .int .i64 k ∧ Hid (∀ j (h : j < l.length), j < k → l[j].f0 < x.f0) ∧ Box w.heap.size [.int .i64 x.f0, .int .i64 x.f1, .int .i64 x.f2, .int .i64 x.f3, .int .i64 x.f4] w wr) (fun i _ => l.length - (intOf i).toNat)
    case atStart => exact ⟨0, Nat.zero_le _, rfl, Lib.hid (fun j h hj => by omega), B⟩
    case round =>
      clear B
      obtain ⟨k, hk, rfl, HL, B⟩ := hrel
      have B_0 := B.cells 0 _ rfl
      have B_1 := B.cells 1 _ rfl
      have B_2 := B.cells 2 _ rfl
      have B_3 := B.cells 3 _ rfl
      have B_4 := B.cells 4 _ rfl
      have B_f0 := B.free 0 (by simp)
      have B_f1 := B.free 1 (by simp)
      have B_f2 := B.free 2 (by simp)
      have B_f3 := B.free 3 (by simp)
      have B_f4 := B.free 4 (by simp)
      have B_t := B.there
      by_cases hlt : k < l.length
      · obtain ⟨y, hy⟩ : ∃ y, l[k] = y := ⟨_, rfl⟩
        have h0 : wr.cell? ⟨b, o + k * 5, none⟩ = some (.int .i64 y.f0) := by rw [← hy]; exact HSRC.out wr B.below _ _ (flat_0 l k hlt)
        have HY := Lib.hid hy; clear hy
        by_cases hc : y.f0 < x.f0
        · have e1 : decide (y.f0 < x.f0) = true := decide_eq_true hc
          have e3 : IntKind.i64.wrap ((k : Int) + 1) = k + 1 := IntWalk.i64_in _ (by omega)
          go_wp2_with fail
          go_quiet (fail)
          generalize nq = q1
          go_wp2
          exact ⟨⟨k + 1, hlt, by go_num, Lib.hid (fun j h hj => by
            rcases Nat.lt_or_ge j k with h9 | h9
            · exact HL.out j h h9
            · have : j = k := by omega
              subst this; rw [HY.out]; exact hc), B.more (drew_below _ _)⟩, by simp [intOf]; omega⟩
        · have e1 : decide (y.f0 < x.f0) = false := decide_eq_false hc
          go_wp2_with fail
          go_quiet (fail)
          generalize nq = q1
          go_wp2_with fail
          go_meet
          case rel => exact ⟨k, hk, rfl, Lib.hid (low_is hk HL.out (fun h => by rw [HY.out]; omega)), B.more (drew_below _ _)⟩
      · go_wp2_with fail
        go_quiet (fail)
        generalize nq = q1
        go_wp2_with fail
        go_meet
        case rel => exact ⟨k, hk, rfl, Lib.hid (low_is hk HL.out (fun h => absurd h hlt)), B.more (drew_below _ _)⟩
  case rest =>
    clear B_0 B_1 B_2 B_3 B_4 B_f0 B_f1 B_f2 B_f3 B_f4 B_t
    clear B
    obtain ⟨k, hk, rfl, HLW, B⟩ := hcut
    have B_0 := B.cells 0 _ rfl
    have hmm : m = l.take k ++ x :: l.drop k := by have := HM.out; unfold raw TripI.ins at this; rw [HLW.out] at this; exact this.symm
    have HLM := Lib.hid (show m.length = k + 1 + (l.length - k) by rw [hmm, List.length_append, List.length_cons, List.length_take, List.length_drop]; omega)
    have HFM := Lib.hid (show flat m = flat (l.take k) ++ [.int .i64 x.f0, .int .i64 x.f1, .int .i64 x.f2, .int .i64 x.f3, .int .i64 x.f4] ++ (flat l).drop (k * 5) by
      have h2 : flat (x :: l.drop k) = [.int .i64 x.f0, .int .i64 x.f1, .int .i64 x.f2, .int .i64 x.f3, .int .i64 x.f4] ++ flat (l.drop k) := rfl
      rw [hmm, flat_app, h2, flat_drop, List.append_assoc])
    clear hmm
    go_wp2_with fail
    have hkc : k ≤ cap := by omega
    by_cases hcn : cap = k
    · have hcn2 : k = cap := hcn.symm
      clear hcn
      subst hcn2
      have HCAP := Lib.hid hcap; clear hcap
      refine wp_region_rel [24, 25, 26, 27, 28, 29, 30, 31, 32, 33, 34, 35, 7] (fun L f w' => (Box (w.heap.size) [.int .i64 x.f0, .int .i64 x.f1, .int .i64 x.f2, .int .i64 x.f3, .int .i64 x.f4] w w') ∧ (L 0 → ¬ L 4 → ∃ g, f 24 = .slice (some ⟨g, 0, none⟩) 0 0 ∧ w'.ownsRow (w.heap.size + 1) 25 5 (.slice (some ⟨g, 0, none⟩) 0 0) (0) ([])) ∧ (L 1 → f 25 = .slice (some ⟨b, o, none⟩) l.length k) ∧ (L 2 → f 26 = .int .i64 k) ∧ (L 3 → f 27 = .slice (some ⟨b, o, none⟩) k k) ∧ (L 4 → ¬ L 7 → ∃ A1 c1, f 28 = .slice A1 k c1 ∧ w'.ownsRow (w.heap.size + 1) 25 5 (.slice A1 k c1) (k) (flat (l.take k))) ∧ (L 5 → f 29 = .agg #[.int .i64 x.f0, .int .i64 x.f1, .int .i64 x.f2, .int .i64 x.f3, .int .i64 x.f4]) ∧ (L 6 → ¬ L 7 → ∃ h, f 30 = .slice (some ⟨h, 0, none⟩) 1 1 ∧ Box h [.int .i64 x.f0, .int .i64 x.f1, .int .i64 x.f2, .int .i64 x.f3, .int .i64 x.f4] w w') ∧ (L 7 → ¬ L 11 → ∃ A2 c2, f 31 = .slice A2 (k + 1) c2 ∧ w'.ownsRow (w.heap.size + 1) 25 5 (.slice A2 (k + 1) c2) (k + 1) (flat (l.take k) ++ [.int .i64 x.f0, .int .i64 x.f1, .int .i64 x.f2, .int .i64 x.f3, .int .i64 x.f4])) ∧ (L 8 → f 32 = .slice (some ⟨b, o, none⟩) l.length k) ∧ (L 9 → f 33 = .int .i64 k) ∧ (L 10 → f 34 = .slice (some ⟨b, o, none⟩) (l.length - k) 0) ∧ (L 11 → ∃ A3 c3, f 35 = .slice A3 (k + 1 + (l.length - k)) c3 ∧ w'.ownsRow (w.heap.size + 1) 25 5 (.slice A3 (k + 1 + (l.length - k)) c3) (k + 1 + (l.length - k)) (flat (l.take k) ++ [.int .i64 x.f0, .int .i64 x.f1, .int .i64 x.f2, .int .i64 x.f3, .int .i64 x.f4] ++ (flat l).drop (k * 5))) ∧ (L 12 → ∃ A3 c3, f 7 = .slice A3 (k + 1 + (l.length - k)) c3 ∧ w'.ownsRow (w.heap.size + 1) 25 5 (.slice A3 (k + 1 + (l.length - k)) c3) (k + 1 + (l.length - k)) (flat (l.take k) ++ [.int .i64 x.f0, .int .i64 x.f1, .int .i64 x.f2, .int .i64 x.f3, .int .i64 x.f4] ++ (flat l).drop (k * 5)))) (by kernel_rfl) (by kernel_rfl) (by kernel_rfl) (fun f => ⟨B.drew, fun h => h.elim, fun h => h.elim, fun h => h.elim, fun h => h.elim, fun h => h.elim, fun h => h.elim, fun h => h.elim, fun h => h.elim, fun h => h.elim, fun h => h.elim, fun h => h.elim, fun h => h.elim, fun h => h.elim⟩) ?_ ?_
      · apply RelH.op2
        · intro L f u K hN hS hK
          simp only [puts, Act.put, List.setIfInBounds_toArray, List.set_cons_zero, List.set_cons_succ, upd, Nat.reduceEqDiff, ↓reduceIte, if_true, if_false] at hK ⊢
          have HS9 := Lib.hid hS
          obtain ⟨qB, c0, c1, c2, c3, c4, c5, c6, c7, c8, c9, c10, c11, c12⟩ := hS
          have hv := al (Below.refl _ u) (o := .cells #[] 25)
          have hO := own0 u (w.heap.size + 1) (by have := qB.there; omega)
          clear c0 c1 c2 c3 c4 c5 c6 c7 c8 c9 c10 c11 c12
          go_simp
          obtain ⟨qB, c0, c1, c2, c3, c4, c5, c6, c7, c8, c9, c10, c11, c12⟩ := HS9.out
          exact hK.out _ _ ⟨qB.more hv, fun _ _ => ⟨_, rfl, hO⟩, fun h => c1 (h.resolve_right (by decide)), fun h => c2 (h.resolve_right (by decide)), fun h => c3 (h.resolve_right (by decide)), fun h t0 => (let ⟨A9, c9, e, O9⟩ := (c4 (h.resolve_right (by decide)) (fun z => t0 (.inl z))); ⟨A9, c9, e, own_keep O9 hv⟩), fun h => c5 (h.resolve_right (by decide)), fun h t0 => (let ⟨h, e, X⟩ := (c6 (h.resolve_right (by decide)) (fun z => t0 (.inl z))); ⟨h, e, X.more hv⟩), fun h t0 => (let ⟨A9, c9, e, O9⟩ := (c7 (h.resolve_right (by decide)) (fun z => t0 (.inl z))); ⟨A9, c9, e, own_keep O9 hv⟩), fun h => c8 (h.resolve_right (by decide)), fun h => c9 (h.resolve_right (by decide)), fun h => c10 (h.resolve_right (by decide)), fun h => (let ⟨A9, c9, e, O9⟩ := (c11 (h.resolve_right (by decide))); ⟨A9, c9, e, own_keep O9 hv⟩), fun h => (let ⟨A9, c9, e, O9⟩ := (c12 (h.resolve_right (by decide))); ⟨A9, c9, e, own_keep O9 hv⟩)⟩ _ rfl
        apply RelH.op2
        · intro L f u K hN hS hK
          simp only [puts, Act.put, List.setIfInBounds_toArray, List.set_cons_zero, List.set_cons_succ, upd, Nat.reduceEqDiff, ↓reduceIte, if_true, if_false] at hK ⊢
          have HS9 := Lib.hid hS
          obtain ⟨qB, c0, c1, c2, c3, c4, c5, c6, c7, c8, c9, c10, c11, c12⟩ := hS
          clear c0 c1 c2 c3 c4 c5 c6 c7 c8 c9 c10 c11 c12
          go_simp
          obtain ⟨qB, c0, c1, c2, c3, c4, c5, c6, c7, c8, c9, c10, c11, c12⟩ := HS9.out
          exact hK.out _ _ ⟨qB, fun h t0 => c0 (h.resolve_right (by decide)) (fun z => t0 (.inl z)), fun _ => rfl, fun h => c2 (h.resolve_right (by decide)), fun h => c3 (h.resolve_right (by decide)), fun h t0 => c4 (h.resolve_right (by decide)) (fun z => t0 (.inl z)), fun h => c5 (h.resolve_right (by decide)), fun h t0 => c6 (h.resolve_right (by decide)) (fun z => t0 (.inl z)), fun h t0 => c7 (h.resolve_right (by decide)) (fun z => t0 (.inl z)), fun h => c8 (h.resolve_right (by decide)), fun h => c9 (h.resolve_right (by decide)), fun h => c10 (h.resolve_right (by decide)), fun h => c11 (h.resolve_right (by decide)), fun h => c12 (h.resolve_right (by decide))⟩ _ rfl
        apply RelH.op2
        · intro L f u K hN hS hK
          simp only [puts, Act.put, List.setIfInBounds_toArray, List.set_cons_zero, List.set_cons_succ, upd, Nat.reduceEqDiff, ↓reduceIte, if_true, if_false] at hK ⊢
          have HS9 := Lib.hid hS
          obtain ⟨qB, c0, c1, c2, c3, c4, c5, c6, c7, c8, c9, c10, c11, c12⟩ := hS
          clear c0 c1 c2 c3 c4 c5 c6 c7 c8 c9 c10 c11 c12
          go_simp
          obtain ⟨qB, c0, c1, c2, c3, c4, c5, c6, c7, c8, c9, c10, c11, c12⟩ := HS9.out
          exact hK.out _ _ ⟨qB, fun h t0 => c0 (h.resolve_right (by decide)) (fun z => t0 (.inl z)), fun h => c1 (h.resolve_right (by decide)), fun _ => rfl, fun h => c3 (h.resolve_right (by decide)), fun h t0 => c4 (h.resolve_right (by decide)) (fun z => t0 (.inl z)), fun h => c5 (h.resolve_right (by decide)), fun h t0 => c6 (h.resolve_right (by decide)) (fun z => t0 (.inl z)), fun h t0 => c7 (h.resolve_right (by decide)) (fun z => t0 (.inl z)), fun h => c8 (h.resolve_right (by decide)), fun h => c9 (h.resolve_right (by decide)), fun h => c10 (h.resolve_right (by decide)), fun h => c11 (h.resolve_right (by decide)), fun h => c12 (h.resolve_right (by decide))⟩ _ rfl
        apply RelH.op2
        · intro L f u K hN hS hK
          simp only [puts, Act.put, List.setIfInBounds_toArray, List.set_cons_zero, List.set_cons_succ, upd, Nat.reduceEqDiff, ↓reduceIte, if_true, if_false] at hK ⊢
          have HS9 := Lib.hid hS
          obtain ⟨qB, c0, c1, c2, c3, c4, c5, c6, c7, c8, c9, c10, c11, c12⟩ := hS
          have e1 := c1 (hN.out.2 1 (by decide +kernel))
          have e2 := c2 (hN.out.2 2 (by decide +kernel))
          clear c0 c1 c2 c3 c4 c5 c6 c7 c8 c9 c10 c11 c12
          go_simp
          obtain ⟨qB, c0, c1, c2, c3, c4, c5, c6, c7, c8, c9, c10, c11, c12⟩ := HS9.out
          exact hK.out _ _ ⟨qB, fun h t0 => c0 (h.resolve_right (by decide)) (fun z => t0 (.inl z)), fun h => c1 (h.resolve_right (by decide)), fun h => c2 (h.resolve_right (by decide)), fun _ => rfl, fun h t0 => c4 (h.resolve_right (by decide)) (fun z => t0 (.inl z)), fun h => c5 (h.resolve_right (by decide)), fun h t0 => c6 (h.resolve_right (by decide)) (fun z => t0 (.inl z)), fun h t0 => c7 (h.resolve_right (by decide)) (fun z => t0 (.inl z)), fun h => c8 (h.resolve_right (by decide)), fun h => c9 (h.resolve_right (by decide)), fun h => c10 (h.resolve_right (by decide)), fun h => c11 (h.resolve_right (by decide)), fun h => c12 (h.resolve_right (by decide))⟩ _ (by simp only [e1, e2] <;> rfl)
        apply RelH.op2
        · intro L f u K hN hS hK
          simp only [puts, Act.put, List.setIfInBounds_toArray, List.set_cons_zero, List.set_cons_succ, upd, Nat.reduceEqDiff, ↓reduceIte, if_true, if_false] at hK ⊢
          have HS9 := Lib.hid hS
          obtain ⟨qB, c0, c1, c2, c3, c4, c5, c6, c7, c8, c9, c10, c11, c12⟩ := hS
          obtain ⟨g, h0, O0⟩ := c0 (hN.out.2 0 (by decide +kernel)) (hN.out.1 4 (by decide +kernel))
          obtain h3 := c3 (hN.out.2 3 (by decide +kernel))
          refine step_fresh rfl (.tmp 24) (.tmp 27) 35 rfl (w.heap.size + 1) 25 i0 _ 5 40 Try.underlying35 hi hz0 HI1.out HI.out rfl (by decide) g h0 O0 ⟨b, o, none⟩ k k (flat (l.take k)) h3 (by rw [flat_n, List.length_take]; omega) (HSRC.out.take qB.below k) (flat_one _) (by unfold maxLen; omega) (by omega) (by have := qB.there; omega) ?_
          intro v1 uw1 O1 hv
          obtain ⟨A1, d1, rfl⟩ := own_form O1
          exact hK.out (.slice A1 k d1) uw1 ⟨qB.more hv, fun h t0 => (t0 (by simp)).elim, fun h => c1 (h.resolve_right (by decide)), fun h => c2 (h.resolve_right (by decide)), fun h => c3 (h.resolve_right (by decide)), fun _ _ => ⟨A1, d1, rfl, O1⟩, fun h => c5 (h.resolve_right (by decide)), fun h t0 => (let ⟨h, e, X⟩ := (c6 (h.resolve_right (by decide)) (fun z => t0 (.inl z))); ⟨h, e, X.more hv⟩), fun h t0 => (let ⟨A9, c9, e, O9⟩ := (c7 (h.resolve_right (by decide)) (fun z => t0 (.inl z))); ⟨A9, c9, e, own_keep O9 hv⟩), fun h => c8 (h.resolve_right (by decide)), fun h => c9 (h.resolve_right (by decide)), fun h => c10 (h.resolve_right (by decide)), fun h => (let ⟨A9, c9, e, O9⟩ := (c11 (h.resolve_right (by decide))); ⟨A9, c9, e, own_keep O9 hv⟩), fun h => (let ⟨A9, c9, e, O9⟩ := (c12 (h.resolve_right (by decide))); ⟨A9, c9, e, own_keep O9 hv⟩)⟩ _ rfl
        apply RelH.op2
        · intro L f u K hN hS hK
          simp only [puts, Act.put, List.setIfInBounds_toArray, List.set_cons_zero, List.set_cons_succ, upd, Nat.reduceEqDiff, ↓reduceIte, if_true, if_false] at hK ⊢
          have HS9 := Lib.hid hS
          obtain ⟨qB, c0, c1, c2, c3, c4, c5, c6, c7, c8, c9, c10, c11, c12⟩ := hS
          have qB_0 := qB.cells 0 _ rfl
          have qB_1 := qB.cells 1 _ rfl
          have qB_2 := qB.cells 2 _ rfl
          have qB_3 := qB.cells 3 _ rfl
          have qB_4 := qB.cells 4 _ rfl
          clear c0 c1 c2 c3 c4 c5 c6 c7 c8 c9 c10 c11 c12
          go_simp
          obtain ⟨qB, c0, c1, c2, c3, c4, c5, c6, c7, c8, c9, c10, c11, c12⟩ := HS9.out
          exact hK.out _ _ ⟨qB, fun h t0 => c0 (h.resolve_right (by decide)) (fun z => t0 (.inl z)), fun h => c1 (h.resolve_right (by decide)), fun h => c2 (h.resolve_right (by decide)), fun h => c3 (h.resolve_right (by decide)), fun h t0 => c4 (h.resolve_right (by decide)) (fun z => t0 (.inl z)), fun _ => rfl, fun h t0 => c6 (h.resolve_right (by decide)) (fun z => t0 (.inl z)), fun h t0 => c7 (h.resolve_right (by decide)) (fun z => t0 (.inl z)), fun h => c8 (h.resolve_right (by decide)), fun h => c9 (h.resolve_right (by decide)), fun h => c10 (h.resolve_right (by decide)), fun h => c11 (h.resolve_right (by decide)), fun h => c12 (h.resolve_right (by decide))⟩ _ rfl
        apply RelH.op2
        · intro L f u K hN hS hK
          simp only [puts, Act.put, List.setIfInBounds_toArray, List.set_cons_zero, List.set_cons_succ, upd, Nat.reduceEqDiff, ↓reduceIte, if_true, if_false] at hK ⊢
          have HS9 := Lib.hid hS
          obtain ⟨qB, c0, c1, c2, c3, c4, c5, c6, c7, c8, c9, c10, c11, c12⟩ := hS
          have e5 := c5 (hN.out.2 5 (by decide +kernel))
          have hv := al (Below.refl _ u) (o := .cells #[.int .i64 x.f0, .int .i64 x.f1, .int .i64 x.f2, .int .i64 x.f3, .int .i64 x.f4] 25)
          have hX := Box.new qB.below [.int .i64 x.f0, .int .i64 x.f1, .int .i64 x.f2, .int .i64 x.f3, .int .i64 x.f4] 25 (g := u.heap.size) rfl
          clear c0 c1 c2 c3 c4 c5 c6 c7 c8 c9 c10 c11 c12
          go_simp
          obtain ⟨qB, c0, c1, c2, c3, c4, c5, c6, c7, c8, c9, c10, c11, c12⟩ := HS9.out
          exact hK.out _ _ ⟨qB.more hv, fun h t0 => (let ⟨g, e, O9⟩ := (c0 (h.resolve_right (by decide)) (fun z => t0 (.inl z))); ⟨g, e, own_keep O9 hv⟩), fun h => c1 (h.resolve_right (by decide)), fun h => c2 (h.resolve_right (by decide)), fun h => c3 (h.resolve_right (by decide)), fun h t0 => (let ⟨A9, c9, e, O9⟩ := (c4 (h.resolve_right (by decide)) (fun z => t0 (.inl z))); ⟨A9, c9, e, own_keep O9 hv⟩), fun h => c5 (h.resolve_right (by decide)), fun _ _ => ⟨_, rfl, hX⟩, fun h t0 => (let ⟨A9, c9, e, O9⟩ := (c7 (h.resolve_right (by decide)) (fun z => t0 (.inl z))); ⟨A9, c9, e, own_keep O9 hv⟩), fun h => c8 (h.resolve_right (by decide)), fun h => c9 (h.resolve_right (by decide)), fun h => c10 (h.resolve_right (by decide)), fun h => (let ⟨A9, c9, e, O9⟩ := (c11 (h.resolve_right (by decide))); ⟨A9, c9, e, own_keep O9 hv⟩), fun h => (let ⟨A9, c9, e, O9⟩ := (c12 (h.resolve_right (by decide))); ⟨A9, c9, e, own_keep O9 hv⟩)⟩ _ (by simp only [e5] <;> rfl)
        apply RelH.op2
        · intro L f u K hN hS hK
          simp only [puts, Act.put, List.setIfInBounds_toArray, List.set_cons_zero, List.set_cons_succ, upd, Nat.reduceEqDiff, ↓reduceIte, if_true, if_false] at hK ⊢
          have HS9 := Lib.hid hS
          obtain ⟨qB, c0, c1, c2, c3, c4, c5, c6, c7, c8, c9, c10, c11, c12⟩ := hS
          obtain ⟨A1, d1, h4, O4⟩ := c4 (hN.out.2 4 (by decide +kernel)) (hN.out.1 7 (by decide +kernel))
          obtain ⟨g6, h6, X⟩ := c6 (hN.out.2 6 (by decide +kernel)) (hN.out.1 7 (by decide +kernel))
          refine step_own rfl (.tmp 28) (.tmp 30) 35 rfl (w.heap.size + 1) 25 i0 _ 5 40 Try.underlying35 hi hz0 HI1.out HI.out rfl (by decide) (.slice A1 k d1) k (flat (l.take k)) h4 O4 ⟨g6, 0, none⟩ 1 1 [.int .i64 x.f0, .int .i64 x.f1, .int .i64 x.f2, .int .i64 x.f3, .int .i64 x.f4] h6 rfl (box_news X) (xone x) (by unfold maxLen; omega) (by omega) (by have := qB.there; omega) ?_
          intro v2 uw1 O2 hg2 _
          obtain ⟨A2, d2, rfl⟩ := own_form O2
          have hB2 := qB.grown hg2 (fun k9 hk => own_ge O4 k9 hk)
          exact hK.out (.slice A2 (k + 1) d2) uw1 ⟨hB2, fun h t0 => (t0 (.inl (hN.out.2 4 (by decide +kernel)))).elim, fun h => c1 (h.resolve_right (by decide)), fun h => c2 (h.resolve_right (by decide)), fun h => c3 (h.resolve_right (by decide)), fun h t0 => (t0 (by simp)).elim, fun h => c5 (h.resolve_right (by decide)), fun h t0 => (t0 (by simp)).elim, fun _ _ => ⟨A2, d2, rfl, O2⟩, fun h => c8 (h.resolve_right (by decide)), fun h => c9 (h.resolve_right (by decide)), fun h => c10 (h.resolve_right (by decide)), fun h => absurd (h.resolve_right (by decide)) (hN.out.1 11 (by decide +kernel)), fun h => absurd (h.resolve_right (by decide)) (hN.out.1 12 (by decide +kernel))⟩ _ rfl
        apply RelH.op2
        · intro L f u K hN hS hK
          simp only [puts, Act.put, List.setIfInBounds_toArray, List.set_cons_zero, List.set_cons_succ, upd, Nat.reduceEqDiff, ↓reduceIte, if_true, if_false] at hK ⊢
          have HS9 := Lib.hid hS
          obtain ⟨qB, c0, c1, c2, c3, c4, c5, c6, c7, c8, c9, c10, c11, c12⟩ := hS
          clear c0 c1 c2 c3 c4 c5 c6 c7 c8 c9 c10 c11 c12
          go_simp
          obtain ⟨qB, c0, c1, c2, c3, c4, c5, c6, c7, c8, c9, c10, c11, c12⟩ := HS9.out
          exact hK.out _ _ ⟨qB, fun h t0 => c0 (h.resolve_right (by decide)) (fun z => t0 (.inl z)), fun h => c1 (h.resolve_right (by decide)), fun h => c2 (h.resolve_right (by decide)), fun h => c3 (h.resolve_right (by decide)), fun h t0 => c4 (h.resolve_right (by decide)) (fun z => t0 (.inl z)), fun h => c5 (h.resolve_right (by decide)), fun h t0 => c6 (h.resolve_right (by decide)) (fun z => t0 (.inl z)), fun h t0 => c7 (h.resolve_right (by decide)) (fun z => t0 (.inl z)), fun _ => rfl, fun h => c9 (h.resolve_right (by decide)), fun h => c10 (h.resolve_right (by decide)), fun h => c11 (h.resolve_right (by decide)), fun h => c12 (h.resolve_right (by decide))⟩ _ rfl
        apply RelH.op2
        · intro L f u K hN hS hK
          simp only [puts, Act.put, List.setIfInBounds_toArray, List.set_cons_zero, List.set_cons_succ, upd, Nat.reduceEqDiff, ↓reduceIte, if_true, if_false] at hK ⊢
          have HS9 := Lib.hid hS
          obtain ⟨qB, c0, c1, c2, c3, c4, c5, c6, c7, c8, c9, c10, c11, c12⟩ := hS
          clear c0 c1 c2 c3 c4 c5 c6 c7 c8 c9 c10 c11 c12
          go_simp
          obtain ⟨qB, c0, c1, c2, c3, c4, c5, c6, c7, c8, c9, c10, c11, c12⟩ := HS9.out
          exact hK.out _ _ ⟨qB, fun h t0 => c0 (h.resolve_right (by decide)) (fun z => t0 (.inl z)), fun h => c1 (h.resolve_right (by decide)), fun h => c2 (h.resolve_right (by decide)), fun h => c3 (h.resolve_right (by decide)), fun h t0 => c4 (h.resolve_right (by decide)) (fun z => t0 (.inl z)), fun h => c5 (h.resolve_right (by decide)), fun h t0 => c6 (h.resolve_right (by decide)) (fun z => t0 (.inl z)), fun h t0 => c7 (h.resolve_right (by decide)) (fun z => t0 (.inl z)), fun h => c8 (h.resolve_right (by decide)), fun _ => rfl, fun h => c10 (h.resolve_right (by decide)), fun h => c11 (h.resolve_right (by decide)), fun h => c12 (h.resolve_right (by decide))⟩ _ rfl
        apply RelH.op2
        · intro L f u K hN hS hK
          simp only [puts, Act.put, List.setIfInBounds_toArray, List.set_cons_zero, List.set_cons_succ, upd, Nat.reduceEqDiff, ↓reduceIte, if_true, if_false] at hK ⊢
          have HS9 := Lib.hid hS
          obtain ⟨qB, c0, c1, c2, c3, c4, c5, c6, c7, c8, c9, c10, c11, c12⟩ := hS
          have e8 := c8 (hN.out.2 8 (by decide +kernel))
          have e9 := c9 (hN.out.2 9 (by decide +kernel))
          clear c0 c1 c2 c3 c4 c5 c6 c7 c8 c9 c10 c11 c12
          go_simp
          obtain ⟨qB, c0, c1, c2, c3, c4, c5, c6, c7, c8, c9, c10, c11, c12⟩ := HS9.out
          exact hK.out _ _ ⟨qB, fun h t0 => c0 (h.resolve_right (by decide)) (fun z => t0 (.inl z)), fun h => c1 (h.resolve_right (by decide)), fun h => c2 (h.resolve_right (by decide)), fun h => c3 (h.resolve_right (by decide)), fun h t0 => c4 (h.resolve_right (by decide)) (fun z => t0 (.inl z)), fun h => c5 (h.resolve_right (by decide)), fun h t0 => c6 (h.resolve_right (by decide)) (fun z => t0 (.inl z)), fun h t0 => c7 (h.resolve_right (by decide)) (fun z => t0 (.inl z)), fun h => c8 (h.resolve_right (by decide)), fun h => c9 (h.resolve_right (by decide)), fun _ => rfl, fun h => c11 (h.resolve_right (by decide)), fun h => c12 (h.resolve_right (by decide))⟩ _ (by simp only [e8, e9] <;> rfl)
        apply RelH.op2
        · intro L f u K hN hS hK
          simp only [puts, Act.put, List.setIfInBounds_toArray, List.set_cons_zero, List.set_cons_succ, upd, Nat.reduceEqDiff, ↓reduceIte, if_true, if_false] at hK ⊢
          have HS9 := Lib.hid hS
          obtain ⟨qB, c0, c1, c2, c3, c4, c5, c6, c7, c8, c9, c10, c11, c12⟩ := hS
          obtain ⟨A2, d2, h7, O7⟩ := c7 (hN.out.2 7 (by decide +kernel)) (hN.out.1 11 (by decide +kernel))
          obtain h10 := c10 (hN.out.2 10 (by decide +kernel))
          refine step_own rfl (.tmp 31) (.tmp 34) 35 rfl (w.heap.size + 1) 25 i0 _ 5 40 Try.underlying35 hi hz0 HI1.out HI.out rfl (by decide) (.slice A2 (k + 1) d2) (k + 1) (flat (l.take k) ++ [.int .i64 x.f0, .int .i64 x.f1, .int .i64 x.f2, .int .i64 x.f3, .int .i64 x.f4]) h7 O7 ⟨b, o, none⟩ (l.length - k) 0 ((flat l).drop (k * 5)) h10 (by rw [List.length_drop, flat_n]; omega) (drop_none (by have := HCAP.out; omega)) (fun v9 h9 => flat_one l v9 (List.mem_of_mem_drop h9)) (by unfold maxLen; omega) (by omega) (by have := qB.there; omega) ?_
          intro v3 uw1 O3 hg3 _
          obtain ⟨A3, d3, rfl⟩ := own_form O3
          have hB2 := qB.grown hg3 (fun k9 hk => own_ge O7 k9 hk)
          exact hK.out (.slice A3 (k + 1 + (l.length - k)) d3) uw1 ⟨hB2, fun h t0 => (t0 (.inl (hN.out.2 4 (by decide +kernel)))).elim, fun h => c1 (h.resolve_right (by decide)), fun h => c2 (h.resolve_right (by decide)), fun h => c3 (h.resolve_right (by decide)), fun h t0 => (t0 (.inl (hN.out.2 7 (by decide +kernel)))).elim, fun h => c5 (h.resolve_right (by decide)), fun h t0 => (t0 (.inl (hN.out.2 7 (by decide +kernel)))).elim, fun h t0 => (t0 (by simp)).elim, fun h => c8 (h.resolve_right (by decide)), fun h => c9 (h.resolve_right (by decide)), fun h => c10 (h.resolve_right (by decide)), fun _ => ⟨A3, d3, rfl, O3⟩, fun h => absurd (h.resolve_right (by decide)) (hN.out.1 12 (by decide +kernel))⟩ _ rfl
        apply RelH.op2
        · intro L f u K hN hS hK
          simp only [puts, Act.put, List.setIfInBounds_toArray, List.set_cons_zero, List.set_cons_succ, upd, Nat.reduceEqDiff, ↓reduceIte, if_true, if_false] at hK ⊢
          have HS9 := Lib.hid hS
          obtain ⟨qB, c0, c1, c2, c3, c4, c5, c6, c7, c8, c9, c10, c11, c12⟩ := hS
          obtain ⟨A3, d3, e11, O3⟩ := c11 (hN.out.2 11 (by decide +kernel))
          clear c0 c1 c2 c3 c4 c5 c6 c7 c8 c9 c10 c11 c12
          go_simp
          obtain ⟨qB, c0, c1, c2, c3, c4, c5, c6, c7, c8, c9, c10, c11, c12⟩ := HS9.out
          exact hK.out _ _ ⟨qB, fun h t0 => c0 (h.resolve_right (by decide)) (fun z => t0 (.inl z)), fun h => c1 (h.resolve_right (by decide)), fun h => c2 (h.resolve_right (by decide)), fun h => c3 (h.resolve_right (by decide)), fun h t0 => c4 (h.resolve_right (by decide)) (fun z => t0 (.inl z)), fun h => c5 (h.resolve_right (by decide)), fun h t0 => c6 (h.resolve_right (by decide)) (fun z => t0 (.inl z)), fun h t0 => c7 (h.resolve_right (by decide)) (fun z => t0 (.inl z)), fun h => c8 (h.resolve_right (by decide)), fun h => c9 (h.resolve_right (by decide)), fun h => c10 (h.resolve_right (by decide)), fun h => c11 (h.resolve_right (by decide)), fun _ => ⟨A3, d3, rfl, O3⟩⟩ _ (by simp only [e11] <;> rfl)
        exact RelH.done
      intro L f V0 hL hS
      simp only [puts, Act.put, List.setIfInBounds_toArray, List.set_cons_zero, List.set_cons_succ]
      obtain ⟨qB, c0, c1, c2, c3, c4, c5, c6, c7, c8, c9, c10, c11, c12⟩ := hS
      clear B
      have B := qB
      obtain ⟨A3, d3, e12, O3⟩ := c12 (hL 12 (by decide))
      rw [← HLM.out] at e12 O3
      rw [← HFM.out] at O3
      simp only [e12]
      clear e12 c0 c1 c2 c3 c4 c5 c6 c7 c8 c9 c10 c11 c12 hL qB
      have B_0 := B.cells 0 _ rfl
      have B_1 := B.cells 1 _ rfl
      have B_2 := B.cells 2 _ rfl
      have B_3 := B.cells 3 _ rfl
      have B_4 := B.cells 4 _ rfl
      have B_f0 := B.free 0 (by simp)
      have B_f1 := B.free 1 (by simp)
      have B_f2 := B.free 2 (by simp)
      have B_f3 := B.free 3 (by simp)
      have B_f4 := B.free 4 (by simp)
      have B_t := B.there
      go_wp2_with fail
      refine (good_spec (some ⟨b, o, none⟩) k l _ ((HR.out.below B.below (Nat.le_refl _)).mono B.below.size) hn).mono ?_
      rintro e v1 ⟨rfl, hv1⟩
      clear B_0 B_1 B_2 B_3 B_4 B_f0 B_f1 B_f2 B_f3 B_f4 B_t
      replace B := B.more hv1
      replace O3 := own_keep O3 hv1
      have zhv1 := hv1.size
      clear hv1
      have B_0 := B.cells 0 _ rfl
      have B_1 := B.cells 1 _ rfl
      have B_2 := B.cells 2 _ rfl
      have B_3 := B.cells 3 _ rfl
      have B_4 := B.cells 4 _ rfl
      have B_f0 := B.free 0 (by simp)
      have B_f1 := B.free 1 (by simp)
      have B_f2 := B.free 2 (by simp)
      have B_f3 := B.free 3 (by simp)
      have B_f4 := B.free 4 (by simp)
      have B_t := B.there
      cases hg : good l
      · go_wp2
        go_ret2
        exact a_bad (add1 hg) B.below
      have HG := Lib.hid hg; clear hg
      have h10 := (good_all HG.out).1
      go_wp2_with fail
      refine (good_spec A3 d3 m _ (Rd.of_own O3) (by rw [HLM.out]; omega)).mono ?_
      rintro e v2 ⟨rfl, hv2⟩
      clear B_0 B_1 B_2 B_3 B_4 B_f0 B_f1 B_f2 B_f3 B_f4 B_t
      replace B := B.more hv2
      replace O3 := own_keep O3 hv2
      have zhv2 := hv2.size
      clear hv2
      have B_0 := B.cells 0 _ rfl
      have B_1 := B.cells 1 _ rfl
      have B_2 := B.cells 2 _ rfl
      have B_3 := B.cells 3 _ rfl
      have B_4 := B.cells 4 _ rfl
      have B_f0 := B.free 0 (by simp)
      have B_f1 := B.free 1 (by simp)
      have B_f2 := B.free 2 (by simp)
      have B_f3 := B.free 3 (by simp)
      have B_f4 := B.free 4 (by simp)
      have B_t := B.there
      cases h1 : good m
      · go_wp2
        go_ret2
        exact a_bad (add2 (by rw [HM.out]; exact h1)) B.below
      have H1 := Lib.hid h1; clear h1
      go_wp2_with fail
      refine (free_spec (some ⟨b, o, none⟩) k l x (good_mem HG.out) (good_mem H1.out x (by rw [← HM.out]; exact raw_mem l x)) _ ((HR.out.below B.below (Nat.le_refl _)).mono B.below.size) hn).mono ?_
      rintro e v3 ⟨rfl, hv3⟩
      clear B_0 B_1 B_2 B_3 B_4 B_f0 B_f1 B_f2 B_f3 B_f4 B_t
      replace B := B.more hv3
      replace O3 := own_keep O3 hv3
      have zhv3 := hv3.size
      clear hv3
      have B_0 := B.cells 0 _ rfl
      have B_1 := B.cells 1 _ rfl
      have B_2 := B.cells 2 _ rfl
      have B_3 := B.cells 3 _ rfl
      have B_4 := B.cells 4 _ rfl
      have B_f0 := B.free 0 (by simp)
      have B_f1 := B.free 1 (by simp)
      have B_f2 := B.free 2 (by simp)
      have B_f3 := B.free 3 (by simp)
      have B_f4 := B.free 4 (by simp)
      have B_t := B.there
      cases h2 : freeB l x
      · go_wp2
        go_ret2
        exact a_bad (add3 h2) B.below
      · go_wp2
        go_ret2
        exact a_good (add4 HG.out (by rw [HM.out]; exact H1.out) h2) HM.out B.below (Nat.le_succ _) O3
    · refine wp_region_rel [24, 25, 26, 27, 28, 29, 30, 31, 32, 33, 34, 35, 7] (fun L f w' => (Box (w.heap.size) [.int .i64 x.f0, .int .i64 x.f1, .int .i64 x.f2, .int .i64 x.f3, .int .i64 x.f4] w w') ∧ (L 0 → ¬ L 4 → ∃ g, f 24 = .slice (some ⟨g, 0, none⟩) 0 0 ∧ w'.ownsRow (w.heap.size + 1) 25 5 (.slice (some ⟨g, 0, none⟩) 0 0) (0) ([])) ∧ (L 1 → f 25 = .slice (some ⟨b, o, none⟩) l.length cap) ∧ (L 2 → f 26 = .int .i64 k) ∧ (L 3 → f 27 = .slice (some ⟨b, o, none⟩) k cap) ∧ (L 4 → ¬ L 7 → ∃ A1 c1, f 28 = .slice A1 k c1 ∧ w'.ownsRow (w.heap.size + 1) 25 5 (.slice A1 k c1) (k) (flat (l.take k))) ∧ (L 5 → f 29 = .agg #[.int .i64 x.f0, .int .i64 x.f1, .int .i64 x.f2, .int .i64 x.f3, .int .i64 x.f4]) ∧ (L 6 → ¬ L 7 → ∃ h, f 30 = .slice (some ⟨h, 0, none⟩) 1 1 ∧ Box h [.int .i64 x.f0, .int .i64 x.f1, .int .i64 x.f2, .int .i64 x.f3, .int .i64 x.f4] w w') ∧ (L 7 → ¬ L 11 → ∃ A2 c2, f 31 = .slice A2 (k + 1) c2 ∧ w'.ownsRow (w.heap.size + 1) 25 5 (.slice A2 (k + 1) c2) (k + 1) (flat (l.take k) ++ [.int .i64 x.f0, .int .i64 x.f1, .int .i64 x.f2, .int .i64 x.f3, .int .i64 x.f4])) ∧ (L 8 → f 32 = .slice (some ⟨b, o, none⟩) l.length cap) ∧ (L 9 → f 33 = .int .i64 k) ∧ (L 10 → f 34 = .slice (some ⟨b, o + k * 5, none⟩) (l.length - k) (cap - k)) ∧ (L 11 → ∃ A3 c3, f 35 = .slice A3 (k + 1 + (l.length - k)) c3 ∧ w'.ownsRow (w.heap.size + 1) 25 5 (.slice A3 (k + 1 + (l.length - k)) c3) (k + 1 + (l.length - k)) (flat (l.take k) ++ [.int .i64 x.f0, .int .i64 x.f1, .int .i64 x.f2, .int .i64 x.f3, .int .i64 x.f4] ++ (flat l).drop (k * 5))) ∧ (L 12 → ∃ A3 c3, f 7 = .slice A3 (k + 1 + (l.length - k)) c3 ∧ w'.ownsRow (w.heap.size + 1) 25 5 (.slice A3 (k + 1 + (l.length - k)) c3) (k + 1 + (l.length - k)) (flat (l.take k) ++ [.int .i64 x.f0, .int .i64 x.f1, .int .i64 x.f2, .int .i64 x.f3, .int .i64 x.f4] ++ (flat l).drop (k * 5)))) (by kernel_rfl) (by kernel_rfl) (by kernel_rfl) (fun f => ⟨B.drew, fun h => h.elim, fun h => h.elim, fun h => h.elim, fun h => h.elim, fun h => h.elim, fun h => h.elim, fun h => h.elim, fun h => h.elim, fun h => h.elim, fun h => h.elim, fun h => h.elim, fun h => h.elim, fun h => h.elim⟩) ?_ ?_
      · apply RelH.op2
        · intro L f u K hN hS hK
          simp only [puts, Act.put, List.setIfInBounds_toArray, List.set_cons_zero, List.set_cons_succ, upd, Nat.reduceEqDiff, ↓reduceIte, if_true, if_false] at hK ⊢
          have HS9 := Lib.hid hS
          obtain ⟨qB, c0, c1, c2, c3, c4, c5, c6, c7, c8, c9, c10, c11, c12⟩ := hS
          have hv := al (Below.refl _ u) (o := .cells #[] 25)
          have hO := own0 u (w.heap.size + 1) (by have := qB.there; omega)
          clear c0 c1 c2 c3 c4 c5 c6 c7 c8 c9 c10 c11 c12
          go_simp
          obtain ⟨qB, c0, c1, c2, c3, c4, c5, c6, c7, c8, c9, c10, c11, c12⟩ := HS9.out
          exact hK.out _ _ ⟨qB.more hv, fun _ _ => ⟨_, rfl, hO⟩, fun h => c1 (h.resolve_right (by decide)), fun h => c2 (h.resolve_right (by decide)), fun h => c3 (h.resolve_right (by decide)), fun h t0 => (let ⟨A9, c9, e, O9⟩ := (c4 (h.resolve_right (by decide)) (fun z => t0 (.inl z))); ⟨A9, c9, e, own_keep O9 hv⟩), fun h => c5 (h.resolve_right (by decide)), fun h t0 => (let ⟨h, e, X⟩ := (c6 (h.resolve_right (by decide)) (fun z => t0 (.inl z))); ⟨h, e, X.more hv⟩), fun h t0 => (let ⟨A9, c9, e, O9⟩ := (c7 (h.resolve_right (by decide)) (fun z => t0 (.inl z))); ⟨A9, c9, e, own_keep O9 hv⟩), fun h => c8 (h.resolve_right (by decide)), fun h => c9 (h.resolve_right (by decide)), fun h => c10 (h.resolve_right (by decide)), fun h => (let ⟨A9, c9, e, O9⟩ := (c11 (h.resolve_right (by decide))); ⟨A9, c9, e, own_keep O9 hv⟩), fun h => (let ⟨A9, c9, e, O9⟩ := (c12 (h.resolve_right (by decide))); ⟨A9, c9, e, own_keep O9 hv⟩)⟩ _ rfl
        apply RelH.op2
        · intro L f u K hN hS hK
          simp only [puts, Act.put, List.setIfInBounds_toArray, List.set_cons_zero, List.set_cons_succ, upd, Nat.reduceEqDiff, ↓reduceIte, if_true, if_false] at hK ⊢
          have HS9 := Lib.hid hS
          obtain ⟨qB, c0, c1, c2, c3, c4, c5, c6, c7, c8, c9, c10, c11, c12⟩ := hS
          clear c0 c1 c2 c3 c4 c5 c6 c7 c8 c9 c10 c11 c12
          go_simp
          obtain ⟨qB, c0, c1, c2, c3, c4, c5, c6, c7, c8, c9, c10, c11, c12⟩ := HS9.out
          exact hK.out _ _ ⟨qB, fun h t0 => c0 (h.resolve_right (by decide)) (fun z => t0 (.inl z)), fun _ => rfl, fun h => c2 (h.resolve_right (by decide)), fun h => c3 (h.resolve_right (by decide)), fun h t0 => c4 (h.resolve_right (by decide)) (fun z => t0 (.inl z)), fun h => c5 (h.resolve_right (by decide)), fun h t0 => c6 (h.resolve_right (by decide)) (fun z => t0 (.inl z)), fun h t0 => c7 (h.resolve_right (by decide)) (fun z => t0 (.inl z)), fun h => c8 (h.resolve_right (by decide)), fun h => c9 (h.resolve_right (by decide)), fun h => c10 (h.resolve_right (by decide)), fun h => c11 (h.resolve_right (by decide)), fun h => c12 (h.resolve_right (by decide))⟩ _ rfl
        apply RelH.op2
        · intro L f u K hN hS hK
          simp only [puts, Act.put, List.setIfInBounds_toArray, List.set_cons_zero, List.set_cons_succ, upd, Nat.reduceEqDiff, ↓reduceIte, if_true, if_false] at hK ⊢
          have HS9 := Lib.hid hS
          obtain ⟨qB, c0, c1, c2, c3, c4, c5, c6, c7, c8, c9, c10, c11, c12⟩ := hS
          clear c0 c1 c2 c3 c4 c5 c6 c7 c8 c9 c10 c11 c12
          go_simp
          obtain ⟨qB, c0, c1, c2, c3, c4, c5, c6, c7, c8, c9, c10, c11, c12⟩ := HS9.out
          exact hK.out _ _ ⟨qB, fun h t0 => c0 (h.resolve_right (by decide)) (fun z => t0 (.inl z)), fun h => c1 (h.resolve_right (by decide)), fun _ => rfl, fun h => c3 (h.resolve_right (by decide)), fun h t0 => c4 (h.resolve_right (by decide)) (fun z => t0 (.inl z)), fun h => c5 (h.resolve_right (by decide)), fun h t0 => c6 (h.resolve_right (by decide)) (fun z => t0 (.inl z)), fun h t0 => c7 (h.resolve_right (by decide)) (fun z => t0 (.inl z)), fun h => c8 (h.resolve_right (by decide)), fun h => c9 (h.resolve_right (by decide)), fun h => c10 (h.resolve_right (by decide)), fun h => c11 (h.resolve_right (by decide)), fun h => c12 (h.resolve_right (by decide))⟩ _ rfl
        apply RelH.op2
        · intro L f u K hN hS hK
          simp only [puts, Act.put, List.setIfInBounds_toArray, List.set_cons_zero, List.set_cons_succ, upd, Nat.reduceEqDiff, ↓reduceIte, if_true, if_false] at hK ⊢
          have HS9 := Lib.hid hS
          obtain ⟨qB, c0, c1, c2, c3, c4, c5, c6, c7, c8, c9, c10, c11, c12⟩ := hS
          have e1 := c1 (hN.out.2 1 (by decide +kernel))
          have e2 := c2 (hN.out.2 2 (by decide +kernel))
          clear c0 c1 c2 c3 c4 c5 c6 c7 c8 c9 c10 c11 c12
          go_simp
          obtain ⟨qB, c0, c1, c2, c3, c4, c5, c6, c7, c8, c9, c10, c11, c12⟩ := HS9.out
          exact hK.out _ _ ⟨qB, fun h t0 => c0 (h.resolve_right (by decide)) (fun z => t0 (.inl z)), fun h => c1 (h.resolve_right (by decide)), fun h => c2 (h.resolve_right (by decide)), fun _ => rfl, fun h t0 => c4 (h.resolve_right (by decide)) (fun z => t0 (.inl z)), fun h => c5 (h.resolve_right (by decide)), fun h t0 => c6 (h.resolve_right (by decide)) (fun z => t0 (.inl z)), fun h t0 => c7 (h.resolve_right (by decide)) (fun z => t0 (.inl z)), fun h => c8 (h.resolve_right (by decide)), fun h => c9 (h.resolve_right (by decide)), fun h => c10 (h.resolve_right (by decide)), fun h => c11 (h.resolve_right (by decide)), fun h => c12 (h.resolve_right (by decide))⟩ _ (by simp only [e1, e2] <;> rfl)
        apply RelH.op2
        · intro L f u K hN hS hK
          simp only [puts, Act.put, List.setIfInBounds_toArray, List.set_cons_zero, List.set_cons_succ, upd, Nat.reduceEqDiff, ↓reduceIte, if_true, if_false] at hK ⊢
          have HS9 := Lib.hid hS
          obtain ⟨qB, c0, c1, c2, c3, c4, c5, c6, c7, c8, c9, c10, c11, c12⟩ := hS
          obtain ⟨g, h0, O0⟩ := c0 (hN.out.2 0 (by decide +kernel)) (hN.out.1 4 (by decide +kernel))
          obtain h3 := c3 (hN.out.2 3 (by decide +kernel))
          refine step_fresh rfl (.tmp 24) (.tmp 27) 35 rfl (w.heap.size + 1) 25 i0 _ 5 40 Try.underlying35 hi hz0 HI1.out HI.out rfl (by decide) g h0 O0 ⟨b, o, none⟩ k cap (flat (l.take k)) h3 (by rw [flat_n, List.length_take]; omega) (HSRC.out.take qB.below k) (flat_one _) (by unfold maxLen; omega) (by omega) (by have := qB.there; omega) ?_
          intro v1 uw1 O1 hv
          obtain ⟨A1, d1, rfl⟩ := own_form O1
          exact hK.out (.slice A1 k d1) uw1 ⟨qB.more hv, fun h t0 => (t0 (by simp)).elim, fun h => c1 (h.resolve_right (by decide)), fun h => c2 (h.resolve_right (by decide)), fun h => c3 (h.resolve_right (by decide)), fun _ _ => ⟨A1, d1, rfl, O1⟩, fun h => c5 (h.resolve_right (by decide)), fun h t0 => (let ⟨h, e, X⟩ := (c6 (h.resolve_right (by decide)) (fun z => t0 (.inl z))); ⟨h, e, X.more hv⟩), fun h t0 => (let ⟨A9, c9, e, O9⟩ := (c7 (h.resolve_right (by decide)) (fun z => t0 (.inl z))); ⟨A9, c9, e, own_keep O9 hv⟩), fun h => c8 (h.resolve_right (by decide)), fun h => c9 (h.resolve_right (by decide)), fun h => c10 (h.resolve_right (by decide)), fun h => (let ⟨A9, c9, e, O9⟩ := (c11 (h.resolve_right (by decide))); ⟨A9, c9, e, own_keep O9 hv⟩), fun h => (let ⟨A9, c9, e, O9⟩ := (c12 (h.resolve_right (by decide))); ⟨A9, c9, e, own_keep O9 hv⟩)⟩ _ rfl
        apply RelH.op2
        · intro L f u K hN hS hK
          simp only [puts, Act.put, List.setIfInBounds_toArray, List.set_cons_zero, List.set_cons_succ, upd, Nat.reduceEqDiff, ↓reduceIte, if_true, if_false] at hK ⊢
          have HS9 := Lib.hid hS
          obtain ⟨qB, c0, c1, c2, c3, c4, c5, c6, c7, c8, c9, c10, c11, c12⟩ := hS
          have qB_0 := qB.cells 0 _ rfl
          have qB_1 := qB.cells 1 _ rfl
          have qB_2 := qB.cells 2 _ rfl
          have qB_3 := qB.cells 3 _ rfl
          have qB_4 := qB.cells 4 _ rfl
          clear c0 c1 c2 c3 c4 c5 c6 c7 c8 c9 c10 c11 c12
          go_simp
          obtain ⟨qB, c0, c1, c2, c3, c4, c5, c6, c7, c8, c9, c10, c11, c12⟩ := HS9.out
          exact hK.out _ _ ⟨qB, fun h t0 => c0 (h.resolve_right (by decide)) (fun z => t0 (.inl z)), fun h => c1 (h.resolve_right (by decide)), fun h => c2 (h.resolve_right (by decide)), fun h => c3 (h.resolve_right (by decide)), fun h t0 => c4 (h.resolve_right (by decide)) (fun z => t0 (.inl z)), fun _ => rfl, fun h t0 => c6 (h.resolve_right (by decide)) (fun z => t0 (.inl z)), fun h t0 => c7 (h.resolve_right (by decide)) (fun z => t0 (.inl z)), fun h => c8 (h.resolve_right (by decide)), fun h => c9 (h.resolve_right (by decide)), fun h => c10 (h.resolve_right (by decide)), fun h => c11 (h.resolve_right (by decide)), fun h => c12 (h.resolve_right (by decide))⟩ _ rfl
        apply RelH.op2
        · intro L f u K hN hS hK
          simp only [puts, Act.put, List.setIfInBounds_toArray, List.set_cons_zero, List.set_cons_succ, upd, Nat.reduceEqDiff, ↓reduceIte, if_true, if_false] at hK ⊢
          have HS9 := Lib.hid hS
          obtain ⟨qB, c0, c1, c2, c3, c4, c5, c6, c7, c8, c9, c10, c11, c12⟩ := hS
          have e5 := c5 (hN.out.2 5 (by decide +kernel))
          have hv := al (Below.refl _ u) (o := .cells #[.int .i64 x.f0, .int .i64 x.f1, .int .i64 x.f2, .int .i64 x.f3, .int .i64 x.f4] 25)
          have hX := Box.new qB.below [.int .i64 x.f0, .int .i64 x.f1, .int .i64 x.f2, .int .i64 x.f3, .int .i64 x.f4] 25 (g := u.heap.size) rfl
          clear c0 c1 c2 c3 c4 c5 c6 c7 c8 c9 c10 c11 c12
          go_simp
          obtain ⟨qB, c0, c1, c2, c3, c4, c5, c6, c7, c8, c9, c10, c11, c12⟩ := HS9.out
          exact hK.out _ _ ⟨qB.more hv, fun h t0 => (let ⟨g, e, O9⟩ := (c0 (h.resolve_right (by decide)) (fun z => t0 (.inl z))); ⟨g, e, own_keep O9 hv⟩), fun h => c1 (h.resolve_right (by decide)), fun h => c2 (h.resolve_right (by decide)), fun h => c3 (h.resolve_right (by decide)), fun h t0 => (let ⟨A9, c9, e, O9⟩ := (c4 (h.resolve_right (by decide)) (fun z => t0 (.inl z))); ⟨A9, c9, e, own_keep O9 hv⟩), fun h => c5 (h.resolve_right (by decide)), fun _ _ => ⟨_, rfl, hX⟩, fun h t0 => (let ⟨A9, c9, e, O9⟩ := (c7 (h.resolve_right (by decide)) (fun z => t0 (.inl z))); ⟨A9, c9, e, own_keep O9 hv⟩), fun h => c8 (h.resolve_right (by decide)), fun h => c9 (h.resolve_right (by decide)), fun h => c10 (h.resolve_right (by decide)), fun h => (let ⟨A9, c9, e, O9⟩ := (c11 (h.resolve_right (by decide))); ⟨A9, c9, e, own_keep O9 hv⟩), fun h => (let ⟨A9, c9, e, O9⟩ := (c12 (h.resolve_right (by decide))); ⟨A9, c9, e, own_keep O9 hv⟩)⟩ _ (by simp only [e5] <;> rfl)
        apply RelH.op2
        · intro L f u K hN hS hK
          simp only [puts, Act.put, List.setIfInBounds_toArray, List.set_cons_zero, List.set_cons_succ, upd, Nat.reduceEqDiff, ↓reduceIte, if_true, if_false] at hK ⊢
          have HS9 := Lib.hid hS
          obtain ⟨qB, c0, c1, c2, c3, c4, c5, c6, c7, c8, c9, c10, c11, c12⟩ := hS
          obtain ⟨A1, d1, h4, O4⟩ := c4 (hN.out.2 4 (by decide +kernel)) (hN.out.1 7 (by decide +kernel))
          obtain ⟨g6, h6, X⟩ := c6 (hN.out.2 6 (by decide +kernel)) (hN.out.1 7 (by decide +kernel))
          refine step_own rfl (.tmp 28) (.tmp 30) 35 rfl (w.heap.size + 1) 25 i0 _ 5 40 Try.underlying35 hi hz0 HI1.out HI.out rfl (by decide) (.slice A1 k d1) k (flat (l.take k)) h4 O4 ⟨g6, 0, none⟩ 1 1 [.int .i64 x.f0, .int .i64 x.f1, .int .i64 x.f2, .int .i64 x.f3, .int .i64 x.f4] h6 rfl (box_news X) (xone x) (by unfold maxLen; omega) (by omega) (by have := qB.there; omega) ?_
          intro v2 uw1 O2 hg2 _
          obtain ⟨A2, d2, rfl⟩ := own_form O2
          have hB2 := qB.grown hg2 (fun k9 hk => own_ge O4 k9 hk)
          exact hK.out (.slice A2 (k + 1) d2) uw1 ⟨hB2, fun h t0 => (t0 (.inl (hN.out.2 4 (by decide +kernel)))).elim, fun h => c1 (h.resolve_right (by decide)), fun h => c2 (h.resolve_right (by decide)), fun h => c3 (h.resolve_right (by decide)), fun h t0 => (t0 (by simp)).elim, fun h => c5 (h.resolve_right (by decide)), fun h t0 => (t0 (by simp)).elim, fun _ _ => ⟨A2, d2, rfl, O2⟩, fun h => c8 (h.resolve_right (by decide)), fun h => c9 (h.resolve_right (by decide)), fun h => c10 (h.resolve_right (by decide)), fun h => absurd (h.resolve_right (by decide)) (hN.out.1 11 (by decide +kernel)), fun h => absurd (h.resolve_right (by decide)) (hN.out.1 12 (by decide +kernel))⟩ _ rfl
        apply RelH.op2
        · intro L f u K hN hS hK
          simp only [puts, Act.put, List.setIfInBounds_toArray, List.set_cons_zero, List.set_cons_succ, upd, Nat.reduceEqDiff, ↓reduceIte, if_true, if_false] at hK ⊢
          have HS9 := Lib.hid hS
          obtain ⟨qB, c0, c1, c2, c3, c4, c5, c6, c7, c8, c9, c10, c11, c12⟩ := hS
          clear c0 c1 c2 c3 c4 c5 c6 c7 c8 c9 c10 c11 c12
          go_simp
          obtain ⟨qB, c0, c1, c2, c3, c4, c5, c6, c7, c8, c9, c10, c11, c12⟩ := HS9.out
          exact hK.out _ _ ⟨qB, fun h t0 => c0 (h.resolve_right (by decide)) (fun z => t0 (.inl z)), fun h => c1 (h.resolve_right (by decide)), fun h => c2 (h.resolve_right (by decide)), fun h => c3 (h.resolve_right (by decide)), fun h t0 => c4 (h.resolve_right (by decide)) (fun z => t0 (.inl z)), fun h => c5 (h.resolve_right (by decide)), fun h t0 => c6 (h.resolve_right (by decide)) (fun z => t0 (.inl z)), fun h t0 => c7 (h.resolve_right (by decide)) (fun z => t0 (.inl z)), fun _ => rfl, fun h => c9 (h.resolve_right (by decide)), fun h => c10 (h.resolve_right (by decide)), fun h => c11 (h.resolve_right (by decide)), fun h => c12 (h.resolve_right (by decide))⟩ _ rfl
        apply RelH.op2
        · intro L f u K hN hS hK
          simp only [puts, Act.put, List.setIfInBounds_toArray, List.set_cons_zero, List.set_cons_succ, upd, Nat.reduceEqDiff, ↓reduceIte, if_true, if_false] at hK ⊢
          have HS9 := Lib.hid hS
          obtain ⟨qB, c0, c1, c2, c3, c4, c5, c6, c7, c8, c9, c10, c11, c12⟩ := hS
          clear c0 c1 c2 c3 c4 c5 c6 c7 c8 c9 c10 c11 c12
          go_simp
          obtain ⟨qB, c0, c1, c2, c3, c4, c5, c6, c7, c8, c9, c10, c11, c12⟩ := HS9.out
          exact hK.out _ _ ⟨qB, fun h t0 => c0 (h.resolve_right (by decide)) (fun z => t0 (.inl z)), fun h => c1 (h.resolve_right (by decide)), fun h => c2 (h.resolve_right (by decide)), fun h => c3 (h.resolve_right (by decide)), fun h t0 => c4 (h.resolve_right (by decide)) (fun z => t0 (.inl z)), fun h => c5 (h.resolve_right (by decide)), fun h t0 => c6 (h.resolve_right (by decide)) (fun z => t0 (.inl z)), fun h t0 => c7 (h.resolve_right (by decide)) (fun z => t0 (.inl z)), fun h => c8 (h.resolve_right (by decide)), fun _ => rfl, fun h => c10 (h.resolve_right (by decide)), fun h => c11 (h.resolve_right (by decide)), fun h => c12 (h.resolve_right (by decide))⟩ _ rfl
        apply RelH.op2
        · intro L f u K hN hS hK
          simp only [puts, Act.put, List.setIfInBounds_toArray, List.set_cons_zero, List.set_cons_succ, upd, Nat.reduceEqDiff, ↓reduceIte, if_true, if_false] at hK ⊢
          have HS9 := Lib.hid hS
          obtain ⟨qB, c0, c1, c2, c3, c4, c5, c6, c7, c8, c9, c10, c11, c12⟩ := hS
          have e8 := c8 (hN.out.2 8 (by decide +kernel))
          have e9 := c9 (hN.out.2 9 (by decide +kernel))
          clear c0 c1 c2 c3 c4 c5 c6 c7 c8 c9 c10 c11 c12
          go_simp
          obtain ⟨qB, c0, c1, c2, c3, c4, c5, c6, c7, c8, c9, c10, c11, c12⟩ := HS9.out
          exact hK.out _ _ ⟨qB, fun h t0 => c0 (h.resolve_right (by decide)) (fun z => t0 (.inl z)), fun h => c1 (h.resolve_right (by decide)), fun h => c2 (h.resolve_right (by decide)), fun h => c3 (h.resolve_right (by decide)), fun h t0 => c4 (h.resolve_right (by decide)) (fun z => t0 (.inl z)), fun h => c5 (h.resolve_right (by decide)), fun h t0 => c6 (h.resolve_right (by decide)) (fun z => t0 (.inl z)), fun h t0 => c7 (h.resolve_right (by decide)) (fun z => t0 (.inl z)), fun h => c8 (h.resolve_right (by decide)), fun h => c9 (h.resolve_right (by decide)), fun _ => rfl, fun h => c11 (h.resolve_right (by decide)), fun h => c12 (h.resolve_right (by decide))⟩ _ (by simp only [e8, e9] <;> rfl)
        apply RelH.op2
        · intro L f u K hN hS hK
          simp only [puts, Act.put, List.setIfInBounds_toArray, List.set_cons_zero, List.set_cons_succ, upd, Nat.reduceEqDiff, ↓reduceIte, if_true, if_false] at hK ⊢
          have HS9 := Lib.hid hS
          obtain ⟨qB, c0, c1, c2, c3, c4, c5, c6, c7, c8, c9, c10, c11, c12⟩ := hS
          obtain ⟨A2, d2, h7, O7⟩ := c7 (hN.out.2 7 (by decide +kernel)) (hN.out.1 11 (by decide +kernel))
          obtain h10 := c10 (hN.out.2 10 (by decide +kernel))
          refine step_own rfl (.tmp 31) (.tmp 34) 35 rfl (w.heap.size + 1) 25 i0 _ 5 40 Try.underlying35 hi hz0 HI1.out HI.out rfl (by decide) (.slice A2 (k + 1) d2) (k + 1) (flat (l.take k) ++ [.int .i64 x.f0, .int .i64 x.f1, .int .i64 x.f2, .int .i64 x.f3, .int .i64 x.f4]) h7 O7 ⟨b, o + k * 5, none⟩ (l.length - k) (cap - k) ((flat l).drop (k * 5)) h10 (by rw [List.length_drop, flat_n]; omega) (HSRC.out.drop qB.below k) (fun v9 h9 => flat_one l v9 (List.mem_of_mem_drop h9)) (by unfold maxLen; omega) (by omega) (by have := qB.there; omega) ?_
          intro v3 uw1 O3 hg3 _
          obtain ⟨A3, d3, rfl⟩ := own_form O3
          have hB2 := qB.grown hg3 (fun k9 hk => own_ge O7 k9 hk)
          exact hK.out (.slice A3 (k + 1 + (l.length - k)) d3) uw1 ⟨hB2, fun h t0 => (t0 (.inl (hN.out.2 4 (by decide +kernel)))).elim, fun h => c1 (h.resolve_right (by decide)), fun h => c2 (h.resolve_right (by decide)), fun h => c3 (h.resolve_right (by decide)), fun h t0 => (t0 (.inl (hN.out.2 7 (by decide +kernel)))).elim, fun h => c5 (h.resolve_right (by decide)), fun h t0 => (t0 (.inl (hN.out.2 7 (by decide +kernel)))).elim, fun h t0 => (t0 (by simp)).elim, fun h => c8 (h.resolve_right (by decide)), fun h => c9 (h.resolve_right (by decide)), fun h => c10 (h.resolve_right (by decide)), fun _ => ⟨A3, d3, rfl, O3⟩, fun h => absurd (h.resolve_right (by decide)) (hN.out.1 12 (by decide +kernel))⟩ _ rfl
        apply RelH.op2
        · intro L f u K hN hS hK
          simp only [puts, Act.put, List.setIfInBounds_toArray, List.set_cons_zero, List.set_cons_succ, upd, Nat.reduceEqDiff, ↓reduceIte, if_true, if_false] at hK ⊢
          have HS9 := Lib.hid hS
          obtain ⟨qB, c0, c1, c2, c3, c4, c5, c6, c7, c8, c9, c10, c11, c12⟩ := hS
          obtain ⟨A3, d3, e11, O3⟩ := c11 (hN.out.2 11 (by decide +kernel))
          clear c0 c1 c2 c3 c4 c5 c6 c7 c8 c9 c10 c11 c12
          go_simp
          obtain ⟨qB, c0, c1, c2, c3, c4, c5, c6, c7, c8, c9, c10, c11, c12⟩ := HS9.out
          exact hK.out _ _ ⟨qB, fun h t0 => c0 (h.resolve_right (by decide)) (fun z => t0 (.inl z)), fun h => c1 (h.resolve_right (by decide)), fun h => c2 (h.resolve_right (by decide)), fun h => c3 (h.resolve_right (by decide)), fun h t0 => c4 (h.resolve_right (by decide)) (fun z => t0 (.inl z)), fun h => c5 (h.resolve_right (by decide)), fun h t0 => c6 (h.resolve_right (by decide)) (fun z => t0 (.inl z)), fun h t0 => c7 (h.resolve_right (by decide)) (fun z => t0 (.inl z)), fun h => c8 (h.resolve_right (by decide)), fun h => c9 (h.resolve_right (by decide)), fun h => c10 (h.resolve_right (by decide)), fun h => c11 (h.resolve_right (by decide)), fun _ => ⟨A3, d3, rfl, O3⟩⟩ _ (by simp only [e11] <;> rfl)
        exact RelH.done
      intro L f V0 hL hS
      simp only [puts, Act.put, List.setIfInBounds_toArray, List.set_cons_zero, List.set_cons_succ]
      obtain ⟨qB, c0, c1, c2, c3, c4, c5, c6, c7, c8, c9, c10, c11, c12⟩ := hS
      clear B
      have B := qB
      obtain ⟨A3, d3, e12, O3⟩ := c12 (hL 12 (by decide))
      rw [← HLM.out] at e12 O3
      rw [← HFM.out] at O3
      simp only [e12]
      clear e12 c0 c1 c2 c3 c4 c5 c6 c7 c8 c9 c10 c11 c12 hL qB
      have B_0 := B.cells 0 _ rfl
      have B_1 := B.cells 1 _ rfl
      have B_2 := B.cells 2 _ rfl
      have B_3 := B.cells 3 _ rfl
      have B_4 := B.cells 4 _ rfl
      have B_f0 := B.free 0 (by simp)
      have B_f1 := B.free 1 (by simp)
      have B_f2 := B.free 2 (by simp)
      have B_f3 := B.free 3 (by simp)
      have B_f4 := B.free 4 (by simp)
      have B_t := B.there
      go_wp2_with fail
      refine (good_spec (some ⟨b, o, none⟩) cap l _ ((HR.out.below B.below (Nat.le_refl _)).mono B.below.size) hn).mono ?_
      rintro e v4 ⟨rfl, hv4⟩
      clear B_0 B_1 B_2 B_3 B_4 B_f0 B_f1 B_f2 B_f3 B_f4 B_t
      replace B := B.more hv4
      replace O3 := own_keep O3 hv4
      have zhv4 := hv4.size
      clear hv4
      have B_0 := B.cells 0 _ rfl
      have B_1 := B.cells 1 _ rfl
      have B_2 := B.cells 2 _ rfl
      have B_3 := B.cells 3 _ rfl
      have B_4 := B.cells 4 _ rfl
      have B_f0 := B.free 0 (by simp)
      have B_f1 := B.free 1 (by simp)
      have B_f2 := B.free 2 (by simp)
      have B_f3 := B.free 3 (by simp)
      have B_f4 := B.free 4 (by simp)
      have B_t := B.there
      cases hg : good l
      · go_wp2
        go_ret2
        exact a_bad (add1 hg) B.below
      have HG := Lib.hid hg; clear hg
      have h10 := (good_all HG.out).1
      go_wp2_with fail
      refine (good_spec A3 d3 m _ (Rd.of_own O3) (by rw [HLM.out]; omega)).mono ?_
      rintro e v5 ⟨rfl, hv5⟩
      clear B_0 B_1 B_2 B_3 B_4 B_f0 B_f1 B_f2 B_f3 B_f4 B_t
      replace B := B.more hv5
      replace O3 := own_keep O3 hv5
      have zhv5 := hv5.size
      clear hv5
      have B_0 := B.cells 0 _ rfl
      have B_1 := B.cells 1 _ rfl
      have B_2 := B.cells 2 _ rfl
      have B_3 := B.cells 3 _ rfl
      have B_4 := B.cells 4 _ rfl
      have B_f0 := B.free 0 (by simp)
      have B_f1 := B.free 1 (by simp)
      have B_f2 := B.free 2 (by simp)
      have B_f3 := B.free 3 (by simp)
      have B_f4 := B.free 4 (by simp)
      have B_t := B.there
      cases h1 : good m
      · go_wp2
        go_ret2
        exact a_bad (add2 (by rw [HM.out]; exact h1)) B.below
      have H1 := Lib.hid h1; clear h1
      go_wp2_with fail
      refine (free_spec (some ⟨b, o, none⟩) cap l x (good_mem HG.out) (good_mem H1.out x (by rw [← HM.out]; exact raw_mem l x)) _ ((HR.out.below B.below (Nat.le_refl _)).mono B.below.size) hn).mono ?_
      rintro e v6 ⟨rfl, hv6⟩
      clear B_0 B_1 B_2 B_3 B_4 B_f0 B_f1 B_f2 B_f3 B_f4 B_t
      replace B := B.more hv6
      replace O3 := own_keep O3 hv6
      have zhv6 := hv6.size
      clear hv6
      have B_0 := B.cells 0 _ rfl
      have B_1 := B.cells 1 _ rfl
      have B_2 := B.cells 2 _ rfl
      have B_3 := B.cells 3 _ rfl
      have B_4 := B.cells 4 _ rfl
      have B_f0 := B.free 0 (by simp)
      have B_f1 := B.free 1 (by simp)
      have B_f2 := B.free 2 (by simp)
      have B_f3 := B.free 3 (by simp)
      have B_f4 := B.free 4 (by simp)
      have B_t := B.there
      cases h2 : freeB l x
      · go_wp2
        go_ret2
        exact a_bad (add3 h2) B.below
      · go_wp2
        go_ret2
        exact a_good (add4 HG.out (by rw [HM.out]; exact H1.out) h2) HM.out B.below (Nat.le_succ _) O3
end Go.Proofs.Ytknlgdahcfgbeaa.TripB
