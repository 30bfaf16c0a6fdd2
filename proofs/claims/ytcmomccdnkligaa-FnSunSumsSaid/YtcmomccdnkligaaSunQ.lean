/- spec.PutSun: the row up to the day, the Sun, the row behind it. -/
import Derived.Test.YtcmomccdnkligaaSunP
import Derived.Test.YtcmomccdnkligaaRegn3
import Derived.Deep.Cut
import Derived.Deep.CutBlock
import Derived.Deep.DeepCutAuto
import Derived.Deep.RegionLawGrows
namespace Go.Proofs.Ytcmomccdnkligaa.SunQ
open Go.RowKit Go.Proofs.Ytcmomccdnkligaa.Mem Go.Proofs.Ytcmomccdnkligaa.Base Go.Proofs.Ytcmomccdnkligaa.SSun Go.Proofs.Ytcmomccdnkligaa.Regn Go.Proofs.Ytcmomccdnkligaa.Boxes Go.Proofs.Ytcmomccdnkligaa.Keep Go.Proofs.Ytcmomccdnkligaa.Sun Go.Proofs.Ytcmomccdnkligaa.SunA Go.Proofs.Ytcmomccdnkligaa.SunB Go.Proofs.Ytcmomccdnkligaa.SunC Go.Proofs.Ytcmomccdnkligaa.SunI Go.Proofs.Ytcmomccdnkligaa.SunP
set_option linter.unusedVariables false
set_option linter.unusedSimpArgs false
set_option maxRecDepth 100000
theorem step_own {P : Program} {w : World} {yf : Nat → Option Bool} {o : Oper} {a : Act} {K : Act → World → Prop} {Q : Exit → Act → World → Prop} {E : Prop} (hgd : o.guard = none) (s x : Operand) (t : TypeId)
    (ho : o.op = .call { callee := .builtin .append, args := #[s, x], argTypes := #[t, t] })
    (base : Nat) (e : TypeId) (i : TypeInfo) (z : Value) (size bytes : Nat) (ht : P.underlying t = some (.slice e)) (hi : P.info? e = some i) (hz : i.zero = some z)
    (hsize : i.size = size) (hby : i.bytes = bytes) (hzs : z.cells.size = size) (hsz : 0 < size)
    (v : Value) (n : Nat) (xs : List Value) (hs : a.eval s = v) (hown : w.ownsRow base e size v n xs)
    (ad : Addr) (m c : Nat) (news : List Value) (hx : a.eval x = .slice (some ad) m c) (hl : news.length = m * size) (hnews : ∀ j u, news[j]? = some u → w.cell? (ad.add j) = some u) (h1 : ∀ u ∈ news, u.oneCell' = true)
    (h63 : n + m ≤ maxLen) (hbytes : (n + m) * bytes ≤ 140737488355328) (hbase : base ≤ w.heap.size)
    (h : ∀ v' w', w'.ownsRow base e size v' (n + m) (xs ++ news) → w.grownBy w' v.ownBlock → (v' = .slice none 0 0 ↔ v = .slice none 0 0 ∧ m = 0) → K (a.put o.dst v') w') :
    if Region.wanted o yf = true then Oper.wp P o a w K Q else E := by
  rw [if_pos (by simp [Region.wanted, hgd])]
  exact wp_append_own w s x t ho base e i z size bytes ht hi hz hsize hby hzs hsz v n xs hs hown ad m c news hx hl hnews h1 h63 hbytes hbase h
/-- an append onto an empty row without room: nothing that stood is touched. -/
theorem step_fresh {P : Program} {w : World} {yf : Nat → Option Bool} {o : Oper} {a : Act} {K : Act → World → Prop} {Q : Exit → Act → World → Prop} {E : Prop} (hgd : o.guard = none) (s x : Operand) (t : TypeId)
    (ho : o.op = .call { callee := .builtin .append, args := #[s, x], argTypes := #[t, t] })
    (base : Nat) (e : TypeId) (i : TypeInfo) (z : Value) (size bytes : Nat) (ht : P.underlying t = some (.slice e)) (hi : P.info? e = some i) (hz : i.zero = some z)
    (hsize : i.size = size) (hby : i.bytes = bytes) (hzs : z.cells.size = size) (hsz : 0 < size)
    (g : Nat) (hs : a.eval s = .slice (some ⟨g, 0, none⟩) 0 0) (hown : w.ownsRow base e size (.slice (some ⟨g, 0, none⟩) 0 0) 0 [])
    (ad : Addr) (m c : Nat) (news : List Value) (hx : a.eval x = .slice (some ad) m c) (hl : news.length = m * size) (hnews : ∀ j u, news[j]? = some u → w.cell? (ad.add j) = some u) (h1 : ∀ u ∈ news, u.oneCell' = true)
    (h63 : m ≤ maxLen) (hbytes : m * bytes ≤ 140737488355328) (hbase : base ≤ w.heap.size)
    (h : ∀ v' w', w'.ownsRow base e size v' m news → Below w.heap.size w w' → K (a.put o.dst v') w') :
    if Region.wanted o yf = true then Oper.wp P o a w K Q else E := by
  rw [if_pos (by simp [Region.wanted, hgd])]
  by_cases hm : m = 0
  · subst hm
    obtain rfl : news = [] := List.eq_nil_of_length_eq_zero (by omega)
    have h9 := step_append_room (ops := #[]) (Q := Q) (K := K) (E := True) hgd s x t ho e i size ht hi hsize g 0 0 0 hs ad 0 c [] hx (by simp) hnews h1 (by omega) (fun j hj => by simp at hj) (h _ w hown (Below.refl _ _))
    rwa [if_pos (by simp [Region.wanted, hgd])] at h9
  · have h9 := step_append_grows (ops := #[]) (Q := Q) (K := K) (E := True) hgd s x t ho e i z size bytes ht hi hz hsize hby hzs hsz (some ⟨g, 0, none⟩) 0 0 [] hs (by simp) (by simp) (by simp) ad m c news hx hl hnews h1 (by omega) (by omega) (by simpa using hbytes) (fun v' w' ho' hg' => h v' w' (by rw [Nat.zero_add, List.nil_append] at ho'; exact own_base ho' hbase) ((Below.refl _ w).grown hg' (Nat.le_refl _) (fun k hk => by cases hk)))
    rwa [if_pos (by simp [Region.wanted, hgd])] at h9
theorem own0 (u : World) (base : Nat) (h : base ≤ u.heap.size) : (u.alloc (.cells #[] 42)).ownsRow base 42 2 (.slice (some ⟨u.heap.size, 0, none⟩) 0 0) 0 [] := by
  have := World.ownsRow_lit u #[] 0 (e := 42) (size := 2) (base := base) h (by unfold maxLen; omega) rfl
  simpa using this
theorem box_news {h : Nat} {x : R} {w u : World} (X : Box h [.int .i64 x.f0, .int .i64 x.f1] w u) : ∀ j v, [Value.int .i64 x.f0, Value.int .i64 x.f1][j]? = some v → u.cell? ((⟨h, 0, none⟩ : Addr).add j) = some v := by
  intro j v hv
  rw [cell_add, Nat.zero_add]
  exact X.cells j v hv
/-- The row that came in, read from any world of the call. -/
def Srcs (w : World) (b o : Nat) (l : List R) : Prop := ∀ u, Below w.heap.size w u → ∀ j v, (flat l)[j]? = some v → u.cell? ⟨b, o + j, none⟩ = some v
theorem Srcs.of {w : World} {b o : Nat} {l : List R} (h : Rd w w.heap.size (some ⟨b, o, none⟩) (flat l)) : Srcs w b o l := by
  intro u hu j v hv
  rcases h with h | ⟨b', o', hA, hb, hc⟩
  · rw [h] at hv; cases hv
  · injection hA with hA; injection hA with h1 h2 _; subst h1; subst h2
    rw [(bcell hu).1 _ _ hb]; exact hc j v hv
theorem Srcs.take {w u : World} {b o : Nat} {l : List R} (h : Srcs w b o l) (hu : Below w.heap.size w u) (k : Nat) : ∀ j v, (flat (l.take k))[j]? = some v → u.cell? ((⟨b, o, none⟩ : Addr).add j) = some v := by
  intro j v hv
  rw [cell_add]
  refine h u hu j v ?_
  rw [flat_take, List.getElem?_take] at hv
  split at hv
  · exact hv
  · cases hv
theorem Srcs.drop {w u : World} {b o : Nat} {l : List R} (h : Srcs w b o l) (hu : Below w.heap.size w u) (n : Nat) : ∀ j v, ((flat l).drop (n * 2))[j]? = some v → u.cell? ((⟨b, o + n * 2, none⟩ : Addr).add j) = some v := by
  intro j v hv
  rw [cell_add, Nat.add_assoc]
  rw [List.getElem?_drop] at hv
  exact h u hu _ v hv
theorem drop_none {u : World} {l : List R} {n : Nat} {ad : Addr} (h : l.length ≤ n) : ∀ j v, ((flat l).drop (n * 2))[j]? = some v → u.cell? (ad.add j) = some v := by
  intro j v hv
  rw [List.drop_eq_nil_of_le (by rw [flat_n]; omega)] at hv
  cases hv
set_option maxHeartbeats 8000000 in
theorem put_spec (b o cap : Nat) (l : List R) (x : R) (w : World) (hr : Rd w w.heap.size (some ⟨b, o, none⟩) (flat l)) (hn : l.length ≤ 1048576) (hcap : l.length ≤ cap) :
    Calls Try.prog 35 #[.slice (some ⟨b, o, none⟩) l.length cap, .agg #[.int .i64 x.f0, .int .i64 x.f1]] w (PutPost l x w) := by
  obtain ⟨i0, hi, hz0, hz1, hz2⟩ := info_parts info_T
  have HI := Lib.hid hz2; clear hz2
  have HI1 := Lib.hid hz1; clear hz1
  have HR := Lib.hid hr
  have HSRC := Lib.hid (Srcs.of hr); clear hr
  obtain ⟨m, hm⟩ : ∃ m, putAt l x = m := ⟨_, rfl⟩
  have HM := Lib.hid hm; clear hm
  cases hg : good l
  · go_enter Try.func35, Try.ntmps35
    go_wp2_with fail
    have B := Box.new (Below.refl _ w) [.int .i64 x.f0, .int .i64 x.f1] 42 (g := w.heap.size) rfl
    generalize (w.alloc (.cells #[.int .i64 x.f0, .int .i64 x.f1] 42)) = W1 at B ⊢
    have B_0 := B.cells 0 _ rfl
    have B_1 := B.cells 1 _ rfl
    have B_f0 := B.free 0 (by simp)
    have B_f1 := B.free 1 (by simp)
    have B_t := B.there
    go_wp2_with fail
    refine (SunG.good_spec (some ⟨b, o, none⟩) cap l _ ((HR.out.below B.below (Nat.le_refl _)).mono B.below.size) hn).mono ?_
    rintro e v2 ⟨rfl, hv2⟩
    clear B_0 B_1 B_f0 B_f1 B_t
    replace B := B.more hv2
    have zhv2 := hv2.size
    clear hv2
    have B_0 := B.cells 0 _ rfl
    have B_1 := B.cells 1 _ rfl
    have B_f0 := B.free 0 (by simp)
    have B_f1 := B.free 1 (by simp)
    have B_t := B.there
    rw [hg]
    go_wp2
    go_ret2
    exact put_bad (pt1 hg) B.below
  · have h20 := (good_all hg).1
    go_enter Try.func35, Try.ntmps35
    go_wp2_with fail
    have B := Box.new (Below.refl _ w) [.int .i64 x.f0, .int .i64 x.f1] 42 (g := w.heap.size) rfl
    generalize (w.alloc (.cells #[.int .i64 x.f0, .int .i64 x.f1] 42)) = W1 at B ⊢
    have B_0 := B.cells 0 _ rfl
    have B_1 := B.cells 1 _ rfl
    have B_f0 := B.free 0 (by simp)
    have B_f1 := B.free 1 (by simp)
    have B_t := B.there
    have hW1 := B.there
    go_wp2_with fail
    refine (SunG.good_spec (some ⟨b, o, none⟩) cap l _ ((HR.out.below B.below (Nat.le_refl _)).mono B.below.size) hn).mono ?_
    rintro e v2 ⟨rfl, hv2⟩
    clear B_0 B_1 B_f0 B_f1 B_t
    replace B := B.more hv2
    have zhv2 := hv2.size
    clear hv2
    have B_0 := B.cells 0 _ rfl
    have B_1 := B.cells 1 _ rfl
    have B_f0 := B.free 0 (by simp)
    have B_f1 := B.free 1 (by simp)
    have B_t := B.there
    rw [hg]
    go_upto_block 0 with fail
    go_cut [6] from 13 (fun iv wc => ∃ k : Nat, k ≤ l.length ∧ iv = .int .i64 k ∧ Hid (Low l x.f0 k) ∧ Hid (∀ h : k < l.length, ¬ l[k].f0 < x.f0) ∧ Box w.heap.size [.int .i64 x.f0, .int .i64 x.f1] w wc)
    case first => as_aux_lemma =>
      go_wp2_with fail
      go_loopw [6] (fun i wr => ∃ k : Nat, k ≤ l.length ∧ i = .int .i64 k ∧ Hid (Low l x.f0 k) ∧ Box w.heap.size [.int .i64 x.f0, .int .i64 x.f1] w wr) (fun i _ => l.length - (intOf i).toNat)
      case atStart => exact ⟨0, Nat.zero_le _, rfl, Lib.hid (fun j hj h => by omega), B⟩
      case round =>
        clear B_0 B_1 B_f0 B_f1 B_t
        clear B
        obtain ⟨k, hk, rfl, HL, B⟩ := hrel
        have B_0 := B.cells 0 _ rfl
        have B_1 := B.cells 1 _ rfl
        have B_f0 := B.free 0 (by simp)
        have B_f1 := B.free 1 (by simp)
        have B_t := B.there
        by_cases hlt : k < l.length
        · obtain ⟨y, hy⟩ : ∃ y, l[k] = y := ⟨_, rfl⟩
          have h0 : wr.cell? ⟨b, o + k * 2, none⟩ = some (.int .i64 y.f0) := by rw [← hy]; exact HSRC.out wr B.below _ _ (flat_0 l k hlt)
          have HY := Lib.hid hy; clear hy
          by_cases hc : y.f0 < x.f0
          · have e1 : decide (y.f0 < x.f0) = true := decide_eq_true hc
            have e3 : IntKind.i64.wrap ((k : Int) + 1) = k + 1 := IntWalk.i64_in _ (by omega)
            go_wp2_with fail
            go_quiet (fail)
            generalize nq = q1
            go_wp2
            exact ⟨⟨k + 1, hlt, by go_num, Lib.hid (HL.out.next hlt (by rw [HY.out]; exact hc)), B.more (drew_below _ _)⟩, by simp [intOf]; omega⟩
          · have e1 : decide (y.f0 < x.f0) = false := decide_eq_false hc
            go_wp2_with fail
            go_quiet (fail)
            generalize nq = q1
            go_wp2_with fail
            go_meet
            case rel => exact ⟨k, hk, rfl, HL, Lib.hid (fun h => by rw [HY.out]; exact hc), B.more (drew_below _ _)⟩
        · go_wp2_with fail
          go_quiet (fail)
          generalize nq = q1
          go_wp2_with fail
          go_meet
          case rel => exact ⟨k, hk, rfl, HL, Lib.hid (fun h => absurd h hlt), B.more (drew_below _ _)⟩
    case rest => as_aux_lemma =>
      clear B_0 B_1 B_f0 B_f1 B_t
      clear B
      obtain ⟨k, hk, rfl, HL, HGE, B⟩ := hcut
      have B_0 := B.cells 0 _ rfl
      have B_1 := B.cells 1 _ rfl
      have B_f0 := B.free 0 (by simp)
      have B_f1 := B.free 1 (by simp)
      have B_t := B.there
      go_upto_region 7 with fail
      go_cut [43] from 13 (fun cv wd => ∃ q : Bool, cv = .bool q ∧ Hid (q = true → ∃ h : k < l.length, l[k].f0 = x.f0) ∧ Hid (q = false → ∀ h : k < l.length, x.f0 < l[k].f0) ∧ Box w.heap.size [.int .i64 x.f0, .int .i64 x.f1] w wd)
      case first => as_aux_lemma =>
        by_cases hlt : k < l.length
        · obtain ⟨y, hy⟩ : ∃ y, l[k] = y := ⟨_, rfl⟩
          have h0 : wc.cell? ⟨b, o + k * 2, none⟩ = some (.int .i64 y.f0) := by rw [← hy]; exact HSRC.out wc B.below _ _ (flat_0 l k hlt)
          have HY := Lib.hid hy; clear hy
          have hge := HGE.out hlt
          rw [HY.out] at hge
          by_cases hc : y.f0 = x.f0
          · have e2 : (y.f0 == x.f0) = true := by rw [beq_iff_eq]; exact hc
            go_wp2_with fail
            go_quiet (fail)
            generalize nq = q1
            go_wp2_with fail
            go_meet
            case rel => exact ⟨true, rfl, Lib.hid (fun _ => ⟨hlt, by rw [HY.out]; exact hc⟩), Lib.hid (fun h => by cases h), B.more (drew_below _ _)⟩
          · have e2 : (y.f0 == x.f0) = false := by rw [beq_eq_false_iff_ne]; exact hc
            go_wp2_with fail
            go_quiet (fail)
            generalize nq = q1
            go_wp2_with fail
            go_meet
            case rel => exact ⟨false, rfl, Lib.hid (fun h => by cases h), Lib.hid (fun _ h => by rw [HY.out]; omega), B.more (drew_below _ _)⟩
        · go_wp2_with fail
          go_quiet (fail)
          generalize nq = q1
          go_wp2_with fail
          go_meet
          case rel => exact ⟨false, rfl, Lib.hid (fun h => by cases h), Lib.hid (fun _ h => absurd h hlt), B.more (drew_below _ _)⟩
      case rest => as_aux_lemma =>
        clear B_0 B_1 B_f0 B_f1 B_t
        clear B
        obtain ⟨q, rfl, HQ1, HQ2, B⟩ := hcut
        have B_0 := B.cells 0 _ rfl
        cases q
        · have HP := Lib.hid (put_new (x := x) hk HL.out (HQ2.out rfl))
          have hmm : m = l.take k ++ x :: l.drop k := HM.out.symm.trans HP.out
          have HLM := Lib.hid (show m.length = k + 1 + (l.length - k) by rw [hmm, List.length_append, List.length_cons, List.length_take, List.length_drop]; omega)
          have HFM := Lib.hid (show flat m = flat (l.take k) ++ [.int .i64 x.f0, .int .i64 x.f1] ++ (flat l).drop (k * 2) by
            have h2 : flat (x :: l.drop k) = [.int .i64 x.f0, .int .i64 x.f1] ++ flat (l.drop k) := rfl
            rw [hmm, flat_app, h2, flat_drop, List.append_assoc])
          clear hmm HP HL HGE HQ1 HQ2
          go_wp2_with fail
          have hkc : k ≤ cap := by omega
          by_cases hcn : cap = k
          · have hcn2 : k = cap := hcn.symm
            clear hcn
            subst hcn2
            have HCAP := Lib.hid hcap; clear hcap
            refine wp_region_rel [46, 47, 48, 49, 50, 51, 52, 53, 54, 55, 56, 57, 8] (fun L f w' => (Box (w.heap.size) [.int .i64 x.f0, .int .i64 x.f1] w w') ∧ (L 0 → ¬ L 4 → ∃ g, f 46 = .slice (some ⟨g, 0, none⟩) 0 0 ∧ w'.ownsRow (w.heap.size + 1) 42 2 (.slice (some ⟨g, 0, none⟩) 0 0) (0) ([])) ∧ (L 1 → f 47 = .slice (some ⟨b, o, none⟩) l.length k) ∧ (L 2 → f 48 = .int .i64 k) ∧ (L 3 → f 49 = .slice (some ⟨b, o, none⟩) k k) ∧ (L 4 → ¬ L 7 → ∃ A1 c1, f 50 = .slice A1 k c1 ∧ w'.ownsRow (w.heap.size + 1) 42 2 (.slice A1 k c1) (k) (flat (l.take k))) ∧ (L 5 → f 51 = .agg #[.int .i64 x.f0, .int .i64 x.f1]) ∧ (L 6 → ¬ L 7 → ∃ h, f 52 = .slice (some ⟨h, 0, none⟩) 1 1 ∧ Box h [.int .i64 x.f0, .int .i64 x.f1] w w') ∧ (L 7 → ¬ L 11 → ∃ A2 c2, f 53 = .slice A2 (k + 1) c2 ∧ w'.ownsRow (w.heap.size + 1) 42 2 (.slice A2 (k + 1) c2) (k + 1) (flat (l.take k) ++ [.int .i64 x.f0, .int .i64 x.f1])) ∧ (L 8 → f 54 = .slice (some ⟨b, o, none⟩) l.length k) ∧ (L 9 → f 55 = .int .i64 k) ∧ (L 10 → f 56 = .slice (some ⟨b, o, none⟩) (l.length - k) 0) ∧ (L 11 → ∃ A3 c3, f 57 = .slice A3 (k + 1 + (l.length - k)) c3 ∧ w'.ownsRow (w.heap.size + 1) 42 2 (.slice A3 (k + 1 + (l.length - k)) c3) (k + 1 + (l.length - k)) (flat (l.take k) ++ [.int .i64 x.f0, .int .i64 x.f1] ++ (flat l).drop (k * 2))) ∧ (L 12 → ∃ A3 c3, f 8 = .slice A3 (k + 1 + (l.length - k)) c3 ∧ w'.ownsRow (w.heap.size + 1) 42 2 (.slice A3 (k + 1 + (l.length - k)) c3) (k + 1 + (l.length - k)) (flat (l.take k) ++ [.int .i64 x.f0, .int .i64 x.f1] ++ (flat l).drop (k * 2)))) (by kernel_rfl) (by kernel_rfl) (by kernel_rfl) (fun f => ⟨B.drew, fun h => h.elim, fun h => h.elim, fun h => h.elim, fun h => h.elim, fun h => h.elim, fun h => h.elim, fun h => h.elim, fun h => h.elim, fun h => h.elim, fun h => h.elim, fun h => h.elim, fun h => h.elim, fun h => h.elim⟩) ?_ ?_
            · apply RelH.op2
              · intro L f u K hN hS hK
                simp only [puts, Act.put, List.setIfInBounds_toArray, List.set_cons_zero, List.set_cons_succ, upd, Nat.reduceEqDiff, ↓reduceIte, if_true, if_false] at hK ⊢
                have HS9 := Lib.hid hS
                obtain ⟨qB, c0, c1, c2, c3, c4, c5, c6, c7, c8, c9, c10, c11, c12⟩ := hS
                have hv := al (Below.refl _ u) (o := .cells #[] 42)
                have hO := own0 u (w.heap.size + 1) (by have := qB.there; omega)
                clear c0 c1 c2 c3 c4 c5 c6 c7 c8 c9 c10 c11 c12
                go_simp
                obtain ⟨qB, c0, c1, c2, c3, c4, c5, c6, c7, c8, c9, c10, c11, c12⟩ := HS9.out
                exact hK.out _ _ ⟨qB.more hv, fun _ _ => ⟨_, rfl, hO⟩, fun h => c1 (h.resolve_right (by decide)), fun h => c2 (h.resolve_right (by decide)), fun h => c3 (h.resolve_right (by decide)), fun h t0 => (let ⟨A9, c9, e, O9⟩ := (c4 (h.resolve_right (by decide)) (fun z => t0 (.inl z))); ⟨A9, c9, e, own_keep O9 hv⟩), fun h => c5 (h.resolve_right (by decide)), fun h t0 => (let ⟨h, e, X⟩ := (c6 (h.resolve_right (by decide)) (fun z => t0 (.inl z))); ⟨h, e, X.more hv⟩), fun h t0 => (let ⟨A9, c9, e, O9⟩ := (c7 (h.resolve_right (by decide)) (fun z => t0 (.inl z))); ⟨A9, c9, e, own_keep O9 hv⟩), fun h => c8 (h.resolve_right (by decide)), fun h => c9 (h.resolve_right (by decide)), fun h => c10 (h.resolve_right (by decide)), fun h => (let ⟨A9, c9, e, O9⟩ := (c11 (h.resolve_right (by decide))); ⟨A9, c9, e, own_keep O9 hv⟩), fun h => (let ⟨A9, c9, e, O9⟩ := (c12 (h.resolve_right (by decide))); ⟨A9, c9, e, own_keep O9 hv⟩)⟩ _ rfl
              apply RelH.op2
              · intro L f u K hN hS hK
                simp only [puts, Act.put, List.setIfInBounds_toArray, List.set_cons_zero, List.set_cons_succ, upd, Nat.reduceEqDiff, ↓reduceIte, if_true, if_false] at hK ⊢
                have HS9 := Lib.hid hS
                obtain ⟨qB, c0, c1, c2, c3, c4, c5, c6, c7, c8, c9, c10, c11, c12⟩ := hS
                clear c0 c1 c2 c3 c4 c5 c6 c7 c8 c9 c10 c11 c12
                go_simp
                obtain ⟨qB, c0, c1, c2, c3, c4, c5, c6, c7, c8, c9, c10, c11, c12⟩ := HS9.out
                exact hK.out _ _ ⟨qB, fun h t0 => c0 (h.resolve_right (by decide)) (fun z => t0 (.inl z)), fun _ => rfl, fun h => c2 (h.resolve_right (by decide)), fun h => c3 (h.resolve_right (by decide)), fun h t0 => c4 (h.resolve_right (by decide)) (fun z => t0 (.inl z)), fun h => c5 (h.resolve_right (by decide)), fun h t0 => c6 (h.resolve_right (by decide)) (fun z => t0 (.inl z)), fun h t0 => c7 (h.resolve_right (by decide)) (fun z => t0 (.inl z)), fun h => c8 (h.resolve_right (by decide)), fun h => c9 (h.resolve_right (by decide)), fun h => c10 (h.resolve_right (by decide)), fun h => c11 (h.resolve_right (by decide)), fun h => c12 (h.resolve_right (by decide))⟩ _ rfl
              apply RelH.op2
              · intro L f u K hN hS hK
                simp only [puts, Act.put, List.setIfInBounds_toArray, List.set_cons_zero, List.set_cons_succ, upd, Nat.reduceEqDiff, ↓reduceIte, if_true, if_false] at hK ⊢
                have HS9 := Lib.hid hS
                obtain ⟨qB, c0, c1, c2, c3, c4, c5, c6, c7, c8, c9, c10, c11, c12⟩ := hS
                clear c0 c1 c2 c3 c4 c5 c6 c7 c8 c9 c10 c11 c12
                go_simp
                obtain ⟨qB, c0, c1, c2, c3, c4, c5, c6, c7, c8, c9, c10, c11, c12⟩ := HS9.out
                exact hK.out _ _ ⟨qB, fun h t0 => c0 (h.resolve_right (by decide)) (fun z => t0 (.inl z)), fun h => c1 (h.resolve_right (by decide)), fun _ => rfl, fun h => c3 (h.resolve_right (by decide)), fun h t0 => c4 (h.resolve_right (by decide)) (fun z => t0 (.inl z)), fun h => c5 (h.resolve_right (by decide)), fun h t0 => c6 (h.resolve_right (by decide)) (fun z => t0 (.inl z)), fun h t0 => c7 (h.resolve_right (by decide)) (fun z => t0 (.inl z)), fun h => c8 (h.resolve_right (by decide)), fun h => c9 (h.resolve_right (by decide)), fun h => c10 (h.resolve_right (by decide)), fun h => c11 (h.resolve_right (by decide)), fun h => c12 (h.resolve_right (by decide))⟩ _ rfl
              apply RelH.op2
              · intro L f u K hN hS hK
                simp only [puts, Act.put, List.setIfInBounds_toArray, List.set_cons_zero, List.set_cons_succ, upd, Nat.reduceEqDiff, ↓reduceIte, if_true, if_false] at hK ⊢
                have HS9 := Lib.hid hS
                obtain ⟨qB, c0, c1, c2, c3, c4, c5, c6, c7, c8, c9, c10, c11, c12⟩ := hS
                have e1 := c1 (hN.out.2 1 (by decide +kernel))
                have e2 := c2 (hN.out.2 2 (by decide +kernel))
                clear c0 c1 c2 c3 c4 c5 c6 c7 c8 c9 c10 c11 c12
                go_simp
                obtain ⟨qB, c0, c1, c2, c3, c4, c5, c6, c7, c8, c9, c10, c11, c12⟩ := HS9.out
                exact hK.out _ _ ⟨qB, fun h t0 => c0 (h.resolve_right (by decide)) (fun z => t0 (.inl z)), fun h => c1 (h.resolve_right (by decide)), fun h => c2 (h.resolve_right (by decide)), fun _ => rfl, fun h t0 => c4 (h.resolve_right (by decide)) (fun z => t0 (.inl z)), fun h => c5 (h.resolve_right (by decide)), fun h t0 => c6 (h.resolve_right (by decide)) (fun z => t0 (.inl z)), fun h t0 => c7 (h.resolve_right (by decide)) (fun z => t0 (.inl z)), fun h => c8 (h.resolve_right (by decide)), fun h => c9 (h.resolve_right (by decide)), fun h => c10 (h.resolve_right (by decide)), fun h => c11 (h.resolve_right (by decide)), fun h => c12 (h.resolve_right (by decide))⟩ _ (by simp only [e1, e2])
              apply RelH.op2
              · intro L f u K hN hS hK
                simp only [puts, Act.put, List.setIfInBounds_toArray, List.set_cons_zero, List.set_cons_succ, upd, Nat.reduceEqDiff, ↓reduceIte, if_true, if_false] at hK ⊢
                have HS9 := Lib.hid hS
                obtain ⟨qB, c0, c1, c2, c3, c4, c5, c6, c7, c8, c9, c10, c11, c12⟩ := hS
                obtain ⟨g, h0, O0⟩ := c0 (hN.out.2 0 (by decide +kernel)) (hN.out.1 4 (by decide +kernel))
                obtain h3 := c3 (hN.out.2 3 (by decide +kernel))
                refine step_fresh rfl (.tmp 46) (.tmp 49) 24 rfl (w.heap.size + 1) 42 i0 _ 2 16 Try.underlying24 hi hz0 HI1.out HI.out rfl (by decide) g h0 O0 ⟨b, o, none⟩ k k (flat (l.take k)) h3 (by rw [flat_n, List.length_take]; omega) (HSRC.out.take qB.below k) (flat_one _) (by unfold maxLen; omega) (by omega) (by have := qB.there; omega) ?_
                intro v1 uw1 O1 hv
                obtain ⟨A1, d1, rfl⟩ := own_form O1
                exact hK.out (.slice A1 k d1) uw1 ⟨qB.more hv, fun h t0 => (t0 (by simp)).elim, fun h => c1 (h.resolve_right (by decide)), fun h => c2 (h.resolve_right (by decide)), fun h => c3 (h.resolve_right (by decide)), fun _ _ => ⟨A1, d1, rfl, O1⟩, fun h => c5 (h.resolve_right (by decide)), fun h t0 => (let ⟨h, e, X⟩ := (c6 (h.resolve_right (by decide)) (fun z => t0 (.inl z))); ⟨h, e, X.more hv⟩), fun h t0 => (let ⟨A9, c9, e, O9⟩ := (c7 (h.resolve_right (by decide)) (fun z => t0 (.inl z))); ⟨A9, c9, e, own_keep O9 hv⟩), fun h => c8 (h.resolve_right (by decide)), fun h => c9 (h.resolve_right (by decide)), fun h => c10 (h.resolve_right (by decide)), fun h => (let ⟨A9, c9, e, O9⟩ := (c11 (h.resolve_right (by decide))); ⟨A9, c9, e, own_keep O9 hv⟩), fun h => (let ⟨A9, c9, e, O9⟩ := (c12 (h.resolve_right (by decide))); ⟨A9, c9, e, own_keep O9 hv⟩)⟩ _ rfl
              apply RelH.op2
              · intro L f u K hN hS hK
                simp only [puts, Act.put, List.setIfInBounds_toArray, List.set_cons_zero, List.set_cons_succ, upd, Nat.reduceEqDiff, ↓reduceIte, if_true, if_false] at hK ⊢
                have HS9 := Lib.hid hS
                obtain ⟨qB, c0, c1, c2, c3, c4, c5, c6, c7, c8, c9, c10, c11, c12⟩ := hS
                have qB_0 := qB.cells 0 _ rfl
                have qB_1 := qB.cells 1 _ rfl
                clear c0 c1 c2 c3 c4 c5 c6 c7 c8 c9 c10 c11 c12
                go_simp
                obtain ⟨qB, c0, c1, c2, c3, c4, c5, c6, c7, c8, c9, c10, c11, c12⟩ := HS9.out
                exact hK.out _ _ ⟨qB, fun h t0 => c0 (h.resolve_right (by decide)) (fun z => t0 (.inl z)), fun h => c1 (h.resolve_right (by decide)), fun h => c2 (h.resolve_right (by decide)), fun h => c3 (h.resolve_right (by decide)), fun h t0 => c4 (h.resolve_right (by decide)) (fun z => t0 (.inl z)), fun _ => rfl, fun h t0 => c6 (h.resolve_right (by decide)) (fun z => t0 (.inl z)), fun h t0 => c7 (h.resolve_right (by decide)) (fun z => t0 (.inl z)), fun h => c8 (h.resolve_right (by decide)), fun h => c9 (h.resolve_right (by decide)), fun h => c10 (h.resolve_right (by decide)), fun h => c11 (h.resolve_right (by decide)), fun h => c12 (h.resolve_right (by decide))⟩ _ rfl
              apply RelH.op2
              · intro L f u K hN hS hK
                simp only [puts, Act.put, List.setIfInBounds_toArray, List.set_cons_zero, List.set_cons_succ, upd, Nat.reduceEqDiff, ↓reduceIte, if_true, if_false] at hK ⊢
                have HS9 := Lib.hid hS
                obtain ⟨qB, c0, c1, c2, c3, c4, c5, c6, c7, c8, c9, c10, c11, c12⟩ := hS
                have e5 := c5 (hN.out.2 5 (by decide +kernel))
                have hv := al (Below.refl _ u) (o := .cells #[.int .i64 x.f0, .int .i64 x.f1] 42)
                have hX := Box.new qB.below [.int .i64 x.f0, .int .i64 x.f1] 42 (g := u.heap.size) rfl
                clear c0 c1 c2 c3 c4 c5 c6 c7 c8 c9 c10 c11 c12
                go_simp
                obtain ⟨qB, c0, c1, c2, c3, c4, c5, c6, c7, c8, c9, c10, c11, c12⟩ := HS9.out
                exact hK.out _ _ ⟨qB.more hv, fun h t0 => (let ⟨g, e, O9⟩ := (c0 (h.resolve_right (by decide)) (fun z => t0 (.inl z))); ⟨g, e, own_keep O9 hv⟩), fun h => c1 (h.resolve_right (by decide)), fun h => c2 (h.resolve_right (by decide)), fun h => c3 (h.resolve_right (by decide)), fun h t0 => (let ⟨A9, c9, e, O9⟩ := (c4 (h.resolve_right (by decide)) (fun z => t0 (.inl z))); ⟨A9, c9, e, own_keep O9 hv⟩), fun h => c5 (h.resolve_right (by decide)), fun _ _ => ⟨_, rfl, hX⟩, fun h t0 => (let ⟨A9, c9, e, O9⟩ := (c7 (h.resolve_right (by decide)) (fun z => t0 (.inl z))); ⟨A9, c9, e, own_keep O9 hv⟩), fun h => c8 (h.resolve_right (by decide)), fun h => c9 (h.resolve_right (by decide)), fun h => c10 (h.resolve_right (by decide)), fun h => (let ⟨A9, c9, e, O9⟩ := (c11 (h.resolve_right (by decide))); ⟨A9, c9, e, own_keep O9 hv⟩), fun h => (let ⟨A9, c9, e, O9⟩ := (c12 (h.resolve_right (by decide))); ⟨A9, c9, e, own_keep O9 hv⟩)⟩ _ (by simp only [e5])
              apply RelH.op2
              · intro L f u K hN hS hK
                simp only [puts, Act.put, List.setIfInBounds_toArray, List.set_cons_zero, List.set_cons_succ, upd, Nat.reduceEqDiff, ↓reduceIte, if_true, if_false] at hK ⊢
                have HS9 := Lib.hid hS
                obtain ⟨qB, c0, c1, c2, c3, c4, c5, c6, c7, c8, c9, c10, c11, c12⟩ := hS
                obtain ⟨A1, d1, h4, O4⟩ := c4 (hN.out.2 4 (by decide +kernel)) (hN.out.1 7 (by decide +kernel))
                obtain ⟨g6, h6, X⟩ := c6 (hN.out.2 6 (by decide +kernel)) (hN.out.1 7 (by decide +kernel))
                refine step_own rfl (.tmp 50) (.tmp 52) 24 rfl (w.heap.size + 1) 42 i0 _ 2 16 Try.underlying24 hi hz0 HI1.out HI.out rfl (by decide) (.slice A1 k d1) k (flat (l.take k)) h4 O4 ⟨g6, 0, none⟩ 1 1 [.int .i64 x.f0, .int .i64 x.f1] h6 rfl (box_news X) (xone x) (by unfold maxLen; omega) (by omega) (by have := qB.there; omega) ?_
                intro v2 uw1 O2 hg2 _
                obtain ⟨A2, d2, rfl⟩ := own_form O2
                have hB2 := qB.grown hg2 (fun k9 hk => own_ge O4 k9 hk)
                exact hK.out (.slice A2 (k + 1) d2) uw1 ⟨hB2, fun h t0 => (t0 (.inl (hN.out.2 4 (by decide +kernel)))).elim, fun h => c1 (h.resolve_right (by decide)), fun h => c2 (h.resolve_right (by decide)), fun h => c3 (h.resolve_right (by decide)), fun h t0 => (t0 (by simp)).elim, fun h => c5 (h.resolve_right (by decide)), fun h t0 => (t0 (by simp)).elim, fun _ _ => ⟨A2, d2, rfl, O2⟩, fun h => c8 (h.resolve_right (by decide)), fun h => c9 (h.resolve_right (by decide)), fun h => c10 (h.resolve_right (by decide)), fun h => absurd (h.resolve_right (by decide)) (hN.out.1 11 (by decide +kernel)), fun h => absurd (h.resolve_right (by decide)) (hN.out.1 12 (by decide +kernel))⟩ _ rfl
              apply RelH.op2
              · intro L f u K hN hS hK
                simp only [puts, Act.put, List.setIfInBounds_toArray, List.set_cons_zero, List.set_cons_succ, upd, Nat.reduceEqDiff, ↓reduceIte, if_true, if_false] at hK ⊢
                have HS9 := Lib.hid hS
                obtain ⟨qB, c0, c1, c2, c3, c4, c5, c6, c7, c8, c9, c10, c11, c12⟩ := hS
                clear c0 c1 c2 c3 c4 c5 c6 c7 c8 c9 c10 c11 c12
                go_simp
                obtain ⟨qB, c0, c1, c2, c3, c4, c5, c6, c7, c8, c9, c10, c11, c12⟩ := HS9.out
                exact hK.out _ _ ⟨qB, fun h t0 => c0 (h.resolve_right (by decide)) (fun z => t0 (.inl z)), fun h => c1 (h.resolve_right (by decide)), fun h => c2 (h.resolve_right (by decide)), fun h => c3 (h.resolve_right (by decide)), fun h t0 => c4 (h.resolve_right (by decide)) (fun z => t0 (.inl z)), fun h => c5 (h.resolve_right (by decide)), fun h t0 => c6 (h.resolve_right (by decide)) (fun z => t0 (.inl z)), fun h t0 => c7 (h.resolve_right (by decide)) (fun z => t0 (.inl z)), fun _ => rfl, fun h => c9 (h.resolve_right (by decide)), fun h => c10 (h.resolve_right (by decide)), fun h => c11 (h.resolve_right (by decide)), fun h => c12 (h.resolve_right (by decide))⟩ _ rfl
              apply RelH.op2
              · intro L f u K hN hS hK
                simp only [puts, Act.put, List.setIfInBounds_toArray, List.set_cons_zero, List.set_cons_succ, upd, Nat.reduceEqDiff, ↓reduceIte, if_true, if_false] at hK ⊢
                have HS9 := Lib.hid hS
                obtain ⟨qB, c0, c1, c2, c3, c4, c5, c6, c7, c8, c9, c10, c11, c12⟩ := hS
                clear c0 c1 c2 c3 c4 c5 c6 c7 c8 c9 c10 c11 c12
                go_simp
                obtain ⟨qB, c0, c1, c2, c3, c4, c5, c6, c7, c8, c9, c10, c11, c12⟩ := HS9.out
                exact hK.out _ _ ⟨qB, fun h t0 => c0 (h.resolve_right (by decide)) (fun z => t0 (.inl z)), fun h => c1 (h.resolve_right (by decide)), fun h => c2 (h.resolve_right (by decide)), fun h => c3 (h.resolve_right (by decide)), fun h t0 => c4 (h.resolve_right (by decide)) (fun z => t0 (.inl z)), fun h => c5 (h.resolve_right (by decide)), fun h t0 => c6 (h.resolve_right (by decide)) (fun z => t0 (.inl z)), fun h t0 => c7 (h.resolve_right (by decide)) (fun z => t0 (.inl z)), fun h => c8 (h.resolve_right (by decide)), fun _ => rfl, fun h => c10 (h.resolve_right (by decide)), fun h => c11 (h.resolve_right (by decide)), fun h => c12 (h.resolve_right (by decide))⟩ _ rfl
              apply RelH.op2
              · intro L f u K hN hS hK
                simp only [puts, Act.put, List.setIfInBounds_toArray, List.set_cons_zero, List.set_cons_succ, upd, Nat.reduceEqDiff, ↓reduceIte, if_true, if_false] at hK ⊢
                have HS9 := Lib.hid hS
                obtain ⟨qB, c0, c1, c2, c3, c4, c5, c6, c7, c8, c9, c10, c11, c12⟩ := hS
                have e8 := c8 (hN.out.2 8 (by decide +kernel))
                have e9 := c9 (hN.out.2 9 (by decide +kernel))
                clear c0 c1 c2 c3 c4 c5 c6 c7 c8 c9 c10 c11 c12
                go_simp
                obtain ⟨qB, c0, c1, c2, c3, c4, c5, c6, c7, c8, c9, c10, c11, c12⟩ := HS9.out
                exact hK.out _ _ ⟨qB, fun h t0 => c0 (h.resolve_right (by decide)) (fun z => t0 (.inl z)), fun h => c1 (h.resolve_right (by decide)), fun h => c2 (h.resolve_right (by decide)), fun h => c3 (h.resolve_right (by decide)), fun h t0 => c4 (h.resolve_right (by decide)) (fun z => t0 (.inl z)), fun h => c5 (h.resolve_right (by decide)), fun h t0 => c6 (h.resolve_right (by decide)) (fun z => t0 (.inl z)), fun h t0 => c7 (h.resolve_right (by decide)) (fun z => t0 (.inl z)), fun h => c8 (h.resolve_right (by decide)), fun h => c9 (h.resolve_right (by decide)), fun _ => rfl, fun h => c11 (h.resolve_right (by decide)), fun h => c12 (h.resolve_right (by decide))⟩ _ (by simp only [e8, e9])
              apply RelH.op2
              · intro L f u K hN hS hK
                simp only [puts, Act.put, List.setIfInBounds_toArray, List.set_cons_zero, List.set_cons_succ, upd, Nat.reduceEqDiff, ↓reduceIte, if_true, if_false] at hK ⊢
                have HS9 := Lib.hid hS
                obtain ⟨qB, c0, c1, c2, c3, c4, c5, c6, c7, c8, c9, c10, c11, c12⟩ := hS
                obtain ⟨A2, d2, h7, O7⟩ := c7 (hN.out.2 7 (by decide +kernel)) (hN.out.1 11 (by decide +kernel))
                obtain h10 := c10 (hN.out.2 10 (by decide +kernel))
                refine step_own rfl (.tmp 53) (.tmp 56) 24 rfl (w.heap.size + 1) 42 i0 _ 2 16 Try.underlying24 hi hz0 HI1.out HI.out rfl (by decide) (.slice A2 (k + 1) d2) (k + 1) (flat (l.take k) ++ [.int .i64 x.f0, .int .i64 x.f1]) h7 O7 ⟨b, o, none⟩ (l.length - k) 0 ((flat l).drop (k * 2)) h10 (by rw [List.length_drop, flat_n]; omega) (drop_none (by have := HCAP.out; omega)) (fun v9 h9 => flat_one l v9 (List.mem_of_mem_drop h9)) (by unfold maxLen; omega) (by omega) (by have := qB.there; omega) ?_
                intro v3 uw1 O3 hg3 _
                obtain ⟨A3, d3, rfl⟩ := own_form O3
                have hB2 := qB.grown hg3 (fun k9 hk => own_ge O7 k9 hk)
                exact hK.out (.slice A3 (k + 1 + (l.length - k)) d3) uw1 ⟨hB2, fun h t0 => (t0 (.inl (hN.out.2 4 (by decide +kernel)))).elim, fun h => c1 (h.resolve_right (by decide)), fun h => c2 (h.resolve_right (by decide)), fun h => c3 (h.resolve_right (by decide)), fun h t0 => (t0 (.inl (hN.out.2 7 (by decide +kernel)))).elim, fun h => c5 (h.resolve_right (by decide)), fun h t0 => (t0 (.inl (hN.out.2 7 (by decide +kernel)))).elim, fun h t0 => (t0 (by simp)).elim, fun h => c8 (h.resolve_right (by decide)), fun h => c9 (h.resolve_right (by decide)), fun h => c10 (h.resolve_right (by decide)), fun _ => ⟨A3, d3, rfl, O3⟩, fun h => absurd (h.resolve_right (by decide)) (hN.out.1 12 (by decide +kernel))⟩ _ rfl
              apply RelH.op2
              · intro L f u K hN hS hK
                simp only [puts, Act.put, List.setIfInBounds_toArray, List.set_cons_zero, List.set_cons_succ, upd, Nat.reduceEqDiff, ↓reduceIte, if_true, if_false] at hK ⊢
                have HS9 := Lib.hid hS
                obtain ⟨qB, c0, c1, c2, c3, c4, c5, c6, c7, c8, c9, c10, c11, c12⟩ := hS
                obtain ⟨A3, d3, e11, O3⟩ := c11 (hN.out.2 11 (by decide +kernel))
                clear c0 c1 c2 c3 c4 c5 c6 c7 c8 c9 c10 c11 c12
                go_simp
                obtain ⟨qB, c0, c1, c2, c3, c4, c5, c6, c7, c8, c9, c10, c11, c12⟩ := HS9.out
                exact hK.out _ _ ⟨qB, fun h t0 => c0 (h.resolve_right (by decide)) (fun z => t0 (.inl z)), fun h => c1 (h.resolve_right (by decide)), fun h => c2 (h.resolve_right (by decide)), fun h => c3 (h.resolve_right (by decide)), fun h t0 => c4 (h.resolve_right (by decide)) (fun z => t0 (.inl z)), fun h => c5 (h.resolve_right (by decide)), fun h t0 => c6 (h.resolve_right (by decide)) (fun z => t0 (.inl z)), fun h t0 => c7 (h.resolve_right (by decide)) (fun z => t0 (.inl z)), fun h => c8 (h.resolve_right (by decide)), fun h => c9 (h.resolve_right (by decide)), fun h => c10 (h.resolve_right (by decide)), fun h => c11 (h.resolve_right (by decide)), fun _ => ⟨A3, d3, rfl, O3⟩⟩ _ (by simp only [e11])
              exact RelH.done
            intro L f V0 hL hS
            simp only [puts, Act.put, List.setIfInBounds_toArray, List.set_cons_zero, List.set_cons_succ]
            obtain ⟨qB, c0, c1, c2, c3, c4, c5, c6, c7, c8, c9, c10, c11, c12⟩ := hS
            clear B
            have B := qB
            obtain ⟨A3, d3, e12, O3⟩ := c12 (hL 12 (by decide))
            rw [← HLM.out] at e12 O3
            rw [← HFM.out] at O3
            simp only [e12]
            clear e12 c0 c1 c2 c3 c4 c5 c6 c7 c8 c9 c10 c11 c12 hL qB
            have HB3 := B.below
            clear B
            go_wp2_with fail
            refine (SunG.good_spec A3 d3 m V0 (Rd.of_own O3) (by rw [HLM.out]; omega)).mono ?_
            rintro e w3 ⟨rfl, hv3⟩
            replace HB3 := be HB3 hv3
            replace O3 := own_keep O3 hv3
            cases h1 : good m
            · go_wp2
              go_ret2
              exact put_bad (pt2 HM.out h1) HB3
            · go_wp2
              go_ret2
              exact put_good hg HM.out h1 HB3 (Nat.le_succ _) O3
          · refine wp_region_rel [46, 47, 48, 49, 50, 51, 52, 53, 54, 55, 56, 57, 8] (fun L f w' => (Box (w.heap.size) [.int .i64 x.f0, .int .i64 x.f1] w w') ∧ (L 0 → ¬ L 4 → ∃ g, f 46 = .slice (some ⟨g, 0, none⟩) 0 0 ∧ w'.ownsRow (w.heap.size + 1) 42 2 (.slice (some ⟨g, 0, none⟩) 0 0) (0) ([])) ∧ (L 1 → f 47 = .slice (some ⟨b, o, none⟩) l.length cap) ∧ (L 2 → f 48 = .int .i64 k) ∧ (L 3 → f 49 = .slice (some ⟨b, o, none⟩) k cap) ∧ (L 4 → ¬ L 7 → ∃ A1 c1, f 50 = .slice A1 k c1 ∧ w'.ownsRow (w.heap.size + 1) 42 2 (.slice A1 k c1) (k) (flat (l.take k))) ∧ (L 5 → f 51 = .agg #[.int .i64 x.f0, .int .i64 x.f1]) ∧ (L 6 → ¬ L 7 → ∃ h, f 52 = .slice (some ⟨h, 0, none⟩) 1 1 ∧ Box h [.int .i64 x.f0, .int .i64 x.f1] w w') ∧ (L 7 → ¬ L 11 → ∃ A2 c2, f 53 = .slice A2 (k + 1) c2 ∧ w'.ownsRow (w.heap.size + 1) 42 2 (.slice A2 (k + 1) c2) (k + 1) (flat (l.take k) ++ [.int .i64 x.f0, .int .i64 x.f1])) ∧ (L 8 → f 54 = .slice (some ⟨b, o, none⟩) l.length cap) ∧ (L 9 → f 55 = .int .i64 k) ∧ (L 10 → f 56 = .slice (some ⟨b, o + k * 2, none⟩) (l.length - k) (cap - k)) ∧ (L 11 → ∃ A3 c3, f 57 = .slice A3 (k + 1 + (l.length - k)) c3 ∧ w'.ownsRow (w.heap.size + 1) 42 2 (.slice A3 (k + 1 + (l.length - k)) c3) (k + 1 + (l.length - k)) (flat (l.take k) ++ [.int .i64 x.f0, .int .i64 x.f1] ++ (flat l).drop (k * 2))) ∧ (L 12 → ∃ A3 c3, f 8 = .slice A3 (k + 1 + (l.length - k)) c3 ∧ w'.ownsRow (w.heap.size + 1) 42 2 (.slice A3 (k + 1 + (l.length - k)) c3) (k + 1 + (l.length - k)) (flat (l.take k) ++ [.int .i64 x.f0, .int .i64 x.f1] ++ (flat l).drop (k * 2)))) (by kernel_rfl) (by kernel_rfl) (by kernel_rfl) (fun f => ⟨B.drew, fun h => h.elim, fun h => h.elim, fun h => h.elim, fun h => h.elim, fun h => h.elim, fun h => h.elim, fun h => h.elim, fun h => h.elim, fun h => h.elim, fun h => h.elim, fun h => h.elim, fun h => h.elim, fun h => h.elim⟩) ?_ ?_
            · apply RelH.op2
              · intro L f u K hN hS hK
                simp only [puts, Act.put, List.setIfInBounds_toArray, List.set_cons_zero, List.set_cons_succ, upd, Nat.reduceEqDiff, ↓reduceIte, if_true, if_false] at hK ⊢
                have HS9 := Lib.hid hS
                obtain ⟨qB, c0, c1, c2, c3, c4, c5, c6, c7, c8, c9, c10, c11, c12⟩ := hS
                have hv := al (Below.refl _ u) (o := .cells #[] 42)
                have hO := own0 u (w.heap.size + 1) (by have := qB.there; omega)
                clear c0 c1 c2 c3 c4 c5 c6 c7 c8 c9 c10 c11 c12
                go_simp
                obtain ⟨qB, c0, c1, c2, c3, c4, c5, c6, c7, c8, c9, c10, c11, c12⟩ := HS9.out
                exact hK.out _ _ ⟨qB.more hv, fun _ _ => ⟨_, rfl, hO⟩, fun h => c1 (h.resolve_right (by decide)), fun h => c2 (h.resolve_right (by decide)), fun h => c3 (h.resolve_right (by decide)), fun h t0 => (let ⟨A9, c9, e, O9⟩ := (c4 (h.resolve_right (by decide)) (fun z => t0 (.inl z))); ⟨A9, c9, e, own_keep O9 hv⟩), fun h => c5 (h.resolve_right (by decide)), fun h t0 => (let ⟨h, e, X⟩ := (c6 (h.resolve_right (by decide)) (fun z => t0 (.inl z))); ⟨h, e, X.more hv⟩), fun h t0 => (let ⟨A9, c9, e, O9⟩ := (c7 (h.resolve_right (by decide)) (fun z => t0 (.inl z))); ⟨A9, c9, e, own_keep O9 hv⟩), fun h => c8 (h.resolve_right (by decide)), fun h => c9 (h.resolve_right (by decide)), fun h => c10 (h.resolve_right (by decide)), fun h => (let ⟨A9, c9, e, O9⟩ := (c11 (h.resolve_right (by decide))); ⟨A9, c9, e, own_keep O9 hv⟩), fun h => (let ⟨A9, c9, e, O9⟩ := (c12 (h.resolve_right (by decide))); ⟨A9, c9, e, own_keep O9 hv⟩)⟩ _ rfl
              apply RelH.op2
              · intro L f u K hN hS hK
                simp only [puts, Act.put, List.setIfInBounds_toArray, List.set_cons_zero, List.set_cons_succ, upd, Nat.reduceEqDiff, ↓reduceIte, if_true, if_false] at hK ⊢
                have HS9 := Lib.hid hS
                obtain ⟨qB, c0, c1, c2, c3, c4, c5, c6, c7, c8, c9, c10, c11, c12⟩ := hS
                clear c0 c1 c2 c3 c4 c5 c6 c7 c8 c9 c10 c11 c12
                go_simp
                obtain ⟨qB, c0, c1, c2, c3, c4, c5, c6, c7, c8, c9, c10, c11, c12⟩ := HS9.out
                exact hK.out _ _ ⟨qB, fun h t0 => c0 (h.resolve_right (by decide)) (fun z => t0 (.inl z)), fun _ => rfl, fun h => c2 (h.resolve_right (by decide)), fun h => c3 (h.resolve_right (by decide)), fun h t0 => c4 (h.resolve_right (by decide)) (fun z => t0 (.inl z)), fun h => c5 (h.resolve_right (by decide)), fun h t0 => c6 (h.resolve_right (by decide)) (fun z => t0 (.inl z)), fun h t0 => c7 (h.resolve_right (by decide)) (fun z => t0 (.inl z)), fun h => c8 (h.resolve_right (by decide)), fun h => c9 (h.resolve_right (by decide)), fun h => c10 (h.resolve_right (by decide)), fun h => c11 (h.resolve_right (by decide)), fun h => c12 (h.resolve_right (by decide))⟩ _ rfl
              apply RelH.op2
              · intro L f u K hN hS hK
                simp only [puts, Act.put, List.setIfInBounds_toArray, List.set_cons_zero, List.set_cons_succ, upd, Nat.reduceEqDiff, ↓reduceIte, if_true, if_false] at hK ⊢
                have HS9 := Lib.hid hS
                obtain ⟨qB, c0, c1, c2, c3, c4, c5, c6, c7, c8, c9, c10, c11, c12⟩ := hS
                clear c0 c1 c2 c3 c4 c5 c6 c7 c8 c9 c10 c11 c12
                go_simp
                obtain ⟨qB, c0, c1, c2, c3, c4, c5, c6, c7, c8, c9, c10, c11, c12⟩ := HS9.out
                exact hK.out _ _ ⟨qB, fun h t0 => c0 (h.resolve_right (by decide)) (fun z => t0 (.inl z)), fun h => c1 (h.resolve_right (by decide)), fun _ => rfl, fun h => c3 (h.resolve_right (by decide)), fun h t0 => c4 (h.resolve_right (by decide)) (fun z => t0 (.inl z)), fun h => c5 (h.resolve_right (by decide)), fun h t0 => c6 (h.resolve_right (by decide)) (fun z => t0 (.inl z)), fun h t0 => c7 (h.resolve_right (by decide)) (fun z => t0 (.inl z)), fun h => c8 (h.resolve_right (by decide)), fun h => c9 (h.resolve_right (by decide)), fun h => c10 (h.resolve_right (by decide)), fun h => c11 (h.resolve_right (by decide)), fun h => c12 (h.resolve_right (by decide))⟩ _ rfl
              apply RelH.op2
              · intro L f u K hN hS hK
                simp only [puts, Act.put, List.setIfInBounds_toArray, List.set_cons_zero, List.set_cons_succ, upd, Nat.reduceEqDiff, ↓reduceIte, if_true, if_false] at hK ⊢
                have HS9 := Lib.hid hS
                obtain ⟨qB, c0, c1, c2, c3, c4, c5, c6, c7, c8, c9, c10, c11, c12⟩ := hS
                have e1 := c1 (hN.out.2 1 (by decide +kernel))
                have e2 := c2 (hN.out.2 2 (by decide +kernel))
                clear c0 c1 c2 c3 c4 c5 c6 c7 c8 c9 c10 c11 c12
                go_simp
                obtain ⟨qB, c0, c1, c2, c3, c4, c5, c6, c7, c8, c9, c10, c11, c12⟩ := HS9.out
                exact hK.out _ _ ⟨qB, fun h t0 => c0 (h.resolve_right (by decide)) (fun z => t0 (.inl z)), fun h => c1 (h.resolve_right (by decide)), fun h => c2 (h.resolve_right (by decide)), fun _ => rfl, fun h t0 => c4 (h.resolve_right (by decide)) (fun z => t0 (.inl z)), fun h => c5 (h.resolve_right (by decide)), fun h t0 => c6 (h.resolve_right (by decide)) (fun z => t0 (.inl z)), fun h t0 => c7 (h.resolve_right (by decide)) (fun z => t0 (.inl z)), fun h => c8 (h.resolve_right (by decide)), fun h => c9 (h.resolve_right (by decide)), fun h => c10 (h.resolve_right (by decide)), fun h => c11 (h.resolve_right (by decide)), fun h => c12 (h.resolve_right (by decide))⟩ _ (by simp only [e1, e2])
              apply RelH.op2
              · intro L f u K hN hS hK
                simp only [puts, Act.put, List.setIfInBounds_toArray, List.set_cons_zero, List.set_cons_succ, upd, Nat.reduceEqDiff, ↓reduceIte, if_true, if_false] at hK ⊢
                have HS9 := Lib.hid hS
                obtain ⟨qB, c0, c1, c2, c3, c4, c5, c6, c7, c8, c9, c10, c11, c12⟩ := hS
                obtain ⟨g, h0, O0⟩ := c0 (hN.out.2 0 (by decide +kernel)) (hN.out.1 4 (by decide +kernel))
                obtain h3 := c3 (hN.out.2 3 (by decide +kernel))
                refine step_fresh rfl (.tmp 46) (.tmp 49) 24 rfl (w.heap.size + 1) 42 i0 _ 2 16 Try.underlying24 hi hz0 HI1.out HI.out rfl (by decide) g h0 O0 ⟨b, o, none⟩ k cap (flat (l.take k)) h3 (by rw [flat_n, List.length_take]; omega) (HSRC.out.take qB.below k) (flat_one _) (by unfold maxLen; omega) (by omega) (by have := qB.there; omega) ?_
                intro v1 uw1 O1 hv
                obtain ⟨A1, d1, rfl⟩ := own_form O1
                exact hK.out (.slice A1 k d1) uw1 ⟨qB.more hv, fun h t0 => (t0 (by simp)).elim, fun h => c1 (h.resolve_right (by decide)), fun h => c2 (h.resolve_right (by decide)), fun h => c3 (h.resolve_right (by decide)), fun _ _ => ⟨A1, d1, rfl, O1⟩, fun h => c5 (h.resolve_right (by decide)), fun h t0 => (let ⟨h, e, X⟩ := (c6 (h.resolve_right (by decide)) (fun z => t0 (.inl z))); ⟨h, e, X.more hv⟩), fun h t0 => (let ⟨A9, c9, e, O9⟩ := (c7 (h.resolve_right (by decide)) (fun z => t0 (.inl z))); ⟨A9, c9, e, own_keep O9 hv⟩), fun h => c8 (h.resolve_right (by decide)), fun h => c9 (h.resolve_right (by decide)), fun h => c10 (h.resolve_right (by decide)), fun h => (let ⟨A9, c9, e, O9⟩ := (c11 (h.resolve_right (by decide))); ⟨A9, c9, e, own_keep O9 hv⟩), fun h => (let ⟨A9, c9, e, O9⟩ := (c12 (h.resolve_right (by decide))); ⟨A9, c9, e, own_keep O9 hv⟩)⟩ _ rfl
              apply RelH.op2
              · intro L f u K hN hS hK
                simp only [puts, Act.put, List.setIfInBounds_toArray, List.set_cons_zero, List.set_cons_succ, upd, Nat.reduceEqDiff, ↓reduceIte, if_true, if_false] at hK ⊢
                have HS9 := Lib.hid hS
                obtain ⟨qB, c0, c1, c2, c3, c4, c5, c6, c7, c8, c9, c10, c11, c12⟩ := hS
                have qB_0 := qB.cells 0 _ rfl
                have qB_1 := qB.cells 1 _ rfl
                clear c0 c1 c2 c3 c4 c5 c6 c7 c8 c9 c10 c11 c12
                go_simp
                obtain ⟨qB, c0, c1, c2, c3, c4, c5, c6, c7, c8, c9, c10, c11, c12⟩ := HS9.out
                exact hK.out _ _ ⟨qB, fun h t0 => c0 (h.resolve_right (by decide)) (fun z => t0 (.inl z)), fun h => c1 (h.resolve_right (by decide)), fun h => c2 (h.resolve_right (by decide)), fun h => c3 (h.resolve_right (by decide)), fun h t0 => c4 (h.resolve_right (by decide)) (fun z => t0 (.inl z)), fun _ => rfl, fun h t0 => c6 (h.resolve_right (by decide)) (fun z => t0 (.inl z)), fun h t0 => c7 (h.resolve_right (by decide)) (fun z => t0 (.inl z)), fun h => c8 (h.resolve_right (by decide)), fun h => c9 (h.resolve_right (by decide)), fun h => c10 (h.resolve_right (by decide)), fun h => c11 (h.resolve_right (by decide)), fun h => c12 (h.resolve_right (by decide))⟩ _ rfl
              apply RelH.op2
              · intro L f u K hN hS hK
                simp only [puts, Act.put, List.setIfInBounds_toArray, List.set_cons_zero, List.set_cons_succ, upd, Nat.reduceEqDiff, ↓reduceIte, if_true, if_false] at hK ⊢
                have HS9 := Lib.hid hS
                obtain ⟨qB, c0, c1, c2, c3, c4, c5, c6, c7, c8, c9, c10, c11, c12⟩ := hS
                have e5 := c5 (hN.out.2 5 (by decide +kernel))
                have hv := al (Below.refl _ u) (o := .cells #[.int .i64 x.f0, .int .i64 x.f1] 42)
                have hX := Box.new qB.below [.int .i64 x.f0, .int .i64 x.f1] 42 (g := u.heap.size) rfl
                clear c0 c1 c2 c3 c4 c5 c6 c7 c8 c9 c10 c11 c12
                go_simp
                obtain ⟨qB, c0, c1, c2, c3, c4, c5, c6, c7, c8, c9, c10, c11, c12⟩ := HS9.out
                exact hK.out _ _ ⟨qB.more hv, fun h t0 => (let ⟨g, e, O9⟩ := (c0 (h.resolve_right (by decide)) (fun z => t0 (.inl z))); ⟨g, e, own_keep O9 hv⟩), fun h => c1 (h.resolve_right (by decide)), fun h => c2 (h.resolve_right (by decide)), fun h => c3 (h.resolve_right (by decide)), fun h t0 => (let ⟨A9, c9, e, O9⟩ := (c4 (h.resolve_right (by decide)) (fun z => t0 (.inl z))); ⟨A9, c9, e, own_keep O9 hv⟩), fun h => c5 (h.resolve_right (by decide)), fun _ _ => ⟨_, rfl, hX⟩, fun h t0 => (let ⟨A9, c9, e, O9⟩ := (c7 (h.resolve_right (by decide)) (fun z => t0 (.inl z))); ⟨A9, c9, e, own_keep O9 hv⟩), fun h => c8 (h.resolve_right (by decide)), fun h => c9 (h.resolve_right (by decide)), fun h => c10 (h.resolve_right (by decide)), fun h => (let ⟨A9, c9, e, O9⟩ := (c11 (h.resolve_right (by decide))); ⟨A9, c9, e, own_keep O9 hv⟩), fun h => (let ⟨A9, c9, e, O9⟩ := (c12 (h.resolve_right (by decide))); ⟨A9, c9, e, own_keep O9 hv⟩)⟩ _ (by simp only [e5])
              apply RelH.op2
              · intro L f u K hN hS hK
                simp only [puts, Act.put, List.setIfInBounds_toArray, List.set_cons_zero, List.set_cons_succ, upd, Nat.reduceEqDiff, ↓reduceIte, if_true, if_false] at hK ⊢
                have HS9 := Lib.hid hS
                obtain ⟨qB, c0, c1, c2, c3, c4, c5, c6, c7, c8, c9, c10, c11, c12⟩ := hS
                obtain ⟨A1, d1, h4, O4⟩ := c4 (hN.out.2 4 (by decide +kernel)) (hN.out.1 7 (by decide +kernel))
                obtain ⟨g6, h6, X⟩ := c6 (hN.out.2 6 (by decide +kernel)) (hN.out.1 7 (by decide +kernel))
                refine step_own rfl (.tmp 50) (.tmp 52) 24 rfl (w.heap.size + 1) 42 i0 _ 2 16 Try.underlying24 hi hz0 HI1.out HI.out rfl (by decide) (.slice A1 k d1) k (flat (l.take k)) h4 O4 ⟨g6, 0, none⟩ 1 1 [.int .i64 x.f0, .int .i64 x.f1] h6 rfl (box_news X) (xone x) (by unfold maxLen; omega) (by omega) (by have := qB.there; omega) ?_
                intro v2 uw1 O2 hg2 _
                obtain ⟨A2, d2, rfl⟩ := own_form O2
                have hB2 := qB.grown hg2 (fun k9 hk => own_ge O4 k9 hk)
                exact hK.out (.slice A2 (k + 1) d2) uw1 ⟨hB2, fun h t0 => (t0 (.inl (hN.out.2 4 (by decide +kernel)))).elim, fun h => c1 (h.resolve_right (by decide)), fun h => c2 (h.resolve_right (by decide)), fun h => c3 (h.resolve_right (by decide)), fun h t0 => (t0 (by simp)).elim, fun h => c5 (h.resolve_right (by decide)), fun h t0 => (t0 (by simp)).elim, fun _ _ => ⟨A2, d2, rfl, O2⟩, fun h => c8 (h.resolve_right (by decide)), fun h => c9 (h.resolve_right (by decide)), fun h => c10 (h.resolve_right (by decide)), fun h => absurd (h.resolve_right (by decide)) (hN.out.1 11 (by decide +kernel)), fun h => absurd (h.resolve_right (by decide)) (hN.out.1 12 (by decide +kernel))⟩ _ rfl
              apply RelH.op2
              · intro L f u K hN hS hK
                simp only [puts, Act.put, List.setIfInBounds_toArray, List.set_cons_zero, List.set_cons_succ, upd, Nat.reduceEqDiff, ↓reduceIte, if_true, if_false] at hK ⊢
                have HS9 := Lib.hid hS
                obtain ⟨qB, c0, c1, c2, c3, c4, c5, c6, c7, c8, c9, c10, c11, c12⟩ := hS
                clear c0 c1 c2 c3 c4 c5 c6 c7 c8 c9 c10 c11 c12
                go_simp
                obtain ⟨qB, c0, c1, c2, c3, c4, c5, c6, c7, c8, c9, c10, c11, c12⟩ := HS9.out
                exact hK.out _ _ ⟨qB, fun h t0 => c0 (h.resolve_right (by decide)) (fun z => t0 (.inl z)), fun h => c1 (h.resolve_right (by decide)), fun h => c2 (h.resolve_right (by decide)), fun h => c3 (h.resolve_right (by decide)), fun h t0 => c4 (h.resolve_right (by decide)) (fun z => t0 (.inl z)), fun h => c5 (h.resolve_right (by decide)), fun h t0 => c6 (h.resolve_right (by decide)) (fun z => t0 (.inl z)), fun h t0 => c7 (h.resolve_right (by decide)) (fun z => t0 (.inl z)), fun _ => rfl, fun h => c9 (h.resolve_right (by decide)), fun h => c10 (h.resolve_right (by decide)), fun h => c11 (h.resolve_right (by decide)), fun h => c12 (h.resolve_right (by decide))⟩ _ rfl
              apply RelH.op2
              · intro L f u K hN hS hK
                simp only [puts, Act.put, List.setIfInBounds_toArray, List.set_cons_zero, List.set_cons_succ, upd, Nat.reduceEqDiff, ↓reduceIte, if_true, if_false] at hK ⊢
                have HS9 := Lib.hid hS
                obtain ⟨qB, c0, c1, c2, c3, c4, c5, c6, c7, c8, c9, c10, c11, c12⟩ := hS
                clear c0 c1 c2 c3 c4 c5 c6 c7 c8 c9 c10 c11 c12
                go_simp
                obtain ⟨qB, c0, c1, c2, c3, c4, c5, c6, c7, c8, c9, c10, c11, c12⟩ := HS9.out
                exact hK.out _ _ ⟨qB, fun h t0 => c0 (h.resolve_right (by decide)) (fun z => t0 (.inl z)), fun h => c1 (h.resolve_right (by decide)), fun h => c2 (h.resolve_right (by decide)), fun h => c3 (h.resolve_right (by decide)), fun h t0 => c4 (h.resolve_right (by decide)) (fun z => t0 (.inl z)), fun h => c5 (h.resolve_right (by decide)), fun h t0 => c6 (h.resolve_right (by decide)) (fun z => t0 (.inl z)), fun h t0 => c7 (h.resolve_right (by decide)) (fun z => t0 (.inl z)), fun h => c8 (h.resolve_right (by decide)), fun _ => rfl, fun h => c10 (h.resolve_right (by decide)), fun h => c11 (h.resolve_right (by decide)), fun h => c12 (h.resolve_right (by decide))⟩ _ rfl
              apply RelH.op2
              · intro L f u K hN hS hK
                simp only [puts, Act.put, List.setIfInBounds_toArray, List.set_cons_zero, List.set_cons_succ, upd, Nat.reduceEqDiff, ↓reduceIte, if_true, if_false] at hK ⊢
                have HS9 := Lib.hid hS
                obtain ⟨qB, c0, c1, c2, c3, c4, c5, c6, c7, c8, c9, c10, c11, c12⟩ := hS
                have e8 := c8 (hN.out.2 8 (by decide +kernel))
                have e9 := c9 (hN.out.2 9 (by decide +kernel))
                clear c0 c1 c2 c3 c4 c5 c6 c7 c8 c9 c10 c11 c12
                go_simp
                obtain ⟨qB, c0, c1, c2, c3, c4, c5, c6, c7, c8, c9, c10, c11, c12⟩ := HS9.out
                exact hK.out _ _ ⟨qB, fun h t0 => c0 (h.resolve_right (by decide)) (fun z => t0 (.inl z)), fun h => c1 (h.resolve_right (by decide)), fun h => c2 (h.resolve_right (by decide)), fun h => c3 (h.resolve_right (by decide)), fun h t0 => c4 (h.resolve_right (by decide)) (fun z => t0 (.inl z)), fun h => c5 (h.resolve_right (by decide)), fun h t0 => c6 (h.resolve_right (by decide)) (fun z => t0 (.inl z)), fun h t0 => c7 (h.resolve_right (by decide)) (fun z => t0 (.inl z)), fun h => c8 (h.resolve_right (by decide)), fun h => c9 (h.resolve_right (by decide)), fun _ => rfl, fun h => c11 (h.resolve_right (by decide)), fun h => c12 (h.resolve_right (by decide))⟩ _ (by simp only [e8, e9])
              apply RelH.op2
              · intro L f u K hN hS hK
                simp only [puts, Act.put, List.setIfInBounds_toArray, List.set_cons_zero, List.set_cons_succ, upd, Nat.reduceEqDiff, ↓reduceIte, if_true, if_false] at hK ⊢
                have HS9 := Lib.hid hS
                obtain ⟨qB, c0, c1, c2, c3, c4, c5, c6, c7, c8, c9, c10, c11, c12⟩ := hS
                obtain ⟨A2, d2, h7, O7⟩ := c7 (hN.out.2 7 (by decide +kernel)) (hN.out.1 11 (by decide +kernel))
                obtain h10 := c10 (hN.out.2 10 (by decide +kernel))
                refine step_own rfl (.tmp 53) (.tmp 56) 24 rfl (w.heap.size + 1) 42 i0 _ 2 16 Try.underlying24 hi hz0 HI1.out HI.out rfl (by decide) (.slice A2 (k + 1) d2) (k + 1) (flat (l.take k) ++ [.int .i64 x.f0, .int .i64 x.f1]) h7 O7 ⟨b, o + k * 2, none⟩ (l.length - k) (cap - k) ((flat l).drop (k * 2)) h10 (by rw [List.length_drop, flat_n]; omega) (HSRC.out.drop qB.below k) (fun v9 h9 => flat_one l v9 (List.mem_of_mem_drop h9)) (by unfold maxLen; omega) (by omega) (by have := qB.there; omega) ?_
                intro v3 uw1 O3 hg3 _
                obtain ⟨A3, d3, rfl⟩ := own_form O3
                have hB2 := qB.grown hg3 (fun k9 hk => own_ge O7 k9 hk)
                exact hK.out (.slice A3 (k + 1 + (l.length - k)) d3) uw1 ⟨hB2, fun h t0 => (t0 (.inl (hN.out.2 4 (by decide +kernel)))).elim, fun h => c1 (h.resolve_right (by decide)), fun h => c2 (h.resolve_right (by decide)), fun h => c3 (h.resolve_right (by decide)), fun h t0 => (t0 (.inl (hN.out.2 7 (by decide +kernel)))).elim, fun h => c5 (h.resolve_right (by decide)), fun h t0 => (t0 (.inl (hN.out.2 7 (by decide +kernel)))).elim, fun h t0 => (t0 (by simp)).elim, fun h => c8 (h.resolve_right (by decide)), fun h => c9 (h.resolve_right (by decide)), fun h => c10 (h.resolve_right (by decide)), fun _ => ⟨A3, d3, rfl, O3⟩, fun h => absurd (h.resolve_right (by decide)) (hN.out.1 12 (by decide +kernel))⟩ _ rfl
              apply RelH.op2
              · intro L f u K hN hS hK
                simp only [puts, Act.put, List.setIfInBounds_toArray, List.set_cons_zero, List.set_cons_succ, upd, Nat.reduceEqDiff, ↓reduceIte, if_true, if_false] at hK ⊢
                have HS9 := Lib.hid hS
                obtain ⟨qB, c0, c1, c2, c3, c4, c5, c6, c7, c8, c9, c10, c11, c12⟩ := hS
                obtain ⟨A3, d3, e11, O3⟩ := c11 (hN.out.2 11 (by decide +kernel))
                clear c0 c1 c2 c3 c4 c5 c6 c7 c8 c9 c10 c11 c12
                go_simp
                obtain ⟨qB, c0, c1, c2, c3, c4, c5, c6, c7, c8, c9, c10, c11, c12⟩ := HS9.out
                exact hK.out _ _ ⟨qB, fun h t0 => c0 (h.resolve_right (by decide)) (fun z => t0 (.inl z)), fun h => c1 (h.resolve_right (by decide)), fun h => c2 (h.resolve_right (by decide)), fun h => c3 (h.resolve_right (by decide)), fun h t0 => c4 (h.resolve_right (by decide)) (fun z => t0 (.inl z)), fun h => c5 (h.resolve_right (by decide)), fun h t0 => c6 (h.resolve_right (by decide)) (fun z => t0 (.inl z)), fun h t0 => c7 (h.resolve_right (by decide)) (fun z => t0 (.inl z)), fun h => c8 (h.resolve_right (by decide)), fun h => c9 (h.resolve_right (by decide)), fun h => c10 (h.resolve_right (by decide)), fun h => c11 (h.resolve_right (by decide)), fun _ => ⟨A3, d3, rfl, O3⟩⟩ _ (by simp only [e11])
              exact RelH.done
            intro L f V0 hL hS
            simp only [puts, Act.put, List.setIfInBounds_toArray, List.set_cons_zero, List.set_cons_succ]
            obtain ⟨qB, c0, c1, c2, c3, c4, c5, c6, c7, c8, c9, c10, c11, c12⟩ := hS
            clear B
            have B := qB
            obtain ⟨A3, d3, e12, O3⟩ := c12 (hL 12 (by decide))
            rw [← HLM.out] at e12 O3
            rw [← HFM.out] at O3
            simp only [e12]
            clear e12 c0 c1 c2 c3 c4 c5 c6 c7 c8 c9 c10 c11 c12 hL qB
            have HB3 := B.below
            clear B
            go_wp2_with fail
            refine (SunG.good_spec A3 d3 m V0 (Rd.of_own O3) (by rw [HLM.out]; omega)).mono ?_
            rintro e w3 ⟨rfl, hv3⟩
            replace HB3 := be HB3 hv3
            replace O3 := own_keep O3 hv3
            cases h1 : good m
            · go_wp2
              go_ret2
              exact put_bad (pt2 HM.out h1) HB3
            · go_wp2
              go_ret2
              exact put_good hg HM.out h1 HB3 (Nat.le_succ _) O3
        · obtain ⟨hlt, hc⟩ := HQ1.out rfl
          have HP0 := Lib.hid (put_same (x := x) hlt HL.out hc).2
          obtain ⟨n, hnk⟩ : ∃ n, n = k + 1 := ⟨_, rfl⟩
          have hni := Lib.hid (show (k : Int) + 1 = (n : Int) by omega)
          have HP := Lib.hid (show putAt l x = l.take k ++ x :: l.drop n by rw [hnk]; exact HP0.out)
          clear HP0 hc
          have hmm : m = l.take k ++ x :: l.drop n := HM.out.symm.trans HP.out
          have HLM := Lib.hid (show m.length = k + 1 + (l.length - n) by rw [hmm, List.length_append, List.length_cons, List.length_take, List.length_drop]; omega)
          have HFM := Lib.hid (show flat m = flat (l.take k) ++ [.int .i64 x.f0, .int .i64 x.f1] ++ (flat l).drop (n * 2) by
            have h2 : flat (x :: l.drop n) = [.int .i64 x.f0, .int .i64 x.f1] ++ flat (l.drop n) := rfl
            rw [hmm, flat_app, h2, flat_drop, List.append_assoc])
          clear hmm HP HL HGE HQ1 HQ2
          have e3 : IntKind.i64.wrap ((k : Int) + 1) = k + 1 := IntWalk.i64_in _ (by omega)
          go_wp2_with fail
          rw [hni.out]
          have hn9 : n ≤ l.length := by omega
          have hkc : k ≤ cap := by omega
          clear hnk e3 hni
          by_cases hcn : cap = n
          · have hcn2 : n = cap := hcn.symm
            clear hcn
            subst hcn2
            have HCAP := Lib.hid hcap; clear hcap
            refine wp_region_rel [46, 47, 48, 49, 50, 51, 52, 53, 54, 55, 56, 57, 8] (fun L f w' => (Box (w.heap.size) [.int .i64 x.f0, .int .i64 x.f1] w w') ∧ (L 0 → ¬ L 4 → ∃ g, f 46 = .slice (some ⟨g, 0, none⟩) 0 0 ∧ w'.ownsRow (w.heap.size + 1) 42 2 (.slice (some ⟨g, 0, none⟩) 0 0) (0) ([])) ∧ (L 1 → f 47 = .slice (some ⟨b, o, none⟩) l.length n) ∧ (L 2 → f 48 = .int .i64 k) ∧ (L 3 → f 49 = .slice (some ⟨b, o, none⟩) k n) ∧ (L 4 → ¬ L 7 → ∃ A1 c1, f 50 = .slice A1 k c1 ∧ w'.ownsRow (w.heap.size + 1) 42 2 (.slice A1 k c1) (k) (flat (l.take k))) ∧ (L 5 → f 51 = .agg #[.int .i64 x.f0, .int .i64 x.f1]) ∧ (L 6 → ¬ L 7 → ∃ h, f 52 = .slice (some ⟨h, 0, none⟩) 1 1 ∧ Box h [.int .i64 x.f0, .int .i64 x.f1] w w') ∧ (L 7 → ¬ L 11 → ∃ A2 c2, f 53 = .slice A2 (k + 1) c2 ∧ w'.ownsRow (w.heap.size + 1) 42 2 (.slice A2 (k + 1) c2) (k + 1) (flat (l.take k) ++ [.int .i64 x.f0, .int .i64 x.f1])) ∧ (L 8 → f 54 = .slice (some ⟨b, o, none⟩) l.length n) ∧ (L 9 → f 55 = .int .i64 n) ∧ (L 10 → f 56 = .slice (some ⟨b, o, none⟩) (l.length - n) 0) ∧ (L 11 → ∃ A3 c3, f 57 = .slice A3 (k + 1 + (l.length - n)) c3 ∧ w'.ownsRow (w.heap.size + 1) 42 2 (.slice A3 (k + 1 + (l.length - n)) c3) (k + 1 + (l.length - n)) (flat (l.take k) ++ [.int .i64 x.f0, .int .i64 x.f1] ++ (flat l).drop (n * 2))) ∧ (L 12 → ∃ A3 c3, f 8 = .slice A3 (k + 1 + (l.length - n)) c3 ∧ w'.ownsRow (w.heap.size + 1) 42 2 (.slice A3 (k + 1 + (l.length - n)) c3) (k + 1 + (l.length - n)) (flat (l.take k) ++ [.int .i64 x.f0, .int .i64 x.f1] ++ (flat l).drop (n * 2)))) (by kernel_rfl) (by kernel_rfl) (by kernel_rfl) (fun f => ⟨B.drew, fun h => h.elim, fun h => h.elim, fun h => h.elim, fun h => h.elim, fun h => h.elim, fun h => h.elim, fun h => h.elim, fun h => h.elim, fun h => h.elim, fun h => h.elim, fun h => h.elim, fun h => h.elim, fun h => h.elim⟩) ?_ ?_
            · apply RelH.op2
              · intro L f u K hN hS hK
                simp only [puts, Act.put, List.setIfInBounds_toArray, List.set_cons_zero, List.set_cons_succ, upd, Nat.reduceEqDiff, ↓reduceIte, if_true, if_false] at hK ⊢
                have HS9 := Lib.hid hS
                obtain ⟨qB, c0, c1, c2, c3, c4, c5, c6, c7, c8, c9, c10, c11, c12⟩ := hS
                have hv := al (Below.refl _ u) (o := .cells #[] 42)
                have hO := own0 u (w.heap.size + 1) (by have := qB.there; omega)
                clear c0 c1 c2 c3 c4 c5 c6 c7 c8 c9 c10 c11 c12
                go_simp
                obtain ⟨qB, c0, c1, c2, c3, c4, c5, c6, c7, c8, c9, c10, c11, c12⟩ := HS9.out
                exact hK.out _ _ ⟨qB.more hv, fun _ _ => ⟨_, rfl, hO⟩, fun h => c1 (h.resolve_right (by decide)), fun h => c2 (h.resolve_right (by decide)), fun h => c3 (h.resolve_right (by decide)), fun h t0 => (let ⟨A9, c9, e, O9⟩ := (c4 (h.resolve_right (by decide)) (fun z => t0 (.inl z))); ⟨A9, c9, e, own_keep O9 hv⟩), fun h => c5 (h.resolve_right (by decide)), fun h t0 => (let ⟨h, e, X⟩ := (c6 (h.resolve_right (by decide)) (fun z => t0 (.inl z))); ⟨h, e, X.more hv⟩), fun h t0 => (let ⟨A9, c9, e, O9⟩ := (c7 (h.resolve_right (by decide)) (fun z => t0 (.inl z))); ⟨A9, c9, e, own_keep O9 hv⟩), fun h => c8 (h.resolve_right (by decide)), fun h => c9 (h.resolve_right (by decide)), fun h => c10 (h.resolve_right (by decide)), fun h => (let ⟨A9, c9, e, O9⟩ := (c11 (h.resolve_right (by decide))); ⟨A9, c9, e, own_keep O9 hv⟩), fun h => (let ⟨A9, c9, e, O9⟩ := (c12 (h.resolve_right (by decide))); ⟨A9, c9, e, own_keep O9 hv⟩)⟩ _ rfl
              apply RelH.op2
              · intro L f u K hN hS hK
                simp only [puts, Act.put, List.setIfInBounds_toArray, List.set_cons_zero, List.set_cons_succ, upd, Nat.reduceEqDiff, ↓reduceIte, if_true, if_false] at hK ⊢
                have HS9 := Lib.hid hS
                obtain ⟨qB, c0, c1, c2, c3, c4, c5, c6, c7, c8, c9, c10, c11, c12⟩ := hS
                clear c0 c1 c2 c3 c4 c5 c6 c7 c8 c9 c10 c11 c12
                go_simp
                obtain ⟨qB, c0, c1, c2, c3, c4, c5, c6, c7, c8, c9, c10, c11, c12⟩ := HS9.out
                exact hK.out _ _ ⟨qB, fun h t0 => c0 (h.resolve_right (by decide)) (fun z => t0 (.inl z)), fun _ => rfl, fun h => c2 (h.resolve_right (by decide)), fun h => c3 (h.resolve_right (by decide)), fun h t0 => c4 (h.resolve_right (by decide)) (fun z => t0 (.inl z)), fun h => c5 (h.resolve_right (by decide)), fun h t0 => c6 (h.resolve_right (by decide)) (fun z => t0 (.inl z)), fun h t0 => c7 (h.resolve_right (by decide)) (fun z => t0 (.inl z)), fun h => c8 (h.resolve_right (by decide)), fun h => c9 (h.resolve_right (by decide)), fun h => c10 (h.resolve_right (by decide)), fun h => c11 (h.resolve_right (by decide)), fun h => c12 (h.resolve_right (by decide))⟩ _ rfl
              apply RelH.op2
              · intro L f u K hN hS hK
                simp only [puts, Act.put, List.setIfInBounds_toArray, List.set_cons_zero, List.set_cons_succ, upd, Nat.reduceEqDiff, ↓reduceIte, if_true, if_false] at hK ⊢
                have HS9 := Lib.hid hS
                obtain ⟨qB, c0, c1, c2, c3, c4, c5, c6, c7, c8, c9, c10, c11, c12⟩ := hS
                clear c0 c1 c2 c3 c4 c5 c6 c7 c8 c9 c10 c11 c12
                go_simp
                obtain ⟨qB, c0, c1, c2, c3, c4, c5, c6, c7, c8, c9, c10, c11, c12⟩ := HS9.out
                exact hK.out _ _ ⟨qB, fun h t0 => c0 (h.resolve_right (by decide)) (fun z => t0 (.inl z)), fun h => c1 (h.resolve_right (by decide)), fun _ => rfl, fun h => c3 (h.resolve_right (by decide)), fun h t0 => c4 (h.resolve_right (by decide)) (fun z => t0 (.inl z)), fun h => c5 (h.resolve_right (by decide)), fun h t0 => c6 (h.resolve_right (by decide)) (fun z => t0 (.inl z)), fun h t0 => c7 (h.resolve_right (by decide)) (fun z => t0 (.inl z)), fun h => c8 (h.resolve_right (by decide)), fun h => c9 (h.resolve_right (by decide)), fun h => c10 (h.resolve_right (by decide)), fun h => c11 (h.resolve_right (by decide)), fun h => c12 (h.resolve_right (by decide))⟩ _ rfl
              apply RelH.op2
              · intro L f u K hN hS hK
                simp only [puts, Act.put, List.setIfInBounds_toArray, List.set_cons_zero, List.set_cons_succ, upd, Nat.reduceEqDiff, ↓reduceIte, if_true, if_false] at hK ⊢
                have HS9 := Lib.hid hS
                obtain ⟨qB, c0, c1, c2, c3, c4, c5, c6, c7, c8, c9, c10, c11, c12⟩ := hS
                have e1 := c1 (hN.out.2 1 (by decide +kernel))
                have e2 := c2 (hN.out.2 2 (by decide +kernel))
                clear c0 c1 c2 c3 c4 c5 c6 c7 c8 c9 c10 c11 c12
                go_simp
                obtain ⟨qB, c0, c1, c2, c3, c4, c5, c6, c7, c8, c9, c10, c11, c12⟩ := HS9.out
                exact hK.out _ _ ⟨qB, fun h t0 => c0 (h.resolve_right (by decide)) (fun z => t0 (.inl z)), fun h => c1 (h.resolve_right (by decide)), fun h => c2 (h.resolve_right (by decide)), fun _ => rfl, fun h t0 => c4 (h.resolve_right (by decide)) (fun z => t0 (.inl z)), fun h => c5 (h.resolve_right (by decide)), fun h t0 => c6 (h.resolve_right (by decide)) (fun z => t0 (.inl z)), fun h t0 => c7 (h.resolve_right (by decide)) (fun z => t0 (.inl z)), fun h => c8 (h.resolve_right (by decide)), fun h => c9 (h.resolve_right (by decide)), fun h => c10 (h.resolve_right (by decide)), fun h => c11 (h.resolve_right (by decide)), fun h => c12 (h.resolve_right (by decide))⟩ _ (by simp only [e1, e2])
              apply RelH.op2
              · intro L f u K hN hS hK
                simp only [puts, Act.put, List.setIfInBounds_toArray, List.set_cons_zero, List.set_cons_succ, upd, Nat.reduceEqDiff, ↓reduceIte, if_true, if_false] at hK ⊢
                have HS9 := Lib.hid hS
                obtain ⟨qB, c0, c1, c2, c3, c4, c5, c6, c7, c8, c9, c10, c11, c12⟩ := hS
                obtain ⟨g, h0, O0⟩ := c0 (hN.out.2 0 (by decide +kernel)) (hN.out.1 4 (by decide +kernel))
                obtain h3 := c3 (hN.out.2 3 (by decide +kernel))
                refine step_fresh rfl (.tmp 46) (.tmp 49) 24 rfl (w.heap.size + 1) 42 i0 _ 2 16 Try.underlying24 hi hz0 HI1.out HI.out rfl (by decide) g h0 O0 ⟨b, o, none⟩ k n (flat (l.take k)) h3 (by rw [flat_n, List.length_take]; omega) (HSRC.out.take qB.below k) (flat_one _) (by unfold maxLen; omega) (by omega) (by have := qB.there; omega) ?_
                intro v1 uw1 O1 hv
                obtain ⟨A1, d1, rfl⟩ := own_form O1
                exact hK.out (.slice A1 k d1) uw1 ⟨qB.more hv, fun h t0 => (t0 (by simp)).elim, fun h => c1 (h.resolve_right (by decide)), fun h => c2 (h.resolve_right (by decide)), fun h => c3 (h.resolve_right (by decide)), fun _ _ => ⟨A1, d1, rfl, O1⟩, fun h => c5 (h.resolve_right (by decide)), fun h t0 => (let ⟨h, e, X⟩ := (c6 (h.resolve_right (by decide)) (fun z => t0 (.inl z))); ⟨h, e, X.more hv⟩), fun h t0 => (let ⟨A9, c9, e, O9⟩ := (c7 (h.resolve_right (by decide)) (fun z => t0 (.inl z))); ⟨A9, c9, e, own_keep O9 hv⟩), fun h => c8 (h.resolve_right (by decide)), fun h => c9 (h.resolve_right (by decide)), fun h => c10 (h.resolve_right (by decide)), fun h => (let ⟨A9, c9, e, O9⟩ := (c11 (h.resolve_right (by decide))); ⟨A9, c9, e, own_keep O9 hv⟩), fun h => (let ⟨A9, c9, e, O9⟩ := (c12 (h.resolve_right (by decide))); ⟨A9, c9, e, own_keep O9 hv⟩)⟩ _ rfl
              apply RelH.op2
              · intro L f u K hN hS hK
                simp only [puts, Act.put, List.setIfInBounds_toArray, List.set_cons_zero, List.set_cons_succ, upd, Nat.reduceEqDiff, ↓reduceIte, if_true, if_false] at hK ⊢
                have HS9 := Lib.hid hS
                obtain ⟨qB, c0, c1, c2, c3, c4, c5, c6, c7, c8, c9, c10, c11, c12⟩ := hS
                have qB_0 := qB.cells 0 _ rfl
                have qB_1 := qB.cells 1 _ rfl
                clear c0 c1 c2 c3 c4 c5 c6 c7 c8 c9 c10 c11 c12
                go_simp
                obtain ⟨qB, c0, c1, c2, c3, c4, c5, c6, c7, c8, c9, c10, c11, c12⟩ := HS9.out
                exact hK.out _ _ ⟨qB, fun h t0 => c0 (h.resolve_right (by decide)) (fun z => t0 (.inl z)), fun h => c1 (h.resolve_right (by decide)), fun h => c2 (h.resolve_right (by decide)), fun h => c3 (h.resolve_right (by decide)), fun h t0 => c4 (h.resolve_right (by decide)) (fun z => t0 (.inl z)), fun _ => rfl, fun h t0 => c6 (h.resolve_right (by decide)) (fun z => t0 (.inl z)), fun h t0 => c7 (h.resolve_right (by decide)) (fun z => t0 (.inl z)), fun h => c8 (h.resolve_right (by decide)), fun h => c9 (h.resolve_right (by decide)), fun h => c10 (h.resolve_right (by decide)), fun h => c11 (h.resolve_right (by decide)), fun h => c12 (h.resolve_right (by decide))⟩ _ rfl
              apply RelH.op2
              · intro L f u K hN hS hK
                simp only [puts, Act.put, List.setIfInBounds_toArray, List.set_cons_zero, List.set_cons_succ, upd, Nat.reduceEqDiff, ↓reduceIte, if_true, if_false] at hK ⊢
                have HS9 := Lib.hid hS
                obtain ⟨qB, c0, c1, c2, c3, c4, c5, c6, c7, c8, c9, c10, c11, c12⟩ := hS
                have e5 := c5 (hN.out.2 5 (by decide +kernel))
                have hv := al (Below.refl _ u) (o := .cells #[.int .i64 x.f0, .int .i64 x.f1] 42)
                have hX := Box.new qB.below [.int .i64 x.f0, .int .i64 x.f1] 42 (g := u.heap.size) rfl
                clear c0 c1 c2 c3 c4 c5 c6 c7 c8 c9 c10 c11 c12
                go_simp
                obtain ⟨qB, c0, c1, c2, c3, c4, c5, c6, c7, c8, c9, c10, c11, c12⟩ := HS9.out
                exact hK.out _ _ ⟨qB.more hv, fun h t0 => (let ⟨g, e, O9⟩ := (c0 (h.resolve_right (by decide)) (fun z => t0 (.inl z))); ⟨g, e, own_keep O9 hv⟩), fun h => c1 (h.resolve_right (by decide)), fun h => c2 (h.resolve_right (by decide)), fun h => c3 (h.resolve_right (by decide)), fun h t0 => (let ⟨A9, c9, e, O9⟩ := (c4 (h.resolve_right (by decide)) (fun z => t0 (.inl z))); ⟨A9, c9, e, own_keep O9 hv⟩), fun h => c5 (h.resolve_right (by decide)), fun _ _ => ⟨_, rfl, hX⟩, fun h t0 => (let ⟨A9, c9, e, O9⟩ := (c7 (h.resolve_right (by decide)) (fun z => t0 (.inl z))); ⟨A9, c9, e, own_keep O9 hv⟩), fun h => c8 (h.resolve_right (by decide)), fun h => c9 (h.resolve_right (by decide)), fun h => c10 (h.resolve_right (by decide)), fun h => (let ⟨A9, c9, e, O9⟩ := (c11 (h.resolve_right (by decide))); ⟨A9, c9, e, own_keep O9 hv⟩), fun h => (let ⟨A9, c9, e, O9⟩ := (c12 (h.resolve_right (by decide))); ⟨A9, c9, e, own_keep O9 hv⟩)⟩ _ (by simp only [e5])
              apply RelH.op2
              · intro L f u K hN hS hK
                simp only [puts, Act.put, List.setIfInBounds_toArray, List.set_cons_zero, List.set_cons_succ, upd, Nat.reduceEqDiff, ↓reduceIte, if_true, if_false] at hK ⊢
                have HS9 := Lib.hid hS
                obtain ⟨qB, c0, c1, c2, c3, c4, c5, c6, c7, c8, c9, c10, c11, c12⟩ := hS
                obtain ⟨A1, d1, h4, O4⟩ := c4 (hN.out.2 4 (by decide +kernel)) (hN.out.1 7 (by decide +kernel))
                obtain ⟨g6, h6, X⟩ := c6 (hN.out.2 6 (by decide +kernel)) (hN.out.1 7 (by decide +kernel))
                refine step_own rfl (.tmp 50) (.tmp 52) 24 rfl (w.heap.size + 1) 42 i0 _ 2 16 Try.underlying24 hi hz0 HI1.out HI.out rfl (by decide) (.slice A1 k d1) k (flat (l.take k)) h4 O4 ⟨g6, 0, none⟩ 1 1 [.int .i64 x.f0, .int .i64 x.f1] h6 rfl (box_news X) (xone x) (by unfold maxLen; omega) (by omega) (by have := qB.there; omega) ?_
                intro v2 uw1 O2 hg2 _
                obtain ⟨A2, d2, rfl⟩ := own_form O2
                have hB2 := qB.grown hg2 (fun k9 hk => own_ge O4 k9 hk)
                exact hK.out (.slice A2 (k + 1) d2) uw1 ⟨hB2, fun h t0 => (t0 (.inl (hN.out.2 4 (by decide +kernel)))).elim, fun h => c1 (h.resolve_right (by decide)), fun h => c2 (h.resolve_right (by decide)), fun h => c3 (h.resolve_right (by decide)), fun h t0 => (t0 (by simp)).elim, fun h => c5 (h.resolve_right (by decide)), fun h t0 => (t0 (by simp)).elim, fun _ _ => ⟨A2, d2, rfl, O2⟩, fun h => c8 (h.resolve_right (by decide)), fun h => c9 (h.resolve_right (by decide)), fun h => c10 (h.resolve_right (by decide)), fun h => absurd (h.resolve_right (by decide)) (hN.out.1 11 (by decide +kernel)), fun h => absurd (h.resolve_right (by decide)) (hN.out.1 12 (by decide +kernel))⟩ _ rfl
              apply RelH.op2
              · intro L f u K hN hS hK
                simp only [puts, Act.put, List.setIfInBounds_toArray, List.set_cons_zero, List.set_cons_succ, upd, Nat.reduceEqDiff, ↓reduceIte, if_true, if_false] at hK ⊢
                have HS9 := Lib.hid hS
                obtain ⟨qB, c0, c1, c2, c3, c4, c5, c6, c7, c8, c9, c10, c11, c12⟩ := hS
                clear c0 c1 c2 c3 c4 c5 c6 c7 c8 c9 c10 c11 c12
                go_simp
                obtain ⟨qB, c0, c1, c2, c3, c4, c5, c6, c7, c8, c9, c10, c11, c12⟩ := HS9.out
                exact hK.out _ _ ⟨qB, fun h t0 => c0 (h.resolve_right (by decide)) (fun z => t0 (.inl z)), fun h => c1 (h.resolve_right (by decide)), fun h => c2 (h.resolve_right (by decide)), fun h => c3 (h.resolve_right (by decide)), fun h t0 => c4 (h.resolve_right (by decide)) (fun z => t0 (.inl z)), fun h => c5 (h.resolve_right (by decide)), fun h t0 => c6 (h.resolve_right (by decide)) (fun z => t0 (.inl z)), fun h t0 => c7 (h.resolve_right (by decide)) (fun z => t0 (.inl z)), fun _ => rfl, fun h => c9 (h.resolve_right (by decide)), fun h => c10 (h.resolve_right (by decide)), fun h => c11 (h.resolve_right (by decide)), fun h => c12 (h.resolve_right (by decide))⟩ _ rfl
              apply RelH.op2
              · intro L f u K hN hS hK
                simp only [puts, Act.put, List.setIfInBounds_toArray, List.set_cons_zero, List.set_cons_succ, upd, Nat.reduceEqDiff, ↓reduceIte, if_true, if_false] at hK ⊢
                have HS9 := Lib.hid hS
                obtain ⟨qB, c0, c1, c2, c3, c4, c5, c6, c7, c8, c9, c10, c11, c12⟩ := hS
                clear c0 c1 c2 c3 c4 c5 c6 c7 c8 c9 c10 c11 c12
                go_simp
                obtain ⟨qB, c0, c1, c2, c3, c4, c5, c6, c7, c8, c9, c10, c11, c12⟩ := HS9.out
                exact hK.out _ _ ⟨qB, fun h t0 => c0 (h.resolve_right (by decide)) (fun z => t0 (.inl z)), fun h => c1 (h.resolve_right (by decide)), fun h => c2 (h.resolve_right (by decide)), fun h => c3 (h.resolve_right (by decide)), fun h t0 => c4 (h.resolve_right (by decide)) (fun z => t0 (.inl z)), fun h => c5 (h.resolve_right (by decide)), fun h t0 => c6 (h.resolve_right (by decide)) (fun z => t0 (.inl z)), fun h t0 => c7 (h.resolve_right (by decide)) (fun z => t0 (.inl z)), fun h => c8 (h.resolve_right (by decide)), fun _ => rfl, fun h => c10 (h.resolve_right (by decide)), fun h => c11 (h.resolve_right (by decide)), fun h => c12 (h.resolve_right (by decide))⟩ _ rfl
              apply RelH.op2
              · intro L f u K hN hS hK
                simp only [puts, Act.put, List.setIfInBounds_toArray, List.set_cons_zero, List.set_cons_succ, upd, Nat.reduceEqDiff, ↓reduceIte, if_true, if_false] at hK ⊢
                have HS9 := Lib.hid hS
                obtain ⟨qB, c0, c1, c2, c3, c4, c5, c6, c7, c8, c9, c10, c11, c12⟩ := hS
                have e8 := c8 (hN.out.2 8 (by decide +kernel))
                have e9 := c9 (hN.out.2 9 (by decide +kernel))
                clear c0 c1 c2 c3 c4 c5 c6 c7 c8 c9 c10 c11 c12
                go_simp
                obtain ⟨qB, c0, c1, c2, c3, c4, c5, c6, c7, c8, c9, c10, c11, c12⟩ := HS9.out
                exact hK.out _ _ ⟨qB, fun h t0 => c0 (h.resolve_right (by decide)) (fun z => t0 (.inl z)), fun h => c1 (h.resolve_right (by decide)), fun h => c2 (h.resolve_right (by decide)), fun h => c3 (h.resolve_right (by decide)), fun h t0 => c4 (h.resolve_right (by decide)) (fun z => t0 (.inl z)), fun h => c5 (h.resolve_right (by decide)), fun h t0 => c6 (h.resolve_right (by decide)) (fun z => t0 (.inl z)), fun h t0 => c7 (h.resolve_right (by decide)) (fun z => t0 (.inl z)), fun h => c8 (h.resolve_right (by decide)), fun h => c9 (h.resolve_right (by decide)), fun _ => rfl, fun h => c11 (h.resolve_right (by decide)), fun h => c12 (h.resolve_right (by decide))⟩ _ (by simp only [e8, e9])
              apply RelH.op2
              · intro L f u K hN hS hK
                simp only [puts, Act.put, List.setIfInBounds_toArray, List.set_cons_zero, List.set_cons_succ, upd, Nat.reduceEqDiff, ↓reduceIte, if_true, if_false] at hK ⊢
                have HS9 := Lib.hid hS
                obtain ⟨qB, c0, c1, c2, c3, c4, c5, c6, c7, c8, c9, c10, c11, c12⟩ := hS
                obtain ⟨A2, d2, h7, O7⟩ := c7 (hN.out.2 7 (by decide +kernel)) (hN.out.1 11 (by decide +kernel))
                obtain h10 := c10 (hN.out.2 10 (by decide +kernel))
                refine step_own rfl (.tmp 53) (.tmp 56) 24 rfl (w.heap.size + 1) 42 i0 _ 2 16 Try.underlying24 hi hz0 HI1.out HI.out rfl (by decide) (.slice A2 (k + 1) d2) (k + 1) (flat (l.take k) ++ [.int .i64 x.f0, .int .i64 x.f1]) h7 O7 ⟨b, o, none⟩ (l.length - n) 0 ((flat l).drop (n * 2)) h10 (by rw [List.length_drop, flat_n]; omega) (drop_none (by have := HCAP.out; omega)) (fun v9 h9 => flat_one l v9 (List.mem_of_mem_drop h9)) (by unfold maxLen; omega) (by omega) (by have := qB.there; omega) ?_
                intro v3 uw1 O3 hg3 _
                obtain ⟨A3, d3, rfl⟩ := own_form O3
                have hB2 := qB.grown hg3 (fun k9 hk => own_ge O7 k9 hk)
                exact hK.out (.slice A3 (k + 1 + (l.length - n)) d3) uw1 ⟨hB2, fun h t0 => (t0 (.inl (hN.out.2 4 (by decide +kernel)))).elim, fun h => c1 (h.resolve_right (by decide)), fun h => c2 (h.resolve_right (by decide)), fun h => c3 (h.resolve_right (by decide)), fun h t0 => (t0 (.inl (hN.out.2 7 (by decide +kernel)))).elim, fun h => c5 (h.resolve_right (by decide)), fun h t0 => (t0 (.inl (hN.out.2 7 (by decide +kernel)))).elim, fun h t0 => (t0 (by simp)).elim, fun h => c8 (h.resolve_right (by decide)), fun h => c9 (h.resolve_right (by decide)), fun h => c10 (h.resolve_right (by decide)), fun _ => ⟨A3, d3, rfl, O3⟩, fun h => absurd (h.resolve_right (by decide)) (hN.out.1 12 (by decide +kernel))⟩ _ rfl
              apply RelH.op2
              · intro L f u K hN hS hK
                simp only [puts, Act.put, List.setIfInBounds_toArray, List.set_cons_zero, List.set_cons_succ, upd, Nat.reduceEqDiff, ↓reduceIte, if_true, if_false] at hK ⊢
                have HS9 := Lib.hid hS
                obtain ⟨qB, c0, c1, c2, c3, c4, c5, c6, c7, c8, c9, c10, c11, c12⟩ := hS
                obtain ⟨A3, d3, e11, O3⟩ := c11 (hN.out.2 11 (by decide +kernel))
                clear c0 c1 c2 c3 c4 c5 c6 c7 c8 c9 c10 c11 c12
                go_simp
                obtain ⟨qB, c0, c1, c2, c3, c4, c5, c6, c7, c8, c9, c10, c11, c12⟩ := HS9.out
                exact hK.out _ _ ⟨qB, fun h t0 => c0 (h.resolve_right (by decide)) (fun z => t0 (.inl z)), fun h => c1 (h.resolve_right (by decide)), fun h => c2 (h.resolve_right (by decide)), fun h => c3 (h.resolve_right (by decide)), fun h t0 => c4 (h.resolve_right (by decide)) (fun z => t0 (.inl z)), fun h => c5 (h.resolve_right (by decide)), fun h t0 => c6 (h.resolve_right (by decide)) (fun z => t0 (.inl z)), fun h t0 => c7 (h.resolve_right (by decide)) (fun z => t0 (.inl z)), fun h => c8 (h.resolve_right (by decide)), fun h => c9 (h.resolve_right (by decide)), fun h => c10 (h.resolve_right (by decide)), fun h => c11 (h.resolve_right (by decide)), fun _ => ⟨A3, d3, rfl, O3⟩⟩ _ (by simp only [e11])
              exact RelH.done
            intro L f V0 hL hS
            simp only [puts, Act.put, List.setIfInBounds_toArray, List.set_cons_zero, List.set_cons_succ]
            obtain ⟨qB, c0, c1, c2, c3, c4, c5, c6, c7, c8, c9, c10, c11, c12⟩ := hS
            clear B
            have B := qB
            obtain ⟨A3, d3, e12, O3⟩ := c12 (hL 12 (by decide))
            rw [← HLM.out] at e12 O3
            rw [← HFM.out] at O3
            simp only [e12]
            clear e12 c0 c1 c2 c3 c4 c5 c6 c7 c8 c9 c10 c11 c12 hL qB
            have HB3 := B.below
            clear B
            go_wp2_with fail
            refine (SunG.good_spec A3 d3 m V0 (Rd.of_own O3) (by rw [HLM.out]; omega)).mono ?_
            rintro e w3 ⟨rfl, hv3⟩
            replace HB3 := be HB3 hv3
            replace O3 := own_keep O3 hv3
            cases h1 : good m
            · go_wp2
              go_ret2
              exact put_bad (pt2 HM.out h1) HB3
            · go_wp2
              go_ret2
              exact put_good hg HM.out h1 HB3 (Nat.le_succ _) O3
          · refine wp_region_rel [46, 47, 48, 49, 50, 51, 52, 53, 54, 55, 56, 57, 8] (fun L f w' => (Box (w.heap.size) [.int .i64 x.f0, .int .i64 x.f1] w w') ∧ (L 0 → ¬ L 4 → ∃ g, f 46 = .slice (some ⟨g, 0, none⟩) 0 0 ∧ w'.ownsRow (w.heap.size + 1) 42 2 (.slice (some ⟨g, 0, none⟩) 0 0) (0) ([])) ∧ (L 1 → f 47 = .slice (some ⟨b, o, none⟩) l.length cap) ∧ (L 2 → f 48 = .int .i64 k) ∧ (L 3 → f 49 = .slice (some ⟨b, o, none⟩) k cap) ∧ (L 4 → ¬ L 7 → ∃ A1 c1, f 50 = .slice A1 k c1 ∧ w'.ownsRow (w.heap.size + 1) 42 2 (.slice A1 k c1) (k) (flat (l.take k))) ∧ (L 5 → f 51 = .agg #[.int .i64 x.f0, .int .i64 x.f1]) ∧ (L 6 → ¬ L 7 → ∃ h, f 52 = .slice (some ⟨h, 0, none⟩) 1 1 ∧ Box h [.int .i64 x.f0, .int .i64 x.f1] w w') ∧ (L 7 → ¬ L 11 → ∃ A2 c2, f 53 = .slice A2 (k + 1) c2 ∧ w'.ownsRow (w.heap.size + 1) 42 2 (.slice A2 (k + 1) c2) (k + 1) (flat (l.take k) ++ [.int .i64 x.f0, .int .i64 x.f1])) ∧ (L 8 → f 54 = .slice (some ⟨b, o, none⟩) l.length cap) ∧ (L 9 → f 55 = .int .i64 n) ∧ (L 10 → f 56 = .slice (some ⟨b, o + n * 2, none⟩) (l.length - n) (cap - n)) ∧ (L 11 → ∃ A3 c3, f 57 = .slice A3 (k + 1 + (l.length - n)) c3 ∧ w'.ownsRow (w.heap.size + 1) 42 2 (.slice A3 (k + 1 + (l.length - n)) c3) (k + 1 + (l.length - n)) (flat (l.take k) ++ [.int .i64 x.f0, .int .i64 x.f1] ++ (flat l).drop (n * 2))) ∧ (L 12 → ∃ A3 c3, f 8 = .slice A3 (k + 1 + (l.length - n)) c3 ∧ w'.ownsRow (w.heap.size + 1) 42 2 (.slice A3 (k + 1 + (l.length - n)) c3) (k + 1 + (l.length - n)) (flat (l.take k) ++ [.int .i64 x.f0, .int .i64 x.f1] ++ (flat l).drop (n * 2)))) (by kernel_rfl) (by kernel_rfl) (by kernel_rfl) (fun f => ⟨B.drew, fun h => h.elim, fun h => h.elim, fun h => h.elim, fun h => h.elim, fun h => h.elim, fun h => h.elim, fun h => h.elim, fun h => h.elim, fun h => h.elim, fun h => h.elim, fun h => h.elim, fun h => h.elim, fun h => h.elim⟩) ?_ ?_
            · apply RelH.op2
              · intro L f u K hN hS hK
                simp only [puts, Act.put, List.setIfInBounds_toArray, List.set_cons_zero, List.set_cons_succ, upd, Nat.reduceEqDiff, ↓reduceIte, if_true, if_false] at hK ⊢
                have HS9 := Lib.hid hS
                obtain ⟨qB, c0, c1, c2, c3, c4, c5, c6, c7, c8, c9, c10, c11, c12⟩ := hS
                have hv := al (Below.refl _ u) (o := .cells #[] 42)
                have hO := own0 u (w.heap.size + 1) (by have := qB.there; omega)
                clear c0 c1 c2 c3 c4 c5 c6 c7 c8 c9 c10 c11 c12
                go_simp
                obtain ⟨qB, c0, c1, c2, c3, c4, c5, c6, c7, c8, c9, c10, c11, c12⟩ := HS9.out
                exact hK.out _ _ ⟨qB.more hv, fun _ _ => ⟨_, rfl, hO⟩, fun h => c1 (h.resolve_right (by decide)), fun h => c2 (h.resolve_right (by decide)), fun h => c3 (h.resolve_right (by decide)), fun h t0 => (let ⟨A9, c9, e, O9⟩ := (c4 (h.resolve_right (by decide)) (fun z => t0 (.inl z))); ⟨A9, c9, e, own_keep O9 hv⟩), fun h => c5 (h.resolve_right (by decide)), fun h t0 => (let ⟨h, e, X⟩ := (c6 (h.resolve_right (by decide)) (fun z => t0 (.inl z))); ⟨h, e, X.more hv⟩), fun h t0 => (let ⟨A9, c9, e, O9⟩ := (c7 (h.resolve_right (by decide)) (fun z => t0 (.inl z))); ⟨A9, c9, e, own_keep O9 hv⟩), fun h => c8 (h.resolve_right (by decide)), fun h => c9 (h.resolve_right (by decide)), fun h => c10 (h.resolve_right (by decide)), fun h => (let ⟨A9, c9, e, O9⟩ := (c11 (h.resolve_right (by decide))); ⟨A9, c9, e, own_keep O9 hv⟩), fun h => (let ⟨A9, c9, e, O9⟩ := (c12 (h.resolve_right (by decide))); ⟨A9, c9, e, own_keep O9 hv⟩)⟩ _ rfl
              apply RelH.op2
              · intro L f u K hN hS hK
                simp only [puts, Act.put, List.setIfInBounds_toArray, List.set_cons_zero, List.set_cons_succ, upd, Nat.reduceEqDiff, ↓reduceIte, if_true, if_false] at hK ⊢
                have HS9 := Lib.hid hS
                obtain ⟨qB, c0, c1, c2, c3, c4, c5, c6, c7, c8, c9, c10, c11, c12⟩ := hS
                clear c0 c1 c2 c3 c4 c5 c6 c7 c8 c9 c10 c11 c12
                go_simp
                obtain ⟨qB, c0, c1, c2, c3, c4, c5, c6, c7, c8, c9, c10, c11, c12⟩ := HS9.out
                exact hK.out _ _ ⟨qB, fun h t0 => c0 (h.resolve_right (by decide)) (fun z => t0 (.inl z)), fun _ => rfl, fun h => c2 (h.resolve_right (by decide)), fun h => c3 (h.resolve_right (by decide)), fun h t0 => c4 (h.resolve_right (by decide)) (fun z => t0 (.inl z)), fun h => c5 (h.resolve_right (by decide)), fun h t0 => c6 (h.resolve_right (by decide)) (fun z => t0 (.inl z)), fun h t0 => c7 (h.resolve_right (by decide)) (fun z => t0 (.inl z)), fun h => c8 (h.resolve_right (by decide)), fun h => c9 (h.resolve_right (by decide)), fun h => c10 (h.resolve_right (by decide)), fun h => c11 (h.resolve_right (by decide)), fun h => c12 (h.resolve_right (by decide))⟩ _ rfl
              apply RelH.op2
              · intro L f u K hN hS hK
                simp only [puts, Act.put, List.setIfInBounds_toArray, List.set_cons_zero, List.set_cons_succ, upd, Nat.reduceEqDiff, ↓reduceIte, if_true, if_false] at hK ⊢
                have HS9 := Lib.hid hS
                obtain ⟨qB, c0, c1, c2, c3, c4, c5, c6, c7, c8, c9, c10, c11, c12⟩ := hS
                clear c0 c1 c2 c3 c4 c5 c6 c7 c8 c9 c10 c11 c12
                go_simp
                obtain ⟨qB, c0, c1, c2, c3, c4, c5, c6, c7, c8, c9, c10, c11, c12⟩ := HS9.out
                exact hK.out _ _ ⟨qB, fun h t0 => c0 (h.resolve_right (by decide)) (fun z => t0 (.inl z)), fun h => c1 (h.resolve_right (by decide)), fun _ => rfl, fun h => c3 (h.resolve_right (by decide)), fun h t0 => c4 (h.resolve_right (by decide)) (fun z => t0 (.inl z)), fun h => c5 (h.resolve_right (by decide)), fun h t0 => c6 (h.resolve_right (by decide)) (fun z => t0 (.inl z)), fun h t0 => c7 (h.resolve_right (by decide)) (fun z => t0 (.inl z)), fun h => c8 (h.resolve_right (by decide)), fun h => c9 (h.resolve_right (by decide)), fun h => c10 (h.resolve_right (by decide)), fun h => c11 (h.resolve_right (by decide)), fun h => c12 (h.resolve_right (by decide))⟩ _ rfl
              apply RelH.op2
              · intro L f u K hN hS hK
                simp only [puts, Act.put, List.setIfInBounds_toArray, List.set_cons_zero, List.set_cons_succ, upd, Nat.reduceEqDiff, ↓reduceIte, if_true, if_false] at hK ⊢
                have HS9 := Lib.hid hS
                obtain ⟨qB, c0, c1, c2, c3, c4, c5, c6, c7, c8, c9, c10, c11, c12⟩ := hS
                have e1 := c1 (hN.out.2 1 (by decide +kernel))
                have e2 := c2 (hN.out.2 2 (by decide +kernel))
                clear c0 c1 c2 c3 c4 c5 c6 c7 c8 c9 c10 c11 c12
                go_simp
                obtain ⟨qB, c0, c1, c2, c3, c4, c5, c6, c7, c8, c9, c10, c11, c12⟩ := HS9.out
                exact hK.out _ _ ⟨qB, fun h t0 => c0 (h.resolve_right (by decide)) (fun z => t0 (.inl z)), fun h => c1 (h.resolve_right (by decide)), fun h => c2 (h.resolve_right (by decide)), fun _ => rfl, fun h t0 => c4 (h.resolve_right (by decide)) (fun z => t0 (.inl z)), fun h => c5 (h.resolve_right (by decide)), fun h t0 => c6 (h.resolve_right (by decide)) (fun z => t0 (.inl z)), fun h t0 => c7 (h.resolve_right (by decide)) (fun z => t0 (.inl z)), fun h => c8 (h.resolve_right (by decide)), fun h => c9 (h.resolve_right (by decide)), fun h => c10 (h.resolve_right (by decide)), fun h => c11 (h.resolve_right (by decide)), fun h => c12 (h.resolve_right (by decide))⟩ _ (by simp only [e1, e2])
              apply RelH.op2
              · intro L f u K hN hS hK
                simp only [puts, Act.put, List.setIfInBounds_toArray, List.set_cons_zero, List.set_cons_succ, upd, Nat.reduceEqDiff, ↓reduceIte, if_true, if_false] at hK ⊢
                have HS9 := Lib.hid hS
                obtain ⟨qB, c0, c1, c2, c3, c4, c5, c6, c7, c8, c9, c10, c11, c12⟩ := hS
                obtain ⟨g, h0, O0⟩ := c0 (hN.out.2 0 (by decide +kernel)) (hN.out.1 4 (by decide +kernel))
                obtain h3 := c3 (hN.out.2 3 (by decide +kernel))
                refine step_fresh rfl (.tmp 46) (.tmp 49) 24 rfl (w.heap.size + 1) 42 i0 _ 2 16 Try.underlying24 hi hz0 HI1.out HI.out rfl (by decide) g h0 O0 ⟨b, o, none⟩ k cap (flat (l.take k)) h3 (by rw [flat_n, List.length_take]; omega) (HSRC.out.take qB.below k) (flat_one _) (by unfold maxLen; omega) (by omega) (by have := qB.there; omega) ?_
                intro v1 uw1 O1 hv
                obtain ⟨A1, d1, rfl⟩ := own_form O1
                exact hK.out (.slice A1 k d1) uw1 ⟨qB.more hv, fun h t0 => (t0 (by simp)).elim, fun h => c1 (h.resolve_right (by decide)), fun h => c2 (h.resolve_right (by decide)), fun h => c3 (h.resolve_right (by decide)), fun _ _ => ⟨A1, d1, rfl, O1⟩, fun h => c5 (h.resolve_right (by decide)), fun h t0 => (let ⟨h, e, X⟩ := (c6 (h.resolve_right (by decide)) (fun z => t0 (.inl z))); ⟨h, e, X.more hv⟩), fun h t0 => (let ⟨A9, c9, e, O9⟩ := (c7 (h.resolve_right (by decide)) (fun z => t0 (.inl z))); ⟨A9, c9, e, own_keep O9 hv⟩), fun h => c8 (h.resolve_right (by decide)), fun h => c9 (h.resolve_right (by decide)), fun h => c10 (h.resolve_right (by decide)), fun h => (let ⟨A9, c9, e, O9⟩ := (c11 (h.resolve_right (by decide))); ⟨A9, c9, e, own_keep O9 hv⟩), fun h => (let ⟨A9, c9, e, O9⟩ := (c12 (h.resolve_right (by decide))); ⟨A9, c9, e, own_keep O9 hv⟩)⟩ _ rfl
              apply RelH.op2
              · intro L f u K hN hS hK
                simp only [puts, Act.put, List.setIfInBounds_toArray, List.set_cons_zero, List.set_cons_succ, upd, Nat.reduceEqDiff, ↓reduceIte, if_true, if_false] at hK ⊢
                have HS9 := Lib.hid hS
                obtain ⟨qB, c0, c1, c2, c3, c4, c5, c6, c7, c8, c9, c10, c11, c12⟩ := hS
                have qB_0 := qB.cells 0 _ rfl
                have qB_1 := qB.cells 1 _ rfl
                clear c0 c1 c2 c3 c4 c5 c6 c7 c8 c9 c10 c11 c12
                go_simp
                obtain ⟨qB, c0, c1, c2, c3, c4, c5, c6, c7, c8, c9, c10, c11, c12⟩ := HS9.out
                exact hK.out _ _ ⟨qB, fun h t0 => c0 (h.resolve_right (by decide)) (fun z => t0 (.inl z)), fun h => c1 (h.resolve_right (by decide)), fun h => c2 (h.resolve_right (by decide)), fun h => c3 (h.resolve_right (by decide)), fun h t0 => c4 (h.resolve_right (by decide)) (fun z => t0 (.inl z)), fun _ => rfl, fun h t0 => c6 (h.resolve_right (by decide)) (fun z => t0 (.inl z)), fun h t0 => c7 (h.resolve_right (by decide)) (fun z => t0 (.inl z)), fun h => c8 (h.resolve_right (by decide)), fun h => c9 (h.resolve_right (by decide)), fun h => c10 (h.resolve_right (by decide)), fun h => c11 (h.resolve_right (by decide)), fun h => c12 (h.resolve_right (by decide))⟩ _ rfl
              apply RelH.op2
              · intro L f u K hN hS hK
                simp only [puts, Act.put, List.setIfInBounds_toArray, List.set_cons_zero, List.set_cons_succ, upd, Nat.reduceEqDiff, ↓reduceIte, if_true, if_false] at hK ⊢
                have HS9 := Lib.hid hS
                obtain ⟨qB, c0, c1, c2, c3, c4, c5, c6, c7, c8, c9, c10, c11, c12⟩ := hS
                have e5 := c5 (hN.out.2 5 (by decide +kernel))
                have hv := al (Below.refl _ u) (o := .cells #[.int .i64 x.f0, .int .i64 x.f1] 42)
                have hX := Box.new qB.below [.int .i64 x.f0, .int .i64 x.f1] 42 (g := u.heap.size) rfl
                clear c0 c1 c2 c3 c4 c5 c6 c7 c8 c9 c10 c11 c12
                go_simp
                obtain ⟨qB, c0, c1, c2, c3, c4, c5, c6, c7, c8, c9, c10, c11, c12⟩ := HS9.out
                exact hK.out _ _ ⟨qB.more hv, fun h t0 => (let ⟨g, e, O9⟩ := (c0 (h.resolve_right (by decide)) (fun z => t0 (.inl z))); ⟨g, e, own_keep O9 hv⟩), fun h => c1 (h.resolve_right (by decide)), fun h => c2 (h.resolve_right (by decide)), fun h => c3 (h.resolve_right (by decide)), fun h t0 => (let ⟨A9, c9, e, O9⟩ := (c4 (h.resolve_right (by decide)) (fun z => t0 (.inl z))); ⟨A9, c9, e, own_keep O9 hv⟩), fun h => c5 (h.resolve_right (by decide)), fun _ _ => ⟨_, rfl, hX⟩, fun h t0 => (let ⟨A9, c9, e, O9⟩ := (c7 (h.resolve_right (by decide)) (fun z => t0 (.inl z))); ⟨A9, c9, e, own_keep O9 hv⟩), fun h => c8 (h.resolve_right (by decide)), fun h => c9 (h.resolve_right (by decide)), fun h => c10 (h.resolve_right (by decide)), fun h => (let ⟨A9, c9, e, O9⟩ := (c11 (h.resolve_right (by decide))); ⟨A9, c9, e, own_keep O9 hv⟩), fun h => (let ⟨A9, c9, e, O9⟩ := (c12 (h.resolve_right (by decide))); ⟨A9, c9, e, own_keep O9 hv⟩)⟩ _ (by simp only [e5])
              apply RelH.op2
              · intro L f u K hN hS hK
                simp only [puts, Act.put, List.setIfInBounds_toArray, List.set_cons_zero, List.set_cons_succ, upd, Nat.reduceEqDiff, ↓reduceIte, if_true, if_false] at hK ⊢
                have HS9 := Lib.hid hS
                obtain ⟨qB, c0, c1, c2, c3, c4, c5, c6, c7, c8, c9, c10, c11, c12⟩ := hS
                obtain ⟨A1, d1, h4, O4⟩ := c4 (hN.out.2 4 (by decide +kernel)) (hN.out.1 7 (by decide +kernel))
                obtain ⟨g6, h6, X⟩ := c6 (hN.out.2 6 (by decide +kernel)) (hN.out.1 7 (by decide +kernel))
                refine step_own rfl (.tmp 50) (.tmp 52) 24 rfl (w.heap.size + 1) 42 i0 _ 2 16 Try.underlying24 hi hz0 HI1.out HI.out rfl (by decide) (.slice A1 k d1) k (flat (l.take k)) h4 O4 ⟨g6, 0, none⟩ 1 1 [.int .i64 x.f0, .int .i64 x.f1] h6 rfl (box_news X) (xone x) (by unfold maxLen; omega) (by omega) (by have := qB.there; omega) ?_
                intro v2 uw1 O2 hg2 _
                obtain ⟨A2, d2, rfl⟩ := own_form O2
                have hB2 := qB.grown hg2 (fun k9 hk => own_ge O4 k9 hk)
                exact hK.out (.slice A2 (k + 1) d2) uw1 ⟨hB2, fun h t0 => (t0 (.inl (hN.out.2 4 (by decide +kernel)))).elim, fun h => c1 (h.resolve_right (by decide)), fun h => c2 (h.resolve_right (by decide)), fun h => c3 (h.resolve_right (by decide)), fun h t0 => (t0 (by simp)).elim, fun h => c5 (h.resolve_right (by decide)), fun h t0 => (t0 (by simp)).elim, fun _ _ => ⟨A2, d2, rfl, O2⟩, fun h => c8 (h.resolve_right (by decide)), fun h => c9 (h.resolve_right (by decide)), fun h => c10 (h.resolve_right (by decide)), fun h => absurd (h.resolve_right (by decide)) (hN.out.1 11 (by decide +kernel)), fun h => absurd (h.resolve_right (by decide)) (hN.out.1 12 (by decide +kernel))⟩ _ rfl
              apply RelH.op2
              · intro L f u K hN hS hK
                simp only [puts, Act.put, List.setIfInBounds_toArray, List.set_cons_zero, List.set_cons_succ, upd, Nat.reduceEqDiff, ↓reduceIte, if_true, if_false] at hK ⊢
                have HS9 := Lib.hid hS
                obtain ⟨qB, c0, c1, c2, c3, c4, c5, c6, c7, c8, c9, c10, c11, c12⟩ := hS
                clear c0 c1 c2 c3 c4 c5 c6 c7 c8 c9 c10 c11 c12
                go_simp
                obtain ⟨qB, c0, c1, c2, c3, c4, c5, c6, c7, c8, c9, c10, c11, c12⟩ := HS9.out
                exact hK.out _ _ ⟨qB, fun h t0 => c0 (h.resolve_right (by decide)) (fun z => t0 (.inl z)), fun h => c1 (h.resolve_right (by decide)), fun h => c2 (h.resolve_right (by decide)), fun h => c3 (h.resolve_right (by decide)), fun h t0 => c4 (h.resolve_right (by decide)) (fun z => t0 (.inl z)), fun h => c5 (h.resolve_right (by decide)), fun h t0 => c6 (h.resolve_right (by decide)) (fun z => t0 (.inl z)), fun h t0 => c7 (h.resolve_right (by decide)) (fun z => t0 (.inl z)), fun _ => rfl, fun h => c9 (h.resolve_right (by decide)), fun h => c10 (h.resolve_right (by decide)), fun h => c11 (h.resolve_right (by decide)), fun h => c12 (h.resolve_right (by decide))⟩ _ rfl
              apply RelH.op2
              · intro L f u K hN hS hK
                simp only [puts, Act.put, List.setIfInBounds_toArray, List.set_cons_zero, List.set_cons_succ, upd, Nat.reduceEqDiff, ↓reduceIte, if_true, if_false] at hK ⊢
                have HS9 := Lib.hid hS
                obtain ⟨qB, c0, c1, c2, c3, c4, c5, c6, c7, c8, c9, c10, c11, c12⟩ := hS
                clear c0 c1 c2 c3 c4 c5 c6 c7 c8 c9 c10 c11 c12
                go_simp
                obtain ⟨qB, c0, c1, c2, c3, c4, c5, c6, c7, c8, c9, c10, c11, c12⟩ := HS9.out
                exact hK.out _ _ ⟨qB, fun h t0 => c0 (h.resolve_right (by decide)) (fun z => t0 (.inl z)), fun h => c1 (h.resolve_right (by decide)), fun h => c2 (h.resolve_right (by decide)), fun h => c3 (h.resolve_right (by decide)), fun h t0 => c4 (h.resolve_right (by decide)) (fun z => t0 (.inl z)), fun h => c5 (h.resolve_right (by decide)), fun h t0 => c6 (h.resolve_right (by decide)) (fun z => t0 (.inl z)), fun h t0 => c7 (h.resolve_right (by decide)) (fun z => t0 (.inl z)), fun h => c8 (h.resolve_right (by decide)), fun _ => rfl, fun h => c10 (h.resolve_right (by decide)), fun h => c11 (h.resolve_right (by decide)), fun h => c12 (h.resolve_right (by decide))⟩ _ rfl
              apply RelH.op2
              · intro L f u K hN hS hK
                simp only [puts, Act.put, List.setIfInBounds_toArray, List.set_cons_zero, List.set_cons_succ, upd, Nat.reduceEqDiff, ↓reduceIte, if_true, if_false] at hK ⊢
                have HS9 := Lib.hid hS
                obtain ⟨qB, c0, c1, c2, c3, c4, c5, c6, c7, c8, c9, c10, c11, c12⟩ := hS
                have e8 := c8 (hN.out.2 8 (by decide +kernel))
                have e9 := c9 (hN.out.2 9 (by decide +kernel))
                clear c0 c1 c2 c3 c4 c5 c6 c7 c8 c9 c10 c11 c12
                go_simp
                obtain ⟨qB, c0, c1, c2, c3, c4, c5, c6, c7, c8, c9, c10, c11, c12⟩ := HS9.out
                exact hK.out _ _ ⟨qB, fun h t0 => c0 (h.resolve_right (by decide)) (fun z => t0 (.inl z)), fun h => c1 (h.resolve_right (by decide)), fun h => c2 (h.resolve_right (by decide)), fun h => c3 (h.resolve_right (by decide)), fun h t0 => c4 (h.resolve_right (by decide)) (fun z => t0 (.inl z)), fun h => c5 (h.resolve_right (by decide)), fun h t0 => c6 (h.resolve_right (by decide)) (fun z => t0 (.inl z)), fun h t0 => c7 (h.resolve_right (by decide)) (fun z => t0 (.inl z)), fun h => c8 (h.resolve_right (by decide)), fun h => c9 (h.resolve_right (by decide)), fun _ => rfl, fun h => c11 (h.resolve_right (by decide)), fun h => c12 (h.resolve_right (by decide))⟩ _ (by simp only [e8, e9])
              apply RelH.op2
              · intro L f u K hN hS hK
                simp only [puts, Act.put, List.setIfInBounds_toArray, List.set_cons_zero, List.set_cons_succ, upd, Nat.reduceEqDiff, ↓reduceIte, if_true, if_false] at hK ⊢
                have HS9 := Lib.hid hS
                obtain ⟨qB, c0, c1, c2, c3, c4, c5, c6, c7, c8, c9, c10, c11, c12⟩ := hS
                obtain ⟨A2, d2, h7, O7⟩ := c7 (hN.out.2 7 (by decide +kernel)) (hN.out.1 11 (by decide +kernel))
                obtain h10 := c10 (hN.out.2 10 (by decide +kernel))
                refine step_own rfl (.tmp 53) (.tmp 56) 24 rfl (w.heap.size + 1) 42 i0 _ 2 16 Try.underlying24 hi hz0 HI1.out HI.out rfl (by decide) (.slice A2 (k + 1) d2) (k + 1) (flat (l.take k) ++ [.int .i64 x.f0, .int .i64 x.f1]) h7 O7 ⟨b, o + n * 2, none⟩ (l.length - n) (cap - n) ((flat l).drop (n * 2)) h10 (by rw [List.length_drop, flat_n]; omega) (HSRC.out.drop qB.below n) (fun v9 h9 => flat_one l v9 (List.mem_of_mem_drop h9)) (by unfold maxLen; omega) (by omega) (by have := qB.there; omega) ?_
                intro v3 uw1 O3 hg3 _
                obtain ⟨A3, d3, rfl⟩ := own_form O3
                have hB2 := qB.grown hg3 (fun k9 hk => own_ge O7 k9 hk)
                exact hK.out (.slice A3 (k + 1 + (l.length - n)) d3) uw1 ⟨hB2, fun h t0 => (t0 (.inl (hN.out.2 4 (by decide +kernel)))).elim, fun h => c1 (h.resolve_right (by decide)), fun h => c2 (h.resolve_right (by decide)), fun h => c3 (h.resolve_right (by decide)), fun h t0 => (t0 (.inl (hN.out.2 7 (by decide +kernel)))).elim, fun h => c5 (h.resolve_right (by decide)), fun h t0 => (t0 (.inl (hN.out.2 7 (by decide +kernel)))).elim, fun h t0 => (t0 (by simp)).elim, fun h => c8 (h.resolve_right (by decide)), fun h => c9 (h.resolve_right (by decide)), fun h => c10 (h.resolve_right (by decide)), fun _ => ⟨A3, d3, rfl, O3⟩, fun h => absurd (h.resolve_right (by decide)) (hN.out.1 12 (by decide +kernel))⟩ _ rfl
              apply RelH.op2
              · intro L f u K hN hS hK
                simp only [puts, Act.put, List.setIfInBounds_toArray, List.set_cons_zero, List.set_cons_succ, upd, Nat.reduceEqDiff, ↓reduceIte, if_true, if_false] at hK ⊢
                have HS9 := Lib.hid hS
                obtain ⟨qB, c0, c1, c2, c3, c4, c5, c6, c7, c8, c9, c10, c11, c12⟩ := hS
                obtain ⟨A3, d3, e11, O3⟩ := c11 (hN.out.2 11 (by decide +kernel))
                clear c0 c1 c2 c3 c4 c5 c6 c7 c8 c9 c10 c11 c12
                go_simp
                obtain ⟨qB, c0, c1, c2, c3, c4, c5, c6, c7, c8, c9, c10, c11, c12⟩ := HS9.out
                exact hK.out _ _ ⟨qB, fun h t0 => c0 (h.resolve_right (by decide)) (fun z => t0 (.inl z)), fun h => c1 (h.resolve_right (by decide)), fun h => c2 (h.resolve_right (by decide)), fun h => c3 (h.resolve_right (by decide)), fun h t0 => c4 (h.resolve_right (by decide)) (fun z => t0 (.inl z)), fun h => c5 (h.resolve_right (by decide)), fun h t0 => c6 (h.resolve_right (by decide)) (fun z => t0 (.inl z)), fun h t0 => c7 (h.resolve_right (by decide)) (fun z => t0 (.inl z)), fun h => c8 (h.resolve_right (by decide)), fun h => c9 (h.resolve_right (by decide)), fun h => c10 (h.resolve_right (by decide)), fun h => c11 (h.resolve_right (by decide)), fun _ => ⟨A3, d3, rfl, O3⟩⟩ _ (by simp only [e11])
              exact RelH.done
            intro L f V0 hL hS
            simp only [puts, Act.put, List.setIfInBounds_toArray, List.set_cons_zero, List.set_cons_succ]
            obtain ⟨qB, c0, c1, c2, c3, c4, c5, c6, c7, c8, c9, c10, c11, c12⟩ := hS
            clear B
            have B := qB
            obtain ⟨A3, d3, e12, O3⟩ := c12 (hL 12 (by decide))
            rw [← HLM.out] at e12 O3
            rw [← HFM.out] at O3
            simp only [e12]
            clear e12 c0 c1 c2 c3 c4 c5 c6 c7 c8 c9 c10 c11 c12 hL qB
            have HB3 := B.below
            clear B
            go_wp2_with fail
            refine (SunG.good_spec A3 d3 m V0 (Rd.of_own O3) (by rw [HLM.out]; omega)).mono ?_
            rintro e w3 ⟨rfl, hv3⟩
            replace HB3 := be HB3 hv3
            replace O3 := own_keep O3 hv3
            cases h1 : good m
            · go_wp2
              go_ret2
              exact put_bad (pt2 HM.out h1) HB3
            · go_wp2
              go_ret2
              exact put_good hg HM.out h1 HB3 (Nat.le_succ _) O3
end Go.Proofs.Ytcmomccdnkligaa.SunQ
