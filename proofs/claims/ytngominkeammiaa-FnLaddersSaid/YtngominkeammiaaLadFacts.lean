/- What FnLadders and FnRungs say, as arithmetic. -/
import Derived.Test.YtngominkeammiaaLadX
namespace Go.Proofs.Ytngominkeammiaa.LadFacts
open Go.RowKit Go.Proofs.Ytngominkeammiaa.Mem Go.Proofs.Ytngominkeammiaa.Base Go.Proofs.Ytngominkeammiaa.Brine Go.Proofs.Ytngominkeammiaa.LadP
open Go.Proofs.Ytngominkeammiaa.SRung hiding RPost rpost
set_option linter.unusedVariables false
def hasI (l : List Int) (x : Int) : Bool := l.any fun y => y == x
theorem has_iff {l : List Int} {x : Int} : hasI l x = true ↔ x ∈ l := by
  unfold hasI
  rw [List.any_eq_true]
  constructor
  · rintro ⟨y, hy, h⟩; rw [beq_iff_eq] at h; rw [← h]; exact hy
  · intro h; exact ⟨x, h, by simp⟩
theorem has_pick {p : Nat → Bool} {n k : Nat} (hk : k < n) : hasI (pick p n) (k : Int) = p k := by
  cases hp : p k
  · cases hh : hasI (pick p n) (k : Int)
    · rfl
    · obtain ⟨j, _, h2, h3⟩ := mem_pick.1 (has_iff.1 hh)
      have : j = k := by omega
      subst this; rw [hp] at h2; cases h2
  · exact has_iff.2 (mem_pick.2 ⟨k, hk, hp, rfl⟩)
theorem st_iff (x : R) (a c : Int) : st x a c = true ↔ x.f0 * (a + c) ≤ 1000 * c ∧ 1000 * c ≤ x.f1 * (a + c) := by
  unfold st inB
  rw [decide_eq_true_iff]
/-- on the rung of two together. -/
theorem st_jn (x y : R) {a c : Int} (h : 0 ≤ a + c) : st (jn x y) a c = (st x a c && st y a c) := by
  rw [Bool.eq_iff_iff, Bool.and_eq_true, st_iff, st_iff, st_iff]
  show most x.f0 y.f0 * (a + c) ≤ 1000 * c ∧ 1000 * c ≤ least x.f1 y.f1 * (a + c) ↔ _
  have e1 : most x.f0 y.f0 * (a + c) ≤ 1000 * c ↔ x.f0 * (a + c) ≤ 1000 * c ∧ y.f0 * (a + c) ≤ 1000 * c := by
    unfold most
    split
    · rename_i hlt
      have := Int.mul_le_mul_of_nonneg_right (show y.f0 ≤ x.f0 by omega) h
      omega
    · rename_i hlt
      have := Int.mul_le_mul_of_nonneg_right (show x.f0 ≤ y.f0 by omega) h
      omega
  have e2 : 1000 * c ≤ least x.f1 y.f1 * (a + c) ↔ 1000 * c ≤ x.f1 * (a + c) ∧ 1000 * c ≤ y.f1 * (a + c) := by
    unfold least
    split
    · rename_i hlt
      have := Int.mul_le_mul_of_nonneg_right (show x.f1 ≤ y.f1 by omega) h
      omega
    · rename_i hlt
      have := Int.mul_le_mul_of_nonneg_right (show y.f1 ≤ x.f1 by omega) h
      omega
  omega
theorem join_parts {l m : List R} (h : joinOk l m = true) : good l = true ∧ good m = true ∧ l.length = m.length ∧ good (jl l m) = true := by
  unfold joinOk at h
  simp only [Bool.and_eq_true, decide_eq_true_eq] at h
  exact ⟨h.1, h.2.1, h.2.2.1, h.2.2.2⟩
theorem for_good {l : List R} {a c : Int} (h : good l = true) : forOk l a c = okB a c := by unfold forOk; rw [h]; rfl
theorem both_has {l m : List R} {a c : Int} {k : Nat} (h : joinOk l m = true) (hb : okB a c = true) (hk : k < l.length) :
    hasI (forL (jl l m) a c) (k : Int) = (hasI (forL l a c) (k : Int) && hasI (forL m a c) (k : Int)) := by
  obtain ⟨h1, h2, h3, h4⟩ := join_parts h
  obtain ⟨a0, a1, c0, c1⟩ := okB_true hb
  rw [forL_yes (for3 h4 hb), forL_yes (for3 h1 hb), forL_yes (for3 h2 hb), has_pick (by rw [jl_len]; exact hk), has_pick hk, has_pick (by omega)]
  have hk2 : k < m.length := by omega
  have hkj : k < (jl l m).length := by rw [jl_len]; exact hk
  rw [onP_at a c hkj rfl, onP_at a c hk rfl, onP_at a c hk2 rfl]
  have e : (jl l m)[k] = jn l[k] m[k] := (tell_get hkj).trans (by unfold jAt; rw [getD_at hk, getD_at hk2])
  rw [e]
  exact st_jn _ _ (by omega)
/-- rooms. -/
theorem room_facts {x : R} {a c : Int} (hx : okR x = true) (hb : okB a c = true) (hs : st x a c = true) :
    0 ≤ roomI x a c ∧ roomI x a c ≤ 1000000 ∧ okB (a + roomI x a c) c = true ∧ st x (a + roomI x a c) c = true ∧ (okB (a + roomI x a c + 1) c && st x (a + roomI x a c + 1) c) = false := by
  obtain ⟨x0, x1, x2⟩ := okR_true hx
  obtain ⟨a0, a1, c0, c1⟩ := okB_true hb
  obtain ⟨s0, s1⟩ := (st_iff _ _ _).1 hs
  have hok : ∀ n : Int, 0 ≤ n → a + n ≤ 1000000 → okB (a + n) c = true := fun n h0 h1 => by
    unfold okB; rw [inB_true (by omega), inB_true (by omega)]; rfl
  have hup : ∀ n : Int, 0 ≤ n → 1000 * c ≤ x.f1 * (a + n + c) := fun n h0 => by
    have := Int.mul_le_mul_of_nonneg_left (show a + c ≤ a + n + c by omega) (show 0 ≤ x.f1 by omega)
    omega
  rcases Int.lt_or_le 0 x.f0 with hp | hp
  · have e : roomI x a c = least (1000000 - a) (1000 * c / x.f0 - (a + c)) := by unfold roomI; rw [if_pos hp]
    have hd : a + c ≤ 1000 * c / x.f0 := by rw [Int.le_ediv_iff_mul_le hp, Int.mul_comm]; exact s0
    have hm : x.f0 * (1000 * c / x.f0) ≤ 1000 * c := Int.mul_ediv_self_le (by omega)
    have hl : 1000 * c < x.f0 * (1000 * c / x.f0 + 1) := by
      have := Int.lt_mul_ediv_self_add (x := 1000 * c) hp
      rw [Int.mul_add, Int.mul_one]; exact this
    rw [e]
    unfold least
    split
    · rename_i hlt
      refine ⟨by omega, by omega, hok _ (by omega) (by omega), (st_iff _ _ _).2 ⟨?_, hup _ (by omega)⟩, ?_⟩
      · have := Int.mul_le_mul_of_nonneg_left (show a + (1000000 - a) + c ≤ 1000 * c / x.f0 by omega) (show 0 ≤ x.f0 by omega)
        omega
      · have : okB (a + (1000000 - a) + 1) c = false := by unfold okB; rw [inB_false (by omega)]; rfl
        rw [this]; rfl
    · rename_i hlt
      refine ⟨by omega, by omega, hok _ (by omega) (by omega), (st_iff _ _ _).2 ⟨?_, hup _ (by omega)⟩, ?_⟩
      · rw [show a + (1000 * c / x.f0 - (a + c)) + c = 1000 * c / x.f0 by omega]; exact hm
      · have : st x (a + (1000 * c / x.f0 - (a + c)) + 1) c = false := by
          unfold st
          refine inB_false (fun h => ?_)
          rw [show a + (1000 * c / x.f0 - (a + c)) + 1 + c = 1000 * c / x.f0 + 1 by omega] at h
          omega
        rw [this, Bool.and_false]
  · have e : roomI x a c = 1000000 - a := by unfold roomI; rw [if_neg (by omega)]
    have e0 : x.f0 = 0 := by omega
    rw [e]
    refine ⟨by omega, by omega, hok _ (by omega) (by omega), (st_iff _ _ _).2 ⟨by rw [e0, Int.zero_mul]; omega, hup _ (by omega)⟩, ?_⟩
    have : okB (a + (1000000 - a) + 1) c = false := by unfold okB; rw [inB_false (by omega)]; rfl
    rw [this]; rfl
theorem sun_facts {x : R} {a c : Int} (hx : okR x = true) (hb : okB a c = true) (hs : st x a c = true) :
    0 ≤ sunI x a c ∧ sunI x a c ≤ 1000000 ∧ okB (a - sunI x a c) c = true ∧ st x (a - sunI x a c) c = true := by
  obtain ⟨x0, x1, x2⟩ := okR_true hx
  obtain ⟨a0, a1, c0, c1⟩ := okB_true hb
  obtain ⟨s0, s1⟩ := (st_iff _ _ _).1 hs
  have hok : ∀ n : Int, 0 ≤ n → n ≤ a → okB (a - n) c = true := fun n h0 h1 => by
    unfold okB; rw [inB_true (by omega), inB_true (by omega)]; rfl
  by_cases hc : c = 0
  · have e : sunI x a c = a := by unfold sunI; rw [if_pos hc]
    rw [e]
    refine ⟨by omega, by omega, hok _ (by omega) (by omega), (st_iff _ _ _).2 ?_⟩
    subst hc
    rw [show a - a + 0 = (0 : Int) by omega]
    simp
  · have h1 := high_pos hb hs hc hx
    have hu := up_bd c0 c1 h1 x2
    have e : sunI x a c = a + c - (1000 * c + x.f1 - 1) / x.f1 := by unfold sunI; rw [if_neg hc]
    have hle : (1000 * c + x.f1 - 1) / x.f1 ≤ a + c := by
      have : (1000 * c + x.f1 - 1) / x.f1 < a + c + 1 := by
        rw [Int.ediv_lt_iff_lt_mul (by omega), Int.add_mul, Int.one_mul, Int.mul_comm (a + c) x.f1]
        omega
      omega
    have hge : 1000 * c ≤ x.f1 * ((1000 * c + x.f1 - 1) / x.f1) := by
      have := Int.lt_mul_ediv_self_add (x := 1000 * c + x.f1 - 1) (show 0 < x.f1 by omega)
      omega
    rw [e]
    refine ⟨by omega, by omega, hok _ (by omega) (by omega), (st_iff _ _ _).2 ?_⟩
    rw [show a - (a + c - (1000 * c + x.f1 - 1) / x.f1) + c = (1000 * c + x.f1 - 1) / x.f1 by omega]
    refine ⟨?_, hge⟩
    have := Int.mul_le_mul_of_nonneg_left hle x0
    omega
theorem for_has {l : List R} {k : Nat} {x : R} {a c : Int} (hg : good l = true) (hk : k < l.length) (hx : l[k] = x) (hb : okB a c = true) : hasI (forL l a c) (k : Int) = st x a c := by
  rw [forL_yes (for3 hg hb), has_pick hk, onP_at a c hk hx]
/-- an even ladder is a ladder from low to high. -/
theorem ev_mono {n lo hi : Int} (h : evOk n lo hi = true) {i j : Nat} (hij : i ≤ j) : evE n lo hi i ≤ evE n lo hi j := by
  obtain ⟨n1, _, l0, l1, _⟩ := ev_parts h
  unfold evE
  have h1 : (hi - lo) * (i : Int) ≤ (hi - lo) * (j : Int) := Int.mul_le_mul_of_nonneg_left (by omega) (by omega)
  have h2 := Int.ediv_le_ediv (show 0 < n by omega) h1
  omega
theorem ev_first {n lo hi : Int} (h : evOk n lo hi = true) : evE n lo hi 0 = lo := by unfold evE; simp
theorem ev_last {lo hi : Int} {m : Nat} (h : evOk (m : Int) lo hi = true) : evE (m : Int) lo hi m = hi := by
  obtain ⟨n1, _, l0, l1, _⟩ := ev_parts h
  unfold evE
  rw [Int.mul_ediv_cancel _ (by omega)]; omega
theorem tell_drop (m k : Nat) (f : Nat → R) : (tell m f).drop k = (List.range' k (m - k)).map f := by
  unfold tell
  rw [← List.map_drop, List.range_eq_range', List.drop_range']
  simp
theorem ev_go {lo hi : Int} {m : Nat} (h : evOk (m : Int) lo hi = true) : ∀ (j k : Nat) (p q : Int), k + j = m → p ≤ evE (m : Int) lo hi k → q ≤ evE (m : Int) lo hi (k + 1) → goF p q ((List.range' k j).map (evR (m : Int) lo hi)) = true
  | 0, k, p, q, _, _, _ => rfl
  | j + 1, k, p, q, hk, h1, h2 => by
    obtain ⟨n1, _, l0, l1, l2⟩ := ev_parts h
    have a1 := ev_mono h (show 0 ≤ k by omega)
    rw [ev_first h] at a1
    have a2 := ev_mono h (show k ≤ k + 1 by omega)
    have a3 := ev_mono h (show k + 1 ≤ m by omega)
    rw [ev_last h] at a3
    have hr : okR (evR (m : Int) lo hi k) = true := okR_mk (by show 0 ≤ evE (m : Int) lo hi k ∧ evE (m : Int) lo hi k ≤ evE (m : Int) lo hi (k + 1) ∧ evE (m : Int) lo hi (k + 1) ≤ 1000; omega)
    have ih := ev_go h j (k + 1) (evR (m : Int) lo hi k).f0 (evR (m : Int) lo hi k).f1 (by omega) a2 (ev_mono h (show k + 1 ≤ k + 1 + 1 by omega))
    show ((okR (evR (m : Int) lo hi k) && (decide (p ≤ evE (m : Int) lo hi k) && decide (q ≤ evE (m : Int) lo hi (k + 1)))) && goF (evR (m : Int) lo hi k).f0 (evR (m : Int) lo hi k).f1 ((List.range' (k + 1) j).map (evR (m : Int) lo hi))) = true
    rw [hr, decide_eq_true h1, decide_eq_true h2, ih]; rfl
theorem even_facts {n lo hi : Int} (h : evOk n lo hi = true) : ∃ (m : Nat), n = m ∧ 1 ≤ m ∧ m ≤ 8 ∧ evenL n lo hi = tell m (evR n lo hi) ∧ good (evenL n lo hi) = true := by
  obtain ⟨n1, n8, l0, l1, l2⟩ := ev_parts h
  obtain ⟨m, rfl⟩ : ∃ m : Nat, n = m := ⟨n.toNat, by omega⟩
  refine ⟨m, rfl, by omega, by omega, evenL_yes h rfl, ?_⟩
  rw [evenL_yes h rfl]
  unfold good
  have e := tell_drop m 0 (evR (m : Int) lo hi)
  rw [List.drop_zero, Nat.sub_zero] at e
  rw [tell_len, inB_true (by omega), e, ev_go h m 0 0 0 (by omega) (by rw [ev_first h]; exact l0) (by
    have := ev_mono h (show 0 ≤ 0 + 1 by omega); rw [ev_first h] at this; omega)]
  rfl
/-- none is wider than the widest. -/
theorem wid_max {l : List R} : ∀ {k j : Nat}, 0 < l.length → k ≤ l.length → j < k → wd (l.getD j zero) ≤ wd (l.getD (wid l k) zero)
  | 0, j, _, _, hj => by omega
  | k + 1, j, h0, hk, hj => by
    have e : wid l (k + 1) = if wd (l.getD k zero) > wd (l.getD (wid l k) zero) then k else wid l k := rfl
    rw [e]
    rcases Nat.lt_or_ge j k with h1 | h1
    · have ih := wid_max h0 (show k ≤ l.length by omega) h1
      split
      · omega
      · exact ih
    · have : j = k := by omega
      subst this
      split
      · exact Int.le_refl _
      · omega
theorem off_len (l : List R) (s : List SBasin.R) : (LadX.offL l s).length ≤ 100 := by
  unfold LadX.offL
  split
  · rename_i h
    have h8 := (good_all (LadX.off_parts h).1).2.1
    have := pick_len (LadW.offP l s) l.length
    omega
  · simp
theorem join_len (l m : List R) : (joinL l m).length ≤ 100 := by
  unfold joinL
  split
  · rename_i h
    unfold joinOk at h
    rw [Bool.and_eq_true] at h
    have h8 := (good_all h.1).2.1
    rw [jl_len]; omega
  · simp
theorem for_len (l : List R) (a c : Int) : (forL l a c).length ≤ 100 := by
  unfold forL
  split
  · rename_i h
    unfold forOk at h
    rw [Bool.and_eq_true] at h
    have h8 := (good_all h.1).2.1
    have := pick_len (onP l a c) l.length
    omega
  · simp
theorem even_len (n lo hi : Int) : (evenL n lo hi).length ≤ 100 := by
  unfold evenL
  split
  · rename_i h
    have := ev_parts h
    rw [tell_len]; omega
  · simp
theorem join_told {l m : List R} {J : List R} {q : Bool} (hJ : joinL l m = J) (hq : joinOk l m = q) (h : q = true) :
    J.length = l.length ∧ ∀ (x y : Int), (forOk l x y = okB x y ∧ forOk m x y = okB x y ∧ forOk J x y = okB x y) ∧ (okB x y = true → ∀ k : Nat, k < J.length → hasI (forL J x y) (k : Int) = (hasI (forL l x y) (k : Int) && hasI (forL m x y) (k : Int))) := by
  have hj : joinOk l m = true := hq.trans h
  obtain ⟨h1, h2, h3, h4⟩ := join_parts hj
  have e : J = jl l m := hJ.symm.trans (joinL_yes hj)
  subst e
  refine ⟨jl_len l m, fun x y => ⟨⟨for_good h1, for_good h2, for_good h4⟩, fun hb k hk => both_has hj hb (by rwa [jl_len] at hk)⟩⟩
theorem room_told (l : List R) (i a c : Int) : ∃ r, roomV l i a c = .tuple #[.int .i64 r, .bool (asked l i a c)] ∧ ∃ s, sunV l i a c = .tuple #[.int .i64 s, .bool (asked l i a c)] ∧ (asked l i a c = true → ∃ k : Nat, i = k ∧ k < l.length ∧
    0 ≤ r ∧ r ≤ 1000000 ∧ 0 ≤ s ∧ s ≤ 1000000 ∧ (0 ≤ a ∧ a ≤ 1000000) ∧ forOk l (a + r) c = true ∧ hasI (forL l (a + r) c) (k : Int) = true ∧ forOk l (a - s) c = true ∧ hasI (forL l (a - s) c) (k : Int) = true ∧ (forOk l (a + r + 1) c = true → hasI (forL l (a + r + 1) c) (k : Int) = false)) := by
  cases hk : asked l i a c
  · exact ⟨0, room_no hk, 0, sun_no hk, fun h => by cases h⟩
  · obtain ⟨hg, hb, hm, k, x, hlt, hi, hx, hox, hst, hgx⟩ := ask_parts hk
    obtain ⟨a0, a1, _, _⟩ := okB_true hb
    obtain ⟨r0, r1, r2, r3, r4⟩ := room_facts hox hb hst
    obtain ⟨s0, s1, s2, s3⟩ := sun_facts hox hb hst
    refine ⟨_, room_yes hk hgx, _, sun_yes hk hgx, fun _ => ⟨k, hi, hlt, r0, r1, s0, s1, ⟨a0, a1⟩, for3 hg r2, (for_has hg hlt hx r2).trans r3, for3 hg s2, (for_has hg hlt hx s2).trans s3, fun h => ?_⟩⟩
    have h2 : okB (a + roomI x a c + 1) c = true := by rw [← for_good hg]; exact h
    rw [for_has hg hlt hx h2]
    rw [h2, Bool.true_and] at r4
    exact r4
theorem even_told {n lo hi : Int} {E : List R} (hE : evenL n lo hi = E) (h : evOk n lo hi = true) : ∃ j : Nat, n = (j : Int) + 1 ∧ j ≤ 7 ∧ E.length = j + 1 ∧ good E = true ∧ ∃ (x y : R) (h0 : 0 < E.length) (h1 : j < E.length), E[0] = x ∧ x.f0 = lo ∧ E[j] = y ∧ y.f1 = hi := by
  obtain ⟨m, rfl, m1, m8, he, hg⟩ := even_facts h
  have e : E = tell m (evR (m : Int) lo hi) := hE.symm.trans he
  rw [hE] at hg
  obtain ⟨j, rfl⟩ : ∃ j, m = j + 1 := ⟨m - 1, by omega⟩
  have hl : E.length = j + 1 := by rw [e, tell_len]
  refine ⟨j, by omega, by omega, hl, hg, evR ((j + 1 : Nat) : Int) lo hi 0, evR ((j + 1 : Nat) : Int) lo hi j, by omega, by omega, ?_, ev_first h, ?_, ev_last h⟩
  · subst e; exact tell_get _
  · subst e; exact tell_get _
theorem wid_told (l : List R) : ∃ j : Nat, widV l = .tuple #[.int .i64 (j : Int), .bool (good l)] ∧ (good l = true → j < l.length ∧ (∀ x ∈ l, okR x = true) ∧ ∀ k (hk : k < l.length) (hj : j < l.length), wd l[k] ≤ wd l[j]) := by
  cases h : good l
  · exact ⟨0, wid_no h, fun h => by cases h⟩
  · have h1 := (good_all h).1
    have hj := wid_lt (l := l) (k := l.length) h1 (Nat.le_refl _)
    refine ⟨wid l l.length, wid_yes h rfl rfl, fun _ => ⟨hj, (good_all h).2.2, fun k hk hj' => ?_⟩⟩
    have := wid_max (l := l) (k := l.length) (j := k) h1 (Nat.le_refl _) hk
    rwa [getD_at hk, getD_at hj] at this
theorem keep_told (l : List R) (s : List SBasin.R) : LadX.keepV l s = .tuple #[.bool (LadX.offOk l s && decide ((LadX.offL l s).length = 0)), .bool (LadX.offOk l s)] := rfl
theorem keep_off {l : List R} {s : List SBasin.R} (h : LadX.offOk l s = true) : LadX.keepV l s = .tuple #[.bool (decide ((LadX.offL l s).length = 0)), .bool true] := LadX.keep_yes h rfl
end Go.Proofs.Ytngominkeammiaa.LadFacts
