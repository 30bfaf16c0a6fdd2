/- Ladders: what the functions of chapter 13 say, as plain functions. -/
import Derived.Test.YtngominkeammiaaSRung
import Derived.Test.YtngominkeammiaaBrine
import Derived.Test.YtngominkeammiaaSBasin
namespace Go.Proofs.Ytngominkeammiaa.LadP
open Go.RowKit Go.Proofs.Ytngominkeammiaa.Mem Go.Proofs.Ytngominkeammiaa.Base Go.Proofs.Ytngominkeammiaa.Brine
open Go.Proofs.Ytngominkeammiaa.SRung hiding RPost rpost
set_option linter.unusedVariables false
def okR (x : R) : Bool := inB x.f0 0 x.f1 && decide (x.f1 ≤ 1000)
theorem okR_true {x : R} (h : okR x = true) : 0 ≤ x.f0 ∧ x.f0 ≤ x.f1 ∧ x.f1 ≤ 1000 := by
  unfold okR at h
  rw [Bool.and_eq_true] at h
  have h1 := of_inB h.1; have h2 := of_decide_eq_true h.2; omega
theorem okR_mk {x : R} (h : 0 ≤ x.f0 ∧ x.f0 ≤ x.f1 ∧ x.f1 ≤ 1000) : okR x = true := by
  unfold okR; rw [inB_true (by omega), decide_eq_true (by omega)]; rfl
theorem bad_in {x : R} (h : inB x.f0 0 x.f1 = false) : okR x = false := by unfold okR; rw [h]; rfl
theorem bad_top {x : R} (h : ¬ x.f1 ≤ 1000) : okR x = false := by unfold okR; rw [decide_eq_false h, Bool.and_false]
theorem ok_both {x : R} (h : inB x.f0 0 x.f1 = true) (h1 : x.f1 ≤ 1000) : okR x = true := by unfold okR; rw [h, decide_eq_true h1]; rfl
/-- valid behind a rung with p and q. -/
def goF (p q : Int) : List R → Bool
  | [] => true
  | x :: r => (okR x && (decide (p ≤ x.f0) && decide (q ≤ x.f1))) && goF x.f0 x.f1 r
def good (l : List R) : Bool := goF 0 0 l && inB (l.length : Int) 1 8
theorem go_drop {l : List R} {k : Nat} {p q : Int} {x : R} (h : k < l.length) (hx : l[k] = x) : goF p q (l.drop k) = ((okR x && (decide (p ≤ x.f0) && decide (q ≤ x.f1))) && goF x.f0 x.f1 (l.drop (k + 1))) := by
  rw [List.drop_eq_getElem_cons h, hx]; rfl
theorem go_nil {l : List R} {k : Nat} (p q : Int) (h : l.length ≤ k) : goF p q (l.drop k) = true := by rw [List.drop_eq_nil_of_le h]; rfl
theorem go_bad {l : List R} {k : Nat} {p q : Int} {x : R} (h : k < l.length) (hx : l[k] = x) (ho : okR x = false) : goF p q (l.drop k) = false := by rw [go_drop h hx, ho]; rfl
theorem go_low {l : List R} {k : Nat} {p q : Int} {x : R} (h : k < l.length) (hx : l[k] = x) (ho : ¬ p ≤ x.f0) : goF p q (l.drop k) = false := by rw [go_drop h hx, decide_eq_false ho]; simp
theorem go_high {l : List R} {k : Nat} {p q : Int} {x : R} (h : k < l.length) (hx : l[k] = x) (ho : ¬ q ≤ x.f1) : goF p q (l.drop k) = false := by rw [go_drop h hx, decide_eq_false ho]; simp
theorem go_next {l : List R} {k : Nat} {p q : Int} {x : R} (h : k < l.length) (hx : l[k] = x) (ho : okR x = true) (h0 : p ≤ x.f0) (h1 : q ≤ x.f1) : goF p q (l.drop k) = goF x.f0 x.f1 (l.drop (k + 1)) := by
  rw [go_drop h hx, ho, decide_eq_true h0, decide_eq_true h1]; rfl
theorem good_no {l : List R} (h : goF 0 0 l = false) : good l = false := by unfold good; rw [h]; rfl
theorem good_end {l : List R} (h : goF 0 0 l = true) : good l = inB (l.length : Int) 1 8 := by unfold good; rw [h]; rfl
theorem good_long {l : List R} (h : inB (l.length : Int) 1 8 = false) : good l = false := by unfold good; rw [h, Bool.and_false]
theorem go_all : ∀ {l : List R} {p q : Int}, goF p q l = true → ∀ x ∈ l, okR x = true
  | [], _, _, _, x, hx => by cases hx
  | y :: r, p, q, h, x, hx => by
    have h' : ((okR y && (decide (p ≤ y.f0) && decide (q ≤ y.f1))) && goF y.f0 y.f1 r) = true := h
    simp only [Bool.and_eq_true] at h'
    rcases List.mem_cons.1 hx with e | e
    · rw [e]; exact h'.1.1
    · exact go_all h'.2 x e
theorem good_all {l : List R} (h : good l = true) : 1 ≤ l.length ∧ l.length ≤ 8 ∧ ∀ x ∈ l, okR x = true := by
  unfold good at h
  rw [Bool.and_eq_true] at h
  have := of_inB h.2
  exact ⟨by omega, by omega, go_all h.1⟩
theorem good_get {l : List R} (h : good l = true) {k : Nat} {x : R} (hk : k < l.length) (hx : l[k] = x) : okR x = true := (good_all h).2.2 x (by rw [← hx]; exact List.getElem_mem hk)
theorem getD_at {l : List R} {k : Nat} (h : k < l.length) : l.getD k zero = l[k] := by simp [List.getD, h]
/-- standing on a rung. -/
def st (x : R) (a b : Int) : Bool := inB (1000 * b) (x.f0 * (a + b)) (x.f1 * (a + b))
theorem prod_bd {x : R} {a b : Int} (h : okR x = true) (ho : okB a b = true) : 0 ≤ x.f0 * (a + b) ∧ x.f0 * (a + b) ≤ 2000000000 ∧ 0 ≤ x.f1 * (a + b) ∧ x.f1 * (a + b) ≤ 2000000000 := by
  obtain ⟨h0, h1, h2⟩ := okR_true h
  obtain ⟨a0, a1, b0, b1⟩ := okB_true ho
  have e0 : x.f0 * (a + b) ≤ 1000 * 2000000 := Int.mul_le_mul (by omega) (by omega) (by omega) (by omega)
  have e1 : x.f1 * (a + b) ≤ 1000 * 2000000 := Int.mul_le_mul (by omega) (by omega) (by omega) (by omega)
  exact ⟨Int.mul_nonneg h0 (by omega), by omega, Int.mul_nonneg (by omega) (by omega), by omega⟩
/-- the indices that are picked. -/
def pick (p : Nat → Bool) (n : Nat) : List Int := ((List.range n).filter p).map fun i : Nat => Int.ofNat i
theorem pick_zero (p : Nat → Bool) : pick p 0 = [] := rfl
theorem pick_yes {p : Nat → Bool} {k : Nat} (h : p k = true) : pick p (k + 1) = pick p k ++ [(k : Int)] := by
  unfold pick; rw [List.range_succ, List.filter_append, List.map_append]
  have e : [k].filter p = [k] := by simp [h]
  rw [e]; rfl
theorem pick_no {p : Nat → Bool} {k : Nat} (h : p k = false) : pick p (k + 1) = pick p k := by
  unfold pick; rw [List.range_succ, List.filter_append, List.map_append]
  have e : [k].filter p = [] := by simp [h]
  rw [e, List.map_nil, List.append_nil]
theorem pick_len (p : Nat → Bool) (n : Nat) : (pick p n).length ≤ n := by
  unfold pick; rw [List.length_map]; exact Nat.le_trans (List.length_filter_le _ _) (by simp)
theorem mem_pick {p : Nat → Bool} {n : Nat} {i : Int} : i ∈ pick p n ↔ ∃ k : Nat, k < n ∧ p k = true ∧ i = k := by
  unfold pick
  rw [List.mem_map]
  constructor
  · rintro ⟨k, hk, rfl⟩
    rw [List.mem_filter, List.mem_range] at hk
    exact ⟨k, hk.1, hk.2, rfl⟩
  · rintro ⟨k, h1, h2, rfl⟩
    exact ⟨k, List.mem_filter.2 ⟨List.mem_range.2 h1, h2⟩, rfl⟩
theorem pick_ext {p q : Nat → Bool} {n : Nat} (h : ∀ i, i < n → p i = q i) : pick p n = pick q n := by
  unfold pick; rw [List.filter_congr (fun i hi => h i (List.mem_range.1 hi))]
/-- RungsFor. -/
def onP (l : List R) (a b : Int) (k : Nat) : Bool := st (l.getD k zero) a b
def forOk (l : List R) (a b : Int) : Bool := good l && okB a b
def forL (l : List R) (a b : Int) : List Int := if forOk l a b = true then pick (onP l a b) l.length else []
theorem forL_no {l : List R} {a b : Int} (h : forOk l a b = false) : forL l a b = [] := by unfold forL; rw [h]; rfl
theorem forL_yes {l : List R} {a b : Int} (h : forOk l a b = true) : forL l a b = pick (onP l a b) l.length := by unfold forL; rw [if_pos h]
theorem for1 {l : List R} {a b : Int} (h : good l = false) : forOk l a b = false := by unfold forOk; rw [h]; rfl
theorem for2 {l : List R} {a b : Int} (h : okB a b = false) : forOk l a b = false := by unfold forOk; rw [h, Bool.and_false]
theorem for3 {l : List R} {a b : Int} (h : good l = true) (h1 : okB a b = true) : forOk l a b = true := by unfold forOk; rw [h, h1]; rfl
theorem onP_at {l : List R} {k : Nat} {x : R} (a b : Int) (hk : k < l.length) (hx : l[k] = x) : onP l a b k = st x a b := by unfold onP; rw [getD_at hk, hx]
/-- RoomOnRung, SunOnRung. -/
def asked (l : List R) (i a b : Int) : Bool := good l && (inB i 0 ((l.length : Int) - 1) && (okB a b && (decide (0 < a + b) && st (l.getD i.toNat zero) a b)))
theorem ask1 {l : List R} {i a b : Int} (h : good l = false) : asked l i a b = false := by unfold asked; rw [h]; rfl
theorem ask2 {l : List R} {i a b : Int} (h : inB i 0 ((l.length : Int) - 1) = false) : asked l i a b = false := by unfold asked; rw [h]; simp
theorem ask3 {l : List R} {i a b : Int} (h : okB a b = false) : asked l i a b = false := by unfold asked; rw [h]; simp
theorem ask4 {l : List R} {i a b : Int} (h : ¬ 0 < a + b) : asked l i a b = false := by unfold asked; rw [decide_eq_false h]; simp
theorem ask5 {l : List R} {i a b : Int} {x : R} {k : Nat} (e : i = k) (hk : k < l.length) (hx : l[k] = x) (h : st x a b = false) : asked l i a b = false := by
  unfold asked; subst e; rw [Int.toNat_natCast, getD_at hk, hx, h]; simp
theorem ask6 {l : List R} {i a b : Int} {x : R} {k : Nat} (e : i = k) (hk : k < l.length) (hx : l[k] = x) (h : good l = true) (h1 : inB i 0 ((l.length : Int) - 1) = true) (h2 : okB a b = true) (h3 : 0 < a + b) (h4 : st x a b = true) : asked l i a b = true := by
  unfold asked; rw [h, h1, h2, decide_eq_true h3]; subst e; rw [Int.toNat_natCast, getD_at hk, hx, h4]; rfl
theorem ask_parts {l : List R} {i a b : Int} (h : asked l i a b = true) : good l = true ∧ okB a b = true ∧ 0 < a + b ∧ ∃ (k : Nat) (x : R) (hk : k < l.length), i = k ∧ l[k] = x ∧ okR x = true ∧ st x a b = true ∧ l.getD i.toNat zero = x := by
  unfold asked at h
  simp only [Bool.and_eq_true] at h
  obtain ⟨h0, h1, h2, h3, h4⟩ := h
  have h5 := of_inB h1
  obtain ⟨k, hk⟩ : ∃ k : Nat, i = k := ⟨i.toNat, by omega⟩
  subst hk
  have hl : k < l.length := by omega
  rw [Int.toNat_natCast, getD_at hl] at h4
  exact ⟨h0, h2, of_decide_eq_true h3, k, l[k], hl, rfl, rfl, good_get h0 hl rfl, h4, by rw [Int.toNat_natCast, getD_at hl]⟩
def roomI (x : R) (a b : Int) : Int := if 0 < x.f0 then least (1000000 - a) (1000 * b / x.f0 - (a + b)) else 1000000 - a
def roomV (l : List R) (i a b : Int) : Value := if asked l i a b = true then .tuple #[.int .i64 (roomI (l.getD i.toNat zero) a b), .bool true] else .tuple #[.int .i64 0, .bool false]
theorem room_no {l : List R} {i a b : Int} (h : asked l i a b = false) : roomV l i a b = .tuple #[.int .i64 0, .bool false] := by unfold roomV; rw [h]; rfl
theorem room_yes {l : List R} {i a b : Int} {x : R} (h : asked l i a b = true) (hx : l.getD i.toNat zero = x) : roomV l i a b = .tuple #[.int .i64 (roomI x a b), .bool true] := by unfold roomV; rw [if_pos h, hx]
theorem room_form (l : List R) (i a b : Int) : ∃ x q, roomV l i a b = .tuple #[.int .i64 x, .bool q] := by
  unfold roomV
  split
  · exact ⟨_, _, rfl⟩
  · exact ⟨_, _, rfl⟩
def sunI (x : R) (a b : Int) : Int := if b = 0 then a else a + b - (1000 * b + x.f1 - 1) / x.f1
def sunV (l : List R) (i a b : Int) : Value := if asked l i a b = true then .tuple #[.int .i64 (sunI (l.getD i.toNat zero) a b), .bool true] else .tuple #[.int .i64 0, .bool false]
theorem sun_no {l : List R} {i a b : Int} (h : asked l i a b = false) : sunV l i a b = .tuple #[.int .i64 0, .bool false] := by unfold sunV; rw [h]; rfl
theorem sun_yes {l : List R} {i a b : Int} {x : R} (h : asked l i a b = true) (hx : l.getD i.toNat zero = x) : sunV l i a b = .tuple #[.int .i64 (sunI x a b), .bool true] := by unfold sunV; rw [if_pos h, hx]
theorem sun_form (l : List R) (i a b : Int) : ∃ x q, sunV l i a b = .tuple #[.int .i64 x, .bool q] := by
  unfold sunV
  split
  · exact ⟨_, _, rfl⟩
  · exact ⟨_, _, rfl⟩
/-- with Salt the High of the rung is not 0. -/
theorem high_pos {x : R} {a b : Int} (ho : okB a b = true) (h : st x a b = true) (hb : ¬ b = 0) (hx : okR x = true) : 1 ≤ x.f1 := by
  obtain ⟨h0, h1, h2⟩ := okR_true hx
  obtain ⟨a0, a1, b0, b1⟩ := okB_true ho
  have h3 := of_inB h
  rcases Int.lt_or_le 0 x.f1 with h4 | h4
  · omega
  · have e : x.f1 = 0 := by omega
    rw [e, Int.zero_mul] at h3
    omega
theorem up_bd {b n : Int} (hb : 0 ≤ b) (hb1 : b ≤ 1000000) (hn : 1 ≤ n) (hn1 : n ≤ 1000) : b ≤ (1000 * b + n - 1) / n ∧ (1000 * b + n - 1) / n ≤ 1000000999 := by
  constructor
  · rw [Int.le_ediv_iff_mul_le (by omega)]
    have : b * n ≤ b * 1000 := Int.mul_le_mul_of_nonneg_left hn1 hb
    omega
  · exact Int.le_trans (Int.ediv_le_self _ (by omega)) (by omega)
theorem sun_least {x : R} {a b : Int} (ho : okB a b = true) (h : st x a b = true) (hb : ¬ b = 0) (hx : okR x = true) : least a (a + b - (1000 * b + x.f1 - 1) / x.f1) = sunI x a b := by
  obtain ⟨a0, a1, b0, b1⟩ := okB_true ho
  have h1 := high_pos ho h hb hx
  have h2 := up_bd b0 b1 h1 (okR_true hx).2.2
  unfold sunI
  rw [if_neg hb]
  unfold least
  split <;> omega
/-- a list told by its index. -/
def tell (m : Nat) (f : Nat → R) : List R := (List.range m).map f
theorem tell_len (m : Nat) (f : Nat → R) : (tell m f).length = m := by simp [tell]
theorem tell_get {m : Nat} {f : Nat → R} {k : Nat} (h : k < (tell m f).length) : (tell m f)[k] = f k := by simp [tell]
theorem tell_ext {m : Nat} {f : Nat → R} {l : List R} (hl : l.length = m) (h : ∀ k (hk : k < l.length), l[k] = f k) : l = tell m f := by
  refine List.ext_getElem (by rw [hl, tell_len]) fun i h1 h2 => ?_
  rw [tell_get, h i h1]
theorem tell_snoc (m : Nat) (f : Nat → R) : tell m f ++ [f m] = tell (m + 1) f := by unfold tell; rw [List.range_succ, List.map_append]; rfl
theorem tell_zero (f : Nat → R) : tell 0 f = [] := rfl
/-- a made list whose first k are set. -/
def part' (m : Nat) (f : Nat → R) (k : Nat) : List R := tell m fun i => if i < k then f i else zero
theorem part_zero' (m : Nat) (f : Nat → R) : List.replicate m zero = part' m f 0 := tell_ext (by simp) fun k hk => by simp
theorem part_set' {m : Nat} (f : Nat → R) {k : Nat} (hk : k < m) : (part' m f k).set k (f k) = part' m f (k + 1) := by
  refine tell_ext (by rw [List.length_set]; exact tell_len _ _) fun i hi => ?_
  rw [List.length_set] at hi
  rw [List.getElem_set]
  split
  · rename_i e; subst e; rw [if_pos (by omega)]
  · rename_i e
    refine (tell_get _).trans ?_
    by_cases h1 : i < k
    · rw [if_pos h1, if_pos (by omega)]
    · rw [if_neg h1, if_neg (by omega)]
theorem part_all' {m k : Nat} (f : Nat → R) (h : m ≤ k) : part' m f k = tell m f := tell_ext (tell_len _ _) fun i hi => by
  have hi2 : i < m := by unfold part' at hi; rwa [tell_len] at hi
  exact (tell_get hi).trans (if_pos (by omega))
theorem part_len' (m : Nat) (f : Nat → R) (k : Nat) : (part' m f k).length = m := tell_len _ _
/-- JoinLadders. -/
def jn (x y : R) : R := ⟨most x.f0 y.f0, least x.f1 y.f1⟩
def jAt (l m : List R) (i : Nat) : R := jn (l.getD i zero) (m.getD i zero)
def jl (l m : List R) : List R := tell l.length (jAt l m)
def joinOk (l m : List R) : Bool := good l && (good m && (decide (l.length = m.length) && good (jl l m)))
def joinL (l m : List R) : List R := if joinOk l m = true then jl l m else []
theorem join1 {l m : List R} (h : good l = false) : joinOk l m = false := by unfold joinOk; rw [h]; rfl
theorem join2 {l m : List R} (h : good m = false) : joinOk l m = false := by unfold joinOk; rw [h]; simp
theorem join3 {l m : List R} (h : ¬ l.length = m.length) : joinOk l m = false := by unfold joinOk; rw [decide_eq_false h]; simp
theorem join4 {l m : List R} (h : good (jl l m) = false) : joinOk l m = false := by unfold joinOk; rw [h]; simp
theorem join5 {l m : List R} (h : good l = true) (h1 : good m = true) (h2 : l.length = m.length) (h3 : good (jl l m) = true) : joinOk l m = true := by unfold joinOk; rw [h, h1, decide_eq_true h2, h3]; rfl
theorem joinL_no {l m : List R} (h : joinOk l m = false) : joinL l m = [] := by unfold joinL; rw [h]; rfl
theorem joinL_yes {l m : List R} (h : joinOk l m = true) : joinL l m = jl l m := by unfold joinL; rw [if_pos h]
theorem jAt_at {l m : List R} {k : Nat} {x y : R} (hk : k < l.length) (hx : l[k] = x) (hk2 : k < m.length) (hy : m[k] = y) : jAt l m k = ⟨most x.f0 y.f0, least x.f1 y.f1⟩ := by unfold jAt; rw [getD_at hk, getD_at hk2, hx, hy]; rfl
theorem jl_len (l m : List R) : (jl l m).length = l.length := tell_len _ _
/-- WidestRung. -/
def wd (x : R) : Int := x.f1 - x.f0
def wid (l : List R) : Nat → Nat
  | 0 => 0
  | k + 1 => if wd (l.getD k zero) > wd (l.getD (wid l k) zero) then k else wid l k
theorem wid_lt {l : List R} : ∀ {k : Nat}, 0 < l.length → k ≤ l.length → wid l k < l.length
  | 0, h, _ => h
  | k + 1, h, hk => by
    show (if _ then _ else _) < _
    split
    · omega
    · exact wid_lt h (by omega)
theorem wid_one (l : List R) : wid l 1 = 0 := by
  show (if _ then _ else _) = _
  split <;> rfl
theorem wid_new {l : List R} {k : Nat} {x y : R} (hk : k < l.length) (hx : l[k] = x) (hj : wid l k < l.length) (hy : l[wid l k] = y) (h : wd x > wd y) : wid l (k + 1) = k := by
  show (if _ then _ else _) = _
  rw [getD_at hk, getD_at hj, hx, hy, if_pos h]
theorem wid_old {l : List R} {k : Nat} {x y : R} (hk : k < l.length) (hx : l[k] = x) (hj : wid l k < l.length) (hy : l[wid l k] = y) (h : ¬ wd x > wd y) : wid l (k + 1) = wid l k := by
  show (if _ then _ else _) = _
  rw [getD_at hk, getD_at hj, hx, hy, if_neg h]
def widV (l : List R) : Value := if good l = true then .tuple #[.int .i64 (wid l l.length : Int), .bool true] else .tuple #[.int .i64 0, .bool false]
theorem wid_no {l : List R} (h : good l = false) : widV l = .tuple #[.int .i64 0, .bool false] := by unfold widV; rw [h]; rfl
theorem wid_yes {l : List R} {k n : Nat} (h : good l = true) (hk : k = l.length) (hn : wid l k = n) : widV l = .tuple #[.int .i64 (n : Int), .bool true] := by unfold widV; rw [if_pos h, ← hk, hn]
theorem wid_form (l : List R) : ∃ x q, widV l = .tuple #[.int .i64 x, .bool q] := by
  unfold widV
  split
  · exact ⟨_, _, rfl⟩
  · exact ⟨_, _, rfl⟩
/-- EvenLadder. -/
def evOk (n lo hi : Int) : Bool := inB n 1 8 && okR ⟨lo, hi⟩
def evE (n lo hi : Int) (i : Nat) : Int := lo + (hi - lo) * i / n
def evR (n lo hi : Int) (i : Nat) : R := ⟨evE n lo hi i, evE n lo hi (i + 1)⟩
def evenL (n lo hi : Int) : List R := if evOk n lo hi = true then tell n.toNat (evR n lo hi) else []
theorem ev1 {n lo hi : Int} (h : inB n 1 8 = false) : evOk n lo hi = false := by unfold evOk; rw [h]; rfl
theorem ev2 {n lo hi : Int} (h : okR ⟨lo, hi⟩ = false) : evOk n lo hi = false := by unfold evOk; rw [h, Bool.and_false]
theorem ev3 {n lo hi : Int} (h : inB n 1 8 = true) (h1 : okR ⟨lo, hi⟩ = true) : evOk n lo hi = true := by unfold evOk; rw [h, h1]; rfl
theorem evenL_no {n lo hi : Int} (h : evOk n lo hi = false) : evenL n lo hi = [] := by unfold evenL; rw [h]; rfl
theorem evenL_yes {n lo hi : Int} {m : Nat} (h : evOk n lo hi = true) (hn : n = m) : evenL n lo hi = tell m (evR n lo hi) := by unfold evenL; rw [if_pos h, hn, Int.toNat_natCast]
theorem ev_prod {n lo hi : Int} {i : Nat} (h : evOk n lo hi = true) (hi9 : i ≤ 9) : 0 ≤ (hi - lo) * i ∧ (hi - lo) * i ≤ 9000 := by
  unfold evOk at h
  rw [Bool.and_eq_true] at h
  have hh : 0 ≤ lo ∧ lo ≤ hi ∧ hi ≤ 1000 := okR_true h.2
  obtain ⟨h0, h1, h2⟩ := hh
  have e1 : (hi - lo) * i ≤ 1000 * 9 := Int.mul_le_mul (by omega) (by omega) (by omega) (by omega)
  exact ⟨Int.mul_nonneg (by omega) (by omega), by omega⟩
theorem ev_parts {n lo hi : Int} (h : evOk n lo hi = true) : 1 ≤ n ∧ n ≤ 8 ∧ 0 ≤ lo ∧ lo ≤ hi ∧ hi ≤ 1000 := by
  unfold evOk at h
  rw [Bool.and_eq_true] at h
  have hh : 0 ≤ lo ∧ lo ≤ hi ∧ hi ≤ 1000 := okR_true h.2
  have := of_inB h.1
  exact ⟨by omega, by omega, hh.1, hh.2.1, hh.2.2⟩
theorem ev_bd {n lo hi : Int} {i : Nat} (h : evOk n lo hi = true) (hi9 : i ≤ 9) : 0 ≤ (hi - lo) * i / n ∧ (hi - lo) * i / n ≤ 9000 := by
  obtain ⟨h0, h1⟩ := ev_prod h hi9
  obtain ⟨n1, _, _, _, _⟩ := ev_parts h
  exact ⟨Int.ediv_nonneg h0 (by omega), Int.le_trans (Int.ediv_le_self _ h0) h1⟩
/-- OffRungs, DoesKeep. -/
def both (l : List R) (s : List SBasin.R) (g : Bool) : Bool := good l && (g && decide (l.length = s.length))
end Go.Proofs.Ytngominkeammiaa.LadP
