/- What falls out, pure; two rows that grow beside one another. My own. -/
import Derived.Test.YthilbpklmjpmcaaLiqP
import Derived.Test.YthilbpklmjpmcaaNest
namespace Go.Proofs.Ythilbpklmjpmcaa.FallP
open Go.RowKit Go.Proofs.Ythilbpklmjpmcaa.Mem Go.Proofs.Ythilbpklmjpmcaa.Base Go.Proofs.Ythilbpklmjpmcaa.SInt Go.Proofs.Ythilbpklmjpmcaa.Boxes Go.Proofs.Ythilbpklmjpmcaa.Keep Go.Proofs.Ythilbpklmjpmcaa.Nest Go.Proofs.Ythilbpklmjpmcaa.KindP Go.Proofs.Ythilbpklmjpmcaa.LiqP
set_option linter.unusedVariables false
/-- how much of a kind falls out. -/
def fallI (kw g sl wt : Int) : Int := if 0 < kw then least (most 0 (sl - keepI g wt)) ((10 * wt + 9) / kw) else most 0 (sl - keepI g wt)
theorem fall_zero {g sl wt : Int} : fallI 0 g sl wt = most 0 (sl - keepI g wt) := rfl
theorem fall_pos {kw g sl wt : Int} (h : 0 < kw) : fallI kw g sl wt = least (most 0 (sl - keepI g wt)) ((10 * wt + 9) / kw) := by unfold fallI; rw [if_pos h]
theorem most_range (a : Int) : 0 ≤ most 0 a ∧ (most 0 a = 0 ∨ most 0 a = a) := by unfold most; split <;> omega
theorem fall_range {kw g sl wt : Int} (hk : 0 ≤ kw) (hg : 1 ≤ g) (hg1 : g ≤ 1000) (hs : 0 ≤ sl) (hw : 0 ≤ wt) (hw1 : wt ≤ 1000000) :
    0 ≤ fallI kw g sl wt ∧ fallI kw g sl wt ≤ sl ∧ fallI kw g sl wt * kw / 10 ≤ wt ∧ 0 ≤ fallI kw g sl wt * kw := by
  have h1 := (keep_range (show 0 ≤ g by omega) hg1 hw hw1).2
  obtain ⟨m0, m1⟩ := most_range (sl - keepI g wt)
  have m2 : most 0 (sl - keepI g wt) ≤ sl := by omega
  rcases Int.lt_or_le 0 kw with h | h
  · rw [fall_pos h]
    have d0 : 0 ≤ (10 * wt + 9) / kw := Int.ediv_nonneg (by omega) hk
    have d1 : (10 * wt + 9) / kw * kw ≤ 10 * wt + 9 := Int.ediv_mul_le _ (by omega)
    generalize (10 * wt + 9) / kw = q at d0 d1
    generalize most 0 (sl - keepI g wt) = m at m0 m1 m2
    have l0 : 0 ≤ least m q := by unfold least; split <;> omega
    have l1 : least m q ≤ m ∧ least m q ≤ q := by unfold least; split <;> omega
    have p0 := Int.mul_nonneg l0 hk
    have p1 : least m q * kw ≤ q * kw := Int.mul_le_mul_of_nonneg_right l1.2 hk
    omega
  · have e : kw = 0 := by omega
    subst e
    rw [fall_zero, Int.mul_zero]
    omega
/-- the water behind the first k kinds; what falls of kind k. -/
def fallAt (l : List SKind.R) (s : List Int) (k : Nat) (wt : Int) : Int := fallI (atK l k).f1 (atK l k).f2 (at0 s k) wt
def fw (l : List SKind.R) (s : List Int) (wt : Int) : Nat → Int
  | 0 => wt
  | k + 1 => fw l s wt k - fallAt l s k (fw l s wt k) * (atK l k).f1 / 10
def fn (l : List SKind.R) (s : List Int) (wt : Int) (k : Nat) : Int := fallAt l s k (fw l s wt k)
def goneL (l : List SKind.R) (s : List Int) (wt : Int) (k : Nat) : List Int := (List.range k).map (fn l s wt)
def stayL (l : List SKind.R) (s : List Int) (wt : Int) (k : Nat) : List Int := (List.range k).map fun j => at0 s j - fn l s wt j
theorem gone_len (l : List SKind.R) (s : List Int) (wt : Int) (k : Nat) : (goneL l s wt k).length = k := by simp [goneL]
theorem stay_len (l : List SKind.R) (s : List Int) (wt : Int) (k : Nat) : (stayL l s wt k).length = k := by simp [stayL]
theorem gone_succ (l : List SKind.R) (s : List Int) (wt : Int) (k : Nat) : goneL l s wt (k + 1) = goneL l s wt k ++ [fn l s wt k] := by simp [goneL, List.range_succ]
theorem stay_succ (l : List SKind.R) (s : List Int) (wt : Int) (k : Nat) : stayL l s wt (k + 1) = stayL l s wt k ++ [at0 s k - fn l s wt k] := by simp [stayL, List.range_succ]
theorem gone_get (l : List SKind.R) (s : List Int) (wt : Int) (n k : Nat) (h : k < (goneL l s wt n).length) : (goneL l s wt n)[k] = fn l s wt k := by simp [goneL]
theorem stay_get (l : List SKind.R) (s : List Int) (wt : Int) (n k : Nat) (h : k < (stayL l s wt n).length) : (stayL l s wt n)[k] = at0 s k - fn l s wt k := by simp [stayL]
theorem fw_succ (l : List SKind.R) (s : List Int) (wt : Int) (k : Nat) : fw l s wt (k + 1) = fw l s wt k - fn l s wt k * (atK l k).f1 / 10 := rfl
/-- kinds and salts alone. -/
structure VldS (l : List SKind.R) (s : List Int) : Prop where
  good : goodK l = true
  len : s.length = l.length
  salt : ∀ (k : Nat) (h : k < s.length), 0 ≤ s[k] ∧ s[k] ≤ 1000000
theorem vlds {l : List SKind.R} {wt : Int} {s : List Int} (h : Vld l wt s) : VldS l s := ⟨h.good, h.len, h.salt⟩
theorem fn_range {l : List SKind.R} {s : List Int} {w0 w : Int} (V : VldS l s) {k : Nat} (hk : k < l.length) (h0 : 0 ≤ w) (h1 : w ≤ 1000000) :
    0 ≤ fallAt l s k w ∧ fallAt l s k w ≤ at0 s k ∧ fallAt l s k w * (atK l k).f1 / 10 ≤ w ∧ 0 ≤ fallAt l s k w * (atK l k).f1 := by
  have hs : k < s.length := by rw [V.len]; exact hk
  have hk2 := kind_of (good_kind V.good hk)
  have hs2 := V.salt k hs
  unfold fallAt
  rw [atK_eq hk, at0_eq hs]
  exact fall_range hk2.1.1 hk2.2.1 hk2.2.2 hs2.1 h0 h1
theorem fw_range {l : List SKind.R} {s : List Int} {wt : Int} (V : VldS l s) (h0 : 0 ≤ wt) (h1 : wt ≤ 1000000) (k : Nat) (hk : k ≤ l.length) : 0 ≤ fw l s wt k ∧ fw l s wt k ≤ 1000000 := by
  induction k with
  | zero => exact ⟨h0, h1⟩
  | succ k ih =>
    obtain ⟨a, b⟩ := ih (by omega)
    obtain ⟨_, _, c, d⟩ := fn_range (w0 := wt) V (show k < l.length by omega) a b
    rw [fw_succ]
    unfold fn
    omega
/-- Two rows in blocks of their own, apart from one another and from the blocks gs. -/
structure Two (w : World) (lo : Nat) (gs : List Nat) (r1 r2 : Row) : Prop where
  a : RowOwn w lo r1
  b : RowOwn w lo r2
  ne : ∀ k, r1.blk = some k → r2.blk ≠ some k
  fa : ∀ k, r1.blk = some k → k ∉ gs
  fb : ∀ k, r2.blk = some k → k ∉ gs
theorem Two.swap {w : World} {lo : Nat} {gs : List Nat} {r1 r2 : Row} (h : Two w lo gs r1 r2) : Two w lo gs r2 r1 := ⟨h.b, h.a, fun k hk e => h.ne k e hk, h.fb, h.fa⟩
theorem Two.keep {w w' : World} {lo : Nat} {gs : List Nat} {r1 r2 : Row} (h : Two w lo gs r1 r2) (hb : Below w.heap.size w w') : Two w' lo gs r1 r2 := ⟨h.a.keep hb, h.b.keep hb, h.ne, h.fa, h.fb⟩
theorem two_keep {w w' : World} {lo : Nat} {gs : List Nat} {r1 r2 : Row} (h : Two w lo gs r1 r2) (hb : Below w.heap.size w w') : Two w' lo gs r1 r2 := h.keep hb
theorem Two.base {w : World} {lo lo' : Nat} {gs : List Nat} {r1 r2 : Row} (h : Two w lo gs r1 r2) (hl : lo' ≤ lo) : Two w lo' gs r1 r2 := ⟨h.a.base hl, h.b.base hl, h.ne, h.fa, h.fb⟩
theorem Two.sub {w : World} {lo : Nat} {gs gs' : List Nat} {r1 r2 : Row} (h : Two w lo gs r1 r2) (hs : ∀ g ∈ gs', g ∈ gs) : Two w lo gs' r1 r2 := ⟨h.a, h.b, h.ne, fun k hk hm => h.fa k hk (hs k hm), fun k hk hm => h.fb k hk (hs k hm)⟩
theorem Two.set {w : World} {lo : Nat} {gs : List Nat} {r1 r2 : Row} (h : Two w lo gs r1 r2) {g : Nat} (hg : g ∈ gs) (i : Nat) (v : Value) : Two (w.setCell ⟨g, i, none⟩ v) lo gs r1 r2 :=
  ⟨h.a.congr fun k hk => Below.heap_setCell w ⟨g, i, none⟩ v k (fun e => h.fa k hk (by have e2 : k = g := e; rw [e2]; exact hg)),
   h.b.congr fun k hk => Below.heap_setCell w ⟨g, i, none⟩ v k (fun e => h.fb k hk (by have e2 : k = g := e; rw [e2]; exact hg)), h.ne, h.fa, h.fb⟩
theorem Two.app1 {w u : World} {lo : Nat} {gs : List Nat} {r1 r2 : Row} (h : Two w lo gs r1 r2) {o : Obj} {g9 d9 : Nat} {ls : List Int} (hgs : ∀ g ∈ gs, g < w.heap.size)
    (hown : RowOwn u lo ⟨some ⟨g9, 0, none⟩, d9, ls⟩) (hg : (w.alloc o).grownBy u r1.blk) (hat : r1.blk = some g9 ∨ g9 = (w.alloc o).heap.size) : Two u lo gs ⟨some ⟨g9, 0, none⟩, d9, ls⟩ r2 := by
  have hb : ∀ k, (⟨some ⟨g9, 0, none⟩, d9, ls⟩ : Row).blk = some k → k = g9 := fun k hk => by
    have e : g9 = k := by simpa [Row.blk, Row.val, Value.ownBlock] using hk
    exact e.symm
  refine ⟨hown, h.b.congr fun k hk => ?_, fun k hk e => ?_, fun k hk hm => ?_, h.fb⟩
  · have hlt := (h.b.lt k hk).2
    rw [hg.block k (by rw [size_alloc']; omega) (fun e => h.ne k e.symm hk)]
    exact (al (Below.refl w.heap.size w) (o := o)).block k hlt
  · rw [hb k hk] at e
    rcases hat with h1 | h1
    · exact h.ne g9 h1 e
    · have := (h.b.lt g9 e).2
      rw [size_alloc'] at h1; omega
  · rw [hb k hk] at hm
    rcases hat with h1 | h1
    · exact h.fa g9 h1 hm
    · have := hgs g9 hm
      rw [size_alloc'] at h1; omega
/-- a box beside a row that grows. -/
theorem box_app {w W u : World} {g : Nat} {cs : List Value} (X : Box g cs w W) {lo : Nat} {gs : List Nat} {r1 r2 : Row} (h : Two W lo gs r1 r2) (hl : w.heap.size ≤ lo) (hm : g ∈ gs) {o : Obj} (hg : (W.alloc o).grownBy u r1.blk) : Box g cs w u :=
  box_grown (X.alloc o) hg fun k hk => ⟨fun e => h.fa k hk (by rw [e]; exact hm), by have := (h.a.lt k hk).1; omega⟩
theorem box_app2 {w W u : World} {g : Nat} {cs : List Value} (X : Box g cs w W) {lo : Nat} {gs : List Nat} {r1 r2 : Row} (h : Two W lo gs r1 r2) (hl : w.heap.size ≤ lo) (hm : g ∈ gs) {o : Obj} (hg : (W.alloc o).grownBy u r2.blk) : Box g cs w u :=
  box_app X h.swap hl hm hg
end Go.Proofs.Ythilbpklmjpmcaa.FallP
