/- Dry spans: the program's iterator, what it hands on. -/
import Derived.TacticsIn
import Derived.RegionIn
import Derived.Shelf.RegionOpen
import Derived.RangeFuncBox
import Derived.RangeFuncLeaves
import Derived.OwnWalkIn
import Derived.TacticsInMore
import Derived.LoopNIn
import Derived.LoopIn
import Derived.Maps.AppendAt
import Derived.Test.YtpbmncecejchjaaSeqLaw2
import Derived.Test.YtpbmncecejchjaaDryS
namespace Go.Proofs.Ytpbmncecejchjaa.DryI
open Go Go.RowKit Go.Proofs.Ytpbmncecejchjaa.Mem Go.Proofs.Ytpbmncecejchjaa.Base Go.Proofs.Ytpbmncecejchjaa.Within Go.Proofs.Ytpbmncecejchjaa.Keep Go.Proofs.Ytpbmncecejchjaa.Shw Go.Proofs.Ytpbmncecejchjaa.ShwS Go.Proofs.Ytpbmncecejchjaa.Dry Go.Proofs.Ytpbmncecejchjaa.DryS Go.Proofs.Ytpbmncecejchjaa.SeqLaw2
open Go.Proofs.Ytpbmncecejchjaa.SShower (flat flat_n flat_0)
set_option linter.unusedVariables false
attribute [local go_sem] Oper.semAt_some
/-- the receiver, by value. -/
def recv (P : Option Addr) (n cap : Nat) (f t : Int) : Value := .agg #[.slice P n cap, .int .i64 f, .int .i64 t]
def vals (L : List Q) : List Value := L.map SPair.R.val
/-- what a round leaves alone: what lay below B, and blocks of showers and of receivers. -/
structure KpB (B : Nat) (U V : World) : Prop where
  size : U.heap.size ≤ V.heap.size
  low : ∀ k : Nat, k < B → V.heap[k]? = U.heap[k]?
  typed : ∀ (k : Nat) (c : Array Value) (T : TypeId), U.heap[k]? = some (.cells c T (0, 0)) → (T = 54 ∨ T = 121) → V.heap[k]? = some (.cells c T (0, 0))
theorem KpB.refl (B : Nat) (U : World) : KpB B U U := ⟨Nat.le_refl _, fun _ _ => rfl, fun _ _ _ h _ => h⟩
theorem KpB.trans {B : Nat} {X Y Z : World} (h : KpB B X Y) (k : KpB B Y Z) : KpB B X Z := ⟨Nat.le_trans h.size k.size, fun i hi => (k.low i hi).trans (h.low i hi), fun i c T hc hT => k.typed i c T (h.typed i c T hc hT) hT⟩
theorem KpB.alloc (B : Nat) (U : World) (o : Obj) (hB : B ≤ U.heap.size) : KpB B U (U.alloc o) :=
  ⟨by rw [World.size_alloc]; omega, fun k hk => Below.heap_alloc U o k (by omega), fun k c T hc _ => (Below.heap_alloc U o k (Array.getElem?_eq_some_iff.1 hc).1).trans hc⟩
theorem KpB.put (B : Nat) (U : World) (l : Nat) (o o' : Obj) (hB : B ≤ l) (hl : U.heap[l]? = some o) (ho : o.isCells = false) : KpB B U (U.putObj l o') :=
  ⟨(grownBy_putObj' U l o').size, fun k hk => World.putObj_heap_other (by omega), fun k c T hc _ => by
    have : k ≠ l := by rintro rfl; rw [hl] at hc; cases hc; cases ho
    exact (World.putObj_heap_other this).trans hc⟩
theorem rd_kp {B : Nat} {P : Option Addr} {xs : List Value} {U V : World} (h : Rd U B P xs) (k : KpB B U V) : Rd V B P xs :=
  h.keep fun b o hb => by simp only [World.cell?, k.low b hb]
/-- The receiver's box, and a shower's. -/
theorem box_cell {W : World} {g : Nat} {c : Array Value} {T : TypeId} (h : W.heap[g]? = some (.cells c T (0, 0))) (i : Nat) (v : Value) (hv : c[i]? = some v) : W.cell? ⟨g, i, none⟩ = some v := by
  simp [World.cell?, h, hv]
def recvB (P : Option Addr) (n cap : Nat) (f t : Int) : Obj := .cells #[.slice P n cap, .int .i64 f, .int .i64 t] 121 (0, 0)
/-- between two showers of the loop, k of them met, the next span begins at g. -/
structure St (P : Option Addr) (cap : Nat) (l : List R) (f t : Int) (B g0 : Nat) (k : Nat) (wr : World) : Prop where
  box : wr.heap[g0]? = some (recvB P l.length cap f t)
  rd : Rd wr B P (flat l)
  low : B ≤ wr.heap.size
theorem St.kp {P : Option Addr} {cap : Nat} {l : List R} {f t : Int} {B g0 k k' : Nat} {U V : World} (h : St P cap l f t B g0 k U) (K : KpB B U V) : St P cap l f t B g0 k' V :=
  ⟨K.typed _ _ _ h.box (.inr rfl), rd_kp h.rd K, Nat.le_trans h.low K.size⟩
theorem St.cells {P : Option Addr} {cap : Nat} {l : List R} {f t : Int} {B g0 k : Nat} {U : World} (h : St P cap l f t B g0 k U) :
    U.cell? ⟨g0, 0, none⟩ = some (.slice P l.length cap) ∧ U.cell? ⟨g0, 1, none⟩ = some (.int .i64 f) ∧ U.cell? ⟨g0, 2, none⟩ = some (.int .i64 t) :=
  ⟨box_cell h.box 0 _ rfl, box_cell h.box 1 _ rfl, box_cell h.box 2 _ rfl⟩
theorem vals_next {l : List R} {f t g : Int} {k : Nat} {L : List Q} {x : R} (h : Inv l f t k g L) (hk : k < l.length) (hx : l[k] = x) (hi : inB x.f0 g t = true) (hg : g < x.f0) : (vals (spans l f t))[L.length]? = some (.agg #[.int .i64 g, .int .i64 (x.f0 - 1)]) := by
  have := h.all; rw [spans_gap hk hx hi hg] at this
  rw [← this]; simp [vals, SPair.R.val]
theorem vals_last {l : List R} {f t g : Int} {k : Nat} {L : List Q} (h : Inv l f t k g L) (hk : l.length ≤ k) (hg : g ≤ t) : (vals (spans l f t))[L.length]? = some (.agg #[.int .i64 g, .int .i64 t]) ∧ (vals (spans l f t)).length = L.length + 1 := by
  have := h.last hk hg
  rw [← this]; simp [vals, SPair.R.val]

set_option maxRecDepth 100000 in
set_option maxHeartbeats 2000000 in
theorem hands (n : Nat) (hn : 1 ≤ n) (P : Option Addr) (cap : Nat) (l : List R) (f t : Int) (hf0 : 0 ≤ f) (hf1 : f ≤ 4000) (ht1 : t ≤ 4000) (hs : Sane l) (B : Nat) (w : World) (hr : Rd w B P (flat l)) (hB : B ≤ w.heap.size) :
    Hands Fence.wide n Try.prog 100 #[recv P l.length cap f t] #[] (vals (spans l f t)) (KpB B) w := by
  intro l0 J W hK hJ hY h0
  have HR := Lib.hid (rd_kp hr hK); clear hr
  have HS := Lib.hid hs
  have hn20 := hs.1; clear hs
  refine callsIn_of_wp Try.func100 rfl trivial ?_ rfl
  simp only [Try.ntmps100, List.size_toArray, List.length_cons, List.length_nil, Nat.reduceAdd, Nat.reduceSub, Array.replicate_succ, Array.replicate_zero, List.push_toArray, List.append_toArray, List.nil_append, List.cons_append, recv]
  have hBW : B ≤ W.heap.size := Nat.le_trans hB hK.size
  obtain ⟨g0, hg0⟩ : ∃ g0, W.heap.size = g0 := ⟨_, rfl⟩
  have S0 : St P cap l f t B g0 0 (W.alloc (recvB P l.length cap f t)) := ⟨by rw [← hg0]; exact World.alloc_heap_new W _, rd_kp HR.out (KpB.alloc _ _ _ hBW), by rw [World.size_alloc]; omega⟩
  have J0 := hJ _ _ _ h0 (World.grownBy_alloc W (recvB P l.length cap f t) none)
  have HSJ := Lib.hid (And.intro S0 J0); clear S0 J0 h0 hK hBW HR
  unfold recvB at HSJ
  gi_wp2
  obtain ⟨S0, J0⟩ := HSJ.out
  clear HSJ
  try simp only [hg0]
  gi_loopw [4, 12] (fun fv i wr => ∃ (k : Nat) (g : Int) (L : List Q), k ≤ l.length ∧ i = .int .i64 k ∧ fv = .int .i64 g ∧ Hid (Inv l f t k g L) ∧ Hid (St P cap l f t B g0 k wr) ∧ Hid (J L.length wr)) (fun _ i _ => l.length - (intOf i).toNat)
  case atStart => exact ⟨0, f, [], Nat.zero_le _, rfl, rfl, Lib.hid (Inv.start l hf0 (by omega)), Lib.hid S0, Lib.hid J0⟩
  case round =>
    clear S0 J0
    obtain ⟨k, g, L, hk, rfl, rfl, HV, HST, HJ⟩ := hrel
    have hg0' := HV.out.g0
    have hg1' := HV.out.g1
    by_cases hlt : k < l.length
    · obtain ⟨b', o, rfl, hb, hc⟩ := HST.out.rd.at (k := k * 2) (by rw [flat_n]; omega)
      obtain ⟨x, hx⟩ : ∃ x, l[k] = x := ⟨_, rfl⟩
      have e0 : wr.cell? ⟨b', o + k * 2, none⟩ = some (.int .i64 x.f0) := by rw [← hx]; exact hc _ _ (flat_0 l k hlt)
      have e1 : wr.cell? ⟨b', o + k * 2 + 1, none⟩ = some (.int .i64 x.f1) := by rw [← hx]; exact hc _ _ (SShower.flat_1 l k hlt)
      have HL := Lib.hid hlt
      obtain ⟨x0, x1, _, _⟩ := HS.out.get hlt hx
      have HX := Lib.hid hx; clear hx hc
      have K1 : KpB B wr (wr.alloc (.cells #[.int .i64 x.f0, .int .i64 x.f1] 54)) := KpB.alloc _ _ _ HST.out.low
      have HS1 := Lib.hid (HST.out.kp K1 (k' := k))
      have HJ1 := Lib.hid (hJ _ _ _ HJ.out (World.grownBy_alloc wr (.cells #[.int .i64 x.f0, .int .i64 x.f1] 54) none))
      have HB1 := Lib.hid (World.alloc_heap_new wr (.cells #[.int .i64 x.f0, .int .i64 x.f1] 54 (0, 0)))
      obtain ⟨q0, q1, q2⟩ := HS1.out.cells
      have r0 := box_cell HB1.out 0 _ rfl
      have r1 := box_cell HB1.out 1 _ rfl
      clear K1
      have y1 : IntKind.i64.wrap (x.f0 + 1) = x.f0 + 1 := IntWalk.i64_in _ (by omega)
      cases he : inB x.f0 g t
      · have HN := Lib.hid (HV.out.skip HL.out HX.out he)
        gi_wp2_with (refine ⟨trivial, ?_⟩; gi_at_call 78; refine (callsIn_wide.2 (within_any _ _ _ _)).mono ?_; rintro e' w' ⟨rfl, rfl⟩)
        go_roundw
        case rel => exact ⟨k + 1, g, L, HL.out, by go_num, rfl, HN, Lib.hid (HS1.out.kp (KpB.refl _ _)), HJ1⟩
        case measure => have := HL.out; simp [intOf]; omega
      · by_cases hgap : g < x.f0
        · have HN := Lib.hid (HV.out.gap HL.out HX.out he hgap x0 x1)
          have y2 : IntKind.i64.wrap (x.f0 - 1) = x.f0 - 1 := IntWalk.i64_in _ (by omega)
          have y3 : decide (g < x.f0) = true := decide_eq_true hgap
          obtain ⟨fn, tmps, assign, body, hy, hR⟩ := hY L.length _ _ (vals_next HV.out HL.out HX.out he hgap) HJ1.out
          clear hgap
          gi_wp2_with (refine ⟨trivial, ?_⟩; gi_at_call 78; refine (callsIn_wide.2 (within_any _ _ _ _)).mono ?_; rintro e' w' ⟨rfl, rfl⟩)
          refine hR.mono ?_
          rintro e W3 ⟨rfl, hJ3, hk3⟩
          have HS3 := Lib.hid (HS1.out.kp hk3 (k' := k + 1))
          have HJ3 := Lib.hid hJ3
          have s0 := box_cell (hk3.typed _ _ _ HB1.out (.inl rfl)) 0 _ rfl
          clear hk3 hJ3 q0 q1 q2 r0 r1 e0 e1
          gi_wp2
          go_roundw
          case rel => exact ⟨k + 1, x.f0 + 1, _, HL.out, by go_num, rfl, HN, HS3, by rw [List.length_append]; exact HJ3⟩
          case measure => have := HL.out; simp [intOf]; omega
        · have HN := Lib.hid (HV.out.no HL.out HX.out he hgap x0 x1)
          have y3 : decide (g < x.f0) = false := decide_eq_false hgap
          clear hgap
          gi_wp2_with (refine ⟨trivial, ?_⟩; gi_at_call 78; refine (callsIn_wide.2 (within_any _ _ _ _)).mono ?_; rintro e' w' ⟨rfl, rfl⟩)
          refine ⟨fun _ h => (by cases h), ?_⟩
          gi_wp2
          go_roundw
          case rel => exact ⟨k + 1, x.f0 + 1, L, HL.out, by go_num, rfl, HN, Lib.hid (HS1.out.kp (KpB.refl _ _)), HJ1⟩
          case measure => have := HL.out; simp [intOf]; omega
    · obtain ⟨q0, q1, q2⟩ := HST.out.cells
      by_cases hgt : g ≤ t
      · obtain ⟨hv, hlen⟩ := vals_last HV.out (by omega) hgt
        obtain ⟨fn, tmps, assign, body, hy, hR⟩ := hY L.length _ _ hv HJ.out
        have HLN := Lib.hid hlen; clear hlen hv
        gi_wp2
        refine hR.mono ?_
        rintro e W3 ⟨rfl, hJ3, hk3⟩
        have HJ3 := Lib.hid hJ3
        clear hJ3 hk3 q0 q1 q2
        gi_wp2
        go_end0
        exact ⟨⟨_, rfl⟩, by rw [HLN.out]; exact HJ3.out⟩
      · have HLN := Lib.hid (HV.out.done (by omega) hgt)
        gi_wp2
        go_end0
        exact ⟨⟨_, rfl⟩, by rw [← HLN.out]; simpa [vals] using HJ.out⟩
end Go.Proofs.Ytpbmncecejchjaa.DryI
