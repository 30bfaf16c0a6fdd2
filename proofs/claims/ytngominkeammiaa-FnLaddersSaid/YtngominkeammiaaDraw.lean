/- The model's draws: the cursor over the code's bytes. A draw returns something of its range and changes the cursor's block alone. -/
import Derived.Test.YtngominkeammiaaBase
import Derived.Test.YtngominkeammiaaStrs
import Derived.WalkLawsBesides
import Derived.WalkSpells
namespace Go.Proofs.Ytngominkeammiaa.Draw
open Go.RowKit Go.Proofs.Ytngominkeammiaa.Mem Go.Proofs.Ytngominkeammiaa.Base
set_option linter.unusedVariables false

theorem cells_of (w : World) (p t : Nat) (cs : Array Value) (h : w.heap[p]? = some (.cells cs t (0, 0))) (i : Nat) : w.cell? ⟨p, i, none⟩ = cs[i]? := cell_of_row w p i cs t (0, 0) h
theorem grown_trans {a b c : World} {r : Option Nat} (h : a.grownBy b r) (k : b.grownBy c r) : a.grownBy c r :=
  ⟨k.os.trans h.os, k.tape.trans h.tape, k.output.trans h.output, Nat.le_trans h.size k.size, fun i hi hr => (k.block i (Nat.lt_of_lt_of_le hi h.size) hr).trans (h.block i hi hr)⟩
theorem grown_refl (w : World) (r : Option Nat) : w.grownBy w r := ⟨rfl, rfl, rfl, Nat.le_refl _, fun _ _ _ => rfl⟩
theorem grown_alloc (w : World) (o : Obj) (r : Option Nat) : w.grownBy (w.alloc o) r := ⟨rfl, rfl, rfl, by simp, fun j hj _ => Below.heap_alloc w o j hj⟩
theorem grown_drewN {a b : World} {r : Option Nat} (h : a.grownBy b r) (n : Nat) : a.grownBy (b.drewN n) r := ⟨h.os, h.tape, h.output, h.size, h.block⟩

theorem u64_range (x : Int) : 0 ≤ IntKind.u64.wrap x ∧ IntKind.u64.wrap x < 18446744073709551616 := by
  have : IntKind.u64.wrap x = x % 18446744073709551616 := by simp [IntKind.wrap, IntKind.signed, IntKind.bits]
  rw [this]; omega
theorem stored2 {w : World} {p T m : Nat} {A : Option Addr} {n cap : Nat} {k sd : Int} (h : w.heap[p]? = some (.cells #[.slice A n cap, .int .i64 k, .int .u64 sd] T (0, 0))) (k' sd' : Int) :
    (((w.drewN m).setCell ⟨p, 1, none⟩ (.int .i64 k')).setCell ⟨p, 2, none⟩ (.int .u64 sd')).heap[p]? = some (.cells #[.slice A n cap, .int .i64 k', .int .u64 sd'] T (0, 0)) ∧
    w.grownBy (((w.drewN m).setCell ⟨p, 1, none⟩ (.int .i64 k')).setCell ⟨p, 2, none⟩ (.int .u64 sd')) (some p) := by
  have e1 := heap_setCell_same (w.drewN m) p 1 _ T (.int .i64 k') h
  have e2 := heap_setCell_same _ p 2 _ T (.int .u64 sd') e1
  refine ⟨e2, ⟨rfl, rfl, rfl, by simp [World.setCell, World.drewN], fun j hj hne => ?_⟩⟩
  have hjp : j ≠ p := fun e => hne (by rw [e])
  rw [heap_setCell_other _ ⟨p, 2, none⟩ j _ (by simpa using hjp), heap_setCell_other _ ⟨p, 1, none⟩ j _ (by simpa using hjp)]
  rfl
theorem grown_cell {w w' : World} {p b o B : Nat} (hg : w.grownBy w' (some p)) (hB : B ≤ p) (hp : p < w.heap.size) (hb : b < B) : w'.cell? ⟨b, o, none⟩ = w.cell? ⟨b, o, none⟩ :=
  World.cell?_of_block (w := w) (hg.block b (by omega) (fun e => by injection e with e; omega))
theorem heap_lt {w : World} {p : Nat} {o : Obj} (h : w.heap[p]? = some o) : p < w.heap.size := by
  rcases Nat.lt_or_ge p w.heap.size with hl | hl
  · exact hl
  · rw [Array.getElem?_eq_none hl] at h; cases h
theorem low_byte (x : Int) (h0 : 0 ≤ x) (h1 : x < 18446744073709551616) : 0 ≤ wrap64 (bits BinOp.and IntKind.u64 x 255) ∧ wrap64 (bits BinOp.and IntKind.u64 x 255) ≤ 255 := by
  rw [u64_and x 255 h0 h1 (by omega) (by omega)]
  have h : (x.toNat &&& (255 : Int).toNat) ≤ 255 := Nat.and_le_right
  generalize x.toNat &&& (255 : Int).toNat = y at *
  unfold wrap64; omega
/-- Block p is a cursor over the bytes zs, which lie below B. -/
structure Cur (B : Nat) (zs : List Int) (w : World) (p k : Nat) : Prop where
  block : ∃ (A : Option Addr) (cap : Nat) (sd : Int), w.heap[p]? = some (.cells #[.slice A zs.length cap, .int .i64 k, .int .u64 sd] 78 (0, 0)) ∧ Rd w B A (zs.map (Value.int .u8)) ∧ 0 ≤ sd ∧ sd < 18446744073709551616
  base : B ≤ p
  len : zs.length ≤ 1048576
  bytes : ∀ z ∈ zs, 0 ≤ z ∧ z ≤ 255

set_option maxRecDepth 100000 in
set_option maxHeartbeats 1000000 in
theorem next_any (B : Nat) (zs : List Int) (w : World) (p k : Nat) (h : Cur B zs w p k) (hk : k ≤ 1000000000) :
    Calls Try.prog 89 #[.pointer (some ⟨p, 0, none⟩)] w fun e w' => (∃ x : Int, 0 ≤ x ∧ x ≤ 255 ∧ e = .returned (.int .i64 x)) ∧ Cur B zs w' p (k + 1) ∧ w.grownBy w' (some p) := by
  obtain ⟨⟨A, cap, sd, hblk, hr, hs0, hs1⟩, hB, hl, hb⟩ := h
  have h0 := cells_of w p _ _ hblk 0
  have h1 := cells_of w p _ _ hblk 1
  have h2 := cells_of w p _ _ hblk 2
  simp at h0 h1 h2
  have f1 : w.frozen? ⟨p, 1, none⟩ = false := by simp [World.frozen?, hblk]
  have f2 : w.frozen? ⟨p, 2, none⟩ = false := by simp [World.frozen?, hblk]
  have HK := Lib.hid hblk; clear hblk
  have HR := Lib.hid hr; clear hr
  have HBy := Lib.hid hb; clear hb
  by_cases hlt : k < zs.length
  · obtain ⟨b, o, rfl, hbB, hc⟩ := HR.out.at (k := k) (by simpa using hlt)
    have hcell : w.cell? ⟨b, o + k, none⟩ = some (.int .u8 zs[k]) := hc k _ (by simp [hlt])
    have hz := HBy.out zs[k] (List.getElem_mem hlt)
    clear hc
    go_enter Try.func89, Try.ntmps89
    go_wp2
    go_quiet (fail)
    generalize nq = q1
    go_wp2
    go_quiet (fail)
    generalize nq = q2
    go_wp2
    obtain ⟨hs0', hs1'⟩ := u64_range (IntKind.u64.wrap (IntKind.u64.wrap (sd * 6364136223846793005) + zs[k]) + 101919)
    generalize IntKind.u64.wrap (IntKind.u64.wrap (IntKind.u64.wrap (sd * 6364136223846793005) + zs[k]) + 101919) = sd' at *
    obtain ⟨w3, hw3⟩ : ∃ w3 : World, w3 = ((w.drewN (q1 + q2)).setCell ⟨p, 1, none⟩ (.int .i64 ((k : Int) + 1))).setCell ⟨p, 2, none⟩ (.int .u64 sd') := ⟨_, rfl⟩
    rw [← hw3]
    have hst := stored2 (m := (q1 + q2)) HK.out ((k : Int) + 1) sd'
    rw [← hw3] at hst
    obtain ⟨hb3, hg3⟩ := hst
    clear hw3
    have h0' := cells_of w3 p _ _ hb3 0
    have h1' := cells_of w3 p _ _ hb3 1
    have h2' := cells_of w3 p _ _ hb3 2
    simp at h0' h1' h2'
    have HB3 := Lib.hid hb3; clear hb3
    have HG3 := Lib.hid hg3; clear hg3
    clear h0 h1 h2 f1 f2
    go_quiet (fail)
    go_wp2
    go_ret
    refine ⟨⟨zs[k], hz.1, hz.2, rfl⟩, ⟨⟨_, cap, sd', HB3.out, HR.out.keep (fun b' o' hb' => (grown_cell (grown_drewN HG3.out nq) hB (heap_lt HK.out) hb')), hs0', hs1'⟩, hB, hl, HBy.out⟩, grown_drewN HG3.out _⟩
  · have hlt' : (zs.length : Int) ≤ k := by omega
    have hlt2 : decide ((k : Int) + 1 ≤ zs.length) = false := decide_eq_false (by omega)
    go_enter Try.func89, Try.ntmps89
    go_wp2
    go_quiet (fail)
    generalize nq = q1
    go_wp2
    obtain ⟨hs0', hs1'⟩ := u64_range (IntKind.u64.wrap (IntKind.u64.wrap (sd * 6364136223846793005)) + 101919)
    generalize IntKind.u64.wrap (IntKind.u64.wrap (IntKind.u64.wrap (sd * 6364136223846793005)) + 101919) = sd' at *
    obtain ⟨w3, hw3⟩ : ∃ w3 : World, w3 = ((w.drewN q1).setCell ⟨p, 1, none⟩ (.int .i64 ((k : Int) + 1))).setCell ⟨p, 2, none⟩ (.int .u64 sd') := ⟨_, rfl⟩
    rw [← hw3]
    have hst := stored2 (m := q1) HK.out ((k : Int) + 1) sd'
    rw [← hw3] at hst
    obtain ⟨hb3, hg3⟩ := hst
    clear hw3
    have h0' := cells_of w3 p _ _ hb3 0
    have h1' := cells_of w3 p _ _ hb3 1
    have h2' := cells_of w3 p _ _ hb3 2
    simp at h0' h1' h2'
    have HB3 := Lib.hid hb3; clear hb3
    have HG3 := Lib.hid hg3; clear hg3
    clear h0 h1 h2 f1 f2
    go_quiet (fail)
    go_wp2
    go_ret
    obtain ⟨hr0, hr1⟩ := low_byte (sd' / 1099511627776) (by omega) (by omega)
    refine ⟨⟨_, hr0, hr1, rfl⟩, ⟨⟨_, cap, sd', HB3.out, HR.out.keep (fun b' o' hb' => (grown_cell (grown_drewN HG3.out nq) hB (heap_lt HK.out) hb')), hs0', hs1'⟩, hB, hl, HBy.out⟩, grown_drewN HG3.out _⟩

/-- The cursor has gone on by at most d bytes; its block alone has changed. -/
def Went (B : Nat) (zs : List Int) (p k d : Nat) (w w' : World) : Prop := (∃ k', k' ≤ k + d ∧ Cur B zs w' p k') ∧ w.grownBy w' (some p)
theorem Went.of {B : Nat} {zs : List Int} {p k d : Nat} {w w' : World} (h : Cur B zs w' p (k + d)) (hg : w.grownBy w' (some p)) : Went B zs p k d w w' := ⟨⟨k + d, Nat.le_refl _, h⟩, hg⟩

set_option maxHeartbeats 1000000 in
theorem pick_any (B : Nat) (zs : List Int) (w : World) (p k : Nat) (n : Int) (h : Cur B zs w p k) (hk : k ≤ 900000000) (hn0 : 1 ≤ n) (hn1 : n ≤ 65536) :
    Calls Try.prog 55 #[.pointer (some ⟨p, 0, none⟩), .int .i64 n] w fun e w' => (∃ x : Int, 0 ≤ x ∧ x < n ∧ e = .returned (.int .i64 x)) ∧ Went B zs p k 2 w w' := by
  have HC := Lib.hid h; clear h
  by_cases h1 : n ≤ 1
  · go_enter Try.func55, Try.ntmps55
    go_wp2
    go_ret
    exact ⟨⟨0, by omega, by omega, rfl⟩, ⟨k, by omega, HC.out⟩, grown_refl _ _⟩
  · go_enter Try.func55, Try.ntmps55
    go_wp2_with fail
    refine (next_any B zs w p k HC.out (by omega)).mono ?_
    rintro e w1 ⟨⟨x, hx0, hx1, rfl⟩, hC1, hG1⟩
    have HC1 := Lib.hid hC1; clear hC1
    have HG1 := Lib.hid hG1; clear hG1
    by_cases h2 : n ≤ 200
    · have hm := Int.emod_nonneg x (show n ≠ 0 by omega)
      have hm2 := Int.emod_lt_of_pos x (show 0 < n by omega)
      go_wp2
      go_ret
      exact ⟨⟨x % n, hm, hm2, by simp⟩, ⟨k + 1, by omega, HC1.out⟩, HG1.out⟩
    · go_wp2_with fail
      refine (next_any B zs w1 p (k + 1) HC1.out (by omega)).mono ?_
      rintro e w2 ⟨⟨y, hy0, hy1, rfl⟩, hC2, hG2⟩
      have HC2 := Lib.hid hC2; clear hC2
      have HG2 := Lib.hid hG2; clear hG2
      have hm := Int.emod_nonneg (x * 256 + y) (show n ≠ 0 by omega)
      have hm2 := Int.emod_lt_of_pos (x * 256 + y) (show 0 < n by omega)
      go_wp2
      go_ret
      exact ⟨⟨(x * 256 + y) % n, hm, hm2, by simp⟩, ⟨k + 2, by omega, HC2.out⟩, grown_trans HG1.out HG2.out⟩

theorem Cur.alloc {B : Nat} {zs : List Int} {w : World} {p k : Nat} (h : Cur B zs w p k) (o : Obj) : Cur B zs (w.alloc o) p k := by
  obtain ⟨⟨A, cap, sd, hblk, hr, hs⟩, hB, hl, hb⟩ := h
  have hp := heap_lt hblk
  exact ⟨⟨A, cap, sd, by rw [Below.heap_alloc w o p hp]; exact hblk, hr.keep (fun b o' hb' => World.cell?_alloc_lt w o ⟨b, o', none⟩ (by show b < _; omega)), hs⟩, hB, hl, hb⟩
theorem Cur.lt {B : Nat} {zs : List Int} {w : World} {p k : Nat} (h : Cur B zs w p k) : p < w.heap.size := by
  obtain ⟨⟨A, cap, sd, hblk, _⟩, _⟩ := h
  exact heap_lt hblk
/-- What a draw has from the code: a slice of bytes that came in. -/
def Src (w : World) (A : Option Addr) (zs : List Int) : Prop := Rd w w.heap.size A (zs.map (Value.int .u8)) ∧ zs.length ≤ 65536 ∧ ∀ z ∈ zs, 0 ≤ z ∧ z ≤ 255
theorem cur_new {w : World} {A : Option Addr} {zs : List Int} (h : Src w A zs) (cap : Nat) :
    Cur w.heap.size zs (w.alloc (.cells #[.slice A zs.length cap, .int .i64 0, .int .u64 0] 78)) w.heap.size 0 :=
  ⟨⟨A, cap, 0, heap_alloc_new w _, h.1.keep (fun b o hb => World.cell?_alloc_lt w _ ⟨b, o, none⟩ hb), by omega, by omega⟩, Nat.le_refl _, by have := h.2.1; omega, h.2.2⟩
theorem Src.below {w w' : World} {A : Option Addr} {zs : List Int} (h : Src w A zs) (hb : Below w.heap.size w w') : Src w' A zs :=
  ⟨(h.1.below hb (Nat.le_refl _)).mono hb.size, h.2⟩

/-- A list of a draw: block g holds just these cells. -/
def Lst (w : World) (g : Nat) (xs : List Value) : Prop := g < w.heap.size ∧ ∀ j v, xs[j]? = some v → w.cell? ⟨g, j, none⟩ = some v
theorem lst_new (w : World) (xs : List Value) (t : TypeId) : Lst (w.alloc (.cells xs.toArray t)) w.heap.size xs :=
  ⟨by simp, fun j v hv => by
    have := cell_of_row (w.alloc (.cells xs.toArray t)) w.heap.size j xs.toArray t (0, 0) (heap_alloc_new w _)
    rw [this]; simpa using hv⟩
theorem Lst.went {w w' : World} {g p : Nat} {xs : List Value} (h : Lst w g xs) (hg : w.grownBy w' (some p)) (hne : g ≠ p) : Lst w' g xs :=
  ⟨Nat.lt_of_lt_of_le h.1 hg.size, fun j v hv => (World.cell?_of_block (w := w) (hg.block g h.1 (fun e => hne (by injection e)))).trans (h.2 j v hv)⟩

theorem among_any (B : Nat) (zs : List Int) (w : World) (p k g c : Nat) (xs : List Int) (h : Cur B zs w p k) (hk : k ≤ 900000000) (hl : Lst w g (xs.map (Value.int .i64))) (hg : g ≠ p) (hx0 : 1 ≤ xs.length) (hx1 : xs.length ≤ 65536) :
    Calls Try.prog 81 #[.pointer (some ⟨p, 0, none⟩), .slice (some ⟨g, 0, none⟩) xs.length c] w fun e w' => (∃ x ∈ xs, e = .returned (.int .i64 x)) ∧ Went B zs p k 2 w w' := by
  have HC := Lib.hid h; clear h
  have HL := Lib.hid hl; clear hl
  go_enter Try.func81, Try.ntmps81
  go_wp2_with fail
  refine (pick_any B zs w p k xs.length HC.out hk (by omega) (by omega)).mono ?_
  rintro e w1 ⟨⟨x, h0, h1, rfl⟩, hW⟩
  have HW := Lib.hid hW; clear hW
  obtain ⟨j, rfl⟩ : ∃ j : Nat, x = j := ⟨x.toNat, by omega⟩
  have hj : j < xs.length := by omega
  have hcell : w1.cell? ⟨g, j, none⟩ = some (.int .i64 xs[j]) := (HL.out.went HW.out.2 hg).2 j _ (by simp [hj])
  go_wp2
  go_ret
  exact ⟨⟨xs[j], List.getElem_mem hj, rfl⟩, HW.out⟩
theorem one_any (B : Nat) (zs : List Int) (w : World) (p k : Nat) (n : Int) (h : Cur B zs w p k) (hk : k ≤ 900000000) (hn0 : 1 ≤ n) (hn1 : n ≤ 65536) :
    Calls Try.prog 56 #[.pointer (some ⟨p, 0, none⟩), .int .i64 n] w fun e w' => (∃ b : Bool, e = .returned (.bool b)) ∧ Went B zs p k 2 w w' := by
  have HC := Lib.hid h; clear h
  go_enter Try.func56, Try.ntmps56
  go_wp2_with fail
  refine (pick_any B zs w p k n HC.out hk (by omega) (by omega)).mono ?_
  rintro e w1 ⟨⟨x, h0, h1, rfl⟩, hW⟩
  have HW := Lib.hid hW; clear hW
  go_wp2
  go_ret
  exact ⟨⟨_, rfl⟩, HW.out⟩
theorem Went.cur {B : Nat} {zs : List Int} {p k d : Nat} {w w' : World} (h : Went B zs p k d w w') : ∃ k', k' ≤ k + d ∧ Cur B zs w' p k' := h.1
theorem went_below {w w1 w' : World} {p : Nat} (hB : Below w.heap.size w w1) (hp : w.heap.size ≤ p) (hg : w1.grownBy w' (some p)) : Below w.heap.size w w' :=
  hB.grown hg hB.size (fun k hk => by injection hk with hk; omega)

def bigB (n : Nat) : Bool := decide (65536 < n)
theorem big_any (A : Option Addr) (cap n : Nat) (w : World) (hn : n ≤ maxLen) : Calls Try.prog 14 #[.slice A n cap] w (BPost (bigB n) w) := by
  unfold maxLen at hn
  by_cases h : 65536 < n
  · have hb := Lib.hid (show bigB n = true from decide_eq_true h)
    have h' : decide ((65536 : Int) < n) = true := decide_eq_true (by omega)
    go_enter Try.func14, Try.ntmps14
    go_wp2
    go_ret
    exact bpost (by rw [hb.out])
  · have hb := Lib.hid (show bigB n = false from decide_eq_false h)
    have h' : decide ((65536 : Int) < n) = false := decide_eq_false (by omega)
    go_enter Try.func14, Try.ntmps14
    go_wp2
    go_ret
    exact bpost (by rw [hb.out])
end Go.Proofs.Ytngominkeammiaa.Draw
