/- The laws' helpers over []string: marks and what they leave. -/
import Derived.Test.YtdlhjnfjpkmakaaDoorStrs
import Derived.Test.YtdlhjnfjpkmakaaDoorBytes
import Derived.Lib.SmallJoins
import Derived.WalkLawsBesides
import Derived.WalkSpells
import Derived.Deep.QuietTactic
import Derived.BigQuiet
import Derived.StillTailTactics
namespace Go.Proofs.YtdlhjnfjpkmakaaDoor.SStr
open Go.RowKit Go.Proofs.YtdlhjnfjpkmakaaDoor.Mem Go.Proofs.YtdlhjnfjpkmakaaDoor.Strs Go.Proofs.YtdlhjnfjpkmakaaDoor.Bytes
set_option linter.unusedVariables false

def one (j : Nat) : ByteArray := strOfNums [48 + (j : Int) % 10]
def low : Nat → Nat → ByteArray → ByteArray
  | 0, _, o => o
  | f + 1, j, o => if j = 0 then o else low f (j / 10) (one j ++ o)
theorem low_zero (f : Nat) (o : ByteArray) : low f 0 o = o := by cases f <;> simp [low]
/-- the law's text of a mark. -/
def mt (k : Nat) : ByteArray := ⟨#[109]⟩ ++ low k k ByteArray.empty
theorem one_size (j : Nat) : (one j).size = 1 := by simp [one, strOfNums, ByteArray.size]

set_option maxRecDepth 100000 in
set_option maxHeartbeats 400000 in
theorem mt_any (k : Nat) (w : World) (h0 : 0 < k) (h1 : k ≤ 1000000) : Calls Tryd.prog 29 #[.int .i64 (k : Int)] w fun e w' => e = .returned (.string (mt k)) ∧ Below w.heap.size w w' := by
  have hk0 : ¬ ((k : Int) ≤ 0) := by omega
  go_enter Tryd.func29, Tryd.ntmps29
  go_wp2
  go_loopw [0, 3] (fun q o wr => ∃ (f j : Nat) (x : ByteArray), q = .int .i64 (j : Int) ∧ o = .string x ∧ j ≤ f ∧ x.size + f = k ∧ low f j x = low k k ByteArray.empty ∧ Below w.heap.size w wr) (fun q _ _ => (intOf q).toNat)
  case atStart => exact ⟨k, k, ByteArray.empty, rfl, rfl, Nat.le_refl _, by simp, rfl, Below.refl _ _⟩
  case round =>
    obtain ⟨f, j, x, rfl, rfl, hjf, hxf, hlow, hB⟩ := hrel
    have HB := Lib.hid hB; clear hB
    have HL := Lib.hid hlow; clear hlow
    by_cases hj : 0 < j
    · have e1 : (j : Int).tdiv 10 = (j : Int) / 10 := Int.tdiv_eq_ediv_of_nonneg (by omega)
      have e2 : (j : Int).tmod 10 = (j : Int) % 10 := Int.tmod_eq_emod_of_nonneg (by omega)
      have e3 : IntKind.i64.wrap ((j : Int) / 10) = (j : Int) / 10 := IntWalk.i64_in _ (by omega)
      have e4 : IntKind.i64.wrap ((j : Int) % 10) = (j : Int) % 10 := IntWalk.i64_in _ (by omega)
      have e5 : IntKind.i64.wrap (48 + (j : Int) % 10) = 48 + (j : Int) % 10 := IntWalk.i64_in _ (by omega)
      have e6 : IntKind.u8.wrap (48 + (j : Int) % 10) = 48 + (j : Int) % 10 := by have h1 : IntKind.u8.bits = 8 := rfl; simp [IntKind.wrap, h1, IntKind.signed]; omega
      have hx1 : x.size ≤ 1000000 := by omega
      go_wp2
      have hcv := run_convert_bytes_arg (P := Tryd.prog) (wr.alloc (.cells #[.int .u8 (48 + (j : Int) % 10)] 5)) 22 5 Tryd.underlying22 Tryd.underlying5 wr.heap.size 0 1 1 [48 + (j : Int) % 10] rfl (fun i hi => by
        obtain rfl : i = 0 := by omega
        exact cell_one_new _ _ _ 0 _ rfl) 9 Tryd.underlying9
      rw [hcv]
      clear hcv
      have hos := one_size j
      unfold one at hos
      simp only [Result.andThen]
      rw [Oper.upon_value]
      have hsz : (strOfNums [48 + (j : Int) % 10] ++ x).size ≤ 1000001 := by rw [ByteArray.size_append, hos]; omega
      go_wp2
      go_roundw
      case rel =>
        obtain ⟨f, rfl⟩ : ∃ f', f = f' + 1 := ⟨f - 1, by omega⟩
        refine ⟨f, j / 10, one j ++ x, by simp, by simp [one], by omega, by rw [ByteArray.size_append, one_size]; omega, ?_, HB.out.alloc HB.out.size _⟩
        rw [← HL.out, low, if_neg (by omega)]
      case measure => simp [intOf]; omega
    · obtain rfl : j = 0 := by omega
      rw [low_zero] at HL
      have hx1 : x.size ≤ 1000000 := by omega
      go_wp2
      go_ret
      exact ⟨by rw [mt, ← HL.out]; rfl, HB.out⟩

theorem gb_below {w W V : World} {row : Option Nat} (h : w.grownBy W row) (hb : Below W.heap.size W V) : w.grownBy V row :=
  ⟨hb.os.trans h.os, hb.tape.trans h.tape, hb.output.trans h.output, Nat.le_trans h.size hb.size, fun k hk hne => (hb.block k (Nat.lt_of_lt_of_le hk h.size)).trans (h.block k hk hne)⟩
theorem own_below {W V : World} {base : Nat} {e : TypeId} {size n : Nat} {v : Value} {xs : List Value} (h : W.ownsRow base e size v n xs) (hb : Below W.heap.size W V) : V.ownsRow base e size v n xs :=
  h.kept (row := none) ⟨hb.os, hb.tape, hb.output, hb.size, fun k hk _ => hb.block k hk⟩ (by cases v.ownBlock <;> simp)
/-- what marking from k on leaves. -/
def marks (k m : Nat) : List ByteArray := (List.range m).map fun i => mt (k + i)
theorem marks_len (k m : Nat) : (marks k m).length = m := by simp [marks]
theorem marks_get (k m i : Nat) (h : i < (marks k m).length) : (marks k m)[i] = mt (k + i) := by simp [marks]
def part (l : List ByteArray) (k i : Nat) : List ByteArray := marks k i ++ l.drop i
theorem part_zero (l : List ByteArray) (k : Nat) : part l k 0 = l := by simp [part, marks]
theorem part_full (l : List ByteArray) (k : Nat) : part l k l.length = marks k l.length := by simp [part]
theorem part_len (l : List ByteArray) (k i : Nat) (h : i ≤ l.length) : (part l k i).length = l.length := by simp [part, marks]; omega
theorem part_set (l : List ByteArray) (k i : Nat) (h : i < l.length) : (part l k i).set i (mt (k + i)) = part l k (i + 1) := by
  unfold part
  rw [List.set_append_right _ _ (by rw [marks_len]; exact Nat.le_refl _), marks_len, Nat.sub_self, List.drop_eq_getElem_cons h, List.set_cons_zero]
  simp [marks, List.range_succ]
def MkPost (l : List ByteArray) (A : Option Addr) (c base k : Nat) (w : World) (e : Ending) (w' : World) : Prop :=
  e = .returned (.int .i64 ((k : Int) + l.length)) ∧ w'.ownsRow base 9 1 (.slice A l.length c) l.length (strv (marks k l.length)) ∧ w.grownBy w' (Value.slice A l.length c).ownBlock
set_option maxHeartbeats 400000 in
theorem markS_any (A : Option Addr) (c base : Nat) (l : List ByteArray) (k : Nat) (w : World) (ho : w.ownsRow base 9 1 (.slice A l.length c) l.length (strv l)) (hn : l.length ≤ 100000) (hk0 : 0 < k) (hk1 : k ≤ 100000) :
    Calls Tryd.prog 16 #[.slice A l.length c, .int .i64 (k : Int)] w (MkPost l A c base k w) := by
  have HO0 := Lib.hid ho; clear ho
  go_enter Tryd.func16, Tryd.ntmps16
  go_wp2
  go_loopw [1, 5] (fun q i wr => ∃ j : Nat, j ≤ l.length ∧ i = .int .i64 j ∧ q = .int .i64 ((k + j : Nat) : Int) ∧ wr.ownsRow base 9 1 (.slice A l.length c) l.length (strv (part l k j)) ∧ w.grownBy wr (Value.slice A l.length c).ownBlock) (fun _ i _ => l.length - (intOf i).toNat)
  case atStart => exact ⟨0, Nat.zero_le _, rfl, by simp, by rw [part_zero]; exact HO0.out, World.grownBy.refl _ _⟩
  case round =>
    obtain ⟨j, hj, rfl, rfl, ho, hg⟩ := hrel
    have HO := Lib.hid ho; clear ho
    have HG := Lib.hid hg; clear hg
    by_cases hlt : j < l.length
    · obtain ⟨g, cap', hA⟩ := own_some HO.out (by omega)
      obtain ⟨rfl, rfl⟩ := hA
      have hfl : (strv (part l k j)).length = l.length := by rw [strv_len, part_len l k j hj]
      have hq : IntKind.i64.wrap (((k + j : Nat) : Int) + 1) = ((k + j : Nat) : Int) + 1 := IntWalk.i64_in _ (by omega)
      have HMT := Lib.hid (mt_any (k + j) wr (by omega) (by omega))
      generalize hK : k + j = K at *
      go_wp2_with (go_at_call 29; refine HMT.out.mono ?_; rintro e w2 ⟨rfl, hb⟩; have HO2 := Lib.hid (own_below HO.out hb); have HG2 := Lib.hid (gb_below HG.out hb); obtain ⟨q0, m0⟩ : ∃ v, w2.cell? ⟨g, j, none⟩ = some v := ⟨_, (HO2.out.cellAt j (by omega)).trans (List.getElem?_eq_getElem (by rw [hfl]; exact hlt))⟩; have g0 : w2.frozen? ⟨g, j, none⟩ = false := HO2.out.frozenAt _; clear hb)
      go_roundw
      case rel =>
        have h1 := (HO2.out.stored j (.string (mt K))).1
        have e : (strv (part l k j)).set j (.string (mt K)) = strv (part l k (j + 1)) := by
          unfold strv; rw [← List.map_set, ← hK, part_set l k j hlt]
        rw [e] at h1
        exact ⟨j + 1, by omega, by go_num, by simp; omega, h1, HG2.out.setOwn _ _⟩
      case measure => simp [intOf]; omega
    · have hkk : j = l.length := by omega
      subst hkk
      go_wp2
      go_ret
      exact ⟨by simp, by have := HO.out; rwa [part_full] at this, HG.out⟩
set_option maxHeartbeats 400000 in
theorem heldS_any (A : Option Addr) (c B : Nat) (k m : Nat) (w : World) (hr : Rd w w.heap.size A (strv (marks k m))) (hn : m ≤ 100000) (hk0 : 0 < k) (hk1 : k ≤ 100000) :
    Calls Tryd.prog 17 #[.slice A m c, .int .i64 (k : Int)] w fun e w' => e = .returned (.int .i64 ((k : Int) + m)) ∧ Below w.heap.size w w' := by
  have HR := Lib.hid hr; clear hr
  go_enter Tryd.func17, Tryd.ntmps17
  go_wp2
  go_loopw [1, 5] (fun q i wr => ∃ j : Nat, j ≤ m ∧ i = .int .i64 j ∧ q = .int .i64 ((k + j : Nat) : Int) ∧ Below w.heap.size w wr) (fun _ i _ => m - (intOf i).toNat)
  case atStart => exact ⟨0, Nat.zero_le _, rfl, by simp, Below.refl _ _⟩
  case round =>
    obtain ⟨j, hj, rfl, rfl, hD⟩ := hrel
    have HD := Lib.hid hD; clear hD
    by_cases hlt : j < m
    · obtain ⟨b, o, rfl, hb, hc⟩ := HR.out.at (k := j) (by rw [strv_len, marks_len]; omega)
      have h0 : wr.cell? ⟨b, o + j, none⟩ = some (.string (mt (k + j))) := (HD.out.cell (p := ⟨b, o + j, none⟩) hb).trans (by have := hc _ _ (strv_get (marks k m) j (by rw [marks_len]; exact hlt)); rwa [marks_get] at this)
      have hbr : b < wr.heap.size := Nat.lt_of_lt_of_le hb HD.out.size
      have hq : IntKind.i64.wrap (((k + j : Nat) : Int) + 1) = ((k + j : Nat) : Int) + 1 := IntWalk.i64_in _ (by omega)
      have HMT := Lib.hid (mt_any (k + j) wr.drew (by omega) (by omega))
      clear hc
      generalize hK : k + j = K at *
      go_wp2
      go_region_with (go_at_call 29; refine HMT.out.mono ?_; rintro e w2 ⟨rfl, hb2⟩; have h02 := (hb2.cell (p := ⟨b, o + j, none⟩) hbr).trans h0)
      all_goals
        have HB2 := Lib.hid (be HD.out (show Below wr.heap.size wr w2 from ⟨hb2.os, hb2.tape, hb2.output, hb2.size, hb2.block⟩))
        have HK := Lib.hid hK
        go_wp2
        exact ⟨⟨j + 1, by omega, by go_num, by rw [show k + (j + 1) = K + 1 from by have := HK.out; omega]; simp, HB2.out⟩, by simp [intOf]; omega⟩
    · have hkk : j = m := by omega
      subst hkk
      go_wp2
      go_ret
      exact ⟨by simp, HD.out⟩
theorem mark1 (A : Option Addr) (c base : Nat) (l : List ByteArray) (w : World) (ho : w.ownsRow base 9 1 (.slice A l.length c) l.length (strv l)) (hn : l.length ≤ 100000) :
    Calls Tryd.prog 16 #[.slice A l.length c, .int .i64 1] w fun e w' => e = .returned (.int .i64 (1 + l.length)) ∧ w'.ownsRow base 9 1 (.slice A l.length c) l.length (strv (marks 1 l.length)) ∧ w.grownBy w' (Value.slice A l.length c).ownBlock :=
  markS_any A c base l 1 w ho hn (by omega) (by omega)
theorem held1 (A : Option Addr) (c m : Nat) (w : World) (hr : Rd w w.heap.size A (strv (marks 1 m))) (hn : m ≤ 100000) :
    Calls Tryd.prog 17 #[.slice A m c, .int .i64 1] w fun e w' => e = .returned (.int .i64 (1 + m)) ∧ Below w.heap.size w w' :=
  heldS_any A c w.heap.size 1 m w hr hn (by omega) (by omega)
theorem eqB (A A' : Option Addr) (cap cap' : Nat) (ss ts : List ByteArray) (w : World) (hr : Rd w w.heap.size A (strv ss)) (hr' : Rd w w.heap.size A' (strv ts)) (hn : ss.length ≤ maxLen) (hn' : ts.length ≤ maxLen) :
    Calls Tryd.prog 15 #[.slice A ss.length cap, .slice A' ts.length cap'] w fun e w' => e = .returned (.bool (decide (ss = ts))) ∧ Below w.heap.size w w' :=
  (eq_any A A' cap cap' ss ts w _ hr hr' hn hn').mono fun e w' h => ⟨h.1, h.2.below _⟩
end Go.Proofs.YtdlhjnfjpkmakaaDoor.SStr
