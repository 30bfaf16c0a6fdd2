/- The law's text of a mark: markText. -/
import Derived.Test.YthilbpklmjpmcaaBase
import Derived.Lib.SmallJoins
import Derived.WalkLawsBesides
import Derived.WalkSpells
import Derived.Deep.QuietTactic
import Derived.BigQuiet
import Derived.StillTailTactics
namespace Go.Proofs.Ythilbpklmjpmcaa.MarkText
open Go.RowKit Go.Proofs.Ythilbpklmjpmcaa.Mem
set_option linter.unusedVariables false

def one (j : Nat) : ByteArray := strOfNums [48 + (j : Int) % 10]
def low : Nat → Nat → ByteArray → ByteArray
  | 0, _, o => o
  | f + 1, j, o => if j = 0 then o else low f (j / 10) (one j ++ o)
theorem low_zero (f : Nat) (o : ByteArray) : low f 0 o = o := by cases f <;> simp [low]
/-- the law's text of a mark. -/
def mt (k : Nat) : ByteArray := ⟨#[109]⟩ ++ low k k ByteArray.empty
theorem one_size (j : Nat) : (one j).size = 1 := by simp [one, strOfNums, ByteArray.size]

set_option maxRecDepth 100000 in
set_option maxHeartbeats 400000 in
theorem mt_any (k : Nat) (w : World) (h0 : 0 < k) (h1 : k ≤ 100000000) : Calls Try.prog 81 #[.int .i64 (k : Int)] w fun e w' => e = .returned (.string (mt k)) ∧ Below w.heap.size w w' := by
  have hk0 : ¬ ((k : Int) ≤ 0) := by omega
  go_enter Try.func81, Try.ntmps81
  go_wp2
  go_loopw [0, 3] (fun q o wr => ∃ (f j : Nat) (x : ByteArray), q = .int .i64 (j : Int) ∧ o = .string x ∧ j ≤ f ∧ x.size + f = k ∧ low f j x = low k k ByteArray.empty ∧ Below w.heap.size w wr) (fun q _ _ => (intOf q).toNat)
  case atStart => exact ⟨k, k, ByteArray.empty, rfl, rfl, Nat.le_refl _, by simp, rfl, Below.refl _ _⟩
  case round =>
    obtain ⟨f, j, x, rfl, rfl, hjf, hxf, hlow, hB⟩ := hrel
    have HB := Lib.hid hB; clear hB
    have HL := Lib.hid hlow; clear hlow
    by_cases hj : 0 < j
    · have e1 : (j : Int).tdiv 10 = (j : Int) / 10 := Int.tdiv_eq_ediv_of_nonneg (by omega)
      have e2 : (j : Int).tmod 10 = (j : Int) % 10 := Int.tmod_eq_emod_of_nonneg (by omega)
      have e3 : IntKind.i64.wrap ((j : Int) / 10) = (j : Int) / 10 := IntWalk.i64_in _ (by omega)
      have e4 : IntKind.i64.wrap ((j : Int) % 10) = (j : Int) % 10 := IntWalk.i64_in _ (by omega)
      have e5 : IntKind.i64.wrap (48 + (j : Int) % 10) = 48 + (j : Int) % 10 := IntWalk.i64_in _ (by omega)
      have e6 : IntKind.u8.wrap (48 + (j : Int) % 10) = 48 + (j : Int) % 10 := by have h1 : IntKind.u8.bits = 8 := rfl; simp [IntKind.wrap, h1, IntKind.signed]; omega
      have hx1 : x.size ≤ 100000000 := by omega
      go_wp2
      have hcv := run_convert_bytes_arg (P := Try.prog) (wr.alloc (.cells #[.int .u8 (48 + (j : Int) % 10)] 5)) 22 5 Try.underlying22 Try.underlying5 wr.heap.size 0 1 1 [48 + (j : Int) % 10] rfl (fun i hi => by
        obtain rfl : i = 0 := by omega
        exact cell_one_new _ _ _ 0 _ rfl) 9 Try.underlying9
      rw [hcv]
      clear hcv
      have hos := one_size j
      unfold one at hos
      simp only [Result.andThen]
      rw [Oper.upon_value]
      have hsz : (strOfNums [48 + (j : Int) % 10] ++ x).size ≤ 100000001 := by rw [ByteArray.size_append, hos]; omega
      go_wp2
      go_roundw
      case rel =>
        obtain ⟨f, rfl⟩ : ∃ f', f = f' + 1 := ⟨f - 1, by omega⟩
        refine ⟨f, j / 10, one j ++ x, by simp, by simp [one], by omega, by rw [ByteArray.size_append, one_size]; omega, ?_, HB.out.alloc HB.out.size _⟩
        rw [← HL.out, low, if_neg (by omega)]
      case measure => simp [intOf]; omega
    · obtain rfl : j = 0 := by omega
      rw [low_zero] at HL
      have hx1 : x.size ≤ 100000000 := by omega
      go_wp2
      go_ret
      exact ⟨by rw [mt, ← HL.out]; rfl, HB.out⟩

theorem gb_below {w W V : World} {row : Option Nat} (h : w.grownBy W row) (hb : Below W.heap.size W V) : w.grownBy V row :=
  ⟨hb.os.trans h.os, hb.tape.trans h.tape, hb.output.trans h.output, Nat.le_trans h.size hb.size, fun k hk hne => (hb.block k (Nat.lt_of_lt_of_le hk h.size)).trans (h.block k hk hne)⟩
theorem own_below {W V : World} {base : Nat} {e : TypeId} {size n : Nat} {v : Value} {xs : List Value} (h : W.ownsRow base e size v n xs) (hb : Below W.heap.size W V) : V.ownsRow base e size v n xs :=
  h.kept (row := none) ⟨hb.os, hb.tape, hb.output, hb.size, fun k hk _ => hb.block k hk⟩ (by cases v.ownBlock <;> simp)
end Go.Proofs.Ythilbpklmjpmcaa.MarkText
