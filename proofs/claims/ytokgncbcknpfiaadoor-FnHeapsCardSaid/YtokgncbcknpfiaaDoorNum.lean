/- Numbers and their texts: the model's l1Num, l1Read, FormatInt, ParseInt and the program's. -/
import Derived.Test.YtokgncbcknpfiaaDoorBase
import Derived.Test.YtokgncbcknpfiaaDoorShelf
import Derived.Lib.AppendIntMem
import Derived.Lib.SmallJoins
import Derived.Lib.ItoaNum
import Derived.WalkLawsBesides
import Derived.WalkSpells
namespace Go.Proofs.YtokgncbcknpfiaaDoor.Num
open Go.RowKit Go.Proofs.YtokgncbcknpfiaaDoor.Mem Go.Proofs.YtokgncbcknpfiaaDoor.Base
set_option linter.unusedVariables false

def digs : ByteArray := ⟨#[48, 49, 50, 51, 52, 53, 54, 55, 56, 57]⟩
theorem digs_at : ∀ n : Fin 10, digs.extract n.val (n.val + 1) = ⟨#[UInt8.ofNat (48 + n.val)]⟩ := by decide
theorem digs_at' (n : Nat) (h : n < 10) : digs.extract n (n + 1) = ⟨#[UInt8.ofNat (48 + n)]⟩ := digs_at ⟨n, h⟩

theorem dec_len (n : Nat) : n ≤ 1000000 → (Lib.decDigits n).length ≤ n + 1 := by
  induction n using Nat.strongRecOn with
  | ind n ih =>
    intro h
    rw [Lib.decDigits]
    by_cases h10 : n < 10
    · rw [dif_pos h10]; simp
    · rw [dif_neg h10]; have := ih (n / 10) (by omega) (by omega); simp; omega

def NumPost (l : List UInt8) (w : World) (e : Ending) (w' : World) : Prop := e = .returned (.string ⟨l.toArray⟩) ∧ ∃ m, w' = w.drewN m
theorem num_mk {l : List UInt8} {w w' : World} {s : ByteArray} (h : s = ⟨l.toArray⟩) (hw : ∃ m, w' = w.drewN m) : NumPost l w (.returned (.string s)) w' := ⟨by rw [h], hw⟩

set_option maxRecDepth 100000 in
set_option maxHeartbeats 400000 in
theorem num_nat : ∀ (n : Nat), n ≤ 1000000 → ∀ w : World, Calls Tryd.prog 52 #[.int .i64 (n : Int)] w (NumPost (Lib.decDigits n) w) := by
  intro n
  induction n using Nat.strongRecOn with
  | ind n ih =>
    intro hn w
    by_cases h10 : n < 10
    · have hd := digs_at' n h10
      have HD := Lib.hid (show digs.extract n (n + 1) = ⟨(Lib.decDigits n).toArray⟩ by rw [hd, Lib.decDigits, dif_pos h10])
      clear hd ih
      go_enter Tryd.func52, Tryd.ntmps52
      go_wp2
      go_ret
      exact num_mk HD.out ⟨0, rfl⟩
    · have e1 : (n : Int).tdiv 10 = (n : Int) / 10 := Int.tdiv_eq_ediv_of_nonneg (by omega)
      have e2 : (n : Int).tmod 10 = (n : Int) % 10 := Int.tmod_eq_emod_of_nonneg (by omega)
      have e3 : IntKind.i64.wrap ((n : Int) / 10) = (n : Int) / 10 := IntWalk.i64_in _ (by omega)
      have e4 : IntKind.i64.wrap ((n : Int) % 10) = (n : Int) % 10 := IntWalk.i64_in _ (by omega)
      have e5 : IntKind.i64.wrap ((n : Int) % 10 + 1) = (n : Int) % 10 + 1 := IntWalk.i64_in _ (by omega)
      have e6 : ((n : Int) % 10).toNat = n % 10 := by omega
      have e7 : ((n : Int) % 10 + 1).toNat = n % 10 + 1 := by omega
      have e8 : 0 ≤ (n : Int) % 10 := by omega
      have e9 : 0 ≤ (n : Int) % 10 + 1 := by omega
      have h10' : decide ((n : Int) < 10) = false := decide_eq_false (by omega)
      have h0' : decide ((n : Int) < 0) = false := decide_eq_false (by omega)
      have hm : n % 10 < 10 := Nat.mod_lt _ (by omega)
      have HI := Lib.hid (show ∀ w : World, Calls Tryd.prog 52 #[.int .i64 ((n : Int) / 10)] w (fun e w' => e = .returned (.string ⟨(Lib.decDigits (n / 10)).toArray⟩) ∧ ∃ m, w' = w.drewN m) from by have := ih (n / 10) (by omega) (by omega); rw [show ((n / 10 : Nat) : Int) = (n : Int) / 10 from by omega] at this; exact this); clear ih
      have HD := Lib.hid (show (⟨(Lib.decDigits (n / 10)).toArray⟩ ++ digs.extract (n % 10) (n % 10 + 1) : ByteArray) = ⟨(Lib.decDigits n).toArray⟩ by
        rw [digs_at' _ hm]; conv => rhs; rw [Lib.decDigits, dif_neg h10]
        apply WideShapes.bytes_inj; simp)
      have hA : (⟨(Lib.decDigits (n / 10)).toArray⟩ : ByteArray).size ≤ 1000001 := by
        show (List.toArray _).size ≤ _; rw [List.size_toArray]; have := dec_len (n / 10) (by omega); omega
      have hB : (digs.extract (n % 10) (n % 10 + 1)).size ≤ 1 := by rw [digs_at' _ hm]; exact Nat.le_refl _
      have hsl : ∀ W : World, (Instr.slice 9 (.string ⟨#[48, 49, 50, 51, 52, 53, 54, 55, 56, 57]⟩) (some (.int .i64 ((n : Int) % 10))) (some (.int .i64 ((n : Int) % 10 + 1))) none).run Tryd.prog W = .ok (.string (digs.extract (n % 10) (n % 10 + 1))) W := by
        intro W
        have := run_slice_string (P := Tryd.prog) (w := W) 9 digs .i64 .i64 ((n : Int) % 10) ((n : Int) % 10 + 1) Tryd.underlying9 (by omega) (by omega) (by show _ ≤ ((10 : Nat) : Int); omega)
        rw [e6, e7] at this; exact this
      clear e6 e7 e8 e9
      generalize digs.extract (n % 10) (n % 10 + 1) = sB at hB hsl HD
      generalize (⟨(Lib.decDigits (n / 10)).toArray⟩ : ByteArray) = sA at hA HI HD
      go_enter Tryd.func52, Tryd.ntmps52
      go_wp2
      go_quiet ((go_at_call 52; go_must (with_reducible exact Calls.quiet_of (HI.out _))))
      go_wp2
      go_ret
      exact num_mk HD.out ⟨_, rfl⟩

theorem itoa_nat (n : Nat) : Lib.itoa (n : Int) = Lib.decDigits n := by
  unfold Lib.itoa
  rw [if_neg (by omega)]
  congr 1
theorem itoa_neg (n : Nat) (h : 0 < n) : Lib.itoa (-(n : Int)) = 45 :: Lib.decDigits n := by
  unfold Lib.itoa
  rw [if_pos (by omega)]
  congr 2
  omega
theorem itoa_len (n : Int) (h0 : -1000000 ≤ n) (h1 : n ≤ 1000000) : (Lib.itoa n).length ≤ 1000002 := by
  unfold Lib.itoa
  split
  · have := dec_len n.natAbs (by omega); simp; omega
  · have := dec_len n.toNat (by omega); omega

set_option maxRecDepth 100000 in
set_option maxHeartbeats 400000 in
theorem num_any (n : Int) (h0 : -1000000 ≤ n) (h1 : n ≤ 1000000) (w : World) : Calls Tryd.prog 52 #[.int .i64 n] w (NumPost (Lib.itoa n) w) := by
  by_cases hneg : n < 0
  · obtain ⟨m, rfl⟩ : ∃ m : Nat, n = -(m : Int) := ⟨n.natAbs, by omega⟩
    have hm : 0 < m := by omega
    have HD := Lib.hid (show (⟨#[45]⟩ ++ ⟨(Lib.decDigits m).toArray⟩ : ByteArray) = ⟨(Lib.itoa (-(m : Int))).toArray⟩ by
      rw [itoa_neg m hm]; apply WideShapes.bytes_inj; simp)
    have HI := Lib.hid (show ∀ w : World, Calls Tryd.prog 52 #[.int .i64 (m : Int)] w (fun e w' => e = .returned (.string ⟨(Lib.decDigits m).toArray⟩) ∧ ∃ k, w' = w.drewN k) from num_nat m (by omega))
    have hA : (⟨(Lib.decDigits m).toArray⟩ : ByteArray).size ≤ 1000001 := by
      show (List.toArray _).size ≤ _; rw [List.size_toArray]; have := dec_len m (by omega); omega
    generalize (⟨(Lib.decDigits m).toArray⟩ : ByteArray) = sA at hA HI HD
    have hneg' : decide (-(m : Int) < 0) = true := decide_eq_true hneg
    go_enter Tryd.func52, Tryd.ntmps52
    go_wp2_with (go_at_call 52; go_must (with_reducible refine (HI.out _).mono ?_); rintro e w' ⟨rfl, k, rfl⟩)
    go_ret
    exact num_mk HD.out ⟨_, rfl⟩
  · obtain ⟨m, rfl⟩ : ∃ m : Nat, n = (m : Int) := ⟨n.toNat, by omega⟩
    rw [itoa_nat]
    exact num_nat m (by omega) w

/-! ### FormatInt -/
def fmtYes (n : Int) : Bool := inB n (-999999) 999999
def fmtRes (n : Int) : ByteArray := if fmtYes n = true then ⟨(Lib.itoa n).toArray⟩ else ⟨#[]⟩
def FmtPost (n : Int) (w : World) (e : Ending) (w' : World) : Prop := e = .returned (.tuple #[.string (fmtRes n), .bool (fmtYes n)]) ∧ Below w.heap.size w w'
theorem fmt_yes {n : Int} {w w' : World} (h : fmtYes n = true) (hw : Below w.heap.size w w') : FmtPost n w (.returned (.tuple #[.string ⟨(Lib.itoa n).toArray⟩, .bool true])) w' :=
  ⟨by rw [fmtRes, if_pos h, h], hw⟩
theorem fmt_no {n : Int} {w w' : World} (h : fmtYes n = false) (hw : Below w.heap.size w w') : FmtPost n w (.returned (.tuple #[.string ⟨#[]⟩, .bool false])) w' :=
  ⟨by rw [fmtRes, if_neg (by rw [h]; simp), h], hw⟩

def Tab (w : World) : Prop := Lib.TabIs Tryd.prog w "internal/strconv.uint64pow10" .u64 Lib.pow10Tab
theorem gPow : Tryd.prog.globalNamed "internal/strconv.uint64pow10" = some 0 := by kernel_rfl
theorem Tab.below {w w' : World} (h : Tab w) (hb : Below w.heap.size w w') : Tab w' := Joins.tab_stays gPow h hb (Nat.le_refl _)
theorem itoa_any (n : Int) (h0 : -9223372036854775808 ≤ n) (h1 : n ≤ 9223372036854775807) (w : World) (ht : Tab w) :
    Calls Tryd.prog 49 #[.int .i64 n] w fun e w' => e = .returned (.string ⟨(Lib.itoa n).toArray⟩) ∧ Below w.heap.size w w' :=
  (Tryd.strconv_Itoa n h0 h1 w ht).mono fun _ _ ⟨he, k, os, hw⟩ => ⟨he, hw ▸ Lib.below_grow _ _ (Nat.le_refl _) _ _⟩


end Go.Proofs.YtokgncbcknpfiaaDoor.Num
