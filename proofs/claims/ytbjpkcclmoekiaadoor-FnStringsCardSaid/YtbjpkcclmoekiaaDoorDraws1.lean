/- The draws of chapter 1: each returns something of its kind; nothing that was there changes. -/
import Derived.Test.YtbjpkcclmoekiaaDoorDraw
import Derived.Test.YtbjpkcclmoekiaaDoorNum
import Derived.Laws.BytesArg
namespace Go.Proofs.YtbjpkcclmoekiaaDoor.Draws1
open Go.RowKit Go.Proofs.YtbjpkcclmoekiaaDoor.Mem Go.Proofs.YtbjpkcclmoekiaaDoor.Base Go.Proofs.YtbjpkcclmoekiaaDoor.Num Go.Proofs.YtbjpkcclmoekiaaDoor.Draw
set_option linter.unusedVariables false

/-- A draw of a number within a bound. -/
def DInt (lo hi : Int) (w : World) (e : Ending) (w' : World) : Prop := (∃ x : Int, lo ≤ x ∧ x ≤ hi ∧ e = .returned (.int .i64 x)) ∧ Below w.heap.size w w'
/-- A draw of a text of at most n bytes. -/
def DStr (n : Nat) (w : World) (e : Ending) (w' : World) : Prop := (∃ x : ByteArray, x.size ≤ n ∧ e = .returned (.string x)) ∧ Below w.heap.size w w'

set_option maxRecDepth 100000 in
set_option maxHeartbeats 1000000 in
theorem drawFormatInt (A : Option Addr) (cap : Nat) (zs : List Int) (w : World) (h : Src w A zs) :
    Calls Tryd.prog 11 #[.slice A zs.length cap] w (DInt (-1000000) 1000000 w) := by
  have HC := Lib.hid (cur_new h cap); clear h
  go_enter Tryd.func11, Tryd.ntmps11
  go_wp2_with fail
  refine (pick_any _ zs _ _ 0 1000 HC.out (by omega) (by omega) (by omega)).mono ?_
  rintro e w1 ⟨⟨x, h0, h1, rfl⟩, hW⟩
  obtain ⟨k1, hk1, hC1⟩ := hW.1
  have HC1 := Lib.hid hC1; clear hC1
  have HB1 := Lib.hid (went_below ((Below.refl _ w).alloc (Nat.le_refl _) _) (Nat.le_refl _) hW.2); clear hW
  go_wp2_with fail
  refine (among_any _ zs _ _ k1 w1.heap.size 9 [0, 1, -1, 10, 999999, -999999, 1000000, -1000000, x - 500] (HC1.out.alloc _) (by omega) (lst_new w1 _ _) (by have := HC1.out.lt; omega) (by simp) (by simp)).mono ?_
  rintro e w2 ⟨⟨y, hy, rfl⟩, hW2⟩
  have HB2 := Lib.hid (went_below (HB1.out.alloc HB1.out.size _) (Nat.le_refl _) hW2.2); clear hW2
  have hy2 : -1000000 ≤ y ∧ y ≤ 1000000 := by simp at hy; omega
  clear hy
  go_wp2
  go_ret
  exact ⟨⟨y, hy2.1, hy2.2, rfl⟩, HB2.out⟩

def parseL : List ByteArray := [⟨#[]⟩, ⟨#[45]⟩, ⟨#[45, 48]⟩, ⟨#[48, 48]⟩, ⟨#[48, 49]⟩, ⟨#[45, 45, 49]⟩, ⟨#[49, 120]⟩, ⟨#[57, 57, 57, 57, 57, 57]⟩, ⟨#[49, 48, 48, 48, 48, 48, 48]⟩, ⟨#[45, 57, 57, 57, 57, 57, 57]⟩, ⟨#[49, 56, 52, 52, 54, 55, 52, 52, 48, 55, 51, 55, 48, 57, 53, 53, 49, 54, 49, 55]⟩]
theorem parseL_size : ∀ x ∈ parseL, x.size ≤ 20 := by decide
set_option maxRecDepth 100000 in
set_option maxHeartbeats 1000000 in
theorem drawParseInt (A : Option Addr) (cap : Nat) (zs : List Int) (w : World) (h : Src w A zs) :
    Calls Tryd.prog 14 #[.slice A zs.length cap] w (DStr 1000002 w) := by
  have HC := Lib.hid (cur_new h cap); clear h
  go_enter Tryd.func14, Tryd.ntmps14
  go_wp2_with fail
  refine (one_any _ zs _ _ 0 2 HC.out (by omega) (by omega) (by omega)).mono ?_
  rintro e w1 ⟨⟨b, rfl⟩, hW⟩
  obtain ⟨k1, hk1, hC1⟩ := hW.1
  have HC1 := Lib.hid hC1; clear hC1
  have HB1 := Lib.hid (went_below ((Below.refl _ w).alloc (Nat.le_refl _) _) (Nat.le_refl _) hW.2); clear hW
  cases b
  · go_wp2_with fail
    refine (pick_any _ zs _ _ k1 2000 HC1.out (by omega) (by omega) (by omega)).mono ?_
    rintro e w2 ⟨⟨x, h0, h1, rfl⟩, hW⟩
    have HB2 := Lib.hid (went_below HB1.out (Nat.le_refl _) hW.2); clear hW
    have hn : (⟨(Lib.itoa (x - 1000)).toArray⟩ : ByteArray).size ≤ 1000002 := by
      show (List.toArray _).size ≤ _; rw [List.size_toArray]; exact itoa_len _ (by omega) (by omega)
    go_wp2_with fail
    refine (num_any (x - 1000) (by omega) (by omega) w2).mono ?_
    rintro e w3 ⟨rfl, q, rfl⟩
    generalize (⟨(Lib.itoa (x - 1000)).toArray⟩ : ByteArray) = R at hn
    go_wp2
    go_ret
    exact ⟨⟨R, hn, rfl⟩, Below.drewN' HB2.out _⟩
  · go_wp2_with fail
    refine (of_any _ zs _ _ k1 w1.heap.size 11 parseL (HC1.out.alloc _) (by omega) (lst_new w1 (parseL.map Value.string) _) (by have := HC1.out.lt; omega) (by decide) (by decide)).mono ?_
    rintro e w2 ⟨⟨y, hy, rfl⟩, hW2⟩
    have HB2 := Lib.hid (went_below (HB1.out.alloc HB1.out.size _) (Nat.le_refl _) hW2.2); clear hW2
    have hs := parseL_size y hy
    clear hy
    go_wp2
    go_ret
    exact ⟨⟨y, by omega, rfl⟩, HB2.out⟩

theorem info_u8 : (Tryd.prog.info? 5).map (fun i => (i.zero, i.size, i.bytes)) = some (some (.int .u8 0), 1, 1) := by kernel_rfl
set_option maxRecDepth 100000 in
set_option maxHeartbeats 1000000 in
theorem drawAppendChecksum (A : Option Addr) (cap : Nat) (zs : List Int) (w : World) (h : Src w A zs) :
    Calls Tryd.prog 17 #[.slice A zs.length cap] w (DStr 4000 w) := by
  have HC := Lib.hid (cur_new h cap); clear h
  go_enter Tryd.func17, Tryd.ntmps17
  go_wp2_with fail
  refine (one_any _ zs _ _ 0 20 HC.out (by omega) (by omega) (by omega)).mono ?_
  rintro e w1 ⟨⟨b, rfl⟩, hW⟩
  obtain ⟨k1, hk1, hC1⟩ := hW.1
  have HC1 := Lib.hid hC1; clear hC1
  have HB1 := Lib.hid (went_below ((Below.refl _ w).alloc (Nat.le_refl _) _) (Nat.le_refl _) hW.2); clear hW
  cases b
  · go_wp2_with fail
    refine (any1_any _ zs _ _ k1 HC1.out (by omega)).mono ?_
    rintro e w2 ⟨⟨y, hy, rfl⟩, hW2⟩
    have HB2 := Lib.hid (went_below HB1.out (Nat.le_refl _) hW2.2); clear hW2
    go_wp2
    go_ret
    exact ⟨⟨y, by omega, rfl⟩, HB2.out⟩
  · go_wp2_with fail
    refine (pick_any _ zs _ _ k1 10 HC1.out (by omega) (by omega) (by omega)).mono ?_
    rintro e w2 ⟨⟨x, h0, h1, rfl⟩, hW⟩
    have HB2 := Lib.hid (went_below HB1.out (Nat.le_refl _) hW.2); clear hW
    obtain ⟨j, rfl⟩ : ∃ j : Nat, x = j := ⟨x.toNat, by omega⟩
    obtain ⟨n, hn⟩ : ∃ n : Nat, n = 3990 + j := ⟨_, rfl⟩
    have hL : (3990 : Int) + j = (n : Int) := by omega
    have HL := Lib.hid hL; clear hL
    have hn4 : n ≤ 3999 := by omega
    have HN := Lib.hid hn; clear hn
    obtain ⟨i0, hi, hz0, hz1, hz2⟩ := info_parts info_u8
    have HI := Lib.hid hz2; clear hz2
    have HI1 := Lib.hid hz1; clear hz1
    have c1 : i0.bytes * n ≤ 281474976710656 := by rw [HI.out]; omega
    have c2 : n ≤ maxLen := by unfold maxLen; omega
    go_wp2_with (at_make; go_must (refine wpList_make_full _ rfl _ _ 22 rfl w.heap.size 5 i0 _ 1 Tryd.underlying22 hi hz0 HI1.out _ _ _ _ n rfl rfl HL.out HL.out c1 c2 HB2.out.size ?_; intro w3 hown hg3))
    have HB3 := Lib.hid (HB2.out.grown hg3 HB2.out.size (by intro k hk; cases hk)); clear hg3
    have hcv := run_convert_bytes_arg (P := Tryd.prog) w3 22 5 Tryd.underlying22 Tryd.underlying5 w2.heap.size 0 n n (List.replicate n 0) (by simp) (fun i hi => by
      rw [Nat.zero_add, hown.cellAt i (by omega)]
      simp [Value.cells, toList_madeCells_one, hi]) 9 Tryd.underlying9
    have hsz : (strOfNums (List.replicate n 0)).size ≤ 4000 := by rw [strOfNums_size]; simp; omega
    clear hown
    generalize strOfNums (List.replicate n 0) = R at hcv hsz
    go_wp2
    rw [hcv]
    go_simp
    go_wp2
    go_ret
    exact ⟨⟨R, hsz, rfl⟩, HB3.out⟩
end Go.Proofs.YtbjpkcclmoekiaaDoor.Draws1
