/- The draw of a text of a brine, spoilt or not. -/
import Derived.Test.YtpblkkfafmcnpaaDoorDBrine
import Derived.Test.YtpblkkfafmcnpaaDoorPbr
namespace Go.Proofs.YtpblkkfafmcnpaaDoor.DBrine3
open Go.RowKit Go.Proofs.YtpblkkfafmcnpaaDoor.Mem Go.Proofs.YtpblkkfafmcnpaaDoor.Base Go.Proofs.YtpblkkfafmcnpaaDoor.Draw Go.Proofs.YtpblkkfafmcnpaaDoor.Boxes Go.Proofs.YtpblkkfafmcnpaaDoor.Keep Go.Proofs.YtpblkkfafmcnpaaDoor.Dr Go.Proofs.YtpblkkfafmcnpaaDoor.Brine Go.Proofs.YtpblkkfafmcnpaaDoor.DBrine
set_option linter.unusedVariables false
set_option maxRecDepth 100000
set_option maxHeartbeats 1600000 in
theorem spoilt_d (B : Nat) (zs : List Int) (p K : Nat) (w : World) (t : ByteArray) (h1 : 1 ≤ t.size) (h2 : t.size ≤ 60000) (C : Cu B zs p K w) (hK : K ≤ 700000000) :
    Calls Tryd.prog 32 #[.pointer (some ⟨p, 0, none⟩), .string t, .string ⟨#[119, 115, 32, 48, 49, 57]⟩] w fun e w' => ∃ s : ByteArray, s.size ≤ t.size + 1 ∧ e = .returned (.string s) ∧ Cu B zs p (K + 6) w' ∧ w.grownBy w' (some p) := by
  have ne : (t.toList == ([] : List UInt8)) = false := by
    rw [beq_eq_false_iff_ne]; intro h
    have := congrArg List.length h
    rw [ByteArray.toList_eq] at this
    have h3 : t.data.size = 0 := by simpa using this
    have h4 : t.size = t.data.size := rfl
    omega
  go_enter Tryd.func32, Tryd.ntmps32
  have hp := C.lt
  have hB := C.base
  have GW : w.grownBy w (some p) := grown_refl w _
  try go_wp2_with fail
  refine (pick_d B zs p (K) _ (t.size : Int) C (by omega) (by omega) (by omega)).mono ?_
  rintro e u1 ⟨i, i_r, rfl, C1, G⟩
  have yu1 : w.heap.size ≤ u1.heap.size := G.size
  replace GW := grown_trans GW G
  replace C := C1
  clear C1 G
  have zu1 := GW.size
  try go_wp2_with fail
  refine (pick_d B zs p (K + 2) _ 6 C (by omega) (by omega) (by omega)).mono ?_
  rintro e u2 ⟨j, j_r, rfl, C1, G⟩
  have yu2 : u1.heap.size ≤ u2.heap.size := G.size
  replace GW := grown_trans GW G
  replace C := C1
  clear C1 G
  have zu2 := GW.size
  obtain ⟨i, rfl⟩ : ∃ m : Nat, i = m := ⟨i.toNat, by omega⟩
  obtain ⟨j, rfl⟩ : ∃ m : Nat, j = m := ⟨j.toNat, by omega⟩
  have q1 : (j : Int) ≤ 6 := by omega
  have q2 : j ≤ 6 := by omega
  go_wp2_with fail
  obtain ⟨W, hW⟩ : ∃ W : ByteArray, (({ data := #[119, 115, 32, 48, 49, 57] } : ByteArray).extract j 6).extract 0 1 = W := ⟨_, rfl⟩
  have hws : W.size ≤ 1 := by rw [← hW, ByteArray.size_extract]; omega
  rw [hW]
  clear hW
  try go_wp2_with fail
  refine (pick_d B zs p (K + 2 + 2) _ 3 C (by omega) (by omega) (by omega)).mono ?_
  rintro e u3 ⟨z, z_r, rfl, C1, G⟩
  have yu3 : u2.heap.size ≤ u3.heap.size := G.size
  replace GW := grown_trans GW G
  replace C := C1
  clear C1 G
  have zu3 := GW.size
  have r1 : i ≤ t.size := by omega
  have r2 : (i : Int) ≤ t.size := by omega
  have r3 : i + 1 ≤ t.size := by omega
  have r4 : (i : Int) + 1 ≤ t.size := by omega
  have e1 : IntKind.i64.wrap ((i : Int) + 1) = (i : Int) + 1 := IntWalk.i64_in _ (by omega)
  have s1 : (t.extract 0 i).size ≤ t.size := by rw [ByteArray.size_extract]; omega
  have s2 : (t.extract i t.size).size ≤ t.size := by rw [ByteArray.size_extract]; omega
  have s3 : (t.extract (i + 1) t.size).size ≤ t.size := by rw [ByteArray.size_extract]; omega
  have s4 : (t.extract 0 i ++ W).size = (t.extract 0 i).size + W.size := ByteArray.size_append
  have b1 : (t.extract 0 i).size = i := by rw [ByteArray.size_extract]; omega
  have b2 : (t.extract i t.size).size = t.size - i := by rw [ByteArray.size_extract]; omega
  have b3 : (t.extract (i + 1) t.size).size = t.size - (i + 1) := by rw [ByteArray.size_extract]; omega
  have HBB := Lib.hid (And.intro b1 (And.intro b2 b3))
  clear b1 b2 b3
  by_cases hz0 : z = 0
  · subst hz0
    go_wp2_with fail
    go_quiet (fail)
    go_wp2
    go_ret
    exact ⟨t.extract 0 i ++ W ++ t.extract i t.size, by have := HBB.out; simp only [ByteArray.size_append]; omega, rfl, (C.more (Below.drewN' (Below.refl _ _) nq)).le (by omega), grown_more GW (Below.drewN' (Below.refl _ _) nq)⟩
  by_cases hz1 : z = 1
  · subst hz1
    go_wp2_with fail
    go_quiet (fail)
    go_wp2
    go_ret
    exact ⟨t.extract 0 i ++ W ++ t.extract (i + 1) t.size, by have := HBB.out; simp only [ByteArray.size_append]; omega, rfl, (C.more (Below.drewN' (Below.refl _ _) nq)).le (by omega), grown_more GW (Below.drewN' (Below.refl _ _) nq)⟩
  · obtain rfl : z = 2 := by omega
    go_wp2_with fail
    go_quiet (fail)
    go_wp2
    go_ret
    exact ⟨t.extract 0 i ++ t.extract (i + 1) t.size, by have := HBB.out; simp only [ByteArray.size_append]; omega, rfl, (C.more (Below.drewN' (Below.refl _ _) nq)).le (by omega), grown_more GW (Below.drewN' (Below.refl _ _) nq)⟩
theorem txt_size {a b : Int} (ha : 0 ≤ a) (ha1 : a ≤ 1000000) (hb : 0 ≤ b) (hb1 : b ≤ 1000000) : 1 ≤ (Text.txt a b).size ∧ (Text.txt a b).size ≤ 20 := by
  have e : ∀ n : Int, 0 ≤ n → n ≤ 1000000 → (Text.numS n).size ≤ 7 := fun n h0 h1 => by
    show (List.toArray _).size ≤ _
    rw [List.size_toArray, Pbr.itoa_pos n h0]
    exact Parse.dec_le 6 n.toNat (by omega)
  have e1 := e a ha ha1
  have e2 := e b hb hb1
  unfold Text.txt
  rw [ByteArray.size_append, ByteArray.size_append, ByteArray.size_append]
  have e3 : (⟨#[119]⟩ : ByteArray).size = 1 := rfl
  have e4 : (⟨#[32, 115]⟩ : ByteArray).size = 2 := rfl
  omega
def DS (w : World) (e : Ending) (w' : World) : Prop := (∃ s : ByteArray, s.size ≤ 1000 ∧ e = .returned (.string s)) ∧ Below w.heap.size w w'
set_option maxHeartbeats 1600000 in
theorem drawParse (A : Option Addr) (cap : Nat) (zs : List Int) (wo : World) (h : Src wo A zs) : Calls Tryd.prog 10 #[.slice A zs.length cap] wo (DS wo) := by
  have HC := Lib.hid (cu_at h cap (p := wo.heap.size) rfl)
  go_enter Tryd.func10, Tryd.ntmps10
  go_wp2_with fail
  have HB0 : Below wo.heap.size wo (wo.alloc (.cells #[.slice A zs.length cap, .int .i64 0, .int .u64 0] 56)) := al (Below.refl _ _)
  have C := HC.out
  have hsz : (wo.alloc (.cells #[.slice A zs.length cap, .int .i64 0, .int .u64 0] 56)).heap.size = wo.heap.size + 1 := size_alloc' _ _
  clear HC
  generalize wo.alloc (.cells #[.slice A zs.length cap, .int .i64 0, .int .u64 0] 56) = w at HB0 C hsz ⊢
  refine (brine_d wo.heap.size zs wo.heap.size 0 w C (by omega)).mono ?_
  rintro e w1 ⟨x, y, hxy, rfl, C1, G⟩
  have HB1 := below_of HB0 G (fun k hk => by injection hk with hk; omega)
  have D1 := Cb.new w1 [.int .i64 x, .int .i64 y] 25 (g := w1.heap.size) rfl
  have z1 := C1.lt
  clear G C HB0
  go_wp2_with fail
  refine (brine_spec x y _).mono ?_
  rintro e w2 ⟨rfl, hv⟩
  have D2 := D1.more hv
  have C2 := (C1.alloc (.cells #[.int .i64 x, .int .i64 y] 25)).more hv
  have HB2 := be (al HB1 (o := (.cells #[.int .i64 x, .int .i64 y] 25))) hv
  have c0 := D2.cells 0 _ rfl
  have c1 := D2.cells 1 _ rfl
  have t0 := D2.there
  clear hv D1 C1 HB1
  cases hok : okB x y
  · have HT := Lib.hid (show (9 : Nat) = 9 from rfl)
    clear D2
    go_wp2_with fail
    refine (one_d wo.heap.size zs wo.heap.size _ w2 4 C2 (by omega) (by omega) (by omega)).mono ?_
    rintro e w8 ⟨q, rfl, C8, G8⟩
    have HB8 := below_of HB2 G8 (fun k hk => by injection hk with hk; omega)
    clear G8
    cases q
    · go_wp2
      go_ret
      exact ⟨⟨_, by decide, rfl⟩, HB8⟩
    · go_wp2_with fail
      refine (spoilt_d wo.heap.size zs wo.heap.size _ w8 (⟨#[119, 57, 48, 48, 32, 115, 49, 48, 48]⟩) (by decide) (by decide) C8 (by omega)).mono ?_
      rintro e w9 ⟨s, hs, rfl, C9, G9⟩
      have HB9 := below_of HB8 G9 (fun k hk => by injection hk with hk; omega)
      clear G9
      go_wp2
      go_ret
      exact ⟨⟨s, by have h9 : (⟨#[119, 57, 48, 48, 32, 115, 49, 48, 48]⟩ : ByteArray).size = 9 := rfl; omega, rfl⟩, HB9⟩
  · obtain ⟨a0, a1, b0, b1⟩ := okB_true hok
    have HT := Lib.hid (txt_size a0 a1 b0 b1)
    have HTX := Lib.hid (fun u => Text.text_spec x y a0 a1 b0 b1 u)
    clear D2
    go_wp2_with fail
    refine (HTX.out w2).mono ?_
    rintro e w3 ⟨rfl, hv⟩
    have C3 := C2.more hv
    have HB3 := be HB2 hv
    clear hv C2 HB2 HTX
    go_wp2_with fail
    refine (one_d wo.heap.size zs wo.heap.size _ w3 4 C3 (by omega) (by omega) (by omega)).mono ?_
    rintro e w8 ⟨q, rfl, C8, G8⟩
    have HB8 := below_of HB3 G8 (fun k hk => by injection hk with hk; omega)
    clear G8
    cases q
    · go_wp2
      go_ret
      exact ⟨⟨_, by have := HT.out; omega, rfl⟩, HB8⟩
    · go_wp2_with fail
      refine (spoilt_d wo.heap.size zs wo.heap.size _ w8 (Text.txt x y) (by have := HT.out; omega) (by have := HT.out; omega) C8 (by omega)).mono ?_
      rintro e w9 ⟨s, hs, rfl, C9, G9⟩
      have HB9 := below_of HB8 G9 (fun k hk => by injection hk with hk; omega)
      clear G9
      go_wp2
      go_ret
      exact ⟨⟨s, by have := HT.out; omega, rfl⟩, HB9⟩
end Go.Proofs.YtpblkkfafmcnpaaDoor.DBrine3
