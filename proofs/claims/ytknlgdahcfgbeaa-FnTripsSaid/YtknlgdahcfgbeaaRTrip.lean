/- What FnTrips and FnTracks compare lists by: rTrips, rTable; both for lists that are the same. Made by tools/mk_rtrip.py. -/
import Derived.Test.YtknlgdahcfgbeaaRLaw
import Derived.Test.YtknlgdahcfgbeaaTripT
import Derived.Test.YtknlgdahcfgbeaaTabS
import Derived.Test.YtknlgdahcfgbeaaRegn
namespace Go.Proofs.Ytknlgdahcfgbeaa.RTrip
open Go.RowKit Go.Proofs.Ytknlgdahcfgbeaa.Mem Go.Proofs.Ytknlgdahcfgbeaa.Base Go.Proofs.Ytknlgdahcfgbeaa.Within Go.Proofs.Ytknlgdahcfgbeaa.SInt Go.Proofs.Ytknlgdahcfgbeaa.Boxes Go.Proofs.Ytknlgdahcfgbeaa.Keep Go.Proofs.Ytknlgdahcfgbeaa.Regn Go.Proofs.Ytknlgdahcfgbeaa.Nest
open Go.Proofs.Ytknlgdahcfgbeaa.STrip
open Go.Proofs.Ytknlgdahcfgbeaa.TripS (cells5)
set_option linter.unusedVariables false
set_option maxRecDepth 100000

theorem cell_kept {w w' : World} {b o : Nat} {v : Value} (h : w.cell? ⟨b, o, none⟩ = some v) (hb : Below w.heap.size w w') : w'.cell? ⟨b, o, none⟩ = some v :=
  ((bcell hb).1 _ _ (World.block_lt_of_cell? w ⟨b, o, none⟩ h)).trans h
set_option maxHeartbeats 2000000 in
theorem rtab_same (A A' : Option Addr) (cap cap' : Nat) (l m : List Row) (w : World) (hr : TabS.Ts w w.heap.size A l) (hr' : TabS.Ts w w.heap.size A' m) (he : TabS.tp l = TabS.tp m) :
    Calls Try.prog 8 #[.slice A l.length cap, .slice A' m.length cap'] w (RPost (.bool true) w) := by
  have hn := hr.len
  have hl : m.length = l.length := by rw [← TabS.tp_len m, ← TabS.tp_len l, he]
  have HR := Lib.hid hr; clear hr
  have HR' := Lib.hid hr'; clear hr'
  have HE := Lib.hid he; clear he
  have HL := Lib.hid hl
  rw [hl]
  clear hl
  go_enter Try.func8, Try.ntmps8
  go_wp2_with fail
  go_loopw [5] (fun i wr => ∃ k : Nat, k ≤ l.length ∧ i = .int .i64 k ∧ Below w.heap.size w wr) (fun i _ => l.length - (intOf i).toNat)
  case atStart => exact ⟨0, Nat.zero_le _, rfl, Below.refl _ _⟩
  case round =>
    obtain ⟨k, hk, rfl, hB⟩ := hrel
    by_cases hlt : k < l.length
    · have hlt' : k < m.length := by have := HL.out; omega
      obtain ⟨x, hx⟩ : ∃ x, l[k] = x := ⟨_, rfl⟩
      obtain ⟨y, hy⟩ : ∃ y, m[k] = y := ⟨_, rfl⟩
      have hS := HR.out.keep hB
      have hS' := HR'.out.keep hB
      obtain ⟨b, o, rfl, hb, h0⟩ := hS.at hlt hx
      obtain ⟨b', o', rfl, hb', k0⟩ := hS'.at hlt' hy
      have hrow := hS.row hlt hx
      have hrow' := hS'.row hlt' hy
      have hp : x.ls = y.ls := by
        have e1 := TabS.tp_get l k hlt
        have e2 := TabS.tp_get m k hlt'
        rw [hx] at e1; rw [hy] at e2
        rw [← e1, ← e2]
        congr 1
      clear hx hy hb hb' hlt' hS hS'
      have HLT := Lib.hid hlt
      obtain ⟨A1, c1, ls⟩ := x
      obtain ⟨A2, c2, ls'⟩ := y
      dsimp only at hp
      subst hp
      dsimp only at h0 k0 hrow hrow'
      have HRW := Lib.hid hrow; have HRW' := Lib.hid hrow'
      have HX := Lib.hid hB
      clear hrow hrow' hB
      go_wp2_with fail
      go_still_tail 8, (by kernel_rfl)
      obtain ⟨w2, hw2⟩ : ∃ W : World, W = wr.drew := ⟨_, rfl⟩
      change wpList _ _ _ _ _ wr.drew
      rw [← hw2]
      have hbd : Below wr.heap.size wr w2 := by rw [hw2]; exact (Below.refl _ _).drew
      have HX2 := Lib.hid (be HX.out hbd)
      have hrx := rd_keep HRW.out.1 hbd
      have hry := rd_keep HRW'.out.1 hbd
      clear hw2 h0 k0 hbd
      go_wp2_with fail
      refine (RLaw.rints_same A1 A2 c1 c2 ls w2 hrx hry HRW.out.2).mono ?_
      rintro e w3 ⟨rfl, hB3⟩
      have HX3 := Lib.hid (be HX2.out (hB3.below _)); clear hB3 hrx hry
      go_wp2
      go_roundw
      case rel => exact ⟨k + 1, HLT.out, by go_num, HX3.out⟩
      case measure => have := HLT.out; simp [intOf]; omega
    · go_wp2
      go_ret
      exact ⟨rfl, hB⟩
set_option maxHeartbeats 800000 in
theorem rtrips_same (A A' : Option Addr) (cap cap' : Nat) (l : List R) (w : World) (hr : Rd w w.heap.size A (flat l)) (hr' : Rd w w.heap.size A' (flat l)) (hn : l.length ≤ maxLen) :
    Calls Try.prog 18 #[.slice A l.length cap, .slice A' l.length cap'] w (RPost (.bool true) w) := by
  unfold maxLen at hn
  have HR := Lib.hid hr; clear hr
  have HR' := Lib.hid hr'; clear hr'
  go_enter Try.func18, Try.ntmps18
  go_wp2
  go_loopw [5] (fun i wr => ∃ k : Nat, k ≤ l.length ∧ i = .int .i64 k ∧ Below w.heap.size w wr) (fun i _ => l.length - (intOf i).toNat)
  case atStart => exact ⟨0, Nat.zero_le _, rfl, Below.refl _ _⟩
  case round =>
    obtain ⟨k, hk, rfl, HB⟩ := hrel
    by_cases hlt : k < l.length
    · obtain ⟨b, o, rfl, hb, hc⟩ := HR.out.at (k := k * 5) (by rw [flat_n]; omega)
      obtain ⟨b', o', rfl, hb', hc'⟩ := HR'.out.at (k := k * 5) (by rw [flat_n]; omega)
      obtain ⟨x, hx⟩ : ∃ x, l[k] = x := ⟨_, rfl⟩
      obtain ⟨h0, h1, h2, h3, h4⟩ := cells5 HB hb hc hlt hx
      obtain ⟨k0, k1, k2, k3, k4⟩ := cells5 HB hb' hc' hlt hx
      clear hc hc' hx
      go_wp2
      go_quiet (fail)
      go_wp2
      exact ⟨⟨k + 1, hlt, by go_num, Below.drewN' HB _⟩, by simp [intOf]; omega⟩
    · obtain rfl : k = l.length := by omega
      go_wp2
      go_ret
      exact rpost rfl HB
end Go.Proofs.Ytknlgdahcfgbeaa.RTrip
