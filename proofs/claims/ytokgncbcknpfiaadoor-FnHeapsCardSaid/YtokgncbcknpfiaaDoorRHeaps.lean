/- What FnStacks and FnHeaps compare lists of heaps and tables by: rHeaps, rTable; both for lists that are the same. -/
import Derived.Test.YtokgncbcknpfiaaDoorRLaw
import Derived.Test.YtokgncbcknpfiaaDoorHeapG
import Derived.Test.YtokgncbcknpfiaaDoorTabS
import Derived.Test.YtokgncbcknpfiaaDoorRegn
namespace Go.Proofs.YtokgncbcknpfiaaDoor.RHeaps
open Go.RowKit Go.Proofs.YtokgncbcknpfiaaDoor.Mem Go.Proofs.YtokgncbcknpfiaaDoor.Base Go.Proofs.YtokgncbcknpfiaaDoor.Within Go.Proofs.YtokgncbcknpfiaaDoor.SInt Go.Proofs.YtokgncbcknpfiaaDoor.Boxes Go.Proofs.YtokgncbcknpfiaaDoor.Keep Go.Proofs.YtokgncbcknpfiaaDoor.Regn Go.Proofs.YtokgncbcknpfiaaDoor.Nest Go.Proofs.YtokgncbcknpfiaaDoor.HeapS Go.Proofs.YtokgncbcknpfiaaDoor.HeapW Go.Proofs.YtokgncbcknpfiaaDoor.Heap Go.Proofs.YtokgncbcknpfiaaDoor.HeapG
set_option linter.unusedVariables false
set_option maxRecDepth 100000
theorem cell_kept {w w' : World} {b o : Nat} {v : Value} (h : w.cell? ⟨b, o, none⟩ = some v) (hb : Below w.heap.size w w') : w'.cell? ⟨b, o, none⟩ = some v :=
  ((bcell hb).1 _ _ (World.block_lt_of_cell? w _ h)).trans h
theorem bne_b (q : Bool) : (q != q) = false := by cases q <;> rfl
set_option maxHeartbeats 4000000 in
theorem rheaps_same (A A' : Option Addr) (cap cap' : Nat) (l m : List R) (w : World) (hr : Hs w w.heap.size A l) (hr' : Hs w w.heap.size A' m) (he : pl l = pl m) :
    Calls Tryd.prog 8 #[.slice A l.length cap, .slice A' m.length cap'] w (RPost (.bool true) w) := by
  have hn := hr.len
  have hl : m.length = l.length := by rw [← pl_len m, ← pl_len l, he]
  have HR := Lib.hid hr; clear hr
  have HR' := Lib.hid hr'; clear hr'
  have HE := Lib.hid he; clear he
  have HL := Lib.hid hl
  rw [hl]
  clear hl
  go_enter Tryd.func8, Tryd.ntmps8
  go_wp2_with fail
  go_loopw [5] (fun i wr => ∃ k : Nat, k ≤ l.length ∧ i = .int .i64 k ∧ Below w.heap.size w wr) (fun i _ => l.length - (intOf i).toNat)
  case atStart => exact ⟨0, Nat.zero_le _, rfl, Below.refl _ _⟩
  case round =>
    obtain ⟨k, hk, rfl, hB⟩ := hrel
    by_cases hlt : k < l.length
    · have hlt' : k < m.length := by have := HL.out; omega
      obtain ⟨x, hx⟩ : ∃ x, l[k] = x := ⟨_, rfl⟩
      obtain ⟨y, hy⟩ : ∃ y, m[k] = y := ⟨_, rfl⟩
      obtain ⟨b, o, rfl, hb, h0, h1, h2, h3⟩ := hs_at HR.out hB hlt hx
      obtain ⟨b', o', rfl, hb', k0, k1, k2, k3⟩ := hs_at HR'.out hB hlt' hy
      have hrx := (HR.out.row hlt).1.below hB (Nat.le_refl _) |>.mono hB.size
      have hry := (HR'.out.row hlt').1.below hB (Nat.le_refl _) |>.mono hB.size
      have nx := (HR.out.row hlt).2
      have hp : x.pure = y.pure := by
        rw [← pl_x hlt hx, ← pl_x hlt' hy]
        congr 1
      rw [hx] at hrx nx
      rw [hy] at hry
      have HLT := Lib.hid hlt
      clear hx hy hb hb' hlt'
      obtain ⟨a, g, ⟨A1, c1, ls⟩, q⟩ := x
      obtain ⟨a', g', ⟨A2, c2, ls'⟩, q'⟩ := y
      simp only [R.pure, H.mk.injEq] at hp
      obtain ⟨rfl, rfl, rfl, rfl⟩ := hp
      dsimp only at h0 h1 h2 h3 k0 k1 k2 k3 hrx hry nx
      have HC := Lib.hid (show ∀ u : World, Rd u u.heap.size A1 (iv ls) → Rd u u.heap.size A2 (iv ls) → Calls Tryd.prog 35 #[.slice A1 ls.length c1, .slice A2 ls.length c2] u (RPost (.bool true) u) from fun u h5 h6 => (RLaw.rints_same A1 A2 c1 c2 ls u h5 h6 nx).mono fun e w' h => ⟨h.1, h.2.below _⟩)
      clear nx
      have b0 : (a != a) = false := by simp
      have b1 : (g != g) = false := by simp
      have b2 := bne_b q
      have HX := hB
      have hwb := hB
      clear hB
      go_wp2_with fail
      refine wp_region_text (fun w' => w'.cell? ⟨b, o + k * 4, none⟩ = some (.int .i64 a) ∧ w'.cell? ⟨b, o + k * 4 + 1, none⟩ = some (.int .i64 g) ∧ w'.cell? ⟨b, o + k * 4 + 2, none⟩ = some (.slice A1 ls.length c1) ∧ w'.cell? ⟨b, o + k * 4 + 3, none⟩ = some (.bool q) ∧ w'.cell? ⟨b', o' + k * 4, none⟩ = some (.int .i64 a) ∧ w'.cell? ⟨b', o' + k * 4 + 1, none⟩ = some (.int .i64 g) ∧ w'.cell? ⟨b', o' + k * 4 + 2, none⟩ = some (.slice A2 ls.length c2) ∧ w'.cell? ⟨b', o' + k * 4 + 3, none⟩ = some (.bool q) ∧ Rd w' w'.heap.size A1 (iv ls) ∧ Rd w' w'.heap.size A2 (iv ls) ∧ Below w.heap.size w w' ∧ Below w.heap.size w w') (by kernel_rfl) (by kernel_rfl) ⟨cell_kept h0 (Below.refl _ _).drew, cell_kept h1 (Below.refl _ _).drew, cell_kept h2 (Below.refl _ _).drew, cell_kept h3 (Below.refl _ _).drew, cell_kept k0 (Below.refl _ _).drew, cell_kept k1 (Below.refl _ _).drew, cell_kept k2 (Below.refl _ _).drew, cell_kept k3 (Below.refl _ _).drew, rd_keep hrx (Below.refl _ _).drew, rd_keep hry (Below.refl _ _).drew, be HX (Below.refl _ _).drew, be hwb (Below.refl _ _).drew⟩ ?_
      iterate 51 (
        apply SeqH.one
        · intro uw K hS hK
          obtain ⟨qh0, qh1, qh2, qh3, qk0, qk1, qk2, qk3, qhrx, qhry, qHX, qhwb⟩ := hS
          first
            | (go_simp; exact hK.out _ ⟨qh0, qh1, qh2, qh3, qk0, qk1, qk2, qk3, qhrx, qhry, qHX, qhwb⟩)
            | (go_simp; go_at_call 35; (with_reducible refine (HC.out _ qhrx qhry).mono ?_); rintro e uw1 ⟨rfl, hv⟩; go_wp2_with fail; exact hK.out _ ⟨cell_kept qh0 hv, cell_kept qh1 hv, cell_kept qh2 hv, cell_kept qh3 hv, cell_kept qk0 hv, cell_kept qk1 hv, cell_kept qk2 hv, cell_kept qk3 hv, rd_keep qhrx hv, rd_keep qhry hv, be qHX hv, be qhwb hv⟩)
        try simp only [Act.put, List.setIfInBounds_toArray, List.set_cons_zero, List.set_cons_succ])
      refine SeqH.end' rfl ?_
      intro v1 hS
      clear h0 h1 h2 h3 k0 k1 k2 k3 hrx hry HX hwb
      obtain ⟨h0, h1, h2, h3, k0, k1, k2, k3, hrx, hry, HX, hwb⟩ := hS
      go_wp2
      go_roundw
      case rel => exact ⟨k + 1, HLT.out, by go_num, HX⟩
      case measure => have := HLT.out; simp [intOf]; omega
    · go_wp2
      go_ret
      exact ⟨rfl, hB⟩
end Go.Proofs.YtokgncbcknpfiaaDoor.RHeaps
