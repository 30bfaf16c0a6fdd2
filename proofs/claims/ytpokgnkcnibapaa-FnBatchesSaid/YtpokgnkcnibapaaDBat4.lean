/- The draw of CounterCurrent; rows of batches that are the same. Made by tools/mk_dbat4.py. -/
import Derived.Test.YtpokgnkcnibapaaDBat2
import Derived.Test.YtpokgnkcnibapaaBatC
import Derived.Deep.Cut
import Derived.Deep.CutBlock
import Derived.Deep.DeepCutAuto
namespace Go.Proofs.Ytpokgnkcnibapaa.DBat4
open Go.RowKit Go.Proofs.Ytpokgnkcnibapaa.Mem Go.Proofs.Ytpokgnkcnibapaa.Base Go.Proofs.Ytpokgnkcnibapaa.Draw Go.Proofs.Ytpokgnkcnibapaa.Boxes Go.Proofs.Ytpokgnkcnibapaa.Keep Go.Proofs.Ytpokgnkcnibapaa.Dr
open Go.Proofs.Ytpokgnkcnibapaa.SBatch hiding RPost rpost
open Go.Proofs.Ytpokgnkcnibapaa.DBat Go.Proofs.Ytpokgnkcnibapaa.DBat2
set_option linter.unusedVariables false
set_option linter.unusedSimpArgs false
set_option maxRecDepth 100000
theorem own_some0 {w : World} {base : Nat} {e : TypeId} {size n : Nat} {v : Value} {xs : List Value} (h : w.ownsRow base e size v n xs) (hv : v ≠ .slice none 0 0) : ∃ g c, v = .slice (some ⟨g, 0, none⟩) n c := by
  rcases h.2 with ⟨h1, _⟩ | ⟨g, cap, cur, h1, _⟩
  · exact absurd h1 hv
  · exact ⟨g, cap, h1⟩
theorem cell_add3 (w : World) (b o j : Nat) : w.cell? (Addr.add ⟨b, o, none⟩ j) = w.cell? ⟨b, o + j, none⟩ := by
  unfold Addr.add; split
  · rename_i h; subst h; rfl
  · rfl
theorem new3 (W : World) (a b c : Int) : ∀ j u, [Value.int .i64 a, .int .i64 b, .int .i64 c][j]? = some u →
    (W.alloc (.cells #[.int .i64 a, .int .i64 b, .int .i64 c] 25)).cell? ((⟨W.heap.size, 0, none⟩ : Addr).add j) = some u := by
  intro j u hu
  rw [cell_add3, Nat.zero_add, World.cell?_alloc_at _ _ _ _ rfl]
  simpa using hu
theorem one3 (a b c : Int) : ∀ u ∈ [Value.int .i64 a, .int .i64 b, .int .i64 c], u.oneCell' = true := by
  intro u hu; simp at hu; rcases hu with rfl | rfl | rfl <;> rfl
theorem flat_snoc (l : List R) (a b c : Int) : flat (l ++ [⟨a, b, c⟩]) = flat l ++ [Value.int .i64 a, .int .i64 b, .int .i64 c] := by simp [flat, R.cells]
def slen : Value → Nat
  | .slice _ n _ => n
  | _ => 0
def DL (w : World) (e : Ending) (w' : World) : Prop :=
  ∃ (L : List R) (g c : Nat) (a : Int), L.length ≤ 11 ∧ e = .returned (.tuple #[.slice (some ⟨g, 0, none⟩) L.length c, .int .i64 a]) ∧ w'.ownsRow w.heap.size 25 3 (.slice (some ⟨g, 0, none⟩) L.length c) L.length (flat L) ∧ Below w.heap.size w w'
set_option maxHeartbeats 3200000 in
theorem drawCC (A : Option Addr) (cap : Nat) (zs : List Int) (w : World) (h : Draw.Src w A zs) : Calls Try.prog 29 #[.slice A zs.length cap] w (DL w) := by
  obtain ⟨i0, hi0, hz0, hz1, hz2⟩ := info_parts info_T
  have HI := Lib.hid hz2; clear hz2
  have HI1 := Lib.hid hz1; clear hz1
  have C0 := cu_at h cap (p := w.heap.size) rfl
  have G0 : w.grownBy (w.alloc (.cells #[.slice A zs.length cap, .int .i64 0, .int .u64 0] 66)) (some w.heap.size) := grown_alloc w _ _
  have S0 : (w.alloc (.cells #[.slice A zs.length cap, .int .i64 0, .int .u64 0] 66)).heap.size = w.heap.size + 1 := size_alloc' _ _
  have H0 := Lib.hid (And.intro C0 (And.intro G0 S0)); clear C0 G0 S0 h
  go_enter Try.func29, Try.ntmps29
  go_upto_region 2 with fail
  obtain ⟨C0, GW0, sv⟩ := H0.out
  clear H0
  generalize w.alloc (.cells #[.slice A zs.length cap, .int .i64 0, .int .u64 0] 66) = v at C0 GW0 sv ⊢
  obtain ⟨p, hpp⟩ : ∃ p, w.heap.size = p := ⟨_, rfl⟩
  rw [hpp] at C0 GW0 sv ⊢
  obtain ⟨B, C⟩ : ∃ B, Cu B zs p 0 v := ⟨_, C0⟩
  clear C0
  have hp := C.lt
  have hB := C.base
  have svl : p < v.heap.size := by omega
  clear sv
  have GW : v.grownBy v (some p) := grown_refl v _
  have O := BatC.empty_own (Below.refl _ v)
  replace C := C.alloc (.cells #[] 25)
  replace GW := grown_trans GW (grown_alloc _ (.cells #[] 25) _)
  have sv0 := size_alloc' v (.cells #[] 25)
  go_wp2_with fail
  generalize v.alloc (.cells #[] 25) = v0 at C GW O sv0 ⊢
  have zv0 := GW.size
  try go_wp2_with fail
  refine (pick_d B zs p (0) _ 5 C (by omega) (by omega) (by omega)).mono ?_
  rintro e u121 ⟨n0, n0_r, rfl, C1, G⟩
  have yu121 : v0.heap.size ≤ u121.heap.size := G.size
  replace O := own_grown O G (fun k hk => by injection hk with hk; omega)
  replace GW := grown_trans GW G
  replace C := C1
  clear C1 G
  have zu121 := GW.size
  obtain ⟨m, rfl⟩ : ∃ m : Nat, n0 = m := ⟨n0.toNat, by omega⟩
  have hm4 : m < 5 := by omega
  go_wp2_with fail
  go_loopw [5, 6] (fun oo nn wr => ∃ (n : Nat) (L : List R) (g c : Nat), nn = .int .i64 n ∧ oo = .slice (some ⟨g, 0, none⟩) L.length c ∧ L.length + n = m ∧ wr.ownsRow v.heap.size 25 3 (.slice (some ⟨g, 0, none⟩) L.length c) L.length (flat L) ∧ Cu B zs p (2 + 30 * L.length) wr ∧ v.grownBy wr (some p)) (fun _ nn _ => (intOf nn).toNat)
  case atStart => exact ⟨m, [], _, _, rfl, rfl, by simp, O, C.le (by simp), GW⟩
  case round =>
    clear O C GW zv0
    obtain ⟨n, L, g, c, rfl, rfl, hL, O, C, GW⟩ := hrel
    have zwr := GW.size
    by_cases hpos : 0 < n
    · have hp0 : decide ((0 : Int) < n) = true := decide_eq_true (by omega)
      try go_wp2_with fail
      refine (DBat.batch_d B zs p (2 + 30 * L.length) _ C (by omega)).mono ?_
      rintro e u142 ⟨x, rfl, C1, G⟩
      have yu142 : wr.heap.size ≤ u142.heap.size := G.size
      replace O := own_grown O G (fun k hk => by injection hk with hk; omega)
      replace GW := grown_trans GW G
      replace C := C1
      clear C1 G
      have zu142 := GW.size
      obtain ⟨vq, hvq⟩ : ∃ vq, u142 = vq := ⟨_, rfl⟩
      rw [hvq] at O C GW zu142 yu142 ⊢
      clear hvq
      go_wp2_with (at_builtin; go_must (refine wpList_append_own _ rfl _ _ 38 rfl v.heap.size 25 i0 _ 3 24 Try.underlying38 hi0 hz0 HI1.out HI.out rfl (by decide) _ L.length _ rfl (O.alloc _) ⟨vq.heap.size, 0, none⟩ 1 1 [.int .i64 x.f0, .int .i64 x.f1, .int .i64 x.f2] rfl rfl (new3 vq x.f0 x.f1 x.f2) (one3 x.f0 x.f1 x.f2) (by unfold maxLen; omega) (by omega) (by rw [size_alloc']; omega) ?_; intro v' w10 hown1 hgrow hnil))
      have hown2 : w10.ownsRow v.heap.size 25 3 v' (L ++ [(⟨x.f0, x.f1, x.f2⟩ : R)]).length (flat (L ++ [(⟨x.f0, x.f1, x.f2⟩ : R)])) := by
        rw [flat_snoc, List.length_append]
        exact hown1
      obtain ⟨g2, c2, rfl⟩ := own_some0 hown2 (fun e => by have := (hnil.1 e).2; omega)
      have hro : ∀ k, (Value.slice (some ⟨g, 0, none⟩) L.length c).ownBlock = some k → v.heap.size ≤ k := fun k hk => own_ge O k hk
      replace C := (C.alloc (.cells #[.int .i64 x.f0, .int .i64 x.f1, .int .i64 x.f2] 25)).grown hgrow (fun k hk => by have := hro k hk; omega)
      replace GW := gw_grown (grown_trans GW (grown_alloc _ (.cells #[.int .i64 x.f0, .int .i64 x.f1, .int .i64 x.f2] 25) _)) hgrow hro
      clear hown1 hgrow hnil hro O
      have HLX := Lib.hid (show (L ++ [(⟨x.f0, x.f1, x.f2⟩ : R)]).length = L.length + 1 by simp)
      go_wp2
      go_roundw
      case rel => exact ⟨n - 1, L ++ [⟨x.f0, x.f1, x.f2⟩], g2, c2, by rw [show ((n - 1 : Nat) : Int) = (n : Int) - 1 by omega] <;> rfl, by simp, by rw [HLX.out]; omega, hown2, C.le (by rw [HLX.out]; omega), GW⟩
      case measure => simp [intOf]; omega
    · have hp0 : decide ((0 : Int) < n) = false := decide_eq_false (by omega)
      try go_wp2_with fail
      refine (one_d B zs p (2 + 30 * L.length) _ 16 C (by omega) (by omega) (by omega)).mono ?_
      rintro e u142 ⟨q, rfl, C1, G⟩
      have yu142 : wr.heap.size ≤ u142.heap.size := G.size
      replace O := own_grown O G (fun k hk => by injection hk with hk; omega)
      replace GW := grown_trans GW G
      replace C := C1
      clear C1 G
      have zu142 := GW.size
      cases q
      · skip
        try go_wp2_with fail
        refine (DBat.water_d B zs p (2 + 30 * L.length + 2) _ C (by omega)).mono ?_
        rintro e u143 ⟨wt, rfl, C1, G⟩
        have yu143 : u142.heap.size ≤ u143.heap.size := G.size
        replace O := own_grown O G (fun k hk => by injection hk with hk; omega)
        replace GW := grown_trans GW G
        replace C := C1
        clear C1 G
        have zu143 := GW.size
        have HB := Lib.hid ((Below.refl w.heap.size w).grown (grown_trans GW0 GW) (Nat.le_refl _) (fun k hk => by injection hk with hk; omega))
        have HO := Lib.hid (own_base O (base' := w.heap.size) (by omega))
        clear C GW O
        go_wp2
        go_ret2
        exact ⟨L, g, c, wt, by omega, rfl, HO.out, HB.out⟩
      · go_wp2_with fail
        go_loopw [5] (fun oo wr => ∃ (M : List R) (h9 c9 : Nat), M.length ≤ 11 ∧ oo = .slice (some ⟨h9, 0, none⟩) M.length c9 ∧ wr.ownsRow v.heap.size 25 3 (.slice (some ⟨h9, 0, none⟩) M.length c9) M.length (flat M) ∧ Cu B zs p (200 + 2 * M.length) wr ∧ v.grownBy wr (some p)) (fun oo _ => 20 - slen oo)
        case atStart => exact ⟨L, g, c, by omega, rfl, O, C.le (by omega), GW⟩
        case round =>
          clear O C GW hL
          obtain ⟨M, h9, c9, hr, rfl, O, C, GW⟩ := hrel
          have zwr := GW.size
          try go_wp2_with fail
          refine (pick_d B zs p (200 + 2 * M.length) _ 2 C (by omega) (by omega) (by omega)).mono ?_
          rintro e u163 ⟨y, y_r, rfl, C1, G⟩
          have yu163 : wr.heap.size ≤ u163.heap.size := G.size
          replace O := own_grown O G (fun k hk => by injection hk with hk; omega)
          replace GW := grown_trans GW G
          replace C := C1
          clear C1 G
          have zu163 := GW.size
          have e0 : IntKind.i64.wrap (10 + y) = 10 + y := IntWalk.i64_in _ (by omega)
          by_cases hlt : (M.length : Int) < 10 + y
          · have hlt' : decide ((M.length : Int) < 10 + y) = true := decide_eq_true hlt
            obtain ⟨vq, hvq⟩ : ∃ vq, u163 = vq := ⟨_, rfl⟩
            rw [hvq] at O C GW zu163 yu163 ⊢
            clear hvq
            go_wp2_with (at_builtin; go_must (refine wpList_append_own _ rfl _ _ 38 rfl v.heap.size 25 i0 _ 3 24 Try.underlying38 hi0 hz0 HI1.out HI.out rfl (by decide) _ M.length _ rfl (O.alloc _) ⟨vq.heap.size, 0, none⟩ 1 1 [.int .i64 1, .int .i64 5, .int .i64 10] rfl rfl (new3 vq 1 5 10) (one3 1 5 10) (by unfold maxLen; omega) (by omega) (by rw [size_alloc']; omega) ?_; intro v' w10 hown1 hgrow hnil))
            have hown2 : w10.ownsRow v.heap.size 25 3 v' (M ++ [(⟨1, 5, 10⟩ : R)]).length (flat (M ++ [(⟨1, 5, 10⟩ : R)])) := by
              rw [flat_snoc, List.length_append]
              exact hown1
            obtain ⟨g2, c2, rfl⟩ := own_some0 hown2 (fun e => by have := (hnil.1 e).2; omega)
            have hro : ∀ k, (Value.slice (some ⟨h9, 0, none⟩) M.length c9).ownBlock = some k → v.heap.size ≤ k := fun k hk => own_ge O k hk
            replace C := (C.alloc (.cells #[.int .i64 1, .int .i64 5, .int .i64 10] 25)).grown hgrow (fun k hk => by have := hro k hk; omega)
            replace GW := gw_grown (grown_trans GW (grown_alloc _ (.cells #[.int .i64 1, .int .i64 5, .int .i64 10] 25) _)) hgrow hro
            clear hown1 hgrow hnil hro O
            have HLX := Lib.hid (show (M ++ [(⟨1, 5, 10⟩ : R)]).length = M.length + 1 by simp)
            go_wp2
            go_roundw
            case rel => exact ⟨M ++ [⟨1, 5, 10⟩], g2, c2, by rw [HLX.out]; omega, by simp, hown2, C.le (by rw [HLX.out]; omega), GW⟩
            case measure => simp [slen]; omega
          · have hlt' : decide ((M.length : Int) < 10 + y) = false := decide_eq_false hlt
            try go_wp2_with fail
            refine (DBat.water_d B zs p (200 + 2 * M.length + 2) _ C (by omega)).mono ?_
            rintro e u164 ⟨wt, rfl, C1, G⟩
            have yu164 : u163.heap.size ≤ u164.heap.size := G.size
            replace O := own_grown O G (fun k hk => by injection hk with hk; omega)
            replace GW := grown_trans GW G
            replace C := C1
            clear C1 G
            have zu164 := GW.size
            have HB := Lib.hid ((Below.refl w.heap.size w).grown (grown_trans GW0 GW) (Nat.le_refl _) (fun k hk => by injection hk with hk; omega))
            have HO := Lib.hid (own_base O (base' := w.heap.size) (by omega))
            clear C GW O
            go_wp2
            go_ret2
            exact ⟨M, h9, c9, wt, by omega, rfl, HO.out, HB.out⟩
set_option maxHeartbeats 800000 in
theorem vbatches_any (A A' : Option Addr) (c c' : Nat) (l : List R) (w : World) (hr : Rd w w.heap.size A (flat l)) (hr' : Rd w w.heap.size A' (flat l)) (hn : l.length ≤ 1048576) :
    Calls Try.prog 32 #[.slice A l.length c, .slice A' l.length c'] w fun e w' => e = .returned (.bool true) ∧ Drawn w w' := by
  have HR := Lib.hid hr; clear hr
  have HR' := Lib.hid hr'; clear hr'
  go_enter Try.func32, Try.ntmps32
  go_wp2
  go_loopw [5] (fun i wr => ∃ k : Nat, k ≤ l.length ∧ i = .int .i64 k ∧ Drawn w wr) (fun i _ => l.length - (intOf i).toNat)
  case atStart => exact ⟨0, Nat.zero_le _, rfl, Drawn.refl _⟩
  case round =>
    obtain ⟨k, hk, rfl, hw⟩ := hrel
    have HW := Lib.hid hw; clear hw
    by_cases hlt : k < l.length
    · obtain ⟨b, o, rfl, hb, hc⟩ := HR.out.at (k := k * 3) (by rw [flat_n]; omega)
      obtain ⟨b', o', rfl, hb', hc'⟩ := HR'.out.at (k := k * 3) (by rw [flat_n]; omega)
      have h0 : wr.cell? ⟨b, o + k * 3, none⟩ = some (.int .i64 l[k].f0) := (HW.out.cell _ _).trans (hc _ _ (flat_0 l k hlt))
      have h1 : wr.cell? ⟨b, o + k * 3 + 1, none⟩ = some (.int .i64 l[k].f1) := by rw [Nat.add_assoc]; exact (HW.out.cell _ _).trans (hc _ _ (flat_1 l k hlt))
      have h2 : wr.cell? ⟨b, o + k * 3 + 2, none⟩ = some (.int .i64 l[k].f2) := by rw [Nat.add_assoc]; exact (HW.out.cell _ _).trans (hc _ _ (flat_2 l k hlt))
      have h3 : wr.cell? ⟨b', o' + k * 3, none⟩ = some (.int .i64 l[k].f0) := (HW.out.cell _ _).trans (hc' _ _ (flat_0 l k hlt))
      have h4 : wr.cell? ⟨b', o' + k * 3 + 1, none⟩ = some (.int .i64 l[k].f1) := by rw [Nat.add_assoc]; exact (HW.out.cell _ _).trans (hc' _ _ (flat_1 l k hlt))
      have h5 : wr.cell? ⟨b', o' + k * 3 + 2, none⟩ = some (.int .i64 l[k].f2) := by rw [Nat.add_assoc]; exact (HW.out.cell _ _).trans (hc' _ _ (flat_2 l k hlt))
      have e3 : IntKind.i64.wrap ((k : Int) + 1) = k + 1 := IntWalk.i64_in _ (by omega)
      clear hc hc'
      generalize l[k].f0 = p0 at h0 h3
      generalize l[k].f1 = p1 at h1 h4
      generalize l[k].f2 = p2 at h2 h5
      go_wp2_with fail
      go_quiet (fail)
      generalize nq = q1
      go_wp2
      exact ⟨⟨k + 1, hlt, by go_num, HW.out.more _⟩, by simp [intOf]; omega⟩
    · go_wp2
      go_ret
      exact ⟨rfl, HW.out⟩
end Go.Proofs.Ytpokgnkcnibapaa.DBat4
