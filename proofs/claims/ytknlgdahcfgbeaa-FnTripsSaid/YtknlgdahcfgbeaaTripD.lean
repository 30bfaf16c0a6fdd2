/- Trips: impl.AddTrip. Made by tools/mk_tripd.py. -/
import Derived.Test.YtknlgdahcfgbeaaTripA
import Derived.Deep.Cut
import Derived.Deep.CutBlock
import Derived.Deep.DeepCutAuto
import Derived.Deep.RegionLaw
namespace Go.Proofs.Ytknlgdahcfgbeaa.TripD
open Go.RowKit Go.Proofs.Ytknlgdahcfgbeaa.Mem Go.Proofs.Ytknlgdahcfgbeaa.Base Go.Proofs.Ytknlgdahcfgbeaa.Within Go.Proofs.Ytknlgdahcfgbeaa.STrip Go.Proofs.Ytknlgdahcfgbeaa.Regn Go.Proofs.Ytknlgdahcfgbeaa.Boxes Go.Proofs.Ytknlgdahcfgbeaa.Keep Go.Proofs.Ytknlgdahcfgbeaa.TripP Go.Proofs.Ytknlgdahcfgbeaa.TripS Go.Proofs.Ytknlgdahcfgbeaa.TripG Go.Proofs.Ytknlgdahcfgbeaa.TripI Go.Proofs.Ytknlgdahcfgbeaa.TripN Go.Proofs.Ytknlgdahcfgbeaa.TripA
set_option linter.unusedVariables false
set_option linter.unusedSimpArgs false
set_option maxRecDepth 100000
/-- the cells behind a new block: the insert into a row that was made ahead of it. -/
theorem insA {A : Option Addr} {c i : Nat} {l : List R} {t : R} {B b0 : Nat} {w0 w : World} (O : w.ownsRow b0 25 5 (.slice A l.length c) l.length (flat l)) (h0 : B ≤ b0) (hi : i ≤ l.length) (hb : Below B w0 w) (hB : B ≤ w.heap.size) (hn : l.length ≤ 1000) :
    Calls Try.prog 45 #[.slice A l.length c, .int .i64 i, .slice (some ⟨w.heap.size, 0, none⟩) 1 1] (w.alloc (.cells #[.int .i64 t.f0, .int .i64 t.f1, .int .i64 t.f2, .int .i64 t.f3, .int .i64 t.f4] 25)) (InsPost l i t B w0) :=
  insG A c w.heap.size i l t B w0 _ (own_keep (own_base O h0) (al (Below.refl _ _))) (heap_alloc_new w _) (fun k hk => by have := (World.ownsRow.lt O k hk).2; omega) hi (hb.alloc hB _) (by rw [size_alloc']; omega) hn
/-- the insert into a row that was made behind the cells. -/
theorem insB {A : Option Addr} {c i : Nat} {l : List R} {t : R} {B : Nat} {w0 v w : World} (O : w.ownsRow (v.alloc (.cells #[.int .i64 t.f0, .int .i64 t.f1, .int .i64 t.f2, .int .i64 t.f3, .int .i64 t.f4] 25)).drew.heap.size 25 5 (.slice A l.length c) l.length (flat l)) (hu : Below (v.alloc (.cells #[.int .i64 t.f0, .int .i64 t.f1, .int .i64 t.f2, .int .i64 t.f3, .int .i64 t.f4] 25)).drew.heap.size (v.alloc (.cells #[.int .i64 t.f0, .int .i64 t.f1, .int .i64 t.f2, .int .i64 t.f3, .int .i64 t.f4] 25)).drew w) (h0 : B ≤ v.heap.size) (hi : i ≤ l.length) (hb : Below B w0 w) (hn : l.length ≤ 1000) :
    Calls Try.prog 45 #[.slice A l.length c, .int .i64 i, .slice (some ⟨v.heap.size, 0, none⟩) 1 1] w (InsPost l i t B w0) := by
  have hz : (v.alloc (.cells #[.int .i64 t.f0, .int .i64 t.f1, .int .i64 t.f2, .int .i64 t.f3, .int .i64 t.f4] 25)).drew.heap.size = v.heap.size + 1 := size_alloc' v _
  have hv : (v.alloc (.cells #[.int .i64 t.f0, .int .i64 t.f1, .int .i64 t.f2, .int .i64 t.f3, .int .i64 t.f4] 25)).drew.heap[v.heap.size]? = some (.cells #[.int .i64 t.f0, .int .i64 t.f1, .int .i64 t.f2, .int .i64 t.f3, .int .i64 t.f4] 25 (0, 0)) := heap_alloc_new v _
  have hs := hu.size
  rw [hz] at O hu hs
  exact insG A c v.heap.size i l t B w0 w (own_base O (by omega)) ((hu.block _ (Nat.lt_succ_self _)).trans hv) (fun k hk => by have := own_ge O k hk; omega) hi hb (by omega) hn
theorem a_good2 {l m : List R} {t : R} {w u : World} {A : Option Addr} {c B n : Nat} (h : addOk l t = true) (hm : raw l t = m) (hn : n = m.length) (hb : Below w.heap.size w u) (hB : w.heap.size ≤ B) (O : u.ownsRow B 25 5 (.slice A n c) n (flat m)) :
    APost l t w (.returned (.tuple #[.slice A n c, .bool true])) u := by
  subst hn; exact a_good h hm hb hB O
set_option maxHeartbeats 600000 in
theorem add_impl (P : Option Addr) (cap : Nat) (l : List R) (t : R) (w : World) (hr : Rd w w.heap.size P (flat l)) (hcp : l.length ≤ cap) (hn : l.length ≤ 1048576) :
    Calls Try.prog 15 #[.slice P l.length cap, .agg #[.int .i64 t.f0, .int .i64 t.f1, .int .i64 t.f2, .int .i64 t.f3, .int .i64 t.f4]] w (APost l t w) := by
  have HR := Lib.hid hr; clear hr
  go_enter Try.func15, Try.ntmps15
  go_wp2_with fail
  have B := Box.new (Below.refl _ w) [.int .i64 t.f0, .int .i64 t.f1, .int .i64 t.f2, .int .i64 t.f3, .int .i64 t.f4] 25 (g := w.heap.size) rfl
  generalize (w.alloc (.cells #[.int .i64 t.f0, .int .i64 t.f1, .int .i64 t.f2, .int .i64 t.f3, .int .i64 t.f4] 25)) = W1 at B ⊢
  have B_0 := B.cells 0 _ rfl
  have B_1 := B.cells 1 _ rfl
  have B_2 := B.cells 2 _ rfl
  have B_3 := B.cells 3 _ rfl
  have B_4 := B.cells 4 _ rfl
  have B_f0 := B.free 0 (by simp)
  have B_f1 := B.free 1 (by simp)
  have B_f2 := B.free 2 (by simp)
  have B_f3 := B.free 3 (by simp)
  have B_f4 := B.free 4 (by simp)
  have B_t := B.there
  go_wp2_with fail
  refine (are_impl P cap l _ ((HR.out.below B.below (Nat.le_refl _)).mono B.below.size) hn).mono ?_
  rintro e v2 ⟨rfl, hv2⟩
  clear B_0 B_1 B_2 B_3 B_4 B_f0 B_f1 B_f2 B_f3 B_f4 B_t
  replace B := B.more hv2
  have zhv2 := hv2.size
  clear hv2
  have B_0 := B.cells 0 _ rfl
  have B_1 := B.cells 1 _ rfl
  have B_2 := B.cells 2 _ rfl
  have B_3 := B.cells 3 _ rfl
  have B_4 := B.cells 4 _ rfl
  have B_f0 := B.free 0 (by simp)
  have B_f1 := B.free 1 (by simp)
  have B_f2 := B.free 2 (by simp)
  have B_f3 := B.free 3 (by simp)
  have B_f4 := B.free 4 (by simp)
  have B_t := B.there
  cases hg : good l
  · have HV := Lib.hid (add1 (t := t) hg)
    go_wp2
    go_ret2
    exact a_bad HV.out B.below
  have HG := Lib.hid hg; clear hg
  have h10 := (good_all HG.out).1
  go_wp2_with fail
  refine (one_impl t _).mono ?_
  rintro e v3 ⟨rfl, hv3⟩
  clear B_0 B_1 B_2 B_3 B_4 B_f0 B_f1 B_f2 B_f3 B_f4 B_t
  replace B := B.more hv3
  have zhv3 := hv3.size
  clear hv3
  have B_0 := B.cells 0 _ rfl
  have B_1 := B.cells 1 _ rfl
  have B_2 := B.cells 2 _ rfl
  have B_3 := B.cells 3 _ rfl
  have B_4 := B.cells 4 _ rfl
  have B_f0 := B.free 0 (by simp)
  have B_f1 := B.free 1 (by simp)
  have B_f2 := B.free 2 (by simp)
  have B_f3 := B.free 3 (by simp)
  have B_f4 := B.free 4 (by simp)
  have B_t := B.there
  cases hok : okT t
  · have HV := Lib.hid (add5 (l := l) hok)
    go_wp2
    go_ret2
    exact a_bad HV.out B.below
  have HOK := Lib.hid hok; clear hok
  go_wp2_with fail
  refine (other_impl P cap l t (good_mem HG.out) HOK.out _ ((HR.out.below B.below (Nat.le_refl _)).mono B.below.size) hn).mono ?_
  rintro e v4 ⟨rfl, hv4⟩
  clear B_0 B_1 B_2 B_3 B_4 B_f0 B_f1 B_f2 B_f3 B_f4 B_t
  replace B := B.more hv4
  have zhv4 := hv4.size
  clear hv4
  have B_0 := B.cells 0 _ rfl
  have B_1 := B.cells 1 _ rfl
  have B_2 := B.cells 2 _ rfl
  have B_3 := B.cells 3 _ rfl
  have B_4 := B.cells 4 _ rfl
  have B_f0 := B.free 0 (by simp)
  have B_f1 := B.free 1 (by simp)
  have B_f2 := B.free 2 (by simp)
  have B_f3 := B.free 3 (by simp)
  have B_f4 := B.free 4 (by simp)
  have B_t := B.there
  cases hf : freeB l t
  · have HV := Lib.hid (add3 hf)
    go_wp2
    go_ret2
    exact a_bad HV.out B.below
  have HF := Lib.hid hf; clear hf
  go_wp2_with fail
  refine (bs_any P cap l t HG.out _ ((HR.out.below B.below (Nat.le_refl _)).mono B.below.size)).mono ?_
  rintro e v5 ⟨q, rfl, hv5⟩
  clear B_0 B_1 B_2 B_3 B_4 B_f0 B_f1 B_f2 B_f3 B_f4 B_t
  replace B := B.more hv5
  have zhv5 := hv5.size
  clear hv5
  have B_0 := B.cells 0 _ rfl
  have B_1 := B.cells 1 _ rfl
  have B_2 := B.cells 2 _ rfl
  have B_3 := B.cells 3 _ rfl
  have B_4 := B.cells 4 _ rfl
  have B_f0 := B.free 0 (by simp)
  have B_f1 := B.free 1 (by simp)
  have B_f2 := B.free 2 (by simp)
  have B_f3 := B.free 3 (by simp)
  have B_f4 := B.free 4 (by simp)
  have B_t := B.there
  obtain ⟨k, hk⟩ : ∃ k, low l t.f0 = k := ⟨_, rfl⟩
  have hkl : k ≤ l.length := by rw [← hk]; exact low_le _ _
  have HK := Lib.hid (show raw l t = ins l k t by unfold raw; rw [hk])
  rw [hk]
  clear hk
  go_wp2_with fail
  have hBS : w.heap.size + 1 ≤ v5.heap.size := B.there
  have HBB := Lib.hid B.below
  have HRd0 : ∀ u, Below v5.heap.size v5 u → Calls Try.prog 46 #[.slice P l.length cap] u (fun e w3 => ∃ A c, e = .returned (.slice A l.length c) ∧ w3.ownsRow u.heap.size 25 5 (.slice A l.length c) l.length (flat l) ∧ Below u.heap.size u w3 ∧ Below (w.heap.size + 1) v5 w3 ∧ Below v5.heap.size v5 w3) :=
    fun u hu => (TripCl.clone_any P cap l u (rd_keep ((HR.out.below HBB.out (Nat.le_refl _)).mono HBB.out.size) hu) hn).mono fun e w3 ⟨A, c, h1, h2, h3⟩ => ⟨A, c, h1, h2, h3, (be hu h3).mono hBS, be hu h3⟩
  have HRd := Lib.hid HRd0; clear HRd0
  have HHS := Lib.hid hBS
  go_region_law (first | (go_simp; go_at_call 46; (with_reducible refine (HRd.out _ (by first | exact Below.refl _ _ | exact al (Below.refl _ _) | exact (Below.refl _ _).drew | exact (al (Below.refl _ _)).drew | exact al ((Below.refl _ _).drew))).mono ?_); rintro e w3 ⟨A3, c3, rfl, O3, hv3, hw3, hx3⟩; have hs3 := hv3.size; have B3 := B.more hx3; have p0 := B3.cells 0 _ rfl; have p1 := B3.cells 1 _ rfl; have p2 := B3.cells 2 _ rfl; have p4 := B3.cells 3 _ rfl; have p5 := B3.cells 4 _ rfl; go_wp2_with fail) | (go_simp; go_at_call 45; first | (with_reducible refine (insA (t := t) O3 (by first | exact HHS.out | (simp; exact HHS.out) | (simp; have := HHS.out; omega)) hkl hw3 (by have := HHS.out; first | omega | (simp at hs3; omega)) (by omega)).mono ?_) | (with_reducible refine (insB (t := t) O3 hv3 HHS.out hkl hw3 (by omega)).mono ?_)); rintro e w4 ⟨A4, c4, he4, O4, hv4⟩)
  all_goals
    have HB4 := Lib.hid (B.below.trans (hv4.mono (Nat.le_succ _)))
    have HLR := Lib.hid (show (ins l k t).length = l.length + 1 from ins_len l k t hkl)
    subst he4
    clear hv4 O3 hv3 hw3 hx3 hs3 B3 p0 p1 p2 p4 p5 B
    have HAR := Lib.hid (show Calls Try.prog 23 #[.slice A4 (l.length + 1) c4] w4 (RPost (.bool (good (ins l k t))) w4) by
      have h := are_impl A4 c4 (ins l k t) w4 (Rd.of_own O4) (by rw [HLR.out]; omega)
      rw [HLR.out] at h; exact h)
    go_wp2_with fail
    refine HAR.out.mono ?_
    rintro e w5 ⟨rfl, hv5⟩
    have HB5 := Lib.hid (be HB4.out hv5)
    have HO5 := Lib.hid (own_keep O4 hv5)
    clear O4 hv5 HAR
    cases h1 : good (ins l k t)
    · go_wp2
      go_ret2
      exact a_bad (add2 (by rw [HK.out]; exact h1)) HB5.out
    · go_wp2
      go_ret2
      exact a_good2 (add4 HG.out (by rw [HK.out]; exact h1) HF.out) HK.out HLR.out.symm HB5.out (Nat.le_succ _) HO5.out
end Go.Proofs.Ytknlgdahcfgbeaa.TripD
