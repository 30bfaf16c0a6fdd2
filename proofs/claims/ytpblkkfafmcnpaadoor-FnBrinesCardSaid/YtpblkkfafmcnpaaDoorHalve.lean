/- SplitBrine: the model's and the program's. -/
import Derived.Test.YtpblkkfafmcnpaaDoorMix
import Derived.Test.YtpblkkfafmcnpaaDoorRegn2
namespace Go.Proofs.YtpblkkfafmcnpaaDoor.Halve
open Go.RowKit Go.Proofs.YtpblkkfafmcnpaaDoor.Mem Go.Proofs.YtpblkkfafmcnpaaDoor.Base Go.Proofs.YtpblkkfafmcnpaaDoor.Brine Go.Proofs.YtpblkkfafmcnpaaDoor.Brine2 Go.Proofs.YtpblkkfafmcnpaaDoor.Regn Go.Proofs.YtpblkkfafmcnpaaDoor.Boxes Go.Proofs.YtpblkkfafmcnpaaDoor.IBrine
set_option linter.unusedVariables false
set_option maxRecDepth 100000
def shr (n p i : Int) : Int := if i < n % p then n / p + 1 else n / p
def parts (a b n : Int) (k : Nat) : List R := (List.range k).map fun (i : Nat) => ⟨shr a n (i : Int), shr b n (i : Int)⟩
theorem parts_len (a b n : Int) (k : Nat) : (parts a b n k).length = k := by simp [parts]
theorem parts_flat (a b n : Int) (k : Nat) : SBrine.flat (parts a b n (k + 1)) = SBrine.flat (parts a b n k) ++ [.int .i64 (shr a n k), .int .i64 (shr b n k)] := by
  unfold parts SBrine.flat; rw [List.range_succ, List.map_append, List.flatMap_append]; rfl
def halfOk (a b n : Int) : Bool := okB a b && inB n 1 20
def halfL (a b n : Int) : List R := if halfOk a b n = true then parts a b n n.toNat else []
theorem half_no {a b n : Int} (h : halfOk a b n = false) : halfL a b n = [] := by unfold halfL; rw [h]; rfl
theorem half_yes {a b n : Int} (h : halfOk a b n = true) : halfL a b n = parts a b n n.toNat := by unfold halfL; rw [if_pos h]
def HalfPost (a b n : Int) (w : World) (e : Ending) (w' : World) : Prop :=
  ∃ A c, e = .returned (.tuple #[.slice A (halfL a b n).length c, .bool (halfOk a b n)]) ∧ w'.ownsRow w.heap.size 25 2 (.slice A (halfL a b n).length c) (halfL a b n).length (SBrine.flat (halfL a b n)) ∧ Below w.heap.size w w'
theorem half_mk {a b n : Int} {l : List R} {ok : Bool} {w w' : World} {A : Option Addr} {c : Nat} {v : Value} (h1 : halfL a b n = l) (h2 : halfOk a b n = ok) (hv : v = .tuple #[.slice A l.length c, .bool ok])
    (ho : w'.ownsRow w.heap.size 25 2 (.slice A l.length c) l.length (SBrine.flat l)) (hB : Below w.heap.size w w') : HalfPost a b n w (.returned v) w' := by
  subst h1; subst h2; exact ⟨A, c, by rw [hv], ho, hB⟩
theorem shr_bd {n p i : Int} (h0 : 0 ≤ n) (h1 : n ≤ 1000000) (hp : 1 ≤ p) : 0 ≤ shr n p i ∧ shr n p i ≤ 1000001 := by
  have := Int.ediv_nonneg h0 (by omega : 0 ≤ p)
  have := Int.ediv_le_self p h0
  unfold shr; split <;> omega
theorem share_spec (n p i : Int) (h0 : 0 ≤ n) (h1 : n ≤ 1000000) (hp : 1 ≤ p) (hp1 : p ≤ 20) (hi : 0 ≤ i) (hi1 : i ≤ 20) (w : World) :
    Calls Tryd.prog 42 #[.int .i64 n, .int .i64 p, .int .i64 i] w fun e w' => e = .returned (.int .i64 (shr n p i)) ∧ w = w' := by
  have m1 := Int.ediv_nonneg h0 (by omega : 0 ≤ p)
  have m2 := Int.ediv_le_self p h0
  have m3 : ¬ (p = 0) := by omega
  by_cases hlt : i < n % p
  · have H := Lib.hid (show shr n p i = n / p + 1 by unfold shr; rw [if_pos hlt])
    go_enter Tryd.func42, Tryd.ntmps42
    go_wp2
    go_ret
    exact ⟨by rw [H.out] <;> rfl, rfl⟩
  · have H := Lib.hid (show shr n p i = n / p by unfold shr; rw [if_neg hlt])
    go_enter Tryd.func42, Tryd.ntmps42
    go_wp2
    go_ret
    exact ⟨by rw [H.out] <;> rfl, rfl⟩
theorem info_T : (Tryd.prog.info? 25).map (fun i => (i.zero, i.size, i.bytes)) = some (some (br 0 0), 2, 16) := by kernel_rfl
theorem two_cells {x y : Int} : ∀ u ∈ [Value.int .i64 x, Value.int .i64 y], u.oneCell' = true := by
  intro u hu; simp at hu; rcases hu with rfl | rfl <;> rfl
theorem two_new (w : World) (x y : Value) (T : TypeId) : ∀ (j : Nat) (u : Value), [x, y][j]? = some u → (w.alloc (.cells #[x, y] T)).cell? (Addr.add ⟨w.heap.size, 0, none⟩ j) = some u := by
  intro j u hu
  match j, hu with
  | 0, hu => simp at hu; subst hu; simp [Addr.add]
  | 1, hu => simp at hu; subst hu; simp [Addr.add]
set_option maxHeartbeats 1000000 in
theorem half_spec (a b n : Int) (w : World) : Calls Tryd.prog 18 #[.agg #[.int .i64 a, .int .i64 b], .int .i64 n] w (HalfPost a b n w) := by
  obtain ⟨i0, hi, hz0, hz1, hz2⟩ := info_parts info_T
  have HI := Lib.hid hz2; clear hz2
  have HI1 := Lib.hid hz1; clear hz1
  go_enter Tryd.func18, Tryd.ntmps18
  go_wp2_with fail
  have O : ((w.alloc (.cells #[.int .i64 a, .int .i64 b] 25)).alloc (.cells #[] 25)).ownsRow (w.heap.size + 1) 25 2 (.slice (some ⟨w.heap.size + 1, 0, none⟩) 0 0) 0 [] := by
    have := World.ownsRow_lit (w.alloc (.cells #[.int .i64 a, .int .i64 b] 25)) #[] 0 (e := 25) (size := 2) (base := w.heap.size + 1) (by simp) (by unfold maxLen; omega) rfl
    simpa using this
  have B := (Box.new (Below.refl _ w) [.int .i64 a, .int .i64 b] 25 (g := w.heap.size) rfl).alloc (.cells #[] 25)
  have E := Box.new (al (Below.refl _ w) (o := (.cells #[.int .i64 a, .int .i64 b] 25))) [] 25 (g := w.heap.size + 1) (by simp only [size_alloc'])
  generalize ((w.alloc (.cells #[.int .i64 a, .int .i64 b] 25)).alloc (.cells #[] 25)) = W1 at B E O ⊢
  have B_0 := B.cells 0 _ rfl
  have B_1 := B.cells 1 _ rfl
  have B_f0 := B.free 0 (by simp)
  have B_f1 := B.free 1 (by simp)
  have B_t := B.there
  have E_t := E.there
  clear E_t
  clear E
  go_wp2_with fail
  refine (brine_spec a b _).mono ?_
  rintro e v2 ⟨rfl, hv2⟩
  clear B_0 B_1 B_f0 B_f1 B_t
  replace B := B.more hv2
  replace O := own_keep O hv2
  have zhv2 := hv2.size
  clear hv2
  have B_0 := B.cells 0 _ rfl
  have B_1 := B.cells 1 _ rfl
  have B_f0 := B.free 0 (by simp)
  have B_f1 := B.free 1 (by simp)
  have B_t := B.there
  cases hok : okB a b
  · go_wp2
    go_ret2
    have hf : halfOk a b n = false := by unfold halfOk; rw [hok]; rfl
    exact half_mk (half_no hf) hf rfl (own_base O (by omega)) B.below
  obtain ⟨ha, ha1, hb, hb1⟩ := okB_true hok
  go_wp2_with fail
  refine (in_any _ _ _ _).mono ?_
  rintro e _ ⟨rfl, rfl⟩
  cases hin : inB n 1 20
  · go_wp2
    go_ret2
    have hf : halfOk a b n = false := by unfold halfOk; rw [hin]; simp
    exact half_mk (half_no hf) hf rfl (own_base O (by omega)) B.below
  have hn := of_inB hin
  have hf : halfOk a b n = true := by unfold halfOk; rw [hok, hin]; rfl
  obtain ⟨m, rfl⟩ : ∃ m : Nat, n = m := ⟨n.toNat, by omega⟩
  have HF := Lib.hid hf; clear hf
  obtain ⟨hn0, hn1⟩ := hn
  go_wp2
  go_loopw [6, 7] (fun o i wr => ∃ (k : Nat) (A : Option Addr) (c : Nat), k ≤ m ∧ i = .int .i64 k ∧ o = .slice A k c ∧ Box (w.heap.size) [.int .i64 a, .int .i64 b] w wr ∧
      wr.ownsRow (w.heap.size + 1) 25 2 (.slice A k c) k (SBrine.flat (parts a b m k))) (fun _ i _ => m - (intOf i).toNat)
  case atStart => exact ⟨0, _, _, Nat.zero_le _, rfl, rfl, B, O⟩
  case round =>
    clear B_0 B_1 B_f0 B_f1 B_t
    clear B O
    obtain ⟨k, A, c, hk, rfl, rfl, B, O⟩ := hrel
    have B_0 := B.cells 0 _ rfl
    have B_1 := B.cells 1 _ rfl
    have B_f0 := B.free 0 (by simp)
    have B_f1 := B.free 1 (by simp)
    have B_t := B.there
    by_cases hlt : k < m
    · obtain ⟨s1, s2⟩ := shr_bd (n := a) (p := m) (i := k) ha ha1 (by omega)
      obtain ⟨t1, t2⟩ := shr_bd (n := b) (p := m) (i := k) hb hb1 (by omega)
      have HP := Lib.hid (parts_flat a b m k)
      have hm1 : k + 1 ≤ maxLen := by unfold maxLen; omega
      have hm2 : (k + 1) * 16 ≤ 140737488355328 := by omega
      go_wp2
      clear B_0 B_1 B_f0 B_f1 B_t
      obtain ⟨v4, hV4⟩ : ∃ V : World, V = wr.drew := ⟨_, rfl⟩
      replace B : Box (w.heap.size) [.int .i64 a, .int .i64 b] w v4 := by rw [hV4]; exact B.drew
      replace O : v4.ownsRow (w.heap.size + 1) 25 2 (.slice A k c) (k) (SBrine.flat (parts a b m k)) := by rw [hV4]; exact own_keep O (Below.refl _ _).drew
      refine wp_region_tail 13 (fun L w' => Pin (L 12) v4 (v4.alloc (.cells #[.int .i64 (shr a m k), .int .i64 (shr b m k)] 25)) w') (by kernel_rfl) (by kernel_rfl) (by kernel_rfl) (by rw [← hV4]; exact Pin.start _ _) ?_
      clear hV4
      have B_0 := B.cells 0 _ rfl
      have B_1 := B.cells 1 _ rfl
      have B_f0 := B.free 0 (by simp)
      have B_f1 := B.free 1 (by simp)
      have B_t := B.there
      simp only [List.take_succ_cons, List.take_zero]
      iterate 13 (
        apply SeqH.op
        · intro L uw K hN hS hK
          first
            | (go_simp; exact hK.out _ (hS.skip (by decide)))
            | (have hE := (hS.2 (hN.out 12 (by decide +kernel))).symm; subst hE; clear hN; first | (go_simp; exact hK.out _ (hS.skip (by decide))) | (go_simp; go_at_call 42; (with_reducible refine (share_spec a m k ha ha1 (by omega) (by omega) (by omega) (by omega) _).mono ?_); rintro e _ ⟨rfl, rfl⟩; go_wp2_with fail; exact hK.out _ (hS.skip (by decide))) | (go_simp; go_at_call 42; (with_reducible refine (share_spec b m k hb hb1 (by omega) (by omega) (by omega) (by omega) _).mono ?_); rintro e _ ⟨rfl, rfl⟩; go_wp2_with fail; exact hK.out _ (hS.skip (by decide))) | (go_simp; exact hK.out _ Pin.put))
            | (rcases hS.two with hE | hE <;> (subst hE; clear hN; first | (go_simp; exact hK.out _ (hS.skip (by decide))) | (go_simp; go_at_call 42; (with_reducible refine (share_spec a m k ha ha1 (by omega) (by omega) (by omega) (by omega) _).mono ?_); rintro e _ ⟨rfl, rfl⟩; go_wp2_with fail; exact hK.out _ (hS.skip (by decide))) | (go_simp; go_at_call 42; (with_reducible refine (share_spec b m k hb hb1 (by omega) (by omega) (by omega) (by omega) _).mono ?_); rintro e _ ⟨rfl, rfl⟩; go_wp2_with fail; exact hK.out _ (hS.skip (by decide)))))
        try simp only [Act.put, List.setIfInBounds_toArray, List.set_cons_zero, List.set_cons_succ])
      refine SeqH.rest' rfl ?_
      intro L uv hL hS
      have hE := (hS.1 (hL 12 (by decide))).symm
      subst hE
      clear hS hL
      simp only [List.drop_succ_cons, List.drop_zero]
      go_wp2_with (at_builtin; go_must (refine wpList_append_own _ rfl _ _ 38 rfl (w.heap.size + 1) 25 i0 _ 2 16 Tryd.underlying38 hi hz0 HI1.out HI.out rfl (by decide) _ k _ rfl (O.alloc _) ⟨v4.heap.size, 0, none⟩ 1 1 [.int .i64 (shr a m k), .int .i64 (shr b m k)] rfl rfl (two_new _ _ _ _) two_cells hm1 hm2 (by rw [size_alloc']; omega) ?_; intro v' w1 hown1 hgrow _))
      have B1 := (B.alloc (.cells #[.int .i64 (shr a m k), .int .i64 (shr b m k)] 25)).grown hgrow (fun q hq => by have := own_ge O q hq; omega)
      obtain ⟨A1, c1, rfl⟩ := own_form hown1
      clear B_0 B_1 B_f0 B_f1 B_t
      clear hgrow B O s1 s2 t1 t2
      go_wp2
      go_roundw
      case rel => exact ⟨k + 1, A1, c1, by omega, by go_num, rfl, B1, by rw [HP.out]; exact hown1⟩
      case measure => simp [intOf]; omega
    · have hkm : k = m := by omega
      subst hkm
      have hL : halfL a b (k : Int) = parts a b k k := by rw [half_yes HF.out]; simp
      have HL := Lib.hid hL; clear hL
      go_wp2
      go_ret2
      exact half_mk HL.out HF.out (by rw [parts_len] <;> rfl) (by rw [parts_len]; exact own_base O (by omega)) B.below
theorem even_impl (n p i : Int) (h0 : 0 ≤ n) (h1 : n ≤ 1000000) (hp : 1 ≤ p) (hp1 : p ≤ 20) (hi : 0 ≤ i) (hi1 : i ≤ 20) (w : World) :
    Calls Tryd.prog 41 #[.int .i64 n, .int .i64 p, .int .i64 i] w fun e w' => e = .returned (.int .i64 (shr n p i)) ∧ w = w' := by
  have m1 := Int.ediv_nonneg h0 (by omega : 0 ≤ p)
  have m2 := Int.ediv_le_self p h0
  have m3 : ¬ (p = 0) := by omega
  by_cases hlt : i < n % p
  · have H := Lib.hid (show shr n p i = n / p + 1 by unfold shr; rw [if_pos hlt])
    go_enter Tryd.func41, Tryd.ntmps41
    go_wp2
    go_ret
    exact ⟨by rw [H.out] <;> rfl, rfl⟩
  · have H := Lib.hid (show shr n p i = n / p by unfold shr; rw [if_neg hlt])
    go_enter Tryd.func41, Tryd.ntmps41
    go_wp2
    go_ret
    exact ⟨by rw [H.out] <;> rfl, rfl⟩
set_option maxHeartbeats 1000000 in
theorem half_impl (a b n : Int) (w : World) : Calls Tryd.prog 17 #[.agg #[.int .i64 a, .int .i64 b], .int .i64 n] w (HalfPost a b n w) := by
  obtain ⟨i0, hi, hz0, hz1, hz2⟩ := info_parts info_T
  have HI := Lib.hid hz2; clear hz2
  have HI1 := Lib.hid hz1; clear hz1
  go_enter Tryd.func17, Tryd.ntmps17
  go_wp2_with fail
  have B := Box.new (Below.refl _ w) [.int .i64 a, .int .i64 b] 25 (g := w.heap.size) rfl
  generalize (w.alloc (.cells #[.int .i64 a, .int .i64 b] 25)) = W1 at B ⊢
  have B_0 := B.cells 0 _ rfl
  have B_1 := B.cells 1 _ rfl
  have B_f0 := B.free 0 (by simp)
  have B_f1 := B.free 1 (by simp)
  have B_t := B.there
  go_wp2_with fail
  refine (brine_impl a b _).mono ?_
  rintro e v2 ⟨rfl, hv2⟩
  clear B_0 B_1 B_f0 B_f1 B_t
  replace B := B.more hv2
  have zhv2 := hv2.size
  clear hv2
  have B_0 := B.cells 0 _ rfl
  have B_1 := B.cells 1 _ rfl
  have B_f0 := B.free 0 (by simp)
  have B_f1 := B.free 1 (by simp)
  have B_t := B.there
  cases hok : okB a b
  · go_wp2
    go_ret2
    have hf : halfOk a b n = false := by unfold halfOk; rw [hok]; rfl
    refine half_mk (half_no hf) hf rfl ?_ (al B.below)
    have := World.ownsRow_lit v2 #[] 0 (e := 25) (size := 2) (base := w.heap.size) (by omega) (by unfold maxLen; omega) rfl
    simpa [SBrine.flat] using this
  obtain ⟨ha, ha1, hb, hb1⟩ := okB_true hok
  go_wp2_with fail
  refine (within_any _ _ _ _).mono ?_
  rintro e _ ⟨rfl, rfl⟩
  cases hin : inB n 1 20
  · go_wp2
    go_ret2
    have hf : halfOk a b n = false := by unfold halfOk; rw [hin]; simp
    refine half_mk (half_no hf) hf rfl ?_ (al B.below)
    have := World.ownsRow_lit v2 #[] 0 (e := 25) (size := 2) (base := w.heap.size) (by omega) (by unfold maxLen; omega) rfl
    simpa [SBrine.flat] using this
  have hn := of_inB hin
  have hf : halfOk a b n = true := by unfold halfOk; rw [hok, hin]; rfl
  obtain ⟨m, rfl⟩ : ∃ m : Nat, n = m := ⟨n.toNat, by omega⟩
  have HF := Lib.hid hf; clear hf
  obtain ⟨hn0, hn1⟩ := hn
  have c1 : i0.bytes * m ≤ 281474976710656 := by rw [HI.out]; omega
  have c2 : m ≤ maxLen := by unfold maxLen; omega
  go_wp2_with (at_make; go_must (refine wpList_make_full _ rfl _ _ 38 rfl (w.heap.size + 1) 25 i0 _ 2 Tryd.underlying38 hi hz0 HI1.out _ _ _ _ m rfl rfl rfl rfl c1 c2 (by omega) ?_; intro w1 hown1 hg1))
  have hB1 := B_t
  replace B := B.grown hg1 (fun q hq => by cases hq)
  clear B_0 B_1 B_f0 B_f1 B_t
  have O : w1.ownsRow (w.heap.size + 1) 25 2 (.slice (some ⟨v2.heap.size, 0, none⟩) m m) m (SBrine.flat (Mem.half SBrine.zero (parts a b m m) 0)) := by
    rw [half_zero, parts_len, ← SBrine.made]; exact hown1
  clear hown1 hg1 c1 c2
  go_loopw [21] (fun i wr => ∃ k : Nat, k ≤ m ∧ i = .int .i64 k ∧ Box (w.heap.size) [.int .i64 a, .int .i64 b] w wr ∧
      wr.ownsRow (w.heap.size + 1) 25 2 (.slice (some ⟨v2.heap.size, 0, none⟩) m m) m (SBrine.flat (Mem.half SBrine.zero (parts a b m m) k))) (fun i _ => m - (intOf i).toNat)
  case atStart => exact ⟨0, Nat.zero_le _, rfl, B, O⟩
  case round =>
    clear B O
    obtain ⟨k, hk, rfl, B, O⟩ := hrel
    have B_0 := B.cells 0 _ rfl
    have B_1 := B.cells 1 _ rfl
    have B_f0 := B.free 0 (by simp)
    have B_f1 := B.free 1 (by simp)
    have B_t := B.there
    by_cases hlt : k < m
    · have hlp : k < (parts a b m m).length := by rw [parts_len]; exact hlt
      have hx : (parts a b m m)[k] = ⟨shr a m k, shr b m k⟩ := by simp [parts]
      have hz : k * 2 + 2 ≤ m * 2 := by have := Nat.mul_le_mul_right 2 (show k + 1 ≤ m by omega); rw [Nat.succ_mul] at this; exact this
      have hfl : (SBrine.flat (Mem.half SBrine.zero (parts a b m m) k)).length = m * 2 := by rw [SBrine.flat_n, half_len _ _ _ (by omega), parts_len]
      have HS := Lib.hid (SBrine.flat_set (Mem.half SBrine.zero (parts a b m m) k) k (parts a b m m)[k] (by rw [half_len _ _ _ (by omega)]; exact hlp))
      rw [half_set _ _ _ hlp, hx] at HS
      obtain ⟨s1, s2⟩ := shr_bd (n := a) (p := m) (i := k) ha ha1 (by omega)
      obtain ⟨t1, t2⟩ := shr_bd (n := b) (p := m) (i := k) hb hb1 (by omega)
      clear hx
      go_wp2
      clear B_0 B_1 B_f0 B_f1 B_t
      obtain ⟨v4, hV4⟩ : ∃ V : World, V = wr.drew := ⟨_, rfl⟩
      replace B : Box (w.heap.size) [.int .i64 a, .int .i64 b] w v4 := by rw [hV4]; exact B.drew
      replace O : v4.ownsRow (w.heap.size + 1) 25 2 (.slice (some ⟨v2.heap.size, 0, none⟩) m m) (m) (SBrine.flat (Mem.half SBrine.zero (parts a b m m) k)) := by rw [hV4]; exact own_keep O (Below.refl _ _).drew
      refine wp_region_last 14 (fun w' => v4 = w') (by kernel_rfl) (by kernel_rfl) (by kernel_rfl) hV4 ?_
      clear hV4
      have B_0 := B.cells 0 _ rfl
      have B_1 := B.cells 1 _ rfl
      have B_f0 := B.free 0 (by simp)
      have B_f1 := B.free 1 (by simp)
      have B_t := B.there
      simp only [List.take_succ_cons, List.take_zero]
      iterate 14 (
        apply SeqH.one
        · intro uw K hS hK
          subst hS
          first
            | (go_simp; exact hK.out _ rfl)
            | (go_simp; go_at_call 41; (with_reducible refine (even_impl a m k ha ha1 (by omega) (by omega) (by omega) (by omega) _).mono ?_); rintro e _ ⟨rfl, rfl⟩; go_wp2_with fail; exact hK.out _ rfl)
            | (go_simp; go_at_call 41; (with_reducible refine (even_impl b m k hb hb1 (by omega) (by omega) (by omega) (by omega) _).mono ?_); rintro e _ ⟨rfl, rfl⟩; go_wp2_with fail; exact hK.out _ rfl)
        try simp only [Act.put, List.setIfInBounds_toArray, List.set_cons_zero, List.set_cons_succ])
      refine SeqH.rest rfl ?_
      intro uv hS
      subst hS
      simp only [List.drop_succ_cons, List.drop_zero]
      obtain ⟨q0, m0⟩ : ∃ u, v4.cell? ⟨v2.heap.size, k * 2, none⟩ = some u :=
        ⟨_, (O.cellAt (k * 2) (by omega)).trans (List.getElem?_eq_getElem (by rw [hfl]; omega))⟩
      have g0 : v4.frozen? ⟨v2.heap.size, k * 2, none⟩ = false := O.frozenAt _
      obtain ⟨q1, m1⟩ : ∃ u, v4.cell? ⟨v2.heap.size, k * 2 + 1, none⟩ = some u :=
        ⟨_, (O.cellAt (k * 2 + 1) (by omega)).trans (List.getElem?_eq_getElem (by rw [hfl]; omega))⟩
      have g1 : v4.frozen? ⟨v2.heap.size, k * 2 + 1, none⟩ = false := O.frozenAt _
      have O2 := ((O.stored (k * 2) (.int .i64 (shr a m k))).1.stored (k * 2 + 1) (.int .i64 (shr b m k))).1
      have B2 := (B.far (k := v2.heap.size) (by omega) (by omega) (k * 2) (.int .i64 (shr a m k))).far (k := v2.heap.size) (by omega) (by omega) (k * 2 + 1) (.int .i64 (shr b m k))
      clear B_0 B_1 B_f0 B_f1 B_t
      clear B O hfl hz
      go_wp2
      go_roundw
      case rel => exact ⟨k + 1, by omega, by go_num, B2, by rw [← HS.out]; exact O2⟩
      case measure => simp [intOf]; omega
    · have hkm : k = m := by omega
      subst hkm
      have HL := Lib.hid (show halfL a b (k : Int) = parts a b k k by rw [half_yes HF.out]; simp)
      have O2 : wr.ownsRow (w.heap.size + 1) 25 2 (.slice (some ⟨v2.heap.size, 0, none⟩) k k) k (SBrine.flat (parts a b k k)) := by
        have e := half_full SBrine.zero (parts a b k k)
        rw [parts_len] at e
        rw [e] at O; exact O
      go_wp2
      go_ret2
      exact half_mk HL.out HF.out (by rw [parts_len] <;> rfl) (by rw [parts_len]; exact own_base O2 (by omega)) B.below
end Go.Proofs.YtpblkkfafmcnpaaDoor.Halve
