/- Series: the sums. -/
import Derived.Test.YtciohcipmkhneaaSerC
import Derived.Deep.CutBlock
import Derived.Deep.Cut
import Derived.Deep.DeepCutAuto
namespace Go.Proofs.Ytciohcipmkhneaa.SerS
open Go.RowKit Go.Proofs.Ytciohcipmkhneaa.Mem Go.Proofs.Ytciohcipmkhneaa.Base Go.Proofs.Ytciohcipmkhneaa.Within Go.Proofs.Ytciohcipmkhneaa.Brine Go.Proofs.Ytciohcipmkhneaa.Brine2 Go.Proofs.Ytciohcipmkhneaa.Brine6 Go.Proofs.Ytciohcipmkhneaa.Regn Go.Proofs.Ytciohcipmkhneaa.Boxes Go.Proofs.Ytciohcipmkhneaa.Keep Go.Proofs.Ytciohcipmkhneaa.Ser Go.Proofs.Ytciohcipmkhneaa.SerG Go.Proofs.Ytciohcipmkhneaa.SerC
open Go.Proofs.Ytciohcipmkhneaa.SBasin hiding RPost rpost
set_option linter.unusedVariables false
set_option maxRecDepth 100000
theorem tot_take {l : List R} (h : good l = true) (k : Nat) : 0 ≤ tw (l.take k) ∧ tw (l.take k) ≤ 8000000 ∧ 0 ≤ ts (l.take k) ∧ ts (l.take k) ≤ 8000000 := by
  obtain ⟨_, h8, ha⟩ := good_all h
  have := tot_bd (l := l.take k) (fun x hx => ha x (List.mem_of_mem_take hx))
  have : (l.take k).length ≤ 8 := by rw [List.length_take]; omega
  omega
theorem tot_all {l : List R} {k : Nat} (hk : l.length ≤ k) : tw (l.take k) = tw l ∧ ts (l.take k) = ts l := by rw [List.take_of_length_le hk]; exact ⟨rfl, rfl⟩
set_option maxHeartbeats 800000 in
theorem all_spec (P : Option Addr) (cap : Nat) (l : List R) (w : World) (hr : Rd w w.heap.size P (flat l)) (hg : good l = true) :
    Calls Try.prog 93 #[.slice P l.length cap] w (RPost (br (tw l) (ts l)) w) := by
  have HR := Lib.hid hr; clear hr
  have HG := Lib.hid hg
  have h8 := (good_all hg).2.1
  clear hg
  go_enter Try.func93, Try.ntmps93
  go_wp2
  have C := (Box.new (Below.refl _ w) [.int .i64 0, .int .i64 0] 26 (g := w.heap.size) rfl).alloc (.cells #[.int .i64 0, .int .i64 0] 26)
  have O := Box.new (al (Below.refl _ w) (o := (.cells #[.int .i64 0, .int .i64 0] 26))) [.int .i64 0, .int .i64 0] 26 (g := w.heap.size + 1) (by simp only [size_alloc'])
  generalize ((w.alloc (.cells #[.int .i64 0, .int .i64 0] 26)).alloc (.cells #[.int .i64 0, .int .i64 0] 26)) = W1 at C O ⊢
  have C_0 := C.cells 0 _ rfl
  have C_1 := C.cells 1 _ rfl
  have C_f0 := C.free 0 (by simp)
  have C_f1 := C.free 1 (by simp)
  have C_t := C.there
  have O_0 := O.cells 0 _ rfl
  have O_1 := O.cells 1 _ rfl
  have O_f0 := O.free 0 (by simp)
  have O_f1 := O.free 1 (by simp)
  have O_t := O.there
  go_loopw [4] (fun i wr => ∃ (k : Nat) (x y : Int), k ≤ l.length ∧ i = .int .i64 k ∧ Hid (x = tw (l.take k) ∧ y = ts (l.take k)) ∧ Box (w.heap.size) [.int .i64 0, .int .i64 0] w wr ∧ Box (w.heap.size + 1) [.int .i64 x, .int .i64 y] w wr) (fun i _ => l.length - (intOf i).toNat)
  case atStart => exact ⟨0, 0, 0, Nat.zero_le _, rfl, Lib.hid ⟨rfl, rfl⟩, C, O⟩
  case round =>
    clear C_0 C_1 C_f0 C_f1 C_t
    clear O_0 O_1 O_f0 O_f1 O_t
    clear C O
    obtain ⟨k, x, y, hk, rfl, hU, C, O⟩ := hrel
    have C_0 := C.cells 0 _ rfl
    have C_1 := C.cells 1 _ rfl
    have C_f0 := C.free 0 (by simp)
    have C_f1 := C.free 1 (by simp)
    have C_t := C.there
    have O_0 := O.cells 0 _ rfl
    have O_1 := O.cells 1 _ rfl
    have O_f0 := O.free 0 (by simp)
    have O_f1 := O.free 1 (by simp)
    have O_t := O.there
    by_cases hlt : k < l.length
    · obtain ⟨b, o, rfl, hb, hc⟩ := HR.out.at (k := k * 3) (by rw [flat_n]; omega)
      obtain ⟨z, hz⟩ : ∃ z, l[k] = z := ⟨_, rfl⟩
      obtain ⟨h0, h1, h2⟩ := cells3 (Below.refl _ _) hb hc hlt hz
      obtain ⟨_, _, hu0, hu1, hv0, hv1⟩ := okA_true (good_get HG.out hlt hz)
      have hbd := tot_take HG.out k
      rw [← hU.out.1, ← hU.out.2] at hbd
      obtain ⟨bx0, bx1, by0, by1⟩ := hbd
      have HN := Lib.hid (show x + z.f1 = tw (l.take (k + 1)) ∧ y + z.f2 = ts (l.take (k + 1)) by rw [tw_snoc l k hlt, ts_snoc l k hlt, hz, hU.out.1, hU.out.2]; exact ⟨rfl, rfl⟩)
      have HZ := Lib.hid hz
      clear hc hU hz
      have h1_c := ((bcell C.below).1 _ _ hb).trans h1
      have h2_c := ((bcell C.below).1 _ _ hb).trans h2
      go_wp2_with fail
      refine wp_region_seq (fun L w' => Box (w.heap.size) [.int .i64 0, .int .i64 0] w w' ∧ BoxL (L 7) (w.heap.size + 1) [.int .i64 x, .int .i64 y] [.int .i64 (x + z.f1), .int .i64 (y + z.f2)] w w') (by kernel_rfl) (by kernel_rfl) ⟨C.drew, BoxL.start _ O.drew⟩ ?_
      clear C_0 C_1 C_f0 C_f1 C_t
      clear O_0 O_1 O_f0 O_f1 O_t
      clear h1_c
      clear h2_c
      iterate 8 (
        apply SeqH.op
        · intro L uw K hN hS hK
          obtain ⟨qC, qO⟩ := hS
          have qC_0 := qC.cells 0 _ rfl
          have qC_1 := qC.cells 1 _ rfl
          try (have hh0 := qO.2 (hN.out.1 7 (by decide +kernel)); have qO_0 := hh0.cells 0 _ rfl; have qO_1 := hh0.cells 1 _ rfl; clear hh0)
          clear hN
          have qh1_c := ((bcell qC.below).1 _ _ hb).trans h1
          have qh2_c := ((bcell qC.below).1 _ _ hb).trans h2
          first
            | (go_simp; exact hK.out _ ⟨qC, (qO).skip (by decide)⟩)
            | (go_simp; go_at_call 94; (with_reducible refine (Mix.sum_spec x y z.f1 z.f2 bx0 (by omega) by0 (by omega) hu0 (by omega) hv0 (by omega) _).mono ?_); rintro e uw1 ⟨rfl, hv⟩; unfold br; go_wp2_with fail; exact hK.out _ ⟨qC.more hv, (qO.more hv).skip (by decide)⟩)
            | (rcases qO.two with hh | hh <;> (have h0 := hh.cells 0 _ rfl; have k0 := hh.free 0 (by simp); have h1 := hh.cells 1 _ rfl; have k1 := hh.free 1 (by simp); go_simp; exact hK.out _ ⟨((qC.far hh.base (by omega) 0 (.int .i64 (x + z.f1))).far hh.base (by omega) 1 (.int .i64 (y + z.f2))), BoxL.put ((hh.set 0 (.int .i64 (x + z.f1))).set 1 (.int .i64 (y + z.f2)))⟩))
        try simp only [Act.put, List.setIfInBounds_toArray, List.set_cons_zero, List.set_cons_succ])
      refine SeqH.done rfl ?_
      intro L v2 hL hS
      clear C O
      obtain ⟨C, O⟩ := hS
      replace O := O.done (hL 7 (by decide))
      clear hL
      have C_0 := C.cells 0 _ rfl
      have C_1 := C.cells 1 _ rfl
      have C_f0 := C.free 0 (by simp)
      have C_f1 := C.free 1 (by simp)
      have C_t := C.there
      have O_0 := O.cells 0 _ rfl
      have O_1 := O.cells 1 _ rfl
      have O_f0 := O.free 0 (by simp)
      have O_f1 := O.free 1 (by simp)
      have O_t := O.there
      have h1_c := ((bcell C.below).1 _ _ hb).trans h1
      have h2_c := ((bcell C.below).1 _ _ hb).trans h2
      go_wp2
      exact ⟨⟨k + 1, x + z.f1, y + z.f2, by omega, by go_num, HN, C, O⟩, by simp only [intOf]; omega⟩
    · have HE := Lib.hid (tot_all (l := l) (k := k) (by omega))
      go_wp2
      clear C_0 C_1 C_f0 C_f1 C_t
      clear O_0 O_1 O_f0 O_f1 O_t
      have C_t3 := C.there
      have O_t3 := O.there
      have C' : Box (w.heap.size) [.int .i64 x, .int .i64 y] w _ := ((C.set 0 (.int .i64 x)).set 1 (.int .i64 y))
      have O' : Box (w.heap.size + 1) [.int .i64 x, .int .i64 y] w _ := ((O.far C.base (by omega) 0 (.int .i64 x)).far C.base (by omega) 1 (.int .i64 y))
      clear C; have C := C'; clear C'
      clear O; have O := O'; clear O'
      have sz3 : ((wr.setCell ⟨w.heap.size, 0, none⟩ (.int .i64 x)).setCell ⟨w.heap.size, 1, none⟩ (.int .i64 y)).heap.size = wr.heap.size := by simp only [size_set']
      generalize ((wr.setCell ⟨w.heap.size, 0, none⟩ (.int .i64 x)).setCell ⟨w.heap.size, 1, none⟩ (.int .i64 y)) = W3 at C O sz3 ⊢
      replace sz3 := Lib.hid sz3
      have C_0 := C.cells 0 _ rfl
      have C_1 := C.cells 1 _ rfl
      have C_f0 := C.free 0 (by simp)
      have C_f1 := C.free 1 (by simp)
      have C_t := C.there
      have O_0 := O.cells 0 _ rfl
      have O_1 := O.cells 1 _ rfl
      have O_f0 := O.free 0 (by simp)
      have O_f1 := O.free 1 (by simp)
      have O_t := O.there
      exact bodyPost_ret (v := br x y) (by simp [br, results, Try.results93, go_sem, C_0, C_1]) rfl (rpost (by rw [hU.out.1, hU.out.2, HE.out.1, HE.out.2]) C.below)
set_option maxHeartbeats 800000 in
theorem sum_spec (P : Option Addr) (cap : Nat) (l : List R) (w : World) (hr : Rd w w.heap.size P (flat l)) (hn : l.length ≤ 1048576) :
    Calls Try.prog 34 #[.slice P l.length cap] w (RPost (sumV l) w) := by
  have HR := Lib.hid hr; clear hr
  go_enter Try.func34, Try.ntmps34
  go_wp2_with fail
  have C := Box.new (Below.refl _ w) [.int .i64 0, .int .i64 0] 26 (g := w.heap.size) rfl
  generalize (w.alloc (.cells #[.int .i64 0, .int .i64 0] 26)) = W1 at C ⊢
  have C_0 := C.cells 0 _ rfl
  have C_1 := C.cells 1 _ rfl
  have C_f0 := C.free 0 (by simp)
  have C_f1 := C.free 1 (by simp)
  have C_t := C.there
  go_wp2_with fail
  refine (good_spec P cap l _ (rd_keep HR.out C.below) hn).mono ?_
  rintro e v2 ⟨rfl, hv2⟩
  clear C_0 C_1 C_f0 C_f1 C_t
  replace C := C.more hv2
  have zhv2 := hv2.size
  clear hv2
  have C_0 := C.cells 0 _ rfl
  have C_1 := C.cells 1 _ rfl
  have C_f0 := C.free 0 (by simp)
  have C_f1 := C.free 1 (by simp)
  have C_t := C.there
  cases hg : good l
  · go_wp2
    clear C_0 C_1 C_f0 C_f1 C_t
    have C_t3 := C.there
    have C' : Box (w.heap.size) [.int .i64 0, .int .i64 0] w _ := ((C.set 0 (.int .i64 0)).set 1 (.int .i64 0))
    clear C; have C := C'; clear C'
    have sz3 : ((v2.setCell ⟨w.heap.size, 0, none⟩ (.int .i64 0)).setCell ⟨w.heap.size, 1, none⟩ (.int .i64 0)).heap.size = v2.heap.size := by simp only [size_set']
    generalize ((v2.setCell ⟨w.heap.size, 0, none⟩ (.int .i64 0)).setCell ⟨w.heap.size, 1, none⟩ (.int .i64 0)) = W3 at C sz3 ⊢
    replace sz3 := Lib.hid sz3
    have C_0 := C.cells 0 _ rfl
    have C_1 := C.cells 1 _ rfl
    have C_f0 := C.free 0 (by simp)
    have C_f1 := C.free 1 (by simp)
    have C_t := C.there
    exact bodyPost_ret (v := .tuple #[br 0 0, .bool false]) (by simp [br, results, Try.results34, go_sem, C_0, C_1]) rfl (rpost (sumV_no (sum1 hg)).symm C.below)
  have HS := Lib.hid (sum2 hg)
  have HG := Lib.hid hg; clear hg
  have HY := Lib.hid (fun h : okB (tw l) (ts l) = true => sumV_yes (l := l) (by rw [HS.out, h]))
  obtain ⟨a, hta⟩ : ∃ a, tw l = a := ⟨_, rfl⟩
  obtain ⟨c, htc⟩ : ∃ c, ts l = c := ⟨_, rfl⟩
  have HT := Lib.hid (And.intro hta htc)
  rw [hta, htc] at HS HY
  clear hta htc
  go_wp2_with fail
  refine (all_spec P cap l _ (rd_keep HR.out C.below) HG.out).mono ?_
  rintro e v4 ⟨rfl, hv4⟩
  clear C_0 C_1 C_f0 C_f1 C_t
  replace C := C.more hv4
  have zhv4 := hv4.size
  clear hv4
  have C_0 := C.cells 0 _ rfl
  have C_1 := C.cells 1 _ rfl
  have C_f0 := C.free 0 (by simp)
  have C_f1 := C.free 1 (by simp)
  have C_t := C.there
  rw [HT.out.1, HT.out.2]; unfold br
  go_wp2_with fail
  refine (brine_spec _ _ _).mono ?_
  rintro e v5 ⟨rfl, hv5⟩
  clear C_0 C_1 C_f0 C_f1 C_t
  replace C := C.more hv5
  have zhv5 := hv5.size
  clear hv5
  have C_0 := C.cells 0 _ rfl
  have C_1 := C.cells 1 _ rfl
  have C_f0 := C.free 0 (by simp)
  have C_f1 := C.free 1 (by simp)
  have C_t := C.there
  cases ho : okB a c
  · go_wp2
    clear C_0 C_1 C_f0 C_f1 C_t
    have C_t6 := C.there
    have C' : Box (w.heap.size) [.int .i64 0, .int .i64 0] w _ := ((C.set 0 (.int .i64 0)).set 1 (.int .i64 0))
    clear C; have C := C'; clear C'
    have sz6 : ((v5.setCell ⟨w.heap.size, 0, none⟩ (.int .i64 0)).setCell ⟨w.heap.size, 1, none⟩ (.int .i64 0)).heap.size = v5.heap.size := by simp only [size_set']
    generalize ((v5.setCell ⟨w.heap.size, 0, none⟩ (.int .i64 0)).setCell ⟨w.heap.size, 1, none⟩ (.int .i64 0)) = W6 at C sz6 ⊢
    replace sz6 := Lib.hid sz6
    have C_0 := C.cells 0 _ rfl
    have C_1 := C.cells 1 _ rfl
    have C_f0 := C.free 0 (by simp)
    have C_f1 := C.free 1 (by simp)
    have C_t := C.there
    exact bodyPost_ret (v := .tuple #[br 0 0, .bool false]) (by simp [br, results, Try.results34, go_sem, C_0, C_1]) rfl (rpost (sumV_no (HS.out.trans ho)).symm C.below)
  · go_wp2_with fail
    refine (all_spec P cap l _ (rd_keep HR.out C.below) HG.out).mono ?_
    rintro e v7 ⟨rfl, hv7⟩
    clear C_0 C_1 C_f0 C_f1 C_t
    replace C := C.more hv7
    have zhv7 := hv7.size
    clear hv7
    have C_0 := C.cells 0 _ rfl
    have C_1 := C.cells 1 _ rfl
    have C_f0 := C.free 0 (by simp)
    have C_f1 := C.free 1 (by simp)
    have C_t := C.there
    rw [HT.out.1, HT.out.2]; unfold br
    go_wp2
    clear C_0 C_1 C_f0 C_f1 C_t
    have C_t8 := C.there
    have C' : Box (w.heap.size) [.int .i64 a, .int .i64 c] w _ := ((C.set 0 (.int .i64 a)).set 1 (.int .i64 c))
    clear C; have C := C'; clear C'
    have sz8 : ((v7.setCell ⟨w.heap.size, 0, none⟩ (.int .i64 a)).setCell ⟨w.heap.size, 1, none⟩ (.int .i64 c)).heap.size = v7.heap.size := by simp only [size_set']
    generalize ((v7.setCell ⟨w.heap.size, 0, none⟩ (.int .i64 a)).setCell ⟨w.heap.size, 1, none⟩ (.int .i64 c)) = W8 at C sz8 ⊢
    replace sz8 := Lib.hid sz8
    have C_0 := C.cells 0 _ rfl
    have C_1 := C.cells 1 _ rfl
    have C_f0 := C.free 0 (by simp)
    have C_f1 := C.free 1 (by simp)
    have C_t := C.there
    exact bodyPost_ret (v := .tuple #[br a c, .bool true]) (by simp [br, results, Try.results34, go_sem, C_0, C_1]) rfl (rpost (HY.out ho).symm C.below)
theorem info_B : (Try.prog.info? 26).map (fun i => (i.zero, i.size, i.bytes)) = some (some SBrine.zero.val, 2, 16) := by kernel_rfl
theorem brs_len (l : List R) : (brs l).length = l.length := by simp [brs]
theorem brs_get (l : List R) (k : Nat) (h : k < l.length) : (brs l)[k]'(by rw [brs_len]; exact h) = ⟨l[k].f1, l[k].f2⟩ := by simp [brs, brOf]
theorem half_brs {l : List R} {k : Nat} {z : R} (h : k < l.length) (hz : l[k] = z) : ((SBrine.flat (half SBrine.zero (brs l) k)).set (k * 2) (.int .i64 z.f1)).set (k * 2 + 1) (.int .i64 z.f2) = SBrine.flat (half SBrine.zero (brs l) (k + 1)) := by
  have hl := brs_len l
  have h1 := SBrine.flat_set (half SBrine.zero (brs l) k) k ⟨z.f1, z.f2⟩ (by rw [half_len _ _ _ (by omega)]; omega)
  rw [h1, ← half_set _ _ _ (by omega), brs_get l k h, hz]
set_option maxHeartbeats 800000 in
theorem sum_impl (P : Option Addr) (cap : Nat) (l : List R) (w : World) (hr : Rd w w.heap.size P (flat l)) (hc : l.length ≤ cap) (hn : l.length ≤ 1048576) :
    Calls Try.prog 23 #[.slice P l.length cap] w (RPost (sumV l) w) := by
  obtain ⟨i0, hi, hz0, hz1, hz2⟩ := info_parts info_B
  have HI := Lib.hid hz2; clear hz2
  have HI1 := Lib.hid hz1; clear hz1
  have c1 : i0.bytes * l.length ≤ 281474976710656 := by rw [HI.out]; omega
  have c2 : l.length ≤ maxLen := by unfold maxLen; omega
  have HR := Lib.hid hr; clear hr
  go_enter Try.func23, Try.ntmps23
  go_wp2_with fail
  have C := Box.new (Below.refl _ w) [.int .i64 0, .int .i64 0] 26 (g := w.heap.size) rfl
  generalize (w.alloc (.cells #[.int .i64 0, .int .i64 0] 26)) = W1 at C ⊢
  have C_0 := C.cells 0 _ rfl
  have C_1 := C.cells 1 _ rfl
  have C_f0 := C.free 0 (by simp)
  have C_f1 := C.free 1 (by simp)
  have C_t := C.there
  go_wp2_with fail
  refine (good_impl P cap l _ (rd_keep HR.out C.below) hn).mono ?_
  rintro e v2 ⟨rfl, hv2⟩
  clear C_0 C_1 C_f0 C_f1 C_t
  replace C := C.more hv2
  have zhv2 := hv2.size
  clear hv2
  have C_0 := C.cells 0 _ rfl
  have C_1 := C.cells 1 _ rfl
  have C_f0 := C.free 0 (by simp)
  have C_f1 := C.free 1 (by simp)
  have C_t := C.there
  cases hg : good l
  · go_wp2
    clear C_0 C_1 C_f0 C_f1 C_t
    have C_t3 := C.there
    have C' : Box (w.heap.size) [.int .i64 0, .int .i64 0] w _ := ((C.set 0 (.int .i64 0)).set 1 (.int .i64 0))
    clear C; have C := C'; clear C'
    have sz3 : ((v2.setCell ⟨w.heap.size, 0, none⟩ (.int .i64 0)).setCell ⟨w.heap.size, 1, none⟩ (.int .i64 0)).heap.size = v2.heap.size := by simp only [size_set']
    generalize ((v2.setCell ⟨w.heap.size, 0, none⟩ (.int .i64 0)).setCell ⟨w.heap.size, 1, none⟩ (.int .i64 0)) = W3 at C sz3 ⊢
    replace sz3 := Lib.hid sz3
    have C_0 := C.cells 0 _ rfl
    have C_1 := C.cells 1 _ rfl
    have C_f0 := C.free 0 (by simp)
    have C_f1 := C.free 1 (by simp)
    have C_t := C.there
    exact bodyPost_ret (v := .tuple #[br 0 0, .bool false]) (by simp [br, results, Try.results23, go_sem, C_0, C_1]) rfl (rpost (sumV_no (sum1 hg)).symm C.below)
  have HM := Lib.hid (mix_brs hg)
  have HG := Lib.hid hg; clear hg
  have hB := C.below.size
  have hT := C.there
  go_wp2_with (at_make; go_must (refine wpList_make_full _ rfl _ _ 100 rfl v2.heap.size 26 i0 _ 2 Try.underlying100 hi hz0 HI1.out _ _ _ _ l.length rfl rfl rfl rfl c1 c2 (Nat.le_refl _) ?_; intro w1 hown1 hg1))
  have hB1 : Below (v2).heap.size v2 w1 := (Below.refl _ _).grown hg1 (Nat.le_refl _) (by intro k hk; cases hk)
  have HO : Hid (w1.ownsRow v2.heap.size 26 2 (.slice (some ⟨v2.heap.size, 0, none⟩) l.length l.length) l.length (SBrine.flat (half SBrine.zero (brs l) 0))) := Lib.hid (by
    rw [half_zero, brs_len, ← SBrine.made]; exact hown1)
  clear hown1 hg1 c1 c2
  clear C_0 C_1 C_f0 C_f1 C_t
  replace C := C.more hB1
  clear hB1
  have C_0 := C.cells 0 _ rfl
  have C_1 := C.cells 1 _ rfl
  have C_f0 := C.free 0 (by simp)
  have C_f1 := C.free 1 (by simp)
  have C_t := C.there
  generalize v2.heap.size = g at *
  go_loopw [16] (fun i wr => ∃ k : Nat, k ≤ l.length ∧ i = .int .i64 k ∧ Hid (wr.ownsRow g 26 2 (.slice (some ⟨g, 0, none⟩) l.length l.length) l.length (SBrine.flat (half SBrine.zero (brs l) k))) ∧ Box (w.heap.size) [.int .i64 0, .int .i64 0] w wr) (fun i _ => l.length - (intOf i).toNat)
  case atStart => exact ⟨0, Nat.zero_le _, rfl, HO, C⟩
  case round =>
    clear C_0 C_1 C_f0 C_f1 C_t
    clear C HO
    obtain ⟨k, hk, rfl, HO, C⟩ := hrel
    by_cases hlt : k < l.length
    · obtain ⟨b, o, rfl, hb, hcc⟩ := HR.out.at (k := k * 3) (by rw [flat_n]; omega)
      obtain ⟨z, hz⟩ : ∃ z, l[k] = z := ⟨_, rfl⟩
      obtain ⟨h0, h1, h2⟩ := cells3 C.below hb hcc hlt hz
      have HF := Lib.hid (half_brs hlt hz)
      clear hcc hz
      have O := HO.out
      go_upto_region 7 with fail
      have C_t4 := C.there
      have B := Box.new C.below [.int .i64 z.f0, .int .i64 z.f1, .int .i64 z.f2] 50 (g := wr.heap.size) rfl
      replace C := (C).alloc (.cells #[.int .i64 z.f0, .int .i64 z.f1, .int .i64 z.f2] 50)
      replace O := own_keep O (al (Below.refl _ _) (o := (.cells #[.int .i64 z.f0, .int .i64 z.f1, .int .i64 z.f2] 50)))
      generalize (wr.alloc (.cells #[.int .i64 z.f0, .int .i64 z.f1, .int .i64 z.f2] 50)) = W4 at B C O ⊢
      have C_0 := C.cells 0 _ rfl
      have C_1 := C.cells 1 _ rfl
      have C_f0 := C.free 0 (by simp)
      have C_f1 := C.free 1 (by simp)
      have C_t := C.there
      have B_0 := B.cells 0 _ rfl
      have B_1 := B.cells 1 _ rfl
      have B_2 := B.cells 2 _ rfl
      have B_f0 := B.free 0 (by simp)
      have B_f1 := B.free 1 (by simp)
      have B_f2 := B.free 2 (by simp)
      have B_t := B.there
      clear h0 h1 h2 HO
      have hz2 : k * 2 + 2 ≤ l.length * 2 := by have := Nat.mul_le_mul_right 2 (show k + 1 ≤ l.length by omega); rw [Nat.succ_mul] at this; exact this
      have hfl : (SBrine.flat (half SBrine.zero (brs l) k)).length = l.length * 2 := by rw [SBrine.flat_n, half_len _ _ k (by rw [brs_len]; omega), brs_len]
      obtain ⟨q0, m0⟩ : ∃ v, (W4).cell? ⟨g, k * 2, none⟩ = some v := ⟨_, (O.cellAt (k * 2) (by omega)).trans (List.getElem?_eq_getElem (by rw [hfl]; omega))⟩
      obtain ⟨q1, m1⟩ : ∃ v, (W4).cell? ⟨g, k * 2 + 1, none⟩ = some v := ⟨_, (O.cellAt (k * 2 + 1) (by omega)).trans (List.getElem?_eq_getElem (by rw [hfl]; omega))⟩
      have g0 : (W4).frozen? ⟨g, k * 2, none⟩ = false := O.frozenAt _
      have g1 : (W4).frozen? ⟨g, k * 2 + 1, none⟩ = false := O.frozenAt _
      have O2 := Lib.hid ((O.stored (k * 2) (.int .i64 z.f1)).1.stored (k * 2 + 1) (.int .i64 z.f2)).1
      have C2 := Lib.hid ((C.far (k := g) hB (by omega) (k * 2) (.int .i64 z.f1)).far (k := g) hB (by omega) (k * 2 + 1) (.int .i64 z.f2))
      clear hfl hz2 O
      go_wp2
      go_roundw
      case rel => exact ⟨k + 1, by omega, by go_num, Lib.hid (by have h := O2.out; rw [HF.out] at h; exact h), C2.out⟩
      case measure => simp [intOf]; omega
    · have O := HO.out
      have hl := brs_len l
      rw [show k = (brs l).length by omega, half_full] at O
      have HX := Lib.hid (show Calls Try.prog 84 #[.slice (some ⟨g, 0, none⟩) l.length l.length] wr (RPost (Mix.mixV (brs l)) wr) by
        have h := Mix.mix_impl (some ⟨g, 0, none⟩) l.length (brs l) wr (Rd.of_own O) (by omega)
        rw [hl] at h; exact h)
      obtain ⟨x, y, q, hv⟩ := sum_form l
      have HV := Lib.hid hv
      clear O HO hl hv
      have C_0 := C.cells 0 _ rfl
      have C_1 := C.cells 1 _ rfl
      have C_f0 := C.free 0 (by simp)
      have C_f1 := C.free 1 (by simp)
      have C_t := C.there
      go_wp2_with fail
      refine (HX.out).mono ?_
      rintro e v5 ⟨rfl, hv5⟩
      clear C_0 C_1 C_f0 C_f1 C_t
      replace C := C.more hv5
      have zhv5 := hv5.size
      clear hv5
      have C_0 := C.cells 0 _ rfl
      have C_1 := C.cells 1 _ rfl
      have C_f0 := C.free 0 (by simp)
      have C_f1 := C.free 1 (by simp)
      have C_t := C.there
      rw [HM.out, HV.out]; unfold br
      go_wp2
      clear C_0 C_1 C_f0 C_f1 C_t
      have C_t6 := C.there
      have C' : Box (w.heap.size) [.int .i64 x, .int .i64 y] w _ := ((C.set 0 (.int .i64 x)).set 1 (.int .i64 y))
      clear C; have C := C'; clear C'
      have sz6 : ((v5.setCell ⟨w.heap.size, 0, none⟩ (.int .i64 x)).setCell ⟨w.heap.size, 1, none⟩ (.int .i64 y)).heap.size = v5.heap.size := by simp only [size_set']
      generalize ((v5.setCell ⟨w.heap.size, 0, none⟩ (.int .i64 x)).setCell ⟨w.heap.size, 1, none⟩ (.int .i64 y)) = W6 at C sz6 ⊢
      replace sz6 := Lib.hid sz6
      have C_0 := C.cells 0 _ rfl
      have C_1 := C.cells 1 _ rfl
      have C_f0 := C.free 0 (by simp)
      have C_f1 := C.free 1 (by simp)
      have C_t := C.there
      exact bodyPost_ret (v := .tuple #[br x y, .bool q]) (by simp [br, results, Try.results23, go_sem, C_0, C_1]) rfl (rpost HV.out.symm C.below)
end Go.Proofs.Ytciohcipmkhneaa.SerS
