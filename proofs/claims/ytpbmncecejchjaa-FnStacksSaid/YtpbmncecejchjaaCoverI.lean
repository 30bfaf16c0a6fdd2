/- CoverHeaps: the program's walk. -/
import Derived.Test.YtpbmncecejchjaaCoverD
import Derived.Test.YtpbmncecejchjaaHeapM
namespace Go.Proofs.Ytpbmncecejchjaa.CoverI
open Go.RowKit Go.Proofs.Ytpbmncecejchjaa.Mem Go.Proofs.Ytpbmncecejchjaa.Base Go.Proofs.Ytpbmncecejchjaa.Within Go.Proofs.Ytpbmncecejchjaa.SInt Go.Proofs.Ytpbmncecejchjaa.Boxes Go.Proofs.Ytpbmncecejchjaa.Keep Go.Proofs.Ytpbmncecejchjaa.Regn Go.Proofs.Ytpbmncecejchjaa.Nest Go.Proofs.Ytpbmncecejchjaa.HeapS Go.Proofs.Ytpbmncecejchjaa.HeapW Go.Proofs.Ytpbmncecejchjaa.HeapE Go.Proofs.Ytpbmncecejchjaa.Heap Go.Proofs.Ytpbmncecejchjaa.HeapG Go.Proofs.Ytpbmncecejchjaa.HeapT Go.Proofs.Ytpbmncecejchjaa.Heap2 Go.Proofs.Ytpbmncecejchjaa.HeapC Go.Proofs.Ytpbmncecejchjaa.Heap3 Go.Proofs.Ytpbmncecejchjaa.HeapV Go.Proofs.Ytpbmncecejchjaa.HeapX Go.Proofs.Ytpbmncecejchjaa.HeapN Go.Proofs.Ytpbmncecejchjaa.Cover Go.Proofs.Ytpbmncecejchjaa.Cover2 Go.Proofs.Ytpbmncecejchjaa.CoverC
open Go.Proofs.Ytpbmncecejchjaa.HeapP hiding openH
set_option linter.unusedVariables false
set_option maxRecDepth 100000
theorem openI_len (l : List H) : ∀ n, (openI l n).length ≤ n
  | 0 => Nat.le_refl _
  | n + 1 => by
    have := openI_len l n
    unfold openI; split
    · simp; omega
    · omega
theorem openI_yes {l : List H} {n : Nat} {x : H} (hn : n < l.length) (hx : l[n] = x) (h : openH x = true) : openI l (n + 1) = openI l n ++ [n] := by rw [openI, h_at hn, hx, if_pos h]
theorem openI_no {l : List H} {n : Nat} {x : H} (hn : n < l.length) (hx : l[n] = x) (h : openH x = false) : openI l (n + 1) = openI l n := by rw [openI, h_at hn, hx, h]; rfl
theorem nv_snoc (l : List Nat) (n : Nat) : nv (l ++ [n]) = nv l ++ [.int .i64 n] := by simp [nv]
theorem span_of {T : Nat} {w w' : World} (h : Below T w w') : Span T w.heap.size w w' := ⟨h.os, h.tape, h.output, h.size, fun k hk h1 => h.block k (by omega)⟩
theorem env_mk {w : World} {lo : Nat} {A : Option Addr} {c : Nat} {m : List R} (ho : Own w lo w.heap.size A c m) (hn : m.length ≤ 1048576) (hr : ∀ x ∈ m, x.f2.ls.length ≤ 1048576) :
    Env (w.alloc (.cells #[.slice A m.length c] 73)) (w.heap.size + 1) w.heap.size A c m :=
  ⟨Nat.lt_succ_self _, by rw [size_alloc']; exact Nat.le_refl _, (Box.new (Below.refl _ w) [.slice A m.length c] 73 (g := w.heap.size) rfl).cells 0 _ rfl,
    ((ho.hs hn hr).below (al (Below.refl _ w)) (Nat.le_refl _)).mono (Nat.le_succ _)⟩
theorem coverAll_snoc (l : List H) (q : List Nat) (b : Nat) : coverAll l (q ++ [b]) = (coverAll l q).set b (withCov ((coverAll l q).getD b hz)) := by unfold coverAll; rw [List.foldl_append]; rfl
theorem coverAll_len (l : List H) (q : List Nat) : (coverAll l q).length = l.length := by
  unfold coverAll
  induction q generalizing l with
  | nil => rfl
  | cons a q ih => rw [List.foldl_cons, ih, List.length_set]
set_option maxHeartbeats 1600000 in
theorem cover_impl (P : Option Addr) (cap : Nat) (l : List R) (s : Int) (w : World) (hr : Hs w w.heap.size P l) :
    Calls Try.prog 61 #[.slice P l.length cap, .int .i64 s] w (HPost (covH (pl l) s) (covOk (pl l) s) w) := by
  obtain ⟨i0, hi0, hz0, hz1, hz2⟩ := info_parts info_int
  have HI := Lib.hid hz2; clear hz2
  have HI1 := Lib.hid hz1; clear hz1
  have hmf : ∀ (fn : Fn) (first cap : Array Value) (w : World), (Instr.makeFunc fn first cap).run Try.prog w = .ok (.func fn first cap) w := fun _ _ _ _ => rfl
  have hn := hr.len
  have HR := Lib.hid hr; clear hr
  go_enter Try.func61, Try.ntmps61
  go_wp2_with fail
  refine (are_impl P cap l w HR.out).mono ?_
  rintro e w1 ⟨rfl, HB⟩
  have HV0 := Lib.hid (show covOk (pl l) s = (good (pl l) && inB s 0 20) from rfl)
  cases hg : good (pl l)
  · have HV := Lib.hid (show covOk (pl l) s = false by rw [HV0.out, hg]; rfl)
    have O := h_none HB
    go_wp2
    go_ret2
    exact h_mk (m := []) (cov_no HV.out) HV.out rfl O (al HB)
  cases h6 : inB s 0 20
  · have HV := Lib.hid (show covOk (pl l) s = false by rw [HV0.out, hg, h6]; rfl)
    have O := h_none HB
    go_wp2_with (go_at_call 78; (with_reducible refine (within_any _ _ _ _).mono ?_); rintro e' w' ⟨rfl, rfl⟩; try rw [h6])
    go_ret2
    exact h_mk (m := []) (cov_no HV.out) HV.out rfl O (al HB)
  have HV := Lib.hid (show covOk (pl l) s = true by rw [HV0.out, hg, h6]; rfl)
  have HG := Lib.hid hg; clear hg HV0
  have hrb := of_inB h6
  obtain ⟨sn, rfl⟩ : ∃ sn : Nat, s = sn := ⟨s.toNat, by omega⟩
  go_wp2_with (go_at_call 78; (with_reducible refine (within_any _ _ _ _).mono ?_); rintro e' w' ⟨rfl, rfl⟩; try rw [h6])
  clear h6
  refine (copy_impl _ cap l w1 (HR.out.keep HB)).mono ?_
  rintro e w3 ⟨m0, A3, c3, hm, rfl, O3, hB3⟩
  have HO3 := Lib.hid (O3.base HB.size)
  replace HB := be HB hB3
  have HM := Lib.hid hm
  have hl10 : m0.length ≤ 10 := by have := good_len HG.out; rw [← hm, pl_len] at this; omega
  have HOKS := Lib.hid (show ∀ x ∈ pl m0, okLs x.ls = true by rw [hm]; exact fun x hx => (okH_true (good_mem HG.out x hx)).2.2.2.2)
  have HE4 := Lib.hid (env_mk O3 (by omega) (fun x hx => by
    have h1 := okLs_len (HOKS.out x.pure (List.mem_map.2 ⟨x, hx, rfl⟩))
    have h2 : x.f2.ls.length ≤ 12 := h1
    omega))
  have hba := al (Below.refl w3.heap.size w3) (o := .cells #[.slice A3 m0.length c3] 73)
  have HBA := Lib.hid hba
  have HB4 := Lib.hid (be HB hba)
  clear O3 hm hba hB3
  obtain ⟨N, hN⟩ : ∃ N, m0.length = N := ⟨_, rfl⟩
  have HN0 := Lib.hid hN
  rw [hN] at hl10 HE4 HBA HB4 ⊢
  have hB := HB.size
  clear HB
  go_upto_region 4 with fail
  have hcell := HE4.out.box
  rw [hN] at hcell
  have hs4 : (w3.alloc (.cells #[.slice A3 N c3] 73)).heap.size = w3.heap.size + 1 := size_alloc' _ _
  generalize w3.alloc (.cells #[.slice A3 N c3] 73) = w4 at HE4 HBA HB4 hcell hs4 ⊢
  have hO5 : (w4.alloc (.cells #[] 3)).ownsRow (w3.heap.size + 1) 3 1 (.slice (some ⟨w4.heap.size, 0, none⟩) 0 0) 0 [] := by
    have := World.ownsRow_lit w4 #[] 0 (e := 3) (size := 1) (base := w3.heap.size + 1) (by omega) (by unfold maxLen; omega) rfl
    simpa using this
  have HO5 := Lib.hid hO5
  have hc5 : (w4.alloc (.cells #[] 3)).cell? ⟨w3.heap.size, 0, none⟩ = some (.slice A3 N c3) := cell_kept hcell (al (Below.refl _ _))
  have HB5 := Lib.hid (show Below (w3.heap.size + 1) w4 (w4.alloc (.cells #[] 3)) from lower (al (Below.refl _ w4)) (by omega))
  have HS4 := Lib.hid hs4
  clear hO5 hs4
  clear hN
  go_wp2
  go_loopw [7, 26] (fun v i wr => ∃ (k g c : Nat), k ≤ N ∧ i = .int .i64 k ∧ v = .slice (some ⟨g, 0, none⟩) (openI (pl m0) k).length c ∧
    Hid (wr.ownsRow (w3.heap.size + 1) 3 1 (.slice (some ⟨g, 0, none⟩) (openI (pl m0) k).length c) (openI (pl m0) k).length (nv (openI (pl m0) k))) ∧ Below (w3.heap.size + 1) w4 wr) (fun _ i _ => N - (intOf i).toNat)
  case atStart => exact ⟨0, _, _, Nat.zero_le _, rfl, rfl, HO5, HB5.out⟩
  case round =>
    clear HO5 HB5 hc5
    obtain ⟨k, g, c, hk, rfl, rfl, HO, HB⟩ := hrel
    have he := HE4.out.below HB
    by_cases hlt : k < N
    · have hkm : k < m0.length := by have := HN0.out; omega
      obtain ⟨y, hy⟩ : ∃ y, m0[k] = y := ⟨_, rfl⟩
      obtain ⟨b, o, rfl, hb, c0, c1, c2, c4⟩ := he.hs.at hkm hy
      obtain ⟨hoy, ny, hby⟩ := row_ok HOKS.out hkm hy
      have HPY := Lib.hid (pl_x hkm hy)
      have HKM := Lib.hid (pl_lt hkm)
      have hTw : w3.heap.size + 1 ≤ wr.heap.size := he.le
      have hql : (openI (pl m0) k).length ≤ k := openI_len _ _
      have hba2 := al (Below.refl wr.heap.size wr) (o := .cells #[.int .i64 y.f0, .int .i64 y.f1, .slice y.f2.A y.f2.ls.length y.f2.cap, .bool y.f3] 91)
      have B0 := Box.new (Below.refl _ wr) [.int .i64 y.f0, .int .i64 y.f1, .slice y.f2.A y.f2.ls.length y.f2.cap, .bool y.f3] 91 (g := wr.heap.size) rfl
      have y0 := B0.cells 0 _ rfl; have y1 := B0.cells 1 _ rfl; have y2 := B0.cells 2 _ rfl; have y3 := B0.cells 3 _ rfl
      have HBA2 := Lib.hid hba2
      clear hby hoy hy B0 hba2 he
      go_wp2_with fail
      refine (open_impl y _ (by omega)).mono ?_
      rintro e w6 ⟨rfl, hB6⟩
      have hop0 : HeapP.openH y.pure = openH y.pure := rfl
      rw [hop0]
      have HB6 := Lib.hid (be HBA2.out hB6)
      have hs6 : wr.heap.size ≤ w6.heap.size := HB6.out.size
      have HBT := Lib.hid (HB.trans (lower HB6.out hTw))
      clear hop0 hB6 y0 y1 y2 y3 c0 c1 c2 c4
      cases hop : openH y.pure
      · have HX := Lib.hid (openI_no HKM.out HPY.out hop)
        clear hop
        go_wp2
        go_roundw
        case rel => exact ⟨k + 1, g, c, by omega, by go_num, by rw [HX.out], Lib.hid (by rw [HX.out]; exact own_keep HO.out HB6.out), HBT.out⟩
        case measure => simp [intOf]; omega
      · have HX := Lib.hid (openI_yes HKM.out HPY.out hop)
        have HOA := Lib.hid (World.ownsRow.alloc (own_keep HO.out HB6.out) (.cells #[.int .i64 k] 3))
        have HNC := Lib.hid (HeapP.cell_one w6 (.int .i64 k) 3)
        have HBA6 := Lib.hid (HBT.out.trans (lower (al (Below.refl w6.heap.size w6) (o := .cells #[.int .i64 k] 3)) (show w3.heap.size + 1 ≤ w6.heap.size by omega)))
        clear hop
        go_wp2_with (at_builtin; go_must (refine wpList_append_lies _ rfl _ _ 82 rfl (w3.heap.size + 1) 3 i0 _ 1 8 Try.underlying82 hi0 hz0 HI1.out HI.out rfl (by decide) (.slice (some ⟨g, 0, none⟩) (openI (pl m0) k).length c) (openI (pl m0) k).length (nv (openI (pl m0) k)) rfl HOA.out ⟨w6.heap.size, 0, none⟩ 1 1 [.int .i64 k] rfl rfl HNC.out (one_cell rfl) (by decide) (by unfold maxLen; omega) (by omega) (by rw [size_alloc']; omega) _ rfl ?_; intro g9 c9 w9 hown1 hgrow hat hlt9; have HOWN := Lib.hid hown1; have HGR := Lib.hid hgrow; clear hown1 hgrow hat hlt9))
        go_roundw
        case rel =>
          exact ⟨k + 1, g9, c9, by omega, by go_num, by rw [HX.out, List.length_append] <;> rfl, Lib.hid (by rw [HX.out, nv_snoc, List.length_append]; exact HOWN.out), HBA6.out.grown HGR.out (by rw [size_alloc']; omega) (fun j hj => own_ge HOA.out j hj)⟩
        case measure => simp [intOf]; omega
    · have hkk : k = N := by omega
      have hql : (openI (pl m0) k).length ≤ k := openI_len _ _
      have HQ := Lib.hid (show sortI (ltK (pl m0)) (openI (pl m0) k) = sortI (ltK (pl m0)) (openI (pl m0) (pl m0).length) by rw [pl_len, HN0.out, hkk])
      have HSO := Lib.hid (CoverD.sort_any (w3.heap.size + 1) w3.heap.size c3 A3 m0 g c (openI (pl m0) k) wr he HOKS.out (fun i hi => by have := ((mem_openI _ _ _).1 hi).1; have := HN0.out; omega) (by omega) HO.out)
      have HOL := Lib.hid (show ∀ i ∈ sortI (ltK (pl m0)) (openI (pl m0) k), i < N from fun i hi => by
        have h1 := ((mem_openI _ _ _).1 (mem_sortI _ _ _ hi)).1; omega)
      have HQL := Lib.hid (sortI_len (ltK (pl m0)) (openI (pl m0) k))
      have hcc := own_cap HO.out
      have hTw : w3.heap.size + 1 ≤ wr.heap.size := he.le
      clear he HO hkk
      generalize sortI (ltK (pl m0)) (openI (pl m0) k) = qs at *
      generalize openI (pl m0) k = q0 at *
      obtain ⟨n0, hn0⟩ : ∃ n, q0.length = n := ⟨_, rfl⟩
      rw [hn0] at HSO HQL hcc ⊢
      have HQ0 := Lib.hid hn0
      clear hn0 hql hk
      by_cases hsn : sn ≤ n0
      · have hqt : qs.take sn = qs.take sn := rfl
        have hs1 : (sn : Int) ≤ n0 := by omega
        have hs2 : decide ((n0 : Int) < sn) = false := decide_eq_false (by omega)
        have hs3 : decide ((sn : Int) ≤ n0) = true := decide_eq_true (by omega)
        have hs4 : decide ((sn : Int) < 0) = false := decide_eq_false (by omega)
        have HQT := Lib.hid hqt; clear hqt
        go_wp2_with fail
        refine HSO.out.mono ?_
        rintro e w6 ⟨⟨v, rfl⟩, O6, hB6⟩
        have HE6 := Lib.hid ((HE4.out.below HB).below hB6)
        have HB6 := Lib.hid (HB4.out.trans (lower (HB.trans hB6) (show w.heap.size ≤ w3.heap.size + 1 by omega)))
        have HO6 : Hid (w6.ownsRow (w3.heap.size + 1) 3 1 (.slice (some ⟨g, 0, none⟩) n0 c) n0 (nv qs)) := Lib.hid (by have h := O6; rw [HQ0.out] at h; exact h)
        have HOH := Lib.hid (((HO3.out.keep HBA.out).span (span_of (HB.trans hB6)) (.inl (by omega))))
        clear O6 hB6 HB
        go_wp2
        go_loopw [48] (fun i wr => ∃ (k : Nat) (m : List R), k ≤ sn ∧ i = .int .i64 k ∧ Hid (m.length = N) ∧ Hid (pl m = coverAll (pl m0) (qs.take k)) ∧ Hid (Own wr w.heap.size w3.heap.size A3 c3 m) ∧ Hid (wr.cell? ⟨w3.heap.size, 0, none⟩ = some (.slice A3 N c3)) ∧
          Hid (wr.ownsRow (w3.heap.size + 1) 3 1 (.slice (some ⟨g, 0, none⟩) n0 c) n0 (nv qs)) ∧ Hid (w3.heap.size ≤ wr.heap.size) ∧ Below w.heap.size w wr) (fun i _ => sn - (intOf i).toNat)
        case atStart => exact ⟨0, m0, Nat.zero_le _, rfl, HN0, Lib.hid rfl, HOH, Lib.hid (by have h := HE6.out.box; rw [HN0.out] at h; exact h), HO6, Lib.hid (by have := HE6.out.le; omega), HB6.out⟩
        case round =>
          clear HE6 HB6 HO6 HOH
          obtain ⟨k2, m, hk2, rfl, HN, HP, HO, HC, HI6, HSZ, HB⟩ := hrel
          by_cases hlt2 : k2 < sn
          · have hkq : k2 < qs.length := by have := HQL.out; omega
            obtain ⟨x, hx⟩ : ∃ x, qs[k2] = x := ⟨_, rfl⟩
            have hxN : x < N := HOL.out x (by rw [← hx]; exact List.getElem_mem hkq)
            have hxm : x < m.length := by have := HN.out; omega
            obtain ⟨g3, rfl⟩ := HO.out.ptr (by omega)
            have hg3 : g3 < w3.heap.size := HO.out.low g3 rfl
            have hg3w : w.heap.size ≤ g3 := own_ge HO.out.out g3 rfl
            obtain ⟨y, hy⟩ : ∃ y, m[x] = y := ⟨_, rfl⟩
            have hc := HC.out
            have hi := nv_cell HI6.out (k := k2) (by omega) (by rw [List.getElem?_eq_getElem hkq, hx])
            have f3 : wr.frozen? ⟨g3, x * 4 + 3, none⟩ = false := HO.out.out.frozenAt _
            have hc4 := (HO.out.at hxm hy).2.2.2
            have HO2 := Lib.hid (HeapM.putCov' true HO.out hxm hy)
            have HPN := Lib.hid (show pl (m.set x ⟨y.f0, y.f1, y.f2, true⟩) = coverAll (pl m0) (qs.take (k2 + 1)) by
              rw [List.take_succ_eq_append_getElem hkq, hx, coverAll_snoc, ← HP.out, h_at (pl_lt hxm), pl_x hxm hy]
              exact pl_setp rfl)
            have HC2 := Lib.hid (show (wr.setCell ⟨g3, x * 4 + 3, none⟩ (.bool true)).cell? ⟨w3.heap.size, 0, none⟩ = some (.slice (some ⟨g3, 0, none⟩) N c3) by
              rw [World.cell?_of_block (w := wr) (Below.heap_setCell wr ⟨g3, x * 4 + 3, none⟩ _ w3.heap.size (by simp; omega))]; exact HC.out)
            have HI2 := Lib.hid (own_congr HI6.out (w' := wr.setCell ⟨g3, x * 4 + 3, none⟩ (.bool true)) (fun j hj => Below.heap_setCell wr ⟨g3, x * 4 + 3, none⟩ _ j (by have := own_ge HI6.out j hj; simp; omega)))
            have HL2 := Lib.hid hlt2
            clear hx hy hkq
            go_wp2
            go_roundw
            case rel => exact ⟨k2 + 1, _, HL2.out, by go_num, Lib.hid (by rw [List.length_set]; exact HN.out), HPN, HO2, HC2, HI2, Lib.hid (by rw [size_set']; exact HSZ.out), HB.setCell (p := ⟨g3, x * 4 + 3, none⟩) hg3w _⟩
            case measure => have := HL2.out; simp [intOf]; omega
          · have hkk2 : k2 = sn := by omega
            have hc := HC.out
            have HF := Lib.hid (show covH (pl l) sn = pl m by rw [cov_yes HV.out, Int.toNat_natCast, ← HM.out, cov_sorted, ← HQ.out, HP.out, hkk2])
            clear hkk2
            go_wp2
            go_ret2
            exact h_mk (m := m) HF.out HV.out (by rw [HN.out] <;> rfl) (HO.out.mono HSZ.out) HB
      · have hqt : qs.take sn = qs.take n0 := by
          have := HQL.out
          rw [List.take_of_length_le (by omega), List.take_of_length_le (by omega)]
        have hs1 : ¬ (sn : Int) ≤ n0 := by omega
        have hs2 : decide ((n0 : Int) < sn) = true := decide_eq_true (by omega)
        have hs3 : decide ((sn : Int) ≤ n0) = false := decide_eq_false (by omega)
        have hs4 : decide ((n0 : Int) < 0) = false := decide_eq_false (by omega)
        have HQT := Lib.hid hqt; clear hqt
        go_wp2_with fail
        refine HSO.out.mono ?_
        rintro e w6 ⟨⟨v, rfl⟩, O6, hB6⟩
        have HE6 := Lib.hid ((HE4.out.below HB).below hB6)
        have HB6 := Lib.hid (HB4.out.trans (lower (HB.trans hB6) (show w.heap.size ≤ w3.heap.size + 1 by omega)))
        have HO6 : Hid (w6.ownsRow (w3.heap.size + 1) 3 1 (.slice (some ⟨g, 0, none⟩) n0 c) n0 (nv qs)) := Lib.hid (by have h := O6; rw [HQ0.out] at h; exact h)
        have HOH := Lib.hid (((HO3.out.keep HBA.out).span (span_of (HB.trans hB6)) (.inl (by omega))))
        clear O6 hB6 HB
        go_wp2
        go_loopw [48] (fun i wr => ∃ (k : Nat) (m : List R), k ≤ n0 ∧ i = .int .i64 k ∧ Hid (m.length = N) ∧ Hid (pl m = coverAll (pl m0) (qs.take k)) ∧ Hid (Own wr w.heap.size w3.heap.size A3 c3 m) ∧ Hid (wr.cell? ⟨w3.heap.size, 0, none⟩ = some (.slice A3 N c3)) ∧
          Hid (wr.ownsRow (w3.heap.size + 1) 3 1 (.slice (some ⟨g, 0, none⟩) n0 c) n0 (nv qs)) ∧ Hid (w3.heap.size ≤ wr.heap.size) ∧ Below w.heap.size w wr) (fun i _ => n0 - (intOf i).toNat)
        case atStart => exact ⟨0, m0, Nat.zero_le _, rfl, HN0, Lib.hid rfl, HOH, Lib.hid (by have h := HE6.out.box; rw [HN0.out] at h; exact h), HO6, Lib.hid (by have := HE6.out.le; omega), HB6.out⟩
        case round =>
          clear HE6 HB6 HO6 HOH
          obtain ⟨k2, m, hk2, rfl, HN, HP, HO, HC, HI6, HSZ, HB⟩ := hrel
          by_cases hlt2 : k2 < n0
          · have hkq : k2 < qs.length := by have := HQL.out; omega
            obtain ⟨x, hx⟩ : ∃ x, qs[k2] = x := ⟨_, rfl⟩
            have hxN : x < N := HOL.out x (by rw [← hx]; exact List.getElem_mem hkq)
            have hxm : x < m.length := by have := HN.out; omega
            obtain ⟨g3, rfl⟩ := HO.out.ptr (by omega)
            have hg3 : g3 < w3.heap.size := HO.out.low g3 rfl
            have hg3w : w.heap.size ≤ g3 := own_ge HO.out.out g3 rfl
            obtain ⟨y, hy⟩ : ∃ y, m[x] = y := ⟨_, rfl⟩
            have hc := HC.out
            have hi := nv_cell HI6.out (k := k2) (by omega) (by rw [List.getElem?_eq_getElem hkq, hx])
            have f3 : wr.frozen? ⟨g3, x * 4 + 3, none⟩ = false := HO.out.out.frozenAt _
            have hc4 := (HO.out.at hxm hy).2.2.2
            have HO2 := Lib.hid (HeapM.putCov' true HO.out hxm hy)
            have HPN := Lib.hid (show pl (m.set x ⟨y.f0, y.f1, y.f2, true⟩) = coverAll (pl m0) (qs.take (k2 + 1)) by
              rw [List.take_succ_eq_append_getElem hkq, hx, coverAll_snoc, ← HP.out, h_at (pl_lt hxm), pl_x hxm hy]
              exact pl_setp rfl)
            have HC2 := Lib.hid (show (wr.setCell ⟨g3, x * 4 + 3, none⟩ (.bool true)).cell? ⟨w3.heap.size, 0, none⟩ = some (.slice (some ⟨g3, 0, none⟩) N c3) by
              rw [World.cell?_of_block (w := wr) (Below.heap_setCell wr ⟨g3, x * 4 + 3, none⟩ _ w3.heap.size (by simp; omega))]; exact HC.out)
            have HI2 := Lib.hid (own_congr HI6.out (w' := wr.setCell ⟨g3, x * 4 + 3, none⟩ (.bool true)) (fun j hj => Below.heap_setCell wr ⟨g3, x * 4 + 3, none⟩ _ j (by have := own_ge HI6.out j hj; simp; omega)))
            have HL2 := Lib.hid hlt2
            clear hx hy hkq
            go_wp2
            go_roundw
            case rel => exact ⟨k2 + 1, _, HL2.out, by go_num, Lib.hid (by rw [List.length_set]; exact HN.out), HPN, HO2, HC2, HI2, Lib.hid (by rw [size_set']; exact HSZ.out), HB.setCell (p := ⟨g3, x * 4 + 3, none⟩) hg3w _⟩
            case measure => have := HL2.out; simp [intOf]; omega
          · have hkk2 : k2 = n0 := by omega
            have hc := HC.out
            have HF := Lib.hid (show covH (pl l) sn = pl m by rw [cov_yes HV.out, Int.toNat_natCast, ← HM.out, cov_sorted, ← HQ.out, HQT.out, HP.out, hkk2])
            clear hkk2
            go_wp2
            go_ret2
            exact h_mk (m := m) HF.out HV.out (by rw [HN.out] <;> rfl) (HO.out.mono HSZ.out) HB
end Go.Proofs.Ytpbmncecejchjaa.CoverI
