/- CoverHeaps, as plain functions; the model's walk. -/
import Derived.Test.YtpbmncecejchjaaHeapN
import Derived.Test.YtpbmncecejchjaaHeapY
namespace Go.Proofs.Ytpbmncecejchjaa.Cover
open Go.RowKit Go.Proofs.Ytpbmncecejchjaa.Mem Go.Proofs.Ytpbmncecejchjaa.Base Go.Proofs.Ytpbmncecejchjaa.Within Go.Proofs.Ytpbmncecejchjaa.SInt Go.Proofs.Ytpbmncecejchjaa.Boxes Go.Proofs.Ytpbmncecejchjaa.Keep Go.Proofs.Ytpbmncecejchjaa.Regn Go.Proofs.Ytpbmncecejchjaa.Nest Go.Proofs.Ytpbmncecejchjaa.HeapS Go.Proofs.Ytpbmncecejchjaa.HeapW Go.Proofs.Ytpbmncecejchjaa.HeapE Go.Proofs.Ytpbmncecejchjaa.Heap Go.Proofs.Ytpbmncecejchjaa.HeapG Go.Proofs.Ytpbmncecejchjaa.HeapT Go.Proofs.Ytpbmncecejchjaa.Heap2 Go.Proofs.Ytpbmncecejchjaa.HeapC Go.Proofs.Ytpbmncecejchjaa.Heap3 Go.Proofs.Ytpbmncecejchjaa.HeapV Go.Proofs.Ytpbmncecejchjaa.HeapX Go.Proofs.Ytpbmncecejchjaa.HeapN
open Go.Proofs.Ytpbmncecejchjaa.HeapP hiding openH
set_option linter.unusedVariables false
set_option maxRecDepth 100000
/-- the open heap with the most tons among the first n, the first one of several. -/
def hiC (l : List H) : Nat → Option Nat
  | 0 => none
  | n + 1 => match hiC l n with
    | none => if openH (l.getD n hz) = true then some n else none
    | some b => if openH (l.getD n hz) = true ∧ (l.getD b hz).ls.sum < (l.getD n hz).ls.sum then some n else some b
def withCov (x : H) : H := ⟨x.id, x.gr, x.ls, true⟩
def covStep (l : List H) : List H := match hiC l l.length with
  | none => l
  | some b => l.set b (withCov (l.getD b hz))
def covN (l : List H) : Nat → List H
  | 0 => l
  | n + 1 => covStep (covN l n)
def covOk (l : List H) (s : Int) : Bool := good l && inB s 0 20
def covH (l : List H) (s : Int) : List H := if covOk l s = true then covN l s.toNat else []
theorem cov_no {l : List H} {s : Int} (h : covOk l s = false) : covH l s = [] := by unfold covH; rw [h]; rfl
theorem cov_yes {l : List H} {s : Int} (h : covOk l s = true) : covH l s = covN l s.toNat := by unfold covH; rw [if_pos h]
theorem hiC_shut {l : List H} {n : Nat} {x : H} (hn : n < l.length) (hx : l[n] = x) (ho : openH x = false) : hiC l (n + 1) = hiC l n := by
  show (match hiC l n with | none => _ | some b => _) = _
  rw [h_at hn, hx, ho]
  cases hiC l n <;> simp
theorem hiC_first {l : List H} {n : Nat} {x : H} (hn : n < l.length) (hx : l[n] = x) (hp : hiC l n = none) (ho : openH x = true) : hiC l (n + 1) = some n := by
  show (match hiC l n with | none => _ | some b => _) = _
  rw [hp, h_at hn, hx, ho]; rfl
theorem hiC_more {l : List H} {n b : Nat} {x y : H} (hn : n < l.length) (hx : l[n] = x) (hp : hiC l n = some b) (hb : b < l.length) (hy : l[b] = y) (ho : openH x = true) (h : y.ls.sum < x.ls.sum) : hiC l (n + 1) = some n := by
  show (match hiC l n with | none => _ | some b => _) = _
  rw [hp, h_at hn, hx]
  simp only [h_at hb, hy]
  rw [if_pos ⟨ho, h⟩]
theorem hiC_less {l : List H} {n b : Nat} {x y : H} (hn : n < l.length) (hx : l[n] = x) (hp : hiC l n = some b) (hb : b < l.length) (hy : l[b] = y) (h : ¬ y.ls.sum < x.ls.sum) : hiC l (n + 1) = some b := by
  show (match hiC l n with | none => _ | some b => _) = _
  rw [hp, h_at hn, hx]
  simp only [h_at hb, hy]
  rw [if_neg (fun e => h e.2)]
theorem hiC_lt (l : List H) : ∀ n b, hiC l n = some b → b < n := by
  intro n
  induction n with
  | zero => intro b h; cases h
  | succ n ih =>
    intro b h
    have h' : (match hiC l n with | none => if openH (l.getD n hz) = true then some n else none | some b => if openH (l.getD n hz) = true ∧ (l.getD b hz).ls.sum < (l.getD n hz).ls.sum then some n else some b) = some b := h
    cases hp : hiC l n with
    | none =>
      rw [hp] at h'
      dsimp only at h'
      split at h'
      · injection h' with e; omega
      · cases h'
    | some c =>
      rw [hp] at h'
      dsimp only at h'
      have := ih c hp
      split at h'
      · injection h' with e; omega
      · injection h' with e; omega
theorem covStep_none {l : List H} (h : hiC l l.length = none) : covStep l = l := by unfold covStep; rw [h]
theorem covStep_some {l : List H} {b : Nat} {y : H} (h : hiC l l.length = some b) (hb : b < l.length) (hy : l[b] = y) : covStep l = l.set b (withCov y) := by
  unfold covStep; rw [h]; show l.set b (withCov (l.getD b hz)) = _; rw [h_at hb, hy]
theorem covStep_len (l : List H) : (covStep l).length = l.length := by unfold covStep; split <;> simp
theorem covN_len (l : List H) : ∀ n, (covN l n).length = l.length
  | 0 => rfl
  | n + 1 => (covStep_len _).trans (covN_len l n)
theorem covStep_ok {l : List H} (h : ∀ x ∈ l, okLs x.ls = true) : ∀ x ∈ covStep l, okLs x.ls = true := by
  intro x hx
  unfold covStep at hx
  split at hx
  · exact h x hx
  · rename_i b hb
    rcases List.mem_or_eq_of_mem_set hx with h1 | h1
    · exact h x h1
    · subst h1
      have hl := hiC_lt l _ _ hb
      show okLs (l.getD b hz).ls = true
      rw [h_at hl]
      exact h _ (List.getElem_mem hl)
theorem covN_ok {l : List H} (hg : good l = true) : ∀ n, ∀ x ∈ covN l n, okLs x.ls = true
  | 0 => fun x hx => (okH_true (good_mem hg x hx)).2.2.2.2
  | n + 1 => covStep_ok (covN_ok hg n)
/-- the best so far, as the slot holds it. -/
def Bs (p : Option Nat) (u : Value) (j : Nat) : Prop := (p = none ∧ u = .int .i64 (-1)) ∨ ∃ b : Nat, p = some b ∧ b < j ∧ u = .int .i64 b
theorem Bs.next {p : Option Nat} {u : Value} {j : Nat} (h : Bs p u j) : Bs p u (j + 1) := by
  rcases h with ⟨a, b⟩ | ⟨b, a, c, d⟩
  · exact .inl ⟨a, b⟩
  · exact .inr ⟨b, a, by omega, d⟩
theorem cell_kept {w w' : World} {b o : Nat} {v : Value} (h : w.cell? ⟨b, o, none⟩ = some v) (hb : Below w.heap.size w w') : w'.cell? ⟨b, o, none⟩ = some v :=
  ((bcell hb).1 _ _ (World.block_lt_of_cell? w _ h)).trans h
theorem row_ok {m : List R} (h : ∀ x ∈ pl m, okLs x.ls = true) {k : Nat} {x : R} (hk : k < m.length) (hx : m[k] = x) : okLs x.f2.ls = true ∧ x.f2.ls.length ≤ 1000 ∧ (∀ y ∈ x.f2.ls, 0 ≤ y ∧ y ≤ 10000) := by
  have h1 := h x.pure (by rw [← pl_x hk hx]; exact List.getElem_mem _)
  have h1' : okLs x.f2.ls = true := h1
  have h3 := okLs_len h1'
  exact ⟨h1', by omega, fun y hy => by have := okLs_mem h1' y hy; omega⟩
set_option maxHeartbeats 3600000 in
theorem cover_spec (P : Option Addr) (cap : Nat) (l : List R) (s : Int) (w : World) (hr : Hs w w.heap.size P l) :
    Calls Try.prog 62 #[.slice P l.length cap, .int .i64 s] w (HPost (covH (pl l) s) (covOk (pl l) s) w) := by
  have hn := hr.len
  have HR := Lib.hid hr; clear hr
  go_enter Try.func62, Try.ntmps62
  go_wp2_with fail
  refine (good_spec P cap l w HR.out).mono ?_
  rintro e w1 ⟨rfl, HB⟩
  have HV0 := Lib.hid (show covOk (pl l) s = (good (pl l) && inB s 0 20) from rfl)
  cases hg : good (pl l)
  · have HV := Lib.hid (show covOk (pl l) s = false by rw [HV0.out, hg]; rfl)
    have O := h_none HB
    go_wp2
    go_ret2
    exact h_mk (m := []) (cov_no HV.out) HV.out rfl O (al HB)
  cases h6 : inB s 0 20
  · have HV := Lib.hid (show covOk (pl l) s = false by rw [HV0.out, hg, h6]; rfl)
    have O := h_none HB
    go_wp2_with (go_at_call 82; (with_reducible refine (in_any _ _ _ _).mono ?_); rintro e' w' ⟨rfl, rfl⟩; try rw [h6])
    go_ret2
    exact h_mk (m := []) (cov_no HV.out) HV.out rfl O (al HB)
  have HV := Lib.hid (show covOk (pl l) s = true by rw [HV0.out, hg, h6]; rfl)
  have HG := Lib.hid hg; clear hg HV0
  have hrb := of_inB h6
  go_wp2_with (go_at_call 82; (with_reducible refine (in_any _ _ _ _).mono ?_); rintro e' w' ⟨rfl, rfl⟩; try rw [h6])
  clear h6
  refine (ownL_spec _ cap l w1 (HR.out.keep HB)).mono ?_
  rintro e w3 ⟨m0, A3, c3, hm, rfl, O3, hB3⟩
  have HML := Lib.hid (show m0.length = l.length by rw [← pl_len m0, hm, pl_len])
  have HO3 := Lib.hid (O3.base HB.size); clear O3
  replace HB := be HB hB3
  have hl10 : m0.length ≤ 10 := by have := good_len HG.out; rw [pl_len] at this; have := HML.out; omega
  obtain ⟨N, hN⟩ : ∃ N, m0.length = N := ⟨_, rfl⟩
  rw [hN] at hl10 ⊢
  have HN0 := Lib.hid hN; clear hN HML
  go_wp2
  go_loopw [7] (fun i wr => ∃ (k : Nat) (m : List R), (k : Int) ≤ s ∧ i = .int .i64 k ∧ Hid (m.length = N) ∧ Hid (pl m = covN (pl l) k) ∧ Hid (Own wr w.heap.size wr.heap.size A3 c3 m) ∧ Below w.heap.size w wr) (fun i _ => s.toNat - (intOf i).toNat)
  case atStart => exact ⟨0, m0, by omega, rfl, HN0, Lib.hid hm, HO3, HB⟩
  case round =>
    clear HO3 HB hm HN0
    obtain ⟨k, m, hk, rfl, HN, HP, HO, HB⟩ := hrel
    have HOKS := Lib.hid (show ∀ x ∈ pl m, okLs x.ls = true by rw [HP.out]; exact covN_ok HG.out k)
    by_cases hlt : (k : Int) < s
    · go_wp2
      generalize wr = w0 at *
      have HWB := Lib.hid HB; clear HB
      go_loopw [8, 9] (fun u i wx => ∃ (j : Nat), j ≤ N ∧ i = .int .i64 j ∧ Hid (Bs (hiC (pl m) j) u j) ∧ Below w0.heap.size w0 wx) (fun _ i _ => N - (intOf i).toNat)
      case atStart => exact ⟨0, Nat.zero_le _, rfl, Lib.hid (.inl ⟨rfl, rfl⟩), Below.refl _ _⟩
      case round =>
        obtain ⟨j, hj, rfl, HA, HX⟩ := hrel
        have HOX := Lib.hid ((HO.out.keep HX).mono HX.size)
        have hwb := be HWB.out HX
        by_cases hjl : j < N
        · have hjm : j < m.length := by have := HN.out; omega
          obtain ⟨g, rfl⟩ := HO.out.ptr (by omega)
          obtain ⟨x, hx⟩ : ∃ x, m[j] = x := ⟨_, rfl⟩
          obtain ⟨c0, c1, c2, c4⟩ := HOX.out.at hjm hx
          have hrx : Rd wr wr.heap.size x.f2.A (iv x.f2.ls) := (show RowOwn wr w.heap.size x.f2 by rw [← hx]; exact HOX.out.row hjm).rd
          obtain ⟨hox, nx, hbx⟩ := row_ok HOKS.out hjm hx
          have BX := Lib.hid hbx
          have HPX := Lib.hid (pl_x hjm hx)
          have HJM := Lib.hid (pl_lt hjm)
          have HJL := Lib.hid hjl
          have HOP := Lib.hid (show openH x.pure = (!x.f3 && decide (0 < x.f2.ls.length)) from rfl)
          clear hbx hox hx
          obtain ⟨xa, xg, xr, xq⟩ := x
          dsimp only at c0 c1 c2 c4 hrx nx BX HOP
          cases xq
          · cases hlen : decide (0 < xr.ls.length)
            · have hl2 : decide ((0 : Int) < xr.ls.length) = false := decide_eq_false (by have := of_decide_eq_false hlen; omega)
              have HN2 := Lib.hid (show Bs (hiC (pl m) (j + 1)) u8 (j + 1) by rw [hiC_shut HJM.out HPX.out (by rw [HOP.out, hlen]; rfl)]; exact HA.out.next)
              go_wp2_with fail
              refine wp_region_text (fun w' => w'.cell? ⟨g, j * 4, none⟩ = some (.int .i64 xa) ∧ w'.cell? ⟨g, j * 4 + 1, none⟩ = some (.int .i64 xg) ∧ w'.cell? ⟨g, j * 4 + 2, none⟩ = some (.slice xr.A xr.ls.length xr.cap) ∧ w'.cell? ⟨g, j * 4 + 3, none⟩ = some (.bool false) ∧ Below w0.heap.size w0 w' ∧ Below w.heap.size w w') (by kernel_rfl) (by kernel_rfl) ⟨cell_kept c0 (Below.refl _ _).drew, cell_kept c1 (Below.refl _ _).drew, cell_kept c2 (Below.refl _ _).drew, cell_kept c4 (Below.refl _ _).drew, be HX (Below.refl _ _).drew, be hwb (Below.refl _ _).drew⟩ ?_
              iterate 32 (
                apply SeqH.one
                · intro uw K hS hK
                  obtain ⟨qc0, qc1, qc2, qc4, qHX, qhwb⟩ := hS
                  first
                    | (go_simp; exact hK.out _ ⟨qc0, qc1, qc2, qc4, qHX, qhwb⟩)
                try simp only [Act.put, List.setIfInBounds_toArray, List.set_cons_zero, List.set_cons_succ])
              refine SeqH.end' rfl ?_
              intro v1 hS
              clear c0 c1 c2 c4 HX hwb
              obtain ⟨c0, c1, c2, c4, HX, hwb⟩ := hS
              go_wp2
              go_roundw
              case rel => exact ⟨j + 1, HJL.out, by go_num, HN2, HX⟩
              case measure => have := HJL.out; simp [intOf]; omega
            have hl2 : decide ((0 : Int) < xr.ls.length) = true := decide_eq_true (by have := of_decide_eq_true hlen; omega)
            have HOT := Lib.hid (show openH (R.pure ⟨xa, xg, xr, false⟩) = true by rw [HOP.out, hlen]; rfl)
            rcases HA.out with ⟨hp, rfl⟩ | ⟨jb, hp, hjb, rfl⟩
            · have HN2 := Lib.hid (show Bs (hiC (pl m) (j + 1)) (.int .i64 j) (j + 1) from .inr ⟨j, hiC_first HJM.out HPX.out hp HOT.out, by omega, rfl⟩)
              clear hp
              go_wp2_with fail
              refine wp_region_text (fun w' => w'.cell? ⟨g, j * 4, none⟩ = some (.int .i64 xa) ∧ w'.cell? ⟨g, j * 4 + 1, none⟩ = some (.int .i64 xg) ∧ w'.cell? ⟨g, j * 4 + 2, none⟩ = some (.slice xr.A xr.ls.length xr.cap) ∧ w'.cell? ⟨g, j * 4 + 3, none⟩ = some (.bool false) ∧ Below w0.heap.size w0 w' ∧ Below w.heap.size w w') (by kernel_rfl) (by kernel_rfl) ⟨cell_kept c0 (Below.refl _ _).drew, cell_kept c1 (Below.refl _ _).drew, cell_kept c2 (Below.refl _ _).drew, cell_kept c4 (Below.refl _ _).drew, be HX (Below.refl _ _).drew, be hwb (Below.refl _ _).drew⟩ ?_
              iterate 32 (
                apply SeqH.one
                · intro uw K hS hK
                  obtain ⟨qc0, qc1, qc2, qc4, qHX, qhwb⟩ := hS
                  first
                    | (go_simp; exact hK.out _ ⟨qc0, qc1, qc2, qc4, qHX, qhwb⟩)
                try simp only [Act.put, List.setIfInBounds_toArray, List.set_cons_zero, List.set_cons_succ])
              refine SeqH.end' rfl ?_
              intro v2 hS
              clear c0 c1 c2 c4 HX hwb
              obtain ⟨c0, c1, c2, c4, HX, hwb⟩ := hS
              go_wp2
              go_roundw
              case rel => exact ⟨j + 1, HJL.out, by go_num, HN2, HX⟩
              case measure => have := HJL.out; simp [intOf]; omega
            · have hjbN : jb < N := by omega
              have hjbm : jb < m.length := by have := HN.out; omega
              obtain ⟨y, hy⟩ : ∃ y, m[jb] = y := ⟨_, rfl⟩
              obtain ⟨d0, d1, d2, d4⟩ := HOX.out.at hjbm hy
              have hry : Rd wr wr.heap.size y.f2.A (iv y.f2.ls) := (show RowOwn wr w.heap.size y.f2 by rw [← hy]; exact HOX.out.row hjbm).rd
              obtain ⟨hoy, ny, hby⟩ := row_ok HOKS.out hjbm hy
              have BY := Lib.hid hby
              have HPY := Lib.hid (pl_x hjbm hy)
              have HJBM := Lib.hid (pl_lt hjbm)
              have hneg : decide ((jb : Int) < 0) = false := decide_eq_false (by omega)
              have HPB := Lib.hid hp
              clear hby hoy hy hp
              obtain ⟨ya, yg, yr, yq⟩ := y
              dsimp only at d0 d1 d2 d4 hry ny BY
              have hCX : ∀ u : World, Rd u u.heap.size xr.A (iv xr.ls) → Calls Try.prog 126 #[.agg #[.int .i64 xa, .int .i64 xg, .slice xr.A xr.ls.length xr.cap, .bool false]] u (RPost (.int .i64 xr.ls.sum) u) := fun u hu => tons_spec ⟨xa, xg, xr, false⟩ u hu nx BX.out
              have hCY : ∀ u : World, Rd u u.heap.size yr.A (iv yr.ls) → Calls Try.prog 126 #[.agg #[.int .i64 ya, .int .i64 yg, .slice yr.A yr.ls.length yr.cap, .bool yq]] u (RPost (.int .i64 yr.ls.sum) u) := fun u hu => tons_spec ⟨ya, yg, yr, yq⟩ u hu ny BY.out
              have HCX := Lib.hid hCX; have HCY := Lib.hid hCY
              clear hCX hCY
              obtain ⟨sx, hsx⟩ : ∃ sx, xr.ls.sum = sx := ⟨_, rfl⟩
              obtain ⟨sy, hsy⟩ : ∃ sy, yr.ls.sum = sy := ⟨_, rfl⟩
              rw [hsx] at HCX
              rw [hsy] at HCY
              have HSX := Lib.hid hsx; have HSY := Lib.hid hsy
              clear hsx hsy
              cases hcm : decide (sy < sx)
              · have HN2 := Lib.hid (show Bs (hiC (pl m) (j + 1)) (.int .i64 jb) (j + 1) from .inr ⟨jb, hiC_less HJM.out HPX.out HPB.out HJBM.out HPY.out (by show ¬ yr.ls.sum < xr.ls.sum; rw [HSX.out, HSY.out]; exact of_decide_eq_false hcm), by omega, rfl⟩)
                go_wp2_with fail
                refine wp_region_text (fun w' => w'.cell? ⟨g, j * 4, none⟩ = some (.int .i64 xa) ∧ w'.cell? ⟨g, j * 4 + 1, none⟩ = some (.int .i64 xg) ∧ w'.cell? ⟨g, j * 4 + 2, none⟩ = some (.slice xr.A xr.ls.length xr.cap) ∧ w'.cell? ⟨g, j * 4 + 3, none⟩ = some (.bool false) ∧ w'.cell? ⟨g, jb * 4, none⟩ = some (.int .i64 ya) ∧ w'.cell? ⟨g, jb * 4 + 1, none⟩ = some (.int .i64 yg) ∧ w'.cell? ⟨g, jb * 4 + 2, none⟩ = some (.slice yr.A yr.ls.length yr.cap) ∧ w'.cell? ⟨g, jb * 4 + 3, none⟩ = some (.bool yq) ∧ Rd w' w'.heap.size xr.A (iv xr.ls) ∧ Rd w' w'.heap.size yr.A (iv yr.ls) ∧ Below w0.heap.size w0 w' ∧ Below w.heap.size w w') (by kernel_rfl) (by kernel_rfl) ⟨cell_kept c0 (Below.refl _ _).drew, cell_kept c1 (Below.refl _ _).drew, cell_kept c2 (Below.refl _ _).drew, cell_kept c4 (Below.refl _ _).drew, cell_kept d0 (Below.refl _ _).drew, cell_kept d1 (Below.refl _ _).drew, cell_kept d2 (Below.refl _ _).drew, cell_kept d4 (Below.refl _ _).drew, rd_keep hrx (Below.refl _ _).drew, rd_keep hry (Below.refl _ _).drew, be HX (Below.refl _ _).drew, be hwb (Below.refl _ _).drew⟩ ?_
                iterate 32 (
                  apply SeqH.one
                  · intro uw K hS hK
                    obtain ⟨qc0, qc1, qc2, qc4, qd0, qd1, qd2, qd4, qhrx, qhry, qHX, qhwb⟩ := hS
                    first
                      | (go_simp; exact hK.out _ ⟨qc0, qc1, qc2, qc4, qd0, qd1, qd2, qd4, qhrx, qhry, qHX, qhwb⟩)
                      | (go_simp; go_at_call 126; (with_reducible refine (HCX.out _ qhrx).mono ?_); rintro e uw1 ⟨rfl, hv⟩; go_wp2_with fail; exact hK.out _ ⟨cell_kept qc0 hv, cell_kept qc1 hv, cell_kept qc2 hv, cell_kept qc4 hv, cell_kept qd0 hv, cell_kept qd1 hv, cell_kept qd2 hv, cell_kept qd4 hv, rd_keep qhrx hv, rd_keep qhry hv, be qHX hv, be qhwb hv⟩)
                      | (go_simp; go_at_call 126; (with_reducible refine (HCY.out _ qhry).mono ?_); rintro e uw1 ⟨rfl, hv⟩; go_wp2_with fail; exact hK.out _ ⟨cell_kept qc0 hv, cell_kept qc1 hv, cell_kept qc2 hv, cell_kept qc4 hv, cell_kept qd0 hv, cell_kept qd1 hv, cell_kept qd2 hv, cell_kept qd4 hv, rd_keep qhrx hv, rd_keep qhry hv, be qHX hv, be qhwb hv⟩)
                  try simp only [Act.put, List.setIfInBounds_toArray, List.set_cons_zero, List.set_cons_succ])
                refine SeqH.end' rfl ?_
                intro v3 hS
                clear c0 c1 c2 c4 d0 d1 d2 d4 hrx hry HX hwb
                obtain ⟨c0, c1, c2, c4, d0, d1, d2, d4, hrx, hry, HX, hwb⟩ := hS
                go_wp2
                go_roundw
                case rel => exact ⟨j + 1, HJL.out, by go_num, HN2, HX⟩
                case measure => have := HJL.out; simp [intOf]; omega
              · have HN2 := Lib.hid (show Bs (hiC (pl m) (j + 1)) (.int .i64 j) (j + 1) from .inr ⟨j, hiC_more HJM.out HPX.out HPB.out HJBM.out HPY.out HOT.out (by show yr.ls.sum < xr.ls.sum; rw [HSX.out, HSY.out]; exact of_decide_eq_true hcm), by omega, rfl⟩)
                go_wp2_with fail
                refine wp_region_text (fun w' => w'.cell? ⟨g, j * 4, none⟩ = some (.int .i64 xa) ∧ w'.cell? ⟨g, j * 4 + 1, none⟩ = some (.int .i64 xg) ∧ w'.cell? ⟨g, j * 4 + 2, none⟩ = some (.slice xr.A xr.ls.length xr.cap) ∧ w'.cell? ⟨g, j * 4 + 3, none⟩ = some (.bool false) ∧ w'.cell? ⟨g, jb * 4, none⟩ = some (.int .i64 ya) ∧ w'.cell? ⟨g, jb * 4 + 1, none⟩ = some (.int .i64 yg) ∧ w'.cell? ⟨g, jb * 4 + 2, none⟩ = some (.slice yr.A yr.ls.length yr.cap) ∧ w'.cell? ⟨g, jb * 4 + 3, none⟩ = some (.bool yq) ∧ Rd w' w'.heap.size xr.A (iv xr.ls) ∧ Rd w' w'.heap.size yr.A (iv yr.ls) ∧ Below w0.heap.size w0 w' ∧ Below w.heap.size w w') (by kernel_rfl) (by kernel_rfl) ⟨cell_kept c0 (Below.refl _ _).drew, cell_kept c1 (Below.refl _ _).drew, cell_kept c2 (Below.refl _ _).drew, cell_kept c4 (Below.refl _ _).drew, cell_kept d0 (Below.refl _ _).drew, cell_kept d1 (Below.refl _ _).drew, cell_kept d2 (Below.refl _ _).drew, cell_kept d4 (Below.refl _ _).drew, rd_keep hrx (Below.refl _ _).drew, rd_keep hry (Below.refl _ _).drew, be HX (Below.refl _ _).drew, be hwb (Below.refl _ _).drew⟩ ?_
                iterate 32 (
                  apply SeqH.one
                  · intro uw K hS hK
                    obtain ⟨qc0, qc1, qc2, qc4, qd0, qd1, qd2, qd4, qhrx, qhry, qHX, qhwb⟩ := hS
                    first
                      | (go_simp; exact hK.out _ ⟨qc0, qc1, qc2, qc4, qd0, qd1, qd2, qd4, qhrx, qhry, qHX, qhwb⟩)
                      | (go_simp; go_at_call 126; (with_reducible refine (HCX.out _ qhrx).mono ?_); rintro e uw1 ⟨rfl, hv⟩; go_wp2_with fail; exact hK.out _ ⟨cell_kept qc0 hv, cell_kept qc1 hv, cell_kept qc2 hv, cell_kept qc4 hv, cell_kept qd0 hv, cell_kept qd1 hv, cell_kept qd2 hv, cell_kept qd4 hv, rd_keep qhrx hv, rd_keep qhry hv, be qHX hv, be qhwb hv⟩)
                      | (go_simp; go_at_call 126; (with_reducible refine (HCY.out _ qhry).mono ?_); rintro e uw1 ⟨rfl, hv⟩; go_wp2_with fail; exact hK.out _ ⟨cell_kept qc0 hv, cell_kept qc1 hv, cell_kept qc2 hv, cell_kept qc4 hv, cell_kept qd0 hv, cell_kept qd1 hv, cell_kept qd2 hv, cell_kept qd4 hv, rd_keep qhrx hv, rd_keep qhry hv, be qHX hv, be qhwb hv⟩)
                  try simp only [Act.put, List.setIfInBounds_toArray, List.set_cons_zero, List.set_cons_succ])
                refine SeqH.end' rfl ?_
                intro v4 hS
                clear c0 c1 c2 c4 d0 d1 d2 d4 hrx hry HX hwb
                obtain ⟨c0, c1, c2, c4, d0, d1, d2, d4, hrx, hry, HX, hwb⟩ := hS
                go_wp2
                go_roundw
                case rel => exact ⟨j + 1, HJL.out, by go_num, HN2, HX⟩
                case measure => have := HJL.out; simp [intOf]; omega
          · have HN2 := Lib.hid (show Bs (hiC (pl m) (j + 1)) u8 (j + 1) by rw [hiC_shut HJM.out HPX.out (by rw [HOP.out]; rfl)]; exact HA.out.next)
            go_wp2_with fail
            refine wp_region_text (fun w' => w'.cell? ⟨g, j * 4, none⟩ = some (.int .i64 xa) ∧ w'.cell? ⟨g, j * 4 + 1, none⟩ = some (.int .i64 xg) ∧ w'.cell? ⟨g, j * 4 + 2, none⟩ = some (.slice xr.A xr.ls.length xr.cap) ∧ w'.cell? ⟨g, j * 4 + 3, none⟩ = some (.bool true) ∧ Below w0.heap.size w0 w' ∧ Below w.heap.size w w') (by kernel_rfl) (by kernel_rfl) ⟨cell_kept c0 (Below.refl _ _).drew, cell_kept c1 (Below.refl _ _).drew, cell_kept c2 (Below.refl _ _).drew, cell_kept c4 (Below.refl _ _).drew, be HX (Below.refl _ _).drew, be hwb (Below.refl _ _).drew⟩ ?_
            iterate 32 (
              apply SeqH.one
              · intro uw K hS hK
                obtain ⟨qc0, qc1, qc2, qc4, qHX, qhwb⟩ := hS
                first
                  | (go_simp; exact hK.out _ ⟨qc0, qc1, qc2, qc4, qHX, qhwb⟩)
              try simp only [Act.put, List.setIfInBounds_toArray, List.set_cons_zero, List.set_cons_succ])
            refine SeqH.end' rfl ?_
            intro v5 hS
            clear c0 c1 c2 c4 HX hwb
            obtain ⟨c0, c1, c2, c4, HX, hwb⟩ := hS
            go_wp2
            go_roundw
            case rel => exact ⟨j + 1, HJL.out, by go_num, HN2, HX⟩
            case measure => have := HJL.out; simp [intOf]; omega
        · have hjN : j = N := by omega
          rcases HA.out with ⟨hp, rfl⟩ | ⟨jb, hp, hjb, rfl⟩
          · have HST := Lib.hid (show pl m = covN (pl l) (k + 1) by
              show _ = covStep (covN (pl l) k)
              rw [← HP.out, covStep_none (by rw [pl_len, HN.out, ← hjN]; exact hp)])
            clear hp hjN
            go_wp2
            go_roundw
            case rel => exact ⟨k + 1, m, by omega, by go_num, HN, HST, HOX, hwb⟩
            case measure => simp [intOf]; omega
          · have hjbN : jb < N := by omega
            have hjbm : jb < m.length := by have := HN.out; omega
            obtain ⟨g, rfl⟩ := HO.out.ptr (by omega)
            obtain ⟨y, hy⟩ : ∃ y, m[jb] = y := ⟨_, rfl⟩
            obtain ⟨d0, d1, d2, d4⟩ := HOX.out.at hjbm hy
            have hge : decide ((0 : Int) ≤ jb) = true := decide_eq_true (by omega)
            have HRO := Lib.hid (show RowOwn wr w.heap.size y.f2 by rw [← hy]; exact HOX.out.row hjbm)
            have HST := Lib.hid (show pl (m.set jb ⟨y.f0, y.f1, y.f2, true⟩) = covN (pl l) (k + 1) by
              show _ = covStep (covN (pl l) k)
              rw [← HP.out, covStep_some (by rw [pl_len, HN.out, ← hjN]; exact hp) (pl_lt hjbm) (pl_x hjbm hy)]
              exact pl_setp rfl)
            have HY := Lib.hid hy
            have HWB2 := Lib.hid hwb
            have hlow := hwb.size
            have hgl : g < wr.heap.size := own_lt HOX.out.out
            have hq : w.heap.size ≤ g := own_ge HOX.out.out g rfl
            have hba := al (Below.refl wr.heap.size wr) (o := .cells #[.int .i64 y.f0, .int .i64 y.f1, .slice y.f2.A y.f2.ls.length y.f2.cap, .bool true] 91)
            have B0 := Box.new (Below.refl _ wr) [.int .i64 y.f0, .int .i64 y.f1, .slice y.f2.A y.f2.ls.length y.f2.cap, .bool true] 91 (g := wr.heap.size) rfl
            have HP9 := Lib.hid (HeapE.putAll (w' := wr.alloc (.cells #[.int .i64 y.f0, .int .i64 y.f1, .slice y.f2.A y.f2.ls.length y.f2.cap, .bool true] 91)) (top' := wr.heap.size + 1) ⟨y.f0, y.f1, y.f2, true⟩ HOX.out hjbm (HRO.out.keep hba) (Nat.le_succ _) (fun q hq => ⟨by have := (HRO.out.lt q hq).2; omega, (by
                have hm := HOX.out.inn.far _ (List.mem_map.2 ⟨_, List.getElem_mem hjbm, rfl⟩) q (by rw [hy]; exact hq)
                exact fun e => hm.2 (by rw [e]; rfl)), .inl (by rw [hy]; exact hq)⟩) (fun q hq _ => hba.block q hq))
            have HOW := Lib.hid (own_keep HOX.out.out hba)
            have HB0 := Lib.hid B0
            have HBA := Lib.hid hba
            have HD0 := Lib.hid (cell_kept d0 hba); have HD1 := Lib.hid (cell_kept d1 hba); have HD2 := Lib.hid (cell_kept d2 hba); have HD4 := Lib.hid (cell_kept d4 hba)
            clear hp hjN hy B0 hba hwb
            go_upto_region 16 with fail
            have HB9 := Lib.hid (be HWB2.out HBA.out)
            have hsz : (wr.alloc (.cells #[.int .i64 y.f0, .int .i64 y.f1, .slice y.f2.A y.f2.ls.length y.f2.cap, .bool true] 91)).heap.size = wr.heap.size + 1 := size_alloc' _ _
            generalize wr.alloc (.cells #[.int .i64 y.f0, .int .i64 y.f1, .slice y.f2.A y.f2.ls.length y.f2.cap, .bool true] 91) = W6 at HP9 HOW HB0 HBA HB9 HD0 HD1 HD2 HD4 hsz ⊢
            have y0 := HB0.out.cells 0 _ rfl; have y1 := HB0.out.cells 1 _ rfl; have y2 := HB0.out.cells 2 _ rfl; have y3 := HB0.out.cells 3 _ rfl
            have f0 : W6.frozen? ⟨g, jb * 4, none⟩ = false := HOW.out.frozenAt _
            have f1 : W6.frozen? ⟨g, jb * 4 + 1, none⟩ = false := HOW.out.frozenAt _
            have f2 : W6.frozen? ⟨g, jb * 4 + 2, none⟩ = false := HOW.out.frozenAt _
            have f3 : W6.frozen? ⟨g, jb * 4 + 3, none⟩ = false := HOW.out.frozenAt _
            clear d0 d1 d2 d4
            have d0 := HD0.out; have d1 := HD1.out; have d2 := HD2.out; have d4 := HD4.out
            have HSZ6 := Lib.hid hsz; clear hsz
            go_wp2
            go_roundw
            case rel =>
              exact ⟨k + 1, m.set jb ⟨y.f0, y.f1, y.f2, true⟩, by omega, by go_num, Lib.hid (by rw [List.length_set]; exact HN.out), HST, Lib.hid (by simp only [size_set', HSZ6.out]; exact HP9.out), ((((HB9.out).setCell hq _).setCell hq _).setCell hq _).setCell hq _⟩
            case measure => simp [intOf]; omega
    · have hks : k = s.toNat := by omega
      have HF := Lib.hid (show covH (pl l) s = pl m by rw [cov_yes HV.out, HP.out, hks])
      go_wp2
      go_ret2
      exact h_mk (m := m) HF.out HV.out (by rw [HN.out] <;> rfl) HO.out HB
end Go.Proofs.Ytpbmncecejchjaa.Cover
