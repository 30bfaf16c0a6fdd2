/- CoverHeaps: the comparison that the program sorts by, and the stable sort of the library. -/
import Derived.Test.YtpbmncecejchjaaCover2
namespace Go.Proofs.Ytpbmncecejchjaa.CoverC
open Go.RowKit Go.Proofs.Ytpbmncecejchjaa.Mem Go.Proofs.Ytpbmncecejchjaa.Base Go.Proofs.Ytpbmncecejchjaa.Within Go.Proofs.Ytpbmncecejchjaa.SInt Go.Proofs.Ytpbmncecejchjaa.Boxes Go.Proofs.Ytpbmncecejchjaa.Keep Go.Proofs.Ytpbmncecejchjaa.Regn Go.Proofs.Ytpbmncecejchjaa.Nest Go.Proofs.Ytpbmncecejchjaa.HeapS Go.Proofs.Ytpbmncecejchjaa.HeapW Go.Proofs.Ytpbmncecejchjaa.HeapE Go.Proofs.Ytpbmncecejchjaa.Heap Go.Proofs.Ytpbmncecejchjaa.HeapG Go.Proofs.Ytpbmncecejchjaa.HeapT Go.Proofs.Ytpbmncecejchjaa.Heap2 Go.Proofs.Ytpbmncecejchjaa.HeapC Go.Proofs.Ytpbmncecejchjaa.Heap3 Go.Proofs.Ytpbmncecejchjaa.HeapV Go.Proofs.Ytpbmncecejchjaa.HeapX Go.Proofs.Ytpbmncecejchjaa.HeapN Go.Proofs.Ytpbmncecejchjaa.Cover Go.Proofs.Ytpbmncecejchjaa.Cover2
open Go.Proofs.Ytpbmncecejchjaa.HeapP hiding openH
open Go.Proofs.Ytpbmncecejchjaa.HeapY (cmpI cmp_any)
set_option linter.unusedVariables false
set_option maxRecDepth 100000
/-- the box B holds a list of heaps; all of it lies below T. -/
structure Env (w : World) (T B : Nat) (A0 : Option Addr) (c : Nat) (m : List R) : Prop where
  lt : B < T
  le : T ≤ w.heap.size
  box : w.cell? ⟨B, 0, none⟩ = some (.slice A0 m.length c)
  hs : Hs w T A0 m
theorem Env.below {w w' : World} {T B c : Nat} {A0 : Option Addr} {m : List R} (h : Env w T B A0 c m) (hb : Below T w w') : Env w' T B A0 c m :=
  ⟨h.lt, Nat.le_trans h.le hb.size, ((bcell hb).1 _ _ h.lt).trans h.box, h.hs.below hb (Nat.le_refl _)⟩
theorem sum_at {m : List R} {i : Nat} {x : R} (hi : i < m.length) (hx : m[i] = x) : sumAt (pl m) i = x.f2.ls.sum := by
  unfold sumAt; rw [h_at (pl_lt hi), pl_x hi hx]; rfl
set_option maxHeartbeats 800000 in
theorem cov_cmp (T B c : Nat) (A0 : Option Addr) (m : List R) (i j : Nat) (w : World) (he : Env w T B A0 c m) (hok : ∀ x ∈ pl m, okLs x.ls = true) (hi : i < m.length) (hj : j < m.length) :
    Calls Try.prog 124 #[.int .i64 i, .int .i64 j, .pointer (some ⟨B, 0, none⟩)] w (RPost (.int .i64 (cmpI (sumAt (pl m) j) (sumAt (pl m) i))) w) := by
  obtain ⟨x, hx⟩ : ∃ x, m[i] = x := ⟨_, rfl⟩
  obtain ⟨y, hy⟩ : ∃ y, m[j] = y := ⟨_, rfl⟩
  obtain ⟨b1, o1, e1, _, _, _, cx, _⟩ := he.hs.at hi hx
  obtain ⟨b2, o2, e2, _, _, _, cy, _⟩ := he.hs.at hj hy
  have bx := he.box
  obtain ⟨q1, q2⟩ : b1 = b2 ∧ o1 = o2 := by rw [e1] at e2; injection e2 with e2; injection e2 with q1 q2 _; exact ⟨q1, q2⟩
  subst q1; subst q2
  rw [e1] at bx
  obtain ⟨_, nx, hbx⟩ := row_ok hok hi hx
  obtain ⟨_, ny, hby⟩ := row_ok hok hj hy
  have hrx : Rd w w.heap.size x.f2.A (iv x.f2.ls) := ((he.hs.rows x (by rw [← hx]; exact List.getElem_mem hi))).mono he.le
  have hry : Rd w w.heap.size y.f2.A (iv y.f2.ls) := ((he.hs.rows y (by rw [← hy]; exact List.getElem_mem hj))).mono he.le
  have BX := Lib.hid hbx; have BY := Lib.hid hby
  obtain ⟨cv, hcv⟩ : ∃ cv, cmpI y.f2.ls.sum x.f2.ls.sum = cv := ⟨_, rfl⟩
  have HCV := Lib.hid hcv
  have HR := Lib.hid (show cmpI (sumAt (pl m) j) (sumAt (pl m) i) = cv by rw [sum_at hi hx, sum_at hj hy, hcv])
  have HB := Below.refl w.heap.size w
  clear he hbx hby hx hy hcv hok
  go_enter Try.func124, Try.ntmps124
  go_wp2_with fail
  refine wp_region_text (fun w' => w'.cell? ⟨B, 0, none⟩ = some (.slice (some ⟨b1, o1, none⟩) m.length c) ∧ w'.cell? ⟨b1, o1 + i * 4 + 2, none⟩ = some (.slice x.f2.A x.f2.ls.length x.f2.cap) ∧ w'.cell? ⟨b1, o1 + j * 4 + 2, none⟩ = some (.slice y.f2.A y.f2.ls.length y.f2.cap) ∧ Rd w' w'.heap.size x.f2.A (iv x.f2.ls) ∧ Rd w' w'.heap.size y.f2.A (iv y.f2.ls) ∧ Below w.heap.size w w') (by kernel_rfl) (by kernel_rfl) ⟨cell_kept bx (Below.refl _ _).drew, cell_kept cx (Below.refl _ _).drew, cell_kept cy (Below.refl _ _).drew, rd_keep hrx (Below.refl _ _).drew, rd_keep hry (Below.refl _ _).drew, be HB (Below.refl _ _).drew⟩ ?_
  iterate 14 (
    apply SeqH.one
    · intro uw K hS hK
      obtain ⟨qbx, qcx, qcy, qhrx, qhry, qHB⟩ := hS
      first
        | (go_simp; exact hK.out _ ⟨qbx, qcx, qcy, qhrx, qhry, qHB⟩)
        | (go_simp; go_at_call 125; (with_reducible refine (cmp_any y.f2.ls.sum x.f2.ls.sum _).mono ?_); rintro e _ ⟨rfl, rfl⟩; rw [HCV.out]; go_wp2_with fail; exact hK.out _ ⟨qbx, qcx, qcy, qhrx, qhry, qHB⟩)
        | (go_simp; go_at_call 122; (with_reducible refine (sum_impl x.f2.A x.f2.cap x.f2.ls _ qhrx nx BX.out).mono ?_); rintro e uw1 ⟨rfl, hv⟩; go_wp2_with fail; exact hK.out _ ⟨cell_kept qbx hv, cell_kept qcx hv, cell_kept qcy hv, rd_keep qhrx hv, rd_keep qhry hv, be qHB hv⟩)
        | (go_simp; go_at_call 122; (with_reducible refine (sum_impl y.f2.A y.f2.cap y.f2.ls _ qhry ny BY.out).mono ?_); rintro e uw1 ⟨rfl, hv⟩; go_wp2_with fail; exact hK.out _ ⟨cell_kept qbx hv, cell_kept qcx hv, cell_kept qcy hv, rd_keep qhrx hv, rd_keep qhry hv, be qHB hv⟩)
    try simp only [Act.put, List.setIfInBounds_toArray, List.set_cons_zero, List.set_cons_succ])
  refine SeqH.end' rfl ?_
  intro v1 hS
  clear bx cx cy hrx hry HB
  obtain ⟨bx, cx, cy, hrx, hry, HB⟩ := hS
  go_wp2
  go_ret
  exact rpost (by rw [HR.out] <;> rfl) HB
theorem lower {w w' : World} {B B' : Nat} (h : Below B w w') (hl : B' ≤ B) : Below B' w w' := ⟨h.os, h.tape, h.output, h.size, fun k hk => h.block k (by omega)⟩
theorem env_keep {w w' : World} {T B c : Nat} {A0 : Option Addr} {m : List R} (h : Env w T B A0 c m) (hb : Below w.heap.size w w') : Env w' T B A0 c m := h.below (lower hb h.le)
theorem below_keep {w w' w0 : World} {T : Nat} (ht : T ≤ w0.heap.size) (h : Below T w0 w) (hb : Below w.heap.size w w') : Below T w0 w' := h.trans (lower hb (Nat.le_trans ht h.size))
theorem cmpI_neg (a b : Int) : decide (cmpI a b < 0) = decide (a < b) := by
  unfold cmpI
  rcases Int.lt_trichotomy a b with h | h | h
  · rw [if_pos h]; simp [h]
  · rw [if_neg (by omega), if_neg (by omega)]; simp; omega
  · rw [if_neg (by omega), if_pos h]; simp; omega
def nv (l : List Nat) : List Value := l.map fun n : Nat => Value.int .i64 (n : Int)
theorem nv_len (l : List Nat) : (nv l).length = l.length := by simp [nv]
theorem nv_get {l : List Nat} {k n : Nat} (e : l[k]? = some n) : (nv l)[k]? = some (.int .i64 n) := by simp [nv, e]
theorem nv_set (l : List Nat) (k n : Nat) : (nv l).set k (.int .i64 n) = nv (l.set k n) := by simp [nv, List.map_set]
theorem sortI_len (lt : Nat → Nat → Bool) (l : List Nat) : (sortI lt l).length = l.length := by
  have h : ∀ (l p : List Nat), (l.foldl (insI lt) p).length = p.length + l.length := by
    intro l
    induction l with
    | nil => intro p; simp
    | cons a l ih => intro p; rw [List.foldl_cons, ih, insI_len]; simp; omega
  unfold sortI; rw [h]; simp
theorem mem_sortI (lt : Nat → Nat → Bool) (l : List Nat) (i : Nat) : i ∈ sortI lt l → i ∈ l := by
  have h : ∀ (l p : List Nat), i ∈ l.foldl (insI lt) p → i ∈ l ∨ i ∈ p := by
    intro l
    induction l with
    | nil => intro p h; exact .inr h
    | cons a l ih =>
      intro p h
      rcases ih _ h with h1 | h1
      · exact .inl (List.mem_cons_of_mem _ h1)
      · rcases (mem_insI lt p a i).1 h1 with h2 | h2
        · subst h2; exact .inl (List.mem_cons_self ..)
        · exact .inr h2
  intro h1
  rcases h l [] h1 with h2 | h2
  · exact h2
  · cases h2
/-- the row while x is on its way down, at j. -/
def mid (p : List Nat) (x : Nat) (rest : List Nat) (j : Nat) : List Nat := p.take j ++ x :: (p.drop j ++ rest)
theorem mid_len (p : List Nat) (x : Nat) (rest : List Nat) (j : Nat) : (mid p x rest j).length = p.length + rest.length + 1 := by unfold mid; simp; omega
theorem mid_x {p : List Nat} {x : Nat} {rest : List Nat} {j : Nat} (hj : j ≤ p.length) : (mid p x rest j)[j]? = some x := by
  unfold mid
  rw [List.getElem?_append_right (by rw [List.length_take]; omega)]
  simp [Nat.min_eq_left hj]
theorem mid_y {p : List Nat} {x : Nat} {rest : List Nat} {j : Nat} (hj : j < p.length) : (mid p x rest (j + 1))[j]? = some p[j] := by
  unfold mid
  rw [List.getElem?_append_left (by simp; omega), List.getElem?_take]
  simp [hj]
theorem posI_yes {lt : Nat → Nat → Bool} {p : List Nat} {x j : Nat} (hj : j < p.length) (h : lt x p[j] = true) : posI lt p x (j + 1) = posI lt p x j := by
  have e : p.getD j 0 = p[j] := by simp [List.getD, hj]
  rw [posI, e, if_pos h]
theorem posI_no {lt : Nat → Nat → Bool} {p : List Nat} {x j : Nat} (hj : j < p.length) (h : lt x p[j] = false) : posI lt p x (j + 1) = j + 1 := by
  have e : p.getD j 0 = p[j] := by simp [List.getD, hj]
  rw [posI, e, h]; rfl
theorem nv_cell {w : World} {T g n c : Nat} {l : List Nat} (h : w.ownsRow T 3 1 (.slice (some ⟨g, 0, none⟩) n c) n (nv l)) {k y : Nat} (hk : k < n) (e : l[k]? = some y) : w.cell? ⟨g, k, none⟩ = some (.int .i64 y) := by
  rw [h.cellAt k (by omega)]; exact nv_get e
theorem mid_swap {p : List Nat} {x : Nat} {rest : List Nat} {j : Nat} (hj : j < p.length) : ((mid p x rest (j + 1)).set (j + 1) p[j]).set j x = mid p x rest j := by
  unfold mid
  have h1 : p.take (j + 1) = p.take j ++ [p[j]] := (List.take_succ_eq_append_getElem hj)
  have h2 : p.drop j = p[j] :: p.drop (j + 1) := List.drop_eq_getElem_cons hj
  have hl : (p.take j).length = j := by simp; omega
  rw [h1, h2]
  simp only [List.append_assoc, List.cons_append]
  rw [List.set_append_right _ _ (by omega), hl, show j + 1 - j = 1 by omega, List.set_append_right _ _ (by omega), hl, Nat.sub_self]
  rfl
theorem mid_top (p : List Nat) (x : Nat) (rest : List Nat) : mid p x rest p.length = p ++ x :: rest := by unfold mid; simp
theorem mid_ins (lt : Nat → Nat → Bool) (p : List Nat) (x : Nat) (rest : List Nat) : mid p x rest (posI lt p x p.length) = insI lt p x ++ rest := by unfold mid insI; simp
/-- a row of numbers, all of it behind T, sorted. -/
def SoPost (T g2 c2 : Nat) (l q : List Nat) (w : World) (e : Ending) (w' : World) : Prop :=
  (∃ v, e = .returned v) ∧ w'.ownsRow T 3 1 (.slice (some ⟨g2, 0, none⟩) l.length c2) l.length (nv q) ∧ Below T w w'
set_option maxHeartbeats 1600000 in
theorem ins_any (T B c : Nat) (A0 : Option Addr) (m : List R) (g2 c2 : Nat) (l : List Nat) (w : World) (he : Env w T B A0 c m) (hok : ∀ x ∈ pl m, okLs x.ls = true) (hl : ∀ i ∈ l, i < m.length) (hn : l.length ≤ 20)
    (ho : w.ownsRow T 3 1 (.slice (some ⟨g2, 0, none⟩) l.length c2) l.length (nv l)) :
    Calls Try.prog 149 #[.slice (some ⟨g2, 0, none⟩) l.length c2, .int .i64 0, .int .i64 l.length, .func (.func 124) #[] #[.pointer (some ⟨B, 0, none⟩)]] w (SoPost T g2 c2 l (sortI (ltK (pl m)) l) w) := by
  obtain ⟨n, hnn⟩ : ∃ n, l.length = n := ⟨_, rfl⟩
  have HLN := Lib.hid hnn
  rw [hnn] at ho hn ⊢
  have HE := Lib.hid he; have HOK := Lib.hid hok; have HM := Lib.hid hl
  have hT := he.le
  have hg2 : T ≤ g2 := own_ge ho g2 rfl
  have h0 : Hid (w.ownsRow T 3 1 (.slice (some ⟨g2, 0, none⟩) n c2) n (nv (sortI (ltK (pl m)) (l.take 1) ++ l.drop 1))) := Lib.hid (by
    have e : sortI (ltK (pl m)) (l.take 1) ++ l.drop 1 = l := by cases l <;> rfl
    rw [e]; exact ho)
  clear he hok hl ho hnn
  go_enter Try.func149, Try.ntmps149
  go_wp2
  go_loopw [8] (fun i wr => ∃ k : Nat, 1 ≤ k ∧ (k ≤ n ∨ k = 1) ∧ i = .int .i64 k ∧ Hid (wr.ownsRow T 3 1 (.slice (some ⟨g2, 0, none⟩) n c2) n (nv (sortI (ltK (pl m)) (l.take k) ++ l.drop k))) ∧ Below T w wr) (fun i _ => n - (intOf i).toNat)
  case atStart => exact ⟨1, Nat.le_refl _, .inr rfl, rfl, h0, Below.refl _ _⟩
  case round =>
    clear h0
    obtain ⟨k, hk1, hk, rfl, HO, HB⟩ := hrel
    by_cases hlt : k < n
    · obtain ⟨p, hp⟩ : ∃ p, sortI (ltK (pl m)) (l.take k) = p := ⟨_, rfl⟩
      have hpl : p.length = k := by rw [← hp, sortI_len, List.length_take]; have := HLN.out; omega
      have hkl : k < l.length := by have := HLN.out; omega
      obtain ⟨x, hx⟩ : ∃ x, l[k] = x := ⟨_, rfl⟩
      have hxm : x < m.length := HM.out x (by rw [← hx]; exact List.getElem_mem hkl)
      have HPM := Lib.hid (show ∀ i ∈ p, i < m.length from fun i hi => by rw [← hp] at hi; exact HM.out i (List.mem_of_mem_take (mem_sortI _ _ _ hi)))
      have hdr : l.drop k = x :: l.drop (k + 1) := by rw [← hx]; exact List.drop_eq_getElem_cons hkl
      have HST : Hid (wr.ownsRow T 3 1 (.slice (some ⟨g2, 0, none⟩) n c2) n (nv (mid p x (l.drop (k + 1)) k))) := Lib.hid (by
        have h := HO.out
        rw [hp, hdr, ← mid_top p x, hpl] at h; exact h)
      have HNX := Lib.hid (show sortI (ltK (pl m)) (l.take (k + 1)) ++ l.drop (k + 1) = mid p x (l.drop (k + 1)) (posI (ltK (pl m)) p x k) by
        rw [List.take_succ_eq_append_getElem hkl, sortI_snoc, hp, hx, ← hpl, mid_ins, hpl])
      have HRL := Lib.hid (show (l.drop (k + 1)).length = n - (k + 1) by rw [List.length_drop, HLN.out])
      have HPL := Lib.hid hpl
      clear hp hx hdr HO hpl
      obtain ⟨rest, hrest⟩ : ∃ r, l.drop (k + 1) = r := ⟨_, rfl⟩
      rw [hrest] at HST HNX HRL
      have HREST := Lib.hid hrest; clear hrest
      go_wp2
      generalize wr = w0 at *
      have HB0 := Lib.hid HB; clear HB
      go_loopw [9] (fun i wx => ∃ j : Nat, j ≤ k ∧ i = .int .i64 j ∧ Hid (posI (ltK (pl m)) p x k = posI (ltK (pl m)) p x j) ∧ Hid (wx.ownsRow T 3 1 (.slice (some ⟨g2, 0, none⟩) n c2) n (nv (mid p x rest j))) ∧ Below T w wx) (fun i _ => (intOf i).toNat)
      case atStart => exact ⟨k, Nat.le_refl _, rfl, Lib.hid rfl, HST, HB0.out⟩
      case round =>
        clear HST
        obtain ⟨j, hj, rfl, HPO, HO, HB⟩ := hrel
        have he := HE.out.below HB
        have O := HO.out
        have hT0 : T ≤ wr.heap.size := Nat.le_trans hT HB.size
        clear HO
        cases j with
        | zero =>
          have HFIN := Lib.hid (show sortI (ltK (pl m)) (l.take (k + 1)) ++ rest = mid p x rest 0 by rw [HNX.out, HPO.out]; rfl)
          go_wp2_with fail
          refine wp_region_text (fun w' => w'.ownsRow T 3 1 (.slice (some ⟨g2, 0, none⟩) n c2) n (nv (mid p x rest 0)) ∧ Below T w w') (by kernel_rfl) (by kernel_rfl) ⟨own_keep O (Below.refl _ _).drew, below_keep hT HB (Below.refl _ _).drew⟩ ?_
          iterate 17 (
            apply SeqH.one
            · intro uw K hS hK
              obtain ⟨qO, qHB⟩ := hS
              first
                | (go_simp; exact hK.out _ ⟨qO, qHB⟩)
            try simp only [Act.put, List.setIfInBounds_toArray, List.set_cons_zero, List.set_cons_succ])
          refine SeqH.end' rfl ?_
          intro v1 hS
          clear O HB
          obtain ⟨O, HB⟩ := hS
          go_wp2
          go_roundw
          case rel => exact ⟨k + 1, by omega, .inl (by omega), by go_num, Lib.hid (by rw [HREST.out, HFIN.out]; exact O), HB⟩
          case measure => simp [intOf]; omega
        | succ j =>
          have hjp : j < p.length := by have := HPL.out; omega
          obtain ⟨y, hy⟩ : ∃ y, p[j] = y := ⟨_, rfl⟩
          have hym : y < m.length := HPM.out y (by rw [← hy]; exact List.getElem_mem hjp)
          have cx : wr.cell? ⟨g2, j + 1, none⟩ = some (.int .i64 x) := nv_cell O (by omega) (mid_x (by have := HPL.out; omega))
          have cy : wr.cell? ⟨g2, j, none⟩ = some (.int .i64 y) := nv_cell O (by omega) (by rw [← hy]; exact mid_y hjp)
          obtain ⟨cv, hcv⟩ : ∃ cv, cmpI (sumAt (pl m) y) (sumAt (pl m) x) = cv := ⟨_, rfl⟩
          have HCMP := Lib.hid (fun (u : World) (hu : Env u T B A0 c m) => show Calls Try.prog 124 #[.int .i64 x, .int .i64 y, .pointer (some ⟨B, 0, none⟩)] u (RPost (.int .i64 cv) u) by have h := cov_cmp T B c A0 m x y u hu HOK.out hxm hym; rw [hcv] at h; exact h)
          have hlt2 : decide (cv < 0) = ltK (pl m) x y := by rw [← hcv]; exact cmpI_neg _ _
          have HSW := Lib.hid (show ((mid p x rest (j + 1)).set (j + 1) y).set j x = mid p x rest j by rw [← hy]; exact mid_swap hjp)
          have HJP := Lib.hid hjp
          have g0 : decide ((0 : Int) < (j : Int) + 1) = true := decide_eq_true (by omega)
          have g1 : decide (0 < j + 1) = true := decide_eq_true (by omega)
          have q1 : IntKind.i64.wrap (j : Int) = j := IntWalk.i64_in _ (by omega)
          have i1 : (j : Int) + 1 < n := by omega
          have i2 : (j : Int) < n := by omega
          have i3 : decide ((j : Int) + 1 < 0) = false := decide_eq_false (by omega)
          have i4 : ((j : Int) + 1).toNat = j + 1 := by omega
          have i5 : ¬ ((j : Int) + 1 < 0) := by omega
          have i6 : (0 : Int) ≤ (j : Int) + 1 := by omega
          have hjn : j + 1 < n := by omega
          have hjn2 : j < n := by omega
          cases hb : ltK (pl m) x y
          · have HFIN := Lib.hid (show sortI (ltK (pl m)) (l.take (k + 1)) ++ rest = mid p x rest (j + 1) by rw [HNX.out, HPO.out, posI_no hjp (by rw [hy]; exact hb)])
            rw [hb] at hlt2
            clear hb hy hcv hjp
            go_wp2_with fail
            refine wp_region_text (fun w' => w'.cell? ⟨g2, j + 1, none⟩ = some (.int .i64 x) ∧ w'.cell? ⟨g2, j, none⟩ = some (.int .i64 y) ∧ Env w' T B A0 c m ∧ w'.ownsRow T 3 1 (.slice (some ⟨g2, 0, none⟩) n c2) n (nv (mid p x rest (j + 1))) ∧ Below T w w') (by kernel_rfl) (by kernel_rfl) ⟨cell_kept cx (Below.refl _ _).drew, cell_kept cy (Below.refl _ _).drew, env_keep he (Below.refl _ _).drew, own_keep O (Below.refl _ _).drew, below_keep hT HB (Below.refl _ _).drew⟩ ?_
            iterate 17 (
              apply SeqH.one
              · intro uw K hS hK
                obtain ⟨qcx, qcy, qhe, qO, qHB⟩ := hS
                first
                  | (go_simp; exact hK.out _ ⟨qcx, qcy, qhe, qO, qHB⟩)
                  | (go_simp; go_at_call 124; (with_reducible refine (HCMP.out _ qhe).mono ?_); rintro e uw1 ⟨rfl, hv⟩; go_wp2_with fail; exact hK.out _ ⟨cell_kept qcx hv, cell_kept qcy hv, env_keep qhe hv, own_keep qO hv, below_keep hT qHB hv⟩)
              try simp only [Act.put, List.setIfInBounds_toArray, List.set_cons_zero, List.set_cons_succ])
            refine SeqH.end' rfl ?_
            intro v1 hS
            clear cx cy he O HB
            obtain ⟨cx, cy, he, O, HB⟩ := hS
            go_wp2
            go_roundw
            case rel => exact ⟨k + 1, by omega, .inl (by omega), by go_num, Lib.hid (by rw [HREST.out, HFIN.out]; exact O), HB⟩
            case measure => simp [intOf]; omega
          · have HPO2 := Lib.hid (show posI (ltK (pl m)) p x k = posI (ltK (pl m)) p x j by rw [HPO.out, posI_yes hjp (by rw [hy]; exact hb)])
            rw [hb] at hlt2
            clear hb hy hcv hjp
            go_wp2_with fail
            refine wp_region_text (fun w' => w'.cell? ⟨g2, j + 1, none⟩ = some (.int .i64 x) ∧ w'.cell? ⟨g2, j, none⟩ = some (.int .i64 y) ∧ Env w' T B A0 c m ∧ w'.ownsRow T 3 1 (.slice (some ⟨g2, 0, none⟩) n c2) n (nv (mid p x rest (j + 1))) ∧ Below T w w') (by kernel_rfl) (by kernel_rfl) ⟨cell_kept cx (Below.refl _ _).drew, cell_kept cy (Below.refl _ _).drew, env_keep he (Below.refl _ _).drew, own_keep O (Below.refl _ _).drew, below_keep hT HB (Below.refl _ _).drew⟩ ?_
            iterate 17 (
              apply SeqH.one
              · intro uw K hS hK
                obtain ⟨qcx, qcy, qhe, qO, qHB⟩ := hS
                first
                  | (go_simp; exact hK.out _ ⟨qcx, qcy, qhe, qO, qHB⟩)
                  | (go_simp; go_at_call 124; (with_reducible refine (HCMP.out _ qhe).mono ?_); rintro e uw1 ⟨rfl, hv⟩; go_wp2_with fail; exact hK.out _ ⟨cell_kept qcx hv, cell_kept qcy hv, env_keep qhe hv, own_keep qO hv, below_keep hT qHB hv⟩)
              try simp only [Act.put, List.setIfInBounds_toArray, List.set_cons_zero, List.set_cons_succ])
            refine SeqH.end' rfl ?_
            intro v1 hS
            clear cx cy he O HB
            obtain ⟨cx, cy, he, O, HB⟩ := hS
            go_wp2_with fail
            obtain ⟨V, hV⟩ : ∃ V : World, V = v1.drew := ⟨_, rfl⟩
            have hvb : Below (v1).heap.size v1 V := by rw [hV]; exact (Below.refl _ _).drew
            have vx := cell_kept cx hvb
            have vy := cell_kept cy hvb
            have VO := own_keep O hvb
            have VB := below_keep hT HB hvb
            have HV9 := Lib.hid hV
            have f1 : V.frozen? ⟨g2, j + 1, none⟩ = false := VO.frozenAt _
            have f2 : (V.setCell ⟨g2, j + 1, none⟩ (.int .i64 y)).frozen? ⟨g2, j, none⟩ = false := (VO.stored (j + 1) (.int .i64 y)).1.frozenAt _
            have O2 := Lib.hid ((VO.stored (j + 1) (.int .i64 y)).1.stored j (.int .i64 x)).1
            have HB2 := Lib.hid ((VB.setCell (p := ⟨g2, j + 1, none⟩) hg2 (.int .i64 y)).setCell (p := ⟨g2, j, none⟩) hg2 (.int .i64 x))
            clear cx cy O HB he hvb VO VB hV
            refine wp_region_seq (fun L w' => (¬ L 15 → V = w') ∧ (L 15 → ¬ L 17 → (V.setCell ⟨g2, j + 1, none⟩ (.int .i64 y)) = w') ∧ (L 17 → ((V.setCell ⟨g2, j + 1, none⟩ (.int .i64 y)).setCell ⟨g2, j, none⟩ (.int .i64 x)) = w')) (by kernel_rfl) (by kernel_rfl) ⟨fun _ => HV9.out, fun h => h.elim, fun h => h.elim⟩ ?_
            iterate 18 (
              apply SeqH.op
              · intro L uw K hN hS hK
                obtain ⟨s0, s1, s2⟩ := hS
                first
                  | (go_simp; exact hK.out _ ⟨fun h => s0 (fun z => h (.inl z)), fun h h2 => s1 (h.resolve_right (by decide)) (fun z => h2 (.inl z)), fun h => s2 (h.resolve_right (by decide))⟩)
                  | (have e := s0 (hN.out.1 15 (by decide +kernel)); subst e; go_simp; exact hK.out _ ⟨fun h => s0 (fun z => h (.inl z)), fun h h2 => s1 (h.resolve_right (by decide)) (fun z => h2 (.inl z)), fun h => s2 (h.resolve_right (by decide))⟩)
                  | (have e := s0 (hN.out.1 15 (by decide +kernel)); have n17 := hN.out.1 17 (by decide +kernel); subst e; go_simp; exact hK.out _ ⟨fun h => (h (by simp)).elim, fun _ _ => rfl, fun h => absurd (h.resolve_right (by decide)) n17⟩)
                  | (have y15 := hN.out.2 15 (by decide +kernel); have e := s1 y15 (hN.out.1 17 (by decide +kernel)); subst e; go_simp; exact hK.out _ ⟨fun h => absurd (.inl y15) h, fun _ h => (h (by simp)).elim, fun _ => rfl⟩)
              try simp only [Act.put, List.setIfInBounds_toArray, List.set_cons_zero, List.set_cons_succ])
            refine SeqH.done rfl ?_
            intro L uv hL hS
            have e9 := hS.2.2 (hL 17 (by decide))
            clear hL hS
            subst e9
            go_wp2
            go_roundw
            case rel => exact ⟨j, by omega, by go_num, HPO2, Lib.hid (by have h := O2.out; rw [nv_set, nv_set, HSW.out] at h; exact h), HB2.out⟩
            case measure => simp [intOf]
    · have hkk : n ≤ k := by omega
      have HF := Lib.hid (show sortI (ltK (pl m)) l = sortI (ltK (pl m)) (l.take k) ++ l.drop k by rw [List.take_of_length_le (by have := HLN.out; omega), List.drop_eq_nil_of_le (by have := HLN.out; omega), List.append_nil])
      go_wp2
      go_end0
      exact ⟨⟨_, rfl⟩, by rw [HF.out, HLN.out]; exact HO.out, HB⟩
end Go.Proofs.Ytpbmncecejchjaa.CoverC
