/- Heaps: l1Own, slices.Clone of ints, l7Can, canPut, l7Top, topOf, liesOpen. -/
import Derived.Test.YtpbmncecejchjaaHeapG
import Derived.Test.YtpbmncecejchjaaHeap2
import Derived.Test.YtpbmncecejchjaaIClone
import Derived.Deep.AppendLies
namespace Go.Proofs.Ytpbmncecejchjaa.HeapP
open Go.RowKit Go.Proofs.Ytpbmncecejchjaa.Mem Go.Proofs.Ytpbmncecejchjaa.Base Go.Proofs.Ytpbmncecejchjaa.Within Go.Proofs.Ytpbmncecejchjaa.SInt Go.Proofs.Ytpbmncecejchjaa.Boxes Go.Proofs.Ytpbmncecejchjaa.Keep Go.Proofs.Ytpbmncecejchjaa.Regn Go.Proofs.Ytpbmncecejchjaa.Nest Go.Proofs.Ytpbmncecejchjaa.HeapS Go.Proofs.Ytpbmncecejchjaa.HeapW Go.Proofs.Ytpbmncecejchjaa.Heap Go.Proofs.Ytpbmncecejchjaa.Heap2 Go.Proofs.Ytpbmncecejchjaa.HeapG
set_option linter.unusedVariables false
set_option maxRecDepth 100000
/-- these numbers in a row of the call's own. -/
def RowPost (l : List Int) (w : World) (e : Ending) (w' : World) : Prop :=
  ∃ r : Row, r.ls = l ∧ e = .returned (.slice r.A l.length r.cap) ∧ RowOwn w' w.heap.size r ∧ Below w.heap.size w w'
theorem cell_one (u : World) (x : Value) (T : TypeId) : ∀ j v, [x][j]? = some v → (u.alloc (.cells #[x] T)).cell? (Addr.add ⟨u.heap.size, 0, none⟩ j) = some v := by
  intro j v hv
  have h1 := (Box.new (w := u) (Below.refl _ u) [x] T (g := u.heap.size) rfl).cells j v hv
  have e : (Addr.add ⟨u.heap.size, 0, none⟩ j) = ⟨u.heap.size, j, none⟩ := by unfold Addr.add; split
                                                                              · rename_i h; subst h; rfl
                                                                              · simp
  rw [e]; exact h1
theorem row_snoc {w : World} {base : Nat} {A1 : Option Addr} {c1 : Nat} {L : List Int} {x : Int} (h : w.ownsRow base 3 1 (.slice A1 (L.length + 1) c1) (L.length + 1) (iv L ++ [.int .i64 x])) :
    RowOwn w base ⟨A1, c1, L ++ [x]⟩ := by
  have e : iv (L ++ [x]) = iv L ++ [.int .i64 x] := by simp [iv]
  show w.ownsRow base 3 1 (.slice A1 (L ++ [x]).length c1) (L ++ [x]).length (iv (L ++ [x]))
  rw [e, List.length_append]; exact h
theorem clone_impl (P : Option Addr) (cap : Nat) (l : List Int) (w : World) (hr : Rd w w.heap.size P (iv l)) (hn : l.length ≤ 1048576) :
    Calls Try.prog 142 #[.slice P l.length cap] w (RowPost l w) :=
  (IClone.clone_any P cap l w hr hn).mono fun e w' h => by
    obtain ⟨A, c, h1, h2, h3⟩ := h
    exact ⟨⟨A, c, l⟩, rfl, h1, h2, h3⟩
set_option maxHeartbeats 400000 in
theorem own_spec (P : Option Addr) (cap : Nat) (l : List Int) (w : World) (hr : Rd w w.heap.size P (iv l)) (hn : l.length ≤ 1048576) :
    Calls Try.prog 144 #[.slice P l.length cap] w (RowPost l w) := by
  obtain ⟨i0, hi, hz0, hz1, hz2⟩ := info_parts info_int
  have HI := Lib.hid hz2; clear hz2
  have HI1 := Lib.hid hz1; clear hz1
  have HO := Lib.hid (IClone.empty_own (Below.refl _ w))
  cases P with
  | none =>
    have hl : l = [] := by
      rcases hr with h | ⟨b, o, hA, _⟩
      · exact IClone.iv_nil h
      · cases hA
    subst hl
    go_enter Try.func144, Try.ntmps144
    go_wp2_with fail
    go_ret
    exact ⟨⟨some ⟨w.heap.size, 0, none⟩, 0, []⟩, rfl, rfl, HO.out, al (Below.refl _ _)⟩
  | some ad =>
    have hnews : ∀ j u, (iv l)[j]? = some u → (w.alloc (.cells #[] 3)).cell? (ad.add j) = some u := by
      intro j u hu
      rcases hr with h | ⟨b, o, hA, hb, hc⟩
      · rw [h] at hu; cases hu
      · injection hA with hA; subst hA
        rw [IClone.cell_add, ((bcell (al (Below.refl w.heap.size w) (o := .cells #[] 3))).1 _ _ hb)]
        exact hc j u hu
    have HN := Lib.hid hnews; clear hnews
    go_enter Try.func144, Try.ntmps144
    go_wp2_with (at_builtin; go_must (refine wpList_append_own _ rfl _ _ 82 rfl w.heap.size 3 i0 _ 1 8 Try.underlying82 hi hz0 HI1.out HI.out rfl (by decide) _ 0 _ rfl HO.out ad l.length cap (iv l) rfl (IClone.iv_n l) HN.out (IClone.iv_one l) (by unfold maxLen; omega) (by omega) (by rw [size_alloc']; omega) ?_; intro v' w9 hown1 hgrow _))
    have hB9 := bl_grown (al (Below.refl w.heap.size w) (o := .cells #[] 3)) hgrow (fun k hk => own_ge HO.out k hk)
    obtain ⟨A1, c1, rfl⟩ := own_form hown1
    have HO1 : w9.ownsRow w.heap.size 3 1 (.slice A1 l.length c1) l.length (iv l) := by simpa [show iv [] = [] from rfl] using hown1
    clear hgrow hown1
    go_wp2
    go_ret
    exact ⟨⟨A1, c1, l⟩, rfl, by simp, HO1, hB9⟩
theorem top_impl (A : Option Addr) (c : Nat) (l : List Int) (w : World) (hr : Rd w w.heap.size A (iv l)) (hn : l.length ≤ 1048576) :
    Calls Try.prog 114 #[.slice A l.length c] w fun e w' => e = .returned (.int .i64 (topE 501 l)) ∧ w = w' := by
  rcases Nat.eq_zero_or_pos l.length with h0 | h0
  · have HT := Lib.hid (topE_nil 501 h0)
    have h0' : ((l.length : Int) == 0) = true := by rw [h0]; rfl
    clear h0
    go_enter Try.func114, Try.ntmps114
    go_wp2
    go_ret
    exact ⟨by rw [HT.out]; rfl, rfl⟩
  · obtain ⟨k, hk⟩ : ∃ k, l.length = k + 1 := ⟨l.length - 1, by omega⟩
    obtain ⟨b, o, rfl, hb, hc⟩ := hr.at (k := k) (by rw [iv_len]; omega)
    obtain ⟨x, hx⟩ : ∃ x, l[k]'(by omega) = x := ⟨_, rfl⟩
    have hcell : w.cell? ⟨b, o + k, none⟩ = some (.int .i64 x) := by rw [← hx]; exact hc k _ (iv_get l k (by omega))
    have HT := Lib.hid (topE_last 501 hk hx)
    have h0' : ((l.length : Int) == 0) = false := by rw [beq_eq_false_iff_ne]; omega
    have q2 : IntKind.i64.wrap (k : Int) = k := IntWalk.i64_in _ (by omega)
    rw [hk] at h0' ⊢
    clear hc hx h0 hn hk
    go_enter Try.func114, Try.ntmps114
    go_wp2
    go_ret
    exact ⟨by rw [HT.out]; rfl, rfl⟩
theorem top_spec (x : R) (w : World) (hr : Rd w w.heap.size x.f2.A (iv x.f2.ls)) (hn : x.f2.ls.length ≤ 1048576) :
    Calls Try.prog 118 #[.agg #[.int .i64 x.f0, .int .i64 x.f1, .slice x.f2.A x.f2.ls.length x.f2.cap, .bool x.f3]] w (RPost (.int .i64 (topE 1000 x.f2.ls)) w) := by
  obtain ⟨a, g, ⟨A, c, l⟩, q⟩ := x
  dsimp only at hr hn ⊢
  rcases Nat.eq_zero_or_pos l.length with h0 | h0
  · have HT := Lib.hid (topE_nil 1000 h0)
    have h0' : decide (0 < l.length) = false := decide_eq_false (by omega)
    have h1' : decide ((0 : Int) < l.length) = false := decide_eq_false (by omega)
    clear h0
    go_enter Try.func118, Try.ntmps118
    go_wp2
    go_ret
    exact rpost (by rw [HT.out]; rfl) (al (Below.refl _ _))
  · obtain ⟨k, hk⟩ : ∃ k, l.length = k + 1 := ⟨l.length - 1, by omega⟩
    obtain ⟨b, o, rfl, hb, hc⟩ := hr.at (k := k) (by rw [iv_len]; omega)
    obtain ⟨x, hx⟩ : ∃ x, l[k]'(by omega) = x := ⟨_, rfl⟩
    have hcell : (w.alloc (.cells #[.int .i64 a, .int .i64 g, .slice (some ⟨b, o, none⟩) (k + 1) c, .bool q] 91)).cell? ⟨b, o + k, none⟩ = some (.int .i64 x) := by
      rw [(bcell (al (Below.refl w.heap.size w))).1 _ _ hb, ← hx]; exact hc k _ (iv_get l k (by omega))
    have HT := Lib.hid (topE_last 1000 hk hx)
    have q1 : (0 : Int) < (k : Int) + 1 := by omega
    have q2 : IntKind.i64.wrap (k : Int) = k := IntWalk.i64_in _ (by omega)
    rw [hk]
    clear hc hx h0 hn hk hr
    go_enter Try.func118, Try.ntmps118
    go_wp2
    go_ret
    exact rpost (by rw [HT.out]; rfl) (al (Below.refl _ _))
def openH (x : H) : Bool := !x.cov && decide (0 < x.ls.length)
theorem open_impl (x : R) (w : World) (hn : x.f2.ls.length ≤ 1048576) :
    Calls Try.prog 113 #[.agg #[.int .i64 x.f0, .int .i64 x.f1, .slice x.f2.A x.f2.ls.length x.f2.cap, .bool x.f3]] w (RPost (.bool (openH x.pure)) w) := by
  have HV := Lib.hid (show openH x.pure = (!x.f3 && decide ((0 : Int) < x.f2.ls.length)) by unfold openH; congr 1; exact decide_eq_decide.2 (by show 0 < x.f2.ls.length ↔ _; omega))
  obtain ⟨a, g, ⟨A, c, l⟩, q⟩ := x
  dsimp only at hn HV ⊢
  cases q
  all_goals
    go_enter Try.func113, Try.ntmps113
    go_wp2
    go_ret
    exact rpost (by rw [HV.out] <;> simp) (al (Below.refl _ _))
theorem can_eq (x : R) (g t : Int) : can x.pure g t = ((x.f1 == g) && !x.f3 && okLs (x.f2.ls ++ [t])) := by
  unfold can R.pure
  congr 2
set_option maxHeartbeats 800000 in
theorem can_impl (x : R) (g t : Int) (w : World) (hr : Rd w w.heap.size x.f2.A (iv x.f2.ls)) (hn : x.f2.ls.length ≤ 1000) :
    Calls Try.prog 147 #[.agg #[.int .i64 x.f0, .int .i64 x.f1, .slice x.f2.A x.f2.ls.length x.f2.cap, .bool x.f3], .int .i64 g, .int .i64 t] w (RPost (.bool (can x.pure g t)) w) := by
  obtain ⟨i0, hi, hz0, hz1, hz2⟩ := info_parts info_int
  have HI := Lib.hid hz2; clear hz2
  have HI1 := Lib.hid hz1; clear hz1
  have HV := Lib.hid (can_eq x g t)
  obtain ⟨a, k, ⟨A, c, l⟩, q⟩ := x
  dsimp only at hr hn HV ⊢
  have HR := Lib.hid hr; clear hr
  generalize can (R.pure ⟨a, k, ⟨A, c, l⟩, q⟩) g t = res at HV ⊢
  cases h1 : (k == g)
  · go_enter Try.func147, Try.ntmps147
    go_wp2
    go_ret
    exact rpost (by rw [HV.out, h1] <;> rfl) (al (Below.refl _ _))
  obtain rfl : k = g := eq_of_beq h1
  clear h1
  cases q
  · go_enter Try.func147, Try.ntmps147
    go_upto_region 1 with fail
    have X := Box.new (Below.refl _ w) [.int .i64 a, .int .i64 k, .slice A l.length c, .bool false] 91 (g := w.heap.size) rfl
    generalize (w.alloc (.cells #[.int .i64 a, .int .i64 k, .slice A l.length c, .bool false] 91)) = W1 at X ⊢
    have X_0 := X.cells 0 _ rfl
    have X_1 := X.cells 1 _ rfl
    have X_2 := X.cells 2 _ rfl
    have X_3 := X.cells 3 _ rfl
    have X_f0 := X.free 0 (by simp)
    have X_f1 := X.free 1 (by simp)
    have X_f2 := X.free 2 (by simp)
    have X_f3 := X.free 3 (by simp)
    have X_t := X.there
    have X_0 := X.cells 0 _ rfl
    have X_1 := X.cells 1 _ rfl
    have X_2 := X.cells 2 _ rfl
    have X_3 := X.cells 3 _ rfl
    have X_f0 := X.free 0 (by simp)
    have X_f1 := X.free 1 (by simp)
    have X_f2 := X.free 2 (by simp)
    have X_f3 := X.free 3 (by simp)
    have X_t := X.there
    go_wp2_with fail
    refine (clone_impl A c l _ (rd_keep HR.out X.below) (by omega)).mono ?_
    rintro e w2 ⟨⟨A1, c1, l1⟩, hl, rfl, ho, hB2⟩
    dsimp only at hl ⊢
    subst hl
    have hs2 := hB2.size
    have HO := Lib.hid ho
    have HOA := Lib.hid (World.ownsRow.alloc ho (.cells #[.int .i64 t] 3))
    have HNC := Lib.hid (cell_one w2 (.int .i64 t) 3)
    have X2 := X.more hB2
    clear ho hB2
    go_wp2_with (at_builtin; go_must (refine BigFrame.wpList_want (by rfl) ?_; intro K hK; refine wp_append_own _ _ _ 82 rfl W1.heap.size 3 i0 _ 1 8 Try.underlying82 hi hz0 HI1.out HI.out rfl (by decide) _ l1.length (iv l1) rfl HOA.out ⟨w2.heap.size, 0, none⟩ 1 1 [.int .i64 t] rfl rfl HNC.out (one_cell rfl) (by unfold maxLen; omega) (by omega) (by rw [size_alloc']; omega) ?_; intro v' w9 hown1 hgrow _; refine hK _ _ ?_))
    obtain ⟨A3, c3, rfl⟩ := own_form hown1
    have hrow := row_snoc hown1
    have hb9 : Below w.heap.size w w9 := bl_grown (al X2.below (o := .cells #[.int .i64 t] 3)) hgrow (fun k hk => by have := own_ge HO.out k hk; have := X.below.size; omega)
    clear hown1 hgrow
    have hL := lays_impl A3 c3 (l1 ++ [t]) w9 hrow.rd (by rw [List.length_append]; simp; omega)
    rw [show (l1 ++ [t]).length = l1.length + 1 by simp] at hL
    refine hL.mono ?_
    rintro e w4 ⟨rfl, hB4⟩
    have HB := be hb9 hB4
    go_wp2
    go_ret
    exact rpost (by rw [HV.out] <;> simp) HB
  · go_enter Try.func147, Try.ntmps147
    go_wp2
    go_ret
    exact rpost (by rw [HV.out] <;> simp) (al (Below.refl _ _))
end Go.Proofs.Ytpbmncecejchjaa.HeapP
