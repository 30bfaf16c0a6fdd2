/- The program's functions on brines. -/
import Derived.Test.YtbbnbkdglihhhaaBrine6
import Derived.Test.YtbbnbkdglihhhaaSBrine
namespace Go.Proofs.Ytbbnbkdglihhhaa.IBrine
open Go.RowKit Go.Proofs.Ytbbnbkdglihhhaa.Mem Go.Proofs.Ytbbnbkdglihhhaa.Base Go.Proofs.Ytbbnbkdglihhhaa.Brine Go.Proofs.Ytbbnbkdglihhhaa.Brine2 Go.Proofs.Ytbbnbkdglihhhaa.Regn Go.Proofs.Ytbbnbkdglihhhaa.Boxes
set_option linter.unusedVariables false
set_option maxRecDepth 100000
abbrev R := SBrine.R

theorem within_any (x a b : Int) (w : World) :
    Calls Try.prog 88 #[.int .i64 x, .int .i64 a, .int .i64 b] w (BPost (inB x a b) w) := by
  by_cases h1 : a ≤ x
  · by_cases h2 : x ≤ b
    · have hb := Lib.hid (inB_true ⟨h1, h2⟩)
      go_enter Try.func88, Try.ntmps88
      go_wp2
      go_ret
      exact bpost hb.out.symm
    · have hb := Lib.hid (inB_false (fun h : a ≤ x ∧ x ≤ b => h2 h.2))
      have h2' : decide (x ≤ b) = false := decide_eq_false h2
      go_enter Try.func88, Try.ntmps88
      go_wp2
      go_ret
      exact bpost hb.out.symm
  · have hb := Lib.hid (inB_false (fun h : a ≤ x ∧ x ≤ b => h1 h.1))
    have h1' : decide (a ≤ x) = false := decide_eq_false h1
    go_enter Try.func88, Try.ntmps88
    go_wp2
    go_ret
    exact bpost hb.out.symm
theorem brine_impl (a b : Int) (w : World) : Calls Try.prog 66 #[.agg #[.int .i64 a, .int .i64 b]] w (RPost (.bool (okB a b)) w) := by
  cases h1 : inB a 0 1000000
  all_goals
    have H := Lib.hid (show okB a b = (inB a 0 1000000 && inB b 0 1000000) from rfl)
    go_enter Try.func66, Try.ntmps66
    go_wp2_with (go_at_call 88; refine (within_any _ _ _ _).mono ?_; rintro e w' ⟨rfl, rfl⟩)
    go_ret
    exact rpost (by rw [H.out, h1]; rfl) (al (Below.refl _ _))
theorem mass_impl (a b : Int) (ha : 0 ≤ a) (ha1 : a ≤ 1000000) (hb : 0 ≤ b) (hb1 : b ≤ 1000000) (w : World) : Calls Try.prog 74 #[.agg #[.int .i64 a, .int .i64 b]] w (RPost (.int .i64 (a + b)) w) := by
  go_enter Try.func74, Try.ntmps74
  go_wp2
  go_ret
  exact rpost rfl (al (Below.refl _ _))

def okM (x : R) : Bool := okB x.f0 x.f1 && !(x.f0 + x.f1 == 0)
theorem all_snoc (l : List R) (k : Nat) (h : k < l.length) (p : R → Bool) (h0 : (l.take k).all p = true) : (l.take (k + 1)).all p = p l[k] := by
  rw [List.take_succ_eq_append_getElem h, List.all_append, h0]; simp
theorem not_all (l : List R) (k : Nat) (h : k < l.length) (p : R → Bool) (h0 : p l[k] = false) : l.all p = false := by
  rw [List.all_eq_false]; exact ⟨l[k], List.getElem_mem h, by simp [h0]⟩
theorem okM_true {a b : Int} (h : okM ⟨a, b⟩ = true) : okB a b = true ∧ ¬ (a + b = 0) := by
  unfold okM at h; simpa using h
theorem okM_false {a b : Int} (h : okM ⟨a, b⟩ = false) : okB a b = true → a + b = 0 := by
  intro h1; unfold okM at h; simpa [h1] using h
theorem all1 (x : R) (p : R → Bool) : [x].all p = p x := by simp
theorem all2 (x y : R) (p : R → Bool) : [x, y].all p = (p x && p y) := by simp
set_option maxHeartbeats 400000 in
theorem have_any (P : Option Addr) (cap : Nat) (l : List R) (w : World) (hr : Rd w w.heap.size P (SBrine.flat l)) (hn : l.length ≤ 1000) :
    Calls Try.prog 72 #[.slice P l.length cap] w (RPost (.bool (l.all okM)) w) := by
  have HR := Lib.hid hr; clear hr
  go_enter Try.func72, Try.ntmps72
  go_wp2
  go_loopw [7] (fun i wr => ∃ k : Nat, k ≤ l.length ∧ i = .int .i64 k ∧ (l.take k).all okM = true ∧ Below w.heap.size w wr) (fun i _ => l.length - (intOf i).toNat)
  case atStart => exact ⟨0, Nat.zero_le _, rfl, by simp, Below.refl _ _⟩
  case round =>
    obtain ⟨k, hk, rfl, hall, HB0⟩ := hrel
    have HA := Lib.hid hall; clear hall
    by_cases hlt : k < l.length
    · obtain ⟨b, o, rfl, hb, hc⟩ := HR.out.at (k := k * 2) (by rw [SBrine.flat_n]; omega)
      have h0 : wr.cell? ⟨b, o + k * 2, none⟩ = some (.int .i64 l[k].f0) := ((bcell HB0).1 _ _ hb).trans (hc _ _ (SBrine.flat_0 l k hlt))
      have h1 : wr.cell? ⟨b, o + k * 2 + 1, none⟩ = some (.int .i64 l[k].f1) := ((bcell HB0).1 _ _ hb).trans (hc _ _ (SBrine.flat_1 l k hlt))
      clear hc
      have HK := Lib.hid (show okM l[k] = (okB l[k].f0 l[k].f1 && !(l[k].f0 + l[k].f1 == 0)) from rfl)
      have HN := Lib.hid (fun h : okM l[k] = false => not_all l k hlt okM h)
      have HS := Lib.hid (all_snoc l k hlt okM HA.out)
      generalize okM l[k] = q at HK HN HS
      generalize l[k].f0 = x at h0 h1 HK ⊢
      generalize l[k].f1 = y at h0 h1 HK ⊢
      go_wp2_with fail
      have B := Box.new HB0 [.int .i64 x, .int .i64 y] 25 (g := wr.heap.size) rfl
      generalize (wr.alloc (.cells #[.int .i64 x, .int .i64 y] 25)) = W1 at B ⊢
      have B_0 := B.cells 0 _ rfl
      have B_1 := B.cells 1 _ rfl
      have B_f0 := B.free 0 (by simp)
      have B_f1 := B.free 1 (by simp)
      have B_t := B.there
      clear h0 h1
      go_wp2_with fail
      refine (brine_impl x y _).mono ?_
      rintro e v2 ⟨rfl, hv2⟩
      clear B_0 B_1 B_f0 B_f1 B_t
      replace B := B.more hv2
      have zhv2 := hv2.size
      clear hv2
      have B_0 := B.cells 0 _ rfl
      have B_1 := B.cells 1 _ rfl
      have B_f0 := B.free 0 (by simp)
      have B_f1 := B.free 1 (by simp)
      have B_t := B.there
      cases hok : okB x y
      · go_wp2
        go_ret
        exact rpost (by rw [HN.out (by rw [HK.out, hok]; rfl)] <;> rfl) B.below
      obtain ⟨hx, hx1, hy, hy1⟩ := okB_true hok
      go_wp2_with fail
      refine (mass_impl x y hx hx1 hy hy1 _).mono ?_
      rintro e v3 ⟨rfl, hv3⟩
      clear B_0 B_1 B_f0 B_f1 B_t
      replace B := B.more hv3
      have zhv3 := hv3.size
      clear hv3
      have B_0 := B.cells 0 _ rfl
      have B_1 := B.cells 1 _ rfl
      have B_f0 := B.free 0 (by simp)
      have B_f1 := B.free 1 (by simp)
      have B_t := B.there
      by_cases hz : x + y = 0
      · go_wp2
        go_ret
        exact rpost (by rw [HN.out (by rw [HK.out, hz]; simp)] <;> rfl) B.below
      · go_wp2
        go_roundw
        case rel => exact ⟨k + 1, by omega, by go_num, by rw [HS.out, HK.out, hok]; simp [hz], B.below⟩
        case measure => simp [intOf]; omega
    · go_wp2
      go_ret
      exact rpost (by have := HA.out; rw [List.take_of_length_le (by omega)] at this; rw [this] <;> rfl) HB0
set_option maxHeartbeats 400000 in
theorem reduce_impl (m n : Nat) (hm : m ≤ 10000000) (hn0 : 0 < n) (hn : n ≤ 10000000) (w : World) :
    Calls Try.prog 73 #[.int .i64 (m : Int), .int .i64 (n : Int)] w (RPost (.tuple #[.int .i64 ((m / Nat.gcd m n : Nat) : Int), .int .i64 ((n / Nat.gcd m n : Nat) : Int)]) w) := by
  have hg := Nat.gcd_pos_of_pos_right m hn0
  have y0 : IntKind.i64.wrap (-(m : Int)) = -(m : Int) := IntWalk.i64_in _ (by omega)
  have t1 : ¬ ((m : Int) < -(m : Int)) := by omega
  have t2 : -(m : Int) ≤ m := by omega
  go_enter Try.func73, Try.ntmps73
  go_wp2
  clear y0 t1 t2
  go_loopw [6, 7] (fun a b wr => ∃ x y : Nat, a = .int .i64 x ∧ b = .int .i64 y ∧ x ≤ 10000000 ∧ y ≤ 10000000 ∧ 0 < Nat.gcd x y ∧ Nat.gcd x y = Nat.gcd m n ∧ Drawn w wr) (fun _ b _ => (intOf b).toNat)
  case atStart => exact ⟨n, m, rfl, rfl, hn, hm, by rw [Nat.gcd_comm]; exact hg, Nat.gcd_comm _ _, Drawn.refl w⟩
  case round =>
    obtain ⟨x, y, rfl, rfl, hx, hy, hxy, hE, hD⟩ := hrel
    have HE := Lib.hid hE; clear hE
    by_cases hy0 : y = 0
    · subst hy0
      have hx0 : 0 < x := by rwa [Nat.gcd_zero_right] at hxy
      have e1 : (m : Int).tdiv x = (m : Int) / x := Int.tdiv_eq_ediv_of_nonneg (by omega)
      have e2 : (n : Int).tdiv x = (n : Int) / x := Int.tdiv_eq_ediv_of_nonneg (by omega)
      have hz : ((x : Int) == 0) = false := by rw [beq_eq_false_iff_ne]; omega
      have l1 : (m : Int) / x ≤ m := Int.ediv_le_self _ (by omega)
      have l2 : (n : Int) / x ≤ n := Int.ediv_le_self _ (by omega)
      have l3 : 0 ≤ (m : Int) / x := Int.ediv_nonneg (by omega) (by omega)
      have l4 : 0 ≤ (n : Int) / x := Int.ediv_nonneg (by omega) (by omega)
      have w1 : IntKind.i64.wrap ((m : Int) / x) = (m : Int) / x := IntWalk.i64_in _ (by omega)
      have w2 : IntKind.i64.wrap ((n : Int) / x) = (n : Int) / x := IntWalk.i64_in _ (by omega)
      have HG := Lib.hid (show x = Nat.gcd m n by have := HE.out; rwa [Nat.gcd_zero_right] at this)
      clear HE hxy l1 l2 l3 l4
      go_wp2
      go_quiet (fail)
      go_wp2
      go_ret2
      exact rpost (by rw [← HG.out]; simp) ((hD.more _).below _)
    · have hy1 : 0 < y := by omega
      have hz : ((y : Int) == 0) = false := by rw [beq_eq_false_iff_ne]; omega
      have e1 : (x : Int).tmod y = (x : Int) % y := Int.tmod_eq_emod_of_nonneg (by omega)
      have hr : x % y < y := Nat.mod_lt _ hy1
      have w1 : IntKind.i64.wrap ((x : Int) % y) = (x : Int) % y := IntWalk.i64_in _ (by have := Int.emod_nonneg (x : Int) (show (y : Int) ≠ 0 by omega); have := Int.emod_lt_of_pos (x : Int) (show (0 : Int) < y by omega); omega)
      go_wp2
      go_quiet (fail)
      go_wp2
      exact ⟨⟨y, x % y, rfl, by rw [Int.natCast_emod], hy, by omega, by rw [gcd_step]; exact hxy, by rw [gcd_step]; exact HE.out, hD.more _⟩, by simp only [intOf]; omega⟩
theorem reduce_int_impl (a b : Int) (ha : 0 ≤ a) (ha1 : a ≤ 1000000) (hb : 0 ≤ b) (hb1 : b ≤ 1000000) (h0 : ¬ (a + b = 0)) (w : World) :
    Calls Try.prog 73 #[.int .i64 b, .int .i64 (a + b)] w (RPost (.tuple #[.int .i64 (Brine3.low b (a + b)), .int .i64 (Brine3.low' b (a + b))]) w) := by
  have h := reduce_impl b.toNat (a + b).toNat (by omega) (by omega) (by omega) w
  rwa [Int.toNat_of_nonneg hb, Int.toNat_of_nonneg (by omega)] at h
theorem str_no {a b : Int} (h : okM ⟨a, b⟩ = false) : Brine3.strV a b = .tuple #[.int .i64 0, .int .i64 0, .bool false] := by
  unfold Brine3.strV
  split
  · rename_i h1; rw [if_pos (okM_false h h1)]
  · rfl
theorem str_yes {a b : Int} (h : okM ⟨a, b⟩ = true) : Brine3.strV a b = .tuple #[.int .i64 (Brine3.low b (a + b)), .int .i64 (Brine3.low' b (a + b)), .bool true] := by
  unfold Brine3.strV
  rw [if_pos (okM_true h).1, if_neg (okM_true h).2]
theorem strength_impl (a b : Int) (w : World) : Calls Try.prog 20 #[.agg #[.int .i64 a, .int .i64 b]] w (RPost (Brine3.strV a b) w) := by
  go_enter Try.func20, Try.ntmps20
  go_wp2_with fail
  have B := (Box.new (Below.refl _ w) [.int .i64 a, .int .i64 b] 25 (g := w.heap.size) rfl).alloc (.cells #[.int .i64 a, .int .i64 b] 25)
  have S := Box.new (al (Below.refl _ w) (o := (.cells #[.int .i64 a, .int .i64 b] 25))) [.int .i64 a, .int .i64 b] 25 (g := w.heap.size + 1) (by simp only [size_alloc'])
  generalize ((w.alloc (.cells #[.int .i64 a, .int .i64 b] 25)).alloc (.cells #[.int .i64 a, .int .i64 b] 25)) = W1 at B S ⊢
  have B_0 := B.cells 0 _ rfl
  have B_1 := B.cells 1 _ rfl
  have B_f0 := B.free 0 (by simp)
  have B_f1 := B.free 1 (by simp)
  have B_t := B.there
  have S_0 := S.cells 0 _ rfl
  have S_1 := S.cells 1 _ rfl
  have S_f0 := S.free 0 (by simp)
  have S_f1 := S.free 1 (by simp)
  have S_t := S.there
  go_wp2_with fail
  refine (have_any _ _ [⟨a, b⟩] _ S.rd (by simp)).mono ?_
  rintro e v2 ⟨rfl, hv2⟩
  clear B_0 B_1 B_f0 B_f1 B_t
  clear S_0 S_1 S_f0 S_f1 S_t
  replace B := B.more hv2
  replace S := S.more hv2
  have zhv2 := hv2.size
  clear hv2
  have B_0 := B.cells 0 _ rfl
  have B_1 := B.cells 1 _ rfl
  have B_f0 := B.free 0 (by simp)
  have B_f1 := B.free 1 (by simp)
  have B_t := B.there
  have S_0 := S.cells 0 _ rfl
  have S_1 := S.cells 1 _ rfl
  have S_f0 := S.free 0 (by simp)
  have S_f1 := S.free 1 (by simp)
  have S_t := S.there
  rw [all1]
  cases hm : okM ⟨a, b⟩
  · go_wp2
    go_ret3
    exact rpost (str_no hm).symm B.below
  obtain ⟨hok, h0⟩ := okM_true hm
  obtain ⟨ha, ha1, hb, hb1⟩ := okB_true hok
  have H := Lib.hid (str_yes hm)
  go_wp2
  refine wp_region_text (fun w' => Box (w.heap.size) [.int .i64 a, .int .i64 b] w w' ∧ Box (w.heap.size + 1) [.int .i64 a, .int .i64 b] w w') (by kernel_rfl) (by kernel_rfl) ⟨B.drew, S.drew⟩ ?_
  clear B_0 B_1 B_f0 B_f1 B_t
  clear S_0 S_1 S_f0 S_f1 S_t
  iterate 10 (
    apply SeqH.one
    · intro uw K hS hK
      obtain ⟨qB, qS⟩ := hS
      have qB_0 := qB.cells 0 _ rfl
      have qB_1 := qB.cells 1 _ rfl
      first
        | (go_simp; exact hK.out _ ⟨qB, qS⟩)
        | (go_simp; go_at_call 74; (with_reducible refine (mass_impl a b ha ha1 hb hb1 _).mono ?_); rintro e uw1 ⟨rfl, hv⟩; go_wp2_with fail; exact hK.out _ ⟨qB.more hv, qS.more hv⟩)
        | (go_simp; go_at_call 73; (with_reducible refine (reduce_int_impl a b ha ha1 hb hb1 h0 _).mono ?_); rintro e uw1 ⟨rfl, hv⟩; go_wp2_with fail; exact hK.out _ ⟨qB.more hv, qS.more hv⟩)
    try simp only [Act.put, List.setIfInBounds_toArray, List.set_cons_zero, List.set_cons_succ])
  refine SeqH.end' rfl ?_
  intro v3 hS
  clear B S
  obtain ⟨B, S⟩ := hS
  have B_0 := B.cells 0 _ rfl
  have B_1 := B.cells 1 _ rfl
  have B_f0 := B.free 0 (by simp)
  have B_f1 := B.free 1 (by simp)
  have B_t := B.there
  have S_0 := S.cells 0 _ rfl
  have S_1 := S.cells 1 _ rfl
  have S_f0 := S.free 0 (by simp)
  have S_f1 := S.free 1 (by simp)
  have S_t := S.there
  go_wp2
  go_ret3
  exact rpost H.out.symm B.below
end Go.Proofs.Ytbbnbkdglihhhaa.IBrine
