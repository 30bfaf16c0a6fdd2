/- MixBrines: the model's and the program's. -/
import Derived.Test.YtciohcipmkhneaaIBrine3
namespace Go.Proofs.Ytciohcipmkhneaa.Mix
open Go.RowKit Go.Proofs.Ytciohcipmkhneaa.Mem Go.Proofs.Ytciohcipmkhneaa.Base Go.Proofs.Ytciohcipmkhneaa.Brine Go.Proofs.Ytciohcipmkhneaa.Brine2 Go.Proofs.Ytciohcipmkhneaa.Regn Go.Proofs.Ytciohcipmkhneaa.Boxes Go.Proofs.Ytciohcipmkhneaa.IBrine
set_option linter.unusedVariables false
set_option maxRecDepth 100000
def okr (x : R) : Bool := okB x.f0 x.f1
def sw (l : List R) : Int := (l.map (·.f0)).sum
def ss (l : List R) : Int := (l.map (·.f1)).sum
def mixOk (l : List R) : Bool := decide (l.length ≤ 20) && (l.all okr && okB (sw l) (ss l))
def mixV (l : List R) : Value := if mixOk l = true then .tuple #[br (sw l) (ss l), .bool true] else .tuple #[br 0 0, .bool false]
theorem mix_no {l : List R} (h : mixOk l = false) : mixV l = .tuple #[br 0 0, .bool false] := by unfold mixV; rw [h]; rfl
theorem mix_yes {l : List R} (h : mixOk l = true) : mixV l = .tuple #[br (sw l) (ss l), .bool true] := by unfold mixV; rw [if_pos h]
theorem sw_snoc (l : List R) (k : Nat) (h : k < l.length) : sw (l.take (k + 1)) = sw (l.take k) + l[k].f0 := by
  unfold sw; rw [List.take_succ_eq_append_getElem h, List.map_append, List.sum_append]; simp
theorem ss_snoc (l : List R) (k : Nat) (h : k < l.length) : ss (l.take (k + 1)) = ss (l.take k) + l[k].f1 := by
  unfold ss; rw [List.take_succ_eq_append_getElem h, List.map_append, List.sum_append]; simp
theorem bound (l : List R) (h : l.all okr = true) : 0 ≤ sw l ∧ sw l ≤ 1000000 * l.length ∧ 0 ≤ ss l ∧ ss l ≤ 1000000 * l.length := by
  induction l with
  | nil => simp [sw, ss]
  | cons x l ih =>
    rw [List.all_cons, Bool.and_eq_true] at h
    have h1 := okB_true h.1
    have h2 := ih h.2
    simp only [sw, ss, List.map_cons, List.sum_cons, List.length_cons] at *
    omega
/-- what is known behind k rounds. -/
structure Upto (l : List R) (k : Nat) (x y : Int) : Prop where
  all : (l.take k).all okr = true
  w : x = sw (l.take k)
  s : y = ss (l.take k)
theorem Upto.bd {l : List R} {k : Nat} {x y : Int} (h : Upto l k x y) (hk : k ≤ 20) : 0 ≤ x ∧ x ≤ 20000000 ∧ 0 ≤ y ∧ y ≤ 20000000 := by
  have := bound _ h.all
  have hl : (l.take k).length ≤ k := List.length_take_le _ _
  rw [h.w, h.s]; omega
theorem Upto.next {l : List R} {k : Nat} {x y : Int} (h : Upto l k x y) (hk : k < l.length) (ho : okr l[k] = true) : Upto l (k + 1) (x + l[k].f0) (y + l[k].f1) :=
  ⟨by rw [all_snoc l k hk okr h.all]; exact ho, by rw [sw_snoc l k hk, h.w], by rw [ss_snoc l k hk, h.s]⟩
theorem Upto.end {l : List R} {k : Nat} {x y : Int} (h : Upto l k x y) (hk : l.length ≤ k) : l.all okr = true ∧ x = sw l ∧ y = ss l := by
  have := h.all; have h1 := h.w; have h2 := h.s
  rw [List.take_of_length_le hk] at this h1 h2
  exact ⟨this, h1, h2⟩
theorem bad {l : List R} {k : Nat} (hk : k < l.length) (ho : okr l[k] = false) : mixOk l = false := by
  unfold mixOk; rw [not_all l k hk okr ho]; simp
theorem big {l : List R} (h : 20 < l.length) : mixOk l = false := by
  unfold mixOk; rw [decide_eq_false (by omega)]; rfl
theorem last {l : List R} {k : Nat} {x y : Int} (h : Upto l k x y) (hk : l.length ≤ k) (hl : l.length ≤ 20) : mixOk l = okB x y := by
  obtain ⟨h1, rfl, rfl⟩ := h.end hk
  unfold mixOk; rw [h1, decide_eq_true hl]; rfl

theorem sum_spec (a b c d : Int) (ha : 0 ≤ a) (ha1 : a ≤ 100000000) (hb : 0 ≤ b) (hb1 : b ≤ 100000000) (hc : 0 ≤ c) (hc1 : c ≤ 100000000) (hd : 0 ≤ d) (hd1 : d ≤ 100000000) (w : World) :
    Calls Try.prog 94 #[.agg #[.int .i64 a, .int .i64 b], .agg #[.int .i64 c, .int .i64 d]] w (RPost (br (a + c) (b + d)) w) := by
  go_enter Try.func94, Try.ntmps94
  go_wp2
  exact bodyPost_ret (v := br (a + c) (b + d)) (by simp [br, results, Try.results94, go_sem]) rfl (rpost rfl (al (al (al (Below.refl _ _)))))
set_option maxHeartbeats 1000000 in
theorem mix_impl (P : Option Addr) (cap : Nat) (l : List R) (w : World) (hr : Rd w w.heap.size P (SBrine.flat l)) (hn : l.length ≤ 1048576) :
    Calls Try.prog 84 #[.slice P l.length cap] w (RPost (mixV l) w) := by
  have HR := Lib.hid hr; clear hr
  by_cases h20 : 20 < l.length
  · go_enter Try.func84, Try.ntmps84
    go_wp2
    exact bodyPost_ret (v := .tuple #[br 0 0, .bool false]) (by simp [br, results, Try.results84, go_sem]) rfl (rpost (mix_no (big h20)).symm (al (Below.refl _ _)))
  go_enter Try.func84, Try.ntmps84
  go_wp2
  have C := (Box.new (Below.refl _ w) [.int .i64 0, .int .i64 0] 26 (g := w.heap.size) rfl).alloc (.cells #[.int .i64 0, .int .i64 0] 26)
  have O := Box.new (al (Below.refl _ w) (o := (.cells #[.int .i64 0, .int .i64 0] 26))) [.int .i64 0, .int .i64 0] 26 (g := w.heap.size + 1) (by simp only [size_alloc'])
  generalize ((w.alloc (.cells #[.int .i64 0, .int .i64 0] 26)).alloc (.cells #[.int .i64 0, .int .i64 0] 26)) = W1 at C O ⊢
  have C_0 := C.cells 0 _ rfl
  have C_1 := C.cells 1 _ rfl
  have C_f0 := C.free 0 (by simp)
  have C_f1 := C.free 1 (by simp)
  have C_t := C.there
  have O_0 := O.cells 0 _ rfl
  have O_1 := O.cells 1 _ rfl
  have O_f0 := O.free 0 (by simp)
  have O_f1 := O.free 1 (by simp)
  have O_t := O.there
  go_loopw [14] (fun i wr => ∃ (k : Nat) (x y : Int), k ≤ l.length ∧ i = .int .i64 k ∧ Upto l k x y ∧ Box (w.heap.size) [.int .i64 0, .int .i64 0] w wr ∧ Box (w.heap.size + 1) [.int .i64 x, .int .i64 y] w wr) (fun i _ => l.length - (intOf i).toNat)
  case atStart => exact ⟨0, 0, 0, Nat.zero_le _, rfl, ⟨by simp, by simp [sw], by simp [ss]⟩, C, O⟩
  case round =>
    clear C_0 C_1 C_f0 C_f1 C_t
    clear O_0 O_1 O_f0 O_f1 O_t
    clear C O
    obtain ⟨k, x, y, hk, rfl, hU, C, O⟩ := hrel
    obtain ⟨bx0, bx1, by0, by1⟩ := hU.bd (by omega)
    have C_0 := C.cells 0 _ rfl
    have C_1 := C.cells 1 _ rfl
    have C_f0 := C.free 0 (by simp)
    have C_f1 := C.free 1 (by simp)
    have C_t := C.there
    have O_0 := O.cells 0 _ rfl
    have O_1 := O.cells 1 _ rfl
    have O_f0 := O.free 0 (by simp)
    have O_f1 := O.free 1 (by simp)
    have O_t := O.there
    by_cases hlt : k < l.length
    · obtain ⟨b, o, rfl, hb, hc⟩ := HR.out.at (k := k * 2) (by rw [SBrine.flat_n]; omega)
      have h0 : w.cell? ⟨b, o + k * 2, none⟩ = some (.int .i64 l[k].f0) := hc _ _ (SBrine.flat_0 l k hlt)
      have h1 : w.cell? ⟨b, o + k * 2 + 1, none⟩ = some (.int .i64 l[k].f1) := hc _ _ (SBrine.flat_1 l k hlt)
      clear hc
      have HB := Lib.hid (fun h : okr l[k] = false => bad hlt h)
      have HN := Lib.hid (fun h : okr l[k] = true => hU.next hlt h)
      have HK := Lib.hid (show okr l[k] = okB l[k].f0 l[k].f1 from rfl)
      generalize okr l[k] = q at HB HN HK
      generalize l[k].f0 = u at h0 h1 HK HN ⊢
      generalize l[k].f1 = v at h0 h1 HK HN ⊢
      have h0_c := ((bcell C.below).1 _ _ hb).trans h0
      have h1_c := ((bcell C.below).1 _ _ hb).trans h1
      go_wp2_with fail
      have C_t2 := C.there
      have O_t2 := O.there
      have F := Box.new C.below [.int .i64 u, .int .i64 v] 26 (g := wr.heap.size) rfl
      clear C_0 C_1 C_f0 C_f1 C_t
      replace C := (C).alloc (.cells #[.int .i64 u, .int .i64 v] 26)
      clear O_0 O_1 O_f0 O_f1 O_t
      replace O := (O).alloc (.cells #[.int .i64 u, .int .i64 v] 26)
      generalize (wr.alloc (.cells #[.int .i64 u, .int .i64 v] 26)) = W2 at F C O ⊢
      clear h0_c
      clear h1_c
      have C_0 := C.cells 0 _ rfl
      have C_1 := C.cells 1 _ rfl
      have C_f0 := C.free 0 (by simp)
      have C_f1 := C.free 1 (by simp)
      have C_t := C.there
      have O_0 := O.cells 0 _ rfl
      have O_1 := O.cells 1 _ rfl
      have O_f0 := O.free 0 (by simp)
      have O_f1 := O.free 1 (by simp)
      have O_t := O.there
      have F_0 := F.cells 0 _ rfl
      have F_1 := F.cells 1 _ rfl
      have F_f0 := F.free 0 (by simp)
      have F_f1 := F.free 1 (by simp)
      have F_t := F.there
      have h0_c := ((bcell C.below).1 _ _ hb).trans h0
      have h1_c := ((bcell C.below).1 _ _ hb).trans h1
      go_wp2_with fail
      refine (brine_impl u v _).mono ?_
      rintro e v3 ⟨rfl, hv3⟩
      clear C_0 C_1 C_f0 C_f1 C_t
      clear O_0 O_1 O_f0 O_f1 O_t
      clear F_0 F_1 F_f0 F_f1 F_t
      clear h0_c
      clear h1_c
      replace C := C.more hv3
      replace O := O.more hv3
      replace F := F.more hv3
      have zhv3 := hv3.size
      clear hv3
      have C_0 := C.cells 0 _ rfl
      have C_1 := C.cells 1 _ rfl
      have C_f0 := C.free 0 (by simp)
      have C_f1 := C.free 1 (by simp)
      have C_t := C.there
      have O_0 := O.cells 0 _ rfl
      have O_1 := O.cells 1 _ rfl
      have O_f0 := O.free 0 (by simp)
      have O_f1 := O.free 1 (by simp)
      have O_t := O.there
      have F_0 := F.cells 0 _ rfl
      have F_1 := F.cells 1 _ rfl
      have F_f0 := F.free 0 (by simp)
      have F_f1 := F.free 1 (by simp)
      have F_t := F.there
      have h0_c := ((bcell C.below).1 _ _ hb).trans h0
      have h1_c := ((bcell C.below).1 _ _ hb).trans h1
      cases hok : okB u v
      · go_wp2
        clear C_0 C_1 C_f0 C_f1 C_t
        clear O_0 O_1 O_f0 O_f1 O_t
        clear F_0 F_1 F_f0 F_f1 F_t
        clear h0_c
        clear h1_c
        have C_t4 := C.there
        have O_t4 := O.there
        have F_t4 := F.there
        have C' : Box (w.heap.size) [.int .i64 0, .int .i64 0] w _ := ((C.set 0 (.int .i64 0)).set 1 (.int .i64 0))
        have O' : Box (w.heap.size + 1) [.int .i64 x, .int .i64 y] w _ := ((O.far C.base (by omega) 0 (.int .i64 0)).far C.base (by omega) 1 (.int .i64 0))
        have F' : Box (wr.heap.size) [.int .i64 u, .int .i64 v] w _ := ((F.far C.base (by omega) 0 (.int .i64 0)).far C.base (by omega) 1 (.int .i64 0))
        clear C; have C := C'; clear C'
        clear O; have O := O'; clear O'
        clear F; have F := F'; clear F'
        have sz4 : ((v3.setCell ⟨w.heap.size, 0, none⟩ (.int .i64 0)).setCell ⟨w.heap.size, 1, none⟩ (.int .i64 0)).heap.size = v3.heap.size := by simp only [size_set']
        generalize ((v3.setCell ⟨w.heap.size, 0, none⟩ (.int .i64 0)).setCell ⟨w.heap.size, 1, none⟩ (.int .i64 0)) = W4 at C O F sz4 ⊢
        replace sz4 := Lib.hid sz4
        have C_0 := C.cells 0 _ rfl
        have C_1 := C.cells 1 _ rfl
        have C_f0 := C.free 0 (by simp)
        have C_f1 := C.free 1 (by simp)
        have C_t := C.there
        have O_0 := O.cells 0 _ rfl
        have O_1 := O.cells 1 _ rfl
        have O_f0 := O.free 0 (by simp)
        have O_f1 := O.free 1 (by simp)
        have O_t := O.there
        have F_0 := F.cells 0 _ rfl
        have F_1 := F.cells 1 _ rfl
        have F_f0 := F.free 0 (by simp)
        have F_f1 := F.free 1 (by simp)
        have F_t := F.there
        have h0_c := ((bcell C.below).1 _ _ hb).trans h0
        have h1_c := ((bcell C.below).1 _ _ hb).trans h1
        exact bodyPost_ret (v := .tuple #[br 0 0, .bool false]) (by simp [br, results, Try.results84, go_sem, C_0, C_1]) rfl (rpost (mix_no (HB.out (by rw [HK.out, hok]))).symm C.below)
      obtain ⟨hu0, hu1, hv0, hv1⟩ := okB_true hok
      have HU := Lib.hid (HN.out (by rw [HK.out, hok])); clear HN HB HK hU
      go_wp2
      clear C_0 C_1 C_f0 C_f1 C_t
      clear O_0 O_1 O_f0 O_f1 O_t
      clear F_0 F_1 F_f0 F_f1 F_t
      clear h0_c
      clear h1_c
      have C_t5 := C.there
      have O_t5 := O.there
      have F_t5 := F.there
      have C' : Box (w.heap.size) [.int .i64 0, .int .i64 0] w _ := ((C.far O.base (by omega) 0 (.int .i64 (x+u))).far O.base (by omega) 1 (.int .i64 (y+v)))
      have O' : Box (w.heap.size + 1) [.int .i64 (x+u), .int .i64 (y+v)] w _ := ((O.set 0 (.int .i64 (x+u))).set 1 (.int .i64 (y+v)))
      have F' : Box (wr.heap.size) [.int .i64 u, .int .i64 v] w _ := ((F.far O.base (by omega) 0 (.int .i64 (x+u))).far O.base (by omega) 1 (.int .i64 (y+v)))
      clear C; have C := C'; clear C'
      clear O; have O := O'; clear O'
      clear F; have F := F'; clear F'
      have sz5 : ((v3.setCell ⟨w.heap.size + 1, 0, none⟩ (.int .i64 (x+u))).setCell ⟨w.heap.size + 1, 1, none⟩ (.int .i64 (y+v))).heap.size = v3.heap.size := by simp only [size_set']
      generalize ((v3.setCell ⟨w.heap.size + 1, 0, none⟩ (.int .i64 (x+u))).setCell ⟨w.heap.size + 1, 1, none⟩ (.int .i64 (y+v))) = W5 at C O F sz5 ⊢
      replace sz5 := Lib.hid sz5
      have C_0 := C.cells 0 _ rfl
      have C_1 := C.cells 1 _ rfl
      have C_f0 := C.free 0 (by simp)
      have C_f1 := C.free 1 (by simp)
      have C_t := C.there
      have O_0 := O.cells 0 _ rfl
      have O_1 := O.cells 1 _ rfl
      have O_f0 := O.free 0 (by simp)
      have O_f1 := O.free 1 (by simp)
      have O_t := O.there
      have F_0 := F.cells 0 _ rfl
      have F_1 := F.cells 1 _ rfl
      have F_f0 := F.free 0 (by simp)
      have F_f1 := F.free 1 (by simp)
      have F_t := F.there
      have h0_c := ((bcell C.below).1 _ _ hb).trans h0
      have h1_c := ((bcell C.below).1 _ _ hb).trans h1
      go_wp2
      exact ⟨⟨k + 1, x + u, y + v, by omega, by go_num, HU.out, C, O⟩, by simp only [intOf]; omega⟩
    · have HL := Lib.hid (last hU (by omega) (by omega)); have HE := Lib.hid (hU.end (by omega)); clear hU
      go_wp2_with fail
      refine (brine_impl x y _).mono ?_
      rintro e v6 ⟨rfl, hv6⟩
      clear C_0 C_1 C_f0 C_f1 C_t
      clear O_0 O_1 O_f0 O_f1 O_t
      replace C := C.more hv6
      replace O := O.more hv6
      have zhv6 := hv6.size
      clear hv6
      have C_0 := C.cells 0 _ rfl
      have C_1 := C.cells 1 _ rfl
      have C_f0 := C.free 0 (by simp)
      have C_f1 := C.free 1 (by simp)
      have C_t := C.there
      have O_0 := O.cells 0 _ rfl
      have O_1 := O.cells 1 _ rfl
      have O_f0 := O.free 0 (by simp)
      have O_f1 := O.free 1 (by simp)
      have O_t := O.there
      cases hok : okB x y
      · go_wp2
        clear C_0 C_1 C_f0 C_f1 C_t
        clear O_0 O_1 O_f0 O_f1 O_t
        have C_t7 := C.there
        have O_t7 := O.there
        have C' : Box (w.heap.size) [.int .i64 0, .int .i64 0] w _ := ((C.set 0 (.int .i64 0)).set 1 (.int .i64 0))
        have O' : Box (w.heap.size + 1) [.int .i64 x, .int .i64 y] w _ := ((O.far C.base (by omega) 0 (.int .i64 0)).far C.base (by omega) 1 (.int .i64 0))
        clear C; have C := C'; clear C'
        clear O; have O := O'; clear O'
        have sz7 : ((v6.setCell ⟨w.heap.size, 0, none⟩ (.int .i64 0)).setCell ⟨w.heap.size, 1, none⟩ (.int .i64 0)).heap.size = v6.heap.size := by simp only [size_set']
        generalize ((v6.setCell ⟨w.heap.size, 0, none⟩ (.int .i64 0)).setCell ⟨w.heap.size, 1, none⟩ (.int .i64 0)) = W7 at C O sz7 ⊢
        replace sz7 := Lib.hid sz7
        have C_0 := C.cells 0 _ rfl
        have C_1 := C.cells 1 _ rfl
        have C_f0 := C.free 0 (by simp)
        have C_f1 := C.free 1 (by simp)
        have C_t := C.there
        have O_0 := O.cells 0 _ rfl
        have O_1 := O.cells 1 _ rfl
        have O_f0 := O.free 0 (by simp)
        have O_f1 := O.free 1 (by simp)
        have O_t := O.there
        exact bodyPost_ret (v := .tuple #[br 0 0, .bool false]) (by simp [br, results, Try.results84, go_sem, C_0, C_1]) rfl (rpost (mix_no (HL.out.trans hok)).symm C.below)
      · go_wp2
        clear C_0 C_1 C_f0 C_f1 C_t
        clear O_0 O_1 O_f0 O_f1 O_t
        have C_t8 := C.there
        have O_t8 := O.there
        have C' : Box (w.heap.size) [.int .i64 x, .int .i64 y] w _ := ((C.set 0 (.int .i64 x)).set 1 (.int .i64 y))
        have O' : Box (w.heap.size + 1) [.int .i64 x, .int .i64 y] w _ := ((O.far C.base (by omega) 0 (.int .i64 x)).far C.base (by omega) 1 (.int .i64 y))
        clear C; have C := C'; clear C'
        clear O; have O := O'; clear O'
        have sz8 : ((v6.setCell ⟨w.heap.size, 0, none⟩ (.int .i64 x)).setCell ⟨w.heap.size, 1, none⟩ (.int .i64 y)).heap.size = v6.heap.size := by simp only [size_set']
        generalize ((v6.setCell ⟨w.heap.size, 0, none⟩ (.int .i64 x)).setCell ⟨w.heap.size, 1, none⟩ (.int .i64 y)) = W8 at C O sz8 ⊢
        replace sz8 := Lib.hid sz8
        have C_0 := C.cells 0 _ rfl
        have C_1 := C.cells 1 _ rfl
        have C_f0 := C.free 0 (by simp)
        have C_f1 := C.free 1 (by simp)
        have C_t := C.there
        have O_0 := O.cells 0 _ rfl
        have O_1 := O.cells 1 _ rfl
        have O_f0 := O.free 0 (by simp)
        have O_f1 := O.free 1 (by simp)
        have O_t := O.there
        exact bodyPost_ret (v := .tuple #[br x y, .bool true]) (by simp [br, results, Try.results84, go_sem, C_0, C_1]) rfl (rpost (by rw [mix_yes (HL.out.trans hok), HE.out.2.1, HE.out.2.2]) C.below)
end Go.Proofs.Ytciohcipmkhneaa.Mix
