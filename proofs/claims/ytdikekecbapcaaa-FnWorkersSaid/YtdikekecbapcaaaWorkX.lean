/- Workers: EvenGangs, the program's. -/
import Derived.Test.YtdikekecbapcaaaWorkV
import Derived.Test.YtdikekecbapcaaaWorkJc
import Derived.Deep.CutBlock
import Derived.Deep.Cut
import Derived.Deep.DeepCutAuto
namespace Go.Proofs.Ytdikekecbapcaaa.WorkX
open Go.RowKit Go.Proofs.Ytdikekecbapcaaa.Mem Go.Proofs.Ytdikekecbapcaaa.Base Go.Proofs.Ytdikekecbapcaaa.SWorker Go.Proofs.Ytdikekecbapcaaa.SInt Go.Proofs.Ytdikekecbapcaaa.RInt Go.Proofs.Ytdikekecbapcaaa.Regn Go.Proofs.Ytdikekecbapcaaa.Boxes Go.Proofs.Ytdikekecbapcaaa.Keep Go.Proofs.Ytdikekecbapcaaa.Work Go.Proofs.Ytdikekecbapcaaa.Work2 Go.Proofs.Ytdikekecbapcaaa.WorkS Go.Proofs.Ytdikekecbapcaaa.WorkG Go.Proofs.Ytdikekecbapcaaa.WorkR Go.Proofs.Ytdikekecbapcaaa.WorkJ Go.Proofs.Ytdikekecbapcaaa.WorkK Go.Proofs.Ytdikekecbapcaaa.WorkU Go.Proofs.Ytdikekecbapcaaa.WorkV
set_option linter.unusedVariables false
set_option maxRecDepth 100000
theorem any_size (l : List R) (k : Nat) : l.any (fun x => x.f1 == (k : Int) + 1) = decide (size l (k + 1) ≠ 0) := by
  unfold size
  rw [Bool.eq_iff_iff, List.any_eq_true, decide_eq_true_eq]
  constructor
  · rintro ⟨x, hx, h⟩ h0
    have := List.countP_eq_zero.1 h0 x hx
    exact this h
  · intro h
    have : 0 < l.countP fun x => x.f1 == ((k + 1 : Nat) : Int) := Nat.pos_of_ne_zero h
    obtain ⟨x, hx, h1⟩ := List.countP_pos_iff.1 this
    exact ⟨x, hx, h1⟩
theorem gang_gives (w : World) (a : Nat) (n : Int) (ha : a < w.heap.size) (hc : w.cell? ⟨a, 0, none⟩ = some (.int .i64 n)) : Gives 85 #[.pointer (some ⟨a, 0, none⟩)] (fun x => x.f1 == n) w := by
  intro x W hW
  have h0 : W.cell? ⟨a, 0, none⟩ = some (.int .i64 n) := ((bcell hW).1 _ _ ha).trans hc
  have ha2 : a < W.heap.size := Nat.lt_of_lt_of_le ha hW.size
  show Calls Try.prog 85 #[.agg #[.int .i64 x.f0, .int .i64 x.f1, .int .i64 x.f2, .bool x.f3, .int .i64 x.f4], .pointer (some ⟨a, 0, none⟩)] W _
  go_enter Try.func85, Try.ntmps85
  go_wp2
  go_ret
  exact rpost rfl (al (Below.refl _ _))
/-- the number that a pointer points at. -/
def atPtr (r : Value) (w : World) : Int := match r with
  | .pointer (some a) => (match w.cell? a with | some v => intOf v | none => 0)
  | _ => 0
theorem atPtr_new (W : World) (n : Int) (T : TypeId) : atPtr (.pointer (some ⟨W.heap.size, 0, none⟩)) (W.alloc (.cells #[.int .i64 n] T)) = n := by
  have h := (Box.new (Below.refl _ W) [.int .i64 n] T (g := W.heap.size) rfl).at0
  unfold atPtr
  simp only [h]
  rfl
theorem own_blk {w : World} {base : Nat} {e : TypeId} {size n c j : Nat} {A : Option Addr} {xs : List Value} (h : w.ownsRow base e size (.slice A n c) n xs) (hj : (Value.slice A n c).ownBlock = some j) : j < w.heap.size := by
  rcases h.2 with ⟨hv, _⟩ | ⟨g', cap, cur, hv, hb, hh, r⟩
  · rw [hv] at hj; simp [Value.ownBlock] at hj
  · rw [hv] at hj
    have := row_at hj
    subst this
    rcases Nat.lt_or_ge j w.heap.size with hl | hl
    · exact hl
    · rw [Array.getElem?_eq_none hl] at hh; cases hh
theorem even_few {l : List R} (h : good l = true) (hn : (weeksN l 5).length < 2) : evenV l = .tuple #[.int .i64 0, .bool true] := by
  unfold evenV
  rw [if_pos h, lo_few (weeksN_bd (good_sane h) 5).2 hn]
set_option maxHeartbeats 1600000 in
theorem even_impl (P : Option Addr) (cap : Nat) (l : List R) (w : World) (hr : Rd w w.heap.size P (flat l)) (hcap : l.length ≤ cap) (hn : l.length ≤ 1048576) :
    Calls Try.prog 41 #[.slice P l.length cap] w (RPost (evenV l) w) := by
  obtain ⟨i0, hi, hz0, hz1, hz2⟩ := info_parts info_int
  have HI := Lib.hid hz2; clear hz2
  have HI1 := Lib.hid hz1; clear hz1
  have HR := Lib.hid hr; clear hr
  go_enter Try.func41, Try.ntmps41
  go_wp2_with fail
  refine (are_impl P cap l w HR.out hn).mono ?_
  rintro e w1 ⟨rfl, HB⟩
  cases hg : good l
  · have HV := Lib.hid (even_no hg); clear hg
    go_wp2
    go_ret2
    exact rpost (by rw [HV.out] <;> rfl) HB
  have HS := Lib.hid (good_sane hg)
  have HG := Lib.hid hg; clear hg
  have O0 := RInt.empty_own HB
  go_wp2
  have O := own_keep O0 (al (Below.refl _ _) (o := .cells #[.int .i64 1] 3))
  have B := Box.new (al HB (o := .cells #[] 3)) [.int .i64 1] 3 (g := w1.heap.size + 1) (by simp only [size_alloc'])
  go_loopw [4, 5] (fun p r wr => ∃ (k : Nat) (L : List Int) (A : Option Addr) (c a : Nat), k ≤ 5 ∧ L.length ≤ k ∧ p = .slice A L.length c ∧ r = .pointer (some ⟨a, 0, none⟩) ∧ Hid (weeksN l k = L) ∧ Hid (∀ j, (Value.slice A L.length c).ownBlock = some j → j ≠ a) ∧ wr.ownsRow w.heap.size 3 1 (.slice A L.length c) L.length (iv L) ∧ Box a [.int .i64 ((k : Int) + 1)] w wr) (fun _ r wr => 6 - (atPtr r wr).toNat)
  case atStart => exact ⟨0, [], _, _, w1.heap.size + 1, by omega, by simp, rfl, rfl, Lib.hid rfl, Lib.hid (fun j hj => by have := row_at hj; omega), O, B⟩
  case round =>
    clear O B O0 HB
    obtain ⟨k, L, A, c, a, hk, hLk, rfl, rfl, HL, HD, O, B⟩ := hrel
    have m0 := B.at0
    have ha := B.there
    have HM0 := Lib.hid (show atPtr (.pointer (some ⟨a, 0, none⟩)) wr = (k : Int) + 1 by unfold atPtr; simp only [m0]; rfl)
    by_cases hlt : k < 5
    · have hki : (k : Int) + 1 ≤ 5 := by omega
      have hRW := (HR.out.below B.below (Nat.le_refl _)).mono B.below.size
      have HCO := Lib.hid (contains_any P cap l 85 #[.pointer (some ⟨a, 0, none⟩)] (fun x => x.f1 == (k : Int) + 1) (enters_of Try.func85 (by kernel_rfl) rfl) wr (gang_gives wr a _ ha m0) hRW hn)
      clear hRW
      go_wp2_with fail
      refine HCO.out.mono ?_
      rintro e v1 ⟨rfl, hv⟩
      replace B := B.more hv
      replace O := own_keep O hv
      clear hv HCO m0 ha
      have m0 := B.at0
      have ha := B.there
      rw [any_size]
      have e1 : ((k + 1 : Nat) : Int) + 1 = (k : Int) + 1 + 1 := by omega
      have y0 : IntKind.i64.wrap ((k : Int) + 1 + 1) = (k : Int) + 1 + 1 := IntWalk.i64_in _ (by omega)
      by_cases hz : size l (k + 1) ≠ 0
      · have HN := Lib.hid (weeksN_yes (l := l) (n := k) hz)
        rw [decide_eq_true hz]
        clear hz
        go_wp2_with fail
        refine (week_impl P cap l ((k : Int) + 1) v1 ((HR.out.below B.below (Nat.le_refl _)).mono B.below.size) HS.out).mono ?_
        rintro e v2 ⟨A1, a1, rfl, O1, hv⟩
        replace B := B.more hv
        replace O := own_keep O hv
        clear hv
        go_wp2_with fail
        refine (sum_impl A1 a1 (week l ((k : Int) + 1)) v2 (Rd.of_own O1) (by rw [week_len]; omega) (week_mem HS.out _)).mono ?_
        rintro e v3 ⟨rfl, hv⟩
        replace B := B.more hv
        replace O := own_keep O hv
        clear hv O1 m0 ha
        unfold weekSum at HN
        generalize (week l ((k : Int) + 1)).sum = r at HN ⊢
        have hm1 : L.length + 1 ≤ maxLen := by unfold maxLen; omega
        have hm2 : (L.length + 1) * 8 ≤ 140737488355328 := by omega
        have HHB := Lib.hid B.below.size
        have HHA := Lib.hid B.there
        have HN1 := Lib.hid ((congrArg (· ++ [r]) HL.out).symm.trans HN.out.symm)
        go_upto_region 9 with (at_builtin; go_must (refine wpList_append_own _ rfl _ _ 27 rfl w.heap.size 3 i0 _ 1 8 Try.underlying27 hi hz0 HI1.out HI.out rfl (by decide) _ L.length _ rfl (O.alloc _) ⟨v3.heap.size, 0, none⟩ 1 1 [.int .i64 r] rfl rfl (cell_one_new _ _ _) (one_cell rfl) hm1 hm2 (by rw [size_alloc']; have := HHB.out; omega) ?_; intro v' w9 hown1 hgrow _))
        obtain ⟨A1, c1, rfl⟩ := own_form hown1
        have HO1 := row_app (x := r) hown1
        have B9 := box_grown (B.alloc (.cells #[.int .i64 r] 3)) hgrow (fun j hj => ⟨HD.out j hj, own_ge O j hj⟩)
        clear hgrow hown1 hm1 hm2 O B
        have m0 := B9.at0
        have ha := B9.there
        have HB9 := B9.below
        clear B9
        go_wp2
        refine ⟨⟨k + 1, L ++ [r], A1, c1, w9.heap.size, by omega, by rw [List.length_append]; simp; omega, by rw [List.length_append] <;> rfl, rfl, Lib.hid HN1.out.symm, Lib.hid (fun j hj => Nat.ne_of_lt (own_blk HO1 hj)), own_keep HO1 (al (Below.refl _ _)), by rw [e1]; exact Box.new HB9 [.int .i64 ((k : Int) + 1 + 1)] 3 rfl⟩, ?_⟩
        rw [HM0.out, atPtr_new]; omega
      · have HN := Lib.hid ((weeksN_no (l := l) (n := k) (by omega)).trans HL.out)
        rw [decide_eq_false hz]
        clear hz
        have HBV := B.below
        clear B
        go_wp2
        refine ⟨⟨k + 1, L, A, c, v1.heap.size, by omega, by omega, rfl, rfl, HN, Lib.hid (fun j hj => Nat.ne_of_lt (own_blk O hj)), own_keep O (al (Below.refl _ _)), by rw [e1]; exact Box.new HBV [.int .i64 ((k : Int) + 1 + 1)] 3 rfl⟩, ?_⟩
        rw [HM0.out, atPtr_new]; omega
    · obtain rfl : k = 5 := by omega
      have hk6 : decide (((5 : Nat) : Int) + 1 ≤ 5) = false := rfl
      by_cases h2 : L.length < 2
      · have h2i : (L.length : Int) < 2 := by omega
        have HE := Lib.hid (even_few HG.out (by rw [HL.out]; exact h2))
        go_wp2
        go_ret2
        exact rpost (by rw [HE.out] <;> rfl) B.below
      · have h2i : decide ((L.length : Int) < 2) = false := decide_eq_false (by omega)
        have hbd := (weeksN_bd HS.out 5).2
        have hlh := lo_bd hbd
        rw [HL.out] at hbd hlh
        obtain ⟨u, hu⟩ : ∃ u, lo L = u := ⟨_, rfl⟩
        obtain ⟨v, hv⟩ : ∃ v, Work2.hi L = v := ⟨_, rfl⟩
        have HE := Lib.hid (even_yes HG.out ((congrArg lo HL.out).trans hu) ((congrArg Work2.hi HL.out).trans hv))
        rw [hu, hv] at hlh
        have y1 : IntKind.i64.wrap (v - u) = v - u := IntWalk.i64_in _ (by omega)
        have HMX := Lib.hid (fun W hR => max_any A c L W hR (by omega) (by omega) hbd)
        have HMN := Lib.hid (fun W hR => min_any A c L W hR (by omega) (by omega) hbd)
        rw [hv] at HMX
        rw [hu] at HMN
        clear hbd hu hv hlh
        go_wp2_with fail
        refine (HMX.out wr (Rd.of_own O)).mono ?_
        rintro e v1 ⟨rfl, hv⟩
        replace B := B.more hv
        replace O := own_keep O hv
        clear hv
        go_wp2_with fail
        refine (HMN.out v1 (Rd.of_own O)).mono ?_
        rintro e v2 ⟨rfl, hv⟩
        replace B := B.more hv
        clear hv O m0
        go_wp2
        go_ret2
        exact rpost (by rw [HE.out] <;> rfl) B.below
end Go.Proofs.Ytdikekecbapcaaa.WorkX
