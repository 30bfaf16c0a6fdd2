/- impl.PutSun: the row cloned, then a Sun laid over its day's (and a jump past the insertion) or inserted. -/
import Derived.Test.YtcmomccdnkligaaSunI
import Derived.Test.YtcmomccdnkligaaSunG
import Derived.Test.YtcmomccdnkligaaRegn2
import Derived.ScopeJumps
import Derived.WalkMore
import Derived.Laws.OwnMore
namespace Go.Proofs.Ytcmomccdnkligaa.SunP
open Go.RowKit Go.Proofs.Ytcmomccdnkligaa.Mem Go.Proofs.Ytcmomccdnkligaa.Base Go.Proofs.Ytcmomccdnkligaa.SSun Go.Proofs.Ytcmomccdnkligaa.Regn Go.Proofs.Ytcmomccdnkligaa.Boxes Go.Proofs.Ytcmomccdnkligaa.Keep Go.Proofs.Ytcmomccdnkligaa.Sun Go.Proofs.Ytcmomccdnkligaa.SunA Go.Proofs.Ytcmomccdnkligaa.SunB Go.Proofs.Ytcmomccdnkligaa.SunC Go.Proofs.Ytcmomccdnkligaa.SunI
set_option linter.unusedVariables false
set_option maxRecDepth 100000
theorem own_at {w : World} {base : Nat} {e : TypeId} {size n c : Nat} {A : Option Addr} {xs : List Value} (h : w.ownsRow base e size (.slice A n c) n xs) (hn : 0 < n) : ∃ g, A = some ⟨g, 0, none⟩ ∧ base ≤ g ∧ g < w.heap.size := by
  rcases h.2 with ⟨_, h0⟩ | ⟨g, cap, cur, hv, hb, hh, _⟩
  · omega
  · injection hv with hA _ _
    exact ⟨g, hA, hb, (Array.getElem?_eq_some_iff.1 hh).1⟩
theorem drew_below (w : World) (q : Nat) : Below w.heap.size w (w.drewN q) := ⟨rfl, rfl, rfl, Nat.le_refl _, fun _ _ => rfl⟩
def PutPost (l : List R) (x : R) (w : World) (e : Ending) (w' : World) : Prop :=
  ∃ (A : Option Addr) (c : Nat), e = .returned (.tuple #[.slice A (putL l x).length c, .bool (putOk l x)]) ∧ w'.ownsRow w.heap.size 42 2 (.slice A (putL l x).length c) (putL l x).length (flat (putL l x)) ∧ Below w.heap.size w w'
theorem put_bad {l : List R} {x : R} {w u : World} (h : putOk l x = false) (hb : Below w.heap.size w u) : PutPost l x w (.returned (.tuple #[.slice (some ⟨u.heap.size, 0, none⟩) 0 0, .bool false])) (u.alloc (.cells #[] 42)) := by
  have e := put_no h
  refine ⟨some ⟨u.heap.size, 0, none⟩, 0, by rw [e, h]; rfl, ?_, al hb⟩
  rw [e]
  exact empty_own hb
theorem put_good {l m : List R} {x : R} {w u : World} {A : Option Addr} {c B : Nat} (hg : good l = true) (hm : putAt l x = m) (h1 : good m = true) (hb : Below w.heap.size w u) (hB : w.heap.size ≤ B) (O : u.ownsRow B 42 2 (.slice A m.length c) m.length (flat m)) :
    PutPost l x w (.returned (.tuple #[.slice A m.length c, .bool true])) u := by
  obtain ⟨e1, e2⟩ := pt3 hg hm h1
  refine ⟨A, c, by rw [e1, e2], ?_, hb⟩
  rw [e2]
  exact own_base O hB
def J (m : List R) (w : World) (a : Act) (v : World) : Prop := ∃ (A1 : Option Addr) (c1 : Nat) (u0 u1 u2 u3 u4 u5 u7 u8 u9 u10 u11 u12 u13 u14 u15 u16 u17 u18 u19 u20 u21 u22 u23 u24 u25 u26 u27 u28 u29 u30 u31 u32 u33 u34 u35 u36 u37 u38 u39 u40 u41 u42 u43 u44 u45 u46 u47 u48 u49 u50 u51 : Value), a = { tmps := #[u0, u1, u2, u3, u4, u5, .slice A1 m.length c1, u7, u8, u9, u10, u11, u12, u13, u14, u15, u16, u17, u18, u19, u20, u21, u22, u23, u24, u25, u26, u27, u28, u29, u30, u31, u32, u33, u34, u35, u36, u37, u38, u39, u40, u41, u42, u43, u44, u45, u46, u47, u48, u49, u50, u51], defers := [] } ∧ v.ownsRow (w.heap.size + 1) 42 2 (.slice A1 m.length c1) m.length (flat m) ∧ Below w.heap.size w v

set_option maxHeartbeats 1600000 in
theorem put_impl (P : Option Addr) (cap : Nat) (l : List R) (x : R) (w : World) (hr : Rd w w.heap.size P (flat l)) (hn : l.length ≤ 1048576) :
    Calls Try.prog 34 #[.slice P l.length cap, .agg #[.int .i64 x.f0, .int .i64 x.f1]] w (PutPost l x w) := by
  have HR := Lib.hid hr; clear hr
  obtain ⟨m, hm⟩ : ∃ m, putAt l x = m := ⟨_, rfl⟩
  have HM := Lib.hid hm
  have hml : m.length ≤ l.length + 1 := by rw [← hm]; exact put_len l x
  clear hm
  cases hg : good l
  · go_enter Try.func34, Try.ntmps34
    go_wp2_with fail
    have B := Box.new (Below.refl _ w) [.int .i64 x.f0, .int .i64 x.f1] 42 (g := w.heap.size) rfl
    generalize (w.alloc (.cells #[.int .i64 x.f0, .int .i64 x.f1] 42)) = W1 at B ⊢
    have B_0 := B.cells 0 _ rfl
    have B_1 := B.cells 1 _ rfl
    have B_f0 := B.free 0 (by simp)
    have B_f1 := B.free 1 (by simp)
    have B_t := B.there
    go_step3
    go_wp2_with fail
    refine (SunG.are_impl P cap l _ ((HR.out.below B.below (Nat.le_refl _)).mono B.below.size) hn).mono ?_
    rintro e v2 ⟨rfl, hv2⟩
    clear B_0 B_1 B_f0 B_f1 B_t
    replace B := B.more hv2
    have zhv2 := hv2.size
    clear hv2
    have B_0 := B.cells 0 _ rfl
    have B_1 := B.cells 1 _ rfl
    have B_f0 := B.free 0 (by simp)
    have B_f1 := B.free 1 (by simp)
    have B_t := B.there
    rw [hg]
    go_wp2
    rw [Exit.noGoto_ret]
    go_ret2
    exact put_bad (pt1 hg) B.below
  · have h20 := (good_all hg).1
    go_enter Try.func34, Try.ntmps34
    go_wp2_with fail
    have B := Box.new (Below.refl _ w) [.int .i64 x.f0, .int .i64 x.f1] 42 (g := w.heap.size) rfl
    generalize (w.alloc (.cells #[.int .i64 x.f0, .int .i64 x.f1] 42)) = W1 at B ⊢
    have B_0 := B.cells 0 _ rfl
    have B_1 := B.cells 1 _ rfl
    have B_f0 := B.free 0 (by simp)
    have B_f1 := B.free 1 (by simp)
    have B_t := B.there
    have hW1 := B.there
    refine wp_scope_jumps 0 (J m w) (fun _ _ => 0) rfl ?_ ?_
    · 
      go_wp2_with fail
      refine (SunG.are_impl P cap l _ ((HR.out.below B.below (Nat.le_refl _)).mono B.below.size) hn).mono ?_
      rintro e v2 ⟨rfl, hv2⟩
      clear B_0 B_1 B_f0 B_f1 B_t
      replace B := B.more hv2
      have zhv2 := hv2.size
      clear hv2
      have B_0 := B.cells 0 _ rfl
      have B_1 := B.cells 1 _ rfl
      have B_f0 := B.free 0 (by simp)
      have B_f1 := B.free 1 (by simp)
      have B_t := B.there
      rw [hg]
      go_wp2_with fail
      refine (SunC.clone_any P cap l _ ((HR.out.below B.below (Nat.le_refl _)).mono B.below.size) hn).mono ?_
      rintro e v3 ⟨A1, c1, rfl, O, hv3⟩
      clear B_0 B_1 B_f0 B_f1 B_t
      replace B := B.more hv3
      have zhv3 := hv3.size
      clear hv3
      have B_0 := B.cells 0 _ rfl
      have B_1 := B.cells 1 _ rfl
      have B_f0 := B.free 0 (by simp)
      have B_f1 := B.free 1 (by simp)
      have B_t := B.there
      replace O := own_base O (base' := w.heap.size + 1) (by omega)
      go_wp2_with fail
      go_loopw [7] (fun i wr => ∃ k : Nat, k ≤ l.length ∧ i = .int .i64 k ∧ Hid (Low l x.f0 k) ∧ Box w.heap.size [.int .i64 x.f0, .int .i64 x.f1] w wr ∧ wr.ownsRow (w.heap.size + 1) 42 2 (.slice A1 l.length c1) l.length (flat l)) (fun i _ => l.length - (intOf i).toNat)
      case atStart => exact ⟨0, Nat.zero_le _, rfl, Lib.hid (fun j hj h => by omega), B, O⟩
      case round =>
        clear B_0 B_1 B_f0 B_f1 B_t
        clear B O
        obtain ⟨k, hk, rfl, HL, B, O⟩ := hrel
        have B_0 := B.cells 0 _ rfl
        have B_1 := B.cells 1 _ rfl
        have B_f0 := B.free 0 (by simp)
        have B_f1 := B.free 1 (by simp)
        have B_t := B.there
        by_cases hlt : k < l.length
        · obtain ⟨g, rfl, hg1, hg2⟩ := own_at O (by omega)
          obtain ⟨y, hy⟩ : ∃ y, l[k] = y := ⟨_, rfl⟩
          have h0 : wr.cell? ⟨g, k * 2, none⟩ = some (.int .i64 y.f0) := by rw [O.cellAt _ (by omega), ← hy]; exact flat_0 l k hlt
          have h1 : wr.cell? ⟨g, k * 2 + 1, none⟩ = some (.int .i64 y.f1) := by rw [O.cellAt _ (by omega), ← hy]; exact flat_1 l k hlt
          have f0 := O.frozenAt (k * 2)
          have f1 := O.frozenAt (k * 2 + 1)
          have HO := Lib.hid O; clear O
          have HY := Lib.hid hy; clear hy
          rcases Int.lt_trichotomy y.f0 x.f0 with hc | hc | hc
          · have e1 : decide (y.f0 ≤ x.f0) = true := decide_eq_true (by omega)
            have e2 : (y.f0 == x.f0) = false := by rw [beq_eq_false_iff_ne]; omega
            have e3 : IntKind.i64.wrap ((k : Int) + 1) = k + 1 := IntWalk.i64_in _ (by omega)
            go_wp2_with fail
            go_quiet (fail)
            generalize nq = q1
            go_wp2_with fail
            go_quiet (fail)
            generalize nq = q2
            go_wp2
            exact ⟨⟨k + 1, hlt, by go_num, Lib.hid (HL.out.next hlt (by rw [HY.out]; exact hc)), B.more (drew_below _ _), own_keep HO.out (drew_below _ _)⟩, by simp [intOf]; omega⟩
          · have e1 : decide (y.f0 ≤ x.f0) = true := decide_eq_true (by omega)
            have e2 : (y.f0 == x.f0) = true := by rw [beq_iff_eq]; exact hc
            go_wp2_with fail
            go_quiet (fail)
            generalize nq = q1
            go_wp2_with fail
            go_quiet (fail)
            generalize nq = q2
            go_wp2
            obtain ⟨hput, hput2⟩ := put_same (x := x) hlt HL.out (by rw [HY.out]; exact hc)
            obtain rfl : m = l.set k x := HM.out.symm.trans hput
            have OD := own_keep HO.out (drew_below wr (q1 + q2))
            have O1 := OD.stored (k * 2) (.int .i64 x.f0)
            have O2 := O1.1.stored (k * 2 + 1) (.int .i64 x.f1)
            have HB1 := (B.below.trans ((drew_below wr (q1 + q2)).mono (by omega)))
            have hsz : w.heap.size ≤ wr.heap.size := by omega
            have HB2 := HB1.grown O1.2 hsz (fun k hk => by injection hk with hk; omega)
            have HB3 := HB2.grown O2.2 (Nat.le_trans hsz O1.2.size) (fun k hk => by injection hk with hk; omega)
            have O3 := O2.1
            rw [flat_set l k x hlt] at O3
            have hll : l.length = (l.set k x).length := by simp
            go_step3
            refine (show (0 = 0 ∧ J (l.set k x) w _ _) from ⟨rfl, ?_⟩)
            unfold J
            rw [← hll]
            exact ⟨some ⟨g, 0, none⟩, c1, _, _, _, _, _, _, _, _, _, _, _, _, _, _, _, _, _, _, _, _, _, _, _, _, _, _, _, _, _, _, _, _, _, _, _, _, _, _, _, _, _, _, _, _, _, _, _, _, _, _, _, rfl, O3, HB3⟩
          · have e1 : decide (y.f0 ≤ x.f0) = false := decide_eq_false (by omega)
            have he : ∀ h : k < l.length, x.f0 < l[k].f0 := fun h => by rw [HY.out]; exact hc
            go_wp2_with fail
            go_quiet (fail)
            generalize nq = q1
            obtain ⟨wd, hwd⟩ : ∃ v, v = wr.drewN q1 := ⟨_, rfl⟩
            have HD : Below wr.heap.size wr wd := by rw [hwd]; exact drew_below wr q1
            have BD := B.more HD
            have OD := own_keep HO.out HD
            rw [← hwd]
            clear hwd HD
            have BD_0 := BD.cells 0 _ rfl
            have BD_1 := BD.cells 1 _ rfl
            have hput := put_new (x := x) hk HL.out he
            obtain rfl : m = ins l k x := HM.out.symm.trans hput
            have hlen := Lib.hid (ins_len l k x hk)
            go_wp2_with fail
            refine (ins_any (some ⟨g, 0, none⟩) c1 k l x (w.heap.size + 1) wd wd OD hk (Below.refl _ _) (by have := BD.there; omega) (by omega)).mono ?_
            rintro e w2 ⟨A2, c2, he2, O2, hv2⟩
            rw [← hlen.out] at he2 O2
            subst he2
            have HB2 : Below w.heap.size w w2 := BD.below.trans (hv2.mono (Nat.le_succ _))
            clear OD BD hv2
            go_wp2_with fail
            go_step3
            go_wp2_with fail
            refine (SunG.are_impl A2 c2 (ins l k x) w2 (Rd.of_own O2) (by rw [hlen.out]; omega)).mono ?_
            rintro e w3 ⟨rfl, hv3⟩
            have HB3 := be HB2 hv3
            have O3 := own_keep O2 hv3
            cases h1 : good (ins l k x)
            · go_wp2
              simp only [Exit.jump]
              go_ret2
              exact put_bad (pt2 hput h1) HB3
            · go_wp2
              simp only [Exit.jump]
              go_ret2
              exact put_good hg hput h1 HB3 (Nat.le_succ _) O3
        · have he : ∀ h : k < l.length, x.f0 < l[k].f0 := fun h => by omega
          go_wp2_with fail
          go_quiet (fail)
          generalize nq = q1
          obtain ⟨wd, hwd⟩ : ∃ v, v = wr.drewN q1 := ⟨_, rfl⟩
          have HD : Below wr.heap.size wr wd := by rw [hwd]; exact drew_below wr q1
          have BD := B.more HD
          have OD := own_keep O HD
          rw [← hwd]
          clear hwd HD
          have BD_0 := BD.cells 0 _ rfl
          have BD_1 := BD.cells 1 _ rfl
          have hput := put_new (x := x) hk HL.out he
          obtain rfl : m = ins l k x := HM.out.symm.trans hput
          have hlen := Lib.hid (ins_len l k x hk)
          go_wp2_with fail
          refine (ins_any A1 c1 k l x (w.heap.size + 1) wd wd OD hk (Below.refl _ _) (by have := BD.there; omega) (by omega)).mono ?_
          rintro e w2 ⟨A2, c2, he2, O2, hv2⟩
          rw [← hlen.out] at he2 O2
          subst he2
          have HB2 : Below w.heap.size w w2 := BD.below.trans (hv2.mono (Nat.le_succ _))
          clear OD BD hv2
          go_wp2_with fail
          go_step3
          go_wp2_with fail
          refine (SunG.are_impl A2 c2 (ins l k x) w2 (Rd.of_own O2) (by rw [hlen.out]; omega)).mono ?_
          rintro e w3 ⟨rfl, hv3⟩
          have HB3 := be HB2 hv3
          have O3 := own_keep O2 hv3
          cases h1 : good (ins l k x)
          · go_wp2
            simp only [Exit.jump]
            go_ret2
            exact put_bad (pt2 hput h1) HB3
          · go_wp2
            simp only [Exit.jump]
            go_ret2
            exact put_good hg hput h1 HB3 (Nat.le_succ _) O3
    · rintro a' w' hJ
      unfold J at hJ
      obtain ⟨A1, c1, u0, u1, u2, u3, u4, u5, u7, u8, u9, u10, u11, u12, u13, u14, u15, u16, u17, u18, u19, u20, u21, u22, u23, u24, u25, u26, u27, u28, u29, u30, u31, u32, u33, u34, u35, u36, u37, u38, u39, u40, u41, u42, u43, u44, u45, u46, u47, u48, u49, u50, u51, rfl, O, HB⟩ := hJ
      go_wp2_with fail
      refine (SunG.are_impl A1 c1 (m) w' (Rd.of_own O) (by omega)).mono ?_
      rintro e w3 ⟨rfl, hv3⟩
      have HB3 := be HB hv3
      have O3 := own_keep O hv3
      cases h1 : good (m)
      · go_wp2
        simp only [Exit.jump]
        go_ret2
        exact put_bad (pt2 HM.out h1) HB3
      · go_wp2
        simp only [Exit.jump]
        go_ret2
        exact put_good hg HM.out h1 HB3 (Nat.le_succ _) O3
end Go.Proofs.Ytcmomccdnkligaa.SunP
