/- The laws on heaps, walked. Made by tools/law7.py. -/
import Derived.Test.YtoompggbdedkmaaHeapR
namespace Go.Proofs.Ytoompggbdedkmaa.Laws7a
open Go.RowKit Go.Proofs.Ytoompggbdedkmaa.Mem Go.Proofs.Ytoompggbdedkmaa.Base Go.Proofs.Ytoompggbdedkmaa.Regn Go.Proofs.Ytoompggbdedkmaa.Boxes Go.Proofs.Ytoompggbdedkmaa.Keep Go.Proofs.Ytoompggbdedkmaa.Nest Go.Proofs.Ytoompggbdedkmaa.HeapS Go.Proofs.Ytoompggbdedkmaa.HeapW Go.Proofs.Ytoompggbdedkmaa.HeapE Go.Proofs.Ytoompggbdedkmaa.Heap Go.Proofs.Ytoompggbdedkmaa.HeapG Go.Proofs.Ytoompggbdedkmaa.HeapT Go.Proofs.Ytoompggbdedkmaa.Heap2 Go.Proofs.Ytoompggbdedkmaa.HeapQ Go.Proofs.Ytoompggbdedkmaa.HeapR
set_option linter.unusedVariables false
set_option maxRecDepth 100000
/-- What each walk of a law ends in. -/
def Yes (w : World) (e : Ending) (w' : World) : Prop := e = .returned (.bool true) ∧ Below w.heap.size w w'
theorem hs_of {w w' : World} {lo B : Nat} {A A' : Option Addr} {c : Nat} {l m : List HeapS.R} (O : Own w lo w.heap.size A c m) (h : pl m = pl l) (hs : Hs w' B A' l) : Hs w w.heap.size A m := by
  have e : m.length = l.length := by rw [← pl_len m, h, pl_len]
  refine O.hs (by rw [e]; exact hs.len) fun x hx => ?_
  obtain ⟨k, hk, rfl⟩ := List.getElem_of_mem hx
  have h1 := pl_get m k hk
  have h2 := pl_get l k (by omega)
  have h3 : m[k].pure = l[k].pure := by rw [← h1, ← h2]; congr 1
  have h4 : m[k].f2.ls = l[k].f2.ls := congrArg H.ls h3
  rw [h4]
  exact hs.rlen _ (List.getElem_mem _)
theorem are_spec (P : Option Addr) (cap : Nat) (l : List R) (w : World) (hr : Hs w w.heap.size P l) :
    Calls Try.prog 36 #[.slice P l.length cap] w (RPost (.bool (good (pl l))) w) := by
  go_enter Try.func36, Try.ntmps36
  go_wp2_with fail
  refine (good_spec P cap l w hr).mono ?_
  rintro e w1 ⟨rfl, HB⟩
  go_wp2
  go_ret
  exact rpost rfl HB
theorem is_spec (x : R) (w : World) (hr : Rd w w.heap.size x.f2.A (SInt.iv x.f2.ls)) (hn : x.f2.ls.length ≤ 1048576) :
    Calls Try.prog 32 #[.agg #[.int .i64 x.f0, .int .i64 x.f1, .slice x.f2.A x.f2.ls.length x.f2.cap, .bool x.f3]] w (RPost (.bool (okH x.pure)) w) := by
  go_enter Try.func32, Try.ntmps32
  go_wp2_with fail
  have B := Box.new (Below.refl _ w) [.int .i64 x.f0, .int .i64 x.f1, .slice x.f2.A x.f2.ls.length x.f2.cap, .bool x.f3] 43 (g := w.heap.size) rfl
  generalize (w.alloc (.cells #[.int .i64 x.f0, .int .i64 x.f1, .slice x.f2.A x.f2.ls.length x.f2.cap, .bool x.f3] 43)) = W1 at B ⊢
  have B_0 := B.cells 0 _ rfl
  have B_1 := B.cells 1 _ rfl
  have B_2 := B.cells 2 _ rfl
  have B_3 := B.cells 3 _ rfl
  have B_f0 := B.free 0 (by simp)
  have B_f1 := B.free 1 (by simp)
  have B_f2 := B.free 2 (by simp)
  have B_f3 := B.free 3 (by simp)
  have B_t := B.there
  go_wp2_with fail
  refine (one_spec x _ (rd_keep hr B.below) hn).mono ?_
  rintro e v2 ⟨rfl, hv2⟩
  clear B_0 B_1 B_2 B_3 B_f0 B_f1 B_f2 B_f3 B_t
  replace B := B.more hv2
  have zhv2 := hv2.size
  clear hv2
  have B_0 := B.cells 0 _ rfl
  have B_1 := B.cells 1 _ rfl
  have B_2 := B.cells 2 _ rfl
  have B_3 := B.cells 3 _ rfl
  have B_f0 := B.free 0 (by simp)
  have B_f1 := B.free 1 (by simp)
  have B_f2 := B.free 2 (by simp)
  have B_f3 := B.free 3 (by simp)
  have B_t := B.there
  go_wp2
  go_ret
  exact rpost rfl B.below
set_option maxHeartbeats 800000 in
theorem are_law (P : Option Addr) (cap : Nat) (l : List HeapS.R) (w : World) (hr : Arg w P l) :
    Calls Try.prog 5 #[.slice P l.length cap] w (Yes w) := by
  obtain ⟨v, hv⟩ : ∃ v, szA 1048576 l = v := ⟨_, rfl⟩
  have HSZ := Lib.hid hv
  rcases szA_ok l with hb | ⟨hb, hn, hrn⟩
  · have HE := Lib.hid hb; clear hb hv
    go_enter Try.func5, Try.ntmps5
    go_wp2_with fail
    refine (szS_any P cap l w hr).mono ?_
    rintro e v1 ⟨rfl, hb0⟩
    rw [HE.out]
    go_wp2
    go_ret
    exact ⟨rfl, hb0⟩
  obtain ⟨q, hv2⟩ : ∃ q, Value.bool (good (pl l)) = .bool q := ⟨_, rfl⟩
  have HV := Lib.hid hv2; clear hv2
  have HS := Lib.hid (hr.hs hn hrn)
  have hv0 : decide (v < 0) = false := by rw [← hv]; exact decide_eq_false (by omega)
  clear hb hv hn hrn
  go_enter Try.func5, Try.ntmps5
  go_wp2_with fail
  refine (szS_any P cap l w hr).mono ?_
  rintro e v1 ⟨rfl, HB⟩
  rw [HSZ.out]
  clear hr
  go_wp2_with fail
  refine (toS_any P cap l _ (HS.out.keep HB)).mono ?_
  rintro e v2 ⟨m, hm, rfl, O, hv2⟩
  replace HB := be HB hv2
  have zhv2 := hv2.size
  have hs := hs_of O hm HS.out
  have HM := Lib.hid hm; clear hm O
  go_wp2_with fail
  refine (are_spec _ _ m _ hs).mono ?_
  rintro e v3 ⟨rfl, hv3⟩
  replace HB := be HB hv3
  have zhv3 := hv3.size
  rw [HM.out, HV.out]
  clear hs HM
  go_wp2_with fail
  refine (toS_any P cap l _ (HS.out.keep HB)).mono ?_
  rintro e v4 ⟨m2, hm2, rfl, O2, hv4⟩
  replace HB := be HB hv4
  have zhv4 := hv4.size
  have hs2 := hs_of O2 hm2 HS.out
  have HM2 := Lib.hid hm2; clear hm2 O2
  go_wp2_with fail
  refine (are_impl _ _ m2 _ hs2).mono ?_
  rintro e v5 ⟨rfl, hv5⟩
  replace HB := be HB hv5
  replace hs2 := Hs.keep hs2 hv5
  have zhv5 := hv5.size
  rw [HM2.out, HV.out]
  go_wp2_with fail
  refine (toS_any P cap l _ (HS.out.keep HB)).mono ?_
  rintro e v6 ⟨m3, hm3, rfl, O3, hv6⟩
  replace HB := be HB hv6
  replace hs2 := Hs.keep hs2 hv6
  have zhv6 := hv6.size
  have hs3 := hs_of O3 hm3 HS.out
  have HM3 := Lib.hid (decide_eq_true (HM2.out.trans hm3.symm)); clear hm3 O3
  go_wp2_with fail
  refine (HeapE.eqS_any _ _ _ _ m2 m3 _ hs2 hs3).mono ?_
  rintro e v7 ⟨rfl, hv7⟩
  replace HB := be HB hv7
  replace hs2 := Hs.keep hs2 hv7
  have zhv7 := hv7.size
  rw [HM3.out]
  go_wp2
  go_ret
  exact ⟨rfl, HB⟩
set_option maxHeartbeats 800000 in
theorem tons_law (P : Option Addr) (cap : Nat) (l : List HeapS.R) (g : Int) (w : World) (hr : Arg w P l) :
    Calls Try.prog 6 #[.slice P l.length cap, .int .i64 g] w (Yes w) := by
  obtain ⟨v, hv⟩ : ∃ v, szA 1048576 l = v := ⟨_, rfl⟩
  have HSZ := Lib.hid hv
  rcases szA_ok l with hb | ⟨hb, hn, hrn⟩
  · have HE := Lib.hid hb; clear hb hv
    go_enter Try.func6, Try.ntmps6
    go_wp2_with fail
    refine (szS_any P cap l w hr).mono ?_
    rintro e v1 ⟨rfl, hb0⟩
    rw [HE.out]
    go_wp2
    go_ret
    exact ⟨rfl, hb0⟩
  obtain ⟨x, q, hv2⟩ : ∃ x q, tonsV (pl l) g = .tuple #[.int .i64 x, .bool q] := tonsV_form (pl l) g
  have HV := Lib.hid hv2; clear hv2
  have HS := Lib.hid (hr.hs hn hrn)
  have hv0 : decide (v < 0) = false := by rw [← hv]; exact decide_eq_false (by omega)
  clear hb hv hn hrn
  go_enter Try.func6, Try.ntmps6
  go_wp2_with fail
  refine (szS_any P cap l w hr).mono ?_
  rintro e v1 ⟨rfl, HB⟩
  rw [HSZ.out]
  clear hr
  go_wp2_with fail
  refine (toS_any P cap l _ (HS.out.keep HB)).mono ?_
  rintro e v2 ⟨m, hm, rfl, O, hv2⟩
  replace HB := be HB hv2
  have zhv2 := hv2.size
  have hs := hs_of O hm HS.out
  have HM := Lib.hid hm; clear hm O
  go_wp2_with fail
  refine (tonsOf_spec _ _ m g _ hs).mono ?_
  rintro e v3 ⟨rfl, hv3⟩
  replace HB := be HB hv3
  have zhv3 := hv3.size
  rw [HM.out, HV.out]
  clear hs HM
  go_wp2_with fail
  refine (toS_any P cap l _ (HS.out.keep HB)).mono ?_
  rintro e v4 ⟨m2, hm2, rfl, O2, hv4⟩
  replace HB := be HB hv4
  have zhv4 := hv4.size
  have hs2 := hs_of O2 hm2 HS.out
  have HM2 := Lib.hid hm2; clear hm2 O2
  go_wp2_with fail
  refine (tonsOf_impl _ _ m2 g _ hs2).mono ?_
  rintro e v5 ⟨rfl, hv5⟩
  replace HB := be HB hv5
  replace hs2 := Hs.keep hs2 hv5
  have zhv5 := hv5.size
  rw [HM2.out, HV.out]
  go_wp2_with fail
  refine (toS_any P cap l _ (HS.out.keep HB)).mono ?_
  rintro e v6 ⟨m3, hm3, rfl, O3, hv6⟩
  replace HB := be HB hv6
  replace hs2 := Hs.keep hs2 hv6
  have zhv6 := hv6.size
  have hs3 := hs_of O3 hm3 HS.out
  have HM3 := Lib.hid (decide_eq_true (HM2.out.trans hm3.symm)); clear hm3 O3
  go_wp2_with fail
  refine (HeapE.eqS_any _ _ _ _ m2 m3 _ hs2 hs3).mono ?_
  rintro e v7 ⟨rfl, hv7⟩
  replace HB := be HB hv7
  replace hs2 := Hs.keep hs2 hv7
  have zhv7 := hv7.size
  rw [HM3.out]
  go_wp2
  go_ret
  exact ⟨rfl, HB⟩
set_option maxHeartbeats 800000 in
theorem for_law (P : Option Addr) (cap : Nat) (l : List HeapS.R) (g : Int) (t : Int) (w : World) (hr : Arg w P l) :
    Calls Try.prog 8 #[.slice P l.length cap, .int .i64 g, .int .i64 t] w (Yes w) := by
  obtain ⟨v, hv⟩ : ∃ v, szA 1048576 l = v := ⟨_, rfl⟩
  have HSZ := Lib.hid hv
  rcases szA_ok l with hb | ⟨hb, hn, hrn⟩
  · have HE := Lib.hid hb; clear hb hv
    go_enter Try.func8, Try.ntmps8
    go_wp2_with fail
    refine (szS_any P cap l w hr).mono ?_
    rintro e v1 ⟨rfl, hb0⟩
    rw [HE.out]
    go_wp2
    go_ret
    exact ⟨rfl, hb0⟩
  obtain ⟨x, q, hv2⟩ : ∃ x q, forV (pl l) g t = .tuple #[.int .i64 x, .bool q] := forV_form (pl l) g t
  have HV := Lib.hid hv2; clear hv2
  have HS := Lib.hid (hr.hs hn hrn)
  have hv0 : decide (v < 0) = false := by rw [← hv]; exact decide_eq_false (by omega)
  clear hb hv hn hrn
  go_enter Try.func8, Try.ntmps8
  go_wp2_with fail
  refine (szS_any P cap l w hr).mono ?_
  rintro e v1 ⟨rfl, HB⟩
  rw [HSZ.out]
  clear hr
  go_wp2_with fail
  refine (toS_any P cap l _ (HS.out.keep HB)).mono ?_
  rintro e v2 ⟨m, hm, rfl, O, hv2⟩
  replace HB := be HB hv2
  have zhv2 := hv2.size
  have hs := hs_of O hm HS.out
  have HM := Lib.hid hm; clear hm O
  go_wp2_with fail
  refine (for_spec _ _ m g t _ hs).mono ?_
  rintro e v3 ⟨rfl, hv3⟩
  replace HB := be HB hv3
  have zhv3 := hv3.size
  rw [HM.out, HV.out]
  clear hs HM
  go_wp2_with fail
  refine (toS_any P cap l _ (HS.out.keep HB)).mono ?_
  rintro e v4 ⟨m2, hm2, rfl, O2, hv4⟩
  replace HB := be HB hv4
  have zhv4 := hv4.size
  have hs2 := hs_of O2 hm2 HS.out
  have HM2 := Lib.hid hm2; clear hm2 O2
  go_wp2_with fail
  refine (for_impl _ _ m2 g t _ hs2).mono ?_
  rintro e v5 ⟨rfl, hv5⟩
  replace HB := be HB hv5
  replace hs2 := Hs.keep hs2 hv5
  have zhv5 := hv5.size
  rw [HM2.out, HV.out]
  go_wp2_with fail
  refine (toS_any P cap l _ (HS.out.keep HB)).mono ?_
  rintro e v6 ⟨m3, hm3, rfl, O3, hv6⟩
  replace HB := be HB hv6
  replace hs2 := Hs.keep hs2 hv6
  have zhv6 := hv6.size
  have hs3 := hs_of O3 hm3 HS.out
  have HM3 := Lib.hid (decide_eq_true (HM2.out.trans hm3.symm)); clear hm3 O3
  go_wp2_with fail
  refine (HeapE.eqS_any _ _ _ _ m2 m3 _ hs2 hs3).mono ?_
  rintro e v7 ⟨rfl, hv7⟩
  replace HB := be HB hv7
  replace hs2 := Hs.keep hs2 hv7
  have zhv7 := hv7.size
  rw [HM3.out]
  go_wp2
  go_ret
  exact ⟨rfl, HB⟩
end Go.Proofs.Ytoompggbdedkmaa.Laws7a
