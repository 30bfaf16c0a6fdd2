/- The program's TideAt. -/
import Derived.Test.YtbbnbkdglihhhaaSea
namespace Go.Proofs.Ytbbnbkdglihhhaa.ISea
open Go.RowKit Go.Proofs.Ytbbnbkdglihhhaa.Mem Go.Proofs.Ytbbnbkdglihhhaa.Base Go.Proofs.Ytbbnbkdglihhhaa.Within Go.Proofs.Ytbbnbkdglihhhaa.SMark Go.Proofs.Ytbbnbkdglihhhaa.Regn Go.Proofs.Ytbbnbkdglihhhaa.Boxes Go.Proofs.Ytbbnbkdglihhhaa.Tide Go.Proofs.Ytbbnbkdglihhhaa.Tide2 Go.Proofs.Ytbbnbkdglihhhaa.Red Go.Proofs.Ytbbnbkdglihhhaa.Flow Go.Proofs.Ytbbnbkdglihhhaa.Span Go.Proofs.Ytbbnbkdglihhhaa.Sea
set_option linter.unusedVariables false
set_option maxRecDepth 100000
theorem info_h : (Try.prog.info? 86).map (·.size) = some 2 := by kernel_rfl
theorem size_run {P : Program} {t : TypeId} {n : Nat} (h : (P.info? t).map (·.size) = some n) (w : World) : (sizeOf t).run P w = .ok n w := by
  cases hq : P.info? t with
  | none => simp [hq] at h
  | some i =>
    have hs : i.size = n := by simpa [hq] using h
    simp [sizeOf, typeInfo, hq, hs]
/-- an element, by value, of an array of pairs by value. -/
theorem index_sea {L : List Value} {n : Nat} {x y : Value} (hn : n < 1441) (hx : L[n * 2]? = some x) (hy : L[n * 2 + 1]? = some y) (w : World) :
    (Instr.index 87 (.agg L.toArray) (.int .i64 n)).run Try.prog w = .ok (.agg #[x, y]) w := by
  have hag : (isAgg 86).run Try.prog w = .ok true w := by
    unfold isAgg
    rw [Sem.run_bind, run_underlying Try.underlying86 w]
    rfl
  have hs := size_run info_h w
  have h1 : (0 : Int) ≤ n ∧ (n : Int) < (1441 : Nat) := by omega
  have he : (L.drop (n * 2)).take 2 = [x, y] := by
    have hlt : n * 2 + 1 < L.length := (List.getElem?_eq_some_iff.1 hy).1
    rw [List.drop_eq_getElem_cons (by omega), List.drop_eq_getElem_cons hlt, (List.getElem?_eq_some_iff.1 hx).2, (List.getElem?_eq_some_iff.1 hy).2]
    rfl
  simp [Instr.index, asIntOf, run_underlying Try.underlying87, part, hag, hs, he, hn, Sem.run_bind, Sem.run_pure, Result.andThen]
theorem sea_ix {l : List R} {L : List Value} (hL : flat (sea l) = L) {n : Nat} (hn : n < 1441) (w : World) :
    (Instr.index 87 (.agg L.toArray) (.int .i64 n)).run Try.prog w = .ok (.agg #[.int .i64 (num l n), .int .i64 (den l n)]) w := by
  have hlt : n < (sea l).length := by unfold sea; rw [seaTo_len]; exact hn
  have e : (sea l)[n] = pair l n := by have := sea_at l n hn; rw [List.getElem?_eq_getElem hlt] at this; exact Option.some.inj this
  have h0 := flat_0 (sea l) n hlt
  have h1 := flat_1 (sea l) n hlt
  rw [e, hL] at h0 h1
  exact index_sea hn h0 h1 w
set_option maxHeartbeats 400000 in
theorem tideat_impl (P : Option Addr) (cap : Nat) (l : List R) (m : Int) (w : World) (hr : Rd w w.heap.size P (flat l)) (hcap : l.length ≤ cap) (hn : l.length ≤ 1048576) :
    Calls Try.prog 40 #[.slice P l.length cap, .int .i64 m] w (RPost (atV l m) w) := by
  have HR := Lib.hid hr; clear hr
  go_enter Try.func40, Try.ntmps40
  go_wp2_with fail
  refine (tide_impl P cap l w HR.out hn).mono ?_
  rintro e w1 ⟨rfl, HB⟩
  cases hg : good l
  · have HV := Lib.hid (atV_no (m := m) (ask_bad hg))
    go_wp2
    go_ret3
    exact rpost (by rw [HV.out] <;> rfl) HB
  have HG := Lib.hid hg
  cases hm : inB m 0 1440
  · have HV := Lib.hid (atV_no (l := l) (ask_far hm))
    go_wp2_with fail
    refine (within_any _ _ _ _).mono ?_
    rintro e _ ⟨rfl, rfl⟩
    rw [hm]
    go_wp2
    go_ret3
    exact rpost (by rw [HV.out] <;> rfl) HB
  have HV := Lib.hid (atV_yes (ask_in hg hm))
  have hmb := of_inB hm
  go_wp2_with fail
  refine (within_any _ _ _ _).mono ?_
  rintro e _ ⟨rfl, rfl⟩
  rw [hm]
  clear hg hm
  obtain ⟨n, rfl⟩ : ∃ n : Nat, m = n := ⟨m.toNat, by omega⟩
  have hn1 : n < 1441 := by omega
  have hn2 : (n : Int) < 1441 := by omega
  have HS := Lib.hid (sea_impl P cap l w1 (rd_keep HR.out HB) hcap HG.out)
  go_wp2_with fail
  refine HS.out.mono ?_
  rintro e w2 ⟨rfl, hv⟩
  replace HB := be HB hv
  clear hv
  obtain ⟨L, hL⟩ : ∃ L, flat (sea l) = L := ⟨_, rfl⟩
  have HL := Lib.hid hL
  rw [hL]
  have hix := fun w => sea_ix hL hn1 w
  have hnb := num_bd HG.out (m := n) (by omega) (by omega)
  have hdb := den_bd HG.out (m := n) (by omega) (by omega)
  clear hL
  generalize num l n = x at *
  generalize den l n = y at *
  have HRD := Lib.hid (fun u => red_impl x y (by omega) (by omega) (by omega) (by omega) u)
  clear hnb hdb
  go_wp2_with fail
  have X := Box.new HB [.int .i64 x, .int .i64 y] 86 (g := w2.heap.size) rfl
  replace HB := be HB (al (Below.refl _ _) (o := (.cells #[.int .i64 x, .int .i64 y] 86)))
  generalize (w2.alloc (.cells #[.int .i64 x, .int .i64 y] 86)) = W3 at X HB ⊢
  have X_0 := X.cells 0 _ rfl
  have X_1 := X.cells 1 _ rfl
  have X_f0 := X.free 0 (by simp)
  have X_f1 := X.free 1 (by simp)
  have X_t := X.there
  go_wp2_with fail
  go_wp2_with fail
  refine (HRD.out _).mono ?_
  rintro e v4 ⟨rfl, hv4⟩
  clear X_0 X_1 X_f0 X_f1 X_t
  replace X := X.more hv4
  replace HB := be HB hv4
  have zhv4 := hv4.size
  clear hv4
  have X_0 := X.cells 0 _ rfl
  have X_1 := X.cells 1 _ rfl
  have X_f0 := X.free 0 (by simp)
  have X_f1 := X.free 1 (by simp)
  have X_t := X.there
  go_wp2
  go_ret3
  exact rpost (by rw [HV.out] <;> rfl) X.below
end Go.Proofs.Ytbbnbkdglihhhaa.ISea
