/- ParseBrine: the program's side and the law. -/
import Derived.Test.YtpblkkfafmcnpaaDoorPbr
import Derived.Lib.AtoiTie
import Derived.Lib.AtoiAllCases
import Derived.Lib.AtoiAllMem
namespace Go.Proofs.YtpblkkfafmcnpaaDoor.Pbr
open Go.RowKit Go.Proofs.YtpblkkfafmcnpaaDoor.Mem Go.Proofs.YtpblkkfafmcnpaaDoor.Base Go.Proofs.YtpblkkfafmcnpaaDoor.Brine Go.Proofs.YtpblkkfafmcnpaaDoor.Regn Go.Proofs.YtpblkkfafmcnpaaDoor.Boxes Go.Proofs.YtpblkkfafmcnpaaDoor.IBrine Go.Proofs.YtpblkkfafmcnpaaDoor.Num Go.Proofs.YtpblkkfafmcnpaaDoor.Text Go.Proofs.YtpblkkfafmcnpaaDoor.Parse Go.Proofs.YtpblkkfafmcnpaaDoor.Split Go.Proofs.YtpblkkfafmcnpaaDoor.Strs
set_option linter.unusedVariables false
set_option maxRecDepth 100000
/-! ### plain -/
theorem index_at (d r : List UInt8) (h : (32 : UInt8) ∉ d) : Lib.index (d ++ 32 :: 115 :: r) [32, 115] = d.length := by
  induction d with
  | nil => simp [Lib.index, List.isPrefixOf]
  | cons c d ih =>
    have hc : ¬ (32 : UInt8) = c := fun e => h (by simp [← e])
    have h2 := ih (fun hm => h (List.mem_cons_of_mem _ hm))
    rw [List.cons_append, Lib.index, h2]
    have e : ([32, 115] : List UInt8).isPrefixOf (c :: (d ++ 32 :: 115 :: r)) = false := by
      have hb : ((32 : UInt8) == c) = false := by simpa using hc
      simp [List.isPrefixOf, hb]
    have e2 : ((d.length : Int) == -1) = false := by rw [beq_eq_false_iff_ne]; omega
    rw [e, e2]; simp
theorem cut_at (d r : List UInt8) (h : (32 : UInt8) ∉ d) : (Lib.cut (d ++ 32 :: 115 :: r) [32, 115]).1 = d ∧ (Lib.cut (d ++ 32 :: 115 :: r) [32, 115]).2.1 = r := by
  unfold Lib.cut
  rw [index_at d r h, if_pos (by omega)]
  simp
theorem cut_len (l p : List UInt8) : (Lib.cut l p).1.length ≤ l.length ∧ (Lib.cut l p).2.1.length ≤ l.length := by
  unfold Lib.cut; split <;> simp <;> omega
theorem trim_len (l p : List UInt8) : (Lib.trimPrefix l p).length ≤ l.length := by
  unfold Lib.trimPrefix; split <;> simp
def tr (s : ByteArray) : ByteArray := ⟨(Lib.trimPrefix s.data.toList [119]).toArray⟩
def cu1 (s : ByteArray) : ByteArray := ⟨(Lib.cut (tr s).data.toList [32, 115]).1.toArray⟩
def cu2 (s : ByteArray) : ByteArray := ⟨(Lib.cut (tr s).data.toList [32, 115]).2.1.toArray⟩
theorem tr_list (s : ByteArray) : (tr s).data.toList = Lib.trimPrefix s.data.toList [119] := by simp [tr]
theorem tr_size (s : ByteArray) : (tr s).size ≤ s.size := by
  rw [size_list (tr s) _ rfl, size_list s _ rfl, tr_list]; exact trim_len _ _
theorem cu_size (s : ByteArray) : (cu1 s).size ≤ s.size ∧ (cu2 s).size ≤ s.size := by
  have h1 := cut_len (tr s).data.toList [32, 115]
  have h2 := tr_size s
  rw [size_list (tr s) _ rfl] at h2
  rw [size_list (cu1 s) _ rfl, size_list (cu2 s) _ rfl]
  simp only [cu1, cu2]
  omega
theorem Is.cut {s : ByteArray} {a b : Int} (h : Is s a b) : (cu1 s).data.toList = Lib.decDigits a.toNat ∧ (cu2 s).data.toList = Lib.decDigits b.toNat := by
  obtain ⟨h0, _, h1, _⟩ := h.bd
  have n1 : (32 : UInt8) ∉ Lib.decDigits a.toNat := by
    have := no_byte a h0 32 (by decide); rwa [itoa_pos a h0] at this
  have e : (tr s).data.toList = Lib.decDigits a.toNat ++ 32 :: 115 :: Lib.decDigits b.toNat := by
    rw [tr_list, h.list]; simp [Lib.trimPrefix, Lib.hasPrefix]
  have k := cut_at (Lib.decDigits a.toNat) (Lib.decDigits b.toNat) n1
  rw [← e] at k
  exact ⟨by simp [cu1, k.1], by simp [cu2, k.2]⟩
theorem dec_from (l : List UInt8) : (∀ c ∈ l, dig c) → ∀ acc : Nat, Lib.decFrom acc l = some (l.foldl (fun a c => 10 * a + (c.toNat - 48)) acc) := by
  induction l with
  | nil => intro _ acc; rfl
  | cons c l ih =>
    intro h acc
    have hc := h c (by simp)
    unfold dig at hc
    rw [Lib.decFrom, show Lib.digitVal c = some (c.toNat - 48) by unfold Lib.digitVal; rw [if_pos hc]]
    simp only [List.foldl_cons]
    rw [ih (fun x hx => h x (by simp [hx])), Nat.mul_comm]
theorem atoi_dec (n : Nat) (h : n ≤ 1000000) : Lib.atoiAll (Lib.decDigits n) = .ok (n : Int) := by
  have h7 : (Lib.decDigits n).length ≤ 7 := dec_le 6 n (by omega)
  rw [Lib.atoiAll_short _ (by omega)]
  have hd := dec_dig n
  have hv := dec_val n
  have hp := dec_pos n
  generalize Lib.decDigits n = l at hd hv hp
  cases l with
  | nil => simp at hp
  | cons c r =>
    have hc := hd c (by simp)
    unfold dig at hc
    have e45 : (c == 45) = false := by rw [beq_eq_false_iff_ne]; rintro rfl; simp at hc
    have e43 : (c == 43) = false := by rw [beq_eq_false_iff_ne]; rintro rfl; simp at hc
    have e : Lib.decNat (c :: r) = some n := by
      unfold Lib.decNat
      simp only [List.isEmpty_cons]
      rw [dec_from _ hd 0]
      simp only [Bool.false_eq_true, if_false]
      exact congrArg some hv
    simp only [Lib.atoi, e45, e43, e, Bool.false_eq_true, if_false, Option.map_some]
    rfl
/-! ### the library's calls -/
theorem trim_any (s : ByteArray) (w : World) : Calls Tryd.prog 25 #[.string s, .string ⟨#[119]⟩] w fun e w' => e = .returned (.string (tr s)) ∧ w = w' :=
  (Tryd.strings_TrimPrefix s ⟨#[119]⟩ w).mono fun _ _ h => ⟨h.1, h.2.symm⟩
/-- internal/bytealg.MaxLen holds some number; the two errors' variables hold an interface's value. -/
structure Vars (w : World) : Prop where
  max : ∃ m, w.cell? ⟨0, 0, none⟩ = some (.int .i64 m)
  syn : ∃ te pe, w.cell? ⟨1, 0, none⟩ = some (.iface te pe)
  rng : ∃ te pe, w.cell? ⟨2, 0, none⟩ = some (.iface te pe)
theorem Vars.below {w w' : World} (h : Vars w) (hb : Below w.heap.size w w') : Vars w' := by
  obtain ⟨⟨m, h1⟩, ⟨t2, p2, h2⟩, ⟨t3, p3, h3⟩⟩ := h
  exact ⟨⟨m, by rw [(bcell hb).1 _ _ (World.block_lt_of_cell? w _ h1)]; exact h1⟩, ⟨t2, p2, by rw [(bcell hb).1 _ _ (World.block_lt_of_cell? w _ h2)]; exact h2⟩, ⟨t3, p3, by rw [(bcell hb).1 _ _ (World.block_lt_of_cell? w _ h3)]; exact h3⟩⟩
theorem cutw_any (s : ByteArray) (w : World) (hs : s.size ≤ 1048576) (hv : Vars w) : Calls Tryd.prog 24 #[.string (tr s), .string ⟨#[32, 115]⟩] w fun e w' => (∃ q, e = .returned (.tuple #[.string (cu1 s), .string (cu2 s), .bool q])) ∧ Below w.heap.size w w' := by
  obtain ⟨m, hm⟩ := hv.max
  refine (Tryd.strings_Cut (tr s) ⟨#[32, 115]⟩ m w (by have := tr_size s; omega) hm).mono fun e w' h => ?_
  obtain ⟨he, n, hw⟩ := h
  exact ⟨⟨_, he⟩, by rw [hw]; exact (Drawn.n w n).below _⟩
def AtPost (s : ByteArray) (w : World) (e : Ending) (w' : World) : Prop :=
  (∃ (v : Int) (r : Value), e = .returned (.tuple #[.int .i64 v, r]) ∧ -9223372036854775808 ≤ v ∧ v ≤ 9223372036854775807 ∧ ∀ n : Nat, n ≤ 1000000 → s.data.toList = Lib.decDigits n → v = n) ∧ Below w.heap.size w w'
theorem atoi_any (s : ByteArray) (w : World) (hs : s.size ≤ 1048576) (hv : Vars w) : Calls Tryd.prog 26 #[.string s] w (AtPost s w) := by
  cases h : Lib.atoiAll s.data.toList with
  | ok v =>
    refine (Tryd.strconv_Atoi_ok s (by omega) v h w).mono fun e w' hp => ?_
    obtain ⟨he, hw⟩ := hp
    obtain ⟨b0, b1⟩ := Lib.atoiAll_bounds h
    refine ⟨⟨v, _, he, b0, b1, fun n hn hl => ?_⟩, ?_⟩
    · rw [hl, atoi_dec n hn] at h; injection h with h; exact h.symm
    · rcases hw with rfl | ⟨t, rfl⟩
      · exact Below.refl _ _
      · exact Lib.bytesWorld_below _ _ _
  | «syntax» =>
    obtain ⟨te, pe, hc⟩ := hv.syn
    refine (Tryd.strconv_Atoi_syntax s (by omega) h _ w hc (.inr ⟨te, pe, rfl⟩)).mono fun e w' hp => ?_
    obtain ⟨N, he, _, _, hw⟩ := hp
    exact ⟨⟨0, _, he, by omega, by omega, fun n hn hl => by rw [hl, atoi_dec n hn] at h; cases h⟩, hw⟩
  | range =>
    obtain ⟨te, pe, hc⟩ := hv.rng
    refine (Tryd.strconv_Atoi_range s (by omega) h _ w hc (.inr ⟨te, pe, rfl⟩)).mono fun e w' hp => ?_
    obtain ⟨N, he, _, _, hw⟩ := hp
    obtain ⟨b0, b1⟩ := Lib.atoiSat_bounds s.data.toList
    exact ⟨⟨_, _, he, b0, b1, fun n hn hl => by rw [hl, atoi_dec n hn] at h; cases h⟩, hw⟩
set_option maxHeartbeats 1000000 in
theorem pb_impl (s : ByteArray) (w : World) (hs : s.size ≤ 1048576) (hv : Vars w) (ht : Tab w) : Calls Tryd.prog 7 #[.string s] w (PbPost s w) := by
  have HVr := Lib.hid hv; clear hv
  have HTb := Lib.hid ht; clear ht
  obtain ⟨z1, z2⟩ := cu_size s
  go_enter Tryd.func7, Tryd.ntmps7
  go_wp2_with fail
  have C := Box.new (Below.refl _ w) [.int .i64 0, .int .i64 0] 25 (g := w.heap.size) rfl
  generalize (w.alloc (.cells #[.int .i64 0, .int .i64 0] 25)) = W1 at C ⊢
  have C_0 := C.cells 0 _ rfl
  have C_1 := C.cells 1 _ rfl
  have C_f0 := C.free 0 (by simp)
  have C_f1 := C.free 1 (by simp)
  have C_t := C.there
  go_wp2_with fail
  refine (trim_any s _).mono ?_
  rintro e _ ⟨rfl, rfl⟩
  go_wp2_with fail
  refine (cutw_any s _ hs (HVr.out.below C.below)).mono ?_
  rintro e v3 ⟨⟨q, rfl⟩, hv3⟩
  clear C_0 C_1 C_f0 C_f1 C_t
  replace C := C.more hv3
  have zhv3 := hv3.size
  clear hv3
  have C_0 := C.cells 0 _ rfl
  have C_1 := C.cells 1 _ rfl
  have C_f0 := C.free 0 (by simp)
  have C_f1 := C.free 1 (by simp)
  have C_t := C.there
  go_wp2_with fail
  have C_t4 := C.there
  have E := Box.new C.below [.int .i64 0, .int .i64 0] 25 (g := v3.heap.size) rfl
  clear C_0 C_1 C_f0 C_f1 C_t
  replace C := (C).alloc (.cells #[.int .i64 0, .int .i64 0] 25)
  generalize (v3.alloc (.cells #[.int .i64 0, .int .i64 0] 25)) = W4 at E C ⊢
  have C_0 := C.cells 0 _ rfl
  have C_1 := C.cells 1 _ rfl
  have C_f0 := C.free 0 (by simp)
  have C_f1 := C.free 1 (by simp)
  have C_t := C.there
  have E_0 := E.cells 0 _ rfl
  have E_1 := E.cells 1 _ rfl
  have E_f0 := E.free 0 (by simp)
  have E_f1 := E.free 1 (by simp)
  have E_t := E.there
  go_wp2_with fail
  refine (atoi_any (cu1 s) _ (by omega) (HVr.out.below C.below)).mono ?_
  rintro e v5 ⟨⟨u, r1, rfl, u0, u1, hu⟩, hv5⟩
  clear C_0 C_1 C_f0 C_f1 C_t
  clear E_0 E_1 E_f0 E_f1 E_t
  replace C := C.more hv5
  replace E := E.more hv5
  have zhv5 := hv5.size
  clear hv5
  have C_0 := C.cells 0 _ rfl
  have C_1 := C.cells 1 _ rfl
  have C_f0 := C.free 0 (by simp)
  have C_f1 := C.free 1 (by simp)
  have C_t := C.there
  have E_0 := E.cells 0 _ rfl
  have E_1 := E.cells 1 _ rfl
  have E_f0 := E.free 0 (by simp)
  have E_f1 := E.free 1 (by simp)
  have E_t := E.there
  have HU := Lib.hid hu; clear hu
  go_wp2_with fail
  clear C_0 C_1 C_f0 C_f1 C_t
  clear E_0 E_1 E_f0 E_f1 E_t
  have C_t6 := C.there
  have E_t6 := E.there
  have C' : Box (w.heap.size) [.int .i64 0, .int .i64 0] w _ := (C.far E.base (by omega) 0 (.int .i64 u))
  have E' : Box (v3.heap.size) [.int .i64 u, .int .i64 0] w _ := (E.set 0 (.int .i64 u))
  clear C; have C := C'; clear C'
  clear E; have E := E'; clear E'
  have sz6 : (v5.setCell ⟨v3.heap.size, 0, none⟩ (.int .i64 u)).heap.size = v5.heap.size := by simp only [size_set']
  generalize (v5.setCell ⟨v3.heap.size, 0, none⟩ (.int .i64 u)) = W6 at C E sz6 ⊢
  replace sz6 := Lib.hid sz6
  have C_0 := C.cells 0 _ rfl
  have C_1 := C.cells 1 _ rfl
  have C_f0 := C.free 0 (by simp)
  have C_f1 := C.free 1 (by simp)
  have C_t := C.there
  have E_0 := E.cells 0 _ rfl
  have E_1 := E.cells 1 _ rfl
  have E_f0 := E.free 0 (by simp)
  have E_f1 := E.free 1 (by simp)
  have E_t := E.there
  go_wp2_with fail
  refine (atoi_any (cu2 s) _ (by omega) (HVr.out.below C.below)).mono ?_
  rintro e v7 ⟨⟨t, r2, rfl, t0, t1, hu⟩, hv7⟩
  clear C_0 C_1 C_f0 C_f1 C_t
  clear E_0 E_1 E_f0 E_f1 E_t
  replace C := C.more hv7
  replace E := E.more hv7
  have zhv7 := hv7.size
  clear hv7
  have C_0 := C.cells 0 _ rfl
  have C_1 := C.cells 1 _ rfl
  have C_f0 := C.free 0 (by simp)
  have C_f1 := C.free 1 (by simp)
  have C_t := C.there
  have E_0 := E.cells 0 _ rfl
  have E_1 := E.cells 1 _ rfl
  have E_f0 := E.free 0 (by simp)
  have E_f1 := E.free 1 (by simp)
  have E_t := E.there
  have HX := Lib.hid (show ∀ p q, Is s p q → u = p ∧ t = q from fun p q h => by
    obtain ⟨p0, p1, q0, q1⟩ := h.bd
    have e1 := HU.out p.toNat (by omega) h.cut.1
    have e2 := hu q.toNat (by omega) h.cut.2
    omega)
  clear hu HU
  go_wp2_with fail
  clear C_0 C_1 C_f0 C_f1 C_t
  clear E_0 E_1 E_f0 E_f1 E_t
  have C_t8 := C.there
  have E_t8 := E.there
  have C' : Box (w.heap.size) [.int .i64 0, .int .i64 0] w _ := (C.far E.base (by omega) 1 (.int .i64 t))
  have E' : Box (v3.heap.size) [.int .i64 u, .int .i64 t] w _ := (E.set 1 (.int .i64 t))
  clear C; have C := C'; clear C'
  clear E; have E := E'; clear E'
  have sz8 : (v7.setCell ⟨v3.heap.size, 1, none⟩ (.int .i64 t)).heap.size = v7.heap.size := by simp only [size_set']
  generalize (v7.setCell ⟨v3.heap.size, 1, none⟩ (.int .i64 t)) = W8 at C E sz8 ⊢
  replace sz8 := Lib.hid sz8
  have C_0 := C.cells 0 _ rfl
  have C_1 := C.cells 1 _ rfl
  have C_f0 := C.free 0 (by simp)
  have C_f1 := C.free 1 (by simp)
  have C_t := C.there
  have E_0 := E.cells 0 _ rfl
  have E_1 := E.cells 1 _ rfl
  have E_f0 := E.free 0 (by simp)
  have E_f1 := E.free 1 (by simp)
  have E_t := E.there
  go_wp2_with fail
  refine (btext_impl u t _ (HTb.out.below C.below)).mono ?_
  rintro e v9 ⟨rfl, hv9⟩
  clear C_0 C_1 C_f0 C_f1 C_t
  clear E_0 E_1 E_f0 E_f1 E_t
  replace C := C.more hv9
  replace E := E.more hv9
  have zhv9 := hv9.size
  clear hv9
  have C_0 := C.cells 0 _ rfl
  have C_1 := C.cells 1 _ rfl
  have C_f0 := C.free 0 (by simp)
  have C_f1 := C.free 1 (by simp)
  have C_t := C.there
  have E_0 := E.cells 0 _ rfl
  have E_1 := E.cells 1 _ rfl
  have E_f0 := E.free 0 (by simp)
  have E_f1 := E.free 1 (by simp)
  have E_t := E.there
  cases hok : okB u t
  · rw [txt_no hok]
    go_wp2
    clear C_0 C_1 C_f0 C_f1 C_t
    clear E_0 E_1 E_f0 E_f1 E_t
    have C_t10 := C.there
    have E_t10 := E.there
    have C' : Box (w.heap.size) [.int .i64 0, .int .i64 0] w _ := ((C.set 0 (.int .i64 0)).set 1 (.int .i64 0))
    have E' : Box (v3.heap.size) [.int .i64 u, .int .i64 t] w _ := ((E.far C.base (by omega) 0 (.int .i64 0)).far C.base (by omega) 1 (.int .i64 0))
    clear C; have C := C'; clear C'
    clear E; have E := E'; clear E'
    have sz10 : ((v9.setCell ⟨w.heap.size, 0, none⟩ (.int .i64 0)).setCell ⟨w.heap.size, 1, none⟩ (.int .i64 0)).heap.size = v9.heap.size := by simp only [size_set']
    generalize ((v9.setCell ⟨w.heap.size, 0, none⟩ (.int .i64 0)).setCell ⟨w.heap.size, 1, none⟩ (.int .i64 0)) = W10 at C E sz10 ⊢
    replace sz10 := Lib.hid sz10
    have C_0 := C.cells 0 _ rfl
    have C_1 := C.cells 1 _ rfl
    have C_f0 := C.free 0 (by simp)
    have C_f1 := C.free 1 (by simp)
    have C_t := C.there
    have E_0 := E.cells 0 _ rfl
    have E_1 := E.cells 1 _ rfl
    have E_f0 := E.free 0 (by simp)
    have E_f1 := E.free 1 (by simp)
    have E_t := E.there
    exact bodyPost_ret (v := .tuple #[br 0 0, .bool false]) (by simp [br, results, Tryd.results7, go_sem, C_0, C_1]) rfl (pb_no (fun p q h => by obtain ⟨rfl, rfl⟩ := HX.out p q h; have := h.1; rw [hok] at this; cases this) rfl C.below)
  rw [txt_yes hok]
  obtain ⟨T, hT⟩ : ∃ T, T = txt u t := ⟨_, rfl⟩
  rw [← hT]
  have HT := Lib.hid hT; clear hT
  go_wp2
  · have hh : (!(T.toList == s.toList)) = true := by assumption
    clear C_0 C_1 C_f0 C_f1 C_t
    clear E_0 E_1 E_f0 E_f1 E_t
    have C_t11 := C.there
    have E_t11 := E.there
    have C' : Box (w.heap.size) [.int .i64 0, .int .i64 0] w _ := ((C.set 0 (.int .i64 0)).set 1 (.int .i64 0))
    have E' : Box (v3.heap.size) [.int .i64 u, .int .i64 t] w _ := ((E.far C.base (by omega) 0 (.int .i64 0)).far C.base (by omega) 1 (.int .i64 0))
    clear C; have C := C'; clear C'
    clear E; have E := E'; clear E'
    have sz11 : ((v9.setCell ⟨w.heap.size, 0, none⟩ (.int .i64 0)).setCell ⟨w.heap.size, 1, none⟩ (.int .i64 0)).heap.size = v9.heap.size := by simp only [size_set']
    generalize ((v9.setCell ⟨w.heap.size, 0, none⟩ (.int .i64 0)).setCell ⟨w.heap.size, 1, none⟩ (.int .i64 0)) = W11 at C E sz11 ⊢
    replace sz11 := Lib.hid sz11
    have C_0 := C.cells 0 _ rfl
    have C_1 := C.cells 1 _ rfl
    have C_f0 := C.free 0 (by simp)
    have C_f1 := C.free 1 (by simp)
    have C_t := C.there
    have E_0 := E.cells 0 _ rfl
    have E_1 := E.cells 1 _ rfl
    have E_f0 := E.free 0 (by simp)
    have E_f1 := E.free 1 (by simp)
    have E_t := E.there
    exact bodyPost_ret (v := .tuple #[br 0 0, .bool false]) (by simp [br, results, Tryd.results7, go_sem, C_0, C_1]) rfl (pb_no (fun p q h => str_ne_true hh (by obtain ⟨rfl, rfl⟩ := HX.out p q h; rw [HT.out, h.2])) rfl C.below)
  · have hh : (!(T.toList == s.toList)) = false := by assumption
    clear C_0 C_1 C_f0 C_f1 C_t
    clear E_0 E_1 E_f0 E_f1 E_t
    have C_t12 := C.there
    have E_t12 := E.there
    have C' : Box (w.heap.size) [.int .i64 u, .int .i64 t] w _ := ((C.set 0 (.int .i64 u)).set 1 (.int .i64 t))
    have E' : Box (v3.heap.size) [.int .i64 u, .int .i64 t] w _ := ((E.far C.base (by omega) 0 (.int .i64 u)).far C.base (by omega) 1 (.int .i64 t))
    clear C; have C := C'; clear C'
    clear E; have E := E'; clear E'
    have sz12 : ((v9.setCell ⟨w.heap.size, 0, none⟩ (.int .i64 u)).setCell ⟨w.heap.size, 1, none⟩ (.int .i64 t)).heap.size = v9.heap.size := by simp only [size_set']
    generalize ((v9.setCell ⟨w.heap.size, 0, none⟩ (.int .i64 u)).setCell ⟨w.heap.size, 1, none⟩ (.int .i64 t)) = W12 at C E sz12 ⊢
    replace sz12 := Lib.hid sz12
    have C_0 := C.cells 0 _ rfl
    have C_1 := C.cells 1 _ rfl
    have C_f0 := C.free 0 (by simp)
    have C_f1 := C.free 1 (by simp)
    have C_t := C.there
    have E_0 := E.cells 0 _ rfl
    have E_1 := E.cells 1 _ rfl
    have E_f0 := E.free 0 (by simp)
    have E_f1 := E.free 1 (by simp)
    have E_t := E.there
    exact bodyPost_ret (v := .tuple #[br u t, .bool true]) (by simp [br, results, Tryd.results7, go_sem, C_0, C_1]) rfl (pb_yes ⟨hok, by rw [← str_ne_false hh, HT.out]⟩ rfl C.below)
/-! ### the law -/
theorem pb_form {s : ByteArray} : ∃ v : Value, (∃ x y q, v = .tuple #[br x y, .bool q]) ∧ ∀ (w : World) (e : Ending) (w' : World), PbPost s w e w' → e = .returned v ∧ Below w.heap.size w w' := by
  by_cases h : ∃ a b, Is s a b
  · obtain ⟨a, b, hi⟩ := h
    refine ⟨.tuple #[br a b, .bool true], ⟨_, _, _, rfl⟩, fun w e w' hp => ⟨?_, hp.2⟩⟩
    rcases hp.1 with ⟨c, d, hk, he⟩ | ⟨hn, _⟩
    · obtain ⟨rfl, rfl⟩ := hi.inj hk; exact he
    · exact absurd hi (hn a b)
  · refine ⟨.tuple #[br 0 0, .bool false], ⟨_, _, _, rfl⟩, fun w e w' hp => ⟨?_, hp.2⟩⟩
    rcases hp.1 with ⟨c, d, hk, _⟩ | ⟨_, he⟩
    · exact absurd ⟨c, d, hk⟩ h
    · exact he
end Go.Proofs.YtpblkkfafmcnpaaDoor.Pbr
