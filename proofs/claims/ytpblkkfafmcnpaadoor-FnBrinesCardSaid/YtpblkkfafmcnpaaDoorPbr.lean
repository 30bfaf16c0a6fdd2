/- ParseBrine: the brine whose text this is; the model's side. -/
import Derived.Test.YtpblkkfafmcnpaaDoorText
import Derived.Test.YtpblkkfafmcnpaaDoorRead0
import Derived.Test.YtpblkkfafmcnpaaDoorSplit
import Derived.Test.YtpblkkfafmcnpaaDoorRegn2
namespace Go.Proofs.YtpblkkfafmcnpaaDoor.Pbr
open Go.RowKit Go.Proofs.YtpblkkfafmcnpaaDoor.Mem Go.Proofs.YtpblkkfafmcnpaaDoor.Base Go.Proofs.YtpblkkfafmcnpaaDoor.Brine Go.Proofs.YtpblkkfafmcnpaaDoor.Regn Go.Proofs.YtpblkkfafmcnpaaDoor.Boxes Go.Proofs.YtpblkkfafmcnpaaDoor.IBrine Go.Proofs.YtpblkkfafmcnpaaDoor.Num Go.Proofs.YtpblkkfafmcnpaaDoor.Text Go.Proofs.YtpblkkfafmcnpaaDoor.Parse Go.Proofs.YtpblkkfafmcnpaaDoor.Split Go.Proofs.YtpblkkfafmcnpaaDoor.Strs
set_option linter.unusedVariables false
set_option maxRecDepth 100000
/-! ### plain -/
theorem sp_all (b : UInt8) (l : List UInt8) (h : b ∉ l) : sp b l = [l] := by
  induction l with
  | nil => rfl
  | cons c l ih =>
    have hc : c ≠ b := fun e => h (by simp [e])
    unfold sp
    rw [if_neg hc, ih (fun hm => h (List.mem_cons_of_mem _ hm))]
theorem sp_cut (b : UInt8) (p r : List UInt8) (h : b ∉ p) : sp b (p ++ b :: r) = p :: sp b r := by
  induction p with
  | nil => simp [sp]
  | cons c p ih =>
    have hc : c ≠ b := fun e => h (by simp [e])
    rw [List.cons_append, sp, if_neg hc, ih (fun hm => h (List.mem_cons_of_mem _ hm))]
theorem txt_list (a b : Int) : (txt a b).data.toList = 119 :: (Lib.itoa a ++ 32 :: 115 :: Lib.itoa b) := by
  simp [txt, numS]
theorem itoa_pos (a : Int) (ha : 0 ≤ a) : Lib.itoa a = Lib.decDigits a.toNat := by
  have := itoa_nat a.toNat
  rwa [Int.toNat_of_nonneg ha] at this
theorem no_byte (a : Int) (ha : 0 ≤ a) (c : UInt8) (hc : c.toNat < 48) : c ∉ Lib.itoa a := by
  rw [itoa_pos a ha]
  intro h
  have := dec_dig _ c h
  unfold dig at this; omega
/-- s is the text of the valid brine a, b. -/
def Is (s : ByteArray) (a b : Int) : Prop := okB a b = true ∧ s = txt a b
theorem Is.bd {s : ByteArray} {a b : Int} (h : Is s a b) : 0 ≤ a ∧ a ≤ 1000000 ∧ 0 ≤ b ∧ b ≤ 1000000 := okB_true h.1
theorem Is.list {s : ByteArray} {a b : Int} (h : Is s a b) : s.data.toList = 119 :: (Lib.decDigits a.toNat ++ 32 :: 115 :: Lib.decDigits b.toNat) := by
  obtain ⟨h0, _, h1, _⟩ := h.bd
  rw [h.2, txt_list, itoa_pos a h0, itoa_pos b h1]
theorem Is.words {s : ByteArray} {a b : Int} (h : Is s a b) : sp 32 s.data.toList = [119 :: Lib.decDigits a.toNat, 115 :: Lib.decDigits b.toNat] := by
  obtain ⟨h0, _, h1, _⟩ := h.bd
  have n1 : (32 : UInt8) ∉ 119 :: Lib.decDigits a.toNat := by
    have := no_byte a h0 32 (by decide); rw [itoa_pos a h0] at this
    simpa using this
  have n2 : (32 : UInt8) ∉ 115 :: Lib.decDigits b.toNat := by
    have := no_byte b h1 32 (by decide); rw [itoa_pos b h1] at this
    simpa using this
  rw [h.list, show (119 :: (Lib.decDigits a.toNat ++ 32 :: 115 :: Lib.decDigits b.toNat) : List UInt8) = (119 :: Lib.decDigits a.toNat) ++ 32 :: (115 :: Lib.decDigits b.toNat) from rfl, sp_cut 32 _ _ n1, sp_all 32 _ n2]
theorem cut_eq {a b r s : List UInt8} (ha : (32 : UInt8) ∉ a) (hb : (32 : UInt8) ∉ b) (h : a ++ 32 :: r = b ++ 32 :: s) : a = b ∧ r = s := by
  induction a generalizing b with
  | nil =>
    cases b with
    | nil => simpa using h
    | cons c b => simp at h; exact absurd h.1 (fun e => hb (by simp [← e]))
  | cons c a ih =>
    cases b with
    | nil => simp at h; exact absurd h.1 (fun e => ha (by simp [e]))
    | cons d b =>
      simp only [List.cons_append, List.cons.injEq] at h
      obtain ⟨rfl, h2⟩ := h
      obtain ⟨rfl, h3⟩ := ih (fun hm => ha (List.mem_cons_of_mem _ hm)) (fun hm => hb (List.mem_cons_of_mem _ hm)) h2
      exact ⟨rfl, h3⟩
theorem Is.inj {s : ByteArray} {a b c d : Int} (h : Is s a b) (k : Is s c d) : a = c ∧ b = d := by
  obtain ⟨h0, _, h1, _⟩ := h.bd
  obtain ⟨k0, _, k1, _⟩ := k.bd
  have e := h.words.symm.trans k.words
  simp only [List.cons.injEq, true_and, and_true] at e
  have e1 := congrArg val e.1; have e2 := congrArg val e.2
  rw [dec_val, dec_val] at e1 e2
  omega
/-- What both answer. -/
def PbPost (s : ByteArray) (w : World) (e : Ending) (w' : World) : Prop :=
  ((∃ a b, Is s a b ∧ e = .returned (.tuple #[br a b, .bool true])) ∨ ((∀ a b, ¬ Is s a b) ∧ e = .returned (.tuple #[br 0 0, .bool false]))) ∧ Below w.heap.size w w'
theorem pb_no {s : ByteArray} {w w' : World} {v : Value} (h : ∀ a b, ¬ Is s a b) (hv : v = .tuple #[br 0 0, .bool false]) (hw : Below w.heap.size w w') : PbPost s w (.returned v) w' := ⟨.inr ⟨h, by rw [hv]⟩, hw⟩
theorem pb_yes {s : ByteArray} {a b : Int} {w w' : World} {v : Value} (h : Is s a b) (hv : v = .tuple #[br a b, .bool true]) (hw : Below w.heap.size w w') : PbPost s w (.returned v) w' := ⟨.inl ⟨a, b, h, by rw [hv]⟩, hw⟩

/-! ### the model's reader -/
def rdV (l : List UInt8) : Int := if (l.all fun c => decide (48 ≤ c.toNat ∧ c.toNat ≤ 57)) = true ∧ l.length ≤ 7 ∧ l ≠ [] then (val l : Int) else -1
theorem rdV_dec (n : Nat) (h : n ≤ 1000000) : rdV (Lib.decDigits n) = n := by
  have h1 : (Lib.decDigits n).length ≤ 7 := dec_le 6 n (by omega)
  have h2 := dec_pos n
  unfold rdV
  rw [if_pos ⟨List.all_eq_true.2 fun c hc => decide_eq_true (show 48 ≤ c.toNat ∧ c.toNat ≤ 57 from dec_dig n c hc), h1, fun e => by rw [e] at h2; simp at h2⟩, dec_val]
theorem rdV_bd (l : List UInt8) : -1 ≤ rdV l ∧ rdV l ≤ 9999999 := by
  unfold rdV; split
  · rename_i h
    have h1 := val_lt l fun c hc => by have h2 : decide (48 ≤ c.toNat ∧ c.toNat ≤ 57) = true := List.all_eq_true.1 h.1 c hc; show 48 ≤ c.toNat ∧ c.toNat ≤ 57; exact of_decide_eq_true h2
    have h3 : 10 ^ l.length ≤ 10 ^ 7 := Nat.pow_le_pow_right (by omega) h.2.1
    omega
  · omega
def RdPost (s : ByteArray) (w : World) (e : Ending) (w' : World) : Prop := e = .returned (.int .i64 (rdV s.data.toList)) ∧ w = w'
theorem rd_bad {s : ByteArray} {w : World} {v : Value} (hv : v = .int .i64 (-1)) (h : ¬ ((s.data.toList.all fun c => decide (48 ≤ c.toNat ∧ c.toNat ≤ 57)) = true ∧ s.data.toList.length ≤ 7 ∧ s.data.toList ≠ [])) : RdPost s w (.returned v) w := ⟨by rw [hv, rdV, if_neg h], rfl⟩
theorem rd_good {s : ByteArray} {n : Nat} {w : World} {v : Value} (hv : v = .int .i64 n) (hn : n = val (s.data.toList.take s.size)) (hd : ∀ c ∈ s.data.toList.take s.size, dig c) (h7 : s.size ≤ 7) (h0 : ¬ s.size = 0) : RdPost s w (.returned v) w := by
  have e : s.data.toList.take s.size = s.data.toList := List.take_of_length_le (by simp)
  rw [e] at hn hd
  refine ⟨?_, rfl⟩
  rw [hv, rdV, if_pos ⟨List.all_eq_true.2 fun c hc => decide_eq_true (show 48 ≤ c.toNat ∧ c.toNat ≤ 57 from hd c hc), by simpa using h7, fun e => h0 (by rw [size_list s _ rfl, e]; rfl)⟩, hn]
theorem rd_dig {s : ByteArray} {k : Nat} (h : k < s.size) (ha : (s.data.toList.all fun c => decide (48 ≤ c.toNat ∧ c.toNat ≤ 57)) = true) : 48 ≤ s[k].toNat ∧ s[k].toNat ≤ 57 :=
  of_decide_eq_true (List.all_eq_true.1 ha _ (List.mem_of_getElem? (at_list s k h _ rfl)))
theorem l2read_le {t : ByteArray} {k n : Nat} (h6 : k ≤ 6) (hv : n = val (t.data.toList.take (k + 1))) (ha : ∀ c ∈ t.data.toList.take (k + 1), dig c) : n ≤ 9999999 := by
  have h1 := val_lt _ ha
  have h2 : (t.data.toList.take (k + 1)).length ≤ 7 := by simp; omega
  have h3 : 10 ^ (t.data.toList.take (k + 1)).length ≤ 10 ^ 7 := Nat.pow_le_pow_right (by omega) h2
  omega
set_option maxHeartbeats 1000000 in
theorem l2read_spec (s : ByteArray) (w : World) (hs : s.size ≤ 1048576) : Calls Tryd.prog 34 #[.string s] w (RdPost s w) := by
  go_enter Tryd.func34, Tryd.ntmps34
  go_wp2
  go_loop [3, 4] (fun n i => ∃ k : Nat, k ≤ s.size ∧ k ≤ 7 ∧ i = .int .i64 k ∧ ∃ nv : Nat, n = .int .i64 (nv : Int) ∧ nv = val (s.data.toList.take k) ∧ nv ≤ 9999999 ∧ ∀ c ∈ s.data.toList.take k, dig c) (fun _ i => s.size - (intOf i).toNat)
  case atStart => exact ⟨0, Nat.zero_le _, by omega, rfl, 0, rfl, by simp [val], by omega, by simp⟩
  case round =>
    obtain ⟨k, hk, hk7, rfl, nv, rfl, hv, hn, hall⟩ := hrel
    have HV := Lib.hid hv; clear hv
    have HA := Lib.hid hall; clear hall
    by_cases hlt : k < s.size
    · have hc := s[k].toNat_lt
      by_cases hd1 : 48 ≤ s[k].toNat
      · by_cases hd2 : s[k].toNat ≤ 57
        · by_cases h6 : k ≤ 6
          · have HS := Lib.hid (scan_step hlt HV.out HA.out ⟨hd1, hd2⟩)
            have hle := l2read_le h6 HS.out.1 HS.out.2
            go_wp2
            go_round
            case rel => exact ⟨k + 1, by omega, by omega, by go_num, 10 * nv + (s[k].toNat - 48), scan_num hd1, HS.out.1, hle, HS.out.2⟩
            case measure => simp [intOf]; omega
          · go_wp2
            go_ret
            exact rd_bad rfl (fun h => by have h1 := size_list s _ rfl; omega)
        · have hd2' : decide ((57 : Int) < s[k].toNat) = true := decide_eq_true (by omega)
          go_wp2
          go_ret
          exact rd_bad rfl (fun h => by have := rd_dig hlt h.1; omega)
      · go_wp2
        go_ret
        exact rd_bad rfl (fun h => by have := rd_dig hlt h.1; omega)
    · have hks : k = s.size := by omega
      subst hks
      by_cases h0 : s.size = 0
      · have hz : ((s.size : Int) == 0) = true := by rw [beq_iff_eq]; omega
        have H0 := Lib.hid h0; clear h0
        go_wp2
        go_ret
        exact rd_bad rfl (fun h => h.2.2 (List.eq_nil_of_length_eq_zero (by rw [← size_list s _ rfl]; exact H0.out)))
      · have hz : ((s.size : Int) == 0) = false := by rw [beq_eq_false_iff_ne]; omega
        have H0 := Lib.hid h0; clear h0
        go_wp2
        go_ret
        exact rd_good rfl HV.out HA.out hk7 H0.out
theorem sp_len (b : UInt8) (l : List UInt8) : ∀ p ∈ sp b l, p.length ≤ l.length := by
  induction l with
  | nil => intro p hp; simp [sp] at hp; simp [hp]
  | cons c l ih =>
    intro p hp
    unfold sp at hp
    split at hp
    · rcases List.mem_cons.1 hp with rfl | hp
      · simp
      · have := ih p hp; simp; omega
    · split at hp
      · simp at hp; simp [hp]
      · rename_i x r hx
        rcases List.mem_cons.1 hp with rfl | hp
        · have := ih x (by rw [hx]; simp); simpa using this
        · have := ih p (by rw [hx]; simp [hp]); simp; omega
set_option maxHeartbeats 1000000 in
theorem pb_spec (s : ByteArray) (w : World) (hs : s.size ≤ 1048576) : Calls Tryd.prog 11 #[.string s] w (PbPost s w) := by
  go_enter Tryd.func11, Tryd.ntmps11
  go_wp2_with fail
  have C := Box.new (Below.refl _ w) [.int .i64 0, .int .i64 0] 25 (g := w.heap.size) rfl
  generalize (w.alloc (.cells #[.int .i64 0, .int .i64 0] 25)) = W1 at C ⊢
  have C_0 := C.cells 0 _ rfl
  have C_1 := C.cells 1 _ rfl
  have C_f0 := C.free 0 (by simp)
  have C_f1 := C.free 1 (by simp)
  have C_t := C.there
  go_wp2_with fail
  refine (split_spec s 32 _ hs).mono ?_
  rintro e v2 ⟨ss, A, c, rfl, hl, O, hv2⟩
  clear C_0 C_1 C_f0 C_f1 C_t
  replace C := C.more hv2
  have zhv2 := hv2.size
  clear hv2
  have C_0 := C.cells 0 _ rfl
  have C_1 := C.cells 1 _ rfl
  have C_f0 := C.free 0 (by simp)
  have C_f1 := C.free 1 (by simp)
  have C_t := C.there
  have HL := Lib.hid hl; clear hl
  by_cases h2 : ss.length = 2
  · obtain ⟨x, y, rfl⟩ : ∃ x y, ss = [x, y] := by
      match ss, h2 with
      | [x, y], _ => exact ⟨x, y, rfl⟩
    have hW : ∀ a b, Is s a b → x.data.toList = 119 :: Lib.decDigits a.toNat ∧ y.data.toList = 115 :: Lib.decDigits b.toNat := fun a b h => by
      have e := HL.out.trans h.words; simpa [listOf] using e
    have HW := Lib.hid hW; clear hW
    have hxs : x.size ≤ s.size := by
      have := sp_len 32 s.data.toList x.data.toList (by rw [← HL.out]; simp [listOf]); rw [size_list x _ rfl, size_list s _ rfl]; exact this
    have hys : y.size ≤ s.size := by
      have := sp_len 32 s.data.toList y.data.toList (by rw [← HL.out]; simp [listOf]); rw [size_list y _ rfl, size_list s _ rfl]; exact this
    have RD := Rd.of_own O
    obtain ⟨b, o, rfl, hb, _⟩ := RD.at (k := 0) (by simp [strv])
    clear h2 O
    have RD_0 := rd_get0 RD rfl
    have RD_1 := rd_get1 RD rfl
    have RD_t := rd_lt RD rfl
    by_cases hx2 : x.size < 2
    · go_wp2
      clear C_0 C_1 C_f0 C_f1 C_t
      clear RD_0 RD_1 RD_t
      have C_t3 := C.there
      have C' : Box (w.heap.size) [.int .i64 0, .int .i64 0] w _ := ((C.set 0 (.int .i64 0)).set 1 (.int .i64 0))
      clear C; have C := C'; clear C'
      have sz3 : ((v2.setCell ⟨w.heap.size, 0, none⟩ (.int .i64 0)).setCell ⟨w.heap.size, 1, none⟩ (.int .i64 0)).heap.size = v2.heap.size := by simp only [size_set']
      generalize ((v2.setCell ⟨w.heap.size, 0, none⟩ (.int .i64 0)).setCell ⟨w.heap.size, 1, none⟩ (.int .i64 0)) = W3 at C sz3 ⊢
      replace sz3 := Lib.hid sz3
      have C_0 := C.cells 0 _ rfl
      have C_1 := C.cells 1 _ rfl
      have C_f0 := C.free 0 (by simp)
      have C_f1 := C.free 1 (by simp)
      have C_t := C.there
      have RD_0 := rd_get0 RD rfl
      have RD_1 := rd_get1 RD rfl
      have RD_t := rd_lt RD rfl
      exact bodyPost_ret (v := .tuple #[br 0 0, .bool false]) (by simp [br, results, Tryd.results11, go_sem, C_0, C_1]) rfl (pb_no (fun p q h => by have h1 := size_list x _ (HW.out p q h).1; have h3 := dec_pos p.toNat; simp at h1; omega) rfl C.below)
    by_cases hy2 : y.size < 2
    · go_wp2
      clear C_0 C_1 C_f0 C_f1 C_t
      clear RD_0 RD_1 RD_t
      have C_t4 := C.there
      have C' : Box (w.heap.size) [.int .i64 0, .int .i64 0] w _ := ((C.set 0 (.int .i64 0)).set 1 (.int .i64 0))
      clear C; have C := C'; clear C'
      have sz4 : ((v2.setCell ⟨w.heap.size, 0, none⟩ (.int .i64 0)).setCell ⟨w.heap.size, 1, none⟩ (.int .i64 0)).heap.size = v2.heap.size := by simp only [size_set']
      generalize ((v2.setCell ⟨w.heap.size, 0, none⟩ (.int .i64 0)).setCell ⟨w.heap.size, 1, none⟩ (.int .i64 0)) = W4 at C sz4 ⊢
      replace sz4 := Lib.hid sz4
      have C_0 := C.cells 0 _ rfl
      have C_1 := C.cells 1 _ rfl
      have C_f0 := C.free 0 (by simp)
      have C_f1 := C.free 1 (by simp)
      have C_t := C.there
      have RD_0 := rd_get0 RD rfl
      have RD_1 := rd_get1 RD rfl
      have RD_t := rd_lt RD rfl
      exact bodyPost_ret (v := .tuple #[br 0 0, .bool false]) (by simp [br, results, Tryd.results11, go_sem, C_0, C_1]) rfl (pb_no (fun p q h => by have h1 := size_list y _ (HW.out p q h).2; have h3 := dec_pos q.toNat; simp at h1; omega) rfl C.below)
    have hv1 : ((x.extract 1 x.size).data.toList) = x.data.toList.drop 1 := by rw [extract_list, List.take_of_length_le (by simp)]
    have hv2 : ((y.extract 1 y.size).data.toList) = y.data.toList.drop 1 := by rw [extract_list, List.take_of_length_le (by simp)]
    have sv1 : (x.extract 1 x.size).size ≤ 1048576 := by simp; omega
    have sv2 : (y.extract 1 y.size).size ≤ 1048576 := by simp; omega
    have HX := Lib.hid (show ∀ p q, Is s p q → rdV (x.extract 1 x.size).data.toList = p ∧ rdV (y.extract 1 y.size).data.toList = q from fun p q h => by
      obtain ⟨p0, p1, q0, q1⟩ := h.bd
      rw [hv1, hv2, (HW.out p q h).1, (HW.out p q h).2]
      simp only [List.drop_succ_cons, List.drop_zero]
      rw [rdV_dec _ (by omega), rdV_dec _ (by omega)]; omega)
    clear hv1 hv2
    have H1 := Lib.hid (l2read_spec (x.extract 1 x.size) · sv1)
    have H2 := Lib.hid (l2read_spec (y.extract 1 y.size) · sv2)
    obtain ⟨u0, u1⟩ := rdV_bd (x.extract 1 x.size).data.toList
    obtain ⟨t0, t1⟩ := rdV_bd (y.extract 1 y.size).data.toList
    unfold RdPost at H1 H2
    generalize rdV (x.extract 1 x.size).data.toList = u at H1 HX u0 u1
    generalize rdV (y.extract 1 y.size).data.toList = t at H2 HX t0 t1
    clear sv1 sv2
    have i1 : (1 : Int) ≤ (x.size : Int) := by omega
    have i2 : (1 : Int) ≤ (y.size : Int) := by omega
    go_wp2
    clear C_0 C_1 C_f0 C_f1 C_t
    clear RD_0 RD_1 RD_t
    obtain ⟨v5, hV5⟩ : ∃ V : World, V = v2.drew := ⟨_, rfl⟩
    replace C : Box (w.heap.size) [.int .i64 0, .int .i64 0] w v5 := by rw [hV5]; exact C.drew
    replace RD : Rd v5 v5.heap.size (some ⟨b, o, none⟩) (strv [x, y]) := by rw [hV5]; exact rd_keep RD (Below.refl _ _).drew
    refine wp_region_tail 12 (fun L w' => Pin (L 11) v5 (v5.alloc (.cells #[.int .i64 0, .int .i64 0] 25)) w') (by kernel_rfl) (by kernel_rfl) (by kernel_rfl) (by rw [← hV5]; exact Pin.start _ _) ?_
    clear hV5
    have C_0 := C.cells 0 _ rfl
    have C_1 := C.cells 1 _ rfl
    have C_f0 := C.free 0 (by simp)
    have C_f1 := C.free 1 (by simp)
    have C_t := C.there
    have RD_0 := rd_get0 RD rfl
    have RD_1 := rd_get1 RD rfl
    have RD_t := rd_lt RD rfl
    simp only [List.take_succ_cons, List.take_zero]
    iterate 12 (
      apply SeqH.op
      · intro L uw K hN hS hK
        first
          | (go_simp; exact hK.out _ (hS.skip (by decide)))
          | (have hE := (hS.2 (hN.out 11 (by decide +kernel))).symm; subst hE; clear hN; first | (go_simp; exact hK.out _ (hS.skip (by decide))) | (go_simp; go_at_call 34; (with_reducible refine (H1.out _).mono ?_); rintro e _ ⟨rfl, rfl⟩; go_wp2_with fail; exact hK.out _ (hS.skip (by decide))) | (go_simp; go_at_call 34; (with_reducible refine (H2.out _).mono ?_); rintro e _ ⟨rfl, rfl⟩; go_wp2_with fail; exact hK.out _ (hS.skip (by decide))) | (go_simp; exact hK.out _ Pin.put))
          | (rcases hS.two with hE | hE <;> (subst hE; clear hN; first | (go_simp; exact hK.out _ (hS.skip (by decide))) | (go_simp; go_at_call 34; (with_reducible refine (H1.out _).mono ?_); rintro e _ ⟨rfl, rfl⟩; go_wp2_with fail; exact hK.out _ (hS.skip (by decide))) | (go_simp; go_at_call 34; (with_reducible refine (H2.out _).mono ?_); rintro e _ ⟨rfl, rfl⟩; go_wp2_with fail; exact hK.out _ (hS.skip (by decide)))))
      try simp only [Act.put, List.setIfInBounds_toArray, List.set_cons_zero, List.set_cons_succ])
    refine SeqH.rest' rfl ?_
    intro L uv hL hS
    have hE := (hS.1 (hL 11 (by decide))).symm
    subst hE
    clear hS hL
    simp only [List.drop_succ_cons, List.drop_zero]
    go_wp2_with fail
    have C_t6 := C.there
    have E := Box.new C.below [.int .i64 u, .int .i64 t] 25 (g := v5.heap.size) rfl
    clear C_0 C_1 C_f0 C_f1 C_t
    replace C := (C).alloc (.cells #[.int .i64 u, .int .i64 t] 25)
    replace RD := rd_keep RD (al (Below.refl _ _) (o := (.cells #[.int .i64 u, .int .i64 t] 25)))
    generalize (v5.alloc (.cells #[.int .i64 u, .int .i64 t] 25)) = W6 at E C RD ⊢
    clear RD_0 RD_1 RD_t
    have C_0 := C.cells 0 _ rfl
    have C_1 := C.cells 1 _ rfl
    have C_f0 := C.free 0 (by simp)
    have C_f1 := C.free 1 (by simp)
    have C_t := C.there
    have E_0 := E.cells 0 _ rfl
    have E_1 := E.cells 1 _ rfl
    have E_f0 := E.free 0 (by simp)
    have E_f1 := E.free 1 (by simp)
    have E_t := E.there
    have RD_0 := rd_get0 RD rfl
    have RD_1 := rd_get1 RD rfl
    have RD_t := rd_lt RD rfl
    go_wp2_with fail
    refine (brine_spec u t _).mono ?_
    rintro e v7 ⟨rfl, hv7⟩
    clear C_0 C_1 C_f0 C_f1 C_t
    clear E_0 E_1 E_f0 E_f1 E_t
    clear RD_0 RD_1 RD_t
    replace C := C.more hv7
    replace E := E.more hv7
    replace RD := rd_keep RD hv7
    have zhv7 := hv7.size
    clear hv7
    have C_0 := C.cells 0 _ rfl
    have C_1 := C.cells 1 _ rfl
    have C_f0 := C.free 0 (by simp)
    have C_f1 := C.free 1 (by simp)
    have C_t := C.there
    have E_0 := E.cells 0 _ rfl
    have E_1 := E.cells 1 _ rfl
    have E_f0 := E.free 0 (by simp)
    have E_f1 := E.free 1 (by simp)
    have E_t := E.there
    have RD_0 := rd_get0 RD rfl
    have RD_1 := rd_get1 RD rfl
    have RD_t := rd_lt RD rfl
    cases hok : okB u t
    · go_wp2
      clear C_0 C_1 C_f0 C_f1 C_t
      clear E_0 E_1 E_f0 E_f1 E_t
      clear RD_0 RD_1 RD_t
      have C_t8 := C.there
      have E_t8 := E.there
      have C' : Box (w.heap.size) [.int .i64 0, .int .i64 0] w _ := ((C.set 0 (.int .i64 0)).set 1 (.int .i64 0))
      have E' : Box (v5.heap.size) [.int .i64 u, .int .i64 t] w _ := ((E.far C.base (by omega) 0 (.int .i64 0)).far C.base (by omega) 1 (.int .i64 0))
      clear C; have C := C'; clear C'
      clear E; have E := E'; clear E'
      have sz8 : ((v7.setCell ⟨w.heap.size, 0, none⟩ (.int .i64 0)).setCell ⟨w.heap.size, 1, none⟩ (.int .i64 0)).heap.size = v7.heap.size := by simp only [size_set']
      generalize ((v7.setCell ⟨w.heap.size, 0, none⟩ (.int .i64 0)).setCell ⟨w.heap.size, 1, none⟩ (.int .i64 0)) = W8 at C E sz8 ⊢
      replace sz8 := Lib.hid sz8
      have C_0 := C.cells 0 _ rfl
      have C_1 := C.cells 1 _ rfl
      have C_f0 := C.free 0 (by simp)
      have C_f1 := C.free 1 (by simp)
      have C_t := C.there
      have E_0 := E.cells 0 _ rfl
      have E_1 := E.cells 1 _ rfl
      have E_f0 := E.free 0 (by simp)
      have E_f1 := E.free 1 (by simp)
      have E_t := E.there
      have RD_0 := rd_get0 RD rfl
      have RD_1 := rd_get1 RD rfl
      have RD_t := rd_lt RD rfl
      exact bodyPost_ret (v := .tuple #[br 0 0, .bool false]) (by simp [br, results, Tryd.results11, go_sem, C_0, C_1]) rfl (pb_no (fun p q h => by obtain ⟨rfl, rfl⟩ := HX.out p q h; have := h.1; rw [hok] at this; cases this) rfl C.below)
    obtain ⟨hu0, hu1, ht0, ht1⟩ := okB_true hok
    go_wp2_with fail
    refine (text_spec u t hu0 hu1 ht0 ht1 _).mono ?_
    rintro e v9 ⟨rfl, hv9⟩
    clear C_0 C_1 C_f0 C_f1 C_t
    clear E_0 E_1 E_f0 E_f1 E_t
    clear RD_0 RD_1 RD_t
    replace C := C.more hv9
    replace E := E.more hv9
    replace RD := rd_keep RD hv9
    have zhv9 := hv9.size
    clear hv9
    have C_0 := C.cells 0 _ rfl
    have C_1 := C.cells 1 _ rfl
    have C_f0 := C.free 0 (by simp)
    have C_f1 := C.free 1 (by simp)
    have C_t := C.there
    have E_0 := E.cells 0 _ rfl
    have E_1 := E.cells 1 _ rfl
    have E_f0 := E.free 0 (by simp)
    have E_f1 := E.free 1 (by simp)
    have E_t := E.there
    have RD_0 := rd_get0 RD rfl
    have RD_1 := rd_get1 RD rfl
    have RD_t := rd_lt RD rfl
    obtain ⟨T, hT⟩ : ∃ T, T = txt u t := ⟨_, rfl⟩
    rw [← hT]
    have HT := Lib.hid hT; clear hT
    go_wp2
    · have hh : (!(T.toList == s.toList)) = true := by assumption
      clear C_0 C_1 C_f0 C_f1 C_t
      clear E_0 E_1 E_f0 E_f1 E_t
      clear RD_0 RD_1 RD_t
      have C_t10 := C.there
      have E_t10 := E.there
      have C' : Box (w.heap.size) [.int .i64 0, .int .i64 0] w _ := ((C.set 0 (.int .i64 0)).set 1 (.int .i64 0))
      have E' : Box (v5.heap.size) [.int .i64 u, .int .i64 t] w _ := ((E.far C.base (by omega) 0 (.int .i64 0)).far C.base (by omega) 1 (.int .i64 0))
      clear C; have C := C'; clear C'
      clear E; have E := E'; clear E'
      have sz10 : ((v9.setCell ⟨w.heap.size, 0, none⟩ (.int .i64 0)).setCell ⟨w.heap.size, 1, none⟩ (.int .i64 0)).heap.size = v9.heap.size := by simp only [size_set']
      generalize ((v9.setCell ⟨w.heap.size, 0, none⟩ (.int .i64 0)).setCell ⟨w.heap.size, 1, none⟩ (.int .i64 0)) = W10 at C E sz10 ⊢
      replace sz10 := Lib.hid sz10
      have C_0 := C.cells 0 _ rfl
      have C_1 := C.cells 1 _ rfl
      have C_f0 := C.free 0 (by simp)
      have C_f1 := C.free 1 (by simp)
      have C_t := C.there
      have E_0 := E.cells 0 _ rfl
      have E_1 := E.cells 1 _ rfl
      have E_f0 := E.free 0 (by simp)
      have E_f1 := E.free 1 (by simp)
      have E_t := E.there
      have RD_0 := rd_get0 RD rfl
      have RD_1 := rd_get1 RD rfl
      have RD_t := rd_lt RD rfl
      exact bodyPost_ret (v := .tuple #[br 0 0, .bool false]) (by simp [br, results, Tryd.results11, go_sem, C_0, C_1]) rfl (pb_no (fun p q h => str_ne_true hh (by obtain ⟨rfl, rfl⟩ := HX.out p q h; rw [HT.out, h.2])) rfl C.below)
    · have hh : (!(T.toList == s.toList)) = false := by assumption
      clear C_0 C_1 C_f0 C_f1 C_t
      clear E_0 E_1 E_f0 E_f1 E_t
      clear RD_0 RD_1 RD_t
      have C_t11 := C.there
      have E_t11 := E.there
      have C' : Box (w.heap.size) [.int .i64 u, .int .i64 t] w _ := ((C.set 0 (.int .i64 u)).set 1 (.int .i64 t))
      have E' : Box (v5.heap.size) [.int .i64 u, .int .i64 t] w _ := ((E.far C.base (by omega) 0 (.int .i64 u)).far C.base (by omega) 1 (.int .i64 t))
      clear C; have C := C'; clear C'
      clear E; have E := E'; clear E'
      have sz11 : ((v9.setCell ⟨w.heap.size, 0, none⟩ (.int .i64 u)).setCell ⟨w.heap.size, 1, none⟩ (.int .i64 t)).heap.size = v9.heap.size := by simp only [size_set']
      generalize ((v9.setCell ⟨w.heap.size, 0, none⟩ (.int .i64 u)).setCell ⟨w.heap.size, 1, none⟩ (.int .i64 t)) = W11 at C E sz11 ⊢
      replace sz11 := Lib.hid sz11
      have C_0 := C.cells 0 _ rfl
      have C_1 := C.cells 1 _ rfl
      have C_f0 := C.free 0 (by simp)
      have C_f1 := C.free 1 (by simp)
      have C_t := C.there
      have E_0 := E.cells 0 _ rfl
      have E_1 := E.cells 1 _ rfl
      have E_f0 := E.free 0 (by simp)
      have E_f1 := E.free 1 (by simp)
      have E_t := E.there
      have RD_0 := rd_get0 RD rfl
      have RD_1 := rd_get1 RD rfl
      have RD_t := rd_lt RD rfl
      exact bodyPost_ret (v := .tuple #[br u t, .bool true]) (by simp [br, results, Tryd.results11, go_sem, C_0, C_1]) rfl (pb_yes ⟨hok, by rw [← str_ne_false hh, HT.out]⟩ rfl C.below)
  · have hz : ((ss.length : Int) != 2) = true := by rw [bne_iff_ne]; omega
    have HN := Lib.hid (show ∀ a b, ¬ Is s a b from fun a b h => h2 (by have e := congrArg List.length (HL.out.trans h.words); simpa [listOf] using e))
    clear h2
    go_wp2
    clear C_0 C_1 C_f0 C_f1 C_t
    have C_t12 := C.there
    have C' : Box (w.heap.size) [.int .i64 0, .int .i64 0] w _ := ((C.set 0 (.int .i64 0)).set 1 (.int .i64 0))
    clear C; have C := C'; clear C'
    have sz12 : ((v2.setCell ⟨w.heap.size, 0, none⟩ (.int .i64 0)).setCell ⟨w.heap.size, 1, none⟩ (.int .i64 0)).heap.size = v2.heap.size := by simp only [size_set']
    generalize ((v2.setCell ⟨w.heap.size, 0, none⟩ (.int .i64 0)).setCell ⟨w.heap.size, 1, none⟩ (.int .i64 0)) = W12 at C sz12 ⊢
    replace sz12 := Lib.hid sz12
    have C_0 := C.cells 0 _ rfl
    have C_1 := C.cells 1 _ rfl
    have C_f0 := C.free 0 (by simp)
    have C_f1 := C.free 1 (by simp)
    have C_t := C.there
    exact bodyPost_ret (v := .tuple #[br 0 0, .bool false]) (by simp [br, results, Tryd.results11, go_sem, C_0, C_1]) rfl (pb_no HN.out rfl C.below)
end Go.Proofs.YtpblkkfafmcnpaaDoor.Pbr
