/- JoinStrings: the model's and the program's contract, each against one plain function of the elements and the separator. -/
import Derived.Test.YtggloekjjnhhjaaDoorStrs
import Derived.Test.YtggloekjjnhhjaaDoorShelf
import Derived.Test.YtggloekjjnhhjaaDoorBytes
import Derived.Lib.Join
namespace Go.Proofs.YtggloekjjnhhjaaDoor.Join
open Go.RowKit Go.Proofs.YtggloekjjnhhjaaDoor.Mem Go.Proofs.YtggloekjjnhhjaaDoor.Strs Go.Proofs.YtggloekjjnhhjaaDoor.Bytes
open Go.Lib (joinTail lens)
set_option linter.unusedVariables false

/-! ### the plain function -/
def jb (c : UInt8) : List (List UInt8) → List UInt8
  | [] => []
  | x :: r => x ++ joinTail [c] r
theorem jb_join (c : UInt8) (l : List (List UInt8)) : jb c l = Lib.join l [c] := by
  cases l with
  | nil => rfl
  | cons x r => exact (Lib.join_cons x r [c]).symm
theorem jb_snoc (c : UInt8) (l : List (List UInt8)) (k : Nat) (h : k < l.length) : jb c (l.take (k + 1)) = if k = 0 then l[k] else jb c (l.take k) ++ [c] ++ l[k] := by
  cases l with
  | nil => simp at h
  | cons x r =>
    cases k with
    | zero => simp [jb, joinTail]
    | succ k =>
      have hk : k < r.length := by simpa using h
      simp only [List.take_succ_cons, jb, List.getElem_cons_succ, Nat.add_one_ne_zero, if_false]
      rw [Lib.joinTail_take_succ [c] r k r[k] (List.getElem?_eq_getElem hk)]
      simp
theorem jb_len (c : UInt8) (l : List (List UInt8)) : (jb c l).length = (l.length - 1) + lens l := by
  cases l with
  | nil => simp [jb, lens]
  | cons x r => simp [jb, Lib.joinTail_length, lens]; omega
theorem lens_take_le (l : List (List UInt8)) (k : Nat) : lens (l.take k) ≤ lens l := by
  unfold lens
  conv => rhs; rw [← List.take_append_drop k l]
  rw [List.map_append, List.sum_append]; omega
theorem jb_take_le (c : UInt8) (l : List (List UInt8)) (k : Nat) : (jb c (l.take k)).length ≤ (jb c l).length := by
  rw [jb_len, jb_len]
  have := lens_take_le l k
  have : (l.take k).length ≤ l.length := by simp; omega
  omega

def bytes (ss : List ByteArray) : List (List UInt8) := ss.map (·.data.toList)
def good (ss : List ByteArray) (c : UInt8) : Prop := ss ≠ [] ∧ (∀ s ∈ ss, c ∉ s.data.toList) ∧ (jb c (bytes ss)).length ≤ 4000
def yes (ss : List ByteArray) (c : UInt8) : Value := .tuple #[.string ⟨(jb c (bytes ss)).toArray⟩, .bool true]
def no : Value := .tuple #[.string ⟨#[]⟩, .bool false]
open Classical in
noncomputable def jres (ss : List ByteArray) (sep : ByteArray) : Value :=
  match sep.data.toList with
  | [c] => if good ss c then yes ss c else no
  | _ => no
theorem jres_yes {ss : List ByteArray} {c : UInt8} (h : good ss c) : jres ss ⟨#[c]⟩ = yes ss c := by
  simp [jres, h]
theorem jres_no1 {ss : List ByteArray} {c : UInt8} (h : ¬ good ss c) : jres ss ⟨#[c]⟩ = no := by
  simp [jres, h]
theorem jres_no {ss : List ByteArray} {sep : ByteArray} (h : sep.size ≠ 1) : jres ss sep = no := by
  obtain ⟨⟨l⟩⟩ := sep
  match l, h with
  | [], _ => rfl
  | [c], h => exact absurd rfl h
  | _ :: _ :: _, _ => rfl
theorem one_of_size {sep : ByteArray} (h : sep.size = 1) : ∃ c, sep = ⟨#[c]⟩ := by
  obtain ⟨⟨l⟩⟩ := sep
  match l, h with
  | [c], _ => exact ⟨c, rfl⟩

/-! ### spec -/
theorem bytes_len (ss : List ByteArray) : (bytes ss).length = ss.length := by simp [bytes]
theorem bytes_take (ss : List ByteArray) (k : Nat) : bytes (ss.take k) = (bytes ss).take k := by simp [bytes]
theorem bytes_get (ss : List ByteArray) (k : Nat) (h : k < ss.length) : (bytes ss)[k]'(by rw [bytes_len]; exact h) = ss[k].data.toList := by simp [bytes]
theorem jb_snoc' (c : UInt8) (ss : List ByteArray) (k : Nat) (h : k < ss.length) : jb c (bytes (ss.take (k + 1))) = if k = 0 then ss[k].data.toList else jb c (bytes (ss.take k)) ++ [c] ++ ss[k].data.toList := by
  rw [bytes_take, bytes_take, jb_snoc c (bytes ss) k (by rw [bytes_len]; exact h), bytes_get ss k h]
theorem jb_le' (c : UInt8) (ss : List ByteArray) (k : Nat) : (jb c (bytes (ss.take k))).length ≤ (jb c (bytes ss)).length := by
  rw [bytes_take]; exact jb_take_le c _ k
theorem good_of_end {c : UInt8} {ss : List ByteArray} (h0 : ss ≠ []) (hn : ∀ s ∈ ss.take ss.length, c ∉ s.data.toList) (hl : (jb c (bytes (ss.take ss.length))).length ≤ 4000) : good ss c := by
  rw [List.take_length] at hn hl; exact ⟨h0, hn, hl⟩
theorem bad_of_mem {c : UInt8} {ss : List ByteArray} {k : Nat} (h : k < ss.length) (hm : c ∈ ss[k].data.toList) : ¬ good ss c :=
  fun g => g.2.1 _ (List.getElem_mem h) hm
theorem bad_of_len {c : UInt8} {ss : List ByteArray} {k : Nat} (h : 4000 < (jb c (bytes (ss.take k))).length) : ¬ good ss c :=
  fun g => by have := jb_le' c ss k; have := g.2.2; omega
theorem none_snoc {c : UInt8} {ss : List ByteArray} {k : Nat} (h : k < ss.length) (hn : ∀ s ∈ ss.take k, c ∉ s.data.toList) (hm : c ∉ ss[k].data.toList) : ∀ s ∈ ss.take (k + 1), c ∉ s.data.toList := by
  rw [List.take_succ_eq_append_getElem h]
  intro s hs
  rcases List.mem_append.1 hs with hs | hs
  · exact hn s hs
  · rw [List.mem_singleton.1 hs]; exact hm

def JPost (ss : List ByteArray) (sep : ByteArray) (w : World) (e : Ending) (w' : World) : Prop := e = .returned (jres ss sep) ∧ Below w.heap.size w w'
theorem j_no1 {ss : List ByteArray} {c : UInt8} {w w' : World} (h : ¬ good ss c) (hw : Below w.heap.size w w') : JPost ss ⟨#[c]⟩ w (.returned no) w' := ⟨by rw [jres_no1 h], hw⟩
theorem j_no {ss : List ByteArray} {sep : ByteArray} {w w' : World} (h : sep.size ≠ 1) (hw : Below w.heap.size w w') : JPost ss sep w (.returned no) w' := ⟨by rw [jres_no h], hw⟩
theorem j_yes {ss : List ByteArray} {c : UInt8} {w w' : World} {b : ByteArray} (h0 : ss ≠ []) (hn : ∀ s ∈ ss.take ss.length, c ∉ s.data.toList) (hb : b.data.toList = jb c (bytes (ss.take ss.length))) (hl : b.size ≤ 4000) (hw : Below w.heap.size w w') :
    JPost ss ⟨#[c]⟩ w (.returned (.tuple #[.string b, .bool true])) w' := by
  have hl' : (jb c (bytes (ss.take ss.length))).length ≤ 4000 := by rw [← hb]; simpa using hl
  refine ⟨?_, hw⟩
  rw [jres_yes (good_of_end h0 hn hl'), yes]
  rw [List.take_length] at hb
  have : b = ⟨(jb c (bytes ss)).toArray⟩ := WideShapes.bytes_inj (by simpa using hb)
  rw [this]

set_option maxHeartbeats 400000 in
theorem spec_any (A : Option Addr) (cap : Nat) (ss : List ByteArray) (sep : ByteArray) (w : World) (B : Nat) (hr : Rd w B A (strv ss)) (hn : ss.length ≤ 1048576) (hz : ∀ s ∈ ss, s.size ≤ 1048576) (hsep : sep.size ≤ maxLen) :
    Calls Tryd.prog 9 #[.slice A ss.length cap, .string sep] w (JPost ss sep w) := by
  have HR := Lib.hid hr; clear hr
  have HZ := Lib.hid hz; clear hz
  unfold maxLen at hsep
  by_cases h1 : sep.size = 1
  · obtain ⟨c, rfl⟩ := one_of_size h1
    clear h1 hsep
    have hcb := c.toNat_lt
    by_cases h0 : ss.length = 0
    · have hs0 : ss = [] := List.eq_nil_of_length_eq_zero h0
      have H0 := Lib.hid hs0; clear hs0
      have hb0 : ((ss.length : Int) == 0) = true := by rw [h0]; rfl
      have HH := Lib.hid h0; clear h0
      go_enter Tryd.func9, Tryd.ntmps9
      go_wp2
      go_ret2
      exact j_no1 (fun g => g.1 H0.out) (Below.refl _ _)
    · have hb0 : ((ss.length : Int) == 0) = false := by rw [beq_eq_false_iff_ne]; omega
      go_enter Tryd.func9, Tryd.ntmps9
      go_wp2
      go_loopw [6, 7] (fun o i wr => ∃ k : Nat, k ≤ ss.length ∧ i = .int .i64 k ∧ (∀ s ∈ ss.take k, c ∉ s.data.toList) ∧ (∃ b : ByteArray, o = .string b ∧ b.data.toList = jb c (bytes (ss.take k)) ∧ b.size ≤ 4000) ∧ Drawn w wr) (fun _ i _ => ss.length - (intOf i).toNat)
      case atStart => exact ⟨0, Nat.zero_le _, rfl, by simp, ⟨_, rfl, by simp [bytes, jb], by decide⟩, Drawn.refl _⟩
      case round =>
        obtain ⟨k, hk, rfl, hn1, ⟨ob, rfl, hob, hol⟩, hw⟩ := hrel
        have HW := Lib.hid hw; clear hw
        have HN := Lib.hid hn1; clear hn1
        have HO := Lib.hid hob; clear hob
        by_cases hlt : k < ss.length
        · obtain ⟨b, o, rfl, hb, hc⟩ := HR.out.at (k := k) (by rw [strv_len]; exact hlt)
          have hcell : wr.cell? ⟨b, o + k, none⟩ = some (.string ss[k]) := (HW.out.cell _ _).trans (hc k _ (strv_get ss k hlt))
          have hsz : ss[k].size ≤ 1048576 := HZ.out _ (List.getElem_mem hlt)
          clear hc
          go_wp2
          go_quiet ((go_at_call 22; exact Calls.quiet_of_same (stands_q _ c _ (by unfold maxLen; omega))))
          by_cases hm : c ∈ ss[k].data.toList
          · have hmb : decide (c ∈ ss[k].data.toList) = true := decide_eq_true hm
            have HM := Lib.hid hm; clear hm
            go_wp2
            go_ret2
            exact j_no1 (bad_of_mem hlt HM.out) ((HW.out.more nq).below _)
          · have hmb : decide (c ∈ ss[k].data.toList) = false := decide_eq_false hm
            have HM := Lib.hid hm; clear hm
            have hsz' : ob.size ≤ 4000 := hol
            by_cases hk0 : k = 0
            · have hs := jb_snoc' c ss k hlt
              rw [if_pos hk0] at hs
              have HS := Lib.hid hs; clear hs
              have HK := Lib.hid hk0
              have hob0 : ob = ByteArray.empty := by
                have := HO.out; rw [HK.out] at this
                exact WideShapes.bytes_inj (by simpa [bytes, jb] using this)
              subst hob0
              subst hk0
              have hcell0 : wr.cell? ⟨b, o, none⟩ = some (.string ss[0]) := hcell
              clear hcell
              have HL := Lib.hid (show (jb c (bytes (ss.take (0 + 1)))).length = ss[0].size by rw [HS.out]; simp)
              go_wp2
              · have hh : (4000 : Int) < ss[0].size := by assumption
                go_ret2
                exact j_no1 (bad_of_len (k := 0 + 1) (by rw [HL.out]; omega)) ((HW.out.more nq).below _)
              · have hh : (ss[0].size : Int) ≤ 4000 := by assumption
                exact ⟨⟨1, by omega, rfl, none_snoc hlt HN.out HM.out, ⟨_, rfl, HS.out.symm, by omega⟩, HW.out.more nq⟩, by simp [intOf]; omega⟩
            · have hs := jb_snoc' c ss k hlt
              rw [if_neg hk0] at hs
              have HS := Lib.hid hs; clear hs
              have HL := Lib.hid (show (jb c (bytes (ss.take (k + 1)))).length = ob.size + 1 + ss[k].size by rw [HS.out, ← HO.out]; simp; omega)
              have HD := Lib.hid (show (ob ++ ⟨#[c]⟩ ++ ss[k]).data.toList = jb c (bytes (ss.take (k + 1))) by rw [HS.out, ← HO.out]; simp)
              have HZ2 := Lib.hid (show (ob ++ ⟨#[c]⟩ ++ ss[k]).size = ob.size + 1 + ss[k].size by simp [ByteArray.size_append]; rfl)
              go_wp2
              · have hh : (4000 : Int) < ob.size + 1 + ss[k].size := by assumption
                go_ret2
                exact j_no1 (bad_of_len (k := k + 1) (by rw [HL.out]; omega)) ((HW.out.more nq).below _)
              · have hh : (ob.size : Int) + 1 + ss[k].size ≤ 4000 := by assumption
                exact ⟨⟨k + 1, by omega, by go_num, none_snoc hlt HN.out HM.out, ⟨_, rfl, HD.out, by rw [HZ2.out]; omega⟩, HW.out.more nq⟩, by simp [intOf]; omega⟩
        · go_wp2
          go_ret2
          have hkk : k = ss.length := by omega
          subst hkk
          exact j_yes (fun e => h0 (by rw [e]; rfl)) HN.out HO.out hol (HW.out.below _)
  · have hb1 : ((sep.size : Int) != 1) = true := by rw [bne_iff_ne]; omega
    go_enter Tryd.func9, Tryd.ntmps9
    go_wp2
    go_ret2
    exact j_no h1 (Below.refl _ _)

/-! ### impl -/
def T (ss : List ByteArray) (k : Nat) : Int := ss.length - 1 + tot (ss.take k)
theorem T_zero (ss : List ByteArray) : T ss 0 = ss.length - 1 := by simp [T, tot]
theorem T_snoc (ss : List ByteArray) (k : Nat) (h : k < ss.length) : T ss (k + 1) = T ss k + ss[k].size := by
  unfold T; rw [tot_snoc ss k h]; omega
theorem T_len (ss : List ByteArray) (c : UInt8) (h : ss ≠ []) : ((jb c (bytes ss)).length : Int) = T ss ss.length := by
  rw [jb_len, bytes_len]
  have h1 : lens (bytes ss) = (ss.map ByteArray.size).sum := by
    unfold lens bytes
    rw [List.map_map]
    congr 1
  have h2 : 0 < ss.length := List.length_pos_iff.2 h
  unfold T tot
  rw [h1, List.take_length]; omega
theorem T_mono (ss : List ByteArray) (k : Nat) : T ss k ≤ T ss ss.length := by
  unfold T
  have : tot (ss.take ss.length) = tot (ss.take k) + tot (ss.drop k) := by
    rw [List.take_length]
    unfold tot
    conv => lhs; rw [← List.take_append_drop k ss]
    rw [List.map_append, List.sum_append]; omega
  have := tot_nonneg (ss.drop k); omega
theorem bad_of_T {c : UInt8} {ss : List ByteArray} {k : Nat} (h : 4000 < T ss k) : ¬ good ss c :=
  fun g => by have := T_len ss c g.1; have := T_mono ss k; have := g.2.2; omega
theorem T_lo (ss : List ByteArray) (k : Nat) (h : 0 < ss.length) : 0 ≤ T ss k := by
  unfold T; have := tot_nonneg (ss.take k); omega

set_option maxHeartbeats 800000 in
theorem impl_any (A : Option Addr) (cap : Nat) (ss : List ByteArray) (sep : ByteArray) (w : World) (hr : Rd w w.heap.size A (strv ss)) (hn : ss.length ≤ 1048576) (hz : ∀ s ∈ ss, s.size ≤ 1048576) (hsep : sep.size ≤ maxLen) (hcap : ss.length ≤ cap) :
    Calls Tryd.prog 8 #[.slice A ss.length cap, .string sep] w (JPost ss sep w) := by
  have HR := Lib.hid hr; clear hr
  have HZ := Lib.hid hz; clear hz
  unfold maxLen at hsep
  by_cases h0 : ss.length = 0
  · have hs0 : ss = [] := List.eq_nil_of_length_eq_zero h0
    have H0 := Lib.hid hs0; clear hs0
    have hb0 : ((ss.length : Int) == 0) = true := by rw [h0]; rfl
    have HH := Lib.hid h0; clear h0
    go_enter Tryd.func8, Tryd.ntmps8
    go_wp2
    go_ret2
    by_cases h1 : sep.size = 1
    · obtain ⟨c, rfl⟩ := one_of_size h1
      exact j_no1 (fun g => g.1 H0.out) (Below.refl _ _)
    · exact j_no h1 (Below.refl _ _)
  · have hb0 : ((ss.length : Int) == 0) = false := by rw [beq_eq_false_iff_ne]; omega
    by_cases h1 : sep.size = 1
    · obtain ⟨c, rfl⟩ := one_of_size h1
      clear h1 hsep
      go_enter Tryd.func8, Tryd.ntmps8
      go_wp2
      go_loop [6, 22] (fun l i => ∃ k : Nat, k ≤ ss.length ∧ i = .int .i64 k ∧ (∀ s ∈ ss.take k, c ∉ s.data.toList) ∧ l = .int .i64 (T ss k) ∧ (k = 0 ∨ T ss k ≤ 4000)) (fun _ i => ss.length - (intOf i).toNat)
      case atStart => exact ⟨0, Nat.zero_le _, rfl, by simp, by rw [T_zero], .inl rfl⟩
      case round =>
        obtain ⟨k, hk, rfl, hn1, rfl, ht⟩ := hrel
        have HN := Lib.hid hn1; clear hn1
        have ht1 : T ss k ≤ 1048576 := by rcases ht with h | h; (rw [h, T_zero]; omega); omega
        have ht0 := T_lo ss k (by omega)
        have HT := Lib.hid ht; clear ht
        by_cases hlt : k < ss.length
        · obtain ⟨b, o, rfl, hb, hc⟩ := HR.out.at (k := k) (by rw [strv_len]; exact hlt)
          have hcell : w.cell? ⟨b, o + k, none⟩ = some (.string ss[k]) := hc k _ (strv_get ss k hlt)
          have hsz : ss[k].size ≤ 1048576 := HZ.out _ (List.getElem_mem hlt)
          have HS := Lib.hid (T_snoc ss k hlt)
          clear hc
          by_cases hbig : 4000 < T ss k + ss[k].size
          · go_wp2_with (go_at_call 20; refine (contains_any _ c _).mono ?_; rintro e w' ⟨rfl, rfl⟩)
            go_ret2
            exact j_no1 (bad_of_T (k := k + 1) (by rw [HS.out]; exact hbig)) (Below.refl _ _)
          · by_cases hm : c ∈ ss[k].data.toList
            · have hmb : has ss[k] c = true := decide_eq_true hm
              have HM := Lib.hid hm; clear hm
              go_wp2_with (go_at_call 20; refine (contains_any _ c _).mono ?_; rintro e w' ⟨rfl, rfl⟩)
              go_ret2
              exact j_no1 (bad_of_mem hlt HM.out) (Below.refl _ _)
            · have hmb : has ss[k] c = false := decide_eq_false hm
              have HM := Lib.hid hm; clear hm
              go_wp2_with (go_at_call 20; refine (contains_any _ c _).mono ?_; rintro e w' ⟨rfl, rfl⟩)
              go_round
              case rel => exact ⟨k + 1, by omega, by go_num, none_snoc hlt HN.out HM.out, by rw [HS.out], .inr (by rw [HS.out]; omega)⟩
              case measure => simp [intOf]; omega
        · have hkk : k = ss.length := by omega
          subst hkk
          have hT : T ss ss.length ≤ 4000 := by rcases HT.out with h | h; (exact absurd h h0); exact h
          have hne : ss ≠ [] := fun e => h0 (by rw [e]; rfl)
          have HG := Lib.hid (show good ss c from ⟨hne, by have := HN.out; rwa [List.take_length] at this, by have := T_len ss c hne; omega⟩)
          have hlen : (Lib.join (ss.map (·.data.toList)) [c]).length ≤ 4000 := by
            have := HG.out.2.2; rw [jb_join] at this; exact this
          clear hne hT
          rcases HR.out with h | ⟨b, o, rfl, hb, hc⟩
          · exfalso; apply h0; have := congrArg List.length h; simpa [strv_len] using this
          have hJ := Tryd.strings_Join b o cap ss ⟨#[c]⟩ w (fun j x hx => hc j _ (by simp [strv, hx])) hb (by omega) hcap (by have := hlen; show (Lib.join _ [c]).length ≤ _; omega)
          have HJ := Lib.hid hJ; clear hJ hc
          have hjs : (⟨(Lib.join (ss.map (·.data.toList)) [c]).toArray⟩ : ByteArray).size ≤ 281474976710656 := by
            show (List.toArray _).size ≤ _; simp only [List.size_toArray]; omega
          have HX := Lib.hid (show Value.tuple #[.string ⟨(Lib.join (ss.map (·.data.toList)) [c]).toArray⟩, .bool true] = jres ss ⟨#[c]⟩ by rw [jres_yes HG.out, yes, jb_join]; rfl)
          clear hlen
          generalize hgj : (⟨(Lib.join (ss.map (·.data.toList)) [c]).toArray⟩ : ByteArray) = J at HX hjs
          have HJ2 := Lib.hid (show Calls Tryd.prog 21 #[.slice (some ⟨b, o, none⟩) ss.length cap, .string ⟨#[c]⟩] w fun e w' => e = .returned (.string J) ∧ Below w.heap.size w w' from hgj ▸ HJ.out)
          clear HJ hgj
          go_wp2_with (first | (go_at_call 21; refine HJ2.out.mono ?_; rintro e w1 ⟨rfl, hB1⟩) | (go_at_call 17; refine (clone_any _ _ hjs).mono ?_; rintro e w2 ⟨rfl, hB2⟩))
          go_ret2
          exact ⟨by rw [← HX.out]; simp, hB1.trans (hB2.mono hB1.size)⟩
    · have hb1 : ((sep.size : Int) != 1) = true := by rw [bne_iff_ne]; omega
      go_enter Tryd.func8, Tryd.ntmps8
      go_wp2
      go_ret2
      exact j_no h1 (Below.refl _ _)

/-! ### the law -/
theorem jres_form (ss : List ByteArray) (sep : ByteArray) : ∃ (r0 : ByteArray) (r1 : Bool), jres ss sep = .tuple #[.string r0, .bool r1] := by
  unfold jres
  split
  · split
    · exact ⟨_, _, rfl⟩
    · exact ⟨_, _, rfl⟩
  · exact ⟨_, _, rfl⟩
theorem tot_mem {ss : List ByteArray} (s : ByteArray) (h : s ∈ ss) : (s.size : Int) ≤ tot ss := by
  obtain ⟨k, hk, rfl⟩ := List.mem_iff_getElem.1 h
  exact tot_le ss k hk

end Go.Proofs.YtggloekjjnhhjaaDoor.Join
