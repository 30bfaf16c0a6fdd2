/- Batches: what FnWashing and FnBatches ask of the answers. -/
import Derived.Test.YtpokgnkcnibapaaBatV
namespace Go.Proofs.Ytpokgnkcnibapaa.BatFacts
open Go.RowKit Go.Proofs.Ytpokgnkcnibapaa.Mem Go.Proofs.Ytpokgnkcnibapaa.Base Go.Proofs.Ytpokgnkcnibapaa.SBatch Go.Proofs.Ytpokgnkcnibapaa.BatP Go.Proofs.Ytpokgnkcnibapaa.BatQ Go.Proofs.Ytpokgnkcnibapaa.BatV
set_option linter.unusedVariables false
theorem aw_told (b : R) (v d : Int) : ∃ (z : R) (n : Int) (q : Bool), awV b v d = .tuple #[z.val, .int .i64 n, .bool q] ∧
    (q = true → z.f0 = b.f0 ∧ z.f2 = b.f2 ∧ 0 ≤ n ∧ n ≤ 1000000000 ∧ 0 ≤ z.f1 ∧ z.f1 ≤ 1000000000 ∧ 0 ≤ b.f1 ∧ b.f1 ≤ 1000000000 ∧ 0 ≤ d ∧ d ≤ 1000000000 ∧ z.f1 + n = b.f1 + d) := by
  cases h : awOk b v d
  · exact ⟨_, _, _, aw_no h, fun h => by cases h⟩
  · obtain ⟨hb, h0, h1, h2, h3⟩ := aw_parts h
    obtain ⟨a0, a1, a2, a3, a4, a5⟩ := okT_true hb
    have hg := gone_bd hb h0 h2 h3
    have hs := stay_bd hb h0 h2 h3
    refine ⟨_, _, _, aw_yes h, fun _ => ⟨rfl, rfl, hg.1, by omega, hs.1, ?_, a2, by omega, h2, by omega, ?_⟩⟩
    · show stay b v d ≤ 1000000000; omega
    · show stay b v d + gone b v d = b.f1 + d
      unfold gone; omega
theorem aw_zero {c : R} {l : Int} (h : okT c = true) (h0 : 1 ≤ l) (h1 : l ≤ 100000000) : awV c l 0 = .tuple #[(wash c l 0).val, .int .i64 (gone c l 0), .bool true] :=
  aw_yes (aw4 h (show isW l = true from inB_true ⟨h0, h1⟩) (inB_true ⟨Int.le_refl _, by omega⟩))
theorem wn_told (c : R) (m : Int) : ∃ (l : Int) (t : Bool), wnV c m = .tuple #[.int .i64 l, .bool t] ∧
    (t = true → 0 ≤ l ∧ l ≤ 100000000 ∧ (0 < l → ∃ (z : R) (n : Int), awV c l 0 = .tuple #[z.val, .int .i64 n, .bool true] ∧ z.f1 ≤ m) ∧
      (1 < l → ∃ (z : R) (n : Int), awV c (l - 1) 0 = .tuple #[z.val, .int .i64 n, .bool true] ∧ ¬ z.f1 ≤ m)) := by
  obtain ⟨l, t, hv, hk⟩ := wn_form c m
  refine ⟨l, t, hv, fun ht => ?_⟩
  obtain ⟨l0, l1, hc, h1, h2⟩ := hk ht
  exact ⟨l0, l1, fun hl => ⟨_, _, aw_zero hc (by omega) l1, h1 hl⟩, fun hl => ⟨_, _, aw_zero hc (by omega) (by omega), h2 hl⟩⟩
theorem as_told (x : R) (v n : Int) : ∃ (z : R) (q : Bool), asV x v n = .tuple #[z.val, .bool q] ∧ (q = true → z.f1 ≤ x.f1) := by
  cases h : asOk x v n
  · exact ⟨_, _, as_no h, fun h => by cases h⟩
  · obtain ⟨hx, _, _, _, _, _, hu, _⟩ := as_parts h
    exact ⟨_, _, as_yes h, fun _ => stg_dirt hx hu _⟩
theorem sn_told (y : R) (v m : Int) : ∃ (n : Int) (q : Bool), snV y v m = .tuple #[.int .i64 n, .bool q] ∧
    (q = true → ∃ z : R, asV y v n = .tuple #[z.val, .bool true] ∧ z.f1 ≤ m) := by
  obtain ⟨n, q, hv, hk⟩ := sn_form y v m
  exact ⟨n, q, hv, fun hq => ⟨_, as_yes (hk hq).1, (hk hq).2.1⟩⟩
theorem join_told (x y : R) : ∃ (z : R) (q : Bool), joinV x y = .tuple #[z.val, .bool q] := by
  unfold joinV; split <;> exact ⟨_, _, rfl⟩
theorem dry_told (x : R) (p : Int) : ∃ (z : R) (n : Int) (q : Bool), dryV x p = .tuple #[z.val, .int .i64 n, .bool q] ∧
    (q = true → z.f2 + n = x.f2 ∧ 0 ≤ z.f2 ∧ z.f2 ≤ 100000000 ∧ 0 ≤ n ∧ n ≤ 100000000) := by
  cases h : dryOk x p
  · exact ⟨_, _, _, dry_no h, fun h => by cases h⟩
  · have h0 := h
    unfold dryOk at h0
    rw [Bool.and_eq_true] at h0
    obtain ⟨p0, p1⟩ := of_inB h0.2
    obtain ⟨_, _, d0, d1⟩ := dry_bd h0.1 p0 p1
    obtain ⟨a0, a1, a2, a3, a4, a5⟩ := okT_true h0.1
    refine ⟨_, _, _, dry_yes h, fun _ => ?_⟩
    show x.f2 - dryN x p + dryN x p = x.f2 ∧ 0 ≤ x.f2 - dryN x p ∧ x.f2 - dryN x p ≤ 100000000 ∧ 0 ≤ dryN x p ∧ dryN x p ≤ 100000000
    omega
/-- the dirt of the first k. -/
def dk (l : List R) (k : Nat) : Int := dirt (l.take k)
theorem dk_zero (l : List R) : dk l 0 = 0 := rfl
theorem dk_next {l : List R} {k : Nat} {x : R} (h : k < l.length) (hx : l[k] = x) : dk l (k + 1) = dk l k + x.f1 := by
  unfold dk dirt; rw [List.take_succ_eq_append_getElem h, hx, List.map_append, List.sum_append]; simp
theorem dk_all (l : List R) {k : Nat} (h : l.length ≤ k) : dk l k = dirt l := by unfold dk; rw [List.take_of_length_le h]
theorem dk_bd {l : List R} (h : ∀ x ∈ l, okT x = true) : ∀ k, k ≤ l.length → 0 ≤ dk l k ∧ dk l k ≤ 100000000 * k
  | 0, _ => by rw [dk_zero]; omega
  | k + 1, hk => by
    have h1 := dk_bd h k (by omega)
    obtain ⟨_, _, a2, a3, _, _⟩ := okT_true (h l[k] (List.getElem_mem (by omega)))
    rw [dk_next (by omega) rfl]; omega
theorem cc_told (l : List R) (v : Int) (h : ccOk l v = true) : 1 ≤ l.length ∧ l.length ≤ 10 ∧ (ccL l v).length = l.length ∧ (∀ x ∈ l, okT x = true) ∧ (∀ x ∈ ccL l v, okT x = true) ∧ 0 ≤ ccN l v ∧ ccN l v ≤ v ∧ v ≤ 100000000 ∧ dirt (ccL l v) + ccN l v = dirt l := by
  have h0 := h
  unfold ccOk at h0
  simp only [Bool.and_eq_true] at h0
  obtain ⟨⟨⟨g0, g1⟩, g2⟩, g3⟩ := h0
  have i0 := of_inB g0
  have i1 := isW_true g1
  have ho : ∀ x ∈ l, okT x = true := List.all_eq_true.1 g2
  obtain ⟨⟨m, d⟩, hc⟩ := Option.isSome_iff_exists.1 g3
  obtain ⟨_, e1, e2⟩ := cc_some (by omega) (by omega) g1 ho hc
  have hb := cc_bd i1.1 ho hc
  rw [e1, e2]
  exact ⟨by omega, by omega, cc_len hc, ho, hb.2.2, hb.1, hb.2.1, i1.2, cc_keep hc⟩
end Go.Proofs.Ytpokgnkcnibapaa.BatFacts
