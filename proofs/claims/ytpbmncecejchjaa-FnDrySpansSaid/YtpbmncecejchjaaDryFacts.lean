/- FnDrySpans: what the walk wants to know of dry spans and of the wettest day. -/
import Derived.Test.YtpbmncecejchjaaDry
import Derived.Test.YtpbmncecejchjaaShwW
namespace Go.Proofs.Ytpbmncecejchjaa.DryFacts
open Go.RowKit Go.Proofs.Ytpbmncecejchjaa.Mem Go.Proofs.Ytpbmncecejchjaa.Base Go.Proofs.Ytpbmncecejchjaa.Shw Go.Proofs.Ytpbmncecejchjaa.Dry
set_option linter.unusedVariables false
theorem find_self : ∀ {l : List R}, l.Pairwise (fun x y => x.f0 < y.f0) → ∀ {x : R}, x ∈ l → l.find? (fun y => y.f0 == x.f0) = some x := by
  intro l
  induction l with
  | nil => intro _ x hx; cases hx
  | cons y l ih =>
    intro hp x hx
    rw [List.pairwise_cons] at hp
    rcases List.mem_cons.1 hx with rfl | hx
    · rw [List.find?_cons_of_pos (by simp)]
    · have := hp.1 x hx
      rw [List.find?_cons_of_neg (by simp; omega)]
      exact ih hp.2 hx
theorem on_self {l : List R} (h : good l = true) {x : R} (hx : x ∈ l) : on l x.f0 = x.f1 := by unfold Shw.on; rw [find_self (good_pair h) hx]
theorem kil_id (g : Int) : kil g 1000 = g := by unfold kil; omega
theorem can_self {l : List R} (h : good l = true) {x : R} (hx : x ∈ l) : canOk l 1000 x.f0 = true := by
  have := (good_sane h).2 x hx
  exact can4 h (inB_true (by omega)) (inB_true (by omega))
theorem rain_self {l : List R} (h : good l = true) {x : R} (hx : x ∈ l) : rainV l 1000 x.f0 = .tuple #[.int .i64 x.f1, .bool true] := by
  rw [rainV_yes (can_self h hx)]; unfold kilo; rw [on_self h hx, kil_id]
theorem sum_dry {l : List R} (h : good l = true) {f t c : Int} {q : Q} (hq : q ∈ spans l f t) : sumF l c q.f0 q.f1 = 0 := by
  have : l.filter (inS q.f0 q.f1) = [] := by
    rw [List.filter_eq_nil_iff]
    intro x hx
    have := spans_dry l f t (good_pair h) q hq x hx
    unfold inS; rw [this]; simp
  unfold sumF; rw [this]; rfl
theorem btw_dry {l : List R} {f t : Int} (h : dryOk l f t = true) {q : Q} (hq : q ∈ spans l f t) : btwV l 1000 q.f0 q.f1 = .tuple #[.int .i64 0, .bool true] := by
  obtain ⟨hg, h0, h1, h2⟩ := dry_true h
  have hb := spans_bd l f t q hq
  have : btwOk l 1000 q.f0 q.f1 = true := by unfold btwOk; rw [hg, inB_true (by omega), inB_true (by omega), inB_true (by omega)]; rfl
  rw [btwV_yes this, sum_dry hg hq]
/-- what the law's loop over the spans asks of each. -/
theorem each {l : List R} {f t : Int} (h : dryOk l f t = true) {k : Nat} {q : Q} (hk : k < (dryL l f t).length) (hq : (dryL l f t)[k] = q) :
    btwV l 1000 q.f0 q.f1 = .tuple #[.int .i64 0, .bool true] ∧ q.f1 - q.f0 ≤ (top (dryL l f t)).f1 - (top (dryL l f t)).f0 ∧ f ≤ q.f0 ∧ q.f0 ≤ q.f1 ∧ q.f1 ≤ t ∧ 0 ≤ f ∧ t ≤ 4000 := by
  have hm : q ∈ dryL l f t := by rw [← hq]; exact List.getElem_mem hk
  have hm2 : q ∈ spans l f t := by rw [← dryL_yes h]; exact hm
  have hb := spans_bd l f t q hm2
  obtain ⟨_, h0, _, h2⟩ := dry_true h
  exact ⟨btw_dry h hm2, top_max q hm, hb.1, hb.2.1, hb.2.2, h0, h2⟩
theorem top_bd {l : List R} {f t : Int} (h : dryOk l f t = true) : 0 ≤ (top (dryL l f t)).f0 ∧ (top (dryL l f t)).f0 ≤ 4000 ∧ 0 ≤ (top (dryL l f t)).f1 ∧ (top (dryL l f t)).f1 ≤ 4000 := by
  obtain ⟨_, h0, _, h2⟩ := dry_true h
  have key : top (dryL l f t) = ⟨0, 0⟩ ∨ top (dryL l f t) ∈ dryL l f t := by
    generalize dryL l f t = L
    cases L with
    | nil => exact .inl rfl
    | cons y r =>
      right
      show lng r y ∈ _
      have : ∀ (r : List Q) (y : Q), lng r y = y ∨ lng r y ∈ r := by
        intro r
        induction r with
        | nil => intro y; exact .inl rfl
        | cons z r ih =>
          intro y
          unfold lng
          rcases ih (if y.f1 - y.f0 < z.f1 - z.f0 then z else y) with h | h
          · rw [h]; split
            · exact .inr (by simp)
            · exact .inl rfl
          · exact .inr (by simp [h])
      rcases this r y with h | h
      · rw [h]; simp
      · simp [h]
  rcases key with e | e
  · rw [e]; simp
  · have hb := spans_bd l f t _ (by rw [← dryL_yes h]; exact e)
    omega
/-- the wettest day. -/
theorem wet_told {l : List R} {x : Int} {q : Bool} (hv : ShwW.wetV l = .tuple #[.int .i64 x, .bool q]) (hq : q = true) :
    good l = true ∧ ∃ m : Int, rainV l 1000 x = .tuple #[.int .i64 m, .bool true] ∧ ∀ k (h : k < l.length), ∃ n : Int, rainV l 1000 l[k].f0 = .tuple #[.int .i64 n, .bool true] ∧ n ≤ m := by
  subst hq
  unfold ShwW.wetV at hv
  split at hv
  · rename_i ho
    unfold ShwW.wetOk at ho
    rw [Bool.and_eq_true, decide_eq_true_eq] at ho
    injection hv with hv
    have hx : (ShwW.wetR l).f0 = x := by simpa using hv
    have h0 : l.getD 0 SShower.zero = l[0]'ho.2 := getD_at ho.2
    have hmem : ShwW.wetR l ∈ l := by
      unfold ShwW.wetR
      rcases ShwW.wet_mem (l.drop 1) (l.getD 0 SShower.zero) with h | h
      · rw [h, h0]; exact List.getElem_mem _
      · exact List.mem_of_mem_drop h
    have hmax : ∀ y ∈ l, y.f1 ≤ (ShwW.wetR l).f1 := by
      intro y hy
      obtain ⟨h1, h2⟩ := ShwW.wet_max (l.drop 1) (l.getD 0 SShower.zero)
      obtain ⟨i, hi, rfl⟩ := List.getElem_of_mem hy
      rcases Nat.eq_zero_or_pos i with h | h
      · subst h; rw [h0] at h1; unfold ShwW.wetR; rw [h0]; exact h1
      · refine h2 _ ?_
        rw [List.mem_iff_getElem]
        refine ⟨i - 1, by simp; omega, ?_⟩
        rw [List.getElem_drop]; congr 1; omega
    refine ⟨ho.1, (ShwW.wetR l).f1, by rw [← hx]; exact rain_self ho.1 hmem, fun k hk => ⟨l[k].f1, rain_self ho.1 (List.getElem_mem hk), hmax _ (List.getElem_mem hk)⟩⟩
  · injection hv with hv
    simp at hv
end Go.Proofs.Ytpbmncecejchjaa.DryFacts
