/- What the law on chains turns on: one chain alone, its banks, the way back; joined and cut ponds. -/
import Derived.Test.YtncdkfkihfhcgaaLaws3e
import Derived.Test.YtncdkfkihfhcgaaJPond
import Derived.Test.YtncdkfkihfhcgaaCut2
namespace Go.Proofs.Ytncdkfkihfhcgaa.MChain
open Go.RowKit Go.Proofs.Ytncdkfkihfhcgaa.Mem Go.Proofs.Ytncdkfkihfhcgaa.Base Go.Proofs.Ytncdkfkihfhcgaa.SPond Go.Proofs.Ytncdkfkihfhcgaa.Pond Go.Proofs.Ytncdkfkihfhcgaa.Pond2 Go.Proofs.Ytncdkfkihfhcgaa.Pond3 Go.Proofs.Ytncdkfkihfhcgaa.Pond4 Go.Proofs.Ytncdkfkihfhcgaa.Pond7 Go.Proofs.Ytncdkfkihfhcgaa.Steps Go.Proofs.Ytncdkfkihfhcgaa.Bfs Go.Proofs.Ytncdkfkihfhcgaa.Chain Go.Proofs.Ytncdkfkihfhcgaa.ChainP Go.Proofs.Ytncdkfkihfhcgaa.JPond Go.Proofs.Ytncdkfkihfhcgaa.Cut Go.Proofs.Ytncdkfkihfhcgaa.Laws3e
set_option linter.unusedVariables false
variable {n : Nat} {adj : Nat → Nat → Bool} {tt tt2 : Nat} {s s2 : Nat → Int}
theorem below_s (H : Bfs.Steps n adj tt s) (H2 : Bfs.Steps n adj tt s2) : ∀ m : Nat, m ≤ n → ∀ x, x < n → s x = m → 0 ≤ s2 x ∧ s2 x ≤ m := by
  intro m
  induction m with
  | zero => intro _ x hx h; have := H.z' x hx (by simpa using h); subst this; rw [H2.z]; omega
  | succ m ih =>
    intro hm x hx h
    obtain ⟨y, hy, ha, hys⟩ := H.c x hx m (by omega)
    have h1 := ih (by omega) y hy hys
    have := H2.b x y hx hy ha h1.1 (by omega)
    omega
theorem same_s (H : Bfs.Steps n adj tt s) (H2 : Bfs.Steps n adj tt s2) (hb : ∀ x, x < n → s x ≤ n) (hb2 : ∀ x, x < n → s2 x ≤ n) {x : Nat} (hx : x < n) : (s x < 0 ∧ s2 x < 0) ∨ s x = s2 x := by
  have h1 := hb x hx
  have h2 := hb2 x hx
  by_cases h : 0 ≤ s x
  · have := below_s H H2 (s x).toNat (by omega) x hx (by omega)
    have := below_s H2 H (s2 x).toNat (by omega) x hx (by omega)
    omega
  · by_cases h3 : 0 ≤ s2 x
    · have := below_s H2 H (s2 x).toNat (by omega) x hx (by omega)
      omega
    · omega
theorem same_grd (h : ∀ x, x < n → (s x < 0 ∧ s2 x < 0) ∨ s x = s2 x) : ∀ (d v : Nat), grd n adj s v d = grd n adj s2 v d := by
  intro d
  induction d with
  | zero => intro v; rfl
  | succ d ih =>
    intro v
    have e : nxt n adj s v d = nxt n adj s2 v d := by
      unfold nxt
      congr 1
      apply List.filter_congr
      intro u hu
      have := h u (List.mem_range.1 hu)
      congr 1
      rw [decide_eq_decide]
      omega
    show v :: grd n adj s (nxt n adj s v d) d = v :: grd n adj s2 (nxt n adj s2 v d) d
    rw [e, ih]
theorem bd_s {N k : Nat} {l : List R} {S : List Int} (hK : K (ad l) N k N 0 N S) : ∀ x, x < N → sAt S x ≤ N := fun x hx => (hK.bd x hx).2
theorem one_chain {l : List R} {a b : Int} {L L2 : List Int} {q q2 : Bool} (h : IsChain l a b L q) (h2 : IsChain l a b L2 q2) : L = L2 ∧ q = q2 := by
  rcases h with ⟨h, hL, hq⟩ | ⟨i, k, S, hi, hk, hil, hkl, hg, hK, h⟩
  · rcases h2 with ⟨_, hL2, hq2⟩ | ⟨i, k, S, hi, hk, _⟩
    · exact ⟨by rw [hL, hL2], by rw [hq, hq2]⟩
    · omega
  · rcases h2 with ⟨h2, _⟩ | ⟨i2, k2, S2, hi2, hk2, _, _, _, hK2, h2⟩
    · omega
    · obtain rfl : i2 = i := by omega
      obtain rfl : k2 = k := by omega
      have H := hK.steps (ad_comm l)
      have H2 := hK2.steps (ad_comm l)
      have hs := fun x hx => same_s H H2 (bd_s hK) (bd_s hK2) (x := x) hx
      have hsi := hs _ hil
      rcases h with ⟨h, hL, hq⟩ | ⟨d, hd, hL, hq⟩
      · rcases h2 with ⟨_, hL2, hq2⟩ | ⟨d2, hd2, _⟩
        · exact ⟨by rw [hL, hL2], by rw [hq, hq2]⟩
        · omega
      · rcases h2 with ⟨h2, _⟩ | ⟨d2, hd2, hL2, hq2⟩
        · omega
        · have : d2 = d := by omega
          subst this
          exact ⟨by rw [hL, hL2, same_grd hs], by rw [hq, hq2]⟩
theorem is_chain (l : List R) (a b : Int) : ∃ L q, IsChain l a b L q := by
  by_cases ha : 0 ≤ find l a
  · by_cases hb : 0 ≤ find l b
    · obtain ⟨i, hi, hil, _, hg⟩ := find_ok ha
      obtain ⟨k, hk, hkl, _, _⟩ := find_ok hb
      obtain ⟨S, hK⟩ := K.ex (ad_comm l) hkl l.length
      rcases Int.lt_or_le (sAt S i) 0 with h | h
      · exact ⟨[], false, .inr ⟨i, k, S, hi, hk, hil, hkl, hg, hK, .inl ⟨h, rfl, rfl⟩⟩⟩
      · exact ⟨_, true, .inr ⟨i, k, S, hi, hk, hil, hkl, hg, hK, .inr ⟨(sAt S i).toNat, by omega, rfl, rfl⟩⟩⟩
    · exact ⟨[], false, .inl ⟨.inr (by omega), rfl, rfl⟩⟩
  · exact ⟨[], false, .inl ⟨.inl (by omega), rfl, rfl⟩⟩
theorem nxt_ok (H : Bfs.Steps n adj tt s) {v m : Nat} (hv : v < n) (h : s v = (m : Int) + 1) : nxt n adj s v m < n ∧ adj v (nxt n adj s v m) = true ∧ s (nxt n adj s v m) = m := by
  obtain ⟨y, hy, ha, hys⟩ := H.c v hv m h
  obtain ⟨A, B, _, _, h3, h4⟩ := first_in (l := List.range n) (p := fun _ => true) (q := fun u => adj v u && decide (s u = m)) (fun _ _ _ => rfl) ⟨y, List.mem_range.2 hy, by simp [ha, hys]⟩
  simp only [Bool.and_eq_true, decide_eq_true_eq] at h3
  exact ⟨List.mem_range.1 h4, h3.1, h3.2⟩
theorem grd_adj (H : Bfs.Steps n adj tt s) : ∀ (d v : Nat), v < n → s v = d → ∀ j (h : j + 1 < (grd n adj s v d).length), adj (grd n adj s v d)[j] (grd n adj s v d)[j + 1] = true ∧ (grd n adj s v d)[j] < n ∧ (grd n adj s v d)[j + 1] < n := by
  intro d
  induction d with
  | zero => intro v _ _ j h; rw [grd_len] at h; omega
  | succ d ih =>
    intro v hv hs j h
    obtain ⟨h1, h2, h3⟩ := nxt_ok H (m := d) hv (by omega)
    have key : ∀ (g : List Nat) (u : Nat), g = grd n adj s u d → u < n → adj v u = true → s u = d → ∀ (h : j + 1 < (v :: g).length), adj (v :: g)[j] (v :: g)[j + 1] = true ∧ (v :: g)[j] < n ∧ (v :: g)[j + 1] < n := by
      intro g u hgu hu ha hsu hj
      cases j with
      | zero =>
        have e : g = u :: g.drop 1 := by rw [hgu]; exact grd_cons n adj s u d
        have hlen : 0 < g.length := by rw [e]; simp
        have e0 : g[0] = u := by
          have : g[0]? = some u := by rw [e]; rfl
          rw [List.getElem?_eq_getElem hlen] at this
          injection this
        simp only [List.getElem_cons_zero, List.getElem_cons_succ]
        rw [e0]; exact ⟨ha, hv, hu⟩
      | succ j =>
        subst hgu
        have := ih u hu hsu j (by simpa using hj)
        simpa using this
    exact key _ _ rfl h1 h2 h3 h
theorem ad_self {l : List R} (hg : good l = true) {j : Nat} (hj : j < l.length) : ad l j j = false := by
  rw [ad_at hj hj rfl rfl, Pond8.bank_self ((good_all hg).2 j hj)]; rfl
theorem bank_ids {l : List R} (hg : good l = true) {x y : Nat} (hx : x < l.length) (hy : y < l.length) (h : ad l x y = true) : ∃ r, bankV l (idOf l x) (idOf l y) = .tuple #[.int .i64 r, .bool true] ∧ 1 ≤ r := by
  have hne : x ≠ y := fun e => by subst e; rw [ad_self hg hx] at h; cases h
  have hx2 := find_id hg hx
  have hy2 := find_id hg hy
  have ht : Two l (idOf l x) (idOf l y) := ⟨by omega, by omega, fun e => hne (id_inj hg hx hy e)⟩
  refine ⟨_, bankV_yes ht hx2 hy2 hx hy rfl rfl, ?_⟩
  rw [ad_at hx hy rfl rfl] at h
  have := of_decide_eq_true h
  omega
theorem chain_banks {l : List R} {a b : Int} {L : List Int} {q : Bool} (h : IsChain l a b L q) (j : Nat) (hj : j + 1 < L.length) : ∃ r, bankV l L[j] L[j + 1] = .tuple #[.int .i64 r, .bool true] ∧ 1 ≤ r := by
  rcases h with ⟨_, h, _⟩ | ⟨i, k, S, _, _, hi, _, hg, hK, h⟩
  · subst h; simp at hj
  · rcases h with ⟨_, h, _⟩ | ⟨d, hd, h, _⟩
    · subst h; simp at hj
    · subst h
      have hj2 : j + 1 < (grd l.length (ad l) (sAt S) i d).length := by simpa using hj
      obtain ⟨h1, h2, h3⟩ := grd_adj (hK.steps (ad_comm l)) d i hi hd j hj2
      simp only [List.getElem_map]
      exact bank_ids hg h2 h3 h1
theorem path_back (H : Bfs.Steps n adj tt s) (H2 : Bfs.Steps n adj tt2 s2) (hsym : ∀ x y, adj x y = adj y x) : ∀ (m x : Nat), x < n → s x = m → ∀ e : Nat, s2 x = e → e + m ≤ n → 0 ≤ s2 tt ∧ s2 tt ≤ e + m := by
  intro m
  induction m with
  | zero => intro x hx h e he _; have := H.z' x hx (by simpa using h); subst this; omega
  | succ m ih =>
    intro x hx h e he hm
    obtain ⟨y, hy, ha, hys⟩ := H.c x hx m (by omega)
    have h1 := H2.b y x hy hx (by rw [hsym]; exact ha) (by omega) (by omega)
    have := ih y hy hys (s2 y).toNat (by omega) (by omega)
    omega
theorem chain_back {l : List R} {a b : Int} {L L2 : List Int} {q2 : Bool} (h : IsChain l a b L true) (h2 : IsChain l b a L2 q2) : q2 = true ∧ L2.length = L.length := by
  rcases h with ⟨_, _, h⟩ | ⟨i, k, S, hi, hk, hil, hkl, hg, hK, h⟩
  · cases h
  · rcases h with ⟨_, _, h⟩ | ⟨d, hd, hL, _⟩
    · cases h
    · rcases h2 with ⟨h2, _⟩ | ⟨k2, i2, S2, hk2, hi2, _, _, _, hK2, h2⟩
      · omega
      · obtain rfl : i2 = i := by omega
        obtain rfl : k2 = k := by omega
        have H := hK.steps (ad_comm l)
        have H2 := hK2.steps (ad_comm l)
        have hdn := bd_s hK _ hil
        have h1 := path_back H H2 (ad_comm l) d i2 hil hd 0 (by have := H2.z; simpa using this) (by omega)
        have hdn2 := bd_s hK2 _ hkl
        have h3 := path_back H2 H (ad_comm l) (sAt S2 k2).toNat k2 hkl (by omega) 0 (by have := H.z; simpa using this) (by omega)
        rcases h2 with ⟨h2, _⟩ | ⟨d2, hd2, hL2, hq2⟩
        · omega
        · refine ⟨hq2, ?_⟩
          rw [hL, hL2, List.length_map, List.length_map, grd_len, grd_len]
          omega
/-- joined ponds have the cells of both. -/
theorem sum_set (f : R → Int) (p : R) : ∀ (l : List R) (i : Nat) (h : i < l.length), ((l.set i p).map f).sum = (l.map f).sum - f l[i] + f p := by
  intro l
  induction l with
  | nil => intro i h; simp at h
  | cons x l ih =>
    intro i h
    cases i with
    | zero => simp; omega
    | succ i =>
      have := ih i (by simpa using h)
      simp only [List.set_cons_succ, List.map_cons, List.sum_cons, List.getElem_cons_succ]
      omega
theorem sum_erase (f : R → Int) : ∀ (l : List R) (i : Nat) (h : i < l.length), ((l.eraseIdx i).map f).sum = (l.map f).sum - f l[i] := by
  intro l
  induction l with
  | nil => intro i h; simp at h
  | cons x l ih =>
    intro i h
    cases i with
    | zero => simp; omega
    | succ i =>
      have := ih i (by simpa using h)
      simp only [List.eraseIdx_cons_succ, List.map_cons, List.sum_cons, List.getElem_cons_succ]
      omega
theorem join_told {l : List R} {a b : Int} (h : joinOk l a b = true) : ∃ r, freeV l = .tuple #[.int .i64 r, .bool true] ∧ freeV (joinL l a b) = .tuple #[.int .i64 r, .bool true] := by
  have h0 : (Two l a b ∧ fills (at_ l (find l a)) (at_ l (find l b)) = true) ∧ good (joinRow l (ji l a) (ji l b) (jp l a b)) = true := by unfold joinOk at h; simpa [Bool.and_eq_true] using h
  obtain ⟨⟨ht, hf⟩, hgj⟩ := h0
  obtain ⟨i, hi, hil, hia, hg⟩ := find_ok ht.1
  obtain ⟨k, hk, hkl, hkb, _⟩ := find_ok ht.2.1
  have hne : i ≠ k := fun e => ht.2.2 ((two_ne hi hk).1 e)
  have e1 : ji l a = i := by unfold ji; rw [hi]; simp
  have e2 : ji l b = k := by unfold ji; rw [hk]; simp
  have e3 : at_ l (find l a) = l[i] := by rw [hi]; unfold at_; rw [Int.toNat_natCast, getD_at hil]
  have e4 : at_ l (find l b) = l[k] := by rw [hk]; unfold at_; rw [Int.toNat_natCast, getD_at hkl]
  have hJ : joinL l a b = joinRow l i k (jp l a b) := by unfold joinL; rw [if_pos h, e1, e2]
  rw [e1, e2] at hgj
  refine ⟨2500 - area l, by unfold freeV; rw [if_pos hg], ?_⟩
  rw [hJ]
  unfold freeV
  rw [if_pos hgj]
  have ha : area (joinRow l i k (jp l a b)) = area l := by
    unfold area joinRow
    have hks : k < (l.set i (jp l a b)).length := by rw [List.length_set]; exact hkl
    rw [sum_erase _ _ _ hks, sum_set _ _ _ _ hil, List.getElem_set_ne hne]
    have h5 : fills l[i] l[k] = true := by rw [e3, e4] at hf; exact hf
    unfold fills at h5
    have h6 := of_decide_eq_true h5
    have h7 : (jp l a b).f3 * (jp l a b).f4 = oW l[i] l[k] * oH l[i] l[k] := by unfold jp around; rw [e3, e4]
    rw [h7, h6]; omega
  rw [ha]
/-- a cut pond: the parts have a bank, and joined they are the pond. -/
theorem cut_told {l : List R} {id c : Int} (h : cutOk l id c = true) :
    (∃ r, bankV (cutL l id c) id (cutN l id c) = .tuple #[.int .i64 r, .bool true] ∧ 1 ≤ r) ∧ joinOk (cutL l id c) id (cutN l id c) = true ∧ joinL (cutL l id c) id (cutN l id c) = l := by
  have h0 : cutIn l id c = true ∧ good (cutRow l (find l id).toNat (at_ l (find l id)) c) = true := by unfold cutOk at h; rwa [Bool.and_eq_true] at h
  have h1 : 0 ≤ find l id ∧ inB c 1 ((at_ l (find l id)).f3 - 1) = true := by
    have := h0.1
    unfold cutIn at this
    rw [Bool.and_eq_true, decide_eq_true_eq] at this
    exact this
  obtain ⟨i, hi, hil, hid, hg⟩ := find_ok h1.1
  obtain ⟨x, hx⟩ : ∃ x, l[i] = x := ⟨_, rfl⟩
  have e3 : at_ l (find l id) = x := by rw [hi]; unfold at_; rw [Int.toNat_natCast, getD_at hil, hx]
  have hcy := cut_yes hi hil hx h
  rw [e3, hi, Int.toNat_natCast] at h0
  rw [e3] at h1
  have hcb := of_inB h1.2
  have hrow := hcy.1
  have hN := hcy.2
  rw [hrow, hN]
  have hlen := cut_len l i x c
  have hir : i < (cutRow l i x c).length := by omega
  have hkr : l.length < (cutRow l i x c).length := by omega
  have hxi : (cutRow l i x c)[i] = left x c := by
    have : (cutRow l i x c)[i]? = some (left x c) := by unfold cutRow; rw [List.getElem?_append_left (by rw [List.length_set]; exact hil), List.getElem?_set_self hil]
    exact (List.getElem?_eq_some_iff.1 this).2
  have hxk : (cutRow l i x c)[l.length] = right x c (nextId l) := by
    have : (cutRow l i x c)[l.length]? = some (right x c (nextId l)) := by unfold cutRow; rw [List.getElem?_append_right (by rw [List.length_set]; exact Nat.le_refl _), List.length_set, Nat.sub_self]; rfl
    exact (List.getElem?_eq_some_iff.1 this).2
  have hxf : x.f0 = id := by rw [← hx]; exact hid
  have hgr := h0.2
  have f1 : find (cutRow l i x c) id = i := by
    have := find_id hgr hir
    rw [idOf_at hir hxi] at this
    rw [← hxf]; exact this
  have f2 : find (cutRow l i x c) (nextId l) = l.length := by
    have := find_id hgr hkr
    rw [idOf_at hkr hxk] at this
    exact this
  have hne : id ≠ nextId l := fun e => by rw [e] at f1; omega
  have ht : Two (cutRow l i x c) id (nextId l) := ⟨by omega, by omega, hne⟩
  have hok := okP_true (by have := (good_all hg).2 i hil; rwa [hx] at this)
  have hbank : bank (left x c) (right x c (nextId l)) = x.f4 := by
    unfold bank left right
    dsimp only
    rw [if_pos (Or.inl rfl)]
    unfold common most least
    split <;> split <;> split <;> omega
  have hoL : oL (left x c) (right x c (nextId l)) = x.f1 := by unfold oL left right least; dsimp only; split <;> omega
  have hoT : oT (left x c) (right x c (nextId l)) = x.f2 := by unfold oT left right least; dsimp only; split <;> omega
  have hoD : oD (left x c) (right x c (nextId l)) = x.f5 := by unfold oD left right least; dsimp only; split <;> omega
  have hoW : oW (left x c) (right x c (nextId l)) = x.f3 := by unfold oW; rw [hoL]; unfold left right most; dsimp only; split <;> omega
  have hoH : oH (left x c) (right x c (nextId l)) = x.f4 := by unfold oH; rw [hoT]; unfold left right most; dsimp only; split <;> omega
  have haround : around id (left x c) (right x c (nextId l)) = x := by
    unfold around
    rw [hoL, hoT, hoD, hoW, hoH, ← hxf]
  have hfill : fills (left x c) (right x c (nextId l)) = true := by
    unfold fills
    rw [hoW, hoH]
    apply decide_eq_true
    show x.f3 * x.f4 = c * x.f4 + (x.f3 - c) * x.f4
    rw [← Int.add_mul]
    congr 1
    omega
  have e5 : at_ (cutRow l i x c) (find (cutRow l i x c) id) = left x c := by rw [f1]; unfold at_; rw [Int.toNat_natCast, getD_at hir, hxi]
  have e6 : at_ (cutRow l i x c) (find (cutRow l i x c) (nextId l)) = right x c (nextId l) := by rw [f2]; unfold at_; rw [Int.toNat_natCast, getD_at hkr, hxk]
  have hjr : joinRow (cutRow l i x c) i l.length x = l := by
    unfold joinRow cutRow
    rw [List.set_append_left _ _ (by rw [List.length_set]; exact hil), List.set_set, List.eraseIdx_append_of_length_le (by rw [List.length_set]; exact Nat.le_refl _)]
    rw [List.length_set, Nat.sub_self]
    have : l.set i x = l := by rw [← hx]; exact List.set_getElem_self hil
    rw [this]; simp
  have hji : ji (cutRow l i x c) id = i := by unfold ji; rw [f1]; simp
  have hjk : ji (cutRow l i x c) (nextId l) = l.length := by unfold ji; rw [f2]; simp
  have hjp : jp (cutRow l i x c) id (nextId l) = x := by unfold jp; rw [e5, e6, haround]
  have hjo : joinOk (cutRow l i x c) id (nextId l) = true := by
    unfold joinOk
    rw [decide_eq_true ht, e5, e6, hfill, hji, hjk, hjp, hjr, hg]; rfl
  refine ⟨⟨_, bankV_yes ht f1 f2 hir hkr hxi hxk, by rw [hbank]; omega⟩, hjo, ?_⟩
  unfold joinL
  rw [if_pos hjo, hji, hjk, hjp, hjr]
theorem free_form (l : List R) : ∃ x, freeV l = .tuple #[.int .i64 x, .bool (good l)] := by
  unfold freeV
  split
  · rename_i h; exact ⟨_, by rw [h]⟩
  · rename_i h; exact ⟨0, by rw [show good l = false by simpa using h]⟩
end Go.Proofs.Ytncdkfkihfhcgaa.MChain
