/- What FnHeaps says, as plain arithmetic: what is put can be taken again, the tons of a grade grow by it, the told heap can take it. My own. -/
import Derived.Test.YtokgncbcknpfiaaDoorHeap3
namespace Go.Proofs.YtokgncbcknpfiaaDoor.HeapFacts
open Go.RowKit Go.Proofs.YtokgncbcknpfiaaDoor.Mem Go.Proofs.YtokgncbcknpfiaaDoor.Base Go.Proofs.YtokgncbcknpfiaaDoor.HeapS Go.Proofs.YtokgncbcknpfiaaDoor.Heap Go.Proofs.YtokgncbcknpfiaaDoor.Heap2 Go.Proofs.YtokgncbcknpfiaaDoor.Heap3
set_option linter.unusedVariables false
theorem good_like {l m : List H} (hl : m.length = l.length) (h : ∀ k (hk : k < l.length) (hm : k < m.length), m[k].id = l[k].id ∧ okH m[k] = true) (hg : good l = true) : good m = true := by
  have h10 := good_len hg
  rw [good_end (k := m.length) (fun j hj => ?_) (Nat.le_refl _)]
  · exact decide_eq_true (by omega)
  · have hjl : j < l.length := by omega
    cases j with
    | zero => exact at_zero hj rfl (h 0 hjl hj).2
    | succ j =>
      have := good_asc hg j hjl
      have h1 := (h j (by omega) (by omega)).1
      have h2 := (h (j + 1) hjl hj).1
      exact at_yes hj rfl (h (j + 1) hjl hj).2 (by omega)
theorem asc_lt {l : List H} (hg : good l = true) : ∀ (k j : Nat) (hk : k < l.length) (hj : j < k), (l[j]'(by omega)).id < l[k].id := by
  intro k
  induction k with
  | zero => intro j hk hj; omega
  | succ k ih =>
    intro j hk hj
    have h1 := good_asc hg k hk
    by_cases e : j = k
    · subst e; exact h1
    · have h2 := ih j (by omega) (by omega)
      omega
theorem find_id {l : List H} (hg : good l = true) {k : Nat} (hk : k < l.length) : find l (l[k].id) = k := by
  refine find_at hg hk (fun j hj hjk => ?_) rfl
  have := asc_lt hg k j hk hjk
  omega
/-- one heap gets other layers. -/
theorem good_set {l : List H} {k : Nat} (hk : k < l.length) {ls : List Int} (hg : good l = true) (hls : okLs ls = true) : good (l.set k (withLs l[k] ls)) = true := by
  refine good_like (by simp) (fun j hj hm => ?_) hg
  rw [List.getElem_set]
  split
  · rename_i e
    subst e
    have h := okH_true (good_get hg k hk)
    exact ⟨rfl, okH_mk ⟨h.1, h.2.1, h.2.2.1, h.2.2.2.1, hls⟩⟩
  · exact ⟨rfl, good_get hg j hj⟩
theorem tonsL_cons (a : H) (l : List H) (g : Int) : tonsL (a :: l) g = (if a.gr = g then a.ls.sum else 0) + tonsL l g := by
  unfold tonsL
  by_cases h : a.gr = g
  · simp [h]
  · simp [h]
theorem tonsL_set (g : Int) (y : H) : ∀ (l : List H) (k : Nat) (hk : k < l.length), l[k].gr = g → y.gr = g → tonsL (l.set k y) g = tonsL l g + y.ls.sum - l[k].ls.sum := by
  intro l
  induction l with
  | nil => intro k hk; simp at hk
  | cons a l ih =>
    intro k hk h1 h2
    cases k with
    | zero =>
      have h1' : a.gr = g := h1
      rw [List.set_cons_zero, tonsL_cons, tonsL_cons, if_pos h2, if_pos h1']
      show _ = _ + y.ls.sum - a.ls.sum
      omega
    | succ k =>
      have := ih k (by simpa using hk) h1 h2
      rw [List.set_cons_succ, tonsL_cons, tonsL_cons, this]
      show _ = _ + y.ls.sum - (l[k]'(by simpa using hk)).ls.sum
      omega
theorem can_split {x : H} {g t : Int} (h : can x g t = true) : x.gr = g ∧ okLs (x.ls ++ [t]) = true := by
  unfold can at h
  simp only [Bool.and_eq_true] at h
  exact ⟨of_decide_eq_true h.1.1, h.2⟩
theorem put_facts {l : List H} {id g t : Int} (h : putOk l id g t = true) :
    (∃ a, tonsV l g = .tuple #[.int .i64 a, .bool true] ∧ tonsV (putH l id g t) g = .tuple #[.int .i64 (a + t), .bool true] ∧ 0 ≤ a + t ∧ a + t ≤ 120000 ∧ 0 ≤ a ∧ a ≤ 120000) ∧ good l = true ∧ good (putH l id g t) = true ∧ takeOk (putH l id g t) id t = true ∧ takeH (putH l id g t) id t = l := by
  have h0 : 0 ≤ find l id := by
    unfold putOk at h
    rw [Bool.and_eq_true] at h
    exact of_decide_eq_true h.1
  obtain ⟨k, hf, hk, hid, hg⟩ := find_ok h0
  have hc : can l[k] g t = true := by rw [← put_can hf hk rfl]; exact h
  obtain ⟨hgr, hls⟩ := can_split hc
  obtain ⟨hx, t1, t2, _, _⟩ := okLs_append.1 hls
  have hok := okH_true (good_get hg k hk)
  have hgi : inB g 1 4 = true := by rw [← hgr]; exact inB_true ⟨hok.2.2.1, hok.2.2.2.1⟩
  have hp := put_yes hf hk rfl hc
  have hgo := good_set hk hg hls
  have hsum : (l[k].ls ++ [t]).sum = l[k].ls.sum + t := by rw [List.sum_append]; simp
  have hxs := okLs_sum hx
  have hts := tonsL_set g (withLs l[k] (l[k].ls ++ [t])) l k hk hgr hgr
  rw [show (withLs l[k] (l[k].ls ++ [t])).ls = l[k].ls ++ [t] from rfl, hsum] at hts
  have hbd : ∀ (m : List H), good m = true → 0 ≤ tonsL m g ∧ tonsL m g ≤ 60000 := by
    intro m hm
    have h10 := good_len hm
    have key : ∀ m : List H, (∀ x ∈ m, okH x = true) → 0 ≤ tonsL m g ∧ tonsL m g ≤ 6000 * m.length := by
      intro m
      induction m with
      | nil => intro _; simp [tonsL]
      | cons a m ih =>
        intro hm
        have h1 := ih (fun x hx => hm x (by simp [hx]))
        have h2 := okLs_sum (okH_true (hm a (by simp))).2.2.2.2
        rw [tonsL_cons, List.length_cons]
        split <;> omega
    have := key m (good_mem hm)
    omega
  have b1 := hbd l hg
  rw [hp]
  refine ⟨⟨tonsL l g, tonsV_yes hg hgi, ?_, by omega, by omega, by omega, by omega⟩, hg, hgo, ?_, ?_⟩
  · rw [tonsV_yes hgo hgi, hts]
    congr 4
    omega
  · have hk2 : k < (l.set k (withLs l[k] (l[k].ls ++ [t]))).length := by simpa using hk
    have hf2 : find (l.set k (withLs l[k] (l[k].ls ++ [t]))) id = k := by
      have := find_id hgo hk2
      rw [List.getElem_set_self] at this
      rw [← hid]; exact this
    rw [take_can hf2 hk2 (List.getElem_set_self ..) (inB_true ⟨t1, by omega⟩)]
    exact decide_eq_true (by show t ≤ (l[k].ls ++ [t]).sum; omega)
  · have hk2 : k < (l.set k (withLs l[k] (l[k].ls ++ [t]))).length := by simpa using hk
    have hf2 : find (l.set k (withLs l[k] (l[k].ls ++ [t]))) id = k := by
      have := find_id hgo hk2
      rw [List.getElem_set_self] at this
      rw [← hid]; exact this
    rw [take_yes hf2 hk2 (List.getElem_set_self ..) (inB_true ⟨t1, by omega⟩) (by show t ≤ (l[k].ls ++ [t]).sum; omega)]
    rw [show takeL (withLs l[k] (l[k].ls ++ [t])).ls t = l[k].ls from by
      show takeL (l[k].ls ++ [t]) t = l[k].ls
      rw [takeL_all (by omega) (Int.le_refl _), takeL_none (by omega)], List.set_set]
    exact List.set_getElem_self hk
theorem for_facts {l : List H} {g t best : Int} (h : forV l g t = .tuple #[.int .i64 best, .bool true]) : putOk l best g t = true := by
  cases hg : good l
  · rw [forV_bad hg] at h; simp at h
  · cases hp : pick 501 l g t l.length with
    | none => rw [forV_none hp] at h; simp at h
    | some b =>
      obtain ⟨hb, hc⟩ := pick_ok (Nat.le_refl _) hp
      rw [forV_some hg hp hb rfl] at h
      obtain rfl : l[b].id = best := by simpa using h
      rw [put_can (find_id hg hb) hb rfl]
      rw [h_at hb] at hc
      exact hc
theorem take_good {l : List H} {id t : Int} (h : takeOk l id t = true) : good (takeH l id t) = true := by
  have h0 : 0 ≤ find l id := by
    unfold takeOk at h
    simp only [Bool.and_eq_true] at h
    exact of_decide_eq_true h.1.1
  obtain ⟨k, hf, hk, hid, hg⟩ := find_ok h0
  have h1 : inB t 1 6000 = true := by
    unfold takeOk at h
    simp only [Bool.and_eq_true] at h
    exact h.1.2
  have hc := (take_can hf hk rfl h1).symm.trans h
  rw [take_yes hf hk rfl h1 (of_decide_eq_true hc)]
  exact good_set hk hg (takeL_ok _ _ _ rfl (okH_true (good_get hg k hk)).2.2.2.2)
end Go.Proofs.YtokgncbcknpfiaaDoor.HeapFacts
