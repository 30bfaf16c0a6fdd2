/- Chain: the model's. -/
import Derived.Test.YtncdkfkihfhcgaaSteps2
import Derived.Test.YtncdkfkihfhcgaaPond9
namespace Go.Proofs.Ytncdkfkihfhcgaa.Chain
open Go.RowKit Go.Proofs.Ytncdkfkihfhcgaa.Mem Go.Proofs.Ytncdkfkihfhcgaa.Base Go.Proofs.Ytncdkfkihfhcgaa.Within Go.Proofs.Ytncdkfkihfhcgaa.SPond Go.Proofs.Ytncdkfkihfhcgaa.Regn Go.Proofs.Ytncdkfkihfhcgaa.Boxes Go.Proofs.Ytncdkfkihfhcgaa.Pond Go.Proofs.Ytncdkfkihfhcgaa.Pond2 Go.Proofs.Ytncdkfkihfhcgaa.Pond3 Go.Proofs.Ytncdkfkihfhcgaa.Pond4 Go.Proofs.Ytncdkfkihfhcgaa.IPond2 Go.Proofs.Ytncdkfkihfhcgaa.SInt Go.Proofs.Ytncdkfkihfhcgaa.Keep Go.Proofs.Ytncdkfkihfhcgaa.Pond9 Go.Proofs.Ytncdkfkihfhcgaa.Steps Go.Proofs.Ytncdkfkihfhcgaa.Bfs
set_option linter.unusedVariables false
set_option maxRecDepth 100000
theorem grd_cons (n : Nat) (adj : Nat → Nat → Bool) (s : Nat → Int) (v r : Nat) : grd n adj s v r = v :: (grd n adj s v r).drop 1 := by cases r <;> rfl
theorem headD_first {p : Nat → Bool} {t : Nat} : ∀ (l : List Nat), l.Pairwise (· < ·) → t ∈ l → p t = true → (∀ y ∈ l, y < t → p y = false) → (l.filter p).headD 0 = t := by
  intro l
  induction l with
  | nil => intro _ h; cases h
  | cons x l ih =>
    intro hs ht hp hlt
    rcases List.mem_cons.1 ht with rfl | ht
    · rw [List.filter_cons_of_pos hp]; rfl
    · have hx : x < t := (List.pairwise_cons.1 hs).1 t ht
      rw [List.filter_cons_of_neg (by rw [hlt x (List.mem_cons_self ..) hx]; decide)]
      exact ih (List.pairwise_cons.1 hs).2 ht hp (fun y hy => hlt y (List.mem_cons_of_mem _ hy))
theorem nxt_is {n : Nat} {adj : Nat → Nat → Bool} {s : Nat → Int} {v m t : Nat} (ht : t < n) (h1 : adj v t = true) (h2 : s t = m) (hl : ∀ y, y < t → ¬ (adj v y = true ∧ s y = m)) : nxt n adj s v m = t := by
  unfold nxt
  refine headD_first _ (List.pairwise_lt_range) (List.mem_range.2 ht) (by simp [h1, h2]) (fun y _ hy => ?_)
  have := hl y hy
  cases h : adj v y
  · rfl
  · rw [h] at this; simp at this; simp [this]
def idOf (l : List R) (j : Nat) : Int := (l.getD j zero).f0
theorem idOf_at {l : List R} {j : Nat} {x : R} (h : j < l.length) (hx : l[j] = x) : idOf l j = x.f0 := by unfold idOf; rw [getD_at h, hx]
def IsChain (l : List R) (a b : Int) (L : List Int) (q : Bool) : Prop :=
  ((find l a < 0 ∨ find l b < 0) ∧ L = [] ∧ q = false) ∨
  ∃ (i k : Nat) (S : List Int), find l a = i ∧ find l b = k ∧ i < l.length ∧ k < l.length ∧ good l = true ∧ K (ad l) l.length k l.length 0 l.length S ∧
    ((sAt S i < 0 ∧ L = [] ∧ q = false) ∨ ∃ d : Nat, sAt S i = d ∧ L = (grd l.length (ad l) (sAt S) i d).map (idOf l) ∧ q = true)
def ChPost (l : List R) (a b : Int) (w : World) (e : Ending) (w' : World) : Prop := ∃ L q, NbPost L q w e w' ∧ IsChain l a b L q
theorem one_own {u : World} {base : Nat} (hb : base ≤ u.heap.size) (a : Int) : (u.alloc (.cells #[.int .i64 a] 3)).ownsRow base 3 1 (.slice (some ⟨u.heap.size, 0, none⟩) 1 1) 1 (iv [a]) := by
  have := World.ownsRow_lit u #[.int .i64 a] 1 (e := 3) (size := 1) (base := base) hb (by unfold maxLen; omega) rfl
  simpa [iv] using this
/-- what the inner search has: z, the least place at or behind q at which p holds, or -1. -/
def Least (p : Nat → Prop) (n q : Nat) (z : Int) : Prop := (z = -1 ∧ ∀ y, q ≤ y → y < n → ¬ p y) ∨ ∃ t : Nat, z = t ∧ q ≤ t ∧ t < n ∧ p t ∧ ∀ y, q ≤ y → y < t → ¬ p y
theorem Least.yes {p : Nat → Prop} {n q : Nat} {z : Int} (h : Least p n (q + 1) z) (hq : q < n) (hp : p q) : Least p n q q := .inr ⟨q, rfl, Nat.le_refl _, hq, hp, fun y h1 h2 => by omega⟩
theorem Least.no {p : Nat → Prop} {n q : Nat} {z : Int} (h : Least p n (q + 1) z) (hp : ¬ p q) : Least p n q z := by
  rcases h with ⟨h, hy⟩ | ⟨t, h, h1, h2, h3, h4⟩
  · exact .inl ⟨h, fun y h1 h2 => by
      by_cases e : y = q
      · rw [e]; exact hp
      · exact hy y (by omega) h2⟩
  · exact .inr ⟨t, h, by omega, h2, h3, fun y h5 h6 => by
      by_cases e : y = q
      · rw [e]; exact hp
      · exact h4 y (by omega) h6⟩
set_option maxHeartbeats 3200000 in
theorem chain_spec (P : Option Addr) (cap : Nat) (l : List R) (a b : Int) (w : World) (hr : Rd w w.heap.size P (flat l)) (hn : l.length ≤ 1048576) :
    Calls Try.prog 8 #[.slice P l.length cap, .int .i64 a, .int .i64 b] w (ChPost l a b w) := by
  obtain ⟨i0, hi, hz0, hz1, hz2⟩ := info_parts info_int
  have HI := Lib.hid hz2; clear hz2
  have HI1 := Lib.hid hz1; clear hz1
  have HR := Lib.hid hr; clear hr
  go_enter Try.func8, Try.ntmps8
  go_wp2_with fail
  refine (find_spec P cap l a w HR.out hn).mono ?_
  rintro e w1 ⟨rfl, hv1⟩
  go_wp2_with fail
  refine (find_spec P cap l b w1 (rd_keep HR.out hv1) hn).mono ?_
  rintro e w2 ⟨rfl, hv2⟩
  have HB : Below w.heap.size w w2 := be hv1 hv2
  clear hv1 hv2
  by_cases ha : 0 ≤ find l a
  · by_cases hb : 0 ≤ find l b
    · obtain ⟨i, hi', hil, hia, hg⟩ := find_ok ha
      obtain ⟨k, hk', hkl, _, _⟩ := find_ok hb
      have HF := Lib.hid (And.intro hi' hk')
      rw [hi', hk']; clear hi' hk' ha hb
      obtain ⟨bb, o, rfl, hbb, hc⟩ := HR.out.at (k := i * 6) (by rw [flat_n]; omega)
      have hi0 : decide ((i : Int) < 0) = false := decide_eq_false (by omega)
      have hk0 : decide ((k : Int) < 0) = false := decide_eq_false (by omega)
      go_wp2_with fail
      refine (steps_spec (some ⟨bb, o, none⟩) cap l k w2 (rd_keep HR.out HB) hg hkl).mono ?_
      rintro e w3 ⟨S, rfl, OS, hv3, hK⟩
      have hbase := HB.size
      replace HB := be HB hv3
      replace OS := own_base OS (base' := w.heap.size) hbase
      clear hv3
      generalize w2.heap.size = gS at OS hbase ⊢
      have HK := Lib.hid hK; clear hK
      obtain ⟨d, hd⟩ : ∃ d, sAt S i = d := ⟨_, rfl⟩
      have m0 := own_get OS hil HK.out.len hd
      by_cases hneg : d < 0
      · have hd1 : decide (d < 0) = true := decide_eq_true hneg
        have HD := Lib.hid hd; clear hd
        go_wp2
        go_ret2
        exact ⟨[], false, nb_mk rfl rfl rfl (empty_own HB) (al HB), .inr ⟨i, k, S, HF.out.1, HF.out.2, hil, hkl, hg, HK.out, .inl ⟨by rw [HD.out]; exact hneg, rfl, rfl⟩⟩⟩
      · have hd1 : decide (d < 0) = false := decide_eq_false hneg
        obtain ⟨r0, rfl⟩ : ∃ r : Nat, d = r := ⟨d.toNat, by omega⟩
        have hr0 : (r0 : Int) ≤ l.length := by have := HK.out.bd i hil; omega
        have HG := Lib.hid (good_all hg); have HC := Lib.hid hc; have HGD := Lib.hid hg; clear hc hg hneg
        have h10 := HG.out.1
        have HD := Lib.hid hd; clear hd
        have e1 : IntKind.i64.wrap ((r0 : Int) - 1) = (r0 : Int) - 1 := IntWalk.i64_in _ (by omega)
        have O := one_own (own_lt OS) a
        replace HB := al HB (o := .cells #[.int .i64 a] 3)
        replace OS := own_keep OS (al (Below.refl _ w3) (o := .cells #[.int .i64 a] 3))
        have m0' := own_get OS hil HK.out.len HD.out
        have HST := Lib.hid (show [a] ++ ((grd l.length (ad l) (sAt S) i r0).drop 1).map (idOf l) = (grd l.length (ad l) (sAt S) i r0).map (idOf l) by
          conv => rhs; rw [grd_cons]
          have : idOf l i = a := (idOf_at hil rfl).trans hia
          simp [this])
        go_wp2
        clear m0
        generalize hGV : w3.alloc (.cells #[.int .i64 a] 3) = V at O HB OS m0' ⊢
        clear hGV
        go_loopw [8, 11, 12] (fun iv_ o_ n_ wr => ∃ (v r : Nat) (L : List Int) (A : Option Addr) (c : Nat), v < l.length ∧ (r : Int) ≤ l.length ∧ iv_ = .int .i64 v ∧ o_ = .slice A L.length c ∧ n_ = .int .i64 ((r : Int) - 1) ∧ L.length ≤ l.length + 1 - r ∧ Hid (sAt S v = r ∧ L ++ ((grd l.length (ad l) (sAt S) v r).drop 1).map (idOf l) = (grd l.length (ad l) (sAt S) i r0).map (idOf l)) ∧ wr.ownsRow (gS + 1) 3 1 (.slice A L.length c) L.length (iv L) ∧ wr.ownsRow w.heap.size 3 1 (.slice (some ⟨gS, 0, none⟩) l.length l.length) l.length (iv S) ∧ Below w.heap.size w wr) (fun _ _ n_ _ => (intOf n_ + 1).toNat)
        case atStart => exact ⟨i, r0, [a], _, _, hil, hr0, rfl, rfl, rfl, by simp; omega, Lib.hid ⟨HD.out, HST.out⟩, O, OS, HB⟩
        case round =>
          clear O OS HB m0' HST
          obtain ⟨v, r, L, A, c, hv, hrl, rfl, rfl, rfl, hL, HST, O, OS, HB⟩ := hrel
          by_cases hz : r = 0
          · subst hz
            go_wp2
            go_ret2
            exact ⟨L, true, nb_mk rfl rfl rfl (own_base O (base' := w.heap.size) (by omega)) HB, .inr ⟨i, k, S, HF.out.1, HF.out.2, hil, hkl, HGD.out, HK.out, .inr ⟨r0, HD.out, by have := HST.out.2; simpa [grd] using this, rfl⟩⟩⟩
          · obtain ⟨r, rfl⟩ : ∃ r', r = r' + 1 := ⟨r - 1, by omega⟩
            have en : (((r + 1 : Nat) : Int) - 1) = (r : Int) := by omega
            have e2 : IntKind.i64.wrap ((l.length : Int) - 1) = (l.length : Int) - 1 := IntWalk.i64_in _ (by omega)
            rw [en]
            clear hz
            go_wp2
            go_loopw [13, 14] (fun z_ j_ wr => ∃ (q : Nat) (z : Int), q ≤ l.length ∧ z_ = .int .i64 z ∧ j_ = .int .i64 ((q : Int) - 1) ∧ Hid (Least (fun y => ad l v y = true ∧ sAt S y = r) l.length q z) ∧ wr.ownsRow (gS + 1) 3 1 (.slice A L.length c) L.length (iv L) ∧ wr.ownsRow w.heap.size 3 1 (.slice (some ⟨gS, 0, none⟩) l.length l.length) l.length (iv S) ∧ Below w.heap.size w wr) (fun _ j_ _ => (intOf j_ + 1).toNat)
            case atStart => exact ⟨l.length, -1, Nat.le_refl _, rfl, rfl, Lib.hid (.inl ⟨rfl, fun y h1 h2 => by omega⟩), O, OS, HB⟩
            case round =>
              clear O OS HB
              obtain ⟨q, z, hq, rfl, rfl, HLe, O, OS, HB⟩ := hrel
              by_cases hq0 : q = 0
              · subst hq0
                obtain ⟨t0, ht0, hat0, hst0⟩ := HK.out.c v hv r (by rw [HST.out.1]; omega)
                obtain ⟨t, hzt, htl, hat, hst, hmin⟩ : ∃ t : Nat, z = t ∧ t < l.length ∧ ad l v t = true ∧ sAt S t = r ∧ ∀ y, y < t → ¬ (ad l v y = true ∧ sAt S y = r) := by
                  rcases HLe.out with ⟨_, h⟩ | ⟨t, h1, _, h2, h3, h4⟩
                  · exact absurd ⟨hat0, hst0⟩ (h t0 (Nat.zero_le _) ht0)
                  · exact ⟨t, h1, h2, h3.1, h3.2, fun y hy => h4 y (Nat.zero_le _) hy⟩
                subst hzt
                clear ht0 hat0 hst0
                have hnx : nxt l.length (ad l) (sAt S) v r = t := nxt_is htl hat hst hmin
                obtain ⟨y, hy⟩ : ∃ y, l[t] = y := ⟨_, rfl⟩
                obtain ⟨y0, y1, y2, y3, y4, y5⟩ := cells6 (Below.refl _ w) hbb HC.out htl hy
                clear y1 y2 y3 y4 y5
                have HN := Lib.hid (show sAt S t = r ∧ (L ++ [y.f0]) ++ ((grd l.length (ad l) (sAt S) t r).drop 1).map (idOf l) = (grd l.length (ad l) (sAt S) i r0).map (idOf l) by
                  refine ⟨hst, ?_⟩
                  rw [← HST.out.2]
                  have e : (grd l.length (ad l) (sAt S) v (r + 1)).drop 1 = grd l.length (ad l) (sAt S) t r := by rw [← hnx]; rfl
                  rw [e]
                  conv => rhs; rw [grd_cons]
                  simp [idOf_at htl hy])
                clear hat hst hmin hnx hy HST HLe hq
                have hm1 : L.length + 1 ≤ maxLen := by unfold maxLen; omega
                have hm2 : (L.length + 1) * 8 ≤ 140737488355328 := by omega
                have er : IntKind.i64.wrap ((r : Int) - 1) = (r : Int) - 1 := IntWalk.i64_in _ (by omega)
                have y0' := ((bcell HB).1 _ _ hbb).trans y0
                have hsz := own_lt OS
                have t0 : decide ((t : Int) < 0) = false := decide_eq_false (by omega)
                go_wp2_with (at_builtin; go_must (refine wpList_append_own _ rfl _ _ 27 rfl (gS + 1) 3 i0 _ 1 8 Try.underlying27 hi hz0 HI1.out HI.out rfl (by decide) _ L.length _ rfl (O.alloc _) ⟨wr.heap.size, 0, none⟩ 1 1 [.int .i64 y.f0] rfl rfl (cell_one_new _ _ _) (one_cell rfl) hm1 hm2 (by rw [size_alloc']; omega) ?_; intro v' w9 hown1 hgrow _))
                have OS9 := own_grownN (OS.alloc (.cells #[.int .i64 y.f0] 3)) hgrow (fun k hk => by have := own_ge O k hk; omega)
                have hB9 := below_append HB (own_base O (base' := w.heap.size) (by omega)) hgrow
                obtain ⟨A1, c1, rfl⟩ := own_form hown1
                have HO1 : w9.ownsRow (gS + 1) 3 1 (.slice A1 (L ++ [y.f0]).length c1) (L ++ [y.f0]).length (iv (L ++ [y.f0])) := by
                  have e : iv (L ++ [y.f0]) = iv L ++ [.int .i64 y.f0] := by simp [iv]
                  rw [e, List.length_append]; exact hown1
                have hL1 : (L ++ [y.f0]).length ≤ l.length + 1 - r := by rw [List.length_append]; simp; omega
                clear hgrow hown1 HB O OS hm1 hm2 y0 y0'
                go_wp2
                exact ⟨⟨t, r, L ++ [y.f0], A1, c1, htl, by omega, rfl, by rw [List.length_append] <;> rfl, rfl, hL1, HN, HO1, OS9, hB9⟩, by simp [intOf] <;> omega⟩
              · obtain ⟨q, rfl⟩ : ∃ q', q = q' + 1 := ⟨q - 1, by omega⟩
                have hltq : q < l.length := by omega
                have eq1 : (((q + 1 : Nat) : Int) - 1) = (q : Int) := by omega
                have eq2 : IntKind.i64.wrap ((q : Int) - 1) = (q : Int) - 1 := IntWalk.i64_in _ (by omega)
                rw [eq1]
                clear hq0 hq
                obtain ⟨u, hu⟩ : ∃ u, sAt S q = u := ⟨_, rfl⟩
                have HU := Lib.hid hu; clear hu
                by_cases hur : u = r
                · subst hur
                  obtain ⟨x, hx⟩ : ∃ x, l[v] = x := ⟨_, rfl⟩
                  obtain ⟨y, hy⟩ : ∃ y, l[q] = y := ⟨_, rfl⟩
                  obtain ⟨x0, x1, x2, x3, x4, x5⟩ := cells6 (Below.refl _ w) hbb HC.out hv hx
                  obtain ⟨y0, y1, y2, y3, y4, y5⟩ := cells6 (Below.refl _ w) hbb HC.out hltq hy
                  have HCY := Lib.hid (fun z => bank_spec x y (by have := HG.out.2 v hv; rwa [hx] at this) (by have := HG.out.2 q hltq; rwa [hy] at this) z)
                  have HA := Lib.hid (ad_at hv hltq hx hy)
                  clear hx hy
                  generalize bank x y = t at HCY HA
                  have x0_c := ((bcell HB).1 _ _ hbb).trans x0
                  have x1_c := ((bcell HB).1 _ _ hbb).trans x1
                  have x2_c := ((bcell HB).1 _ _ hbb).trans x2
                  have x3_c := ((bcell HB).1 _ _ hbb).trans x3
                  have x4_c := ((bcell HB).1 _ _ hbb).trans x4
                  have x5_c := ((bcell HB).1 _ _ hbb).trans x5
                  have y0_c := ((bcell HB).1 _ _ hbb).trans y0
                  have y1_c := ((bcell HB).1 _ _ hbb).trans y1
                  have y2_c := ((bcell HB).1 _ _ hbb).trans y2
                  have y3_c := ((bcell HB).1 _ _ hbb).trans y3
                  have y4_c := ((bcell HB).1 _ _ hbb).trans y4
                  have y5_c := ((bcell HB).1 _ _ hbb).trans y5
                  go_wp2_with fail
                  refine wp_region_text (fun w' => Below w.heap.size w w' ∧ w'.ownsRow (gS + 1) 3 1 (.slice A L.length c) (L.length) (iv L) ∧ w'.ownsRow (w.heap.size) 3 1 (.slice (some ⟨gS, 0, none⟩) l.length l.length) (l.length) (iv S)) (by kernel_rfl) (by kernel_rfl) ⟨be HB (Below.refl _ _).drew, own_keep O (Below.refl _ _).drew, own_keep OS (Below.refl _ _).drew⟩ ?_
                  clear x0_c
                  clear x1_c
                  clear x2_c
                  clear x3_c
                  clear x4_c
                  clear x5_c
                  clear y0_c
                  clear y1_c
                  clear y2_c
                  clear y3_c
                  clear y4_c
                  clear y5_c
                  iterate 18 (
                    apply SeqH.one
                    · intro uw K hS hK
                      obtain ⟨qHB, qO, qOS⟩ := hS
                      have qx0_c := ((bcell qHB).1 _ _ hbb).trans x0
                      have qx1_c := ((bcell qHB).1 _ _ hbb).trans x1
                      have qx2_c := ((bcell qHB).1 _ _ hbb).trans x2
                      have qx3_c := ((bcell qHB).1 _ _ hbb).trans x3
                      have qx4_c := ((bcell qHB).1 _ _ hbb).trans x4
                      have qx5_c := ((bcell qHB).1 _ _ hbb).trans x5
                      have qy0_c := ((bcell qHB).1 _ _ hbb).trans y0
                      have qy1_c := ((bcell qHB).1 _ _ hbb).trans y1
                      have qy2_c := ((bcell qHB).1 _ _ hbb).trans y2
                      have qy3_c := ((bcell qHB).1 _ _ hbb).trans y3
                      have qy4_c := ((bcell qHB).1 _ _ hbb).trans y4
                      have qy5_c := ((bcell qHB).1 _ _ hbb).trans y5
                      first
                        | (go_simp; exact hK.out _ ⟨qHB, qO, qOS⟩)
                        | (go_simp; have m1 := own_get qOS hltq HK.out.len HU.out; go_simp; exact hK.out _ ⟨qHB, qO, qOS⟩)
                        | (go_simp; go_at_call 34; (with_reducible refine (HCY.out _).mono ?_); rintro e uw1 ⟨rfl, hv⟩; go_wp2_with fail; exact hK.out _ ⟨be qHB hv, own_keep qO hv, own_keep qOS hv⟩)
                    try simp only [Act.put, List.setIfInBounds_toArray, List.set_cons_zero, List.set_cons_succ])
                  refine SeqH.end' rfl ?_
                  intro v1 hS
                  clear HB O OS
                  obtain ⟨HB, O, OS⟩ := hS
                  have x0_c := ((bcell HB).1 _ _ hbb).trans x0
                  have x1_c := ((bcell HB).1 _ _ hbb).trans x1
                  have x2_c := ((bcell HB).1 _ _ hbb).trans x2
                  have x3_c := ((bcell HB).1 _ _ hbb).trans x3
                  have x4_c := ((bcell HB).1 _ _ hbb).trans x4
                  have x5_c := ((bcell HB).1 _ _ hbb).trans x5
                  have y0_c := ((bcell HB).1 _ _ hbb).trans y0
                  have y1_c := ((bcell HB).1 _ _ hbb).trans y1
                  have y2_c := ((bcell HB).1 _ _ hbb).trans y2
                  have y3_c := ((bcell HB).1 _ _ hbb).trans y3
                  have y4_c := ((bcell HB).1 _ _ hbb).trans y4
                  have y5_c := ((bcell HB).1 _ _ hbb).trans y5
                  by_cases ht : 0 < t
                  · go_wp2
                    exact ⟨⟨q, q, by omega, rfl, by go_num, Lib.hid (HLe.out.yes hltq ⟨by rw [HA.out]; exact decide_eq_true ht, HU.out⟩), O, OS, HB⟩, by simp [intOf] <;> omega⟩
                  · go_wp2
                    exact ⟨⟨q, z, by omega, rfl, by go_num, Lib.hid (HLe.out.no (fun h => by rw [HA.out] at h; exact ht (of_decide_eq_true h.1))), O, OS, HB⟩, by simp [intOf] <;> omega⟩
                · have hb1 : (u == (r : Int)) = false := by simp [hur]
                  go_wp2_with fail
                  refine wp_region_text (fun w' => Below w.heap.size w w' ∧ w'.ownsRow (gS + 1) 3 1 (.slice A L.length c) (L.length) (iv L) ∧ w'.ownsRow (w.heap.size) 3 1 (.slice (some ⟨gS, 0, none⟩) l.length l.length) (l.length) (iv S)) (by kernel_rfl) (by kernel_rfl) ⟨be HB (Below.refl _ _).drew, own_keep O (Below.refl _ _).drew, own_keep OS (Below.refl _ _).drew⟩ ?_
                  iterate 18 (
                    apply SeqH.one
                    · intro uw K hS hK
                      obtain ⟨qHB, qO, qOS⟩ := hS
                      first
                        | (go_simp; exact hK.out _ ⟨qHB, qO, qOS⟩)
                        | (go_simp; have m1 := own_get qOS hltq HK.out.len HU.out; go_simp; exact hK.out _ ⟨qHB, qO, qOS⟩)
                    try simp only [Act.put, List.setIfInBounds_toArray, List.set_cons_zero, List.set_cons_succ])
                  refine SeqH.end' rfl ?_
                  intro v2 hS
                  clear HB O OS
                  obtain ⟨HB, O, OS⟩ := hS
                  have HUR := Lib.hid hur; clear hur
                  go_wp2
                  exact ⟨⟨q, z, by omega, rfl, by go_num, Lib.hid (HLe.out.no (fun h => HUR.out (by rw [← HU.out]; exact h.2))), O, OS, HB⟩, by simp [intOf] <;> omega⟩
    · have hb1 : decide (find l b < 0) = true := decide_eq_true (by omega)
      have ha1 : decide (find l a < 0) = false := decide_eq_false (by omega)
      have HN := Lib.hid hb; clear hb
      go_wp2
      go_ret2
      exact ⟨[], false, nb_mk rfl rfl rfl (empty_own HB) (al HB), .inl ⟨.inr (by have := HN.out; omega), rfl, rfl⟩⟩
  · have ha1 : decide (find l a < 0) = true := decide_eq_true (by omega)
    have HN := Lib.hid ha; clear ha
    go_wp2
    go_ret2
    exact ⟨[], false, nb_mk rfl rfl rfl (empty_own HB) (al HB), .inl ⟨.inl (by have := HN.out; omega), rfl, rfl⟩⟩
end Go.Proofs.Ytncdkfkihfhcgaa.Chain
