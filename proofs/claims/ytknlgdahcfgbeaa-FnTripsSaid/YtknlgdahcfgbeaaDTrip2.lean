/- The draw of trips. Made by tools/mk_dtrip2.py. -/
import Derived.Test.YtknlgdahcfgbeaaDTrip
import Derived.Test.YtknlgdahcfgbeaaTripG
import Derived.Test.YtknlgdahcfgbeaaTripCl
import Derived.Deep.AppendLies
import Derived.Deep.RegionLaw
import Derived.RegionTactic
import Derived.Deep.Cut
namespace Go.Proofs.Ytknlgdahcfgbeaa.DTrip2
open Go.RowKit Go.Proofs.Ytknlgdahcfgbeaa.Mem Go.Proofs.Ytknlgdahcfgbeaa.Base Go.Proofs.Ytknlgdahcfgbeaa.Draw Go.Proofs.Ytknlgdahcfgbeaa.Boxes Go.Proofs.Ytknlgdahcfgbeaa.Keep Go.Proofs.Ytknlgdahcfgbeaa.Dr Go.Proofs.Ytknlgdahcfgbeaa.STrip Go.Proofs.Ytknlgdahcfgbeaa.DTrip0 Go.Proofs.Ytknlgdahcfgbeaa.DTrip Go.Proofs.Ytknlgdahcfgbeaa.TripP Go.Proofs.Ytknlgdahcfgbeaa.TripS Go.Proofs.Ytknlgdahcfgbeaa.TripG Go.Proofs.Ytknlgdahcfgbeaa.TripCl
set_option linter.unusedVariables false
set_option maxRecDepth 100000
theorem step_append_any {P : Program} (w : World) {ops : Array Oper} {o : Oper} {a : Act} {K : Act → World → Prop} {Q : Exit → Act → World → Prop} {E : Prop} (hgd : o.guard = none) (s x : Operand) (t : TypeId)
    (ho : o.op = .call { callee := .builtin .append, args := #[s, x], argTypes := #[t, t] })
    (base : Nat) (e : TypeId) (i : TypeInfo) (z : Value) (size bytes : Nat) (ht : P.underlying t = some (.slice e)) (hi : P.info? e = some i) (hz : i.zero = some z)
    (hsize : i.size = size) (hby : i.bytes = bytes) (hzs : z.cells.size = size) (hsz : 0 < size)
    (v : Value) (n : Nat) (xs : List Value) (hs : a.eval s = v) (hown : w.ownsRow base e size v n xs)
    (ad : Addr) (m c : Nat) (news : List Value) (hx : a.eval x = .slice (some ad) m c) (hl : news.length = m * size) (hnews : ∀ j u, news[j]? = some u → w.cell? (ad.add j) = some u) (h1 : ∀ u ∈ news, u.oneCell' = true)
    (hm : v ≠ .slice none 0 0) (h63 : n + m ≤ maxLen) (hbytes : (n + m) * bytes ≤ 140737488355328) (hbase : base ≤ w.heap.size) (H : Nat) (hH : w.heap.size = H)
    (h : ∀ g cap w', w'.ownsRow base e size (.slice (some ⟨g, 0, none⟩) (n + m) cap) (n + m) (xs ++ news) → w.grownBy w' v.ownBlock → (v.ownBlock = some g ∨ g = H) → g < w'.heap.size → K (a.put o.dst (.slice (some ⟨g, 0, none⟩) (n + m) cap)) w') :
    if Region.wanted o (yielded ops a.tmps) = true then Oper.wp P o a w K Q else E := by
  have hw : Region.wanted o (yielded ops a.tmps) = true := by simp [Region.wanted, hgd]
  rw [if_pos hw]
  obtain ⟨v', w', hr, h2, h3, h4, h5⟩ := run_append_own_at (P := P) w base t o.type e i z size bytes ht hi hz hsize hby hzs hsz v n xs hown ad m c news hl hnews h1 h63 hbytes hbase
  obtain ⟨g, cap, rfl, hlt⟩ : ∃ g cap, v' = .slice (some ⟨g, 0, none⟩) (n + m) cap ∧ g < w'.heap.size := by
    rcases h2.2 with ⟨h0, _⟩ | ⟨g, cap, cur, hv, hb, hg, _⟩
    · exact absurd (h4.1 h0).1 hm
    · refine ⟨g, cap, hv, ?_⟩
      rcases Nat.lt_or_ge g w'.heap.size with hlt | hge
      · exact hlt
      · rw [Array.getElem?_eq_none hge] at hg; cases hg
  have h6 : v.ownBlock = some g ∨ g = H := by
    rcases h5 with h5 | h5
    · exact .inl (by rw [← h5]; rfl)
    · right
      have : g = w.heap.size := by simpa [Value.ownBlock] using h5
      rw [this, hH]
  unfold Oper.wp execOp
  simp only [ho, resolve, invoke, builtin, Sem.run_bind, Sem.run_pure, Result.andThen_ok, List.map_toArray, List.map_cons, List.map_nil, hs, hx, hr]
  exact h g cap w' h2 h3 h6 hlt
theorem cb_grownN {g : Nat} {cs : List Value} {W V : World} {row : Option Nat} (h : Cb g cs W) (hg : W.grownBy V row) (hr : ∀ k, row = some k → k ≠ g) : Cb g cs V := by
  have hb : V.heap[g]? = W.heap[g]? := hg.block g h.there (fun e => hr g e.symm rfl)
  exact ⟨fun i v hv => (World.cell?_of_block (w := W) hb).trans (h.cells i v hv), fun i hi => (World.frozen?_of_block (w := W) hb).trans (h.free i hi), Nat.lt_of_lt_of_le h.there hg.size⟩
theorem new5 (W : World) (x : R) : ∀ j u, [Value.int .i64 x.f0, .int .i64 x.f1, .int .i64 x.f2, .int .i64 x.f3, .int .i64 x.f4][j]? = some u →
    (W.alloc (.cells #[.int .i64 x.f0, .int .i64 x.f1, .int .i64 x.f2, .int .i64 x.f3, .int .i64 x.f4] 25)).cell? ((⟨W.heap.size, 0, none⟩ : Addr).add j) = some u := by
  intro j u hu
  rw [cell_add, Nat.zero_add, World.cell?_alloc_at _ _ _ _ rfl]
  simpa using hu
theorem one5 (x : R) : ∀ u ∈ [Value.int .i64 x.f0, .int .i64 x.f1, .int .i64 x.f2, .int .i64 x.f3, .int .i64 x.f4], u.oneCell' = true := by
  intro u hu; simp at hu; rcases hu with rfl | rfl | rfl | rfl | rfl <;> rfl
theorem flat_snoc (l : List R) (x : R) : flat (l ++ [x]) = flat l ++ [.int .i64 x.f0, .int .i64 x.f1, .int .i64 x.f2, .int .i64 x.f3, .int .i64 x.f4] := by simp [flat, R.cells]
theorem own5 {W : World} {base g n c i : Nat} {l : List R} {x : R} (O : W.ownsRow base 25 5 (.slice (some ⟨g, 0, none⟩) n c) n (flat l)) (hi : i < l.length) (hx : l[i] = x) :
    W.cell? ⟨g, i * 5, none⟩ = some (.int .i64 x.f0) ∧ W.cell? ⟨g, i * 5 + 1, none⟩ = some (.int .i64 x.f1) ∧ W.cell? ⟨g, i * 5 + 2, none⟩ = some (.int .i64 x.f2) ∧ W.cell? ⟨g, i * 5 + 3, none⟩ = some (.int .i64 x.f3) ∧ W.cell? ⟨g, i * 5 + 4, none⟩ = some (.int .i64 x.f4) := by
  obtain ⟨b, o, hA, hb, hc⟩ := (Rd.of_own O).at (k := i * 5) (by rw [flat_n]; omega)
  injection hA with hA; injection hA with e1 e2 e3
  subst e1; subst e2
  have := cells5 (Below.refl _ W) hb hc hi hx
  simpa using this
def AllSm (l : List R) : Prop := ∀ x ∈ l, Sm x
theorem AllSm.nil : AllSm [] := fun _ h => by cases h
theorem AllSm.snoc {l : List R} {x : R} (h : AllSm l) (hx : Sm x) : AllSm (l ++ [x]) := by
  intro y hy
  rcases List.mem_append.1 hy with h1 | h1
  · exact h y h1
  · rw [List.mem_singleton.1 h1]; exact hx
def Lot (B : Nat) (zs : List Int) (p K : Nat) (w : World) (e : Ending) (w' : World) : Prop :=
  ∃ (L : List R) (g c : Nat), L.length ≤ 20 ∧ AllSm L ∧ e = .returned (.slice (some ⟨g, 0, none⟩) L.length c) ∧ w'.ownsRow w.heap.size 25 5 (.slice (some ⟨g, 0, none⟩) L.length c) L.length (flat L) ∧ Cu B zs p K w' ∧ w.grownBy w' (some p)
theorem own_some0 {w : World} {base : Nat} {e : TypeId} {size n : Nat} {v : Value} {xs : List Value} (h : w.ownsRow base e size v n xs) (hv : v ≠ .slice none 0 0) : ∃ g c, v = .slice (some ⟨g, 0, none⟩) n c := by
  rcases h.2 with ⟨h1, _⟩ | ⟨g, cap, cur, h1, _⟩
  · exact absurd h1 hv
  · exact ⟨g, cap, h1⟩
set_option maxHeartbeats 6400000 in
theorem trips_d (B : Nat) (zs : List Int) (p K : Nat) (w : World) (C : Cu B zs p K w) (hK : K ≤ 700000000) :
    Calls Try.prog 34 #[.pointer (some ⟨p, 0, none⟩)] w (Lot B zs p (K + 1000) w) := by
  obtain ⟨i0, hi0, hz0, hz1, hz2⟩ := info_parts info_T
  have HI := Lib.hid hz2; clear hz2
  have HI1 := Lib.hid hz1; clear hz1
  go_enter Try.func34, Try.ntmps34
  have hp := C.lt
  have hB := C.base
  have GW : w.grownBy w (some p) := grown_refl w _
  go_wp2_with fail
  have O := empty_own (Below.refl _ w)
  replace C := C.alloc (.cells #[] 25)
  replace GW := grown_trans GW (grown_alloc _ (.cells #[] 25) _)
  generalize w.alloc (.cells #[] 25) = v0 at C GW O ⊢
  have zv0 := GW.size
  try go_wp2_with fail
  refine (one_d B zs p (K) _ 2 C (by omega) (by omega) (by omega)).mono ?_
  rintro e u21 ⟨cq, rfl, C1, G⟩
  have yu21 : v0.heap.size ≤ u21.heap.size := G.size
  replace O := own_grown O G (fun k hk => by injection hk with hk; omega)
  replace GW := grown_trans GW G
  replace C := C1
  clear C1 G
  have zu21 := GW.size
  try go_wp2_with fail
  refine (pick_d B zs p (K + 2) _ 9 C (by omega) (by omega) (by omega)).mono ?_
  rintro e u22 ⟨n0, n0_r, rfl, C1, G⟩
  have yu22 : u21.heap.size ≤ u22.heap.size := G.size
  replace O := own_grown O G (fun k hk => by injection hk with hk; omega)
  replace GW := grown_trans GW G
  replace C := C1
  clear C1 G
  have zu22 := GW.size
  obtain ⟨m, rfl⟩ : ∃ m : Nat, n0 = m := ⟨n0.toNat, by omega⟩
  go_wp2_with fail
  go_loopw [3, 4, 6] (fun oo ii nn wr => ∃ (n : Nat) (L : List R) (g c : Nat) (i : Int), n ≤ 9 ∧ nn = .int .i64 n ∧ ii = .int .i64 i ∧ 0 ≤ i ∧ i ≤ 2 * (9 - n) ∧ oo = .slice (some ⟨g, 0, none⟩) L.length c ∧ L.length + n ≤ 9 ∧ Hid (AllSm L) ∧ wr.ownsRow w.heap.size 25 5 (.slice (some ⟨g, 0, none⟩) L.length c) L.length (flat L) ∧ Cu B zs p (K + 4 + 20 * (9 - n)) wr ∧ w.grownBy wr (some p)) (fun _ _ nn _ => (intOf nn).toNat)
  case atStart => exact ⟨m, [], _, _, 0, by omega, rfl, rfl, by omega, by omega, rfl, by simp; omega, Lib.hid AllSm.nil, O, C.le (by omega), GW⟩
  case round =>
    clear O C GW zv0
    obtain ⟨n, L, g, c, i, hn, rfl, rfl, h0, h1, rfl, hL, HS, O, C, GW⟩ := hrel
    have zwr := GW.size
    by_cases hpos : 0 < n
    · have hp0 : decide ((0 : Int) < n) = true := decide_eq_true (by omega)
      have e1 : IntKind.i64.wrap (i + 1) = i + 1 := IntWalk.i64_in _ (by omega)
      try go_wp2_with fail
      refine (pick_d B zs p (K + 4 + 20 * (9 - n)) _ 2 C (by omega) (by omega) (by omega)).mono ?_
      rintro e u43 ⟨z, z_r, rfl, C1, G⟩
      have yu43 : wr.heap.size ≤ u43.heap.size := G.size
      replace O := own_grown O G (fun k hk => by injection hk with hk; omega)
      replace GW := grown_trans GW G
      replace C := C1
      clear C1 G
      have zu43 := GW.size
      have e2 : IntKind.i64.wrap (i + 1 + z) = i + 1 + z := IntWalk.i64_in _ (by omega)
      try go_wp2_with fail
      refine (trip_d B zs p (K + 4 + 20 * (9 - n) + 2) _ (i + 1 + z) (by omega) (by omega) C (by omega)).mono ?_
      rintro e u44 ⟨x, hsx, rfl, C1, G⟩
      have yu44 : u43.heap.size ≤ u44.heap.size := G.size
      replace O := own_grown O G (fun k hk => by injection hk with hk; omega)
      replace GW := grown_trans GW G
      replace C := C1
      clear C1 G
      have zu44 := GW.size
      have HX := Lib.hid hsx; clear hsx
      have hen : decide ((0 : Int) < n) = true := hp0
      go_upto_region 9 with fail
      have X := Cb.new u44 [.int .i64 x.f0, .int .i64 x.f1, .int .i64 x.f2, .int .i64 x.f3, .int .i64 x.f4] 25 (g := u44.heap.size) rfl
      replace C := (C.alloc (.cells #[.int .i64 x.f0, .int .i64 x.f1, .int .i64 x.f2, .int .i64 x.f3, .int .i64 x.f4] 25))
      replace GW := (grown_trans GW (grown_alloc _ (.cells #[.int .i64 x.f0, .int .i64 x.f1, .int .i64 x.f2, .int .i64 x.f3, .int .i64 x.f4] 25) _))
      replace O := own_keep O (al (Below.refl _ _) (o := (.cells #[.int .i64 x.f0, .int .i64 x.f1, .int .i64 x.f2, .int .i64 x.f3, .int .i64 x.f4] 25)))
      have su45 : (u44.alloc (.cells #[.int .i64 x.f0, .int .i64 x.f1, .int .i64 x.f2, .int .i64 x.f3, .int .i64 x.f4] 25)).heap.size = u44.heap.size + 1 := by simp only [size_alloc']
      generalize (u44.alloc (.cells #[.int .i64 x.f0, .int .i64 x.f1, .int .i64 x.f2, .int .i64 x.f3, .int .i64 x.f4] 25)) = u45 at X O GW C su45 ⊢
      have zu45 := GW.size
      have X_0 := X.cells 0 _ rfl
      have X_1 := X.cells 1 _ rfl
      have X_2 := X.cells 2 _ rfl
      have X_3 := X.cells 3 _ rfl
      have X_4 := X.cells 4 _ rfl
      have X_f0 := X.free 0 (by simp)
      have X_f1 := X.free 1 (by simp)
      have X_f2 := X.free 2 (by simp)
      have X_f3 := X.free 3 (by simp)
      have X_f4 := X.free 4 (by simp)
      have X_t := X.there
      have hgl := own_lt O
      have hgo := own_ge O g (by simp [Value.ownBlock])
      have hxt := X.there
      clear su45
      have HNW := Lib.hid (show ∀ W, Below u45.heap.size u45 W → ∀ j q, (flat L)[j]? = some q → W.cell? ((⟨g, 0, none⟩ : Addr).add j) = some q from fun W hW j q hq => by
        rw [cell_add, Nat.zero_add, (bcell hW).1 _ _ hgl]
        have hj : j < (flat L).length := by
          rcases Nat.lt_or_ge j (flat L).length with h | h
          · exact h
          · rw [List.getElem?_eq_none h] at hq; cases hq
        rw [O.cellAt j (by rw [flat_n] at hj; exact hj)]; exact hq)
      have EA := Lib.hid (show ∀ _ : Unit, (u45.alloc (.cells #[] 25)).ownsRow u45.heap.size 25 5 (.slice (some ⟨u45.heap.size, 0, none⟩) 0 0) 0 [] from fun _ => by simpa [flat] using empty_own (Below.refl _ u45))
      have EB := Lib.hid (show ∀ _ : Unit, ((u45.alloc (.cells #[.int .i64 x.f0, .int .i64 x.f1, .int .i64 x.f2, .int .i64 x.f3, .int .i64 x.f4] 25)).alloc (.cells #[] 25)).ownsRow u45.heap.size 25 5 (.slice (some ⟨u45.heap.size + 1, 0, none⟩) 0 0) 0 [] from fun _ => by
        have := World.ownsRow_lit (u45.alloc (.cells #[.int .i64 x.f0, .int .i64 x.f1, .int .i64 x.f2, .int .i64 x.f3, .int .i64 x.f4] 25)) #[] 0 (e := 25) (size := 5) (base := u45.heap.size) (by simp only [size_alloc']; omega) (by unfold maxLen; omega) rfl
        simpa [size_alloc'] using this)
      have NX2 := Lib.hid (show ∀ j q, [.int .i64 x.f0, .int .i64 x.f1, .int .i64 x.f2, .int .i64 x.f3, .int .i64 x.f4][j]? = some q → ((u45.alloc (.cells #[] 25)).alloc (.cells #[.int .i64 x.f0, .int .i64 x.f1, .int .i64 x.f2, .int .i64 x.f3, .int .i64 x.f4] 25)).cell? ((⟨u45.heap.size + 1, 0, none⟩ : Addr).add j) = some q from fun j q hq => by have h := new5 (u45.alloc (.cells #[] 25)) x j q hq; rwa [size_alloc'] at h)
      have NX3 := Lib.hid (show ∀ j q, [.int .i64 x.f0, .int .i64 x.f1, .int .i64 x.f2, .int .i64 x.f3, .int .i64 x.f4][j]? = some q → ((u45.alloc (.cells #[.int .i64 x.f0, .int .i64 x.f1, .int .i64 x.f2, .int .i64 x.f3, .int .i64 x.f4] 25)).alloc (.cells #[] 25)).cell? ((⟨u45.heap.size, 0, none⟩ : Addr).add j) = some q from fun j q hq => by
        have h := new5 u45 x j q hq
        rw [cell_add, Nat.zero_add] at h ⊢
        rw [(bcell (al (Below.refl _ (u45.alloc (.cells #[.int .i64 x.f0, .int .i64 x.f1, .int .i64 x.f2, .int .i64 x.f3, .int .i64 x.f4] 25))) (o := (.cells #[] 25)))).1 _ _ (by rw [size_alloc']; omega)]; exact h)
      go_region_law (first | (refine step_append_any _ rfl (.tmp 27) (.tmp 28) 35 rfl u45.heap.size 25 i0 _ 5 40 Try.underlying35 hi0 hz0 HI1.out HI.out rfl (by decide) (.slice (some ⟨u45.heap.size, 0, none⟩) 0 0) 0 [] rfl (EA.out ()) ⟨g, 0, none⟩ L.length c (flat L) rfl (flat_n L) (HNW.out _ (show Below u45.heap.size u45 (u45.alloc (.cells #[] 25)).drew from (al (Below.refl _ _)).drew)) (flat_one _) (fun e => by cases e) (by unfold maxLen; omega) (by omega) (by show u45.heap.size ≤ (u45.alloc (.cells #[] 25)).heap.size; simp only [size_alloc']; omega) _ rfl ?_; intro g4 c4 w4 hown0 hgrow4 hat4 hlt4; have hown4 : w4.ownsRow u45.heap.size 25 5 (.slice (some ⟨g4, 0, none⟩) L.length c4) L.length (flat L) := (by simpa using hown0); clear hown0; have hb4 := (show Below u45.heap.size u45 (u45.alloc (.cells #[] 25)).drew from (al (Below.refl _ _)).drew); have C4 := (C.more hb4).grown hgrow4 (fun k hk => by have := row_at hk; omega); have G4 := gw_grown (grown_more GW hb4) hgrow4 (fun k hk => by have := row_at hk; omega); have O4 := own_grownN (own_keep O hb4) hgrow4 (fun k hk => by have := row_at hk; omega); have X4 := cb_grownN (X.more hb4) hgrow4 (fun k hk => by have := row_at hk; omega); have f4_0 := X4.cells 0 _ rfl; have f4_1 := X4.cells 1 _ rfl; have f4_2 := X4.cells 2 _ rfl; have f4_3 := X4.cells 3 _ rfl; have f4_4 := X4.cells 4 _ rfl) | (refine step_append_any _ rfl (.tmp 27) (.tmp 28) 35 rfl u45.heap.size 25 i0 _ 5 40 Try.underlying35 hi0 hz0 HI1.out HI.out rfl (by decide) (.slice (some ⟨u45.heap.size + 1, 0, none⟩) 0 0) 0 [] rfl (EB.out ()) ⟨g, 0, none⟩ L.length c (flat L) rfl (flat_n L) (HNW.out _ (show Below u45.heap.size u45 ((u45.alloc (.cells #[.int .i64 x.f0, .int .i64 x.f1, .int .i64 x.f2, .int .i64 x.f3, .int .i64 x.f4] 25)).alloc (.cells #[] 25)).drew from (al (al (Below.refl _ _))).drew)) (flat_one _) (fun e => by cases e) (by unfold maxLen; omega) (by omega) (by show u45.heap.size ≤ ((u45.alloc (.cells #[.int .i64 x.f0, .int .i64 x.f1, .int .i64 x.f2, .int .i64 x.f3, .int .i64 x.f4] 25)).alloc (.cells #[] 25)).heap.size; simp only [size_alloc']; omega) _ rfl ?_; intro g4 c4 w4 hown0 hgrow4 hat4 hlt4; have hown4 : w4.ownsRow u45.heap.size 25 5 (.slice (some ⟨g4, 0, none⟩) L.length c4) L.length (flat L) := (by simpa using hown0); clear hown0; have hb4 := (show Below u45.heap.size u45 ((u45.alloc (.cells #[.int .i64 x.f0, .int .i64 x.f1, .int .i64 x.f2, .int .i64 x.f3, .int .i64 x.f4] 25)).alloc (.cells #[] 25)).drew from (al (al (Below.refl _ _))).drew); have C4 := (C.more hb4).grown hgrow4 (fun k hk => by have := row_at hk; omega); have G4 := gw_grown (grown_more GW hb4) hgrow4 (fun k hk => by have := row_at hk; omega); have O4 := own_grownN (own_keep O hb4) hgrow4 (fun k hk => by have := row_at hk; omega); have X4 := cb_grownN (X.more hb4) hgrow4 (fun k hk => by have := row_at hk; omega); have f4_0 := X4.cells 0 _ rfl; have f4_1 := X4.cells 1 _ rfl; have f4_2 := X4.cells 2 _ rfl; have f4_3 := X4.cells 3 _ rfl; have f4_4 := X4.cells 4 _ rfl; have hx4 : ∀ j q, [.int .i64 x.f0, .int .i64 x.f1, .int .i64 x.f2, .int .i64 x.f3, .int .i64 x.f4][j]? = some q → w4.cell? ((⟨u45.heap.size, 0, none⟩ : Addr).add j) = some q := fun j q hq => by rw [cell_add, Nat.zero_add, (show World.grownBy ((u45.alloc (.cells #[.int .i64 x.f0, .int .i64 x.f1, .int .i64 x.f2, .int .i64 x.f3, .int .i64 x.f4] 25)).alloc (.cells #[] 25)).drew w4 (some (u45.heap.size + 1)) from hgrow4).cell_far ⟨u45.heap.size, j, none⟩ (by show u45.heap.size < ((u45.alloc (.cells #[.int .i64 x.f0, .int .i64 x.f1, .int .i64 x.f2, .int .i64 x.f3, .int .i64 x.f4] 25)).alloc (.cells #[] 25)).heap.size; simp only [size_alloc']; omega) (by intro e; injection e with e; exact absurd e (show ¬ (u45.heap.size = u45.heap.size + 1) by omega))]; have := NX3.out j q hq; rw [cell_add, Nat.zero_add] at this; exact this) | (refine step_append_any _ rfl (.tmp 29) (.tmp 31) 35 rfl u45.heap.size 25 i0 _ 5 40 Try.underlying35 hi0 hz0 HI1.out HI.out rfl (by decide) (.slice (some ⟨g4, 0, none⟩) L.length c4) L.length (flat L) rfl (hown4.alloc (.cells #[.int .i64 x.f0, .int .i64 x.f1, .int .i64 x.f2, .int .i64 x.f3, .int .i64 x.f4] 25)) ⟨w4.heap.size, 0, none⟩ 1 1 [.int .i64 x.f0, .int .i64 x.f1, .int .i64 x.f2, .int .i64 x.f3, .int .i64 x.f4] rfl rfl (new5 w4 x) (one5 x) (fun e => by cases e) (by unfold maxLen; omega) (by omega) (by have := own_ge hown4 g4 (by simp [Value.ownBlock]); (try simp only [size_alloc']); omega) _ rfl ?_; intro g5 c5 w5 hown5 hgrow5 hat5 hlt5; have hr5 : ∀ k, (Value.slice (some ⟨g4, 0, none⟩) L.length c4).ownBlock = some k → u45.heap.size ≤ k := fun k hk => own_ge hown4 k hk; have C5 := (C4.alloc (.cells #[.int .i64 x.f0, .int .i64 x.f1, .int .i64 x.f2, .int .i64 x.f3, .int .i64 x.f4] 25)).grown hgrow5 (fun k hk => by have := hr5 k hk; omega); have G5 := gw_grown (grown_trans G4 (grown_alloc _ (.cells #[.int .i64 x.f0, .int .i64 x.f1, .int .i64 x.f2, .int .i64 x.f3, .int .i64 x.f4] 25) _)) hgrow5 (fun k hk => by have := hr5 k hk; omega); have O5 := own_grownN (own_keep O4 (al (Below.refl _ w4) (o := (.cells #[.int .i64 x.f0, .int .i64 x.f1, .int .i64 x.f2, .int .i64 x.f3, .int .i64 x.f4] 25)))) hgrow5 (fun k hk => by have := hr5 k hk; omega); have X5 := cb_grownN (X4.more (by first | exact Below.refl _ _ | exact al (Below.refl _ _))) hgrow5 (fun k hk => by have := hr5 k hk; omega)) | (refine step_append_any _ rfl (.tmp 29) (.tmp 31) 35 rfl u45.heap.size 25 i0 _ 5 40 Try.underlying35 hi0 hz0 HI1.out HI.out rfl (by decide) (.slice (some ⟨g4, 0, none⟩) L.length c4) L.length (flat L) rfl (hown4) ⟨u45.heap.size + 1, 0, none⟩ 1 1 [.int .i64 x.f0, .int .i64 x.f1, .int .i64 x.f2, .int .i64 x.f3, .int .i64 x.f4] rfl rfl hx4 (one5 x) (fun e => by cases e) (by unfold maxLen; omega) (by omega) (by have := own_ge hown4 g4 (by simp [Value.ownBlock]); (try simp only [size_alloc']); omega) _ rfl ?_; intro g5 c5 w5 hown5 hgrow5 hat5 hlt5; have hr5 : ∀ k, (Value.slice (some ⟨g4, 0, none⟩) L.length c4).ownBlock = some k → u45.heap.size ≤ k := fun k hk => own_ge hown4 k hk; have C5 := C4.grown hgrow5 (fun k hk => by have := hr5 k hk; omega); have G5 := gw_grown G4 hgrow5 (fun k hk => by have := hr5 k hk; omega); have O5 := own_grownN O4 hgrow5 (fun k hk => by have := hr5 k hk; omega); have X5 := cb_grownN (X4.more (by first | exact Below.refl _ _ | exact al (Below.refl _ _))) hgrow5 (fun k hk => by have := hr5 k hk; omega)) | (refine step_append_any _ rfl (.tmp 29) (.tmp 31) 35 rfl u45.heap.size 25 i0 _ 5 40 Try.underlying35 hi0 hz0 HI1.out HI.out rfl (by decide) (.slice (some ⟨g4, 0, none⟩) L.length c4) L.length (flat L) rfl (hown4) ⟨u45.heap.size, 0, none⟩ 1 1 [.int .i64 x.f0, .int .i64 x.f1, .int .i64 x.f2, .int .i64 x.f3, .int .i64 x.f4] rfl rfl hx4 (one5 x) (fun e => by cases e) (by unfold maxLen; omega) (by omega) (by have := own_ge hown4 g4 (by simp [Value.ownBlock]); (try simp only [size_alloc']); omega) _ rfl ?_; intro g5 c5 w5 hown5 hgrow5 hat5 hlt5; have hr5 : ∀ k, (Value.slice (some ⟨g4, 0, none⟩) L.length c4).ownBlock = some k → u45.heap.size ≤ k := fun k hk => own_ge hown4 k hk; have C5 := C4.grown hgrow5 (fun k hk => by have := hr5 k hk; omega); have G5 := gw_grown G4 hgrow5 (fun k hk => by have := hr5 k hk; omega); have O5 := own_grownN O4 hgrow5 (fun k hk => by have := hr5 k hk; omega); have X5 := cb_grownN (X4.more (by first | exact Below.refl _ _ | exact al (Below.refl _ _))) hgrow5 (fun k hk => by have := hr5 k hk; omega)) | (refine step_append_any _ rfl (.tmp 27) (.tmp 28) 35 rfl u45.heap.size 25 i0 _ 5 40 Try.underlying35 hi0 hz0 HI1.out HI.out rfl (by decide) (.slice (some ⟨u45.heap.size, 0, none⟩) 0 0) 0 [] rfl ((EA.out ()).alloc (.cells #[.int .i64 x.f0, .int .i64 x.f1, .int .i64 x.f2, .int .i64 x.f3, .int .i64 x.f4] 25)) ⟨g, 0, none⟩ L.length c (flat L) rfl (flat_n L) (HNW.out _ (show Below u45.heap.size u45 ((u45.alloc (.cells #[] 25)).alloc (.cells #[.int .i64 x.f0, .int .i64 x.f1, .int .i64 x.f2, .int .i64 x.f3, .int .i64 x.f4] 25)).drew from (al (al (Below.refl _ _))).drew)) (flat_one _) (fun e => by cases e) (by unfold maxLen; omega) (by omega) (by show u45.heap.size ≤ ((u45.alloc (.cells #[] 25)).alloc (.cells #[.int .i64 x.f0, .int .i64 x.f1, .int .i64 x.f2, .int .i64 x.f3, .int .i64 x.f4] 25)).heap.size; simp only [size_alloc']; omega) _ rfl ?_; intro g4 c4 w4 hown0 hgrow4 hat4 hlt4; have hown4 : w4.ownsRow u45.heap.size 25 5 (.slice (some ⟨g4, 0, none⟩) L.length c4) L.length (flat L) := (by simpa using hown0); clear hown0; have hb4 := (show Below u45.heap.size u45 ((u45.alloc (.cells #[] 25)).alloc (.cells #[.int .i64 x.f0, .int .i64 x.f1, .int .i64 x.f2, .int .i64 x.f3, .int .i64 x.f4] 25)).drew from (al (al (Below.refl _ _))).drew); have C4 := (C.more hb4).grown hgrow4 (fun k hk => by have := row_at hk; omega); have G4 := gw_grown (grown_more GW hb4) hgrow4 (fun k hk => by have := row_at hk; omega); have O4 := own_grownN (own_keep O hb4) hgrow4 (fun k hk => by have := row_at hk; omega); have X4 := cb_grownN (X.more hb4) hgrow4 (fun k hk => by have := row_at hk; omega); have f4_0 := X4.cells 0 _ rfl; have f4_1 := X4.cells 1 _ rfl; have f4_2 := X4.cells 2 _ rfl; have f4_3 := X4.cells 3 _ rfl; have f4_4 := X4.cells 4 _ rfl; have hx4 : ∀ j q, [.int .i64 x.f0, .int .i64 x.f1, .int .i64 x.f2, .int .i64 x.f3, .int .i64 x.f4][j]? = some q → w4.cell? ((⟨u45.heap.size + 1, 0, none⟩ : Addr).add j) = some q := fun j q hq => by rw [cell_add, Nat.zero_add, (show World.grownBy ((u45.alloc (.cells #[] 25)).alloc (.cells #[.int .i64 x.f0, .int .i64 x.f1, .int .i64 x.f2, .int .i64 x.f3, .int .i64 x.f4] 25)).drew w4 (some u45.heap.size) from hgrow4).cell_far ⟨u45.heap.size + 1, j, none⟩ (by show u45.heap.size + 1 < ((u45.alloc (.cells #[] 25)).alloc (.cells #[.int .i64 x.f0, .int .i64 x.f1, .int .i64 x.f2, .int .i64 x.f3, .int .i64 x.f4] 25)).heap.size; simp only [size_alloc']; omega) (by intro e; injection e with e; exact absurd e (show ¬ (u45.heap.size + 1 = u45.heap.size) by omega))]; have := NX2.out j q hq; rw [cell_add, Nat.zero_add] at this; exact this))
      all_goals
        have hlen9 : (L ++ [x]).length = L.length + 1 := by simp
        have O9 : w5.ownsRow w.heap.size 25 5 (.slice (some ⟨g5, 0, none⟩) (L ++ [x]).length c5) (L ++ [x]).length (flat (L ++ [x])) := by
          rw [flat_snoc, hlen9]
          exact own_base hown5 (by omega)
        clear O C GW hown4 hown5 hgrow4 hgrow5 hat4 hat5 C4 G4 O4 hr5
        have C := C5; have GW := G5; have O := O5
        clear C5 G5 O5 HNW EA EB NX2 NX3
        have zw5 := GW.size
        have hlen : (L ++ [x]).length ≤ 1048576 := by simp; omega
        have HGD := good_spec (some ⟨g5, 0, none⟩) c5 (L ++ [x]) w5 (Rd.of_own O9) hlen
        rw [hlen9] at HGD
        have HGD := Lib.hid HGD
        clear hlen9
        go_wp2_with fail
        refine HGD.out.mono ?_
        clear HGD
        rintro e w11 ⟨rfl, hv⟩
        replace O := own_keep O hv; replace O9 := own_keep O9 hv; replace C := C.more hv; replace GW := grown_more GW hv; replace X5 := X5.more hv
        clear hv
        have zw11 := GW.size
        cases hgd : good (L ++ [x])
        · try go_wp2_with fail
          refine (one_d B zs p (K + 4 + 20 * (9 - n) + 2 + 12) _ 40 C (by omega) (by omega) (by omega)).mono ?_
          rintro e u66 ⟨q, rfl, C1, G⟩
          have yu66 : w11.heap.size ≤ u66.heap.size := G.size
          replace X5 := (X5).went G (by omega)
          replace O := own_grown O G (fun k hk => by injection hk with hk; omega)
          replace O9 := own_grown O9 G (fun k hk => by injection hk with hk; omega)
          replace GW := grown_trans GW G
          replace C := C1
          clear C1 G
          have zu66 := GW.size
          cases q
          · skip
            go_wp2
            go_roundw
            case rel => exact ⟨n - 1, L, g, c, i + 1 + z, by omega, by rw [show ((n - 1 : Nat) : Int) = (n : Int) - 1 by omega] <;> rfl, rfl, by omega, by omega, rfl, by omega, HS, O, C.le (by omega), GW⟩
            case measure => simp [intOf]; omega
          · skip
            cases cq
            · skip
              go_wp2
              go_roundw
              case rel => exact ⟨n - 1, L ++ [x], g5, c5, i + 1 + z, by omega, by rw [show ((n - 1 : Nat) : Int) = (n : Int) - 1 by omega] <;> rfl, rfl, by omega, by omega, by simp, by simp; omega, Lib.hid (HS.out.snoc HX.out), O9, C.le (by omega), GW⟩
              case measure => simp [intOf]; omega
            · have X5_0 := X5.cells 0 _ rfl
              have X5_1 := X5.cells 1 _ rfl
              have X5_2 := X5.cells 2 _ rfl
              have X5_3 := X5.cells 3 _ rfl
              have X5_4 := X5.cells 4 _ rfl
              have X5_f0 := X5.free 0 (by simp)
              have X5_f1 := X5.free 1 (by simp)
              have X5_f2 := X5.free 2 (by simp)
              have X5_f3 := X5.free 3 (by simp)
              have X5_f4 := X5.free 4 (by simp)
              have X5_t := X5.there
              go_wp2_with fail
              refine (free_any (some ⟨g, 0, none⟩) c L x HS.out HX.out _ (Rd.of_own O) (by omega)).mono ?_
              rintro e w12 ⟨rfl, hv⟩
              replace O := own_keep O hv; replace O9 := own_keep O9 hv; replace C := C.more hv; replace GW := grown_more GW hv
              clear hv
              have zw12 := GW.size
              cases hfr : freeB L x
              · skip
                go_wp2
                go_roundw
                case rel => exact ⟨n - 1, L, g, c, i + 1 + z, by omega, by rw [show ((n - 1 : Nat) : Int) = (n : Int) - 1 by omega] <;> rfl, rfl, by omega, by omega, rfl, by omega, HS, O, C.le (by omega), GW⟩
                case measure => simp [intOf]; omega
              · skip
                go_wp2
                go_roundw
                case rel => exact ⟨n - 1, L ++ [x], g5, c5, i + 1 + z, by omega, by rw [show ((n - 1 : Nat) : Int) = (n : Int) - 1 by omega] <;> rfl, rfl, by omega, by omega, by simp, by simp; omega, Lib.hid (HS.out.snoc HX.out), O9, C.le (by omega), GW⟩
                case measure => simp [intOf]; omega
        · skip
          cases cq
          · skip
            go_wp2
            go_roundw
            case rel => exact ⟨n - 1, L ++ [x], g5, c5, i + 1 + z, by omega, by rw [show ((n - 1 : Nat) : Int) = (n : Int) - 1 by omega] <;> rfl, rfl, by omega, by omega, by simp, by simp; omega, Lib.hid (HS.out.snoc HX.out), O9, C.le (by omega), GW⟩
            case measure => simp [intOf]; omega
          · have X5_0 := X5.cells 0 _ rfl
            have X5_1 := X5.cells 1 _ rfl
            have X5_2 := X5.cells 2 _ rfl
            have X5_3 := X5.cells 3 _ rfl
            have X5_4 := X5.cells 4 _ rfl
            have X5_f0 := X5.free 0 (by simp)
            have X5_f1 := X5.free 1 (by simp)
            have X5_f2 := X5.free 2 (by simp)
            have X5_f3 := X5.free 3 (by simp)
            have X5_f4 := X5.free 4 (by simp)
            have X5_t := X5.there
            go_wp2_with fail
            refine (free_any (some ⟨g, 0, none⟩) c L x HS.out HX.out _ (Rd.of_own O) (by omega)).mono ?_
            rintro e w12 ⟨rfl, hv⟩
            replace O := own_keep O hv; replace O9 := own_keep O9 hv; replace C := C.more hv; replace GW := grown_more GW hv
            clear hv
            have zw12 := GW.size
            cases hfr : freeB L x
            · skip
              go_wp2
              go_roundw
              case rel => exact ⟨n - 1, L, g, c, i + 1 + z, by omega, by rw [show ((n - 1 : Nat) : Int) = (n : Int) - 1 by omega] <;> rfl, rfl, by omega, by omega, rfl, by omega, HS, O, C.le (by omega), GW⟩
              case measure => simp [intOf]; omega
            · skip
              go_wp2
              go_roundw
              case rel => exact ⟨n - 1, L ++ [x], g5, c5, i + 1 + z, by omega, by rw [show ((n - 1 : Nat) : Int) = (n : Int) - 1 by omega] <;> rfl, rfl, by omega, by omega, by simp, by simp; omega, Lib.hid (HS.out.snoc HX.out), O9, C.le (by omega), GW⟩
              case measure => simp [intOf]; omega
    · have hp0 : decide ((0 : Int) < n) = false := decide_eq_false (by omega)
      try go_wp2_with fail
      refine (pick_d B zs p (K + 4 + 20 * (9 - n)) _ 30 C (by omega) (by omega) (by omega)).mono ?_
      rintro e u43 ⟨z, z_r, rfl, C1, G⟩
      have yu43 : wr.heap.size ≤ u43.heap.size := G.size
      replace O := own_grown O G (fun k hk => by injection hk with hk; omega)
      replace GW := grown_trans GW G
      replace C := C1
      clear C1 G
      have zu43 := GW.size
      by_cases hz : z = 0
      · subst hz
        clear O
        go_wp2_with fail
        have O := World.ownsRow_lit u43 #[] 0 (e := 25) (size := 5) (base := w.heap.size) (by omega) (by unfold maxLen; omega) rfl
        replace C := C.alloc (.cells #[] 25)
        replace GW := grown_trans GW (grown_alloc _ (.cells #[] 25) _)
        go_loopw [3, 9] (fun oo rr wr => ∃ (M : List R) (h9 c9 : Nat), M.length ≤ 11 ∧ rr = .int .i64 M.length ∧ oo = .slice (some ⟨h9, 0, none⟩) M.length c9 ∧ Hid (AllSm M) ∧ wr.ownsRow w.heap.size 25 5 (.slice (some ⟨h9, 0, none⟩) M.length c9) M.length (flat M) ∧ Cu B zs p (K + 400 + 2 * M.length) wr ∧ w.grownBy wr (some p)) (fun _ rr _ => 12 - (intOf rr).toNat)
        case atStart => exact ⟨[], _, _, by simp, rfl, rfl, Lib.hid AllSm.nil, (by simpa [flat] using O), C.le (by omega), GW⟩
        case round =>
          clear O C GW HS hL
          obtain ⟨M, h9, c9, hr, rfl, rfl, HS, O, C, GW⟩ := hrel
          have zwr := GW.size
          try go_wp2_with fail
          refine (pick_d B zs p (K + 400 + 2 * M.length) _ 2 C (by omega) (by omega) (by omega)).mono ?_
          rintro e u64 ⟨y, y_r, rfl, C1, G⟩
          have yu64 : wr.heap.size ≤ u64.heap.size := G.size
          replace O := own_grown O G (fun k hk => by injection hk with hk; omega)
          replace GW := grown_trans GW G
          replace C := C1
          clear C1 G
          have zu64 := GW.size
          have e0 : IntKind.i64.wrap (10 + y) = 10 + y := IntWalk.i64_in _ (by omega)
          by_cases hlt : (M.length : Int) < 10 + y
          · have hlt' : decide ((M.length : Int) < 10 + y) = true := decide_eq_true hlt
            have e1 : IntKind.i64.wrap ((M.length : Int) + 1) = (M.length : Int) + 1 := IntWalk.i64_in _ (by omega)
            have e2 : IntKind.i64.wrap (10 * (M.length : Int)) = 10 * (M.length : Int) := IntWalk.i64_in _ (by omega)
            have e3 : IntKind.i64.wrap (480 + 10 * (M.length : Int)) = 480 + 10 * (M.length : Int) := IntWalk.i64_in _ (by omega)
            obtain ⟨x, hx⟩ : ∃ x : R, x = ⟨(M.length : Int) + 1, 0, 2, 480 + 10 * (M.length : Int), 2⟩ := ⟨_, rfl⟩
            have hsx : Sm x := by rw [hx]; unfold Sm; simp only; omega
            have HXE := Lib.hid hx; clear hx
            have HLEN := Lib.hid hr
            obtain ⟨v, hv⟩ : ∃ v, u64 = v := ⟨_, rfl⟩
            rw [hv] at O C GW zu64 yu64 ⊢
            clear hv
            go_wp2_with (at_builtin; go_must (refine wpList_append_own _ rfl _ _ 35 rfl w.heap.size 25 i0 _ 5 40 Try.underlying35 hi0 hz0 HI1.out HI.out rfl (by decide) _ M.length _ rfl (O.alloc _) ⟨v.heap.size, 0, none⟩ 1 1 [.int .i64 ((M.length : Int) + 1), .int .i64 0, .int .i64 2, .int .i64 (480 + 10 * (M.length : Int)), .int .i64 2] rfl rfl (new5 v ⟨(M.length : Int) + 1, 0, 2, 480 + 10 * (M.length : Int), 2⟩) (one5 ⟨(M.length : Int) + 1, 0, 2, 480 + 10 * (M.length : Int), 2⟩) (by unfold maxLen; omega) (by omega) (by rw [size_alloc']; omega) ?_; intro v' w10 hown1 hgrow hnil))
            have hown2 : w10.ownsRow w.heap.size 25 5 v' (M ++ [x]).length (flat (M ++ [x])) := by
              rw [flat_snoc, List.length_append, HXE.out]
              exact hown1
            obtain ⟨g2, c2, rfl⟩ := own_some0 hown2 (fun e => by have := (hnil.1 e).2; omega)
            have hro : ∀ k, (Value.slice (some ⟨h9, 0, none⟩) M.length c9).ownBlock = some k → w.heap.size ≤ k := fun k hk => own_ge O k hk
            replace C := (C.alloc (.cells #[.int .i64 ((M.length : Int) + 1), .int .i64 0, .int .i64 2, .int .i64 (480 + 10 * (M.length : Int)), .int .i64 2] 25)).grown hgrow (fun k hk => by have := hro k hk; omega)
            replace GW := gw_grown (grown_trans GW (grown_alloc _ (.cells #[.int .i64 ((M.length : Int) + 1), .int .i64 0, .int .i64 2, .int .i64 (480 + 10 * (M.length : Int)), .int .i64 2] 25) _)) hgrow hro
            clear hown1 hgrow hnil hro O
            go_wp2
            go_roundw
            case rel => exact ⟨M ++ [x], g2, c2, by simp; omega, by simp, by simp, Lib.hid (HS.out.snoc hsx), hown2, C.le (by simp; omega), GW⟩
            case measure => simp [intOf]; omega
          · have hlt' : decide ((M.length : Int) < 10 + y) = false := decide_eq_false hlt
            go_wp2
            go_ret
            exact ⟨M, h9, c9, by omega, HS.out, rfl, O, C.le (by omega), GW⟩
      · by_cases hz1 : z = 1
        · subst hz1
          by_cases hl1 : 1 < L.length
          · obtain ⟨y, hy⟩ : ∃ y, L[0] = y := ⟨_, rfl⟩
            obtain ⟨l0, l1, l2, l3, l4⟩ := own5 O (i := 0) (by omega) hy
            have hcl := own_cap O
            have hgl := own_lt O
            have hl1' : decide ((1 : Int) < L.length) = true := decide_eq_true (by omega)
            have hl2 : (1 : Int) ≤ L.length := by omega
            have hl0 : 0 < L.length := by omega
            have hc1 : ¬ (c = 1) := by omega
            go_upto_region 21 with fail
            obtain ⟨v, hv⟩ : ∃ v, u43 = v := ⟨_, rfl⟩
            rw [hv] at O C GW zu43 yu43 hgl l0 l1 l2 l3 l4 ⊢
            clear hv
            have HSY := Lib.hid (show Sm y by rw [← hy]; exact HS.out _ (List.getElem_mem _))
            have HSD := Lib.hid (show AllSm (L.drop 1 ++ [y]) from AllSm.snoc (fun x hx => HS.out x (List.mem_of_mem_drop hx)) HSY.out)
            have HNW := Lib.hid (show ∀ W, Below v.heap.size v W → ∀ j q, (flat (L.drop 1))[j]? = some q → W.cell? ((⟨g, 5, none⟩ : Addr).add j) = some q from fun W hW j q hq => by
              rw [cell_add, (bcell hW).1 _ _ hgl]
              have e : flat L = flat (L.take 1) ++ flat (L.drop 1) := by unfold flat; rw [← List.flatMap_append, List.take_append_drop]
              have e6 : (flat (L.take 1)).length = 5 := by rw [flat_n, List.length_take]; omega
              have h6 : (flat L)[5 + j]? = some q := by rw [e, List.getElem?_append_right (by omega), e6, Nat.add_sub_cancel_left]; exact hq
              have hj : 5 + j < (flat L).length := by
                rcases Nat.lt_or_ge (5 + j) (flat L).length with h | h
                · exact h
                · rw [List.getElem?_eq_none h] at h6; cases h6
              rw [O.cellAt (5 + j) (by rw [flat_n] at hj; exact hj)]; exact h6)
            have EA := Lib.hid (show ∀ _ : Unit, (v.alloc (.cells #[] 25)).ownsRow v.heap.size 25 5 (.slice (some ⟨v.heap.size, 0, none⟩) 0 0) 0 [] from fun _ => by simpa [flat] using empty_own (Below.refl _ v))
            have EB := Lib.hid (show ∀ _ : Unit, ((v.alloc (.cells #[.int .i64 y.f0, .int .i64 y.f1, .int .i64 y.f2, .int .i64 y.f3, .int .i64 y.f4] 25)).alloc (.cells #[] 25)).ownsRow v.heap.size 25 5 (.slice (some ⟨v.heap.size + 1, 0, none⟩) 0 0) 0 [] from fun _ => by
              have := World.ownsRow_lit (v.alloc (.cells #[.int .i64 y.f0, .int .i64 y.f1, .int .i64 y.f2, .int .i64 y.f3, .int .i64 y.f4] 25)) #[] 0 (e := 25) (size := 5) (base := v.heap.size) (by simp only [size_alloc']; omega) (by unfold maxLen; omega) rfl
              simpa [size_alloc'] using this)
            have NX2 := Lib.hid (show ∀ j q, [.int .i64 y.f0, .int .i64 y.f1, .int .i64 y.f2, .int .i64 y.f3, .int .i64 y.f4][j]? = some q → ((v.alloc (.cells #[] 25)).alloc (.cells #[.int .i64 y.f0, .int .i64 y.f1, .int .i64 y.f2, .int .i64 y.f3, .int .i64 y.f4] 25)).cell? ((⟨v.heap.size + 1, 0, none⟩ : Addr).add j) = some q from fun j q hq => by have h := new5 (v.alloc (.cells #[] 25)) y j q hq; rwa [size_alloc'] at h)
            have NX3 := Lib.hid (show ∀ j q, [.int .i64 y.f0, .int .i64 y.f1, .int .i64 y.f2, .int .i64 y.f3, .int .i64 y.f4][j]? = some q → ((v.alloc (.cells #[.int .i64 y.f0, .int .i64 y.f1, .int .i64 y.f2, .int .i64 y.f3, .int .i64 y.f4] 25)).alloc (.cells #[] 25)).cell? ((⟨v.heap.size, 0, none⟩ : Addr).add j) = some q from fun j q hq => by
              have h := new5 v y j q hq
              rw [cell_add, Nat.zero_add] at h ⊢
              rw [(bcell (al (Below.refl _ (v.alloc (.cells #[.int .i64 y.f0, .int .i64 y.f1, .int .i64 y.f2, .int .i64 y.f3, .int .i64 y.f4] 25))) (o := (.cells #[] 25)))).1 _ _ (by rw [size_alloc']; omega)]; exact h)
            go_region_law (first | (refine step_append_any _ rfl (.tmp 75) (.tmp 77) 35 rfl v.heap.size 25 i0 _ 5 40 Try.underlying35 hi0 hz0 HI1.out HI.out rfl (by decide) (.slice (some ⟨v.heap.size, 0, none⟩) 0 0) 0 [] rfl (EA.out ()) ⟨g, 5, none⟩ (L.length - 1) (c - 1) (flat (L.drop 1)) rfl (by rw [flat_n, List.length_drop]) (HNW.out _ (show Below v.heap.size v (v.alloc (.cells #[] 25)).drew from (al (Below.refl _ _)).drew)) (flat_one _) (fun e => by cases e) (by unfold maxLen; omega) (by omega) (by show v.heap.size ≤ (v.alloc (.cells #[] 25)).heap.size; simp only [size_alloc']; omega) _ rfl ?_; intro g4 c4 w4 hown0 hgrow4 hat4 hlt4; have hown4 : w4.ownsRow v.heap.size 25 5 (.slice (some ⟨g4, 0, none⟩) (L.length - 1) c4) (L.length - 1) (flat (L.drop 1)) := (by simpa using hown0); clear hown0; have hb4 := (show Below v.heap.size v (v.alloc (.cells #[] 25)).drew from (al (Below.refl _ _)).drew); have C4 := (C.more hb4).grown hgrow4 (fun k hk => by have := row_at hk; omega); have G4 := gw_grown (grown_more GW hb4) hgrow4 (fun k hk => by have := row_at hk; omega); have O4 := own_grownN (own_keep O hb4) hgrow4 (fun k hk => by have := row_at hk; omega); obtain ⟨l0, l1, l2, l3, l4⟩ := own5 O4 (i := 0) hl0 hy) | (refine step_append_any _ rfl (.tmp 75) (.tmp 77) 35 rfl v.heap.size 25 i0 _ 5 40 Try.underlying35 hi0 hz0 HI1.out HI.out rfl (by decide) (.slice (some ⟨v.heap.size + 1, 0, none⟩) 0 0) 0 [] rfl (EB.out ()) ⟨g, 5, none⟩ (L.length - 1) (c - 1) (flat (L.drop 1)) rfl (by rw [flat_n, List.length_drop]) (HNW.out _ (show Below v.heap.size v ((v.alloc (.cells #[.int .i64 y.f0, .int .i64 y.f1, .int .i64 y.f2, .int .i64 y.f3, .int .i64 y.f4] 25)).alloc (.cells #[] 25)).drew from (al (al (Below.refl _ _))).drew)) (flat_one _) (fun e => by cases e) (by unfold maxLen; omega) (by omega) (by show v.heap.size ≤ ((v.alloc (.cells #[.int .i64 y.f0, .int .i64 y.f1, .int .i64 y.f2, .int .i64 y.f3, .int .i64 y.f4] 25)).alloc (.cells #[] 25)).heap.size; simp only [size_alloc']; omega) _ rfl ?_; intro g4 c4 w4 hown0 hgrow4 hat4 hlt4; have hown4 : w4.ownsRow v.heap.size 25 5 (.slice (some ⟨g4, 0, none⟩) (L.length - 1) c4) (L.length - 1) (flat (L.drop 1)) := (by simpa using hown0); clear hown0; have hb4 := (show Below v.heap.size v ((v.alloc (.cells #[.int .i64 y.f0, .int .i64 y.f1, .int .i64 y.f2, .int .i64 y.f3, .int .i64 y.f4] 25)).alloc (.cells #[] 25)).drew from (al (al (Below.refl _ _))).drew); have C4 := (C.more hb4).grown hgrow4 (fun k hk => by have := row_at hk; omega); have G4 := gw_grown (grown_more GW hb4) hgrow4 (fun k hk => by have := row_at hk; omega); have O4 := own_grownN (own_keep O hb4) hgrow4 (fun k hk => by have := row_at hk; omega); obtain ⟨l0, l1, l2, l3, l4⟩ := own5 O4 (i := 0) hl0 hy; have hx4 : ∀ j q, [.int .i64 y.f0, .int .i64 y.f1, .int .i64 y.f2, .int .i64 y.f3, .int .i64 y.f4][j]? = some q → w4.cell? ((⟨v.heap.size, 0, none⟩ : Addr).add j) = some q := fun j q hq => by rw [cell_add, Nat.zero_add, (show World.grownBy ((v.alloc (.cells #[.int .i64 y.f0, .int .i64 y.f1, .int .i64 y.f2, .int .i64 y.f3, .int .i64 y.f4] 25)).alloc (.cells #[] 25)).drew w4 (some (v.heap.size + 1)) from hgrow4).cell_far ⟨v.heap.size, j, none⟩ (by show v.heap.size < ((v.alloc (.cells #[.int .i64 y.f0, .int .i64 y.f1, .int .i64 y.f2, .int .i64 y.f3, .int .i64 y.f4] 25)).alloc (.cells #[] 25)).heap.size; simp only [size_alloc']; omega) (by intro e; injection e with e; exact absurd e (show ¬ (v.heap.size = v.heap.size + 1) by omega))]; have := NX3.out j q hq; rw [cell_add, Nat.zero_add] at this; exact this) | (refine step_append_any _ rfl (.tmp 78) (.tmp 82) 35 rfl v.heap.size 25 i0 _ 5 40 Try.underlying35 hi0 hz0 HI1.out HI.out rfl (by decide) (.slice (some ⟨g4, 0, none⟩) (L.length - 1) c4) (L.length - 1) (flat (L.drop 1)) rfl (hown4.alloc (.cells #[.int .i64 y.f0, .int .i64 y.f1, .int .i64 y.f2, .int .i64 y.f3, .int .i64 y.f4] 25)) ⟨w4.heap.size, 0, none⟩ 1 1 [.int .i64 y.f0, .int .i64 y.f1, .int .i64 y.f2, .int .i64 y.f3, .int .i64 y.f4] rfl rfl (new5 w4 y) (one5 y) (fun e => by cases e) (by unfold maxLen; omega) (by omega) (by have := own_ge hown4 g4 (by simp [Value.ownBlock]); (try simp only [size_alloc']); omega) _ rfl ?_; intro g5 c5 w5 hown5 hgrow5 hat5 hlt5; have hr5 : ∀ k, (Value.slice (some ⟨g4, 0, none⟩) (L.length - 1) c4).ownBlock = some k → v.heap.size ≤ k := fun k hk => own_ge hown4 k hk; have C5 := (C4.alloc (.cells #[.int .i64 y.f0, .int .i64 y.f1, .int .i64 y.f2, .int .i64 y.f3, .int .i64 y.f4] 25)).grown hgrow5 (fun k hk => by have := hr5 k hk; omega); have G5 := gw_grown (grown_trans G4 (grown_alloc _ (.cells #[.int .i64 y.f0, .int .i64 y.f1, .int .i64 y.f2, .int .i64 y.f3, .int .i64 y.f4] 25) _)) hgrow5 (fun k hk => by have := hr5 k hk; omega)) | (refine step_append_any _ rfl (.tmp 78) (.tmp 82) 35 rfl v.heap.size 25 i0 _ 5 40 Try.underlying35 hi0 hz0 HI1.out HI.out rfl (by decide) (.slice (some ⟨g4, 0, none⟩) (L.length - 1) c4) (L.length - 1) (flat (L.drop 1)) rfl (hown4) ⟨v.heap.size + 1, 0, none⟩ 1 1 [.int .i64 y.f0, .int .i64 y.f1, .int .i64 y.f2, .int .i64 y.f3, .int .i64 y.f4] rfl rfl hx4 (one5 y) (fun e => by cases e) (by unfold maxLen; omega) (by omega) (by have := own_ge hown4 g4 (by simp [Value.ownBlock]); (try simp only [size_alloc']); omega) _ rfl ?_; intro g5 c5 w5 hown5 hgrow5 hat5 hlt5; have hr5 : ∀ k, (Value.slice (some ⟨g4, 0, none⟩) (L.length - 1) c4).ownBlock = some k → v.heap.size ≤ k := fun k hk => own_ge hown4 k hk; have C5 := C4.grown hgrow5 (fun k hk => by have := hr5 k hk; omega); have G5 := gw_grown G4 hgrow5 (fun k hk => by have := hr5 k hk; omega)) | (refine step_append_any _ rfl (.tmp 78) (.tmp 82) 35 rfl v.heap.size 25 i0 _ 5 40 Try.underlying35 hi0 hz0 HI1.out HI.out rfl (by decide) (.slice (some ⟨g4, 0, none⟩) (L.length - 1) c4) (L.length - 1) (flat (L.drop 1)) rfl (hown4) ⟨v.heap.size, 0, none⟩ 1 1 [.int .i64 y.f0, .int .i64 y.f1, .int .i64 y.f2, .int .i64 y.f3, .int .i64 y.f4] rfl rfl hx4 (one5 y) (fun e => by cases e) (by unfold maxLen; omega) (by omega) (by have := own_ge hown4 g4 (by simp [Value.ownBlock]); (try simp only [size_alloc']); omega) _ rfl ?_; intro g5 c5 w5 hown5 hgrow5 hat5 hlt5; have hr5 : ∀ k, (Value.slice (some ⟨g4, 0, none⟩) (L.length - 1) c4).ownBlock = some k → v.heap.size ≤ k := fun k hk => own_ge hown4 k hk; have C5 := C4.grown hgrow5 (fun k hk => by have := hr5 k hk; omega); have G5 := gw_grown G4 hgrow5 (fun k hk => by have := hr5 k hk; omega)) | (refine step_append_any _ rfl (.tmp 75) (.tmp 77) 35 rfl v.heap.size 25 i0 _ 5 40 Try.underlying35 hi0 hz0 HI1.out HI.out rfl (by decide) (.slice (some ⟨v.heap.size, 0, none⟩) 0 0) 0 [] rfl ((EA.out ()).alloc (.cells #[.int .i64 y.f0, .int .i64 y.f1, .int .i64 y.f2, .int .i64 y.f3, .int .i64 y.f4] 25)) ⟨g, 5, none⟩ (L.length - 1) (c - 1) (flat (L.drop 1)) rfl (by rw [flat_n, List.length_drop]) (HNW.out _ (show Below v.heap.size v ((v.alloc (.cells #[] 25)).alloc (.cells #[.int .i64 y.f0, .int .i64 y.f1, .int .i64 y.f2, .int .i64 y.f3, .int .i64 y.f4] 25)).drew from (al (al (Below.refl _ _))).drew)) (flat_one _) (fun e => by cases e) (by unfold maxLen; omega) (by omega) (by show v.heap.size ≤ ((v.alloc (.cells #[] 25)).alloc (.cells #[.int .i64 y.f0, .int .i64 y.f1, .int .i64 y.f2, .int .i64 y.f3, .int .i64 y.f4] 25)).heap.size; simp only [size_alloc']; omega) _ rfl ?_; intro g4 c4 w4 hown0 hgrow4 hat4 hlt4; have hown4 : w4.ownsRow v.heap.size 25 5 (.slice (some ⟨g4, 0, none⟩) (L.length - 1) c4) (L.length - 1) (flat (L.drop 1)) := (by simpa using hown0); clear hown0; have hb4 := (show Below v.heap.size v ((v.alloc (.cells #[] 25)).alloc (.cells #[.int .i64 y.f0, .int .i64 y.f1, .int .i64 y.f2, .int .i64 y.f3, .int .i64 y.f4] 25)).drew from (al (al (Below.refl _ _))).drew); have C4 := (C.more hb4).grown hgrow4 (fun k hk => by have := row_at hk; omega); have G4 := gw_grown (grown_more GW hb4) hgrow4 (fun k hk => by have := row_at hk; omega); have O4 := own_grownN (own_keep O hb4) hgrow4 (fun k hk => by have := row_at hk; omega); obtain ⟨l0, l1, l2, l3, l4⟩ := own5 O4 (i := 0) hl0 hy; have hx4 : ∀ j q, [.int .i64 y.f0, .int .i64 y.f1, .int .i64 y.f2, .int .i64 y.f3, .int .i64 y.f4][j]? = some q → w4.cell? ((⟨v.heap.size + 1, 0, none⟩ : Addr).add j) = some q := fun j q hq => by rw [cell_add, Nat.zero_add, (show World.grownBy ((v.alloc (.cells #[] 25)).alloc (.cells #[.int .i64 y.f0, .int .i64 y.f1, .int .i64 y.f2, .int .i64 y.f3, .int .i64 y.f4] 25)).drew w4 (some v.heap.size) from hgrow4).cell_far ⟨v.heap.size + 1, j, none⟩ (by show v.heap.size + 1 < ((v.alloc (.cells #[] 25)).alloc (.cells #[.int .i64 y.f0, .int .i64 y.f1, .int .i64 y.f2, .int .i64 y.f3, .int .i64 y.f4] 25)).heap.size; simp only [size_alloc']; omega) (by intro e; injection e with e; exact absurd e (show ¬ (v.heap.size + 1 = v.heap.size) by omega))]; have := NX2.out j q hq; rw [cell_add, Nat.zero_add] at this; exact this))
            all_goals
              go_wp2
              go_ret
              have hM : (L.drop 1 ++ [y]).length = L.length := by simp; omega
              have O9 : w5.ownsRow w.heap.size 25 5 (.slice (some ⟨g5, 0, none⟩) (L.drop 1 ++ [y]).length c5) (L.drop 1 ++ [y]).length (flat (L.drop 1 ++ [y])) := by
                rw [flat_snoc]
                have e : (L.drop 1 ++ [y]).length = L.length - 1 + 1 := by simp
                rw [e]
                exact own_base hown5 (by omega)
              exact ⟨L.drop 1 ++ [y], g5, c5, by omega, HSD.out, by simp, O9, C5.le (by omega), G5⟩
          · have hl1' : decide ((1 : Int) < L.length) = false := decide_eq_false (by omega)
            go_wp2
            go_ret
            exact ⟨L, g, c, by omega, HS.out, rfl, O, C.le (by omega), GW⟩
        · go_wp2
          go_ret
          exact ⟨L, g, c, by omega, HS.out, rfl, O, C.le (by omega), GW⟩
end Go.Proofs.Ytknlgdahcfgbeaa.DTrip2
