/- Trips: crossingsOn, l1Put, LongestQuiet. Made by tools/mk_tripo.py. -/
import Derived.Test.YtphflbgljejokaaTripJ
import Derived.Test.YtphflbgljejokaaRInt
import Derived.Test.YtphflbgljejokaaRegn3
import Derived.Deep.AppendLies
import Derived.Deep.RegionLawGrows
import Derived.Deep.Cut
import Derived.Deep.CutBlock
import Derived.Deep.DeepCutAuto
namespace Go.Proofs.Ytphflbgljejokaa.TripO
open Go.RowKit Go.Proofs.Ytphflbgljejokaa.Mem Go.Proofs.Ytphflbgljejokaa.Base Go.Proofs.Ytphflbgljejokaa.Within Go.Proofs.Ytphflbgljejokaa.SInt Go.Proofs.Ytphflbgljejokaa.RInt Go.Proofs.Ytphflbgljejokaa.STrip Go.Proofs.Ytphflbgljejokaa.Regn Go.Proofs.Ytphflbgljejokaa.Boxes Go.Proofs.Ytphflbgljejokaa.Keep Go.Proofs.Ytphflbgljejokaa.TripP Go.Proofs.Ytphflbgljejokaa.TripS Go.Proofs.Ytphflbgljejokaa.TripG Go.Proofs.Ytphflbgljejokaa.TripC Go.Proofs.Ytphflbgljejokaa.TripJ
open Go.Proofs.Ytphflbgljejokaa.TripT (Cr cr_keep)
open Go.Proofs.Ytphflbgljejokaa.TripQ (ev ev_len ev_cell cell_kept sortI sortI_len)
set_option linter.unusedVariables false
set_option linter.unusedSimpArgs false
set_option maxRecDepth 100000
theorem ev_snoc {s e1 s1 v1 : Int} {E : List Int} (h : s1 = s) (h2 : v1 = e1 + 4) : ev s (E ++ [e1]) = ev s E ++ [.int .i64 s1, .int .i64 e1, .int .i64 v1] := by
  subst h; subst h2; unfold TripQ.ev cflat; rw [List.map_append, List.flatMap_append]; rfl
def OnPost (L : List Int) (s : Int) (w : World) (e : Ending) (w' : World) : Prop :=
  ∃ g c, e = .returned (.slice (some ⟨g, 0, none⟩) L.length c) ∧ w'.ownsRow w.heap.size 70 3 (.slice (some ⟨g, 0, none⟩) L.length c) L.length (ev s L) ∧ Below w.heap.size w w'
theorem on_mk {L : List Int} {s : Int} {w w' : World} {g c n : Nat} {v : Value} (h : v = .slice (some ⟨g, 0, none⟩) n c) (hn : n = L.length)
    (ho : w'.ownsRow w.heap.size 70 3 (.slice (some ⟨g, 0, none⟩) n c) n (ev s L)) (hB : Below w.heap.size w w') : OnPost L s w (.returned v) w' := by
  subst hn; exact ⟨g, c, by rw [h], ho, hB⟩
set_option maxHeartbeats 3200000 in
theorem on_impl (P : Option Addr) (cap : Nat) (l : List R) (s : Int) (hg : good l = true) (w : World) (hr : Rd w w.heap.size P (flat l)) :
    Calls Try.prog 90 #[.slice P l.length cap, .int .i64 s] w (OnPost (sortI (entL l s l.length)) s w) := by
  obtain ⟨i0, hi0, hz0, hz1, hz2⟩ := info_parts info_C
  have HI := Lib.hid hz2; clear hz2
  have HI1 := Lib.hid hz1; clear hz1
  have HR := Lib.hid hr; clear hr
  have h10 := (good_all hg).1
  have HA := Lib.hid (good_all hg).2
  clear hg
  go_enter Try.func90, Try.ntmps90
  go_wp2_with fail
  have O := cempty w w.heap.size (Nat.le_refl _)
  have HB := al (Below.refl _ w) (o := .cells #[] 70)
  go_loopw [5, 13] (fun z ki wr => ∃ (k : Nat) (E : List Int) (g c : Nat), k ≤ l.length ∧ ki = .int .i64 k ∧ z = .slice (some ⟨g, 0, none⟩) E.length c ∧ Hid (entL l s k = E) ∧ wr.ownsRow w.heap.size 70 3 (.slice (some ⟨g, 0, none⟩) E.length c) E.length (ev s E) ∧ Below w.heap.size w wr) (fun _ ki _ => l.length - (intOf ki).toNat)
  case atStart => exact ⟨0, [], _, _, Nat.zero_le _, rfl, rfl, Lib.hid rfl, O, HB⟩
  case round =>
    clear O HB
    obtain ⟨k, E, g, c, hk, rfl, rfl, HE, O, HB0⟩ := hrel
    by_cases hlt : k < l.length
    · obtain ⟨b, o, rfl, hb, hc⟩ := HR.out.at (k := k * 5) (by rw [flat_n]; omega)
      obtain ⟨x, hx⟩ : ∃ x, l[k] = x := ⟨_, rfl⟩
      obtain ⟨h0, h1, h2, h3, h4⟩ := cells5 HB0 hb hc hlt hx
      have HOX := Lib.hid (show okT x = true by rw [← hx]; exact HA.out k hlt)
      have HX := Lib.hid hx
      have HL := Lib.hid hlt
      have HELN := Lib.hid (show E.length ≤ 10 by rw [← HE.out]; have := entL_len l s k; omega)
      clear hx hc
      go_wp2_with fail
      have X := Box.new HB0 [.int .i64 x.f0, .int .i64 x.f1, .int .i64 x.f2, .int .i64 x.f3, .int .i64 x.f4] 25 (g := wr.heap.size) rfl
      replace O := own_keep O (al (Below.refl _ _) (o := (.cells #[.int .i64 x.f0, .int .i64 x.f1, .int .i64 x.f2, .int .i64 x.f3, .int .i64 x.f4] 25)))
      generalize (wr.alloc (.cells #[.int .i64 x.f0, .int .i64 x.f1, .int .i64 x.f2, .int .i64 x.f3, .int .i64 x.f4] 25)) = W1 at X O ⊢
      have X_0 := X.cells 0 _ rfl
      have X_1 := X.cells 1 _ rfl
      have X_2 := X.cells 2 _ rfl
      have X_3 := X.cells 3 _ rfl
      have X_4 := X.cells 4 _ rfl
      have X_f0 := X.free 0 (by simp)
      have X_f1 := X.free 1 (by simp)
      have X_f2 := X.free 2 (by simp)
      have X_f3 := X.free 3 (by simp)
      have X_f4 := X.free 4 (by simp)
      have X_t := X.there
      clear h0 h1 h2 h3 h4
      have HDX := Lib.hid (show ∀ j, (Value.slice (some ⟨g, 0, none⟩) E.length c).ownBlock = some j → j < W1.heap.size from fun j hj => (World.ownsRow.lt O j hj).2)
      go_wp2_with fail
      refine (cross_impl x HOX.out _).mono ?_
      rintro e v2 ⟨A1, c1, rfl, O1, hv2⟩
      clear X_0 X_1 X_2 X_3 X_4 X_f0 X_f1 X_f2 X_f3 X_f4 X_t
      replace X := X.more hv2
      replace O := own_keep O hv2
      have zhv2 := hv2.size
      clear hv2
      have X_0 := X.cells 0 _ rfl
      have X_1 := X.cells 1 _ rfl
      have X_2 := X.cells 2 _ rfl
      have X_3 := X.cells 3 _ rfl
      have X_4 := X.cells 4 _ rfl
      have X_f0 := X.free 0 (by simp)
      have X_f1 := X.free 1 (by simp)
      have X_f2 := X.free 2 (by simp)
      have X_f3 := X.free 3 (by simp)
      have X_f4 := X.free 4 (by simp)
      have X_t := X.there
      obtain ⟨B0, hB0⟩ : ∃ B, W1.heap.size = B := ⟨_, rfl⟩
      have HSZ := Lib.hid (show B0 ≤ v2.heap.size by rw [← hB0]; omega)
      have HD0 := Lib.hid HDX.out
      rw [hB0] at O1 HD0
      obtain ⟨B1, R1⟩ : ∃ B1, Cr v2 B0 B1 A1 c1 (crossL x (num x)) := ⟨v2.heap.size, O1, fun j hj => (World.ownsRow.lt O1 j hj).2, Nat.le_refl _⟩
      have HDB := Lib.hid (show ∀ j, (Value.slice (some ⟨g, 0, none⟩) E.length c).ownBlock = some j → j < B0 ∨ B1 ≤ j from fun j hj => .inl (HD0.out j hj))
      have HXB := Lib.hid X.below
      clear O1 hB0 HD0
      obtain ⟨L1, hL1⟩ : ∃ L, crossL x (num x) = L := ⟨_, rfl⟩
      have HL1 := Lib.hid (show L1.length = num x by rw [← hL1, crossL_len])
      have HG1 := Lib.hid (show ∀ i (h : i < L1.length), L1[i] = cat x i by subst hL1; intro i h; exact crossL_get x _ i h)
      have hn1 : L1.length ≤ 9 := by have := (num_is HOX.out).2.2; rw [HL1.out]; exact this
      rw [hL1] at R1 ⊢
      clear hL1
      go_wp2_with fail
      clear X_0 X_1 X_2 X_3 X_4 X_f0 X_f1 X_f2 X_f3 X_f4 X_t
      clear X
      go_loopw [5, 20] (fun z mi wr => ∃ (m : Nat) (F : List Int) (g c : Nat), m ≤ L1.length ∧ mi = .int .i64 m ∧ z = .slice (some ⟨g, 0, none⟩) F.length c ∧ Hid (F = E ++ inL x s m) ∧ wr.ownsRow w.heap.size 70 3 (.slice (some ⟨g, 0, none⟩) F.length c) F.length (ev s F) ∧ Cr wr B0 B1 A1 c1 L1 ∧ Hid (∀ j, (Value.slice (some ⟨g, 0, none⟩) F.length c).ownBlock = some j → j < B0 ∨ B1 ≤ j) ∧ Below w.heap.size w wr) (fun _ mi _ => L1.length - (intOf mi).toNat)
      case atStart => exact ⟨0, E, g, c, Nat.zero_le _, rfl, rfl, Lib.hid (by show _ = E ++ []; rw [List.append_nil]), O, R1, HDB, HXB.out⟩
      case round =>
        clear O R1 HDB HXB HSZ
        obtain ⟨m, F, g, c, hm, rfl, rfl, HF, O, R1, HD, HB0⟩ := hrel
        by_cases hlm : m < L1.length
        · obtain ⟨b2, o2, rfl, hbs, hc⟩ := R1.rd.at (k := m * 3) (by rw [cflat_n]; omega)
          obtain ⟨⟨s1, e1, v1⟩, hz⟩ : ∃ z, L1[m] = z := ⟨_, rfl⟩
          have d0 : wr.cell? ⟨b2, o2 + m * 3, none⟩ = some (.int .i64 s1) := by rw [hc _ _ (cflat_0 L1 m hlm), hz]
          have d1 : wr.cell? ⟨b2, o2 + m * 3 + 1, none⟩ = some (.int .i64 e1) := by rw [Nat.add_assoc, hc _ _ (cflat_1 L1 m hlm), hz]
          have d2 : wr.cell? ⟨b2, o2 + m * 3 + 2, none⟩ = some (.int .i64 v1) := by rw [Nat.add_assoc, hc _ _ (cflat_2 L1 m hlm), hz]
          have HCT := Lib.hid (show s1 = sec x m ∧ e1 = x.f3 + 4 * (m : Int) ∧ v1 = e1 + 4 by
            have := HG1.out m hlm
            rw [hz] at this
            unfold cat at this
            injection this with a b c
            subst a; subst b; subst c; exact ⟨rfl, rfl, rfl⟩)
          have HLM := Lib.hid hlm
          have HFL := Lib.hid (show F.length ≤ 19 by rw [HF.out, List.length_append]; have := inL_len x s m; have := HELN.out; omega)
          clear hz hc
          cases p1 : (s1 == s)
          · have HN := Lib.hid (show F = E ++ inL x s (m + 1) by rw [inL_no (fun e => by rw [← HCT.out.1] at e; rw [e] at p1; simp at p1)]; exact HF.out)
            have nx := al (Below.refl _ wr) (o := .cells #[.int .i64 s1, .int .i64 e1, .int .i64 v1] 70)
            go_wp2
            go_roundw
            case rel => exact ⟨m + 1, F, g, c, HLM.out, by go_num, rfl, HN, own_keep O nx, cr_keep R1 nx, HD, be HB0 nx⟩
            case measure => have := HLM.out; simp [intOf]; omega
          · have hs1 : s1 = s := eq_of_beq p1
            have HN := Lib.hid (show F ++ [e1] = E ++ inL x s (m + 1) by rw [inL_yes (by rw [← HCT.out.1]; exact hs1), HF.out, HCT.out.2.1, List.append_assoc])
            have HEV := Lib.hid (ev_snoc (E := F) hs1 HCT.out.2.2)
            clear hs1
            go_upto_region 9 with fail
            have Z := Box.new HB0 [.int .i64 s1, .int .i64 e1, .int .i64 v1] 70 (g := wr.heap.size) rfl
            replace O := own_keep O (al (Below.refl _ _) (o := (.cells #[.int .i64 s1, .int .i64 e1, .int .i64 v1] 70)))
            replace R1 := cr_keep R1 (al (Below.refl _ _) (o := (.cells #[.int .i64 s1, .int .i64 e1, .int .i64 v1] 70)))
            generalize (wr.alloc (.cells #[.int .i64 s1, .int .i64 e1, .int .i64 v1] 70)) = W1 at Z O R1 ⊢
            have Z_0 := Z.cells 0 _ rfl
            have Z_1 := Z.cells 1 _ rfl
            have Z_2 := Z.cells 2 _ rfl
            have Z_f0 := Z.free 0 (by simp)
            have Z_f1 := Z.free 1 (by simp)
            have Z_f2 := Z.free 2 (by simp)
            have Z_t := Z.there
            clear d0 d1 d2 hbs
            have hm1 : F.length + 1 ≤ maxLen := by have := HFL.out; unfold maxLen; omega
            have hm2 : (F.length + 1) * 24 ≤ 140737488355328 := by have := HFL.out; omega
            have HHB := Lib.hid Z.below.size
            have HRL := Lib.hid (cr_keep R1 (al (Below.refl _ _) (o := .cells #[.int .i64 s1, .int .i64 e1, .int .i64 v1] 70))).le
            go_wp2_with (at_builtin; go_must (refine wpList_append_lies _ rfl _ _ 67 rfl w.heap.size 70 i0 _ 3 24 Try.underlying67 hi0 hz0 HI1.out HI.out rfl (by decide) (.slice (some ⟨g, 0, none⟩) F.length c) F.length (ev s F) rfl (O.alloc _) ⟨W1.heap.size, 0, none⟩ 1 1 [.int .i64 s1, .int .i64 e1, .int .i64 v1] rfl rfl (news3 _ _ _ _ _) (ones3 _ _ _) (by decide) hm1 hm2 (by rw [size_alloc']; have := HHB.out; omega) _ rfl ?_; intro g9 c9 w9 hown1 hgrow hat hlt9))
            have hZB := al Z.below (o := .cells #[.int .i64 s1, .int .i64 e1, .int .i64 v1] 70)
            have HB9 := Lib.hid (bl_grown hZB hgrow (fun j hj => own_ge O j hj))
            have HR9 := Lib.hid ((cr_keep R1 (al (Below.refl _ _) (o := .cells #[.int .i64 s1, .int .i64 e1, .int .i64 v1] 70))).grown hgrow (fun j hj => HD.out j hj))
            have HO9 := Lib.hid (show w9.ownsRow w.heap.size 70 3 (.slice (some ⟨g9, 0, none⟩) (F ++ [e1]).length c9) (F ++ [e1]).length (ev s (F ++ [e1])) by rw [List.length_append, HEV.out]; exact hown1)
            have HD9 := Lib.hid (show ∀ j, (Value.slice (some ⟨g9, 0, none⟩) (F ++ [e1]).length c9).ownBlock = some j → j < B0 ∨ B1 ≤ j from fun j hj => by
              have h2 := row_at hj
              rcases hat with h1 | h1
              · exact HD.out j (by rw [h1, h2])
              · refine .inr ?_
                have h3 := HRL.out
                omega)
            clear hown1 hgrow hat hlt9 hm1 hm2 O Z R1 hZB
            go_roundw
            case rel => exact ⟨m + 1, F ++ [e1], g9, c9, HLM.out, by go_num, by rw [List.length_append] <;> rfl, HN, HO9.out, HR9.out, HD9, HB9.out⟩
            case measure => have := HLM.out; simp [intOf]; omega
        · have HN := Lib.hid (show entL l s (k + 1) = F by
            have e : m = num x := by have := HL1.out; omega
            rw [HF.out, e, inL_all HOX.out]
            by_cases hq : 0 ≤ ent x s
            · rw [if_pos hq, entL_yes HL.out HX.out hq, HE.out]
            · rw [if_neg hq, entL_no HL.out HX.out hq, HE.out, List.append_nil])
          go_wp2
          go_roundw
          case rel => exact ⟨k + 1, F, g, c, HL.out, by go_num, rfl, HN, O, HB0⟩
          case measure => have := HL.out; simp [intOf]; omega
    · have HEE := Lib.hid (show entL l s l.length = E by have := HE.out; rwa [show k = l.length by omega] at this)
      have HELN := Lib.hid (show E.length ≤ 12 by rw [← HE.out]; have := entL_len l s k; omega)
      have HS := Lib.hid (TripQ.sort_any w.heap.size g c s E wr HB0.size HELN.out O)
      clear O
      go_wp2_with fail
      refine HS.out.mono ?_
      rintro e w1 ⟨⟨v, rfl⟩, O, hB⟩
      have HB1 := Lib.hid (HB0.trans hB)
      have HO := Lib.hid O
      have HLS := Lib.hid (show E.length = (sortI (entL l s l.length)).length by rw [sortI_len, HEE.out])
      clear O hB
      go_wp2
      go_ret
      exact on_mk rfl HLS.out (by rw [HEE.out]; exact HO.out) HB1.out
theorem iv_one (l : List Int) : ∀ u ∈ iv l, u.oneCell' = true := by
  intro u hu; unfold iv at hu; obtain ⟨y, _, rfl⟩ := List.mem_map.1 hu; rfl
theorem new_cell (u : World) (x : Int) : (u.alloc (.cells #[.int .i64 x] 3)).cell? ⟨u.heap.size, 0, none⟩ = some (.int .i64 x) := by
  have := cell_one_new u (.int .i64 x) 3 0 _ rfl
  rwa [cell_at] at this
theorem one_news {h : Nat} {x : Int} {u : World} (X : u.cell? ⟨h, 0, none⟩ = some (.int .i64 x)) : ∀ j v, [Value.int .i64 x][j]? = some v → u.cell? ((⟨h, 0, none⟩ : Addr).add j) = some v := by
  intro j v hv
  rw [cell_at, Nat.zero_add]
  cases j with
  | zero => simp at hv; subst hv; exact X
  | succ j => simp at hv
theorem own0 (u : World) (base : Nat) (h : base ≤ u.heap.size) : (u.alloc (.cells #[] 3)).ownsRow base 3 1 (.slice (some ⟨u.heap.size, 0, none⟩) 0 0) 0 [] := by
  have := World.ownsRow_lit u #[] 0 (e := 3) (size := 1) (base := base) h (by unfold maxLen; omega) rfl
  simpa using this
def Srcs (w : World) (b o : Nat) (l : List Int) : Prop := ∀ u, Below w.heap.size w u → ∀ j v, (iv l)[j]? = some v → u.cell? ⟨b, o + j, none⟩ = some v
theorem Srcs.of {w : World} {b o : Nat} {l : List Int} (h : Rd w w.heap.size (some ⟨b, o, none⟩) (iv l)) : Srcs w b o l := by
  intro u hu j v hv
  rcases h with h | ⟨b', o', hA, hb, hc⟩
  · rw [h] at hv; cases hv
  · injection hA with hA; injection hA with h1 h2 _; subst h1; subst h2
    rw [(bcell hu).1 _ _ hb]; exact hc j v hv
theorem Srcs.take {w u : World} {b o : Nat} {l : List Int} (h : Srcs w b o l) (hu : Below w.heap.size w u) (k : Nat) : ∀ j v, (iv (l.take k))[j]? = some v → u.cell? ((⟨b, o, none⟩ : Addr).add j) = some v := by
  intro j v hv
  rw [cell_at]
  refine h u hu j v ?_
  unfold iv at hv ⊢
  rw [List.map_take, List.getElem?_take] at hv
  split at hv
  · exact hv
  · cases hv
theorem Srcs.drop {w u : World} {b o : Nat} {l : List Int} (h : Srcs w b o l) (hu : Below w.heap.size w u) (n : Nat) : ∀ j v, ((iv l).drop n)[j]? = some v → u.cell? ((⟨b, o + n, none⟩ : Addr).add j) = some v := by
  intro j v hv
  rw [cell_at, Nat.add_assoc]
  rw [List.getElem?_drop] at hv
  exact h u hu _ v hv
theorem drop_none {u : World} {l : List Int} {n : Nat} {ad : Addr} (h : l.length ≤ n) : ∀ j v, ((iv l).drop n)[j]? = some v → u.cell? (ad.add j) = some v := by
  intro j v hv
  rw [List.drop_eq_nil_of_le (by rw [iv_len]; omega)] at hv
  cases hv
theorem step_own {P : Program} {w : World} {yf : Nat → Option Bool} {o : Oper} {a : Act} {K : Act → World → Prop} {Q : Exit → Act → World → Prop} {E : Prop} (hgd : o.guard = none) (s x : Operand) (t : TypeId)
    (ho : o.op = .call { callee := .builtin .append, args := #[s, x], argTypes := #[t, t] })
    (base : Nat) (e : TypeId) (i : TypeInfo) (z : Value) (size bytes : Nat) (ht : P.underlying t = some (.slice e)) (hi : P.info? e = some i) (hz : i.zero = some z)
    (hsize : i.size = size) (hby : i.bytes = bytes) (hzs : z.cells.size = size) (hsz : 0 < size)
    (v : Value) (n : Nat) (xs : List Value) (hs : a.eval s = v) (hown : w.ownsRow base e size v n xs)
    (ad : Addr) (m c : Nat) (news : List Value) (hx : a.eval x = .slice (some ad) m c) (hl : news.length = m * size) (hnews : ∀ j u, news[j]? = some u → w.cell? (ad.add j) = some u) (h1 : ∀ u ∈ news, u.oneCell' = true)
    (h63 : n + m ≤ maxLen) (hbytes : (n + m) * bytes ≤ 140737488355328) (hbase : base ≤ w.heap.size)
    (h : ∀ v' w', w'.ownsRow base e size v' (n + m) (xs ++ news) → w.grownBy w' v.ownBlock → (v' = .slice none 0 0 ↔ v = .slice none 0 0 ∧ m = 0) → K (a.put o.dst v') w') :
    if Region.wanted o yf = true then Oper.wp P o a w K Q else E := by
  rw [if_pos (by simp [Region.wanted, hgd])]
  exact wp_append_own w s x t ho base e i z size bytes ht hi hz hsize hby hzs hsz v n xs hs hown ad m c news hx hl hnews h1 h63 hbytes hbase h
/-- an append onto an empty row without room: nothing that stood is touched. -/
theorem step_fresh {P : Program} {w : World} {yf : Nat → Option Bool} {o : Oper} {a : Act} {K : Act → World → Prop} {Q : Exit → Act → World → Prop} {E : Prop} (hgd : o.guard = none) (s x : Operand) (t : TypeId)
    (ho : o.op = .call { callee := .builtin .append, args := #[s, x], argTypes := #[t, t] })
    (base : Nat) (e : TypeId) (i : TypeInfo) (z : Value) (size bytes : Nat) (ht : P.underlying t = some (.slice e)) (hi : P.info? e = some i) (hz : i.zero = some z)
    (hsize : i.size = size) (hby : i.bytes = bytes) (hzs : z.cells.size = size) (hsz : 0 < size)
    (g : Nat) (hs : a.eval s = .slice (some ⟨g, 0, none⟩) 0 0) (hown : w.ownsRow base e size (.slice (some ⟨g, 0, none⟩) 0 0) 0 [])
    (ad : Addr) (m c : Nat) (news : List Value) (hx : a.eval x = .slice (some ad) m c) (hl : news.length = m * size) (hnews : ∀ j u, news[j]? = some u → w.cell? (ad.add j) = some u) (h1 : ∀ u ∈ news, u.oneCell' = true)
    (h63 : m ≤ maxLen) (hbytes : m * bytes ≤ 140737488355328) (hbase : base ≤ w.heap.size)
    (h : ∀ v' w', w'.ownsRow base e size v' m news → Below w.heap.size w w' → K (a.put o.dst v') w') :
    if Region.wanted o yf = true then Oper.wp P o a w K Q else E := by
  rw [if_pos (by simp [Region.wanted, hgd])]
  by_cases hm : m = 0
  · subst hm
    obtain rfl : news = [] := List.eq_nil_of_length_eq_zero (by omega)
    have h9 := step_append_room (ops := #[]) (Q := Q) (K := K) (E := True) hgd s x t ho e i size ht hi hsize g 0 0 0 hs ad 0 c [] hx (by simp) hnews h1 (by omega) (fun j hj => by simp at hj) (h _ w hown (Below.refl _ _))
    rwa [if_pos (by simp [Region.wanted, hgd])] at h9
  · have h9 := step_append_grows (ops := #[]) (Q := Q) (K := K) (E := True) hgd s x t ho e i z size bytes ht hi hz hsize hby hzs hsz (some ⟨g, 0, none⟩) 0 0 [] hs (by simp) (by simp) (by simp) ad m c news hx hl hnews h1 (by omega) (by omega) (by simpa using hbytes) (fun v' w' ho' hg' => h v' w' (by rw [Nat.zero_add, List.nil_append] at ho'; exact own_base ho' hbase) ((Below.refl _ w).grown hg' (Nat.le_refl _) (fun k hk => by cases hk)))
    rwa [if_pos (by simp [Region.wanted, hgd])] at h9
set_option maxHeartbeats 3200000 in
theorem put_spec (b o cap : Nat) (l : List Int) (x : Int) (hx : x ∉ l) (w : World) (hr : Rd w w.heap.size (some ⟨b, o, none⟩) (iv l)) (hn : l.length ≤ 1000) (hcap : l.length ≤ cap) :
    Calls Try.prog 91 #[.slice (some ⟨b, o, none⟩) l.length cap, .int .i64 x] w (LPost (putI l x) w) := by
  obtain ⟨i0, hi, hz0, hz1, hz2⟩ := info_parts info_int
  have HI := Lib.hid hz2; clear hz2
  have HI1 := Lib.hid hz1; clear hz1
  have HSRC := Lib.hid (Srcs.of hr); clear hr
  have HXN := Lib.hid hx; clear hx
  go_enter Try.func91, Try.ntmps91
  go_upto_block 0 with fail
  go_cut [5] from 6 (fun iv9 wc => ∃ k : Nat, k ≤ l.length ∧ iv9 = .int .i64 k ∧ Hid (lowI l x = k) ∧ w = wc)
  case first => as_aux_lemma =>
    go_wp2_with fail
    go_loopw [5] (fun i wr => ∃ k : Nat, k ≤ l.length ∧ i = .int .i64 k ∧ Hid (∀ j (h : j < l.length), j < k → l[j] < x) ∧ wr = w) (fun i _ => l.length - (intOf i).toNat)
    case atStart => exact ⟨0, Nat.zero_le _, rfl, Lib.hid (fun j h hj => by omega), rfl⟩
    case round =>
      obtain ⟨k, hk, rfl, HL, rfl⟩ := hrel
      by_cases hlt : k < l.length
      · obtain ⟨y, hy⟩ : ∃ y, l[k] = y := ⟨_, rfl⟩
        have h0 : wr.cell? ⟨b, o + k, none⟩ = some (.int .i64 y) := by rw [← hy]; exact HSRC.out wr (Below.refl _ _) _ _ (iv_get l k hlt)
        have HY := Lib.hid hy; clear hy
        by_cases hc : y < x
        · have e1 : decide (y < x) = true := decide_eq_true hc
          have e3 : IntKind.i64.wrap ((k : Int) + 1) = k + 1 := IntWalk.i64_in _ (by omega)
          have HN := Lib.hid (show ∀ j (h : j < l.length), j < k + 1 → l[j] < x from fun j h hj => by
            rcases Nat.lt_or_ge j k with h9 | h9
            · exact HL.out j h h9
            · have : j = k := by omega
              subst this; rw [HY.out]; exact hc)
          go_wp2
          go_roundw
          case rel => exact ⟨k + 1, hlt, by go_num, HN, trivial⟩
          case measure => simp [intOf]; omega
        · have e1 : decide (y < x) = false := decide_eq_false hc
          have HN := Lib.hid (lowI_is hk HL.out (fun h => by rw [HY.out]; exact hc))
          go_wp2_with fail
          go_meet
          case rel => exact ⟨k, hk, rfl, HN, rfl⟩
      · have HN := Lib.hid (lowI_is (x := x) hk HL.out (fun h => absurd h hlt))
        go_wp2_with fail
        go_meet
        case rel => exact ⟨k, hk, rfl, HN, rfl⟩
  case rest =>
    obtain ⟨k, hk, rfl, HLW, rfl⟩ := hcut
    obtain ⟨m, hm⟩ : ∃ m, putI l x = m := ⟨_, rfl⟩
    have hmm : m = l.take k ++ x :: l.drop k := by rw [← hm]; unfold putI; rw [HLW.out]
    have HLM := Lib.hid (show m.length = k + 1 + (l.length - k) by rw [hmm, List.length_append, List.length_cons, List.length_take, List.length_drop]; omega)
    have HFM := Lib.hid (show iv m = iv (l.take k) ++ [.int .i64 x] ++ (iv l).drop k by
      rw [hmm]; unfold iv; rw [List.map_append, List.map_cons, List.map_drop, List.append_assoc]; rfl)
    have HM := Lib.hid hm
    clear hmm hm
    have hkc : k ≤ cap := by omega
    go_upto_region 4 with fail
    go_cut [31] from 20 (fun v wc9 => v = .bool false ∧ w = wc9)
    case first => as_aux_lemma =>
      by_cases hlt : k < l.length
      · obtain ⟨y, hy⟩ : ∃ y, l[k] = y := ⟨_, rfl⟩
        have h0 : w.cell? ⟨b, o + k, none⟩ = some (.int .i64 y) := by rw [← hy]; exact HSRC.out w (Below.refl _ _) _ _ (iv_get l k hlt)
        have e2 : (y == x) = false := by rw [beq_eq_false_iff_ne, ← hy]; exact fun e => HXN.out (by rw [← e]; exact List.getElem_mem hlt)
        clear hy
        go_wp2_with fail
        go_meet
        case rel => exact ⟨rfl, rfl⟩
      · go_wp2_with fail
        go_meet
        case rel => exact ⟨rfl, rfl⟩
    case rest =>
    obtain ⟨rfl, rfl⟩ := hcut
    go_wp2_with fail
    by_cases hcn : cap = k
    · have hcn2 : k = cap := hcn.symm
      clear hcn
      subst hcn2
      have HCAP := Lib.hid hcap; clear hcap
      refine wp_region_rel [33, 34, 35, 36, 37, 38, 39, 40, 41, 42, 43, 44, 4] (fun L f w' => (Below w.heap.size w w') ∧ (L 0 → ¬ L 4 → ∃ g, f 33 = .slice (some ⟨g, 0, none⟩) 0 0 ∧ w'.ownsRow w.heap.size 3 1 (.slice (some ⟨g, 0, none⟩) 0 0) (0) ([])) ∧ (L 1 → f 34 = .slice (some ⟨b, o, none⟩) l.length k) ∧ (L 2 → f 35 = .int .i64 k) ∧ (L 3 → f 36 = .slice (some ⟨b, o, none⟩) k k) ∧ (L 4 → ¬ L 7 → ∃ A1 c1, f 37 = .slice A1 k c1 ∧ w'.ownsRow w.heap.size 3 1 (.slice A1 k c1) (k) (iv (l.take k))) ∧ (L 5 → f 38 = .int .i64 x) ∧ (L 6 → ¬ L 7 → ∃ h, f 39 = .slice (some ⟨h, 0, none⟩) 1 1 ∧ w'.cell? ⟨h, 0, none⟩ = some (.int .i64 x)) ∧ (L 7 → ¬ L 11 → ∃ A2 c2, f 40 = .slice A2 (k + 1) c2 ∧ w'.ownsRow w.heap.size 3 1 (.slice A2 (k + 1) c2) (k + 1) (iv (l.take k) ++ [.int .i64 x])) ∧ (L 8 → f 41 = .slice (some ⟨b, o, none⟩) l.length k) ∧ (L 9 → f 42 = .int .i64 k) ∧ (L 10 → f 43 = .slice (some ⟨b, o, none⟩) (l.length - k) 0) ∧ (L 11 → ∃ A3 c3, f 44 = .slice A3 (k + 1 + (l.length - k)) c3 ∧ w'.ownsRow w.heap.size 3 1 (.slice A3 (k + 1 + (l.length - k)) c3) (k + 1 + (l.length - k)) (iv (l.take k) ++ [.int .i64 x] ++ (iv l).drop k)) ∧ (L 12 → ∃ A3 c3, f 4 = .slice A3 (k + 1 + (l.length - k)) c3 ∧ w'.ownsRow w.heap.size 3 1 (.slice A3 (k + 1 + (l.length - k)) c3) (k + 1 + (l.length - k)) (iv (l.take k) ++ [.int .i64 x] ++ (iv l).drop k))) (by kernel_rfl) (by kernel_rfl) (by kernel_rfl) (fun f => ⟨(Below.refl _ w).drew, fun h => h.elim, fun h => h.elim, fun h => h.elim, fun h => h.elim, fun h => h.elim, fun h => h.elim, fun h => h.elim, fun h => h.elim, fun h => h.elim, fun h => h.elim, fun h => h.elim, fun h => h.elim, fun h => h.elim⟩) ?_ ?_
      · apply RelH.op2
        · intro L f u K hN hS hK
          simp only [puts, Act.put, List.setIfInBounds_toArray, List.set_cons_zero, List.set_cons_succ, upd, Nat.reduceEqDiff, ↓reduceIte, if_true, if_false] at hK ⊢
          have HS9 := Lib.hid hS
          obtain ⟨qB, c0, c1, c2, c3, c4, c5, c6, c7, c8, c9, c10, c11, c12⟩ := hS
          have hv := al (Below.refl _ u) (o := .cells #[] 3)
          have hO := own0 u w.heap.size qB.size
          clear c0 c1 c2 c3 c4 c5 c6 c7 c8 c9 c10 c11 c12
          go_simp
          obtain ⟨qB, c0, c1, c2, c3, c4, c5, c6, c7, c8, c9, c10, c11, c12⟩ := HS9.out
          exact hK.out _ _ ⟨be qB hv, fun _ _ => ⟨_, rfl, hO⟩, fun h => c1 (h.resolve_right (by decide)), fun h => c2 (h.resolve_right (by decide)), fun h => c3 (h.resolve_right (by decide)), fun h t0 => (let ⟨A9, c9, e, O9⟩ := (c4 (h.resolve_right (by decide)) (fun z => t0 (.inl z))); ⟨A9, c9, e, own_keep O9 hv⟩), fun h => c5 (h.resolve_right (by decide)), fun h t0 => (let ⟨h, e, X⟩ := (c6 (h.resolve_right (by decide)) (fun z => t0 (.inl z))); ⟨h, e, cell_kept X hv⟩), fun h t0 => (let ⟨A9, c9, e, O9⟩ := (c7 (h.resolve_right (by decide)) (fun z => t0 (.inl z))); ⟨A9, c9, e, own_keep O9 hv⟩), fun h => c8 (h.resolve_right (by decide)), fun h => c9 (h.resolve_right (by decide)), fun h => c10 (h.resolve_right (by decide)), fun h => (let ⟨A9, c9, e, O9⟩ := (c11 (h.resolve_right (by decide))); ⟨A9, c9, e, own_keep O9 hv⟩), fun h => (let ⟨A9, c9, e, O9⟩ := (c12 (h.resolve_right (by decide))); ⟨A9, c9, e, own_keep O9 hv⟩)⟩ _ rfl
        apply RelH.op2
        · intro L f u K hN hS hK
          simp only [puts, Act.put, List.setIfInBounds_toArray, List.set_cons_zero, List.set_cons_succ, upd, Nat.reduceEqDiff, ↓reduceIte, if_true, if_false] at hK ⊢
          have HS9 := Lib.hid hS
          obtain ⟨qB, c0, c1, c2, c3, c4, c5, c6, c7, c8, c9, c10, c11, c12⟩ := hS
          clear c0 c1 c2 c3 c4 c5 c6 c7 c8 c9 c10 c11 c12
          go_simp
          obtain ⟨qB, c0, c1, c2, c3, c4, c5, c6, c7, c8, c9, c10, c11, c12⟩ := HS9.out
          exact hK.out _ _ ⟨qB, fun h t0 => c0 (h.resolve_right (by decide)) (fun z => t0 (.inl z)), fun _ => rfl, fun h => c2 (h.resolve_right (by decide)), fun h => c3 (h.resolve_right (by decide)), fun h t0 => c4 (h.resolve_right (by decide)) (fun z => t0 (.inl z)), fun h => c5 (h.resolve_right (by decide)), fun h t0 => c6 (h.resolve_right (by decide)) (fun z => t0 (.inl z)), fun h t0 => c7 (h.resolve_right (by decide)) (fun z => t0 (.inl z)), fun h => c8 (h.resolve_right (by decide)), fun h => c9 (h.resolve_right (by decide)), fun h => c10 (h.resolve_right (by decide)), fun h => c11 (h.resolve_right (by decide)), fun h => c12 (h.resolve_right (by decide))⟩ _ rfl
        apply RelH.op2
        · intro L f u K hN hS hK
          simp only [puts, Act.put, List.setIfInBounds_toArray, List.set_cons_zero, List.set_cons_succ, upd, Nat.reduceEqDiff, ↓reduceIte, if_true, if_false] at hK ⊢
          have HS9 := Lib.hid hS
          obtain ⟨qB, c0, c1, c2, c3, c4, c5, c6, c7, c8, c9, c10, c11, c12⟩ := hS
          clear c0 c1 c2 c3 c4 c5 c6 c7 c8 c9 c10 c11 c12
          go_simp
          obtain ⟨qB, c0, c1, c2, c3, c4, c5, c6, c7, c8, c9, c10, c11, c12⟩ := HS9.out
          exact hK.out _ _ ⟨qB, fun h t0 => c0 (h.resolve_right (by decide)) (fun z => t0 (.inl z)), fun h => c1 (h.resolve_right (by decide)), fun _ => rfl, fun h => c3 (h.resolve_right (by decide)), fun h t0 => c4 (h.resolve_right (by decide)) (fun z => t0 (.inl z)), fun h => c5 (h.resolve_right (by decide)), fun h t0 => c6 (h.resolve_right (by decide)) (fun z => t0 (.inl z)), fun h t0 => c7 (h.resolve_right (by decide)) (fun z => t0 (.inl z)), fun h => c8 (h.resolve_right (by decide)), fun h => c9 (h.resolve_right (by decide)), fun h => c10 (h.resolve_right (by decide)), fun h => c11 (h.resolve_right (by decide)), fun h => c12 (h.resolve_right (by decide))⟩ _ rfl
        apply RelH.op2
        · intro L f u K hN hS hK
          simp only [puts, Act.put, List.setIfInBounds_toArray, List.set_cons_zero, List.set_cons_succ, upd, Nat.reduceEqDiff, ↓reduceIte, if_true, if_false] at hK ⊢
          have HS9 := Lib.hid hS
          obtain ⟨qB, c0, c1, c2, c3, c4, c5, c6, c7, c8, c9, c10, c11, c12⟩ := hS
          have e1 := c1 (hN.out.2 1 (by decide +kernel))
          have e2 := c2 (hN.out.2 2 (by decide +kernel))
          clear c0 c1 c2 c3 c4 c5 c6 c7 c8 c9 c10 c11 c12
          go_simp
          obtain ⟨qB, c0, c1, c2, c3, c4, c5, c6, c7, c8, c9, c10, c11, c12⟩ := HS9.out
          exact hK.out _ _ ⟨qB, fun h t0 => c0 (h.resolve_right (by decide)) (fun z => t0 (.inl z)), fun h => c1 (h.resolve_right (by decide)), fun h => c2 (h.resolve_right (by decide)), fun _ => rfl, fun h t0 => c4 (h.resolve_right (by decide)) (fun z => t0 (.inl z)), fun h => c5 (h.resolve_right (by decide)), fun h t0 => c6 (h.resolve_right (by decide)) (fun z => t0 (.inl z)), fun h t0 => c7 (h.resolve_right (by decide)) (fun z => t0 (.inl z)), fun h => c8 (h.resolve_right (by decide)), fun h => c9 (h.resolve_right (by decide)), fun h => c10 (h.resolve_right (by decide)), fun h => c11 (h.resolve_right (by decide)), fun h => c12 (h.resolve_right (by decide))⟩ _ (by simp only [e1, e2] <;> rfl)
        apply RelH.op2
        · intro L f u K hN hS hK
          simp only [puts, Act.put, List.setIfInBounds_toArray, List.set_cons_zero, List.set_cons_succ, upd, Nat.reduceEqDiff, ↓reduceIte, if_true, if_false] at hK ⊢
          have HS9 := Lib.hid hS
          obtain ⟨qB, c0, c1, c2, c3, c4, c5, c6, c7, c8, c9, c10, c11, c12⟩ := hS
          obtain ⟨g, h0, O0⟩ := c0 (hN.out.2 0 (by decide +kernel)) (hN.out.1 4 (by decide +kernel))
          obtain h3 := c3 (hN.out.2 3 (by decide +kernel))
          refine step_fresh rfl (.tmp 33) (.tmp 36) 34 rfl w.heap.size 3 i0 _ 1 8 Try.underlying34 hi hz0 HI1.out HI.out rfl (by decide) g h0 O0 ⟨b, o, none⟩ k k (iv (l.take k)) h3 (by rw [iv_len, List.length_take]; omega) (HSRC.out.take qB k) (iv_one _) (by unfold maxLen; omega) (by omega) qB.size ?_
          intro v1 uw1 O1 hv
          obtain ⟨A1, d1, rfl⟩ := own_form O1
          exact hK.out (.slice A1 k d1) uw1 ⟨be qB hv, fun h t0 => (t0 (by simp)).elim, fun h => c1 (h.resolve_right (by decide)), fun h => c2 (h.resolve_right (by decide)), fun h => c3 (h.resolve_right (by decide)), fun _ _ => ⟨A1, d1, rfl, O1⟩, fun h => c5 (h.resolve_right (by decide)), fun h t0 => (let ⟨h, e, X⟩ := (c6 (h.resolve_right (by decide)) (fun z => t0 (.inl z))); ⟨h, e, cell_kept X hv⟩), fun h t0 => (let ⟨A9, c9, e, O9⟩ := (c7 (h.resolve_right (by decide)) (fun z => t0 (.inl z))); ⟨A9, c9, e, own_keep O9 hv⟩), fun h => c8 (h.resolve_right (by decide)), fun h => c9 (h.resolve_right (by decide)), fun h => c10 (h.resolve_right (by decide)), fun h => (let ⟨A9, c9, e, O9⟩ := (c11 (h.resolve_right (by decide))); ⟨A9, c9, e, own_keep O9 hv⟩), fun h => (let ⟨A9, c9, e, O9⟩ := (c12 (h.resolve_right (by decide))); ⟨A9, c9, e, own_keep O9 hv⟩)⟩ _ rfl
        apply RelH.op2
        · intro L f u K hN hS hK
          simp only [puts, Act.put, List.setIfInBounds_toArray, List.set_cons_zero, List.set_cons_succ, upd, Nat.reduceEqDiff, ↓reduceIte, if_true, if_false] at hK ⊢
          have HS9 := Lib.hid hS
          obtain ⟨qB, c0, c1, c2, c3, c4, c5, c6, c7, c8, c9, c10, c11, c12⟩ := hS
          clear c0 c1 c2 c3 c4 c5 c6 c7 c8 c9 c10 c11 c12
          go_simp
          obtain ⟨qB, c0, c1, c2, c3, c4, c5, c6, c7, c8, c9, c10, c11, c12⟩ := HS9.out
          exact hK.out _ _ ⟨qB, fun h t0 => c0 (h.resolve_right (by decide)) (fun z => t0 (.inl z)), fun h => c1 (h.resolve_right (by decide)), fun h => c2 (h.resolve_right (by decide)), fun h => c3 (h.resolve_right (by decide)), fun h t0 => c4 (h.resolve_right (by decide)) (fun z => t0 (.inl z)), fun _ => rfl, fun h t0 => c6 (h.resolve_right (by decide)) (fun z => t0 (.inl z)), fun h t0 => c7 (h.resolve_right (by decide)) (fun z => t0 (.inl z)), fun h => c8 (h.resolve_right (by decide)), fun h => c9 (h.resolve_right (by decide)), fun h => c10 (h.resolve_right (by decide)), fun h => c11 (h.resolve_right (by decide)), fun h => c12 (h.resolve_right (by decide))⟩ _ rfl
        apply RelH.op2
        · intro L f u K hN hS hK
          simp only [puts, Act.put, List.setIfInBounds_toArray, List.set_cons_zero, List.set_cons_succ, upd, Nat.reduceEqDiff, ↓reduceIte, if_true, if_false] at hK ⊢
          have HS9 := Lib.hid hS
          obtain ⟨qB, c0, c1, c2, c3, c4, c5, c6, c7, c8, c9, c10, c11, c12⟩ := hS
          have e5 := c5 (hN.out.2 5 (by decide +kernel))
          have hv := al (Below.refl _ u) (o := .cells #[.int .i64 x] 3)
          have hX := new_cell u x
          clear c0 c1 c2 c3 c4 c5 c6 c7 c8 c9 c10 c11 c12
          go_simp
          obtain ⟨qB, c0, c1, c2, c3, c4, c5, c6, c7, c8, c9, c10, c11, c12⟩ := HS9.out
          exact hK.out _ _ ⟨be qB hv, fun h t0 => (let ⟨g, e, O9⟩ := (c0 (h.resolve_right (by decide)) (fun z => t0 (.inl z))); ⟨g, e, own_keep O9 hv⟩), fun h => c1 (h.resolve_right (by decide)), fun h => c2 (h.resolve_right (by decide)), fun h => c3 (h.resolve_right (by decide)), fun h t0 => (let ⟨A9, c9, e, O9⟩ := (c4 (h.resolve_right (by decide)) (fun z => t0 (.inl z))); ⟨A9, c9, e, own_keep O9 hv⟩), fun h => c5 (h.resolve_right (by decide)), fun _ _ => ⟨_, rfl, hX⟩, fun h t0 => (let ⟨A9, c9, e, O9⟩ := (c7 (h.resolve_right (by decide)) (fun z => t0 (.inl z))); ⟨A9, c9, e, own_keep O9 hv⟩), fun h => c8 (h.resolve_right (by decide)), fun h => c9 (h.resolve_right (by decide)), fun h => c10 (h.resolve_right (by decide)), fun h => (let ⟨A9, c9, e, O9⟩ := (c11 (h.resolve_right (by decide))); ⟨A9, c9, e, own_keep O9 hv⟩), fun h => (let ⟨A9, c9, e, O9⟩ := (c12 (h.resolve_right (by decide))); ⟨A9, c9, e, own_keep O9 hv⟩)⟩ _ (by simp only [e5] <;> rfl)
        apply RelH.op2
        · intro L f u K hN hS hK
          simp only [puts, Act.put, List.setIfInBounds_toArray, List.set_cons_zero, List.set_cons_succ, upd, Nat.reduceEqDiff, ↓reduceIte, if_true, if_false] at hK ⊢
          have HS9 := Lib.hid hS
          obtain ⟨qB, c0, c1, c2, c3, c4, c5, c6, c7, c8, c9, c10, c11, c12⟩ := hS
          obtain ⟨A1, d1, h4, O4⟩ := c4 (hN.out.2 4 (by decide +kernel)) (hN.out.1 7 (by decide +kernel))
          obtain ⟨g6, h6, X⟩ := c6 (hN.out.2 6 (by decide +kernel)) (hN.out.1 7 (by decide +kernel))
          refine step_own rfl (.tmp 37) (.tmp 39) 34 rfl w.heap.size 3 i0 _ 1 8 Try.underlying34 hi hz0 HI1.out HI.out rfl (by decide) (.slice A1 k d1) k (iv (l.take k)) h4 O4 ⟨g6, 0, none⟩ 1 1 [.int .i64 x] h6 rfl (one_news X) (one_cell rfl) (by unfold maxLen; omega) (by omega) qB.size ?_
          intro v2 uw1 O2 hg2 _
          obtain ⟨A2, d2, rfl⟩ := own_form O2
          have hB2 := bl_grown qB hg2 (fun k9 hk => own_ge O4 k9 hk)
          exact hK.out (.slice A2 (k + 1) d2) uw1 ⟨hB2, fun h t0 => (t0 (.inl (hN.out.2 4 (by decide +kernel)))).elim, fun h => c1 (h.resolve_right (by decide)), fun h => c2 (h.resolve_right (by decide)), fun h => c3 (h.resolve_right (by decide)), fun h t0 => (t0 (by simp)).elim, fun h => c5 (h.resolve_right (by decide)), fun h t0 => (t0 (by simp)).elim, fun _ _ => ⟨A2, d2, rfl, O2⟩, fun h => c8 (h.resolve_right (by decide)), fun h => c9 (h.resolve_right (by decide)), fun h => c10 (h.resolve_right (by decide)), fun h => absurd (h.resolve_right (by decide)) (hN.out.1 11 (by decide +kernel)), fun h => absurd (h.resolve_right (by decide)) (hN.out.1 12 (by decide +kernel))⟩ _ rfl
        apply RelH.op2
        · intro L f u K hN hS hK
          simp only [puts, Act.put, List.setIfInBounds_toArray, List.set_cons_zero, List.set_cons_succ, upd, Nat.reduceEqDiff, ↓reduceIte, if_true, if_false] at hK ⊢
          have HS9 := Lib.hid hS
          obtain ⟨qB, c0, c1, c2, c3, c4, c5, c6, c7, c8, c9, c10, c11, c12⟩ := hS
          clear c0 c1 c2 c3 c4 c5 c6 c7 c8 c9 c10 c11 c12
          go_simp
          obtain ⟨qB, c0, c1, c2, c3, c4, c5, c6, c7, c8, c9, c10, c11, c12⟩ := HS9.out
          exact hK.out _ _ ⟨qB, fun h t0 => c0 (h.resolve_right (by decide)) (fun z => t0 (.inl z)), fun h => c1 (h.resolve_right (by decide)), fun h => c2 (h.resolve_right (by decide)), fun h => c3 (h.resolve_right (by decide)), fun h t0 => c4 (h.resolve_right (by decide)) (fun z => t0 (.inl z)), fun h => c5 (h.resolve_right (by decide)), fun h t0 => c6 (h.resolve_right (by decide)) (fun z => t0 (.inl z)), fun h t0 => c7 (h.resolve_right (by decide)) (fun z => t0 (.inl z)), fun _ => rfl, fun h => c9 (h.resolve_right (by decide)), fun h => c10 (h.resolve_right (by decide)), fun h => c11 (h.resolve_right (by decide)), fun h => c12 (h.resolve_right (by decide))⟩ _ rfl
        apply RelH.op2
        · intro L f u K hN hS hK
          simp only [puts, Act.put, List.setIfInBounds_toArray, List.set_cons_zero, List.set_cons_succ, upd, Nat.reduceEqDiff, ↓reduceIte, if_true, if_false] at hK ⊢
          have HS9 := Lib.hid hS
          obtain ⟨qB, c0, c1, c2, c3, c4, c5, c6, c7, c8, c9, c10, c11, c12⟩ := hS
          clear c0 c1 c2 c3 c4 c5 c6 c7 c8 c9 c10 c11 c12
          go_simp
          obtain ⟨qB, c0, c1, c2, c3, c4, c5, c6, c7, c8, c9, c10, c11, c12⟩ := HS9.out
          exact hK.out _ _ ⟨qB, fun h t0 => c0 (h.resolve_right (by decide)) (fun z => t0 (.inl z)), fun h => c1 (h.resolve_right (by decide)), fun h => c2 (h.resolve_right (by decide)), fun h => c3 (h.resolve_right (by decide)), fun h t0 => c4 (h.resolve_right (by decide)) (fun z => t0 (.inl z)), fun h => c5 (h.resolve_right (by decide)), fun h t0 => c6 (h.resolve_right (by decide)) (fun z => t0 (.inl z)), fun h t0 => c7 (h.resolve_right (by decide)) (fun z => t0 (.inl z)), fun h => c8 (h.resolve_right (by decide)), fun _ => rfl, fun h => c10 (h.resolve_right (by decide)), fun h => c11 (h.resolve_right (by decide)), fun h => c12 (h.resolve_right (by decide))⟩ _ rfl
        apply RelH.op2
        · intro L f u K hN hS hK
          simp only [puts, Act.put, List.setIfInBounds_toArray, List.set_cons_zero, List.set_cons_succ, upd, Nat.reduceEqDiff, ↓reduceIte, if_true, if_false] at hK ⊢
          have HS9 := Lib.hid hS
          obtain ⟨qB, c0, c1, c2, c3, c4, c5, c6, c7, c8, c9, c10, c11, c12⟩ := hS
          have e8 := c8 (hN.out.2 8 (by decide +kernel))
          have e9 := c9 (hN.out.2 9 (by decide +kernel))
          clear c0 c1 c2 c3 c4 c5 c6 c7 c8 c9 c10 c11 c12
          go_simp
          obtain ⟨qB, c0, c1, c2, c3, c4, c5, c6, c7, c8, c9, c10, c11, c12⟩ := HS9.out
          exact hK.out _ _ ⟨qB, fun h t0 => c0 (h.resolve_right (by decide)) (fun z => t0 (.inl z)), fun h => c1 (h.resolve_right (by decide)), fun h => c2 (h.resolve_right (by decide)), fun h => c3 (h.resolve_right (by decide)), fun h t0 => c4 (h.resolve_right (by decide)) (fun z => t0 (.inl z)), fun h => c5 (h.resolve_right (by decide)), fun h t0 => c6 (h.resolve_right (by decide)) (fun z => t0 (.inl z)), fun h t0 => c7 (h.resolve_right (by decide)) (fun z => t0 (.inl z)), fun h => c8 (h.resolve_right (by decide)), fun h => c9 (h.resolve_right (by decide)), fun _ => rfl, fun h => c11 (h.resolve_right (by decide)), fun h => c12 (h.resolve_right (by decide))⟩ _ (by simp only [e8, e9] <;> rfl)
        apply RelH.op2
        · intro L f u K hN hS hK
          simp only [puts, Act.put, List.setIfInBounds_toArray, List.set_cons_zero, List.set_cons_succ, upd, Nat.reduceEqDiff, ↓reduceIte, if_true, if_false] at hK ⊢
          have HS9 := Lib.hid hS
          obtain ⟨qB, c0, c1, c2, c3, c4, c5, c6, c7, c8, c9, c10, c11, c12⟩ := hS
          obtain ⟨A2, d2, h7, O7⟩ := c7 (hN.out.2 7 (by decide +kernel)) (hN.out.1 11 (by decide +kernel))
          obtain h10 := c10 (hN.out.2 10 (by decide +kernel))
          refine step_own rfl (.tmp 40) (.tmp 43) 34 rfl w.heap.size 3 i0 _ 1 8 Try.underlying34 hi hz0 HI1.out HI.out rfl (by decide) (.slice A2 (k + 1) d2) (k + 1) (iv (l.take k) ++ [.int .i64 x]) h7 O7 ⟨b, o, none⟩ (l.length - k) 0 ((iv l).drop k) h10 (by rw [List.length_drop, iv_len]; omega) (drop_none (by have := HCAP.out; omega)) (fun v9 h9 => iv_one l v9 (List.mem_of_mem_drop h9)) (by unfold maxLen; omega) (by omega) qB.size ?_
          intro v3 uw1 O3 hg3 _
          obtain ⟨A3, d3, rfl⟩ := own_form O3
          have hB2 := bl_grown qB hg3 (fun k9 hk => own_ge O7 k9 hk)
          exact hK.out (.slice A3 (k + 1 + (l.length - k)) d3) uw1 ⟨hB2, fun h t0 => (t0 (.inl (hN.out.2 4 (by decide +kernel)))).elim, fun h => c1 (h.resolve_right (by decide)), fun h => c2 (h.resolve_right (by decide)), fun h => c3 (h.resolve_right (by decide)), fun h t0 => (t0 (.inl (hN.out.2 7 (by decide +kernel)))).elim, fun h => c5 (h.resolve_right (by decide)), fun h t0 => (t0 (.inl (hN.out.2 7 (by decide +kernel)))).elim, fun h t0 => (t0 (by simp)).elim, fun h => c8 (h.resolve_right (by decide)), fun h => c9 (h.resolve_right (by decide)), fun h => c10 (h.resolve_right (by decide)), fun _ => ⟨A3, d3, rfl, O3⟩, fun h => absurd (h.resolve_right (by decide)) (hN.out.1 12 (by decide +kernel))⟩ _ rfl
        apply RelH.op2
        · intro L f u K hN hS hK
          simp only [puts, Act.put, List.setIfInBounds_toArray, List.set_cons_zero, List.set_cons_succ, upd, Nat.reduceEqDiff, ↓reduceIte, if_true, if_false] at hK ⊢
          have HS9 := Lib.hid hS
          obtain ⟨qB, c0, c1, c2, c3, c4, c5, c6, c7, c8, c9, c10, c11, c12⟩ := hS
          obtain ⟨A3, d3, e11, O3⟩ := c11 (hN.out.2 11 (by decide +kernel))
          clear c0 c1 c2 c3 c4 c5 c6 c7 c8 c9 c10 c11 c12
          go_simp
          obtain ⟨qB, c0, c1, c2, c3, c4, c5, c6, c7, c8, c9, c10, c11, c12⟩ := HS9.out
          exact hK.out _ _ ⟨qB, fun h t0 => c0 (h.resolve_right (by decide)) (fun z => t0 (.inl z)), fun h => c1 (h.resolve_right (by decide)), fun h => c2 (h.resolve_right (by decide)), fun h => c3 (h.resolve_right (by decide)), fun h t0 => c4 (h.resolve_right (by decide)) (fun z => t0 (.inl z)), fun h => c5 (h.resolve_right (by decide)), fun h t0 => c6 (h.resolve_right (by decide)) (fun z => t0 (.inl z)), fun h t0 => c7 (h.resolve_right (by decide)) (fun z => t0 (.inl z)), fun h => c8 (h.resolve_right (by decide)), fun h => c9 (h.resolve_right (by decide)), fun h => c10 (h.resolve_right (by decide)), fun h => c11 (h.resolve_right (by decide)), fun _ => ⟨A3, d3, rfl, O3⟩⟩ _ (by simp only [e11] <;> rfl)
        exact RelH.done
      intro L f V0 hL hS
      simp only [puts, Act.put, List.setIfInBounds_toArray, List.set_cons_zero, List.set_cons_succ]
      obtain ⟨qB, c0, c1, c2, c3, c4, c5, c6, c7, c8, c9, c10, c11, c12⟩ := hS
      obtain ⟨A3, d3, e12, O3⟩ := c12 (hL 12 (by decide))
      rw [← HLM.out] at e12 O3
      rw [← HFM.out] at O3
      simp only [e12]
      clear e12 c0 c1 c2 c3 c4 c5 c6 c7 c8 c9 c10 c11 c12 hL
      go_wp2
      go_ret
      exact l_mk HM.out rfl O3 qB
    · refine wp_region_rel [33, 34, 35, 36, 37, 38, 39, 40, 41, 42, 43, 44, 4] (fun L f w' => (Below w.heap.size w w') ∧ (L 0 → ¬ L 4 → ∃ g, f 33 = .slice (some ⟨g, 0, none⟩) 0 0 ∧ w'.ownsRow w.heap.size 3 1 (.slice (some ⟨g, 0, none⟩) 0 0) (0) ([])) ∧ (L 1 → f 34 = .slice (some ⟨b, o, none⟩) l.length cap) ∧ (L 2 → f 35 = .int .i64 k) ∧ (L 3 → f 36 = .slice (some ⟨b, o, none⟩) k cap) ∧ (L 4 → ¬ L 7 → ∃ A1 c1, f 37 = .slice A1 k c1 ∧ w'.ownsRow w.heap.size 3 1 (.slice A1 k c1) (k) (iv (l.take k))) ∧ (L 5 → f 38 = .int .i64 x) ∧ (L 6 → ¬ L 7 → ∃ h, f 39 = .slice (some ⟨h, 0, none⟩) 1 1 ∧ w'.cell? ⟨h, 0, none⟩ = some (.int .i64 x)) ∧ (L 7 → ¬ L 11 → ∃ A2 c2, f 40 = .slice A2 (k + 1) c2 ∧ w'.ownsRow w.heap.size 3 1 (.slice A2 (k + 1) c2) (k + 1) (iv (l.take k) ++ [.int .i64 x])) ∧ (L 8 → f 41 = .slice (some ⟨b, o, none⟩) l.length cap) ∧ (L 9 → f 42 = .int .i64 k) ∧ (L 10 → f 43 = .slice (some ⟨b, o + k, none⟩) (l.length - k) (cap - k)) ∧ (L 11 → ∃ A3 c3, f 44 = .slice A3 (k + 1 + (l.length - k)) c3 ∧ w'.ownsRow w.heap.size 3 1 (.slice A3 (k + 1 + (l.length - k)) c3) (k + 1 + (l.length - k)) (iv (l.take k) ++ [.int .i64 x] ++ (iv l).drop k)) ∧ (L 12 → ∃ A3 c3, f 4 = .slice A3 (k + 1 + (l.length - k)) c3 ∧ w'.ownsRow w.heap.size 3 1 (.slice A3 (k + 1 + (l.length - k)) c3) (k + 1 + (l.length - k)) (iv (l.take k) ++ [.int .i64 x] ++ (iv l).drop k))) (by kernel_rfl) (by kernel_rfl) (by kernel_rfl) (fun f => ⟨(Below.refl _ w).drew, fun h => h.elim, fun h => h.elim, fun h => h.elim, fun h => h.elim, fun h => h.elim, fun h => h.elim, fun h => h.elim, fun h => h.elim, fun h => h.elim, fun h => h.elim, fun h => h.elim, fun h => h.elim, fun h => h.elim⟩) ?_ ?_
      · apply RelH.op2
        · intro L f u K hN hS hK
          simp only [puts, Act.put, List.setIfInBounds_toArray, List.set_cons_zero, List.set_cons_succ, upd, Nat.reduceEqDiff, ↓reduceIte, if_true, if_false] at hK ⊢
          have HS9 := Lib.hid hS
          obtain ⟨qB, c0, c1, c2, c3, c4, c5, c6, c7, c8, c9, c10, c11, c12⟩ := hS
          have hv := al (Below.refl _ u) (o := .cells #[] 3)
          have hO := own0 u w.heap.size qB.size
          clear c0 c1 c2 c3 c4 c5 c6 c7 c8 c9 c10 c11 c12
          go_simp
          obtain ⟨qB, c0, c1, c2, c3, c4, c5, c6, c7, c8, c9, c10, c11, c12⟩ := HS9.out
          exact hK.out _ _ ⟨be qB hv, fun _ _ => ⟨_, rfl, hO⟩, fun h => c1 (h.resolve_right (by decide)), fun h => c2 (h.resolve_right (by decide)), fun h => c3 (h.resolve_right (by decide)), fun h t0 => (let ⟨A9, c9, e, O9⟩ := (c4 (h.resolve_right (by decide)) (fun z => t0 (.inl z))); ⟨A9, c9, e, own_keep O9 hv⟩), fun h => c5 (h.resolve_right (by decide)), fun h t0 => (let ⟨h, e, X⟩ := (c6 (h.resolve_right (by decide)) (fun z => t0 (.inl z))); ⟨h, e, cell_kept X hv⟩), fun h t0 => (let ⟨A9, c9, e, O9⟩ := (c7 (h.resolve_right (by decide)) (fun z => t0 (.inl z))); ⟨A9, c9, e, own_keep O9 hv⟩), fun h => c8 (h.resolve_right (by decide)), fun h => c9 (h.resolve_right (by decide)), fun h => c10 (h.resolve_right (by decide)), fun h => (let ⟨A9, c9, e, O9⟩ := (c11 (h.resolve_right (by decide))); ⟨A9, c9, e, own_keep O9 hv⟩), fun h => (let ⟨A9, c9, e, O9⟩ := (c12 (h.resolve_right (by decide))); ⟨A9, c9, e, own_keep O9 hv⟩)⟩ _ rfl
        apply RelH.op2
        · intro L f u K hN hS hK
          simp only [puts, Act.put, List.setIfInBounds_toArray, List.set_cons_zero, List.set_cons_succ, upd, Nat.reduceEqDiff, ↓reduceIte, if_true, if_false] at hK ⊢
          have HS9 := Lib.hid hS
          obtain ⟨qB, c0, c1, c2, c3, c4, c5, c6, c7, c8, c9, c10, c11, c12⟩ := hS
          clear c0 c1 c2 c3 c4 c5 c6 c7 c8 c9 c10 c11 c12
          go_simp
          obtain ⟨qB, c0, c1, c2, c3, c4, c5, c6, c7, c8, c9, c10, c11, c12⟩ := HS9.out
          exact hK.out _ _ ⟨qB, fun h t0 => c0 (h.resolve_right (by decide)) (fun z => t0 (.inl z)), fun _ => rfl, fun h => c2 (h.resolve_right (by decide)), fun h => c3 (h.resolve_right (by decide)), fun h t0 => c4 (h.resolve_right (by decide)) (fun z => t0 (.inl z)), fun h => c5 (h.resolve_right (by decide)), fun h t0 => c6 (h.resolve_right (by decide)) (fun z => t0 (.inl z)), fun h t0 => c7 (h.resolve_right (by decide)) (fun z => t0 (.inl z)), fun h => c8 (h.resolve_right (by decide)), fun h => c9 (h.resolve_right (by decide)), fun h => c10 (h.resolve_right (by decide)), fun h => c11 (h.resolve_right (by decide)), fun h => c12 (h.resolve_right (by decide))⟩ _ rfl
        apply RelH.op2
        · intro L f u K hN hS hK
          simp only [puts, Act.put, List.setIfInBounds_toArray, List.set_cons_zero, List.set_cons_succ, upd, Nat.reduceEqDiff, ↓reduceIte, if_true, if_false] at hK ⊢
          have HS9 := Lib.hid hS
          obtain ⟨qB, c0, c1, c2, c3, c4, c5, c6, c7, c8, c9, c10, c11, c12⟩ := hS
          clear c0 c1 c2 c3 c4 c5 c6 c7 c8 c9 c10 c11 c12
          go_simp
          obtain ⟨qB, c0, c1, c2, c3, c4, c5, c6, c7, c8, c9, c10, c11, c12⟩ := HS9.out
          exact hK.out _ _ ⟨qB, fun h t0 => c0 (h.resolve_right (by decide)) (fun z => t0 (.inl z)), fun h => c1 (h.resolve_right (by decide)), fun _ => rfl, fun h => c3 (h.resolve_right (by decide)), fun h t0 => c4 (h.resolve_right (by decide)) (fun z => t0 (.inl z)), fun h => c5 (h.resolve_right (by decide)), fun h t0 => c6 (h.resolve_right (by decide)) (fun z => t0 (.inl z)), fun h t0 => c7 (h.resolve_right (by decide)) (fun z => t0 (.inl z)), fun h => c8 (h.resolve_right (by decide)), fun h => c9 (h.resolve_right (by decide)), fun h => c10 (h.resolve_right (by decide)), fun h => c11 (h.resolve_right (by decide)), fun h => c12 (h.resolve_right (by decide))⟩ _ rfl
        apply RelH.op2
        · intro L f u K hN hS hK
          simp only [puts, Act.put, List.setIfInBounds_toArray, List.set_cons_zero, List.set_cons_succ, upd, Nat.reduceEqDiff, ↓reduceIte, if_true, if_false] at hK ⊢
          have HS9 := Lib.hid hS
          obtain ⟨qB, c0, c1, c2, c3, c4, c5, c6, c7, c8, c9, c10, c11, c12⟩ := hS
          have e1 := c1 (hN.out.2 1 (by decide +kernel))
          have e2 := c2 (hN.out.2 2 (by decide +kernel))
          clear c0 c1 c2 c3 c4 c5 c6 c7 c8 c9 c10 c11 c12
          go_simp
          obtain ⟨qB, c0, c1, c2, c3, c4, c5, c6, c7, c8, c9, c10, c11, c12⟩ := HS9.out
          exact hK.out _ _ ⟨qB, fun h t0 => c0 (h.resolve_right (by decide)) (fun z => t0 (.inl z)), fun h => c1 (h.resolve_right (by decide)), fun h => c2 (h.resolve_right (by decide)), fun _ => rfl, fun h t0 => c4 (h.resolve_right (by decide)) (fun z => t0 (.inl z)), fun h => c5 (h.resolve_right (by decide)), fun h t0 => c6 (h.resolve_right (by decide)) (fun z => t0 (.inl z)), fun h t0 => c7 (h.resolve_right (by decide)) (fun z => t0 (.inl z)), fun h => c8 (h.resolve_right (by decide)), fun h => c9 (h.resolve_right (by decide)), fun h => c10 (h.resolve_right (by decide)), fun h => c11 (h.resolve_right (by decide)), fun h => c12 (h.resolve_right (by decide))⟩ _ (by simp only [e1, e2] <;> rfl)
        apply RelH.op2
        · intro L f u K hN hS hK
          simp only [puts, Act.put, List.setIfInBounds_toArray, List.set_cons_zero, List.set_cons_succ, upd, Nat.reduceEqDiff, ↓reduceIte, if_true, if_false] at hK ⊢
          have HS9 := Lib.hid hS
          obtain ⟨qB, c0, c1, c2, c3, c4, c5, c6, c7, c8, c9, c10, c11, c12⟩ := hS
          obtain ⟨g, h0, O0⟩ := c0 (hN.out.2 0 (by decide +kernel)) (hN.out.1 4 (by decide +kernel))
          obtain h3 := c3 (hN.out.2 3 (by decide +kernel))
          refine step_fresh rfl (.tmp 33) (.tmp 36) 34 rfl w.heap.size 3 i0 _ 1 8 Try.underlying34 hi hz0 HI1.out HI.out rfl (by decide) g h0 O0 ⟨b, o, none⟩ k cap (iv (l.take k)) h3 (by rw [iv_len, List.length_take]; omega) (HSRC.out.take qB k) (iv_one _) (by unfold maxLen; omega) (by omega) qB.size ?_
          intro v1 uw1 O1 hv
          obtain ⟨A1, d1, rfl⟩ := own_form O1
          exact hK.out (.slice A1 k d1) uw1 ⟨be qB hv, fun h t0 => (t0 (by simp)).elim, fun h => c1 (h.resolve_right (by decide)), fun h => c2 (h.resolve_right (by decide)), fun h => c3 (h.resolve_right (by decide)), fun _ _ => ⟨A1, d1, rfl, O1⟩, fun h => c5 (h.resolve_right (by decide)), fun h t0 => (let ⟨h, e, X⟩ := (c6 (h.resolve_right (by decide)) (fun z => t0 (.inl z))); ⟨h, e, cell_kept X hv⟩), fun h t0 => (let ⟨A9, c9, e, O9⟩ := (c7 (h.resolve_right (by decide)) (fun z => t0 (.inl z))); ⟨A9, c9, e, own_keep O9 hv⟩), fun h => c8 (h.resolve_right (by decide)), fun h => c9 (h.resolve_right (by decide)), fun h => c10 (h.resolve_right (by decide)), fun h => (let ⟨A9, c9, e, O9⟩ := (c11 (h.resolve_right (by decide))); ⟨A9, c9, e, own_keep O9 hv⟩), fun h => (let ⟨A9, c9, e, O9⟩ := (c12 (h.resolve_right (by decide))); ⟨A9, c9, e, own_keep O9 hv⟩)⟩ _ rfl
        apply RelH.op2
        · intro L f u K hN hS hK
          simp only [puts, Act.put, List.setIfInBounds_toArray, List.set_cons_zero, List.set_cons_succ, upd, Nat.reduceEqDiff, ↓reduceIte, if_true, if_false] at hK ⊢
          have HS9 := Lib.hid hS
          obtain ⟨qB, c0, c1, c2, c3, c4, c5, c6, c7, c8, c9, c10, c11, c12⟩ := hS
          clear c0 c1 c2 c3 c4 c5 c6 c7 c8 c9 c10 c11 c12
          go_simp
          obtain ⟨qB, c0, c1, c2, c3, c4, c5, c6, c7, c8, c9, c10, c11, c12⟩ := HS9.out
          exact hK.out _ _ ⟨qB, fun h t0 => c0 (h.resolve_right (by decide)) (fun z => t0 (.inl z)), fun h => c1 (h.resolve_right (by decide)), fun h => c2 (h.resolve_right (by decide)), fun h => c3 (h.resolve_right (by decide)), fun h t0 => c4 (h.resolve_right (by decide)) (fun z => t0 (.inl z)), fun _ => rfl, fun h t0 => c6 (h.resolve_right (by decide)) (fun z => t0 (.inl z)), fun h t0 => c7 (h.resolve_right (by decide)) (fun z => t0 (.inl z)), fun h => c8 (h.resolve_right (by decide)), fun h => c9 (h.resolve_right (by decide)), fun h => c10 (h.resolve_right (by decide)), fun h => c11 (h.resolve_right (by decide)), fun h => c12 (h.resolve_right (by decide))⟩ _ rfl
        apply RelH.op2
        · intro L f u K hN hS hK
          simp only [puts, Act.put, List.setIfInBounds_toArray, List.set_cons_zero, List.set_cons_succ, upd, Nat.reduceEqDiff, ↓reduceIte, if_true, if_false] at hK ⊢
          have HS9 := Lib.hid hS
          obtain ⟨qB, c0, c1, c2, c3, c4, c5, c6, c7, c8, c9, c10, c11, c12⟩ := hS
          have e5 := c5 (hN.out.2 5 (by decide +kernel))
          have hv := al (Below.refl _ u) (o := .cells #[.int .i64 x] 3)
          have hX := new_cell u x
          clear c0 c1 c2 c3 c4 c5 c6 c7 c8 c9 c10 c11 c12
          go_simp
          obtain ⟨qB, c0, c1, c2, c3, c4, c5, c6, c7, c8, c9, c10, c11, c12⟩ := HS9.out
          exact hK.out _ _ ⟨be qB hv, fun h t0 => (let ⟨g, e, O9⟩ := (c0 (h.resolve_right (by decide)) (fun z => t0 (.inl z))); ⟨g, e, own_keep O9 hv⟩), fun h => c1 (h.resolve_right (by decide)), fun h => c2 (h.resolve_right (by decide)), fun h => c3 (h.resolve_right (by decide)), fun h t0 => (let ⟨A9, c9, e, O9⟩ := (c4 (h.resolve_right (by decide)) (fun z => t0 (.inl z))); ⟨A9, c9, e, own_keep O9 hv⟩), fun h => c5 (h.resolve_right (by decide)), fun _ _ => ⟨_, rfl, hX⟩, fun h t0 => (let ⟨A9, c9, e, O9⟩ := (c7 (h.resolve_right (by decide)) (fun z => t0 (.inl z))); ⟨A9, c9, e, own_keep O9 hv⟩), fun h => c8 (h.resolve_right (by decide)), fun h => c9 (h.resolve_right (by decide)), fun h => c10 (h.resolve_right (by decide)), fun h => (let ⟨A9, c9, e, O9⟩ := (c11 (h.resolve_right (by decide))); ⟨A9, c9, e, own_keep O9 hv⟩), fun h => (let ⟨A9, c9, e, O9⟩ := (c12 (h.resolve_right (by decide))); ⟨A9, c9, e, own_keep O9 hv⟩)⟩ _ (by simp only [e5] <;> rfl)
        apply RelH.op2
        · intro L f u K hN hS hK
          simp only [puts, Act.put, List.setIfInBounds_toArray, List.set_cons_zero, List.set_cons_succ, upd, Nat.reduceEqDiff, ↓reduceIte, if_true, if_false] at hK ⊢
          have HS9 := Lib.hid hS
          obtain ⟨qB, c0, c1, c2, c3, c4, c5, c6, c7, c8, c9, c10, c11, c12⟩ := hS
          obtain ⟨A1, d1, h4, O4⟩ := c4 (hN.out.2 4 (by decide +kernel)) (hN.out.1 7 (by decide +kernel))
          obtain ⟨g6, h6, X⟩ := c6 (hN.out.2 6 (by decide +kernel)) (hN.out.1 7 (by decide +kernel))
          refine step_own rfl (.tmp 37) (.tmp 39) 34 rfl w.heap.size 3 i0 _ 1 8 Try.underlying34 hi hz0 HI1.out HI.out rfl (by decide) (.slice A1 k d1) k (iv (l.take k)) h4 O4 ⟨g6, 0, none⟩ 1 1 [.int .i64 x] h6 rfl (one_news X) (one_cell rfl) (by unfold maxLen; omega) (by omega) qB.size ?_
          intro v2 uw1 O2 hg2 _
          obtain ⟨A2, d2, rfl⟩ := own_form O2
          have hB2 := bl_grown qB hg2 (fun k9 hk => own_ge O4 k9 hk)
          exact hK.out (.slice A2 (k + 1) d2) uw1 ⟨hB2, fun h t0 => (t0 (.inl (hN.out.2 4 (by decide +kernel)))).elim, fun h => c1 (h.resolve_right (by decide)), fun h => c2 (h.resolve_right (by decide)), fun h => c3 (h.resolve_right (by decide)), fun h t0 => (t0 (by simp)).elim, fun h => c5 (h.resolve_right (by decide)), fun h t0 => (t0 (by simp)).elim, fun _ _ => ⟨A2, d2, rfl, O2⟩, fun h => c8 (h.resolve_right (by decide)), fun h => c9 (h.resolve_right (by decide)), fun h => c10 (h.resolve_right (by decide)), fun h => absurd (h.resolve_right (by decide)) (hN.out.1 11 (by decide +kernel)), fun h => absurd (h.resolve_right (by decide)) (hN.out.1 12 (by decide +kernel))⟩ _ rfl
        apply RelH.op2
        · intro L f u K hN hS hK
          simp only [puts, Act.put, List.setIfInBounds_toArray, List.set_cons_zero, List.set_cons_succ, upd, Nat.reduceEqDiff, ↓reduceIte, if_true, if_false] at hK ⊢
          have HS9 := Lib.hid hS
          obtain ⟨qB, c0, c1, c2, c3, c4, c5, c6, c7, c8, c9, c10, c11, c12⟩ := hS
          clear c0 c1 c2 c3 c4 c5 c6 c7 c8 c9 c10 c11 c12
          go_simp
          obtain ⟨qB, c0, c1, c2, c3, c4, c5, c6, c7, c8, c9, c10, c11, c12⟩ := HS9.out
          exact hK.out _ _ ⟨qB, fun h t0 => c0 (h.resolve_right (by decide)) (fun z => t0 (.inl z)), fun h => c1 (h.resolve_right (by decide)), fun h => c2 (h.resolve_right (by decide)), fun h => c3 (h.resolve_right (by decide)), fun h t0 => c4 (h.resolve_right (by decide)) (fun z => t0 (.inl z)), fun h => c5 (h.resolve_right (by decide)), fun h t0 => c6 (h.resolve_right (by decide)) (fun z => t0 (.inl z)), fun h t0 => c7 (h.resolve_right (by decide)) (fun z => t0 (.inl z)), fun _ => rfl, fun h => c9 (h.resolve_right (by decide)), fun h => c10 (h.resolve_right (by decide)), fun h => c11 (h.resolve_right (by decide)), fun h => c12 (h.resolve_right (by decide))⟩ _ rfl
        apply RelH.op2
        · intro L f u K hN hS hK
          simp only [puts, Act.put, List.setIfInBounds_toArray, List.set_cons_zero, List.set_cons_succ, upd, Nat.reduceEqDiff, ↓reduceIte, if_true, if_false] at hK ⊢
          have HS9 := Lib.hid hS
          obtain ⟨qB, c0, c1, c2, c3, c4, c5, c6, c7, c8, c9, c10, c11, c12⟩ := hS
          clear c0 c1 c2 c3 c4 c5 c6 c7 c8 c9 c10 c11 c12
          go_simp
          obtain ⟨qB, c0, c1, c2, c3, c4, c5, c6, c7, c8, c9, c10, c11, c12⟩ := HS9.out
          exact hK.out _ _ ⟨qB, fun h t0 => c0 (h.resolve_right (by decide)) (fun z => t0 (.inl z)), fun h => c1 (h.resolve_right (by decide)), fun h => c2 (h.resolve_right (by decide)), fun h => c3 (h.resolve_right (by decide)), fun h t0 => c4 (h.resolve_right (by decide)) (fun z => t0 (.inl z)), fun h => c5 (h.resolve_right (by decide)), fun h t0 => c6 (h.resolve_right (by decide)) (fun z => t0 (.inl z)), fun h t0 => c7 (h.resolve_right (by decide)) (fun z => t0 (.inl z)), fun h => c8 (h.resolve_right (by decide)), fun _ => rfl, fun h => c10 (h.resolve_right (by decide)), fun h => c11 (h.resolve_right (by decide)), fun h => c12 (h.resolve_right (by decide))⟩ _ rfl
        apply RelH.op2
        · intro L f u K hN hS hK
          simp only [puts, Act.put, List.setIfInBounds_toArray, List.set_cons_zero, List.set_cons_succ, upd, Nat.reduceEqDiff, ↓reduceIte, if_true, if_false] at hK ⊢
          have HS9 := Lib.hid hS
          obtain ⟨qB, c0, c1, c2, c3, c4, c5, c6, c7, c8, c9, c10, c11, c12⟩ := hS
          have e8 := c8 (hN.out.2 8 (by decide +kernel))
          have e9 := c9 (hN.out.2 9 (by decide +kernel))
          clear c0 c1 c2 c3 c4 c5 c6 c7 c8 c9 c10 c11 c12
          go_simp
          obtain ⟨qB, c0, c1, c2, c3, c4, c5, c6, c7, c8, c9, c10, c11, c12⟩ := HS9.out
          exact hK.out _ _ ⟨qB, fun h t0 => c0 (h.resolve_right (by decide)) (fun z => t0 (.inl z)), fun h => c1 (h.resolve_right (by decide)), fun h => c2 (h.resolve_right (by decide)), fun h => c3 (h.resolve_right (by decide)), fun h t0 => c4 (h.resolve_right (by decide)) (fun z => t0 (.inl z)), fun h => c5 (h.resolve_right (by decide)), fun h t0 => c6 (h.resolve_right (by decide)) (fun z => t0 (.inl z)), fun h t0 => c7 (h.resolve_right (by decide)) (fun z => t0 (.inl z)), fun h => c8 (h.resolve_right (by decide)), fun h => c9 (h.resolve_right (by decide)), fun _ => rfl, fun h => c11 (h.resolve_right (by decide)), fun h => c12 (h.resolve_right (by decide))⟩ _ (by simp only [e8, e9] <;> rfl)
        apply RelH.op2
        · intro L f u K hN hS hK
          simp only [puts, Act.put, List.setIfInBounds_toArray, List.set_cons_zero, List.set_cons_succ, upd, Nat.reduceEqDiff, ↓reduceIte, if_true, if_false] at hK ⊢
          have HS9 := Lib.hid hS
          obtain ⟨qB, c0, c1, c2, c3, c4, c5, c6, c7, c8, c9, c10, c11, c12⟩ := hS
          obtain ⟨A2, d2, h7, O7⟩ := c7 (hN.out.2 7 (by decide +kernel)) (hN.out.1 11 (by decide +kernel))
          obtain h10 := c10 (hN.out.2 10 (by decide +kernel))
          refine step_own rfl (.tmp 40) (.tmp 43) 34 rfl w.heap.size 3 i0 _ 1 8 Try.underlying34 hi hz0 HI1.out HI.out rfl (by decide) (.slice A2 (k + 1) d2) (k + 1) (iv (l.take k) ++ [.int .i64 x]) h7 O7 ⟨b, o + k, none⟩ (l.length - k) (cap - k) ((iv l).drop k) h10 (by rw [List.length_drop, iv_len]; omega) (HSRC.out.drop qB k) (fun v9 h9 => iv_one l v9 (List.mem_of_mem_drop h9)) (by unfold maxLen; omega) (by omega) qB.size ?_
          intro v3 uw1 O3 hg3 _
          obtain ⟨A3, d3, rfl⟩ := own_form O3
          have hB2 := bl_grown qB hg3 (fun k9 hk => own_ge O7 k9 hk)
          exact hK.out (.slice A3 (k + 1 + (l.length - k)) d3) uw1 ⟨hB2, fun h t0 => (t0 (.inl (hN.out.2 4 (by decide +kernel)))).elim, fun h => c1 (h.resolve_right (by decide)), fun h => c2 (h.resolve_right (by decide)), fun h => c3 (h.resolve_right (by decide)), fun h t0 => (t0 (.inl (hN.out.2 7 (by decide +kernel)))).elim, fun h => c5 (h.resolve_right (by decide)), fun h t0 => (t0 (.inl (hN.out.2 7 (by decide +kernel)))).elim, fun h t0 => (t0 (by simp)).elim, fun h => c8 (h.resolve_right (by decide)), fun h => c9 (h.resolve_right (by decide)), fun h => c10 (h.resolve_right (by decide)), fun _ => ⟨A3, d3, rfl, O3⟩, fun h => absurd (h.resolve_right (by decide)) (hN.out.1 12 (by decide +kernel))⟩ _ rfl
        apply RelH.op2
        · intro L f u K hN hS hK
          simp only [puts, Act.put, List.setIfInBounds_toArray, List.set_cons_zero, List.set_cons_succ, upd, Nat.reduceEqDiff, ↓reduceIte, if_true, if_false] at hK ⊢
          have HS9 := Lib.hid hS
          obtain ⟨qB, c0, c1, c2, c3, c4, c5, c6, c7, c8, c9, c10, c11, c12⟩ := hS
          obtain ⟨A3, d3, e11, O3⟩ := c11 (hN.out.2 11 (by decide +kernel))
          clear c0 c1 c2 c3 c4 c5 c6 c7 c8 c9 c10 c11 c12
          go_simp
          obtain ⟨qB, c0, c1, c2, c3, c4, c5, c6, c7, c8, c9, c10, c11, c12⟩ := HS9.out
          exact hK.out _ _ ⟨qB, fun h t0 => c0 (h.resolve_right (by decide)) (fun z => t0 (.inl z)), fun h => c1 (h.resolve_right (by decide)), fun h => c2 (h.resolve_right (by decide)), fun h => c3 (h.resolve_right (by decide)), fun h t0 => c4 (h.resolve_right (by decide)) (fun z => t0 (.inl z)), fun h => c5 (h.resolve_right (by decide)), fun h t0 => c6 (h.resolve_right (by decide)) (fun z => t0 (.inl z)), fun h t0 => c7 (h.resolve_right (by decide)) (fun z => t0 (.inl z)), fun h => c8 (h.resolve_right (by decide)), fun h => c9 (h.resolve_right (by decide)), fun h => c10 (h.resolve_right (by decide)), fun h => c11 (h.resolve_right (by decide)), fun _ => ⟨A3, d3, rfl, O3⟩⟩ _ (by simp only [e11] <;> rfl)
        exact RelH.done
      intro L f V0 hL hS
      simp only [puts, Act.put, List.setIfInBounds_toArray, List.set_cons_zero, List.set_cons_succ]
      obtain ⟨qB, c0, c1, c2, c3, c4, c5, c6, c7, c8, c9, c10, c11, c12⟩ := hS
      obtain ⟨A3, d3, e12, O3⟩ := c12 (hL 12 (by decide))
      rw [← HLM.out] at e12 O3
      rw [← HFM.out] at O3
      simp only [e12]
      clear e12 c0 c1 c2 c3 c4 c5 c6 c7 c8 c9 c10 c11 c12 hL
      go_wp2
      go_ret
      exact l_mk HM.out rfl O3 qB
end Go.Proofs.Ytphflbgljejokaa.TripO
