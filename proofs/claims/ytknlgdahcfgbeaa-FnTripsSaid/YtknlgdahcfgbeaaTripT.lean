/- Trips: SectionTimes. Made by tools/mk_tript.py. -/
import Derived.Test.YtknlgdahcfgbeaaTripM
import Derived.Test.YtknlgdahcfgbeaaTabS
import Derived.Deep.AppendLies
import Derived.Deep.Cut
import Derived.Deep.CutBlock
import Derived.Deep.CutRange
import Derived.Deep.DeepCutAuto
namespace Go.Proofs.Ytknlgdahcfgbeaa.TripT
open Go.RowKit Go.Proofs.Ytknlgdahcfgbeaa.Mem Go.Proofs.Ytknlgdahcfgbeaa.Base Go.Proofs.Ytknlgdahcfgbeaa.Within Go.Proofs.Ytknlgdahcfgbeaa.SInt Go.Proofs.Ytknlgdahcfgbeaa.Nest Go.Proofs.Ytknlgdahcfgbeaa.STrip Go.Proofs.Ytknlgdahcfgbeaa.Regn Go.Proofs.Ytknlgdahcfgbeaa.Boxes Go.Proofs.Ytknlgdahcfgbeaa.Keep Go.Proofs.Ytknlgdahcfgbeaa.TripP Go.Proofs.Ytknlgdahcfgbeaa.TripS Go.Proofs.Ytknlgdahcfgbeaa.TripC
open Go.Proofs.Ytknlgdahcfgbeaa.TabS (TOwn TOwnL townl_keep TPost tp)
set_option linter.unusedVariables false
set_option linter.unusedSimpArgs false
set_option maxRecDepth 100000
theorem info_S : (Try.prog.info? 34).map (fun i => (i.zero, i.size, i.bytes)) = some (some (.slice none 0 0), 1, 24) := by kernel_rfl
theorem tab_snoc {W w1 w' : World} {lo : Nat} {A : Option Addr} {c : Nat} {m : List Row} {x : Row} {g c' : Nat} (h : TOwn W lo W.heap.size A c m) (hl : lo ≤ W.heap.size) (hb : Below W.heap.size W w1) (hx : RowOwn w1 W.heap.size x)
    (ho : w'.ownsRow lo 34 1 (.slice (some ⟨g, 0, none⟩) (m.length + 1) c') (m.length + 1) (TabS.tv m ++ [.slice x.A x.ls.length x.cap])) (hg : w1.grownBy w' (Value.slice A m.length c).ownBlock)
    (hat : (Value.slice A m.length c).ownBlock = some g ∨ g = w1.heap.size) : TOwn w' lo w'.heap.size (some ⟨g, 0, none⟩) c' (m ++ [x]) := by
  have hL : (m ++ [x]).length = m.length + 1 := by simp
  refine TOwn.snoc h hl (Nat.le_refl _) hb hx (by rw [hL, TabS.tv_snoc]; exact ho) hg (fun q hq => ?_)
  have e : g = q := by simpa [Value.ownBlock] using hq
  subst e
  rcases hat with h1 | h1
  · exact .inl h1
  · exact .inr (Nat.le_of_eq h1.symm)
/-- a made list of crossings whose block lies between two places. -/
structure Cr (w : World) (B0 B1 : Nat) (A : Option Addr) (c : Nat) (l : List C) : Prop where
  own : w.ownsRow B0 51 3 (.slice A l.length c) l.length (cflat l)
  lt : ∀ k, (Value.slice A l.length c).ownBlock = some k → k < B1
  le : B1 ≤ w.heap.size
theorem cr_keep {w w' : World} {B0 B1 c : Nat} {A : Option Addr} {l : List C} (h : Cr w B0 B1 A c l) (hb : Below w.heap.size w w') : Cr w' B0 B1 A c l := ⟨own_keep h.own hb, h.lt, Nat.le_trans h.le hb.size⟩
theorem Cr.grown {w w' : World} {B0 B1 c : Nat} {A : Option Addr} {l : List C} {row : Option Nat} (h : Cr w B0 B1 A c l) (hg : w.grownBy w' row) (hr : ∀ j, row = some j → j < B0 ∨ B1 ≤ j) : Cr w' B0 B1 A c l :=
  ⟨own_congr h.own (fun k hk => hg.block k (h.own.lt k hk).2 (fun e => by have h1 := hr k e.symm; have h2 := (h.own.lt k hk).1; have h3 := h.lt k hk; omega)), h.lt, Nat.le_trans h.le hg.size⟩
theorem Cr.rd {w : World} {B0 B1 c : Nat} {A : Option Addr} {l : List C} (h : Cr w B0 B1 A c l) : Rd w w.heap.size A (cflat l) := Rd.of_own h.own
theorem tp_snoc (m : List Row) (x : Row) : tp (m ++ [x]) = tp m ++ [x.ls] := by simp [TabS.tp]
theorem tp_n {m : List Row} {F : List (List Int)} (h : tp m = F) : m.length = F.length := by rw [← h, TabS.tp_len]
theorem ent_iff {x : R} (h : okT x = true) {i : Nat} (hi : i < num x) (k : Int) : ent x k = x.f3 + 4 * i ↔ sec x i = k := by
  have h3 := (okT_true h).2.2.2.2.2.2.2.1
  constructor
  · intro e
    obtain ⟨j, hj, h1, h2⟩ := ent_sec h (s := k) (by omega)
    have : i = j := by omega
    subst this; exact h1
  · intro e
    rw [← e]; exact (sec_ent h hi).2.2
def rowT (x : R) (i : Nat) : List Int := [sec x i, x.f3 + 4 * i, x.f3 + 4 * i + 4]
def rowsT (x : R) (k : Nat) : List (List Int) := (List.range k).map (rowT x)
theorem rowsT_len (x : R) (k : Nat) : (rowsT x k).length = k := by simp [rowsT]
theorem rowsT_next (x : R) (k : Nat) : rowsT x (k + 1) = rowsT x k ++ [rowT x k] := by unfold rowsT; rw [List.range_succ, List.map_append]; rfl
def secF (x : R) : List (List Int) := if okT x = true then rowsT x (num x) else []
theorem secF_no {x : R} (h : okT x = false) : secF x = [] := by unfold secF; rw [h]; rfl
theorem secF_yes {x : R} (h : okT x = true) : secF x = rowsT x (num x) := by unfold secF; rw [if_pos h]
theorem sec_sm (x : R) : TabS.Sm (secF x) := by
  unfold secF
  split
  · rename_i h
    have := (num_is h).2.2
    refine ⟨by rw [rowsT_len]; omega, fun y hy => ?_⟩
    unfold rowsT at hy
    obtain ⟨i, _, rfl⟩ := List.mem_map.1 hy
    simp [rowT]
  · exact ⟨by simp, by simp⟩
set_option maxHeartbeats 1600000 in
theorem sec_spec (x : R) (w : World) : Calls Try.prog 7 #[.agg #[.int .i64 x.f0, .int .i64 x.f1, .int .i64 x.f2, .int .i64 x.f3, .int .i64 x.f4]] w (TPost (secF x) (okT x) w) := by
  obtain ⟨i2, hi2, hx0, hx1, hx2⟩ := info_parts info_S
  have HK := Lib.hid hx2; clear hx2
  have HK1 := Lib.hid hx1; clear hx1
  go_enter Try.func7, Try.ntmps7
  go_wp2_with fail
  have X := (Box.new (Below.refl _ w) [.int .i64 x.f0, .int .i64 x.f1, .int .i64 x.f2, .int .i64 x.f3, .int .i64 x.f4] 25 (g := w.heap.size) rfl).alloc (.cells #[] 34)
  have TO := TOwn.empty (w.alloc (.cells #[.int .i64 x.f0, .int .i64 x.f1, .int .i64 x.f2, .int .i64 x.f3, .int .i64 x.f4] 25)) (lo := w.heap.size + 1) (by rw [size_alloc']; omega)
  obtain ⟨top, htop⟩ : ∃ top, (w.alloc (.cells #[.int .i64 x.f0, .int .i64 x.f1, .int .i64 x.f2, .int .i64 x.f3, .int .i64 x.f4] 25)).heap.size = top := ⟨_, rfl⟩
  have HT2 := Lib.hid (show ((w.alloc (.cells #[.int .i64 x.f0, .int .i64 x.f1, .int .i64 x.f2, .int .i64 x.f3, .int .i64 x.f4] 25)).alloc (.cells #[] 34)).heap.size = top + 1 by rw [size_alloc', htop])
  rw [htop] at TO
  obtain ⟨V, hV⟩ : ∃ V, (w.alloc (.cells #[.int .i64 x.f0, .int .i64 x.f1, .int .i64 x.f2, .int .i64 x.f3, .int .i64 x.f4] 25)).alloc (.cells #[] 34) = V := ⟨_, rfl⟩
  rw [size_alloc'] at htop
  rw [hV] at X TO HT2 ⊢
  simp only [size_alloc', htop]
  have TL : TOwnL V (w.heap.size + 1) (top + 1) (some ⟨top, 0, none⟩) 0 [] := ⟨TO, Nat.le_of_eq HT2.out.symm⟩
  clear hV TO
  have X_0 := X.cells 0 _ rfl
  have X_1 := X.cells 1 _ rfl
  have X_2 := X.cells 2 _ rfl
  have X_3 := X.cells 3 _ rfl
  have X_4 := X.cells 4 _ rfl
  have X_f0 := X.free 0 (by simp)
  have X_f1 := X.free 1 (by simp)
  have X_f2 := X.free 2 (by simp)
  have X_f3 := X.free 3 (by simp)
  have X_f4 := X.free 4 (by simp)
  have X_t := X.there
  go_wp2_with fail
  refine (one_spec x _).mono ?_
  rintro e v1 ⟨rfl, hv1⟩
  clear X_0 X_1 X_2 X_3 X_4 X_f0 X_f1 X_f2 X_f3 X_f4 X_t
  replace X := X.more hv1
  replace TL := townl_keep TL hv1
  have zhv1 := hv1.size
  clear hv1
  have X_0 := X.cells 0 _ rfl
  have X_1 := X.cells 1 _ rfl
  have X_2 := X.cells 2 _ rfl
  have X_3 := X.cells 3 _ rfl
  have X_4 := X.cells 4 _ rfl
  have X_f0 := X.free 0 (by simp)
  have X_f1 := X.free 1 (by simp)
  have X_f2 := X.free 2 (by simp)
  have X_f3 := X.free 3 (by simp)
  have X_f4 := X.free 4 (by simp)
  have X_t := X.there
  cases hok : okT x
  · have HF := Lib.hid (secF_no hok)
    go_wp2
    go_ret2
    exact TabS.t_mk (m := []) HF.out hok rfl ((TL.own.mono TL.le).base (Nat.le_succ _)) X.below
  have HOK := Lib.hid hok
  obtain ⟨a0, a1, a2, a3, a4, a5, a6, a7, a8, a9, a10, a11, a12⟩ := okT_true hok
  have HAX := Lib.hid (fun W => arr_spec x a2 a3 a4 a5 a7 a8 W)
  have hnum := num_is hok
  have HAR := Lib.hid (show arr x = x.f3 + 4 * (num x : Int) by unfold arr; rw [hnum.1])
  have HSX := Lib.hid (fun (k : Nat) (hk : k < 9) (W : World) => ent_spec x (k : Int) HOK.out (by omega) (by omega) W)
  obtain ⟨n, hnn⟩ : ∃ n, num x = n := ⟨_, rfl⟩
  have HNN := Lib.hid hnn
  rw [hnn] at hnum HAR
  have hn9 := hnum.2.2
  have HF := Lib.hid (show secF x = rowsT x n by rw [secF_yes hok, hnn])
  clear a0 a1 a2 a3 a4 a5 a6 a9 a11 a12 hnum hnn hok
  go_wp2_with fail
  clear X_0 X_1 X_2 X_3 X_4 X_f0 X_f1 X_f2 X_f3 X_f4 X_t
  go_loopw [4, 5] (fun z mi wr => ∃ (i : Nat) (q : Int) (m : List Row) (A : Option Addr) (c top : Nat), i ≤ n ∧ mi = .int .i64 q ∧ z = .slice A m.length c ∧ Hid (q = x.f3 + 4 * i) ∧ Hid (tp m = rowsT x i) ∧ TOwnL wr (w.heap.size + 1) top A c m ∧ Box w.heap.size [.int .i64 x.f0, .int .i64 x.f1, .int .i64 x.f2, .int .i64 x.f3, .int .i64 x.f4] w wr) (fun _ mi _ => (1500 - intOf mi).toNat)
  case atStart => exact ⟨0, x.f3, [], _, _, _, Nat.zero_le _, rfl, rfl, Lib.hid (by simp), Lib.hid rfl, TL, X⟩
  case round =>
    clear X TL
    obtain ⟨i, q, m, A, c, top, hi, rfl, rfl, HQ, HM, TL, X⟩ := hrel
    have X_0 := X.cells 0 _ rfl
    have X_1 := X.cells 1 _ rfl
    have X_2 := X.cells 2 _ rfl
    have X_3 := X.cells 3 _ rfl
    have X_4 := X.cells 4 _ rfl
    have X_f0 := X.free 0 (by simp)
    have X_f1 := X.free 1 (by simp)
    have X_f2 := X.free 2 (by simp)
    have X_f3 := X.free 3 (by simp)
    have X_f4 := X.free 4 (by simp)
    have X_t := X.there
    go_wp2_with fail
    refine (HAX.out _).mono ?_
    rintro e v1 ⟨rfl, hv1⟩
    clear X_0 X_1 X_2 X_3 X_4 X_f0 X_f1 X_f2 X_f3 X_f4 X_t
    replace X := X.more hv1
    replace TL := townl_keep TL hv1
    have zhv1 := hv1.size
    clear hv1
    have X_0 := X.cells 0 _ rfl
    have X_1 := X.cells 1 _ rfl
    have X_2 := X.cells 2 _ rfl
    have X_3 := X.cells 3 _ rfl
    have X_4 := X.cells 4 _ rfl
    have X_f0 := X.free 0 (by simp)
    have X_f1 := X.free 1 (by simp)
    have X_f2 := X.free 2 (by simp)
    have X_f3 := X.free 3 (by simp)
    have X_f4 := X.free 4 (by simp)
    have X_t := X.there
    have hq : 0 ≤ q ∧ q ≤ 1440 := by have := HQ.out; have := HAR.out; omega
    by_cases hlt : i < n
    · have HL := Lib.hid hlt
      have e1 : decide (q < arr x) = true := decide_eq_true (by have := HQ.out; have := HAR.out; omega)
      have y4 : IntKind.i64.wrap (q + 4) = q + 4 := IntWalk.i64_in _ (by omega)
      have HIF := Lib.hid (fun k => ent_iff HOK.out (show i < num x by rw [HNN.out]; exact HL.out) k)
      have HSB := Lib.hid (sec_ent HOK.out (show i < num x by rw [HNN.out]; exact HL.out))
      go_wp2_with fail
      clear X_0 X_1 X_2 X_3 X_4 X_f0 X_f1 X_f2 X_f3 X_f4 X_t
      go_loopw [4, 6] (fun z se wr => ∃ (k : Nat) (m : List Row) (A : Option Addr) (c top : Nat), k ≤ 9 ∧ se = .int .i64 k ∧ z = .slice A m.length c ∧ Hid (tp m = if sec x i < k then rowsT x (i + 1) else rowsT x i) ∧ TOwnL wr (w.heap.size + 1) top A c m ∧ Box w.heap.size [.int .i64 x.f0, .int .i64 x.f1, .int .i64 x.f2, .int .i64 x.f3, .int .i64 x.f4] w wr) (fun _ se _ => 9 - (intOf se).toNat)
      case atStart => exact ⟨0, m, A, c, top, by omega, rfl, rfl, Lib.hid (by rw [if_neg (by have := HSB.out; omega)]; exact HM.out), TL, X⟩
      case round =>
        clear X TL HM
        obtain ⟨k, m, A, c, top, hk, rfl, rfl, HM, TL, X⟩ := hrel
        by_cases hlk : k < 9
        · have X_0 := X.cells 0 _ rfl
          have X_1 := X.cells 1 _ rfl
          have X_2 := X.cells 2 _ rfl
          have X_3 := X.cells 3 _ rfl
          have X_4 := X.cells 4 _ rfl
          have X_f0 := X.free 0 (by simp)
          have X_f1 := X.free 1 (by simp)
          have X_f2 := X.free 2 (by simp)
          have X_f3 := X.free 3 (by simp)
          have X_f4 := X.free 4 (by simp)
          have X_t := X.there
          have HLK := Lib.hid hlk
          obtain ⟨u, hu⟩ : ∃ u, ent x (k : Int) = u := ⟨_, rfl⟩
          have HU := Lib.hid hu; clear hu
          go_wp2_with fail
          refine (HSX.out k HLK.out _).mono ?_
          rintro e v1 ⟨rfl, hv1⟩
          clear X_0 X_1 X_2 X_3 X_4 X_f0 X_f1 X_f2 X_f3 X_f4 X_t
          replace X := X.more hv1
          replace TL := townl_keep TL hv1
          have zhv1 := hv1.size
          clear hv1
          have X_0 := X.cells 0 _ rfl
          have X_1 := X.cells 1 _ rfl
          have X_2 := X.cells 2 _ rfl
          have X_3 := X.cells 3 _ rfl
          have X_4 := X.cells 4 _ rfl
          have X_f0 := X.free 0 (by simp)
          have X_f1 := X.free 1 (by simp)
          have X_f2 := X.free 2 (by simp)
          have X_f3 := X.free 3 (by simp)
          have X_f4 := X.free 4 (by simp)
          have X_t := X.there
          rw [HU.out]
          by_cases hs : sec x i = k
          · have e2 : (u == q) = true := by rw [beq_iff_eq, ← HU.out, (HIF.out k).2 hs, HQ.out]
            have HM2 := Lib.hid (show tp m = rowsT x i by have := HM.out; rwa [if_neg (by omega)] at this)
            have hml : m.length ≤ 9 := by have := tp_n HM2.out; rw [rowsT_len] at this; omega
            have HS := Lib.hid hs
            have TO := TL.own.mono TL.le
            have hws : w.heap.size + 1 ≤ v1.heap.size := X.there
            clear hs TL
            have hrow0 : RowOwn (v1.alloc (.cells #[.int .i64 k, .int .i64 q, .int .i64 (q + 4)] 3)) v1.heap.size ⟨some ⟨v1.heap.size, 0, none⟩, 3, [k, q, q + 4]⟩ := by
              have := World.ownsRow_lit v1 #[.int .i64 k, .int .i64 q, .int .i64 (q + 4)] 3 (e := 3) (size := 1) (base := v1.heap.size) (Nat.le_refl _) (by unfold maxLen; omega) rfl
              simpa [RowOwn, Row.val, iv] using this
            have HROW := Lib.hid (show RowOwn ((v1.alloc (.cells #[.int .i64 k, .int .i64 q, .int .i64 (q + 4)] 3)).alloc (.cells #[.slice (some ⟨v1.heap.size, 0, none⟩) 3 3] 34)) v1.heap.size ⟨some ⟨v1.heap.size, 0, none⟩, 3, [k, q, q + 4]⟩ from (World.ownsRow.alloc hrow0 (.cells #[.slice (some ⟨v1.heap.size, 0, none⟩) 3 3] 34)))
            have hba : Below v1.heap.size v1 ((v1.alloc (.cells #[.int .i64 k, .int .i64 q, .int .i64 (q + 4)] 3)).alloc (.cells #[.slice (some ⟨v1.heap.size, 0, none⟩) 3 3] 34)) := (al (al (Below.refl _ _)))
            have HBA := Lib.hid hba
            have HOA := Lib.hid (TO.keep hba).out
            have hnc := cell_one_new (v1.alloc (.cells #[.int .i64 k, .int .i64 q, .int .i64 (q + 4)] 3)) (.slice (some ⟨v1.heap.size, 0, none⟩) 3 3) 34
            rw [size_alloc'] at hnc
            have HNC := Lib.hid hnc
            have HTO := Lib.hid TO
            have HWS := Lib.hid hws
            have hm1 : m.length + 1 ≤ maxLen := by unfold maxLen; omega
            have hm2 : (m.length + 1) * 24 ≤ 140737488355328 := by omega
            clear hrow0 hba hnc TO hws
            go_wp2_with (at_builtin; go_must (refine wpList_append_lies _ rfl _ _ 27 rfl (w.heap.size + 1) 34 i2 _ 1 24 Try.underlying27 hi2 hx0 HK1.out HK.out rfl (by decide) (.slice A m.length c) m.length (TabS.tv m) rfl HOA.out ⟨v1.heap.size + 1, 0, none⟩ 1 1 [.slice (some ⟨v1.heap.size, 0, none⟩) 3 3] rfl rfl HNC.out (one_cell rfl) (by decide) hm1 hm2 (Nat.le_trans HWS.out HBA.out.size) _ rfl ?_; intro g9 c9 w9 hown1 hgrow hat hlt9; have HSN := Lib.hid (tab_snoc (x := ⟨some ⟨v1.heap.size, 0, none⟩, 3, [k, q, q + 4]⟩) HTO.out HWS.out HBA.out HROW.out hown1 hgrow hat); have HGR := Lib.hid hgrow; have HAT := Lib.hid hat; clear hown1 hgrow hat hlt9))
            clear hm1 hm2
            go_roundw
            case rel => exact ⟨k + 1, m ++ [_], _, _, _, HLK.out, by go_num, by simp, Lib.hid (by rw [if_pos (by have := HS.out; omega), tp_snoc, HM2.out, rowsT_next]; show _ ++ [_] = _ ++ [rowT x i]; unfold rowT; rw [HS.out, ← HQ.out]), ⟨HSN.out, Nat.le_refl _⟩, box_grown (X.more HBA.out) HGR.out (fun j hj => ⟨by have := own_ge HTO.out.out j hj; omega, by have := own_ge HTO.out.out j hj; omega⟩)⟩
            case measure => have := HLK.out; simp [intOf]; omega
          · have e2 : (u == q) = false := by rw [beq_eq_false_iff_ne, ← HU.out, HQ.out]; exact fun h => hs ((HIF.out k).1 h)
            have HS := Lib.hid hs
            clear hs
            go_wp2
            go_roundw
            case rel => exact ⟨k + 1, m, A, c, top, HLK.out, by go_num, rfl, Lib.hid (by
                have h1 := HM.out
                have h2 := HS.out
                by_cases h3 : sec x i < k
                · rw [if_pos h3] at h1; rw [if_pos (by omega)]; exact h1
                · rw [if_neg h3] at h1; rw [if_neg (by omega)]; exact h1), TL, X⟩
            case measure => have := HLK.out; simp [intOf]; omega
        · have HM2 := Lib.hid (show tp m = rowsT x (i + 1) by have := HM.out; rwa [if_pos (by have := HSB.out; omega)] at this)
          go_wp2
          go_roundw
          case rel => exact ⟨i + 1, q + 4, m, A, c, top, HL.out, rfl, rfl, Lib.hid (by have := HQ.out; omega), HM2, TL, X⟩
          case measure => simp [intOf]; omega
    · have e1 : decide (q < arr x) = false := decide_eq_false (by have := HQ.out; have := HAR.out; omega)
      have HF2 := Lib.hid (show secF x = tp m by rw [HF.out, HM.out]; congr 1; omega)
      go_wp2
      go_ret2
      exact TabS.t_mk HF2.out HOK.out rfl ((TL.own.mono TL.le).base (Nat.le_succ _)) X.below
set_option maxHeartbeats 1600000 in
theorem sec_impl (x : R) (w : World) : Calls Try.prog 6 #[.agg #[.int .i64 x.f0, .int .i64 x.f1, .int .i64 x.f2, .int .i64 x.f3, .int .i64 x.f4]] w (TPost (secF x) (okT x) w) := by
  obtain ⟨i2, hi2, hx0, hx1, hx2⟩ := info_parts info_S
  have HK := Lib.hid hx2; clear hx2
  have HK1 := Lib.hid hx1; clear hx1
  go_enter Try.func6, Try.ntmps6
  go_wp2_with fail
  have X := Box.new (Below.refl _ w) [.int .i64 x.f0, .int .i64 x.f1, .int .i64 x.f2, .int .i64 x.f3, .int .i64 x.f4] 25 (g := w.heap.size) rfl
  generalize (w.alloc (.cells #[.int .i64 x.f0, .int .i64 x.f1, .int .i64 x.f2, .int .i64 x.f3, .int .i64 x.f4] 25)) = W1 at X ⊢
  have X_0 := X.cells 0 _ rfl
  have X_1 := X.cells 1 _ rfl
  have X_2 := X.cells 2 _ rfl
  have X_3 := X.cells 3 _ rfl
  have X_4 := X.cells 4 _ rfl
  have X_f0 := X.free 0 (by simp)
  have X_f1 := X.free 1 (by simp)
  have X_f2 := X.free 2 (by simp)
  have X_f3 := X.free 3 (by simp)
  have X_f4 := X.free 4 (by simp)
  have X_t := X.there
  go_wp2_with fail
  refine (one_impl x _).mono ?_
  rintro e v2 ⟨rfl, hv2⟩
  clear X_0 X_1 X_2 X_3 X_4 X_f0 X_f1 X_f2 X_f3 X_f4 X_t
  replace X := X.more hv2
  have zhv2 := hv2.size
  clear hv2
  have X_0 := X.cells 0 _ rfl
  have X_1 := X.cells 1 _ rfl
  have X_2 := X.cells 2 _ rfl
  have X_3 := X.cells 3 _ rfl
  have X_4 := X.cells 4 _ rfl
  have X_f0 := X.free 0 (by simp)
  have X_f1 := X.free 1 (by simp)
  have X_f2 := X.free 2 (by simp)
  have X_f3 := X.free 3 (by simp)
  have X_f4 := X.free 4 (by simp)
  have X_t := X.there
  cases hok : okT x
  · have HF := Lib.hid (secF_no hok)
    have TO := TabS.t_none X.below
    go_wp2
    go_ret2
    exact TabS.t_mk (m := []) HF.out hok rfl TO (al X.below)
  have HOK := Lib.hid hok
  have hnum := num_is hok
  obtain ⟨n, hnn⟩ : ∃ n, num x = n := ⟨_, rfl⟩
  have HNN := Lib.hid hnn
  rw [hnn] at hnum
  have hn9 := hnum.2.2
  have HF := Lib.hid (show secF x = rowsT x n by rw [secF_yes hok, hnn])
  have hw1 := X.there
  clear hnum hnn hok
  go_wp2_with fail
  have TO := TOwn.empty v2 (lo := w.heap.size + 1) hw1
  replace X := X.alloc (.cells #[] 34)
  obtain ⟨top, htop⟩ : ∃ top, v2.heap.size = top := ⟨_, rfl⟩
  have HT2 := Lib.hid (show (v2.alloc (.cells #[] 34)).heap.size = top + 1 by rw [size_alloc', htop])
  rw [htop] at TO ⊢
  obtain ⟨V, hV⟩ : ∃ V, v2.alloc (.cells #[] 34) = V := ⟨_, rfl⟩
  rw [hV] at X TO HT2 ⊢
  have TL : TOwnL V (w.heap.size + 1) (top + 1) (some ⟨top, 0, none⟩) 0 [] := ⟨TO, Nat.le_of_eq HT2.out.symm⟩
  clear hV TO htop
  go_wp2_with fail
  refine (cross_impl x HOK.out _).mono ?_
  rintro e v1 ⟨A1, c1, rfl, O1, hv1⟩
  replace X := X.more hv1
  replace TL := townl_keep TL hv1
  have zhv1 := hv1.size
  clear hv1
  have R0 : Cr v1 (top + 1) v1.heap.size A1 c1 (crossL x (num x)) := ⟨by rw [← HT2.out]; exact O1, fun k hk => (World.ownsRow.lt O1 k hk).2, Nat.le_refl _⟩
  clear O1
  obtain ⟨B1, R1⟩ : ∃ B1, Cr v1 (top + 1) B1 A1 c1 (crossL x (num x)) := ⟨_, R0⟩
  obtain ⟨B0, hB0⟩ : ∃ B, top + 1 = B := ⟨_, rfl⟩
  have HD0 := Lib.hid (show ∀ j, (Value.slice (some ⟨top, 0, none⟩) 0 0).ownBlock = some j → j < B0 ∨ B1 ≤ j from fun j hj => by have := row_at hj; omega)
  rw [hB0] at R1
  clear R0 hB0
  rw [HNN.out] at R1 ⊢
  obtain ⟨L1, hL1⟩ : ∃ L, crossL x n = L := ⟨_, rfl⟩
  have HL1 := Lib.hid (show L1.length = n by rw [← hL1, crossL_len])
  have HG1 := Lib.hid (show ∀ i (h : i < L1.length), L1[i] = cat x i by subst hL1; intro i h; exact crossL_get x _ i h)
  rw [hL1] at R1 ⊢
  have hl9 : L1.length ≤ 9 := by rw [HL1.out]; exact hn9
  clear hL1
  go_wp2_with fail
  go_loopw [4, 15] (fun z ki wr => ∃ (k : Nat) (m : List Row) (A : Option Addr) (c top : Nat), k ≤ L1.length ∧ ki = .int .i64 k ∧ z = .slice A m.length c ∧ Hid (tp m = rowsT x k) ∧ TOwnL wr (w.heap.size + 1) top A c m ∧ Hid (∀ j, (Value.slice A m.length c).ownBlock = some j → j < B0 ∨ B1 ≤ j) ∧ Cr wr B0 B1 A1 c1 L1 ∧ Box w.heap.size [.int .i64 x.f0, .int .i64 x.f1, .int .i64 x.f2, .int .i64 x.f3, .int .i64 x.f4] w wr) (fun _ ki _ => L1.length - (intOf ki).toNat)
  case atStart => exact ⟨0, [], _, _, _, Nat.zero_le _, rfl, rfl, Lib.hid rfl, TL, HD0, R1, X⟩
  case round =>
    clear X TL R1
    obtain ⟨k, m, A, c, top, hk, rfl, rfl, HM, TL, HD, R1, X⟩ := hrel
    by_cases hlt : k < L1.length
    · obtain ⟨b, o, rfl, hbs, hc⟩ := R1.rd.at (k := k * 3) (by rw [cflat_n]; omega)
      obtain ⟨⟨s1, e1, v1⟩, hz⟩ : ∃ z, L1[k] = z := ⟨_, rfl⟩
      have d0 : wr.cell? ⟨b, o + k * 3, none⟩ = some (.int .i64 s1) := by rw [hc _ _ (cflat_0 L1 k hlt), hz]
      have d1 : wr.cell? ⟨b, o + k * 3 + 1, none⟩ = some (.int .i64 e1) := by rw [Nat.add_assoc, hc _ _ (cflat_1 L1 k hlt), hz]
      have d2 : wr.cell? ⟨b, o + k * 3 + 2, none⟩ = some (.int .i64 v1) := by rw [Nat.add_assoc, hc _ _ (cflat_2 L1 k hlt), hz]
      have HRT := Lib.hid (show [s1, e1, v1] = rowT x k by
        have := HG1.out k hlt
        rw [hz] at this
        unfold cat at this
        injection this with a b c
        subst a; subst b; subst c; rfl)
      have HL := Lib.hid hlt
      clear hz hc
      go_upto_region 7 with fail
      have X_t1 := X.there
      have Z := Box.new X.below [.int .i64 s1, .int .i64 e1, .int .i64 v1] 51 (g := wr.heap.size) rfl
      replace X := (X).alloc (.cells #[.int .i64 s1, .int .i64 e1, .int .i64 v1] 51)
      replace R1 := cr_keep R1 (al (Below.refl _ _) (o := (.cells #[.int .i64 s1, .int .i64 e1, .int .i64 v1] 51)))
      replace TL := townl_keep TL (al (Below.refl _ _) (o := (.cells #[.int .i64 s1, .int .i64 e1, .int .i64 v1] 51)))
      generalize (wr.alloc (.cells #[.int .i64 s1, .int .i64 e1, .int .i64 v1] 51)) = W1 at Z X R1 TL ⊢
      have X_0 := X.cells 0 _ rfl
      have X_1 := X.cells 1 _ rfl
      have X_2 := X.cells 2 _ rfl
      have X_3 := X.cells 3 _ rfl
      have X_4 := X.cells 4 _ rfl
      have X_f0 := X.free 0 (by simp)
      have X_f1 := X.free 1 (by simp)
      have X_f2 := X.free 2 (by simp)
      have X_f3 := X.free 3 (by simp)
      have X_f4 := X.free 4 (by simp)
      have X_t := X.there
      have Z_0 := Z.cells 0 _ rfl
      have Z_1 := Z.cells 1 _ rfl
      have Z_2 := Z.cells 2 _ rfl
      have Z_f0 := Z.free 0 (by simp)
      have Z_f1 := Z.free 1 (by simp)
      have Z_f2 := Z.free 2 (by simp)
      have Z_t := Z.there
      have hml : m.length ≤ 9 := by have := tp_n HM.out; rw [rowsT_len] at this; omega
      have TO := TL.own.mono TL.le
      have hws : w.heap.size + 1 ≤ W1.heap.size := X.there
      clear d0 d1 d2 hbs TL
      have Z_0 := Z.cells 0 _ rfl
      have Z_1 := Z.cells 1 _ rfl
      have Z_2 := Z.cells 2 _ rfl
      have Z_f0 := Z.free 0 (by simp)
      have Z_f1 := Z.free 1 (by simp)
      have Z_f2 := Z.free 2 (by simp)
      have Z_t := Z.there
      have hrow0 : RowOwn (W1.alloc (.cells #[.int .i64 s1, .int .i64 e1, .int .i64 v1] 3)) W1.heap.size ⟨some ⟨W1.heap.size, 0, none⟩, 3, [s1, e1, v1]⟩ := by
        have := World.ownsRow_lit W1 #[.int .i64 s1, .int .i64 e1, .int .i64 v1] 3 (e := 3) (size := 1) (base := W1.heap.size) (Nat.le_refl _) (by unfold maxLen; omega) rfl
        simpa [RowOwn, Row.val, iv] using this
      have HROW := Lib.hid (show RowOwn ((W1.alloc (.cells #[.int .i64 s1, .int .i64 e1, .int .i64 v1] 3)).alloc (.cells #[.slice (some ⟨W1.heap.size, 0, none⟩) 3 3] 34)) W1.heap.size ⟨some ⟨W1.heap.size, 0, none⟩, 3, [s1, e1, v1]⟩ from (World.ownsRow.alloc hrow0 (.cells #[.slice (some ⟨W1.heap.size, 0, none⟩) 3 3] 34)))
      have hba : Below W1.heap.size W1 ((W1.alloc (.cells #[.int .i64 s1, .int .i64 e1, .int .i64 v1] 3)).alloc (.cells #[.slice (some ⟨W1.heap.size, 0, none⟩) 3 3] 34)) := (al (al (Below.refl _ _)))
      have HBA := Lib.hid hba
      have HOA := Lib.hid (TO.keep hba).out
      have hnc := cell_one_new (W1.alloc (.cells #[.int .i64 s1, .int .i64 e1, .int .i64 v1] 3)) (.slice (some ⟨W1.heap.size, 0, none⟩) 3 3) 34
      rw [size_alloc'] at hnc
      have HNC := Lib.hid hnc
      have HTO := Lib.hid TO
      have HWS := Lib.hid hws
      have hm1 : m.length + 1 ≤ maxLen := by unfold maxLen; omega
      have hm2 : (m.length + 1) * 24 ≤ 140737488355328 := by omega
      clear hrow0 hba hnc TO hws
      go_wp2_with (at_builtin; go_must (refine wpList_append_lies _ rfl _ _ 27 rfl (w.heap.size + 1) 34 i2 _ 1 24 Try.underlying27 hi2 hx0 HK1.out HK.out rfl (by decide) (.slice A m.length c) m.length (TabS.tv m) rfl HOA.out ⟨W1.heap.size + 1, 0, none⟩ 1 1 [.slice (some ⟨W1.heap.size, 0, none⟩) 3 3] rfl rfl HNC.out (one_cell rfl) (by decide) hm1 hm2 (Nat.le_trans HWS.out HBA.out.size) _ rfl ?_; intro g9 c9 w9 hown1 hgrow hat hlt9; have HSN := Lib.hid (tab_snoc (x := ⟨some ⟨W1.heap.size, 0, none⟩, 3, [s1, e1, v1]⟩) HTO.out HWS.out HBA.out HROW.out hown1 hgrow hat); have HGR := Lib.hid hgrow; have HAT := Lib.hid hat; clear hown1 hgrow hat hlt9))
      clear hm1 hm2
      go_roundw
      case rel => exact ⟨k + 1, m ++ [_], _, _, _, HL.out, by go_num, by simp, Lib.hid (by rw [tp_snoc, HM.out, rowsT_next]; show _ ++ [[s1, e1, v1]] = _; rw [HRT.out]), ⟨HSN.out, Nat.le_refl _⟩, Lib.hid (fun j hj => by
          rcases HAT.out with h1 | h1
          · exact HD.out j (by rw [← hj, h1]; rfl)
          · refine .inr ?_
            have h2 := row_at hj
            have h3 := (cr_keep R1 HBA.out).le
            omega), (cr_keep R1 HBA.out).grown HGR.out (fun j hj => HD.out j hj), box_grown (X.more HBA.out) HGR.out (fun j hj => ⟨by have := own_ge HTO.out.out j hj; omega, by have := own_ge HTO.out.out j hj; omega⟩)⟩
      case measure => have := HL.out; simp [intOf]; omega
    · have HF2 := Lib.hid (show secF x = tp m by rw [HF.out, HM.out]; congr 1; have := HL1.out; omega)
      go_wp2
      go_ret2
      exact TabS.t_mk HF2.out HOK.out rfl ((TL.own.mono TL.le).base (Nat.le_succ _)) X.below
end Go.Proofs.Ytknlgdahcfgbeaa.TripT
