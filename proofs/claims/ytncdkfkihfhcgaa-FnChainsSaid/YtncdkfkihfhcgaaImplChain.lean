/- Chain: the program's. -/
import Derived.Test.YtncdkfkihfhcgaaChainQ
import Derived.Deep.LoopGhost
import Derived.Carry
import Derived.Deep.Cut
import Derived.Deep.CutBlock
import Derived.Deep.DeepCutAuto
import Derived.Deep.Light
namespace Go.Proofs.Ytncdkfkihfhcgaa.ImplChain
open Go.RowKit Go.Proofs.Ytncdkfkihfhcgaa.Mem Go.Proofs.Ytncdkfkihfhcgaa.Base Go.Proofs.Ytncdkfkihfhcgaa.Within Go.Proofs.Ytncdkfkihfhcgaa.SPond Go.Proofs.Ytncdkfkihfhcgaa.Regn Go.Proofs.Ytncdkfkihfhcgaa.Boxes Go.Proofs.Ytncdkfkihfhcgaa.Pond Go.Proofs.Ytncdkfkihfhcgaa.Pond2 Go.Proofs.Ytncdkfkihfhcgaa.Pond3 Go.Proofs.Ytncdkfkihfhcgaa.Pond4 Go.Proofs.Ytncdkfkihfhcgaa.Pond6 Go.Proofs.Ytncdkfkihfhcgaa.IPond Go.Proofs.Ytncdkfkihfhcgaa.IPond2 Go.Proofs.Ytncdkfkihfhcgaa.SInt Go.Proofs.Ytncdkfkihfhcgaa.Keep Go.Proofs.Ytncdkfkihfhcgaa.Pond9 Go.Proofs.Ytncdkfkihfhcgaa.Steps Go.Proofs.Ytncdkfkihfhcgaa.Bfs Go.Proofs.Ytncdkfkihfhcgaa.Chain Go.Proofs.Ytncdkfkihfhcgaa.ChainP Go.Proofs.Ytncdkfkihfhcgaa.Queue Go.Proofs.Ytncdkfkihfhcgaa.SetMap Go.Proofs.Ytncdkfkihfhcgaa.ChainQ
set_option linter.unusedVariables false
set_option maxRecDepth 100000
theorem info_sl : (Try.prog.info? 27).map (fun i => (i.zero, i.size, i.bytes)) = some (some (.slice none 0 0), 1, 24) := by kernel_rfl
theorem came_grown {w w' : World} {ao : Option Addr} {b off len cap : Nat} {olds : List Value} {row : Option Nat} (hc : Came w 1 ao b off len cap olds) (hg : w.grownBy w' row) (hne : ∀ k, row = some k → k ≠ b) : Came w' 1 ao b off len cap olds := by
  have hle := hc.le
  have hl := hc.oldsLen
  have hblk : ∀ (h : b < w.heap.size), w'.heap[b]? = w.heap[b]? := fun h => hg.block b h (fun e => hne b e.symm rfl)
  refine ⟨hle, hc.addr, fun h => Nat.lt_of_lt_of_le (hc.lt h) hg.size, hl, fun j u hu => ?_, fun j hj => ?_⟩
  · have h0 : j < olds.length := by
      rcases Nat.lt_or_ge j olds.length with h1 | h1
      · exact h1
      · rw [List.getElem?_eq_none h1] at hu; cases hu
    rw [World.cell?_of_block (w := w) (hblk (hc.lt (by omega)))]; exact hc.olds j u hu
  · have := hc.lt (by omega)
    rw [World.cell?_of_block (w := w) (hblk this), World.frozen?_of_block (w := w) (hblk this)]; exact hc.spare j hj
/-- without its first one, as Go's slice expression has it. -/
theorem came_rest {w : World} {b off len cap : Nat} {x : Value} {olds : List Value} (hc : Came w 1 (some ⟨b, off, none⟩) b off (len + 1) cap (x :: olds)) :
    ∃ off', (if cap = 1 then some (⟨b, off, none⟩ : Addr) else some ⟨b, off + 1, none⟩) = some ⟨b, off', none⟩ ∧ Came w 1 (some ⟨b, off', none⟩) b off' len (cap - 1) olds := by
  have hle := hc.le
  have hl := hc.oldsLen
  simp only [List.length_cons] at hl
  by_cases h : cap = 1
  · subst h
    have h0 : len = 0 := by omega
    have ho : olds = [] := List.eq_nil_of_length_eq_zero (by omega)
    subst h0
    subst ho
    exact ⟨off, if_pos rfl, ⟨Nat.le_refl _, fun h => by omega, fun h => by omega, rfl, fun j u hu => by simp at hu, fun j hj => by omega⟩⟩
  · exact ⟨off + 1, if_neg h, came_tail hc (fun _ => rfl)⟩
theorem WayAt.moved {l : List R} {B b gM b' : Nat} {w w' : World} {v : Value} {r : Bfs.Way} (h : WayAt l B w b gM v r) (hg : w.grownBy w' (some b)) (hb : b' = b ∨ w.heap.size ≤ b') : WayAt l B w' b' gM v r := by
  obtain ⟨g, c, h1, h2, h3, h4⟩ := h
  have hlt := own_lt h2
  exact ⟨g, c, h1, own_grownN h2 hg (fun k hk => by injection hk with hk; omega), by omega, h4⟩
theorem findV_tup (l : List R) (id : Int) : ∃ (x : Int) (q : Bool), decide (0 ≤ find l id) = q ∧ findV l id = .tuple #[.int .i64 x, .bool q] := by
  unfold findV
  by_cases h : 0 ≤ find l id
  · exact ⟨_, true, decide_eq_true h, if_pos h⟩
  · exact ⟨_, false, decide_eq_false h, if_neg h⟩
theorem find_least {l : List R} {id : Int} : -1 ≤ find l id := by
  unfold find
  split
  · split <;> omega
  · omega
theorem id_wf {l : List R} (hg : good l = true) {j : Nat} (hj : j < l.length) : (Lit.int .i64 (idOf l j)).wf = true := by
  rw [idOf_at hj rfl]
  have := okP_true ((good_all hg).2 j hj)
  have e : IntKind.i64.wrap l[j].f0 = l[j].f0 := IntWalk.i64_in _ (by omega)
  simp [Lit.wf, e]
  have hm : IntKind.i64.min = -9223372036854775808 := rfl
  omega
theorem blk_lt {w : World} {base : Nat} {e : TypeId} {size n c j : Nat} {A : Option Addr} {xs : List Value} (h : w.ownsRow base e size (.slice A n c) n xs) (hj : (Value.slice A n c).ownBlock = some j) : j < w.heap.size := by
  rcases h.2 with ⟨hv, _⟩ | ⟨g', cap, cur, hv, hb, hh, r⟩
  · rw [hv] at hj; simp [Value.ownBlock] at hj
  · rw [hv] at hj
    have := row_at hj
    subst this
    rcases Nat.lt_or_ge j w.heap.size with hl | hl
    · exact hl
    · rw [Array.getElem?_eq_none hl] at hh; cases hh
theorem own_at {w : World} {base n c : Nat} {A : Option Addr} {xs : List Value} {e : TypeId} {size : Nat} (h : w.ownsRow base e size (.slice A n c) n xs) (hn : 0 < n) : ∃ g, A = some ⟨g, 0, none⟩ := by
  rcases h.2 with ⟨hv, h0⟩ | ⟨g', cap, cur, hv, _⟩
  · injection hv with h1 h2 h3; omega
  · injection hv with h1; exact ⟨g', h1⟩
theorem holds_lt {w : World} {b n : Nat} {ids : List Int} (h : Holds w b n ids) : b < w.heap.size := by
  obtain ⟨D, hown, _⟩ := h
  exact hown.lt
set_option maxHeartbeats 6400000 in
theorem chain_impl (P : Option Addr) (cap : Nat) (l : List R) (a b : Int) (L : List Int) (qq : Bool) (hch : IsChain l a b L qq) (w : World) (hr : Rd w w.heap.size P (flat l)) (hcap : l.length ≤ cap) (hn : l.length ≤ 1048576) :
    Calls Try.prog 7 #[.slice P l.length cap, .int .i64 a, .int .i64 b] w (NbPost L qq w) := by
  obtain ⟨i0, hi, hz0, hz1, hz2⟩ := info_parts info_int
  have HI := Lib.hid hz2; clear hz2
  have HI1 := Lib.hid hz1; clear hz1
  obtain ⟨j0, hj, hjz, hj1, hj2⟩ := info_parts info_sl
  have HJ := Lib.hid hj2; clear hj2
  have HJ1 := Lib.hid hj1; clear hj1
  have HR := Lib.hid hr; clear hr
  have HCH := Lib.hid hch; clear hch
  go_enter Try.func7, Try.ntmps7
  go_wp2_with fail
  refine (find_impl P cap l a w HR.out hcap hn).mono ?_
  rintro e w1 ⟨rfl, hv1⟩
  obtain ⟨xa, qa, hqa, hva⟩ := findV_tup l a
  rw [hva]
  have HQA := Lib.hid hqa; clear hqa hva
  go_wp2_with fail
  refine (find_impl P cap l b w1 (rd_keep HR.out hv1) hcap hn).mono ?_
  rintro e w2 ⟨rfl, hv2⟩
  obtain ⟨xb, qb, hqb, hvb⟩ := findV_tup l b
  rw [hvb]
  have HQB := Lib.hid hqb; clear hqb hvb
  have HB : Below w.heap.size w w2 := be hv1 hv2
  clear hv1 hv2
  have O0 := IClone.empty_own HB
  cases qa
  · have ha := of_decide_eq_false HQA.out
    have HV := Lib.hid (show L = [] ∧ qq = false by
      rcases HCH.out with ⟨_, h⟩ | ⟨i2, k2, S, h1, h2, _⟩
      · exact h
      · omega)
    clear ha HCH
    go_wp2
    go_ret2
    exact nb_mk HV.out.1 HV.out.2 rfl O0 (al HB)
  cases qb
  · have hb := of_decide_eq_false HQB.out
    have HV := Lib.hid (show L = [] ∧ qq = false by
      rcases HCH.out with ⟨_, h⟩ | ⟨i2, k2, S, h1, h2, _⟩
      · exact h
      · omega)
    clear hb HCH
    go_wp2
    go_ret2
    exact nb_mk HV.out.1 HV.out.2 rfl O0 (al HB)
  obtain ⟨i, hi', hil, hia, hg⟩ := find_ok (of_decide_eq_true HQA.out)
  obtain ⟨k, hk', hkl, hkb, _⟩ := find_ok (of_decide_eq_true HQB.out)
  have HX := Lib.hid (show ∃ (S : List Int), K (ad l) l.length k l.length 0 l.length S ∧ ((sAt S i < 0 ∧ L = [] ∧ qq = false) ∨ ∃ d : Nat, sAt S i = d ∧ L = (grd l.length (ad l) (sAt S) i d).map (idOf l) ∧ qq = true) by
    rcases HCH.out with ⟨h, _⟩ | ⟨i2, k2, S, h1, h2, _, _, _, h3, h4⟩
    · omega
    · obtain rfl : i2 = i := by omega
      obtain rfl : k2 = k := by omega
      exact ⟨S, h3, h4⟩)
  have hia2 : idOf l i = a := by rw [idOf_at hil rfl]; exact hia
  have hkb2 : idOf l k = b := by rw [idOf_at hkl rfl]; exact hkb
  have hl10 := (good_all hg).1
  have HG := Lib.hid hg
  have hawf : (Lit.int .i64 a).wf = true := by rw [← hia2]; exact id_wf hg hil
  clear hg hia hkb HCH O0 HQA HQB hi' hk'
  have HIA := Lib.hid hia2; have HKB := Lib.hid hkb2; clear hia2 hkb2
  obtain ⟨S, hK, hend⟩ := HX.out
  have HK := Lib.hid hK; have HEND := Lib.hid hend; clear hK hend HX
  have HM0 := Lib.hid (Holds.made ((w2.alloc (.cells #[.int .i64 a] 3)).alloc (.cells #[.slice (some ⟨w2.heap.size, 0, none⟩) 1 1] 27)))
  have hmk := @run_makeMap Try.prog
  have CQ0 := came_lit (w2.alloc (.cells #[.int .i64 a] 3)) (.slice (some ⟨w2.heap.size, 0, none⟩) 1 1) 27
  have OW0 := one_own (u := w2) (base := w.heap.size) HB.size a
  have HB1 := al (al (al HB (o := .cells #[.int .i64 a] 3)) (o := .cells #[.slice (some ⟨w2.heap.size, 0, none⟩) 1 1] 27)) (o := .map #[] 0)
  have CQ := came_keep (came_keep CQ0 (Below.refl _ _)) (al (Below.refl _ _) (o := .map #[] 0))
  have OW := own_keep (own_keep OW0 (al (Below.refl _ _) (o := .cells #[.slice (some ⟨w2.heap.size, 0, none⟩) 1 1] 27))) (al (Below.refl _ _) (o := .map #[] 0))
  have HM := HM0.out
  have hsz1 : (w2.alloc (.cells #[.int .i64 a] 3)).heap.size = w2.heap.size + 1 := size_alloc' _ _
  have hsz2 : ((w2.alloc (.cells #[.int .i64 a] 3)).alloc (.cells #[.slice (some ⟨w2.heap.size, 0, none⟩) 1 1] 27)).heap.size = w2.heap.size + 2 := by rw [size_alloc', size_alloc']
  rw [hsz1] at CQ
  rw [hsz2] at HM
  have HCQ := Lib.hid CQ; have HOW := Lib.hid OW; have HHM := Lib.hid HM; have HHB := Lib.hid HB1
  clear CQ CQ0 OW OW0 HM HM0 HB1 hsz1 hsz2
  have hb2 := HB.size
  go_wp2_with (refine wpList_store _ rfl _ _ _ (Or.inr rfl) (w2.heap.size + 2) 0 [] rfl HHM.out (by unfold maxLen; omega) a rfl rfl hawf ?_; intro w3 hH hG3)
  have hb3 : w2.heap.size + 2 = w2.heap.size + 1 + 1 := rfl
  rw [hb3] at hH hG3
  obtain ⟨gM, hgM⟩ : ∃ g, w2.heap.size + 1 + 1 = g := ⟨_, rfl⟩
  rw [hgM] at hH hG3 ⊢
  have CW := came_grown HCQ.out hG3 (fun k hk => by injection hk with hk; omega)
  have WA : WayAt l w.heap.size w3 (w2.heap.size + 1) gM (.slice (some ⟨w2.heap.size, 0, none⟩) 1 1) ([], i) :=
    ⟨w2.heap.size, 1, rfl, by have := own_grownN HOW.out hG3 (fun k hk => by injection hk with hk; omega); simpa [HIA.out] using this, by omega, by omega⟩
  have QS := Qs.one WA
  have HB3 := bl_grown HHB.out hG3 (fun k hk => by injection hk with hk; omega)
  have HM3 : Holds w3 gM ([i] : List Nat).length (([i] : List Nat).map (idOf l)) := by simpa [HIA.out] using hH
  have hgB : w.heap.size ≤ gM := by omega
  have hbB : w.heap.size ≤ w2.heap.size + 1 := by omega
  have hbg : w2.heap.size + 1 ≠ gM := by omega
  have ST := Lib.hid (State.start (S := S) hil)
  clear hH hG3 HCQ HOW HHM HHB WA hmk HB hb2 hb3 hgM
  generalize w2.heap.size + 1 = bq at *
  go_loopg [12] (l.length) (fun gk ws wr => ∃ (Q : List Bfs.Way) (D : List Nat) (b off cap : Nat) (vs : List Value), ws = .slice (some ⟨b, off, none⟩) Q.length cap ∧ Hid (State l S i Q D) ∧ gk = (l.length - D.length) + Q.length ∧ gk ≤ l.length ∧ Came wr 1 (some ⟨b, off, none⟩) b off Q.length cap vs ∧ Qs l w.heap.size wr b gM Q vs ∧ Holds wr gM D.length (D.map (idOf l)) ∧ w.heap.size ≤ b ∧ b ≠ gM ∧ Below w.heap.size w wr)
  case atStart => exact ⟨[([], i)], [i], bq, 0, 1, _, rfl, ST, by simp; omega, Nat.le_refl _, CW, QS, HM3, hbB, hbg, HB3⟩
  case round =>
    clear CW QS HM3 hbB hbg HB3 ST
    obtain ⟨Q, D, b1, off, cp, vs, rfl, HST, hgk, hgl, CW, QS, HM, hbB, hbg, HB⟩ := hrel
    cases Q with
    | nil =>
      have hS := State.empty HST.out
      have HV := Lib.hid (show L = [] ∧ qq = false by
        rcases HEND.out with ⟨_, h⟩ | ⟨d, h1, _⟩
        · exact h
        · omega)
      clear hS
      go_wp2
      go_ret2
      exact nb_mk HV.out.1 HV.out.2 rfl (IClone.empty_own HB) (al HB)
    | cons r Q =>
      obtain ⟨q, v⟩ := r
      obtain ⟨v0, vs', rfl, hway, hQ⟩ := QS.head
      obtain ⟨g, c0, rfl, hown, hgb, hgm⟩ := hway
      have hhd := (came_head CW).2
      obtain ⟨off', hoff, CW'⟩ := came_rest CW
      obtain ⟨W0, hW0⟩ : ∃ W0 : List Int, (q ++ [v]).map (idOf l) = W0 := ⟨_, rfl⟩
      have hlen : q.length + 1 = W0.length := by rw [← hW0]; simp
      dsimp only at hown hhd
      rw [hW0, hlen] at hown
      rw [hlen] at hhd
      have hla : W0[W0.length - 1]? = some (idOf l v) := by rw [← hW0]; simp
      have hlc : wr.cell? ⟨g, W0.length - 1, none⟩ = some (.int .i64 (idOf l v)) := by
        rw [hown.cellAt _ (by omega)]
        unfold iv
        rw [List.getElem?_map, hla]; rfl
      have HOFF := Lib.hid hoff; clear hoff
      have hcple := CW.le
      have hvb := (HST.out.1.way (q, v) (List.mem_cons_self ..)).1
      have hp1 : 1 ≤ W0.length := by omega
      have hw1 : IntKind.i64.wrap ((W0.length : Int) - 1) = ((W0.length - 1 : Nat) : Int) := by
        rw [Int.natCast_sub hp1]; exact IntWalk.i64_in _ (by have := HST.out.1.le; have := (HST.out.1.way (q, v) (List.mem_cons_self ..)).2; dsimp only at this; omega)
      have HW0 := Lib.hid hW0; have HLEN := Lib.hid hlen; have HHQ := Lib.hid hQ; have HQS := Lib.hid QS
      clear hW0 hlen hQ QS hla
      go_upto_region 10 with fail
      rw [HOFF.out]
      by_cases hvk : v = k
      · subst hvk
        have heq : (idOf l v == b) = true := by rw [HKB.out]; simp
        have HV := Lib.hid (show L = W0 ∧ qq = true by
          obtain ⟨d, hd, hgr⟩ := HST.out.done HK.out
          rcases HEND.out with ⟨h, _⟩ | ⟨d2, h1, h2, h3⟩
          · omega
          · have : d2 = d := by omega
            subst this
            exact ⟨by rw [h2, ← hgr, HW0.out], h3⟩)
        clear hhd
        go_wp2
        go_ret2
        exact nb_mk HV.out.1 HV.out.2 rfl hown HB
      · have heq : (idOf l v == b) = false := by
          rw [beq_eq_false_iff_ne]
          intro e
          exact hvk (id_inj HG.out hvb hkl (by rw [e, HKB.out]))
        have HVK := Lib.hid hvk; clear hvk
        have hb1lt := CW.lt (by have := CW.le; simp at this; omega)
        have hgMlt := holds_lt HM
        have hglt := own_lt hown
        go_wp2_with fail
        clear hhd hlc heq
        refine (nb_impl P cap l (idOf l v) wr ((HR.out.below HB (Nat.le_refl _)).mono HB.size) hcap hn).mono ?_
        rintro e v1 ⟨A, c, rfl, ON, hv⟩
        have hNge := own_ge ON
        replace ON := own_base ON HB.size
        replace CW' := came_keep CW' hv
        have hQ := Lib.hid (HHQ.out.keep hv); clear HHQ HQS
        replace HM := HM.keep hv
        replace hown := own_keep hown hv
        replace HB := be HB hv
        have hND := Lib.hid (show ∀ j, (Value.slice A (nbs l (idOf l v)).length c).ownBlock = some j → j ≠ b1 ∧ j ≠ gM from fun j hj => by have := hNge j hj; omega)
        have hb1v : b1 < v1.heap.size := by have := hv.size; omega
        have hNB := nbs_id HG.out hvb
        obtain ⟨N0, hN0⟩ : ∃ N0, nbs l (idOf l v) = N0 := ⟨_, rfl⟩
        rw [hN0] at ON hND hNB ⊢
        have hNlen : N0.length = (nbP l v).length := by rw [hNB]; simp
        have HNB := Lib.hid hNB; have HNL := Lib.hid hNlen
        clear hNB hNlen hN0 hNge hv hb1lt hgMlt hglt CW
        clear HOFF hcple hp1
        have hQ2 := hQ.out; clear hQ
        go_wp2
        go_loopw [12, 71] (fun ws idx wr => ∃ (t : Nat) (Kk : List Nat) (b2 off2 cp2 : Nat) (vs2 : List Value), t ≤ (nbP l v).length ∧ idx = .int .i64 t ∧ Hid (((nbP l v).take t).filter (fun u => decide (u ∉ D)) = Kk) ∧ Kk.length ≤ t ∧ ws = .slice (some ⟨b2, off2, none⟩) (Q.length + Kk.length) cp2 ∧ Came wr 1 (some ⟨b2, off2, none⟩) b2 off2 (Q.length + Kk.length) cp2 vs2 ∧ Qs l w.heap.size wr b2 gM (Q ++ Kk.map fun u => (q ++ [v], u)) vs2 ∧ Holds wr gM (D.length + Kk.length) ((D ++ Kk).map (idOf l)) ∧ wr.ownsRow w.heap.size 3 1 (.slice (some ⟨g, 0, none⟩) W0.length c0) W0.length (iv W0) ∧ g ≠ b2 ∧ wr.ownsRow w.heap.size 3 1 (.slice A N0.length c) N0.length (iv N0) ∧ Hid (∀ j, (Value.slice A N0.length c).ownBlock = some j → j ≠ b2 ∧ j ≠ gM) ∧ w.heap.size ≤ b2 ∧ b2 ≠ gM ∧ b2 < wr.heap.size ∧ Below w.heap.size w wr) (fun _ idx _ => (nbP l v).length - (intOf idx).toNat)
        case atStart => exact ⟨0, [], b1, off', cp - 1, vs', Nat.zero_le _, rfl, Lib.hid rfl, Nat.le_refl _, rfl, CW', by simpa using hQ2, by simpa using HM, hown, hgb, ON, hND, hbB, hbg, hb1v, HB⟩
        case round =>
          clear CW' hQ2 HM hown hgb ON hND hbB hbg HB
          obtain ⟨t, Kk, b2, off2, cp2, vs2, ht, rfl, HKK, hKt, rfl, CW, QS, HM, hown, hgb, ON, HND, hbB, hbg, hb2l, HB⟩ := hrel
          by_cases hlt : t < (nbP l v).length
          · obtain ⟨u, hu⟩ : ∃ u, (nbP l v)[t] = u := ⟨_, rfl⟩
            have hul : u < l.length := by rw [← hu]; exact nbP_lt (List.getElem_mem hlt)
            have hNt : t < N0.length := by rw [HNL.out]; exact hlt
            obtain ⟨gN, rfl⟩ := own_at ON (by omega)
            have hcN : wr.cell? ⟨gN, t, none⟩ = some (.int .i64 (idOf l u)) := by
              rw [ON.cellAt t (by omega)]
              unfold iv
              rw [HNB.out, List.map_map, List.getElem?_map, List.getElem?_eq_getElem hlt, hu]; rfl
            have hwfu := id_wf HG.out hul
            have hDlt : ∀ x ∈ D ++ Kk, x < l.length := fun x hx => by
              rcases List.mem_append.1 hx with h | h
              · exact HST.out.1.lt x h
              · rw [← HKK.out] at h
                exact nbP_lt (List.mem_of_mem_take (List.mem_filter.1 h).1)
            have hmem : idOf l u ∈ (D ++ Kk).map (idOf l) ↔ u ∈ D := by
              rw [id_mem HG.out hDlt hul, ← HKK.out, ← hu]
              exact seen_now (nbP_nd l v) hlt
            have hKl : Kk.length ≤ t := hKt
            have hnbl : (nbP l v).length ≤ l.length := by unfold nbP; have := List.length_filter_le (fun u => ad l v u) (List.range l.length); simpa using this
            have hDl := HST.out.1.le
            have HLT := Lib.hid hlt
            by_cases hin : u ∈ D
            · have HT := Lib.hid (show decide (idOf l u ∈ (D ++ Kk).map (idOf l)) = true from decide_eq_true (hmem.2 hin))
              have HN := Lib.hid ((kid_no hlt (by rw [hu]; exact hin)).trans HKK.out)
              clear hmem hin hDlt hu
              go_wp2_with (refine wpList_look _ rfl _ _ rfl gM _ _ rfl HM (idOf l u) rfl hwfu ?_; rw [HT.out])
              go_roundw
              case rel => exact ⟨t + 1, Kk, b2, off2, cp2, vs2, HLT.out, by go_num, HN, by omega, rfl, CW, QS, HM, hown, hgb, ON, HND, hbB, hbg, hb2l, HB⟩
              case measure => have := HLT.out; simp [intOf]; omega
            · have HT := Lib.hid (show decide (idOf l u ∈ (D ++ Kk).map (idOf l)) = false from decide_eq_false (fun h => hin (hmem.1 h)))
              have HN := Lib.hid ((kid_yes hlt (by rw [hu]; exact hin)).trans (by rw [HKK.out, hu]))
              have HU := Lib.hid hu
              clear hmem hin hDlt hu
              have hbn : D.length + Kk.length < maxLen := by unfold maxLen; omega
              go_wp2_with first | (refine wpList_look _ rfl _ _ rfl gM _ _ rfl HM (idOf l u) rfl hwfu ?_; rw [HT.out]) | (refine wpList_store _ rfl _ _ _ (Or.inl rfl) gM _ _ rfl HM hbn (idOf l u) rfl rfl hwfu ?_; intro w4 hH4 hG4)
              have CW4 := came_grown CW hG4 (fun k hk => by injection hk with hk; omega)
              have QS4 := QS.grown hG4 (Or.inr rfl)
              have hown4 := own_grownN hown hG4 (fun k hk => by injection hk with hk; omega)
              have hgN := HND.out gN rfl
              have ON4 := own_grownN ON hG4 (fun k hk => by injection hk with hk; omega)
              have HB4 := bl_grown HB hG4 (fun k hk => by injection hk with hk; omega)
              have hb2l4 : b2 < w4.heap.size := Nat.lt_of_lt_of_le hb2l hG4.size
              have hgMl4 := holds_lt hH4
              have hgl4 := own_lt hown4
              have hgNl4 := own_lt ON4
              clear CW QS hown ON HB HM hG4 hcN hb2l hbn hwfu
              have hW0 : W0.length ≤ 1048576 := by
                have h1 := (HST.out.1.way (q, v) (List.mem_cons_self ..)).2
                have h2 := HLEN.out
                dsimp only at h1
                omega
              have hQb : Q.length ≤ l.length := by simp at hgk; omega
              refine (IClone.clone_any (some ⟨g, 0, none⟩) c0 W0 w4 (Rd.of_own hown4) hW0).mono ?_
              rintro e w5 ⟨A5, c5, rfl, O5, hv5⟩
              have hm1 : W0.length + 1 ≤ maxLen := by unfold maxLen; omega
              have hm2 : (W0.length + 1) * 8 ≤ 140737488355328 := by omega
              have hm3 : Q.length + Kk.length + 1 ≤ maxLen := by unfold maxLen; omega
              have hm4 : (Q.length + Kk.length + 1) * 24 ≤ 140737488355328 := by omega
              have hs5 := hv5.size
              go_wp2_with first | (have := CWA; at_builtin; go_must (refine wpList_append_came _ rfl _ _ 47 rfl 27 j0 _ 24 Try.underlying47 hj hjz HJ1.out HJ.out rfl b2 off2 (Q.length + Kk.length) cp2 vs2 rfl CWA ⟨w9.heap.size, 0, none⟩ 1 (.slice (some ⟨g6, 0, none⟩) (W0.length + 1) c6) rfl (cell_one_new _ _ _) (one_cell rfl) hm3 hm4 ?_; intro b3 off3 cp3 w10 CW10 hG10 hb10)) | (at_builtin; go_must (refine wpList_append_own _ rfl _ _ 27 rfl w4.heap.size 3 i0 _ 1 8 Try.underlying27 hi hz0 HI1.out HI.out rfl (by decide) _ W0.length _ rfl (O5.alloc _) ⟨w5.heap.size, 0, none⟩ 1 1 [.int .i64 (idOf l u)] rfl rfl (cell_one_new _ _ _) (one_cell rfl) hm1 hm2 (by rw [size_alloc']; omega) ?_; intro v' w9 hown1 hgrow _; obtain ⟨A6, c6, rfl⟩ := own_form hown1; obtain ⟨g6, rfl⟩ := own_at hown1 (by omega); have HBB := bl_grown (al hv5 (o := .cells #[.int .i64 (idOf l u)] 3)) hgrow (own_ge O5); have CWA := came_keep CW4 (al HBB (o := .cells #[.slice (some ⟨g6, 0, none⟩) (W0.length + 1) c6] 27))))
              have HWA := al HBB (o := .cells #[.slice (some ⟨g6, 0, none⟩) (W0.length + 1) c6] 27)
              have hg6 := own_ge hown1 g6 rfl
              have hg6l := own_lt hown1
              have OW6 := own_base (own_keep hown1 (al (Below.refl _ _) (o := .cells #[.slice (some ⟨g6, 0, none⟩) (W0.length + 1) c6] 27))) (base' := w.heap.size) (by have := HB4.size; omega)
              have hszA : (w9.alloc (.cells #[.slice (some ⟨g6, 0, none⟩) (W0.length + 1) c6] 27)).heap.size = w9.heap.size + 1 := size_alloc' _ _
              have hszB := HBB.size
              clear hgrow CWA this O5 hv5 hs5 hown1
              generalize w9.alloc (.cells #[.slice (some ⟨g6, 0, none⟩) (W0.length + 1) c6] 27) = wA at HWA hG10 hb10 OW6 hszA
              have hlen6 : (q ++ [v]).length + 1 = W0.length + 1 := by have := HLEN.out; simp; omega
              have NW : WayAt l w.heap.size wA b2 gM (.slice (some ⟨g6, 0, none⟩) (W0.length + 1) c6) (q ++ [v], u) := by
                refine ⟨g6, c6, ?_, ?_, by omega, by omega⟩
                · dsimp only; rw [hlen6]
                · dsimp only
                  rw [hlen6]
                  have e : iv W0 ++ [Value.int .i64 (idOf l u)] = iv (((q ++ [v]) ++ [u]).map (idOf l)) := by rw [List.map_append, HW0.out]; simp [iv]
                  rw [← e]; exact OW6
              have QS10 := Qs.moved (u := w10) (Qs.snoc (QS4.keep HWA) NW) hG10 hb10
              have eq1 : Q ++ List.map (fun u => (q ++ [v], u)) Kk ++ [(q ++ [v], u)] = Q ++ List.map (fun u => (q ++ [v], u)) (Kk ++ [u]) := by simp
              rw [eq1] at QS10
              have hown10 := own_grownN (own_keep hown4 HWA) hG10 (fun k hk => by injection hk with hk; omega)
              have ON10 := own_grownN (own_keep ON4 HWA) hG10 (fun k hk => by injection hk with hk; omega)
              have HM10 := (hH4.keep HWA).grown hG10 (fun h => by injection h with h; omega)
              have HB10 := bl_grown (be HB4 HWA) hG10 (fun k hk => by injection hk with hk; omega)
              have hb3l := CW10.lt (by have := CW10.le; omega)
              have hl1 : (Kk ++ [u]).length = Kk.length + 1 := by simp
              have hM1 : (D ++ Kk).map (idOf l) ++ [idOf l u] = (D ++ (Kk ++ [u])).map (idOf l) := by simp
              rw [hM1] at HM10
              clear eq1 hM1 QS4 NW hown4 ON4 hH4 HWA hG10 OW6 HB4
              refine ⟨⟨t + 1, Kk ++ [u], b3, off3, cp3, _, HLT.out, by go_num, HN, by omega, by rw [hl1] <;> rfl, by rw [hl1]; exact CW10, QS10, by rw [hl1]; exact HM10, hown10, by omega, ON10, Lib.hid (fun j hj => by have := row_at hj; omega), by omega, by omega, hb3l, HB10⟩, ?_⟩
              have := HLT.out
              simp [intOf]; omega
          · obtain rfl : t = (nbP l v).length := by omega
            have hKe : Kk = kids l.length (ad l) D v := by rw [kids_places, ← HKK.out, List.take_of_length_le (Nat.le_refl _)]
            have hST2 := State.step HK.out hil HST.out HVK.out
            have hless := Bfs.less (adj := ad l) HST.out.1
            rw [← hKe] at hST2 hless
            have HS2 := Lib.hid hST2
            have HLS := Lib.hid hless
            clear hST2 hless hKe
            have hNe : ¬ (nbP l v).length < N0.length := by rw [HNL.out]; omega
            have hNe2 : decide (((nbP l v).length : Int) < (N0.length : Int)) = false := decide_eq_false (by omega)
            go_wp2
            go_roundg ((l.length - (D ++ Kk).length) + (Q ++ Kk.map fun u => (q ++ [v], u)).length)
            case measure => have := HLS.out; omega
            case rel => exact ⟨Q ++ Kk.map (fun u => (q ++ [v], u)), D ++ Kk, b2, off2, cp2, vs2, by simp, HS2, rfl, by have := HLS.out; omega, by simpa using CW, QS, by simpa using HM, hbB, hbg, HB⟩
end Go.Proofs.Ytncdkfkihfhcgaa.ImplChain
