/- Workers: PutInGang, the model's. -/
import Derived.Test.YtdikekecbapcaaaWorkP
import Derived.Deep.CutBlock
import Derived.Deep.Cut
import Derived.Deep.DeepCutAuto
namespace Go.Proofs.Ytdikekecbapcaaa.WorkQ
open Go.RowKit Go.Proofs.Ytdikekecbapcaaa.Mem Go.Proofs.Ytdikekecbapcaaa.Base Go.Proofs.Ytdikekecbapcaaa.Within Go.Proofs.Ytdikekecbapcaaa.SWorker Go.Proofs.Ytdikekecbapcaaa.Regn Go.Proofs.Ytdikekecbapcaaa.Boxes Go.Proofs.Ytdikekecbapcaaa.Keep Go.Proofs.Ytdikekecbapcaaa.Work Go.Proofs.Ytdikekecbapcaaa.Work2 Go.Proofs.Ytdikekecbapcaaa.WorkS Go.Proofs.Ytdikekecbapcaaa.WorkG Go.Proofs.Ytdikekecbapcaaa.WorkR Go.Proofs.Ytdikekecbapcaaa.WorkI Go.Proofs.Ytdikekecbapcaaa.WorkK Go.Proofs.Ytdikekecbapcaaa.WClone Go.Proofs.Ytdikekecbapcaaa.WorkP
set_option linter.unusedVariables false
set_option maxRecDepth 100000
theorem own_all {w : World} {base g n c i : Nat} {xs ys : List Value} {v0 v1 v2 v3 v4 : Value} (O : w.ownsRow base 50 5 (.slice (some ⟨g, 0, none⟩) n c) n xs) (e : ((((xs.set i v0).set (i + 1) v1).set (i + 2) v2).set (i + 3) v3).set (i + 4) v4 = ys) :
    (((((w.setCell ⟨g, i, none⟩ v0).setCell ⟨g, i + 1, none⟩ v1).setCell ⟨g, i + 2, none⟩ v2).setCell ⟨g, i + 3, none⟩ v3).setCell ⟨g, i + 4, none⟩ v4).ownsRow base 50 5 (.slice (some ⟨g, 0, none⟩) n c) n ys :=
  own_put (own_put (own_put (own_put (own_put O rfl) rfl) rfl) rfl) e
theorem below_all {w W : World} {g i : Nat} {v0 v1 v2 v3 v4 : Value} (h : Below w.heap.size w W) (hg : w.heap.size ≤ g) :
    Below w.heap.size w (((((W.setCell ⟨g, i, none⟩ v0).setCell ⟨g, i + 1, none⟩ v1).setCell ⟨g, i + 2, none⟩ v2).setCell ⟨g, i + 3, none⟩ v3).setCell ⟨g, i + 4, none⟩ v4) :=
  ((((h.setCell (p := ⟨g, _, none⟩) hg _).setCell (p := ⟨g, _, none⟩) hg _).setCell (p := ⟨g, _, none⟩) hg _).setCell (p := ⟨g, _, none⟩) hg _).setCell (p := ⟨g, _, none⟩) hg _
set_option maxHeartbeats 800000 in
theorem put_spec (P : Option Addr) (cap : Nat) (l : List R) (id g : Int) (w : World) (hr : Rd w w.heap.size P (flat l)) (hn : l.length ≤ 1048576) :
    Calls Try.prog 44 #[.slice P l.length cap, .int .i64 id, .int .i64 g] w (PuPost (putL l id g) (putOk l id g) w) := by
  obtain ⟨i0, hi, hz0, hz1, hz2⟩ := info_parts info_T
  have HI := Lib.hid hz2; clear hz2
  have HI1 := Lib.hid hz1; clear hz1
  have HR := Lib.hid hr; clear hr
  go_enter Try.func44, Try.ntmps44
  go_wp2_with fail
  refine (find_spec P cap l id w HR.out hn).mono ?_
  rintro e w1 ⟨rfl, HB⟩
  have O := WClone.empty_own HB
  by_cases hf : 0 ≤ find l id
  · obtain ⟨k, hk, hlt, hid, hgood⟩ := find_ok hf
    rw [hk]
    have HK := Lib.hid hk; clear hk
    obtain ⟨b, o, rfl, hb, hcc⟩ := HR.out.at (k := k * 5) (by rw [flat_n]; omega)
    obtain ⟨x, hx⟩ : ∃ x, l[k] = x := ⟨_, rfl⟩
    obtain ⟨h0, h1, h2, h3, h4⟩ := cells5 HB hb hcc hlt hx
    have HX := Lib.hid hx; clear hx hf hid hgood
    cases hg : inB g 0 5
    · have HV := Lib.hid (put_gang (l := l) (id := id) hg)
      go_wp2_with (go_at_call 81; (with_reducible refine (in_any _ _ _ _).mono ?_); rintro e' w' ⟨rfl, rfl⟩)
      go_ret2
      exact pu_mk (put_no HV.out) HV.out rfl O (al HB)
    cases he : (x.f1 == g)
    · have HV := Lib.hid (put_yes HK.out hlt HX.out hg (beq_eq_false_iff_ne.1 he))
      have HO := Lib.hid O; clear O
      have HNW := Lib.hid (show ∀ j u, (flat l)[j]? = some u → (w1.alloc (.cells #[] 50)).cell? ((⟨b, o, none⟩ : Addr).add j) = some u from fun j u hu => by rw [cell_add, (bcell (al HB (o := .cells #[] 50))).1 _ _ hb]; exact hcc j u hu)
      go_upto_region 5 with first | (go_at_call 81; (with_reducible refine (in_any _ _ _ _).mono ?_); rintro e' w' ⟨rfl, rfl⟩) | (at_builtin; go_must (refine wpList_append_own _ rfl _ _ 24 rfl w.heap.size 50 i0 _ 5 40 Try.underlying24 hi hz0 HI1.out HI.out rfl (by decide) _ 0 _ rfl HO.out ⟨b, o, none⟩ l.length cap (flat l) rfl (flat_n l) HNW.out (flat_one l) (by unfold maxLen; omega) (by omega) (by rw [size_alloc']; have := HB.size; omega) ?_; intro v' w9 hown1 hgrow _))
      obtain ⟨A1, c1, rfl⟩ := own_form hown1
      have O : w9.ownsRow w.heap.size 50 5 (.slice A1 l.length c1) l.length (flat l) := by simpa [flat] using hown1
      obtain ⟨q, rfl⟩ := WorkP.own_some O (by omega)
      replace HB := bl_grown (al HB (o := .cells #[] 50)) hgrow (fun k hk => own_ge HO.out k hk)
      clear hgrow hown1 HNW HO h0 h1 h2 h3 h4 he hg
      obtain ⟨h0, h1, h2, h3, h4⟩ := own5 O hlt HX.out
      have hq := own_lt O
      have g0 : w9.frozen? ⟨q, k * 5, none⟩ = false := O.frozenAt _
      have g1 : w9.frozen? ⟨q, k * 5 + 1, none⟩ = false := O.frozenAt _
      have g2 : w9.frozen? ⟨q, k * 5 + 2, none⟩ = false := O.frozenAt _
      have g3 : w9.frozen? ⟨q, k * 5 + 3, none⟩ = false := O.frozenAt _
      have g4 : w9.frozen? ⟨q, k * 5 + 4, none⟩ = false := O.frozenAt _
      simp only [Nat.zero_add]
      have HQ := Lib.hid (own_ge O q rfl)
      go_wp2
      go_ret2
      refine pu_mk HV.out.2 HV.out.1 (by rw [List.length_set] <;> rfl) ?_ ?_
      · rw [List.length_set]
        exact own_keep (own_all O (flat_set l k (inG x g) hlt)) (al (Below.refl _ _))
      · exact al (below_all HB HQ.out)
    · obtain rfl : x.f1 = g := eq_of_beq he
      have HV := Lib.hid (put_same HK.out hlt HX.out rfl)
      clear he
      go_wp2_with (go_at_call 81; (with_reducible refine (in_any _ _ _ _).mono ?_); rintro e' w' ⟨rfl, rfl⟩)
      go_ret2
      exact pu_mk (put_no HV.out) HV.out rfl O (al HB)
  · have HV := Lib.hid (put_none (g := g) (show find l id < 0 by omega))
    have hm : find l id = -1 := by have := find_range (l := l) (id := id); omega
    rw [hm]
    clear hm hf
    go_wp2
    go_ret2
    exact pu_mk (put_no HV.out) HV.out rfl O (al HB)
end Go.Proofs.Ytdikekecbapcaaa.WorkQ
