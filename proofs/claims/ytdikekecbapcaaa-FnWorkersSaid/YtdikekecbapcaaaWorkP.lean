/- Workers: PutInGang, the program's. -/
import Derived.Test.YtdikekecbapcaaaWorkK
import Derived.Test.YtdikekecbapcaaaWClone
namespace Go.Proofs.Ytdikekecbapcaaa.WorkP
open Go.RowKit Go.Proofs.Ytdikekecbapcaaa.Mem Go.Proofs.Ytdikekecbapcaaa.Base Go.Proofs.Ytdikekecbapcaaa.Within Go.Proofs.Ytdikekecbapcaaa.SWorker Go.Proofs.Ytdikekecbapcaaa.Regn Go.Proofs.Ytdikekecbapcaaa.Boxes Go.Proofs.Ytdikekecbapcaaa.Keep Go.Proofs.Ytdikekecbapcaaa.Work Go.Proofs.Ytdikekecbapcaaa.Work2 Go.Proofs.Ytdikekecbapcaaa.WorkS Go.Proofs.Ytdikekecbapcaaa.WorkG Go.Proofs.Ytdikekecbapcaaa.WorkR Go.Proofs.Ytdikekecbapcaaa.WorkI Go.Proofs.Ytdikekecbapcaaa.WorkK Go.Proofs.Ytdikekecbapcaaa.WClone
set_option linter.unusedVariables false
set_option maxRecDepth 100000
/-- a row of workers and a truth. -/
def PuPost (M : List R) (q : Bool) (w : World) (e : Ending) (w' : World) : Prop :=
  ∃ A c, e = .returned (.tuple #[.slice A M.length c, .bool q]) ∧ w'.ownsRow w.heap.size 50 5 (.slice A M.length c) M.length (flat M) ∧ Below w.heap.size w w'
theorem pu_mk {L M : List R} {q r : Bool} {w w' : World} {A : Option Addr} {c : Nat} {v : Value} (hL : L = M) (hq : q = r) (h : v = .tuple #[.slice A M.length c, .bool r])
    (ho : w'.ownsRow w.heap.size 50 5 (.slice A M.length c) M.length (flat M)) (hB : Below w.heap.size w w') : PuPost L q w (.returned v) w' := by
  subst hL; subst hq; exact ⟨A, c, by rw [h], ho, hB⟩
theorem set_self {l : List Value} {i : Nat} {v : Value} (h : l[i]? = some v) : l.set i v = l := by
  apply List.ext_getElem?
  intro j
  rw [List.getElem?_set]
  split
  · rename_i e; subst e
    split
    · rw [h]
    · rename_i h2
      rw [List.getElem?_eq_none (by omega)] at h; cases h
  · rfl
theorem flat_gang {l : List R} {k : Nat} {x : R} (g : Int) (hk : k < l.length) (hx : l[k] = x) : (flat l).set (k * 5 + 1) (.int .i64 g) = flat (l.set k (inG x g)) := by
  have h := flat_set l k (inG x g) hk
  rw [← h]
  subst hx
  show _ = (((((flat l).set (k * 5) (.int .i64 l[k].f0)).set (k * 5 + 1) (.int .i64 g)).set (k * 5 + 2) (.int .i64 l[k].f2)).set (k * 5 + 3) (.bool l[k].f3)).set (k * 5 + 4) (.int .i64 l[k].f4)
  rw [set_self (flat_0 l k hk)]
  rw [set_self (v := .int .i64 l[k].f2) (by rw [List.getElem?_set_ne (by omega)]; exact flat_2 l k hk)]
  rw [set_self (v := .bool l[k].f3) (by rw [List.getElem?_set_ne (by omega)]; exact flat_3 l k hk)]
  rw [set_self (v := .int .i64 l[k].f4) (by rw [List.getElem?_set_ne (by omega)]; exact flat_4 l k hk)]
theorem flat_free {l : List R} {k : Nat} {x : R} (f : Int) (hk : k < l.length) (hx : l[k] = x) : (flat l).set (k * 5 + 4) (.int .i64 f) = flat (l.set k (onF x f)) := by
  have h := flat_set l k (onF x f) hk
  rw [← h]
  subst hx
  show _ = (((((flat l).set (k * 5) (.int .i64 l[k].f0)).set (k * 5 + 1) (.int .i64 l[k].f1)).set (k * 5 + 2) (.int .i64 l[k].f2)).set (k * 5 + 3) (.bool l[k].f3)).set (k * 5 + 4) (.int .i64 f)
  rw [set_self (flat_0 l k hk), set_self (flat_1 l k hk), set_self (flat_2 l k hk), set_self (flat_3 l k hk)]
theorem own_some {w : World} {base n c : Nat} {A : Option Addr} {xs : List Value} {e : TypeId} {size : Nat} (h : w.ownsRow base e size (.slice A n c) n xs) (hn : 0 < n) : ∃ g, A = some ⟨g, 0, none⟩ := by
  rcases h.2 with ⟨hv, h0⟩ | ⟨g', cap, cur, hv, _⟩
  · injection hv with h1 h2 h3; omega
  · injection hv with h1; exact ⟨g', h1⟩
theorem own5 {w : World} {base g n c k : Nat} {l : List R} {x : R} (O : w.ownsRow base 50 5 (.slice (some ⟨g, 0, none⟩) n c) n (flat l)) (hk : k < l.length) (hx : l[k] = x) :
    w.cell? ⟨g, k * 5, none⟩ = some (.int .i64 x.f0) ∧ w.cell? ⟨g, k * 5 + 1, none⟩ = some (.int .i64 x.f1) ∧ w.cell? ⟨g, k * 5 + 2, none⟩ = some (.int .i64 x.f2) ∧ w.cell? ⟨g, k * 5 + 3, none⟩ = some (.bool x.f3) ∧ w.cell? ⟨g, k * 5 + 4, none⟩ = some (.int .i64 x.f4) := by
  subst hx
  have e : n * 5 = l.length * 5 := by have := O.1; rw [flat_n] at this; omega
  refine ⟨?_, ?_, ?_, ?_, ?_⟩
  · rw [O.cellAt _ (by omega)]; exact flat_0 l k hk
  · rw [O.cellAt _ (by omega)]; exact flat_1 l k hk
  · rw [O.cellAt _ (by omega)]; exact flat_2 l k hk
  · rw [O.cellAt _ (by omega)]; exact flat_3 l k hk
  · rw [O.cellAt _ (by omega)]; exact flat_4 l k hk
theorem own_put {w : World} {base g n c i : Nat} {xs ys : List Value} {v : Value} (O : w.ownsRow base 50 5 (.slice (some ⟨g, 0, none⟩) n c) n xs) (e : xs.set i v = ys) : (w.setCell ⟨g, i, none⟩ v).ownsRow base 50 5 (.slice (some ⟨g, 0, none⟩) n c) n ys := by
  subst e
  exact (O.stored i v).1
set_option maxHeartbeats 800000 in
theorem put_impl (P : Option Addr) (cap : Nat) (l : List R) (id g : Int) (w : World) (hr : Rd w w.heap.size P (flat l)) (hc : l.length ≤ cap) (hn : l.length ≤ 1048576) :
    Calls Try.prog 37 #[.slice P l.length cap, .int .i64 id, .int .i64 g] w (PuPost (putL l id g) (putOk l id g) w) := by
  have HR := Lib.hid hr; clear hr
  go_enter Try.func37, Try.ntmps37
  go_wp2_with fail
  refine (find_impl P cap l id w HR.out hn).mono ?_
  rintro e w1 ⟨rfl, HB⟩
  have O := WClone.empty_own HB
  by_cases hf : 0 ≤ find l id
  · obtain ⟨k, hk, hlt, hid, hgood⟩ := find_ok hf
    rw [findV_yes hk]
    have HK := Lib.hid hk; clear hk
    obtain ⟨b, o, rfl, hb, hcc⟩ := HR.out.at (k := k * 5) (by rw [flat_n]; omega)
    obtain ⟨x, hx⟩ : ∃ x, l[k] = x := ⟨_, rfl⟩
    obtain ⟨h0, h1, h2, h3, h4⟩ := cells5 HB hb hcc hlt hx
    have HX := Lib.hid hx; clear hx hf hid hgood
    cases hg : inB g 0 5
    · have HV := Lib.hid (put_gang (l := l) (id := id) hg)
      go_wp2_with (go_at_call 69; (with_reducible refine (within_any _ _ _ _).mono ?_); rintro e' w' ⟨rfl, rfl⟩)
      go_ret2
      exact pu_mk (put_no HV.out) HV.out rfl O (al HB)
    cases he : (g == x.f1)
    · have HV := Lib.hid (put_yes HK.out hlt HX.out hg (by have := beq_eq_false_iff_ne.1 he; exact fun h => this h.symm))
      clear O
      go_wp2_with (go_at_call 69; (with_reducible refine (within_any _ _ _ _).mono ?_); rintro e' w' ⟨rfl, rfl⟩)
      clear h0 h1 h2 h3 h4 he hg
      refine (clone_any (some ⟨b, o, none⟩) cap l w1 ((HR.out.below HB (Nat.le_refl _)).mono HB.size) hn).mono ?_
      rintro e w2 ⟨A1, a1, rfl, O1, hv⟩
      have O2 := own_base O1 HB.size
      replace HB := be HB hv
      obtain ⟨q, rfl⟩ := own_some O2 (by omega)
      clear O1 hv
      obtain ⟨h0, h1, h2, h3, h4⟩ := own5 O2 hlt HX.out
      have g1 : w2.frozen? ⟨q, k * 5 + 1, none⟩ = false := O2.frozenAt _
      go_wp2
      go_ret2
      refine pu_mk HV.out.2 HV.out.1 (by rw [List.length_set] <;> rfl) ?_ ?_
      · rw [List.length_set]; exact own_put O2 (flat_gang g hlt HX.out)
      · exact HB.setCell (own_ge O2 q rfl) _
    · obtain rfl : g = x.f1 := eq_of_beq he
      have HV := Lib.hid (put_same HK.out hlt HX.out rfl)
      clear he
      go_wp2_with (go_at_call 69; (with_reducible refine (within_any _ _ _ _).mono ?_); rintro e' w' ⟨rfl, rfl⟩)
      go_ret2
      exact pu_mk (put_no HV.out) HV.out rfl O (al HB)
  · have HV := Lib.hid (put_none (g := g) (show find l id < 0 by omega))
    have hm : find l id = -1 := by have := find_range (l := l) (id := id); omega
    rw [findV_no hm]
    clear hm hf
    go_wp2
    go_ret2
    exact pu_mk (put_no HV.out) HV.out rfl O (al HB)
end Go.Proofs.Ytdikekecbapcaaa.WorkP
