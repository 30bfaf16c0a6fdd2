/- Workers: the program's small functions: findWorker, presentOf, canWork, rakedBy, sumOf; slices.IndexFunc and ContainsFunc over workers. -/
import Derived.Test.YtdikekecbapcaaaWorkG
import Derived.Test.YtdikekecbapcaaaSInt
import Derived.Lib.SliceRun
namespace Go.Proofs.Ytdikekecbapcaaa.WorkI
open Go.RowKit Go.Proofs.Ytdikekecbapcaaa.Mem Go.Proofs.Ytdikekecbapcaaa.Base Go.Proofs.Ytdikekecbapcaaa.SWorker Go.Proofs.Ytdikekecbapcaaa.SInt Go.Proofs.Ytdikekecbapcaaa.Regn Go.Proofs.Ytdikekecbapcaaa.Boxes Go.Proofs.Ytdikekecbapcaaa.Keep Go.Proofs.Ytdikekecbapcaaa.Work Go.Proofs.Ytdikekecbapcaaa.Work2 Go.Proofs.Ytdikekecbapcaaa.WorkS Go.Proofs.Ytdikekecbapcaaa.WorkG
set_option linter.unusedVariables false
set_option maxRecDepth 100000
def findV (l : List R) (id : Int) : Value := if 0 ≤ find l id then .tuple #[.int .i64 (find l id), .bool true] else .tuple #[.int .i64 0, .bool false]
theorem findV_no {l : List R} {id : Int} (h : find l id = -1) : findV l id = .tuple #[.int .i64 0, .bool false] := by unfold findV; rw [h]; rfl
theorem findV_yes {l : List R} {id : Int} {k : Nat} (h : find l id = k) : findV l id = .tuple #[.int .i64 k, .bool true] := by unfold findV; rw [h, if_pos (by omega)]
set_option maxHeartbeats 1000000 in
theorem find_impl (P : Option Addr) (cap : Nat) (l : List R) (id : Int) (w : World) (hr : Rd w w.heap.size P (flat l)) (hn : l.length ≤ 1048576) :
    Calls Try.prog 72 #[.slice P l.length cap, .int .i64 id] w (RPost (findV l id) w) := by
  have HR := Lib.hid hr; clear hr
  go_enter Try.func72, Try.ntmps72
  go_wp2_with fail
  refine (are_impl P cap l w HR.out hn).mono ?_
  rintro e w1 ⟨rfl, HB⟩
  cases hg : good l
  · have HV := Lib.hid (findV_no (find_bad (id := id) hg))
    go_wp2
    go_ret2
    exact rpost (by rw [HV.out] <;> rfl) HB
  have HG := Lib.hid hg; clear hg
  go_wp2
  go_loopw [13] (fun i wr => ∃ k : Nat, k ≤ l.length ∧ i = .int .i64 k ∧ Hid (Not l id k) ∧ Below w.heap.size w wr) (fun i _ => l.length - (intOf i).toNat)
  case atStart => exact ⟨0, Nat.zero_le _, rfl, Lib.hid (fun j _ hj => by omega), HB⟩
  case round =>
    clear HB
    obtain ⟨k, hk, rfl, HN, HB⟩ := hrel
    by_cases hlt : k < l.length
    · obtain ⟨b, o, rfl, hb, hc⟩ := HR.out.at (k := k * 5) (by rw [flat_n]; omega)
      obtain ⟨x, hx⟩ : ∃ x, l[k] = x := ⟨_, rfl⟩
      obtain ⟨h0, h1, h2, h3, h4⟩ := cells5 HB hb hc hlt hx
      have HL := Lib.hid hlt
      clear hc
      cases he : (x.f0 == id)
      · have HN1 := Lib.hid (HN.out.next hlt (by rw [hx]; exact beq_eq_false_iff_ne.1 he)); clear hx
        go_wp2
        go_roundw
        case rel => exact ⟨k + 1, HL.out, by go_num, HN1, al HB⟩
        case measure => have := HL.out; simp [intOf]; omega
      · have HF := Lib.hid (findV_yes (find_at HG.out hlt HN.out (by rw [hx]; exact eq_of_beq he))); clear hx
        go_wp2
        go_ret2
        exact rpost (by rw [HF.out] <;> rfl) (al HB)
    · have HF := Lib.hid (findV_no (find_none (l := l) (id := id) (fun j hj _ => HN.out j hj (by omega))))
      go_wp2
      go_ret2
      exact rpost (by rw [HF.out] <;> rfl) HB
/-- a row of workers in memory of its own. -/
def RowPost (M : List R) (w : World) (e : Ending) (w' : World) : Prop :=
  ∃ A c, e = .returned (.slice A M.length c) ∧ w'.ownsRow w.heap.size 50 5 (.slice A M.length c) M.length (flat M) ∧ Below w.heap.size w w'
theorem row_mk {M : List R} {w w' : World} {A : Option Addr} {c : Nat} {v : Value} (h : v = .slice A M.length c)
    (ho : w'.ownsRow w.heap.size 50 5 (.slice A M.length c) M.length (flat M)) (hB : Below w.heap.size w w') : RowPost M w (.returned v) w' := ⟨A, c, by rw [h], ho, hB⟩
theorem empty_own {w u : World} (hb : Below w.heap.size w u) : (u.alloc (.cells #[] 50)).ownsRow w.heap.size 50 5 (.slice (some ⟨u.heap.size, 0, none⟩) 0 0) 0 (flat []) := by
  have := World.ownsRow_lit u #[] 0 (e := 50) (size := 5) (base := w.heap.size) hb.size (by unfold maxLen; omega) rfl
  simpa [flat] using this
theorem flat_app (p : List R) (x : R) : flat p ++ x.cells = flat (p ++ [x]) := by simp [flat]
theorem cells_one (x : R) : ∀ u ∈ x.cells, u.oneCell' = true := by
  intro u hu
  simp [R.cells] at hu
  rcases hu with rfl | rfl | rfl | rfl | rfl <;> rfl
theorem new_cells (u : World) (x : R) (T : TypeId) : ∀ j v, x.cells[j]? = some v → (u.alloc (.cells #[.int .i64 x.f0, .int .i64 x.f1, .int .i64 x.f2, .bool x.f3, .int .i64 x.f4] T)).cell? (Addr.add ⟨u.heap.size, 0, none⟩ j) = some v := by
  intro j v hv
  have hB := Box.new (w := u) (Below.refl _ u) x.cells T (g := u.heap.size) rfl
  have h1 := hB.cells j v hv
  have e : (Addr.add ⟨u.heap.size, 0, none⟩ j) = ⟨u.heap.size, j, none⟩ := by unfold Addr.add; split
                                                                              · rename_i h; subst h; rfl
                                                                              · simp
  rw [e]; exact h1
set_option maxHeartbeats 1600000 in
theorem pres_impl (P : Option Addr) (cap : Nat) (l : List R) (g d : Int) (w : World) (hr : Rd w w.heap.size P (flat l)) (hl12 : l.length ≤ 12) :
    Calls Try.prog 68 #[.slice P l.length cap, .int .i64 g, .int .i64 d] w (RowPost (pres l g d) w) := by
  obtain ⟨i0, hi, hz0, hz1, hz2⟩ := info_parts info_T
  have HI := Lib.hid hz2; clear hz2
  have HI1 := Lib.hid hz1; clear hz1
  have HR := Lib.hid hr; clear hr
  have O := empty_own (Below.refl w.heap.size w)
  go_enter Try.func68, Try.ntmps68
  go_wp2
  go_loopw [7, 13] (fun v i wr => ∃ (k : Nat) (p : List R) (A : Option Addr) (c : Nat), k ≤ l.length ∧ p.length ≤ k ∧ i = .int .i64 k ∧ v = .slice A p.length c ∧ Hid ((l.take k).filter (here g d) = p) ∧ wr.ownsRow w.heap.size 50 5 (.slice A p.length c) p.length (flat p) ∧ Below w.heap.size w wr) (fun _ i _ => l.length - (intOf i).toNat)
  case atStart => exact ⟨0, [], _, _, Nat.zero_le _, Nat.le_refl _, rfl, rfl, Lib.hid rfl, O, al (Below.refl _ _)⟩
  case round =>
    clear O
    obtain ⟨k, p, A, c, hk, hpk, rfl, rfl, HP, O, HB⟩ := hrel
    by_cases hlt : k < l.length
    · obtain ⟨b, o, rfl, hb, hc⟩ := HR.out.at (k := k * 5) (by rw [flat_n]; omega)
      obtain ⟨x, hx⟩ : ∃ x, l[k] = x := ⟨_, rfl⟩
      obtain ⟨h0, h1, h2, h3, h4⟩ := cells5 HB hb hc hlt hx
      have HX := Lib.hid hx; clear hx hc
      have HL := Lib.hid hlt
      have HT := Lib.hid (show here g d x = (x.f1 == g && x.f4 != d) from rfl)
      have hm1 : p.length + 1 ≤ maxLen := by unfold maxLen; omega
      have hm2 : (p.length + 1) * 40 ≤ 140737488355328 := by omega
      cases c1 : (x.f1 == g)
      · have HN := Lib.hid ((filter_skip (q := here g d) HL.out HX.out (by rw [HT.out, c1] <;> rfl)).trans HP.out)
        replace O := own_keep O (al (Below.refl _ _) (o := .cells #[.int .i64 x.f0, .int .i64 x.f1, .int .i64 x.f2, .bool x.f3, .int .i64 x.f4] 50))
        go_wp2
        go_roundw
        case rel => exact ⟨k + 1, p, A, c, HL.out, by omega, by go_num, rfl, HN, O, al HB⟩
        case measure => have := HL.out; simp [intOf]; omega
      obtain rfl : x.f1 = g := eq_of_beq c1
      clear c1
      cases c2 : (x.f4 != d)
      · have HN := Lib.hid ((filter_skip (q := here x.f1 d) HL.out HX.out (by rw [HT.out, c2, Bool.and_false])).trans HP.out)
        obtain rfl : x.f4 = d := by simpa using c2
        clear c2
        replace O := own_keep O (al (Below.refl _ _) (o := .cells #[.int .i64 x.f0, .int .i64 x.f1, .int .i64 x.f2, .bool x.f3, .int .i64 x.f4] 50))
        go_wp2
        go_roundw
        case rel => exact ⟨k + 1, p, A, c, HL.out, by omega, by go_num, rfl, HN, O, al HB⟩
        case measure => have := HL.out; simp [intOf]; omega
      have HN := Lib.hid ((filter_yes (q := here x.f1 d) HL.out HX.out (by rw [HT.out, c2, beq_self_eq_true] <;> rfl)).trans (by rw [HP.out]))
      replace O := own_keep O (al (Below.refl _ _) (o := .cells #[.int .i64 x.f0, .int .i64 x.f1, .int .i64 x.f2, .bool x.f3, .int .i64 x.f4] 50))
      have HNC := new_cells (wr.alloc (.cells #[.int .i64 x.f0, .int .i64 x.f1, .int .i64 x.f2, .bool x.f3, .int .i64 x.f4] 50)) x 50
      rw [size_alloc'] at HNC
      replace HNC := Lib.hid HNC
      have HO2 := Lib.hid (own_keep O (al (Below.refl _ _) (o := .cells #[.int .i64 x.f0, .int .i64 x.f1, .int .i64 x.f2, .bool x.f3, .int .i64 x.f4] 50)))
      have HO1 := Lib.hid O; clear O
      have hs9 : w.heap.size ≤ wr.heap.size + 1 := by have := HB.size; omega
      go_wp2_with (at_builtin; go_must (refine wpList_append_own _ rfl _ _ 24 rfl w.heap.size 50 i0 _ 5 40 Try.underlying24 hi hz0 HI1.out HI.out rfl (by decide) _ p.length _ rfl HO2.out ⟨wr.heap.size + 1, 0, none⟩ 1 1 x.cells rfl rfl HNC.out (cells_one x) hm1 hm2 (by rw [size_alloc', size_alloc']; omega) ?_; intro v' w9 hown1 hgrow _))
      have hB9 := below_append (al HB) HO1.out hgrow
      obtain ⟨A1, c9, rfl⟩ := own_form hown1
      rw [flat_app] at hown1
      clear hgrow
      go_wp2
      go_roundw
      case rel => exact ⟨k + 1, p ++ [x], A1, c9, HL.out, by rw [List.length_append]; simp; omega, by go_num, by rw [List.length_append] <;> rfl, HN, by rw [List.length_append]; exact hown1, hB9⟩
      case measure => have := HL.out; simp [intOf]; omega
    · have HF := Lib.hid (show pres l g d = p by have := HP.out; rwa [List.take_of_length_le (by omega)] at this)
      go_wp2
      go_ret
      rw [HF.out]
      exact row_mk rfl O HB
end Go.Proofs.Ytdikekecbapcaaa.WorkI
