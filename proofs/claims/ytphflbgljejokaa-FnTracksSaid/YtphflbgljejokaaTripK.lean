/- Trips: LongestQuiet. Made by tools/mk_tripk.py. -/
import Derived.Test.YtphflbgljejokaaTripO
namespace Go.Proofs.Ytphflbgljejokaa.TripK
open Go.RowKit Go.Proofs.Ytphflbgljejokaa.Mem Go.Proofs.Ytphflbgljejokaa.Base Go.Proofs.Ytphflbgljejokaa.Within Go.Proofs.Ytphflbgljejokaa.SInt Go.Proofs.Ytphflbgljejokaa.RInt Go.Proofs.Ytphflbgljejokaa.STrip Go.Proofs.Ytphflbgljejokaa.Regn Go.Proofs.Ytphflbgljejokaa.Boxes Go.Proofs.Ytphflbgljejokaa.Keep Go.Proofs.Ytphflbgljejokaa.TripP Go.Proofs.Ytphflbgljejokaa.TripS Go.Proofs.Ytphflbgljejokaa.TripG Go.Proofs.Ytphflbgljejokaa.TripC Go.Proofs.Ytphflbgljejokaa.TripJ Go.Proofs.Ytphflbgljejokaa.TripO
open Go.Proofs.Ytphflbgljejokaa.TripQ (ev ev_len ev_cell cell_kept sortI sortI_len)
set_option linter.unusedVariables false
set_option linter.unusedSimpArgs false
set_option maxRecDepth 100000
theorem srt_all {l : List R} (hg : good l = true) (h : TripU.mtF l = []) {s : Int} (hs0 : 0 ≤ s) (hs1 : s ≤ 8) : ∀ k, k ≤ l.length → ∃ q, Srt q (entL l s k) := by
  intro k
  induction k with
  | zero => intro _; exact ⟨[], Srt.nil⟩
  | succ k ih =>
    intro hk
    obtain ⟨q, hq⟩ := ih (by omega)
    by_cases he : 0 ≤ ent (l[k]'(by omega)) s
    · rw [entL_yes (by omega) rfl he]
      exact ⟨_, hq.next (plan_new hg h hs0 hs1 (by omega) rfl he)⟩
    · rw [entL_no (by omega) rfl he]
      exact ⟨q, hq⟩
theorem entL_bd {l : List R} (hg : good l = true) (s : Int) (k : Nat) : ∀ e ∈ entL l s k, 0 ≤ e ∧ e ≤ 1440 := by
  intro e he
  unfold entL at he
  obtain ⟨y, hy, rfl⟩ := List.mem_map.1 he
  obtain ⟨hy1, hy2⟩ := List.mem_filter.1 hy
  exact ⟨of_decide_eq_true hy2, (ent_bd (good_mem hg y (List.mem_of_mem_take hy1))).2⟩
theorem put_len (q : List Int) (u : Int) : (putI q u).length = q.length + 1 := by
  have h : lowI q u ≤ q.length := by unfold lowI; exact (List.takeWhile_sublist _).length_le
  unfold putI
  rw [List.length_append, List.length_cons, List.length_take, List.length_drop]; omega
theorem most_if {a b : Int} : most a b = if a < b then b else a := by unfold most; split <;> split <;> omega
set_option maxHeartbeats 1600000 in
theorem lq_impl (P : Option Addr) (cap : Nat) (l : List R) (s : Int) (w : World) (hr : Rd w w.heap.size P (flat l)) (hcp : l.length ≤ cap) (hn : l.length ≤ 1048576) :
    Calls Try.prog 46 #[.slice P l.length cap, .int .i64 s] w (RPost (lqV l s) w) := by
  have HR := Lib.hid hr; clear hr
  go_enter Try.func46, Try.ntmps46
  go_wp2_with fail
  refine (TripU.mt_impl P cap l w HR.out hcp hn).mono ?_
  rintro e w1 ⟨m, A, c, hm, rfl, TO, HB⟩
  clear TO
  have HML := Lib.hid (TripT.tp_n hm)
  clear hm
  cases hg : good l
  · have HV := Lib.hid (lqV_no (lq1 (s := s) hg))
    go_wp2
    go_ret2
    exact rpost (by rw [HV.out] <;> rfl) HB
  have HG := Lib.hid hg; clear hg
  by_cases hp : TripU.mtF l = []
  · have HP := Lib.hid hp
    have hm0 : m.length = 0 := by rw [HML.out, hp]; rfl
    obtain ⟨n, hn0⟩ : ∃ n, m.length = n := ⟨_, rfl⟩
    have hz : n = 0 := by omega
    rw [hn0]
    clear hm0 hn0 hp HML
    subst hz
    cases hs : inB s 0 8
    · have HV := Lib.hid (lqV_no (lq3 (l := l) hs))
      go_wp2_with (go_at_call 67; (with_reducible refine (within_any _ _ _ _).mono ?_); rintro e' w' ⟨rfl, rfl⟩)
      go_ret2
      exact rpost (by rw [HV.out] <;> rfl) HB
    obtain ⟨hs0, hs1⟩ := of_inB hs
    have HV := Lib.hid (lqV_yes (lq4 HG.out HP.out hs))
    have h10 := (good_all HG.out).1
    have HA := Lib.hid (good_all HG.out).2
    obtain ⟨q0, hq0⟩ := srt_all HG.out HP.out hs0 hs1 l.length (Nat.le_refl _)
    have HQ0 := Lib.hid hq0
    clear hq0
    go_wp2_with first | (go_at_call 67; (with_reducible refine (within_any _ _ _ _).mono ?_); rintro e' w' ⟨rfl, rfl⟩)
    clear hs
    refine (on_impl P cap l s HG.out w1 (rd_keep HR.out HB)).mono ?_
    rintro e w2 ⟨g, c, rfl, O, hv⟩
    replace HB := be HB hv
    clear hv
    obtain ⟨E, hE⟩ : ∃ E, sortI (entL l s l.length) = E := ⟨_, rfl⟩
    have HEN := Lib.hid (show (entL l s l.length).length = E.length by rw [← hE, sortI_len])
    have HEB := Lib.hid (show ∀ e ∈ E, 0 ≤ e ∧ e ≤ 1440 from fun e he => entL_bd HG.out s l.length e ((HQ0.out.mem e).1 (by rw [← HQ0.out.srt, hE]; exact he)))
    have hel : E.length ≤ 10 := by rw [← HEN.out]; have := entL_len l s l.length; omega
    have HVE := Lib.hid (show lqV l s = .tuple #[.int .i64 (lq E E.length), .bool true] by rw [HV.out, hE, HEN.out])
    rw [hE] at O ⊢
    clear hE HEN
    go_wp2_with fail
    go_loopw [9, 10] (fun z ki wr => ∃ (k : Nat) (q : Int), 1 ≤ k ∧ (k ≤ E.length ∨ k = 1) ∧ ki = .int .i64 k ∧ z = .int .i64 q ∧ Hid (lq E k = q) ∧ 0 ≤ q ∧ q ≤ 1440 ∧ wr.ownsRow w1.heap.size 70 3 (.slice (some ⟨g, 0, none⟩) E.length c) E.length (ev s E) ∧ Below w.heap.size w wr) (fun _ ki _ => 20 - (intOf ki).toNat)
    case atStart => exact ⟨1, 0, Nat.le_refl _, .inr rfl, rfl, rfl, Lib.hid rfl, by omega, by omega, O, HB⟩
    case round =>
      clear O HB
      obtain ⟨k, q, hk1, hk, rfl, rfl, HQ, q0, q1, O, HB⟩ := hrel
      by_cases hlt : k < E.length
      · obtain ⟨j, rfl⟩ : ∃ j, k = j + 1 := ⟨k - 1, by omega⟩
        obtain ⟨a, ha⟩ : ∃ a, E[j] = a := ⟨_, rfl⟩
        obtain ⟨b, hb⟩ : ∃ b, E[j + 1] = b := ⟨_, rfl⟩
        have ba := HEB.out a (by rw [← ha]; exact List.getElem_mem _)
        have bb := HEB.out b (by rw [← hb]; exact List.getElem_mem _)
        obtain ⟨x0, x1, x2⟩ := ev_cell O (k := j + 1) (e := b) hlt (by rw [List.getElem?_eq_getElem hlt, hb])
        obtain ⟨y0, y1, y2⟩ := ev_cell O (k := j) (e := a) (by omega) (by rw [List.getElem?_eq_getElem (by omega), ha])
        have HN := Lib.hid ((lq_next hlt ha hb).trans (by rw [HQ.out, most_if]))
        have hq2 := lq_bd HEB.out (j + 2) (by omega)
        have HQB := Lib.hid hq2
        have HL := Lib.hid hlt
        have z1 : IntKind.i64.wrap (j : Int) = j := IntWalk.i64_in _ (by omega)
        have z2 : IntKind.i64.wrap (b - (a + 4)) = b - (a + 4) := IntWalk.i64_in _ (by omega)
        have z3 : IntKind.i64.wrap ((j : Int) + 1 + 1) = (j : Int) + 1 + 1 := IntWalk.i64_in _ (by omega)
        have i1 : (j : Int) + 1 < E.length := by omega
        have i2 : (j : Int) < E.length := by omega
        have hjn2 : j < E.length := by omega
        obtain ⟨d, hd⟩ : ∃ d, b - (a + 4) = d := ⟨_, rfl⟩
        rw [hd] at z2
        have HD := Lib.hid hd
        have HN2 := Lib.hid (show lq E (j + 1 + 1) = if q < d then d else q by rw [← hd, show b - (a + 4) = b - a - 4 by omega]; exact HN.out)
        clear ha hb ba bb hq2 HN x0 x2 y0 y1
        go_wp2_with fail
        have HBD := Lib.hid (show 0 ≤ (if q < d then d else q) ∧ (if q < d then d else q) ≤ 1440 by have := HQB.out; rw [HN2.out] at this; exact this)
        refine wp_region_text (fun w' => w'.cell? ⟨g, (j + 1) * 3 + 1, none⟩ = some (.int .i64 b) ∧ w'.cell? ⟨g, j * 3 + 2, none⟩ = some (.int .i64 (a + 4)) ∧ w'.ownsRow w1.heap.size 70 3 (.slice (some ⟨g, 0, none⟩) E.length c) E.length (ev s E) ∧ Below w.heap.size w w') (by kernel_rfl) (by kernel_rfl) ⟨cell_kept x1 (Below.refl _ _).drew, cell_kept y2 (Below.refl _ _).drew, own_keep O (Below.refl _ _).drew, be HB (Below.refl _ _).drew⟩ ?_
        iterate 15 (
          apply SeqH.one
          · intro uw K hS hK
            obtain ⟨qx1, qy2, qO, qHB⟩ := hS
            first
              | (go_simp; exact hK.out _ ⟨qx1, qy2, qO, qHB⟩)
          try simp only [Act.put, List.setIfInBounds_toArray, List.set_cons_zero, List.set_cons_succ])
        refine SeqH.end' rfl ?_
        intro v1 hS
        clear x1 y2 O HB
        obtain ⟨x1, y2, O, HB⟩ := hS
        go_wp2
        go_roundw
        case rel => exact ⟨j + 1 + 1, _, by omega, .inl (by have := HL.out; omega), by go_num, rfl, HN2, HBD.out.1, HBD.out.2, O, HB⟩
        case measure => simp [intOf]; omega
      · have HF := Lib.hid (show lq E E.length = q by
          rcases hk with h | h
          · have : k = E.length := by omega
            rw [← this]; exact HQ.out
          · have h2 := HQ.out
            have : E.length = 0 ∨ E.length = 1 := by omega
            rcases this with e | e
            · rw [e]; rw [h] at h2; exact h2
            · rw [e]; rw [h] at h2; exact h2)
        go_wp2
        go_ret2
        exact rpost (by rw [HVE.out, HF.out] <;> rfl) HB
  · have HV := Lib.hid (lqV_no (lq2 (s := s) hp))
    have hm0 : 0 < m.length := by
      rw [HML.out]
      cases e : TripU.mtF l with
      | nil => exact absurd e hp
      | cons a b => simp
    have e1 : decide ((0 : Int) < (m.length : Int)) = true := decide_eq_true (by omega)
    clear HML hp
    go_wp2
    go_ret2
    exact rpost (by rw [HV.out] <;> rfl) HB
set_option maxHeartbeats 1600000 in
theorem lq_spec (P : Option Addr) (cap : Nat) (l : List R) (s : Int) (w : World) (hr : Rd w w.heap.size P (flat l)) (hn : l.length ≤ 1048576) :
    Calls Try.prog 47 #[.slice P l.length cap, .int .i64 s] w (RPost (lqV l s) w) := by
  have HR := Lib.hid hr; clear hr
  go_enter Try.func47, Try.ntmps47
  go_wp2_with fail
  refine (TripU.mt_spec P cap l w HR.out hn).mono ?_
  rintro e w1 ⟨m, A, c, hm, rfl, TO, HB⟩
  clear TO
  have HML := Lib.hid (TripT.tp_n hm)
  clear hm
  cases hg : good l
  · have HV := Lib.hid (lqV_no (lq1 (s := s) hg))
    go_wp2
    go_ret2
    exact rpost (by rw [HV.out] <;> rfl) HB
  have HG := Lib.hid hg; clear hg
  by_cases hp : TripU.mtF l = []
  · have HP := Lib.hid hp
    have hm0 : m.length = 0 := by rw [HML.out, hp]; rfl
    obtain ⟨n, hn0⟩ : ∃ n, m.length = n := ⟨_, rfl⟩
    have hz : n = 0 := by omega
    rw [hn0]
    clear hm0 hn0 hp HML
    subst hz
    cases hs : inB s 0 8
    · have HV := Lib.hid (lqV_no (lq3 (l := l) hs))
      go_wp2_with (go_at_call 85; (with_reducible refine (in_any _ _ _ _).mono ?_); rintro e' w' ⟨rfl, rfl⟩)
      go_ret2
      exact rpost (by rw [HV.out] <;> rfl) HB
    obtain ⟨hs0, hs1⟩ := of_inB hs
    have HV := Lib.hid (lqV_yes (lq4 HG.out HP.out hs))
    have h10 := (good_all HG.out).1
    have HA := Lib.hid (good_all HG.out).2
    obtain ⟨q0, hq0⟩ := srt_all HG.out HP.out hs0 hs1 l.length (Nat.le_refl _)
    have HQ0 := Lib.hid hq0
    clear hq0
    go_wp2_with first | (go_at_call 85; (with_reducible refine (in_any _ _ _ _).mono ?_); rintro e' w' ⟨rfl, rfl⟩)
    clear hs
    have O0 : (w1.alloc (.cells #[] 3)).ownsRow w.heap.size 3 1 (.slice (some ⟨w1.heap.size, 0, none⟩) 0 0) 0 (iv []) := empty_own HB
    go_loopw [8, 9] (fun z ki wr => ∃ (k : Nat) (q : List Int) (g c : Nat), k ≤ l.length ∧ ki = .int .i64 k ∧ z = .slice (some ⟨g, 0, none⟩) q.length c ∧ Hid (Srt q (entL l s k)) ∧ wr.ownsRow w.heap.size 3 1 (.slice (some ⟨g, 0, none⟩) q.length c) q.length (iv q) ∧ Below w.heap.size w wr) (fun _ ki _ => l.length - (intOf ki).toNat)
    case atStart => exact ⟨0, [], _, _, Nat.zero_le _, rfl, rfl, Lib.hid Srt.nil, O0, al HB⟩
    case round =>
      clear O0 HB
      obtain ⟨k, q, g, c, hk, rfl, rfl, HS, O, HB⟩ := hrel
      have hqn : q.length = (entL l s k).length := by rw [← HS.out.srt, sortI_len]
      have HQL := Lib.hid (show q.length ≤ 10 by rw [hqn]; have := entL_len l s k; omega)
      clear hqn
      by_cases hlt : k < l.length
      · obtain ⟨b, o, rfl, hb, hc⟩ := HR.out.at (k := k * 5) (by rw [flat_n]; omega)
        obtain ⟨x, hx⟩ : ∃ x, l[k] = x := ⟨_, rfl⟩
        obtain ⟨h0, h1, h2, h3, h4⟩ := cells5 HB hb hc hlt hx
        have HOX := Lib.hid (show okT x = true by rw [← hx]; exact HA.out k hlt)
        have HX := Lib.hid hx
        have HL := Lib.hid hlt
        clear hx hc
        go_wp2_with fail
        refine (ent_spec x s HOX.out hs0 (by omega) _).mono ?_
        rintro e v1 ⟨rfl, hv⟩
        replace O := own_keep O hv
        replace HB := be HB hv
        clear hv h0 h1 h2 h3 h4
        obtain ⟨u, hu⟩ : ∃ u, ent x s = u := ⟨_, rfl⟩
        have HU := Lib.hid hu
        rw [hu]
        clear hu
        by_cases hq : 0 ≤ u
        · have e1 : decide (0 ≤ u) = true := decide_eq_true hq
          have HNI := Lib.hid (show u ∉ entL l s k by rw [← HU.out]; exact plan_new HG.out HP.out hs0 hs1 HL.out HX.out (by rw [HU.out]; exact hq))
          have HEN := Lib.hid (show entL l s (k + 1) = entL l s k ++ [u] by rw [entL_yes HL.out HX.out (by rw [HU.out]; exact hq), HU.out])
          have HNQ := Lib.hid (show u ∉ q from fun e => HNI.out ((HS.out.mem u).1 e))
          have hcp9 := own_cap O
          go_wp2_with fail
          refine (put_spec g 0 c q u HNQ.out v1 (Rd.of_own O) (by have := HQL.out; omega) hcp9).mono ?_
          rintro e v2 ⟨A2, c2, rfl, O2, hv2⟩
          have O3 := own_base O2 HB.size
          replace HB := be HB hv2
          have hpl : (putI q u).length = q.length + 1 := by
            have h8 := put_len q u
            exact h8
          obtain ⟨g2, cap2, hA⟩ := own_some O3 (by omega)
          obtain ⟨rfl, rfl⟩ := hA
          clear O O2 hv2 hcp9 hpl
          go_wp2
          go_roundw
          case rel => exact ⟨k + 1, putI q u, g2, c2, HL.out, by go_num, rfl, Lib.hid (by rw [HEN.out]; exact HS.out.next HNI.out), O3, HB⟩
          case measure => have := HL.out; simp [intOf]; omega
        · have e1 : decide (0 ≤ u) = false := decide_eq_false hq
          have HEN := Lib.hid (show entL l s (k + 1) = entL l s k from entL_no HL.out HX.out (by rw [HU.out]; exact hq))
          go_wp2
          go_roundw
          case rel => exact ⟨k + 1, q, g, c, HL.out, by go_num, rfl, Lib.hid (by rw [HEN.out]; exact HS.out), O, HB⟩
          case measure => have := HL.out; simp [intOf]; omega
      · have HE := Lib.hid (show sortI (entL l s l.length) = q by have := HS.out.srt; rwa [show k = l.length by omega] at this)
        have HEN := Lib.hid (show (entL l s l.length).length = q.length by rw [← HE.out, sortI_len])
        have HEB := Lib.hid (show ∀ e ∈ q, 0 ≤ e ∧ e ≤ 1440 from fun e he => entL_bd HG.out s k e ((HS.out.mem e).1 he))
        have hel := HQL.out
        have HVE := Lib.hid (show lqV l s = .tuple #[.int .i64 (lq q q.length), .bool true] by rw [HV.out, HE.out, HEN.out])
        clear HE HEN
        go_wp2_with fail
        generalize q = E at *
        go_loopw [11, 12] (fun z ki wr => ∃ (k : Nat) (q : Int), 1 ≤ k ∧ (k ≤ E.length ∨ k = 1) ∧ ki = .int .i64 k ∧ z = .int .i64 q ∧ Hid (lq E k = q) ∧ 0 ≤ q ∧ q ≤ 1440 ∧ wr.ownsRow w.heap.size 3 1 (.slice (some ⟨g, 0, none⟩) E.length c) E.length (iv E) ∧ Below w.heap.size w wr) (fun _ ki _ => 20 - (intOf ki).toNat)
        case atStart => exact ⟨1, 0, Nat.le_refl _, .inr rfl, rfl, rfl, Lib.hid rfl, by omega, by omega, O, HB⟩
        case round =>
          clear O HB
          obtain ⟨k, q, hk1, hk, rfl, rfl, HQ, q0, q1, O, HB⟩ := hrel
          by_cases hlt : k < E.length
          · obtain ⟨j, rfl⟩ : ∃ j, k = j + 1 := ⟨k - 1, by omega⟩
            obtain ⟨a, ha⟩ : ∃ a, E[j] = a := ⟨_, rfl⟩
            obtain ⟨b, hb⟩ : ∃ b, E[j + 1] = b := ⟨_, rfl⟩
            have ba := HEB.out a (by rw [← ha]; exact List.getElem_mem _)
            have bb := HEB.out b (by rw [← hb]; exact List.getElem_mem _)
            have x1 : wr.cell? ⟨g, j + 1, none⟩ = some (.int .i64 b) := by rw [O.cellAt _ (by omega), iv_get E (j + 1) hlt, hb]
            have y2 : wr.cell? ⟨g, j, none⟩ = some (.int .i64 a) := by rw [O.cellAt _ (by omega), iv_get E j (by omega), ha]
            have HN := Lib.hid ((lq_next hlt ha hb).trans (by rw [HQ.out]))
            have hq2 := lq_bd HEB.out (j + 2) (by omega)
            rw [HN.out] at hq2
            have HQB := Lib.hid hq2
            have HL := Lib.hid hlt
            have z1 : IntKind.i64.wrap (j : Int) = j := IntWalk.i64_in _ (by omega)
            have z2 : IntKind.i64.wrap (b - a) = b - a := IntWalk.i64_in _ (by omega)
            have z4 : IntKind.i64.wrap (b - a - 4) = b - a - 4 := IntWalk.i64_in _ (by omega)
            have z3 : IntKind.i64.wrap ((j : Int) + 1 + 1) = (j : Int) + 1 + 1 := IntWalk.i64_in _ (by omega)
            have i1 : (j : Int) + 1 < E.length := by omega
            have i2 : (j : Int) < E.length := by omega
            have hjn2 : j < E.length := by omega
            clear ha hb ba bb hq2
            go_wp2_with fail
            refine wp_region_text (fun w' => w'.cell? ⟨g, j + 1, none⟩ = some (.int .i64 b) ∧ w'.cell? ⟨g, j, none⟩ = some (.int .i64 a) ∧ w'.ownsRow w.heap.size 3 1 (.slice (some ⟨g, 0, none⟩) E.length c) E.length (iv E) ∧ Below w.heap.size w w') (by kernel_rfl) (by kernel_rfl) ⟨cell_kept x1 (Below.refl _ _).drew, cell_kept y2 (Below.refl _ _).drew, own_keep O (Below.refl _ _).drew, be HB (Below.refl _ _).drew⟩ ?_
            iterate 14 (
              apply SeqH.one
              · intro uw K hS hK
                obtain ⟨qx1, qy2, qO, qHB⟩ := hS
                first
                  | (go_simp; exact hK.out _ ⟨qx1, qy2, qO, qHB⟩)
                  | (go_simp; go_at_call 92; (with_reducible refine (most_any _ _ _).mono ?_); rintro e _ ⟨rfl, rfl⟩; go_wp2_with fail; exact hK.out _ ⟨qx1, qy2, qO, qHB⟩)
              try simp only [Act.put, List.setIfInBounds_toArray, List.set_cons_zero, List.set_cons_succ])
            refine SeqH.end' rfl ?_
            intro v1 hS
            clear x1 y2 O HB
            obtain ⟨x1, y2, O, HB⟩ := hS
            go_wp2
            go_roundw
            case rel => exact ⟨j + 1 + 1, most q (b - a - 4), by omega, .inl (by have := HL.out; omega), by go_num, rfl, HN, HQB.out.1, HQB.out.2, O, HB⟩
            case measure => simp [intOf]; omega
          · have HF := Lib.hid (show lq E E.length = q by
              rcases hk with h | h
              · have : k = E.length := by omega
                rw [← this]; exact HQ.out
              · have h2 := HQ.out
                have : E.length = 0 ∨ E.length = 1 := by omega
                rcases this with e | e
                · rw [e]; rw [h] at h2; exact h2
                · rw [e]; rw [h] at h2; exact h2)
            go_wp2
            go_ret2
            exact rpost (by rw [HVE.out, HF.out] <;> rfl) HB
  · have HV := Lib.hid (lqV_no (lq2 (s := s) hp))
    have hm0 : 0 < m.length := by
      rw [HML.out]
      cases e : TripU.mtF l with
      | nil => exact absurd e hp
      | cons a b => simp
    have e1 : decide ((0 : Int) < (m.length : Int)) = true := decide_eq_true (by omega)
    clear HML hp
    go_wp2
    go_ret2
    exact rpost (by rw [HV.out] <;> rfl) HB
end Go.Proofs.Ytphflbgljejokaa.TripK
