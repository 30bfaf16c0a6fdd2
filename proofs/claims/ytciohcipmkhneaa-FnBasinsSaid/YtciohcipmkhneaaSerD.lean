/- Series: DepthOrder. Made by tools/mk_serd.py. -/
import Derived.Test.YtciohcipmkhneaaSerQ
import Derived.Test.YtciohcipmkhneaaSortD
import Derived.Test.YtciohcipmkhneaaRegn3
import Derived.Test.YtciohcipmkhneaaIBrine2
import Derived.Lib.SliceRun
import Derived.Deep.CutBlock
import Derived.Deep.Cut
import Derived.Deep.DeepCutAuto
import Derived.Deep.RegionLawGrows
namespace Go.Proofs.Ytciohcipmkhneaa.SerD
open Go.RowKit Go.Proofs.Ytciohcipmkhneaa.Mem Go.Proofs.Ytciohcipmkhneaa.Base Go.Proofs.Ytciohcipmkhneaa.Within Go.Proofs.Ytciohcipmkhneaa.Brine Go.Proofs.Ytciohcipmkhneaa.Regn Go.Proofs.Ytciohcipmkhneaa.Boxes Go.Proofs.Ytciohcipmkhneaa.Keep Go.Proofs.Ytciohcipmkhneaa.Ser Go.Proofs.Ytciohcipmkhneaa.SerG Go.Proofs.Ytciohcipmkhneaa.SerC Go.Proofs.Ytciohcipmkhneaa.SerQ
open Go.Proofs.Ytciohcipmkhneaa.SBasin hiding RPost rpost
open Go.Proofs.Ytciohcipmkhneaa.SortD (cmpI cmp_any cmpI_neg nv nv_len nv_get nv_set sortI insI posI sortI_snoc sortI_len mem_sortI posI_le posI_yes posI_no lower)
set_option linter.unusedVariables false
set_option linter.unusedSimpArgs false
set_option maxRecDepth 100000
def ms (l : List R) (i : Nat) : Int := (l.getD i zero).f1 + (l.getD i zero).f2
def ar (l : List R) (i : Nat) : Int := (l.getD i zero).f0
/-- basin i is deeper than basin j. -/
def ltD (l : List R) (i j : Nat) : Bool := decide (ms l j * ar l i < ms l i * ar l j)
def srt (l : List R) (k : Nat) : List Nat := sortI (ltD l) (List.range k)
theorem srt_len (l : List R) (k : Nat) : (srt l k).length = k := by unfold srt; rw [sortI_len, List.length_range]
theorem srt_mem (l : List R) (k : Nat) : ∀ i ∈ srt l k, i < k := fun i hi => List.mem_range.1 (mem_sortI _ _ _ hi)
theorem srt_next (l : List R) (k : Nat) : srt l (k + 1) = insI (ltD l) (srt l k) k := by unfold srt; rw [List.range_succ, sortI_snoc]
def depL (l : List R) : List Int := if good l = true then (srt l l.length).map fun n : Nat => (n : Int) else []
theorem nv_iv (l : List Nat) : nv l = SInt.iv (l.map fun n : Nat => (n : Int)) := by unfold nv SInt.iv; rw [List.map_map]; rfl
theorem dep_len (l : List R) : (depL l).length ≤ 100 := by
  unfold depL
  split
  · rename_i h; rw [List.length_map, srt_len]; have := (good_all h).2.1; omega
  · simp
def DepPost (M : List Int) (q : Bool) (w : World) (e : Ending) (w' : World) : Prop :=
  ∃ A c, e = .returned (.tuple #[.slice A M.length c, .bool q]) ∧ w'.ownsRow w.heap.size 3 1 (.slice A M.length c) M.length (SInt.iv M) ∧ Below w.heap.size w w'
theorem dep_no {l : List R} {w w' : World} {A : Option Addr} {c : Nat} {v : Value} (hg : good l = false) (h : v = .tuple #[.slice A 0 c, .bool false]) (ho : w'.ownsRow w.heap.size 3 1 (.slice A 0 c) 0 []) (hB : Below w.heap.size w w') : DepPost (depL l) (good l) w (.returned v) w' := by
  have e : depL l = [] := by unfold depL; rw [hg]; rfl
  rw [e, hg]
  exact ⟨A, c, by rw [h]; rfl, ho, hB⟩
theorem dep_yes {l : List R} {w w' : World} {A : Option Addr} {c : Nat} {v : Value} (hg : good l = true) (h : v = .tuple #[.slice A l.length c, .bool true]) (ho : w'.ownsRow w.heap.size 3 1 (.slice A l.length c) l.length (nv (srt l l.length))) (hB : Below w.heap.size w w') : DepPost (depL l) (good l) w (.returned v) w' := by
  have e : depL l = (srt l l.length).map fun n : Nat => (n : Int) := by unfold depL; rw [if_pos hg]
  have el : (depL l).length = l.length := by rw [e, List.length_map, srt_len]
  refine ⟨A, c, by rw [h, el, hg], ?_, hB⟩
  rw [el, e, ← nv_iv]; exact ho
theorem info_int : (Try.prog.info? 3).map (fun i => (i.zero, i.size, i.bytes)) = some (some (.int .i64 0), 1, 8) := by kernel_rfl
theorem nv_one (l : List Nat) : ∀ u ∈ nv l, u.oneCell' = true := by
  intro u hu
  unfold nv at hu
  obtain ⟨x, _, rfl⟩ := List.mem_map.1 hu
  rfl
theorem nv_take (l : List Nat) (k : Nat) : nv (l.take k) = (nv l).take k := by unfold nv; rw [List.map_take]
theorem nv_drop (l : List Nat) (k : Nat) : nv (l.drop k) = (nv l).drop k := by unfold nv; rw [List.map_drop]
theorem one_news {h : Nat} {v : Value} {u : World} (X : u.cell? ⟨h, 0, none⟩ = some v) : ∀ j x, [v][j]? = some x → u.cell? ((⟨h, 0, none⟩ : Addr).add j) = some x := by
  intro j x hx
  cases j with
  | zero => rw [cell_add, Nat.zero_add]; simp at hx; rw [← hx]; exact X
  | succ j => simp at hx
theorem empty_int (w : World) (base : Nat) (h : base ≤ w.heap.size) : (w.alloc (.cells #[] 3)).ownsRow base 3 1 (.slice (some ⟨w.heap.size, 0, none⟩) 0 0) 0 [] := by
  have := World.ownsRow_lit w #[] 0 (e := 3) (size := 1) (base := base) h (by unfold maxLen; omega) rfl
  simpa using this
theorem step_own {P : Program} {w : World} {yf : Nat → Option Bool} {o : Oper} {a : Act} {K : Act → World → Prop} {Q : Exit → Act → World → Prop} {E : Prop} (hgd : o.guard = none) (s x : Operand) (t : TypeId)
    (ho : o.op = .call { callee := .builtin .append, args := #[s, x], argTypes := #[t, t] })
    (base : Nat) (e : TypeId) (i : TypeInfo) (z : Value) (size bytes : Nat) (ht : P.underlying t = some (.slice e)) (hi : P.info? e = some i) (hz : i.zero = some z)
    (hsize : i.size = size) (hby : i.bytes = bytes) (hzs : z.cells.size = size) (hsz : 0 < size)
    (v : Value) (n : Nat) (xs : List Value) (hs : a.eval s = v) (hown : w.ownsRow base e size v n xs)
    (ad : Addr) (m c : Nat) (news : List Value) (hx : a.eval x = .slice (some ad) m c) (hl : news.length = m * size) (hnews : ∀ j u, news[j]? = some u → w.cell? (ad.add j) = some u) (h1 : ∀ u ∈ news, u.oneCell' = true)
    (h63 : n + m ≤ maxLen) (hbytes : (n + m) * bytes ≤ 140737488355328) (hbase : base ≤ w.heap.size)
    (h : ∀ v' w', w'.ownsRow base e size v' (n + m) (xs ++ news) → w.grownBy w' v.ownBlock → (v' = .slice none 0 0 ↔ v = .slice none 0 0 ∧ m = 0) → K (a.put o.dst v') w') :
    if Region.wanted o yf = true then Oper.wp P o a w K Q else E := by
  rw [if_pos (by simp [Region.wanted, hgd])]
  exact wp_append_own w s x t ho base e i z size bytes ht hi hz hsize hby hzs hsz v n xs hs hown ad m c news hx hl hnews h1 h63 hbytes hbase h
set_option maxHeartbeats 400000 in
theorem own_ints (b o cap : Nat) (l : List Nat) (w : World) (hb : b < w.heap.size) (hc : ∀ j v, (nv l)[j]? = some v → w.cell? ⟨b, o + j, none⟩ = some v) (hn : l.length ≤ 1048576) :
    Calls Try.prog 105 #[.slice (some ⟨b, o, none⟩) l.length cap] w fun e w' => ∃ A c, e = .returned (.slice A l.length c) ∧ w'.ownsRow w.heap.size 3 1 (.slice A l.length c) l.length (nv l) ∧ Below w.heap.size w w' := by
  obtain ⟨i0, hi, hz0, hz1, hz2⟩ := info_parts info_int
  have HI := Lib.hid hz2; clear hz2
  have HI1 := Lib.hid hz1; clear hz1
  have HO := Lib.hid (empty_int w w.heap.size (Nat.le_refl _))
  have HN := Lib.hid (show ∀ j u, (nv l)[j]? = some u → (w.alloc (.cells #[] 3)).cell? ((⟨b, o, none⟩ : Addr).add j) = some u from fun j u hu => by
    rw [cell_add, ((bcell (al (Below.refl w.heap.size w) (o := .cells #[] 3))).1 _ _ hb)]
    exact hc j u hu)
  clear hc
  go_enter Try.func105, Try.ntmps105
  go_wp2_with (at_builtin; go_must (refine wpList_append_own _ rfl _ _ 55 rfl w.heap.size 3 i0 _ 1 8 Try.underlying55 hi hz0 HI1.out HI.out rfl (by decide) _ 0 _ rfl HO.out ⟨b, o, none⟩ l.length cap (nv l) rfl (by rw [nv_len]; omega) HN.out (nv_one l) (by unfold maxLen; omega) (by omega) (by rw [size_alloc']; omega) ?_; intro v' w9 hown1 hgrow _))
  have hB9 := bl_grown (al (Below.refl w.heap.size w) (o := .cells #[] 3)) hgrow (fun k hk => own_ge HO.out k hk)
  obtain ⟨A1, c1, rfl⟩ := own_form hown1
  have HO1 : w9.ownsRow w.heap.size 3 1 (.slice A1 l.length c1) l.length (nv l) := by simpa using hown1
  clear hgrow hown1
  go_wp2
  go_ret
  exact ⟨A1, c1, by simp, HO1, hB9⟩
theorem nat_x {l : List R} (hg : good l = true) {i : Nat} {x : R} (hi : i < l.length) (hx : l[i] = x) : ms l i = x.f1 + x.f2 ∧ ar l i = x.f0 := by unfold ms ar; rw [getD_at hi, hx]; exact ⟨rfl, rfl⟩
theorem mul_bd {x y : R} (hx : okA x = true) (hy : okA y = true) : IntKind.i64.wrap ((x.f1 + x.f2) * y.f0) = (x.f1 + x.f2) * y.f0 := by
  have h1 := okA_true hx; have h2 := okA_true hy
  have m0 : 0 ≤ (x.f1 + x.f2) * y.f0 := Int.mul_nonneg (by omega) (by omega)
  have m1 : (x.f1 + x.f2) * y.f0 ≤ 2000000 * 100000 := Int.mul_le_mul (by omega) (by omega) (by omega) (by omega)
  exact IntWalk.i64_in _ (by omega)
set_option maxHeartbeats 8000000 in
theorem dep_spec (P : Option Addr) (cap : Nat) (l : List R) (w : World) (hr : Rd w w.heap.size P (flat l)) (hn : l.length ≤ 1048576) :
    Calls Try.prog 47 #[.slice P l.length cap] w (DepPost (depL l) (good l) w) := by
  obtain ⟨i0, hi, hz0, hz1, hz2⟩ := info_parts info_int
  have HI := Lib.hid hz2; clear hz2
  have HI1 := Lib.hid hz1; clear hz1
  have HR := Lib.hid hr; clear hr
  have O := empty_int w w.heap.size (Nat.le_refl _)
  have HB := al (Below.refl w.heap.size w) (o := .cells #[] 3)
  go_enter Try.func47, Try.ntmps47
  go_wp2_with fail
  have hs1 : (w.alloc (.cells #[] 3)).heap.size = w.heap.size + 1 := size_alloc' _ _
  generalize w.alloc (.cells #[] 3) = w1 at O HB hs1 ⊢
  refine (good_spec P cap l w1 ((HR.out.below HB (Nat.le_refl _)).mono HB.size) hn).mono ?_
  rintro e w2 ⟨rfl, hv⟩
  replace O := own_keep O hv
  replace HB := be HB hv
  clear hv hs1
  cases hg : good l
  · have HO := Lib.hid O
    have HG := Lib.hid hg
    clear O hg
    go_wp2
    go_ret2
    exact dep_no HG.out rfl HO.out HB
  obtain ⟨g1, g8, _⟩ := good_all hg
  have HG := Lib.hid hg; clear hg
  obtain ⟨b, o, rfl, hb, hcc⟩ := HR.out.at (k := 0) (by rw [flat_n]; omega)
  have HC := Lib.hid hcc; clear hcc
  have HO := Lib.hid O; clear O
  go_wp2
  go_loopw [4, 5] (fun s i wr => ∃ (k g c : Nat), k ≤ l.length ∧ i = .int .i64 k ∧ s = .slice (some ⟨g, 0, none⟩) k c ∧ Hid (wr.ownsRow w.heap.size 3 1 (.slice (some ⟨g, 0, none⟩) k c) k (nv (srt l k))) ∧ Below w.heap.size w wr) (fun _ i _ => l.length - (intOf i).toNat)
  case atStart => exact ⟨0, w.heap.size, 0, Nat.zero_le _, rfl, rfl, Lib.hid (by have e : nv (srt l 0) = [] := rfl; rw [e]; exact HO.out), HB⟩
  case round =>
    clear HO HB
    obtain ⟨k, g, c, hk, rfl, rfl, HO, HB⟩ := hrel
    by_cases hlt : k < l.length
    · obtain ⟨p, hp⟩ : ∃ p, srt l k = p := ⟨_, rfl⟩
      have HPL := Lib.hid (show p.length = k by rw [← hp, srt_len])
      have HPM := Lib.hid (show ∀ i ∈ p, i < k by rw [← hp]; exact srt_mem l k)
      have HNX0 := Lib.hid (show srt l (k + 1) = insI (ltD l) p k by rw [srt_next, hp])
      rw [hp] at HO
      clear hp
      obtain ⟨x, hx⟩ : ∃ x, l[k] = x := ⟨_, rfl⟩
      have hox := good_get HG.out hlt hx
      obtain ⟨_, _, hu0, hu1, hv0, hv1⟩ := okA_true hox
      obtain ⟨h0, h1, h2⟩ := cells3 (Below.refl _ w) hb HC.out hlt hx
      have HX := Lib.hid (nat_x HG.out hlt hx)
      have HOX := Lib.hid hox
      have HLT := Lib.hid hlt
      have hkc : k ≤ c := own_cap HO.out
      clear hx hox
      go_upto_block 2 with fail
      generalize wr = w0 at *
      go_cut [6] from 20 to 58 (fun iv wc => ∃ j : Nat, j ≤ k ∧ iv = .int .i64 j ∧ Hid (posI (ltD l) p k k = j) ∧ Hid (wc.ownsRow w.heap.size 3 1 (.slice (some ⟨g, 0, none⟩) k c) k (nv p)) ∧ Below w.heap.size w wc)
      case first => as_aux_lemma =>
        go_wp2_with fail
        go_loopw [6] (fun i wx => ∃ j : Nat, j ≤ k ∧ i = .int .i64 j ∧ Hid (posI (ltD l) p k k = posI (ltD l) p k j) ∧ Hid (wx.ownsRow w.heap.size 3 1 (.slice (some ⟨g, 0, none⟩) k c) k (nv p)) ∧ Below w.heap.size w wx) (fun i _ => (intOf i).toNat)
        case atStart => exact ⟨k, Nat.le_refl _, rfl, Lib.hid rfl, HO, HB⟩
        case round =>
          clear HO HB
          obtain ⟨j, hj, rfl, HPO, HO, HB⟩ := hrel
          have O := HO.out
          clear HO
          cases j with
          | zero =>
            have HE := Lib.hid (show posI (ltD l) p k k = 0 by rw [HPO.out]; rfl)
            go_wp2_with fail
            refine wp_region_text (fun w' => w'.ownsRow w.heap.size 3 1 (.slice (some ⟨g, 0, none⟩) k c) k (nv p) ∧ Below w.heap.size w w') (by kernel_rfl) (by kernel_rfl) ⟨own_keep O (Below.refl _ _).drew, be HB (Below.refl _ _).drew⟩ ?_
            iterate 37 (
              apply SeqH.one
              · intro uw K hS hK
                obtain ⟨qO, qHB⟩ := hS
                first
                  | (go_simp; exact hK.out _ ⟨qO, qHB⟩)
              try simp only [Act.put, List.setIfInBounds_toArray, List.set_cons_zero, List.set_cons_succ])
            refine SeqH.end' rfl ?_
            intro v1 hS
            clear O HB
            obtain ⟨O, HB⟩ := hS
            go_wp2_with fail
            go_meet
            case rel => exact ⟨0, Nat.zero_le _, rfl, HE, Lib.hid O, HB⟩
          | succ j =>
            have hjp : j < p.length := by have := HPL.out; omega
            obtain ⟨y, hy⟩ : ∃ y, p[j] = y := ⟨_, rfl⟩
            have hyk : y < k := HPM.out y (by rw [← hy]; exact List.getElem_mem hjp)
            have cy : wr.cell? ⟨g, j, none⟩ = some (.int .i64 y) := by
              rw [O.cellAt j (by omega)]
              exact nv_get (by rw [List.getElem?_eq_getElem hjp, hy])
            have hyl : y < l.length := by omega
            obtain ⟨z, hz⟩ : ∃ z, l[y] = z := ⟨_, rfl⟩
            have hoz := good_get HG.out hyl hz
            obtain ⟨_, _, hs0, hs1, ht0, ht1⟩ := okA_true hoz
            obtain ⟨k0, k1, k2⟩ := cells3 (Below.refl _ w) hb HC.out hyl hz
            have hzv := nat_x HG.out hyl hz
            have w1 := mul_bd hoz HOX.out
            have w2 := mul_bd HOX.out hoz
            have hlt3 : decide ((z.f1 + z.f2) * x.f0 < (x.f1 + x.f2) * z.f0) = ltD l k y := by unfold ltD; rw [hzv.1, hzv.2, HX.out.1, HX.out.2]
            obtain ⟨A1, hA1⟩ : ∃ a, (z.f1 + z.f2) * x.f0 = a := ⟨_, rfl⟩
            obtain ⟨A2, hA2⟩ : ∃ a, (x.f1 + x.f2) * z.f0 = a := ⟨_, rfl⟩
            rw [hA1, hA2] at hlt3
            have HA := Lib.hid (And.intro hA1 hA2)
            have v1 : IntKind.i64.wrap ((z.f1 + z.f2) * x.f0) = A1 := by rw [w1, hA1]
            have v2 : IntKind.i64.wrap ((x.f1 + x.f2) * z.f0) = A2 := by rw [w2, hA2]
            have q1 : IntKind.i64.wrap (j : Int) = j := IntWalk.i64_in _ (by omega)
            have i2 : (j : Int) < k := by omega
            have i3 : (y : Int) < l.length := by omega
            have i4 : decide ((0 : Int) < (j : Int) + 1) = true := decide_eq_true (by omega)
            have i5 : decide (0 < j + 1) = true := decide_eq_true (by omega)
            have HY := Lib.hid hy; have HJP := Lib.hid hjp
            clear w1 w2 hA1 hA2 hzv hz hoz hy
            cases hbb : ltD l k y
            · have HE := Lib.hid (show posI (ltD l) p k k = j + 1 by rw [HPO.out]; exact posI_no HJP.out (by rw [HY.out]; exact hbb))
              rw [hbb] at hlt3
              clear hbb
              go_wp2_with fail
              have h0_c := ((bcell HB).1 _ _ hb).trans h0
              have h1_c := ((bcell HB).1 _ _ hb).trans h1
              have h2_c := ((bcell HB).1 _ _ hb).trans h2
              have k0_c := ((bcell HB).1 _ _ hb).trans k0
              have k1_c := ((bcell HB).1 _ _ hb).trans k1
              have k2_c := ((bcell HB).1 _ _ hb).trans k2
              refine wp_region_text (fun w' => w'.ownsRow w.heap.size 3 1 (.slice (some ⟨g, 0, none⟩) k c) k (nv p) ∧ w'.cell? ⟨g, j, none⟩ = some (.int .i64 y) ∧ Below w.heap.size w w') (by kernel_rfl) (by kernel_rfl) ⟨own_keep O (Below.refl _ _).drew, cell_kept cy (Below.refl _ _).drew, be HB (Below.refl _ _).drew⟩ ?_
              clear h0_c
              clear h1_c
              clear h2_c
              clear k0_c
              clear k1_c
              clear k2_c
              iterate 37 (
                apply SeqH.one
                · intro uw K hS hK
                  obtain ⟨qO, qcy, qHB⟩ := hS
                  have qh0_c := ((bcell qHB).1 _ _ hb).trans h0
                  have qh1_c := ((bcell qHB).1 _ _ hb).trans h1
                  have qh2_c := ((bcell qHB).1 _ _ hb).trans h2
                  have qk0_c := ((bcell qHB).1 _ _ hb).trans k0
                  have qk1_c := ((bcell qHB).1 _ _ hb).trans k1
                  have qk2_c := ((bcell qHB).1 _ _ hb).trans k2
                  first
                    | (go_simp; exact hK.out _ ⟨qO, qcy, qHB⟩)
                    | (go_simp; go_at_call 92; (with_reducible refine (mass_spec x.f1 x.f2 hu0 hu1 hv0 hv1 _).mono ?_); rintro e uw1 ⟨rfl, hv⟩; go_wp2_with fail; exact hK.out _ ⟨own_keep qO hv, cell_kept qcy hv, be qHB hv⟩)
                    | (go_simp; go_at_call 92; (with_reducible refine (mass_spec z.f1 z.f2 hs0 hs1 ht0 ht1 _).mono ?_); rintro e uw1 ⟨rfl, hv⟩; go_wp2_with fail; exact hK.out _ ⟨own_keep qO hv, cell_kept qcy hv, be qHB hv⟩)
                try simp only [Act.put, List.setIfInBounds_toArray, List.set_cons_zero, List.set_cons_succ])
              refine SeqH.end' rfl ?_
              intro v1 hS
              clear O cy HB
              obtain ⟨O, cy, HB⟩ := hS
              have h0_c := ((bcell HB).1 _ _ hb).trans h0
              have h1_c := ((bcell HB).1 _ _ hb).trans h1
              have h2_c := ((bcell HB).1 _ _ hb).trans h2
              have k0_c := ((bcell HB).1 _ _ hb).trans k0
              have k1_c := ((bcell HB).1 _ _ hb).trans k1
              have k2_c := ((bcell HB).1 _ _ hb).trans k2
              go_wp2_with fail
              go_meet
              case rel => exact ⟨j + 1, hj, rfl, HE, Lib.hid O, HB⟩
            · have HE := Lib.hid (show posI (ltD l) p k k = posI (ltD l) p k j by rw [HPO.out]; exact posI_yes HJP.out (by rw [HY.out]; exact hbb))
              rw [hbb] at hlt3
              clear hbb
              go_wp2_with fail
              have h0_c := ((bcell HB).1 _ _ hb).trans h0
              have h1_c := ((bcell HB).1 _ _ hb).trans h1
              have h2_c := ((bcell HB).1 _ _ hb).trans h2
              have k0_c := ((bcell HB).1 _ _ hb).trans k0
              have k1_c := ((bcell HB).1 _ _ hb).trans k1
              have k2_c := ((bcell HB).1 _ _ hb).trans k2
              refine wp_region_text (fun w' => w'.ownsRow w.heap.size 3 1 (.slice (some ⟨g, 0, none⟩) k c) k (nv p) ∧ w'.cell? ⟨g, j, none⟩ = some (.int .i64 y) ∧ Below w.heap.size w w') (by kernel_rfl) (by kernel_rfl) ⟨own_keep O (Below.refl _ _).drew, cell_kept cy (Below.refl _ _).drew, be HB (Below.refl _ _).drew⟩ ?_
              clear h0_c
              clear h1_c
              clear h2_c
              clear k0_c
              clear k1_c
              clear k2_c
              iterate 37 (
                apply SeqH.one
                · intro uw K hS hK
                  obtain ⟨qO, qcy, qHB⟩ := hS
                  have qh0_c := ((bcell qHB).1 _ _ hb).trans h0
                  have qh1_c := ((bcell qHB).1 _ _ hb).trans h1
                  have qh2_c := ((bcell qHB).1 _ _ hb).trans h2
                  have qk0_c := ((bcell qHB).1 _ _ hb).trans k0
                  have qk1_c := ((bcell qHB).1 _ _ hb).trans k1
                  have qk2_c := ((bcell qHB).1 _ _ hb).trans k2
                  first
                    | (go_simp; exact hK.out _ ⟨qO, qcy, qHB⟩)
                    | (go_simp; go_at_call 92; (with_reducible refine (mass_spec x.f1 x.f2 hu0 hu1 hv0 hv1 _).mono ?_); rintro e uw1 ⟨rfl, hv⟩; go_wp2_with fail; exact hK.out _ ⟨own_keep qO hv, cell_kept qcy hv, be qHB hv⟩)
                    | (go_simp; go_at_call 92; (with_reducible refine (mass_spec z.f1 z.f2 hs0 hs1 ht0 ht1 _).mono ?_); rintro e uw1 ⟨rfl, hv⟩; go_wp2_with fail; exact hK.out _ ⟨own_keep qO hv, cell_kept qcy hv, be qHB hv⟩)
                try simp only [Act.put, List.setIfInBounds_toArray, List.set_cons_zero, List.set_cons_succ])
              refine SeqH.end' rfl ?_
              intro v1 hS
              clear O cy HB
              obtain ⟨O, cy, HB⟩ := hS
              have h0_c := ((bcell HB).1 _ _ hb).trans h0
              have h1_c := ((bcell HB).1 _ _ hb).trans h1
              have h2_c := ((bcell HB).1 _ _ hb).trans h2
              have k0_c := ((bcell HB).1 _ _ hb).trans k0
              have k1_c := ((bcell HB).1 _ _ hb).trans k1
              have k2_c := ((bcell HB).1 _ _ hb).trans k2
              go_wp2
              go_roundw
              case rel => exact ⟨j, by omega, by go_num, HE, Lib.hid O, HB⟩
              case measure => simp [intOf]
      case rest => as_aux_lemma =>
        clear HO HB
        obtain ⟨j, hj, rfl, HPO, HO, HB⟩ := hcut
        obtain ⟨Z, hZ⟩ : ∃ z, wc.heap.size = z := ⟨_, rfl⟩
        have hgZ : g < Z := by rw [← hZ]; exact own_lt HO.out
        have hwZ : w.heap.size ≤ Z := by rw [← hZ]; exact HB.size
        have HX0 := Lib.hid (show RdL wc.drew Z (some ⟨g, 0, none⟩) (nv p) by
          have h := rdl_keep (RdL.of (Rd.of_own HO.out)) (Below.refl wc.heap.size wc).drew
          rw [hZ] at h; exact h)
        have HZ0 := Lib.hid (show Z ≤ wc.drew.heap.size by rw [← hZ]; exact Nat.le_refl _)
        clear hZ HO
        have hjc : j ≤ c := by omega
        have hpt : (p.take j).length = j := by rw [List.length_take]; have := HPL.out; omega
        have HRC := Lib.hid (fun (u : World) (h : RdL u Z (some ⟨g, 0, none⟩) (nv p)) (i : Nat) (v : Value) (hv : (nv p)[i]? = some v) => show u.cell? ⟨g, i, none⟩ = some v from by
          rcases h.2 with h2 | ⟨b', o', hA, _, hc2⟩
          · rw [h2] at hv; cases hv
          · injection hA with hA; injection hA with a1 a2 _
            subst a1; subst a2
            have := hc2 i v hv
            rwa [Nat.zero_add] at this)
        have HOWN := Lib.hid (fun (u : World) (h : RdL u Z (some ⟨g, 0, none⟩) (nv p)) => show Calls Try.prog 105 #[.slice (some ⟨g, 0, none⟩) j c] u (fun e w' => ∃ A c, e = .returned (.slice A j c) ∧ w'.ownsRow u.heap.size 3 1 (.slice A j c) j (nv (p.take j)) ∧ Below u.heap.size u w') from by
          have h9 := own_ints g 0 c (p.take j) u (Nat.lt_of_lt_of_le hgZ h.1) (fun i v hv => by
            rw [Nat.zero_add]
            refine HRC.out u h i v ?_
            rw [nv_take, List.getElem?_take] at hv
            split at hv
            · exact hv
            · cases hv) (by rw [hpt]; omega)
          rw [hpt] at h9; exact h9)
        have HNX := Lib.hid (show nv (p.take j) ++ [Value.int .i64 (k : Int)] ++ nv (p.drop j) = nv (srt l (k + 1)) by
          rw [HNX0.out]
          unfold insI
          rw [HPL.out, HPO.out]
          simp [nv])
        clear hpt
        go_wp2_with fail
        by_cases hcn : j = c
        · subst hcn
          have HKC := Lib.hid hkc
          clear hkc
          have HDR := Lib.hid (fun (u : World) (h : RdL u Z (some ⟨g, 0, none⟩) (nv p)) (i : Nat) (v : Value) (hv : (nv (p.drop j))[i]? = some v) => show u.cell? ((⟨g, 0, none⟩ : Addr).add i) = some v from by
            rw [List.drop_eq_nil_of_le (by have := HPL.out; have := HKC.out; omega)] at hv; cases hv)
          refine wp_region_rel0 [59, 60, 61, 62, 63, 64, 65, 66, 67, 68, 69, 4] (fun L f w' => (RdL w' Z (some ⟨g, 0, none⟩) (nv p)) ∧ (Z ≤ w'.heap.size) ∧ (Below w.heap.size w w') ∧ ((¬ L 11 → f 4 = .slice (some ⟨g, 0, none⟩) k j)) ∧ (L 0 → f 59 = .slice (some ⟨g, 0, none⟩) k j) ∧ (L 1 → f 60 = .int .i64 (j : Int)) ∧ (L 2 → f 61 = .slice (some ⟨g, 0, none⟩) j j) ∧ (L 3 → ¬ L 6 → ∃ A1 c1, f 62 = .slice A1 j c1 ∧ w'.ownsRow Z 3 1 (.slice A1 j c1) (j) (nv (p.take j))) ∧ (L 4 → f 63 = .int .i64 (k : Int)) ∧ (L 5 → ¬ L 6 → ∃ h, f 64 = .slice (some ⟨h, 0, none⟩) 1 1 ∧ w'.cell? ⟨h, 0, none⟩ = some (.int .i64 (k : Int))) ∧ (L 6 → ¬ L 10 → ∃ A2 c2, f 65 = .slice A2 (j + 1) c2 ∧ w'.ownsRow Z 3 1 (.slice A2 (j + 1) c2) (j + 1) (nv (p.take j) ++ [.int .i64 (k : Int)])) ∧ (L 7 → f 66 = .slice (some ⟨g, 0, none⟩) k j) ∧ (L 8 → f 67 = .int .i64 (j : Int)) ∧ (L 9 → f 68 = .slice (some ⟨g, 0, none⟩) (k - j) (0)) ∧ (L 10 → ∃ A3 c3, f 69 = .slice A3 (j + 1 + (k - j)) c3 ∧ w'.ownsRow Z 3 1 (.slice A3 (j + 1 + (k - j)) c3) (j + 1 + (k - j)) (nv (p.take j) ++ [.int .i64 (k : Int)] ++ nv (p.drop j))) ∧ (L 11 → ∃ A3 c3, f 4 = .slice A3 (j + 1 + (k - j)) c3 ∧ w'.ownsRow Z 3 1 (.slice A3 (j + 1 + (k - j)) c3) (j + 1 + (k - j)) (nv (p.take j) ++ [.int .i64 (k : Int)] ++ nv (p.drop j)))) (by kernel_rfl) (by kernel_rfl) (by kernel_rfl) ⟨HX0.out, HZ0.out, HB.drew, fun _ => rfl, fun h => h.elim, fun h => h.elim, fun h => h.elim, fun h => h.elim, fun h => h.elim, fun h => h.elim, fun h => h.elim, fun h => h.elim, fun h => h.elim, fun h => h.elim, fun h => h.elim, fun h => h.elim⟩ ?_ ?_
          · apply RelH.op2
            · intro L f u K hN hS hK
              simp only [puts, Act.put, List.setIfInBounds_toArray, List.set_cons_zero, List.set_cons_succ, upd, Nat.reduceEqDiff, ↓reduceIte, if_true, if_false] at hK ⊢
              have HS9 := Lib.hid hS
              obtain ⟨qX, qZ, qB, qF, c0, c1, c2, c3, c4, c5, c6, c7, c8, c9, c10, c11⟩ := hS
              have hF := qF (hN.out.1 11 (by decide +kernel))
              clear qX qF c0 c1 c2 c3 c4 c5 c6 c7 c8 c9 c10 c11
              go_simp
              obtain ⟨qX, qZ, qB, qF, c0, c1, c2, c3, c4, c5, c6, c7, c8, c9, c10, c11⟩ := HS9.out
              exact hK.out _ _ ⟨qX, qZ, qB, fun h => qF (fun z => h (.inl z)), fun _ => rfl, fun h => c1 (h.resolve_right (by decide)), fun h => c2 (h.resolve_right (by decide)), fun h t0 => c3 (h.resolve_right (by decide)) (fun z => t0 (.inl z)), fun h => c4 (h.resolve_right (by decide)), fun h t0 => c5 (h.resolve_right (by decide)) (fun z => t0 (.inl z)), fun h t0 => c6 (h.resolve_right (by decide)) (fun z => t0 (.inl z)), fun h => c7 (h.resolve_right (by decide)), fun h => c8 (h.resolve_right (by decide)), fun h => c9 (h.resolve_right (by decide)), fun h => c10 (h.resolve_right (by decide)), fun h => c11 (h.resolve_right (by decide))⟩ _ (by simp only [hF])
            apply RelH.op2
            · intro L f u K hN hS hK
              simp only [puts, Act.put, List.setIfInBounds_toArray, List.set_cons_zero, List.set_cons_succ, upd, Nat.reduceEqDiff, ↓reduceIte, if_true, if_false] at hK ⊢
              have HS9 := Lib.hid hS
              obtain ⟨qX, qZ, qB, qF, c0, c1, c2, c3, c4, c5, c6, c7, c8, c9, c10, c11⟩ := hS
              clear qX qF c0 c1 c2 c3 c4 c5 c6 c7 c8 c9 c10 c11
              go_simp
              obtain ⟨qX, qZ, qB, qF, c0, c1, c2, c3, c4, c5, c6, c7, c8, c9, c10, c11⟩ := HS9.out
              exact hK.out _ _ ⟨qX, qZ, qB, fun h => qF (fun z => h (.inl z)), fun h => c0 (h.resolve_right (by decide)), fun _ => rfl, fun h => c2 (h.resolve_right (by decide)), fun h t0 => c3 (h.resolve_right (by decide)) (fun z => t0 (.inl z)), fun h => c4 (h.resolve_right (by decide)), fun h t0 => c5 (h.resolve_right (by decide)) (fun z => t0 (.inl z)), fun h t0 => c6 (h.resolve_right (by decide)) (fun z => t0 (.inl z)), fun h => c7 (h.resolve_right (by decide)), fun h => c8 (h.resolve_right (by decide)), fun h => c9 (h.resolve_right (by decide)), fun h => c10 (h.resolve_right (by decide)), fun h => c11 (h.resolve_right (by decide))⟩ _ rfl
            apply RelH.op2
            · intro L f u K hN hS hK
              simp only [puts, Act.put, List.setIfInBounds_toArray, List.set_cons_zero, List.set_cons_succ, upd, Nat.reduceEqDiff, ↓reduceIte, if_true, if_false] at hK ⊢
              have HS9 := Lib.hid hS
              obtain ⟨qX, qZ, qB, qF, c0, c1, c2, c3, c4, c5, c6, c7, c8, c9, c10, c11⟩ := hS
              have e0 := c0 (hN.out.2 0 (by decide +kernel))
              have e1 := c1 (hN.out.2 1 (by decide +kernel))
              clear qX qF c0 c1 c2 c3 c4 c5 c6 c7 c8 c9 c10 c11
              go_simp
              obtain ⟨qX, qZ, qB, qF, c0, c1, c2, c3, c4, c5, c6, c7, c8, c9, c10, c11⟩ := HS9.out
              exact hK.out _ _ ⟨qX, qZ, qB, fun h => qF (fun z => h (.inl z)), fun h => c0 (h.resolve_right (by decide)), fun h => c1 (h.resolve_right (by decide)), fun _ => rfl, fun h t0 => c3 (h.resolve_right (by decide)) (fun z => t0 (.inl z)), fun h => c4 (h.resolve_right (by decide)), fun h t0 => c5 (h.resolve_right (by decide)) (fun z => t0 (.inl z)), fun h t0 => c6 (h.resolve_right (by decide)) (fun z => t0 (.inl z)), fun h => c7 (h.resolve_right (by decide)), fun h => c8 (h.resolve_right (by decide)), fun h => c9 (h.resolve_right (by decide)), fun h => c10 (h.resolve_right (by decide)), fun h => c11 (h.resolve_right (by decide))⟩ _ (by simp only [e0, e1])
            apply RelH.op2
            · intro L f u K hN hS hK
              simp only [puts, Act.put, List.setIfInBounds_toArray, List.set_cons_zero, List.set_cons_succ, upd, Nat.reduceEqDiff, ↓reduceIte, if_true, if_false] at hK ⊢
              have HS9 := Lib.hid hS
              obtain ⟨qX, qZ, qB, qF, c0, c1, c2, c3, c4, c5, c6, c7, c8, c9, c10, c11⟩ := hS
              have e2 := c2 (hN.out.2 2 (by decide +kernel))
              have HCON := Lib.hid (HOWN.out u qX)
              clear qX qF c0 c1 c2 c3 c4 c5 c6 c7 c8 c9 c10 c11
              go_simp
              go_at_call 105
              (with_reducible refine HCON.out.mono ?_)
              rintro e uw1 ⟨A1, k1, rfl, ho, hv⟩
              go_wp2_with fail
              obtain ⟨qX, qZ, qB, qF, c0, c1, c2, c3, c4, c5, c6, c7, c8, c9, c10, c11⟩ := HS9.out
              exact hK.out _ _ ⟨rdl_keep qX hv, (Nat.le_trans qZ hv.size), (be qB hv), fun h => qF (fun z => h (.inl z)), fun h => c0 (h.resolve_right (by decide)), fun h => c1 (h.resolve_right (by decide)), fun h => c2 (h.resolve_right (by decide)), fun _ _ => ⟨A1, k1, rfl, own_base ho qZ⟩, fun h => c4 (h.resolve_right (by decide)), fun h t0 => (let ⟨h, e, X⟩ := (c5 (h.resolve_right (by decide)) (fun z => t0 (.inl z))); ⟨h, e, SortD.cell_kept X hv⟩), fun h t0 => (let ⟨A9, c9, e, O9⟩ := (c6 (h.resolve_right (by decide)) (fun z => t0 (.inl z))); ⟨A9, c9, e, own_keep O9 hv⟩), fun h => c7 (h.resolve_right (by decide)), fun h => c8 (h.resolve_right (by decide)), fun h => c9 (h.resolve_right (by decide)), fun h => (let ⟨A9, c9, e, O9⟩ := (c10 (h.resolve_right (by decide))); ⟨A9, c9, e, own_keep O9 hv⟩), fun h => (let ⟨A9, c9, e, O9⟩ := (c11 (h.resolve_right (by decide))); ⟨A9, c9, e, own_keep O9 hv⟩)⟩ _ (by simp only [e2])
            apply RelH.op2
            · intro L f u K hN hS hK
              simp only [puts, Act.put, List.setIfInBounds_toArray, List.set_cons_zero, List.set_cons_succ, upd, Nat.reduceEqDiff, ↓reduceIte, if_true, if_false] at hK ⊢
              have HS9 := Lib.hid hS
              obtain ⟨qX, qZ, qB, qF, c0, c1, c2, c3, c4, c5, c6, c7, c8, c9, c10, c11⟩ := hS
              clear qX qF c0 c1 c2 c3 c4 c5 c6 c7 c8 c9 c10 c11
              go_simp
              obtain ⟨qX, qZ, qB, qF, c0, c1, c2, c3, c4, c5, c6, c7, c8, c9, c10, c11⟩ := HS9.out
              exact hK.out _ _ ⟨qX, qZ, qB, fun h => qF (fun z => h (.inl z)), fun h => c0 (h.resolve_right (by decide)), fun h => c1 (h.resolve_right (by decide)), fun h => c2 (h.resolve_right (by decide)), fun h t0 => c3 (h.resolve_right (by decide)) (fun z => t0 (.inl z)), fun _ => rfl, fun h t0 => c5 (h.resolve_right (by decide)) (fun z => t0 (.inl z)), fun h t0 => c6 (h.resolve_right (by decide)) (fun z => t0 (.inl z)), fun h => c7 (h.resolve_right (by decide)), fun h => c8 (h.resolve_right (by decide)), fun h => c9 (h.resolve_right (by decide)), fun h => c10 (h.resolve_right (by decide)), fun h => c11 (h.resolve_right (by decide))⟩ _ rfl
            apply RelH.op2
            · intro L f u K hN hS hK
              simp only [puts, Act.put, List.setIfInBounds_toArray, List.set_cons_zero, List.set_cons_succ, upd, Nat.reduceEqDiff, ↓reduceIte, if_true, if_false] at hK ⊢
              have HS9 := Lib.hid hS
              obtain ⟨qX, qZ, qB, qF, c0, c1, c2, c3, c4, c5, c6, c7, c8, c9, c10, c11⟩ := hS
              have e4 := c4 (hN.out.2 4 (by decide +kernel))
              have hv := al (Below.refl _ u) (o := .cells #[.int .i64 (k : Int)] 3)
              have hX := (Box.new (Below.refl _ u) [.int .i64 (k : Int)] 3 (g := u.heap.size) rfl).cells 0 _ rfl
              clear qX qF c0 c1 c2 c3 c4 c5 c6 c7 c8 c9 c10 c11
              go_simp
              obtain ⟨qX, qZ, qB, qF, c0, c1, c2, c3, c4, c5, c6, c7, c8, c9, c10, c11⟩ := HS9.out
              exact hK.out _ _ ⟨rdl_keep qX hv, (Nat.le_trans qZ hv.size), (be qB hv), fun h => qF (fun z => h (.inl z)), fun h => c0 (h.resolve_right (by decide)), fun h => c1 (h.resolve_right (by decide)), fun h => c2 (h.resolve_right (by decide)), fun h t0 => (let ⟨A9, c9, e, O9⟩ := (c3 (h.resolve_right (by decide)) (fun z => t0 (.inl z))); ⟨A9, c9, e, own_keep O9 hv⟩), fun h => c4 (h.resolve_right (by decide)), fun _ _ => ⟨_, rfl, hX⟩, fun h => absurd (h.resolve_right (by decide)) (hN.out.1 6 (by decide +kernel)), fun h => c7 (h.resolve_right (by decide)), fun h => c8 (h.resolve_right (by decide)), fun h => c9 (h.resolve_right (by decide)), fun h => (let ⟨A9, c9, e, O9⟩ := (c10 (h.resolve_right (by decide))); ⟨A9, c9, e, own_keep O9 hv⟩), fun h => (let ⟨A9, c9, e, O9⟩ := (c11 (h.resolve_right (by decide))); ⟨A9, c9, e, own_keep O9 hv⟩)⟩ _ (by simp only [e4])
            apply RelH.op2
            · intro L f u K hN hS hK
              simp only [puts, Act.put, List.setIfInBounds_toArray, List.set_cons_zero, List.set_cons_succ, upd, Nat.reduceEqDiff, ↓reduceIte, if_true, if_false] at hK ⊢
              have HS9 := Lib.hid hS
              obtain ⟨qX, qZ, qB, qF, c0, c1, c2, c3, c4, c5, c6, c7, c8, c9, c10, c11⟩ := hS
              obtain ⟨A1, d1, h3, O3⟩ := c3 (hN.out.2 3 (by decide +kernel)) (hN.out.1 6 (by decide +kernel))
              obtain ⟨g5, h5, X⟩ := c5 (hN.out.2 5 (by decide +kernel)) (hN.out.1 6 (by decide +kernel))
              refine step_own rfl (.tmp 62) (.tmp 64) 55 rfl Z 3 i0 _ 1 8 Try.underlying55 hi hz0 HI1.out HI.out rfl (by decide) (.slice A1 j d1) j (nv (p.take j)) h3 O3 ⟨g5, 0, none⟩ 1 1 [.int .i64 (k : Int)] h5 rfl (one_news X) (one_cell rfl) (by unfold maxLen; omega) (by omega) qZ ?_
              intro v2 uw1 O2 hg2 _
              obtain ⟨A2, d2, rfl⟩ := own_form O2
              have hgk : ∀ k9, (Value.slice A1 j d1).ownBlock = some k9 → Z ≤ k9 := fun k9 hk => own_ge O3 k9 hk
              exact hK.out (.slice A2 (j + 1) d2) uw1 ⟨(qX.grown hg2 hgk), (Nat.le_trans qZ hg2.size), (bl_grown qB hg2 (fun k9 hk => Nat.le_trans hwZ (hgk k9 hk))), fun h => qF (fun z => h (.inl z)), fun h => c0 (h.resolve_right (by decide)), fun h => c1 (h.resolve_right (by decide)), fun h => c2 (h.resolve_right (by decide)), fun h t0 => (t0 (by simp)).elim, fun h => c4 (h.resolve_right (by decide)), fun h t0 => (t0 (by simp)).elim, fun _ _ => ⟨A2, d2, rfl, O2⟩, fun h => c7 (h.resolve_right (by decide)), fun h => c8 (h.resolve_right (by decide)), fun h => c9 (h.resolve_right (by decide)), fun h => absurd (h.resolve_right (by decide)) (hN.out.1 10 (by decide +kernel)), fun h => absurd (h.resolve_right (by decide)) (hN.out.1 11 (by decide +kernel))⟩ _ rfl
            apply RelH.op2
            · intro L f u K hN hS hK
              simp only [puts, Act.put, List.setIfInBounds_toArray, List.set_cons_zero, List.set_cons_succ, upd, Nat.reduceEqDiff, ↓reduceIte, if_true, if_false] at hK ⊢
              have HS9 := Lib.hid hS
              obtain ⟨qX, qZ, qB, qF, c0, c1, c2, c3, c4, c5, c6, c7, c8, c9, c10, c11⟩ := hS
              have hF := qF (hN.out.1 11 (by decide +kernel))
              clear qX qF c0 c1 c2 c3 c4 c5 c6 c7 c8 c9 c10 c11
              go_simp
              obtain ⟨qX, qZ, qB, qF, c0, c1, c2, c3, c4, c5, c6, c7, c8, c9, c10, c11⟩ := HS9.out
              exact hK.out _ _ ⟨qX, qZ, qB, fun h => qF (fun z => h (.inl z)), fun h => c0 (h.resolve_right (by decide)), fun h => c1 (h.resolve_right (by decide)), fun h => c2 (h.resolve_right (by decide)), fun h t0 => c3 (h.resolve_right (by decide)) (fun z => t0 (.inl z)), fun h => c4 (h.resolve_right (by decide)), fun h t0 => c5 (h.resolve_right (by decide)) (fun z => t0 (.inl z)), fun h t0 => c6 (h.resolve_right (by decide)) (fun z => t0 (.inl z)), fun _ => rfl, fun h => c8 (h.resolve_right (by decide)), fun h => c9 (h.resolve_right (by decide)), fun h => c10 (h.resolve_right (by decide)), fun h => c11 (h.resolve_right (by decide))⟩ _ (by simp only [hF])
            apply RelH.op2
            · intro L f u K hN hS hK
              simp only [puts, Act.put, List.setIfInBounds_toArray, List.set_cons_zero, List.set_cons_succ, upd, Nat.reduceEqDiff, ↓reduceIte, if_true, if_false] at hK ⊢
              have HS9 := Lib.hid hS
              obtain ⟨qX, qZ, qB, qF, c0, c1, c2, c3, c4, c5, c6, c7, c8, c9, c10, c11⟩ := hS
              clear qX qF c0 c1 c2 c3 c4 c5 c6 c7 c8 c9 c10 c11
              go_simp
              obtain ⟨qX, qZ, qB, qF, c0, c1, c2, c3, c4, c5, c6, c7, c8, c9, c10, c11⟩ := HS9.out
              exact hK.out _ _ ⟨qX, qZ, qB, fun h => qF (fun z => h (.inl z)), fun h => c0 (h.resolve_right (by decide)), fun h => c1 (h.resolve_right (by decide)), fun h => c2 (h.resolve_right (by decide)), fun h t0 => c3 (h.resolve_right (by decide)) (fun z => t0 (.inl z)), fun h => c4 (h.resolve_right (by decide)), fun h t0 => c5 (h.resolve_right (by decide)) (fun z => t0 (.inl z)), fun h t0 => c6 (h.resolve_right (by decide)) (fun z => t0 (.inl z)), fun h => c7 (h.resolve_right (by decide)), fun _ => rfl, fun h => c9 (h.resolve_right (by decide)), fun h => c10 (h.resolve_right (by decide)), fun h => c11 (h.resolve_right (by decide))⟩ _ rfl
            apply RelH.op2
            · intro L f u K hN hS hK
              simp only [puts, Act.put, List.setIfInBounds_toArray, List.set_cons_zero, List.set_cons_succ, upd, Nat.reduceEqDiff, ↓reduceIte, if_true, if_false] at hK ⊢
              have HS9 := Lib.hid hS
              obtain ⟨qX, qZ, qB, qF, c0, c1, c2, c3, c4, c5, c6, c7, c8, c9, c10, c11⟩ := hS
              have e7 := c7 (hN.out.2 7 (by decide +kernel))
              have e8 := c8 (hN.out.2 8 (by decide +kernel))
              clear qX qF c0 c1 c2 c3 c4 c5 c6 c7 c8 c9 c10 c11
              go_simp
              obtain ⟨qX, qZ, qB, qF, c0, c1, c2, c3, c4, c5, c6, c7, c8, c9, c10, c11⟩ := HS9.out
              exact hK.out _ _ ⟨qX, qZ, qB, fun h => qF (fun z => h (.inl z)), fun h => c0 (h.resolve_right (by decide)), fun h => c1 (h.resolve_right (by decide)), fun h => c2 (h.resolve_right (by decide)), fun h t0 => c3 (h.resolve_right (by decide)) (fun z => t0 (.inl z)), fun h => c4 (h.resolve_right (by decide)), fun h t0 => c5 (h.resolve_right (by decide)) (fun z => t0 (.inl z)), fun h t0 => c6 (h.resolve_right (by decide)) (fun z => t0 (.inl z)), fun h => c7 (h.resolve_right (by decide)), fun h => c8 (h.resolve_right (by decide)), fun _ => rfl, fun h => c10 (h.resolve_right (by decide)), fun h => c11 (h.resolve_right (by decide))⟩ _ (by simp only [e7, e8])
            apply RelH.op2
            · intro L f u K hN hS hK
              simp only [puts, Act.put, List.setIfInBounds_toArray, List.set_cons_zero, List.set_cons_succ, upd, Nat.reduceEqDiff, ↓reduceIte, if_true, if_false] at hK ⊢
              have HS9 := Lib.hid hS
              obtain ⟨qX, qZ, qB, qF, c0, c1, c2, c3, c4, c5, c6, c7, c8, c9, c10, c11⟩ := hS
              obtain ⟨A2, d2, h6, O6⟩ := c6 (hN.out.2 6 (by decide +kernel)) (hN.out.1 10 (by decide +kernel))
              obtain h9 := c9 (hN.out.2 9 (by decide +kernel))
              refine step_own rfl (.tmp 65) (.tmp 68) 55 rfl Z 3 i0 _ 1 8 Try.underlying55 hi hz0 HI1.out HI.out rfl (by decide) (.slice A2 (j + 1) d2) (j + 1) (nv (p.take j) ++ [.int .i64 (k : Int)]) h6 O6 ⟨g, 0, none⟩ (k - j) (0) (nv (p.drop j)) h9 (by rw [nv_len, List.length_drop, HPL.out]; omega) (HDR.out u qX) (nv_one _) (by unfold maxLen; omega) (by omega) qZ ?_
              intro v3 uw1 O3 hg3 _
              obtain ⟨A3, d3, rfl⟩ := own_form O3
              have hgk : ∀ k9, (Value.slice A2 (j + 1) d2).ownBlock = some k9 → Z ≤ k9 := fun k9 hk => own_ge O6 k9 hk
              exact hK.out (.slice A3 (j + 1 + (k - j)) d3) uw1 ⟨(qX.grown hg3 hgk), (Nat.le_trans qZ hg3.size), (bl_grown qB hg3 (fun k9 hk => Nat.le_trans hwZ (hgk k9 hk))), fun h => qF (fun z => h (.inl z)), fun h => c0 (h.resolve_right (by decide)), fun h => c1 (h.resolve_right (by decide)), fun h => c2 (h.resolve_right (by decide)), fun h t0 => (t0 (.inl (hN.out.2 6 (by decide +kernel)))).elim, fun h => c4 (h.resolve_right (by decide)), fun h t0 => (t0 (.inl (hN.out.2 6 (by decide +kernel)))).elim, fun h t0 => (t0 (by simp)).elim, fun h => c7 (h.resolve_right (by decide)), fun h => c8 (h.resolve_right (by decide)), fun h => c9 (h.resolve_right (by decide)), fun _ => ⟨A3, d3, rfl, O3⟩, fun h => absurd (h.resolve_right (by decide)) (hN.out.1 11 (by decide +kernel))⟩ _ rfl
            apply RelH.op2
            · intro L f u K hN hS hK
              simp only [puts, Act.put, List.setIfInBounds_toArray, List.set_cons_zero, List.set_cons_succ, upd, Nat.reduceEqDiff, ↓reduceIte, if_true, if_false] at hK ⊢
              have HS9 := Lib.hid hS
              obtain ⟨qX, qZ, qB, qF, c0, c1, c2, c3, c4, c5, c6, c7, c8, c9, c10, c11⟩ := hS
              obtain ⟨A3, d3, e10, O3⟩ := c10 (hN.out.2 10 (by decide +kernel))
              clear qX qF c0 c1 c2 c3 c4 c5 c6 c7 c8 c9 c10 c11
              go_simp
              obtain ⟨qX, qZ, qB, qF, c0, c1, c2, c3, c4, c5, c6, c7, c8, c9, c10, c11⟩ := HS9.out
              exact hK.out _ _ ⟨qX, qZ, qB, fun h => (h (by simp)).elim, fun h => c0 (h.resolve_right (by decide)), fun h => c1 (h.resolve_right (by decide)), fun h => c2 (h.resolve_right (by decide)), fun h t0 => c3 (h.resolve_right (by decide)) (fun z => t0 (.inl z)), fun h => c4 (h.resolve_right (by decide)), fun h t0 => c5 (h.resolve_right (by decide)) (fun z => t0 (.inl z)), fun h t0 => c6 (h.resolve_right (by decide)) (fun z => t0 (.inl z)), fun h => c7 (h.resolve_right (by decide)), fun h => c8 (h.resolve_right (by decide)), fun h => c9 (h.resolve_right (by decide)), fun h => c10 (h.resolve_right (by decide)), fun _ => ⟨A3, d3, rfl, O3⟩⟩ _ (by simp only [e10])
            exact RelH.done
          intro L f V0 hL hS
          simp only [puts, Act.put, List.setIfInBounds_toArray, List.set_cons_zero, List.set_cons_succ]
          obtain ⟨qX, qZ, qB, qF, c0, c1, c2, c3, c4, c5, c6, c7, c8, c9, c10, c11⟩ := hS
          obtain ⟨A3, d3, e4, O3⟩ := c11 (hL 11 (by decide))
          rw [HNX.out] at O3
          rw [show j + 1 + (k - j) = k + 1 by omega] at e4 O3
          obtain ⟨g3, _, rfl, _⟩ := own_some O3 (by omega)
          have O4 := Lib.hid (own_base O3 hwZ)
          have HB4 := Lib.hid qB
          have e0 := c0 (hL 0 (by decide)); have e1 := c1 (hL 1 (by decide)); have e2 := c2 (hL 2 (by decide)); have e7 := c7 (hL 7 (by decide)); have e8 := c8 (hL 8 (by decide))
          simp only [e0, e1, e2, e4, e7, e8]
          clear e0 e1 e2 e4 e7 e8 c0 c1 c2 c3 c4 c5 c6 c7 c8 c9 c10 c11 hL qX qZ qB qF O3 HB
          go_wp2
          go_roundw
          case rel => exact ⟨k + 1, g3, d3, by omega, by go_num, rfl, O4, HB4.out⟩
          case measure => simp [intOf]; omega
        · have HDR := Lib.hid (fun (u : World) (h : RdL u Z (some ⟨g, 0, none⟩) (nv p)) (i : Nat) (v : Value) (hv : (nv (p.drop j))[i]? = some v) => show u.cell? ((⟨g, j, none⟩ : Addr).add i) = some v from by
            rw [cell_add]
            refine HRC.out u h (j + i) v ?_
            rw [nv_drop, List.getElem?_drop] at hv
            exact hv)
          have hcn2 : ¬ (c = j) := fun e => hcn e.symm
          refine wp_region_rel0 [59, 60, 61, 62, 63, 64, 65, 66, 67, 68, 69, 4] (fun L f w' => (RdL w' Z (some ⟨g, 0, none⟩) (nv p)) ∧ (Z ≤ w'.heap.size) ∧ (Below w.heap.size w w') ∧ ((¬ L 11 → f 4 = .slice (some ⟨g, 0, none⟩) k c)) ∧ (L 0 → f 59 = .slice (some ⟨g, 0, none⟩) k c) ∧ (L 1 → f 60 = .int .i64 (j : Int)) ∧ (L 2 → f 61 = .slice (some ⟨g, 0, none⟩) j c) ∧ (L 3 → ¬ L 6 → ∃ A1 c1, f 62 = .slice A1 j c1 ∧ w'.ownsRow Z 3 1 (.slice A1 j c1) (j) (nv (p.take j))) ∧ (L 4 → f 63 = .int .i64 (k : Int)) ∧ (L 5 → ¬ L 6 → ∃ h, f 64 = .slice (some ⟨h, 0, none⟩) 1 1 ∧ w'.cell? ⟨h, 0, none⟩ = some (.int .i64 (k : Int))) ∧ (L 6 → ¬ L 10 → ∃ A2 c2, f 65 = .slice A2 (j + 1) c2 ∧ w'.ownsRow Z 3 1 (.slice A2 (j + 1) c2) (j + 1) (nv (p.take j) ++ [.int .i64 (k : Int)])) ∧ (L 7 → f 66 = .slice (some ⟨g, 0, none⟩) k c) ∧ (L 8 → f 67 = .int .i64 (j : Int)) ∧ (L 9 → f 68 = .slice (some ⟨g, j, none⟩) (k - j) (c - j)) ∧ (L 10 → ∃ A3 c3, f 69 = .slice A3 (j + 1 + (k - j)) c3 ∧ w'.ownsRow Z 3 1 (.slice A3 (j + 1 + (k - j)) c3) (j + 1 + (k - j)) (nv (p.take j) ++ [.int .i64 (k : Int)] ++ nv (p.drop j))) ∧ (L 11 → ∃ A3 c3, f 4 = .slice A3 (j + 1 + (k - j)) c3 ∧ w'.ownsRow Z 3 1 (.slice A3 (j + 1 + (k - j)) c3) (j + 1 + (k - j)) (nv (p.take j) ++ [.int .i64 (k : Int)] ++ nv (p.drop j)))) (by kernel_rfl) (by kernel_rfl) (by kernel_rfl) ⟨HX0.out, HZ0.out, HB.drew, fun _ => rfl, fun h => h.elim, fun h => h.elim, fun h => h.elim, fun h => h.elim, fun h => h.elim, fun h => h.elim, fun h => h.elim, fun h => h.elim, fun h => h.elim, fun h => h.elim, fun h => h.elim, fun h => h.elim⟩ ?_ ?_
          · apply RelH.op2
            · intro L f u K hN hS hK
              simp only [puts, Act.put, List.setIfInBounds_toArray, List.set_cons_zero, List.set_cons_succ, upd, Nat.reduceEqDiff, ↓reduceIte, if_true, if_false] at hK ⊢
              have HS9 := Lib.hid hS
              obtain ⟨qX, qZ, qB, qF, c0, c1, c2, c3, c4, c5, c6, c7, c8, c9, c10, c11⟩ := hS
              have hF := qF (hN.out.1 11 (by decide +kernel))
              clear qX qF c0 c1 c2 c3 c4 c5 c6 c7 c8 c9 c10 c11
              go_simp
              obtain ⟨qX, qZ, qB, qF, c0, c1, c2, c3, c4, c5, c6, c7, c8, c9, c10, c11⟩ := HS9.out
              exact hK.out _ _ ⟨qX, qZ, qB, fun h => qF (fun z => h (.inl z)), fun _ => rfl, fun h => c1 (h.resolve_right (by decide)), fun h => c2 (h.resolve_right (by decide)), fun h t0 => c3 (h.resolve_right (by decide)) (fun z => t0 (.inl z)), fun h => c4 (h.resolve_right (by decide)), fun h t0 => c5 (h.resolve_right (by decide)) (fun z => t0 (.inl z)), fun h t0 => c6 (h.resolve_right (by decide)) (fun z => t0 (.inl z)), fun h => c7 (h.resolve_right (by decide)), fun h => c8 (h.resolve_right (by decide)), fun h => c9 (h.resolve_right (by decide)), fun h => c10 (h.resolve_right (by decide)), fun h => c11 (h.resolve_right (by decide))⟩ _ (by simp only [hF])
            apply RelH.op2
            · intro L f u K hN hS hK
              simp only [puts, Act.put, List.setIfInBounds_toArray, List.set_cons_zero, List.set_cons_succ, upd, Nat.reduceEqDiff, ↓reduceIte, if_true, if_false] at hK ⊢
              have HS9 := Lib.hid hS
              obtain ⟨qX, qZ, qB, qF, c0, c1, c2, c3, c4, c5, c6, c7, c8, c9, c10, c11⟩ := hS
              clear qX qF c0 c1 c2 c3 c4 c5 c6 c7 c8 c9 c10 c11
              go_simp
              obtain ⟨qX, qZ, qB, qF, c0, c1, c2, c3, c4, c5, c6, c7, c8, c9, c10, c11⟩ := HS9.out
              exact hK.out _ _ ⟨qX, qZ, qB, fun h => qF (fun z => h (.inl z)), fun h => c0 (h.resolve_right (by decide)), fun _ => rfl, fun h => c2 (h.resolve_right (by decide)), fun h t0 => c3 (h.resolve_right (by decide)) (fun z => t0 (.inl z)), fun h => c4 (h.resolve_right (by decide)), fun h t0 => c5 (h.resolve_right (by decide)) (fun z => t0 (.inl z)), fun h t0 => c6 (h.resolve_right (by decide)) (fun z => t0 (.inl z)), fun h => c7 (h.resolve_right (by decide)), fun h => c8 (h.resolve_right (by decide)), fun h => c9 (h.resolve_right (by decide)), fun h => c10 (h.resolve_right (by decide)), fun h => c11 (h.resolve_right (by decide))⟩ _ rfl
            apply RelH.op2
            · intro L f u K hN hS hK
              simp only [puts, Act.put, List.setIfInBounds_toArray, List.set_cons_zero, List.set_cons_succ, upd, Nat.reduceEqDiff, ↓reduceIte, if_true, if_false] at hK ⊢
              have HS9 := Lib.hid hS
              obtain ⟨qX, qZ, qB, qF, c0, c1, c2, c3, c4, c5, c6, c7, c8, c9, c10, c11⟩ := hS
              have e0 := c0 (hN.out.2 0 (by decide +kernel))
              have e1 := c1 (hN.out.2 1 (by decide +kernel))
              clear qX qF c0 c1 c2 c3 c4 c5 c6 c7 c8 c9 c10 c11
              go_simp
              obtain ⟨qX, qZ, qB, qF, c0, c1, c2, c3, c4, c5, c6, c7, c8, c9, c10, c11⟩ := HS9.out
              exact hK.out _ _ ⟨qX, qZ, qB, fun h => qF (fun z => h (.inl z)), fun h => c0 (h.resolve_right (by decide)), fun h => c1 (h.resolve_right (by decide)), fun _ => rfl, fun h t0 => c3 (h.resolve_right (by decide)) (fun z => t0 (.inl z)), fun h => c4 (h.resolve_right (by decide)), fun h t0 => c5 (h.resolve_right (by decide)) (fun z => t0 (.inl z)), fun h t0 => c6 (h.resolve_right (by decide)) (fun z => t0 (.inl z)), fun h => c7 (h.resolve_right (by decide)), fun h => c8 (h.resolve_right (by decide)), fun h => c9 (h.resolve_right (by decide)), fun h => c10 (h.resolve_right (by decide)), fun h => c11 (h.resolve_right (by decide))⟩ _ (by simp only [e0, e1])
            apply RelH.op2
            · intro L f u K hN hS hK
              simp only [puts, Act.put, List.setIfInBounds_toArray, List.set_cons_zero, List.set_cons_succ, upd, Nat.reduceEqDiff, ↓reduceIte, if_true, if_false] at hK ⊢
              have HS9 := Lib.hid hS
              obtain ⟨qX, qZ, qB, qF, c0, c1, c2, c3, c4, c5, c6, c7, c8, c9, c10, c11⟩ := hS
              have e2 := c2 (hN.out.2 2 (by decide +kernel))
              have HCON := Lib.hid (HOWN.out u qX)
              clear qX qF c0 c1 c2 c3 c4 c5 c6 c7 c8 c9 c10 c11
              go_simp
              go_at_call 105
              (with_reducible refine HCON.out.mono ?_)
              rintro e uw1 ⟨A1, k1, rfl, ho, hv⟩
              go_wp2_with fail
              obtain ⟨qX, qZ, qB, qF, c0, c1, c2, c3, c4, c5, c6, c7, c8, c9, c10, c11⟩ := HS9.out
              exact hK.out _ _ ⟨rdl_keep qX hv, (Nat.le_trans qZ hv.size), (be qB hv), fun h => qF (fun z => h (.inl z)), fun h => c0 (h.resolve_right (by decide)), fun h => c1 (h.resolve_right (by decide)), fun h => c2 (h.resolve_right (by decide)), fun _ _ => ⟨A1, k1, rfl, own_base ho qZ⟩, fun h => c4 (h.resolve_right (by decide)), fun h t0 => (let ⟨h, e, X⟩ := (c5 (h.resolve_right (by decide)) (fun z => t0 (.inl z))); ⟨h, e, SortD.cell_kept X hv⟩), fun h t0 => (let ⟨A9, c9, e, O9⟩ := (c6 (h.resolve_right (by decide)) (fun z => t0 (.inl z))); ⟨A9, c9, e, own_keep O9 hv⟩), fun h => c7 (h.resolve_right (by decide)), fun h => c8 (h.resolve_right (by decide)), fun h => c9 (h.resolve_right (by decide)), fun h => (let ⟨A9, c9, e, O9⟩ := (c10 (h.resolve_right (by decide))); ⟨A9, c9, e, own_keep O9 hv⟩), fun h => (let ⟨A9, c9, e, O9⟩ := (c11 (h.resolve_right (by decide))); ⟨A9, c9, e, own_keep O9 hv⟩)⟩ _ (by simp only [e2])
            apply RelH.op2
            · intro L f u K hN hS hK
              simp only [puts, Act.put, List.setIfInBounds_toArray, List.set_cons_zero, List.set_cons_succ, upd, Nat.reduceEqDiff, ↓reduceIte, if_true, if_false] at hK ⊢
              have HS9 := Lib.hid hS
              obtain ⟨qX, qZ, qB, qF, c0, c1, c2, c3, c4, c5, c6, c7, c8, c9, c10, c11⟩ := hS
              clear qX qF c0 c1 c2 c3 c4 c5 c6 c7 c8 c9 c10 c11
              go_simp
              obtain ⟨qX, qZ, qB, qF, c0, c1, c2, c3, c4, c5, c6, c7, c8, c9, c10, c11⟩ := HS9.out
              exact hK.out _ _ ⟨qX, qZ, qB, fun h => qF (fun z => h (.inl z)), fun h => c0 (h.resolve_right (by decide)), fun h => c1 (h.resolve_right (by decide)), fun h => c2 (h.resolve_right (by decide)), fun h t0 => c3 (h.resolve_right (by decide)) (fun z => t0 (.inl z)), fun _ => rfl, fun h t0 => c5 (h.resolve_right (by decide)) (fun z => t0 (.inl z)), fun h t0 => c6 (h.resolve_right (by decide)) (fun z => t0 (.inl z)), fun h => c7 (h.resolve_right (by decide)), fun h => c8 (h.resolve_right (by decide)), fun h => c9 (h.resolve_right (by decide)), fun h => c10 (h.resolve_right (by decide)), fun h => c11 (h.resolve_right (by decide))⟩ _ rfl
            apply RelH.op2
            · intro L f u K hN hS hK
              simp only [puts, Act.put, List.setIfInBounds_toArray, List.set_cons_zero, List.set_cons_succ, upd, Nat.reduceEqDiff, ↓reduceIte, if_true, if_false] at hK ⊢
              have HS9 := Lib.hid hS
              obtain ⟨qX, qZ, qB, qF, c0, c1, c2, c3, c4, c5, c6, c7, c8, c9, c10, c11⟩ := hS
              have e4 := c4 (hN.out.2 4 (by decide +kernel))
              have hv := al (Below.refl _ u) (o := .cells #[.int .i64 (k : Int)] 3)
              have hX := (Box.new (Below.refl _ u) [.int .i64 (k : Int)] 3 (g := u.heap.size) rfl).cells 0 _ rfl
              clear qX qF c0 c1 c2 c3 c4 c5 c6 c7 c8 c9 c10 c11
              go_simp
              obtain ⟨qX, qZ, qB, qF, c0, c1, c2, c3, c4, c5, c6, c7, c8, c9, c10, c11⟩ := HS9.out
              exact hK.out _ _ ⟨rdl_keep qX hv, (Nat.le_trans qZ hv.size), (be qB hv), fun h => qF (fun z => h (.inl z)), fun h => c0 (h.resolve_right (by decide)), fun h => c1 (h.resolve_right (by decide)), fun h => c2 (h.resolve_right (by decide)), fun h t0 => (let ⟨A9, c9, e, O9⟩ := (c3 (h.resolve_right (by decide)) (fun z => t0 (.inl z))); ⟨A9, c9, e, own_keep O9 hv⟩), fun h => c4 (h.resolve_right (by decide)), fun _ _ => ⟨_, rfl, hX⟩, fun h => absurd (h.resolve_right (by decide)) (hN.out.1 6 (by decide +kernel)), fun h => c7 (h.resolve_right (by decide)), fun h => c8 (h.resolve_right (by decide)), fun h => c9 (h.resolve_right (by decide)), fun h => (let ⟨A9, c9, e, O9⟩ := (c10 (h.resolve_right (by decide))); ⟨A9, c9, e, own_keep O9 hv⟩), fun h => (let ⟨A9, c9, e, O9⟩ := (c11 (h.resolve_right (by decide))); ⟨A9, c9, e, own_keep O9 hv⟩)⟩ _ (by simp only [e4])
            apply RelH.op2
            · intro L f u K hN hS hK
              simp only [puts, Act.put, List.setIfInBounds_toArray, List.set_cons_zero, List.set_cons_succ, upd, Nat.reduceEqDiff, ↓reduceIte, if_true, if_false] at hK ⊢
              have HS9 := Lib.hid hS
              obtain ⟨qX, qZ, qB, qF, c0, c1, c2, c3, c4, c5, c6, c7, c8, c9, c10, c11⟩ := hS
              obtain ⟨A1, d1, h3, O3⟩ := c3 (hN.out.2 3 (by decide +kernel)) (hN.out.1 6 (by decide +kernel))
              obtain ⟨g5, h5, X⟩ := c5 (hN.out.2 5 (by decide +kernel)) (hN.out.1 6 (by decide +kernel))
              refine step_own rfl (.tmp 62) (.tmp 64) 55 rfl Z 3 i0 _ 1 8 Try.underlying55 hi hz0 HI1.out HI.out rfl (by decide) (.slice A1 j d1) j (nv (p.take j)) h3 O3 ⟨g5, 0, none⟩ 1 1 [.int .i64 (k : Int)] h5 rfl (one_news X) (one_cell rfl) (by unfold maxLen; omega) (by omega) qZ ?_
              intro v2 uw1 O2 hg2 _
              obtain ⟨A2, d2, rfl⟩ := own_form O2
              have hgk : ∀ k9, (Value.slice A1 j d1).ownBlock = some k9 → Z ≤ k9 := fun k9 hk => own_ge O3 k9 hk
              exact hK.out (.slice A2 (j + 1) d2) uw1 ⟨(qX.grown hg2 hgk), (Nat.le_trans qZ hg2.size), (bl_grown qB hg2 (fun k9 hk => Nat.le_trans hwZ (hgk k9 hk))), fun h => qF (fun z => h (.inl z)), fun h => c0 (h.resolve_right (by decide)), fun h => c1 (h.resolve_right (by decide)), fun h => c2 (h.resolve_right (by decide)), fun h t0 => (t0 (by simp)).elim, fun h => c4 (h.resolve_right (by decide)), fun h t0 => (t0 (by simp)).elim, fun _ _ => ⟨A2, d2, rfl, O2⟩, fun h => c7 (h.resolve_right (by decide)), fun h => c8 (h.resolve_right (by decide)), fun h => c9 (h.resolve_right (by decide)), fun h => absurd (h.resolve_right (by decide)) (hN.out.1 10 (by decide +kernel)), fun h => absurd (h.resolve_right (by decide)) (hN.out.1 11 (by decide +kernel))⟩ _ rfl
            apply RelH.op2
            · intro L f u K hN hS hK
              simp only [puts, Act.put, List.setIfInBounds_toArray, List.set_cons_zero, List.set_cons_succ, upd, Nat.reduceEqDiff, ↓reduceIte, if_true, if_false] at hK ⊢
              have HS9 := Lib.hid hS
              obtain ⟨qX, qZ, qB, qF, c0, c1, c2, c3, c4, c5, c6, c7, c8, c9, c10, c11⟩ := hS
              have hF := qF (hN.out.1 11 (by decide +kernel))
              clear qX qF c0 c1 c2 c3 c4 c5 c6 c7 c8 c9 c10 c11
              go_simp
              obtain ⟨qX, qZ, qB, qF, c0, c1, c2, c3, c4, c5, c6, c7, c8, c9, c10, c11⟩ := HS9.out
              exact hK.out _ _ ⟨qX, qZ, qB, fun h => qF (fun z => h (.inl z)), fun h => c0 (h.resolve_right (by decide)), fun h => c1 (h.resolve_right (by decide)), fun h => c2 (h.resolve_right (by decide)), fun h t0 => c3 (h.resolve_right (by decide)) (fun z => t0 (.inl z)), fun h => c4 (h.resolve_right (by decide)), fun h t0 => c5 (h.resolve_right (by decide)) (fun z => t0 (.inl z)), fun h t0 => c6 (h.resolve_right (by decide)) (fun z => t0 (.inl z)), fun _ => rfl, fun h => c8 (h.resolve_right (by decide)), fun h => c9 (h.resolve_right (by decide)), fun h => c10 (h.resolve_right (by decide)), fun h => c11 (h.resolve_right (by decide))⟩ _ (by simp only [hF])
            apply RelH.op2
            · intro L f u K hN hS hK
              simp only [puts, Act.put, List.setIfInBounds_toArray, List.set_cons_zero, List.set_cons_succ, upd, Nat.reduceEqDiff, ↓reduceIte, if_true, if_false] at hK ⊢
              have HS9 := Lib.hid hS
              obtain ⟨qX, qZ, qB, qF, c0, c1, c2, c3, c4, c5, c6, c7, c8, c9, c10, c11⟩ := hS
              clear qX qF c0 c1 c2 c3 c4 c5 c6 c7 c8 c9 c10 c11
              go_simp
              obtain ⟨qX, qZ, qB, qF, c0, c1, c2, c3, c4, c5, c6, c7, c8, c9, c10, c11⟩ := HS9.out
              exact hK.out _ _ ⟨qX, qZ, qB, fun h => qF (fun z => h (.inl z)), fun h => c0 (h.resolve_right (by decide)), fun h => c1 (h.resolve_right (by decide)), fun h => c2 (h.resolve_right (by decide)), fun h t0 => c3 (h.resolve_right (by decide)) (fun z => t0 (.inl z)), fun h => c4 (h.resolve_right (by decide)), fun h t0 => c5 (h.resolve_right (by decide)) (fun z => t0 (.inl z)), fun h t0 => c6 (h.resolve_right (by decide)) (fun z => t0 (.inl z)), fun h => c7 (h.resolve_right (by decide)), fun _ => rfl, fun h => c9 (h.resolve_right (by decide)), fun h => c10 (h.resolve_right (by decide)), fun h => c11 (h.resolve_right (by decide))⟩ _ rfl
            apply RelH.op2
            · intro L f u K hN hS hK
              simp only [puts, Act.put, List.setIfInBounds_toArray, List.set_cons_zero, List.set_cons_succ, upd, Nat.reduceEqDiff, ↓reduceIte, if_true, if_false] at hK ⊢
              have HS9 := Lib.hid hS
              obtain ⟨qX, qZ, qB, qF, c0, c1, c2, c3, c4, c5, c6, c7, c8, c9, c10, c11⟩ := hS
              have e7 := c7 (hN.out.2 7 (by decide +kernel))
              have e8 := c8 (hN.out.2 8 (by decide +kernel))
              clear qX qF c0 c1 c2 c3 c4 c5 c6 c7 c8 c9 c10 c11
              go_simp
              obtain ⟨qX, qZ, qB, qF, c0, c1, c2, c3, c4, c5, c6, c7, c8, c9, c10, c11⟩ := HS9.out
              exact hK.out _ _ ⟨qX, qZ, qB, fun h => qF (fun z => h (.inl z)), fun h => c0 (h.resolve_right (by decide)), fun h => c1 (h.resolve_right (by decide)), fun h => c2 (h.resolve_right (by decide)), fun h t0 => c3 (h.resolve_right (by decide)) (fun z => t0 (.inl z)), fun h => c4 (h.resolve_right (by decide)), fun h t0 => c5 (h.resolve_right (by decide)) (fun z => t0 (.inl z)), fun h t0 => c6 (h.resolve_right (by decide)) (fun z => t0 (.inl z)), fun h => c7 (h.resolve_right (by decide)), fun h => c8 (h.resolve_right (by decide)), fun _ => rfl, fun h => c10 (h.resolve_right (by decide)), fun h => c11 (h.resolve_right (by decide))⟩ _ (by simp only [e7, e8])
            apply RelH.op2
            · intro L f u K hN hS hK
              simp only [puts, Act.put, List.setIfInBounds_toArray, List.set_cons_zero, List.set_cons_succ, upd, Nat.reduceEqDiff, ↓reduceIte, if_true, if_false] at hK ⊢
              have HS9 := Lib.hid hS
              obtain ⟨qX, qZ, qB, qF, c0, c1, c2, c3, c4, c5, c6, c7, c8, c9, c10, c11⟩ := hS
              obtain ⟨A2, d2, h6, O6⟩ := c6 (hN.out.2 6 (by decide +kernel)) (hN.out.1 10 (by decide +kernel))
              obtain h9 := c9 (hN.out.2 9 (by decide +kernel))
              refine step_own rfl (.tmp 65) (.tmp 68) 55 rfl Z 3 i0 _ 1 8 Try.underlying55 hi hz0 HI1.out HI.out rfl (by decide) (.slice A2 (j + 1) d2) (j + 1) (nv (p.take j) ++ [.int .i64 (k : Int)]) h6 O6 ⟨g, j, none⟩ (k - j) (c - j) (nv (p.drop j)) h9 (by rw [nv_len, List.length_drop, HPL.out]; omega) (HDR.out u qX) (nv_one _) (by unfold maxLen; omega) (by omega) qZ ?_
              intro v3 uw1 O3 hg3 _
              obtain ⟨A3, d3, rfl⟩ := own_form O3
              have hgk : ∀ k9, (Value.slice A2 (j + 1) d2).ownBlock = some k9 → Z ≤ k9 := fun k9 hk => own_ge O6 k9 hk
              exact hK.out (.slice A3 (j + 1 + (k - j)) d3) uw1 ⟨(qX.grown hg3 hgk), (Nat.le_trans qZ hg3.size), (bl_grown qB hg3 (fun k9 hk => Nat.le_trans hwZ (hgk k9 hk))), fun h => qF (fun z => h (.inl z)), fun h => c0 (h.resolve_right (by decide)), fun h => c1 (h.resolve_right (by decide)), fun h => c2 (h.resolve_right (by decide)), fun h t0 => (t0 (.inl (hN.out.2 6 (by decide +kernel)))).elim, fun h => c4 (h.resolve_right (by decide)), fun h t0 => (t0 (.inl (hN.out.2 6 (by decide +kernel)))).elim, fun h t0 => (t0 (by simp)).elim, fun h => c7 (h.resolve_right (by decide)), fun h => c8 (h.resolve_right (by decide)), fun h => c9 (h.resolve_right (by decide)), fun _ => ⟨A3, d3, rfl, O3⟩, fun h => absurd (h.resolve_right (by decide)) (hN.out.1 11 (by decide +kernel))⟩ _ rfl
            apply RelH.op2
            · intro L f u K hN hS hK
              simp only [puts, Act.put, List.setIfInBounds_toArray, List.set_cons_zero, List.set_cons_succ, upd, Nat.reduceEqDiff, ↓reduceIte, if_true, if_false] at hK ⊢
              have HS9 := Lib.hid hS
              obtain ⟨qX, qZ, qB, qF, c0, c1, c2, c3, c4, c5, c6, c7, c8, c9, c10, c11⟩ := hS
              obtain ⟨A3, d3, e10, O3⟩ := c10 (hN.out.2 10 (by decide +kernel))
              clear qX qF c0 c1 c2 c3 c4 c5 c6 c7 c8 c9 c10 c11
              go_simp
              obtain ⟨qX, qZ, qB, qF, c0, c1, c2, c3, c4, c5, c6, c7, c8, c9, c10, c11⟩ := HS9.out
              exact hK.out _ _ ⟨qX, qZ, qB, fun h => (h (by simp)).elim, fun h => c0 (h.resolve_right (by decide)), fun h => c1 (h.resolve_right (by decide)), fun h => c2 (h.resolve_right (by decide)), fun h t0 => c3 (h.resolve_right (by decide)) (fun z => t0 (.inl z)), fun h => c4 (h.resolve_right (by decide)), fun h t0 => c5 (h.resolve_right (by decide)) (fun z => t0 (.inl z)), fun h t0 => c6 (h.resolve_right (by decide)) (fun z => t0 (.inl z)), fun h => c7 (h.resolve_right (by decide)), fun h => c8 (h.resolve_right (by decide)), fun h => c9 (h.resolve_right (by decide)), fun h => c10 (h.resolve_right (by decide)), fun _ => ⟨A3, d3, rfl, O3⟩⟩ _ (by simp only [e10])
            exact RelH.done
          intro L f V0 hL hS
          simp only [puts, Act.put, List.setIfInBounds_toArray, List.set_cons_zero, List.set_cons_succ]
          obtain ⟨qX, qZ, qB, qF, c0, c1, c2, c3, c4, c5, c6, c7, c8, c9, c10, c11⟩ := hS
          obtain ⟨A3, d3, e4, O3⟩ := c11 (hL 11 (by decide))
          rw [HNX.out] at O3
          rw [show j + 1 + (k - j) = k + 1 by omega] at e4 O3
          obtain ⟨g3, _, rfl, _⟩ := own_some O3 (by omega)
          have O4 := Lib.hid (own_base O3 hwZ)
          have HB4 := Lib.hid qB
          have e0 := c0 (hL 0 (by decide)); have e1 := c1 (hL 1 (by decide)); have e2 := c2 (hL 2 (by decide)); have e7 := c7 (hL 7 (by decide)); have e8 := c8 (hL 8 (by decide))
          simp only [e0, e1, e2, e4, e7, e8]
          clear e0 e1 e2 e4 e7 e8 c0 c1 c2 c3 c4 c5 c6 c7 c8 c9 c10 c11 hL qX qZ qB qF O3 HB
          go_wp2
          go_roundw
          case rel => exact ⟨k + 1, g3, d3, by omega, by go_num, rfl, O4, HB4.out⟩
          case measure => simp [intOf]; omega
    · have hkk : k = l.length := by omega
      subst hkk
      have HO2 := HO
      go_wp2
      go_ret2
      exact dep_yes HG.out rfl HO2.out HB
end Go.Proofs.Ytciohcipmkhneaa.SerD
