/- Ladders: rows of indices: rungsWhere and its closures, RungsFor, l13Off. Made by tools/mk_ladw.py. -/
import Derived.Test.YtngominkeammiaaLadG
import Derived.Test.YtngominkeammiaaSInt
import Derived.Test.YtngominkeammiaaSerH
namespace Go.Proofs.Ytngominkeammiaa.LadW
open Go.RowKit Go.Proofs.Ytngominkeammiaa.Mem Go.Proofs.Ytngominkeammiaa.Base Go.Proofs.Ytngominkeammiaa.Within Go.Proofs.Ytngominkeammiaa.Brine Go.Proofs.Ytngominkeammiaa.Regn Go.Proofs.Ytngominkeammiaa.Boxes Go.Proofs.Ytngominkeammiaa.Keep Go.Proofs.Ytngominkeammiaa.LadP Go.Proofs.Ytngominkeammiaa.LadS Go.Proofs.Ytngominkeammiaa.LadG
open Go.Proofs.Ytngominkeammiaa.SInt (iv iv_len iv_get)
open Go.Proofs.Ytngominkeammiaa.SRung hiding RPost rpost
set_option linter.unusedVariables false
set_option linter.unusedSimpArgs false
set_option maxRecDepth 100000
theorem info_int : (Try.prog.info? 3).map (fun i => (i.zero, i.size, i.bytes)) = some (some (.int .i64 0), 1, 8) := by kernel_rfl
def IxPost (L : List Int) (q : Bool) (w : World) (e : Ending) (w' : World) : Prop :=
  ∃ A c, e = .returned (.tuple #[.slice A L.length c, .bool q]) ∧ w'.ownsRow w.heap.size 3 1 (.slice A L.length c) L.length (iv L) ∧ Below w.heap.size w w'
theorem ix_mk {L M : List Int} {q r : Bool} {w w' : World} {A : Option Addr} {c : Nat} {v : Value} (hL : L = M) (hq : q = r) (h : v = .tuple #[.slice A M.length c, .bool r])
    (ho : w'.ownsRow w.heap.size 3 1 (.slice A M.length c) M.length (iv M)) (hB : Below w.heap.size w w') : IxPost L q w (.returned v) w' := by
  subst hL; subst hq; exact ⟨A, c, by rw [h], ho, hB⟩
def OnePost (L : List Int) (w : World) (e : Ending) (w' : World) : Prop :=
  ∃ A c, e = .returned (.slice A L.length c) ∧ w'.ownsRow w.heap.size 3 1 (.slice A L.length c) L.length (iv L) ∧ Below w.heap.size w w'
theorem one_mk {L M : List Int} {w w' : World} {A : Option Addr} {c : Nat} {v : Value} (hL : L = M) (h : v = .slice A M.length c)
    (ho : w'.ownsRow w.heap.size 3 1 (.slice A M.length c) M.length (iv M)) (hB : Below w.heap.size w w') : OnePost L w (.returned v) w' := by
  subst hL; exact ⟨A, c, by rw [h], ho, hB⟩
theorem iempty (u : World) (base : Nat) (hb : base ≤ u.heap.size) : (u.alloc (.cells #[] 3)).ownsRow base 3 1 (.slice (some ⟨u.heap.size, 0, none⟩) 0 0) 0 (iv []) := by
  have := World.ownsRow_lit u #[] 0 (e := 3) (size := 1) (base := base) hb (by unfold maxLen; omega) rfl
  simpa [iv] using this
theorem row_more {w : World} {base c1 : Nat} {A1 : Option Addr} {L : List Int} {x : Int} (h : w.ownsRow base 3 1 (.slice A1 (L.length + 1) c1) (L.length + 1) (iv L ++ [.int .i64 x])) : w.ownsRow base 3 1 (.slice A1 (L ++ [x]).length c1) (L ++ [x]).length (iv (L ++ [x])) := by
  have e : iv (L ++ [x]) = iv L ++ [.int .i64 x] := by simp [iv]
  rw [e, List.length_append]; exact h
theorem lower {w w' : World} {B B' : Nat} (h : Below B w w') (hl : B' ≤ B) : Below B' w w' := ⟨h.os, h.tape, h.output, h.size, fun k hk => h.block k (by omega)⟩
theorem cell_kept {w w' : World} {b o : Nat} {v : Value} (h : w.cell? ⟨b, o, none⟩ = some v) (hb : Below w.heap.size w w') : w'.cell? ⟨b, o, none⟩ = some v :=
  ((bcell hb).1 _ _ (by
    rcases Nat.lt_or_ge b w.heap.size with hl | hl
    · exact hl
    · have : w.heap[b]? = none := Array.getElem?_eq_none hl
      simp [World.cell?, this] at h)).trans h
set_option maxHeartbeats 800000 in
theorem whereF (T g1 g2 : Nat) (E : World → Prop) (hE : ∀ u u1, E u → Below T u u1 → E u1) (p : Nat → Bool) (n : Nat) (HC : ∀ u (k : Nat), E u → T ≤ u.heap.size → k < n → Calls Try.prog 66 #[.int .i64 k, .pointer (some ⟨g1, 0, none⟩), .pointer (some ⟨g2, 0, none⟩)] u (RPost (.bool (p k)) u))
    (P : Option Addr) (cap : Nat) (w : World) (he : E w) (hT : T ≤ w.heap.size) (hn : n ≤ 100) :
    Calls Try.prog 65 #[.slice P n cap, .func (.func 66) #[] #[.pointer (some ⟨g1, 0, none⟩), .pointer (some ⟨g2, 0, none⟩)]] w (OnePost (pick p n) w) := by
  obtain ⟨i0, hi, hz0, hz1, hz2⟩ := info_parts info_int
  have HI := Lib.hid hz2; clear hz2
  have HI1 := Lib.hid hz1; clear hz1
  have HE := Lib.hid (fun u (hu : Below w.heap.size w u) => hE w u he (lower hu hT))
  have HCC := Lib.hid HC
  have HT := Lib.hid hT
  clear hE he HC hT
  go_enter Try.func65, Try.ntmps65
  go_wp2
  go_loopw [5, 10] (fun o i wr => ∃ (k : Nat) (L : List Int) (A : Option Addr) (c : Nat), k ≤ n ∧ i = .int .i64 k ∧ o = .slice A L.length c ∧ Hid (pick p k = L) ∧ L.length ≤ k ∧ wr.ownsRow w.heap.size 3 1 (.slice A L.length c) L.length (iv L) ∧ Below w.heap.size w wr) (fun _ i _ => n - (intOf i).toNat)
  case atStart => exact ⟨0, [], _, _, Nat.zero_le _, rfl, rfl, Lib.hid rfl, Nat.zero_le _, iempty w _ (Nat.le_refl _), al (Below.refl _ _)⟩
  case round =>
    obtain ⟨k, L, A, c, hk, rfl, rfl, HL0, hLk, O, HB⟩ := hrel
    by_cases hlt : k < n
    · have HL := Lib.hid hlt
      have hm1 : L.length + 1 ≤ maxLen := by unfold maxLen; omega
      have hm2 : (L.length + 1) * 8 ≤ 140737488355328 := by omega
      have HY := Lib.hid (fun h : p k = true => show pick p (k + 1) = L ++ [(k : Int)] by rw [pick_yes h, HL0.out])
      have HN := Lib.hid (fun h : p k = false => show pick p (k + 1) = L by rw [pick_no h, HL0.out])
      have HCK := Lib.hid (HCC.out wr k (HE.out wr HB) (Nat.le_trans HT.out HB.size) hlt)
      go_wp2_with fail
      refine HCK.out.mono ?_
      rintro e w1 ⟨rfl, hv⟩
      replace O := own_keep O hv
      replace HB := be HB hv
      have hsz := HB.size
      clear hv
      cases hp : p k
      · have HN1 := Lib.hid (HN.out hp); clear HY HN hp
        go_wp2
        go_roundw
        case rel => exact ⟨k + 1, L, A, c, HL.out, by go_num, rfl, HN1, by omega, O, HB⟩
        case measure => have := HL.out; simp [intOf]; omega
      · have HY1 := Lib.hid (HY.out hp); clear HY HN hp
        go_wp2_with (at_builtin; go_must (refine wpList_append_own _ rfl _ _ 35 rfl w.heap.size 3 i0 _ 1 8 Try.underlying35 hi hz0 HI1.out HI.out rfl (by decide) _ L.length _ rfl (O.alloc _) ⟨w1.heap.size, 0, none⟩ 1 1 [.int .i64 (k : Int)] rfl rfl (cell_one_new _ _ _) (one_cell rfl) hm1 hm2 (by rw [size_alloc']; omega) ?_; intro v' w9 hown1 hgrow _))
        obtain ⟨A1, c1, rfl⟩ := own_form hown1
        have HO1 := row_more hown1
        have hB9 := below_append HB O hgrow
        clear hgrow hown1 HB O hm1 hm2 hsz
        go_wp2
        go_roundw
        case rel => exact ⟨k + 1, L ++ [(k : Int)], A1, c1, HL.out, by go_num, by rw [List.length_append] <;> rfl, HY1, by rw [List.length_append]; simp; omega, HO1, hB9⟩
        case measure => have := HL.out; simp [intOf]; omega
    · obtain rfl : k = n := by omega
      go_wp2
      go_ret
      exact one_mk HL0.out rfl O HB
set_option maxHeartbeats 800000 in
theorem whereO (T g1 g2 : Nat) (E : World → Prop) (hE : ∀ u u1, E u → Below T u u1 → E u1) (p : Nat → Bool) (n : Nat) (HC : ∀ u (k : Nat), E u → T ≤ u.heap.size → k < n → Calls Try.prog 74 #[.int .i64 k, .pointer (some ⟨g1, 0, none⟩), .pointer (some ⟨g2, 0, none⟩)] u (RPost (.bool (p k)) u))
    (P : Option Addr) (cap : Nat) (w : World) (he : E w) (hT : T ≤ w.heap.size) (hn : n ≤ 100) :
    Calls Try.prog 65 #[.slice P n cap, .func (.func 74) #[] #[.pointer (some ⟨g1, 0, none⟩), .pointer (some ⟨g2, 0, none⟩)]] w (OnePost (pick p n) w) := by
  obtain ⟨i0, hi, hz0, hz1, hz2⟩ := info_parts info_int
  have HI := Lib.hid hz2; clear hz2
  have HI1 := Lib.hid hz1; clear hz1
  have HE := Lib.hid (fun u (hu : Below w.heap.size w u) => hE w u he (lower hu hT))
  have HCC := Lib.hid HC
  have HT := Lib.hid hT
  clear hE he HC hT
  go_enter Try.func65, Try.ntmps65
  go_wp2
  go_loopw [5, 10] (fun o i wr => ∃ (k : Nat) (L : List Int) (A : Option Addr) (c : Nat), k ≤ n ∧ i = .int .i64 k ∧ o = .slice A L.length c ∧ Hid (pick p k = L) ∧ L.length ≤ k ∧ wr.ownsRow w.heap.size 3 1 (.slice A L.length c) L.length (iv L) ∧ Below w.heap.size w wr) (fun _ i _ => n - (intOf i).toNat)
  case atStart => exact ⟨0, [], _, _, Nat.zero_le _, rfl, rfl, Lib.hid rfl, Nat.zero_le _, iempty w _ (Nat.le_refl _), al (Below.refl _ _)⟩
  case round =>
    obtain ⟨k, L, A, c, hk, rfl, rfl, HL0, hLk, O, HB⟩ := hrel
    by_cases hlt : k < n
    · have HL := Lib.hid hlt
      have hm1 : L.length + 1 ≤ maxLen := by unfold maxLen; omega
      have hm2 : (L.length + 1) * 8 ≤ 140737488355328 := by omega
      have HY := Lib.hid (fun h : p k = true => show pick p (k + 1) = L ++ [(k : Int)] by rw [pick_yes h, HL0.out])
      have HN := Lib.hid (fun h : p k = false => show pick p (k + 1) = L by rw [pick_no h, HL0.out])
      have HCK := Lib.hid (HCC.out wr k (HE.out wr HB) (Nat.le_trans HT.out HB.size) hlt)
      go_wp2_with fail
      refine HCK.out.mono ?_
      rintro e w1 ⟨rfl, hv⟩
      replace O := own_keep O hv
      replace HB := be HB hv
      have hsz := HB.size
      clear hv
      cases hp : p k
      · have HN1 := Lib.hid (HN.out hp); clear HY HN hp
        go_wp2
        go_roundw
        case rel => exact ⟨k + 1, L, A, c, HL.out, by go_num, rfl, HN1, by omega, O, HB⟩
        case measure => have := HL.out; simp [intOf]; omega
      · have HY1 := Lib.hid (HY.out hp); clear HY HN hp
        go_wp2_with (at_builtin; go_must (refine wpList_append_own _ rfl _ _ 35 rfl w.heap.size 3 i0 _ 1 8 Try.underlying35 hi hz0 HI1.out HI.out rfl (by decide) _ L.length _ rfl (O.alloc _) ⟨w1.heap.size, 0, none⟩ 1 1 [.int .i64 (k : Int)] rfl rfl (cell_one_new _ _ _) (one_cell rfl) hm1 hm2 (by rw [size_alloc']; omega) ?_; intro v' w9 hown1 hgrow _))
        obtain ⟨A1, c1, rfl⟩ := own_form hown1
        have HO1 := row_more hown1
        have hB9 := below_append HB O hgrow
        clear hgrow hown1 HB O hm1 hm2 hsz
        go_wp2
        go_roundw
        case rel => exact ⟨k + 1, L ++ [(k : Int)], A1, c1, HL.out, by go_num, by rw [List.length_append] <;> rfl, HY1, by rw [List.length_append]; simp; omega, HO1, hB9⟩
        case measure => have := HL.out; simp [intOf]; omega
    · obtain rfl : k = n := by omega
      go_wp2
      go_ret
      exact one_mk HL0.out rfl O HB
/-- what RungsFor's closure captures: the box g1 of a brine, the box g2 of a list. -/
structure EnvF (T g1 g2 : Nat) (a c : Int) (b o cap : Nat) (l : List R) (w : World) : Prop where
  salt : w.cell? ⟨g1, 0, none⟩ = some (.int .i64 a) ∧ w.cell? ⟨g1, 1, none⟩ = some (.int .i64 c)
  box : w.cell? ⟨g2, 0, none⟩ = some (.slice (some ⟨b, o, none⟩) l.length cap)
  cells : ∀ (j : Nat) (v : Value), (flat l)[j]? = some v → w.cell? ⟨b, o + j, none⟩ = some v
theorem EnvF.below {T g1 g2 : Nat} {a c : Int} {b o cap : Nat} {l : List R} (h1 : g1 < T) (h2 : g2 < T) (hb : b < T) {w w' : World} (h : EnvF T g1 g2 a c b o cap l w) (hv : Below T w w') : EnvF T g1 g2 a c b o cap l w' :=
  ⟨⟨((bcell hv).1 _ _ h1).trans h.salt.1, ((bcell hv).1 _ _ h1).trans h.salt.2⟩, ((bcell hv).1 _ _ h2).trans h.box, fun j v hj => ((bcell hv).1 _ _ hb).trans (h.cells j v hj)⟩
set_option maxHeartbeats 800000 in
theorem cloF (T g1 g2 : Nat) (a c : Int) (b o cap : Nat) (l : List R) (hg : good l = true) (hbr : okB a c = true) (k : Nat) (w : World) (h1 : g1 < T) (h2 : g2 < T) (hb : b < T) (hT : T ≤ w.heap.size) (he : EnvF T g1 g2 a c b o cap l w) (hk : k < l.length) :
    Calls Try.prog 66 #[.int .i64 k, .pointer (some ⟨g1, 0, none⟩), .pointer (some ⟨g2, 0, none⟩)] w (RPost (.bool (onP l a c k)) w) := by
  obtain ⟨x, hx⟩ : ∃ x, l[k] = x := ⟨_, rfl⟩
  have hox := good_get hg hk hx
  have h8 := (good_all hg).2.1
  have HV := Lib.hid (onP_at a c hk hx)
  obtain ⟨x0, x1⟩ := cells2 (Below.refl w.heap.size w) (show b < w.heap.size by omega) he.cells hk hx
  obtain ⟨s0, s1⟩ := he.salt
  have bx := he.box
  have i1 : (k : Int) < l.length := by omega
  have HC := Lib.hid (fun u0 => st_impl x a c hox hbr u0)
  have HB := Below.refl w.heap.size w
  clear he hx hox
  go_enter Try.func66, Try.ntmps66
  go_wp2_with fail
  refine wp_region_text (fun w' => w'.cell? ⟨g2, 0, none⟩ = some (.slice (some ⟨b, o, none⟩) l.length cap) ∧ w'.cell? ⟨g1, 0, none⟩ = some (.int .i64 a) ∧ w'.cell? ⟨g1, 1, none⟩ = some (.int .i64 c) ∧ w'.cell? ⟨b, o + k * 2, none⟩ = some (.int .i64 x.f0) ∧ w'.cell? ⟨b, o + k * 2 + 1, none⟩ = some (.int .i64 x.f1) ∧ Below w.heap.size w w') (by kernel_rfl) (by kernel_rfl) ⟨cell_kept bx (Below.refl _ _).drew, cell_kept s0 (Below.refl _ _).drew, cell_kept s1 (Below.refl _ _).drew, cell_kept x0 (Below.refl _ _).drew, cell_kept x1 (Below.refl _ _).drew, be HB (Below.refl _ _).drew⟩ ?_
  iterate 7 (
    apply SeqH.one
    · intro uw K hS hK
      obtain ⟨qbx, qs0, qs1, qx0, qx1, qHB⟩ := hS
      first
        | (go_simp; exact hK.out _ ⟨qbx, qs0, qs1, qx0, qx1, qHB⟩)
        | (go_simp; go_at_call 67; (with_reducible refine (HC.out _).mono ?_); rintro e uw1 ⟨rfl, hv⟩; go_wp2_with fail; exact hK.out _ ⟨cell_kept qbx hv, cell_kept qs0 hv, cell_kept qs1 hv, cell_kept qx0 hv, cell_kept qx1 hv, be qHB hv⟩)
    try simp only [Act.put, List.setIfInBounds_toArray, List.set_cons_zero, List.set_cons_succ])
  refine SeqH.end' rfl ?_
  intro v1 hS
  clear bx s0 s1 x0 x1 HB
  obtain ⟨bx, s0, s1, x0, x1, HB⟩ := hS
  go_wp2
  go_ret
  exact rpost (by rw [HV.out] <;> rfl) HB
/-- what OffRungs' closure captures: the box g1 of a series, the box g2 of a list. -/
def offP (l : List R) (s : List SBasin.R) (k : Nat) : Bool := !(st (l.getD k zero) (s.getD k SBasin.zero).f1 (s.getD k SBasin.zero).f2)
theorem offP_at {l : List R} {s : List SBasin.R} {k : Nat} {x : R} {y : SBasin.R} (hk : k < l.length) (hx : l[k] = x) (hk2 : k < s.length) (hy : s[k] = y) : offP l s k = !(st x y.f1 y.f2) := by
  unfold offP; rw [getD_at hk, hx, SerH.getD_at hk2, hy]
structure EnvO (T g1 g2 : Nat) (b' o' cap' : Nat) (s : List SBasin.R) (b o cap : Nat) (l : List R) (w : World) : Prop where
  sbox : w.cell? ⟨g1, 0, none⟩ = some (.slice (some ⟨b', o', none⟩) s.length cap')
  scells : ∀ (j : Nat) (v : Value), (SBasin.flat s)[j]? = some v → w.cell? ⟨b', o' + j, none⟩ = some v
  box : w.cell? ⟨g2, 0, none⟩ = some (.slice (some ⟨b, o, none⟩) l.length cap)
  cells : ∀ (j : Nat) (v : Value), (flat l)[j]? = some v → w.cell? ⟨b, o + j, none⟩ = some v
theorem EnvO.below {T g1 g2 : Nat} {b' o' cap' : Nat} {s : List SBasin.R} {b o cap : Nat} {l : List R} (h1 : g1 < T) (h2 : g2 < T) (hb : b < T) (hb' : b' < T) {w w' : World} (h : EnvO T g1 g2 b' o' cap' s b o cap l w) (hv : Below T w w') : EnvO T g1 g2 b' o' cap' s b o cap l w' :=
  ⟨((bcell hv).1 _ _ h1).trans h.sbox, fun j v hj => ((bcell hv).1 _ _ hb').trans (h.scells j v hj), ((bcell hv).1 _ _ h2).trans h.box, fun j v hj => ((bcell hv).1 _ _ hb).trans (h.cells j v hj)⟩
set_option maxHeartbeats 800000 in
theorem cloO (T g1 g2 : Nat) (b' o' cap' : Nat) (s : List SBasin.R) (b o cap : Nat) (l : List R) (hg : good l = true) (hs : SerH.good s = true) (hls : l.length = s.length) (k : Nat) (w : World) (h1 : g1 < T) (h2 : g2 < T) (hb : b < T) (hb' : b' < T) (hT : T ≤ w.heap.size) (he : EnvO T g1 g2 b' o' cap' s b o cap l w) (hk : k < l.length) :
    Calls Try.prog 74 #[.int .i64 k, .pointer (some ⟨g1, 0, none⟩), .pointer (some ⟨g2, 0, none⟩)] w (RPost (.bool (offP l s k)) w) := by
  obtain ⟨x, hx⟩ : ∃ x, l[k] = x := ⟨_, rfl⟩
  have hk2 : k < s.length := by omega
  obtain ⟨y, hy⟩ : ∃ y, s[k] = y := ⟨_, rfl⟩
  have hox := good_get hg hk hx
  have hoy := SerH.okA_brine (SerH.good_get hs hk2 hy)
  have h8 := (good_all hg).2.1
  have HV := Lib.hid (offP_at hk hx hk2 hy)
  obtain ⟨x0, x1⟩ := cells2 (Below.refl w.heap.size w) (show b < w.heap.size by omega) he.cells hk hx
  obtain ⟨_, y1, y2⟩ := SerH.cells3 (Below.refl w.heap.size w) (show b' < w.heap.size by omega) he.scells hk2 hy
  have sx := he.sbox
  have bx := he.box
  have i1 : (k : Int) < l.length := by omega
  have i2 : (k : Int) < s.length := by omega
  have HC := Lib.hid (fun u0 => st_impl x y.f1 y.f2 hox hoy u0)
  have HB := Below.refl w.heap.size w
  have HLS := Lib.hid hls
  clear he hx hy hox hoy hls
  go_enter Try.func74, Try.ntmps74
  go_wp2_with fail
  refine wp_region_text (fun w' => w'.cell? ⟨g2, 0, none⟩ = some (.slice (some ⟨b, o, none⟩) l.length cap) ∧ w'.cell? ⟨g1, 0, none⟩ = some (.slice (some ⟨b', o', none⟩) s.length cap') ∧ w'.cell? ⟨b', o' + k * 3 + 1, none⟩ = some (.int .i64 y.f1) ∧ w'.cell? ⟨b', o' + k * 3 + 2, none⟩ = some (.int .i64 y.f2) ∧ w'.cell? ⟨b, o + k * 2, none⟩ = some (.int .i64 x.f0) ∧ w'.cell? ⟨b, o + k * 2 + 1, none⟩ = some (.int .i64 x.f1) ∧ Below w.heap.size w w') (by kernel_rfl) (by kernel_rfl) ⟨cell_kept bx (Below.refl _ _).drew, cell_kept sx (Below.refl _ _).drew, cell_kept y1 (Below.refl _ _).drew, cell_kept y2 (Below.refl _ _).drew, cell_kept x0 (Below.refl _ _).drew, cell_kept x1 (Below.refl _ _).drew, be HB (Below.refl _ _).drew⟩ ?_
  iterate 12 (
    apply SeqH.one
    · intro uw K hS hK
      obtain ⟨qbx, qsx, qy1, qy2, qx0, qx1, qHB⟩ := hS
      first
        | (go_simp; exact hK.out _ ⟨qbx, qsx, qy1, qy2, qx0, qx1, qHB⟩)
        | (go_simp; go_at_call 67; (with_reducible refine (HC.out _).mono ?_); rintro e uw1 ⟨rfl, hv⟩; go_wp2_with fail; exact hK.out _ ⟨cell_kept qbx hv, cell_kept qsx hv, cell_kept qy1 hv, cell_kept qy2 hv, cell_kept qx0 hv, cell_kept qx1 hv, be qHB hv⟩)
    try simp only [Act.put, List.setIfInBounds_toArray, List.set_cons_zero, List.set_cons_succ])
  refine SeqH.end' rfl ?_
  intro v1 hS
  clear bx sx y1 y2 x0 x1 HB
  obtain ⟨bx, sx, y1, y2, x0, x1, HB⟩ := hS
  go_wp2
  go_ret
  exact rpost (by rw [HV.out] <;> rfl) HB
set_option maxHeartbeats 800000 in
theorem for_impl (P : Option Addr) (cap : Nat) (l : List R) (a c : Int) (w : World) (hr : Rd w w.heap.size P (flat l)) (hcap : l.length ≤ cap) (hn : l.length ≤ 1048576) :
    Calls Try.prog 22 #[.slice P l.length cap, .agg #[.int .i64 a, .int .i64 c]] w (IxPost (forL l a c) (forOk l a c) w) := by
  have HR := Lib.hid hr; clear hr
  have hmf : ∀ (fn : Fn) (first cap : Array Value) (w : World), (Instr.makeFunc fn first cap).run Try.prog w = .ok (.func fn first cap) w := fun _ _ _ _ => rfl
  go_enter Try.func22, Try.ntmps22
  go_wp2_with fail
  have Q := (Box.new (Below.refl _ w) [.slice P l.length cap] 24 (g := w.heap.size) rfl).alloc (.cells #[.int .i64 a, .int .i64 c] 32)
  have B := Box.new (al (Below.refl _ w) (o := (.cells #[.slice P l.length cap] 24))) [.int .i64 a, .int .i64 c] 32 (g := w.heap.size + 1) (by simp only [size_alloc'])
  generalize ((w.alloc (.cells #[.slice P l.length cap] 24)).alloc (.cells #[.int .i64 a, .int .i64 c] 32)) = W1 at Q B ⊢
  have Q_0 := Q.cells 0 _ rfl
  have Q_f0 := Q.free 0 (by simp)
  have Q_t := Q.there
  have B_0 := B.cells 0 _ rfl
  have B_1 := B.cells 1 _ rfl
  have B_f0 := B.free 0 (by simp)
  have B_f1 := B.free 1 (by simp)
  have B_t := B.there
  go_wp2_with fail
  refine (good_impl P cap l _ (rd_keep HR.out Q.below) hn).mono ?_
  rintro e v2 ⟨rfl, hv2⟩
  clear Q_0 Q_f0 Q_t
  clear B_0 B_1 B_f0 B_f1 B_t
  replace Q := Q.more hv2
  replace B := B.more hv2
  have zhv2 := hv2.size
  clear hv2
  have Q_0 := Q.cells 0 _ rfl
  have Q_f0 := Q.free 0 (by simp)
  have Q_t := Q.there
  have B_0 := B.cells 0 _ rfl
  have B_1 := B.cells 1 _ rfl
  have B_f0 := B.free 0 (by simp)
  have B_f1 := B.free 1 (by simp)
  have B_t := B.there
  cases hg : good l
  · have HV := Lib.hid (And.intro (forL_no (for1 (a := a) (b := c) hg)) (for1 (a := a) (b := c) hg))
    go_wp2
    go_ret2
    exact ix_mk HV.out.1 HV.out.2 rfl (iempty _ _ Q.below.size) (al Q.below)
  go_wp2_with fail
  refine (IBrine.brine_impl a c _).mono ?_
  rintro e v3 ⟨rfl, hv3⟩
  clear Q_0 Q_f0 Q_t
  clear B_0 B_1 B_f0 B_f1 B_t
  replace Q := Q.more hv3
  replace B := B.more hv3
  have zhv3 := hv3.size
  clear hv3
  have Q_0 := Q.cells 0 _ rfl
  have Q_f0 := Q.free 0 (by simp)
  have Q_t := Q.there
  have B_0 := B.cells 0 _ rfl
  have B_1 := B.cells 1 _ rfl
  have B_f0 := B.free 0 (by simp)
  have B_f1 := B.free 1 (by simp)
  have B_t := B.there
  cases hb : okB a c
  · have HV := Lib.hid (And.intro (forL_no (for2 (l := l) hb)) (for2 (l := l) hb))
    go_wp2
    go_ret2
    exact ix_mk HV.out.1 HV.out.2 rfl (iempty _ _ Q.below.size) (al Q.below)
  have hok := for3 hg hb
  have HV := Lib.hid (And.intro (forL_yes hok) hok)
  have h8 := (good_all hg).2.1
  have h0 := (good_all hg).1
  obtain ⟨b, o, rfl, hbl, hc⟩ := HR.out.at (k := 0 * 2) (by rw [flat_n]; omega)
  have HE := Lib.hid (show EnvF v3.heap.size (w.heap.size + 1) w.heap.size a c b o cap l v3 from ⟨⟨B_0, B_1⟩, Q_0, fun j v hj => ((bcell Q.below).1 _ _ hbl).trans (hc j v hj)⟩)
  have HW := Lib.hid (whereF v3.heap.size (w.heap.size + 1) w.heap.size (EnvF v3.heap.size (w.heap.size + 1) w.heap.size a c b o cap l) (fun u u1 h hv => h.below B_t Q_t (Nat.lt_of_lt_of_le hbl Q.below.size) hv) (onP l a c) l.length (fun u k hu hT hk => cloF v3.heap.size _ _ a c b o cap l hg hb k u B_t Q_t (Nat.lt_of_lt_of_le hbl Q.below.size) hT hu hk) (some ⟨b, o, none⟩) cap v3 HE.out (Nat.le_refl _) (by omega))
  have hww := Lib.hid Q.below.size
  clear hg hb hok hc
  go_wp2_with fail
  refine (HW.out).mono ?_
  rintro e v4 ⟨A, c', rfl, O, hv4⟩
  clear Q_0 Q_f0 Q_t
  clear B_0 B_1 B_f0 B_f1 B_t
  replace Q := Q.more hv4
  replace B := B.more hv4
  have zhv4 := hv4.size
  clear hv4
  have Q_0 := Q.cells 0 _ rfl
  have Q_f0 := Q.free 0 (by simp)
  have Q_t := Q.there
  have B_0 := B.cells 0 _ rfl
  have B_1 := B.cells 1 _ rfl
  have B_f0 := B.free 0 (by simp)
  have B_f1 := B.free 1 (by simp)
  have B_t := B.there
  go_wp2
  go_ret2
  exact ix_mk HV.out.1 HV.out.2 rfl (own_base O hww.out) Q.below
set_option maxHeartbeats 800000 in
theorem for_spec (P : Option Addr) (cap : Nat) (l : List R) (a c : Int) (w : World) (hr : Rd w w.heap.size P (flat l)) (hn : l.length ≤ 1048576) :
    Calls Try.prog 23 #[.slice P l.length cap, .agg #[.int .i64 a, .int .i64 c]] w (IxPost (forL l a c) (forOk l a c) w) := by
  obtain ⟨i0, hi, hz0, hz1, hz2⟩ := info_parts info_int
  have HI := Lib.hid hz2; clear hz2
  have HI1 := Lib.hid hz1; clear hz1
  have HR := Lib.hid hr; clear hr
  go_enter Try.func23, Try.ntmps23
  go_wp2_with fail
  have O := iempty (w.alloc (.cells #[.int .i64 a, .int .i64 c] 32)) (w.heap.size + 1) (by rw [size_alloc']; omega)
  rw [size_alloc'] at O
  have B := (Box.new (Below.refl _ w) [.int .i64 a, .int .i64 c] 32 (g := w.heap.size) rfl).alloc (.cells #[] 3)
  have E := Box.new (al (Below.refl _ w) (o := (.cells #[.int .i64 a, .int .i64 c] 32))) [] 3 (g := w.heap.size + 1) (by simp only [size_alloc'])
  generalize ((w.alloc (.cells #[.int .i64 a, .int .i64 c] 32)).alloc (.cells #[] 3)) = W1 at B E O ⊢
  have B_0 := B.cells 0 _ rfl
  have B_1 := B.cells 1 _ rfl
  have B_f0 := B.free 0 (by simp)
  have B_f1 := B.free 1 (by simp)
  have B_t := B.there
  have E_t := E.there
  clear E_t
  clear E
  go_wp2_with fail
  refine (good_spec P cap l _ (rd_keep HR.out B.below) hn).mono ?_
  rintro e v2 ⟨rfl, hv2⟩
  clear B_0 B_1 B_f0 B_f1 B_t
  replace B := B.more hv2
  replace O := own_keep O hv2
  have zhv2 := hv2.size
  clear hv2
  have B_0 := B.cells 0 _ rfl
  have B_1 := B.cells 1 _ rfl
  have B_f0 := B.free 0 (by simp)
  have B_f1 := B.free 1 (by simp)
  have B_t := B.there
  cases hg : good l
  · have HV := Lib.hid (And.intro (forL_no (for1 (a := a) (b := c) hg)) (for1 (a := a) (b := c) hg))
    go_wp2
    go_ret2
    exact ix_mk HV.out.1 HV.out.2 rfl (own_base O (Nat.le_succ _)) B.below
  go_wp2_with fail
  refine (brine_spec a c _).mono ?_
  rintro e v3 ⟨rfl, hv3⟩
  clear B_0 B_1 B_f0 B_f1 B_t
  replace B := B.more hv3
  replace O := own_keep O hv3
  have zhv3 := hv3.size
  clear hv3
  have B_0 := B.cells 0 _ rfl
  have B_1 := B.cells 1 _ rfl
  have B_f0 := B.free 0 (by simp)
  have B_f1 := B.free 1 (by simp)
  have B_t := B.there
  cases hb : okB a c
  · have HV := Lib.hid (And.intro (forL_no (for2 (l := l) hb)) (for2 (l := l) hb))
    go_wp2
    go_ret2
    exact ix_mk HV.out.1 HV.out.2 rfl (own_base O (Nat.le_succ _)) B.below
  have hok := for3 hg hb
  have HV := Lib.hid (And.intro (forL_yes hok) hok)
  have h8 := (good_all hg).2.1
  have HG := Lib.hid hg; have HBR := Lib.hid hb
  clear hg hb hok
  go_wp2
  go_loopw [6, 7] (fun z i wr => ∃ (k : Nat) (L : List Int) (A : Option Addr) (d : Nat), k ≤ l.length ∧ i = .int .i64 k ∧ z = .slice A L.length d ∧ Hid (pick (onP l a c) k = L) ∧ L.length ≤ k ∧ wr.ownsRow (w.heap.size + 1) 3 1 (.slice A L.length d) L.length (iv L) ∧ Box w.heap.size [.int .i64 a, .int .i64 c] w wr) (fun _ i _ => l.length - (intOf i).toNat)
  case atStart => exact ⟨0, [], _, _, Nat.zero_le _, rfl, rfl, Lib.hid rfl, Nat.zero_le _, O, B⟩
  case round =>
    clear B_0 B_1 B_f0 B_f1 B_t
    clear B O
    obtain ⟨k, L, A, d, hk, rfl, rfl, HL0, hLk, O, B⟩ := hrel
    have B_0 := B.cells 0 _ rfl
    have B_1 := B.cells 1 _ rfl
    have B_f0 := B.free 0 (by simp)
    have B_f1 := B.free 1 (by simp)
    have B_t := B.there
    by_cases hlt : k < l.length
    · have HL := Lib.hid hlt
      obtain ⟨b, o, rfl, hbl, hc⟩ := HR.out.at (k := k * 2) (by rw [flat_n]; omega)
      obtain ⟨x, hx⟩ : ∃ x, l[k] = x := ⟨_, rfl⟩
      obtain ⟨x0, x1⟩ := cells2 (Below.refl _ w) hbl hc hlt hx
      have HX := Lib.hid (onP_at a c hlt hx)
      have HC := Lib.hid (fun u => st_spec x a c (good_get HG.out hlt hx) HBR.out u)
      have hm1 : L.length + 1 ≤ maxLen := by unfold maxLen; omega
      have hm2 : (L.length + 1) * 8 ≤ 140737488355328 := by omega
      have HY := Lib.hid (fun h : st x a c = true => show pick (onP l a c) (k + 1) = L ++ [(k : Int)] by rw [pick_yes (HX.out.trans h), HL0.out])
      have HN := Lib.hid (fun h : st x a c = false => show pick (onP l a c) (k + 1) = L by rw [pick_no (HX.out.trans h), HL0.out])
      clear hx hc
      have x0_c := ((bcell B.below).1 _ _ hbl).trans x0
      have x1_c := ((bcell B.below).1 _ _ hbl).trans x1
      go_wp2_with fail
      refine wp_region_text (fun w' => Box (w.heap.size) [.int .i64 a, .int .i64 c] w w' ∧ w'.ownsRow (w.heap.size + 1) 3 1 (.slice A L.length d) (L.length) (iv L)) (by kernel_rfl) (by kernel_rfl) ⟨B.drew, own_keep O (Below.refl _ _).drew⟩ ?_
      clear B_0 B_1 B_f0 B_f1 B_t
      clear x0_c
      clear x1_c
      iterate 6 (
        apply SeqH.one
        · intro uw K hS hK
          obtain ⟨qB, qO⟩ := hS
          have qB_0 := qB.cells 0 _ rfl
          have qB_1 := qB.cells 1 _ rfl
          have qx0_c := ((bcell qB.below).1 _ _ hbl).trans x0
          have qx1_c := ((bcell qB.below).1 _ _ hbl).trans x1
          first
            | (go_simp; exact hK.out _ ⟨qB, qO⟩)
            | (go_simp; go_at_call 69; (with_reducible refine (HC.out _).mono ?_); rintro e uw1 ⟨rfl, hv⟩; go_wp2_with fail; exact hK.out _ ⟨qB.more hv, own_keep qO hv⟩)
        try simp only [Act.put, List.setIfInBounds_toArray, List.set_cons_zero, List.set_cons_succ])
      refine SeqH.end' rfl ?_
      intro v4 hS
      clear B O
      obtain ⟨B, O⟩ := hS
      have B_0 := B.cells 0 _ rfl
      have B_1 := B.cells 1 _ rfl
      have B_f0 := B.free 0 (by simp)
      have B_f1 := B.free 1 (by simp)
      have B_t := B.there
      have x0_c := ((bcell B.below).1 _ _ hbl).trans x0
      have x1_c := ((bcell B.below).1 _ _ hbl).trans x1
      have hsz := B.there
      cases hp : st x a c
      · have HN1 := Lib.hid (HN.out hp); clear HY HN hp
        go_wp2
        go_roundw
        case rel => exact ⟨k + 1, L, A, d, HL.out, by go_num, rfl, HN1, by omega, O, B⟩
        case measure => have := HL.out; simp [intOf]; omega
      · have HY1 := Lib.hid (HY.out hp); clear HY HN hp
        go_wp2_with (at_builtin; go_must (refine wpList_append_own _ rfl _ _ 35 rfl (w.heap.size + 1) 3 i0 _ 1 8 Try.underlying35 hi hz0 HI1.out HI.out rfl (by decide) _ L.length _ rfl (O.alloc _) ⟨v4.heap.size, 0, none⟩ 1 1 [.int .i64 (k : Int)] rfl rfl (cell_one_new _ _ _) (one_cell rfl) hm1 hm2 (by rw [size_alloc']; omega) ?_; intro v' w9 hown1 hgrow _))
        obtain ⟨A1, c1, rfl⟩ := own_form hown1
        have HO1 := row_more hown1
        have B9 := box_grown (B.alloc (.cells #[.int .i64 (k : Int)] 3)) hgrow (fun j hj => ⟨by have := own_ge O j hj; omega, by have := own_ge O j hj; omega⟩)
        clear B_0 B_1 B_f0 B_f1 B_t
        clear x0_c
        clear x1_c
        clear hgrow hown1 B O hm1 hm2 hsz
        go_wp2
        go_roundw
        case rel => exact ⟨k + 1, L ++ [(k : Int)], A1, c1, HL.out, by go_num, by rw [List.length_append] <;> rfl, HY1, by rw [List.length_append]; simp; omega, HO1, B9⟩
        case measure => have := HL.out; simp [intOf]; omega
    · obtain rfl : k = l.length := by omega
      have HF := Lib.hid (HV.out.1.trans HL0.out)
      have HQ := Lib.hid HV.out.2
      go_wp2
      go_ret2
      exact ix_mk HF.out HQ.out rfl (own_base O (Nat.le_succ _)) B.below
set_option maxHeartbeats 800000 in
theorem off_spec (P P' : Option Addr) (cap cap' : Nat) (l : List R) (s : List SBasin.R) (w : World) (hr : Rd w w.heap.size P (flat l)) (hr' : Rd w w.heap.size P' (SBasin.flat s)) (hg : good l = true) (hs : SerH.good s = true) (hls : l.length = s.length) :
    Calls Try.prog 72 #[.slice P l.length cap, .slice P' s.length cap'] w (OnePost (pick (offP l s) l.length) w) := by
  obtain ⟨i0, hi, hz0, hz1, hz2⟩ := info_parts info_int
  have HI := Lib.hid hz2; clear hz2
  have HI1 := Lib.hid hz1; clear hz1
  have HR := Lib.hid hr; clear hr
  have HS := Lib.hid hr'; clear hr'
  have h8 := (good_all hg).2.1
  have HG := Lib.hid hg; have HGS := Lib.hid hs; have HLS := Lib.hid hls
  clear hg hs hls
  go_enter Try.func72, Try.ntmps72
  go_wp2
  go_loopw [5, 6] (fun z i wr => ∃ (k : Nat) (L : List Int) (A : Option Addr) (d : Nat), k ≤ l.length ∧ i = .int .i64 k ∧ z = .slice A L.length d ∧ Hid (pick (offP l s) k = L) ∧ L.length ≤ k ∧ wr.ownsRow w.heap.size 3 1 (.slice A L.length d) L.length (iv L) ∧ Below w.heap.size w wr) (fun _ i _ => l.length - (intOf i).toNat)
  case atStart => exact ⟨0, [], _, _, Nat.zero_le _, rfl, rfl, Lib.hid rfl, Nat.zero_le _, iempty w _ (Nat.le_refl _), al (Below.refl _ _)⟩
  case round =>
    obtain ⟨k, L, A, d, hk, rfl, rfl, HL0, hLk, O, HB⟩ := hrel
    by_cases hlt : k < l.length
    · have HL := Lib.hid hlt
      have hlt2 : k < s.length := by have := HLS.out; omega
      obtain ⟨b, o, rfl, hbl, hc⟩ := HR.out.at (k := k * 2) (by rw [flat_n]; omega)
      obtain ⟨b', o', rfl, hbl', hc'⟩ := HS.out.at (k := k * 3) (by rw [SBasin.flat_n]; omega)
      obtain ⟨x, hx⟩ : ∃ x, l[k] = x := ⟨_, rfl⟩
      obtain ⟨y, hy⟩ : ∃ y, s[k] = y := ⟨_, rfl⟩
      obtain ⟨x0, x1⟩ := cells2 (Below.refl _ w) hbl hc hlt hx
      obtain ⟨_, y1, y2⟩ := SerH.cells3 (Below.refl _ w) hbl' hc' hlt2 hy
      have HX := Lib.hid (offP_at hlt hx hlt2 hy)
      have HC := Lib.hid (fun u => st_spec x y.f1 y.f2 (good_get HG.out hlt hx) (SerH.okA_brine (SerH.good_get HGS.out hlt2 hy)) u)
      have hm1 : L.length + 1 ≤ maxLen := by unfold maxLen; omega
      have hm2 : (L.length + 1) * 8 ≤ 140737488355328 := by omega
      have HY := Lib.hid (fun h : st x y.f1 y.f2 = false => show pick (offP l s) (k + 1) = L ++ [(k : Int)] by rw [pick_yes (HX.out.trans (by rw [h]; rfl)), HL0.out])
      have HN := Lib.hid (fun h : st x y.f1 y.f2 = true => show pick (offP l s) (k + 1) = L by rw [pick_no (HX.out.trans (by rw [h]; rfl)), HL0.out])
      clear hx hc hy hc'
      have x0_c := ((bcell HB).1 _ _ hbl).trans x0
      have x1_c := ((bcell HB).1 _ _ hbl).trans x1
      have y1_c := ((bcell HB).1 _ _ hbl').trans y1
      have y2_c := ((bcell HB).1 _ _ hbl').trans y2
      go_wp2_with fail
      refine wp_region_text (fun w' => Below w.heap.size w w' ∧ w'.ownsRow (w.heap.size) 3 1 (.slice A L.length d) (L.length) (iv L)) (by kernel_rfl) (by kernel_rfl) ⟨be HB (Below.refl _ _).drew, own_keep O (Below.refl _ _).drew⟩ ?_
      clear x0_c
      clear x1_c
      clear y1_c
      clear y2_c
      iterate 11 (
        apply SeqH.one
        · intro uw K hS hK
          obtain ⟨qHB, qO⟩ := hS
          have qx0_c := ((bcell qHB).1 _ _ hbl).trans x0
          have qx1_c := ((bcell qHB).1 _ _ hbl).trans x1
          have qy1_c := ((bcell qHB).1 _ _ hbl').trans y1
          have qy2_c := ((bcell qHB).1 _ _ hbl').trans y2
          first
            | (go_simp; exact hK.out _ ⟨qHB, qO⟩)
            | (go_simp; go_at_call 69; (with_reducible refine (HC.out _).mono ?_); rintro e uw1 ⟨rfl, hv⟩; go_wp2_with fail; exact hK.out _ ⟨be qHB hv, own_keep qO hv⟩)
        try simp only [Act.put, List.setIfInBounds_toArray, List.set_cons_zero, List.set_cons_succ])
      refine SeqH.end' rfl ?_
      intro v1 hS
      clear HB O
      obtain ⟨HB, O⟩ := hS
      have x0_c := ((bcell HB).1 _ _ hbl).trans x0
      have x1_c := ((bcell HB).1 _ _ hbl).trans x1
      have y1_c := ((bcell HB).1 _ _ hbl').trans y1
      have y2_c := ((bcell HB).1 _ _ hbl').trans y2
      have hsz := HB.size
      cases hp : st x y.f1 y.f2
      · have HY1 := Lib.hid (HY.out hp); clear HY HN hp
        go_wp2_with (at_builtin; go_must (refine wpList_append_own _ rfl _ _ 35 rfl w.heap.size 3 i0 _ 1 8 Try.underlying35 hi hz0 HI1.out HI.out rfl (by decide) _ L.length _ rfl (O.alloc _) ⟨v1.heap.size, 0, none⟩ 1 1 [.int .i64 (k : Int)] rfl rfl (cell_one_new _ _ _) (one_cell rfl) hm1 hm2 (by rw [size_alloc']; omega) ?_; intro v' w9 hown1 hgrow _))
        obtain ⟨A1, c1, rfl⟩ := own_form hown1
        have HO1 := row_more hown1
        have hB9 := below_append HB O hgrow
        clear x0_c
        clear x1_c
        clear y1_c
        clear y2_c
        clear hgrow hown1 HB O hm1 hm2 hsz
        go_wp2
        go_roundw
        case rel => exact ⟨k + 1, L ++ [(k : Int)], A1, c1, HL.out, by go_num, by rw [List.length_append] <;> rfl, HY1, by rw [List.length_append]; simp; omega, HO1, hB9⟩
        case measure => have := HL.out; simp [intOf]; omega
      · have HN1 := Lib.hid (HN.out hp); clear HY HN hp
        go_wp2
        go_roundw
        case rel => exact ⟨k + 1, L, A, d, HL.out, by go_num, rfl, HN1, by omega, O, HB⟩
        case measure => have := HL.out; simp [intOf]; omega
    · obtain rfl : k = l.length := by omega
      go_wp2
      go_ret
      exact one_mk HL0.out rfl O HB
end Go.Proofs.Ytngominkeammiaa.LadW
