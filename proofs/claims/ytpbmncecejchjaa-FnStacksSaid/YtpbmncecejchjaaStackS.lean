/- StackLayers: the model's walk. -/
import Derived.Test.YtpbmncecejchjaaStack
import Derived.Test.YtpbmncecejchjaaHeapR
import Derived.Test.YtpbmncecejchjaaRegn3
namespace Go.Proofs.Ytpbmncecejchjaa.StackS
open Go.RowKit Go.Proofs.Ytpbmncecejchjaa.Mem Go.Proofs.Ytpbmncecejchjaa.Base Go.Proofs.Ytpbmncecejchjaa.SInt Go.Proofs.Ytpbmncecejchjaa.Boxes Go.Proofs.Ytpbmncecejchjaa.Keep Go.Proofs.Ytpbmncecejchjaa.Regn Go.Proofs.Ytpbmncecejchjaa.Nest Go.Proofs.Ytpbmncecejchjaa.HeapS Go.Proofs.Ytpbmncecejchjaa.HeapW Go.Proofs.Ytpbmncecejchjaa.Heap Go.Proofs.Ytpbmncecejchjaa.Heap2 Go.Proofs.Ytpbmncecejchjaa.HeapR Go.Proofs.Ytpbmncecejchjaa.Stack
set_option linter.unusedVariables false
set_option linter.unusedSimpArgs false
set_option maxRecDepth 100000
theorem cell_kept {w w' : World} {b o : Nat} {v : Value} (h : w.cell? ⟨b, o, none⟩ = some v) (hb : Below w.heap.size w w') : w'.cell? ⟨b, o, none⟩ = some v :=
  ((bcell hb).1 _ _ (World.block_lt_of_cell? w _ h)).trans h
/-- row j of the stacks so far: not empty, sound; its last number. -/
theorem row_facts {rs : List Row} {rows : List (List Int)} (hg : Gd rows) (hp : TabS.tp rs = rows) {j : Nat} {x : Row} (hj : j < rs.length) (hx : rs[j] = x) :
    ∃ (h : j < rows.length), rows[j] = x.ls ∧ okLs x.ls = true ∧ ∃ n, x.ls.length = n + 1 := by
  have hl : rs.length = rows.length := by rw [← TabS.tp_len rs, hp]
  have h1 := TabS.tp_get rs j hj
  have h2 : rows[j]'(by omega) = x.ls := by rw [← hx, ← h1]; simp only [hp]
  have h3 := hg _ (List.getElem_mem (show j < rows.length by omega))
  rw [h2] at h3
  refine ⟨by omega, h2, h3.2, ?_⟩
  rcases Nat.eq_zero_or_pos x.ls.length with h4 | h4
  · exact absurd (List.eq_nil_of_length_eq_zero h4) h3.1
  · exact ⟨x.ls.length - 1, by omega⟩
theorem own_last {w : World} {lo : Nat} {x : Row} {n : Nat} {z : Int} (h : RowOwn w lo x) (hn : x.ls.length = n + 1) (hz : x.ls[n]'(by omega) = z) : ∃ g, x.A = some ⟨g, 0, none⟩ ∧ w.cell? ⟨g, n, none⟩ = some (.int .i64 z) := by
  obtain ⟨A, c, ls⟩ := x
  dsimp only at hn hz
  obtain ⟨g, _, hA, _⟩ := own_some h (by show 0 < ls.length; omega)
  have hA' : A = some ⟨g, 0, none⟩ := hA
  subst hA'
  refine ⟨g, rfl, ?_⟩
  rw [World.ownsRow.cellAt h n (by show n < ls.length * 1; omega), ← hz]
  exact iv_get ls n (by omega)
theorem can_row {r : List Int} {t : Int} {n : Nat} {z : Int} (ho : okLs r = true) (ht : 1 ≤ t ∧ t ≤ 500) (hn : r.length = n + 1) (hz : r[n]'(by omega) = z) : can (hOf r) 0 t = (decide ((n : Int) + 1 < 12) && decide (t ≤ z)) := by
  have e : can (hOf r) 0 t = okLs (r ++ [t]) := by unfold can hOf; simp
  rw [e, Bool.eq_iff_iff, okLs_append]
  simp only [Bool.and_eq_true, decide_eq_true_eq]
  constructor
  · rintro ⟨_, _, _, h1, h2⟩
    have := h1 (by omega)
    simp only [hn, Nat.add_sub_cancel] at this
    rw [hz] at this
    exact ⟨by omega, this⟩
  · rintro ⟨h1, h2⟩
    exact ⟨ho, ht.1, ht.2, fun _ => by simp only [hn, Nat.add_sub_cancel]; rw [hz]; exact h2, by omega⟩
theorem h_row {rows : List (List Int)} {j : Nat} {r : List Int} (h : j < rows.length) (e : rows[j] = r) : (rows.map hOf)[j]'(by rw [List.length_map]; exact h) = hOf r := by rw [List.getElem_map, e]
theorem gd_bd {rows : List (List Int)} (h : Gd rows) : ∀ x ∈ rows.map hOf, ∀ y ∈ x.ls, 1 ≤ y ∧ y ≤ 500 := by
  intro x hx y hy
  obtain ⟨r, hr, rfl⟩ := List.mem_map.1 hx
  exact okLs_mem (h r hr).2 y hy
theorem step_lies {P : Program} {w : World} {yf : Nat → Option Bool} {o : Oper} {a : Act} {K : Act → World → Prop} {Q : Exit → Act → World → Prop} {E : Prop} (hgd : o.guard = none) (s x : Operand) (t : TypeId)
    (ho : o.op = .call { callee := .builtin .append, args := #[s, x], argTypes := #[t, t] })
    (base : Nat) (e : TypeId) (i : TypeInfo) (z : Value) (size bytes : Nat) (ht : P.underlying t = some (.slice e)) (hi : P.info? e = some i) (hz : i.zero = some z)
    (hsize : i.size = size) (hby : i.bytes = bytes) (hzs : z.cells.size = size) (hsz : 0 < size)
    (v : Value) (n : Nat) (xs : List Value) (hs : a.eval s = v) (hown : w.ownsRow base e size v n xs)
    (ad : Addr) (m c : Nat) (news : List Value) (hx : a.eval x = .slice (some ad) m c) (hl : news.length = m * size) (hnews : ∀ j u, news[j]? = some u → w.cell? (ad.add j) = some u) (h1 : ∀ u ∈ news, u.oneCell' = true)
    (hm : 0 < m) (h63 : n + m ≤ maxLen) (hbytes : (n + m) * bytes ≤ 140737488355328) (hbase : base ≤ w.heap.size) (H : Nat) (hH : w.heap.size = H)
    (h : ∀ g cap w', w'.ownsRow base e size (.slice (some ⟨g, 0, none⟩) (n + m) cap) (n + m) (xs ++ news) → w.grownBy w' v.ownBlock → (v.ownBlock = some g ∨ g = H) → g < w'.heap.size → K (a.put o.dst (.slice (some ⟨g, 0, none⟩) (n + m) cap)) w') :
    if Region.wanted o yf = true then Oper.wp P o a w K Q else E := by
  rw [if_pos (by simp [Region.wanted, hgd])]
  exact wp_append_lies w s x t ho base e i z size bytes ht hi hz hsize hby hzs hsz v n xs hs hown ad m c news hx hl hnews h1 hm h63 hbytes hbase H hH h
theorem appT {w w9 : World} {lo g c k g9 c9 : Nat} {l : List Row} {t : Int} {o : Obj} (h : TabS.TOwn w lo w.heap.size (some ⟨g, 0, none⟩) c l) (hk : k < l.length)
    (hown : RowOwn w9 lo ⟨some ⟨g9, 0, none⟩, c9, l[k].ls ++ [t]⟩) (hgrow : (w.alloc o).grownBy w9 l[k].blk) (hat : l[k].blk = some g9 ∨ g9 = (w.alloc o).heap.size) :
    w9.ownsRow lo 82 1 (.slice (some ⟨g, 0, none⟩) l.length c) l.length (TabS.tv l) ∧
    TabS.TOwn (w9.setCell ⟨g, k, none⟩ (.slice (some ⟨g9, 0, none⟩) (l[k].ls ++ [t]).length c9)) lo w9.heap.size (some ⟨g, 0, none⟩) c (l.set k ⟨some ⟨g9, 0, none⟩, c9, l[k].ls ++ [t]⟩) := by
  have hm := List.getElem_mem hk
  have hgs : g < w.heap.size := (h.out.lt g rfl).2
  have hs : w.heap.size ≤ w9.heap.size := by have := hgrow.size; rw [size_alloc'] at this; omega
  have he : ∀ j, j < w.heap.size → l[k].blk ≠ some j → w9.heap[j]? = w.heap[j]? := fun j hj hne => by
    rw [hgrow.block j (by rw [size_alloc']; omega) (fun e => hne e.symm)]
    exact (al (Below.refl w.heap.size w) (o := o)).block j hj
  have hg9 : g9 ≠ g := by
    rcases hat with h1 | h1
    · exact fun e => (h.inn.far _ hm g (by rw [← e]; exact h1)).2 rfl
    · rw [size_alloc'] at h1; omega
  refine h.putRow (w' := w9) (r := ⟨some ⟨g9, 0, none⟩, c9, l[k].ls ++ [t]⟩) hk hown hs (fun j hj => ?_) he
  have e : g9 = j := by simpa [Row.blk, Row.val, Value.ownBlock] using hj
  subst e
  refine ⟨(hown.lt g9 rfl).2, hg9, ?_⟩
  rcases hat with h1 | h1
  · exact .inl h1
  · rw [size_alloc'] at h1; exact .inr (by omega)
theorem tp_set (m : List Row) (k : Nat) (r : Row) : TabS.tp (m.set k r) = (TabS.tp m).set k r.ls := by simp [TabS.tp, List.map_set]
set_option maxHeartbeats 3600000 in
theorem stack_spec (P : Option Addr) (cap : Nat) (l : List Int) (w : World) (hr : Rd w w.heap.size P (iv l)) (hn : l.length ≤ 1048576) :
    Calls Try.prog 65 #[.slice P l.length cap] w (TabS.TPost (stkF l) (stkOk l) w) := by
  obtain ⟨i0, hi0, hz0, hz1, hz2⟩ := info_parts info_int
  have HI := Lib.hid hz2; clear hz2
  have HI1 := Lib.hid hz1; clear hz1
  obtain ⟨i2, hi2, hx0, hx1, hx2⟩ := info_parts info_S
  have HK := Lib.hid hx2; clear hx2
  have HK1 := Lib.hid hx1; clear hx1
  have HR := Lib.hid hr; clear hr
  have HO0 := Lib.hid (TabS.t_none (Below.refl w.heap.size w))
  by_cases h20 : l.length ≤ 20
  · have h20' : decide ((20 : Int) < l.length) = false := decide_eq_false (by omega)
    go_enter Try.func65, Try.ntmps65
    go_wp2
    go_loopw [4, 5] (fun v i wr => ∃ (k : Nat) (m : List Row) (A : Option Addr) (c : Nat), k ≤ l.length ∧ i = .int .i64 k ∧ v = .slice A m.length c ∧ Hid (Ok (layOk l) k) ∧ Hid (TabS.tp m = stk l k) ∧ Hid (TabS.TOwn wr w.heap.size wr.heap.size A c m) ∧ Below w.heap.size w wr) (fun _ i _ => l.length - (intOf i).toNat)
    case atStart => exact ⟨0, [], _, _, Nat.zero_le _, rfl, rfl, Lib.hid (Ok.zero _), Lib.hid rfl, HO0, al (Below.refl _ _)⟩
    case round =>
      clear HO0
      obtain ⟨k, m, A, c, hk, rfl, rfl, HOK, HP0, HO, HB⟩ := hrel
      have hgd := stk_gd HOK.out hk
      have HML := Lib.hid (show m.length = (stk l k).length by rw [← TabS.tp_len m, HP0.out])
      have HM20 := Lib.hid (show m.length ≤ 20 by rw [HML.out]; omega)
      have HGD := Lib.hid hgd.1; clear hgd
      by_cases hlt : k < l.length
      · obtain ⟨b, o, rfl, hb, hc⟩ := HR.out.at (k := k) (by rw [iv_len]; exact hlt)
        obtain ⟨t, ht⟩ : ∃ t, l[k] = t := ⟨_, rfl⟩
        have h0 : wr.cell? ⟨b, o + k, none⟩ = some (.int .i64 t) := ((bcell HB).1 _ _ hb).trans (by rw [← ht]; exact hc k _ (iv_get l k hlt))
        have HT := Lib.hid ht; clear ht hc
        have HL := Lib.hid hlt
        cases hin : inB t 1 500
        · have HV := Lib.hid (stkOk_bad HL.out HT.out hin)
          have O := TabS.t_none HB
          go_wp2_with (go_at_call 82; (with_reducible refine (in_any _ _ _ _).mono ?_); rintro e' w' ⟨rfl, rfl⟩; try rw [hin])
          go_ret2
          exact TabS.t_mk (m := []) (stk_no HV.out) HV.out rfl O (al HB)
        have HOK1 := Lib.hid (HOK.out.next (lay_ok HL.out HT.out hin))
        have HIN := Lib.hid (of_inB hin)
        go_wp2_with (go_at_call 82; (with_reducible refine (in_any _ _ _ _).mono ?_); rintro e' w' ⟨rfl, rfl⟩; try rw [hin])
        clear hin
        generalize wr = w0 at *
        have HWB := Lib.hid HB; clear HB
        have hm20 := HM20.out
        go_loopw [6, 7] (fun u i wx => ∃ (j : Nat), j ≤ m.length ∧ i = .int .i64 j ∧ Hid (Ps (pick 1000 ((stk l k).map hOf) 0 t j) u j) ∧ Below w0.heap.size w0 wx) (fun _ i _ => m.length - (intOf i).toNat)
        case atStart => exact ⟨0, Nat.zero_le _, rfl, Lib.hid (.inl ⟨rfl, rfl⟩), Below.refl _ _⟩
        case round =>
          obtain ⟨j, hj, rfl, HA, HX⟩ := hrel
          have ht0 := cell_kept h0 HX
          have HOX := Lib.hid ((HO.out.keep HX).mono HX.size)
          have hwb := be HWB.out HX
          clear h0
          by_cases hjl : j < m.length
          · obtain ⟨g, rfl⟩ := HO.out.ptr (by omega)
            obtain ⟨x, hx⟩ : ∃ x, m[j] = x := ⟨_, rfl⟩
            obtain ⟨hjr, hrow, hox, nx, hnx⟩ := row_facts HGD.out HP0.out hjl hx
            obtain ⟨z, hz⟩ : ∃ z, x.ls[nx]'(by omega) = z := ⟨_, rfl⟩
            have hown : RowOwn wr w.heap.size x := by rw [← hx]; exact HOX.out.row hjl
            obtain ⟨gx, hgx, cx⟩ := own_last hown hnx hz
            have co := TabS.tat HOX.out.out hjl hx
            rw [hgx, hnx] at co
            have HC := Lib.hid (can_row hox HIN.out hnx hz)
            have HTX := Lib.hid (topE_last 1000 hnx hz)
            have HRX := Lib.hid (h_row hjr hrow)
            have HJR := Lib.hid (show j < ((stk l k).map hOf).length by rw [List.length_map]; exact hjr)
            have HJL := Lib.hid hjl
            have hn12 : nx < 12 := by have := okLs_len hox; omega
            have q2 : IntKind.i64.wrap (nx : Int) = nx := IntWalk.i64_in _ (by omega)
            have q4 : (nx : Int) < (nx : Int) + 1 := by omega
            clear hown hgx hz hnx hox hrow hx
            cases ca : decide ((nx : Int) + 1 < 12)
            · have HN := Lib.hid (show Ps (pick 1000 ((stk l k).map hOf) 0 t (j + 1)) u6 (j + 1) by
                rw [pick_no HJR.out HRX.out (by rw [HC.out, ca]; rfl)]
                rcases HA.out with ⟨h1, h2⟩ | ⟨b, h1, h2, h3⟩
                · exact .inl ⟨h1, h2⟩
                · exact .inr ⟨b, h1, by omega, h3⟩)
              go_wp2_with fail
              refine wp_region_text (fun w' => w'.cell? ⟨g, j, none⟩ = some (.slice (some ⟨gx, 0, none⟩) (nx + 1) x.cap) ∧ w'.cell? ⟨gx, nx, none⟩ = some (.int .i64 z) ∧ w'.cell? ⟨b, o + k, none⟩ = some (.int .i64 t) ∧ Below w0.heap.size w0 w' ∧ Below w.heap.size w w') (by kernel_rfl) (by kernel_rfl) ⟨cell_kept co (Below.refl _ _).drew, cell_kept cx (Below.refl _ _).drew, cell_kept ht0 (Below.refl _ _).drew, be HX (Below.refl _ _).drew, be hwb (Below.refl _ _).drew⟩ ?_
              iterate 44 (
                apply SeqH.one
                · intro uw K hS hK
                  obtain ⟨qco, qcx, qht0, qHX, qhwb⟩ := hS
                  first
                    | (go_simp; exact hK.out _ ⟨qco, qcx, qht0, qHX, qhwb⟩)
                try simp only [Act.put, List.setIfInBounds_toArray, List.set_cons_zero, List.set_cons_succ])
              refine SeqH.end' rfl ?_
              intro v1 hS
              clear co cx ht0 HX hwb
              obtain ⟨co, cx, ht0, HX, hwb⟩ := hS
              go_wp2
              go_roundw
              case rel => exact ⟨j + 1, HJL.out, by go_num, HN, HX⟩
              case measure => have := HJL.out; simp [intOf]; omega
            cases cb : decide (t ≤ z)
            · have HN := Lib.hid (show Ps (pick 1000 ((stk l k).map hOf) 0 t (j + 1)) u6 (j + 1) by
                rw [pick_no HJR.out HRX.out (by rw [HC.out, ca, cb]; rfl)]
                rcases HA.out with ⟨h1, h2⟩ | ⟨b, h1, h2, h3⟩
                · exact .inl ⟨h1, h2⟩
                · exact .inr ⟨b, h1, by omega, h3⟩)
              go_wp2_with fail
              refine wp_region_text (fun w' => w'.cell? ⟨g, j, none⟩ = some (.slice (some ⟨gx, 0, none⟩) (nx + 1) x.cap) ∧ w'.cell? ⟨gx, nx, none⟩ = some (.int .i64 z) ∧ w'.cell? ⟨b, o + k, none⟩ = some (.int .i64 t) ∧ Below w0.heap.size w0 w' ∧ Below w.heap.size w w') (by kernel_rfl) (by kernel_rfl) ⟨cell_kept co (Below.refl _ _).drew, cell_kept cx (Below.refl _ _).drew, cell_kept ht0 (Below.refl _ _).drew, be HX (Below.refl _ _).drew, be hwb (Below.refl _ _).drew⟩ ?_
              iterate 44 (
                apply SeqH.one
                · intro uw K hS hK
                  obtain ⟨qco, qcx, qht0, qHX, qhwb⟩ := hS
                  first
                    | (go_simp; exact hK.out _ ⟨qco, qcx, qht0, qHX, qhwb⟩)
                try simp only [Act.put, List.setIfInBounds_toArray, List.set_cons_zero, List.set_cons_succ])
              refine SeqH.end' rfl ?_
              intro v2 hS
              clear co cx ht0 HX hwb
              obtain ⟨co, cx, ht0, HX, hwb⟩ := hS
              go_wp2
              go_roundw
              case rel => exact ⟨j + 1, HJL.out, by go_num, HN, HX⟩
              case measure => have := HJL.out; simp [intOf]; omega
            have HCT := Lib.hid (show can (hOf x.ls) 0 t = true by rw [HC.out, ca, cb]; rfl)
            rcases HA.out with ⟨hp, rfl⟩ | ⟨jb, hp, hjb, rfl⟩
            · have HN := Lib.hid (show Ps (pick 1000 ((stk l k).map hOf) 0 t (j + 1)) (.int .i64 j) (j + 1) from .inr ⟨j, pick_first HJR.out HRX.out hp HCT.out, by omega, rfl⟩)
              clear hp
              go_wp2_with fail
              refine wp_region_text (fun w' => w'.cell? ⟨g, j, none⟩ = some (.slice (some ⟨gx, 0, none⟩) (nx + 1) x.cap) ∧ w'.cell? ⟨gx, nx, none⟩ = some (.int .i64 z) ∧ w'.cell? ⟨b, o + k, none⟩ = some (.int .i64 t) ∧ Below w0.heap.size w0 w' ∧ Below w.heap.size w w') (by kernel_rfl) (by kernel_rfl) ⟨cell_kept co (Below.refl _ _).drew, cell_kept cx (Below.refl _ _).drew, cell_kept ht0 (Below.refl _ _).drew, be HX (Below.refl _ _).drew, be hwb (Below.refl _ _).drew⟩ ?_
              iterate 44 (
                apply SeqH.one
                · intro uw K hS hK
                  obtain ⟨qco, qcx, qht0, qHX, qhwb⟩ := hS
                  first
                    | (go_simp; exact hK.out _ ⟨qco, qcx, qht0, qHX, qhwb⟩)
                try simp only [Act.put, List.setIfInBounds_toArray, List.set_cons_zero, List.set_cons_succ])
              refine SeqH.end' rfl ?_
              intro v3 hS
              clear co cx ht0 HX hwb
              obtain ⟨co, cx, ht0, HX, hwb⟩ := hS
              go_wp2
              go_roundw
              case rel => exact ⟨j + 1, HJL.out, by go_num, HN, HX⟩
              case measure => have := HJL.out; simp [intOf]; omega
            · have hjbl : jb < m.length := by omega
              obtain ⟨y, hy⟩ : ∃ y, m[jb] = y := ⟨_, rfl⟩
              obtain ⟨hjr', hrow', hoy, ny, hny⟩ := row_facts HGD.out HP0.out hjbl hy
              obtain ⟨zy, hzy⟩ : ∃ z, y.ls[ny]'(by omega) = z := ⟨_, rfl⟩
              have hown' : RowOwn wr w.heap.size y := by rw [← hy]; exact HOX.out.row hjbl
              obtain ⟨gy, hgy, qy⟩ := own_last hown' hny hzy
              have qo := TabS.tat HOX.out.out hjbl hy
              rw [hgy, hny] at qo
              have HTY := Lib.hid (topE_last 1000 hny hzy)
              have HRY := Lib.hid (h_row hjr' hrow')
              have HJB := Lib.hid (show jb < ((stk l k).map hOf).length by rw [List.length_map]; exact hjr')
              have hny12 : ny < 12 := by have := okLs_len hoy; omega
              have q3 : IntKind.i64.wrap (ny : Int) = ny := IntWalk.i64_in _ (by omega)
              have q5 : (ny : Int) < (ny : Int) + 1 := by omega
              have hneg : decide ((jb : Int) < 0) = false := decide_eq_false (by omega)
              have HP := Lib.hid hp
              clear hown' hgy hzy hny hoy hrow' hy hp
              cases cd : decide (z < zy)
              · have HN := Lib.hid (show Ps (pick 1000 ((stk l k).map hOf) 0 t (j + 1)) (.int .i64 jb) (j + 1) from .inr ⟨jb, pick_high HJR.out HRX.out HP.out HJB.out HRY.out (by show ¬ topE 1000 x.ls < topE 1000 y.ls; rw [HTX.out, HTY.out]; exact of_decide_eq_false cd), by omega, rfl⟩)
                go_wp2_with fail
                refine wp_region_text (fun w' => w'.cell? ⟨g, j, none⟩ = some (.slice (some ⟨gx, 0, none⟩) (nx + 1) x.cap) ∧ w'.cell? ⟨gx, nx, none⟩ = some (.int .i64 z) ∧ w'.cell? ⟨b, o + k, none⟩ = some (.int .i64 t) ∧ w'.cell? ⟨g, jb, none⟩ = some (.slice (some ⟨gy, 0, none⟩) (ny + 1) y.cap) ∧ w'.cell? ⟨gy, ny, none⟩ = some (.int .i64 zy) ∧ Below w0.heap.size w0 w' ∧ Below w.heap.size w w') (by kernel_rfl) (by kernel_rfl) ⟨cell_kept co (Below.refl _ _).drew, cell_kept cx (Below.refl _ _).drew, cell_kept ht0 (Below.refl _ _).drew, cell_kept qo (Below.refl _ _).drew, cell_kept qy (Below.refl _ _).drew, be HX (Below.refl _ _).drew, be hwb (Below.refl _ _).drew⟩ ?_
                iterate 44 (
                  apply SeqH.one
                  · intro uw K hS hK
                    obtain ⟨qco, qcx, qht0, qqo, qqy, qHX, qhwb⟩ := hS
                    first
                      | (go_simp; exact hK.out _ ⟨qco, qcx, qht0, qqo, qqy, qHX, qhwb⟩)
                  try simp only [Act.put, List.setIfInBounds_toArray, List.set_cons_zero, List.set_cons_succ])
                refine SeqH.end' rfl ?_
                intro v4 hS
                clear co cx ht0 qo qy HX hwb
                obtain ⟨co, cx, ht0, qo, qy, HX, hwb⟩ := hS
                go_wp2
                go_roundw
                case rel => exact ⟨j + 1, HJL.out, by go_num, HN, HX⟩
                case measure => have := HJL.out; simp [intOf]; omega
              · have HN := Lib.hid (show Ps (pick 1000 ((stk l k).map hOf) 0 t (j + 1)) (.int .i64 j) (j + 1) from .inr ⟨j, pick_low HJR.out HRX.out HP.out HJB.out HRY.out HCT.out (by show topE 1000 x.ls < topE 1000 y.ls; rw [HTX.out, HTY.out]; exact of_decide_eq_true cd), by omega, rfl⟩)
                go_wp2_with fail
                refine wp_region_text (fun w' => w'.cell? ⟨g, j, none⟩ = some (.slice (some ⟨gx, 0, none⟩) (nx + 1) x.cap) ∧ w'.cell? ⟨gx, nx, none⟩ = some (.int .i64 z) ∧ w'.cell? ⟨b, o + k, none⟩ = some (.int .i64 t) ∧ w'.cell? ⟨g, jb, none⟩ = some (.slice (some ⟨gy, 0, none⟩) (ny + 1) y.cap) ∧ w'.cell? ⟨gy, ny, none⟩ = some (.int .i64 zy) ∧ Below w0.heap.size w0 w' ∧ Below w.heap.size w w') (by kernel_rfl) (by kernel_rfl) ⟨cell_kept co (Below.refl _ _).drew, cell_kept cx (Below.refl _ _).drew, cell_kept ht0 (Below.refl _ _).drew, cell_kept qo (Below.refl _ _).drew, cell_kept qy (Below.refl _ _).drew, be HX (Below.refl _ _).drew, be hwb (Below.refl _ _).drew⟩ ?_
                iterate 44 (
                  apply SeqH.one
                  · intro uw K hS hK
                    obtain ⟨qco, qcx, qht0, qqo, qqy, qHX, qhwb⟩ := hS
                    first
                      | (go_simp; exact hK.out _ ⟨qco, qcx, qht0, qqo, qqy, qHX, qhwb⟩)
                  try simp only [Act.put, List.setIfInBounds_toArray, List.set_cons_zero, List.set_cons_succ])
                refine SeqH.end' rfl ?_
                intro v5 hS
                clear co cx ht0 qo qy HX hwb
                obtain ⟨co, cx, ht0, qo, qy, HX, hwb⟩ := hS
                go_wp2
                go_roundw
                case rel => exact ⟨j + 1, HJL.out, by go_num, HN, HX⟩
                case measure => have := HJL.out; simp [intOf]; omega
          · have hjj : j = m.length := by omega
            have HPK := Lib.hid (show pick 501 ((stk l k).map hOf) 0 t (stk l k).length = pick 1000 ((stk l k).map hOf) 0 t j by
              rw [hjj, HML.out]; exact pick_same (gd_bd HGD.out) (by rw [List.length_map]; exact Nat.le_refl _))
            have hm1 : m.length + 1 ≤ maxLen := by unfold maxLen; omega
            have hm2 : (m.length + 1) * 24 ≤ 140737488355328 := by omega
            have HBX := Lib.hid hwb
            have hws := hwb.size
            clear hjj HX
            rcases HA.out with ⟨hp, rfl⟩ | ⟨jb, hp, hjb, rfl⟩
            · have HN := Lib.hid (stk_none HL.out HT.out (HPK.out.trans hp))
              clear hp
              have hrow0 : RowOwn (wr.alloc (.cells #[.int .i64 t] 3)) wr.heap.size ⟨some ⟨wr.heap.size, 0, none⟩, 1, [t]⟩ := by
                have := World.ownsRow_lit wr #[.int .i64 t] 1 (e := 3) (size := 1) (base := wr.heap.size) (Nat.le_refl _) (by unfold maxLen; omega) rfl
                simpa [RowOwn, Row.val, iv] using this
              have HROW := Lib.hid (World.ownsRow.alloc hrow0 (.cells #[.slice (some ⟨wr.heap.size, 0, none⟩) 1 1] 82))
              have hba : Below wr.heap.size wr ((wr.alloc (.cells #[.int .i64 t] 3)).alloc (.cells #[.slice (some ⟨wr.heap.size, 0, none⟩) 1 1] 82)) := al (al (Below.refl _ _))
              have HBA := Lib.hid hba
              have HOA := Lib.hid (HOX.out.keep hba).out
              have hnc := HeapP.cell_one (wr.alloc (.cells #[.int .i64 t] 3)) (.slice (some ⟨wr.heap.size, 0, none⟩) 1 1) 82
              rw [size_alloc'] at hnc
              have HNC := Lib.hid hnc
              clear hrow0 hba hnc hwb
              go_wp2_with (at_builtin; go_must (refine wpList_append_lies _ rfl _ _ 84 rfl w.heap.size 82 i2 _ 1 24 Try.underlying84 hi2 hx0 HK1.out HK.out rfl (by decide) (.slice A m.length c) m.length (TabS.tv m) rfl HOA.out ⟨wr.heap.size + 1, 0, none⟩ 1 1 [.slice (some ⟨wr.heap.size, 0, none⟩) 1 1] rfl rfl HNC.out (one_cell rfl) (by decide) hm1 hm2 (by rw [size_alloc', size_alloc']; omega) _ rfl ?_; intro g9 c9 w9 hown1 hgrow hat hlt9; have HOWN := Lib.hid hown1; have HGR := Lib.hid hgrow; have HAT := Lib.hid hat; clear hown1 hgrow hat hlt9))
              go_roundw
              case rel =>
                have hL : (m ++ [(⟨some ⟨wr.heap.size, 0, none⟩, 1, [t]⟩ : Row)]).length = m.length + 1 := by simp
                have hsn := TabS.TOwn.snoc (A' := some ⟨g9, 0, none⟩) (c' := c9) (x := ⟨some ⟨wr.heap.size, 0, none⟩, 1, [t]⟩) HOX.out hws (Nat.le_refl _) HBA.out HROW.out (by rw [hL, TabS.tv_snoc]; exact HOWN.out) HGR.out (fun q hq => by
                  have e : g9 = q := by simpa [Value.ownBlock] using hq
                  subst e
                  rcases HAT.out with h1 | h1
                  · exact .inl h1
                  · exact .inr (Nat.le_of_eq h1.symm))
                exact ⟨k + 1, m ++ [⟨some ⟨wr.heap.size, 0, none⟩, 1, [t]⟩], some ⟨g9, 0, none⟩, c9, HL.out, by go_num, by rw [hL], HOK1, Lib.hid (by rw [HN.out, ← HP0.out]; simp [TabS.tp]), Lib.hid hsn, bl_grown (be HBX.out HBA.out) HGR.out (fun q hq => own_ge HOX.out.out q hq)⟩
              case measure => have := HL.out; simp [intOf]; omega
            · have HN := Lib.hid (stk_some HL.out HT.out (HPK.out.trans hp))
              have hjbl : jb < m.length := by omega
              have hneg : decide ((jb : Int) < 0) = false := decide_eq_false (by omega)
              obtain ⟨g, rfl⟩ := HO.out.ptr (by omega)
              obtain ⟨y, hy⟩ : ∃ y, m[jb] = y := ⟨_, rfl⟩
              obtain ⟨hjr', hrow', hoy, ny, hny⟩ := row_facts HGD.out HP0.out hjbl hy
              have co := TabS.tat HOX.out.out hjbl hy
              have hyl : y.ls.length ≤ 12 := okLs_len hoy
              have HY := Lib.hid hy
              have HRW := Lib.hid hrow'
              have HJB := Lib.hid hjbl
              clear hp hny hoy hrow' hy
              go_wp2_with fail
              --REGION
              obtain ⟨V, hVW⟩ : ∃ V : World, V = wr.drew := ⟨_, rfl⟩
              have hwV : Below wr.heap.size wr V := by rw [hVW]; exact (Below.refl _ _).drew
              have hVs : V.heap.size = wr.heap.size := by rw [hVW]; rfl
              have hcoV := cell_kept co hwV
              have ht0V := cell_kept ht0 hwV
              have HOXV := Lib.hid ((HOX.out.keep hwV).mono hwV.size)
              have HBV := Lib.hid (be HBX.out hwV)
              have HRO := Lib.hid (show RowOwn V w.heap.size y by rw [← HY.out]; exact HOXV.out.row HJB.out)
              have HOAV := Lib.hid (World.ownsRow.alloc HRO.out (.cells #[.int .i64 t] 3))
              have HNCV := Lib.hid (HeapP.cell_one V (.int .i64 t) 3)
              have hwVs := HBV.out.size
              have HVW := Lib.hid hVW
              clear co ht0 hwV hwb hVW hVs
              refine wp_region_rel [93, 94, 95, 96, 97, 98, 99, 100, 101, 102, 103, 104, 105] (fun L f w' => (¬ L 10 → V = w') ∧ (L 0 → f 93 = .slice (some ⟨g, 0, none⟩) m.length c) ∧ (L 1 → f 94 = .int .i64 jb) ∧ (L 2 → f 95 = .slice (some ⟨g, 0, none⟩) m.length c) ∧ (L 3 → f 96 = .int .i64 jb) ∧ (L 4 → f 97 = .pointer (some ⟨g, jb, none⟩)) ∧ (L 5 → f 98 = .slice y.A y.ls.length y.cap) ∧ (L 6 → f 99 = .slice (some ⟨b, o, none⟩) l.length cap) ∧ (L 7 → f 100 = .int .i64 k) ∧ (L 8 → f 101 = .pointer (some ⟨b, o + k, none⟩)) ∧ (L 9 → f 102 = .int .i64 t) ∧ (L 10 → ¬ L 11 → f 103 = .slice (some ⟨V.heap.size, 0, none⟩) 1 1 ∧ (V.alloc (.cells #[.int .i64 t] 3)) = w') ∧ (L 11 → ¬ L 13 → ∃ g9 d9, f 104 = .slice (some ⟨g9, 0, none⟩) (y.ls.length + 1) d9 ∧ RowOwn w' w.heap.size ⟨some ⟨g9, 0, none⟩, d9, y.ls ++ [t]⟩ ∧ (V.alloc (.cells #[.int .i64 t] 3)).grownBy w' y.blk ∧ (y.blk = some g9 ∨ g9 = (V.alloc (.cells #[.int .i64 t] 3)).heap.size)) ∧ (L 12 → f 105 = .pointer (some ⟨g, jb, none⟩)) ∧ (L 13 → ∃ g9 d9, TabS.TOwn w' w.heap.size w'.heap.size (some ⟨g, 0, none⟩) c (m.set jb ⟨some ⟨g9, 0, none⟩, d9, y.ls ++ [t]⟩) ∧ Below w.heap.size w w')) (by kernel_rfl) (by kernel_rfl) (by kernel_rfl) (fun f => ⟨fun _ => HVW.out, fun h => h.elim, fun h => h.elim, fun h => h.elim, fun h => h.elim, fun h => h.elim, fun h => h.elim, fun h => h.elim, fun h => h.elim, fun h => h.elim, fun h => h.elim, fun h => h.elim, fun h => h.elim, fun h => h.elim, fun h => h.elim⟩) ?_ ?_
              · apply RelH.op2
                · intro L f u K hN hS hK
                  simp only [puts, Act.put, List.setIfInBounds_toArray, List.set_cons_zero, List.set_cons_succ, upd, Nat.reduceEqDiff, ↓reduceIte, if_true, if_false] at hK ⊢
                  have HS9 := Lib.hid hS
                  obtain ⟨qN, c0, c1, c2, c3, c4, c5, c6, c7, c8, c9, c10, c11, c12, c13⟩ := hS
                  clear qN c0 c1 c2 c3 c4 c5 c6 c7 c8 c9 c10 c11 c12 c13
                  go_simp
                  obtain ⟨qN, c0, c1, c2, c3, c4, c5, c6, c7, c8, c9, c10, c11, c12, c13⟩ := HS9.out
                  exact hK.out _ _ ⟨fun z9 => qN (fun z => z9 (.inl z)), fun _ => rfl, fun h => c1 (h.resolve_right (by decide)), fun h => c2 (h.resolve_right (by decide)), fun h => c3 (h.resolve_right (by decide)), fun h => c4 (h.resolve_right (by decide)), fun h => c5 (h.resolve_right (by decide)), fun h => c6 (h.resolve_right (by decide)), fun h => c7 (h.resolve_right (by decide)), fun h => c8 (h.resolve_right (by decide)), fun h => c9 (h.resolve_right (by decide)), fun h t0 => c10 (h.resolve_right (by decide)) (fun z => t0 (.inl z)), fun h t0 => c11 (h.resolve_right (by decide)) (fun z => t0 (.inl z)), fun h => c12 (h.resolve_right (by decide)), fun h => c13 (h.resolve_right (by decide))⟩ _ rfl
                apply RelH.op2
                · intro L f u K hN hS hK
                  simp only [puts, Act.put, List.setIfInBounds_toArray, List.set_cons_zero, List.set_cons_succ, upd, Nat.reduceEqDiff, ↓reduceIte, if_true, if_false] at hK ⊢
                  have HS9 := Lib.hid hS
                  obtain ⟨qN, c0, c1, c2, c3, c4, c5, c6, c7, c8, c9, c10, c11, c12, c13⟩ := hS
                  clear qN c0 c1 c2 c3 c4 c5 c6 c7 c8 c9 c10 c11 c12 c13
                  go_simp
                  obtain ⟨qN, c0, c1, c2, c3, c4, c5, c6, c7, c8, c9, c10, c11, c12, c13⟩ := HS9.out
                  exact hK.out _ _ ⟨fun z9 => qN (fun z => z9 (.inl z)), fun h => c0 (h.resolve_right (by decide)), fun _ => rfl, fun h => c2 (h.resolve_right (by decide)), fun h => c3 (h.resolve_right (by decide)), fun h => c4 (h.resolve_right (by decide)), fun h => c5 (h.resolve_right (by decide)), fun h => c6 (h.resolve_right (by decide)), fun h => c7 (h.resolve_right (by decide)), fun h => c8 (h.resolve_right (by decide)), fun h => c9 (h.resolve_right (by decide)), fun h t0 => c10 (h.resolve_right (by decide)) (fun z => t0 (.inl z)), fun h t0 => c11 (h.resolve_right (by decide)) (fun z => t0 (.inl z)), fun h => c12 (h.resolve_right (by decide)), fun h => c13 (h.resolve_right (by decide))⟩ _ rfl
                apply RelH.op2
                · intro L f u K hN hS hK
                  simp only [puts, Act.put, List.setIfInBounds_toArray, List.set_cons_zero, List.set_cons_succ, upd, Nat.reduceEqDiff, ↓reduceIte, if_true, if_false] at hK ⊢
                  have HS9 := Lib.hid hS
                  obtain ⟨qN, c0, c1, c2, c3, c4, c5, c6, c7, c8, c9, c10, c11, c12, c13⟩ := hS
                  clear qN c0 c1 c2 c3 c4 c5 c6 c7 c8 c9 c10 c11 c12 c13
                  go_simp
                  obtain ⟨qN, c0, c1, c2, c3, c4, c5, c6, c7, c8, c9, c10, c11, c12, c13⟩ := HS9.out
                  exact hK.out _ _ ⟨fun z9 => qN (fun z => z9 (.inl z)), fun h => c0 (h.resolve_right (by decide)), fun h => c1 (h.resolve_right (by decide)), fun _ => rfl, fun h => c3 (h.resolve_right (by decide)), fun h => c4 (h.resolve_right (by decide)), fun h => c5 (h.resolve_right (by decide)), fun h => c6 (h.resolve_right (by decide)), fun h => c7 (h.resolve_right (by decide)), fun h => c8 (h.resolve_right (by decide)), fun h => c9 (h.resolve_right (by decide)), fun h t0 => c10 (h.resolve_right (by decide)) (fun z => t0 (.inl z)), fun h t0 => c11 (h.resolve_right (by decide)) (fun z => t0 (.inl z)), fun h => c12 (h.resolve_right (by decide)), fun h => c13 (h.resolve_right (by decide))⟩ _ rfl
                apply RelH.op2
                · intro L f u K hN hS hK
                  simp only [puts, Act.put, List.setIfInBounds_toArray, List.set_cons_zero, List.set_cons_succ, upd, Nat.reduceEqDiff, ↓reduceIte, if_true, if_false] at hK ⊢
                  have HS9 := Lib.hid hS
                  obtain ⟨qN, c0, c1, c2, c3, c4, c5, c6, c7, c8, c9, c10, c11, c12, c13⟩ := hS
                  clear qN c0 c1 c2 c3 c4 c5 c6 c7 c8 c9 c10 c11 c12 c13
                  go_simp
                  obtain ⟨qN, c0, c1, c2, c3, c4, c5, c6, c7, c8, c9, c10, c11, c12, c13⟩ := HS9.out
                  exact hK.out _ _ ⟨fun z9 => qN (fun z => z9 (.inl z)), fun h => c0 (h.resolve_right (by decide)), fun h => c1 (h.resolve_right (by decide)), fun h => c2 (h.resolve_right (by decide)), fun _ => rfl, fun h => c4 (h.resolve_right (by decide)), fun h => c5 (h.resolve_right (by decide)), fun h => c6 (h.resolve_right (by decide)), fun h => c7 (h.resolve_right (by decide)), fun h => c8 (h.resolve_right (by decide)), fun h => c9 (h.resolve_right (by decide)), fun h t0 => c10 (h.resolve_right (by decide)) (fun z => t0 (.inl z)), fun h t0 => c11 (h.resolve_right (by decide)) (fun z => t0 (.inl z)), fun h => c12 (h.resolve_right (by decide)), fun h => c13 (h.resolve_right (by decide))⟩ _ rfl
                apply RelH.op2
                · intro L f u K hN hS hK
                  simp only [puts, Act.put, List.setIfInBounds_toArray, List.set_cons_zero, List.set_cons_succ, upd, Nat.reduceEqDiff, ↓reduceIte, if_true, if_false] at hK ⊢
                  have HS9 := Lib.hid hS
                  obtain ⟨qN, c0, c1, c2, c3, c4, c5, c6, c7, c8, c9, c10, c11, c12, c13⟩ := hS
                  have e2 := c2 (hN.out.2 2 (by decide +kernel))
                  have e3 := c3 (hN.out.2 3 (by decide +kernel))
                  clear qN c0 c1 c2 c3 c4 c5 c6 c7 c8 c9 c10 c11 c12 c13
                  go_simp
                  obtain ⟨qN, c0, c1, c2, c3, c4, c5, c6, c7, c8, c9, c10, c11, c12, c13⟩ := HS9.out
                  exact hK.out _ _ ⟨fun z9 => qN (fun z => z9 (.inl z)), fun h => c0 (h.resolve_right (by decide)), fun h => c1 (h.resolve_right (by decide)), fun h => c2 (h.resolve_right (by decide)), fun h => c3 (h.resolve_right (by decide)), fun _ => rfl, fun h => c5 (h.resolve_right (by decide)), fun h => c6 (h.resolve_right (by decide)), fun h => c7 (h.resolve_right (by decide)), fun h => c8 (h.resolve_right (by decide)), fun h => c9 (h.resolve_right (by decide)), fun h t0 => c10 (h.resolve_right (by decide)) (fun z => t0 (.inl z)), fun h t0 => c11 (h.resolve_right (by decide)) (fun z => t0 (.inl z)), fun h => c12 (h.resolve_right (by decide)), fun h => c13 (h.resolve_right (by decide))⟩ _ (by simp only [e2, e3])
                apply RelH.op2
                · intro L f u K hN hS hK
                  simp only [puts, Act.put, List.setIfInBounds_toArray, List.set_cons_zero, List.set_cons_succ, upd, Nat.reduceEqDiff, ↓reduceIte, if_true, if_false] at hK ⊢
                  have HS9 := Lib.hid hS
                  obtain ⟨qN, c0, c1, c2, c3, c4, c5, c6, c7, c8, c9, c10, c11, c12, c13⟩ := hS
                  have e4 := c4 (hN.out.2 4 (by decide +kernel))
                  have hcu : u.cell? ⟨g, jb, none⟩ = some (.slice y.A y.ls.length y.cap) := by
                    rcases Classical.em (L 10) with z9 | z9
                    · rw [← (c10 z9 (hN.out.1 11 (by decide +kernel))).2]; exact cell_kept hcoV (al (Below.refl _ _))
                    · rw [← qN z9]; exact hcoV
                  clear qN c0 c1 c2 c3 c4 c5 c6 c7 c8 c9 c10 c11 c12 c13
                  go_simp
                  obtain ⟨qN, c0, c1, c2, c3, c4, c5, c6, c7, c8, c9, c10, c11, c12, c13⟩ := HS9.out
                  exact hK.out _ _ ⟨fun z9 => qN (fun z => z9 (.inl z)), fun h => c0 (h.resolve_right (by decide)), fun h => c1 (h.resolve_right (by decide)), fun h => c2 (h.resolve_right (by decide)), fun h => c3 (h.resolve_right (by decide)), fun h => c4 (h.resolve_right (by decide)), fun _ => rfl, fun h => c6 (h.resolve_right (by decide)), fun h => c7 (h.resolve_right (by decide)), fun h => c8 (h.resolve_right (by decide)), fun h => c9 (h.resolve_right (by decide)), fun h t0 => c10 (h.resolve_right (by decide)) (fun z => t0 (.inl z)), fun h t0 => c11 (h.resolve_right (by decide)) (fun z => t0 (.inl z)), fun h => c12 (h.resolve_right (by decide)), fun h => c13 (h.resolve_right (by decide))⟩ _ (by simp only [e4])
                apply RelH.op2
                · intro L f u K hN hS hK
                  simp only [puts, Act.put, List.setIfInBounds_toArray, List.set_cons_zero, List.set_cons_succ, upd, Nat.reduceEqDiff, ↓reduceIte, if_true, if_false] at hK ⊢
                  have HS9 := Lib.hid hS
                  obtain ⟨qN, c0, c1, c2, c3, c4, c5, c6, c7, c8, c9, c10, c11, c12, c13⟩ := hS
                  clear qN c0 c1 c2 c3 c4 c5 c6 c7 c8 c9 c10 c11 c12 c13
                  go_simp
                  obtain ⟨qN, c0, c1, c2, c3, c4, c5, c6, c7, c8, c9, c10, c11, c12, c13⟩ := HS9.out
                  exact hK.out _ _ ⟨fun z9 => qN (fun z => z9 (.inl z)), fun h => c0 (h.resolve_right (by decide)), fun h => c1 (h.resolve_right (by decide)), fun h => c2 (h.resolve_right (by decide)), fun h => c3 (h.resolve_right (by decide)), fun h => c4 (h.resolve_right (by decide)), fun h => c5 (h.resolve_right (by decide)), fun _ => rfl, fun h => c7 (h.resolve_right (by decide)), fun h => c8 (h.resolve_right (by decide)), fun h => c9 (h.resolve_right (by decide)), fun h t0 => c10 (h.resolve_right (by decide)) (fun z => t0 (.inl z)), fun h t0 => c11 (h.resolve_right (by decide)) (fun z => t0 (.inl z)), fun h => c12 (h.resolve_right (by decide)), fun h => c13 (h.resolve_right (by decide))⟩ _ rfl
                apply RelH.op2
                · intro L f u K hN hS hK
                  simp only [puts, Act.put, List.setIfInBounds_toArray, List.set_cons_zero, List.set_cons_succ, upd, Nat.reduceEqDiff, ↓reduceIte, if_true, if_false] at hK ⊢
                  have HS9 := Lib.hid hS
                  obtain ⟨qN, c0, c1, c2, c3, c4, c5, c6, c7, c8, c9, c10, c11, c12, c13⟩ := hS
                  clear qN c0 c1 c2 c3 c4 c5 c6 c7 c8 c9 c10 c11 c12 c13
                  go_simp
                  obtain ⟨qN, c0, c1, c2, c3, c4, c5, c6, c7, c8, c9, c10, c11, c12, c13⟩ := HS9.out
                  exact hK.out _ _ ⟨fun z9 => qN (fun z => z9 (.inl z)), fun h => c0 (h.resolve_right (by decide)), fun h => c1 (h.resolve_right (by decide)), fun h => c2 (h.resolve_right (by decide)), fun h => c3 (h.resolve_right (by decide)), fun h => c4 (h.resolve_right (by decide)), fun h => c5 (h.resolve_right (by decide)), fun h => c6 (h.resolve_right (by decide)), fun _ => rfl, fun h => c8 (h.resolve_right (by decide)), fun h => c9 (h.resolve_right (by decide)), fun h t0 => c10 (h.resolve_right (by decide)) (fun z => t0 (.inl z)), fun h t0 => c11 (h.resolve_right (by decide)) (fun z => t0 (.inl z)), fun h => c12 (h.resolve_right (by decide)), fun h => c13 (h.resolve_right (by decide))⟩ _ rfl
                apply RelH.op2
                · intro L f u K hN hS hK
                  simp only [puts, Act.put, List.setIfInBounds_toArray, List.set_cons_zero, List.set_cons_succ, upd, Nat.reduceEqDiff, ↓reduceIte, if_true, if_false] at hK ⊢
                  have HS9 := Lib.hid hS
                  obtain ⟨qN, c0, c1, c2, c3, c4, c5, c6, c7, c8, c9, c10, c11, c12, c13⟩ := hS
                  have e6 := c6 (hN.out.2 6 (by decide +kernel))
                  have e7 := c7 (hN.out.2 7 (by decide +kernel))
                  clear qN c0 c1 c2 c3 c4 c5 c6 c7 c8 c9 c10 c11 c12 c13
                  go_simp
                  obtain ⟨qN, c0, c1, c2, c3, c4, c5, c6, c7, c8, c9, c10, c11, c12, c13⟩ := HS9.out
                  exact hK.out _ _ ⟨fun z9 => qN (fun z => z9 (.inl z)), fun h => c0 (h.resolve_right (by decide)), fun h => c1 (h.resolve_right (by decide)), fun h => c2 (h.resolve_right (by decide)), fun h => c3 (h.resolve_right (by decide)), fun h => c4 (h.resolve_right (by decide)), fun h => c5 (h.resolve_right (by decide)), fun h => c6 (h.resolve_right (by decide)), fun h => c7 (h.resolve_right (by decide)), fun _ => rfl, fun h => c9 (h.resolve_right (by decide)), fun h t0 => c10 (h.resolve_right (by decide)) (fun z => t0 (.inl z)), fun h t0 => c11 (h.resolve_right (by decide)) (fun z => t0 (.inl z)), fun h => c12 (h.resolve_right (by decide)), fun h => c13 (h.resolve_right (by decide))⟩ _ (by simp only [e6, e7])
                apply RelH.op2
                · intro L f u K hN hS hK
                  simp only [puts, Act.put, List.setIfInBounds_toArray, List.set_cons_zero, List.set_cons_succ, upd, Nat.reduceEqDiff, ↓reduceIte, if_true, if_false] at hK ⊢
                  have HS9 := Lib.hid hS
                  obtain ⟨qN, c0, c1, c2, c3, c4, c5, c6, c7, c8, c9, c10, c11, c12, c13⟩ := hS
                  have e8 := c8 (hN.out.2 8 (by decide +kernel))
                  have hcu : u.cell? ⟨b, o + k, none⟩ = some (.int .i64 t) := by
                    rcases Classical.em (L 10) with z9 | z9
                    · rw [← (c10 z9 (hN.out.1 11 (by decide +kernel))).2]; exact cell_kept ht0V (al (Below.refl _ _))
                    · rw [← qN z9]; exact ht0V
                  clear qN c0 c1 c2 c3 c4 c5 c6 c7 c8 c9 c10 c11 c12 c13
                  go_simp
                  obtain ⟨qN, c0, c1, c2, c3, c4, c5, c6, c7, c8, c9, c10, c11, c12, c13⟩ := HS9.out
                  exact hK.out _ _ ⟨fun z9 => qN (fun z => z9 (.inl z)), fun h => c0 (h.resolve_right (by decide)), fun h => c1 (h.resolve_right (by decide)), fun h => c2 (h.resolve_right (by decide)), fun h => c3 (h.resolve_right (by decide)), fun h => c4 (h.resolve_right (by decide)), fun h => c5 (h.resolve_right (by decide)), fun h => c6 (h.resolve_right (by decide)), fun h => c7 (h.resolve_right (by decide)), fun h => c8 (h.resolve_right (by decide)), fun _ => rfl, fun h t0 => c10 (h.resolve_right (by decide)) (fun z => t0 (.inl z)), fun h t0 => c11 (h.resolve_right (by decide)) (fun z => t0 (.inl z)), fun h => c12 (h.resolve_right (by decide)), fun h => c13 (h.resolve_right (by decide))⟩ _ (by simp only [e8])
                apply RelH.op2
                · intro L f u K hN hS hK
                  simp only [puts, Act.put, List.setIfInBounds_toArray, List.set_cons_zero, List.set_cons_succ, upd, Nat.reduceEqDiff, ↓reduceIte, if_true, if_false] at hK ⊢
                  have HS9 := Lib.hid hS
                  obtain ⟨qN, c0, c1, c2, c3, c4, c5, c6, c7, c8, c9, c10, c11, c12, c13⟩ := hS
                  have e9 := c9 (hN.out.2 9 (by decide +kernel))
                  have hu := qN (hN.out.1 10 (by decide +kernel))
                  subst hu
                  clear qN c0 c1 c2 c3 c4 c5 c6 c7 c8 c9 c10 c11 c12 c13
                  go_simp
                  obtain ⟨qN, c0, c1, c2, c3, c4, c5, c6, c7, c8, c9, c10, c11, c12, c13⟩ := HS9.out
                  exact hK.out _ _ ⟨fun z9 => (z9 (by simp)).elim, fun h => c0 (h.resolve_right (by decide)), fun h => c1 (h.resolve_right (by decide)), fun h => c2 (h.resolve_right (by decide)), fun h => c3 (h.resolve_right (by decide)), fun h => c4 (h.resolve_right (by decide)), fun h => c5 (h.resolve_right (by decide)), fun h => c6 (h.resolve_right (by decide)), fun h => c7 (h.resolve_right (by decide)), fun h => c8 (h.resolve_right (by decide)), fun h => c9 (h.resolve_right (by decide)), fun _ _ => ⟨rfl, rfl⟩, fun h t0 => absurd (h.resolve_right (by decide)) (hN.out.1 11 (by decide +kernel)), fun h => c12 (h.resolve_right (by decide)), fun h => absurd (h.resolve_right (by decide)) (hN.out.1 13 (by decide +kernel))⟩ _ (by simp only [e9])
                apply RelH.op2
                · intro L f u K hN hS hK
                  simp only [puts, Act.put, List.setIfInBounds_toArray, List.set_cons_zero, List.set_cons_succ, upd, Nat.reduceEqDiff, ↓reduceIte, if_true, if_false] at hK ⊢
                  have HS9 := Lib.hid hS
                  obtain ⟨qN, c0, c1, c2, c3, c4, c5, c6, c7, c8, c9, c10, c11, c12, c13⟩ := hS
                  obtain ⟨x10, hu⟩ := c10 (hN.out.2 10 (by decide +kernel)) (hN.out.1 11 (by decide +kernel))
                  have x5 := c5 (hN.out.2 5 (by decide +kernel))
                  subst hu
                  refine step_lies rfl (.tmp 98) (.tmp 103) 82 rfl w.heap.size 3 i0 _ 1 8 Try.underlying82 hi0 hz0 HI1.out HI.out rfl (by decide) (.slice y.A y.ls.length y.cap) y.ls.length (iv y.ls) x5 HOAV.out ⟨V.heap.size, 0, none⟩ 1 1 [.int .i64 t] x10 rfl HNCV.out (one_cell rfl) (by decide) (by unfold maxLen; omega) (by omega) (by rw [size_alloc']; omega) _ rfl ?_
                  intro g9 d9 w9 hown1 hgrow hat hlt9
                  exact hK.out _ _ ⟨fun z9 => (z9 (.inl (hN.out.2 10 (by decide +kernel)))).elim, fun h => c0 (h.resolve_right (by decide)), fun h => c1 (h.resolve_right (by decide)), fun h => c2 (h.resolve_right (by decide)), fun h => c3 (h.resolve_right (by decide)), fun h => c4 (h.resolve_right (by decide)), fun h => c5 (h.resolve_right (by decide)), fun h => c6 (h.resolve_right (by decide)), fun h => c7 (h.resolve_right (by decide)), fun h => c8 (h.resolve_right (by decide)), fun h => c9 (h.resolve_right (by decide)), fun h t0 => (t0 (by simp)).elim, fun _ _ => ⟨g9, d9, rfl, HeapP.row_snoc hown1, hgrow, hat⟩, fun h => c12 (h.resolve_right (by decide)), fun h => absurd (h.resolve_right (by decide)) (hN.out.1 13 (by decide +kernel))⟩ _ rfl
                apply RelH.op2
                · intro L f u K hN hS hK
                  simp only [puts, Act.put, List.setIfInBounds_toArray, List.set_cons_zero, List.set_cons_succ, upd, Nat.reduceEqDiff, ↓reduceIte, if_true, if_false] at hK ⊢
                  have HS9 := Lib.hid hS
                  obtain ⟨qN, c0, c1, c2, c3, c4, c5, c6, c7, c8, c9, c10, c11, c12, c13⟩ := hS
                  have e0 := c0 (hN.out.2 0 (by decide +kernel))
                  have e1 := c1 (hN.out.2 1 (by decide +kernel))
                  clear qN c0 c1 c2 c3 c4 c5 c6 c7 c8 c9 c10 c11 c12 c13
                  go_simp
                  obtain ⟨qN, c0, c1, c2, c3, c4, c5, c6, c7, c8, c9, c10, c11, c12, c13⟩ := HS9.out
                  exact hK.out _ _ ⟨fun z9 => qN (fun z => z9 (.inl z)), fun h => c0 (h.resolve_right (by decide)), fun h => c1 (h.resolve_right (by decide)), fun h => c2 (h.resolve_right (by decide)), fun h => c3 (h.resolve_right (by decide)), fun h => c4 (h.resolve_right (by decide)), fun h => c5 (h.resolve_right (by decide)), fun h => c6 (h.resolve_right (by decide)), fun h => c7 (h.resolve_right (by decide)), fun h => c8 (h.resolve_right (by decide)), fun h => c9 (h.resolve_right (by decide)), fun h t0 => c10 (h.resolve_right (by decide)) (fun z => t0 (.inl z)), fun h t0 => c11 (h.resolve_right (by decide)) (fun z => t0 (.inl z)), fun _ => rfl, fun h => c13 (h.resolve_right (by decide))⟩ _ (by simp only [e0, e1])
                apply RelH.op2
                · intro L f u K hN hS hK
                  simp only [puts, Act.put, List.setIfInBounds_toArray, List.set_cons_zero, List.set_cons_succ, upd, Nat.reduceEqDiff, ↓reduceIte, if_true, if_false] at hK ⊢
                  have HS9 := Lib.hid hS
                  obtain ⟨qN, c0, c1, c2, c3, c4, c5, c6, c7, c8, c9, c10, c11, c12, c13⟩ := hS
                  have e12 := c12 (hN.out.2 12 (by decide +kernel))
                  obtain ⟨g9, d9, e11, hr9, hg9, hat9⟩ := c11 (hN.out.2 11 (by decide +kernel)) (hN.out.1 13 (by decide +kernel))
                  have HP := Lib.hid (appT (w9 := u) (g9 := g9) (c9 := d9) (t := t) HOXV.out HJB.out (by rw [HY.out]; exact hr9) (by rw [HY.out]; exact hg9) (by rw [HY.out]; exact hat9))
                  have hd1 := HP.out.1.frozenAt jb
                  have hd2 := TabS.tat HP.out.1 HJB.out HY.out
                  have HB9 := Lib.hid (bl_grown (al HBV.out (o := (.cells #[.int .i64 t] 3))) hg9 (fun j hj => (HRO.out.lt j hj).1))
                  have HFIN := Lib.hid (show TabS.TOwn (u.setCell ⟨g, jb, none⟩ (.slice (some ⟨g9, 0, none⟩) (y.ls.length + 1) d9)) w.heap.size (u.setCell ⟨g, jb, none⟩ (.slice (some ⟨g9, 0, none⟩) (y.ls.length + 1) d9)).heap.size (some ⟨g, 0, none⟩) c (m.set jb ⟨some ⟨g9, 0, none⟩, d9, y.ls ++ [t]⟩) by have h := HP.out.2; rw [HY.out, show (y.ls ++ [t]).length = y.ls.length + 1 by simp] at h; rw [size_set']; exact h)
                  clear hr9 hg9 hat9
                  clear qN c0 c1 c2 c3 c4 c5 c6 c7 c8 c9 c10 c11 c12 c13
                  go_simp
                  obtain ⟨qN, c0, c1, c2, c3, c4, c5, c6, c7, c8, c9, c10, c11, c12, c13⟩ := HS9.out
                  exact hK.out undef _ ⟨fun z9 => (z9 (.inl (hN.out.2 10 (by decide +kernel)))).elim, fun h => c0 (h.resolve_right (by decide)), fun h => c1 (h.resolve_right (by decide)), fun h => c2 (h.resolve_right (by decide)), fun h => c3 (h.resolve_right (by decide)), fun h => c4 (h.resolve_right (by decide)), fun h => c5 (h.resolve_right (by decide)), fun h => c6 (h.resolve_right (by decide)), fun h => c7 (h.resolve_right (by decide)), fun h => c8 (h.resolve_right (by decide)), fun h => c9 (h.resolve_right (by decide)), fun h t0 => (t0 (.inl (hN.out.2 11 (by decide +kernel)))).elim, fun h t0 => (t0 (by simp)).elim, fun h => c12 (h.resolve_right (by decide)), fun _ => ⟨g9, d9, HFIN.out, HB9.out.setCell (own_ge HOXV.out.out g rfl) _⟩⟩ _ (by simp only [e12, e11])
                exact RelH.done
              intro L f V0 hL hS
              simp only [puts, Act.put, List.setIfInBounds_toArray, List.set_cons_zero, List.set_cons_succ]
              obtain ⟨qN, c0, c1, c2, c3, c4, c5, c6, c7, c8, c9, c10, c11, c12, c13⟩ := hS
              obtain ⟨g9, d9, T9, B9⟩ := c13 (hL 13 (by decide))
              clear qN c0 c1 c2 c3 c4 c5 c6 c7 c8 c9 c10 c11 c12
              have HT9 := Lib.hid T9; clear T9
              have HB9 := Lib.hid B9; clear B9
              go_wp2
              go_roundw
              case rel =>
                refine ⟨k + 1, m.set jb ⟨some ⟨g9, 0, none⟩, d9, y.ls ++ [t]⟩, _, _, HL.out, by go_num, by rw [List.length_set], HOK1, Lib.hid ?_, HT9, HB9.out⟩
                have hr9 := HRW.out
                rw [HN.out, tp_set, HP0.out]
                congr 1
                rw [← hr9]
                simp [List.getD, hjr']
              case measure => have := HL.out; simp [intOf]; omega
              --REGIONEND
      · have hkk : k = l.length := by omega
        have HV := Lib.hid (stkOk_end h20 HOK.out (show l.length ≤ k by omega))
        have HF := Lib.hid (show stkF l = TabS.tp m by rw [stk_yes HV.out, HP0.out, hkk])
        go_wp2
        go_ret2
        exact TabS.t_mk (m := m) HF.out HV.out rfl HO.out HB
  · have h20' : decide ((20 : Int) < l.length) = true := decide_eq_true (by omega)
    have HV := Lib.hid (stkOk_long (l := l) (by omega))
    go_enter Try.func65, Try.ntmps65
    go_wp2
    go_ret2
    exact TabS.t_mk (m := []) (stk_no HV.out) HV.out rfl HO0.out (al (Below.refl _ _))
end Go.Proofs.Ytpbmncecejchjaa.StackS
