/- A list of heaps that a draw makes: its row grows, each heap's layers lie elsewhere. -/
import Derived.Test.YtokgncbcknpfiaaDoorDHeap0
namespace Go.Proofs.YtokgncbcknpfiaaDoor.DHeaps0
open Go.RowKit Go.Proofs.YtokgncbcknpfiaaDoor.Mem Go.Proofs.YtokgncbcknpfiaaDoor.Base Go.Proofs.YtokgncbcknpfiaaDoor.Draw Go.Proofs.YtokgncbcknpfiaaDoor.Boxes Go.Proofs.YtokgncbcknpfiaaDoor.Keep Go.Proofs.YtokgncbcknpfiaaDoor.Dr Go.Proofs.YtokgncbcknpfiaaDoor.SInt Go.Proofs.YtokgncbcknpfiaaDoor.Nest Go.Proofs.YtokgncbcknpfiaaDoor.HeapS Go.Proofs.YtokgncbcknpfiaaDoor.DHeap0
set_option linter.unusedVariables false
set_option maxRecDepth 100000
theorem info_H : (Tryd.prog.info? 41).map (fun i => (i.zero, i.size, i.bytes)) = some (some (R.val zero), 4, 48) := by kernel_rfl
theorem types_ne {w : World} {b b' n n' : Nat} {v v' : Value} {xs xs' : List Value} (h : w.ownsRow b 3 1 v n xs) (h' : w.ownsRow b' 41 4 v' n' xs') : ∀ k, v.ownBlock = some k → v'.ownBlock ≠ some k := by
  intro k hk hk'
  rcases h.2 with ⟨rfl, _⟩ | ⟨g, cap, cur, rfl, hb, hg, _⟩
  · simp [Value.ownBlock] at hk
  · rcases h'.2 with ⟨rfl, _⟩ | ⟨g2, cap2, cur2, rfl, hb2, hg2, _⟩
    · simp [Value.ownBlock] at hk'
    · simp [Value.ownBlock] at hk hk'
      subst hk; subst hk'
      rw [hg] at hg2
      simp at hg2
/-- the list so far. -/
structure Lt (B : Nat) (zs : List Int) (p K : Nat) (w : World) (A : Option Addr) (c : Nat) (l : List R) (W : World) : Prop where
  C : Cu B zs p K W
  GW : w.grownBy W (some p)
  O : W.ownsRow w.heap.size 41 4 (.slice A l.length c) l.length (flat l)
  rows : ∀ x ∈ l, RowOwn W (p + 1) x.f2 ∧ x.f2.ls.length ≤ 30
  o0 : p < w.heap.size
variable {B : Nat} {zs : List Int} {p K : Nat} {w : World} {A : Option Addr} {c : Nat} {l : List R} {W : World}
theorem Lt.le {K' : Nat} (h : Lt B zs p K w A c l W) (hk : K ≤ K') : Lt B zs p K' w A c l W := ⟨h.C.le hk, h.GW, h.O, h.rows, h.o0⟩
theorem Lt.alloc (h : Lt B zs p K w A c l W) (o : Obj) : Lt B zs p K w A c l (W.alloc o) :=
  ⟨h.C.alloc o, grown_trans h.GW (grown_alloc _ _ _), own_keep h.O (al (Below.refl _ _)), fun x hx => ⟨(h.rows x hx).1.keep (al (Below.refl _ _)), (h.rows x hx).2⟩, h.o0⟩
theorem Lt.went {K' : Nat} {V : World} (h : Lt B zs p K w A c l W) (C : Cu B zs p K' V) (G : W.grownBy V (some p)) : Lt B zs p K' w A c l V := by
  have h0 := h.o0
  refine ⟨C, grown_trans h.GW G, own_grown h.O G (fun k hk => by injection hk with hk; omega), fun x hx => ⟨?_, (h.rows x hx).2⟩, h0⟩
  exact (h.rows x hx).1.congr fun k hk => G.block k ((h.rows x hx).1.lt k hk).2 (fun e => by have := ((h.rows x hx).1.lt k hk).1; injection e with e; omega)
theorem Lt.app {w1 : World} {tmp : Obj} {x : R} {A' : Option Addr} {c' : Nat} (h : Lt B zs p K w A c l W) (hx : RowOwn W (p + 1) x.f2) (hn : x.f2.ls.length ≤ 30) (hg : (W.alloc tmp).grownBy w1 (Value.slice A l.length c).ownBlock)
    (ho : w1.ownsRow w.heap.size 41 4 (.slice A' (l.length + 1) c') (l.length + 1) (flat l ++ x.cells)) : Lt B zs p K w A' c' (l ++ [x]) w1 := by
  have h0 := h.o0
  have ha := h.alloc tmp
  have hro : ∀ k, (Value.slice A l.length c).ownBlock = some k → w.heap.size ≤ k := fun k hk => own_ge h.O k hk
  have key : ∀ r : Row, RowOwn (W.alloc tmp) (p + 1) r → RowOwn w1 (p + 1) r := fun r hr => hr.congr fun k hk => hg.block k (hr.lt k hk).2 (fun e => types_ne hr ha.O k hk e.symm)
  refine ⟨ha.C.grown hg (fun k hk => by have := hro k hk; omega), gw_grown ha.GW hg hro, ?_, fun y hy => ?_, h0⟩
  · rw [flat_snoc, List.length_append]
    exact ho
  · rcases List.mem_append.1 hy with hy | hy
    · exact ⟨key _ (ha.rows y hy).1, (h.rows y hy).2⟩
    · rw [List.mem_singleton.1 hy]
      exact ⟨key _ (hx.keep (al (Below.refl _ _))), hn⟩
theorem Lt.fresh (h : Lt B zs p K w A c l W) : Lt B zs p K w (some ⟨W.heap.size, 0, none⟩) 0 [] (W.alloc (.cells #[] 41)) := by
  have ha := h.alloc (.cells #[] 41)
  have := World.ownsRow_lit W #[] 0 (e := 41) (size := 4) (base := w.heap.size) h.GW.size (by unfold maxLen; omega) rfl
  exact ⟨ha.C, ha.GW, by simpa [flat] using this, fun x hx => (by cases hx), h.o0⟩
theorem Lt.start (C : Cu B zs p K w) (hp : p < w.heap.size) : Lt B zs p K w (some ⟨w.heap.size, 0, none⟩) 0 [] (w.alloc (.cells #[] 41)) :=
  Lt.fresh (A := none) (c := 0) (l := []) ⟨C, grown_refl _ _, World.ownsRow_nil _ _ _ _, fun x hx => (by cases hx), hp⟩
theorem Lt.hs (h : Lt B zs p K w A c l W) (hn : l.length ≤ 1000) : Hs W W.heap.size A l :=
  ⟨Rd.of_own h.O, fun x hx => (h.rows x hx).1.rd, by omega, fun x hx => by have := (h.rows x hx).2; omega⟩
theorem new4 (W : World) (x : R) {g : Nat} (hg : g = W.heap.size) : ∀ j u, x.cells[j]? = some u → (W.alloc (.cells #[.int .i64 x.f0, .int .i64 x.f1, .slice x.f2.A x.f2.ls.length x.f2.cap, .bool x.f3] 41)).cell? ((⟨g, 0, none⟩ : Addr).add j) = some u := by
  intro j u hu
  rw [DStack.cell_add1, Nat.zero_add, hg, World.cell?_alloc_at _ _ _ _ rfl]
  simpa [R.cells] using hu
theorem one4 (x : R) : ∀ u ∈ x.cells, u.oneCell' = true := by
  intro u hu
  have : u ∈ flat [x] := by simpa [flat] using hu
  exact flat_one [x] u this
theorem Lt.pick (h : Lt B zs p K w A c l W) (hK : K ≤ 900000000) (n : Int) (hn : 1 ≤ n) (hn1 : n ≤ 65536) :
    Calls Tryd.prog 25 #[.pointer (some ⟨p, 0, none⟩), .int .i64 n] W fun e V => ∃ x : Int, (0 ≤ x ∧ x < n) ∧ e = .returned (.int .i64 x) ∧ Lt B zs p (K + 2) w A c l V := by
  refine (pick_d B zs p K W n h.C hK hn hn1).mono ?_
  rintro e V ⟨x, hx, rfl, C, G⟩
  exact ⟨x, hx, rfl, h.went C G⟩
theorem Lt.one (h : Lt B zs p K w A c l W) (hK : K ≤ 900000000) (n : Int) (hn : 1 ≤ n) (hn1 : n ≤ 65536) :
    Calls Tryd.prog 24 #[.pointer (some ⟨p, 0, none⟩), .int .i64 n] W fun e V => ∃ b : Bool, e = .returned (.bool b) ∧ Lt B zs p (K + 2) w A c l V := by
  refine (one_d B zs p K W n h.C hK hn hn1).mono ?_
  rintro e V ⟨b, rfl, C, G⟩
  exact ⟨b, rfl, h.went C G⟩
end Go.Proofs.YtokgncbcknpfiaaDoor.DHeaps0
