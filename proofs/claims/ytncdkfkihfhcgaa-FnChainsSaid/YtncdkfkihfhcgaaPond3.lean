/- Lists of ponds: the model's l3Find. -/
import Derived.Test.YtncdkfkihfhcgaaPond2
namespace Go.Proofs.Ytncdkfkihfhcgaa.Pond3
open Go.RowKit Go.Proofs.Ytncdkfkihfhcgaa.Mem Go.Proofs.Ytncdkfkihfhcgaa.Base Go.Proofs.Ytncdkfkihfhcgaa.SPond Go.Proofs.Ytncdkfkihfhcgaa.Regn Go.Proofs.Ytncdkfkihfhcgaa.Boxes Go.Proofs.Ytncdkfkihfhcgaa.Pond Go.Proofs.Ytncdkfkihfhcgaa.Pond2
set_option linter.unusedVariables false
set_option maxRecDepth 100000
/-- the index of the pond with this number in a sound list, or -1. -/
def find (l : List R) (id : Int) : Int := if good l = true then (match l.findIdx? (fun x => x.f0 == id) with | some i => (i : Int) | none => -1) else -1
def Not (l : List R) (id : Int) (k : Nat) : Prop := ∀ j (h : j < l.length), j < k → l[j].f0 ≠ id
theorem find_bad {l : List R} {id : Int} (h : good l = false) : find l id = -1 := by unfold find; rw [h]; rfl
theorem find_at {l : List R} {id : Int} {k : Nat} (hg : good l = true) (hk : k < l.length) (hn : Not l id k) (he : l[k].f0 = id) : find l id = k := by
  unfold find
  rw [if_pos hg]
  have : l.findIdx? (fun x => x.f0 == id) = some k := by
    rw [List.findIdx?_eq_some_iff_getElem]
    exact ⟨hk, by simp [he], fun j hj => by simpa using hn j (by omega) hj⟩
  rw [this]
theorem find_none {l : List R} {id : Int} (hn : Not l id l.length) : find l id = -1 := by
  unfold find
  split
  · have : l.findIdx? (fun x => x.f0 == id) = none := by
      rw [List.findIdx?_eq_none_iff]
      intro x hx
      obtain ⟨j, hj, rfl⟩ := List.getElem_of_mem hx
      simpa using hn j hj hj
    rw [this]
  · rfl
theorem Not.next {l : List R} {id : Int} {k : Nat} (h : Not l id k) (hk : k < l.length) (he : l[k].f0 ≠ id) : Not l id (k + 1) := fun j hj hj2 => by
  rcases Nat.lt_or_ge j k with h1 | h1
  · exact h j hj h1
  · have : j = k := by omega
    subst this; exact he
theorem find_range {l : List R} {id : Int} : -1 ≤ find l id ∧ find l id < l.length := by
  unfold find
  split
  · split
    · rename_i i h
      have := (List.findIdx?_eq_some_iff_getElem.1 h).1
      omega
    · omega
  · omega
set_option maxHeartbeats 1000000 in
theorem find_spec (P : Option Addr) (cap : Nat) (l : List R) (id : Int) (w : World) (hr : Rd w w.heap.size P (flat l)) (hn : l.length ≤ 1048576) :
    Calls Try.prog 32 #[.slice P l.length cap, .int .i64 id] w (RPost (.int .i64 (find l id)) w) := by
  have HR := Lib.hid hr; clear hr
  go_enter Try.func32, Try.ntmps32
  go_wp2
  go_loopw [5] (fun i wr => ∃ k : Nat, k ≤ l.length ∧ i = .int .i64 k ∧ Hid (Not l id k) ∧ Below w.heap.size w wr) (fun i _ => l.length - (intOf i).toNat)
  case atStart => exact ⟨0, Nat.zero_le _, rfl, Lib.hid (fun j _ hj => by omega), Below.refl _ _⟩
  case round =>
    obtain ⟨k, hk, rfl, HN, HB⟩ := hrel
    by_cases hlt : k < l.length
    · have HRW := Lib.hid ((HR.out.below HB (Nat.le_refl _)).mono HB.size)
      go_wp2_with fail
      refine (good_spec P cap l wr HRW.out hn).mono ?_
      rintro e w1 ⟨rfl, hv⟩
      have HB1 := be HB hv
      clear hv HRW
      cases hg : good l
      · go_wp2
        go_ret
        exact rpost (by rw [find_bad hg] <;> rfl) HB1
      · obtain ⟨b, o, rfl, hb, hc⟩ := HR.out.at (k := k * 6) (by rw [flat_n]; omega)
        obtain ⟨x, hx⟩ : ∃ x, l[k].f0 = x := ⟨_, rfl⟩
        have h0 : w1.cell? ⟨b, o + k * 6, none⟩ = some (.int .i64 x) := ((bcell HB1).1 _ _ hb).trans (by rw [← hx]; exact hc _ _ (flat_0 l k hlt))
        have HL := Lib.hid hlt
        have HG := Lib.hid hg; clear hg
        clear hc
        by_cases he : x = id
        · subst he
          have HF := Lib.hid (find_at HG.out hlt HN.out hx); clear hx
          go_wp2
          go_ret
          exact rpost (by rw [HF.out] <;> rfl) HB1
        · have hne : (x == id) = false := by simp [he]
          have HN1 := Lib.hid (HN.out.next hlt (by rw [hx]; exact he)); clear hx he
          go_wp2
          go_roundw
          case rel => exact ⟨k + 1, HL.out, by go_num, HN1, HB1⟩
          case measure => have := HL.out; simp [intOf]; omega
    · have HF := Lib.hid (find_none (l := l) (id := id) (fun j hj _ => HN.out j hj (by omega)))
      go_wp2
      go_ret
      exact rpost (by rw [HF.out] <;> rfl) HB
end Go.Proofs.Ytncdkfkihfhcgaa.Pond3
