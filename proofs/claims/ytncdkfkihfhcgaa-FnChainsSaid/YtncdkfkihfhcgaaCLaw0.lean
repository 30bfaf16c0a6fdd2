/- The laws' helpers rBig, rInts, rPonds. -/
import Derived.Test.YtncdkfkihfhcgaaPond8
import Derived.Test.YtncdkfkihfhcgaaSInt
namespace Go.Proofs.Ytncdkfkihfhcgaa.CLaw0
open Go.RowKit Go.Proofs.Ytncdkfkihfhcgaa.Mem Go.Proofs.Ytncdkfkihfhcgaa.Base Go.Proofs.Ytncdkfkihfhcgaa.SPond Go.Proofs.Ytncdkfkihfhcgaa.Boxes Go.Proofs.Ytncdkfkihfhcgaa.SInt Go.Proofs.Ytncdkfkihfhcgaa.Pond Go.Proofs.Ytncdkfkihfhcgaa.Pond2 Go.Proofs.Ytncdkfkihfhcgaa.Pond3 Go.Proofs.Ytncdkfkihfhcgaa.IPond2
set_option linter.unusedVariables false
set_option maxRecDepth 100000
def bigB (n : Nat) : Bool := decide (65536 < n)
theorem vbig_any (A : Option Addr) (cap n : Nat) (w : World) (hn : n ≤ maxLen) : Calls Try.prog 5 #[.slice A n cap] w (BPost (bigB n) w) := by
  unfold maxLen at hn
  by_cases h : 65536 < n
  · have hb := Lib.hid (show bigB n = true from decide_eq_true h)
    have h' : decide ((65536 : Int) < n) = true := decide_eq_true (by omega)
    go_enter Try.func5, Try.ntmps5
    go_wp2
    go_ret
    exact bpost (by rw [hb.out])
  · have hb := Lib.hid (show bigB n = false from decide_eq_false h)
    have h' : decide ((65536 : Int) < n) = false := decide_eq_false (by omega)
    go_enter Try.func5, Try.ntmps5
    go_wp2
    go_ret
    exact bpost (by rw [hb.out])
set_option maxHeartbeats 400000 in
theorem vints_any (A A' : Option Addr) (cap cap' : Nat) (l m : List Int) (w : World) (hr : Rd w w.heap.size A (iv l)) (hr' : Rd w w.heap.size A' (iv m)) (hn : l.length ≤ maxLen) (hn' : m.length ≤ maxLen) :
    Calls Try.prog 9 #[.slice A l.length cap, .slice A' m.length cap'] w (SInt.EqPost l m w) := by
  unfold maxLen at hn hn'
  by_cases hl : l.length = m.length
  · have hne : ((l.length : Int) != m.length) = false := by rw [bne_eq_false_iff_eq]; omega
    have HR := Lib.hid hr; clear hr
    have HR' := Lib.hid hr'; clear hr'
    have HL := Lib.hid hl; clear hl
    go_enter Try.func9, Try.ntmps9
    go_wp2
    go_loopw [5] (fun i wr => ∃ k : Nat, k ≤ l.length ∧ i = .int .i64 k ∧ l.take k = m.take k ∧ ∃ n, wr = w.drewN n) (fun i _ => l.length - (intOf i).toNat)
    case atStart => exact ⟨0, Nat.zero_le _, rfl, by simp, 0, rfl⟩
    case round =>
      obtain ⟨k, hk, rfl, hpre, n, rfl⟩ := hrel
      have HP := Lib.hid hpre; clear hpre
      by_cases hlt : k < l.length
      · obtain ⟨b, o, rfl, hb, hc⟩ := HR.out.at (k := k) (by rw [iv_len]; exact hlt)
        obtain ⟨b', o', rfl, hb', hc'⟩ := HR'.out.at (k := k) (by rw [iv_len]; have := HL.out; omega)
        have hlt' : k < m.length := by have := HL.out; omega
        obtain ⟨x, hx⟩ : ∃ x, l[k] = x := ⟨_, rfl⟩
        obtain ⟨y, hy⟩ : ∃ y, m[k] = y := ⟨_, rfl⟩
        have hcell : w.cell? ⟨b, o + k, none⟩ = some (.int .i64 x) := by rw [← hx]; exact hc k _ (iv_get l k hlt)
        have hcell' : w.cell? ⟨b', o' + k, none⟩ = some (.int .i64 y) := by rw [← hy]; exact hc' k _ (iv_get m k hlt')
        clear hc hc'
        by_cases he : x = y
        · have hq : (x != y) = false := by simp [he]
          have HT := Lib.hid (take_eq_succ hlt hlt' HP.out (by rw [hx, hy]; exact he)); clear hx hy he
          have HLT := Lib.hid hlt
          go_wp2
          go_quiet (fail)
          go_wp2
          exact ⟨⟨k + 1, HLT.out, by go_num, HT.out, _, rfl⟩, by have := HLT.out; simp [intOf]; omega⟩
        · have hq : (x != y) = true := by simp [he]
          have HT := Lib.hid (take_ne hlt hlt' (by rw [hx, hy]; exact he)); clear hx hy he
          go_wp2
          go_quiet (fail)
          go_wp2
          go_ret
          exact SInt.eq_no HT.out (Drawn.nn _ _ _)
      · go_wp2
        go_ret
        exact SInt.eq_yes (by have h1 := HP.out; rwa [List.take_of_length_le (by omega), List.take_of_length_le (by have := HL.out; omega)] at h1) (Drawn.n _ _)
  · have hne : ((l.length : Int) != m.length) = true := by rw [bne_iff_ne]; omega
    go_enter Try.func9, Try.ntmps9
    go_wp2
    go_ret
    exact SInt.eq_no (fun e => hl (by rw [e])) (Drawn.refl _)
set_option maxHeartbeats 800000 in
theorem rponds_same (A A' : Option Addr) (cap cap' : Nat) (l : List R) (w : World) (hr : Rd w w.heap.size A (flat l)) (hr' : Rd w w.heap.size A' (flat l)) (hn : l.length ≤ maxLen) :
    Calls Try.prog 17 #[.slice A l.length cap, .slice A' l.length cap'] w (RPost (.bool true) w) := by
  unfold maxLen at hn
  have HR := Lib.hid hr; clear hr
  have HR' := Lib.hid hr'; clear hr'
  go_enter Try.func17, Try.ntmps17
  go_wp2
  go_loopw [5] (fun i wr => ∃ k : Nat, k ≤ l.length ∧ i = .int .i64 k ∧ Below w.heap.size w wr) (fun i _ => l.length - (intOf i).toNat)
  case atStart => exact ⟨0, Nat.zero_le _, rfl, Below.refl _ _⟩
  case round =>
    obtain ⟨k, hk, rfl, HB⟩ := hrel
    by_cases hlt : k < l.length
    · obtain ⟨b, o, rfl, hb, hc⟩ := HR.out.at (k := k * 6) (by rw [flat_n]; omega)
      obtain ⟨b', o', rfl, hb', hc'⟩ := HR'.out.at (k := k * 6) (by rw [flat_n]; omega)
      obtain ⟨x, hx⟩ : ∃ x, l[k] = x := ⟨_, rfl⟩
      obtain ⟨h0, h1, h2, h3, h4, h5⟩ := cells6 HB hb hc hlt hx
      obtain ⟨k0, k1, k2, k3, k4, k5⟩ := cells6 HB hb' hc' hlt hx
      clear hc hc' hx
      go_wp2
      go_quiet (fail)
      go_wp2
      exact ⟨⟨k + 1, hlt, by go_num, Below.drewN' HB _⟩, by simp [intOf]; omega⟩
    · obtain rfl : k = l.length := by omega
      go_wp2
      go_ret
      exact rpost rfl HB
end Go.Proofs.Ytncdkfkihfhcgaa.CLaw0
