/- FnBrines: what its parts say; the laws' helper vBrines. -/
import Derived.Test.YtpblkkfafmcnpaaDoorMBrine
import Derived.Test.YtpblkkfafmcnpaaDoorPbr2
import Derived.Test.YtpblkkfafmcnpaaDoorDBrine2
import Derived.Test.YtpblkkfafmcnpaaDoorDBrine3
namespace Go.Proofs.YtpblkkfafmcnpaaDoor.BrinesLaw0
open Go.RowKit Go.Proofs.YtpblkkfafmcnpaaDoor.Mem Go.Proofs.YtpblkkfafmcnpaaDoor.Base Go.Proofs.YtpblkkfafmcnpaaDoor.Brine Go.Proofs.YtpblkkfafmcnpaaDoor.Brine6 Go.Proofs.YtpblkkfafmcnpaaDoor.SBrine Go.Proofs.YtpblkkfafmcnpaaDoor.Mix Go.Proofs.YtpblkkfafmcnpaaDoor.Halve Go.Proofs.YtpblkkfafmcnpaaDoor.MBrine Go.Proofs.YtpblkkfafmcnpaaDoor.Text Go.Proofs.YtpblkkfafmcnpaaDoor.Pbr Go.Proofs.YtpblkkfafmcnpaaDoor.Boxes
set_option linter.unusedVariables false
set_option maxRecDepth 100000
/-- a brine's text, and what it is read as. -/
theorem text_form (a b : Int) : ∃ (t : ByteArray) (q : Bool) (x y : Int) (p : Bool), txtV a b = .tuple #[.string t, .bool q] ∧ okB a b = q ∧ t.size ≤ 1000 ∧ (∀ (w : World) (e : Ending) (w' : World), PbPost t w e w' → e = .returned (.tuple #[br x y, .bool p]) ∧ Below w.heap.size w w') ∧ (q = true → p = true ∧ x = a ∧ y = b) := by
  cases h : okB a b
  · obtain ⟨v, ⟨x, y, p, rfl⟩, hf⟩ := pb_form (s := ⟨#[]⟩)
    exact ⟨⟨#[]⟩, false, x, y, p, txt_no h, rfl, by decide, hf, fun h => Bool.noConfusion h⟩
  · obtain ⟨a0, a1, b0, b1⟩ := okB_true h
    have hi : Is (txt a b) a b := ⟨h, rfl⟩
    refine ⟨txt a b, true, a, b, true, txt_yes h, rfl, by have := (DBrine3.txt_size a0 a1 b0 b1).2; omega, fun w e w' hp => ⟨?_, hp.2⟩, fun _ => ⟨rfl, rfl, rfl⟩⟩
    rcases hp.1 with ⟨c, d, hk, he⟩ | ⟨hn, _⟩
    · obtain ⟨rfl, rfl⟩ := hi.inj hk; exact he
    · exact absurd hi (hn a b)
/-- what a text is read as, and the text of that. -/
theorem read_form (s : ByteArray) : ∃ (x y : Int) (p : Bool) (t : ByteArray) (q : Bool), (∀ (w : World) (e : Ending) (w' : World), PbPost s w e w' → e = .returned (.tuple #[br x y, .bool p]) ∧ Below w.heap.size w w') ∧ txtV x y = .tuple #[.string t, .bool q] ∧ (p = true → q = true ∧ t = s) := by
  by_cases h : ∃ a b, Is s a b
  · obtain ⟨a, b, hi⟩ := h
    refine ⟨a, b, true, s, true, fun w e w' hp => ⟨?_, hp.2⟩, by rw [txt_yes hi.1, hi.2], fun _ => ⟨rfl, rfl⟩⟩
    rcases hp.1 with ⟨c, d, hk, he⟩ | ⟨hn, _⟩
    · obtain ⟨rfl, rfl⟩ := hi.inj hk; exact he
    · exact absurd hi (hn a b)
  · refine ⟨0, 0, false, txt 0 0, true, fun w e w' hp => ⟨?_, hp.2⟩, txt_yes (by decide), fun h => Bool.noConfusion h⟩
    rcases hp.1 with ⟨c, d, hk, _⟩ | ⟨_, he⟩
    · exact absurd ⟨c, d, hk⟩ h
    · exact he
theorem take_form (a b n : Int) : ∃ x y u v q, takeV a b n = .tuple #[br x y, br u v, .bool q] ∧ (q = true → mixV [⟨x, y⟩, ⟨u, v⟩] = .tuple #[br a b, .bool true] ∧ IntKind.i64.wrap (x + y) = n) := by
  cases h : takeOk a b n
  · exact ⟨_, _, _, _, false, (take_no h).out, fun h => Bool.noConfusion h⟩
  · refine ⟨_, _, _, _, true, (take_yes h).out, fun _ => ⟨mix_take h, ?_⟩⟩
    obtain ⟨hk, h1, h2⟩ := take_true h
    obtain ⟨a0, a1, b0, b1⟩ := okB_true hk
    rw [take_sum]
    exact IntWalk.i64_in _ (by omega)
theorem half_form (a b n : Int) : ∃ (L : List R) (q : Bool), halfL a b n = L ∧ halfOk a b n = q ∧ L.length ≤ 20 ∧ (q = true → mixV L = .tuple #[br a b, .bool true] ∧ (L.length : Int) = n) := by
  refine ⟨_, _, rfl, rfl, ?_, fun h => ⟨mix_half h, half_len h⟩⟩
  cases h : halfOk a b n
  · rw [half_no h]; simp
  · have := half_len h; have := half_true h; omega
theorem mix_form (l : List R) : ∃ x y q, mixV l = .tuple #[br x y, .bool q] := by
  unfold mixV; split <;> exact ⟨_, _, _, rfl⟩
set_option maxHeartbeats 800000 in
theorem vbrines_same (A A' : Option Addr) (cap cap' : Nat) (l : List R) (w : World) (hr : Rd w w.heap.size A (flat l)) (hr' : Rd w w.heap.size A' (flat l)) (hn : l.length ≤ maxLen) :
    Calls Tryd.prog 19 #[.slice A l.length cap, .slice A' l.length cap'] w (Brine.RPost (.bool true) w) := by
  unfold maxLen at hn
  have HR := Lib.hid hr; clear hr
  have HR' := Lib.hid hr'; clear hr'
  go_enter Tryd.func19, Tryd.ntmps19
  go_wp2
  go_loopw [5] (fun i wr => ∃ k : Nat, k ≤ l.length ∧ i = .int .i64 k ∧ Below w.heap.size w wr) (fun i _ => l.length - (intOf i).toNat)
  case atStart => exact ⟨0, Nat.zero_le _, rfl, Below.refl _ _⟩
  case round =>
    obtain ⟨k, hk, rfl, HB⟩ := hrel
    by_cases hlt : k < l.length
    · obtain ⟨b, o, rfl, hb, hc⟩ := HR.out.at (k := k * 2) (by rw [flat_n]; omega)
      obtain ⟨b', o', rfl, hb', hc'⟩ := HR'.out.at (k := k * 2) (by rw [flat_n]; omega)
      have h0 := ((bcell HB).1 _ _ hb).trans (hc _ _ (flat_0 l k hlt))
      have h1 := ((bcell HB).1 _ _ hb).trans (hc _ _ (flat_1 l k hlt))
      have k0 := ((bcell HB).1 _ _ hb').trans (hc' _ _ (flat_0 l k hlt))
      have k1 := ((bcell HB).1 _ _ hb').trans (hc' _ _ (flat_1 l k hlt))
      obtain ⟨x, hx⟩ : ∃ x, l[k] = x := ⟨_, rfl⟩
      rw [hx] at h0 h1 k0 k1
      rw [← Nat.add_assoc] at h1 k1
      clear hc hc' hx
      go_wp2
      go_quiet (fail)
      go_wp2
      exact ⟨⟨k + 1, hlt, by go_num, Below.drewN' HB _⟩, by simp [intOf]; omega⟩
    · obtain rfl : k = l.length := by omega
      go_wp2
      go_ret
      exact Brine.rpost rfl HB
end Go.Proofs.YtpblkkfafmcnpaaDoor.BrinesLaw0
