/- The laws' helpers rBig, rInts, rHas, rSum, rWorkers. -/
import Derived.Test.YtdikekecbapcaaaWorkS
import Derived.Test.YtdikekecbapcaaaSInt
namespace Go.Proofs.Ytdikekecbapcaaa.GLaw0
open Go.RowKit Go.Proofs.Ytdikekecbapcaaa.Mem Go.Proofs.Ytdikekecbapcaaa.Base Go.Proofs.Ytdikekecbapcaaa.SWorker Go.Proofs.Ytdikekecbapcaaa.Boxes Go.Proofs.Ytdikekecbapcaaa.SInt
set_option linter.unusedVariables false
set_option maxRecDepth 100000
def bigB (n : Nat) : Bool := decide (65536 < n)
theorem vbig_any (A : Option Addr) (cap n : Nat) (w : World) (hn : n ≤ maxLen) : Calls Try.prog 16 #[.slice A n cap] w (BPost (bigB n) w) := by
  unfold maxLen at hn
  by_cases h : 65536 < n
  · have hb := Lib.hid (show bigB n = true from decide_eq_true h)
    have h' : decide ((65536 : Int) < n) = true := decide_eq_true (by omega)
    go_enter Try.func16, Try.ntmps16
    go_wp2
    go_ret
    exact bpost (by rw [hb.out])
  · have hb := Lib.hid (show bigB n = false from decide_eq_false h)
    have h' : decide ((65536 : Int) < n) = false := decide_eq_false (by omega)
    go_enter Try.func16, Try.ntmps16
    go_wp2
    go_ret
    exact bpost (by rw [hb.out])
set_option maxHeartbeats 400000 in
theorem vints_any (A A' : Option Addr) (cap cap' : Nat) (l m : List Int) (w : World) (hr : Rd w w.heap.size A (iv l)) (hr' : Rd w w.heap.size A' (iv m)) (hn : l.length ≤ maxLen) (hn' : m.length ≤ maxLen) :
    Calls Try.prog 20 #[.slice A l.length cap, .slice A' m.length cap'] w (SInt.EqPost l m w) := by
  unfold maxLen at hn hn'
  by_cases hl : l.length = m.length
  · have hne : ((l.length : Int) != m.length) = false := by rw [bne_eq_false_iff_eq]; omega
    have HR := Lib.hid hr; clear hr
    have HR' := Lib.hid hr'; clear hr'
    have HL := Lib.hid hl; clear hl
    go_enter Try.func20, Try.ntmps20
    go_wp2
    go_loopw [5] (fun i wr => ∃ k : Nat, k ≤ l.length ∧ i = .int .i64 k ∧ l.take k = m.take k ∧ ∃ n, wr = w.drewN n) (fun i _ => l.length - (intOf i).toNat)
    case atStart => exact ⟨0, Nat.zero_le _, rfl, by simp, 0, rfl⟩
    case round =>
      obtain ⟨k, hk, rfl, hpre, n, rfl⟩ := hrel
      have HP := Lib.hid hpre; clear hpre
      by_cases hlt : k < l.length
      · obtain ⟨b, o, rfl, hb, hc⟩ := HR.out.at (k := k) (by rw [iv_len]; exact hlt)
        obtain ⟨b', o', rfl, hb', hc'⟩ := HR'.out.at (k := k) (by rw [iv_len]; have := HL.out; omega)
        have hlt' : k < m.length := by have := HL.out; omega
        obtain ⟨x, hx⟩ : ∃ x, l[k] = x := ⟨_, rfl⟩
        obtain ⟨y, hy⟩ : ∃ y, m[k] = y := ⟨_, rfl⟩
        have hcell : w.cell? ⟨b, o + k, none⟩ = some (.int .i64 x) := by rw [← hx]; exact hc k _ (iv_get l k hlt)
        have hcell' : w.cell? ⟨b', o' + k, none⟩ = some (.int .i64 y) := by rw [← hy]; exact hc' k _ (iv_get m k hlt')
        clear hc hc'
        by_cases he : x = y
        · have hq : (x != y) = false := by simp [he]
          have HT := Lib.hid (take_eq_succ hlt hlt' HP.out (by rw [hx, hy]; exact he)); clear hx hy he
          have HLT := Lib.hid hlt
          go_wp2
          go_quiet (fail)
          go_wp2
          exact ⟨⟨k + 1, HLT.out, by go_num, HT.out, _, rfl⟩, by have := HLT.out; simp [intOf]; omega⟩
        · have hq : (x != y) = true := by simp [he]
          have HT := Lib.hid (take_ne hlt hlt' (by rw [hx, hy]; exact he)); clear hx hy he
          go_wp2
          go_quiet (fail)
          go_wp2
          go_ret
          exact SInt.eq_no HT.out (Drawn.nn _ _ _)
      · go_wp2
        go_ret
        exact SInt.eq_yes (by have h1 := HP.out; rwa [List.take_of_length_le (by omega), List.take_of_length_le (by have := HL.out; omega)] at h1) (Drawn.n _ _)
  · have hne : ((l.length : Int) != m.length) = true := by rw [bne_iff_ne]; omega
    go_enter Try.func20, Try.ntmps20
    go_wp2
    go_ret
    exact SInt.eq_no (fun e => hl (by rw [e])) (Drawn.refl _)
theorem rhas_any (A : Option Addr) (cap : Nat) (l : List Int) (d : Int) (w : World) (hr : Rd w w.heap.size A (iv l)) (hn : l.length ≤ 1000) :
    Calls Try.prog 24 #[.slice A l.length cap, .int .i64 d] w (RPost (.bool (l.any (fun x => x == d))) w) := by
  have HR := Lib.hid hr; clear hr
  go_enter Try.func24, Try.ntmps24
  go_wp2
  go_loopw [5] (fun i wr => ∃ k : Nat, k ≤ l.length ∧ i = .int .i64 k ∧ Hid (∀ j (h : j < l.length), j < k → (l[j] == d) = false) ∧ Below w.heap.size w wr) (fun i _ => l.length - (intOf i).toNat)
  case atStart => exact ⟨0, Nat.zero_le _, rfl, Lib.hid (fun j _ hj => by omega), Below.refl _ _⟩
  case round =>
    obtain ⟨k, hk, rfl, HN, HB⟩ := hrel
    by_cases hlt : k < l.length
    · obtain ⟨b, o, rfl, hb, hc⟩ := HR.out.at (k := k) (by rw [iv_len]; exact hlt)
      obtain ⟨x, hx⟩ : ∃ x, l[k] = x := ⟨_, rfl⟩
      have hcell : wr.cell? ⟨b, o + k, none⟩ = some (.int .i64 x) := ((bcell HB).1 _ _ hb).trans (by rw [← hx]; exact hc k _ (iv_get l k hlt))
      have HL := Lib.hid hlt
      clear hc
      cases he : (x == d)
      · have HN1 := Lib.hid (show ∀ j (h : j < l.length), j < k + 1 → (l[j] == d) = false from fun j hj hj2 => by
          rcases Nat.lt_or_ge j k with h1 | h1
          · exact HN.out j hj h1
          · have : j = k := by omega
            subst this; rw [hx]; exact he)
        clear hx
        go_wp2
        go_roundw
        case rel => exact ⟨k + 1, HL.out, by go_num, HN1, HB⟩
        case measure => have := HL.out; simp [intOf]; omega
      · have HF := Lib.hid (show l.any (fun x => x == d) = true from List.any_eq_true.2 ⟨l[k]'hlt, List.getElem_mem hlt, by rw [hx]; exact he⟩)
        clear hx
        go_wp2
        go_ret
        exact rpost (by rw [HF.out] <;> rfl) HB
    · have HF := Lib.hid (show l.any (fun x => x == d) = false by
        rw [List.any_eq_false]
        intro y hy
        obtain ⟨j, hj, rfl⟩ := List.getElem_of_mem hy
        rw [HN.out j hj (by omega)]; simp)
      go_wp2
      go_ret
      exact rpost (by rw [HF.out] <;> rfl) HB
theorem rsum_take (l : List Int) (k : Nat) (h : k < l.length) : (l.take (k + 1)).sum = (l.take k).sum + l[k] := by rw [List.take_succ_eq_append_getElem h, List.sum_append]; simp
theorem rsum_any (P : Option Addr) (cap : Nat) (l : List Int) (w : World) (hr : Rd w w.heap.size P (iv l)) (hn : l.length ≤ 1000) (hb : ∀ x ∈ l, 0 ≤ x ∧ x ≤ 10000) :
    Calls Try.prog 28 #[.slice P l.length cap] w (RPost (.int .i64 l.sum) w) := by
  have HR := Lib.hid hr; clear hr
  have HBD := Lib.hid hb; clear hb
  go_enter Try.func28, Try.ntmps28
  go_wp2
  go_loopw [3, 4] (fun s i wr => ∃ (k : Nat) (q : Int), k ≤ l.length ∧ i = .int .i64 k ∧ s = .int .i64 q ∧ Hid ((l.take k).sum = q) ∧ 0 ≤ q ∧ q ≤ 10000 * k ∧ Below w.heap.size w wr) (fun _ i _ => l.length - (intOf i).toNat)
  case atStart => exact ⟨0, 0, Nat.zero_le _, rfl, rfl, Lib.hid rfl, by omega, by omega, Below.refl _ _⟩
  case round =>
    obtain ⟨k, q, hk, rfl, rfl, HQ, q0, q1, HB⟩ := hrel
    by_cases hlt : k < l.length
    · obtain ⟨b, o, rfl, hb, hc⟩ := HR.out.at (k := k) (by rw [iv_len]; exact hlt)
      obtain ⟨x, hx⟩ : ∃ x, l[k] = x := ⟨_, rfl⟩
      have hcell : wr.cell? ⟨b, o + k, none⟩ = some (.int .i64 x) := ((bcell HB).1 _ _ hb).trans (by rw [← hx]; exact hc k _ (iv_get l k hlt))
      have hx2 : 0 ≤ x ∧ x ≤ 10000 := by rw [← hx]; exact HBD.out _ (List.getElem_mem hlt)
      have HN := Lib.hid (show (l.take (k + 1)).sum = q + x by rw [rsum_take l k hlt, HQ.out, hx])
      have HX2 := Lib.hid hx2
      have HL := Lib.hid hlt
      clear hx hc
      have y2 : IntKind.i64.wrap (q + x) = q + x := IntWalk.i64_in _ (by omega)
      clear hx2
      go_wp2
      go_roundw
      case rel => exact ⟨k + 1, q + x, HL.out, by go_num, rfl, HN, by have := HX2.out; omega, by have := HX2.out; omega, HB⟩
      case measure => have := HL.out; simp [intOf]; omega
    · have HF := Lib.hid (show l.sum = q by have := HQ.out; rwa [List.take_of_length_le (by omega)] at this)
      go_wp2
      go_ret
      exact rpost (by rw [HF.out] <;> rfl) HB
set_option maxHeartbeats 800000 in
theorem rworkers_same (A A' : Option Addr) (cap cap' : Nat) (l : List R) (w : World) (hr : Rd w w.heap.size A (flat l)) (hr' : Rd w w.heap.size A' (flat l)) (hn : l.length ≤ maxLen) :
    Calls Try.prog 45 #[.slice A l.length cap, .slice A' l.length cap'] w (RPost (.bool true) w) := by
  unfold maxLen at hn
  have HR := Lib.hid hr; clear hr
  have HR' := Lib.hid hr'; clear hr'
  go_enter Try.func45, Try.ntmps45
  go_wp2
  go_loopw [5] (fun i wr => ∃ k : Nat, k ≤ l.length ∧ i = .int .i64 k ∧ Below w.heap.size w wr) (fun i _ => l.length - (intOf i).toNat)
  case atStart => exact ⟨0, Nat.zero_le _, rfl, Below.refl _ _⟩
  case round =>
    obtain ⟨k, hk, rfl, HB⟩ := hrel
    by_cases hlt : k < l.length
    · obtain ⟨b, o, rfl, hb, hc⟩ := HR.out.at (k := k * 5) (by rw [flat_n]; omega)
      obtain ⟨b', o', rfl, hb', hc'⟩ := HR'.out.at (k := k * 5) (by rw [flat_n]; omega)
      obtain ⟨x, hx⟩ : ∃ x, l[k] = x := ⟨_, rfl⟩
      obtain ⟨h0, h1, h2, h3, h4⟩ := WorkS.cells5 HB hb hc hlt hx
      obtain ⟨k0, k1, k2, k3, k4⟩ := WorkS.cells5 HB hb' hc' hlt hx
      clear hc hc' hx
      go_wp2
      go_quiet (fail)
      go_wp2
      exact ⟨⟨k + 1, hlt, by go_num, Below.drewN' HB _⟩, by simp [intOf]; omega⟩
    · obtain rfl : k = l.length := by omega
      go_wp2
      go_ret
      exact rpost rfl HB
end Go.Proofs.Ytdikekecbapcaaa.GLaw0
