/-
  Package bitstrings: contracts of isBits, isSet, size, copied, firstBits, Check, Bit.
  Conditions: slices read as bytes, and are not longer than a million.
-/
import Derived.Test.YtnebjdgolbnkfaaRows
import Derived.Test.YtnebjdgolbnkfaaStr
import Derived.Test.YtnebjdgolbnkfaaBitV
import Derived.WalkSpells
import Derived.Handy
import Derived.Deep.QuietTactic
import Derived.BigQuiet
import Derived.StillTailTactics
import Derived.Laws.CopyOwn
import Derived.OwnWalk
namespace Go.Proofs.Ytnebjdgolbnkfaa.Bit
open Go.RowKit

/-! One byte. -/
theorem shl_last : ∀ x u : Nat, x < 256 → u < 8 → ((x : Int) * 2 ^ (8 - u) % 256 == 0) = decide (x % 2 ^ u = 0) := by
  have h : ∀ x : Fin 256, ∀ u : Fin 8, (((x.val : Nat) : Int) * 2 ^ (8 - u.val) % 256 == 0) = decide (x.val % 2 ^ u.val = 0) := by decide +kernel
  exact fun x u hx hu => h ⟨x, hx⟩ ⟨u, hu⟩
theorem test_bit : ∀ x s : Nat, x < 256 → s < 8 → (bits .and .u8 (x : Int) (128 / 2 ^ s) != 0) = decide (x / 2 ^ (7 - s) % 2 = 1) := by
  have h : ∀ x : Fin 256, ∀ s : Fin 8, (bits .and .u8 ((x.val : Nat) : Int) (128 / 2 ^ s.val) != 0) = decide (x.val / 2 ^ (7 - s.val) % 2 = 1) := by decide +kernel
  exact fun x s hx hs => h ⟨x, hx⟩ ⟨s, hs⟩

/-! Below: what was there has not turned. -/
theorem bel_drewN (w : World) (n : Nat) : Below w.heap.size w (w.drewN n) := ⟨rfl, rfl, rfl, Nat.le_refl _, fun _ _ => rfl⟩
theorem bel_drew (w : World) : Below w.heap.size w w.drew := ⟨rfl, rfl, rfl, Nat.le_refl _, fun _ _ => rfl⟩
theorem bel1 (w : World) (o : Obj) : Below w.heap.size w (w.alloc o) := (Below.refl _ _).alloc (Nat.le_refl _) _
theorem bel2 (w : World) (o o' : Obj) : Below w.heap.size w ((w.alloc o).alloc o') := (bel1 w o).alloc (by simp) _
theorem bt {a b c : World} (h1 : Hid (Below a.heap.size a b)) (h2 : Hid (Below b.heap.size b c)) : Hid (Below a.heap.size a c) := Lib.hid (h1.out.trans (h2.out.mono h1.out.size))
theorem cs8_length (l : List Nat) : (cs8 l).length = l.length := by unfold cs8; rw [List.length_map]
theorem cs8_one (l : List Nat) : ∀ v ∈ cs8 l, v.oneCell' = true := fun v hv => by obtain ⟨n, _, rfl⟩ := List.mem_map.1 hv; rfl
theorem cs8_set (l : List Nat) (n x : Nat) : (cs8 l).set n (.int .u8 (x : Int)) = cs8 (l.set n x) := by unfold cs8; rw [List.map_set]; rfl

set_option maxHeartbeats 400000 in
theorem isset_any (A : Option Addr) (l : List Nat) (N c i : Nat) (w : World) (h : Rb w A l) (hN : l.length = N) (hm : N ≤ 1000000) (hi : i < 8 * N) :
    Calls Try.prog 33 #[.slice A N c, .int .i64 (i : Int)] w fun e w' => e = .returned (.bool (decide (bt1 l i = 1))) ∧ ∃ n, w' = w.drewN n := by
  have hj : i / 8 < l.length := by omega
  obtain ⟨b, off, rfl, hb, hx, hc⟩ := h.at_ hj
  have HB := Lib.hid (show bt1 l i = l[i / 8] / 2 ^ (7 - i % 8) % 2 by unfold bt1; rw [List.getD_eq_getElem?_getD, List.getElem?_eq_getElem hj]; rfl)
  have HT := Lib.hid (test_bit l[i / 8] (i % 8) hx (by omega))
  have hj2 : i / 8 < N := by omega
  generalize l[i / 8] = x at *
  clear h hN hj
  go_enter Try.func33, Try.ntmps33
  go_wp2_with fail
  go_quiet (fail)
  go_wp2_with fail
  go_ret
  exact ⟨by rw [HB.out, ← HT.out]; rfl, _, rfl⟩

set_option maxHeartbeats 400000 in
theorem isbits_any (A : Option Addr) (l : List Nat) (N c : Nat) (n : Int) (w : World) (h : Rb w A l) (hN : l.length = N) (hm : N ≤ 1000000) (hn1 : -9223372036854775808 ≤ n) (hn2 : n < 9223372036854775808) :
    Calls Try.prog 30 #[.slice A N c, .int .i64 n] w fun e w' => e = .returned (.bool (okB l n)) ∧ w = w' := by
  by_cases h0 : n < 0
  · have HO := Lib.hid (okB_not (b := l) (.inl h0))
    rw [HO.out]
    clear h hN HO
    go_enter Try.func30, Try.ntmps30
    go_wp2_with fail
    go_ret
    exact ⟨rfl, rfl⟩
  have h0' : 0 ≤ n := by omega
  clear h0
  by_cases h1 : 8 * (N : Int) - n < 0
  · have HO := Lib.hid (okB_not (b := l) (n := n) (.inr (.inl (by rw [hN]; exact h1))))
    rw [HO.out]
    clear h hN HO
    have hd : decide (n < 0) = false := by simp; omega
    go_enter Try.func30, Try.ntmps30
    go_wp2_with fail
    go_ret
    exact ⟨rfl, rfl⟩
  obtain ⟨u, hu⟩ : ∃ u : Nat, 8 * (N : Int) - n = u := ⟨(8 * (N : Int) - n).toNat, by omega⟩
  clear h1
  have hu1 : u < 9223372036854775808 := by omega
  by_cases h7 : 7 < u
  · have HO := Lib.hid (okB_not (b := l) (n := n) (.inr (.inr (by rw [hN, hu]; omega))))
    rw [HO.out]
    clear h hN HO
    go_enter Try.func30, Try.ntmps30
    go_wp2_with fail
    go_ret
    exact ⟨rfl, rfl⟩
  by_cases hz : u = 0
  · subst hz
    have HO := Lib.hid (okB_full (b := l) (n := n) (by rw [hN]; exact hu))
    rw [HO.out]
    clear h hN HO h7
    have hu' : 8 * (N : Int) - n = 0 := hu
    clear hu
    go_enter Try.func30, Try.ntmps30
    go_wp2_with fail
    go_ret
    exact ⟨rfl, rfl⟩
  have hj : N - 1 < l.length := by omega
  obtain ⟨b, off, rfl, hb, hx, hc⟩ := h.at_ hj
  have HO := Lib.hid (okB_last (b := l) (n := n) (u := u) (x := l[N - 1]) (by rw [hN]; exact List.getElem?_eq_getElem hj) hx (by rw [hN]; exact hu) h0' (by omega) (by omega))
  rw [HO.out, ← shl_last l[N - 1] u hx (by omega)]
  have hN1 : 1 ≤ N := by omega
  have hz' : ((u : Int) == 0) = false := by simp; exact hz
  generalize l[N - 1] = x at *
  have h7' : u ≤ 7 := by omega
  clear h hN HO h7 hj
  go_enter Try.func30, Try.ntmps30
  go_wp2_with fail
  go_ret
  exact ⟨rfl, rfl⟩

set_option maxHeartbeats 400000 in
theorem check_any (A : Option Addr) (l : List Nat) (N c : Nat) (n : Int) (w : World) (h : Rb w A l) (hN : l.length = N) (hm : N ≤ 1000000) (hn1 : -9223372036854775808 ≤ n) (hn2 : n < 9223372036854775808) :
    Calls Try.prog 12 #[.slice A N c, .int .i64 n] w fun e w' => e = .returned (.int .i64 ((chkB l n : Nat) : Int)) ∧ w = w' := by
  have HC := Lib.hid (isbits_any A l N c n w h hN hm hn1 hn2)
  have HE := Lib.hid (show chkB l n = if 524288 < n then 3 else if okB l n then 0 else 1 from rfl)
  generalize okB l n = k at *
  generalize chkB l n = f at *
  clear h hN
  by_cases h3 : 524288 < n
  · have HF : Hid (f = 3) := by have := HE.out; rw [if_pos h3] at this; exact this
    obtain rfl := HF.out
    clear HE HC HF
    go_enter Try.func12, Try.ntmps12
    go_wp2_with fail
    go_ret
    exact ⟨rfl, rfl⟩
  · have HF : Hid (f = if k then 0 else 1) := by have := HE.out; rw [if_neg h3] at this; exact this
    clear HE
    cases k
    · obtain rfl : f = 1 := HF.out
      clear HF
      go_enter Try.func12, Try.ntmps12
      go_wp2_with fail
      refine HC.out.mono ?_
      rintro e w' ⟨rfl, rfl⟩
      go_wp2_with fail
      go_ret
      exact ⟨rfl, rfl⟩
    · obtain rfl : f = 0 := HF.out
      clear HF
      go_enter Try.func12, Try.ntmps12
      go_wp2_with fail
      refine HC.out.mono ?_
      rintro e w' ⟨rfl, rfl⟩
      go_wp2_with fail
      go_ret
      exact ⟨rfl, rfl⟩
end Go.Proofs.Ytnebjdgolbnkfaa.Bit
