/-
  The reference of layer 3: the contract of Get.
  Conditions: none beyond that the slice reads as bytes.
-/
import Derived.Test.YtgdjgahmnnjeeaaLenE
namespace Go.Proofs.Ytgdjgahmnnjeeaa.Len
open Go.RowKit

/-- The reference's answer where the octets are there. -/
def rgN (a v : Nat) : Bool := a == 0 || decide (v < 128)
set_option maxHeartbeats 1000000 in
set_option maxRecDepth 100000 in
theorem rget_nil (A : Option Addr) (c : Nat) (w : World) : Calls Try.prog 76 #[.slice A 0 c] w (GiveG w 0 0 7) := by
  go_enter Try.func76, Try.ntmps76
  go_wp2_with fail
  go_ret3
  exact ⟨rfl, Below.refl _ _⟩
set_option maxHeartbeats 1000000 in
set_option maxRecDepth 100000 in
theorem rget_low (b off N c x : Nat) (w : World) (hN : 0 < N) (_hb : b < w.heap.size) (hc : w.cell? ⟨b, off, none⟩ = some (.int .u8 (x : Int))) (hx : x < 128) :
    Calls Try.prog 76 #[.slice (some ⟨b, off, none⟩) N c] w (GiveG w x 1 0) := by
  have hN0 : ((N : Int) == 0) = false := by simp; omega
  go_enter Try.func76, Try.ntmps76
  go_wp2_with fail
  go_ret3
  exact ⟨rfl, Below.refl _ _⟩
set_option maxHeartbeats 1000000 in
set_option maxRecDepth 100000 in
theorem rget_form (b off N c x : Nat) (w : World) (hN : 0 < N) (_hb : b < w.heap.size) (hc : w.cell? ⟨b, off, none⟩ = some (.int .u8 (x : Int))) (hx : x = 128 ∨ 131 < x) (hx2 : x < 256) :
    Calls Try.prog 76 #[.slice (some ⟨b, off, none⟩) N c] w (GiveG w 0 0 10) := by
  have hN0 : ((N : Int) == 0) = false := by simp; omega
  rcases hx with rfl | hx
  · go_enter Try.func76, Try.ntmps76
    go_wp2_with fail
    go_ret3
    exact ⟨rfl, Below.refl _ _⟩
  · obtain ⟨k, rfl⟩ : ∃ k, x = k + 128 := ⟨x - 128, by omega⟩
    have e1 : (((k + 128 : Nat) : Int) - 128) = (k : Int) := by omega
    go_enter Try.func76, Try.ntmps76
    go_wp2_with fail
    go_ret3
    exact ⟨rfl, Below.refl _ _⟩
set_option maxHeartbeats 1000000 in
set_option maxRecDepth 100000 in
theorem rget_short (b off N c k : Nat) (w : World) (hk : 1 ≤ k) (hk3 : k ≤ 3) (hN : 0 < N) (_hb : b < w.heap.size) (hc : w.cell? ⟨b, off, none⟩ = some (.int .u8 ((k + 128 : Nat) : Int))) (hx : N < k + 1) :
    Calls Try.prog 76 #[.slice (some ⟨b, off, none⟩) N c] w (GiveG w 0 0 7) := by
  have hN0 : ((N : Int) == 0) = false := by simp; omega
  have e1 : (((k + 128 : Nat) : Int) - 128) = (k : Int) := by omega
  go_enter Try.func76, Try.ntmps76
  go_wp2_with fail
  go_ret3
  exact ⟨rfl, Below.refl _ _⟩
theorem val_le3 {l : List Nat} (h : Lt 256 l) (hl : l.length ≤ 3) : val l ≤ 16777215 := by
  have h1 := val_lt h
  have h2 : 256 ^ l.length ≤ 256 ^ 3 := Nat.pow_le_pow_right (by omega) hl
  omega
set_option maxHeartbeats 2000000 in
set_option maxRecDepth 100000 in
theorem rget_full (b off N c k a : Nat) (l : List Nat) (w : World) (hk : 1 ≤ k) (hk3 : k ≤ 3) (hN : k + 1 ≤ N) (_hb : b < w.heap.size) (hc : w.cell? ⟨b, off, none⟩ = some (.int .u8 ((k + 128 : Nat) : Int)))
    (hl : l.length = k) (h : Rb w (some ⟨b, off + 1, none⟩) l) (ha : l[0]? = some a) (v : Nat) (hv : val l = v) (n s f : Nat) (hq : (n, s, f) = if rgN a v then (0, 0, 10) else (v, k + 1, 0)) :
    Calls Try.prog 76 #[.slice (some ⟨b, off, none⟩) N c] w (GiveG w n s f) := by
  have hN0 : ((N : Int) == 0) = false := by simp; omega
  have e1 : (((k + 128 : Nat) : Int) - 128) = (k : Int) := by omega
  have e2 : (k + 128) < 256 := by omega
  have HK := Lib.hid h
  have HV := Lib.hid hv
  have HL := Lib.hid hl
  have HA := Lib.hid ha
  have HQ := Lib.hid hq
  clear h hv hl ha hq
  go_enter Try.func76, Try.ntmps76
  go_wp2_with fail
  go_loopw [6, 7] (fun m i wr => ∃ (j u : Nat), wr = w ∧ j ≤ k ∧ i = .int .i64 ((j + 1 : Nat) : Int) ∧ m = .int .i64 (u : Int) ∧ u = val (l.take j)) (fun _ i _ => k + 1 - (intOf i).toNat)
  case atStart => exact ⟨0, 0, rfl, Nat.zero_le _, rfl, rfl, rfl⟩
  case round =>
    obtain ⟨j, u, rfl, hj, rfl, rfl, hu⟩ := hrel
    have HU := Lib.hid hu
    have hu2 : u ≤ 16777215 := by rw [hu]; exact val_le3 (HK.out.2.take j) (by rw [List.length_take]; omega)
    clear hu
    by_cases hlt : j < k
    · have hjl : j < l.length := by rw [HL.out]; exact hlt
      obtain ⟨b', off', e, _, hx8, hcell⟩ := HK.out.at_ hjl
      simp only [Option.some.injEq, Addr.mk.injEq, and_true] at e
      obtain ⟨rfl, rfl⟩ := e
      rw [Nat.add_assoc, Nat.add_comm 1 j] at hcell
      have HT := Lib.hid (show val (l.take (j + 1)) = 256 * val (l.take j) + l[j] by rw [List.take_succ_eq_append_getElem hjl, val_snoc])
      generalize l[j] = y at hx8 hcell HT
      go_wp2_with fail
      exact ⟨⟨j + 1, 256 * u + y, trivial, by omega, by go_num, by go_num, by rw [HT.out, HU.out]⟩, by simp [intOf]; omega⟩
    · have hjk : j = k := by omega
      subst hjk
      have HU2 := Lib.hid (show u = v by rw [HU.out, ← HL.out, List.take_of_length_le (Nat.le_refl _), HV.out])
      obtain rfl : u = v := HU2.out
      obtain ⟨b', off', e, _, hx8, hcell⟩ := HK.out.at_ (k := 0) (by rw [HL.out]; omega)
      simp only [Option.some.injEq, Addr.mk.injEq, and_true] at e
      obtain ⟨rfl, rfl⟩ := e
      have HA2 := Lib.hid (show l[0]'(by rw [HL.out]; omega) = a by have := HA.out; rw [List.getElem?_eq_getElem (by rw [HL.out]; omega)] at this; exact Option.some.inj this)
      rw [HA2.out] at hx8 hcell
      rw [Nat.add_zero] at hcell
      by_cases h0 : a = 0
      · subst h0
        have hr : rgN 0 u = true := rfl
        have hq := HQ.out
        rw [hr, if_pos rfl] at hq
        simp only [Prod.mk.injEq] at hq
        obtain ⟨rfl, rfl, rfl⟩ := hq
        go_wp2_with fail
        go_ret3
        exact ⟨rfl, Below.refl _ _⟩
      · have h0b : ((a : Int) == 0) = false := by simp; omega
        by_cases h1 : u < 128
        · have hr : rgN a u = true := by unfold rgN; simp [h1]
          have hq := HQ.out
          rw [hr, if_pos rfl] at hq
          simp only [Prod.mk.injEq] at hq
          obtain ⟨rfl, rfl, rfl⟩ := hq
          clear h0
          go_wp2_with fail
          go_ret3
          exact ⟨rfl, Below.refl _ _⟩
        · have hr : rgN a u = false := by unfold rgN; simp [h0]; omega
          have hq := HQ.out
          rw [hr, if_neg (by simp)] at hq
          simp only [Prod.mk.injEq] at hq
          obtain ⟨rfl, rfl, rfl⟩ := hq
          clear h0
          go_wp2_with fail
          go_ret3
          exact ⟨rfl, Below.refl _ _⟩
end Go.Proofs.Ytgdjgahmnnjeeaa.Len
