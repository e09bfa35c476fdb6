/-
  Package oids: the contract of subidentifier.
  Conditions: the slice reads as bytes.
-/
import Derived.Test.YtndamidmgglneaaDoorOidD
import Derived.Test.YtndamidmgglneaaDoorOidI
namespace Go.Proofs.YtndamidmgglneaaDoor
open Go.RowKit

/-- The value of a subidentifier, the number of its octets, the error: v so far, k octets so far. -/
def rdS (v k : Nat) : List Nat → Nat × Nat × Nat
  | [] => (0, 0, 7)
  | b :: l => if 4294967295 < 128 * v + b % 128 then (0, 0, 3) else if b < 128 then (128 * v + b % 128, k + 1, 0) else rdS (128 * v + b % 128) (k + 1) l
def subO : List Nat → Nat × Nat × Nat
  | b :: l => if b = 128 then (0, 0, 11) else rdS 0 0 (b :: l)
  | [] => (0, 0, 7)
theorem rdS_drop {v k j : Nat} {l : List Nat} (h : j < l.length) : rdS v k (l.drop j) = if 4294967295 < 128 * v + l[j] % 128 then (0, 0, 3) else if l[j] < 128 then (128 * v + l[j] % 128, k + 1, 0) else rdS (128 * v + l[j] % 128) (k + 1) (l.drop (j + 1)) := by
  rw [List.drop_eq_getElem_cons h]; rfl
def GiveS (w : World) (r : Nat × Nat × Nat) (e : Ending) (w' : World) : Prop := e = .returned (.tuple #[.int .u32 (r.1 : Int), .int .i64 (r.2.1 : Int), .int .i64 (r.2.2 : Int)]) ∧ w = w'
theorem wraps_u64 (n : Int) (h₀ : 0 ≤ n) (h₁ : n < 2 ^ 64) : IntKind.u64.wrap n = n := by rw [IntKind.wrap_u64]; omega
theorem or_u64 (v y : Nat) (hv : v < 4294967296) (hy : y < 128) : bits BinOp.or IntKind.u64 ((v : Int) * 128) (y : Int) = ((128 * v + y : Nat) : Int) := by
  rw [bits_join .u64 64 (by decide) wraps_u64 7 ((v : Int) * 128) (y : Int) (by omega) (by omega) (by omega) (by omega) (by omega) (by omega)]
  omega
theorem and128 (x : Nat) (h : x < 256) : (bits BinOp.and IntKind.u8 (x : Int) 128 == 0) = decide (x < 128) :=
  (show ∀ x : Fin 256, (bits BinOp.and IntKind.u8 (x.val : Int) 128 == 0) = decide (x.val < 128) by decide +kernel) ⟨x, h⟩

set_option maxRecDepth 100000 in
set_option maxHeartbeats 1000000 in
theorem sub_any (A : Option Addr) (l : List Nat) (c : Nat) (w : World) (hl : 0 < l.length) (hm : l.length ≤ maxLen) (hA : Rb w A l) :
    Calls Tryd.prog 38 #[.slice A l.length c] w (GiveS w (subO l)) := by
  unfold maxLen at hm
  obtain ⟨b0, l0, hl0⟩ : ∃ b0 l0, l = b0 :: l0 := by
    cases l with
    | nil => simp at hl
    | cons b l => exact ⟨b, l, rfl⟩
  obtain ⟨bk, off, rfl, hb, -, hc0⟩ := hA.at_ hl
  have e0 : l[0] = b0 := by simp [hl0]
  rw [e0] at hc0
  have hb0 : b0 < 256 := by rw [← e0]; exact hA.2.get hl
  simp only [Nat.add_zero] at hc0
  by_cases h128 : b0 = 128
  · have HE : Hid (subO l = (0, 0, 11)) := Lib.hid (by rw [hl0, subO, if_pos h128])
    subst h128
    rw [HE.out]
    clear hl0 e0 hA
    go_enter Tryd.func38, Tryd.ntmps38
    go_wp2
    go_ret3
    exact ⟨rfl, rfl⟩
  · have HE : Hid (subO l = rdS 0 0 l) := Lib.hid (by rw [hl0, subO, if_neg h128])
    have hbb : ((b0 : Int) == 128) = false := by rw [beq_eq_false_iff_ne]; omega
    obtain ⟨r, hr⟩ : ∃ r, subO l = r := ⟨_, rfl⟩
    rw [hr] at HE ⊢
    have HA := Lib.hid hA
    clear hl0 e0 hA hr h128
    go_enter Tryd.func38, Tryd.ntmps38
    go_wp2
    clear hbb hc0
    go_loop [5, 6, 7, 14] (fun v _ _ i => ∃ x j : Nat, x < 4294967296 ∧ j ≤ l.length ∧ v = .int .u64 (x : Int) ∧ i = .int .i64 (j : Int) ∧ r = rdS x j (l.drop j)) (fun _ _ _ i => l.length - (intOf i).toNat)
    case atStart => exact ⟨0, 0, by omega, by omega, rfl, rfl, HE.out⟩
    case round =>
      obtain ⟨x, j, hx, hj, rfl, rfl, hR⟩ := hrel
      rcases Nat.lt_or_ge j l.length with hjl | hjl
      · obtain ⟨bk', off', e, -, hy8, hcj⟩ := HA.out.at_ hjl
        injection e with e
        injection e with e1 e2
        subst e1 e2
        rw [rdS_drop hjl] at hR
        generalize l[j] = y at *
        have q1 := andNot128 y hy8
        obtain ⟨z, hz⟩ : ∃ z, y % 128 = z := ⟨_, rfl⟩
        have hz8 : z < 128 := by omega
        rw [hz] at q1 hR
        have q2 := or_u64 x z hx hz8
        have q3 := and128 y hy8
        obtain ⟨v, hv⟩ : ∃ v, 128 * x + z = v := ⟨_, rfl⟩
        rw [hv] at q2 hR
        have HZ := Lib.hid hz
        have HV := Lib.hid hv
        clear hz hv
        by_cases hv3 : 4294967295 < v
        · rw [if_pos hv3] at hR
          have HR := Lib.hid hR
          clear hR
          go_wp2
          go_ret3
          rw [HR.out]
          exact ⟨rfl, rfl⟩
        · rw [if_neg hv3] at hR
          by_cases hy : y < 128
          · rw [if_pos hy] at hR
            have HR := Lib.hid hR
            have hd : decide (y < 128) = true := decide_eq_true hy
            rw [hd] at q3
            clear hR hd
            go_wp2
            go_ret3
            rw [HR.out]
            exact ⟨rfl, rfl⟩
          · rw [if_neg hy] at hR
            have HR := Lib.hid hR
            have hd : decide (y < 128) = false := decide_eq_false hy
            rw [hd] at q3
            clear hR hd
            go_wp2
            go_round
            case rel => exact ⟨v, j + 1, by omega, by omega, rfl, by go_num, HR.out⟩
            case measure => simp [intOf]; omega
      · obtain rfl : j = l.length := by omega
        rw [List.drop_of_length_le (Nat.le_refl _)] at hR
        have HR := Lib.hid hR
        clear hR
        go_wp2
        go_ret3
        rw [HR.out]
        exact ⟨rfl, rfl⟩
end Go.Proofs.YtndamidmgglneaaDoor
