/-
  Package tags: the contracts of getGroups and Get.
  Conditions: slices are no longer than a word allows, and read as bytes.
-/
import Derived.Test.YtgdjgahmnnjeeaaTagE
import Derived.Laws.BitsLemmas
namespace Go.Proofs.Ytgdjgahmnnjeeaa
open Go.RowKit

/-- What getGroups reads: the number, how many octets, the error. -/
def ggA : Nat → Nat → Nat → List Nat → Nat × Nat × Nat
  | 0, _, _, _ => (0, 0, 9)
  | _ + 1, _, _, [] => (0, 0, 7)
  | f + 1, i, acc, x :: l => if i = 0 ∧ x = 128 then (0, 0, 9) else if 128 ≤ x then ggA f (i + 1) (acc * 128 + x % 128) l else if acc * 128 + x % 128 < 31 then (0, 0, 9) else (acc * 128 + x % 128, i + 1, 0)
def gg (l : List Nat) : Nat × Nat × Nat := ggA 4 0 0 l

theorem and128 (x : Nat) (h : x < 256) : bits BinOp.and IntKind.u8 (x : Int) 128 = ((if 128 ≤ x then 128 else 0 : Nat) : Int) :=
  (show ∀ x : Fin 256, bits BinOp.and IntKind.u8 (x.val : Int) 128 = ((if 128 ≤ x.val then 128 else 0 : Nat) : Int) by decide +kernel) ⟨x, h⟩
theorem join7 (a b : Nat) (ha : a < 2097152) (hb : b < 128) : bits BinOp.or IntKind.u32 ((a : Int) * 128) (b : Int) = ((a * 128 + b : Nat) : Int) := by
  rw [bits_join .u32 32 (by decide) (fun n h0 h1 => by rw [IntKind.wrap_u32]; omega) 7 _ _ (by omega) (by omega) (by omega) (by omega) (by omega) (by omega)]
  omega
theorem gg3 {l : List Nat} {a b c : Nat} (h : gg l = (a, b, c)) {x y z : Int} (hx : x = a) (hy : y = b) (hz : z = c) : Ending.returned (.tuple #[.int .u32 x, .int .i64 y, .int .i64 z]) = Ending.returned (.tuple #[.int .u32 ((gg l).1 : Nat), .int .i64 ((gg l).2.1 : Nat), .int .i64 ((gg l).2.2 : Nat)]) := by
  rw [h, hx, hy, hz]

set_option maxRecDepth 100000 in
set_option maxHeartbeats 1000000 in
theorem gg_any (A : Option Addr) (l : List Nat) (c : Nat) (w : World) (hn : l.length ≤ maxLen) (h : Rb w A l) :
    Calls Try.prog 82 #[.slice A l.length c] w fun e w' => e = .returned (.tuple #[.int .u32 ((gg l).1 : Nat), .int .i64 ((gg l).2.1 : Nat), .int .i64 ((gg l).2.2 : Nat)]) ∧ w = w' := by
  unfold maxLen at hn
  go_enter Try.func82, Try.ntmps82
  go_wp2_with fail
  go_loop [2, 6] (fun a t => ∃ i acc : Nat, i ≤ 4 ∧ i ≤ l.length ∧ t = .int .i64 (i : Int) ∧ a = .int .u32 (acc : Int) ∧ acc < 128 ^ i ∧ gg l = ggA (4 - i) i acc (l.drop i)) (fun _ t => 4 - (intOf t).toNat)
  case atStart => exact ⟨0, 0, by omega, by omega, rfl, rfl, by omega, rfl⟩
  case round =>
    obtain ⟨i, acc, hi4, hil, rfl, rfl, hacc, hgg⟩ := hrel
    by_cases he : i = 4
    · subst he
      have HG := Lib.hid hgg
      clear hgg
      go_wp2_with fail
      go_ret3
      exact ⟨gg3 HG.out rfl rfl rfl, rfl⟩
    have hlt : i < 4 := by omega
    obtain ⟨f, hf⟩ : ∃ f, 4 - i = f + 1 := ⟨3 - i, by omega⟩
    rw [hf] at hgg
    by_cases hel : i = l.length
    · rw [List.drop_eq_nil_of_le (by omega)] at hgg
      have HG := Lib.hid hgg
      clear hgg he
      subst hel
      go_wp2_with fail
      go_ret3
      exact ⟨gg3 HG.out rfl rfl rfl, rfl⟩
    have hil2 : i < l.length := by omega
    obtain ⟨b, off, rfl, hb, hx, hcell⟩ := h.at_ hil2
    have hgs := hgg.trans (congrArg (ggA (f + 1) i acc) (List.drop_eq_getElem_cons hil2))
    have HG := Lib.hid hgs
    have hbd := and128 l[i] hx
    have hcl : (decide (l.length ≤ i)) = false := by simp; omega
    generalize l[i] = x at *
    obtain ⟨r, hr⟩ : ∃ r, List.drop (i + 1) l = r := ⟨_, rfl⟩
    rw [hr] at HG
    have HR := Lib.hid hr
    clear hr hgg hgs hcl
    obtain ⟨N, hN⟩ : ∃ N, l.length = N := ⟨_, rfl⟩
    rw [hN] at hil hil2 hn hel ⊢
    have HN := Lib.hid hN
    clear hN hel hil
    have haj : acc < 2097152 := by
      have : 128 ^ i ≤ 128 ^ 3 := Nat.pow_le_pow_right (by omega) (by omega)
      omega
    obtain ⟨y, hy⟩ : ∃ y, x % 128 = y := ⟨_, rfl⟩
    have hy1 : y < 128 := by omega
    obtain ⟨a', ha'⟩ : ∃ a', acc * 128 + y = a' := ⟨_, rfl⟩
    have hj := join7 acc y haj hy1
    have hn7 := andNot128 x hx
    rw [ha'] at hj
    rw [hy] at hn7
    have ha4 : a' < 128 ^ (i + 1) := by rw [Nat.pow_succ]; omega
    have ha5 : a' < 268435456 := by omega
    have HA := Lib.hid (show ggA (f + 1) i acc (x :: r) = if i = 0 ∧ x = 128 then (0, 0, 9) else if 128 ≤ x then ggA f (i + 1) a' r else if a' < 31 then (0, 0, 9) else (a', i + 1, 0) by rw [← ha', ← hy]; rfl)
    have HA4 := Lib.hid ha4
    have HF := Lib.hid hf
    clear ha' hy ha4 hf hb
    rcases Nat.eq_zero_or_pos i with rfl | hip
    · rw [Nat.add_zero] at hcell
      by_cases h128 : x = 128
      · subst h128
        have hc8 : w.cell? ⟨b, off, none⟩ = some (.int .u8 128) := hcell
        have hn8 : bits BinOp.andNot IntKind.u8 128 128 = (y : Int) := hn7
        have hb8 : bits BinOp.and IntKind.u8 128 128 = 128 := by decide +kernel
        clear hcell hn7 hbd
        have HZ := Lib.hid (HG.out.trans (HA.out.trans (if_pos ⟨rfl, rfl⟩)))
        clear hj hn8
        go_wp2_with fail
        go_ret3
        exact ⟨gg3 HZ.out rfl rfl rfl, rfl⟩
      · have h81 : ((x : Int) == 128) = false := by rw [beq_eq_false_iff_ne]; omega
        by_cases hge : 128 ≤ x
        · have HZ := Lib.hid (HG.out.trans (HA.out.trans ((if_neg (fun e => h128 e.2)).trans (if_pos hge))))
          rw [if_pos hge] at hbd
          have hb8 : bits BinOp.and IntKind.u8 (x : Int) 128 = 128 := hbd
          clear hbd h128
          go_wp2_with fail
          exact ⟨⟨0 + 1, a', by omega, by omega, by go_num, rfl, HA4.out, by rw [HR.out, show 4 - (0 + 1) = f by have := HF.out; omega]; exact HZ.out⟩, by simp [intOf]; try omega⟩
        · have HZ := Lib.hid (HG.out.trans (HA.out.trans ((if_neg (fun e => h128 e.2)).trans (if_neg hge))))
          rw [if_neg hge] at hbd
          have hb8 : bits BinOp.and IntKind.u8 (x : Int) 128 = 0 := hbd
          clear hbd h128
          by_cases h31 : a' < 31
          · have HY := Lib.hid (HZ.out.trans (if_pos h31))
            go_wp2_with fail
            go_ret3
            exact ⟨gg3 HY.out rfl rfl rfl, rfl⟩
          · have HY := Lib.hid (HZ.out.trans (if_neg h31))
            go_wp2_with fail
            go_ret3
            exact ⟨gg3 HY.out rfl rfl (by go_num), rfl⟩
    · have hi1 : ((i : Int) == 0) = false := by rw [beq_eq_false_iff_ne]; omega
      by_cases h128 : x = 128
      · subst h128
        have hc8 : w.cell? ⟨b, off + i, none⟩ = some (.int .u8 128) := hcell
        have hn8 : bits BinOp.andNot IntKind.u8 128 128 = (y : Int) := hn7
        have hb8 : bits BinOp.and IntKind.u8 128 128 = 128 := by decide +kernel
        clear hcell hn7 hbd
        have HZ := Lib.hid (HG.out.trans (HA.out.trans ((if_neg (fun e => absurd e.1 (by omega))).trans (if_pos (Nat.le_refl _)))))
        go_wp2_with fail
        exact ⟨⟨i + 1, a', by omega, by omega, by go_num, rfl, HA4.out, by rw [HR.out, show 4 - (i + 1) = f by have := HF.out; omega]; exact HZ.out⟩, by simp [intOf]; try omega⟩
      · have h81 : ((x : Int) == 128) = false := by rw [beq_eq_false_iff_ne]; omega
        by_cases hge : 128 ≤ x
        · have HZ := Lib.hid (HG.out.trans (HA.out.trans ((if_neg (fun e => h128 e.2)).trans (if_pos hge))))
          rw [if_pos hge] at hbd
          have hb8 : bits BinOp.and IntKind.u8 (x : Int) 128 = 128 := hbd
          clear hbd h128
          go_wp2_with fail
          exact ⟨⟨i + 1, a', by omega, by omega, by go_num, rfl, HA4.out, by rw [HR.out, show 4 - (i + 1) = f by have := HF.out; omega]; exact HZ.out⟩, by simp [intOf]; try omega⟩
        · have HZ := Lib.hid (HG.out.trans (HA.out.trans ((if_neg (fun e => h128 e.2)).trans (if_neg hge))))
          rw [if_neg hge] at hbd
          have hb8 : bits BinOp.and IntKind.u8 (x : Int) 128 = 0 := hbd
          clear hbd h128
          by_cases h31 : a' < 31
          · have HY := Lib.hid (HZ.out.trans (if_pos h31))
            go_wp2_with fail
            go_ret3
            exact ⟨gg3 HY.out rfl rfl rfl, rfl⟩
          · have HY := Lib.hid (HZ.out.trans (if_neg h31))
            go_wp2_with fail
            go_ret3
            exact ⟨gg3 HY.out rfl rfl (by go_num), rfl⟩
end Go.Proofs.Ytgdjgahmnnjeeaa
