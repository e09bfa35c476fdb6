/-
  Layer 10: numbers of the reference; indexes of strings.
  Conditions: the text is short.
-/
import Derived.Test.YtecmgkmonehmfaaDoorTimK
namespace Go.Proofs.YtecmgkmonehmfaaDoor.Tim
open Go.RowKit
attribute [local go_sem] Oper.semAt_some

theorem idx_str (l : List Nat) (h8 : All8 l) (j : Nat) (hj : j < l.length) (W : World) : (Instr.index 9 (.string (bstr l)) (.int .i64 (j : Int))).run Tryd.prog W = .ok (.int .u8 (l[j] : Int)) W := by
  rw [run_index_string (P := Tryd.prog) W 9 (bstr l) .i64 (j : Int) Tryd.underlying9]
  have hi : j < (bstr l).size := by rw [bstr_size]; exact hj
  rw [dif_pos ⟨by omega, by omega⟩]
  have e : ((bstr l)[((j : Int)).toNat]'(by rw [Int.toNat_natCast]; exact hi)).toNat = l[j] := by
    have h2 := h8.get hj
    have : (bstr l)[((j : Int)).toNat]'(by rw [Int.toNat_natCast]; exact hi) = UInt8.ofNat l[j] := by
      show (bstr l).data[((j : Int)).toNat]'(by rw [Int.toNat_natCast]; exact hi) = _
      simp [bstr]
    rw [this, UInt8.toNat_ofNat_of_lt' h2]
  rw [e]
def isD (x : Nat) : Bool := decide (48 ≤ x) && decide (x ≤ 57)
def valD (l : List Nat) : Nat := l.foldl (fun a x => 10 * a + (x - 48)) 0
/-- The number in digits, -1 if it is none. -/
def numR (l : List Nat) : Int := if l.all isD = true then (valD l : Int) else -1
theorem valD_snoc (l : List Nat) (x : Nat) : valD (l ++ [x]) = 10 * valD l + (x - 48) := by unfold valD; rw [List.foldl_append]; rfl
set_option linter.unusedSimpArgs false in
set_option linter.unusedVariables false in
set_option maxHeartbeats 4000000 in
set_option maxRecDepth 100000 in
theorem number_any (l : List Nat) (h8 : All8 l) (hl : l.length ≤ 4) (w : World) : Calls Tryd.prog 42 #[.string (bstr l)] w fun e w' => e = .returned (.int .i64 (numR l)) ∧ w = w' := by
  have HIX := Lib.hid (fun j hj W => idx_str l h8 j hj W)
  have hsz := bstr_size l
  obtain ⟨S, hS⟩ : ∃ S, bstr l = S := ⟨_, rfl⟩
  rw [hS] at HIX hsz ⊢
  obtain ⟨N, hN⟩ : ∃ N, l.length = N := ⟨_, rfl⟩
  rw [hN] at hsz hl
  have HN := Lib.hid hN
  have H8 := Lib.hid h8
  obtain ⟨R, hR⟩ : ∃ R, numR l = R := ⟨_, rfl⟩
  rw [hR]
  have HR := Lib.hid hR
  clear hS hN h8 hR
  go_enter Tryd.func42, Tryd.ntmps42
  go_upto_region 3 with fail
  go_loopw [3, 4] (fun n i wr => ∃ k V : Nat, k ≤ N ∧ n = .int .i64 (V : Int) ∧ V < 10 ^ k ∧ valD (l.take k) = V ∧ (l.take k).all isD = true ∧ i = .int .i64 (k : Int) ∧ w = wr) (fun _ i _ => N - (intOf i).toNat)
  case atStart => exact ⟨0, 0, Nat.zero_le _, rfl, by decide, by rw [List.take_zero]; rfl, by rw [List.take_zero]; rfl, rfl, rfl⟩
  case round =>
    obtain ⟨k, V, hk, rfl, hV, hval, hall, rfl, rfl⟩ := hrel
    have HVal := Lib.hid hval
    have HAll := Lib.hid hall
    have HPow := Lib.hid hV
    have hVl : V < 10000 := Nat.lt_of_lt_of_le hV (Nat.pow_le_pow_right (by decide) (show k ≤ 4 by omega))
    clear hval hall hV
    by_cases hlt : k < N
    · have hlt2 : k < l.length := by rw [HN.out]; exact hlt
      have hix := HIX.out k hlt2
      have hx8 := H8.out _ (List.getElem_mem hlt2)
      obtain ⟨x, hx⟩ : ∃ x, l[k] = x := ⟨_, rfl⟩
      rw [hx] at hix hx8
      have hli : (k : Int) < (N : Int) := by omega
      have hmem : x ∈ l := by rw [← hx]; exact List.getElem_mem hlt2
      have hbad : isD x = false → R = -1 := fun hf => by
        rw [← HR.out]
        unfold numR
        rw [if_neg]
        intro h
        rw [List.all_eq_true] at h
        rw [h x hmem] at hf
        cases hf
      have HBad := Lib.hid hbad
      have htk : l.take (k + 1) = l.take k ++ [x] := by rw [← hx]; exact List.take_succ_eq_append_getElem hlt2
      have HTk := Lib.hid htk
      clear hx hmem hbad htk hlt2 hlt
      by_cases h1 : x < 48
      · have hE : Hid (R = -1) := Lib.hid (HBad.out (by unfold isD; rw [decide_eq_false (by omega)]; rfl))
        go_wp2_with fail
        go_ret
        exact ⟨by rw [hE.out]; rfl, rfl⟩
      · by_cases h2 : 57 < x
        · have hE : Hid (R = -1) := Lib.hid (HBad.out (by unfold isD; rw [decide_eq_false (p := x ≤ 57) (by omega), Bool.and_false]))
          go_wp2_with fail
          go_ret
          exact ⟨by rw [hE.out]; rfl, rfl⟩
        · obtain ⟨d, rfl⟩ : ∃ d, x = 48 + d := ⟨x - 48, by omega⟩
          have q0 : IntKind.u8.wrap (((48 + d : Nat) : Int) - 48) = (d : Int) := by rw [IntKind.wrap_u8]; omega
          have q1 : IntKind.i64.wrap (10 * (V : Int)) = 10 * (V : Int) := by rw [IntKind.wrap_i64]; omega
          have q2 : IntKind.i64.wrap (10 * (V : Int) + (d : Int)) = 10 * (V : Int) + (d : Int) := by rw [IntKind.wrap_i64]; omega
          have q3 : IntKind.i64.wrap (d : Int) = (d : Int) := by rw [IntKind.wrap_i64]; omega
          have HV2 : Hid (valD (l.take (k + 1)) = 10 * V + d) := Lib.hid (by rw [HTk.out, valD_snoc, HVal.out, Nat.add_sub_cancel_left])
          have HA2 : Hid ((l.take (k + 1)).all isD = true) := Lib.hid (by
            rw [HTk.out, List.all_append, HAll.out, Bool.true_and, List.all_cons, List.all_nil, Bool.and_true]
            unfold isD
            rw [decide_eq_true (by omega), decide_eq_true (by omega)]; rfl)
          have HP2 : Hid (10 * V + d < 10 ^ (k + 1)) := Lib.hid (by have := HPow.out; rw [Nat.pow_succ]; omega)
          go_wp2_with fail
          exact ⟨⟨k + 1, 10 * V + d, by omega, by go_num, HP2.out, HV2.out, HA2.out, by go_num, trivial⟩, by simp [intOf]; omega⟩
    · obtain rfl : k = N := by omega
      have hE : Hid (R = (V : Int)) := Lib.hid (by
        have h1 := HVal.out
        have h2 := HAll.out
        rw [List.take_of_length_le (by rw [HN.out]; exact Nat.le_refl _)] at h1 h2
        rw [← HR.out]
        unfold numR
        rw [if_pos h2, h1])
      go_wp2_with fail
      go_ret
      exact ⟨by rw [hE.out]; rfl, rfl⟩
end Go.Proofs.YtecmgkmonehmfaaDoor.Tim
