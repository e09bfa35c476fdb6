/-
  The reference of layer 1: contracts of Text, Parse, Check; and the statements' own helpers.
  Conditions: numbers are short, and read as digits.
-/
import Derived.Test.YtenbknmpkdidoaaRefD
namespace Go.Proofs.Ytenbknmpkdidoaa
open Go.RowKit

set_option maxHeartbeats 400000 in
theorem rcheck_any (A : Option Addr) (l : List Nat) (c : Nat) (w : World) (hn : l.length ≤ maxLen) (h : Rb w A l) :
    Calls Try.prog 14 #[.slice A l.length c] w fun e w' => e = .returned (.int .i64 (checkE l)) ∧ w = w' := by
  unfold maxLen at hn
  unfold checkE
  by_cases h0 : l = []
  · subst h0
    go_enter Try.func14, Try.ntmps14
    go_wp2
    go_ret
    exact ⟨rfl, rfl⟩
  obtain ⟨x, l', rfl⟩ := List.exists_cons_of_ne_nil h0
  obtain ⟨b, off, rfl, hb, hx, hc⟩ := h.at_ (k := 0) (by simp)
  simp only [List.getElem_cons_zero] at hx hc
  simp only [Nat.add_zero] at hc
  clear h h0
  by_cases hx0 : x = 0
  · subst hx0
    go_enter Try.func14, Try.ntmps14
    go_wp2
    all_goals go_ret
    all_goals exact ⟨by simp [*], rfl⟩
  · go_enter Try.func14, Try.ntmps14
    go_wp2
    all_goals go_ret
    all_goals exact ⟨by simp [*], rfl⟩

theorem bstr_size (l : List Nat) : (bstr l).size = l.length := by unfold bstr; simp [ByteArray.size]
theorem bstr_app (l m : List Nat) : bstr l ++ bstr m = bstr (l ++ m) := by
  apply ByteArray.ext
  rw [ByteArray.data_append]
  unfold bstr
  rw [List.map_append]
  simp
/-- The k-th digit's character. -/
theorem dslice (x : Nat) (hx : x < 10) (W : World) : (Instr.slice 9 (.string ⟨#[48, 49, 50, 51, 52, 53, 54, 55, 56, 57]⟩) (some (.int .i64 (x : Int))) (some (.int .i64 ((x : Int) + 1))) none).run Try.prog W = .ok (.string (bstr [48 + x])) W := by
  rcases x with _ | _ | _ | _ | _ | _ | _ | _ | _ | _ | x
  all_goals first | omega | kernel_rfl
theorem dslice' (x : Nat) (hx : x < 10) (W : World) : (Instr.sliceAt 9 (.string ⟨#[48, 49, 50, 51, 52, 53, 54, 55, 56, 57]⟩) (some (.int .i64 (x : Int))) (some (.int .i64 ((x : Int) + 1))) none).run Try.prog W = .ok (.string (bstr [48 + x])) W := by
  rcases x with _ | _ | _ | _ | _ | _ | _ | _ | _ | _ | x
  all_goals first | omega | kernel_rfl
set_option maxHeartbeats 800000 in
theorem rtext_any (A : Option Addr) (v c : Nat) (w : World) (hv : (dgs 10 v).length ≤ 1000) (h : Ri w A (dgs 10 v)) :
    Calls Try.prog 37 #[.slice A (dgs 10 v).length c] w fun e w' => e = .returned (.string (bstr (textL v))) ∧ Below w.heap.size w w' := by
  by_cases hv0 : v = 0
  · subst hv0
    have e0 : (dgs 10 0).length = 0 := rfl
    rw [e0]
    clear h hv
    go_enter Try.func37, Try.ntmps37
    go_wp2_with fail
    go_ret
    exact ⟨rfl, Below.refl _ _⟩
  · have HT := Lib.hid (show textL v = (dgs 10 v).reverse.map (48 + ·) from if_neg hv0)
    have h10 := dgs_lt (b := 10) (by omega) v
    have hpos : 0 < (dgs 10 v).length := by rw [dgs_pos (by omega) hv0]; simp
    generalize dgs 10 v = l at *
    have hb0 : ((l.length : Int) == 0) = false := by rw [beq_eq_false_iff_ne]; omega
    clear hv0
    go_enter Try.func37, Try.ntmps37
    go_wp2_with fail
    go_loopw [3, 4] (fun s i wr => ∃ k : Nat, k ≤ l.length ∧ i = .int .i64 ((k : Int) - 1) ∧ s = .string (bstr ((l.drop k).reverse.map (48 + ·))) ∧ Below w.heap.size w wr) (fun _ i _ => (intOf i + 1).toNat)
    case atStart => exact ⟨l.length, Nat.le_refl _, rfl, by rw [List.drop_eq_nil_of_le (Nat.le_refl _)]; rfl, Below.refl _ _⟩
    case round =>
      obtain ⟨k, hk, rfl, rfl, hbel⟩ := hrel
      have HBel := Lib.hid hbel
      clear hbel
      by_cases hk0 : k = 0
      · subst hk0
        rw [List.drop_zero]
        go_wp2_with fail
        go_ret
        exact ⟨by rw [HT.out]; rfl, HBel.out⟩
      · obtain ⟨j, rfl⟩ : ∃ j, k = j + 1 := ⟨k - 1, by omega⟩
        have hjl : j < l.length := by omega
        obtain ⟨b, off, rfl, hb, hcell0⟩ := h.at_ hjl
        have hcell : wr.cell? ⟨b, off + j, none⟩ = some (.int .i64 (l[j] : Int)) := (HBel.out.cell hb).trans hcell0
        have hx := h10 _ (List.getElem_mem hjl)
        have HDr := Lib.hid (List.drop_eq_getElem_cons hjl)
        have e1 : (((j + 1 : Nat) : Int) - 1) = (j : Int) := by omega
        rw [e1]
        have H := Lib.hid h
        generalize l[j] = x at hcell hx HDr
        obtain ⟨S, hS⟩ : ∃ S, List.map (48 + ·) (List.drop (j + 1) l).reverse = S := ⟨_, rfl⟩
        have hSl : S.length ≤ 1000 := by rw [← hS]; simp; omega
        rw [hS]
        have HSe := Lib.hid hS
        clear hS
        have hsz : ¬ 9223372036854775807 < (bstr S).size + (bstr [48 + x]).size := by rw [bstr_size, bstr_size]; simp; omega
        have q1 : IntKind.i64.wrap ((x : Int) + 1) = (x : Int) + 1 := IntWalk.i64_in _ (by omega)
        have q2 := dslice x hx
        have q3 := dslice' x hx
        clear hcell0 e1 hk0 h
        go_wp2_with fail
        refine wp_region_still_tail 12 (by kernel_rfl) (by kernel_rfl) ?_
        simp only [List.take_succ_cons, List.take_zero, List.drop_succ_cons, List.drop_zero]
        repeat still_step
        refine wpStill_nil ?_
        change wpList _ _ _ _ _ wr.drew
        clear q1 q2 q3
        go_wp2_with fail
        refine ⟨⟨j, by omega, rfl, ?_, HBel.out.drew⟩, by simp [intOf]⟩
        rw [HDr.out, List.reverse_cons, List.map_append, HSe.out]
        exact congrArg Value.string (bstr_app S [48 + x])
end Go.Proofs.Ytenbknmpkdidoaa
