/-
  The reference of layer 2: contracts of Small, Text (of a number), Text (of a tag).
  Conditions: the class is one of four.
-/
import Derived.Test.YtcaolgcpcjodnaaDoorTagS
import Derived.Test.YtcaolgcpcjodnaaDoorTagO
import Derived.Deep.RegionHeld3
namespace Go.Proofs.YtcaolgcpcjodnaaDoor
open Go.RowKit

theorem info3 : (Tryd.prog.info? 3).map (fun i => (i.zero, i.size, i.bytes)) = some (some (.int .i64 0), 1, 8) := by kernel_rfl
theorem dgs10_le {v k : Nat} (h : v < 10 ^ k) : (dgs 10 v).length ≤ k := (dgs_length (by omega) v k).2 h
theorem appI {w : World} {base : Nat} {v : Value} {l : List Nat} (hown : w.ownsRow base 3 1 v l.length (csI l)) (x : Nat) (hb : base ≤ w.heap.size) (hl : l.length ≤ 1000000) :
    ∃ v' w', (Builtin.append_ #[74, 74] 74 #[v, .slice (some ⟨w.heap.size, 0, none⟩) 1 1]).run Tryd.prog (w.alloc (.cells #[.int .i64 (x : Int)] 3)) = .ok v' w' ∧ w'.ownsRow base 3 1 v' (l ++ [x]).length (csI (l ++ [x])) ∧ Below base w w' := by
  rw [← csI_length] at hown
  obtain ⟨v', w', h1, h2, h3⟩ := app_one (P := Tryd.prog) (ty := 74) Tryd.underlying74 info3 rfl hown (.int .i64 (x : Int)) rfl hb (by rw [csI_length]; omega) (by rw [csI_length]; unfold maxLen; omega)
  refine ⟨v', w', h1, ?_, h3⟩
  rw [csI_snoc, csI_length] at h2
  exact h2

set_option maxHeartbeats 800000 in
set_option maxRecDepth 100000 in
theorem small_any (n : Nat) (w : World) (hn : n < 9223372036854775808) : Calls Tryd.prog 35 #[.int .i64 n] w (GiveI w (dgs 10 n)) := by
  have hlen0 := dgs10_le (v := n) (k := 19) (by omega)
  go_enter Tryd.func35, Tryd.ntmps35
  go_wp2_with fail
  go_loopw [0, 3] (fun r v wr => ∃ (q : Nat) (o : List Nat), q < 9223372036854775808 ∧ r = .int .i64 q ∧ dgs 10 n = o ++ dgs 10 q ∧ wr.ownsRow w.heap.size 3 1 v o.length (csI o) ∧ Below w.heap.size w wr) (fun r _ _ => (intOf r).toNat)
  case atStart => exact ⟨n, [], hn, rfl, rfl, World.ownsRow_nil _ _ _ _, Below.refl _ _⟩
  case round =>
    obtain ⟨q, o, hq, rfl, hd, hown, hbel⟩ := hrel
    have hol : o.length ≤ 19 := by
      have := congrArg List.length hd
      rw [List.length_append] at this
      omega
    have HD := Lib.hid hd
    have HBel := Lib.hid hbel
    have HOwn := Lib.hid hown
    clear hd hbel hown
    by_cases hq0 : q = 0
    · subst hq0
      obtain ⟨A', c', hv', hr', hc1, hc2⟩ := own_open (by rw [csI_length]; exact HOwn.out)
      rw [csI_length] at hc1 hv'
      subst hv'
      have HR := Lib.hid (show Ri wr A' o from hr')
      have HC := Lib.hid (And.intro hc1 hc2)
      have HD2 : Hid (dgs 10 n = o) := HD.out.trans (by rw [dgs_zero, List.append_nil])
      clear hr' hc1 hc2
      go_wp2_with fail
      go_ret
      rw [HD2.out]
      exact ⟨A', c', rfl, HR.out, HC.out.1, HC.out.2, HBel.out⟩
    · have hqpos : 0 < q := by omega
      obtain ⟨v', w1, hrun, hown1, hb1⟩ := appI HOwn.out (q % 10) HBel.out.size (by omega)
      have hy : ((q % 10 : Nat) : Int) = (q : Int) % 10 := by omega
      rw [hy] at hrun
      have HOwn1 := Lib.hid hown1
      have HB1 := Lib.hid hb1
      have HD2 := Lib.hid (HD.out.trans (by rw [dgs_pos (by omega) hq0] : o ++ dgs 10 q = o ++ (q % 10 :: dgs 10 (q / 10))))
      clear hown1 hb1 hy hq0
      go_wp2_with (at_builtin; refine wpList_app rfl _ _ _ _ rfl _ _ rfl rfl hrun ?_)
      exact ⟨⟨q / 10, o ++ [q % 10], by omega, by go_num, by rw [HD2.out, List.append_assoc]; rfl, HOwn1.out, (HBel.out).trans ((HB1.out).mono (Nat.le_refl _))⟩, by simp [intOf]; omega⟩

/-- The k-th digit's character. -/
theorem dslice (x : Nat) (hx : x < 10) (W : World) : (Instr.slice 9 (.string ⟨#[48, 49, 50, 51, 52, 53, 54, 55, 56, 57]⟩) (some (.int .i64 (x : Int))) (some (.int .i64 ((x : Int) + 1))) none).run Tryd.prog W = .ok (.string (bstr [48 + x])) W := by
  rcases x with _ | _ | _ | _ | _ | _ | _ | _ | _ | _ | x
  all_goals first | omega | kernel_rfl
theorem dslice' (x : Nat) (hx : x < 10) (W : World) : (Instr.sliceAt 9 (.string ⟨#[48, 49, 50, 51, 52, 53, 54, 55, 56, 57]⟩) (some (.int .i64 (x : Int))) (some (.int .i64 ((x : Int) + 1))) none).run Tryd.prog W = .ok (.string (bstr [48 + x])) W := by
  rcases x with _ | _ | _ | _ | _ | _ | _ | _ | _ | _ | x
  all_goals first | omega | kernel_rfl
set_option maxHeartbeats 800000 in
set_option maxRecDepth 100000 in
theorem rtext_any (A : Option Addr) (v c : Nat) (w : World) (hv : (dgs 10 v).length ≤ 1000) (h : Ri w A (dgs 10 v)) :
    Calls Tryd.prog 36 #[.slice A (dgs 10 v).length c] w fun e w' => e = .returned (.string (bstr (textL v))) ∧ Below w.heap.size w w' := by
  by_cases hv0 : v = 0
  · subst hv0
    have e0 : (dgs 10 0).length = 0 := rfl
    rw [e0]
    clear h hv
    go_enter Tryd.func36, Tryd.ntmps36
    go_wp2_with fail
    go_ret
    exact ⟨rfl, Below.refl _ _⟩
  · have HT := Lib.hid (show textL v = (dgs 10 v).reverse.map (48 + ·) from if_neg hv0)
    have h10 := dgs_lt (b := 10) (by omega) v
    have hpos : 0 < (dgs 10 v).length := by rw [dgs_pos (by omega) hv0]; simp
    generalize dgs 10 v = l at *
    have hb0 : ((l.length : Int) == 0) = false := by rw [beq_eq_false_iff_ne]; omega
    clear hv0
    go_enter Tryd.func36, Tryd.ntmps36
    go_wp2_with fail
    go_loopw [3, 4] (fun s i wr => ∃ k : Nat, k ≤ l.length ∧ i = .int .i64 ((k : Int) - 1) ∧ s = .string (bstr ((l.drop k).reverse.map (48 + ·))) ∧ Below w.heap.size w wr) (fun _ i _ => (intOf i + 1).toNat)
    case atStart => exact ⟨l.length, Nat.le_refl _, rfl, by rw [List.drop_eq_nil_of_le (Nat.le_refl _)]; rfl, Below.refl _ _⟩
    case round =>
      obtain ⟨k, hk, rfl, rfl, hbel⟩ := hrel
      have HBel := Lib.hid hbel
      clear hbel
      by_cases hk0 : k = 0
      · subst hk0
        rw [List.drop_zero]
        go_wp2_with fail
        go_ret
        exact ⟨by rw [HT.out]; rfl, HBel.out⟩
      · obtain ⟨j, rfl⟩ : ∃ j, k = j + 1 := ⟨k - 1, by omega⟩
        have hjl : j < l.length := by omega
        obtain ⟨b, off, rfl, hb, hcell0⟩ := h.at_ hjl
        have hcell : wr.cell? ⟨b, off + j, none⟩ = some (.int .i64 (l[j] : Int)) := (HBel.out.cell hb).trans hcell0
        have hx := h10 _ (List.getElem_mem hjl)
        have HDr := Lib.hid (List.drop_eq_getElem_cons hjl)
        have e1 : (((j + 1 : Nat) : Int) - 1) = (j : Int) := by omega
        rw [e1]
        have H := Lib.hid h
        generalize l[j] = x at hcell hx HDr
        obtain ⟨S, hS⟩ : ∃ S, List.map (48 + ·) (List.drop (j + 1) l).reverse = S := ⟨_, rfl⟩
        have hSl : S.length ≤ 1000 := by rw [← hS]; simp; omega
        rw [hS]
        have HSe := Lib.hid hS
        clear hS
        have hsz : ¬ 9223372036854775807 < (bstr S).size + (bstr [48 + x]).size := by rw [bstr_size, bstr_size]; simp; omega
        have q1 : IntKind.i64.wrap ((x : Int) + 1) = (x : Int) + 1 := IntWalk.i64_in _ (by omega)
        have q2 := dslice x hx
        have q3 := dslice' x hx
        clear hcell0 e1 hk0 h
        go_wp2_with fail
        refine wp_region_still_tail 12 (by kernel_rfl) (by kernel_rfl) ?_
        simp only [List.take_succ_cons, List.take_zero, List.drop_succ_cons, List.drop_zero]
        repeat still_step
        refine wpStill_nil ?_
        change wpList _ _ _ _ _ wr.drew
        clear q1 q2 q3
        go_wp2_with fail
        refine ⟨⟨j, by omega, rfl, ?_, HBel.out.drew⟩, by simp [intOf]⟩
        rw [HDr.out, List.reverse_cons, List.map_append, HSe.out]
        exact congrArg Value.string (bstr_app S [48 + x])

end Go.Proofs.YtcaolgcpcjodnaaDoor
