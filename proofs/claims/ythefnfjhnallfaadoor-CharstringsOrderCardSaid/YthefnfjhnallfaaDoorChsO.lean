/-
  The reference of layer 9: Kind, Has; the law's number.
-/
import Derived.Test.YthefnfjhnallfaaDoorChsN
namespace Go.Proofs.YthefnfjhnallfaaDoor.Chs
open Go.RowKit Go.Shelf

set_option linter.unusedSimpArgs false in
set_option maxHeartbeats 1000000 in
theorem rkind_any (k : Nat) (w : World) : Calls Tryd.prog 25 #[.int .u32 (k : Int)] w fun e w' => e = .returned (.int .i64 (if isK k = true then 1 else 0)) ∧ w = w' := by
  by_cases h : k = 12 ∨ k = 19 ∨ k = 22 ∨ k = 26 ∨ k = 30
  · rcases h with rfl | rfl | rfl | rfl | rfl
    all_goals
      go_enter Tryd.func25, Tryd.ntmps25
      go_wp2_with fail
      go_ret
      exact ⟨rfl, rfl⟩
  · have hK : isK k = false := by
      cases hK : isK k with
      | false => rfl
      | true => exact absurd (isK_cases hK) h
    rw [hK]
    have h0 : ((k : Int) == 12) = false := by rw [beq_eq_false_iff_ne]; omega
    have h1 : ((k : Int) == 19) = false := by rw [beq_eq_false_iff_ne]; omega
    have h2 : ((k : Int) == 22) = false := by rw [beq_eq_false_iff_ne]; omega
    have h3 : ((k : Int) == 26) = false := by rw [beq_eq_false_iff_ne]; omega
    have h4 : ((k : Int) == 30) = false := by rw [beq_eq_false_iff_ne]; omega
    clear h hK
    go_enter Tryd.func25, Tryd.ntmps25
    go_wp2_with fail
    go_ret
    exact ⟨rfl, rfl⟩
set_option maxHeartbeats 1000000 in
theorem number_any (p : Nat) (hp : p < 5) (w : World) : Calls Tryd.prog 26 #[.int .i64 (p : Int)] w fun e w' => e = .returned (.int .u32 (kN p : Int)) ∧ Below w.heap.size w w' := by
  obtain rfl | rfl | rfl | rfl | rfl : p = 0 ∨ p = 1 ∨ p = 2 ∨ p = 3 ∨ p = 4 := by omega
  all_goals
    go_enter Tryd.func26, Tryd.ntmps26
    go_wp2_with fail
    go_ret
    exact ⟨rfl, bel1 _ _⟩

theorem oth_get : ∀ p : Fin 12, (S12[p.val]'(by exact p.2)).toNat = othL.getD p.val 0 := by decide +kernel
theorem at12v (p : Nat) (hp : p < 12) (W : World) : (Instr.index 9 (.string S12) (.int .i64 (p : Int))).run Tryd.prog W = .ok (.int .u8 (othL.getD p 0 : Int)) W := by
  rw [run_index_string (P := Tryd.prog) W 9 S12 .i64 (p : Int) Tryd.underlying9]
  have hi : p < S12.size := hp
  rw [dif_pos ⟨by omega, by omega⟩, ← oth_get ⟨p, hp⟩]
  rfl
theorem oth_lt {p : Nat} (hp : p < 12) : othL.getD p 0 < 256 := by
  have : ∀ p : Fin 12, othL.getD p.val 0 < 256 := by decide
  exact this ⟨p, hp⟩
/-- The default of Has. -/
theorem hasN_def {k c : Nat} (h12 : k ≠ 12) (h22 : k ≠ 22) (h26 : k ≠ 26) (h30 : k ≠ 30) : hasN k c = prB c := by unfold hasN; rw [if_neg h12, if_neg h22, if_neg h26, if_neg h30]
theorem hasN_bad {k c : Nat} (h : chO c = false) : hasN k c = false := by
  have hs : ¬ (c ≠ 0 ∧ (c < 55296 ∨ (57344 ≤ c ∧ c ≤ 1114111))) := by
    intro hh
    unfold chO at h
    rw [scal_iff.2 hh.2, decide_eq_true hh.1] at h
    cases h
  unfold hasN
  rw [h]
  split
  · rfl
  · split
    · rw [Bool.and_eq_false_iff, decide_eq_false_iff_not, decide_eq_false_iff_not]; omega
    · split
      · rw [Bool.and_eq_false_iff, decide_eq_false_iff_not, decide_eq_false_iff_not]; omega
      · split
        · rfl
        · cases hp : prB c with
          | false => rfl
          | true => unfold prB othL at hp; simp at hp; omega
set_option linter.unusedSimpArgs false in
set_option maxHeartbeats 4000000 in
set_option maxRecDepth 100000 in
theorem rhas_any (k c : Nat) (w : World) : Calls Tryd.prog 31 #[.int .u32 (k : Int), .int .i64 (c : Int)] w fun e w' => e = .returned (.bool (hasN k c)) ∧ w = w' := by
  obtain ⟨V, hV⟩ : ∃ V, hasN k c = V := ⟨_, rfl⟩
  have HV := Lib.hid hV
  rw [hV]
  clear hV
  by_cases hbad : c = 0 ∨ 1114111 < c ∨ (55296 ≤ c ∧ c < 57344)
  · have HF : Hid (V = false) := Lib.hid (by
      rw [← HV.out]
      refine hasN_bad ?_
      cases hh : chO c with
      | false => rfl
      | true =>
        unfold chO at hh
        rw [Bool.and_eq_true, scal_iff, decide_eq_true_eq] at hh
        omega)
    clear HV
    rcases hbad with rfl | h | ⟨h, h'⟩
    · go_enter Tryd.func31, Tryd.ntmps31
      go_wp2_with fail
      go_ret
      exact ⟨by rw [HF.out]; rfl, rfl⟩
    · have h1 : ¬ (c : Int) < 1 := by omega
      have h2 : (1114111 : Int) < (c : Int) := by omega
      clear h
      go_enter Tryd.func31, Tryd.ntmps31
      go_wp2_with fail
      go_ret
      exact ⟨by rw [HF.out]; rfl, rfl⟩
    · have h1 : ¬ (c : Int) < 1 := by omega
      have h2 : ¬ (1114111 : Int) < (c : Int) := by omega
      have h3 : (55296 : Int) ≤ (c : Int) := by omega
      have h4 : (c : Int) < 57344 := by omega
      clear h h'
      go_enter Tryd.func31, Tryd.ntmps31
      go_wp2_with fail
      go_ret
      exact ⟨by rw [HF.out]; rfl, rfl⟩
  · have hch : chO c = true := by
      unfold chO
      rw [Bool.and_eq_true, scal_iff, decide_eq_true_eq]
      omega
    have HCH := Lib.hid hch
    have h1 : ¬ (c : Int) < 1 := by omega
    have h2 : ¬ (1114111 : Int) < (c : Int) := by omega
    have h3 : ((decide ((55296 : Int) ≤ (c : Int)) && decide ((c : Int) < 57344)) = false) := by
      rw [Bool.and_eq_false_iff, decide_eq_false_iff_not, decide_eq_false_iff_not]; omega
    have h34 : ¬ (55296 : Int) ≤ (c : Int) ∨ ((55296 : Int) ≤ (c : Int) ∧ ¬ (c : Int) < 57344) := by omega
    have hc0 : 0 < c ∧ c ≤ 1114111 := by omega
    have HC0 := Lib.hid hc0
    clear hch hbad hc0 h3
    rcases h34 with h3 | ⟨h3, h4⟩
    all_goals
      by_cases h12 : k = 12
      · subst h12
        have HF : Hid (V = true) := Lib.hid (by rw [← HV.out]; exact HCH.out)
        clear HV
        go_enter Tryd.func31, Tryd.ntmps31
        go_wp2_with fail
        go_ret
        exact ⟨by rw [HF.out]; rfl, rfl⟩
      · by_cases h22 : k = 22
        · subst h22
          have HF : Hid (V = decide ((c : Int) < 128)) := Lib.hid (by
            rw [← HV.out]
            show (decide (0 < c) && decide (c ≤ 127)) = _
            rw [decide_eq_true HC0.out.1, Bool.true_and, decide_eq_decide]; omega)
          clear HV h12
          go_enter Tryd.func31, Tryd.ntmps31
          go_wp2_with fail
          go_ret
          exact ⟨by rw [HF.out]; rfl, rfl⟩
        · by_cases h26 : k = 26
          · subst h26
            have HF : Hid (V = (decide ((31 : Int) < (c : Int)) && decide ((c : Int) < 127))) := Lib.hid (by
              rw [← HV.out]
              show (decide (32 ≤ c) && decide (c ≤ 126)) = _
              congr 1 <;> (rw [decide_eq_decide]; omega))
            clear HV h12 h22
            by_cases h31 : (31 : Int) < (c : Int)
            · rw [decide_eq_true h31] at HF
              go_enter Tryd.func31, Tryd.ntmps31
              go_wp2_with fail
              go_ret
              exact ⟨by rw [HF.out]; rfl, rfl⟩
            · rw [decide_eq_false h31] at HF
              go_enter Tryd.func31, Tryd.ntmps31
              go_wp2_with fail
              go_ret
              exact ⟨by rw [HF.out]; rfl, rfl⟩
          · by_cases h30 : k = 30
            · subst h30
              have HF : Hid (V = decide ((c : Int) < 65536)) := Lib.hid (by
                rw [← HV.out]
                show (chO c && decide (c ≤ 65535)) = _
                rw [HCH.out, Bool.true_and, decide_eq_decide]; omega)
              clear HV h12 h22 h26
              go_enter Tryd.func31, Tryd.ntmps31
              go_wp2_with fail
              go_ret
              exact ⟨by rw [HF.out]; rfl, rfl⟩
            · have HD : Hid (V = prB c) := Lib.hid (by rw [← HV.out]; exact hasN_def h12 h22 h26 h30)
              have k12 : ((k : Int) == 12) = false := by rw [beq_eq_false_iff_ne]; omega
              have k22 : ((k : Int) == 22) = false := by rw [beq_eq_false_iff_ne]; omega
              have k26 : ((k : Int) == 26) = false := by rw [beq_eq_false_iff_ne]; omega
              have k30 : ((k : Int) == 30) = false := by rw [beq_eq_false_iff_ne]; omega
              clear HV h12 h22 h26 h30
              by_cases hin : (65 ≤ c ∧ c ≤ 90) ∨ (97 ≤ c ∧ c ≤ 122) ∨ (48 ≤ c ∧ c ≤ 57)
              · have HF : Hid (V = true) := Lib.hid (by
                  rw [HD.out]; unfold prB
                  rw [Bool.or_eq_true, Bool.or_eq_true, Bool.or_eq_true, Bool.and_eq_true, Bool.and_eq_true, Bool.and_eq_true]
                  simp only [decide_eq_true_eq]
                  omega)
                clear HD
                rcases hin with ⟨q1, q2⟩ | ⟨q1, q2⟩ | ⟨q1, q2⟩
                · have e1 : (65 : Int) ≤ (c : Int) := by omega
                  have e2 : (c : Int) ≤ 90 := by omega
                  clear q1 q2
                  go_enter Tryd.func31, Tryd.ntmps31
                  go_wp2_with fail
                  go_ret
                  exact ⟨by rw [HF.out]; rfl, rfl⟩
                · have e1 : (65 : Int) ≤ (c : Int) := by omega
                  have e2 : ¬ (c : Int) ≤ 90 := by omega
                  have e3 : (97 : Int) ≤ (c : Int) := by omega
                  have e4 : (c : Int) ≤ 122 := by omega
                  clear q1 q2
                  go_enter Tryd.func31, Tryd.ntmps31
                  go_wp2_with fail
                  go_ret
                  exact ⟨by rw [HF.out]; rfl, rfl⟩
                · have e1 : ¬ (65 : Int) ≤ (c : Int) := by omega
                  have e3 : ¬ (97 : Int) ≤ (c : Int) := by omega
                  have e5 : (48 : Int) ≤ (c : Int) := by omega
                  have e6 : (c : Int) ≤ 57 := by omega
                  clear q1 q2
                  go_enter Tryd.func31, Tryd.ntmps31
                  go_wp2_with fail
                  go_ret
                  exact ⟨by rw [HF.out]; rfl, rfl⟩
              · have HF : Hid (V = othL.contains c) := Lib.hid (by
                  rw [HD.out]; unfold prB
                  have : ((decide (65 ≤ c) && decide (c ≤ 90)) || (decide (97 ≤ c) && decide (c ≤ 122)) || (decide (48 ≤ c) && decide (c ≤ 57))) = false := by
                    rw [Bool.or_eq_false_iff, Bool.or_eq_false_iff, Bool.and_eq_false_iff, Bool.and_eq_false_iff, Bool.and_eq_false_iff]
                    simp only [decide_eq_false_iff_not]
                    omega
                  rw [this, Bool.false_or])
                clear HD
                have hseg : (¬ (65 : Int) ≤ (c : Int) ∧ ¬ (97 : Int) ≤ (c : Int) ∧ ¬ (48 : Int) ≤ (c : Int)) ∨ (¬ (65 : Int) ≤ (c : Int) ∧ ¬ (97 : Int) ≤ (c : Int) ∧ (48 : Int) ≤ (c : Int) ∧ ¬ (c : Int) ≤ 57) ∨ ((65 : Int) ≤ (c : Int) ∧ ¬ (c : Int) ≤ 90 ∧ ¬ (97 : Int) ≤ (c : Int) ∧ (48 : Int) ≤ (c : Int) ∧ ¬ (c : Int) ≤ 57) ∨ ((65 : Int) ≤ (c : Int) ∧ ¬ (c : Int) ≤ 90 ∧ (97 : Int) ≤ (c : Int) ∧ ¬ (c : Int) ≤ 122 ∧ (48 : Int) ≤ (c : Int) ∧ ¬ (c : Int) ≤ 57) := by omega
                clear hin
                have LOOP : Hid (∀ q, othL.getD q 0 = c → q < 12 → V = true) := Lib.hid (fun q h hq => by
                  rw [HF.out, List.contains_iff_mem, ← h, List.getD_eq_getElem?_getD, List.getElem?_eq_getElem (show q < othL.length from hq)]
                  exact List.getElem_mem _)
                have LEND : Hid ((∀ q, q < 12 → othL.getD q 0 ≠ c) → V = false) := Lib.hid (fun h => by
                  rw [HF.out]
                  cases hh : othL.contains c with
                  | false => rfl
                  | true =>
                    rw [List.contains_iff_mem] at hh
                    obtain ⟨q, hq, e⟩ := List.getElem_of_mem hh
                    exact absurd (by rw [List.getD_eq_getElem?_getD, List.getElem?_eq_getElem hq, ← e]; rfl) (h q hq))
                rcases hseg with ⟨e1, e2, e3⟩ | ⟨e1, e2, e3, e4⟩ | ⟨e1, e2, e3, e4, e5⟩ | ⟨e1, e2, e3, e4, e5, e6⟩
                all_goals
                  go_enter Tryd.func31, Tryd.ntmps31
                  go_upto_region 16 with fail
                  clear h1 h2 h3 e1 e2 e3
                  go_loopw [6] (fun i wr => ∃ p : Nat, p ≤ 12 ∧ i = .int .i64 (p : Int) ∧ (∀ q, q < p → othL.getD q 0 ≠ c) ∧ w = wr) (fun i _ => 12 - (intOf i).toNat)
                  case atStart => exact ⟨0, Nat.zero_le _, rfl, fun q h => by omega, rfl⟩
                  case round =>
                    obtain ⟨p, hp, rfl, hall, rfl⟩ := hrel
                    have HALL := Lib.hid hall
                    clear hall
                    obtain ⟨S, hS⟩ : ∃ S, (S12 : ByteArray) = S := ⟨_, rfl⟩
                    have hsz : S.size = 12 := by rw [← hS]; rfl
                    have hgl : ∀ q : Nat, q < 12 → ∀ W, (Instr.index 9 (.string S) (.int .i64 (q : Int))).run Tryd.prog W = .ok (.int .u8 (othL.getD q 0 : Int)) W := fun q hq W => by rw [← hS]; exact at12v q hq W
                    have HGL := Lib.hid hgl
                    unfold S12 at hS
                    rw [hS]
                    clear hgl hS
                    rcases Nat.lt_or_ge p 12 with hlt | hge
                    · have hg := HGL.out p hlt
                      have hy8 := oth_lt hlt
                      obtain ⟨y, hy⟩ : ∃ y, othL.getD p 0 = y := ⟨_, rfl⟩
                      rw [hy] at hg hy8
                      have HY := Lib.hid hy
                      clear hy
                      by_cases hyc : y = c
                      · have HE : Hid (V = true) := Lib.hid (LOOP.out p (by rw [HY.out]; exact hyc) hlt)
                        have hyb : ((y : Int) == (c : Int)) = true := by rw [beq_iff_eq, hyc]
                        clear hyc
                        go_wp2_with fail
                        go_ret
                        exact ⟨by rw [HE.out]; rfl, rfl⟩
                      · have hyb : ((y : Int) == (c : Int)) = false := by rw [beq_eq_false_iff_ne]; omega
                        have HNX : Hid (∀ q, q < p + 1 → othL.getD q 0 ≠ c) := Lib.hid (fun q hq => by
                          rcases Nat.lt_or_ge q p with h | h
                          · exact HALL.out q h
                          · obtain rfl : q = p := by omega
                            rw [HY.out]; exact hyc)
                        clear hyc
                        go_wp2_with fail
                        exact ⟨⟨p + 1, by omega, by go_num, HNX.out, by first | rfl | trivial⟩, by simp [intOf]; omega⟩
                    · obtain rfl : p = 12 := by omega
                      have HE : Hid (V = false) := Lib.hid (LEND.out HALL.out)
                      go_wp2_with fail
                      go_ret
                      exact ⟨by rw [HE.out]; rfl, rfl⟩
end Go.Proofs.YthefnfjhnallfaaDoor.Chs
