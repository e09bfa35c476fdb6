/-
  The reference of layer 6: contracts of Check and Any; package oids: Any, IsAny.
  Conditions: the OID's cells are in their kinds.
-/
import Derived.Test.YtndamidmgglneaaDoorOidA
namespace Go.Proofs.YtndamidmgglneaaDoor
open Go.RowKit

theorem fst2_ab (a b : Nat) (m : List Nat) : fst2 (a :: b :: m) = true ↔ (a < 2 ∧ b < 40) ∨ (a = 2 ∧ b ≤ 4294967215) := by
  simp only [fst2, Bool.and_eq_true, decide_eq_true_eq]
  split <;> omega
theorem chkO_bad {n : Nat} {l : List Nat} (h : fst2 l = false) : chkO n l = 1 := if_neg (by simp [h])

set_option maxRecDepth 100000 in
set_option maxHeartbeats 1000000 in
theorem rcheck_any (n : Nat) (l : List Nat) (w : World) (ho : OkO n l) : Calls Tryd.prog 19 #[oV n l] w (GiveF w (chkO n l)) := by
  obtain ⟨h8, hl, h32⟩ := ho
  have S := Bk.new w 26 (oc n l)
  have B0 := Lib.hid (bel1 w (.cells (oc n l).toArray 26))
  have h1 := oid_n S
  by_cases hn : n < 2 ∨ 16 < n
  · rw [show chkO n l = 1 from if_neg (by omega)]
    rcases hn with hn | hn
    · go_enter Tryd.func19, Tryd.ntmps19
      go_wp2
      go_ret
      exact ⟨rfl, B0.out⟩
    · go_enter Tryd.func19, Tryd.ntmps19
      go_wp2
      go_ret
      exact ⟨rfl, B0.out⟩
  · obtain ⟨a, b, m, hlm⟩ : ∃ a b m, l = a :: b :: m := by
      match l, hl with
      | a :: b :: m, _ => exact ⟨a, b, m, rfl⟩
    have ha := h32 a (by simp [hlm])
    have hb := h32 b (by simp [hlm])
    have c0 := oid_a S (i := 0) (by omega)
    have c1 := oid_a S (i := 1) (by omega)
    have e0 : l[0] = a := by simp [hlm]
    have e1 : l[1] = b := by simp [hlm]
    rw [e0] at c0
    rw [e1] at c1
    have hn1 : 2 ≤ n := by omega
    have hn2 : n ≤ 16 := by omega
    have HL := Lib.hid hl
    have HF := Lib.hid (hlm ▸ fst2_ab a b m : fst2 l = true ↔ _)
    clear hn e0 e1 hlm
    go_enter Tryd.func19, Tryd.ntmps19
    go_wp2
    generalize w.alloc (.cells (oc n l).toArray 26) = wx at *
    go_loop [3] (fun i => ∃ j : Nat, n ≤ j ∧ j ≤ 16 ∧ i = .int .i64 (j : Int) ∧ tl0 n l = tl0 j l) (fun i => 16 - (intOf i).toNat)
    case atStart => exact ⟨n, by omega, hn2, rfl, rfl⟩
    case round =>
      obtain ⟨j, hjn, hj, rfl, ht⟩ := hrel
      have HT := Lib.hid ht
      clear ht
      rcases Nat.lt_or_ge j 16 with hj2 | hj2
      · have hc := oid_a' S (i := j) (by rw [HL.out]; exact hj2)
        have hx := h32 l[j] (List.getElem_mem _)
        have HC := Lib.hid (tl0_cons (n := j) (l := l) (by rw [HL.out]; exact hj2))
        generalize l[j]'(by rw [HL.out]; exact hj2) = x at *
        clear hl
        by_cases hx0 : x = 0
        · subst hx0
          go_wp2
          go_round
          case rel => exact ⟨j + 1, by omega, by omega, by go_num, by rw [HT.out, HC.out]; rfl⟩
          case measure => simp [intOf]; omega
        · have hb : ((x : Int) != 0) = true := by rw [bne_iff_ne]; omega
          have HE : Hid (chkO n l = 1) := Lib.hid (if_neg (by rw [HT.out, HC.out]; simp [hx0]))
          clear hx0
          go_wp2
          go_ret
          rw [HE.out]
          exact ⟨rfl, B0.out⟩
      · obtain rfl : j = 16 := by omega
        have HT2 : Hid (tl0 n l = true) := Lib.hid (by rw [HT.out, tl0_end (by omega)])
        clear hl
        by_cases hg : (a < 2 ∧ b < 40) ∨ (a = 2 ∧ b ≤ 4294967215)
        · have HE : Hid (chkO n l = 0) := Lib.hid (if_pos ⟨hn1, hn2, HF.out.2 hg, HT2.out⟩)
          rcases hg with ⟨g1, g2⟩ | ⟨rfl, g2⟩
          · go_wp2
            go_ret
            rw [HE.out]
            exact ⟨rfl, B0.out⟩
          · go_wp2
            go_ret
            rw [HE.out]
            exact ⟨rfl, B0.out⟩
        · have HE : Hid (chkO n l = 1) := Lib.hid (chkO_bad (by rw [← Bool.not_eq_true, HF.out]; exact hg))
          by_cases ga : a < 2
          · have gb : 40 ≤ b := by omega
            clear hg
            go_wp2
            go_ret
            rw [HE.out]
            exact ⟨rfl, B0.out⟩
          · by_cases ga2 : a = 2
            · subst ga2
              have gb : 4294967215 < b := by omega
              clear hg
              go_wp2
              go_ret
              rw [HE.out]
              exact ⟨rfl, B0.out⟩
            · have ga3 : ((a : Int) == 2) = false := by rw [beq_eq_false_iff_ne]; omega
              clear hg ga2
              go_wp2
              go_ret
              rw [HE.out]
              exact ⟨rfl, B0.out⟩

/-- anyPolicy's arcs. -/
def anyL : List Nat := [2, 5, 29, 32, 0, 0, 0, 0, 0, 0, 0, 0, 0, 0, 0, 0]
def zeroL : List Nat := List.replicate 16 0
def GiveO (w : World) (n : Nat) (l : List Nat) (e : Ending) (w' : World) : Prop := e = .returned (oV n l) ∧ Below w.heap.size w w'
theorem zero25 : ∀ w : World, (zeroValue 26).run Tryd.prog w = .ok (oV 0 zeroL) w := fun _ => by kernel_rfl
end Go.Proofs.YtndamidmgglneaaDoor
