/-
  The statement NatsField: Add and Mul are commutative and associative, Mul distributes over Add where no result is too large, Sub inverts Add; the examples of the chapter hold.
  Conditions: none.
-/
import Derived.Test.YtenbknmpkdidoaaLives
import Derived.Test.YtenbknmpkdidoaaRow
import Derived.Test.YtenbknmpkdidoaaRows
import Derived.RegionTactic
namespace Go.Proofs.Ytenbknmpkdidoaa
open Go.RowKit

section
variable (A B : Option Addr) (a b : List Nat) (c d x y : Nat) (w : World) (ha : Nat64 a ∧ val a = x) (hb : Nat64 b ∧ val b = y) (hA : Rb w A a) (hB : Rb w B b)
include ha hb hA hB
theorem add64 : Calls Try.prog 16 #[.slice A a.length c, .slice B b.length d] w (GiveD w (limD (x + y)) (limE (x + y))) := by
  have h := add_any A B a b c d w (by have := ha.1.2.2; unfold maxLen; omega) (by have := hb.1.2.2; unfold maxLen; omega) hA hB
  have hE : bothE a b = 0 := by unfold bothE; rw [checkE_of ha.1, checkE_of hb.1]; rfl
  rw [show addL a b = limD (val a + val b) from if_pos hE, show addE a b = limE (val a + val b) from if_pos hE, ha.2, hb.2] at h
  exact h
theorem mul64 : Calls Try.prog 18 #[.slice A a.length c, .slice B b.length d] w (GiveD w (limD (x * y)) (limE (x * y))) := by
  have h := mul_any A B a b c d w (by have := ha.1.2.2; unfold maxLen; omega) (by have := hb.1.2.2; unfold maxLen; omega) hA hB
  rw [(mulL_of ha.1 hb.1).1, (mulL_of ha.1 hb.1).2, ha.2, hb.2] at h
  exact h
theorem sub64 (hac : a.length ≤ c) (hbd : b.length ≤ d) (hc : c ≤ maxLen) (hd : d ≤ maxLen) (hxy : y ≤ x) : Calls Try.prog 17 #[.slice A a.length c, .slice B b.length d] w (GiveD w (dig (x - y)) 0) := by
  have h := sub_any A B a b c d w hac hbd hc hd hA hB
  have hE : bothE a b = 0 := by unfold bothE; rw [checkE_of ha.1, checkE_of hb.1]; rfl
  have hs : subE a b = 0 := by unfold subE; rw [hE, if_pos rfl, if_neg (by rw [ha.2, hb.2]; omega)]
  rw [hs, if_pos rfl, ha.2, hb.2] at h
  exact h
end
theorem lim_ok {v : Nat} {D : List Nat} (h : limD v = D) (hv : v < 256 ^ 64) : Nat64 D ∧ val D = v := by rw [← h, limD_lt hv]; exact ⟨Nat64.of _ hv, val_dig _⟩
/-- The first orders' end serves the others. -/
theorem via3 {F G : World → Option Addr → Nat → Option Addr → Nat → Option Addr → Nat → Prop} {goal : Prop} (k : Hid (∀ w a b c d e f, F w a b c d e f → G w a b c d e f) → goal) (h : ∀ w a b c d e f, F w a b c d e f → G w a b c d e f) : goal := k h

set_option maxHeartbeats 40000000 in
set_option maxRecDepth 100000 in
theorem field_walk (A B C : Option Addr) (a b l : List Nat) (c d f : Nat) (w : World) (hA : Rb w A a) (hB : Rb w B b) (hC : Rb w C l) (hac : a.length ≤ c) (hbd : b.length ≤ d) (hlf : l.length ≤ f) (hc : c ≤ maxLen) (hd : d ≤ maxLen) (hf : f ≤ maxLen) :
    Calls Try.prog 6 #[.agg #[.slice A a.length c], .agg #[.slice B b.length d], .agg #[.slice C l.length f]] w fun e w' => e = .returned (.bool true) ∧ Below w.heap.size w w' := by
  have b0 : Hid (Below w.heap.size w ((((w.alloc (Obj.cells #[Value.slice A a.length c] 40)).alloc (Obj.cells #[Value.slice B b.length d] 40)).alloc (Obj.cells #[Value.slice C l.length f] 40)).drew)) := ((((Below.refl _ _).alloc (Nat.le_refl _) _).alloc (by simp) _).alloc (by simp; omega) _).drew
  have CA := Lib.hid (fun (W : World) (h : Below w.heap.size w W) => nof_any A a c W hac hc (hA.below h))
  have CB := Lib.hid (fun (W : World) (h : Below w.heap.size w W) => nof_any B b d W hbd hd (hB.below h))
  have CC := Lib.hid (fun (W : World) (h : Below w.heap.size w W) => nof_any C l f W hlf hf (hC.below h))
  have hn := numL_ok hA.2
  have hm := numL_ok hB.2
  have hp := numL_ok hC.2
  generalize numL a = n at CA hn
  generalize numL b = m at CB hm
  generalize numL l = p at CC hp
  obtain ⟨u, hu⟩ : ∃ u, val n = u := ⟨_, rfl⟩
  obtain ⟨v, hv⟩ : ∃ v, val m = v := ⟨_, rfl⟩
  obtain ⟨z, hz⟩ : ∃ z, val p = z := ⟨_, rfl⟩
  have FN := Lib.hid (And.intro hn hu)
  have FM := Lib.hid (And.intro hm hv)
  have FP := Lib.hid (And.intro hp hz)
  have hW1 : ((((w.alloc (Obj.cells #[Value.slice A a.length c] 40)).alloc (Obj.cells #[Value.slice B b.length d] 40)).alloc (Obj.cells #[Value.slice C l.length f] 40)).drew).cell? ⟨w.heap.size + 1, 0, none⟩ = some (.slice B b.length d) := by go_simp
  have hW2 : ((((w.alloc (Obj.cells #[Value.slice A a.length c] 40)).alloc (Obj.cells #[Value.slice B b.length d] 40)).alloc (Obj.cells #[Value.slice C l.length f] 40)).drew).cell? ⟨w.heap.size + 1 + 1, 0, none⟩ = some (.slice C l.length f) := by go_simp
  have HW1 := Lib.hid hW1
  have HW2 := Lib.hid hW2
  clear hA hB hC hac hbd hlf hc hd hf hn hm hp hu hv hz hW1 hW2
  go_enter Try.func6, Try.ntmps6
  go_wp2_with fail
  apply via3 (F := fun w3 A1 c1 A2 c2 A3 c3 => (Rb w3 A1 n ∧ n.length ≤ c1 ∧ c1 ≤ maxLen) ∧ (Rb w3 A2 m ∧ m.length ≤ c2 ∧ c2 ≤ maxLen) ∧ (Rb w3 A3 p ∧ p.length ≤ c3 ∧ c3 ≤ maxLen) ∧ Below w.heap.size w w3)
  · intro REST
    refine wp_region_any (by kernel_rfl) ?_
    change wpAny _ _ _ _ _ _ _ (World.drew _)
    refine wpAny_ready (rs := [0, 2, 4]) (by kernel_rfl) (by simp) ?_
    refine AllReady.cons rfl (fun K hK => ?_) (AllReady.cons rfl (fun K hK => ?_) (AllReady.cons rfl (fun K hK => ?_) (AllReady.nil)))
    · go_simp
      refine hK _ _ ?_
      clear hK K
      refine wpAny_ready (rs := [1, 2, 4]) (by kernel_rfl) (by simp) ?_
      refine AllReady.cons rfl (fun K hK => ?_) (AllReady.cons rfl (fun K hK => ?_) (AllReady.cons rfl (fun K hK => ?_) (AllReady.nil)))
      · go_simp
        refine (CA.out _ b0.out).mono ?_
        rintro e w1 ⟨A1, c1, rfl, r1, h11, h12, hb⟩
        have hcell : w1.cell? ⟨w.heap.size + 1, 0, none⟩ = some (.slice B b.length d) := (hb.cell (by simp)).trans HW1.out
        have hcel2 : w1.cell? ⟨w.heap.size + 1 + 1, 0, none⟩ = some (.slice C l.length f) := (hb.cell (by simp)).trans HW2.out
        have B1 := bt b0 (Lib.hid hb)
        have R1 := Lib.hid r1
        have H1 := Lib.hid (And.intro h11 h12)
        have HC2 : Hid (w.heap.size + 1 + 1 < w1.heap.size) := Nat.lt_of_lt_of_le (by simp) hb.size
        clear hb r1 h11 h12
        refine hK _ _ ?_
        clear hK K
        refine wpAny_ready (rs := [2, 4]) (by kernel_rfl) (by simp) ?_
        refine AllReady.cons rfl (fun K hK => ?_) (AllReady.cons rfl (fun K hK => ?_) (AllReady.nil))
        · go_simp
          refine hK _ _ ?_
          clear hK K
          refine wpAny_ready (rs := [3, 4]) (by kernel_rfl) (by simp) ?_
          refine AllReady.cons rfl (fun K hK => ?_) (AllReady.cons rfl (fun K hK => ?_) (AllReady.nil))
          · go_simp
            refine (CB.out _ B1.out).mono ?_
            rintro e w2 ⟨A2, c2, rfl, r2, h21, h22, hb⟩
            have hcel3 : w2.cell? ⟨w.heap.size + 1 + 1, 0, none⟩ = some (.slice C l.length f) := (hb.cell HC2.out).trans hcel2
            have B2 := bt B1 (Lib.hid hb)
            have R12 := Lib.hid (R1.out.below hb)
            have R2 := Lib.hid r2
            have H2 := Lib.hid (And.intro h21 h22)
            clear hb r2 h21 h22 hcel2 hcell
            refine hK _ _ ?_
            clear hK K
            refine wpAny_ready (rs := [4]) (by kernel_rfl) (by simp) ?_
            refine AllReady.cons rfl (fun K hK => ?_) (AllReady.nil)
            go_simp
            refine hK _ _ ?_
            clear hK K
            refine wpAny_ready (rs := [5]) (by kernel_rfl) (by simp) ?_
            refine AllReady.cons rfl (fun K hK => ?_) (AllReady.nil)
            go_simp
            refine (CC.out _ B2.out).mono ?_
            rintro e w3 ⟨A3, c3, rfl, r3, h31, h32, hb⟩
            have B3 := bt B2 (Lib.hid hb)
            have FACT := Lib.hid (And.intro (And.intro (R12.out.below hb) H1.out) (And.intro (And.intro (R2.out.below hb) H2.out) (And.intro (And.intro r3 (And.intro h31 h32)) B3.out)))
            clear hb r3 h31 h32 hcel3
            refine hK _ _ ?_
            clear hK K
            refine wpAny_ready (rs := [6]) (by kernel_rfl) (by simp) ?_
            refine AllReady.cons rfl (fun K hK => ?_) (AllReady.nil)
            go_simp
            refine hK _ _ ?_
            clear hK K
            refine wpAny_ready (rs := [7]) (by kernel_rfl) (by simp) ?_
            refine AllReady.cons rfl (fun K hK => ?_) (AllReady.nil)
            go_simp
            refine hK _ _ ?_
            clear hK K
            refine wpAny_ready (rs := [8]) (by kernel_rfl) (by simp) ?_
            refine AllReady.cons rfl (fun K hK => ?_) (AllReady.nil)
            go_simp
            refine hK _ _ ?_
            clear hK K
            refine wpAny_done (by kernel_rfl) ?_ _
            exact REST.out w3 A1 c1 A2 c2 A3 c3 FACT.out
          · go_simp
            refine hK _ _ ?_
            clear hK K
            refine wpAny_ready (rs := [3]) (by kernel_rfl) (by simp) ?_
            refine AllReady.cons rfl (fun K hK => ?_) (AllReady.nil)
            go_simp
            refine (CB.out _ B1.out).mono ?_
            rintro e w2 ⟨A2, c2, rfl, r2, h21, h22, hb⟩
            have hcel3 : w2.cell? ⟨w.heap.size + 1 + 1, 0, none⟩ = some (.slice C l.length f) := (hb.cell HC2.out).trans hcel2
            have B2 := bt B1 (Lib.hid hb)
            have R12 := Lib.hid (R1.out.below hb)
            have R2 := Lib.hid r2
            have H2 := Lib.hid (And.intro h21 h22)
            clear hb r2 h21 h22 hcel2 hcell
            refine hK _ _ ?_
            clear hK K
            refine wpAny_ready (rs := [5]) (by kernel_rfl) (by simp) ?_
            refine AllReady.cons rfl (fun K hK => ?_) (AllReady.nil)
            go_simp
            refine (CC.out _ B2.out).mono ?_
            rintro e w3 ⟨A3, c3, rfl, r3, h31, h32, hb⟩
            have B3 := bt B2 (Lib.hid hb)
            have FACT := Lib.hid (And.intro (And.intro (R12.out.below hb) H1.out) (And.intro (And.intro (R2.out.below hb) H2.out) (And.intro (And.intro r3 (And.intro h31 h32)) B3.out)))
            clear hb r3 h31 h32 hcel3
            refine hK _ _ ?_
            clear hK K
            refine wpAny_ready (rs := [6]) (by kernel_rfl) (by simp) ?_
            refine AllReady.cons rfl (fun K hK => ?_) (AllReady.nil)
            go_simp
            refine hK _ _ ?_
            clear hK K
            refine wpAny_ready (rs := [7]) (by kernel_rfl) (by simp) ?_
            refine AllReady.cons rfl (fun K hK => ?_) (AllReady.nil)
            go_simp
            refine hK _ _ ?_
            clear hK K
            refine wpAny_ready (rs := [8]) (by kernel_rfl) (by simp) ?_
            refine AllReady.cons rfl (fun K hK => ?_) (AllReady.nil)
            go_simp
            refine hK _ _ ?_
            clear hK K
            refine wpAny_done (by kernel_rfl) ?_ _
            exact REST.out w3 A1 c1 A2 c2 A3 c3 FACT.out
        · go_simp
          refine hK _ _ ?_
          clear hK K
          refine wpAny_ready (rs := [2]) (by kernel_rfl) (by simp) ?_
          refine AllReady.cons rfl (fun K hK => ?_) (AllReady.nil)
          go_simp
          refine hK _ _ ?_
          clear hK K
          refine wpAny_ready (rs := [3]) (by kernel_rfl) (by simp) ?_
          refine AllReady.cons rfl (fun K hK => ?_) (AllReady.nil)
          go_simp
          refine (CB.out _ B1.out).mono ?_
          rintro e w2 ⟨A2, c2, rfl, r2, h21, h22, hb⟩
          have hcel3 : w2.cell? ⟨w.heap.size + 1 + 1, 0, none⟩ = some (.slice C l.length f) := (hb.cell HC2.out).trans hcel2
          have B2 := bt B1 (Lib.hid hb)
          have R12 := Lib.hid (R1.out.below hb)
          have R2 := Lib.hid r2
          have H2 := Lib.hid (And.intro h21 h22)
          clear hb r2 h21 h22 hcel2 hcell
          refine hK _ _ ?_
          clear hK K
          refine wpAny_ready (rs := [5]) (by kernel_rfl) (by simp) ?_
          refine AllReady.cons rfl (fun K hK => ?_) (AllReady.nil)
          go_simp
          refine (CC.out _ B2.out).mono ?_
          rintro e w3 ⟨A3, c3, rfl, r3, h31, h32, hb⟩
          have B3 := bt B2 (Lib.hid hb)
          have FACT := Lib.hid (And.intro (And.intro (R12.out.below hb) H1.out) (And.intro (And.intro (R2.out.below hb) H2.out) (And.intro (And.intro r3 (And.intro h31 h32)) B3.out)))
          clear hb r3 h31 h32 hcel3
          refine hK _ _ ?_
          clear hK K
          refine wpAny_ready (rs := [6]) (by kernel_rfl) (by simp) ?_
          refine AllReady.cons rfl (fun K hK => ?_) (AllReady.nil)
          go_simp
          refine hK _ _ ?_
          clear hK K
          refine wpAny_ready (rs := [7]) (by kernel_rfl) (by simp) ?_
          refine AllReady.cons rfl (fun K hK => ?_) (AllReady.nil)
          go_simp
          refine hK _ _ ?_
          clear hK K
          refine wpAny_ready (rs := [8]) (by kernel_rfl) (by simp) ?_
          refine AllReady.cons rfl (fun K hK => ?_) (AllReady.nil)
          go_simp
          refine hK _ _ ?_
          clear hK K
          refine wpAny_done (by kernel_rfl) ?_ _
          exact REST.out w3 A1 c1 A2 c2 A3 c3 FACT.out
      · go_simp
        refine hK _ _ ?_
        clear hK K
        refine wpAny_ready (rs := [1, 4]) (by kernel_rfl) (by simp) ?_
        refine AllReady.cons rfl (fun K hK => ?_) (AllReady.cons rfl (fun K hK => ?_) (AllReady.nil))
        · go_simp
          refine (CA.out _ b0.out).mono ?_
          rintro e w1 ⟨A1, c1, rfl, r1, h11, h12, hb⟩
          have hcell : w1.cell? ⟨w.heap.size + 1, 0, none⟩ = some (.slice B b.length d) := (hb.cell (by simp)).trans HW1.out
          have hcel2 : w1.cell? ⟨w.heap.size + 1 + 1, 0, none⟩ = some (.slice C l.length f) := (hb.cell (by simp)).trans HW2.out
          have B1 := bt b0 (Lib.hid hb)
          have R1 := Lib.hid r1
          have H1 := Lib.hid (And.intro h11 h12)
          have HC2 : Hid (w.heap.size + 1 + 1 < w1.heap.size) := Nat.lt_of_lt_of_le (by simp) hb.size
          clear hb r1 h11 h12
          refine hK _ _ ?_
          clear hK K
          refine wpAny_ready (rs := [3, 4]) (by kernel_rfl) (by simp) ?_
          refine AllReady.cons rfl (fun K hK => ?_) (AllReady.cons rfl (fun K hK => ?_) (AllReady.nil))
          · go_simp
            refine (CB.out _ B1.out).mono ?_
            rintro e w2 ⟨A2, c2, rfl, r2, h21, h22, hb⟩
            have hcel3 : w2.cell? ⟨w.heap.size + 1 + 1, 0, none⟩ = some (.slice C l.length f) := (hb.cell HC2.out).trans hcel2
            have B2 := bt B1 (Lib.hid hb)
            have R12 := Lib.hid (R1.out.below hb)
            have R2 := Lib.hid r2
            have H2 := Lib.hid (And.intro h21 h22)
            clear hb r2 h21 h22 hcel2 hcell
            refine hK _ _ ?_
            clear hK K
            refine wpAny_ready (rs := [4]) (by kernel_rfl) (by simp) ?_
            refine AllReady.cons rfl (fun K hK => ?_) (AllReady.nil)
            go_simp
            refine hK _ _ ?_
            clear hK K
            refine wpAny_ready (rs := [5]) (by kernel_rfl) (by simp) ?_
            refine AllReady.cons rfl (fun K hK => ?_) (AllReady.nil)
            go_simp
            refine (CC.out _ B2.out).mono ?_
            rintro e w3 ⟨A3, c3, rfl, r3, h31, h32, hb⟩
            have B3 := bt B2 (Lib.hid hb)
            have FACT := Lib.hid (And.intro (And.intro (R12.out.below hb) H1.out) (And.intro (And.intro (R2.out.below hb) H2.out) (And.intro (And.intro r3 (And.intro h31 h32)) B3.out)))
            clear hb r3 h31 h32 hcel3
            refine hK _ _ ?_
            clear hK K
            refine wpAny_ready (rs := [6]) (by kernel_rfl) (by simp) ?_
            refine AllReady.cons rfl (fun K hK => ?_) (AllReady.nil)
            go_simp
            refine hK _ _ ?_
            clear hK K
            refine wpAny_ready (rs := [7]) (by kernel_rfl) (by simp) ?_
            refine AllReady.cons rfl (fun K hK => ?_) (AllReady.nil)
            go_simp
            refine hK _ _ ?_
            clear hK K
            refine wpAny_ready (rs := [8]) (by kernel_rfl) (by simp) ?_
            refine AllReady.cons rfl (fun K hK => ?_) (AllReady.nil)
            go_simp
            refine hK _ _ ?_
            clear hK K
            refine wpAny_done (by kernel_rfl) ?_ _
            exact REST.out w3 A1 c1 A2 c2 A3 c3 FACT.out
          · go_simp
            refine hK _ _ ?_
            clear hK K
            refine wpAny_ready (rs := [3]) (by kernel_rfl) (by simp) ?_
            refine AllReady.cons rfl (fun K hK => ?_) (AllReady.nil)
            go_simp
            refine (CB.out _ B1.out).mono ?_
            rintro e w2 ⟨A2, c2, rfl, r2, h21, h22, hb⟩
            have hcel3 : w2.cell? ⟨w.heap.size + 1 + 1, 0, none⟩ = some (.slice C l.length f) := (hb.cell HC2.out).trans hcel2
            have B2 := bt B1 (Lib.hid hb)
            have R12 := Lib.hid (R1.out.below hb)
            have R2 := Lib.hid r2
            have H2 := Lib.hid (And.intro h21 h22)
            clear hb r2 h21 h22 hcel2 hcell
            refine hK _ _ ?_
            clear hK K
            refine wpAny_ready (rs := [5]) (by kernel_rfl) (by simp) ?_
            refine AllReady.cons rfl (fun K hK => ?_) (AllReady.nil)
            go_simp
            refine (CC.out _ B2.out).mono ?_
            rintro e w3 ⟨A3, c3, rfl, r3, h31, h32, hb⟩
            have B3 := bt B2 (Lib.hid hb)
            have FACT := Lib.hid (And.intro (And.intro (R12.out.below hb) H1.out) (And.intro (And.intro (R2.out.below hb) H2.out) (And.intro (And.intro r3 (And.intro h31 h32)) B3.out)))
            clear hb r3 h31 h32 hcel3
            refine hK _ _ ?_
            clear hK K
            refine wpAny_ready (rs := [6]) (by kernel_rfl) (by simp) ?_
            refine AllReady.cons rfl (fun K hK => ?_) (AllReady.nil)
            go_simp
            refine hK _ _ ?_
            clear hK K
            refine wpAny_ready (rs := [7]) (by kernel_rfl) (by simp) ?_
            refine AllReady.cons rfl (fun K hK => ?_) (AllReady.nil)
            go_simp
            refine hK _ _ ?_
            clear hK K
            refine wpAny_ready (rs := [8]) (by kernel_rfl) (by simp) ?_
            refine AllReady.cons rfl (fun K hK => ?_) (AllReady.nil)
            go_simp
            refine hK _ _ ?_
            clear hK K
            refine wpAny_done (by kernel_rfl) ?_ _
            exact REST.out w3 A1 c1 A2 c2 A3 c3 FACT.out
        · go_simp
          refine hK _ _ ?_
          clear hK K
          refine wpAny_ready (rs := [1]) (by kernel_rfl) (by simp) ?_
          refine AllReady.cons rfl (fun K hK => ?_) (AllReady.nil)
          go_simp
          refine (CA.out _ b0.out).mono ?_
          rintro e w1 ⟨A1, c1, rfl, r1, h11, h12, hb⟩
          have hcell : w1.cell? ⟨w.heap.size + 1, 0, none⟩ = some (.slice B b.length d) := (hb.cell (by simp)).trans HW1.out
          have hcel2 : w1.cell? ⟨w.heap.size + 1 + 1, 0, none⟩ = some (.slice C l.length f) := (hb.cell (by simp)).trans HW2.out
          have B1 := bt b0 (Lib.hid hb)
          have R1 := Lib.hid r1
          have H1 := Lib.hid (And.intro h11 h12)
          have HC2 : Hid (w.heap.size + 1 + 1 < w1.heap.size) := Nat.lt_of_lt_of_le (by simp) hb.size
          clear hb r1 h11 h12
          refine hK _ _ ?_
          clear hK K
          refine wpAny_ready (rs := [3]) (by kernel_rfl) (by simp) ?_
          refine AllReady.cons rfl (fun K hK => ?_) (AllReady.nil)
          go_simp
          refine (CB.out _ B1.out).mono ?_
          rintro e w2 ⟨A2, c2, rfl, r2, h21, h22, hb⟩
          have hcel3 : w2.cell? ⟨w.heap.size + 1 + 1, 0, none⟩ = some (.slice C l.length f) := (hb.cell HC2.out).trans hcel2
          have B2 := bt B1 (Lib.hid hb)
          have R12 := Lib.hid (R1.out.below hb)
          have R2 := Lib.hid r2
          have H2 := Lib.hid (And.intro h21 h22)
          clear hb r2 h21 h22 hcel2 hcell
          refine hK _ _ ?_
          clear hK K
          refine wpAny_ready (rs := [5]) (by kernel_rfl) (by simp) ?_
          refine AllReady.cons rfl (fun K hK => ?_) (AllReady.nil)
          go_simp
          refine (CC.out _ B2.out).mono ?_
          rintro e w3 ⟨A3, c3, rfl, r3, h31, h32, hb⟩
          have B3 := bt B2 (Lib.hid hb)
          have FACT := Lib.hid (And.intro (And.intro (R12.out.below hb) H1.out) (And.intro (And.intro (R2.out.below hb) H2.out) (And.intro (And.intro r3 (And.intro h31 h32)) B3.out)))
          clear hb r3 h31 h32 hcel3
          refine hK _ _ ?_
          clear hK K
          refine wpAny_ready (rs := [6]) (by kernel_rfl) (by simp) ?_
          refine AllReady.cons rfl (fun K hK => ?_) (AllReady.nil)
          go_simp
          refine hK _ _ ?_
          clear hK K
          refine wpAny_ready (rs := [7]) (by kernel_rfl) (by simp) ?_
          refine AllReady.cons rfl (fun K hK => ?_) (AllReady.nil)
          go_simp
          refine hK _ _ ?_
          clear hK K
          refine wpAny_ready (rs := [8]) (by kernel_rfl) (by simp) ?_
          refine AllReady.cons rfl (fun K hK => ?_) (AllReady.nil)
          go_simp
          refine hK _ _ ?_
          clear hK K
          refine wpAny_done (by kernel_rfl) ?_ _
          exact REST.out w3 A1 c1 A2 c2 A3 c3 FACT.out
      · go_simp
        refine hK _ _ ?_
        clear hK K
        refine wpAny_ready (rs := [1, 2]) (by kernel_rfl) (by simp) ?_
        refine AllReady.cons rfl (fun K hK => ?_) (AllReady.cons rfl (fun K hK => ?_) (AllReady.nil))
        · go_simp
          refine (CA.out _ b0.out).mono ?_
          rintro e w1 ⟨A1, c1, rfl, r1, h11, h12, hb⟩
          have hcell : w1.cell? ⟨w.heap.size + 1, 0, none⟩ = some (.slice B b.length d) := (hb.cell (by simp)).trans HW1.out
          have hcel2 : w1.cell? ⟨w.heap.size + 1 + 1, 0, none⟩ = some (.slice C l.length f) := (hb.cell (by simp)).trans HW2.out
          have B1 := bt b0 (Lib.hid hb)
          have R1 := Lib.hid r1
          have H1 := Lib.hid (And.intro h11 h12)
          have HC2 : Hid (w.heap.size + 1 + 1 < w1.heap.size) := Nat.lt_of_lt_of_le (by simp) hb.size
          clear hb r1 h11 h12
          refine hK _ _ ?_
          clear hK K
          refine wpAny_ready (rs := [2]) (by kernel_rfl) (by simp) ?_
          refine AllReady.cons rfl (fun K hK => ?_) (AllReady.nil)
          go_simp
          refine hK _ _ ?_
          clear hK K
          refine wpAny_ready (rs := [3]) (by kernel_rfl) (by simp) ?_
          refine AllReady.cons rfl (fun K hK => ?_) (AllReady.nil)
          go_simp
          refine (CB.out _ B1.out).mono ?_
          rintro e w2 ⟨A2, c2, rfl, r2, h21, h22, hb⟩
          have hcel3 : w2.cell? ⟨w.heap.size + 1 + 1, 0, none⟩ = some (.slice C l.length f) := (hb.cell HC2.out).trans hcel2
          have B2 := bt B1 (Lib.hid hb)
          have R12 := Lib.hid (R1.out.below hb)
          have R2 := Lib.hid r2
          have H2 := Lib.hid (And.intro h21 h22)
          clear hb r2 h21 h22 hcel2 hcell
          refine hK _ _ ?_
          clear hK K
          refine wpAny_ready (rs := [5]) (by kernel_rfl) (by simp) ?_
          refine AllReady.cons rfl (fun K hK => ?_) (AllReady.nil)
          go_simp
          refine (CC.out _ B2.out).mono ?_
          rintro e w3 ⟨A3, c3, rfl, r3, h31, h32, hb⟩
          have B3 := bt B2 (Lib.hid hb)
          have FACT := Lib.hid (And.intro (And.intro (R12.out.below hb) H1.out) (And.intro (And.intro (R2.out.below hb) H2.out) (And.intro (And.intro r3 (And.intro h31 h32)) B3.out)))
          clear hb r3 h31 h32 hcel3
          refine hK _ _ ?_
          clear hK K
          refine wpAny_ready (rs := [6]) (by kernel_rfl) (by simp) ?_
          refine AllReady.cons rfl (fun K hK => ?_) (AllReady.nil)
          go_simp
          refine hK _ _ ?_
          clear hK K
          refine wpAny_ready (rs := [7]) (by kernel_rfl) (by simp) ?_
          refine AllReady.cons rfl (fun K hK => ?_) (AllReady.nil)
          go_simp
          refine hK _ _ ?_
          clear hK K
          refine wpAny_ready (rs := [8]) (by kernel_rfl) (by simp) ?_
          refine AllReady.cons rfl (fun K hK => ?_) (AllReady.nil)
          go_simp
          refine hK _ _ ?_
          clear hK K
          refine wpAny_done (by kernel_rfl) ?_ _
          exact REST.out w3 A1 c1 A2 c2 A3 c3 FACT.out
        · go_simp
          refine hK _ _ ?_
          clear hK K
          refine wpAny_ready (rs := [1]) (by kernel_rfl) (by simp) ?_
          refine AllReady.cons rfl (fun K hK => ?_) (AllReady.nil)
          go_simp
          refine (CA.out _ b0.out).mono ?_
          rintro e w1 ⟨A1, c1, rfl, r1, h11, h12, hb⟩
          have hcell : w1.cell? ⟨w.heap.size + 1, 0, none⟩ = some (.slice B b.length d) := (hb.cell (by simp)).trans HW1.out
          have hcel2 : w1.cell? ⟨w.heap.size + 1 + 1, 0, none⟩ = some (.slice C l.length f) := (hb.cell (by simp)).trans HW2.out
          have B1 := bt b0 (Lib.hid hb)
          have R1 := Lib.hid r1
          have H1 := Lib.hid (And.intro h11 h12)
          have HC2 : Hid (w.heap.size + 1 + 1 < w1.heap.size) := Nat.lt_of_lt_of_le (by simp) hb.size
          clear hb r1 h11 h12
          refine hK _ _ ?_
          clear hK K
          refine wpAny_ready (rs := [3]) (by kernel_rfl) (by simp) ?_
          refine AllReady.cons rfl (fun K hK => ?_) (AllReady.nil)
          go_simp
          refine (CB.out _ B1.out).mono ?_
          rintro e w2 ⟨A2, c2, rfl, r2, h21, h22, hb⟩
          have hcel3 : w2.cell? ⟨w.heap.size + 1 + 1, 0, none⟩ = some (.slice C l.length f) := (hb.cell HC2.out).trans hcel2
          have B2 := bt B1 (Lib.hid hb)
          have R12 := Lib.hid (R1.out.below hb)
          have R2 := Lib.hid r2
          have H2 := Lib.hid (And.intro h21 h22)
          clear hb r2 h21 h22 hcel2 hcell
          refine hK _ _ ?_
          clear hK K
          refine wpAny_ready (rs := [5]) (by kernel_rfl) (by simp) ?_
          refine AllReady.cons rfl (fun K hK => ?_) (AllReady.nil)
          go_simp
          refine (CC.out _ B2.out).mono ?_
          rintro e w3 ⟨A3, c3, rfl, r3, h31, h32, hb⟩
          have B3 := bt B2 (Lib.hid hb)
          have FACT := Lib.hid (And.intro (And.intro (R12.out.below hb) H1.out) (And.intro (And.intro (R2.out.below hb) H2.out) (And.intro (And.intro r3 (And.intro h31 h32)) B3.out)))
          clear hb r3 h31 h32 hcel3
          refine hK _ _ ?_
          clear hK K
          refine wpAny_ready (rs := [6]) (by kernel_rfl) (by simp) ?_
          refine AllReady.cons rfl (fun K hK => ?_) (AllReady.nil)
          go_simp
          refine hK _ _ ?_
          clear hK K
          refine wpAny_ready (rs := [7]) (by kernel_rfl) (by simp) ?_
          refine AllReady.cons rfl (fun K hK => ?_) (AllReady.nil)
          go_simp
          refine hK _ _ ?_
          clear hK K
          refine wpAny_ready (rs := [8]) (by kernel_rfl) (by simp) ?_
          refine AllReady.cons rfl (fun K hK => ?_) (AllReady.nil)
          go_simp
          refine hK _ _ ?_
          clear hK K
          refine wpAny_done (by kernel_rfl) ?_ _
          exact REST.out w3 A1 c1 A2 c2 A3 c3 FACT.out
    · go_simp
      refine hK _ _ ?_
      clear hK K
      refine wpAny_ready (rs := [0, 4]) (by kernel_rfl) (by simp) ?_
      refine AllReady.cons rfl (fun K hK => ?_) (AllReady.cons rfl (fun K hK => ?_) (AllReady.nil))
      · go_simp
        refine hK _ _ ?_
        clear hK K
        refine wpAny_ready (rs := [1, 4]) (by kernel_rfl) (by simp) ?_
        refine AllReady.cons rfl (fun K hK => ?_) (AllReady.cons rfl (fun K hK => ?_) (AllReady.nil))
        · go_simp
          refine (CA.out _ b0.out).mono ?_
          rintro e w1 ⟨A1, c1, rfl, r1, h11, h12, hb⟩
          have hcell : w1.cell? ⟨w.heap.size + 1, 0, none⟩ = some (.slice B b.length d) := (hb.cell (by simp)).trans HW1.out
          have hcel2 : w1.cell? ⟨w.heap.size + 1 + 1, 0, none⟩ = some (.slice C l.length f) := (hb.cell (by simp)).trans HW2.out
          have B1 := bt b0 (Lib.hid hb)
          have R1 := Lib.hid r1
          have H1 := Lib.hid (And.intro h11 h12)
          have HC2 : Hid (w.heap.size + 1 + 1 < w1.heap.size) := Nat.lt_of_lt_of_le (by simp) hb.size
          clear hb r1 h11 h12
          refine hK _ _ ?_
          clear hK K
          refine wpAny_ready (rs := [3, 4]) (by kernel_rfl) (by simp) ?_
          refine AllReady.cons rfl (fun K hK => ?_) (AllReady.cons rfl (fun K hK => ?_) (AllReady.nil))
          · go_simp
            refine (CB.out _ B1.out).mono ?_
            rintro e w2 ⟨A2, c2, rfl, r2, h21, h22, hb⟩
            have hcel3 : w2.cell? ⟨w.heap.size + 1 + 1, 0, none⟩ = some (.slice C l.length f) := (hb.cell HC2.out).trans hcel2
            have B2 := bt B1 (Lib.hid hb)
            have R12 := Lib.hid (R1.out.below hb)
            have R2 := Lib.hid r2
            have H2 := Lib.hid (And.intro h21 h22)
            clear hb r2 h21 h22 hcel2 hcell
            refine hK _ _ ?_
            clear hK K
            refine wpAny_ready (rs := [4]) (by kernel_rfl) (by simp) ?_
            refine AllReady.cons rfl (fun K hK => ?_) (AllReady.nil)
            go_simp
            refine hK _ _ ?_
            clear hK K
            refine wpAny_ready (rs := [5]) (by kernel_rfl) (by simp) ?_
            refine AllReady.cons rfl (fun K hK => ?_) (AllReady.nil)
            go_simp
            refine (CC.out _ B2.out).mono ?_
            rintro e w3 ⟨A3, c3, rfl, r3, h31, h32, hb⟩
            have B3 := bt B2 (Lib.hid hb)
            have FACT := Lib.hid (And.intro (And.intro (R12.out.below hb) H1.out) (And.intro (And.intro (R2.out.below hb) H2.out) (And.intro (And.intro r3 (And.intro h31 h32)) B3.out)))
            clear hb r3 h31 h32 hcel3
            refine hK _ _ ?_
            clear hK K
            refine wpAny_ready (rs := [6]) (by kernel_rfl) (by simp) ?_
            refine AllReady.cons rfl (fun K hK => ?_) (AllReady.nil)
            go_simp
            refine hK _ _ ?_
            clear hK K
            refine wpAny_ready (rs := [7]) (by kernel_rfl) (by simp) ?_
            refine AllReady.cons rfl (fun K hK => ?_) (AllReady.nil)
            go_simp
            refine hK _ _ ?_
            clear hK K
            refine wpAny_ready (rs := [8]) (by kernel_rfl) (by simp) ?_
            refine AllReady.cons rfl (fun K hK => ?_) (AllReady.nil)
            go_simp
            refine hK _ _ ?_
            clear hK K
            refine wpAny_done (by kernel_rfl) ?_ _
            exact REST.out w3 A1 c1 A2 c2 A3 c3 FACT.out
          · go_simp
            refine hK _ _ ?_
            clear hK K
            refine wpAny_ready (rs := [3]) (by kernel_rfl) (by simp) ?_
            refine AllReady.cons rfl (fun K hK => ?_) (AllReady.nil)
            go_simp
            refine (CB.out _ B1.out).mono ?_
            rintro e w2 ⟨A2, c2, rfl, r2, h21, h22, hb⟩
            have hcel3 : w2.cell? ⟨w.heap.size + 1 + 1, 0, none⟩ = some (.slice C l.length f) := (hb.cell HC2.out).trans hcel2
            have B2 := bt B1 (Lib.hid hb)
            have R12 := Lib.hid (R1.out.below hb)
            have R2 := Lib.hid r2
            have H2 := Lib.hid (And.intro h21 h22)
            clear hb r2 h21 h22 hcel2 hcell
            refine hK _ _ ?_
            clear hK K
            refine wpAny_ready (rs := [5]) (by kernel_rfl) (by simp) ?_
            refine AllReady.cons rfl (fun K hK => ?_) (AllReady.nil)
            go_simp
            refine (CC.out _ B2.out).mono ?_
            rintro e w3 ⟨A3, c3, rfl, r3, h31, h32, hb⟩
            have B3 := bt B2 (Lib.hid hb)
            have FACT := Lib.hid (And.intro (And.intro (R12.out.below hb) H1.out) (And.intro (And.intro (R2.out.below hb) H2.out) (And.intro (And.intro r3 (And.intro h31 h32)) B3.out)))
            clear hb r3 h31 h32 hcel3
            refine hK _ _ ?_
            clear hK K
            refine wpAny_ready (rs := [6]) (by kernel_rfl) (by simp) ?_
            refine AllReady.cons rfl (fun K hK => ?_) (AllReady.nil)
            go_simp
            refine hK _ _ ?_
            clear hK K
            refine wpAny_ready (rs := [7]) (by kernel_rfl) (by simp) ?_
            refine AllReady.cons rfl (fun K hK => ?_) (AllReady.nil)
            go_simp
            refine hK _ _ ?_
            clear hK K
            refine wpAny_ready (rs := [8]) (by kernel_rfl) (by simp) ?_
            refine AllReady.cons rfl (fun K hK => ?_) (AllReady.nil)
            go_simp
            refine hK _ _ ?_
            clear hK K
            refine wpAny_done (by kernel_rfl) ?_ _
            exact REST.out w3 A1 c1 A2 c2 A3 c3 FACT.out
        · go_simp
          refine hK _ _ ?_
          clear hK K
          refine wpAny_ready (rs := [1]) (by kernel_rfl) (by simp) ?_
          refine AllReady.cons rfl (fun K hK => ?_) (AllReady.nil)
          go_simp
          refine (CA.out _ b0.out).mono ?_
          rintro e w1 ⟨A1, c1, rfl, r1, h11, h12, hb⟩
          have hcell : w1.cell? ⟨w.heap.size + 1, 0, none⟩ = some (.slice B b.length d) := (hb.cell (by simp)).trans HW1.out
          have hcel2 : w1.cell? ⟨w.heap.size + 1 + 1, 0, none⟩ = some (.slice C l.length f) := (hb.cell (by simp)).trans HW2.out
          have B1 := bt b0 (Lib.hid hb)
          have R1 := Lib.hid r1
          have H1 := Lib.hid (And.intro h11 h12)
          have HC2 : Hid (w.heap.size + 1 + 1 < w1.heap.size) := Nat.lt_of_lt_of_le (by simp) hb.size
          clear hb r1 h11 h12
          refine hK _ _ ?_
          clear hK K
          refine wpAny_ready (rs := [3]) (by kernel_rfl) (by simp) ?_
          refine AllReady.cons rfl (fun K hK => ?_) (AllReady.nil)
          go_simp
          refine (CB.out _ B1.out).mono ?_
          rintro e w2 ⟨A2, c2, rfl, r2, h21, h22, hb⟩
          have hcel3 : w2.cell? ⟨w.heap.size + 1 + 1, 0, none⟩ = some (.slice C l.length f) := (hb.cell HC2.out).trans hcel2
          have B2 := bt B1 (Lib.hid hb)
          have R12 := Lib.hid (R1.out.below hb)
          have R2 := Lib.hid r2
          have H2 := Lib.hid (And.intro h21 h22)
          clear hb r2 h21 h22 hcel2 hcell
          refine hK _ _ ?_
          clear hK K
          refine wpAny_ready (rs := [5]) (by kernel_rfl) (by simp) ?_
          refine AllReady.cons rfl (fun K hK => ?_) (AllReady.nil)
          go_simp
          refine (CC.out _ B2.out).mono ?_
          rintro e w3 ⟨A3, c3, rfl, r3, h31, h32, hb⟩
          have B3 := bt B2 (Lib.hid hb)
          have FACT := Lib.hid (And.intro (And.intro (R12.out.below hb) H1.out) (And.intro (And.intro (R2.out.below hb) H2.out) (And.intro (And.intro r3 (And.intro h31 h32)) B3.out)))
          clear hb r3 h31 h32 hcel3
          refine hK _ _ ?_
          clear hK K
          refine wpAny_ready (rs := [6]) (by kernel_rfl) (by simp) ?_
          refine AllReady.cons rfl (fun K hK => ?_) (AllReady.nil)
          go_simp
          refine hK _ _ ?_
          clear hK K
          refine wpAny_ready (rs := [7]) (by kernel_rfl) (by simp) ?_
          refine AllReady.cons rfl (fun K hK => ?_) (AllReady.nil)
          go_simp
          refine hK _ _ ?_
          clear hK K
          refine wpAny_ready (rs := [8]) (by kernel_rfl) (by simp) ?_
          refine AllReady.cons rfl (fun K hK => ?_) (AllReady.nil)
          go_simp
          refine hK _ _ ?_
          clear hK K
          refine wpAny_done (by kernel_rfl) ?_ _
          exact REST.out w3 A1 c1 A2 c2 A3 c3 FACT.out
      · go_simp
        refine hK _ _ ?_
        clear hK K
        refine wpAny_ready (rs := [0]) (by kernel_rfl) (by simp) ?_
        refine AllReady.cons rfl (fun K hK => ?_) (AllReady.nil)
        go_simp
        refine hK _ _ ?_
        clear hK K
        refine wpAny_ready (rs := [1]) (by kernel_rfl) (by simp) ?_
        refine AllReady.cons rfl (fun K hK => ?_) (AllReady.nil)
        go_simp
        refine (CA.out _ b0.out).mono ?_
        rintro e w1 ⟨A1, c1, rfl, r1, h11, h12, hb⟩
        have hcell : w1.cell? ⟨w.heap.size + 1, 0, none⟩ = some (.slice B b.length d) := (hb.cell (by simp)).trans HW1.out
        have hcel2 : w1.cell? ⟨w.heap.size + 1 + 1, 0, none⟩ = some (.slice C l.length f) := (hb.cell (by simp)).trans HW2.out
        have B1 := bt b0 (Lib.hid hb)
        have R1 := Lib.hid r1
        have H1 := Lib.hid (And.intro h11 h12)
        have HC2 : Hid (w.heap.size + 1 + 1 < w1.heap.size) := Nat.lt_of_lt_of_le (by simp) hb.size
        clear hb r1 h11 h12
        refine hK _ _ ?_
        clear hK K
        refine wpAny_ready (rs := [3]) (by kernel_rfl) (by simp) ?_
        refine AllReady.cons rfl (fun K hK => ?_) (AllReady.nil)
        go_simp
        refine (CB.out _ B1.out).mono ?_
        rintro e w2 ⟨A2, c2, rfl, r2, h21, h22, hb⟩
        have hcel3 : w2.cell? ⟨w.heap.size + 1 + 1, 0, none⟩ = some (.slice C l.length f) := (hb.cell HC2.out).trans hcel2
        have B2 := bt B1 (Lib.hid hb)
        have R12 := Lib.hid (R1.out.below hb)
        have R2 := Lib.hid r2
        have H2 := Lib.hid (And.intro h21 h22)
        clear hb r2 h21 h22 hcel2 hcell
        refine hK _ _ ?_
        clear hK K
        refine wpAny_ready (rs := [5]) (by kernel_rfl) (by simp) ?_
        refine AllReady.cons rfl (fun K hK => ?_) (AllReady.nil)
        go_simp
        refine (CC.out _ B2.out).mono ?_
        rintro e w3 ⟨A3, c3, rfl, r3, h31, h32, hb⟩
        have B3 := bt B2 (Lib.hid hb)
        have FACT := Lib.hid (And.intro (And.intro (R12.out.below hb) H1.out) (And.intro (And.intro (R2.out.below hb) H2.out) (And.intro (And.intro r3 (And.intro h31 h32)) B3.out)))
        clear hb r3 h31 h32 hcel3
        refine hK _ _ ?_
        clear hK K
        refine wpAny_ready (rs := [6]) (by kernel_rfl) (by simp) ?_
        refine AllReady.cons rfl (fun K hK => ?_) (AllReady.nil)
        go_simp
        refine hK _ _ ?_
        clear hK K
        refine wpAny_ready (rs := [7]) (by kernel_rfl) (by simp) ?_
        refine AllReady.cons rfl (fun K hK => ?_) (AllReady.nil)
        go_simp
        refine hK _ _ ?_
        clear hK K
        refine wpAny_ready (rs := [8]) (by kernel_rfl) (by simp) ?_
        refine AllReady.cons rfl (fun K hK => ?_) (AllReady.nil)
        go_simp
        refine hK _ _ ?_
        clear hK K
        refine wpAny_done (by kernel_rfl) ?_ _
        exact REST.out w3 A1 c1 A2 c2 A3 c3 FACT.out
    · go_simp
      refine hK _ _ ?_
      clear hK K
      refine wpAny_ready (rs := [0, 2]) (by kernel_rfl) (by simp) ?_
      refine AllReady.cons rfl (fun K hK => ?_) (AllReady.cons rfl (fun K hK => ?_) (AllReady.nil))
      · go_simp
        refine hK _ _ ?_
        clear hK K
        refine wpAny_ready (rs := [1, 2]) (by kernel_rfl) (by simp) ?_
        refine AllReady.cons rfl (fun K hK => ?_) (AllReady.cons rfl (fun K hK => ?_) (AllReady.nil))
        · go_simp
          refine (CA.out _ b0.out).mono ?_
          rintro e w1 ⟨A1, c1, rfl, r1, h11, h12, hb⟩
          have hcell : w1.cell? ⟨w.heap.size + 1, 0, none⟩ = some (.slice B b.length d) := (hb.cell (by simp)).trans HW1.out
          have hcel2 : w1.cell? ⟨w.heap.size + 1 + 1, 0, none⟩ = some (.slice C l.length f) := (hb.cell (by simp)).trans HW2.out
          have B1 := bt b0 (Lib.hid hb)
          have R1 := Lib.hid r1
          have H1 := Lib.hid (And.intro h11 h12)
          have HC2 : Hid (w.heap.size + 1 + 1 < w1.heap.size) := Nat.lt_of_lt_of_le (by simp) hb.size
          clear hb r1 h11 h12
          refine hK _ _ ?_
          clear hK K
          refine wpAny_ready (rs := [2]) (by kernel_rfl) (by simp) ?_
          refine AllReady.cons rfl (fun K hK => ?_) (AllReady.nil)
          go_simp
          refine hK _ _ ?_
          clear hK K
          refine wpAny_ready (rs := [3]) (by kernel_rfl) (by simp) ?_
          refine AllReady.cons rfl (fun K hK => ?_) (AllReady.nil)
          go_simp
          refine (CB.out _ B1.out).mono ?_
          rintro e w2 ⟨A2, c2, rfl, r2, h21, h22, hb⟩
          have hcel3 : w2.cell? ⟨w.heap.size + 1 + 1, 0, none⟩ = some (.slice C l.length f) := (hb.cell HC2.out).trans hcel2
          have B2 := bt B1 (Lib.hid hb)
          have R12 := Lib.hid (R1.out.below hb)
          have R2 := Lib.hid r2
          have H2 := Lib.hid (And.intro h21 h22)
          clear hb r2 h21 h22 hcel2 hcell
          refine hK _ _ ?_
          clear hK K
          refine wpAny_ready (rs := [5]) (by kernel_rfl) (by simp) ?_
          refine AllReady.cons rfl (fun K hK => ?_) (AllReady.nil)
          go_simp
          refine (CC.out _ B2.out).mono ?_
          rintro e w3 ⟨A3, c3, rfl, r3, h31, h32, hb⟩
          have B3 := bt B2 (Lib.hid hb)
          have FACT := Lib.hid (And.intro (And.intro (R12.out.below hb) H1.out) (And.intro (And.intro (R2.out.below hb) H2.out) (And.intro (And.intro r3 (And.intro h31 h32)) B3.out)))
          clear hb r3 h31 h32 hcel3
          refine hK _ _ ?_
          clear hK K
          refine wpAny_ready (rs := [6]) (by kernel_rfl) (by simp) ?_
          refine AllReady.cons rfl (fun K hK => ?_) (AllReady.nil)
          go_simp
          refine hK _ _ ?_
          clear hK K
          refine wpAny_ready (rs := [7]) (by kernel_rfl) (by simp) ?_
          refine AllReady.cons rfl (fun K hK => ?_) (AllReady.nil)
          go_simp
          refine hK _ _ ?_
          clear hK K
          refine wpAny_ready (rs := [8]) (by kernel_rfl) (by simp) ?_
          refine AllReady.cons rfl (fun K hK => ?_) (AllReady.nil)
          go_simp
          refine hK _ _ ?_
          clear hK K
          refine wpAny_done (by kernel_rfl) ?_ _
          exact REST.out w3 A1 c1 A2 c2 A3 c3 FACT.out
        · go_simp
          refine hK _ _ ?_
          clear hK K
          refine wpAny_ready (rs := [1]) (by kernel_rfl) (by simp) ?_
          refine AllReady.cons rfl (fun K hK => ?_) (AllReady.nil)
          go_simp
          refine (CA.out _ b0.out).mono ?_
          rintro e w1 ⟨A1, c1, rfl, r1, h11, h12, hb⟩
          have hcell : w1.cell? ⟨w.heap.size + 1, 0, none⟩ = some (.slice B b.length d) := (hb.cell (by simp)).trans HW1.out
          have hcel2 : w1.cell? ⟨w.heap.size + 1 + 1, 0, none⟩ = some (.slice C l.length f) := (hb.cell (by simp)).trans HW2.out
          have B1 := bt b0 (Lib.hid hb)
          have R1 := Lib.hid r1
          have H1 := Lib.hid (And.intro h11 h12)
          have HC2 : Hid (w.heap.size + 1 + 1 < w1.heap.size) := Nat.lt_of_lt_of_le (by simp) hb.size
          clear hb r1 h11 h12
          refine hK _ _ ?_
          clear hK K
          refine wpAny_ready (rs := [3]) (by kernel_rfl) (by simp) ?_
          refine AllReady.cons rfl (fun K hK => ?_) (AllReady.nil)
          go_simp
          refine (CB.out _ B1.out).mono ?_
          rintro e w2 ⟨A2, c2, rfl, r2, h21, h22, hb⟩
          have hcel3 : w2.cell? ⟨w.heap.size + 1 + 1, 0, none⟩ = some (.slice C l.length f) := (hb.cell HC2.out).trans hcel2
          have B2 := bt B1 (Lib.hid hb)
          have R12 := Lib.hid (R1.out.below hb)
          have R2 := Lib.hid r2
          have H2 := Lib.hid (And.intro h21 h22)
          clear hb r2 h21 h22 hcel2 hcell
          refine hK _ _ ?_
          clear hK K
          refine wpAny_ready (rs := [5]) (by kernel_rfl) (by simp) ?_
          refine AllReady.cons rfl (fun K hK => ?_) (AllReady.nil)
          go_simp
          refine (CC.out _ B2.out).mono ?_
          rintro e w3 ⟨A3, c3, rfl, r3, h31, h32, hb⟩
          have B3 := bt B2 (Lib.hid hb)
          have FACT := Lib.hid (And.intro (And.intro (R12.out.below hb) H1.out) (And.intro (And.intro (R2.out.below hb) H2.out) (And.intro (And.intro r3 (And.intro h31 h32)) B3.out)))
          clear hb r3 h31 h32 hcel3
          refine hK _ _ ?_
          clear hK K
          refine wpAny_ready (rs := [6]) (by kernel_rfl) (by simp) ?_
          refine AllReady.cons rfl (fun K hK => ?_) (AllReady.nil)
          go_simp
          refine hK _ _ ?_
          clear hK K
          refine wpAny_ready (rs := [7]) (by kernel_rfl) (by simp) ?_
          refine AllReady.cons rfl (fun K hK => ?_) (AllReady.nil)
          go_simp
          refine hK _ _ ?_
          clear hK K
          refine wpAny_ready (rs := [8]) (by kernel_rfl) (by simp) ?_
          refine AllReady.cons rfl (fun K hK => ?_) (AllReady.nil)
          go_simp
          refine hK _ _ ?_
          clear hK K
          refine wpAny_done (by kernel_rfl) ?_ _
          exact REST.out w3 A1 c1 A2 c2 A3 c3 FACT.out
      · go_simp
        refine hK _ _ ?_
        clear hK K
        refine wpAny_ready (rs := [0]) (by kernel_rfl) (by simp) ?_
        refine AllReady.cons rfl (fun K hK => ?_) (AllReady.nil)
        go_simp
        refine hK _ _ ?_
        clear hK K
        refine wpAny_ready (rs := [1]) (by kernel_rfl) (by simp) ?_
        refine AllReady.cons rfl (fun K hK => ?_) (AllReady.nil)
        go_simp
        refine (CA.out _ b0.out).mono ?_
        rintro e w1 ⟨A1, c1, rfl, r1, h11, h12, hb⟩
        have hcell : w1.cell? ⟨w.heap.size + 1, 0, none⟩ = some (.slice B b.length d) := (hb.cell (by simp)).trans HW1.out
        have hcel2 : w1.cell? ⟨w.heap.size + 1 + 1, 0, none⟩ = some (.slice C l.length f) := (hb.cell (by simp)).trans HW2.out
        have B1 := bt b0 (Lib.hid hb)
        have R1 := Lib.hid r1
        have H1 := Lib.hid (And.intro h11 h12)
        have HC2 : Hid (w.heap.size + 1 + 1 < w1.heap.size) := Nat.lt_of_lt_of_le (by simp) hb.size
        clear hb r1 h11 h12
        refine hK _ _ ?_
        clear hK K
        refine wpAny_ready (rs := [3]) (by kernel_rfl) (by simp) ?_
        refine AllReady.cons rfl (fun K hK => ?_) (AllReady.nil)
        go_simp
        refine (CB.out _ B1.out).mono ?_
        rintro e w2 ⟨A2, c2, rfl, r2, h21, h22, hb⟩
        have hcel3 : w2.cell? ⟨w.heap.size + 1 + 1, 0, none⟩ = some (.slice C l.length f) := (hb.cell HC2.out).trans hcel2
        have B2 := bt B1 (Lib.hid hb)
        have R12 := Lib.hid (R1.out.below hb)
        have R2 := Lib.hid r2
        have H2 := Lib.hid (And.intro h21 h22)
        clear hb r2 h21 h22 hcel2 hcell
        refine hK _ _ ?_
        clear hK K
        refine wpAny_ready (rs := [5]) (by kernel_rfl) (by simp) ?_
        refine AllReady.cons rfl (fun K hK => ?_) (AllReady.nil)
        go_simp
        refine (CC.out _ B2.out).mono ?_
        rintro e w3 ⟨A3, c3, rfl, r3, h31, h32, hb⟩
        have B3 := bt B2 (Lib.hid hb)
        have FACT := Lib.hid (And.intro (And.intro (R12.out.below hb) H1.out) (And.intro (And.intro (R2.out.below hb) H2.out) (And.intro (And.intro r3 (And.intro h31 h32)) B3.out)))
        clear hb r3 h31 h32 hcel3
        refine hK _ _ ?_
        clear hK K
        refine wpAny_ready (rs := [6]) (by kernel_rfl) (by simp) ?_
        refine AllReady.cons rfl (fun K hK => ?_) (AllReady.nil)
        go_simp
        refine hK _ _ ?_
        clear hK K
        refine wpAny_ready (rs := [7]) (by kernel_rfl) (by simp) ?_
        refine AllReady.cons rfl (fun K hK => ?_) (AllReady.nil)
        go_simp
        refine hK _ _ ?_
        clear hK K
        refine wpAny_ready (rs := [8]) (by kernel_rfl) (by simp) ?_
        refine AllReady.cons rfl (fun K hK => ?_) (AllReady.nil)
        go_simp
        refine hK _ _ ?_
        clear hK K
        refine wpAny_done (by kernel_rfl) ?_ _
        exact REST.out w3 A1 c1 A2 c2 A3 c3 FACT.out
  · intro w3 A1 c1 A2 c2 A3 c3 FACT
    have RA := Lib.hid FACT.1.1
    have HA := Lib.hid FACT.1.2
    have RB := Lib.hid FACT.2.1.1
    have HB := Lib.hid FACT.2.1.2
    have RC := Lib.hid FACT.2.2.1.1
    have BW := Lib.hid FACT.2.2.2
    clear FACT CA CB CC HW1 HW2 b0
    obtain ⟨D1, hD1⟩ : ∃ D, Hid (limD (u + v) = D) := ⟨_, rfl⟩
    obtain ⟨E1, hE1⟩ : ∃ E, Hid (limE (u + v) = E) := ⟨_, rfl⟩
    obtain ⟨D2, hD2⟩ : ∃ D, Hid (limD (v + z) = D) := ⟨_, rfl⟩
    obtain ⟨E2, hE2⟩ : ∃ E, Hid (limE (v + z) = E) := ⟨_, rfl⟩
    obtain ⟨D3, hD3⟩ : ∃ D, Hid (limD (u * v) = D) := ⟨_, rfl⟩
    obtain ⟨E3, hE3⟩ : ∃ E, Hid (limE (u * v) = E) := ⟨_, rfl⟩
    obtain ⟨D4, hD4⟩ : ∃ D, Hid (limD (v * z) = D) := ⟨_, rfl⟩
    obtain ⟨E4, hE4⟩ : ∃ E, Hid (limE (v * z) = E) := ⟨_, rfl⟩
    obtain ⟨D5, hD5⟩ : ∃ D, Hid (limD (u * z) = D) := ⟨_, rfl⟩
    obtain ⟨E5, hE5⟩ : ∃ E, Hid (limE (u * z) = E) := ⟨_, rfl⟩
    go_wp2_with fail
    refine (add64 A1 A2 n m c1 c2 u v w3 FN.out FM.out RA.out RB.out).mono ?_
    rw [hD1.out, hE1.out]
    intro e w4 h
    obtain ⟨Xab, rfl, Rab, b4⟩ := h.hid
    clear h
    go_wp2_with fail
    refine (add64 A2 A1 m n c2 c1 v u w4 FM.out FN.out (RB.out.below b4.out) (RA.out.below b4.out)).mono ?_
    rw [Nat.add_comm v u, hD1.out, hE1.out]
    intro e w5 h
    obtain ⟨Xba, rfl, Rba, b5⟩ := h.hid
    clear h
    go_wp2_with fail
    refine (mul64 A1 A2 n m c1 c2 u v w5 FN.out FM.out (RA.out.below (bt b4 b5).out) (RB.out.below (bt b4 b5).out)).mono ?_
    rw [hD3.out, hE3.out]
    intro e w6 h
    obtain ⟨Xp, rfl, Rp, b6⟩ := h.hid
    clear h
    go_wp2_with fail
    refine (mul64 A2 A1 m n c2 c1 v u w6 FM.out FN.out (RB.out.below (bt (bt b4 b5) b6).out) (RA.out.below (bt (bt b4 b5) b6).out)).mono ?_
    rw [Nat.mul_comm v u, hD3.out, hE3.out]
    intro e w7 h
    obtain ⟨Xq, rfl, Rq, b7⟩ := h.hid
    clear h
    have s0 := run_str8 (Rab.out.below (bt (bt b5 b6) b7).out) D1.length
    have s1 := run_str8 (Rba.out.below (bt b6 b7).out) D1.length
    have s2 := run_str8 (Rp.out.below b7.out) D3.length
    have s3 := run_str8 Rq.out D3.length
    have hs1 : ((bstr D1).toList != (bstr D1).toList) = false := by simp
    have hs2 : ((bstr D3).toList != (bstr D3).toList) = false := by simp
    go_wp2_with fail
    refine (add64 A2 A3 m p c2 c3 v z w7 FM.out FP.out (RB.out.below (bt (bt (bt b4 b5) b6) b7).out) (RC.out.below (bt (bt (bt b4 b5) b6) b7).out)).mono ?_
    rw [hD2.out, hE2.out]
    intro e w8 h
    obtain ⟨Xbc, rfl, Rbc, b8⟩ := h.hid
    clear h
    clear s0 s1 s2 s3
    clear Rba Rq hs1 hs2
    by_cases hE : u + v < 256 ^ 64
    · have FD1 := Lib.hid (lim_ok hD1.out hE)
      have he : E1 = 0 := by rw [← hE1.out, limE_lt hE]
      clear hE1
      subst he
      have hE' := Lib.hid hE
      clear hE
      by_cases hF : v + z < 256 ^ 64
      · have FD2 := Lib.hid (lim_ok hD2.out hF)
        have he : E2 = 0 := by rw [← hE2.out, limE_lt hF]
        clear hE2
        subst he
        have hF' := Lib.hid hF
        clear hF
        go_wp2_with fail
        obtain ⟨D8, hD8⟩ : ∃ D, Hid (limD (u + v + z) = D) := ⟨_, rfl⟩
        obtain ⟨E8, hE8⟩ : ∃ E, Hid (limE (u + v + z) = E) := ⟨_, rfl⟩
        refine (add64 Xab A3 D1 p D1.length c3 (u + v) z w8 FD1.out FP.out (Rab.out.below (bt (bt (bt b5 b6) b7) b8).out) (RC.out.below (bt (bt (bt (bt b4 b5) b6) b7) b8).out)).mono ?_
        rw [hD8.out, hE8.out]
        intro e w9 h
        obtain ⟨Xl8, rfl, Rl8, b9⟩ := h.hid
        clear h
        go_wp2_with fail
        refine (add64 A1 Xbc n D2 c1 D2.length u (v + z) w9 FN.out FD2.out (RA.out.below (bt (bt (bt (bt (bt b4 b5) b6) b7) b8) b9).out) (Rbc.out.below b9.out)).mono ?_
        rw [← Nat.add_assoc, hD8.out, hE8.out]
        intro e w10 h
        obtain ⟨Xr8, rfl, Rr8, b10⟩ := h.hid
        clear h
        have s0 := run_str8 (Rl8.out.below b10.out) D8.length
        have s1 := run_str8 Rr8.out D8.length
        have hs1 : ((bstr D8).toList != (bstr D8).toList) = false := by simp
        have hs2 : (E8 != E8) = false := by simp
        go_wp2_with fail
        have hcap : Hid (D1.length ≤ maxLen) := Nat.le_trans FD1.out.1.2.2 (by decide)
        refine (sub64 Xab A2 D1 m D1.length c2 (u + v) v w10 FD1.out FM.out (Rab.out.below (bt (bt (bt (bt (bt b5 b6) b7) b8) b9) b10).out) (RB.out.below (bt (bt (bt (bt (bt (bt b4 b5) b6) b7) b8) b9) b10).out) (Nat.le_refl _) HB.out.1 hcap.out HB.out.2 (Nat.le_add_left _ _)).mono ?_
        rw [Nat.add_sub_cancel, ← FN.out.2, FN.out.1.dig]
        intro e w11 h
        obtain ⟨Xbk, rfl, Rbk, b11⟩ := h.hid
        clear h
        clear s0 s1
        clear hs1 hs2 Rl8 Rr8
        have s0 := run_str8 Rbk.out n.length
        have s1 := run_str8 (RA.out.below (bt (bt (bt (bt (bt (bt (bt b4 b5) b6) b7) b8) b9) b10) b11).out) c1
        have hs1 : ((bstr n).toList != (bstr n).toList) = false := by simp
        go_wp2_with fail
        refine (mul64 A2 A3 m p c2 c3 v z w11 FM.out FP.out (RB.out.below (bt (bt (bt (bt (bt (bt (bt b4 b5) b6) b7) b8) b9) b10) b11).out) (RC.out.below (bt (bt (bt (bt (bt (bt (bt b4 b5) b6) b7) b8) b9) b10) b11).out)).mono ?_
        rw [hD4.out, hE4.out]
        intro e w12 h
        obtain ⟨Xpc, rfl, Rpc, b12⟩ := h.hid
        clear h
        by_cases hG : u * v < 256 ^ 64
        · have FD3 := Lib.hid (lim_ok hD3.out hG)
          have he : E3 = 0 := by rw [← hE3.out, limE_lt hG]
          clear hE3
          subst he
          have hG' := Lib.hid hG
          clear hG
          by_cases hH : v * z < 256 ^ 64
          · have FD4 := Lib.hid (lim_ok hD4.out hH)
            have he : E4 = 0 := by rw [← hE4.out, limE_lt hH]
            clear hE4
            subst he
            have hH' := Lib.hid hH
            clear hH
            go_wp2_with fail
            obtain ⟨D7, hD7⟩ : ∃ D, Hid (limD (u * v * z) = D) := ⟨_, rfl⟩
            obtain ⟨E7, hE7⟩ : ∃ E, Hid (limE (u * v * z) = E) := ⟨_, rfl⟩
            refine (mul64 Xp A3 D3 p D3.length c3 (u * v) z w12 FD3.out FP.out (Rp.out.below (bt (bt (bt (bt (bt b7 b8) b9) b10) b11) b12).out) (RC.out.below (bt (bt (bt (bt (bt (bt (bt (bt b4 b5) b6) b7) b8) b9) b10) b11) b12).out)).mono ?_
            rw [hD7.out, hE7.out]
            intro e w13 h
            obtain ⟨Xl7, rfl, Rl7, b13⟩ := h.hid
            clear h
            go_wp2_with fail
            refine (mul64 A1 Xpc n D4 c1 D4.length u (v * z) w13 FN.out FD4.out (RA.out.below (bt (bt (bt (bt (bt (bt (bt (bt (bt b4 b5) b6) b7) b8) b9) b10) b11) b12) b13).out) (Rpc.out.below b13.out)).mono ?_
            rw [← Nat.mul_assoc, hD7.out, hE7.out]
            intro e w14 h
            obtain ⟨Xr7, rfl, Rr7, b14⟩ := h.hid
            clear h
            have s0 := run_str8 (Rl7.out.below b14.out) D7.length
            have s1 := run_str8 Rr7.out D7.length
            have hs1 : ((bstr D7).toList != (bstr D7).toList) = false := by simp
            have hs2 : (E7 != E7) = false := by simp
            go_wp2_with fail
            refine (mul64 A1 A3 n p c1 c3 u z w14 FN.out FP.out (RA.out.below (bt (bt (bt (bt (bt (bt (bt (bt (bt (bt b4 b5) b6) b7) b8) b9) b10) b11) b12) b13) b14).out) (RC.out.below (bt (bt (bt (bt (bt (bt (bt (bt (bt (bt b4 b5) b6) b7) b8) b9) b10) b11) b12) b13) b14).out)).mono ?_
            rw [hD5.out, hE5.out]
            intro e w15 h
            obtain ⟨Xac, rfl, Rac, b15⟩ := h.hid
            clear h
            by_cases hI : u * z < 256 ^ 64
            · have FD5 := Lib.hid (lim_ok hD5.out hI)
              have he : E5 = 0 := by rw [← hE5.out, limE_lt hI]
              clear hE5
              subst he
              have hI' := Lib.hid hI
              clear hI
              go_wp2_with fail
              obtain ⟨D6, hD6⟩ : ∃ D, Hid (limD (u * v + u * z) = D) := ⟨_, rfl⟩
              obtain ⟨E6, hE6⟩ : ∃ E, Hid (limE (u * v + u * z) = E) := ⟨_, rfl⟩
              refine (mul64 A1 Xbc n D2 c1 D2.length u (v + z) w15 FN.out FD2.out (RA.out.below (bt (bt (bt (bt (bt (bt (bt (bt (bt (bt (bt b4 b5) b6) b7) b8) b9) b10) b11) b12) b13) b14) b15).out) (Rbc.out.below (bt (bt (bt (bt (bt (bt b9 b10) b11) b12) b13) b14) b15).out)).mono ?_
              rw [Nat.mul_add, hD6.out, hE6.out]
              intro e w16 h
              obtain ⟨Xl6, rfl, Rl6, b16⟩ := h.hid
              clear h
              go_wp2_with fail
              refine (add64 Xp Xac D3 D5 D3.length D5.length (u * v) (u * z) w16 FD3.out FD5.out (Rp.out.below (bt (bt (bt (bt (bt (bt (bt (bt (bt b7 b8) b9) b10) b11) b12) b13) b14) b15) b16).out) (Rac.out.below b16.out)).mono ?_
              rw [hD6.out, hE6.out]
              intro e w17 h
              obtain ⟨Xr6, rfl, Rr6, b17⟩ := h.hid
              clear h
              have s0 := run_str8 (Rl6.out.below b17.out) D6.length
              have s1 := run_str8 Rr6.out D6.length
              have hs1 : ((bstr D6).toList == (bstr D6).toList) = true := by rw [beq_iff_eq]
              have hs2 : (E6 == E6) = true := by simp
              go_wp2_with fail
              refine (lives1 w17).mono ?_
              rintro e w18 ⟨rfl, hb⟩
              have Bz := bt (bt BW (bt (bt (bt (bt (bt (bt (bt (bt (bt (bt (bt (bt (bt b4 b5) b6) b7) b8) b9) b10) b11) b12) b13) b14) b15) b16) b17)) (Lib.hid hb)
              clear hb
              go_wp2_with fail
              go_ret
              exact ⟨rfl, Bz.out⟩
            · have he : E5 = 3 := by rw [← hE5.out, limE_ge hI]
              clear hE5
              subst he
              clear hI
              go_wp2_with fail
              refine (lives1 w15).mono ?_
              rintro e w16 ⟨rfl, hb⟩
              have Bz := bt (bt BW (bt (bt (bt (bt (bt (bt (bt (bt (bt (bt (bt b4 b5) b6) b7) b8) b9) b10) b11) b12) b13) b14) b15)) (Lib.hid hb)
              clear hb
              go_wp2_with fail
              go_ret
              exact ⟨rfl, Bz.out⟩
          · have he : E4 = 3 := by rw [← hE4.out, limE_ge hH]
            clear hE4
            subst he
            clear hH
            go_wp2_with fail
            refine (mul64 A1 A3 n p c1 c3 u z w12 FN.out FP.out (RA.out.below (bt (bt (bt (bt (bt (bt (bt (bt b4 b5) b6) b7) b8) b9) b10) b11) b12).out) (RC.out.below (bt (bt (bt (bt (bt (bt (bt (bt b4 b5) b6) b7) b8) b9) b10) b11) b12).out)).mono ?_
            rw [hD5.out, hE5.out]
            intro e w13 h
            obtain ⟨Xac, rfl, Rac, b13⟩ := h.hid
            clear h
            by_cases hI : u * z < 256 ^ 64
            · have FD5 := Lib.hid (lim_ok hD5.out hI)
              have he : E5 = 0 := by rw [← hE5.out, limE_lt hI]
              clear hE5
              subst he
              have hI' := Lib.hid hI
              clear hI
              go_wp2_with fail
              obtain ⟨D6, hD6⟩ : ∃ D, Hid (limD (u * v + u * z) = D) := ⟨_, rfl⟩
              obtain ⟨E6, hE6⟩ : ∃ E, Hid (limE (u * v + u * z) = E) := ⟨_, rfl⟩
              refine (mul64 A1 Xbc n D2 c1 D2.length u (v + z) w13 FN.out FD2.out (RA.out.below (bt (bt (bt (bt (bt (bt (bt (bt (bt b4 b5) b6) b7) b8) b9) b10) b11) b12) b13).out) (Rbc.out.below (bt (bt (bt (bt b9 b10) b11) b12) b13).out)).mono ?_
              rw [Nat.mul_add, hD6.out, hE6.out]
              intro e w14 h
              obtain ⟨Xl6, rfl, Rl6, b14⟩ := h.hid
              clear h
              go_wp2_with fail
              refine (add64 Xp Xac D3 D5 D3.length D5.length (u * v) (u * z) w14 FD3.out FD5.out (Rp.out.below (bt (bt (bt (bt (bt (bt (bt b7 b8) b9) b10) b11) b12) b13) b14).out) (Rac.out.below b14.out)).mono ?_
              rw [hD6.out, hE6.out]
              intro e w15 h
              obtain ⟨Xr6, rfl, Rr6, b15⟩ := h.hid
              clear h
              have s0 := run_str8 (Rl6.out.below b15.out) D6.length
              have s1 := run_str8 Rr6.out D6.length
              have hs1 : ((bstr D6).toList == (bstr D6).toList) = true := by rw [beq_iff_eq]
              have hs2 : (E6 == E6) = true := by simp
              go_wp2_with fail
              refine (lives1 w15).mono ?_
              rintro e w16 ⟨rfl, hb⟩
              have Bz := bt (bt BW (bt (bt (bt (bt (bt (bt (bt (bt (bt (bt (bt b4 b5) b6) b7) b8) b9) b10) b11) b12) b13) b14) b15)) (Lib.hid hb)
              clear hb
              go_wp2_with fail
              go_ret
              exact ⟨rfl, Bz.out⟩
            · have he : E5 = 3 := by rw [← hE5.out, limE_ge hI]
              clear hE5
              subst he
              clear hI
              go_wp2_with fail
              refine (lives1 w13).mono ?_
              rintro e w14 ⟨rfl, hb⟩
              have Bz := bt (bt BW (bt (bt (bt (bt (bt (bt (bt (bt (bt b4 b5) b6) b7) b8) b9) b10) b11) b12) b13)) (Lib.hid hb)
              clear hb
              go_wp2_with fail
              go_ret
              exact ⟨rfl, Bz.out⟩
        · have he : E3 = 3 := by rw [← hE3.out, limE_ge hG]
          clear hE3
          subst he
          clear hG
          go_wp2_with fail
          refine (mul64 A1 A3 n p c1 c3 u z w12 FN.out FP.out (RA.out.below (bt (bt (bt (bt (bt (bt (bt (bt b4 b5) b6) b7) b8) b9) b10) b11) b12).out) (RC.out.below (bt (bt (bt (bt (bt (bt (bt (bt b4 b5) b6) b7) b8) b9) b10) b11) b12).out)).mono ?_
          rw [hD5.out, hE5.out]
          intro e w13 h
          obtain ⟨Xac, rfl, Rac, b13⟩ := h.hid
          clear h
          go_wp2_with fail
          refine (lives1 w13).mono ?_
          rintro e w14 ⟨rfl, hb⟩
          have Bz := bt (bt BW (bt (bt (bt (bt (bt (bt (bt (bt (bt b4 b5) b6) b7) b8) b9) b10) b11) b12) b13)) (Lib.hid hb)
          clear hb
          go_wp2_with fail
          go_ret
          exact ⟨rfl, Bz.out⟩
      · have he : E2 = 3 := by rw [← hE2.out, limE_ge hF]
        clear hE2
        subst he
        clear hF
        go_wp2_with fail
        refine (mul64 A2 A3 m p c2 c3 v z w8 FM.out FP.out (RB.out.below (bt (bt (bt (bt b4 b5) b6) b7) b8).out) (RC.out.below (bt (bt (bt (bt b4 b5) b6) b7) b8).out)).mono ?_
        rw [hD4.out, hE4.out]
        intro e w9 h
        obtain ⟨Xpc, rfl, Rpc, b9⟩ := h.hid
        clear h
        by_cases hG : u * v < 256 ^ 64
        · have FD3 := Lib.hid (lim_ok hD3.out hG)
          have he : E3 = 0 := by rw [← hE3.out, limE_lt hG]
          clear hE3
          subst he
          have hG' := Lib.hid hG
          clear hG
          by_cases hH : v * z < 256 ^ 64
          · have FD4 := Lib.hid (lim_ok hD4.out hH)
            have he : E4 = 0 := by rw [← hE4.out, limE_lt hH]
            clear hE4
            subst he
            have hH' := Lib.hid hH
            clear hH
            go_wp2_with fail
            obtain ⟨D7, hD7⟩ : ∃ D, Hid (limD (u * v * z) = D) := ⟨_, rfl⟩
            obtain ⟨E7, hE7⟩ : ∃ E, Hid (limE (u * v * z) = E) := ⟨_, rfl⟩
            refine (mul64 Xp A3 D3 p D3.length c3 (u * v) z w9 FD3.out FP.out (Rp.out.below (bt (bt b7 b8) b9).out) (RC.out.below (bt (bt (bt (bt (bt b4 b5) b6) b7) b8) b9).out)).mono ?_
            rw [hD7.out, hE7.out]
            intro e w10 h
            obtain ⟨Xl7, rfl, Rl7, b10⟩ := h.hid
            clear h
            go_wp2_with fail
            refine (mul64 A1 Xpc n D4 c1 D4.length u (v * z) w10 FN.out FD4.out (RA.out.below (bt (bt (bt (bt (bt (bt b4 b5) b6) b7) b8) b9) b10).out) (Rpc.out.below b10.out)).mono ?_
            rw [← Nat.mul_assoc, hD7.out, hE7.out]
            intro e w11 h
            obtain ⟨Xr7, rfl, Rr7, b11⟩ := h.hid
            clear h
            have s0 := run_str8 (Rl7.out.below b11.out) D7.length
            have s1 := run_str8 Rr7.out D7.length
            have hs1 : ((bstr D7).toList != (bstr D7).toList) = false := by simp
            have hs2 : (E7 != E7) = false := by simp
            go_wp2_with fail
            refine (mul64 A1 A3 n p c1 c3 u z w11 FN.out FP.out (RA.out.below (bt (bt (bt (bt (bt (bt (bt b4 b5) b6) b7) b8) b9) b10) b11).out) (RC.out.below (bt (bt (bt (bt (bt (bt (bt b4 b5) b6) b7) b8) b9) b10) b11).out)).mono ?_
            rw [hD5.out, hE5.out]
            intro e w12 h
            obtain ⟨Xac, rfl, Rac, b12⟩ := h.hid
            clear h
            go_wp2_with fail
            refine (lives1 w12).mono ?_
            rintro e w13 ⟨rfl, hb⟩
            have Bz := bt (bt BW (bt (bt (bt (bt (bt (bt (bt (bt b4 b5) b6) b7) b8) b9) b10) b11) b12)) (Lib.hid hb)
            clear hb
            go_wp2_with fail
            go_ret
            exact ⟨rfl, Bz.out⟩
          · have he : E4 = 3 := by rw [← hE4.out, limE_ge hH]
            clear hE4
            subst he
            clear hH
            go_wp2_with fail
            refine (mul64 A1 A3 n p c1 c3 u z w9 FN.out FP.out (RA.out.below (bt (bt (bt (bt (bt b4 b5) b6) b7) b8) b9).out) (RC.out.below (bt (bt (bt (bt (bt b4 b5) b6) b7) b8) b9).out)).mono ?_
            rw [hD5.out, hE5.out]
            intro e w10 h
            obtain ⟨Xac, rfl, Rac, b10⟩ := h.hid
            clear h
            go_wp2_with fail
            refine (lives1 w10).mono ?_
            rintro e w11 ⟨rfl, hb⟩
            have Bz := bt (bt BW (bt (bt (bt (bt (bt (bt b4 b5) b6) b7) b8) b9) b10)) (Lib.hid hb)
            clear hb
            go_wp2_with fail
            go_ret
            exact ⟨rfl, Bz.out⟩
        · have he : E3 = 3 := by rw [← hE3.out, limE_ge hG]
          clear hE3
          subst he
          clear hG
          go_wp2_with fail
          refine (mul64 A1 A3 n p c1 c3 u z w9 FN.out FP.out (RA.out.below (bt (bt (bt (bt (bt b4 b5) b6) b7) b8) b9).out) (RC.out.below (bt (bt (bt (bt (bt b4 b5) b6) b7) b8) b9).out)).mono ?_
          rw [hD5.out, hE5.out]
          intro e w10 h
          obtain ⟨Xac, rfl, Rac, b10⟩ := h.hid
          clear h
          go_wp2_with fail
          refine (lives1 w10).mono ?_
          rintro e w11 ⟨rfl, hb⟩
          have Bz := bt (bt BW (bt (bt (bt (bt (bt (bt b4 b5) b6) b7) b8) b9) b10)) (Lib.hid hb)
          clear hb
          go_wp2_with fail
          go_ret
          exact ⟨rfl, Bz.out⟩
    · have he : E1 = 3 := by rw [← hE1.out, limE_ge hE]
      clear hE1
      subst he
      clear hE
      by_cases hF : v + z < 256 ^ 64
      · have FD2 := Lib.hid (lim_ok hD2.out hF)
        have he : E2 = 0 := by rw [← hE2.out, limE_lt hF]
        clear hE2
        subst he
        have hF' := Lib.hid hF
        clear hF
        go_wp2_with fail
        refine (mul64 A2 A3 m p c2 c3 v z w8 FM.out FP.out (RB.out.below (bt (bt (bt (bt b4 b5) b6) b7) b8).out) (RC.out.below (bt (bt (bt (bt b4 b5) b6) b7) b8).out)).mono ?_
        rw [hD4.out, hE4.out]
        intro e w9 h
        obtain ⟨Xpc, rfl, Rpc, b9⟩ := h.hid
        clear h
        by_cases hG : u * v < 256 ^ 64
        · have FD3 := Lib.hid (lim_ok hD3.out hG)
          have he : E3 = 0 := by rw [← hE3.out, limE_lt hG]
          clear hE3
          subst he
          have hG' := Lib.hid hG
          clear hG
          by_cases hH : v * z < 256 ^ 64
          · have FD4 := Lib.hid (lim_ok hD4.out hH)
            have he : E4 = 0 := by rw [← hE4.out, limE_lt hH]
            clear hE4
            subst he
            have hH' := Lib.hid hH
            clear hH
            go_wp2_with fail
            obtain ⟨D7, hD7⟩ : ∃ D, Hid (limD (u * v * z) = D) := ⟨_, rfl⟩
            obtain ⟨E7, hE7⟩ : ∃ E, Hid (limE (u * v * z) = E) := ⟨_, rfl⟩
            refine (mul64 Xp A3 D3 p D3.length c3 (u * v) z w9 FD3.out FP.out (Rp.out.below (bt (bt b7 b8) b9).out) (RC.out.below (bt (bt (bt (bt (bt b4 b5) b6) b7) b8) b9).out)).mono ?_
            rw [hD7.out, hE7.out]
            intro e w10 h
            obtain ⟨Xl7, rfl, Rl7, b10⟩ := h.hid
            clear h
            go_wp2_with fail
            refine (mul64 A1 Xpc n D4 c1 D4.length u (v * z) w10 FN.out FD4.out (RA.out.below (bt (bt (bt (bt (bt (bt b4 b5) b6) b7) b8) b9) b10).out) (Rpc.out.below b10.out)).mono ?_
            rw [← Nat.mul_assoc, hD7.out, hE7.out]
            intro e w11 h
            obtain ⟨Xr7, rfl, Rr7, b11⟩ := h.hid
            clear h
            have s0 := run_str8 (Rl7.out.below b11.out) D7.length
            have s1 := run_str8 Rr7.out D7.length
            have hs1 : ((bstr D7).toList != (bstr D7).toList) = false := by simp
            have hs2 : (E7 != E7) = false := by simp
            go_wp2_with fail
            refine (mul64 A1 A3 n p c1 c3 u z w11 FN.out FP.out (RA.out.below (bt (bt (bt (bt (bt (bt (bt b4 b5) b6) b7) b8) b9) b10) b11).out) (RC.out.below (bt (bt (bt (bt (bt (bt (bt b4 b5) b6) b7) b8) b9) b10) b11).out)).mono ?_
            rw [hD5.out, hE5.out]
            intro e w12 h
            obtain ⟨Xac, rfl, Rac, b12⟩ := h.hid
            clear h
            by_cases hI : u * z < 256 ^ 64
            · have FD5 := Lib.hid (lim_ok hD5.out hI)
              have he : E5 = 0 := by rw [← hE5.out, limE_lt hI]
              clear hE5
              subst he
              have hI' := Lib.hid hI
              clear hI
              go_wp2_with fail
              obtain ⟨D6, hD6⟩ : ∃ D, Hid (limD (u * v + u * z) = D) := ⟨_, rfl⟩
              obtain ⟨E6, hE6⟩ : ∃ E, Hid (limE (u * v + u * z) = E) := ⟨_, rfl⟩
              refine (mul64 A1 Xbc n D2 c1 D2.length u (v + z) w12 FN.out FD2.out (RA.out.below (bt (bt (bt (bt (bt (bt (bt (bt b4 b5) b6) b7) b8) b9) b10) b11) b12).out) (Rbc.out.below (bt (bt (bt b9 b10) b11) b12).out)).mono ?_
              rw [Nat.mul_add, hD6.out, hE6.out]
              intro e w13 h
              obtain ⟨Xl6, rfl, Rl6, b13⟩ := h.hid
              clear h
              go_wp2_with fail
              refine (add64 Xp Xac D3 D5 D3.length D5.length (u * v) (u * z) w13 FD3.out FD5.out (Rp.out.below (bt (bt (bt (bt (bt (bt b7 b8) b9) b10) b11) b12) b13).out) (Rac.out.below b13.out)).mono ?_
              rw [hD6.out, hE6.out]
              intro e w14 h
              obtain ⟨Xr6, rfl, Rr6, b14⟩ := h.hid
              clear h
              have s0 := run_str8 (Rl6.out.below b14.out) D6.length
              have s1 := run_str8 Rr6.out D6.length
              have hs1 : ((bstr D6).toList == (bstr D6).toList) = true := by rw [beq_iff_eq]
              have hs2 : (E6 == E6) = true := by simp
              go_wp2_with fail
              refine (lives1 w14).mono ?_
              rintro e w15 ⟨rfl, hb⟩
              have Bz := bt (bt BW (bt (bt (bt (bt (bt (bt (bt (bt (bt (bt b4 b5) b6) b7) b8) b9) b10) b11) b12) b13) b14)) (Lib.hid hb)
              clear hb
              go_wp2_with fail
              go_ret
              exact ⟨rfl, Bz.out⟩
            · have he : E5 = 3 := by rw [← hE5.out, limE_ge hI]
              clear hE5
              subst he
              clear hI
              go_wp2_with fail
              refine (lives1 w12).mono ?_
              rintro e w13 ⟨rfl, hb⟩
              have Bz := bt (bt BW (bt (bt (bt (bt (bt (bt (bt (bt b4 b5) b6) b7) b8) b9) b10) b11) b12)) (Lib.hid hb)
              clear hb
              go_wp2_with fail
              go_ret
              exact ⟨rfl, Bz.out⟩
          · have he : E4 = 3 := by rw [← hE4.out, limE_ge hH]
            clear hE4
            subst he
            clear hH
            go_wp2_with fail
            refine (mul64 A1 A3 n p c1 c3 u z w9 FN.out FP.out (RA.out.below (bt (bt (bt (bt (bt b4 b5) b6) b7) b8) b9).out) (RC.out.below (bt (bt (bt (bt (bt b4 b5) b6) b7) b8) b9).out)).mono ?_
            rw [hD5.out, hE5.out]
            intro e w10 h
            obtain ⟨Xac, rfl, Rac, b10⟩ := h.hid
            clear h
            by_cases hI : u * z < 256 ^ 64
            · have FD5 := Lib.hid (lim_ok hD5.out hI)
              have he : E5 = 0 := by rw [← hE5.out, limE_lt hI]
              clear hE5
              subst he
              have hI' := Lib.hid hI
              clear hI
              go_wp2_with fail
              obtain ⟨D6, hD6⟩ : ∃ D, Hid (limD (u * v + u * z) = D) := ⟨_, rfl⟩
              obtain ⟨E6, hE6⟩ : ∃ E, Hid (limE (u * v + u * z) = E) := ⟨_, rfl⟩
              refine (mul64 A1 Xbc n D2 c1 D2.length u (v + z) w10 FN.out FD2.out (RA.out.below (bt (bt (bt (bt (bt (bt b4 b5) b6) b7) b8) b9) b10).out) (Rbc.out.below (bt b9 b10).out)).mono ?_
              rw [Nat.mul_add, hD6.out, hE6.out]
              intro e w11 h
              obtain ⟨Xl6, rfl, Rl6, b11⟩ := h.hid
              clear h
              go_wp2_with fail
              refine (add64 Xp Xac D3 D5 D3.length D5.length (u * v) (u * z) w11 FD3.out FD5.out (Rp.out.below (bt (bt (bt (bt b7 b8) b9) b10) b11).out) (Rac.out.below b11.out)).mono ?_
              rw [hD6.out, hE6.out]
              intro e w12 h
              obtain ⟨Xr6, rfl, Rr6, b12⟩ := h.hid
              clear h
              have s0 := run_str8 (Rl6.out.below b12.out) D6.length
              have s1 := run_str8 Rr6.out D6.length
              have hs1 : ((bstr D6).toList == (bstr D6).toList) = true := by rw [beq_iff_eq]
              have hs2 : (E6 == E6) = true := by simp
              go_wp2_with fail
              refine (lives1 w12).mono ?_
              rintro e w13 ⟨rfl, hb⟩
              have Bz := bt (bt BW (bt (bt (bt (bt (bt (bt (bt (bt b4 b5) b6) b7) b8) b9) b10) b11) b12)) (Lib.hid hb)
              clear hb
              go_wp2_with fail
              go_ret
              exact ⟨rfl, Bz.out⟩
            · have he : E5 = 3 := by rw [← hE5.out, limE_ge hI]
              clear hE5
              subst he
              clear hI
              go_wp2_with fail
              refine (lives1 w10).mono ?_
              rintro e w11 ⟨rfl, hb⟩
              have Bz := bt (bt BW (bt (bt (bt (bt (bt (bt b4 b5) b6) b7) b8) b9) b10)) (Lib.hid hb)
              clear hb
              go_wp2_with fail
              go_ret
              exact ⟨rfl, Bz.out⟩
        · have he : E3 = 3 := by rw [← hE3.out, limE_ge hG]
          clear hE3
          subst he
          clear hG
          go_wp2_with fail
          refine (mul64 A1 A3 n p c1 c3 u z w9 FN.out FP.out (RA.out.below (bt (bt (bt (bt (bt b4 b5) b6) b7) b8) b9).out) (RC.out.below (bt (bt (bt (bt (bt b4 b5) b6) b7) b8) b9).out)).mono ?_
          rw [hD5.out, hE5.out]
          intro e w10 h
          obtain ⟨Xac, rfl, Rac, b10⟩ := h.hid
          clear h
          go_wp2_with fail
          refine (lives1 w10).mono ?_
          rintro e w11 ⟨rfl, hb⟩
          have Bz := bt (bt BW (bt (bt (bt (bt (bt (bt b4 b5) b6) b7) b8) b9) b10)) (Lib.hid hb)
          clear hb
          go_wp2_with fail
          go_ret
          exact ⟨rfl, Bz.out⟩
      · have he : E2 = 3 := by rw [← hE2.out, limE_ge hF]
        clear hE2
        subst he
        clear hF
        go_wp2_with fail
        refine (mul64 A2 A3 m p c2 c3 v z w8 FM.out FP.out (RB.out.below (bt (bt (bt (bt b4 b5) b6) b7) b8).out) (RC.out.below (bt (bt (bt (bt b4 b5) b6) b7) b8).out)).mono ?_
        rw [hD4.out, hE4.out]
        intro e w9 h
        obtain ⟨Xpc, rfl, Rpc, b9⟩ := h.hid
        clear h
        by_cases hG : u * v < 256 ^ 64
        · have FD3 := Lib.hid (lim_ok hD3.out hG)
          have he : E3 = 0 := by rw [← hE3.out, limE_lt hG]
          clear hE3
          subst he
          have hG' := Lib.hid hG
          clear hG
          by_cases hH : v * z < 256 ^ 64
          · have FD4 := Lib.hid (lim_ok hD4.out hH)
            have he : E4 = 0 := by rw [← hE4.out, limE_lt hH]
            clear hE4
            subst he
            have hH' := Lib.hid hH
            clear hH
            go_wp2_with fail
            obtain ⟨D7, hD7⟩ : ∃ D, Hid (limD (u * v * z) = D) := ⟨_, rfl⟩
            obtain ⟨E7, hE7⟩ : ∃ E, Hid (limE (u * v * z) = E) := ⟨_, rfl⟩
            refine (mul64 Xp A3 D3 p D3.length c3 (u * v) z w9 FD3.out FP.out (Rp.out.below (bt (bt b7 b8) b9).out) (RC.out.below (bt (bt (bt (bt (bt b4 b5) b6) b7) b8) b9).out)).mono ?_
            rw [hD7.out, hE7.out]
            intro e w10 h
            obtain ⟨Xl7, rfl, Rl7, b10⟩ := h.hid
            clear h
            go_wp2_with fail
            refine (mul64 A1 Xpc n D4 c1 D4.length u (v * z) w10 FN.out FD4.out (RA.out.below (bt (bt (bt (bt (bt (bt b4 b5) b6) b7) b8) b9) b10).out) (Rpc.out.below b10.out)).mono ?_
            rw [← Nat.mul_assoc, hD7.out, hE7.out]
            intro e w11 h
            obtain ⟨Xr7, rfl, Rr7, b11⟩ := h.hid
            clear h
            have s0 := run_str8 (Rl7.out.below b11.out) D7.length
            have s1 := run_str8 Rr7.out D7.length
            have hs1 : ((bstr D7).toList != (bstr D7).toList) = false := by simp
            have hs2 : (E7 != E7) = false := by simp
            go_wp2_with fail
            refine (mul64 A1 A3 n p c1 c3 u z w11 FN.out FP.out (RA.out.below (bt (bt (bt (bt (bt (bt (bt b4 b5) b6) b7) b8) b9) b10) b11).out) (RC.out.below (bt (bt (bt (bt (bt (bt (bt b4 b5) b6) b7) b8) b9) b10) b11).out)).mono ?_
            rw [hD5.out, hE5.out]
            intro e w12 h
            obtain ⟨Xac, rfl, Rac, b12⟩ := h.hid
            clear h
            go_wp2_with fail
            refine (lives1 w12).mono ?_
            rintro e w13 ⟨rfl, hb⟩
            have Bz := bt (bt BW (bt (bt (bt (bt (bt (bt (bt (bt b4 b5) b6) b7) b8) b9) b10) b11) b12)) (Lib.hid hb)
            clear hb
            go_wp2_with fail
            go_ret
            exact ⟨rfl, Bz.out⟩
          · have he : E4 = 3 := by rw [← hE4.out, limE_ge hH]
            clear hE4
            subst he
            clear hH
            go_wp2_with fail
            refine (mul64 A1 A3 n p c1 c3 u z w9 FN.out FP.out (RA.out.below (bt (bt (bt (bt (bt b4 b5) b6) b7) b8) b9).out) (RC.out.below (bt (bt (bt (bt (bt b4 b5) b6) b7) b8) b9).out)).mono ?_
            rw [hD5.out, hE5.out]
            intro e w10 h
            obtain ⟨Xac, rfl, Rac, b10⟩ := h.hid
            clear h
            go_wp2_with fail
            refine (lives1 w10).mono ?_
            rintro e w11 ⟨rfl, hb⟩
            have Bz := bt (bt BW (bt (bt (bt (bt (bt (bt b4 b5) b6) b7) b8) b9) b10)) (Lib.hid hb)
            clear hb
            go_wp2_with fail
            go_ret
            exact ⟨rfl, Bz.out⟩
        · have he : E3 = 3 := by rw [← hE3.out, limE_ge hG]
          clear hE3
          subst he
          clear hG
          go_wp2_with fail
          refine (mul64 A1 A3 n p c1 c3 u z w9 FN.out FP.out (RA.out.below (bt (bt (bt (bt (bt b4 b5) b6) b7) b8) b9).out) (RC.out.below (bt (bt (bt (bt (bt b4 b5) b6) b7) b8) b9).out)).mono ?_
          rw [hD5.out, hE5.out]
          intro e w10 h
          obtain ⟨Xac, rfl, Rac, b10⟩ := h.hid
          clear h
          go_wp2_with fail
          refine (lives1 w10).mono ?_
          rintro e w11 ⟨rfl, hb⟩
          have Bz := bt (bt BW (bt (bt (bt (bt (bt (bt b4 b5) b6) b7) b8) b9) b10)) (Lib.hid hb)
          clear hb
          go_wp2_with fail
          go_ret
          exact ⟨rfl, Bz.out⟩

open Go.ChangeShapes Go.WideShapes Go.ChangeAt
set_option maxRecDepth 100000 in
theorem natsField_lifted (os : Os) (started : os.Started) (H : Type) (enc : TypeId × Value → H) :
    ReturnsInHanded {} Try.checked os 6 .any (Rows.natsFieldSpec.pre6 enc Try.prog Try.f6 Rows.natsFieldRow.domain false) (Rows.natsFieldSpec.post enc Try.prog Try.f6 false true false false) := by
  refine returnsInHanded_of_change (C := Try.checked) x_own started (by kernel_rfl) Try.func6
    (ChangeSpec.witness6 (enc := enc) (C := Try.checked) false ⟨#[], #[.agg #[.slice none 0 0], .agg #[.slice none 0 0], .agg #[.slice none 0 0]], []⟩ 8 (by kernel_rfl) (by kernel_rfl) (by kernel_rfl) (by kernel_rfl)) ?_
  intro W base args ds gs before hval0 hW hcnd _
  have hval : ∀ (j : Nat) t v, Try.f6.params[j]? = some t → args[j]? = some v → Value.okWide Try.prog W .any base t v := hval0
  have hW' := hW
  obtain ⟨p, q, hA0, hV, rfl, hfz, hnd⟩ := hW
  have hA : DataW.TrodAll enc Try.prog W 0 (fun _ => true) true Try.f6.params.toList args.toList ds p := hA0
  rw [Try.params6] at hA hval
  obtain ⟨v0, v1, v2, d0, d1, d2, p0, p1, p2, rfl, rfl, rfl, h0, h1, h2⟩ := trodAll_three hA
  obtain ⟨rfl, rfl⟩ := trodVars_none hV
  obtain ⟨A0, l0, c0, rfl, hR0, hl0, hc0⟩ := open_num (hval 0 _ v0 rfl rfl) h0
  obtain ⟨A1, l1, c1, rfl, hR1, hl1, hc1⟩ := open_num (hval 1 _ v1 rfl rfl) h1
  obtain ⟨A2, l2, c2, rfl, hR2, hl2, hc2⟩ := open_num (hval 2 _ v2 rfl rfl) h2
  clear hA0 hval0
  refine (field_walk A0 A1 A2 l0 l1 l2 c0 c1 c2 W hR0 hR1 hR2 hl0 hl1 hl2 hc0 hc1 hc2).mono fun e W' ⟨he, hb⟩ => ?_
  subst he
  exact ⟨_, rfl, law_post (tb := 4) x_laid (by decide +kernel) rfl rfl (by kernel_rfl) Try.underlying4 hW' hb⟩

/-- The statement. -/
theorem natsField_holds : Rows.NatsFieldSaid :=
  OpenClaim.holds_of_wide 6 Try.f6 rfl rfl rfl rfl rfl rfl rfl ⟨rfl, rfl, rfl, rfl, rfl⟩ rfl rfl rfl rfl rfl (by kernel_rfl) Try.func6 (by kernel_rfl)
    (of_decide_eq_true (by kernel_rfl)) (by unfold Func.isWrapper; first | (rw [if_pos (by decide +kernel)]; kernel_rfl) | (rw [if_neg (by decide +kernel)]; exact ⟨rfl, rfl⟩))
    (fun os started H enc _ => natsField_lifted os started H enc)
end Go.Proofs.Ytenbknmpkdidoaa
