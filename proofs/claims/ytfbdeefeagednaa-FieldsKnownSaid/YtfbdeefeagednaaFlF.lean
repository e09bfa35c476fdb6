/-
  Layer 12: missing; Explicit, the program's and the reference's; Under, Report's first way.
  Conditions: none beyond that values read as what they are.
-/
import Derived.Test.YtfbdeefeagednaaFlE
namespace Go.Proofs.Ytfbdeefeagednaa.Fl
open Go.RowKit

set_option maxHeartbeats 1000000 in
set_option maxRecDepth 100000 in
theorem expl_any (c n : Nat) (k : Bool) (u : Value) (bs : List Nat) (ss : List El) (B : Option Addr) (m cb z : Nat) (w : World) (hm : ss.length = m) (P : List Int) (f : Nat) (hR : expR z (.mk c n k bs ss) = (P, f)) :
    Calls Try.prog 25 #[elV c n k u (.slice B m cb), .int .u32 (z : Int)] w (GiveF true w P f) := by
  have K0 := Lib.hid ((Bk.new (w.alloc (.cells #[.int .u8 (c : Int), .bool k, .int .u32 (n : Int), u, .slice B m cb] 29)) 38 [.slice none 0 0, .int .i64 0]).alloc (.cells #[.int .u8 2, .bool true, .int .u32 (z : Int)] 25))
  have B0 := Lib.hid (bel3 w (.cells #[.int .u8 (c : Int), .bool k, .int .u32 (n : Int), u, .slice B m cb] 29) (.cells #[.slice none 0 0, .int .i64 0] 38) (.cells #[.int .u8 2, .bool true, .int .u32 (z : Int)] 25))
  rw [expR, hm, isT] at hR
  clear hm
  rw [World.size_alloc] at K0
  by_cases hc : c = 2
  rotate_left
  · rw [if_pos (by simp; omega)] at hR
    obtain ⟨rfl, rfl⟩ := Prod.mk.inj hR
    have t1 : ¬ ((c : Int) = 2) := by omega
    clear hc
    go_enter Try.func25, Try.ntmps25
    go_wp2_with fail
    refine (fault_any 9 none 0 0 _).mono ?_
    rintro e w1 ⟨rfl, hb1⟩
    have K1 := kt K0 (Lib.hid hb1)
    have B1 := bt B0 (Lib.hid hb1)
    clear hb1
    go_wp2_with (refine storeF rfl _ _ rfl rfl rfl K1.out rfl rfl ?_; intro w3 h3 h4)
    exact retF rfl rfl h3.out rfl (give_nil B1 (by omega) h4)
  subst hc
  cases k
  · rw [if_pos (by simp)] at hR
    obtain ⟨rfl, rfl⟩ := Prod.mk.inj hR
    go_enter Try.func25, Try.ntmps25
    go_wp2_with fail
    refine (fault_any 9 none 0 0 _).mono ?_
    rintro e w1 ⟨rfl, hb1⟩
    have K1 := kt K0 (Lib.hid hb1)
    have B1 := bt B0 (Lib.hid hb1)
    clear hb1
    go_wp2_with (refine storeF rfl _ _ rfl rfl rfl K1.out rfl rfl ?_; intro w3 h3 h4)
    exact retF rfl rfl h3.out rfl (give_nil B1 (by omega) h4)
  by_cases hn : n = z
  rotate_left
  · rw [if_pos (by simp; omega)] at hR
    obtain ⟨rfl, rfl⟩ := Prod.mk.inj hR
    have t1 : ¬ ((n : Int) = (z : Int)) := by omega
    clear hn
    go_enter Try.func25, Try.ntmps25
    go_wp2_with fail
    refine (fault_any 9 none 0 0 _).mono ?_
    rintro e w1 ⟨rfl, hb1⟩
    have K1 := kt K0 (Lib.hid hb1)
    have B1 := bt B0 (Lib.hid hb1)
    clear hb1
    go_wp2_with (refine storeF rfl _ _ rfl rfl rfl K1.out rfl rfl ?_; intro w3 h3 h4)
    exact retF rfl rfl h3.out rfl (give_nil B1 (by omega) h4)
  subst hn
  rw [if_neg (by simp)] at hR
  by_cases h5 : m = 0
  · subst h5
    rw [if_pos rfl] at hR
    obtain ⟨rfl, rfl⟩ := Prod.mk.inj hR
    go_enter Try.func25, Try.ntmps25
    go_wp2_with fail
    refine (fault_any 7 none 0 0 _).mono ?_
    rintro e w1 ⟨rfl, hb1⟩
    have K1 := kt K0 (Lib.hid hb1)
    have B1 := bt B0 (Lib.hid hb1)
    clear hb1
    go_wp2_with (refine storeF rfl _ _ rfl rfl rfl K1.out rfl rfl ?_; intro w3 h3 h4)
    exact retF rfl rfl h3.out rfl (give_nil B1 (by omega) h4)
  rw [if_neg h5] at hR
  have t5 : ((m : Int) == 0) = false := by simpa using h5
  by_cases h6 : 1 < m
  · rw [if_pos h6] at hR
    obtain ⟨rfl, rfl⟩ := Prod.mk.inj hR
    have t6 : decide ((m : Int) > 1) = true := by simp; omega
    clear h5 h6
    go_enter Try.func25, Try.ntmps25
    go_wp2_with fail
    have hl0 := fun W => litI W (1)
    refine (fault_any 8 (some ⟨_, 0, none⟩) 1 1 _).mono ?_
    rintro e w1 ⟨rfl, hb1⟩
    have K1 := kt (kt K0 (Lib.hid (bel1 _ _))) (Lib.hid hb1)
    have B1 := bt (bt B0 (Lib.hid (bel1 _ _))) (Lib.hid hb1)
    have R1 := Lib.hid (RdX.above (RdX.belowX (hl0 _) hb1) (g := w.heap.size + 1) (by simp only [World.size_alloc]; omega))
    clear hb1 hl0
    go_wp2_with (refine storeF rfl _ _ rfl rfl rfl K1.out rfl rfl ?_; intro w3 h3 h4)
    exact retF rfl rfl h3.out rfl (give_at B1 (by simpa only [World.size_alloc] using R1.out) rfl (Nat.le_refl _) (by unfold maxLen; omega) (fun _ => rfl) (by omega) h4)
  rw [if_neg h6] at hR
  obtain ⟨rfl, rfl⟩ := Prod.mk.inj hR
  have t6 : decide ((m : Int) > 1) = false := by simp; omega
  clear h5 h6
  go_enter Try.func25, Try.ntmps25
  go_wp2_with (refine storeF rfl _ _ rfl rfl rfl K0.out rfl rfl ?_; intro w3 h3 h4)
  exact retF rfl rfl h3.out rfl (give_nil B0 (by omega) h4)
set_option maxHeartbeats 1000000 in
set_option maxRecDepth 100000 in
theorem rexpl_any (c n : Nat) (k : Bool) (u : Value) (bs : List Nat) (ss : List El) (B : Option Addr) (m cb z : Nat) (w : World) (hm : ss.length = m) (P : List Int) (f : Nat) (hR : expR z (.mk c n k bs ss) = (P, f)) :
    Calls Try.prog 26 #[elV c n k u (.slice B m cb), .int .u32 (z : Int)] w (GiveF false w P f) := by
  have K0 := Lib.hid (Bk.new (w.alloc (.cells #[.int .u8 (c : Int), .bool k, .int .u32 (n : Int), u, .slice B m cb] 29)) 38 [.slice none 0 0, .int .i64 0])
  have B0 := Lib.hid (bel2 w (.cells #[.int .u8 (c : Int), .bool k, .int .u32 (n : Int), u, .slice B m cb] 29) (.cells #[.slice none 0 0, .int .i64 0] 38))
  rw [expR, hm, isT] at hR
  clear hm
  rw [World.size_alloc] at K0
  by_cases hc : c = 2
  rotate_left
  · rw [if_pos (by simp; omega)] at hR
    obtain ⟨rfl, rfl⟩ := Prod.mk.inj hR
    have t1 : ((c : Int) != 2) = true := by simp; omega
    clear hc
    go_enter Try.func26, Try.ntmps26
    go_wp2_with fail
    have hc0 := fun W => rfault_any 9 (-1) W (by omega)
    refine (hc0 _).mono ?_
    clear hc0
    rintro e w1 ⟨A9, n9, c9, rfl, hl9, hn9, hm9, _, hr9, hb1⟩
    have HP9 := Lib.hid hl9
    have K1 := kt K0 (Lib.hid hb1)
    have B1 := bt B0 (Lib.hid hb1)
    have R1 := Lib.hid (RdX.above hr9 (g := w.heap.size + 1) (by simp only [World.size_alloc]; omega))
    have N1 := Lib.hid (And.intro hn9 hm9)
    clear hb1 hr9 hl9 hn9 hm9
    go_wp2_with (refine storeF rfl _ _ rfl rfl rfl K1.out rfl rfl ?_; intro w3 h3 h4)
    exact retF rfl rfl h3.out rfl (give_at B1 R1.out HP9.out N1.out.1 N1.out.2 (fun h => by cases h) (by omega) h4)
  subst hc
  cases k
  · rw [if_pos (by simp)] at hR
    obtain ⟨rfl, rfl⟩ := Prod.mk.inj hR
    go_enter Try.func26, Try.ntmps26
    go_wp2_with fail
    have hc0 := fun W => rfault_any 9 (-1) W (by omega)
    refine (hc0 _).mono ?_
    clear hc0
    rintro e w1 ⟨A9, n9, c9, rfl, hl9, hn9, hm9, _, hr9, hb1⟩
    have HP9 := Lib.hid hl9
    have K1 := kt K0 (Lib.hid hb1)
    have B1 := bt B0 (Lib.hid hb1)
    have R1 := Lib.hid (RdX.above hr9 (g := w.heap.size + 1) (by simp only [World.size_alloc]; omega))
    have N1 := Lib.hid (And.intro hn9 hm9)
    clear hb1 hr9 hl9 hn9 hm9
    go_wp2_with (refine storeF rfl _ _ rfl rfl rfl K1.out rfl rfl ?_; intro w3 h3 h4)
    exact retF rfl rfl h3.out rfl (give_at B1 R1.out HP9.out N1.out.1 N1.out.2 (fun h => by cases h) (by omega) h4)
  by_cases hn : n = z
  rotate_left
  · rw [if_pos (by simp; omega)] at hR
    obtain ⟨rfl, rfl⟩ := Prod.mk.inj hR
    have t1 : ((n : Int) != (z : Int)) = true := by simp; omega
    clear hn
    go_enter Try.func26, Try.ntmps26
    go_wp2_with fail
    have hc0 := fun W => rfault_any 9 (-1) W (by omega)
    refine (hc0 _).mono ?_
    clear hc0
    rintro e w1 ⟨A9, n9, c9, rfl, hl9, hn9, hm9, _, hr9, hb1⟩
    have HP9 := Lib.hid hl9
    have K1 := kt K0 (Lib.hid hb1)
    have B1 := bt B0 (Lib.hid hb1)
    have R1 := Lib.hid (RdX.above hr9 (g := w.heap.size + 1) (by simp only [World.size_alloc]; omega))
    have N1 := Lib.hid (And.intro hn9 hm9)
    clear hb1 hr9 hl9 hn9 hm9
    go_wp2_with (refine storeF rfl _ _ rfl rfl rfl K1.out rfl rfl ?_; intro w3 h3 h4)
    exact retF rfl rfl h3.out rfl (give_at B1 R1.out HP9.out N1.out.1 N1.out.2 (fun h => by cases h) (by omega) h4)
  subst hn
  rw [if_neg (by simp)] at hR
  by_cases h5 : m = 0
  · subst h5
    rw [if_pos rfl] at hR
    obtain ⟨rfl, rfl⟩ := Prod.mk.inj hR
    go_enter Try.func26, Try.ntmps26
    go_wp2_with fail
    have hc0 := fun W => rfault_any 7 (-1) W (by omega)
    refine (hc0 _).mono ?_
    clear hc0
    rintro e w1 ⟨A9, n9, c9, rfl, hl9, hn9, hm9, _, hr9, hb1⟩
    have HP9 := Lib.hid hl9
    have K1 := kt K0 (Lib.hid hb1)
    have B1 := bt B0 (Lib.hid hb1)
    have R1 := Lib.hid (RdX.above hr9 (g := w.heap.size + 1) (by simp only [World.size_alloc]; omega))
    have N1 := Lib.hid (And.intro hn9 hm9)
    clear hb1 hr9 hl9 hn9 hm9
    go_wp2_with (refine storeF rfl _ _ rfl rfl rfl K1.out rfl rfl ?_; intro w3 h3 h4)
    exact retF rfl rfl h3.out rfl (give_at B1 R1.out HP9.out N1.out.1 N1.out.2 (fun h => by cases h) (by omega) h4)
  rw [if_neg h5] at hR
  have t5 : ((m : Int) == 0) = false := by simpa using h5
  by_cases h6 : 1 < m
  · rw [if_pos h6] at hR
    obtain ⟨rfl, rfl⟩ := Prod.mk.inj hR
    have t6 : decide ((m : Int) > 1) = true := by simp; omega
    clear h5 h6
    go_enter Try.func26, Try.ntmps26
    go_wp2_with fail
    have hc0 := fun W => rfault_any 8 (1) W (by omega)
    refine (hc0 _).mono ?_
    clear hc0
    rintro e w1 ⟨A9, n9, c9, rfl, hl9, hn9, hm9, _, hr9, hb1⟩
    have HP9 := Lib.hid hl9
    have K1 := kt K0 (Lib.hid hb1)
    have B1 := bt B0 (Lib.hid hb1)
    have R1 := Lib.hid (RdX.above hr9 (g := w.heap.size + 1) (by simp only [World.size_alloc]; omega))
    have N1 := Lib.hid (And.intro hn9 hm9)
    clear hb1 hr9 hl9 hn9 hm9
    go_wp2_with (refine storeF rfl _ _ rfl rfl rfl K1.out rfl rfl ?_; intro w3 h3 h4)
    exact retF rfl rfl h3.out rfl (give_at B1 R1.out HP9.out N1.out.1 N1.out.2 (fun h => by cases h) (by omega) h4)
  rw [if_neg h6] at hR
  obtain ⟨rfl, rfl⟩ := Prod.mk.inj hR
  have t6 : decide ((m : Int) > 1) = false := by simp; omega
  clear h5 h6
  go_enter Try.func26, Try.ntmps26
  go_wp2_with (refine storeF rfl _ _ rfl rfl rfl K0.out rfl rfl ?_; intro w3 h3 h4)
  exact retF rfl rfl h3.out rfl (give_nil B0 (by omega) h4)
set_option maxHeartbeats 1000000 in
set_option maxRecDepth 100000 in
theorem missing_any (c n : Nat) (k : Bool) (u : Value) (B : Option Addr) (m cb p : Nat) (w : World) :
    Calls Try.prog 47 #[elV c n k u (.slice B m cb), .int .i64 (p : Int)] w (GiveF true w (if p = m then [] else [(p : Int)]) (if p = m then 7 else 9)) := by
  obtain ⟨P, hP⟩ : ∃ P : List Int, (if p = m then [] else [(p : Int)]) = P := ⟨_, rfl⟩
  obtain ⟨f, hf⟩ : ∃ f : Nat, (if p = m then 7 else 9) = f := ⟨_, rfl⟩
  rw [hP, hf]
  have K0 := Lib.hid (Bk.new (w.alloc (.cells #[.int .u8 (c : Int), .bool k, .int .u32 (n : Int), u, .slice B m cb] 29)) 38 [.slice none 0 0, .int .i64 0])
  have B0 := Lib.hid (bel2 w (.cells #[.int .u8 (c : Int), .bool k, .int .u32 (n : Int), u, .slice B m cb] 29) (.cells #[.slice none 0 0, .int .i64 0] 38))
  rw [World.size_alloc] at K0
  by_cases h5 : p = m
  · rw [if_pos h5] at hP hf
    subst hP hf h5
    go_enter Try.func47, Try.ntmps47
    go_wp2_with fail
    refine (fault_any 7 none 0 0 _).mono ?_
    rintro e w1 ⟨rfl, hb1⟩
    have K1 := kt K0 (Lib.hid hb1)
    have B1 := bt B0 (Lib.hid hb1)
    clear hb1
    go_wp2_with (refine storeF rfl _ _ rfl rfl rfl K1.out rfl rfl ?_; intro w3 h3 h4)
    exact retF rfl rfl h3.out rfl (give_nil B1 (by omega) h4)
  rw [if_neg h5] at hP hf
  subst hP hf
  have t5 : ((p : Int) == (m : Int)) = false := by simp; omega
  clear h5
  go_enter Try.func47, Try.ntmps47
  go_wp2_with fail
  have hl0 := fun W => litI W ((p : Int))
  refine (fault_any 9 (some ⟨_, 0, none⟩) 1 1 _).mono ?_
  rintro e w1 ⟨rfl, hb1⟩
  have K1 := kt (kt K0 (Lib.hid (bel1 _ _))) (Lib.hid hb1)
  have B1 := bt (bt B0 (Lib.hid (bel1 _ _))) (Lib.hid hb1)
  have R1 := Lib.hid (RdX.above (RdX.belowX (hl0 _) hb1) (g := w.heap.size + 1) (by simp only [World.size_alloc]; omega))
  clear hb1 hl0
  go_wp2_with (refine storeF rfl _ _ rfl rfl rfl K1.out rfl rfl ?_; intro w3 h3 h4)
  exact retF rfl rfl h3.out rfl (give_at B1 (by simpa only [World.size_alloc] using R1.out) rfl (Nat.le_refl _) (by unfold maxLen; omega) (fun _ => rfl) (by omega) h4)
end Go.Proofs.Ytfbdeefeagednaa.Fl
