/-
  Layer 12: missing; List and Explicit, the program's and the reference's.
  Conditions: none beyond that values read as what they are.
-/
import Derived.Test.YtfbdeefeagednaaFlD
namespace Go.Proofs.Ytfbdeefeagednaa.Fl
open Go.RowKit

theorem h3f {a b c d : Nat} {k j : Bool} (h : (decide (a = b) && (k == j) && decide (c = d)) = false) : false = (decide (b = a) && (j == k) && decide (d = c)) := by
  rw [← h]
  by_cases h1 : a = b <;> by_cases h2 : c = d <;> cases k <;> cases j <;> simp [h1, h2, eq_comm]
theorem h3t {a b c d : Nat} {k j : Bool} (h : ¬ (decide (a = b) && (k == j) && decide (c = d)) = false) : (decide (b = a) && (j == k) && decide (d = c)) = true := by
  simp at h
  obtain ⟨rfl, rfl, rfl⟩ := h
  simp
set_option maxHeartbeats 1000000 in
set_option maxRecDepth 100000 in
theorem list_any (c n : Nat) (k : Bool) (u : Value) (bs : List Nat) (ss : List El) (B : Option Addr) (m cb : Nat) (c2 n2 : Nat) (k2 : Bool) (lo hi : Int) (w : World) (hm : ss.length = m) (P : List Int) (f : Nat) (hR : lstR c2 n2 k2 lo hi (.mk c n k bs ss) = (P, f))
    (hlo : -9223372036854775808 ≤ lo ∧ lo < 9223372036854775808) (_hhi : -9223372036854775808 ≤ hi ∧ hi < 9223372036854775808) :
    Calls Try.prog 22 #[elV c n k u (.slice B m cb), tgV c2 k2 n2, .int .i64 lo, .int .i64 hi] w (GiveF true w P f) := by
  have K0 := Lib.hid (Bk.new ((w.alloc (.cells #[.int .u8 (c : Int), .bool k, .int .u32 (n : Int), u, .slice B m cb] 29)).alloc (.cells #[.int .u8 (c2 : Int), .bool k2, .int .u32 (n2 : Int)] 25)) 38 [.slice none 0 0, .int .i64 0])
  have B0 := Lib.hid (bel3 w (.cells #[.int .u8 (c : Int), .bool k, .int .u32 (n : Int), u, .slice B m cb] 29) (.cells #[.int .u8 (c2 : Int), .bool k2, .int .u32 (n2 : Int)] 25) (.cells #[.slice none 0 0, .int .i64 0] 38))
  have HQ := fun W => neqT c k n c2 k2 n2 W
  rw [lstR, hm, isT] at hR
  have HM := Lib.hid hm
  clear hm
  rw [World.size_alloc, World.size_alloc] at K0
  by_cases h1 : lo < 0
  · rw [if_pos (.inl h1)] at hR
    obtain ⟨rfl, rfl⟩ := Prod.mk.inj hR
    have t1 : decide (lo < 0) = true := by simpa using h1
    clear h1 hlo
    go_enter Try.func22, Try.ntmps22
    go_wp2_with fail
    refine (fault_any 1 none 0 0 _).mono ?_
    rintro e w1 ⟨rfl, hb1⟩
    have K1 := kt K0 (Lib.hid hb1)
    have B1 := bt B0 (Lib.hid hb1)
    clear hb1
    go_wp2_with (refine storeF rfl _ _ rfl rfl rfl K1.out rfl rfl ?_; intro w3 h3 h4)
    exact retF rfl rfl h3.out rfl (give_nil B1 (by omega) h4)
  have t1 : decide (lo < 0) = false := by simpa using h1
  by_cases h2 : hi < lo
  · rw [if_pos (.inr h2)] at hR
    obtain ⟨rfl, rfl⟩ := Prod.mk.inj hR
    have t2 : decide (hi < lo) = true := by simpa using h2
    clear h1 h2 hlo
    go_enter Try.func22, Try.ntmps22
    go_wp2_with fail
    refine (fault_any 1 none 0 0 _).mono ?_
    rintro e w1 ⟨rfl, hb1⟩
    have K1 := kt K0 (Lib.hid hb1)
    have B1 := bt B0 (Lib.hid hb1)
    clear hb1
    go_wp2_with (refine storeF rfl _ _ rfl rfl rfl K1.out rfl rfl ?_; intro w3 h3 h4)
    exact retF rfl rfl h3.out rfl (give_nil B1 (by omega) h4)
  have t2 : decide (hi < lo) = false := by simpa using h2
  rw [if_neg (by omega)] at hR
  by_cases h3 : (decide (c2 = c) && (k2 == k) && decide (n2 = n)) = false
  · rw [if_pos h3] at hR
    obtain ⟨rfl, rfl⟩ := Prod.mk.inj hR
    have h3' : (!(decide (c = c2) && (k == k2) && decide (n = n2))) = true := by rw [← h3f h3]; rfl
    rw [h3'] at HQ
    clear h1 h2 h3 h3' hlo
    go_enter Try.func22, Try.ntmps22
    go_wp2_with fail
    refine (fault_any 9 none 0 0 _).mono ?_
    rintro e w1 ⟨rfl, hb1⟩
    have K1 := kt K0 (Lib.hid hb1)
    have B1 := bt B0 (Lib.hid hb1)
    clear hb1
    go_wp2_with (refine storeF rfl _ _ rfl rfl rfl K1.out rfl rfl ?_; intro w3 h3 h4)
    exact retF rfl rfl h3.out rfl (give_nil B1 (by omega) h4)
  rw [if_neg h3] at hR
  have h3' : (!(decide (c = c2) && (k == k2) && decide (n = n2))) = false := by rw [h3t h3]; rfl
  rw [h3'] at HQ
  clear h3 h3'
  by_cases h4 : (m : Int) < lo
  · have t4 : decide ((m : Int) < lo) = true := by simpa using h4
    rw [if_pos h4] at hR
    by_cases h5 : m = 0
    · subst h5
      rw [if_pos rfl] at hR
      obtain ⟨rfl, rfl⟩ := Prod.mk.inj hR
      have t4' : decide ((0 : Int) < lo) = true := t4
      clear h1 h2 h4 hlo t4
      go_enter Try.func22, Try.ntmps22
      go_wp2_with fail
      refine (fault_any 17 none 0 0 _).mono ?_
      rintro e w1 ⟨rfl, hb1⟩
      have K1 := kt K0 (Lib.hid hb1)
      have B1 := bt B0 (Lib.hid hb1)
      clear hb1
      go_wp2_with (refine storeF rfl _ _ rfl rfl rfl K1.out rfl rfl ?_; intro w3 h3 h4)
      exact retF rfl rfl h3.out rfl (give_nil B1 (by omega) h4)
    · rw [if_neg h5] at hR
      obtain ⟨rfl, rfl⟩ := Prod.mk.inj hR
      have t5 : ((m : Int) == 0) = false := by simpa using h5
      clear h1 h2 h4 h5 hlo
      go_enter Try.func22, Try.ntmps22
      go_wp2_with fail
      refine (fault_any 7 none 0 0 _).mono ?_
      rintro e w1 ⟨rfl, hb1⟩
      have K1 := kt K0 (Lib.hid hb1)
      have B1 := bt B0 (Lib.hid hb1)
      clear hb1
      go_wp2_with (refine storeF rfl _ _ rfl rfl rfl K1.out rfl rfl ?_; intro w3 h3 h4)
      exact retF rfl rfl h3.out rfl (give_nil B1 (by omega) h4)
  have t4 : decide ((m : Int) < lo) = false := by simpa using h4
  rw [if_neg h4] at hR
  by_cases h5 : hi < (m : Int)
  · rw [if_pos h5] at hR
    obtain ⟨rfl, rfl⟩ := Prod.mk.inj hR
    have t5 : decide ((m : Int) > hi) = true := by simpa using h5
    clear h1 h2 h4 h5 hlo
    go_enter Try.func22, Try.ntmps22
    go_wp2_with fail
    have hl0 := fun W => litI W (hi)
    refine (fault_any 3 (some ⟨_, 0, none⟩) 1 1 _).mono ?_
    rintro e w1 ⟨rfl, hb1⟩
    have K1 := kt (kt K0 (Lib.hid (bel1 _ _))) (Lib.hid hb1)
    have B1 := bt (bt B0 (Lib.hid (bel1 _ _))) (Lib.hid hb1)
    have R1 := Lib.hid (RdX.above (RdX.belowX (hl0 _) hb1) (g := w.heap.size + 1 + 1) (by simp only [World.size_alloc]; omega))
    clear hb1 hl0
    go_wp2_with (refine storeF rfl _ _ rfl rfl rfl K1.out rfl rfl ?_; intro w3 h3 h4)
    exact retF rfl rfl h3.out rfl (give_at B1 (by simpa only [World.size_alloc] using R1.out) rfl (Nat.le_refl _) (by unfold maxLen; omega) (fun _ => rfl) (by omega) h4)
  rw [if_neg h5] at hR
  obtain ⟨rfl, rfl⟩ := Prod.mk.inj hR
  have t5 : decide ((m : Int) > hi) = false := by simp; omega
  clear h1 h2 h4 h5 hlo
  go_enter Try.func22, Try.ntmps22
  go_wp2_with (refine storeF rfl _ _ rfl rfl rfl K0.out rfl rfl ?_; intro w3 h3 h4)
  exact retF rfl rfl h3.out rfl (give_nil B0 (by omega) h4)
set_option maxHeartbeats 1000000 in
set_option maxRecDepth 100000 in
theorem rlist_any (c n : Nat) (k : Bool) (u : Value) (bs : List Nat) (ss : List El) (B : Option Addr) (m cb : Nat) (c2 n2 : Nat) (k2 : Bool) (lo hi : Int) (w : World) (hm : ss.length = m) (P : List Int) (f : Nat) (hR : lstR c2 n2 k2 lo hi (.mk c n k bs ss) = (P, f))
    (hlo : -9223372036854775808 ≤ lo ∧ lo < 9223372036854775808) (_hhi : -9223372036854775808 ≤ hi ∧ hi < 9223372036854775808) :
    Calls Try.prog 24 #[elV c n k u (.slice B m cb), tgV c2 k2 n2, .int .i64 lo, .int .i64 hi] w (GiveF false w P f) := by
  have K0 := Lib.hid (Bk.new ((w.alloc (.cells #[.int .u8 (c : Int), .bool k, .int .u32 (n : Int), u, .slice B m cb] 29)).alloc (.cells #[.int .u8 (c2 : Int), .bool k2, .int .u32 (n2 : Int)] 25)) 38 [.slice none 0 0, .int .i64 0])
  have B0 := Lib.hid (bel3 w (.cells #[.int .u8 (c : Int), .bool k, .int .u32 (n : Int), u, .slice B m cb] 29) (.cells #[.int .u8 (c2 : Int), .bool k2, .int .u32 (n2 : Int)] 25) (.cells #[.slice none 0 0, .int .i64 0] 38))
  have HQ := fun W => neqT c k n c2 k2 n2 W
  rw [lstR, hm, isT] at hR
  have HM := Lib.hid hm
  clear hm
  rw [World.size_alloc, World.size_alloc] at K0
  by_cases h1 : lo < 0
  · rw [if_pos (.inl h1)] at hR
    obtain ⟨rfl, rfl⟩ := Prod.mk.inj hR
    have t1 : decide (lo < 0) = true := by simpa using h1
    clear h1 hlo
    go_enter Try.func24, Try.ntmps24
    go_wp2_with fail
    have hc0 := fun W => rfault_any 1 (-1) W (by omega)
    refine (hc0 _).mono ?_
    clear hc0
    rintro e w1 ⟨A9, n9, c9, rfl, hl9, hn9, hm9, _, hr9, hb1⟩
    have HP9 := Lib.hid hl9
    have K1 := kt K0 (Lib.hid hb1)
    have B1 := bt B0 (Lib.hid hb1)
    have R1 := Lib.hid (RdX.above hr9 (g := w.heap.size + 1 + 1) (by simp only [World.size_alloc]; omega))
    have N1 := Lib.hid (And.intro hn9 hm9)
    clear hb1 hr9 hl9 hn9 hm9
    go_wp2_with (refine storeF rfl _ _ rfl rfl rfl K1.out rfl rfl ?_; intro w3 h3 h4)
    exact retF rfl rfl h3.out rfl (give_at B1 R1.out HP9.out N1.out.1 N1.out.2 (fun h => by cases h) (by omega) h4)
  have t1 : decide (lo < 0) = false := by simpa using h1
  by_cases h2 : hi < lo
  · rw [if_pos (.inr h2)] at hR
    obtain ⟨rfl, rfl⟩ := Prod.mk.inj hR
    have t2 : decide (hi < lo) = true := by simpa using h2
    clear h1 h2 hlo
    go_enter Try.func24, Try.ntmps24
    go_wp2_with fail
    have hc0 := fun W => rfault_any 1 (-1) W (by omega)
    refine (hc0 _).mono ?_
    clear hc0
    rintro e w1 ⟨A9, n9, c9, rfl, hl9, hn9, hm9, _, hr9, hb1⟩
    have HP9 := Lib.hid hl9
    have K1 := kt K0 (Lib.hid hb1)
    have B1 := bt B0 (Lib.hid hb1)
    have R1 := Lib.hid (RdX.above hr9 (g := w.heap.size + 1 + 1) (by simp only [World.size_alloc]; omega))
    have N1 := Lib.hid (And.intro hn9 hm9)
    clear hb1 hr9 hl9 hn9 hm9
    go_wp2_with (refine storeF rfl _ _ rfl rfl rfl K1.out rfl rfl ?_; intro w3 h3 h4)
    exact retF rfl rfl h3.out rfl (give_at B1 R1.out HP9.out N1.out.1 N1.out.2 (fun h => by cases h) (by omega) h4)
  have t2 : decide (hi < lo) = false := by simpa using h2
  rw [if_neg (by omega)] at hR
  by_cases h3 : (decide (c2 = c) && (k2 == k) && decide (n2 = n)) = false
  · rw [if_pos h3] at hR
    obtain ⟨rfl, rfl⟩ := Prod.mk.inj hR
    have h3' : (!(decide (c = c2) && (k == k2) && decide (n = n2))) = true := by rw [← h3f h3]; rfl
    rw [h3'] at HQ
    clear h1 h2 h3 h3' hlo
    go_enter Try.func24, Try.ntmps24
    go_wp2_with fail
    have hc0 := fun W => rfault_any 9 (-1) W (by omega)
    refine (hc0 _).mono ?_
    clear hc0
    rintro e w1 ⟨A9, n9, c9, rfl, hl9, hn9, hm9, _, hr9, hb1⟩
    have HP9 := Lib.hid hl9
    have K1 := kt K0 (Lib.hid hb1)
    have B1 := bt B0 (Lib.hid hb1)
    have R1 := Lib.hid (RdX.above hr9 (g := w.heap.size + 1 + 1) (by simp only [World.size_alloc]; omega))
    have N1 := Lib.hid (And.intro hn9 hm9)
    clear hb1 hr9 hl9 hn9 hm9
    go_wp2_with (refine storeF rfl _ _ rfl rfl rfl K1.out rfl rfl ?_; intro w3 h3 h4)
    exact retF rfl rfl h3.out rfl (give_at B1 R1.out HP9.out N1.out.1 N1.out.2 (fun h => by cases h) (by omega) h4)
  rw [if_neg h3] at hR
  have h3' : (!(decide (c = c2) && (k == k2) && decide (n = n2))) = false := by rw [h3t h3]; rfl
  rw [h3'] at HQ
  clear h3 h3'
  by_cases h4 : (m : Int) < lo
  · have t4 : decide ((m : Int) < lo) = true := by simpa using h4
    rw [if_pos h4] at hR
    by_cases h5 : m = 0
    · subst h5
      rw [if_pos rfl] at hR
      obtain ⟨rfl, rfl⟩ := Prod.mk.inj hR
      have t4' : decide ((0 : Int) < lo) = true := t4
      clear h1 h2 h4 hlo t4
      go_enter Try.func24, Try.ntmps24
      go_wp2_with fail
      have hc0 := fun W => rfault_any 17 (-1) W (by omega)
      refine (hc0 _).mono ?_
      clear hc0
      rintro e w1 ⟨A9, n9, c9, rfl, hl9, hn9, hm9, _, hr9, hb1⟩
      have HP9 := Lib.hid hl9
      have K1 := kt K0 (Lib.hid hb1)
      have B1 := bt B0 (Lib.hid hb1)
      have R1 := Lib.hid (RdX.above hr9 (g := w.heap.size + 1 + 1) (by simp only [World.size_alloc]; omega))
      have N1 := Lib.hid (And.intro hn9 hm9)
      clear hb1 hr9 hl9 hn9 hm9
      go_wp2_with (refine storeF rfl _ _ rfl rfl rfl K1.out rfl rfl ?_; intro w3 h3 h4)
      exact retF rfl rfl h3.out rfl (give_at B1 R1.out HP9.out N1.out.1 N1.out.2 (fun h => by cases h) (by omega) h4)
    · rw [if_neg h5] at hR
      obtain ⟨rfl, rfl⟩ := Prod.mk.inj hR
      have t5 : ((m : Int) == 0) = false := by simpa using h5
      clear h1 h2 h4 h5 hlo
      go_enter Try.func24, Try.ntmps24
      go_wp2_with fail
      have hc0 := fun W => rfault_any 7 (-1) W (by omega)
      refine (hc0 _).mono ?_
      clear hc0
      rintro e w1 ⟨A9, n9, c9, rfl, hl9, hn9, hm9, _, hr9, hb1⟩
      have HP9 := Lib.hid hl9
      have K1 := kt K0 (Lib.hid hb1)
      have B1 := bt B0 (Lib.hid hb1)
      have R1 := Lib.hid (RdX.above hr9 (g := w.heap.size + 1 + 1) (by simp only [World.size_alloc]; omega))
      have N1 := Lib.hid (And.intro hn9 hm9)
      clear hb1 hr9 hl9 hn9 hm9
      go_wp2_with (refine storeF rfl _ _ rfl rfl rfl K1.out rfl rfl ?_; intro w3 h3 h4)
      exact retF rfl rfl h3.out rfl (give_at B1 R1.out HP9.out N1.out.1 N1.out.2 (fun h => by cases h) (by omega) h4)
  have t4 : decide ((m : Int) < lo) = false := by simpa using h4
  rw [if_neg h4] at hR
  by_cases h5 : hi < (m : Int)
  · rw [if_pos h5] at hR
    obtain ⟨rfl, rfl⟩ := Prod.mk.inj hR
    have t5 : decide ((m : Int) > hi) = true := by simpa using h5
    have hh0 : ¬ hi < 0 := by omega
    clear h1 h2 h4 h5 hlo
    go_enter Try.func24, Try.ntmps24
    go_wp2_with fail
    have hc0 := fun W => rfault_any 3 (hi) W (by omega)
    refine (hc0 _).mono ?_
    clear hc0
    rintro e w1 ⟨A9, n9, c9, rfl, hl9, hn9, hm9, _, hr9, hb1⟩
    rw [if_neg (by omega)] at hl9 hr9
    have HP9 := Lib.hid hl9
    have K1 := kt K0 (Lib.hid hb1)
    have B1 := bt B0 (Lib.hid hb1)
    have R1 := Lib.hid (RdX.above hr9 (g := w.heap.size + 1 + 1) (by simp only [World.size_alloc]; omega))
    have N1 := Lib.hid (And.intro hn9 hm9)
    clear hb1 hr9 hl9 hn9 hm9
    go_wp2_with (refine storeF rfl _ _ rfl rfl rfl K1.out rfl rfl ?_; intro w3 h3 h4)
    exact retF rfl rfl h3.out rfl (give_at B1 R1.out HP9.out N1.out.1 N1.out.2 (fun h => by cases h) (by omega) h4)
  rw [if_neg h5] at hR
  obtain ⟨rfl, rfl⟩ := Prod.mk.inj hR
  have t5 : decide ((m : Int) > hi) = false := by simp; omega
  clear h1 h2 h4 h5 hlo
  go_enter Try.func24, Try.ntmps24
  go_wp2_with (refine storeF rfl _ _ rfl rfl rfl K0.out rfl rfl ?_; intro w3 h3 h4)
  exact retF rfl rfl h3.out rfl (give_nil B0 (by omega) h4)
end Go.Proofs.Ytfbdeefeagednaa.Fl
