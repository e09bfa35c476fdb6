/-
  Package bitstrings: contracts of checkPrimitive, Element, Of, Octets, OfOctets.
  Conditions: slices read as bytes, and are not longer than a million.
-/
import Derived.Test.YtnebjdgolbnkfaaBitD
namespace Go.Proofs.Ytnebjdgolbnkfaa.Bit
open Go.RowKit

set_option maxRecDepth 100000 in
set_option maxHeartbeats 2000000 in
theorem prim_any (c n : Nat) (k : Bool) (A B : Option Addr) (L ca S cb num : Nat) (w : World) :
    Calls Try.prog 32 #[elV c n k (.slice A L ca) (.slice B S cb), .int .u32 (num : Int)] w fun e w' => e = .returned (.int .i64 ((wrg c n k S num : Nat) : Int)) ∧ Below w.heap.size w w' := by
  by_cases hc : c = 0
  rotate_left
  · have hw := wrg_9 (S := S) (show ¬ (c = 0 ∧ k = false ∧ n = num) from fun h => hc h.1)
    have hcb : ((c : Int) == 0) = false := by simp; exact hc
    rw [hw]
    clear hc hw
    have hk := Bk.new w 40 [.int .u8 (c : Int), .bool k, .int .u32 (n : Int), .slice A L ca, .slice B S cb]
    have HB0 := Lib.hid (bel1 w (.cells #[.int .u8 (c : Int), .bool k, .int .u32 (n : Int), .slice A L ca, .slice B S cb] 40))
    obtain ⟨W, hW⟩ : ∃ W, w.alloc (.cells #[.int .u8 (c : Int), .bool k, .int .u32 (n : Int), .slice A L ca, .slice B S cb] 40) = W := ⟨_, rfl⟩
    rw [hW] at hk HB0
    show Calls Try.prog 32 #[.agg #[.int .u8 (c : Int), .bool k, .int .u32 (n : Int), .slice A L ca, .slice B S cb], .int .u32 (num : Int)] w _
    go_enter Try.func32, Try.ntmps32
    go_wp2_with fail
    have HK := Lib.hid hk
    obtain ⟨c0, c1, c2, c3, c4, hsz⟩ := Bk.five hk
    have b1 := Below.refl W.heap.size W
    clear hW hk
    go_region_held3 (fun w' => w'.cell? ⟨w.heap.size, 0, none⟩ = some (.int .u8 (c : Int)) ∧ w'.cell? ⟨w.heap.size, 1, none⟩ = some (.bool k) ∧ w'.cell? ⟨w.heap.size, 2, none⟩ = some (.int .u32 (n : Int)))
      (first | exact ⟨c0, c1, c2⟩ | exact ⟨(hb1.cell (p := ⟨w.heap.size, 0, none⟩) hsz).trans c0, (hb1.cell (p := ⟨w.heap.size, 1, none⟩) hsz).trans c1, (hb1.cell (p := ⟨w.heap.size, 2, none⟩) hsz).trans c2⟩)
      (first | (go_at_call 31; refine (tag_any num _).mono ?_; rintro e w1 ⟨rfl, hb1⟩))
    have HB1 := Lib.hid (b1.drew.trans (hb1.mono b1.drew.size))
    have HK1 := Lib.hid (HK.out.below HB1.out hsz)
    have HB01 := bt HB0 HB1
    obtain ⟨d0, d1, d2, d3, d4, hsz1⟩ := Bk.five HK1.out
    clear hb1 b1 c0 c1 c2 c3 c4
    go_wp2_with fail
    go_ret
    exact ⟨rfl, HB01.out⟩
  subst hc
  cases k with
  | true =>
    rw [wrg_9 (S := S) (show ¬ (0 = 0 ∧ true = false ∧ n = num) by simp)]
    have hk := Bk.new w 40 [.int .u8 0, .bool true, .int .u32 (n : Int), .slice A L ca, .slice B S cb]
    have HB0 := Lib.hid (bel1 w (.cells #[.int .u8 0, .bool true, .int .u32 (n : Int), .slice A L ca, .slice B S cb] 40))
    obtain ⟨W, hW⟩ : ∃ W, w.alloc (.cells #[.int .u8 0, .bool true, .int .u32 (n : Int), .slice A L ca, .slice B S cb] 40) = W := ⟨_, rfl⟩
    rw [hW] at hk HB0
    show Calls Try.prog 32 #[.agg #[.int .u8 0, .bool true, .int .u32 (n : Int), .slice A L ca, .slice B S cb], .int .u32 (num : Int)] w _
    go_enter Try.func32, Try.ntmps32
    go_wp2_with fail
    have HK := Lib.hid hk
    obtain ⟨c0, c1, c2, c3, c4, hsz⟩ := Bk.five hk
    have b1 := Below.refl W.heap.size W
    clear hW hk
    go_region_held3 (fun w' => w'.cell? ⟨w.heap.size, 0, none⟩ = some (.int .u8 0) ∧ w'.cell? ⟨w.heap.size, 1, none⟩ = some (.bool true) ∧ w'.cell? ⟨w.heap.size, 2, none⟩ = some (.int .u32 (n : Int)))
      (first | exact ⟨c0, c1, c2⟩ | exact ⟨(hb1.cell (p := ⟨w.heap.size, 0, none⟩) hsz).trans c0, (hb1.cell (p := ⟨w.heap.size, 1, none⟩) hsz).trans c1, (hb1.cell (p := ⟨w.heap.size, 2, none⟩) hsz).trans c2⟩)
      (first | (go_at_call 31; refine (tag_any num _).mono ?_; rintro e w1 ⟨rfl, hb1⟩))
    have HB1 := Lib.hid (b1.drew.trans (hb1.mono b1.drew.size))
    have HK1 := Lib.hid (HK.out.below HB1.out hsz)
    have HB01 := bt HB0 HB1
    obtain ⟨d0, d1, d2, d3, d4, hsz1⟩ := Bk.five HK1.out
    clear hb1 b1 c0 c1 c2 c3 c4
    go_wp2_with fail
    go_ret
    exact ⟨rfl, HB01.out⟩
  | false =>
    by_cases hn : n = num
    rotate_left
    · have hw := wrg_9 (c := 0) (k := false) (S := S) (show ¬ (0 = 0 ∧ false = false ∧ n = num) from fun h => hn h.2.2)
      have hcb : ((n : Int) == (num : Int)) = false := by simp; omega
      rw [hw]
      clear hn hw
      have hk := Bk.new w 40 [.int .u8 0, .bool false, .int .u32 (n : Int), .slice A L ca, .slice B S cb]
      have HB0 := Lib.hid (bel1 w (.cells #[.int .u8 0, .bool false, .int .u32 (n : Int), .slice A L ca, .slice B S cb] 40))
      obtain ⟨W, hW⟩ : ∃ W, w.alloc (.cells #[.int .u8 0, .bool false, .int .u32 (n : Int), .slice A L ca, .slice B S cb] 40) = W := ⟨_, rfl⟩
      rw [hW] at hk HB0
      show Calls Try.prog 32 #[.agg #[.int .u8 0, .bool false, .int .u32 (n : Int), .slice A L ca, .slice B S cb], .int .u32 (num : Int)] w _
      go_enter Try.func32, Try.ntmps32
      go_wp2_with fail
      have HK := Lib.hid hk
      obtain ⟨c0, c1, c2, c3, c4, hsz⟩ := Bk.five hk
      have b1 := Below.refl W.heap.size W
      clear hW hk
      go_region_held3 (fun w' => w'.cell? ⟨w.heap.size, 0, none⟩ = some (.int .u8 0) ∧ w'.cell? ⟨w.heap.size, 1, none⟩ = some (.bool false) ∧ w'.cell? ⟨w.heap.size, 2, none⟩ = some (.int .u32 (n : Int)))
        (first | exact ⟨c0, c1, c2⟩ | exact ⟨(hb1.cell (p := ⟨w.heap.size, 0, none⟩) hsz).trans c0, (hb1.cell (p := ⟨w.heap.size, 1, none⟩) hsz).trans c1, (hb1.cell (p := ⟨w.heap.size, 2, none⟩) hsz).trans c2⟩)
        (first | (go_at_call 31; refine (tag_any num _).mono ?_; rintro e w1 ⟨rfl, hb1⟩))
      have HB1 := Lib.hid (b1.drew.trans (hb1.mono b1.drew.size))
      have HK1 := Lib.hid (HK.out.below HB1.out hsz)
      have HB01 := bt HB0 HB1
      obtain ⟨d0, d1, d2, d3, d4, hsz1⟩ := Bk.five HK1.out
      clear hb1 b1 c0 c1 c2 c3 c4
      go_wp2_with fail
      go_ret
      exact ⟨rfl, HB01.out⟩
    subst hn
    by_cases hS : 0 < S
    · rw [wrg_1 hS]
      have hS2 : (0 : Int) < (S : Int) := by omega
      have hk := Bk.new w 40 [.int .u8 0, .bool false, .int .u32 (n : Int), .slice A L ca, .slice B S cb]
      have HB0 := Lib.hid (bel1 w (.cells #[.int .u8 0, .bool false, .int .u32 (n : Int), .slice A L ca, .slice B S cb] 40))
      obtain ⟨W, hW⟩ : ∃ W, w.alloc (.cells #[.int .u8 0, .bool false, .int .u32 (n : Int), .slice A L ca, .slice B S cb] 40) = W := ⟨_, rfl⟩
      rw [hW] at hk HB0
      show Calls Try.prog 32 #[.agg #[.int .u8 0, .bool false, .int .u32 (n : Int), .slice A L ca, .slice B S cb], .int .u32 (n : Int)] w _
      go_enter Try.func32, Try.ntmps32
      go_wp2_with fail
      have HK := Lib.hid hk
      obtain ⟨c0, c1, c2, c3, c4, hsz⟩ := Bk.five hk
      have b1 := Below.refl W.heap.size W
      clear hW hk
      go_region_held3 (fun w' => w'.cell? ⟨w.heap.size, 0, none⟩ = some (.int .u8 0) ∧ w'.cell? ⟨w.heap.size, 1, none⟩ = some (.bool false) ∧ w'.cell? ⟨w.heap.size, 2, none⟩ = some (.int .u32 (n : Int)))
        (first | exact ⟨c0, c1, c2⟩ | exact ⟨(hb1.cell (p := ⟨w.heap.size, 0, none⟩) hsz).trans c0, (hb1.cell (p := ⟨w.heap.size, 1, none⟩) hsz).trans c1, (hb1.cell (p := ⟨w.heap.size, 2, none⟩) hsz).trans c2⟩)
        (first | (go_at_call 31; refine (tag_any n _).mono ?_; rintro e w1 ⟨rfl, hb1⟩))
      have HB1 := Lib.hid (b1.drew.trans (hb1.mono b1.drew.size))
      have HK1 := Lib.hid (HK.out.below HB1.out hsz)
      have HB01 := bt HB0 HB1
      obtain ⟨d0, d1, d2, d3, d4, hsz1⟩ := Bk.five HK1.out
      clear hb1 b1 c0 c1 c2 c3 c4
      go_wp2_with fail
      go_ret
      exact ⟨rfl, HB01.out⟩
    · rw [wrg_0 hS]
      obtain rfl : S = 0 := by omega
      clear hS
      have hk := Bk.new w 40 [.int .u8 0, .bool false, .int .u32 (n : Int), .slice A L ca, .slice B 0 cb]
      have HB0 := Lib.hid (bel1 w (.cells #[.int .u8 0, .bool false, .int .u32 (n : Int), .slice A L ca, .slice B 0 cb] 40))
      obtain ⟨W, hW⟩ : ∃ W, w.alloc (.cells #[.int .u8 0, .bool false, .int .u32 (n : Int), .slice A L ca, .slice B 0 cb] 40) = W := ⟨_, rfl⟩
      rw [hW] at hk HB0
      show Calls Try.prog 32 #[.agg #[.int .u8 0, .bool false, .int .u32 (n : Int), .slice A L ca, .slice B 0 cb], .int .u32 (n : Int)] w _
      go_enter Try.func32, Try.ntmps32
      go_wp2_with fail
      have HK := Lib.hid hk
      obtain ⟨c0, c1, c2, c3, c4, hsz⟩ := Bk.five hk
      have b1 := Below.refl W.heap.size W
      clear hW hk
      go_region_held3 (fun w' => w'.cell? ⟨w.heap.size, 0, none⟩ = some (.int .u8 0) ∧ w'.cell? ⟨w.heap.size, 1, none⟩ = some (.bool false) ∧ w'.cell? ⟨w.heap.size, 2, none⟩ = some (.int .u32 (n : Int)))
        (first | exact ⟨c0, c1, c2⟩ | exact ⟨(hb1.cell (p := ⟨w.heap.size, 0, none⟩) hsz).trans c0, (hb1.cell (p := ⟨w.heap.size, 1, none⟩) hsz).trans c1, (hb1.cell (p := ⟨w.heap.size, 2, none⟩) hsz).trans c2⟩)
        (first | (go_at_call 31; refine (tag_any n _).mono ?_; rintro e w1 ⟨rfl, hb1⟩))
      have HB1 := Lib.hid (b1.drew.trans (hb1.mono b1.drew.size))
      have HK1 := Lib.hid (HK.out.below HB1.out hsz)
      have HB01 := bt HB0 HB1
      obtain ⟨d0, d1, d2, d3, d4, hsz1⟩ := Bk.five HK1.out
      clear hb1 b1 c0 c1 c2 c3 c4
      go_wp2_with fail
      go_ret
      exact ⟨rfl, HB01.out⟩

end Go.Proofs.Ytnebjdgolbnkfaa.Bit
