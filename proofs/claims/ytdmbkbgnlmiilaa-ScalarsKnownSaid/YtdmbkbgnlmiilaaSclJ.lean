/-
  Layer 5: contracts of value (each of its instances), by what it calls.
  Conditions: the element's octets read as bytes.
-/
import Derived.Test.YtdmbkbgnlmiilaaSclI
import Derived.Deep.RegionHeld3
namespace Go.Proofs.Ytdmbkbgnlmiilaa.Scl
open Go.RowKit

/-- The error of an element that must have a tag number, before its content. -/
def wrg (c n : Nat) (k : Bool) (S num : Nat) : Nat := if c = 0 ∧ k = false ∧ n = num then (if 0 < S then 1 else 0) else 9
theorem wrg_9 {c n : Nat} {k : Bool} {S num : Nat} (h : ¬ (c = 0 ∧ k = false ∧ n = num)) : wrg c n k S num = 9 := by unfold wrg; rw [if_neg h]
theorem wrg_1 {n S : Nat} (h : 0 < S) : wrg 0 n false S n = 1 := by unfold wrg; rw [if_pos ⟨rfl, rfl, rfl⟩, if_pos h]
theorem wrg_0 {n S : Nat} (h : ¬ 0 < S) : wrg 0 n false S n = 0 := by unfold wrg; rw [if_pos ⟨rfl, rfl, rfl⟩, if_neg h]
theorem wrg_or (c n : Nat) (k : Bool) (S num : Nat) : wrg c n k S num = 0 ∨ wrg c n k S num = 1 ∨ wrg c n k S num = 9 := by unfold wrg; repeat (first | omega | split)
@[reducible] def cellsE (c n : Nat) (k : Bool) (u v : Value) : List Value := [.int .u8 (c : Int), .bool k, .int .u32 (n : Int), u, v]

set_option maxRecDepth 100000 in
set_option maxHeartbeats 2000000 in
theorem value_int (K : Nat) (c n : Nat) (k : Bool) (A B : Option Addr) (L ca S cb num : Nat) (z : Int) (f : Nat) (w : World) (hK : ∀ (args : Array Value) (w : World), (callFunc K args).run Try.prog w = .ok (.enter K args) w)
    (h : ∀ w1, Below w.heap.size w w1 → Calls Try.prog K #[.slice A L ca] w1 fun e w' => e = .returned (.tuple #[.int .i64 z, .int .i64 (f : Int)]) ∧ Below w1.heap.size w1 w') :
    Calls Try.prog 38 #[elV c n k (.slice A L ca) (.slice B S cb), .int .u32 (num : Int), .func (.func K) #[] #[]] w fun e w' =>
      e = .returned (.tuple #[.int .i64 (if wrg c n k S num = 0 then z else 0), .int .i64 (((if wrg c n k S num = 0 then f else wrg c n k S num) : Nat) : Int)]) ∧ Below w.heap.size w w' := by
  have HH := Lib.hid h
  clear h
  by_cases hc : c = 0
  rotate_left
  · have hw := wrg_9 (S := S) (show ¬ (c = 0 ∧ k = false ∧ n = num) from fun h => hc h.1)
    have hcb : ((c : Int) == 0) = false := by simp; exact hc
    rw [hw]
    clear hc hw
    have hk := Bk.new w 34 [.int .u8 (c : Int), .bool k, .int .u32 (n : Int), .slice A L ca, .slice B S cb]
    have HB0 := Lib.hid (bel1 w (.cells #[.int .u8 (c : Int), .bool k, .int .u32 (n : Int), .slice A L ca, .slice B S cb] 34))
    obtain ⟨W, hW⟩ : ∃ W, w.alloc (.cells #[.int .u8 (c : Int), .bool k, .int .u32 (n : Int), .slice A L ca, .slice B S cb] 34) = W := ⟨_, rfl⟩
    rw [hW] at hk HB0
    show Calls Try.prog 38 #[.agg #[.int .u8 (c : Int), .bool k, .int .u32 (n : Int), .slice A L ca, .slice B S cb], .int .u32 (num : Int), .func (.func K) #[] #[]] w _
    go_enter Try.func38, Try.ntmps38
    go_wp2_with fail
    have HK := Lib.hid hk
    obtain ⟨c0, c1, c2, c3, c4, hsz⟩ := Bk.five hk
    have b1 := Below.refl W.heap.size W
    clear hW hk
    go_region_held3 (fun w' => w'.cell? ⟨w.heap.size, 0, none⟩ = some (.int .u8 (c : Int)) ∧ w'.cell? ⟨w.heap.size, 1, none⟩ = some (.bool k) ∧ w'.cell? ⟨w.heap.size, 2, none⟩ = some (.int .u32 (n : Int)))
      (first | exact ⟨c0, c1, c2⟩ | exact ⟨(hb1.cell (p := ⟨w.heap.size, 0, none⟩) hsz).trans c0, (hb1.cell (p := ⟨w.heap.size, 1, none⟩) hsz).trans c1, (hb1.cell (p := ⟨w.heap.size, 2, none⟩) hsz).trans c2⟩)
      (first | (go_at_call 50; refine (tag_any num _).mono ?_; rintro e w1 ⟨rfl, hb1⟩))
    have HB1 := Lib.hid (b1.drew.trans (hb1.mono b1.drew.size))
    have HK1 := Lib.hid (HK.out.below HB1.out hsz)
    have HB01 := bt HB0 HB1
    obtain ⟨d0, d1, d2, d3, d4, hsz1⟩ := Bk.five HK1.out
    clear hb1 b1 c0 c1 c2 c3 c4
    go_wp2_with fail
    go_ret2
    exact ⟨rfl, HB01.out⟩
  subst hc
  cases k with
  | true =>
    rw [wrg_9 (S := S) (show ¬ (0 = 0 ∧ true = false ∧ n = num) by simp)]
    have hk := Bk.new w 34 [.int .u8 0, .bool true, .int .u32 (n : Int), .slice A L ca, .slice B S cb]
    have HB0 := Lib.hid (bel1 w (.cells #[.int .u8 0, .bool true, .int .u32 (n : Int), .slice A L ca, .slice B S cb] 34))
    obtain ⟨W, hW⟩ : ∃ W, w.alloc (.cells #[.int .u8 0, .bool true, .int .u32 (n : Int), .slice A L ca, .slice B S cb] 34) = W := ⟨_, rfl⟩
    rw [hW] at hk HB0
    show Calls Try.prog 38 #[.agg #[.int .u8 0, .bool true, .int .u32 (n : Int), .slice A L ca, .slice B S cb], .int .u32 (num : Int), .func (.func K) #[] #[]] w _
    go_enter Try.func38, Try.ntmps38
    go_wp2_with fail
    have HK := Lib.hid hk
    obtain ⟨c0, c1, c2, c3, c4, hsz⟩ := Bk.five hk
    have b1 := Below.refl W.heap.size W
    clear hW hk
    go_region_held3 (fun w' => w'.cell? ⟨w.heap.size, 0, none⟩ = some (.int .u8 0) ∧ w'.cell? ⟨w.heap.size, 1, none⟩ = some (.bool true) ∧ w'.cell? ⟨w.heap.size, 2, none⟩ = some (.int .u32 (n : Int)))
      (first | exact ⟨c0, c1, c2⟩ | exact ⟨(hb1.cell (p := ⟨w.heap.size, 0, none⟩) hsz).trans c0, (hb1.cell (p := ⟨w.heap.size, 1, none⟩) hsz).trans c1, (hb1.cell (p := ⟨w.heap.size, 2, none⟩) hsz).trans c2⟩)
      (first | (go_at_call 50; refine (tag_any num _).mono ?_; rintro e w1 ⟨rfl, hb1⟩))
    have HB1 := Lib.hid (b1.drew.trans (hb1.mono b1.drew.size))
    have HK1 := Lib.hid (HK.out.below HB1.out hsz)
    have HB01 := bt HB0 HB1
    obtain ⟨d0, d1, d2, d3, d4, hsz1⟩ := Bk.five HK1.out
    clear hb1 b1 c0 c1 c2 c3 c4
    go_wp2_with fail
    go_ret2
    exact ⟨rfl, HB01.out⟩
  | false =>
    by_cases hn : n = num
    rotate_left
    · have hw := wrg_9 (c := 0) (k := false) (S := S) (show ¬ (0 = 0 ∧ false = false ∧ n = num) from fun h => hn h.2.2)
      have hcb : ((n : Int) == (num : Int)) = false := by simp; omega
      rw [hw]
      clear hn hw
      have hk := Bk.new w 34 [.int .u8 0, .bool false, .int .u32 (n : Int), .slice A L ca, .slice B S cb]
      have HB0 := Lib.hid (bel1 w (.cells #[.int .u8 0, .bool false, .int .u32 (n : Int), .slice A L ca, .slice B S cb] 34))
      obtain ⟨W, hW⟩ : ∃ W, w.alloc (.cells #[.int .u8 0, .bool false, .int .u32 (n : Int), .slice A L ca, .slice B S cb] 34) = W := ⟨_, rfl⟩
      rw [hW] at hk HB0
      show Calls Try.prog 38 #[.agg #[.int .u8 0, .bool false, .int .u32 (n : Int), .slice A L ca, .slice B S cb], .int .u32 (num : Int), .func (.func K) #[] #[]] w _
      go_enter Try.func38, Try.ntmps38
      go_wp2_with fail
      have HK := Lib.hid hk
      obtain ⟨c0, c1, c2, c3, c4, hsz⟩ := Bk.five hk
      have b1 := Below.refl W.heap.size W
      clear hW hk
      go_region_held3 (fun w' => w'.cell? ⟨w.heap.size, 0, none⟩ = some (.int .u8 0) ∧ w'.cell? ⟨w.heap.size, 1, none⟩ = some (.bool false) ∧ w'.cell? ⟨w.heap.size, 2, none⟩ = some (.int .u32 (n : Int)))
        (first | exact ⟨c0, c1, c2⟩ | exact ⟨(hb1.cell (p := ⟨w.heap.size, 0, none⟩) hsz).trans c0, (hb1.cell (p := ⟨w.heap.size, 1, none⟩) hsz).trans c1, (hb1.cell (p := ⟨w.heap.size, 2, none⟩) hsz).trans c2⟩)
        (first | (go_at_call 50; refine (tag_any num _).mono ?_; rintro e w1 ⟨rfl, hb1⟩))
      have HB1 := Lib.hid (b1.drew.trans (hb1.mono b1.drew.size))
      have HK1 := Lib.hid (HK.out.below HB1.out hsz)
      have HB01 := bt HB0 HB1
      obtain ⟨d0, d1, d2, d3, d4, hsz1⟩ := Bk.five HK1.out
      clear hb1 b1 c0 c1 c2 c3 c4
      go_wp2_with fail
      go_ret2
      exact ⟨rfl, HB01.out⟩
    subst hn
    by_cases hS : 0 < S
    · rw [wrg_1 hS]
      have hSb : decide ((S : Int) > 0) = true := by simp; omega
      have hk := Bk.new w 34 [.int .u8 0, .bool false, .int .u32 (n : Int), .slice A L ca, .slice B S cb]
      have HB0 := Lib.hid (bel1 w (.cells #[.int .u8 0, .bool false, .int .u32 (n : Int), .slice A L ca, .slice B S cb] 34))
      obtain ⟨W, hW⟩ : ∃ W, w.alloc (.cells #[.int .u8 0, .bool false, .int .u32 (n : Int), .slice A L ca, .slice B S cb] 34) = W := ⟨_, rfl⟩
      rw [hW] at hk HB0
      show Calls Try.prog 38 #[.agg #[.int .u8 0, .bool false, .int .u32 (n : Int), .slice A L ca, .slice B S cb], .int .u32 (n : Int), .func (.func K) #[] #[]] w _
      go_enter Try.func38, Try.ntmps38
      go_wp2_with fail
      have HK := Lib.hid hk
      obtain ⟨c0, c1, c2, c3, c4, hsz⟩ := Bk.five hk
      have b1 := Below.refl W.heap.size W
      clear hW hk
      go_region_held3 (fun w' => w'.cell? ⟨w.heap.size, 0, none⟩ = some (.int .u8 0) ∧ w'.cell? ⟨w.heap.size, 1, none⟩ = some (.bool false) ∧ w'.cell? ⟨w.heap.size, 2, none⟩ = some (.int .u32 (n : Int)))
        (first | exact ⟨c0, c1, c2⟩ | exact ⟨(hb1.cell (p := ⟨w.heap.size, 0, none⟩) hsz).trans c0, (hb1.cell (p := ⟨w.heap.size, 1, none⟩) hsz).trans c1, (hb1.cell (p := ⟨w.heap.size, 2, none⟩) hsz).trans c2⟩)
        (first | (go_at_call 50; refine (tag_any n _).mono ?_; rintro e w1 ⟨rfl, hb1⟩))
      have HB1 := Lib.hid (b1.drew.trans (hb1.mono b1.drew.size))
      have HK1 := Lib.hid (HK.out.below HB1.out hsz)
      have HB01 := bt HB0 HB1
      obtain ⟨d0, d1, d2, d3, d4, hsz1⟩ := Bk.five HK1.out
      clear hb1 b1 c0 c1 c2 c3 c4
      go_wp2_with fail
      go_ret2
      exact ⟨rfl, HB01.out⟩
    · rw [wrg_0 hS]
      have hSb : decide ((S : Int) > 0) = false := by simp; omega
      have hk := Bk.new w 34 [.int .u8 0, .bool false, .int .u32 (n : Int), .slice A L ca, .slice B S cb]
      have HB0 := Lib.hid (bel1 w (.cells #[.int .u8 0, .bool false, .int .u32 (n : Int), .slice A L ca, .slice B S cb] 34))
      obtain ⟨W, hW⟩ : ∃ W, w.alloc (.cells #[.int .u8 0, .bool false, .int .u32 (n : Int), .slice A L ca, .slice B S cb] 34) = W := ⟨_, rfl⟩
      rw [hW] at hk HB0
      show Calls Try.prog 38 #[.agg #[.int .u8 0, .bool false, .int .u32 (n : Int), .slice A L ca, .slice B S cb], .int .u32 (n : Int), .func (.func K) #[] #[]] w _
      go_enter Try.func38, Try.ntmps38
      go_wp2_with fail
      have HK := Lib.hid hk
      obtain ⟨c0, c1, c2, c3, c4, hsz⟩ := Bk.five hk
      have b1 := Below.refl W.heap.size W
      clear hW hk
      go_region_held3 (fun w' => w'.cell? ⟨w.heap.size, 0, none⟩ = some (.int .u8 0) ∧ w'.cell? ⟨w.heap.size, 1, none⟩ = some (.bool false) ∧ w'.cell? ⟨w.heap.size, 2, none⟩ = some (.int .u32 (n : Int)))
        (first | exact ⟨c0, c1, c2⟩ | exact ⟨(hb1.cell (p := ⟨w.heap.size, 0, none⟩) hsz).trans c0, (hb1.cell (p := ⟨w.heap.size, 1, none⟩) hsz).trans c1, (hb1.cell (p := ⟨w.heap.size, 2, none⟩) hsz).trans c2⟩)
        (first | (go_at_call 50; refine (tag_any n _).mono ?_; rintro e w1 ⟨rfl, hb1⟩))
      have HB1 := Lib.hid (b1.drew.trans (hb1.mono b1.drew.size))
      have HK1 := Lib.hid (HK.out.below HB1.out hsz)
      have HB01 := bt HB0 HB1
      obtain ⟨d0, d1, d2, d3, d4, hsz1⟩ := Bk.five HK1.out
      clear hb1 b1 c0 c1 c2 c3 c4
      go_wp2_with fail
      refine (HH.out _ HB01.out).mono ?_
      rintro e w2 ⟨rfl, hb⟩
      have HB2 := bt HB01 (Lib.hid hb)
      clear hb
      go_wp2_with fail
      go_ret2
      exact ⟨rfl, HB2.out⟩

set_option maxRecDepth 100000 in
set_option maxHeartbeats 2000000 in
theorem value_bool (K : Nat) (c n : Nat) (k : Bool) (A B : Option Addr) (L ca S cb num : Nat) (z : Bool) (f : Nat) (w : World) (hK : ∀ (args : Array Value) (w : World), (callFunc K args).run Try.prog w = .ok (.enter K args) w)
    (h : ∀ w1, Below w.heap.size w w1 → Calls Try.prog K #[.slice A L ca] w1 fun e w' => e = .returned (.tuple #[.bool z, .int .i64 (f : Int)]) ∧ Below w1.heap.size w1 w') :
    Calls Try.prog 47 #[elV c n k (.slice A L ca) (.slice B S cb), .int .u32 (num : Int), .func (.func K) #[] #[]] w fun e w' =>
      e = .returned (.tuple #[.bool (if wrg c n k S num = 0 then z else false), .int .i64 (((if wrg c n k S num = 0 then f else wrg c n k S num) : Nat) : Int)]) ∧ Below w.heap.size w w' := by
  have HH := Lib.hid h
  clear h
  by_cases hc : c = 0
  rotate_left
  · have hw := wrg_9 (S := S) (show ¬ (c = 0 ∧ k = false ∧ n = num) from fun h => hc h.1)
    have hcb : ((c : Int) == 0) = false := by simp; exact hc
    rw [hw]
    clear hc hw
    have hk := Bk.new w 34 [.int .u8 (c : Int), .bool k, .int .u32 (n : Int), .slice A L ca, .slice B S cb]
    have HB0 := Lib.hid (bel1 w (.cells #[.int .u8 (c : Int), .bool k, .int .u32 (n : Int), .slice A L ca, .slice B S cb] 34))
    obtain ⟨W, hW⟩ : ∃ W, w.alloc (.cells #[.int .u8 (c : Int), .bool k, .int .u32 (n : Int), .slice A L ca, .slice B S cb] 34) = W := ⟨_, rfl⟩
    rw [hW] at hk HB0
    show Calls Try.prog 47 #[.agg #[.int .u8 (c : Int), .bool k, .int .u32 (n : Int), .slice A L ca, .slice B S cb], .int .u32 (num : Int), .func (.func K) #[] #[]] w _
    go_enter Try.func47, Try.ntmps47
    go_wp2_with fail
    have HK := Lib.hid hk
    obtain ⟨c0, c1, c2, c3, c4, hsz⟩ := Bk.five hk
    have b1 := Below.refl W.heap.size W
    clear hW hk
    go_region_held3 (fun w' => w'.cell? ⟨w.heap.size, 0, none⟩ = some (.int .u8 (c : Int)) ∧ w'.cell? ⟨w.heap.size, 1, none⟩ = some (.bool k) ∧ w'.cell? ⟨w.heap.size, 2, none⟩ = some (.int .u32 (n : Int)))
      (first | exact ⟨c0, c1, c2⟩ | exact ⟨(hb1.cell (p := ⟨w.heap.size, 0, none⟩) hsz).trans c0, (hb1.cell (p := ⟨w.heap.size, 1, none⟩) hsz).trans c1, (hb1.cell (p := ⟨w.heap.size, 2, none⟩) hsz).trans c2⟩)
      (first | (go_at_call 50; refine (tag_any num _).mono ?_; rintro e w1 ⟨rfl, hb1⟩))
    have HB1 := Lib.hid (b1.drew.trans (hb1.mono b1.drew.size))
    have HK1 := Lib.hid (HK.out.below HB1.out hsz)
    have HB01 := bt HB0 HB1
    obtain ⟨d0, d1, d2, d3, d4, hsz1⟩ := Bk.five HK1.out
    clear hb1 b1 c0 c1 c2 c3 c4
    go_wp2_with fail
    go_ret2
    exact ⟨rfl, HB01.out⟩
  subst hc
  cases k with
  | true =>
    rw [wrg_9 (S := S) (show ¬ (0 = 0 ∧ true = false ∧ n = num) by simp)]
    have hk := Bk.new w 34 [.int .u8 0, .bool true, .int .u32 (n : Int), .slice A L ca, .slice B S cb]
    have HB0 := Lib.hid (bel1 w (.cells #[.int .u8 0, .bool true, .int .u32 (n : Int), .slice A L ca, .slice B S cb] 34))
    obtain ⟨W, hW⟩ : ∃ W, w.alloc (.cells #[.int .u8 0, .bool true, .int .u32 (n : Int), .slice A L ca, .slice B S cb] 34) = W := ⟨_, rfl⟩
    rw [hW] at hk HB0
    show Calls Try.prog 47 #[.agg #[.int .u8 0, .bool true, .int .u32 (n : Int), .slice A L ca, .slice B S cb], .int .u32 (num : Int), .func (.func K) #[] #[]] w _
    go_enter Try.func47, Try.ntmps47
    go_wp2_with fail
    have HK := Lib.hid hk
    obtain ⟨c0, c1, c2, c3, c4, hsz⟩ := Bk.five hk
    have b1 := Below.refl W.heap.size W
    clear hW hk
    go_region_held3 (fun w' => w'.cell? ⟨w.heap.size, 0, none⟩ = some (.int .u8 0) ∧ w'.cell? ⟨w.heap.size, 1, none⟩ = some (.bool true) ∧ w'.cell? ⟨w.heap.size, 2, none⟩ = some (.int .u32 (n : Int)))
      (first | exact ⟨c0, c1, c2⟩ | exact ⟨(hb1.cell (p := ⟨w.heap.size, 0, none⟩) hsz).trans c0, (hb1.cell (p := ⟨w.heap.size, 1, none⟩) hsz).trans c1, (hb1.cell (p := ⟨w.heap.size, 2, none⟩) hsz).trans c2⟩)
      (first | (go_at_call 50; refine (tag_any num _).mono ?_; rintro e w1 ⟨rfl, hb1⟩))
    have HB1 := Lib.hid (b1.drew.trans (hb1.mono b1.drew.size))
    have HK1 := Lib.hid (HK.out.below HB1.out hsz)
    have HB01 := bt HB0 HB1
    obtain ⟨d0, d1, d2, d3, d4, hsz1⟩ := Bk.five HK1.out
    clear hb1 b1 c0 c1 c2 c3 c4
    go_wp2_with fail
    go_ret2
    exact ⟨rfl, HB01.out⟩
  | false =>
    by_cases hn : n = num
    rotate_left
    · have hw := wrg_9 (c := 0) (k := false) (S := S) (show ¬ (0 = 0 ∧ false = false ∧ n = num) from fun h => hn h.2.2)
      have hcb : ((n : Int) == (num : Int)) = false := by simp; omega
      rw [hw]
      clear hn hw
      have hk := Bk.new w 34 [.int .u8 0, .bool false, .int .u32 (n : Int), .slice A L ca, .slice B S cb]
      have HB0 := Lib.hid (bel1 w (.cells #[.int .u8 0, .bool false, .int .u32 (n : Int), .slice A L ca, .slice B S cb] 34))
      obtain ⟨W, hW⟩ : ∃ W, w.alloc (.cells #[.int .u8 0, .bool false, .int .u32 (n : Int), .slice A L ca, .slice B S cb] 34) = W := ⟨_, rfl⟩
      rw [hW] at hk HB0
      show Calls Try.prog 47 #[.agg #[.int .u8 0, .bool false, .int .u32 (n : Int), .slice A L ca, .slice B S cb], .int .u32 (num : Int), .func (.func K) #[] #[]] w _
      go_enter Try.func47, Try.ntmps47
      go_wp2_with fail
      have HK := Lib.hid hk
      obtain ⟨c0, c1, c2, c3, c4, hsz⟩ := Bk.five hk
      have b1 := Below.refl W.heap.size W
      clear hW hk
      go_region_held3 (fun w' => w'.cell? ⟨w.heap.size, 0, none⟩ = some (.int .u8 0) ∧ w'.cell? ⟨w.heap.size, 1, none⟩ = some (.bool false) ∧ w'.cell? ⟨w.heap.size, 2, none⟩ = some (.int .u32 (n : Int)))
        (first | exact ⟨c0, c1, c2⟩ | exact ⟨(hb1.cell (p := ⟨w.heap.size, 0, none⟩) hsz).trans c0, (hb1.cell (p := ⟨w.heap.size, 1, none⟩) hsz).trans c1, (hb1.cell (p := ⟨w.heap.size, 2, none⟩) hsz).trans c2⟩)
        (first | (go_at_call 50; refine (tag_any num _).mono ?_; rintro e w1 ⟨rfl, hb1⟩))
      have HB1 := Lib.hid (b1.drew.trans (hb1.mono b1.drew.size))
      have HK1 := Lib.hid (HK.out.below HB1.out hsz)
      have HB01 := bt HB0 HB1
      obtain ⟨d0, d1, d2, d3, d4, hsz1⟩ := Bk.five HK1.out
      clear hb1 b1 c0 c1 c2 c3 c4
      go_wp2_with fail
      go_ret2
      exact ⟨rfl, HB01.out⟩
    subst hn
    by_cases hS : 0 < S
    · rw [wrg_1 hS]
      have hSb : decide ((S : Int) > 0) = true := by simp; omega
      have hk := Bk.new w 34 [.int .u8 0, .bool false, .int .u32 (n : Int), .slice A L ca, .slice B S cb]
      have HB0 := Lib.hid (bel1 w (.cells #[.int .u8 0, .bool false, .int .u32 (n : Int), .slice A L ca, .slice B S cb] 34))
      obtain ⟨W, hW⟩ : ∃ W, w.alloc (.cells #[.int .u8 0, .bool false, .int .u32 (n : Int), .slice A L ca, .slice B S cb] 34) = W := ⟨_, rfl⟩
      rw [hW] at hk HB0
      show Calls Try.prog 47 #[.agg #[.int .u8 0, .bool false, .int .u32 (n : Int), .slice A L ca, .slice B S cb], .int .u32 (n : Int), .func (.func K) #[] #[]] w _
      go_enter Try.func47, Try.ntmps47
      go_wp2_with fail
      have HK := Lib.hid hk
      obtain ⟨c0, c1, c2, c3, c4, hsz⟩ := Bk.five hk
      have b1 := Below.refl W.heap.size W
      clear hW hk
      go_region_held3 (fun w' => w'.cell? ⟨w.heap.size, 0, none⟩ = some (.int .u8 0) ∧ w'.cell? ⟨w.heap.size, 1, none⟩ = some (.bool false) ∧ w'.cell? ⟨w.heap.size, 2, none⟩ = some (.int .u32 (n : Int)))
        (first | exact ⟨c0, c1, c2⟩ | exact ⟨(hb1.cell (p := ⟨w.heap.size, 0, none⟩) hsz).trans c0, (hb1.cell (p := ⟨w.heap.size, 1, none⟩) hsz).trans c1, (hb1.cell (p := ⟨w.heap.size, 2, none⟩) hsz).trans c2⟩)
        (first | (go_at_call 50; refine (tag_any n _).mono ?_; rintro e w1 ⟨rfl, hb1⟩))
      have HB1 := Lib.hid (b1.drew.trans (hb1.mono b1.drew.size))
      have HK1 := Lib.hid (HK.out.below HB1.out hsz)
      have HB01 := bt HB0 HB1
      obtain ⟨d0, d1, d2, d3, d4, hsz1⟩ := Bk.five HK1.out
      clear hb1 b1 c0 c1 c2 c3 c4
      go_wp2_with fail
      go_ret2
      exact ⟨rfl, HB01.out⟩
    · rw [wrg_0 hS]
      have hSb : decide ((S : Int) > 0) = false := by simp; omega
      have hk := Bk.new w 34 [.int .u8 0, .bool false, .int .u32 (n : Int), .slice A L ca, .slice B S cb]
      have HB0 := Lib.hid (bel1 w (.cells #[.int .u8 0, .bool false, .int .u32 (n : Int), .slice A L ca, .slice B S cb] 34))
      obtain ⟨W, hW⟩ : ∃ W, w.alloc (.cells #[.int .u8 0, .bool false, .int .u32 (n : Int), .slice A L ca, .slice B S cb] 34) = W := ⟨_, rfl⟩
      rw [hW] at hk HB0
      show Calls Try.prog 47 #[.agg #[.int .u8 0, .bool false, .int .u32 (n : Int), .slice A L ca, .slice B S cb], .int .u32 (n : Int), .func (.func K) #[] #[]] w _
      go_enter Try.func47, Try.ntmps47
      go_wp2_with fail
      have HK := Lib.hid hk
      obtain ⟨c0, c1, c2, c3, c4, hsz⟩ := Bk.five hk
      have b1 := Below.refl W.heap.size W
      clear hW hk
      go_region_held3 (fun w' => w'.cell? ⟨w.heap.size, 0, none⟩ = some (.int .u8 0) ∧ w'.cell? ⟨w.heap.size, 1, none⟩ = some (.bool false) ∧ w'.cell? ⟨w.heap.size, 2, none⟩ = some (.int .u32 (n : Int)))
        (first | exact ⟨c0, c1, c2⟩ | exact ⟨(hb1.cell (p := ⟨w.heap.size, 0, none⟩) hsz).trans c0, (hb1.cell (p := ⟨w.heap.size, 1, none⟩) hsz).trans c1, (hb1.cell (p := ⟨w.heap.size, 2, none⟩) hsz).trans c2⟩)
        (first | (go_at_call 50; refine (tag_any n _).mono ?_; rintro e w1 ⟨rfl, hb1⟩))
      have HB1 := Lib.hid (b1.drew.trans (hb1.mono b1.drew.size))
      have HK1 := Lib.hid (HK.out.below HB1.out hsz)
      have HB01 := bt HB0 HB1
      obtain ⟨d0, d1, d2, d3, d4, hsz1⟩ := Bk.five HK1.out
      clear hb1 b1 c0 c1 c2 c3 c4
      go_wp2_with fail
      refine (HH.out _ HB01.out).mono ?_
      rintro e w2 ⟨rfl, hb⟩
      have HB2 := bt HB01 (Lib.hid hb)
      clear hb
      go_wp2_with fail
      go_ret2
      exact ⟨rfl, HB2.out⟩

set_option maxRecDepth 100000 in
set_option maxHeartbeats 2000000 in
theorem value_nat (K : Nat) (c n : Nat) (k : Bool) (A B : Option Addr) (L ca S cb num : Nat) (z : List Nat) (f : Nat) (w : World) (hK : ∀ (args : Array Value) (w : World), (callFunc K args).run Try.prog w = .ok (.enter K args) w)
    (h : ∀ w1, Below w.heap.size w w1 → Calls Try.prog K #[.slice A L ca] w1 fun e w' => ∃ A', e = .returned (.tuple #[.slice A' z.length z.length, .int .i64 (f : Int)]) ∧ Rb w' A' z ∧ Below w1.heap.size w1 w') :
    Calls Try.prog 46 #[elV c n k (.slice A L ca) (.slice B S cb), .int .u32 (num : Int), .func (.func K) #[] #[]] w fun e w' =>
      ∃ A', e = .returned (.tuple #[.slice A' (if wrg c n k S num = 0 then z else []).length (if wrg c n k S num = 0 then z else []).length, .int .i64 (((if wrg c n k S num = 0 then f else wrg c n k S num) : Nat) : Int)]) ∧ Rb w' A' (if wrg c n k S num = 0 then z else []) ∧ Below w.heap.size w w' := by
  have HH := Lib.hid h
  clear h
  by_cases hc : c = 0
  rotate_left
  · have hw := wrg_9 (S := S) (show ¬ (c = 0 ∧ k = false ∧ n = num) from fun h => hc h.1)
    have hcb : ((c : Int) == 0) = false := by simp; exact hc
    rw [hw]
    clear hc hw
    have hk := Bk.new w 34 [.int .u8 (c : Int), .bool k, .int .u32 (n : Int), .slice A L ca, .slice B S cb]
    have HB0 := Lib.hid (bel1 w (.cells #[.int .u8 (c : Int), .bool k, .int .u32 (n : Int), .slice A L ca, .slice B S cb] 34))
    obtain ⟨W, hW⟩ : ∃ W, w.alloc (.cells #[.int .u8 (c : Int), .bool k, .int .u32 (n : Int), .slice A L ca, .slice B S cb] 34) = W := ⟨_, rfl⟩
    rw [hW] at hk HB0
    show Calls Try.prog 46 #[.agg #[.int .u8 (c : Int), .bool k, .int .u32 (n : Int), .slice A L ca, .slice B S cb], .int .u32 (num : Int), .func (.func K) #[] #[]] w _
    go_enter Try.func46, Try.ntmps46
    go_wp2_with fail
    have HK := Lib.hid hk
    obtain ⟨c0, c1, c2, c3, c4, hsz⟩ := Bk.five hk
    have b1 := Below.refl W.heap.size W
    clear hW hk
    go_region_held3 (fun w' => w'.cell? ⟨w.heap.size, 0, none⟩ = some (.int .u8 (c : Int)) ∧ w'.cell? ⟨w.heap.size, 1, none⟩ = some (.bool k) ∧ w'.cell? ⟨w.heap.size, 2, none⟩ = some (.int .u32 (n : Int)))
      (first | exact ⟨c0, c1, c2⟩ | exact ⟨(hb1.cell (p := ⟨w.heap.size, 0, none⟩) hsz).trans c0, (hb1.cell (p := ⟨w.heap.size, 1, none⟩) hsz).trans c1, (hb1.cell (p := ⟨w.heap.size, 2, none⟩) hsz).trans c2⟩)
      (first | (go_at_call 50; refine (tag_any num _).mono ?_; rintro e w1 ⟨rfl, hb1⟩))
    have HB1 := Lib.hid (b1.drew.trans (hb1.mono b1.drew.size))
    have HK1 := Lib.hid (HK.out.below HB1.out hsz)
    have HB01 := bt HB0 HB1
    obtain ⟨d0, d1, d2, d3, d4, hsz1⟩ := Bk.five HK1.out
    clear hb1 b1 c0 c1 c2 c3 c4
    go_wp2_with fail
    go_ret2
    exact ⟨none, rfl, Rb.nil, HB01.out⟩
  subst hc
  cases k with
  | true =>
    rw [wrg_9 (S := S) (show ¬ (0 = 0 ∧ true = false ∧ n = num) by simp)]
    have hk := Bk.new w 34 [.int .u8 0, .bool true, .int .u32 (n : Int), .slice A L ca, .slice B S cb]
    have HB0 := Lib.hid (bel1 w (.cells #[.int .u8 0, .bool true, .int .u32 (n : Int), .slice A L ca, .slice B S cb] 34))
    obtain ⟨W, hW⟩ : ∃ W, w.alloc (.cells #[.int .u8 0, .bool true, .int .u32 (n : Int), .slice A L ca, .slice B S cb] 34) = W := ⟨_, rfl⟩
    rw [hW] at hk HB0
    show Calls Try.prog 46 #[.agg #[.int .u8 0, .bool true, .int .u32 (n : Int), .slice A L ca, .slice B S cb], .int .u32 (num : Int), .func (.func K) #[] #[]] w _
    go_enter Try.func46, Try.ntmps46
    go_wp2_with fail
    have HK := Lib.hid hk
    obtain ⟨c0, c1, c2, c3, c4, hsz⟩ := Bk.five hk
    have b1 := Below.refl W.heap.size W
    clear hW hk
    go_region_held3 (fun w' => w'.cell? ⟨w.heap.size, 0, none⟩ = some (.int .u8 0) ∧ w'.cell? ⟨w.heap.size, 1, none⟩ = some (.bool true) ∧ w'.cell? ⟨w.heap.size, 2, none⟩ = some (.int .u32 (n : Int)))
      (first | exact ⟨c0, c1, c2⟩ | exact ⟨(hb1.cell (p := ⟨w.heap.size, 0, none⟩) hsz).trans c0, (hb1.cell (p := ⟨w.heap.size, 1, none⟩) hsz).trans c1, (hb1.cell (p := ⟨w.heap.size, 2, none⟩) hsz).trans c2⟩)
      (first | (go_at_call 50; refine (tag_any num _).mono ?_; rintro e w1 ⟨rfl, hb1⟩))
    have HB1 := Lib.hid (b1.drew.trans (hb1.mono b1.drew.size))
    have HK1 := Lib.hid (HK.out.below HB1.out hsz)
    have HB01 := bt HB0 HB1
    obtain ⟨d0, d1, d2, d3, d4, hsz1⟩ := Bk.five HK1.out
    clear hb1 b1 c0 c1 c2 c3 c4
    go_wp2_with fail
    go_ret2
    exact ⟨none, rfl, Rb.nil, HB01.out⟩
  | false =>
    by_cases hn : n = num
    rotate_left
    · have hw := wrg_9 (c := 0) (k := false) (S := S) (show ¬ (0 = 0 ∧ false = false ∧ n = num) from fun h => hn h.2.2)
      have hcb : ((n : Int) == (num : Int)) = false := by simp; omega
      rw [hw]
      clear hn hw
      have hk := Bk.new w 34 [.int .u8 0, .bool false, .int .u32 (n : Int), .slice A L ca, .slice B S cb]
      have HB0 := Lib.hid (bel1 w (.cells #[.int .u8 0, .bool false, .int .u32 (n : Int), .slice A L ca, .slice B S cb] 34))
      obtain ⟨W, hW⟩ : ∃ W, w.alloc (.cells #[.int .u8 0, .bool false, .int .u32 (n : Int), .slice A L ca, .slice B S cb] 34) = W := ⟨_, rfl⟩
      rw [hW] at hk HB0
      show Calls Try.prog 46 #[.agg #[.int .u8 0, .bool false, .int .u32 (n : Int), .slice A L ca, .slice B S cb], .int .u32 (num : Int), .func (.func K) #[] #[]] w _
      go_enter Try.func46, Try.ntmps46
      go_wp2_with fail
      have HK := Lib.hid hk
      obtain ⟨c0, c1, c2, c3, c4, hsz⟩ := Bk.five hk
      have b1 := Below.refl W.heap.size W
      clear hW hk
      go_region_held3 (fun w' => w'.cell? ⟨w.heap.size, 0, none⟩ = some (.int .u8 0) ∧ w'.cell? ⟨w.heap.size, 1, none⟩ = some (.bool false) ∧ w'.cell? ⟨w.heap.size, 2, none⟩ = some (.int .u32 (n : Int)))
        (first | exact ⟨c0, c1, c2⟩ | exact ⟨(hb1.cell (p := ⟨w.heap.size, 0, none⟩) hsz).trans c0, (hb1.cell (p := ⟨w.heap.size, 1, none⟩) hsz).trans c1, (hb1.cell (p := ⟨w.heap.size, 2, none⟩) hsz).trans c2⟩)
        (first | (go_at_call 50; refine (tag_any num _).mono ?_; rintro e w1 ⟨rfl, hb1⟩))
      have HB1 := Lib.hid (b1.drew.trans (hb1.mono b1.drew.size))
      have HK1 := Lib.hid (HK.out.below HB1.out hsz)
      have HB01 := bt HB0 HB1
      obtain ⟨d0, d1, d2, d3, d4, hsz1⟩ := Bk.five HK1.out
      clear hb1 b1 c0 c1 c2 c3 c4
      go_wp2_with fail
      go_ret2
      exact ⟨none, rfl, Rb.nil, HB01.out⟩
    subst hn
    by_cases hS : 0 < S
    · rw [wrg_1 hS]
      have hSb : decide ((S : Int) > 0) = true := by simp; omega
      have hk := Bk.new w 34 [.int .u8 0, .bool false, .int .u32 (n : Int), .slice A L ca, .slice B S cb]
      have HB0 := Lib.hid (bel1 w (.cells #[.int .u8 0, .bool false, .int .u32 (n : Int), .slice A L ca, .slice B S cb] 34))
      obtain ⟨W, hW⟩ : ∃ W, w.alloc (.cells #[.int .u8 0, .bool false, .int .u32 (n : Int), .slice A L ca, .slice B S cb] 34) = W := ⟨_, rfl⟩
      rw [hW] at hk HB0
      show Calls Try.prog 46 #[.agg #[.int .u8 0, .bool false, .int .u32 (n : Int), .slice A L ca, .slice B S cb], .int .u32 (n : Int), .func (.func K) #[] #[]] w _
      go_enter Try.func46, Try.ntmps46
      go_wp2_with fail
      have HK := Lib.hid hk
      obtain ⟨c0, c1, c2, c3, c4, hsz⟩ := Bk.five hk
      have b1 := Below.refl W.heap.size W
      clear hW hk
      go_region_held3 (fun w' => w'.cell? ⟨w.heap.size, 0, none⟩ = some (.int .u8 0) ∧ w'.cell? ⟨w.heap.size, 1, none⟩ = some (.bool false) ∧ w'.cell? ⟨w.heap.size, 2, none⟩ = some (.int .u32 (n : Int)))
        (first | exact ⟨c0, c1, c2⟩ | exact ⟨(hb1.cell (p := ⟨w.heap.size, 0, none⟩) hsz).trans c0, (hb1.cell (p := ⟨w.heap.size, 1, none⟩) hsz).trans c1, (hb1.cell (p := ⟨w.heap.size, 2, none⟩) hsz).trans c2⟩)
        (first | (go_at_call 50; refine (tag_any n _).mono ?_; rintro e w1 ⟨rfl, hb1⟩))
      have HB1 := Lib.hid (b1.drew.trans (hb1.mono b1.drew.size))
      have HK1 := Lib.hid (HK.out.below HB1.out hsz)
      have HB01 := bt HB0 HB1
      obtain ⟨d0, d1, d2, d3, d4, hsz1⟩ := Bk.five HK1.out
      clear hb1 b1 c0 c1 c2 c3 c4
      go_wp2_with fail
      go_ret2
      exact ⟨none, rfl, Rb.nil, HB01.out⟩
    · rw [wrg_0 hS]
      have hSb : decide ((S : Int) > 0) = false := by simp; omega
      have hk := Bk.new w 34 [.int .u8 0, .bool false, .int .u32 (n : Int), .slice A L ca, .slice B S cb]
      have HB0 := Lib.hid (bel1 w (.cells #[.int .u8 0, .bool false, .int .u32 (n : Int), .slice A L ca, .slice B S cb] 34))
      obtain ⟨W, hW⟩ : ∃ W, w.alloc (.cells #[.int .u8 0, .bool false, .int .u32 (n : Int), .slice A L ca, .slice B S cb] 34) = W := ⟨_, rfl⟩
      rw [hW] at hk HB0
      show Calls Try.prog 46 #[.agg #[.int .u8 0, .bool false, .int .u32 (n : Int), .slice A L ca, .slice B S cb], .int .u32 (n : Int), .func (.func K) #[] #[]] w _
      go_enter Try.func46, Try.ntmps46
      go_wp2_with fail
      have HK := Lib.hid hk
      obtain ⟨c0, c1, c2, c3, c4, hsz⟩ := Bk.five hk
      have b1 := Below.refl W.heap.size W
      clear hW hk
      go_region_held3 (fun w' => w'.cell? ⟨w.heap.size, 0, none⟩ = some (.int .u8 0) ∧ w'.cell? ⟨w.heap.size, 1, none⟩ = some (.bool false) ∧ w'.cell? ⟨w.heap.size, 2, none⟩ = some (.int .u32 (n : Int)))
        (first | exact ⟨c0, c1, c2⟩ | exact ⟨(hb1.cell (p := ⟨w.heap.size, 0, none⟩) hsz).trans c0, (hb1.cell (p := ⟨w.heap.size, 1, none⟩) hsz).trans c1, (hb1.cell (p := ⟨w.heap.size, 2, none⟩) hsz).trans c2⟩)
        (first | (go_at_call 50; refine (tag_any n _).mono ?_; rintro e w1 ⟨rfl, hb1⟩))
      have HB1 := Lib.hid (b1.drew.trans (hb1.mono b1.drew.size))
      have HK1 := Lib.hid (HK.out.below HB1.out hsz)
      have HB01 := bt HB0 HB1
      obtain ⟨d0, d1, d2, d3, d4, hsz1⟩ := Bk.five HK1.out
      clear hb1 b1 c0 c1 c2 c3 c4
      go_wp2_with fail
      refine (HH.out _ HB01.out).mono ?_
      rintro e w2 ⟨A', rfl, hr, hb⟩
      have HR := Lib.hid hr
      have HB2 := bt HB01 (Lib.hid hb)
      clear hb hr
      generalize hLL : z.length = LL at *
      have HLL := Lib.hid hLL
      clear hLL
      go_wp2_with fail
      go_ret2
      exact ⟨A', by rw [HLL.out]; rfl, HR.out, HB2.out⟩
end Go.Proofs.Ytdmbkbgnlmiilaa.Scl
