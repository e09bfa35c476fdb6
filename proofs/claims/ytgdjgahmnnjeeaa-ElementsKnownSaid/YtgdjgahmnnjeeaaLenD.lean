/-
  Package lengths: the contract of Get.
  Conditions: none beyond that the slice reads as bytes.
-/
import Derived.Test.YtgdjgahmnnjeeaaLenC
namespace Go.Proofs.Ytgdjgahmnnjeeaa.Len
open Go.RowKit

/-- Get's answer: the length, the number of its octets, the error. -/
def getL (l : List Nat) : Nat × Nat × Nat :=
  match l with
  | [] => (0, 0, 7)
  | x :: t => if x < 128 then (x, 1, 0) else if x < 129 then (0, 0, 10) else if 131 < x then (0, 0, 10) else if t.length < x - 128 then (0, 0, 7)
    else if szI ((val (t.take (x - 128)) : Nat) : Int) = x - 127 then (val (t.take (x - 128)), x - 127, 0) else (0, 0, 10)
/-- Three numbers are returned; what was there has not turned. -/
def GiveG (w : World) (n s f : Nat) (e : Ending) (w' : World) : Prop :=
  e = .returned (.tuple #[.int .i64 (n : Int), .int .i64 (s : Int), .int .i64 (f : Int)]) ∧ Below w.heap.size w w'

set_option maxRecDepth 100000 in
set_option maxHeartbeats 1000000 in
theorem get_nil (A : Option Addr) (c : Nat) (w : World) : Calls Try.prog 74 #[.slice A 0 c] w (GiveG w 0 0 7) := by
  go_enter Try.func74, Try.ntmps74
  go_wp2_with fail
  go_ret3
  exact ⟨rfl, Below.refl _ _⟩
set_option maxHeartbeats 1000000 in
set_option maxRecDepth 100000 in
theorem get_low (b off N c x : Nat) (w : World) (hN : 0 < N) (_hb : b < w.heap.size) (hc : w.cell? ⟨b, off, none⟩ = some (.int .u8 (x : Int))) (hx : x < 128) :
    Calls Try.prog 74 #[.slice (some ⟨b, off, none⟩) N c] w (GiveG w x 1 0) := by
  have hN0 : ((N : Int) == 0) = false := by simp; omega
  go_enter Try.func74, Try.ntmps74
  go_wp2_with fail
  go_ret3
  exact ⟨rfl, Below.refl _ _⟩
set_option maxHeartbeats 1000000 in
set_option maxRecDepth 100000 in
theorem get_form (b off N c x : Nat) (w : World) (hN : 0 < N) (_hb : b < w.heap.size) (hc : w.cell? ⟨b, off, none⟩ = some (.int .u8 (x : Int))) (hx : x = 128 ∨ 131 < x) (hx2 : x < 256) :
    Calls Try.prog 74 #[.slice (some ⟨b, off, none⟩) N c] w (GiveG w 0 0 10) := by
  have hN0 : ((N : Int) == 0) = false := by simp; omega
  rcases hx with rfl | hx
  · go_enter Try.func74, Try.ntmps74
    go_wp2_with fail
    go_ret3
    exact ⟨rfl, Below.refl _ _⟩
  · obtain ⟨k, rfl⟩ : ∃ k, x = k + 128 := ⟨x - 128, by omega⟩
    have e1 : (((k + 128 : Nat) : Int) - 128) = (k : Int) := by omega
    go_enter Try.func74, Try.ntmps74
    go_wp2_with fail
    go_ret3
    exact ⟨rfl, Below.refl _ _⟩
set_option maxRecDepth 100000 in
set_option maxHeartbeats 1000000 in
theorem get_short1 (b off N c : Nat) (w : World) (hN : 0 < N) (_hb : b < w.heap.size) (hc : w.cell? ⟨b, off, none⟩ = some (.int .u8 129)) (hx : N < 2) :
    Calls Try.prog 74 #[.slice (some ⟨b, off, none⟩) N c] w (GiveG w 0 0 7) := by
  have hN0 : ((N : Int) == 0) = false := by simp; omega
  go_enter Try.func74, Try.ntmps74
  go_wp2_with fail
  go_ret3
  exact ⟨rfl, Below.refl _ _⟩
set_option maxRecDepth 100000 in
set_option maxHeartbeats 1000000 in
theorem get_short2 (b off N c : Nat) (w : World) (hN : 0 < N) (_hb : b < w.heap.size) (hc : w.cell? ⟨b, off, none⟩ = some (.int .u8 130)) (hx : N < 3) :
    Calls Try.prog 74 #[.slice (some ⟨b, off, none⟩) N c] w (GiveG w 0 0 7) := by
  have hN0 : ((N : Int) == 0) = false := by simp; omega
  go_enter Try.func74, Try.ntmps74
  go_wp2_with fail
  go_ret3
  exact ⟨rfl, Below.refl _ _⟩
set_option maxRecDepth 100000 in
set_option maxHeartbeats 1000000 in
theorem get_short3 (b off N c : Nat) (w : World) (hN : 0 < N) (_hb : b < w.heap.size) (hc : w.cell? ⟨b, off, none⟩ = some (.int .u8 131)) (hx : N < 4) :
    Calls Try.prog 74 #[.slice (some ⟨b, off, none⟩) N c] w (GiveG w 0 0 7) := by
  have hN0 : ((N : Int) == 0) = false := by simp; omega
  go_enter Try.func74, Try.ntmps74
  go_wp2_with fail
  go_ret3
  exact ⟨rfl, Below.refl _ _⟩
set_option maxRecDepth 100000 in
set_option maxHeartbeats 1000000 in
theorem get_full1 (b off N c a : Nat) (w : World) (hN : 2 ≤ N) (hNc : N ≤ c) (_hb : b < w.heap.size) (hc : w.cell? ⟨b, off, none⟩ = some (.int .u8 129)) (h : Rb w (some ⟨b, off + 1, none⟩) [a]) (v : Nat) (hv : val [a] = v) :
    Calls Try.prog 74 #[.slice (some ⟨b, off, none⟩) N c] w (GiveG w (if szI (v : Int) = 2 then v else 0) (if szI (v : Int) = 2 then 2 else 0) (if szI (v : Int) = 2 then 0 else 10)) := by
  have hN0 : ((N : Int) == 0) = false := by simp; omega
  have C1 := Lib.hid (value_1 _ a (c - 1) w h)
  rw [hv] at C1
  obtain ⟨s, hs⟩ : ∃ s, szI (v : Int) = s := ⟨_, rfl⟩
  have HS := Lib.hid hs
  rw [hs]
  clear h hv hs
  by_cases h2 : s = 2
  · subst h2
    rw [if_pos rfl, if_pos rfl, if_pos rfl]
    go_enter Try.func74, Try.ntmps74
    go_wp2_with fail
    refine C1.out.mono ?_
    rintro e w1 ⟨rfl, hb1⟩
    have HB := Lib.hid hb1
    clear hb1 C1
    go_wp2_with fail
    refine (size_any (v : Int) w1).mono ?_
    rintro e w' ⟨rfl, rfl⟩
    rw [HS.out]
    go_wp2_with fail
    go_ret3
    exact ⟨rfl, HB.out⟩
  · rw [if_neg h2, if_neg h2, if_neg h2]
    have h3 : ((s : Int) == 2) = false := by simp; omega
    have h4 : ((s : Int) != 2) = true := by simp; omega
    clear h2
    go_enter Try.func74, Try.ntmps74
    go_wp2_with fail
    refine C1.out.mono ?_
    rintro e w1 ⟨rfl, hb1⟩
    have HB := Lib.hid hb1
    clear hb1 C1
    go_wp2_with fail
    refine (size_any (v : Int) w1).mono ?_
    rintro e w' ⟨rfl, rfl⟩
    rw [HS.out]
    go_wp2_with fail
    go_ret3
    exact ⟨rfl, HB.out⟩
set_option maxRecDepth 100000 in
set_option maxHeartbeats 1000000 in
theorem get_full2 (b off N c a b1 : Nat) (w : World) (hN : 3 ≤ N) (hNc : N ≤ c) (_hb : b < w.heap.size) (hc : w.cell? ⟨b, off, none⟩ = some (.int .u8 130)) (h : Rb w (some ⟨b, off + 1, none⟩) [a, b1]) (v : Nat) (hv : val [a, b1] = v) :
    Calls Try.prog 74 #[.slice (some ⟨b, off, none⟩) N c] w (GiveG w (if szI (v : Int) = 3 then v else 0) (if szI (v : Int) = 3 then 3 else 0) (if szI (v : Int) = 3 then 0 else 10)) := by
  have hN0 : ((N : Int) == 0) = false := by simp; omega
  have C1 := Lib.hid (value_2 _ a b1 (c - 1) w h)
  rw [hv] at C1
  obtain ⟨s, hs⟩ : ∃ s, szI (v : Int) = s := ⟨_, rfl⟩
  have HS := Lib.hid hs
  rw [hs]
  clear h hv hs
  by_cases h2 : s = 3
  · subst h2
    rw [if_pos rfl, if_pos rfl, if_pos rfl]
    go_enter Try.func74, Try.ntmps74
    go_wp2_with fail
    refine C1.out.mono ?_
    rintro e w1 ⟨rfl, hb1⟩
    have HB := Lib.hid hb1
    clear hb1 C1
    go_wp2_with fail
    refine (size_any (v : Int) w1).mono ?_
    rintro e w' ⟨rfl, rfl⟩
    rw [HS.out]
    go_wp2_with fail
    go_ret3
    exact ⟨rfl, HB.out⟩
  · rw [if_neg h2, if_neg h2, if_neg h2]
    have h3 : ((s : Int) == 3) = false := by simp; omega
    have h4 : ((s : Int) != 3) = true := by simp; omega
    clear h2
    go_enter Try.func74, Try.ntmps74
    go_wp2_with fail
    refine C1.out.mono ?_
    rintro e w1 ⟨rfl, hb1⟩
    have HB := Lib.hid hb1
    clear hb1 C1
    go_wp2_with fail
    refine (size_any (v : Int) w1).mono ?_
    rintro e w' ⟨rfl, rfl⟩
    rw [HS.out]
    go_wp2_with fail
    go_ret3
    exact ⟨rfl, HB.out⟩
set_option maxRecDepth 100000 in
set_option maxHeartbeats 1000000 in
theorem get_full3 (b off N c a b1 c1 : Nat) (w : World) (hN : 4 ≤ N) (hNc : N ≤ c) (_hb : b < w.heap.size) (hc : w.cell? ⟨b, off, none⟩ = some (.int .u8 131)) (h : Rb w (some ⟨b, off + 1, none⟩) [a, b1, c1]) (v : Nat) (hv : val [a, b1, c1] = v) :
    Calls Try.prog 74 #[.slice (some ⟨b, off, none⟩) N c] w (GiveG w (if szI (v : Int) = 4 then v else 0) (if szI (v : Int) = 4 then 4 else 0) (if szI (v : Int) = 4 then 0 else 10)) := by
  have hN0 : ((N : Int) == 0) = false := by simp; omega
  have C1 := Lib.hid (value_3 _ a b1 c1 (c - 1) w h)
  rw [hv] at C1
  obtain ⟨s, hs⟩ : ∃ s, szI (v : Int) = s := ⟨_, rfl⟩
  have HS := Lib.hid hs
  rw [hs]
  clear h hv hs
  by_cases h2 : s = 4
  · subst h2
    rw [if_pos rfl, if_pos rfl, if_pos rfl]
    go_enter Try.func74, Try.ntmps74
    go_wp2_with fail
    refine C1.out.mono ?_
    rintro e w1 ⟨rfl, hb1⟩
    have HB := Lib.hid hb1
    clear hb1 C1
    go_wp2_with fail
    refine (size_any (v : Int) w1).mono ?_
    rintro e w' ⟨rfl, rfl⟩
    rw [HS.out]
    go_wp2_with fail
    go_ret3
    exact ⟨rfl, HB.out⟩
  · rw [if_neg h2, if_neg h2, if_neg h2]
    have h3 : ((s : Int) == 4) = false := by simp; omega
    have h4 : ((s : Int) != 4) = true := by simp; omega
    clear h2
    go_enter Try.func74, Try.ntmps74
    go_wp2_with fail
    refine C1.out.mono ?_
    rintro e w1 ⟨rfl, hb1⟩
    have HB := Lib.hid hb1
    clear hb1 C1
    go_wp2_with fail
    refine (size_any (v : Int) w1).mono ?_
    rintro e w' ⟨rfl, rfl⟩
    rw [HS.out]
    go_wp2_with fail
    go_ret3
    exact ⟨rfl, HB.out⟩

theorem get_any (A : Option Addr) (l : List Nat) (c : Nat) (w : World) (hlc : l.length ≤ c) (h : Rb w A l) :
    Calls Try.prog 74 #[.slice A l.length c] w (GiveG w (getL l).1 (getL l).2.1 (getL l).2.2) := by
  cases l with
  | nil => exact get_nil A c w
  | cons x t =>
    obtain ⟨b, off, rfl, hb, hx, hcell⟩ := h.at_ (k := 0) (by simp)
    simp only [List.getElem_cons_zero, Nat.add_zero] at hx hcell
    have hd := h.drop_ 1
    simp only [List.drop_succ_cons, List.drop_zero] at hd
    unfold getL
    dsimp only
    by_cases h1 : x < 128
    · simp only [if_pos h1]
      exact get_low b off _ c x w (by simp) hb hcell h1
    simp only [if_neg h1]
    by_cases h2 : x < 129
    · simp only [if_pos h2]
      exact get_form b off _ c x w (by simp) hb hcell (by omega) hx
    simp only [if_neg h2]
    by_cases h3 : 131 < x
    · simp only [if_pos h3]
      exact get_form b off _ c x w (by simp) hb hcell (by omega) hx
    simp only [if_neg h3]
    have h4 : x = 129 ∨ x = 130 ∨ x = 131 := by omega
    by_cases h5 : t.length < x - 128
    · simp only [if_pos h5]
      rcases h4 with rfl | rfl | rfl
      · exact get_short1 b off _ c w (by simp) hb hcell (by simp; omega)
      · exact get_short2 b off _ c w (by simp) hb hcell (by simp; omega)
      · exact get_short3 b off _ c w (by simp) hb hcell (by simp; omega)
    simp only [if_neg h5]
    rcases h4 with rfl | rfl | rfl
    · match t, h5, hd, hlc with
      | a :: t, h5, hd, hlc =>
        have hk := hd.take_ 1
        have := get_full1 b off (129 :: a :: t).length c a w (by simp) hlc hb hcell hk _ rfl
        simp only [show 129 - 128 = 1 from rfl, show 129 - 127 = 2 from rfl, List.take_succ_cons, List.take_zero]
        split <;> simp_all
    · match t, h5, hd, hlc with
      | [_], h5, _, _ => simp at h5
      | a :: b1 :: t, h5, hd, hlc =>
        have hk := hd.take_ 2
        have := get_full2 b off (130 :: a :: b1 :: t).length c a b1 w (by simp) hlc hb hcell hk _ rfl
        simp only [show 130 - 128 = 2 from rfl, show 130 - 127 = 3 from rfl, List.take_succ_cons, List.take_zero]
        split <;> simp_all
    · match t, h5, hd, hlc with
      | [_], h5, _, _ => simp at h5
      | [_, _], h5, _, _ => simp at h5
      | a :: b1 :: c1 :: t, h5, hd, hlc =>
        have hk := hd.take_ 3
        have := get_full3 b off (131 :: a :: b1 :: c1 :: t).length c a b1 c1 w (by simp) hlc hb hcell hk _ rfl
        simp only [show 131 - 128 = 3 from rfl, show 131 - 127 = 4 from rfl, List.take_succ_cons, List.take_zero]
        split <;> simp_all
end Go.Proofs.Ytgdjgahmnnjeeaa.Len
