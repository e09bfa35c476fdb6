/-
  Layer 4: the statements' helper nested.
  Conditions: none.
-/
import Derived.Test.YtgdjgahmnnjeeaaElS
namespace Go.Proofs.Ytgdjgahmnnjeeaa
open Go.RowKit

/-- An element of so many levels above the innermost one. -/
def nestE : Nat → El
  | 0 => .mk 0 5 false [] []
  | p + 1 => .mk 0 16 true [] [nestE p]
set_option maxHeartbeats 2000000 in
set_option maxRecDepth 100000 in
theorem nested_any (n : Nat) (w : World) (h1 : 1 ≤ n) (h2 : n ≤ 1000) :
    Calls Try.prog 31 #[.int .i64 (n : Int)] w fun e w' => ∃ u, e = .returned u ∧ RdE true (fun i => w.heap.size ≤ i) w' (nestE (n - 1)) u ∧ Below w.heap.size w w' := by
  obtain ⟨w2, hw2⟩ : ∃ w2, (w.alloc (.cells #[.int .u8 0, .bool false, .int .u32 0, .slice none 0 0, .slice none 0 0] 29)).alloc (.cells #[.int .u8 0, .bool false, .int .u32 5, .slice none 0 0, .slice none 0 0] 29) = w2 := ⟨_, rfl⟩
  have hb2 : Below w.heap.size w w2 := by rw [← hw2]; exact bel2 w _ _
  have kr : Bk w2 w.heap.size 29 [.int .u8 0, .bool false, .int .u32 0, .slice none 0 0, .slice none 0 0] := by rw [← hw2]; exact (Bk.new w _ [_, _, _, _, _]).alloc _
  have ke : Bk w2 (w.heap.size + 1) 29 [.int .u8 0, .bool false, .int .u32 5, .slice none 0 0, .slice none 0 0] := by
    have := Bk.new (w.alloc (.cells #[.int .u8 0, .bool false, .int .u32 0, .slice none 0 0, .slice none 0 0] 29)) 29 [.int .u8 0, .bool false, .int .u32 5, .slice none 0 0, .slice none 0 0]
    rw [World.size_alloc] at this
    rw [← hw2]; exact this
  have hz2 : w2.heap.size = w.heap.size + 2 := by rw [← hw2]; simp
  obtain ⟨R, hR⟩ : ∃ R, w.heap.size = R := ⟨_, rfl⟩
  obtain ⟨D, hD⟩ : ∃ D, R + 1 = D := ⟨_, rfl⟩
  have hRD : R ≠ D := by omega
  have hwR : w.heap.size ≤ R := by omega
  have hwD : w.heap.size ≤ D := by omega
  have hDz : D < w2.heap.size := by omega
  have HB2 := Lib.hid hb2
  have HW2 := Lib.hid hw2
  have HRR := Lib.hid hR
  have HDD := Lib.hid hD
  have HKR : Hid (Bk w2 R 29 [.int .u8 0, .bool false, .int .u32 0, .slice none 0 0, .slice none 0 0]) := Lib.hid (by rw [← hR]; exact kr)
  have HKE : Hid (Bk w2 D 29 [.int .u8 0, .bool false, .int .u32 5, .slice none 0 0, .slice none 0 0]) := Lib.hid (by rw [← hD, ← hR]; exact ke)
  clear hb2 hw2 hR hD kr ke
  go_enter Try.func31, Try.ntmps31
  go_upto_region 3 with fail
  rw [HW2.out, HRR.out, HDD.out]
  go_loopw [4] (fun i wr => ∃ (p c num : Nat) (k : Bool) (A1 : Option Addr) (l1 q1 : Nat) (A2 : Option Addr) (l2 q2 : Nat), 1 ≤ p ∧ p ≤ n ∧ i = .int .i64 (p : Int) ∧ Bk wr D 29 [.int .u8 (c : Int), .bool k, .int .u32 (num : Int), .slice A1 l1 q1, .slice A2 l2 q2] ∧ RdE true (fun j => w2.heap.size ≤ j) wr (nestE (p - 1)) (elV c num k (.slice A1 l1 q1) (.slice A2 l2 q2)) ∧ Bk wr R 29 [.int .u8 0, .bool false, .int .u32 0, .slice none 0 0, .slice none 0 0] ∧ Below w.heap.size w wr ∧ w2.heap.size ≤ wr.heap.size) (fun i _ => n - (intOf i).toNat)
  case atStart => exact ⟨1, 0, 5, false, none, 0, 0, none, 0, 0, Nat.le_refl _, h1, rfl, HKE.out, ⟨by decide, by decide, All8.nil, none, 0, none, 0, rfl, RdX.nil, Nat.le_refl _, Nat.zero_le _, Nat.le_refl _, Nat.zero_le _, fun _ => ⟨rfl, rfl⟩, trivial⟩, HKR.out, HB2.out, Nat.le_refl _⟩
  case round =>
    obtain ⟨p, c, num, k, A1, l1, q1, A2, l2, q2, hp1, hp2, rfl, hD, hE, hR, hB, hz⟩ := hrel
    have HE := Lib.hid hE
    have HD := Lib.hid hD
    have HR := Lib.hid hR
    have HB := Lib.hid hB
    obtain ⟨e0, e1, e2, e3, e4, ez⟩ := hD.five
    obtain ⟨r0, r1, r2, r3, r4, rz⟩ := hR.five
    obtain ⟨s0, s1, s2, s3, s4⟩ := hR.free5
    clear hE hD hR hB
    by_cases hlt : p < n
    · obtain ⟨G, hG⟩ : ∃ G, wr.heap.size = G := ⟨_, rfl⟩
      obtain ⟨wz, hwz⟩ : ∃ wz, wr.alloc (.cells #[.int .u8 (c : Int), .bool k, .int .u32 (num : Int), .slice A1 l1 q1, .slice A2 l2 q2] 29) = wz := ⟨_, rfl⟩
      have hbz : Below wr.heap.size wr wz := by rw [← hwz]; exact bel1 _ _
      have kz : Bk wz G 29 [.int .u8 (c : Int), .bool k, .int .u32 (num : Int), .slice A1 l1 q1, .slice A2 l2 q2] := by rw [← hwz, ← hG]; exact Bk.new wr _ [_, _, _, _, _]
      have kd := HD.out.below hbz HD.out.lt
      obtain ⟨x0, x1, x2, x3, x4, xz⟩ := kd.five
      obtain ⟨y0, y1, y2, y3, y4⟩ := kd.free5
      have hGD : G ≠ D := by omega
      obtain ⟨w3, hw3⟩ : ∃ w3, (((((wz.setCell ⟨D, 0, none⟩ (.int .u8 0)).setCell ⟨D, 1, none⟩ (.bool true)).setCell ⟨D, 2, none⟩ (.int .u32 16)).setCell ⟨D, 3, none⟩ (.slice none 0 0)).setCell ⟨D, 4, none⟩ (.slice (some ⟨G, 0, none⟩) 1 1)) = w3 := ⟨_, rfl⟩
      have kd3 : Bk w3 D 29 [.int .u8 0, .bool true, .int .u32 16, .slice none 0 0, .slice (some ⟨G, 0, none⟩) 1 1] := by rw [← hw3]; exact ((((kd.store 0 (.int .u8 0)).store 1 (.bool true)).store 2 (.int .u32 16)).store 3 (.slice none 0 0)).store 4 (.slice (some ⟨G, 0, none⟩) 1 1)
      have kz3 : Bk w3 G 29 [.int .u8 (c : Int), .bool k, .int .u32 (num : Int), .slice A1 l1 q1, .slice A2 l2 q2] := by rw [← hw3]; exact ((((kz.far (p := ⟨D, 0, none⟩) hGD (.int .u8 0)).far (p := ⟨D, 1, none⟩) hGD (.bool true)).far (p := ⟨D, 2, none⟩) hGD (.int .u32 16)).far (p := ⟨D, 3, none⟩) hGD (.slice none 0 0)).far (p := ⟨D, 4, none⟩) hGD (.slice (some ⟨G, 0, none⟩) 1 1)
      have kr3 : Bk w3 R 29 [.int .u8 0, .bool false, .int .u32 0, .slice none 0 0, .slice none 0 0] := by rw [← hw3]; exact (((((HR.out.below hbz HR.out.lt).far (p := ⟨D, 0, none⟩) hRD (.int .u8 0)).far (p := ⟨D, 1, none⟩) hRD (.bool true)).far (p := ⟨D, 2, none⟩) hRD (.int .u32 16)).far (p := ⟨D, 3, none⟩) hRD (.slice none 0 0)).far (p := ⟨D, 4, none⟩) hRD (.slice (some ⟨G, 0, none⟩) 1 1)
      have hb3 : Below w.heap.size w w3 := by rw [← hw3]; exact (((((HB.out.trans (hbz.mono HB.out.size)).setCell (p := ⟨D, 0, none⟩) hwD (.int .u8 0)).setCell (p := ⟨D, 1, none⟩) hwD (.bool true)).setCell (p := ⟨D, 2, none⟩) hwD (.int .u32 16)).setCell (p := ⟨D, 3, none⟩) hwD (.slice none 0 0)).setCell (p := ⟨D, 4, none⟩) hwD (.slice (some ⟨G, 0, none⟩) 1 1)
      have hz3 : w3.heap.size = wz.heap.size := by rw [← hw3]; simp [World.setCell]
      have hh3 : ∀ i, i ≠ D → w3.heap[i]? = wz.heap[i]? := fun i hi => by
        rw [← hw3, Below.heap_setCell _ _ _ _ hi, Below.heap_setCell _ _ _ _ hi, Below.heap_setCell _ _ _ _ hi, Below.heap_setCell _ _ _ _ hi, Below.heap_setCell _ _ _ _ hi]
      have hE3 : RdE true (fun j => w2.heap.size ≤ j) w3 (nestE (p - 1)) (elV c num k (.slice A1 l1 q1) (.slice A2 l2 q2)) :=
        RdE.keep (w := wr) (by rw [hz3]; exact hbz.size) (fun j (hj : w2.heap.size ≤ j) hl => by rw [hh3 j (by omega)]; exact hbz.block j hl) (fun _ h _ => h) _ _ HE.out
      have hrow : RowE true (fun j => w2.heap.size ≤ j) w3 [nestE (p - 1)] [.int .u8 (c : Int), .bool k, .int .u32 (num : Int), .slice A1 l1 q1, .slice A2 l2 q2] := ⟨_, [], rfl, hE3, rfl⟩
      have hGz : w2.heap.size ≤ G := by omega
      have hnew : RdE true (fun j => w2.heap.size ≤ j) w3 (nestE p) (elV 0 16 true (.slice none 0 0) (.slice (some ⟨G, 0, none⟩) 1 1)) := by
        rw [show p = (p - 1) + 1 by omega, nestE]
        exact ⟨by decide, by decide, All8.nil, none, 0, some ⟨G, 0, none⟩, 1, rfl, RdX.nil, Nat.le_refl _, Nat.zero_le _, Nat.le_refl _, by unfold maxLen; omega, fun _ => ⟨rfl, rfl⟩,
          RowE.rds kz3.lt hGz (fun _ h => h) hrow (fun j u hu => by rw [Nat.zero_add, kz3.cell]; exact hu)⟩
      have HN := Lib.hid hnew
      have HD3 := Lib.hid kd3
      have HR3 := Lib.hid kr3
      have HB3 := Lib.hid hb3
      have HZ3 := Lib.hid (show w2.heap.size ≤ w3.heap.size by have := hbz.size; omega)
      clear hbz kz kd kd3 kz3 kr3 hb3 hz3 hh3 hE3 hrow hnew HE HD HR HB s0 s1 s2 s3 s4 r0 r1 r2 r3 r4 rz
      go_wp2_with fail
      exact ⟨⟨p + 1, 0, 16, true, none, 0, 0, _, 1, 1, by omega, hlt, rfl, HD3.out, by rw [Nat.add_sub_cancel]; exact HN.out, HR3.out, HB3.out, HZ3.out⟩, by simp [intOf]; omega⟩
    · obtain rfl : p = n := by omega
      go_wp2_with fail
      obtain ⟨t0, t1, t2, t3, t4, _⟩ := (((((HR.out.store 0 (.int .u8 (c : Int))).store 1 (.bool k)).store 2 (.int .u32 (num : Int))).store 3 (.slice A1 l1 q1)).store 4 (.slice A2 l2 q2)).five
      have HBF := ((((HB.out.setCell (p := ⟨R, 0, none⟩) hwR (.int .u8 (c : Int))).setCell (p := ⟨R, 1, none⟩) hwR (.bool k)).setCell (p := ⟨R, 2, none⟩) hwR (.int .u32 (num : Int))).setCell (p := ⟨R, 3, none⟩) hwR (.slice A1 l1 q1)).setCell (p := ⟨R, 4, none⟩) hwR (.slice A2 l2 q2)
      refine bodyPost_ret (v := .agg #[.int .u8 (c : Int), .bool k, .int .u32 (num : Int), .slice A1 l1 q1, .slice A2 l2 q2]) (by simp [results, Try.results31, go_sem, t0, t1, t2, t3, t4]) rfl ?_
      refine ⟨_, rfl, RdE.keep (w := wr) (by simp [World.setCell]) (fun i (hi : w2.heap.size ≤ i) _ => ?_) (fun i (hi : w2.heap.size ≤ i) _ => by show w.heap.size ≤ i; omega) _ _ HE.out, HBF⟩
      have hi2 : w2.heap.size ≤ i := hi
      have hRR := HRR.out
      have hi' : i ≠ R := by omega
      rw [Below.heap_setCell _ _ _ _ hi', Below.heap_setCell _ _ _ _ hi', Below.heap_setCell _ _ _ _ hi', Below.heap_setCell _ _ _ _ hi', Below.heap_setCell _ _ _ _ hi']
end Go.Proofs.Ytgdjgahmnnjeeaa
