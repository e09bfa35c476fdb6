/-
  Package bitstrings: contracts of size, firstBits, Put, Get, Bit.
  Conditions: slices read as bytes, and are not longer than a million.
-/
import Derived.Test.YtnebjdgolbnkfaaBitB
namespace Go.Proofs.Ytnebjdgolbnkfaa.Bit
open Go.RowKit

set_option maxHeartbeats 400000 in
theorem size_any (A : Option Addr) (l : List Nat) (N c : Nat) (w : World) (h : Rb w A l) (hN : l.length = N) (hm : N ≤ 1000000) (hc : N ≤ c) :
    Calls Try.prog 38 #[.slice A N c] w fun e w' => e = .returned (.tuple #[.int .i64 ((szN l : Nat) : Int), .int .i64 ((szE l : Nat) : Int)]) ∧ w = w' := by
  cases l with
  | nil =>
    obtain rfl : 0 = N := hN
    rw [show szN [] = 0 from rfl, show szE [] = 11 from rfl]
    clear h
    go_enter Try.func38, Try.ntmps38
    go_wp2_with fail
    go_ret2
    exact ⟨rfl, rfl⟩
  | cons u t =>
    have hN1 : 1 ≤ N := by rw [← hN]; simp
    have hNb : ((N : Int) == 0) = false := by simp; omega
    obtain ⟨A', q1, q2, hA'⟩ := slice_one N c A (u :: t) hN hN1 hc
    have hr := hA' w h
    obtain ⟨b, off, rfl, hb, hu, hcu⟩ := h.at_ (k := 0) (by simp)
    simp only [List.getElem_cons_zero, Nat.add_zero] at hu hcu
    have htl : t.length = N - 1 := by rw [List.length_cons] at hN; omega
    have HE := Lib.hid (show szE (u :: t) = if okB t (8 * (t.length : Int) - (u : Nat)) then 0 else 11 by
      unfold szE gtN; rw [if_neg (by simp)]; simp)
    have HN0 := Lib.hid (show szN (u :: t) = if szE (u :: t) = 0 then (8 * (t.length : Int) - (u : Nat)).toNat else 0 by
      unfold szN gtN; simp)
    have hgt := Lib.hid (show okB t (8 * (t.length : Int) - (u : Nat)) = true → 0 ≤ 8 * (t.length : Int) - (u : Nat) from fun h => (okB_iff.1 h).1)
    obtain ⟨M, hM⟩ : ∃ M, N - 1 = M := ⟨_, rfl⟩
    have hMN : ((N - 1 : Nat) : Int) = (M : Int) := by rw [hM]
    rw [hM] at q1 q2 htl
    rw [htl] at HE HN0 hgt
    have HC := Lib.hid (isbits_any A' t M (c - 1) (8 * (M : Int) - (u : Nat)) w hr htl (by omega) (by omega) (by omega))
    have hM6 : M ≤ 1000000 := by omega
    have hu8 : u < 256 := hu
    generalize szE (u :: t) = E at *
    generalize szN (u :: t) = K at *
    generalize okB t (8 * (M : Int) - (u : Nat)) = k at *
    clear h hA' hr hN htl hM hMN hu
    cases k
    · obtain rfl : E = 11 := HE.out
      obtain rfl : K = 0 := HN0.out
      clear HE HN0 hgt
      go_enter Try.func38, Try.ntmps38
      go_wp2_with fail
      refine HC.out.mono ?_
      rintro e w' ⟨rfl, rfl⟩
      go_wp2_with fail
      go_ret2
      exact ⟨rfl, rfl⟩
    · obtain rfl : E = 0 := HE.out
      have h0 := hgt.out rfl
      have HK : Hid (8 * (M : Int) - (u : Nat) = (K : Nat)) := Lib.hid (by have := HN0.out; rw [if_pos rfl] at this; omega)
      clear HE HN0 hgt
      go_enter Try.func38, Try.ntmps38
      go_wp2_with fail
      refine HC.out.mono ?_
      rintro e w' ⟨rfl, rfl⟩
      go_wp2_with fail
      go_ret2
      exact ⟨by rw [← HK.out]; rfl, rfl⟩

theorem slice_oct (g N : Nat) (W : World) : (Instr.slice 22 (.slice (some ⟨g, 0, none⟩) (1 + N) (1 + N)) (some (.int .i64 1)) none none).run Try.prog W = .ok (.slice (some ⟨g, if N = 0 then 0 else 1, none⟩) N N) W := by
  have hsz : ∀ W, (sizeOf (Try.prog.elem 22)).run Try.prog W = .ok 1 W := fun W => by kernel_rfl
  rw [run_slice_l (P := Try.prog) W 22 (some ⟨g, 0, none⟩) (1 + N) (1 + N) (by kernel_rfl) .i64 1 (by omega) (by omega), hsz W]
  simp only [Result.andThen, sliced, show ((1 : Int)).toNat = 1 from rfl]
  rw [show 1 + N - 1 = N by omega, Option.map_some, addr_add]
  by_cases h : N = 0
  · subst h; rfl
  · rw [if_neg (by omega), if_neg h]
theorem slice_oct' (g N : Nat) (W : World) : (Instr.sliceAt 22 (.slice (some ⟨g, 0, none⟩) (1 + N) (1 + N)) (some (.int .i64 1)) none none).run Try.prog W = .ok (.slice (some ⟨g, if N = 0 then 0 else 1, none⟩) N N) W := by
  rw [← slice_oct g N W]; exact run_sliceAt_slice (P := Try.prog) W 22 _ _ _ _ (by kernel_rfl)
theorem slice_all (g N q : Nat) (hq : q ≤ N) (W : World) : (Instr.slice 22 (.slice (some ⟨g, 0, none⟩) (1 + N) (1 + N)) none (some (.int .i64 (1 + (q : Int)))) (some (.int .i64 (1 + (q : Int))))).run Try.prog W = .ok (.slice (some ⟨g, 0, none⟩) (q + 1) (q + 1)) W := by
  have hsz : ∀ W, (sizeOf (Try.prog.elem 22)).run Try.prog W = .ok 1 W := fun W => by kernel_rfl
  rw [run_slice_hm (P := Try.prog) W 22 (some ⟨g, 0, none⟩) (1 + N) (1 + N) (by kernel_rfl) .i64 .i64 (1 + (q : Int)) (1 + (q : Int)) (by omega) (by omega) (by omega), hsz W]
  simp only [Result.andThen, sliced, show (1 + (q : Int)).toNat = q + 1 by omega, Option.map_some, addr_add]
  rw [if_neg (by omega)]
  rfl
theorem slice_all' (g N q : Nat) (hq : q ≤ N) (W : World) : (Instr.sliceAt 22 (.slice (some ⟨g, 0, none⟩) (1 + N) (1 + N)) none (some (.int .i64 (1 + (q : Int)))) (some (.int .i64 (1 + (q : Int))))).run Try.prog W = .ok (.slice (some ⟨g, 0, none⟩) (q + 1) (q + 1)) W := by
  rw [← slice_all g N q hq W]; exact run_sliceAt_slice (P := Try.prog) W 22 _ _ _ _ (by kernel_rfl)

set_option maxHeartbeats 800000 in
set_option maxRecDepth 100000 in
theorem first_any (A : Option Addr) (l : List Nat) (N c n q u : Nat) (w : World) (h : Rb w A l) (hN : l.length = N) (hm : N ≤ 1000000) (hc : N ≤ c) (hn : n ≤ 8 * N) (hq : (n + 7) / 8 = q) (hu : 8 * q - n = u) :
    Calls Try.prog 29 #[.slice A N c, .int .i64 (n : Int)] w (GiveN w (u :: l.take q) (q + 1)) := by
  have hqN : q ≤ N := by omega
  have hqi : ((n : Int) + 7) / 8 = (q : Int) := by omega
  have hui : 8 * (q : Int) - (n : Int) = (u : Int) := by omega
  have hu8 : u < 8 := by omega
  have q0 : ∀ W : World, _ := make_bytes (1 + N) (by omega)
  have hcast : ((1 + N : Nat) : Int) = 1 + (N : Int) := by omega
  have w1 : IntKind.i64.wrap ((n : Int) + 7) = (n : Int) + 7 := IntWalk.i64_in _ (by omega)
  have w2' : IntKind.i64.wrap (((n : Int) + 7).tdiv 8) = (q : Int) := by rw [Int.tdiv_eq_ediv_of_nonneg (by omega), hqi]; exact IntWalk.i64_in _ (by omega)
  rw [hcast] at q0
  have q1 := slice_oct w.heap.size N
  have q1' := slice_oct' w.heap.size N
  have q2 := slice_to A N c q (by omega)
  have q2' := slice_to' A N c q (by omega)
  have q3 := slice_all w.heap.size N q hqN
  have q3' := slice_all' w.heap.size N q hqN
  have S0 : Bk (w.alloc (.cells (cs8 (List.replicate (1 + N) 0)).toArray 5)).drew w.heap.size 5 (cs8 (List.replicate (1 + N) 0)) := Bk.new w 5 (cs8 (List.replicate (1 + N) 0))
  have B0 : Below w.heap.size w (w.alloc (.cells (cs8 (List.replicate (1 + N) 0)).toArray 5)).drew := (bel1 w (.cells (cs8 (List.replicate (1 + N) 0)).toArray 5)).drew
  have h1 := (h.below B0).take_ q
  have hlq : (l.take q).length = q := by rw [List.length_take]; omega
  obtain ⟨w2, hrun, S2, hg2⟩ := copy_into (K := N) (K' := N) (c := c) (o := if N = 0 then 0 else 1) S0 h1 hlq hqN (by rw [List.length_replicate]; split <;> omega)
  have e2 : (List.replicate (1 + N) 0).take (if N = 0 then 0 else 1) ++ (l.take q ++ (List.replicate (1 + N) 0).drop ((if N = 0 then 0 else 1) + q)) = 0 :: (l.take q ++ List.replicate (N - q) 0) := by
    by_cases hz : N = 0
    · subst hz
      obtain rfl : q = 0 := by omega
      rfl
    · rw [if_neg hz, List.drop_replicate, show 1 + N - (1 + q) = N - q by omega, Nat.add_comm 1 N, List.replicate_succ]; rfl
  rw [e2] at S2
  have HB2 := Lib.hid (B0.grown hg2 B0.size (fun k e => by injection e with e; omega))
  have c0 : w2.cell? ⟨w.heap.size, 0, none⟩ = some (.int .u8 0) := by rw [S2.cell]; rfl
  have f0 := S2.free 0
  have hs2 := S2.lt
  have HS := Lib.hid S2
  have H8 := Lib.hid h.2
  have HLQ := Lib.hid hlq
  have HRUN := Lib.hid hrun
  obtain ⟨o1, ho1⟩ : ∃ o1, (if N = 0 then 0 else 1) = o1 := ⟨_, rfl⟩
  obtain ⟨z, hz⟩ : ∃ z, cs8 (List.replicate (1 + N) 0) = z := ⟨_, rfl⟩
  rw [hz] at q0 HRUN
  rw [ho1] at HRUN
  simp only [ho1] at q1 q1'
  obtain ⟨M, hM⟩ : ∃ M, 1 + N = M := ⟨_, rfl⟩
  simp only [hM] at q0 q1 q1' q3 q3'
  have hM1 : 1 ≤ M := by omega
  have hM2 : M ≤ 1000001 := by omega
  clear h hN S0 B0 h1 hlq hrun S2 hg2 e2 hcast hz hq hu ho1 hM
  go_enter Try.func29, Try.ntmps29
  go_wp2_with fail
  refine wp_region_still_tail 7 (by kernel_rfl) (by kernel_rfl) ?_
  simp only [List.take_succ_cons, List.take_zero, List.drop_succ_cons, List.drop_zero]
  repeat still_step
  refine wpStill_nil ?_
  change wpList _ _ _ _ _ (w.alloc _).drew
  clear q1 q1' q2 q2' q0 w1 w2'
  refine wpList_copy (o := ⟨some 18, _, _, _, _, _⟩) rfl _ _ _ _ rfl _ _ rfl rfl HRUN.out ?_
  go_wp2_with fail
  go_ret
  refine ⟨_, rfl, ?_, by simp [HLQ.out], HB2.out.setCell (p := ⟨w.heap.size, 0, none⟩) (Nat.le_refl _) _, Nat.le_refl _⟩
  have hst := HS.out.store 0 (.int .u8 (u : Int))
  rw [cs8_set, List.set_cons_zero] at hst
  have h8 : All8 (u :: (l.take q ++ List.replicate (N - q) 0)) := All8.cons (by omega) (All8.append (H8.out.take q) (fun x hx => by have := List.eq_of_mem_replicate hx; omega))
  have := (rb_bk hst h8).take_ (q + 1)
  rw [List.take_succ_cons, List.take_left' HLQ.out] at this
  exact this
end Go.Proofs.Ytnebjdgolbnkfaa.Bit
