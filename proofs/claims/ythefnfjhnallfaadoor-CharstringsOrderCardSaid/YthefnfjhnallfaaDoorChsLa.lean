/-
  Layer 9, the statements' own helpers: read, list.
  Conditions: the variables hold what the program's text lays.
-/
import Derived.Test.YthefnfjhnallfaaDoorChsGt
import Derived.Test.YthefnfjhnallfaaDoorChsR
namespace Go.Proofs.YthefnfjhnallfaaDoor.Chs
open Go.RowKit Go.Shelf

set_option maxRecDepth 100000 in
theorem eqlC (k k2 : Nat) (S S2 : ByteArray) (W : World) : (binOp .eql 24 (.agg (chL k S).toArray) (.agg (chL k2 S2).toArray)).run Tryd.prog W = .ok (.bool (decide (k = k2) && (S.toList == S2.toList))) W := by
  show (binOp .eql 24 (.agg #[.int .u32 (k : Int), .string S]) (.agg #[.int .u32 (k2 : Int), .string S2])).run Tryd.prog W = _
  have u0 := Tryd.underlying24
  have u1 := Tryd.underlying22
  have u2 := Tryd.underlying9
  simp [go_sem]
  by_cases h1 : k = k2
  · by_cases h2 : S.toList = S2.toList
    · simp [h1, h2]
    · simp [h1, h2]
  · simp [h1, Int.ofNat_inj]
set_option maxRecDepth 100000 in
theorem neqC (k k2 : Nat) (S S2 : ByteArray) (W : World) : (binOp .neq 24 (.agg (chL k S).toArray) (.agg (chL k2 S2).toArray)).run Tryd.prog W = .ok (.bool (!(decide (k = k2) && (S.toList == S2.toList)))) W := by
  show (binOp .neq 24 (.agg #[.int .u32 (k : Int), .string S]) (.agg #[.int .u32 (k2 : Int), .string S2])).run Tryd.prog W = _
  have u0 := Tryd.underlying24
  have u1 := Tryd.underlying22
  have u2 := Tryd.underlying9
  simp [go_sem]
  by_cases h1 : k = k2
  · by_cases h2 : S.toList = S2.toList
    · simp [h1, h2]
    · simp [h1, h2]
  · simp [h1, Int.ofNat_inj]
theorem eqlS (k : Nat) (S : ByteArray) (W : World) : (binOp .eql 24 (.agg (chL k S).toArray) (.agg (chL k S).toArray)).run Tryd.prog W = .ok (.bool true) W := by rw [eqlC]; simp
theorem neqS (k : Nat) (S : ByteArray) (W : World) : (binOp .neq 24 (.agg (chL k S).toArray) (.agg (chL k S).toArray)).run Tryd.prog W = .ok (.bool false) W := by rw [neqC]; simp
set_option linter.unusedSimpArgs false in
set_option maxHeartbeats 2000000 in
set_option maxRecDepth 100000 in
theorem read_any (k : Nat) (hk : k < 4294967296) (l : List Nat) (A : Option Addr) (N c : Nat) (hN : l.length = N) (hc : N ≤ c) (hcm : c ≤ maxLen) (k2 : Nat) (m : List Nat) (f : Nat) (hq : get9 k l = (k2, m, f)) (w : World) (hA : Rb w A l) (hT : Tab w) :
    Calls Tryd.prog 21 #[.int .u32 (k : Int), .slice A N c, chV k2 (bstr m), .int .i64 (f : Int)] w fun e w' => e = .returned (.bool true) ∧ Below w.heap.size w w' := by
  obtain ⟨S, hS⟩ : ∃ S, bstr m = S := ⟨_, rfl⟩
  obtain ⟨Sz, hSz⟩ : ∃ s, S0 = s := ⟨_, rfl⟩
  have hz : ∀ w : World, (zeroValue 24).run Tryd.prog w = .ok (.agg #[.int .u32 0, .string Sz]) w := by rw [← hSz]; exact zeroCh
  obtain ⟨w1, hw1⟩ : ∃ w1, w.alloc (.cells #[.int .u32 (k2 : Int), .string S] 24) = w1 := ⟨_, rfl⟩
  have B1 : Hid (Below w.heap.size w w1) := Lib.hid (by rw [← hw1]; exact bel1 w _)
  obtain ⟨g, hg⟩ : ∃ g, w.heap.size = g := ⟨_, rfl⟩
  have K1 : Hid (Bk w1 g 24 (chL k2 S)) := Lib.hid (by rw [← hw1, ← hg]; exact Bk.new w _ (chL k2 S))
  have hget := get9_any k hk l A N c hN hc hcm w1 (hA.below B1.out) (hT.below B1.out)
  rw [hq] at hget
  dsimp only at hget
  rw [hS] at hget ⊢
  have CG := Lib.hid hget
  have HW1 := Lib.hid hw1
  have HG := Lib.hid hg
  have heq := fun W => eqlS k2 S W
  clear hS hSz hA hT hget hq hw1 hg hN hc hcm hk
  go_enter Tryd.func21, Tryd.ntmps21
  go_upto_region 1 with fail
  rw [HW1.out, HG.out]
  go_upto_region 2 with (first
    | (go_at_call 29
       refine CG.out.mono ?_
       rintro e w2 ⟨rfl, hb⟩
       have B2 := bt B1 (Lib.hid hb)
       have K2 := kt K1 (Lib.hid hb)
       clear hb B1 K1 CG
       obtain ⟨g3, hg3⟩ : ∃ g3, w2.heap.size = g3 := ⟨_, rfl⟩
       obtain ⟨w3, hw3⟩ : ∃ w3, w2.alloc (.cells #[.int .u32 0, .string Sz] 24) = w3 := ⟨_, rfl⟩
       have A3 : Hid (Bk w3 g3 24 (chL 0 Sz)) := Lib.hid (by rw [← hw3, ← hg3]; exact Bk.new w2 _ (chL 0 Sz))
       have hb3 : Hid (Below w2.heap.size w2 w3) := Lib.hid (by rw [← hw3]; exact bel1 w2 _)
       have B3 := bt B2 hb3
       have K3 := kt K2 hb3
       have HGS : Hid (w.heap.size ≤ g3 ∧ g < g3) := Lib.hid ⟨by rw [← hg3]; exact B2.out.size, by rw [← hg3]; exact K2.out.lt⟩
       have HW3 := Lib.hid hw3
       have HG3 := Lib.hid hg3
       clear hb3 hw3 hg3 B2 K2)
    | (rw [HW3.out, HG3.out]
       refine wpList_storeG rfl (.tmp 9) (.tmp 15) rfl rfl (ds := chL k2 S) rfl A3.out infoCh rfl (chL_one _ _) ?_
       intro w4 A4 hg4 hz4
       have HA4 := Lib.hid A4
       have B4 := Lib.hid (B3.out.grown hg4 B3.out.size (fun k e => by injection e with e; have := HGS.out; omega))
       have K4 := Lib.hid (K3.out.only hg4 (by intro e; injection e with e; have := HGS.out; omega))
       clear A4 hg4 hz4 A3 B3 K3))
  go_wp2_with (first
    | (refine wpList_loadG rfl (.tmp 9) rfl rfl (rangeB HA4.out) Tryd.underlying24 rfl infoCh ?_)
    | (refine wpList_loadG rfl (.tmp 6) rfl rfl (rangeB K4.out) Tryd.underlying24 rfl infoCh ?_))
  go_ret
  exact ⟨by simp, B4.out⟩
set_option linter.unusedSimpArgs false in
set_option maxHeartbeats 2000000 in
set_option maxRecDepth 100000 in
theorem list_ok (A B : Option Addr) (l : List Nat) (N d : Nat) (hN : l.length = N) (hm : N ≤ 1000) (w : World) (hA : Rd w A (cs32 l)) (hB : Rd w B (cs32 l)) :
    Calls Tryd.prog 30 #[.slice A N N, .slice B N d] w fun e w' => e = .returned (.bool true) ∧ Below w.heap.size w w' := by
  have HA := Lib.hid hA
  have HB := Lib.hid hB
  have HN := Lib.hid hN
  have B0 := Lib.hid (Below.refl w.heap.size w)
  clear hA hB hN
  go_enter Tryd.func30, Tryd.ntmps30
  go_upto_region 4 with fail
  go_loopw [5] (fun i wr => ∃ j : Nat, j ≤ N ∧ i = .int .i64 (j : Int) ∧ Below w.heap.size w wr) (fun i _ => N - (intOf i).toNat)
  case atStart => exact ⟨0, Nat.zero_le _, rfl, B0.out⟩
  case round =>
    obtain ⟨j, hj, rfl, hbl⟩ := hrel
    have BL := Lib.hid hbl
    clear hbl B0
    rcases Nat.lt_or_ge j N with hlt | hge
    · have hlt2 : j < (cs32 l).length := by rw [cs32_len, HN.out]; exact hlt
      obtain ⟨a, ao, rfl, ha, hca⟩ := HA.out.at_ hlt2
      obtain ⟨b, bo, rfl, hb, hcb⟩ := HB.out.at_ hlt2
      have hv : (cs32 l)[j] = .int .u32 (l[j]'(by rw [HN.out]; exact hlt) : Int) := by simp [cs32]
      rw [hv] at hca hcb
      generalize l[j]'(by rw [HN.out]; exact hlt) = x at *
      have hli : (j : Int) < (N : Int) := by omega
      have ha0 := (BL.out.cell (p := ⟨a, ao + j, none⟩) ha).trans hca
      have hb0 := (BL.out.cell (p := ⟨b, bo + j, none⟩) hb).trans hcb
      have hd : Hid (Below w.heap.size w wr.drew) := Lib.hid BL.out.drew
      clear hlt2 ha hb hca hcb hv BL
      go_upto_region 6 with fail
      go_region_held3 (fun w' => w'.cell? ⟨a, ao + j, none⟩ = some (.int .u32 (x : Int)) ∧ w'.cell? ⟨b, bo + j, none⟩ = some (.int .u32 (x : Int))) (exact ⟨ha0, hb0⟩) (fail)
      clear ha0 hb0
      go_wp2_with fail
      exact ⟨⟨j + 1, by omega, by go_num, hd.out⟩, by simp [intOf]; omega⟩
    · obtain rfl : j = N := by omega
      go_wp2_with fail
      go_ret
      exact ⟨rfl, BL.out⟩
end Go.Proofs.YthefnfjhnallfaaDoor.Chs
