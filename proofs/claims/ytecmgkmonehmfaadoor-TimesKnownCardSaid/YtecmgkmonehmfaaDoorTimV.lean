/-
  Layer 10: Parse, of the reference.
  Conditions: none but a length.
-/
import Derived.Test.YtecmgkmonehmfaaDoorTimU
namespace Go.Proofs.YtecmgkmonehmfaaDoor.Tim
open Go.RowKit
attribute [local go_sem] Oper.semAt_some

theorem bstr_extract (l : List Nat) (a b : Nat) : (bstr l).extract a b = bstr ((l.take b).drop a) := by
  apply ByteArray.ext
  rw [ByteArray.data_extract]
  unfold bstr
  apply Array.toList_inj.1
  simp [List.map_drop, List.map_take, List.drop_take]
/-- A piece of a text. -/
def pc (l : List Nat) (a b : Nat) : List Nat := (l.take b).drop a
theorem pc_len (l : List Nat) (a b : Nat) (h : b ≤ l.length) : (pc l a b).length = b - a := by unfold pc; rw [List.length_drop, List.length_take, Nat.min_eq_left h]
theorem pc_8 (l : List Nat) (a b : Nat) (h : All8 l) : All8 (pc l a b) := fun x hx => h x (List.mem_of_mem_take (List.mem_of_mem_drop hx))
theorem slice_h (l : List Nat) (b : Nat) (hb : b ≤ l.length) (W : World) : (Instr.slice 9 (.string (bstr l)) none (some (.int .i64 (b : Int))) none).run Tryd.prog W = .ok (.string (bstr (pc l 0 b))) W := by
  rw [run_slice_string_h (P := Tryd.prog) W 9 (bstr l) Tryd.underlying9 .i64 (b : Int) (by omega) (by rw [bstr_size]; omega), Int.toNat_natCast, bstr_extract]
  rfl
theorem slice_lh (l : List Nat) (a b : Nat) (hab : a ≤ b) (hb : b ≤ l.length) (W : World) : (Instr.slice 9 (.string (bstr l)) (some (.int .i64 (a : Int))) (some (.int .i64 (b : Int))) none).run Tryd.prog W = .ok (.string (bstr (pc l a b))) W := by
  rw [run_slice_string (P := Tryd.prog) W 9 (bstr l) .i64 .i64 (a : Int) (b : Int) Tryd.underlying9 (by omega) (by omega) (by rw [bstr_size]; omega), Int.toNat_natCast, Int.toNat_natCast, bstr_extract]
  rfl
/-- What the reference reads. -/
def numP (l : List Nat) (a b : Nat) : Int := numR (pc l a b)
set_option linter.unusedSimpArgs false in
set_option linter.unusedVariables false in
set_option maxHeartbeats 4000000 in
set_option maxRecDepth 100000 in
theorem rparse_no (l : List Nat) (hl : l.length ≠ 20) (hlm : l.length ≤ 1000000) (w : World) :
    Calls Tryd.prog 28 #[.string (bstr l)] w fun e w' => e = .returned (.tuple #[.agg (tL 0 0 0 0 0 0).toArray, .int .i64 6]) ∧ Below w.heap.size w w' := by
  have Z := zTm
  have hsz := bstr_size l
  obtain ⟨S, hS⟩ : ∃ S, bstr l = S := ⟨_, rfl⟩
  rw [hS] at hsz ⊢
  obtain ⟨N, hN⟩ : ∃ N, l.length = N := ⟨_, rfl⟩
  rw [hN] at hsz hl
  have hb : ((N : Int) != 20) = true := by rw [bne_iff_ne]; omega
  obtain ⟨g, hg⟩ : ∃ g, w.heap.size = g := ⟨_, rfl⟩
  obtain ⟨w1, hw1⟩ : ∃ w1, w.alloc (.cells (tL 0 0 0 0 0 0).toArray 23) = w1 := ⟨_, rfl⟩
  have B1 : Hid (Below w.heap.size w w1) := Lib.hid (by rw [← hw1]; exact bel1 w _)
  have K1 : Hid (Bk w1 g 23 (tL 0 0 0 0 0 0)) := Lib.hid (by rw [← hw1, ← hg]; exact Bk.new w _ _)
  have HW1 := Lib.hid hw1
  have HG := Lib.hid hg
  clear hS hN hw1 hg hlm
  go_enter Tryd.func28, Tryd.ntmps28
  go_upto_region 1 with fail
  rw [HW1.out, HG.out]
  go_wp2_with (refine wpList_storeG rfl (.tmp 2) (.tmp 8) rfl rfl (ds := tL 0 0 0 0 0 0) rfl K1.out infoTm rfl (tL_one _ _ _ _ _ _) ?_; intro w9 hr9 hg9 hz9; have B9 := Lib.hid (B1.out.grown hg9 B1.out.size (fun k e => by injection e with e; have := HG.out; omega)); have R9 := Lib.hid hr9; clear hr9 hg9 hz9)
  exact retG2 rfl rfl rfl (loadTm R9.out) rfl ⟨rfl, B9.out⟩
set_option linter.unusedSimpArgs false in
set_option linter.unusedVariables false in
set_option maxHeartbeats 4000000 in
set_option maxRecDepth 100000 in
theorem rparse_bad (l : List Nat) (h8 : All8 l) (hl : l.length = 20) (hck : ck (numP l 0 4) (numP l 5 7) (numP l 8 10) (numP l 11 13) (numP l 14 16) (numP l 17 19) = 1) (w : World) :
    Calls Tryd.prog 28 #[.string (bstr l)] w fun e w' => e = .returned (.tuple #[.agg (tL 0 0 0 0 0 0).toArray, .int .i64 6]) ∧ Below w.heap.size w w' := by
  have Z : ∀ w : World, (zeroValue 23).run Tryd.prog w = .ok (.agg #[.int .i64 0, .int .i64 0, .int .i64 0, .int .i64 0, .int .i64 0, .int .i64 0]) w := zTm
  have hsz : (bstr l).size = 20 := by rw [bstr_size]; exact hl
  have C0 := Lib.hid (fun W => number_any (pc l 0 4) (pc_8 _ _ _ h8) (by rw [pc_len _ _ _ (by omega)]; omega) W)
  have C1 := Lib.hid (fun W => number_any (pc l 5 7) (pc_8 _ _ _ h8) (by rw [pc_len _ _ _ (by omega)]; omega) W)
  have C2 := Lib.hid (fun W => number_any (pc l 8 10) (pc_8 _ _ _ h8) (by rw [pc_len _ _ _ (by omega)]; omega) W)
  have C3 := Lib.hid (fun W => number_any (pc l 11 13) (pc_8 _ _ _ h8) (by rw [pc_len _ _ _ (by omega)]; omega) W)
  have C4 := Lib.hid (fun W => number_any (pc l 14 16) (pc_8 _ _ _ h8) (by rw [pc_len _ _ _ (by omega)]; omega) W)
  have C5 := Lib.hid (fun W => number_any (pc l 17 19) (pc_8 _ _ _ h8) (by rw [pc_len _ _ _ (by omega)]; omega) W)
  have s0 : ∀ W, (Instr.slice 9 (.string (bstr l)) none (some (.int .i64 4)) none).run Tryd.prog W = .ok (.string (bstr (pc l 0 4))) W := slice_h l 4 (by omega)
  have s1 : ∀ W, (Instr.slice 9 (.string (bstr l)) (some (.int .i64 5)) (some (.int .i64 7)) none).run Tryd.prog W = .ok (.string (bstr (pc l 5 7))) W := slice_lh l 5 7 (by omega) (by omega)
  have s2 : ∀ W, (Instr.slice 9 (.string (bstr l)) (some (.int .i64 8)) (some (.int .i64 10)) none).run Tryd.prog W = .ok (.string (bstr (pc l 8 10))) W := slice_lh l 8 10 (by omega) (by omega)
  have s3 : ∀ W, (Instr.slice 9 (.string (bstr l)) (some (.int .i64 11)) (some (.int .i64 13)) none).run Tryd.prog W = .ok (.string (bstr (pc l 11 13))) W := slice_lh l 11 13 (by omega) (by omega)
  have s4 : ∀ W, (Instr.slice 9 (.string (bstr l)) (some (.int .i64 14)) (some (.int .i64 16)) none).run Tryd.prog W = .ok (.string (bstr (pc l 14 16))) W := slice_lh l 14 16 (by omega) (by omega)
  have s5 : ∀ W, (Instr.slice 9 (.string (bstr l)) (some (.int .i64 17)) (some (.int .i64 19)) none).run Tryd.prog W = .ok (.string (bstr (pc l 17 19))) W := slice_lh l 17 19 (by omega) (by omega)
  obtain ⟨g, hg⟩ : ∃ g, w.heap.size = g := ⟨_, rfl⟩
  obtain ⟨w1, hw1⟩ : ∃ w1, w.alloc (.cells #[.int .i64 0, .int .i64 0, .int .i64 0, .int .i64 0, .int .i64 0, .int .i64 0] 23) = w1 := ⟨_, rfl⟩
  have B1 : Hid (Below w.heap.size w w1) := Lib.hid (by rw [← hw1]; exact bel1 w _)
  have K1 : Hid (Bk w1 g 23 (tL 0 0 0 0 0 0)) := Lib.hid (by rw [← hw1, ← hg]; exact Bk.new w _ _)
  have HW1 := Lib.hid hw1
  have HG := Lib.hid hg
  have CK := Lib.hid (fun W => rcheck_any (numP l 0 4) (numP l 5 7) (numP l 8 10) (numP l 11 13) (numP l 14 16) (numP l 17 19) W)
  rw [hck] at CK
  unfold numP at CK
  generalize numR (pc l 0 4) = v0 at *
  generalize bstr (pc l 0 4) = P0 at *
  generalize numR (pc l 5 7) = v1 at *
  generalize bstr (pc l 5 7) = P1 at *
  generalize numR (pc l 8 10) = v2 at *
  generalize bstr (pc l 8 10) = P2 at *
  generalize numR (pc l 11 13) = v3 at *
  generalize bstr (pc l 11 13) = P3 at *
  generalize numR (pc l 14 16) = v4 at *
  generalize bstr (pc l 14 16) = P4 at *
  generalize numR (pc l 17 19) = v5 at *
  generalize bstr (pc l 17 19) = P5 at *
  generalize bstr l = S at *
  have B2 : Hid (Below w.heap.size w w1.drew) := Lib.hid B1.out.drew
  have K2 : Hid (Bk w1.drew g 23 (tL 0 0 0 0 0 0)) := Lib.hid K1.out
  clear hw1 hg hck h8 hl
  go_enter Tryd.func28, Tryd.ntmps28
  go_upto_region 3 with fail
  rw [HW1.out, HG.out]
  go_cut [4] (fun p wx => ∃ g4, p = .pointer (some ⟨g4, 0, none⟩) ∧ g ≠ g4 ∧ Bk wx g4 23 (tL v0 v1 v2 v3 v4 v5) ∧ Bk wx g 23 (tL 0 0 0 0 0 0) ∧ Below w.heap.size w wx)
  case first =>
    go_region_held3 (fun w' => True)
      (trivial)
      (first | (go_at_call 42; have dn6 := dn5; refine (C5.out _).mono ?_; rintro e w4 ⟨rfl, rfl⟩) | (go_at_call 42; have dn5 := dn4; refine (C4.out _).mono ?_; rintro e w4 ⟨rfl, rfl⟩) | (go_at_call 42; have dn4 := dn3; refine (C3.out _).mono ?_; rintro e w4 ⟨rfl, rfl⟩) | (go_at_call 42; have dn3 := dn2; refine (C2.out _).mono ?_; rintro e w4 ⟨rfl, rfl⟩) | (go_at_call 42; have dn2 := dn1; refine (C1.out _).mono ?_; rintro e w4 ⟨rfl, rfl⟩) | (go_at_call 42; have dn1 := True.intro; refine (C0.out _).mono ?_; rintro e w4 ⟨rfl, rfl⟩))
    all_goals
      go_wp2_with fail
      go_meet
      exact ⟨w1.heap.size, rfl, Nat.ne_of_lt K1.out.lt, Bk.new w1 23 (tL v0 v1 v2 v3 v4 v5), K1.out.alloc _, (B1.out.alloc B1.out.size _).drew⟩
  case rest =>
    obtain ⟨g4, rfl, hgg, hr, hk, hb⟩ := hcut
    have R4 := Lib.hid hr
    have K4 := Lib.hid hk
    have B4 := Lib.hid hb
    clear hr hk hb K1 B1 K2 B2
    go_wp2_with (refine wpList_loadG rfl (.tmp 4) rfl rfl (rangeB R4.out) Tryd.underlying23 rfl infoTm ?_)
    refine (CK.out _).mono ?_
    rintro e w6 ⟨rfl, hb⟩
    have B6 := bt B4 (Lib.hid hb)
    have K6 := kt K4 (Lib.hid hb)
    clear hb B4 R4 K4 CK
    go_wp2_with (refine wpList_storeG rfl (.tmp 2) (.tmp 37) rfl rfl (ds := tL 0 0 0 0 0 0) rfl K6.out infoTm rfl (tL_one _ _ _ _ _ _) ?_; intro w9 hr9 hg9 hz9; have B9 := Lib.hid (B6.out.grown hg9 B6.out.size (fun k e => by injection e with e; have := HG.out; omega)); have R9 := Lib.hid hr9; clear hr9 hg9 hz9)
    exact retG2 rfl rfl rfl (loadTm R9.out) rfl ⟨rfl, B9.out⟩
end Go.Proofs.YtecmgkmonehmfaaDoor.Tim
