/-
  Layer 5: contracts of Nat.
  Conditions: the slice reads as bytes, and is short.
-/
import Derived.Test.YtdmbkbgnlmiilaaSclR
namespace Go.Proofs.Ytdmbkbgnlmiilaa.Scl
open Go.RowKit

set_option maxRecDepth 100000 in
set_option maxHeartbeats 2000000 in
theorem nat_ok (A : Option Addr) (l : List Nat) (N c M : Nat) (w : World) (h : Rb w A l) (hN : l.length = N) (hn : N ≤ 1000) (hc : chkN l = 0) (hM : (pnL l).length = M) :
    Calls Try.prog 27 #[.slice A N c] w fun e w' => ∃ A', e = .returned (.tuple #[elV 0 2 false (.slice A' M M) (.slice none 0 0), .int .i64 0]) ∧ Rb w' A' (pnL l) ∧ Below w.heap.size w w' := by
  have hk := Bk.new w 34 elZ
  have HB0 := Lib.hid (bel1 w (.cells elZ.toArray 34))
  have HP0 := pnat_any A l N c (w.alloc (.cells elZ.toArray 34)) (h.below HB0.out) hN hn
  unfold GiveFN at HP0
  rw [hc] at HP0
  obtain ⟨P, hP⟩ : ∃ P, pnL l = P := ⟨_, rfl⟩
  rw [hP] at HP0 hM ⊢
  rw [hM] at HP0
  have HP := Lib.hid HP0
  clear HP0 h hN hc hP hM
  go_enter Try.func27, Try.ntmps27
  go_wp2_with fail
  refine HP.out.mono ?_
  rintro e w1 ⟨A1, rfl, hr, hb, hq⟩
  have hk1 := hk.below hb hk.lt
  have HR := Lib.hid hr
  have HB1 := bt HB0 (Lib.hid hb)
  have HQ := Lib.hid (fun q (e : A1 = some q) => (by have h1 := hq q e; have h2 : w.heap.size + 1 ≤ q.block := by simpa using h1
                                                     omega : q.block ≠ w.heap.size))
  clear hb hr hk hq
  go_wp2_with fail
  refine (elem_any 2 (.slice A1 M M) w1 ⟨_, _, _, rfl⟩).mono ?_
  rintro e w2 ⟨rfl, hb⟩
  have hk2 := hk1.below hb hk1.lt
  obtain ⟨c0, c1, c2, c3, c4, hsz⟩ := Bk.five hk2
  obtain ⟨f0, f1, f2, f3, f4⟩ := Bk.free5 hk2
  have HB2 := bt HB1 (Lib.hid hb)
  have HR2 := Lib.hid (HR.out.below hb)
  have HK := Lib.hid (((((hk2.store 0 (.int .u8 0)).store 1 (.bool false)).store 2 (.int .u32 2)).store 3 (.slice A1 M M)).store 4 (.slice none 0 0))
  clear hb hk1 hk2 HP
  go_wp2_with fail
  obtain ⟨s0, s1, s2, s3, s4, _⟩ := Bk.five HK.out
  have hl := Nat.le_refl w.heap.size
  exact bodyPost_ret (v := .tuple #[elV 0 2 false (.slice A1 M M) (.slice none 0 0), .int .i64 0]) (by simp [results, Try.results27, go_sem, s0, s1, s2, s3, s4]) rfl
    ⟨A1, rfl, ((((HR2.out.far HQ.out _).far HQ.out _).far HQ.out _).far HQ.out _).far HQ.out _, ((((HB2.out.setCell (p := ⟨w.heap.size, 0, none⟩) hl _).setCell (p := ⟨w.heap.size, 1, none⟩) hl _).setCell (p := ⟨w.heap.size, 2, none⟩) hl _).setCell (p := ⟨w.heap.size, 3, none⟩) hl _).setCell (p := ⟨w.heap.size, 4, none⟩) hl _⟩
set_option maxRecDepth 100000 in
set_option maxHeartbeats 2000000 in
theorem nat_bad (A : Option Addr) (l : List Nat) (N c f : Nat) (w : World) (h : Rb w A l) (hN : l.length = N) (hn : N ≤ 1000) (hc : chkN l = f) (hf : f ≠ 0) :
    Calls Try.prog 27 #[.slice A N c] w fun e w' => e = .returned (.tuple #[elV 0 0 false (.slice none 0 0) (.slice none 0 0), .int .i64 (f : Int)]) ∧ Below w.heap.size w w' := by
  have hk := Bk.new w 34 elZ
  have HB0 := Lib.hid (bel1 w (.cells elZ.toArray 34))
  have HP0 := pnat_any A l N c (w.alloc (.cells elZ.toArray 34)) (h.below HB0.out) hN hn
  have e : pnL l = [] := by unfold pnL; rw [if_neg (by omega)]
  have hfb : ((f : Int) != 0) = true := by simp; omega
  unfold GiveFN at HP0
  rw [hc, e] at HP0
  have HP := Lib.hid HP0
  clear HP0 h hN hc e hf
  go_enter Try.func27, Try.ntmps27
  go_wp2_with fail
  refine HP.out.mono ?_
  rintro e w2 ⟨A1, rfl, hr, hb, hq⟩
  have hk2 := hk.below hb hk.lt
  obtain ⟨c0, c1, c2, c3, c4, hsz⟩ := Bk.five hk2
  obtain ⟨f0, f1, f2, f3, f4⟩ := Bk.free5 hk2
  have HB2 := bt HB0 (Lib.hid hb)
  have HK := Lib.hid (((((hk2.store 0 (.int .u8 0)).store 1 (.bool false)).store 2 (.int .u32 0)).store 3 (.slice none 0 0)).store 4 (.slice none 0 0))
  clear hb hr hk hq hk2 HP
  go_wp2_with fail
  obtain ⟨s0, s1, s2, s3, s4, _⟩ := Bk.five HK.out
  have hl := Nat.le_refl w.heap.size
  exact bodyPost_ret (v := .tuple #[elV 0 0 false (.slice none 0 0) (.slice none 0 0), .int .i64 (f : Int)]) (by simp [results, Try.results27, go_sem, s0, s1, s2, s3, s4]) rfl
    ⟨rfl, ((((HB2.out.setCell (p := ⟨w.heap.size, 0, none⟩) hl _).setCell (p := ⟨w.heap.size, 1, none⟩) hl _).setCell (p := ⟨w.heap.size, 2, none⟩) hl _).setCell (p := ⟨w.heap.size, 3, none⟩) hl _).setCell (p := ⟨w.heap.size, 4, none⟩) hl _⟩
end Go.Proofs.Ytdmbkbgnlmiilaa.Scl
