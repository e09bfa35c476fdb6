/-
  Layer 10: At.
  Conditions: the table of the months holds what the program's text lays.
-/
import Derived.Test.YtecmgkmonehmfaaDoorTimH
namespace Go.Proofs.YtecmgkmonehmfaaDoor.Tim
open Go.RowKit

theorem db10000 : dbT 10000 = 3652425 := rfl
theorem before_10000 (w : World) : Calls Tryd.prog 36 #[.int .i64 10000] w fun e w' => e = .returned (.int .i64 3652425) ∧ Below w.heap.size w w' := by
  have h := before_any 10000 (by decide) w
  rw [db10000] at h
  exact h
/-- A struct out of a variable, and one value more, are returned. -/
theorem retG2 {fn : Func} {p q : Tmp} {t : TypeId} (h : fn.results = #[.cell p t, .tmp q]) {a : Act} {w : World} {g : Nat} {cs : List Value} {v : Value} (hp : a.tmps.getD p undef = .pointer (some ⟨g, 0, none⟩)) (hq : a.tmps.getD q undef = v)
    (hl : (loadVar t ⟨g, 0, none⟩).run Tryd.prog w = .ok (.agg cs.toArray) w) (hdf : a.defers = [])
    {R : Ending → World → Prop} (hR : R (.returned (.tuple #[.agg cs.toArray, v])) w) : bodyPost Tryd.prog fn R .ret a w := by
  refine bodyPost_ret ?_ hdf hR
  have hp' : a.tmps[p]?.getD undef = .pointer (some ⟨g, 0, none⟩) := by simpa using hp
  have hq' : a.tmps[q]?.getD undef = v := by simpa using hq
  simp [results, h, hp', hq', asAddr, hl]

set_option linter.unusedSimpArgs false in
set_option linter.unusedVariables false in
set_option maxHeartbeats 4000000 in
set_option maxRecDepth 100000 in
theorem at_bad (n : Int) (hn : I64 n) (hb : n < 0 ∨ 315569520000 ≤ n) (w : World) :
    Calls Tryd.prog 31 #[.int .i64 n] w fun e w' => e = .returned (.tuple #[.agg (tL 0 0 0 0 0 0).toArray, .int .i64 1]) ∧ Below w.heap.size w w' := by
  have Z := zTm
  obtain ⟨g, hg⟩ : ∃ g, w.heap.size = g := ⟨_, rfl⟩
  obtain ⟨w1, hw1⟩ : ∃ w1, w.alloc (.cells (tL 0 0 0 0 0 0).toArray 23) = w1 := ⟨_, rfl⟩
  have B1 : Hid (Below w.heap.size w w1) := Lib.hid (by rw [← hw1]; exact bel1 w _)
  have K1 : Hid (Bk w1 g 23 (tL 0 0 0 0 0 0)) := Lib.hid (by rw [← hw1, ← hg]; exact Bk.new w _ _)
  have HW1 := Lib.hid hw1
  have HG := Lib.hid hg
  have CB := Lib.hid (fun W => before_10000 W)
  clear hw1 hg
  by_cases h0 : n < 0
  · go_enter Tryd.func31, Tryd.ntmps31
    go_upto_region 1 with fail
    rw [HW1.out, HG.out]
    go_wp2_with (refine wpList_storeG rfl (.tmp 2) (.tmp 13) rfl rfl (ds := tL 0 0 0 0 0 0) rfl K1.out infoTm rfl (tL_one _ _ _ _ _ _) ?_
                 intro w8 hr8 hg8 hz8
                 have B8 := Lib.hid (B1.out.grown hg8 B1.out.size (fun k e => by injection e with e; have := HG.out; omega))
                 have R8 := Lib.hid hr8
                 clear hr8 hg8 hz8)
    exact retG2 rfl rfl rfl (loadTm R8.out) rfl ⟨rfl, B8.out⟩
  · have h1 : (315569520000 : Int) ≤ n := by omega
    have h2 : ¬ n < 0 := by omega
    clear hb h0
    go_enter Tryd.func31, Tryd.ntmps31
    go_upto_region 1 with fail
    rw [HW1.out, HG.out]
    go_wp2_with fail
    refine (CB.out _).mono ?_
    rintro e w2 ⟨rfl, hb⟩
    have B2 := bt B1 (Lib.hid hb)
    have K2 := kt K1 (Lib.hid hb)
    clear hb B1 K1
    go_wp2_with (refine wpList_storeG rfl (.tmp 2) (.tmp 13) rfl rfl (ds := tL 0 0 0 0 0 0) rfl K2.out infoTm rfl (tL_one _ _ _ _ _ _) ?_
                 intro w8 hr8 hg8 hz8
                 have B8 := Lib.hid (B2.out.grown hg8 B2.out.size (fun k e => by injection e with e; have := HG.out; omega))
                 have R8 := Lib.hid hr8
                 clear hr8 hg8 hz8)
    exact retG2 rfl rfl rfl (loadTm R8.out) rfl ⟨rfl, B8.out⟩

set_option linter.unusedSimpArgs false in
set_option linter.unusedVariables false in
set_option maxHeartbeats 4000000 in
set_option maxRecDepth 100000 in
theorem at_ok (n : Nat) (hn : n < 315569520000) (w : World) (hE : Env w) :
    Calls Tryd.prog 31 #[.int .i64 (n : Int)] w fun e w' => ∃ Y M d : Nat, isDate (n / 86400) Y M d ∧ e = .returned (.tuple #[.agg (tL Y M d ((n % 86400 / 3600 : Nat) : Int) ((n % 3600 / 60 : Nat) : Int) ((n % 60 : Nat) : Int)).toArray, .int .i64 0]) ∧ Below w.heap.size w w' := by
  have Z := zTm
  obtain ⟨g, hg⟩ : ∃ g, w.heap.size = g := ⟨_, rfl⟩
  obtain ⟨w1, hw1⟩ : ∃ w1, w.alloc (.cells (tL 0 0 0 0 0 0).toArray 23) = w1 := ⟨_, rfl⟩
  have B1 : Hid (Below w.heap.size w w1) := Lib.hid (by rw [← hw1]; exact bel1 w _)
  have K1 : Hid (Bk w1 g 23 (tL 0 0 0 0 0 0)) := Lib.hid (by rw [← hw1, ← hg]; exact Bk.new w _ _)
  have HW1 := Lib.hid hw1
  have HG := Lib.hid hg
  have HE := Lib.hid hE
  have CB := Lib.hid (fun W => before_10000 W)
  have CD0 : ∀ W, Env W → Calls Tryd.prog 45 #[.int .i64 ((n : Int) / 86400)] W fun e w' => ∃ Y M d : Nat, isDate (n / 86400) Y M d ∧ e = .returned (.agg (tL Y M d 0 0 0).toArray) ∧ Below W.heap.size W w' := fun W h => by
    rw [show (n : Int) / 86400 = ((n / 86400 : Nat) : Int) by omega]
    exact date_any (n / 86400) (by rw [db10000]; omega) W h
  have CD := Lib.hid CD0
  clear CD0
  obtain ⟨z, hz⟩ : ∃ z : Int, (n : Int) = z := ⟨_, rfl⟩
  have h1 : ¬ (315569520000 : Int) ≤ z := by omega
  have h2 : ¬ z < 0 := by omega
  have HZ := Lib.hid hz
  have HN := Lib.hid hn
  rw [hz] at CD
  have HH : Hid (z % 86400 / 3600 = ((n % 86400 / 3600 : Nat) : Int) ∧ z % 3600 / 60 = ((n % 3600 / 60 : Nat) : Int) ∧ z % 60 = ((n % 60 : Nat) : Int)) := Lib.hid (by rw [← hz]; omega)
  generalize n % 86400 / 3600 = hv at *
  generalize n % 3600 / 60 = mv at *
  generalize n % 60 = sv at *
  generalize n / 86400 = D at *
  rw [hz]
  clear hw1 hg hE hz hn
  go_enter Tryd.func31, Tryd.ntmps31
  go_upto_region 1 with fail
  rw [HW1.out, HG.out]
  go_wp2_with fail
  refine (CB.out _).mono ?_
  rintro e w2 ⟨rfl, hb⟩
  have B2 := bt B1 (Lib.hid hb)
  have K2 := kt K1 (Lib.hid hb)
  clear hb B1 K1
  go_wp2_with fail
  refine (CD.out _ (HE.out.below B2.out)).mono ?_
  rintro e w3 ⟨Y, M, d, hdt, rfl, hb⟩
  have HDT := Lib.hid hdt
  have B3 := bt B2 (Lib.hid hb)
  have K3 := kt K2 (Lib.hid hb)
  clear hb B2 K2 hdt CD
  obtain ⟨g4, hg4⟩ : ∃ g4, w3.heap.size = g4 := ⟨_, rfl⟩
  have HG4 := Lib.hid hg4
  have hgg : g ≠ g4 := by have := K3.out.lt; omega
  have hwg : w.heap.size ≤ g4 := by have := B3.out.size; omega
  have hwg1 : w.heap.size ≤ g := by have := HG.out; omega
  clear hg4
  go_upto_region 4 with
                (refine wpList_storeG rfl (.tmp 4) (.tmp 16) rfl rfl (ds := tL Y M d 0 0 0) rfl (Bk.new w3 23 (tL 0 0 0 0 0 0)) infoTm rfl (tL_one _ _ _ _ _ _) ?_
                 intro w5 hk5 hg5 hz5
                 have B5 := Lib.hid ((B3.out.alloc B3.out.size _).grown hg5 (Nat.le_trans B3.out.size (by simp)) (fun k e => by injection e with e; have := HG4.out; omega))
                 have K5 : Hid (Bk w5 g 23 (tL 0 0 0 0 0 0)) := Lib.hid ((K3.out.alloc _).only hg5 (fun e => by injection e with e; have := HG4.out; omega))
                 have R5 : Hid (Bk w5 g4 23 (tL Y M d 0 0 0)) := Lib.hid (by have := hk5; rw [HG4.out] at this; exact this)
                 clear hk5 hg5 hz5)
  rw [HG4.out]
  have c3 : w5.cell? ⟨g4, 3, none⟩ = some (.int .i64 0) := by rw [R5.out.cell]; rfl
  have f3 := R5.out.free 3
  go_upto_region 5 with fail
  have R6 : Hid (Bk (w5.setCell ⟨g4, 3, none⟩ (.int .i64 (z % 86400 / 3600))) g4 23 (tL Y M d (z % 86400 / 3600) 0 0)) := Lib.hid (R5.out.store 3 _)
  have K6 : Hid (Bk (w5.setCell ⟨g4, 3, none⟩ (.int .i64 (z % 86400 / 3600))) g 23 (tL 0 0 0 0 0 0)) := Lib.hid (K5.out.far (p := ⟨g4, 3, none⟩) hgg _)
  have B6 : Hid (Below w.heap.size w (w5.setCell ⟨g4, 3, none⟩ (.int .i64 (z % 86400 / 3600)))) := Lib.hid (B5.out.setCell (p := ⟨g4, 3, none⟩) hwg _)
  generalize w5.setCell ⟨g4, 3, none⟩ (.int .i64 (z % 86400 / 3600)) = w6 at *
  clear R5 K5 B5 c3 f3
  have c4 : w6.cell? ⟨g4, 4, none⟩ = some (.int .i64 0) := by rw [R6.out.cell]; rfl
  have f4 := R6.out.free 4
  go_upto_region 6 with fail
  have R7 : Hid (Bk (w6.setCell ⟨g4, 4, none⟩ (.int .i64 (z % 3600 / 60))) g4 23 (tL Y M d (z % 86400 / 3600) (z % 3600 / 60) 0)) := Lib.hid (R6.out.store 4 _)
  have K7 : Hid (Bk (w6.setCell ⟨g4, 4, none⟩ (.int .i64 (z % 3600 / 60))) g 23 (tL 0 0 0 0 0 0)) := Lib.hid (K6.out.far (p := ⟨g4, 4, none⟩) hgg _)
  have B7 : Hid (Below w.heap.size w (w6.setCell ⟨g4, 4, none⟩ (.int .i64 (z % 3600 / 60)))) := Lib.hid (B6.out.setCell (p := ⟨g4, 4, none⟩) hwg _)
  generalize w6.setCell ⟨g4, 4, none⟩ (.int .i64 (z % 3600 / 60)) = w7 at *
  clear R6 K6 B6 c4 f4
  have c5 : w7.cell? ⟨g4, 5, none⟩ = some (.int .i64 0) := by rw [R7.out.cell]; rfl
  have f5 := R7.out.free 5
  go_upto_region 7 with fail
  have R8 : Hid (Bk (w7.setCell ⟨g4, 5, none⟩ (.int .i64 (z % 60))) g4 23 (tL Y M d (z % 86400 / 3600) (z % 3600 / 60) (z % 60))) := Lib.hid (R7.out.store 5 _)
  have K8 : Hid (Bk (w7.setCell ⟨g4, 5, none⟩ (.int .i64 (z % 60))) g 23 (tL 0 0 0 0 0 0)) := Lib.hid (K7.out.far (p := ⟨g4, 5, none⟩) hgg _)
  have B8 : Hid (Below w.heap.size w (w7.setCell ⟨g4, 5, none⟩ (.int .i64 (z % 60)))) := Lib.hid (B7.out.setCell (p := ⟨g4, 5, none⟩) hwg _)
  generalize w7.setCell ⟨g4, 5, none⟩ (.int .i64 (z % 60)) = w8 at *
  clear R7 K7 B7 c5 f5
  go_wp2_with (first | (refine wpList_loadG rfl (.tmp 4) rfl rfl (rangeB R8.out) Tryd.underlying23 rfl infoTm ?_)
                     | (refine wpList_storeG rfl (.tmp 2) (.tmp 28) rfl rfl (ds := tL Y M d (z % 86400 / 3600) (z % 3600 / 60) (z % 60)) rfl K8.out infoTm rfl (tL_one _ _ _ _ _ _) ?_
                        intro w9 hr9 hg9 hz9
                        have B9 := Lib.hid (B8.out.grown hg9 B8.out.size (fun k e => by injection e with e; omega))
                        have R9 := Lib.hid hr9
                        clear hr9 hg9 hz9))
  exact retG2 rfl rfl rfl (loadTm R9.out) rfl ⟨Y, M, d, HDT.out, by rw [HH.out.1, HH.out.2.1, HH.out.2.2]; rfl, B9.out⟩
end Go.Proofs.YtecmgkmonehmfaaDoor.Tim
