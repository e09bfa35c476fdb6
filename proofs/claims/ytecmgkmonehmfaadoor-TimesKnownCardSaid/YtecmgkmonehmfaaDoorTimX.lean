/-
  Layer 10: a time out of plain data.
  Conditions: the numbers are of 8 bits, the year of 16.
-/
import Derived.Test.YtecmgkmonehmfaaDoorTimW
namespace Go.Proofs.YtecmgkmonehmfaaDoor.Tim
open Go.RowKit
attribute [local go_sem] Oper.semAt_some

/-- Plain data as cells. -/
def ptL (a b c d e f : Nat) : List Value := [.int .u16 (a : Int), .int .u8 (b : Int), .int .u8 (c : Int), .int .u8 (d : Int), .int .u8 (e : Int), .int .u8 (f : Int)]
def ofD (a b c : Nat) : Nat := 1 + c % dyT ((a % 10000 : Nat) : Int) ((1 + b % 12 : Nat) : Int)
/-- Its time as cells. -/
def ofL (a b c d e f : Nat) : List Value := tL ((a % 10000 : Nat) : Int) ((1 + b % 12 : Nat) : Int) ((ofD a b c : Nat) : Int) ((d % 24 : Nat) : Int) ((e % 60 : Nat) : Int) ((f % 60 : Nat) : Int)
theorem dy_pos (y : Int) (k : Nat) (h : k < 12) : 28 ≤ dyT y ((1 + k : Nat) : Int) := by
  rw [show ((1 + k : Nat) : Int) = (k : Int) + 1 by omega, dyT_in h]
  have := md_le k h
  omega
theorem of_ck (a b c d e f : Nat) : ck ((a % 10000 : Nat) : Int) ((1 + b % 12 : Nat) : Int) ((ofD a b c : Nat) : Int) ((d % 24 : Nat) : Int) ((e % 60 : Nat) : Int) ((f % 60 : Nat) : Int) = 0 := by
  have h := dy_pos ((a % 10000 : Nat) : Int) (b % 12) (Nat.mod_lt _ (by decide))
  have hc := Nat.mod_lt c (show 0 < dyT ((a % 10000 : Nat) : Int) ((1 + b % 12 : Nat) : Int) by omega)
  unfold ck
  rw [if_pos]
  unfold ckD ckC ofD inI
  generalize dyT ((a % 10000 : Nat) : Int) ((1 + b % 12 : Nat) : Int) = D at *
  simp only [Bool.and_eq_true, decide_eq_true_eq]
  omega
set_option linter.unusedSimpArgs false in
set_option linter.unusedVariables false in
set_option maxHeartbeats 4000000 in
set_option maxRecDepth 100000 in
theorem tof_any (a b c d e f : Nat) (ha : a < 65536) (hb : b < 256) (hc : c < 256) (hd : d < 256) (he : e < 256) (hf : f < 256) (w : World) :
    Calls Tryd.prog 20 #[.agg #[.int .u16 (a : Int), .int .u8 (b : Int), .int .u8 (c : Int), .int .u8 (d : Int), .int .u8 (e : Int), .int .u8 (f : Int)]] w fun x w' => x = .returned (.agg (ofL a b c d e f).toArray) ∧ Below w.heap.size w w' := by
  have Z : ∀ w : World, (zeroValue 23).run Tryd.prog w = .ok (.agg #[.int .i64 0, .int .i64 0, .int .i64 0, .int .i64 0, .int .i64 0, .int .i64 0]) w := zTm
  obtain ⟨g, hg⟩ : ∃ g, w.heap.size = g := ⟨_, rfl⟩
  obtain ⟨g2, hg2⟩ : ∃ g2, g + 1 = g2 := ⟨_, rfl⟩
  obtain ⟨g3, hg3⟩ : ∃ g3, g2 + 1 = g3 := ⟨_, rfl⟩
  obtain ⟨w1, hw1⟩ : ∃ w1, (w.alloc (.cells #[.int .u16 (a : Int), .int .u8 (b : Int), .int .u8 (c : Int), .int .u8 (d : Int), .int .u8 (e : Int), .int .u8 (f : Int)] 44)).alloc (.cells #[.int .i64 0, .int .i64 0, .int .i64 0, .int .i64 0, .int .i64 0, .int .i64 0] 23) = w1 := ⟨_, rfl⟩
  have B1 : Hid (Below w.heap.size w w1) := Lib.hid (by rw [← hw1]; exact (bel1 w _).alloc (by simp) _)
  have K1 : Hid (Bk w1 g 44 (ptL a b c d e f)) := Lib.hid (by rw [← hw1, ← hg]; exact (Bk.new w _ (ptL a b c d e f)).alloc _)
  have R1 : Hid (Bk w1 g2 23 (tL 0 0 0 0 0 0)) := Lib.hid (by
    rw [← hw1, ← hg2, ← hg]
    have := Bk.new (w.alloc (.cells (ptL a b c d e f).toArray 44)) 23 (tL 0 0 0 0 0 0)
    rwa [World.size_alloc] at this)
  have hz1 : w1.heap.size = g3 := by rw [← hw1]; simp; omega
  have HW1 := Lib.hid hw1
  have HG := Lib.hid hg
  have HG2 := Lib.hid hg2
  have HZ1 := Lib.hid hz1
  have c0 : w1.cell? ⟨g, 0, none⟩ = some (.int .u16 (a : Int)) := by rw [K1.out.cell]; rfl
  have c1 : w1.cell? ⟨g, 1, none⟩ = some (.int .u8 (b : Int)) := by rw [K1.out.cell]; rfl
  have c2 : w1.cell? ⟨g, 2, none⟩ = some (.int .u8 (c : Int)) := by rw [K1.out.cell]; rfl
  have c3 : w1.cell? ⟨g, 3, none⟩ = some (.int .u8 (d : Int)) := by rw [K1.out.cell]; rfl
  have c4 : w1.cell? ⟨g, 4, none⟩ = some (.int .u8 (e : Int)) := by rw [K1.out.cell]; rfl
  have c5 : w1.cell? ⟨g, 5, none⟩ = some (.int .u8 (f : Int)) := by rw [K1.out.cell]; rfl
  obtain ⟨y, hy⟩ : ∃ y, a % 10000 = y := ⟨_, rfl⟩
  obtain ⟨m, hm⟩ : ∃ m, b % 12 = m := ⟨_, rfl⟩
  obtain ⟨h, hh⟩ : ∃ h, d % 24 = h := ⟨_, rfl⟩
  obtain ⟨mi, hmi⟩ : ∃ mi, e % 60 = mi := ⟨_, rfl⟩
  obtain ⟨s, hs⟩ : ∃ s, f % 60 = s := ⟨_, rfl⟩
  have hm12 : m < 12 := by omega
  have CD : Hid (∀ W, Calls Tryd.prog 13 #[.int .i64 (y : Int), .int .i64 (1 + (m : Int))] W fun x w' => x = .returned (.int .i64 (dyT (y : Int) ((1 + m : Nat) : Int) : Int)) ∧ W = w') := Lib.hid (fun W => by
    have := rdays_any (y : Int) ((1 + m : Nat) : Int) W
    rwa [show ((1 + m : Nat) : Int) = 1 + (m : Int) by omega] at this ⊢)
  have hp := dy_pos (y : Int) m hm12
  have hle := dyT_le (y : Int) ((1 + m : Nat) : Int)
  have HD : Hid (ofD a b c = 1 + c % dyT (y : Int) ((1 + m : Nat) : Int)) := Lib.hid (by unfold ofD; rw [hy, hm])
  generalize dyT (y : Int) ((1 + m : Nat) : Int) = D at *
  obtain ⟨dd, hdd⟩ : ∃ dd, c % D = dd := ⟨_, rfl⟩
  rw [hdd] at HD
  have hmod : ((c : Int)).tmod (D : Int) = (dd : Int) := by rw [← hdd]; rfl
  have hmod2 : ((c : Int)) % (D : Int) = (dd : Int) := by rw [← hdd]; rfl
  have hddl : dd < D := by rw [← hdd]; exact Nat.mod_lt _ (by omega)
  have y1 : (a : Int) % 10000 = (y : Int) := by omega
  have m1 : (b : Int) % 12 = (m : Int) := by omega
  have h1 : (d : Int) % 24 = (h : Int) := by omega
  have i1 : (e : Int) % 60 = (mi : Int) := by omega
  have s1 : (f : Int) % 60 = (s : Int) := by omega
  have dnn : ¬ D = 0 := by omega
  have dn0 : ¬ (D : Int) = 0 := by omega
  have dn00 : ((D : Int) == 0) = false := by rw [beq_eq_false_iff_ne]; exact dn0
  have HL : Hid (ofL a b c d e f = tL y (1 + (m : Int)) (1 + (dd : Int)) h mi s) := Lib.hid (by unfold ofL; rw [hy, hm, hh, hmi, hs, HD.out]; rw [show ((1 + m : Nat) : Int) = 1 + (m : Int) by omega, show ((1 + dd : Nat) : Int) = 1 + (dd : Int) by omega])
  have wa : IntKind.u16.wrap (y : Int) = (y : Int) := by rw [IntKind.wrap_u16]; omega
  have wy : IntKind.i64.wrap (y : Int) = (y : Int) := by rw [IntKind.wrap_i64]; omega
  have wm : IntKind.i64.wrap (1 + (m : Int)) = 1 + (m : Int) := by rw [IntKind.wrap_i64]; omega
  have wd : IntKind.i64.wrap (dd : Int) = (dd : Int) := by rw [IntKind.wrap_i64]; omega
  have wd1 : IntKind.i64.wrap (1 + (dd : Int)) = 1 + (dd : Int) := by rw [IntKind.wrap_i64]; omega
  have wc : IntKind.i64.wrap (c : Int) = (c : Int) := by rw [IntKind.wrap_i64]; omega
  have w8m : IntKind.u8.wrap (m : Int) = (m : Int) := by rw [IntKind.wrap_u8]; omega
  have w6m : IntKind.i64.wrap (m : Int) = (m : Int) := by rw [IntKind.wrap_i64]; omega
  have w8h : IntKind.u8.wrap (h : Int) = (h : Int) := by rw [IntKind.wrap_u8]; omega
  have w6h : IntKind.i64.wrap (h : Int) = (h : Int) := by rw [IntKind.wrap_i64]; omega
  have w8mi : IntKind.u8.wrap (mi : Int) = (mi : Int) := by rw [IntKind.wrap_u8]; omega
  have w6mi : IntKind.i64.wrap (mi : Int) = (mi : Int) := by rw [IntKind.wrap_i64]; omega
  have w8s : IntKind.u8.wrap (s : Int) = (s : Int) := by rw [IntKind.wrap_u8]; omega
  have w6s : IntKind.i64.wrap (s : Int) = (s : Int) := by rw [IntKind.wrap_i64]; omega
  clear hw1 hg hg2 hg3 hz1 hy hm hh hmi hs hdd
  go_enter Tryd.func20, Tryd.ntmps20
  go_upto_region 1 with fail
  rw [HW1.out, HG.out, HG2.out]
  go_upto_region 2 with fail
  rw [HZ1.out]
  obtain ⟨w2, hw2⟩ : ∃ w2, (w1.alloc (.cells #[.int .i64 (y : Int), .int .i64 (1 + (m : Int)), .int .i64 0, .int .i64 (h : Int), .int .i64 (mi : Int), .int .i64 (s : Int)] 23)).drew = w2 := ⟨_, rfl⟩
  have B2 : Hid (Below w.heap.size w w2) := Lib.hid (by rw [← hw2]; exact (B1.out.alloc B1.out.size _).drew)
  have K2 : Hid (Bk w2 g 44 (ptL a b c d e f)) := Lib.hid (by rw [← hw2]; exact K1.out.alloc _)
  have R2 : Hid (Bk w2 g2 23 (tL 0 0 0 0 0 0)) := Lib.hid (by rw [← hw2]; exact R1.out.alloc _)
  have S2 : Hid (Bk w2 g3 23 (tL y (1 + (m : Int)) 0 h mi s)) := Lib.hid (by rw [← hw2, ← HZ1.out]; exact Bk.new w1 _ (tL y (1 + (m : Int)) 0 h mi s))
  have hg3n : g ≠ g3 := by have := K1.out.lt; have := HZ1.out; omega
  have hg23n : g2 ≠ g3 := by have := R1.out.lt; have := HZ1.out; omega
  have hwg3 : w.heap.size ≤ g3 := by have := B1.out.size; have := HZ1.out; omega
  have e2 : w2.cell? ⟨g, 2, none⟩ = some (.int .u8 (c : Int)) := by rw [K2.out.cell]; rfl
  have t0 : w2.cell? ⟨g3, 0, none⟩ = some (.int .i64 (y : Int)) := by rw [S2.out.cell]; rfl
  have t1 : w2.cell? ⟨g3, 1, none⟩ = some (.int .i64 (1 + (m : Int))) := by rw [S2.out.cell]; rfl
  have t2 : w2.cell? ⟨g3, 2, none⟩ = some (.int .i64 0) := by rw [S2.out.cell]; rfl
  have f2 := S2.out.free 2
  have K3 : Hid (Bk (w2.setCell ⟨g3, 2, none⟩ (.int .i64 (1 + (dd : Int)))) g 44 (ptL a b c d e f)) := Lib.hid (K2.out.far (p := ⟨g3, 2, none⟩) hg3n _)
  have R3 : Hid (Bk (w2.setCell ⟨g3, 2, none⟩ (.int .i64 (1 + (dd : Int)))) g2 23 (tL 0 0 0 0 0 0)) := Lib.hid (R2.out.far (p := ⟨g3, 2, none⟩) hg23n _)
  have S3 : Hid (Bk (w2.setCell ⟨g3, 2, none⟩ (.int .i64 (1 + (dd : Int)))) g3 23 (tL y (1 + (m : Int)) (1 + (dd : Int)) h mi s)) := Lib.hid (S2.out.store 2 _)
  have B3 : Hid (Below w.heap.size w (w2.setCell ⟨g3, 2, none⟩ (.int .i64 (1 + (dd : Int))))) := Lib.hid (B2.out.setCell (p := ⟨g3, 2, none⟩) hwg3 _)
  have k0 : (w2.setCell ⟨g3, 2, none⟩ (.int .i64 (1 + (dd : Int)))).cell? ⟨g, 2, none⟩ = some (.int .u8 (c : Int)) := by rw [K3.out.cell]; rfl
  have k1 : (w2.setCell ⟨g3, 2, none⟩ (.int .i64 (1 + (dd : Int)))).cell? ⟨g3, 0, none⟩ = some (.int .i64 (y : Int)) := by rw [S3.out.cell]; rfl
  have k2 : (w2.setCell ⟨g3, 2, none⟩ (.int .i64 (1 + (dd : Int)))).cell? ⟨g3, 1, none⟩ = some (.int .i64 (1 + (m : Int))) := by rw [S3.out.cell]; rfl
  clear HW1 K1 R1 B1 K2 R2 S2 c0 c1 c2 c3 c4 c5 y1 m1 h1 i1 s1
  go_cut [] (fun wx => Bk wx g3 23 (tL y (1 + (m : Int)) (1 + (dd : Int)) h mi s) ∧ Bk wx g2 23 (tL 0 0 0 0 0 0) ∧ Below w.heap.size w wx)
  case first =>
    refine wp_region_held_drew (S := fun W => W.cell? ⟨g, 2, none⟩ = some (.int .u8 (c : Int)) ∧ W.cell? ⟨g3, 0, none⟩ = some (.int .i64 (y : Int)) ∧ W.cell? ⟨g3, 1, none⟩ = some (.int .i64 (1 + (m : Int)))) (by kernel_rfl) (by rw [hw2]; exact ⟨e2, t0, t1⟩) (fun hS => ?_)
    rw [hw2] at hS ⊢
    clear hw2
    refine wpAnyH_take (i := 0) (oi := ⟨some 26, _, _, _, _, _⟩) (v := .pointer (some ⟨g, 2, none⟩)) rfl (by kernel_rfl) (by kernel_rfl) (by kernel_rfl) (fun _ _ _ h => h) (Or.inl ⟨by rfl, fun w hSw => by (try dsimp only at hSw); go_simp⟩) hS ?_
    simp only [Act.put, List.setIfInBounds_toArray, List.set_cons_zero, List.set_cons_succ]
    refine wpAnyH_take (i := 1) (oi := ⟨some 27, _, _, _, _, _⟩) (v := .int .u8 (c : Int)) rfl (by kernel_rfl) (by kernel_rfl) (by kernel_rfl) (fun _ _ _ h => h) (Or.inl ⟨by rfl, fun w hSw => by have hce := hSw.1; go_simp⟩) hS ?_
    simp only [Act.put, List.setIfInBounds_toArray, List.set_cons_zero, List.set_cons_succ]
    refine wpAnyH_take (i := 2) (oi := ⟨some 28, _, _, _, _, _⟩) (v := .int .i64 (c : Int)) rfl (by kernel_rfl) (by kernel_rfl) (by kernel_rfl) (fun _ _ _ h => h) (Or.inl ⟨by rfl, fun w hSw => by (try dsimp only at hSw); go_simp⟩) hS ?_
    simp only [Act.put, List.setIfInBounds_toArray, List.set_cons_zero, List.set_cons_succ]
    refine wpAnyH_take (i := 3) (oi := ⟨some 29, _, _, _, _, _⟩) (v := .pointer (some ⟨g3, 0, none⟩)) rfl (by kernel_rfl) (by kernel_rfl) (by kernel_rfl) (fun _ _ _ h => h) (Or.inl ⟨by rfl, fun w hSw => by (try dsimp only at hSw); go_simp⟩) hS ?_
    simp only [Act.put, List.setIfInBounds_toArray, List.set_cons_zero, List.set_cons_succ]
    refine wpAnyH_take (i := 4) (oi := ⟨some 30, _, _, _, _, _⟩) (v := .int .i64 (y : Int)) rfl (by kernel_rfl) (by kernel_rfl) (by kernel_rfl) (fun _ _ _ h => h) (Or.inl ⟨by rfl, fun w hSw => by have hce := hSw.2.1; go_simp⟩) hS ?_
    simp only [Act.put, List.setIfInBounds_toArray, List.set_cons_zero, List.set_cons_succ]
    refine wpAnyH_take (i := 5) (oi := ⟨some 31, _, _, _, _, _⟩) (v := .pointer (some ⟨g3, 1, none⟩)) rfl (by kernel_rfl) (by kernel_rfl) (by kernel_rfl) (fun _ _ _ h => h) (Or.inl ⟨by rfl, fun w hSw => by (try dsimp only at hSw); go_simp⟩) hS ?_
    simp only [Act.put, List.setIfInBounds_toArray, List.set_cons_zero, List.set_cons_succ]
    refine wpAnyH_take (i := 6) (oi := ⟨some 32, _, _, _, _, _⟩) (v := .int .i64 (1 + (m : Int))) rfl (by kernel_rfl) (by kernel_rfl) (by kernel_rfl) (fun _ _ _ h => h) (Or.inl ⟨by rfl, fun w hSw => by have hce := hSw.2.2; go_simp⟩) hS ?_
    simp only [Act.put, List.setIfInBounds_toArray, List.set_cons_zero, List.set_cons_succ]
    refine wpAnyH_ready (rs := [7]) (by kernel_rfl) (by simp) ?_
    refine AllReadyH.cons (o := _) rfl (fun K hK => ?_) (AllReadyH.nil)
    go_simp
    refine (CD.out _).mono ?_
    rintro e w' ⟨rfl, rfl⟩
    go_simp
    refine hK.out _ _ hS (fun hS => ?_)
    clear hK K
    (try simp only [Act.put, List.setIfInBounds_toArray, List.set_cons_zero, List.set_cons_succ])
    refine wpAnyH_take (i := 8) (oi := ⟨some 34, _, _, _, _, _⟩) (v := .int .i64 (dd : Int)) rfl (by kernel_rfl) (by kernel_rfl) (by kernel_rfl) (fun _ _ _ h => h) (Or.inl ⟨by rfl, fun w hSw => by (try dsimp only at hSw); go_simp⟩) hS ?_
    simp only [Act.put, List.setIfInBounds_toArray, List.set_cons_zero, List.set_cons_succ]
    refine wpAnyH_take (i := 9) (oi := ⟨some 35, _, _, _, _, _⟩) (v := .int .i64 (1 + (dd : Int))) rfl (by kernel_rfl) (by kernel_rfl) (by kernel_rfl) (fun _ _ _ h => h) (Or.inl ⟨by rfl, fun w hSw => by (try dsimp only at hSw); go_simp⟩) hS ?_
    simp only [Act.put, List.setIfInBounds_toArray, List.set_cons_zero, List.set_cons_succ]
    refine wpAnyH_take (i := 10) (oi := ⟨some 36, _, _, _, _, _⟩) (v := .pointer (some ⟨g3, 2, none⟩)) rfl (by kernel_rfl) (by kernel_rfl) (by kernel_rfl) (fun _ _ _ h => h) (Or.inl ⟨by rfl, fun w hSw => by (try dsimp only at hSw); go_simp⟩) hS ?_
    simp only [Act.put, List.setIfInBounds_toArray, List.set_cons_zero, List.set_cons_succ]
    refine wpAnyH_ready (rs := [11]) (by kernel_rfl) (by simp) ?_
    refine AllReadyH.cons (o := _) rfl (fun K hK => ?_) (AllReadyH.nil)
    go_simp
    refine hK.out _ _ ⟨k0, k1, k2⟩ (fun hS => ?_)
    clear hK K
    (try simp only [Act.put, List.setIfInBounds_toArray, List.set_cons_zero, List.set_cons_succ])
    refine wpAnyH_done (by kernel_rfl) ?_ _
    clear hS
    go_wp2_with fail
    go_meet
    exact ⟨S3.out, R3.out, B3.out⟩
  case rest =>
    obtain ⟨hk, hr, hb⟩ := hcut
    have K5 := Lib.hid hk
    have R5 := Lib.hid hr
    have B5 := Lib.hid hb
    clear hk hr hb
    go_wp2_with (first | (refine wpList_loadG rfl (.tmp 3) rfl rfl (rangeB K5.out) Tryd.underlying23 rfl infoTm ?_) | (refine wpList_storeG rfl (.tmp 2) (.tmp 37) rfl rfl (ds := tL y (1 + (m : Int)) (1 + (dd : Int)) h mi s) rfl R5.out infoTm rfl (tL_one _ _ _ _ _ _) ?_; intro w9 hr9 hg9 hz9; have B9 := Lib.hid (B5.out.grown hg9 B5.out.size (fun k e => by injection e with e; have := HG.out; have := HG2.out; omega)); have R9 := Lib.hid hr9; clear hr9 hg9 hz9))
    exact retG1 rfl rfl (loadTm R9.out) rfl ⟨by rw [HL.out], B9.out⟩
end Go.Proofs.YtecmgkmonehmfaaDoor.Tim
