/-
  Layer 10: the date of a number of days.
  Conditions: the number is one of a day of the years 0 to 9999; the table of the months holds what the program's text lays.
-/
import Derived.Test.YtecmgkmonehmfaaDoorTimG
namespace Go.Proofs.YtecmgkmonehmfaaDoor.Tim
open Go.RowKit

theorem msT_12 (y : Int) : msT y 12 = 365 + (if lpT y = true then 1 else 0) := by
  have e : ∀ k : Nat, k < 12 → msT y (k + 1) = msT y k + (mdL.getD k 0 + (if k = 1 ∧ lpT y = true then 1 else 0)) := fun k hk => by
    show msT y k + dyT y ((k : Int) + 1) = _
    rw [dyT_in hk]
  rw [e 11 (by decide), e 10 (by decide), e 9 (by decide), e 8 (by decide), e 7 (by decide), e 6 (by decide), e 5 (by decide), e 4 (by decide), e 3 (by decide), e 2 (by decide), e 1 (by decide), e 0 (by decide)]
  have h0 : msT y 0 = 0 := rfl
  rw [h0]
  cases lpT y <;> rfl
theorem msT_succ (y : Int) (q : Nat) (h : 1 ≤ q) : msT y q = msT y (q - 1) + dyT y q := by
  obtain ⟨p, rfl⟩ : ∃ p, q = p + 1 := ⟨q - 1, by omega⟩
  rw [Nat.add_sub_cancel, Int.natCast_add]
  rfl
theorem zTm : ∀ w : World, (zeroValue 23).run Tryd.prog w = .ok (.agg (tL 0 0 0 0 0 0).toArray) w := fun _ => by kernel_rfl
theorem tL_one (y m d h mi s : Int) : (tL y m d h mi s).all (·.oneCell') = true := rfl
theorem loadTm {w : World} {g : Nat} {y m d h mi s : Int} {t : TypeId} (hb : Bk w g t (tL y m d h mi s)) : (loadVar 23 ⟨g, 0, none⟩).run Tryd.prog w = .ok (.agg (tL y m d h mi s).toArray) w :=
  run_loadVar_row (P := Tryd.prog) _ _ _ _ _ _ _ hb Tryd.underlying23 rfl (by rw [List.size_toArray]; exact infoTm)
/-- The walk's step at the store of a whole struct. -/
theorem wpList_storeG {t t' : TypeId} {ops : Array Oper} {rest : List Oper} {o : Oper} {a : Act} {w : World} {Q : Exit → Act → World → Prop} (hgd : o.guard = none) (x v : Operand) (ho : o.op = .store t x v)
    {g : Nat} {ds cs : List Value} (hx : a.eval x = .pointer (some ⟨g, 0, none⟩)) (hv : a.eval v = .agg ds.toArray) (hg : Bk w g t' cs) (hi : (Tryd.prog.info? t).map (·.size) = some ds.length) (hc : cs.length = ds.length) (h1 : ds.all (·.oneCell') = true)
    (h : ∀ w', Bk w' g t' ds → w.grownBy w' (some g) → w'.heap.size = w.heap.size → wpList Tryd.prog ops Q rest (a.put o.dst undef) w') : wpList Tryd.prog ops Q (o :: rest) a w :=
  wpList_plain hgd fun K hK => by
    have hs := run_storeVar_row (P := Tryd.prog) w g t' t cs.toArray ds.toArray hg (by rw [List.size_toArray]; exact hi) (by simp [hc]) (by rw [List.all_toArray]; exact h1)
    have hK' := hK _ _ (h (w.setRow g ds.toArray) (setRow_heap w g _ _ _ _ hg) ⟨rfl, rfl, rfl, by simp [World.setRow], fun k hk hne => setRow_other w g k _ (fun e => hne (by rw [e]))⟩ (by simp [World.setRow]))
    unfold Oper.wp execOp
    simp only [ho, hx, hv, Instr.storeAt, Instr.sureAddr, Sem.run_bind, Sem.run_pure, Result.andThen_ok, hs]
    exact hK'
/-- A date of a day. -/
def isDate (D Y M d : Nat) : Prop := Y ≤ 9999 ∧ 1 ≤ M ∧ M ≤ 12 ∧ 1 ≤ d ∧ d ≤ dyT Y M ∧ dbT Y + msT Y (M - 1) + d - 1 = D

set_option linter.unusedSimpArgs false in
set_option linter.unusedVariables false in
set_option maxHeartbeats 4000000 in
set_option maxRecDepth 100000 in
theorem date_any (D : Nat) (hD : D < dbT 10000) (w : World) (hE : Env w) :
    Calls Tryd.prog 45 #[.int .i64 (D : Int)] w fun e w' => ∃ Y M d : Nat, isDate D Y M d ∧ e = .returned (.agg (tL Y M d 0 0 0).toArray) ∧ Below w.heap.size w w' := by
  obtain ⟨g, hg⟩ : ∃ g, w.heap.size = g := ⟨_, rfl⟩
  obtain ⟨g2, hg2⟩ : ∃ g2, g + 1 = g2 := ⟨_, rfl⟩
  have Z := zTm
  obtain ⟨w1, hw1⟩ : ∃ w1, (w.alloc (.cells #[.int .i64 (D : Int)] 3)).alloc (.cells (tL 0 0 0 0 0 0).toArray 23) = w1 := ⟨_, rfl⟩
  have B1 : Hid (Below w.heap.size w w1) := Lib.hid (by rw [← hw1]; exact (bel1 w _).alloc (by simp) _)
  have K1 : Hid (Bk w1 g 3 [.int .i64 (D : Int)]) := Lib.hid (by rw [← hw1, ← hg]; exact (Bk.new w _ [.int .i64 (D : Int)]).alloc _)
  have R1 : Hid (Bk w1 g2 23 (tL 0 0 0 0 0 0)) := Lib.hid (by
    rw [← hw1, ← hg2, ← hg]
    have := Bk.new (w.alloc (.cells #[.int .i64 (D : Int)] 3)) 23 (tL 0 0 0 0 0 0)
    rwa [World.size_alloc] at this)
  have CS := Lib.hid (search_any D g hD w1 K1.out.lt (by rw [K1.out.cell]; rfl))
  have HW1 := Lib.hid hw1
  have HG := Lib.hid hg
  have HG2 := Lib.hid hg2
  have HE := Lib.hid hE
  have hgl : g ≤ w.heap.size := by omega
  have hwg : w.heap.size ≤ g := by omega
  have hgg : g ≠ g2 := by omega
  clear hw1 hg hg2 hE
  go_enter Tryd.func45, Tryd.ntmps45
  go_upto_region 1 with fail
  rw [HW1.out, HG.out, HG2.out]
  go_upto_region 2 with fail
  refine CS.out.mono ?_
  rintro e w2 ⟨Y, hY, hY1, hY2, rfl, hb⟩
  have B2 := bt B1 (Lib.hid hb)
  have K2 := kt K1 (Lib.hid hb)
  have R2 := kt R1 (Lib.hid hb)
  clear hb CS K1 R1 B1 HW1
  have CB := Lib.hid (fun W => before_any Y (by omega) W)
  obtain ⟨B, hB⟩ : ∃ B, dbT Y = B := ⟨_, rfl⟩
  have HB := Lib.hid hB
  have hBl : D ≤ 3700000 := by have := dbT_le 10000 (by omega); omega
  have hTot : D - B < msT Y 12 := by rw [← hB, msT_12]; have := dbT_succ Y; omega
  rw [hB] at CB hY1
  obtain ⟨N1, hN1⟩ : ∃ N1, D - B = N1 := ⟨_, rfl⟩
  rw [hN1] at hTot
  have HTot := Lib.hid hTot
  have HN1 : Hid ((D : Int) - (B : Int) = (N1 : Int)) := Lib.hid (by omega)
  have HND : Hid (B + N1 = D) := Lib.hid (by omega)
  have q1 : IntKind.i64.wrap ((D : Int) - (B : Int)) = (D : Int) - (B : Int) := by rw [IntKind.wrap_i64]; omega
  have hN1l : N1 ≤ 3700000 := by omega
  clear hB hY2 hTot hN1 hD
  go_upto_region 2 with fail
  go_cut [] (fun wx => Bk wx g 3 [.int .i64 (N1 : Int)] ∧ Bk wx g2 23 (tL 0 0 0 0 0 0) ∧ Below w.heap.size w wx)
  case first =>
    have B3 : Hid (Below w.heap.size w w2.drew) := Lib.hid B2.out.drew
    have K3 : Hid (Bk w2.drew g 3 [.int .i64 (D : Int)]) := Lib.hid K2.out
    have R3 : Hid (Bk w2.drew g2 23 (tL 0 0 0 0 0 0)) := Lib.hid R2.out
    refine wp_region_held_drew (S := fun _ => True) (by kernel_rfl) trivial (fun hS => ?_)
    clear B2 K2 R2
    generalize w2.drew = w3 at *
    have c0 : w3.cell? ⟨g, 0, none⟩ = some (.int .i64 (D : Int)) := by rw [K3.out.cell]; rfl
    refine wpAnyH_take (i := 1) (oi := ⟨some 8, _, _, _, _, _⟩) (v := .int .i64 (Y : Int)) rfl (by kernel_rfl) (by kernel_rfl) (by kernel_rfl) (fun _ _ _ h => h) (Or.inl ⟨by rfl, fun w hSw => by (try dsimp only at hSw); go_simp⟩) hS ?_
    simp only [Act.put, List.setIfInBounds_toArray, List.set_cons_zero, List.set_cons_succ]
    refine wpAnyH_ready (rs := [0, 2]) (by kernel_rfl) (by simp) ?_
    refine AllReadyH.cons (o := _) rfl (fun K hK => ?_) (AllReadyH.cons (o := _) rfl (fun K hK => ?_) (AllReadyH.nil))
    · go_simp
      refine hK.out _ _ trivial (fun hS => ?_)
      clear hK K
      (try simp only [Act.put, List.setIfInBounds_toArray, List.set_cons_zero, List.set_cons_succ])
      refine wpAnyH_ready (rs := [2]) (by kernel_rfl) (by simp) ?_
      refine AllReadyH.cons (o := _) rfl (fun K hK => ?_) (AllReadyH.nil)
      go_simp
      refine (CB.out _).mono ?_
      rintro e w4 ⟨rfl, hb⟩
      have B4 := bt B3 (Lib.hid hb)
      have K4 := kt K3 (Lib.hid hb)
      have R4 := kt R3 (Lib.hid hb)
      clear hb B3 K3 R3 c0
      have c0 : w4.cell? ⟨g, 0, none⟩ = some (.int .i64 (D : Int)) := by rw [K4.out.cell]; rfl
      have f0 := K4.out.free 0
      go_simp
      refine hK.out _ _ trivial (fun hS => ?_)
      clear hK K
      (try simp only [Act.put, List.setIfInBounds_toArray, List.set_cons_zero, List.set_cons_succ])
      refine wpAnyH_take (i := 3) (oi := ⟨some 10, _, _, _, _, _⟩) (v := .int .i64 ((D : Int) - (B : Int))) rfl (by kernel_rfl) (by kernel_rfl) (by kernel_rfl) (fun _ _ _ h => h) (Or.inl ⟨by rfl, fun w hSw => by (try dsimp only at hSw); go_simp⟩) hS ?_
      simp only [Act.put, List.setIfInBounds_toArray, List.set_cons_zero, List.set_cons_succ]
      refine wpAnyH_ready (rs := [4]) (by kernel_rfl) (by simp) ?_
      refine AllReadyH.cons (o := _) rfl (fun K hK => ?_) (AllReadyH.nil)
      go_simp
      refine hK.out _ _ trivial (fun hS => ?_)
      clear hK K
      (try simp only [Act.put, List.setIfInBounds_toArray, List.set_cons_zero, List.set_cons_succ])
      refine wpAnyH_done (by kernel_rfl) ?_ _
      go_wp2_with fail
      go_meet
      exact ⟨by have := K4.out.store 0 (.int .i64 ((D : Int) - (B : Int))); rw [HN1.out] at this ⊢; exact this, R4.out.far (p := ⟨g, 0, none⟩) (fun e => hgg e.symm) _, B4.out.setCell (p := ⟨g, 0, none⟩) hwg _⟩
    · go_simp
      refine (CB.out _).mono ?_
      rintro e w4 ⟨rfl, hb⟩
      have B4 := bt B3 (Lib.hid hb)
      have K4 := kt K3 (Lib.hid hb)
      have R4 := kt R3 (Lib.hid hb)
      clear hb B3 K3 R3 c0
      have c0 : w4.cell? ⟨g, 0, none⟩ = some (.int .i64 (D : Int)) := by rw [K4.out.cell]; rfl
      have f0 := K4.out.free 0
      go_simp
      refine hK.out _ _ trivial (fun hS => ?_)
      clear hK K
      (try simp only [Act.put, List.setIfInBounds_toArray, List.set_cons_zero, List.set_cons_succ])
      refine wpAnyH_ready (rs := [0]) (by kernel_rfl) (by simp) ?_
      refine AllReadyH.cons (o := _) rfl (fun K hK => ?_) (AllReadyH.nil)
      go_simp
      refine hK.out _ _ trivial (fun hS => ?_)
      clear hK K
      (try simp only [Act.put, List.setIfInBounds_toArray, List.set_cons_zero, List.set_cons_succ])
      refine wpAnyH_take (i := 3) (oi := ⟨some 10, _, _, _, _, _⟩) (v := .int .i64 ((D : Int) - (B : Int))) rfl (by kernel_rfl) (by kernel_rfl) (by kernel_rfl) (fun _ _ _ h => h) (Or.inl ⟨by rfl, fun w hSw => by (try dsimp only at hSw); go_simp⟩) hS ?_
      simp only [Act.put, List.setIfInBounds_toArray, List.set_cons_zero, List.set_cons_succ]
      refine wpAnyH_ready (rs := [4]) (by kernel_rfl) (by simp) ?_
      refine AllReadyH.cons (o := _) rfl (fun K hK => ?_) (AllReadyH.nil)
      go_simp
      refine hK.out _ _ trivial (fun hS => ?_)
      clear hK K
      (try simp only [Act.put, List.setIfInBounds_toArray, List.set_cons_zero, List.set_cons_succ])
      refine wpAnyH_done (by kernel_rfl) ?_ _
      go_wp2_with fail
      go_meet
      exact ⟨by have := K4.out.store 0 (.int .i64 ((D : Int) - (B : Int))); rw [HN1.out] at this ⊢; exact this, R4.out.far (p := ⟨g, 0, none⟩) (fun e => hgg e.symm) _, B4.out.setCell (p := ⟨g, 0, none⟩) hwg _⟩
  case rest =>
    obtain ⟨hk, hr, hb⟩ := hcut
    have K5 := Lib.hid hk
    have R5 := Lib.hid hr
    have B5 := Lib.hid hb
    clear hk hr hb K2 R2 B2
    go_upto_region 4 with fail
    go_loopw [4] (fun i wr => ∃ q r : Nat, 1 ≤ q ∧ q ≤ 12 ∧ r + msT Y (q - 1) = N1 ∧ i = .int .i64 (q : Int) ∧ Bk wr g 3 [.int .i64 (r : Int)] ∧ Bk wr g2 23 (tL 0 0 0 0 0 0) ∧ Below w.heap.size w wr) (fun i _ => 13 - (intOf i).toNat)
    case atStart => exact ⟨1, N1, by omega, by omega, rfl, rfl, K5.out, R5.out, B5.out⟩
    case round =>
      obtain ⟨q, r, hq1, hq2, hqr, rfl, hk, hr, hb⟩ := hrel
      have K6 : Hid (Bk wr.drew g 3 [.int .i64 (r : Int)]) := Lib.hid hk
      have R6 : Hid (Bk wr.drew g2 23 (tL 0 0 0 0 0 0)) := Lib.hid hr
      have B6 : Hid (Below w.heap.size w wr.drew) := Lib.hid hb.drew
      have E6 : Hid (Env wr.drew) := et HE B6
      have hc0 : wr.cell? ⟨g, 0, none⟩ = some (.int .i64 (r : Int)) := by rw [hk.cell]; rfl
      have CD := Lib.hid (fun W h => days_any Y q (by unfold I64; omega) W h)
      have HM := Lib.hid (msT_succ Y q hq1)
      have HQR := Lib.hid hqr
      have hVl := dyT_le Y q
      have hd28 : Hid (1 ≤ dyT Y q) := Lib.hid (by
        obtain ⟨p, rfl⟩ : ∃ p, q = p + 1 := ⟨q - 1, by omega⟩
        rw [Int.natCast_add]
        show 1 ≤ dyT Y ((p : Int) + 1)
        rw [dyT_in (by omega)]
        have := md_le p (by omega)
        omega)
      obtain ⟨V, hV⟩ : ∃ V, dyT Y q = V := ⟨_, rfl⟩
      have HV := Lib.hid hV
      rw [hV] at CD hVl HM
      have hrl : r ≤ 3700000 := by omega
      clear hk hr hb hV K5 R5 B5 hqr
      by_cases hlt : V ≤ r
      · have hlti : (V : Int) ≤ (r : Int) := by omega
        have hq12 : q < 12 := by
          rcases Nat.lt_or_ge q 12 with h | h
          · exact h
          · exfalso
            have e : q = 12 := by omega
            have h1 := HM.out
            have h2 := HQR.out
            have h3 := HTot.out
            rw [e] at h1 h2
            omega
        go_upto_region 4 with fail
        go_region_held3 (fun W => W.cell? ⟨g, 0, none⟩ = some (.int .i64 (r : Int)))
          (exact hc0)
          (first | (go_at_call 12; refine (CD.out _ E6.out).mono ?_; rintro e w1 ⟨rfl, rfl⟩))
        clear hc0 hlt
        generalize wr.drew = w6 at *
        have q2 : IntKind.i64.wrap ((r : Int) - (V : Int)) = (r : Int) - (V : Int) := by rw [IntKind.wrap_i64]; omega
        obtain ⟨r2, hr2⟩ : ∃ r2, r - V = r2 := ⟨_, rfl⟩
        have HR2 : Hid ((r : Int) - (V : Int) = (r2 : Int)) := Lib.hid (by omega)
        have HQ2 : Hid (r2 + msT Y (q + 1 - 1) = N1) := Lib.hid (by
          have h1 := HM.out
          have h2 := HQR.out
          rw [Nat.add_sub_cancel]
          omega)
        clear hr2
        go_upto_region 5 with fail
        go_cut [] (fun wx => Bk wx g 3 [.int .i64 (r2 : Int)] ∧ Bk wx g2 23 (tL 0 0 0 0 0 0) ∧ Below w.heap.size w wx)
        case first =>
          have B7 : Hid (Below w.heap.size w w6.drew) := Lib.hid B6.out.drew
          have K7 : Hid (Bk w6.drew g 3 [.int .i64 (r : Int)]) := Lib.hid K6.out
          have R7 : Hid (Bk w6.drew g2 23 (tL 0 0 0 0 0 0)) := Lib.hid R6.out
          have E7 : Hid (Env w6.drew) := Lib.hid E6.out
          refine wp_region_held_drew (S := fun _ => True) (by kernel_rfl) trivial (fun hS => ?_)
          clear B6 K6 R6 E6
          generalize w6.drew = w7 at *
          have c0 : w7.cell? ⟨g, 0, none⟩ = some (.int .i64 (r : Int)) := by rw [K7.out.cell]; rfl
          have f0 := K7.out.free 0
          refine wpAnyH_take (i := 1) (oi := ⟨some 17, _, _, _, _, _⟩) (v := .int .i64 (Y : Int)) rfl (by kernel_rfl) (by kernel_rfl) (by kernel_rfl) (fun _ _ _ h => h) (Or.inl ⟨by rfl, fun w hSw => by (try dsimp only at hSw); go_simp⟩) hS ?_
          simp only [Act.put, List.setIfInBounds_toArray, List.set_cons_zero, List.set_cons_succ]
          refine wpAnyH_take (i := 2) (oi := ⟨some 18, _, _, _, _, _⟩) (v := .int .i64 (q : Int)) rfl (by kernel_rfl) (by kernel_rfl) (by kernel_rfl) (fun _ _ _ h => h) (Or.inl ⟨by rfl, fun w hSw => by (try dsimp only at hSw); go_simp⟩) hS ?_
          simp only [Act.put, List.setIfInBounds_toArray, List.set_cons_zero, List.set_cons_succ]
          refine wpAnyH_ready (rs := [0, 3]) (by kernel_rfl) (by simp) ?_
          refine AllReadyH.cons (o := _) rfl (fun K hK => ?_) (AllReadyH.cons (o := _) rfl (fun K hK => ?_) (AllReadyH.nil))
          · go_simp
            refine hK.out _ _ trivial (fun hS => ?_)
            clear hK K
            (try simp only [Act.put, List.setIfInBounds_toArray, List.set_cons_zero, List.set_cons_succ])
            refine wpAnyH_ready (rs := [3]) (by kernel_rfl) (by simp) ?_
            refine AllReadyH.cons (o := _) rfl (fun K hK => ?_) (AllReadyH.nil)
            go_simp
            refine (CD.out _ E7.out).mono ?_
            rintro e w4 ⟨rfl, rfl⟩
            go_simp
            refine hK.out _ _ trivial (fun hS => ?_)
            clear hK K
            (try simp only [Act.put, List.setIfInBounds_toArray, List.set_cons_zero, List.set_cons_succ])
            refine wpAnyH_take (i := 4) (oi := ⟨some 20, _, _, _, _, _⟩) (v := .int .i64 ((r : Int) - (V : Int))) rfl (by kernel_rfl) (by kernel_rfl) (by kernel_rfl) (fun _ _ _ h => h) (Or.inl ⟨by rfl, fun w hSw => by (try dsimp only at hSw); go_simp⟩) hS ?_
            simp only [Act.put, List.setIfInBounds_toArray, List.set_cons_zero, List.set_cons_succ]
            refine wpAnyH_ready (rs := [5]) (by kernel_rfl) (by simp) ?_
            refine AllReadyH.cons (o := _) rfl (fun K hK => ?_) (AllReadyH.nil)
            go_simp
            refine hK.out _ _ trivial (fun hS => ?_)
            clear hK K
            (try simp only [Act.put, List.setIfInBounds_toArray, List.set_cons_zero, List.set_cons_succ])
            refine wpAnyH_done (by kernel_rfl) ?_ _
            go_wp2_with fail
            go_meet
            exact ⟨by have := K7.out.store 0 (.int .i64 ((r : Int) - (V : Int))); rw [HR2.out] at this ⊢; exact this, R7.out.far (p := ⟨g, 0, none⟩) (fun e => hgg e.symm) _, B7.out.setCell (p := ⟨g, 0, none⟩) hwg _⟩
          · go_simp
            refine (CD.out _ E7.out).mono ?_
            rintro e w4 ⟨rfl, rfl⟩
            go_simp
            refine hK.out _ _ trivial (fun hS => ?_)
            clear hK K
            (try simp only [Act.put, List.setIfInBounds_toArray, List.set_cons_zero, List.set_cons_succ])
            refine wpAnyH_ready (rs := [0]) (by kernel_rfl) (by simp) ?_
            refine AllReadyH.cons (o := _) rfl (fun K hK => ?_) (AllReadyH.nil)
            go_simp
            refine hK.out _ _ trivial (fun hS => ?_)
            clear hK K
            (try simp only [Act.put, List.setIfInBounds_toArray, List.set_cons_zero, List.set_cons_succ])
            refine wpAnyH_take (i := 4) (oi := ⟨some 20, _, _, _, _, _⟩) (v := .int .i64 ((r : Int) - (V : Int))) rfl (by kernel_rfl) (by kernel_rfl) (by kernel_rfl) (fun _ _ _ h => h) (Or.inl ⟨by rfl, fun w hSw => by (try dsimp only at hSw); go_simp⟩) hS ?_
            simp only [Act.put, List.setIfInBounds_toArray, List.set_cons_zero, List.set_cons_succ]
            refine wpAnyH_ready (rs := [5]) (by kernel_rfl) (by simp) ?_
            refine AllReadyH.cons (o := _) rfl (fun K hK => ?_) (AllReadyH.nil)
            go_simp
            refine hK.out _ _ trivial (fun hS => ?_)
            clear hK K
            (try simp only [Act.put, List.setIfInBounds_toArray, List.set_cons_zero, List.set_cons_succ])
            refine wpAnyH_done (by kernel_rfl) ?_ _
            go_wp2_with fail
            go_meet
            exact ⟨by have := K7.out.store 0 (.int .i64 ((r : Int) - (V : Int))); rw [HR2.out] at this ⊢; exact this, R7.out.far (p := ⟨g, 0, none⟩) (fun e => hgg e.symm) _, B7.out.setCell (p := ⟨g, 0, none⟩) hwg _⟩
        case rest =>
          obtain ⟨hk, hr, hb⟩ := hcut
          have K8 := Lib.hid hk
          have R8 := Lib.hid hr
          have B8 := Lib.hid hb
          have q3 : IntKind.i64.wrap ((q : Int) + 1) = (q : Int) + 1 := by rw [IntKind.wrap_i64]; omega
          clear hk hr hb K6 R6 B6
          go_wp2_with fail
          exact ⟨⟨q + 1, r2, by omega, by omega, HQ2.out, by go_num, K8.out, R8.out, B8.out⟩, by simp [intOf]; omega⟩
      · have hlti : ¬ (V : Int) ≤ (r : Int) := by omega
        have hlt2 : r < V := by omega
        go_upto_region 4 with fail
        go_region_held3 (fun W => W.cell? ⟨g, 0, none⟩ = some (.int .i64 (r : Int)))
          (exact hc0)
          (first | (go_at_call 12; refine (CD.out _ E6.out).mono ?_; rintro e w1 ⟨rfl, rfl⟩))
        clear hc0 hlt
        generalize wr.drew = w6 at *
        have c0 : w6.cell? ⟨g, 0, none⟩ = some (.int .i64 (r : Int)) := by rw [K6.out.cell]; rfl
        have q3 : IntKind.i64.wrap ((r : Int) + 1) = (r : Int) + 1 := by rw [IntKind.wrap_i64]; omega
        go_wp2_with (refine wpList_storeG rfl (.tmp 2) (.tmp 27) rfl rfl (ds := tL Y q ((r : Int) + 1) 0 0 0) rfl R6.out infoTm rfl (tL_one _ _ _ _ _ _) ?_
                     intro w8 hr8 hg8 hz8
                     have B8 := Lib.hid (B6.out.grown hg8 B6.out.size (fun k e => by injection e with e; have := HG2.out; omega))
                     have R8 := Lib.hid hr8
                     clear hr8 hg8 hz8)
        exact retG1 rfl rfl (loadTm R8.out) rfl ⟨Y, q, r + 1, ⟨hY, hq1, hq2, by omega, by rw [HV.out]; omega, by have h1 := HQR.out; have h2 := HND.out; rw [HB.out]; omega⟩, rfl, B8.out⟩
end Go.Proofs.YtecmgkmonehmfaaDoor.Tim
