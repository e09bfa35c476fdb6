/-
  Layer 10: two times compared; parsed.
  Conditions: what Parse answers is known.
-/
import Derived.Test.YtecmgkmonehmfaaDoorTimX
namespace Go.Proofs.YtecmgkmonehmfaaDoor.Tim
open Go.RowKit
attribute [local go_sem] Oper.semAt_some

theorem eqlTm (a0 a1 a2 a3 a4 a5 b0 b1 b2 b3 b4 b5 : Int) (W : World) : (binOp .eql 23 (.agg (tL a0 a1 a2 a3 a4 a5).toArray) (.agg (tL b0 b1 b2 b3 b4 b5).toArray)).run Tryd.prog W = .ok (.bool (decide (a0 = b0 ∧ a1 = b1 ∧ a2 = b2 ∧ a3 = b3 ∧ a4 = b4 ∧ a5 = b5))) W := by
  show (binOp .eql 23 (.agg #[.int .i64 a0, .int .i64 a1, .int .i64 a2, .int .i64 a3, .int .i64 a4, .int .i64 a5]) (.agg #[.int .i64 b0, .int .i64 b1, .int .i64 b2, .int .i64 b3, .int .i64 b4, .int .i64 b5])).run Tryd.prog W = _
  have u0 := Tryd.underlying23
  have u1 := Tryd.underlying3
  simp [go_sem]
  (repeat' split) <;> simp_all
set_option linter.unusedSimpArgs false in
set_option linter.unusedVariables false in
set_option maxHeartbeats 4000000 in
set_option maxRecDepth 100000 in
theorem parsed_any (l : List Nat) (a0 a1 a2 a3 a4 a5 b0 b1 b2 b3 b4 b5 f f2 : Int) (b : Bool) (hb : decide ((a0 = b0 ∧ a1 = b1 ∧ a2 = b2 ∧ a3 = b3 ∧ a4 = b4 ∧ a5 = b5) ∧ f = f2) = b) (w : World) (hE : Env w) (CP : ∀ W, Env W → Calls Tryd.prog 38 #[.string (bstr l)] W fun e w' => e = .returned (.tuple #[.agg (tL a0 a1 a2 a3 a4 a5).toArray, .int .i64 f]) ∧ Below W.heap.size W w') :
    Calls Tryd.prog 25 #[.string (bstr l), tV b0 b1 b2 b3 b4 b5, .int .i64 f2] w fun e w' => e = .returned (.bool b) ∧ Below w.heap.size w w' := by
  have Z := zTm
  obtain ⟨S, hS⟩ : ∃ S, bstr l = S := ⟨_, rfl⟩
  rw [hS] at CP ⊢
  have HE := Lib.hid hE
  have HCP := Lib.hid CP
  obtain ⟨g, hg⟩ : ∃ g, w.heap.size = g := ⟨_, rfl⟩
  obtain ⟨w1, hw1⟩ : ∃ w1, w.alloc (.cells #[.int .i64 b0, .int .i64 b1, .int .i64 b2, .int .i64 b3, .int .i64 b4, .int .i64 b5] 23) = w1 := ⟨_, rfl⟩
  have B1 : Hid (Below w.heap.size w w1) := Lib.hid (by rw [← hw1]; exact bel1 w _)
  have K1 : Hid (Bk w1 g 23 (tL b0 b1 b2 b3 b4 b5)) := Lib.hid (by rw [← hw1, ← hg]; exact Bk.new w _ (tL b0 b1 b2 b3 b4 b5))
  have E1 := et HE B1
  have HW1 := Lib.hid hw1
  have HG := Lib.hid hg
  have HQ := fun W => eqlTm a0 a1 a2 a3 a4 a5 b0 b1 b2 b3 b4 b5 W
  obtain ⟨q, hq⟩ : ∃ q, decide (a0 = b0 ∧ a1 = b1 ∧ a2 = b2 ∧ a3 = b3 ∧ a4 = b4 ∧ a5 = b5) = q := ⟨_, rfl⟩
  rw [hq] at HQ
  have HB : Hid ((q && decide (f = f2)) = b) := Lib.hid (by
    rw [← hb, ← hq]
    by_cases h1 : (a0 = b0 ∧ a1 = b1 ∧ a2 = b2 ∧ a3 = b3 ∧ a4 = b4 ∧ a5 = b5) <;> by_cases h2 : f = f2 <;> simp only [h1, h2] <;> simp [h1])
  have hff : (f = f2 ∧ (f == f2) = true ∧ decide (f = f2) = true) ∨ (¬ f = f2 ∧ (f == f2) = false ∧ decide (f = f2) = false) := by
    by_cases h : f = f2
    · exact .inl ⟨h, by rw [beq_iff_eq]; exact h, decide_eq_true h⟩
    · exact .inr ⟨h, by rw [beq_eq_false_iff_ne]; exact h, decide_eq_false h⟩
  obtain ⟨LA, hLA⟩ : ∃ L, tL a0 a1 a2 a3 a4 a5 = L := ⟨_, rfl⟩
  rw [hLA] at HQ HCP
  have HLA := Lib.hid hLA
  have hi6B : (Tryd.prog.info? 23).map (·.size) = some (tL b0 b1 b2 b3 b4 b5).length := infoTm
  clear hLA
  clear hS hw1 hg hE CP hb hq
  go_enter Tryd.func25, Tryd.ntmps25
  go_upto_region 1 with fail
  rw [HW1.out, HG.out]
  go_wp2_with fail
  refine (HCP.out _ E1.out).mono ?_
  rintro e w3 ⟨rfl, hb⟩
  have B3 := bt B1 (Lib.hid hb)
  have K3 := kt K1 (Lib.hid hb)
  clear hb B1 K1
  obtain ⟨g4, hg4⟩ : ∃ g4, w3.heap.size = g4 := ⟨_, rfl⟩
  have HG4 := Lib.hid hg4
  have hgg : g ≠ g4 := by have := K3.out.lt; omega
  have hla : LA.length = 6 := by rw [← HLA.out]; rfl
  have hi6 : (Tryd.prog.info? 23).map (·.size) = some LA.length := by rw [hla]; exact infoTm
  have hone : LA.all (·.oneCell') = true := by rw [← HLA.out]; rfl
  clear hg4
  go_upto_region 2 with
                (refine wpList_storeG rfl (.tmp 7) (.tmp 12) rfl rfl (ds := LA) rfl (Bk.new w3 23 (tL 0 0 0 0 0 0)) hi6 (by rw [hla]; rfl) hone ?_
                 intro w5 hk5 hg5 hz5
                 have B5 := Lib.hid ((B3.out.alloc B3.out.size _).grown hg5 (Nat.le_trans B3.out.size (by simp)) (fun k e => by injection e with e; have := HG4.out; have := B3.out.size; omega))
                 have K5 : Hid (Bk w5 g 23 (tL b0 b1 b2 b3 b4 b5)) := Lib.hid ((K3.out.alloc _).only hg5 (fun e => by injection e with e; have := HG4.out; omega))
                 have R5 : Hid (Bk w5 g4 23 LA) := Lib.hid (by have := hk5; rw [HG4.out] at this; exact this)
                 clear hk5 hg5 hz5)
  rw [HG4.out]
  generalize tL b0 b1 b2 b3 b4 b5 = LB at *
  rcases hff with ⟨h1, h2, h3⟩ | ⟨h1, h2, h3⟩
  all_goals
    cases q
    all_goals
      have HB2 := HB.out
      rw [h3] at HB2
      go_wp2_with (first | (refine wpList_loadG rfl (.tmp 7) rfl rfl (rangeB R5.out) Tryd.underlying23 rfl hi6 ?_) | (refine wpList_loadG rfl (.tmp 4) rfl rfl (rangeB K5.out) Tryd.underlying23 rfl hi6B ?_))
      go_ret
      exact ⟨by rw [← HB2]; rfl, B5.out⟩
end Go.Proofs.YtecmgkmonehmfaaDoor.Tim
