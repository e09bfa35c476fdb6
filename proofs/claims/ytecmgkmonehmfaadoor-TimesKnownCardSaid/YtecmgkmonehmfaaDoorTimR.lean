/-
  Layer 10: Element, of the program.
  Conditions: the table of the months holds what the program's text lays.
-/
import Derived.Test.YtecmgkmonehmfaaDoorTimQ
namespace Go.Proofs.YtecmgkmonehmfaaDoor.Tim
open Go.RowKit
attribute [local go_sem] Oper.semAt_some

/-- An element as cells: no subs. -/
def elC (n : Nat) (v : Value) : List Value := [.int .u8 0, .bool false, .int .u32 (n : Int), v, .slice none 0 0]
theorem infoEl : (Tryd.prog.info? 37).map (·.size) = some 5 := by kernel_rfl
theorem zEl : ∀ w : World, (zeroValue 37).run Tryd.prog w = .ok (.agg (elC 0 (.slice none 0 0)).toArray) w := fun _ => by kernel_rfl
theorem loadEl {w : World} {g : Nat} {n : Nat} {v : Value} {t : TypeId} (hb : Bk w g t (elC n v)) : (loadVar 37 ⟨g, 0, none⟩).run Tryd.prog w = .ok (.agg (elC n v).toArray) w :=
  run_loadVar_row (P := Tryd.prog) _ _ _ _ _ _ _ hb Tryd.underlying37 rfl (by rw [List.size_toArray]; exact infoEl)
theorem storeG_wp {t t' : TypeId} {o : Oper} {a : Act} {w : World} {K : Act → World → Prop} {Q : Exit → Act → World → Prop} (x v : Operand) (ho : o.op = .store t x v)
    {g : Nat} {ds cs : List Value} (hx : a.eval x = .pointer (some ⟨g, 0, none⟩)) (hv : a.eval v = .agg ds.toArray) (hg : Bk w g t' cs) (hi : (Tryd.prog.info? t).map (·.size) = some ds.length) (hc : cs.length = ds.length) (h1 : ds.all (·.oneCell') = true)
    (h : ∀ w', Bk w' g t' ds → w.grownBy w' (some g) → w'.heap.size = w.heap.size → K (a.put o.dst undef) w') : o.wp Tryd.prog a w K Q := by
  have hs := run_storeVar_row (P := Tryd.prog) w g t' t cs.toArray ds.toArray hg (by rw [List.size_toArray]; exact hi) (by simp [hc]) (by rw [List.all_toArray]; exact h1)
  have hK' := h (w.setRow g ds.toArray) (setRow_heap w g _ _ _ _ hg) ⟨rfl, rfl, rfl, by simp [World.setRow], fun k hk hne => setRow_other w g k _ (fun e => hne (by rw [e]))⟩ (by simp [World.setRow])
  unfold Oper.wp execOp
  simp only [ho, hx, hv, Instr.storeAt, Instr.sureAddr, Sem.run_bind, Sem.run_pure, Result.andThen_ok, hs]
  exact hK'
set_option linter.unusedSimpArgs false in
set_option linter.unusedVariables false in
set_option maxHeartbeats 4000000 in
set_option maxRecDepth 100000 in
theorem elem_bad (y mo d h mi s : Int) (hmo : I64 mo) (hck : ck y mo d h mi s = 1) (w : World) (hE : Env w) :
    Calls Tryd.prog 17 #[tV y mo d h mi s] w fun e w' => e = .returned (.tuple #[.agg (elC 0 (.slice none 0 0)).toArray, .int .i64 1]) ∧ Below w.heap.size w w' := by
  have Z : ∀ w : World, (zeroValue 37).run Tryd.prog w = .ok (.agg #[.int .u8 0, .bool false, .int .u32 0, .slice none 0 0, .slice none 0 0]) w := zEl
  obtain ⟨g, hg⟩ : ∃ g, w.heap.size = g := ⟨_, rfl⟩
  obtain ⟨g2, hg2⟩ : ∃ g2, g + 1 = g2 := ⟨_, rfl⟩
  obtain ⟨w1, hw1⟩ : ∃ w1, (w.alloc (.cells #[.int .i64 y, .int .i64 mo, .int .i64 d, .int .i64 h, .int .i64 mi, .int .i64 s] 23)).alloc (.cells #[.int .u8 0, .bool false, .int .u32 0, .slice none 0 0, .slice none 0 0] 37) = w1 := ⟨_, rfl⟩
  have B1 : Hid (Below w.heap.size w w1) := Lib.hid (by rw [← hw1]; exact (bel1 w _).alloc (by simp) _)
  have K1 : Hid (Bk w1 g 23 (tL y mo d h mi s)) := Lib.hid (by rw [← hw1, ← hg]; exact (Bk.new w _ (tL y mo d h mi s)).alloc _)
  have R1 : Hid (Bk w1 g2 37 (elC 0 (.slice none 0 0))) := Lib.hid (by
    rw [← hw1, ← hg2, ← hg]
    have := Bk.new (w.alloc (.cells (tL y mo d h mi s).toArray 23)) 37 (elC 0 (.slice none 0 0))
    rwa [World.size_alloc] at this)
  have HW1 := Lib.hid hw1
  have HG := Lib.hid hg
  have HG2 := Lib.hid hg2
  have CK := Lib.hid (check_any y mo d h mi s hmo w1 (hE.below B1.out))
  rw [hck] at CK
  clear hw1 hg hg2 hck hE
  go_enter Tryd.func17, Tryd.ntmps17
  go_upto_region 1 with fail
  rw [HW1.out, HG.out, HG2.out]
  go_wp2_with (refine wpList_loadG rfl (.tmp 1) rfl rfl (rangeB K1.out) Tryd.underlying23 rfl infoTm ?_)
  refine CK.out.mono ?_
  rintro e w2 ⟨rfl, hb⟩
  have B2 := bt B1 (Lib.hid hb)
  have R2 := kt R1 (Lib.hid hb)
  clear hb K1
  go_wp2_with (refine wpList_storeG rfl (.tmp 2) (.tmp 12) rfl rfl (ds := elC 0 (.slice none 0 0)) rfl R2.out infoEl rfl rfl ?_
               intro w8 hr8 hg8 hz8
               have B8 := Lib.hid (B2.out.grown hg8 B2.out.size (fun k e => by injection e with e; have := HG.out; have := HG2.out; omega))
               have R8 := Lib.hid hr8
               clear hr8 hg8 hz8)
  exact retG2 rfl rfl rfl (loadEl R8.out) rfl ⟨rfl, B8.out⟩
set_option linter.unusedSimpArgs false in
set_option linter.unusedVariables false in
set_option maxHeartbeats 4000000 in
set_option maxRecDepth 100000 in
theorem elem_ok (y m d h mi s : Nat) (hy : y ≤ 1000000) (hm : m ≤ 1000000) (hd : d ≤ 1000000) (hh : h ≤ 1000000) (hmi : mi ≤ 1000000) (hs : s ≤ 1000000) (hck : ck y m d h mi s = 0) (w : World) (hE : Env w) :
    Calls Tryd.prog 17 #[tV y m d h mi s] w fun e w' => ∃ gb, w.heap.size ≤ gb ∧ e = .returned (.tuple #[.agg (elC (tagN y) (.slice (some ⟨gb, 0, none⟩) (txtE (tagN y) y m d h mi s).length (txtE (tagN y) y m d h mi s).length)).toArray, .int .i64 0]) ∧ Rd w' (some ⟨gb, 0, none⟩) (cs8 (txtE (tagN y) y m d h mi s)) ∧ Below w.heap.size w w' := by
  have Z : ∀ w : World, (zeroValue 37).run Tryd.prog w = .ok (.agg #[.int .u8 0, .bool false, .int .u32 0, .slice none 0 0, .slice none 0 0]) w := zEl
  obtain ⟨g, hg⟩ : ∃ g, w.heap.size = g := ⟨_, rfl⟩
  obtain ⟨g2, hg2⟩ : ∃ g2, g + 1 = g2 := ⟨_, rfl⟩
  obtain ⟨w1, hw1⟩ : ∃ w1, (w.alloc (.cells #[.int .i64 (y : Int), .int .i64 (m : Int), .int .i64 (d : Int), .int .i64 (h : Int), .int .i64 (mi : Int), .int .i64 (s : Int)] 23)).alloc (.cells #[.int .u8 0, .bool false, .int .u32 0, .slice none 0 0, .slice none 0 0] 37) = w1 := ⟨_, rfl⟩
  have B1 : Hid (Below w.heap.size w w1) := Lib.hid (by rw [← hw1]; exact (bel1 w _).alloc (by simp) _)
  have K1 : Hid (Bk w1 g 23 (tL y m d h mi s)) := Lib.hid (by rw [← hw1, ← hg]; exact (Bk.new w _ (tL y m d h mi s)).alloc _)
  have R1 : Hid (Bk w1 g2 37 (elC 0 (.slice none 0 0))) := Lib.hid (by
    rw [← hw1, ← hg2, ← hg]
    have := Bk.new (w.alloc (.cells (tL y m d h mi s).toArray 23)) 37 (elC 0 (.slice none 0 0))
    rwa [World.size_alloc] at this)
  have HW1 := Lib.hid hw1
  have HG := Lib.hid hg
  have HG2 := Lib.hid hg2
  have CK := Lib.hid (check_any y m d h mi s (by unfold I64; omega) w1 (hE.below B1.out))
  rw [hck] at CK
  have CT := Lib.hid (fun W => tagOf_any y W)
  have CL := Lib.hid (fun W => layout_any 0 false (tagN y) W)
  have CW : Hid (∀ W, Calls Tryd.prog 35 #[.string (layS (layK 0 false (tagN y))), .agg (tL y m d h mi s).toArray] W fun e w' => ∃ gb, W.heap.size ≤ gb ∧ e = .returned (.slice (some ⟨gb, 0, none⟩) (txtE (tagN y) y m d h mi s).length (txtE (tagN y) y m d h mi s).length) ∧ Rd w' (some ⟨gb, 0, none⟩) (cs8 (txtE (tagN y) y m d h mi s)) ∧ Below W.heap.size W w') := Lib.hid (fun W => by
    have hc : tagN y = 23 ∨ tagN y = 24 := by unfold tagN; split <;> simp
    rcases hc with e | e
    · rw [e]
      have := write_any LU (all_L rfl) (by decide) y m d h mi s hy hm hd hh hmi hs W
      rw [← wrT_len LU y m d h mi s, wrT_U] at this
      exact this
    · rw [e]
      have := write_any LG (all_L rfl) (by decide) y m d h mi s hy hm hd hh hmi hs W
      rw [← wrT_len LG y m d h mi s, wrT_G] at this
      exact this)
  generalize txtE (tagN y) y m d h mi s = T at *
  generalize layK 0 false (tagN y) = lk at *
  generalize layS lk = SL at *
  obtain ⟨fb, hfb⟩ : ∃ fb, decide (lk ≠ 0) = fb := ⟨_, rfl⟩
  rw [hfb] at CL
  generalize tagN y = n at *
  obtain ⟨N, hN⟩ : ∃ N, T.length = N := ⟨_, rfl⟩
  rw [hN] at CW
  have HN := Lib.hid hN
  clear hw1 hg hg2 hck hE hfb hN
  go_enter Tryd.func17, Tryd.ntmps17
  go_upto_region 1 with fail
  rw [HW1.out, HG.out, HG2.out]
  go_wp2_with (refine wpList_loadG rfl (.tmp 1) rfl rfl (rangeB K1.out) Tryd.underlying23 rfl infoTm ?_)
  refine CK.out.mono ?_
  rintro e w2 ⟨rfl, hb⟩
  have B2 := bt B1 (Lib.hid hb)
  have R2 := kt R1 (Lib.hid hb)
  have K2 := kt K1 (Lib.hid hb)
  clear hb K1 R1 B1 CK
  have c0 : w2.cell? ⟨g, 0, none⟩ = some (.int .i64 (y : Int)) := by rw [K2.out.cell]; rfl
  go_wp2_with fail
  refine (CT.out _).mono ?_
  rintro e w3 ⟨rfl, hb⟩
  have B3 := bt B2 (Lib.hid hb)
  have R3 := kt R2 (Lib.hid hb)
  have K3 := kt K2 (Lib.hid hb)
  clear hb K2 R2 B2 c0
  have ZT := zTg
  obtain ⟨g5, hg5⟩ : ∃ g5, w3.heap.size = g5 := ⟨_, rfl⟩
  have HG5 := Lib.hid hg5
  have hn1 : g2 ≠ g5 := by have := R3.out.lt; omega
  have hn2 : g ≠ g5 := by have := K3.out.lt; omega
  clear hg5
  go_upto_region 5 with
               (refine wpList_storeT rfl (.tmp 5) (.tmp 16) rfl rfl rfl (Bk.new w3 33 (tgC 0 false 0)) ?_
                intro w5 hk5 hg5 hz5
                have B5 := Lib.hid ((B3.out.alloc B3.out.size _).grown hg5 (Nat.le_trans B3.out.size (by simp)) (fun k e => by injection e with e; have := HG5.out; have := B3.out.size; omega))
                have K5 : Hid (Bk w5 g 23 (tL y m d h mi s)) := Lib.hid ((K3.out.alloc _).only hg5 (fun e => by injection e with e; have := HG5.out; omega))
                have R5 : Hid (Bk w5 g2 37 (elC 0 (.slice none 0 0))) := Lib.hid ((R3.out.alloc _).only hg5 (fun e => by injection e with e; have := HG5.out; omega))
                have S5 : Hid (Bk w5 g5 33 (tgC 0 false n)) := Lib.hid (by have := hk5; rw [HG5.out] at this; exact this)
                clear hk5 hg5 hz5)
  rw [HG5.out]
  go_wp2_with (refine wpList_loadG rfl (.tmp 5) rfl rfl (rangeB S5.out) Tryd.underlying33 rfl infoTg ?_)
  refine (CL.out _).mono ?_
  rintro e w6 ⟨rfl, hb⟩
  have B6 := bt B5 (Lib.hid hb)
  have R6 := kt R5 (Lib.hid hb)
  have K6 := kt K5 (Lib.hid hb)
  have S6 := kt S5 (Lib.hid hb)
  clear hb K5 R5 B5 S5 K3 R3 B3
  go_upto_region 6 with fail
  have B7 : Hid (Below w.heap.size w w6.drew) := Lib.hid B6.out.drew
  have K7 : Hid (Bk w6.drew g 23 (tL y m d h mi s)) := Lib.hid K6.out
  have S7 : Hid (Bk w6.drew g5 33 (tgC 0 false n)) := Lib.hid S6.out
  have R7 : Hid (Bk w6.drew g2 37 (elC 0 (.slice none 0 0))) := Lib.hid R6.out
  refine wp_region_held_drew (S := fun W => Bk W g 23 (tL y m d h mi s) ∧ Bk W g5 33 (tgC 0 false n)) (by kernel_rfl) ⟨K7.out, S7.out⟩ (fun hS => ?_)
  clear B6 K6 S6 R6
  generalize w6.drew = w7 at *
  refine wpAnyH_take (i := 0) (oi := ⟨some 22, _, _, _, _, _⟩) (v := .agg #[.int .u8 0, .bool false, .int .u32 (n : Int)]) rfl (by kernel_rfl) (by kernel_rfl) (by kernel_rfl) (fun _ _ _ h => h) (Or.inl ⟨by rfl, fun w hSw => by have hl0 : w.cell? ⟨g5, 0, none⟩ = some (.int .u8 0) := (by rw [hSw.2.cell]; rfl); have hl1 : w.cell? ⟨g5, 1, none⟩ = some (.bool false) := (by rw [hSw.2.cell]; rfl); have hl2 : w.cell? ⟨g5, 2, none⟩ = some (.int .u32 (n : Int)) := (by rw [hSw.2.cell]; rfl); go_simp⟩) hS ?_
  simp only [Act.put, List.setIfInBounds_toArray, List.set_cons_zero, List.set_cons_succ]
  refine wpAnyH_take (i := 1) (oi := ⟨some 23, _, _, _, _, _⟩) (v := .string SL) rfl (by kernel_rfl) (by kernel_rfl) (by kernel_rfl) (fun _ _ _ h => h) (Or.inl ⟨by rfl, fun w hSw => by (try dsimp only at hSw); go_simp⟩) hS ?_
  simp only [Act.put, List.setIfInBounds_toArray, List.set_cons_zero, List.set_cons_succ]
  refine wpAnyH_take (i := 2) (oi := ⟨some 24, _, _, _, _, _⟩) (v := .agg #[.int .i64 (y : Int), .int .i64 (m : Int), .int .i64 (d : Int), .int .i64 (h : Int), .int .i64 (mi : Int), .int .i64 (s : Int)]) rfl (by kernel_rfl) (by kernel_rfl) (by kernel_rfl) (fun _ _ _ h => h) (Or.inl ⟨by rfl, fun w hSw => by have hl0 : w.cell? ⟨g, 0, none⟩ = some (.int .i64 (y : Int)) := (by rw [hSw.1.cell]; rfl); have hl1 : w.cell? ⟨g, 1, none⟩ = some (.int .i64 (m : Int)) := (by rw [hSw.1.cell]; rfl); have hl2 : w.cell? ⟨g, 2, none⟩ = some (.int .i64 (d : Int)) := (by rw [hSw.1.cell]; rfl); have hl3 : w.cell? ⟨g, 3, none⟩ = some (.int .i64 (h : Int)) := (by rw [hSw.1.cell]; rfl); have hl4 : w.cell? ⟨g, 4, none⟩ = some (.int .i64 (mi : Int)) := (by rw [hSw.1.cell]; rfl); have hl5 : w.cell? ⟨g, 5, none⟩ = some (.int .i64 (s : Int)) := (by rw [hSw.1.cell]; rfl); go_simp⟩) hS ?_
  simp only [Act.put, List.setIfInBounds_toArray, List.set_cons_zero, List.set_cons_succ]
  refine wpAnyH_ready (rs := [3]) (by kernel_rfl) (by simp) ?_
  refine AllReadyH.cons (o := _) rfl (fun K hK => ?_) (AllReadyH.nil)
  go_simp
  refine (CW.out _).mono ?_
  rintro e w8 ⟨gb, hgb, rfl, hr, hb⟩
  have B8 := bt B7 (Lib.hid hb)
  have K8 := kt K7 (Lib.hid hb)
  have S8 := kt S7 (Lib.hid hb)
  have R8 := kt R7 (Lib.hid hb)
  have HR8 := Lib.hid hr
  have hgb2 : g2 < gb := by have := R7.out.lt; omega
  have hgbw : w.heap.size ≤ gb := by have := B7.out.size; omega
  clear hb hr B7 K7 S7 R7
  go_simp
  refine hK.out _ _ ⟨K8.out, S8.out⟩ (fun hS => ?_)
  clear hK K
  (try simp only [Act.put, List.setIfInBounds_toArray, List.set_cons_zero, List.set_cons_succ])
  refine wpAnyH_take (i := 4) (oi := ⟨some 26, _, _, _, _, _⟩) (v := .agg #[.int .u8 0, .bool false, .int .u32 (n : Int), .slice (some ⟨gb, 0, none⟩) N N, .slice none 0 0]) rfl (by kernel_rfl) (by kernel_rfl) (by kernel_rfl) (fun _ _ _ h => h) (Or.inl ⟨by rfl, fun w hSw => by (try dsimp only at hSw); go_simp⟩) hS ?_
  simp only [Act.put, List.setIfInBounds_toArray, List.set_cons_zero, List.set_cons_succ]
  refine wpAnyH_ready (rs := [5]) (by kernel_rfl) (by simp) ?_
  refine AllReadyH.cons (o := _) rfl (fun K hK => ?_) (AllReadyH.nil)
  refine storeG_wp (.tmp 2) (.tmp 26) rfl rfl (ds := elC n (.slice (some ⟨gb, 0, none⟩) N N)) rfl R8.out infoEl rfl rfl ?_
  intro w9 hr9 hg9 hz9
  have B9 := Lib.hid (B8.out.grown hg9 B8.out.size (fun k e => by injection e with e; have := HG.out; have := HG2.out; omega))
  have K9 : Hid (Bk w9 g 23 (tL y m d h mi s)) := Lib.hid (K8.out.only hg9 (fun e => by injection e with e; have := HG2.out; omega))
  have S9 : Hid (Bk w9 g5 33 (tgC 0 false n)) := Lib.hid (S8.out.only hg9 (fun e => hn1 (by injection e with e; exact e.symm)))
  have R9 := Lib.hid hr9
  have HR9 : Hid (Rd w9 (some ⟨gb, 0, none⟩) (cs8 T)) := Lib.hid (fun hne => by
    obtain ⟨b, off, e, hb, hc⟩ := HR8.out hne
    refine ⟨b, off, e, Nat.lt_of_lt_of_le hb hg9.size, fun j u hu => (World.cell?_of_block (hg9.block b hb (fun e2 => ?_))).trans (hc j u hu)⟩
    injection e with e
    injection e with e
    injection e2 with e2
    omega)
  clear hr9 hg9 hz9
  refine hK.out _ _ ⟨K9.out, S9.out⟩ (fun hS => ?_)
  clear hK K
  (try simp only [Act.put, List.setIfInBounds_toArray, List.set_cons_zero, List.set_cons_succ])
  refine wpAnyH_take (i := 6) (oi := ⟨some 3, _, _, _, _, _⟩) (v := .int .i64 0) rfl (by kernel_rfl) (by kernel_rfl) (by kernel_rfl) (fun _ _ _ h => h) (Or.inl ⟨by rfl, fun w hSw => by (try dsimp only at hSw); go_simp⟩) hS ?_
  simp only [Act.put, List.setIfInBounds_toArray, List.set_cons_zero, List.set_cons_succ]
  refine wpAnyH_done (by kernel_rfl) ?_ _
  clear hS
  go_wp2_with fail
  exact retG2 rfl rfl rfl (loadEl R9.out) rfl ⟨gb, hgbw, by rw [HN.out]; rfl, HR9.out, B9.out⟩
end Go.Proofs.YtecmgkmonehmfaaDoor.Tim
