/-
  Layer 12: the law's Fields: codes made into fields.
  Conditions: none beyond that the codes are bytes.
-/
import Derived.Test.YtklljbcnfamikaaFlR
import Derived.Test.YtklljbcnfamikaaFlY
namespace Go.Proofs.Ytklljbcnfamikaa.Fl
open Go.RowKit

def toFd (x : Nat × Nat) : Fd := ⟨(tagN x.1).1, (tagN x.1).2.1, (tagN x.1).2.2, decide (x.2 % 4 = 3), decide (x.2 / 4 % 2 = 1)⟩
/-- The fields that codes tell. -/
def fldL (l : List (Nat × Nat)) : List Fd := (l.take 20).map toFd
theorem infoFd : (Try.prog.info? 49).map (fun i => (i.zero, i.size, i.bytes)) = some (some (.agg #[.int .u8 0, .bool false, .int .u32 0, .bool false, .bool false]), 5, 12) := by kernel_rfl
theorem csF_one (f : Fd) (l : List Fd) : csF (l ++ [f]) = csF l ++ f.cells := by unfold csF; rw [List.flatMap_append]; simp
/-- 'append(v, f)' of one field. -/
theorem app_fd {w : World} {base : Nat} {v : Value} {l : List Fd} (hown : w.ownsRow base 49 5 v l.length (csF l)) (f : Fd) (hb : base ≤ w.heap.size) (hl : l.length ≤ 1000) :
    ∃ v' w', (Builtin.append_ #[34, 34] 34 #[v, .slice (some ⟨w.heap.size, 0, none⟩) 1 1]).run Try.prog (w.alloc (.cells f.cells.toArray 49)) = .ok v' w' ∧ w'.ownsRow base 49 5 v' (l ++ [f]).length (csF (l ++ [f])) ∧ Below base w w' := by
  obtain ⟨i, hi, hz0, hz1, hz2⟩ := info_parts infoFd
  obtain ⟨g, cap, w', hrun, h2, h3, _⟩ := run_append_lies (P := Try.prog) (w := w.alloc (.cells f.cells.toArray 49)) 34 34 base 49 i _ 5 12 Try.underlying34 hi hz0 hz1 hz2 rfl (by decide) v l.length (csF l) (hown.alloc _) ⟨w.heap.size, 0, none⟩ 1 1 f.cells rfl
    (fun j u hu => by
      have := (Bk.new w 49 f.cells).cell (0 + j)
      rw [Nat.zero_add] at this
      rw [addr_add, Nat.zero_add]
      exact this.trans hu) (by simp [Value.oneCell']) (by decide) (by unfold maxLen; omega) (by omega) (by simp; omega) _ rfl
  exact ⟨_, w', hrun, by rw [csF_one, List.length_append]; exact h2, ((Below.refl base w).alloc hb _).grown h3 (by simp; omega) (fun k hk => (hown.lt k hk).1)⟩
set_option linter.unusedSimpArgs false in
set_option maxHeartbeats 2000000 in
set_option maxRecDepth 100000 in
theorem fields_any (l : List (Nat × Nat)) (A : Option Addr) (n c : Nat) (hn : l.length = n) (hnm : n ≤ maxLen) (w : World) (hA : Rd w A (csP l)) (hf : fitP l) :
    Calls Try.prog 12 #[.slice A n c] w (fun e w' => ∃ v, e = .returned v ∧ w'.ownsRow w.heap.size 49 5 v (fldL l).length (csF (fldL l)) ∧ Below w.heap.size w w') := by
  have HA := Lib.hid hA
  have HN := Lib.hid hn
  have HF := Lib.hid hf
  have hnn : n ≤ 9223372036854775807 := by unfold maxLen at hnm; omega
  clear hA hn hf
  go_enter Try.func12, Try.ntmps12
  go_wp2_with fail
  go_loopw [3, 4] (fun v i wr => ∃ q : Nat, i = .int .i64 (q : Int) ∧ q ≤ n ∧ q ≤ 20 ∧ wr.ownsRow w.heap.size 49 5 v q (csF ((l.take q).map toFd)) ∧ Below w.heap.size w wr) (fun _ i _ => 21 - (intOf i).toNat)
  case atStart => exact ⟨0, rfl, Nat.zero_le _, Nat.zero_le _, World.ownsRow_nil _ _ _ _, Below.refl _ _⟩
  case round =>
    obtain ⟨q, rfl, hqn, hq20, hown, hbl⟩ := hrel
    have OW := Lib.hid hown
    have BB := Lib.hid hbl
    have HQN := Lib.hid hqn
    clear hown hbl
    by_cases hlt : q < n ∧ q < 20
    · obtain ⟨h1, h2⟩ := hlt
      have t20 : decide ((q : Int) < 20) = true := by simp; omega
      obtain ⟨x, y, hxy⟩ : ∃ x y, l[q]'(by rw [HN.out]; exact h1) = (x, y) := ⟨_, _, rfl⟩
      have hg := csP_get (l := l) (i := q) (by rw [HN.out]; exact h1)
      rw [hxy] at hg
      have h8 := HF.out (x, y) (by rw [← hxy]; exact List.getElem_mem _)
      obtain ⟨b, off, rfl, hb, hcell⟩ := HA.out (by intro e; have := csP_len l; rw [e, HN.out, List.length_nil] at this; omega)
      have hc0 := hcell _ _ hg.1
      have hc1 := hcell _ _ hg.2
      rw [← Nat.add_assoc] at hc1
      have hfd : (l.take (q + 1)).map toFd = (l.take q).map toFd ++ [toFd (x, y)] := by rw [List.take_succ_eq_append_getElem (by rw [HN.out]; exact h1), List.map_append, hxy]; rfl
      obtain ⟨tc, hT⟩ : ∃ tc, tagN x = tc := ⟨_, rfl⟩
      obtain ⟨tc, tn, tk⟩ := tc
      have HTG := Lib.hid fun W => tag_any x tc tn tk W h8.1 hT
      obtain ⟨av, hav⟩ : ∃ a, decide (y % 4 = 3) = a := ⟨_, rfl⟩
      obtain ⟨ov, hov⟩ : ∃ a, decide (y / 4 % 2 = 1) = a := ⟨_, rfl⟩
      have hto : toFd (x, y) = ⟨tc, tn, tk, av, ov⟩ := by unfold toFd; rw [hT, hav, hov]
      rw [hto] at hfd
      have HFD := Lib.hid hfd
      have m1 : (y : Int).tmod 4 = ((y % 4 : Nat) : Int) := (Int.ofNat_tmod y 4).symm
      have m2 : ((y : Int).tdiv 4).tmod 2 = ((y / 4 % 2 : Nat) : Int) := by rw [show (y : Int).tdiv 4 = ((y / 4 : Nat) : Int) from (Int.ofNat_tdiv y 4).symm]; exact (Int.ofNat_tmod (y / 4) 2).symm
      have hwy : IntKind.u8.wrap ((y : Int) / 4) = (y : Int) / 4 := by have := h8.2; dsimp only at this; rw [IntKind.wrap_u8]; omega
      have m3 : ((y : Int) / 4).tmod 2 = (y : Int) / 4 % 2 := Int.tmod_eq_emod_of_nonneg (by omega)
      have e1 : ((y : Int) % 4 == 3) = av := by rw [← hav]; rw [Bool.eq_iff_iff]; simp; omega
      have e2 : ((y : Int) / 4 % 2 == 1) = ov := by rw [← hov]; rw [Bool.eq_iff_iff]; simp; omega
      have HX := Lib.hid h8
      have HB := Lib.hid hb
      have HL : Hid (((l.take q).map toFd).length = q) := Lib.hid (by simp [HN.out]; omega)
      clear hT hav hov hto hfd hg hcell h8 hxy
      go_upto_region 5 with fail
      obtain ⟨wd, hwd⟩ : ∃ wd, wr.drew = wd := ⟨_, rfl⟩
      have hbd : Below wr.heap.size wr wd := by rw [← hwd]; exact ⟨rfl, rfl, rfl, Nat.le_refl _, fun _ _ => rfl⟩
      have HSR := Lib.hid (show ∀ W, Below w.heap.size w W → W.cell? ⟨b, off + q * 2, none⟩ = some (.int .u8 (x : Int)) ∧ W.cell? ⟨b, off + q * 2 + 1, none⟩ = some (.int .u8 (y : Int)) from fun W hW => ⟨(hW.cell (p := ⟨b, off + q * 2, none⟩) hb).trans hc0, (hW.cell (p := ⟨b, off + q * 2 + 1, none⟩) hb).trans hc1⟩)
      have BD := bt BB (Lib.hid hbd)
      have OD : Hid (wd.ownsRow w.heap.size 49 5 u3 q (csF ((l.take q).map toFd))) := Lib.hid (by rw [← hwd]; exact OW.out)
      clear hc0 hc1 hb
      refine wp_region_held_drew (S := fun W => W.cell? ⟨b, off + q * 2, none⟩ = some (.int .u8 (x : Int)) ∧ W.cell? ⟨b, off + q * 2 + 1, none⟩ = some (.int .u8 (y : Int))) (by kernel_rfl) (by rw [hwd]; exact HSR.out _ BD.out) (fun hS => ?_)
      rw [hwd] at hS ⊢
      clear hwd hbd
      refine wpAnyH_take (i := 0) (oi := ⟨some 15, _, _, _, _, _⟩) (v := u3) rfl (by kernel_rfl) (by kernel_rfl) (by kernel_rfl) (fun _ _ _ h => h) (Or.inl ⟨by rfl, fun w hSw => by (try dsimp only at hSw); go_simp⟩) hS ?_
      simp only [Act.put, List.setIfInBounds_toArray, List.set_cons_zero, List.set_cons_succ]
      refine wpAnyH_take (i := 1) (oi := ⟨some 16, _, _, _, _, _⟩) (v := .slice (some ⟨b, off, none⟩) n c) rfl (by kernel_rfl) (by kernel_rfl) (by kernel_rfl) (fun _ _ _ h => h) (Or.inl ⟨by rfl, fun w hSw => by (try dsimp only at hSw); go_simp⟩) hS ?_
      simp only [Act.put, List.setIfInBounds_toArray, List.set_cons_zero, List.set_cons_succ]
      refine wpAnyH_take (i := 2) (oi := ⟨some 17, _, _, _, _, _⟩) (v := .int .i64 (q : Int)) rfl (by kernel_rfl) (by kernel_rfl) (by kernel_rfl) (fun _ _ _ h => h) (Or.inl ⟨by rfl, fun w hSw => by (try dsimp only at hSw); go_simp⟩) hS ?_
      simp only [Act.put, List.setIfInBounds_toArray, List.set_cons_zero, List.set_cons_succ]
      refine wpAnyH_take (i := 3) (oi := ⟨some 18, _, _, _, _, _⟩) (v := .pointer (some ⟨b, off + q * 2, none⟩)) rfl (by kernel_rfl) (by kernel_rfl) (by kernel_rfl) (fun _ _ _ h => h) (Or.inl ⟨by rfl, fun w hSw => by (try dsimp only at hSw); go_simp⟩) hS ?_
      simp only [Act.put, List.setIfInBounds_toArray, List.set_cons_zero, List.set_cons_succ]
      refine wpAnyH_take (i := 4) (oi := ⟨some 19, _, _, _, _, _⟩) (v := .pointer (some ⟨b, off + q * 2, none⟩)) rfl (by kernel_rfl) (by kernel_rfl) (by kernel_rfl) (fun _ _ _ h => h) (Or.inl ⟨by rfl, fun w hSw => by (try dsimp only at hSw); go_simp⟩) hS ?_
      simp only [Act.put, List.setIfInBounds_toArray, List.set_cons_zero, List.set_cons_succ]
      refine wpAnyH_take (i := 5) (oi := ⟨some 20, _, _, _, _, _⟩) (v := .int .u8 (x : Int)) rfl (by kernel_rfl) (by kernel_rfl) (by kernel_rfl) (fun _ _ _ h => h) (Or.inl ⟨by rfl, fun w hSw => by (try dsimp only at hSw); obtain ⟨s0, s1⟩ := hSw; go_simp⟩) hS ?_
      simp only [Act.put, List.setIfInBounds_toArray, List.set_cons_zero, List.set_cons_succ]
      refine wpAnyH_take (i := 7) (oi := ⟨some 22, _, _, _, _, _⟩) (v := .slice (some ⟨b, off, none⟩) n c) rfl (by kernel_rfl) (by kernel_rfl) (by kernel_rfl) (fun _ _ _ h => h) (Or.inl ⟨by rfl, fun w hSw => by (try dsimp only at hSw); go_simp⟩) hS ?_
      simp only [Act.put, List.setIfInBounds_toArray, List.set_cons_zero, List.set_cons_succ]
      refine wpAnyH_take (i := 8) (oi := ⟨some 23, _, _, _, _, _⟩) (v := .int .i64 (q : Int)) rfl (by kernel_rfl) (by kernel_rfl) (by kernel_rfl) (fun _ _ _ h => h) (Or.inl ⟨by rfl, fun w hSw => by (try dsimp only at hSw); go_simp⟩) hS ?_
      simp only [Act.put, List.setIfInBounds_toArray, List.set_cons_zero, List.set_cons_succ]
      refine wpAnyH_take (i := 9) (oi := ⟨some 24, _, _, _, _, _⟩) (v := .pointer (some ⟨b, off + q * 2, none⟩)) rfl (by kernel_rfl) (by kernel_rfl) (by kernel_rfl) (fun _ _ _ h => h) (Or.inl ⟨by rfl, fun w hSw => by (try dsimp only at hSw); go_simp⟩) hS ?_
      simp only [Act.put, List.setIfInBounds_toArray, List.set_cons_zero, List.set_cons_succ]
      refine wpAnyH_take (i := 10) (oi := ⟨some 25, _, _, _, _, _⟩) (v := .pointer (some ⟨b, off + q * 2 + 1, none⟩)) rfl (by kernel_rfl) (by kernel_rfl) (by kernel_rfl) (fun _ _ _ h => h) (Or.inl ⟨by rfl, fun w hSw => by (try dsimp only at hSw); go_simp⟩) hS ?_
      simp only [Act.put, List.setIfInBounds_toArray, List.set_cons_zero, List.set_cons_succ]
      refine wpAnyH_take (i := 11) (oi := ⟨some 26, _, _, _, _, _⟩) (v := .int .u8 (y : Int)) rfl (by kernel_rfl) (by kernel_rfl) (by kernel_rfl) (fun _ _ _ h => h) (Or.inl ⟨by rfl, fun w hSw => by (try dsimp only at hSw); obtain ⟨s0, s1⟩ := hSw; go_simp⟩) hS ?_
      simp only [Act.put, List.setIfInBounds_toArray, List.set_cons_zero, List.set_cons_succ]
      refine wpAnyH_take (i := 12) (oi := ⟨some 27, _, _, _, _, _⟩) (v := .int .u8 ((y : Int) % 4)) rfl (by kernel_rfl) (by kernel_rfl) (by kernel_rfl) (fun _ _ _ h => h) (Or.inl ⟨by rfl, fun w hSw => by (try dsimp only at hSw); go_simp⟩) hS ?_
      simp only [Act.put, List.setIfInBounds_toArray, List.set_cons_zero, List.set_cons_succ]
      refine wpAnyH_take (i := 13) (oi := ⟨some 28, _, _, _, _, _⟩) (v := .bool av) rfl (by kernel_rfl) (by kernel_rfl) (by kernel_rfl) (fun _ _ _ h => h) (Or.inl ⟨by rfl, fun w hSw => by (try dsimp only at hSw); go_simp⟩) hS ?_
      simp only [Act.put, List.setIfInBounds_toArray, List.set_cons_zero, List.set_cons_succ]
      refine wpAnyH_take (i := 14) (oi := ⟨some 29, _, _, _, _, _⟩) (v := .slice (some ⟨b, off, none⟩) n c) rfl (by kernel_rfl) (by kernel_rfl) (by kernel_rfl) (fun _ _ _ h => h) (Or.inl ⟨by rfl, fun w hSw => by (try dsimp only at hSw); go_simp⟩) hS ?_
      simp only [Act.put, List.setIfInBounds_toArray, List.set_cons_zero, List.set_cons_succ]
      refine wpAnyH_take (i := 15) (oi := ⟨some 30, _, _, _, _, _⟩) (v := .int .i64 (q : Int)) rfl (by kernel_rfl) (by kernel_rfl) (by kernel_rfl) (fun _ _ _ h => h) (Or.inl ⟨by rfl, fun w hSw => by (try dsimp only at hSw); go_simp⟩) hS ?_
      simp only [Act.put, List.setIfInBounds_toArray, List.set_cons_zero, List.set_cons_succ]
      refine wpAnyH_take (i := 16) (oi := ⟨some 31, _, _, _, _, _⟩) (v := .pointer (some ⟨b, off + q * 2, none⟩)) rfl (by kernel_rfl) (by kernel_rfl) (by kernel_rfl) (fun _ _ _ h => h) (Or.inl ⟨by rfl, fun w hSw => by (try dsimp only at hSw); go_simp⟩) hS ?_
      simp only [Act.put, List.setIfInBounds_toArray, List.set_cons_zero, List.set_cons_succ]
      refine wpAnyH_take (i := 17) (oi := ⟨some 32, _, _, _, _, _⟩) (v := .pointer (some ⟨b, off + q * 2 + 1, none⟩)) rfl (by kernel_rfl) (by kernel_rfl) (by kernel_rfl) (fun _ _ _ h => h) (Or.inl ⟨by rfl, fun w hSw => by (try dsimp only at hSw); go_simp⟩) hS ?_
      simp only [Act.put, List.setIfInBounds_toArray, List.set_cons_zero, List.set_cons_succ]
      refine wpAnyH_take (i := 18) (oi := ⟨some 33, _, _, _, _, _⟩) (v := .int .u8 (y : Int)) rfl (by kernel_rfl) (by kernel_rfl) (by kernel_rfl) (fun _ _ _ h => h) (Or.inl ⟨by rfl, fun w hSw => by (try dsimp only at hSw); obtain ⟨s0, s1⟩ := hSw; go_simp⟩) hS ?_
      simp only [Act.put, List.setIfInBounds_toArray, List.set_cons_zero, List.set_cons_succ]
      refine wpAnyH_take (i := 19) (oi := ⟨some 34, _, _, _, _, _⟩) (v := .int .u8 ((y : Int) / 4)) rfl (by kernel_rfl) (by kernel_rfl) (by kernel_rfl) (fun _ _ _ h => h) (Or.inl ⟨by rfl, fun w hSw => by (try dsimp only at hSw); go_simp⟩) hS ?_
      simp only [Act.put, List.setIfInBounds_toArray, List.set_cons_zero, List.set_cons_succ]
      refine wpAnyH_take (i := 20) (oi := ⟨some 35, _, _, _, _, _⟩) (v := .int .u8 ((y : Int) / 4 % 2)) rfl (by kernel_rfl) (by kernel_rfl) (by kernel_rfl) (fun _ _ _ h => h) (Or.inl ⟨by rfl, fun w hSw => by (try dsimp only at hSw); go_simp⟩) hS ?_
      simp only [Act.put, List.setIfInBounds_toArray, List.set_cons_zero, List.set_cons_succ]
      refine wpAnyH_take (i := 21) (oi := ⟨some 36, _, _, _, _, _⟩) (v := .bool ov) rfl (by kernel_rfl) (by kernel_rfl) (by kernel_rfl) (fun _ _ _ h => h) (Or.inl ⟨by rfl, fun w hSw => by (try dsimp only at hSw); go_simp⟩) hS ?_
      simp only [Act.put, List.setIfInBounds_toArray, List.set_cons_zero, List.set_cons_succ]
      refine wpAnyH_ready (rs := [6]) (by kernel_rfl) (by simp) ?_
      refine AllReadyH.cons (o := _) rfl (fun K hK => ?_) (AllReadyH.nil)
      go_simp
      refine (HTG.out _).mono ?_
      rintro r w4 ⟨rfl, hb4⟩
      have B4 := bt BD (Lib.hid hb4)
      have O4 := Lib.hid (own_kept OD.out (w' := w4) (fun g hg => hb4.block g (OD.out.lt g hg).2))
      refine hK.out _ _ (HSR.out _ B4.out) (fun hS => ?_)
      clear hK K HTG hb4 BD OD
      (try simp only [Act.put, List.setIfInBounds_toArray, List.set_cons_zero, List.set_cons_succ])
      refine wpAnyH_take (i := 22) (oi := ⟨some 37, _, _, _, _, _⟩) (v := .agg #[.int .u8 (tc : Int), .bool tk, .int .u32 (tn : Int), .bool av, .bool ov]) rfl (by kernel_rfl) (by kernel_rfl) (by kernel_rfl) (fun _ _ _ h => h) (Or.inl ⟨by rfl, fun w hSw => by (try dsimp only at hSw); go_simp⟩) hS ?_
      simp only [Act.put, List.setIfInBounds_toArray, List.set_cons_zero, List.set_cons_succ]
      obtain ⟨v', w6, hrun, ho6, hb6⟩ := app_fd (l := (l.take q).map toFd) (by rw [HL.out]; exact O4.out) ⟨tc, tn, tk, av, ov⟩ B4.out.size (by rw [HL.out]; omega)
      have HRUN := Lib.hid hrun
      have O6 := Lib.hid ho6
      have B6 := Lib.hid (B4.out.trans hb6)
      clear hrun ho6 hb6
      refine wpAnyH_ready (rs := [23]) (by kernel_rfl) (by simp) ?_
      refine AllReadyH.cons (o := ⟨some 38, _, _, _, _, _⟩) rfl (fun K hK => ?_) (AllReadyH.nil)
      go_simp
      refine hK.out _ _ (HSR.out _ (B4.out.alloc B4.out.size _)) (fun hS => ?_)
      clear hK K
      (try simp only [Act.put, List.setIfInBounds_toArray, List.set_cons_zero, List.set_cons_succ])
      refine wpAnyH_ready (rs := [24]) (by kernel_rfl) (by simp) ?_
      refine AllReadyH.cons (o := ⟨some 39, _, _, _, _, _⟩) rfl (fun K hK => ?_) (AllReadyH.nil)
      refine step_app rfl (.tmp 15) (.tmp 38) _ _ rfl _ _ rfl rfl HRUN.out ?_
      refine hK.out _ _ (HSR.out _ B6.out) (fun hS => ?_)
      clear hK K HRUN
      (try simp only [Act.put, List.setIfInBounds_toArray, List.set_cons_zero, List.set_cons_succ])
      refine wpAnyH_take (i := 25) (oi := ⟨some 3, _, _, _, _, _⟩) (v := v') rfl (by kernel_rfl) (by kernel_rfl) (by kernel_rfl) (fun _ _ _ h => h) (Or.inl ⟨by rfl, fun w hSw => by (try dsimp only at hSw); go_simp⟩) hS ?_
      simp only [Act.put, List.setIfInBounds_toArray, List.set_cons_zero, List.set_cons_succ]
      refine wpAnyH_done (by kernel_rfl) ?_ _
      clear hS
      go_wp2_with fail
      rw [← HFD.out, List.length_map, List.length_take, HN.out, Nat.min_eq_left h1] at O6
      exact ⟨⟨q + 1, by go_num, h1, h2, O6.out, B6.out⟩, by simp [intOf]; omega⟩
    · have hqe : (l.take q).map toFd = fldL l := by
        unfold fldL
        rcases Nat.lt_or_ge q 20 with h | h
        · rw [List.take_of_length_le (by rw [HN.out]; omega), List.take_of_length_le (by rw [HN.out]; omega)]
        · rw [show q = 20 by omega]
      have HL : Hid (((l.take q).map toFd).length = q) := Lib.hid (by simp [HN.out]; omega)
      have HQE := Lib.hid hqe
      clear hqe
      by_cases h1 : q < n
      · have t20 : decide ((q : Int) < 20) = false := by simp; omega
        go_wp2_with fail
        go_ret
        exact ⟨u3, rfl, by rw [← HQE.out, HL.out]; exact OW.out, BB.out⟩
      · go_wp2_with fail
        go_ret
        exact ⟨u3, rfl, by rw [← HQE.out, HL.out]; exact OW.out, BB.out⟩
end Go.Proofs.Ytklljbcnfamikaa.Fl
