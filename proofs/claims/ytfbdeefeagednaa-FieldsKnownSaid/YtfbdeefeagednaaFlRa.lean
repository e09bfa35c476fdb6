/-
  Layer 12: the reference's At: the element to which a path leads.
  Conditions: none beyond that values read as what they are.
-/
import Derived.Test.YtfbdeefeagednaaFlAt
namespace Go.Proofs.Ytfbdeefeagednaa.Fl
open Go.RowKit

/-- An element is told, or there is none. -/
def GvR (x : Bool) (w : World) (r : Option El) (e : Ending) (w' : World) : Prop :=
  match r with
  | none => e = .returned (.tuple #[zeE, .bool false]) ∧ Below w.heap.size w w'
  | some d => ∃ u, e = .returned (.tuple #[u, .bool true]) ∧ RdE x (· < w.heap.size) w d u ∧ Below w.heap.size w w'
set_option linter.unusedSimpArgs false in
set_option maxHeartbeats 4000000 in
set_option maxRecDepth 100000 in
theorem rat_any {x : Bool} {S : Nat → Prop} (e : El) (v : Value) (path : List Int) (P : Option Addr) (N pc : Nat) (w : World) (hE : RdE x S w e v) (hP : Rd w P (csZ path)) (hN : path.length = N) (hN1 : N ≤ 1000000) (r : Option El) (hR : atE e path = r) :
    Calls Try.prog 16 #[v, .slice P N pc] w (GvR x w r) := by
  have hE2 : RdE x (· < w.heap.size) w e v := RdE.keep (Nat.le_refl _) (fun _ _ _ => rfl) (fun _ _ h => h) _ _ hE
  obtain ⟨c, n, k, u1, u2, hv⟩ : ∃ c n k u1 u2, v = elV c n k u1 u2 := by
    obtain ⟨c, n, k, A, l, q, A2, l2, q2, h⟩ := hE.form
    exact ⟨_, _, _, _, _, h⟩
  subst hv
  obtain ⟨G, hG⟩ : ∃ G, w.heap.size = G := ⟨_, rfl⟩
  obtain ⟨w1, hw1⟩ : ∃ v, w.alloc (.cells #[.int .u8 (c : Int), .bool k, .int .u32 (n : Int), u1, u2] 29) = v := ⟨_, rfl⟩
  obtain ⟨w2, hw2⟩ : ∃ v, w1.alloc (.cells #[.int .u8 0, .bool false, .int .u32 0, .slice none 0 0, .slice none 0 0] 29) = v := ⟨_, rfl⟩
  have b1 : Below w.heap.size w w1 := by rw [← hw1]; exact bel1 _ _
  have b2 : Below w1.heap.size w1 w2 := by rw [← hw2]; exact bel1 _ _
  have z1 : w1.heap.size = G + 1 := by rw [← hw1, World.size_alloc, hG]
  have k1 : Bk w1 G 29 [.int .u8 (c : Int), .bool k, .int .u32 (n : Int), u1, u2] := by rw [← hw1, ← hG]; exact Bk.new w _ [_, _, _, _, _]
  have k2 : Bk w2 (G + 1) 29 [.int .u8 0, .bool false, .int .u32 0, .slice none 0 0, .slice none 0 0] := by rw [← hw2, ← z1]; exact Bk.new w1 _ [_, _, _, _, _]
  rw [← hw1] at hw2
  have K1 := kt (Lib.hid k1) (Lib.hid b2)
  have K2 := Lib.hid k2
  have B2 := bt (Lib.hid b1) (Lib.hid b2)
  have HW := Lib.hid (And.intro hw2 hG)
  have HG := Lib.hid hG
  have E0 := Lib.hid hE2
  have HPA := Lib.hid hP
  have HN := Lib.hid hN
  have HRR := Lib.hid hR
  clear hE hE2 hP hN hR hG hw1 hw2 b1 b2 z1 k1 k2
  go_enter Try.func16, Try.ntmps16
  go_upto_region 1 with fail
  rw [HW.out.1, HW.out.2]
  go_wp2_with fail
  go_loopw [6] (fun i wr => ∃ (q : Nat) (y : El) (c n : Nat) (k : Bool) (u1 u2 : Value), q ≤ N ∧ i = .int .i64 (q : Int) ∧ atE y (path.drop q) = r ∧
      RdE x (· < w.heap.size) w y (elV c n k u1 u2) ∧ Bk wr G 29 [.int .u8 (c : Int), .bool k, .int .u32 (n : Int), u1, u2] ∧ Bk wr (G + 1) 29 [.int .u8 0, .bool false, .int .u32 0, .slice none 0 0, .slice none 0 0] ∧ Below w.heap.size w wr) (fun i _ => N - (intOf i).toNat)
  case atStart => exact ⟨0, e, c, n, k, u1, u2, Nat.zero_le _, rfl, by rw [List.drop_zero]; exact HRR.out, E0.out, K1.out, K2.out, B2.out⟩
  case round =>
    clear K1 K2 B2 E0 HRR
    obtain ⟨q, y, c, n, k, u1, u2, hq, rfl, hat, hE, hk, hk2, hbl⟩ := hrel
    have KK := Lib.hid hk
    have K2 := Lib.hid hk2
    have BB := Lib.hid hbl
    have HAT := Lib.hid hat
    have EE := Lib.hid hE
    obtain ⟨e0, e1, e2, e3, e4, ez⟩ := KK.out.five
    clear hk hk2 hbl hat hE
    by_cases hlt : q < N
    · obtain ⟨t, ht⟩ : ∃ t, path[q]'(by rw [HN.out]; exact hlt) = t := ⟨_, rfl⟩
      have hdr : path.drop q = t :: path.drop (q + 1) := by rw [List.drop_eq_getElem_cons (by rw [HN.out]; exact hlt), ht]
      obtain ⟨pb, po, rfl, hpb, hpc⟩ := (HPA.out.below BB.out).at_ (k := q) (by rw [csZ_len, HN.out]; exact hlt)
      have hpc1 : wr.cell? ⟨pb, po + q, none⟩ = some (.int .i64 t) := by rw [hpc]; unfold csZ; rw [List.getElem_map, ht]
      obtain ⟨yc, yn, yk, bs, ss⟩ := y
      have hE1 := EE.out
      obtain ⟨_, _, _, A, ca, B, cb, hv, _, _, _, hm1, hm2, _, hRS⟩ := hE1
      injection hv with hv
      simp at hv
      obtain ⟨hv1, rfl, hv2, rfl, rfl⟩ := hv
      obtain rfl : c = yc := by omega
      obtain rfl : n = yn := by omega
      obtain ⟨m, hm⟩ : ∃ m, ss.length = m := ⟨_, rfl⟩
      have HRS := Lib.hid hRS
      have HM := Lib.hid hm
      have hmm : m ≤ 9223372036854775807 := by unfold maxLen at hm2; omega
      rw [hdr] at HAT
      rw [hm] at KK e4 EE
      clear hpc hdr ht hRS hm1 hm2 hv1 hv2
      clear hm
      by_cases hneg : t < 0
      · have tn : decide (t < 0) = true := decide_eq_true hneg
        have hat2 : atE (.mk c n k bs ss) (t :: path.drop (q + 1)) = none := by
          rw [atE, dif_neg (by rw [HM.out]; omega)]
        obtain rfl : none = r := hat2.symm.trans HAT.out
        clear hat2
        go_upto_region 4 with fail
        have HSR := Lib.hid (show ∀ W, Below wr.heap.size wr W → W.cell? ⟨pb, po + q, none⟩ = some (.int .i64 t) ∧ W.cell? ⟨G, 4, none⟩ = some (.slice B m cb) ∧ Below wr.heap.size wr W from fun W hW => ⟨(hW.cell (p := ⟨pb, po + q, none⟩) hpb).trans hpc1, (hW.cell (p := ⟨G, 4, none⟩) KK.out.lt).trans (KK.out.cell 4), hW⟩)
        refine wp_region_held_drew (S := fun W => W.cell? ⟨pb, po + q, none⟩ = some (.int .i64 t) ∧ W.cell? ⟨G, 4, none⟩ = some (.slice B m cb) ∧ Below wr.heap.size wr W) (by kernel_rfl) (HSR.out _ (Below.refl wr.heap.size wr).drew) (fun hS => ?_)
        obtain ⟨wd, hwd⟩ : ∃ v, wr.drew = v := ⟨_, rfl⟩
        have d0 : Below wr.heap.size wr wd := by rw [← hwd]; exact (Below.refl wr.heap.size wr).drew
        rw [hwd] at hS ⊢
        clear hwd
        refine wpAnyH_take (i := 0) (oi := ⟨some 13, _, _, _, _, _⟩) (v := .slice (some ⟨pb, po, none⟩) N pc) rfl (by kernel_rfl) (by kernel_rfl) (by kernel_rfl) (fun _ _ _ h => h) (Or.inl ⟨by rfl, fun w _ => by go_simp⟩) hS ?_
        (try simp only [Act.put, List.setIfInBounds_toArray, List.set_cons_zero, List.set_cons_succ])
        refine wpAnyH_take (i := 1) (oi := ⟨some 14, _, _, _, _, _⟩) (v := .int .i64 (q : Int)) rfl (by kernel_rfl) (by kernel_rfl) (by kernel_rfl) (fun _ _ _ h => h) (Or.inl ⟨by rfl, fun w _ => by go_simp⟩) hS ?_
        (try simp only [Act.put, List.setIfInBounds_toArray, List.set_cons_zero, List.set_cons_succ])
        refine wpAnyH_take (i := 2) (oi := ⟨some 15, _, _, _, _, _⟩) (v := .pointer (some ⟨pb, po + q, none⟩)) rfl (by kernel_rfl) (by kernel_rfl) (by kernel_rfl) (fun _ _ _ h => h) (Or.inl ⟨by rfl, fun w _ => by go_simp⟩) hS ?_
        (try simp only [Act.put, List.setIfInBounds_toArray, List.set_cons_zero, List.set_cons_succ])
        refine wpAnyH_take (i := 3) (oi := ⟨some 16, _, _, _, _, _⟩) (v := .int .i64 t) rfl (by kernel_rfl) (by kernel_rfl) (by kernel_rfl) (fun _ _ _ h => h) (Or.inl ⟨by rfl, fun w hSw => by (try obtain ⟨s1, s2, s3⟩ := hSw); go_simp⟩) hS ?_
        (try simp only [Act.put, List.setIfInBounds_toArray, List.set_cons_zero, List.set_cons_succ])
        refine wpAnyH_take (i := 4) (oi := ⟨some 17, _, _, _, _, _⟩) (v := .bool true) rfl (by kernel_rfl) (by kernel_rfl) (by kernel_rfl) (fun _ _ _ h => h) (Or.inl ⟨by rfl, fun w _ => by go_simp⟩) hS ?_
        (try simp only [Act.put, List.setIfInBounds_toArray, List.set_cons_zero, List.set_cons_succ])
        refine wpAnyH_take (i := 5) (oi := ⟨some 18, _, _, _, _, _⟩) (v := .bool true) rfl (by kernel_rfl) (by kernel_rfl) (by kernel_rfl) (fun _ _ _ h => h) (Or.inl ⟨by rfl, fun w _ => by go_simp⟩) hS ?_
        (try simp only [Act.put, List.setIfInBounds_toArray, List.set_cons_zero, List.set_cons_succ])
        refine wpAnyH_take (i := 6) (oi := ⟨some 19, _, _, _, _, _⟩) (v := undef) rfl (by kernel_rfl) (by kernel_rfl) (by kernel_rfl) (fun _ _ _ h => h) (Or.inr ⟨by rfl, rfl⟩) hS ?_
        (try simp only [Act.put, List.setIfInBounds_toArray, List.set_cons_zero, List.set_cons_succ])
        refine wpAnyH_take (i := 7) (oi := ⟨some 20, _, _, _, _, _⟩) (v := undef) rfl (by kernel_rfl) (by kernel_rfl) (by kernel_rfl) (fun _ _ _ h => h) (Or.inr ⟨by rfl, rfl⟩) hS ?_
        (try simp only [Act.put, List.setIfInBounds_toArray, List.set_cons_zero, List.set_cons_succ])
        refine wpAnyH_take (i := 8) (oi := ⟨some 21, _, _, _, _, _⟩) (v := undef) rfl (by kernel_rfl) (by kernel_rfl) (by kernel_rfl) (fun _ _ _ h => h) (Or.inr ⟨by rfl, rfl⟩) hS ?_
        (try simp only [Act.put, List.setIfInBounds_toArray, List.set_cons_zero, List.set_cons_succ])
        refine wpAnyH_take (i := 9) (oi := ⟨some 22, _, _, _, _, _⟩) (v := undef) rfl (by kernel_rfl) (by kernel_rfl) (by kernel_rfl) (fun _ _ _ h => h) (Or.inr ⟨by rfl, rfl⟩) hS ?_
        (try simp only [Act.put, List.setIfInBounds_toArray, List.set_cons_zero, List.set_cons_succ])
        refine wpAnyH_take (i := 10) (oi := ⟨some 23, _, _, _, _, _⟩) (v := undef) rfl (by kernel_rfl) (by kernel_rfl) (by kernel_rfl) (fun _ _ _ h => h) (Or.inr ⟨by rfl, rfl⟩) hS ?_
        (try simp only [Act.put, List.setIfInBounds_toArray, List.set_cons_zero, List.set_cons_succ])
        refine wpAnyH_take (i := 11) (oi := ⟨some 24, _, _, _, _, _⟩) (v := undef) rfl (by kernel_rfl) (by kernel_rfl) (by kernel_rfl) (fun _ _ _ h => h) (Or.inr ⟨by rfl, rfl⟩) hS ?_
        (try simp only [Act.put, List.setIfInBounds_toArray, List.set_cons_zero, List.set_cons_succ])
        refine wpAnyH_take (i := 12) (oi := ⟨some 25, _, _, _, _, _⟩) (v := undef) rfl (by kernel_rfl) (by kernel_rfl) (by kernel_rfl) (fun _ _ _ h => h) (Or.inr ⟨by rfl, rfl⟩) hS ?_
        (try simp only [Act.put, List.setIfInBounds_toArray, List.set_cons_zero, List.set_cons_succ])
        refine wpAnyH_take (i := 13) (oi := ⟨some 26, _, _, _, _, _⟩) (v := undef) rfl (by kernel_rfl) (by kernel_rfl) (by kernel_rfl) (fun _ _ _ h => h) (Or.inr ⟨by rfl, rfl⟩) hS ?_
        (try simp only [Act.put, List.setIfInBounds_toArray, List.set_cons_zero, List.set_cons_succ])
        refine wpAnyH_take (i := 14) (oi := ⟨some 27, _, _, _, _, _⟩) (v := .bool true) rfl (by kernel_rfl) (by kernel_rfl) (by kernel_rfl) (fun _ _ _ h => h) (Or.inl ⟨by rfl, fun w _ => by go_simp⟩) hS ?_
        (try simp only [Act.put, List.setIfInBounds_toArray, List.set_cons_zero, List.set_cons_succ])
        refine wpAnyH_done (by kernel_rfl) ?_ _
        clear hS
        have B3 := bt BB (Lib.hid d0)
        have KR3 := kt K2 (Lib.hid d0)
        clear HSR d0
        go_wp2_with (refine storeE rfl _ _ rfl rfl rfl KR3.out rfl rfl rfl rfl rfl ?_; intro w4 h4 h5)
        exact retE2 rfl rfl rfl h4.out rfl ⟨rfl, B3.out.trans (only_below h5.out (by rw [HG.out]; omega) B3.out.size)⟩
      · have tn : decide (t < 0) = false := decide_eq_false hneg
        by_cases hge : (m : Int) ≤ t
        · have tg : decide (t ≥ (m : Int)) = true := decide_eq_true hge
          have hat2 : atE (.mk c n k bs ss) (t :: path.drop (q + 1)) = none := by
            rw [atE, dif_neg (by rw [HM.out]; omega)]
          obtain rfl : none = r := hat2.symm.trans HAT.out
          clear hat2
          go_upto_region 4 with fail
          have HSR := Lib.hid (show ∀ W, Below wr.heap.size wr W → W.cell? ⟨pb, po + q, none⟩ = some (.int .i64 t) ∧ W.cell? ⟨G, 4, none⟩ = some (.slice B m cb) ∧ Below wr.heap.size wr W from fun W hW => ⟨(hW.cell (p := ⟨pb, po + q, none⟩) hpb).trans hpc1, (hW.cell (p := ⟨G, 4, none⟩) KK.out.lt).trans (KK.out.cell 4), hW⟩)
          refine wp_region_held_drew (S := fun W => W.cell? ⟨pb, po + q, none⟩ = some (.int .i64 t) ∧ W.cell? ⟨G, 4, none⟩ = some (.slice B m cb) ∧ Below wr.heap.size wr W) (by kernel_rfl) (HSR.out _ (Below.refl wr.heap.size wr).drew) (fun hS => ?_)
          obtain ⟨wd, hwd⟩ : ∃ v, wr.drew = v := ⟨_, rfl⟩
          have d0 : Below wr.heap.size wr wd := by rw [← hwd]; exact (Below.refl wr.heap.size wr).drew
          rw [hwd] at hS ⊢
          clear hwd
          refine wpAnyH_take (i := 0) (oi := ⟨some 13, _, _, _, _, _⟩) (v := .slice (some ⟨pb, po, none⟩) N pc) rfl (by kernel_rfl) (by kernel_rfl) (by kernel_rfl) (fun _ _ _ h => h) (Or.inl ⟨by rfl, fun w _ => by go_simp⟩) hS ?_
          (try simp only [Act.put, List.setIfInBounds_toArray, List.set_cons_zero, List.set_cons_succ])
          refine wpAnyH_take (i := 1) (oi := ⟨some 14, _, _, _, _, _⟩) (v := .int .i64 (q : Int)) rfl (by kernel_rfl) (by kernel_rfl) (by kernel_rfl) (fun _ _ _ h => h) (Or.inl ⟨by rfl, fun w _ => by go_simp⟩) hS ?_
          (try simp only [Act.put, List.setIfInBounds_toArray, List.set_cons_zero, List.set_cons_succ])
          refine wpAnyH_take (i := 2) (oi := ⟨some 15, _, _, _, _, _⟩) (v := .pointer (some ⟨pb, po + q, none⟩)) rfl (by kernel_rfl) (by kernel_rfl) (by kernel_rfl) (fun _ _ _ h => h) (Or.inl ⟨by rfl, fun w _ => by go_simp⟩) hS ?_
          (try simp only [Act.put, List.setIfInBounds_toArray, List.set_cons_zero, List.set_cons_succ])
          refine wpAnyH_take (i := 3) (oi := ⟨some 16, _, _, _, _, _⟩) (v := .int .i64 t) rfl (by kernel_rfl) (by kernel_rfl) (by kernel_rfl) (fun _ _ _ h => h) (Or.inl ⟨by rfl, fun w hSw => by (try obtain ⟨s1, s2, s3⟩ := hSw); go_simp⟩) hS ?_
          (try simp only [Act.put, List.setIfInBounds_toArray, List.set_cons_zero, List.set_cons_succ])
          refine wpAnyH_take (i := 4) (oi := ⟨some 17, _, _, _, _, _⟩) (v := .bool false) rfl (by kernel_rfl) (by kernel_rfl) (by kernel_rfl) (fun _ _ _ h => h) (Or.inl ⟨by rfl, fun w _ => by go_simp⟩) hS ?_
          (try simp only [Act.put, List.setIfInBounds_toArray, List.set_cons_zero, List.set_cons_succ])
          refine wpAnyH_take (i := 5) (oi := ⟨some 18, _, _, _, _, _⟩) (v := .bool false) rfl (by kernel_rfl) (by kernel_rfl) (by kernel_rfl) (fun _ _ _ h => h) (Or.inl ⟨by rfl, fun w _ => by go_simp⟩) hS ?_
          (try simp only [Act.put, List.setIfInBounds_toArray, List.set_cons_zero, List.set_cons_succ])
          refine wpAnyH_take (i := 6) (oi := ⟨some 19, _, _, _, _, _⟩) (v := .slice (some ⟨pb, po, none⟩) N pc) rfl (by kernel_rfl) (by kernel_rfl) (by kernel_rfl) (fun _ _ _ h => h) (Or.inl ⟨by rfl, fun w _ => by go_simp⟩) hS ?_
          (try simp only [Act.put, List.setIfInBounds_toArray, List.set_cons_zero, List.set_cons_succ])
          refine wpAnyH_take (i := 7) (oi := ⟨some 20, _, _, _, _, _⟩) (v := .int .i64 (q : Int)) rfl (by kernel_rfl) (by kernel_rfl) (by kernel_rfl) (fun _ _ _ h => h) (Or.inl ⟨by rfl, fun w _ => by go_simp⟩) hS ?_
          (try simp only [Act.put, List.setIfInBounds_toArray, List.set_cons_zero, List.set_cons_succ])
          refine wpAnyH_take (i := 8) (oi := ⟨some 21, _, _, _, _, _⟩) (v := .pointer (some ⟨pb, po + q, none⟩)) rfl (by kernel_rfl) (by kernel_rfl) (by kernel_rfl) (fun _ _ _ h => h) (Or.inl ⟨by rfl, fun w _ => by go_simp⟩) hS ?_
          (try simp only [Act.put, List.setIfInBounds_toArray, List.set_cons_zero, List.set_cons_succ])
          refine wpAnyH_take (i := 9) (oi := ⟨some 22, _, _, _, _, _⟩) (v := .int .i64 t) rfl (by kernel_rfl) (by kernel_rfl) (by kernel_rfl) (fun _ _ _ h => h) (Or.inl ⟨by rfl, fun w hSw => by (try obtain ⟨s1, s2, s3⟩ := hSw); go_simp⟩) hS ?_
          (try simp only [Act.put, List.setIfInBounds_toArray, List.set_cons_zero, List.set_cons_succ])
          refine wpAnyH_take (i := 10) (oi := ⟨some 23, _, _, _, _, _⟩) (v := .pointer (some ⟨G, 4, none⟩)) rfl (by kernel_rfl) (by kernel_rfl) (by kernel_rfl) (fun _ _ _ h => h) (Or.inl ⟨by rfl, fun w _ => by go_simp⟩) hS ?_
          (try simp only [Act.put, List.setIfInBounds_toArray, List.set_cons_zero, List.set_cons_succ])
          refine wpAnyH_take (i := 11) (oi := ⟨some 24, _, _, _, _, _⟩) (v := .slice B m cb) rfl (by kernel_rfl) (by kernel_rfl) (by kernel_rfl) (fun _ _ _ h => h) (Or.inl ⟨by rfl, fun w hSw => by (try obtain ⟨s1, s2, s3⟩ := hSw); go_simp⟩) hS ?_
          (try simp only [Act.put, List.setIfInBounds_toArray, List.set_cons_zero, List.set_cons_succ])
          refine wpAnyH_take (i := 12) (oi := ⟨some 25, _, _, _, _, _⟩) (v := .int .i64 (m : Int)) rfl (by kernel_rfl) (by kernel_rfl) (by kernel_rfl) (fun _ _ _ h => h) (Or.inl ⟨by rfl, fun w _ => by go_simp⟩) hS ?_
          (try simp only [Act.put, List.setIfInBounds_toArray, List.set_cons_zero, List.set_cons_succ])
          refine wpAnyH_take (i := 13) (oi := ⟨some 26, _, _, _, _, _⟩) (v := .bool true) rfl (by kernel_rfl) (by kernel_rfl) (by kernel_rfl) (fun _ _ _ h => h) (Or.inl ⟨by rfl, fun w _ => by go_simp⟩) hS ?_
          (try simp only [Act.put, List.setIfInBounds_toArray, List.set_cons_zero, List.set_cons_succ])
          refine wpAnyH_take (i := 14) (oi := ⟨some 27, _, _, _, _, _⟩) (v := .bool true) rfl (by kernel_rfl) (by kernel_rfl) (by kernel_rfl) (fun _ _ _ h => h) (Or.inl ⟨by rfl, fun w _ => by go_simp⟩) hS ?_
          (try simp only [Act.put, List.setIfInBounds_toArray, List.set_cons_zero, List.set_cons_succ])
          refine wpAnyH_done (by kernel_rfl) ?_ _
          clear hS
          have B3 := bt BB (Lib.hid d0)
          have KR3 := kt K2 (Lib.hid d0)
          clear HSR d0
          go_wp2_with (refine storeE rfl _ _ rfl rfl rfl KR3.out rfl rfl rfl rfl rfl ?_; intro w4 h4 h5)
          exact retE2 rfl rfl rfl h4.out rfl ⟨rfl, B3.out.trans (only_below h5.out (by rw [HG.out]; omega) B3.out.size)⟩
        · have tg : decide (t ≥ (m : Int)) = false := decide_eq_false hge
          obtain ⟨j, rfl⟩ : ∃ j : Nat, t = (j : Int) := ⟨t.toNat, by omega⟩
          have hj : j < m := by omega
          obtain ⟨b, off, c', n', k', v1, v2, rfl, hb, hSb, f0, f1, f2, f3, f4, hE3⟩ := HRS.out.five (i := j) (by rw [HM.out]; exact hj)
          have hat2 : atE (.mk c n k bs ss) ((j : Int) :: path.drop (q + 1)) = atE (ss[j]'(by rw [HM.out]; exact hj)) (path.drop (q + 1)) := by
            rw [atE, dif_pos ⟨by omega, by rw [HM.out]; simpa using hj⟩]; rfl
          have HAT2 := Lib.hid (hat2.symm.trans HAT.out)
          have EE3 := Lib.hid hE3
          have HC := Lib.hid (And.intro f0 (And.intro f1 (And.intro f2 (And.intro f3 f4))))
          have HBL := Lib.hid hb
          have HPC := Lib.hid (And.intro hpb hpc1)
          have hjm : (j : Int) < (m : Int) := by omega
          clear hat2 hE3 hSb f0 f1 f2 f3 f4 HAT hb
          go_upto_region 4 with fail
          have HSR := Lib.hid (show ∀ W, Below wr.heap.size wr W → W.cell? ⟨pb, po + q, none⟩ = some (.int .i64 (j : Int)) ∧ W.cell? ⟨G, 4, none⟩ = some (.slice (some ⟨b, off, none⟩) m cb) ∧ Below wr.heap.size wr W from fun W hW => ⟨(hW.cell (p := ⟨pb, po + q, none⟩) hpb).trans hpc1, (hW.cell (p := ⟨G, 4, none⟩) KK.out.lt).trans (KK.out.cell 4), hW⟩)
          refine wp_region_held_drew (S := fun W => W.cell? ⟨pb, po + q, none⟩ = some (.int .i64 (j : Int)) ∧ W.cell? ⟨G, 4, none⟩ = some (.slice (some ⟨b, off, none⟩) m cb) ∧ Below wr.heap.size wr W) (by kernel_rfl) (HSR.out _ (Below.refl wr.heap.size wr).drew) (fun hS => ?_)
          obtain ⟨wd, hwd⟩ : ∃ v, wr.drew = v := ⟨_, rfl⟩
          have d0 : Below wr.heap.size wr wd := by rw [← hwd]; exact (Below.refl wr.heap.size wr).drew
          rw [hwd] at hS ⊢
          clear hwd
          refine wpAnyH_take (i := 0) (oi := ⟨some 13, _, _, _, _, _⟩) (v := .slice (some ⟨pb, po, none⟩) N pc) rfl (by kernel_rfl) (by kernel_rfl) (by kernel_rfl) (fun _ _ _ h => h) (Or.inl ⟨by rfl, fun w _ => by go_simp⟩) hS ?_
          (try simp only [Act.put, List.setIfInBounds_toArray, List.set_cons_zero, List.set_cons_succ])
          refine wpAnyH_take (i := 1) (oi := ⟨some 14, _, _, _, _, _⟩) (v := .int .i64 (q : Int)) rfl (by kernel_rfl) (by kernel_rfl) (by kernel_rfl) (fun _ _ _ h => h) (Or.inl ⟨by rfl, fun w _ => by go_simp⟩) hS ?_
          (try simp only [Act.put, List.setIfInBounds_toArray, List.set_cons_zero, List.set_cons_succ])
          refine wpAnyH_take (i := 2) (oi := ⟨some 15, _, _, _, _, _⟩) (v := .pointer (some ⟨pb, po + q, none⟩)) rfl (by kernel_rfl) (by kernel_rfl) (by kernel_rfl) (fun _ _ _ h => h) (Or.inl ⟨by rfl, fun w _ => by go_simp⟩) hS ?_
          (try simp only [Act.put, List.setIfInBounds_toArray, List.set_cons_zero, List.set_cons_succ])
          refine wpAnyH_take (i := 3) (oi := ⟨some 16, _, _, _, _, _⟩) (v := .int .i64 (j : Int)) rfl (by kernel_rfl) (by kernel_rfl) (by kernel_rfl) (fun _ _ _ h => h) (Or.inl ⟨by rfl, fun w hSw => by (try obtain ⟨s1, s2, s3⟩ := hSw); go_simp⟩) hS ?_
          (try simp only [Act.put, List.setIfInBounds_toArray, List.set_cons_zero, List.set_cons_succ])
          refine wpAnyH_take (i := 4) (oi := ⟨some 17, _, _, _, _, _⟩) (v := .bool false) rfl (by kernel_rfl) (by kernel_rfl) (by kernel_rfl) (fun _ _ _ h => h) (Or.inl ⟨by rfl, fun w _ => by go_simp⟩) hS ?_
          (try simp only [Act.put, List.setIfInBounds_toArray, List.set_cons_zero, List.set_cons_succ])
          refine wpAnyH_take (i := 5) (oi := ⟨some 18, _, _, _, _, _⟩) (v := .bool false) rfl (by kernel_rfl) (by kernel_rfl) (by kernel_rfl) (fun _ _ _ h => h) (Or.inl ⟨by rfl, fun w _ => by go_simp⟩) hS ?_
          (try simp only [Act.put, List.setIfInBounds_toArray, List.set_cons_zero, List.set_cons_succ])
          refine wpAnyH_take (i := 6) (oi := ⟨some 19, _, _, _, _, _⟩) (v := .slice (some ⟨pb, po, none⟩) N pc) rfl (by kernel_rfl) (by kernel_rfl) (by kernel_rfl) (fun _ _ _ h => h) (Or.inl ⟨by rfl, fun w _ => by go_simp⟩) hS ?_
          (try simp only [Act.put, List.setIfInBounds_toArray, List.set_cons_zero, List.set_cons_succ])
          refine wpAnyH_take (i := 7) (oi := ⟨some 20, _, _, _, _, _⟩) (v := .int .i64 (q : Int)) rfl (by kernel_rfl) (by kernel_rfl) (by kernel_rfl) (fun _ _ _ h => h) (Or.inl ⟨by rfl, fun w _ => by go_simp⟩) hS ?_
          (try simp only [Act.put, List.setIfInBounds_toArray, List.set_cons_zero, List.set_cons_succ])
          refine wpAnyH_take (i := 8) (oi := ⟨some 21, _, _, _, _, _⟩) (v := .pointer (some ⟨pb, po + q, none⟩)) rfl (by kernel_rfl) (by kernel_rfl) (by kernel_rfl) (fun _ _ _ h => h) (Or.inl ⟨by rfl, fun w _ => by go_simp⟩) hS ?_
          (try simp only [Act.put, List.setIfInBounds_toArray, List.set_cons_zero, List.set_cons_succ])
          refine wpAnyH_take (i := 9) (oi := ⟨some 22, _, _, _, _, _⟩) (v := .int .i64 (j : Int)) rfl (by kernel_rfl) (by kernel_rfl) (by kernel_rfl) (fun _ _ _ h => h) (Or.inl ⟨by rfl, fun w hSw => by (try obtain ⟨s1, s2, s3⟩ := hSw); go_simp⟩) hS ?_
          (try simp only [Act.put, List.setIfInBounds_toArray, List.set_cons_zero, List.set_cons_succ])
          refine wpAnyH_take (i := 10) (oi := ⟨some 23, _, _, _, _, _⟩) (v := .pointer (some ⟨G, 4, none⟩)) rfl (by kernel_rfl) (by kernel_rfl) (by kernel_rfl) (fun _ _ _ h => h) (Or.inl ⟨by rfl, fun w _ => by go_simp⟩) hS ?_
          (try simp only [Act.put, List.setIfInBounds_toArray, List.set_cons_zero, List.set_cons_succ])
          refine wpAnyH_take (i := 11) (oi := ⟨some 24, _, _, _, _, _⟩) (v := .slice (some ⟨b, off, none⟩) m cb) rfl (by kernel_rfl) (by kernel_rfl) (by kernel_rfl) (fun _ _ _ h => h) (Or.inl ⟨by rfl, fun w hSw => by (try obtain ⟨s1, s2, s3⟩ := hSw); go_simp⟩) hS ?_
          (try simp only [Act.put, List.setIfInBounds_toArray, List.set_cons_zero, List.set_cons_succ])
          refine wpAnyH_take (i := 12) (oi := ⟨some 25, _, _, _, _, _⟩) (v := .int .i64 (m : Int)) rfl (by kernel_rfl) (by kernel_rfl) (by kernel_rfl) (fun _ _ _ h => h) (Or.inl ⟨by rfl, fun w _ => by go_simp⟩) hS ?_
          (try simp only [Act.put, List.setIfInBounds_toArray, List.set_cons_zero, List.set_cons_succ])
          refine wpAnyH_take (i := 13) (oi := ⟨some 26, _, _, _, _, _⟩) (v := .bool false) rfl (by kernel_rfl) (by kernel_rfl) (by kernel_rfl) (fun _ _ _ h => h) (Or.inl ⟨by rfl, fun w _ => by go_simp⟩) hS ?_
          (try simp only [Act.put, List.setIfInBounds_toArray, List.set_cons_zero, List.set_cons_succ])
          refine wpAnyH_take (i := 14) (oi := ⟨some 27, _, _, _, _, _⟩) (v := .bool false) rfl (by kernel_rfl) (by kernel_rfl) (by kernel_rfl) (fun _ _ _ h => h) (Or.inl ⟨by rfl, fun w _ => by go_simp⟩) hS ?_
          (try simp only [Act.put, List.setIfInBounds_toArray, List.set_cons_zero, List.set_cons_succ])
          refine wpAnyH_done (by kernel_rfl) ?_ _
          clear hS
          have B3 := bt BB (Lib.hid d0)
          have K3 := kt KK (Lib.hid d0)
          have KR3 := kt K2 (Lib.hid d0)
          have g5 := (d0.cell (p := ⟨pb, po + q, none⟩) HPC.out.1).trans HPC.out.2
          clear HSR d0 e0 e1 e2 e3 e4 ez KK BB K2 hpc1 hpb hge hneg tn tg
          have e4 : wd.cell? ⟨G, 4, none⟩ = some (.slice (some ⟨b, off, none⟩) m cb) := K3.out.cell 4
          have g0 := (B3.out.cell (p := ⟨b, off + j * 5, none⟩) HBL.out).trans HC.out.1
          have g1 := (B3.out.cell (p := ⟨b, off + j * 5 + 1, none⟩) HBL.out).trans HC.out.2.1
          have g2 := (B3.out.cell (p := ⟨b, off + j * 5 + 2, none⟩) HBL.out).trans HC.out.2.2.1
          have g3 := (B3.out.cell (p := ⟨b, off + j * 5 + 3, none⟩) HBL.out).trans HC.out.2.2.2.1
          have g4 := (B3.out.cell (p := ⟨b, off + j * 5 + 4, none⟩) HBL.out).trans HC.out.2.2.2.2
          have ho1 : v1.oneCell' = true := by obtain ⟨_, _, _, _, _, _, _, _, _, h⟩ := EE3.out.form; injection h with h; simp at h; rw [h.2.2.2.1]; rfl
          have ho2 : v2.oneCell' = true := by obtain ⟨_, _, _, _, _, _, _, _, _, h⟩ := EE3.out.form; injection h with h; simp at h; rw [h.2.2.2.2]; rfl
          have HO := Lib.hid (And.intro ho1 ho2)
          clear ho1 ho2
          go_upto_region 6 with fail
          refine wp_region_still_tail 8 (by kernel_rfl) (by kernel_rfl) ?_
          simp only [List.take_succ_cons, List.take_zero, List.drop_succ_cons, List.drop_zero]
          repeat still_step
          refine wpStill_nil ?_
          change wpList _ _ _ _ _ wd.drew
          clear g0 g1 g2 g3 g4 g5 e4
          have KG3 : Hid (Bk wd.drew G 29 [.int .u8 (c : Int), .bool k, .int .u32 (n : Int), .slice A bs.length ca, .slice (some ⟨b, off, none⟩) m cb]) := Lib.hid (show Bk wd G _ _ from K3.out)
          go_wp2_with (refine storeE rfl _ _ rfl rfl rfl KG3.out rfl rfl rfl HO.out.1 HO.out.2 ?_; intro w4 h4 h5)
          have B4 : Below w.heap.size w wd.drew := B3.out.drew
          have hkr : Bk w4 (G + 1) 29 [.int .u8 0, .bool false, .int .u32 0, .slice none 0 0, .slice none 0 0] := by
            unfold Bk; rw [h5.out.block (G + 1) KR3.out.lt (fun e => by injection e with e; omega)]; exact KR3.out
          exact ⟨⟨q + 1, _, c', n', k', v1, v2, by omega, by go_num, HAT2.out, EE3.out, h4.out, hkr, B4.trans (only_below h5.out (by rw [HG.out]; exact Nat.le_refl _) B4.size)⟩, by simp [intOf]; omega⟩
    · have hdr : path.drop q = [] := List.drop_eq_nil_of_le (by rw [HN.out]; omega)
      have h2 := HAT.out
      rw [hdr, atE_nil] at h2
      subst h2
      clear hdr HAT
      have ho1 : u1.oneCell' = true := by obtain ⟨_, _, _, _, _, _, _, _, _, h⟩ := EE.out.form; injection h with h; simp at h; rw [h.2.2.2.1]; rfl
      have ho2 : u2.oneCell' = true := by obtain ⟨_, _, _, _, _, _, _, _, _, h⟩ := EE.out.form; injection h with h; simp at h; rw [h.2.2.2.2]; rfl
      have HO := Lib.hid (And.intro ho1 ho2)
      clear ho1 ho2
      go_wp2_with (refine storeE rfl _ _ rfl rfl rfl K2.out rfl rfl rfl HO.out.1 HO.out.2 ?_; intro w8 h4 h5)
      exact retE2 rfl rfl rfl h4.out rfl ⟨_, rfl, EE.out, BB.out.trans (only_below h5.out (by rw [HG.out]; omega) BB.out.size)⟩
end Go.Proofs.Ytfbdeefeagednaa.Fl
