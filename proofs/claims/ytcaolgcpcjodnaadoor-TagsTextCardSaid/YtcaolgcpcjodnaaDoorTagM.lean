/-
  Package tags: the contract of Parse.
  Conditions: the variables hold what the program's text lays.
-/
import Derived.Test.YtcaolgcpcjodnaaDoorTagL
namespace Go.Proofs.YtcaolgcpcjodnaaDoor
open Go.RowKit

/-- The word behind the number of a constructed tag. -/
def wcon : List Nat := [99, 111, 110, 115, 116, 114, 117, 99, 116, 101, 100]
/-- What a text reads as, but for the error of the tag. -/
def prs (l : List Nat) : Option (Nat × Nat × Bool) :=
  match clsOf (cut1 l).1, numOf (cut1 (cut1 l).2.1).1 with
  | some c, some n => if (cut1 (cut1 l).2.1).2.2 = true ∧ (cut1 (cut1 l).2.1).2.1 ≠ wcon then none else some (c, n, (cut1 (cut1 l).2.1).2.2)
  | _, _ => none
/-- Class, number, form, error. -/
def prsE (l : List Nat) : Nat × Nat × Bool × Nat := match prs l with
  | none => (0, 0, false, 6)
  | some (c, n, k) => if chk c n k ≠ 0 then (0, 0, false, chk c n k) else (c, n, k, 0)
/-- A tag and an error. -/
def GiveU (w : World) (q : Nat × Nat × Bool × Nat) (e : Ending) (w' : World) : Prop :=
  e = .returned (.tuple #[tagV q.1 q.2.1 q.2.2.1, .int .i64 (q.2.2.2 : Nat)]) ∧ Below w.heap.size w w'
theorem cut1_le (l : List Nat) : (cut1 l).1.length ≤ l.length ∧ (cut1 l).2.1.length ≤ l.length := by
  unfold cut1
  split
  · rename_i h
    have := (pre32_split h).2
    simp only [List.length_drop]; omega
  · simp
theorem cut1_all {l : List Nat} (h : All8 l) : All8 (cut1 l).1 ∧ All8 (cut1 l).2.1 := by
  unfold cut1
  split
  · exact ⟨fun x hx => h x ((List.takeWhile_sublist _).mem hx), h.drop _⟩
  · exact ⟨h, All8.nil⟩
theorem clsOf_le {l : List Nat} {c : Nat} (h : clsOf l = some c) : c ≤ 3 ∧ l = cname c := by
  unfold clsOf at h
  split at h
  · cases h; exact ⟨by omega, ‹_›⟩
  · split at h
    · cases h; exact ⟨by omega, ‹_›⟩
    · split at h
      · cases h; exact ⟨by omega, ‹_›⟩
      · split at h
        · cases h; exact ⟨by omega, ‹_›⟩
        · cases h

theorem wcon_all : All8 wcon := by
  intro x hx
  simp [wcon] at hx
  omega
theorem wcon_list : (bstr wcon).toList = [99, 111, 110, 115, 116, 114, 117, 99, 116, 101, 100] := by rw [ByteArray.toList_eq]; rfl
/-- The result's box is as it was made. -/
def Kp (w W : World) : Prop := Below w.heap.size w W ∧ Bk W w.heap.size 25 [.int .u8 0, .bool false, .int .u32 0]
theorem kp_start (w : World) : Kp w (w.alloc (.cells #[.int .u8 0, .bool false, .int .u32 0] 25)) := ⟨(Below.refl _ w).alloc (Nat.le_refl _) _, Bk.new w 25 [.int .u8 0, .bool false, .int .u32 0]⟩
theorem kp_step {w W W' : World} (h : Kp w W) (hb : Below W.heap.size W W') : Kp w W' := ⟨h.1.trans (hb.mono h.1.size), h.2.below hb h.2.lt⟩
theorem kp_facts {w W : World} (h : Kp w W) : W.cell? ⟨w.heap.size, 0, none⟩ = some (.int .u8 0) ∧ W.cell? ⟨w.heap.size, 1, none⟩ = some (.bool false) ∧ W.cell? ⟨w.heap.size, 2, none⟩ = some (.int .u32 0) ∧ (∀ i, W.frozen? ⟨w.heap.size, i, none⟩ = false) ∧ w.heap.size < W.heap.size :=
  ⟨h.2.cell 0, h.2.cell 1, h.2.cell 2, fun i => h.2.free i, h.2.lt⟩
set_option maxRecDepth 100000 in
set_option maxHeartbeats 2000000 in
theorem parse_any (l : List Nat) (w : World) (hE : Env w) (h8 : All8 l) (hl : l.length ≤ 4294967296) :
    Calls Tryd.prog 22 #[.string (bstr l)] w (GiveU w (prsE l)) := by
  obtain ⟨n1, r1, b1, hc1⟩ : ∃ n1 r1 b1, cut1 l = (n1, r1, b1) := ⟨_, _, _, rfl⟩
  obtain ⟨n2, r2, b2, hc2⟩ : ∃ n2 r2 b2, cut1 r1 = (n2, r2, b2) := ⟨_, _, _, rfl⟩
  have l1 := cut1_le l
  have l2 := cut1_le r1
  have a1 := cut1_all h8
  rw [hc1] at l1 a1
  have a2 := cut1_all a1.2
  rw [hc2] at l2 a2
  simp only at l1 l2 a1 a2
  have HE := Lib.hid hE
  have H8 := Lib.hid h8
  have HA1 := Lib.hid a1
  have HA2 := Lib.hid a2
  have hP : prs l = match clsOf n1, numOf n2 with
    | some c, some n => if b2 = true ∧ r2 ≠ wcon then none else some (c, n, b2)
    | _, _ => none := by unfold prs; rw [hc1]; simp only; rw [hc2]
  have HP := Lib.hid hP
  have HC1 := Lib.hid hc1
  have HC2 := Lib.hid hc2
  have hl1 : r1.length ≤ 4294967296 := by omega
  have hl2 : n2.length ≤ 4294967296 := by omega
  clear hE h8 a1 a2 l1 l2 hc1 hc2 hP
  obtain ⟨cl, hcl⟩ : ∃ x, clsOf n1 = x := ⟨_, rfl⟩
  obtain ⟨nu, hnu⟩ : ∃ x, numOf n2 = x := ⟨_, rfl⟩
  have HCl := Lib.hid hcl
  have HNu := Lib.hid hnu
  cases cl with
  | none =>
    have HQ := Lib.hid (show prsE l = (0, 0, false, 6) by unfold prsE; rw [HP.out, hcl])
    clear hcl hnu
    go_enter Tryd.func22, Tryd.ntmps22
    go_wp2_with (first | (go_at_call 32; (with_reducible refine (cut_any l _ H8.out hl).mono ?_); rintro e w1 ⟨rfl, hb1⟩; rw [HC1.out]; have HK1 := Lib.hid (kp_step (kp_start w) hb1); clear hb1) | (go_at_call 32; (with_reducible refine (cut_any r1 _ HA1.out.2 hl1).mono ?_); rintro e w2 ⟨rfl, hb2⟩; rw [HC2.out]; have HK2 := Lib.hid (kp_step HK1.out hb2); clear hb2) | (go_at_call 33; refine (pclass_any n1 _ (HE.out.below HK2.out.1) HA1.out.1).mono ?_; rintro e w3 ⟨rfl, rfl⟩; rw [HCl.out]) | (go_at_call 34; refine (pnum_any n2 _ (HE.out.below HK2.out.1) HA2.out.1 hl2).mono ?_; rintro e w4 ⟨rfl, hb4⟩; rw [HNu.out]; have hk4 := kp_step HK2.out hb4; obtain ⟨r0, r1', r2', rf, hsz⟩ := kp_facts hk4; have f0 := rf 0; have f1 := rf 1; have f2 := rf 2; have HK4 := Lib.hid hk4; clear hb4 hk4 rf))
    have HS := Lib.hid (set3 (a' := .int .u8 0) (b' := .bool false) (c' := .int .u32 0) HK4.out.2)
    have s0 := HS.out.cell 0
    have s1 := HS.out.cell 1
    have s2 := HS.out.cell 2
    simp only [List.getElem?_cons_zero, List.getElem?_cons_succ] at s0 s1 s2
    refine bodyPost_ret (v := .tuple #[tagV 0 0 false, .int .i64 6]) (by simp [results, Tryd.results22, go_sem, s0, s1, s2]) rfl ⟨?_, below3 HK4.out.1 (Nat.le_refl _)⟩
    rw [HQ.out]
    try rfl
  | some c =>
    obtain ⟨hc3, hcn⟩ := clsOf_le hcl
    clear hcn
    cases nu with
    | none =>
      have HQ := Lib.hid (show prsE l = (0, 0, false, 6) by unfold prsE; rw [HP.out, hcl, hnu])
      clear hcl hnu
      go_enter Tryd.func22, Tryd.ntmps22
      go_wp2_with (first | (go_at_call 32; (with_reducible refine (cut_any l _ H8.out hl).mono ?_); rintro e w1 ⟨rfl, hb1⟩; rw [HC1.out]; have HK1 := Lib.hid (kp_step (kp_start w) hb1); clear hb1) | (go_at_call 32; (with_reducible refine (cut_any r1 _ HA1.out.2 hl1).mono ?_); rintro e w2 ⟨rfl, hb2⟩; rw [HC2.out]; have HK2 := Lib.hid (kp_step HK1.out hb2); clear hb2) | (go_at_call 33; refine (pclass_any n1 _ (HE.out.below HK2.out.1) HA1.out.1).mono ?_; rintro e w3 ⟨rfl, rfl⟩; rw [HCl.out]) | (go_at_call 34; refine (pnum_any n2 _ (HE.out.below HK2.out.1) HA2.out.1 hl2).mono ?_; rintro e w4 ⟨rfl, hb4⟩; rw [HNu.out]; have hk4 := kp_step HK2.out hb4; obtain ⟨r0, r1', r2', rf, hsz⟩ := kp_facts hk4; have f0 := rf 0; have f1 := rf 1; have f2 := rf 2; have HK4 := Lib.hid hk4; clear hb4 hk4 rf))
      have HS := Lib.hid (set3 (a' := .int .u8 0) (b' := .bool false) (c' := .int .u32 0) HK4.out.2)
      have s0 := HS.out.cell 0
      have s1 := HS.out.cell 1
      have s2 := HS.out.cell 2
      simp only [List.getElem?_cons_zero, List.getElem?_cons_succ] at s0 s1 s2
      refine bodyPost_ret (v := .tuple #[tagV 0 0 false, .int .i64 6]) (by simp [results, Tryd.results22, go_sem, s0, s1, s2]) rfl ⟨?_, below3 HK4.out.1 (Nat.le_refl _)⟩
      rw [HQ.out]
      try rfl
    | some n =>
      obtain ⟨hn28, hnn⟩ := num_some hnu
      clear hnn
      cases b2 with
      | false =>
        have hpr : prs l = some (c, n, false) := by rw [HP.out, hcl, hnu]; exact if_neg (fun e => by cases e.1)
        obtain ⟨e0, he0⟩ : ∃ e0, chk c n false = e0 := ⟨_, rfl⟩
        have HX := Lib.hid he0
        by_cases hz : e0 = 0
        · have HQ := Lib.hid (show prsE l = (c, n, false, 0) by unfold prsE; rw [hpr]; exact if_neg (by rw [he0]; omega))
          subst hz
          clear hcl hnu hpr he0
          go_enter Tryd.func22, Tryd.ntmps22
          go_wp2_with (first | (go_at_call 32; (with_reducible refine (cut_any l _ H8.out hl).mono ?_); rintro e w1 ⟨rfl, hb1⟩; rw [HC1.out]; have HK1 := Lib.hid (kp_step (kp_start w) hb1); clear hb1) | (go_at_call 32; (with_reducible refine (cut_any r1 _ HA1.out.2 hl1).mono ?_); rintro e w2 ⟨rfl, hb2⟩; rw [HC2.out]; have HK2 := Lib.hid (kp_step HK1.out hb2); clear hb2) | (go_at_call 33; refine (pclass_any n1 _ (HE.out.below HK2.out.1) HA1.out.1).mono ?_; rintro e w3 ⟨rfl, rfl⟩; rw [HCl.out]) | (go_at_call 34; refine (pnum_any n2 _ (HE.out.below HK2.out.1) HA2.out.1 hl2).mono ?_; rintro e w4 ⟨rfl, hb4⟩; rw [HNu.out]; have hk4 := kp_step HK2.out hb4; obtain ⟨r0, r1', r2', rf, hsz⟩ := kp_facts hk4; have f0 := rf 0; have f1 := rf 1; have f2 := rf 2; have HK4 := Lib.hid hk4; clear hb4 hk4 rf) | (go_at_call 11; refine (check_any c n false _ (by omega) (by omega)).mono ?_; rintro e w5 ⟨rfl, hb5⟩; rw [HX.out]; obtain ⟨q0, q1, q2, hsz5⟩ := tag_cells hb5; have hk5 := kp_step (kp_step HK4.out ((Below.refl _ _).alloc (Nat.le_refl _) _)) hb5; clear r0 r1' r2' f0 f1 f2; obtain ⟨r0, r1', r2', rf, hsz6⟩ := kp_facts hk5; have f0 := rf 0; have f1 := rf 1; have f2 := rf 2; have HK5 := Lib.hid hk5; clear hb5 hk5 rf))
          have HS := Lib.hid (set3 (a' := .int .u8 (c : Int)) (b' := .bool false) (c' := .int .u32 (n : Int)) HK5.out.2)
          have s0 := HS.out.cell 0
          have s1 := HS.out.cell 1
          have s2 := HS.out.cell 2
          simp only [List.getElem?_cons_zero, List.getElem?_cons_succ] at s0 s1 s2
          refine bodyPost_ret (v := .tuple #[tagV c n false, .int .i64 0]) (by simp [results, Tryd.results22, go_sem, s0, s1, s2]) rfl ⟨?_, below3 HK5.out.1 (Nat.le_refl _)⟩
          rw [HQ.out]
          try rfl
        · have HQ := Lib.hid (show prsE l = (0, 0, false, e0) by unfold prsE; rw [hpr]; exact (if_pos (by rw [he0]; exact hz)).trans (by rw [he0]))
          have hzb : ((e0 : Int) != 0) = true := by rw [bne_iff_ne]; omega
          clear hcl hnu hpr he0 hz
          go_enter Tryd.func22, Tryd.ntmps22
          go_wp2_with (first | (go_at_call 32; (with_reducible refine (cut_any l _ H8.out hl).mono ?_); rintro e w1 ⟨rfl, hb1⟩; rw [HC1.out]; have HK1 := Lib.hid (kp_step (kp_start w) hb1); clear hb1) | (go_at_call 32; (with_reducible refine (cut_any r1 _ HA1.out.2 hl1).mono ?_); rintro e w2 ⟨rfl, hb2⟩; rw [HC2.out]; have HK2 := Lib.hid (kp_step HK1.out hb2); clear hb2) | (go_at_call 33; refine (pclass_any n1 _ (HE.out.below HK2.out.1) HA1.out.1).mono ?_; rintro e w3 ⟨rfl, rfl⟩; rw [HCl.out]) | (go_at_call 34; refine (pnum_any n2 _ (HE.out.below HK2.out.1) HA2.out.1 hl2).mono ?_; rintro e w4 ⟨rfl, hb4⟩; rw [HNu.out]; have hk4 := kp_step HK2.out hb4; obtain ⟨r0, r1', r2', rf, hsz⟩ := kp_facts hk4; have f0 := rf 0; have f1 := rf 1; have f2 := rf 2; have HK4 := Lib.hid hk4; clear hb4 hk4 rf) | (go_at_call 11; refine (check_any c n false _ (by omega) (by omega)).mono ?_; rintro e w5 ⟨rfl, hb5⟩; rw [HX.out]; obtain ⟨q0, q1, q2, hsz5⟩ := tag_cells hb5; have hk5 := kp_step (kp_step HK4.out ((Below.refl _ _).alloc (Nat.le_refl _) _)) hb5; clear r0 r1' r2' f0 f1 f2; obtain ⟨r0, r1', r2', rf, hsz6⟩ := kp_facts hk5; have f0 := rf 0; have f1 := rf 1; have f2 := rf 2; have HK5 := Lib.hid hk5; clear hb5 hk5 rf))
          have HS := Lib.hid (set3 (a' := .int .u8 0) (b' := .bool false) (c' := .int .u32 0) HK5.out.2)
          have s0 := HS.out.cell 0
          have s1 := HS.out.cell 1
          have s2 := HS.out.cell 2
          simp only [List.getElem?_cons_zero, List.getElem?_cons_succ] at s0 s1 s2
          refine bodyPost_ret (v := .tuple #[tagV 0 0 false, .int .i64 (e0 : Int)]) (by simp [results, Tryd.results22, go_sem, s0, s1, s2]) rfl ⟨?_, below3 HK5.out.1 (Nat.le_refl _)⟩
          rw [HQ.out]
          try rfl
      | true =>
        by_cases hw : r2 = wcon
        · have hwb : ((bstr r2).toList == ([99, 111, 110, 115, 116, 114, 117, 99, 116, 101, 100] : List UInt8)) = true := by rw [hw]; decide +kernel
          have hwb2 : ((bstr r2).toList != ([99, 111, 110, 115, 116, 114, 117, 99, 116, 101, 100] : List UInt8)) = false := by rw [hw]; decide +kernel
          have hpr : prs l = some (c, n, true) := by rw [HP.out, hcl, hnu]; exact if_neg (fun e => e.2 hw)
          obtain ⟨e0, he0⟩ : ∃ e0, chk c n true = e0 := ⟨_, rfl⟩
          have HX := Lib.hid he0
          by_cases hz : e0 = 0
          · have HQ := Lib.hid (show prsE l = (c, n, true, 0) by unfold prsE; rw [hpr]; exact if_neg (by rw [he0]; omega))
            subst hz
            clear hcl hnu hpr he0 hw
            go_enter Tryd.func22, Tryd.ntmps22
            go_wp2_with (first | (go_at_call 32; (with_reducible refine (cut_any l _ H8.out hl).mono ?_); rintro e w1 ⟨rfl, hb1⟩; rw [HC1.out]; have HK1 := Lib.hid (kp_step (kp_start w) hb1); clear hb1) | (go_at_call 32; (with_reducible refine (cut_any r1 _ HA1.out.2 hl1).mono ?_); rintro e w2 ⟨rfl, hb2⟩; rw [HC2.out]; have HK2 := Lib.hid (kp_step HK1.out hb2); clear hb2) | (go_at_call 33; refine (pclass_any n1 _ (HE.out.below HK2.out.1) HA1.out.1).mono ?_; rintro e w3 ⟨rfl, rfl⟩; rw [HCl.out]) | (go_at_call 34; refine (pnum_any n2 _ (HE.out.below HK2.out.1) HA2.out.1 hl2).mono ?_; rintro e w4 ⟨rfl, hb4⟩; rw [HNu.out]; have hk4 := kp_step HK2.out hb4; obtain ⟨r0, r1', r2', rf, hsz⟩ := kp_facts hk4; have f0 := rf 0; have f1 := rf 1; have f2 := rf 2; have HK4 := Lib.hid hk4; clear hb4 hk4 rf) | (go_at_call 11; refine (check_any c n true _ (by omega) (by omega)).mono ?_; rintro e w5 ⟨rfl, hb5⟩; rw [HX.out]; obtain ⟨q0, q1, q2, hsz5⟩ := tag_cells hb5; have hk5 := kp_step (kp_step HK4.out ((Below.refl _ _).alloc (Nat.le_refl _) _)) hb5; clear r0 r1' r2' f0 f1 f2; obtain ⟨r0, r1', r2', rf, hsz6⟩ := kp_facts hk5; have f0 := rf 0; have f1 := rf 1; have f2 := rf 2; have HK5 := Lib.hid hk5; clear hb5 hk5 rf))
            have HS := Lib.hid (set3 (a' := .int .u8 (c : Int)) (b' := .bool true) (c' := .int .u32 (n : Int)) HK5.out.2)
            have s0 := HS.out.cell 0
            have s1 := HS.out.cell 1
            have s2 := HS.out.cell 2
            simp only [List.getElem?_cons_zero, List.getElem?_cons_succ] at s0 s1 s2
            refine bodyPost_ret (v := .tuple #[tagV c n true, .int .i64 0]) (by simp [results, Tryd.results22, go_sem, s0, s1, s2]) rfl ⟨?_, below3 HK5.out.1 (Nat.le_refl _)⟩
            rw [HQ.out]
            try rfl
          · have HQ := Lib.hid (show prsE l = (0, 0, false, e0) by unfold prsE; rw [hpr]; exact (if_pos (by rw [he0]; exact hz)).trans (by rw [he0]))
            have hzb : ((e0 : Int) != 0) = true := by rw [bne_iff_ne]; omega
            clear hcl hnu hpr he0 hz hw
            go_enter Tryd.func22, Tryd.ntmps22
            go_wp2_with (first | (go_at_call 32; (with_reducible refine (cut_any l _ H8.out hl).mono ?_); rintro e w1 ⟨rfl, hb1⟩; rw [HC1.out]; have HK1 := Lib.hid (kp_step (kp_start w) hb1); clear hb1) | (go_at_call 32; (with_reducible refine (cut_any r1 _ HA1.out.2 hl1).mono ?_); rintro e w2 ⟨rfl, hb2⟩; rw [HC2.out]; have HK2 := Lib.hid (kp_step HK1.out hb2); clear hb2) | (go_at_call 33; refine (pclass_any n1 _ (HE.out.below HK2.out.1) HA1.out.1).mono ?_; rintro e w3 ⟨rfl, rfl⟩; rw [HCl.out]) | (go_at_call 34; refine (pnum_any n2 _ (HE.out.below HK2.out.1) HA2.out.1 hl2).mono ?_; rintro e w4 ⟨rfl, hb4⟩; rw [HNu.out]; have hk4 := kp_step HK2.out hb4; obtain ⟨r0, r1', r2', rf, hsz⟩ := kp_facts hk4; have f0 := rf 0; have f1 := rf 1; have f2 := rf 2; have HK4 := Lib.hid hk4; clear hb4 hk4 rf) | (go_at_call 11; refine (check_any c n true _ (by omega) (by omega)).mono ?_; rintro e w5 ⟨rfl, hb5⟩; rw [HX.out]; obtain ⟨q0, q1, q2, hsz5⟩ := tag_cells hb5; have hk5 := kp_step (kp_step HK4.out ((Below.refl _ _).alloc (Nat.le_refl _) _)) hb5; clear r0 r1' r2' f0 f1 f2; obtain ⟨r0, r1', r2', rf, hsz6⟩ := kp_facts hk5; have f0 := rf 0; have f1 := rf 1; have f2 := rf 2; have HK5 := Lib.hid hk5; clear hb5 hk5 rf))
            have HS := Lib.hid (set3 (a' := .int .u8 0) (b' := .bool false) (c' := .int .u32 0) HK5.out.2)
            have s0 := HS.out.cell 0
            have s1 := HS.out.cell 1
            have s2 := HS.out.cell 2
            simp only [List.getElem?_cons_zero, List.getElem?_cons_succ] at s0 s1 s2
            refine bodyPost_ret (v := .tuple #[tagV 0 0 false, .int .i64 (e0 : Int)]) (by simp [results, Tryd.results22, go_sem, s0, s1, s2]) rfl ⟨?_, below3 HK5.out.1 (Nat.le_refl _)⟩
            rw [HQ.out]
            try rfl
        · have hwb : ((bstr r2).toList == ([99, 111, 110, 115, 116, 114, 117, 99, 116, 101, 100] : List UInt8)) = false := by rw [← wcon_list]; exact bstr_ne HA2.out.2 wcon_all hw
          have hwb2 : ((bstr r2).toList != ([99, 111, 110, 115, 116, 114, 117, 99, 116, 101, 100] : List UInt8)) = true := by rw [← wcon_list]; exact bstr_ne' HA2.out.2 wcon_all hw
          have HQ := Lib.hid (show prsE l = (0, 0, false, 6) by unfold prsE; rw [HP.out, hcl, hnu]; simp only; rw [if_pos ⟨trivial, hw⟩])
          clear hcl hnu hw
          go_enter Tryd.func22, Tryd.ntmps22
          go_wp2_with (first | (go_at_call 32; (with_reducible refine (cut_any l _ H8.out hl).mono ?_); rintro e w1 ⟨rfl, hb1⟩; rw [HC1.out]; have HK1 := Lib.hid (kp_step (kp_start w) hb1); clear hb1) | (go_at_call 32; (with_reducible refine (cut_any r1 _ HA1.out.2 hl1).mono ?_); rintro e w2 ⟨rfl, hb2⟩; rw [HC2.out]; have HK2 := Lib.hid (kp_step HK1.out hb2); clear hb2) | (go_at_call 33; refine (pclass_any n1 _ (HE.out.below HK2.out.1) HA1.out.1).mono ?_; rintro e w3 ⟨rfl, rfl⟩; rw [HCl.out]) | (go_at_call 34; refine (pnum_any n2 _ (HE.out.below HK2.out.1) HA2.out.1 hl2).mono ?_; rintro e w4 ⟨rfl, hb4⟩; rw [HNu.out]; have hk4 := kp_step HK2.out hb4; obtain ⟨r0, r1', r2', rf, hsz⟩ := kp_facts hk4; have f0 := rf 0; have f1 := rf 1; have f2 := rf 2; have HK4 := Lib.hid hk4; clear hb4 hk4 rf))
          have HS := Lib.hid (set3 (a' := .int .u8 0) (b' := .bool false) (c' := .int .u32 0) HK4.out.2)
          have s0 := HS.out.cell 0
          have s1 := HS.out.cell 1
          have s2 := HS.out.cell 2
          simp only [List.getElem?_cons_zero, List.getElem?_cons_succ] at s0 s1 s2
          refine bodyPost_ret (v := .tuple #[tagV 0 0 false, .int .i64 6]) (by simp [results, Tryd.results22, go_sem, s0, s1, s2]) rfl ⟨?_, below3 HK4.out.1 (Nat.le_refl _)⟩
          rw [HQ.out]
          try rfl
end Go.Proofs.YtcaolgcpcjodnaaDoor
