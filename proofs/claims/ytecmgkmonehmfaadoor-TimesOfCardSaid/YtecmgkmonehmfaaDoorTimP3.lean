/-
  Layer 10, the statement TimesOf: elements are read as the definition says, with the first error; the examples hold.
  Conditions: the package-level variables that the row lists hold what the program's text lays (the card ties them).
-/
import Derived.Test.YtecmgkmonehmfaaDoorTimLi
import Derived.Test.YtecmgkmonehmfaaDoorTimRw
import Derived.Test.YtecmgkmonehmfaaDoorTimRr
namespace Go.Proofs.YtecmgkmonehmfaaDoor.Tim
open Go.RowKit Go.Shelf

/-- What Of answers. -/
def AnsO (c : Nat) (kf : Bool) (k : Nat) (l : List Nat) (M : Nat) (T : List Value) (f : Int) : Prop :=
  if layK c kf k = 0 then T = tL 0 0 0 0 0 0 ∧ f = 9 else if 0 < M then T = tL 0 0 0 0 0 0 ∧ f = 1 else AnsE k l T f
theorem lay_k {c : Nat} {kf : Bool} {k : Nat} (h : layK c kf k ≠ 0) : c = 0 ∧ kf = false ∧ (k = 23 ∨ k = 24) := by
  unfold layK at h
  by_cases h1 : c = 0 ∧ kf = false ∧ k = 23
  · exact ⟨h1.1, h1.2.1, .inl h1.2.2⟩
  · rw [if_neg h1] at h
    by_cases h2 : c = 0 ∧ kf = false ∧ k = 24
    · exact ⟨h2.1, h2.2.1, .inr h2.2.2⟩
    · rw [if_neg h2] at h; exact absurd rfl h
theorem AnsO.uniq {c : Nat} {kf : Bool} {k : Nat} {l : List Nat} {M : Nat} {T T2 : List Value} {f f2 : Int} (h : AnsO c kf k l M T f) (h2 : AnsO c kf k l M T2 f2) : T = T2 ∧ f = f2 := by
  unfold AnsO at h h2
  split at h
  · rename_i e
    rw [if_pos e] at h2
    exact ⟨h.1.trans h2.1.symm, h.2.trans h2.2.symm⟩
  · rename_i e
    rw [if_neg e] at h2
    split at h
    · rename_i e2
      rw [if_pos e2] at h2
      exact ⟨h.1.trans h2.1.symm, h.2.trans h2.2.symm⟩
    · rename_i e2
      rw [if_neg e2] at h2
      exact h.uniq (lay_k e).2.2 h2
theorem ansO_form {c : Nat} {kf : Bool} {k : Nat} {l : List Nat} {M : Nat} {T : List Value} {f : Int} (h : AnsO c kf k l M T f) : ∃ a0 a1 a2 a3 a4 a5 : Int, T = tL a0 a1 a2 a3 a4 a5 := by
  unfold AnsO at h
  split at h
  · exact ⟨_, _, _, _, _, _, h.1⟩
  · split at h
    · exact ⟨_, _, _, _, _, _, h.1⟩
    · rcases h with ⟨y, m, d, h, mi, s, _, rfl, _⟩ | ⟨_, rfl, _⟩
      · exact ⟨_, _, _, _, _, _, rfl⟩
      · exact ⟨_, _, _, _, _, _, rfl⟩
theorem tL_inj {a0 a1 a2 a3 a4 a5 b0 b1 b2 b3 b4 b5 : Int} (h : tL a0 a1 a2 a3 a4 a5 = tL b0 b1 b2 b3 b4 b5) : a0 = b0 ∧ a1 = b1 ∧ a2 = b2 ∧ a3 = b3 ∧ a4 = b4 ∧ a5 = b5 := by
  unfold tL at h
  simpa using h
theorem of_all (W : World) (c : Nat) (kf : Bool) (k : Nat) (l : List Nat) (A B : Option Addr) (N ca M cb : Nat) (hN : l.length = N) (h8 : All8 l) (hlm : l.length ≤ 1000000) (hA : Rd W A (cs8 l)) (hE : Env W) :
    Calls Tryd.prog 26 #[.agg (elF c kf k (.slice A N ca) (.slice B M cb)).toArray] W fun e w' => ∃ a0 a1 a2 a3 a4 a5 f : Int, e = .returned (.tuple #[tV a0 a1 a2 a3 a4 a5, .int .i64 f]) ∧ Hid (AnsO c kf k l M (tL a0 a1 a2 a3 a4 a5) f) ∧ Hid (Below W.heap.size W w') := by
  suffices h : Calls Tryd.prog 26 #[.agg (elF c kf k (.slice A N ca) (.slice B M cb)).toArray] W fun e w' => ∃ T f, AnsO c kf k l M T f ∧ e = .returned (.tuple #[.agg T.toArray, .int .i64 f]) ∧ Below W.heap.size W w' by
    refine h.mono fun _ _ ⟨T, f, h1, h2, h3⟩ => ?_
    obtain ⟨a0, a1, a2, a3, a4, a5, rfl⟩ := ansO_form h1
    exact ⟨a0, a1, a2, a3, a4, a5, f, h2, Lib.hid h1, Lib.hid h3⟩
  by_cases hk : layK c kf k = 0
  · exact (of_tag c kf k (.slice A N ca) B M cb hk W).mono fun _ _ ⟨h1, h2⟩ => ⟨_, _, by unfold AnsO; rw [if_pos hk]; exact ⟨rfl, rfl⟩, h1, h2⟩
  · by_cases hM : 0 < M
    · exact (of_subs c kf k (.slice A N ca) B M cb hk hM W).mono fun _ _ ⟨h1, h2⟩ => ⟨_, _, by unfold AnsO; rw [if_neg hk, if_pos hM]; exact ⟨rfl, rfl⟩, h1, h2⟩
    · obtain ⟨rfl, rfl, hk2⟩ := lay_k hk
      obtain rfl : M = 0 := by omega
      have hh : ∀ T f, AnsE k l T f → AnsO 0 false k l 0 T f := fun T f h => by unfold AnsO; rw [if_neg hk, if_neg hM]; exact h
      rcases hk2 with rfl | rfl
      · exact (of_ansU l N ca hN A B cb h8 hlm W hE ⟨hA, h8⟩).mono fun _ _ ⟨T, f, h1, h2, h3⟩ => ⟨T, f, hh _ _ h1, h2, h3⟩
      · exact (of_ansG l N ca hN A B cb h8 hlm W hE ⟨hA, h8⟩).mono fun _ _ ⟨T, f, h1, h2, h3⟩ => ⟨T, f, hh _ _ h1, h2, h3⟩
theorem rof_all (W : World) (c : Nat) (kf : Bool) (k : Nat) (l : List Nat) (A B : Option Addr) (N ca M cb : Nat) (hN : l.length = N) (h8 : All8 l) (hlm : l.length ≤ 1000000) (hA : Rd W A (cs8 l)) (hE : Env W) :
    Calls Tryd.prog 27 #[.agg (elF c kf k (.slice A N ca) (.slice B M cb)).toArray] W fun e w' => ∃ a0 a1 a2 a3 a4 a5 f : Int, e = .returned (.tuple #[tV a0 a1 a2 a3 a4 a5, .int .i64 f]) ∧ Hid (AnsO c kf k l M (tL a0 a1 a2 a3 a4 a5) f) ∧ Hid (Below W.heap.size W w') := by
  suffices h : Calls Tryd.prog 27 #[.agg (elF c kf k (.slice A N ca) (.slice B M cb)).toArray] W fun e w' => ∃ T f, AnsO c kf k l M T f ∧ e = .returned (.tuple #[.agg T.toArray, .int .i64 f]) ∧ Below W.heap.size W w' by
    refine h.mono fun _ _ ⟨T, f, h1, h2, h3⟩ => ?_
    obtain ⟨a0, a1, a2, a3, a4, a5, rfl⟩ := ansO_form h1
    exact ⟨a0, a1, a2, a3, a4, a5, f, h2, Lib.hid h1, Lib.hid h3⟩
  by_cases hk : layK c kf k = 0
  · exact (rof_tag c kf k A B N ca M cb hk W hE).mono fun _ _ ⟨h1, h2⟩ => ⟨_, _, by unfold AnsO; rw [if_pos hk]; exact ⟨rfl, rfl⟩, h1, h2⟩
  · by_cases hM : 0 < M
    · obtain ⟨rfl, rfl, hk2⟩ := lay_k hk
      exact (rof_subs k A B N ca M cb hk2 hM W hE).mono fun _ _ ⟨h1, h2⟩ => ⟨_, _, by unfold AnsO; rw [if_neg hk, if_pos hM]; exact ⟨rfl, rfl⟩, h1, h2⟩
    · obtain ⟨rfl, rfl, hk2⟩ := lay_k hk
      obtain rfl : M = 0 := by omega
      have hh : ∀ T f, AnsE k l T f → AnsO 0 false k l 0 T f := fun T f h => by unfold AnsO; rw [if_neg hk, if_neg hM]; exact h
      exact (rof_ans k hk2 l A B N ca cb hN h8 hlm W hA hE).mono fun _ _ ⟨T, f, h1, h2, h3⟩ => ⟨T, f, hh _ _ h1, h2, h3⟩
set_option linter.unusedSimpArgs false in
set_option linter.unusedVariables false in
set_option maxHeartbeats 6400000 in
set_option maxRecDepth 100000 in
theorem of_walk (c : Nat) (kf : Bool) (k : Nat) (A B : Option Addr) (l : List Nat) (N ca M cb : Nat) (hN : l.length = N) (h8 : All8 l) (hm : N ≤ maxLen) (w : World) (hA : Rd w A (cs8 l)) (hT : Env w) :
    Calls Tryd.prog 5 #[.agg (elF c kf k (.slice A N ca) (.slice B M cb)).toArray] w fun e w' => e = .returned (.bool true) ∧ Below w.heap.size w w' := by
  have K0 := ka (Lib.hid (St.start hT)) (Lib.hid hA)
  have H8 := Lib.hid h8
  have HN := Lib.hid hN
  by_cases hb : 60 < N
  · have e1 : decide ((60 : Int) < (N : Int)) = true := by rw [decide_eq_true_eq]; omega
    have e2 : (60 : Int) < (N : Int) := by omega
    clear hT h8 hN hb hm hA
    go_enter Tryd.func5, Tryd.ntmps5
    go_upto_region 1 with fail
    obtain ⟨g1, hg1⟩ : ∃ g, w.heap.size = g := ⟨_, rfl⟩
    obtain ⟨w1, hw1⟩ : ∃ v, w.alloc (.cells (elF c kf k (.slice A N ca) (.slice B M cb)).toArray 37) = v := ⟨_, rfl⟩
    have hbk : Hid (Bk w1 g1 37 (elF c kf k (.slice A N ca) (.slice B M cb))) := Lib.hid (by rw [← hw1, ← hg1]; exact Bk.new w _ (elF c kf k (.slice A N ca) (.slice B M cb)))
    have hb : Hid (Below w.heap.size w w1) := Lib.hid (by rw [← hw1]; exact bel1 w _)
    have GE_g1 : Hid (w.heap.size ≤ g1) := Lib.hid (by rw [← hg1]; exact K0.out.b.size)
    rw [hw1, hg1]
    have K1 := kp K0 hb
    clear hb K0
    have Kn := kb K1 hbk
    clear hbk K1 hg1 hw1
    have K1 := Kn
    clear Kn
    have c_g1_3 : w1.cell? ⟨g1, 3, none⟩ = some (.slice A N ca) := by rw [(K1.out.k (g1, 37, elF c kf k (.slice A N ca) (.slice B M cb)) (by simp)).cell]; rfl
    go_wp2_with fail
    refine (lives_at w1 K1.out.t).mono ?_
    rintro e w2 ⟨rfl, hb⟩
    have K2 := kp K1 hb
    clear hb K1
    go_wp2_with fail
    go_ret
    exact ⟨rfl, K2.out.b⟩
  · have e1 : decide ((60 : Int) < (N : Int)) = false := by rw [decide_eq_false_iff_not]; omega
    have e2 : ¬ (60 : Int) < (N : Int) := by omega
    have HLM : Hid (l.length ≤ 1000000) := Lib.hid (by omega)
    clear hT h8 hN hb hm hA
    go_enter Tryd.func5, Tryd.ntmps5
    go_upto_region 1 with fail
    obtain ⟨g1, hg1⟩ : ∃ g, w.heap.size = g := ⟨_, rfl⟩
    obtain ⟨w1, hw1⟩ : ∃ v, w.alloc (.cells (elF c kf k (.slice A N ca) (.slice B M cb)).toArray 37) = v := ⟨_, rfl⟩
    have hbk : Hid (Bk w1 g1 37 (elF c kf k (.slice A N ca) (.slice B M cb))) := Lib.hid (by rw [← hw1, ← hg1]; exact Bk.new w _ (elF c kf k (.slice A N ca) (.slice B M cb)))
    have hb : Hid (Below w.heap.size w w1) := Lib.hid (by rw [← hw1]; exact bel1 w _)
    have GE_g1 : Hid (w.heap.size ≤ g1) := Lib.hid (by rw [← hg1]; exact K0.out.b.size)
    rw [hw1, hg1]
    have K1 := kp K0 hb
    clear hb K0
    have Kn := kb K1 hbk
    clear hbk K1 hg1 hw1
    have K1 := Kn
    clear Kn
    have c_g1_3 : w1.cell? ⟨g1, 3, none⟩ = some (.slice A N ca) := by rw [(K1.out.k (g1, 37, elF c kf k (.slice A N ca) (.slice B M cb)) (by simp)).cell]; rfl
    go_wp2_with (refine wpList_loadGg (by rfl) (.tmp 1) rfl rfl (rangeB (K1.out.k (g1, 37, elF c kf k (.slice A N ca) (.slice B M cb)) (by simp))) Tryd.underlying37 rfl infoEl ?_)
    refine (of_all w1 c kf k l A B N ca M cb HN.out H8.out HLM.out (K1.out.r (A, cs8 l) (by simp)) K1.out.t).mono ?_
    rintro e w2 ⟨a0, a1, a2, a3, a4, a5, f, rfl, ha, hb⟩
    have K2 := kp K1 hb
    clear hb K1
    clear c_g1_3
    go_upto_region 4 with fail
    obtain ⟨g3, hg3⟩ : ∃ g, w2.heap.size = g := ⟨_, rfl⟩
    obtain ⟨w3, hw3⟩ : ∃ v, w2.alloc (.cells #[.int .i64 a0, .int .i64 a1, .int .i64 a2, .int .i64 a3, .int .i64 a4, .int .i64 a5] 23) = v := ⟨_, rfl⟩
    have hbk : Hid (Bk w3 g3 23 (tL a0 a1 a2 a3 a4 a5)) := Lib.hid (by rw [← hw3, ← hg3]; exact Bk.new w2 _ (tL a0 a1 a2 a3 a4 a5))
    have hb : Hid (Below w2.heap.size w2 w3) := Lib.hid (by rw [← hw3]; exact bel1 w2 _)
    have GE_g3 : Hid (w.heap.size ≤ g3) := Lib.hid (by rw [← hg3]; exact K2.out.b.size)
    rw [hw3, hg3]
    have K3 := kp K2 hb
    clear hb K2
    have Kn := kb K3 hbk
    clear hbk K3 hg3 hw3
    have K3 := Kn
    clear Kn
    go_wp2_with (refine wpList_loadGg (by rfl) (.tmp 1) rfl rfl (rangeB (K3.out.k (g1, 37, elF c kf k (.slice A N ca) (.slice B M cb)) (by simp))) Tryd.underlying37 rfl infoEl ?_)
    refine (rof_all w3 c kf k l A B N ca M cb HN.out H8.out HLM.out (K3.out.r (A, cs8 l) (by simp)) K3.out.t).mono ?_
    rintro e w4 ⟨b0, b1, b2, b3, b4, b5, f2, rfl, hb2, hb⟩
    have K4 := kp K3 hb
    clear hb K3
    obtain ⟨rfl, rfl, rfl, rfl, rfl, rfl⟩ := tL_inj (ha.out.uniq hb2.out).1
    obtain rfl := (ha.out.uniq hb2.out).2
    clear hb2
    have heq := fun W => eqlTs a0 a1 a2 a3 a4 a5 W
    have hff : (f == f) = true := by rw [beq_iff_eq]
    go_upto_region 5 with fail
    obtain ⟨g5, hg5⟩ : ∃ g, w4.heap.size = g := ⟨_, rfl⟩
    obtain ⟨w5, hw5⟩ : ∃ v, w4.alloc (.cells #[.int .i64 a0, .int .i64 a1, .int .i64 a2, .int .i64 a3, .int .i64 a4, .int .i64 a5] 23) = v := ⟨_, rfl⟩
    have hbk : Hid (Bk w5 g5 23 (tL a0 a1 a2 a3 a4 a5)) := Lib.hid (by rw [← hw5, ← hg5]; exact Bk.new w4 _ (tL a0 a1 a2 a3 a4 a5))
    have hb : Hid (Below w4.heap.size w4 w5) := Lib.hid (by rw [← hw5]; exact bel1 w4 _)
    have GE_g5 : Hid (w.heap.size ≤ g5) := Lib.hid (by rw [← hg5]; exact K4.out.b.size)
    rw [hw5, hg5]
    have K5 := kp K4 hb
    clear hb K4
    have Kn := kb K5 hbk
    clear hbk K5 hg5 hw5
    have K5 := Kn
    clear Kn
    go_wp2_with (first | (refine wpList_loadGg (by rfl) (.tmp 3) rfl rfl (rangeB (K5.out.k (g3, 23, tL a0 a1 a2 a3 a4 a5) (by simp))) Tryd.underlying23 rfl infoTm ?_) | (refine wpList_loadGg (by rfl) (.tmp 5) rfl rfl (rangeB (K5.out.k (g5, 23, tL a0 a1 a2 a3 a4 a5) (by simp))) Tryd.underlying23 rfl infoTm ?_))
    refine (lives_at w5 K5.out.t).mono ?_
    rintro e w6 ⟨rfl, hb⟩
    have K6 := kp K5 hb
    clear hb K5
    go_wp2_with fail
    go_ret
    exact ⟨rfl, K6.out.b⟩

open Go.ChangeShapes Go.WideShapes Go.ChangeAt Go.WideMaps Go.WideElems
set_option maxRecDepth 100000 in
theorem timesOf_lifted (os : Os) (started : os.Started) (H : Type) (enc : TypeId × Value → H) :
    ReturnsInHanded {} Tryd.checked os 5 .any (fun w args => (Rows.timesOfSpec.pre enc Tryd.prog Tryd.f5 [] false w args ∧ laidMetH Tryd.prog laidL w) ∧ sizedMet enc Tryd.prog Tryd.f5 (OpenSpec.ofChange Rows.timesOfSpec) false w args)
      (Rows.timesOfSpec.post enc Tryd.prog Tryd.f5 false true false false) := by
  refine returnsInHanded_of_change_and (C := Tryd.checked) (X := fun w _ => laidMetH Tryd.prog laidL w) (fun _ _ _ hh h => h.of_heap hh) x_own started (by kernel_rfl) Tryd.func5
    (ChangeSpec.witness_shaped (enc := enc) (C := Tryd.checked) (os := os) (X := fun w _ => laidMetH Tryd.prog laidL w) false (World.laidAll Tryd.prog os laidL) #[.agg #[.int .u8 0, .bool false, .int .u32 0, .slice none 0 0, .slice none 0 0]] 8 (World.laidAll_os _ _ _) (World.shaped_of_ZipB (by kernel_rfl) (by kernel_rfl)) (by kernel_rfl) (by kernel_rfl) (by kernel_rfl) (door_met os _)) ?_
  intro W base args ds gs before hval0 hW _ _ hL _
  have hval : ∀ (j : Nat) t v, Tryd.f5.params[j]? = some t → args[j]? = some v → Value.okWide Tryd.prog W .any base t v := hval0
  have hW' := hW
  obtain ⟨p, q, hA0, hV, rfl, hfz, hnd⟩ := hW
  have hA : DataW.TrodAll enc Tryd.prog W 0 (fun _ => true) true Tryd.f5.params.toList args.toList ds p := hA0
  rw [Tryd.params5] at hA hval
  obtain ⟨v0, d0, rfl, rfl, h0⟩ := trodAll_one hA
  obtain ⟨rfl, rfl⟩ := trodVars_none hV
  obtain ⟨c, k, kf, A, B, l, ca, M, cb, rfl, _, _, hR, hlc, hcm⟩ := open_elem (hval 0 _ v0 rfl rfl) h0
  have hE := of_laid hL
  clear hA0 hval0
  simp only [List.append_nil] at hW'
  refine (of_walk c kf k A B l l.length ca M cb rfl hR.2 (Nat.le_trans hlc hcm) W hR.1 hE).mono fun e W' ⟨he, hb⟩ => ?_
  subst he
  exact ⟨_, rfl, law_post (tb := 4) x_laid (by decide +kernel) rfl rfl (by kernel_rfl) Tryd.underlying4 hW' hb⟩

/-- The row's statement. -/
theorem timesOf_row : Rows.TimesOfSaid :=
  OpenClaim.holds_of_wide 5 Tryd.f5 rfl rfl rfl rfl rfl rfl rfl ⟨rfl, rfl, rfl, rfl, rfl⟩ rfl rfl rfl rfl rfl (by kernel_rfl) Tryd.func5 (by kernel_rfl)
    (of_decide_eq_true (by kernel_rfl)) (by unfold Func.isWrapper; first | (rw [if_pos (by decide +kernel)]; kernel_rfl) | (rw [if_neg (by decide +kernel)]; exact ⟨rfl, rfl⟩))
    (fun os started H enc _ => timesOf_lifted os started H enc)

/-- The statement: the card. -/
theorem timesOf_holds : Rows.TimesOfCardSaid :=
  Claim7.holds_tied_plain_at .later [] [.data] true Rows.timesOfCard.stood.harness Rows.timesOfCard.stood.looks
    timesOf_row (fun _ h => by cases h) (by kernel_rfl) (fun _ h => by cases h) timesOf_row_tie rfl ⟨rfl, rfl⟩ (by kernel_rfl) rfl
    (fun f fn hf hfn => by
      obtain rfl : f = 5 := Option.some.inj ((show Tryd.prog.funcNamed "vidimus/vidimuslaw10.TimesOf" = some 5 by kernel_rfl).symm.trans hf) |>.symm
      obtain rfl : fn = Tryd.f5 := (Option.some.inj (Tryd.func5.symm.trans hfn)).symm
      exact ⟨by kernel_rfl, fun j t ht => by
        rw [Tryd.params5] at ht
        have hm : t ∈ Tryd.f5.params.toList := by rw [Tryd.params5]; exact Array.mem_toList_iff.2 (Array.mem_of_getElem? ht)
        have hall : (Tryd.f5.params.toList.all fun u => !Tryd.prog.wantsStandIn u) = true := by kernel_rfl
        exact (show Tryd.prog.wantsStandIn t = false by simpa using List.all_eq_true.1 hall t hm)⟩)
    (by kernel_rfl)
end Go.Proofs.YtecmgkmonehmfaaDoor.Tim
