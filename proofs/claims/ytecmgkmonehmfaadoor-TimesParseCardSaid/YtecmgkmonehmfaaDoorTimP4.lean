/-
  Layer 10, the statement TimesParse: texts are read as the definition says; other strings are refused; the examples hold.
  Conditions: the package-level variables that the row lists hold what the program's text lays (the card ties them).
-/
import Derived.Test.YtecmgkmonehmfaaDoorTimLi
import Derived.Test.YtecmgkmonehmfaaDoorTimRw
namespace Go.Proofs.YtecmgkmonehmfaaDoor.Tim
open Go.RowKit Go.Shelf

theorem ansX_form {l : List Nat} {T : List Value} {f : Int} (h : AnsX l T f) : ∃ a0 a1 a2 a3 a4 a5 : Int, T = tL a0 a1 a2 a3 a4 a5 := by
  rcases h with ⟨y, m, d, h, mi, s, _, rfl, _⟩ | ⟨_, rfl, _⟩
  · exact ⟨_, _, _, _, _, _, rfl⟩
  · exact ⟨_, _, _, _, _, _, rfl⟩
theorem rparse_at (W : World) (l : List Nat) (h8 : All8 l) (hlm : l.length ≤ 1000000) (S : ByteArray) (hS : bstr l = S) :
    Calls Tryd.prog 28 #[.string S] W fun e w' => ∃ a0 a1 a2 a3 a4 a5 f : Int, e = .returned (.tuple #[tV a0 a1 a2 a3 a4 a5, .int .i64 f]) ∧ Hid (AnsX l (tL a0 a1 a2 a3 a4 a5) f) ∧ Hid (Below W.heap.size W w') := by
  subst hS
  refine (rparse_ans l h8 hlm W).mono fun _ _ ⟨T, f, h1, h2, h3⟩ => ?_
  obtain ⟨a0, a1, a2, a3, a4, a5, rfl⟩ := ansX_form h1
  exact ⟨a0, a1, a2, a3, a4, a5, f, h2, Lib.hid h1, Lib.hid h3⟩
set_option linter.unusedSimpArgs false in
set_option linter.unusedVariables false in
set_option maxHeartbeats 6400000 in
set_option maxRecDepth 100000 in
theorem parse_walk (l : List Nat) (h8 : All8 l) (hlm : l.length ≤ maxLen) (w : World) (hT : Env w) :
    Calls Tryd.prog 6 #[.string (bstr l)] w fun e w' => e = .returned (.bool true) ∧ Below w.heap.size w w' := by
  have K0 := Lib.hid (St.start hT)
  have hsz := bstr_size l
  obtain ⟨S, hS⟩ : ∃ S, bstr l = S := ⟨_, rfl⟩
  rw [hS] at hsz ⊢
  have H8 := Lib.hid h8
  have HS := Lib.hid hS
  have HL : Hid (l.length ≤ 60 → l.length ≤ 1000000) := Lib.hid (fun h => by omega)
  have hlm2 : l.length ≤ 9223372036854775807 := hlm
  obtain ⟨N, hN⟩ : ∃ N, l.length = N := ⟨_, rfl⟩
  rw [hN] at hsz hlm2
  have HN := Lib.hid hN
  by_cases hb : 60 < N
  · have e1 : decide ((60 : Int) < (N : Int)) = true := by rw [decide_eq_true_eq]; omega
    have e2 : (60 : Int) < (N : Int) := by omega
    clear hT h8 hlm hS hN hb hlm2
    go_enter Tryd.func6, Tryd.ntmps6
    go_wp2_with fail
    refine (lives_at w K0.out.t).mono ?_
    rintro e w1 ⟨rfl, hb⟩
    have K1 := kp K0 hb
    clear hb K0
    go_wp2_with fail
    go_ret
    exact ⟨rfl, K1.out.b⟩
  · have e1 : decide ((60 : Int) < (N : Int)) = false := by rw [decide_eq_false_iff_not]; omega
    have e2 : ¬ (60 : Int) < (N : Int) := by omega
    have HLM : Hid (l.length ≤ 1000000) := Lib.hid (by omega)
    clear hT h8 hlm hS hN hb hlm2 HL
    go_enter Tryd.func6, Tryd.ntmps6
    go_wp2_with fail
    refine (rparse_at w l H8.out HLM.out S HS.out).mono ?_
    rintro e w1 ⟨a0, a1, a2, a3, a4, a5, f, rfl, ha, hb⟩
    have K1 := kp K0 hb
    clear hb K0
    go_upto_region 4 with fail
    obtain ⟨g3, hg3⟩ : ∃ g, w1.heap.size = g := ⟨_, rfl⟩
    obtain ⟨w2, hw2⟩ : ∃ v, w1.alloc (.cells #[.int .i64 a0, .int .i64 a1, .int .i64 a2, .int .i64 a3, .int .i64 a4, .int .i64 a5] 23) = v := ⟨_, rfl⟩
    have hbk : Hid (Bk w2 g3 23 (tL a0 a1 a2 a3 a4 a5)) := Lib.hid (by rw [← hw2, ← hg3]; exact Bk.new w1 _ (tL a0 a1 a2 a3 a4 a5))
    have hb : Hid (Below w1.heap.size w1 w2) := Lib.hid (by rw [← hw2]; exact bel1 w1 _)
    have GE_g3 : Hid (w.heap.size ≤ g3) := Lib.hid (by rw [← hg3]; exact K1.out.b.size)
    rw [hw2, hg3]
    have K2 := kp K1 hb
    clear hb K1
    have Kn := kb K2 hbk
    clear hbk K2 hg3 hw2
    have K2 := Kn
    clear Kn
    go_wp2_with (refine wpList_loadGg (by rfl) (.tmp 3) rfl rfl (rangeB (K2.out.k (g3, 23, tL a0 a1 a2 a3 a4 a5) (by simp))) Tryd.underlying23 rfl infoTm ?_)
    refine (parsed_at w2 l H8.out HLM.out S HS.out a0 a1 a2 a3 a4 a5 f ha.out K2.out.t).mono ?_
    rintro e w3 ⟨rfl, hb⟩
    have K3 := kp K2 hb
    clear hb K2
    go_wp2_with fail
    refine (lives_at w3 K3.out.t).mono ?_
    rintro e w4 ⟨rfl, hb⟩
    have K4 := kp K3 hb
    clear hb K3
    go_wp2_with fail
    go_ret
    exact ⟨rfl, K4.out.b⟩

open Go.ChangeShapes Go.WideShapes Go.ChangeAt Go.WideMaps Go.WideElems
set_option maxRecDepth 100000 in
theorem timesParse_lifted (os : Os) (started : os.Started) (H : Type) (enc : TypeId × Value → H) :
    ReturnsInHanded {} Tryd.checked os 6 .any (fun w args => (Rows.timesParseSpec.pre enc Tryd.prog Tryd.f6 [] false w args ∧ laidMetH Tryd.prog laidL w) ∧ sizedMet enc Tryd.prog Tryd.f6 (OpenSpec.ofChange Rows.timesParseSpec) false w args)
      (Rows.timesParseSpec.post enc Tryd.prog Tryd.f6 false true false false) := by
  refine returnsInHanded_of_change_and (C := Tryd.checked) (X := fun w _ => laidMetH Tryd.prog laidL w) (fun _ _ _ hh h => h.of_heap hh) x_own started (by kernel_rfl) Tryd.func6
    (ChangeSpec.witness_shaped (enc := enc) (C := Tryd.checked) (os := os) (X := fun w _ => laidMetH Tryd.prog laidL w) false (World.laidAll Tryd.prog os laidL) #[.string ⟨#[]⟩] 8 (World.laidAll_os _ _ _) (World.shaped_of_ZipB (by kernel_rfl) (by kernel_rfl)) (by kernel_rfl) (by kernel_rfl) (by kernel_rfl) (door_met os _)) ?_
  intro W base args ds gs before hval0 hW _ _ hL _
  have hval : ∀ (j : Nat) t v, Tryd.f6.params[j]? = some t → args[j]? = some v → Value.okWide Tryd.prog W .any base t v := hval0
  have hW' := hW
  obtain ⟨p, q, hA0, hV, rfl, hfz, hnd⟩ := hW
  have hA : DataW.TrodAll enc Tryd.prog W 0 (fun _ => true) true Tryd.f6.params.toList args.toList ds p := hA0
  rw [Tryd.params6] at hA hval
  obtain ⟨v0, d0, rfl, rfl, h0⟩ := trodAll_one hA
  obtain ⟨rfl, rfl⟩ := trodVars_none hV
  obtain ⟨l, rfl, h8, hlm⟩ := open_str (hval 0 _ v0 rfl rfl) h0
  have hE := of_laid hL
  clear hA0 hval0
  simp only [List.append_nil] at hW'
  refine (parse_walk l h8 hlm W hE).mono fun e W' ⟨he, hb⟩ => ?_
  subst he
  exact ⟨_, rfl, law_post (tb := 4) x_laid (by decide +kernel) rfl rfl (by kernel_rfl) Tryd.underlying4 hW' hb⟩

/-- The row's statement. -/
theorem timesParse_row : Rows.TimesParseSaid :=
  OpenClaim.holds_of_wide 6 Tryd.f6 rfl rfl rfl rfl rfl rfl rfl ⟨rfl, rfl, rfl, rfl, rfl⟩ rfl rfl rfl rfl rfl (by kernel_rfl) Tryd.func6 (by kernel_rfl)
    (of_decide_eq_true (by kernel_rfl)) (by unfold Func.isWrapper; first | (rw [if_pos (by decide +kernel)]; kernel_rfl) | (rw [if_neg (by decide +kernel)]; exact ⟨rfl, rfl⟩))
    (fun os started H enc _ => timesParse_lifted os started H enc)

/-- The statement: the card. -/
theorem timesParse_holds : Rows.TimesParseCardSaid :=
  Claim7.holds_tied_plain_at .later [] [.data] true Rows.timesParseCard.stood.harness Rows.timesParseCard.stood.looks
    timesParse_row (fun _ h => by cases h) (by kernel_rfl) (fun _ h => by cases h) timesParse_row_tie rfl ⟨rfl, rfl⟩ (by kernel_rfl) rfl
    (fun f fn hf hfn => by
      obtain rfl : f = 6 := Option.some.inj ((show Tryd.prog.funcNamed "vidimus/vidimuslaw10.TimesParse" = some 6 by kernel_rfl).symm.trans hf) |>.symm
      obtain rfl : fn = Tryd.f6 := (Option.some.inj (Tryd.func6.symm.trans hfn)).symm
      exact ⟨by kernel_rfl, fun j t ht => by
        rw [Tryd.params6] at ht
        have hm : t ∈ Tryd.f6.params.toList := by rw [Tryd.params6]; exact Array.mem_toList_iff.2 (Array.mem_of_getElem? ht)
        have hall : (Tryd.f6.params.toList.all fun u => !Tryd.prog.wantsStandIn u) = true := by kernel_rfl
        exact (show Tryd.prog.wantsStandIn t = false by simpa using List.all_eq_true.1 hall t hm)⟩)
    (by kernel_rfl)
end Go.Proofs.YtecmgkmonehmfaaDoor.Tim
