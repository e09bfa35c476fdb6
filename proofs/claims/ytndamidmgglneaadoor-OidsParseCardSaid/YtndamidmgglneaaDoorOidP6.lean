/-
  Layer 6, the statement OidsParse: Parse accepts exactly the dotted forms of valid OIDs; Text returns the string again.
  Conditions: the package-level variables that the row lists hold what the program's text lays (the card ties them).
-/
import Derived.Test.YtndamidmgglneaaDoorOidY
import Derived.Test.YtndamidmgglneaaDoorOidPz
import Derived.Test.YtndamidmgglneaaDoorOidPq
namespace Go.Proofs.YtndamidmgglneaaDoor
open Go.RowKit

set_option maxHeartbeats 1000000 in
set_option maxRecDepth 100000 in
theorem parse_long (S : ByteArray) (w : World) (hE : Env w) (hl : 250 < S.size) :
    Calls Tryd.prog 3 #[.string S] w fun e w' => e = .returned (.bool true) ∧ Below w.heap.size w w' := by
  have B0 := Lib.hid (Below.refl w.heap.size w)
  have E0 := Lib.hid hE
  clear hE
  go_enter Tryd.func3, Tryd.ntmps3
  go_wp2_with fail
  refine (lives_any _ (E0.out.below B0.out)).mono ?_
  rintro e w1 ⟨rfl, hb⟩
  have B1 := bt B0 (Lib.hid hb)
  clear hb B0
  go_wp2_with fail
  go_ret
  exact ⟨rfl, B1.out⟩
set_option maxHeartbeats 2000000 in
set_option maxRecDepth 100000 in
theorem parse_bad (l : List Nat) (n : Nat) (k : List Nat) (f : Nat) (w : World) (hE : Env w) (h8 : All8 l) (hl : l.length ≤ 250) (hq : prsO l = (n, k, f)) (hk : k.length = 16) (hf : f ≠ 0) :
    Calls Tryd.prog 3 #[.string (bstr l)] w fun e w' => e = .returned (.bool true) ∧ Below w.heap.size w w' := by
  have hz := zero25
  obtain ⟨zl, hzl⟩ : ∃ zl, zeroL = zl := ⟨_, rfl⟩
  have HZL : Hid (zl.length = 16) := Lib.hid (by rw [← hzl]; exact zeroL_length)
  rw [hzl] at hz
  clear hzl
  have B0 := Lib.hid (Below.refl w.heap.size w)
  have E0 := Lib.hid hE
  have C1 := Lib.hid (by have := rparse_any l h8 hl w; rw [hq] at this; exact this : Calls Tryd.prog 7 #[.string (bstr l)] w (GiveG w (n, k, f)))
  have C2 := Lib.hid (fun W hE => parsed_ok l h8 (by omega) n k f W hE hk hq)
  have hsz : (bstr l).size ≤ 250 := by rw [bstr_size]; exact hl
  have hfb : ((f : Int) != 0) = true := by rw [bne_iff_ne]; omega
  clear hq hE h8 hl
  generalize bstr l = S at *
  go_enter Tryd.func3, Tryd.ntmps3
  go_upto_region 4 with (first
    | (go_at_call 7; refine C1.out.mono ?_; rintro e w1 ⟨rfl, hb⟩; have B1 := bt B0 (Lib.hid hb); clear hb B0; have hsz1 := B1.out.size)
    | (refine wpList_store25 rfl (.tmp 3) (.tmp 12) rfl (n := n) (l := k) rfl rfl (Bk.new w1 26 (oc 0 zl)) (by rw [oc_length, HZL.out]) hk ?_; intro w2 V2 hg2 hz2; have SS := Lib.hid V2; have B2 := Lib.hid ((B1.out.alloc B1.out.size (.cells (oc 0 zl).toArray 26)).grown hg2 (B1.out.alloc B1.out.size (.cells (oc 0 zl).toArray 26)).size (fun k e => by injection e with e; omega)); clear V2 hg2 hz2))
  clear B1
  go_wp2_with (refine wpList_load25g (by rfl) (.tmp 3) rfl rfl SS.out hk ?_)
  refine (C2.out _ (E0.out.below B2.out)).mono ?_
  rintro e w3 ⟨rfl, hb⟩
  have B3 := bt B2 (Lib.hid hb)
  have SSn := kt SS (Lib.hid hb)
  clear SS
  have SS := SSn
  clear SSn
  clear hb B2
  go_wp2_with (refine wpList_load25g (by rfl) (.tmp 3) rfl rfl SS.out hk ?_)
  refine (lives_any _ (E0.out.below B3.out)).mono ?_
  rintro e w4 ⟨rfl, hb⟩
  have B4 := bt B3 (Lib.hid hb)
  have SSn := kt SS (Lib.hid hb)
  clear SS
  have SS := SSn
  clear SSn
  clear hb B3
  go_wp2_with (refine wpList_load25g (by rfl) (.tmp 3) rfl rfl SS.out hk ?_)
  go_ret
  exact ⟨rfl, B4.out⟩
set_option maxHeartbeats 2000000 in
set_option maxRecDepth 100000 in
theorem parse_good (l : List Nat) (n : Nat) (k : List Nat) (f : Nat) (w : World) (hE : Env w) (h8 : All8 l) (hl : l.length ≤ 250) (hq : prsO l = (n, k, f)) (hk : k.length = 16) (hf : f = 0) (ho : OkO n k) (ht : txO n k = l) :
    Calls Tryd.prog 3 #[.string (bstr l)] w fun e w' => e = .returned (.bool true) ∧ Below w.heap.size w w' := by
  have hz := zero25
  obtain ⟨zl, hzl⟩ : ∃ zl, zeroL = zl := ⟨_, rfl⟩
  have HZL : Hid (zl.length = 16) := Lib.hid (by rw [← hzl]; exact zeroL_length)
  rw [hzl] at hz
  clear hzl
  have B0 := Lib.hid (Below.refl w.heap.size w)
  have E0 := Lib.hid hE
  have C1 := Lib.hid (by have := rparse_any l h8 hl w; rw [hq] at this; exact this : Calls Tryd.prog 7 #[.string (bstr l)] w (GiveG w (n, k, f)))
  have C2 := Lib.hid (fun W hE => parsed_ok l h8 (by omega) n k f W hE hk hq)
  have hsz : (bstr l).size ≤ 250 := by rw [bstr_size]; exact hl
  subst hf
  have C3 := Lib.hid (fun W hE => (by have := text_any n k W ho hE; rw [ht] at this; exact this : Calls Tryd.prog 9 #[oV n k] W (GiveT W l)))
  unfold GiveT at C3
  have hself := bstr_self (bstr l)
  clear hq hE h8 hl ho ht
  generalize bstr l = S at *
  go_enter Tryd.func3, Tryd.ntmps3
  go_upto_region 4 with (first
    | (go_at_call 7; refine C1.out.mono ?_; rintro e w1 ⟨rfl, hb⟩; have B1 := bt B0 (Lib.hid hb); clear hb B0; have hsz1 := B1.out.size)
    | (refine wpList_store25 rfl (.tmp 3) (.tmp 12) rfl (n := n) (l := k) rfl rfl (Bk.new w1 26 (oc 0 zl)) (by rw [oc_length, HZL.out]) hk ?_; intro w2 V2 hg2 hz2; have SS := Lib.hid V2; have B2 := Lib.hid ((B1.out.alloc B1.out.size (.cells (oc 0 zl).toArray 26)).grown hg2 (B1.out.alloc B1.out.size (.cells (oc 0 zl).toArray 26)).size (fun k e => by injection e with e; omega)); clear V2 hg2 hz2))
  clear B1
  go_wp2_with (refine wpList_load25g (by rfl) (.tmp 3) rfl rfl SS.out hk ?_)
  refine (C2.out _ (E0.out.below B2.out)).mono ?_
  rintro e w3 ⟨rfl, hb⟩
  have B3 := bt B2 (Lib.hid hb)
  have SSn := kt SS (Lib.hid hb)
  clear SS
  have SS := SSn
  clear SSn
  clear hb B2
  go_wp2_with (refine wpList_load25g (by rfl) (.tmp 3) rfl rfl SS.out hk ?_)
  refine (C3.out _ (E0.out.below B3.out)).mono ?_
  rintro e w4 ⟨rfl, hb⟩
  have B4 := bt B3 (Lib.hid hb)
  have SSn := kt SS (Lib.hid hb)
  clear SS
  have SS := SSn
  clear SSn
  clear hb B3
  go_wp2_with (refine wpList_load25g (by rfl) (.tmp 3) rfl rfl SS.out hk ?_)
  refine (lives_any _ (E0.out.below B4.out)).mono ?_
  rintro e w5 ⟨rfl, hb⟩
  have B5 := bt B4 (Lib.hid hb)
  have SSn := kt SS (Lib.hid hb)
  clear SS
  have SS := SSn
  clear SSn
  clear hb B4
  go_wp2_with (refine wpList_load25g (by rfl) (.tmp 3) rfl rfl SS.out hk ?_)
  go_ret
  exact ⟨rfl, B5.out⟩
theorem prsO_bad {l : List Nat} {n : Nat} {k : List Nat} {f : Nat} (h : prsO l = (n, k, f)) (hf : f ≠ 0) : n = 0 ∧ k = zeroL := by
  unfold prsO at h
  split at h
  · simp only [Prod.mk.injEq] at h; exact ⟨h.1.symm, h.2.1.symm⟩
  · split at h
    · simp only [Prod.mk.injEq] at h; exact ⟨h.1.symm, h.2.1.symm⟩
    · split at h
      · simp only [Prod.mk.injEq] at h; exact absurd h.2.2.symm hf
      · simp only [Prod.mk.injEq] at h; exact ⟨h.1.symm, h.2.1.symm⟩
theorem parse_walk (S : ByteArray) (w : World) (hE : Env w) :
    Calls Tryd.prog 3 #[.string S] w fun e w' => e = .returned (.bool true) ∧ Below w.heap.size w w' := by
  rcases Nat.lt_or_ge 250 S.size with h | h
  · exact parse_long S w hE h
  · obtain ⟨l, rfl, h8⟩ := bstr_of S
    rw [bstr_size] at h
    obtain ⟨⟨n, k, f⟩, hq⟩ : ∃ r, prsO l = r := ⟨_, rfl⟩
    by_cases hf : f = 0
    · subst hf
      obtain ⟨h1, h2, h3⟩ := txt_prs hq
      exact parse_good l n k 0 w hE h8 h hq h1.len rfl h1 h3
    · obtain ⟨rfl, rfl⟩ := prsO_bad hq hf
      exact parse_bad l 0 zeroL f w hE h8 h hq rfl hf

open Go.ChangeShapes Go.WideShapes Go.ChangeAt Go.WideMaps Go.WideElems
set_option maxRecDepth 100000 in
theorem oidsParse_lifted (os : Os) (started : os.Started) (H : Type) (enc : TypeId × Value → H) :
    ReturnsInHanded {} Tryd.checked os 3 .any (fun w args => (Rows.oidsParseSpec.pre enc Tryd.prog Tryd.f3 [] false w args ∧ laidMetH Tryd.prog laidL w) ∧ sizedMet enc Tryd.prog Tryd.f3 (OpenSpec.ofChange Rows.oidsParseSpec) false w args)
      (Rows.oidsParseSpec.post enc Tryd.prog Tryd.f3 false true false false) := by
  refine returnsInHanded_of_change_and (C := Tryd.checked) (X := fun w _ => laidMetH Tryd.prog laidL w) (fun _ _ _ hh h => h.of_heap hh) x_own started (by kernel_rfl) Tryd.func3
    (ChangeSpec.witness_shaped (enc := enc) (C := Tryd.checked) (os := os) (X := fun w _ => laidMetH Tryd.prog laidL w) false (World.laidAll Tryd.prog os laidL) #[.string ⟨#[]⟩] 8 (World.laidAll_os _ _ _) (World.shaped_of_ZipB (by kernel_rfl) (by kernel_rfl)) (by kernel_rfl) (by kernel_rfl) (by kernel_rfl) (door_met os _)) ?_
  intro W base args ds gs before hval0 hW _ _ hL _
  have hval : ∀ (j : Nat) t v, Tryd.f3.params[j]? = some t → args[j]? = some v → Value.okWide Tryd.prog W .any base t v := hval0
  have hW' := hW
  obtain ⟨p, q, hA0, hV, rfl, hfz, hnd⟩ := hW
  have hA : DataW.TrodAll enc Tryd.prog W 0 (fun _ => true) true Tryd.f3.params.toList args.toList ds p := hA0
  rw [Tryd.params3] at hA hval
  obtain ⟨v0, d0, rfl, rfl, h0⟩ := trodAll_one hA
  obtain ⟨rfl, rfl⟩ := trodVars_none hV
  obtain ⟨S, rfl, _, _, _⟩ := Go.ChangeMaps.open_string Tryd.underlying9 (hval 0 _ v0 rfl rfl) h0
  have hE := of_laid hL
  clear hA0 hval0
  simp only [List.append_nil] at hW'
  refine (parse_walk S W hE).mono fun e W' ⟨he, hb⟩ => ?_
  subst he
  exact ⟨_, rfl, law_post (tb := 4) x_laid (by decide +kernel) rfl rfl (by kernel_rfl) Tryd.underlying4 hW' hb⟩

/-- The row's statement. -/
theorem oidsParse_row : Rows.OidsParseSaid :=
  OpenClaim.holds_of_wide 3 Tryd.f3 rfl rfl rfl rfl rfl rfl rfl ⟨rfl, rfl, rfl, rfl, rfl⟩ rfl rfl rfl rfl rfl (by kernel_rfl) Tryd.func3 (by kernel_rfl)
    (of_decide_eq_true (by kernel_rfl)) (by unfold Func.isWrapper; first | (rw [if_pos (by decide +kernel)]; kernel_rfl) | (rw [if_neg (by decide +kernel)]; exact ⟨rfl, rfl⟩))
    (fun os started H enc _ => oidsParse_lifted os started H enc)

/-- The statement: the card. -/
theorem oidsParse_holds : Rows.OidsParseCardSaid :=
  Claim7.holds_tied_plain_at .later [] [.data, .data, .data, .data, .sentinel, .sentinel, .pinned] true Rows.oidsParseCard.stood.harness true
    oidsParse_row (fun _ h => by cases h) (by kernel_rfl) (fun _ h => by cases h) oidsParse_row_tie rfl ⟨rfl, rfl⟩ (by kernel_rfl) rfl
    (fun f fn hf hfn => by
      obtain rfl : f = 3 := Option.some.inj ((show Tryd.prog.funcNamed "vidimus/vidimuslaw06.OidsParse" = some 3 by kernel_rfl).symm.trans hf) |>.symm
      obtain rfl : fn = Tryd.f3 := (Option.some.inj (Tryd.func3.symm.trans hfn)).symm
      exact ⟨by kernel_rfl, fun j t ht => by
        rw [Tryd.params3] at ht
        have hm : t ∈ Tryd.f3.params.toList := by rw [Tryd.params3]; exact Array.mem_toList_iff.2 (Array.mem_of_getElem? ht)
        have hall : (Tryd.f3.params.toList.all fun u => !Tryd.prog.wantsStandIn u) = true := by kernel_rfl
        exact (show Tryd.prog.wantsStandIn t = false by simpa using List.all_eq_true.1 hall t hm)⟩)
    (by kernel_rfl)
end Go.Proofs.YtndamidmgglneaaDoor
