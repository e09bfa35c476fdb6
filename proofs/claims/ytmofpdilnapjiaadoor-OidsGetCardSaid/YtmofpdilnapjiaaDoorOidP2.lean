/-
  Layer 6, the statement OidsGet: content octets are read as the definition says; what is read has these octets.
  Conditions: the package-level variables that the row lists hold what the program's text lays (the card ties them).
-/
import Derived.Test.YtmofpdilnapjiaaDoorOidY
import Derived.Test.YtmofpdilnapjiaaDoorOidPu
import Derived.Test.YtmofpdilnapjiaaDoorOidM
namespace Go.Proofs.YtmofpdilnapjiaaDoor
open Go.RowKit

theorem getO_bad {l : List Nat} {n : Nat} {k : List Nat} {f : Nat} (h : getO l = (n, k, f)) (hf : f ≠ 0) : n = 0 ∧ k = zeroL := by
  unfold getO at h
  split at h
  · simp only [Prod.mk.injEq] at h; exact ⟨h.1.symm, h.2.1.symm⟩
  · split at h
    · simp only [Prod.mk.injEq] at h; exact ⟨h.1.symm, h.2.1.symm⟩
    · simp only [Prod.mk.injEq] at h; exact absurd h.2.2.symm hf

set_option maxHeartbeats 1000000 in
set_option maxRecDepth 100000 in
theorem get_long (A : Option Addr) (l : List Nat) (c : Nat) (w : World) (hE : Env w) (hl : 100 < l.length) :
    Calls Tryd.prog 5 #[.slice A l.length c] w fun e w' => e = .returned (.bool true) ∧ Below w.heap.size w w' := by
  have B0 := Lib.hid (Below.refl w.heap.size w)
  have E0 := Lib.hid hE
  clear hE
  go_enter Tryd.func5, Tryd.ntmps5
  go_wp2_with fail
  refine (lives_any _ (E0.out.below B0.out)).mono ?_
  rintro e w1 ⟨rfl, hb⟩
  have B1 := bt B0 (Lib.hid hb)
  clear hb B0
  go_wp2_with fail
  go_ret
  exact ⟨rfl, B1.out⟩
set_option maxHeartbeats 2000000 in
set_option maxRecDepth 100000 in
theorem get_bad (A : Option Addr) (l : List Nat) (N c n : Nat) (k : List Nat) (f : Nat) (w : World) (hE : Env w) (hN : l.length = N) (hl : N ≤ 100) (hlc : N ≤ c) (hm : c ≤ maxLen) (hA : Rb w A l) (hq : getO l = (n, k, f)) (hk : k.length = 16) (hf : f ≠ 0) :
    Calls Tryd.prog 5 #[.slice A N c] w fun e w' => e = .returned (.bool true) ∧ Below w.heap.size w w' := by
  have hz := zero25
  obtain ⟨zl, hzl⟩ : ∃ zl, zeroL = zl := ⟨_, rfl⟩
  have HZL : Hid (zl.length = 16) := Lib.hid (by rw [← hzl]; exact zeroL_length)
  rw [hzl] at hz
  clear hzl
  have B0 := Lib.hid (Below.refl w.heap.size w)
  have E0 := Lib.hid hE
  have R := Lib.hid hA
  have C1 := Lib.hid (by have := rget_any A l c w (by omega) hA; rw [hq, hN] at this; exact this : Calls Tryd.prog 26 #[.slice A N c] w (GiveG w (n, k, f)))
  have C2 := Lib.hid (fun W (hR : Rb W A l) => read_ok A l N c n k f W hN hlc hm hR hk hq)
  have hfb : ((f : Int) != 0) = true := by rw [bne_iff_ne]; omega
  clear hq hE hA
  go_enter Tryd.func5, Tryd.ntmps5
  go_upto_region 4 with (first
    | (go_at_call 26; refine C1.out.mono ?_; rintro e w1 ⟨rfl, hb⟩; have B1 := bt B0 (Lib.hid hb); have R1 := rt R (Lib.hid hb); clear hb B0 R; have hsz1 := B1.out.size)
    | (refine wpList_store25 rfl (.tmp 3) (.tmp 14) rfl (n := n) (l := k) rfl rfl (Bk.new w1 25 (oc 0 zl)) (by rw [oc_length, HZL.out]) hk ?_; intro w2 V2 hg2 hz2; have S := Lib.hid V2; have B2 := Lib.hid ((B1.out.alloc B1.out.size (.cells (oc 0 zl).toArray 25)).grown hg2 (B1.out.alloc B1.out.size (.cells (oc 0 zl).toArray 25)).size (fun k e => by injection e with e; omega)); have R2 := Lib.hid (R1.out.below (only_below hg2 (Nat.le_refl _) (by simp) |> fun h => ((Below.refl w1.heap.size w1).alloc (Nat.le_refl _) _).trans h)); clear V2 hg2 hz2))
  go_wp2_with (refine wpList_load25g (by rfl) (.tmp 3) rfl rfl S.out hk ?_)
  refine (C2.out _ R2.out).mono ?_
  rintro e w3 ⟨rfl, hb⟩
  have B3 := bt B2 (Lib.hid hb)
  have Sn := kt S (Lib.hid hb)
  clear S
  have S := Sn
  clear Sn
  have R2n := rt R2 (Lib.hid hb)
  clear R2
  have R2 := R2n
  clear R2n
  clear hb B2
  go_wp2_with (refine wpList_load25g (by rfl) (.tmp 3) rfl rfl S.out hk ?_)
  refine (lives_any _ (E0.out.below B3.out)).mono ?_
  rintro e w4 ⟨rfl, hb⟩
  have B4 := bt B3 (Lib.hid hb)
  clear hb B3
  go_wp2_with fail
  go_ret
  exact ⟨rfl, B4.out⟩
set_option maxHeartbeats 2000000 in
set_option maxRecDepth 100000 in
theorem get_good (A : Option Addr) (l : List Nat) (N c n : Nat) (k : List Nat) (f : Nat) (w : World) (hE : Env w) (hN : l.length = N) (hl : N ≤ 100) (hlc : N ≤ c) (hm : c ≤ maxLen) (hA : Rb w A l) (hq : getO l = (n, k, f)) (hk : k.length = 16) (hf : f = 0) (ho : OkO n k) (hc : chkO n k = 0) (hp : putO n k = l) :
    Calls Tryd.prog 5 #[.slice A N c] w fun e w' => e = .returned (.bool true) ∧ Below w.heap.size w w' := by
  have hz := zero25
  obtain ⟨zl, hzl⟩ : ∃ zl, zeroL = zl := ⟨_, rfl⟩
  have HZL : Hid (zl.length = 16) := Lib.hid (by rw [← hzl]; exact zeroL_length)
  rw [hzl] at hz
  clear hzl
  have B0 := Lib.hid (Below.refl w.heap.size w)
  have E0 := Lib.hid hE
  have R := Lib.hid hA
  have C1 := Lib.hid (by have := rget_any A l c w (by omega) hA; rw [hq, hN] at this; exact this : Calls Tryd.prog 26 #[.slice A N c] w (GiveG w (n, k, f)))
  have C2 := Lib.hid (fun W (hR : Rb W A l) => read_ok A l N c n k f W hN hlc hm hR hk hq)
  subst hf
  have C3 := Lib.hid (fun W => (by have := put_any n k W ho hc; rw [hp] at this; unfold GiveP at this; rw [hN] at this; exact this : Calls Tryd.prog 17 #[oV n k] W fun e w' => ∃ A, e = .returned (.tuple #[.slice A N N, .int .i64 0]) ∧ Rb w' A l ∧ Below W.heap.size W w'))
  have HN := Lib.hid hN
  clear hq hE hA ho hc hp hN
  go_enter Tryd.func5, Tryd.ntmps5
  go_upto_region 4 with (first
    | (go_at_call 26; refine C1.out.mono ?_; rintro e w1 ⟨rfl, hb⟩; have B1 := bt B0 (Lib.hid hb); have R1 := rt R (Lib.hid hb); clear hb B0 R; have hsz1 := B1.out.size)
    | (refine wpList_store25 rfl (.tmp 3) (.tmp 14) rfl (n := n) (l := k) rfl rfl (Bk.new w1 25 (oc 0 zl)) (by rw [oc_length, HZL.out]) hk ?_; intro w2 V2 hg2 hz2; have S := Lib.hid V2; have B2 := Lib.hid ((B1.out.alloc B1.out.size (.cells (oc 0 zl).toArray 25)).grown hg2 (B1.out.alloc B1.out.size (.cells (oc 0 zl).toArray 25)).size (fun k e => by injection e with e; omega)); have R2 := Lib.hid (R1.out.below (only_below hg2 (Nat.le_refl _) (by simp) |> fun h => ((Below.refl w1.heap.size w1).alloc (Nat.le_refl _) _).trans h)); clear V2 hg2 hz2))
  go_wp2_with (refine wpList_load25g (by rfl) (.tmp 3) rfl rfl S.out hk ?_)
  refine (C2.out _ R2.out).mono ?_
  rintro e w3 ⟨rfl, hb⟩
  have B3 := bt B2 (Lib.hid hb)
  have Sn := kt S (Lib.hid hb)
  clear S
  have S := Sn
  clear Sn
  have R2n := rt R2 (Lib.hid hb)
  clear R2
  have R2 := R2n
  clear R2n
  clear hb B2
  go_wp2_with (refine wpList_load25g (by rfl) (.tmp 3) rfl rfl S.out hk ?_)
  refine (C3.out _).mono ?_
  rintro e w4 ⟨A2, rfl, hR3, hb⟩
  have B4 := bt B3 (Lib.hid hb)
  have R2n := rt R2 (Lib.hid hb)
  have R3 := Lib.hid hR3
  clear hb B3 R2 hR3
  go_wp2_with fail
  refine (same_ok A2 A l c N 0 _ R3.out R2n.out HN.out).mono ?_
  rintro e w5 ⟨rfl, rfl⟩
  go_wp2_with fail
  refine (lives_any _ (E0.out.below B4.out)).mono ?_
  rintro e w5 ⟨rfl, hb⟩
  have B5 := bt B4 (Lib.hid hb)
  clear hb B4
  go_wp2_with fail
  go_ret
  exact ⟨rfl, B5.out⟩
theorem get_walk (A : Option Addr) (l : List Nat) (c : Nat) (w : World) (hE : Env w) (hlc : l.length ≤ c) (hm : c ≤ maxLen) (hA : Rb w A l) :
    Calls Tryd.prog 5 #[.slice A l.length c] w fun e w' => e = .returned (.bool true) ∧ Below w.heap.size w w' := by
  rcases Nat.lt_or_ge 100 l.length with h | h
  · exact get_long A l c w hE h
  · obtain ⟨⟨n, k, f⟩, hq⟩ : ∃ r, getO l = r := ⟨_, rfl⟩
    by_cases hf : f = 0
    · subst hf
      obtain ⟨h1, h2, h3⟩ := put_get hA.2 hq
      exact get_good A l l.length c n k 0 w hE rfl h hlc hm hA hq h1.len rfl h1 h2 h3
    · obtain ⟨rfl, rfl⟩ := getO_bad hq hf
      exact get_bad A l l.length c 0 zeroL f w hE rfl h hlc hm hA hq rfl hf

open Go.ChangeShapes Go.WideShapes Go.ChangeAt Go.WideMaps Go.WideElems
set_option maxRecDepth 100000 in
theorem oidsGet_lifted (os : Os) (started : os.Started) (H : Type) (enc : TypeId × Value → H) :
    ReturnsInHanded {} Tryd.checked os 5 .any (fun w args => (Rows.oidsGetSpec.pre enc Tryd.prog Tryd.f5 [] false w args ∧ laidMetH Tryd.prog laidL w) ∧ sizedMet enc Tryd.prog Tryd.f5 (OpenSpec.ofChange Rows.oidsGetSpec) false w args)
      (Rows.oidsGetSpec.post enc Tryd.prog Tryd.f5 false true false false) := by
  refine returnsInHanded_of_change_and (C := Tryd.checked) (X := fun w _ => laidMetH Tryd.prog laidL w) (fun _ _ _ hh h => h.of_heap hh) x_own started (by kernel_rfl) Tryd.func5
    (ChangeSpec.witness_shaped (enc := enc) (C := Tryd.checked) (os := os) (X := fun w _ => laidMetH Tryd.prog laidL w) false (World.laidAll Tryd.prog os laidL) #[.slice none 0 0] 8 (World.laidAll_os _ _ _) (World.shaped_of_ZipB (by kernel_rfl) (by kernel_rfl)) (by kernel_rfl) (by kernel_rfl) (by kernel_rfl) (door_met os _)) ?_
  intro W base args ds gs before hval0 hW _ _ hL _
  have hval : ∀ (j : Nat) t v, Tryd.f5.params[j]? = some t → args[j]? = some v → Value.okWide Tryd.prog W .any base t v := hval0
  have hW' := hW
  obtain ⟨p, q, hA0, hV, rfl, hfz, hnd⟩ := hW
  have hA : DataW.TrodAll enc Tryd.prog W 0 (fun _ => true) true Tryd.f5.params.toList args.toList ds p := hA0
  rw [Tryd.params5] at hA hval
  obtain ⟨v0, d0, rfl, rfl, h0⟩ := trodAll_one hA
  obtain ⟨rfl, rfl⟩ := trodVars_none hV
  obtain ⟨A, l, c, rfl, hA2, hlc, hm⟩ := open_bytes (hval 0 _ v0 rfl rfl) h0
  have hE := of_laid hL
  clear hA0 hval0
  simp only [List.append_nil] at hW'
  refine (get_walk A l c W hE hlc hm hA2).mono fun e W' ⟨he, hb⟩ => ?_
  subst he
  exact ⟨_, rfl, law_post (tb := 4) x_laid (by decide +kernel) rfl rfl (by kernel_rfl) Tryd.underlying4 hW' hb⟩

/-- The row's statement. -/
theorem oidsGet_row : Rows.OidsGetSaid :=
  OpenClaim.holds_of_wide 5 Tryd.f5 rfl rfl rfl rfl rfl rfl rfl ⟨rfl, rfl, rfl, rfl, rfl⟩ rfl rfl rfl rfl rfl (by kernel_rfl) Tryd.func5 (by kernel_rfl)
    (of_decide_eq_true (by kernel_rfl)) (by unfold Func.isWrapper; first | (rw [if_pos (by decide +kernel)]; kernel_rfl) | (rw [if_neg (by decide +kernel)]; exact ⟨rfl, rfl⟩))
    (fun os started H enc _ => oidsGet_lifted os started H enc)

/-- The statement: the card. -/
theorem oidsGet_holds : Rows.OidsGetCardSaid :=
  Claim7.holds_tied_plain_at .later [] [.data, .data, .data, .data, .sentinel, .sentinel, .pinned] true Rows.oidsGetCard.stood.harness true
    oidsGet_row (fun _ h => by cases h) (by kernel_rfl) (fun _ h => by cases h) oidsGet_row_tie rfl ⟨rfl, rfl⟩ (by kernel_rfl) rfl
    (fun f fn hf hfn => by
      obtain rfl : f = 5 := Option.some.inj ((show Tryd.prog.funcNamed "vidimus/vidimuslaw06.OidsGet" = some 5 by kernel_rfl).symm.trans hf) |>.symm
      obtain rfl : fn = Tryd.f5 := (Option.some.inj (Tryd.func5.symm.trans hfn)).symm
      exact ⟨by kernel_rfl, fun j t ht => by
        rw [Tryd.params5] at ht
        have hm : t ∈ Tryd.f5.params.toList := by rw [Tryd.params5]; exact Array.mem_toList_iff.2 (Array.mem_of_getElem? ht)
        have hall : (Tryd.f5.params.toList.all fun u => !Tryd.prog.wantsStandIn u) = true := by kernel_rfl
        exact (show Tryd.prog.wantsStandIn t = false by simpa using List.all_eq_true.1 hall t hm)⟩)
    (by kernel_rfl)
end Go.Proofs.YtmofpdilnapjiaaDoor
