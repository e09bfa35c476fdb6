/-
  Layer 6, the statement OidsBack: the content octets of an OID are read as the OID again; so is its dotted form.
  Conditions: the package-level variables that the row lists hold what the program's text lays (the card ties them).
-/
import Derived.Test.YtmofpdilnapjiaaDoorOidY
import Derived.Test.YtmofpdilnapjiaaDoorOidPq
import Derived.Test.YtmofpdilnapjiaaDoorOidAo
import Derived.Test.YtmofpdilnapjiaaDoorOidO
namespace Go.Proofs.YtmofpdilnapjiaaDoor
open Go.RowKit

set_option maxHeartbeats 4000000 in
set_option maxRecDepth 100000 in
theorem back_walk (f s : Nat) (A : Option Addr) (l : List Nat) (c : Nat) (w : World) (hE : Env w) (hf : f < 256) (hs : s < 4294967296) (hA : R32 w A l) (h32 : ∀ y ∈ l, y < 4294967296) (hlc : l.length ≤ c) :
    Calls Tryd.prog 4 #[.agg #[.int .u8 (f : Int), .int .u32 (s : Int), .slice A l.length c]] w fun e w' => e = .returned (.bool true) ∧ Below w.heap.size w w' := by
  have hz := zero25
  obtain ⟨zl, hzl⟩ : ∃ zl, zeroL = zl := ⟨_, rfl⟩
  have HZL : Hid (zl.length = 16) := Lib.hid (by rw [← hzl]; exact zeroL_length)
  rw [hzl] at hz
  clear hzl
  have hCA := fun W (hR : R32 W A l) => aof_any f s A l c W hf hs hR hlc
  have ho := aL_ok (f := f) (s := s) h32
  have hc := aL_chk f s l
  obtain ⟨n, hn⟩ : ∃ n, (aL f s l).length = n := ⟨_, rfl⟩
  obtain ⟨L, hL⟩ : ∃ L, pad (aL f s l) = L := ⟨_, rfl⟩
  rw [hn, hL] at hCA ho hc
  have hl16 := ho.len
  have htl := txO_len ho
  have CA := Lib.hid hCA
  have C1 := Lib.hid (fun W => put_any n L W ho hc)
  have C2 := Lib.hid (fun W hE => text_any n L W ho hE)
  have C3 := Lib.hid (fun W => rput_any n L W ho hc)
  have C4 := Lib.hid (fun W => rtextO_any n L W ho)
  have C5 := Lib.hid (fun W hE => parsed_ok (txO n L) (txO_all n L) (by omega) n L 0 W hE hl16 (prs_text ho hc))
  have C6 := Lib.hid (fun W => (by have := check_any n L W ho; rw [hc] at this; exact this : Calls Tryd.prog 12 #[oV n L] W (GiveF W 0)))
  have hgp := get_put ho hc
  have hsm : (putO n L).length ≤ 80 := by
    have := putO_small ho hc (ids n L).length
    rw [List.take_length] at this
    exact this
  obtain ⟨P, hP⟩ : ∃ P, putO n L = P := ⟨_, rfl⟩
  rw [hP] at C1 C3 hgp hsm
  obtain ⟨T, hT⟩ : ∃ T, bstr (txO n L) = T := ⟨_, rfl⟩
  unfold GiveT at C2 C4
  rw [hT] at C2 C4 C5
  have hself := bstr_self T
  have HGP := Lib.hid hgp
  have HSM := Lib.hid hsm
  have R := Lib.hid (hA.below (bel1 w (.cells #[.int .u8 (f : Int), .int .u32 (s : Int), .slice A l.length c] 43)))
  have S0 := Lib.hid (Bk.new w 43 [.int .u8 (f : Int), .int .u32 (s : Int), .slice A l.length c])
  have B0 := Lib.hid (bel1 w (.cells #[.int .u8 (f : Int), .int .u32 (s : Int), .slice A l.length c] 43))
  have E0 := Lib.hid hE
  clear hE hA h32 hCA ho hc hn hL htl hgp hP hT hlc hsm
  go_enter Tryd.func4, Tryd.ntmps4
  go_upto_region 1 with fail
  generalize w.alloc (.cells #[.int .u8 (f : Int), .int .u32 (s : Int), .slice A l.length c] 43) = w1 at *
  have c0 : w1.cell? ⟨w.heap.size, 0, none⟩ = some (.int .u8 (f : Int)) := by rw [S0.out.cell]; rfl
  have c1 : w1.cell? ⟨w.heap.size, 1, none⟩ = some (.int .u32 (s : Int)) := by rw [S0.out.cell]; rfl
  have c2 : w1.cell? ⟨w.heap.size, 2, none⟩ = some (.slice A l.length c) := by rw [S0.out.cell]; rfl
  go_upto_region 2 with (first
    | (go_at_call 21; refine (CA.out _ R.out).mono ?_; rintro e w2 ⟨rfl, hb⟩; have B1 := bt B0 (Lib.hid hb); clear hb; have hsz1 := B1.out.size)
    | (refine wpList_store25 rfl (.tmp 3) (.tmp 8) rfl (n := n) (l := L) rfl rfl (Bk.new w2 25 (oc 0 zl)) (by rw [oc_length, HZL.out]) hl16 ?_; intro w3 V3 hg3 hz3; have S := Lib.hid V3; have B2 := Lib.hid ((B1.out.alloc B1.out.size (.cells (oc 0 zl).toArray 25)).grown hg3 (B1.out.alloc B1.out.size (.cells (oc 0 zl).toArray 25)).size (fun k e => by injection e with e; omega)); clear V3 hg3 hz3))
  clear c0 c1 c2 S0 B0 B1 R CA
  have B3 := B2
  clear B2
  go_wp2_with (refine wpList_load25g (by rfl) (.tmp 3) rfl rfl S.out hl16 ?_)
  refine (C1.out _).mono ?_
  rintro e w4 ⟨A2, rfl, hR2, hb⟩
  have B4 := bt B3 (Lib.hid hb)
  have Sn := kt S (Lib.hid hb)
  clear S
  have S := Sn
  clear Sn
  have R2 := Lib.hid hR2
  clear hb B3 hR2
  go_wp2_with (refine wpList_load25g (by rfl) (.tmp 3) rfl rfl S.out hl16 ?_)
  refine (C2.out _ (E0.out.below B4.out)).mono ?_
  rintro e w5 ⟨rfl, hb⟩
  have B5 := bt B4 (Lib.hid hb)
  have Sn := kt S (Lib.hid hb)
  clear S
  have S := Sn
  clear Sn
  have R2n := rt R2 (Lib.hid hb)
  clear R2
  have R2 := R2n
  clear R2n
  clear hb B4
  go_wp2_with (refine wpList_load25g (by rfl) (.tmp 3) rfl rfl S.out hl16 ?_)
  refine (C3.out _).mono ?_
  rintro e w6 ⟨v, rfl, hown, hb⟩
  have B6 := bt B5 (Lib.hid hb)
  have Sn := kt S (Lib.hid hb)
  have R2n := rt R2 (Lib.hid hb)
  clear S R2
  have S := Sn
  have R2 := R2n
  clear Sn R2n hb B5
  obtain ⟨A3, c3, rfl, hrd3, -, -⟩ := own_rd hown
  have R3 : Hid (Rb w6 A3 P) := Lib.hid ⟨hrd3, R2.out.2⟩
  clear hown hrd3
  go_wp2_with (refine wpList_load25g (by rfl) (.tmp 3) rfl rfl S.out hl16 ?_)
  refine (same_ok A2 A3 P c3 P.length 0 _ R2.out R3.out rfl).mono ?_
  rintro e w7 ⟨rfl, rfl⟩
  clear R3
  go_wp2_with (refine wpList_load25g (by rfl) (.tmp 3) rfl rfl S.out hl16 ?_)
  refine (read_ok A2 P P.length P.length n L 0 _ rfl (Nat.le_refl _) (by have := HSM.out; unfold maxLen; omega) R2.out hl16 HGP.out).mono ?_
  rintro e w7 ⟨rfl, hb⟩
  have B7 := bt B6 (Lib.hid hb)
  have Sn := kt S (Lib.hid hb)
  clear S
  have S := Sn
  clear Sn
  have R2n := rt R2 (Lib.hid hb)
  clear R2
  have R2 := R2n
  clear R2n
  clear hb B6
  go_wp2_with (refine wpList_load25g (by rfl) (.tmp 3) rfl rfl S.out hl16 ?_)
  refine (C4.out _).mono ?_
  rintro e w8 ⟨rfl, hb⟩
  have B8 := bt B7 (Lib.hid hb)
  have Sn := kt S (Lib.hid hb)
  clear S
  have S := Sn
  clear Sn
  have R2n := rt R2 (Lib.hid hb)
  clear R2
  have R2 := R2n
  clear R2n
  clear hb B7
  go_wp2_with (refine wpList_load25g (by rfl) (.tmp 3) rfl rfl S.out hl16 ?_)
  refine (C5.out _ (E0.out.below B8.out)).mono ?_
  rintro e w9 ⟨rfl, hb⟩
  have B9 := bt B8 (Lib.hid hb)
  have Sn := kt S (Lib.hid hb)
  clear S
  have S := Sn
  clear Sn
  have R2n := rt R2 (Lib.hid hb)
  clear R2
  have R2 := R2n
  clear R2n
  clear hb B8
  go_wp2_with (refine wpList_load25g (by rfl) (.tmp 3) rfl rfl S.out hl16 ?_)
  refine (C6.out _).mono ?_
  rintro e w10 ⟨rfl, hb⟩
  have B10 := bt B9 (Lib.hid hb)
  have Sn := kt S (Lib.hid hb)
  clear S
  have S := Sn
  clear Sn
  have R2n := rt R2 (Lib.hid hb)
  clear R2
  have R2 := R2n
  clear R2n
  clear hb B9
  go_wp2_with (refine wpList_load25g (by rfl) (.tmp 3) rfl rfl S.out hl16 ?_)
  refine (lives_any _ (E0.out.below B10.out)).mono ?_
  rintro e w11 ⟨rfl, hb⟩
  have B11 := bt B10 (Lib.hid hb)
  have Sn := kt S (Lib.hid hb)
  clear S
  have S := Sn
  clear Sn
  have R2n := rt R2 (Lib.hid hb)
  clear R2
  have R2 := R2n
  clear R2n
  clear hb B10
  go_wp2_with (refine wpList_load25g (by rfl) (.tmp 3) rfl rfl S.out hl16 ?_)
  go_ret
  exact ⟨by simp, B11.out⟩

open Go.ChangeShapes Go.WideShapes Go.ChangeAt Go.WideMaps Go.WideElems
set_option maxRecDepth 100000 in
theorem oidsBack_lifted (os : Os) (started : os.Started) (H : Type) (enc : TypeId × Value → H) :
    ReturnsInHanded {} Tryd.checked os 4 .any (fun w args => (Rows.oidsBackSpec.pre enc Tryd.prog Tryd.f4 [] false w args ∧ laidMetH Tryd.prog laidL w) ∧ sizedMet enc Tryd.prog Tryd.f4 (OpenSpec.ofChange Rows.oidsBackSpec) false w args)
      (Rows.oidsBackSpec.post enc Tryd.prog Tryd.f4 false true false false) := by
  refine returnsInHanded_of_change_and (C := Tryd.checked) (X := fun w _ => laidMetH Tryd.prog laidL w) (fun _ _ _ hh h => h.of_heap hh) x_own started (by kernel_rfl) Tryd.func4
    (ChangeSpec.witness_shaped (enc := enc) (C := Tryd.checked) (os := os) (X := fun w _ => laidMetH Tryd.prog laidL w) false (World.laidAll Tryd.prog os laidL) #[.agg #[.int .u8 0, .int .u32 0, .slice none 0 0]] 8 (World.laidAll_os _ _ _) (World.shaped_of_ZipB (by kernel_rfl) (by kernel_rfl)) (by kernel_rfl) (by kernel_rfl) (by kernel_rfl) (door_met os _)) ?_
  intro W base args ds gs before hval0 hW _ _ hL _
  have hval : ∀ (j : Nat) t v, Tryd.f4.params[j]? = some t → args[j]? = some v → Value.okWide Tryd.prog W .any base t v := hval0
  have hW' := hW
  obtain ⟨p, q, hA0, hV, rfl, hfz, hnd⟩ := hW
  have hA : DataW.TrodAll enc Tryd.prog W 0 (fun _ => true) true Tryd.f4.params.toList args.toList ds p := hA0
  rw [Tryd.params4] at hA hval
  obtain ⟨v0, d0, rfl, rfl, h0⟩ := trodAll_one hA
  obtain ⟨rfl, rfl⟩ := trodVars_none hV
  obtain ⟨f, s, A, l, c, rfl, hf, hs, hA2, h32, hlc, -⟩ := open_A (hval 0 _ v0 rfl rfl) h0
  have hE := of_laid hL
  clear hA0 hval0
  simp only [List.append_nil] at hW'
  refine (back_walk f s A l c W hE hf hs hA2 h32 hlc).mono fun e W' ⟨he, hb⟩ => ?_
  subst he
  exact ⟨_, rfl, law_post (tb := 4) x_laid (by decide +kernel) rfl rfl (by kernel_rfl) Tryd.underlying4 hW' hb⟩

/-- The row's statement. -/
theorem oidsBack_row : Rows.OidsBackSaid :=
  OpenClaim.holds_of_wide 4 Tryd.f4 rfl rfl rfl rfl rfl rfl rfl ⟨rfl, rfl, rfl, rfl, rfl⟩ rfl rfl rfl rfl rfl (by kernel_rfl) Tryd.func4 (by kernel_rfl)
    (of_decide_eq_true (by kernel_rfl)) (by unfold Func.isWrapper; first | (rw [if_pos (by decide +kernel)]; kernel_rfl) | (rw [if_neg (by decide +kernel)]; exact ⟨rfl, rfl⟩))
    (fun os started H enc _ => oidsBack_lifted os started H enc)

/-- The statement: the card. -/
theorem oidsBack_holds : Rows.OidsBackCardSaid :=
  Claim7.holds_tied_plain_at .later [] [.data, .data, .data, .data, .sentinel, .sentinel, .pinned] true Rows.oidsBackCard.stood.harness true
    oidsBack_row (fun _ h => by cases h) (by kernel_rfl) (fun _ h => by cases h) oidsBack_row_tie rfl ⟨rfl, rfl⟩ (by kernel_rfl) rfl
    (fun f fn hf hfn => by
      obtain rfl : f = 4 := Option.some.inj ((show Tryd.prog.funcNamed "vidimus/vidimuslaw06.OidsBack" = some 4 by kernel_rfl).symm.trans hf) |>.symm
      obtain rfl : fn = Tryd.f4 := (Option.some.inj (Tryd.func4.symm.trans hfn)).symm
      exact ⟨by kernel_rfl, fun j t ht => by
        rw [Tryd.params4] at ht
        have hm : t ∈ Tryd.f4.params.toList := by rw [Tryd.params4]; exact Array.mem_toList_iff.2 (Array.mem_of_getElem? ht)
        have hall : (Tryd.f4.params.toList.all fun u => !Tryd.prog.wantsStandIn u) = true := by kernel_rfl
        exact (show Tryd.prog.wantsStandIn t = false by simpa using List.all_eq_true.1 hall t hm)⟩)
    (by kernel_rfl)
end Go.Proofs.YtmofpdilnapjiaaDoor
