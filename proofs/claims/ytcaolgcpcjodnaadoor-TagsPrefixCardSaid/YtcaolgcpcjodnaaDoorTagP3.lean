/-
  Layer 2, the statement TagsPrefix: a proper prefix of identifier octets is ErrShort; so no identifier octets are a proper prefix of others.
  Conditions: the package-level variables that the row lists hold what the program's text lays (the card ties them).
-/
import Derived.Test.YtcaolgcpcjodnaaDoorTagR
import Derived.Test.YtcaolgcpcjodnaaDoorTagV
namespace Go.Proofs.YtcaolgcpcjodnaaDoor
open Go.RowKit

theorem put_pos (c n : Nat) (k : Bool) : 0 < (putL c n k).length := by unfold putL; split <;> simp
theorem put_le {c n : Nat} {k : Bool} (h : n < 268435456) : (putL c n k).length ≤ 5 := by
  unfold putL
  split
  · simp
  · rw [List.length_cons, gl_length (by omega) (by omega)]
    have := gk_le h
    omega
/-- The beginning of a slice. -/
theorem slice_upto (A : Option Addr) (N c j : Nat) (hj : j < N) (hc : N ≤ c) (W : World) : ∀ b off, A = some ⟨b, off, none⟩ → (Instr.slice 30 (.slice A N c) none (some (.int .i64 (j : Int))) none).run Tryd.prog W = .ok (.slice A j c) W := by
  rintro b off rfl
  have h1 : j ≤ c := by omega
  simp [go_sem, h1]
set_option maxHeartbeats 2000000 in
set_option maxRecDepth 100000 in
theorem prefix_walk (a f n left : Nat) (w : World) (hE : Env w) (ha : a < 256) (hf : f < 256) (hn : n < 4294967296) (hl : left < 256) :
    Calls Tryd.prog 6 #[.agg #[.int .u8 (a : Int), .int .u8 (f : Int), .int .u32 (n : Int)], .int .u8 (left : Int)] w fun e w' => e = .returned (.bool true) ∧ Below w.heap.size w w' := by
  have E0 := Lib.hid hE
  clear hE
  have hchk := of_ok a f n ha hf hn
  have HO := Lib.hid (of_any a f n (w.alloc (.cells #[.int .u8 (a : Int), .int .u8 (f : Int), .int .u32 (n : Int)] 37)) ha hf hn)
  generalize a % 4 = c at *
  generalize decide (f % 2 = 1) = k at *
  generalize ofN c (n % 268435456) k = m at *
  have hcm := chk_zero hchk
  have H0 := Lib.hid hchk
  have B0 := Lib.hid (bel1 w (.cells #[.int .u8 (a : Int), .int .u8 (f : Int), .int .u32 (n : Int)] 37))
  have hNp := put_pos c m k
  have hN5 := put_le (c := c) (k := k) hcm.2
  obtain ⟨N, hN⟩ : ∃ N, (putL c m k).length = N := ⟨_, rfl⟩
  rw [hN] at hNp hN5
  obtain ⟨j, hj⟩ : ∃ j, left % N = j := ⟨_, rfl⟩
  have hjN : j < N := by rw [← hj]; exact Nat.mod_lt _ hNp
  have hj1 : ((left : Int) % (N : Int)) = (j : Int) := by rw [← hj]; omega
  have hN0 : ((N : Int) == 0) = false := by rw [beq_eq_false_iff_ne]; omega
  have HN := Lib.hid hN
  have hcl := rd_cut c m k j hchk (by rw [hN]; exact hjN)
  have HC := Lib.hid hcl
  clear hchk hN hj hcl
  go_enter Tryd.func6, Tryd.ntmps6
  go_wp2_with fail
  refine HO.out.mono ?_
  rintro e w1 ⟨rfl, hb⟩
  have B1 := bt B0 (Lib.hid hb)
  clear B0 hb HO
  go_wp2_with fail
  refine (put_any c m k _ (by omega) (by omega) H0.out).mono ?_
  rintro e w2 ⟨A, rfl, r, hb⟩
  rw [HN.out]
  have B2 := bt B1 (Lib.hid hb)
  have R := Lib.hid r
  clear B1 hb r
  have hA : ∃ b off, A = some ⟨b, off, none⟩ := by
    obtain ⟨b, off, e, _⟩ := R.out.at_ (k := 0) (by rw [HN.out]; exact hNp)
    exact ⟨b, off, e⟩
  obtain ⟨b, off, rfl⟩ := hA
  have q1 := slice_upto (some ⟨b, off, none⟩) N N j hjN (Nat.le_refl _) w2 b off rfl
  have hlen : ((putL c m k).take j).length = j := by rw [List.length_take, HN.out]; omega
  have C3 := read_ok (some ⟨b, off, none⟩) ((putL c m k).take j) N 0 0 0 7 false w2 (by rw [hlen]; omega) (by unfold maxLen; omega) (R.out.take_ j) HC.out
  rw [hlen] at C3
  have HC3 := Lib.hid C3
  clear C3 hlen R
  go_wp2_with fail
  refine HC3.out.mono ?_
  rintro e w3 ⟨rfl, hb⟩
  have B3 := bt B2 (Lib.hid hb)
  clear B2 hb q1 HC3
  go_wp2_with fail
  refine (lives_any _ (E0.out.below B3.out)).mono ?_
  rintro e w4 ⟨rfl, hb⟩
  have B4 := bt B3 (Lib.hid hb)
  clear B3 hb
  go_wp2_with fail
  go_ret
  exact ⟨rfl, B4.out⟩

open Go.ChangeShapes Go.WideShapes Go.ChangeAt Go.WideMaps Go.WideElems
set_option maxRecDepth 100000 in
theorem tagsPrefix_lifted (os : Os) (started : os.Started) (H : Type) (enc : TypeId × Value → H) :
    ReturnsInHanded {} Tryd.checked os 6 .any (fun w args => (Rows.tagsPrefixSpec.pre enc Tryd.prog Tryd.f6 [] false w args ∧ laidMetH Tryd.prog laidL w) ∧ sizedMet enc Tryd.prog Tryd.f6 (OpenSpec.ofChange Rows.tagsPrefixSpec) false w args)
      (Rows.tagsPrefixSpec.post enc Tryd.prog Tryd.f6 false true false false) := by
  refine returnsInHanded_of_change_and (C := Tryd.checked) (X := fun w _ => laidMetH Tryd.prog laidL w) (fun _ _ _ hh h => h.of_heap hh) x_own started (by kernel_rfl) Tryd.func6
    (ChangeSpec.witness_shaped (enc := enc) (C := Tryd.checked) (os := os) (X := fun w _ => laidMetH Tryd.prog laidL w) false (World.doorLaid Tryd.prog 67 os) #[.agg #[.int .u8 0, .int .u8 0, .int .u32 0], .int .u8 0] 8 rfl (World.shaped_of_RefB (by kernel_rfl) (by kernel_rfl)) (by kernel_rfl) (by kernel_rfl) (by kernel_rfl) (door_met os _)) ?_
  intro W base args ds gs before hval0 hW _ _ hL _
  have hval : ∀ (j : Nat) t v, Tryd.f6.params[j]? = some t → args[j]? = some v → Value.okWide Tryd.prog W .any base t v := hval0
  have hW' := hW
  obtain ⟨p, q, hA0, hV, rfl, hfz, hnd⟩ := hW
  have hA : DataW.TrodAll enc Tryd.prog W 0 (fun _ => true) true Tryd.f6.params.toList args.toList ds p := hA0
  rw [Tryd.params6] at hA hval
  obtain ⟨v0, v1, d0, d1, p0, p1, rfl, rfl, rfl, h0, h1⟩ := trodAll_two hA
  obtain ⟨rfl, rfl⟩ := trodVars_none hV
  obtain ⟨a, f, n, rfl, ha, hf, hn⟩ := open_T (hval 0 _ v0 rfl rfl) h0
  obtain ⟨l, rfl, hl⟩ := open_u8 (hval 1 _ v1 rfl rfl) h1
  have hE := of_laid hL
  clear hA0 hval0
  simp only [List.append_nil] at hW'
  refine (prefix_walk a f n l W hE ha hf hn hl).mono fun e W' ⟨he, hb⟩ => ?_
  subst he
  exact ⟨_, rfl, law_post (tb := 4) x_laid (by decide +kernel) rfl rfl (by kernel_rfl) Tryd.underlying4 hW' hb⟩

/-- The row's statement. -/
theorem tagsPrefix_row : Rows.TagsPrefixSaid :=
  OpenClaim.holds_of_wide 6 Tryd.f6 rfl rfl rfl rfl rfl rfl rfl ⟨rfl, rfl, rfl, rfl, rfl⟩ rfl rfl rfl rfl rfl (by kernel_rfl) Tryd.func6 (by kernel_rfl)
    (of_decide_eq_true (by kernel_rfl)) (by unfold Func.isWrapper; first | (rw [if_pos (by decide +kernel)]; kernel_rfl) | (rw [if_neg (by decide +kernel)]; exact ⟨rfl, rfl⟩))
    (fun os started H enc _ => tagsPrefix_lifted os started H enc)

/-- The statement: the card. -/
theorem tagsPrefix_holds : Rows.TagsPrefixCardSaid :=
  Claim7.holds_tied_plain_at .later [] [.data, .data, .data, .sentinel, .sentinel, .data] true Rows.tagsPrefixCard.stood.harness true
    tagsPrefix_row (fun _ h => by cases h) (by kernel_rfl) (fun _ h => by cases h) tagsPrefix_row_tie rfl ⟨rfl, rfl⟩ (by kernel_rfl) rfl
    (fun f fn hf hfn => by
      obtain rfl : f = 6 := Option.some.inj ((show Tryd.prog.funcNamed "vidimus/vidimuslaw02.TagsPrefix" = some 6 by kernel_rfl).symm.trans hf) |>.symm
      obtain rfl : fn = Tryd.f6 := (Option.some.inj (Tryd.func6.symm.trans hfn)).symm
      exact ⟨by kernel_rfl, fun j t ht => by
        rw [Tryd.params6] at ht
        have hm : t ∈ Tryd.f6.params.toList := by rw [Tryd.params6]; exact Array.mem_toList_iff.2 (Array.mem_of_getElem? ht)
        have hall : (Tryd.f6.params.toList.all fun u => !Tryd.prog.wantsStandIn u) = true := by kernel_rfl
        exact (show Tryd.prog.wantsStandIn t = false by simpa using List.all_eq_true.1 hall t hm)⟩)
    (by kernel_rfl)
end Go.Proofs.YtcaolgcpcjodnaaDoor
