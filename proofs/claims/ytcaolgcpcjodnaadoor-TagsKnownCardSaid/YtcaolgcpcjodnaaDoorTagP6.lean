/-
  Layer 2, the statement TagsKnown: the examples of the chapter; the numbers around each additional octet.
  Conditions: the package-level variables that the row lists hold what the program's text lays (the card ties them).
-/
import Derived.Test.YtcaolgcpcjodnaaDoorTagR
import Derived.Test.YtcaolgcpcjodnaaDoorTagV
import Derived.Deep.RegionHeld3
namespace Go.Proofs.YtcaolgcpcjodnaaDoor
open Go.RowKit

def numsK : List Nat := [0, 30, 31, 127, 128, 16383, 16384, 2097151, 2097152, 268435455]
def sizesK : List Nat := [1, 1, 2, 2, 3, 3, 4, 4, 5, 5]
theorem known_all (k : Nat) (h : k < 10) : chk 1 (numsK.getD k 0) false = 0 ∧ (putL 1 (numsK.getD k 0) false).length = sizesK.getD k 0 ∧ sizeN 1 (numsK.getD k 0) false = sizesK.getD k 0 ∧ numsK.getD k 0 < 268435456 ∧ sizesK.getD k 0 ≤ 5 :=
  (show ∀ k : Fin 10, chk 1 (numsK.getD k.val 0) false = 0 ∧ (putL 1 (numsK.getD k.val 0) false).length = sizesK.getD k.val 0 ∧ sizeN 1 (numsK.getD k.val 0) false = sizesK.getD k.val 0 ∧ numsK.getD k.val 0 < 268435456 ∧ sizesK.getD k.val 0 ≤ 5 by decide +kernel) ⟨k, h⟩
def cellsU (l : List Nat) : List Value := l.map fun (x : Nat) => .int .u32 (x : Int)
def cellsI (l : List Nat) : List Value := l.map fun (x : Nat) => .int .i64 (x : Int)
theorem cellsU_at (k : Nat) (h : k < 10) : (cellsU numsK)[k]? = some (.int .u32 ((numsK.getD k 0 : Nat) : Int)) := by
  unfold cellsU
  rw [List.getElem?_map, List.getD_eq_getElem?_getD, List.getElem?_eq_getElem (show k < numsK.length from h)]
  rfl
theorem cellsI_at (k : Nat) (h : k < 10) : (cellsI sizesK)[k]? = some (.int .i64 ((sizesK.getD k 0 : Nat) : Int)) := by
  unfold cellsI
  rw [List.getElem?_map, List.getD_eq_getElem?_getD, List.getElem?_eq_getElem (show k < sizesK.length from h)]
  rfl
def KRel (w : World) (wr : World) : Prop := Bk wr w.heap.size 23 (cellsU numsK) ∧ Bk wr (w.heap.size + 1) 3 (cellsI sizesK) ∧ Below w.heap.size w wr
theorem KRel.step {w W W' : World} (h : KRel w W) (hb : Below W.heap.size W W') : KRel w W' := ⟨h.1.below hb h.1.lt, h.2.1.below hb h.2.1.lt, h.2.2.trans (hb.mono h.2.2.size)⟩
theorem KRel.start (w : World) : KRel w ((w.alloc (.cells (cellsU numsK).toArray 23)).alloc (.cells (cellsI sizesK).toArray 3)) := by
  have h2 := Bk.new (w.alloc (.cells (cellsU numsK).toArray 23)) 3 (cellsI sizesK)
  rw [World.size_alloc] at h2
  exact ⟨(Bk.new w 23 (cellsU numsK)).alloc _, h2, ((Below.refl _ _).alloc (Nat.le_refl _) _).alloc (by simp) _⟩

set_option maxHeartbeats 4000000 in
set_option maxRecDepth 100000 in
theorem known_walk (w : World) (hE : Env w) :
    Calls Tryd.prog 9 #[] w fun e w' => e = .returned (.bool true) ∧ Below w.heap.size w w' := by
  have E0 := Lib.hid hE
  have K0 := Lib.hid (KRel.start w)
  clear hE
  go_enter Tryd.func9, Tryd.ntmps9
  go_wp2_with fail
  go_loopw [3] (fun i wr => ∃ k : Nat, k ≤ 10 ∧ i = .int .i64 (k : Int) ∧ KRel w wr) (fun i _ => 10 - (intOf i).toNat)
  case atStart => exact ⟨0, by omega, rfl, K0.out⟩
  case round =>
    obtain ⟨k, hk, rfl, hrel⟩ := hrel
    have HR := Lib.hid hrel
    clear hrel K0
    by_cases hk10 : k = 10
    · subst hk10
      have B0 : Hid (Below w.heap.size w wr) := Lib.hid HR.out.2.2
      clear HR
      go_wp2_with fail
      refine (read_lit [95, 255, 255, 255, 255] 0 0 0 9 false 5 _ rfl (by decide) (all_lit rfl) (by decide +kernel)).mono ?_
      rintro e w1 ⟨rfl, hb1⟩
      have B1 := bt B0 hb1
      clear B0 hb1
      go_wp2_with fail
      refine (read_lit [95, 255, 255, 255] 0 0 0 7 false 4 _ rfl (by decide) (all_lit rfl) (by decide +kernel)).mono ?_
      rintro e w2 ⟨rfl, hb2⟩
      have B2 := bt B1 hb2
      clear B1 hb2
      go_wp2_with fail
      refine (read_lit [31, 31] 0 31 2 0 false 2 _ rfl (by decide) (all_lit rfl) (by decide +kernel)).mono ?_
      rintro e w3 ⟨rfl, hb3⟩
      have B3 := bt B2 hb3
      clear B2 hb3
      go_wp2_with fail
      refine (check_lit 1 268435456 1 false _ (by decide) (by decide) (by decide +kernel)).mono ?_
      rintro e w4 ⟨rfl, hb4⟩
      have B4 := bt B3 hb4
      clear B3 hb4
      go_wp2_with fail
      refine (lives_any _ (E0.out.below B4.out)).mono ?_
      rintro e w5 ⟨rfl, hb5⟩
      have B5 := bt B4 (Lib.hid hb5)
      clear B4 hb5
      go_wp2_with fail
      go_ret
      exact ⟨rfl, B5.out⟩
    · have hk2 : k < 10 := by omega
      obtain ⟨hchk, hlen, hsz0, hn28, hs5⟩ := known_all k hk2
      have hcu := cellsU_at k hk2
      have hci := cellsI_at k hk2
      obtain ⟨n, hn⟩ : ∃ n, numsK.getD k 0 = n := ⟨_, rfl⟩
      obtain ⟨N, hN⟩ : ∃ N, sizesK.getD k 0 = N := ⟨_, rfl⟩
      rw [hn] at hchk hlen hsz0 hn28 hcu
      rw [hN] at hlen hsz0 hs5 hci
      have c0 := HR.out.1.cell k
      rw [hcu] at c0
      have hzz := HR.out.1.lt
      have HChk := Lib.hid hchk
      have HLen := Lib.hid hlen
      have HSz := Lib.hid hsz0
      have HCi := Lib.hid hci
      have hq := rd_back 1 n false [] hchk
      rw [List.append_nil, hlen] at hq
      have HQ := Lib.hid hq
      have hsb : ((N : Int) != (N : Int)) = false := by simp
      clear hchk hlen hsz0 hcu hci hn hN hk10 hq
      have S0 := Lib.hid (Bk.new wr 25 [.int .u8 1, .bool false, .int .u32 (n : Int)])
      have B0 := Lib.hid (bel1 wr (.cells #[.int .u8 1, .bool false, .int .u32 (n : Int)] 25))
      go_wp2_with fail
      refine (put_any 1 n false _ (by omega) (by omega) HChk.out).mono ?_
      rintro e w1 ⟨A, rfl, r, hb⟩
      rw [HLen.out]
      have B1 := bt B0 (Lib.hid hb)
      have S1 := kt S0 (Lib.hid hb)
      have R1 := Lib.hid r
      have HR1 := Lib.hid (HR.out.step B1.out)
      clear B0 S0 hb r c0 hzz
      obtain ⟨s0, s1, s2, hsz⟩ := tag3 S1
      have c1 := HR1.out.2.1.cell k
      rw [HCi.out] at c1
      have hz1 := HR1.out.2.1.lt
      have kS : ∀ W : World, Below w1.heap.size w1 W → W.cell? ⟨wr.heap.size, 0, none⟩ = some (.int .u8 1) ∧ W.cell? ⟨wr.heap.size, 1, none⟩ = some (.bool false) ∧ W.cell? ⟨wr.heap.size, 2, none⟩ = some (.int .u32 (n : Int)) ∧ W.cell? ⟨w.heap.size + 1, k, none⟩ = some (.int .i64 (N : Int)) := fun W h =>
        ⟨(h.cell (p := ⟨wr.heap.size, 0, none⟩) hsz).trans s0, (h.cell (p := ⟨wr.heap.size, 1, none⟩) hsz).trans s1, (h.cell (p := ⟨wr.heap.size, 2, none⟩) hsz).trans s2, (h.cell (p := ⟨w.heap.size + 1, k, none⟩) hz1).trans c1⟩
      have CR : ∀ W : World, Below w1.heap.size w1 W → Calls Tryd.prog 19 #[.slice A N N, tagV 1 n false, .int .i64 (N : Int), .int .i64 0] W fun e w' => e = .returned (.bool true) ∧ Below W.heap.size W w' := fun W h => by
        have := read_ok A (putL 1 n false) N 1 n N 0 false W (by rw [HLen.out]; exact Nat.le_refl _) (by unfold maxLen; omega) (R1.out.below h) HQ.out
        rw [HLen.out] at this
        exact this
      have HCR := Lib.hid CR
      clear CR
      have HkS := Lib.hid kS
      have b1 := Below.refl w1.heap.size w1
      clear kS
      go_wp2_with fail
      go_region_held3 (fun w' => w'.cell? ⟨wr.heap.size, 0, none⟩ = some (.int .u8 1) ∧ w'.cell? ⟨wr.heap.size, 1, none⟩ = some (.bool false) ∧ w'.cell? ⟨wr.heap.size, 2, none⟩ = some (.int .u32 (n : Int)) ∧ w'.cell? ⟨w.heap.size + 1, k, none⟩ = some (.int .i64 (N : Int)))
        (first | exact HkS.out _ b1.drew | exact HkS.out _ (b1.drew.trans (hb2.mono b1.drew.size)) | exact HkS.out _ ((b1.drew.trans (hb2.mono b1.drew.size)).trans (hb3.mono (b1.drew.trans (hb2.mono b1.drew.size)).size)))
        (first | (go_at_call 15; refine (size_any 1 n false _ (by omega) (by omega)).mono ?_; rw [HSz.out]; rintro e w2 ⟨rfl, hb2⟩) | (go_at_call 19; refine (HCR.out _ (b1.drew.trans (hb2.mono b1.drew.size))).mono ?_; rintro e w3 ⟨rfl, hb3⟩))
      all_goals go_wp2_with fail
      all_goals exact ⟨⟨k + 1, by omega, by go_num, HR1.out.step ((b1.drew.trans (hb2.mono b1.drew.size)).trans (hb3.mono (b1.drew.trans (hb2.mono b1.drew.size)).size))⟩, by simp [intOf]; try omega⟩

open Go.ChangeShapes Go.WideShapes Go.ChangeAt Go.WideMaps Go.WideElems
set_option maxRecDepth 100000 in
theorem tagsKnown_lifted (os : Os) (started : os.Started) (H : Type) (enc : TypeId × Value → H) :
    ReturnsInHanded {} Tryd.checked os 9 .any (fun w args => (Rows.tagsKnownSpec.pre enc Tryd.prog Tryd.f9 [] false w args ∧ laidMetH Tryd.prog laidL w) ∧ sizedMet enc Tryd.prog Tryd.f9 (OpenSpec.ofChange Rows.tagsKnownSpec) false w args)
      (Rows.tagsKnownSpec.post enc Tryd.prog Tryd.f9 false true false false) := by
  refine returnsInHanded_of_change_and (C := Tryd.checked) (X := fun w _ => laidMetH Tryd.prog laidL w) (fun _ _ _ hh h => h.of_heap hh) x_own started (by kernel_rfl) Tryd.func9
    (ChangeSpec.witness_shaped (enc := enc) (C := Tryd.checked) (os := os) (X := fun w _ => laidMetH Tryd.prog laidL w) false (World.doorLaid Tryd.prog 67 os) #[] 8 rfl (World.shaped_of_RefB (by kernel_rfl) (by kernel_rfl)) (by kernel_rfl) (by kernel_rfl) (by kernel_rfl) (door_met os _)) ?_
  intro W base args ds gs before hval0 hW _ _ hL _
  have hval : ∀ (j : Nat) t v, Tryd.f9.params[j]? = some t → args[j]? = some v → Value.okWide Tryd.prog W .any base t v := hval0
  have hW' := hW
  obtain ⟨p, q, hA0, hV, rfl, hfz, hnd⟩ := hW
  have hA : DataW.TrodAll enc Tryd.prog W 0 (fun _ => true) true Tryd.f9.params.toList args.toList ds p := hA0
  rw [Tryd.params9] at hA hval
  obtain ⟨rfl, rfl, rfl⟩ := trodAll_none hA
  obtain ⟨rfl, rfl⟩ := trodVars_none hV
  have hE := of_laid hL
  clear hA0 hval0
  simp only [List.append_nil] at hW'
  refine (known_walk W hE).mono fun e W' ⟨he, hb⟩ => ?_
  subst he
  exact ⟨_, rfl, law_post (tb := 4) x_laid (by decide +kernel) rfl rfl (by kernel_rfl) Tryd.underlying4 hW' hb⟩

/-- The row's statement. -/
theorem tagsKnown_row : Rows.TagsKnownSaid :=
  OpenClaim.holds_of_wide 9 Tryd.f9 rfl rfl rfl rfl rfl rfl rfl ⟨rfl, rfl, rfl, rfl, rfl⟩ rfl rfl rfl rfl rfl (by kernel_rfl) Tryd.func9 (by kernel_rfl)
    (of_decide_eq_true (by kernel_rfl)) (by unfold Func.isWrapper; first | (rw [if_pos (by decide +kernel)]; kernel_rfl) | (rw [if_neg (by decide +kernel)]; exact ⟨rfl, rfl⟩))
    (fun os started H enc _ => tagsKnown_lifted os started H enc)

/-- The statement: the card. -/
theorem tagsKnown_holds : Rows.TagsKnownCardSaid :=
  Claim7.holds_tied_plain_at .later [] [.data, .data, .data, .sentinel, .sentinel, .data] true Rows.tagsKnownCard.stood.harness true
    tagsKnown_row (fun _ h => by cases h) (by kernel_rfl) (fun _ h => by cases h) tagsKnown_row_tie rfl ⟨rfl, rfl⟩ (by kernel_rfl) rfl
    (fun f fn hf hfn => by
      obtain rfl : f = 9 := Option.some.inj ((show Tryd.prog.funcNamed "vidimus/vidimuslaw02.TagsKnown" = some 9 by kernel_rfl).symm.trans hf) |>.symm
      obtain rfl : fn = Tryd.f9 := (Option.some.inj (Tryd.func9.symm.trans hfn)).symm
      exact ⟨by kernel_rfl, fun j t ht => by
        rw [Tryd.params9] at ht
        exact absurd ht (by simp)⟩)
    (by kernel_rfl)
end Go.Proofs.YtcaolgcpcjodnaaDoor
