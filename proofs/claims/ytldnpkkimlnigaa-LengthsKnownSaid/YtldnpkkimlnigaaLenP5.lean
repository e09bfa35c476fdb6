/-
  Layer 3, the statement LengthsKnown: the examples of the chapter; the lengths around each additional octet.
  Conditions: none.
-/
import Derived.Test.YtldnpkkimlnigaaLenP1
import Derived.Test.YtldnpkkimlnigaaLenP2
import Derived.Test.YtldnpkkimlnigaaLenP3
import Derived.Test.YtldnpkkimlnigaaLenP4
import Derived.Deep.RegionHeld3
namespace Go.Proofs.Ytldnpkkimlnigaa
open Go.RowKit

def numsK : List Nat := [0, 127, 128, 255, 256, 65535, 65536, 16777215]
def sizesK : List Nat := [1, 1, 2, 2, 3, 3, 4, 4]
theorem known_all (k : Nat) (h : k < 8) : szI ((numsK.getD k 0 : Nat) : Int) = sizesK.getD k 0 ∧ numsK.getD k 0 ≤ 16777215 ∧ sizesK.getD k 0 ≤ 4 ∧ totI 5 ((numsK.getD k 0 : Nat) : Int) = 5 + ((sizesK.getD k 0 : Nat) : Int) + ((numsK.getD k 0 : Nat) : Int) :=
  (show ∀ k : Fin 8, szI ((numsK.getD k.val 0 : Nat) : Int) = sizesK.getD k.val 0 ∧ numsK.getD k.val 0 ≤ 16777215 ∧ sizesK.getD k.val 0 ≤ 4 ∧ totI 5 ((numsK.getD k.val 0 : Nat) : Int) = 5 + ((sizesK.getD k.val 0 : Nat) : Int) + ((numsK.getD k.val 0 : Nat) : Int) by decide +kernel) ⟨k, h⟩
def cellsI (l : List Nat) : List Value := l.map fun (x : Nat) => .int .i64 (x : Int)
theorem cellsN_at (k : Nat) (h : k < 8) : (cellsI numsK)[k]? = some (.int .i64 ((numsK.getD k 0 : Nat) : Int)) := by
  unfold cellsI
  rw [List.getElem?_map, List.getD_eq_getElem?_getD, List.getElem?_eq_getElem (show k < numsK.length from h)]
  rfl
theorem cellsS_at (k : Nat) (h : k < 8) : (cellsI sizesK)[k]? = some (.int .i64 ((sizesK.getD k 0 : Nat) : Int)) := by
  unfold cellsI
  rw [List.getElem?_map, List.getD_eq_getElem?_getD, List.getElem?_eq_getElem (show k < sizesK.length from h)]
  rfl
def KRel (w : World) (wr : World) : Prop := Bk wr w.heap.size 3 (cellsI numsK) ∧ Bk wr (w.heap.size + 1) 3 (cellsI sizesK) ∧ Below w.heap.size w wr
theorem KRel.step {w W W' : World} (h : KRel w W) (hb : Below W.heap.size W W') : KRel w W' := ⟨h.1.below hb h.1.lt, h.2.1.below hb h.2.1.lt, h.2.2.trans (hb.mono h.2.2.size)⟩
theorem KRel.start (w : World) : KRel w ((w.alloc (.cells (cellsI numsK).toArray 3)).alloc (.cells (cellsI sizesK).toArray 3)) := by
  have h2 := Bk.new (w.alloc (.cells (cellsI numsK).toArray 3)) 3 (cellsI sizesK)
  rw [World.size_alloc] at h2
  exact ⟨(Bk.new w 3 (cellsI numsK)).alloc _, h2, ((Below.refl _ _).alloc (Nat.le_refl _) _).alloc (by simp) _⟩
theorem get_lit (w : World) (l : List Nat) (N : Nat) (h : Lt 256 l) (hN : l.length = N) :
    Calls Try.prog 5 #[.slice (some ⟨w.heap.size, 0, none⟩) N N] (w.alloc (.cells (cs8 l).toArray 5)) fun e w' => e = .returned (.bool true) ∧ Below w.heap.size w w' := by
  subst hN
  exact (get_walk _ l l.length _ (lit_rb w l h) (Nat.le_refl _)).mono fun _ _ ⟨h1, h2⟩ => ⟨h1, (bel1 _ _).trans (h2.mono (bel1 _ _).size)⟩
theorem lt_cons {k : Nat} {l : List Nat} (hk : k < 256) (h : l.all (fun x => decide (x < 256)) = true) : Lt 256 (k :: l) := Lt.cons hk (lt_lit h)

theorem w64a {s : Nat} (h : s ≤ 4) : IntKind.i64.wrap (5 + (s : Int)) = 5 + (s : Int) := wraps_i64 _ (by omega) (by omega)
theorem w64b {s n : Nat} (h : s ≤ 4) (hn : n ≤ 16777215) : IntKind.i64.wrap (5 + (s : Int) + (n : Int)) = 5 + (s : Int) + (n : Int) := wraps_i64 _ (by omega) (by omega)
theorem w32 {n : Nat} (hn : n ≤ 16777215) : IntKind.u32.wrap (n : Int) = (n : Int) := by rw [IntKind.wrap_u32]; omega
set_option maxHeartbeats 4000000 in
set_option maxRecDepth 100000 in
theorem known_walk (w : World) :
    Calls Try.prog 7 #[] w fun e w' => e = .returned (.bool true) ∧ Below w.heap.size w w' := by
  have K0 := Lib.hid (KRel.start w)
  go_enter Try.func7, Try.ntmps7
  go_wp2_with fail
  go_loopw [3] (fun i wr => ∃ k : Nat, k ≤ 8 ∧ i = .int .i64 (k : Int) ∧ KRel w wr) (fun i _ => 8 - (intOf i).toNat)
  case atStart => exact ⟨0, by omega, rfl, K0.out⟩
  case round =>
    obtain ⟨k, hk, rfl, hrel⟩ := hrel
    have HR := Lib.hid hrel
    clear hrel K0
    by_cases hk8 : k = 8
    · subst hk8
      rw [show ((8 : Nat) : Int) = (8 : Int) from rfl]
      have B0 : Hid (Below w.heap.size w wr) := Lib.hid HR.out.2.2
      clear HR
      go_wp2_with fail
      go_loopw [4] (fun i wr => ∃ k : Nat, k ≤ 256 ∧ i = .int .i64 (k : Int) ∧ Below w.heap.size w wr) (fun i _ => 256 - (intOf i).toNat)
      case atStart => exact ⟨0, by omega, rfl, B0.out⟩
      case round =>
        clear B0 hk
        obtain ⟨k, hk, rfl, hrel⟩ := hrel
        have B0 := Lib.hid hrel
        clear hrel
        by_cases hk2 : k = 256
        · subst hk2
          go_wp2_with fail
          refine (size_any (-1) _).mono ?_
          rintro e w' ⟨rfl, rfl⟩
          rw [show ((szI (-1) : Nat) : Int) = 0 from by decide]
          go_wp2_with fail
          refine (size_any 16777216 _).mono ?_
          rintro e w' ⟨rfl, rfl⟩
          rw [show ((szI 16777216 : Nat) : Int) = 0 from by decide]
          go_wp2_with fail
          refine (total_any 1 16777216 _).mono ?_
          rintro e w' ⟨rfl, rfl⟩
          rw [show totI 1 16777216 = 0 from by decide]
          go_wp2_with fail
          refine (lives1 _).mono ?_
          rintro e w1 ⟨rfl, hb⟩
          have B1 := bt B0 (Lib.hid hb)
          clear hb
          go_wp2_with fail
          go_ret
          exact ⟨rfl, B1.out⟩
        · have hk3 : k < 256 := by omega
          have hd : decide ((k : Int) < 256) = true := by simp; omega
          clear hk2
          go_wp2_with fail
          refine (get_lit _ [k] 1 (lt_cons hk3 rfl) rfl).mono ?_
          rintro e w1 ⟨rfl, hb⟩
          have B1 := bt B0 (Lib.hid hb)
          clear hb
          go_wp2_with fail
          refine (get_lit _ [k, 0, 1, 2] 4 (lt_cons hk3 rfl) rfl).mono ?_
          rintro e w2 ⟨rfl, hb⟩
          have B2 := bt B1 (Lib.hid hb)
          clear hb
          go_wp2_with fail
          refine (get_lit _ [k, 200, 1, 2, 3] 5 (lt_cons hk3 rfl) rfl).mono ?_
          rintro e w3 ⟨rfl, hb⟩
          have B3 := bt B2 (Lib.hid hb)
          clear hb
          go_wp2_with fail
          exact ⟨⟨k + 1, by omega, by go_num, B3.out⟩, by simp [intOf]; omega⟩
    · have hk2 : k < 8 := by omega
      obtain ⟨hsz, hn, hs, htot⟩ := known_all k hk2
      have hcn := cellsN_at k hk2
      have hcs := cellsS_at k hk2
      obtain ⟨n, hne⟩ : ∃ n, numsK.getD k 0 = n := ⟨_, rfl⟩
      obtain ⟨s, hse⟩ : ∃ s, sizesK.getD k 0 = s := ⟨_, rfl⟩
      rw [hne] at hsz hn htot hcn
      rw [hse] at hsz hs htot hcs
      have c0 := HR.out.1.cell k
      rw [hcn] at c0
      have c1 := HR.out.2.1.cell k
      rw [hcs] at c1
      have hz0 := HR.out.1.lt
      have hz1 := HR.out.2.1.lt
      have kS : ∀ W : World, Below wr.heap.size wr W → W.cell? ⟨w.heap.size, k, none⟩ = some (.int .i64 (n : Int)) ∧ W.cell? ⟨w.heap.size + 1, k, none⟩ = some (.int .i64 (s : Int)) := fun W h =>
        ⟨(h.cell (p := ⟨w.heap.size, k, none⟩) hz0).trans c0, (h.cell (p := ⟨w.heap.size + 1, k, none⟩) hz1).trans c1⟩
      have HkS := Lib.hid kS
      have HSz := Lib.hid hsz
      have HTot := Lib.hid htot
      have b1 := Below.refl wr.heap.size wr
      have hsb : ((s : Int) != (s : Int)) = false := by simp
      have htb : (5 + (s : Int) + (n : Int) != 5 + (s : Int) + (n : Int)) = false := by simp
      have hw1 := w64a hs
      have hw2 := w64b hs hn
      have hw3 := w32 hn
      have hd8 : decide ((k : Int) < 8) = true := by simp; omega
      have hki : (k : Int) < 8 := by omega
      clear kS hsz htot hcn hcs hne hse hk8 hk
      go_wp2_with fail
      go_region_held3 (fun w' => w'.cell? ⟨w.heap.size, k, none⟩ = some (.int .i64 (n : Int)) ∧ w'.cell? ⟨w.heap.size + 1, k, none⟩ = some (.int .i64 (s : Int)))
        (first | exact HkS.out _ b1.drew | exact HkS.out _ (b1.drew.trans (hb2.mono b1.drew.size)) | exact HkS.out _ ((b1.drew.trans (hb2.mono b1.drew.size)).trans (hb3.mono (b1.drew.trans (hb2.mono b1.drew.size)).size)))
        (first | (go_at_call 10; refine (size_any (n : Int) _).mono ?_; rw [HSz.out]; rintro e w' ⟨rfl, rfl⟩) | (go_at_call 15; refine (total_any 5 (n : Int) _).mono ?_; rw [HTot.out]; rintro e w' ⟨rfl, rfl⟩) | (go_at_call 3; refine (put_walk (n : Int) _).mono ?_; rintro e w2 ⟨rfl, hb2⟩) | (go_at_call 4; refine (back_walk n none [] 0 0 _ (by omega) Rb.nil (by omega)).mono ?_; rintro e w3 ⟨rfl, hb3⟩))
      all_goals go_wp2_with fail
      all_goals exact ⟨⟨k + 1, by omega, by go_num, HR.out.step ((b1.drew.trans (hb2.mono b1.drew.size)).trans (hb3.mono (b1.drew.trans (hb2.mono b1.drew.size)).size))⟩, by simp [intOf]; try omega⟩

open Go.ChangeShapes Go.WideShapes Go.ChangeAt
set_option maxRecDepth 100000 in
theorem lengthsKnown_lifted (os : Os) (started : os.Started) (H : Type) (enc : TypeId × Value → H) :
    ReturnsInHanded {} Try.checked os 7 .any (Rows.lengthsKnownSpec.pre6 enc Try.prog Try.f7 Rows.lengthsKnownRow.domain false) (Rows.lengthsKnownSpec.post enc Try.prog Try.f7 false true false false) := by
  refine returnsInHanded_of_change (C := Try.checked) x_own started (by kernel_rfl) Try.func7
    (ChangeSpec.witness6 (enc := enc) (C := Try.checked) false ⟨#[], #[], []⟩ 8 (by kernel_rfl) (by kernel_rfl) (by kernel_rfl) (by kernel_rfl)) ?_
  intro W base args ds gs before hval0 hW hcnd _
  have hval : ∀ (j : Nat) t v, Try.f7.params[j]? = some t → args[j]? = some v → Value.okWide Try.prog W .any base t v := hval0
  have hW' := hW
  obtain ⟨p, q, hA0, hV, rfl, hfz, hnd⟩ := hW
  have hA : DataW.TrodAll enc Try.prog W 0 (fun _ => true) true Try.f7.params.toList args.toList ds p := hA0
  rw [Try.params7] at hA hval
  obtain ⟨rfl, rfl, rfl⟩ := trodAll_none hA
  obtain ⟨rfl, rfl⟩ := trodVars_none hV
  clear hA0 hval0
  refine (known_walk W).mono fun e W' ⟨he, hb⟩ => ?_
  subst he
  exact ⟨_, rfl, law_post (tb := 4) x_laid (by decide +kernel) rfl rfl (by kernel_rfl) Try.underlying4 hW' hb⟩

/-- The statement. -/
theorem lengthsKnown_holds : Rows.LengthsKnownSaid :=
  OpenClaim.holds_of_wide 7 Try.f7 rfl rfl rfl rfl rfl rfl rfl ⟨rfl, rfl, rfl, rfl, rfl⟩ rfl rfl rfl rfl rfl (by kernel_rfl) Try.func7 (by kernel_rfl)
    (of_decide_eq_true (by kernel_rfl)) (by unfold Func.isWrapper; first | (rw [if_pos (by decide +kernel)]; kernel_rfl) | (rw [if_neg (by decide +kernel)]; exact ⟨rfl, rfl⟩))
    (fun os started H enc _ => lengthsKnown_lifted os started H enc)
end Go.Proofs.Ytldnpkkimlnigaa
