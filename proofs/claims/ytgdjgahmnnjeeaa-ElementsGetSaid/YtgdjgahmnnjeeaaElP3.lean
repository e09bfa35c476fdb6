/-
  Layer 4, the statement ElementsGet: Get returns the element of the definition, or the first error with its offset; an element that it returns has exactly the encoding that was read; the examples of the chapter hold.
  Conditions: none.
-/
import Derived.Test.YtgdjgahmnnjeeaaElNx
import Derived.Test.YtgdjgahmnnjeeaaElRow
namespace Go.Proofs.Ytgdjgahmnnjeeaa
open Go.ChangeShapes Go.WideShapes Go.ChangeAt Go.RowKit

set_option maxRecDepth 100000 in
theorem ok_bytes {W : World} {base : Nat} {A : Option Addr} {L c : Nat} (h : Value.okWide Try.prog W .any base 26 (.slice A L c)) : (A = none ∧ c = 0) ∨ ∃ ba off, A = some ⟨ba, off, none⟩ ∧ ba < W.heap.size := by
  simp only [Value.okWide, Try.underlying26, Cell.okWide, Cell.ok] at h
  cases A with
  | none =>
    left
    refine ⟨rfl, ?_⟩
    revert h
    cases c with
    | zero => intro _; rfl
    | succ c => intro h; split at h <;> simp_all
  | some a =>
    right
    obtain ⟨b, off, sp⟩ := a
    have h2 : (World.has Try.prog W .any base ⟨b, off, sp⟩ 5 c) := by
      split at h <;> simp_all
    obtain ⟨_, h3, row, cells, h4, _⟩ := h2
    dsimp only at h3 h4
    subst h3
    refine ⟨b, off, rfl, ?_⟩
    rcases Nat.lt_or_ge b W.heap.size with h5 | h5
    · exact h5
    · unfold World.shape? at h4
      simp [Array.getElem?_eq_none h5] at h4
theorem get_cnt {lst : List Nat} (h8 : All8 lst) {x : El} {a f : Nat} (hr : resX (getX lst) = (x, a, f)) : manE x 9000 ≤ 9000 := by
  unfold getX nextX at hr
  split at hr
  · rename_i f' a' h
    simp only [resX, Prod.mk.injEq] at hr
    rw [← hr.1]; decide +kernel
  · rename_i x' z b' h
    split at h
    · cases h
    · obtain ⟨_, _, _, _, h5, h6⟩ := nx_put 17 1 lst 0 x' z b' h8 h
      split at hr
      · simp only [resX, Prod.mk.injEq] at hr
        rw [← hr.1]; decide +kernel
      · simp only [resX, Prod.mk.injEq] at hr
        rw [← hr.1, manE_eq]; omega
theorem get_enc {lst : List Nat} (h8 : All8 lst) (hl : lst.length ≤ 200) {x : El} {b : Nat} (h : nxE 17 lst 1 0 = .ok x lst.length b) : encE x = lst ∧ encR x = (lst, 0) ∧ depE x ≤ 10000 ∧ conOk x := by
  obtain ⟨h1, h2, _, h4, h5, h6⟩ := nx_put 17 1 lst 0 x _ b h8 h
  rw [List.take_length] at h2
  have hc : (chkE x 1 0).1 = 0 := (chkE_zero x 1 0).2 ⟨h1, by omega, by omega⟩
  have hs : sizR x = (lst.length, 0) := by unfold sizR; rw [if_neg (by rw [hc]; simp), h2, if_pos (by omega)]
  refine ⟨h2, by unfold encR; rw [hs, if_pos rfl, h2], by omega, fun _ => ?_⟩
  have := conL_le (e := x)
  rw [h2] at this; omega
set_option maxHeartbeats 1000000 in
set_option maxRecDepth 100000 in
theorem get_long (A : Option Addr) (L c : Nat) (w : World) (hL : 200 < L) :
    Calls Try.prog 5 #[.slice A L c] w fun e w' => e = .returned (.bool true) ∧ Below w.heap.size w w' := by
  go_enter Try.func5, Try.ntmps5
  go_wp2_with fail
  refine (lives_any _).mono ?_
  rintro r w7 ⟨rfl, hb⟩
  have HB7 := Lib.hid hb
  clear hb
  go_wp2_with fail
  go_ret
  exact ⟨rfl, HB7.out⟩
set_option linter.unusedSimpArgs false in
set_option maxHeartbeats 4000000 in
set_option maxRecDepth 100000 in
theorem get_walk (A : Option Addr) (lst : List Nat) (L c : Nat) (w : World) (hA : Rb w A lst) (hL : lst.length = L) (hLc : L ≤ c) (hcm : c ≤ maxLen) (hA2 : (A = none ∧ c = 0) ∨ ∃ ba off, A = some ⟨ba, off, none⟩ ∧ ba < w.heap.size) :
    Calls Try.prog 5 #[.slice A L c] w fun e w' => e = .returned (.bool true) ∧ Below w.heap.size w w' := by
  by_cases hL2 : 200 < L
  · exact get_long A L c w hL2
  obtain ⟨⟨x, a, f⟩, hr⟩ : ∃ r, resX (getX lst) = r := ⟨_, rfl⟩
  have HC := Lib.hid (rget_el w hA hL hLc hcm (by omega) hr)
  have R := Lib.hid hA
  have HA2 := Lib.hid hA2
  have HR := Lib.hid hr
  have HL := Lib.hid hL
  have B := Lib.hid (Below.refl w.heap.size w)
  clear hA hA2 hr hL
  go_enter Try.func5, Try.ntmps5
  go_wp2_with fail
  refine HC.out.mono ?_
  rintro r w2 ⟨hf0, u, rfl, hu, hb⟩
  have HF0 := Lib.hid hf0
  obtain ⟨uc, un, uk, A9, l9, q9, B9, m9, s9, rfl⟩ := hu.form
  have U := Lib.hid hu
  have HA3 := Lib.hid (HA2.out.imp id fun ⟨ba, off, h1, h2⟩ => ⟨ba, off, h1, Nat.lt_of_lt_of_le h2 hb.size⟩ : (A = none ∧ c = 0) ∨ ∃ ba off, A = some ⟨ba, off, none⟩ ∧ ba < w2.heap.size)
  clear hu hf0 HA2 HC
  have Bq := Lib.hid (B.out.trans (hb.mono B.out.size))
  have Rq := Lib.hid (R.out.below hb)
  clear B R
  have B := Bq
  have R := Rq
  clear Bq Rq hb
  obtain ⟨D, hD⟩ : ∃ D, w2.heap.size = D := ⟨_, rfl⟩
  obtain ⟨wz, hwz⟩ : ∃ wz, w2.alloc (.cells #[.int .u8 0, .bool false, .int .u32 0, .slice none 0 0, .slice none 0 0] 29) = wz := ⟨_, rfl⟩
  have hkz : Bk wz D 29 elZ := by rw [← hwz, ← hD]; exact Bk.new w2 _ elZ
  have hbz : Below D w2 wz := by rw [← hwz, ← hD]; exact bel1 w2 _
  obtain ⟨z0, z1, z2, z3, z4, zz⟩ := hkz.five
  obtain ⟨g0, g1, g2, g3, g4⟩ := hkz.free5
  obtain ⟨w3, hw4⟩ : ∃ w4, (((((wz.setCell ⟨D, 0, none⟩ (.int .u8 (uc : Int))).setCell ⟨D, 1, none⟩ (.bool uk)).setCell ⟨D, 2, none⟩ (.int .u32 (un : Int))).setCell ⟨D, 3, none⟩ (.slice A9 l9 q9)).setCell ⟨D, 4, none⟩ (.slice B9 m9 s9)) = w4 := ⟨_, rfl⟩
  have hk4 : Bk w3 D 29 [.int .u8 (uc : Int), .bool uk, .int .u32 (un : Int), .slice A9 l9 q9, .slice B9 m9 s9] := by rw [← hw4]; exact ((((hkz.store 0 (.int .u8 (uc : Int))).store 1 (.bool uk)).store 2 (.int .u32 (un : Int))).store 3 (.slice A9 l9 q9)).store 4 (.slice B9 m9 s9)
  have hl := Nat.le_refl D
  have hb4 : Below w2.heap.size w2 w3 := by rw [hD, ← hw4]; exact ((((hbz.setCell (p := ⟨D, 0, none⟩) hl _).setCell (p := ⟨D, 1, none⟩) hl _).setCell (p := ⟨D, 2, none⟩) hl _).setCell (p := ⟨D, 3, none⟩) hl _).setCell (p := ⟨D, 4, none⟩) hl _
  have KD := Lib.hid hk4
  have HA4 := Lib.hid (HA3.out.imp id fun ⟨ba, off, h1, h2⟩ => ⟨ba, off, h1, Nat.lt_of_lt_of_le h2 hb4.size⟩ : (A = none ∧ c = 0) ∨ ∃ ba off, A = some ⟨ba, off, none⟩ ∧ ba < w3.heap.size)
  have Bq := Lib.hid (B.out.trans (hb4.mono B.out.size))
  have Rq := Lib.hid (R.out.below hb4)
  have Uq := Lib.hid (U.out.stay hb4)
  clear B R U
  have B := Bq
  have R := Rq
  have U := Uq
  clear Bq Rq Uq hb4
  clear hkz hbz hk4 hl HA3
  go_upto_region 4 with fail
  clear z0 z1 z2 z3 z4 zz g0 g1 g2 g3 g4 hw4 hwz hD
  obtain ⟨x0, x1, x2, x3, x4, xz⟩ := KD.out.five
  go_wp2_with fail
  clear x0 x1 x2 x3 x4 xz
  refine (got_any (cap := c) _ R.out HL.out hLc hcm HA4.out (x := x) (a := a) (f := f) HR.out (get_cnt R.out.2 HR.out) U.out).mono ?_
  rintro r w4 ⟨rfl, hb⟩
  have Bq := Lib.hid (B.out.trans (hb.mono B.out.size))
  have Rq := Lib.hid (R.out.below hb)
  have Uq := Lib.hid (U.out.stay hb)
  have KDq := Lib.hid (KD.out.below hb KD.out.lt)
  clear B R U KD
  have B := Bq
  have R := Rq
  have U := Uq
  have KD := KDq
  clear Bq Rq Uq KDq hb
  by_cases hf : f = 0
  rotate_left
  · have hfb : ((f : Int) != 0) = true := by simp; exact hf
    go_wp2_with fail
    refine (lives_any _).mono ?_
    rintro r w7 ⟨rfl, hb⟩
    have Bq := Lib.hid (B.out.trans (hb.mono B.out.size))
    clear B
    have B := Bq
    clear Bq hb
    go_wp2_with fail
    go_ret
    exact ⟨rfl, B.out⟩
  obtain ⟨bb, hnx⟩ := HF0.out hf
  obtain ⟨e1, e2, e3, e4⟩ := get_enc R.out.2 (by have := HL.out; omega) hnx
  have hput := eput_any x _ w4 e3 U.out e4
  rw [e2] at hput
  have HPUT := Lib.hid hput
  have hfb : ((f : Int) != 0) = false := by simp; exact hf
  clear hput hnx e1 e2 e3 e4 HF0 HR HA4
  obtain ⟨x0, x1, x2, x3, x4, xz⟩ := KD.out.five
  go_wp2_with fail
  clear x0 x1 x2 x3 x4 xz
  refine HPUT.out.mono ?_
  rintro r w5 ⟨Q, rfl, hQ, h8, hb⟩
  (try dsimp only at hQ h8)
  have HQ := Lib.hid (show Rb w5 Q lst from ⟨hQ.rd, h8⟩)
  clear hQ h8
  have Bq := Lib.hid (B.out.trans (hb.mono B.out.size))
  have Rq := Lib.hid (R.out.below hb)
  clear B R
  have B := Bq
  have R := Rq
  clear Bq Rq hb
  have s0 := run_str8 (h := HQ.out) lst.length
  have s1 := run_str8 (h := R.out) c
  have hse := bstr_dec R.out.2 R.out.2
  rw [decide_eq_true (p := lst = lst) rfl] at hse
  (try dsimp only)
  rw [HL.out] at s0 s1 ⊢
  generalize bstr lst = ZS at *
  clear HPUT
  go_wp2_with fail
  refine (lives_any _).mono ?_
  rintro r w7 ⟨rfl, hb⟩
  have Bq := Lib.hid (B.out.trans (hb.mono B.out.size))
  clear B
  have B := Bq
  clear Bq hb
  go_wp2_with fail
  go_ret
  exact ⟨rfl, B.out⟩

open Go.ChangeShapes Go.WideShapes Go.ChangeAt
set_option maxRecDepth 100000 in
theorem elementsGet_lifted (os : Os) (started : os.Started) (H : Type) (enc : TypeId × Value → H) :
    ReturnsInHanded {} Try.checked os 5 .any (Rows.elementsGetSpec.pre6 enc Try.prog Try.f5 Rows.elementsGetRow.domain false) (Rows.elementsGetSpec.post enc Try.prog Try.f5 false true false false) := by
  refine returnsInHanded_of_change (C := Try.checked) x_own started (by kernel_rfl) Try.func5
    (ChangeSpec.witness6 (enc := enc) (C := Try.checked) false ⟨#[], #[.slice none 0 0], []⟩ 8 (by kernel_rfl) (by kernel_rfl) (by kernel_rfl) (by kernel_rfl)) ?_
  intro W base args ds gs before hval0 hW hcnd _
  have hval : ∀ (j : Nat) t v, Try.f5.params[j]? = some t → args[j]? = some v → Value.okWide Try.prog W .any base t v := hval0
  have hW' := hW
  obtain ⟨p, q, hA0, hV, rfl, hfz, hnd⟩ := hW
  have hA : DataW.TrodAll enc Try.prog W 0 (fun _ => true) true Try.f5.params.toList args.toList ds p := hA0
  rw [Try.params5] at hA hval
  obtain ⟨v0, d0, rfl, rfl, h0⟩ := trodAll_one hA
  obtain ⟨rfl, rfl⟩ := trodVars_none hV
  have hok := hval 0 _ v0 rfl rfl
  obtain ⟨A, lst, c, rfl, hA2, hlc, hm⟩ := open_bytes (hval 0 _ v0 rfl rfl) h0
  clear hA0 hval0
  refine (get_walk A lst lst.length c W hA2 rfl hlc hm (ok_bytes hok)).mono fun e W' ⟨he, hb⟩ => ?_
  subst he
  exact ⟨_, rfl, law_post (tb := 4) x_laid (by decide +kernel) rfl rfl (by kernel_rfl) Try.underlying4 hW' hb⟩

/-- The statement. -/
theorem elementsGet_holds : Rows.ElementsGetSaid :=
  OpenClaim.holds_of_wide 5 Try.f5 rfl rfl rfl rfl rfl rfl rfl ⟨rfl, rfl, rfl, rfl, rfl⟩ rfl rfl rfl rfl rfl (by kernel_rfl) Try.func5 (by kernel_rfl)
    (of_decide_eq_true (by kernel_rfl)) (by unfold Func.isWrapper; first | (rw [if_pos (by decide +kernel)]; kernel_rfl) | (rw [if_neg (by decide +kernel)]; exact ⟨rfl, rfl⟩))
    (fun os started H enc _ => elementsGet_lifted os started H enc)
end Go.Proofs.Ytgdjgahmnnjeeaa
