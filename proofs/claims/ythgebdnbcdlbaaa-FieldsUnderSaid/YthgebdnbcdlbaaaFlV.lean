/-
  FieldsUnder: an index is put in front of the path of a fault, and of no other: the law returns true for every slice of ints, every byte and every two numbers, and leaves what it was given as it was.
  Conditions: none.
-/
import Derived.Test.YthgebdnbcdlbaaaFlP
import Derived.Test.YthgebdnbcdlbaaaFlU
namespace Go.Proofs.Ythgebdnbcdlbaaa.Fl
open Go.RowKit
open Go.WideMaps Go.WideElems

open Go.ChangeShapes Go.WideShapes Go.ChangeAt
set_option maxRecDepth 100000 in
theorem fieldsUnder_lifted (os : Os) (started : os.Started) (H : Type) (enc : TypeId × Value → H) :
    ReturnsInHanded {} Try.checked os 8 .any (Rows.fieldsUnderSpec.pre6 enc Try.prog Try.f8 Rows.fieldsUnderRow.domain false) (Rows.fieldsUnderSpec.post enc Try.prog Try.f8 false true false false) := by
  refine returnsInHanded_of_change (C := Try.checked) x_own started (by kernel_rfl) Try.func8
    (ChangeSpec.witness6 (enc := enc) (C := Try.checked) false ⟨#[], #[.slice none 0 0, .int .u8 0, .agg #[.int .i64 0, .int .i64 0]], []⟩ 8 (by kernel_rfl) (by kernel_rfl) (by kernel_rfl) (by kernel_rfl)) ?_
  intro W base args ds gs before hval0 hW hcnd _
  have hval : ∀ (j : Nat) t v, Try.f8.params[j]? = some t → args[j]? = some v → Value.okWide Try.prog W .any base t v := hval0
  have hW' := hW
  obtain ⟨p, q, hA0, hV, rfl, hfz, hnd⟩ := hW
  have hA : DataW.TrodAll enc Try.prog W 0 (fun _ => true) true Try.f8.params.toList args.toList ds p := hA0
  rw [Try.params8] at hA hval
  obtain ⟨v0, v1, v2, d0, d1, d2, p0, p1, p2, rfl, rfl, rfl, h0, h1, h2⟩ := trodAll_three hA
  obtain ⟨rfl, rfl⟩ := trodVars_none hV
  obtain ⟨A, l, c, rfl, hA1, hm1, hl1⟩ := open_path (hval 0 _ _ rfl rfl) h0
  obtain ⟨n, rfl, hn1⟩ := open_u8 (hval 1 _ _ rfl rfl) h1
  obtain ⟨z0, z1, rfl, hz0, hz1⟩ := open_i2 (hval 2 _ _ rfl rfl) h2
  clear hA0 hval0
  refine (under_law (fun W => lives_any W) l A l.length c n z0 z1 W hA1 rfl hn1 hl1 hz0).mono fun e W' ⟨he, hb⟩ => ?_
  subst he
  exact ⟨_, rfl, law_post (tb := 4) x_laid (by decide +kernel) rfl rfl (by kernel_rfl) Try.underlying4 hW' hb⟩

/-- The statement. -/
theorem fieldsUnder_holds : Rows.FieldsUnderSaid :=
  OpenClaim.holds_of_wide 8 Try.f8 rfl rfl rfl rfl rfl rfl rfl ⟨rfl, rfl, rfl, rfl, rfl⟩ rfl rfl rfl rfl rfl (by kernel_rfl) Try.func8 (by kernel_rfl)
    (of_decide_eq_true (by kernel_rfl)) (by unfold Func.isWrapper; first | (rw [if_pos (by decide +kernel)]; kernel_rfl) | (rw [if_neg (by decide +kernel)]; exact ⟨rfl, rfl⟩))
    (fun os started H enc _ => fieldsUnder_lifted os started H enc)
end Go.Proofs.Ythgebdnbcdlbaaa.Fl
