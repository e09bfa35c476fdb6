/-
  Layer 9: the contract of Element.
  Conditions: unicode/utf8's tables hold what its text lays.
-/
import Derived.Test.YthefnfjhnallfaaDoorChsJ
namespace Go.Proofs.YthefnfjhnallfaaDoor.Chs
open Go.RowKit Go.Shelf

theorem _root_.Go.Proofs.YthefnfjhnallfaaDoor.Rb.kept {a w : World} {g : Nat} {A : Option Addr} {l : List Nat} (h : Rb a A l) (hA : ∀ q, A = some q → q.block ≠ g) (k : a.grownBy w (some g)) : Rb w A l := ⟨fun hn => by
  obtain ⟨b, off, e, hb, hc⟩ := h.1 hn
  have hbk := k.block b hb (fun e2 => by injection e2 with e2; exact hA _ e e2)
  refine ⟨b, off, e, Nat.lt_of_lt_of_le hb k.size, fun j u hu => ?_⟩
  rw [← hc j u hu]
  unfold World.cell?
  rw [hbk], h.2⟩
@[reducible] def tagV (c n : Nat) (k : Bool) : Value := .agg #[.int .u8 (c : Int), .bool k, .int .u32 (n : Int)]
theorem tag_any (n : Nat) (w : World) : Calls Tryd.prog 35 #[.int .u32 (n : Int)] w fun e w' => e = .returned (tagV 0 n false) ∧ Below w.heap.size w w' := by
  go_enter Tryd.func35, Tryd.ntmps35
  go_wp2_with fail
  exact bodyPost_ret (v := tagV 0 n false) (by simp [results, Tryd.results35, go_sem]) rfl ⟨rfl, bel1 _ _⟩
/-- The cells of an element. -/
def eL (n : Nat) (u v : Value) : List Value := [.int .u8 0, .bool false, .int .u32 (n : Int), u, v]
theorem eL_one (n : Nat) (A B : Option Addr) (l c m d : Nat) : (eL n (.slice A l c) (.slice B m d)).all (·.oneCell') = true := rfl
theorem infoE : (Tryd.prog.info? 40).map (·.size) = some 5 := by kernel_rfl
theorem zeroE : ∀ w : World, (zeroValue 40).run Tryd.prog w = .ok (.agg #[.int .u8 0, .bool false, .int .u32 0, .slice none 0 0, .slice none 0 0]) w := fun _ => by kernel_rfl
theorem loadE {w : World} {g n : Nat} {u v : Value} {t : TypeId} (h : Bk w g t (eL n u v)) : (loadVar 40 ⟨g, 0, none⟩).run Tryd.prog w = .ok (.agg (eL n u v).toArray) w :=
  run_loadVar_row (P := Tryd.prog) _ _ _ _ _ _ _ h Tryd.underlying40 rfl (by rw [List.size_toArray]; exact infoE)
/-- What Element answers: the number and the error. -/
def elN (k : Nat) (l : List Nat) : Nat := if chkC k l = 0 then k else 0

set_option linter.unusedSimpArgs false in
set_option maxHeartbeats 4000000 in
set_option maxRecDepth 100000 in
theorem element_any (k : Nat) (hk : k < 4294967296) (l : List Nat) (h8 : All8 l) (hl : l.length ≤ 9000000000000000000) (w : World) (hT : Tab w) :
    Calls Tryd.prog 16 #[chV k (bstr l)] w fun e w' => (∃ A, e = .returned (.tuple #[.agg (eL (elN k l) (.slice A (putL k l).length (putL k l).length) (.slice none 0 0)).toArray, .int .i64 (chkC k l : Int)]) ∧ Rb w' A (putL k l) ∧ ∀ q, A = some q → w.heap.size ≤ q.block) ∧ Below w.heap.size w w' := by
  have hz := zeroE
  have CP := Lib.hid (fun W h => put9_any k hk l h8 hl W h)
  have CT := Lib.hid (fun W => tag_any k W)
  have HPN : Hid (chkC k l ≠ 0 → putL k l = []) := Lib.hid (fun h => by unfold putL; rw [if_neg h])
  obtain ⟨PL, hPL⟩ : ∃ P, putL k l = P := ⟨_, rfl⟩
  rw [hPL] at CP HPN ⊢
  obtain ⟨N, hN⟩ : ∃ N, PL.length = N := ⟨_, rfl⟩
  rw [hN] at CP ⊢
  have HN := Lib.hid hN
  obtain ⟨E, hE⟩ : ∃ E, elN k l = E := ⟨_, rfl⟩
  have HE : Hid (E = if chkC k l = 0 then k else 0) := Lib.hid hE.symm
  rw [hE]
  obtain ⟨S, hS⟩ : ∃ S, bstr l = S := ⟨_, rfl⟩
  rw [hS] at CP ⊢
  obtain ⟨f1, hf1⟩ : ∃ f, chkC k l = f := ⟨_, rfl⟩
  rw [hf1] at CP HPN HE ⊢
  have T0 := Lib.hid hT
  obtain ⟨w1, hw1⟩ : ∃ w1, (w.alloc (.cells #[.int .u32 (k : Int), .string S] 24)).alloc (.cells #[.int .u8 0, .bool false, .int .u32 0, .slice none 0 0, .slice none 0 0] 40) = w1 := ⟨_, rfl⟩
  have B1 : Hid (Below w.heap.size w w1) := Lib.hid (by rw [← hw1]; exact (bel1 w _).alloc (by simp) _)
  obtain ⟨g, hg⟩ : ∃ g, w.heap.size = g := ⟨_, rfl⟩
  obtain ⟨g2, hg2⟩ : ∃ g2, g + 1 = g2 := ⟨_, rfl⟩
  have K1 : Hid (Bk w1 g 24 (chL k S)) := Lib.hid (by rw [← hw1, ← hg]; exact (Bk.new w _ (chL k S)).alloc _)
  have R1 : Hid (Bk w1 g2 40 (eL 0 (.slice none 0 0) (.slice none 0 0))) := Lib.hid (by
    rw [← hw1, ← hg2, ← hg]
    have := Bk.new (w.alloc (.cells (chL k S).toArray 24)) 40 (eL 0 (.slice none 0 0) (.slice none 0 0))
    rwa [World.size_alloc] at this)
  have HW1 := Lib.hid hw1
  have HG := Lib.hid hg
  have HG2 := Lib.hid hg2
  clear hT hS h8 hw1 hg hg2 hf1 hE hN hPL
  go_enter Tryd.func16, Tryd.ntmps16
  go_upto_region 1 with fail
  rw [HW1.out, HG.out, HG2.out]
  go_wp2_with (refine wpList_loadG rfl (.tmp 1) rfl rfl (rangeB K1.out) Tryd.underlying24 rfl infoCh ?_)
  refine (CP.out _ (T0.out.below B1.out)).mono ?_
  rintro e w2 ⟨⟨A, rfl, hrb, hfr⟩, hb⟩
  have HRB := Lib.hid hrb
  have HFR : Hid (∀ q, A = some q → w1.heap.size ≤ q.block) := Lib.hid hfr
  have HB1S : Hid (w.heap.size ≤ w1.heap.size ∧ g2 < w1.heap.size) := Lib.hid ⟨B1.out.size, R1.out.lt⟩
  have B2 := bt B1 (Lib.hid hb)
  have K2 := kt K1 (Lib.hid hb)
  have R2 := kt R1 (Lib.hid hb)
  clear hb hrb hfr B1 K1 R1
  by_cases h1 : f1 = 0
  rotate_left
  · have hfb : ((f1 : Int) != 0) = true := by rw [bne_iff_ne]; omega
    have HE0 : Hid (E = 0) := Lib.hid (by rw [HE.out, if_neg h1])
    have HP0 : Hid (PL = []) := Lib.hid (HPN.out h1)
    have HN0 : Hid (N = 0) := Lib.hid (by rw [← HN.out, HP0.out]; rfl)
    clear h1
    go_wp2_with (refine wpList_storeG rfl (.tmp 2) (.tmp 13) rfl rfl (ds := eL 0 (.slice none 0 0) (.slice none 0 0)) rfl R2.out infoE rfl (eL_one _ _ _ _ _ _ _) ?_
                 intro w3 R3 hg3 hz3
                 have HR3 := Lib.hid R3
                 have B3 := Lib.hid (B2.out.grown hg3 B2.out.size (fun k e => by injection e with e; have := HG.out; have := HG2.out; omega))
                 clear R3 hg3 hz3)
    exact retG2 rfl rfl rfl (loadE HR3.out) rfl ⟨⟨none, by rw [HE0.out, HN0.out]; rfl, by rw [HP0.out]; exact Rb.nil, fun q e => by cases e⟩, B3.out⟩
  · subst h1
    have HEK : Hid (E = k) := Lib.hid (by rw [HE.out, if_pos rfl])
    have c0 : w2.cell? ⟨g, 0, none⟩ = some (.int .u32 (k : Int)) := by rw [K2.out.cell]; rfl
    go_wp2_with fail
    refine (CT.out _).mono ?_
    rintro e w3 ⟨rfl, hb⟩
    have B3 := bt B2 (Lib.hid hb)
    have R3 := kt R2 (Lib.hid hb)
    have HRB3 := Lib.hid (HRB.out.below hb)
    clear hb B2 R2 c0 HRB
    go_wp2_with (refine wpList_storeG rfl (.tmp 2) (.tmp 19) rfl rfl (ds := eL k (.slice A N N) (.slice none 0 0)) rfl R3.out infoE rfl (eL_one _ _ _ _ _ _ _) ?_
                 intro w4 R4 hg4 hz4
                 have HR4 := Lib.hid R4
                 have B4 := Lib.hid (B3.out.grown hg4 B3.out.size (fun k e => by injection e with e; have := HG.out; have := HG2.out; omega))
                 have HGR := Lib.hid hg4
                 clear R4 hg4 hz4)
    exact retG2 rfl rfl rfl (loadE HR4.out) rfl ⟨⟨A, by rw [HEK.out]; rfl, HRB3.out.kept (fun q e h => by have := HFR.out q e; have := HB1S.out.2; omega) HGR.out, fun q e => Nat.le_trans HB1S.out.1 (HFR.out q e)⟩, B4.out⟩
end Go.Proofs.YthefnfjhnallfaaDoor.Chs
