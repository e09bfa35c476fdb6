/-
  Layer 4: the statements' helper wide.
  Conditions: none.
-/
import Derived.Test.YtgdjgahmnnjeeaaElNe
namespace Go.Proofs.Ytgdjgahmnnjeeaa
open Go.RowKit

@[reducible] def nulE : El := .mk 0 5 false [] []
/-- An element of so many empty ones. -/
def wideE (m : Nat) : El := .mk 0 17 true [] (List.replicate m nulE)
theorem rd_nul (x : Bool) (S : Nat → Prop) (w : World) : RdE x S w nulE (elV 0 5 false (.slice none 0 0) (.slice none 0 0)) :=
  ⟨by decide, by decide, All8.nil, none, 0, none, 0, rfl, RdX.nil, Nat.le_refl _, Nat.zero_le _, Nat.le_refl _, Nat.zero_le _, fun _ => ⟨rfl, rfl⟩, trivial⟩
/-- What the loop of wide keeps, but for the counter. -/
def WidR (w : World) (B R D m : Nat) (v : Value) (wr : World) : Prop :=
  ∃ cs, Bk wr D 29 [.int .u8 0, .bool true, .int .u32 17, .slice none 0 0, v] ∧ Bk wr R 29 [.int .u8 0, .bool false, .int .u32 0, .slice none 0 0, .slice none 0 0] ∧ wr.ownsRow B 29 5 v (List.replicate m nulE).length cs ∧ RowE true (fun _ => False) wr (List.replicate m nulE) cs ∧ Below w.heap.size w wr ∧ B ≤ wr.heap.size
theorem wid_step {w : World} {B R D m : Nat} {v : Value} {wr : World} (h : WidR w B R D m v wr) (hR : R < B) (hD : D < B) (hRD : R ≠ D) (hw : w.heap.size ≤ D) (hm : m + 1 ≤ 1000000) :
    ∃ g cap w2, (Builtin.append_ #[27, 27] 27 #[v, .slice (some ⟨wr.heap.size, 0, none⟩) 1 1]).run Try.prog (wr.alloc (.cells #[.int .u8 0, .bool false, .int .u32 5, .slice none 0 0, .slice none 0 0] 29)) = .ok (.slice (some ⟨g, 0, none⟩) (m + 1) cap) w2 ∧
      Bk w2 D 29 [.int .u8 0, .bool true, .int .u32 17, .slice none 0 0, v] ∧ WidR w B R D (m + 1) (.slice (some ⟨g, 0, none⟩) (m + 1) cap) (w2.setCell ⟨D, 4, none⟩ (.slice (some ⟨g, 0, none⟩) (m + 1) cap)) := by
  obtain ⟨cs, h1, h2, h3, h4, h5, h6⟩ := h
  obtain ⟨g, cap, w2, hrun, k2, k3, k4, k5, k6, k7, _, _⟩ := row_app (e := nulE) h3 h4 (fun _ h => h.elim) (rd_nul true (fun _ => False) wr) (by rw [List.length_replicate]; exact hm) h6 m List.length_replicate
  have hrep : List.replicate m nulE ++ [nulE] = List.replicate (m + 1) nulE := by rw [List.replicate_succ']
  rw [hrep] at k2 k3
  have hvR : v.ownBlock ≠ some R := fun e => by have := (h3.lt R e).1; omega
  have hvD : v.ownBlock ≠ some D := fun e => by have := (h3.lt D e).1; omega
  have kD : Bk w2 D 29 [.int .u8 0, .bool true, .int .u32 17, .slice none 0 0, v] := h1.only k4 (fun e => hvD e.symm)
  have kR := h2.only k4 (fun e => hvR e.symm)
  have hsz := k4.size
  refine ⟨g, cap, w2, hrun, kD, _, kD.store 4 _, kR.far hRD _, own_kept k2 (fun j hj => Below.heap_setCell _ _ _ _ ?_), RowE.keep (by simp [World.setCell]) (fun _ h _ => h.1.elim) (fun _ h _ => h.1) k3, (h5.grown k4 h5.size (fun j hj => ?_)).setCell hw _, by simp only [World.setCell]; simp; omega⟩
  · have := (k2.lt j hj).1
    show j ≠ D
    omega
  · have := (h3.lt j hj).1
    omega
theorem own5_rds {x : Bool} {S T : Nat → Prop} {w : World} {B : Nat} {v : Value} {es : List El} {cs : List Value} (h : w.ownsRow B 29 5 v es.length cs) (hrow : RowE x S w es cs) (hT : ∀ j, B ≤ j → T j) (hST : ∀ j, S j → T j) :
    ∃ A c, v = .slice A es.length c ∧ es.length ≤ c ∧ c ≤ maxLen ∧ RdS x T w A es := by
  have hlt := h.lt
  have hcl := @World.ownsRow.cells _ _ _ _ _ _ _ h
  rcases h.2 with ⟨rfl, h0⟩ | ⟨g, cap, cur, rfl, hg, _, hle, hm, _⟩
  · have he : es = [] := List.eq_nil_of_length_eq_zero h0
    subst he
    exact ⟨none, 0, rfl, Nat.le_refl _, Nat.zero_le _, trivial⟩
  · exact ⟨some ⟨g, 0, none⟩, cap, rfl, hle, hm, RowE.rds (hlt g rfl).2 (hT g hg) hST hrow (fun j u hu => by have := hcl rfl j u hu; rw [addr_add] at this; exact this)⟩
set_option maxHeartbeats 2000000 in
set_option maxRecDepth 100000 in
theorem wide_any (n : Nat) (w : World) (h1 : 1 ≤ n) (h2 : n ≤ 100000) :
    Calls Try.prog 32 #[.int .i64 (n : Int)] w fun e w' => ∃ u, e = .returned u ∧ RdE false (fun i => w.heap.size ≤ i) w' (wideE (n - 1)) u ∧ Below w.heap.size w w' := by
  obtain ⟨w2, hw2⟩ : ∃ w2, (w.alloc (.cells #[.int .u8 0, .bool false, .int .u32 0, .slice none 0 0, .slice none 0 0] 29)).alloc (.cells #[.int .u8 0, .bool true, .int .u32 17, .slice none 0 0, .slice none 0 0] 29) = w2 := ⟨_, rfl⟩
  have hb2 : Below w.heap.size w w2 := by rw [← hw2]; exact bel2 w _ _
  have kr : Bk w2 w.heap.size 29 [.int .u8 0, .bool false, .int .u32 0, .slice none 0 0, .slice none 0 0] := by rw [← hw2]; exact (Bk.new w _ [_, _, _, _, _]).alloc _
  have ke : Bk w2 (w.heap.size + 1) 29 [.int .u8 0, .bool true, .int .u32 17, .slice none 0 0, .slice none 0 0] := by
    have := Bk.new (w.alloc (.cells #[.int .u8 0, .bool false, .int .u32 0, .slice none 0 0, .slice none 0 0] 29)) 29 [.int .u8 0, .bool true, .int .u32 17, .slice none 0 0, .slice none 0 0]
    rw [World.size_alloc] at this
    rw [← hw2]; exact this
  have hz2 : w2.heap.size = w.heap.size + 2 := by rw [← hw2]; simp
  obtain ⟨R, hR⟩ : ∃ R, w.heap.size = R := ⟨_, rfl⟩
  obtain ⟨D, hD⟩ : ∃ D, R + 1 = D := ⟨_, rfl⟩
  obtain ⟨B, hB⟩ : ∃ B, w2.heap.size = B := ⟨_, rfl⟩
  have hRD : R ≠ D := by omega
  have hwR : w.heap.size ≤ R := by omega
  have hwD : w.heap.size ≤ D := by omega
  have hRB : R < B := by omega
  have hDB : D < B := by omega
  have hwB : w.heap.size ≤ B := by omega
  have HW2 := Lib.hid hw2
  have HRR := Lib.hid hR
  have HDD := Lib.hid hD
  have H0 : Hid (WidR w B R D 0 (.slice none 0 0) w2) := Lib.hid ⟨[], by rw [← hD, ← hR]; exact ke, by rw [← hR]; exact kr, World.ownsRow_nil _ _ _ _, rfl, hb2, Nat.le_of_eq hB.symm⟩
  clear hb2 hw2 hR hD kr ke hB hz2
  go_enter Try.func32, Try.ntmps32
  go_upto_region 3 with fail
  rw [HW2.out, HRR.out, HDD.out]
  go_loopw [4] (fun i wr => ∃ (p : Nat) (v : Value), 1 ≤ p ∧ p ≤ n ∧ i = .int .i64 (p : Int) ∧ WidR w B R D (p - 1) v wr) (fun i _ => n - (intOf i).toNat)
  case atStart => exact ⟨1, .slice none 0 0, Nat.le_refl _, h1, rfl, H0.out⟩
  case round =>
    obtain ⟨p, v, hp1, hp2, rfl, hrl⟩ := hrel
    have HL := Lib.hid hrl
    obtain ⟨cs, q1, q2, q3, q4, q5, q6⟩ := hrl
    obtain ⟨e0, e1, e2, e3, e4, ez⟩ := q1.five
    by_cases hlt : p < n
    · obtain ⟨g, cap, w4, hrun, hk4, hnew⟩ := wid_step HL.out hRB hDB hRD hwD (by omega)
      rw [Nat.sub_add_cancel hp1] at hnew hrun
      have HN := Lib.hid hnew
      have HRUN := Lib.hid hrun
      obtain ⟨x0, x1, x2, x3, x4, xz⟩ := hk4.five
      obtain ⟨y0, y1, y2, y3, y4⟩ := hk4.free5
      clear hnew hrun hk4 q1 q2 q3 q4 q5 q6 HL
      go_wp2_with (at_builtin; refine Len.wpList_app (o := ⟨some 17, _, _, _, _, _⟩) rfl _ _ _ _ rfl _ _ rfl rfl HRUN.out ?_)
      exact ⟨⟨p + 1, _, by omega, hlt, rfl, by rw [Nat.add_sub_cancel]; exact HN.out⟩, by simp [intOf]; omega⟩
    · obtain rfl : p = n := by omega
      obtain ⟨A, c, rfl, hc1, hc2, hrds⟩ := own5_rds (T := fun j => w.heap.size ≤ j ∧ j ≠ R) q3 q4 (fun j hj => ⟨by omega, by omega⟩) (fun _ h => h.elim)
      rw [List.length_replicate] at hc1 e4
      have HE : Hid (RdE false (fun j => w.heap.size ≤ j ∧ j ≠ R) wr (wideE (p - 1)) (elV 0 17 true (.slice none 0 0) (.slice A (p - 1) c))) := Lib.hid ⟨by decide, by decide, All8.nil, none, 0, A, c, by rw [List.length_replicate]; rfl, RdX.nil, Nat.le_refl _, Nat.zero_le _, by rw [List.length_replicate]; exact hc1, hc2, fun h => (by cases h), RdS.loose _ _ hrds⟩
      obtain ⟨s0, s1, s2, s3, s4⟩ := q2.free5
      obtain ⟨r0, r1, r2, r3, r4, rz⟩ := q2.five
      have HR := Lib.hid q2
      have HB := Lib.hid q5
      clear HL q1 q2 q3 q4 q5 q6 hrds H0
      obtain ⟨M, hM⟩ : ∃ M, p - 1 = M := ⟨_, rfl⟩
      rw [hM] at HE e4 hc1
      go_wp2_with fail
      obtain ⟨t0, t1, t2, t3, t4, _⟩ := (((((HR.out.store 0 (.int .u8 0)).store 1 (.bool true)).store 2 (.int .u32 17)).store 3 (.slice none 0 0)).store 4 (.slice A M c)).five
      have HBF := ((((HB.out.setCell (p := ⟨R, 0, none⟩) hwR (.int .u8 0)).setCell (p := ⟨R, 1, none⟩) hwR (.bool true)).setCell (p := ⟨R, 2, none⟩) hwR (.int .u32 17)).setCell (p := ⟨R, 3, none⟩) hwR (.slice none 0 0)).setCell (p := ⟨R, 4, none⟩) hwR (.slice A M c)
      refine bodyPost_ret (v := .agg #[.int .u8 0, .bool true, .int .u32 17, .slice none 0 0, .slice A M c]) (by simp [results, Try.results32, go_sem, t0, t1, t2, t3, t4]) rfl ?_
      rw [hM]
      refine ⟨_, rfl, RdE.keep (S := fun j => w.heap.size ≤ j ∧ j ≠ R) (w := wr) (by simp [World.setCell]) (fun i hi _ => ?_) (fun i hi _ => And.left hi) _ _ HE.out, HBF⟩
      have hi' : i ≠ R := And.right hi
      rw [Below.heap_setCell _ _ _ _ hi', Below.heap_setCell _ _ _ _ hi', Below.heap_setCell _ _ _ _ hi', Below.heap_setCell _ _ _ _ hi', Below.heap_setCell _ _ _ _ hi']
end Go.Proofs.Ytgdjgahmnnjeeaa
