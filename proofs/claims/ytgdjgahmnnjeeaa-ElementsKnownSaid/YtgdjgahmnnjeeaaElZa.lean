/-
  Layer 4: the statements' helpers got and example.
  Conditions: what Get gives is what is asked.
-/
import Derived.Test.YtgdjgahmnnjeeaaElW
import Derived.Test.YtgdjgahmnnjeeaaElZ
import Derived.Test.YtgdjgahmnnjeeaaElQ
namespace Go.Proofs.Ytgdjgahmnnjeeaa
open Go.RowKit

/-- The empty element. -/
def zE : El := .mk 0 0 false [] []
theorem rd_zero (x : Bool) (S : Nat → Prop) (w : World) : RdE x S w zE (elV 0 0 false (.slice none 0 0) (.slice none 0 0)) :=
  ⟨by decide, by decide, All8.nil, none, 0, none, 0, rfl, RdX.nil, Nat.le_refl _, Nat.zero_le _, Nat.le_refl _, Nat.zero_le _, fun _ => ⟨rfl, rfl⟩, trivial⟩
/-- What Get returns, as three values. -/
def resX : Nx → El × Nat × Nat
  | .err f a => (zE, a, f)
  | .ok x _ _ => (x, 0, 0)
theorem get_res {A : Option Addr} {lst : List Nat} {L cap : Nat} (w : World) (hA : Rb w A lst) (hL : lst.length = L) (hLc : L ≤ cap) (hcm : cap ≤ maxLen) (hA2 : (A = none ∧ cap = 0) ∨ ∃ ba off, A = some ⟨ba, off, none⟩ ∧ ba < w.heap.size)
    {x : El} {a f : Nat} (hr : resX (getX lst) = (x, a, f)) :
    Calls Try.prog 33 #[.slice A L cap] w fun e w' => ∃ u, e = .returned (.tuple #[u, .int .i64 ((a : Nat) : Int), .int .i64 ((f : Nat) : Int)]) ∧ RdE true (fun i => w.heap.size ≤ i) w' x u ∧ Below w.heap.size w w' := by
  have := get_el w hA hL hLc hcm hA2
  cases hx : getX lst with
  | err f' a' =>
    rw [hx] at this hr
    simp only [resX, Prod.mk.injEq] at hr
    obtain ⟨rfl, rfl, rfl⟩ := hr
    exact this.mono fun e w' ⟨_, h2, h3⟩ => ⟨_, h2, rd_zero _ _ _, h3⟩
  | ok x' z b =>
    rw [hx] at this hr
    simp only [resX, Prod.mk.injEq] at hr
    obtain ⟨rfl, rfl, rfl⟩ := hr
    exact this.mono fun e w' ⟨u, h2, h3, h4⟩ => ⟨u, h2, h3, h4⟩
set_option maxHeartbeats 2000000 in
set_option maxRecDepth 100000 in
theorem got_any {A : Option Addr} {lst : List Nat} {L cap : Nat} (w : World) (hA : Rb w A lst) (hL : lst.length = L) (hLc : L ≤ cap) (hcm : cap ≤ maxLen) (hA2 : (A = none ∧ cap = 0) ∨ ∃ ba off, A = some ⟨ba, off, none⟩ ∧ ba < w.heap.size)
    {x : El} {a f : Nat} (hr : resX (getX lst) = (x, a, f)) (hm : manE x 9000 ≤ 9000) {y : Bool} {T : Nat → Prop} {v : Value} (hv : RdE y T w x v) :
    Calls Try.prog 26 #[.slice A L cap, v, .int .i64 ((a : Nat) : Int), .int .i64 ((f : Nat) : Int)] w fun e w' => e = .returned (.bool true) ∧ Below w.heap.size w w' := by
  obtain ⟨vc, vn, vk, V1, m1, r1, V2, m2, r2, rfl⟩ := hv.form
  obtain ⟨W1, hW1⟩ : ∃ W1, w.alloc (.cells #[.int .u8 (vc : Int), .bool vk, .int .u32 (vn : Int), .slice V1 m1 r1, .slice V2 m2 r2] 29) = W1 := ⟨_, rfl⟩
  have hb1 : Below w.heap.size w W1 := by rw [← hW1]; exact bel1 w _
  have k1 : Bk W1 w.heap.size 29 [.int .u8 (vc : Int), .bool vk, .int .u32 (vn : Int), .slice V1 m1 r1, .slice V2 m2 r2] := by rw [← hW1]; exact Bk.new w _ [_, _, _, _, _]
  have HC := Lib.hid (get_res W1 (hA.below hb1) hL hLc hcm (hA2.imp id fun ⟨ba, off, h1, h2⟩ => ⟨ba, off, h1, Nat.lt_of_lt_of_le h2 hb1.size⟩) hr)
  have HV1 := Lib.hid (hv.stay hb1)
  have HB1 := Lib.hid hb1
  have HK1 := Lib.hid k1
  have HW1 := Lib.hid hW1
  have hmb : decide (((manE x 9000 : Nat) : Int) ≤ 9000) = true := by simp; omega
  clear hA hL hLc hcm hA2 hr hm hv hb1 k1 hW1
  go_enter Try.func26, Try.ntmps26
  go_wp2_with fail
  rw [HW1.out]
  refine HC.out.mono ?_
  rintro e w2 ⟨u, rfl, hu, hb2⟩
  obtain ⟨c, n, k, A1, l1, q1, A2, l2, q2, rfl⟩ := hu.form
  obtain ⟨D, hD⟩ : ∃ D, w2.heap.size = D := ⟨_, rfl⟩
  obtain ⟨wz, hwz⟩ : ∃ wz, w2.alloc (.cells #[.int .u8 0, .bool false, .int .u32 0, .slice none 0 0, .slice none 0 0] 29) = wz := ⟨_, rfl⟩
  have hkz : Bk wz D 29 elZ := by rw [← hwz, ← hD]; exact Bk.new w2 _ elZ
  have hbz : Below D w2 wz := by rw [← hwz, ← hD]; exact bel1 w2 _
  obtain ⟨z0, z1, z2, z3, z4, zz⟩ := hkz.five
  obtain ⟨g0, g1, g2, g3, g4⟩ := hkz.free5
  obtain ⟨w3, hw3⟩ : ∃ w3, (((((wz.setCell ⟨D, 0, none⟩ (.int .u8 (c : Int))).setCell ⟨D, 1, none⟩ (.bool k)).setCell ⟨D, 2, none⟩ (.int .u32 (n : Int))).setCell ⟨D, 3, none⟩ (.slice A1 l1 q1)).setCell ⟨D, 4, none⟩ (.slice A2 l2 q2)) = w3 := ⟨_, rfl⟩
  have hk3 : Bk w3 D 29 [.int .u8 (c : Int), .bool k, .int .u32 (n : Int), .slice A1 l1 q1, .slice A2 l2 q2] := by rw [← hw3]; exact ((((hkz.store 0 (.int .u8 (c : Int))).store 1 (.bool k)).store 2 (.int .u32 (n : Int))).store 3 (.slice A1 l1 q1)).store 4 (.slice A2 l2 q2)
  have hl := Nat.le_refl D
  have hb3 : Below w2.heap.size w2 w3 := by rw [hD, ← hw3]; exact ((((hbz.setCell (p := ⟨D, 0, none⟩) hl _).setCell (p := ⟨D, 1, none⟩) hl _).setCell (p := ⟨D, 2, none⟩) hl _).setCell (p := ⟨D, 3, none⟩) hl _).setCell (p := ⟨D, 4, none⟩) hl _
  have hb13 := hb2.trans (hb3.mono hb2.size)
  have HU3 := Lib.hid (hu.stay hb3)
  have HV3 := Lib.hid (HV1.out.stay hb13)
  have hbw3 := HB1.out.trans (hb13.mono HB1.out.size)
  obtain ⟨f0, f1, f2, f3, f4, fz⟩ := (HK1.out.below hb13 HK1.out.lt).five
  obtain ⟨x0, x1, x2, x3, x4, xz⟩ := hk3.five
  have HC3 := Lib.hid (many_any x _ 9000 w3 (by decide) HU3.out)
  have HKD := Lib.hid hk3
  have HKW := Lib.hid (HK1.out.below hb13 HK1.out.lt)
  have HBW := Lib.hid hbw3
  clear hu hb2 hkz hbz hk3 hb3 hb13 hbw3 HC HB1 HK1 HV1
  go_wp2_with fail
  clear z0 z1 z2 z3 z4 zz g0 g1 g2 g3 g4 hw3 hwz hD f0 f1 f2 f3 f4 fz x0 x1 x2 x3 x4 xz
  refine HC3.out.mono ?_
  rintro e w4 ⟨rfl, hb⟩
  have HU4 := Lib.hid (HU3.out.stay hb)
  have HV4 := Lib.hid (HV3.out.stay hb)
  have HKD4 := Lib.hid (HKD.out.below hb HKD.out.lt)
  have HKW4 := Lib.hid (HKW.out.below hb HKW.out.lt)
  have HB4 := Lib.hid (HBW.out.trans (hb.mono HBW.out.size))
  obtain ⟨f0, f1, f2, f3, f4, fz⟩ := HKW4.out.five
  obtain ⟨x0, x1, x2, x3, x4, xz⟩ := HKD4.out.five
  clear hb HC3 HU3 HV3 HKD HKW HBW
  go_wp2_with fail
  clear f0 f1 f2 f3 f4 fz x0 x1 x2 x3 x4 xz
  refine (rsame_any x _ _ w4 HU4.out HV4.out).mono ?_
  rintro e w5 ⟨rfl, hb⟩
  have HU5 := Lib.hid (HU4.out.stay hb)
  have HB5 := Lib.hid (HB4.out.trans (hb.mono HB4.out.size))
  obtain ⟨x0, x1, x2, x3, x4, xz⟩ := (HKD4.out.below hb HKD4.out.lt).five
  clear hb HU4 HV4 HKD4 HKW4 HB4
  go_wp2_with fail
  refine (exact_any x _ w5 HU5.out).mono ?_
  rintro e w6 ⟨rfl, hb⟩
  have HB6 := Lib.hid (HB5.out.trans (hb.mono HB5.out.size))
  clear hb x0 x1 x2 x3 x4 xz HB5 HU5
  go_wp2_with fail
  go_ret
  exact ⟨rfl, HB6.out⟩
end Go.Proofs.Ytgdjgahmnnjeeaa

/-!  Layer 4: the statements' helper example.
  Conditions: none. -/
namespace Go.Proofs.Ytgdjgahmnnjeeaa
open Go.RowKit

/-- The element E of the chapter. -/
def exE : El := .mk 0 16 true [] [.mk 0 2 false [7] [], .mk 0 5 false [] []]
theorem RdX.of_rd {S : Nat → Prop} {w : World} {g off : Nat} {cs : List Value} (h : Rd w (some ⟨g, off, none⟩) cs) (hS : S g) : RdX S w (some ⟨g, off, none⟩) cs := fun hn => by
  obtain ⟨b, o, e, hb, hc⟩ := h hn
  simp only [Option.some.injEq, Addr.mk.injEq, and_true] at e
  obtain ⟨rfl, rfl⟩ := e
  exact ⟨_, _, rfl, hb, hS, hc⟩
theorem rd_null (x : Bool) (S : Nat → Prop) (w : World) : RdE x S w (.mk 0 5 false [] []) (elV 0 5 false (.slice none 0 0) (.slice none 0 0)) :=
  ⟨by decide, by decide, All8.nil, none, 0, none, 0, rfl, RdX.nil, Nat.le_refl _, Nat.zero_le _, Nat.le_refl _, Nat.zero_le _, fun _ => ⟨rfl, rfl⟩, trivial⟩
set_option maxHeartbeats 2000000 in
set_option maxRecDepth 100000 in
theorem example_any (w : World) : Calls Try.prog 24 #[] w fun e w' => ∃ a b, b < w'.heap.size ∧ e = .returned (elV 0 16 true (.slice none 0 0) (.slice (some ⟨b, 0, none⟩) 2 2)) ∧ Bk w' b 29 [.int .u8 0, .bool false, .int .u32 2, .slice a 1 1, .slice none 0 0, .int .u8 0, .bool false, .int .u32 5, .slice none 0 0, .slice none 0 0] ∧ RdE true (fun i => w.heap.size ≤ i) w' exE (elV 0 16 true (.slice none 0 0) (.slice (some ⟨b, 0, none⟩) 2 2)) ∧ Below w.heap.size w w' := by
  obtain ⟨w3, hw3⟩ : ∃ w3, ((w.alloc (.cells #[.int .u8 0, .bool true, .int .u32 16, .slice none 0 0, .slice (some ⟨w.heap.size + 1 + 1, 0, none⟩) 2 2] 29)).alloc (.cells #[.int .u8 7] 5)).alloc (.cells #[.int .u8 0, .bool false, .int .u32 2, .slice (some ⟨w.heap.size + 1, 0, none⟩) 1 1, .slice none 0 0, .int .u8 0, .bool false, .int .u32 5, .slice none 0 0, .slice none 0 0] 29) = w3 := ⟨_, rfl⟩
  have hb3 : Below w.heap.size w w3 := by rw [← hw3]; exact bel3 _ _ _ _
  have k0 : Bk w3 w.heap.size 29 [.int .u8 0, .bool true, .int .u32 16, .slice none 0 0, .slice (some ⟨w.heap.size + 1 + 1, 0, none⟩) 2 2] := by rw [← hw3]; exact ((Bk.new w _ [.int .u8 0, .bool true, .int .u32 16, .slice none 0 0, .slice (some ⟨w.heap.size + 1 + 1, 0, none⟩) 2 2]).alloc _).alloc _
  have k1 : Bk w3 (w.heap.size + 1) 5 (cs8 [7]) := by
    have := Bk.new (w.alloc (.cells #[.int .u8 0, .bool true, .int .u32 16, .slice none 0 0, .slice (some ⟨w.heap.size + 1 + 1, 0, none⟩) 2 2] 29)) 5 (cs8 [7])
    rw [World.size_alloc] at this
    rw [← hw3]; exact this.alloc _
  have k2 : Bk w3 (w.heap.size + 1 + 1) 29 [.int .u8 0, .bool false, .int .u32 2, .slice (some ⟨w.heap.size + 1, 0, none⟩) 1 1, .slice none 0 0, .int .u8 0, .bool false, .int .u32 5, .slice none 0 0, .slice none 0 0] := by
    have := Bk.new ((w.alloc (.cells #[.int .u8 0, .bool true, .int .u32 16, .slice none 0 0, .slice (some ⟨w.heap.size + 1 + 1, 0, none⟩) 2 2] 29)).alloc (.cells #[.int .u8 7] 5)) 29 [.int .u8 0, .bool false, .int .u32 2, .slice (some ⟨w.heap.size + 1, 0, none⟩) 1 1, .slice none 0 0, .int .u8 0, .bool false, .int .u32 5, .slice none 0 0, .slice none 0 0]
    rw [World.size_alloc, World.size_alloc] at this
    rw [← hw3]; exact this
  obtain ⟨e0, e1, e2, e3, e4, ez⟩ := k0.five
  have r7 : RdE true (fun i => w.heap.size ≤ i) w3 (.mk 0 2 false [7] []) (elV 0 2 false (.slice (some ⟨w.heap.size + 1, 0, none⟩) 1 1) (.slice none 0 0)) :=
    ⟨by decide, by decide, by intro y hy; simp at hy; omega, some ⟨w.heap.size + 1, 0, none⟩, 1, none, 0, rfl, RdX.of_rd (k1.rd 0) (by omega), Nat.le_refl _, by unfold maxLen; omega, Nat.le_refl _, Nat.zero_le _, fun _ => ⟨rfl, rfl⟩, trivial⟩
  have hrow : RowE true (fun i => w.heap.size ≤ i) w3 [.mk 0 2 false [7] [], .mk 0 5 false [] []] [.int .u8 0, .bool false, .int .u32 2, .slice (some ⟨w.heap.size + 1, 0, none⟩) 1 1, .slice none 0 0, .int .u8 0, .bool false, .int .u32 5, .slice none 0 0, .slice none 0 0] :=
    ⟨_, _, rfl, r7, _, [], rfl, rd_null _ _ _, rfl⟩
  have hrd : RdE true (fun i => w.heap.size ≤ i) w3 exE (elV 0 16 true (.slice none 0 0) (.slice (some ⟨w.heap.size + 1 + 1, 0, none⟩) 2 2)) :=
    ⟨by decide, by decide, All8.nil, none, 0, some ⟨w.heap.size + 1 + 1, 0, none⟩, 2, rfl, RdX.nil, Nat.le_refl _, Nat.zero_le _, Nat.le_refl _, by unfold maxLen; omega, fun _ => ⟨rfl, rfl⟩,
      RowE.rds k2.lt (by omega) (fun _ h => h) hrow (fun j u hu => by rw [k2.cell, Nat.zero_add]; exact hu)⟩
  have HR := Lib.hid hrd
  have HK2 := Lib.hid k2
  have HB := Lib.hid hb3
  have HW := Lib.hid hw3
  clear hrd hrow r7 k0 k1 k2 hb3 hw3
  go_enter Try.func24, Try.ntmps24
  go_wp2_with fail
  rw [HW.out]
  refine bodyPost_ret (v := elV 0 16 true (.slice none 0 0) (.slice (some ⟨w.heap.size + 1 + 1, 0, none⟩) 2 2)) (by simp [results, Try.results24, go_sem, e0, e1, e2, e3, e4]) rfl ?_
  exact ⟨_, _, HK2.out.lt, rfl, HK2.out, HR.out, HB.out⟩
end Go.Proofs.Ytgdjgahmnnjeeaa

/-!  Layer 4: the examples of the chapter hold: the statements' helper lives.
  Conditions: none. -/
namespace Go.Proofs.Ytgdjgahmnnjeeaa
open Go.RowKit

theorem lit8 (w : World) (l : List Nat) (h : l.all (fun x => decide (x < 256)) = true) : Rb (w.alloc (.cells (cs8 l).toArray 5)) (some ⟨w.heap.size, 0, none⟩) l :=
  ⟨by have := (Bk.new w 5 (cs8 l)).rd 0; simpa using this, fun x hx => by simpa using List.all_eq_true.1 h x hx⟩
theorem got_lit (w : World) (l : List Nat) (N : Nat) {x : El} {a f : Nat} (h : l.all (fun x => decide (x < 256)) = true) (hN : l.length = N) (hm : N ≤ 1000) (hr : resX (getX l) = (x, a, f)) (hx : manE x 9000 ≤ 9000) {y : Bool} {T : Nat → Prop} {v : Value} (hv : RdE y T w x v) :
    Calls Try.prog 26 #[.slice (some ⟨w.heap.size, 0, none⟩) N N, v, .int .i64 ((a : Nat) : Int), .int .i64 ((f : Nat) : Int)] (w.alloc (.cells (cs8 l).toArray 5)) fun e w' => e = .returned (.bool true) ∧ Below w.heap.size w w' :=
  (got_any _ (lit8 w l h) hN (Nat.le_refl _) (by unfold maxLen; omega) (Or.inr ⟨_, _, rfl, by simp⟩) hr hx (hv.stay (bel1 _ _))).mono fun _ _ ⟨h1, h2⟩ => ⟨h1, (bel1 _ _).trans (h2.mono (bel1 _ _).size)⟩
theorem got_nil (w : World) : Calls Try.prog 26 #[.slice none 0 0, elV 0 0 false (.slice none 0 0) (.slice none 0 0), .int .i64 0, .int .i64 7] w fun e w' => e = .returned (.bool true) ∧ Below w.heap.size w w' :=
  got_any (a := 0) (f := 7) w Rb.nil rfl (Nat.le_refl _) (Nat.zero_le _) (Or.inl ⟨rfl, rfl⟩) (by kernel_rfl) (by decide +kernel) (rd_zero true (fun _ => True) w)
theorem path_rd (w : World) (z : Int) : Rd (w.alloc (.cells #[.int .i64 z] 3)) (some ⟨w.heap.size, 0, none⟩) (csZ [z]) := by
  have := (Bk.new w 3 (csZ [z])).rd 0
  rw [List.drop_zero] at this
  exact this
@[reducible] def exV (b : Nat) : Value := elV 0 16 true (.slice none 0 0) (.slice (some ⟨b, 0, none⟩) 2 2)
theorem ex_dep : depE exE ≤ 10000 := by decide +kernel
theorem ex_sml : smlE exE := ⟨by decide, by decide, ⟨by decide, by decide, trivial⟩, ⟨by decide, by decide, trivial⟩, trivial⟩
theorem atex1 : atR exE [1] = .ok (.mk 0 5 false [] []) := by
  unfold atR
  rw [if_neg (by rw [show (meaR exE).2.2 = 0 from by kernel_rfl]; simp)]
  unfold exE
  rw [atE_cons (by decide) (by decide), atE_nil]
  rfl
theorem atex2 : atR exE [2] = .error 19 := by
  unfold atR
  rw [if_neg (by rw [show (meaR exE).2.2 = 0 from by kernel_rfl]; simp)]
  unfold exE
  rw [atE_no (by decide)]
theorem at_lit1 {w : World} {b : Nat} (h : RdE true (fun _ => True) w exE (exV b)) :
    Calls Try.prog 21 #[exV b, .slice (some ⟨w.heap.size, 0, none⟩) 1 1] (w.alloc (.cells #[.int .i64 1] 3)) fun e w' => ∃ A B, e = .returned (.tuple #[elV 0 5 false (.slice A 0 0) (.slice B 0 0), .int .i64 0]) ∧ RdE true (fun _ => True) w' (.mk 0 5 false [] []) (elV 0 5 false (.slice A 0 0) (.slice B 0 0)) ∧ Below w.heap.size w w' := by
  have := at_el exE (exV b) [1] _ 1 1 _ ex_dep (h.stay (bel1 w (.cells #[.int .i64 1] 3))) ex_sml (path_rd w 1) rfl (by decide)
  rw [atex1] at this
  refine this.mono fun e w' ⟨u, h1, h2, h3⟩ => ?_
  have h2' := h2
  obtain ⟨_, _, _, A, ca, B, cb, rfl, _, _, _, _, _, h10, _⟩ := h2
  obtain ⟨e1, e2⟩ := h10 rfl
  simp only [List.length_nil] at e1 e2
  subst e1 e2
  exact ⟨A, B, h1, RdE.keep (Nat.le_refl _) (fun _ _ _ => rfl) (fun _ _ _ => trivial) _ _ h2', (bel1 _ _).trans (h3.mono (bel1 _ _).size)⟩
theorem at_lit2 {w : World} {b : Nat} (h : RdE true (fun _ => True) w exE (exV b)) :
    Calls Try.prog 21 #[exV b, .slice (some ⟨w.heap.size, 0, none⟩) 1 1] (w.alloc (.cells #[.int .i64 2] 3)) fun e w' => e = .returned (.tuple #[elV 0 0 false (.slice none 0 0) (.slice none 0 0), .int .i64 19]) ∧ Below w.heap.size w w' := by
  have := at_el exE (exV b) [2] _ 1 1 _ ex_dep (h.stay (bel1 w (.cells #[.int .i64 2] 3))) ex_sml (path_rd w 2) rfl (by decide)
  rw [atex2] at this
  exact this.mono fun e w' ⟨_, h1, h3⟩ => ⟨h1, (bel1 _ _).trans (h3.mono (bel1 _ _).size)⟩
theorem next_lit (w : World) : Calls Try.prog 27 #[.slice (some ⟨w.heap.size, 0, none⟩) 4 4] (w.alloc (.cells #[.int .u8 5, .int .u8 0, .int .u8 5, .int .u8 0] 5)) fun e w' => ∃ A ca B cb, e = .returned (.tuple #[elV 0 5 false (.slice A 0 ca) (.slice B 0 cb), .int .i64 2, .int .i64 0, .int .i64 0]) ∧ Below w.heap.size w w' := by
  have := next_any (w.alloc (.cells (cs8 [5, 0, 5, 0]).toArray 5)) (lit8 w [5, 0, 5, 0] rfl) (L := 4) (cap := 4) rfl (Nat.le_refl _) (by unfold maxLen; omega) (Or.inr ⟨_, _, rfl, by simp⟩)
  rw [show nextX [5, 0, 5, 0] = .ok (.mk 0 5 false [] []) 2 1 from by kernel_rfl] at this
  refine this.mono fun e w' ⟨u, h1, h2, h3⟩ => ?_
  obtain ⟨_, _, _, A, ca, B, cb, rfl, _⟩ := h2
  exact ⟨A, ca, B, cb, h1, (bel1 _ _).trans (h3.mono (bel1 _ _).size)⟩
theorem check_lit (w : World) : Calls Try.prog 14 #[elV 0 4 false (.slice none 0 0) (.slice (some ⟨w.heap.size, 0, none⟩) 1 1)] (w.alloc (.cells #[.int .u8 0, .bool false, .int .u32 5, .slice none 0 0, .slice none 0 0] 29)) fun e w' => e = .returned (.int .i64 1) ∧ Below w.heap.size w w' := by
  have k := Bk.new w 29 [.int .u8 0, .bool false, .int .u32 5, .slice none 0 0, .slice none 0 0]
  have hrow : RowE true (fun _ => True) (w.alloc (.cells #[.int .u8 0, .bool false, .int .u32 5, .slice none 0 0, .slice none 0 0] 29)) [.mk 0 5 false [] []] [.int .u8 0, .bool false, .int .u32 5, .slice none 0 0, .slice none 0 0] := ⟨_, [], rfl, rd_null _ _ _, rfl⟩
  refine (echeck_any (x := true) (S := fun _ => True) (.mk 0 4 false [] [.mk 0 5 false [] []]) _ _ (by decide +kernel) ⟨by decide, by decide, All8.nil, none, 0, some ⟨w.heap.size, 0, none⟩, 1, rfl, RdX.nil, Nat.le_refl _, Nat.zero_le _, Nat.le_refl _, by unfold maxLen; omega, fun _ => ⟨rfl, rfl⟩, RowE.rds k.lt trivial (fun _ h => h) hrow (fun j u hu => by rw [Nat.zero_add]; exact (k.cell j).trans hu)⟩).mono fun e w' ⟨h1, h2⟩ => ⟨?_, (bel1 _ _).trans (h2.mono (bel1 _ _).size)⟩
  rw [h1, show (meaR (.mk 0 4 false [] [.mk 0 5 false [] []])).2.2 = 1 from by kernel_rfl]
  rfl
theorem ex_con : conOk exE := fun _ => by decide +kernel
theorem null_con : conOk (.mk 0 5 false [] []) := fun _ => by decide +kernel
theorem comp_lit {w : World} {b : Nat} (h : RdE true (fun _ => True) w exE (exV b)) : Calls Try.prog 23 #[elV 0 5 false (.slice none 0 0) (.slice none 0 0), exV b] w fun e w' => e = .returned (.int .i64 (-1)) ∧ Below w.heap.size w w' :=
  (ecmp_any _ _ _ _ w (by decide +kernel) ex_dep null_con ex_con (rd_null true (fun _ => True) w) h).mono fun e w' ⟨h1, h2⟩ => ⟨by rw [h1, show cmpB (encR (.mk 0 5 false [] [])).1 (encR exE).1 = -1 from by kernel_rfl], h2⟩
end Go.Proofs.Ytgdjgahmnnjeeaa

/-!  Layer 4: the examples of the chapter hold: the statements' helper lives returns true; what was there has not turned.
  Conditions: none. -/
namespace Go.Proofs.Ytgdjgahmnnjeeaa
open Go.RowKit

/-- What lives keeps: its three elements. -/
def LvR (w : World) (D1 D2 D3 b : Nat) (W : World) : Prop :=
  Bk W D1 29 [.int .u8 0, .bool true, .int .u32 16, .slice none 0 0, .slice (some ⟨b, 0, none⟩) 2 2] ∧ Bk W D2 29 [.int .u8 0, .bool false, .int .u32 0, .slice none 0 0, .slice none 0 0] ∧ Bk W D3 29 [.int .u8 0, .bool false, .int .u32 5, .slice none 0 0, .slice none 0 0] ∧ RdE true (fun _ => True) W exE (exV b) ∧ Below w.heap.size w W
theorem LvR.stay {w W W' : World} {D1 D2 D3 b : Nat} (h : LvR w D1 D2 D3 b W) (hb : Below W.heap.size W W') : LvR w D1 D2 D3 b W' :=
  ⟨h.1.below hb h.1.lt, h.2.1.below hb h.2.1.lt, h.2.2.1.below hb h.2.2.1.lt, h.2.2.2.1.stay hb, h.2.2.2.2.trans (hb.mono h.2.2.2.2.size)⟩
set_option maxHeartbeats 4000000 in
set_option maxRecDepth 100000 in
theorem lives_any (w : World) : Calls Try.prog 11 #[] w fun e w' => e = .returned (.bool true) ∧ Below w.heap.size w w' := by
  go_enter Try.func11, Try.ntmps11
  go_wp2_with fail
  refine (example_any w).mono ?_
  rintro e w1 ⟨a, b, hb, rfl, hk, hE, hbel⟩
  obtain ⟨W4, hW4⟩ : ∃ W4, ((w1.alloc (.cells #[.int .u8 0, .bool true, .int .u32 16, .slice none 0 0, .slice (some ⟨b, 0, none⟩) 2 2] 29)).alloc (.cells #[.int .u8 0, .bool false, .int .u32 0, .slice none 0 0, .slice none 0 0] 29)).alloc (.cells #[.int .u8 0, .bool false, .int .u32 5, .slice none 0 0, .slice none 0 0] 29) = W4 := ⟨_, rfl⟩
  have h0 : LvR w w1.heap.size (w1.heap.size + 1) (w1.heap.size + 1 + 1) b W4 := by
    have b4 : Below w1.heap.size w1 W4 := by rw [← hW4]; exact bel3 _ _ _ _
    refine ⟨?_, ?_, ?_, RdE.keep (Nat.le_refl _) (fun _ _ _ => rfl) (fun _ _ _ => trivial) _ _ (hE.stay b4), hbel.trans (b4.mono hbel.size)⟩
    · rw [← hW4]; exact ((Bk.new w1 _ [.int .u8 0, .bool true, .int .u32 16, .slice none 0 0, .slice (some ⟨b, 0, none⟩) 2 2]).alloc _).alloc _
    · have := (Bk.new (w1.alloc (.cells #[.int .u8 0, .bool true, .int .u32 16, .slice none 0 0, .slice (some ⟨b, 0, none⟩) 2 2] 29)) 29 [.int .u8 0, .bool false, .int .u32 0, .slice none 0 0, .slice none 0 0]).alloc (.cells #[.int .u8 0, .bool false, .int .u32 5, .slice none 0 0, .slice none 0 0] 29)
      rw [World.size_alloc] at this
      rw [← hW4]; exact this
    · have := Bk.new ((w1.alloc (.cells #[.int .u8 0, .bool true, .int .u32 16, .slice none 0 0, .slice (some ⟨b, 0, none⟩) 2 2] 29)).alloc (.cells #[.int .u8 0, .bool false, .int .u32 0, .slice none 0 0, .slice none 0 0] 29)) 29 [.int .u8 0, .bool false, .int .u32 5, .slice none 0 0, .slice none 0 0]
      rw [World.size_alloc, World.size_alloc] at this
      rw [← hW4]; exact this
  have c5 := hk.cell 5
  have c6 := hk.cell 6
  have c7 := hk.cell 7
  have c8 := hk.cell 8
  have c9 := hk.cell 9
  simp only [List.getElem?_cons_succ, List.getElem?_cons_zero] at c5 c6 c7 c8 c9
  have L0 := Lib.hid h0
  have HW4 := Lib.hid hW4
  clear h0 hW4 hk hE hbel
  go_upto_region 4 with fail
  rw [HW4.out]
  obtain ⟨D1, hD1⟩ : ∃ D, w1.heap.size = D := ⟨_, rfl⟩
  obtain ⟨D2, hD2⟩ : ∃ D, D1 + 1 = D := ⟨_, rfl⟩
  obtain ⟨D3, hD3⟩ : ∃ D, D2 + 1 = D := ⟨_, rfl⟩
  rw [hD1, hD2, hD3] at L0 ⊢
  clear HW4 c5 c6 c7 c8 c9 hb hD1 hD2 hD3
  obtain ⟨e0, e1, e2, e3, e4, ez⟩ := L0.out.1.five
  obtain ⟨z0, z1, z2, z3, z4, zz⟩ := L0.out.2.1.five
  obtain ⟨n0, n1, n2, n3, n4, nz⟩ := L0.out.2.2.1.five
  go_wp2_with fail
  refine (got_lit W4 [48, 5, 2, 1, 7, 5, 0] 7 (by decide) rfl (by decide) (x := exE) (by kernel_rfl) (by decide +kernel) (L0.out.2.2.2.1)).mono ?_
  rintro e x1 ⟨rfl, hb⟩
  have L1 := Lib.hid (L0.out.stay hb)
  clear hb L0
  clear e0 e1 e2 e3 e4 ez z0 z1 z2 z3 z4 zz n0 n1 n2 n3 n4 nz
  obtain ⟨e0, e1, e2, e3, e4, ez⟩ := L1.out.1.five
  obtain ⟨z0, z1, z2, z3, z4, zz⟩ := L1.out.2.1.five
  obtain ⟨n0, n1, n2, n3, n4, nz⟩ := L1.out.2.2.1.five
  go_wp2_with fail
  refine (ecount_any exE _ x1 ex_dep L1.out.2.2.2.1).mono ?_
  rintro e x2 ⟨rfl, hb⟩
  have L2 := Lib.hid (L1.out.stay hb)
  rw [show (meaR exE).1 = 3 from by kernel_rfl, show ((3 : Nat) : Int) = 3 from rfl]
  clear hb L1
  clear e0 e1 e2 e3 e4 ez z0 z1 z2 z3 z4 zz n0 n1 n2 n3 n4 nz
  obtain ⟨e0, e1, e2, e3, e4, ez⟩ := L2.out.1.five
  obtain ⟨z0, z1, z2, z3, z4, zz⟩ := L2.out.2.1.five
  obtain ⟨n0, n1, n2, n3, n4, nz⟩ := L2.out.2.2.1.five
  go_wp2_with fail
  refine (edepth_any exE _ x2 ex_dep L2.out.2.2.2.1).mono ?_
  rintro e x3 ⟨rfl, hb⟩
  have L3 := Lib.hid (L2.out.stay hb)
  rw [show (meaR exE).2.1 = 2 from by kernel_rfl, show ((2 : Nat) : Int) = 2 from rfl]
  clear hb L2
  clear e0 e1 e2 e3 e4 ez z0 z1 z2 z3 z4 zz n0 n1 n2 n3 n4 nz
  obtain ⟨e0, e1, e2, e3, e4, ez⟩ := L3.out.1.five
  obtain ⟨z0, z1, z2, z3, z4, zz⟩ := L3.out.2.1.five
  obtain ⟨n0, n1, n2, n3, n4, nz⟩ := L3.out.2.2.1.five
  go_wp2_with fail
  refine (at_lit1 (w := x3) L3.out.2.2.2.1).mono ?_
  rintro e x4 ⟨A4, B4, rfl, hX, hb⟩
  have L4 := Lib.hid (L3.out.stay hb)
  have HX := Lib.hid hX
  clear hX
  clear hb L3
  clear e0 e1 e2 e3 e4 ez z0 z1 z2 z3 z4 zz n0 n1 n2 n3 n4 nz
  obtain ⟨e0, e1, e2, e3, e4, ez⟩ := L4.out.1.five
  obtain ⟨z0, z1, z2, z3, z4, zz⟩ := L4.out.2.1.five
  obtain ⟨n0, n1, n2, n3, n4, nz⟩ := L4.out.2.2.1.five
  obtain ⟨y4, hy⟩ : ∃ y, x4.alloc (.cells #[.int .u8 0, .bool false, .int .u32 5, .slice A4 0 0, .slice B4 0 0] 29) = y := ⟨_, rfl⟩
  have by_ : Below x4.heap.size x4 y4 := by rw [← hy]; exact bel1 _ _
  have M4 := Lib.hid (L4.out.stay by_)
  have KX := Lib.hid (Bk.new x4 29 [.int .u8 0, .bool false, .int .u32 5, .slice A4 0 0, .slice B4 0 0])
  have HX1 := Lib.hid (HX.out.stay by_)
  clear HX
  rw [hy] at KX
  have HY := Lib.hid hy
  clear by_ hy L4
  go_upto_region 7 with fail
  rw [HY.out]
  obtain ⟨D, hD⟩ : ∃ D, x4.heap.size = D := ⟨_, rfl⟩
  rw [hD] at KX
  try rw [hD]
  clear HY hD
  clear e0 e1 e2 e3 e4 ez z0 z1 z2 z3 z4 zz n0 n1 n2 n3 n4 nz
  obtain ⟨e0, e1, e2, e3, e4, ez⟩ := M4.out.1.five
  obtain ⟨z0, z1, z2, z3, z4, zz⟩ := M4.out.2.1.five
  obtain ⟨n0, n1, n2, n3, n4, nz⟩ := M4.out.2.2.1.five
  go_wp2_with fail
  refine (at_lit2 (w := y4) M4.out.2.2.2.1).mono ?_
  rintro e x5 ⟨rfl, hb⟩
  have L5 := Lib.hid (M4.out.stay hb)
  have KX2 := Lib.hid (KX.out.below hb KX.out.lt)
  have HX2 := Lib.hid (HX1.out.stay hb)
  clear hb M4
  clear e0 e1 e2 e3 e4 ez z0 z1 z2 z3 z4 zz n0 n1 n2 n3 n4 nz
  clear KX HX1
  obtain ⟨e0, e1, e2, e3, e4, ez⟩ := L5.out.1.five
  obtain ⟨z0, z1, z2, z3, z4, zz⟩ := L5.out.2.1.five
  obtain ⟨n0, n1, n2, n3, n4, nz⟩ := L5.out.2.2.1.five
  obtain ⟨y5, hy⟩ : ∃ y, x5.alloc (.cells #[.int .u8 0, .bool false, .int .u32 0, .slice none 0 0, .slice none 0 0] 29) = y := ⟨_, rfl⟩
  have by_ : Below x5.heap.size x5 y5 := by rw [← hy]; exact bel1 _ _
  have M5 := Lib.hid (L5.out.stay by_)
  have KX3 := Lib.hid (KX2.out.below by_ KX2.out.lt)
  have HX3 := Lib.hid (HX2.out.stay by_)
  clear KX2 HX2
  have HY := Lib.hid hy
  clear by_ hy L5
  go_upto_region 8 with fail
  rw [HY.out]
  obtain ⟨D, hD⟩ : ∃ D, x5.heap.size = D := ⟨_, rfl⟩
  try rw [hD]
  clear HY hD
  clear e0 e1 e2 e3 e4 ez z0 z1 z2 z3 z4 zz n0 n1 n2 n3 n4 nz
  obtain ⟨e0, e1, e2, e3, e4, ez⟩ := M5.out.1.five
  obtain ⟨z0, z1, z2, z3, z4, zz⟩ := M5.out.2.1.five
  obtain ⟨n0, n1, n2, n3, n4, nz⟩ := M5.out.2.2.1.five
  go_wp2_with fail
  refine (next_lit y5).mono ?_
  rintro e x6 ⟨A8, ca8, B8, cb8, rfl, hb⟩
  have L6 := Lib.hid (M5.out.stay hb)
  have KX4 := Lib.hid (KX3.out.below hb KX3.out.lt)
  have HX4 := Lib.hid (HX3.out.stay hb)
  clear hb M5
  clear e0 e1 e2 e3 e4 ez z0 z1 z2 z3 z4 zz n0 n1 n2 n3 n4 nz
  clear KX3 HX3
  obtain ⟨e0, e1, e2, e3, e4, ez⟩ := L6.out.1.five
  obtain ⟨z0, z1, z2, z3, z4, zz⟩ := L6.out.2.1.five
  obtain ⟨n0, n1, n2, n3, n4, nz⟩ := L6.out.2.2.1.five
  obtain ⟨y6, hy⟩ : ∃ y, x6.alloc (.cells #[.int .u8 0, .bool false, .int .u32 5, .slice A8 0 ca8, .slice B8 0 cb8] 29) = y := ⟨_, rfl⟩
  have by_ : Below x6.heap.size x6 y6 := by rw [← hy]; exact bel1 _ _
  have M6 := Lib.hid (L6.out.stay by_)
  have KX5 := Lib.hid (KX4.out.below by_ KX4.out.lt)
  have HX5 := Lib.hid (HX4.out.stay by_)
  clear KX4 HX4
  obtain ⟨t0, t1, t2, t3, t4, tt⟩ := KX5.out.five
  have HY := Lib.hid hy
  clear by_ hy L6
  go_upto_region 9 with fail
  rw [HY.out]
  obtain ⟨D, hD⟩ : ∃ D, x6.heap.size = D := ⟨_, rfl⟩
  try rw [hD]
  clear HY hD
  clear e0 e1 e2 e3 e4 ez z0 z1 z2 z3 z4 zz n0 n1 n2 n3 n4 nz
  obtain ⟨e0, e1, e2, e3, e4, ez⟩ := M6.out.1.five
  obtain ⟨z0, z1, z2, z3, z4, zz⟩ := M6.out.2.1.five
  obtain ⟨n0, n1, n2, n3, n4, nz⟩ := M6.out.2.2.1.five
  go_wp2_with fail
  refine (rsame_any (.mk 0 5 false [] []) _ _ y6 HX5.out (rd_null true (fun _ => True) _)).mono ?_
  rintro e x7 ⟨rfl, hb⟩
  have L7 := Lib.hid (M6.out.stay hb)
  clear hb M6
  clear e0 e1 e2 e3 e4 ez z0 z1 z2 z3 z4 zz n0 n1 n2 n3 n4 nz
  clear t0 t1 t2 t3 t4 tt KX5 HX5
  obtain ⟨e0, e1, e2, e3, e4, ez⟩ := L7.out.1.five
  obtain ⟨z0, z1, z2, z3, z4, zz⟩ := L7.out.2.1.five
  obtain ⟨n0, n1, n2, n3, n4, nz⟩ := L7.out.2.2.1.five
  go_wp2_with fail
  refine (got_lit x7 [5, 0, 5, 0] 4 (by decide) rfl (by decide) (x := zE) (by kernel_rfl) (by decide +kernel) (rd_zero true (fun _ => True) _)).mono ?_
  rintro e x8 ⟨rfl, hb⟩
  have L8 := Lib.hid (L7.out.stay hb)
  clear hb L7
  clear e0 e1 e2 e3 e4 ez z0 z1 z2 z3 z4 zz n0 n1 n2 n3 n4 nz
  obtain ⟨e0, e1, e2, e3, e4, ez⟩ := L8.out.1.five
  obtain ⟨z0, z1, z2, z3, z4, zz⟩ := L8.out.2.1.five
  obtain ⟨n0, n1, n2, n3, n4, nz⟩ := L8.out.2.2.1.five
  go_wp2_with fail
  refine (got_lit x8 [48, 5, 2, 1, 7] 5 (by decide) rfl (by decide) (x := zE) (by kernel_rfl) (by decide +kernel) (rd_zero true (fun _ => True) _)).mono ?_
  rintro e x9 ⟨rfl, hb⟩
  have L9 := Lib.hid (L8.out.stay hb)
  clear hb L8
  clear e0 e1 e2 e3 e4 ez z0 z1 z2 z3 z4 zz n0 n1 n2 n3 n4 nz
  obtain ⟨e0, e1, e2, e3, e4, ez⟩ := L9.out.1.five
  obtain ⟨z0, z1, z2, z3, z4, zz⟩ := L9.out.2.1.five
  obtain ⟨n0, n1, n2, n3, n4, nz⟩ := L9.out.2.2.1.five
  go_wp2_with fail
  refine (got_lit x9 [48, 3, 2, 2, 7] 5 (by decide) rfl (by decide) (x := zE) (by kernel_rfl) (by decide +kernel) (rd_zero true (fun _ => True) _)).mono ?_
  rintro e x10 ⟨rfl, hb⟩
  have L10 := Lib.hid (L9.out.stay hb)
  clear hb L9
  clear e0 e1 e2 e3 e4 ez z0 z1 z2 z3 z4 zz n0 n1 n2 n3 n4 nz
  obtain ⟨e0, e1, e2, e3, e4, ez⟩ := L10.out.1.five
  obtain ⟨z0, z1, z2, z3, z4, zz⟩ := L10.out.2.1.five
  obtain ⟨n0, n1, n2, n3, n4, nz⟩ := L10.out.2.2.1.five
  go_wp2_with fail
  refine (got_lit x10 [48, 128, 0, 0] 4 (by decide) rfl (by decide) (x := zE) (by kernel_rfl) (by decide +kernel) (rd_zero true (fun _ => True) _)).mono ?_
  rintro e x11 ⟨rfl, hb⟩
  have L11 := Lib.hid (L10.out.stay hb)
  clear hb L10
  clear e0 e1 e2 e3 e4 ez z0 z1 z2 z3 z4 zz n0 n1 n2 n3 n4 nz
  obtain ⟨e0, e1, e2, e3, e4, ez⟩ := L11.out.1.five
  obtain ⟨z0, z1, z2, z3, z4, zz⟩ := L11.out.2.1.five
  obtain ⟨n0, n1, n2, n3, n4, nz⟩ := L11.out.2.2.1.five
  go_wp2_with fail
  refine (got_lit x11 [48, 2, 0, 0] 4 (by decide) rfl (by decide) (x := zE) (by kernel_rfl) (by decide +kernel) (rd_zero true (fun _ => True) _)).mono ?_
  rintro e x12 ⟨rfl, hb⟩
  have L12 := Lib.hid (L11.out.stay hb)
  clear hb L11
  clear e0 e1 e2 e3 e4 ez z0 z1 z2 z3 z4 zz n0 n1 n2 n3 n4 nz
  obtain ⟨e0, e1, e2, e3, e4, ez⟩ := L12.out.1.five
  obtain ⟨z0, z1, z2, z3, z4, zz⟩ := L12.out.2.1.five
  obtain ⟨n0, n1, n2, n3, n4, nz⟩ := L12.out.2.2.1.five
  go_wp2_with fail
  refine (got_lit x12 [48, 1, 5] 3 (by decide) rfl (by decide) (x := zE) (by kernel_rfl) (by decide +kernel) (rd_zero true (fun _ => True) _)).mono ?_
  rintro e x13 ⟨rfl, hb⟩
  have L13 := Lib.hid (L12.out.stay hb)
  clear hb L12
  clear e0 e1 e2 e3 e4 ez z0 z1 z2 z3 z4 zz n0 n1 n2 n3 n4 nz
  obtain ⟨e0, e1, e2, e3, e4, ez⟩ := L13.out.1.five
  obtain ⟨z0, z1, z2, z3, z4, zz⟩ := L13.out.2.1.five
  obtain ⟨n0, n1, n2, n3, n4, nz⟩ := L13.out.2.2.1.five
  go_wp2_with fail
  refine (got_nil x13).mono ?_
  rintro e x14 ⟨rfl, hb⟩
  have L14 := Lib.hid (L13.out.stay hb)
  clear hb L13
  clear e0 e1 e2 e3 e4 ez z0 z1 z2 z3 z4 zz n0 n1 n2 n3 n4 nz
  obtain ⟨e0, e1, e2, e3, e4, ez⟩ := L14.out.1.five
  obtain ⟨z0, z1, z2, z3, z4, zz⟩ := L14.out.2.1.five
  obtain ⟨n0, n1, n2, n3, n4, nz⟩ := L14.out.2.2.1.five
  go_wp2_with fail
  refine (check_lit x14).mono ?_
  rintro e x15 ⟨rfl, hb⟩
  have L15 := Lib.hid (L14.out.stay hb)
  clear hb L14
  clear e0 e1 e2 e3 e4 ez z0 z1 z2 z3 z4 zz n0 n1 n2 n3 n4 nz
  obtain ⟨e0, e1, e2, e3, e4, ez⟩ := L15.out.1.five
  obtain ⟨z0, z1, z2, z3, z4, zz⟩ := L15.out.2.1.five
  obtain ⟨n0, n1, n2, n3, n4, nz⟩ := L15.out.2.2.1.five
  go_wp2_with fail
  refine (comp_lit (w := x15) L15.out.2.2.2.1).mono ?_
  rintro e x16 ⟨rfl, hb⟩
  have L16 := Lib.hid (L15.out.stay hb)
  clear hb L15
  clear e0 e1 e2 e3 e4 ez z0 z1 z2 z3 z4 zz n0 n1 n2 n3 n4 nz
  obtain ⟨e0, e1, e2, e3, e4, ez⟩ := L16.out.1.five
  obtain ⟨z0, z1, z2, z3, z4, zz⟩ := L16.out.2.1.five
  obtain ⟨n0, n1, n2, n3, n4, nz⟩ := L16.out.2.2.1.five
  go_wp2_with fail

  go_ret
  exact ⟨rfl, L16.out.2.2.2.2⟩
end Go.Proofs.Ytgdjgahmnnjeeaa
