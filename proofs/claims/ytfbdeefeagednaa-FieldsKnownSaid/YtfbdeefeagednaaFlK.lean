/-
  Layer 12: the chapter's example element; Under, offsetOf, Offset, Report.
  Conditions: none beyond that values read as what they are.
-/
import Derived.Test.YtfbdeefeagednaaFlJ
namespace Go.Proofs.Ytfbdeefeagednaa.Fl
open Go.RowKit

theorem infoE5 : (Try.prog.info? 29).map (·.size) = some 5 := by kernel_rfl
theorem loadE {w : World} {g : Nat} {a b c d e : Value} (h : Bk w g 29 [a, b, c, d, e]) : (loadVar 29 ⟨g, 0, none⟩).run Try.prog w = .ok (.agg #[a, b, c, d, e]) w := by
  obtain ⟨e0, e1, e2, e3, e4, _⟩ := h.five
  simp [loadVar, go_sem, e0, e1, e2, e3, e4]
theorem retE {fn : Func} {p : Tmp} (h : fn.results = #[.cell p 29]) {a : Act} {w : World} {g : Nat} {v0 v1 v2 v3 v4 : Value} (hp : a.tmps.getD p undef = .pointer (some ⟨g, 0, none⟩))
    (hb : Bk w g 29 [v0, v1, v2, v3, v4]) (hdf : a.defers = [])
    {R : Ending → World → Prop} (hR : R (.returned (.agg #[v0, v1, v2, v3, v4])) w) : bodyPost Try.prog fn R .ret a w := by
  refine bodyPost_ret ?_ hdf hR
  have hp' : a.tmps[p]?.getD undef = .pointer (some ⟨g, 0, none⟩) := by simpa using hp
  simp [results, h, hp', asAddr, loadE hb]
theorem retE2 {fn : Func} {p q : Tmp} (h : fn.results = #[.cell p 29, .tmp q]) {a : Act} {w : World} {g : Nat} {v0 v1 v2 v3 v4 v : Value} (hp : a.tmps.getD p undef = .pointer (some ⟨g, 0, none⟩)) (hq : a.tmps.getD q undef = v)
    (hb : Bk w g 29 [v0, v1, v2, v3, v4]) (hdf : a.defers = [])
    {R : Ending → World → Prop} (hR : R (.returned (.tuple #[.agg #[v0, v1, v2, v3, v4], v])) w) : bodyPost Try.prog fn R .ret a w := by
  refine bodyPost_ret ?_ hdf hR
  have hp' : a.tmps[p]?.getD undef = .pointer (some ⟨g, 0, none⟩) := by simpa using hp
  have hq' : a.tmps[q]?.getD undef = v := by simpa using hq
  simp [results, h, hp', hq', asAddr, loadE hb]
theorem storeE {t' : TypeId} {ops : Array Oper} {rest : List Oper} {o : Oper} {a : Act} {w : World} {Q : Exit → Act → World → Prop} (hgd : o.guard = none) (x v : Operand) (ho : o.op = .store 29 x v)
    {g : Nat} {p0 p1 p2 p3 p4 q0 q1 q2 q3 q4 : Value} (hx : a.eval x = .pointer (some ⟨g, 0, none⟩)) (hv : a.eval v = .agg #[p0, p1, p2, p3, p4]) (hg : Bk w g t' [q0, q1, q2, q3, q4]) (h0 : p0.oneCell' = true) (h1 : p1.oneCell' = true) (h2 : p2.oneCell' = true) (h3 : p3.oneCell' = true) (h4 : p4.oneCell' = true)
    (h : ∀ w', Hid (Bk w' g t' [p0, p1, p2, p3, p4]) → Hid (w.grownBy w' (some g)) → wpList Try.prog ops Q rest (a.put o.dst undef) w') : wpList Try.prog ops Q (o :: rest) a w :=
  wpList_storeG hgd x v ho (ds := [p0, p1, p2, p3, p4]) hx hv hg infoE5 rfl (by simp [h0, h1, h2, h3, h4]) fun w' h1 h2 _ => h w' (Lib.hid h1) (Lib.hid h2)
def knE : El := .mk 0 16 true [] [.mk 0 2 false [5] [], .mk 0 1 false [255] []]
theorem one8 {w : World} {g x n : Nat} {S : Nat → Prop} (y : Bool) (h : Bk w g 5 (cs8 [x])) (hx : x < 256) (hn : n < 4294967296) (hS : S g) : RdE y S w (.mk 0 n false [x] []) (elV 0 n false (.slice (some ⟨g, 0, none⟩) 1 1) (.slice none 0 0)) :=
  ⟨by decide, hn, by intro z hz; simp at hz; omega, some ⟨g, 0, none⟩, 1, none, 0, rfl, fun _ => ⟨g, 0, rfl, h.lt, hS, fun j u hu => by rw [Nat.zero_add, h.cell]; exact hu⟩, Nat.le_refl _, by unfold maxLen; omega, Nat.le_refl _, Nat.zero_le _, fun _ => ⟨rfl, rfl⟩, trivial⟩
set_option maxHeartbeats 2000000 in
set_option maxRecDepth 100000 in
theorem known_any (w : World) : Calls Try.prog 27 #[] w fun e w' => ∃ B, e = .returned (elV 0 16 true (.slice none 0 0) (.slice B 2 2)) ∧ RdE true (fun i => w.heap.size ≤ i) w' knE (elV 0 16 true (.slice none 0 0) (.slice B 2 2)) ∧ Below w.heap.size w w' := by
  obtain ⟨D, hD⟩ : ∃ D, w.heap.size = D := ⟨_, rfl⟩
  have HD := Lib.hid hD
  have K0 := Lib.hid (Bk.new w 29 [.int .u8 0, .bool false, .int .u32 0, .slice none 0 0, .slice none 0 0])
  have B0 := Lib.hid (bel1 w (.cells #[.int .u8 0, .bool false, .int .u32 0, .slice none 0 0, .slice none 0 0] 29))
  rw [hD] at K0
  clear hD
  go_enter Try.func27, Try.ntmps27
  go_wp2_with fail
  rw [HD.out]
  refine (tag_any 0 0 16 true _ (by decide) rfl).mono ?_
  rintro e w1 ⟨rfl, hb1⟩
  have K1 := kt K0 (Lib.hid hb1)
  have B1 := bt B0 (Lib.hid hb1)
  clear hb1 K0 B0
  go_wp2_with fail
  refine (tag_any 6 0 2 false _ (by decide) rfl).mono ?_
  rintro e w2 ⟨rfl, hb2⟩
  have K2 := kt K1 (Lib.hid hb2)
  have B2 := bt B1 (Lib.hid hb2)
  have P2 := Lib.hid (Bk.new w2 5 (cs8 [5]))
  obtain ⟨p, hp⟩ : ∃ p, w2.heap.size = p := ⟨_, rfl⟩
  rw [hp] at P2
  have HP := Lib.hid hp
  have HDP : Hid (D < p) := Lib.hid (by rw [← hp]; exact K2.out.lt)
  have K3 := kt K2 (Lib.hid (bel1 w2 (.cells #[.int .u8 5] 5)))
  have B3 := bt B2 (Lib.hid (bel1 w2 (.cells #[.int .u8 5] 5)))
  clear hb2 K1 B1 hp K2 B2
  go_wp2_with fail
  rw [HP.out]
  refine (tag_any 4 0 1 false _ (by decide) rfl).mono ?_
  rintro e w4 ⟨rfl, hb4⟩
  have K4 := kt K3 (Lib.hid hb4)
  have B4 := bt B3 (Lib.hid hb4)
  have P4 := kt P2 (Lib.hid hb4)
  clear hb4 K3 B3 P2
  obtain ⟨q, hq⟩ : ∃ q, w4.heap.size = q := ⟨_, rfl⟩
  have HQ := Lib.hid hq
  obtain ⟨w5, hw5⟩ : ∃ w5, w4.alloc (.cells #[.int .u8 255] 5) = w5 := ⟨_, rfl⟩
  have hz5 : w5.heap.size = q + 1 := by rw [← hw5, World.size_alloc, hq]
  have b5 : Below w4.heap.size w4 w5 := by rw [← hw5]; exact bel1 _ _
  have k5 : Bk w5 q 5 (cs8 [255]) := by rw [← hw5, ← hq]; exact Bk.new w4 _ (cs8 [255])
  obtain ⟨w6, hw6⟩ : ∃ w6, w5.alloc (.cells #[.int .u8 0, .bool false, .int .u32 2, .slice (some ⟨p, 0, none⟩) 1 1, .slice none 0 0, .int .u8 0, .bool false, .int .u32 1, .slice (some ⟨q, 0, none⟩) 1 1, .slice none 0 0] 29) = w6 := ⟨_, rfl⟩
  have b6 : Below w5.heap.size w5 w6 := by rw [← hw6]; exact bel1 _ _
  have k6 : Bk w6 (q + 1) 29 [.int .u8 0, .bool false, .int .u32 2, .slice (some ⟨p, 0, none⟩) 1 1, .slice none 0 0, .int .u8 0, .bool false, .int .u32 1, .slice (some ⟨q, 0, none⟩) 1 1, .slice none 0 0] := by rw [← hw6, ← hz5]; exact Bk.new w5 _ [_, _, _, _, _, _, _, _, _, _]
  have K6 := kt (kt K4 (Lib.hid b5)) (Lib.hid b6)
  have B6 := bt (bt B4 (Lib.hid b5)) (Lib.hid b6)
  have hpq : D < q := by rw [← hq]; exact K4.out.lt
  have r1 := one8 (n := 2) (S := fun i => D < i) true ((P4.out.below b5 P4.out.lt).below b6 (P4.out.below b5 P4.out.lt).lt) (by decide) (by decide) HDP.out
  have r2 := one8 (n := 1) (S := fun i => D < i) true (k5.below b6 k5.lt) (by decide) (by decide) hpq
  have hrow : RowE true (fun i => D < i) w6 [.mk 0 2 false [5] [], .mk 0 1 false [255] []] [.int .u8 0, .bool false, .int .u32 2, .slice (some ⟨p, 0, none⟩) 1 1, .slice none 0 0, .int .u8 0, .bool false, .int .u32 1, .slice (some ⟨q, 0, none⟩) 1 1, .slice none 0 0] :=
    ⟨_, _, rfl, r1, _, [], rfl, r2, rfl⟩
  have hrd : RdE true (fun i => D < i) w6 knE (elV 0 16 true (.slice none 0 0) (.slice (some ⟨q + 1, 0, none⟩) 2 2)) :=
    ⟨by decide, by decide, All8.nil, none, 0, some ⟨q + 1, 0, none⟩, 2, rfl, RdX.nil, Nat.le_refl _, Nat.zero_le _, Nat.le_refl _, by unfold maxLen; omega, fun _ => ⟨rfl, rfl⟩,
      RowE.rds k6.lt (by omega) (fun _ h => h) hrow (fun j u hu => by rw [k6.cell, Nat.zero_add]; exact hu)⟩
  have HR := Lib.hid hrd
  have HW5 := Lib.hid hw5
  have HW6 := Lib.hid hw6
  have HZ5 := Lib.hid hz5
  clear hrd hrow r1 r2 k5 k6 b5 b6 hw5 hw6 hz5 hq K4 B4 P4 hpq
  have K6' : Hid (Bk ((w4.alloc (.cells #[.int .u8 255] 5)).alloc (.cells #[.int .u8 0, .bool false, .int .u32 2, .slice (some ⟨p, 0, none⟩) 1 1, .slice none 0 0, .int .u8 0, .bool false, .int .u32 1, .slice (some ⟨w4.heap.size, 0, none⟩) 1 1, .slice none 0 0] 29)) D 29 [.int .u8 0, .bool false, .int .u32 0, .slice none 0 0, .slice none 0 0]) := Lib.hid (by rw [HW5.out, HQ.out, HW6.out]; exact K6.out)
  go_wp2_with (refine storeE rfl _ _ rfl rfl rfl K6'.out rfl rfl rfl rfl rfl ?_; intro w7 h7 h8)
  have h8' := h8.out
  rw [HW5.out, HQ.out, HW6.out] at h8'
  have h7' := h7.out
  rw [HQ.out] at h7'
  refine retE rfl rfl h7' rfl ⟨some ⟨q + 1, 0, none⟩, rfl, ?_, B6.out.trans (only_below h8' (by rw [HD.out]; exact Nat.le_refl _) B6.out.size)⟩
  exact RdE.keep h8'.size (fun k hS hk => h8'.block k hk (fun e => by injection e with e; omega)) (fun k hS _ => by have := HD.out; omega) _ _ HR.out
end Go.Proofs.Ytfbdeefeagednaa.Fl
