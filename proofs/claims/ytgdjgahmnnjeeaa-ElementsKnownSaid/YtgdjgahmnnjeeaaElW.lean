/-
  Layer 4: the contract of Next.
  Conditions: none beyond that the slice reads as bytes.
-/
import Derived.Test.YtgdjgahmnnjeeaaElV
namespace Go.Proofs.Ytgdjgahmnnjeeaa
open Go.RowKit

/-- What the decoder gives of octets. -/
def nextX (l : List Nat) : Nx := if 1048576 < l.length then .err 3 0 else nxE 17 l 1 0
/-- What Next returns. -/
def GiveXt (w : World) : Nx → Ending → World → Prop
  | .err f a, e, w' => f ≠ 0 ∧ e = .returned (.tuple #[elV 0 0 false (.slice none 0 0) (.slice none 0 0), .int .i64 0, .int .i64 ((a : Nat) : Int), .int .i64 ((f : Nat) : Int)]) ∧ Below w.heap.size w w'
  | .ok x z _, e, w' => ∃ u, e = .returned (.tuple #[u, .int .i64 ((z : Nat) : Int), .int .i64 0, .int .i64 0]) ∧ RdE true (fun i => w.heap.size ≤ i) w' x u ∧ Below w.heap.size w w'
/-- What the closure leaves behind. -/
def NxR (ge gs : Nat) (w : World) (r : Nx) (f a : Nat) (w' : World) : Prop :=
  ∃ (c n : Nat) (k : Bool) (A1 : Option Addr) (l1 q1 : Nat) (A2 : Option Addr) (l2 q2 z : Nat), Bk w' ge 29 [.int .u8 (c : Int), .bool k, .int .u32 (n : Int), .slice A1 l1 q1, .slice A2 l2 q2] ∧ Bk w' gs 3 [.int .i64 (z : Int)] ∧ Kp (fun i => i = ge ∨ i = gs) w w' ∧
    match r with
    | .err f' a' => f = f' ∧ f ≠ 0 ∧ a = a' ∧ c = 0 ∧ n = 0 ∧ k = false ∧ A1 = none ∧ l1 = 0 ∧ q1 = 0 ∧ A2 = none ∧ l2 = 0 ∧ q2 = 0 ∧ z = 0
    | .ok x z' _ => f = 0 ∧ a = 0 ∧ z = z' ∧ RdE true (fun i => w.heap.size ≤ i) w' x (elV c n k (.slice A1 l1 q1) (.slice A2 l2 q2))
theorem nxr_of {ge gs : Nat} {w w' : World} {r : Nx} {e : Ending} (hge : Bk w ge 29 elZ) (hgs : Bk w gs 3 [.int .i64 0]) (h : GiveC ge gs w r e w') :
    ∃ f a, NxR ge gs w r f a w' ∧ Kp (fun i => i = ge ∨ i = gs) w w' ∧ ((f = 0 ∧ a = 0 ∧ e = .returned (.tuple #[])) ∨ (f ≠ 0 ∧ e = .panicked [fltP f a])) := by
  cases r with
  | err f a =>
    obtain ⟨h1, h2, h3⟩ := h
    exact ⟨f, a, ⟨0, 0, false, none, 0, 0, none, 0, 0, 0, hge.below h3 hge.lt, hgs.below h3 hgs.lt, kp_below h3 _, rfl, h1, rfl, rfl, rfl, rfl, rfl, rfl, rfl, rfl, rfl, rfl, rfl⟩, kp_below h3 _, .inr ⟨h1, h2⟩⟩
  | ok x z b =>
    obtain ⟨h1, ⟨c, n, k, u, v, h2, h3⟩, h4, h5⟩ := h
    obtain ⟨c', n', k', A1, l1, q1, A2, l2, q2, e⟩ := h3.form
    simp only [elV, Value.agg.injEq, Array.mk.injEq, List.cons.injEq, Value.int.injEq, Value.bool.injEq, true_and, and_true] at e
    obtain ⟨_, _, _, rfl, rfl⟩ := e
    exact ⟨0, 0, ⟨c, n, k, A1, l1, q1, A2, l2, q2, z, h2, h4, h5, rfl, rfl, rfl, h3⟩, h5, .inl ⟨rfl, rfl, h1⟩⟩

/-- The cells that Next's last step reads. -/
@[reducible] def SNx (ge gs gf c n : Nat) (k : Bool) (u v : Value) (z f a : Nat) (w : World) : Prop :=
  w.cell? ⟨ge, 0, none⟩ = some (.int .u8 (c : Int)) ∧ w.cell? ⟨ge, 1, none⟩ = some (.bool k) ∧ w.cell? ⟨ge, 2, none⟩ = some (.int .u32 (n : Int)) ∧ w.cell? ⟨ge, 3, none⟩ = some u ∧ w.cell? ⟨ge, 4, none⟩ = some v ∧ w.cell? ⟨gs, 0, none⟩ = some (.int .i64 (z : Int)) ∧
    w.cell? ⟨gf, 0, none⟩ = some (.int .i64 (f : Int)) ∧ w.cell? ⟨gf, 1, none⟩ = some (.int .i64 (a : Int))
set_option maxHeartbeats 2000000 in
set_option maxRecDepth 100000 in
theorem next_any {A : Option Addr} {lst : List Nat} {L cap : Nat} (w : World) (hA : Rb w A lst) (hL : lst.length = L) (hLc : L ≤ cap) (hcm : cap ≤ maxLen) (hA2 : (A = none ∧ cap = 0) ∨ ∃ ba off, A = some ⟨ba, off, none⟩ ∧ ba < w.heap.size) :
    Calls Try.prog 27 #[.slice A L cap] w (GiveXt w (nextX lst)) := by
  by_cases hbig : 1048576 < L
  · rw [show nextX lst = .err 3 0 from by unfold nextX; rw [if_pos (by omega)]]
    have hd : decide ((L : Int) > 1048576) = true := by simp; omega
    have hb := bel3 w (.cells #[.slice A L cap] 26) (.cells elZ.toArray 29) (.cells #[.int .i64 0] 3)
    have HB := Lib.hid hb
    clear hA hL hA2 hb
    go_enter Try.func27, Try.ntmps27
    go_wp2_with fail
    have hl1 : w.heap.size ≤ w.heap.size + 1 := by omega
    have hl2 : w.heap.size ≤ w.heap.size + 1 + 1 := by omega
    exact bodyPost_ret (v := .tuple #[elV 0 0 false (.slice none 0 0) (.slice none 0 0), .int .i64 0, .int .i64 0, .int .i64 3]) (by simp [results, Try.results27, go_sem]) rfl ⟨by decide, rfl, HB.out⟩
  have hL1 : L ≤ 1048576 := by omega
  have hd : decide ((L : Int) > 1048576) = false := by simp; omega
  have hnx : nextX lst = nxE 17 lst 1 0 := by unfold nextX; rw [if_neg (by omega)]
  obtain ⟨w3, hw3⟩ : ∃ w3, ((w.alloc (.cells #[.slice A L cap] 26)).alloc (.cells elZ.toArray 29)).alloc (.cells #[.int .i64 0] 3) = w3 := ⟨_, rfl⟩
  have hb3 : Below w.heap.size w w3 := by rw [← hw3]; exact bel3 w _ _ _
  have z3 : w3.heap.size = w.heap.size + 3 := by rw [← hw3]; simp
  have k0 : Bk w3 w.heap.size 26 [.slice A L cap] := by
    rw [← hw3]; exact ((Bk.new w _ [_]).alloc _).alloc _
  have k1 : Bk w3 (w.heap.size + 1) 29 elZ := by
    have := (Bk.new (w.alloc (.cells #[.slice A L cap] 26)) 29 elZ).alloc (.cells #[.int .i64 0] 3)
    rw [World.size_alloc] at this
    rw [← hw3]; exact this
  have k2 : Bk w3 (w.heap.size + 1 + 1) 3 [.int .i64 0] := by
    have := Bk.new ((w.alloc (.cells #[.slice A L cap] 26)).alloc (.cells elZ.toArray 29)) 3 [.int .i64 0]
    rw [World.size_alloc, World.size_alloc] at this
    rw [← hw3]; exact this
  obtain ⟨w4, hw4⟩ : ∃ w4, w3.alloc (.cells #[.int .i64 0, .int .i64 0] 83) = w4 := ⟨_, rfl⟩
  have hb4 : Below w3.heap.size w3 w4 := by rw [← hw4]; exact bel1 _ _
  have k3 : Bk w4 w3.heap.size 83 [.int .i64 0, .int .i64 0] := by rw [← hw4]; exact Bk.new _ _ [_, _]
  have z4 : w4.heap.size = w.heap.size + 4 := by rw [← hw4, World.size_alloc, z3]
  have k14 := k1.below hb4 k1.lt
  have k24 := k2.below hb4 k2.lt
  have hc := next1_any w4 ((hA.below hb3).below hb4) hL hLc hcm hL1 (hA2.imp id fun ⟨ba, off, h1, h2⟩ => ⟨ba, off, h1, by omega⟩) (k0.below hb4 k0.lt) k14 k24 (by omega)
  have HC := Lib.hid (catch_any 49 _ (NxR (w.heap.size + 1) (w.heap.size + 1 + 1) w4 (nxE 17 lst 1 0)) w3 (fun _ _ => by simp [go_sem])
    (by
      rw [hw4]
      refine hc.mono ?_
      intro e w1 hg
      obtain ⟨f, a, h1, h2, h3⟩ := nxr_of k14 k24 hg
      exact ⟨f, a, h1, k3.kp h2 (by omega), h3⟩))
  have hmf : ∀ (fn : Fn) (first cap : Array Value) (w : World), (Instr.makeFunc fn first cap).run Try.prog w = .ok (.func fn first cap) w := fun _ _ _ _ => rfl
  have HB := Lib.hid (hb3.trans (hb4.mono hb3.size))
  have HZ := Lib.hid z3
  have HZ4 := Lib.hid z4
  have HNX := Lib.hid hnx
  have HW3 := Lib.hid hw3
  clear hc k0 k1 k2 k3 k14 k24 hb3 hb4 z3 z4 hw4 hw3 hnx hA hL hA2
  go_enter Try.func27, Try.ntmps27
  go_wp2_with fail
  rw [HW3.out]
  refine HC.out.mono ?_
  rintro e' w5 ⟨f, a, w1, ⟨c, n, k, A1, l1, q1, A2, l2, q2, z, hge, hgs, hk1, hcase⟩, hg, rfl⟩
  have hs1 : w4.heap.size ≤ w5.heap.size := Nat.le_trans hk1.size hg.size
  have hb5 : Below w.heap.size w w5 := (HB.out.trans (hk1.below (B := w.heap.size) (by rw [HZ4.out]; omega) (by intro k hk; rcases hk with rfl | rfl <;> omega))).trans (only_below hg (by rw [HZ.out]; omega) (by have := hk1.size; rw [HZ4.out] at this; omega))
  have hge5 := hge.only hg (by rw [HZ.out]; simp)
  have hgs5 := hgs.only hg (by rw [HZ.out]; simp)
  have HE5 := Lib.hid (fun (x : El) (v : Value) (h : RdE true (fun i => w4.heap.size ≤ i) w1 x v) => RdE.keep (S := fun i => w4.heap.size ≤ i) (T := fun i => w4.heap.size ≤ i) (w' := w5) hg.size (fun i hi hl => hg.block i hl (by intro e; injection e with e; have := HZ.out; have := HZ4.out; omega)) (fun i hi _ => hi) x v h)
  have HCS := Lib.hid hcase
  clear hge hgs hk1 hg HC hcase
  go_wp2_with fail
  obtain ⟨w6, hw6⟩ : ∃ w6, w5.alloc (.cells #[.int .i64 (f : Int), .int .i64 (a : Int)] 83) = w6 := ⟨_, rfl⟩
  have hb6 : Below w5.heap.size w5 w6 := by rw [← hw6]; exact bel1 _ _
  have hf6 : Bk w6 w5.heap.size 83 [.int .i64 (f : Int), .int .i64 (a : Int)] := by rw [← hw6]; exact Bk.new _ _ [_, _]
  rw [hw6]
  have hge6 := hge5.below hb6 hge5.lt
  have hgs6 := hgs5.below hb6 hgs5.lt
  have HB6 := Lib.hid (hb5.trans (hb6.mono hb5.size))
  obtain ⟨gf, hgf⟩ : ∃ gf, w5.heap.size = gf := ⟨_, rfl⟩
  obtain ⟨ge, hge⟩ : ∃ ge, w.heap.size + 1 = ge := ⟨_, rfl⟩
  obtain ⟨gs, hgs⟩ : ∃ gs, w.heap.size + 1 + 1 = gs := ⟨_, rfl⟩
  have hlt1 : w.heap.size ≤ ge := by omega
  have hlt2 : w.heap.size ≤ gs := by omega
  have hne1 : ge ≠ gs := by omega
  have hne2 : gf ≠ ge := by have := hge5.lt; omega
  have hne3 : gf ≠ gs := by have := hgs5.lt; omega
  have hw4ge : ge < w4.heap.size := by rw [HZ4.out]; omega
  have hw4gs : gs < w4.heap.size := by rw [HZ4.out]; omega
  have HS6 := Lib.hid (show w4.heap.size ≤ w6.heap.size from Nat.le_trans hs1 hb6.size)
  have HR6 := Lib.hid (fun (x : El) (v : Value) (h : RdE true (fun i => w4.heap.size ≤ i) w1 x v) => RdE.keep (S := fun i => w4.heap.size ≤ i) (T := fun i => w4.heap.size ≤ i) (w' := w6) hb6.size (fun i hi hl => hb6.block i hl) (fun i hi _ => hi) x v (HE5.out x v h))
  rw [hge] at hge6
  rw [hgs] at hgs6
  rw [hgf] at hf6
  rw [hgs, hge, hgf]
  clear hge hgs hgf hw6 hb5 hb6 hge5 hgs5 hs1 HE5
  have HGE := Lib.hid (show Bk w6.drew ge 29 [.int .u8 (c : Int), .bool k, .int .u32 (n : Int), .slice A1 l1 q1, .slice A2 l2 q2] from hge6)
  have HGS := Lib.hid (show Bk w6.drew gs 3 [.int .i64 (z : Int)] from hgs6)
  have HGF := Lib.hid (show Bk w6.drew gf 83 [.int .i64 (f : Int), .int .i64 (a : Int)] from hf6)
  obtain ⟨wd, hwd⟩ : ∃ wd, w6.drew = wd := ⟨_, rfl⟩
  have HBD := Lib.hid (show Below w.heap.size w wd from by rw [← hwd]; exact HB6.out.drew)
  have HRD := Lib.hid (fun (x : El) (v : Value) (h : RdE true (fun i => w4.heap.size ≤ i) w1 x v) => RdE.keep (S := fun i => w4.heap.size ≤ i) (T := fun i => w4.heap.size ≤ i) (w' := wd) (by rw [← hwd]; exact Nat.le_refl _) (fun i hi hl => by rw [← hwd]; rfl) (fun i hi _ => hi) x v (HR6.out x v h))
  have s00 := (show SNx ge gs gf c n k (.slice A1 l1 q1) (.slice A2 l2 q2) z f a w6.drew from ⟨HGE.out.cell 0, HGE.out.cell 1, HGE.out.cell 2, HGE.out.cell 3, HGE.out.cell 4, HGS.out.cell 0, HGF.out.cell 0, HGF.out.cell 1⟩)
  go_upto_region 4 with fail
  refine wp_region_held_drew (S := SNx ge gs gf c n k (.slice A1 l1 q1) (.slice A2 l2 q2) z f a) (by kernel_rfl) (s00) (fun hS => ?_)
  rw [hwd] at hS ⊢
  rw [hwd] at HGE HGS HGF
  clear hwd s00 HR6 HB6
  refine wpAnyH_take (i := 0) (oi := ⟨some 13, _, _, _, _, _⟩) (v := .agg #[.int .u8 (c : Int), .bool k, .int .u32 (n : Int), .slice A1 l1 q1, .slice A2 l2 q2]) rfl (by kernel_rfl) (by kernel_rfl) (by kernel_rfl) (fun _ _ _ h => h) (Or.inl ⟨by rfl, fun w hSw => by (try dsimp only at hSw); go_simp⟩) hS ?_
  simp only [Act.put, List.setIfInBounds_toArray, List.set_cons_zero, List.set_cons_succ]
  refine wpAnyH_take (i := 1) (oi := ⟨some 14, _, _, _, _, _⟩) (v := .int .i64 (z : Int)) rfl (by kernel_rfl) (by kernel_rfl) (by kernel_rfl) (fun _ _ _ h => h) (Or.inl ⟨by rfl, fun w hSw => by (try dsimp only at hSw); go_simp⟩) hS ?_
  simp only [Act.put, List.setIfInBounds_toArray, List.set_cons_zero, List.set_cons_succ]
  refine wpAnyH_take (i := 2) (oi := ⟨some 15, _, _, _, _, _⟩) (v := .pointer (some ⟨gf, 1, none⟩)) rfl (by kernel_rfl) (by kernel_rfl) (by kernel_rfl) (fun _ _ _ h => h) (Or.inl ⟨by rfl, fun w hSw => by (try dsimp only at hSw); go_simp⟩) hS ?_
  simp only [Act.put, List.setIfInBounds_toArray, List.set_cons_zero, List.set_cons_succ]
  refine wpAnyH_take (i := 3) (oi := ⟨some 16, _, _, _, _, _⟩) (v := .int .i64 (a : Int)) rfl (by kernel_rfl) (by kernel_rfl) (by kernel_rfl) (fun _ _ _ h => h) (Or.inl ⟨by rfl, fun w hSw => by (try dsimp only at hSw); go_simp⟩) hS ?_
  simp only [Act.put, List.setIfInBounds_toArray, List.set_cons_zero, List.set_cons_succ]
  refine wpAnyH_take (i := 4) (oi := ⟨some 17, _, _, _, _, _⟩) (v := .pointer (some ⟨gf, 0, none⟩)) rfl (by kernel_rfl) (by kernel_rfl) (by kernel_rfl) (fun _ _ _ h => h) (Or.inl ⟨by rfl, fun w hSw => by (try dsimp only at hSw); go_simp⟩) hS ?_
  simp only [Act.put, List.setIfInBounds_toArray, List.set_cons_zero, List.set_cons_succ]
  refine wpAnyH_take (i := 5) (oi := ⟨some 18, _, _, _, _, _⟩) (v := .int .i64 (f : Int)) rfl (by kernel_rfl) (by kernel_rfl) (by kernel_rfl) (fun _ _ _ h => h) (Or.inl ⟨by rfl, fun w hSw => by (try dsimp only at hSw); go_simp⟩) hS ?_
  simp only [Act.put, List.setIfInBounds_toArray, List.set_cons_zero, List.set_cons_succ]
  obtain ⟨e0, e1, e2, e3, e4, _⟩ := HGE.out.five
  obtain ⟨g0, g1, g2, g3, g4⟩ := HGE.out.free5
  have HE1 := Lib.hid (((((HGE.out.store 0 (.int .u8 (c : Int))).store 1 (.bool k)).store 2 (.int .u32 (n : Int))).store 3 (.slice A1 l1 q1)).store 4 (.slice A2 l2 q2))
  have HS1 := Lib.hid (((((HGS.out.far (p := ⟨ge, 0, none⟩) hne1.symm (.int .u8 (c : Int))).far (p := ⟨ge, 1, none⟩) hne1.symm (.bool k)).far (p := ⟨ge, 2, none⟩) hne1.symm (.int .u32 (n : Int))).far (p := ⟨ge, 3, none⟩) hne1.symm (.slice A1 l1 q1)).far (p := ⟨ge, 4, none⟩) hne1.symm (.slice A2 l2 q2))
  have HF1 := Lib.hid (((((HGF.out.far (p := ⟨ge, 0, none⟩) hne2 (.int .u8 (c : Int))).far (p := ⟨ge, 1, none⟩) hne2 (.bool k)).far (p := ⟨ge, 2, none⟩) hne2 (.int .u32 (n : Int))).far (p := ⟨ge, 3, none⟩) hne2 (.slice A1 l1 q1)).far (p := ⟨ge, 4, none⟩) hne2 (.slice A2 l2 q2))
  have HB1 := Lib.hid (((((HBD.out.setCell (p := ⟨ge, 0, none⟩) hlt1 (.int .u8 (c : Int))).setCell (p := ⟨ge, 1, none⟩) hlt1 (.bool k)).setCell (p := ⟨ge, 2, none⟩) hlt1 (.int .u32 (n : Int))).setCell (p := ⟨ge, 3, none⟩) hlt1 (.slice A1 l1 q1)).setCell (p := ⟨ge, 4, none⟩) hlt1 (.slice A2 l2 q2))
  have HH1 := Lib.hid (show ∀ i, i ≠ ge → (((((wd.setCell ⟨ge, 0, none⟩ (.int .u8 (c : Int))).setCell ⟨ge, 1, none⟩ (.bool k)).setCell ⟨ge, 2, none⟩ (.int .u32 (n : Int))).setCell ⟨ge, 3, none⟩ (.slice A1 l1 q1)).setCell ⟨ge, 4, none⟩ (.slice A2 l2 q2)).heap[i]? = wd.heap[i]? from fun i hi => by
    rw [Below.heap_setCell _ _ _ _ hi, Below.heap_setCell _ _ _ _ hi, Below.heap_setCell _ _ _ _ hi, Below.heap_setCell _ _ _ _ hi, Below.heap_setCell _ _ _ _ hi])
  obtain ⟨we, hwe⟩ : ∃ we, ((((wd.setCell ⟨ge, 0, none⟩ (.int .u8 (c : Int))).setCell ⟨ge, 1, none⟩ (.bool k)).setCell ⟨ge, 2, none⟩ (.int .u32 (n : Int))).setCell ⟨ge, 3, none⟩ (.slice A1 l1 q1)).setCell ⟨ge, 4, none⟩ (.slice A2 l2 q2) = we := ⟨_, rfl⟩
  have hsz : we.heap.size = wd.heap.size := by rw [← hwe]; simp [World.setCell]
  rw [hwe] at HE1 HS1 HF1 HB1 HH1
  have HE1' := Lib.hid (show Bk we ge 29 [.int .u8 (c : Int), .bool k, .int .u32 (n : Int), .slice A1 l1 q1, .slice A2 l2 q2] from HE1.out)
  have HWE := Lib.hid hwe
  have HSZ := Lib.hid hsz
  clear hwe hsz HE1
  refine wpAnyH_ready (rs := [6]) (by kernel_rfl) (by simp) ?_
  refine AllReadyH.cons (o := _) rfl (fun K hK => ?_) (AllReadyH.nil)
  go_simp
  rw [HWE.out]
  refine hK.out _ _ (⟨HE1'.out.cell 0, HE1'.out.cell 1, HE1'.out.cell 2, HE1'.out.cell 3, HE1'.out.cell 4, HS1.out.cell 0, HF1.out.cell 0, HF1.out.cell 1⟩) (fun hS => ?_)
  clear hK K
  (try simp only [Act.put, List.setIfInBounds_toArray, List.set_cons_zero, List.set_cons_succ])
  clear e0 e1 e2 e3 e4 g0 g1 g2 g3 g4
  have e0 := HS1.out.cell 0
  have g0 := HS1.out.free 0
  simp only [List.getElem?_cons_zero] at e0
  have HS2 := Lib.hid (show Bk (we.setCell ⟨gs, 0, none⟩ (.int .i64 (z : Int))) gs 3 [.int .i64 (z : Int)] from HS1.out.store 0 (.int .i64 (z : Int)))
  have HE2 := Lib.hid (HE1'.out.far (p := ⟨gs, 0, none⟩) hne1 (.int .i64 (z : Int)))
  have HF2 := Lib.hid (HF1.out.far (p := ⟨gs, 0, none⟩) hne3 (.int .i64 (z : Int)))
  refine wpAnyH_ready (rs := [7]) (by kernel_rfl) (by simp) ?_
  refine AllReadyH.cons (o := _) rfl (fun K hK => ?_) (AllReadyH.nil)
  go_simp
  refine hK.out _ _ (⟨HE2.out.cell 0, HE2.out.cell 1, HE2.out.cell 2, HE2.out.cell 3, HE2.out.cell 4, HS2.out.cell 0, HF2.out.cell 0, HF2.out.cell 1⟩) (fun hS => ?_)
  clear hK K
  (try simp only [Act.put, List.setIfInBounds_toArray, List.set_cons_zero, List.set_cons_succ])
  refine wpAnyH_take (i := 8) (oi := ⟨some 4, _, _, _, _, _⟩) (v := .int .i64 (a : Int)) rfl (by kernel_rfl) (by kernel_rfl) (by kernel_rfl) (fun _ _ _ h => h) (Or.inl ⟨by rfl, fun w hSw => by (try dsimp only at hSw); go_simp⟩) hS ?_
  simp only [Act.put, List.setIfInBounds_toArray, List.set_cons_zero, List.set_cons_succ]
  refine wpAnyH_take (i := 9) (oi := ⟨some 5, _, _, _, _, _⟩) (v := .int .i64 (f : Int)) rfl (by kernel_rfl) (by kernel_rfl) (by kernel_rfl) (fun _ _ _ h => h) (Or.inl ⟨by rfl, fun w hSw => by (try dsimp only at hSw); go_simp⟩) hS ?_
  simp only [Act.put, List.setIfInBounds_toArray, List.set_cons_zero, List.set_cons_succ]
  refine wpAnyH_done (by kernel_rfl) ?_ _
  go_wp2_with fail
  obtain ⟨s0, s1, s2, s3, s4, _⟩ := HE2.out.five
  have s5 := HS2.out.cell 0
  simp only [List.getElem?_cons_zero] at s5
  refine bodyPost_ret (v := .tuple #[elV c n k (.slice A1 l1 q1) (.slice A2 l2 q2), .int .i64 (z : Int), .int .i64 (a : Int), .int .i64 (f : Int)]) (by simp [results, Try.results27, go_sem, s0, s1, s2, s3, s4, s5]) rfl ?_
  have hcs := HCS.out
  rw [HNX.out]
  have HBF := HB1.out.setCell (p := ⟨gs, 0, none⟩) hlt2 (.int .i64 (z : Int))
  cases hr : nxE 17 lst 1 0 with
  | err f' a' =>
    rw [hr] at hcs
    obtain ⟨rfl, hf, rfl, rfl, rfl, rfl, rfl, rfl, rfl, rfl, rfl, rfl, rfl⟩ := hcs
    exact ⟨hf, rfl, HBF⟩
  | ok x z' b' =>
    rw [hr] at hcs
    obtain ⟨rfl, rfl, rfl, hu⟩ := hcs
    refine ⟨_, rfl, RdE.keep (w := wd) (S := fun i => w4.heap.size ≤ i) (by have := HSZ.out; simp [World.setCell]; omega) (fun i hi _ => ?_) (fun i hi _ => ?_) _ _ (HRD.out _ _ hu), HBF⟩
    · have h1 : w4.heap.size ≤ i := hi
      rw [Below.heap_setCell _ _ _ _ (by show i ≠ gs; omega), HH1.out i (by omega)]
    · have h1 : w4.heap.size ≤ i := hi
      have h2 := HZ4.out
      show w.heap.size ≤ i
      omega
end Go.Proofs.Ytgdjgahmnnjeeaa

/-!  Layer 4: the contract of Get.
  Conditions: none beyond that the slice reads as bytes. -/
namespace Go.Proofs.Ytgdjgahmnnjeeaa
open Go.RowKit

def getX (l : List Nat) : Nx := match nextX l with
  | .err f a => .err f a
  | .ok x z b => if z < l.length then .err 8 z else .ok x z b
/-- What Get returns. -/
def GiveGt (w : World) : Nx → Ending → World → Prop
  | .err f a, e, w' => f ≠ 0 ∧ e = .returned (.tuple #[elV 0 0 false (.slice none 0 0) (.slice none 0 0), .int .i64 ((a : Nat) : Int), .int .i64 ((f : Nat) : Int)]) ∧ Below w.heap.size w w'
  | .ok x _ _, e, w' => ∃ u, e = .returned (.tuple #[u, .int .i64 0, .int .i64 0]) ∧ RdE true (fun i => w.heap.size ≤ i) w' x u ∧ Below w.heap.size w w'
set_option maxHeartbeats 2000000 in
set_option maxRecDepth 100000 in
theorem get_el {A : Option Addr} {lst : List Nat} {L cap : Nat} (w : World) (hA : Rb w A lst) (hL : lst.length = L) (hLc : L ≤ cap) (hcm : cap ≤ maxLen) (hA2 : (A = none ∧ cap = 0) ∨ ∃ ba off, A = some ⟨ba, off, none⟩ ∧ ba < w.heap.size) :
    Calls Try.prog 33 #[.slice A L cap] w (GiveGt w (getX lst)) := by
  have hb0 := bel1 w (.cells elZ.toArray 29)
  have HB0 := Lib.hid hb0
  have hk := Bk.new w 29 elZ
  have hz0 : (w.alloc (.cells elZ.toArray 29)).heap.size = w.heap.size + 1 := by simp
  have HN0 := next_any (w.alloc (.cells elZ.toArray 29)) (hA.below hb0) hL hLc hcm (hA2.imp id fun ⟨ba, off, h1, h2⟩ => ⟨ba, off, h1, by rw [hz0]; omega⟩)
  have HZ0 := Lib.hid hz0
  have HGX := Lib.hid (show getX lst = match nextX lst with | .err f a => .err f a | .ok x z b => if z < lst.length then .err 8 z else .ok x z b from rfl)
  have HL := Lib.hid hL
  clear hA hA2 hL hb0 hz0 hLc hcm
  rcases hnx : nextX lst with ⟨f, a⟩ | ⟨x, z, b⟩
  · rw [hnx] at HN0
    rw [HGX.out, hnx]
    have HN := Lib.hid HN0
    clear HN0 hnx HGX
    go_enter Try.func33, Try.ntmps33
    go_wp2_with fail
    refine HN.out.mono ?_
    rintro e w2 ⟨hf, rfl, hb⟩
    have hfb : ((f : Int) == 0) = false := by simp; exact hf
    have hk2 := hk.below hb hk.lt
    obtain ⟨e0, e1, e2, e3, e4, ez⟩ := hk2.five
    obtain ⟨g0, g1, g2, g3, g4⟩ := hk2.free5
    obtain ⟨w3, hw3⟩ : ∃ w3, (((((w2.setCell ⟨w.heap.size, 0, none⟩ (.int .u8 0)).setCell ⟨w.heap.size, 1, none⟩ (.bool false)).setCell ⟨w.heap.size, 2, none⟩ (.int .u32 0)).setCell ⟨w.heap.size, 3, none⟩ (.slice none 0 0)).setCell ⟨w.heap.size, 4, none⟩ (.slice none 0 0)) = w3 := ⟨_, rfl⟩
    have hk3 : Bk w3 w.heap.size 29 [.int .u8 0, .bool false, .int .u32 0, .slice none 0 0, .slice none 0 0] := by rw [← hw3]; exact ((((hk2.store 0 (.int .u8 0)).store 1 (.bool false)).store 2 (.int .u32 0)).store 3 (.slice none 0 0)).store 4 (.slice none 0 0)
    have hb2 := HB0.out.trans (hb.mono HB0.out.size)
    have hl := Nat.le_refl w.heap.size
    have hb3 : Below w.heap.size w w3 := by rw [← hw3]; exact ((((hb2.setCell (p := ⟨w.heap.size, 0, none⟩) hl _).setCell (p := ⟨w.heap.size, 1, none⟩) hl _).setCell (p := ⟨w.heap.size, 2, none⟩) hl _).setCell (p := ⟨w.heap.size, 3, none⟩) hl _).setCell (p := ⟨w.heap.size, 4, none⟩) hl _
    have hh3 : ∀ i, i ≠ w.heap.size → w3.heap[i]? = w2.heap[i]? := fun i hi => by
      rw [← hw3, Below.heap_setCell _ _ _ _ hi, Below.heap_setCell _ _ _ _ hi, Below.heap_setCell _ _ _ _ hi, Below.heap_setCell _ _ _ _ hi, Below.heap_setCell _ _ _ _ hi]
    have hz3 : w3.heap.size = w2.heap.size := by rw [← hw3]; simp [World.setCell]
    obtain ⟨x0, x1, x2, x3, x4, xz⟩ := hk3.five
    obtain ⟨f0, f1, f2, f3, f4⟩ := hk3.free5
    have HK3 := Lib.hid hk3
    have HB3 := Lib.hid hb3
    have HH3 := Lib.hid hh3
    have HZ3 := Lib.hid hz3
    clear hk hk2 hk3 hb hb2 hb3 hh3 hz3
    go_wp2_with fail
    obtain ⟨s0, s1, s2, s3, s4, _⟩ := (((((HK3.out.store 0 (.int .u8 0)).store 1 (.bool false)).store 2 (.int .u32 0)).store 3 (.slice none 0 0)).store 4 (.slice none 0 0)).five
    have HBF := ((((HB3.out.setCell (p := ⟨w.heap.size, 0, none⟩) hl (.int .u8 0)).setCell (p := ⟨w.heap.size, 1, none⟩) hl (.bool false)).setCell (p := ⟨w.heap.size, 2, none⟩) hl (.int .u32 0)).setCell (p := ⟨w.heap.size, 3, none⟩) hl (.slice none 0 0)).setCell (p := ⟨w.heap.size, 4, none⟩) hl (.slice none 0 0)
    refine bodyPost_ret (v := .tuple #[.agg #[.int .u8 0, .bool false, .int .u32 0, .slice none 0 0, .slice none 0 0], .int .i64 (a : Int), .int .i64 (f : Int)]) (by simp [results, Try.results33, go_sem, s0, s1, s2, s3, s4]) rfl ?_
    exact ⟨hf, rfl, HBF⟩

  · rw [hnx] at HN0
    rw [HGX.out, hnx]
    have HN := Lib.hid HN0
    clear HN0 hnx HGX
    dsimp only
    by_cases hzl : z < lst.length
    · rw [if_pos hzl]
      have hzb : decide (z < L) = true := by have := HL.out; simp; omega
      go_enter Try.func33, Try.ntmps33
      go_wp2_with fail
      refine HN.out.mono ?_
      rintro e w2 ⟨u, rfl, hu, hb⟩
      obtain ⟨c, n, k, A1, l1, q1, A2, l2, q2, rfl⟩ := hu.form
      have hk2 := hk.below hb hk.lt
      obtain ⟨e0, e1, e2, e3, e4, ez⟩ := hk2.five
      obtain ⟨g0, g1, g2, g3, g4⟩ := hk2.free5
      obtain ⟨w3, hw3⟩ : ∃ w3, (((((w2.setCell ⟨w.heap.size, 0, none⟩ (.int .u8 (c : Int))).setCell ⟨w.heap.size, 1, none⟩ (.bool k)).setCell ⟨w.heap.size, 2, none⟩ (.int .u32 (n : Int))).setCell ⟨w.heap.size, 3, none⟩ (.slice A1 l1 q1)).setCell ⟨w.heap.size, 4, none⟩ (.slice A2 l2 q2)) = w3 := ⟨_, rfl⟩
      have hk3 : Bk w3 w.heap.size 29 [.int .u8 (c : Int), .bool k, .int .u32 (n : Int), .slice A1 l1 q1, .slice A2 l2 q2] := by rw [← hw3]; exact ((((hk2.store 0 (.int .u8 (c : Int))).store 1 (.bool k)).store 2 (.int .u32 (n : Int))).store 3 (.slice A1 l1 q1)).store 4 (.slice A2 l2 q2)
      have hb2 := HB0.out.trans (hb.mono HB0.out.size)
      have hl := Nat.le_refl w.heap.size
      have hb3 : Below w.heap.size w w3 := by rw [← hw3]; exact ((((hb2.setCell (p := ⟨w.heap.size, 0, none⟩) hl _).setCell (p := ⟨w.heap.size, 1, none⟩) hl _).setCell (p := ⟨w.heap.size, 2, none⟩) hl _).setCell (p := ⟨w.heap.size, 3, none⟩) hl _).setCell (p := ⟨w.heap.size, 4, none⟩) hl _
      have hh3 : ∀ i, i ≠ w.heap.size → w3.heap[i]? = w2.heap[i]? := fun i hi => by
        rw [← hw3, Below.heap_setCell _ _ _ _ hi, Below.heap_setCell _ _ _ _ hi, Below.heap_setCell _ _ _ _ hi, Below.heap_setCell _ _ _ _ hi, Below.heap_setCell _ _ _ _ hi]
      have hz3 : w3.heap.size = w2.heap.size := by rw [← hw3]; simp [World.setCell]
      obtain ⟨x0, x1, x2, x3, x4, xz⟩ := hk3.five
      obtain ⟨f0, f1, f2, f3, f4⟩ := hk3.free5
      have HK3 := Lib.hid hk3
      have HB3 := Lib.hid hb3
      have HH3 := Lib.hid hh3
      have HZ3 := Lib.hid hz3
      clear hk hk2 hk3 hb hb2 hb3 hh3 hz3
      go_wp2_with fail
      obtain ⟨s0, s1, s2, s3, s4, _⟩ := (((((HK3.out.store 0 (.int .u8 0)).store 1 (.bool false)).store 2 (.int .u32 0)).store 3 (.slice none 0 0)).store 4 (.slice none 0 0)).five
      have HBF := ((((HB3.out.setCell (p := ⟨w.heap.size, 0, none⟩) hl (.int .u8 0)).setCell (p := ⟨w.heap.size, 1, none⟩) hl (.bool false)).setCell (p := ⟨w.heap.size, 2, none⟩) hl (.int .u32 0)).setCell (p := ⟨w.heap.size, 3, none⟩) hl (.slice none 0 0)).setCell (p := ⟨w.heap.size, 4, none⟩) hl (.slice none 0 0)
      refine bodyPost_ret (v := .tuple #[.agg #[.int .u8 0, .bool false, .int .u32 0, .slice none 0 0, .slice none 0 0], .int .i64 (z : Int), .int .i64 8]) (by simp [results, Try.results33, go_sem, s0, s1, s2, s3, s4]) rfl ?_
      exact ⟨by decide, rfl, HBF⟩

    · rw [if_neg hzl]
      have hzb : decide (z < L) = false := by have := HL.out; simp; omega
      go_enter Try.func33, Try.ntmps33
      go_wp2_with fail
      refine HN.out.mono ?_
      rintro e w2 ⟨u, rfl, hu, hb⟩
      obtain ⟨c, n, k, A1, l1, q1, A2, l2, q2, rfl⟩ := hu.form
      have HU := Lib.hid hu
      clear hu
      have hk2 := hk.below hb hk.lt
      obtain ⟨e0, e1, e2, e3, e4, ez⟩ := hk2.five
      obtain ⟨g0, g1, g2, g3, g4⟩ := hk2.free5
      obtain ⟨w3, hw3⟩ : ∃ w3, (((((w2.setCell ⟨w.heap.size, 0, none⟩ (.int .u8 (c : Int))).setCell ⟨w.heap.size, 1, none⟩ (.bool k)).setCell ⟨w.heap.size, 2, none⟩ (.int .u32 (n : Int))).setCell ⟨w.heap.size, 3, none⟩ (.slice A1 l1 q1)).setCell ⟨w.heap.size, 4, none⟩ (.slice A2 l2 q2)) = w3 := ⟨_, rfl⟩
      have hk3 : Bk w3 w.heap.size 29 [.int .u8 (c : Int), .bool k, .int .u32 (n : Int), .slice A1 l1 q1, .slice A2 l2 q2] := by rw [← hw3]; exact ((((hk2.store 0 (.int .u8 (c : Int))).store 1 (.bool k)).store 2 (.int .u32 (n : Int))).store 3 (.slice A1 l1 q1)).store 4 (.slice A2 l2 q2)
      have hb2 := HB0.out.trans (hb.mono HB0.out.size)
      have hl := Nat.le_refl w.heap.size
      have hb3 : Below w.heap.size w w3 := by rw [← hw3]; exact ((((hb2.setCell (p := ⟨w.heap.size, 0, none⟩) hl _).setCell (p := ⟨w.heap.size, 1, none⟩) hl _).setCell (p := ⟨w.heap.size, 2, none⟩) hl _).setCell (p := ⟨w.heap.size, 3, none⟩) hl _).setCell (p := ⟨w.heap.size, 4, none⟩) hl _
      have hh3 : ∀ i, i ≠ w.heap.size → w3.heap[i]? = w2.heap[i]? := fun i hi => by
        rw [← hw3, Below.heap_setCell _ _ _ _ hi, Below.heap_setCell _ _ _ _ hi, Below.heap_setCell _ _ _ _ hi, Below.heap_setCell _ _ _ _ hi, Below.heap_setCell _ _ _ _ hi]
      have hz3 : w3.heap.size = w2.heap.size := by rw [← hw3]; simp [World.setCell]
      obtain ⟨x0, x1, x2, x3, x4, xz⟩ := hk3.five
      obtain ⟨f0, f1, f2, f3, f4⟩ := hk3.free5
      have HK3 := Lib.hid hk3
      have HB3 := Lib.hid hb3
      have HH3 := Lib.hid hh3
      have HZ3 := Lib.hid hz3
      clear hk hk2 hk3 hb hb2 hb3 hh3 hz3
      go_wp2_with fail
      obtain ⟨s0, s1, s2, s3, s4, _⟩ := (((((HK3.out.store 0 (.int .u8 (c : Int))).store 1 (.bool k)).store 2 (.int .u32 (n : Int))).store 3 (.slice A1 l1 q1)).store 4 (.slice A2 l2 q2)).five
      have HBF := ((((HB3.out.setCell (p := ⟨w.heap.size, 0, none⟩) hl (.int .u8 (c : Int))).setCell (p := ⟨w.heap.size, 1, none⟩) hl (.bool k)).setCell (p := ⟨w.heap.size, 2, none⟩) hl (.int .u32 (n : Int))).setCell (p := ⟨w.heap.size, 3, none⟩) hl (.slice A1 l1 q1)).setCell (p := ⟨w.heap.size, 4, none⟩) hl (.slice A2 l2 q2)
      refine bodyPost_ret (v := .tuple #[.agg #[.int .u8 (c : Int), .bool k, .int .u32 (n : Int), .slice A1 l1 q1, .slice A2 l2 q2], .int .i64 0, .int .i64 0]) (by simp [results, Try.results33, go_sem, s0, s1, s2, s3, s4]) rfl ?_
      refine ⟨_, rfl, RdE.keep (w := w2) (by have := HZ3.out; simp [World.setCell]; omega) (fun i hi _ => ?_) (fun i hi _ => ?_) _ _ HU.out, HBF⟩
      · have h1 : (w.alloc (.cells elZ.toArray 29)).heap.size ≤ i := hi
        have h2 := HZ0.out
        have hi' : i ≠ w.heap.size := by omega
        rw [Below.heap_setCell _ _ _ _ hi', Below.heap_setCell _ _ _ _ hi', Below.heap_setCell _ _ _ _ hi', Below.heap_setCell _ _ _ _ hi', Below.heap_setCell _ _ _ _ hi', HH3.out i hi']
      · have h1 : (w.alloc (.cells elZ.toArray 29)).heap.size ≤ i := hi
        have h2 := HZ0.out
        show w.heap.size ≤ i
        omega

end Go.Proofs.Ytgdjgahmnnjeeaa

/-!  Layer 4: the contract of At.
  Conditions: none beyond that values read as elements, and the path as integers. -/
namespace Go.Proofs.Ytgdjgahmnnjeeaa
open Go.RowKit

/-- Integers as cells. -/
def csZ (l : List Int) : List Value := l.map (Value.int .i64)
/-- The element at a path. -/
def atE : El → List Int → Option El
  | e, [] => some e
  | .mk _ _ _ _ ss, i :: t => if h : 0 ≤ i ∧ i.toNat < ss.length then atE ss[i.toNat] t else none
termination_by _ t => t.length
theorem atE_nil (e : El) : atE e [] = some e := by rw [atE]
theorem atE_cons {c n : Nat} {k : Bool} {bs : List Nat} {ss : List El} {i : Int} {t : List Int} (h0 : 0 ≤ i) (h : i.toNat < ss.length) : atE (.mk c n k bs ss) (i :: t) = atE ss[i.toNat] t := by rw [atE, dif_pos ⟨h0, h⟩]
theorem atE_no {c n : Nat} {k : Bool} {bs : List Nat} {ss : List El} {i : Int} {t : List Int} (h : ¬ (0 ≤ i ∧ i.toNat < ss.length)) : atE (.mk c n k bs ss) (i :: t) = none := by rw [atE, dif_neg h]
/-- What At gives. -/
def atR (e : El) (path : List Int) : Except Nat El := if (meaR e).2.2 ≠ 0 then .error (meaR e).2.2 else match atE e path with
  | none => .error 19
  | some x => .ok x
def GiveAt (w : World) : Except Nat El → Ending → World → Prop
  | .error f, e, w' => f ≠ 0 ∧ e = .returned (.tuple #[elV 0 0 false (.slice none 0 0) (.slice none 0 0), .int .i64 ((f : Nat) : Int)]) ∧ Below w.heap.size w w'
  | .ok x, e, w' => ∃ u, e = .returned (.tuple #[u, .int .i64 0]) ∧ RdE true (fun i => w.heap.size ≤ i) w' x u ∧ Below w.heap.size w w'
/-- What the loop of At keeps. -/
def AtRel (x : Bool) (w : World) (e : El) (path : List Int) (ge gr N : Nat) (i : Value) (wr : World) : Prop :=
  ∃ (p c n : Nat) (k : Bool) (bs : List Nat) (ss : List El) (A : Option Addr) (ca : Nat) (B : Option Addr) (cb : Nat), p ≤ N ∧ i = .int .i64 (p : Int) ∧ Bk wr ge 29 [.int .u8 (c : Int), .bool k, .int .u32 (n : Int), .slice A bs.length ca, .slice B ss.length cb] ∧
    RdE x (· < w.heap.size) wr (.mk c n k bs ss) (elV c n k (.slice A bs.length ca) (.slice B ss.length cb)) ∧ smlE (.mk c n k bs ss) ∧ atE e path = atE (.mk c n k bs ss) (path.drop p) ∧ Bk wr gr 29 elZ ∧ Below w.heap.size w wr
theorem sml_sub {c n : Nat} {k : Bool} {bs : List Nat} {ss : List El} (h : smlE (.mk c n k bs ss)) {i : Nat} (hi : i < ss.length) : smlE ss[i] := by
  rw [smlE] at h
  exact smlS_mem h.2.2 (List.getElem_mem hi)
set_option maxHeartbeats 4000000 in
set_option maxRecDepth 100000 in
theorem at_el {x : Bool} {S : Nat → Prop} (e : El) (v : Value) (path : List Int) (P : Option Addr) (N pc : Nat) (w : World) (hd : depE e ≤ 10000) (hE : RdE x S w e v) (hs : smlE e) (hP : Rd w P (csZ path)) (hN : path.length = N) (hN1 : N ≤ 1000000) :
    Calls Try.prog 21 #[v, .slice P N pc] w (GiveAt w (atR e path)) := by
  obtain ⟨c, n, k, bs, ss⟩ := e
  have hE2 : RdE x (· < w.heap.size) w (.mk c n k bs ss) v := RdE.keep (Nat.le_refl _) (fun _ _ _ => rfl) (fun _ _ h => h) _ _ hE
  have hE3 := hE2
  obtain ⟨h1, h2, h3, A, ca, B, cb, rfl, h5, h6, h7, h8, h9, h10, h11⟩ := hE
  clear h1 h2 h3 h5 h6 h7 h8 h9 h10 h11
  obtain ⟨w2, hw2⟩ : ∃ w2, (w.alloc (.cells #[.int .u8 (c : Int), .bool k, .int .u32 (n : Int), .slice A bs.length ca, .slice B ss.length cb] 29)).alloc (.cells elZ.toArray 29) = w2 := ⟨_, rfl⟩
  have hb2 : Below w.heap.size w w2 := by rw [← hw2]; exact bel2 w _ _
  have k0 : Bk w2 w.heap.size 29 [.int .u8 (c : Int), .bool k, .int .u32 (n : Int), .slice A bs.length ca, .slice B ss.length cb] := by
    rw [← hw2]; exact (Bk.new w _ [_, _, _, _, _]).alloc _
  have k1 : Bk w2 (w.heap.size + 1) 29 elZ := by
    have := Bk.new (w.alloc (.cells #[.int .u8 (c : Int), .bool k, .int .u32 (n : Int), .slice A bs.length ca, .slice B ss.length cb] 29)) 29 elZ
    rw [World.size_alloc] at this
    rw [← hw2]; exact this
  have HC0 := echeck_any _ _ w2 hd (hE3.below (B := w.heap.size) (fun _ h _ => h) hb2)
  obtain ⟨f, hf⟩ : ∃ f, (meaR (.mk c n k bs ss)).2.2 = f := ⟨_, rfl⟩
  rw [hf] at HC0
  have HC := Lib.hid HC0
  have HR := Lib.hid (show atR (.mk c n k bs ss) path = if f ≠ 0 then .error f else match atE (.mk c n k bs ss) path with | none => .error 19 | some x => .ok x from by unfold atR; rw [hf])
  have HE2 := Lib.hid hE2
  have HK0 := Lib.hid k0
  have HK1 := Lib.hid k1
  have HB2 := Lib.hid hb2
  have HP := Lib.hid hP
  have HN := Lib.hid hN
  have HSM := Lib.hid hs
  have HW2 := Lib.hid hw2
  clear hE2 hE3 HC0 hf k0 k1 hb2 hP hN hs hw2 hd
  go_enter Try.func21, Try.ntmps21
  go_wp2_with fail
  rw [HW2.out]
  refine HC.out.mono ?_
  rintro e1 w3 ⟨rfl, hb⟩
  obtain ⟨ge, hge⟩ : ∃ ge, w.heap.size = ge := ⟨_, rfl⟩
  obtain ⟨gr, hgr⟩ : ∃ gr, w.heap.size + 1 = gr := ⟨_, rfl⟩
  have hne : ge ≠ gr := by omega
  have hle1 : w.heap.size ≤ ge := by omega
  have hle2 : w.heap.size ≤ gr := by omega
  rw [hge] at HK0
  rw [hgr] at HK1
  rw [hgr, hge]
  have hk3 := HK1.out.below hb HK1.out.lt
  have hK3 := HK0.out.below hb HK0.out.lt
  have hB3 := HB2.out.trans (hb.mono HB2.out.size)
  have hE3 := HE2.out.below (B := w.heap.size) (fun _ h _ => h) hB3
  obtain ⟨e0, e1, e2, e3, e4, ez⟩ := hk3.five
  obtain ⟨g0, g1, g2, g3, g4⟩ := hk3.free5
  have HK3 := Lib.hid hk3
  have HG3 := Lib.hid hK3
  have HB3 := Lib.hid hB3
  have HE3 := Lib.hid hE3
  clear hk3 hK3 hB3 hE3 hb HC HE2 HK0 HK1 HB2
  clear hge hgr
  by_cases hf0 : f = 0
  rotate_left
  · have hfb : ((f : Int) != 0) = true := by simp; exact hf0
    go_wp2_with fail
    obtain ⟨s0, s1, s2, s3, s4, _⟩ := (((((HK3.out.store 0 (.int .u8 0)).store 1 (.bool false)).store 2 (.int .u32 0)).store 3 (.slice none 0 0)).store 4 (.slice none 0 0)).five
    have HBF := ((((HB3.out.setCell (p := ⟨gr, 0, none⟩) hle2 (.int .u8 0)).setCell (p := ⟨gr, 1, none⟩) hle2 (.bool false)).setCell (p := ⟨gr, 2, none⟩) hle2 (.int .u32 0)).setCell (p := ⟨gr, 3, none⟩) hle2 (.slice none 0 0)).setCell (p := ⟨gr, 4, none⟩) hle2 (.slice none 0 0)
    refine bodyPost_ret (v := .tuple #[.agg #[.int .u8 0, .bool false, .int .u32 0, .slice none 0 0, .slice none 0 0], .int .i64 (f : Int)]) (by simp [results, Try.results21, go_sem, s0, s1, s2, s3, s4]) rfl ?_
    rw [HR.out, if_pos hf0]
    exact ⟨hf0, rfl, HBF⟩
  subst hf0
  rw [show ((0 : Nat) : Int) = 0 from rfl]
  have HR2 := Lib.hid (show atR (.mk c n k bs ss) path = match atE (.mk c n k bs ss) path with | none => .error 19 | some x => .ok x from by rw [HR.out, if_neg (by simp)])
  clear HR e0 e1 e2 e3 e4 ez g0 g1 g2 g3 g4
  go_wp2_with fail
  go_loopw [17] (fun i wr => AtRel x w (.mk c n k bs ss) path ge gr N i wr) (fun i _ => N - (intOf i).toNat)
  case atStart => exact ⟨0, c, n, k, bs, ss, A, ca, B, cb, Nat.zero_le _, rfl, HG3.out, HE3.out, HSM.out, by rw [List.drop_zero], HK3.out, HB3.out⟩
  case round =>
    obtain ⟨p, c', n', k', bs', ss', A', ca', B', cb', hp, rfl, hG, hE, hsm, hat, hK, hB⟩ := hrel
    have HG := Lib.hid hG
    have HE := Lib.hid hE
    have HS := Lib.hid hsm
    have HAT := Lib.hid hat
    have HK := Lib.hid hK
    have HB := Lib.hid hB
    obtain ⟨e0, e1, e2, e3, e4, ez⟩ := hG.five
    obtain ⟨g0, g1, g2, g3, g4⟩ := hG.free5
    obtain ⟨r0, r1, r2, r3, r4, rz⟩ := hK.five
    obtain ⟨q0, q1, q2, q3, q4⟩ := hK.free5
    clear hG hE hsm hat hK hB
    by_cases hlt : p < N
    · obtain ⟨z, hz⟩ : ∃ z, path[p]'(by rw [HN.out]; exact hlt) = z := ⟨_, rfl⟩
      obtain ⟨pb, poff, rfl, hpb, hpc⟩ := HP.out.at_ (k := p) (by unfold csZ; rw [List.length_map, HN.out]; exact hlt)
      have hpc1 : wr.cell? ⟨pb, poff + p, none⟩ = some (.int .i64 z) := by rw [HB.out.cell hpb, hpc]; unfold csZ; rw [List.getElem_map, hz]
      have hdr : path.drop p = z :: path.drop (p + 1) := by rw [List.drop_eq_getElem_cons (by rw [HN.out]; exact hlt), hz]
      have HDR := Lib.hid hdr
      have HZE := Lib.hid hz
      clear hpc hdr hz
      by_cases hok : 0 ≤ z ∧ z.toNat < ss'.length
      rotate_left
      · have hno : atR (.mk c n k bs ss) path = .error 19 := by rw [HR2.out, HAT.out, HDR.out, atE_no hok]
        have HNO := Lib.hid hno
        clear hno
        by_cases hz0 : z < 0
        · have hzb : decide (z < 0) = true := by simpa using hz0
          go_wp2_with fail
          obtain ⟨s0, s1, s2, s3, s4, _⟩ := (((((HK.out.store 0 (.int .u8 0)).store 1 (.bool false)).store 2 (.int .u32 0)).store 3 (.slice none 0 0)).store 4 (.slice none 0 0)).five
          have HBF := ((((HB.out.setCell (p := ⟨gr, 0, none⟩) hle2 (.int .u8 0)).setCell (p := ⟨gr, 1, none⟩) hle2 (.bool false)).setCell (p := ⟨gr, 2, none⟩) hle2 (.int .u32 0)).setCell (p := ⟨gr, 3, none⟩) hle2 (.slice none 0 0)).setCell (p := ⟨gr, 4, none⟩) hle2 (.slice none 0 0)
          refine bodyPost_ret (v := .tuple #[.agg #[.int .u8 0, .bool false, .int .u32 0, .slice none 0 0, .slice none 0 0], .int .i64 19]) (by simp [results, Try.results21, go_sem, s0, s1, s2, s3, s4]) rfl ?_
          rw [HNO.out]
          exact ⟨by decide, rfl, HBF⟩

        · have hzb : decide (z < 0) = false := by simpa using hz0
          have hzl : decide (z ≥ (ss'.length : Int)) = true := by simp; omega
          go_wp2_with fail
          obtain ⟨s0, s1, s2, s3, s4, _⟩ := (((((HK.out.store 0 (.int .u8 0)).store 1 (.bool false)).store 2 (.int .u32 0)).store 3 (.slice none 0 0)).store 4 (.slice none 0 0)).five
          have HBF := ((((HB.out.setCell (p := ⟨gr, 0, none⟩) hle2 (.int .u8 0)).setCell (p := ⟨gr, 1, none⟩) hle2 (.bool false)).setCell (p := ⟨gr, 2, none⟩) hle2 (.int .u32 0)).setCell (p := ⟨gr, 3, none⟩) hle2 (.slice none 0 0)).setCell (p := ⟨gr, 4, none⟩) hle2 (.slice none 0 0)
          refine bodyPost_ret (v := .tuple #[.agg #[.int .u8 0, .bool false, .int .u32 0, .slice none 0 0, .slice none 0 0], .int .i64 19]) (by simp [results, Try.results21, go_sem, s0, s1, s2, s3, s4]) rfl ?_
          rw [HNO.out]
          exact ⟨by decide, rfl, HBF⟩

      · obtain ⟨hz0, hzn⟩ := hok
        obtain ⟨i, hi⟩ : ∃ i, z.toNat = i := ⟨_, rfl⟩
        have hzi : z = (i : Int) := by omega
        subst hzi
        rw [Int.toNat_natCast] at hzn
        have hzb : decide ((i : Int) < 0) = false := by simp
        have hzl : decide (i ≥ ss'.length) = false := by simp; omega
        have hzl2 : decide (ss'.length ≤ i) = false := by simp; omega
        obtain ⟨_, _, _, A9, ca9, B9, cb9, heq, _, _, _, h8, h9, _, h11⟩ := HE.out
        simp only [elV, Value.agg.injEq, Array.mk.injEq, List.cons.injEq, Value.slice.injEq, true_and, and_true] at heq
        obtain ⟨⟨rfl, _, rfl⟩, rfl, rfl⟩ := heq
        obtain ⟨b, off, c1, n1, k1, u, v, rfl, hb, hSb, y0, y1, y2, y3, y4, hEs⟩ := h11.five hzn
        have hsl : ss'.length ≤ 9223372036854775807 := by unfold maxLen at h9; omega
        have hsms := sml_sub HS.out hzn
        have hat2 := atE_cons (c := c') (n := n') (k := k') (bs := bs') (t := path.drop (p + 1)) (i := (i : Int)) (by omega) (by rw [Int.toNat_natCast]; exact hzn)
        simp only [Int.toNat_natCast] at hat2
        have HAT2 := Lib.hid hat2
        generalize hss : ss'[i] = es at *
        obtain ⟨c2, n2, k2, bs2, ss2⟩ := es
        obtain ⟨j1, j2, j3, A2, ca2, B2, cb2, heq2, j5, j6, j7, j8, j9, j10, j11⟩ := hEs
        simp only [elV, Value.agg.injEq, Array.mk.injEq, List.cons.injEq, Value.int.injEq, Value.bool.injEq, true_and, and_true] at heq2
        obtain ⟨hcc, rfl, hnn, rfl, rfl⟩ := heq2
        obtain rfl : c1 = c2 := by omega
        obtain rfl : n1 = n2 := by omega
        have HES := Lib.hid (show RdE x (· < w.heap.size) wr (.mk c1 n1 k1 bs2 ss2) (elV c1 n1 k1 (.slice A2 bs2.length ca2) (.slice B2 ss2.length cb2)) from ⟨j1, j2, j3, A2, ca2, B2, cb2, rfl, j5, j6, j7, j8, j9, j10, j11⟩)
        have HSMS := Lib.hid hsms
        clear j1 j2 j3 j5 j6 j7 j8 j9 j10 j11 h11 hat2 hsms hss HE
        go_wp2_with fail
        refine ⟨⟨p + 1, c1, n1, k1, bs2, ss2, A2, ca2, B2, cb2, hlt, rfl,
          ((((HG.out.store 0 (.int .u8 (c1 : Int))).store 1 (.bool k1)).store 2 (.int .u32 (n1 : Int))).store 3 (.slice A2 bs2.length ca2)).store 4 (.slice B2 ss2.length cb2),
          RdE.keep (w := wr) (by simp [World.setCell]) (fun j hj _ => ?_) (fun _ h _ => h) _ _ HES.out, HSMS.out,
          HAT.out.trans (by rw [HDR.out]; exact HAT2.out),
          ((((HK.out.far (p := ⟨ge, 0, none⟩) hne.symm (.int .u8 (c1 : Int))).far (p := ⟨ge, 1, none⟩) hne.symm (.bool k1)).far (p := ⟨ge, 2, none⟩) hne.symm (.int .u32 (n1 : Int))).far (p := ⟨ge, 3, none⟩) hne.symm (.slice A2 bs2.length ca2)).far (p := ⟨ge, 4, none⟩) hne.symm (.slice B2 ss2.length cb2),
          ((((HB.out.setCell (p := ⟨ge, 0, none⟩) hle1 (.int .u8 (c1 : Int))).setCell (p := ⟨ge, 1, none⟩) hle1 (.bool k1)).setCell (p := ⟨ge, 2, none⟩) hle1 (.int .u32 (n1 : Int))).setCell (p := ⟨ge, 3, none⟩) hle1 (.slice A2 bs2.length ca2)).setCell (p := ⟨ge, 4, none⟩) hle1 (.slice B2 ss2.length cb2)⟩, by simp [intOf]; omega⟩
        have hj' : j < w.heap.size := hj
        have hi' : j ≠ ge := by omega
        rw [Below.heap_setCell _ _ _ _ hi', Below.heap_setCell _ _ _ _ hi', Below.heap_setCell _ _ _ _ hi', Below.heap_setCell _ _ _ _ hi', Below.heap_setCell _ _ _ _ hi']
    · obtain rfl : p = N := by omega
      have hok : atR (.mk c n k bs ss) path = .ok (.mk c' n' k' bs' ss') := by rw [HR2.out, HAT.out, List.drop_of_length_le (Nat.le_of_eq HN.out), atE_nil]
      have HOK := Lib.hid hok
      have HC0 := clone_any _ _ wr HE.out HS.out
      have HC := Lib.hid HC0
      clear hok HC0 HE HS HAT
      go_wp2_with fail
      refine HC.out.mono ?_
      rintro e w4 ⟨u, rfl, hu, hb⟩
      clear e0 e1 e2 e3 e4 g0 g1 g2 g3 g4 r0 r1 r2 r3 r4 q0 q1 q2 q3 q4
      obtain ⟨c1, n1, k1, A1, l1, q1, A2, l2, q2, rfl⟩ := hu.form
      have HU := Lib.hid hu
      have hk4 := HK.out.below hb HK.out.lt
      have hb4 := HB.out.trans (hb.mono HB.out.size)
      obtain ⟨e0, e1, e2, e3, e4, ew⟩ := hk4.five
      obtain ⟨g0, g1, g2, g3, g4⟩ := hk4.free5
      have HK4 := Lib.hid hk4
      have HB4 := Lib.hid hb4
      have hsz := hb.size
      clear hu hk4 hb4 hb HC
      go_wp2_with fail
      obtain ⟨s0, s1, s2, s3, s4, _⟩ := (((((HK4.out.store 0 (.int .u8 (c1 : Int))).store 1 (.bool k1)).store 2 (.int .u32 (n1 : Int))).store 3 (.slice A1 l1 q1)).store 4 (.slice A2 l2 q2)).five
      have HBF := ((((HB4.out.setCell (p := ⟨gr, 0, none⟩) hle2 (.int .u8 (c1 : Int))).setCell (p := ⟨gr, 1, none⟩) hle2 (.bool k1)).setCell (p := ⟨gr, 2, none⟩) hle2 (.int .u32 (n1 : Int))).setCell (p := ⟨gr, 3, none⟩) hle2 (.slice A1 l1 q1)).setCell (p := ⟨gr, 4, none⟩) hle2 (.slice A2 l2 q2)
      refine bodyPost_ret (v := .tuple #[.agg #[.int .u8 (c1 : Int), .bool k1, .int .u32 (n1 : Int), .slice A1 l1 q1, .slice A2 l2 q2], .int .i64 0]) (by simp [results, Try.results21, go_sem, s0, s1, s2, s3, s4]) rfl ?_
      rw [HOK.out]
      refine ⟨_, rfl, RdE.keep (w := w4) (by simp [World.setCell]) (fun i hi _ => ?_) (fun i hi _ => ?_) _ _ HU.out, HBF⟩
      · have h1 : wr.heap.size ≤ i := hi
        have hi' : i ≠ gr := by omega
        rw [Below.heap_setCell _ _ _ _ hi', Below.heap_setCell _ _ _ _ hi', Below.heap_setCell _ _ _ _ hi', Below.heap_setCell _ _ _ _ hi', Below.heap_setCell _ _ _ _ hi']
      · have h1 : wr.heap.size ≤ i := hi
        show w.heap.size ≤ i
        have := HB.out.size
        omega
end Go.Proofs.Ytgdjgahmnnjeeaa
