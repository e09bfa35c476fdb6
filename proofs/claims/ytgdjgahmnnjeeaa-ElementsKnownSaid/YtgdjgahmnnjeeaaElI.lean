/-
  Layer 4: what Check says of a tree; the program's measure, Check, Count, Depth.
  Conditions: none beyond that values read as elements.
-/
import Derived.Test.YtgdjgahmnnjeeaaElH
namespace Go.Proofs.Ytgdjgahmnnjeeaa
open Go.RowKit

mutual
/-- The first error in preorder, or 0; and how many elements there are so far. -/
def chkE : El → Nat → Nat → Nat × Nat
  | .mk c n k bs ss, d, b => if oneE (.mk c n k bs ss) d b ≠ 0 then (oneE (.mk c n k bs ss) d b, 0) else chkS ss (d + 1) (b + 1)
def chkS : List El → Nat → Nat → Nat × Nat
  | [], _, b => (0, b)
  | e :: ss, d, b => if (chkE e d b).1 ≠ 0 then ((chkE e d b).1, 0) else chkS ss d (chkE e d b).2
end
/-- What measure does at an element. -/
def meaStep (s : Nat × Nat) (e : El) (d : Nat) : Except Nat (Nat × Nat) := if oneE e d s.1 ≠ 0 then .error (oneE e d s.1) else .ok (s.1 + 1, max s.2 d)

mutual
theorem meaE : ∀ (e : El) (b q d : Nat), visE meaStep e (b, q) d = if (chkE e d b).1 ≠ 0 then .error (chkE e d b).1 else .ok ((chkE e d b).2, max q (d + depE e - 1))
  | .mk c n k bs ss, b, q, d => by
    rw [visE, chkE, depE]
    by_cases h : oneE (.mk c n k bs ss) d b ≠ 0
    · have e1 : meaStep (b, q) (.mk c n k bs ss) d = .error (oneE (.mk c n k bs ss) d b) := by unfold meaStep; rw [if_pos h]
      rw [e1, if_pos h]
      dsimp only
      rw [if_pos h]
    · have e1 : meaStep (b, q) (.mk c n k bs ss) d = .ok (b + 1, max q d) := by unfold meaStep; rw [if_neg h]
      rw [e1, if_neg h]
      dsimp only
      rw [meaS ss (b + 1) (max q d) (d + 1)]
      split
      · rfl
      · congr 2
        cases ss with
        | nil => simp [depS]
        | cons x ss =>
          have := depS_pos x ss
          rw [if_neg (by simp)]
          omega
theorem meaS : ∀ (ss : List El) (b q d : Nat), visS meaStep ss (b, q) d = if (chkS ss d b).1 ≠ 0 then .error (chkS ss d b).1 else .ok ((chkS ss d b).2, if ss = [] then q else max q (d + depS ss - 1))
  | [], b, q, d => by rw [visS, chkS]; rfl
  | e :: ss, b, q, d => by
    rw [visS, chkS, meaE e b q d, depS]
    by_cases h : (chkE e d b).1 ≠ 0
    · rw [if_pos h, if_pos h]
      dsimp only
      rw [if_pos h]
    · rw [if_neg h, if_neg h]
      dsimp only
      rw [meaS ss _ _ d]
      split
      · rfl
      · congr 2
        rw [if_neg (List.cons_ne_nil e ss)]
        have h1 := depE_pos e
        cases ss with
        | nil => rw [if_pos rfl, depS]; omega
        | cons x ss =>
          have := depS_pos x ss
          rw [if_neg (List.cons_ne_nil x ss)]
          omega
theorem depE_pos : ∀ (e : El), 0 < depE e
  | .mk c n k bs ss => by rw [depE]; omega
theorem depS_pos : ∀ (x : El) (ss : List El), 0 < depS (x :: ss)
  | x, ss => by have := depE_pos x; rw [depS]; omega
end

/-- What measure's two counters hold. -/
def MeaI (gc gd : Nat) (s : Nat × Nat) (w : World) : Prop := s.1 ≤ 8192 ∧ s.2 ≤ 30000 ∧ Bk w gc 3 [.int .i64 (s.1 : Int)] ∧ Bk w gd 3 [.int .i64 (s.2 : Int)]
def MeaT (gc gd : Nat) (i : Nat) : Prop := i = gc ∨ i = gd
theorem oneE_full {e : El} {d b : Nat} (h : ¬ oneE e d b ≠ 0) : b < 8192 ∧ d ≤ 16 := by
  obtain ⟨c, n, k, bs, ss⟩ := e
  rw [oneE_mk] at h
  split at h
  · rename_i h1; exact absurd h1 h
  split at h
  · exact absurd (by decide) h
  unfold plcE at h
  split at h
  · exact absurd (by decide) h
  split at h
  · exact absurd (by decide) h
  · omega

set_option maxHeartbeats 1000000 in
set_option maxRecDepth 100000 in
theorem see_any {x : Bool} {S : Nat → Prop} (gc gd : Nat) (hne : gc ≠ gd) (s : Nat × Nat) (e : El) (d : Nat) (v : Value) (w : World) (hd : d ≤ 30000) (hi : MeaI gc gd s w) (hE : RdE x S w e v) :
    Calls Try.prog 61 (#[v, .int .i64 (d : Int)] ++ #[.pointer (some ⟨gc, 0, none⟩), .pointer (some ⟨gd, 0, none⟩)]) w (Outs (MeaI gc gd) (MeaT gc gd) w (meaStep s e d)) := by
  obtain ⟨b, q⟩ := s
  obtain ⟨hb, hq, hc, hg⟩ := hi
  obtain ⟨c, n, k, bs, ss⟩ := e
  have hE2 := hE
  obtain ⟨h1, h2, h3, A, ca, B, cb, rfl, h5, h6, h7, h8, h9, h10, h11⟩ := hE
  clear h1 h2 h3 h5 h6 h7 h8 h9 h10 h11
  dsimp only at hb hq hc hg
  have hba := bel1 w (.cells #[.int .u8 (c : Int), .bool k, .int .u32 (n : Int), .slice A bs.length ca, .slice B ss.length cb] 29)
  have HO := Lib.hid (one_any _ _ d b _ (hE2.stay hba))
  have HBA := Lib.hid hba
  have HC := Lib.hid (hc.below hba hc.lt)
  have HG := Lib.hid (hg.below hba hg.lt)
  have c1 := HC.out.cell 0
  have c2 := HG.out.cell 0
  simp only [List.getElem?_cons_zero] at c1 c2
  obtain ⟨f, hf⟩ : ∃ f, oneE (.mk c n k bs ss) d b = f := ⟨_, rfl⟩
  have HF := Lib.hid hf
  clear hba hE2 hc hg
  simp only [List.append_toArray, List.cons_append, List.nil_append]
  by_cases hf0 : f ≠ 0
  · have HM : Hid (meaStep (b, q) (.mk c n k bs ss) d = .error f) := Lib.hid (by unfold meaStep; rw [hf, if_pos hf0])
    clear hf
    go_enter Try.func61, Try.ntmps61
    go_wp2_with fail
    refine HO.out.mono ?_
    rintro e' w1 ⟨rfl, hb1⟩
    have HB := Lib.hid (HBA.out.trans (hb1.mono HBA.out.size))
    have HC1 := Lib.hid (HC.out.below hb1 HC.out.lt)
    have HG1 := Lib.hid (HG.out.below hb1 HG.out.lt)
    clear hb1
    rw [HF.out]
    go_wp2_with fail
    refine (raise_yes f 0 w1 hf0).mono ?_
    rintro e' w2 ⟨rfl, rfl⟩
    go_wp2_with fail
    rw [HM.out]
    exact ⟨rfl, hf0, rfl, ⟨(b, q), hb, hq, HC1.out, HG1.out⟩, kp_below HB.out _⟩
  · have hfull := oneE_full (e := .mk c n k bs ss) (d := d) (b := b) (by rw [hf]; exact hf0)
    obtain rfl : f = 0 := by omega
    have HM : Hid (meaStep (b, q) (.mk c n k bs ss) d = .ok (b + 1, max q d)) := Lib.hid (by unfold meaStep; rw [hf, if_neg (by decide)])
    clear hf
    go_enter Try.func61, Try.ntmps61
    go_wp2_with fail
    refine HO.out.mono ?_
    rintro e' w1 ⟨rfl, hb1⟩
    have HC1 := Lib.hid (HC.out.below hb1 HC.out.lt)
    have HG1 := Lib.hid (HG.out.below hb1 HG.out.lt)
    have HB := Lib.hid (HBA.out.trans (hb1.mono HBA.out.size))
    have r1 := HC1.out.cell 0
    have r2 := HG1.out.cell 0
    have f1 := HC1.out.free 0
    have f2 := HG1.out.free 0
    simp only [List.getElem?_cons_zero] at r1 r2
    clear hb1 c1 c2
    rw [HF.out]
    go_wp2_with fail
    refine (raise_no 0 w1).mono ?_
    rintro e' w2 ⟨rfl, rfl⟩
    go_wp2_with fail
    go_end0
    rw [HM.out]
    refine ⟨rfl, ⟨by show b + 1 ≤ 8192; omega, by show max q d ≤ 30000; omega, (HC1.out.store 0 _).far (p := ⟨gd, 0, none⟩) hne _, ?_⟩, ((kp_below HB.out _).setCell (p := ⟨gc, 0, none⟩) (.inl (.inl rfl)) _).setCell (p := ⟨gd, 0, none⟩) (.inl (.inr rfl)) _⟩
    have := (HG1.out.far (p := ⟨gc, 0, none⟩) (Ne.symm hne) (.int .i64 ((b : Int) + 1))).store 0 (.int .i64 (max (q : Int) (d : Int)))
    rw [show ((max q d : Nat) : Int) = max (q : Int) (d : Int) by omega]
    exact this

/-- What measure asks of a tree on its way: it is not too deep for the machine's numbers. -/
def MeaPre (_ : Nat × Nat) (e : El) (d : Nat) : Prop := d + depE e ≤ 20001
def MeaPreS (_ : Nat × Nat) (ss : List El) (d : Nat) : Prop := d + depS ss ≤ 20001

set_option maxHeartbeats 1000000 in
set_option maxRecDepth 100000 in
theorem mea1_any {x : Bool} {S : Nat → Prop} (ge gc gd : Nat) (hne : gc ≠ gd) (e : El) (v : Value) (w : World) (hd : depE e ≤ 10000) (_hg : ge < w.heap.size) (he : ∀ j u, v.cells.toList[j]? = some u → w.cell? ⟨ge, j, none⟩ = some u) (hi : MeaI gc gd (0, 0) w) (hE : RdE x S w e v) (hS : ∀ i, S i → i ≠ gc ∧ i ≠ gd) :
    Calls Try.prog 60 #[.pointer (some ⟨ge, 0, none⟩), .pointer (some ⟨gc, 0, none⟩), .pointer (some ⟨gd, 0, none⟩)] w (Outs (MeaI gc gd) (MeaT gc gd) w (visE meaStep e (0, 0) 1)) := by
  have hmf : ∀ (fn : Fn) (first cap : Array Value) (w : World), (Instr.makeFunc fn first cap).run Try.prog w = .ok (.func fn first cap) w := fun _ _ _ _ => rfl
  have HV := Lib.hid (visit_any meaStep (MeaI gc gd) MeaPre MeaPreS 61 #[.pointer (some ⟨gc, 0, none⟩), .pointer (some ⟨gd, 0, none⟩)] (fun _ _ => by simp [go_sem])
    (fun s w w' ⟨h1, h2, h3, h4⟩ hb => ⟨h1, h2, h3.below hb h3.lt, h4.below hb h4.lt⟩) (fun s w ⟨_, _, h3, h4⟩ i hi => by rcases hi with rfl | rfl; exact h3.lt; exact h4.lt)
    (fun s e d v w hp hi hE => see_any gc gd hne s e d v w (by unfold MeaPre at hp; omega) hi hE)
    (fun s c n k bs ss d s' hp _ => by unfold MeaPre at hp; unfold MeaPreS; rw [depE] at hp; omega)
    (fun s e ss d hp => by unfold MeaPreS at hp; unfold MeaPre; rw [depS] at hp; omega)
    (fun s e ss d s' hp _ => by unfold MeaPreS at *; rw [depS] at hp; omega)
    (fun i hi ht => by have := hS i hi; rcases ht with rfl | rfl; exact this.1 rfl; exact this.2 rfl) e (0, 0) v w (by unfold MeaPre; omega) (by omega) hi hE)
  obtain ⟨c, n, k, bs, ss⟩ := e
  obtain ⟨h1, h2, h3, A, ca, B, cb, rfl, h5, h6, h7, h8, h9, h10, h11⟩ := hE
  have e0 := he 0 _ rfl
  have e1 := he 1 _ rfl
  have e2 := he 2 _ rfl
  have e3 := he 3 _ rfl
  have e4 := he 4 _ rfl
  clear h1 h2 h3 h5 h6 h7 h8 h9 h10 h11 he hi
  go_enter Try.func60, Try.ntmps60
  go_wp2_with fail
  refine HV.out.mono ?_
  cases hst : visE meaStep (.mk c n k bs ss) (0, 0) 1 with
  | error f =>
    rintro e' w1 ⟨hf, rfl, hj, hk1⟩
    go_wp2_with fail
    exact ⟨rfl, hf, rfl, hj, hk1⟩
  | ok s1 =>
    rintro e' w1 ⟨rfl, hi1, hk1⟩
    have HI := Lib.hid hi1
    have HK1 := Lib.hid hk1
    clear hi1 hk1
    go_wp2_with fail
    go_end0
    try rw [hst]
    exact ⟨rfl, HI.out, HK1.out⟩

/-- What measure returns: how many elements there are, how many levels; or the first error. -/
def meaR (e : El) : Nat × Nat × Nat := if (chkE e 1 0).1 ≠ 0 then (0, 0, (chkE e 1 0).1) else ((chkE e 1 0).2, depE e, 0)

set_option maxHeartbeats 1000000 in
set_option maxRecDepth 100000 in
theorem measure_any {x : Bool} {S : Nat → Prop} (e : El) (v : Value) (w : World) (hd : depE e ≤ 10000) (hE : RdE x S w e v) :
    Calls Try.prog 41 #[v] w fun e' w' => e' = .returned (.tuple #[.int .i64 ((meaR e).1 : Int), .int .i64 ((meaR e).2.1 : Int), .int .i64 ((meaR e).2.2 : Int)]) ∧ Below w.heap.size w w' := by
  have hmf : ∀ (fn : Fn) (first cap : Array Value) (w : World), (Instr.makeFunc fn first cap).run Try.prog w = .ok (.func fn first cap) w := fun _ _ _ _ => rfl
  obtain ⟨c, n, k, bs, ss⟩ := e
  have hE2 : RdE x (· < w.heap.size) w (.mk c n k bs ss) v := RdE.keep (Nat.le_refl _) (fun _ _ _ => rfl) (fun _ _ h => h) _ _ hE
  obtain ⟨h1, h2, h3, A, ca, B, cb, rfl, h5, h6, h7, h8, h9, h10, h11⟩ := hE
  clear h1 h2 h3 h5 h6 h7 h8 h9 h10 h11
  obtain ⟨w3, hw3⟩ : ∃ w3, ((w.alloc (.cells #[.int .u8 (c : Int), .bool k, .int .u32 (n : Int), .slice A bs.length ca, .slice B ss.length cb] 29)).alloc (.cells #[.int .i64 0] 3)).alloc (.cells #[.int .i64 0] 3) = w3 := ⟨_, rfl⟩
  have hb3 : Below w.heap.size w w3 := by rw [← hw3]; exact bel3 w _ _ _
  have z3 : w3.heap.size = w.heap.size + 3 := by rw [← hw3]; simp
  have k0 : Bk w3 w.heap.size 29 [.int .u8 (c : Int), .bool k, .int .u32 (n : Int), .slice A bs.length ca, .slice B ss.length cb] := by
    rw [← hw3]; exact ((Bk.new w _ [_, _, _, _, _]).alloc _).alloc _
  have k1 : Bk w3 (w.heap.size + 1) 3 [.int .i64 0] := by
    have := (Bk.new (w.alloc (.cells #[.int .u8 (c : Int), .bool k, .int .u32 (n : Int), .slice A bs.length ca, .slice B ss.length cb] 29)) 3 [.int .i64 0]).alloc (.cells #[.int .i64 0] 3)
    rw [World.size_alloc] at this
    rw [← hw3]; exact this
  have k2 : Bk w3 (w.heap.size + 1 + 1) 3 [.int .i64 0] := by
    have := Bk.new ((w.alloc (.cells #[.int .u8 (c : Int), .bool k, .int .u32 (n : Int), .slice A bs.length ca, .slice B ss.length cb] 29)).alloc (.cells #[.int .i64 0] 3)) 3 [.int .i64 0]
    rw [World.size_alloc, World.size_alloc] at this
    rw [← hw3]; exact this
  obtain ⟨w4, hw4⟩ : ∃ w4, w3.alloc (.cells #[.int .i64 0, .int .i64 0] 83) = w4 := ⟨_, rfl⟩
  have hb4 : Below w3.heap.size w3 w4 := by rw [← hw4]; exact bel1 _ _
  have k3 : Bk w4 w3.heap.size 83 [.int .i64 0, .int .i64 0] := by rw [← hw4]; exact Bk.new _ _ [_, _]
  have hc := mea1_any w.heap.size (w.heap.size + 1) (w.heap.size + 1 + 1) (by omega) (.mk c n k bs ss) _ w4 hd (by have := (k0.below hb4 k0.lt).lt; exact this) (fun j u hu => by rw [(k0.below hb4 k0.lt).cell]; exact hu)
    ⟨by omega, by omega, k1.below hb4 k1.lt, k2.below hb4 k2.lt⟩ (hE2.below (B := w.heap.size) (fun _ h _ => h) (hb3.trans (hb4.mono hb3.size))) (fun i hi => ⟨by omega, by omega⟩)
  have HC := Lib.hid (catch_any 60 _ (fun f a w' => a = 0 ∧ Kp (MeaT (w.heap.size + 1) (w.heap.size + 1 + 1)) w4 w' ∧ ((f = 0 ∧ ∃ s, visE meaStep (.mk c n k bs ss) (0, 0) 1 = .ok s ∧ MeaI (w.heap.size + 1) (w.heap.size + 1 + 1) s w') ∨ (f ≠ 0 ∧ visE meaStep (.mk c n k bs ss) (0, 0) 1 = .error f ∧ ∃ s, MeaI (w.heap.size + 1) (w.heap.size + 1 + 1) s w'))) w3 (fun _ _ => by simp [go_sem])
    (by
      rw [hw4]
      refine hc.mono ?_
      cases hst : visE meaStep (.mk c n k bs ss) (0, 0) 1 with
      | error f =>
        rintro e' w1 ⟨hf, rfl, hj, hk1⟩
        exact ⟨f, 0, ⟨rfl, hk1, .inr ⟨hf, rfl, hj⟩⟩, k3.kp hk1 (by unfold MeaT; omega), .inr ⟨hf, rfl⟩⟩
      | ok s1 =>
        rintro e' w1 ⟨rfl, hi1, hk1⟩
        exact ⟨0, 0, ⟨rfl, hk1, .inl ⟨rfl, s1, rfl, hi1⟩⟩, k3.kp hk1 (by unfold MeaT; omega), .inl ⟨rfl, rfl, rfl⟩⟩))
  have HB := Lib.hid (hb3.trans (hb4.mono hb3.size))
  have hm := meaE (.mk c n k bs ss) 0 0 1
  obtain ⟨r, hr⟩ : ∃ r, chkE (.mk c n k bs ss) 1 0 = r := ⟨_, rfl⟩
  obtain ⟨f0, n0⟩ := r
  have hR : meaR (.mk c n k bs ss) = if f0 ≠ 0 then (0, 0, f0) else (n0, depE (.mk c n k bs ss), 0) := by unfold meaR; rw [hr]
  rw [hr] at hm
  dsimp only at hm
  have HM := Lib.hid hm
  have HR := Lib.hid hR
  have HZ := Lib.hid z3
  have HZ4 : Hid (w4.heap.size = w.heap.size + 4) := Lib.hid (by rw [← hw4, World.size_alloc, z3])
  clear hm hR hr hc k0 k1 k2 k3 hb3 hb4 hE2 z3 hw4
  subst hw3
  go_enter Try.func41, Try.ntmps41
  go_wp2_with fail
  refine HC.out.mono ?_
  rintro e' w5 ⟨f, a, w1, ⟨rfl, hk1, hcase⟩, hg, rfl⟩
  have hb5 : Below w.heap.size w w5 := (HB.out.trans (hk1.below (B := w.heap.size) (by rw [HZ4.out]; omega) (by intro k hk; rcases hk with rfl | rfl <;> omega))).trans (only_below hg (by rw [HZ.out]; omega) (by have := hk1.size; rw [HZ4.out] at this; omega))
  have hs1 : w.heap.size + 1 + 1 < w5.heap.size := by have := hk1.size; have := hg.size; rw [HZ4.out] at *; omega
  have HB5 := Lib.hid hb5
  obtain ⟨b, q, hc, hd2⟩ : ∃ b q : Nat, Bk w1 (w.heap.size + 1) 3 [.int .i64 (b : Int)] ∧ Bk w1 (w.heap.size + 1 + 1) 3 [.int .i64 (q : Int)] ∧ (f0 = 0 → (b, q) = (n0, depE (.mk c n k bs ss))) ∧ f = f0 := by
    have e1 := HM.out
    rcases hcase with ⟨rfl, ⟨b, q⟩, hst, -, -, h1, h2⟩ | ⟨hf, hst, ⟨b, q⟩, -, -, h1, h2⟩
    · rw [hst] at e1
      by_cases hf0 : f0 ≠ 0
      · rw [if_pos hf0] at e1; cases e1
      rw [if_neg hf0] at e1
      simp only [Except.ok.injEq, Prod.mk.injEq] at e1
      exact ⟨b, q, h1, h2, fun _ => by rw [e1.1, e1.2]; congr 1; omega, by omega⟩
    · rw [hst] at e1
      by_cases hf0 : f0 ≠ 0
      · rw [if_pos hf0] at e1
        exact ⟨b, q, h1, h2, fun h => absurd h hf0, by simpa using e1⟩
      · rw [if_neg hf0] at e1; cases e1
  obtain ⟨hd2, hbq, rfl⟩ := hd2
  have HC5 := Lib.hid ((hc.only hg (by rw [HZ.out]; simp)).alloc (.cells #[.int .i64 (f : Int), .int .i64 0] 83))
  have HD5 := Lib.hid ((hd2.only hg (by rw [HZ.out]; simp)).alloc (.cells #[.int .i64 (f : Int), .int .i64 0] 83))
  have r1 := HC5.out.cell 0
  have r2 := HD5.out.cell 0
  have g1 := HC5.out.free 0
  have g2 := HD5.out.free 0
  simp only [List.getElem?_cons_zero] at r1 r2
  have hne : ¬ w.heap.size + 1 = w.heap.size + 1 + 1 := by omega
  have HB6 := Lib.hid (HB5.out.alloc (by omega : w.heap.size ≤ w5.heap.size) (.cells #[.int .i64 (f : Int), .int .i64 0] 83))
  by_cases hf0 : f = 0
  · subst hf0
    obtain ⟨rfl, hq⟩ := Prod.mk.inj (hbq rfl)
    have HRR : Hid (meaR (.mk c n k bs ss) = (b, q, 0)) := Lib.hid (by rw [HR.out, if_neg (by omega), hq])
    clear hcase hc hd2 HC HM HR hg hk1 hb5 HZ hd hbq hq
    rw [show ((0 : Nat) : Int) = 0 from rfl] at r1 r2 g1 g2 HB6 HC5 HD5
    go_wp2_with fail
    go_region
    go_wp2_with fail
    have s1 := ((HC5.out.store 0 (.int .i64 (b : Int))).far (p := ⟨w.heap.size + 1 + 1, 0, none⟩) hne (.int .i64 (q : Int))).cell 0
    have s2 := ((HD5.out.far (p := ⟨w.heap.size + 1, 0, none⟩) (fun e => hne e.symm) (.int .i64 (b : Int))).store 0 (.int .i64 (q : Int))).cell 0
    simp only [List.set_cons_zero, List.getElem?_cons_zero] at s1 s2
    refine bodyPost_ret (v := .tuple #[.int .i64 (b : Int), .int .i64 (q : Int), .int .i64 0]) (by simp [results, Try.results41, go_sem, s1, s2]) rfl ⟨by rw [HRR.out]; rfl, ?_⟩
    exact (((HB6.out.setCell (p := ⟨w.heap.size + 1, 0, none⟩) (by show w.heap.size ≤ w.heap.size + 1; omega) _).setCell (p := ⟨w.heap.size + 1 + 1, 0, none⟩) (by show w.heap.size ≤ w.heap.size + 1 + 1; omega) _)).drew
  · have hfb : ((f : Int) != 0) = true := by simp; omega
    have HRR : Hid (meaR (.mk c n k bs ss) = (0, 0, f)) := Lib.hid (by rw [HR.out, if_pos hf0])
    clear hcase hc hd2 HC HM HR hg hk1 hb5 HZ hd hbq
    go_wp2_with fail
    go_region
    go_wp2_with fail
    have s1 := ((HC5.out.store 0 (.int .i64 0)).far (p := ⟨w.heap.size + 1 + 1, 0, none⟩) hne (.int .i64 0)).cell 0
    have s2 := ((HD5.out.far (p := ⟨w.heap.size + 1, 0, none⟩) (fun e => hne e.symm) (.int .i64 0)).store 0 (.int .i64 0)).cell 0
    simp only [List.set_cons_zero, List.getElem?_cons_zero] at s1 s2
    refine bodyPost_ret (v := .tuple #[.int .i64 0, .int .i64 0, .int .i64 (f : Int)]) (by simp [results, Try.results41, go_sem, s1, s2]) rfl ⟨by rw [HRR.out]; rfl, ?_⟩
    exact (((HB6.out.setCell (p := ⟨w.heap.size + 1, 0, none⟩) (by show w.heap.size ≤ w.heap.size + 1; omega) _).setCell (p := ⟨w.heap.size + 1 + 1, 0, none⟩) (by show w.heap.size ≤ w.heap.size + 1 + 1; omega) _)).drew
end Go.Proofs.Ytgdjgahmnnjeeaa
