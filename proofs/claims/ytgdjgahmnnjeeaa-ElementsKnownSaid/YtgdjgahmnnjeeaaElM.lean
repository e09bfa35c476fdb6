/-
  Layer 4: the program's sizeOf, Size.
  Conditions: none beyond that values read as elements; the content of a valid one has at most 2^20 octets.
-/
import Derived.Test.YtgdjgahmnnjeeaaElL
namespace Go.Proofs.Ytgdjgahmnnjeeaa
open Go.RowKit

/-- What sizeOf returns: the number of octets; the error. -/
def sizR (e : El) : Nat × Nat := if (chkE e 1 0).1 ≠ 0 then (0, (chkE e 1 0).1) else if (encE e).length ≤ 1048576 then ((encE e).length, 0) else (0, 3)
/-- The content is not too large for what is shown here. -/
def conOk (e : El) : Prop := (chkE e 1 0).1 = 0 → conL e ≤ 1048576

set_option maxHeartbeats 1000000 in
set_option maxRecDepth 100000 in
theorem siz1_any {x : Bool} {S : Nat → Prop} (ge gz : Nat) (e : El) (v : Value) (w : World) (he : ∀ j u, v.cells.toList[j]? = some u → w.cell? ⟨ge, j, none⟩ = some u) (hz : Bk w gz 3 [.int .i64 0]) (hE : RdE x S w e v) (hv : valE e) (hc : conL e ≤ 1048576) :
    Calls Try.prog 52 #[.pointer (some ⟨ge, 0, none⟩), .pointer (some ⟨gz, 0, none⟩)] w fun e' w' =>
      Kp (· = gz) w w' ∧ (((encE e).length ≤ 1048576 ∧ e' = .returned (.tuple #[]) ∧ Bk w' gz 3 [.int .i64 ((encE e).length : Int)]) ∨ (1048576 < (encE e).length ∧ e' = .panicked [fltP 3 0] ∧ Bk w' gz 3 [.int .i64 0])) := by
  have hEE := hE
  obtain ⟨c, n, k, bs, ss⟩ := e
  obtain ⟨h1, h2, h3, A, ca, B, cb, rfl, h5, h6, h7, h8, h9, h10, h11⟩ := hE
  have e0 := he 0 _ rfl
  have e1 := he 1 _ rfl
  have e2 := he 2 _ rfl
  have e3 := he 3 _ rfl
  have e4 := he 4 _ rfl
  clear h1 h2 h3 h5 h6 h7 h8 h9 h10 h11 he
  have HZ := Lib.hid hz
  by_cases hN : (encE (.mk c n k bs ss)).length ≤ 1048576
  · have HF := Lib.hid (full_any _ _ w hEE hv hN)
    have HN := Lib.hid hN
    clear hEE hv hz hN
    go_enter Try.func52, Try.ntmps52
    go_wp2_with fail
    refine HF.out.mono ?_
    rintro e' w1 ⟨rfl, hb⟩
    have hk := HZ.out.below hb HZ.out.lt
    have c1 := hk.cell 0
    have f1 := hk.free 0
    simp only [List.getElem?_cons_zero] at c1
    have HB := Lib.hid hb
    have HK := Lib.hid hk
    clear hb hk
    go_wp2_with fail
    go_end0
    exact ⟨(kp_below HB.out (· = gz)).setCell (p := ⟨gz, 0, none⟩) (.inl rfl) _, .inl ⟨HN.out, rfl, HK.out.store 0 _⟩⟩
  · have HF := Lib.hid (full_over _ _ w hEE hv hc (by omega))
    have HN := Lib.hid (show 1048576 < (encE (.mk c n k bs ss)).length by omega)
    clear hEE hv hz hN
    go_enter Try.func52, Try.ntmps52
    go_wp2_with fail
    refine HF.out.mono ?_
    rintro e' w1 ⟨rfl, hb⟩
    exact ⟨rfl, kp_below hb _, .inr ⟨HN.out, rfl, HZ.out.below hb HZ.out.lt⟩⟩

set_option maxHeartbeats 1000000 in
set_option maxRecDepth 100000 in
theorem sizeOf_any {x : Bool} {S : Nat → Prop} (e : El) (v : Value) (w : World) (hd : depE e ≤ 10000) (hE : RdE x S w e v) (hco : conOk e) :
    Calls Try.prog 35 #[v] w fun e' w' => e' = .returned (.tuple #[.int .i64 ((sizR e).1 : Int), .int .i64 ((sizR e).2 : Int)]) ∧ Below w.heap.size w w' := by
  have hmf : ∀ (fn : Fn) (first cap : Array Value) (w : World), (Instr.makeFunc fn first cap).run Try.prog w = .ok (.func fn first cap) w := fun _ _ _ _ => rfl
  obtain ⟨c, n, k, bs, ss⟩ := e
  have hE2 : RdE x (· < w.heap.size) w (.mk c n k bs ss) v := RdE.keep (Nat.le_refl _) (fun _ _ _ => rfl) (fun _ _ h => h) _ _ hE
  obtain ⟨h1, h2, h3, A, ca, B, cb, rfl, h5, h6, h7, h8, h9, h10, h11⟩ := hE
  clear h1 h2 h3 h5 h6 h7 h8 h9 h10 h11
  obtain ⟨w2, hw2⟩ : ∃ w2, (w.alloc (.cells #[.int .u8 (c : Int), .bool k, .int .u32 (n : Int), .slice A bs.length ca, .slice B ss.length cb] 29)).alloc (.cells #[.int .i64 0] 3) = w2 := ⟨_, rfl⟩
  have hb2 : Below w.heap.size w w2 := by rw [← hw2]; exact bel2 w _ _
  have z2 : w2.heap.size = w.heap.size + 2 := by rw [← hw2]; simp
  have k0 : Bk w2 w.heap.size 29 [.int .u8 (c : Int), .bool k, .int .u32 (n : Int), .slice A bs.length ca, .slice B ss.length cb] := by
    rw [← hw2]; exact (Bk.new w _ [_, _, _, _, _]).alloc _
  have k1 : Bk w2 (w.heap.size + 1) 3 [.int .i64 0] := by
    have := Bk.new (w.alloc (.cells #[.int .u8 (c : Int), .bool k, .int .u32 (n : Int), .slice A bs.length ca, .slice B ss.length cb] 29)) 3 [.int .i64 0]
    rw [World.size_alloc] at this
    rw [← hw2]; exact this
  have HC := Lib.hid (echeck_any _ _ _ hd (hE2.stay hb2))
  obtain ⟨r, hr⟩ : ∃ r, (chkE (.mk c n k bs ss) 1 0).1 = r := ⟨_, rfl⟩
  have hmr : (meaR (.mk c n k bs ss)).2.2 = r := by rw [meaR_err, hr]
  have HMR := Lib.hid hmr
  by_cases hr0 : r ≠ 0
  · have HS : Hid (sizR (.mk c n k bs ss) = (0, r)) := Lib.hid (by unfold sizR; rw [hr, if_pos hr0])
    have hrb : ((r : Int) != 0) = true := by simp; omega
    have HB2 := Lib.hid hb2
    have HK1 := Lib.hid k1
    clear hmr hr hE2 hb2 z2 k0 k1 hd
    subst hw2
    go_enter Try.func35, Try.ntmps35
    go_wp2_with fail
    refine HC.out.mono ?_
    rintro e' w3 ⟨rfl, hb3⟩
    have HB3 := Lib.hid (HB2.out.trans (hb3.mono HB2.out.size))
    have hk := HK1.out.below hb3 HK1.out.lt
    have c1 := hk.cell 0
    have f1 := hk.free 0
    have HK := Lib.hid hk
    simp only [List.getElem?_cons_zero] at c1
    clear hb3 hk
    rw [HMR.out]
    go_wp2_with fail
    have s1 := (HK.out.store 0 (.int .i64 0)).cell 0
    simp only [List.set_cons_zero, List.getElem?_cons_zero] at s1
    refine bodyPost_ret (v := .tuple #[.int .i64 0, .int .i64 (r : Int)]) (by simp [results, Try.results35, go_sem, s1]) rfl ⟨by rw [HS.out]; rfl, ?_⟩
    exact HB3.out.setCell (p := ⟨w.heap.size + 1, 0, none⟩) (by show w.heap.size ≤ w.heap.size + 1; omega) _
  obtain rfl : r = 0 := by omega
  have hv := ((chkE_zero _ 1 0).1 hr).1
  have hcn := hco hr
  have hS : sizR (.mk c n k bs ss) = if (encE (.mk c n k bs ss)).length ≤ 1048576 then ((encE (.mk c n k bs ss)).length, 0) else (0, 3) := by unfold sizR; rw [hr, if_neg (by decide)]
  obtain ⟨N, hN⟩ : ∃ N, (encE (.mk c n k bs ss)).length = N := ⟨_, rfl⟩
  rw [hN] at hS
  have HS := Lib.hid hS
  have HK0 := Lib.hid k0
  have HK1 := Lib.hid k1
  have HZ2 := Lib.hid z2
  have HE2 := Lib.hid hE2
  have HB2 := Lib.hid hb2
  have HV := Lib.hid (And.intro hv hcn)
  have HN := Lib.hid hN
  clear hS hmr hr hE2 hb2 z2 k0 k1 hd hv hcn hN hco
  subst hw2
  go_enter Try.func35, Try.ntmps35
  go_wp2_with fail
  refine HC.out.mono ?_
  rintro e' w3 ⟨rfl, hb3⟩
  rw [HMR.out]
  obtain ⟨w4, hw4⟩ : ∃ w4, w3.alloc (.cells #[.int .i64 0, .int .i64 0] 83) = w4 := ⟨_, rfl⟩
  have hb4 : Below w3.heap.size w3 w4 := by rw [← hw4]; exact bel1 _ _
  have k3 : Bk w4 w3.heap.size 83 [.int .i64 0, .int .i64 0] := by rw [← hw4]; exact Bk.new _ _ [_, _]
  have k03 := (HK0.out.below hb3 HK0.out.lt).below hb4 (HK0.out.below hb3 HK0.out.lt).lt
  have k13 := (HK1.out.below hb3 HK1.out.lt).below hb4 (HK1.out.below hb3 HK1.out.lt).lt
  have hbw3 := HB2.out.trans (hb3.mono HB2.out.size)
  have hbw4 := hbw3.trans (hb4.mono hbw3.size)
  have hz3 : w.heap.size + 2 ≤ w3.heap.size := by have := hb3.size; rw [HZ2.out] at this; exact this
  have hc1 := siz1_any w.heap.size (w.heap.size + 1) (.mk c n k bs ss) _ w4 (fun j u hu => by rw [k03.cell]; exact hu) k13 (HE2.out.below (B := w.heap.size) (fun _ h _ => h) hbw4) HV.out.1 HV.out.2
  rw [HN.out] at hc1
  have HCA := Lib.hid (catch_any 52 _ (fun f a w' => a = 0 ∧ Kp (· = w.heap.size + 1) w4 w' ∧ ((N ≤ 1048576 ∧ f = 0 ∧ Bk w' (w.heap.size + 1) 3 [.int .i64 (N : Int)]) ∨ (1048576 < N ∧ f = 3 ∧ Bk w' (w.heap.size + 1) 3 [.int .i64 0]))) w3 (fun _ _ => by simp [go_sem])
    (by
      rw [hw4]
      refine hc1.mono ?_
      rintro e' w5 ⟨hk, ⟨h1, rfl, h2⟩ | ⟨h1, rfl, h2⟩⟩
      · exact ⟨0, 0, ⟨rfl, hk, .inl ⟨h1, rfl, h2⟩⟩, k3.kp hk (by omega), .inl ⟨rfl, rfl, rfl⟩⟩
      · exact ⟨3, 0, ⟨rfl, hk, .inr ⟨h1, rfl, h2⟩⟩, k3.kp hk (by omega), .inr ⟨by decide, rfl⟩⟩))
  have HB3 := Lib.hid hbw3
  have HB4 := Lib.hid hbw4
  have HZ3 := Lib.hid hz3
  have HZ4 : Hid (w4.heap.size = w3.heap.size + 1) := Lib.hid (by rw [← hw4, World.size_alloc])
  clear hb3 hb4 k3 k03 k13 hbw3 hbw4 hz3 hc1 HK0 HK1 HZ2 HE2 HB2 HV HC hw4
  go_wp2_with fail
  refine HCA.out.mono ?_
  rintro e' w5 ⟨f, a, w1, ⟨rfl, hk1, hcase⟩, hg, rfl⟩
  have hb5 : Below w.heap.size w w5 := (HB4.out.trans (hk1.below (B := w.heap.size) (by have := HZ4.out; have := HZ3.out; omega) (by rintro k rfl; omega))).trans (only_below hg (by have := HZ3.out; omega) (by have := hk1.size; have := HZ4.out; have := HZ3.out; omega))
  have HB5 := Lib.hid hb5
  obtain ⟨z, hbk, hcs⟩ : ∃ z : Nat, Bk w1 (w.heap.size + 1) 3 [.int .i64 (z : Int)] ∧ sizR (.mk c n k bs ss) = (z, f) := by
    rcases hcase with ⟨h1, rfl, h2⟩ | ⟨h1, rfl, h2⟩
    · exact ⟨N, h2, by rw [HS.out, if_pos h1]⟩
    · exact ⟨0, h2, by rw [HS.out, if_neg (by omega)]⟩
  have hk5 := hbk.only hg (by intro e; injection e with e; have := HZ3.out; omega)
  have HK5 := Lib.hid (hk5.alloc (.cells #[.int .i64 (f : Int), .int .i64 0] 83))
  have HK50 := Lib.hid hk5
  have HCS := Lib.hid hcs
  have c1 := HK5.out.cell 0
  have f1 := HK5.out.free 0
  simp only [List.getElem?_cons_zero] at c1
  have hs5 : w.heap.size + 1 < w5.heap.size := hk5.lt
  clear hb5 hbk hcs hk5 hcase hg hk1 HCA HS HN
  go_wp2_with fail
  go_region
  go_wp2_with fail
  have s1 := ((HK50.out.store 0 (.int .i64 (z : Int))).alloc (.cells #[.int .i64 (f : Int), .int .i64 0] 83)).cell 0
  simp only [List.set_cons_zero, List.getElem?_cons_zero] at s1
  have HBS := HB5.out.setCell (p := ⟨w.heap.size + 1, 0, none⟩) (by show w.heap.size ≤ w.heap.size + 1; omega) (.int .i64 (z : Int))
  refine bodyPost_ret (v := .tuple #[.int .i64 (z : Int), .int .i64 (f : Int)]) (by simp [results, Try.results35, go_sem, s1]) rfl ⟨by rw [HCS.out], ?_⟩
  exact (HBS.alloc HBS.size _).drew

set_option maxHeartbeats 1000000 in
set_option maxRecDepth 100000 in
theorem esize_any {x : Bool} {S : Nat → Prop} (e : El) (v : Value) (w : World) (hd : depE e ≤ 10000) (hE : RdE x S w e v) (hco : conOk e) :
    Calls Try.prog 18 #[v] w fun e' w' => e' = .returned (.int .i64 ((sizR e).1 : Int)) ∧ Below w.heap.size w w' := by
  obtain ⟨c, n, k, bs, ss⟩ := e
  have hE2 := hE
  obtain ⟨h1, h2, h3, A, ca, B, cb, rfl, h5, h6, h7, h8, h9, h10, h11⟩ := hE
  clear h1 h2 h3 h5 h6 h7 h8 h9 h10 h11
  have hba := bel1 w (.cells #[.int .u8 (c : Int), .bool k, .int .u32 (n : Int), .slice A bs.length ca, .slice B ss.length cb] 29)
  have HM := Lib.hid (sizeOf_any _ _ _ hd (hE2.stay hba) hco)
  have HBA := Lib.hid hba
  clear hE2 hd hba hco
  go_enter Try.func18, Try.ntmps18
  go_wp2_with fail
  refine HM.out.mono ?_
  rintro e' w1 ⟨rfl, hb1⟩
  have HB := Lib.hid (HBA.out.trans (hb1.mono HBA.out.size))
  clear hb1
  go_wp2_with fail
  go_ret
  exact ⟨rfl, HB.out⟩
end Go.Proofs.Ytgdjgahmnnjeeaa
