/-
  Layer 4: the reference's Next and Get.
  Conditions: at most 2000 octets.
-/
import Derived.Test.YtgdjgahmnnjeeaaElOg
import Derived.Test.YtgdjgahmnnjeeaaElZa
import Derived.Test.YtgdjgahmnnjeeaaElPu
namespace Go.Proofs.Ytgdjgahmnnjeeaa
open Go.RowKit

theorem sl_part {A : Option Addr} {lst : List Nat} {L cap : Nat} (hL : lst.length = L) (hLc : L ≤ cap) {p q : Nat} (hpq : p ≤ q) (hq : q ≤ L) :
    ∃ A', (∀ W, (Instr.slice 26 (.slice A L cap) (some (.int .i64 (p : Int))) (some (.int .i64 (q : Int))) none).run Try.prog W = .ok (.slice A' (q - p) (cap - p)) W) ∧ ∀ W, Rb W A lst → Rb W A' ((lst.take q).drop p) := by
  refine ⟨if cap = p then A else A.map (·.add (p * 1)), fun W => ?_, fun W h => ?_⟩
  · have hsz : (sizeOf (Try.prog.elem 26)).run Try.prog W = .ok 1 W := by kernel_rfl
    rw [run_slice_lh (P := Try.prog) W 26 A L cap (by kernel_rfl) .i64 .i64 (p : Int) (q : Int) (by omega) (by omega) (by omega), hsz]
    simp only [Result.andThen, Int.toNat_natCast, sliced]
  · by_cases hc : cap = p
    · rw [if_pos hc]
      have h0 : (lst.take q).drop p = [] := List.drop_eq_nil_of_le (by rw [List.length_take]; omega)
      rw [h0]; exact Rb.nil
    · rw [if_neg hc]
      rcases hl : (lst.take q).drop p with _ | ⟨x, r⟩
      · exact Rb.nil
      · have hne : cs8 lst ≠ [] := by
          intro e
          have h1 : lst = [] := List.map_eq_nil_iff.1 e
          rw [h1] at hl; simp at hl
        obtain ⟨b, off, rfl, _, _⟩ := h.1 hne
        rw [← hl]
        have := (h.take_ q).drop_ p
        rw [Option.map_some, addr_add, Nat.mul_one]
        exact this
/-- What the reference's Next gives. -/
def GiveNr (p : Nat) (w : World) : Nx → Ending → World → Prop
  | .err f a, e, w' => f ≠ 0 ∧ e = .returned (.tuple #[elV 0 0 false (.slice none 0 0) (.slice none 0 0), .int .i64 ((p + a : Nat) : Int), .int .i64 0, .int .i64 ((f : Nat) : Int)]) ∧ Below w.heap.size w w'
  | .ok x z b', e, w' => ∃ u, e = .returned (.tuple #[u, .int .i64 ((p + z : Nat) : Int), .int .i64 ((b' : Nat) : Int), .int .i64 0]) ∧ RdE false (fun i => w.heap.size ≤ i) w' x u ∧ Below w.heap.size w w'
theorem res4 {tmps : Array Value} {W : World} {R : Nat} {a b d e f : Value} (h2 : tmps.getD 10 undef = .pointer (some ⟨R, 0, none⟩)) (hb : Bk W R 29 [a, b, d, e, f]) :
    (results Try.f51 tmps).run Try.prog W = .ok (.tuple #[.agg #[a, b, d, e, f], tmps.getD 11 undef, tmps.getD 12 undef, tmps.getD 13 undef]) W := by
  obtain ⟨e0, e1, e2, e3, e4, hz⟩ := hb.five
  have h2' : tmps[10]?.getD undef = .pointer (some ⟨R, 0, none⟩) := by simpa using h2
  simp only [results, Try.f51]
  simp [h2', go_sem, e0, e1, e2, e3, e4]
theorem Pl.far {B : Nat} {S : Nat → Prop} {es : List El} {cs : List Value} {v : Value} {w : World} (h : Pl B S es cs v w) {p : Addr} (hp : p.block < B) (u : Value) : Pl B S es cs v (w.setCell p u) := by
  have hz : (w.setCell p u).heap.size = w.heap.size := by simp [World.setCell]
  exact ⟨h.sb, fun j hj => by rw [hz]; exact h.sl j hj, h.so, own_kept h.own fun g hg => Below.heap_setCell w p u g (by have := (h.own.lt g hg).1; omega),
    RowE.keep (Nat.le_of_eq hz.symm) (fun k hk _ => Below.heap_setCell w p u k (by have := h.sb k hk; omega)) (fun _ hs _ => hs) h.row, by rw [hz]; exact h.bz⟩
theorem Pl.rds {B : Nat} {S T : Nat → Prop} {es : List El} {cs : List Value} {v : Value} {w : World} (h : Pl B S es cs v w) (hT : ∀ j, B ≤ j → T j) :
    ∃ A c, v = .slice A es.length c ∧ es.length ≤ c ∧ c ≤ maxLen ∧ RdS false T w A es := by
  obtain ⟨A, c, hv, h1, h2, hcase⟩ := h.form
  refine ⟨A, c, hv, h1, h2, ?_⟩
  rcases hcase with ⟨_, _, rfl⟩ | ⟨g, rfl, hob, hBg, hgl, hcell⟩
  · trivial
  · exact RowE.rds hgl (hT g hBg) (fun i hi => hT i (h.sb i hi)) h.row (fun j u hu => by rw [Nat.zero_add]; exact hcell j u hu)
theorem app_wp {P : Program} {w : World} {o : Oper} {a : Act} {K : Act → World → Prop} {Q : Exit → Act → World → Prop} (s x : Operand) (t1 t2 : TypeId)
    (ho : o.op = .call { callee := .builtin .append, args := #[s, x], argTypes := #[t1, t2] }) (u v : Value) (hs : a.eval s = u) (hx : a.eval x = v) {r : Value} {w1 : World}
    (hrun : (Builtin.append_ #[t1, t2] o.type #[u, v]).run P w = .ok r w1) (h : K (a.put o.dst r) w1) : Oper.wp P o a w K Q := by
  unfold Oper.wp execOp
  simp only [ho, resolve, invoke, builtin, Sem.run_bind, Sem.run_pure, Result.andThen_ok, List.map_toArray, List.map_cons, List.map_nil, hs, hx, hrun]
  exact h
/-- What the loop over the content keeps. -/
def NxL (w : World) (R X B : Nat) (con : List Nat) (d c n p2 m b1 f : Nat) (i q : Value) (wr : World) : Prop :=
  ∃ (p4 z g b2 : Nat) (acc : List El) (S : Nat → Prop) (cs : List Value) (v : Value), z ≤ m ∧ i = .int .i64 (p4 : Int) ∧ q = .int .i64 (b2 : Int) ∧ b2 ≤ 8192 ∧ p2 + z = p4 ∧ m - z ≤ g ∧ 2 * acc.length ≤ z ∧
    nxS (fun l b => nxE f l (d + 1) b) con.length con b1 = cmb acc z (nxS (fun l b => nxE f l (d + 1) b) g (con.drop z) b2) ∧
    Pl B S acc cs v wr ∧ Bk wr X 29 [.int .u8 (c : Int), .bool true, .int .u32 (n : Int), .slice none 0 0, v] ∧ Bk wr R 29 elZ ∧ Below w.heap.size w wr
theorem nx_b {f : Nat} {l : List Nat} {d b : Nat} {e : El} {z b' : Nat} (h8 : All8 l) (h : nxE f l d b = .ok e z b') : b' ≤ 8192 := (nx_put f d l b e z b' h8 h).2.2.2.2.2

set_option linter.unusedSimpArgs false in
set_option maxHeartbeats 8000000 in
set_option maxRecDepth 100000 in
theorem rnext_any {A : Option Addr} {L cap : Nat} {lst : List Nat} (hL : lst.length = L) (hLc : L ≤ cap) (hcm : cap ≤ maxLen) (hL1 : L ≤ 2000) (f : Nat) : ∀ (d b p q : Nat) (w : World), d + f = 18 → b ≤ 8192 → p ≤ q → q ≤ L → f ≠ 0 → Rb w A lst →
    Calls Try.prog 51 #[.slice A L cap, .int .i64 (p : Int), .int .i64 (q : Int), .int .i64 (d : Int), .int .i64 (b : Int)] w (GiveNr p w (nxE f ((lst.take q).drop p) d b)) := by
  induction f with
  | zero => intro d b p q w _ _ _ _ h; exact absurd rfl h
  | succ f ih =>
    intro d b p q w hd hb82 hpq hqL _ hRb
    obtain ⟨w1, hw1⟩ : ∃ w1, w.alloc (.cells #[.int .u8 0, .bool false, .int .u32 0, .slice none 0 0, .slice none 0 0] 29) = w1 := ⟨_, rfl⟩
    have hb1 : Below w.heap.size w w1 := by rw [← hw1]; exact bel1 _ _
    obtain ⟨R, hR⟩ : ∃ R, w.heap.size = R := ⟨_, rfl⟩
    have hkr : Bk w1 R 29 elZ := by rw [← hw1, ← hR]; exact Bk.new w 29 [_, _, _, _, _]
    have hwR : w.heap.size ≤ R := by omega
    obtain ⟨A1, hsl1, hrd1⟩ := sl_part (A := A) hL hLc hpq hqL
    obtain ⟨l, hl⟩ : ∃ l, (lst.take q).drop p = l := ⟨_, rfl⟩
    rw [hl] at hrd1 ⊢
    have hll : l.length = q - p := by rw [← hl, List.length_drop, List.length_take]; omega
    have B := Lib.hid hb1
    have KR := Lib.hid hkr
    have RB := Lib.hid (hRb.below hb1)
    have RBW := Lib.hid hRb
    have h8 := (hrd1 _ RB.out).2
    have HT0 := rget_any A1 l (cap - p) w1 (by omega) (by omega) (hrd1 _ RB.out)
    rcases hrd : rdL l with ⟨c, n, k, s, e1⟩
    rw [hrd, hll] at HT0
    have HT := Lib.hid HT0
    have HRD := Lib.hid hrd
    have HLL := Lib.hid hll
    have HL2 := Lib.hid hl
    have H8 := Lib.hid h8
    have HL := Lib.hid hL
    have HW1 := Lib.hid hw1
    have HRR := Lib.hid hR
    have HQ := Lib.hid (And.intro hqL hd)
    clear hb1 hkr hRb hrd1 hrd HT0 hll hl h8 hL hw1 hR
    obtain ⟨r0', hr0'⟩ : ∃ r0', q - p = r0' := ⟨_, rfl⟩
    rw [hr0'] at hsl1 HT
    have HR0 := Lib.hid hr0'
    have hsub0 : (q : Int) - (p : Int) = (r0' : Int) := by omega
    clear hr0'
    go_enter Try.func51, Try.ntmps51
    go_upto_region 1 with fail
    rw [HW1.out, HRR.out]
    go_wp2_with fail
    refine HT.out.mono ?_
    rintro r w2 ⟨rfl, hb⟩
    have Bq := Lib.hid (B.out.trans (hb.mono B.out.size))
    have KRq := Lib.hid (KR.out.below hb KR.out.lt)
    have RBq := Lib.hid (RB.out.below hb)
    clear B KR RB
    have B := Bq
    have KR := KRq
    have RB := RBq
    clear Bq KRq RBq hb
    obtain ⟨T0, hT0⟩ : ∃ T0, w2.heap.size = T0 := ⟨_, rfl⟩
    obtain ⟨w3, hw3⟩ : ∃ w3, w2.alloc (.cells #[.int .u8 (c : Int), .bool k, .int .u32 (n : Int)] 25) = w3 := ⟨_, rfl⟩
    have hb3 : Below w2.heap.size w2 w3 := by rw [← hw3]; exact bel1 _ _
    have hkt : Bk w3 T0 25 [.int .u8 (c : Int), .bool k, .int .u32 (n : Int)] := by rw [← hw3, ← hT0]; exact Bk.new w2 25 [_, _, _]
    have KT := Lib.hid hkt
    have hRT : R < T0 := by have := KR.out.lt; omega
    have HW3 := Lib.hid hw3
    have HTT := Lib.hid hT0
    have Bq := Lib.hid (B.out.trans (hb3.mono B.out.size))
    have KRq := Lib.hid (KR.out.below hb3 KR.out.lt)
    have RBq := Lib.hid (RB.out.below hb3)
    clear B KR RB
    have B := Bq
    have KR := KRq
    have RB := RBq
    clear Bq KRq RBq hb3
    clear hkt HT hw3 hT0
    go_upto_region 2 with fail
    rw [HW3.out, HTT.out]
    by_cases he1 : e1 = 0
    rotate_left
    · have hne := he1
      by_cases he7 : e1 = 7
      · have hb7 : ((e1 : Int) == 7) = true := by simp; omega
        have HX : Hid (∃ a, nxE (f + 1) l d b = .err e1 a ∧ p + a = q) := Lib.hid ⟨_, nxE_tag HRD.out he1, by rw [if_pos he7, HLL.out]; omega⟩
        have he7i : ((7 : Nat) : Int) = 7 := rfl
        clear he1
        subst he7
        obtain ⟨r0, r1, r2, r3, r4, rz⟩ := KR.out.five
        obtain ⟨g0, g1, g2, g3, g4⟩ := KR.out.free5
        go_wp2_with fail
        refine bodyPost_ret (res4 rfl (((((KR.out.store 0 (.int .u8 0)).store 1 (.bool false)).store 2 (.int .u32 0)).store 3 (.slice none 0 0)).store 4 (.slice none 0 0))) rfl ?_
        obtain ⟨a, ha1, ha2⟩ := HX.out
        rw [ha1]
        exact ⟨by first | assumption | decide | omega, by rw [ha2]; rfl, (((((B.out.setCell (p := ⟨R, 0, none⟩) hwR (.int .u8 0)).setCell (p := ⟨R, 1, none⟩) hwR (.bool false)).setCell (p := ⟨R, 2, none⟩) hwR (.int .u32 0)).setCell (p := ⟨R, 3, none⟩) hwR (.slice none 0 0)).setCell (p := ⟨R, 4, none⟩) hwR (.slice none 0 0))⟩
      · have hb7 : ((e1 : Int) == 7) = false := by simp; omega
        have hb0 : ((e1 : Int) != 0) = true := by simp; omega
        have HX : Hid (∃ a, nxE (f + 1) l d b = .err e1 a ∧ p + a = p) := Lib.hid ⟨_, nxE_tag HRD.out he1, by rw [if_neg he7]; rfl⟩
        clear he1 he7
        obtain ⟨r0, r1, r2, r3, r4, rz⟩ := KR.out.five
        obtain ⟨g0, g1, g2, g3, g4⟩ := KR.out.free5
        go_wp2_with fail
        refine bodyPost_ret (res4 rfl (((((KR.out.store 0 (.int .u8 0)).store 1 (.bool false)).store 2 (.int .u32 0)).store 3 (.slice none 0 0)).store 4 (.slice none 0 0))) rfl ?_
        obtain ⟨a, ha1, ha2⟩ := HX.out
        rw [ha1]
        exact ⟨by first | assumption | decide | omega, by rw [ha2]; rfl, (((((B.out.setCell (p := ⟨R, 0, none⟩) hwR (.int .u8 0)).setCell (p := ⟨R, 1, none⟩) hwR (.bool false)).setCell (p := ⟨R, 2, none⟩) hwR (.int .u32 0)).setCell (p := ⟨R, 3, none⟩) hwR (.slice none 0 0)).setCell (p := ⟨R, 4, none⟩) hwR (.slice none 0 0))⟩
    subst he1
    by_cases hd16 : 16 < d
    · have hp0 : plcE d b = 12 := by unfold plcE; rw [if_pos hd16]
      have HX : Hid (∃ a, nxE (f + 1) l d b = .err 12 a ∧ p + a = p) := Lib.hid ⟨0, by rw [nxE_plc HRD.out (by rw [hp0]; decide), hp0], rfl⟩
      have hdb : decide ((16 : Int) < (d : Int)) = true := by simp; omega
      clear hp0
      obtain ⟨r0, r1, r2, r3, r4, rz⟩ := KR.out.five
      obtain ⟨g0, g1, g2, g3, g4⟩ := KR.out.free5
      go_wp2_with fail
      refine bodyPost_ret (res4 rfl (((((KR.out.store 0 (.int .u8 0)).store 1 (.bool false)).store 2 (.int .u32 0)).store 3 (.slice none 0 0)).store 4 (.slice none 0 0))) rfl ?_
      obtain ⟨a, ha1, ha2⟩ := HX.out
      rw [ha1]
      exact ⟨by first | assumption | decide | omega, by rw [ha2]; rfl, (((((B.out.setCell (p := ⟨R, 0, none⟩) hwR (.int .u8 0)).setCell (p := ⟨R, 1, none⟩) hwR (.bool false)).setCell (p := ⟨R, 2, none⟩) hwR (.int .u32 0)).setCell (p := ⟨R, 3, none⟩) hwR (.slice none 0 0)).setCell (p := ⟨R, 4, none⟩) hwR (.slice none 0 0))⟩
    have hdb : decide ((16 : Int) < (d : Int)) = false := by simp; omega
    by_cases hb8 : 8192 ≤ b
    · have hp0 : plcE d b = 3 := by unfold plcE; rw [if_neg hd16, if_pos hb8]
      have HX : Hid (∃ a, nxE (f + 1) l d b = .err 3 a ∧ p + a = p) := Lib.hid ⟨0, by rw [nxE_plc HRD.out (by rw [hp0]; decide), hp0], rfl⟩
      have hbb : decide ((8192 : Int) ≤ (b : Int)) = true := by simp; omega
      clear hp0
      obtain ⟨r0, r1, r2, r3, r4, rz⟩ := KR.out.five
      obtain ⟨g0, g1, g2, g3, g4⟩ := KR.out.free5
      go_wp2_with fail
      refine bodyPost_ret (res4 rfl (((((KR.out.store 0 (.int .u8 0)).store 1 (.bool false)).store 2 (.int .u32 0)).store 3 (.slice none 0 0)).store 4 (.slice none 0 0))) rfl ?_
      obtain ⟨a, ha1, ha2⟩ := HX.out
      rw [ha1]
      exact ⟨by first | assumption | decide | omega, by rw [ha2]; rfl, (((((B.out.setCell (p := ⟨R, 0, none⟩) hwR (.int .u8 0)).setCell (p := ⟨R, 1, none⟩) hwR (.bool false)).setCell (p := ⟨R, 2, none⟩) hwR (.int .u32 0)).setCell (p := ⟨R, 3, none⟩) hwR (.slice none 0 0)).setCell (p := ⟨R, 4, none⟩) hwR (.slice none 0 0))⟩
    have hbb : decide ((8192 : Int) ≤ (b : Int)) = false := by simp; omega
    have hp0 : plcE d b = 0 := by unfold plcE; rw [if_neg hd16, if_neg hb8]
    have HP0 := Lib.hid hp0
    clear hp0
    obtain ⟨g1, g2, g3, g4, g5⟩ := rdL_size l H8.out (by rw [HRD.out])
    rw [HRD.out] at g1 g2 g3 g4 g5
    dsimp only at g1 g2 g3 g4 g5
    rw [HLL.out] at g2
    obtain ⟨p1, hp1⟩ : ∃ p1, p + s = p1 := ⟨_, rfl⟩
    have hpi : (p : Int) + (s : Int) = (p1 : Int) := by omega
    have hp1q : p1 ≤ q := by omega
    have hp1L : p1 ≤ 2000 := by have := HQ.out.1; omega
    have HP1 := Lib.hid hp1
    have HG := Lib.hid (And.intro g1 (And.intro g3 (And.intro g4 g5)))
    have hsr : s ≤ r0' := by have := HR0.out; omega
    obtain ⟨r1', hr1'⟩ : ∃ r1', r0' - s = r1' := ⟨_, rfl⟩
    have hsub1 : (r0' : Int) - (s : Int) = (r1' : Int) := by omega
    have HR1 := Lib.hid hr1'
    obtain ⟨A2, hsl2, hrd2⟩ := sl_part (A := A) HL.out hLc hp1q HQ.out.1
    have hld : (lst.take q).drop p1 = l.drop s := by rw [← HL2.out, List.drop_drop, HP1.out]
    rw [hld] at hrd2
    have hle : (l.drop s).length = q - p1 := by rw [List.length_drop, HLL.out]; have := HP1.out; omega
    have hK := Len.rget_any A2 (l.drop s) (cap - p1) w3 (hrd2 _ RB.out)
    rcases hgq : Len.getL (l.drop s) with ⟨m, s2, e2⟩
    rw [hgq, hle] at hK
    have hqp1 : q - p1 = r1' := by have := HR0.out; have := HR1.out; have := HP1.out; omega
    rw [hqp1] at hsl2 hK
    have HK := Lib.hid hK
    have HGQ := Lib.hid hgq
    have HLE := Lib.hid hle
    clear g1 g2 g3 g4 g5 hp1 hr1' hrd2 hld hle hK hgq hqp1
    go_wp2_with fail
    refine HK.out.mono ?_
    rintro r w4 ⟨rfl, hb⟩
    have Bq := Lib.hid (B.out.trans (hb.mono B.out.size))
    have KRq := Lib.hid (KR.out.below hb KR.out.lt)
    have RBq := Lib.hid (RB.out.below hb)
    have KTq := Lib.hid (KT.out.below hb KT.out.lt)
    clear B KR RB KT
    have B := Bq
    have KR := KRq
    have RB := RBq
    have KT := KTq
    clear Bq KRq RBq KTq hb
    clear HK
    by_cases he2 : e2 = 0
    rotate_left
    · have hne := he2
      by_cases he7 : e2 = 7
      · have hb7 : ((e2 : Int) == 7) = true := by simp; omega
        have HX : Hid (∃ a, nxE (f + 1) l d b = .err e2 a ∧ p + a = q) := Lib.hid ⟨_, nxE_len HRD.out HP0.out HGQ.out he2, by rw [if_pos he7, HLL.out]; omega⟩
        clear he2
        subst he7
        obtain ⟨r0, r1, r2, r3, r4, rz⟩ := KR.out.five
        obtain ⟨g0, g1, g2, g3, g4⟩ := KR.out.free5
        go_wp2_with fail
        refine bodyPost_ret (res4 rfl (((((KR.out.store 0 (.int .u8 0)).store 1 (.bool false)).store 2 (.int .u32 0)).store 3 (.slice none 0 0)).store 4 (.slice none 0 0))) rfl ?_
        obtain ⟨a, ha1, ha2⟩ := HX.out
        rw [ha1]
        exact ⟨by first | assumption | decide | omega, by rw [ha2]; rfl, (((((B.out.setCell (p := ⟨R, 0, none⟩) hwR (.int .u8 0)).setCell (p := ⟨R, 1, none⟩) hwR (.bool false)).setCell (p := ⟨R, 2, none⟩) hwR (.int .u32 0)).setCell (p := ⟨R, 3, none⟩) hwR (.slice none 0 0)).setCell (p := ⟨R, 4, none⟩) hwR (.slice none 0 0))⟩
      · have hb7 : ((e2 : Int) == 7) = false := by simp; omega
        have hb0 : ((e2 : Int) != 0) = true := by simp; omega
        have hb00 : ((e2 : Int) == 0) = false := by simp; omega
        have HX : Hid (∃ a, nxE (f + 1) l d b = .err e2 a ∧ p + a = p1) := Lib.hid ⟨_, nxE_len HRD.out HP0.out HGQ.out he2, by rw [if_neg he7]; exact HP1.out⟩
        clear he2 he7
        obtain ⟨r0, r1, r2, r3, r4, rz⟩ := KR.out.five
        obtain ⟨g0, g1, g2, g3, g4⟩ := KR.out.free5
        go_wp2_with fail
        refine bodyPost_ret (res4 rfl (((((KR.out.store 0 (.int .u8 0)).store 1 (.bool false)).store 2 (.int .u32 0)).store 3 (.slice none 0 0)).store 4 (.slice none 0 0))) rfl ?_
        obtain ⟨a, ha1, ha2⟩ := HX.out
        rw [ha1]
        exact ⟨by first | assumption | decide | omega, by rw [ha2]; rfl, (((((B.out.setCell (p := ⟨R, 0, none⟩) hwR (.int .u8 0)).setCell (p := ⟨R, 1, none⟩) hwR (.bool false)).setCell (p := ⟨R, 2, none⟩) hwR (.int .u32 0)).setCell (p := ⟨R, 3, none⟩) hwR (.slice none 0 0)).setCell (p := ⟨R, 4, none⟩) hwR (.slice none 0 0))⟩
    subst he2
    obtain ⟨hm1, _, hs2, hs3⟩ := Len.getL_ok (H8.out.drop s) HGQ.out
    have hs4 := (Len.putL_len m).1
    rw [HLE.out] at hs2
    obtain ⟨p2, hp2⟩ : ∃ p2, p1 + s2 = p2 := ⟨_, rfl⟩
    have hp2q : p2 ≤ q := by omega
    have hp2L : p2 ≤ 2000 := by have := HQ.out.1; omega
    have hp2i : (p1 : Int) + (s2 : Int) = (p2 : Int) := by omega
    have hsr2 : s2 ≤ r1' := by have := HR0.out; have := HR1.out; have := HP1.out; omega
    obtain ⟨r2', hr2'⟩ : ∃ r2', r1' - s2 = r2' := ⟨_, rfl⟩
    have hsub2 : (r1' : Int) - (s2 : Int) = (r2' : Int) := by omega
    have hqp2 : q - p2 = r2' := by have := HR0.out; have := HR1.out; have := HP1.out; omega
    have HP2 := Lib.hid hp2
    have HR2 := Lib.hid hqp2
    have HM := Lib.hid (And.intro hm1 (And.intro hs3 hs4))
    clear hm1 hs3 hs4 hp2 hr2' hqp2 hs2
    by_cases hmq : r2' < m
    · have hmi : decide (r2' < m) = true := by simp; omega
      have hmi2 : decide ((r2' : Int) < (m : Int)) = true := by simp; omega
      have HX : Hid (∃ a, nxE (f + 1) l d b = .err 7 a ∧ p + a = q) := Lib.hid ⟨l.length, by rw [nxE_body HRD.out HP0.out HGQ.out, nxB, if_pos (by rw [List.length_drop, HLL.out]; have := HP1.out; have := HP2.out; have := HR2.out; omega)], by rw [HLL.out]; omega⟩
      obtain ⟨r0, r1, r2, r3, r4, rz⟩ := KR.out.five
      obtain ⟨g0, g1, g2, g3, g4⟩ := KR.out.free5
      go_wp2_with fail
      refine bodyPost_ret (res4 rfl (((((KR.out.store 0 (.int .u8 0)).store 1 (.bool false)).store 2 (.int .u32 0)).store 3 (.slice none 0 0)).store 4 (.slice none 0 0))) rfl ?_
      obtain ⟨a, ha1, ha2⟩ := HX.out
      rw [ha1]
      exact ⟨by first | assumption | decide | omega, by rw [ha2]; rfl, (((((B.out.setCell (p := ⟨R, 0, none⟩) hwR (.int .u8 0)).setCell (p := ⟨R, 1, none⟩) hwR (.bool false)).setCell (p := ⟨R, 2, none⟩) hwR (.int .u32 0)).setCell (p := ⟨R, 3, none⟩) hwR (.slice none 0 0)).setCell (p := ⟨R, 4, none⟩) hwR (.slice none 0 0))⟩
    have hmi : decide (r2' < m) = false := by simp; omega
    have hmi2 : decide ((r2' : Int) < (m : Int)) = false := by simp; omega
    obtain ⟨p3, hp3⟩ : ∃ p3, p2 + m = p3 := ⟨_, rfl⟩
    have hp3q : p3 ≤ q := by have := HR2.out; omega
    have hp3L : p3 ≤ 2000 := by have := HQ.out.1; omega
    have hp3i : (p2 : Int) + (m : Int) = (p3 : Int) := by omega
    have HP3 := Lib.hid hp3
    obtain ⟨b1, hb1⟩ : ∃ b1, b + 1 = b1 := ⟨_, rfl⟩
    have hb1i : (b : Int) + 1 = (b1 : Int) := by omega
    have hb18 : b1 ≤ 8192 := by omega
    have HBE := Lib.hid hb1
    have HBO := Lib.hid (nxE_body (f := f) HRD.out HP0.out HGQ.out)
    clear hp3 hb1
    obtain ⟨t0, t1, t2⟩ : w4.cell? ⟨T0, 0, none⟩ = some (.int .u8 (c : Int)) ∧ w4.cell? ⟨T0, 1, none⟩ = some (.bool k) ∧ w4.cell? ⟨T0, 2, none⟩ = some (.int .u32 (n : Int)) := ⟨KT.out.cell 0, KT.out.cell 1, KT.out.cell 2⟩
    have tz := KT.out.lt
    obtain ⟨X, hX⟩ : ∃ X, w4.heap.size = X := ⟨_, rfl⟩
    obtain ⟨w5, hw5⟩ : ∃ w5, w4.alloc (.cells #[.int .u8 (c : Int), .bool k, .int .u32 (n : Int), .slice none 0 0, .slice none 0 0] 29) = w5 := ⟨_, rfl⟩
    have hb5 : Below w4.heap.size w4 w5 := by rw [← hw5]; exact bel1 _ _
    have hkx : Bk w5 X 29 [.int .u8 (c : Int), .bool k, .int .u32 (n : Int), .slice none 0 0, .slice none 0 0] := by rw [← hw5, ← hX]; exact Bk.new w4 29 [_, _, _, _, _]
    have KX := Lib.hid hkx
    have hTX : T0 < X := by omega
    have HW5 := Lib.hid hw5
    have HXX := Lib.hid hX
    clear hkx hw5 hX
    go_upto_region 18 with fail
    rw [HW5.out, HXX.out]
    clear t0 t1 t2 tz
    have Bq := Lib.hid (B.out.trans (hb5.mono B.out.size))
    have KRq := Lib.hid (KR.out.below hb5 KR.out.lt)
    have RBq := Lib.hid (RB.out.below hb5)
    have KTq := Lib.hid (KT.out.below hb5 KT.out.lt)
    clear B KR RB KT
    have B := Bq
    have KR := KRq
    have RB := RBq
    have KT := KTq
    clear Bq KRq RBq KTq hb5
    obtain ⟨t0, t1, t2⟩ : w5.cell? ⟨T0, 0, none⟩ = some (.int .u8 (c : Int)) ∧ w5.cell? ⟨T0, 1, none⟩ = some (.bool k) ∧ w5.cell? ⟨T0, 2, none⟩ = some (.int .u32 (n : Int)) := ⟨KT.out.cell 0, KT.out.cell 1, KT.out.cell 2⟩
    have tz := KT.out.lt
    cases k with
    | false =>
      go_upto_region 20 with fail
      clear t0 t1 t2 tz
      obtain ⟨A3, hsl3, hrd3⟩ := sl_part (A := A) HL.out hLc (show p2 ≤ p3 by have := HP3.out; omega) (show p3 ≤ L by have := HQ.out.1; omega)
      have h32 : p3 - p2 = m := by have := HP3.out; omega
      rw [h32] at hsl3
      obtain ⟨con, hcon⟩ : ∃ con, (lst.take p3).drop p2 = con := ⟨_, rfl⟩
      rw [hcon] at hrd3
      have hcl : (l.drop (s + s2)).take m = con := by
        rw [← hcon, ← HL2.out, List.drop_drop, ← Nat.add_assoc, HP1.out, HP2.out, List.drop_take, List.drop_take, List.take_take]
        congr 1
        have := HP3.out
        omega
      have hcm' : con.length = m := by rw [← hcl, List.length_take, List.length_drop, HLL.out]; have := HP1.out; have := HP2.out; have := HP3.out; omega
      have hz : nxE (f + 1) l d b = .ok (.mk c n false con []) (s + s2 + m) b1 := by
        rw [HBO.out, nxB, if_neg (by rw [List.length_drop, HLL.out]; have := HP1.out; have := HP2.out; have := HP3.out; omega), if_pos rfl, HBE.out, hcl]
      have hend : p + (s + s2 + m) = p3 := by have := HP1.out; have := HP2.out; have := HP3.out; omega
      have HZ := Lib.hid hz
      have HEND := Lib.hid hend
      have HCM := Lib.hid hcm'
      have HRD3 := Lib.hid hrd3
      clear hrd3 hcl hz hend hcm' h32 hcon ih
      obtain ⟨wd, hwd⟩ : ∃ wd, w5.drew = wd := ⟨_, rfl⟩
      have hbd : Below w5.heap.size w5 wd := by rw [← hwd]; exact ⟨rfl, rfl, rfl, Nat.le_refl _, fun _ _ => rfl⟩
      have Bq := Lib.hid (B.out.trans (hbd.mono B.out.size))
      have KRq := Lib.hid (KR.out.below hbd KR.out.lt)
      have RBq := Lib.hid (RB.out.below hbd)
      have KTq := Lib.hid (KT.out.below hbd KT.out.lt)
      have KXq := Lib.hid (KX.out.below hbd KX.out.lt)
      clear B KR RB KT KX
      have B := Bq
      have KR := KRq
      have RB := RBq
      have KT := KTq
      have KX := KXq
      clear Bq KRq RBq KTq KXq hbd
      have hx3 : wd.cell? ⟨X, 3, none⟩ = some (.slice none 0 0) := KX.out.cell 3
      refine wp_region_held_drew (S := fun _ => True) (by kernel_rfl) trivial (fun hS => ?_)
      rw [hwd]
      clear hwd
      refine wpAnyH_take (i := 0) (oi := ⟨some 105, _, _, _, _, _⟩) (v := .pointer (some ⟨X, 3, none⟩)) rfl (by kernel_rfl) (by kernel_rfl) (by kernel_rfl) (fun _ _ _ h => h) (Or.inl ⟨by rfl, fun w hSw => by (try dsimp only at hSw); go_simp⟩) hS ?_
      simp only [Act.put, List.setIfInBounds_toArray, List.set_cons_zero, List.set_cons_succ]
      refine wpAnyH_take (i := 2) (oi := ⟨some 107, _, _, _, _, _⟩) (v := .slice A L cap) rfl (by kernel_rfl) (by kernel_rfl) (by kernel_rfl) (fun _ _ _ h => h) (Or.inl ⟨by rfl, fun w hSw => by (try dsimp only at hSw); go_simp⟩) hS ?_
      simp only [Act.put, List.setIfInBounds_toArray, List.set_cons_zero, List.set_cons_succ]
      refine wpAnyH_take (i := 3) (oi := ⟨some 108, _, _, _, _, _⟩) (v := .int .i64 (p2 : Int)) rfl (by kernel_rfl) (by kernel_rfl) (by kernel_rfl) (fun _ _ _ h => h) (Or.inl ⟨by rfl, fun w hSw => by (try dsimp only at hSw); go_simp⟩) hS ?_
      simp only [Act.put, List.setIfInBounds_toArray, List.set_cons_zero, List.set_cons_succ]
      refine wpAnyH_take (i := 4) (oi := ⟨some 109, _, _, _, _, _⟩) (v := .int .i64 (p3 : Int)) rfl (by kernel_rfl) (by kernel_rfl) (by kernel_rfl) (fun _ _ _ h => h) (Or.inl ⟨by rfl, fun w hSw => by (try dsimp only at hSw); go_simp⟩) hS ?_
      simp only [Act.put, List.setIfInBounds_toArray, List.set_cons_zero, List.set_cons_succ]
      refine wpAnyH_take (i := 5) (oi := ⟨some 110, _, _, _, _, _⟩) (v := .slice A3 m (cap - p2)) rfl (by kernel_rfl) (by kernel_rfl) (by kernel_rfl) (fun _ _ _ h => h) (Or.inl ⟨by rfl, fun w hSw => by (try dsimp only at hSw); go_simp⟩) hS ?_
      simp only [Act.put, List.setIfInBounds_toArray, List.set_cons_zero, List.set_cons_succ]
      refine wpAnyH_ready (rs := [1]) (by kernel_rfl) (by simp) ?_
      refine AllReadyH.cons (o := _) rfl (fun K hK => ?_) (AllReadyH.nil)
      go_simp
      refine hK.out _ _ (trivial) (fun hS => ?_)
      clear hK K
      (try simp only [Act.put, List.setIfInBounds_toArray, List.set_cons_zero, List.set_cons_succ])
      have HC8 := Lib.hid (HRD3.out _ RB.out).2
      rcases app_nil (HRD3.out _ RB.out) (by rw [HCM.out]; omega) (cap - p2) m HCM.out with ⟨hnil, hrun⟩ | ⟨g, cp, w6, hrun, hgc, hgm, hgr, hb6⟩
      · have hm0 : m = 0 := by have := HCM.out; rw [hnil] at this; simpa using this.symm
        subst hm0
        refine wpAnyH_ready (rs := [6]) (by kernel_rfl) (by simp) ?_
        refine AllReadyH.cons (o := _) rfl (fun K hK => ?_) (AllReadyH.nil)
        first | rw [if_pos (by rfl)] | rw [if_pos (by kernel_rfl)]
        refine app_wp (.tmp 106) (.tmp 110) _ _ rfl _ _ rfl rfl hrun ?_
        refine hK.out _ _ (trivial) (fun hS => ?_)
        clear hK K
        (try simp only [Act.put, List.setIfInBounds_toArray, List.set_cons_zero, List.set_cons_succ])
        refine wpAnyH_take (i := 7) (oi := ⟨some 112, _, _, _, _, _⟩) (v := .pointer (some ⟨X, 3, none⟩)) rfl (by kernel_rfl) (by kernel_rfl) (by kernel_rfl) (fun _ _ _ h => h) (Or.inl ⟨by rfl, fun w hSw => by (try dsimp only at hSw); go_simp⟩) hS ?_
        simp only [Act.put, List.setIfInBounds_toArray, List.set_cons_zero, List.set_cons_succ]
        have hfr := KX.out.free 3
        have hx3' := KX.out.cell 3
        simp only [List.getElem?_cons_succ, List.getElem?_cons_zero] at hx3'
        obtain ⟨w8, hw8⟩ : ∃ w8, wd.setCell ⟨X, 3, none⟩ (.slice none 0 0) = w8 := ⟨_, rfl⟩
        refine wpAnyH_ready (rs := [8]) (by kernel_rfl) (by simp) ?_
        refine AllReadyH.cons (o := _) rfl (fun K hK => ?_) (AllReadyH.nil)
        go_simp
        refine hK.out _ _ (trivial) (fun hS => ?_)
        clear hK K
        (try simp only [Act.put, List.setIfInBounds_toArray, List.set_cons_zero, List.set_cons_succ])
        refine wpAnyH_done (by kernel_rfl) ?_ _
        have hkx8 : Bk w8 X 29 [.int .u8 (c : Int), .bool false, .int .u32 (n : Int), .slice none 0 0, .slice none 0 0] := by rw [← hw8]; exact KX.out.store 3 (.slice none 0 0)
        have hkr8 : Bk w8 R 29 elZ := by rw [← hw8]; exact KR.out.far (p := ⟨X, 3, none⟩) (by show R ≠ X; omega) (.slice none 0 0)
        have hb8 : Below w.heap.size w w8 := by rw [← hw8]; exact B.out.setCell (p := ⟨X, 3, none⟩) (by show w.heap.size ≤ X; omega) (.slice none 0 0)
        have hrdx : RdX (fun i => w.heap.size ≤ i ∧ i ≠ R) w8 (none) (cs8 con) := fun h => absurd (by rw [hnil]; rfl) h
        have HRX := Lib.hid hrdx
        have KX8 := Lib.hid hkx8
        have KR8 := Lib.hid hkr8
        have B8 := Lib.hid hb8
        try rw [hw8]
        clear hkx8 hkr8 hb8 hrdx hw8 hfr hx3' hx3 hS hrun KX KR B RB KT HRD3
        have KR := KR8
        have B := B8
        clear KR8 B8
        obtain ⟨x0, x1, x2, x3, x4, xz⟩ := KX8.out.five
        obtain ⟨r0, r1, r2, r3, r4, rz⟩ := KR.out.five
        obtain ⟨g0, g1, g2, g3, g4⟩ := KR.out.free5
        go_wp2_with fail
        refine bodyPost_ret (res4 rfl (((((KR.out.store 0 (.int .u8 (c : Int))).store 1 (.bool false)).store 2 (.int .u32 (n : Int))).store 3 (.slice none 0 0)).store 4 (.slice none 0 0))) rfl ?_
        rw [HZ.out]
        refine ⟨_, by rw [HEND.out]; rfl, ⟨HG.out.2.1, HG.out.2.2.1, HC8.out, none, 0, none, 0, by rw [HCM.out]; rfl, HRX.out.keep (by simp [World.setCell]) (fun i hi _ => ?_) (fun i hi _ => hi.1), by rw [HCM.out]; omega, by first | assumption | (unfold maxLen; omega), Nat.le_refl _, Nat.zero_le _, fun h => (by cases h), trivial⟩, (((((B.out.setCell (p := ⟨R, 0, none⟩) hwR (.int .u8 (c : Int))).setCell (p := ⟨R, 1, none⟩) hwR (.bool false)).setCell (p := ⟨R, 2, none⟩) hwR (.int .u32 (n : Int))).setCell (p := ⟨R, 3, none⟩) hwR (.slice none 0 0)).setCell (p := ⟨R, 4, none⟩) hwR (.slice none 0 0))⟩
        have hi' : i ≠ R := hi.2
        rw [Below.heap_setCell _ _ _ _ hi', Below.heap_setCell _ _ _ _ hi', Below.heap_setCell _ _ _ _ hi', Below.heap_setCell _ _ _ _ hi', Below.heap_setCell _ _ _ _ hi']
      · have XL := Lib.hid (show X < wd.heap.size from KX.out.lt)
        refine wpAnyH_ready (rs := [6]) (by kernel_rfl) (by simp) ?_
        refine AllReadyH.cons (o := _) rfl (fun K hK => ?_) (AllReadyH.nil)
        first | rw [if_pos (by rfl)] | rw [if_pos (by kernel_rfl)]
        refine app_wp (.tmp 106) (.tmp 110) _ _ rfl _ _ rfl rfl hrun ?_
        refine hK.out _ _ (trivial) (fun hS => ?_)
        clear hK K
        (try simp only [Act.put, List.setIfInBounds_toArray, List.set_cons_zero, List.set_cons_succ])
        have Bq := Lib.hid (B.out.trans (hb6.mono B.out.size))
        have KRq := Lib.hid (KR.out.below hb6 KR.out.lt)
        have RBq := Lib.hid (RB.out.below hb6)
        have KTq := Lib.hid (KT.out.below hb6 KT.out.lt)
        have KXq := Lib.hid (KX.out.below hb6 KX.out.lt)
        clear B KR RB KT KX
        have B := Bq
        have KR := KRq
        have RB := RBq
        have KT := KTq
        have KX := KXq
        clear Bq KRq RBq KTq KXq
        have hx6 := hb6.size
        refine wpAnyH_take (i := 7) (oi := ⟨some 112, _, _, _, _, _⟩) (v := .pointer (some ⟨X, 3, none⟩)) rfl (by kernel_rfl) (by kernel_rfl) (by kernel_rfl) (fun _ _ _ h => h) (Or.inl ⟨by rfl, fun w hSw => by (try dsimp only at hSw); go_simp⟩) hS ?_
        simp only [Act.put, List.setIfInBounds_toArray, List.set_cons_zero, List.set_cons_succ]
        have hfr := KX.out.free 3
        have hx3' := KX.out.cell 3
        simp only [List.getElem?_cons_succ, List.getElem?_cons_zero] at hx3'
        obtain ⟨w8, hw8⟩ : ∃ w8, w6.setCell ⟨X, 3, none⟩ (.slice (some ⟨g, 0, none⟩) m cp) = w8 := ⟨_, rfl⟩
        refine wpAnyH_ready (rs := [8]) (by kernel_rfl) (by simp) ?_
        refine AllReadyH.cons (o := _) rfl (fun K hK => ?_) (AllReadyH.nil)
        go_simp
        refine hK.out _ _ (trivial) (fun hS => ?_)
        clear hK K
        (try simp only [Act.put, List.setIfInBounds_toArray, List.set_cons_zero, List.set_cons_succ])
        refine wpAnyH_done (by kernel_rfl) ?_ _
        have hkx8 : Bk w8 X 29 [.int .u8 (c : Int), .bool false, .int .u32 (n : Int), .slice (some ⟨g, 0, none⟩) m cp, .slice none 0 0] := by rw [← hw8]; exact KX.out.store 3 (.slice (some ⟨g, 0, none⟩) m cp)
        have hkr8 : Bk w8 R 29 elZ := by rw [← hw8]; exact KR.out.far (p := ⟨X, 3, none⟩) (by show R ≠ X; omega) (.slice (some ⟨g, 0, none⟩) m cp)
        have hb8 : Below w.heap.size w w8 := by rw [← hw8]; exact B.out.setCell (p := ⟨X, 3, none⟩) (by show w.heap.size ≤ X; omega) (.slice (some ⟨g, 0, none⟩) m cp)
        have hrdx : RdX (fun i => w.heap.size ≤ i ∧ i ≠ R) w8 ((some ⟨g, 0, none⟩)) (cs8 con) := hgr.keep (by rw [← hw8]; simp [World.setCell]) (fun i hi _ => by rw [← hw8]; exact Below.heap_setCell _ _ _ _ (by show i ≠ X; have h1 : wd.heap.size ≤ i := hi; have := XL.out; omega)) (fun i hi _ => by have h1 : wd.heap.size ≤ i := hi; have := XL.out; exact ⟨by omega, by omega⟩)
        have HRX := Lib.hid hrdx
        have KX8 := Lib.hid hkx8
        have KR8 := Lib.hid hkr8
        have B8 := Lib.hid hb8
        try rw [hw8]
        clear hkx8 hkr8 hb8 hrdx hw8 hfr hx3' hx3 hS hrun KX KR B RB KT HRD3
        have KR := KR8
        have B := B8
        clear KR8 B8
        obtain ⟨x0, x1, x2, x3, x4, xz⟩ := KX8.out.five
        obtain ⟨r0, r1, r2, r3, r4, rz⟩ := KR.out.five
        obtain ⟨g0, g1, g2, g3, g4⟩ := KR.out.free5
        go_wp2_with fail
        refine bodyPost_ret (res4 rfl (((((KR.out.store 0 (.int .u8 (c : Int))).store 1 (.bool false)).store 2 (.int .u32 (n : Int))).store 3 (.slice (some ⟨g, 0, none⟩) m cp)).store 4 (.slice none 0 0))) rfl ?_
        rw [HZ.out]
        refine ⟨_, by rw [HEND.out]; rfl, ⟨HG.out.2.1, HG.out.2.2.1, HC8.out, (some ⟨g, 0, none⟩), cp, none, 0, by rw [HCM.out]; rfl, HRX.out.keep (by simp [World.setCell]) (fun i hi _ => ?_) (fun i hi _ => hi.1), by rw [HCM.out]; omega, by first | assumption | (unfold maxLen; omega), Nat.le_refl _, Nat.zero_le _, fun h => (by cases h), trivial⟩, (((((B.out.setCell (p := ⟨R, 0, none⟩) hwR (.int .u8 (c : Int))).setCell (p := ⟨R, 1, none⟩) hwR (.bool false)).setCell (p := ⟨R, 2, none⟩) hwR (.int .u32 (n : Int))).setCell (p := ⟨R, 3, none⟩) hwR (.slice (some ⟨g, 0, none⟩) m cp)).setCell (p := ⟨R, 4, none⟩) hwR (.slice none 0 0))⟩
        have hi' : i ≠ R := hi.2
        rw [Below.heap_setCell _ _ _ _ hi', Below.heap_setCell _ _ _ _ hi', Below.heap_setCell _ _ _ _ hi', Below.heap_setCell _ _ _ _ hi', Below.heap_setCell _ _ _ _ hi']
    | true =>
      have hcl : (l.drop (s + s2)).take m = (lst.take p3).drop p2 := by
        rw [← HL2.out, List.drop_drop, ← Nat.add_assoc, HP1.out, HP2.out, List.drop_take, List.drop_take, List.take_take]
        congr 1
        have := HP3.out
        omega
      have hcm' : ((l.drop (s + s2)).take m).length = m := by rw [List.length_take, List.length_drop, HLL.out]; have := HP1.out; have := HP2.out; have := HP3.out; omega
      have hz : nxE (f + 1) l d b = match nxS (fun l b => nxE f l (d + 1) b) ((l.drop (s + s2)).take m).length ((l.drop (s + s2)).take m) b1 with
          | .err f a => .err f (s + s2 + a)
          | .ok ss b' => .ok (.mk c n true [] ss) (s + s2 + m) b' := by
        rw [HBO.out, nxB, if_neg (by rw [List.length_drop, HLL.out]; have := HP1.out; have := HP2.out; have := HP3.out; omega), if_neg (by decide), HBE.out]
        generalize nxS _ _ _ _ = r
        cases r <;> rfl
      have hc8 := All8.take (H8.out.drop (s + s2)) m
      generalize (l.drop (s + s2)).take m = con at *
      have hst : p + (s + s2) = p2 := by have := HP1.out; have := HP2.out; omega
      have HST := Lib.hid hst
      have HZ := Lib.hid hz
      have HCL := Lib.hid hcl
      have HCM := Lib.hid hcm'
      have HC8 := Lib.hid hc8
      have hf0 : f ≠ 0 := by have := HQ.out.2; omega
      have HIH := Lib.hid fun b p w h82 h1 => ih (d + 1) b p p3 w (by have := HQ.out.2; omega) h82 h1 (by have := HQ.out.1; omega) hf0
      have hdI : (d : Int) + 1 ≤ 9223372036854775807 := by omega
      obtain ⟨BB, hBB⟩ : ∃ BB, w5.heap.size = BB := ⟨_, rfl⟩
      have hXB : X < BB := by have := KX.out.lt; omega
      have hRBB : R < BB := by omega
      have hwB : w.heap.size ≤ BB := by omega
      have H0 : Hid (NxL w R X BB con d c n p2 m b1 f (.int .i64 (p2 : Int)) (.int .i64 (b1 : Int)) w5) := Lib.hid
        ⟨p2, 0, con.length, b1, [], fun _ => False, [], .slice none 0 0, Nat.zero_le _, rfl, rfl, hb18, rfl, by rw [HCM.out]; omega, Nat.le_refl _, by rw [List.drop_zero]; cases nxS (fun l b => nxE f l (d + 1) b) con.length con b1 <;> simp [cmb],
          ⟨fun _ h => h.elim, fun _ h => h.elim, fun _ h => h.elim, World.ownsRow_nil _ _ _ _, rfl, Nat.le_of_eq hBB.symm⟩, KX.out, KR.out, B.out⟩
      have HBB := Lib.hid hBB
      clear hst hz hcl hcm' hc8 ih hf0 hBB
      go_upto_region 22 with fail
      clear t0 t1 t2 tz KX KR B KT RB
      go_loopw [19, 22] (fun i q wr => NxL w R X BB con d c n p2 m b1 f i q wr) (fun i _ _ => p3 - (intOf i).toNat)
      case atStart => exact H0.out
      case round =>
        obtain ⟨p4, z, g, b2, acc, S, cs, v, hzm, rfl, rfl, hb2, hp4, hg, hacc, hV, hPl, hX, hR, hB⟩ := hrel
        have HP4 := Lib.hid hp4
        have HV := Lib.hid hV
        have PL := Lib.hid hPl
        have KX := Lib.hid hX
        have KR := Lib.hid hR
        have B := Lib.hid hB
        have HGA := Lib.hid (And.intro hg hacc)
        have hp4L : p4 ≤ 2000 := by have := HP3.out; omega
        clear hV hPl hX hR hB hg hacc hp4
        by_cases hlt : z < m
        · have hlt' : p4 < p3 := by have := HP3.out; have := HP4.out; omega
          have hc := HIH.out b2 p4 wr hb2 (Nat.le_of_lt hlt') (RBW.out.below B.out)
          rw [← HP4.out, ← List.drop_drop, ← HCL.out, HP4.out] at hc
          rw [show ((d + 1 : Nat) : Int) = (d : Int) + 1 from rfl] at hc
          have hne : con.drop z ≠ [] := by
            intro e
            have h1 : (con.drop z).length = 0 := by rw [e]; rfl
            rw [List.length_drop, HCM.out] at h1; omega
          have HNE := Lib.hid hne
          clear hne
          rcases hnx : nxE f (con.drop z) (d + 1) b2 with ⟨fe, a⟩ | ⟨x, z2, b3⟩
          · rw [hnx] at hc
            have HC := Lib.hid hc
            have HNX := Lib.hid hnx
            clear hc hnx
            go_wp2_with fail
            refine HC.out.mono ?_
            rintro r w6 ⟨hfe, rfl, hb⟩
            have hfb : ((fe : Int) != 0) = true := by simp; exact hfe
            have Bq := Lib.hid (B.out.trans (hb.mono B.out.size))
            have KRq := Lib.hid (KR.out.below hb KR.out.lt)
            clear B KR
            have B := Bq
            have KR := KRq
            clear Bq KRq hb
            have HX : Hid (∃ a', nxE (f + 1) l d b = .err fe a' ∧ p + a' = p4 + a) := Lib.hid (by
              obtain ⟨g', hg'⟩ : ∃ g', g = g' + 1 := ⟨g - 1, by have := HGA.out.1; omega⟩
              refine ⟨s + s2 + (z + a), ?_, by have := HST.out; have := HP4.out; omega⟩
              rw [HZ.out, HV.out, hg', nxS_err HNE.out HNX.out]
              rfl)
            clear HC KX PL
            obtain ⟨D, hD⟩ : ∃ D, w6.heap.size = D := ⟨_, rfl⟩
            obtain ⟨wz, hwz⟩ : ∃ wz, w6.alloc (.cells #[.int .u8 0, .bool false, .int .u32 0, .slice none 0 0, .slice none 0 0] 29) = wz := ⟨_, rfl⟩
            have hkz : Bk wz D 29 elZ := by rw [← hwz, ← hD]; exact Bk.new w6 _ elZ
            have hbz : Below D w6 wz := by rw [← hwz, ← hD]; exact bel1 w6 _
            obtain ⟨z0, z1, z2, z3, z4, zz⟩ := hkz.five
            obtain ⟨g0, g1, g2, g3, g4⟩ := hkz.free5
            obtain ⟨w7, hw4⟩ : ∃ w4, (((((wz.setCell ⟨D, 0, none⟩ (.int .u8 0)).setCell ⟨D, 1, none⟩ (.bool false)).setCell ⟨D, 2, none⟩ (.int .u32 0)).setCell ⟨D, 3, none⟩ (.slice none 0 0)).setCell ⟨D, 4, none⟩ (.slice none 0 0)) = w4 := ⟨_, rfl⟩
            have hk4 : Bk w7 D 29 [.int .u8 0, .bool false, .int .u32 0, .slice none 0 0, .slice none 0 0] := by rw [← hw4]; exact ((((hkz.store 0 (.int .u8 0)).store 1 (.bool false)).store 2 (.int .u32 0)).store 3 (.slice none 0 0)).store 4 (.slice none 0 0)
            have hl := Nat.le_refl D
            have hb4 : Below w6.heap.size w6 w7 := by rw [hD, ← hw4]; exact ((((hbz.setCell (p := ⟨D, 0, none⟩) hl _).setCell (p := ⟨D, 1, none⟩) hl _).setCell (p := ⟨D, 2, none⟩) hl _).setCell (p := ⟨D, 3, none⟩) hl _).setCell (p := ⟨D, 4, none⟩) hl _
            have B7 := Lib.hid (B.out.trans (hb4.mono B.out.size))
            have KR7 := Lib.hid (KR.out.below hb4 KR.out.lt)
            clear B KR hkz hbz hk4 hb4 hl
            have B := B7
            have KR := KR7
            clear B7 KR7
            go_upto_region 24 with fail
            clear z0 z1 z2 z3 z4 zz g0 g1 g2 g3 g4 hw4 hwz hD
            obtain ⟨r0, r1, r2, r3, r4, rz⟩ := KR.out.five
            obtain ⟨g0, g1, g2, g3, g4⟩ := KR.out.free5
            go_wp2_with fail
            refine bodyPost_ret (res4 rfl (((((KR.out.store 0 (.int .u8 0)).store 1 (.bool false)).store 2 (.int .u32 0)).store 3 (.slice none 0 0)).store 4 (.slice none 0 0))) rfl ?_
            obtain ⟨a, ha1, ha2⟩ := HX.out
            rw [ha1]
            exact ⟨by first | assumption | decide | omega, by rw [ha2]; rfl, (((((B.out.setCell (p := ⟨R, 0, none⟩) hwR (.int .u8 0)).setCell (p := ⟨R, 1, none⟩) hwR (.bool false)).setCell (p := ⟨R, 2, none⟩) hwR (.int .u32 0)).setCell (p := ⟨R, 3, none⟩) hwR (.slice none 0 0)).setCell (p := ⟨R, 4, none⟩) hwR (.slice none 0 0))⟩
          · rw [hnx] at hc
            have HC := Lib.hid hc
            have HNX := Lib.hid hnx
            have hb38 : b3 ≤ 8192 := nx_b (HC8.out.drop z) hnx
            obtain ⟨hz2, hz2l⟩ := nxE_size (HC8.out.drop z) hnx
            rw [List.length_drop, HCM.out] at hz2l
            clear hc hnx
            go_wp2_with fail
            refine HC.out.mono ?_
            rintro r w6 ⟨u, rfl, hu, hb⟩
            obtain ⟨p5, hp5⟩ : ∃ p5, p4 + z2 = p5 := ⟨_, rfl⟩
            rw [hp5]
            have HP5 := Lib.hid hp5
            clear hp5 HC
            obtain ⟨uc, un, uk, A9, l9, q9, B9, m9, s9, rfl⟩ := hu.form
            have U := Lib.hid hu
            clear hu
            have PL6 := Lib.hid (PL.out.below hb)
            have Bq := Lib.hid (B.out.trans (hb.mono B.out.size))
            have KRq := Lib.hid (KR.out.below hb KR.out.lt)
            have KXq := Lib.hid (KX.out.below hb KX.out.lt)
            clear B KR KX
            have B := Bq
            have KR := KRq
            have KX := KXq
            clear Bq KRq KXq
            have hb6 := Lib.hid hb
            clear hb
            obtain ⟨D, hD⟩ : ∃ D, w6.heap.size = D := ⟨_, rfl⟩
            obtain ⟨wz, hwz⟩ : ∃ wz, w6.alloc (.cells #[.int .u8 0, .bool false, .int .u32 0, .slice none 0 0, .slice none 0 0] 29) = wz := ⟨_, rfl⟩
            have hkz : Bk wz D 29 elZ := by rw [← hwz, ← hD]; exact Bk.new w6 _ elZ
            have hbz : Below D w6 wz := by rw [← hwz, ← hD]; exact bel1 w6 _
            obtain ⟨z0, z1, z2, z3, z4, zz⟩ := hkz.five
            obtain ⟨g0, g1, g2, g3, g4⟩ := hkz.free5
            obtain ⟨w7, hw4⟩ : ∃ w4, (((((wz.setCell ⟨D, 0, none⟩ (.int .u8 (uc : Int))).setCell ⟨D, 1, none⟩ (.bool uk)).setCell ⟨D, 2, none⟩ (.int .u32 (un : Int))).setCell ⟨D, 3, none⟩ (.slice A9 l9 q9)).setCell ⟨D, 4, none⟩ (.slice B9 m9 s9)) = w4 := ⟨_, rfl⟩
            have hk4 : Bk w7 D 29 [.int .u8 (uc : Int), .bool uk, .int .u32 (un : Int), .slice A9 l9 q9, .slice B9 m9 s9] := by rw [← hw4]; exact ((((hkz.store 0 (.int .u8 (uc : Int))).store 1 (.bool uk)).store 2 (.int .u32 (un : Int))).store 3 (.slice A9 l9 q9)).store 4 (.slice B9 m9 s9)
            have hl := Nat.le_refl D
            have hb4 : Below w6.heap.size w6 w7 := by rw [hD, ← hw4]; exact ((((hbz.setCell (p := ⟨D, 0, none⟩) hl _).setCell (p := ⟨D, 1, none⟩) hl _).setCell (p := ⟨D, 2, none⟩) hl _).setCell (p := ⟨D, 3, none⟩) hl _).setCell (p := ⟨D, 4, none⟩) hl _
            have KY := Lib.hid hk4
            have hU7 := RdE.keep (T := fun j => wr.heap.size ≤ j ∧ j < w7.heap.size) hb4.size (fun j _ hl => hb4.block j hl) (fun i (hi : wr.heap.size ≤ i) hl => ⟨hi, Nat.lt_of_lt_of_le hl hb4.size⟩) _ _ U.out
            obtain ⟨gp, cap2, S', cs', w8, hrun, hpl8, hb8⟩ := PL.out.push (by have := HGA.out.2; omega) (hb6.out.trans (hb4.mono hb6.out.size)) hU7
            have HRUN := Lib.hid hrun
            have PL8 := Lib.hid hpl8
            have hXD : X ≠ D := by have := KX.out.lt; omega
            have Bq := Lib.hid (B.out.trans (hb4.mono B.out.size))
            have KRq := Lib.hid (KR.out.below hb4 KR.out.lt)
            have KXq := Lib.hid (KX.out.below hb4 KX.out.lt)
            clear B KR KX
            have B := Bq
            have KR := KRq
            have KX := KXq
            clear Bq KRq KXq
            clear hkz hbz hk4 hl hU7 hrun hpl8 U PL PL6
            have hb48 : Below BB w7 w8 := hb8
            go_upto_region 26 with fail
            clear z0 z1 z2 z3 z4 zz g0 g1 g2 g3 g4 hw4 hwz hD
            obtain ⟨x0, x1, x2, x3, x4, xz⟩ := KX.out.five
            obtain ⟨y0, y1, y2, y3, y4, yz⟩ := KY.out.five
            have hfr := KX.out.free 4
            have hx8 := (KX.out.below hb48 hXB).cell 4
            simp only [List.getElem?_cons_succ, List.getElem?_cons_zero] at hx8
            have hfr8 := (KX.out.below hb48 hXB).free 4
            have hz8 : X < w8.heap.size := (KX.out.below hb48 hXB).lt
            go_wp2_with (at_builtin; refine Len.wpList_app (o := ⟨some 140, _, _, _, _, _⟩) rfl _ _ _ _ rfl _ _ rfl rfl HRUN.out ?_)
            have hk9 := (KX.out.below hb48 hXB).store 4 (.slice (some ⟨gp, 0, none⟩) (acc.length + 1) cap2)
            have hr9 := (KR.out.below hb48 hRBB).far (p := ⟨X, 4, none⟩) (by show R ≠ X; omega) (.slice (some ⟨gp, 0, none⟩) (acc.length + 1) cap2)
            have hB9 := (B.out.trans (hb48.mono hwB)).setCell (p := ⟨X, 4, none⟩) (by show w.heap.size ≤ X; omega) (.slice (some ⟨gp, 0, none⟩) (acc.length + 1) cap2)
            have hfin : nxS (fun l b => nxE f l (d + 1) b) con.length con b1 = cmb (acc ++ [x]) (z + z2) (nxS (fun l b => nxE f l (d + 1) b) (g - 1) (con.drop (z + z2)) b3) := by
              obtain ⟨g', hg'⟩ : ∃ g', g = g' + 1 := ⟨g - 1, by have := HGA.out.1; omega⟩
              rw [HV.out, hg', cmb_ok HNE.out HNX.out]
              rfl
            exact ⟨⟨p5, z + z2, g - 1, b3, acc ++ [x], S', cs', _, by omega, rfl, rfl, hb38, by have := HP4.out; have := HP5.out; omega, by have := HGA.out.1; omega, by rw [List.length_append]; have := HGA.out.2; simp; omega, hfin, PL8.out.far (p := ⟨X, 4, none⟩) hXB _, hk9, hr9, hB9⟩, by simp [intOf]; have := HP3.out; have := HP4.out; have := HP5.out; omega⟩
        · obtain rfl : z = m := by omega
          obtain rfl : p4 = p3 := by have := HP3.out; have := HP4.out; omega
          have hd0 : con.drop z = [] := List.drop_eq_nil_of_le (Nat.le_of_eq HCM.out)
          have hz9 : nxE (f + 1) l d b = .ok (.mk c n true [] acc) (s + s2 + z) b2 := by
            rw [HZ.out, HV.out, hd0, nxS_nil]
            simp [cmb]
          have hend : p + (s + s2 + z) = p4 := by have := HST.out; have := HP4.out; omega
          obtain ⟨Av, cv, rfl, hac, hcv, hrds⟩ := PL.out.rds (T := fun j => w.heap.size ≤ j ∧ j ≠ R) (fun j hj => ⟨by omega, by omega⟩)
          obtain ⟨na, hna⟩ : ∃ na, acc.length = na := ⟨_, rfl⟩
          rw [hna] at hac KX
          have HNA := Lib.hid hna
          have HE : Hid (RdE false (fun j => w.heap.size ≤ j ∧ j ≠ R) wr (.mk c n true [] acc) (elV c n true (.slice none 0 0) (.slice Av na cv))) := Lib.hid
            ⟨HG.out.2.1, HG.out.2.2.1, All8.nil, none, 0, Av, cv, by rw [HNA.out]; rfl, RdX.nil, Nat.le_refl _, Nat.zero_le _, by rw [HNA.out]; exact hac, hcv, fun h => (by cases h), hrds⟩
          have HZ9 := Lib.hid hz9
          have HEND := Lib.hid hend
          clear hd0 hz9 hend hna hrds HV HZ PL
          obtain ⟨x0, x1, x2, x3, x4, xz⟩ := KX.out.five
          obtain ⟨r0, r1, r2, r3, r4, rz⟩ := KR.out.five
          obtain ⟨g0, g1, g2, g3, g4⟩ := KR.out.free5
          go_wp2_with fail
          refine bodyPost_ret (res4 rfl (((((KR.out.store 0 (.int .u8 (c : Int))).store 1 (.bool true)).store 2 (.int .u32 (n : Int))).store 3 (.slice none 0 0)).store 4 (.slice Av na cv))) rfl ?_
          rw [HZ9.out]
          refine ⟨_, by rw [HEND.out]; rfl, RdE.keep (S := fun j => w.heap.size ≤ j ∧ j ≠ R) (w := wr) (by simp [World.setCell]) (fun i hi _ => ?_) (fun i hi _ => hi.1) _ _ HE.out, (((((B.out.setCell (p := ⟨R, 0, none⟩) hwR (.int .u8 (c : Int))).setCell (p := ⟨R, 1, none⟩) hwR (.bool true)).setCell (p := ⟨R, 2, none⟩) hwR (.int .u32 (n : Int))).setCell (p := ⟨R, 3, none⟩) hwR (.slice none 0 0)).setCell (p := ⟨R, 4, none⟩) hwR (.slice Av na cv))⟩
          have hi' : i ≠ R := hi.2
          rw [Below.heap_setCell _ _ _ _ hi', Below.heap_setCell _ _ _ _ hi', Below.heap_setCell _ _ _ _ hi', Below.heap_setCell _ _ _ _ hi', Below.heap_setCell _ _ _ _ hi']

theorem res3g {tmps : Array Value} {W : World} {R : Nat} {a b d e f : Value} (h2 : tmps.getD 2 undef = .pointer (some ⟨R, 0, none⟩)) (hb : Bk W R 29 [a, b, d, e, f]) :
    (results Try.f29 tmps).run Try.prog W = .ok (.tuple #[.agg #[a, b, d, e, f], tmps.getD 3 undef, tmps.getD 4 undef]) W := by
  obtain ⟨e0, e1, e2, e3, e4, hz⟩ := hb.five
  have h2' : tmps[2]?.getD undef = .pointer (some ⟨R, 0, none⟩) := by simpa using h2
  simp only [results, Try.f29]
  simp [h2', go_sem, e0, e1, e2, e3, e4]
/-- What the reference's Get gives. -/
def GiveRg (w : World) (lst : List Nat) (x : El) (a f : Nat) (e : Ending) (w' : World) : Prop :=
  (f = 0 → ∃ b, nxE 17 lst 1 0 = .ok x lst.length b) ∧ ∃ u, e = .returned (.tuple #[u, .int .i64 ((a : Nat) : Int), .int .i64 ((f : Nat) : Int)]) ∧ RdE false (fun i => w.heap.size ≤ i) w' x u ∧ Below w.heap.size w w'
set_option linter.unusedSimpArgs false in
set_option maxHeartbeats 4000000 in
set_option maxRecDepth 100000 in
theorem rget_el {A : Option Addr} {lst : List Nat} {L cap : Nat} (w : World) (hA : Rb w A lst) (hL : lst.length = L) (hLc : L ≤ cap) (hcm : cap ≤ maxLen) (hL1 : L ≤ 2000) {x : El} {a f : Nat} (hr : resX (getX lst) = (x, a, f)) :
    Calls Try.prog 29 #[.slice A L cap] w (GiveRg w lst x a f) := by
  obtain ⟨w1, hw1⟩ : ∃ w1, w.alloc (.cells #[.int .u8 0, .bool false, .int .u32 0, .slice none 0 0, .slice none 0 0] 29) = w1 := ⟨_, rfl⟩
  have hb1 : Below w.heap.size w w1 := by rw [← hw1]; exact bel1 _ _
  obtain ⟨R, hR⟩ : ∃ R, w.heap.size = R := ⟨_, rfl⟩
  have hkr : Bk w1 R 29 elZ := by rw [← hw1, ← hR]; exact Bk.new w 29 [_, _, _, _, _]
  have hwR : w.heap.size ≤ R := by omega
  have hc := rnext_any hL hLc hcm hL1 17 1 0 0 L w1 (by decide) (by decide) (Nat.zero_le _) (Nat.le_refl _) (by decide) (hA.below hb1)
  rw [List.drop_zero, List.take_of_length_le (Nat.le_of_eq hL)] at hc
  have hnx : nextX lst = nxE 17 lst 1 0 := by unfold nextX; rw [if_neg (by omega)]
  have hLb : decide ((1048576 : Int) < (L : Int)) = false := by simp; omega
  have B := Lib.hid hb1
  have KR := Lib.hid hkr
  have HW1 := Lib.hid hw1
  have HRR := Lib.hid hR
  unfold getX at hr
  rw [hnx] at hr
  have HL := Lib.hid hL
  have H8 := Lib.hid hA.2
  clear hA hL hnx hb1 hkr hw1 hR
  rcases hq : nxE 17 lst 1 0 with ⟨fe, ae⟩ | ⟨x', z, b'⟩
  · rw [hq] at hr hc
    simp only [resX, Prod.mk.injEq] at hr
    obtain ⟨rfl, rfl, rfl⟩ := hr
    have HC := Lib.hid hc
    clear hc hq
    go_enter Try.func29, Try.ntmps29
    go_upto_region 1 with fail
    rw [HW1.out, HRR.out]
    go_wp2_with fail
    refine HC.out.mono ?_
    rintro r w2 ⟨hfe, rfl, hb⟩
    rw [Nat.zero_add]
    have hfb : ((fe : Int) != 0) = true := by simp; exact hfe
    have Bq := Lib.hid (B.out.trans (hb.mono B.out.size))
    have KRq := Lib.hid (KR.out.below hb KR.out.lt)
    clear B KR
    have B := Bq
    have KR := KRq
    clear Bq KRq hb
    obtain ⟨D, hD⟩ : ∃ D, w2.heap.size = D := ⟨_, rfl⟩
    obtain ⟨wz, hwz⟩ : ∃ wz, w2.alloc (.cells #[.int .u8 0, .bool false, .int .u32 0, .slice none 0 0, .slice none 0 0] 29) = wz := ⟨_, rfl⟩
    have hkz : Bk wz D 29 elZ := by rw [← hwz, ← hD]; exact Bk.new w2 _ elZ
    have hbz : Below D w2 wz := by rw [← hwz, ← hD]; exact bel1 w2 _
    obtain ⟨z0, z1, z2, z3, z4, zz⟩ := hkz.five
    obtain ⟨g0, g1, g2, g3, g4⟩ := hkz.free5
    obtain ⟨w3, hw4⟩ : ∃ w4, (((((wz.setCell ⟨D, 0, none⟩ (.int .u8 0)).setCell ⟨D, 1, none⟩ (.bool false)).setCell ⟨D, 2, none⟩ (.int .u32 0)).setCell ⟨D, 3, none⟩ (.slice none 0 0)).setCell ⟨D, 4, none⟩ (.slice none 0 0)) = w4 := ⟨_, rfl⟩
    have hk4 : Bk w3 D 29 [.int .u8 0, .bool false, .int .u32 0, .slice none 0 0, .slice none 0 0] := by rw [← hw4]; exact ((((hkz.store 0 (.int .u8 0)).store 1 (.bool false)).store 2 (.int .u32 0)).store 3 (.slice none 0 0)).store 4 (.slice none 0 0)
    have hl := Nat.le_refl D
    have hb4 : Below w2.heap.size w2 w3 := by rw [hD, ← hw4]; exact ((((hbz.setCell (p := ⟨D, 0, none⟩) hl _).setCell (p := ⟨D, 1, none⟩) hl _).setCell (p := ⟨D, 2, none⟩) hl _).setCell (p := ⟨D, 3, none⟩) hl _).setCell (p := ⟨D, 4, none⟩) hl _
    have Bq := Lib.hid (B.out.trans (hb4.mono B.out.size))
    have KRq := Lib.hid (KR.out.below hb4 KR.out.lt)
    clear B KR
    have B := Bq
    have KR := KRq
    clear Bq KRq hb4
    clear hkz hbz hk4 hl
    go_upto_region 4 with fail
    clear z0 z1 z2 z3 z4 zz g0 g1 g2 g3 g4 hw4 hwz hD
    obtain ⟨r0, r1, r2, r3, r4, rz⟩ := KR.out.five
    obtain ⟨g0, g1, g2, g3, g4⟩ := KR.out.free5
    go_wp2_with fail
    exact bodyPost_ret (res3g rfl (((((KR.out.store 0 (.int .u8 0)).store 1 (.bool false)).store 2 (.int .u32 0)).store 3 (.slice none 0 0)).store 4 (.slice none 0 0))) rfl ⟨fun h => absurd h hfe, _, rfl, rd_zero _ _ _, (((((B.out.setCell (p := ⟨R, 0, none⟩) hwR (.int .u8 0)).setCell (p := ⟨R, 1, none⟩) hwR (.bool false)).setCell (p := ⟨R, 2, none⟩) hwR (.int .u32 0)).setCell (p := ⟨R, 3, none⟩) hwR (.slice none 0 0)).setCell (p := ⟨R, 4, none⟩) hwR (.slice none 0 0))⟩
  · have HQ9 := Lib.hid hq
    have HZ9 := Lib.hid (show z ≤ L from by have := (nxE_size H8.out hq).2; rw [HL.out] at this; exact this)
    rw [hq] at hr hc
    have HC := Lib.hid hc
    clear hc hq
    dsimp only at hr
    go_enter Try.func29, Try.ntmps29
    go_upto_region 1 with fail
    rw [HW1.out, HRR.out]
    go_wp2_with fail
    refine HC.out.mono ?_
    rintro r w2 ⟨u, rfl, hu, hb⟩
    rw [Nat.zero_add]
    obtain ⟨uc, un, uk, A9, l9, q9, B9, m9, s9, rfl⟩ := hu.form
    have U := Lib.hid (RdE.keep (T := fun i => w.heap.size ≤ i ∧ i ≠ R) (Nat.le_refl _) (fun _ _ _ => rfl) (fun i (hi : w1.heap.size ≤ i) _ => by have := KR.out.lt; exact ⟨by omega, by omega⟩) _ _ hu)
    clear hu HC
    have Bq := Lib.hid (B.out.trans (hb.mono B.out.size))
    have KRq := Lib.hid (KR.out.below hb KR.out.lt)
    clear B KR
    have B := Bq
    have KR := KRq
    clear Bq KRq hb
    obtain ⟨D, hD⟩ : ∃ D, w2.heap.size = D := ⟨_, rfl⟩
    obtain ⟨wz, hwz⟩ : ∃ wz, w2.alloc (.cells #[.int .u8 0, .bool false, .int .u32 0, .slice none 0 0, .slice none 0 0] 29) = wz := ⟨_, rfl⟩
    have hkz : Bk wz D 29 elZ := by rw [← hwz, ← hD]; exact Bk.new w2 _ elZ
    have hbz : Below D w2 wz := by rw [← hwz, ← hD]; exact bel1 w2 _
    obtain ⟨z0, z1, z2, z3, z4, zz⟩ := hkz.five
    obtain ⟨g0, g1, g2, g3, g4⟩ := hkz.free5
    obtain ⟨w3, hw4⟩ : ∃ w4, (((((wz.setCell ⟨D, 0, none⟩ (.int .u8 (uc : Int))).setCell ⟨D, 1, none⟩ (.bool uk)).setCell ⟨D, 2, none⟩ (.int .u32 (un : Int))).setCell ⟨D, 3, none⟩ (.slice A9 l9 q9)).setCell ⟨D, 4, none⟩ (.slice B9 m9 s9)) = w4 := ⟨_, rfl⟩
    have hk4 : Bk w3 D 29 [.int .u8 (uc : Int), .bool uk, .int .u32 (un : Int), .slice A9 l9 q9, .slice B9 m9 s9] := by rw [← hw4]; exact ((((hkz.store 0 (.int .u8 (uc : Int))).store 1 (.bool uk)).store 2 (.int .u32 (un : Int))).store 3 (.slice A9 l9 q9)).store 4 (.slice B9 m9 s9)
    have hl := Nat.le_refl D
    have hb4 : Below w2.heap.size w2 w3 := by rw [hD, ← hw4]; exact ((((hbz.setCell (p := ⟨D, 0, none⟩) hl _).setCell (p := ⟨D, 1, none⟩) hl _).setCell (p := ⟨D, 2, none⟩) hl _).setCell (p := ⟨D, 3, none⟩) hl _).setCell (p := ⟨D, 4, none⟩) hl _
    have KE := Lib.hid hk4
    have hRD : R ≠ D := by have := KR.out.lt; omega
    have U3 := Lib.hid (U.out.stay hb4)
    have Bq := Lib.hid (B.out.trans (hb4.mono B.out.size))
    have KRq := Lib.hid (KR.out.below hb4 KR.out.lt)
    clear B KR
    have B := Bq
    have KR := KRq
    clear Bq KRq hb4
    clear hkz hbz hk4 hl
    go_upto_region 6 with fail
    clear z0 z1 z2 z3 z4 zz g0 g1 g2 g3 g4 hw4 hwz hD
    by_cases hzl : z < L
    · have hzb : decide (z < L) = true := by simp; omega
      rw [if_pos (by rw [HL.out]; exact hzl)] at hr
      simp only [resX, Prod.mk.injEq] at hr
      obtain ⟨rfl, rfl, rfl⟩ := hr
      obtain ⟨r0, r1, r2, r3, r4, rz⟩ := KR.out.five
      obtain ⟨g0, g1, g2, g3, g4⟩ := KR.out.free5
      go_wp2_with fail
      exact bodyPost_ret (res3g rfl (((((KR.out.store 0 (.int .u8 0)).store 1 (.bool false)).store 2 (.int .u32 0)).store 3 (.slice none 0 0)).store 4 (.slice none 0 0))) rfl ⟨fun h => (by cases h), _, rfl, rd_zero _ _ _, (((((B.out.setCell (p := ⟨R, 0, none⟩) hwR (.int .u8 0)).setCell (p := ⟨R, 1, none⟩) hwR (.bool false)).setCell (p := ⟨R, 2, none⟩) hwR (.int .u32 0)).setCell (p := ⟨R, 3, none⟩) hwR (.slice none 0 0)).setCell (p := ⟨R, 4, none⟩) hwR (.slice none 0 0))⟩
    · have hzb : decide (z < L) = false := by simp; omega
      rw [if_neg (by rw [HL.out]; exact hzl)] at hr
      simp only [resX, Prod.mk.injEq] at hr
      obtain ⟨rfl, rfl, rfl⟩ := hr
      obtain ⟨r0, r1, r2, r3, r4, rz⟩ := KR.out.five
      obtain ⟨g0, g1, g2, g3, g4⟩ := KR.out.free5
      obtain ⟨x0, x1, x2, x3, x4, xz⟩ := KE.out.five
      go_wp2_with fail
      refine bodyPost_ret (res3g rfl (((((KR.out.store 0 (.int .u8 (uc : Int))).store 1 (.bool uk)).store 2 (.int .u32 (un : Int))).store 3 (.slice A9 l9 q9)).store 4 (.slice B9 m9 s9))) rfl ⟨fun _ => ⟨_, by have := HZ9.out; have h9 : z = lst.length := (by rw [HL.out]; omega); rw [HQ9.out, h9]⟩, _, rfl, RdE.keep (S := fun j => w.heap.size ≤ j ∧ j ≠ R) (w := w3) (by simp [World.setCell]) (fun i hi _ => ?_) (fun i hi _ => hi.1) _ _ U3.out, (((((B.out.setCell (p := ⟨R, 0, none⟩) hwR (.int .u8 (uc : Int))).setCell (p := ⟨R, 1, none⟩) hwR (.bool uk)).setCell (p := ⟨R, 2, none⟩) hwR (.int .u32 (un : Int))).setCell (p := ⟨R, 3, none⟩) hwR (.slice A9 l9 q9)).setCell (p := ⟨R, 4, none⟩) hwR (.slice B9 m9 s9))⟩
      have hi' : i ≠ R := hi.2
      rw [Below.heap_setCell _ _ _ _ hi', Below.heap_setCell _ _ _ _ hi', Below.heap_setCell _ _ _ _ hi', Below.heap_setCell _ _ _ _ hi', Below.heap_setCell _ _ _ _ hi']
end Go.Proofs.Ytgdjgahmnnjeeaa
