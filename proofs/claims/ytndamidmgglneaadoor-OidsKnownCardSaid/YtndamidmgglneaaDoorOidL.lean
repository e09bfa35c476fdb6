/-
  Package oids: the contract of Get.
  Conditions: the slice reads as bytes.
-/
import Derived.Test.YtndamidmgglneaaDoorOidK
import Derived.Laws.ResultCell
import Derived.Test.YtndamidmgglneaaDoorStr
namespace Go.Proofs.YtndamidmgglneaaDoor
open Go.RowKit

/-- The subidentifiers that octets hold, or the error. -/
def getF : Nat → List Nat → List Nat → List Nat × Nat
  | _, acc, [] => (acc, 0)
  | 0, _, _ :: _ => ([], 0)
  | f + 1, acc, b :: l => if acc.length = 15 then ([], 3) else if (subO (b :: l)).2.2 ≠ 0 then ([], (subO (b :: l)).2.2) else getF f (acc ++ [(subO (b :: l)).1]) ((b :: l).drop (subO (b :: l)).2.1)
/-- The arcs out of the subidentifiers. -/
def mkL : List Nat → List Nat
  | [] => zeroL
  | x :: m => pad (min (x / 40) 2 :: (x - 40 * min (x / 40) 2) :: m)
/-- What Get reads: N, the arcs, the error. -/
def getO (l : List Nat) : Nat × List Nat × Nat :=
  if l.length = 0 then (0, zeroL, 7) else if (getF l.length [] l).2 ≠ 0 then (0, zeroL, (getF l.length [] l).2) else ((getF l.length [] l).1.length + 1, mkL (getF l.length [] l).1, 0)
def GiveG (w : World) (r : Nat × List Nat × Nat) (e : Ending) (w' : World) : Prop := e = .returned (.tuple #[oV r.1 r.2.1, .int .i64 (r.2.2 : Int)]) ∧ Below w.heap.size w w'

theorem rdS_ok : ∀ (l : List Nat) (v k : Nat), (rdS v k l).2.2 = 0 → k + 1 ≤ (rdS v k l).2.1 ∧ (rdS v k l).2.1 ≤ k + l.length ∧ (rdS v k l).1 < 4294967296
  | [], v, k, h => by simp [rdS] at h
  | b :: l, v, k, h => by
    unfold rdS at h ⊢
    by_cases h1 : 4294967295 < 128 * v + b % 128
    · rw [if_pos h1] at h; simp at h
    · rw [if_neg h1] at h ⊢
      by_cases h2 : b < 128
      · rw [if_pos h2]; simp only [List.length_cons]; omega
      · rw [if_neg h2] at h ⊢
        have := rdS_ok l _ _ h
        rw [List.length_cons]
        omega
theorem subO_cons (b : Nat) (l : List Nat) : subO (b :: l) = if b = 128 then (0, 0, 11) else rdS 0 0 (b :: l) := rfl
theorem subO_ok {l : List Nat} (h : (subO l).2.2 = 0) : 1 ≤ (subO l).2.1 ∧ (subO l).2.1 ≤ l.length ∧ (subO l).1 < 4294967296 := by
  cases l with
  | nil => simp [subO] at h
  | cons b l =>
    rw [subO_cons] at h ⊢
    by_cases h1 : b = 128
    · rw [if_pos h1] at h; simp at h
    · rw [if_neg h1] at h ⊢
      have := rdS_ok (b :: l) 0 0 h
      omega
theorem pad_snoc (l : List Nat) (x : Nat) (h : l.length < 16) : (pad l).set l.length x = pad (l ++ [x]) := by
  have := pad_set (l ++ [x]) l.length (by simp) (by simp; omega)
  rw [List.take_left' rfl, List.take_of_length_le (by simp)] at this
  rw [← this]
  congr 1
  simp
theorem slice_from (s N c : Nat) (A : Option Addr) (w : World) (l : List Nat) (hN : l.length = N) (hA : Rb w A l) (h1 : 1 ≤ s) (hs : s ≤ N) (hc : N ≤ c) (hm : c ≤ maxLen) :
    ∃ A' c', (∀ W : World, (Instr.slice 40 (.slice A N c) (some (.int .i64 (s : Int))) none none).run Tryd.prog W = .ok (.slice A' (N - s) c') W) ∧ (∀ W : World, (Instr.sliceAt 40 (.slice A N c) (some (.int .i64 (s : Int))) none none).run Tryd.prog W = .ok (.slice A' (N - s) c') W) ∧ Rb w A' (l.drop s) ∧ N - s ≤ c' ∧ c' ≤ maxLen ∧ (∀ q', A' = some q' → ∃ q, A = some q ∧ q'.block = q.block) := by
  obtain ⟨b, off, rfl, hb, -, -⟩ := hA.at_ (k := 0) (by omega)
  have hsz : ∀ W, (sizeOf (Tryd.prog.elem 40)).run Tryd.prog W = .ok 1 W := fun W => by kernel_rfl
  have q : ∀ W : World, (Instr.slice 40 (.slice (some ⟨b, off, none⟩) N c) (some (.int .i64 (s : Int))) none none).run Tryd.prog W = .ok (.slice (if c = s then some ⟨b, off, none⟩ else some ⟨b, off + s, none⟩) (N - s) (c - s)) W := fun W => by
    rw [run_slice_l (P := Tryd.prog) W 40 (some ⟨b, off, none⟩) N c (by kernel_rfl) .i64 (s : Int) (by omega) (by omega), hsz W]
    simp only [Result.andThen, sliced, Int.toNat_natCast, Option.map_some, addr_add, Nat.mul_one]
  refine ⟨_, _, q, fun W => ?_, ?_, by omega, by unfold maxLen at *; omega, fun q' hq => ⟨_, rfl, by split at hq <;> (injection hq with hq; rw [← hq])⟩⟩
  · rw [← q W]; exact run_sliceAt_slice (P := Tryd.prog) W 40 _ _ _ _ (by kernel_rfl)
  · by_cases h : c = s
    · rw [if_pos h, List.drop_of_length_le (by omega)]; exact Rb.nil
    · rw [if_neg h]; exact hA.drop_ s
/-- A whole OID and a number are returned. -/
theorem ret25t {fn : Func} {p u : Tmp} (h : fn.results = #[.cell p 26, .tmp u]) {a : Act} {w : World} {g n : Nat} {l : List Nat} {v : Value} (hp : a.tmps.getD p undef = .pointer (some ⟨g, 0, none⟩)) (hu : a.tmps.getD u undef = v) (hg : Bk w g 26 (oc n l)) (hl : l.length = 16) (hd : a.defers = [])
    {R : Ending → World → Prop} (hR : R (.returned (.tuple #[oV n l, v])) w) : bodyPost Tryd.prog fn R .ret a w :=
  bodyPost_ret (by
    rw [results_cell_tmp h, hp]
    have := run_loadVar_mid (P := Tryd.prog) w g 0 _ (oc n l) _ (range25 hg) Tryd.underlying26 rfl (by rw [oc_length, hl]; exact info25)
    simp only [asAddr, Sem.run_pure, Result.andThen_ok, this, hu]) hd hR

theorem pad2 (a b : Nat) (m : List Nat) : pad (a :: b :: m) = a :: b :: (m ++ List.replicate (14 - m.length) 0) := by
  unfold pad
  rw [List.length_cons, List.length_cons, show 16 - (m.length + 1 + 1) = 14 - m.length by omega]
  rfl
/-- What stands between two rounds of Get. -/
structure GetR (w : World) (g : Nat) (r : List Nat × Nat) (acc l' : List Nat) (A' : Option Addr) (c' : Nat) (wr : World) : Prop where
  rd : Rb wr A' l'
  lc : l'.length ≤ c'
  cm : c' ≤ maxLen
  al : acc.length ≤ 15
  a32 : ∀ x ∈ acc, x < 4294967296
  loc : Bk wr g 26 (oc (acc.length + 1) (pad (0 :: acc)))
  res : Bk wr w.heap.size 26 (oc 0 zeroL)
  bel : Below w.heap.size w wr
  eq : ∃ f, l'.length ≤ f ∧ r = getF f acc l'
  ne : l' = [] → acc ≠ []
  ap : ∀ q, A' = some q → q.block < w.heap.size

set_option maxRecDepth 100000 in
set_option maxHeartbeats 2000000 in
theorem get_any (A : Option Addr) (l : List Nat) (c : Nat) (w : World) (hlc : l.length ≤ c) (hm : c ≤ maxLen) (hA : Rb w A l) :
    Calls Tryd.prog 29 #[.slice A l.length c] w (GiveG w (getO l)) := by
  have hz := zero25
  have HZL := Lib.hid zeroL_length
  have hzp : zeroL = pad [] := rfl
  have HZP := Lib.hid hzp
  by_cases h0 : l.length = 0
  · have HE := Lib.hid (show getO l = (0, zeroL, 7) from if_pos h0)
    rw [HE.out]
    have S0 := Lib.hid (Bk.new w 26 (oc 0 zeroL))
    have B0 := Lib.hid (bel1 w (.cells (oc 0 zeroL).toArray 26))
    rw [h0]
    clear hzp h0 HE
    generalize zeroL = zl at *
    go_enter Tryd.func29, Tryd.ntmps29
    go_wp2_with (refine wpList_store25 rfl (.tmp 2) (.tmp 11) rfl rfl rfl S0.out (by rw [oc_length, HZL.out]) HZL.out ?_; intro w5 S5 hg5 hz5; have HS5 := Lib.hid S5; have HB5 := Lib.hid (B0.out.grown hg5 B0.out.size (fun k e => by injection e with e; omega)); clear S5 hg5 hz5)
    exact ret25t rfl rfl rfl HS5.out HZL.out rfl ⟨rfl, HB5.out⟩
  · have HE := Lib.hid (show getO l = if (getF l.length [] l).2 ≠ 0 then (0, zeroL, (getF l.length [] l).2) else ((getF l.length [] l).1.length + 1, mkL (getF l.length [] l).1, 0) from if_neg h0)
    rw [HE.out]
    obtain ⟨r, hr⟩ : ∃ r, getF l.length [] l = r := ⟨_, rfl⟩
    rw [hr]
    have HR := Lib.hid hr
    clear HE
    obtain ⟨T, hT⟩ : ∃ T, (if r.2 ≠ 0 then (0, zeroL, r.2) else (r.1.length + 1, mkL r.1, 0)) = T := ⟨_, rfl⟩
    rw [hT]
    have HT := Lib.hid hT
    clear hT
    have hlb : ((l.length : Int) == 0) = false := by rw [beq_eq_false_iff_ne]; omega
    have S0 := Lib.hid ((Bk.new w 26 (oc 0 zeroL)).alloc (.cells (oc 0 zeroL).toArray 26))
    have B0 := Lib.hid ((bel1 w (.cells (oc 0 zeroL).toArray 26)).alloc (by simp) (.cells (oc 0 zeroL).toArray 26))
    have hA0 := hA
    clear hA
    have HA := Lib.hid (hA0.below (bel1 w (.cells (oc 0 zeroL).toArray 26)))
    clear hzp hr
    generalize hzl : zeroL = zl at *
    have HZ := Lib.hid hzl
    go_enter Tryd.func29, Tryd.ntmps29
    go_upto_region 3 with fail
    generalize hw1 : w.alloc (.cells (oc 0 zl).toArray 26) = w1 at *
    have hw1s : w1.heap.size = w.heap.size + 1 := by rw [← hw1]; simp
    have HW1S := Lib.hid hw1s
    clear hzl hw1 hw1s
    go_upto_region 4 with (refine wpList_store25 rfl (.tmp 4) (.tmp 12) rfl (n := 1) (l := zl) rfl rfl (Bk.new w1 26 (oc 0 zl)) (by rw [oc_length, HZL.out]) HZL.out ?_; intro w2 S2 hg2 hz2; have HS2 := Lib.hid S2; have HB2 := Lib.hid (B0.out.grown hg2 B0.out.size (fun k e => by injection e with e; have := HW1S.out; omega)); have HR2 := Lib.hid (S0.out.only hg2 (by intro e; injection e with e; have := HW1S.out; omega)); have HA2 := Lib.hid (HA.out.below ((bel1 w1 (.cells (oc 0 zl).toArray 26)).grown hg2 (by simp) (fun k e => by injection e with e; omega))); clear S2 hg2 hz2)
    have hlt : w.heap.size < w1.heap.size := by have := HW1S.out; omega
    generalize w1.heap.size = g at *
    clear HW1S S0 B0 HA
    have start : GetR w g r [] l A c w2 := ⟨HA2.out, hlc, hm, by simp, by simp, by
      have := HS2.out
      rw [HZP.out] at this
      exact this, HZ.out ▸ HR2.out, HB2.out, ⟨l.length, Nat.le_refl _, HR.out.symm⟩, fun e => absurd (by rw [e]; rfl) h0, fun q hq => by
      obtain ⟨b, off, e, hb, -⟩ := hA0.at_ (k := 0) (by omega)
      rw [e] at hq; injection hq with hq; rw [← hq]; exact hb⟩
    have START := Lib.hid start
    clear start HA2 HS2 HB2 HR2 hlb
    simp only [Act.put]
    go_loopw [0, 5, 6, 7] (fun b _ _ _ wr => ∃ acc l' A' c', b = .slice A' l'.length c' ∧ GetR w g r acc l' A' c' wr) (fun b _ _ _ _ => match b with | .slice _ n _ => n | _ => 0)
    case atStart => exact ⟨[], l, A, c, rfl, START.out⟩
    case round =>
      obtain ⟨acc, l', A', c', rfl, hR⟩ := hrel
      have HG := Lib.hid hR
      clear hR START
      by_cases hl0 : l'.length = 0
      · obtain rfl : l' = [] := List.eq_nil_of_length_eq_zero hl0
        obtain ⟨x, m, rfl⟩ : ∃ x m, acc = x :: m := by
          have := HG.out.ne rfl
          cases acc with
          | nil => exact absurd rfl this
          | cons x m => exact ⟨x, m, rfl⟩
        have HE3 : Hid (r = (x :: m, 0)) := Lib.hid (by
          obtain ⟨f, _, e⟩ := HG.out.eq
          rw [e]; cases f <;> rfl)
        have hx32 := HG.out.a32 x (by simp)
        have hl16 : (m ++ List.replicate (14 - m.length) 0).length = 14 := by have := HG.out.al; simp at this ⊢; omega
        have hloc := HG.out.loc
        rw [pad2] at hloc
        obtain ⟨d, hd⟩ : ∃ d, min (x / 40) 2 = d := ⟨_, rfl⟩
        obtain ⟨y, hy⟩ : ∃ y, x - 40 * d = y := ⟨_, rfl⟩
        have hTT : T = (m.length + 2, d :: y :: (m ++ List.replicate (14 - m.length) 0), 0) := by
          rw [← HT.out, HE3.out, if_neg (by simp), mkL, hd, hy, pad2]; rfl
        have HTT := Lib.hid hTT
        generalize m ++ List.replicate (14 - m.length) 0 = tl at *
        obtain ⟨k, hk⟩ : ∃ k, (x :: m).length + 1 = k := ⟨_, rfl⟩
        have HKK := Lib.hid (show m.length + 2 = k by rw [← hk]; rfl)
        rw [hk] at hloc
        have HL := Lib.hid hloc
        have HL16 := Lib.hid (show ∀ a b : Nat, (a :: b :: tl).length = 16 from fun a b => by simp; omega)
        have c1 : wr.cell? ⟨g, 1, none⟩ = some (.int .u32 0) := by rw [hloc.cell]; rfl
        have c2 : wr.cell? ⟨g, 2, none⟩ = some (.int .u32 (x : Int)) := by rw [hloc.cell]; rfl
        have f1 := hloc.free 1
        obtain ⟨wa, hwa⟩ : ∃ wa, wr.setCell ⟨g, 1, none⟩ (.int .u32 (d : Int)) = wa := ⟨_, rfl⟩
        have ha1 : Bk wa g 26 (oc k (d :: x :: tl)) := by
          have := hloc.store 1 (.int .u32 (d : Int))
          rw [hwa] at this
          exact this
        have ha2 : Bk wa w.heap.size 26 (oc 0 zeroL) := by rw [← hwa]; exact HG.out.res.far (p := ⟨g, 1, none⟩) (by simp; omega) _
        have ha3 : Below w.heap.size w wa := by rw [← hwa]; exact HG.out.bel.setCell (p := ⟨g, 1, none⟩) (by show w.heap.size ≤ g; omega) _
        have HA1 := Lib.hid ha1
        have HA2 := Lib.hid ha2
        have HA3 := Lib.hid ha3
        have HWA := Lib.hid hwa
        have HD := Lib.hid hd
        have HY := Lib.hid hy
        obtain ⟨u, hu⟩ : ∃ u, x / 40 = u := ⟨_, rfl⟩
        have hui : (x : Int) / 40 = (u : Int) := by omega
        have hmin : min (u : Int) 2 = (d : Int) := by omega
        have hdle : 40 * d ≤ x := by omega
        have hyi : (x : Int) - 40 * (d : Int) = (y : Int) := by omega
        clear hwa ha1 ha2 ha3 hd hy hTT hloc hl16 hk hu
        go_upto_region 14 with fail
        rw [HWA.out]
        clear c1 c2 f1 hui hmin
        have c1 : wa.cell? ⟨g, 1, none⟩ = some (.int .u32 (d : Int)) := by rw [HA1.out.cell]; rfl
        have c2 : wa.cell? ⟨g, 2, none⟩ = some (.int .u32 (x : Int)) := by rw [HA1.out.cell]; rfl
        have f2 := HA1.out.free 2
        have HB1 := Lib.hid (show Bk (wa.setCell ⟨g, 2, none⟩ (.int .u32 (y : Int))) g 26 (oc k (d :: y :: tl)) from HA1.out.store 2 (.int .u32 (y : Int)))
        have HB2 := Lib.hid (HA2.out.far (p := ⟨g, 2, none⟩) (by simp; omega) (.int .u32 (y : Int)))
        have HB3 := Lib.hid (HA3.out.setCell (p := ⟨g, 2, none⟩) (by show w.heap.size ≤ g; omega) (.int .u32 (y : Int)))
        go_upto_region 15 with fail
        generalize wa.setCell ⟨g, 2, none⟩ (.int .u32 (y : Int)) = wb at *
        clear c1 c2 f2 hyi
        go_wp2_with (first | (refine wpList_load25 rfl (.tmp 4) rfl rfl HB1.out (HL16.out d y) ?_) | (refine wpList_store25 rfl (.tmp 2) (.tmp 59) rfl rfl rfl HB2.out (by rw [oc_length]; rfl) (HL16.out d y) ?_; intro w5 S5 hg5 hz5; have HS5 := Lib.hid S5; have HB5 := Lib.hid (HB3.out.grown hg5 HB3.out.size (fun k e => by injection e with e; omega)); clear S5 hg5 hz5))
        refine ret25t rfl rfl rfl HS5.out (HL16.out d y) rfl ⟨?_, HB5.out⟩
        rw [HTT.out, ← HKK.out]
        rfl
      · have cn := oid_n HG.out.loc
        have hal := HG.out.al
        by_cases h15 : acc.length = 15
        · have HE3 : Hid (r = ([], 3)) := Lib.hid (by
            obtain ⟨f, hf, e⟩ := HG.out.eq
            obtain ⟨b, l2, rfl⟩ : ∃ b l2, l' = b :: l2 := by
              cases l' with
              | nil => simp at hl0
              | cons b l2 => exact ⟨b, l2, rfl⟩
            obtain ⟨f, rfl⟩ : ∃ f', f = f' + 1 := ⟨f - 1, by simp at hf; omega⟩
            rw [e, getF, if_pos h15])
          rw [h15] at cn
          clear h15
          go_wp2_with (refine wpList_store25 rfl (.tmp 2) (.tmp 19) rfl rfl rfl HG.out.res (by rw [oc_length]; rfl) HZL.out ?_; intro w5 S5 hg5 hz5; have HS5 := Lib.hid S5; have HB5 := Lib.hid (HG.out.bel.grown hg5 HG.out.bel.size (fun k e => by injection e with e; omega)); clear S5 hg5 hz5)
          refine ret25t rfl rfl rfl HS5.out HZL.out rfl ⟨?_, HB5.out⟩
          rw [← HT.out, HE3.out, ← HZ.out]
          rfl
        · obtain ⟨f, hf, hreq⟩ := HG.out.eq
          obtain ⟨b, l2, hbl⟩ : ∃ b l2, l' = b :: l2 := by
            cases l' with
            | nil => simp at hl0
            | cons b l2 => exact ⟨b, l2, rfl⟩
          obtain ⟨f, rfl⟩ : ∃ f', f = f' + 1 := ⟨f - 1, by omega⟩
          rw [hbl, getF, if_neg h15, ← hbl] at hreq
          have hcall := sub_any A' l' c' wr (by omega) (Nat.le_trans HG.out.lc HG.out.cm) HG.out.rd
          have hok := @subO_ok l'
          obtain ⟨⟨v, s, e⟩, hvse⟩ : ∃ r3, subO l' = r3 := ⟨_, rfl⟩
          rw [hvse] at hcall hreq hok
          simp only at hreq hok
          have HCALL := Lib.hid hcall
          obtain ⟨k, hk⟩ : ∃ k, acc.length + 1 = k := ⟨_, rfl⟩
          rw [hk] at cn
          have hb : ((k : Int) == 16) = false := by rw [beq_eq_false_iff_ne]; omega
          have hk15 : k ≤ 15 := by omega
          have HK := Lib.hid hk
          clear hcall hvse hk hbl h15 hal
          by_cases he : e = 0
          · subst he
            rw [if_neg (by simp)] at hreq
            obtain ⟨s1, s2, hv32⟩ := hok rfl
            have HREQ := Lib.hid hreq
            clear hreq hok
            go_upto_region 10 with (go_at_call 38; refine HCALL.out.mono ?_; rintro e w' ⟨rfl, rfl⟩)
            have hp := oid_a' HG.out.loc (i := k) (by rw [pad_length (by rw [List.length_cons, HK.out]; omega)]; omega)
            have hf1 := HG.out.loc.free (1 + k)
            obtain ⟨wa, hwa⟩ : ∃ wa, wr.setCell ⟨g, 1 + k, none⟩ (.int .u32 (v : Int)) = wa := ⟨_, rfl⟩
            have ha1 : Bk wa g 26 (oc k (pad (0 :: (acc ++ [v])))) := by
              have := HG.out.loc.store (1 + k) (.int .u32 (v : Int))
              rw [hwa, Nat.add_comm 1 k, oc_set, HK.out, ← show (0 :: acc).length = k from HK.out, pad_snoc _ _ (by rw [List.length_cons, HK.out]; omega)] at this
              rw [← HK.out]
              exact this
            have ha2 : Bk wa w.heap.size 26 (oc 0 zeroL) := by rw [← hwa]; exact HG.out.res.far (p := ⟨g, 1 + k, none⟩) (by simp; omega) _
            have ha3 : Below w.heap.size w wa := by rw [← hwa]; exact HG.out.bel.setCell (p := ⟨g, 1 + k, none⟩) (by show w.heap.size ≤ g; omega) _
            have ha4 : Rb wa A' l' := by rw [← hwa]; exact HG.out.rd.far (fun q hq => by have := HG.out.ap q hq; omega) _
            have HA1 := Lib.hid ha1
            have HA2 := Lib.hid ha2
            have HA3 := Lib.hid ha3
            have HA4 := Lib.hid ha4
            have HWA := Lib.hid hwa
            clear hwa ha1 ha2 ha3 ha4
            go_upto_region 11 with fail
            rw [HWA.out]
            clear cn hp hf1 HWA
            have cn := oid_n HA1.out
            have fn := HA1.out.free 0
            obtain ⟨k1, hk1⟩ : ∃ k1, k + 1 = k1 := ⟨_, rfl⟩
            have hki : (k : Int) + 1 = (k1 : Int) := by omega
            obtain ⟨wb, hwb⟩ : ∃ wb, wa.setCell ⟨g, 0, none⟩ (.int .u8 (k1 : Int)) = wb := ⟨_, rfl⟩
            have hb1 : Bk wb g 26 (oc k1 (pad (0 :: (acc ++ [v])))) := by
              have := HA1.out.store 0 (.int .u8 (k1 : Int))
              rw [hwb, oc_set0] at this
              exact this
            have hb2 : Bk wb w.heap.size 26 (oc 0 zeroL) := by rw [← hwb]; exact HA2.out.far (p := ⟨g, 0, none⟩) (by simp; omega) _
            have hb3 : Below w.heap.size w wb := by rw [← hwb]; exact HA3.out.setCell (p := ⟨g, 0, none⟩) (by show w.heap.size ≤ g; omega) _
            have hb4 : Rb wb A' l' := by rw [← hwb]; exact HA4.out.far (fun q hq => by have := HG.out.ap q hq; omega) _
            obtain ⟨A2, c2, q1, q2, hrd, hlc2, hcm2, hblk⟩ := slice_from s l'.length c' A' wb l' rfl hb4 s1 s2 HG.out.lc HG.out.cm
            have hnew : GetR w g r (acc ++ [v]) (l'.drop s) A2 c2 wb := ⟨hrd, by rw [List.length_drop]; exact hlc2, hcm2, by have := HK.out; simp; omega, fun x hx => by
                rcases List.mem_append.1 hx with hx | hx
                · exact HG.out.a32 x hx
                · obtain rfl : x = v := by simpa using hx
                  exact hv32, by rw [List.length_append, List.length_singleton, HK.out, hk1]; exact hb1, hb2, hb3, ⟨f, by rw [List.length_drop]; omega, HREQ.out⟩, fun _ => by simp, fun q hq => by
                obtain ⟨q', e1, e2⟩ := hblk q hq
                rw [e2]; exact HG.out.ap q' e1⟩
            have HNEW := Lib.hid hnew
            have HWB := Lib.hid hwb
            clear hwb hb1 hb2 hb3 hb4 hrd hlc2 hcm2 hblk hnew hk1
            go_upto_region 12 with fail
            rw [HWB.out]
            clear cn fn hki
            go_wp2
            exact ⟨⟨acc ++ [v], l'.drop s, A2, c2, by rw [List.length_drop], HNEW.out⟩, by simp; omega⟩
          · rw [if_pos he] at hreq
            have HREQ := Lib.hid hreq
            have hb2 : ((e : Int) != 0) = true := by rw [bne_iff_ne]; omega
            clear hreq hok
            go_wp2_with (first | (go_at_call 38; refine HCALL.out.mono ?_; rintro e w' ⟨rfl, rfl⟩) | (refine wpList_store25 rfl (.tmp 2) (.tmp 28) rfl rfl rfl HG.out.res (by rw [oc_length]; rfl) HZL.out ?_; intro w5 S5 hg5 hz5; have HS5 := Lib.hid S5; have HB5 := Lib.hid (HG.out.bel.grown hg5 HG.out.bel.size (fun k e => by injection e with e; omega)); clear S5 hg5 hz5))
            refine ret25t rfl rfl rfl HS5.out HZL.out rfl ⟨?_, HB5.out⟩
            rw [← HT.out, HREQ.out, ← HZ.out, if_pos he]
            rfl
end Go.Proofs.YtndamidmgglneaaDoor
