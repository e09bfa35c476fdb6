/-
  Layer 6, the statement OidsOrder: Compare is an order, and an OID below another one comes before it.
  Conditions: the package-level variables that the row lists hold what the program's text lays (the card ties them).
-/
import Derived.Test.YtndamidmgglneaaDoorOidY
import Derived.Test.YtndamidmgglneaaDoorOidAo
import Derived.Test.YtndamidmgglneaaDoorOidZ
namespace Go.Proofs.YtndamidmgglneaaDoor
open Go.RowKit

theorem rangeA {w : World} {g : Nat} {cs : List Value} (h : Bk w g 34 cs) : w.rangeAt g 0 cs := fun j v hj => by rw [Nat.zero_add, h.cell]; exact hj
theorem infoA : (Tryd.prog.info? 34).map (·.size) = some 3 := by kernel_rfl
theorem later4 {F G : Nat → Nat → Nat → World → Prop} {Q : Prop} (h1 : Hid (∀ a b c d, F a b c d → G a b c d) → Q) (h2 : ∀ a b c d, F a b c d → G a b c d) : Q := h1 (Lib.hid h2)
theorem relisted {P : Program} {md : Region.Mode} {ops : Array Oper} {Q : Exit → Act → World → Prop} {S : World → Prop} {fuel : Nat} {L1 L2 : Array Bool} {a : Act} {w : World} (h : L1 = L2)
    (H : wpAnyH P md ops Q S fuel L2 a w) : wpAnyH P md ops Q S fuel L1 a w := by rw [h]; exact H
/-- The store of a whole OID, as one step of a region that draws. -/
theorem store25_wp {o : Oper} {a : Act} {w : World} {K : Act → World → Prop} {Q : Exit → Act → World → Prop} (x v : Operand) (ho : o.op = .store 26 x v)
    {g n : Nat} {l : List Nat} {cs : List Value} (hx : a.eval x = .pointer (some ⟨g, 0, none⟩)) (hv : a.eval v = oV n l) (hg : Bk w g 26 cs) (hc : cs.length = 17) (hl : l.length = 16)
    (h : ∀ w', Bk w' g 26 (oc n l) → w.grownBy w' (some g) → w'.heap.size = w.heap.size → K (a.put o.dst undef) w') : Oper.wp Tryd.prog o a w K Q := by
  obtain ⟨W', h1, h2, h3, h4⟩ := store25 hg hc hl (n := n)
  have hK' := h W' h2 h3 h4
  unfold Oper.wp execOp
  simp only [ho, hx, hv, Instr.storeAt, Instr.sureAddr, Sem.run_bind, Sem.run_pure, Result.andThen_ok, h1]
  exact hK'

/-- Is the arc at each place below j the same, up to n? -/
def bel (n : Nat) (l : List Nat) (m : Nat) (k : List Nat) : Nat → Bool
  | 0 => decide (n < m)
  | j + 1 => bel n l m k j && (decide (n ≤ j) || decide (l.getD j 0 = k.getD j 0))
theorem bel_iff (n : Nat) (l : List Nat) (m : Nat) (k : List Nat) : ∀ j, bel n l m k j = true ↔ n < m ∧ ∀ i, i < j → i < n → l.getD i 0 = k.getD i 0
  | 0 => by simp [bel]
  | j + 1 => by
    simp only [bel, Bool.and_eq_true, bel_iff n l m k j, Bool.or_eq_true, decide_eq_true_eq]
    constructor
    · rintro ⟨⟨h1, h2⟩, h3⟩
      refine ⟨h1, fun i hi hn => ?_⟩
      rcases Nat.lt_or_ge i j with h | h
      · exact h2 i h hn
      · obtain rfl : i = j := by omega
        rcases h3 with h3 | h3
        · omega
        · exact h3
    · rintro ⟨h1, h2⟩
      refine ⟨⟨h1, fun i hi hn => h2 i (by omega) hn⟩, ?_⟩
      rcases Nat.lt_or_ge j n with h | h
      · exact .inr (h2 j (by omega) h)
      · exact .inl h
theorem take_ext {l k : List Nat} {n : Nat} (hl : l.length = k.length) : l.take n = k.take n ↔ ∀ i, i < n → i < l.length → l.getD i 0 = k.getD i 0 := by
  constructor
  · intro h i hi hl2
    have h1 : (l.take n)[i]? = (k.take n)[i]? := by rw [h]
    rw [List.getElem?_take, List.getElem?_take, if_pos hi, if_pos hi] at h1
    simp only [List.getD_eq_getElem?_getD, h1]
  · intro h
    apply List.ext_getElem?
    intro i
    rw [List.getElem?_take, List.getElem?_take]
    by_cases hi : i < n
    · rw [if_pos hi, if_pos hi]
      rcases Nat.lt_or_ge i l.length with h2 | h2
      · have := h i hi h2
        rw [List.getD_eq_getElem?_getD, List.getD_eq_getElem?_getD, List.getElem?_eq_getElem h2, List.getElem?_eq_getElem (by omega)] at this
        rw [List.getElem?_eq_getElem h2, List.getElem?_eq_getElem (by omega)]
        exact congrArg some this
      · rw [List.getElem?_eq_none h2, List.getElem?_eq_none (by omega)]
    · rw [if_neg hi, if_neg hi]
theorem bel_has {n : Nat} {l : List Nat} {m : Nat} {k : List Nat} (ho : OkO n l) (hp : OkO m k) (h1 : chkO n l = 0) (h2 : chkO m k = 0) : bel n l m k 16 = hasO n l m k := by
  obtain ⟨-, a1⟩ := chkO_n h1
  rw [Bool.eq_iff_iff, bel_iff]
  unfold hasO
  simp only [Bool.and_eq_true, decide_eq_true_eq]
  have e := take_ext (l := l) (k := k) (n := n) (by rw [ho.len, hp.len])
  rw [e]
  constructor
  · rintro ⟨h3, h4⟩
    exact ⟨⟨⟨h1, h2⟩, h3⟩, fun i hi hl => h4 i (by rw [ho.len] at hl; exact hl) hi⟩
  · rintro ⟨⟨-, h3⟩, h4⟩
    exact ⟨h3, fun i hi hn => h4 i hn (by rw [ho.len]; exact hi)⟩

set_option maxHeartbeats 8000000 in
set_option maxRecDepth 100000 in
theorem order_walk (f1 s1 : Nat) (A1 : Option Addr) (l1 : List Nat) (c1 : Nat) (f2 s2 : Nat) (A2 : Option Addr) (l2 : List Nat) (c2 : Nat) (f3 s3 : Nat) (A3 : Option Addr) (l3 : List Nat) (c3 : Nat) (w : World) (hE : Env w)
    (hf1 : f1 < 256) (hs1 : s1 < 4294967296) (hA1 : R32 w A1 l1) (h321 : ∀ y ∈ l1, y < 4294967296) (hlc1 : l1.length ≤ c1)
    (hf2 : f2 < 256) (hs2 : s2 < 4294967296) (hA2 : R32 w A2 l2) (h322 : ∀ y ∈ l2, y < 4294967296) (hlc2 : l2.length ≤ c2)
    (hf3 : f3 < 256) (hs3 : s3 < 4294967296) (hA3 : R32 w A3 l3) (h323 : ∀ y ∈ l3, y < 4294967296) (hlc3 : l3.length ≤ c3) :
    Calls Tryd.prog 4 #[.agg #[.int .u8 (f1 : Int), .int .u32 (s1 : Int), .slice A1 l1.length c1], .agg #[.int .u8 (f2 : Int), .int .u32 (s2 : Int), .slice A2 l2.length c2], .agg #[.int .u8 (f3 : Int), .int .u32 (s3 : Int), .slice A3 l3.length c3]] w fun e w' => e = .returned (.bool true) ∧ Below w.heap.size w w' := by
  have hz := zero25
  obtain ⟨zl, hzl⟩ : ∃ zl, zeroL = zl := ⟨_, rfl⟩
  have HZL : Hid (zl.length = 16) := Lib.hid (by rw [← hzl]; exact zeroL_length)
  rw [hzl] at hz
  clear hzl
  have hCA1 := fun W (hR : R32 W A1 l1) => aof_any f1 s1 A1 l1 c1 W hf1 hs1 hR hlc1
  have ho1 := aL_ok (f := f1) (s := s1) h321
  have hc1 := aL_chk f1 s1 l1
  obtain ⟨n1, hn1⟩ : ∃ n, (aL f1 s1 l1).length = n := ⟨_, rfl⟩
  obtain ⟨L1, hL1⟩ : ∃ L, pad (aL f1 s1 l1) = L := ⟨_, rfl⟩
  rw [hn1, hL1] at hCA1 ho1 hc1
  have hl1 := ho1.len
  have C1 := Lib.hid hCA1
  clear hCA1 hn1 hL1
  have hCA2 := fun W (hR : R32 W A2 l2) => aof_any f2 s2 A2 l2 c2 W hf2 hs2 hR hlc2
  have ho2 := aL_ok (f := f2) (s := s2) h322
  have hc2 := aL_chk f2 s2 l2
  obtain ⟨n2, hn2⟩ : ∃ n, (aL f2 s2 l2).length = n := ⟨_, rfl⟩
  obtain ⟨L2, hL2⟩ : ∃ L, pad (aL f2 s2 l2) = L := ⟨_, rfl⟩
  rw [hn2, hL2] at hCA2 ho2 hc2
  have hl2 := ho2.len
  have C2 := Lib.hid hCA2
  clear hCA2 hn2 hL2
  have hCA3 := fun W (hR : R32 W A3 l3) => aof_any f3 s3 A3 l3 c3 W hf3 hs3 hR hlc3
  have ho3 := aL_ok (f := f3) (s := s3) h323
  have hc3 := aL_chk f3 s3 l3
  obtain ⟨n3, hn3⟩ : ∃ n, (aL f3 s3 l3).length = n := ⟨_, rfl⟩
  obtain ⟨L3, hL3⟩ : ∃ L, pad (aL f3 s3 l3) = L := ⟨_, rfl⟩
  rw [hn3, hL3] at hCA3 ho3 hc3
  have hl3 := ho3.len
  have C3 := Lib.hid hCA3
  clear hCA3 hn3 hL3
  have X0 : Hid (Bk (((w.alloc (.cells #[.int .u8 (f1 : Int), .int .u32 (s1 : Int), .slice A1 l1.length c1] 34)).alloc (.cells #[.int .u8 (f2 : Int), .int .u32 (s2 : Int), .slice A2 l2.length c2] 34)).alloc (.cells #[.int .u8 (f3 : Int), .int .u32 (s3 : Int), .slice A3 l3.length c3] 34)) w.heap.size 34 [.int .u8 (f1 : Int), .int .u32 (s1 : Int), .slice A1 l1.length c1]) := Lib.hid (((Bk.new w 34 [.int .u8 (f1 : Int), .int .u32 (s1 : Int), .slice A1 l1.length c1]).alloc _).alloc _)
  have X1 : Hid (Bk (((w.alloc (.cells #[.int .u8 (f1 : Int), .int .u32 (s1 : Int), .slice A1 l1.length c1] 34)).alloc (.cells #[.int .u8 (f2 : Int), .int .u32 (s2 : Int), .slice A2 l2.length c2] 34)).alloc (.cells #[.int .u8 (f3 : Int), .int .u32 (s3 : Int), .slice A3 l3.length c3] 34)) (w.heap.size + 1) 34 [.int .u8 (f2 : Int), .int .u32 (s2 : Int), .slice A2 l2.length c2]) := Lib.hid (by
    have := (Bk.new (w.alloc (.cells #[.int .u8 (f1 : Int), .int .u32 (s1 : Int), .slice A1 l1.length c1] 34)) 34 [.int .u8 (f2 : Int), .int .u32 (s2 : Int), .slice A2 l2.length c2]).alloc (.cells #[.int .u8 (f3 : Int), .int .u32 (s3 : Int), .slice A3 l3.length c3] 34)
    rwa [World.size_alloc] at this)
  have X2 : Hid (Bk (((w.alloc (.cells #[.int .u8 (f1 : Int), .int .u32 (s1 : Int), .slice A1 l1.length c1] 34)).alloc (.cells #[.int .u8 (f2 : Int), .int .u32 (s2 : Int), .slice A2 l2.length c2] 34)).alloc (.cells #[.int .u8 (f3 : Int), .int .u32 (s3 : Int), .slice A3 l3.length c3] 34)) (w.heap.size + 2) 34 [.int .u8 (f3 : Int), .int .u32 (s3 : Int), .slice A3 l3.length c3]) := Lib.hid (by
    have := Bk.new ((w.alloc (.cells #[.int .u8 (f1 : Int), .int .u32 (s1 : Int), .slice A1 l1.length c1] 34)).alloc (.cells #[.int .u8 (f2 : Int), .int .u32 (s2 : Int), .slice A2 l2.length c2] 34)) 34 [.int .u8 (f3 : Int), .int .u32 (s3 : Int), .slice A3 l3.length c3]
    rwa [World.size_alloc, World.size_alloc] at this)
  have B0 : Hid (Below w.heap.size w (((w.alloc (.cells #[.int .u8 (f1 : Int), .int .u32 (s1 : Int), .slice A1 l1.length c1] 34)).alloc (.cells #[.int .u8 (f2 : Int), .int .u32 (s2 : Int), .slice A2 l2.length c2] 34)).alloc (.cells #[.int .u8 (f3 : Int), .int .u32 (s3 : Int), .slice A3 l3.length c3] 34))) := Lib.hid (((bel1 w (.cells #[.int .u8 (f1 : Int), .int .u32 (s1 : Int), .slice A1 l1.length c1] 34)).alloc (by simp) (.cells #[.int .u8 (f2 : Int), .int .u32 (s2 : Int), .slice A2 l2.length c2] 34)).alloc (by simp; omega) (.cells #[.int .u8 (f3 : Int), .int .u32 (s3 : Int), .slice A3 l3.length c3] 34))
  have E0 := Lib.hid hE
  have R1 := Lib.hid hA1
  have R2 := Lib.hid hA2
  have R3 := Lib.hid hA3
  clear hE hA1 hA2 hA3 h321 h322 h323 hlc1 hlc2 hlc3 hf1 hf2 hf3 hs1 hs2 hs3
  go_enter Tryd.func4, Tryd.ntmps4
  go_upto_region 1 with fail
  generalize ((w.alloc (.cells #[.int .u8 (f1 : Int), .int .u32 (s1 : Int), .slice A1 l1.length c1] 34)).alloc (.cells #[.int .u8 (f2 : Int), .int .u32 (s2 : Int), .slice A2 l2.length c2] 34)).alloc (.cells #[.int .u8 (f3 : Int), .int .u32 (s3 : Int), .slice A3 l3.length c3] 34) = w1 at *
  refine wp_region_held_drew (S := fun W => Bk W w.heap.size 34 [.int .u8 (f1 : Int), .int .u32 (s1 : Int), .slice A1 l1.length c1] ∧ Bk W (w.heap.size + 1) 34 [.int .u8 (f2 : Int), .int .u32 (s2 : Int), .slice A2 l2.length c2] ∧ Bk W (w.heap.size + 2) 34 [.int .u8 (f3 : Int), .int .u32 (s3 : Int), .slice A3 l3.length c3]) (by kernel_rfl) (⟨X0.out, X1.out, X2.out⟩) (fun hS => ?_)
  have hdr : Hid (Below w1.heap.size w1 w1.drew) := Lib.hid ⟨rfl, rfl, rfl, Nat.le_refl _, fun _ _ => rfl⟩
  have B := bt B0 hdr
  have S1 := kt X0 hdr
  have S2 := kt X1 hdr
  have S3 := kt X2 hdr
  clear hdr B0 X0 X1 X2
  generalize w1.drew = W at *
  refine wpAnyH_take (i := 0) (oi := ⟨some 12, _, _, _, _, _⟩) (v := .agg #[.int .u8 (f1 : Int), .int .u32 (s1 : Int), .slice A1 l1.length c1]) rfl (by kernel_rfl) (by kernel_rfl) (by kernel_rfl) (fun _ _ _ h => h) (yieldsIf_load_mid (by rfl) 34 (.tmp 3) rfl (w.heap.size) 0 rfl [.int .u8 (f1 : Int), .int .u32 (s1 : Int), .slice A1 l1.length c1] _ (fun W h => rangeA h.1) Tryd.underlying34 rfl infoA) hS ?_
  simp only [Act.put, List.setIfInBounds_toArray, List.set_cons_zero, List.set_cons_succ]
  refine wpAnyH_take (i := 2) (oi := ⟨some 14, _, _, _, _, _⟩) (v := .agg #[.int .u8 (f2 : Int), .int .u32 (s2 : Int), .slice A2 l2.length c2]) rfl (by kernel_rfl) (by kernel_rfl) (by kernel_rfl) (fun _ _ _ h => h) (yieldsIf_load_mid (by rfl) 34 (.tmp 4) rfl ((w.heap.size + 1)) 0 rfl [.int .u8 (f2 : Int), .int .u32 (s2 : Int), .slice A2 l2.length c2] _ (fun W h => rangeA h.2.1) Tryd.underlying34 rfl infoA) hS ?_
  simp only [Act.put, List.setIfInBounds_toArray, List.set_cons_zero, List.set_cons_succ]
  refine wpAnyH_take (i := 4) (oi := ⟨some 16, _, _, _, _, _⟩) (v := .agg #[.int .u8 (f3 : Int), .int .u32 (s3 : Int), .slice A3 l3.length c3]) rfl (by kernel_rfl) (by kernel_rfl) (by kernel_rfl) (fun _ _ _ h => h) (yieldsIf_load_mid (by rfl) 34 (.tmp 5) rfl ((w.heap.size + 2)) 0 rfl [.int .u8 (f3 : Int), .int .u32 (s3 : Int), .slice A3 l3.length c3] _ (fun W h => rangeA h.2.2) Tryd.underlying34 rfl infoA) hS ?_
  simp only [Act.put, List.setIfInBounds_toArray, List.set_cons_zero, List.set_cons_succ]
  apply later4 (F := fun (b6 b7 b8 : Nat) (W : World) => Hid (Below w.heap.size w W) ∧ Hid (Bk W w.heap.size 34 [.int .u8 (f1 : Int), .int .u32 (s1 : Int), .slice A1 l1.length c1]) ∧ Hid (Bk W (w.heap.size + 1) 34 [.int .u8 (f2 : Int), .int .u32 (s2 : Int), .slice A2 l2.length c2]) ∧ Hid (Bk W (w.heap.size + 2) 34 [.int .u8 (f3 : Int), .int .u32 (s3 : Int), .slice A3 l3.length c3]) ∧ Hid (Bk W b6 26 (oc 0 zl)) ∧ Hid (w.heap.size + 2 < b6) ∧ Hid (Bk W b7 26 (oc 0 zl)) ∧ Hid (w.heap.size + 2 < b7) ∧ Hid (Bk W b8 26 (oc 0 zl)) ∧ Hid (w.heap.size + 2 < b8) ∧ Hid (b6 ≠ b7) ∧ Hid (b6 ≠ b8) ∧ Hid (b7 ≠ b8))
  intro R3_678
  apply later4 (F := fun (b6 b7 b8 : Nat) (W : World) => Hid (Below w.heap.size w W) ∧ Hid (Bk W w.heap.size 34 [.int .u8 (f1 : Int), .int .u32 (s1 : Int), .slice A1 l1.length c1]) ∧ Hid (Bk W (w.heap.size + 1) 34 [.int .u8 (f2 : Int), .int .u32 (s2 : Int), .slice A2 l2.length c2]) ∧ Hid (Bk W (w.heap.size + 2) 34 [.int .u8 (f3 : Int), .int .u32 (s3 : Int), .slice A3 l3.length c3]) ∧ Hid (Bk W b7 26 (oc 0 zl)) ∧ Hid (w.heap.size + 2 < b7) ∧ Hid (Bk W b8 26 (oc 0 zl)) ∧ Hid (w.heap.size + 2 < b8) ∧ Hid (b7 ≠ b8))
  intro R3_78
  apply later4 (F := fun (b6 b7 b8 : Nat) (W : World) => Hid (Below w.heap.size w W) ∧ Hid (Bk W w.heap.size 34 [.int .u8 (f1 : Int), .int .u32 (s1 : Int), .slice A1 l1.length c1]) ∧ Hid (Bk W (w.heap.size + 1) 34 [.int .u8 (f2 : Int), .int .u32 (s2 : Int), .slice A2 l2.length c2]) ∧ Hid (Bk W (w.heap.size + 2) 34 [.int .u8 (f3 : Int), .int .u32 (s3 : Int), .slice A3 l3.length c3]) ∧ Hid (Bk W b6 26 (oc 0 zl)) ∧ Hid (w.heap.size + 2 < b6) ∧ Hid (Bk W b8 26 (oc 0 zl)) ∧ Hid (w.heap.size + 2 < b8) ∧ Hid (b6 ≠ b8))
  intro R3_68
  apply later4 (F := fun (b6 b7 b8 : Nat) (W : World) => Hid (Below w.heap.size w W) ∧ Hid (Bk W w.heap.size 34 [.int .u8 (f1 : Int), .int .u32 (s1 : Int), .slice A1 l1.length c1]) ∧ Hid (Bk W (w.heap.size + 1) 34 [.int .u8 (f2 : Int), .int .u32 (s2 : Int), .slice A2 l2.length c2]) ∧ Hid (Bk W (w.heap.size + 2) 34 [.int .u8 (f3 : Int), .int .u32 (s3 : Int), .slice A3 l3.length c3]) ∧ Hid (Bk W b6 26 (oc 0 zl)) ∧ Hid (w.heap.size + 2 < b6) ∧ Hid (Bk W b7 26 (oc 0 zl)) ∧ Hid (w.heap.size + 2 < b7) ∧ Hid (b6 ≠ b7))
  intro R3_67
  apply later4 (F := fun (b6 b7 b8 : Nat) (W : World) => Hid (Below w.heap.size w W) ∧ Hid (Bk W w.heap.size 34 [.int .u8 (f1 : Int), .int .u32 (s1 : Int), .slice A1 l1.length c1]) ∧ Hid (Bk W (w.heap.size + 1) 34 [.int .u8 (f2 : Int), .int .u32 (s2 : Int), .slice A2 l2.length c2]) ∧ Hid (Bk W (w.heap.size + 2) 34 [.int .u8 (f3 : Int), .int .u32 (s3 : Int), .slice A3 l3.length c3]) ∧ Hid (Bk W b6 26 (oc 0 zl)) ∧ Hid (w.heap.size + 2 < b6) ∧ Hid (Bk W b7 26 (oc 0 zl)) ∧ Hid (w.heap.size + 2 < b7) ∧ Hid (Bk W b8 26 (oc 0 zl)) ∧ Hid (w.heap.size + 2 < b8) ∧ Hid (b6 ≠ b7) ∧ Hid (b6 ≠ b8) ∧ Hid (b7 ≠ b8))
  intro R2_678
  apply later4 (F := fun (b6 b7 b8 : Nat) (W : World) => Hid (Below w.heap.size w W) ∧ Hid (Bk W w.heap.size 34 [.int .u8 (f1 : Int), .int .u32 (s1 : Int), .slice A1 l1.length c1]) ∧ Hid (Bk W (w.heap.size + 1) 34 [.int .u8 (f2 : Int), .int .u32 (s2 : Int), .slice A2 l2.length c2]) ∧ Hid (Bk W (w.heap.size + 2) 34 [.int .u8 (f3 : Int), .int .u32 (s3 : Int), .slice A3 l3.length c3]) ∧ Hid (Bk W b8 26 (oc 0 zl)) ∧ Hid (w.heap.size + 2 < b8))
  intro R3_8
  apply later4 (F := fun (b6 b7 b8 : Nat) (W : World) => Hid (Below w.heap.size w W) ∧ Hid (Bk W w.heap.size 34 [.int .u8 (f1 : Int), .int .u32 (s1 : Int), .slice A1 l1.length c1]) ∧ Hid (Bk W (w.heap.size + 1) 34 [.int .u8 (f2 : Int), .int .u32 (s2 : Int), .slice A2 l2.length c2]) ∧ Hid (Bk W (w.heap.size + 2) 34 [.int .u8 (f3 : Int), .int .u32 (s3 : Int), .slice A3 l3.length c3]) ∧ Hid (Bk W b7 26 (oc 0 zl)) ∧ Hid (w.heap.size + 2 < b7))
  intro R3_7
  apply later4 (F := fun (b6 b7 b8 : Nat) (W : World) => Hid (Below w.heap.size w W) ∧ Hid (Bk W w.heap.size 34 [.int .u8 (f1 : Int), .int .u32 (s1 : Int), .slice A1 l1.length c1]) ∧ Hid (Bk W (w.heap.size + 1) 34 [.int .u8 (f2 : Int), .int .u32 (s2 : Int), .slice A2 l2.length c2]) ∧ Hid (Bk W (w.heap.size + 2) 34 [.int .u8 (f3 : Int), .int .u32 (s3 : Int), .slice A3 l3.length c3]) ∧ Hid (Bk W b6 26 (oc 0 zl)) ∧ Hid (w.heap.size + 2 < b6))
  intro R3_6
  apply later4 (F := fun (b6 b7 b8 : Nat) (W : World) => Hid (Below w.heap.size w W) ∧ Hid (Bk W w.heap.size 34 [.int .u8 (f1 : Int), .int .u32 (s1 : Int), .slice A1 l1.length c1]) ∧ Hid (Bk W (w.heap.size + 1) 34 [.int .u8 (f2 : Int), .int .u32 (s2 : Int), .slice A2 l2.length c2]) ∧ Hid (Bk W (w.heap.size + 2) 34 [.int .u8 (f3 : Int), .int .u32 (s3 : Int), .slice A3 l3.length c3]) ∧ Hid (Bk W b7 26 (oc 0 zl)) ∧ Hid (w.heap.size + 2 < b7) ∧ Hid (Bk W b8 26 (oc 0 zl)) ∧ Hid (w.heap.size + 2 < b8) ∧ Hid (b7 ≠ b8))
  intro R2_78
  apply later4 (F := fun (b6 b7 b8 : Nat) (W : World) => Hid (Below w.heap.size w W) ∧ Hid (Bk W w.heap.size 34 [.int .u8 (f1 : Int), .int .u32 (s1 : Int), .slice A1 l1.length c1]) ∧ Hid (Bk W (w.heap.size + 1) 34 [.int .u8 (f2 : Int), .int .u32 (s2 : Int), .slice A2 l2.length c2]) ∧ Hid (Bk W (w.heap.size + 2) 34 [.int .u8 (f3 : Int), .int .u32 (s3 : Int), .slice A3 l3.length c3]) ∧ Hid (Bk W b6 26 (oc 0 zl)) ∧ Hid (w.heap.size + 2 < b6) ∧ Hid (Bk W b8 26 (oc 0 zl)) ∧ Hid (w.heap.size + 2 < b8) ∧ Hid (b6 ≠ b8))
  intro R2_68
  apply later4 (F := fun (b6 b7 b8 : Nat) (W : World) => Hid (Below w.heap.size w W) ∧ Hid (Bk W w.heap.size 34 [.int .u8 (f1 : Int), .int .u32 (s1 : Int), .slice A1 l1.length c1]) ∧ Hid (Bk W (w.heap.size + 1) 34 [.int .u8 (f2 : Int), .int .u32 (s2 : Int), .slice A2 l2.length c2]) ∧ Hid (Bk W (w.heap.size + 2) 34 [.int .u8 (f3 : Int), .int .u32 (s3 : Int), .slice A3 l3.length c3]) ∧ Hid (Bk W b6 26 (oc 0 zl)) ∧ Hid (w.heap.size + 2 < b6) ∧ Hid (Bk W b7 26 (oc 0 zl)) ∧ Hid (w.heap.size + 2 < b7) ∧ Hid (b6 ≠ b7))
  intro R2_67
  apply later4 (F := fun (b6 b7 b8 : Nat) (W : World) => Hid (Below w.heap.size w W) ∧ Hid (Bk W w.heap.size 34 [.int .u8 (f1 : Int), .int .u32 (s1 : Int), .slice A1 l1.length c1]) ∧ Hid (Bk W (w.heap.size + 1) 34 [.int .u8 (f2 : Int), .int .u32 (s2 : Int), .slice A2 l2.length c2]) ∧ Hid (Bk W (w.heap.size + 2) 34 [.int .u8 (f3 : Int), .int .u32 (s3 : Int), .slice A3 l3.length c3]) ∧ Hid (Bk W b6 26 (oc 0 zl)) ∧ Hid (w.heap.size + 2 < b6) ∧ Hid (Bk W b7 26 (oc 0 zl)) ∧ Hid (w.heap.size + 2 < b7) ∧ Hid (Bk W b8 26 (oc 0 zl)) ∧ Hid (w.heap.size + 2 < b8) ∧ Hid (b6 ≠ b7) ∧ Hid (b6 ≠ b8) ∧ Hid (b7 ≠ b8))
  intro R1_678
  apply later4 (F := fun (b6 b7 b8 : Nat) (W : World) => Hid (Below w.heap.size w W) ∧ Hid (Bk W w.heap.size 34 [.int .u8 (f1 : Int), .int .u32 (s1 : Int), .slice A1 l1.length c1]) ∧ Hid (Bk W (w.heap.size + 1) 34 [.int .u8 (f2 : Int), .int .u32 (s2 : Int), .slice A2 l2.length c2]) ∧ Hid (Bk W (w.heap.size + 2) 34 [.int .u8 (f3 : Int), .int .u32 (s3 : Int), .slice A3 l3.length c3]))
  intro R3_
  apply later4 (F := fun (b6 b7 b8 : Nat) (W : World) => Hid (Below w.heap.size w W) ∧ Hid (Bk W w.heap.size 34 [.int .u8 (f1 : Int), .int .u32 (s1 : Int), .slice A1 l1.length c1]) ∧ Hid (Bk W (w.heap.size + 1) 34 [.int .u8 (f2 : Int), .int .u32 (s2 : Int), .slice A2 l2.length c2]) ∧ Hid (Bk W (w.heap.size + 2) 34 [.int .u8 (f3 : Int), .int .u32 (s3 : Int), .slice A3 l3.length c3]) ∧ Hid (Bk W b8 26 (oc 0 zl)) ∧ Hid (w.heap.size + 2 < b8))
  intro R2_8
  apply later4 (F := fun (b6 b7 b8 : Nat) (W : World) => Hid (Below w.heap.size w W) ∧ Hid (Bk W w.heap.size 34 [.int .u8 (f1 : Int), .int .u32 (s1 : Int), .slice A1 l1.length c1]) ∧ Hid (Bk W (w.heap.size + 1) 34 [.int .u8 (f2 : Int), .int .u32 (s2 : Int), .slice A2 l2.length c2]) ∧ Hid (Bk W (w.heap.size + 2) 34 [.int .u8 (f3 : Int), .int .u32 (s3 : Int), .slice A3 l3.length c3]) ∧ Hid (Bk W b7 26 (oc 0 zl)) ∧ Hid (w.heap.size + 2 < b7))
  intro R2_7
  apply later4 (F := fun (b6 b7 b8 : Nat) (W : World) => Hid (Below w.heap.size w W) ∧ Hid (Bk W w.heap.size 34 [.int .u8 (f1 : Int), .int .u32 (s1 : Int), .slice A1 l1.length c1]) ∧ Hid (Bk W (w.heap.size + 1) 34 [.int .u8 (f2 : Int), .int .u32 (s2 : Int), .slice A2 l2.length c2]) ∧ Hid (Bk W (w.heap.size + 2) 34 [.int .u8 (f3 : Int), .int .u32 (s3 : Int), .slice A3 l3.length c3]) ∧ Hid (Bk W b6 26 (oc 0 zl)) ∧ Hid (w.heap.size + 2 < b6))
  intro R2_6
  apply later4 (F := fun (b6 b7 b8 : Nat) (W : World) => Hid (Below w.heap.size w W) ∧ Hid (Bk W w.heap.size 34 [.int .u8 (f1 : Int), .int .u32 (s1 : Int), .slice A1 l1.length c1]) ∧ Hid (Bk W (w.heap.size + 1) 34 [.int .u8 (f2 : Int), .int .u32 (s2 : Int), .slice A2 l2.length c2]) ∧ Hid (Bk W (w.heap.size + 2) 34 [.int .u8 (f3 : Int), .int .u32 (s3 : Int), .slice A3 l3.length c3]) ∧ Hid (Bk W b7 26 (oc 0 zl)) ∧ Hid (w.heap.size + 2 < b7) ∧ Hid (Bk W b8 26 (oc 0 zl)) ∧ Hid (w.heap.size + 2 < b8) ∧ Hid (b7 ≠ b8))
  intro R1_78
  apply later4 (F := fun (b6 b7 b8 : Nat) (W : World) => Hid (Below w.heap.size w W) ∧ Hid (Bk W w.heap.size 34 [.int .u8 (f1 : Int), .int .u32 (s1 : Int), .slice A1 l1.length c1]) ∧ Hid (Bk W (w.heap.size + 1) 34 [.int .u8 (f2 : Int), .int .u32 (s2 : Int), .slice A2 l2.length c2]) ∧ Hid (Bk W (w.heap.size + 2) 34 [.int .u8 (f3 : Int), .int .u32 (s3 : Int), .slice A3 l3.length c3]) ∧ Hid (Bk W b6 26 (oc 0 zl)) ∧ Hid (w.heap.size + 2 < b6) ∧ Hid (Bk W b8 26 (oc 0 zl)) ∧ Hid (w.heap.size + 2 < b8) ∧ Hid (b6 ≠ b8))
  intro R1_68
  apply later4 (F := fun (b6 b7 b8 : Nat) (W : World) => Hid (Below w.heap.size w W) ∧ Hid (Bk W w.heap.size 34 [.int .u8 (f1 : Int), .int .u32 (s1 : Int), .slice A1 l1.length c1]) ∧ Hid (Bk W (w.heap.size + 1) 34 [.int .u8 (f2 : Int), .int .u32 (s2 : Int), .slice A2 l2.length c2]) ∧ Hid (Bk W (w.heap.size + 2) 34 [.int .u8 (f3 : Int), .int .u32 (s3 : Int), .slice A3 l3.length c3]) ∧ Hid (Bk W b6 26 (oc 0 zl)) ∧ Hid (w.heap.size + 2 < b6) ∧ Hid (Bk W b7 26 (oc 0 zl)) ∧ Hid (w.heap.size + 2 < b7) ∧ Hid (b6 ≠ b7))
  intro R1_67
  apply later4 (F := fun (b6 b7 b8 : Nat) (W : World) => Hid (Below w.heap.size w W) ∧ Hid (Bk W w.heap.size 34 [.int .u8 (f1 : Int), .int .u32 (s1 : Int), .slice A1 l1.length c1]) ∧ Hid (Bk W (w.heap.size + 1) 34 [.int .u8 (f2 : Int), .int .u32 (s2 : Int), .slice A2 l2.length c2]) ∧ Hid (Bk W (w.heap.size + 2) 34 [.int .u8 (f3 : Int), .int .u32 (s3 : Int), .slice A3 l3.length c3]) ∧ Hid (Bk W b6 26 (oc 0 zl)) ∧ Hid (w.heap.size + 2 < b6) ∧ Hid (Bk W b7 26 (oc 0 zl)) ∧ Hid (w.heap.size + 2 < b7) ∧ Hid (Bk W b8 26 (oc 0 zl)) ∧ Hid (w.heap.size + 2 < b8) ∧ Hid (b6 ≠ b7) ∧ Hid (b6 ≠ b8) ∧ Hid (b7 ≠ b8))
  intro R0_678
  apply later4 (F := fun (b6 b7 b8 : Nat) (W : World) => Hid (Below w.heap.size w W) ∧ Hid (Bk W w.heap.size 34 [.int .u8 (f1 : Int), .int .u32 (s1 : Int), .slice A1 l1.length c1]) ∧ Hid (Bk W (w.heap.size + 1) 34 [.int .u8 (f2 : Int), .int .u32 (s2 : Int), .slice A2 l2.length c2]) ∧ Hid (Bk W (w.heap.size + 2) 34 [.int .u8 (f3 : Int), .int .u32 (s3 : Int), .slice A3 l3.length c3]))
  intro R2_
  apply later4 (F := fun (b6 b7 b8 : Nat) (W : World) => Hid (Below w.heap.size w W) ∧ Hid (Bk W w.heap.size 34 [.int .u8 (f1 : Int), .int .u32 (s1 : Int), .slice A1 l1.length c1]) ∧ Hid (Bk W (w.heap.size + 1) 34 [.int .u8 (f2 : Int), .int .u32 (s2 : Int), .slice A2 l2.length c2]) ∧ Hid (Bk W (w.heap.size + 2) 34 [.int .u8 (f3 : Int), .int .u32 (s3 : Int), .slice A3 l3.length c3]) ∧ Hid (Bk W b8 26 (oc 0 zl)) ∧ Hid (w.heap.size + 2 < b8))
  intro R1_8
  apply later4 (F := fun (b6 b7 b8 : Nat) (W : World) => Hid (Below w.heap.size w W) ∧ Hid (Bk W w.heap.size 34 [.int .u8 (f1 : Int), .int .u32 (s1 : Int), .slice A1 l1.length c1]) ∧ Hid (Bk W (w.heap.size + 1) 34 [.int .u8 (f2 : Int), .int .u32 (s2 : Int), .slice A2 l2.length c2]) ∧ Hid (Bk W (w.heap.size + 2) 34 [.int .u8 (f3 : Int), .int .u32 (s3 : Int), .slice A3 l3.length c3]) ∧ Hid (Bk W b7 26 (oc 0 zl)) ∧ Hid (w.heap.size + 2 < b7))
  intro R1_7
  apply later4 (F := fun (b6 b7 b8 : Nat) (W : World) => Hid (Below w.heap.size w W) ∧ Hid (Bk W w.heap.size 34 [.int .u8 (f1 : Int), .int .u32 (s1 : Int), .slice A1 l1.length c1]) ∧ Hid (Bk W (w.heap.size + 1) 34 [.int .u8 (f2 : Int), .int .u32 (s2 : Int), .slice A2 l2.length c2]) ∧ Hid (Bk W (w.heap.size + 2) 34 [.int .u8 (f3 : Int), .int .u32 (s3 : Int), .slice A3 l3.length c3]) ∧ Hid (Bk W b6 26 (oc 0 zl)) ∧ Hid (w.heap.size + 2 < b6))
  intro R1_6
  apply later4 (F := fun (b6 b7 b8 : Nat) (W : World) => Hid (Below w.heap.size w W) ∧ Hid (Bk W w.heap.size 34 [.int .u8 (f1 : Int), .int .u32 (s1 : Int), .slice A1 l1.length c1]) ∧ Hid (Bk W (w.heap.size + 1) 34 [.int .u8 (f2 : Int), .int .u32 (s2 : Int), .slice A2 l2.length c2]) ∧ Hid (Bk W (w.heap.size + 2) 34 [.int .u8 (f3 : Int), .int .u32 (s3 : Int), .slice A3 l3.length c3]) ∧ Hid (Bk W b7 26 (oc 0 zl)) ∧ Hid (w.heap.size + 2 < b7) ∧ Hid (Bk W b8 26 (oc 0 zl)) ∧ Hid (w.heap.size + 2 < b8) ∧ Hid (b7 ≠ b8))
  intro R0_78
  apply later4 (F := fun (b6 b7 b8 : Nat) (W : World) => Hid (Below w.heap.size w W) ∧ Hid (Bk W w.heap.size 34 [.int .u8 (f1 : Int), .int .u32 (s1 : Int), .slice A1 l1.length c1]) ∧ Hid (Bk W (w.heap.size + 1) 34 [.int .u8 (f2 : Int), .int .u32 (s2 : Int), .slice A2 l2.length c2]) ∧ Hid (Bk W (w.heap.size + 2) 34 [.int .u8 (f3 : Int), .int .u32 (s3 : Int), .slice A3 l3.length c3]) ∧ Hid (Bk W b6 26 (oc 0 zl)) ∧ Hid (w.heap.size + 2 < b6) ∧ Hid (Bk W b8 26 (oc 0 zl)) ∧ Hid (w.heap.size + 2 < b8) ∧ Hid (b6 ≠ b8))
  intro R0_68
  apply later4 (F := fun (b6 b7 b8 : Nat) (W : World) => Hid (Below w.heap.size w W) ∧ Hid (Bk W w.heap.size 34 [.int .u8 (f1 : Int), .int .u32 (s1 : Int), .slice A1 l1.length c1]) ∧ Hid (Bk W (w.heap.size + 1) 34 [.int .u8 (f2 : Int), .int .u32 (s2 : Int), .slice A2 l2.length c2]) ∧ Hid (Bk W (w.heap.size + 2) 34 [.int .u8 (f3 : Int), .int .u32 (s3 : Int), .slice A3 l3.length c3]) ∧ Hid (Bk W b6 26 (oc 0 zl)) ∧ Hid (w.heap.size + 2 < b6) ∧ Hid (Bk W b7 26 (oc 0 zl)) ∧ Hid (w.heap.size + 2 < b7) ∧ Hid (b6 ≠ b7))
  intro R0_67
  apply later4 (F := fun (b6 b7 b8 : Nat) (W : World) => Hid (Below w.heap.size w W) ∧ Hid (Bk W w.heap.size 34 [.int .u8 (f1 : Int), .int .u32 (s1 : Int), .slice A1 l1.length c1]) ∧ Hid (Bk W (w.heap.size + 1) 34 [.int .u8 (f2 : Int), .int .u32 (s2 : Int), .slice A2 l2.length c2]) ∧ Hid (Bk W (w.heap.size + 2) 34 [.int .u8 (f3 : Int), .int .u32 (s3 : Int), .slice A3 l3.length c3]))
  intro R1_
  apply later4 (F := fun (b6 b7 b8 : Nat) (W : World) => Hid (Below w.heap.size w W) ∧ Hid (Bk W w.heap.size 34 [.int .u8 (f1 : Int), .int .u32 (s1 : Int), .slice A1 l1.length c1]) ∧ Hid (Bk W (w.heap.size + 1) 34 [.int .u8 (f2 : Int), .int .u32 (s2 : Int), .slice A2 l2.length c2]) ∧ Hid (Bk W (w.heap.size + 2) 34 [.int .u8 (f3 : Int), .int .u32 (s3 : Int), .slice A3 l3.length c3]) ∧ Hid (Bk W b8 26 (oc 0 zl)) ∧ Hid (w.heap.size + 2 < b8))
  intro R0_8
  apply later4 (F := fun (b6 b7 b8 : Nat) (W : World) => Hid (Below w.heap.size w W) ∧ Hid (Bk W w.heap.size 34 [.int .u8 (f1 : Int), .int .u32 (s1 : Int), .slice A1 l1.length c1]) ∧ Hid (Bk W (w.heap.size + 1) 34 [.int .u8 (f2 : Int), .int .u32 (s2 : Int), .slice A2 l2.length c2]) ∧ Hid (Bk W (w.heap.size + 2) 34 [.int .u8 (f3 : Int), .int .u32 (s3 : Int), .slice A3 l3.length c3]) ∧ Hid (Bk W b7 26 (oc 0 zl)) ∧ Hid (w.heap.size + 2 < b7))
  intro R0_7
  apply later4 (F := fun (b6 b7 b8 : Nat) (W : World) => Hid (Below w.heap.size w W) ∧ Hid (Bk W w.heap.size 34 [.int .u8 (f1 : Int), .int .u32 (s1 : Int), .slice A1 l1.length c1]) ∧ Hid (Bk W (w.heap.size + 1) 34 [.int .u8 (f2 : Int), .int .u32 (s2 : Int), .slice A2 l2.length c2]) ∧ Hid (Bk W (w.heap.size + 2) 34 [.int .u8 (f3 : Int), .int .u32 (s3 : Int), .slice A3 l3.length c3]) ∧ Hid (Bk W b6 26 (oc 0 zl)) ∧ Hid (w.heap.size + 2 < b6))
  intro R0_6
  obtain ⟨b6, -⟩ : ∃ z : Nat, z = 0 := ⟨0, rfl⟩
  obtain ⟨b7, -⟩ : ∃ z : Nat, z = 0 := ⟨0, rfl⟩
  obtain ⟨b8, -⟩ : ∃ z : Nat, z = 0 := ⟨0, rfl⟩
  refine wpAnyH_ready (rs := [1, 6, 7, 8]) (by kernel_rfl) (by simp) ?_
  refine AllReadyH.cons (o := _) rfl (fun K hK => ?_) (AllReadyH.cons (o := _) rfl (fun K hK => ?_) (AllReadyH.cons (o := _) rfl (fun K hK => ?_) (AllReadyH.cons (o := _) rfl (fun K hK => ?_) (AllReadyH.nil))))
  · go_simp
    refine (C1.out _ (R1.out.below B.out)).mono ?_
    rintro e W1 ⟨rfl, hb⟩
    have hbh := Lib.hid hb
    clear hb
    have B1 := bt B hbh
    have T1 := kt S1 hbh
    have T2 := kt S2 hbh
    have T3 := kt S3 hbh
    refine hK.out _ _ (⟨T1.out, T2.out, T3.out⟩) (fun hS => ?_)
    clear hK K
    (try simp only [Act.put, List.setIfInBounds_toArray, List.set_cons_zero, List.set_cons_succ])
    exact R1_.out b6 b7 b8 W1 ⟨B1, T1, T2, T3⟩
  · go_simp
    refine hK.out _ _ (⟨S1.out.alloc _, S2.out.alloc _, S3.out.alloc _⟩) (fun hS => ?_)
    clear hK K
    (try simp only [Act.put, List.setIfInBounds_toArray, List.set_cons_zero, List.set_cons_succ])
    have hbh : Hid (Below W.heap.size W (W.alloc (.cells (oc 0 zl).toArray 26))) := Lib.hid (bel1 W _)
    have B1 := bt B hbh
    have T1 := kt S1 hbh
    have T2 := kt S2 hbh
    have T3 := kt S3 hbh
    have J6 := Lib.hid (Bk.new W 26 (oc 0 zl))
    have H6 := Lib.hid S3.out.lt
    clear b6
    generalize W.alloc (.cells (oc 0 zl).toArray 26) = W1 at B1 T1 T2 T3 J6 ⊢
    generalize W.heap.size = b6 at J6 H6  ⊢
    exact R0_6.out b6 b7 b8 W1 ⟨B1, T1, T2, T3, J6, H6⟩
  · go_simp
    refine hK.out _ _ (⟨S1.out.alloc _, S2.out.alloc _, S3.out.alloc _⟩) (fun hS => ?_)
    clear hK K
    (try simp only [Act.put, List.setIfInBounds_toArray, List.set_cons_zero, List.set_cons_succ])
    have hbh : Hid (Below W.heap.size W (W.alloc (.cells (oc 0 zl).toArray 26))) := Lib.hid (bel1 W _)
    have B1 := bt B hbh
    have T1 := kt S1 hbh
    have T2 := kt S2 hbh
    have T3 := kt S3 hbh
    have J7 := Lib.hid (Bk.new W 26 (oc 0 zl))
    have H7 := Lib.hid S3.out.lt
    clear b7
    generalize W.alloc (.cells (oc 0 zl).toArray 26) = W1 at B1 T1 T2 T3 J7 ⊢
    generalize W.heap.size = b7 at J7 H7  ⊢
    exact R0_7.out b6 b7 b8 W1 ⟨B1, T1, T2, T3, J7, H7⟩
  · go_simp
    refine hK.out _ _ (⟨S1.out.alloc _, S2.out.alloc _, S3.out.alloc _⟩) (fun hS => ?_)
    clear hK K
    (try simp only [Act.put, List.setIfInBounds_toArray, List.set_cons_zero, List.set_cons_succ])
    have hbh : Hid (Below W.heap.size W (W.alloc (.cells (oc 0 zl).toArray 26))) := Lib.hid (bel1 W _)
    have B1 := bt B hbh
    have T1 := kt S1 hbh
    have T2 := kt S2 hbh
    have T3 := kt S3 hbh
    have J8 := Lib.hid (Bk.new W 26 (oc 0 zl))
    have H8 := Lib.hid S3.out.lt
    clear b8
    generalize W.alloc (.cells (oc 0 zl).toArray 26) = W1 at B1 T1 T2 T3 J8 ⊢
    generalize W.heap.size = b8 at J8 H8  ⊢
    exact R0_8.out b6 b7 b8 W1 ⟨B1, T1, T2, T3, J8, H8⟩
  · rintro b6 b7 b8 W ⟨B, S1, S2, S3, K6, G6⟩
    refine wpAnyH_ready (rs := [1, 7, 8]) (by kernel_rfl) (by simp) ?_
    refine AllReadyH.cons (o := _) rfl (fun K hK => ?_) (AllReadyH.cons (o := _) rfl (fun K hK => ?_) (AllReadyH.cons (o := _) rfl (fun K hK => ?_) (AllReadyH.nil)))
    · go_simp
      refine (C1.out _ (R1.out.below B.out)).mono ?_
      rintro e W1 ⟨rfl, hb⟩
      have hbh := Lib.hid hb
      clear hb
      have B1 := bt B hbh
      have T1 := kt S1 hbh
      have T2 := kt S2 hbh
      have T3 := kt S3 hbh
      have J6 := kt K6 hbh
      refine hK.out _ _ (⟨T1.out, T2.out, T3.out⟩) (fun hS => ?_)
      clear hK K
      (try simp only [Act.put, List.setIfInBounds_toArray, List.set_cons_zero, List.set_cons_succ])
      exact R1_6.out b6 b7 b8 W1 ⟨B1, T1, T2, T3, J6, G6⟩
    · go_simp
      refine hK.out _ _ (⟨S1.out.alloc _, S2.out.alloc _, S3.out.alloc _⟩) (fun hS => ?_)
      clear hK K
      (try simp only [Act.put, List.setIfInBounds_toArray, List.set_cons_zero, List.set_cons_succ])
      have hbh : Hid (Below W.heap.size W (W.alloc (.cells (oc 0 zl).toArray 26))) := Lib.hid (bel1 W _)
      have B1 := bt B hbh
      have T1 := kt S1 hbh
      have T2 := kt S2 hbh
      have T3 := kt S3 hbh
      have J6 := kt K6 hbh
      have J7 := Lib.hid (Bk.new W 26 (oc 0 zl))
      have H7 := Lib.hid S3.out.lt
      have D67 : Hid (b6 ≠ W.heap.size) := Lib.hid (by have := K6.out.lt; omega)
      clear b7
      generalize W.alloc (.cells (oc 0 zl).toArray 26) = W1 at B1 T1 T2 T3 J6 J7 ⊢
      generalize W.heap.size = b7 at J7 H7 D67 ⊢
      exact R0_67.out b6 b7 b8 W1 ⟨B1, T1, T2, T3, J6, G6, J7, H7, D67⟩
    · go_simp
      refine hK.out _ _ (⟨S1.out.alloc _, S2.out.alloc _, S3.out.alloc _⟩) (fun hS => ?_)
      clear hK K
      (try simp only [Act.put, List.setIfInBounds_toArray, List.set_cons_zero, List.set_cons_succ])
      have hbh : Hid (Below W.heap.size W (W.alloc (.cells (oc 0 zl).toArray 26))) := Lib.hid (bel1 W _)
      have B1 := bt B hbh
      have T1 := kt S1 hbh
      have T2 := kt S2 hbh
      have T3 := kt S3 hbh
      have J6 := kt K6 hbh
      have J8 := Lib.hid (Bk.new W 26 (oc 0 zl))
      have H8 := Lib.hid S3.out.lt
      have D68 : Hid (b6 ≠ W.heap.size) := Lib.hid (by have := K6.out.lt; omega)
      clear b8
      generalize W.alloc (.cells (oc 0 zl).toArray 26) = W1 at B1 T1 T2 T3 J6 J8 ⊢
      generalize W.heap.size = b8 at J8 H8 D68 ⊢
      exact R0_68.out b6 b7 b8 W1 ⟨B1, T1, T2, T3, J6, G6, J8, H8, D68⟩
  · rintro b6 b7 b8 W ⟨B, S1, S2, S3, K7, G7⟩
    refine wpAnyH_ready (rs := [1, 6, 8]) (by kernel_rfl) (by simp) ?_
    refine AllReadyH.cons (o := _) rfl (fun K hK => ?_) (AllReadyH.cons (o := _) rfl (fun K hK => ?_) (AllReadyH.cons (o := _) rfl (fun K hK => ?_) (AllReadyH.nil)))
    · go_simp
      refine (C1.out _ (R1.out.below B.out)).mono ?_
      rintro e W1 ⟨rfl, hb⟩
      have hbh := Lib.hid hb
      clear hb
      have B1 := bt B hbh
      have T1 := kt S1 hbh
      have T2 := kt S2 hbh
      have T3 := kt S3 hbh
      have J7 := kt K7 hbh
      refine hK.out _ _ (⟨T1.out, T2.out, T3.out⟩) (fun hS => ?_)
      clear hK K
      (try simp only [Act.put, List.setIfInBounds_toArray, List.set_cons_zero, List.set_cons_succ])
      exact R1_7.out b6 b7 b8 W1 ⟨B1, T1, T2, T3, J7, G7⟩
    · go_simp
      refine hK.out _ _ (⟨S1.out.alloc _, S2.out.alloc _, S3.out.alloc _⟩) (fun hS => ?_)
      clear hK K
      (try simp only [Act.put, List.setIfInBounds_toArray, List.set_cons_zero, List.set_cons_succ])
      have hbh : Hid (Below W.heap.size W (W.alloc (.cells (oc 0 zl).toArray 26))) := Lib.hid (bel1 W _)
      have B1 := bt B hbh
      have T1 := kt S1 hbh
      have T2 := kt S2 hbh
      have T3 := kt S3 hbh
      have J7 := kt K7 hbh
      have J6 := Lib.hid (Bk.new W 26 (oc 0 zl))
      have H6 := Lib.hid S3.out.lt
      have D67 : Hid (W.heap.size ≠ b7) := Lib.hid (by have := K7.out.lt; omega)
      clear b6
      generalize W.alloc (.cells (oc 0 zl).toArray 26) = W1 at B1 T1 T2 T3 J6 J7 ⊢
      generalize W.heap.size = b6 at J6 H6 D67 ⊢
      refine relisted ?_ (R0_67.out b6 b7 b8 W1 ⟨B1, T1, T2, T3, J6, H6, J7, G7, D67⟩)
      kernel_rfl
    · go_simp
      refine hK.out _ _ (⟨S1.out.alloc _, S2.out.alloc _, S3.out.alloc _⟩) (fun hS => ?_)
      clear hK K
      (try simp only [Act.put, List.setIfInBounds_toArray, List.set_cons_zero, List.set_cons_succ])
      have hbh : Hid (Below W.heap.size W (W.alloc (.cells (oc 0 zl).toArray 26))) := Lib.hid (bel1 W _)
      have B1 := bt B hbh
      have T1 := kt S1 hbh
      have T2 := kt S2 hbh
      have T3 := kt S3 hbh
      have J7 := kt K7 hbh
      have J8 := Lib.hid (Bk.new W 26 (oc 0 zl))
      have H8 := Lib.hid S3.out.lt
      have D78 : Hid (b7 ≠ W.heap.size) := Lib.hid (by have := K7.out.lt; omega)
      clear b8
      generalize W.alloc (.cells (oc 0 zl).toArray 26) = W1 at B1 T1 T2 T3 J7 J8 ⊢
      generalize W.heap.size = b8 at J8 H8 D78 ⊢
      exact R0_78.out b6 b7 b8 W1 ⟨B1, T1, T2, T3, J7, G7, J8, H8, D78⟩
  · rintro b6 b7 b8 W ⟨B, S1, S2, S3, K8, G8⟩
    refine wpAnyH_ready (rs := [1, 6, 7]) (by kernel_rfl) (by simp) ?_
    refine AllReadyH.cons (o := _) rfl (fun K hK => ?_) (AllReadyH.cons (o := _) rfl (fun K hK => ?_) (AllReadyH.cons (o := _) rfl (fun K hK => ?_) (AllReadyH.nil)))
    · go_simp
      refine (C1.out _ (R1.out.below B.out)).mono ?_
      rintro e W1 ⟨rfl, hb⟩
      have hbh := Lib.hid hb
      clear hb
      have B1 := bt B hbh
      have T1 := kt S1 hbh
      have T2 := kt S2 hbh
      have T3 := kt S3 hbh
      have J8 := kt K8 hbh
      refine hK.out _ _ (⟨T1.out, T2.out, T3.out⟩) (fun hS => ?_)
      clear hK K
      (try simp only [Act.put, List.setIfInBounds_toArray, List.set_cons_zero, List.set_cons_succ])
      exact R1_8.out b6 b7 b8 W1 ⟨B1, T1, T2, T3, J8, G8⟩
    · go_simp
      refine hK.out _ _ (⟨S1.out.alloc _, S2.out.alloc _, S3.out.alloc _⟩) (fun hS => ?_)
      clear hK K
      (try simp only [Act.put, List.setIfInBounds_toArray, List.set_cons_zero, List.set_cons_succ])
      have hbh : Hid (Below W.heap.size W (W.alloc (.cells (oc 0 zl).toArray 26))) := Lib.hid (bel1 W _)
      have B1 := bt B hbh
      have T1 := kt S1 hbh
      have T2 := kt S2 hbh
      have T3 := kt S3 hbh
      have J8 := kt K8 hbh
      have J6 := Lib.hid (Bk.new W 26 (oc 0 zl))
      have H6 := Lib.hid S3.out.lt
      have D68 : Hid (W.heap.size ≠ b8) := Lib.hid (by have := K8.out.lt; omega)
      clear b6
      generalize W.alloc (.cells (oc 0 zl).toArray 26) = W1 at B1 T1 T2 T3 J6 J8 ⊢
      generalize W.heap.size = b6 at J6 H6 D68 ⊢
      refine relisted ?_ (R0_68.out b6 b7 b8 W1 ⟨B1, T1, T2, T3, J6, H6, J8, G8, D68⟩)
      kernel_rfl
    · go_simp
      refine hK.out _ _ (⟨S1.out.alloc _, S2.out.alloc _, S3.out.alloc _⟩) (fun hS => ?_)
      clear hK K
      (try simp only [Act.put, List.setIfInBounds_toArray, List.set_cons_zero, List.set_cons_succ])
      have hbh : Hid (Below W.heap.size W (W.alloc (.cells (oc 0 zl).toArray 26))) := Lib.hid (bel1 W _)
      have B1 := bt B hbh
      have T1 := kt S1 hbh
      have T2 := kt S2 hbh
      have T3 := kt S3 hbh
      have J8 := kt K8 hbh
      have J7 := Lib.hid (Bk.new W 26 (oc 0 zl))
      have H7 := Lib.hid S3.out.lt
      have D78 : Hid (W.heap.size ≠ b8) := Lib.hid (by have := K8.out.lt; omega)
      clear b7
      generalize W.alloc (.cells (oc 0 zl).toArray 26) = W1 at B1 T1 T2 T3 J7 J8 ⊢
      generalize W.heap.size = b7 at J7 H7 D78 ⊢
      refine relisted ?_ (R0_78.out b6 b7 b8 W1 ⟨B1, T1, T2, T3, J7, H7, J8, G8, D78⟩)
      kernel_rfl
  · rintro b6 b7 b8 W ⟨B, S1, S2, S3⟩
    refine wpAnyH_ready (rs := [3, 6, 7, 8]) (by kernel_rfl) (by simp) ?_
    refine AllReadyH.cons (o := _) rfl (fun K hK => ?_) (AllReadyH.cons (o := _) rfl (fun K hK => ?_) (AllReadyH.cons (o := _) rfl (fun K hK => ?_) (AllReadyH.cons (o := _) rfl (fun K hK => ?_) (AllReadyH.nil))))
    · go_simp
      refine (C2.out _ (R2.out.below B.out)).mono ?_
      rintro e W1 ⟨rfl, hb⟩
      have hbh := Lib.hid hb
      clear hb
      have B1 := bt B hbh
      have T1 := kt S1 hbh
      have T2 := kt S2 hbh
      have T3 := kt S3 hbh
      refine hK.out _ _ (⟨T1.out, T2.out, T3.out⟩) (fun hS => ?_)
      clear hK K
      (try simp only [Act.put, List.setIfInBounds_toArray, List.set_cons_zero, List.set_cons_succ])
      exact R2_.out b6 b7 b8 W1 ⟨B1, T1, T2, T3⟩
    · go_simp
      refine hK.out _ _ (⟨S1.out.alloc _, S2.out.alloc _, S3.out.alloc _⟩) (fun hS => ?_)
      clear hK K
      (try simp only [Act.put, List.setIfInBounds_toArray, List.set_cons_zero, List.set_cons_succ])
      have hbh : Hid (Below W.heap.size W (W.alloc (.cells (oc 0 zl).toArray 26))) := Lib.hid (bel1 W _)
      have B1 := bt B hbh
      have T1 := kt S1 hbh
      have T2 := kt S2 hbh
      have T3 := kt S3 hbh
      have J6 := Lib.hid (Bk.new W 26 (oc 0 zl))
      have H6 := Lib.hid S3.out.lt
      clear b6
      generalize W.alloc (.cells (oc 0 zl).toArray 26) = W1 at B1 T1 T2 T3 J6 ⊢
      generalize W.heap.size = b6 at J6 H6  ⊢
      refine relisted ?_ (R1_6.out b6 b7 b8 W1 ⟨B1, T1, T2, T3, J6, H6⟩)
      kernel_rfl
    · go_simp
      refine hK.out _ _ (⟨S1.out.alloc _, S2.out.alloc _, S3.out.alloc _⟩) (fun hS => ?_)
      clear hK K
      (try simp only [Act.put, List.setIfInBounds_toArray, List.set_cons_zero, List.set_cons_succ])
      have hbh : Hid (Below W.heap.size W (W.alloc (.cells (oc 0 zl).toArray 26))) := Lib.hid (bel1 W _)
      have B1 := bt B hbh
      have T1 := kt S1 hbh
      have T2 := kt S2 hbh
      have T3 := kt S3 hbh
      have J7 := Lib.hid (Bk.new W 26 (oc 0 zl))
      have H7 := Lib.hid S3.out.lt
      clear b7
      generalize W.alloc (.cells (oc 0 zl).toArray 26) = W1 at B1 T1 T2 T3 J7 ⊢
      generalize W.heap.size = b7 at J7 H7  ⊢
      refine relisted ?_ (R1_7.out b6 b7 b8 W1 ⟨B1, T1, T2, T3, J7, H7⟩)
      kernel_rfl
    · go_simp
      refine hK.out _ _ (⟨S1.out.alloc _, S2.out.alloc _, S3.out.alloc _⟩) (fun hS => ?_)
      clear hK K
      (try simp only [Act.put, List.setIfInBounds_toArray, List.set_cons_zero, List.set_cons_succ])
      have hbh : Hid (Below W.heap.size W (W.alloc (.cells (oc 0 zl).toArray 26))) := Lib.hid (bel1 W _)
      have B1 := bt B hbh
      have T1 := kt S1 hbh
      have T2 := kt S2 hbh
      have T3 := kt S3 hbh
      have J8 := Lib.hid (Bk.new W 26 (oc 0 zl))
      have H8 := Lib.hid S3.out.lt
      clear b8
      generalize W.alloc (.cells (oc 0 zl).toArray 26) = W1 at B1 T1 T2 T3 J8 ⊢
      generalize W.heap.size = b8 at J8 H8  ⊢
      refine relisted ?_ (R1_8.out b6 b7 b8 W1 ⟨B1, T1, T2, T3, J8, H8⟩)
      kernel_rfl
  · rintro b6 b7 b8 W ⟨B, S1, S2, S3, K6, G6, K7, G7, D67⟩
    refine wpAnyH_ready (rs := [1, 8]) (by kernel_rfl) (by simp) ?_
    refine AllReadyH.cons (o := _) rfl (fun K hK => ?_) (AllReadyH.cons (o := _) rfl (fun K hK => ?_) (AllReadyH.nil))
    · go_simp
      refine (C1.out _ (R1.out.below B.out)).mono ?_
      rintro e W1 ⟨rfl, hb⟩
      have hbh := Lib.hid hb
      clear hb
      have B1 := bt B hbh
      have T1 := kt S1 hbh
      have T2 := kt S2 hbh
      have T3 := kt S3 hbh
      have J6 := kt K6 hbh
      have J7 := kt K7 hbh
      refine hK.out _ _ (⟨T1.out, T2.out, T3.out⟩) (fun hS => ?_)
      clear hK K
      (try simp only [Act.put, List.setIfInBounds_toArray, List.set_cons_zero, List.set_cons_succ])
      exact R1_67.out b6 b7 b8 W1 ⟨B1, T1, T2, T3, J6, G6, J7, G7, D67⟩
    · go_simp
      refine hK.out _ _ (⟨S1.out.alloc _, S2.out.alloc _, S3.out.alloc _⟩) (fun hS => ?_)
      clear hK K
      (try simp only [Act.put, List.setIfInBounds_toArray, List.set_cons_zero, List.set_cons_succ])
      have hbh : Hid (Below W.heap.size W (W.alloc (.cells (oc 0 zl).toArray 26))) := Lib.hid (bel1 W _)
      have B1 := bt B hbh
      have T1 := kt S1 hbh
      have T2 := kt S2 hbh
      have T3 := kt S3 hbh
      have J6 := kt K6 hbh
      have J7 := kt K7 hbh
      have J8 := Lib.hid (Bk.new W 26 (oc 0 zl))
      have H8 := Lib.hid S3.out.lt
      have D68 : Hid (b6 ≠ W.heap.size) := Lib.hid (by have := K6.out.lt; omega)
      have D78 : Hid (b7 ≠ W.heap.size) := Lib.hid (by have := K7.out.lt; omega)
      clear b8
      generalize W.alloc (.cells (oc 0 zl).toArray 26) = W1 at B1 T1 T2 T3 J6 J7 J8 ⊢
      generalize W.heap.size = b8 at J8 H8 D68 D78 ⊢
      exact R0_678.out b6 b7 b8 W1 ⟨B1, T1, T2, T3, J6, G6, J7, G7, J8, H8, D67, D68, D78⟩
  · rintro b6 b7 b8 W ⟨B, S1, S2, S3, K6, G6, K8, G8, D68⟩
    refine wpAnyH_ready (rs := [1, 7]) (by kernel_rfl) (by simp) ?_
    refine AllReadyH.cons (o := _) rfl (fun K hK => ?_) (AllReadyH.cons (o := _) rfl (fun K hK => ?_) (AllReadyH.nil))
    · go_simp
      refine (C1.out _ (R1.out.below B.out)).mono ?_
      rintro e W1 ⟨rfl, hb⟩
      have hbh := Lib.hid hb
      clear hb
      have B1 := bt B hbh
      have T1 := kt S1 hbh
      have T2 := kt S2 hbh
      have T3 := kt S3 hbh
      have J6 := kt K6 hbh
      have J8 := kt K8 hbh
      refine hK.out _ _ (⟨T1.out, T2.out, T3.out⟩) (fun hS => ?_)
      clear hK K
      (try simp only [Act.put, List.setIfInBounds_toArray, List.set_cons_zero, List.set_cons_succ])
      exact R1_68.out b6 b7 b8 W1 ⟨B1, T1, T2, T3, J6, G6, J8, G8, D68⟩
    · go_simp
      refine hK.out _ _ (⟨S1.out.alloc _, S2.out.alloc _, S3.out.alloc _⟩) (fun hS => ?_)
      clear hK K
      (try simp only [Act.put, List.setIfInBounds_toArray, List.set_cons_zero, List.set_cons_succ])
      have hbh : Hid (Below W.heap.size W (W.alloc (.cells (oc 0 zl).toArray 26))) := Lib.hid (bel1 W _)
      have B1 := bt B hbh
      have T1 := kt S1 hbh
      have T2 := kt S2 hbh
      have T3 := kt S3 hbh
      have J6 := kt K6 hbh
      have J8 := kt K8 hbh
      have J7 := Lib.hid (Bk.new W 26 (oc 0 zl))
      have H7 := Lib.hid S3.out.lt
      have D67 : Hid (b6 ≠ W.heap.size) := Lib.hid (by have := K6.out.lt; omega)
      have D78 : Hid (W.heap.size ≠ b8) := Lib.hid (by have := K8.out.lt; omega)
      clear b7
      generalize W.alloc (.cells (oc 0 zl).toArray 26) = W1 at B1 T1 T2 T3 J6 J7 J8 ⊢
      generalize W.heap.size = b7 at J7 H7 D67 D78 ⊢
      refine relisted ?_ (R0_678.out b6 b7 b8 W1 ⟨B1, T1, T2, T3, J6, G6, J7, H7, J8, G8, D67, D68, D78⟩)
      kernel_rfl
  · rintro b6 b7 b8 W ⟨B, S1, S2, S3, K7, G7, K8, G8, D78⟩
    refine wpAnyH_ready (rs := [1, 6]) (by kernel_rfl) (by simp) ?_
    refine AllReadyH.cons (o := _) rfl (fun K hK => ?_) (AllReadyH.cons (o := _) rfl (fun K hK => ?_) (AllReadyH.nil))
    · go_simp
      refine (C1.out _ (R1.out.below B.out)).mono ?_
      rintro e W1 ⟨rfl, hb⟩
      have hbh := Lib.hid hb
      clear hb
      have B1 := bt B hbh
      have T1 := kt S1 hbh
      have T2 := kt S2 hbh
      have T3 := kt S3 hbh
      have J7 := kt K7 hbh
      have J8 := kt K8 hbh
      refine hK.out _ _ (⟨T1.out, T2.out, T3.out⟩) (fun hS => ?_)
      clear hK K
      (try simp only [Act.put, List.setIfInBounds_toArray, List.set_cons_zero, List.set_cons_succ])
      exact R1_78.out b6 b7 b8 W1 ⟨B1, T1, T2, T3, J7, G7, J8, G8, D78⟩
    · go_simp
      refine hK.out _ _ (⟨S1.out.alloc _, S2.out.alloc _, S3.out.alloc _⟩) (fun hS => ?_)
      clear hK K
      (try simp only [Act.put, List.setIfInBounds_toArray, List.set_cons_zero, List.set_cons_succ])
      have hbh : Hid (Below W.heap.size W (W.alloc (.cells (oc 0 zl).toArray 26))) := Lib.hid (bel1 W _)
      have B1 := bt B hbh
      have T1 := kt S1 hbh
      have T2 := kt S2 hbh
      have T3 := kt S3 hbh
      have J7 := kt K7 hbh
      have J8 := kt K8 hbh
      have J6 := Lib.hid (Bk.new W 26 (oc 0 zl))
      have H6 := Lib.hid S3.out.lt
      have D67 : Hid (W.heap.size ≠ b7) := Lib.hid (by have := K7.out.lt; omega)
      have D68 : Hid (W.heap.size ≠ b8) := Lib.hid (by have := K8.out.lt; omega)
      clear b6
      generalize W.alloc (.cells (oc 0 zl).toArray 26) = W1 at B1 T1 T2 T3 J6 J7 J8 ⊢
      generalize W.heap.size = b6 at J6 H6 D67 D68 ⊢
      refine relisted ?_ (R0_678.out b6 b7 b8 W1 ⟨B1, T1, T2, T3, J6, H6, J7, G7, J8, G8, D67, D68, D78⟩)
      kernel_rfl
  · rintro b6 b7 b8 W ⟨B, S1, S2, S3, K6, G6⟩
    refine wpAnyH_ready (rs := [3, 7, 8]) (by kernel_rfl) (by simp) ?_
    refine AllReadyH.cons (o := _) rfl (fun K hK => ?_) (AllReadyH.cons (o := _) rfl (fun K hK => ?_) (AllReadyH.cons (o := _) rfl (fun K hK => ?_) (AllReadyH.nil)))
    · go_simp
      refine (C2.out _ (R2.out.below B.out)).mono ?_
      rintro e W1 ⟨rfl, hb⟩
      have hbh := Lib.hid hb
      clear hb
      have B1 := bt B hbh
      have T1 := kt S1 hbh
      have T2 := kt S2 hbh
      have T3 := kt S3 hbh
      have J6 := kt K6 hbh
      refine hK.out _ _ (⟨T1.out, T2.out, T3.out⟩) (fun hS => ?_)
      clear hK K
      (try simp only [Act.put, List.setIfInBounds_toArray, List.set_cons_zero, List.set_cons_succ])
      exact R2_6.out b6 b7 b8 W1 ⟨B1, T1, T2, T3, J6, G6⟩
    · go_simp
      refine hK.out _ _ (⟨S1.out.alloc _, S2.out.alloc _, S3.out.alloc _⟩) (fun hS => ?_)
      clear hK K
      (try simp only [Act.put, List.setIfInBounds_toArray, List.set_cons_zero, List.set_cons_succ])
      have hbh : Hid (Below W.heap.size W (W.alloc (.cells (oc 0 zl).toArray 26))) := Lib.hid (bel1 W _)
      have B1 := bt B hbh
      have T1 := kt S1 hbh
      have T2 := kt S2 hbh
      have T3 := kt S3 hbh
      have J6 := kt K6 hbh
      have J7 := Lib.hid (Bk.new W 26 (oc 0 zl))
      have H7 := Lib.hid S3.out.lt
      have D67 : Hid (b6 ≠ W.heap.size) := Lib.hid (by have := K6.out.lt; omega)
      clear b7
      generalize W.alloc (.cells (oc 0 zl).toArray 26) = W1 at B1 T1 T2 T3 J6 J7 ⊢
      generalize W.heap.size = b7 at J7 H7 D67 ⊢
      refine relisted ?_ (R1_67.out b6 b7 b8 W1 ⟨B1, T1, T2, T3, J6, G6, J7, H7, D67⟩)
      kernel_rfl
    · go_simp
      refine hK.out _ _ (⟨S1.out.alloc _, S2.out.alloc _, S3.out.alloc _⟩) (fun hS => ?_)
      clear hK K
      (try simp only [Act.put, List.setIfInBounds_toArray, List.set_cons_zero, List.set_cons_succ])
      have hbh : Hid (Below W.heap.size W (W.alloc (.cells (oc 0 zl).toArray 26))) := Lib.hid (bel1 W _)
      have B1 := bt B hbh
      have T1 := kt S1 hbh
      have T2 := kt S2 hbh
      have T3 := kt S3 hbh
      have J6 := kt K6 hbh
      have J8 := Lib.hid (Bk.new W 26 (oc 0 zl))
      have H8 := Lib.hid S3.out.lt
      have D68 : Hid (b6 ≠ W.heap.size) := Lib.hid (by have := K6.out.lt; omega)
      clear b8
      generalize W.alloc (.cells (oc 0 zl).toArray 26) = W1 at B1 T1 T2 T3 J6 J8 ⊢
      generalize W.heap.size = b8 at J8 H8 D68 ⊢
      refine relisted ?_ (R1_68.out b6 b7 b8 W1 ⟨B1, T1, T2, T3, J6, G6, J8, H8, D68⟩)
      kernel_rfl
  · rintro b6 b7 b8 W ⟨B, S1, S2, S3, K7, G7⟩
    refine wpAnyH_ready (rs := [3, 6, 8]) (by kernel_rfl) (by simp) ?_
    refine AllReadyH.cons (o := _) rfl (fun K hK => ?_) (AllReadyH.cons (o := _) rfl (fun K hK => ?_) (AllReadyH.cons (o := _) rfl (fun K hK => ?_) (AllReadyH.nil)))
    · go_simp
      refine (C2.out _ (R2.out.below B.out)).mono ?_
      rintro e W1 ⟨rfl, hb⟩
      have hbh := Lib.hid hb
      clear hb
      have B1 := bt B hbh
      have T1 := kt S1 hbh
      have T2 := kt S2 hbh
      have T3 := kt S3 hbh
      have J7 := kt K7 hbh
      refine hK.out _ _ (⟨T1.out, T2.out, T3.out⟩) (fun hS => ?_)
      clear hK K
      (try simp only [Act.put, List.setIfInBounds_toArray, List.set_cons_zero, List.set_cons_succ])
      exact R2_7.out b6 b7 b8 W1 ⟨B1, T1, T2, T3, J7, G7⟩
    · go_simp
      refine hK.out _ _ (⟨S1.out.alloc _, S2.out.alloc _, S3.out.alloc _⟩) (fun hS => ?_)
      clear hK K
      (try simp only [Act.put, List.setIfInBounds_toArray, List.set_cons_zero, List.set_cons_succ])
      have hbh : Hid (Below W.heap.size W (W.alloc (.cells (oc 0 zl).toArray 26))) := Lib.hid (bel1 W _)
      have B1 := bt B hbh
      have T1 := kt S1 hbh
      have T2 := kt S2 hbh
      have T3 := kt S3 hbh
      have J7 := kt K7 hbh
      have J6 := Lib.hid (Bk.new W 26 (oc 0 zl))
      have H6 := Lib.hid S3.out.lt
      have D67 : Hid (W.heap.size ≠ b7) := Lib.hid (by have := K7.out.lt; omega)
      clear b6
      generalize W.alloc (.cells (oc 0 zl).toArray 26) = W1 at B1 T1 T2 T3 J6 J7 ⊢
      generalize W.heap.size = b6 at J6 H6 D67 ⊢
      refine relisted ?_ (R1_67.out b6 b7 b8 W1 ⟨B1, T1, T2, T3, J6, H6, J7, G7, D67⟩)
      kernel_rfl
    · go_simp
      refine hK.out _ _ (⟨S1.out.alloc _, S2.out.alloc _, S3.out.alloc _⟩) (fun hS => ?_)
      clear hK K
      (try simp only [Act.put, List.setIfInBounds_toArray, List.set_cons_zero, List.set_cons_succ])
      have hbh : Hid (Below W.heap.size W (W.alloc (.cells (oc 0 zl).toArray 26))) := Lib.hid (bel1 W _)
      have B1 := bt B hbh
      have T1 := kt S1 hbh
      have T2 := kt S2 hbh
      have T3 := kt S3 hbh
      have J7 := kt K7 hbh
      have J8 := Lib.hid (Bk.new W 26 (oc 0 zl))
      have H8 := Lib.hid S3.out.lt
      have D78 : Hid (b7 ≠ W.heap.size) := Lib.hid (by have := K7.out.lt; omega)
      clear b8
      generalize W.alloc (.cells (oc 0 zl).toArray 26) = W1 at B1 T1 T2 T3 J7 J8 ⊢
      generalize W.heap.size = b8 at J8 H8 D78 ⊢
      refine relisted ?_ (R1_78.out b6 b7 b8 W1 ⟨B1, T1, T2, T3, J7, G7, J8, H8, D78⟩)
      kernel_rfl
  · rintro b6 b7 b8 W ⟨B, S1, S2, S3, K8, G8⟩
    refine wpAnyH_ready (rs := [3, 6, 7]) (by kernel_rfl) (by simp) ?_
    refine AllReadyH.cons (o := _) rfl (fun K hK => ?_) (AllReadyH.cons (o := _) rfl (fun K hK => ?_) (AllReadyH.cons (o := _) rfl (fun K hK => ?_) (AllReadyH.nil)))
    · go_simp
      refine (C2.out _ (R2.out.below B.out)).mono ?_
      rintro e W1 ⟨rfl, hb⟩
      have hbh := Lib.hid hb
      clear hb
      have B1 := bt B hbh
      have T1 := kt S1 hbh
      have T2 := kt S2 hbh
      have T3 := kt S3 hbh
      have J8 := kt K8 hbh
      refine hK.out _ _ (⟨T1.out, T2.out, T3.out⟩) (fun hS => ?_)
      clear hK K
      (try simp only [Act.put, List.setIfInBounds_toArray, List.set_cons_zero, List.set_cons_succ])
      exact R2_8.out b6 b7 b8 W1 ⟨B1, T1, T2, T3, J8, G8⟩
    · go_simp
      refine hK.out _ _ (⟨S1.out.alloc _, S2.out.alloc _, S3.out.alloc _⟩) (fun hS => ?_)
      clear hK K
      (try simp only [Act.put, List.setIfInBounds_toArray, List.set_cons_zero, List.set_cons_succ])
      have hbh : Hid (Below W.heap.size W (W.alloc (.cells (oc 0 zl).toArray 26))) := Lib.hid (bel1 W _)
      have B1 := bt B hbh
      have T1 := kt S1 hbh
      have T2 := kt S2 hbh
      have T3 := kt S3 hbh
      have J8 := kt K8 hbh
      have J6 := Lib.hid (Bk.new W 26 (oc 0 zl))
      have H6 := Lib.hid S3.out.lt
      have D68 : Hid (W.heap.size ≠ b8) := Lib.hid (by have := K8.out.lt; omega)
      clear b6
      generalize W.alloc (.cells (oc 0 zl).toArray 26) = W1 at B1 T1 T2 T3 J6 J8 ⊢
      generalize W.heap.size = b6 at J6 H6 D68 ⊢
      refine relisted ?_ (R1_68.out b6 b7 b8 W1 ⟨B1, T1, T2, T3, J6, H6, J8, G8, D68⟩)
      kernel_rfl
    · go_simp
      refine hK.out _ _ (⟨S1.out.alloc _, S2.out.alloc _, S3.out.alloc _⟩) (fun hS => ?_)
      clear hK K
      (try simp only [Act.put, List.setIfInBounds_toArray, List.set_cons_zero, List.set_cons_succ])
      have hbh : Hid (Below W.heap.size W (W.alloc (.cells (oc 0 zl).toArray 26))) := Lib.hid (bel1 W _)
      have B1 := bt B hbh
      have T1 := kt S1 hbh
      have T2 := kt S2 hbh
      have T3 := kt S3 hbh
      have J8 := kt K8 hbh
      have J7 := Lib.hid (Bk.new W 26 (oc 0 zl))
      have H7 := Lib.hid S3.out.lt
      have D78 : Hid (W.heap.size ≠ b8) := Lib.hid (by have := K8.out.lt; omega)
      clear b7
      generalize W.alloc (.cells (oc 0 zl).toArray 26) = W1 at B1 T1 T2 T3 J7 J8 ⊢
      generalize W.heap.size = b7 at J7 H7 D78 ⊢
      refine relisted ?_ (R1_78.out b6 b7 b8 W1 ⟨B1, T1, T2, T3, J7, H7, J8, G8, D78⟩)
      kernel_rfl
  · rintro b6 b7 b8 W ⟨B, S1, S2, S3⟩
    refine wpAnyH_ready (rs := [5, 6, 7, 8]) (by kernel_rfl) (by simp) ?_
    refine AllReadyH.cons (o := _) rfl (fun K hK => ?_) (AllReadyH.cons (o := _) rfl (fun K hK => ?_) (AllReadyH.cons (o := _) rfl (fun K hK => ?_) (AllReadyH.cons (o := _) rfl (fun K hK => ?_) (AllReadyH.nil))))
    · go_simp
      refine (C3.out _ (R3.out.below B.out)).mono ?_
      rintro e W1 ⟨rfl, hb⟩
      have hbh := Lib.hid hb
      clear hb
      have B1 := bt B hbh
      have T1 := kt S1 hbh
      have T2 := kt S2 hbh
      have T3 := kt S3 hbh
      refine hK.out _ _ (⟨T1.out, T2.out, T3.out⟩) (fun hS => ?_)
      clear hK K
      (try simp only [Act.put, List.setIfInBounds_toArray, List.set_cons_zero, List.set_cons_succ])
      exact R3_.out b6 b7 b8 W1 ⟨B1, T1, T2, T3⟩
    · go_simp
      refine hK.out _ _ (⟨S1.out.alloc _, S2.out.alloc _, S3.out.alloc _⟩) (fun hS => ?_)
      clear hK K
      (try simp only [Act.put, List.setIfInBounds_toArray, List.set_cons_zero, List.set_cons_succ])
      have hbh : Hid (Below W.heap.size W (W.alloc (.cells (oc 0 zl).toArray 26))) := Lib.hid (bel1 W _)
      have B1 := bt B hbh
      have T1 := kt S1 hbh
      have T2 := kt S2 hbh
      have T3 := kt S3 hbh
      have J6 := Lib.hid (Bk.new W 26 (oc 0 zl))
      have H6 := Lib.hid S3.out.lt
      clear b6
      generalize W.alloc (.cells (oc 0 zl).toArray 26) = W1 at B1 T1 T2 T3 J6 ⊢
      generalize W.heap.size = b6 at J6 H6  ⊢
      refine relisted ?_ (R2_6.out b6 b7 b8 W1 ⟨B1, T1, T2, T3, J6, H6⟩)
      kernel_rfl
    · go_simp
      refine hK.out _ _ (⟨S1.out.alloc _, S2.out.alloc _, S3.out.alloc _⟩) (fun hS => ?_)
      clear hK K
      (try simp only [Act.put, List.setIfInBounds_toArray, List.set_cons_zero, List.set_cons_succ])
      have hbh : Hid (Below W.heap.size W (W.alloc (.cells (oc 0 zl).toArray 26))) := Lib.hid (bel1 W _)
      have B1 := bt B hbh
      have T1 := kt S1 hbh
      have T2 := kt S2 hbh
      have T3 := kt S3 hbh
      have J7 := Lib.hid (Bk.new W 26 (oc 0 zl))
      have H7 := Lib.hid S3.out.lt
      clear b7
      generalize W.alloc (.cells (oc 0 zl).toArray 26) = W1 at B1 T1 T2 T3 J7 ⊢
      generalize W.heap.size = b7 at J7 H7  ⊢
      refine relisted ?_ (R2_7.out b6 b7 b8 W1 ⟨B1, T1, T2, T3, J7, H7⟩)
      kernel_rfl
    · go_simp
      refine hK.out _ _ (⟨S1.out.alloc _, S2.out.alloc _, S3.out.alloc _⟩) (fun hS => ?_)
      clear hK K
      (try simp only [Act.put, List.setIfInBounds_toArray, List.set_cons_zero, List.set_cons_succ])
      have hbh : Hid (Below W.heap.size W (W.alloc (.cells (oc 0 zl).toArray 26))) := Lib.hid (bel1 W _)
      have B1 := bt B hbh
      have T1 := kt S1 hbh
      have T2 := kt S2 hbh
      have T3 := kt S3 hbh
      have J8 := Lib.hid (Bk.new W 26 (oc 0 zl))
      have H8 := Lib.hid S3.out.lt
      clear b8
      generalize W.alloc (.cells (oc 0 zl).toArray 26) = W1 at B1 T1 T2 T3 J8 ⊢
      generalize W.heap.size = b8 at J8 H8  ⊢
      refine relisted ?_ (R2_8.out b6 b7 b8 W1 ⟨B1, T1, T2, T3, J8, H8⟩)
      kernel_rfl
  · rintro b6 b7 b8 W ⟨B, S1, S2, S3, K6, G6, K7, G7, K8, G8, D67, D68, D78⟩
    refine wpAnyH_ready (rs := [1]) (by kernel_rfl) (by simp) ?_
    refine AllReadyH.cons (o := _) rfl (fun K hK => ?_) (AllReadyH.nil)
    go_simp
    refine (C1.out _ (R1.out.below B.out)).mono ?_
    rintro e W1 ⟨rfl, hb⟩
    have hbh := Lib.hid hb
    clear hb
    have B1 := bt B hbh
    have T1 := kt S1 hbh
    have T2 := kt S2 hbh
    have T3 := kt S3 hbh
    have J6 := kt K6 hbh
    have J7 := kt K7 hbh
    have J8 := kt K8 hbh
    refine hK.out _ _ (⟨T1.out, T2.out, T3.out⟩) (fun hS => ?_)
    clear hK K
    (try simp only [Act.put, List.setIfInBounds_toArray, List.set_cons_zero, List.set_cons_succ])
    exact R1_678.out b6 b7 b8 W1 ⟨B1, T1, T2, T3, J6, G6, J7, G7, J8, G8, D67, D68, D78⟩
  · rintro b6 b7 b8 W ⟨B, S1, S2, S3, K6, G6, K7, G7, D67⟩
    refine wpAnyH_ready (rs := [3, 8]) (by kernel_rfl) (by simp) ?_
    refine AllReadyH.cons (o := _) rfl (fun K hK => ?_) (AllReadyH.cons (o := _) rfl (fun K hK => ?_) (AllReadyH.nil))
    · go_simp
      refine (C2.out _ (R2.out.below B.out)).mono ?_
      rintro e W1 ⟨rfl, hb⟩
      have hbh := Lib.hid hb
      clear hb
      have B1 := bt B hbh
      have T1 := kt S1 hbh
      have T2 := kt S2 hbh
      have T3 := kt S3 hbh
      have J6 := kt K6 hbh
      have J7 := kt K7 hbh
      refine hK.out _ _ (⟨T1.out, T2.out, T3.out⟩) (fun hS => ?_)
      clear hK K
      (try simp only [Act.put, List.setIfInBounds_toArray, List.set_cons_zero, List.set_cons_succ])
      exact R2_67.out b6 b7 b8 W1 ⟨B1, T1, T2, T3, J6, G6, J7, G7, D67⟩
    · go_simp
      refine hK.out _ _ (⟨S1.out.alloc _, S2.out.alloc _, S3.out.alloc _⟩) (fun hS => ?_)
      clear hK K
      (try simp only [Act.put, List.setIfInBounds_toArray, List.set_cons_zero, List.set_cons_succ])
      have hbh : Hid (Below W.heap.size W (W.alloc (.cells (oc 0 zl).toArray 26))) := Lib.hid (bel1 W _)
      have B1 := bt B hbh
      have T1 := kt S1 hbh
      have T2 := kt S2 hbh
      have T3 := kt S3 hbh
      have J6 := kt K6 hbh
      have J7 := kt K7 hbh
      have J8 := Lib.hid (Bk.new W 26 (oc 0 zl))
      have H8 := Lib.hid S3.out.lt
      have D68 : Hid (b6 ≠ W.heap.size) := Lib.hid (by have := K6.out.lt; omega)
      have D78 : Hid (b7 ≠ W.heap.size) := Lib.hid (by have := K7.out.lt; omega)
      clear b8
      generalize W.alloc (.cells (oc 0 zl).toArray 26) = W1 at B1 T1 T2 T3 J6 J7 J8 ⊢
      generalize W.heap.size = b8 at J8 H8 D68 D78 ⊢
      refine relisted ?_ (R1_678.out b6 b7 b8 W1 ⟨B1, T1, T2, T3, J6, G6, J7, G7, J8, H8, D67, D68, D78⟩)
      kernel_rfl
  · rintro b6 b7 b8 W ⟨B, S1, S2, S3, K6, G6, K8, G8, D68⟩
    refine wpAnyH_ready (rs := [3, 7]) (by kernel_rfl) (by simp) ?_
    refine AllReadyH.cons (o := _) rfl (fun K hK => ?_) (AllReadyH.cons (o := _) rfl (fun K hK => ?_) (AllReadyH.nil))
    · go_simp
      refine (C2.out _ (R2.out.below B.out)).mono ?_
      rintro e W1 ⟨rfl, hb⟩
      have hbh := Lib.hid hb
      clear hb
      have B1 := bt B hbh
      have T1 := kt S1 hbh
      have T2 := kt S2 hbh
      have T3 := kt S3 hbh
      have J6 := kt K6 hbh
      have J8 := kt K8 hbh
      refine hK.out _ _ (⟨T1.out, T2.out, T3.out⟩) (fun hS => ?_)
      clear hK K
      (try simp only [Act.put, List.setIfInBounds_toArray, List.set_cons_zero, List.set_cons_succ])
      exact R2_68.out b6 b7 b8 W1 ⟨B1, T1, T2, T3, J6, G6, J8, G8, D68⟩
    · go_simp
      refine hK.out _ _ (⟨S1.out.alloc _, S2.out.alloc _, S3.out.alloc _⟩) (fun hS => ?_)
      clear hK K
      (try simp only [Act.put, List.setIfInBounds_toArray, List.set_cons_zero, List.set_cons_succ])
      have hbh : Hid (Below W.heap.size W (W.alloc (.cells (oc 0 zl).toArray 26))) := Lib.hid (bel1 W _)
      have B1 := bt B hbh
      have T1 := kt S1 hbh
      have T2 := kt S2 hbh
      have T3 := kt S3 hbh
      have J6 := kt K6 hbh
      have J8 := kt K8 hbh
      have J7 := Lib.hid (Bk.new W 26 (oc 0 zl))
      have H7 := Lib.hid S3.out.lt
      have D67 : Hid (b6 ≠ W.heap.size) := Lib.hid (by have := K6.out.lt; omega)
      have D78 : Hid (W.heap.size ≠ b8) := Lib.hid (by have := K8.out.lt; omega)
      clear b7
      generalize W.alloc (.cells (oc 0 zl).toArray 26) = W1 at B1 T1 T2 T3 J6 J7 J8 ⊢
      generalize W.heap.size = b7 at J7 H7 D67 D78 ⊢
      refine relisted ?_ (R1_678.out b6 b7 b8 W1 ⟨B1, T1, T2, T3, J6, G6, J7, H7, J8, G8, D67, D68, D78⟩)
      kernel_rfl
  · rintro b6 b7 b8 W ⟨B, S1, S2, S3, K7, G7, K8, G8, D78⟩
    refine wpAnyH_ready (rs := [3, 6]) (by kernel_rfl) (by simp) ?_
    refine AllReadyH.cons (o := _) rfl (fun K hK => ?_) (AllReadyH.cons (o := _) rfl (fun K hK => ?_) (AllReadyH.nil))
    · go_simp
      refine (C2.out _ (R2.out.below B.out)).mono ?_
      rintro e W1 ⟨rfl, hb⟩
      have hbh := Lib.hid hb
      clear hb
      have B1 := bt B hbh
      have T1 := kt S1 hbh
      have T2 := kt S2 hbh
      have T3 := kt S3 hbh
      have J7 := kt K7 hbh
      have J8 := kt K8 hbh
      refine hK.out _ _ (⟨T1.out, T2.out, T3.out⟩) (fun hS => ?_)
      clear hK K
      (try simp only [Act.put, List.setIfInBounds_toArray, List.set_cons_zero, List.set_cons_succ])
      exact R2_78.out b6 b7 b8 W1 ⟨B1, T1, T2, T3, J7, G7, J8, G8, D78⟩
    · go_simp
      refine hK.out _ _ (⟨S1.out.alloc _, S2.out.alloc _, S3.out.alloc _⟩) (fun hS => ?_)
      clear hK K
      (try simp only [Act.put, List.setIfInBounds_toArray, List.set_cons_zero, List.set_cons_succ])
      have hbh : Hid (Below W.heap.size W (W.alloc (.cells (oc 0 zl).toArray 26))) := Lib.hid (bel1 W _)
      have B1 := bt B hbh
      have T1 := kt S1 hbh
      have T2 := kt S2 hbh
      have T3 := kt S3 hbh
      have J7 := kt K7 hbh
      have J8 := kt K8 hbh
      have J6 := Lib.hid (Bk.new W 26 (oc 0 zl))
      have H6 := Lib.hid S3.out.lt
      have D67 : Hid (W.heap.size ≠ b7) := Lib.hid (by have := K7.out.lt; omega)
      have D68 : Hid (W.heap.size ≠ b8) := Lib.hid (by have := K8.out.lt; omega)
      clear b6
      generalize W.alloc (.cells (oc 0 zl).toArray 26) = W1 at B1 T1 T2 T3 J6 J7 J8 ⊢
      generalize W.heap.size = b6 at J6 H6 D67 D68 ⊢
      refine relisted ?_ (R1_678.out b6 b7 b8 W1 ⟨B1, T1, T2, T3, J6, H6, J7, G7, J8, G8, D67, D68, D78⟩)
      kernel_rfl
  · rintro b6 b7 b8 W ⟨B, S1, S2, S3, K6, G6⟩
    refine wpAnyH_ready (rs := [5, 7, 8]) (by kernel_rfl) (by simp) ?_
    refine AllReadyH.cons (o := _) rfl (fun K hK => ?_) (AllReadyH.cons (o := _) rfl (fun K hK => ?_) (AllReadyH.cons (o := _) rfl (fun K hK => ?_) (AllReadyH.nil)))
    · go_simp
      refine (C3.out _ (R3.out.below B.out)).mono ?_
      rintro e W1 ⟨rfl, hb⟩
      have hbh := Lib.hid hb
      clear hb
      have B1 := bt B hbh
      have T1 := kt S1 hbh
      have T2 := kt S2 hbh
      have T3 := kt S3 hbh
      have J6 := kt K6 hbh
      refine hK.out _ _ (⟨T1.out, T2.out, T3.out⟩) (fun hS => ?_)
      clear hK K
      (try simp only [Act.put, List.setIfInBounds_toArray, List.set_cons_zero, List.set_cons_succ])
      exact R3_6.out b6 b7 b8 W1 ⟨B1, T1, T2, T3, J6, G6⟩
    · go_simp
      refine hK.out _ _ (⟨S1.out.alloc _, S2.out.alloc _, S3.out.alloc _⟩) (fun hS => ?_)
      clear hK K
      (try simp only [Act.put, List.setIfInBounds_toArray, List.set_cons_zero, List.set_cons_succ])
      have hbh : Hid (Below W.heap.size W (W.alloc (.cells (oc 0 zl).toArray 26))) := Lib.hid (bel1 W _)
      have B1 := bt B hbh
      have T1 := kt S1 hbh
      have T2 := kt S2 hbh
      have T3 := kt S3 hbh
      have J6 := kt K6 hbh
      have J7 := Lib.hid (Bk.new W 26 (oc 0 zl))
      have H7 := Lib.hid S3.out.lt
      have D67 : Hid (b6 ≠ W.heap.size) := Lib.hid (by have := K6.out.lt; omega)
      clear b7
      generalize W.alloc (.cells (oc 0 zl).toArray 26) = W1 at B1 T1 T2 T3 J6 J7 ⊢
      generalize W.heap.size = b7 at J7 H7 D67 ⊢
      refine relisted ?_ (R2_67.out b6 b7 b8 W1 ⟨B1, T1, T2, T3, J6, G6, J7, H7, D67⟩)
      kernel_rfl
    · go_simp
      refine hK.out _ _ (⟨S1.out.alloc _, S2.out.alloc _, S3.out.alloc _⟩) (fun hS => ?_)
      clear hK K
      (try simp only [Act.put, List.setIfInBounds_toArray, List.set_cons_zero, List.set_cons_succ])
      have hbh : Hid (Below W.heap.size W (W.alloc (.cells (oc 0 zl).toArray 26))) := Lib.hid (bel1 W _)
      have B1 := bt B hbh
      have T1 := kt S1 hbh
      have T2 := kt S2 hbh
      have T3 := kt S3 hbh
      have J6 := kt K6 hbh
      have J8 := Lib.hid (Bk.new W 26 (oc 0 zl))
      have H8 := Lib.hid S3.out.lt
      have D68 : Hid (b6 ≠ W.heap.size) := Lib.hid (by have := K6.out.lt; omega)
      clear b8
      generalize W.alloc (.cells (oc 0 zl).toArray 26) = W1 at B1 T1 T2 T3 J6 J8 ⊢
      generalize W.heap.size = b8 at J8 H8 D68 ⊢
      refine relisted ?_ (R2_68.out b6 b7 b8 W1 ⟨B1, T1, T2, T3, J6, G6, J8, H8, D68⟩)
      kernel_rfl
  · rintro b6 b7 b8 W ⟨B, S1, S2, S3, K7, G7⟩
    refine wpAnyH_ready (rs := [5, 6, 8]) (by kernel_rfl) (by simp) ?_
    refine AllReadyH.cons (o := _) rfl (fun K hK => ?_) (AllReadyH.cons (o := _) rfl (fun K hK => ?_) (AllReadyH.cons (o := _) rfl (fun K hK => ?_) (AllReadyH.nil)))
    · go_simp
      refine (C3.out _ (R3.out.below B.out)).mono ?_
      rintro e W1 ⟨rfl, hb⟩
      have hbh := Lib.hid hb
      clear hb
      have B1 := bt B hbh
      have T1 := kt S1 hbh
      have T2 := kt S2 hbh
      have T3 := kt S3 hbh
      have J7 := kt K7 hbh
      refine hK.out _ _ (⟨T1.out, T2.out, T3.out⟩) (fun hS => ?_)
      clear hK K
      (try simp only [Act.put, List.setIfInBounds_toArray, List.set_cons_zero, List.set_cons_succ])
      exact R3_7.out b6 b7 b8 W1 ⟨B1, T1, T2, T3, J7, G7⟩
    · go_simp
      refine hK.out _ _ (⟨S1.out.alloc _, S2.out.alloc _, S3.out.alloc _⟩) (fun hS => ?_)
      clear hK K
      (try simp only [Act.put, List.setIfInBounds_toArray, List.set_cons_zero, List.set_cons_succ])
      have hbh : Hid (Below W.heap.size W (W.alloc (.cells (oc 0 zl).toArray 26))) := Lib.hid (bel1 W _)
      have B1 := bt B hbh
      have T1 := kt S1 hbh
      have T2 := kt S2 hbh
      have T3 := kt S3 hbh
      have J7 := kt K7 hbh
      have J6 := Lib.hid (Bk.new W 26 (oc 0 zl))
      have H6 := Lib.hid S3.out.lt
      have D67 : Hid (W.heap.size ≠ b7) := Lib.hid (by have := K7.out.lt; omega)
      clear b6
      generalize W.alloc (.cells (oc 0 zl).toArray 26) = W1 at B1 T1 T2 T3 J6 J7 ⊢
      generalize W.heap.size = b6 at J6 H6 D67 ⊢
      refine relisted ?_ (R2_67.out b6 b7 b8 W1 ⟨B1, T1, T2, T3, J6, H6, J7, G7, D67⟩)
      kernel_rfl
    · go_simp
      refine hK.out _ _ (⟨S1.out.alloc _, S2.out.alloc _, S3.out.alloc _⟩) (fun hS => ?_)
      clear hK K
      (try simp only [Act.put, List.setIfInBounds_toArray, List.set_cons_zero, List.set_cons_succ])
      have hbh : Hid (Below W.heap.size W (W.alloc (.cells (oc 0 zl).toArray 26))) := Lib.hid (bel1 W _)
      have B1 := bt B hbh
      have T1 := kt S1 hbh
      have T2 := kt S2 hbh
      have T3 := kt S3 hbh
      have J7 := kt K7 hbh
      have J8 := Lib.hid (Bk.new W 26 (oc 0 zl))
      have H8 := Lib.hid S3.out.lt
      have D78 : Hid (b7 ≠ W.heap.size) := Lib.hid (by have := K7.out.lt; omega)
      clear b8
      generalize W.alloc (.cells (oc 0 zl).toArray 26) = W1 at B1 T1 T2 T3 J7 J8 ⊢
      generalize W.heap.size = b8 at J8 H8 D78 ⊢
      refine relisted ?_ (R2_78.out b6 b7 b8 W1 ⟨B1, T1, T2, T3, J7, G7, J8, H8, D78⟩)
      kernel_rfl
  · rintro b6 b7 b8 W ⟨B, S1, S2, S3, K8, G8⟩
    refine wpAnyH_ready (rs := [5, 6, 7]) (by kernel_rfl) (by simp) ?_
    refine AllReadyH.cons (o := _) rfl (fun K hK => ?_) (AllReadyH.cons (o := _) rfl (fun K hK => ?_) (AllReadyH.cons (o := _) rfl (fun K hK => ?_) (AllReadyH.nil)))
    · go_simp
      refine (C3.out _ (R3.out.below B.out)).mono ?_
      rintro e W1 ⟨rfl, hb⟩
      have hbh := Lib.hid hb
      clear hb
      have B1 := bt B hbh
      have T1 := kt S1 hbh
      have T2 := kt S2 hbh
      have T3 := kt S3 hbh
      have J8 := kt K8 hbh
      refine hK.out _ _ (⟨T1.out, T2.out, T3.out⟩) (fun hS => ?_)
      clear hK K
      (try simp only [Act.put, List.setIfInBounds_toArray, List.set_cons_zero, List.set_cons_succ])
      exact R3_8.out b6 b7 b8 W1 ⟨B1, T1, T2, T3, J8, G8⟩
    · go_simp
      refine hK.out _ _ (⟨S1.out.alloc _, S2.out.alloc _, S3.out.alloc _⟩) (fun hS => ?_)
      clear hK K
      (try simp only [Act.put, List.setIfInBounds_toArray, List.set_cons_zero, List.set_cons_succ])
      have hbh : Hid (Below W.heap.size W (W.alloc (.cells (oc 0 zl).toArray 26))) := Lib.hid (bel1 W _)
      have B1 := bt B hbh
      have T1 := kt S1 hbh
      have T2 := kt S2 hbh
      have T3 := kt S3 hbh
      have J8 := kt K8 hbh
      have J6 := Lib.hid (Bk.new W 26 (oc 0 zl))
      have H6 := Lib.hid S3.out.lt
      have D68 : Hid (W.heap.size ≠ b8) := Lib.hid (by have := K8.out.lt; omega)
      clear b6
      generalize W.alloc (.cells (oc 0 zl).toArray 26) = W1 at B1 T1 T2 T3 J6 J8 ⊢
      generalize W.heap.size = b6 at J6 H6 D68 ⊢
      refine relisted ?_ (R2_68.out b6 b7 b8 W1 ⟨B1, T1, T2, T3, J6, H6, J8, G8, D68⟩)
      kernel_rfl
    · go_simp
      refine hK.out _ _ (⟨S1.out.alloc _, S2.out.alloc _, S3.out.alloc _⟩) (fun hS => ?_)
      clear hK K
      (try simp only [Act.put, List.setIfInBounds_toArray, List.set_cons_zero, List.set_cons_succ])
      have hbh : Hid (Below W.heap.size W (W.alloc (.cells (oc 0 zl).toArray 26))) := Lib.hid (bel1 W _)
      have B1 := bt B hbh
      have T1 := kt S1 hbh
      have T2 := kt S2 hbh
      have T3 := kt S3 hbh
      have J8 := kt K8 hbh
      have J7 := Lib.hid (Bk.new W 26 (oc 0 zl))
      have H7 := Lib.hid S3.out.lt
      have D78 : Hid (W.heap.size ≠ b8) := Lib.hid (by have := K8.out.lt; omega)
      clear b7
      generalize W.alloc (.cells (oc 0 zl).toArray 26) = W1 at B1 T1 T2 T3 J7 J8 ⊢
      generalize W.heap.size = b7 at J7 H7 D78 ⊢
      refine relisted ?_ (R2_78.out b6 b7 b8 W1 ⟨B1, T1, T2, T3, J7, H7, J8, G8, D78⟩)
      kernel_rfl
  · rintro b6 b7 b8 W ⟨B, S1, S2, S3⟩
    refine wpAnyH_ready (rs := [6, 7, 8]) (by kernel_rfl) (by simp) ?_
    refine AllReadyH.cons (o := _) rfl (fun K hK => ?_) (AllReadyH.cons (o := _) rfl (fun K hK => ?_) (AllReadyH.cons (o := _) rfl (fun K hK => ?_) (AllReadyH.nil)))
    · go_simp
      refine hK.out _ _ (⟨S1.out.alloc _, S2.out.alloc _, S3.out.alloc _⟩) (fun hS => ?_)
      clear hK K
      (try simp only [Act.put, List.setIfInBounds_toArray, List.set_cons_zero, List.set_cons_succ])
      have hbh : Hid (Below W.heap.size W (W.alloc (.cells (oc 0 zl).toArray 26))) := Lib.hid (bel1 W _)
      have B1 := bt B hbh
      have T1 := kt S1 hbh
      have T2 := kt S2 hbh
      have T3 := kt S3 hbh
      have J6 := Lib.hid (Bk.new W 26 (oc 0 zl))
      have H6 := Lib.hid S3.out.lt
      clear b6
      generalize W.alloc (.cells (oc 0 zl).toArray 26) = W1 at B1 T1 T2 T3 J6 ⊢
      generalize W.heap.size = b6 at J6 H6  ⊢
      refine relisted ?_ (R3_6.out b6 b7 b8 W1 ⟨B1, T1, T2, T3, J6, H6⟩)
      kernel_rfl
    · go_simp
      refine hK.out _ _ (⟨S1.out.alloc _, S2.out.alloc _, S3.out.alloc _⟩) (fun hS => ?_)
      clear hK K
      (try simp only [Act.put, List.setIfInBounds_toArray, List.set_cons_zero, List.set_cons_succ])
      have hbh : Hid (Below W.heap.size W (W.alloc (.cells (oc 0 zl).toArray 26))) := Lib.hid (bel1 W _)
      have B1 := bt B hbh
      have T1 := kt S1 hbh
      have T2 := kt S2 hbh
      have T3 := kt S3 hbh
      have J7 := Lib.hid (Bk.new W 26 (oc 0 zl))
      have H7 := Lib.hid S3.out.lt
      clear b7
      generalize W.alloc (.cells (oc 0 zl).toArray 26) = W1 at B1 T1 T2 T3 J7 ⊢
      generalize W.heap.size = b7 at J7 H7  ⊢
      refine relisted ?_ (R3_7.out b6 b7 b8 W1 ⟨B1, T1, T2, T3, J7, H7⟩)
      kernel_rfl
    · go_simp
      refine hK.out _ _ (⟨S1.out.alloc _, S2.out.alloc _, S3.out.alloc _⟩) (fun hS => ?_)
      clear hK K
      (try simp only [Act.put, List.setIfInBounds_toArray, List.set_cons_zero, List.set_cons_succ])
      have hbh : Hid (Below W.heap.size W (W.alloc (.cells (oc 0 zl).toArray 26))) := Lib.hid (bel1 W _)
      have B1 := bt B hbh
      have T1 := kt S1 hbh
      have T2 := kt S2 hbh
      have T3 := kt S3 hbh
      have J8 := Lib.hid (Bk.new W 26 (oc 0 zl))
      have H8 := Lib.hid S3.out.lt
      clear b8
      generalize W.alloc (.cells (oc 0 zl).toArray 26) = W1 at B1 T1 T2 T3 J8 ⊢
      generalize W.heap.size = b8 at J8 H8  ⊢
      refine relisted ?_ (R3_8.out b6 b7 b8 W1 ⟨B1, T1, T2, T3, J8, H8⟩)
      kernel_rfl
  · rintro b6 b7 b8 W ⟨B, S1, S2, S3, K6, G6, K7, G7, K8, G8, D67, D68, D78⟩
    refine wpAnyH_ready (rs := [3]) (by kernel_rfl) (by simp) ?_
    refine AllReadyH.cons (o := _) rfl (fun K hK => ?_) (AllReadyH.nil)
    go_simp
    refine (C2.out _ (R2.out.below B.out)).mono ?_
    rintro e W1 ⟨rfl, hb⟩
    have hbh := Lib.hid hb
    clear hb
    have B1 := bt B hbh
    have T1 := kt S1 hbh
    have T2 := kt S2 hbh
    have T3 := kt S3 hbh
    have J6 := kt K6 hbh
    have J7 := kt K7 hbh
    have J8 := kt K8 hbh
    refine hK.out _ _ (⟨T1.out, T2.out, T3.out⟩) (fun hS => ?_)
    clear hK K
    (try simp only [Act.put, List.setIfInBounds_toArray, List.set_cons_zero, List.set_cons_succ])
    exact R2_678.out b6 b7 b8 W1 ⟨B1, T1, T2, T3, J6, G6, J7, G7, J8, G8, D67, D68, D78⟩
  · rintro b6 b7 b8 W ⟨B, S1, S2, S3, K6, G6, K7, G7, D67⟩
    refine wpAnyH_ready (rs := [5, 8]) (by kernel_rfl) (by simp) ?_
    refine AllReadyH.cons (o := _) rfl (fun K hK => ?_) (AllReadyH.cons (o := _) rfl (fun K hK => ?_) (AllReadyH.nil))
    · go_simp
      refine (C3.out _ (R3.out.below B.out)).mono ?_
      rintro e W1 ⟨rfl, hb⟩
      have hbh := Lib.hid hb
      clear hb
      have B1 := bt B hbh
      have T1 := kt S1 hbh
      have T2 := kt S2 hbh
      have T3 := kt S3 hbh
      have J6 := kt K6 hbh
      have J7 := kt K7 hbh
      refine hK.out _ _ (⟨T1.out, T2.out, T3.out⟩) (fun hS => ?_)
      clear hK K
      (try simp only [Act.put, List.setIfInBounds_toArray, List.set_cons_zero, List.set_cons_succ])
      exact R3_67.out b6 b7 b8 W1 ⟨B1, T1, T2, T3, J6, G6, J7, G7, D67⟩
    · go_simp
      refine hK.out _ _ (⟨S1.out.alloc _, S2.out.alloc _, S3.out.alloc _⟩) (fun hS => ?_)
      clear hK K
      (try simp only [Act.put, List.setIfInBounds_toArray, List.set_cons_zero, List.set_cons_succ])
      have hbh : Hid (Below W.heap.size W (W.alloc (.cells (oc 0 zl).toArray 26))) := Lib.hid (bel1 W _)
      have B1 := bt B hbh
      have T1 := kt S1 hbh
      have T2 := kt S2 hbh
      have T3 := kt S3 hbh
      have J6 := kt K6 hbh
      have J7 := kt K7 hbh
      have J8 := Lib.hid (Bk.new W 26 (oc 0 zl))
      have H8 := Lib.hid S3.out.lt
      have D68 : Hid (b6 ≠ W.heap.size) := Lib.hid (by have := K6.out.lt; omega)
      have D78 : Hid (b7 ≠ W.heap.size) := Lib.hid (by have := K7.out.lt; omega)
      clear b8
      generalize W.alloc (.cells (oc 0 zl).toArray 26) = W1 at B1 T1 T2 T3 J6 J7 J8 ⊢
      generalize W.heap.size = b8 at J8 H8 D68 D78 ⊢
      refine relisted ?_ (R2_678.out b6 b7 b8 W1 ⟨B1, T1, T2, T3, J6, G6, J7, G7, J8, H8, D67, D68, D78⟩)
      kernel_rfl
  · rintro b6 b7 b8 W ⟨B, S1, S2, S3, K6, G6, K8, G8, D68⟩
    refine wpAnyH_ready (rs := [5, 7]) (by kernel_rfl) (by simp) ?_
    refine AllReadyH.cons (o := _) rfl (fun K hK => ?_) (AllReadyH.cons (o := _) rfl (fun K hK => ?_) (AllReadyH.nil))
    · go_simp
      refine (C3.out _ (R3.out.below B.out)).mono ?_
      rintro e W1 ⟨rfl, hb⟩
      have hbh := Lib.hid hb
      clear hb
      have B1 := bt B hbh
      have T1 := kt S1 hbh
      have T2 := kt S2 hbh
      have T3 := kt S3 hbh
      have J6 := kt K6 hbh
      have J8 := kt K8 hbh
      refine hK.out _ _ (⟨T1.out, T2.out, T3.out⟩) (fun hS => ?_)
      clear hK K
      (try simp only [Act.put, List.setIfInBounds_toArray, List.set_cons_zero, List.set_cons_succ])
      exact R3_68.out b6 b7 b8 W1 ⟨B1, T1, T2, T3, J6, G6, J8, G8, D68⟩
    · go_simp
      refine hK.out _ _ (⟨S1.out.alloc _, S2.out.alloc _, S3.out.alloc _⟩) (fun hS => ?_)
      clear hK K
      (try simp only [Act.put, List.setIfInBounds_toArray, List.set_cons_zero, List.set_cons_succ])
      have hbh : Hid (Below W.heap.size W (W.alloc (.cells (oc 0 zl).toArray 26))) := Lib.hid (bel1 W _)
      have B1 := bt B hbh
      have T1 := kt S1 hbh
      have T2 := kt S2 hbh
      have T3 := kt S3 hbh
      have J6 := kt K6 hbh
      have J8 := kt K8 hbh
      have J7 := Lib.hid (Bk.new W 26 (oc 0 zl))
      have H7 := Lib.hid S3.out.lt
      have D67 : Hid (b6 ≠ W.heap.size) := Lib.hid (by have := K6.out.lt; omega)
      have D78 : Hid (W.heap.size ≠ b8) := Lib.hid (by have := K8.out.lt; omega)
      clear b7
      generalize W.alloc (.cells (oc 0 zl).toArray 26) = W1 at B1 T1 T2 T3 J6 J7 J8 ⊢
      generalize W.heap.size = b7 at J7 H7 D67 D78 ⊢
      refine relisted ?_ (R2_678.out b6 b7 b8 W1 ⟨B1, T1, T2, T3, J6, G6, J7, H7, J8, G8, D67, D68, D78⟩)
      kernel_rfl
  · rintro b6 b7 b8 W ⟨B, S1, S2, S3, K7, G7, K8, G8, D78⟩
    refine wpAnyH_ready (rs := [5, 6]) (by kernel_rfl) (by simp) ?_
    refine AllReadyH.cons (o := _) rfl (fun K hK => ?_) (AllReadyH.cons (o := _) rfl (fun K hK => ?_) (AllReadyH.nil))
    · go_simp
      refine (C3.out _ (R3.out.below B.out)).mono ?_
      rintro e W1 ⟨rfl, hb⟩
      have hbh := Lib.hid hb
      clear hb
      have B1 := bt B hbh
      have T1 := kt S1 hbh
      have T2 := kt S2 hbh
      have T3 := kt S3 hbh
      have J7 := kt K7 hbh
      have J8 := kt K8 hbh
      refine hK.out _ _ (⟨T1.out, T2.out, T3.out⟩) (fun hS => ?_)
      clear hK K
      (try simp only [Act.put, List.setIfInBounds_toArray, List.set_cons_zero, List.set_cons_succ])
      exact R3_78.out b6 b7 b8 W1 ⟨B1, T1, T2, T3, J7, G7, J8, G8, D78⟩
    · go_simp
      refine hK.out _ _ (⟨S1.out.alloc _, S2.out.alloc _, S3.out.alloc _⟩) (fun hS => ?_)
      clear hK K
      (try simp only [Act.put, List.setIfInBounds_toArray, List.set_cons_zero, List.set_cons_succ])
      have hbh : Hid (Below W.heap.size W (W.alloc (.cells (oc 0 zl).toArray 26))) := Lib.hid (bel1 W _)
      have B1 := bt B hbh
      have T1 := kt S1 hbh
      have T2 := kt S2 hbh
      have T3 := kt S3 hbh
      have J7 := kt K7 hbh
      have J8 := kt K8 hbh
      have J6 := Lib.hid (Bk.new W 26 (oc 0 zl))
      have H6 := Lib.hid S3.out.lt
      have D67 : Hid (W.heap.size ≠ b7) := Lib.hid (by have := K7.out.lt; omega)
      have D68 : Hid (W.heap.size ≠ b8) := Lib.hid (by have := K8.out.lt; omega)
      clear b6
      generalize W.alloc (.cells (oc 0 zl).toArray 26) = W1 at B1 T1 T2 T3 J6 J7 J8 ⊢
      generalize W.heap.size = b6 at J6 H6 D67 D68 ⊢
      refine relisted ?_ (R2_678.out b6 b7 b8 W1 ⟨B1, T1, T2, T3, J6, H6, J7, G7, J8, G8, D67, D68, D78⟩)
      kernel_rfl
  · rintro b6 b7 b8 W ⟨B, S1, S2, S3, K6, G6⟩
    refine wpAnyH_ready (rs := [7, 8]) (by kernel_rfl) (by simp) ?_
    refine AllReadyH.cons (o := _) rfl (fun K hK => ?_) (AllReadyH.cons (o := _) rfl (fun K hK => ?_) (AllReadyH.nil))
    · go_simp
      refine hK.out _ _ (⟨S1.out.alloc _, S2.out.alloc _, S3.out.alloc _⟩) (fun hS => ?_)
      clear hK K
      (try simp only [Act.put, List.setIfInBounds_toArray, List.set_cons_zero, List.set_cons_succ])
      have hbh : Hid (Below W.heap.size W (W.alloc (.cells (oc 0 zl).toArray 26))) := Lib.hid (bel1 W _)
      have B1 := bt B hbh
      have T1 := kt S1 hbh
      have T2 := kt S2 hbh
      have T3 := kt S3 hbh
      have J6 := kt K6 hbh
      have J7 := Lib.hid (Bk.new W 26 (oc 0 zl))
      have H7 := Lib.hid S3.out.lt
      have D67 : Hid (b6 ≠ W.heap.size) := Lib.hid (by have := K6.out.lt; omega)
      clear b7
      generalize W.alloc (.cells (oc 0 zl).toArray 26) = W1 at B1 T1 T2 T3 J6 J7 ⊢
      generalize W.heap.size = b7 at J7 H7 D67 ⊢
      refine relisted ?_ (R3_67.out b6 b7 b8 W1 ⟨B1, T1, T2, T3, J6, G6, J7, H7, D67⟩)
      kernel_rfl
    · go_simp
      refine hK.out _ _ (⟨S1.out.alloc _, S2.out.alloc _, S3.out.alloc _⟩) (fun hS => ?_)
      clear hK K
      (try simp only [Act.put, List.setIfInBounds_toArray, List.set_cons_zero, List.set_cons_succ])
      have hbh : Hid (Below W.heap.size W (W.alloc (.cells (oc 0 zl).toArray 26))) := Lib.hid (bel1 W _)
      have B1 := bt B hbh
      have T1 := kt S1 hbh
      have T2 := kt S2 hbh
      have T3 := kt S3 hbh
      have J6 := kt K6 hbh
      have J8 := Lib.hid (Bk.new W 26 (oc 0 zl))
      have H8 := Lib.hid S3.out.lt
      have D68 : Hid (b6 ≠ W.heap.size) := Lib.hid (by have := K6.out.lt; omega)
      clear b8
      generalize W.alloc (.cells (oc 0 zl).toArray 26) = W1 at B1 T1 T2 T3 J6 J8 ⊢
      generalize W.heap.size = b8 at J8 H8 D68 ⊢
      refine relisted ?_ (R3_68.out b6 b7 b8 W1 ⟨B1, T1, T2, T3, J6, G6, J8, H8, D68⟩)
      kernel_rfl
  · rintro b6 b7 b8 W ⟨B, S1, S2, S3, K7, G7⟩
    refine wpAnyH_ready (rs := [6, 8]) (by kernel_rfl) (by simp) ?_
    refine AllReadyH.cons (o := _) rfl (fun K hK => ?_) (AllReadyH.cons (o := _) rfl (fun K hK => ?_) (AllReadyH.nil))
    · go_simp
      refine hK.out _ _ (⟨S1.out.alloc _, S2.out.alloc _, S3.out.alloc _⟩) (fun hS => ?_)
      clear hK K
      (try simp only [Act.put, List.setIfInBounds_toArray, List.set_cons_zero, List.set_cons_succ])
      have hbh : Hid (Below W.heap.size W (W.alloc (.cells (oc 0 zl).toArray 26))) := Lib.hid (bel1 W _)
      have B1 := bt B hbh
      have T1 := kt S1 hbh
      have T2 := kt S2 hbh
      have T3 := kt S3 hbh
      have J7 := kt K7 hbh
      have J6 := Lib.hid (Bk.new W 26 (oc 0 zl))
      have H6 := Lib.hid S3.out.lt
      have D67 : Hid (W.heap.size ≠ b7) := Lib.hid (by have := K7.out.lt; omega)
      clear b6
      generalize W.alloc (.cells (oc 0 zl).toArray 26) = W1 at B1 T1 T2 T3 J6 J7 ⊢
      generalize W.heap.size = b6 at J6 H6 D67 ⊢
      refine relisted ?_ (R3_67.out b6 b7 b8 W1 ⟨B1, T1, T2, T3, J6, H6, J7, G7, D67⟩)
      kernel_rfl
    · go_simp
      refine hK.out _ _ (⟨S1.out.alloc _, S2.out.alloc _, S3.out.alloc _⟩) (fun hS => ?_)
      clear hK K
      (try simp only [Act.put, List.setIfInBounds_toArray, List.set_cons_zero, List.set_cons_succ])
      have hbh : Hid (Below W.heap.size W (W.alloc (.cells (oc 0 zl).toArray 26))) := Lib.hid (bel1 W _)
      have B1 := bt B hbh
      have T1 := kt S1 hbh
      have T2 := kt S2 hbh
      have T3 := kt S3 hbh
      have J7 := kt K7 hbh
      have J8 := Lib.hid (Bk.new W 26 (oc 0 zl))
      have H8 := Lib.hid S3.out.lt
      have D78 : Hid (b7 ≠ W.heap.size) := Lib.hid (by have := K7.out.lt; omega)
      clear b8
      generalize W.alloc (.cells (oc 0 zl).toArray 26) = W1 at B1 T1 T2 T3 J7 J8 ⊢
      generalize W.heap.size = b8 at J8 H8 D78 ⊢
      refine relisted ?_ (R3_78.out b6 b7 b8 W1 ⟨B1, T1, T2, T3, J7, G7, J8, H8, D78⟩)
      kernel_rfl
  · rintro b6 b7 b8 W ⟨B, S1, S2, S3, K8, G8⟩
    refine wpAnyH_ready (rs := [6, 7]) (by kernel_rfl) (by simp) ?_
    refine AllReadyH.cons (o := _) rfl (fun K hK => ?_) (AllReadyH.cons (o := _) rfl (fun K hK => ?_) (AllReadyH.nil))
    · go_simp
      refine hK.out _ _ (⟨S1.out.alloc _, S2.out.alloc _, S3.out.alloc _⟩) (fun hS => ?_)
      clear hK K
      (try simp only [Act.put, List.setIfInBounds_toArray, List.set_cons_zero, List.set_cons_succ])
      have hbh : Hid (Below W.heap.size W (W.alloc (.cells (oc 0 zl).toArray 26))) := Lib.hid (bel1 W _)
      have B1 := bt B hbh
      have T1 := kt S1 hbh
      have T2 := kt S2 hbh
      have T3 := kt S3 hbh
      have J8 := kt K8 hbh
      have J6 := Lib.hid (Bk.new W 26 (oc 0 zl))
      have H6 := Lib.hid S3.out.lt
      have D68 : Hid (W.heap.size ≠ b8) := Lib.hid (by have := K8.out.lt; omega)
      clear b6
      generalize W.alloc (.cells (oc 0 zl).toArray 26) = W1 at B1 T1 T2 T3 J6 J8 ⊢
      generalize W.heap.size = b6 at J6 H6 D68 ⊢
      refine relisted ?_ (R3_68.out b6 b7 b8 W1 ⟨B1, T1, T2, T3, J6, H6, J8, G8, D68⟩)
      kernel_rfl
    · go_simp
      refine hK.out _ _ (⟨S1.out.alloc _, S2.out.alloc _, S3.out.alloc _⟩) (fun hS => ?_)
      clear hK K
      (try simp only [Act.put, List.setIfInBounds_toArray, List.set_cons_zero, List.set_cons_succ])
      have hbh : Hid (Below W.heap.size W (W.alloc (.cells (oc 0 zl).toArray 26))) := Lib.hid (bel1 W _)
      have B1 := bt B hbh
      have T1 := kt S1 hbh
      have T2 := kt S2 hbh
      have T3 := kt S3 hbh
      have J8 := kt K8 hbh
      have J7 := Lib.hid (Bk.new W 26 (oc 0 zl))
      have H7 := Lib.hid S3.out.lt
      have D78 : Hid (W.heap.size ≠ b8) := Lib.hid (by have := K8.out.lt; omega)
      clear b7
      generalize W.alloc (.cells (oc 0 zl).toArray 26) = W1 at B1 T1 T2 T3 J7 J8 ⊢
      generalize W.heap.size = b7 at J7 H7 D78 ⊢
      refine relisted ?_ (R3_78.out b6 b7 b8 W1 ⟨B1, T1, T2, T3, J7, H7, J8, G8, D78⟩)
      kernel_rfl
  · rintro b6 b7 b8 W ⟨B, S1, S2, S3, K6, G6, K7, G7, K8, G8, D67, D68, D78⟩
    refine wpAnyH_ready (rs := [5]) (by kernel_rfl) (by simp) ?_
    refine AllReadyH.cons (o := _) rfl (fun K hK => ?_) (AllReadyH.nil)
    go_simp
    refine (C3.out _ (R3.out.below B.out)).mono ?_
    rintro e W1 ⟨rfl, hb⟩
    have hbh := Lib.hid hb
    clear hb
    have B1 := bt B hbh
    have T1 := kt S1 hbh
    have T2 := kt S2 hbh
    have T3 := kt S3 hbh
    have J6 := kt K6 hbh
    have J7 := kt K7 hbh
    have J8 := kt K8 hbh
    refine hK.out _ _ (⟨T1.out, T2.out, T3.out⟩) (fun hS => ?_)
    clear hK K
    (try simp only [Act.put, List.setIfInBounds_toArray, List.set_cons_zero, List.set_cons_succ])
    exact R3_678.out b6 b7 b8 W1 ⟨B1, T1, T2, T3, J6, G6, J7, G7, J8, G8, D67, D68, D78⟩
  · rintro b6 b7 b8 W ⟨B, S1, S2, S3, K6, G6, K7, G7, D67⟩
    refine wpAnyH_ready (rs := [8]) (by kernel_rfl) (by simp) ?_
    refine AllReadyH.cons (o := _) rfl (fun K hK => ?_) (AllReadyH.nil)
    go_simp
    refine hK.out _ _ (⟨S1.out.alloc _, S2.out.alloc _, S3.out.alloc _⟩) (fun hS => ?_)
    clear hK K
    (try simp only [Act.put, List.setIfInBounds_toArray, List.set_cons_zero, List.set_cons_succ])
    have hbh : Hid (Below W.heap.size W (W.alloc (.cells (oc 0 zl).toArray 26))) := Lib.hid (bel1 W _)
    have B1 := bt B hbh
    have T1 := kt S1 hbh
    have T2 := kt S2 hbh
    have T3 := kt S3 hbh
    have J6 := kt K6 hbh
    have J7 := kt K7 hbh
    have J8 := Lib.hid (Bk.new W 26 (oc 0 zl))
    have H8 := Lib.hid S3.out.lt
    have D68 : Hid (b6 ≠ W.heap.size) := Lib.hid (by have := K6.out.lt; omega)
    have D78 : Hid (b7 ≠ W.heap.size) := Lib.hid (by have := K7.out.lt; omega)
    clear b8
    generalize W.alloc (.cells (oc 0 zl).toArray 26) = W1 at B1 T1 T2 T3 J6 J7 J8 ⊢
    generalize W.heap.size = b8 at J8 H8 D68 D78 ⊢
    refine relisted ?_ (R3_678.out b6 b7 b8 W1 ⟨B1, T1, T2, T3, J6, G6, J7, G7, J8, H8, D67, D68, D78⟩)
    kernel_rfl
  · rintro b6 b7 b8 W ⟨B, S1, S2, S3, K6, G6, K8, G8, D68⟩
    refine wpAnyH_ready (rs := [7]) (by kernel_rfl) (by simp) ?_
    refine AllReadyH.cons (o := _) rfl (fun K hK => ?_) (AllReadyH.nil)
    go_simp
    refine hK.out _ _ (⟨S1.out.alloc _, S2.out.alloc _, S3.out.alloc _⟩) (fun hS => ?_)
    clear hK K
    (try simp only [Act.put, List.setIfInBounds_toArray, List.set_cons_zero, List.set_cons_succ])
    have hbh : Hid (Below W.heap.size W (W.alloc (.cells (oc 0 zl).toArray 26))) := Lib.hid (bel1 W _)
    have B1 := bt B hbh
    have T1 := kt S1 hbh
    have T2 := kt S2 hbh
    have T3 := kt S3 hbh
    have J6 := kt K6 hbh
    have J8 := kt K8 hbh
    have J7 := Lib.hid (Bk.new W 26 (oc 0 zl))
    have H7 := Lib.hid S3.out.lt
    have D67 : Hid (b6 ≠ W.heap.size) := Lib.hid (by have := K6.out.lt; omega)
    have D78 : Hid (W.heap.size ≠ b8) := Lib.hid (by have := K8.out.lt; omega)
    clear b7
    generalize W.alloc (.cells (oc 0 zl).toArray 26) = W1 at B1 T1 T2 T3 J6 J7 J8 ⊢
    generalize W.heap.size = b7 at J7 H7 D67 D78 ⊢
    refine relisted ?_ (R3_678.out b6 b7 b8 W1 ⟨B1, T1, T2, T3, J6, G6, J7, H7, J8, G8, D67, D68, D78⟩)
    kernel_rfl
  · rintro b6 b7 b8 W ⟨B, S1, S2, S3, K7, G7, K8, G8, D78⟩
    refine wpAnyH_ready (rs := [6]) (by kernel_rfl) (by simp) ?_
    refine AllReadyH.cons (o := _) rfl (fun K hK => ?_) (AllReadyH.nil)
    go_simp
    refine hK.out _ _ (⟨S1.out.alloc _, S2.out.alloc _, S3.out.alloc _⟩) (fun hS => ?_)
    clear hK K
    (try simp only [Act.put, List.setIfInBounds_toArray, List.set_cons_zero, List.set_cons_succ])
    have hbh : Hid (Below W.heap.size W (W.alloc (.cells (oc 0 zl).toArray 26))) := Lib.hid (bel1 W _)
    have B1 := bt B hbh
    have T1 := kt S1 hbh
    have T2 := kt S2 hbh
    have T3 := kt S3 hbh
    have J7 := kt K7 hbh
    have J8 := kt K8 hbh
    have J6 := Lib.hid (Bk.new W 26 (oc 0 zl))
    have H6 := Lib.hid S3.out.lt
    have D67 : Hid (W.heap.size ≠ b7) := Lib.hid (by have := K7.out.lt; omega)
    have D68 : Hid (W.heap.size ≠ b8) := Lib.hid (by have := K8.out.lt; omega)
    clear b6
    generalize W.alloc (.cells (oc 0 zl).toArray 26) = W1 at B1 T1 T2 T3 J6 J7 J8 ⊢
    generalize W.heap.size = b6 at J6 H6 D67 D68 ⊢
    refine relisted ?_ (R3_678.out b6 b7 b8 W1 ⟨B1, T1, T2, T3, J6, H6, J7, G7, J8, G8, D67, D68, D78⟩)
    kernel_rfl
  rintro b6 b7 b8 W ⟨B, S1, S2, S3, K6, G6, K7, G7, K8, G8, D67, D68, D78⟩
  refine wpAnyH_ready (rs := [9]) (by kernel_rfl) (by simp) ?_
  refine AllReadyH.cons (o := _) rfl (fun K hK => ?_) (AllReadyH.nil)
  refine store25_wp (.tmp 7) (.tmp 13) rfl (n := n1) (l := L1) rfl rfl K6.out (by rw [oc_length, HZL.out]) hl1 ?_
  intro W1 V hg hz
  have J6 := Lib.hid V
  have C01 : Hid (Below w.heap.size w W1) := Lib.hid (B.out.grown hg B.out.size (fun k e => by injection e with e; have := G6.out; omega))
  have T1 := Lib.hid (S1.out.only hg (by intro e; injection e with e; have := G6.out; omega))
  have T2 := Lib.hid (S2.out.only hg (by intro e; injection e with e; have := G6.out; omega))
  have T3 := Lib.hid (S3.out.only hg (by intro e; injection e with e; have := G6.out; omega))
  have M7 := Lib.hid (K7.out.only hg (by intro e; injection e with e; have := D67.out; omega))
  have M8 := Lib.hid (K8.out.only hg (by intro e; injection e with e; have := D68.out; omega))
  clear V hg hz B S1 S2 S3 K6 K7 K8
  refine hK.out _ _ (⟨T1.out, T2.out, T3.out⟩) (fun hS => ?_)
  clear hK K
  (try simp only [Act.put, List.setIfInBounds_toArray, List.set_cons_zero, List.set_cons_succ])
  have B := C01
  have S1 := T1
  have S2 := T2
  have S3 := T3
  have K6 := J6
  have K7 := M7
  have K8 := M8
  clear C01 T1 T2 T3 J6 M7 M8
  refine wpAnyH_ready (rs := [10]) (by kernel_rfl) (by simp) ?_
  refine AllReadyH.cons (o := _) rfl (fun K hK => ?_) (AllReadyH.nil)
  refine store25_wp (.tmp 8) (.tmp 15) rfl (n := n2) (l := L2) rfl rfl K7.out (by rw [oc_length, HZL.out]) hl2 ?_
  intro W2 V hg hz
  have J7 := Lib.hid V
  have C11 : Hid (Below w.heap.size w W2) := Lib.hid (B.out.grown hg B.out.size (fun k e => by injection e with e; have := G7.out; omega))
  have T1 := Lib.hid (S1.out.only hg (by intro e; injection e with e; have := G7.out; omega))
  have T2 := Lib.hid (S2.out.only hg (by intro e; injection e with e; have := G7.out; omega))
  have T3 := Lib.hid (S3.out.only hg (by intro e; injection e with e; have := G7.out; omega))
  have M6 := Lib.hid (K6.out.only hg (by intro e; injection e with e; have := D67.out; omega))
  have M8 := Lib.hid (K8.out.only hg (by intro e; injection e with e; have := D78.out; omega))
  clear V hg hz B S1 S2 S3 K6 K7 K8
  refine hK.out _ _ (⟨T1.out, T2.out, T3.out⟩) (fun hS => ?_)
  clear hK K
  (try simp only [Act.put, List.setIfInBounds_toArray, List.set_cons_zero, List.set_cons_succ])
  have B := C11
  have S1 := T1
  have S2 := T2
  have S3 := T3
  have K7 := J7
  have K6 := M6
  have K8 := M8
  clear C11 T1 T2 T3 J7 M6 M8
  refine wpAnyH_ready (rs := [11]) (by kernel_rfl) (by simp) ?_
  refine AllReadyH.cons (o := _) rfl (fun K hK => ?_) (AllReadyH.nil)
  refine store25_wp (.tmp 9) (.tmp 17) rfl (n := n3) (l := L3) rfl rfl K8.out (by rw [oc_length, HZL.out]) hl3 ?_
  intro W3 V hg hz
  have J8 := Lib.hid V
  have C21 : Hid (Below w.heap.size w W3) := Lib.hid (B.out.grown hg B.out.size (fun k e => by injection e with e; have := G8.out; omega))
  have T1 := Lib.hid (S1.out.only hg (by intro e; injection e with e; have := G8.out; omega))
  have T2 := Lib.hid (S2.out.only hg (by intro e; injection e with e; have := G8.out; omega))
  have T3 := Lib.hid (S3.out.only hg (by intro e; injection e with e; have := G8.out; omega))
  have M6 := Lib.hid (K6.out.only hg (by intro e; injection e with e; have := D68.out; omega))
  have M7 := Lib.hid (K7.out.only hg (by intro e; injection e with e; have := D78.out; omega))
  clear V hg hz B S1 S2 S3 K6 K7 K8
  refine hK.out _ _ (⟨T1.out, T2.out, T3.out⟩) (fun hS => ?_)
  clear hK K
  (try simp only [Act.put, List.setIfInBounds_toArray, List.set_cons_zero, List.set_cons_succ])
  have B := C21
  have S1 := T1
  have S2 := T2
  have S3 := T3
  have K8 := J8
  have K6 := M6
  have K7 := M7
  clear C21 T1 T2 T3 J8 M6 M7
  refine wpAnyH_done (by kernel_rfl) ?_ _
  clear S1 S2 S3 R1 R2 R3 C1 C2 C3 hS hz
  have hle := fun (h1 : cmpO n1 L1 n2 L2 ≤ 0) (h2 : cmpO n2 L2 n3 L3 ≤ 0) => cmpO_le h1 h2
  have hbel := bel_has ho1 ho2 hc1 hc2
  have hlt := fun h => hasO_cmp ho1 ho2 h
  have Q12 := Lib.hid (fun W => compare_any n1 L1 n2 L2 W ho1 ho2)
  have Q23 := Lib.hid (fun W => compare_any n2 L2 n3 L3 W ho2 ho3)
  have Q13 := Lib.hid (fun W => compare_any n1 L1 n3 L3 W ho1 ho3)
  have QH := Lib.hid (fun W => has_any n1 L1 n2 L2 W ho1 ho2)
  have hn1 : n1 < 256 := by have := (chkO_n hc1); omega
  clear ho1 ho2 ho3 hc1 hc2 hc3
  generalize cmpO n1 L1 n2 L2 = x at *
  generalize cmpO n2 L2 n3 L3 = y at *
  generalize cmpO n1 L1 n3 L3 = z at *
  generalize hasO n1 L1 n2 L2 = hh at *
  have HB := Lib.hid hbel
  have HLT := Lib.hid hlt
  clear hbel hlt
  rw [show W3 = W3 from rfl]
  rcases Int.lt_or_le 0 x with hx | hx
  · clear hle
    go_wp2_with (first | (refine wpList_load25g (by rfl) (.tmp 7) rfl rfl K6.out hl1 ?_) | (refine wpList_load25g (by rfl) (.tmp 8) rfl rfl K7.out hl2 ?_) | (refine wpList_load25g (by rfl) (.tmp 9) rfl rfl K8.out hl3 ?_))
    refine (Q12.out _).mono ?_
    rintro e V1 ⟨rfl, hb⟩
    have hbh := Lib.hid hb
    have J6 := kt K6 hbh
    have J7 := kt K7 hbh
    have J8 := kt K8 hbh
    have Bn := bt B hbh
    clear hb hbh B K6 K7 K8
    have B := Bn
    have K6 := J6
    have K7 := J7
    have K8 := J8
    clear Bn J6 J7 J8
    go_upto_region 4 with (first | (refine wpList_load25g (by rfl) (.tmp 7) rfl rfl K6.out hl1 ?_) | (refine wpList_load25g (by rfl) (.tmp 8) rfl rfl K7.out hl2 ?_) | (refine wpList_load25g (by rfl) (.tmp 9) rfl rfl K8.out hl3 ?_))
    have c6 := oid_n K6.out
    have c7 := oid_n K7.out
    go_upto_region 6 with fail
    clear c6 c7
    go_loopw [10, 11] (fun bv iv wr => ∃ j : Nat, j ≤ 16 ∧ bv = .bool (bel n1 L1 n2 L2 j) ∧ iv = .int .i64 (j : Int) ∧ Bk wr b6 26 (oc n1 L1) ∧ Bk wr b7 26 (oc n2 L2) ∧ Below w.heap.size w wr) (fun _ iv _ => 16 - (intOf iv).toNat)
    case atStart => exact ⟨0, by omega, rfl, rfl, K6.out, K7.out, B.out⟩
    case round =>
      rename_i wr
      obtain ⟨j, hj, rfl, rfl, k6, k7, kb⟩ := hrel
      have M6 := Lib.hid k6
      have M7 := Lib.hid k7
      have MB := Lib.hid kb
      clear k6 k7 kb K6 K7 K8 B
      rcases Nat.lt_or_ge j 16 with hj2 | hj2
      · have e6 := oid_a' M6.out (i := j) (by rw [hl1]; exact hj2)
        have e7 := oid_a' M7.out (i := j) (by rw [hl2]; exact hj2)
        have c6 := oid_n M6.out
        have hg1 : L1[j]'(by rw [hl1]; exact hj2) = L1.getD j 0 := by rw [List.getD_eq_getElem?_getD, List.getElem?_eq_getElem (by rw [hl1]; exact hj2)]; rfl
        have hg2 : L2[j]'(by rw [hl2]; exact hj2) = L2.getD j 0 := by rw [List.getD_eq_getElem?_getD, List.getElem?_eq_getElem (by rw [hl2]; exact hj2)]; rfl
        rw [hg1] at e6
        rw [hg2] at e7
        clear hg1 hg2
        have hstep : bel n1 L1 n2 L2 (j + 1) = (bel n1 L1 n2 L2 j && (decide (n1 ≤ j) || decide (L1.getD j 0 = L2.getD j 0))) := rfl
        have M6d : Hid (Bk wr.drew b6 26 (oc n1 L1)) := Lib.hid (show Bk wr b6 26 (oc n1 L1) from M6.out)
        have M7d : Hid (Bk wr.drew b7 26 (oc n2 L2)) := Lib.hid (show Bk wr b7 26 (oc n2 L2) from M7.out)
        have MBd : Hid (Below w.heap.size w wr.drew) := Lib.hid MB.out.drew
        generalize L1.getD j 0 = x1 at *
        generalize L2.getD j 0 = x2 at *
        have HST : Hid (∃ q, bel n1 L1 n2 L2 (j + 1) = q) := Lib.hid ⟨_, rfl⟩
        obtain ⟨q, hq⟩ := HST.out
        rw [hq] at hstep
        generalize bel n1 L1 n2 L2 j = p at *
        cases p with
        | false =>
          have hqf : q = false := by rw [hstep]; rfl
          have HQ := Lib.hid (hq.trans hqf)
          clear hq hqf hstep HST
          go_upto_region 8 with fail
          go_region
          go_wp2_with fail
          exact ⟨⟨j + 1, by omega, by rw [HQ.out], by go_num, M6d.out, M7d.out, MBd.out⟩, by simp [intOf]; omega⟩
        | true =>
          by_cases hn : n1 ≤ j
          · have hqf : q = true := by rw [hstep, decide_eq_true hn]; rfl
            have HQ := Lib.hid (hq.trans hqf)
            have hni : (j : Int) ≥ (n1 : Int) := by omega
            clear hq hqf hstep HST
            go_upto_region 8 with fail
            go_region
            go_wp2_with fail
            exact ⟨⟨j + 1, by omega, by rw [HQ.out], by go_num, M6d.out, M7d.out, MBd.out⟩, by simp [intOf]; omega⟩
          · have hni : ¬ (j : Int) ≥ (n1 : Int) := by omega
            by_cases hx : x1 = x2
            · have hqf : q = true := by rw [hstep, decide_eq_true hx, decide_eq_false hn]; rfl
              have HQ := Lib.hid (hq.trans hqf)
              subst hx
              clear hq hqf hstep HST
              go_upto_region 8 with fail
              go_region
              go_wp2_with fail
              exact ⟨⟨j + 1, by omega, by rw [HQ.out], by go_num, M6d.out, M7d.out, MBd.out⟩, by simp [intOf]; omega⟩
            · have hqf : q = false := by rw [hstep, decide_eq_false hx, decide_eq_false hn]; rfl
              have HQ := Lib.hid (hq.trans hqf)
              have hxi : ¬ (x1 : Int) = (x2 : Int) := by omega
              clear hq hqf hstep HST
              go_upto_region 8 with fail
              go_region
              go_wp2_with fail
              exact ⟨⟨j + 1, by omega, by rw [HQ.out]; simp [hxi], by go_num, M6d.out, M7d.out, MBd.out⟩, by simp [intOf]; omega⟩
      · obtain rfl : j = 16 := by omega
        rw [HB.out]
        have K6 := M6
        have K7 := M7
        have B := MB
        clear M6 M7 MB HB
        obtain ⟨w0, rfl⟩ : ∃ v, v = wr := ⟨_, rfl⟩
        cases hh with
        | false =>
          go_wp2_with (first | (refine wpList_load25g (by rfl) (.tmp 7) rfl rfl K6.out hl1 ?_) | (refine wpList_load25g (by rfl) (.tmp 8) rfl rfl K7.out hl2 ?_))
          refine (QH.out _).mono ?_
          rintro e wh ⟨rfl, hb⟩
          have hbh := Lib.hid hb
          have BV := bt B hbh
          have J6 := kt K6 hbh
          have J7 := kt K7 hbh
          clear hb hbh B K6 K7
          have K6 := J6
          have K7 := J7
          clear J6 J7
          go_wp2_with (first | (refine wpList_load25g (by rfl) (.tmp 7) rfl rfl K6.out hl1 ?_) | (refine wpList_load25g (by rfl) (.tmp 8) rfl rfl K7.out hl2 ?_))
          refine (lives_any _ (E0.out.below BV.out)).mono ?_
          rintro e wz ⟨rfl, hb⟩
          have BZ := bt BV (Lib.hid hb)
          clear hb
          go_wp2_with fail
          go_ret
          exact ⟨rfl, BZ.out⟩
        | true =>
          have hx1 := HLT.out rfl
          have hx0 : x = -1 := hx1
          clear hx1
          subst hx0
          go_wp2_with (first | (refine wpList_load25g (by rfl) (.tmp 7) rfl rfl K6.out hl1 ?_) | (refine wpList_load25g (by rfl) (.tmp 8) rfl rfl K7.out hl2 ?_))
          refine (QH.out _).mono ?_
          rintro e wh ⟨rfl, hb⟩
          have hbh := Lib.hid hb
          have BV := bt B hbh
          have J6 := kt K6 hbh
          have J7 := kt K7 hbh
          clear hb hbh B K6 K7
          have K6 := J6
          have K7 := J7
          clear J6 J7
          go_wp2_with (first | (refine wpList_load25g (by rfl) (.tmp 7) rfl rfl K6.out hl1 ?_) | (refine wpList_load25g (by rfl) (.tmp 8) rfl rfl K7.out hl2 ?_))
          refine (Q12.out _).mono ?_
          rintro e wq ⟨rfl, hb⟩
          have BV2 := bt BV (Lib.hid hb)
          clear hb BV K6 K7
          go_wp2_with (first | (refine wpList_load25g (by rfl) (.tmp 7) rfl rfl K6.out hl1 ?_) | (refine wpList_load25g (by rfl) (.tmp 8) rfl rfl K7.out hl2 ?_))
          refine (lives_any _ (E0.out.below BV2.out)).mono ?_
          rintro e wz ⟨rfl, hb⟩
          have BZ := bt BV2 (Lib.hid hb)
          clear hb
          go_wp2_with fail
          go_ret
          exact ⟨rfl, BZ.out⟩
  · rcases Int.lt_or_le 0 y with hy | hy
    · clear hle
      go_wp2_with (first | (refine wpList_load25g (by rfl) (.tmp 7) rfl rfl K6.out hl1 ?_) | (refine wpList_load25g (by rfl) (.tmp 8) rfl rfl K7.out hl2 ?_) | (refine wpList_load25g (by rfl) (.tmp 9) rfl rfl K8.out hl3 ?_))
      refine (Q12.out _).mono ?_
      rintro e V1 ⟨rfl, hb⟩
      have hbh := Lib.hid hb
      have J6 := kt K6 hbh
      have J7 := kt K7 hbh
      have J8 := kt K8 hbh
      have Bn := bt B hbh
      clear hb hbh B K6 K7 K8
      have B := Bn
      have K6 := J6
      have K7 := J7
      have K8 := J8
      clear Bn J6 J7 J8
      go_wp2_with (first | (refine wpList_load25g (by rfl) (.tmp 7) rfl rfl K6.out hl1 ?_) | (refine wpList_load25g (by rfl) (.tmp 8) rfl rfl K7.out hl2 ?_) | (refine wpList_load25g (by rfl) (.tmp 9) rfl rfl K8.out hl3 ?_))
      refine (Q23.out _).mono ?_
      rintro e V2 ⟨rfl, hb⟩
      have hbh := Lib.hid hb
      have J6 := kt K6 hbh
      have J7 := kt K7 hbh
      have J8 := kt K8 hbh
      have Bn := bt B hbh
      clear hb hbh B K6 K7 K8
      have B := Bn
      have K6 := J6
      have K7 := J7
      have K8 := J8
      clear Bn J6 J7 J8
      go_upto_region 4 with (first | (refine wpList_load25g (by rfl) (.tmp 7) rfl rfl K6.out hl1 ?_) | (refine wpList_load25g (by rfl) (.tmp 8) rfl rfl K7.out hl2 ?_) | (refine wpList_load25g (by rfl) (.tmp 9) rfl rfl K8.out hl3 ?_))
      have c6 := oid_n K6.out
      have c7 := oid_n K7.out
      go_upto_region 6 with fail
      clear c6 c7
      go_loopw [10, 11] (fun bv iv wr => ∃ j : Nat, j ≤ 16 ∧ bv = .bool (bel n1 L1 n2 L2 j) ∧ iv = .int .i64 (j : Int) ∧ Bk wr b6 26 (oc n1 L1) ∧ Bk wr b7 26 (oc n2 L2) ∧ Below w.heap.size w wr) (fun _ iv _ => 16 - (intOf iv).toNat)
      case atStart => exact ⟨0, by omega, rfl, rfl, K6.out, K7.out, B.out⟩
      case round =>
        rename_i wr
        obtain ⟨j, hj, rfl, rfl, k6, k7, kb⟩ := hrel
        have M6 := Lib.hid k6
        have M7 := Lib.hid k7
        have MB := Lib.hid kb
        clear k6 k7 kb K6 K7 K8 B
        rcases Nat.lt_or_ge j 16 with hj2 | hj2
        · have e6 := oid_a' M6.out (i := j) (by rw [hl1]; exact hj2)
          have e7 := oid_a' M7.out (i := j) (by rw [hl2]; exact hj2)
          have c6 := oid_n M6.out
          have hg1 : L1[j]'(by rw [hl1]; exact hj2) = L1.getD j 0 := by rw [List.getD_eq_getElem?_getD, List.getElem?_eq_getElem (by rw [hl1]; exact hj2)]; rfl
          have hg2 : L2[j]'(by rw [hl2]; exact hj2) = L2.getD j 0 := by rw [List.getD_eq_getElem?_getD, List.getElem?_eq_getElem (by rw [hl2]; exact hj2)]; rfl
          rw [hg1] at e6
          rw [hg2] at e7
          clear hg1 hg2
          have hstep : bel n1 L1 n2 L2 (j + 1) = (bel n1 L1 n2 L2 j && (decide (n1 ≤ j) || decide (L1.getD j 0 = L2.getD j 0))) := rfl
          have M6d : Hid (Bk wr.drew b6 26 (oc n1 L1)) := Lib.hid (show Bk wr b6 26 (oc n1 L1) from M6.out)
          have M7d : Hid (Bk wr.drew b7 26 (oc n2 L2)) := Lib.hid (show Bk wr b7 26 (oc n2 L2) from M7.out)
          have MBd : Hid (Below w.heap.size w wr.drew) := Lib.hid MB.out.drew
          generalize L1.getD j 0 = x1 at *
          generalize L2.getD j 0 = x2 at *
          have HST : Hid (∃ q, bel n1 L1 n2 L2 (j + 1) = q) := Lib.hid ⟨_, rfl⟩
          obtain ⟨q, hq⟩ := HST.out
          rw [hq] at hstep
          generalize bel n1 L1 n2 L2 j = p at *
          cases p with
          | false =>
            have hqf : q = false := by rw [hstep]; rfl
            have HQ := Lib.hid (hq.trans hqf)
            clear hq hqf hstep HST
            go_upto_region 8 with fail
            go_region
            go_wp2_with fail
            exact ⟨⟨j + 1, by omega, by rw [HQ.out], by go_num, M6d.out, M7d.out, MBd.out⟩, by simp [intOf]; omega⟩
          | true =>
            by_cases hn : n1 ≤ j
            · have hqf : q = true := by rw [hstep, decide_eq_true hn]; rfl
              have HQ := Lib.hid (hq.trans hqf)
              have hni : (j : Int) ≥ (n1 : Int) := by omega
              clear hq hqf hstep HST
              go_upto_region 8 with fail
              go_region
              go_wp2_with fail
              exact ⟨⟨j + 1, by omega, by rw [HQ.out], by go_num, M6d.out, M7d.out, MBd.out⟩, by simp [intOf]; omega⟩
            · have hni : ¬ (j : Int) ≥ (n1 : Int) := by omega
              by_cases hx : x1 = x2
              · have hqf : q = true := by rw [hstep, decide_eq_true hx, decide_eq_false hn]; rfl
                have HQ := Lib.hid (hq.trans hqf)
                subst hx
                clear hq hqf hstep HST
                go_upto_region 8 with fail
                go_region
                go_wp2_with fail
                exact ⟨⟨j + 1, by omega, by rw [HQ.out], by go_num, M6d.out, M7d.out, MBd.out⟩, by simp [intOf]; omega⟩
              · have hqf : q = false := by rw [hstep, decide_eq_false hx, decide_eq_false hn]; rfl
                have HQ := Lib.hid (hq.trans hqf)
                have hxi : ¬ (x1 : Int) = (x2 : Int) := by omega
                clear hq hqf hstep HST
                go_upto_region 8 with fail
                go_region
                go_wp2_with fail
                exact ⟨⟨j + 1, by omega, by rw [HQ.out]; simp [hxi], by go_num, M6d.out, M7d.out, MBd.out⟩, by simp [intOf]; omega⟩
        · obtain rfl : j = 16 := by omega
          rw [HB.out]
          have K6 := M6
          have K7 := M7
          have B := MB
          clear M6 M7 MB HB
          obtain ⟨w0, rfl⟩ : ∃ v, v = wr := ⟨_, rfl⟩
          cases hh with
          | false =>
            go_wp2_with (first | (refine wpList_load25g (by rfl) (.tmp 7) rfl rfl K6.out hl1 ?_) | (refine wpList_load25g (by rfl) (.tmp 8) rfl rfl K7.out hl2 ?_))
            refine (QH.out _).mono ?_
            rintro e wh ⟨rfl, hb⟩
            have hbh := Lib.hid hb
            have BV := bt B hbh
            have J6 := kt K6 hbh
            have J7 := kt K7 hbh
            clear hb hbh B K6 K7
            have K6 := J6
            have K7 := J7
            clear J6 J7
            go_wp2_with (first | (refine wpList_load25g (by rfl) (.tmp 7) rfl rfl K6.out hl1 ?_) | (refine wpList_load25g (by rfl) (.tmp 8) rfl rfl K7.out hl2 ?_))
            refine (lives_any _ (E0.out.below BV.out)).mono ?_
            rintro e wz ⟨rfl, hb⟩
            have BZ := bt BV (Lib.hid hb)
            clear hb
            go_wp2_with fail
            go_ret
            exact ⟨rfl, BZ.out⟩
          | true =>
            have hx1 := HLT.out rfl
            have hx0 : x = -1 := hx1
            clear hx1
            subst hx0
            go_wp2_with (first | (refine wpList_load25g (by rfl) (.tmp 7) rfl rfl K6.out hl1 ?_) | (refine wpList_load25g (by rfl) (.tmp 8) rfl rfl K7.out hl2 ?_))
            refine (QH.out _).mono ?_
            rintro e wh ⟨rfl, hb⟩
            have hbh := Lib.hid hb
            have BV := bt B hbh
            have J6 := kt K6 hbh
            have J7 := kt K7 hbh
            clear hb hbh B K6 K7
            have K6 := J6
            have K7 := J7
            clear J6 J7
            go_wp2_with (first | (refine wpList_load25g (by rfl) (.tmp 7) rfl rfl K6.out hl1 ?_) | (refine wpList_load25g (by rfl) (.tmp 8) rfl rfl K7.out hl2 ?_))
            refine (Q12.out _).mono ?_
            rintro e wq ⟨rfl, hb⟩
            have BV2 := bt BV (Lib.hid hb)
            clear hb BV K6 K7
            go_wp2_with (first | (refine wpList_load25g (by rfl) (.tmp 7) rfl rfl K6.out hl1 ?_) | (refine wpList_load25g (by rfl) (.tmp 8) rfl rfl K7.out hl2 ?_))
            refine (lives_any _ (E0.out.below BV2.out)).mono ?_
            rintro e wz ⟨rfl, hb⟩
            have BZ := bt BV2 (Lib.hid hb)
            clear hb
            go_wp2_with fail
            go_ret
            exact ⟨rfl, BZ.out⟩
    · have hzz := hle hx hy
      clear hle
      go_wp2_with (first | (refine wpList_load25g (by rfl) (.tmp 7) rfl rfl K6.out hl1 ?_) | (refine wpList_load25g (by rfl) (.tmp 8) rfl rfl K7.out hl2 ?_) | (refine wpList_load25g (by rfl) (.tmp 9) rfl rfl K8.out hl3 ?_))
      refine (Q12.out _).mono ?_
      rintro e V1 ⟨rfl, hb⟩
      have hbh := Lib.hid hb
      have J6 := kt K6 hbh
      have J7 := kt K7 hbh
      have J8 := kt K8 hbh
      have Bn := bt B hbh
      clear hb hbh B K6 K7 K8
      have B := Bn
      have K6 := J6
      have K7 := J7
      have K8 := J8
      clear Bn J6 J7 J8
      go_wp2_with (first | (refine wpList_load25g (by rfl) (.tmp 7) rfl rfl K6.out hl1 ?_) | (refine wpList_load25g (by rfl) (.tmp 8) rfl rfl K7.out hl2 ?_) | (refine wpList_load25g (by rfl) (.tmp 9) rfl rfl K8.out hl3 ?_))
      refine (Q23.out _).mono ?_
      rintro e V2 ⟨rfl, hb⟩
      have hbh := Lib.hid hb
      have J6 := kt K6 hbh
      have J7 := kt K7 hbh
      have J8 := kt K8 hbh
      have Bn := bt B hbh
      clear hb hbh B K6 K7 K8
      have B := Bn
      have K6 := J6
      have K7 := J7
      have K8 := J8
      clear Bn J6 J7 J8
      go_wp2_with (first | (refine wpList_load25g (by rfl) (.tmp 7) rfl rfl K6.out hl1 ?_) | (refine wpList_load25g (by rfl) (.tmp 8) rfl rfl K7.out hl2 ?_) | (refine wpList_load25g (by rfl) (.tmp 9) rfl rfl K8.out hl3 ?_))
      refine (Q13.out _).mono ?_
      rintro e V3 ⟨rfl, hb⟩
      have hbh := Lib.hid hb
      have J6 := kt K6 hbh
      have J7 := kt K7 hbh
      have J8 := kt K8 hbh
      have Bn := bt B hbh
      clear hb hbh B K6 K7 K8
      have B := Bn
      have K6 := J6
      have K7 := J7
      have K8 := J8
      clear Bn J6 J7 J8
      go_upto_region 4 with (first | (refine wpList_load25g (by rfl) (.tmp 7) rfl rfl K6.out hl1 ?_) | (refine wpList_load25g (by rfl) (.tmp 8) rfl rfl K7.out hl2 ?_) | (refine wpList_load25g (by rfl) (.tmp 9) rfl rfl K8.out hl3 ?_))
      have c6 := oid_n K6.out
      have c7 := oid_n K7.out
      go_upto_region 6 with fail
      clear c6 c7
      go_loopw [10, 11] (fun bv iv wr => ∃ j : Nat, j ≤ 16 ∧ bv = .bool (bel n1 L1 n2 L2 j) ∧ iv = .int .i64 (j : Int) ∧ Bk wr b6 26 (oc n1 L1) ∧ Bk wr b7 26 (oc n2 L2) ∧ Below w.heap.size w wr) (fun _ iv _ => 16 - (intOf iv).toNat)
      case atStart => exact ⟨0, by omega, rfl, rfl, K6.out, K7.out, B.out⟩
      case round =>
        rename_i wr
        obtain ⟨j, hj, rfl, rfl, k6, k7, kb⟩ := hrel
        have M6 := Lib.hid k6
        have M7 := Lib.hid k7
        have MB := Lib.hid kb
        clear k6 k7 kb K6 K7 K8 B
        rcases Nat.lt_or_ge j 16 with hj2 | hj2
        · have e6 := oid_a' M6.out (i := j) (by rw [hl1]; exact hj2)
          have e7 := oid_a' M7.out (i := j) (by rw [hl2]; exact hj2)
          have c6 := oid_n M6.out
          have hg1 : L1[j]'(by rw [hl1]; exact hj2) = L1.getD j 0 := by rw [List.getD_eq_getElem?_getD, List.getElem?_eq_getElem (by rw [hl1]; exact hj2)]; rfl
          have hg2 : L2[j]'(by rw [hl2]; exact hj2) = L2.getD j 0 := by rw [List.getD_eq_getElem?_getD, List.getElem?_eq_getElem (by rw [hl2]; exact hj2)]; rfl
          rw [hg1] at e6
          rw [hg2] at e7
          clear hg1 hg2
          have hstep : bel n1 L1 n2 L2 (j + 1) = (bel n1 L1 n2 L2 j && (decide (n1 ≤ j) || decide (L1.getD j 0 = L2.getD j 0))) := rfl
          have M6d : Hid (Bk wr.drew b6 26 (oc n1 L1)) := Lib.hid (show Bk wr b6 26 (oc n1 L1) from M6.out)
          have M7d : Hid (Bk wr.drew b7 26 (oc n2 L2)) := Lib.hid (show Bk wr b7 26 (oc n2 L2) from M7.out)
          have MBd : Hid (Below w.heap.size w wr.drew) := Lib.hid MB.out.drew
          generalize L1.getD j 0 = x1 at *
          generalize L2.getD j 0 = x2 at *
          have HST : Hid (∃ q, bel n1 L1 n2 L2 (j + 1) = q) := Lib.hid ⟨_, rfl⟩
          obtain ⟨q, hq⟩ := HST.out
          rw [hq] at hstep
          generalize bel n1 L1 n2 L2 j = p at *
          cases p with
          | false =>
            have hqf : q = false := by rw [hstep]; rfl
            have HQ := Lib.hid (hq.trans hqf)
            clear hq hqf hstep HST
            go_upto_region 8 with fail
            go_region
            go_wp2_with fail
            exact ⟨⟨j + 1, by omega, by rw [HQ.out], by go_num, M6d.out, M7d.out, MBd.out⟩, by simp [intOf]; omega⟩
          | true =>
            by_cases hn : n1 ≤ j
            · have hqf : q = true := by rw [hstep, decide_eq_true hn]; rfl
              have HQ := Lib.hid (hq.trans hqf)
              have hni : (j : Int) ≥ (n1 : Int) := by omega
              clear hq hqf hstep HST
              go_upto_region 8 with fail
              go_region
              go_wp2_with fail
              exact ⟨⟨j + 1, by omega, by rw [HQ.out], by go_num, M6d.out, M7d.out, MBd.out⟩, by simp [intOf]; omega⟩
            · have hni : ¬ (j : Int) ≥ (n1 : Int) := by omega
              by_cases hx : x1 = x2
              · have hqf : q = true := by rw [hstep, decide_eq_true hx, decide_eq_false hn]; rfl
                have HQ := Lib.hid (hq.trans hqf)
                subst hx
                clear hq hqf hstep HST
                go_upto_region 8 with fail
                go_region
                go_wp2_with fail
                exact ⟨⟨j + 1, by omega, by rw [HQ.out], by go_num, M6d.out, M7d.out, MBd.out⟩, by simp [intOf]; omega⟩
              · have hqf : q = false := by rw [hstep, decide_eq_false hx, decide_eq_false hn]; rfl
                have HQ := Lib.hid (hq.trans hqf)
                have hxi : ¬ (x1 : Int) = (x2 : Int) := by omega
                clear hq hqf hstep HST
                go_upto_region 8 with fail
                go_region
                go_wp2_with fail
                exact ⟨⟨j + 1, by omega, by rw [HQ.out]; simp [hxi], by go_num, M6d.out, M7d.out, MBd.out⟩, by simp [intOf]; omega⟩
        · obtain rfl : j = 16 := by omega
          rw [HB.out]
          have K6 := M6
          have K7 := M7
          have B := MB
          clear M6 M7 MB HB
          obtain ⟨w0, rfl⟩ : ∃ v, v = wr := ⟨_, rfl⟩
          cases hh with
          | false =>
            go_wp2_with (first | (refine wpList_load25g (by rfl) (.tmp 7) rfl rfl K6.out hl1 ?_) | (refine wpList_load25g (by rfl) (.tmp 8) rfl rfl K7.out hl2 ?_))
            refine (QH.out _).mono ?_
            rintro e wh ⟨rfl, hb⟩
            have hbh := Lib.hid hb
            have BV := bt B hbh
            have J6 := kt K6 hbh
            have J7 := kt K7 hbh
            clear hb hbh B K6 K7
            have K6 := J6
            have K7 := J7
            clear J6 J7
            go_wp2_with (first | (refine wpList_load25g (by rfl) (.tmp 7) rfl rfl K6.out hl1 ?_) | (refine wpList_load25g (by rfl) (.tmp 8) rfl rfl K7.out hl2 ?_))
            refine (lives_any _ (E0.out.below BV.out)).mono ?_
            rintro e wz ⟨rfl, hb⟩
            have BZ := bt BV (Lib.hid hb)
            clear hb
            go_wp2_with fail
            go_ret
            exact ⟨rfl, BZ.out⟩
          | true =>
            have hx1 := HLT.out rfl
            have hx0 : x = -1 := hx1
            clear hx1
            subst hx0
            go_wp2_with (first | (refine wpList_load25g (by rfl) (.tmp 7) rfl rfl K6.out hl1 ?_) | (refine wpList_load25g (by rfl) (.tmp 8) rfl rfl K7.out hl2 ?_))
            refine (QH.out _).mono ?_
            rintro e wh ⟨rfl, hb⟩
            have hbh := Lib.hid hb
            have BV := bt B hbh
            have J6 := kt K6 hbh
            have J7 := kt K7 hbh
            clear hb hbh B K6 K7
            have K6 := J6
            have K7 := J7
            clear J6 J7
            go_wp2_with (first | (refine wpList_load25g (by rfl) (.tmp 7) rfl rfl K6.out hl1 ?_) | (refine wpList_load25g (by rfl) (.tmp 8) rfl rfl K7.out hl2 ?_))
            refine (Q12.out _).mono ?_
            rintro e wq ⟨rfl, hb⟩
            have BV2 := bt BV (Lib.hid hb)
            clear hb BV K6 K7
            go_wp2_with (first | (refine wpList_load25g (by rfl) (.tmp 7) rfl rfl K6.out hl1 ?_) | (refine wpList_load25g (by rfl) (.tmp 8) rfl rfl K7.out hl2 ?_))
            refine (lives_any _ (E0.out.below BV2.out)).mono ?_
            rintro e wz ⟨rfl, hb⟩
            have BZ := bt BV2 (Lib.hid hb)
            clear hb
            go_wp2_with fail
            go_ret
            exact ⟨rfl, BZ.out⟩

open Go.ChangeShapes Go.WideShapes Go.ChangeAt Go.WideMaps Go.WideElems
set_option maxRecDepth 100000 in
theorem oidsOrder_lifted (os : Os) (started : os.Started) (H : Type) (enc : TypeId × Value → H) :
    ReturnsInHanded {} Tryd.checked os 4 .any (fun w args => (Rows.oidsOrderSpec.pre enc Tryd.prog Tryd.f4 [] false w args ∧ laidMetH Tryd.prog laidL w) ∧ sizedMet enc Tryd.prog Tryd.f4 (OpenSpec.ofChange Rows.oidsOrderSpec) false w args)
      (Rows.oidsOrderSpec.post enc Tryd.prog Tryd.f4 false true false false) := by
  refine returnsInHanded_of_change_and (C := Tryd.checked) (X := fun w _ => laidMetH Tryd.prog laidL w) (fun _ _ _ hh h => h.of_heap hh) x_own started (by kernel_rfl) Tryd.func4
    (ChangeSpec.witness_shaped (enc := enc) (C := Tryd.checked) (os := os) (X := fun w _ => laidMetH Tryd.prog laidL w) false (World.laidAll Tryd.prog os laidL) #[.agg #[.int .u8 0, .int .u32 0, .slice none 0 0], .agg #[.int .u8 0, .int .u32 0, .slice none 0 0], .agg #[.int .u8 0, .int .u32 0, .slice none 0 0]] 8 (World.laidAll_os _ _ _) (World.shaped_of_ZipB (by kernel_rfl) (by kernel_rfl)) (by kernel_rfl) (by kernel_rfl) (by kernel_rfl) (door_met os _)) ?_
  intro W base args ds gs before hval0 hW _ _ hL _
  have hval : ∀ (j : Nat) t v, Tryd.f4.params[j]? = some t → args[j]? = some v → Value.okWide Tryd.prog W .any base t v := hval0
  have hW' := hW
  obtain ⟨p, q, hA0, hV, rfl, hfz, hnd⟩ := hW
  have hA : DataW.TrodAll enc Tryd.prog W 0 (fun _ => true) true Tryd.f4.params.toList args.toList ds p := hA0
  rw [Tryd.params4] at hA hval
  obtain ⟨v0, v1, v2, d0, d1, d2, p0, p1, p2, rfl, rfl, rfl, h0, h1, h2⟩ := trodAll_three hA
  obtain ⟨rfl, rfl⟩ := trodVars_none hV
  obtain ⟨f1, s1, A1, l1, c1, rfl, hf1, hs1, hA1, h321, hlc1, -⟩ := open_A (hval 0 _ v0 rfl rfl) h0
  obtain ⟨f2, s2, A2, l2, c2, rfl, hf2, hs2, hA2, h322, hlc2, -⟩ := open_A (hval 1 _ v1 rfl rfl) h1
  obtain ⟨f3, s3, A3, l3, c3, rfl, hf3, hs3, hA3, h323, hlc3, -⟩ := open_A (hval 2 _ v2 rfl rfl) h2
  have hE := of_laid hL
  clear hA0 hval0
  simp only [List.append_nil] at hW'
  refine (order_walk f1 s1 A1 l1 c1 f2 s2 A2 l2 c2 f3 s3 A3 l3 c3 W hE hf1 hs1 hA1 h321 hlc1 hf2 hs2 hA2 h322 hlc2 hf3 hs3 hA3 h323 hlc3).mono fun e W' ⟨he, hb⟩ => ?_
  subst he
  exact ⟨_, rfl, law_post (tb := 4) x_laid (by decide +kernel) rfl rfl (by kernel_rfl) Tryd.underlying4 hW' hb⟩

/-- The row's statement. -/
theorem oidsOrder_row : Rows.OidsOrderSaid :=
  OpenClaim.holds_of_wide 4 Tryd.f4 rfl rfl rfl rfl rfl rfl rfl ⟨rfl, rfl, rfl, rfl, rfl⟩ rfl rfl rfl rfl rfl (by kernel_rfl) Tryd.func4 (by kernel_rfl)
    (of_decide_eq_true (by kernel_rfl)) (by unfold Func.isWrapper; first | (rw [if_pos (by decide +kernel)]; kernel_rfl) | (rw [if_neg (by decide +kernel)]; exact ⟨rfl, rfl⟩))
    (fun os started H enc _ => oidsOrder_lifted os started H enc)

/-- The statement: the card. -/
theorem oidsOrder_holds : Rows.OidsOrderCardSaid :=
  Claim7.holds_tied_plain_at .later [] [.data, .data, .data, .data, .sentinel, .sentinel, .pinned] true Rows.oidsOrderCard.stood.harness true
    oidsOrder_row (fun _ h => by cases h) (by kernel_rfl) (fun _ h => by cases h) oidsOrder_row_tie rfl ⟨rfl, rfl⟩ (by kernel_rfl) rfl
    (fun f fn hf hfn => by
      obtain rfl : f = 4 := Option.some.inj ((show Tryd.prog.funcNamed "vidimus/vidimuslaw06.OidsOrder" = some 4 by kernel_rfl).symm.trans hf) |>.symm
      obtain rfl : fn = Tryd.f4 := (Option.some.inj (Tryd.func4.symm.trans hfn)).symm
      exact ⟨by kernel_rfl, fun j t ht => by
        rw [Tryd.params4] at ht
        have hm : t ∈ Tryd.f4.params.toList := by rw [Tryd.params4]; exact Array.mem_toList_iff.2 (Array.mem_of_getElem? ht)
        have hall : (Tryd.f4.params.toList.all fun u => !Tryd.prog.wantsStandIn u) = true := by kernel_rfl
        exact (show Tryd.prog.wantsStandIn t = false by simpa using List.all_eq_true.1 hall t hm)⟩)
    (by kernel_rfl)
end Go.Proofs.YtndamidmgglneaaDoor
