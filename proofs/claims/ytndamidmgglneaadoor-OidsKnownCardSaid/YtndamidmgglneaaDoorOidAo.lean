/-
  Layer 6: the statements' own data: the OID of an A; it is valid.
  Conditions: the plain data are in their kinds.
-/
import Derived.Test.YtndamidmgglneaaDoorOidJ
import Derived.Test.YtndamidmgglneaaDoorOidZ
import Derived.Test.YtndamidmgglneaaDoorOidU
namespace Go.Proofs.YtndamidmgglneaaDoor
open Go.RowKit

/-- The arcs of an A. -/
def aL (f s : Nat) (l : List Nat) : List Nat := (f % 3) :: min (if f % 3 < 2 then s % 40 else s) 4294967215 :: l.take 14
theorem aL_len (f s : Nat) (l : List Nat) : (aL f s l).length ≤ 16 := by unfold aL; simp; omega
theorem aL_ok {f s : Nat} {l : List Nat} (h : ∀ y ∈ l, y < 4294967296) : OkO (aL f s l).length (pad (aL f s l)) := okO_pad (aL_len f s l) fun y hy => by
  unfold aL at hy
  rcases List.mem_cons.1 hy with rfl | hy
  · omega
  · rcases List.mem_cons.1 hy with rfl | hy
    · omega
    · exact h y (List.mem_of_mem_take hy)
theorem aL_chk (f s : Nat) (l : List Nat) : chkO (aL f s l).length (pad (aL f s l)) = 0 := by
  have h1 := aL_len f s l
  have h2 : tl0 (aL f s l).length (pad (aL f s l)) = true := by
    unfold tl0
    rw [List.all_eq_true]
    intro x hx
    unfold pad at hx
    rw [List.drop_left' rfl] at hx
    rw [(List.mem_replicate.1 hx).2]; rfl
  unfold chkO
  refine if_pos ⟨by unfold aL; simp, h1, ?_, h2⟩
  unfold pad fst2 aL
  simp only [List.cons_append, Bool.and_eq_true, decide_eq_true_eq]
  refine ⟨by omega, ?_⟩
  split <;> split <;> omega
theorem sliced0 (A : Option Addr) (h m s : Nat) : sliced A 0 h m s = .slice A h m := by
  unfold sliced
  rw [Nat.zero_mul, Nat.sub_zero, Nat.sub_zero]
  have : A.map (·.add 0) = A := by cases A <;> rfl
  rw [this, ite_self]
theorem slice_to32 (k N c : Nat) (A : Option Addr) (hk : k ≤ c) (W : World) : (Instr.slice 32 (.slice A N c) none (some (.int .i64 (k : Int))) none).run Tryd.prog W = .ok (.slice A k c) W := by
  have hsz : (sizeOf (Tryd.prog.elem 32)).run Tryd.prog W = .ok 1 W := by kernel_rfl
  rw [run_slice_h (P := Tryd.prog) W 32 A N c (by kernel_rfl) .i64 (k : Int) (by omega) (by omega), hsz]
  simp only [Result.andThen, Int.toNat_natCast, sliced0]
theorem one32 (l : List Nat) : ∀ u ∈ cs32 l, u.oneCell' = true := by intro u hu; obtain ⟨n, _, rfl⟩ := List.mem_map.1 hu; rfl
theorem info32 : (Tryd.prog.info? 23).map (fun i => (i.zero, i.size, i.bytes)) = some (some (.int .u32 0), 1, 4) := by kernel_rfl
/-- 'append(v, s...)' of words. -/
theorem app32s {w : World} {base : Nat} {v : Value} {xs ys : List Nat} {A : Option Addr} {c : Nat} (hown : w.ownsRow base 23 1 v xs.length (cs32 xs)) (hy : R32 w A ys) (hb : base ≤ w.heap.size) (hl : xs.length + ys.length ≤ 1000) :
    ∃ v' w', (Builtin.append_ #[32, 32] 32 #[v, .slice A ys.length c]).run Tryd.prog w = .ok v' w' ∧ w'.ownsRow base 23 1 v' (xs ++ ys).length (cs32 (xs ++ ys)) ∧ Below base w w' := by
  obtain ⟨v', w', h1, h2, h3⟩ := app_src (P := Tryd.prog) (ty := 32) Tryd.underlying32 info32 rfl (by rw [cs32_length]; exact hown) (c := c) hy (one32 ys) hb (by rw [cs32_length, cs32_length]; omega) (by rw [cs32_length, cs32_length]; unfold maxLen; omega)
  have e : cs32 xs ++ cs32 ys = cs32 (xs ++ ys) := by unfold cs32; rw [List.map_append]
  rw [cs32_length] at h1
  rw [e, cs32_length] at h2
  exact ⟨v', w', h1, h2, h3⟩

set_option maxRecDepth 100000 in
set_option maxHeartbeats 2000000 in
theorem aof_any (f s : Nat) (A : Option Addr) (l : List Nat) (c : Nat) (w : World) (hf : f < 256) (hs : s < 4294967296) (hA : R32 w A l) (hlc : l.length ≤ c) :
    Calls Tryd.prog 10 #[.agg #[.int .u8 (f : Int), .int .u32 (s : Int), .slice A l.length c]] w (GiveO w (aL f s l).length (pad (aL f s l))) := by
  have hz := zero25
  obtain ⟨zl, hzl⟩ : ∃ zl, zeroL = zl := ⟨_, rfl⟩
  have HZL : Hid (zl.length = 16) := Lib.hid (by rw [← hzl]; exact zeroL_length)
  rw [hzl] at hz
  clear hzl
  obtain ⟨a, ha⟩ : ∃ a, f % 3 = a := ⟨_, rfl⟩
  obtain ⟨y1, hy1⟩ : ∃ y, (if a < 2 then s % 40 else s) = y := ⟨_, rfl⟩
  obtain ⟨y, hy⟩ : ∃ y, min y1 4294967215 = y := ⟨_, rfl⟩
  obtain ⟨k, hk⟩ : ∃ k, min 14 l.length = k := ⟨_, rfl⟩
  have HF := Lib.hid (show aL f s l = [a, y] ++ l.take k from by
    unfold aL
    rw [ha, hy1, hy, ← hk, List.cons_append, List.cons_append, List.nil_append]
    congr 2
    rw [Nat.min_comm, List.take_eq_take_iff]; omega)
  have hai : (f : Int) % 3 = (a : Int) := by omega
  have ha3 : a < 3 := by omega
  have hyi : min (y1 : Int) 4294967215 = (y : Int) := by omega
  have hki : min (14 : Int) (l.length : Int) = (k : Int) := by omega
  have hk14 : k ≤ 14 := by omega
  have hkl : (l.take k).length = k := by rw [List.length_take]; omega
  have HSL := Lib.hid (slice_to32 k l.length c A (by omega))
  have S0 := Lib.hid ((Bk.new w 34 [.int .u8 (f : Int), .int .u32 (s : Int), .slice A l.length c]).alloc (.cells (oc 0 zl).toArray 26))
  have T0 := Lib.hid (show Bk ((w.alloc (.cells #[.int .u8 (f : Int), .int .u32 (s : Int), .slice A l.length c] 34)).alloc (.cells (oc 0 zl).toArray 26)) (w.heap.size + 1) 26 (oc 0 zl) from by
    have := Bk.new (w.alloc (.cells #[.int .u8 (f : Int), .int .u32 (s : Int), .slice A l.length c] 34)) 26 (oc 0 zl)
    rwa [World.size_alloc] at this)
  have B0 := Lib.hid ((bel1 w (.cells #[.int .u8 (f : Int), .int .u32 (s : Int), .slice A l.length c] 34)).alloc (by simp) (.cells (oc 0 zl).toArray 26))
  have HA := Lib.hid hA
  have HKK := Lib.hid hk
  clear hA ha hy hk hlc
  go_enter Tryd.func10, Tryd.ntmps10
  go_upto_region 1 with fail
  generalize (w.alloc (.cells #[.int .u8 (f : Int), .int .u32 (s : Int), .slice A l.length c] 34)).alloc (.cells (oc 0 zl).toArray 26) = w1 at *
  have c0 : w1.cell? ⟨w.heap.size, 0, none⟩ = some (.int .u8 (f : Int)) := by rw [S0.out.cell]; rfl
  have c1 : w1.cell? ⟨w.heap.size, 1, none⟩ = some (.int .u32 (s : Int)) := by rw [S0.out.cell]; rfl
  have K2 := Lib.hid (Bk.new w1 23 [.int .u32 (a : Int), .int .u32 (s : Int)])
  have S2 := Lib.hid (S0.out.alloc (.cells #[.int .u32 (a : Int), .int .u32 (s : Int)] 23))
  have T2 := Lib.hid (T0.out.alloc (.cells #[.int .u32 (a : Int), .int .u32 (s : Int)] 23))
  have B2 := Lib.hid (B0.out.alloc B0.out.size (.cells #[.int .u32 (a : Int), .int .u32 (s : Int)] 23))
  have hlt : w.heap.size + 1 < w1.heap.size := T0.out.lt
  have HLT := Lib.hid hlt
  clear S0 T0 B0 hlt
  go_upto_region 2 with fail
  generalize w1.alloc (.cells #[.int .u32 (a : Int), .int .u32 (s : Int)] 23) = w2 at *
  generalize w1.heap.size = b at *
  clear c0 c1 hai
  have k3 : ∃ w3, (if a < 2 then w2.setCell ⟨b, 1, none⟩ (.int .u32 (y1 : Int)) else w2) = w3 := ⟨_, rfl⟩
  obtain ⟨w3, hw3⟩ := k3
  have HW3 := Lib.hid hw3
  have K3 : Hid (Bk w3 b 23 [.int .u32 (a : Int), .int .u32 (y1 : Int)]) := Lib.hid (by
    rw [← hw3]; by_cases h : a < 2
    · rw [if_pos h]; exact K2.out.store 1 _
    · rw [if_neg h]; rw [if_neg h] at hy1; rw [← hy1]; exact K2.out)
  have S3 : Hid (Bk w3 w.heap.size 34 [.int .u8 (f : Int), .int .u32 (s : Int), .slice A l.length c]) := Lib.hid (by
    rw [← hw3]; by_cases h : a < 2
    · rw [if_pos h]; exact S2.out.far (p := ⟨b, 1, none⟩) (by have := HLT.out; show w.heap.size ≠ b; omega) _
    · rw [if_neg h]; exact S2.out)
  have T3 : Hid (Bk w3 (w.heap.size + 1) 26 (oc 0 zl)) := Lib.hid (by
    rw [← hw3]; by_cases h : a < 2
    · rw [if_pos h]; exact T2.out.far (p := ⟨b, 1, none⟩) (by have := HLT.out; show w.heap.size + 1 ≠ b; omega) _
    · rw [if_neg h]; exact T2.out)
  have B3 : Hid (Below w.heap.size w w3) := Lib.hid (by
    rw [← hw3]; by_cases h : a < 2
    · rw [if_pos h]; exact B2.out.setCell (p := ⟨b, 1, none⟩) (by have := HLT.out; show w.heap.size ≤ b; omega) _
    · rw [if_neg h]; exact B2.out)
  have d0 : w2.cell? ⟨b, 0, none⟩ = some (.int .u32 (a : Int)) := by rw [K2.out.cell]; rfl
  have d1 : w2.cell? ⟨b, 1, none⟩ = some (.int .u32 (s : Int)) := by rw [K2.out.cell]; rfl
  have f1 := K2.out.free 1
  clear hw3 S2 T2 B2 K2
  by_cases h2 : a < 2
  · rw [if_pos h2] at hy1 HW3
    have hsi : (s : Int) % 40 = (y1 : Int) := by omega
    have HY1 := Lib.hid hy1
    clear hy1
    go_upto_region 4 with fail
    rw [HW3.out]
    clear d0 d1 f1 hsi
    have e1 : w3.cell? ⟨b, 1, none⟩ = some (.int .u32 (y1 : Int)) := by rw [K3.out.cell]; rfl
    have g1 := K3.out.free 1
    have K4 := Lib.hid (show Bk (w3.setCell ⟨b, 1, none⟩ (.int .u32 (y : Int))) b 23 [.int .u32 (a : Int), .int .u32 (y : Int)] from K3.out.store 1 _)
    have S4 := Lib.hid (S3.out.far (p := ⟨b, 1, none⟩) (by have := HLT.out; show w.heap.size ≠ b; omega) (.int .u32 (y : Int)))
    have T4 := Lib.hid (T3.out.far (p := ⟨b, 1, none⟩) (by have := HLT.out; show w.heap.size + 1 ≠ b; omega) (.int .u32 (y : Int)))
    have B4 := Lib.hid (B3.out.setCell (p := ⟨b, 1, none⟩) (by have := HLT.out; show w.heap.size ≤ b; omega) (.int .u32 (y : Int)))
    clear K3 S3 T3 B3
    go_upto_region 5 with fail
    generalize w3.setCell ⟨b, 1, none⟩ (.int .u32 (y : Int)) = w4 at *
    clear e1 g1 hyi
    have hown : w4.ownsRow b 23 1 (.slice (some ⟨b, 0, none⟩) 2 2) [a, y].length (cs32 [a, y]) :=
      ⟨rfl, .inr ⟨b, 2, #[.int .u32 (a : Int), .int .u32 (y : Int)], rfl, Nat.le_refl _, K4.out, Nat.le_refl _, by unfold maxLen; omega, rfl, rfl⟩⟩
    have hR : R32 w4 A (l.take k) := by
      have := (HA.out.below B4.out).take_ k
      unfold R32 cs32
      rw [List.map_take]
      exact this
    obtain ⟨v', w5, hrun, hown', hb5⟩ := app32s (c := c) hown hR (Nat.le_of_lt K4.out.lt) (by rw [hkl]; show 2 + k ≤ 1000; omega)
    rw [hkl] at hrun
    have S5 := Lib.hid (S4.out.below hb5 (by have := HLT.out; omega))
    have T5 := Lib.hid (T4.out.below hb5 (by have := HLT.out; omega))
    have B5 := Lib.hid (B4.out.trans (hb5.mono (by have := HLT.out; omega)))
    obtain ⟨A2, c2, rfl, hR2, -, -⟩ := own32 hown'
    have e2 : w4.cell? ⟨w.heap.size, 2, none⟩ = some (.slice A l.length c) := by rw [S4.out.cell]; rfl
    have hsl := HSL.out
    have h16 : ([a, y] ++ l.take k).length ≤ 16 := by rw [List.length_append, hkl]; show 2 + k ≤ 16; omega
    generalize [a, y] ++ l.take k = xs at *
    have HM := Lib.hid (made_any A2 xs c2 w5 h16 hR2)
    have hpl := pad_length h16
    obtain ⟨N, hN⟩ : ∃ N, xs.length = N := ⟨_, rfl⟩
    rw [hN] at hrun HM
    have HN := Lib.hid hN
    obtain ⟨pl, hPL⟩ : ∃ pl, pad xs = pl := ⟨_, rfl⟩
    have HPL := Lib.hid hPL
    rw [hPL] at HM hpl
    clear hown hR hb5 hown' hR2 h16 hN hkl K4 S4 T4 B4 hPL
    go_wp2_with (first
      | (refine wpList_app rfl _ _ _ _ rfl _ _ rfl rfl hrun ?_)
      | (go_at_call 23; refine HM.out.mono ?_; rintro e w6 ⟨rfl, hb⟩; have T6 := kt T5 (Lib.hid hb); have B6 := bt B5 (Lib.hid hb); clear hb)
      | (refine wpList_store25 rfl (.tmp 2) (.tmp 36) rfl (n := N) (l := pl) rfl rfl T6.out (by rw [oc_length, HZL.out]) hpl ?_; intro w7 S7 hg7 hz7; have HS7 := Lib.hid S7; have HB7 := Lib.hid (B6.out.grown hg7 B6.out.size (fun k e => by injection e with e; omega)); clear S7 hg7 hz7))
    exact ret25 rfl rfl HS7.out hpl rfl ⟨by rw [HF.out, HN.out, HPL.out], HB7.out⟩
  · rw [if_neg h2] at hy1 HW3
    have ew := HW3.out
    subst ew
    have HY1 := Lib.hid hy1
    clear f1 HW3 hy1
    go_upto_region 4 with fail
    clear d0 d1
    have e1 : w2.cell? ⟨b, 1, none⟩ = some (.int .u32 (y1 : Int)) := by rw [K3.out.cell]; rfl
    have g1 := K3.out.free 1
    have K4 := Lib.hid (show Bk (w2.setCell ⟨b, 1, none⟩ (.int .u32 (y : Int))) b 23 [.int .u32 (a : Int), .int .u32 (y : Int)] from K3.out.store 1 _)
    have S4 := Lib.hid (S3.out.far (p := ⟨b, 1, none⟩) (by have := HLT.out; show w.heap.size ≠ b; omega) (.int .u32 (y : Int)))
    have T4 := Lib.hid (T3.out.far (p := ⟨b, 1, none⟩) (by have := HLT.out; show w.heap.size + 1 ≠ b; omega) (.int .u32 (y : Int)))
    have B4 := Lib.hid (B3.out.setCell (p := ⟨b, 1, none⟩) (by have := HLT.out; show w.heap.size ≤ b; omega) (.int .u32 (y : Int)))
    clear K3 S3 T3 B3
    go_upto_region 5 with fail
    generalize w2.setCell ⟨b, 1, none⟩ (.int .u32 (y : Int)) = w4 at *
    clear e1 g1 hyi
    have hown : w4.ownsRow b 23 1 (.slice (some ⟨b, 0, none⟩) 2 2) [a, y].length (cs32 [a, y]) :=
      ⟨rfl, .inr ⟨b, 2, #[.int .u32 (a : Int), .int .u32 (y : Int)], rfl, Nat.le_refl _, K4.out, Nat.le_refl _, by unfold maxLen; omega, rfl, rfl⟩⟩
    have hR : R32 w4 A (l.take k) := by
      have := (HA.out.below B4.out).take_ k
      unfold R32 cs32
      rw [List.map_take]
      exact this
    obtain ⟨v', w5, hrun, hown', hb5⟩ := app32s (c := c) hown hR (Nat.le_of_lt K4.out.lt) (by rw [hkl]; show 2 + k ≤ 1000; omega)
    rw [hkl] at hrun
    have S5 := Lib.hid (S4.out.below hb5 (by have := HLT.out; omega))
    have T5 := Lib.hid (T4.out.below hb5 (by have := HLT.out; omega))
    have B5 := Lib.hid (B4.out.trans (hb5.mono (by have := HLT.out; omega)))
    obtain ⟨A2, c2, rfl, hR2, -, -⟩ := own32 hown'
    have e2 : w4.cell? ⟨w.heap.size, 2, none⟩ = some (.slice A l.length c) := by rw [S4.out.cell]; rfl
    have hsl := HSL.out
    have h16 : ([a, y] ++ l.take k).length ≤ 16 := by rw [List.length_append, hkl]; show 2 + k ≤ 16; omega
    generalize [a, y] ++ l.take k = xs at *
    have HM := Lib.hid (made_any A2 xs c2 w5 h16 hR2)
    have hpl := pad_length h16
    obtain ⟨N, hN⟩ : ∃ N, xs.length = N := ⟨_, rfl⟩
    rw [hN] at hrun HM
    have HN := Lib.hid hN
    obtain ⟨pl, hPL⟩ : ∃ pl, pad xs = pl := ⟨_, rfl⟩
    have HPL := Lib.hid hPL
    rw [hPL] at HM hpl
    clear hown hR hb5 hown' hR2 h16 hN hkl K4 S4 T4 B4 hPL
    go_wp2_with (first
      | (refine wpList_app rfl _ _ _ _ rfl _ _ rfl rfl hrun ?_)
      | (go_at_call 23; refine HM.out.mono ?_; rintro e w6 ⟨rfl, hb⟩; have T6 := kt T5 (Lib.hid hb); have B6 := bt B5 (Lib.hid hb); clear hb)
      | (refine wpList_store25 rfl (.tmp 2) (.tmp 36) rfl (n := N) (l := pl) rfl rfl T6.out (by rw [oc_length, HZL.out]) hpl ?_; intro w7 S7 hg7 hz7; have HS7 := Lib.hid S7; have HB7 := Lib.hid (B6.out.grown hg7 B6.out.size (fun k e => by injection e with e; omega)); clear S7 hg7 hz7))
    exact ret25 rfl rfl HS7.out hpl rfl ⟨by rw [HF.out, HN.out, HPL.out], HB7.out⟩
end Go.Proofs.YtndamidmgglneaaDoor
