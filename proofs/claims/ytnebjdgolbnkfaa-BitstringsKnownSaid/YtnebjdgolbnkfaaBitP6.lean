/-
  Layer 8, the statement BitstringsKnown: the examples of the chapter; all numbers of unused bits; 524288 bits and more; 65536 octets and one more; 64 named bits and 65.
  Conditions: none.
-/
import Derived.Test.YtnebjdgolbnkfaaBitR
import Derived.Test.YtnebjdgolbnkfaaBitP2
import Derived.Test.YtnebjdgolbnkfaaBitP3
namespace Go.Proofs.Ytnebjdgolbnkfaa.Bit
open Go.RowKit

theorem get_lit (w : World) (l : List Nat) (N : Nat) (h : All8 l) (hN : l.length = N) (hn : N ≤ 1000) :
    Calls Try.prog 4 #[.slice (some ⟨w.heap.size, 0, none⟩) N N] (w.alloc (.cells (cs8 l).toArray 5)) fun e w' => e = .returned (.bool true) ∧ Below w.heap.size w w' :=
  (get_walk _ l N N _ (lit_rb w l h) hN (Nat.le_refl _) (by unfold maxLen; omega)).mono fun _ _ ⟨h1, h2⟩ => ⟨h1, (bel1 _ _).trans (h2.mono (bel1 _ _).size)⟩
theorem get_one (w : World) (k : Nat) (hk : k < 256) : Calls Try.prog 4 #[.slice (some ⟨w.heap.size, 0, none⟩) 1 1] (w.alloc (.cells #[.int .u8 (k : Int)] 5)) fun e w' => e = .returned (.bool true) ∧ Below w.heap.size w w' :=
  get_lit w [k] 1 (All8.cons hk All8.nil) rfl (by omega)
theorem get_two (w : World) (k : Nat) (hk : k < 256) : Calls Try.prog 4 #[.slice (some ⟨w.heap.size, 0, none⟩) 2 2] (w.alloc (.cells #[.int .u8 (k : Int), .int .u8 128] 5)) fun e w' => e = .returned (.bool true) ∧ Below w.heap.size w w' :=
  get_lit w [k, 128] 2 (All8.cons hk (lt_lit rfl)) rfl (by omega)
theorem get_three (w : World) (j k : Nat) (hj : j < 256) (hk : k < 256) : Calls Try.prog 4 #[.slice (some ⟨w.heap.size, 0, none⟩) 3 3] (w.alloc (.cells #[.int .u8 (j : Int), .int .u8 255, .int .u8 (k : Int)] 5)) fun e w' => e = .returned (.bool true) ∧ Below w.heap.size w w' :=
  get_lit w [j, 255, k] 3 (All8.cons hj (All8.cons (by omega) (All8.cons hk All8.nil))) rfl (by omega)
/-! Great lists of zeros. -/
/-- The walk's step at a guarded builtin append whose guard says yes. -/
theorem wpList_app2 {P : Program} {w : World} {ops : Array Oper} {rest : List Oper} {o : Oper} {a : Act} {Q : Exit → Act → World → Prop} (hw : Region.wanted o (yielded ops a.tmps) = true) (s x : Operand) (t1 t2 : TypeId)
    (ho : o.op = .call { callee := .builtin .append, args := #[s, x], argTypes := #[t1, t2] }) (u v : Value) (hs : a.eval s = u) (hx : a.eval x = v) {r : Value} {w1 : World}
    (hrun : (Builtin.append_ #[t1, t2] o.type #[u, v]).run P w = .ok r w1) (h : wpList P ops Q rest (a.put o.dst r) w1) : wpList P ops Q (o :: rest) a w := by
  refine BigFrame.wpList_want hw fun K hK => ?_
  have hK' := hK _ _ h
  unfold Oper.wp execOp
  simp only [ho, resolve, invoke, builtin, Sem.run_bind, Sem.run_pure, Result.andThen_ok, List.map_toArray, List.map_cons, List.map_nil, hs, hx, hrun]
  exact hK'
theorem cons2 (w : World) (x y : Nat) (hx : x < 256) (hy : y < 256) {B : Option Addr} {m : List Nat} {M c : Nat} (h : Rb w B m) (hM : m.length = M) (hm : M ≤ 1000) :
    ∃ v1 w1 g c2 w2, (Builtin.append_ #[22, 22] 22 #[.slice (some ⟨w.heap.size, 0, none⟩) 1 1, .slice B M c]).run Try.prog (w.alloc (.cells #[.int .u8 (x : Int)] 5)) = .ok v1 w1 ∧
      (Builtin.append_ #[22, 22] 22 #[v1, .slice (some ⟨w1.heap.size, 0, none⟩) 1 1]).run Try.prog (w1.alloc (.cells #[.int .u8 (y : Int)] 5)) = .ok (.slice (some g) (M + 2) c2) w2 ∧
      Rb w2 (some g) (x :: (m ++ [y])) ∧ M + 2 ≤ c2 ∧ Below w.heap.size w w2 := by
  subst hM
  have hb2 := bel1 w (.cells #[.int .u8 (x : Int)] 5)
  obtain ⟨v1, w1, hrun, hown2, hb3⟩ := app_src (P := Try.prog) (ty := 22) Try.underlying22 info5 rfl (own_lit w 5 (.int .u8 (x : Int))) (c := c) ((h.below hb2).1) (by intro u hu; obtain ⟨n, _, rfl⟩ := List.mem_map.1 hu; rfl) (by simp) (by rw [cs8_length, List.length_singleton]; omega) (by rw [cs8_length, List.length_singleton]; unfold maxLen; omega)
  rw [cs8_length] at hrun
  have e1 : [Value.int .u8 (x : Int)] ++ cs8 m = cs8 (x :: m) := rfl
  rw [e1, cs8_length] at hown2
  have hb13 := hb2.trans hb3
  obtain ⟨v2, w2, hrun2, hown3, hb4⟩ := appB hown2 y hb13.size (by rw [List.length_cons]; omega)
  obtain ⟨B2, c2, rfl, hr2, hc2, hc3⟩ := own_open (by rw [cs8_length]; exact hown3)
  rw [cs8_length] at hc2 hrun2
  obtain ⟨b, off, rfl, _⟩ := hr2 (by simp [cs8])
  have el : (x :: m ++ [y]).length = m.length + 2 := by simp
  rw [el] at hc2 hrun2
  exact ⟨v1, w1, _, c2, w2, hrun, hrun2, ⟨hr2, All8.cons hx (h.2.append (All8.cons hy All8.nil))⟩, hc2, hb13.trans hb4⟩
theorem bt1_rep (k i : Nat) : bt1 (List.replicate k 0) i = 0 := by
  unfold bt1
  rw [List.getD_eq_getElem?_getD, List.getElem?_replicate]
  split <;> simp
theorem zr_rep (k n : Nat) : zr (List.replicate k 0) n = true := zr_iff.2 fun i _ => bt1_rep k i
theorem ok_rep {k n : Nat} (h1 : n ≤ 8 * k) (h2 : 8 * k ≤ n + 7) : okB (List.replicate k 0) (n : Nat) = true :=
  okB_iff.2 ⟨by omega, by rw [List.length_replicate]; omega, by rw [List.length_replicate]; omega, zr_rep _ _⟩
theorem sz_rep (k : Nat) : szE (0 :: List.replicate k 0) = 0 ∧ szN (0 :: List.replicate k 0) = 8 * k := by
  obtain ⟨h1, h2⟩ := szE_cons (u := 0) (t := List.replicate k 0) (by omega) (by omega) (zr_rep _ _)
  rw [List.length_replicate] at h2
  exact ⟨h1, h2⟩
def Z6 : List Nat := List.replicate 65536 0
def Z7 : List Nat := List.replicate 65537 0
def Z8 : List Nat := 0 :: Z7
def z7 : List Value := cs8 Z7
theorem z6_len : Z6.length = 65536 := List.length_replicate
theorem z7_len : Z7.length = 65537 := List.length_replicate
theorem z8_len : Z8.length = 65538 := by unfold Z8; rw [List.length_cons, z7_len]
theorem z7_cons : 0 :: Z6 = Z7 := by unfold Z6 Z7; rw [← List.replicate_succ]
theorem z7_take : Z7.take 65536 = Z6 := by unfold Z6 Z7; rw [List.take_replicate]; rfl
theorem z6_rb {w : World} {A : Option Addr} (h : Rb w A Z7) : Rb w A Z6 := by rw [← z7_take]; exact h.take_ _
theorem z7_rb (w : World) : Rb (w.alloc (.cells z7.toArray 5)) (some ⟨w.heap.size, 0, none⟩) Z7 :=
  lit_rb w Z7 (fun x hx => by have := List.eq_of_mem_replicate hx; omega)
theorem make_big (W : World) : (Instr.makeSlice 22 (.int .i64 65537) (.int .i64 65537)).run Try.prog W = .ok (.slice (some ⟨W.heap.size, 0, none⟩) 65537 65537) (W.alloc (.cells z7.toArray 5)) := make_bytes 65537 (by omega) W
theorem slice_big (A : Option Addr) (W : World) : (Instr.slice 22 (.slice A 65537 65537) none (some (.int .i64 65536)) none).run Try.prog W = .ok (.slice A 65536 65537) W := slice_to A 65537 65537 65536 (by omega) W
theorem slice_big' (A : Option Addr) (W : World) : (Instr.sliceAt 22 (.slice A 65537 65537) none (some (.int .i64 65536)) none).run Try.prog W = .ok (.slice A 65536 65537) W := slice_to' A 65537 65537 65536 (by omega) W
section
variable (W : World) (A : Option Addr) (c : Nat)
theorem k_put1 (hW : Rb W A Z6) (hc : 65536 ≤ c) : Calls Try.prog 11 #[.slice A 65536 c, .int .i64 524288] W (GiveF W Z7 0) := by
  have h := put_any A Z6 65536 c (524288 : Nat) W hW z6_len (by omega) hc (by omega) (by omega)
  have e : chkB Z6 ((524288 : Nat) : Int) = 0 := by
    unfold chkB; rw [if_neg (by omega), if_pos (show okB Z6 ((524288 : Nat) : Int) = true from ok_rep (k := 65536) (n := 524288) (by omega) (by omega))]
  have e2 : ptB Z6 ((524288 : Nat) : Int) = Z7 := by
    unfold ptB; rw [if_pos e, z6_len, ← z7_cons]; rfl
  rw [e, e2] at h
  exact h
theorem k_put2 (hW : Rb W A Z7) (hc : 65537 ≤ c) : Calls Try.prog 11 #[.slice A 65537 c, .int .i64 524289] W (GiveF W [] 3) := by
  have h := put_any A Z7 65537 c (524289 : Nat) W hW z7_len (by omega) hc (by omega) (by omega)
  have e : chkB Z7 ((524289 : Nat) : Int) = 3 := by unfold chkB; rw [if_pos (by omega)]
  have e2 : ptB Z7 ((524289 : Nat) : Int) = [] := by unfold ptB; rw [e]; rfl
  rw [e, e2] at h
  exact h
theorem k_get (hW : Rb W A Z7) (hc : 65537 ≤ c) : Calls Try.prog 28 #[.slice A 65537 c] W (GiveG W Z6 524288 0) := by
  have h := get_any A Z7 65537 c W hW z7_len (by omega) hc
  obtain ⟨s1, s2⟩ := sz_rep 65536
  have s1 : szE Z7 = 0 := by rw [← z7_cons]; exact s1
  have s2 : szN Z7 = 524288 := by rw [← z7_cons]; exact s2
  have e : gtE Z7 = 0 := by unfold gtE; rw [if_pos s1, s2, if_neg (by omega)]
  have e1 : gtB Z7 = Z6 := by unfold gtB; rw [if_pos e, ← z7_cons]; rfl
  have e2 : gtK Z7 = 524288 := by unfold gtK; rw [if_pos e, s2]
  rw [e, e1, e2] at h
  exact h
theorem sz8 : szE Z8 = 0 ∧ szN Z8 = 524296 := by
  obtain ⟨s1, s2⟩ := sz_rep 65537
  exact ⟨s1, s2⟩
theorem k_get8 (hW : Rb W A Z8) (hc : 65538 ≤ c) : Calls Try.prog 28 #[.slice A 65538 c] W (GiveG W [] 0 3) := by
  have h := get_any A Z8 65538 c W hW z8_len (by omega) hc
  obtain ⟨s1, s2⟩ := sz8
  have e : gtE Z8 = 3 := by unfold gtE; rw [if_pos s1, s2, if_pos (by omega)]
  have e1 : gtB Z8 = [] := by unfold gtB; rw [e]; rfl
  have e2 : gtK Z8 = 0 := by unfold gtK; rw [e]; rfl
  rw [e, e1, e2] at h
  exact h
theorem k_oct1 (hW : Rb W A Z6) : Calls Try.prog 27 #[.slice A 65536 c] W (GiveE W 4 Z6) := octets_ok A Z6 65536 c W hW z6_len (by omega)
theorem k_oct2 : Calls Try.prog 27 #[.slice A 65537 c] W (GiveEE W 3) := octets_bad A 65537 c W (by omega) (by omega)
theorem k_of1 (hW : Rb W A Z6) : Calls Try.prog 26 #[elV 0 4 false (.slice A 65536 65536) (.slice none 0 0)] W (GiveF W Z6 0) := by
  have h := ofoct_any 0 4 false A none Z6 65536 65536 0 0 W hW z6_len (by omega) (Nat.le_refl _)
  have e0 : wrg 0 4 false 0 4 = 0 := rfl
  have e1 : ooB 0 4 false 0 Z6 = Z6 := by unfold ooB; rw [if_pos e0, z6_len, if_neg (by omega)]
  have e2 : ooE 0 4 false 0 Z6 = 0 := by unfold ooE; rw [if_pos e0, z6_len, if_neg (by omega)]
  rw [e1, e2] at h
  exact h
theorem k_of2 (hW : Rb W A Z7) : Calls Try.prog 26 #[elV 0 4 false (.slice A 65537 65537) (.slice none 0 0)] W (GiveF W [] 3) := by
  have h := ofoct_any 0 4 false A none Z7 65537 65537 0 0 W hW z7_len (by omega) (Nat.le_refl _)
  have e0 : wrg 0 4 false 0 4 = 0 := rfl
  have e1 : ooB 0 4 false 0 Z7 = [] := by unfold ooB; rw [if_pos e0, z7_len, if_pos (by omega)]
  have e2 : ooE 0 4 false 0 Z7 = 3 := by unfold ooE; rw [if_pos e0, z7_len, if_pos (by omega)]
  rw [e1, e2] at h
  exact h
theorem k_named8 (hW : Rb W A Z8) (hc : 65538 ≤ c) : Calls Try.prog 22 #[.slice A 65538 c, .int .u64 0, .int .i64 11] W fun e w' => e = .returned (.bool true) ∧ Below W.heap.size W w' := by
  obtain ⟨s1, s2⟩ := sz8
  have e := gnE_zero s1 (by rw [s2]; omega) (show bt1 Z8.tail (szN Z8 - 1) = 0 from bt1_rep _ _)
  exact named_ok A Z8 65538 c 0 11 W hW z8_len hc (by omega) e.2 e.1
end
def FF : List Nat := [0, 255, 255, 255, 255, 255, 255, 255, 255]
def GG : List Nat := [7, 255, 255, 255, 255, 255, 255, 255, 255, 128]
def HH : List Nat := [6, 255, 255, 255, 255, 255, 255, 255, 255, 128]
theorem ff_pn : pnB 18446744073709551615 = FF := by decide +kernel
theorem k_full (W : World) : Calls Try.prog 23 #[.int .u64 18446744073709551615] W (GiveN W FF 9) := by
  have h := putn_any 18446744073709551615 W (by decide)
  rw [ff_pn] at h
  exact h
theorem k_namedF (W : World) (A : Option Addr) (c : Nat) (hW : Rb W A FF) (hc : 9 ≤ c) : Calls Try.prog 22 #[.slice A 9 c, .int .u64 18446744073709551615, .int .i64 0] W fun e w' => e = .returned (.bool true) ∧ Below W.heap.size W w' :=
  named_ok A FF 9 c 18446744073709551615 0 W hW rfl hc (by omega) (by decide +kernel) (by decide +kernel)
theorem k_namedG (W : World) (A : Option Addr) (c : Nat) (hW : Rb W A GG) (hc : 10 ≤ c) : Calls Try.prog 22 #[.slice A 10 c, .int .u64 0, .int .i64 3] W fun e w' => e = .returned (.bool true) ∧ Below W.heap.size W w' :=
  named_ok A GG 10 c 0 3 W hW rfl hc (by omega) (by decide +kernel) (by decide +kernel)
theorem k_namedH (W : World) (A : Option Addr) (c : Nat) (hW : Rb W A HH) (hc : 10 ≤ c) : Calls Try.prog 22 #[.slice A 10 c, .int .u64 0, .int .i64 11] W fun e w' => e = .returned (.bool true) ∧ Below W.heap.size W w' :=
  named_ok A HH 10 c 0 11 W hW rfl hc (by omega) (by decide +kernel) (by decide +kernel)
set_option linter.unusedSimpArgs false in
set_option maxHeartbeats 6400000 in
set_option maxRecDepth 100000 in
theorem known_walk (w : World) : Calls Try.prog 7 #[] w fun e w' => e = .returned (.bool true) ∧ Below w.heap.size w w' := by
  go_enter Try.func7, Try.ntmps7
  go_wp2_with fail
  go_loopw [1] (fun s wr => ∃ k : Nat, k ≤ 256 ∧ s = .int .i64 (k : Int) ∧ Below w.heap.size w wr) (fun s _ => 256 - (intOf s).toNat)
  case atStart => exact ⟨0, Nat.zero_le _, rfl, Below.refl _ _⟩
  case round =>
    obtain ⟨k, hk, rfl, hbw⟩ := hrel
    have B0 := Lib.hid hbw
    clear hbw
    by_cases hlt : k < 256
    · have hk8 : (k : Int) % 256 = (k : Int) := by omega
      obtain ⟨j, hj⟩ : ∃ j : Nat, (k : Int) % 8 = (j : Int) := ⟨k % 8, by omega⟩
      have hj8 : (j : Int) % 256 = (j : Int) := by omega
      have hjj : j < 8 := by omega
      go_wp2_with fail
      refine (get_one wr k hlt).mono ?_
      rintro e w1 ⟨rfl, hb⟩
      have B1 := bt B0 (Lib.hid hb)
      clear hb B0
      go_wp2_with fail
      refine (get_two w1 k hlt).mono ?_
      rintro e w2 ⟨rfl, hb⟩
      have B2 := bt B1 (Lib.hid hb)
      clear hb B1
      go_wp2_with fail
      refine (get_three w2 j k (by omega) hlt).mono ?_
      rintro e w3 ⟨rfl, hb⟩
      have B3 := bt B2 (Lib.hid hb)
      clear hb B2
      go_wp2_with fail
      have h5 := named_walk (k * 72057594037927936) k w3 (by omega) hlt
      rw [show ((k * 72057594037927936 : Nat) : Int) = (k : Int) * 72057594037927936 by omega] at h5
      refine h5.mono ?_
      rintro e w4 ⟨rfl, hb⟩
      have B4 := bt B3 (Lib.hid hb)
      clear hb B3 h5 hj hj8 hk8
      go_wp2_with fail
      exact ⟨⟨k + 1, by omega, by go_num, B4.out⟩, by simp [intOf]; omega⟩
    · obtain rfl : k = 256 := by omega
      rw [show ((256 : Nat) : Int) = 256 from rfl]
      clear hlt hk
      have q0 := make_big
      have q1 := slice_big
      have q1' := slice_big'
      have hb := bel1 wr (.cells z7.toArray 5)
      have RB := Lib.hid (z7_rb wr)
      obtain ⟨w1, hw1⟩ : ∃ w1, wr.alloc (.cells z7.toArray 5) = w1 := ⟨_, rfl⟩
      rw [hw1] at RB hb
      obtain ⟨gb, hgb⟩ : ∃ g, wr.heap.size = g := ⟨_, rfl⟩
      rw [hgb] at RB
      have B1 := bt B0 (Lib.hid hb)
      clear hb B0
      go_wp2_with fail
      clear q0 hw1 hgb
      refine (k_put1 w1 _ 65537 (z6_rb RB.out) (by omega)).mono ?_
      rintro e w2 ⟨A3, n3, hl, rfl, hr, hb, hq⟩
      obtain rfl : 65537 = n3 := z7_len.symm.trans hl
      clear hl hq
      have R3 := Lib.hid hr
      clear hr
      have RB := Lib.hid (RB.out.below hb)
      have B2 := bt B1 (Lib.hid hb)
      clear hb B1
      go_wp2_with fail
      refine (k_put2 w2 _ 65537 RB.out (by omega)).mono ?_
      rintro e w3 ⟨A5, n5, hl, rfl, hr, hb, hq⟩
      obtain rfl : 0 = n5 := hl
      clear hr hq
      have RB := Lib.hid (RB.out.below hb)
      have R3 := Lib.hid (R3.out.below hb)
      have B3 := bt B2 (Lib.hid hb)
      clear hb B2
      go_wp2_with fail
      refine (k_get w3 _ 65537 R3.out (by omega)).mono ?_
      rintro e w4 ⟨A7, n7, hl, rfl, hr, hb, hq⟩
      obtain rfl : 65536 = n7 := z6_len.symm.trans hl
      clear hr hq hl
      have RB := Lib.hid (RB.out.below hb)
      have B4 := bt B3 (Lib.hid hb)
      clear hb B3
      go_wp2_with fail
      refine (k_get w4 _ 65537 RB.out (by omega)).mono ?_
      rintro e w5 ⟨A8, n8, hl, rfl, hr, hb, hq⟩
      obtain rfl : 65536 = n8 := z6_len.symm.trans hl
      clear hr hq hl
      have RB := Lib.hid (RB.out.below hb)
      have B5 := bt B4 (Lib.hid hb)
      clear hb B4
      obtain ⟨g9, c9, v9, hrun9, hr9, hc9, hd9, hb9⟩ := cons_own (c := 65537) w5 0 (by omega) RB.out z7_len (by omega)
      have R9 := Lib.hid (show Rb v9 (some g9) Z8 from hr9)
      have HC9 := Lib.hid hc9
      have hb := hb9
      clear hr9 hc9 hd9 hb9
      go_wp2_with (at_builtin; refine wpList_app (o := ⟨some 82, _, _, _, _, _⟩) rfl _ _ _ _ rfl _ _ rfl rfl hrun9 ?_)
      have RB := Lib.hid (RB.out.below hb)
      have B6 := bt B5 (Lib.hid hb)
      clear hb B5 hrun9
      refine (k_get8 v9 _ c9 R9.out HC9.out).mono ?_
      rintro e w7 ⟨A10, n10, hl, rfl, hr, hb, hq⟩
      obtain rfl : 0 = n10 := hl
      clear hr hq R9 HC9
      have RB := Lib.hid (RB.out.below hb)
      have B7 := bt B6 (Lib.hid hb)
      clear hb B6
      go_wp2_with fail
      refine (k_oct1 w7 _ 65537 (z6_rb RB.out)).mono ?_
      rintro e w8 ⟨A11, n11, hl, rfl, hr, hb⟩
      obtain rfl : 65536 = n11 := z6_len.symm.trans hl
      clear hl
      have R11 := Lib.hid hr
      clear hr
      have RB := Lib.hid (RB.out.below hb)
      have B8 := bt B7 (Lib.hid hb)
      clear hb B7
      obtain ⟨Do, wzo, w9, hD, hwz, hkz, hw3, hk3, hb⟩ := var5 w8 4 A11 65536
      obtain ⟨z0, z1, z2, z3, z4, zz⟩ := Bk.five hkz
      obtain ⟨y0, y1, y2, y3, y4⟩ := Bk.free5 hkz
      obtain ⟨x0, x1, x2, x3, x4, xz⟩ := Bk.five hk3
      have Ko := Lib.hid hk3
      clear hkz hk3
      have RB := Lib.hid (RB.out.below hb)
      have R11 := Lib.hid (R11.out.below hb)
      have B9 := bt B8 (Lib.hid hb)
      clear hb B8
      go_wp2_with fail
      clear z0 z1 z2 z3 z4 zz y0 y1 y2 y3 y4 hw3 hwz hD x0 x1 x2 x3 x4 xz
      refine (k_oct2 w9 _ 65537).mono ?_
      rintro e w10 ⟨rfl, hb⟩
      have RB := Lib.hid (RB.out.below hb)
      have R11 := Lib.hid (R11.out.below hb)
      have Ko := Lib.hid (Ko.out.below hb Ko.out.lt)
      have B10 := bt B9 (Lib.hid hb)
      clear hb B9
      obtain ⟨x0, x1, x2, x3, x4, xz⟩ := Bk.five Ko.out
      go_wp2_with fail
      clear x0 x1 x2 x3 x4 xz
      refine (k_of1 w10 A11 R11.out).mono ?_
      rintro e w11 ⟨A12, n12, hl, rfl, hr, hb, hq⟩
      obtain rfl : 65536 = n12 := z6_len.symm.trans hl
      clear hr hq hl
      have RB := Lib.hid (RB.out.below hb)
      have Ko := Lib.hid (Ko.out.below hb Ko.out.lt)
      have B11 := bt B10 (Lib.hid hb)
      clear hb B10
      clear Ko
      go_wp2_with fail
      refine (k_of2 w11 _ RB.out).mono ?_
      rintro e w12 ⟨A13, n13, hl, rfl, hr, hb, hq⟩
      obtain rfl : 0 = n13 := hl
      clear hr hq
      have RB := Lib.hid (RB.out.below hb)
      have B12 := bt B11 (Lib.hid hb)
      clear hb B11
      go_wp2_with fail
      refine (k_full w12).mono ?_
      rintro e w13 ⟨gf, rfl, hr, hl, hb, hq⟩
      clear hl hq q1 q1'
      have RF := Lib.hid hr
      clear hr
      have RB := Lib.hid (RB.out.below hb)
      have B13 := bt B12 (Lib.hid hb)
      clear hb B12
      obtain ⟨Af, p1, p1', hp⟩ := slice_one 9 9 (some ⟨gf, 0, none⟩) FF rfl (by omega) (Nat.le_refl _)
      obtain ⟨v1, m1, gm, cm, m2, hra, hrb, hrm, hcm, hbm⟩ := cons2 (c := 8) w13 7 128 (by omega) (by omega) (hp _ RF.out) (show FF.tail.length = 8 from rfl) (by omega)
      have RM := Lib.hid (show Rb m2 (some gm) GG from hrm)
      have HCM := Lib.hid hcm
      have hb := hbm
      have RF := Lib.hid (RF.out.below hb)
      have RB := Lib.hid (RB.out.below hb)
      obtain ⟨b', o', e, hgf, hcl⟩ := RF.out.1 (by decide)
      simp only [Option.some.injEq, Addr.mk.injEq, and_true] at e
      obtain ⟨rfl, rfl⟩ := e
      have hcf : m2.cell? ⟨gf, 0, none⟩ = some (.int .u8 0) := hcl 0 _ rfl
      have B14 := bt B13 (Lib.hid hb)
      clear hb hbm B13 hp hrm hcm hcl
      go_wp2_with (first | (at_builtin; refine wpList_app (o := ⟨some 169, _, _, _, _, _⟩) rfl _ _ _ _ rfl _ _ rfl rfl hra ?_) | (at_builtin; refine wpList_app (o := ⟨some 171, _, _, _, _, _⟩) rfl _ _ _ _ rfl _ _ rfl rfl hrb ?_))
      clear hra hrb p1 p1' hcf hgf
      refine (k_namedF m2 _ 9 RF.out (Nat.le_refl _)).mono ?_
      rintro e w15 ⟨rfl, hb⟩
      have RB := Lib.hid (RB.out.below hb)
      have RM := Lib.hid (RM.out.below hb)
      have B15 := bt B14 (Lib.hid hb)
      clear hb B14
      go_wp2_with fail
      refine (k_namedG w15 _ cm RM.out HCM.out).mono ?_
      rintro e w16 ⟨rfl, hb⟩
      have RB := Lib.hid (RB.out.below hb)
      have RM := Lib.hid (RM.out.below hb)
      have B16 := bt B15 (Lib.hid hb)
      clear hb B15
      obtain ⟨Am, p2, p2', hp⟩ := slice_one 10 cm (some gm) GG rfl (by omega) HCM.out
      obtain ⟨gh, ch, m3, hrc, hrh, hch, hdh, hbh⟩ := cons_own (c := cm - 1) w16 6 (by omega) (hp _ RM.out) (show GG.tail.length = 9 from rfl) (by omega)
      have RH := Lib.hid (show Rb m3 (some gh) HH from hrh)
      have HCH := Lib.hid hch
      have hb := hbh
      have RB := Lib.hid (RB.out.below hb)
      have B17 := bt B16 (Lib.hid hb)
      have hcm10 := HCM.out
      clear hb hbh B16 hp hrh hch hdh
      go_wp2_with (at_builtin; refine wpList_app2 (o := ⟨some 193, _, _, _, _, _⟩) rfl _ _ _ _ rfl _ _ rfl rfl hrc ?_)
      clear hrc p2 p2' hcm10
      refine (k_namedH m3 _ ch RH.out HCH.out).mono ?_
      rintro e w18 ⟨rfl, hb⟩
      have RB := Lib.hid (RB.out.below hb)
      have B18 := bt B17 (Lib.hid hb)
      clear hb B17
      obtain ⟨gz, cz, m4, hrz, hrzz, hcz, hdz, hbz⟩ := cons_own (c := 65537) w18 0 (by omega) RB.out z7_len (by omega)
      have RZ := Lib.hid (show Rb m4 (some gz) Z8 from hrzz)
      have HCZ := Lib.hid hcz
      have hb := hbz
      have B19 := bt B18 (Lib.hid hb)
      clear hb hbz B18 hrzz hcz hdz
      go_wp2_with (at_builtin; refine wpList_app2 (o := ⟨some 199, _, _, _, _, _⟩) rfl _ _ _ _ rfl _ _ rfl rfl hrz ?_)
      clear hrz
      refine (k_named8 m4 _ cz RZ.out HCZ.out).mono ?_
      rintro e w20 ⟨rfl, hb⟩
      have B20 := bt B19 (Lib.hid hb)
      clear hb B19
      go_wp2_with fail
      refine (lives1 w20).mono ?_
      rintro e w21 ⟨rfl, hb⟩
      have B21 := bt B20 (Lib.hid hb)
      clear hb B20
      go_wp2_with fail
      go_ret
      exact ⟨rfl, B21.out⟩

open Go.ChangeShapes Go.WideShapes Go.ChangeAt
set_option maxRecDepth 100000 in
theorem bitstringsKnown_lifted (os : Os) (started : os.Started) (H : Type) (enc : TypeId × Value → H) :
    ReturnsInHanded {} Try.checked os 7 .any (Rows.bitstringsKnownSpec.pre6 enc Try.prog Try.f7 Rows.bitstringsKnownRow.domain false) (Rows.bitstringsKnownSpec.post enc Try.prog Try.f7 false true false false) := by
  refine returnsInHanded_of_change (C := Try.checked) x_own started (by kernel_rfl) Try.func7
    (ChangeSpec.witness6 (enc := enc) (C := Try.checked) false ⟨#[], #[], []⟩ 8 (by kernel_rfl) (by kernel_rfl) (by kernel_rfl) (by kernel_rfl)) ?_
  intro W base args ds gs before hval0 hW hcnd _
  have hval : ∀ (j : Nat) t v, Try.f7.params[j]? = some t → args[j]? = some v → Value.okWide Try.prog W .any base t v := hval0
  have hW' := hW
  obtain ⟨p, q, hA0, hV, rfl, hfz, hnd⟩ := hW
  have hA : DataW.TrodAll enc Try.prog W 0 (fun _ => true) true Try.f7.params.toList args.toList ds p := hA0
  rw [Try.params7] at hA hval
  obtain ⟨rfl, rfl, rfl⟩ := trodAll_none hA
  obtain ⟨rfl, rfl⟩ := trodVars_none hV
  clear hA0 hval0
  refine (known_walk W).mono fun e W' ⟨he, hb⟩ => ?_
  subst he
  exact ⟨_, rfl, law_post (tb := 4) x_laid (by decide +kernel) rfl rfl (by kernel_rfl) Try.underlying4 hW' hb⟩

/-- The statement. -/
theorem bitstringsKnown_holds : Rows.BitstringsKnownSaid :=
  OpenClaim.holds_of_wide 7 Try.f7 rfl rfl rfl rfl rfl rfl rfl ⟨rfl, rfl, rfl, rfl, rfl⟩ rfl rfl rfl rfl rfl (by kernel_rfl) Try.func7 (by kernel_rfl)
    (of_decide_eq_true (by kernel_rfl)) (by unfold Func.isWrapper; first | (rw [if_pos (by decide +kernel)]; kernel_rfl) | (rw [if_neg (by decide +kernel)]; exact ⟨rfl, rfl⟩))
    (fun os started H enc _ => bitstringsKnown_lifted os started H enc)
end Go.Proofs.Ytnebjdgolbnkfaa.Bit
