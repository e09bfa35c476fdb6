/-
  Layer 6, the statement OidsKnown: the examples of the chapter; the subidentifiers around each additional octet; 16 arcs and 17.
  Conditions: the package-level variables that the row lists hold what the program's text lays (the card ties them).
-/
import Derived.Test.YtndamidmgglneaaDoorOidY
import Derived.Test.YtndamidmgglneaaDoorOidPq
import Derived.Test.YtndamidmgglneaaDoorOidAo
import Derived.ArgAppend
namespace Go.Proofs.YtndamidmgglneaaDoor
open Go.RowKit

theorem neq25 {n m : Nat} {l k : List Nat} (hl : l.length = 16) (hk : k.length = 16) (h : n ≠ m) (w : World) : (binOp .neq 26 (oV n l) (oV m k)).run Tryd.prog w = .ok (.bool true) w := by
  rw [run_neq_struct, show (10000 : Nat) = 9997 + 3 from rfl, equalIn25 9997 hl hk w, decide_eq_false h]
  rfl
theorem neqZ {n : Nat} {k : List Nat} (hk : k.length = 16) (w : World) : (binOp .neq 26 (oV n k) (oV n k)).run Tryd.prog w = .ok (.bool false) w := by
  rw [run_neq_struct, show (10000 : Nat) = 9997 + 3 from rfl, equalIn25 9997 hk hk w, decide_eq_true (p := n = n) rfl, decide_eq_true (p := k = k) rfl]
  rfl
theorem r32u {a b : World} {A : Option Addr} {l : List Nat} (h : Hid (R32 a A l)) (h2 : Hid (Below a.heap.size a b)) : Hid (R32 b A l) := Lib.hid (h.out.below h2.out)
theorem app_wp {P : Program} {w : World} {o : Oper} {a : Act} {K : Act → World → Prop} {Q : Exit → Act → World → Prop} (s x : Operand) (t1 t2 : TypeId)
    (ho : o.op = .call { callee := .builtin .append, args := #[s, x], argTypes := #[t1, t2] }) (u v : Value) (hs : a.eval s = u) (hx : a.eval x = v) {r : Value} {w1 : World}
    (hrun : (Builtin.append_ #[t1, t2] o.type #[u, v]).run P w = .ok r w1) (h : K (a.put o.dst r) w1) : Oper.wp P o a w K Q := by
  unfold Oper.wp execOp
  simp only [ho, resolve, invoke, builtin, Sem.run_bind, Sem.run_pure, Result.andThen_ok, List.map_toArray, List.map_cons, List.map_nil, hs, hx, hrun]
  exact h
def nums : List Nat := [0, 127, 128, 16383, 16384, 2097151, 2097152, 268435455, 268435456, 4294967295]
def szs : List Nat := [1, 1, 2, 2, 3, 3, 4, 4, 5, 5]
def long : List Nat := [2, 4294967215, 1, 1, 1, 1, 1, 1, 1, 1, 1, 1, 1, 1, 1, 4294967295, 7]
def big : List Nat := [2, 4294967215, 1, 1, 1, 1, 1, 1, 1, 1, 1, 1, 1, 1, 1, 4294967295]
theorem x_ok (x : Nat) (h : x < 4294967296) : OkO 3 (pad [0, 0, x]) := okO_pad (l := [0, 0, x]) (by simp) (by simp; omega)
theorem x_chk (x : Nat) : chkO 3 (pad [0, 0, x]) = 0 := rfl
theorem x_tab : ∀ j : Fin 10, (putO 3 (pad [0, 0, nums[j.val]'(j.isLt)])).length = 1 + szs[j.val]'(j.isLt) ∧ nums[j.val]'(j.isLt) < 4294967296 ∧ szs[j.val]'(j.isLt) ≤ 5 := by decide +kernel
theorem of_x (x : Nat) (h : x < 4294967296) (W : World) : Calls Tryd.prog 14 #[.slice (some ⟨W.heap.size, 0, none⟩) 3 3] (W.alloc (.cells #[.int .u32 0, .int .u32 0, .int .u32 (x : Int)] 23)) fun e w' => e = .returned (oV 3 (pad [0, 0, x])) ∧ Hid (Below W.heap.size W w') :=
  of_lit [0, 0, x] 3 3 (pad [0, 0, x]) W rfl (by decide) (by simp; omega) rfl rfl
/-- 'append(b, 1)' where b is full. -/
theorem app_full {w : World} {A : Option Addr} {l : List Nat} {N : Nat} (y : Nat) (h : Rb w A l) (hN : l.length = N) (h0 : 0 < N) (hl : N ≤ 1000) (hy : y < 256) :
    ∃ A' d w', (Builtin.append_ #[40, 40] 40 #[.slice A N N, .slice (some ⟨w.heap.size, 0, none⟩) 1 1]).run Tryd.prog (w.alloc (.cells #[.int .u8 (y : Int)] 5)) = .ok (.slice A' (N + 1) d) w' ∧ N + 1 ≤ d ∧ d ≤ maxLen ∧ Rb w' A' (l ++ [y]) ∧ Below w.heap.size w w' := by
  obtain ⟨i, hi, hz0, hz1, hz2⟩ := info_parts info5
  obtain ⟨b, off, rfl, hb, -⟩ := h.at_ (k := 0) (by omega)
  have h1 := h.below (bel1 w (.cells #[.int .u8 (y : Int)] 5))
  obtain ⟨v', w', hrun, hown, hg⟩ := run_append_arg_grows (P := Tryd.prog) (w.alloc (.cells #[.int .u8 (y : Int)] 5)) 40 40 5 i (.int .u8 0) 1 1 Tryd.underlying40 hi hz0 hz1 hz2 rfl (by decide)
    ⟨b, off, none⟩ N N (cs8 l) (by rw [cs8_length, hN, Nat.mul_one]) (fun j u hu => by
      obtain ⟨b', off', e, _, hc⟩ := h1.1 (by intro e; rw [e] at hu; simp at hu)
      obtain ⟨rfl, rfl⟩ : b = b' ∧ off = off' := by simpa using e
      rw [addr_add]; exact hc j u hu)
    ⟨w.heap.size, 0, none⟩ 1 1 [.int .u8 (y : Int)] rfl (fun j u hu => by
      obtain ⟨hj, rfl⟩ := List.getElem?_eq_some_iff.1 hu
      have : j = 0 := by simpa using hj
      subst this
      simp [Addr.add, go_sem]) (by omega) (by unfold maxLen; omega) (by omega)
  have e : cs8 l ++ [.int .u8 (y : Int)] = cs8 (l ++ [y]) := by unfold cs8; rw [List.map_append]; rfl
  have e2 : N + 1 = (cs8 (l ++ [y])).length := by rw [cs8_length, List.length_append, hN]; rfl
  rw [e, e2] at hown
  obtain ⟨A', d, rfl, hrd, h5, h6⟩ := own_open hown
  rw [cs8_length, List.length_append, hN, List.length_singleton] at hrun h5
  exact ⟨A', d, w', hrun, h5, h6, ⟨hrd, h.2.append (fun x hx => (by rw [List.mem_singleton] at hx; rw [hx]; exact hy))⟩, (bel1 w _).trans ((only_below (B := w.heap.size) (g := w'.heap.size + 1) ⟨hg.os, hg.tape, hg.output, hg.size, fun k hk _ => hg.block k hk (by simp)⟩ (by have := hg.size; simp at this; omega) (by simp)))⟩

theorem later {α β γ : Type} {F G : α → β → γ → Prop} {Q : Prop} (h1 : (∀ a b c, F a b c → G a b c) → Q) (h2 : ∀ a b c, F a b c → G a b c) : Q := h1 h2
theorem sw1 {P : Program} {md : Region.Mode} {ops : Array Oper} {Q : Exit → Act → World → Prop} {S : World → Prop} {fuel : Nat} {L : Array Bool} {a : Act} {w : World} {i j k : Nat} (hij : i ≠ j)
    (h : wpAnyH P md ops Q S fuel (((L.setIfInBounds i true).setIfInBounds j true).setIfInBounds k true) a w) : wpAnyH P md ops Q S fuel (((L.setIfInBounds j true).setIfInBounds i true).setIfInBounds k true) a w := by
  rw [Array.setIfInBounds_comm true true hij] at h; exact h
theorem sw2 {P : Program} {md : Region.Mode} {ops : Array Oper} {Q : Exit → Act → World → Prop} {S : World → Prop} {fuel : Nat} {L : Array Bool} {a : Act} {w : World} {i j k : Nat} (hij : i ≠ j) (hik : i ≠ k)
    (h : wpAnyH P md ops Q S fuel (((L.setIfInBounds i true).setIfInBounds j true).setIfInBounds k true) a w) : wpAnyH P md ops Q S fuel (((L.setIfInBounds j true).setIfInBounds k true).setIfInBounds i true) a w := by
  rw [Array.setIfInBounds_comm true true hij, Array.setIfInBounds_comm true true hik] at h; exact h
theorem of_reg (A : Option Addr) (l : List Nat) (N n : Nat) (L : List Nat) (W : World) (hN : l.length = N) (hm : N ≤ 100) (ha : l.all (fun x => decide (x < 4294967296)) = true) (R : R32 W A l) (h1 : ofN l = n) (h2 : ofL l = L) :
    Calls Tryd.prog 14 #[.slice A N N] W fun e w' => e = .returned (oV n L) ∧ Hid (Below W.heap.size W w') := by
  subst hN
  exact (of_any A l l.length W (by unfold maxLen; omega) (fun x hx => by simpa using List.all_eq_true.1 ha x hx) R).mono fun e w' ⟨h3, h4⟩ => ⟨by rw [h3, h1, h2], Lib.hid h4⟩

set_option maxHeartbeats 6400000 in
set_option maxRecDepth 100000 in
theorem known_walk (w : World) (hE : Env w) : Calls Tryd.prog 5 #[] w fun e w' => e = .returned (.bool true) ∧ Below w.heap.size w w' := by
  have hz := zero25
  obtain ⟨zl, hzl⟩ : ∃ zl, zeroL = zl := ⟨_, rfl⟩
  have HZ := Lib.hid hzl
  have HZL : Hid (zl.length = 16) := Lib.hid (by rw [← hzl]; exact zeroL_length)
  rw [hzl] at hz
  clear hzl
  have E0 := Lib.hid hE
  clear hE
  have X := Lib.hid ((Bk.new w 23 (cs32 nums)).alloc (.cells (csI szs).toArray 3))
  have Y := Lib.hid (show Bk ((w.alloc (.cells (cs32 nums).toArray 23)).alloc (.cells (csI szs).toArray 3)) (w.heap.size + 1) 3 (csI szs) from by
    have := Bk.new (w.alloc (.cells (cs32 nums).toArray 23)) 3 (csI szs)
    rwa [World.size_alloc] at this)
  have B0 := Lib.hid ((bel1 w (.cells (cs32 nums).toArray 23)).alloc (by simp) (.cells (csI szs).toArray 3))
  go_enter Tryd.func5, Tryd.ntmps5
  go_upto_region 3 with fail
  obtain ⟨w0, hw0⟩ : ∃ w0, (w.alloc (.cells (cs32 nums).toArray 23)).alloc (.cells (csI szs).toArray 3) = w0 := ⟨_, rfl⟩
  rw [hw0] at X Y B0
  change Code.wp _ _ _ _ ((w.alloc (.cells (cs32 nums).toArray 23)).alloc (.cells (csI szs).toArray 3))
  rw [hw0]
  clear hw0
  go_wp2_with fail
  go_loopw [3] (fun i wr => ∃ j : Nat, j ≤ 10 ∧ i = .int .i64 (j : Int) ∧ Bk wr w.heap.size 23 (cs32 nums) ∧ Bk wr (w.heap.size + 1) 3 (csI szs) ∧ Below w.heap.size w wr) (fun i _ => 10 - (intOf i).toNat)
  case atStart => exact ⟨0, by omega, rfl, X.out, Y.out, B0.out⟩
  case round =>
    rename_i wr
    obtain ⟨j, hj, rfl, hx, hy, hb⟩ := hrel
    have X2 := Lib.hid hx
    have Y2 := Lib.hid hy
    have BW := Lib.hid hb
    clear hx hy hb X Y B0
    rcases Nat.lt_or_ge j 10 with hj2 | hj2
    · obtain ⟨ht, hx32, hs5⟩ := x_tab ⟨j, hj2⟩
      have hcx : (cs32 nums)[j]? = some (.int .u32 ((nums[j]'hj2 : Nat) : Int)) := cs32_get hj2
      have hcy : (csI szs)[j]? = some (.int .i64 ((szs[j]'hj2 : Nat) : Int)) := csI_get hj2
      simp only at ht hx32 hs5
      generalize nums[j]'hj2 = x at *
      generalize szs[j]'hj2 = s at *
      have CO := Lib.hid (fun W => of_x x hx32 W)
      have CP := Lib.hid (fun W => put_any 3 (pad [0, 0, x]) W (x_ok x hx32) (x_chk x))
      have hgp := get_put (x_ok x hx32) (x_chk x)
      generalize putO 3 (pad [0, 0, x]) = P at *
      obtain ⟨M, hM⟩ : ∃ M, 1 + s = M := ⟨_, rfl⟩
      rw [hM] at ht
      have hMi : (1 : Int) + (s : Int) = (M : Int) := by omega
      unfold GiveP at CP
      rw [ht] at CP
      have hkl : (pad [0, 0, x]).length = 16 := rfl
      have CR := Lib.hid (fun A W (hR : Hid (Rb W A P)) => read_reg A P M M 3 (pad [0, 0, x]) 0 W ht (Nat.le_refl _) (by unfold maxLen; omega) hR hkl hgp)
      have HCX := Lib.hid hcx
      have HCY := Lib.hid hcy
      have c1 := (X2.out.cell j).trans hcx
      have hM6 : M ≤ 6 := by omega
      clear hcx hcy hgp ht hM hkl
      generalize pad [0, 0, x] = px at *
      go_wp2_with fail
      refine (CO.out _).mono ?_
      rintro e w1 ⟨rfl, hb1⟩
      have B1 := bt BW hb1
      have X3 := kt X2 hb1
      have Y3 := kt Y2 hb1
      clear hb1 BW X2 Y2 c1
      go_wp2_with fail
      refine (CP.out _).mono ?_
      rintro e w2 ⟨A, rfl, hR, hb2⟩
      have R := Lib.hid hR
      have B2 := bt B1 (Lib.hid hb2)
      have X4 := kt X3 (Lib.hid hb2)
      have Y4 := kt Y3 (Lib.hid hb2)
      clear hb2 hR B1 X3 Y3
      have c1 := (X4.out.cell j).trans HCX.out
      have c2 := (Y4.out.cell j).trans HCY.out
      go_wp2_with fail
      refine (CO.out _).mono ?_
      rintro e w3 ⟨rfl, hb3⟩
      have B3 := bt B2 hb3
      have X5 := kt X4 hb3
      have Y5 := kt Y4 hb3
      have R3 := rt R hb3
      clear hb3 B2 X4 Y4 R c1 c2
      go_wp2_with fail
      refine (CR.out _ _ R3).mono ?_
      rintro e w4 ⟨rfl, hb4⟩
      have B4 := bt B3 hb4
      have X6 := kt X5 hb4
      have Y6 := kt Y5 hb4
      clear hb4 B3 X5 Y5 R3
      go_wp2_with fail
      exact ⟨⟨j + 1, by omega, by simp, X6.out, Y6.out, B4.out⟩, by show 10 - ((j : Int) + 1).toNat < 10 - ((j : Int)).toNat; omega⟩
    · obtain rfl : j = 10 := by omega
      obtain ⟨w0, rfl⟩ : ∃ v, v = wr := ⟨_, rfl⟩
      have B0 := BW
      clear BW X2 Y2
      have hok : OkO 16 (pad big) := okO_lit big (by decide) (by decide)
      have hck : chkO 16 (pad big) = 0 := by decide +kernel
      have C1 := Lib.hid (fun W (R : R32 W (some ⟨w0.heap.size + 1, 0, none⟩) big) => (by have := of_any (some ⟨w0.heap.size + 1, 0, none⟩) big 17 W (by decide) (by decide) R; rw [show ofN big = 16 by decide +kernel, show ofL big = pad big by decide +kernel] at this; exact this : Calls Tryd.prog 14 #[.slice (some ⟨w0.heap.size + 1, 0, none⟩) 16 17] W (GiveO W 16 (pad big))))
      have C2 := Lib.hid (fun W (R : R32 W (some ⟨w0.heap.size + 1, 0, none⟩) long) => (by have := of_any (some ⟨w0.heap.size + 1, 0, none⟩) long 17 W (by decide) (by decide) R; rw [show ofN long = 0 by decide +kernel, show ofL long = zl by rw [← HZ.out]; decide +kernel] at this; exact this : Calls Tryd.prog 14 #[.slice (some ⟨w0.heap.size + 1, 0, none⟩) 17 17] W (GiveO W 0 zl)))
      have hgp := get_put hok hck
      have hpt := prs_text hok hck
      have CP := Lib.hid (fun W => put_lit 16 (pad big) (putO 16 (pad big)) 23 W hok hck rfl (by decide +kernel))
      have CT := Lib.hid (fun W hE => (text_any 16 (pad big) W hok hE : Calls Tryd.prog 9 #[oV 16 (pad big)] W (GiveT W (txO 16 (pad big)))))
      have hP23 : (putO 16 (pad big)).length = 23 := by decide +kernel
      have hP24 : getO (putO 16 (pad big) ++ [1]) = (0, zl, 3) := by rw [← HZ.out]; decide +kernel
      have hq1 : prsO (txO 16 (pad big) ++ [46, 49]) = (0, zl, 3) := by rw [← HZ.out]; decide +kernel
      have hqx : prsO (txO 16 (pad big) ++ [46, 120]) = (0, zl, 6) := by rw [← HZ.out]; decide +kernel
      have htl := txO_len hok
      have hta := txO_all 16 (pad big)
      have hpb := hok.len
      change Hid (∀ W, Calls Tryd.prog 13 #[oV 16 (pad big)] W _) at CP
      generalize putO 16 (pad big) = P at *
      generalize txO 16 (pad big) = tx at *
      generalize pad big = pb at *
      have hTT : ∀ m : List Nat, bstr (tx ++ m) = bstr tx ++ bstr m := fun m => (bstr_app tx m).symm
      have KR := Lib.hid (fun A W (hR : Hid (Rb W A P)) => read_reg A P 23 23 16 pb 0 W hP23 (Nat.le_refl _) (by unfold maxLen; omega) hR hpb hgp)
      have KA := Lib.hid (fun A d W (h1 : 24 ≤ d) (h2 : d ≤ maxLen) (hR : Hid (Rb W A (P ++ [1]))) => read_reg A (P ++ [1]) 24 d 0 zl 3 W (by rw [List.length_append, hP23]; rfl) h1 h2 hR HZL.out hP24)
      have KF := Lib.hid (fun (A : Option Addr) (W : World) (hR : Rb W A P) => app_full 1 hR hP23 (by omega) (by omega) (by omega))
      have Q0 := Lib.hid (fun W hE => parsed_lit (bstr tx) tx 16 pb 0 W rfl hta (by omega) hE hpb hpt)
      have Q1 := Lib.hid (fun W hE => parsed_lit (bstr tx ++ ⟨#[46, 49]⟩) (tx ++ [46, 49]) 0 zl 3 W (hTT [46, 49]) (hta.append (all_lit (by decide))) (by simp; omega) hE HZL.out hq1)
      have Qx := Lib.hid (fun W hE => parsed_lit (bstr tx ++ ⟨#[46, 120]⟩) (tx ++ [46, 120]) 0 zl 6 W (hTT [46, 120]) (hta.append (all_lit (by decide))) (by simp; omega) hE HZL.out hqx)
      have hsz : (bstr tx).size ≤ 9223372036854775805 := by rw [bstr_size]; omega
      unfold GiveT at CT
      generalize bstr tx = T at *
      have hsl := slice_to32 16 17 17 (some ⟨w0.heap.size + 1, 0, none⟩) (by omega)
      clear hgp hpt hP23 hP24 hq1 hqx hta htl hok hck hTT hj2 hj
      go_upto_region 11 with fail
      have G6 := Lib.hid ((Bk.new w0 26 (oc 0 zl)).alloc (.cells (cs32 long).toArray 23))
      have RL : Hid (R32 ((w0.alloc (.cells (oc 0 zl).toArray 26)).alloc (.cells (cs32 long).toArray 23)) (some ⟨w0.heap.size + 1, 0, none⟩) long) := Lib.hid (by
        have := r32_lit (w0.alloc (.cells (oc 0 zl).toArray 26)) long
        rwa [World.size_alloc] at this)
      have B1 := Lib.hid ((B0.out.alloc B0.out.size (.cells (oc 0 zl).toArray 26)).alloc (by have := B0.out.size; simp; omega) (.cells (cs32 long).toArray 23))
      have hgs := B0.out.size
      obtain ⟨w1, hw1⟩ : ∃ w1, (w0.alloc (.cells (oc 0 zl).toArray 26)).alloc (.cells (cs32 long).toArray 23) = w1 := ⟨_, rfl⟩
      rw [hw1] at G6 RL B1
      change Code.wp _ _ _ _ ((w0.alloc (.cells (oc 0 zl).toArray 26)).alloc (.cells (cs32 long).toArray 23))
      rw [hw1]
      clear hw1 B0
      generalize w0.heap.size = g6 at *
      go_upto_region 12 with (first
        | (go_at_call 14; refine (C1.out _ (show R32 _ _ big from RL.out.take_ 16)).mono ?_; rintro e w2 ⟨rfl, hb⟩; have hbh := Lib.hid hb; have B2 := bt B1 hbh; have G62 := kt G6 hbh; have RL2 := r32u RL hbh; have hsz2 := G62.out.lt; clear hb hbh B1 G6 RL)
        | (refine wpList_store25 rfl (.tmp 8) (.tmp 56) rfl (n := 16) (l := pb) rfl rfl (Bk.new w2 26 (oc 0 zl)) (by rw [oc_length, HZL.out]) hpb ?_; intro w3 V3 hg3 hz3; have G8 := Lib.hid V3; have hbn : Below w2.heap.size w2 w3 := (bel1 w2 (.cells (oc 0 zl).toArray 26)).trans (only_below hg3 (Nat.le_refl _) (by simp)); have B3 := bt B2 (Lib.hid hbn); have G6 := kt G62 (Lib.hid hbn); have RL := r32u RL2 (Lib.hid hbn); clear V3 hg3 hz3 hbn B2 G62 RL2))
      clear hsl hsz2 C1
      generalize w2.heap.size = g8 at *
      go_wp2_with (first | (refine wpList_load25g (by rfl) (.tmp 8) rfl rfl G8.out hpb ?_) | (refine wpList_load25g (by rfl) (.tmp 6) rfl rfl G6.out HZL.out ?_))
      refine (CP.out _).mono ?_
      rintro e w4 ⟨A, rfl, R, hbh⟩
      have B4 := bt B3 hbh
      have G6n := kt G6 hbh
      clear G6
      have G6 := G6n
      clear G6n
      have G8n := kt G8 hbh
      clear G8
      have G8 := G8n
      clear G8n
      have RLn := r32u RL hbh
      clear RL
      have RL := RLn
      clear RLn
      clear B3
      clear hbh
      go_wp2_with (first | (refine wpList_load25g (by rfl) (.tmp 8) rfl rfl G8.out hpb ?_) | (refine wpList_load25g (by rfl) (.tmp 6) rfl rfl G6.out HZL.out ?_))
      refine (CT.out _ (E0.out.below B4.out)).mono ?_
      rintro e w5 ⟨rfl, hb⟩
      have hbh := Lib.hid hb
      clear hb
      have B5 := bt B4 hbh
      have G6n := kt G6 hbh
      clear G6
      have G6 := G6n
      clear G6n
      have G8n := kt G8 hbh
      clear G8
      have G8 := G8n
      clear G8n
      have Rn := rt R hbh
      clear R
      have R := Rn
      clear Rn
      have RLn := r32u RL hbh
      clear RL
      have RL := RLn
      clear RLn
      clear B4
      clear hbh
      go_upto_region 14 with fail
      have hneZ := fun W => neqZ (n := 0) HZL.out W
      refine wp_region_held_drew (S := fun W => Bk W g6 26 (oc 0 zl) ∧ Bk W g8 26 (oc 16 pb)) (by kernel_rfl) (⟨G6.out, G8.out⟩) (fun hS => ?_)
      have hdr : Hid (Below w5.heap.size w5 w5.drew) := Lib.hid ⟨rfl, rfl, rfl, Nat.le_refl _, fun _ _ => rfl⟩
      have B6 := bt B5 hdr
      have G6n := kt G6 hdr
      clear G6
      have G6 := G6n
      clear G6n
      have G8n := kt G8 hdr
      clear G8
      have G8 := G8n
      clear G8n
      have Rn := rt R hdr
      clear R
      have R := Rn
      clear Rn
      have RLn := r32u RL hdr
      clear RL
      have RL := RLn
      clear RLn
      clear B5
      clear hdr
      generalize w5.drew = w6 at *
      refine wpAnyH_take (i := 0) (oi := ⟨some 64, _, _, _, _, _⟩) (v := .int .i64 0) rfl (by kernel_rfl) (by kernel_rfl) (by kernel_rfl) (fun _ _ _ h => h) (Or.inl ⟨by rfl, fun w hSw => by (try dsimp only at hSw); go_simp⟩) hS ?_
      simp only [Act.put, List.setIfInBounds_toArray, List.set_cons_zero, List.set_cons_succ]
      refine wpAnyH_take (i := 1) (oi := ⟨some 65, _, _, _, _, _⟩) (v := .bool false) rfl (by kernel_rfl) (by kernel_rfl) (by kernel_rfl) (fun _ _ _ h => h) (Or.inl ⟨by rfl, fun w hSw => by (try dsimp only at hSw); go_simp⟩) hS ?_
      simp only [Act.put, List.setIfInBounds_toArray, List.set_cons_zero, List.set_cons_succ]
      refine wpAnyH_take (i := 2) (oi := ⟨some 66, _, _, _, _, _⟩) (v := .bool false) rfl (by kernel_rfl) (by kernel_rfl) (by kernel_rfl) (fun _ _ _ h => h) (Or.inl ⟨by rfl, fun w hSw => by (try dsimp only at hSw); go_simp⟩) hS ?_
      simp only [Act.put, List.setIfInBounds_toArray, List.set_cons_zero, List.set_cons_succ]
      refine wpAnyH_take (i := 3) (oi := ⟨some 67, _, _, _, _, _⟩) (v := .slice A 23 23) rfl (by kernel_rfl) (by kernel_rfl) (by kernel_rfl) (fun _ _ _ h => h) (Or.inl ⟨by rfl, fun w hSw => by (try dsimp only at hSw); go_simp⟩) hS ?_
      simp only [Act.put, List.setIfInBounds_toArray, List.set_cons_zero, List.set_cons_succ]
      refine wpAnyH_take (i := 4) (oi := ⟨some 68, _, _, _, _, _⟩) (v := .int .i64 23) rfl (by kernel_rfl) (by kernel_rfl) (by kernel_rfl) (fun _ _ _ h => h) (Or.inl ⟨by rfl, fun w hSw => by (try dsimp only at hSw); go_simp⟩) hS ?_
      simp only [Act.put, List.setIfInBounds_toArray, List.set_cons_zero, List.set_cons_succ]
      refine wpAnyH_take (i := 5) (oi := ⟨some 69, _, _, _, _, _⟩) (v := .bool false) rfl (by kernel_rfl) (by kernel_rfl) (by kernel_rfl) (fun _ _ _ h => h) (Or.inl ⟨by rfl, fun w hSw => by (try dsimp only at hSw); go_simp⟩) hS ?_
      simp only [Act.put, List.setIfInBounds_toArray, List.set_cons_zero, List.set_cons_succ]
      refine wpAnyH_take (i := 6) (oi := ⟨some 70, _, _, _, _, _⟩) (v := .bool false) rfl (by kernel_rfl) (by kernel_rfl) (by kernel_rfl) (fun _ _ _ h => h) (Or.inl ⟨by rfl, fun w hSw => by (try dsimp only at hSw); go_simp⟩) hS ?_
      simp only [Act.put, List.setIfInBounds_toArray, List.set_cons_zero, List.set_cons_succ]
      refine wpAnyH_take (i := 7) (oi := ⟨some 71, _, _, _, _, _⟩) (v := .bool false) rfl (by kernel_rfl) (by kernel_rfl) (by kernel_rfl) (fun _ _ _ h => h) (Or.inl ⟨by rfl, fun w hSw => by (try dsimp only at hSw); go_simp⟩) hS ?_
      simp only [Act.put, List.setIfInBounds_toArray, List.set_cons_zero, List.set_cons_succ]
      refine wpAnyH_take (i := 8) (oi := ⟨some 72, _, _, _, _, _⟩) (v := .slice (some ⟨g6 + 1, 0, none⟩) 17 17) rfl (by kernel_rfl) (by kernel_rfl) (by kernel_rfl) (fun _ _ _ h => h) (Or.inl ⟨by rfl, fun w hSw => by (try dsimp only at hSw); go_simp⟩) hS ?_
      simp only [Act.put, List.setIfInBounds_toArray, List.set_cons_zero, List.set_cons_succ]
      refine wpAnyH_take (i := 10) (oi := ⟨some 74, _, _, _, _, _⟩) (v := oV 0 zl) rfl (by kernel_rfl) (by kernel_rfl) (by kernel_rfl) (fun _ _ _ h => h) (yieldsIf_load_mid (by rfl) 26 (.tmp 6) rfl (g6) 0 rfl (oc 0 zl) _ (fun W h => range25 h.1) Tryd.underlying26 rfl (by rw [oc_length, HZL.out]; exact info25)) hS ?_
      simp only [Act.put, List.setIfInBounds_toArray, List.set_cons_zero, List.set_cons_succ]
      refine wpAnyH_ready (rs := [9]) (by kernel_rfl) (by simp) ?_
      refine AllReadyH.cons (o := _) rfl (fun K hK => ?_) (AllReadyH.nil)
      go_simp
      refine (C2.out _ RL.out).mono ?_
      rintro e w7 ⟨rfl, hb⟩
      have hbh := Lib.hid hb
      clear hb
      have B7 := bt B6 hbh
      have G6n := kt G6 hbh
      clear G6
      have G6 := G6n
      clear G6n
      have G8n := kt G8 hbh
      clear G8
      have G8 := G8n
      clear G8n
      have Rn := rt R hbh
      clear R
      have R := Rn
      clear Rn
      have RLn := r32u RL hbh
      clear RL
      have RL := RLn
      clear RLn
      clear B6
      clear hbh
      go_simp
      refine hK.out _ _ (⟨G6.out, G8.out⟩) (fun hS => ?_)
      clear hK K
      (try simp only [Act.put, List.setIfInBounds_toArray, List.set_cons_zero, List.set_cons_succ])
      refine wpAnyH_take (i := 11) (oi := ⟨some 75, _, _, _, _, _⟩) (v := .bool false) rfl (by kernel_rfl) (by kernel_rfl) (by kernel_rfl) (fun _ _ _ h => h) (Or.inl ⟨by rfl, fun w hSw => by (try dsimp only at hSw); go_simp⟩) hS ?_
      simp only [Act.put, List.setIfInBounds_toArray, List.set_cons_zero, List.set_cons_succ]
      refine wpAnyH_take (i := 12) (oi := ⟨some 76, _, _, _, _, _⟩) (v := .bool false) rfl (by kernel_rfl) (by kernel_rfl) (by kernel_rfl) (fun _ _ _ h => h) (Or.inl ⟨by rfl, fun w hSw => by (try dsimp only at hSw); go_simp⟩) hS ?_
      simp only [Act.put, List.setIfInBounds_toArray, List.set_cons_zero, List.set_cons_succ]
      refine wpAnyH_take (i := 13) (oi := ⟨some 77, _, _, _, _, _⟩) (v := .bool false) rfl (by kernel_rfl) (by kernel_rfl) (by kernel_rfl) (fun _ _ _ h => h) (Or.inl ⟨by rfl, fun w hSw => by (try dsimp only at hSw); go_simp⟩) hS ?_
      simp only [Act.put, List.setIfInBounds_toArray, List.set_cons_zero, List.set_cons_succ]
      refine wpAnyH_take (i := 14) (oi := ⟨some 78, _, _, _, _, _⟩) (v := .slice A 23 23) rfl (by kernel_rfl) (by kernel_rfl) (by kernel_rfl) (fun _ _ _ h => h) (Or.inl ⟨by rfl, fun w hSw => by (try dsimp only at hSw); go_simp⟩) hS ?_
      simp only [Act.put, List.setIfInBounds_toArray, List.set_cons_zero, List.set_cons_succ]
      refine wpAnyH_take (i := 15) (oi := ⟨some 79, _, _, _, _, _⟩) (v := oV 16 pb) rfl (by kernel_rfl) (by kernel_rfl) (by kernel_rfl) (fun _ _ _ h => h) (yieldsIf_load_mid (by rfl) 26 (.tmp 8) rfl (g8) 0 rfl (oc 16 pb) _ (fun W h => range25 h.2) Tryd.underlying26 rfl (by rw [oc_length, hpb]; exact info25)) hS ?_
      simp only [Act.put, List.setIfInBounds_toArray, List.set_cons_zero, List.set_cons_succ]
      refine wpAnyH_ready (rs := [16]) (by kernel_rfl) (by simp) ?_
      refine AllReadyH.cons (o := _) rfl (fun K hK => ?_) (AllReadyH.nil)
      go_simp
      refine (KR.out _ _ R).mono ?_
      rintro e w8 ⟨rfl, hbh⟩
      have B8 := bt B7 hbh
      have G6n := kt G6 hbh
      clear G6
      have G6 := G6n
      clear G6n
      have G8n := kt G8 hbh
      clear G8
      have G8 := G8n
      clear G8n
      have Rn := rt R hbh
      clear R
      have R := Rn
      clear Rn
      have RLn := r32u RL hbh
      clear RL
      have RL := RLn
      clear RLn
      clear B7
      clear hbh
      go_simp
      refine hK.out _ _ (⟨G6.out, G8.out⟩) (fun hS => ?_)
      clear hK K
      (try simp only [Act.put, List.setIfInBounds_toArray, List.set_cons_zero, List.set_cons_succ])
      refine wpAnyH_take (i := 17) (oi := ⟨some 81, _, _, _, _, _⟩) (v := .bool false) rfl (by kernel_rfl) (by kernel_rfl) (by kernel_rfl) (fun _ _ _ h => h) (Or.inl ⟨by rfl, fun w hSw => by (try dsimp only at hSw); go_simp⟩) hS ?_
      simp only [Act.put, List.setIfInBounds_toArray, List.set_cons_zero, List.set_cons_succ]
      refine wpAnyH_take (i := 18) (oi := ⟨some 82, _, _, _, _, _⟩) (v := .bool false) rfl (by kernel_rfl) (by kernel_rfl) (by kernel_rfl) (fun _ _ _ h => h) (Or.inl ⟨by rfl, fun w hSw => by (try dsimp only at hSw); go_simp⟩) hS ?_
      simp only [Act.put, List.setIfInBounds_toArray, List.set_cons_zero, List.set_cons_succ]
      refine wpAnyH_take (i := 19) (oi := ⟨some 83, _, _, _, _, _⟩) (v := .bool false) rfl (by kernel_rfl) (by kernel_rfl) (by kernel_rfl) (fun _ _ _ h => h) (Or.inl ⟨by rfl, fun w hSw => by (try dsimp only at hSw); go_simp⟩) hS ?_
      simp only [Act.put, List.setIfInBounds_toArray, List.set_cons_zero, List.set_cons_succ]
      refine wpAnyH_take (i := 20) (oi := ⟨some 84, _, _, _, _, _⟩) (v := .slice A 23 23) rfl (by kernel_rfl) (by kernel_rfl) (by kernel_rfl) (fun _ _ _ h => h) (Or.inl ⟨by rfl, fun w hSw => by (try dsimp only at hSw); go_simp⟩) hS ?_
      simp only [Act.put, List.setIfInBounds_toArray, List.set_cons_zero, List.set_cons_succ]
      refine wpAnyH_take (i := 23) (oi := ⟨some 87, _, _, _, _, _⟩) (v := oV 0 zl) rfl (by kernel_rfl) (by kernel_rfl) (by kernel_rfl) (fun _ _ _ h => h) (yieldsIf_load_mid (by rfl) 26 (.tmp 6) rfl (g6) 0 rfl (oc 0 zl) _ (fun W h => range25 h.1) Tryd.underlying26 rfl (by rw [oc_length, HZL.out]; exact info25)) hS ?_
      simp only [Act.put, List.setIfInBounds_toArray, List.set_cons_zero, List.set_cons_succ]
      obtain ⟨A2, d2, w9, hrun, hd1, hd2, hR2, hba⟩ := KF.out A w8 R.out
      rw [show ((1 : Nat) : Int) = 1 from rfl, show 23 + 1 = 24 from rfl] at hrun
      refine wpAnyH_ready (rs := [21]) (by kernel_rfl) (by simp) ?_
      refine AllReadyH.cons (o := _) rfl (fun K hK => ?_) (AllReadyH.nil)
      go_simp
      refine hK.out _ _ (⟨G6.out.alloc _, G8.out.alloc _⟩) (fun hS => ?_)
      clear hK K
      (try simp only [Act.put, List.setIfInBounds_toArray, List.set_cons_zero, List.set_cons_succ])
      refine wpAnyH_ready (rs := [22]) (by kernel_rfl) (by simp) ?_
      refine AllReadyH.cons (o := _) rfl (fun K hK => ?_) (AllReadyH.nil)
      first | rw [if_pos (by rfl)] | rw [if_pos (by kernel_rfl)]
      have hbh := Lib.hid hba
      have R2 := Lib.hid hR2
      clear hba hR2
      first | refine app_wp (.tmp 84) (.tmp 85) _ _ rfl _ _ rfl rfl hrun ?_ | refine .inl (app_wp (.tmp 84) (.tmp 85) _ _ rfl _ _ rfl rfl hrun ?_)
      have B9 := bt B8 hbh
      have G6n := kt G6 hbh
      clear G6
      have G6 := G6n
      clear G6n
      have G8n := kt G8 hbh
      clear G8
      have G8 := G8n
      clear G8n
      have Rn := rt R hbh
      clear R
      have R := Rn
      clear Rn
      have RLn := r32u RL hbh
      clear RL
      have RL := RLn
      clear RLn
      clear B8
      clear hbh hrun
      refine hK.out _ _ (⟨G6.out, G8.out⟩) (fun hS => ?_)
      clear hK K
      (try simp only [Act.put, List.setIfInBounds_toArray, List.set_cons_zero, List.set_cons_succ])
      refine wpAnyH_ready (rs := [24]) (by kernel_rfl) (by simp) ?_
      refine AllReadyH.cons (o := _) rfl (fun K hK => ?_) (AllReadyH.nil)
      go_simp
      refine (KA.out _ _ _ hd1 hd2 R2).mono ?_
      rintro e w10 ⟨rfl, hbh⟩
      have B10 := bt B9 hbh
      have G6n := kt G6 hbh
      clear G6
      have G6 := G6n
      clear G6n
      have G8n := kt G8 hbh
      clear G8
      have G8 := G8n
      clear G8n
      have R2n := rt R2 hbh
      clear R2
      have R2 := R2n
      clear R2n
      clear B9
      clear hbh
      go_simp
      refine hK.out _ _ (⟨G6.out, G8.out⟩) (fun hS => ?_)
      clear hK K
      (try simp only [Act.put, List.setIfInBounds_toArray, List.set_cons_zero, List.set_cons_succ])
      refine wpAnyH_take (i := 25) (oi := ⟨some 89, _, _, _, _, _⟩) (v := .bool false) rfl (by kernel_rfl) (by kernel_rfl) (by kernel_rfl) (fun _ _ _ h => h) (Or.inl ⟨by rfl, fun w hSw => by (try dsimp only at hSw); go_simp⟩) hS ?_
      simp only [Act.put, List.setIfInBounds_toArray, List.set_cons_zero, List.set_cons_succ]
      refine wpAnyH_take (i := 26) (oi := ⟨some 90, _, _, _, _, _⟩) (v := .bool false) rfl (by kernel_rfl) (by kernel_rfl) (by kernel_rfl) (fun _ _ _ h => h) (Or.inl ⟨by rfl, fun w hSw => by (try dsimp only at hSw); go_simp⟩) hS ?_
      simp only [Act.put, List.setIfInBounds_toArray, List.set_cons_zero, List.set_cons_succ]
      refine wpAnyH_take (i := 27) (oi := ⟨some 91, _, _, _, _, _⟩) (v := .bool false) rfl (by kernel_rfl) (by kernel_rfl) (by kernel_rfl) (fun _ _ _ h => h) (Or.inl ⟨by rfl, fun w hSw => by (try dsimp only at hSw); go_simp⟩) hS ?_
      simp only [Act.put, List.setIfInBounds_toArray, List.set_cons_zero, List.set_cons_succ]
      refine wpAnyH_take (i := 28) (oi := ⟨some 92, _, _, _, _, _⟩) (v := .string T) rfl (by kernel_rfl) (by kernel_rfl) (by kernel_rfl) (fun _ _ _ h => h) (Or.inl ⟨by rfl, fun w hSw => by (try dsimp only at hSw); go_simp⟩) hS ?_
      simp only [Act.put, List.setIfInBounds_toArray, List.set_cons_zero, List.set_cons_succ]
      refine wpAnyH_take (i := 29) (oi := ⟨some 93, _, _, _, _, _⟩) (v := oV 16 pb) rfl (by kernel_rfl) (by kernel_rfl) (by kernel_rfl) (fun _ _ _ h => h) (yieldsIf_load_mid (by rfl) 26 (.tmp 8) rfl (g8) 0 rfl (oc 16 pb) _ (fun W h => range25 h.2) Tryd.underlying26 rfl (by rw [oc_length, hpb]; exact info25)) hS ?_
      simp only [Act.put, List.setIfInBounds_toArray, List.set_cons_zero, List.set_cons_succ]
      refine wpAnyH_ready (rs := [30]) (by kernel_rfl) (by simp) ?_
      refine AllReadyH.cons (o := _) rfl (fun K hK => ?_) (AllReadyH.nil)
      go_simp
      refine (Q0.out _ (Lib.hid (E0.out.below B10.out))).mono ?_
      rintro e w11 ⟨rfl, hbh⟩
      have B11 := bt B10 hbh
      have G6n := kt G6 hbh
      clear G6
      have G6 := G6n
      clear G6n
      have G8n := kt G8 hbh
      clear G8
      have G8 := G8n
      clear G8n
      clear B10
      clear hbh
      go_simp
      refine hK.out _ _ (⟨G6.out, G8.out⟩) (fun hS => ?_)
      clear hK K
      (try simp only [Act.put, List.setIfInBounds_toArray, List.set_cons_zero, List.set_cons_succ])
      refine wpAnyH_take (i := 31) (oi := ⟨some 95, _, _, _, _, _⟩) (v := .bool false) rfl (by kernel_rfl) (by kernel_rfl) (by kernel_rfl) (fun _ _ _ h => h) (Or.inl ⟨by rfl, fun w hSw => by (try dsimp only at hSw); go_simp⟩) hS ?_
      simp only [Act.put, List.setIfInBounds_toArray, List.set_cons_zero, List.set_cons_succ]
      refine wpAnyH_take (i := 32) (oi := ⟨some 96, _, _, _, _, _⟩) (v := .bool false) rfl (by kernel_rfl) (by kernel_rfl) (by kernel_rfl) (fun _ _ _ h => h) (Or.inl ⟨by rfl, fun w hSw => by (try dsimp only at hSw); go_simp⟩) hS ?_
      simp only [Act.put, List.setIfInBounds_toArray, List.set_cons_zero, List.set_cons_succ]
      refine wpAnyH_take (i := 33) (oi := ⟨some 97, _, _, _, _, _⟩) (v := .bool false) rfl (by kernel_rfl) (by kernel_rfl) (by kernel_rfl) (fun _ _ _ h => h) (Or.inl ⟨by rfl, fun w hSw => by (try dsimp only at hSw); go_simp⟩) hS ?_
      simp only [Act.put, List.setIfInBounds_toArray, List.set_cons_zero, List.set_cons_succ]
      refine wpAnyH_take (i := 34) (oi := ⟨some 98, _, _, _, _, _⟩) (v := .string T) rfl (by kernel_rfl) (by kernel_rfl) (by kernel_rfl) (fun _ _ _ h => h) (Or.inl ⟨by rfl, fun w hSw => by (try dsimp only at hSw); go_simp⟩) hS ?_
      simp only [Act.put, List.setIfInBounds_toArray, List.set_cons_zero, List.set_cons_succ]
      refine wpAnyH_take (i := 35) (oi := ⟨some 99, _, _, _, _, _⟩) (v := .string (T ++ ⟨#[46, 49]⟩)) rfl (by kernel_rfl) (by kernel_rfl) (by kernel_rfl) (fun _ _ _ h => h) (Or.inl ⟨by rfl, fun w hSw => by (try dsimp only at hSw); go_simp⟩) hS ?_
      simp only [Act.put, List.setIfInBounds_toArray, List.set_cons_zero, List.set_cons_succ]
      refine wpAnyH_take (i := 36) (oi := ⟨some 100, _, _, _, _, _⟩) (v := oV 0 zl) rfl (by kernel_rfl) (by kernel_rfl) (by kernel_rfl) (fun _ _ _ h => h) (yieldsIf_load_mid (by rfl) 26 (.tmp 6) rfl (g6) 0 rfl (oc 0 zl) _ (fun W h => range25 h.1) Tryd.underlying26 rfl (by rw [oc_length, HZL.out]; exact info25)) hS ?_
      simp only [Act.put, List.setIfInBounds_toArray, List.set_cons_zero, List.set_cons_succ]
      refine wpAnyH_ready (rs := [37]) (by kernel_rfl) (by simp) ?_
      refine AllReadyH.cons (o := _) rfl (fun K hK => ?_) (AllReadyH.nil)
      go_simp
      refine (Q1.out _ (Lib.hid (E0.out.below B11.out))).mono ?_
      rintro e w12 ⟨rfl, hbh⟩
      have B12 := bt B11 hbh
      have G6n := kt G6 hbh
      clear G6
      have G6 := G6n
      clear G6n
      have G8n := kt G8 hbh
      clear G8
      have G8 := G8n
      clear G8n
      clear B11
      clear hbh
      go_simp
      refine hK.out _ _ (⟨G6.out, G8.out⟩) (fun hS => ?_)
      clear hK K
      (try simp only [Act.put, List.setIfInBounds_toArray, List.set_cons_zero, List.set_cons_succ])
      refine wpAnyH_take (i := 38) (oi := ⟨some 102, _, _, _, _, _⟩) (v := .bool false) rfl (by kernel_rfl) (by kernel_rfl) (by kernel_rfl) (fun _ _ _ h => h) (Or.inl ⟨by rfl, fun w hSw => by (try dsimp only at hSw); go_simp⟩) hS ?_
      simp only [Act.put, List.setIfInBounds_toArray, List.set_cons_zero, List.set_cons_succ]
      refine wpAnyH_take (i := 39) (oi := ⟨some 103, _, _, _, _, _⟩) (v := .bool false) rfl (by kernel_rfl) (by kernel_rfl) (by kernel_rfl) (fun _ _ _ h => h) (Or.inl ⟨by rfl, fun w hSw => by (try dsimp only at hSw); go_simp⟩) hS ?_
      simp only [Act.put, List.setIfInBounds_toArray, List.set_cons_zero, List.set_cons_succ]
      refine wpAnyH_take (i := 40) (oi := ⟨some 104, _, _, _, _, _⟩) (v := .bool false) rfl (by kernel_rfl) (by kernel_rfl) (by kernel_rfl) (fun _ _ _ h => h) (Or.inl ⟨by rfl, fun w hSw => by (try dsimp only at hSw); go_simp⟩) hS ?_
      simp only [Act.put, List.setIfInBounds_toArray, List.set_cons_zero, List.set_cons_succ]
      refine wpAnyH_take (i := 41) (oi := ⟨some 105, _, _, _, _, _⟩) (v := .string T) rfl (by kernel_rfl) (by kernel_rfl) (by kernel_rfl) (fun _ _ _ h => h) (Or.inl ⟨by rfl, fun w hSw => by (try dsimp only at hSw); go_simp⟩) hS ?_
      simp only [Act.put, List.setIfInBounds_toArray, List.set_cons_zero, List.set_cons_succ]
      refine wpAnyH_take (i := 42) (oi := ⟨some 106, _, _, _, _, _⟩) (v := .string (T ++ ⟨#[46, 120]⟩)) rfl (by kernel_rfl) (by kernel_rfl) (by kernel_rfl) (fun _ _ _ h => h) (Or.inl ⟨by rfl, fun w hSw => by (try dsimp only at hSw); go_simp⟩) hS ?_
      simp only [Act.put, List.setIfInBounds_toArray, List.set_cons_zero, List.set_cons_succ]
      refine wpAnyH_take (i := 43) (oi := ⟨some 107, _, _, _, _, _⟩) (v := oV 0 zl) rfl (by kernel_rfl) (by kernel_rfl) (by kernel_rfl) (fun _ _ _ h => h) (yieldsIf_load_mid (by rfl) 26 (.tmp 6) rfl (g6) 0 rfl (oc 0 zl) _ (fun W h => range25 h.1) Tryd.underlying26 rfl (by rw [oc_length, HZL.out]; exact info25)) hS ?_
      simp only [Act.put, List.setIfInBounds_toArray, List.set_cons_zero, List.set_cons_succ]
      refine wpAnyH_ready (rs := [44]) (by kernel_rfl) (by simp) ?_
      refine AllReadyH.cons (o := _) rfl (fun K hK => ?_) (AllReadyH.nil)
      go_simp
      refine (Qx.out _ (Lib.hid (E0.out.below B12.out))).mono ?_
      rintro e w13 ⟨rfl, hbh⟩
      have B13 := bt B12 hbh
      have G6n := kt G6 hbh
      clear G6
      have G6 := G6n
      clear G6n
      have G8n := kt G8 hbh
      clear G8
      have G8 := G8n
      clear G8n
      clear B12
      clear hbh
      go_simp
      refine hK.out _ _ (⟨G6.out, G8.out⟩) (fun hS => ?_)
      clear hK K
      (try simp only [Act.put, List.setIfInBounds_toArray, List.set_cons_zero, List.set_cons_succ])
      refine wpAnyH_take (i := 45) (oi := ⟨some 109, _, _, _, _, _⟩) (v := .bool false) rfl (by kernel_rfl) (by kernel_rfl) (by kernel_rfl) (fun _ _ _ h => h) (Or.inl ⟨by rfl, fun w hSw => by (try dsimp only at hSw); go_simp⟩) hS ?_
      simp only [Act.put, List.setIfInBounds_toArray, List.set_cons_zero, List.set_cons_succ]
      refine wpAnyH_take (i := 46) (oi := ⟨some 110, _, _, _, _, _⟩) (v := .bool false) rfl (by kernel_rfl) (by kernel_rfl) (by kernel_rfl) (fun _ _ _ h => h) (Or.inl ⟨by rfl, fun w hSw => by (try dsimp only at hSw); go_simp⟩) hS ?_
      simp only [Act.put, List.setIfInBounds_toArray, List.set_cons_zero, List.set_cons_succ]
      refine wpAnyH_done (by kernel_rfl) ?_ _
      have heq := fun W => eqO (n := 0) HZL.out W
      have hn1 := fun W => neq25 (n := 2) (m := 0) (l := pad [0, 39]) (k := zl) rfl HZL.out (by decide) W
      have hn2 := fun W => neq25 (n := 2) (m := 0) (l := pad [1, 39]) (k := zl) rfl HZL.out (by decide) W
      have hn3 := fun W => neq25 (n := 2) (m := 0) (l := pad [2, 40]) (k := zl) rfl HZL.out (by decide) W
      go_upto_region 16 with fail
      refine wp_region_held_drew (S := fun W => Bk W g6 26 (oc 0 zl)) (by kernel_rfl) (G6.out) (fun hS => ?_)
      have hdr : Hid (Below w13.heap.size w13 w13.drew) := Lib.hid ⟨rfl, rfl, rfl, Nat.le_refl _, fun _ _ => rfl⟩
      have B14 := bt B13 hdr
      have G6n := kt G6 hdr
      clear G6
      have G6 := G6n
      clear G6n
      clear B13
      clear hdr
      generalize w13.drew = w14 at *
      refine wpAnyH_take (i := 2) (oi := ⟨some 113, _, _, _, _, _⟩) (v := oV 0 zl) rfl (by kernel_rfl) (by kernel_rfl) (by kernel_rfl) (fun _ _ _ h => h) (yieldsIf_load_mid (by rfl) 26 (.tmp 6) rfl (g6) 0 rfl (oc 0 zl) _ (fun W h => range25 h) Tryd.underlying26 rfl (by rw [oc_length, HZL.out]; exact info25)) hS ?_
      simp only [Act.put, List.setIfInBounds_toArray, List.set_cons_zero, List.set_cons_succ]
      refine wpAnyH_ready (rs := [0]) (by kernel_rfl) (by simp) ?_
      refine AllReadyH.cons (o := _) rfl (fun K hK => ?_) (AllReadyH.nil)
      go_simp
      refine hK.out _ _ (hS.alloc _) (fun hS => ?_)
      clear hK K
      (try simp only [Act.put, List.setIfInBounds_toArray, List.set_cons_zero, List.set_cons_succ])
      refine wpAnyH_ready (rs := [1]) (by kernel_rfl) (by simp) ?_
      refine AllReadyH.cons (o := _) rfl (fun K hK => ?_) (AllReadyH.nil)
      go_simp
      refine (of_lit [2, 4294967216] 2 0 zl _ rfl (by decide) (by decide) (by decide +kernel) (by rw [← HZ.out]; decide +kernel)).mono ?_
      rintro e w15 ⟨rfl, hbh⟩
      have B15 := bt B14 hbh
      have G6n := kt G6 hbh
      clear G6
      have G6 := G6n
      clear G6n
      clear B14
      clear hbh
      go_simp
      refine hK.out _ _ (G6.out) (fun hS => ?_)
      clear hK K
      (try simp only [Act.put, List.setIfInBounds_toArray, List.set_cons_zero, List.set_cons_succ])
      refine wpAnyH_take (i := 3) (oi := ⟨some 114, _, _, _, _, _⟩) (v := .bool true) rfl (by kernel_rfl) (by kernel_rfl) (by kernel_rfl) (fun _ _ _ h => h) (Or.inl ⟨by rfl, fun w hSw => by (try dsimp only at hSw); go_simp⟩) hS ?_
      simp only [Act.put, List.setIfInBounds_toArray, List.set_cons_zero, List.set_cons_succ]
      refine wpAnyH_take (i := 4) (oi := ⟨some 115, _, _, _, _, _⟩) (v := .bool true) rfl (by kernel_rfl) (by kernel_rfl) (by kernel_rfl) (fun _ _ _ h => h) (Or.inl ⟨by rfl, fun w hSw => by (try dsimp only at hSw); go_simp⟩) hS ?_
      simp only [Act.put, List.setIfInBounds_toArray, List.set_cons_zero, List.set_cons_succ]
      refine wpAnyH_take (i := 7) (oi := ⟨some 118, _, _, _, _, _⟩) (v := oV 0 zl) rfl (by kernel_rfl) (by kernel_rfl) (by kernel_rfl) (fun _ _ _ h => h) (yieldsIf_load_mid (by rfl) 26 (.tmp 6) rfl (g6) 0 rfl (oc 0 zl) _ (fun W h => range25 h) Tryd.underlying26 rfl (by rw [oc_length, HZL.out]; exact info25)) hS ?_
      simp only [Act.put, List.setIfInBounds_toArray, List.set_cons_zero, List.set_cons_succ]
      refine wpAnyH_ready (rs := [5]) (by kernel_rfl) (by simp) ?_
      refine AllReadyH.cons (o := _) rfl (fun K hK => ?_) (AllReadyH.nil)
      go_simp
      refine hK.out _ _ (hS.alloc _) (fun hS => ?_)
      clear hK K
      (try simp only [Act.put, List.setIfInBounds_toArray, List.set_cons_zero, List.set_cons_succ])
      refine wpAnyH_ready (rs := [6]) (by kernel_rfl) (by simp) ?_
      refine AllReadyH.cons (o := _) rfl (fun K hK => ?_) (AllReadyH.nil)
      go_simp
      refine (of_lit [0, 39] 2 2 (pad [0, 39]) _ rfl (by decide) (by decide) (by decide +kernel) (by decide +kernel)).mono ?_
      rintro e w16 ⟨rfl, hbh⟩
      have B16 := bt B15 hbh
      have G6n := kt G6 hbh
      clear G6
      have G6 := G6n
      clear G6n
      clear B15
      clear hbh
      go_simp
      refine hK.out _ _ (G6.out) (fun hS => ?_)
      clear hK K
      (try simp only [Act.put, List.setIfInBounds_toArray, List.set_cons_zero, List.set_cons_succ])
      refine wpAnyH_take (i := 8) (oi := ⟨some 119, _, _, _, _, _⟩) (v := .bool true) rfl (by kernel_rfl) (by kernel_rfl) (by kernel_rfl) (fun _ _ _ h => h) (Or.inl ⟨by rfl, fun w hSw => by (try dsimp only at hSw); go_simp⟩) hS ?_
      simp only [Act.put, List.setIfInBounds_toArray, List.set_cons_zero, List.set_cons_succ]
      refine wpAnyH_take (i := 9) (oi := ⟨some 120, _, _, _, _, _⟩) (v := .bool true) rfl (by kernel_rfl) (by kernel_rfl) (by kernel_rfl) (fun _ _ _ h => h) (Or.inl ⟨by rfl, fun w hSw => by (try dsimp only at hSw); go_simp⟩) hS ?_
      simp only [Act.put, List.setIfInBounds_toArray, List.set_cons_zero, List.set_cons_succ]
      refine wpAnyH_take (i := 10) (oi := ⟨some 121, _, _, _, _, _⟩) (v := .bool true) rfl (by kernel_rfl) (by kernel_rfl) (by kernel_rfl) (fun _ _ _ h => h) (Or.inl ⟨by rfl, fun w hSw => by (try dsimp only at hSw); go_simp⟩) hS ?_
      simp only [Act.put, List.setIfInBounds_toArray, List.set_cons_zero, List.set_cons_succ]
      refine wpAnyH_take (i := 13) (oi := ⟨some 124, _, _, _, _, _⟩) (v := oV 0 zl) rfl (by kernel_rfl) (by kernel_rfl) (by kernel_rfl) (fun _ _ _ h => h) (yieldsIf_load_mid (by rfl) 26 (.tmp 6) rfl (g6) 0 rfl (oc 0 zl) _ (fun W h => range25 h) Tryd.underlying26 rfl (by rw [oc_length, HZL.out]; exact info25)) hS ?_
      simp only [Act.put, List.setIfInBounds_toArray, List.set_cons_zero, List.set_cons_succ]
      refine wpAnyH_ready (rs := [11]) (by kernel_rfl) (by simp) ?_
      refine AllReadyH.cons (o := _) rfl (fun K hK => ?_) (AllReadyH.nil)
      go_simp
      refine hK.out _ _ (hS.alloc _) (fun hS => ?_)
      clear hK K
      (try simp only [Act.put, List.setIfInBounds_toArray, List.set_cons_zero, List.set_cons_succ])
      refine wpAnyH_ready (rs := [12]) (by kernel_rfl) (by simp) ?_
      refine AllReadyH.cons (o := _) rfl (fun K hK => ?_) (AllReadyH.nil)
      go_simp
      refine (of_lit [1, 39] 2 2 (pad [1, 39]) _ rfl (by decide) (by decide) (by decide +kernel) (by decide +kernel)).mono ?_
      rintro e w17 ⟨rfl, hbh⟩
      have B17 := bt B16 hbh
      have G6n := kt G6 hbh
      clear G6
      have G6 := G6n
      clear G6n
      clear B16
      clear hbh
      go_simp
      refine hK.out _ _ (G6.out) (fun hS => ?_)
      clear hK K
      (try simp only [Act.put, List.setIfInBounds_toArray, List.set_cons_zero, List.set_cons_succ])
      refine wpAnyH_take (i := 14) (oi := ⟨some 125, _, _, _, _, _⟩) (v := .bool true) rfl (by kernel_rfl) (by kernel_rfl) (by kernel_rfl) (fun _ _ _ h => h) (Or.inl ⟨by rfl, fun w hSw => by (try dsimp only at hSw); go_simp⟩) hS ?_
      simp only [Act.put, List.setIfInBounds_toArray, List.set_cons_zero, List.set_cons_succ]
      refine wpAnyH_take (i := 15) (oi := ⟨some 126, _, _, _, _, _⟩) (v := .bool true) rfl (by kernel_rfl) (by kernel_rfl) (by kernel_rfl) (fun _ _ _ h => h) (Or.inl ⟨by rfl, fun w hSw => by (try dsimp only at hSw); go_simp⟩) hS ?_
      simp only [Act.put, List.setIfInBounds_toArray, List.set_cons_zero, List.set_cons_succ]
      refine wpAnyH_take (i := 16) (oi := ⟨some 127, _, _, _, _, _⟩) (v := .bool true) rfl (by kernel_rfl) (by kernel_rfl) (by kernel_rfl) (fun _ _ _ h => h) (Or.inl ⟨by rfl, fun w hSw => by (try dsimp only at hSw); go_simp⟩) hS ?_
      simp only [Act.put, List.setIfInBounds_toArray, List.set_cons_zero, List.set_cons_succ]
      refine wpAnyH_take (i := 19) (oi := ⟨some 130, _, _, _, _, _⟩) (v := oV 0 zl) rfl (by kernel_rfl) (by kernel_rfl) (by kernel_rfl) (fun _ _ _ h => h) (yieldsIf_load_mid (by rfl) 26 (.tmp 6) rfl (g6) 0 rfl (oc 0 zl) _ (fun W h => range25 h) Tryd.underlying26 rfl (by rw [oc_length, HZL.out]; exact info25)) hS ?_
      simp only [Act.put, List.setIfInBounds_toArray, List.set_cons_zero, List.set_cons_succ]
      refine wpAnyH_ready (rs := [17]) (by kernel_rfl) (by simp) ?_
      refine AllReadyH.cons (o := _) rfl (fun K hK => ?_) (AllReadyH.nil)
      go_simp
      refine hK.out _ _ (hS.alloc _) (fun hS => ?_)
      clear hK K
      (try simp only [Act.put, List.setIfInBounds_toArray, List.set_cons_zero, List.set_cons_succ])
      refine wpAnyH_ready (rs := [18]) (by kernel_rfl) (by simp) ?_
      refine AllReadyH.cons (o := _) rfl (fun K hK => ?_) (AllReadyH.nil)
      go_simp
      refine (of_lit [2, 40] 2 2 (pad [2, 40]) _ rfl (by decide) (by decide) (by decide +kernel) (by decide +kernel)).mono ?_
      rintro e w18 ⟨rfl, hbh⟩
      have B18 := bt B17 hbh
      have G6n := kt G6 hbh
      clear G6
      have G6 := G6n
      clear G6n
      clear B17
      clear hbh
      go_simp
      refine hK.out _ _ (G6.out) (fun hS => ?_)
      clear hK K
      (try simp only [Act.put, List.setIfInBounds_toArray, List.set_cons_zero, List.set_cons_succ])
      refine wpAnyH_take (i := 20) (oi := ⟨some 131, _, _, _, _, _⟩) (v := .bool true) rfl (by kernel_rfl) (by kernel_rfl) (by kernel_rfl) (fun _ _ _ h => h) (Or.inl ⟨by rfl, fun w hSw => by (try dsimp only at hSw); go_simp⟩) hS ?_
      simp only [Act.put, List.setIfInBounds_toArray, List.set_cons_zero, List.set_cons_succ]
      refine wpAnyH_take (i := 21) (oi := ⟨some 132, _, _, _, _, _⟩) (v := .bool true) rfl (by kernel_rfl) (by kernel_rfl) (by kernel_rfl) (fun _ _ _ h => h) (Or.inl ⟨by rfl, fun w hSw => by (try dsimp only at hSw); go_simp⟩) hS ?_
      simp only [Act.put, List.setIfInBounds_toArray, List.set_cons_zero, List.set_cons_succ]
      refine wpAnyH_take (i := 22) (oi := ⟨some 133, _, _, _, _, _⟩) (v := .bool true) rfl (by kernel_rfl) (by kernel_rfl) (by kernel_rfl) (fun _ _ _ h => h) (Or.inl ⟨by rfl, fun w hSw => by (try dsimp only at hSw); go_simp⟩) hS ?_
      simp only [Act.put, List.setIfInBounds_toArray, List.set_cons_zero, List.set_cons_succ]
      refine wpAnyH_take (i := 25) (oi := ⟨some 136, _, _, _, _, _⟩) (v := oV 0 zl) rfl (by kernel_rfl) (by kernel_rfl) (by kernel_rfl) (fun _ _ _ h => h) (yieldsIf_load_mid (by rfl) 26 (.tmp 6) rfl (g6) 0 rfl (oc 0 zl) _ (fun W h => range25 h) Tryd.underlying26 rfl (by rw [oc_length, HZL.out]; exact info25)) hS ?_
      simp only [Act.put, List.setIfInBounds_toArray, List.set_cons_zero, List.set_cons_succ]
      refine wpAnyH_ready (rs := [23]) (by kernel_rfl) (by simp) ?_
      refine AllReadyH.cons (o := _) rfl (fun K hK => ?_) (AllReadyH.nil)
      go_simp
      refine hK.out _ _ (hS.alloc _) (fun hS => ?_)
      clear hK K
      (try simp only [Act.put, List.setIfInBounds_toArray, List.set_cons_zero, List.set_cons_succ])
      refine wpAnyH_ready (rs := [24]) (by kernel_rfl) (by simp) ?_
      refine AllReadyH.cons (o := _) rfl (fun K hK => ?_) (AllReadyH.nil)
      go_simp
      refine (of_lit [3, 0] 2 0 zl _ rfl (by decide) (by decide) (by decide +kernel) (by rw [← HZ.out]; decide +kernel)).mono ?_
      rintro e w19 ⟨rfl, hbh⟩
      have B19 := bt B18 hbh
      have G6n := kt G6 hbh
      clear G6
      have G6 := G6n
      clear G6n
      clear B18
      clear hbh
      go_simp
      refine hK.out _ _ (G6.out) (fun hS => ?_)
      clear hK K
      (try simp only [Act.put, List.setIfInBounds_toArray, List.set_cons_zero, List.set_cons_succ])
      refine wpAnyH_take (i := 26) (oi := ⟨some 137, _, _, _, _, _⟩) (v := .bool true) rfl (by kernel_rfl) (by kernel_rfl) (by kernel_rfl) (fun _ _ _ h => h) (Or.inl ⟨by rfl, fun w hSw => by (try dsimp only at hSw); go_simp⟩) hS ?_
      simp only [Act.put, List.setIfInBounds_toArray, List.set_cons_zero, List.set_cons_succ]
      refine wpAnyH_take (i := 27) (oi := ⟨some 138, _, _, _, _, _⟩) (v := .bool true) rfl (by kernel_rfl) (by kernel_rfl) (by kernel_rfl) (fun _ _ _ h => h) (Or.inl ⟨by rfl, fun w hSw => by (try dsimp only at hSw); go_simp⟩) hS ?_
      simp only [Act.put, List.setIfInBounds_toArray, List.set_cons_zero, List.set_cons_succ]
      refine wpAnyH_take (i := 28) (oi := ⟨some 139, _, _, _, _, _⟩) (v := .bool true) rfl (by kernel_rfl) (by kernel_rfl) (by kernel_rfl) (fun _ _ _ h => h) (Or.inl ⟨by rfl, fun w hSw => by (try dsimp only at hSw); go_simp⟩) hS ?_
      simp only [Act.put, List.setIfInBounds_toArray, List.set_cons_zero, List.set_cons_succ]
      refine wpAnyH_take (i := 31) (oi := ⟨some 142, _, _, _, _, _⟩) (v := oV 0 zl) rfl (by kernel_rfl) (by kernel_rfl) (by kernel_rfl) (fun _ _ _ h => h) (yieldsIf_load_mid (by rfl) 26 (.tmp 6) rfl (g6) 0 rfl (oc 0 zl) _ (fun W h => range25 h) Tryd.underlying26 rfl (by rw [oc_length, HZL.out]; exact info25)) hS ?_
      simp only [Act.put, List.setIfInBounds_toArray, List.set_cons_zero, List.set_cons_succ]
      refine wpAnyH_ready (rs := [29]) (by kernel_rfl) (by simp) ?_
      refine AllReadyH.cons (o := _) rfl (fun K hK => ?_) (AllReadyH.nil)
      go_simp
      refine hK.out _ _ (hS.alloc _) (fun hS => ?_)
      clear hK K
      (try simp only [Act.put, List.setIfInBounds_toArray, List.set_cons_zero, List.set_cons_succ])
      refine wpAnyH_ready (rs := [30]) (by kernel_rfl) (by simp) ?_
      refine AllReadyH.cons (o := _) rfl (fun K hK => ?_) (AllReadyH.nil)
      go_simp
      refine (of_lit [1] 1 0 zl _ rfl (by decide) (by decide) (by decide +kernel) (by rw [← HZ.out]; decide +kernel)).mono ?_
      rintro e w20 ⟨rfl, hbh⟩
      have B20 := bt B19 hbh
      have G6n := kt G6 hbh
      clear G6
      have G6 := G6n
      clear G6n
      clear B19
      clear hbh
      go_simp
      refine hK.out _ _ (G6.out) (fun hS => ?_)
      clear hK K
      (try simp only [Act.put, List.setIfInBounds_toArray, List.set_cons_zero, List.set_cons_succ])
      refine wpAnyH_take (i := 32) (oi := ⟨some 143, _, _, _, _, _⟩) (v := .bool true) rfl (by kernel_rfl) (by kernel_rfl) (by kernel_rfl) (fun _ _ _ h => h) (Or.inl ⟨by rfl, fun w hSw => by (try dsimp only at hSw); go_simp⟩) hS ?_
      simp only [Act.put, List.setIfInBounds_toArray, List.set_cons_zero, List.set_cons_succ]
      refine wpAnyH_take (i := 33) (oi := ⟨some 144, _, _, _, _, _⟩) (v := .bool true) rfl (by kernel_rfl) (by kernel_rfl) (by kernel_rfl) (fun _ _ _ h => h) (Or.inl ⟨by rfl, fun w hSw => by (try dsimp only at hSw); go_simp⟩) hS ?_
      simp only [Act.put, List.setIfInBounds_toArray, List.set_cons_zero, List.set_cons_succ]
      refine wpAnyH_take (i := 34) (oi := ⟨some 145, _, _, _, _, _⟩) (v := .bool true) rfl (by kernel_rfl) (by kernel_rfl) (by kernel_rfl) (fun _ _ _ h => h) (Or.inl ⟨by rfl, fun w hSw => by (try dsimp only at hSw); go_simp⟩) hS ?_
      simp only [Act.put, List.setIfInBounds_toArray, List.set_cons_zero, List.set_cons_succ]
      refine wpAnyH_take (i := 36) (oi := ⟨some 147, _, _, _, _, _⟩) (v := oV 0 zl) rfl (by kernel_rfl) (by kernel_rfl) (by kernel_rfl) (fun _ _ _ h => h) (yieldsIf_load_mid (by rfl) 26 (.tmp 6) rfl (g6) 0 rfl (oc 0 zl) _ (fun W h => range25 h) Tryd.underlying26 rfl (by rw [oc_length, HZL.out]; exact info25)) hS ?_
      simp only [Act.put, List.setIfInBounds_toArray, List.set_cons_zero, List.set_cons_succ]
      refine wpAnyH_ready (rs := [35]) (by kernel_rfl) (by simp) ?_
      refine AllReadyH.cons (o := _) rfl (fun K hK => ?_) (AllReadyH.nil)
      go_simp
      refine ((of_reg none [] 0 0 zl _ rfl (by decide) (by decide) Rd.nil rfl (by rw [← HZ.out]; decide +kernel))).mono ?_
      rintro e w21 ⟨rfl, hbh⟩
      have B21 := bt B20 hbh
      have G6n := kt G6 hbh
      clear G6
      have G6 := G6n
      clear G6n
      clear B20
      clear hbh
      go_simp
      refine hK.out _ _ (G6.out) (fun hS => ?_)
      clear hK K
      (try simp only [Act.put, List.setIfInBounds_toArray, List.set_cons_zero, List.set_cons_succ])
      refine wpAnyH_take (i := 37) (oi := ⟨some 148, _, _, _, _, _⟩) (v := .bool true) rfl (by kernel_rfl) (by kernel_rfl) (by kernel_rfl) (fun _ _ _ h => h) (Or.inl ⟨by rfl, fun w hSw => by (try dsimp only at hSw); go_simp⟩) hS ?_
      simp only [Act.put, List.setIfInBounds_toArray, List.set_cons_zero, List.set_cons_succ]
      refine wpAnyH_take (i := 38) (oi := ⟨some 149, _, _, _, _, _⟩) (v := .bool true) rfl (by kernel_rfl) (by kernel_rfl) (by kernel_rfl) (fun _ _ _ h => h) (Or.inl ⟨by rfl, fun w hSw => by (try dsimp only at hSw); go_simp⟩) hS ?_
      simp only [Act.put, List.setIfInBounds_toArray, List.set_cons_zero, List.set_cons_succ]
      refine wpAnyH_take (i := 39) (oi := ⟨some 150, _, _, _, _, _⟩) (v := .bool true) rfl (by kernel_rfl) (by kernel_rfl) (by kernel_rfl) (fun _ _ _ h => h) (Or.inl ⟨by rfl, fun w hSw => by (try dsimp only at hSw); go_simp⟩) hS ?_
      simp only [Act.put, List.setIfInBounds_toArray, List.set_cons_zero, List.set_cons_succ]
      apply later (F := fun (v1 v2 : Value) (W : World) => Hid (∃ A, v1 = .slice A 1 1 ∧ Rb W A [39]) ∧ Hid (Below w.heap.size w W) ∧ Hid (Bk W g6 26 (oc 0 zl)))
      · intro rest
        refine wpAnyH_ready (rs := [40, 41]) (by kernel_rfl) (by simp) ?_
        refine AllReadyH.cons (o := _) rfl (fun K hK => ?_) (AllReadyH.cons (o := _) rfl (fun K hK => ?_) (AllReadyH.nil))
        · go_simp
          refine hK.out _ _ (G6.out.alloc _) (fun hS => ?_)
          clear hK K
          (try simp only [Act.put, List.setIfInBounds_toArray, List.set_cons_zero, List.set_cons_succ])
          refine wpAnyH_ready (rs := [41]) (by kernel_rfl) (by simp) ?_
          refine AllReadyH.cons (o := _) rfl (fun K hK => ?_) (AllReadyH.nil)
          go_simp
          refine hK.out _ _ ((G6.out.alloc _).alloc _) (fun hS => ?_)
          clear hK K
          (try simp only [Act.put, List.setIfInBounds_toArray, List.set_cons_zero, List.set_cons_succ])
          refine wpAnyH_ready (rs := [42]) (by kernel_rfl) (by simp) ?_
          refine AllReadyH.cons (o := _) rfl (fun K hK => ?_) (AllReadyH.nil)
          go_simp
          refine (of_lit2 [39] [0, 39] 2 2 (pad [0, 39]) _ (all_lit (by decide)) rfl (by decide) (by decide) (by decide +kernel) (by decide +kernel)).mono ?_
          rintro e W2 ⟨rfl, RR, hb⟩
          have hG := kt G6 hb
          have hB := bt B21 hb
          refine hK.out _ _ (hG.out) (fun hS => ?_)
          clear hK K
          (try simp only [Act.put, List.setIfInBounds_toArray, List.set_cons_zero, List.set_cons_succ])
          have F1 : Hid (∃ A, Value.slice (some ⟨w21.heap.size, 0, none⟩) 1 1 = .slice A 1 1 ∧ Rb W2 A [39]) := Lib.hid ⟨_, rfl, RR.out⟩
          generalize Value.slice (some ⟨w21.heap.size, 0, none⟩) 1 1 = v1 at F1 ⊢
          generalize Value.slice (some ⟨w21.heap.size + 1, 0, none⟩) 2 2 = v2 at F1 ⊢
          exact rest v1 v2 W2 ⟨F1, hB, hG⟩
        · go_simp
          refine hK.out _ _ (G6.out.alloc _) (fun hS => ?_)
          clear hK K
          (try simp only [Act.put, List.setIfInBounds_toArray, List.set_cons_zero, List.set_cons_succ])
          refine wpAnyH_ready (rs := [40, 42]) (by kernel_rfl) (by simp) ?_
          refine AllReadyH.cons (o := _) rfl (fun K hK => ?_) (AllReadyH.cons (o := _) rfl (fun K hK => ?_) (AllReadyH.nil))
          · go_simp
            refine hK.out _ _ ((G6.out.alloc _).alloc _) (fun hS => ?_)
            clear hK K
            (try simp only [Act.put, List.setIfInBounds_toArray, List.set_cons_zero, List.set_cons_succ])
            refine wpAnyH_ready (rs := [42]) (by kernel_rfl) (by simp) ?_
            refine AllReadyH.cons (o := _) rfl (fun K hK => ?_) (AllReadyH.nil)
            go_simp
            refine (of_reg (some ⟨w21.heap.size, 0, none⟩) [0, 39] 2 2 (pad [0, 39]) ((w21.alloc (.cells (cs32 [0, 39]).toArray 23)).alloc (.cells (cs8 [39]).toArray 5)) rfl (by decide) (by decide) ((r32_lit w21 [0, 39]).below (bel1 _ _)) (by decide +kernel) (by decide +kernel)).mono ?_
            rintro e W2 ⟨rfl, hb0⟩
            have RR : Rb W2 (some ⟨w21.heap.size + 1, 0, none⟩) [39] := by
              have h := (lit_rb (w21.alloc (.cells (cs32 [0, 39]).toArray 23)) [39] (all_lit (by decide))).below hb0.out
              rwa [World.size_alloc] at h
            have hb : Hid (Below w21.heap.size w21 W2) := Lib.hid (((bel1 w21 (.cells (cs32 [0, 39]).toArray 23)).trans ((bel1 _ (.cells (cs8 [39]).toArray 5)).mono (by simp))).trans (hb0.out.mono (by simp; omega)))
            have hG := kt G6 hb
            have hB := bt B21 hb
            refine hK.out _ _ (hG.out) (fun hS => ?_)
            clear hK K
            (try simp only [Act.put, List.setIfInBounds_toArray, List.set_cons_zero, List.set_cons_succ])
            exact sw1 (by decide) (rest _ _ W2 ⟨Lib.hid ⟨_, rfl, RR⟩, hB, hG⟩)
          · go_simp
            refine (of_lit [0, 39] 2 2 (pad [0, 39]) _ rfl (by decide) (by decide) (by decide +kernel) (by decide +kernel)).mono ?_
            rintro e W1 ⟨rfl, hb⟩
            have hG1 := kt G6 hb
            have hB1 := bt B21 hb
            refine hK.out _ _ (hG1.out) (fun hS => ?_)
            clear hK K
            (try simp only [Act.put, List.setIfInBounds_toArray, List.set_cons_zero, List.set_cons_succ])
            refine wpAnyH_ready (rs := [40]) (by kernel_rfl) (by simp) ?_
            refine AllReadyH.cons (o := _) rfl (fun K hK => ?_) (AllReadyH.nil)
            go_simp
            refine hK.out _ _ (hG1.out.alloc _) (fun hS => ?_)
            clear hK K
            (try simp only [Act.put, List.setIfInBounds_toArray, List.set_cons_zero, List.set_cons_succ])
            exact sw2 (by decide) (by decide) (rest _ _ _ ⟨Lib.hid ⟨_, rfl, lit_rb W1 [39] (all_lit (by decide))⟩, bt hB1 (Lib.hid (bel1 W1 (.cells (cs8 [39]).toArray 5))), kt hG1 (Lib.hid (bel1 W1 (.cells (cs8 [39]).toArray 5)))⟩)
      clear B21 G6
      rintro v1 v2 w22 ⟨HA, B22, G6⟩
      obtain ⟨A9, rfl, RR0⟩ := HA.out
      have RR := Lib.hid RR0
      clear RR0 HA
      have hS := G6.out
      refine wpAnyH_ready (rs := [43]) (by kernel_rfl) (by simp) ?_
      refine AllReadyH.cons (o := _) rfl (fun K hK => ?_) (AllReadyH.nil)
      go_simp
      refine (read_reg _ [39] 1 1 2 (pad [0, 39]) 0 _ rfl (Nat.le_refl _) (by unfold maxLen; omega) RR rfl (by decide +kernel)).mono ?_
      rintro e w23 ⟨rfl, hbh⟩
      have B23 := bt B22 hbh
      have G6n := kt G6 hbh
      clear G6
      have G6 := G6n
      clear G6n
      clear B22
      clear hbh
      go_simp
      refine hK.out _ _ (G6.out) (fun hS => ?_)
      clear hK K
      (try simp only [Act.put, List.setIfInBounds_toArray, List.set_cons_zero, List.set_cons_succ])
      clear RR
      refine wpAnyH_take (i := 44) (oi := ⟨some 155, _, _, _, _, _⟩) (v := .bool true) rfl (by kernel_rfl) (by kernel_rfl) (by kernel_rfl) (fun _ _ _ h => h) (Or.inl ⟨by rfl, fun w hSw => by (try dsimp only at hSw); go_simp⟩) hS ?_
      simp only [Act.put, List.setIfInBounds_toArray, List.set_cons_zero, List.set_cons_succ]
      refine wpAnyH_take (i := 45) (oi := ⟨some 156, _, _, _, _, _⟩) (v := .bool true) rfl (by kernel_rfl) (by kernel_rfl) (by kernel_rfl) (fun _ _ _ h => h) (Or.inl ⟨by rfl, fun w hSw => by (try dsimp only at hSw); go_simp⟩) hS ?_
      simp only [Act.put, List.setIfInBounds_toArray, List.set_cons_zero, List.set_cons_succ]
      apply later (F := fun (v1 v2 : Value) (W : World) => Hid (∃ A, v1 = .slice A 1 1 ∧ Rb W A [79]) ∧ Hid (Below w.heap.size w W) ∧ Hid (Bk W g6 26 (oc 0 zl)))
      · intro rest
        refine wpAnyH_ready (rs := [46, 47]) (by kernel_rfl) (by simp) ?_
        refine AllReadyH.cons (o := _) rfl (fun K hK => ?_) (AllReadyH.cons (o := _) rfl (fun K hK => ?_) (AllReadyH.nil))
        · go_simp
          refine hK.out _ _ (G6.out.alloc _) (fun hS => ?_)
          clear hK K
          (try simp only [Act.put, List.setIfInBounds_toArray, List.set_cons_zero, List.set_cons_succ])
          refine wpAnyH_ready (rs := [47]) (by kernel_rfl) (by simp) ?_
          refine AllReadyH.cons (o := _) rfl (fun K hK => ?_) (AllReadyH.nil)
          go_simp
          refine hK.out _ _ ((G6.out.alloc _).alloc _) (fun hS => ?_)
          clear hK K
          (try simp only [Act.put, List.setIfInBounds_toArray, List.set_cons_zero, List.set_cons_succ])
          refine wpAnyH_ready (rs := [48]) (by kernel_rfl) (by simp) ?_
          refine AllReadyH.cons (o := _) rfl (fun K hK => ?_) (AllReadyH.nil)
          go_simp
          refine (of_lit2 [79] [1, 39] 2 2 (pad [1, 39]) _ (all_lit (by decide)) rfl (by decide) (by decide) (by decide +kernel) (by decide +kernel)).mono ?_
          rintro e W2 ⟨rfl, RR, hb⟩
          have hG := kt G6 hb
          have hB := bt B23 hb
          refine hK.out _ _ (hG.out) (fun hS => ?_)
          clear hK K
          (try simp only [Act.put, List.setIfInBounds_toArray, List.set_cons_zero, List.set_cons_succ])
          have F1 : Hid (∃ A, Value.slice (some ⟨w23.heap.size, 0, none⟩) 1 1 = .slice A 1 1 ∧ Rb W2 A [79]) := Lib.hid ⟨_, rfl, RR.out⟩
          generalize Value.slice (some ⟨w23.heap.size, 0, none⟩) 1 1 = v1 at F1 ⊢
          generalize Value.slice (some ⟨w23.heap.size + 1, 0, none⟩) 2 2 = v2 at F1 ⊢
          exact rest v1 v2 W2 ⟨F1, hB, hG⟩
        · go_simp
          refine hK.out _ _ (G6.out.alloc _) (fun hS => ?_)
          clear hK K
          (try simp only [Act.put, List.setIfInBounds_toArray, List.set_cons_zero, List.set_cons_succ])
          refine wpAnyH_ready (rs := [46, 48]) (by kernel_rfl) (by simp) ?_
          refine AllReadyH.cons (o := _) rfl (fun K hK => ?_) (AllReadyH.cons (o := _) rfl (fun K hK => ?_) (AllReadyH.nil))
          · go_simp
            refine hK.out _ _ ((G6.out.alloc _).alloc _) (fun hS => ?_)
            clear hK K
            (try simp only [Act.put, List.setIfInBounds_toArray, List.set_cons_zero, List.set_cons_succ])
            refine wpAnyH_ready (rs := [48]) (by kernel_rfl) (by simp) ?_
            refine AllReadyH.cons (o := _) rfl (fun K hK => ?_) (AllReadyH.nil)
            go_simp
            refine (of_reg (some ⟨w23.heap.size, 0, none⟩) [1, 39] 2 2 (pad [1, 39]) ((w23.alloc (.cells (cs32 [1, 39]).toArray 23)).alloc (.cells (cs8 [79]).toArray 5)) rfl (by decide) (by decide) ((r32_lit w23 [1, 39]).below (bel1 _ _)) (by decide +kernel) (by decide +kernel)).mono ?_
            rintro e W2 ⟨rfl, hb0⟩
            have RR : Rb W2 (some ⟨w23.heap.size + 1, 0, none⟩) [79] := by
              have h := (lit_rb (w23.alloc (.cells (cs32 [1, 39]).toArray 23)) [79] (all_lit (by decide))).below hb0.out
              rwa [World.size_alloc] at h
            have hb : Hid (Below w23.heap.size w23 W2) := Lib.hid (((bel1 w23 (.cells (cs32 [1, 39]).toArray 23)).trans ((bel1 _ (.cells (cs8 [79]).toArray 5)).mono (by simp))).trans (hb0.out.mono (by simp; omega)))
            have hG := kt G6 hb
            have hB := bt B23 hb
            refine hK.out _ _ (hG.out) (fun hS => ?_)
            clear hK K
            (try simp only [Act.put, List.setIfInBounds_toArray, List.set_cons_zero, List.set_cons_succ])
            exact sw1 (by decide) (rest _ _ W2 ⟨Lib.hid ⟨_, rfl, RR⟩, hB, hG⟩)
          · go_simp
            refine (of_lit [1, 39] 2 2 (pad [1, 39]) _ rfl (by decide) (by decide) (by decide +kernel) (by decide +kernel)).mono ?_
            rintro e W1 ⟨rfl, hb⟩
            have hG1 := kt G6 hb
            have hB1 := bt B23 hb
            refine hK.out _ _ (hG1.out) (fun hS => ?_)
            clear hK K
            (try simp only [Act.put, List.setIfInBounds_toArray, List.set_cons_zero, List.set_cons_succ])
            refine wpAnyH_ready (rs := [46]) (by kernel_rfl) (by simp) ?_
            refine AllReadyH.cons (o := _) rfl (fun K hK => ?_) (AllReadyH.nil)
            go_simp
            refine hK.out _ _ (hG1.out.alloc _) (fun hS => ?_)
            clear hK K
            (try simp only [Act.put, List.setIfInBounds_toArray, List.set_cons_zero, List.set_cons_succ])
            exact sw2 (by decide) (by decide) (rest _ _ _ ⟨Lib.hid ⟨_, rfl, lit_rb W1 [79] (all_lit (by decide))⟩, bt hB1 (Lib.hid (bel1 W1 (.cells (cs8 [79]).toArray 5))), kt hG1 (Lib.hid (bel1 W1 (.cells (cs8 [79]).toArray 5)))⟩)
      clear B23 G6
      rintro v1 v2 w24 ⟨HA, B24, G6⟩
      obtain ⟨A9, rfl, RR0⟩ := HA.out
      have RR := Lib.hid RR0
      clear RR0 HA
      have hS := G6.out
      refine wpAnyH_ready (rs := [49]) (by kernel_rfl) (by simp) ?_
      refine AllReadyH.cons (o := _) rfl (fun K hK => ?_) (AllReadyH.nil)
      go_simp
      refine (read_reg _ [79] 1 1 2 (pad [1, 39]) 0 _ rfl (Nat.le_refl _) (by unfold maxLen; omega) RR rfl (by decide +kernel)).mono ?_
      rintro e w25 ⟨rfl, hbh⟩
      have B25 := bt B24 hbh
      have G6n := kt G6 hbh
      clear G6
      have G6 := G6n
      clear G6n
      clear B24
      clear hbh
      go_simp
      refine hK.out _ _ (G6.out) (fun hS => ?_)
      clear hK K
      (try simp only [Act.put, List.setIfInBounds_toArray, List.set_cons_zero, List.set_cons_succ])
      clear RR
      refine wpAnyH_take (i := 50) (oi := ⟨some 161, _, _, _, _, _⟩) (v := .bool true) rfl (by kernel_rfl) (by kernel_rfl) (by kernel_rfl) (fun _ _ _ h => h) (Or.inl ⟨by rfl, fun w hSw => by (try dsimp only at hSw); go_simp⟩) hS ?_
      simp only [Act.put, List.setIfInBounds_toArray, List.set_cons_zero, List.set_cons_succ]
      refine wpAnyH_take (i := 51) (oi := ⟨some 162, _, _, _, _, _⟩) (v := .bool true) rfl (by kernel_rfl) (by kernel_rfl) (by kernel_rfl) (fun _ _ _ h => h) (Or.inl ⟨by rfl, fun w hSw => by (try dsimp only at hSw); go_simp⟩) hS ?_
      simp only [Act.put, List.setIfInBounds_toArray, List.set_cons_zero, List.set_cons_succ]
      apply later (F := fun (v1 v2 : Value) (W : World) => Hid (∃ A, v1 = .slice A 1 1 ∧ Rb W A [80]) ∧ Hid (Below w.heap.size w W) ∧ Hid (Bk W g6 26 (oc 0 zl)))
      · intro rest
        refine wpAnyH_ready (rs := [52, 53]) (by kernel_rfl) (by simp) ?_
        refine AllReadyH.cons (o := _) rfl (fun K hK => ?_) (AllReadyH.cons (o := _) rfl (fun K hK => ?_) (AllReadyH.nil))
        · go_simp
          refine hK.out _ _ (G6.out.alloc _) (fun hS => ?_)
          clear hK K
          (try simp only [Act.put, List.setIfInBounds_toArray, List.set_cons_zero, List.set_cons_succ])
          refine wpAnyH_ready (rs := [53]) (by kernel_rfl) (by simp) ?_
          refine AllReadyH.cons (o := _) rfl (fun K hK => ?_) (AllReadyH.nil)
          go_simp
          refine hK.out _ _ ((G6.out.alloc _).alloc _) (fun hS => ?_)
          clear hK K
          (try simp only [Act.put, List.setIfInBounds_toArray, List.set_cons_zero, List.set_cons_succ])
          refine wpAnyH_ready (rs := [54]) (by kernel_rfl) (by simp) ?_
          refine AllReadyH.cons (o := _) rfl (fun K hK => ?_) (AllReadyH.nil)
          go_simp
          refine (of_lit2 [80] [2, 0] 2 2 (pad [2, 0]) _ (all_lit (by decide)) rfl (by decide) (by decide) (by decide +kernel) (by decide +kernel)).mono ?_
          rintro e W2 ⟨rfl, RR, hb⟩
          have hG := kt G6 hb
          have hB := bt B25 hb
          refine hK.out _ _ (hG.out) (fun hS => ?_)
          clear hK K
          (try simp only [Act.put, List.setIfInBounds_toArray, List.set_cons_zero, List.set_cons_succ])
          have F1 : Hid (∃ A, Value.slice (some ⟨w25.heap.size, 0, none⟩) 1 1 = .slice A 1 1 ∧ Rb W2 A [80]) := Lib.hid ⟨_, rfl, RR.out⟩
          generalize Value.slice (some ⟨w25.heap.size, 0, none⟩) 1 1 = v1 at F1 ⊢
          generalize Value.slice (some ⟨w25.heap.size + 1, 0, none⟩) 2 2 = v2 at F1 ⊢
          exact rest v1 v2 W2 ⟨F1, hB, hG⟩
        · go_simp
          refine hK.out _ _ (G6.out.alloc _) (fun hS => ?_)
          clear hK K
          (try simp only [Act.put, List.setIfInBounds_toArray, List.set_cons_zero, List.set_cons_succ])
          refine wpAnyH_ready (rs := [52, 54]) (by kernel_rfl) (by simp) ?_
          refine AllReadyH.cons (o := _) rfl (fun K hK => ?_) (AllReadyH.cons (o := _) rfl (fun K hK => ?_) (AllReadyH.nil))
          · go_simp
            refine hK.out _ _ ((G6.out.alloc _).alloc _) (fun hS => ?_)
            clear hK K
            (try simp only [Act.put, List.setIfInBounds_toArray, List.set_cons_zero, List.set_cons_succ])
            refine wpAnyH_ready (rs := [54]) (by kernel_rfl) (by simp) ?_
            refine AllReadyH.cons (o := _) rfl (fun K hK => ?_) (AllReadyH.nil)
            go_simp
            refine (of_reg (some ⟨w25.heap.size, 0, none⟩) [2, 0] 2 2 (pad [2, 0]) ((w25.alloc (.cells (cs32 [2, 0]).toArray 23)).alloc (.cells (cs8 [80]).toArray 5)) rfl (by decide) (by decide) ((r32_lit w25 [2, 0]).below (bel1 _ _)) (by decide +kernel) (by decide +kernel)).mono ?_
            rintro e W2 ⟨rfl, hb0⟩
            have RR : Rb W2 (some ⟨w25.heap.size + 1, 0, none⟩) [80] := by
              have h := (lit_rb (w25.alloc (.cells (cs32 [2, 0]).toArray 23)) [80] (all_lit (by decide))).below hb0.out
              rwa [World.size_alloc] at h
            have hb : Hid (Below w25.heap.size w25 W2) := Lib.hid (((bel1 w25 (.cells (cs32 [2, 0]).toArray 23)).trans ((bel1 _ (.cells (cs8 [80]).toArray 5)).mono (by simp))).trans (hb0.out.mono (by simp; omega)))
            have hG := kt G6 hb
            have hB := bt B25 hb
            refine hK.out _ _ (hG.out) (fun hS => ?_)
            clear hK K
            (try simp only [Act.put, List.setIfInBounds_toArray, List.set_cons_zero, List.set_cons_succ])
            exact sw1 (by decide) (rest _ _ W2 ⟨Lib.hid ⟨_, rfl, RR⟩, hB, hG⟩)
          · go_simp
            refine (of_lit [2, 0] 2 2 (pad [2, 0]) _ rfl (by decide) (by decide) (by decide +kernel) (by decide +kernel)).mono ?_
            rintro e W1 ⟨rfl, hb⟩
            have hG1 := kt G6 hb
            have hB1 := bt B25 hb
            refine hK.out _ _ (hG1.out) (fun hS => ?_)
            clear hK K
            (try simp only [Act.put, List.setIfInBounds_toArray, List.set_cons_zero, List.set_cons_succ])
            refine wpAnyH_ready (rs := [52]) (by kernel_rfl) (by simp) ?_
            refine AllReadyH.cons (o := _) rfl (fun K hK => ?_) (AllReadyH.nil)
            go_simp
            refine hK.out _ _ (hG1.out.alloc _) (fun hS => ?_)
            clear hK K
            (try simp only [Act.put, List.setIfInBounds_toArray, List.set_cons_zero, List.set_cons_succ])
            exact sw2 (by decide) (by decide) (rest _ _ _ ⟨Lib.hid ⟨_, rfl, lit_rb W1 [80] (all_lit (by decide))⟩, bt hB1 (Lib.hid (bel1 W1 (.cells (cs8 [80]).toArray 5))), kt hG1 (Lib.hid (bel1 W1 (.cells (cs8 [80]).toArray 5)))⟩)
      clear B25 G6
      rintro v1 v2 w26 ⟨HA, B26, G6⟩
      obtain ⟨A9, rfl, RR0⟩ := HA.out
      have RR := Lib.hid RR0
      clear RR0 HA
      have hS := G6.out
      refine wpAnyH_ready (rs := [55]) (by kernel_rfl) (by simp) ?_
      refine AllReadyH.cons (o := _) rfl (fun K hK => ?_) (AllReadyH.nil)
      go_simp
      refine (read_reg _ [80] 1 1 2 (pad [2, 0]) 0 _ rfl (Nat.le_refl _) (by unfold maxLen; omega) RR rfl (by decide +kernel)).mono ?_
      rintro e w27 ⟨rfl, hbh⟩
      have B27 := bt B26 hbh
      have G6n := kt G6 hbh
      clear G6
      have G6 := G6n
      clear G6n
      clear B26
      clear hbh
      go_simp
      refine hK.out _ _ (G6.out) (fun hS => ?_)
      clear hK K
      (try simp only [Act.put, List.setIfInBounds_toArray, List.set_cons_zero, List.set_cons_succ])
      clear RR
      refine wpAnyH_take (i := 56) (oi := ⟨some 167, _, _, _, _, _⟩) (v := .bool true) rfl (by kernel_rfl) (by kernel_rfl) (by kernel_rfl) (fun _ _ _ h => h) (Or.inl ⟨by rfl, fun w hSw => by (try dsimp only at hSw); go_simp⟩) hS ?_
      simp only [Act.put, List.setIfInBounds_toArray, List.set_cons_zero, List.set_cons_succ]
      refine wpAnyH_take (i := 57) (oi := ⟨some 168, _, _, _, _, _⟩) (v := .bool true) rfl (by kernel_rfl) (by kernel_rfl) (by kernel_rfl) (fun _ _ _ h => h) (Or.inl ⟨by rfl, fun w hSw => by (try dsimp only at hSw); go_simp⟩) hS ?_
      simp only [Act.put, List.setIfInBounds_toArray, List.set_cons_zero, List.set_cons_succ]
      refine wpAnyH_take (i := 58) (oi := ⟨some 169, _, _, _, _, _⟩) (v := oV 0 zl) rfl (by kernel_rfl) (by kernel_rfl) (by kernel_rfl) (fun _ _ _ h => h) (yieldsIf_load_mid (by rfl) 26 (.tmp 6) rfl (g6) 0 rfl (oc 0 zl) _ (fun W h => range25 h) Tryd.underlying26 rfl (by rw [oc_length, HZL.out]; exact info25)) hS ?_
      simp only [Act.put, List.setIfInBounds_toArray, List.set_cons_zero, List.set_cons_succ]
      refine wpAnyH_ready (rs := [59]) (by kernel_rfl) (by simp) ?_
      refine AllReadyH.cons (o := _) rfl (fun K hK => ?_) (AllReadyH.nil)
      go_simp
      refine (parsed_lit ⟨#[]⟩ [] 0 zl 6 _ (by decide +kernel) (all_lit (by decide)) (by decide) (Lib.hid (E0.out.below B27.out)) HZL.out (by rw [← HZ.out]; decide +kernel)).mono ?_
      rintro e w28 ⟨rfl, hbh⟩
      have B28 := bt B27 hbh
      have G6n := kt G6 hbh
      clear G6
      have G6 := G6n
      clear G6n
      clear B27
      clear hbh
      go_simp
      refine hK.out _ _ (G6.out) (fun hS => ?_)
      clear hK K
      (try simp only [Act.put, List.setIfInBounds_toArray, List.set_cons_zero, List.set_cons_succ])
      refine wpAnyH_take (i := 60) (oi := ⟨some 171, _, _, _, _, _⟩) (v := .bool true) rfl (by kernel_rfl) (by kernel_rfl) (by kernel_rfl) (fun _ _ _ h => h) (Or.inl ⟨by rfl, fun w hSw => by (try dsimp only at hSw); go_simp⟩) hS ?_
      simp only [Act.put, List.setIfInBounds_toArray, List.set_cons_zero, List.set_cons_succ]
      refine wpAnyH_take (i := 61) (oi := ⟨some 172, _, _, _, _, _⟩) (v := .bool true) rfl (by kernel_rfl) (by kernel_rfl) (by kernel_rfl) (fun _ _ _ h => h) (Or.inl ⟨by rfl, fun w hSw => by (try dsimp only at hSw); go_simp⟩) hS ?_
      simp only [Act.put, List.setIfInBounds_toArray, List.set_cons_zero, List.set_cons_succ]
      refine wpAnyH_take (i := 62) (oi := ⟨some 173, _, _, _, _, _⟩) (v := oV 0 zl) rfl (by kernel_rfl) (by kernel_rfl) (by kernel_rfl) (fun _ _ _ h => h) (yieldsIf_load_mid (by rfl) 26 (.tmp 6) rfl (g6) 0 rfl (oc 0 zl) _ (fun W h => range25 h) Tryd.underlying26 rfl (by rw [oc_length, HZL.out]; exact info25)) hS ?_
      simp only [Act.put, List.setIfInBounds_toArray, List.set_cons_zero, List.set_cons_succ]
      refine wpAnyH_ready (rs := [63]) (by kernel_rfl) (by simp) ?_
      refine AllReadyH.cons (o := _) rfl (fun K hK => ?_) (AllReadyH.nil)
      go_simp
      refine (parsed_lit ⟨#[49, 46, 46, 50]⟩ [49, 46, 46, 50] 0 zl 6 _ (by decide +kernel) (all_lit (by decide)) (by decide) (Lib.hid (E0.out.below B28.out)) HZL.out (by rw [← HZ.out]; decide +kernel)).mono ?_
      rintro e w29 ⟨rfl, hbh⟩
      have B29 := bt B28 hbh
      have G6n := kt G6 hbh
      clear G6
      have G6 := G6n
      clear G6n
      clear B28
      clear hbh
      go_simp
      refine hK.out _ _ (G6.out) (fun hS => ?_)
      clear hK K
      (try simp only [Act.put, List.setIfInBounds_toArray, List.set_cons_zero, List.set_cons_succ])
      refine wpAnyH_take (i := 64) (oi := ⟨some 175, _, _, _, _, _⟩) (v := .bool true) rfl (by kernel_rfl) (by kernel_rfl) (by kernel_rfl) (fun _ _ _ h => h) (Or.inl ⟨by rfl, fun w hSw => by (try dsimp only at hSw); go_simp⟩) hS ?_
      simp only [Act.put, List.setIfInBounds_toArray, List.set_cons_zero, List.set_cons_succ]
      refine wpAnyH_take (i := 65) (oi := ⟨some 176, _, _, _, _, _⟩) (v := .bool true) rfl (by kernel_rfl) (by kernel_rfl) (by kernel_rfl) (fun _ _ _ h => h) (Or.inl ⟨by rfl, fun w hSw => by (try dsimp only at hSw); go_simp⟩) hS ?_
      simp only [Act.put, List.setIfInBounds_toArray, List.set_cons_zero, List.set_cons_succ]
      refine wpAnyH_take (i := 66) (oi := ⟨some 177, _, _, _, _, _⟩) (v := oV 0 zl) rfl (by kernel_rfl) (by kernel_rfl) (by kernel_rfl) (fun _ _ _ h => h) (yieldsIf_load_mid (by rfl) 26 (.tmp 6) rfl (g6) 0 rfl (oc 0 zl) _ (fun W h => range25 h) Tryd.underlying26 rfl (by rw [oc_length, HZL.out]; exact info25)) hS ?_
      simp only [Act.put, List.setIfInBounds_toArray, List.set_cons_zero, List.set_cons_succ]
      refine wpAnyH_ready (rs := [67]) (by kernel_rfl) (by simp) ?_
      refine AllReadyH.cons (o := _) rfl (fun K hK => ?_) (AllReadyH.nil)
      go_simp
      refine (parsed_lit ⟨#[50, 46, 52, 50, 57, 52, 57, 54, 55, 50, 49, 54]⟩ [50, 46, 52, 50, 57, 52, 57, 54, 55, 50, 49, 54] 0 zl 1 _ (by decide +kernel) (all_lit (by decide)) (by decide) (Lib.hid (E0.out.below B29.out)) HZL.out (by rw [← HZ.out]; decide +kernel)).mono ?_
      rintro e w30 ⟨rfl, hbh⟩
      have B30 := bt B29 hbh
      have G6n := kt G6 hbh
      clear G6
      have G6 := G6n
      clear G6n
      clear B29
      clear hbh
      go_simp
      refine hK.out _ _ (G6.out) (fun hS => ?_)
      clear hK K
      (try simp only [Act.put, List.setIfInBounds_toArray, List.set_cons_zero, List.set_cons_succ])
      refine wpAnyH_take (i := 68) (oi := ⟨some 179, _, _, _, _, _⟩) (v := .bool true) rfl (by kernel_rfl) (by kernel_rfl) (by kernel_rfl) (fun _ _ _ h => h) (Or.inl ⟨by rfl, fun w hSw => by (try dsimp only at hSw); go_simp⟩) hS ?_
      simp only [Act.put, List.setIfInBounds_toArray, List.set_cons_zero, List.set_cons_succ]
      refine wpAnyH_take (i := 69) (oi := ⟨some 180, _, _, _, _, _⟩) (v := .bool true) rfl (by kernel_rfl) (by kernel_rfl) (by kernel_rfl) (fun _ _ _ h => h) (Or.inl ⟨by rfl, fun w hSw => by (try dsimp only at hSw); go_simp⟩) hS ?_
      simp only [Act.put, List.setIfInBounds_toArray, List.set_cons_zero, List.set_cons_succ]
      refine wpAnyH_ready (rs := [70]) (by kernel_rfl) (by simp) ?_
      refine AllReadyH.cons (o := _) rfl (fun K hK => ?_) (AllReadyH.nil)
      go_simp
      refine (lives_any _ (E0.out.below B30.out)).mono ?_
      rintro e w31 ⟨rfl, hb⟩
      have hbh := Lib.hid hb
      clear hb
      have B31 := bt B30 hbh
      have G6n := kt G6 hbh
      clear G6
      have G6 := G6n
      clear G6n
      clear B30
      clear hbh
      go_simp
      refine hK.out _ _ (G6.out) (fun hS => ?_)
      clear hK K
      (try simp only [Act.put, List.setIfInBounds_toArray, List.set_cons_zero, List.set_cons_succ])
      refine wpAnyH_take (i := 71) (oi := ⟨some 182, _, _, _, _, _⟩) (v := .bool true) rfl (by kernel_rfl) (by kernel_rfl) (by kernel_rfl) (fun _ _ _ h => h) (Or.inl ⟨by rfl, fun w hSw => by (try dsimp only at hSw); go_simp⟩) hS ?_
      simp only [Act.put, List.setIfInBounds_toArray, List.set_cons_zero, List.set_cons_succ]
      refine wpAnyH_take (i := 72) (oi := ⟨some 0, _, _, _, _, _⟩) (v := .bool true) rfl (by kernel_rfl) (by kernel_rfl) (by kernel_rfl) (fun _ _ _ h => h) (Or.inl ⟨by rfl, fun w hSw => by (try dsimp only at hSw); go_simp⟩) hS ?_
      simp only [Act.put, List.setIfInBounds_toArray, List.set_cons_zero]
      refine wpAnyH_done (by kernel_rfl) ?_ _
      go_wp2
      go_ret
      exact ⟨rfl, B31.out⟩

open Go.ChangeShapes Go.WideShapes Go.ChangeAt Go.WideMaps Go.WideElems
set_option maxRecDepth 100000 in
theorem oidsKnown_lifted (os : Os) (started : os.Started) (H : Type) (enc : TypeId × Value → H) :
    ReturnsInHanded {} Tryd.checked os 5 .any (fun w args => (Rows.oidsKnownSpec.pre enc Tryd.prog Tryd.f5 [] false w args ∧ laidMetH Tryd.prog laidL w) ∧ sizedMet enc Tryd.prog Tryd.f5 (OpenSpec.ofChange Rows.oidsKnownSpec) false w args)
      (Rows.oidsKnownSpec.post enc Tryd.prog Tryd.f5 false true false false) := by
  refine returnsInHanded_of_change_and (C := Tryd.checked) (X := fun w _ => laidMetH Tryd.prog laidL w) (fun _ _ _ hh h => h.of_heap hh) x_own started (by kernel_rfl) Tryd.func5
    (ChangeSpec.witness_shaped (enc := enc) (C := Tryd.checked) (os := os) (X := fun w _ => laidMetH Tryd.prog laidL w) false (World.laidAll Tryd.prog os laidL) #[] 8 (World.laidAll_os _ _ _) (World.shaped_of_ZipB (by kernel_rfl) (by kernel_rfl)) (by kernel_rfl) (by kernel_rfl) (by kernel_rfl) (door_met os _)) ?_
  intro W base args ds gs before hval0 hW _ _ hL _
  have hval : ∀ (j : Nat) t v, Tryd.f5.params[j]? = some t → args[j]? = some v → Value.okWide Tryd.prog W .any base t v := hval0
  have hW' := hW
  obtain ⟨p, q, hA0, hV, rfl, hfz, hnd⟩ := hW
  have hA : DataW.TrodAll enc Tryd.prog W 0 (fun _ => true) true Tryd.f5.params.toList args.toList ds p := hA0
  rw [Tryd.params5] at hA hval
  obtain ⟨rfl, rfl, rfl⟩ := trodAll_none hA
  obtain ⟨rfl, rfl⟩ := trodVars_none hV
  have hE := of_laid hL
  clear hA0 hval0
  simp only [List.append_nil] at hW'
  refine (known_walk W hE).mono fun e W' ⟨he, hb⟩ => ?_
  subst he
  exact ⟨_, rfl, law_post (tb := 4) x_laid (by decide +kernel) rfl rfl (by kernel_rfl) Tryd.underlying4 hW' hb⟩

/-- The row's statement. -/
theorem oidsKnown_row : Rows.OidsKnownSaid :=
  OpenClaim.holds_of_wide 5 Tryd.f5 rfl rfl rfl rfl rfl rfl rfl ⟨rfl, rfl, rfl, rfl, rfl⟩ rfl rfl rfl rfl rfl (by kernel_rfl) Tryd.func5 (by kernel_rfl)
    (of_decide_eq_true (by kernel_rfl)) (by unfold Func.isWrapper; first | (rw [if_pos (by decide +kernel)]; kernel_rfl) | (rw [if_neg (by decide +kernel)]; exact ⟨rfl, rfl⟩))
    (fun os started H enc _ => oidsKnown_lifted os started H enc)

/-- The statement: the card. -/
theorem oidsKnown_holds : Rows.OidsKnownCardSaid :=
  Claim7.holds_tied_plain_at .later [] [.data, .data, .data, .data, .sentinel, .sentinel, .pinned] true Rows.oidsKnownCard.stood.harness true
    oidsKnown_row (fun _ h => by cases h) (by kernel_rfl) (fun _ h => by cases h) oidsKnown_row_tie rfl ⟨rfl, rfl⟩ (by kernel_rfl) rfl
    (fun f fn hf hfn => by
      obtain rfl : f = 5 := Option.some.inj ((show Tryd.prog.funcNamed "vidimus/vidimuslaw06.OidsKnown" = some 5 by kernel_rfl).symm.trans hf) |>.symm
      obtain rfl : fn = Tryd.f5 := (Option.some.inj (Tryd.func5.symm.trans hfn)).symm
      exact ⟨by kernel_rfl, fun j t ht => by
        rw [Tryd.params5] at ht
        exact absurd ht (by simp)⟩)
    (by kernel_rfl)
end Go.Proofs.YtndamidmgglneaaDoor
