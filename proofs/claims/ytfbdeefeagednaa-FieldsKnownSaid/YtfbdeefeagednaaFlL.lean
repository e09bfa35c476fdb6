/-
  Layer 12: Under.
  Conditions: none beyond that values read as what they are.
-/
import Derived.Test.YtfbdeefeagednaaFlK
import Derived.Laws.CopyRow
import Derived.Laws.IdiomCopy
namespace Go.Proofs.Ytfbdeefeagednaa.Fl
open Go.RowKit

/-- A region's step at the builtin copy, by what it runs to. -/
theorem step_copy {P : Program} {w : World} {ops : Array Oper} {o : Oper} {a : Act} {K : Act → World → Prop} {Q : Exit → Act → World → Prop} {E : Prop} (hgd : o.guard = none) (s x : Operand) (t1 t2 : TypeId)
    (ho : o.op = .call { callee := .builtin .copy, args := #[s, x], argTypes := #[t1, t2] }) (u v : Value) (hs : a.eval s = u) (hx : a.eval x = v) {r : Value} {w1 : World}
    (hrun : (Builtin.copy_ #[t1, t2] o.type #[u, v]).run P w = .ok r w1) (h : K (a.put o.dst r) w1) : if Region.wanted o (yielded ops a.tmps) = true then Oper.wp P o a w K Q else E := by
  have hw : Region.wanted o (yielded ops a.tmps) = true := by simp [Region.wanted, hgd]
  rw [if_pos hw]
  unfold Oper.wp execOp
  simp only [ho, resolve, invoke, builtin, Sem.run_bind, Sem.run_pure, Result.andThen_ok, List.map_toArray, List.map_cons, List.map_nil, hs, hx, hrun]
  exact h
theorem csZ_ones (l : List Int) : ∀ u ∈ csZ l, u.oneCell' = true := by intro u hu; obtain ⟨n, _, rfl⟩ := List.mem_map.1 hu; rfl
theorem slI (g n n1 : Nat) (h : n + 1 = n1) : ∃ o, (n = 0 ∨ o = 1) ∧ ∀ W, (Instr.slice 30 (.slice (some ⟨g, 0, none⟩) n1 n1) (some (.int .i64 1)) none none).run Try.prog W = .ok (.slice (some ⟨g, o, none⟩) n n) W := by
  have hsz : ∀ W, (sizeOf (Try.prog.elem 30)).run Try.prog W = .ok 1 W := fun W => by kernel_rfl
  refine ⟨if n1 = 1 then 0 else 1, ?_, fun W => ?_⟩
  · by_cases h1 : n1 = 1
    · exact .inl (by omega)
    · rw [if_neg h1]; exact .inr rfl
  · rw [run_slice_l (P := Try.prog) W 30 _ n1 n1 (by kernel_rfl) .i64 1 (by omega) (by omega), hsz]
    simp only [Result.andThen, sliced]
    by_cases h1 : n1 = 1
    · subst h1
      obtain rfl : n = 0 := by omega
      rfl
    · rw [if_neg h1, if_neg (by simpa using h1), show n1 - (1 : Int).toNat = n by simp; omega]
      rfl
theorem copyI {w : World} {g o n c : Nat} {A : Option Addr} {z : Int} {l : List Int} (S : Bk w g 3 (csZ [z] ++ zs n)) (hA : Rd w A (csZ l)) (hl : l.length = n) (ho : n = 0 ∨ o = 1) :
    ∃ w', (Builtin.copy_ #[30, 30] 3 #[.slice (some ⟨g, o, none⟩) n n, .slice A n c]).run Try.prog w = .ok (.int .i64 (n : Int)) w' ∧ Bk w' g 3 (csZ (z :: l)) ∧ w.grownBy w' (some g) := by
  subst hl
  cases l with
  | nil => exact ⟨w, run_copy_none (P := Try.prog) w 30 30 3 3 _ _ _ _ _ _ Try.underlying30 (by kernel_rfl) (by simp), S, World.grownBy.refl _ _⟩
  | cons x m =>
    obtain rfl : o = 1 := by simpa using ho
    obtain ⟨b, off, rfl, hb, hc⟩ := hA.all_ (by simp [csZ])
    have hlen : (csZ (x :: m)).length = (x :: m).length := csZ_len _
    have hrun := run_copy_row (P := Try.prog) w 30 30 3 3 g 1 (x :: m).length (x :: m).length ⟨b, off, none⟩ (x :: m).length c (csZ [z] ++ zs (x :: m).length).toArray 3 (csZ (x :: m)) Try.underlying30 (by kernel_rfl) S (by rw [hlen]; simp)
      (fun j v hv => by
        obtain ⟨hj, hj2⟩ := List.getElem?_eq_some_iff.1 hv
        rw [addr_add, hc j hj, hj2])
      (by rw [hlen, List.size_toArray, List.length_append, csZ_len]; simp [zs]) (csZ_ones _)
    rw [hlen] at hrun
    refine ⟨_, hrun, ?_, ⟨rfl, rfl, rfl, by simp [World.setRow], fun k hk hne => setRow_other w g k _ (fun e => hne (by rw [e]))⟩⟩
    have := setRow_heap w g (csZ [z] ++ zs (x :: m).length).toArray ((csZ [z] ++ zs (x :: m).length).take 1 ++ csZ (x :: m) ++ (csZ [z] ++ zs (x :: m).length).drop (1 + (x :: m).length)).toArray 3 _ S
    have e : (csZ [z] ++ zs (x :: m).length).take 1 ++ csZ (x :: m) ++ (csZ [z] ++ zs (x :: m).length).drop (1 + (x :: m).length) = csZ (z :: x :: m) := by
      rw [List.drop_eq_nil_of_le (by simp [csZ, zs]; omega)]
      simp [csZ]
    rw [← e]
    exact this
set_option linter.unusedSimpArgs false in
set_option maxHeartbeats 2000000 in
set_option maxRecDepth 100000 in
theorem under_any (z : Int) (l : List Int) (f : Nat) (A : Option Addr) (n c : Nat) (w : World) (hA : Rd w A (csZ l)) (hl : l.length = n) (hn : n ≤ 900000) (P : List Int) (e : Nat) (hR : (if f = 0 then ([], 0) else (z :: l, f)) = (P, e)) :
    Calls Try.prog 30 #[.int .i64 z, fvV A n c f] w (GiveF true w P e) := by
  have k0 := (Bk.new w 38 [.slice A n c, .int .i64 (f : Int)]).alloc (.cells #[.slice none 0 0, .int .i64 0] 38)
  have k1 := Bk.new (w.alloc (.cells #[.slice A n c, .int .i64 (f : Int)] 38)) 38 [.slice none 0 0, .int .i64 0]
  have b0 := bel2 w (.cells #[.slice A n c, .int .i64 (f : Int)] 38) (.cells #[.slice none 0 0, .int .i64 0] 38)
  rw [World.size_alloc] at k1
  by_cases h0 : f = 0
  · subst h0
    rw [if_pos rfl] at hR
    obtain ⟨rfl, rfl⟩ := Prod.mk.inj hR
    have K1 := Lib.hid k1
    have B0 := Lib.hid b0
    clear hA hl hn hR k0 k1 b0
    go_enter Try.func30, Try.ntmps30
    go_wp2_with (refine storeF rfl _ _ rfl rfl rfl K1.out rfl rfl ?_; intro w3 h3 h4)
    exact retF rfl rfl h3.out rfl (give_nil B0 (by omega) h4)
  rw [if_neg h0] at hR
  obtain ⟨rfl, rfl⟩ := Prod.mk.inj hR
  have hf : ((f : Int) == 0) = false := by simp; omega
  obtain ⟨n1, hn1⟩ : ∃ n1, n + 1 = n1 := ⟨_, rfl⟩
  have hn1i : (1 : Int) + (n : Int) = (n1 : Int) := by omega
  obtain ⟨w2, hw2⟩ : ∃ w2, (w.alloc (.cells #[.slice A n c, .int .i64 (f : Int)] 38)).alloc (.cells #[.slice none 0 0, .int .i64 0] 38) = w2 := ⟨_, rfl⟩
  rw [hw2] at k0 k1 b0
  have hz2 : w2.heap.size = w.heap.size + 1 + 1 := by rw [← hw2]; simp
  have hmk := makeI n1 (by omega) w2
  obtain ⟨w3, hw3⟩ : ∃ w3, w2.alloc (.cells (zs n1).toArray 3) = w3 := ⟨_, rfl⟩
  obtain ⟨g, hg⟩ : ∃ g, w2.heap.size = g := ⟨_, rfl⟩
  have k3 : Bk w3 g 3 (zs n1) := by rw [← hw3, ← hg]; exact Bk.new w2 _ _
  have b3 : Below w2.heap.size w2 w3 := by rw [← hw3]; exact bel1 _ _
  rw [hw3, hg] at hmk
  obtain ⟨w4, hw4⟩ : ∃ w4, w3.setCell ⟨g, 0, none⟩ (.int .i64 z) = w4 := ⟨_, rfl⟩
  have k4 : Bk w4 g 3 (csZ [z] ++ zs n) := by rw [← hw4]; have := k3.store 0 (.int .i64 z); rw [← hn1] at this; exact this
  have hG : w.heap.size < w.heap.size + 1 := by omega
  have q0 : Bk w4 w.heap.size 38 [.slice A n c, .int .i64 (f : Int)] := by rw [← hw4]; exact (k0.below b3 k0.lt).far (p := ⟨g, 0, none⟩) (by show w.heap.size ≠ g; omega) _
  have q1 : Bk w4 (w.heap.size + 1) 38 [.slice none 0 0, .int .i64 0] := by rw [← hw4]; exact (k1.below b3 k1.lt).far (p := ⟨g, 0, none⟩) (by show w.heap.size + 1 ≠ g; omega) _
  have b4 : Below w.heap.size w w4 := by rw [← hw4]; exact (b0.trans (b3.mono b0.size)).setCell (p := ⟨g, 0, none⟩) (by show w.heap.size ≤ g; omega) _
  have k4d : Bk w4.drew g 3 (csZ [z] ++ zs n) := k4
  obtain ⟨o, ho, hsl⟩ := slI g n n1 hn1
  obtain ⟨w5, hrun, k5, g5⟩ := copyI (c := c) k4d (hA.below (show Below w.heap.size w w4.drew from b4.drew)) hl ho
  have KG := Lib.hid k5
  have g5' : w4.grownBy w5 (some g) := ⟨g5.os, g5.tape, g5.output, g5.size, g5.block⟩
  have Q0 := Lib.hid (q0.only g5' (by simp; omega))
  have Q1 := Lib.hid (q1.only g5' (by simp; omega))
  have B5 := Lib.hid (b4.trans (only_below g5' (by omega) b4.size))
  have HW2 := Lib.hid hw2
  have HW4 := Lib.hid hw4
  have HL := Lib.hid hl
  have HN1 := Lib.hid hn1
  have HGZ : Hid (w.heap.size + 1 < g) := Lib.hid (by omega)
  have d0 : w3.cell? ⟨g, 0, none⟩ = some (.int .i64 0) := by have := k3.cell 0; rw [← hn1] at this; exact this
  have d1 := k3.free 0
  have c0 : w2.cell? ⟨w.heap.size, 0, none⟩ = some (.slice A n c) := k0.cell 0
  have cf : w2.cell? ⟨w.heap.size, 1, none⟩ = some (.int .i64 (f : Int)) := k0.cell 1
  have c4 : w4.drew.cell? ⟨w.heap.size, 0, none⟩ = some (.slice A n c) := q0.cell 0
  have c5 : w5.cell? ⟨w.heap.size, 1, none⟩ = some (.int .i64 (f : Int)) := Q0.out.cell 1
  have HP1 := Lib.hid (show 0 < n1 from by omega)
  have hp1 : (0 : Int) < (n1 : Int) := by omega
  have hp2 : n1 ≤ 1000000 := by omega
  clear k0 k1 b0 hw2 hz2 hw3 hg k3 b3 hw4 k4 hG q0 q1 b4 k5 g5 g5' k4d ho hA hl hn hn1 hR h0
  go_enter Try.func30, Try.ntmps30
  go_upto_region 1 with fail
  rw [HW2.out]
  go_upto_region 5 with fail
  rw [HW4.out]
  refine wp_region_held_drew (S := fun W => W.cell? ⟨w.heap.size, 0, none⟩ = some (.slice A n c)) (by kernel_rfl) c4 (fun hS => ?_)
  refine wpAnyH_take (i := 0) (oi := ⟨some 18, _, _, _, _, _⟩) (v := .slice (some ⟨g, 0, none⟩) n1 n1) rfl (by kernel_rfl) (by kernel_rfl) (by kernel_rfl) (fun _ _ _ h => h) (Or.inl ⟨by rfl, fun w hSw => by (try dsimp only at hSw); go_simp⟩) hS ?_
  simp only [Act.put, List.setIfInBounds_toArray, List.set_cons_zero, List.set_cons_succ]
  refine wpAnyH_take (i := 1) (oi := ⟨some 19, _, _, _, _, _⟩) (v := .slice (some ⟨g, o, none⟩) n n) rfl (by kernel_rfl) (by kernel_rfl) (by kernel_rfl) (fun _ _ _ h => h) (Or.inl ⟨by rfl, fun w hSw => by (try dsimp only at hSw); go_simp⟩) hS ?_
  simp only [Act.put, List.setIfInBounds_toArray, List.set_cons_zero, List.set_cons_succ]
  refine wpAnyH_take (i := 2) (oi := ⟨some 20, _, _, _, _, _⟩) (v := .pointer (some ⟨w.heap.size, 0, none⟩)) rfl (by kernel_rfl) (by kernel_rfl) (by kernel_rfl) (fun _ _ _ h => h) (Or.inl ⟨by rfl, fun w hSw => by (try dsimp only at hSw); go_simp⟩) hS ?_
  simp only [Act.put, List.setIfInBounds_toArray, List.set_cons_zero, List.set_cons_succ]
  refine wpAnyH_take (i := 3) (oi := ⟨some 21, _, _, _, _, _⟩) (v := .slice A n c) rfl (by kernel_rfl) (by kernel_rfl) (by kernel_rfl) (fun _ _ _ h => h) (Or.inl ⟨by rfl, fun w hSw => by (try dsimp only at hSw); go_simp⟩) hS ?_
  simp only [Act.put, List.setIfInBounds_toArray, List.set_cons_zero, List.set_cons_succ]
  refine wpAnyH_ready (rs := [4]) (by kernel_rfl) (by simp) ?_
  refine AllReadyH.cons (o := _) rfl (fun K hK => ?_) (AllReadyH.nil)
  refine step_copy rfl (.tmp 19) (.tmp 21) _ _ rfl _ _ rfl rfl hrun ?_
  refine hK.out _ _ (Q0.out.cell 0) (fun hS => ?_)
  clear hK K
  (try simp only [Act.put, List.setIfInBounds_toArray, List.set_cons_zero, List.set_cons_succ])
  refine wpAnyH_done (by kernel_rfl) ?_ _
  clear hS hrun c4 hmk c0 d0 d1 hsl
  go_wp2_with fail
  refine (fault_any f (some ⟨g, 0, none⟩) n1 n1 _).mono ?_
  rintro e w6 ⟨rfl, hb6⟩
  have K6 := kt Q1 (Lib.hid hb6)
  have B6 := bt B5 (Lib.hid hb6)
  have HS9 : Hid (RdX (fun i => w.heap.size + 1 < i) w6 (some ⟨g, 0, none⟩) (csZ (z :: l))) := Lib.hid (RdX.belowX (fun _ => ⟨g, 0, rfl, KG.out.lt, HGZ.out, fun j u hu => by rw [Nat.zero_add, KG.out.cell]; exact hu⟩) hb6)
  clear hb6 c5
  go_wp2_with (refine storeF rfl _ _ rfl rfl rfl K6.out rfl rfl ?_; intro w7 h7 h8)
  exact retF rfl rfl h7.out rfl (give_at B6 HS9.out (by rw [List.length_cons, HL.out, HN1.out]) (Nat.le_refl _) (by unfold maxLen; omega) (fun _ => rfl) (by omega) h8)
end Go.Proofs.Ytfbdeefeagednaa.Fl
