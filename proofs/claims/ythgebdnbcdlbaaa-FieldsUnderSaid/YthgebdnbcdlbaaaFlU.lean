/-
  Layer 12: FieldsUnder: an index is put in front of the path of a fault, and of no other.
  Conditions: none.
-/
import Derived.Test.YthgebdnbcdlbaaaFlO
import Derived.Test.YthgebdnbcdlbaaaFlR
namespace Go.Proofs.Ythgebdnbcdlbaaa.Fl
open Go.RowKit

theorem app_src {P : Program} {t ty e : TypeId} {z : Value} {bytes : Nat} (ht : P.underlying t = some (.slice e)) (hinfo : (P.info? e).map (fun i => (i.zero, i.size, i.bytes)) = some (some z, 1, bytes)) (hz : z.cells.size = 1)
    {w : World} {base : Nat} {v : Value} {xs : List Value} (hown : w.ownsRow base e 1 v xs.length xs) {A : Option Addr} {ys : List Value} {c : Nat} (hy : Rd w A ys) (h1 : ∀ u ∈ ys, u.oneCell' = true) (hb : base ≤ w.heap.size)
    (hl : (xs.length + ys.length) * bytes ≤ 140737488355328) (hm : xs.length + ys.length ≤ maxLen) :
    ∃ v' w', (Builtin.append_ #[t, t] ty #[v, .slice A ys.length c]).run P w = .ok v' w' ∧ w'.ownsRow base e 1 v' (xs ++ ys).length (xs ++ ys) ∧ Below base w w' := by
  obtain ⟨i, hi, hz0, hz1, hz2⟩ := info_parts hinfo
  cases A with
  | some a =>
    obtain ⟨v', w', hrun, h2, h3, _⟩ := run_append_own (P := P) w base t ty e i z 1 bytes ht hi hz0 hz1 hz2 hz (by omega) v xs.length xs hown a ys.length c ys (by simp)
      (fun j u hu => by
        obtain ⟨b, off, e, _, hc⟩ := hy (by intro e; subst e; simp at hu)
        injection e with e
        subst e
        rw [addr_add]; exact hc j u hu) h1 hm hl hb
    exact ⟨v', w', hrun, by rw [List.length_append]; exact h2, (Below.refl base w).grown h3 hb (fun k hk => (hown.lt k hk).1)⟩
  | none =>
    have hnil : ys = [] := by
      cases ys with
      | nil => rfl
      | cons u m => obtain ⟨_, _, e, _⟩ := hy (by simp); cases e
    subst hnil
    refine ⟨v, w, ?_, by simpa using hown, Below.refl _ _⟩
    rcases hown.2 with ⟨rfl, h0⟩ | ⟨g, cap, cur, rfl, _, _, hnc, _⟩
    · simp [Builtin.append_, run_underlying ht, sizeOf, typeInfo, hi, Builtin.lenOf, Builtin.firstCells]
    · simp [Builtin.append_, run_underlying ht, sizeOf, typeInfo, hi, Builtin.lenOf, Builtin.firstCells, hnc, storeCells]
set_option maxRecDepth 100000 in
theorem appG {W : World} {base p N c : Nat} {z1 z0 : Int} {l : List Int} {A : Option Addr} (hown : W.ownsRow base 3 1 (.slice (some ⟨p, 0, none⟩) 2 2) 2 (csZ [z1, z0])) (hA : Rd W A (csZ l)) (hN : l.length = N) (hN2 : N ≤ 1000) (hb : base ≤ W.heap.size) :
    ∃ A4 c4 W', (Builtin.append_ #[37, 37] 37 #[.slice (some ⟨p, 0, none⟩) 2 2, .slice A N c]).run Try.prog W = .ok (.slice A4 (N + 2) c4) W' ∧ W'.ownsRow base 3 1 (.slice A4 (N + 2) c4) (N + 2) (csZ (z1 :: z0 :: l)) ∧ W.grownBy W' (some p) := by
  obtain ⟨i, hi, hz0, hz1, hz2⟩ := info_parts infoI
  have hl : (csZ l).length = N := by rw [csZ_len, hN]
  have hform : ∀ {W' : World} {v' : Value} {n : Nat}, W'.ownsRow base 3 1 v' n (csZ (z1 :: z0 :: l)) → n = N + 2 → ∃ A4 c4, v' = .slice A4 (N + 2) c4 := fun h hn => by
    subst hn
    rcases h.2 with ⟨rfl, h0⟩ | ⟨g, cap, cur, rfl, _⟩
    · omega
    · exact ⟨_, _, rfl⟩
  cases A with
  | some a =>
    obtain ⟨v', w', hrun, h2, h3, _⟩ := run_append_own (P := Try.prog) W base 37 37 3 i (.int .i64 0) 1 8 Try.underlying37 hi hz0 hz1 hz2 rfl (by omega) (.slice (some ⟨p, 0, none⟩) 2 2) 2 (csZ [z1, z0]) hown a N c (csZ l) (by rw [hl]; omega)
      (fun j u hu => by
        obtain ⟨b, off, e, _, hc⟩ := hA (by intro e; rw [e] at hu; simp at hu)
        injection e with e
        subst e
        rw [addr_add]; exact hc j u hu) (csZ_ones l) (by unfold maxLen; omega) (by omega) hb
    rw [show 2 + N = N + 2 by omega] at h2
    have h2' : w'.ownsRow base 3 1 v' (N + 2) (csZ (z1 :: z0 :: l)) := h2
    obtain ⟨A4, c4, rfl⟩ := hform h2' rfl
    exact ⟨A4, c4, w', hrun, h2', h3⟩
  | none =>
    have hnil : l = [] := by
      cases l with
      | nil => rfl
      | cons u m => obtain ⟨_, _, e, _⟩ := hA (by simp [csZ]); cases e
    subst hnil
    obtain rfl : N = 0 := by simpa using hN.symm
    exact ⟨_, _, W, by simp [Builtin.append_, run_underlying Try.underlying37, sizeOf, typeInfo, hi, Builtin.lenOf, Builtin.firstCells, storeCells], hown, World.grownBy.refl _ _⟩
theorem own_two (W : World) (z1 z0 : Int) : (W.alloc (.cells #[.int .i64 z1, .int .i64 z0] 3)).ownsRow W.heap.size 3 1 (.slice (some ⟨W.heap.size, 0, none⟩) 2 2) 2 (csZ [z1, z0]) :=
  ⟨rfl, .inr ⟨W.heap.size, 2, #[.int .i64 z1, .int .i64 z0], rfl, Nat.le_refl _, heap_alloc_new W _, Nat.le_refl _, by unfold maxLen; omega, rfl, rfl⟩⟩
theorem done9 {w7 W : World} {g12 base N2 c4 : Nat} {A4 : Option Addr} {L : List Int} {f : Int} (hb : Below w7.heap.size w7 W) (hg : w7.heap.size ≤ g12) (K : Bk W g12 40 [.slice none 0 0, .int .i64 0]) (own : W.ownsRow base 3 1 (.slice A4 N2 c4) N2 (csZ L)) (hL : L.length = N2) :
    Bk ((W.setCell ⟨g12, 0, none⟩ (.slice A4 N2 c4)).setCell ⟨g12, 1, none⟩ (.int .i64 f)) g12 40 [.slice A4 N2 c4, .int .i64 f] ∧ Rd ((W.setCell ⟨g12, 0, none⟩ (.slice A4 N2 c4)).setCell ⟨g12, 1, none⟩ (.int .i64 f)) A4 (csZ L) ∧ N2 ≤ c4 ∧ c4 ≤ maxLen ∧ Below w7.heap.size w7 ((W.setCell ⟨g12, 0, none⟩ (.slice A4 N2 c4)).setCell ⟨g12, 1, none⟩ (.int .i64 f)) := by
  have hcs := fun (g : Nat) (hg : (Value.slice A4 N2 c4).ownBlock = some g) => own.cells hg
  rcases own.2 with ⟨h1, h0⟩ | ⟨g, cap, cur, h1, hgb, hh, hn, hm, _⟩
  · injection h1 with h1 h2 h3
    subst h1 h2 h3
    have : L = [] := List.eq_nil_of_length_eq_zero hL
    subst this
    exact ⟨(K.store 0 _).store 1 _, Rd.nil, Nat.le_refl _, by unfold maxLen; omega, (hb.setCell (p := ⟨g12, 0, none⟩) hg _).setCell (p := ⟨g12, 1, none⟩) hg _⟩
  · injection h1 with h1 h2 h3
    subst h1 h3
    have hne : g ≠ g12 := by
      rintro rfl
      unfold Bk at K
      rw [hh] at K
      injection K with K
      injection K with _ K
      exact absurd K (by decide)
    refine ⟨(K.store 0 _).store 1 _, fun _ => ⟨g, 0, rfl, ?_, fun j u hu => ?_⟩, hn, hm, (hb.setCell (p := ⟨g12, 0, none⟩) hg _).setCell (p := ⟨g12, 1, none⟩) hg _⟩
    · simp only [World.setCell, Array.size_modify]
      rcases Nat.lt_or_ge g W.heap.size with hlt | hge
      · exact hlt
      · rw [Array.getElem?_eq_none hge] at hh; cases hh
    · have h4 := hcs g rfl j u hu
      rw [addr_add, Nat.zero_add] at h4
      rw [Nat.zero_add, ← h4]
      exact World.cell?_of_block (by rw [Below.heap_setCell _ _ _ _ (by exact hne), Below.heap_setCell _ _ _ _ (by exact hne)])
theorem rdDrop {w : World} {b off : Nat} {x : Value} {xs : List Value} (h : Rd w (some ⟨b, off, none⟩) (x :: xs)) : Rd w (some ⟨b, off + 1, none⟩) xs := fun _ => by
  obtain ⟨b', off', e, hb, hc⟩ := h (by simp)
  simp only [Option.some.injEq, Addr.mk.injEq, and_true] at e
  obtain ⟨rfl, rfl⟩ := e
  exact ⟨_, _, rfl, hb, fun j u hu => by rw [Nat.add_assoc, Nat.add_comm 1 j]; exact hc (j + 1) u (by simpa using hu)⟩
theorem bkne {w : World} {g g' : Nat} {t t' : TypeId} {cs cs' : List Value} (h : Bk w g t cs) (h' : Bk w g' t' cs') (ht : t ≠ t') : g ≠ g' := by
  rintro rfl
  unfold Bk at h h'
  rw [h] at h'
  injection h' with h'
  injection h' with _ h'
  exact ht h'
set_option linter.unusedSimpArgs false in
set_option maxHeartbeats 2000000 in
set_option maxRecDepth 100000 in
theorem under_bk (z : Int) (l : List Int) (f : Nat) (A : Option Addr) (n c : Nat) (w : World) (hA : Rd w A (csZ l)) (hl : l.length = n) (hn : n ≤ 900000) (h0 : f ≠ 0) :
    Calls Try.prog 33 #[.int .i64 z, fvV A n c f] w fun e w' => ∃ g n1, e = .returned (fvV (some ⟨g, 0, none⟩) n1 n1 f) ∧ n + 1 = n1 ∧ Bk w' g 3 (csZ (z :: l)) ∧ w.heap.size ≤ g ∧ Below w.heap.size w w' := by
  have k0 := (Bk.new w 40 [.slice A n c, .int .i64 (f : Int)]).alloc (.cells #[.slice none 0 0, .int .i64 0] 40)
  have k1 := Bk.new (w.alloc (.cells #[.slice A n c, .int .i64 (f : Int)] 40)) 40 [.slice none 0 0, .int .i64 0]
  have b0 := bel2 w (.cells #[.slice A n c, .int .i64 (f : Int)] 40) (.cells #[.slice none 0 0, .int .i64 0] 40)
  rw [World.size_alloc] at k1
  have hf : ((f : Int) == 0) = false := by simp; omega
  obtain ⟨n1, hn1⟩ : ∃ n1, n + 1 = n1 := ⟨_, rfl⟩
  have hn1i : (1 : Int) + (n : Int) = (n1 : Int) := by omega
  obtain ⟨w2, hw2⟩ : ∃ w2, (w.alloc (.cells #[.slice A n c, .int .i64 (f : Int)] 40)).alloc (.cells #[.slice none 0 0, .int .i64 0] 40) = w2 := ⟨_, rfl⟩
  rw [hw2] at k0 k1 b0
  have hz2 : w2.heap.size = w.heap.size + 1 + 1 := by rw [← hw2]; simp
  have hmk := makeI n1 (by omega) w2
  obtain ⟨w3, hw3⟩ : ∃ w3, w2.alloc (.cells (zs n1).toArray 3) = w3 := ⟨_, rfl⟩
  obtain ⟨g, hg⟩ : ∃ g, w2.heap.size = g := ⟨_, rfl⟩
  have k3 : Bk w3 g 3 (zs n1) := by rw [← hw3, ← hg]; exact Bk.new w2 _ _
  have b3 : Below w2.heap.size w2 w3 := by rw [← hw3]; exact bel1 _ _
  rw [hw3, hg] at hmk
  obtain ⟨w4, hw4⟩ : ∃ w4, w3.setCell ⟨g, 0, none⟩ (.int .i64 z) = w4 := ⟨_, rfl⟩
  have k4 : Bk w4 g 3 (csZ [z] ++ zs n) := by rw [← hw4]; have := k3.store 0 (.int .i64 z); rw [← hn1] at this; exact this
  have hG : w.heap.size < w.heap.size + 1 := by omega
  have q0 : Bk w4 w.heap.size 40 [.slice A n c, .int .i64 (f : Int)] := by rw [← hw4]; exact (k0.below b3 k0.lt).far (p := ⟨g, 0, none⟩) (by show w.heap.size ≠ g; omega) _
  have q1 : Bk w4 (w.heap.size + 1) 40 [.slice none 0 0, .int .i64 0] := by rw [← hw4]; exact (k1.below b3 k1.lt).far (p := ⟨g, 0, none⟩) (by show w.heap.size + 1 ≠ g; omega) _
  have b4 : Below w.heap.size w w4 := by rw [← hw4]; exact (b0.trans (b3.mono b0.size)).setCell (p := ⟨g, 0, none⟩) (by show w.heap.size ≤ g; omega) _
  have k4d : Bk w4.drew g 3 (csZ [z] ++ zs n) := k4
  obtain ⟨o, ho, hsl⟩ := slI g n n1 hn1
  obtain ⟨w5, hrun, k5, g5⟩ := copyI (c := c) k4d (hA.below (show Below w.heap.size w w4.drew from b4.drew)) hl ho
  have KG := Lib.hid k5
  have g5' : w4.grownBy w5 (some g) := ⟨g5.os, g5.tape, g5.output, g5.size, g5.block⟩
  have Q0 := Lib.hid (q0.only g5' (by simp; omega))
  have Q1 := Lib.hid (q1.only g5' (by simp; omega))
  have B5 := Lib.hid (b4.trans (only_below g5' (by omega) b4.size))
  have HW2 := Lib.hid hw2
  have HW4 := Lib.hid hw4
  have HL := Lib.hid hl
  have HN1 := Lib.hid hn1
  have HGZ : Hid (w.heap.size + 1 < g) := Lib.hid (by omega)
  have d0 : w3.cell? ⟨g, 0, none⟩ = some (.int .i64 0) := by have := k3.cell 0; rw [← hn1] at this; exact this
  have d1 := k3.free 0
  have c0 : w2.cell? ⟨w.heap.size, 0, none⟩ = some (.slice A n c) := k0.cell 0
  have cf : w2.cell? ⟨w.heap.size, 1, none⟩ = some (.int .i64 (f : Int)) := k0.cell 1
  have c4 : w4.drew.cell? ⟨w.heap.size, 0, none⟩ = some (.slice A n c) := q0.cell 0
  have c5 : w5.cell? ⟨w.heap.size, 1, none⟩ = some (.int .i64 (f : Int)) := Q0.out.cell 1
  have HP1 := Lib.hid (show 0 < n1 from by omega)
  have hp1 : (0 : Int) < (n1 : Int) := by omega
  have hp2 : n1 ≤ 1000000 := by omega
  clear k0 k1 b0 hw2 hz2 hw3 hg k3 b3 hw4 k4 hG q0 q1 b4 k5 g5 g5' k4d ho hA hl hn hn1 h0
  go_enter Try.func33, Try.ntmps33
  go_upto_region 1 with fail
  rw [HW2.out]
  go_upto_region 5 with fail
  rw [HW4.out]
  refine wp_region_held_drew (S := fun W => W.cell? ⟨w.heap.size, 0, none⟩ = some (.slice A n c)) (by kernel_rfl) c4 (fun hS => ?_)
  refine wpAnyH_take (i := 0) (oi := ⟨some 18, _, _, _, _, _⟩) (v := .slice (some ⟨g, 0, none⟩) n1 n1) rfl (by kernel_rfl) (by kernel_rfl) (by kernel_rfl) (fun _ _ _ h => h) (Or.inl ⟨by rfl, fun w hSw => by (try dsimp only at hSw); go_simp⟩) hS ?_
  simp only [Act.put, List.setIfInBounds_toArray, List.set_cons_zero, List.set_cons_succ]
  refine wpAnyH_take (i := 1) (oi := ⟨some 19, _, _, _, _, _⟩) (v := .slice (some ⟨g, o, none⟩) n n) rfl (by kernel_rfl) (by kernel_rfl) (by kernel_rfl) (fun _ _ _ h => h) (Or.inl ⟨by rfl, fun w hSw => by (try dsimp only at hSw); go_simp⟩) hS ?_
  simp only [Act.put, List.setIfInBounds_toArray, List.set_cons_zero, List.set_cons_succ]
  refine wpAnyH_take (i := 2) (oi := ⟨some 20, _, _, _, _, _⟩) (v := .pointer (some ⟨w.heap.size, 0, none⟩)) rfl (by kernel_rfl) (by kernel_rfl) (by kernel_rfl) (fun _ _ _ h => h) (Or.inl ⟨by rfl, fun w hSw => by (try dsimp only at hSw); go_simp⟩) hS ?_
  simp only [Act.put, List.setIfInBounds_toArray, List.set_cons_zero, List.set_cons_succ]
  refine wpAnyH_take (i := 3) (oi := ⟨some 21, _, _, _, _, _⟩) (v := .slice A n c) rfl (by kernel_rfl) (by kernel_rfl) (by kernel_rfl) (fun _ _ _ h => h) (Or.inl ⟨by rfl, fun w hSw => by (try dsimp only at hSw); go_simp⟩) hS ?_
  simp only [Act.put, List.setIfInBounds_toArray, List.set_cons_zero, List.set_cons_succ]
  refine wpAnyH_ready (rs := [4]) (by kernel_rfl) (by simp) ?_
  refine AllReadyH.cons (o := _) rfl (fun K hK => ?_) (AllReadyH.nil)
  refine step_copy rfl (.tmp 19) (.tmp 21) _ _ rfl _ _ rfl rfl hrun ?_
  refine hK.out _ _ (Q0.out.cell 0) (fun hS => ?_)
  clear hK K
  (try simp only [Act.put, List.setIfInBounds_toArray, List.set_cons_zero, List.set_cons_succ])
  refine wpAnyH_done (by kernel_rfl) ?_ _
  clear hS hrun c4 hmk c0 d0 d1 hsl
  go_wp2_with fail
  refine (fault_any f (some ⟨g, 0, none⟩) n1 n1 _).mono ?_
  rintro e w6 ⟨rfl, hb6⟩
  have K6 := kt Q1 (Lib.hid hb6)
  have B6 := bt B5 (Lib.hid hb6)
  have KG6 := kt KG (Lib.hid hb6)
  have HDG : Hid (w.heap.size + 1 ≠ g) := Lib.hid (by have := HGZ.out; omega)
  clear hb6 c5
  go_wp2_with (refine storeF rfl _ _ rfl rfl rfl K6.out rfl rfl ?_; intro w7 h7 h8)
  exact retF rfl rfl h7.out rfl ⟨g, n1, rfl, HN1.out, KG6.out.only h8.out (fun e => by injection e with e; exact HDG.out e.symm), by have := HGZ.out; omega, B6.out.trans (only_below h8.out (by omega) B6.out.size)⟩

def Lives : Prop := ∀ W : World, Calls Try.prog 19 #[] W fun e w' => e = .returned (.bool true) ∧ Below W.heap.size W w'
theorem btU {a b c : World} (h1 : Below a.heap.size a b) (h2 : Below b.heap.size b c) : Below a.heap.size a c := h1.trans (h2.mono h1.size)
theorem gfU {w : World} {P : List Int} {f : Nat} {e : Ending} {w' : World} (h : GiveF true w P f e w') (N : Nat) (hN : P.length = N) : ∃ A, e = .returned (fvV A N N f) ∧ RdX (fun i => w.heap.size ≤ i) w' A (csZ P) ∧ Below w.heap.size w w' := by
  obtain ⟨A, n, c, rfl, hl, _, _, hx, hr, hb⟩ := h
  obtain rfl : c = n := hx rfl
  rw [hN] at hl
  subst hl
  exact ⟨A, rfl, hr, hb⟩
set_option linter.unusedSimpArgs false in
set_option maxHeartbeats 4000000 in
set_option maxRecDepth 100000 in
theorem under_long (HL : Lives) (A : Option Addr) (N c n : Nat) (z0 z1 : Int) (w : World) (hN : 20 < N) :
    Calls Try.prog 8 #[.slice A N c, .int .u8 (n : Int), .agg #[.int .i64 z0, .int .i64 z1]] w fun e w' => e = .returned (.bool true) ∧ Below w.heap.size w w' := by
  have B0 := Lib.hid (bel1 w (.cells #[.int .i64 z0, .int .i64 z1] 51))
  have HLV := Lib.hid HL
  have t1 : decide ((N : Int) > 20) = true := by simp; omega
  go_enter Try.func8, Try.ntmps8
  go_wp2_with fail
  refine (HLV.out _).mono ?_
  rintro e w1 ⟨rfl, hb1⟩
  have B1 := bt B0 (Lib.hid hb1)
  clear hb1
  go_wp2_with fail
  go_ret
  exact ⟨rfl, B1.out⟩
set_option linter.unusedSimpArgs false in
set_option maxHeartbeats 4000000 in
set_option maxRecDepth 100000 in
theorem under_law (HL : Lives) (l : List Int) (A : Option Addr) (N c n : Nat) (z0 z1 : Int) (w : World) (hA : Rd w A (csZ l)) (hN : l.length = N) (_hn : n < 256) (hl : ∀ z ∈ l, -9223372036854775808 ≤ z ∧ z < 9223372036854775808) (hz0 : -9223372036854775808 ≤ z0 ∧ z0 < 9223372036854775808) :
    Calls Try.prog 8 #[.slice A N c, .int .u8 (n : Int), .agg #[.int .i64 z0, .int .i64 z1]] w fun e w' => e = .returned (.bool true) ∧ Below w.heap.size w w' := by
  by_cases hN2 : 20 < N
  · exact under_long HL A N c n z0 z1 w hN2
  have HLV := Lib.hid HL
  have hN3 : N ≤ 20 := by omega
  have t1 : decide ((N : Int) > 20) = false := by simp; omega
  obtain ⟨f, hf⟩ : ∃ f, n % 26 = f := ⟨_, rfl⟩
  have hm : (n : Int).tmod 26 = (f : Int) := by rw [← hf]; exact (Int.ofNat_tmod n 26).symm
  have hm2 : (n : Int) % 26 = (f : Int) := by omega
  have hf26 : f < 26 := by omega
  -- the box of the two numbers; the copy of the path
  obtain ⟨w1, hw1⟩ : ∃ v, w.alloc (.cells #[.int .i64 z0, .int .i64 z1] 51) = v := ⟨_, rfl⟩
  obtain ⟨g5, hg5⟩ : ∃ g, w.heap.size = g := ⟨_, rfl⟩
  have hb1 : Below w.heap.size w w1 := by rw [← hw1]; exact bel1 _ _
  have k1 : Bk w1 g5 51 [.int .i64 z0, .int .i64 z1] := by rw [← hw1, ← hg5]; exact Bk.new w _ [_, _]
  obtain ⟨v', w2, hrun, hown, hb2⟩ := app_src (P := Try.prog) (t := 37) (ty := 37) Try.underlying37 infoI rfl (World.ownsRow_nil w1 w1.heap.size 3 1) (c := c) (hA.below hb1) (csZ_ones l) (Nat.le_refl _) (by rw [csZ_len, hN]; simp; omega) (by rw [csZ_len, hN]; unfold maxLen; simp; omega)
  obtain ⟨A1, c1, rfl, hr1, hc1, hcm1⟩ := own_openX hown
  rw [List.nil_append, csZ_len, hN] at hrun hc1
  rw [List.nil_append] at hr1
  have KZ := kt (Lib.hid k1) (Lib.hid hb2)
  have B2 := bt (Lib.hid hb1) (Lib.hid hb2)
  have RA := Lib.hid (hA.below B2.out)
  have R1 := Lib.hid hr1
  have HW1 := Lib.hid hw1
  have HG5 := Lib.hid hg5
  have HN := Lib.hid hN
  have HLL := Lib.hid hl
  have HZ0 := Lib.hid hz0
  have HC1 := Lib.hid (And.intro hc1 hcm1)
  have HZL : Hid (g5 < w1.heap.size) := Lib.hid k1.lt
  clear hw1 hg5 hb1 k1 hown hb2 hr1 hA hN hf hN2 hc1 hcm1 hl hz0
  go_enter Try.func8, Try.ntmps8
  go_upto_region 3 with fail
  rw [HW1.out, HG5.out]
  go_upto_region 4 with (refine wpList_app (o := ⟨some 18, _, _, _, _, _⟩) rfl _ (.tmp 17) _ _ rfl (.slice none 0 0) (.slice A N c) rfl rfl hrun ?_)
  clear hrun t1
  obtain ⟨g7, hg7⟩ : ∃ g, w2.heap.size = g := ⟨_, rfl⟩
  obtain ⟨w3, hw3⟩ : ∃ v, w2.alloc (.cells #[.slice A1 N c1, .int .i64 (f : Int)] 40) = v := ⟨_, rfl⟩
  have hb := Lib.hid (show Below w2.heap.size w2 w3 by rw [← hw3]; exact bel1 _ _)
  have K7 := Lib.hid (show Bk w3 g7 40 [.slice A1 N c1, .int .i64 (f : Int)] by rw [← hw3, ← hg7]; exact Bk.new w2 _ [_, _])
  rw [hw3, hg7]
  have KZ3 := kt KZ hb
  have B3 := bt B2 hb
  have RA3 := Lib.hid (RA.out.below hb.out)
  have R13 := Lib.hid (RdX.belowX R1.out hb.out)
  clear hb hw3 hg7 KZ B2 RA R1
  have hw1 : IntKind.i64.wrap 1 = 1 := by rw [IntKind.wrap_i64]; omega
  have q0 : w3.cell? ⟨g7, 0, none⟩ = some (.slice A1 N c1) := K7.out.cell 0
  have q1 : w3.cell? ⟨g7, 1, none⟩ = some (.int .i64 (f : Int)) := K7.out.cell 1
  have y0 : w3.cell? ⟨g5, 0, none⟩ = some (.int .i64 z0) := KZ3.out.cell 0
  have y1 : w3.cell? ⟨g5, 1, none⟩ = some (.int .i64 z1) := KZ3.out.cell 1
  by_cases h0 : f = 0
  · subst h0
    go_wp2_with fail
    refine (under_any z0 l 0 A1 N c1 w3 R13.out.rd HN.out (by omega) [] 0 rfl).mono ?_
    rintro e w4 h4
    obtain ⟨A2, rfl, -, hb4⟩ := gfU h4 0 rfl
    have KZ3_ := kt KZ3 (Lib.hid hb4)
    clear KZ3
    have KZ3 := KZ3_
    clear KZ3_
    have K7_ := kt K7 (Lib.hid hb4)
    clear K7
    have K7 := K7_
    clear K7_
    have B3_ := bt B3 (Lib.hid hb4)
    clear B3
    have B3 := B3_
    clear B3_
    have RA3_ := Lib.hid (RA3.out.below hb4)
    clear RA3
    have RA3 := RA3_
    clear RA3_
    have R13_ := Lib.hid (RdX.belowX R13.out hb4)
    clear R13
    have R13 := R13_
    clear R13_
    clear hb4 h4 q0 q1 y0 y1
    go_upto_region 5 with fail
    obtain ⟨g8, hg8⟩ : ∃ g, w4.heap.size = g := ⟨_, rfl⟩
    obtain ⟨w5, hw⟩ : ∃ v, w4.alloc (.cells #[.slice A2 0 0, .int .i64 0] 40) = v := ⟨_, rfl⟩
    have hb : Below w4.heap.size w4 w5 := by rw [← hw]; exact bel1 _ _
    have K8 := Lib.hid (show Bk w5 g8 40 [.slice A2 0 0, .int .i64 0] by rw [← hw, ← hg8]; exact Bk.new w4 _ [_, _])
    have HLg8 := Lib.hid hg8
    rw [hw, hg8]
    have KZ3_ := kt KZ3 (Lib.hid hb)
    clear KZ3
    have KZ3 := KZ3_
    clear KZ3_
    have K7_ := kt K7 (Lib.hid hb)
    clear K7
    have K7 := K7_
    clear K7_
    have B3_ := bt B3 (Lib.hid hb)
    clear B3
    have B3 := B3_
    clear B3_
    have RA3_ := Lib.hid (RA3.out.below hb)
    clear RA3
    have RA3 := RA3_
    clear RA3_
    have R13_ := Lib.hid (RdX.belowX R13.out hb)
    clear R13
    have R13 := R13_
    clear R13_
    have HB5 := Lib.hid hb
    clear hb hw hg8
    have y1 : w5.cell? ⟨g5, 1, none⟩ = some (.int .i64 z1) := KZ3.out.cell 1
    have q0 : w5.cell? ⟨g8, 0, none⟩ = some (.slice A2 0 0) := K8.out.cell 0
    have q1 : w5.cell? ⟨g8, 1, none⟩ = some (.int .i64 0) := K8.out.cell 1
    go_wp2_with fail
    refine (under_any z1 [] 0 A2 0 0 w5 Rd.nil rfl (by omega) [] 0 rfl).mono ?_
    rintro e w6 h6
    obtain ⟨A3, rfl, -, hb6⟩ := gfU h6 0 rfl
    have KZ3_ := kt KZ3 (Lib.hid hb6)
    clear KZ3
    have KZ3 := KZ3_
    clear KZ3_
    have K7_ := kt K7 (Lib.hid hb6)
    clear K7
    have K7 := K7_
    clear K7_
    have K8_ := kt K8 (Lib.hid hb6)
    clear K8
    have K8 := K8_
    clear K8_
    have B3_ := bt B3 (Lib.hid hb6)
    clear B3
    have B3 := B3_
    clear B3_
    have RA3_ := Lib.hid (RA3.out.below hb6)
    clear RA3
    have RA3 := RA3_
    clear RA3_
    have R13_ := Lib.hid (RdX.belowX R13.out hb6)
    clear R13
    have R13 := R13_
    clear R13_
    clear hb6 h6 q0 q1 y1
    go_upto_region 6 with fail
    obtain ⟨g9, hg9⟩ : ∃ g, w6.heap.size = g := ⟨_, rfl⟩
    obtain ⟨w7, hw⟩ : ∃ v, w6.alloc (.cells #[.slice A3 0 0, .int .i64 0] 40) = v := ⟨_, rfl⟩
    have hb : Below w6.heap.size w6 w7 := by rw [← hw]; exact bel1 _ _
    have K9 := Lib.hid (show Bk w7 g9 40 [.slice A3 0 0, .int .i64 0] by rw [← hw, ← hg9]; exact Bk.new w6 _ [_, _])
    have HLg9 := Lib.hid hg9
    rw [hw, hg9]
    have KZ3_ := kt KZ3 (Lib.hid hb)
    clear KZ3
    have KZ3 := KZ3_
    clear KZ3_
    have K7_ := kt K7 (Lib.hid hb)
    clear K7
    have K7 := K7_
    clear K7_
    have K8_ := kt K8 (Lib.hid hb)
    clear K8
    have K8 := K8_
    clear K8_
    have B3_ := bt B3 (Lib.hid hb)
    clear B3
    have B3 := B3_
    clear B3_
    have RA3_ := Lib.hid (RA3.out.below hb)
    clear RA3
    have RA3 := RA3_
    clear RA3_
    have R13_ := Lib.hid (RdX.belowX R13.out hb)
    clear R13
    have R13 := R13_
    clear R13_
    have HB5 := Lib.hid hb
    clear hb hw hg9
    have q1 : w7.cell? ⟨g7, 1, none⟩ = some (.int .i64 0) := K7.out.cell 1
    go_upto_region 7 with fail
    clear q1
    have hb7 : Below w7.heap.size w7 w7.drew := (Below.refl w7.heap.size w7).drew
    have HSR := Lib.hid (show ∀ W, Below w7.heap.size w7 W → W.cell? ⟨g7, 0, none⟩ = some (.slice A1 N c1) ∧ W.cell? ⟨g7, 1, none⟩ = some (.int .i64 0) ∧ Below w7.heap.size w7 W from fun W hW => ⟨(hW.cell (p := ⟨g7, 0, none⟩) K7.out.lt).trans (K7.out.cell 0), (hW.cell (p := ⟨g7, 1, none⟩) K7.out.lt).trans (K7.out.cell 1), hW⟩)
    go_region_held3 (fun W => W.cell? ⟨g7, 0, none⟩ = some (.slice A1 N c1) ∧ W.cell? ⟨g7, 1, none⟩ = some (.int .i64 0) ∧ Below w7.heap.size w7 W)
      (first | exact HSR.out _ d2 | exact HSR.out _ d1 | exact HSR.out _ hb7)
      (first | (have dz := d1; go_at_call 30; refine (report_any knE _ l A1 N c1 0 _ hE1 (by decide +kernel) (OKe.of (by decide +kernel)).con (R13.out.rd.below d1) HN.out (by omega) 0 0 rfl).mono ?_; rintro e v2 ⟨rfl, hv2⟩; have d2 : Below w7.heap.size w7 v2 := btU d1 hv2; clear dz) | (go_at_call 34; refine (known_any _).mono ?_; rintro e v1 ⟨B9, rfl, hE1, hv1⟩; have d1 : Below w7.heap.size w7 v1 := btU hb7 hv1))
    have K82 := kt K8 (Lib.hid d2)
    have K92 := kt K9 (Lib.hid d2)
    have B92 := bt B3 (Lib.hid d2)
    clear hE1 hv1 hv2 d1 d2 HSR hb7
    go_upto_region 8 with fail
    have hbd : Below v2.heap.size v2 v2.drew := (Below.refl v2.heap.size v2).drew
    have HSR := Lib.hid (show ∀ W, Below v2.heap.size v2 W → W.cell? ⟨g8, 0, none⟩ = some (.slice A2 0 0) ∧ W.cell? ⟨g8, 1, none⟩ = some (.int .i64 0) ∧ W.cell? ⟨g9, 0, none⟩ = some (.slice A3 0 0) ∧ W.cell? ⟨g9, 1, none⟩ = some (.int .i64 0) ∧ Below v2.heap.size v2 W from fun W hW => ⟨(hW.cell (p := ⟨g8, 0, none⟩) K82.out.lt).trans (K82.out.cell 0), (hW.cell (p := ⟨g8, 1, none⟩) K82.out.lt).trans (K82.out.cell 1), (hW.cell (p := ⟨g9, 0, none⟩) K92.out.lt).trans (K92.out.cell 0), (hW.cell (p := ⟨g9, 1, none⟩) K92.out.lt).trans (K92.out.cell 1), hW⟩)
    go_region_held3 (fun W => W.cell? ⟨g8, 0, none⟩ = some (.slice A2 0 0) ∧ W.cell? ⟨g8, 1, none⟩ = some (.int .i64 0) ∧ W.cell? ⟨g9, 0, none⟩ = some (.slice A3 0 0) ∧ W.cell? ⟨g9, 1, none⟩ = some (.int .i64 0) ∧ Below v2.heap.size v2 W)
      (first | exact HSR.out _ d3 | exact HSR.out _ d2 | exact HSR.out _ d1 | exact HSR.out _ hbd)
      (first | (go_at_call 19; refine (HLV.out _).mono ?_; rintro e v5 ⟨rfl, hv5⟩; have d3 : Below v2.heap.size v2 v5 := btU d2 hv5) | (have dz := d1; go_at_call 17; refine (lfault_eq [] 0 A3 none 0 0 _ Rd.nil Rd.nil rfl (by unfold maxLen; omega)).mono ?_; rintro e v4 ⟨rfl, hv4⟩; have d2 : Below v2.heap.size v2 v4 := btU d1 hv4; clear dz) | (go_at_call 17; refine (lfault_eq [] 0 A2 none 0 0 _ Rd.nil Rd.nil rfl (by unfold maxLen; omega)).mono ?_; rintro e v3 ⟨rfl, hv3⟩; have d1 : Below v2.heap.size v2 v3 := btU hbd hv3))
    have B93 := bt B92 (Lib.hid d3)
    clear d1 d2 d3 hv3 hv4 hv5 HSR hbd
    go_wp2_with fail
    go_ret
    exact ⟨rfl, B93.out⟩
  · have hfb : ((f : Int) == 0) = false := by simp; omega
    go_wp2_with fail
    have RA0 := RA3
    have HWS := Lib.hid B3.out.size
    have R10 := Lib.hid R13.out.rd
    refine (under_bk z0 l f A1 N c1 w3 R13.out.rd HN.out (by omega) h0).mono ?_
    rintro e w4 ⟨gA, N1, rfl, hN1, hkA, hgA, hb4⟩
    have HN1 := Lib.hid hN1
    have KA := Lib.hid hkA
    have HGA := Lib.hid hgA
    have HGA2 := Lib.hid hkA.lt
    obtain ⟨A2, hA2⟩ : ∃ A2, (some ⟨gA, 0, none⟩ : Option Addr) = A2 := ⟨_, rfl⟩
    have HA2 := Lib.hid hA2
    have hr4 : RdX (fun i => w3.heap.size ≤ i) w4 A2 (csZ (z0 :: l)) := by rw [← hA2]; exact fun _ => ⟨gA, 0, rfl, hkA.lt, hgA, fun j u hu => by rw [Nat.zero_add, hkA.cell]; exact hu⟩
    have B34 := Lib.hid hb4
    rw [hA2]
    have KZ3_ := kt KZ3 (Lib.hid hb4)
    clear KZ3
    have KZ3 := KZ3_
    clear KZ3_
    have K7_ := kt K7 (Lib.hid hb4)
    clear K7
    have K7 := K7_
    clear K7_
    have B3_ := bt B3 (Lib.hid hb4)
    clear B3
    have B3 := B3_
    clear B3_
    have RA3_ := Lib.hid (RA3.out.below hb4)
    clear RA3
    have RA3 := RA3_
    clear RA3_
    have R13_ := Lib.hid (RdX.belowX R13.out hb4)
    clear R13
    have R13 := R13_
    clear R13_
    have R2 := Lib.hid hr4
    clear hb4 q0 q1 y0 y1 hr4 hN1 hkA hgA hA2
    go_upto_region 5 with fail
    obtain ⟨g8, hg8⟩ : ∃ g, w4.heap.size = g := ⟨_, rfl⟩
    obtain ⟨w5, hw⟩ : ∃ v, w4.alloc (.cells #[.slice A2 N1 N1, .int .i64 (f : Int)] 40) = v := ⟨_, rfl⟩
    have hb : Below w4.heap.size w4 w5 := by rw [← hw]; exact bel1 _ _
    have K8 := Lib.hid (show Bk w5 g8 40 [.slice A2 N1 N1, .int .i64 (f : Int)] by rw [← hw, ← hg8]; exact Bk.new w4 _ [_, _])
    have HLg8 := Lib.hid hg8
    rw [hw, hg8]
    have KZ3_ := kt KZ3 (Lib.hid hb)
    clear KZ3
    have KZ3 := KZ3_
    clear KZ3_
    have K7_ := kt K7 (Lib.hid hb)
    clear K7
    have K7 := K7_
    clear K7_
    have B3_ := bt B3 (Lib.hid hb)
    clear B3
    have B3 := B3_
    clear B3_
    have RA3_ := Lib.hid (RA3.out.below hb)
    clear RA3
    have RA3 := RA3_
    clear RA3_
    have R13_ := Lib.hid (RdX.belowX R13.out hb)
    clear R13
    have R13 := R13_
    clear R13_
    have HB5 := Lib.hid hb
    clear hb hw hg8
    have R25 := Lib.hid (RdX.belowX R2.out (show Below w4.heap.size w4 w5 from HB5.out))
    have KA5 := kt KA HB5
    have B35 := bt B34 HB5
    have HGA5 : Hid (gA < w5.heap.size) := Lib.hid KA5.out.lt
    clear KA B34 HGA2
    have y1 : w5.cell? ⟨g5, 1, none⟩ = some (.int .i64 z1) := KZ3.out.cell 1
    have q0 : w5.cell? ⟨g8, 0, none⟩ = some (.slice A2 N1 N1) := K8.out.cell 0
    have q1 : w5.cell? ⟨g8, 1, none⟩ = some (.int .i64 (f : Int)) := K8.out.cell 1
    go_wp2_with fail
    refine (under_any z1 (z0 :: l) f A2 N1 N1 w5 R25.out.rd (by rw [List.length_cons, HN.out, HN1.out]) (by have := HN1.out; omega) (z1 :: z0 :: l) f (by rw [if_neg h0])).mono ?_
    rintro e w6 h6
    obtain ⟨A3, rfl, hr6, hb6⟩ := gfU h6 (N1 + 1) (by rw [List.length_cons, List.length_cons, HN.out, HN1.out])
    obtain ⟨N2, hN2⟩ : ∃ N2, N1 + 1 = N2 := ⟨_, rfl⟩
    have HN2 := Lib.hid hN2
    rw [hN2]
    have R26 := Lib.hid (RdX.belowX R25.out hb6)
    have R3 := Lib.hid hr6
    have KA6 := kt KA5 (Lib.hid hb6)
    have B36 := bt B35 (Lib.hid hb6)
    clear KA5 B35
    have KZ3_ := kt KZ3 (Lib.hid hb6)
    clear KZ3
    have KZ3 := KZ3_
    clear KZ3_
    have K7_ := kt K7 (Lib.hid hb6)
    clear K7
    have K7 := K7_
    clear K7_
    have K8_ := kt K8 (Lib.hid hb6)
    clear K8
    have K8 := K8_
    clear K8_
    have B3_ := bt B3 (Lib.hid hb6)
    clear B3
    have B3 := B3_
    clear B3_
    have RA3_ := Lib.hid (RA3.out.below hb6)
    clear RA3
    have RA3 := RA3_
    clear RA3_
    have R13_ := Lib.hid (RdX.belowX R13.out hb6)
    clear R13
    have R13 := R13_
    clear R13_
    clear hb6 h6 q0 q1 y1 R2 R25 hr6 hN2 HB5
    go_upto_region 6 with fail
    obtain ⟨g9, hg9⟩ : ∃ g, w6.heap.size = g := ⟨_, rfl⟩
    obtain ⟨w7, hw⟩ : ∃ v, w6.alloc (.cells #[.slice A3 N2 N2, .int .i64 (f : Int)] 40) = v := ⟨_, rfl⟩
    have hb : Below w6.heap.size w6 w7 := by rw [← hw]; exact bel1 _ _
    have K9 := Lib.hid (show Bk w7 g9 40 [.slice A3 N2 N2, .int .i64 (f : Int)] by rw [← hw, ← hg9]; exact Bk.new w6 _ [_, _])
    have HLg9 := Lib.hid hg9
    rw [hw, hg9]
    have KZ3_ := kt KZ3 (Lib.hid hb)
    clear KZ3
    have KZ3 := KZ3_
    clear KZ3_
    have K7_ := kt K7 (Lib.hid hb)
    clear K7
    have K7 := K7_
    clear K7_
    have K8_ := kt K8 (Lib.hid hb)
    clear K8
    have K8 := K8_
    clear K8_
    have B3_ := bt B3 (Lib.hid hb)
    clear B3
    have B3 := B3_
    clear B3_
    have RA3_ := Lib.hid (RA3.out.below hb)
    clear RA3
    have RA3 := RA3_
    clear RA3_
    have R13_ := Lib.hid (RdX.belowX R13.out hb)
    clear R13
    have R13 := R13_
    clear R13_
    have HB5 := Lib.hid hb
    clear hb hw hg9
    have R2 := Lib.hid (RdX.belowX R26.out HB5.out)
    have R37 := Lib.hid (RdX.belowX R3.out HB5.out)
    have KA7 := kt KA6 HB5
    have B37 := bt B36 HB5
    clear KA6 B36
    clear R26 R3 HB5
    have q1 : w7.cell? ⟨g7, 1, none⟩ = some (.int .i64 (f : Int)) := K7.out.cell 1
    go_upto_region 9 with fail
    clear q1
    have HSR := Lib.hid (show ∀ W, Below w7.heap.size w7 W → W.cell? ⟨g5, 0, none⟩ = some (.int .i64 z0) ∧ W.cell? ⟨g5, 1, none⟩ = some (.int .i64 z1) ∧ W.cell? ⟨g7, 1, none⟩ = some (.int .i64 (f : Int)) ∧ Below w7.heap.size w7 W from fun W hW => ⟨(hW.cell (p := ⟨g5, 0, none⟩) KZ3.out.lt).trans (KZ3.out.cell 0), (hW.cell (p := ⟨g5, 1, none⟩) KZ3.out.lt).trans (KZ3.out.cell 1), (hW.cell (p := ⟨g7, 1, none⟩) K7.out.lt).trans (K7.out.cell 1), hW⟩)
    have HL3 : Hid ((z1 :: z0 :: l).length = N + 2) := Lib.hid (by rw [List.length_cons, List.length_cons, HN.out])
    have HNN : Hid (N + 2 = N2) := Lib.hid (by have := HN1.out; have := HN2.out; omega)
    go_cut [12] (fun q wx => ∃ g12 A4 c4, q = .pointer (some ⟨g12, 0, none⟩) ∧ Bk wx g12 40 [.slice A4 (N + 2) c4, .int .i64 (f : Int)] ∧ Rd wx A4 (csZ (z1 :: z0 :: l)) ∧ N + 2 ≤ c4 ∧ c4 ≤ maxLen ∧ Below w7.heap.size w7 wx)
    case first =>
      refine wp_region_held_drew (S := fun W => W.cell? ⟨g5, 0, none⟩ = some (.int .i64 z0) ∧ W.cell? ⟨g5, 1, none⟩ = some (.int .i64 z1) ∧ W.cell? ⟨g7, 1, none⟩ = some (.int .i64 (f : Int)) ∧ Below w7.heap.size w7 W) (by kernel_rfl) (HSR.out _ (Below.refl w7.heap.size w7).drew) (fun hS => ?_)
      obtain ⟨wd, hwd⟩ : ∃ v, w7.drew = v := ⟨_, rfl⟩
      have d0 : Below w7.heap.size w7 wd := by rw [← hwd]; exact (Below.refl w7.heap.size w7).drew
      rw [hwd] at hS ⊢
      clear hwd
      refine wpAnyH_take (i := 0) (oi := ⟨some 59, _, _, _, _, _⟩) (v := .pointer (some ⟨g5, 1, none⟩)) rfl (by kernel_rfl) (by kernel_rfl) (by kernel_rfl) (fun _ _ _ h => h) (Or.inl ⟨by rfl, fun w hSw => by (try obtain ⟨s1, s2, s3, s4⟩ := hSw); go_simp⟩) hS ?_
      (try simp only [Act.put, List.setIfInBounds_toArray, List.set_cons_zero, List.set_cons_succ])
      refine wpAnyH_take (i := 1) (oi := ⟨some 60, _, _, _, _, _⟩) (v := .int .i64 z1) rfl (by kernel_rfl) (by kernel_rfl) (by kernel_rfl) (fun _ _ _ h => h) (Or.inl ⟨by rfl, fun w hSw => by (try obtain ⟨s1, s2, s3, s4⟩ := hSw); go_simp⟩) hS ?_
      (try simp only [Act.put, List.setIfInBounds_toArray, List.set_cons_zero, List.set_cons_succ])
      refine wpAnyH_take (i := 2) (oi := ⟨some 61, _, _, _, _, _⟩) (v := .pointer (some ⟨g5, 0, none⟩)) rfl (by kernel_rfl) (by kernel_rfl) (by kernel_rfl) (fun _ _ _ h => h) (Or.inl ⟨by rfl, fun w hSw => by (try obtain ⟨s1, s2, s3, s4⟩ := hSw); go_simp⟩) hS ?_
      (try simp only [Act.put, List.setIfInBounds_toArray, List.set_cons_zero, List.set_cons_succ])
      refine wpAnyH_take (i := 3) (oi := ⟨some 62, _, _, _, _, _⟩) (v := .int .i64 z0) rfl (by kernel_rfl) (by kernel_rfl) (by kernel_rfl) (fun _ _ _ h => h) (Or.inl ⟨by rfl, fun w hSw => by (try obtain ⟨s1, s2, s3, s4⟩ := hSw); go_simp⟩) hS ?_
      (try simp only [Act.put, List.setIfInBounds_toArray, List.set_cons_zero, List.set_cons_succ])
      refine wpAnyH_take (i := 5) (oi := ⟨some 64, _, _, _, _, _⟩) (v := .slice A N c) rfl (by kernel_rfl) (by kernel_rfl) (by kernel_rfl) (fun _ _ _ h => h) (Or.inl ⟨by rfl, fun w hSw => by (try obtain ⟨s1, s2, s3, s4⟩ := hSw); go_simp⟩) hS ?_
      (try simp only [Act.put, List.setIfInBounds_toArray, List.set_cons_zero, List.set_cons_succ])
      refine wpAnyH_take (i := 7) (oi := ⟨some 66, _, _, _, _, _⟩) (v := .pointer (some ⟨g7, 1, none⟩)) rfl (by kernel_rfl) (by kernel_rfl) (by kernel_rfl) (fun _ _ _ h => h) (Or.inl ⟨by rfl, fun w hSw => by (try obtain ⟨s1, s2, s3, s4⟩ := hSw); go_simp⟩) hS ?_
      (try simp only [Act.put, List.setIfInBounds_toArray, List.set_cons_zero, List.set_cons_succ])
      refine wpAnyH_take (i := 8) (oi := ⟨some 67, _, _, _, _, _⟩) (v := .int .i64 (f : Int)) rfl (by kernel_rfl) (by kernel_rfl) (by kernel_rfl) (fun _ _ _ h => h) (Or.inl ⟨by rfl, fun w hSw => by (try obtain ⟨s1, s2, s3, s4⟩ := hSw); go_simp⟩) hS ?_
      (try simp only [Act.put, List.setIfInBounds_toArray, List.set_cons_zero, List.set_cons_succ])
      refine wpAnyH_ready (rs := [4, 10]) (by kernel_rfl) (by simp) ?_
      refine AllReadyH.cons (o := _) rfl (fun K hK => ?_) (AllReadyH.cons (o := _) rfl (fun K hK => ?_) (AllReadyH.nil))
      · go_simp
        obtain ⟨wa, hwa⟩ : ∃ v, wd.alloc (.cells #[.int .i64 z1, .int .i64 z0] 3) = v := ⟨_, rfl⟩
        have bwa : Below wd.heap.size wd wa := by rw [← hwa]; exact bel1 _ _
        obtain ⟨p, hp⟩ : ∃ p, wd.heap.size = p := ⟨_, rfl⟩
        have da : Below w7.heap.size w7 wa := d0.trans (bwa.mono d0.size)
        have own0 : wa.ownsRow p 3 1 (.slice (some ⟨p, 0, none⟩) 2 2) 2 (csZ [z1, z0]) := by rw [← hwa, ← hp]; exact own_two wd z1 z0
        have hpl : p < wa.heap.size := by rw [← hwa, ← hp, World.size_alloc]; omega
        have hp7 : w7.heap.size ≤ p := by rw [← hp]; exact d0.size
        rw [hwa, hp]
        clear hwa bwa d0
        refine hK.out _ _ (HSR.out _ (da)) (fun hS9 => ?_)
        clear hK K hS
        have hS := hS9
        clear hS9
        (try simp only [Act.put, List.setIfInBounds_toArray, List.set_cons_zero, List.set_cons_succ])
        refine wpAnyH_ready (rs := [6, 10]) (by kernel_rfl) (by simp) ?_
        refine AllReadyH.cons (o := _) rfl (fun K hK => ?_) (AllReadyH.cons (o := _) rfl (fun K hK => ?_) (AllReadyH.nil))
        · skip
          obtain ⟨A4, c4, wx, hrun, hown, hgr⟩ := appG (c := c) own0 (RA3.out.below (da)) HN.out (by omega) (Nat.le_of_lt hpl)
          refine step_app rfl (.tmp 63) (.tmp 64) _ _ rfl _ _ rfl rfl hrun ?_
          have dx : Below w7.heap.size w7 wx := da.grown hgr da.size (fun k hk => by injection hk with hk; omega)
          clear hrun hgr own0
          refine hK.out _ _ (HSR.out _ (dx)) (fun hS9 => ?_)
          clear hK K hS
          have hS := hS9
          clear hS9
          (try simp only [Act.put, List.setIfInBounds_toArray, List.set_cons_zero, List.set_cons_succ])
          refine wpAnyH_take (i := 9) (oi := ⟨some 68, _, _, _, _, _⟩) (v := .agg #[.slice A4 (N + 2) c4, .int .i64 (f : Int)]) rfl (by kernel_rfl) (by kernel_rfl) (by kernel_rfl) (fun _ _ _ h => h) (Or.inl ⟨by rfl, fun w _ => by go_simp⟩) hS ?_
          (try simp only [Act.put, List.setIfInBounds_toArray, List.set_cons_zero, List.set_cons_succ])
          refine wpAnyH_ready (rs := [10]) (by kernel_rfl) (by simp) ?_
          refine AllReadyH.cons (o := _) rfl (fun K hK => ?_) (AllReadyH.nil)
          go_simp
          obtain ⟨wy, hwy⟩ : ∃ v, wx.alloc (.cells #[.slice none 0 0, .int .i64 0] 40) = v := ⟨_, rfl⟩
          have bwy : Below wx.heap.size wx wy := by rw [← hwy]; exact bel1 _ _
          obtain ⟨g, hg⟩ : ∃ g, wx.heap.size = g := ⟨_, rfl⟩
          have ky : Bk wy g 40 [.slice none 0 0, .int .i64 0] := by rw [← hwy, ← hg]; exact Bk.new wx _ [_, _]
          have dy : Below w7.heap.size w7 wy := dx.trans (bwy.mono dx.size)
          have oy := own_kept hown (w' := wy) (fun j hj => bwy.block j (hown.lt j hj).2)
          have hg7 : w7.heap.size ≤ g := by rw [← hg]; exact dx.size
          rw [hwy, hg]
          clear hwy bwy hown hg
          refine hK.out _ _ (HSR.out _ (dy)) (fun hS9 => ?_)
          clear hK K hS
          have hS := hS9
          clear hS9
          (try simp only [Act.put, List.setIfInBounds_toArray, List.set_cons_zero, List.set_cons_succ])
          have hfin := done9 (f := (f : Int)) dy hg7 ky oy HL3.out
          have HFIN := Lib.hid hfin
          have k0 := ky.cell 0
          have k1 := ky.cell 1
          have k2 := ky.free 0
          have k3 := ky.free 1
          simp only [List.getElem?_cons_zero, List.getElem?_cons_succ] at k0 k1
          clear hfin
          refine wpAnyH_ready (rs := [11]) (by kernel_rfl) (by simp) ?_
          refine AllReadyH.cons (o := _) rfl (fun K hK => ?_) (AllReadyH.nil)
          go_simp
          refine hK.out _ _ (HSR.out _ (HFIN.out.2.2.2.2)) (fun hS9 => ?_)
          clear hK K hS
          have hS := hS9
          clear hS9
          (try simp only [Act.put, List.setIfInBounds_toArray, List.set_cons_zero, List.set_cons_succ])
          refine wpAnyH_done (by kernel_rfl) ?_ _
          clear hS k0 k1 k2 k3
          go_wp2_with fail
          go_meet
          exact ⟨g, A4, c4, rfl, HFIN.out⟩
        · go_simp
          obtain ⟨wy0, hwy0⟩ : ∃ v, wa.alloc (.cells #[.slice none 0 0, .int .i64 0] 40) = v := ⟨_, rfl⟩
          have bwy0 : Below wa.heap.size wa wy0 := by rw [← hwy0]; exact bel1 _ _
          obtain ⟨g, hg⟩ : ∃ g, wa.heap.size = g := ⟨_, rfl⟩
          have ky0 : Bk wy0 g 40 [.slice none 0 0, .int .i64 0] := by rw [← hwy0, ← hg]; exact Bk.new wa _ [_, _]
          have dy0 : Below w7.heap.size w7 wy0 := da.trans (bwy0.mono da.size)
          have oy0 := own_kept own0 (w' := wy0) (fun j hj => bwy0.block j (own0.lt j hj).2)
          have hg7 : w7.heap.size ≤ g := by rw [← hg]; exact da.size
          have hgp : p ≠ g := by rw [← hg]; omega
          have hpl0 : p < wy0.heap.size := Nat.lt_of_lt_of_le hpl bwy0.size
          clear hpl
          have hpl := hpl0
          rw [hwy0, hg]
          clear hwy0 bwy0 own0 hg hpl0
          refine hK.out _ _ (HSR.out _ (dy0)) (fun hS9 => ?_)
          clear hK K hS
          have hS := hS9
          clear hS9
          (try simp only [Act.put, List.setIfInBounds_toArray, List.set_cons_zero, List.set_cons_succ])
          refine wpAnyH_ready (rs := [6]) (by kernel_rfl) (by simp) ?_
          refine AllReadyH.cons (o := _) rfl (fun K hK => ?_) (AllReadyH.nil)
          obtain ⟨A4, c4, wx, hrun, hown, hgr⟩ := appG (c := c) oy0 (RA3.out.below (dy0)) HN.out (by omega) (Nat.le_of_lt hpl)
          refine step_app rfl (.tmp 63) (.tmp 64) _ _ rfl _ _ rfl rfl hrun ?_
          have dy : Below w7.heap.size w7 wx := dy0.grown hgr dy0.size (fun k hk => by injection hk with hk; omega)
          have ky := ky0.only hgr (fun e => by injection e with e; exact hgp e.symm)
          have oy := hown
          clear hrun hgr oy0 ky0 hown
          refine hK.out _ _ (HSR.out _ (dy)) (fun hS9 => ?_)
          clear hK K hS
          have hS := hS9
          clear hS9
          (try simp only [Act.put, List.setIfInBounds_toArray, List.set_cons_zero, List.set_cons_succ])
          refine wpAnyH_take (i := 9) (oi := ⟨some 68, _, _, _, _, _⟩) (v := .agg #[.slice A4 (N + 2) c4, .int .i64 (f : Int)]) rfl (by kernel_rfl) (by kernel_rfl) (by kernel_rfl) (fun _ _ _ h => h) (Or.inl ⟨by rfl, fun w _ => by go_simp⟩) hS ?_
          (try simp only [Act.put, List.setIfInBounds_toArray, List.set_cons_zero, List.set_cons_succ])
          have hfin := done9 (f := (f : Int)) dy hg7 ky oy HL3.out
          have HFIN := Lib.hid hfin
          have k0 := ky.cell 0
          have k1 := ky.cell 1
          have k2 := ky.free 0
          have k3 := ky.free 1
          simp only [List.getElem?_cons_zero, List.getElem?_cons_succ] at k0 k1
          clear hfin
          refine wpAnyH_ready (rs := [11]) (by kernel_rfl) (by simp) ?_
          refine AllReadyH.cons (o := _) rfl (fun K hK => ?_) (AllReadyH.nil)
          go_simp
          refine hK.out _ _ (HSR.out _ (HFIN.out.2.2.2.2)) (fun hS9 => ?_)
          clear hK K hS
          have hS := hS9
          clear hS9
          (try simp only [Act.put, List.setIfInBounds_toArray, List.set_cons_zero, List.set_cons_succ])
          refine wpAnyH_done (by kernel_rfl) ?_ _
          clear hS k0 k1 k2 k3
          go_wp2_with fail
          go_meet
          exact ⟨g, A4, c4, rfl, HFIN.out⟩
      · go_simp
        obtain ⟨wa, hwa⟩ : ∃ v, wd.alloc (.cells #[.slice none 0 0, .int .i64 0] 40) = v := ⟨_, rfl⟩
        have bwa : Below wd.heap.size wd wa := by rw [← hwa]; exact bel1 _ _
        obtain ⟨g, hg⟩ : ∃ g, wd.heap.size = g := ⟨_, rfl⟩
        have ka : Bk wa g 40 [.slice none 0 0, .int .i64 0] := by rw [← hwa, ← hg]; exact Bk.new wd _ [_, _]
        have da : Below w7.heap.size w7 wa := d0.trans (bwa.mono d0.size)
        have hg7 : w7.heap.size ≤ g := by rw [← hg]; exact d0.size
        rw [hwa, hg]
        clear hwa bwa d0 hg
        refine hK.out _ _ (HSR.out _ (da)) (fun hS9 => ?_)
        clear hK K hS
        have hS := hS9
        clear hS9
        (try simp only [Act.put, List.setIfInBounds_toArray, List.set_cons_zero, List.set_cons_succ])
        refine wpAnyH_ready (rs := [4]) (by kernel_rfl) (by simp) ?_
        refine AllReadyH.cons (o := _) rfl (fun K hK => ?_) (AllReadyH.nil)
        go_simp
        obtain ⟨wb, hwb⟩ : ∃ v, wa.alloc (.cells #[.int .i64 z1, .int .i64 z0] 3) = v := ⟨_, rfl⟩
        have bwb : Below wa.heap.size wa wb := by rw [← hwb]; exact bel1 _ _
        obtain ⟨p, hp⟩ : ∃ p, wa.heap.size = p := ⟨_, rfl⟩
        have db : Below w7.heap.size w7 wb := da.trans (bwb.mono da.size)
        have own0 : wb.ownsRow p 3 1 (.slice (some ⟨p, 0, none⟩) 2 2) 2 (csZ [z1, z0]) := by rw [← hwb, ← hp]; exact own_two wa z1 z0
        have hpl : p < wb.heap.size := by rw [← hwb, ← hp, World.size_alloc]; omega
        have hp7 : w7.heap.size ≤ p := by rw [← hp]; exact da.size
        have kb := ka.below bwb ka.lt
        have hgp : p ≠ g := by have := ka.lt; rw [← hp]; omega
        rw [hwb, hp]
        clear hwb bwb da hp
        refine hK.out _ _ (HSR.out _ (db)) (fun hS9 => ?_)
        clear hK K hS
        have hS := hS9
        clear hS9
        (try simp only [Act.put, List.setIfInBounds_toArray, List.set_cons_zero, List.set_cons_succ])
        refine wpAnyH_ready (rs := [6]) (by kernel_rfl) (by simp) ?_
        refine AllReadyH.cons (o := _) rfl (fun K hK => ?_) (AllReadyH.nil)
        obtain ⟨A4, c4, wx, hrun, hown, hgr⟩ := appG (c := c) own0 (RA3.out.below (db)) HN.out (by omega) (Nat.le_of_lt hpl)
        refine step_app rfl (.tmp 63) (.tmp 64) _ _ rfl _ _ rfl rfl hrun ?_
        have dy : Below w7.heap.size w7 wx := db.grown hgr db.size (fun k hk => by injection hk with hk; omega)
        have ky := kb.only hgr (fun e => by injection e with e; exact hgp e.symm)
        have oy := hown
        clear hrun hgr own0 kb ka hown
        refine hK.out _ _ (HSR.out _ (dy)) (fun hS9 => ?_)
        clear hK K hS
        have hS := hS9
        clear hS9
        (try simp only [Act.put, List.setIfInBounds_toArray, List.set_cons_zero, List.set_cons_succ])
        refine wpAnyH_take (i := 9) (oi := ⟨some 68, _, _, _, _, _⟩) (v := .agg #[.slice A4 (N + 2) c4, .int .i64 (f : Int)]) rfl (by kernel_rfl) (by kernel_rfl) (by kernel_rfl) (fun _ _ _ h => h) (Or.inl ⟨by rfl, fun w _ => by go_simp⟩) hS ?_
        (try simp only [Act.put, List.setIfInBounds_toArray, List.set_cons_zero, List.set_cons_succ])
        have hfin := done9 (f := (f : Int)) dy hg7 ky oy HL3.out
        have HFIN := Lib.hid hfin
        have k0 := ky.cell 0
        have k1 := ky.cell 1
        have k2 := ky.free 0
        have k3 := ky.free 1
        simp only [List.getElem?_cons_zero, List.getElem?_cons_succ] at k0 k1
        clear hfin
        refine wpAnyH_ready (rs := [11]) (by kernel_rfl) (by simp) ?_
        refine AllReadyH.cons (o := _) rfl (fun K hK => ?_) (AllReadyH.nil)
        go_simp
        refine hK.out _ _ (HSR.out _ (HFIN.out.2.2.2.2)) (fun hS9 => ?_)
        clear hK K hS
        have hS := hS9
        clear hS9
        (try simp only [Act.put, List.setIfInBounds_toArray, List.set_cons_zero, List.set_cons_succ])
        refine wpAnyH_done (by kernel_rfl) ?_ _
        clear hS k0 k1 k2 k3
        go_wp2_with fail
        go_meet
        exact ⟨g, A4, c4, rfl, HFIN.out⟩
    case rest =>
      obtain ⟨g12, A4, c4, rfl, hk12, hr4, hn4, hm4, hbx⟩ := hcut
      generalize wc = w8 at *
      rw [HNN.out] at hk12 hn4
      have K12 := Lib.hid hk12
      have R4 := Lib.hid hr4
      have KZ3_ := kt KZ3 (Lib.hid hbx)
      clear KZ3
      have KZ3 := KZ3_
      clear KZ3_
      have K7_ := kt K7 (Lib.hid hbx)
      clear K7
      have K7 := K7_
      clear K7_
      have K8_ := kt K8 (Lib.hid hbx)
      clear K8
      have K8 := K8_
      clear K8_
      have K9_ := kt K9 (Lib.hid hbx)
      clear K9
      have K9 := K9_
      clear K9_
      have B3_ := bt B3 (Lib.hid hbx)
      clear B3
      have B3 := B3_
      clear B3_
      have RA3_ := Lib.hid (RA3.out.below hbx)
      clear RA3
      have RA3 := RA3_
      clear RA3_
      have R13_ := Lib.hid (RdX.belowX R13.out hbx)
      clear R13
      have R13 := R13_
      clear R13_
      have R28 := Lib.hid (RdX.belowX R2.out hbx)
      have R38 := Lib.hid (RdX.belowX R37.out hbx)
      have KA8 := kt KA7 (Lib.hid hbx)
      have B38 := bt B37 (Lib.hid hbx)
      have HNC := Lib.hid (And.intro hn4 hm4)
      clear hk12 hr4 hbx R2 R37 hn4 hm4 HSR KA7 B37
      have hN2p : 2 ≤ N2 := by have := HNN.out; omega
      obtain ⟨b4, o4, hA4, -, -⟩ := R4.out (by simp [csZ])
      subst hA4
      have hsl : ∀ W, (Instr.slice 37 (.slice (some ⟨b4, o4, none⟩) N2 c4) (some (.int .i64 1)) none none).run Try.prog W = .ok (.slice (some ⟨b4, o4 + 1, none⟩) N1 (c4 - 1)) W := fun W => by
        have hsz : (sizeOf (Try.prog.elem 37)).run Try.prog W = .ok 1 W := by kernel_rfl
        rw [run_slice_l (P := Try.prog) W 37 _ N2 c4 (by kernel_rfl) .i64 1 (by omega) (by omega), hsz]
        simp only [Result.andThen, sliced]
        have h1 : ¬ c4 = 1 := by have := HNC.out.1; omega
        rw [if_neg (by simpa using h1), show N2 - (1 : Int).toNat = N1 by have := HN2.out; simp; omega]
        rfl
      have R5 := Lib.hid (show ∀ W, Below w8.heap.size w8 W → Rd W (some ⟨b4, o4 + 1, none⟩) (csZ (z0 :: l)) from fun W hW => by
        exact rdDrop (R4.out.below hW))
      have hbd : Below w8.heap.size w8 w8.drew := (Below.refl w8.heap.size w8).drew
      have HSR := Lib.hid (show ∀ W, Below w8.heap.size w8 W → W.cell? ⟨g9, 0, none⟩ = some (.slice A3 N2 N2) ∧ W.cell? ⟨g9, 1, none⟩ = some (.int .i64 (f : Int)) ∧ W.cell? ⟨g12, 0, none⟩ = some (.slice (some ⟨b4, o4, none⟩) N2 c4) ∧ W.cell? ⟨g12, 1, none⟩ = some (.int .i64 (f : Int)) ∧ W.cell? ⟨g8, 0, none⟩ = some (.slice A2 N1 N1) ∧ W.cell? ⟨g8, 1, none⟩ = some (.int .i64 (f : Int)) ∧ W.cell? ⟨g7, 1, none⟩ = some (.int .i64 (f : Int)) ∧ Below w8.heap.size w8 W from fun W hW => ⟨(hW.cell (p := ⟨g9, 0, none⟩) K9.out.lt).trans (K9.out.cell 0), (hW.cell (p := ⟨g9, 1, none⟩) K9.out.lt).trans (K9.out.cell 1), (hW.cell (p := ⟨g12, 0, none⟩) K12.out.lt).trans (K12.out.cell 0), (hW.cell (p := ⟨g12, 1, none⟩) K12.out.lt).trans (K12.out.cell 1), (hW.cell (p := ⟨g8, 0, none⟩) K8.out.lt).trans (K8.out.cell 0), (hW.cell (p := ⟨g8, 1, none⟩) K8.out.lt).trans (K8.out.cell 1), (hW.cell (p := ⟨g7, 1, none⟩) K7.out.lt).trans (K7.out.cell 1), hW⟩)
      go_upto_region 10 with fail
      go_region_held3 (fun W => W.cell? ⟨g9, 0, none⟩ = some (.slice A3 N2 N2) ∧ W.cell? ⟨g9, 1, none⟩ = some (.int .i64 (f : Int)) ∧ W.cell? ⟨g12, 0, none⟩ = some (.slice (some ⟨b4, o4, none⟩) N2 c4) ∧ W.cell? ⟨g12, 1, none⟩ = some (.int .i64 (f : Int)) ∧ W.cell? ⟨g8, 0, none⟩ = some (.slice A2 N1 N1) ∧ W.cell? ⟨g8, 1, none⟩ = some (.int .i64 (f : Int)) ∧ W.cell? ⟨g7, 1, none⟩ = some (.int .i64 (f : Int)) ∧ Below w8.heap.size w8 W)
        (first | exact HSR.out _ d2 | exact HSR.out _ d1 | exact HSR.out _ hbd)
        (first | (have dz := d1; go_at_call 17; refine (lfault_eq (z0 :: l) f A2 (some ⟨b4, o4 + 1, none⟩) N1 (c4 - 1) _ (R28.out.rd.below d1) (R5.out _ d1) (by rw [List.length_cons, HN.out, HN1.out]) (by have := HN1.out; unfold maxLen; omega)).mono ?_; rintro e v4 ⟨rfl, hv4⟩; have d2 : Below w8.heap.size w8 v4 := btU d1 hv4; clear dz) | (go_at_call 17; refine (lfault_eq (z1 :: z0 :: l) f A3 (some ⟨b4, o4, none⟩) N2 c4 _ (R38.out.rd.below hbd) (R4.out.below hbd) (by rw [HL3.out, HNN.out]) (by have := HNN.out; unfold maxLen; omega)).mono ?_; rintro e v3 ⟨rfl, hv3⟩; have d1 : Below w8.heap.size w8 v3 := btU hbd hv3))
      obtain ⟨w9, hw9⟩ : ∃ v, v4 = v := ⟨_, rfl⟩
      have D2 := Lib.hid d2
      have KZ9 := kt KZ3 D2
      have K79 := kt K7 D2
      have K89 := kt K8 D2
      have K99 := kt K9 D2
      have KA9 := kt KA8 D2
      have B39 := bt B38 D2
      have B9 := bt B3 D2
      have R39 := Lib.hid (RdX.belowX R38.out d2)
      clear KZ3 K7 K8 K9 KA8 B38 B3 R38 d1 d2 D2 hv3 hv4 HSR hbd hsl R5 R28 K12 R4 RA3 R13
      rw [hw9] at KZ9 K79 K89 K99 KA9 B39 B9 R39 ⊢
      clear hw9
      rw [← HA2.out] at K89
      have a0 : w9.cell? ⟨g8, 0, none⟩ = some (.slice (some ⟨gA, 0, none⟩) N1 N1) := K89.out.cell 0
      have a1 : w9.cell? ⟨gA, 0, none⟩ = some (.int .i64 z0) := KA9.out.cell 0
      have a2 := KA9.out.free 0
      have hN1p : 0 < N1 := by have := HN1.out; omega
      have hN1i : (0 : Int) < (N1 : Int) := by omega
      go_upto_region 13 with fail
      clear a0 a1 a2
      obtain ⟨w10, hw10⟩ : ∃ v, w9.setCell ⟨gA, 0, none⟩ (.int .i64 (wrap64 (z0 + 1))) = v := ⟨_, rfl⟩
      have b310 : Below w3.heap.size w3 w10 := by rw [← hw10]; exact B39.out.setCell (p := ⟨gA, 0, none⟩) HGA.out _
      have b10 : Below w.heap.size w w10 := by rw [← hw10]; exact B9.out.setCell (p := ⟨gA, 0, none⟩) (by show w.heap.size ≤ gA; have := HGA.out; have := HWS.out; omega) _
      have k7 : Bk w10 g7 40 [.slice A1 N c1, .int .i64 (f : Int)] := by rw [← hw10]; exact K79.out.far (p := ⟨gA, 0, none⟩) (bkne K79.out KA9.out (by decide)) _
      have k9 : Bk w10 g9 40 [.slice A3 N2 N2, .int .i64 (f : Int)] := by rw [← hw10]; exact K99.out.far (p := ⟨gA, 0, none⟩) (bkne K99.out KA9.out (by decide)) _
      have k5 : Bk w10 g5 51 [.int .i64 z0, .int .i64 z1] := by rw [← hw10]; exact KZ9.out.far (p := ⟨gA, 0, none⟩) (bkne KZ9.out KA9.out (by decide)) _
      have r3 : Rd w10 A3 (csZ (z1 :: z0 :: l)) := RdX.rd (S := fun _ => True) (R39.out.keep (by rw [← hw10]; simp [World.setCell]) (fun k hk _ => by rw [← hw10]; exact Below.heap_setCell _ _ _ _ (by show k ≠ gA; have := HGA5.out; omega)) (fun _ _ _ => trivial))
      obtain ⟨b3, o3, hA3, hb3, hc3⟩ := r3.all_ (by simp [csZ])
      subst hA3
      have hc31 : w10.cell? ⟨b3, o3 + 1, none⟩ = some (.int .i64 z0) := hc3 1 (by simp [csZ])
      have K5 := Lib.hid k5
      have K7 := Lib.hid k7
      have K9 := Lib.hid k9
      have HB3 := Lib.hid hb3
      have HC31 := Lib.hid hc31
      have RA := Lib.hid (RA0.out.below b310)
      have R1 := Lib.hid (R10.out.below b310)
      have B10 := Lib.hid b10
      rw [hw10]
      clear hw10 b310 b10 k5 k7 k9 r3 hb3 hc3 hc31 KZ9 K79 K89 K99 KA9 B39 B9 R39 RA0 R10
      have hbd : Below w10.heap.size w10 w10.drew := (Below.refl w10.heap.size w10).drew
      have HSR := Lib.hid (show ∀ W, Below w10.heap.size w10 W → W.cell? ⟨g7, 0, none⟩ = some (.slice A1 N c1) ∧ W.cell? ⟨g9, 0, none⟩ = some (.slice (some ⟨b3, o3, none⟩) N2 N2) ∧ W.cell? ⟨b3, o3 + 1, none⟩ = some (.int .i64 z0) ∧ W.cell? ⟨g5, 0, none⟩ = some (.int .i64 z0) ∧ Below w10.heap.size w10 W from fun W hW => ⟨(hW.cell (p := ⟨g7, 0, none⟩) K7.out.lt).trans (K7.out.cell 0), (hW.cell (p := ⟨g9, 0, none⟩) K9.out.lt).trans (K9.out.cell 0), (hW.cell (p := ⟨b3, o3 + 1, none⟩) HB3.out).trans HC31.out, (hW.cell (p := ⟨g5, 0, none⟩) K5.out.lt).trans (K5.out.cell 0), hW⟩)
      have h1N : (1 : Int) < (N2 : Int) := by omega
      have h1N2 : 1 < N2 := by omega
      go_region_held3 (fun W => W.cell? ⟨g7, 0, none⟩ = some (.slice A1 N c1) ∧ W.cell? ⟨g9, 0, none⟩ = some (.slice (some ⟨b3, o3, none⟩) N2 N2) ∧ W.cell? ⟨b3, o3 + 1, none⟩ = some (.int .i64 z0) ∧ W.cell? ⟨g5, 0, none⟩ = some (.int .i64 z0) ∧ Below w10.heap.size w10 W)
        (first | exact HSR.out _ d2 | exact HSR.out _ d1 | exact HSR.out _ hbd)
        (first | (go_at_call 19; refine (HLV.out _).mono ?_; rintro e v7 ⟨rfl, hv7⟩; have d2 : Below w10.heap.size w10 v7 := btU d1 hv7) | (go_at_call 16; refine (ints_eq l A1 A N c1 c _ (R1.out.below hbd) (RA.out.below hbd) HN.out (by unfold maxLen; omega)).mono ?_; rintro e v6 ⟨rfl, hv6⟩; have d1 : Below w10.heap.size w10 v6 := btU hbd hv6))
      have B11 := bt B10 (Lib.hid d2)
      clear d1 d2 hv6 hv7 HSR hbd
      go_wp2_with fail
      go_ret
      exact ⟨rfl, B11.out⟩
end Go.Proofs.Ythgebdnbcdlbaaa.Fl
