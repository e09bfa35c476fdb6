/-
  Layer 12: begins, missing; the reference's Fault; List and Explicit, the program's and the reference's.
  Conditions: none beyond that values read as what they are.
-/
import Derived.Test.YtfbdeefeagednaaFlB
namespace Go.Proofs.Ytfbdeefeagednaa.Fl
open Go.RowKit

/-- A fault is given; x: without spare capacity. -/
def GiveF (x : Bool) (w : World) (p : List Int) (f : Nat) (e : Ending) (w' : World) : Prop :=
  ∃ A n c, e = .returned (fvV A n c f) ∧ p.length = n ∧ n ≤ c ∧ c ≤ maxLen ∧ (x = true → c = n) ∧ RdX (fun i => w.heap.size ≤ i) w' A (csZ p) ∧ Below w.heap.size w w'
theorem infoF : (Try.prog.info? 38).map (·.size) = some 2 := by kernel_rfl
theorem infoI : (Try.prog.info? 3).map (fun i => (i.zero, i.size, i.bytes)) = some (some (.int .i64 0), 1, 8) := by kernel_rfl
/-- The walk's step at the store of a whole struct. -/
theorem wpList_storeG {t t' : TypeId} {ops : Array Oper} {rest : List Oper} {o : Oper} {a : Act} {w : World} {Q : Exit → Act → World → Prop} (hgd : o.guard = none) (x v : Operand) (ho : o.op = .store t x v)
    {g : Nat} {ds cs : List Value} (hx : a.eval x = .pointer (some ⟨g, 0, none⟩)) (hv : a.eval v = .agg ds.toArray) (hg : Bk w g t' cs) (hi : (Try.prog.info? t).map (·.size) = some ds.length) (hc : cs.length = ds.length) (h1 : ds.all (·.oneCell') = true)
    (h : ∀ w', Bk w' g t' ds → w.grownBy w' (some g) → w'.heap.size = w.heap.size → wpList Try.prog ops Q rest (a.put o.dst undef) w') : wpList Try.prog ops Q (o :: rest) a w :=
  wpList_plain hgd fun K hK => by
    have hs := run_storeVar_row (P := Try.prog) w g t' t cs.toArray ds.toArray hg (by rw [List.size_toArray]; exact hi) (by simp [hc]) (by rw [List.all_toArray]; exact h1)
    have hK' := hK _ _ (h (w.setRow g ds.toArray) (setRow_heap w g _ _ _ _ hg) ⟨rfl, rfl, rfl, by simp [World.setRow], fun k hk hne => setRow_other w g k _ (fun e => hne (by rw [e]))⟩ (by simp [World.setRow]))
    unfold Oper.wp execOp
    simp only [ho, hx, hv, Instr.storeAt, Instr.sureAddr, Sem.run_bind, Sem.run_pure, Result.andThen_ok, hs]
    exact hK'
/-- The walk's step at the store of a fault into its variable. -/
theorem storeF {t' : TypeId} {ops : Array Oper} {rest : List Oper} {o : Oper} {a : Act} {w : World} {Q : Exit → Act → World → Prop} (hgd : o.guard = none) (x v : Operand) (ho : o.op = .store 38 x v)
    {g : Nat} {p q p0 q0 : Value} (hx : a.eval x = .pointer (some ⟨g, 0, none⟩)) (hv : a.eval v = .agg #[p, q]) (hg : Bk w g t' [p0, q0]) (hp : p.oneCell' = true) (hq : q.oneCell' = true)
    (h : ∀ w', Hid (Bk w' g t' [p, q]) → Hid (w.grownBy w' (some g)) → wpList Try.prog ops Q rest (a.put o.dst undef) w') : wpList Try.prog ops Q (o :: rest) a w :=
  wpList_storeG hgd x v ho (ds := [p, q]) hx hv hg infoF rfl (by simp [hp, hq]) fun w' h1 h2 _ => h w' (Lib.hid h1) (Lib.hid h2)
/-- What a call has built by append, opened. -/
theorem own_openX {w : World} {base : Nat} {e : TypeId} {v : Value} {xs : List Value} (h : w.ownsRow base e 1 v xs.length xs) : ∃ A c, v = .slice A xs.length c ∧ RdX (fun i => base ≤ i) w A xs ∧ xs.length ≤ c ∧ c ≤ maxLen := by
  have hc := fun (g : Nat) (hg : v.ownBlock = some g) => h.cells hg
  rcases h.2 with ⟨rfl, h0⟩ | ⟨g, cap, cur, rfl, hb, hg, hn, hm, hs, ht⟩
  · exact ⟨none, 0, by rw [h0], by rw [List.eq_nil_of_length_eq_zero h0]; exact RdX.nil, by omega, by unfold maxLen; omega⟩
  · refine ⟨_, cap, rfl, fun _ => ⟨g, 0, rfl, ?_, hb, fun j u hu => ?_⟩, hn, hm⟩
    · rcases Nat.lt_or_ge g w.heap.size with hlt | hge
      · exact hlt
      · rw [Array.getElem?_eq_none hge] at hg; cases hg
    · have := hc g rfl j u hu
      rw [Nat.zero_add]
      have e : (⟨g, 0, none⟩ : Addr).add j = ⟨g, j, none⟩ := by unfold Addr.add; split <;> simp_all
      rwa [e] at this
/-- 'append(v, x)' of one element, to what the call has built. -/
theorem app_one {P : Program} {t ty e : TypeId} {z : Value} {bytes : Nat} (ht : P.underlying t = some (.slice e)) (hinfo : (P.info? e).map (fun i => (i.zero, i.size, i.bytes)) = some (some z, 1, bytes)) (hz : z.cells.size = 1)
    {w : World} {base : Nat} {v : Value} {xs : List Value} (hown : w.ownsRow base e 1 v xs.length xs) (x : Value) (h1 : x.oneCell' = true) (hb : base ≤ w.heap.size) (hl : (xs.length + 1) * bytes ≤ 140737488355328) (hm : xs.length + 1 ≤ maxLen) :
    ∃ v' w', (Builtin.append_ #[t, t] ty #[v, .slice (some ⟨w.heap.size, 0, none⟩) 1 1]).run P (w.alloc (.cells #[x] e)) = .ok v' w' ∧ w'.ownsRow base e 1 v' (xs ++ [x]).length (xs ++ [x]) ∧ Below base w w' := by
  obtain ⟨i, hi, hz0, hz1, hz2⟩ := info_parts hinfo
  obtain ⟨v', w', hrun, h2, h3, _⟩ := run_append_own (P := P) (w.alloc (.cells #[x] e)) base t ty e i z 1 bytes ht hi hz0 hz1 hz2 hz (by omega) v xs.length xs (hown.alloc _) ⟨w.heap.size, 0, none⟩ 1 1 [x] rfl
    (fun j u hu => by
      obtain ⟨hj, rfl⟩ := List.getElem?_eq_some_iff.1 hu
      have : j = 0 := by simpa using hj
      subst this
      simp [Addr.add, go_sem]) (by simpa using h1) hm hl (by simp; omega)
  refine ⟨v', w', hrun, by simpa using h2, ((Below.refl base w).alloc hb _).grown h3 (by simp; omega) (fun k hk => (hown.lt k hk).1)⟩
theorem litI (w : World) (z : Int) : RdX (fun i => w.heap.size ≤ i) (w.alloc (.cells #[.int .i64 z] 3)) (some ⟨w.heap.size, 0, none⟩) (csZ [z]) := fun _ =>
  ⟨w.heap.size, 0, rfl, by simp, Nat.le_refl _, fun j u hu => by
    have := (Bk.new w 3 [.int .i64 z]).cell (0 + j)
    rw [Nat.zero_add] at this ⊢
    exact this.trans hu⟩
theorem RdX.belowX {S : Nat → Prop} {w w' : World} {A : Option Addr} {xs : List Value} (h : RdX S w A xs) (hb : Below w.heap.size w w') : RdX S w' A xs :=
  h.keep hb.size (fun k _ hk => hb.block k hk) (fun _ hs _ => hs)
theorem RdX.since {a b w : World} {A : Option Addr} {xs : List Value} (h : RdX (fun i => b.heap.size ≤ i) w A xs) (hab : Below a.heap.size a b) : RdX (fun i => a.heap.size ≤ i) w A xs :=
  h.keep (Nat.le_refl _) (fun _ _ _ => rfl) (fun _ hs _ => Nat.le_trans hab.size hs)
/-- A fault made by a call of 'fault', stored into the result's variable g of a new block, is given. -/
theorem give_end {x : Bool} {w w1 w2 w3 : World} {p : List Int} {f n c g : Nat} {A : Option Addr} (hb1 : Hid (Below w.heap.size w w1)) (hr : RdX (fun i => w.heap.size ≤ i) w1 A (csZ p)) (hA : ∀ q, A = some q → csZ p ≠ [] → q.block ≠ g) (hl : p.length = n) (hc : n ≤ c) (hm : c ≤ maxLen) (hx : x = true → c = n)
    (hb2 : Hid (Below w1.heap.size w1 w2)) (hg : w.heap.size ≤ g) (h3 : Hid (w2.grownBy w3 (some g))) : GiveF x w p f (.returned (fvV A n c f)) w3 := by
  have B2 := (bt hb1 hb2).out
  refine ⟨A, n, c, rfl, hl, hc, hm, hx, ?_, B2.trans ((only_below h3.out hg B2.size))⟩
  have h2 := RdX.belowX hr hb2.out
  intro hn
  obtain ⟨b, off, e, hb, hS, hcell⟩ := h2 hn
  have hne := hA _ e hn
  exact ⟨b, off, e, Nat.lt_of_lt_of_le hb h3.out.size, hS, fun j u hu => (World.cell?_of_block (w := w2) (h3.out.block b hb (fun e => by injection e with e; exact hne e))).trans (hcell j u hu)⟩
theorem give_nil {x : Bool} {w w2 w3 : World} {f g : Nat} (hb2 : Hid (Below w.heap.size w w2)) (hg : w.heap.size ≤ g) (h3 : Hid (w2.grownBy w3 (some g))) : GiveF x w [] f (.returned (fvV none 0 0 f)) w3 :=
  ⟨none, 0, 0, rfl, rfl, Nat.le_refl _, by unfold maxLen; omega, fun _ => rfl, RdX.nil, hb2.out.trans (only_below h3.out hg hb2.out.size)⟩
set_option maxHeartbeats 1000000 in
set_option maxRecDepth 100000 in
theorem rfault_any (f : Nat) (z : Int) (w : World) (_hz : -9223372036854775808 ≤ z) : Calls Try.prog 9 #[.int .i64 (f : Int), .int .i64 z] w (GiveF false w (if z < 0 then [] else [z]) f) := by
  obtain ⟨P, hP⟩ : ∃ P : List Int, (if z < 0 then [] else [z]) = P := ⟨_, rfl⟩
  rw [hP]
  obtain ⟨w1, hw1⟩ : ∃ w1, w.alloc (.cells #[.slice none 0 0, .int .i64 0] 38) = w1 := ⟨_, rfl⟩
  have k1 : Bk w1 w.heap.size 38 [.slice none 0 0, .int .i64 0] := by rw [← hw1]; exact Bk.new w _ [_, _]
  have b1 : Below w.heap.size w w1 := by rw [← hw1]; exact bel1 w _
  obtain ⟨w2, hw2⟩ : ∃ w2, w1.alloc (.cells #[.slice none 0 0, .int .i64 (f : Int)] 38) = w2 := ⟨_, rfl⟩
  have b2 : Below w1.heap.size w1 w2 := by rw [← hw2]; exact bel1 w1 _
  have k2 : Bk w2 w1.heap.size 38 [.slice none 0 0, .int .i64 (f : Int)] := by rw [← hw2]; exact Bk.new w1 _ [_, _]
  have K1 := kt (Lib.hid k1) (Lib.hid b2)
  have K2 := Lib.hid k2
  have B := bt (Lib.hid b1) (Lib.hid b2)
  have HW1 := Lib.hid hw1
  have HW2 := Lib.hid hw2
  obtain ⟨G, hG⟩ : ∃ G, w.heap.size = G := ⟨_, rfl⟩
  obtain ⟨D, hD⟩ : ∃ D, w1.heap.size = D := ⟨_, rfl⟩
  have HG := Lib.hid hG
  have HD : Hid (G + 1 = D) := Lib.hid (by rw [← hD, ← hw1, World.size_alloc, hG])
  rw [hG] at K1
  rw [hD] at K2
  clear k1 b1 b2 k2 hw1 hw2 hG hD
  by_cases h0 : z < 0
  · rw [if_pos h0] at hP
    subst hP
    have hg : decide (z ≥ 0) = false := by simp; omega
    obtain ⟨c0, c1⟩ : w2.cell? ⟨D, 0, none⟩ = some (.slice none 0 0) ∧ w2.cell? ⟨D, 1, none⟩ = some (.int .i64 (f : Int)) := ⟨K2.out.cell 0, K2.out.cell 1⟩
    go_enter Try.func9, Try.ntmps9
    go_upto_region 2 with fail
    rw [HW1.out, HW2.out, HG.out, HD.out]
    go_wp2_with (refine storeF rfl _ _ rfl rfl rfl K1.out rfl rfl ?_; intro w3 h3 h4)
    exact retF rfl rfl h3.out rfl (give_nil B (by rw [HG.out]; exact Nat.le_refl _) h4)
  · rw [if_neg h0] at hP
    subst hP
    have hg : decide (z ≥ 0) = true := by simp; omega
    have HL : Hid (w.heap.size ≤ w2.heap.size) := Lib.hid B.out.size
    obtain ⟨v', w3, hrun, hown, hb3⟩ := app_one (P := Try.prog) (t := 30) (ty := 30) Try.underlying30 infoI rfl (World.ownsRow_nil w2 w2.heap.size 3 1) (.int .i64 z) rfl (Nat.le_refl _) (by simp) (by unfold maxLen; simp)
    obtain ⟨A, c, rfl, hr, hc, hm⟩ := own_openX hown
    have K13 := kt K1 (Lib.hid hb3)
    have K23 := kt K2 (Lib.hid hb3)
    have B3 := bt B (Lib.hid hb3)
    have HR := Lib.hid (RdX.since hr B.out)
    have HN := Lib.hid (And.intro hc hm)
    have HRN := Lib.hid hr
    have H2 := Lib.hid K2.out.lt
    simp only [List.nil_append, List.length_singleton] at hrun
    have c0 : w2.cell? ⟨D, 0, none⟩ = some (.slice none 0 0) := K2.out.cell 0
    have d1 : w3.cell? ⟨D, 1, none⟩ = some (.int .i64 (f : Int)) := K23.out.cell 1
    have d0 : w3.cell? ⟨D, 0, none⟩ = some (.slice none 0 0) := K23.out.cell 0
    have d2 : w3.frozen? ⟨D, 0, none⟩ = false := K23.out.free 0
    clear hb3 hown hr hc hm
    go_enter Try.func9, Try.ntmps9
    go_upto_region 2 with fail
    rw [HW1.out, HW2.out, HG.out, HD.out]
    go_upto_region 4 with (refine wpList_app (o := ⟨some 14, _, _, _, _, _⟩) rfl (.tmp 11) (.tmp 13) _ _ rfl (.slice none 0 0) (.slice (some ⟨w2.heap.size, 0, none⟩) 1 1) rfl rfl hrun ?_)
    clear hrun c0 d0 d1 d2
    obtain ⟨w4, hw4⟩ : ∃ w4, w3.setCell ⟨D, 0, none⟩ (.slice A 1 c) = w4 := ⟨_, rfl⟩
    rw [hw4]
    have hGD : G ≠ D := by have := HD.out; omega
    have k14 : Bk w4 G 38 [.slice none 0 0, .int .i64 0] := by rw [← hw4]; exact K13.out.far (p := ⟨D, 0, none⟩) hGD _
    have k24 : Bk w4 D 38 [.slice A 1 c, .int .i64 (f : Int)] := by rw [← hw4]; exact K23.out.store 0 _
    have b4 : Below w.heap.size w w4 := by rw [← hw4]; exact B3.out.setCell (p := ⟨D, 0, none⟩) (by show w.heap.size ≤ D; have := HD.out; have := HG.out; omega) _
    have hk : ∀ k, k ≠ D → w4.heap[k]? = w3.heap[k]? := fun k hk => by rw [← hw4]; exact Below.heap_setCell _ _ _ _ hk
    have hz4 : w4.heap.size = w3.heap.size := by rw [← hw4]; simp [World.setCell]
    have HR4 : Hid (RdX (fun i => D < i) w4 A (csZ [z])) := Lib.hid (RdX.keep (T := fun i => D < i) (w' := w4) HRN.out (by rw [hz4]; exact Nat.le_refl _) (fun k hS _ => hk k (by have := H2.out; omega)) (fun k hS _ => by have := H2.out; omega))
    obtain ⟨c0, c1⟩ : w4.cell? ⟨D, 0, none⟩ = some (.slice A 1 c) ∧ w4.cell? ⟨D, 1, none⟩ = some (.int .i64 (f : Int)) := ⟨k24.cell 0, k24.cell 1⟩
    have K4 := Lib.hid k14
    have B4 := Lib.hid b4
    clear hw4 k14 k24 b4 hk hz4 K13 K23 B3 HR HRN K1 K2
    go_wp2_with (refine storeF rfl _ _ rfl rfl rfl K4.out rfl rfl ?_; intro w5 h5 h6)
    refine retF rfl rfl h5.out rfl ⟨A, 1, c, rfl, rfl, HN.out.1, HN.out.2, (fun h => by cases h), ?_, B4.out.trans (only_below h6.out (by rw [HG.out]; exact Nat.le_refl _) B4.out.size)⟩
    exact HR4.out.keep h6.out.size (fun k hS hk => h6.out.block k hk (fun e => by injection e with e; have := HD.out; omega)) (fun k hS _ => by have := HD.out; have := HG.out; omega)
end Go.Proofs.Ytfbdeefeagednaa.Fl
