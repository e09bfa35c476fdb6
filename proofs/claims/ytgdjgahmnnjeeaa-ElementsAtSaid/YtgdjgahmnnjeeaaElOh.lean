/-
  Layer 4: the statements' helper E.Of.
  Conditions: none.
-/
import Derived.Test.YtgdjgahmnnjeeaaElOg
import Derived.Test.YtgdjgahmnnjeeaaElArg
import Derived.Deep.DeepCutAuto
namespace Go.Proofs.Ytgdjgahmnnjeeaa
open Go.RowKit

theorem Pl.rds {B : Nat} {S T : Nat → Prop} {es : List El} {cs : List Value} {v : Value} {w : World} (h : Pl B S es cs v w) (hT : ∀ j, B ≤ j → T j) :
    ∃ A c, v = .slice A es.length c ∧ es.length ≤ c ∧ c ≤ maxLen ∧ RdS false T w A es := by
  obtain ⟨A, c, hv, h1, h2, hcase⟩ := h.form
  refine ⟨A, c, hv, h1, h2, ?_⟩
  rcases hcase with ⟨_, _, rfl⟩ | ⟨g, rfl, hob, hBg, hgl, hcell⟩
  · trivial
  · exact RowE.rds hgl (hT g hBg) (fun i hi => hT i (h.sb i hi)) h.row (fun j u hu => by rw [Nat.zero_add]; exact hcell j u hu)
theorem app_wp {P : Program} {w : World} {o : Oper} {a : Act} {K : Act → World → Prop} {Q : Exit → Act → World → Prop} (s x : Operand) (t1 t2 : TypeId)
    (ho : o.op = .call { callee := .builtin .append, args := #[s, x], argTypes := #[t1, t2] }) (u v : Value) (hs : a.eval s = u) (hx : a.eval x = v) {r : Value} {w1 : World}
    (hrun : (Builtin.append_ #[t1, t2] o.type #[u, v]).run P w = .ok r w1) (h : K (a.put o.dst r) w1) : Oper.wp P o a w K Q := by
  unfold Oper.wp execOp
  simp only [ho, resolve, invoke, builtin, Sem.run_bind, Sem.run_pure, Result.andThen_ok, List.map_toArray, List.map_cons, List.map_nil, hs, hx, hrun]
  exact h
theorem one8 (l : List Nat) : ∀ u ∈ cs8 l, u.oneCell' = true := by intro u hu; obtain ⟨n, _, rfl⟩ := List.mem_map.1 hu; rfl
theorem chk_tn {c n : Nat} {k : Bool} (h : chk c n k = 0) : n < 4294967296 := by
  have := (chk_zero h).2; omega
theorem rangeE {w : World} {g : Nat} {cs : List Value} (h : Bk w g 29 cs) : w.rangeAt g 0 cs := fun j v hj => by rw [Nat.zero_add, h.cell]; exact hj
theorem infoE5 : (Try.prog.info? 29).map (·.size) = some 5 := by kernel_rfl
/-- What the loop of E.Of keeps. -/
def OfR (w : World) (B R : Nat) (i : Nat) (v : Value) (wr : World) : Prop :=
  ∃ (S : Nat → Prop) (es : List El) (cs : List Value), Pl B S es cs v wr ∧ okP es i ∧ Bk wr R 29 [.int .u8 0, .bool false, .int .u32 0, .slice none 0 0, .slice none 0 0] ∧ Below w.heap.size w wr
theorem cntS_ge : ∀ (ss : List El), ss.length ≤ cntS ss
  | [] => Nat.zero_le _
  | .mk _ _ _ _ _ :: ss => by rw [cntS, cntE, List.length_cons]; have := cntS_ge ss; omega
set_option linter.unusedSimpArgs false in
set_option maxHeartbeats 4000000 in
set_option maxRecDepth 100000 in
theorem of_E (A : Option Addr) (gs : List Gd) (N c : Nat) (w : World) (hA : RdG w A gs) (hN : gs.length = N) (_hc : N ≤ c) (_hm : c ≤ maxLen) :
    Calls Try.prog 25 #[.agg #[.slice A N c]] w fun r w' => ∃ e u, r = .returned u ∧ valE e ∧ depE e ≤ 16 ∧ bndE e = true ∧ cntE e ≤ 40 ∧ RdE false (fun i => w.heap.size ≤ i) w' e u ∧ Below w.heap.size w w' := by
  obtain ⟨w2, hw2⟩ : ∃ w2, (w.alloc (.cells #[.slice A N c] 47)).alloc (.cells #[.int .u8 0, .bool false, .int .u32 0, .slice none 0 0, .slice none 0 0] 29) = w2 := ⟨_, rfl⟩
  have hb2 : Below w.heap.size w w2 := by rw [← hw2]; exact bel2 w _ _
  have k0 : Bk w2 w.heap.size 47 [.slice A N c] := by rw [← hw2]; exact (Bk.new w _ [_]).alloc _
  have kr : Bk w2 (w.heap.size + 1) 29 [.int .u8 0, .bool false, .int .u32 0, .slice none 0 0, .slice none 0 0] := by
    have := Bk.new (w.alloc (.cells #[.slice A N c] 47)) 29 [.int .u8 0, .bool false, .int .u32 0, .slice none 0 0, .slice none 0 0]
    rw [World.size_alloc] at this
    rw [← hw2]; exact this
  have hz2 : w2.heap.size = w.heap.size + 2 := by rw [← hw2]; simp
  obtain ⟨G, hG⟩ : ∃ G, w.heap.size = G := ⟨_, rfl⟩
  obtain ⟨R, hR⟩ : ∃ R, G + 1 = R := ⟨_, rfl⟩
  obtain ⟨B, hB⟩ : ∃ B, w2.heap.size = B := ⟨_, rfl⟩
  rw [hG] at k0
  rw [hG, hR] at kr
  have hGR : G ≠ R := by omega
  have hGB : G < B := by omega
  have hRB : R < B := by omega
  have hwB : w.heap.size ≤ B := by omega
  have hwR : w.heap.size ≤ R := by omega
  have HA := Lib.hid hA
  have HN := Lib.hid hN
  have HK0 := Lib.hid k0
  have HW2 := Lib.hid hw2
  have HGG := Lib.hid hG
  have HRR := Lib.hid hR
  have HBB := Lib.hid hB
  have HB2 := Lib.hid hb2
  have H0 : Hid (OfR w B R 0 (.slice none 0 0) w2) := Lib.hid ⟨fun _ => False, [], [], ⟨fun _ h => h.elim, fun _ h => h.elim, fun _ h => h.elim, World.ownsRow_nil _ _ _ _, rfl, Nat.le_of_eq hB.symm⟩, okP_nil, kr, hb2⟩
  clear hA hN k0 kr hw2 hG hR hB hb2 hz2
  go_enter Try.func25, Try.ntmps25
  go_upto_region 3 with fail
  rw [HW2.out, HGG.out, HRR.out]
  go_loopw [4, 3] (fun i v wr => ∃ p : Nat, p ≤ 39 ∧ p ≤ N ∧ i = .int .i64 (p : Int) ∧ OfR w B R p v wr ∧ Below w2.heap.size w2 wr) (fun i _ _ => N - (intOf i).toNat)
  case atStart => exact ⟨0, Nat.zero_le _, Nat.zero_le _, rfl, H0.out, Below.refl _ _⟩
  case round =>
    obtain ⟨p, hp1, hp2, rfl, hof, hbel⟩ := hrel
    have HOF := Lib.hid hof
    have HBel := Lib.hid hbel
    have hk := HK0.out.below hbel HK0.out.lt
    have e0 := hk.cell 0
    simp only [List.getElem?_cons_zero] at e0
    have ez := hk.lt
    clear hof hbel hk
    by_cases hlt : p < N ∧ p < 39
    · obtain ⟨hl1, hl2⟩ := hlt
      have hp39 : decide ((p : Int) < 39) = true := by simp; omega
      obtain ⟨b, off, B5, cb, rfl, hb, hcell, hfit, hrb, hlb, hmb⟩ := HA.out.at_ (i := p) (by rw [HN.out]; exact hl1)
      generalize hgs : gs[p]'(by rw [HN.out]; exact hl1) = gd at *
      obtain ⟨kind, many, a, f, num, bs⟩ := gd
      have c0 := hcell 0 _ rfl
      have c1 := hcell 1 _ rfl
      have c2 := hcell 2 _ rfl
      have c3 := hcell 3 _ rfl
      have c4 := hcell 4 _ rfl
      have c5 := hcell 5 _ rfl
      simp only [Nat.add_zero] at c0
      obtain ⟨f0, f1, f2, f3, f4⟩ := hfit
      dsimp only at f0 f1 f2 f3 f4 hrb hlb
      have HRB := Lib.hid hrb
      have hbw : b < wr.heap.size := by have := HBel.out.size; have := HB2.out.size; omega
      have q0 := (HBel.out.cell (p := ⟨b, off + p * 6, none⟩) (by have := HB2.out.size; show b < _; omega)).trans ((HB2.out.cell (p := ⟨b, off + p * 6, none⟩) hb).trans c0)
      have q1 := (HBel.out.cell (p := ⟨b, off + p * 6 + 1, none⟩) (by have := HB2.out.size; show b < _; omega)).trans ((HB2.out.cell (p := ⟨b, off + p * 6 + 1, none⟩) hb).trans c1)
      have q2 := (HBel.out.cell (p := ⟨b, off + p * 6 + 2, none⟩) (by have := HB2.out.size; show b < _; omega)).trans ((HB2.out.cell (p := ⟨b, off + p * 6 + 2, none⟩) hb).trans c2)
      have q3 := (HBel.out.cell (p := ⟨b, off + p * 6 + 3, none⟩) (by have := HB2.out.size; show b < _; omega)).trans ((HB2.out.cell (p := ⟨b, off + p * 6 + 3, none⟩) hb).trans c3)
      have q4 := (HBel.out.cell (p := ⟨b, off + p * 6 + 4, none⟩) (by have := HB2.out.size; show b < _; omega)).trans ((HB2.out.cell (p := ⟨b, off + p * 6 + 4, none⟩) hb).trans c4)
      have q5 := (HBel.out.cell (p := ⟨b, off + p * 6 + 5, none⟩) (by have := HB2.out.size; show b < _; omega)).trans ((HB2.out.cell (p := ⟨b, off + p * 6 + 5, none⟩) hb).trans c5)
      clear c0 c1 c2 c3 c4 c5 hcell hrb hgs
      dsimp only at q0 q1 q2 q3 q4 q5
      by_cases hk0 : kind % 3 = 0
      · have hkb : (((kind : Int)) % 3 == 0) = true := by simp; omega
        have hkt : ((kind : Int).tmod 3 == 0) = true := by rw [Int.tmod_eq_emod_of_nonneg (by omega)]; exact hkb
        obtain ⟨W5, hW5⟩ : ∃ W5, wr.alloc (.cells #[.int .u8 (kind : Int), .int .u8 (many : Int), .int .u8 (a : Int), .int .u8 0, .int .u32 (num : Int), .slice B5 bs.length cb] 80) = W5 := ⟨_, rfl⟩
        obtain ⟨T, hT⟩ : ∃ T, wr.heap.size = T := ⟨_, rfl⟩
        have k5 : Bk W5 T 80 [.int .u8 (kind : Int), .int .u8 (many : Int), .int .u8 (a : Int), .int .u8 0, .int .u32 (num : Int), .slice B5 bs.length cb] := by rw [← hW5, ← hT]; exact Bk.new wr _ [_, _, _, _, _, _]
        have hb5 : Below wr.heap.size wr W5 := by rw [← hW5]; exact bel1 _ _
        have hof := of_any a 0 num W5 f2 (by decide) f4
        have hchk := of_ok a 0 num f2 (by decide) f4
        rw [show decide (0 % 2 = 1) = false from rfl] at hof hchk
        obtain ⟨tc, htc⟩ : ∃ tc, a % 4 = tc := ⟨_, rfl⟩
        rw [htc] at hof hchk
        obtain ⟨tn, htn⟩ : ∃ tn, ofN tc (num % 268435456) false = tn := ⟨_, rfl⟩
        rw [htn] at hof hchk
        have HO := Lib.hid hof
        have HCHK := Lib.hid hchk
        have HCHK2 : Hid (tc < 256 ∧ tn < 4294967296) := Lib.hid ⟨by omega, chk_tn hchk⟩
        have HK5 := Lib.hid k5
        have HB5 := Lib.hid hb5
        have HW5 := Lib.hid hW5
        have HT := Lib.hid hT
        have hkk := hkb
        clear hof hchk k5 hb5 hW5 htc htn
        go_upto_region 8 with fail
        try rw [HW5.out]
        clear hT
        clear q0 q1 q2 q3 q4 q5 e0
        obtain ⟨t0, t1, t2, t3, t4, t5⟩ : W5.cell? ⟨T, 0, none⟩ = some (.int .u8 (kind : Int)) ∧ W5.cell? ⟨T, 1, none⟩ = some (.int .u8 (many : Int)) ∧ W5.cell? ⟨T, 2, none⟩ = some (.int .u8 (a : Int)) ∧ W5.cell? ⟨T, 3, none⟩ = some (.int .u8 0) ∧ W5.cell? ⟨T, 4, none⟩ = some (.int .u32 (num : Int)) ∧ W5.cell? ⟨T, 5, none⟩ = some (.slice B5 bs.length cb) := ⟨HK5.out.cell 0, HK5.out.cell 1, HK5.out.cell 2, HK5.out.cell 3, HK5.out.cell 4, HK5.out.cell 5⟩
        have tt := HK5.out.lt
        go_wp2_with fail
        refine HO.out.mono ?_
        rintro r w6 ⟨rfl, hb⟩
        have HK6 := Lib.hid (HK5.out.below hb HK5.out.lt)
        have HB6 := Lib.hid (HB5.out.trans (hb.mono HB5.out.size))
        clear hb t0 t1 t2 t3 t4 t5 tt HK5 HB5 HO
        have HB6x := HB6
        obtain ⟨w7, hw7⟩ : ∃ w7, w6.alloc (.cells #[.int .u8 (tc : Int), .bool false, .int .u32 (tn : Int), .slice none 0 0, .slice none 0 0] 29) = w7 := ⟨_, rfl⟩
        have HW7 := Lib.hid hw7
        obtain ⟨D, hD⟩ : ∃ D, w6.heap.size = D := ⟨_, rfl⟩
        have kD : Bk w7 D 29 [.int .u8 (tc : Int), .bool false, .int .u32 (tn : Int), .slice none 0 0, .slice none 0 0] := by rw [← hw7, ← hD]; exact Bk.new w6 _ [_, _, _, _, _]
        have hb7 : Below w6.heap.size w6 w7 := by rw [← hw7]; exact bel1 _ _
        have kT := HK6.out.below hb7 HK6.out.lt
        have hTD : T ≠ D := by have := HK6.out.lt; omega
        have HKD := Lib.hid kD
        have HKT := Lib.hid kT
        have HB7 := Lib.hid (HB6.out.trans (hb7.mono HB6.out.size))
        clear hw7 hb7 kT kD HK6 HB6
        go_upto_region 9 with fail
        rw [HW7.out]
        obtain ⟨L, hL⟩ : ∃ L, bs.length = L := ⟨_, rfl⟩
        obtain ⟨M, hM⟩ : ∃ M, min 20 L = M := ⟨_, rfl⟩
        have hmin : min (20 : Int) (L : Int) = (M : Int) := by omega
        have hM20 : M ≤ 20 := by omega
        have hML : M ≤ L := by omega
        rw [hL] at hlb HKT ⊢
        obtain ⟨wd, hwd⟩ : ∃ wd, w7.drew = wd := ⟨_, rfl⟩
        have hTS : wd.cell? ⟨T, 5, none⟩ = some (.slice B5 L cb) := by rw [← hwd]; exact HKT.out.cell 5
        have hDS : wd.cell? ⟨D, 3, none⟩ = some (.slice none 0 0) := by rw [← hwd]; exact HKD.out.cell 3
        refine wp_region_held_drew (S := fun w' => w'.cell? ⟨T, 5, none⟩ = some (.slice B5 L cb)) (by kernel_rfl) (by rw [hwd]; exact hTS) (fun hS => ?_)
        rw [hwd] at hS ⊢
        have hMc : ¬ cb < M := by omega
        have hMc2 : M ≤ cb := by omega
        have hB0 : Option.map (fun x : Addr => x.add 0) B5 = B5 := by cases B5 <;> simp [Addr.add]
        refine wpAnyH_take (i := 0) (oi := ⟨some 35, _, _, _, _, _⟩) (v := .pointer (some ⟨D, 3, none⟩)) rfl (by kernel_rfl) (by kernel_rfl) (by kernel_rfl) (fun _ _ _ h => h) (Or.inl ⟨by rfl, fun w hSw => by (try dsimp only at hSw); go_simp⟩) hS ?_
        simp only [Act.put, List.setIfInBounds_toArray, List.set_cons_zero, List.set_cons_succ]
        refine wpAnyH_take (i := 2) (oi := ⟨some 37, _, _, _, _, _⟩) (v := .pointer (some ⟨T, 5, none⟩)) rfl (by kernel_rfl) (by kernel_rfl) (by kernel_rfl) (fun _ _ _ h => h) (Or.inl ⟨by rfl, fun w hSw => by (try dsimp only at hSw); go_simp⟩) hS ?_
        simp only [Act.put, List.setIfInBounds_toArray, List.set_cons_zero, List.set_cons_succ]
        refine wpAnyH_take (i := 3) (oi := ⟨some 38, _, _, _, _, _⟩) (v := .slice B5 L cb) rfl (by kernel_rfl) (by kernel_rfl) (by kernel_rfl) (fun _ _ _ h => h) (Or.inl ⟨by rfl, fun w hSw => by (try dsimp only at hSw); go_simp⟩) hS ?_
        simp only [Act.put, List.setIfInBounds_toArray, List.set_cons_zero, List.set_cons_succ]
        refine wpAnyH_take (i := 4) (oi := ⟨some 39, _, _, _, _, _⟩) (v := .pointer (some ⟨T, 5, none⟩)) rfl (by kernel_rfl) (by kernel_rfl) (by kernel_rfl) (fun _ _ _ h => h) (Or.inl ⟨by rfl, fun w hSw => by (try dsimp only at hSw); go_simp⟩) hS ?_
        simp only [Act.put, List.setIfInBounds_toArray, List.set_cons_zero, List.set_cons_succ]
        refine wpAnyH_take (i := 5) (oi := ⟨some 40, _, _, _, _, _⟩) (v := .slice B5 L cb) rfl (by kernel_rfl) (by kernel_rfl) (by kernel_rfl) (fun _ _ _ h => h) (Or.inl ⟨by rfl, fun w hSw => by (try dsimp only at hSw); go_simp⟩) hS ?_
        simp only [Act.put, List.setIfInBounds_toArray, List.set_cons_zero, List.set_cons_succ]
        refine wpAnyH_take (i := 6) (oi := ⟨some 41, _, _, _, _, _⟩) (v := .int .i64 (L : Int)) rfl (by kernel_rfl) (by kernel_rfl) (by kernel_rfl) (fun _ _ _ h => h) (Or.inl ⟨by rfl, fun w hSw => by (try dsimp only at hSw); go_simp⟩) hS ?_
        simp only [Act.put, List.setIfInBounds_toArray, List.set_cons_zero, List.set_cons_succ]
        refine wpAnyH_take (i := 7) (oi := ⟨some 42, _, _, _, _, _⟩) (v := .int .i64 (M : Int)) rfl (by kernel_rfl) (by kernel_rfl) (by kernel_rfl) (fun _ _ _ h => h) (Or.inl ⟨by rfl, fun w hSw => by (try dsimp only at hSw); go_simp⟩) hS ?_
        simp only [Act.put, List.setIfInBounds_toArray, List.set_cons_zero, List.set_cons_succ]
        refine wpAnyH_take (i := 8) (oi := ⟨some 43, _, _, _, _, _⟩) (v := .slice B5 M cb) rfl (by kernel_rfl) (by kernel_rfl) (by kernel_rfl) (fun _ _ _ h => h) (Or.inl ⟨by rfl, fun w hSw => by (try dsimp only at hSw); go_simp⟩) hS ?_
        simp only [Act.put, List.setIfInBounds_toArray, List.set_cons_zero, List.set_cons_succ]
        refine wpAnyH_ready (rs := [1]) (by kernel_rfl) (by simp) ?_
        refine AllReadyH.cons (o := _) rfl (fun K hK => ?_) (AllReadyH.nil)
        go_simp
        refine hK.out _ _ (hTS) (fun hS => ?_)
        clear hK K
        (try simp only [Act.put, List.setIfInBounds_toArray, List.set_cons_zero, List.set_cons_succ])

        have hsrc : Rd wd B5 (cs8 (bs.take M)) := by
          have h1 : Rb wd B5 bs := HRB.out.below (by rw [← hwd]; exact ((HB2.out.trans (HBel.out.mono HB2.out.size)).trans (HB7.out.mono (HB2.out.trans (HBel.out.mono HB2.out.size)).size)).drew)
          exact (h1.take_ M).1
        have hlt20 : (cs8 (bs.take M)).length = M := by rw [cs8_length, List.length_take]; omega
        obtain ⟨v2, w8, hrun, hown, hb8⟩ := Len.app_src (P := Try.prog) (t := 26) (ty := 26) Try.underlying26 info5 rfl (base := wd.heap.size) (v := .slice none 0 0) (xs := []) (World.ownsRow_nil _ _ _ _) (A := B5) (ys := cs8 (bs.take M)) (c := cb) hsrc (one8 _) (Nat.le_refl _) (by simp; omega) (by simp; unfold maxLen; omega)
        rw [List.nil_append] at hown
        rw [hlt20] at hrun
        have hbd : Below w7.heap.size w7 wd := by rw [← hwd]; exact ⟨rfl, rfl, rfl, Nat.le_refl _, fun _ _ => rfl⟩
        have HB8 := Lib.hid (HB7.out.trans ((hbd.trans (hb8.mono hbd.size)).mono HB7.out.size))
        have HK8 := Lib.hid ((HKD.out.below hbd HKD.out.lt).below hb8 (HKD.out.below hbd HKD.out.lt).lt)
        have HT8 := Lib.hid ((HKT.out.below hbd HKT.out.lt).below hb8 (HKT.out.below hbd HKT.out.lt).lt)
        have hsz8 : wd.heap.size ≤ w8.heap.size := hb8.size
        refine wpAnyH_ready (rs := [9]) (by kernel_rfl) (by simp) ?_
        refine AllReadyH.cons (o := _) rfl (fun K hK => ?_) (AllReadyH.nil)
        first | rw [if_pos (by rfl)] | rw [if_pos (by kernel_rfl)]
        refine app_wp (.tmp 36) (.tmp 43) _ _ rfl _ _ rfl rfl hrun ?_
        refine hK.out _ _ (HT8.out.cell 5) (fun hS => ?_)
        clear hK K
        (try simp only [Act.put, List.setIfInBounds_toArray, List.set_cons_zero, List.set_cons_succ])
        refine wpAnyH_take (i := 10) (oi := ⟨some 45, _, _, _, _, _⟩) (v := .pointer (some ⟨D, 3, none⟩)) rfl (by kernel_rfl) (by kernel_rfl) (by kernel_rfl) (fun _ _ _ h => h) (Or.inl ⟨by rfl, fun w hSw => by (try dsimp only at hSw); go_simp⟩) hS ?_
        simp only [Act.put, List.setIfInBounds_toArray, List.set_cons_zero, List.set_cons_succ]

        obtain ⟨A2, d2, rfl, hrd2, hd2a, hd2b⟩ := own_open hown
        rw [hlt20] at hd2a ⊢
        have hfr := HK8.out.free 3
        have hc3 : w8.cell? ⟨D, 3, none⟩ = some (.slice none 0 0) := HK8.out.cell 3
        have HK9 := Lib.hid (HK8.out.store 3 (.slice A2 M d2))
        have HT9 := Lib.hid (HT8.out.far (p := ⟨D, 3, none⟩) hTD (.slice A2 M d2))
        have HW9 : Hid (∃ w9, w8.setCell ⟨D, 3, none⟩ (.slice A2 M d2) = w9) := Lib.hid ⟨_, rfl⟩
        refine wpAnyH_ready (rs := [11]) (by kernel_rfl) (by simp) ?_
        refine AllReadyH.cons (o := _) rfl (fun K hK => ?_) (AllReadyH.nil)
        go_simp
        refine hK.out _ _ (HT9.out.cell 5) (fun hS => ?_)
        clear hK K
        (try simp only [Act.put, List.setIfInBounds_toArray, List.set_cons_zero, List.set_cons_succ])
        refine wpAnyH_done (by kernel_rfl) ?_ _
        obtain ⟨w9, hw9⟩ := HW9.out
        have hDlt : wr.heap.size ≤ D := by rw [← hD]; exact HB6x.out.size
        have HB9 : Hid (Below wr.heap.size wr w9) := Lib.hid (by rw [← hw9]; exact HB8.out.setCell (p := ⟨D, 3, none⟩) hDlt _)
        have hA2 : RdX (fun j => wr.heap.size ≤ j ∧ j < w9.heap.size) w9 A2 (cs8 (bs.take M)) := by
          intro hne
          have hown2 := hown
          rcases hown2.2 with ⟨e, h0⟩ | ⟨g, cap', cur, e, hg, hh, r⟩
          · exact absurd (List.eq_nil_of_length_eq_zero h0) hne
          · injection e with e1 e2 e3
            have hgl := (hown.lt g (by rw [e1]; rfl)).2
            have hgD : g ≠ D := by have := (HKD.out.below hbd HKD.out.lt).lt; omega
            refine ⟨g, 0, e1, by rw [← hw9]; simpa [World.setCell] using hgl, ⟨by have := HB7.out.size; have := hbd.size; omega, by rw [← hw9]; simpa [World.setCell] using hgl⟩, fun j u hu => ?_⟩
            rw [← hw9, World.cell?_setCell_far _ _ _ _ (fun e => hgD e.symm)]
            have := hown.cells (g := g) (by rw [e1]; rfl) j u hu
            rwa [addr_add] at this
        have hmk : RdE false (fun j => wr.heap.size ≤ j ∧ j < w9.heap.size) w9 (.mk tc tn false (bs.take M) []) (elV tc tn false (.slice A2 M d2) (.slice none 0 0)) :=
          ⟨HCHK2.out.1, HCHK2.out.2, HRB.out.2.take M, A2, d2, none, 0, by rw [show (bs.take M).length = M by rw [List.length_take]; omega]; rfl, hA2, by rw [List.length_take]; omega, hd2b, Nat.le_refl _, Nat.zero_le _, fun h => (by cases h), trivial⟩
        obtain ⟨S, es, cs, hpl, hok, hbr, hbb⟩ := HOF.out
        have hesl : es.length ≤ 39 := by have := cntS_ge es; have := hok.2; omega
        obtain ⟨g2, cap2, S', cs', w10, hrun2, hpl2, hb10⟩ := hpl.push (by omega) HB9.out hmk
        have hok2 := okP_push hok (okE_prim (bs.take M) HCHK.out (by rw [List.length_take]; omega)) (by rw [cntE, cntS])
        have HK10 := HK9.out
        have x0 : w9.cell? ⟨D, 0, none⟩ = some (.int .u8 (tc : Int)) := by rw [← hw9]; exact HK10.cell 0
        have x1 : w9.cell? ⟨D, 1, none⟩ = some (.bool false) := by rw [← hw9]; exact HK10.cell 1
        have x2 : w9.cell? ⟨D, 2, none⟩ = some (.int .u32 (tn : Int)) := by rw [← hw9]; exact HK10.cell 2
        have x3 : w9.cell? ⟨D, 3, none⟩ = some (.slice A2 M d2) := by rw [← hw9]; exact HK10.cell 3
        have x4 : w9.cell? ⟨D, 4, none⟩ = some (.slice none 0 0) := by rw [← hw9]; exact HK10.cell 4
        have HNEW : Hid (OfR w B R (p + 1) (.slice (some ⟨g2, 0, none⟩) (es.length + 1) cap2) w10 ∧ Below w2.heap.size w2 w10) := Lib.hid (by
          have q1 : Below w2.heap.size w2 w9 := HBel.out.trans (HB9.out.mono HBel.out.size)
          have q2 : Below w.heap.size w w9 := HB2.out.trans (q1.mono HB2.out.size)
          have q3 : Bk w9 R 29 [.int .u8 0, .bool false, .int .u32 0, .slice none 0 0, .slice none 0 0] := hbr.below HB9.out hbr.lt
          exact ⟨⟨S', _, cs', hpl2, hok2, q3.below hb10 hRB, q2.trans (hb10.mono hwB)⟩, q1.trans (by rw [HBB.out]; exact hb10)⟩)
        rw [hw9]
        clear hw9 hpl hok hbr hbb hok2 hpl2 hb10 hmk hA2 hown hrd2 hfr hc3 hMc hMc2 hB0 hTS hDS hS hsrc HK10 hrun
        go_wp2_with (at_builtin; refine wpList_app rfl _ _ _ _ rfl _ _ rfl rfl hrun2 ?_)
        exact ⟨⟨p + 1, by omega, by omega, by go_num, HNEW.out.1, HNEW.out.2⟩, by simp [intOf]; omega⟩
      · have hkb : (((kind : Int)) % 3 == 0) = false := by simp; omega
        have hkt : ((kind : Int).tmod 3 == 0) = false := by rw [Int.tmod_eq_emod_of_nonneg (by omega)]; exact hkb
        obtain ⟨S, es, cs, hpl, hok, hbr, hbb⟩ := HOF.out
        obtain ⟨Av, cv, rfl, hnc, hcm, hcase⟩ := hpl.form
        obtain ⟨n, hn⟩ : ∃ n, es.length = n := ⟨_, rfl⟩
        have hesl : n ≤ 39 := by have := cntS_ge es; have := hok.2; omega
        rw [hn] at hpl
        have HPL := Lib.hid hpl
        have HOK := Lib.hid hok
        have HBR := Lib.hid hbr
        have HBB2 := Lib.hid hbb
        have HNN := Lib.hid hn
        rw [hn] at hnc ⊢
        clear hpl hok hbr hbb hcase hn HOF
        obtain ⟨qm, hq5⟩ : ∃ qm, many % 5 = qm := ⟨_, rfl⟩
        have hq5i : (many : Int) % 5 = (qm : Int) := by omega
        have hq5t : (many : Int).tmod 5 = (qm : Int) := by rw [Int.tmod_eq_emod_of_nonneg (by omega)]; exact hq5i
        have hq5l : qm < 5 := by omega
        obtain ⟨m1, hm1⟩ : ∃ m1, min qm n = m1 := ⟨_, rfl⟩
        have hm1i : min (qm : Int) (n : Int) = (m1 : Int) := by omega
        have hm1n : m1 ≤ n := by omega
        clear hq5 hm1
        obtain ⟨W5, hW5⟩ : ∃ W5, wr.alloc (.cells #[.int .u8 (kind : Int), .int .u8 (many : Int), .int .u8 (a : Int), .int .u8 1, .int .u32 (num : Int), .slice B5 bs.length cb] 80) = W5 := ⟨_, rfl⟩
        obtain ⟨T, hT⟩ : ∃ T, wr.heap.size = T := ⟨_, rfl⟩
        have k5 : Bk W5 T 80 [.int .u8 (kind : Int), .int .u8 (many : Int), .int .u8 (a : Int), .int .u8 1, .int .u32 (num : Int), .slice B5 bs.length cb] := by rw [← hW5, ← hT]; exact Bk.new wr _ [_, _, _, _, _, _]
        have hb5 : Below wr.heap.size wr W5 := by rw [← hW5]; exact bel1 _ _
        have hof := of_any a 1 num W5 f2 (by decide) f4
        have hchk := of_ok a 1 num f2 (by decide) f4
        rw [show decide (1 % 2 = 1) = true from rfl] at hof hchk
        obtain ⟨tc, htc⟩ : ∃ tc, a % 4 = tc := ⟨_, rfl⟩
        rw [htc] at hof hchk
        obtain ⟨tn, htn⟩ : ∃ tn, ofN tc (num % 268435456) true = tn := ⟨_, rfl⟩
        rw [htn] at hof hchk
        have HO := Lib.hid hof
        have HCHK := Lib.hid hchk
        have HCHK2 : Hid (tc < 256 ∧ tn < 4294967296) := Lib.hid ⟨by omega, chk_tn hchk⟩
        have HK5 := Lib.hid k5
        have HB5 := Lib.hid hb5
        have HW5 := Lib.hid hW5
        have HT := Lib.hid hT
        have hkk := hkb
        clear hof hchk k5 hb5 hW5 htc htn
        go_upto_region 12 with fail
        try rw [HW5.out]
        clear hT
        clear q0 q1 q2 q3 q4 q5 e0
        obtain ⟨t0, t1, t2, t3, t4, t5⟩ : W5.cell? ⟨T, 0, none⟩ = some (.int .u8 (kind : Int)) ∧ W5.cell? ⟨T, 1, none⟩ = some (.int .u8 (many : Int)) ∧ W5.cell? ⟨T, 2, none⟩ = some (.int .u8 (a : Int)) ∧ W5.cell? ⟨T, 3, none⟩ = some (.int .u8 1) ∧ W5.cell? ⟨T, 4, none⟩ = some (.int .u32 (num : Int)) ∧ W5.cell? ⟨T, 5, none⟩ = some (.slice B5 bs.length cb) := ⟨HK5.out.cell 0, HK5.out.cell 1, HK5.out.cell 2, HK5.out.cell 3, HK5.out.cell 4, HK5.out.cell 5⟩
        have tt := HK5.out.lt
        by_cases hk2 : kind % 3 = 2
        · have hkb2 : (((kind : Int)) % 3 == 2) = true := by simp; omega
          have hkt2 : ((kind : Int).tmod 3 == 2) = true := by rw [Int.tmod_eq_emod_of_nonneg (by omega)]; exact hkb2
          obtain ⟨m, hm⟩ : ∃ m, m = n := ⟨_, rfl⟩
          have hmn : m ≤ n := by omega
          go_upto_region 15 with fail
          rw [show Value.int IntKind.i64 (n : Int) = Value.int IntKind.i64 (m : Int) by rw [hm]]
          clear hm
          go_wp2_with fail
          refine HO.out.mono ?_
          rintro r w6 ⟨rfl, hb⟩
          have HB6 := Lib.hid (HB5.out.trans (hb.mono HB5.out.size))
          clear hb t0 t1 t2 t3 t4 t5 tt HK5 HB5 HO
          try clear hkb2 hkt2
          clear hkb hkt hkk
          obtain ⟨w7, hw7⟩ : ∃ w7, w6.alloc (.cells #[.int .u8 (tc : Int), .bool true, .int .u32 (tn : Int), .slice none 0 0, .slice none 0 0] 29) = w7 := ⟨_, rfl⟩
          have HW7 := Lib.hid hw7
          obtain ⟨D, hD⟩ : ∃ D, w6.heap.size = D := ⟨_, rfl⟩
          have kD : Bk w7 D 29 [.int .u8 (tc : Int), .bool true, .int .u32 (tn : Int), .slice none 0 0, .slice none 0 0] := by rw [← hw7, ← hD]; exact Bk.new w6 _ [_, _, _, _, _]
          have hb7 : Below w6.heap.size w6 w7 := by rw [← hw7]; exact bel1 _ _
          have hDlt : wr.heap.size ≤ D := by rw [← hD]; exact HB6.out.size
          have HKD := Lib.hid kD
          have HB7 := Lib.hid (HB6.out.trans (hb7.mono HB6.out.size))
          have HDL := Lib.hid hDlt
          clear hw7 hb7 kD HB6 hDlt
          go_upto_region 16 with fail
          rw [HW7.out]
          obtain ⟨k, hk⟩ : ∃ k, n - m = k := ⟨_, rfl⟩
          have hkm : (n : Int) - (m : Int) = (k : Int) := by omega
          have hkn : k ≤ n := by omega
          have hkw : IntKind.i64.wrap (k : Int) = (k : Int) := IntWalk.i64_in _ (by omega)
          have hkmn : k + m = n := by omega
          obtain ⟨wd, hwd⟩ : ∃ wd, w7.drew = wd := ⟨_, rfl⟩
          have hbd : Below w7.heap.size w7 wd := by rw [← hwd]; exact ⟨rfl, rfl, rfl, Nat.le_refl _, fun _ _ => rfl⟩
          have HBD := Lib.hid (HB7.out.trans (hbd.mono HB7.out.size))
          have HKDd := Lib.hid (HKD.out.below hbd HKD.out.lt)
          have hPLd := HPL.out.below HBD.out
          have hDS : wd.cell? ⟨D, 4, none⟩ = some (.slice none 0 0) := HKDd.out.cell 4
          obtain ⟨s, cap, w8, hrun, hg8, hmc, hcm8, hrs⟩ := hPLd.last (by rw [HNN.out]; omega) (k := k) (m := m) (by rw [HNN.out]; exact hkmn) (by rw [HNN.out])
          rw [HNN.out] at hrun
          have hsl := slE Av n cv k hkn
          obtain ⟨sv, hsv⟩ : ∃ sv, sliced Av k n cv 5 = sv := ⟨_, rfl⟩
          rw [hsv] at hrun hsl
          clear hk hbd
          refine wp_region_held_drew (S := fun _ => True) (by kernel_rfl) trivial (fun hS => ?_)
          rw [hwd]
          clear hwd
          refine wpAnyH_take (i := 0) (oi := ⟨some 69, _, _, _, _, _⟩) (v := .pointer (some ⟨D, 4, none⟩)) rfl (by kernel_rfl) (by kernel_rfl) (by kernel_rfl) (fun _ _ _ h => h) (Or.inl ⟨by rfl, fun w hSw => by (try dsimp only at hSw); go_simp⟩) hS ?_
          simp only [Act.put, List.setIfInBounds_toArray, List.set_cons_zero, List.set_cons_succ]
          refine wpAnyH_take (i := 2) (oi := ⟨some 71, _, _, _, _, _⟩) (v := .slice Av n cv) rfl (by kernel_rfl) (by kernel_rfl) (by kernel_rfl) (fun _ _ _ h => h) (Or.inl ⟨by rfl, fun w hSw => by (try dsimp only at hSw); go_simp⟩) hS ?_
          simp only [Act.put, List.setIfInBounds_toArray, List.set_cons_zero, List.set_cons_succ]
          refine wpAnyH_take (i := 3) (oi := ⟨some 72, _, _, _, _, _⟩) (v := .slice Av n cv) rfl (by kernel_rfl) (by kernel_rfl) (by kernel_rfl) (fun _ _ _ h => h) (Or.inl ⟨by rfl, fun w hSw => by (try dsimp only at hSw); go_simp⟩) hS ?_
          simp only [Act.put, List.setIfInBounds_toArray, List.set_cons_zero, List.set_cons_succ]
          refine wpAnyH_take (i := 4) (oi := ⟨some 73, _, _, _, _, _⟩) (v := .int .i64 (n : Int)) rfl (by kernel_rfl) (by kernel_rfl) (by kernel_rfl) (fun _ _ _ h => h) (Or.inl ⟨by rfl, fun w hSw => by (try dsimp only at hSw); go_simp⟩) hS ?_
          simp only [Act.put, List.setIfInBounds_toArray, List.set_cons_zero, List.set_cons_succ]
          refine wpAnyH_take (i := 5) (oi := ⟨some 74, _, _, _, _, _⟩) (v := .int .i64 (m : Int)) rfl (by kernel_rfl) (by kernel_rfl) (by kernel_rfl) (fun _ _ _ h => h) (Or.inl ⟨by rfl, fun w hSw => by (try dsimp only at hSw); go_simp⟩) hS ?_
          simp only [Act.put, List.setIfInBounds_toArray, List.set_cons_zero, List.set_cons_succ]
          refine wpAnyH_take (i := 6) (oi := ⟨some 75, _, _, _, _, _⟩) (v := .int .i64 (k : Int)) rfl (by kernel_rfl) (by kernel_rfl) (by kernel_rfl) (fun _ _ _ h => h) (Or.inl ⟨by rfl, fun w hSw => by (try dsimp only at hSw); go_simp⟩) hS ?_
          simp only [Act.put, List.setIfInBounds_toArray, List.set_cons_zero, List.set_cons_succ]
          refine wpAnyH_take (i := 7) (oi := ⟨some 76, _, _, _, _, _⟩) (v := sv) rfl (by kernel_rfl) (by kernel_rfl) (by kernel_rfl) (fun _ _ _ h => h) (Or.inl ⟨by rfl, fun w hSw => by (try dsimp only at hSw); go_simp⟩) hS ?_
          simp only [Act.put, List.setIfInBounds_toArray, List.set_cons_zero, List.set_cons_succ]
          refine wpAnyH_ready (rs := [1]) (by kernel_rfl) (by simp) ?_
          refine AllReadyH.cons (o := _) rfl (fun K hK => ?_) (AllReadyH.nil)
          go_simp
          refine hK.out _ _ (trivial) (fun hS => ?_)
          clear hK K
          (try simp only [Act.put, List.setIfInBounds_toArray, List.set_cons_zero, List.set_cons_succ])
          refine wpAnyH_ready (rs := [8]) (by kernel_rfl) (by simp) ?_
          refine AllReadyH.cons (o := _) rfl (fun K hK => ?_) (AllReadyH.nil)
          first | rw [if_pos (by rfl)] | rw [if_pos (by kernel_rfl)]
          refine app_wp (.tmp 70) (.tmp 76) _ _ rfl _ _ rfl rfl hrun ?_
          refine hK.out _ _ (trivial) (fun hS => ?_)
          clear hK K
          (try simp only [Act.put, List.setIfInBounds_toArray, List.set_cons_zero, List.set_cons_succ])
          refine wpAnyH_take (i := 9) (oi := ⟨some 78, _, _, _, _, _⟩) (v := .pointer (some ⟨D, 4, none⟩)) rfl (by kernel_rfl) (by kernel_rfl) (by kernel_rfl) (fun _ _ _ h => h) (Or.inl ⟨by rfl, fun w hSw => by (try dsimp only at hSw); go_simp⟩) hS ?_
          simp only [Act.put, List.setIfInBounds_toArray, List.set_cons_zero, List.set_cons_succ]

          have HB8 : Hid (Below wr.heap.size wr w8) := Lib.hid (HBD.out.grown hg8 HBD.out.size (fun k e => by cases e))
          have HK8 := Lib.hid (HKDd.out.only hg8 (by intro e; cases e))
          have hfr := HK8.out.free 4
          have hc4 : w8.cell? ⟨D, 4, none⟩ = some (.slice none 0 0) := HK8.out.cell 4
          have HW9 : Hid (∃ w9, w8.setCell ⟨D, 4, none⟩ (.slice s m cap) = w9) := Lib.hid ⟨_, rfl⟩
          refine wpAnyH_ready (rs := [10]) (by kernel_rfl) (by simp) ?_
          refine AllReadyH.cons (o := _) rfl (fun K hK => ?_) (AllReadyH.nil)
          go_simp
          refine hK.out _ _ (trivial) (fun hS => ?_)
          clear hK K
          (try simp only [Act.put, List.setIfInBounds_toArray, List.set_cons_zero, List.set_cons_succ])
          refine wpAnyH_done (by kernel_rfl) ?_ _
          obtain ⟨w9, hw9⟩ := HW9.out
          have HB9 : Hid (Below wr.heap.size wr w9) := Lib.hid (by rw [← hw9]; exact HB8.out.setCell (p := ⟨D, 4, none⟩) HDL.out _)
          have HK9 : Hid (Bk w9 D 29 [.int .u8 (tc : Int), .bool true, .int .u32 (tn : Int), .slice none 0 0, .slice s m cap]) := Lib.hid (by rw [← hw9]; exact HK8.out.store 4 (.slice s m cap))
          have hsz9 : w9.heap.size = w8.heap.size := by rw [← hw9]; simp [World.setCell]
          have hTs : ∀ j, (S j ∨ (wd.heap.size ≤ j ∧ j < w8.heap.size)) → B ≤ j ∧ j < w9.heap.size ∧ (Value.slice Av n cv).ownBlock ≠ some j := by
            rintro j (hj | hj)
            · exact ⟨HPL.out.sb j hj, Nat.lt_of_lt_of_le (HPL.out.sl j hj) HB9.out.size, HPL.out.so j hj⟩
            · refine ⟨by have := HPL.out.bz; have := HBD.out.size; omega, by omega, fun e => ?_⟩
              have := (HPL.out.ob e).2; have := HBD.out.size; omega
          have HPL9 := Lib.hid ((HPL.out.below HB9.out).widen (T := fun j => S j ∨ (wd.heap.size ≤ j ∧ j < w8.heap.size)) (fun j hj => .inl hj) hTs)
          have hDd := HKDd.out.lt
          have hrs9 : RdS false (fun j => S j ∨ (wd.heap.size ≤ j ∧ j < w8.heap.size)) w9 s (es.drop k) := RdS.keep (by omega) (fun j hj _ => by
            rw [← hw9]
            exact Below.heap_setCell w8 ⟨D, 4, none⟩ _ j (by
              rintro rfl
              rcases hj with hj | hj
              · have := HPL.out.sl _ hj; have := HDL.out; omega
              · omega)) (fun _ hj _ => hj) _ _ hrs
          have hdl : (es.drop k).length = m := by rw [List.length_drop, HNN.out]; omega
          have HE9 : Hid (RdE false (fun j => S j ∨ (wd.heap.size ≤ j ∧ j < w8.heap.size)) w9 (.mk tc tn true [] (es.drop k)) (elV tc tn true (.slice none 0 0) (.slice s m cap))) := Lib.hid
            ⟨HCHK2.out.1, HCHK2.out.2, All8.nil, none, 0, s, cap, by rw [hdl]; rfl, RdX.nil, Nat.le_refl _, Nat.zero_le _, by rw [hdl]; exact hmc, hcm8, fun h => (by cases h), hrs9⟩
          have hdep : depE (.mk tc tn true [] (es.drop k)) ≤ 16 := by
            have := depS_of (m := 15) (ss := es.drop k) fun e he => (HOK.out.1 e (List.mem_of_mem_drop he)).2.1
            rw [depE]; omega
          have HDP := Lib.hid (rdep_any _ _ w9 (by omega) HE9.out)
          obtain ⟨x0, x1, x2, x3, x4, xz⟩ := HK9.out.five
          rw [hw9]
          have HHW9 := Lib.hid hw9
          clear hw9 hrs hrs9 hTs hDS hfr hc4 hrun hsl hsv hg8 hPLd HKDd HK8 HB8 hS HPL HBD HB7 HKD
          go_wp2_with fail
          refine HDP.out.mono ?_
          rintro r w11 ⟨rfl, hb⟩
          have HK11 := Lib.hid (HK9.out.below hb HK9.out.lt)
          have HB11 := Lib.hid (HB9.out.trans (hb.mono HB9.out.size))
          have HPL11 := Lib.hid (HPL9.out.below hb)
          have HE11 := Lib.hid (RdE.keep (T := fun j => S j ∨ (wd.heap.size ≤ j ∧ j < w8.heap.size)) hb.size (fun j _ hl => hb.block j hl) (fun _ hj _ => hj) _ _ HE9.out)
          clear hb x0 x1 x2 x3 x4 xz HK9 HB9 HPL9 HE9 HDP hsz9
          obtain ⟨dp, hdp⟩ : ∃ dp, depE (.mk tc tn true [] (es.drop k)) = dp := ⟨_, rfl⟩
          rw [hdp] at hdep ⊢
          have HDPE := Lib.hid hdp
          clear hdp
          by_cases hd15 : dp < 15
          rotate_left
          · go_wp2_with fail
            exact ⟨⟨p + 1, by omega, by omega, by go_num, ⟨_, es, cs, HPL11.out, okP_step HOK.out, HBR.out.below HB11.out HBR.out.lt, HBB2.out.trans (HB11.out.mono HBB2.out.size)⟩, HBel.out.trans (HB11.out.mono HBel.out.size)⟩, by simp [intOf]; omega⟩
          go_upto_region 18 with fail
          obtain ⟨wz, hwz⟩ : ∃ wz, w11.drew = wz := ⟨_, rfl⟩
          have hbz : Below w11.heap.size w11 wz := by rw [← hwz]; exact ⟨rfl, rfl, rfl, Nat.le_refl _, fun _ _ => rfl⟩
          have HBZ := Lib.hid (HB11.out.trans (hbz.mono HB11.out.size))
          have KZ := Lib.hid (HK11.out.below hbz HK11.out.lt)
          have PZ := Lib.hid (HPL11.out.below hbz)
          have EZ := Lib.hid (RdE.keep (T := fun j => S j ∨ (wd.heap.size ≤ j ∧ j < w8.heap.size)) hbz.size (fun j _ hl => hbz.block j hl) (fun _ hj _ => hj) _ _ HE11.out)
          have hst := slT Av n cv k (by omega)
          have hkl : k ≤ es.length := by rw [HNN.out]; exact hkn
          have hel : es.length ≤ 1000 := by rw [HNN.out]; omega
          refine wp_region_held_drew (S := fun W => Bk W D 29 [.int .u8 (tc : Int), .bool true, .int .u32 (tn : Int), .slice none 0 0, .slice s m cap]) (by kernel_rfl) (by rw [hwz]; exact KZ.out) (fun hS => ?_)
          rw [hwz] at hS ⊢
          clear hbz hwz HB11 HK11 HPL11 HE11
          refine wpAnyH_take (i := 1) (oi := ⟨some 83, _, _, _, _, _⟩) (v := .slice Av n cv) rfl (by kernel_rfl) (by kernel_rfl) (by kernel_rfl) (fun _ _ _ h => h) (Or.inl ⟨by rfl, fun w hSw => by (try dsimp only at hSw); go_simp⟩) hS ?_
          simp only [Act.put, List.setIfInBounds_toArray, List.set_cons_zero, List.set_cons_succ]
          refine wpAnyH_take (i := 2) (oi := ⟨some 84, _, _, _, _, _⟩) (v := .slice Av n cv) rfl (by kernel_rfl) (by kernel_rfl) (by kernel_rfl) (fun _ _ _ h => h) (Or.inl ⟨by rfl, fun w hSw => by (try dsimp only at hSw); go_simp⟩) hS ?_
          simp only [Act.put, List.setIfInBounds_toArray, List.set_cons_zero, List.set_cons_succ]
          refine wpAnyH_take (i := 3) (oi := ⟨some 85, _, _, _, _, _⟩) (v := .int .i64 (n : Int)) rfl (by kernel_rfl) (by kernel_rfl) (by kernel_rfl) (fun _ _ _ h => h) (Or.inl ⟨by rfl, fun w hSw => by (try dsimp only at hSw); go_simp⟩) hS ?_
          simp only [Act.put, List.setIfInBounds_toArray, List.set_cons_zero, List.set_cons_succ]
          refine wpAnyH_take (i := 4) (oi := ⟨some 86, _, _, _, _, _⟩) (v := .int .i64 (m : Int)) rfl (by kernel_rfl) (by kernel_rfl) (by kernel_rfl) (fun _ _ _ h => h) (Or.inl ⟨by rfl, fun w hSw => by (try dsimp only at hSw); go_simp⟩) hS ?_
          simp only [Act.put, List.setIfInBounds_toArray, List.set_cons_zero, List.set_cons_succ]
          refine wpAnyH_take (i := 5) (oi := ⟨some 87, _, _, _, _, _⟩) (v := .int .i64 (k : Int)) rfl (by kernel_rfl) (by kernel_rfl) (by kernel_rfl) (fun _ _ _ h => h) (Or.inl ⟨by rfl, fun w hSw => by (try dsimp only at hSw); go_simp⟩) hS ?_
          simp only [Act.put, List.setIfInBounds_toArray, List.set_cons_zero, List.set_cons_succ]
          refine wpAnyH_take (i := 6) (oi := ⟨some 88, _, _, _, _, _⟩) (v := .slice Av k cv) rfl (by kernel_rfl) (by kernel_rfl) (by kernel_rfl) (fun _ _ _ h => h) (Or.inl ⟨by rfl, fun w hSw => by (try dsimp only at hSw); go_simp⟩) hS ?_
          simp only [Act.put, List.setIfInBounds_toArray, List.set_cons_zero, List.set_cons_succ]
          refine wpAnyH_take (i := 8) (oi := ⟨some 90, _, _, _, _, _⟩) (v := elV tc tn true (.slice none 0 0) (.slice s m cap)) rfl (by kernel_rfl) (by kernel_rfl) (by kernel_rfl) (fun _ _ _ h => h) (yieldsIf_load_mid (by rfl) 29 (.tmp 8) rfl (D) 0 rfl [.int .u8 (tc : Int), .bool true, .int .u32 (tn : Int), .slice none 0 0, .slice s m cap] _ (fun W h => rangeE h) Try.underlying29 rfl infoE5) hS ?_
          simp only [Act.put, List.setIfInBounds_toArray, List.set_cons_zero, List.set_cons_succ]
          have hDz := KZ.out.lt
          have HPB := Lib.hid (show B ≤ wr.heap.size from by have := HBel.out.size; have := HBB.out; omega)
          have hnT : ∀ b, wz.heap.size ≤ b → ¬ (fun j => S j ∨ (wd.heap.size ≤ j ∧ j < w8.heap.size)) b := fun b hb hj => by have := PZ.out.sl b hj; omega
          refine wpAnyH_ready (rs := [0, 9]) (by kernel_rfl) (by simp) ?_
          refine AllReadyH.cons (o := _) rfl (fun K hK => ?_) (AllReadyH.cons (o := _) rfl (fun K hK => ?_) (AllReadyH.nil))
          · go_simp
            refine hK.out _ _ (hS.alloc _) (fun hS => ?_)
            clear hK K
            (try simp only [Act.put, List.setIfInBounds_toArray, List.set_cons_zero, List.set_cons_succ])
            have P1 := PZ.out.below (bel1 wz (.cells #[] 29))
            obtain ⟨v2, W2, hr1, hp2, hg2, hob2⟩ := P1.first hel hkl (by rw [HNN.out]) (Bk.new wz 29 []) PZ.out.bz (hnT _ (Nat.le_refl _))
            have hb12 : Below wz.heap.size wz W2 := (bel1 wz (.cells #[] 29)).grown hg2 (by simp) (fun k e => by injection e with e; omega)
            have hS9 := Lib.hid (KZ.out.below hb12 KZ.out.lt)
            refine wpAnyH_ready (rs := [7, 9]) (by kernel_rfl) (by simp) ?_
            refine AllReadyH.cons (o := _) rfl (fun K hK => ?_) (AllReadyH.cons (o := _) rfl (fun K hK => ?_) (AllReadyH.nil))
            · first | rw [if_pos (by rfl)] | rw [if_pos (by kernel_rfl)]
              refine app_wp (.tmp 82) (.tmp 88) _ _ rfl _ _ rfl rfl hr1 ?_
              refine hK.out _ _ (hS9.out) (fun hS => ?_)
              clear hK K
              (try simp only [Act.put, List.setIfInBounds_toArray, List.set_cons_zero, List.set_cons_succ])
              refine wpAnyH_ready (rs := [9]) (by kernel_rfl) (by simp) ?_
              refine AllReadyH.cons (o := _) rfl (fun K hK => ?_) (AllReadyH.nil)
              go_simp
              refine hK.out _ _ (hS9.out.alloc _) (fun hS => ?_)
              clear hK K
              (try simp only [Act.put, List.setIfInBounds_toArray, List.set_cons_zero, List.set_cons_succ])
              have HBX : Hid (Below wz.heap.size wz (W2.alloc (.cells #[.int .u8 (tc : Int), .bool true, .int .u32 (tn : Int), .slice none 0 0, .slice s m cap] 29))) := Lib.hid (hb12.alloc hb12.size _)
              have HP := Lib.hid (hp2.below (bel1 W2 (.cells #[.int .u8 (tc : Int), .bool true, .int .u32 (tn : Int), .slice none 0 0, .slice s m cap] 29)))
              have HKU : Hid (Bk (W2.alloc (.cells #[.int .u8 (tc : Int), .bool true, .int .u32 (tn : Int), .slice none 0 0, .slice s m cap] 29)) W2.heap.size 29 (elV tc tn true (.slice none 0 0) (.slice s m cap)).cells.toList) := Lib.hid (Bk.new W2 29 [_, _, _, _, _])
              have HU := Lib.hid (RdE.keep (T := fun j => S j ∨ (wd.heap.size ≤ j ∧ j < w8.heap.size)) HBX.out.size (fun j _ hl => HBX.out.block j hl) (fun _ hj _ => hj) _ _ EZ.out)
              have HOB : Hid (∀ q, v2.ownBlock = some q → D ≠ q) := Lib.hid (fun q hq e => by subst e; have h2 := hob2 _ hq; (try rw [World.size_alloc] at h2); have h3 := KZ.out.lt; omega)
              generalize hWX : W2.alloc (.cells #[.int .u8 (tc : Int), .bool true, .int .u32 (tn : Int), .slice none 0 0, .slice s m cap] 29) = WX at *
              obtain ⟨v3, cs3, W4, hr3, hp3, hg3⟩ := Pl.one HP.out (by rw [List.length_take]; omega) HKU.out HU.out
              have hb34 : Below B WX W4 := (Below.refl B WX).grown hg3 HP.out.bz (fun k hk => (HP.out.ob hk).1)
              have hS4 : Bk W4 D 29 [.int .u8 (tc : Int), .bool true, .int .u32 (tn : Int), .slice none 0 0, .slice s m cap] := hS.only hg3 (by
                intro e
                have e2 := HOB.out D e.symm
                exact e2 rfl)
              refine wpAnyH_ready (rs := [10]) (by kernel_rfl) (by simp) ?_
              refine AllReadyH.cons (o := _) rfl (fun K hK => ?_) (AllReadyH.nil)
              first | rw [if_pos (by rfl)] | rw [if_pos (by kernel_rfl)]
              refine app_wp (.tmp 89) (.tmp 91) _ _ rfl _ _ rfl rfl hr3 ?_
              refine hK.out _ _ (hS4) (fun hS => ?_)
              clear hK K
              (try simp only [Act.put, List.setIfInBounds_toArray, List.set_cons_zero, List.set_cons_succ])
              refine wpAnyH_take (i := 11) (oi := ⟨some 3, _, _, _, _, _⟩) (v := v3) rfl (by kernel_rfl) (by kernel_rfl) (by kernel_rfl) (fun _ _ _ h => h) (Or.inl ⟨by rfl, fun w hSw => by (try dsimp only at hSw); go_simp⟩) hS ?_
              simp only [Act.put, List.setIfInBounds_toArray, List.set_cons_zero, List.set_cons_succ]
              refine wpAnyH_done (by kernel_rfl) ?_ _
              have HNEW : Hid (OfR w B R (p + 1) v3 W4 ∧ Below w2.heap.size w2 W4) := Lib.hid (by
                have q0 : Below B wr W4 := ((HBZ.out.mono HPB.out).trans (HBX.out.mono (Nat.le_trans HPB.out HBZ.out.size))).trans hb34
                have q1 : Below w2.heap.size w2 W4 := HBel.out.trans (by rw [HBB.out]; exact q0)
                exact ⟨⟨_, _, cs3, hp3, okP_fold HOK.out (by omega) HCHK.out (by rw [HDPE.out]; omega), HBR.out.below q0 hRB, HBB2.out.trans (q0.mono hwB)⟩, q1⟩)
              clear hp3 hg3 hb34 hS4 hS hr3
              go_wp2_with fail
              exact ⟨⟨p + 1, by omega, by omega, by go_num, HNEW.out.1, HNEW.out.2⟩, by simp [intOf]; omega⟩
            · go_simp
              refine hK.out _ _ (hS.alloc _) (fun hS => ?_)
              clear hK K
              (try simp only [Act.put, List.setIfInBounds_toArray, List.set_cons_zero, List.set_cons_succ])
              clear hr1 hp2 hg2 hob2 hb12 hS9 W2 v2
              have P2 := P1.below (bel1 (wz.alloc (.cells #[] 29)) (.cells #[.int .u8 (tc : Int), .bool true, .int .u32 (tn : Int), .slice none 0 0, .slice s m cap] 29))
              obtain ⟨v2, W2, hr1, hp2, hg2, hob2⟩ := P2.first hel hkl (by rw [HNN.out]) ((Bk.new wz 29 []).alloc (.cells #[.int .u8 (tc : Int), .bool true, .int .u32 (tn : Int), .slice none 0 0, .slice s m cap] 29)) PZ.out.bz (hnT _ (Nat.le_refl _))
              have hb12 : Below wz.heap.size wz W2 := ((bel1 wz (.cells #[] 29)).alloc (by simp) (.cells #[.int .u8 (tc : Int), .bool true, .int .u32 (tn : Int), .slice none 0 0, .slice s m cap] 29)).grown hg2 (by simp; omega) (fun k e => by injection e with e; omega)
              have hS9 := Lib.hid (KZ.out.below hb12 KZ.out.lt)
              refine wpAnyH_ready (rs := [7]) (by kernel_rfl) (by simp) ?_
              refine AllReadyH.cons (o := _) rfl (fun K hK => ?_) (AllReadyH.nil)
              first | rw [if_pos (by rfl)] | rw [if_pos (by kernel_rfl)]
              refine app_wp (.tmp 82) (.tmp 88) _ _ rfl _ _ rfl rfl hr1 ?_
              refine hK.out _ _ (hS9.out) (fun hS => ?_)
              clear hK K
              (try simp only [Act.put, List.setIfInBounds_toArray, List.set_cons_zero, List.set_cons_succ])
              have HBX : Hid (Below wz.heap.size wz W2) := Lib.hid hb12
              have HP := Lib.hid hp2
              have HKU : Hid (Bk W2 (wz.heap.size + 1) 29 (elV tc tn true (.slice none 0 0) (.slice s m cap)).cells.toList) := Lib.hid ((show Bk ((wz.alloc (.cells #[] 29)).alloc (.cells #[.int .u8 (tc : Int), .bool true, .int .u32 (tn : Int), .slice none 0 0, .slice s m cap] 29)) (wz.heap.size + 1) 29 (elV tc tn true (.slice none 0 0) (.slice s m cap)).cells.toList from by
                have := Bk.new (wz.alloc (.cells #[] 29)) 29 (elV tc tn true (.slice none 0 0) (.slice s m cap)).cells.toList
                rw [World.size_alloc] at this
                exact this).only hg2 (by intro e; injection e with e; omega))
              have HU := Lib.hid (RdE.keep (T := fun j => S j ∨ (wd.heap.size ≤ j ∧ j < w8.heap.size)) HBX.out.size (fun j _ hl => HBX.out.block j hl) (fun _ hj _ => hj) _ _ EZ.out)
              have HOB : Hid (∀ q, v2.ownBlock = some q → D ≠ q) := Lib.hid (fun q hq e => by subst e; have h2 := hob2 _ hq; (try rw [World.size_alloc] at h2); have h3 := KZ.out.lt; omega)
              generalize hWX : W2 = WX at *
              obtain ⟨v3, cs3, W4, hr3, hp3, hg3⟩ := Pl.one HP.out (by rw [List.length_take]; omega) HKU.out HU.out
              have hb34 : Below B WX W4 := (Below.refl B WX).grown hg3 HP.out.bz (fun k hk => (HP.out.ob hk).1)
              have hS4 : Bk W4 D 29 [.int .u8 (tc : Int), .bool true, .int .u32 (tn : Int), .slice none 0 0, .slice s m cap] := hS.only hg3 (by
                intro e
                have e2 := HOB.out D e.symm
                exact e2 rfl)
              refine wpAnyH_ready (rs := [10]) (by kernel_rfl) (by simp) ?_
              refine AllReadyH.cons (o := _) rfl (fun K hK => ?_) (AllReadyH.nil)
              first | rw [if_pos (by rfl)] | rw [if_pos (by kernel_rfl)]
              refine app_wp (.tmp 89) (.tmp 91) _ _ rfl _ _ rfl rfl hr3 ?_
              refine hK.out _ _ (hS4) (fun hS => ?_)
              clear hK K
              (try simp only [Act.put, List.setIfInBounds_toArray, List.set_cons_zero, List.set_cons_succ])
              refine wpAnyH_take (i := 11) (oi := ⟨some 3, _, _, _, _, _⟩) (v := v3) rfl (by kernel_rfl) (by kernel_rfl) (by kernel_rfl) (fun _ _ _ h => h) (Or.inl ⟨by rfl, fun w hSw => by (try dsimp only at hSw); go_simp⟩) hS ?_
              simp only [Act.put, List.setIfInBounds_toArray, List.set_cons_zero, List.set_cons_succ]
              refine wpAnyH_done (by kernel_rfl) ?_ _
              have HNEW : Hid (OfR w B R (p + 1) v3 W4 ∧ Below w2.heap.size w2 W4) := Lib.hid (by
                have q0 : Below B wr W4 := ((HBZ.out.mono HPB.out).trans (HBX.out.mono (Nat.le_trans HPB.out HBZ.out.size))).trans hb34
                have q1 : Below w2.heap.size w2 W4 := HBel.out.trans (by rw [HBB.out]; exact q0)
                exact ⟨⟨_, _, cs3, hp3, okP_fold HOK.out (by omega) HCHK.out (by rw [HDPE.out]; omega), HBR.out.below q0 hRB, HBB2.out.trans (q0.mono hwB)⟩, q1⟩)
              clear hp3 hg3 hb34 hS4 hS hr3
              go_wp2_with fail
              exact ⟨⟨p + 1, by omega, by omega, by go_num, HNEW.out.1, HNEW.out.2⟩, by simp [intOf]; omega⟩
          · go_simp
            refine hK.out _ _ (hS.alloc _) (fun hS => ?_)
            clear hK K
            (try simp only [Act.put, List.setIfInBounds_toArray, List.set_cons_zero, List.set_cons_succ])
            refine wpAnyH_ready (rs := [0]) (by kernel_rfl) (by simp) ?_
            refine AllReadyH.cons (o := _) rfl (fun K hK => ?_) (AllReadyH.nil)
            go_simp
            refine hK.out _ _ ((KZ.out.alloc _).alloc _) (fun hS => ?_)
            clear hK K
            (try simp only [Act.put, List.setIfInBounds_toArray, List.set_cons_zero, List.set_cons_succ])
            have P2 := (PZ.out.below (bel1 wz (.cells #[.int .u8 (tc : Int), .bool true, .int .u32 (tn : Int), .slice none 0 0, .slice s m cap] 29))).below (bel1 (wz.alloc (.cells #[.int .u8 (tc : Int), .bool true, .int .u32 (tn : Int), .slice none 0 0, .slice s m cap] 29)) (.cells #[] 29))
            obtain ⟨v2, W2, hr1, hp2, hg2, hob2⟩ := P2.first hel hkl (by rw [HNN.out]) (Bk.new (wz.alloc (.cells #[.int .u8 (tc : Int), .bool true, .int .u32 (tn : Int), .slice none 0 0, .slice s m cap] 29)) 29 []) (by have := PZ.out.bz; simp; omega) (hnT _ (by simp))
            have hb12 : Below wz.heap.size wz W2 := ((bel1 wz (.cells #[.int .u8 (tc : Int), .bool true, .int .u32 (tn : Int), .slice none 0 0, .slice s m cap] 29)).alloc (by simp) (.cells #[] 29)).grown hg2 (by simp; omega) (fun k e => by injection e with e; simp at e; omega)
            have hS9 := Lib.hid (KZ.out.below hb12 KZ.out.lt)
            try rw [World.size_alloc] at hr1
            refine wpAnyH_ready (rs := [7]) (by kernel_rfl) (by simp) ?_
            refine AllReadyH.cons (o := _) rfl (fun K hK => ?_) (AllReadyH.nil)
            first | rw [if_pos (by rfl)] | rw [if_pos (by kernel_rfl)]
            refine app_wp (.tmp 82) (.tmp 88) _ _ rfl _ _ rfl rfl hr1 ?_
            refine hK.out _ _ (hS9.out) (fun hS => ?_)
            clear hK K
            (try simp only [Act.put, List.setIfInBounds_toArray, List.set_cons_zero, List.set_cons_succ])
            have HBX : Hid (Below wz.heap.size wz W2) := Lib.hid hb12
            have HP := Lib.hid hp2
            have HKU : Hid (Bk W2 wz.heap.size 29 (elV tc tn true (.slice none 0 0) (.slice s m cap)).cells.toList) := Lib.hid (((Bk.new wz 29 (elV tc tn true (.slice none 0 0) (.slice s m cap)).cells.toList).alloc (.cells #[] 29)).only hg2 (by intro e; injection e with e; simp at e))
            have HU := Lib.hid (RdE.keep (T := fun j => S j ∨ (wd.heap.size ≤ j ∧ j < w8.heap.size)) HBX.out.size (fun j _ hl => HBX.out.block j hl) (fun _ hj _ => hj) _ _ EZ.out)
            have HOB : Hid (∀ q, v2.ownBlock = some q → D ≠ q) := Lib.hid (fun q hq e => by subst e; have h2 := hob2 _ hq; (try rw [World.size_alloc] at h2); have h3 := KZ.out.lt; omega)
            generalize hWX : W2 = WX at *
            obtain ⟨v3, cs3, W4, hr3, hp3, hg3⟩ := Pl.one HP.out (by rw [List.length_take]; omega) HKU.out HU.out
            have hb34 : Below B WX W4 := (Below.refl B WX).grown hg3 HP.out.bz (fun k hk => (HP.out.ob hk).1)
            have hS4 : Bk W4 D 29 [.int .u8 (tc : Int), .bool true, .int .u32 (tn : Int), .slice none 0 0, .slice s m cap] := hS.only hg3 (by
              intro e
              have e2 := HOB.out D e.symm
              exact e2 rfl)
            refine wpAnyH_ready (rs := [10]) (by kernel_rfl) (by simp) ?_
            refine AllReadyH.cons (o := _) rfl (fun K hK => ?_) (AllReadyH.nil)
            first | rw [if_pos (by rfl)] | rw [if_pos (by kernel_rfl)]
            refine app_wp (.tmp 89) (.tmp 91) _ _ rfl _ _ rfl rfl hr3 ?_
            refine hK.out _ _ (hS4) (fun hS => ?_)
            clear hK K
            (try simp only [Act.put, List.setIfInBounds_toArray, List.set_cons_zero, List.set_cons_succ])
            refine wpAnyH_take (i := 11) (oi := ⟨some 3, _, _, _, _, _⟩) (v := v3) rfl (by kernel_rfl) (by kernel_rfl) (by kernel_rfl) (fun _ _ _ h => h) (Or.inl ⟨by rfl, fun w hSw => by (try dsimp only at hSw); go_simp⟩) hS ?_
            simp only [Act.put, List.setIfInBounds_toArray, List.set_cons_zero, List.set_cons_succ]
            refine wpAnyH_done (by kernel_rfl) ?_ _
            have HNEW : Hid (OfR w B R (p + 1) v3 W4 ∧ Below w2.heap.size w2 W4) := Lib.hid (by
              have q0 : Below B wr W4 := ((HBZ.out.mono HPB.out).trans (HBX.out.mono (Nat.le_trans HPB.out HBZ.out.size))).trans hb34
              have q1 : Below w2.heap.size w2 W4 := HBel.out.trans (by rw [HBB.out]; exact q0)
              exact ⟨⟨_, _, cs3, hp3, okP_fold HOK.out (by omega) HCHK.out (by rw [HDPE.out]; omega), HBR.out.below q0 hRB, HBB2.out.trans (q0.mono hwB)⟩, q1⟩)
            clear hp3 hg3 hb34 hS4 hS hr3
            go_wp2_with fail
            exact ⟨⟨p + 1, by omega, by omega, by go_num, HNEW.out.1, HNEW.out.2⟩, by simp [intOf]; omega⟩
        · have hkb2 : (((kind : Int)) % 3 == 2) = false := by simp; omega
          have hkt2 : ((kind : Int).tmod 3 == 2) = false := by rw [Int.tmod_eq_emod_of_nonneg (by omega)]; exact hkb2
          have hmn := hm1n
          go_upto_region 15 with fail
          generalize m1 = m at *
          go_wp2_with fail
          refine HO.out.mono ?_
          rintro r w6 ⟨rfl, hb⟩
          have HB6 := Lib.hid (HB5.out.trans (hb.mono HB5.out.size))
          clear hb t0 t1 t2 t3 t4 t5 tt HK5 HB5 HO
          try clear hkb2 hkt2
          clear hkb hkt hkk
          obtain ⟨w7, hw7⟩ : ∃ w7, w6.alloc (.cells #[.int .u8 (tc : Int), .bool true, .int .u32 (tn : Int), .slice none 0 0, .slice none 0 0] 29) = w7 := ⟨_, rfl⟩
          have HW7 := Lib.hid hw7
          obtain ⟨D, hD⟩ : ∃ D, w6.heap.size = D := ⟨_, rfl⟩
          have kD : Bk w7 D 29 [.int .u8 (tc : Int), .bool true, .int .u32 (tn : Int), .slice none 0 0, .slice none 0 0] := by rw [← hw7, ← hD]; exact Bk.new w6 _ [_, _, _, _, _]
          have hb7 : Below w6.heap.size w6 w7 := by rw [← hw7]; exact bel1 _ _
          have hDlt : wr.heap.size ≤ D := by rw [← hD]; exact HB6.out.size
          have HKD := Lib.hid kD
          have HB7 := Lib.hid (HB6.out.trans (hb7.mono HB6.out.size))
          have HDL := Lib.hid hDlt
          clear hw7 hb7 kD HB6 hDlt
          go_upto_region 16 with fail
          rw [HW7.out]
          obtain ⟨k, hk⟩ : ∃ k, n - m = k := ⟨_, rfl⟩
          have hkm : (n : Int) - (m : Int) = (k : Int) := by omega
          have hkn : k ≤ n := by omega
          have hkw : IntKind.i64.wrap (k : Int) = (k : Int) := IntWalk.i64_in _ (by omega)
          have hkmn : k + m = n := by omega
          obtain ⟨wd, hwd⟩ : ∃ wd, w7.drew = wd := ⟨_, rfl⟩
          have hbd : Below w7.heap.size w7 wd := by rw [← hwd]; exact ⟨rfl, rfl, rfl, Nat.le_refl _, fun _ _ => rfl⟩
          have HBD := Lib.hid (HB7.out.trans (hbd.mono HB7.out.size))
          have HKDd := Lib.hid (HKD.out.below hbd HKD.out.lt)
          have hPLd := HPL.out.below HBD.out
          have hDS : wd.cell? ⟨D, 4, none⟩ = some (.slice none 0 0) := HKDd.out.cell 4
          obtain ⟨s, cap, w8, hrun, hg8, hmc, hcm8, hrs⟩ := hPLd.last (by rw [HNN.out]; omega) (k := k) (m := m) (by rw [HNN.out]; exact hkmn) (by rw [HNN.out])
          rw [HNN.out] at hrun
          have hsl := slE Av n cv k hkn
          obtain ⟨sv, hsv⟩ : ∃ sv, sliced Av k n cv 5 = sv := ⟨_, rfl⟩
          rw [hsv] at hrun hsl
          clear hk hbd
          refine wp_region_held_drew (S := fun _ => True) (by kernel_rfl) trivial (fun hS => ?_)
          rw [hwd]
          clear hwd
          refine wpAnyH_take (i := 0) (oi := ⟨some 69, _, _, _, _, _⟩) (v := .pointer (some ⟨D, 4, none⟩)) rfl (by kernel_rfl) (by kernel_rfl) (by kernel_rfl) (fun _ _ _ h => h) (Or.inl ⟨by rfl, fun w hSw => by (try dsimp only at hSw); go_simp⟩) hS ?_
          simp only [Act.put, List.setIfInBounds_toArray, List.set_cons_zero, List.set_cons_succ]
          refine wpAnyH_take (i := 2) (oi := ⟨some 71, _, _, _, _, _⟩) (v := .slice Av n cv) rfl (by kernel_rfl) (by kernel_rfl) (by kernel_rfl) (fun _ _ _ h => h) (Or.inl ⟨by rfl, fun w hSw => by (try dsimp only at hSw); go_simp⟩) hS ?_
          simp only [Act.put, List.setIfInBounds_toArray, List.set_cons_zero, List.set_cons_succ]
          refine wpAnyH_take (i := 3) (oi := ⟨some 72, _, _, _, _, _⟩) (v := .slice Av n cv) rfl (by kernel_rfl) (by kernel_rfl) (by kernel_rfl) (fun _ _ _ h => h) (Or.inl ⟨by rfl, fun w hSw => by (try dsimp only at hSw); go_simp⟩) hS ?_
          simp only [Act.put, List.setIfInBounds_toArray, List.set_cons_zero, List.set_cons_succ]
          refine wpAnyH_take (i := 4) (oi := ⟨some 73, _, _, _, _, _⟩) (v := .int .i64 (n : Int)) rfl (by kernel_rfl) (by kernel_rfl) (by kernel_rfl) (fun _ _ _ h => h) (Or.inl ⟨by rfl, fun w hSw => by (try dsimp only at hSw); go_simp⟩) hS ?_
          simp only [Act.put, List.setIfInBounds_toArray, List.set_cons_zero, List.set_cons_succ]
          refine wpAnyH_take (i := 5) (oi := ⟨some 74, _, _, _, _, _⟩) (v := .int .i64 (m : Int)) rfl (by kernel_rfl) (by kernel_rfl) (by kernel_rfl) (fun _ _ _ h => h) (Or.inl ⟨by rfl, fun w hSw => by (try dsimp only at hSw); go_simp⟩) hS ?_
          simp only [Act.put, List.setIfInBounds_toArray, List.set_cons_zero, List.set_cons_succ]
          refine wpAnyH_take (i := 6) (oi := ⟨some 75, _, _, _, _, _⟩) (v := .int .i64 (k : Int)) rfl (by kernel_rfl) (by kernel_rfl) (by kernel_rfl) (fun _ _ _ h => h) (Or.inl ⟨by rfl, fun w hSw => by (try dsimp only at hSw); go_simp⟩) hS ?_
          simp only [Act.put, List.setIfInBounds_toArray, List.set_cons_zero, List.set_cons_succ]
          refine wpAnyH_take (i := 7) (oi := ⟨some 76, _, _, _, _, _⟩) (v := sv) rfl (by kernel_rfl) (by kernel_rfl) (by kernel_rfl) (fun _ _ _ h => h) (Or.inl ⟨by rfl, fun w hSw => by (try dsimp only at hSw); go_simp⟩) hS ?_
          simp only [Act.put, List.setIfInBounds_toArray, List.set_cons_zero, List.set_cons_succ]
          refine wpAnyH_ready (rs := [1]) (by kernel_rfl) (by simp) ?_
          refine AllReadyH.cons (o := _) rfl (fun K hK => ?_) (AllReadyH.nil)
          go_simp
          refine hK.out _ _ (trivial) (fun hS => ?_)
          clear hK K
          (try simp only [Act.put, List.setIfInBounds_toArray, List.set_cons_zero, List.set_cons_succ])
          refine wpAnyH_ready (rs := [8]) (by kernel_rfl) (by simp) ?_
          refine AllReadyH.cons (o := _) rfl (fun K hK => ?_) (AllReadyH.nil)
          first | rw [if_pos (by rfl)] | rw [if_pos (by kernel_rfl)]
          refine app_wp (.tmp 70) (.tmp 76) _ _ rfl _ _ rfl rfl hrun ?_
          refine hK.out _ _ (trivial) (fun hS => ?_)
          clear hK K
          (try simp only [Act.put, List.setIfInBounds_toArray, List.set_cons_zero, List.set_cons_succ])
          refine wpAnyH_take (i := 9) (oi := ⟨some 78, _, _, _, _, _⟩) (v := .pointer (some ⟨D, 4, none⟩)) rfl (by kernel_rfl) (by kernel_rfl) (by kernel_rfl) (fun _ _ _ h => h) (Or.inl ⟨by rfl, fun w hSw => by (try dsimp only at hSw); go_simp⟩) hS ?_
          simp only [Act.put, List.setIfInBounds_toArray, List.set_cons_zero, List.set_cons_succ]

          have HB8 : Hid (Below wr.heap.size wr w8) := Lib.hid (HBD.out.grown hg8 HBD.out.size (fun k e => by cases e))
          have HK8 := Lib.hid (HKDd.out.only hg8 (by intro e; cases e))
          have hfr := HK8.out.free 4
          have hc4 : w8.cell? ⟨D, 4, none⟩ = some (.slice none 0 0) := HK8.out.cell 4
          have HW9 : Hid (∃ w9, w8.setCell ⟨D, 4, none⟩ (.slice s m cap) = w9) := Lib.hid ⟨_, rfl⟩
          refine wpAnyH_ready (rs := [10]) (by kernel_rfl) (by simp) ?_
          refine AllReadyH.cons (o := _) rfl (fun K hK => ?_) (AllReadyH.nil)
          go_simp
          refine hK.out _ _ (trivial) (fun hS => ?_)
          clear hK K
          (try simp only [Act.put, List.setIfInBounds_toArray, List.set_cons_zero, List.set_cons_succ])
          refine wpAnyH_done (by kernel_rfl) ?_ _
          obtain ⟨w9, hw9⟩ := HW9.out
          have HB9 : Hid (Below wr.heap.size wr w9) := Lib.hid (by rw [← hw9]; exact HB8.out.setCell (p := ⟨D, 4, none⟩) HDL.out _)
          have HK9 : Hid (Bk w9 D 29 [.int .u8 (tc : Int), .bool true, .int .u32 (tn : Int), .slice none 0 0, .slice s m cap]) := Lib.hid (by rw [← hw9]; exact HK8.out.store 4 (.slice s m cap))
          have hsz9 : w9.heap.size = w8.heap.size := by rw [← hw9]; simp [World.setCell]
          have hTs : ∀ j, (S j ∨ (wd.heap.size ≤ j ∧ j < w8.heap.size)) → B ≤ j ∧ j < w9.heap.size ∧ (Value.slice Av n cv).ownBlock ≠ some j := by
            rintro j (hj | hj)
            · exact ⟨HPL.out.sb j hj, Nat.lt_of_lt_of_le (HPL.out.sl j hj) HB9.out.size, HPL.out.so j hj⟩
            · refine ⟨by have := HPL.out.bz; have := HBD.out.size; omega, by omega, fun e => ?_⟩
              have := (HPL.out.ob e).2; have := HBD.out.size; omega
          have HPL9 := Lib.hid ((HPL.out.below HB9.out).widen (T := fun j => S j ∨ (wd.heap.size ≤ j ∧ j < w8.heap.size)) (fun j hj => .inl hj) hTs)
          have hDd := HKDd.out.lt
          have hrs9 : RdS false (fun j => S j ∨ (wd.heap.size ≤ j ∧ j < w8.heap.size)) w9 s (es.drop k) := RdS.keep (by omega) (fun j hj _ => by
            rw [← hw9]
            exact Below.heap_setCell w8 ⟨D, 4, none⟩ _ j (by
              rintro rfl
              rcases hj with hj | hj
              · have := HPL.out.sl _ hj; have := HDL.out; omega
              · omega)) (fun _ hj _ => hj) _ _ hrs
          have hdl : (es.drop k).length = m := by rw [List.length_drop, HNN.out]; omega
          have HE9 : Hid (RdE false (fun j => S j ∨ (wd.heap.size ≤ j ∧ j < w8.heap.size)) w9 (.mk tc tn true [] (es.drop k)) (elV tc tn true (.slice none 0 0) (.slice s m cap))) := Lib.hid
            ⟨HCHK2.out.1, HCHK2.out.2, All8.nil, none, 0, s, cap, by rw [hdl]; rfl, RdX.nil, Nat.le_refl _, Nat.zero_le _, by rw [hdl]; exact hmc, hcm8, fun h => (by cases h), hrs9⟩
          have hdep : depE (.mk tc tn true [] (es.drop k)) ≤ 16 := by
            have := depS_of (m := 15) (ss := es.drop k) fun e he => (HOK.out.1 e (List.mem_of_mem_drop he)).2.1
            rw [depE]; omega
          have HDP := Lib.hid (rdep_any _ _ w9 (by omega) HE9.out)
          obtain ⟨x0, x1, x2, x3, x4, xz⟩ := HK9.out.five
          rw [hw9]
          have HHW9 := Lib.hid hw9
          clear hw9 hrs hrs9 hTs hDS hfr hc4 hrun hsl hsv hg8 hPLd HKDd HK8 HB8 hS HPL HBD HB7 HKD
          go_wp2_with fail
          refine HDP.out.mono ?_
          rintro r w11 ⟨rfl, hb⟩
          have HK11 := Lib.hid (HK9.out.below hb HK9.out.lt)
          have HB11 := Lib.hid (HB9.out.trans (hb.mono HB9.out.size))
          have HPL11 := Lib.hid (HPL9.out.below hb)
          have HE11 := Lib.hid (RdE.keep (T := fun j => S j ∨ (wd.heap.size ≤ j ∧ j < w8.heap.size)) hb.size (fun j _ hl => hb.block j hl) (fun _ hj _ => hj) _ _ HE9.out)
          clear hb x0 x1 x2 x3 x4 xz HK9 HB9 HPL9 HE9 HDP hsz9
          obtain ⟨dp, hdp⟩ : ∃ dp, depE (.mk tc tn true [] (es.drop k)) = dp := ⟨_, rfl⟩
          rw [hdp] at hdep ⊢
          have HDPE := Lib.hid hdp
          clear hdp
          by_cases hd15 : dp < 15
          rotate_left
          · go_wp2_with fail
            exact ⟨⟨p + 1, by omega, by omega, by go_num, ⟨_, es, cs, HPL11.out, okP_step HOK.out, HBR.out.below HB11.out HBR.out.lt, HBB2.out.trans (HB11.out.mono HBB2.out.size)⟩, HBel.out.trans (HB11.out.mono HBel.out.size)⟩, by simp [intOf]; omega⟩
          go_upto_region 18 with fail
          obtain ⟨wz, hwz⟩ : ∃ wz, w11.drew = wz := ⟨_, rfl⟩
          have hbz : Below w11.heap.size w11 wz := by rw [← hwz]; exact ⟨rfl, rfl, rfl, Nat.le_refl _, fun _ _ => rfl⟩
          have HBZ := Lib.hid (HB11.out.trans (hbz.mono HB11.out.size))
          have KZ := Lib.hid (HK11.out.below hbz HK11.out.lt)
          have PZ := Lib.hid (HPL11.out.below hbz)
          have EZ := Lib.hid (RdE.keep (T := fun j => S j ∨ (wd.heap.size ≤ j ∧ j < w8.heap.size)) hbz.size (fun j _ hl => hbz.block j hl) (fun _ hj _ => hj) _ _ HE11.out)
          have hst := slT Av n cv k (by omega)
          have hkl : k ≤ es.length := by rw [HNN.out]; exact hkn
          have hel : es.length ≤ 1000 := by rw [HNN.out]; omega
          refine wp_region_held_drew (S := fun W => Bk W D 29 [.int .u8 (tc : Int), .bool true, .int .u32 (tn : Int), .slice none 0 0, .slice s m cap]) (by kernel_rfl) (by rw [hwz]; exact KZ.out) (fun hS => ?_)
          rw [hwz] at hS ⊢
          clear hbz hwz HB11 HK11 HPL11 HE11
          refine wpAnyH_take (i := 1) (oi := ⟨some 83, _, _, _, _, _⟩) (v := .slice Av n cv) rfl (by kernel_rfl) (by kernel_rfl) (by kernel_rfl) (fun _ _ _ h => h) (Or.inl ⟨by rfl, fun w hSw => by (try dsimp only at hSw); go_simp⟩) hS ?_
          simp only [Act.put, List.setIfInBounds_toArray, List.set_cons_zero, List.set_cons_succ]
          refine wpAnyH_take (i := 2) (oi := ⟨some 84, _, _, _, _, _⟩) (v := .slice Av n cv) rfl (by kernel_rfl) (by kernel_rfl) (by kernel_rfl) (fun _ _ _ h => h) (Or.inl ⟨by rfl, fun w hSw => by (try dsimp only at hSw); go_simp⟩) hS ?_
          simp only [Act.put, List.setIfInBounds_toArray, List.set_cons_zero, List.set_cons_succ]
          refine wpAnyH_take (i := 3) (oi := ⟨some 85, _, _, _, _, _⟩) (v := .int .i64 (n : Int)) rfl (by kernel_rfl) (by kernel_rfl) (by kernel_rfl) (fun _ _ _ h => h) (Or.inl ⟨by rfl, fun w hSw => by (try dsimp only at hSw); go_simp⟩) hS ?_
          simp only [Act.put, List.setIfInBounds_toArray, List.set_cons_zero, List.set_cons_succ]
          refine wpAnyH_take (i := 4) (oi := ⟨some 86, _, _, _, _, _⟩) (v := .int .i64 (m : Int)) rfl (by kernel_rfl) (by kernel_rfl) (by kernel_rfl) (fun _ _ _ h => h) (Or.inl ⟨by rfl, fun w hSw => by (try dsimp only at hSw); go_simp⟩) hS ?_
          simp only [Act.put, List.setIfInBounds_toArray, List.set_cons_zero, List.set_cons_succ]
          refine wpAnyH_take (i := 5) (oi := ⟨some 87, _, _, _, _, _⟩) (v := .int .i64 (k : Int)) rfl (by kernel_rfl) (by kernel_rfl) (by kernel_rfl) (fun _ _ _ h => h) (Or.inl ⟨by rfl, fun w hSw => by (try dsimp only at hSw); go_simp⟩) hS ?_
          simp only [Act.put, List.setIfInBounds_toArray, List.set_cons_zero, List.set_cons_succ]
          refine wpAnyH_take (i := 6) (oi := ⟨some 88, _, _, _, _, _⟩) (v := .slice Av k cv) rfl (by kernel_rfl) (by kernel_rfl) (by kernel_rfl) (fun _ _ _ h => h) (Or.inl ⟨by rfl, fun w hSw => by (try dsimp only at hSw); go_simp⟩) hS ?_
          simp only [Act.put, List.setIfInBounds_toArray, List.set_cons_zero, List.set_cons_succ]
          refine wpAnyH_take (i := 8) (oi := ⟨some 90, _, _, _, _, _⟩) (v := elV tc tn true (.slice none 0 0) (.slice s m cap)) rfl (by kernel_rfl) (by kernel_rfl) (by kernel_rfl) (fun _ _ _ h => h) (yieldsIf_load_mid (by rfl) 29 (.tmp 8) rfl (D) 0 rfl [.int .u8 (tc : Int), .bool true, .int .u32 (tn : Int), .slice none 0 0, .slice s m cap] _ (fun W h => rangeE h) Try.underlying29 rfl infoE5) hS ?_
          simp only [Act.put, List.setIfInBounds_toArray, List.set_cons_zero, List.set_cons_succ]
          have hDz := KZ.out.lt
          have HPB := Lib.hid (show B ≤ wr.heap.size from by have := HBel.out.size; have := HBB.out; omega)
          have hnT : ∀ b, wz.heap.size ≤ b → ¬ (fun j => S j ∨ (wd.heap.size ≤ j ∧ j < w8.heap.size)) b := fun b hb hj => by have := PZ.out.sl b hj; omega
          refine wpAnyH_ready (rs := [0, 9]) (by kernel_rfl) (by simp) ?_
          refine AllReadyH.cons (o := _) rfl (fun K hK => ?_) (AllReadyH.cons (o := _) rfl (fun K hK => ?_) (AllReadyH.nil))
          · go_simp
            refine hK.out _ _ (hS.alloc _) (fun hS => ?_)
            clear hK K
            (try simp only [Act.put, List.setIfInBounds_toArray, List.set_cons_zero, List.set_cons_succ])
            have P1 := PZ.out.below (bel1 wz (.cells #[] 29))
            obtain ⟨v2, W2, hr1, hp2, hg2, hob2⟩ := P1.first hel hkl (by rw [HNN.out]) (Bk.new wz 29 []) PZ.out.bz (hnT _ (Nat.le_refl _))
            have hb12 : Below wz.heap.size wz W2 := (bel1 wz (.cells #[] 29)).grown hg2 (by simp) (fun k e => by injection e with e; omega)
            have hS9 := Lib.hid (KZ.out.below hb12 KZ.out.lt)
            refine wpAnyH_ready (rs := [7, 9]) (by kernel_rfl) (by simp) ?_
            refine AllReadyH.cons (o := _) rfl (fun K hK => ?_) (AllReadyH.cons (o := _) rfl (fun K hK => ?_) (AllReadyH.nil))
            · first | rw [if_pos (by rfl)] | rw [if_pos (by kernel_rfl)]
              refine app_wp (.tmp 82) (.tmp 88) _ _ rfl _ _ rfl rfl hr1 ?_
              refine hK.out _ _ (hS9.out) (fun hS => ?_)
              clear hK K
              (try simp only [Act.put, List.setIfInBounds_toArray, List.set_cons_zero, List.set_cons_succ])
              refine wpAnyH_ready (rs := [9]) (by kernel_rfl) (by simp) ?_
              refine AllReadyH.cons (o := _) rfl (fun K hK => ?_) (AllReadyH.nil)
              go_simp
              refine hK.out _ _ (hS9.out.alloc _) (fun hS => ?_)
              clear hK K
              (try simp only [Act.put, List.setIfInBounds_toArray, List.set_cons_zero, List.set_cons_succ])
              have HBX : Hid (Below wz.heap.size wz (W2.alloc (.cells #[.int .u8 (tc : Int), .bool true, .int .u32 (tn : Int), .slice none 0 0, .slice s m cap] 29))) := Lib.hid (hb12.alloc hb12.size _)
              have HP := Lib.hid (hp2.below (bel1 W2 (.cells #[.int .u8 (tc : Int), .bool true, .int .u32 (tn : Int), .slice none 0 0, .slice s m cap] 29)))
              have HKU : Hid (Bk (W2.alloc (.cells #[.int .u8 (tc : Int), .bool true, .int .u32 (tn : Int), .slice none 0 0, .slice s m cap] 29)) W2.heap.size 29 (elV tc tn true (.slice none 0 0) (.slice s m cap)).cells.toList) := Lib.hid (Bk.new W2 29 [_, _, _, _, _])
              have HU := Lib.hid (RdE.keep (T := fun j => S j ∨ (wd.heap.size ≤ j ∧ j < w8.heap.size)) HBX.out.size (fun j _ hl => HBX.out.block j hl) (fun _ hj _ => hj) _ _ EZ.out)
              have HOB : Hid (∀ q, v2.ownBlock = some q → D ≠ q) := Lib.hid (fun q hq e => by subst e; have h2 := hob2 _ hq; (try rw [World.size_alloc] at h2); have h3 := KZ.out.lt; omega)
              generalize hWX : W2.alloc (.cells #[.int .u8 (tc : Int), .bool true, .int .u32 (tn : Int), .slice none 0 0, .slice s m cap] 29) = WX at *
              obtain ⟨v3, cs3, W4, hr3, hp3, hg3⟩ := Pl.one HP.out (by rw [List.length_take]; omega) HKU.out HU.out
              have hb34 : Below B WX W4 := (Below.refl B WX).grown hg3 HP.out.bz (fun k hk => (HP.out.ob hk).1)
              have hS4 : Bk W4 D 29 [.int .u8 (tc : Int), .bool true, .int .u32 (tn : Int), .slice none 0 0, .slice s m cap] := hS.only hg3 (by
                intro e
                have e2 := HOB.out D e.symm
                exact e2 rfl)
              refine wpAnyH_ready (rs := [10]) (by kernel_rfl) (by simp) ?_
              refine AllReadyH.cons (o := _) rfl (fun K hK => ?_) (AllReadyH.nil)
              first | rw [if_pos (by rfl)] | rw [if_pos (by kernel_rfl)]
              refine app_wp (.tmp 89) (.tmp 91) _ _ rfl _ _ rfl rfl hr3 ?_
              refine hK.out _ _ (hS4) (fun hS => ?_)
              clear hK K
              (try simp only [Act.put, List.setIfInBounds_toArray, List.set_cons_zero, List.set_cons_succ])
              refine wpAnyH_take (i := 11) (oi := ⟨some 3, _, _, _, _, _⟩) (v := v3) rfl (by kernel_rfl) (by kernel_rfl) (by kernel_rfl) (fun _ _ _ h => h) (Or.inl ⟨by rfl, fun w hSw => by (try dsimp only at hSw); go_simp⟩) hS ?_
              simp only [Act.put, List.setIfInBounds_toArray, List.set_cons_zero, List.set_cons_succ]
              refine wpAnyH_done (by kernel_rfl) ?_ _
              have HNEW : Hid (OfR w B R (p + 1) v3 W4 ∧ Below w2.heap.size w2 W4) := Lib.hid (by
                have q0 : Below B wr W4 := ((HBZ.out.mono HPB.out).trans (HBX.out.mono (Nat.le_trans HPB.out HBZ.out.size))).trans hb34
                have q1 : Below w2.heap.size w2 W4 := HBel.out.trans (by rw [HBB.out]; exact q0)
                exact ⟨⟨_, _, cs3, hp3, okP_fold HOK.out (by omega) HCHK.out (by rw [HDPE.out]; omega), HBR.out.below q0 hRB, HBB2.out.trans (q0.mono hwB)⟩, q1⟩)
              clear hp3 hg3 hb34 hS4 hS hr3
              go_wp2_with fail
              exact ⟨⟨p + 1, by omega, by omega, by go_num, HNEW.out.1, HNEW.out.2⟩, by simp [intOf]; omega⟩
            · go_simp
              refine hK.out _ _ (hS.alloc _) (fun hS => ?_)
              clear hK K
              (try simp only [Act.put, List.setIfInBounds_toArray, List.set_cons_zero, List.set_cons_succ])
              clear hr1 hp2 hg2 hob2 hb12 hS9 W2 v2
              have P2 := P1.below (bel1 (wz.alloc (.cells #[] 29)) (.cells #[.int .u8 (tc : Int), .bool true, .int .u32 (tn : Int), .slice none 0 0, .slice s m cap] 29))
              obtain ⟨v2, W2, hr1, hp2, hg2, hob2⟩ := P2.first hel hkl (by rw [HNN.out]) ((Bk.new wz 29 []).alloc (.cells #[.int .u8 (tc : Int), .bool true, .int .u32 (tn : Int), .slice none 0 0, .slice s m cap] 29)) PZ.out.bz (hnT _ (Nat.le_refl _))
              have hb12 : Below wz.heap.size wz W2 := ((bel1 wz (.cells #[] 29)).alloc (by simp) (.cells #[.int .u8 (tc : Int), .bool true, .int .u32 (tn : Int), .slice none 0 0, .slice s m cap] 29)).grown hg2 (by simp; omega) (fun k e => by injection e with e; omega)
              have hS9 := Lib.hid (KZ.out.below hb12 KZ.out.lt)
              refine wpAnyH_ready (rs := [7]) (by kernel_rfl) (by simp) ?_
              refine AllReadyH.cons (o := _) rfl (fun K hK => ?_) (AllReadyH.nil)
              first | rw [if_pos (by rfl)] | rw [if_pos (by kernel_rfl)]
              refine app_wp (.tmp 82) (.tmp 88) _ _ rfl _ _ rfl rfl hr1 ?_
              refine hK.out _ _ (hS9.out) (fun hS => ?_)
              clear hK K
              (try simp only [Act.put, List.setIfInBounds_toArray, List.set_cons_zero, List.set_cons_succ])
              have HBX : Hid (Below wz.heap.size wz W2) := Lib.hid hb12
              have HP := Lib.hid hp2
              have HKU : Hid (Bk W2 (wz.heap.size + 1) 29 (elV tc tn true (.slice none 0 0) (.slice s m cap)).cells.toList) := Lib.hid ((show Bk ((wz.alloc (.cells #[] 29)).alloc (.cells #[.int .u8 (tc : Int), .bool true, .int .u32 (tn : Int), .slice none 0 0, .slice s m cap] 29)) (wz.heap.size + 1) 29 (elV tc tn true (.slice none 0 0) (.slice s m cap)).cells.toList from by
                have := Bk.new (wz.alloc (.cells #[] 29)) 29 (elV tc tn true (.slice none 0 0) (.slice s m cap)).cells.toList
                rw [World.size_alloc] at this
                exact this).only hg2 (by intro e; injection e with e; omega))
              have HU := Lib.hid (RdE.keep (T := fun j => S j ∨ (wd.heap.size ≤ j ∧ j < w8.heap.size)) HBX.out.size (fun j _ hl => HBX.out.block j hl) (fun _ hj _ => hj) _ _ EZ.out)
              have HOB : Hid (∀ q, v2.ownBlock = some q → D ≠ q) := Lib.hid (fun q hq e => by subst e; have h2 := hob2 _ hq; (try rw [World.size_alloc] at h2); have h3 := KZ.out.lt; omega)
              generalize hWX : W2 = WX at *
              obtain ⟨v3, cs3, W4, hr3, hp3, hg3⟩ := Pl.one HP.out (by rw [List.length_take]; omega) HKU.out HU.out
              have hb34 : Below B WX W4 := (Below.refl B WX).grown hg3 HP.out.bz (fun k hk => (HP.out.ob hk).1)
              have hS4 : Bk W4 D 29 [.int .u8 (tc : Int), .bool true, .int .u32 (tn : Int), .slice none 0 0, .slice s m cap] := hS.only hg3 (by
                intro e
                have e2 := HOB.out D e.symm
                exact e2 rfl)
              refine wpAnyH_ready (rs := [10]) (by kernel_rfl) (by simp) ?_
              refine AllReadyH.cons (o := _) rfl (fun K hK => ?_) (AllReadyH.nil)
              first | rw [if_pos (by rfl)] | rw [if_pos (by kernel_rfl)]
              refine app_wp (.tmp 89) (.tmp 91) _ _ rfl _ _ rfl rfl hr3 ?_
              refine hK.out _ _ (hS4) (fun hS => ?_)
              clear hK K
              (try simp only [Act.put, List.setIfInBounds_toArray, List.set_cons_zero, List.set_cons_succ])
              refine wpAnyH_take (i := 11) (oi := ⟨some 3, _, _, _, _, _⟩) (v := v3) rfl (by kernel_rfl) (by kernel_rfl) (by kernel_rfl) (fun _ _ _ h => h) (Or.inl ⟨by rfl, fun w hSw => by (try dsimp only at hSw); go_simp⟩) hS ?_
              simp only [Act.put, List.setIfInBounds_toArray, List.set_cons_zero, List.set_cons_succ]
              refine wpAnyH_done (by kernel_rfl) ?_ _
              have HNEW : Hid (OfR w B R (p + 1) v3 W4 ∧ Below w2.heap.size w2 W4) := Lib.hid (by
                have q0 : Below B wr W4 := ((HBZ.out.mono HPB.out).trans (HBX.out.mono (Nat.le_trans HPB.out HBZ.out.size))).trans hb34
                have q1 : Below w2.heap.size w2 W4 := HBel.out.trans (by rw [HBB.out]; exact q0)
                exact ⟨⟨_, _, cs3, hp3, okP_fold HOK.out (by omega) HCHK.out (by rw [HDPE.out]; omega), HBR.out.below q0 hRB, HBB2.out.trans (q0.mono hwB)⟩, q1⟩)
              clear hp3 hg3 hb34 hS4 hS hr3
              go_wp2_with fail
              exact ⟨⟨p + 1, by omega, by omega, by go_num, HNEW.out.1, HNEW.out.2⟩, by simp [intOf]; omega⟩
          · go_simp
            refine hK.out _ _ (hS.alloc _) (fun hS => ?_)
            clear hK K
            (try simp only [Act.put, List.setIfInBounds_toArray, List.set_cons_zero, List.set_cons_succ])
            refine wpAnyH_ready (rs := [0]) (by kernel_rfl) (by simp) ?_
            refine AllReadyH.cons (o := _) rfl (fun K hK => ?_) (AllReadyH.nil)
            go_simp
            refine hK.out _ _ ((KZ.out.alloc _).alloc _) (fun hS => ?_)
            clear hK K
            (try simp only [Act.put, List.setIfInBounds_toArray, List.set_cons_zero, List.set_cons_succ])
            have P2 := (PZ.out.below (bel1 wz (.cells #[.int .u8 (tc : Int), .bool true, .int .u32 (tn : Int), .slice none 0 0, .slice s m cap] 29))).below (bel1 (wz.alloc (.cells #[.int .u8 (tc : Int), .bool true, .int .u32 (tn : Int), .slice none 0 0, .slice s m cap] 29)) (.cells #[] 29))
            obtain ⟨v2, W2, hr1, hp2, hg2, hob2⟩ := P2.first hel hkl (by rw [HNN.out]) (Bk.new (wz.alloc (.cells #[.int .u8 (tc : Int), .bool true, .int .u32 (tn : Int), .slice none 0 0, .slice s m cap] 29)) 29 []) (by have := PZ.out.bz; simp; omega) (hnT _ (by simp))
            have hb12 : Below wz.heap.size wz W2 := ((bel1 wz (.cells #[.int .u8 (tc : Int), .bool true, .int .u32 (tn : Int), .slice none 0 0, .slice s m cap] 29)).alloc (by simp) (.cells #[] 29)).grown hg2 (by simp; omega) (fun k e => by injection e with e; simp at e; omega)
            have hS9 := Lib.hid (KZ.out.below hb12 KZ.out.lt)
            try rw [World.size_alloc] at hr1
            refine wpAnyH_ready (rs := [7]) (by kernel_rfl) (by simp) ?_
            refine AllReadyH.cons (o := _) rfl (fun K hK => ?_) (AllReadyH.nil)
            first | rw [if_pos (by rfl)] | rw [if_pos (by kernel_rfl)]
            refine app_wp (.tmp 82) (.tmp 88) _ _ rfl _ _ rfl rfl hr1 ?_
            refine hK.out _ _ (hS9.out) (fun hS => ?_)
            clear hK K
            (try simp only [Act.put, List.setIfInBounds_toArray, List.set_cons_zero, List.set_cons_succ])
            have HBX : Hid (Below wz.heap.size wz W2) := Lib.hid hb12
            have HP := Lib.hid hp2
            have HKU : Hid (Bk W2 wz.heap.size 29 (elV tc tn true (.slice none 0 0) (.slice s m cap)).cells.toList) := Lib.hid (((Bk.new wz 29 (elV tc tn true (.slice none 0 0) (.slice s m cap)).cells.toList).alloc (.cells #[] 29)).only hg2 (by intro e; injection e with e; simp at e))
            have HU := Lib.hid (RdE.keep (T := fun j => S j ∨ (wd.heap.size ≤ j ∧ j < w8.heap.size)) HBX.out.size (fun j _ hl => HBX.out.block j hl) (fun _ hj _ => hj) _ _ EZ.out)
            have HOB : Hid (∀ q, v2.ownBlock = some q → D ≠ q) := Lib.hid (fun q hq e => by subst e; have h2 := hob2 _ hq; (try rw [World.size_alloc] at h2); have h3 := KZ.out.lt; omega)
            generalize hWX : W2 = WX at *
            obtain ⟨v3, cs3, W4, hr3, hp3, hg3⟩ := Pl.one HP.out (by rw [List.length_take]; omega) HKU.out HU.out
            have hb34 : Below B WX W4 := (Below.refl B WX).grown hg3 HP.out.bz (fun k hk => (HP.out.ob hk).1)
            have hS4 : Bk W4 D 29 [.int .u8 (tc : Int), .bool true, .int .u32 (tn : Int), .slice none 0 0, .slice s m cap] := hS.only hg3 (by
              intro e
              have e2 := HOB.out D e.symm
              exact e2 rfl)
            refine wpAnyH_ready (rs := [10]) (by kernel_rfl) (by simp) ?_
            refine AllReadyH.cons (o := _) rfl (fun K hK => ?_) (AllReadyH.nil)
            first | rw [if_pos (by rfl)] | rw [if_pos (by kernel_rfl)]
            refine app_wp (.tmp 89) (.tmp 91) _ _ rfl _ _ rfl rfl hr3 ?_
            refine hK.out _ _ (hS4) (fun hS => ?_)
            clear hK K
            (try simp only [Act.put, List.setIfInBounds_toArray, List.set_cons_zero, List.set_cons_succ])
            refine wpAnyH_take (i := 11) (oi := ⟨some 3, _, _, _, _, _⟩) (v := v3) rfl (by kernel_rfl) (by kernel_rfl) (by kernel_rfl) (fun _ _ _ h => h) (Or.inl ⟨by rfl, fun w hSw => by (try dsimp only at hSw); go_simp⟩) hS ?_
            simp only [Act.put, List.setIfInBounds_toArray, List.set_cons_zero, List.set_cons_succ]
            refine wpAnyH_done (by kernel_rfl) ?_ _
            have HNEW : Hid (OfR w B R (p + 1) v3 W4 ∧ Below w2.heap.size w2 W4) := Lib.hid (by
              have q0 : Below B wr W4 := ((HBZ.out.mono HPB.out).trans (HBX.out.mono (Nat.le_trans HPB.out HBZ.out.size))).trans hb34
              have q1 : Below w2.heap.size w2 W4 := HBel.out.trans (by rw [HBB.out]; exact q0)
              exact ⟨⟨_, _, cs3, hp3, okP_fold HOK.out (by omega) HCHK.out (by rw [HDPE.out]; omega), HBR.out.below q0 hRB, HBB2.out.trans (q0.mono hwB)⟩, q1⟩)
            clear hp3 hg3 hb34 hS4 hS hr3
            go_wp2_with fail
            exact ⟨⟨p + 1, by omega, by omega, by go_num, HNEW.out.1, HNEW.out.2⟩, by simp [intOf]; omega⟩
    · obtain ⟨S, es, cs, hpl, hok, hbr, hbb⟩ := HOF.out
      have hTR : ∀ j, B ≤ j → (fun j => w.heap.size ≤ j ∧ j ≠ R) j := fun j hj => ⟨by omega, by omega⟩
      obtain ⟨Av, cv, rfl, hnc, hcm, hrds⟩ := hpl.rds hTR
      obtain ⟨n, hn⟩ : ∃ n, es.length = n := ⟨_, rfl⟩
      have hct := hok.2
      have hesl : n ≤ 39 := by have := cntS_ge es; omega
      rw [hn] at hnc ⊢
      obtain ⟨r0, r1, r2, r3, r4, rz⟩ := hbr.five
      obtain ⟨s0, s1, s2, s3, s4⟩ := hbr.free5
      have HR := Lib.hid hbr
      have HB := Lib.hid hbb
      have HOK := Lib.hid hok
      have HRDS := Lib.hid hrds
      have HN2 := Lib.hid hn
      have HCT := Lib.hid hct
      clear hpl hok hbr hbb hrds hn HOF HBel hTR hct
      have hgt : decide (p < N) = false ∨ (decide (p < N) = true ∧ decide ((p : Int) < 39) = false) := by
        by_cases h : p < N
        · right; constructor
          · simp; omega
          · simp; omega
        · left; simp; omega
      clear hlt
      by_cases hn1 : n = 1
      · obtain ⟨e1, rfl⟩ : ∃ e1, es = [e1] := List.length_eq_one_iff.1 (by rw [HN2.out]; exact hn1)
        have hb1 : ((n : Int) == 1) = true := by simp; omega
        have hn0 : 0 < n := by omega
        obtain ⟨b, off, c, num, k, A1, l1, c1, A2, l2, c2, rfl, hbl, hSb, x0, x1, x2, x3, x4, hel⟩ := HRDS.out.fives (i := 0) (by simp)
        simp only [Nat.zero_mul, Nat.add_zero, List.getElem_cons_zero] at x0 x1 x2 x3 x4 hel
        have HE := Lib.hid hel
        obtain ⟨v1, v2, v3⟩ := HOK.out.1 e1 (by simp)
        have HV := Lib.hid (show valE e1 ∧ depE e1 ≤ 16 ∧ bndE e1 = true ∧ cntE e1 ≤ 40 from ⟨v1, by omega, v3, by have := HCT.out; rw [cntS, cntS] at this; omega⟩)
        clear hel hSb v1 v2 v3 hn1 HRDS
        rcases hgt with hg1 | ⟨hg1, hg2⟩
        · go_wp2_with fail
          obtain ⟨t0, t1, t2, t3, t4, _⟩ := (((((HR.out.store 0 (.int .u8 (c : Int))).store 1 (.bool k)).store 2 (.int .u32 (num : Int))).store 3 (.slice A1 l1 c1)).store 4 (.slice A2 l2 c2)).five
          have HBF := ((((HB.out.setCell (p := ⟨R, 0, none⟩) hwR (.int .u8 (c : Int))).setCell (p := ⟨R, 1, none⟩) hwR (.bool k)).setCell (p := ⟨R, 2, none⟩) hwR (.int .u32 (num : Int))).setCell (p := ⟨R, 3, none⟩) hwR (.slice A1 l1 c1)).setCell (p := ⟨R, 4, none⟩) hwR (.slice A2 l2 c2)
          refine bodyPost_ret (v := .agg #[.int .u8 (c : Int), .bool k, .int .u32 (num : Int), .slice A1 l1 c1, .slice A2 l2 c2]) ?_ rfl ?_
          · simp [results, Try.results25, go_sem, t0, t1, t2, t3, t4]
          refine ⟨_, _, rfl, HV.out.1, HV.out.2.1, HV.out.2.2.1, HV.out.2.2.2, RdE.keep (S := fun j => w.heap.size ≤ j ∧ j ≠ R) (w := wr) (by simp [World.setCell]) (fun i hi _ => ?_) (fun i hi _ => And.left hi) _ _ HE.out, HBF⟩
          have hi' : i ≠ R := And.right hi
          rw [Below.heap_setCell _ _ _ _ hi', Below.heap_setCell _ _ _ _ hi', Below.heap_setCell _ _ _ _ hi', Below.heap_setCell _ _ _ _ hi', Below.heap_setCell _ _ _ _ hi']
        · go_wp2_with fail
          obtain ⟨t0, t1, t2, t3, t4, _⟩ := (((((HR.out.store 0 (.int .u8 (c : Int))).store 1 (.bool k)).store 2 (.int .u32 (num : Int))).store 3 (.slice A1 l1 c1)).store 4 (.slice A2 l2 c2)).five
          have HBF := ((((HB.out.setCell (p := ⟨R, 0, none⟩) hwR (.int .u8 (c : Int))).setCell (p := ⟨R, 1, none⟩) hwR (.bool k)).setCell (p := ⟨R, 2, none⟩) hwR (.int .u32 (num : Int))).setCell (p := ⟨R, 3, none⟩) hwR (.slice A1 l1 c1)).setCell (p := ⟨R, 4, none⟩) hwR (.slice A2 l2 c2)
          refine bodyPost_ret (v := .agg #[.int .u8 (c : Int), .bool k, .int .u32 (num : Int), .slice A1 l1 c1, .slice A2 l2 c2]) ?_ rfl ?_
          · simp [results, Try.results25, go_sem, t0, t1, t2, t3, t4]
          refine ⟨_, _, rfl, HV.out.1, HV.out.2.1, HV.out.2.2.1, HV.out.2.2.2, RdE.keep (S := fun j => w.heap.size ≤ j ∧ j ≠ R) (w := wr) (by simp [World.setCell]) (fun i hi _ => ?_) (fun i hi _ => And.left hi) _ _ HE.out, HBF⟩
          have hi' : i ≠ R := And.right hi
          rw [Below.heap_setCell _ _ _ _ hi', Below.heap_setCell _ _ _ _ hi', Below.heap_setCell _ _ _ _ hi', Below.heap_setCell _ _ _ _ hi', Below.heap_setCell _ _ _ _ hi']
      · have hb1 : ((n : Int) == 1) = false := by simp; omega
        have HE : Hid (RdE false (fun j => w.heap.size ≤ j ∧ j ≠ R) wr (.mk 0 16 true [] es) (elV 0 16 true (.slice none 0 0) (.slice Av n cv))) := Lib.hid ⟨by decide, by decide, All8.nil, none, 0, Av, cv, by rw [HN2.out]; rfl, RdX.nil, Nat.le_refl _, Nat.zero_le _, by rw [HN2.out]; exact hnc, hcm, fun h => (by cases h), HRDS.out⟩
        have HV := Lib.hid (show valE (.mk 0 16 true [] es) ∧ depE (.mk 0 16 true [] es) ≤ 16 ∧ bndE (.mk 0 16 true [] es) = true ∧ cntE (.mk 0 16 true [] es) ≤ 40 from by
          obtain ⟨v1, v2, v3⟩ := okP_end HOK.out (by omega)
          exact ⟨v1, v2, v3, by have := HCT.out; rw [cntE]; omega⟩)
        clear hn1 HRDS
        rcases hgt with hg1 | ⟨hg1, hg2⟩
        · go_wp2_with fail
          obtain ⟨t0, t1, t2, t3, t4, _⟩ := (((((HR.out.store 0 (.int .u8 0)).store 1 (.bool true)).store 2 (.int .u32 16)).store 3 (.slice none 0 0)).store 4 (.slice Av n cv)).five
          have HBF := ((((HB.out.setCell (p := ⟨R, 0, none⟩) hwR (.int .u8 0)).setCell (p := ⟨R, 1, none⟩) hwR (.bool true)).setCell (p := ⟨R, 2, none⟩) hwR (.int .u32 16)).setCell (p := ⟨R, 3, none⟩) hwR (.slice none 0 0)).setCell (p := ⟨R, 4, none⟩) hwR (.slice Av n cv)
          refine bodyPost_ret (v := .agg #[.int .u8 0, .bool true, .int .u32 16, .slice none 0 0, .slice Av n cv]) ?_ rfl ?_
          · simp [results, Try.results25, go_sem, t0, t1, t2, t3, t4]
          refine ⟨_, _, rfl, HV.out.1, HV.out.2.1, HV.out.2.2.1, HV.out.2.2.2, RdE.keep (S := fun j => w.heap.size ≤ j ∧ j ≠ R) (w := wr) (by simp [World.setCell]) (fun i hi _ => ?_) (fun i hi _ => And.left hi) _ _ HE.out, HBF⟩
          have hi' : i ≠ R := And.right hi
          rw [Below.heap_setCell _ _ _ _ hi', Below.heap_setCell _ _ _ _ hi', Below.heap_setCell _ _ _ _ hi', Below.heap_setCell _ _ _ _ hi', Below.heap_setCell _ _ _ _ hi']
        · go_wp2_with fail
          obtain ⟨t0, t1, t2, t3, t4, _⟩ := (((((HR.out.store 0 (.int .u8 0)).store 1 (.bool true)).store 2 (.int .u32 16)).store 3 (.slice none 0 0)).store 4 (.slice Av n cv)).five
          have HBF := ((((HB.out.setCell (p := ⟨R, 0, none⟩) hwR (.int .u8 0)).setCell (p := ⟨R, 1, none⟩) hwR (.bool true)).setCell (p := ⟨R, 2, none⟩) hwR (.int .u32 16)).setCell (p := ⟨R, 3, none⟩) hwR (.slice none 0 0)).setCell (p := ⟨R, 4, none⟩) hwR (.slice Av n cv)
          refine bodyPost_ret (v := .agg #[.int .u8 0, .bool true, .int .u32 16, .slice none 0 0, .slice Av n cv]) ?_ rfl ?_
          · simp [results, Try.results25, go_sem, t0, t1, t2, t3, t4]
          refine ⟨_, _, rfl, HV.out.1, HV.out.2.1, HV.out.2.2.1, HV.out.2.2.2, RdE.keep (S := fun j => w.heap.size ≤ j ∧ j ≠ R) (w := wr) (by simp [World.setCell]) (fun i hi _ => ?_) (fun i hi _ => And.left hi) _ _ HE.out, HBF⟩
          have hi' : i ≠ R := And.right hi
          rw [Below.heap_setCell _ _ _ _ hi', Below.heap_setCell _ _ _ _ hi', Below.heap_setCell _ _ _ _ hi', Below.heap_setCell _ _ _ _ hi', Below.heap_setCell _ _ _ _ hi']
end Go.Proofs.Ytgdjgahmnnjeeaa
