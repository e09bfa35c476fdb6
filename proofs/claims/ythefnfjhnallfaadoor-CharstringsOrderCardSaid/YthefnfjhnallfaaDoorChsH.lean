/-
  Layer 9: the contract of Kinds.
  Conditions: unicode/utf8's tables hold what its text lays.
-/
import Derived.Test.YthefnfjhnallfaaDoorChsG
namespace Go.Proofs.YthefnfjhnallfaaDoor.Chs
open Go.RowKit Go.Shelf

/-- The walk's step at the builtin append, by what it runs to. -/
theorem wpList_app {P : Program} {w : World} {ops : Array Oper} {rest : List Oper} {o : Oper} {a : Act} {Q : Exit → Act → World → Prop} (hgd : o.guard = none) (s x : Operand) (t1 t2 : TypeId)
    (ho : o.op = .call { callee := .builtin .append, args := #[s, x], argTypes := #[t1, t2] }) (u v : Value) (hs : a.eval s = u) (hx : a.eval x = v) {r : Value} {w1 : World}
    (hrun : (Builtin.append_ #[t1, t2] o.type #[u, v]).run P w = .ok r w1) (h : wpList P ops Q rest (a.put o.dst r) w1) : wpList P ops Q (o :: rest) a w := by
  refine wpList_plain hgd fun K hK => ?_
  have hK' := hK _ _ h
  unfold Oper.wp execOp
  simp only [ho, resolve, invoke, builtin, Sem.run_bind, Sem.run_pure, Result.andThen_ok, List.map_toArray, List.map_cons, List.map_nil, hs, hx, hrun]
  exact hK'
/-- Cells of uint32. -/
def cs32 (l : List Nat) : List Value := l.map fun (x : Nat) => .int .u32 (x : Int)
theorem cs32_len (l : List Nat) : (cs32 l).length = l.length := by unfold cs32; rw [List.length_map]
theorem cs32_snoc (l : List Nat) (x : Nat) : cs32 l ++ [.int .u32 (x : Int)] = cs32 (l ++ [x]) := by unfold cs32; rw [List.map_append]; rfl
theorem infoU : (Tryd.prog.info? 22).map (fun i => (i.zero, i.size, i.bytes)) = some (some (.int .u32 0), 1, 4) := by kernel_rfl
/-- 'append(v, x)' of one uint32 to what the call has built. -/
theorem appU {w : World} {base : Nat} {v : Value} {l : List Nat} (hown : w.ownsRow base 22 1 v l.length (cs32 l)) (x : Nat) (hb : base ≤ w.heap.size) (hl : l.length ≤ 1000000) :
    ∃ v' w', (Builtin.append_ #[45, 45] 45 #[v, .slice (some ⟨w.heap.size, 0, none⟩) 1 1]).run Tryd.prog (w.alloc (.cells #[.int .u32 (x : Int)] 22)) = .ok v' w' ∧ w'.ownsRow base 22 1 v' (l ++ [x]).length (cs32 (l ++ [x])) ∧ Below base w w' := by
  rw [← cs32_len] at hown
  obtain ⟨v', w', h1, h2, h3⟩ := app_one (P := Tryd.prog) (ty := 45) Tryd.underlying45 infoU rfl hown (.int .u32 (x : Int)) rfl hb (by rw [cs32_len]; omega) (by rw [cs32_len]; unfold maxLen; omega)
  refine ⟨v', w', h1, ?_, h3⟩
  rw [cs32_snoc, cs32_len] at h2
  exact h2
theorem clipU_s (b n c : Nat) (w : World) (h : n ≤ c) (_hc : c ≤ maxLen) : Calls Tryd.prog 39 #[.slice (some ⟨b, 0, none⟩) n c] w fun e w' => e = .returned (.slice (some ⟨b, 0, none⟩) n n) ∧ w = w' := by
  unfold maxLen at _hc
  have h1 : (n : Int) ≤ (c : Int) := by omega
  go_enter Tryd.func39, Tryd.ntmps39
  go_wp2_with fail
  go_ret
  exact ⟨rfl, rfl⟩
theorem clipU_nil (w : World) : Calls Tryd.prog 39 #[.slice none 0 0] w fun e w' => e = .returned (.slice none 0 0) ∧ w = w' := by
  go_enter Tryd.func39, Tryd.ntmps39
  go_wp2_with fail
  go_ret
  exact ⟨rfl, rfl⟩
/-- Clip of what the call has built. -/
theorem clipU_any {w : World} {base : Nat} {v : Value} {l : List Nat} (hown : w.ownsRow base 22 1 v l.length (cs32 l)) : Calls Tryd.prog 39 #[v] w fun e w' => (∃ A, e = .returned (.slice A l.length l.length) ∧ Rd w A (cs32 l)) ∧ w = w' := by
  obtain ⟨A, c, hv, hr, h1, h2⟩ := own_open (by rw [cs32_len]; exact hown)
  rw [cs32_len] at hv h1
  rcases hown.2 with ⟨rfl, h0⟩ | ⟨g, cap, cur, rfl, _⟩
  · refine (clipU_nil w).mono ?_
    rintro e w' ⟨rfl, rfl⟩
    exact ⟨⟨none, by rw [h0], by rw [List.eq_nil_of_length_eq_zero h0]; exact fun h => absurd rfl h⟩, rfl⟩
  · injection hv with e1 e2 e3
    subst e1
    subst e3
    refine (clipU_s g l.length cap w h1 h2).mono ?_
    rintro e w' ⟨rfl, rfl⟩
    exact ⟨⟨_, rfl, hr⟩, rfl⟩
theorem own_bel {w w' : World} {base : Nat} {e : TypeId} {v : Value} {n : Nat} {xs : List Value} (h : w.ownsRow base e 1 v n xs) (hb : Below w.heap.size w w') : w'.ownsRow base e 1 v n xs :=
  h.kept (row := none) ⟨hb.os, hb.tape, hb.output, hb.size, fun k hk _ => hb.block k hk⟩ (by cases v.ownBlock <;> simp)
/-- What Kinds answers: the kinds whose alphabet has the text. -/
def kindsP (p : Nat) (l : List Nat) : List Nat := ((List.range p).filter fun q => chkC (kN q) l == 0).map kN
theorem kindsP_succ (p : Nat) (l : List Nat) : kindsP (p + 1) l = if chkC (kN p) l = 0 then kindsP p l ++ [kN p] else kindsP p l := by
  unfold kindsP
  rw [List.range_succ, List.filter_append]
  split
  · rename_i h
    rw [show List.filter (fun q => chkC (kN q) l == 0) [p] = [p] by simp [h], List.map_append]; rfl
  · rename_i h
    rw [show List.filter (fun q => chkC (kN q) l == 0) [p] = [] by simp [h], List.append_nil]
theorem kindsP_len (p : Nat) (l : List Nat) : (kindsP p l).length ≤ p := by
  unfold kindsP
  rw [List.length_map]
  exact Nat.le_trans (List.length_filter_le _ _) (by rw [List.length_range]; exact Nat.le_refl _)

set_option linter.unusedSimpArgs false in
set_option maxHeartbeats 4000000 in
set_option maxRecDepth 100000 in
theorem kinds_any (l : List Nat) (h8 : All8 l) (hl : l.length ≤ 9000000000000000000) (w : World) (hT : Tab w) :
    Calls Tryd.prog 27 #[.string (bstr l)] w fun e w' => (∃ A, e = .returned (.slice A (kindsP 5 l).length (kindsP 5 l).length) ∧ Rd w' A (cs32 (kindsP 5 l))) ∧ Below w.heap.size w w' := by
  obtain ⟨Sz, hSz⟩ : ∃ s, S0 = s := ⟨_, rfl⟩
  have hz : ∀ w : World, (zeroValue 24).run Tryd.prog w = .ok (.agg #[.int .u32 0, .string Sz]) w := by rw [← hSz]; exact zeroCh
  clear hSz
  have hza := zeroAl
  obtain ⟨az, haz⟩ : ∃ az, a0 = az := ⟨_, rfl⟩
  have hzl : az.length = 4 := by rw [← haz]; rfl
  rw [haz] at hza
  clear haz
  have C1 := Lib.hid (fun (k : Nat) hk W h => check_any k hk l h8 hl W h)
  obtain ⟨S, hS⟩ : ∃ S, bstr l = S := ⟨_, rfl⟩
  rw [hS] at C1 ⊢
  have T0 := Lib.hid hT
  obtain ⟨AR, hAR⟩ : ∃ AR, alRow = AR := ⟨_, rfl⟩
  have HAR := Lib.hid hAR
  have CA := Lib.hid (fun W => alphabets_any W)
  rw [hAR] at CA
  have R1 := Lib.hid (Bk.new w 74 AR)
  have B1 := Lib.hid (bel1 w (.cells AR.toArray 74))
  have HLE : Hid (w.heap.size ≤ (w.alloc (.cells AR.toArray 74)).heap.size) := Lib.hid B1.out.size
  obtain ⟨L, hL⟩ : ∃ L, kindsP 5 l = L := ⟨_, rfl⟩
  have HL := Lib.hid hL
  rw [hL]
  clear hAR hT hS h8 hL
  go_enter Tryd.func27, Tryd.ntmps27
  go_upto_region 3 with (refine (CA.out _).mono ?_; rintro e w2 ⟨rfl, rfl⟩)
  generalize w.alloc (.cells AR.toArray 74) = w2 at *
  obtain ⟨g2, hg2⟩ : ∃ g2, w.heap.size = g2 := ⟨_, rfl⟩
  have HG2 := Lib.hid hg2
  rw [hg2] at R1 ⊢
  obtain ⟨B0, hB0⟩ : ∃ B0, w2.heap.size = B0 := ⟨_, rfl⟩
  have HB0 := Lib.hid hB0
  have HLT : Hid (g2 < B0) := Lib.hid (by rw [← hB0]; exact R1.out.lt)
  rw [hB0] at HLE
  have START := Lib.hid (World.ownsRow_nil w2 B0 22 1)
  clear hg2 hB0
  go_loopw [3, 8] (fun v i wr => ∃ p : Nat, p ≤ 5 ∧ i = .int .i64 (p : Int) ∧ wr.ownsRow B0 22 1 v (kindsP p l).length (cs32 (kindsP p l)) ∧ Bk wr g2 74 AR ∧ Below w.heap.size w wr ∧ B0 ≤ wr.heap.size) (fun _ i _ => 5 - (intOf i).toNat)
  case atStart => exact ⟨0, Nat.zero_le _, rfl, START.out, R1.out, B1.out, Nat.le_of_eq HB0.out.symm⟩
  case round =>
    obtain ⟨p, hp, rfl, hown, hr, hbl, hsz⟩ := hrel
    have OWN := Lib.hid hown
    have R := Lib.hid hr
    have BL := Lib.hid hbl
    have SZ := Lib.hid hsz
    clear hown hr hbl hsz R1 B1 START HB0
    rcases Nat.lt_or_ge p 5 with hlt | hge
    · obtain ⟨f1, f2, f3, hf, hal, hik, hk32, hone⟩ := kA_form hlt
      have hrg := kA_cell (HAR.out ▸ R.out) p
      have C2 := Lib.hid (C1.out (kN p) hk32)
      have HSUC := Lib.hid (kindsP_succ p l)
      have HLN := Lib.hid (kindsP_len p l)
      obtain ⟨f, hfc⟩ : ∃ f, chkC (kN p) l = f := ⟨_, rfl⟩
      rw [hfc] at C2 HSUC
      obtain ⟨KA, hKA⟩ : ∃ KA, kA p = KA := ⟨_, rfl⟩
      rw [hKA] at hf hrg hone
      have hkl : KA.length = 4 := by rw [hf]; rfl
      have HRG := Lib.hid hrg
      have HF := Lib.hid hf
      obtain ⟨n, hn⟩ : ∃ n, kN p = n := ⟨_, rfl⟩
      rw [hn] at hk32 HF C2 HSUC
      obtain ⟨g3, hg3⟩ : ∃ g3, wr.heap.size = g3 := ⟨_, rfl⟩
      obtain ⟨w3, hw3⟩ : ∃ w3, wr.alloc (.cells az.toArray 74) = w3 := ⟨_, rfl⟩
      have T3 : Hid (Bk w3 g3 74 az) := Lib.hid (by rw [← hw3, ← hg3]; exact Bk.new wr _ az)
      have hb3 : Hid (Below wr.heap.size wr w3) := Lib.hid (by rw [← hw3]; exact bel1 wr _)
      have HW3 := Lib.hid hw3
      have HG3 := Lib.hid hg3
      clear hf hrg hn hal hik hKA hw3 hg3 hfc
      go_upto_region 5 with (first
        | (refine wpList_loadG rfl (.tmp 10) rfl rfl HRG.out Tryd.underlying74 rfl (by rw [hkl]; exact infoAl) ?_)
        | (rw [HW3.out, HG3.out]
           refine wpList_storeG rfl (.tmp 5) (.tmp 11) rfl rfl rfl T3.out (by rw [hkl]; exact infoAl) (by rw [hzl, hkl]) hone ?_
           intro w4 T4 hg4 hz4
           have HT4 := Lib.hid T4
           have B4 : Hid (Below wr.heap.size wr w4) := Lib.hid (hb3.out.grown hg4 hb3.out.size (fun k e => by injection e with e; have := HG3.out; omega))
           clear T4 hg4 hz4))
      have c0 : w4.cell? ⟨g3, 0, none⟩ = some (.int .u32 (n : Int)) := by rw [HT4.out.cell, HF.out]; rfl
      have T4 := tt (tt T0 BL) B4
      go_wp2_with fail
      refine (C2.out _ T4.out).mono ?_
      rintro e w5 ⟨rfl, hb⟩
      have B5 := bt B4 (Lib.hid hb)
      have R5 := kt R B5
      have OWN5 := Lib.hid (own_bel OWN.out B5.out)
      have BL5 := bt BL B5
      have SZ5 : Hid (B0 ≤ w5.heap.size) := Lib.hid (Nat.le_trans SZ.out B5.out.size)
      have c5 : w5.cell? ⟨g3, 0, none⟩ = some (.int .u32 (n : Int)) := (hb.cell (p := ⟨g3, 0, none⟩) HT4.out.lt).trans c0
      clear hb c0 HT4 B4 B5 R OWN BL SZ T4
      by_cases h0 : f = 0
      · subst h0
        obtain ⟨v', w6, hrun, hown6, hb6⟩ := appU OWN5.out n SZ5.out (by have := HLN.out; omega)
        have HNX : Hid (kindsP (p + 1) l = kindsP p l ++ [n]) := Lib.hid (by rw [HSUC.out, if_pos rfl])
        rw [← HNX.out] at hown6
        have OWN6 := Lib.hid hown6
        have R6 := Lib.hid (R5.out.below hb6 HLT.out)
        have BL6 : Hid (Below w.heap.size w w6) := Lib.hid (BL5.out.trans (hb6.mono (Nat.le_trans HLE.out (by have := HLE.out; omega))))
        have SZ6 : Hid (B0 ≤ w6.heap.size) := Lib.hid (Nat.le_trans SZ5.out hb6.size)
        clear hown6 hb6 HSUC OWN5 R5 BL5 SZ5
        go_wp2_with (at_builtin; refine wpList_app rfl _ _ _ _ rfl _ _ rfl rfl hrun ?_)
        exact ⟨⟨p + 1, by omega, by go_num, OWN6.out, R6.out, BL6.out, SZ6.out⟩, by simp [intOf]; omega⟩
      · have HNX : Hid (kindsP (p + 1) l = kindsP p l) := Lib.hid (by rw [HSUC.out, if_neg h0])
        have hfb : ((f : Int) == 0) = false := by rw [beq_eq_false_iff_ne]; omega
        rw [← HNX.out] at OWN5
        clear HSUC h0
        go_wp2_with fail
        exact ⟨⟨p + 1, by omega, by go_num, OWN5.out, R5.out, BL5.out, SZ5.out⟩, by simp [intOf]; omega⟩
    · obtain rfl : p = 5 := by omega
      rw [HL.out] at OWN
      have CL := Lib.hid (clipU_any OWN.out)
      go_wp2_with fail
      refine CL.out.mono ?_
      rintro e w6 ⟨⟨A, rfl, hrd⟩, rfl⟩
      have HRD := Lib.hid hrd
      clear hrd
      go_wp2_with fail
      go_ret
      exact ⟨⟨A, rfl, HRD.out⟩, BL.out⟩
end Go.Proofs.YthefnfjhnallfaaDoor.Chs
