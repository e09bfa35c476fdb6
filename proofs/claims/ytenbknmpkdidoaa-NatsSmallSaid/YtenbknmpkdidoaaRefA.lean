/-
  The reference of layer 1: contracts of trim, scale, Of, Small, at.
  Conditions: numbers are short, and read as digits.
-/
import Derived.Test.YtenbknmpkdidoaaNatsG
namespace Go.Proofs.Ytenbknmpkdidoaa
open Go.RowKit

set_option maxHeartbeats 400000 in
theorem trim_any (A : Option Addr) (l : List Nat) (c : Nat) (w : World) (hlc : l.length ≤ c) (hc : c ≤ maxLen) (h : Ri w A l) :
    Calls Try.prog 52 #[.slice A l.length c] w fun e w' => e = .returned (.slice A (trimL l).length c) ∧ Ri w A (trimL l) ∧ w = w' := by
  unfold maxLen at hc
  go_enter Try.func52, Try.ntmps52
  go_wp2_with fail
  go_loop [0] (fun s => ∃ k : Nat, k ≤ l.length ∧ s = .slice A k c ∧ trimL (l.take k) = trimL l) (fun s => match s with | .slice _ k _ => k | _ => 0)
  case atStart => exact ⟨l.length, Nat.le_refl _, rfl, by rw [List.take_of_length_le (Nat.le_refl _)]⟩
  case round =>
    obtain ⟨k, hk, rfl, ht⟩ := hrel
    have HT := Lib.hid ht
    clear ht
    by_cases h0 : k = 0
    · subst h0
      go_wp2_with fail
      go_ret
      have e : trimL l = [] := by rw [← HT.out]; rfl
      exact ⟨by rw [e]; rfl, by rw [e]; exact Ri.nil, rfl⟩
    · obtain ⟨j, rfl⟩ : ∃ j, k = j + 1 := ⟨k - 1, by omega⟩
      obtain ⟨b, off, rfl, hb, hcell⟩ := h.at_ (k := j) (by omega)
      have e1 : ((j : Int) + 1) - 1 = (j : Int) := by omega
      have H := Lib.hid h
      have hTS : Hid (l.take (j + 1) = l.take j ++ [l[j]]) := List.take_succ_eq_append_getElem (by omega)
      obtain ⟨x, hx⟩ : ∃ x, l[j] = x := ⟨_, rfl⟩
      rw [hx] at hcell hTS
      clear h h0 hx
      by_cases hx0 : x = 0
      · subst hx0
        go_wp2_with fail
        refine ⟨⟨j, by omega, rfl, ?_⟩, ?_⟩
        · rw [← HT.out, hTS.out, trimL_zero]
        · simp
      · have hb0 : ((x : Int) == 0) = false := by simp; omega
        go_wp2_with fail
        go_ret
        have e : trimL l = l.take (j + 1) := by rw [← HT.out, hTS.out, trimL_last _ _ hx0]
        have el : (trimL l).length = j + 1 := by rw [e, List.length_take]; omega
        exact ⟨by rw [el]; rfl, by rw [e]; exact H.out.take_ _, rfl⟩
/-- The walk's step at the builtin append, by what it runs to. -/
theorem wpList_app {P : Program} {w : World} {ops : Array Oper} {rest : List Oper} {o : Oper} {a : Act} {Q : Exit → Act → World → Prop} (hgd : o.guard = none) (s x : Operand) (t1 t2 : TypeId)
    (ho : o.op = .call { callee := .builtin .append, args := #[s, x], argTypes := #[t1, t2] }) (u v : Value) (hs : a.eval s = u) (hx : a.eval x = v) {r : Value} {w1 : World}
    (hrun : (Builtin.append_ #[t1, t2] o.type #[u, v]).run P w = .ok r w1) (h : wpList P ops Q rest (a.put o.dst r) w1) : wpList P ops Q (o :: rest) a w := by
  refine wpList_plain hgd fun K hK => ?_
  have hK' := hK _ _ h
  unfold Oper.wp execOp
  simp only [ho, resolve, invoke, builtin, Sem.run_bind, Sem.run_pure, Result.andThen_ok, List.map_toArray, List.map_cons, List.map_nil, hs, hx, hrun]
  exact hK'
theorem info3 : (Try.prog.info? 3).map (fun i => (i.zero, i.size, i.bytes)) = some (some (.int .i64 0), 1, 8) := by kernel_rfl
theorem info5 : (Try.prog.info? 5).map (fun i => (i.zero, i.size, i.bytes)) = some (some (.int .u8 0), 1, 1) := by kernel_rfl
theorem appI {w : World} {base : Nat} {v : Value} {l : List Nat} (hown : w.ownsRow base 3 1 v l.length (csI l)) (x : Nat) (hb : base ≤ w.heap.size) (hl : l.length ≤ 1000000) :
    ∃ v' w', (Builtin.append_ #[43, 43] 43 #[v, .slice (some ⟨w.heap.size, 0, none⟩) 1 1]).run Try.prog (w.alloc (.cells #[.int .i64 (x : Int)] 3)) = .ok v' w' ∧ w'.ownsRow base 3 1 v' (l ++ [x]).length (csI (l ++ [x])) ∧ Below base w w' := by
  rw [← csI_length] at hown
  obtain ⟨v', w', h1, h2, h3⟩ := app_one (P := Try.prog) (ty := 43) Try.underlying43 info3 rfl hown (.int .i64 (x : Int)) rfl hb (by rw [csI_length]; omega) (by rw [csI_length]; unfold maxLen; omega)
  refine ⟨v', w', h1, ?_, h3⟩
  rw [csI_snoc, csI_length] at h2
  exact h2

set_option maxHeartbeats 800000 in
theorem scale_any (A : Option Addr) (l : List Nat) (c p : Nat) (w : World) (hl : l.length ≤ 100000) (h : Ri w A l) (h10 : Lt 10 l) (hp : p < 256) :
    Calls Try.prog 50 #[.slice A l.length c, .int .i64 256, .int .i64 p] w (GiveI w (dgs 10 (256 * vl 10 l + p))) := by
  go_enter Try.func50, Try.ntmps50
  go_wp2_with fail
  go_loopw [7, 8, 9] (fun v r i wr => ∃ (k q : Nat) (o : List Nat), k ≤ l.length ∧ q ≤ 256 ∧ i = .int .i64 k ∧ r = .int .i64 q ∧ o.length = k ∧ Lt 10 o ∧ vl 10 o + 10 ^ k * q = 256 * vl 10 (l.take k) + p ∧
    wr.ownsRow w.heap.size 3 1 v o.length (csI o) ∧ Below w.heap.size w wr) (fun _ _ i _ => l.length - (intOf i).toNat)
  case atStart => exact ⟨0, p, [], Nat.zero_le _, by omega, rfl, rfl, rfl, Lt.nil, by simp [vl], World.ownsRow_nil _ _ _ _, Below.refl _ _⟩
  case round =>
    obtain ⟨k, q, o, hk, hq, rfl, rfl, ho, ho10, hv, hown, hbel⟩ := hrel
    have HV := Lib.hid hv
    have HO := Lib.hid ho
    have HBel := Lib.hid hbel
    have HOwn := Lib.hid hown
    clear hv ho hbel hown
    by_cases hlt : k < l.length
    · obtain ⟨b, off, rfl, hb, hcell0⟩ := h.at_ hlt
      have hcell : wr.cell? ⟨b, off + k, none⟩ = some (.int .i64 (l[k] : Int)) := (HBel.out.cell hb).trans hcell0
      have hx := h10 _ (List.getElem_mem hlt)
      have HTS : Hid (l.take (k + 1) = l.take k ++ [l[k]]) := List.take_succ_eq_append_getElem hlt
      have H := Lib.hid h
      clear h hcell0
      obtain ⟨x, hxe⟩ : ∃ x, l[k] = x := ⟨_, rfl⟩
      rw [hxe] at hcell HTS hx
      clear hxe
      obtain ⟨v', w1, hrun, hown1, hb1⟩ := appI HOwn.out ((q + x * 256) % 10) HBel.out.size (by rw [HO.out]; omega)
      have hy : (((q + x * 256) % 10 : Nat) : Int) = ((q : Int) + (x : Int) * 256) % 10 := by omega
      rw [hy] at hrun
      have HOwn1 := Lib.hid hown1
      have HB1 := Lib.hid hb1
      clear hown1 hb1 hy
      go_wp2_with (at_builtin; refine wpList_app rfl _ _ _ _ rfl _ _ rfl rfl hrun ?_)
      have hlen : (o ++ [(q + x * 256) % 10]).length = k + 1 := by simp [HO.out]
      refine ⟨⟨k + 1, (q + x * 256) / 10, o ++ [(q + x * 256) % 10], by omega, by omega, by go_num, by go_num, hlen, ho10.app (Lt.cons (Nat.mod_lt _ (by omega)) Lt.nil), ?_, HOwn1.out, (HBel.out).trans ((HB1.out).mono (Nat.le_refl _))⟩, by simp [intOf]; omega⟩
      rw [HTS.out, vl_append, vl_append, HO.out, List.length_take, Nat.min_eq_left (by omega), Nat.pow_succ]
      simp only [vl, Nat.mul_zero, Nat.add_zero]
      have h1 := HV.out
      have h2 := Nat.div_add_mod (q + x * 256) 10
      have h3 := congrArg (10 ^ k * ·) h2
      simp only [Nat.mul_add] at h3
      have h4 : 10 ^ k * (x * 256) = 256 * (10 ^ k * x) := by rw [← Nat.mul_assoc, Nat.mul_comm]
      have h5 : 10 ^ k * 10 * ((q + x * 256) / 10) = 10 ^ k * (10 * ((q + x * 256) / 10)) := Nat.mul_assoc _ _ _
      rw [Nat.mul_add]
      omega
    · have hkl : k = l.length := by omega
      subst hkl
      rw [List.take_of_length_le (Nat.le_refl _)] at HV
      go_wp2_with fail
      go_loopw [7, 8] (fun v r wr => ∃ (q : Nat) (o : List Nat), q ≤ 256 ∧ r = .int .i64 q ∧ o.length + q ≤ l.length + 256 ∧ Lt 10 o ∧ vl 10 o + 10 ^ o.length * q = 256 * vl 10 l + p ∧
        wr.ownsRow w.heap.size 3 1 v o.length (csI o) ∧ Below w.heap.size w wr) (fun _ r _ => (intOf r).toNat)
      case atStart => exact ⟨q, o, hq, rfl, by have := HO.out; omega, ho10, by rw [HO.out]; exact HV.out, HOwn.out, HBel.out⟩
      case round =>
        clear HV HO HBel HOwn ho10 hq
        obtain ⟨q, o, hq, rfl, hlen, ho10, hv, hown, hbel⟩ := hrel
        have HV := Lib.hid hv
        have HBel := Lib.hid hbel
        have HOwn := Lib.hid hown
        have HLen := Lib.hid hlen
        clear hv hbel hown hlen
        by_cases hq0 : q = 0
        · subst hq0
          obtain ⟨A', c', hv', hr', hc1, hc2⟩ := own_open (by rw [csI_length]; exact HOwn.out)
          rw [csI_length] at hc1 hv'
          subst hv'
          have HR := Lib.hid (show Ri wr A' o from hr')
          have C1 := Lib.hid (trim_any A' o c' wr hc1 hc2 HR.out)
          have ht : trimL o = dgs 10 (256 * vl 10 l + p) := trimL_eq_of (by omega) ho10 (by have := HV.out; simpa using this)
          have HT := Lib.hid ht
          have hcm : (trimL o).length ≤ c' := Nat.le_trans (trimL_length o) hc1
          have hcm2 := Lib.hid hcm
          have hc2' := Lib.hid hc2
          clear hr' ht hcm hc2 hc1
          go_wp2_with fail
          refine C1.out.mono ?_
          rintro e w' ⟨rfl, hr2, rfl⟩
          go_wp2_with fail
          go_ret
          rw [← HT.out]
          exact ⟨A', c', rfl, hr2, hcm2.out, hc2'.out, HBel.out⟩
        · have hqpos : 0 < q := by omega
          obtain ⟨v', w1, hrun, hown1, hb1⟩ := appI HOwn.out (q % 10) HBel.out.size (by have := HLen.out; omega)
          have hy : ((q % 10 : Nat) : Int) = (q : Int) % 10 := by omega
          rw [hy] at hrun
          have HOwn1 := Lib.hid hown1
          have HB1 := Lib.hid hb1
          clear hown1 hb1 hy hq0
          go_wp2_with (at_builtin; refine wpList_app rfl _ _ _ _ rfl _ _ rfl rfl hrun ?_)
          refine ⟨⟨q / 10, o ++ [q % 10], by omega, by go_num, ?_, ho10.app (Lt.cons (Nat.mod_lt _ (by omega)) Lt.nil), ?_, HOwn1.out, (HBel.out).trans ((HB1.out).mono (Nat.le_refl _))⟩, by simp [intOf]; omega⟩
          · have := HLen.out; simp; omega
          · rw [vl_append, List.length_append, List.length_singleton, Nat.pow_succ]
            simp only [vl, Nat.mul_zero, Nat.add_zero]
            have h1 := HV.out
            have h3 := congrArg (10 ^ o.length * ·) (Nat.div_add_mod q 10)
            simp only [Nat.mul_add] at h3
            rw [Nat.mul_assoc]
            omega

theorem dgs10_le {v k : Nat} (h : v < 10 ^ k) : (dgs 10 v).length ≤ k := (dgs_length (by omega) v k).2 h
theorem val_lt80 {l : List Nat} (h8 : Lt 256 l) (h : l.length ≤ 80) : val l < 10 ^ 200 := by
  have h1 := val_lt h8
  have h2 : 256 ^ l.length ≤ 256 ^ 80 := Nat.pow_le_pow_right (by omega) h
  have h3 : 256 ^ 80 ≤ 10 ^ 200 := by decide
  omega
set_option maxHeartbeats 800000 in
theorem rof_any (A : Option Addr) (l : List Nat) (c : Nat) (w : World) (hl : l.length ≤ 80) (h : Rb w A l) :
    Calls Try.prog 26 #[.slice A l.length c] w (GiveI w (dgs 10 (val l))) := by
  go_enter Try.func26, Try.ntmps26
  go_wp2_with fail
  go_loopw [3, 4] (fun v i wr => ∃ (k : Nat) (A' : Option Addr) (c' : Nat), k ≤ l.length ∧ i = .int .i64 k ∧ v = .slice A' (dgs 10 (val (l.take k))).length c' ∧ Ri wr A' (dgs 10 (val (l.take k))) ∧ (dgs 10 (val (l.take k))).length ≤ c' ∧ c' ≤ maxLen ∧ Below w.heap.size w wr) (fun _ i _ => l.length - (intOf i).toNat)
  case atStart => exact ⟨0, none, 0, Nat.zero_le _, rfl, rfl, Ri.nil, Nat.le_refl _, by unfold maxLen; omega, Below.refl _ _⟩
  case round =>
    obtain ⟨k, A', c', hk, rfl, rfl, hr, hc1, hc2, hbel⟩ := hrel
    have HR := Lib.hid hr
    have HC1 := Lib.hid hc1
    have HC2 := Lib.hid hc2
    have HBel := Lib.hid hbel
    clear hr hc1 hc2 hbel
    by_cases hlt : k < l.length
    · obtain ⟨b, off, rfl, hb, hx, hcell0⟩ := h.at_ hlt
      have hcell : wr.cell? ⟨b, off + k, none⟩ = some (.int .u8 (l[k] : Int)) := (HBel.out.cell hb).trans hcell0
      have HT : Hid (256 * val (l.take k) + l[k] = val (l.take (k + 1))) := by
        show _ = _
        rw [List.take_succ_eq_append_getElem hlt, val_snoc]
      have hlen := dgs10_le (val_lt80 (h.2.take k) (by rw [List.length_take]; omega))
      have H := Lib.hid h
      clear h hcell0
      obtain ⟨x, hxe⟩ : ∃ x, l[k] = x := ⟨_, rfl⟩
      rw [hxe] at hcell HT hx
      have C1 := scale_any A' (dgs 10 (val (l.take k))) c' x wr (by omega) HR.out (dgs_lt (by omega) _) hx
      rw [vl_dgs (by omega), HT.out] at C1
      have HC := Lib.hid C1
      generalize dgs 10 (val (l.take k)) = P at HC hlen HR HC1
      obtain ⟨Q, hQ⟩ : ∃ Q, dgs 10 (val (l.take (k + 1))) = Q := ⟨_, rfl⟩
      rw [hQ] at HC
      have HQ := Lib.hid hQ
      clear hxe C1 hQ
      go_wp2_with fail
      refine HC.out.mono ?_
      rintro e w' ⟨A'', c'', rfl, h', hc', hc'', hb'⟩
      have HH := Lib.hid h'
      have HBB := Lib.hid hb'
      have HCC := Lib.hid (And.intro hc' hc'')
      clear h' hb' hc' hc''
      go_wp2_with fail
      exact ⟨⟨k + 1, A'', c'', by omega, by go_num, by rw [HQ.out], by rw [HQ.out]; exact HH.out, by rw [HQ.out]; exact HCC.out.1, HCC.out.2, (HBel.out).trans ((HBB.out).mono (HBel.out).size)⟩, by simp [intOf]; omega⟩
    · have hkl : k = l.length := by omega
      subst hkl
      have ht : l.take l.length = l := List.take_of_length_le (Nat.le_refl _)
      rw [ht] at HR HC1
      have HT := Lib.hid ht
      clear ht
      go_wp2_with fail
      go_ret
      exact ⟨A', c', by simp [HT.out], HR.out, HC1.out, HC2.out, HBel.out⟩

set_option maxHeartbeats 800000 in
theorem small_any (n : Nat) (w : World) (hn : n < 9223372036854775808) : Calls Try.prog 34 #[.int .i64 n] w (GiveI w (dgs 10 n)) := by
  have hlen0 := dgs10_le (v := n) (k := 19) (by omega)
  go_enter Try.func34, Try.ntmps34
  go_wp2_with fail
  go_loopw [0, 3] (fun r v wr => ∃ (q : Nat) (o : List Nat), q < 9223372036854775808 ∧ r = .int .i64 q ∧ dgs 10 n = o ++ dgs 10 q ∧ wr.ownsRow w.heap.size 3 1 v o.length (csI o) ∧ Below w.heap.size w wr) (fun r _ _ => (intOf r).toNat)
  case atStart => exact ⟨n, [], hn, rfl, rfl, World.ownsRow_nil _ _ _ _, Below.refl _ _⟩
  case round =>
    obtain ⟨q, o, hq, rfl, hd, hown, hbel⟩ := hrel
    have hol : o.length ≤ 19 := by
      have := congrArg List.length hd
      rw [List.length_append] at this
      omega
    have HD := Lib.hid hd
    have HBel := Lib.hid hbel
    have HOwn := Lib.hid hown
    clear hd hbel hown
    by_cases hq0 : q = 0
    · subst hq0
      obtain ⟨A', c', hv', hr', hc1, hc2⟩ := own_open (by rw [csI_length]; exact HOwn.out)
      rw [csI_length] at hc1 hv'
      subst hv'
      have HR := Lib.hid (show Ri wr A' o from hr')
      have HC := Lib.hid (And.intro hc1 hc2)
      have HD2 : Hid (dgs 10 n = o) := HD.out.trans (by rw [dgs_zero, List.append_nil])
      clear hr' hc1 hc2
      go_wp2_with fail
      go_ret
      rw [HD2.out]
      exact ⟨A', c', rfl, HR.out, HC.out.1, HC.out.2, HBel.out⟩
    · have hqpos : 0 < q := by omega
      obtain ⟨v', w1, hrun, hown1, hb1⟩ := appI HOwn.out (q % 10) HBel.out.size (by omega)
      have hy : ((q % 10 : Nat) : Int) = (q : Int) % 10 := by omega
      rw [hy] at hrun
      have HOwn1 := Lib.hid hown1
      have HB1 := Lib.hid hb1
      have HD2 := Lib.hid (HD.out.trans (by rw [dgs_pos (by omega) hq0] : o ++ dgs 10 q = o ++ (q % 10 :: dgs 10 (q / 10))))
      clear hown1 hb1 hy hq0
      go_wp2_with (at_builtin; refine wpList_app rfl _ _ _ _ rfl _ _ rfl rfl hrun ?_)
      exact ⟨⟨q / 10, o ++ [q % 10], by omega, by go_num, by rw [HD2.out, List.append_assoc]; rfl, HOwn1.out, (HBel.out).trans ((HB1.out).mono (Nat.le_refl _))⟩, by simp [intOf]; omega⟩

set_option maxHeartbeats 400000 in
theorem at_any (A : Option Addr) (l : List Nat) (c i : Nat) (w : World) (h : Ri w A l) :
    Calls Try.prog 51 #[.slice A l.length c, .int .i64 i] w fun e w' => e = .returned (.int .i64 (l.getD i 0)) ∧ w = w' := by
  by_cases hlt : i < l.length
  · obtain ⟨b, off, rfl, hb, hcell⟩ := h.at_ hlt
    have e : l.getD i 0 = l[i] := by rw [List.getD_eq_getElem?_getD, List.getElem?_eq_getElem hlt]; rfl
    rw [e]
    generalize l[i] = x at hcell
    clear h e
    go_enter Try.func51, Try.ntmps51
    go_wp2_with fail
    go_ret
    exact ⟨rfl, rfl⟩
  · have e : l.getD i 0 = 0 := by rw [List.getD_eq_getElem?_getD, List.getElem?_eq_none (by omega)]; rfl
    rw [e]
    clear h e
    go_enter Try.func51, Try.ntmps51
    go_wp2_with fail
    go_ret
    exact ⟨rfl, rfl⟩
end Go.Proofs.Ytenbknmpkdidoaa
