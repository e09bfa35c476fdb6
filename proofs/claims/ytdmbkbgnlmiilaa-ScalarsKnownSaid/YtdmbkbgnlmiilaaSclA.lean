/-
  Layer 1 as layer 5 uses it: contracts of nats.Check; of the reference's Check, Of, Bytes; of the statements' N.Of.
  Conditions: numbers are short, and read as digits.
-/
import Derived.Test.YtdmbkbgnlmiilaaRows
import Derived.Test.YtdmbkbgnlmiilaaMem
import Derived.Test.YtdmbkbgnlmiilaaNum
import Derived.WalkSpells
import Derived.Handy
import Derived.Deep.QuietTactic
import Derived.BigQuiet
import Derived.Lib.BytesEntry
import Derived.Test.YtdmbkbgnlmiilaaStr
import Derived.Laws.AppendOwnNone
namespace Go.Proofs.Ytdmbkbgnlmiilaa
open Go.RowKit

def checkE (l : List Nat) : Int := if 64 < l.length then 3 else if l.head? = some 0 then 11 else 0
set_option maxHeartbeats 400000 in
theorem check_any (A : Option Addr) (l : List Nat) (c : Nat) (w : World) (hn : l.length ≤ maxLen) (h : Rb w A l) :
    Calls Try.prog 42 #[.slice A l.length c] w fun e w' => e = .returned (.int .i64 (checkE l)) ∧ w = w' := by
  unfold maxLen at hn
  unfold checkE
  by_cases h0 : l = []
  · subst h0
    go_enter Try.func42, Try.ntmps42
    go_wp2
    go_ret
    exact ⟨rfl, rfl⟩
  obtain ⟨x, l', rfl⟩ := List.exists_cons_of_ne_nil h0
  obtain ⟨b, off, rfl, hb, hx, hc⟩ := h.at_ (k := 0) (by simp)
  simp only [List.getElem_cons_zero] at hx hc
  simp only [Nat.add_zero] at hc
  clear h h0
  by_cases hx0 : x = 0
  · subst hx0
    go_enter Try.func42, Try.ntmps42
    go_wp2
    all_goals go_ret
    all_goals exact ⟨by simp [*], rfl⟩
  · go_enter Try.func42, Try.ntmps42
    go_wp2
    all_goals go_ret
    all_goals exact ⟨by simp [*], rfl⟩
theorem cutL_stop {l : List Nat} {k : Nat} (hk : k ≤ l.length) (hz : ∀ j, (hj : j < k) → l[j]'(by omega) = 0) (hs : ∀ h : k < l.length, l[k] ≠ 0) : cutL l = l.drop k := by
  induction k generalizing l with
  | zero =>
    cases l with
    | nil => rfl
    | cons x l => have := hs (by simp); simp at this; simp [cutL, this]
  | succ k ih =>
    cases l with
    | nil => simp at hk
    | cons x l =>
      have h0 : x = 0 := hz 0 (by omega)
      subst h0
      have := ih (l := l) (by simpa using hk) (fun j hj => by have := hz (j + 1) (by omega); simpa using this) (fun h => by have := hs (by simpa using h); simpa using this)
      simp [cutL] at this ⊢
      exact this
set_option maxHeartbeats 400000 in
theorem rcheck_any (A : Option Addr) (l : List Nat) (c : Nat) (w : World) (hn : l.length ≤ maxLen) (h : Rb w A l) :
    Calls Try.prog 29 #[.slice A l.length c] w fun e w' => e = .returned (.int .i64 (checkE l)) ∧ w = w' := by
  unfold maxLen at hn
  unfold checkE
  by_cases h0 : l = []
  · subst h0
    go_enter Try.func29, Try.ntmps29
    go_wp2
    go_ret
    exact ⟨rfl, rfl⟩
  obtain ⟨x, l', rfl⟩ := List.exists_cons_of_ne_nil h0
  obtain ⟨b, off, rfl, hb, hx, hc⟩ := h.at_ (k := 0) (by simp)
  simp only [List.getElem_cons_zero] at hx hc
  simp only [Nat.add_zero] at hc
  clear h h0
  by_cases hx0 : x = 0
  · subst hx0
    go_enter Try.func29, Try.ntmps29
    go_wp2
    all_goals go_ret
    all_goals exact ⟨by simp [*], rfl⟩
  · go_enter Try.func29, Try.ntmps29
    go_wp2
    all_goals go_ret
    all_goals exact ⟨by simp [*], rfl⟩
theorem bstr_size (l : List Nat) : (bstr l).size = l.length := by unfold bstr; simp [ByteArray.size]
theorem bstr_app (l m : List Nat) : bstr l ++ bstr m = bstr (l ++ m) := by
  apply ByteArray.ext
  rw [ByteArray.data_append]
  unfold bstr
  rw [List.map_append]
  simp
set_option maxHeartbeats 400000 in
theorem trim_any (A : Option Addr) (l : List Nat) (c : Nat) (w : World) (hlc : l.length ≤ c) (hc : c ≤ maxLen) (h : Ri w A l) :
    Calls Try.prog 54 #[.slice A l.length c] w fun e w' => e = .returned (.slice A (trimL l).length c) ∧ Ri w A (trimL l) ∧ w = w' := by
  unfold maxLen at hc
  go_enter Try.func54, Try.ntmps54
  go_wp2_with fail
  go_loop [0] (fun s => ∃ k : Nat, k ≤ l.length ∧ s = .slice A k c ∧ trimL (l.take k) = trimL l) (fun s => match s with | .slice _ k _ => k | _ => 0)
  case atStart => exact ⟨l.length, Nat.le_refl _, rfl, by rw [List.take_of_length_le (Nat.le_refl _)]⟩
  case round =>
    obtain ⟨k, hk, rfl, ht⟩ := hrel
    have HT := Lib.hid ht
    clear ht
    by_cases h0 : k = 0
    · subst h0
      go_wp2_with fail
      go_ret
      have e : trimL l = [] := by rw [← HT.out]; rfl
      exact ⟨by rw [e]; rfl, by rw [e]; exact Ri.nil, rfl⟩
    · obtain ⟨j, rfl⟩ : ∃ j, k = j + 1 := ⟨k - 1, by omega⟩
      obtain ⟨b, off, rfl, hb, hcell⟩ := h.at_ (k := j) (by omega)
      have e1 : ((j : Int) + 1) - 1 = (j : Int) := by omega
      have H := Lib.hid h
      have hTS : Hid (l.take (j + 1) = l.take j ++ [l[j]]) := List.take_succ_eq_append_getElem (by omega)
      obtain ⟨x, hx⟩ : ∃ x, l[j] = x := ⟨_, rfl⟩
      rw [hx] at hcell hTS
      clear h h0 hx
      by_cases hx0 : x = 0
      · subst hx0
        go_wp2_with fail
        refine ⟨⟨j, by omega, rfl, ?_⟩, ?_⟩
        · rw [← HT.out, hTS.out, trimL_zero]
        · simp
      · have hb0 : ((x : Int) == 0) = false := by simp; omega
        go_wp2_with fail
        go_ret
        have e : trimL l = l.take (j + 1) := by rw [← HT.out, hTS.out, trimL_last _ _ hx0]
        have el : (trimL l).length = j + 1 := by rw [e, List.length_take]; omega
        exact ⟨by rw [el]; rfl, by rw [e]; exact H.out.take_ _, rfl⟩
/-- The walk's step at the builtin append, by what it runs to. -/
theorem wpList_app {P : Program} {w : World} {ops : Array Oper} {rest : List Oper} {o : Oper} {a : Act} {Q : Exit → Act → World → Prop} (hgd : o.guard = none) (s x : Operand) (t1 t2 : TypeId)
    (ho : o.op = .call { callee := .builtin .append, args := #[s, x], argTypes := #[t1, t2] }) (u v : Value) (hs : a.eval s = u) (hx : a.eval x = v) {r : Value} {w1 : World}
    (hrun : (Builtin.append_ #[t1, t2] o.type #[u, v]).run P w = .ok r w1) (h : wpList P ops Q rest (a.put o.dst r) w1) : wpList P ops Q (o :: rest) a w := by
  refine wpList_plain hgd fun K hK => ?_
  have hK' := hK _ _ h
  unfold Oper.wp execOp
  simp only [ho, resolve, invoke, builtin, Sem.run_bind, Sem.run_pure, Result.andThen_ok, List.map_toArray, List.map_cons, List.map_nil, hs, hx, hrun]
  exact hK'
theorem info3 : (Try.prog.info? 3).map (fun i => (i.zero, i.size, i.bytes)) = some (some (.int .i64 0), 1, 8) := by kernel_rfl
theorem info5 : (Try.prog.info? 5).map (fun i => (i.zero, i.size, i.bytes)) = some (some (.int .u8 0), 1, 1) := by kernel_rfl
theorem appI {w : World} {base : Nat} {v : Value} {l : List Nat} (hown : w.ownsRow base 3 1 v l.length (csI l)) (x : Nat) (hb : base ≤ w.heap.size) (hl : l.length ≤ 1000000) :
    ∃ v' w', (Builtin.append_ #[74, 74] 74 #[v, .slice (some ⟨w.heap.size, 0, none⟩) 1 1]).run Try.prog (w.alloc (.cells #[.int .i64 (x : Int)] 3)) = .ok v' w' ∧ w'.ownsRow base 3 1 v' (l ++ [x]).length (csI (l ++ [x])) ∧ Below base w w' := by
  rw [← csI_length] at hown
  obtain ⟨v', w', h1, h2, h3⟩ := app_one (P := Try.prog) (ty := 74) Try.underlying74 info3 rfl hown (.int .i64 (x : Int)) rfl hb (by rw [csI_length]; omega) (by rw [csI_length]; unfold maxLen; omega)
  refine ⟨v', w', h1, ?_, h3⟩
  rw [csI_snoc, csI_length] at h2
  exact h2
set_option maxHeartbeats 800000 in
theorem scale_any (A : Option Addr) (l : List Nat) (c p : Nat) (w : World) (hl : l.length ≤ 100000) (h : Ri w A l) (h10 : Lt 10 l) (hp : p < 256) :
    Calls Try.prog 51 #[.slice A l.length c, .int .i64 256, .int .i64 p] w (GiveI w (dgs 10 (256 * vl 10 l + p))) := by
  go_enter Try.func51, Try.ntmps51
  go_wp2_with fail
  go_loopw [7, 8, 9] (fun v r i wr => ∃ (k q : Nat) (o : List Nat), k ≤ l.length ∧ q ≤ 256 ∧ i = .int .i64 k ∧ r = .int .i64 q ∧ o.length = k ∧ Lt 10 o ∧ vl 10 o + 10 ^ k * q = 256 * vl 10 (l.take k) + p ∧
    wr.ownsRow w.heap.size 3 1 v o.length (csI o) ∧ Below w.heap.size w wr) (fun _ _ i _ => l.length - (intOf i).toNat)
  case atStart => exact ⟨0, p, [], Nat.zero_le _, by omega, rfl, rfl, rfl, Lt.nil, by simp [vl], World.ownsRow_nil _ _ _ _, Below.refl _ _⟩
  case round =>
    obtain ⟨k, q, o, hk, hq, rfl, rfl, ho, ho10, hv, hown, hbel⟩ := hrel
    have HV := Lib.hid hv
    have HO := Lib.hid ho
    have HBel := Lib.hid hbel
    have HOwn := Lib.hid hown
    clear hv ho hbel hown
    by_cases hlt : k < l.length
    · obtain ⟨b, off, rfl, hb, hcell0⟩ := h.at_ hlt
      have hcell : wr.cell? ⟨b, off + k, none⟩ = some (.int .i64 (l[k] : Int)) := (HBel.out.cell hb).trans hcell0
      have hx := h10 _ (List.getElem_mem hlt)
      have HTS : Hid (l.take (k + 1) = l.take k ++ [l[k]]) := List.take_succ_eq_append_getElem hlt
      have H := Lib.hid h
      clear h hcell0
      obtain ⟨x, hxe⟩ : ∃ x, l[k] = x := ⟨_, rfl⟩
      rw [hxe] at hcell HTS hx
      clear hxe
      obtain ⟨v', w1, hrun, hown1, hb1⟩ := appI HOwn.out ((q + x * 256) % 10) HBel.out.size (by rw [HO.out]; omega)
      have hy : (((q + x * 256) % 10 : Nat) : Int) = ((q : Int) + (x : Int) * 256) % 10 := by omega
      rw [hy] at hrun
      have HOwn1 := Lib.hid hown1
      have HB1 := Lib.hid hb1
      clear hown1 hb1 hy
      go_wp2_with (at_builtin; refine wpList_app rfl _ _ _ _ rfl _ _ rfl rfl hrun ?_)
      have hlen : (o ++ [(q + x * 256) % 10]).length = k + 1 := by simp [HO.out]
      refine ⟨⟨k + 1, (q + x * 256) / 10, o ++ [(q + x * 256) % 10], by omega, by omega, by go_num, by go_num, hlen, ho10.app (Lt.cons (Nat.mod_lt _ (by omega)) Lt.nil), ?_, HOwn1.out, (HBel.out).trans ((HB1.out).mono (Nat.le_refl _))⟩, by simp [intOf]; omega⟩
      rw [HTS.out, vl_append, vl_append, HO.out, List.length_take, Nat.min_eq_left (by omega), Nat.pow_succ]
      simp only [vl, Nat.mul_zero, Nat.add_zero]
      have h1 := HV.out
      have h2 := Nat.div_add_mod (q + x * 256) 10
      have h3 := congrArg (10 ^ k * ·) h2
      simp only [Nat.mul_add] at h3
      have h4 : 10 ^ k * (x * 256) = 256 * (10 ^ k * x) := by rw [← Nat.mul_assoc, Nat.mul_comm]
      have h5 : 10 ^ k * 10 * ((q + x * 256) / 10) = 10 ^ k * (10 * ((q + x * 256) / 10)) := Nat.mul_assoc _ _ _
      rw [Nat.mul_add]
      omega
    · have hkl : k = l.length := by omega
      subst hkl
      rw [List.take_of_length_le (Nat.le_refl _)] at HV
      go_wp2_with fail
      go_loopw [7, 8] (fun v r wr => ∃ (q : Nat) (o : List Nat), q ≤ 256 ∧ r = .int .i64 q ∧ o.length + q ≤ l.length + 256 ∧ Lt 10 o ∧ vl 10 o + 10 ^ o.length * q = 256 * vl 10 l + p ∧
        wr.ownsRow w.heap.size 3 1 v o.length (csI o) ∧ Below w.heap.size w wr) (fun _ r _ => (intOf r).toNat)
      case atStart => exact ⟨q, o, hq, rfl, by have := HO.out; omega, ho10, by rw [HO.out]; exact HV.out, HOwn.out, HBel.out⟩
      case round =>
        clear HV HO HBel HOwn ho10 hq
        obtain ⟨q, o, hq, rfl, hlen, ho10, hv, hown, hbel⟩ := hrel
        have HV := Lib.hid hv
        have HBel := Lib.hid hbel
        have HOwn := Lib.hid hown
        have HLen := Lib.hid hlen
        clear hv hbel hown hlen
        by_cases hq0 : q = 0
        · subst hq0
          obtain ⟨A', c', hv', hr', hc1, hc2⟩ := own_open (by rw [csI_length]; exact HOwn.out)
          rw [csI_length] at hc1 hv'
          subst hv'
          have HR := Lib.hid (show Ri wr A' o from hr')
          have C1 := Lib.hid (trim_any A' o c' wr hc1 hc2 HR.out)
          have ht : trimL o = dgs 10 (256 * vl 10 l + p) := trimL_eq_of (by omega) ho10 (by have := HV.out; simpa using this)
          have HT := Lib.hid ht
          have hcm : (trimL o).length ≤ c' := Nat.le_trans (trimL_length o) hc1
          have hcm2 := Lib.hid hcm
          have hc2' := Lib.hid hc2
          clear hr' ht hcm hc2 hc1
          go_wp2_with fail
          refine C1.out.mono ?_
          rintro e w' ⟨rfl, hr2, rfl⟩
          go_wp2_with fail
          go_ret
          rw [← HT.out]
          exact ⟨A', c', rfl, hr2, hcm2.out, hc2'.out, HBel.out⟩
        · have hqpos : 0 < q := by omega
          obtain ⟨v', w1, hrun, hown1, hb1⟩ := appI HOwn.out (q % 10) HBel.out.size (by have := HLen.out; omega)
          have hy : ((q % 10 : Nat) : Int) = (q : Int) % 10 := by omega
          rw [hy] at hrun
          have HOwn1 := Lib.hid hown1
          have HB1 := Lib.hid hb1
          clear hown1 hb1 hy hq0
          go_wp2_with (at_builtin; refine wpList_app rfl _ _ _ _ rfl _ _ rfl rfl hrun ?_)
          refine ⟨⟨q / 10, o ++ [q % 10], by omega, by go_num, ?_, ho10.app (Lt.cons (Nat.mod_lt _ (by omega)) Lt.nil), ?_, HOwn1.out, (HBel.out).trans ((HB1.out).mono (Nat.le_refl _))⟩, by simp [intOf]; omega⟩
          · have := HLen.out; simp; omega
          · rw [vl_append, List.length_append, List.length_singleton, Nat.pow_succ]
            simp only [vl, Nat.mul_zero, Nat.add_zero]
            have h1 := HV.out
            have h3 := congrArg (10 ^ o.length * ·) (Nat.div_add_mod q 10)
            simp only [Nat.mul_add] at h3
            rw [Nat.mul_assoc]
            omega
theorem dgs10_le {v k : Nat} (h : v < 10 ^ k) : (dgs 10 v).length ≤ k := (dgs_length (by omega) v k).2 h
theorem val_lt80 {l : List Nat} (h8 : Lt 256 l) (h : l.length ≤ 80) : val l < 10 ^ 200 := by
  have h1 := val_lt h8
  have h2 : 256 ^ l.length ≤ 256 ^ 80 := Nat.pow_le_pow_right (by omega) h
  have h3 : 256 ^ 80 ≤ 10 ^ 200 := by decide
  omega
set_option maxHeartbeats 800000 in
theorem rof_any (A : Option Addr) (l : List Nat) (c : Nat) (w : World) (hl : l.length ≤ 80) (h : Rb w A l) :
    Calls Try.prog 39 #[.slice A l.length c] w (GiveI w (dgs 10 (val l))) := by
  go_enter Try.func39, Try.ntmps39
  go_wp2_with fail
  go_loopw [3, 4] (fun v i wr => ∃ (k : Nat) (A' : Option Addr) (c' : Nat), k ≤ l.length ∧ i = .int .i64 k ∧ v = .slice A' (dgs 10 (val (l.take k))).length c' ∧ Ri wr A' (dgs 10 (val (l.take k))) ∧ (dgs 10 (val (l.take k))).length ≤ c' ∧ c' ≤ maxLen ∧ Below w.heap.size w wr) (fun _ i _ => l.length - (intOf i).toNat)
  case atStart => exact ⟨0, none, 0, Nat.zero_le _, rfl, rfl, Ri.nil, Nat.le_refl _, by unfold maxLen; omega, Below.refl _ _⟩
  case round =>
    obtain ⟨k, A', c', hk, rfl, rfl, hr, hc1, hc2, hbel⟩ := hrel
    have HR := Lib.hid hr
    have HC1 := Lib.hid hc1
    have HC2 := Lib.hid hc2
    have HBel := Lib.hid hbel
    clear hr hc1 hc2 hbel
    by_cases hlt : k < l.length
    · obtain ⟨b, off, rfl, hb, hx, hcell0⟩ := h.at_ hlt
      have hcell : wr.cell? ⟨b, off + k, none⟩ = some (.int .u8 (l[k] : Int)) := (HBel.out.cell hb).trans hcell0
      have HT : Hid (256 * val (l.take k) + l[k] = val (l.take (k + 1))) := by
        show _ = _
        rw [List.take_succ_eq_append_getElem hlt, val_snoc]
      have hlen := dgs10_le (val_lt80 (h.2.take k) (by rw [List.length_take]; omega))
      have H := Lib.hid h
      clear h hcell0
      obtain ⟨x, hxe⟩ : ∃ x, l[k] = x := ⟨_, rfl⟩
      rw [hxe] at hcell HT hx
      have C1 := scale_any A' (dgs 10 (val (l.take k))) c' x wr (by omega) HR.out (dgs_lt (by omega) _) hx
      rw [vl_dgs (by omega), HT.out] at C1
      have HC := Lib.hid C1
      generalize dgs 10 (val (l.take k)) = P at HC hlen HR HC1
      obtain ⟨Q, hQ⟩ : ∃ Q, dgs 10 (val (l.take (k + 1))) = Q := ⟨_, rfl⟩
      rw [hQ] at HC
      have HQ := Lib.hid hQ
      clear hxe C1 hQ
      go_wp2_with fail
      refine HC.out.mono ?_
      rintro e w' ⟨A'', c'', rfl, h', hc', hc'', hb'⟩
      have HH := Lib.hid h'
      have HBB := Lib.hid hb'
      have HCC := Lib.hid (And.intro hc' hc'')
      clear h' hb' hc' hc''
      go_wp2_with fail
      exact ⟨⟨k + 1, A'', c'', by omega, by go_num, by rw [HQ.out], by rw [HQ.out]; exact HH.out, by rw [HQ.out]; exact HCC.out.1, HCC.out.2, (HBel.out).trans ((HBB.out).mono (HBel.out).size)⟩, by simp [intOf]; omega⟩
    · have hkl : k = l.length := by omega
      subst hkl
      have ht : l.take l.length = l := List.take_of_length_le (Nat.le_refl _)
      rw [ht] at HR HC1
      have HT := Lib.hid ht
      clear ht
      go_wp2_with fail
      go_ret
      exact ⟨A', c', by simp [HT.out], HR.out, HC1.out, HC2.out, HBel.out⟩
theorem made_one (v : Value) (n : Nat) : madeCells #[v] n = (List.replicate n v).toArray := by
  unfold madeCells
  apply Array.ext
  · simp
  · intro i h1 h2
    simp [Nat.mod_one]
theorem make_ints (n : Nat) (hn : n ≤ 1000000) (W : World) : (Instr.makeSlice 74 (.int .i64 (n : Int)) (.int .i64 (n : Int))).run Try.prog W = .ok (.slice (some ⟨W.heap.size, 0, none⟩) n n) (W.alloc (.cells (csI (List.replicate n 0)).toArray 3)) := by
  obtain ⟨i, hi, hz0, hz1, hz2⟩ := info_parts info3
  have h := run_make (P := Try.prog) W 74 3 i (.int .i64 0) Try.underlying74 hi hz0 .i64 .i64 (n : Int) (n : Int) (by omega) (Int.le_refl _) (by rw [hz2]; omega) (by omega)
  rw [h, hz1, Int.toNat_natCast, Nat.mul_one]
  congr 3
  rw [show (Value.int IntKind.i64 0).cells = #[Value.int IntKind.i64 0] from rfl, made_one]
  unfold csI
  rw [List.map_replicate]
  rfl
/-- The value of the digits from a place on. -/
def hi (l : List Nat) (k : Nat) : Nat := vl 10 (l.drop k)
theorem hi_step {l : List Nat} {k : Nat} (hk : k < l.length) : hi l k = l[k] + 10 * hi l (k + 1) := by
  unfold hi
  rw [List.drop_eq_getElem_cons hk]; rfl
theorem hi_zero (l : List Nat) : hi l 0 = vl 10 l := rfl
theorem hi_end {l : List Nat} : hi l l.length = 0 := by unfold hi; rw [List.drop_eq_nil_of_le (Nat.le_refl _)]; rfl
theorem hi_set {l : List Nat} {k : Nat} (hk : k < l.length) (y : Nat) : hi (l.set k y) k = y + 10 * hi l (k + 1) := by
  rw [hi_step (by simpa using hk), List.getElem_set_self]
  unfold hi
  rw [List.drop_set_of_lt (by omega)]

/-- A number's digits and another number are returned; what was there has not turned. -/
def GiveIR (w : World) (l : List Nat) (r : Nat) (e : Ending) (w' : World) : Prop :=
  ∃ A c, e = .returned (.tuple #[.slice A l.length c, .int .i64 r]) ∧ Ri w' A l ∧ l.length ≤ c ∧ c ≤ maxLen ∧ Below w.heap.size w w'

theorem csI_set (l : List Nat) (n y : Nat) : (csI l).set n (int64 y) = csI (l.set n y) := by unfold csI; rw [List.map_set]
set_option maxHeartbeats 800000 in
theorem rdiv_any (A : Option Addr) (l : List Nat) (c y : Nat) (w : World) (hl : l.length ≤ 100000) (h : Ri w A l) (h10 : Lt 10 l) (hy : 0 < y) (hy2 : y < 4294967296) :
    Calls Try.prog 52 #[.slice A l.length c, .int .i64 y] w (GiveIR w (dgs 10 (vl 10 l / y)) (vl 10 l % y)) := by
  have hmk := make_ints l.length (by omega)
  obtain ⟨Z, hZ⟩ : ∃ Z, csI (List.replicate l.length 0) = Z := ⟨_, rfl⟩
  have HZ := Lib.hid hZ
  rw [hZ] at hmk
  clear hZ
  go_enter Try.func52, Try.ntmps52
  go_wp2_with fail
  go_loopw [7, 8] (fun r i wr => ∃ (k q : Nat) (ds : List Nat), k ≤ l.length ∧ q < y ∧ i = .int .i64 ((k : Int) - 1) ∧ r = .int .i64 q ∧ ds.length = l.length ∧ Lt 10 ds ∧ y * hi ds k + q = hi l k ∧
    Bk wr w.heap.size 3 (csI ds) ∧ Below w.heap.size w wr) (fun _ i _ => (intOf i + 1).toNat)
  case atStart =>
    exact ⟨l.length, 0, List.replicate l.length 0, Nat.le_refl _, hy, rfl, rfl, by simp, by intro x hx; simp at hx; omega,
      by rw [hi_end]; unfold hi; rw [List.drop_eq_nil_of_le (by simp)]; rfl, by rw [HZ.out]; exact Bk.new _ _ _, (Below.refl _ _).alloc (Nat.le_refl _) _⟩
  case round =>
    clear hmk
    obtain ⟨k, q, ds, hk, hq, rfl, rfl, hds, hd10, hv, hB, hbel⟩ := hrel
    have HV := Lib.hid hv
    have HD := Lib.hid hds
    have HB := Lib.hid hB
    have HBel := Lib.hid hbel
    clear hv hds hB hbel
    by_cases hk0 : k = 0
    · subst hk0
      have hr : Ri wr (some ⟨w.heap.size, 0, none⟩) ds := by have := HB.out.rd 0; simpa [Ri] using this
      have C2 := trim_any (some ⟨w.heap.size, 0, none⟩) ds l.length wr (by rw [HD.out]; exact Nat.le_refl _) (by unfold maxLen; omega) hr
      rw [HD.out] at C2
      have hv := HV.out
      rw [hi_zero, hi_zero] at hv
      have e1 : vl 10 l / y = vl 10 ds := by rw [← hv, Nat.add_comm, Nat.add_mul_div_left _ _ hy, Nat.div_eq_of_lt hq, Nat.zero_add]
      have e2 : vl 10 l % y = q := by rw [← hv, Nat.add_comm, Nat.add_mul_mod_self_left, Nat.mod_eq_of_lt hq]
      have et : trimL ds = dgs 10 (vl 10 l / y) := by rw [e1]; exact trimL_eq_of (by omega) hd10 rfl
      have hcm : (trimL ds).length ≤ l.length := by rw [← HD.out]; exact trimL_length ds
      have HC := Lib.hid C2
      have HE2 := Lib.hid e2
      have HET := Lib.hid et
      have HCM := Lib.hid hcm
      clear hr C2 hv e1 e2 et hcm
      go_wp2_with fail
      refine HC.out.mono ?_
      rintro e w' ⟨rfl, h', rfl⟩
      go_wp2_with fail
      go_ret2
      unfold GiveIR
      rw [HE2.out, ← HET.out]
      exact ⟨_, _, rfl, h', HCM.out, by unfold maxLen; omega, HBel.out⟩
    · obtain ⟨j, rfl⟩ : ∃ j, k = j + 1 := ⟨k - 1, by omega⟩
      have hjl : j < l.length := by omega
      obtain ⟨b, off, rfl, hb, hcell0⟩ := h.at_ hjl
      have hcell : wr.cell? ⟨b, off + j, none⟩ = some (.int .i64 (l[j] : Int)) := (HBel.out.cell hb).trans hcell0
      have hx := h10 _ (List.getElem_mem hjl)
      have hjd : j < ds.length := by rw [HD.out]; exact hjl
      have hc2 : wr.cell? ⟨w.heap.size, j, none⟩ = some (.int .i64 ((ds[j] : Nat) : Int)) := by rw [HB.out.cell, csI_get hjd]
      have hfree : wr.frozen? ⟨w.heap.size, j, none⟩ = false := HB.out.free _
      have HS := Lib.hid (hi_step hjl)
      have e1 : (((j + 1 : Nat) : Int) - 1) = (j : Int) := by omega
      rw [e1]
      have H := Lib.hid h
      clear h hcell0
      obtain ⟨x, hxe⟩ : ∃ x, l[j] = x := ⟨_, rfl⟩
      rw [hxe] at hcell hx HS
      generalize ds[j] = old at hc2
      clear hxe e1 hk0
      have hdiv : (10 * (q : Int) + x) / y < 10 := by
        apply Int.ediv_lt_of_lt_mul (by omega)
        have : (q + 1) * 10 ≤ y * 10 := Nat.mul_le_mul_right _ hq
        omega
      have hdiv0 : 0 ≤ (10 * (q : Int) + x) / y := Int.ediv_nonneg (by omega) (by omega)
      have hmod : (10 * (q : Int) + x) % y < y := Int.emod_lt_of_pos _ (by omega)
      have hmod0 : 0 ≤ (10 * (q : Int) + x) % y := Int.emod_nonneg _ (by omega)
      go_wp2_with fail
      refine ⟨⟨j, (10 * q + x) % y, ds.set j ((10 * q + x) / y), by omega, Nat.mod_lt _ hy, rfl, by go_num, by rw [List.length_set, HD.out], ?_, ?_, ?_, (HBel.out).setCell (Nat.le_refl _) _⟩, by simp [intOf]⟩
      · exact Lt.set hd10 (by
          apply Nat.div_lt_of_lt_mul
          have : (q + 1) * 10 ≤ y * 10 := Nat.mul_le_mul_right _ hq
          omega)
      · rw [hi_set hjd, HS.out, ← HV.out, Nat.mul_add, Nat.mul_add]
        have h2 := Nat.div_add_mod (10 * q + x) y
        have h3 : y * (10 * hi ds (j + 1)) = 10 * (y * hi ds (j + 1)) := Nat.mul_left_comm _ _ _
        omega
      · have hs := HB.out.store j (int64 ((10 * q + x) / y))
        rw [csI_set] at hs
        have e : (Value.int .i64 ((10 * (q : Int) + x) / y)) = int64 ((10 * q + x) / y) := by unfold int64; congr 1
        rw [e]
        exact hs

/-! Bytes. -/
/-- 'append(v, s...)' to what the call has built, whatever s is. -/
theorem app_src {P : Program} {t ty e : TypeId} {z : Value} {bytes : Nat} (ht : P.underlying t = some (.slice e)) (hinfo : (P.info? e).map (fun i => (i.zero, i.size, i.bytes)) = some (some z, 1, bytes)) (hz : z.cells.size = 1)
    {w : World} {base : Nat} {v : Value} {xs : List Value} (hown : w.ownsRow base e 1 v xs.length xs) {A : Option Addr} {ys : List Value} {c : Nat} (hy : Rd w A ys) (h1 : ∀ u ∈ ys, u.oneCell' = true) (hb : base ≤ w.heap.size)
    (hl : (xs.length + ys.length) * bytes ≤ 140737488355328) (hm : xs.length + ys.length ≤ maxLen) :
    ∃ v' w', (Builtin.append_ #[t, t] ty #[v, .slice A ys.length c]).run P w = .ok v' w' ∧ w'.ownsRow base e 1 v' (xs ++ ys).length (xs ++ ys) ∧ Below base w w' := by
  obtain ⟨i, hi, hz0, hz1, hz2⟩ := info_parts hinfo
  cases A with
  | some a =>
    obtain ⟨v', w', hrun, h2, h3, _⟩ := run_append_own (P := P) w base t ty e i z 1 bytes ht hi hz0 hz1 hz2 hz (by omega) v xs.length xs hown a ys.length c ys (by simp)
      (fun j u hu => by
        obtain ⟨b, off, e, _, hc⟩ := hy (by intro e; subst e; simp at hu)
        injection e with e
        subst e
        rw [addr_add]; exact hc j u hu) h1 hm hl hb
    exact ⟨v', w', hrun, by rw [List.length_append]; exact h2, (Below.refl base w).grown h3 hb (fun k hk => (hown.lt k hk).1)⟩
  | none =>
    have hnil : ys = [] := by
      cases ys with
      | nil => rfl
      | cons u m => obtain ⟨_, _, e, _⟩ := hy (by simp); cases e
    subst hnil
    refine ⟨v, w, ?_, by simpa using hown, Below.refl _ _⟩
    rcases hown.2 with ⟨rfl, h0⟩ | ⟨g, cap, cur, rfl, _, _, hnc, _⟩
    · simp [Builtin.append_, run_underlying ht, sizeOf, typeInfo, hi, Builtin.lenOf, Builtin.firstCells]
    · simp [Builtin.append_, run_underlying ht, sizeOf, typeInfo, hi, Builtin.lenOf, Builtin.firstCells, hnc, storeCells]
/-- A slice literal of one element. -/
theorem own_lit (w : World) (e : TypeId) (x : Value) : (w.alloc (.cells #[x] e)).ownsRow w.heap.size e 1 (.slice (some ⟨w.heap.size, 0, none⟩) 1 1) [x].length [x] :=
  ⟨rfl, .inr ⟨w.heap.size, 1, #[x], rfl, Nat.le_refl _, heap_alloc_new w _, Nat.le_refl _, by unfold maxLen; omega, rfl, rfl⟩⟩
theorem dig_le_dgs (v : Nat) : (dig v).length ≤ (dgs 10 v).length := (dig_length v _).2 (Nat.lt_of_lt_of_le ((dgs_length (b := 10) (by omega) v _).1 (Nat.le_refl _)) (Nat.pow_le_pow_left (by omega) _))
theorem dig_step {u : Nat} (h : u ≠ 0) : dig u = dig (u / 256) ++ [u % 256] := by unfold dig; rw [dgs_pos (by omega) h, List.reverse_cons]
theorem cs8_length (l : List Nat) : (cs8 l).length = l.length := by unfold cs8; rw [List.length_map]

/-- A slice is returned; what was there has not turned. -/
def GiveB (w : World) (l : List Nat) (e : Ending) (w' : World) : Prop :=
  ∃ A c, e = .returned (.slice A l.length c) ∧ Rb w' A l ∧ l.length ≤ c ∧ c ≤ maxLen ∧ Below w.heap.size w w'
set_option maxHeartbeats 800000 in
theorem bytes_any (A : Option Addr) (v c : Nat) (w : World) (hv : (dgs 10 v).length ≤ 1000) (h : Ri w A (dgs 10 v)) :
    Calls Try.prog 40 #[.slice A (dgs 10 v).length c] w (GiveB w (dig v)) := by
  have hdl : (dig v).length ≤ 1000 := Nat.le_trans (dig_le_dgs v) hv
  go_enter Try.func40, Try.ntmps40
  go_wp2_with fail
  go_loopw [0, 3] (fun d o wr => ∃ (u : Nat) (A' : Option Addr) (c' : Nat) (B' : Option Addr) (out : List Nat) (c'' : Nat), (dgs 10 u).length ≤ 1000 ∧ d = .slice A' (dgs 10 u).length c' ∧ Ri wr A' (dgs 10 u) ∧ o = .slice B' out.length c'' ∧ Rb wr B' out ∧ out.length ≤ c'' ∧ c'' ≤ maxLen ∧
    dig v = dig u ++ out ∧ Below w.heap.size w wr) (fun d _ _ => match d with | .slice _ n _ => n | _ => 0)
  case atStart => exact ⟨v, A, c, none, [], 0, hv, rfl, h, rfl, Rb.nil, Nat.le_refl _, by unfold maxLen; omega, by rw [List.append_nil], Below.refl _ _⟩
  case round =>
    obtain ⟨u, A', c', B', out, c'', hu, rfl, hr, rfl, hb, ho1, ho2, hd, hbel⟩ := hrel
    have hol : out.length ≤ 1000 := by
      have := congrArg List.length hd
      rw [List.length_append] at this
      omega
    have HR := Lib.hid hr
    have HU := Lib.hid hu
    have HRb := Lib.hid hb
    have HO := Lib.hid (And.intro ho1 ho2)
    have HD := Lib.hid hd
    have HBel := Lib.hid hbel
    clear hr hb ho1 ho2 hd hbel h hv hu
    by_cases hu0 : u = 0
    · subst hu0
      have HD2 : Hid (dig v = out) := HD.out.trans (by rw [dig_zero, List.nil_append])
      have e0 : (dgs 10 0).length = 0 := rfl
      rw [e0]
      clear e0
      go_wp2_with fail
      go_ret
      rw [HD2.out]
      exact ⟨B', c'', rfl, HRb.out, HO.out.1, HO.out.2, HBel.out⟩
    · have hpos : 0 < (dgs 10 u).length := by rw [dgs_pos (by omega) hu0]; simp
      have hlen := HU.out
      have C1 := rdiv_any A' (dgs 10 u) c' 256 wr (by omega) HR.out (dgs_lt (by omega) _) (by omega) (by omega)
      rw [vl_dgs (by omega)] at C1
      have HC1 := Lib.hid C1
      have hx : u % 256 < 256 := Nat.mod_lt _ (by omega)
      have HDS := Lib.hid (dig_step hu0)
      have HLT : Hid ((dgs 10 (u / 256)).length < (dgs 10 u).length) := by
        show _ < _
        rw [dgs_pos (v := u) (by omega) hu0, List.length_cons]
        have h1 := (dgs_length (b := 10) (by omega) (u / 256) (dgs 10 (u / 10)).length).2 (Nat.lt_of_le_of_lt (show u / 256 ≤ u / 10 from Nat.div_le_div_left (by omega) (by omega)) ((dgs_length (b := 10) (by omega) (u / 10) _).1 (Nat.le_refl _)))
        omega
      have HU2 : Hid ((dgs 10 (u / 256)).length ≤ 1000) := Nat.le_trans (Nat.le_of_lt HLT.out) HU.out
      clear HU
      generalize dgs 10 u = P at hpos HC1 HR hlen HLT
      obtain ⟨x, hxe⟩ : ∃ x, u % 256 = x := ⟨_, rfl⟩
      rw [hxe] at HC1 hx HDS
      clear C1 hxe hu0
      go_wp2_with fail
      refine HC1.out.mono ?_
      rintro e w1 ⟨A1, c1, rfl, h1, hc1, hc1', hb1⟩
      have HH := Lib.hid h1
      have HBB := Lib.hid hb1
      have hb2 : Below w1.heap.size w1 (w1.alloc (.cells #[.int .u8 (x : Int)] 5)) := (Below.refl _ _).alloc (Nat.le_refl _) _
      obtain ⟨v', w2, hrun, hown2, hb3⟩ := app_src (P := Try.prog) (ty := 22) Try.underlying22 info5 rfl (own_lit w1 5 (.int .u8 (x : Int))) (c := c'') (((HRb.out.below hb1).below hb2).1) (by intro u hu; obtain ⟨n, _, rfl⟩ := List.mem_map.1 hu; rfl) (by simp) (by rw [cs8_length, List.length_singleton]; omega) (by rw [cs8_length, List.length_singleton]; unfold maxLen; omega)
      rw [cs8_length] at hrun
      have HOwn2 := Lib.hid hown2
      have HB3 := Lib.hid (hb2.trans hb3)
      clear h1 hc1 hc1' hb1 hb2 hown2 hb3
      go_wp2_with (at_builtin; refine wpList_app rfl _ _ _ _ rfl _ _ rfl rfl hrun ?_)
      obtain ⟨B2, c2, rfl, hr2, hc2, hc3⟩ := own_open HOwn2.out
      have e1 : [Value.int .u8 (x : Int)] ++ cs8 out = cs8 (x :: out) := rfl
      rw [e1] at hr2 hc2
      rw [e1, cs8_length]
      rw [cs8_length] at hc2
      refine ⟨⟨u / 256, A1, c1, B2, x :: out, c2, HU2.out, rfl, HH.out.below HB3.out, rfl, ⟨hr2, All8.cons hx HRb.out.2⟩, hc2, hc3, ?_, ((HBel.out).trans ((HBB.out).mono (HBel.out).size)).trans ((HB3.out).mono (Nat.le_trans (HBel.out).size (HBB.out).size))⟩, ?_⟩
      · rw [HD.out, HDS.out, List.append_assoc]; rfl
      · exact HLT.out
/-- What N.Of gives: the first 64 bytes without leading zeros. -/
def numL (l : List Nat) : List Nat := cutL (l.take 64)
theorem numL_ok {l : List Nat} (h : Lt 256 l) : Nat64 (numL l) := by
  have h1 : Lt 256 (l.take 64) := fun y hy => h y (List.mem_of_mem_take hy)
  unfold numL
  rw [cutL_eq h1]
  refine Nat64.of _ ?_
  have h2 := val_lt h1
  have h3 : 256 ^ (l.take 64).length ≤ 256 ^ 64 := Nat.pow_le_pow_right (by omega) (by simp; omega)
  omega
/-- What the loop of N.Of keeps. -/
def NRel (W : World) (m : List Nat) (n : Nat) (v : Value) : Prop :=
  ∃ (k : Nat) (A' : Option Addr) (c' : Nat), k ≤ n ∧ v = .slice A' (n - k) c' ∧ n - k ≤ c' ∧ c' ≤ 9223372036854775807 ∧ Rb W A' (m.drop k) ∧ ∀ j, j < k → m[j]? = some 0
set_option maxHeartbeats 1600000 in
theorem nof_any (A : Option Addr) (l : List Nat) (c : Nat) (w : World) (hlc : l.length ≤ c) (hc : c ≤ maxLen) (h : Rb w A l) :
    Calls Try.prog 25 #[.agg #[.slice A l.length c]] w (GiveB w (numL l)) := by
  have HC := Lib.hid hc
  unfold maxLen at hc
  have h1 : Below w.heap.size w (w.alloc (Obj.cells #[Value.slice A l.length c] 54)) := (Below.refl _ _).alloc (Nat.le_refl _) _
  by_cases h64 : 64 < l.length
  · obtain ⟨m, hm⟩ : ∃ m, l.take 64 = m := ⟨_, rfl⟩
    have HM : Hid (Rb (w.alloc (Obj.cells #[Value.slice A l.length c] 54)) A (m.drop 0)) := by show Rb _ _ _; rw [← hm]; exact (h.below h1).take_ 64
    have HL : Hid (m.length = 64) := by show _ = _; rw [← hm]; simp; omega
    have HE := Lib.hid hm
    clear hm h h1
    go_enter Try.func25, Try.ntmps25
    go_wp2_with fail
    go_loop [3] (fun s => NRel (w.alloc (Obj.cells #[Value.slice A l.length c] 54)) m 64 s) (fun s => match s with | .slice _ n _ => n | _ => 0)
    case atStart => exact ⟨0, A, c, Nat.zero_le _, rfl, by omega, by omega, HM.out, fun j hj => absurd hj (by omega)⟩
    case round =>
      obtain ⟨k, A', c', hk, rfl, hc1, hc2, hr, hz⟩ := hrel
      have HZ := Lib.hid hz
      have HR := Lib.hid hr
      clear hz hr
      by_cases hlt : k < 64 ∧ m[k]? = some 0
      · obtain ⟨hkl, hk0⟩ := hlt
        have hkm : k < m.length := by rw [HL.out]; exact hkl
        obtain ⟨b, off, hA', hb, hx, hcell⟩ := HR.out.at_ (k := 0) (by rw [List.length_drop, HL.out]; omega)
        subst hA'
        have e0 : (m.drop k)[0]'(by rw [List.length_drop, HL.out]; omega) = 0 := by
          rw [List.getElem_drop]
          rw [List.getElem?_eq_getElem hkm] at hk0
          simpa using Option.some.inj hk0
        rw [e0] at hcell
        simp only [Nat.add_zero] at hcell
        have hcell' : (w.alloc (Obj.cells #[Value.slice A l.length c] 54)).cell? ⟨b, off, none⟩ = some (.int .u8 0) := hcell
        have HK := Lib.hid hk0
        clear hcell e0 hx hk0
        by_cases hcc : c' = 1
        · subst hcc
          have hk1 : 64 - k = 1 := by omega
          rw [hk1]
          go_wp2_with fail
          refine ⟨⟨k + 1, _, _, by omega, by rw [show 64 - (k + 1) = 0 from by omega], by omega, by omega, by rw [List.drop_eq_nil_of_le (by rw [HL.out]; omega)]; exact Rb.nil, ?_⟩, by simp⟩
          intro j hj
          rcases Nat.lt_succ_iff_lt_or_eq.1 hj with hj | rfl
          · exact HZ.out j hj
          · exact HK.out
        · have hcc' : ¬ c' = 1 := hcc
          go_wp2_with fail
          refine ⟨⟨k + 1, some ⟨b, off + 1, none⟩, c' - 1, by omega, by rw [show 64 - (k + 1) = 64 - k - 1 from by omega], by omega, by omega, by have := HR.out.drop_ 1; rwa [List.drop_drop] at this, ?_⟩, by show 64 - k - 1 < 64 - k; omega⟩
          intro j hj
          rcases Nat.lt_succ_iff_lt_or_eq.1 hj with hj | rfl
          · exact HZ.out j hj
          · exact HK.out
      · have hcut : cutL m = m.drop k := cutL_stop (by rw [HL.out]; exact hk) (fun j hj => by
          have := HZ.out j hj
          rw [List.getElem?_eq_getElem (by rw [HL.out]; omega)] at this
          exact Option.some.inj this) (fun hkm => by
          intro e
          exact hlt ⟨by rw [HL.out] at hkm; exact hkm, by rw [List.getElem?_eq_getElem hkm, e]⟩)
        have HCut := Lib.hid hcut
        have hown : ((w.alloc (Obj.cells #[Value.slice A l.length c] 54)).alloc (.cells #[] 5)).ownsRow w.heap.size 5 1 (.slice (some ⟨w.heap.size + 1, 0, none⟩) 0 0) ([] : List Value).length [] := by
          have := World.ownsRow_made (base := w.heap.size) (e := 5) (size := 1) (w.alloc (Obj.cells #[Value.slice A l.length c] 54)) #[] 0 (by simp) (by unfold maxLen; omega) rfl
          simpa using this
        have hb2 : Below (w.alloc (Obj.cells #[Value.slice A l.length c] 54)).heap.size (w.alloc (Obj.cells #[Value.slice A l.length c] 54)) ((w.alloc (Obj.cells #[Value.slice A l.length c] 54)).alloc (.cells #[] 5)) := (Below.refl _ _).alloc (Nat.le_refl _) _
        obtain ⟨v', w2, hrun, hown2, hb3⟩ := app_src (P := Try.prog) (ty := 22) Try.underlying22 info5 rfl hown (c := c') ((HR.out.below hb2).1) (by intro u hu; obtain ⟨n, _, rfl⟩ := List.mem_map.1 hu; rfl) (by simp; omega) (by rw [cs8_length, List.length_drop, HL.out]; simp; omega) (by rw [cs8_length, List.length_drop, HL.out]; unfold maxLen; simp; omega)
        rw [cs8_length, List.length_drop, HL.out] at hrun
        have HOwn2 := Lib.hid hown2
        have HB3 := Lib.hid (show Below w.heap.size w w2 from (((Below.refl _ _).alloc (Nat.le_refl _) _).alloc (by simp) _).trans hb3)
        have HR8 := Lib.hid HR.out.2
        clear hown hb2 hown2 hb3
        by_cases hkl : k < 64
        · have hkm : k < m.length := by rw [HL.out]; exact hkl
          obtain ⟨b, off, hA', hb, hx, hcell⟩ := HR.out.at_ (k := 0) (by rw [List.length_drop, HL.out]; omega)
          subst hA'
          have hx0 : (m.drop k)[0]'(by rw [List.length_drop, HL.out]; omega) ≠ 0 := by
            rw [List.getElem_drop]
            intro e
            exact hlt ⟨hkl, by rw [List.getElem?_eq_getElem hkm]; simpa using e⟩
          generalize (m.drop k)[0]'(by rw [List.length_drop, HL.out]; omega) = x at hx0 hx hcell
          simp only [Nat.add_zero] at hcell
          have hcell' : (w.alloc (Obj.cells #[Value.slice A l.length c] 54)).cell? ⟨b, off, none⟩ = some (.int .u8 (x : Int)) := hcell
          have hb0 : ((x : Int) == 0) = false := by rw [beq_eq_false_iff_ne]; omega
          clear hcell hcut hlt
          go_wp2_with (at_builtin; refine wpList_app rfl _ _ _ _ rfl _ _ rfl rfl hrun ?_)
          go_ret
          have e1 : numL l = cutL m := by unfold numL; rw [HE.out]
          obtain ⟨B2, c2, rfl, hr2, hc2, hc3⟩ := own_open HOwn2.out
          rw [e1, HCut.out]
          unfold GiveB
          rw [List.nil_append, cs8_length] at hc2
          rw [List.nil_append] at hr2
          exact ⟨B2, c2, by rw [List.nil_append, cs8_length]; rfl, ⟨hr2, HR8.out⟩, hc2, hc3, HB3.out⟩
        · have hk64 : k = 64 := by omega
          subst hk64
          clear hcut hlt
          go_wp2_with (at_builtin; refine wpList_app rfl _ _ _ _ rfl _ _ rfl rfl hrun ?_)
          go_ret
          have e1 : numL l = cutL m := by unfold numL; rw [HE.out]
          obtain ⟨B2, c2, rfl, hr2, hc2, hc3⟩ := own_open HOwn2.out
          rw [e1, HCut.out]
          unfold GiveB
          rw [List.nil_append, cs8_length] at hc2
          rw [List.nil_append] at hr2
          exact ⟨B2, c2, by rw [List.nil_append, cs8_length]; rfl, ⟨hr2, HR8.out⟩, hc2, hc3, HB3.out⟩
  · have hl64 : l.length ≤ 64 := by omega
    obtain ⟨m, hm⟩ : ∃ m, l.take 64 = m := ⟨_, rfl⟩
    have HM : Hid (Rb (w.alloc (Obj.cells #[Value.slice A l.length c] 54)) A (m.drop 0)) := by show Rb _ _ _; rw [← hm]; exact (h.below h1).take_ 64
    have HL : Hid (m.length = l.length) := by show _ = _; rw [← hm]; simp; omega
    have HE := Lib.hid hm
    clear hm h h1
    go_enter Try.func25, Try.ntmps25
    go_wp2_with fail
    go_loop [3] (fun s => NRel (w.alloc (Obj.cells #[Value.slice A l.length c] 54)) m l.length s) (fun s => match s with | .slice _ n _ => n | _ => 0)
    case atStart => exact ⟨0, A, c, Nat.zero_le _, rfl, by omega, by omega, HM.out, fun j hj => absurd hj (by omega)⟩
    case round =>
      obtain ⟨k, A', c', hk, rfl, hc1, hc2, hr, hz⟩ := hrel
      have HZ := Lib.hid hz
      have HR := Lib.hid hr
      clear hz hr
      by_cases hlt : k < l.length ∧ m[k]? = some 0
      · obtain ⟨hkl, hk0⟩ := hlt
        have hkm : k < m.length := by rw [HL.out]; exact hkl
        obtain ⟨b, off, hA', hb, hx, hcell⟩ := HR.out.at_ (k := 0) (by rw [List.length_drop, HL.out]; omega)
        subst hA'
        have e0 : (m.drop k)[0]'(by rw [List.length_drop, HL.out]; omega) = 0 := by
          rw [List.getElem_drop]
          rw [List.getElem?_eq_getElem hkm] at hk0
          simpa using Option.some.inj hk0
        rw [e0] at hcell
        simp only [Nat.add_zero] at hcell
        have hcell' : (w.alloc (Obj.cells #[Value.slice A l.length c] 54)).cell? ⟨b, off, none⟩ = some (.int .u8 0) := hcell
        have HK := Lib.hid hk0
        clear hcell e0 hx hk0
        by_cases hcc : c' = 1
        · subst hcc
          have hk1 : l.length - k = 1 := by omega
          rw [hk1]
          go_wp2_with fail
          refine ⟨⟨k + 1, _, _, by omega, by rw [show l.length - (k + 1) = 0 from by omega], by omega, by omega, by rw [List.drop_eq_nil_of_le (by rw [HL.out]; omega)]; exact Rb.nil, ?_⟩, by simp⟩
          intro j hj
          rcases Nat.lt_succ_iff_lt_or_eq.1 hj with hj | rfl
          · exact HZ.out j hj
          · exact HK.out
        · have hcc' : ¬ c' = 1 := hcc
          go_wp2_with fail
          refine ⟨⟨k + 1, some ⟨b, off + 1, none⟩, c' - 1, by omega, by rw [show l.length - (k + 1) = l.length - k - 1 from by omega], by omega, by omega, by have := HR.out.drop_ 1; rwa [List.drop_drop] at this, ?_⟩, by show l.length - k - 1 < l.length - k; omega⟩
          intro j hj
          rcases Nat.lt_succ_iff_lt_or_eq.1 hj with hj | rfl
          · exact HZ.out j hj
          · exact HK.out
      · have hcut : cutL m = m.drop k := cutL_stop (by rw [HL.out]; exact hk) (fun j hj => by
          have := HZ.out j hj
          rw [List.getElem?_eq_getElem (by rw [HL.out]; omega)] at this
          exact Option.some.inj this) (fun hkm => by
          intro e
          exact hlt ⟨by rw [HL.out] at hkm; exact hkm, by rw [List.getElem?_eq_getElem hkm, e]⟩)
        have HCut := Lib.hid hcut
        have hown : ((w.alloc (Obj.cells #[Value.slice A l.length c] 54)).alloc (.cells #[] 5)).ownsRow w.heap.size 5 1 (.slice (some ⟨w.heap.size + 1, 0, none⟩) 0 0) ([] : List Value).length [] := by
          have := World.ownsRow_made (base := w.heap.size) (e := 5) (size := 1) (w.alloc (Obj.cells #[Value.slice A l.length c] 54)) #[] 0 (by simp) (by unfold maxLen; omega) rfl
          simpa using this
        have hb2 : Below (w.alloc (Obj.cells #[Value.slice A l.length c] 54)).heap.size (w.alloc (Obj.cells #[Value.slice A l.length c] 54)) ((w.alloc (Obj.cells #[Value.slice A l.length c] 54)).alloc (.cells #[] 5)) := (Below.refl _ _).alloc (Nat.le_refl _) _
        obtain ⟨v', w2, hrun, hown2, hb3⟩ := app_src (P := Try.prog) (ty := 22) Try.underlying22 info5 rfl hown (c := c') ((HR.out.below hb2).1) (by intro u hu; obtain ⟨n, _, rfl⟩ := List.mem_map.1 hu; rfl) (by simp; omega) (by rw [cs8_length, List.length_drop, HL.out]; simp; omega) (by rw [cs8_length, List.length_drop, HL.out]; unfold maxLen; simp; omega)
        rw [cs8_length, List.length_drop, HL.out] at hrun
        have HOwn2 := Lib.hid hown2
        have HB3 := Lib.hid (show Below w.heap.size w w2 from (((Below.refl _ _).alloc (Nat.le_refl _) _).alloc (by simp) _).trans hb3)
        have HR8 := Lib.hid HR.out.2
        clear hown hb2 hown2 hb3
        by_cases hkl : k < l.length
        · have hkm : k < m.length := by rw [HL.out]; exact hkl
          obtain ⟨b, off, hA', hb, hx, hcell⟩ := HR.out.at_ (k := 0) (by rw [List.length_drop, HL.out]; omega)
          subst hA'
          have hx0 : (m.drop k)[0]'(by rw [List.length_drop, HL.out]; omega) ≠ 0 := by
            rw [List.getElem_drop]
            intro e
            exact hlt ⟨hkl, by rw [List.getElem?_eq_getElem hkm]; simpa using e⟩
          generalize (m.drop k)[0]'(by rw [List.length_drop, HL.out]; omega) = x at hx0 hx hcell
          simp only [Nat.add_zero] at hcell
          have hcell' : (w.alloc (Obj.cells #[Value.slice A l.length c] 54)).cell? ⟨b, off, none⟩ = some (.int .u8 (x : Int)) := hcell
          have hb0 : ((x : Int) == 0) = false := by rw [beq_eq_false_iff_ne]; omega
          clear hcell hcut hlt
          go_wp2_with (at_builtin; refine wpList_app rfl _ _ _ _ rfl _ _ rfl rfl hrun ?_)
          go_ret
          have e1 : numL l = cutL m := by unfold numL; rw [HE.out]
          obtain ⟨B2, c2, rfl, hr2, hc2, hc3⟩ := own_open HOwn2.out
          rw [e1, HCut.out]
          unfold GiveB
          rw [List.nil_append, cs8_length] at hc2
          rw [List.nil_append] at hr2
          exact ⟨B2, c2, by rw [List.nil_append, cs8_length]; rfl, ⟨hr2, HR8.out⟩, hc2, hc3, HB3.out⟩
        · have hk64 : k = l.length := by omega
          subst hk64
          clear hcut hlt
          go_wp2_with (at_builtin; refine wpList_app rfl _ _ _ _ rfl _ _ rfl rfl hrun ?_)
          go_ret
          have e1 : numL l = cutL m := by unfold numL; rw [HE.out]
          obtain ⟨B2, c2, rfl, hr2, hc2, hc3⟩ := own_open HOwn2.out
          rw [e1, HCut.out]
          unfold GiveB
          rw [List.nil_append, cs8_length] at hc2
          rw [List.nil_append] at hr2
          exact ⟨B2, c2, by rw [List.nil_append, cs8_length]; rfl, ⟨hr2, HR8.out⟩, hc2, hc3, HB3.out⟩
theorem run_str8 {w : World} {A : Option Addr} {l : List Nat} (h : Rb w A l) (c : Nat) : (convert 22 9 (.slice A l.length c)).run Try.prog w = .ok (.string (bstr l)) w :=
  run_str Try.underlying22 Try.underlying5 Try.underlying9 h c
end Go.Proofs.Ytdmbkbgnlmiilaa
