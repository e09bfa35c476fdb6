/-
  Layer 4: equality of trees; the program's equal.
  Conditions: none beyond that values read as elements.
-/
import Derived.Test.YtgdjgahmnnjeeaaElO
import Derived.Test.YtgdjgahmnnjeeaaShelf
import Derived.Test.YtgdjgahmnnjeeaaStr2
namespace Go.Proofs.Ytgdjgahmnnjeeaa
open Go.RowKit

mutual
/-- Equality of trees. -/
def eqE : El → El → Bool
  | .mk c n k bs ss, .mk c' n' k' bs' ss' => decide (c = c' ∧ n = n' ∧ k = k') && (decide (bs = bs') && eqS ss ss')
def eqS : List El → List El → Bool
  | [], [] => true
  | e :: ss, e' :: ss' => eqE e e' && eqS ss ss'
  | [], _ :: _ => false
  | _ :: _, [] => false
end
mutual
theorem eqE_iff : ∀ (a b : El), eqE a b = true ↔ a = b
  | .mk c n k bs ss, .mk c' n' k' bs' ss' => by
    rw [eqE, Bool.and_eq_true, Bool.and_eq_true, decide_eq_true_iff, decide_eq_true_iff, eqS_iff ss ss']
    constructor
    · rintro ⟨⟨rfl, rfl, rfl⟩, rfl, rfl⟩; rfl
    · intro h; injection h with h1 h2 h3 h4 h5; exact ⟨⟨h1, h2, h3⟩, h4, h5⟩
theorem eqS_iff : ∀ (a b : List El), eqS a b = true ↔ a = b
  | [], [] => by simp [eqS]
  | e :: ss, e' :: ss' => by
    rw [eqS, Bool.and_eq_true, eqE_iff e e', eqS_iff ss ss']
    constructor
    · rintro ⟨rfl, rfl⟩; rfl
    · intro h; injection h with h1 h2; exact ⟨h1, h2⟩
  | [], _ :: _ => by simp [eqS]
  | _ :: _, [] => by simp [eqS]
end
theorem eqS_len {a b : List El} (h : a.length ≠ b.length) : eqS a b = false := by
  cases hx : eqS a b with
  | false => rfl
  | true => exact absurd (congrArg List.length ((eqS_iff a b).1 hx)) h
theorem eqS_drop {a b : List El} (hl : a.length = b.length) {i : Nat} (hi : i < a.length) : eqS (a.drop i) (b.drop i) = (eqE a[i] (b[i]'(by omega)) && eqS (a.drop (i + 1)) (b.drop (i + 1))) := by
  rw [List.drop_eq_getElem_cons hi, List.drop_eq_getElem_cons (l := b) (by omega), eqS]
set_option maxHeartbeats 1000000 in
set_option maxRecDepth 100000 in
/-- slices.EqualFunc with equal, where equal is as it should be on the elements of the first slice. -/
theorem eqf_any {x y : Bool} {S T : Nat → Prop} (ss ss' : List El) (A A' : Option Addr) (ca ca' : Nat) (w : World) (hlen : ss.length ≤ 9223372036854775807) (h : RdS x S w A ss) (h' : RdS y T w A' ss')
    (ih : ∀ e, e ∈ ss → ∀ (e' : El) (v v' : Value) (w : World), RdE x S w e v → RdE y T w e' v' → Calls Try.prog 42 #[v, v'] w fun r w' => r = .returned (.bool (eqE e e')) ∧ Below w.heap.size w w') :
    Calls Try.prog 65 #[.slice A ss.length ca, .slice A' ss'.length ca', .func (.func 42) #[] #[]] w fun r w' => r = .returned (.bool (eqS ss ss')) ∧ Below w.heap.size w w' := by
  by_cases hne : ss.length = ss'.length
  rotate_left
  · have h1 : ((ss.length : Int) != (ss'.length : Int)) = true := by simp; omega
    have HQ := Lib.hid (eqS_len hne)
    clear h h' ih
    go_enter Try.func65, Try.ntmps65
    go_wp2_with fail
    go_ret
    exact ⟨by rw [HQ.out]; rfl, Below.refl _ _⟩
  have h1 : ((ss.length : Int) != (ss'.length : Int)) = false := by simp; omega
  have HL := Lib.hid hne
  have HL2 := Lib.hid hlen
  clear hne
  go_enter Try.func65, Try.ntmps65
  go_wp2_with fail
  go_loopw [7, 8, 9, 17] (fun _ _ _ i wr => ∃ (p : Nat), p ≤ ss.length ∧ i = .int .i64 (p : Int) ∧ eqS (ss.drop p) (ss'.drop p) = eqS ss ss' ∧ Below w.heap.size w wr) (fun _ _ _ i _ => ss.length - (intOf i).toNat)
  case atStart =>
    exact ⟨0, Nat.zero_le _, rfl, rfl, Below.refl _ _⟩
  case round =>
    obtain ⟨p, hp, rfl, hM, hbel⟩ := hrel
    have H11 := Lib.hid (h.stay hbel)
    have H11' := Lib.hid (h'.stay hbel)
    have HIH := Lib.hid ih
    have HM := Lib.hid hM
    have HB := Lib.hid hbel
    clear ih hM hbel h h'
    by_cases hlt : p < ss.length
    · have hlt' : p < ss'.length := by have := HL.out; omega
      obtain ⟨b, off, c, n, k, A1, l1, q1, A2, l2, q2, rfl, hb, hS, f0, f1, f2, f3, f4, hE⟩ := H11.out.fives hlt
      obtain ⟨b', off', c', n', k', A1', l1', q1', A2', l2', q2', rfl, hb', hS', f0', f1', f2', f3', f4', hE'⟩ := H11'.out.fives hlt'
      have hba2 := bel2 wr (.cells #[.int .u8 (c : Int), .bool k, .int .u32 (n : Int), .slice A1 l1 q1, .slice A2 l2 q2] 29) (.cells #[.int .u8 (c' : Int), .bool k', .int .u32 (n' : Int), .slice A1' l1' q1', .slice A2' l2' q2'] 29)
      have hc := HIH.out _ (List.getElem_mem hlt) _ _ _ _ (hE.stay hba2) (hE'.stay hba2)
      have HC := Lib.hid hc
      have HB2 := Lib.hid (HB.out.trans (hba2.mono HB.out.size))
      have HN := Lib.hid (HM.out.symm.trans (eqS_drop HL.out hlt))
      obtain ⟨z, hz⟩ : ∃ z, eqE ss[p] ss'[p] = z := ⟨_, rfl⟩
      have HZ := Lib.hid hz
      clear hE hE' hS hS' hba2 hc hz
      cases z with
      | true =>
        go_wp2_with fail
        refine HC.out.mono ?_
        rintro e' w1 ⟨rfl, hb1⟩
        have HB1 := Lib.hid (HB2.out.trans (hb1.mono HB2.out.size))
        clear hb1
        rw [HZ.out]
        go_wp2_with fail
        exact ⟨⟨p + 1, by omega, by go_num, by rw [HN.out, HZ.out, Bool.true_and], HB1.out⟩, by simp [intOf]; omega⟩
      | false =>
        go_wp2_with fail
        refine HC.out.mono ?_
        rintro e' w1 ⟨rfl, hb1⟩
        have HB1 := Lib.hid (HB2.out.trans (hb1.mono HB2.out.size))
        clear hb1
        rw [HZ.out]
        go_wp2_with fail
        go_ret
        exact ⟨by rw [HN.out, HZ.out]; rfl, HB1.out⟩
    · have HQ := Lib.hid (show eqS ss ss' = true from by rw [← HM.out, List.drop_eq_nil_of_le (by omega), List.drop_eq_nil_of_le (by have := HL.out; omega)]; rfl)
      go_wp2_with fail
      go_ret
      exact ⟨by rw [HQ.out]; rfl, HB.out⟩

set_option maxHeartbeats 2000000 in
set_option maxRecDepth 100000 in
theorem equal_any {x y : Bool} {S T : Nat → Prop} (a : El) : ∀ (b : El) (v v' : Value) (w : World), RdE x S w a v → RdE y T w b v' →
    Calls Try.prog 42 #[v, v'] w fun r w' => r = .returned (.bool (eqE a b)) ∧ Below w.heap.size w w' := by
  refine El.ind (P := fun a => ∀ (b : El) (v v' : Value) (w : World), RdE x S w a v → RdE y T w b v' →
    Calls Try.prog 42 #[v, v'] w fun r w' => r = .returned (.bool (eqE a b)) ∧ Below w.heap.size w w') ?_ a
  clear a
  intro c n k bs ss ih b v v' w h h'
  obtain ⟨c', n', k', bs', ss'⟩ := b
  obtain ⟨h1, h2, h3, A, ca, B, cb, rfl, h5, h6, h7, h8, h9, h10, h11⟩ := h
  obtain ⟨g1, g2, g3, A', ca', B', cb', rfl, g5, g6, g7, g8, g9, g10, g11⟩ := h'
  have hlen : ss.length ≤ 9223372036854775807 := by unfold maxLen at h9; omega
  have hba := bel2 w (.cells #[.int .u8 (c : Int), .bool k, .int .u32 (n : Int), .slice A bs.length ca, .slice B ss.length cb] 29) (.cells #[.int .u8 (c' : Int), .bool k', .int .u32 (n' : Int), .slice A' bs'.length ca', .slice B' ss'.length cb'] 29)
  have s0 := run_str8 (h := ⟨h5.rd.below hba, h3⟩) ca
  have s1 := run_str8 (h := ⟨g5.rd.below hba, g3⟩) ca'
  have HBE := Lib.hid (Try.bytes_Equal_strs _ _ _ _ _ s0 s1)
  have hd := bstr_dec h3 g3
  have HF := Lib.hid (eqf_any ss ss' B B' cb cb' _ hlen (h11.stay hba) (g11.stay hba) ih)
  have HBA := Lib.hid hba
  have HD := Lib.hid hd
  obtain ⟨z, hz⟩ : ∃ z, eqE (.mk c n k bs ss) (.mk c' n' k' bs' ss') = z := ⟨_, rfl⟩
  rw [hz]
  rw [eqE] at hz
  obtain ⟨u, hu⟩ : ∃ u, eqS ss ss' = u := ⟨_, rfl⟩
  rw [hu] at hz
  have HU := Lib.hid hu
  clear s0 s1 hd hba h1 h2 h3 h5 h6 h7 h8 h9 h10 h11 g1 g2 g3 g5 g6 g7 g8 g9 g10 g11 ih hlen hu
  by_cases ht : c = c' ∧ n = n' ∧ k = k'
  rotate_left
  · rw [decide_eq_false ht, Bool.false_and] at hz
    subst hz
    clear HBE HF HD HU HBA
    by_cases hc : c = c'
    rotate_left
    · have hci : ¬ ((c : Int) = (c' : Int)) := by omega
      clear ht hc
      go_enter Try.func42, Try.ntmps42
      go_wp2_with fail
      go_ret
      exact ⟨rfl, bel2 _ _ _⟩
    subst hc
    by_cases hn : n = n'
    rotate_left
    · have hni : ¬ ((n : Int) = (n' : Int)) := by omega
      clear ht hn
      cases k <;> cases k'
      all_goals go_enter Try.func42, Try.ntmps42
      all_goals go_wp2_with fail
      all_goals go_ret
      all_goals exact ⟨rfl, bel2 _ _ _⟩
    subst hn
    cases k <;> cases k'
    · exact absurd ⟨rfl, rfl, rfl⟩ ht
    · go_enter Try.func42, Try.ntmps42
      go_wp2_with fail
      go_ret
      exact ⟨rfl, bel2 _ _ _⟩
    · go_enter Try.func42, Try.ntmps42
      go_wp2_with fail
      go_ret
      exact ⟨rfl, bel2 _ _ _⟩
    · exact absurd ⟨rfl, rfl, rfl⟩ ht
  obtain ⟨rfl, rfl, rfl⟩ := ht
  rw [decide_eq_true ⟨rfl, rfl, rfl⟩, Bool.true_and] at hz
  by_cases hb : bs = bs'
  rotate_left
  · rw [decide_eq_false hb, Bool.false_and] at hz
    subst hz
    have HD2 := Lib.hid (HD.out.trans (decide_eq_false hb))
    go_enter Try.func42, Try.ntmps42
    go_wp2_with fail
    refine HBE.out.mono ?_
    rintro r w1 ⟨rfl, rfl⟩
    rw [HD2.out]
    go_wp2_with fail
    go_ret
    exact ⟨rfl, bel2 _ _ _⟩
  rw [decide_eq_true hb, Bool.true_and] at hz
  subst hz
  have HD2 := Lib.hid (HD.out.trans (decide_eq_true hb))
  clear hb
  go_enter Try.func42, Try.ntmps42
  go_wp2_with fail
  refine HBE.out.mono ?_
  rintro r w1 ⟨rfl, rfl⟩
  rw [HD2.out]
  go_wp2_with fail
  refine HF.out.mono ?_
  rintro r w1 ⟨rfl, hb1⟩
  rw [HU.out]
  have HB := Lib.hid (HBA.out.trans (hb1.mono HBA.out.size))
  clear hb1
  go_wp2_with fail
  go_ret
  exact ⟨rfl, HB.out⟩

set_option maxHeartbeats 1000000 in
set_option maxRecDepth 100000 in
theorem esame_any {x y : Bool} {S T : Nat → Prop} (a b : El) (v v' : Value) (w : World) (hd : depE a ≤ 10000) (h : RdE x S w a v) (h' : RdE y T w b v') :
    Calls Try.prog 16 #[v, v'] w fun r w' => r = .returned (.bool (decide ((chkE a 1 0).1 = 0) && eqE a b)) ∧ Below w.heap.size w w' := by
  obtain ⟨c, n, k, bs, ss⟩ := a
  obtain ⟨c', n', k', bs', ss'⟩ := b
  have hE := h
  have hE' := h'
  obtain ⟨h1, h2, h3, A, ca, B, cb, rfl, h5, h6, h7, h8, h9, h10, h11⟩ := h
  obtain ⟨g1, g2, g3, A', ca', B', cb', rfl, g5, g6, g7, g8, g9, g10, g11⟩ := h'
  clear h1 h2 h3 h5 h6 h7 h8 h9 h10 h11 g1 g2 g3 g5 g6 g7 g8 g9 g10 g11
  have hba := bel2 w (.cells #[.int .u8 (c : Int), .bool k, .int .u32 (n : Int), .slice A bs.length ca, .slice B ss.length cb] 29) (.cells #[.int .u8 (c' : Int), .bool k', .int .u32 (n' : Int), .slice A' bs'.length ca', .slice B' ss'.length cb'] 29)
  have HC := Lib.hid (echeck_any _ _ _ hd (hE.stay hba))
  have HE := Lib.hid (hE.stay hba)
  have HE' := Lib.hid (hE'.stay hba)
  have HBA := Lib.hid hba
  have HK := Lib.hid ((Bk.new w 29 [.int .u8 (c : Int), .bool k, .int .u32 (n : Int), .slice A bs.length ca, .slice B ss.length cb]).alloc (.cells #[.int .u8 (c' : Int), .bool k', .int .u32 (n' : Int), .slice A' bs'.length ca', .slice B' ss'.length cb'] 29))
  have HK' := Lib.hid (Bk.new (w.alloc (.cells #[.int .u8 (c : Int), .bool k, .int .u32 (n : Int), .slice A bs.length ca, .slice B ss.length cb] 29)) 29 [.int .u8 (c' : Int), .bool k', .int .u32 (n' : Int), .slice A' bs'.length ca', .slice B' ss'.length cb'])
  obtain ⟨f, hf⟩ : ∃ f, (chkE (.mk c n k bs ss) 1 0).1 = f := ⟨_, rfl⟩
  have HM := Lib.hid ((meaR_err (.mk c n k bs ss)).trans hf)
  rw [hf]
  clear hE hE' hba hf hd
  by_cases hf0 : f = 0
  rotate_left
  · have hfb : ((f : Int) == 0) = false := by simp; omega
    go_enter Try.func16, Try.ntmps16
    go_wp2_with fail
    refine HC.out.mono ?_
    rintro r w1 ⟨rfl, hb1⟩
    have HB := Lib.hid (HBA.out.trans (hb1.mono HBA.out.size))
    clear hb1
    rw [HM.out]
    go_wp2_with fail
    go_ret
    exact ⟨by rw [decide_eq_false hf0]; rfl, HB.out⟩
  subst hf0
  go_enter Try.func16, Try.ntmps16
  go_wp2_with fail
  refine HC.out.mono ?_
  rintro r w1 ⟨rfl, hb1⟩
  have hk' := HK'.out
  rw [World.size_alloc] at hk'
  obtain ⟨e0, e1, e2, e3, e4, hsz⟩ := (HK.out.below hb1 HK.out.lt).five
  obtain ⟨f0, f1, f2, f3, f4, hsz'⟩ := (hk'.below hb1 hk'.lt).five
  have HB := Lib.hid (HBA.out.trans (hb1.mono HBA.out.size))
  have HQ := Lib.hid (equal_any _ _ _ _ _ (HE.out.stay hb1) (HE'.out.stay hb1))
  clear hb1 hk' HC HK HK'
  rw [HM.out]
  go_wp2_with fail
  refine HQ.out.mono ?_
  rintro r w2 ⟨rfl, hb2⟩
  have HB2 := Lib.hid (HB.out.trans (hb2.mono HB.out.size))
  clear hb2
  go_wp2_with fail
  go_ret
  exact ⟨rfl, HB2.out⟩
end Go.Proofs.Ytgdjgahmnnjeeaa
