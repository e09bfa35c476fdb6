/-
  Layer 7: contracts of combine, Union, Common, Minus, Within of package oidsets.
  Conditions: the OIDs' cells are in their kinds.
-/
import Derived.Test.YtaiiihdckdjpoaaGreatDoorOsD
namespace Go.Proofs.YtaiiihdckdjpoaaGreatDoor
open Go.RowKit

theorem Ino.below {w w' : World} {A : Option Addr} {L : List Od} {n c : Nat} (h : Ino w A L n c) (hb : Below w.heap.size w w') : Ino w' A L n c := ⟨h.rd.below hb, h.ln, h.lc, h.cm⟩
/-- OIDs in memory of their own, and a fault. -/
def GiveL (w : World) (r : List Od × Nat) (e : Ending) (w' : World) : Prop :=
  ∃ A, e = .returned (.tuple #[.slice A r.1.length r.1.length, .int .i64 ((r.2 : Nat) : Int)]) ∧ RdO w' A r.1 ∧ (∀ q, A = some q → w.heap.size ≤ q.block) ∧ Below w.heap.size w w'
def cmbR (kf : Bool → Bool → Bool) (L M : List Od) : List Od × Nat :=
  if chkW L ≠ 0 then ([], chkW L) else if chkW M ≠ 0 then ([], chkW M) else (mrg kf (L.length + M.length) L M, 0)
def uK (x y : Bool) : Bool := x || y
def cK (x y : Bool) : Bool := x && y
def mK (x y : Bool) : Bool := x && !y
def uniR (L M : List Od) : List Od × Nat := if 256 < (cmbR uK L M).1.length then ([], 3) else cmbR uK L M
theorem mrg_le (kf : Bool → Bool → Bool) : ∀ (n : Nat) (L M : List Od), (mrg kf n L M).length ≤ n
  | 0, _, _ => Nat.le_refl _
  | n + 1, [], [] => Nat.zero_le _
  | n + 1, x :: a, [] => by
    have := mrg_le kf n a []
    rw [mrg]; split <;> simp <;> omega
  | n + 1, [], y :: b => by
    have := mrg_le kf n [] b
    rw [mrg]; split <;> simp <;> omega
  | n + 1, x :: a, y :: b => by
    have h1 := mrg_le kf n a (y :: b)
    have h2 := mrg_le kf n a b
    have h3 := mrg_le kf n (x :: a) b
    rw [mrg]
    split
    · split <;> simp <;> omega
    · split
      · split <;> simp <;> omega
      · split <;> simp <;> omega
theorem chkW_len {L : List Od} (h : chkW L = 0) : L.length ≤ 256 := by
  unfold chkW at h
  split at h
  · cases h
  · omega
theorem cmb_le (kf : Bool → Bool → Bool) (L M : List Od) : (cmbR kf L M).1.length ≤ 512 := by
  unfold cmbR
  split
  · simp
  · split
    · simp
    · rename_i h1 h2
      have h3 := mrg_le kf (L.length + M.length) L M
      have h4 := chkW_len (L := L) (Decidable.not_not.1 h1)
      have h5 := chkW_len (L := M) (Decidable.not_not.1 h2)
      simp only
      omega

set_option linter.unusedSimpArgs false in
set_option maxHeartbeats 4000000 in
set_option maxRecDepth 100000 in
theorem combine_any (kf : Bool → Bool → Bool) (F : FuncId) (A B : Option Addr) (L M : List Od) (n m c d : Nat) (w : World) (hA : Ino w A L n c) (hB : Ino w B M m d) (hn : n ≤ 40000) (hm : m ≤ 40000)
    (hF : ∀ (args : Array Value) (w : World), (callFunc F args).run Tryz.prog w = .ok (.enter F args) w)
    (hkeep : ∀ (x y : Bool) (W : World), Calls Tryz.prog F #[.bool x, .bool y] W fun e w' => e = .returned (.bool (kf x y)) ∧ W = w') :
    Calls Tryz.prog 43 #[.slice A n c, .slice B m d, .func (.func F) #[] #[]] w (GiveL w (cmbR kf L M)) := by
  obtain ⟨w1, hw1⟩ : ∃ w1, w.alloc (.cells #[.slice A n c, .slice B m d] 22) = w1 := ⟨_, rfl⟩
  have hb1 : Below w.heap.size w w1 := by rw [← hw1]; exact bel1 _ _
  obtain ⟨g, hg⟩ : ∃ g, w.heap.size = g := ⟨_, rfl⟩
  have hk1 : Bk w1 g 22 [.slice A n c, .slice B m d] := by rw [← hw1, ← hg]; exact Bk.new w 22 [.slice A n c, .slice B m d]
  have IA := Lib.hid (hA.below hb1)
  have IB := Lib.hid (hB.below hb1)
  have B1 := Lib.hid hb1
  have KG := Lib.hid hk1
  have HW1 := Lib.hid hw1
  have HG := Lib.hid hg
  have HKEEP := Lib.hid hkeep
  have HFF := Lib.hid hF
  obtain ⟨R, hR⟩ : ∃ R, cmbR kf L M = R := ⟨_, rfl⟩
  have HR := Lib.hid hR
  rw [hR]
  clear hA hB hb1 hk1 hw1 hg hkeep hF hR
  go_enter Tryz.func43, Tryz.ntmps43
  go_upto_region 2 with fail
  rw [HW1.out, HG.out]
  clear HW1
  go_loopw [15] (fun i wr => ∃ p : Nat, p ≤ 2 ∧ i = .int .i64 (p : Int) ∧ (1 ≤ p → chkW L = 0) ∧ (2 ≤ p → chkW M = 0) ∧ Below w1.heap.size w1 wr) (fun i _ => 2 - (intOf i).toNat)
  case atStart => exact ⟨0, Nat.zero_le _, rfl, fun h => by omega, fun h => by omega, Below.refl _ _⟩
  case round =>
    obtain ⟨p, hp, rfl, h1, h2, hbl⟩ := hrel
    have JA := Lib.hid (IA.out.below hbl)
    have JB := Lib.hid (IB.out.below hbl)
    have KH := Lib.hid (KG.out.below hbl KG.out.lt)
    have BB := Lib.hid (B1.out.trans (hbl.mono B1.out.size))
    have BL := Lib.hid hbl
    clear IA IB KG B1 hbl
    rcases (show p = 0 ∨ p = 1 ∨ p = 2 by omega) with rfl | rfl | rfl
    · have x0 : wr.cell? ⟨g, 0, none⟩ = some (.slice A n c) := KH.out.cell 0
      clear h1 h2
      go_wp2_with fail
      refine (ochk_any A L n c wr JA.out.rd JA.out.ln (by omega)).mono ?_
      rintro e w3 ⟨rfl, hb⟩
      clear x0
      by_cases hc : chkW L = 0
      · have hcb : ((chkW L : Int) != 0) = false := by simp; exact hc
        have HC := Lib.hid hc
        clear hc
        go_wp2_with fail
        exact ⟨⟨1, by omega, rfl, fun _ => HC.out, fun h => by omega, BL.out.trans (hb.mono BL.out.size)⟩, by simp [intOf]⟩
      · have hcb : ((chkW L : Int) != 0) = true := by simp; exact hc
        have HE : Hid (R = ([], chkW L)) := Lib.hid (by rw [← HR.out]; unfold cmbR; rw [if_pos hc])
        clear hc
        go_wp2_with fail
        go_ret2
        rw [HE.out]
        exact ⟨none, rfl, RdO.nil, (fun _ h => by cases h), BB.out.trans (hb.mono BB.out.size)⟩
    · have x1 : wr.cell? ⟨g, 1, none⟩ = some (.slice B m d) := KH.out.cell 1
      have HL := Lib.hid (h1 (by omega))
      clear h1 h2
      go_wp2_with fail
      refine (ochk_any B M m d wr JB.out.rd JB.out.ln (by omega)).mono ?_
      rintro e w3 ⟨rfl, hb⟩
      clear x1
      by_cases hc : chkW M = 0
      · have hcb : ((chkW M : Int) != 0) = false := by simp; exact hc
        have HC := Lib.hid hc
        clear hc
        go_wp2_with fail
        exact ⟨⟨2, by omega, rfl, fun _ => HL.out, fun h => HC.out, BL.out.trans (hb.mono BL.out.size)⟩, by simp [intOf]⟩
      · have hcb : ((chkW M : Int) != 0) = true := by simp; exact hc
        have HE : Hid (R = ([], chkW M)) := Lib.hid (by rw [← HR.out]; unfold cmbR; rw [if_neg (by rw [HL.out]; decide), if_pos hc])
        clear hc
        go_wp2_with fail
        go_ret2
        rw [HE.out]
        exact ⟨none, rfl, RdO.nil, (fun _ h => by cases h), BB.out.trans (hb.mono BB.out.size)⟩
    · have HL := Lib.hid (h1 (by omega))
      have HM := Lib.hid (h2 (by omega))
      clear h1 h2
      go_wp2_with fail
      refine (merge_any kf F A B L M n m c d (n + m) wr JA.out JB.out (Nat.le_refl _) (by omega) HFF.out HKEEP.out).mono ?_
      rintro e w3 ⟨A', rfl, hr, hq, hb⟩
      have HE : Hid (R = (mrg kf (n + m) L M, 0)) := Lib.hid (by rw [← HR.out]; unfold cmbR; rw [if_neg (by rw [HL.out]; decide), if_neg (by rw [HM.out]; decide), JA.out.ln, JB.out.ln])
      have HRD := Lib.hid hr
      have HQ := Lib.hid hq
      have HB := Lib.hid hb
      clear hr hq hb
      go_wp2_with fail
      go_ret2
      rw [HE.out]
      exact ⟨A', rfl, HRD.out, fun q e => Nat.le_trans BB.out.size (HQ.out q e), BB.out.trans (HB.out.mono BB.out.size)⟩

set_option maxRecDepth 100000 in
theorem uK_any (x y : Bool) (W : World) : Calls Tryz.prog 44 #[.bool x, .bool y] W fun e w' => e = .returned (.bool (uK x y)) ∧ W = w' := by
  cases x <;> cases y <;>
  · go_enter Tryz.func44, Tryz.ntmps44
    go_wp2_with fail
    go_ret
    exact ⟨rfl, rfl⟩
set_option maxRecDepth 100000 in
theorem cK_any (x y : Bool) (W : World) : Calls Tryz.prog 45 #[.bool x, .bool y] W fun e w' => e = .returned (.bool (cK x y)) ∧ W = w' := by
  cases x <;> cases y <;>
  · go_enter Tryz.func45, Tryz.ntmps45
    go_wp2_with fail
    go_ret
    exact ⟨rfl, rfl⟩
set_option maxRecDepth 100000 in
theorem mK_any (x y : Bool) (W : World) : Calls Tryz.prog 46 #[.bool x, .bool y] W fun e w' => e = .returned (.bool (mK x y)) ∧ W = w' := by
  cases x <;> cases y <;>
  · go_enter Tryz.func46, Tryz.ntmps46
    go_wp2_with fail
    go_ret
    exact ⟨rfl, rfl⟩

set_option maxRecDepth 100000 in
theorem common_any (A B : Option Addr) (L M : List Od) (n m c d : Nat) (w : World) (hA : Ino w A L n c) (hB : Ino w B M m d) (hn : n ≤ 40000) (hm : m ≤ 40000) :
    Calls Tryz.prog 19 #[.slice A n c, .slice B m d] w (GiveL w (cmbR cK L M)) := by
  have IA := Lib.hid hA
  have IB := Lib.hid hB
  clear hA hB
  go_enter Tryz.func19, Tryz.ntmps19
  go_wp2_with fail
  refine (combine_any cK _ A B L M n m c d w IA.out IB.out hn hm (fun _ _ => by rfl) cK_any).mono ?_
  rintro e w1 ⟨A', rfl, hr, hq, hb⟩
  have HRD := Lib.hid hr
  have HQ := Lib.hid hq
  have HB := Lib.hid hb
  clear hr hq hb
  go_wp2_with fail
  go_ret2
  exact ⟨A', rfl, HRD.out, HQ.out, HB.out⟩
set_option maxRecDepth 100000 in
theorem minus_any (A B : Option Addr) (L M : List Od) (n m c d : Nat) (w : World) (hA : Ino w A L n c) (hB : Ino w B M m d) (hn : n ≤ 40000) (hm : m ≤ 40000) :
    Calls Tryz.prog 20 #[.slice A n c, .slice B m d] w (GiveL w (cmbR mK L M)) := by
  have IA := Lib.hid hA
  have IB := Lib.hid hB
  clear hA hB
  go_enter Tryz.func20, Tryz.ntmps20
  go_wp2_with fail
  refine (combine_any mK _ A B L M n m c d w IA.out IB.out hn hm (fun _ _ => by rfl) mK_any).mono ?_
  rintro e w1 ⟨A', rfl, hr, hq, hb⟩
  have HRD := Lib.hid hr
  have HQ := Lib.hid hq
  have HB := Lib.hid hb
  clear hr hq hb
  go_wp2_with fail
  go_ret2
  exact ⟨A', rfl, HRD.out, HQ.out, HB.out⟩
set_option maxHeartbeats 1000000 in
set_option maxRecDepth 100000 in
theorem union_any (A B : Option Addr) (L M : List Od) (n m c d : Nat) (w : World) (hA : Ino w A L n c) (hB : Ino w B M m d) (hn : n ≤ 40000) (hm : m ≤ 40000) :
    Calls Tryz.prog 18 #[.slice A n c, .slice B m d] w (GiveL w (uniR L M)) := by
  have IA := Lib.hid hA
  have IB := Lib.hid hB
  clear hA hB
  obtain ⟨R, hR⟩ : ∃ R, cmbR uK L M = R := ⟨_, rfl⟩
  have HR := Lib.hid hR
  have hle := cmb_le uK L M
  rw [hR] at hle
  clear hR
  go_enter Tryz.func18, Tryz.ntmps18
  go_wp2_with fail
  refine (combine_any uK _ A B L M n m c d w IA.out IB.out hn hm (fun _ _ => by rfl) uK_any).mono ?_
  rw [HR.out]
  rintro e w1 ⟨A', rfl, hr, hq, hb⟩
  have HRD := Lib.hid hr
  have HQ := Lib.hid hq
  have HB := Lib.hid hb
  clear hr hq hb
  by_cases hbig : 256 < R.1.length
  · have HE : Hid (uniR L M = ([], 3)) := Lib.hid (by unfold uniR; rw [HR.out, if_pos hbig])
    have hd : decide ((256 : Int) < (R.1.length : Int)) = true := by simp; omega
    clear hbig hle
    go_wp2_with fail
    go_ret2
    rw [HE.out]
    exact ⟨none, rfl, RdO.nil, (fun _ h => by cases h), HB.out⟩
  · have HE : Hid (uniR L M = R) := Lib.hid (by unfold uniR; rw [HR.out, if_neg hbig])
    have hd : decide ((256 : Int) < (R.1.length : Int)) = false := by simp; omega
    clear hbig hle
    go_wp2_with fail
    go_ret2
    rw [HE.out]
    exact ⟨A', rfl, HRD.out, HQ.out, HB.out⟩
/-- Within's answer. -/
def witR (L M : List Od) : Bool := decide ((cmbR mK L M).2 = 0) && decide ((cmbR mK L M).1.length = 0)
set_option maxHeartbeats 1000000 in
set_option maxRecDepth 100000 in
theorem within_any (A B : Option Addr) (L M : List Od) (n m c d : Nat) (w : World) (hA : Ino w A L n c) (hB : Ino w B M m d) (hn : n ≤ 40000) (hm : m ≤ 40000) :
    Calls Tryz.prog 22 #[.slice A n c, .slice B m d] w fun e w' => e = .returned (.bool (witR L M)) ∧ Below w.heap.size w w' := by
  have IA := Lib.hid hA
  have IB := Lib.hid hB
  clear hA hB
  obtain ⟨R, hR⟩ : ∃ R, cmbR mK L M = R := ⟨_, rfl⟩
  have HR := Lib.hid hR
  have hle := cmb_le mK L M
  rw [hR] at hle
  clear hR
  have HW : Hid (witR L M = (decide (R.2 = 0) && decide (R.1.length = 0))) := Lib.hid (by unfold witR; rw [HR.out])
  go_enter Tryz.func22, Tryz.ntmps22
  go_wp2_with fail
  refine (minus_any A B L M n m c d w IA.out IB.out hn hm).mono ?_
  rw [HR.out]
  rintro e w1 ⟨A', rfl, hr, hq, hb⟩
  have HB := Lib.hid hb
  clear hr hq hb
  obtain ⟨R1, R2⟩ := R
  obtain ⟨k, hk⟩ : ∃ k, R1.length = k := ⟨_, rfl⟩
  simp only at hk hle HW ⊢
  rw [hk] at hle HW ⊢
  by_cases h2 : R2 = 0
  · subst h2
    by_cases h0 : k = 0
    · subst h0
      go_wp2_with fail
      go_ret
      rw [HW.out]
      exact ⟨rfl, HB.out⟩
    · have hd : ((k : Int) == 0) = false := by simp; exact h0
      have he : (decide ((0 : Nat) = 0) && decide (k = 0)) = false := by simp; exact h0
      go_wp2_with fail
      go_ret
      rw [HW.out, he]
      exact ⟨rfl, HB.out⟩
  · have hd : ((R2 : Int) == 0) = false := by simp; exact h2
    have he : (decide (R2 = 0) && decide (k = 0)) = false := by simp [h2]
    go_wp2_with fail
    go_ret
    rw [HW.out, he]
    exact ⟨rfl, HB.out⟩
end Go.Proofs.YtaiiihdckdjpoaaGreatDoor

/-!
  Layer 7: contracts of Same, Common and Minus of the reference, and of slices.Equal at OIDs.
  Conditions: the OIDs' cells are in their kinds.
-/
namespace Go.Proofs.YtaiiihdckdjpoaaGreatDoor
open Go.RowKit

theorem neql25 {n m : Nat} {l k : List Nat} (hl : l.length = 16) (hk : k.length = 16) (w : World) : (binOp .neq 26 (oV n l) (oV m k)).run Tryz.prog w = .ok (.bool (!(decide (n = m) && decide (l = k)))) w := by
  rw [run_neq_struct, show (10000 : Nat) = 9997 + 3 from rfl, equalIn25 9997 hl hk w]
  rfl
/-- '!=' of two OIDs, in a region that draws its order. -/
theorem yieldsIf_neqlO {ops : Array Oper} {S : World → Prop} {op : Oper} {a : Act} (hw : Region.wanted op (yielded ops a.tmps) = true) (x y : Operand) (r : TypeId) (ho : op.op = .binOp .neq 26 x y r) {n m : Nat} {l k : List Nat}
    (hx : a.eval x = oV n l) (hy : a.eval y = oV m k) (hl : l.length = 16) (hk : k.length = 16) : YieldsIf Tryz.prog ops S op (.bool (!(decide (n = m) && decide (l = k)))) a :=
  .inl ⟨hw, fun w _ => by
    unfold execOp
    simp only [ho, hx, hy, Sem.run_bind, run_eqGuard_agg (P := Tryz.prog) w .neq 26 x y (oc n l).toArray (oc m k).toArray (by kernel_rfl), neql25 hl hk w, Result.andThen_ok, Sem.run_pure]⟩

set_option linter.unusedSimpArgs false in
set_option maxHeartbeats 4000000 in
set_option maxRecDepth 100000 in
theorem rsame_any (A B : Option Addr) (L M : List Od) (n m c d : Nat) (w : World) (hA : Ino w A L n c) (hB : Ino w B M m d) (hn : n ≤ 100000) :
    Calls Tryz.prog 30 #[.slice A n c, .slice B m d] w fun e w' => e = .returned (.bool (decide (L = M))) ∧ Below w.heap.size w w' := by
  have IA := Lib.hid hA
  have IB := Lib.hid hB
  clear hA hB
  by_cases hnm : n = m
  rotate_left
  · have hd : ((n : Int) != (m : Int)) = true := by simp; omega
    have he : decide (L = M) = false := decide_eq_false (fun e => hnm (by rw [← IA.out.ln, ← IB.out.ln, e]))
    rw [he]
    clear he hnm
    go_enter Tryz.func30, Tryz.ntmps30
    go_wp2_with fail
    go_ret
    exact ⟨rfl, Below.refl _ _⟩
  subst hnm
  go_enter Tryz.func30, Tryz.ntmps30
  go_upto_region 4 with fail
  go_loopw [5] (fun i wr => ∃ p : Nat, p ≤ n ∧ i = .int .i64 (p : Int) ∧ L.take p = M.take p ∧ Below w.heap.size w wr) (fun i _ => n - (intOf i).toNat)
  case atStart => exact ⟨0, Nat.zero_le _, rfl, by simp, Below.refl _ _⟩
  case round =>
    obtain ⟨p, hp, rfl, hsame, hbl⟩ := hrel
    have HS := Lib.hid hsame
    have B := Lib.hid hbl
    clear hsame hbl
    by_cases hlt : p < n
    · have hpl : p < L.length := by rw [IA.out.ln]; exact hlt
      have hpm : p < M.length := by rw [IB.out.ln]; exact hlt
      obtain ⟨b, off, rfl, hb, hr, ho⟩ := IA.out.rd.at_ hpl
      have hl_x := ho.len
      have HQ := Lib.hid (show L[p] = (L[p].1, L[p].2) from rfl)
      generalize hm1 : L[p].1 = x at *
      generalize hk1 : L[p].2 = k at *
      have HX := Lib.hid hr
      have HXB := Lib.hid hb
      have HXO := Lib.hid ho
      have HXE := Lib.hid (show L[p] = (x, k) from HQ.out)
      clear hm1 hk1 HQ hb hr ho
      obtain ⟨b2, off2, rfl, hb, hr, ho⟩ := IB.out.rd.at_ hpm
      have hl_y := ho.len
      have HQ := Lib.hid (show M[p] = (M[p].1, M[p].2) from rfl)
      generalize hm1 : M[p].1 = y at *
      generalize hk1 : M[p].2 = l at *
      have HY := Lib.hid hr
      have HYB := Lib.hid hb
      have HYO := Lib.hid ho
      have HYE := Lib.hid (show M[p] = (y, l) from HQ.out)
      clear hm1 hk1 HQ hb hr ho
      go_upto_region 6 with fail
      obtain ⟨wd, hwd⟩ : ∃ y, wr.drew = y := ⟨_, rfl⟩
      have hbd : Below wr.heap.size wr wd := by rw [← hwd]; exact ⟨rfl, rfl, rfl, Nat.le_refl _, fun _ _ => rfl⟩
      have BL2 := Lib.hid (B.out.trans (hbd.mono B.out.size))
      refine wp_region_held_drew (S := fun W => Below w.heap.size w W) (by kernel_rfl) (by rw [hwd]; exact BL2.out) (fun hS => ?_)
      rw [hwd] at hS ⊢
      clear hwd hbd
      refine wpAnyH_take (i := 0) (oi := ⟨some 17, _, _, _, _, _⟩) (v := .slice (some ⟨b, off, none⟩) n c) rfl (by kernel_rfl) (by kernel_rfl) (by kernel_rfl) (fun _ _ _ h => h) (Or.inl ⟨by rfl, fun w hSw => by (try dsimp only at hSw); go_simp <;> first | omega | (intro hx; exact absurd hx (by omega))⟩) hS ?_
      simp only [Act.put, List.setIfInBounds_toArray, List.set_cons_zero, List.set_cons_succ]
      refine wpAnyH_take (i := 1) (oi := ⟨some 18, _, _, _, _, _⟩) (v := .int .i64 (p : Int)) rfl (by kernel_rfl) (by kernel_rfl) (by kernel_rfl) (fun _ _ _ h => h) (Or.inl ⟨by rfl, fun w hSw => by (try dsimp only at hSw); go_simp <;> first | omega | (intro hx; exact absurd hx (by omega))⟩) hS ?_
      simp only [Act.put, List.setIfInBounds_toArray, List.set_cons_zero, List.set_cons_succ]
      refine wpAnyH_take (i := 2) (oi := ⟨some 19, _, _, _, _, _⟩) (v := .pointer (some ⟨b, off + p * 17, none⟩)) rfl (by kernel_rfl) (by kernel_rfl) (by kernel_rfl) (fun _ _ _ h => h) (Or.inl ⟨by rfl, fun w hSw => by (try dsimp only at hSw); go_simp <;> first | omega | (intro hx; exact absurd hx (by omega))⟩) hS ?_
      simp only [Act.put, List.setIfInBounds_toArray, List.set_cons_zero, List.set_cons_succ]
      refine wpAnyH_take (i := 3) (oi := ⟨some 20, _, _, _, _, _⟩) (v := oV x k) rfl (by kernel_rfl) (by kernel_rfl) (by kernel_rfl) (fun _ _ _ h => h) (yieldsIf_load_mid (by rfl) 26 (.tmp 19) rfl (b) (off + p * 17) rfl (oc x k) _ (fun W h => range_below HX.out HXB.out h) Tryz.underlying26 rfl (by rw [oc_length, hl_x]; exact info25)) hS ?_
      simp only [Act.put, List.setIfInBounds_toArray, List.set_cons_zero, List.set_cons_succ]
      refine wpAnyH_take (i := 4) (oi := ⟨some 21, _, _, _, _, _⟩) (v := .slice (some ⟨b2, off2, none⟩) n d) rfl (by kernel_rfl) (by kernel_rfl) (by kernel_rfl) (fun _ _ _ h => h) (Or.inl ⟨by rfl, fun w hSw => by (try dsimp only at hSw); go_simp <;> first | omega | (intro hx; exact absurd hx (by omega))⟩) hS ?_
      simp only [Act.put, List.setIfInBounds_toArray, List.set_cons_zero, List.set_cons_succ]
      refine wpAnyH_take (i := 5) (oi := ⟨some 22, _, _, _, _, _⟩) (v := .int .i64 (p : Int)) rfl (by kernel_rfl) (by kernel_rfl) (by kernel_rfl) (fun _ _ _ h => h) (Or.inl ⟨by rfl, fun w hSw => by (try dsimp only at hSw); go_simp <;> first | omega | (intro hx; exact absurd hx (by omega))⟩) hS ?_
      simp only [Act.put, List.setIfInBounds_toArray, List.set_cons_zero, List.set_cons_succ]
      refine wpAnyH_take (i := 6) (oi := ⟨some 23, _, _, _, _, _⟩) (v := .pointer (some ⟨b2, off2 + p * 17, none⟩)) rfl (by kernel_rfl) (by kernel_rfl) (by kernel_rfl) (fun _ _ _ h => h) (Or.inl ⟨by rfl, fun w hSw => by (try dsimp only at hSw); go_simp <;> first | omega | (intro hx; exact absurd hx (by omega))⟩) hS ?_
      simp only [Act.put, List.setIfInBounds_toArray, List.set_cons_zero, List.set_cons_succ]
      refine wpAnyH_take (i := 7) (oi := ⟨some 24, _, _, _, _, _⟩) (v := oV y l) rfl (by kernel_rfl) (by kernel_rfl) (by kernel_rfl) (fun _ _ _ h => h) (yieldsIf_load_mid (by rfl) 26 (.tmp 23) rfl (b2) (off2 + p * 17) rfl (oc y l) _ (fun W h => range_below HY.out HYB.out h) Tryz.underlying26 rfl (by rw [oc_length, hl_y]; exact info25)) hS ?_
      simp only [Act.put, List.setIfInBounds_toArray, List.set_cons_zero, List.set_cons_succ]
      refine wpAnyH_take (i := 8) (oi := ⟨some 25, _, _, _, _, _⟩) (v := .bool (!(decide (x = y) && decide (k = l)))) rfl (by kernel_rfl) (by kernel_rfl) (by kernel_rfl) (fun _ _ _ h => h) (yieldsIf_neqlO (by rfl) (.tmp 20) (.tmp 24) _ rfl rfl rfl hl_x hl_y) hS ?_
      simp only [Act.put, List.setIfInBounds_toArray, List.set_cons_zero, List.set_cons_succ]
      refine wpAnyH_done (by kernel_rfl) ?_ _
      clear hS
      by_cases heq : x = y ∧ k = l
      · obtain ⟨rfl, rfl⟩ := heq
        have hbt : (!(decide (x = x) && decide (k = k))) = false := by simp
        have HN : Hid (L.take (p + 1) = M.take (p + 1)) := Lib.hid (by
          rw [List.take_succ_eq_append_getElem hpl, List.take_succ_eq_append_getElem hpm, HS.out, HXE.out, HYE.out])
        rw [hbt]
        clear hbt
        go_wp2_with fail
        exact ⟨⟨p + 1, hlt, by go_num, HN.out, BL2.out⟩, by simp [intOf]; omega⟩
      · have hbt : (!(decide (x = y) && decide (k = l))) = true := by
          rw [Bool.not_eq_true', Bool.and_eq_false_iff, decide_eq_false_iff_not, decide_eq_false_iff_not]
          by_cases h1 : x = y
          · right; intro h2; exact heq ⟨h1, h2⟩
          · left; exact h1
        have HM : Hid (decide (L = M) = false) := Lib.hid (decide_eq_false (fun e => by
          subst e
          have := HXE.out.symm.trans HYE.out
          injection this with h1 h2
          exact heq ⟨h1, h2⟩))
        rw [hbt]
        clear heq hbt
        go_wp2_with fail
        go_ret
        rw [HM.out]
        exact ⟨rfl, BL2.out⟩
    · obtain rfl : p = n := by omega
      have HM : Hid (decide (L = M) = true) := Lib.hid (decide_eq_true (by
        have := HS.out
        rwa [List.take_of_length_le (Nat.le_of_eq IA.out.ln), List.take_of_length_le (Nat.le_of_eq IB.out.ln)] at this))
      go_wp2_with fail
      go_ret
      rw [HM.out]
      exact ⟨rfl, B.out⟩

set_option linter.unusedSimpArgs false in
set_option maxHeartbeats 4000000 in
set_option maxRecDepth 100000 in
theorem slEqual_any (A B : Option Addr) (L M : List Od) (n m c d : Nat) (w : World) (hA : Ino w A L n c) (hB : Ino w B M m d) (hn : n ≤ 100000) :
    Calls Tryz.prog 47 #[.slice A n c, .slice B m d] w fun e w' => e = .returned (.bool (decide (L = M))) ∧ Below w.heap.size w w' := by
  have IA := Lib.hid hA
  have IB := Lib.hid hB
  clear hA hB
  by_cases hnm : n = m
  rotate_left
  · have hd : ((n : Int) != (m : Int)) = true := by simp; omega
    have he : decide (L = M) = false := decide_eq_false (fun e => hnm (by rw [← IA.out.ln, ← IB.out.ln, e]))
    rw [he]
    clear he hnm
    go_enter Tryz.func47, Tryz.ntmps47
    go_wp2_with fail
    go_ret
    exact ⟨rfl, Below.refl _ _⟩
  subst hnm
  go_enter Tryz.func47, Tryz.ntmps47
  go_upto_region 4 with fail
  go_loopw [13] (fun i wr => ∃ p : Nat, p ≤ n ∧ i = .int .i64 (p : Int) ∧ L.take p = M.take p ∧ Below w.heap.size w wr) (fun i _ => n - (intOf i).toNat)
  case atStart => exact ⟨0, Nat.zero_le _, rfl, by simp, Below.refl _ _⟩
  case round =>
    obtain ⟨p, hp, rfl, hsame, hbl⟩ := hrel
    have HS := Lib.hid hsame
    have B := Lib.hid hbl
    clear hsame hbl
    by_cases hlt : p < n
    · have hpl : p < L.length := by rw [IA.out.ln]; exact hlt
      have hpm : p < M.length := by rw [IB.out.ln]; exact hlt
      obtain ⟨b, off, rfl, hb, hr, ho⟩ := IA.out.rd.at_ hpl
      have hl_x := ho.len
      have HQ := Lib.hid (show L[p] = (L[p].1, L[p].2) from rfl)
      generalize hm1 : L[p].1 = x at *
      generalize hk1 : L[p].2 = k at *
      have HX := Lib.hid hr
      have HXB := Lib.hid hb
      have HXO := Lib.hid ho
      have HXE := Lib.hid (show L[p] = (x, k) from HQ.out)
      clear hm1 hk1 HQ hb hr ho
      obtain ⟨b2, off2, rfl, hb, hr, ho⟩ := IB.out.rd.at_ hpm
      have hl_y := ho.len
      have HQ := Lib.hid (show M[p] = (M[p].1, M[p].2) from rfl)
      generalize hm1 : M[p].1 = y at *
      generalize hk1 : M[p].2 = l at *
      have HY := Lib.hid hr
      have HYB := Lib.hid hb
      have HYO := Lib.hid ho
      have HYE := Lib.hid (show M[p] = (y, l) from HQ.out)
      clear hm1 hk1 HQ hb hr ho
      go_upto_region 6 with fail
      obtain ⟨wd, hwd⟩ : ∃ y, wr.drew = y := ⟨_, rfl⟩
      have hbd : Below wr.heap.size wr wd := by rw [← hwd]; exact ⟨rfl, rfl, rfl, Nat.le_refl _, fun _ _ => rfl⟩
      have BL2 := Lib.hid (B.out.trans (hbd.mono B.out.size))
      refine wp_region_held_drew (S := fun W => Below w.heap.size w W) (by kernel_rfl) (by rw [hwd]; exact BL2.out) (fun hS => ?_)
      rw [hwd] at hS ⊢
      clear hwd hbd
      refine wpAnyH_take (i := 0) (oi := ⟨some 16, _, _, _, _, _⟩) (v := .slice (some ⟨b, off, none⟩) n c) rfl (by kernel_rfl) (by kernel_rfl) (by kernel_rfl) (fun _ _ _ h => h) (Or.inl ⟨by rfl, fun w hSw => by (try dsimp only at hSw); go_simp <;> first | omega | (intro hx; exact absurd hx (by omega))⟩) hS ?_
      simp only [Act.put, List.setIfInBounds_toArray, List.set_cons_zero, List.set_cons_succ]
      refine wpAnyH_take (i := 1) (oi := ⟨some 17, _, _, _, _, _⟩) (v := .int .i64 (p : Int)) rfl (by kernel_rfl) (by kernel_rfl) (by kernel_rfl) (fun _ _ _ h => h) (Or.inl ⟨by rfl, fun w hSw => by (try dsimp only at hSw); go_simp <;> first | omega | (intro hx; exact absurd hx (by omega))⟩) hS ?_
      simp only [Act.put, List.setIfInBounds_toArray, List.set_cons_zero, List.set_cons_succ]
      refine wpAnyH_take (i := 2) (oi := ⟨some 18, _, _, _, _, _⟩) (v := .pointer (some ⟨b, off + p * 17, none⟩)) rfl (by kernel_rfl) (by kernel_rfl) (by kernel_rfl) (fun _ _ _ h => h) (Or.inl ⟨by rfl, fun w hSw => by (try dsimp only at hSw); go_simp <;> first | omega | (intro hx; exact absurd hx (by omega))⟩) hS ?_
      simp only [Act.put, List.setIfInBounds_toArray, List.set_cons_zero, List.set_cons_succ]
      refine wpAnyH_take (i := 3) (oi := ⟨some 19, _, _, _, _, _⟩) (v := oV x k) rfl (by kernel_rfl) (by kernel_rfl) (by kernel_rfl) (fun _ _ _ h => h) (yieldsIf_load_mid (by rfl) 26 (.tmp 18) rfl (b) (off + p * 17) rfl (oc x k) _ (fun W h => range_below HX.out HXB.out h) Tryz.underlying26 rfl (by rw [oc_length, hl_x]; exact info25)) hS ?_
      simp only [Act.put, List.setIfInBounds_toArray, List.set_cons_zero, List.set_cons_succ]
      refine wpAnyH_take (i := 4) (oi := ⟨some 20, _, _, _, _, _⟩) (v := .slice (some ⟨b2, off2, none⟩) n d) rfl (by kernel_rfl) (by kernel_rfl) (by kernel_rfl) (fun _ _ _ h => h) (Or.inl ⟨by rfl, fun w hSw => by (try dsimp only at hSw); go_simp <;> first | omega | (intro hx; exact absurd hx (by omega))⟩) hS ?_
      simp only [Act.put, List.setIfInBounds_toArray, List.set_cons_zero, List.set_cons_succ]
      refine wpAnyH_take (i := 5) (oi := ⟨some 21, _, _, _, _, _⟩) (v := .int .i64 (p : Int)) rfl (by kernel_rfl) (by kernel_rfl) (by kernel_rfl) (fun _ _ _ h => h) (Or.inl ⟨by rfl, fun w hSw => by (try dsimp only at hSw); go_simp <;> first | omega | (intro hx; exact absurd hx (by omega))⟩) hS ?_
      simp only [Act.put, List.setIfInBounds_toArray, List.set_cons_zero, List.set_cons_succ]
      refine wpAnyH_take (i := 6) (oi := ⟨some 22, _, _, _, _, _⟩) (v := .pointer (some ⟨b2, off2 + p * 17, none⟩)) rfl (by kernel_rfl) (by kernel_rfl) (by kernel_rfl) (fun _ _ _ h => h) (Or.inl ⟨by rfl, fun w hSw => by (try dsimp only at hSw); go_simp <;> first | omega | (intro hx; exact absurd hx (by omega))⟩) hS ?_
      simp only [Act.put, List.setIfInBounds_toArray, List.set_cons_zero, List.set_cons_succ]
      refine wpAnyH_take (i := 7) (oi := ⟨some 23, _, _, _, _, _⟩) (v := oV y l) rfl (by kernel_rfl) (by kernel_rfl) (by kernel_rfl) (fun _ _ _ h => h) (yieldsIf_load_mid (by rfl) 26 (.tmp 22) rfl (b2) (off2 + p * 17) rfl (oc y l) _ (fun W h => range_below HY.out HYB.out h) Tryz.underlying26 rfl (by rw [oc_length, hl_y]; exact info25)) hS ?_
      simp only [Act.put, List.setIfInBounds_toArray, List.set_cons_zero, List.set_cons_succ]
      refine wpAnyH_take (i := 8) (oi := ⟨some 24, _, _, _, _, _⟩) (v := .bool (!(decide (x = y) && decide (k = l)))) rfl (by kernel_rfl) (by kernel_rfl) (by kernel_rfl) (fun _ _ _ h => h) (yieldsIf_neqlO (by rfl) (.tmp 19) (.tmp 23) _ rfl rfl rfl hl_x hl_y) hS ?_
      simp only [Act.put, List.setIfInBounds_toArray, List.set_cons_zero, List.set_cons_succ]
      refine wpAnyH_done (by kernel_rfl) ?_ _
      clear hS
      by_cases heq : x = y ∧ k = l
      · obtain ⟨rfl, rfl⟩ := heq
        have hbt : (!(decide (x = x) && decide (k = k))) = false := by simp
        have HN : Hid (L.take (p + 1) = M.take (p + 1)) := Lib.hid (by
          rw [List.take_succ_eq_append_getElem hpl, List.take_succ_eq_append_getElem hpm, HS.out, HXE.out, HYE.out])
        rw [hbt]
        clear hbt
        go_wp2_with fail
        exact ⟨⟨p + 1, hlt, by go_num, HN.out, BL2.out⟩, by simp [intOf]; omega⟩
      · have hbt : (!(decide (x = y) && decide (k = l))) = true := by
          rw [Bool.not_eq_true', Bool.and_eq_false_iff, decide_eq_false_iff_not, decide_eq_false_iff_not]
          by_cases h1 : x = y
          · right; intro h2; exact heq ⟨h1, h2⟩
          · left; exact h1
        have HM : Hid (decide (L = M) = false) := Lib.hid (decide_eq_false (fun e => by
          subst e
          have := HXE.out.symm.trans HYE.out
          injection this with h1 h2
          exact heq ⟨h1, h2⟩))
        rw [hbt]
        clear heq hbt
        go_wp2_with fail
        go_ret
        rw [HM.out]
        exact ⟨rfl, BL2.out⟩
    · obtain rfl : p = n := by omega
      have HM : Hid (decide (L = M) = true) := Lib.hid (decide_eq_true (by
        have := HS.out
        rwa [List.take_of_length_le (Nat.le_of_eq IA.out.ln), List.take_of_length_le (Nat.le_of_eq IB.out.ln)] at this))
      go_wp2_with fail
      go_ret
      rw [HM.out]
      exact ⟨rfl, B.out⟩

set_option linter.unusedSimpArgs false in
set_option maxHeartbeats 1000000 in
set_option maxRecDepth 100000 in
theorem rcommon_any (A0 B0 : Option Addr) (L M : List Od) (n m c d : Nat) (w : World) (hA : Ino w A0 L n c) (hB : Ino w B0 M m d) (hn : n ≤ 100000) (hm : m ≤ 100000) :
    Calls Tryz.prog 28 #[.slice A0 n c, .slice B0 m d] w fun e w' => ∃ A c, e = .returned (.slice A (L.filter fun o => (decide (o ∈ M))).length c) ∧ (L.filter fun o => (decide (o ∈ M))).length ≤ c ∧ c ≤ maxLen ∧ RdO w' A (L.filter fun o => (decide (o ∈ M))) ∧ (∀ q, A = some q → w.heap.size ≤ q.block) ∧ Below w.heap.size w w' := by
  have IA := Lib.hid hA
  have IB := Lib.hid hB
  clear hA hB
  obtain ⟨g, hg⟩ : ∃ g : Od → Bool, (fun o => (decide (o ∈ M))) = g := ⟨_, rfl⟩
  rw [hg]
  have HG : Hid (∀ o, g o = (decide (o ∈ M))) := Lib.hid (fun o => by rw [← hg])
  clear hg
  go_enter Tryz.func28, Tryz.ntmps28
  go_upto_region 3 with fail
  go_loopw [6, 5] (fun i kv wr => ∃ p : Nat, p ≤ n ∧ i = .int .i64 (p : Int) ∧ PO w.heap.size ((L.take p).filter g) kv wr ∧ Below w.heap.size w wr) (fun i _ _ => n - (intOf i).toNat)
  case atStart => exact ⟨0, Nat.zero_le _, rfl, by simpa using PO.new w, Below.refl _ _⟩
  case round =>
    obtain ⟨p, hp, rfl, hpo, hbl⟩ := hrel
    have PK := Lib.hid hpo
    have B := Lib.hid hbl
    clear hpo hbl
    by_cases hlt : p < n
    · have hpl : p < L.length := by rw [IA.out.ln]; exact hlt
      obtain ⟨b, off, rfl, hb, hr, ho⟩ := IA.out.rd.at_ hpl
      have hl_x := ho.len
      have HQ := Lib.hid (show L[p] = (L[p].1, L[p].2) from rfl)
      generalize hm1 : L[p].1 = x at *
      generalize hk1 : L[p].2 = k at *
      have HX := Lib.hid hr
      have HXB := Lib.hid hb
      have HXO := Lib.hid ho
      have HXE := Lib.hid (show L[p] = (x, k) from HQ.out)
      clear hm1 hk1 HQ hb hr ho
      have HR := Lib.hid (range_below HX.out HXB.out B.out)
      have HOK := Lib.hid HXO.out
      go_wp2_with (refine wpList_loadO rfl (.tmp 16) rfl rfl HR.out hl_x ?_)
      refine (rhas_any B0 M m d x k wr (IB.out.rd.below B.out) IB.out.ln (by omega) HOK.out).mono ?_
      rintro e w2 ⟨rfl, hb⟩
      have PKq := Lib.hid (PK.out.below hb)
      have Bq := Lib.hid (B.out.trans (hb.mono B.out.size))
      clear PK B HR hb
      have PK := PKq
      have B := Bq
      clear PKq Bq
      have HR := Lib.hid (range_below HX.out HXB.out B.out)
      have hts : L.take (p + 1) = L.take p ++ [(x, k)] := by rw [List.take_succ_eq_append_getElem hpl, HXE.out]
      have hgx := HG.out (x, k)
      cases hv : decide ((x, k) ∈ M)
      · rw [hv] at hgx
        have HN : Hid ((L.take (p + 1)).filter g = (L.take p).filter g) := Lib.hid (by rw [hts, List.filter_append]; simp [hgx])
        clear hts hgx
        go_wp2_with fail
        exact ⟨⟨p + 1, hlt, by go_num, by rw [HN.out]; exact PK.out, B.out⟩, by simp [intOf]; omega⟩
      · rw [hv] at hgx
        have HN : Hid ((L.take (p + 1)).filter g = (L.take p).filter g ++ [(x, k)]) := Lib.hid (by rw [hts, List.filter_append]; simp [hgx])
        clear hts hgx
        obtain ⟨v', w3, hrun, hpo, hbl⟩ := PK.out.push (by have := List.length_filter_le g (L.take p); have := List.length_take_le p L; omega) HXO.out
        have HRUN := Lib.hid hrun
        have HPO := Lib.hid hpo
        have HBL := Lib.hid (B.out.trans (hbl.mono (Nat.le_refl _)))
        clear hrun hpo hbl
        go_wp2_with (first | (refine wpList_loadO rfl (.tmp 22) rfl rfl HR.out hl_x ?_) | (refine wpList_buildO rfl 23 rfl rfl hl_x ?_) | (at_builtin; refine wpList_appO (o := ⟨some 25, _, _, _, _, _⟩) rfl _ _ _ _ rfl _ _ rfl rfl HRUN.out ?_))
        exact ⟨⟨p + 1, hlt, by go_num, by rw [HN.out]; exact HPO.out, HBL.out⟩, by simp [intOf]; omega⟩
    · obtain rfl : p = n := by omega
      have HT : Hid (L.take p = L) := Lib.hid (List.take_of_length_le (Nat.le_of_eq IA.out.ln))
      rw [HT.out] at PK
      obtain ⟨Ak, ck, rfl, h1, h2, h3, h4⟩ := PK.out.form
      have H1 := Lib.hid h1
      have H2 := Lib.hid h2
      have H3 := Lib.hid h3
      have H4 : Hid (∀ q, Ak = some q → w.heap.size ≤ q.block) := Lib.hid (by
        intro q e
        rcases h4 with ⟨h, _⟩ | ⟨g, h, h', _⟩
        · rw [h] at e; cases e
        · rw [h] at e; injection e with e; rw [← e]; exact h')
      clear h1 h2 h3 h4 PK
      go_wp2_with fail
      go_ret
      exact ⟨Ak, ck, rfl, H1.out, H2.out, H3.out, H4.out, B.out⟩

set_option linter.unusedSimpArgs false in
set_option maxHeartbeats 1000000 in
set_option maxRecDepth 100000 in
theorem rminus_any (A0 B0 : Option Addr) (L M : List Od) (n m c d : Nat) (w : World) (hA : Ino w A0 L n c) (hB : Ino w B0 M m d) (hn : n ≤ 100000) (hm : m ≤ 100000) :
    Calls Tryz.prog 29 #[.slice A0 n c, .slice B0 m d] w fun e w' => ∃ A c, e = .returned (.slice A (L.filter fun o => (!(decide (o ∈ M)))).length c) ∧ (L.filter fun o => (!(decide (o ∈ M)))).length ≤ c ∧ c ≤ maxLen ∧ RdO w' A (L.filter fun o => (!(decide (o ∈ M)))) ∧ (∀ q, A = some q → w.heap.size ≤ q.block) ∧ Below w.heap.size w w' := by
  have IA := Lib.hid hA
  have IB := Lib.hid hB
  clear hA hB
  obtain ⟨g, hg⟩ : ∃ g : Od → Bool, (fun o => (!(decide (o ∈ M)))) = g := ⟨_, rfl⟩
  rw [hg]
  have HG : Hid (∀ o, g o = (!(decide (o ∈ M)))) := Lib.hid (fun o => by rw [← hg])
  clear hg
  go_enter Tryz.func29, Tryz.ntmps29
  go_upto_region 3 with fail
  go_loopw [6, 5] (fun i kv wr => ∃ p : Nat, p ≤ n ∧ i = .int .i64 (p : Int) ∧ PO w.heap.size ((L.take p).filter g) kv wr ∧ Below w.heap.size w wr) (fun i _ _ => n - (intOf i).toNat)
  case atStart => exact ⟨0, Nat.zero_le _, rfl, by simpa using PO.new w, Below.refl _ _⟩
  case round =>
    obtain ⟨p, hp, rfl, hpo, hbl⟩ := hrel
    have PK := Lib.hid hpo
    have B := Lib.hid hbl
    clear hpo hbl
    by_cases hlt : p < n
    · have hpl : p < L.length := by rw [IA.out.ln]; exact hlt
      obtain ⟨b, off, rfl, hb, hr, ho⟩ := IA.out.rd.at_ hpl
      have hl_x := ho.len
      have HQ := Lib.hid (show L[p] = (L[p].1, L[p].2) from rfl)
      generalize hm1 : L[p].1 = x at *
      generalize hk1 : L[p].2 = k at *
      have HX := Lib.hid hr
      have HXB := Lib.hid hb
      have HXO := Lib.hid ho
      have HXE := Lib.hid (show L[p] = (x, k) from HQ.out)
      clear hm1 hk1 HQ hb hr ho
      have HR := Lib.hid (range_below HX.out HXB.out B.out)
      have HOK := Lib.hid HXO.out
      go_wp2_with (refine wpList_loadO rfl (.tmp 16) rfl rfl HR.out hl_x ?_)
      refine (rhas_any B0 M m d x k wr (IB.out.rd.below B.out) IB.out.ln (by omega) HOK.out).mono ?_
      rintro e w2 ⟨rfl, hb⟩
      have PKq := Lib.hid (PK.out.below hb)
      have Bq := Lib.hid (B.out.trans (hb.mono B.out.size))
      clear PK B HR hb
      have PK := PKq
      have B := Bq
      clear PKq Bq
      have HR := Lib.hid (range_below HX.out HXB.out B.out)
      have hts : L.take (p + 1) = L.take p ++ [(x, k)] := by rw [List.take_succ_eq_append_getElem hpl, HXE.out]
      have hgx := HG.out (x, k)
      cases hv : decide ((x, k) ∈ M)
      · rw [hv] at hgx
        have HN : Hid ((L.take (p + 1)).filter g = (L.take p).filter g ++ [(x, k)]) := Lib.hid (by rw [hts, List.filter_append]; simp [hgx])
        clear hts hgx
        obtain ⟨v', w3, hrun, hpo, hbl⟩ := PK.out.push (by have := List.length_filter_le g (L.take p); have := List.length_take_le p L; omega) HXO.out
        have HRUN := Lib.hid hrun
        have HPO := Lib.hid hpo
        have HBL := Lib.hid (B.out.trans (hbl.mono (Nat.le_refl _)))
        clear hrun hpo hbl
        go_wp2_with (first | (refine wpList_loadO rfl (.tmp 23) rfl rfl HR.out hl_x ?_) | (refine wpList_buildO rfl 24 rfl rfl hl_x ?_) | (at_builtin; refine wpList_appO (o := ⟨some 26, _, _, _, _, _⟩) rfl _ _ _ _ rfl _ _ rfl rfl HRUN.out ?_))
        exact ⟨⟨p + 1, hlt, by go_num, by rw [HN.out]; exact HPO.out, HBL.out⟩, by simp [intOf]; omega⟩
      · rw [hv] at hgx
        have HN : Hid ((L.take (p + 1)).filter g = (L.take p).filter g) := Lib.hid (by rw [hts, List.filter_append]; simp [hgx])
        clear hts hgx
        go_wp2_with fail
        exact ⟨⟨p + 1, hlt, by go_num, by rw [HN.out]; exact PK.out, B.out⟩, by simp [intOf]; omega⟩
    · obtain rfl : p = n := by omega
      have HT : Hid (L.take p = L) := Lib.hid (List.take_of_length_le (Nat.le_of_eq IA.out.ln))
      rw [HT.out] at PK
      obtain ⟨Ak, ck, rfl, h1, h2, h3, h4⟩ := PK.out.form
      have H1 := Lib.hid h1
      have H2 := Lib.hid h2
      have H3 := Lib.hid h3
      have H4 : Hid (∀ q, Ak = some q → w.heap.size ≤ q.block) := Lib.hid (by
        intro q e
        rcases h4 with ⟨h, _⟩ | ⟨g, h, h', _⟩
        · rw [h] at e; cases e
        · rw [h] at e; injection e with e; rw [← e]; exact h')
      clear h1 h2 h3 h4 PK
      go_wp2_with fail
      go_ret
      exact ⟨Ak, ck, rfl, H1.out, H2.out, H3.out, H4.out, B.out⟩
end Go.Proofs.YtaiiihdckdjpoaaGreatDoor

/-!
  Layer 7: contracts of slices.Index and slices.Contains at OIDs, and of Has, HasAny and Same of package oidsets.
  Conditions: the OIDs' cells are in their kinds.
-/
namespace Go.Proofs.YtaiiihdckdjpoaaGreatDoor
open Go.RowKit

/-- The walk's step at the load of a whole 26, where the operation has a guard that is met. -/
theorem wpList_load25w {ops : Array Oper} {rest : List Oper} {o : Oper} {a : Act} {w : World} {Q : Exit → Act → World → Prop} (hw : Region.wanted o (yielded ops a.tmps) = true) (x : Operand) (ho : o.op = .load 26 x)
    {g n : Nat} {l : List Nat} (hx : a.eval x = .pointer (some ⟨g, 0, none⟩)) (hg : Bk w g 26 (oc n l)) (hl : l.length = 16) (h : wpList Tryz.prog ops Q rest (a.put o.dst (oV n l)) w) : wpList Tryz.prog ops Q (o :: rest) a w :=
  wpList_step fun K hK => by
    rw [if_pos hw]
    exact wp_load_mid _ x ho g 0 hx (oc n l) _ (range25 hg) Tryz.underlying26 rfl (by rw [oc_length, hl]; exact info25) (hK _ _ h)

set_option linter.unusedSimpArgs false in
set_option maxHeartbeats 2000000 in
set_option maxRecDepth 100000 in
theorem slIndex_any (A : Option Addr) (L : List Od) (N c n : Nat) (l : List Nat) (w : World) (hA : Ino w A L N c) (hNm : N ≤ 100000) (ho : OkO n l) :
    Calls Tryz.prog 60 #[.slice A N c, oV n l] w fun e w' => ∃ v : Int, e = .returned (.int .i64 v) ∧ (0 ≤ v ↔ (n, l) ∈ L) ∧ Below w.heap.size w w' := by
  obtain ⟨w1, hw1⟩ : ∃ w1, w.alloc (.cells (oc n l).toArray 26) = w1 := ⟨_, rfl⟩
  have hb1 : Below w.heap.size w w1 := by rw [← hw1]; exact bel1 _ _
  obtain ⟨g, hg⟩ : ∃ g, w.heap.size = g := ⟨_, rfl⟩
  have hk1 : Bk w1 g 26 (oc n l) := by rw [← hw1, ← hg]; exact Bk.new w 26 (oc n l)
  have hol := ho.len
  have IA := Lib.hid (hA.below hb1)
  have B0 := Lib.hid hb1
  have KG := Lib.hid hk1
  have HW1 := Lib.hid hw1
  have HG := Lib.hid hg
  clear hA hb1 hk1 hw1 hg ho
  go_enter Tryz.func60, Tryz.ntmps60
  go_upto_region 2 with fail
  rw [HW1.out, HG.out]
  go_loopw [8] (fun i wr => ∃ p : Nat, p ≤ N ∧ i = .int .i64 (p : Int) ∧ (n, l) ∉ L.take p ∧ Below w1.heap.size w1 wr) (fun i _ => N - (intOf i).toNat)
  case atStart => exact ⟨0, Nat.zero_le _, rfl, by simp, Below.refl _ _⟩
  case round =>
    obtain ⟨p, hp, rfl, hnot, hbl⟩ := hrel
    have HNOT := Lib.hid hnot
    have BL := Lib.hid hbl
    clear hnot hbl
    by_cases hlt : p < N
    · have hpl : p < L.length := by rw [IA.out.ln]; exact hlt
      obtain ⟨b, off, rfl, hb, hr, ho⟩ := IA.out.rd.at_ hpl
      have hl_m := ho.len
      have HQ := Lib.hid (show L[p] = (L[p].1, L[p].2) from rfl)
      generalize hm1 : L[p].1 = m at *
      generalize hk1 : L[p].2 = k at *
      have HX := Lib.hid hr
      have HXB := Lib.hid hb
      have HXO := Lib.hid ho
      have HXE := Lib.hid (show L[p] = (m, k) from HQ.out)
      clear hm1 hk1 HQ hb hr ho
      go_upto_region 4 with fail
      obtain ⟨wd, hwd⟩ : ∃ y, wr.drew = y := ⟨_, rfl⟩
      have hbd : Below wr.heap.size wr wd := by rw [← hwd]; exact ⟨rfl, rfl, rfl, Nat.le_refl _, fun _ _ => rfl⟩
      have BL2 := Lib.hid (BL.out.trans (hbd.mono BL.out.size))
      refine wp_region_held_drew (S := fun W => Below w1.heap.size w1 W) (by kernel_rfl) (by rw [hwd]; exact BL2.out) (fun hS => ?_)
      rw [hwd] at hS ⊢
      clear hwd hbd
      refine wpAnyH_take (i := 0) (oi := ⟨some 11, _, _, _, _, _⟩) (v := oV n l) rfl (by kernel_rfl) (by kernel_rfl) (by kernel_rfl) (fun _ _ _ h => h) (yieldsIf_load_mid (by rfl) 26 (.tmp 3) rfl (g) (0) rfl (oc n l) _ (fun W h => range25 (KG.out.below h KG.out.lt)) Tryz.underlying26 rfl (by rw [oc_length, hol]; exact info25)) hS ?_
      simp only [Act.put, List.setIfInBounds_toArray, List.set_cons_zero, List.set_cons_succ]
      refine wpAnyH_take (i := 1) (oi := ⟨some 12, _, _, _, _, _⟩) (v := .slice (some ⟨b, off, none⟩) N c) rfl (by kernel_rfl) (by kernel_rfl) (by kernel_rfl) (fun _ _ _ h => h) (Or.inl ⟨by rfl, fun w hSw => by (try dsimp only at hSw); go_simp <;> first | omega | (intro hx; exact absurd hx (by omega))⟩) hS ?_
      simp only [Act.put, List.setIfInBounds_toArray, List.set_cons_zero, List.set_cons_succ]
      refine wpAnyH_take (i := 2) (oi := ⟨some 13, _, _, _, _, _⟩) (v := .int .i64 (p : Int)) rfl (by kernel_rfl) (by kernel_rfl) (by kernel_rfl) (fun _ _ _ h => h) (Or.inl ⟨by rfl, fun w hSw => by (try dsimp only at hSw); go_simp <;> first | omega | (intro hx; exact absurd hx (by omega))⟩) hS ?_
      simp only [Act.put, List.setIfInBounds_toArray, List.set_cons_zero, List.set_cons_succ]
      refine wpAnyH_take (i := 3) (oi := ⟨some 14, _, _, _, _, _⟩) (v := .pointer (some ⟨b, off + p * 17, none⟩)) rfl (by kernel_rfl) (by kernel_rfl) (by kernel_rfl) (fun _ _ _ h => h) (Or.inl ⟨by rfl, fun w hSw => by (try dsimp only at hSw); go_simp <;> first | omega | (intro hx; exact absurd hx (by omega))⟩) hS ?_
      simp only [Act.put, List.setIfInBounds_toArray, List.set_cons_zero, List.set_cons_succ]
      refine wpAnyH_take (i := 4) (oi := ⟨some 15, _, _, _, _, _⟩) (v := oV m k) rfl (by kernel_rfl) (by kernel_rfl) (by kernel_rfl) (fun _ _ _ h => h) (yieldsIf_load_mid (by rfl) 26 (.tmp 14) rfl (b) (off + p * 17) rfl (oc m k) _ (fun W h => range_below HX.out HXB.out h) Tryz.underlying26 rfl (by rw [oc_length, hl_m]; exact info25)) hS ?_
      simp only [Act.put, List.setIfInBounds_toArray, List.set_cons_zero, List.set_cons_succ]
      refine wpAnyH_take (i := 5) (oi := ⟨some 16, _, _, _, _, _⟩) (v := .bool (decide (n = m) && decide (l = k))) rfl (by kernel_rfl) (by kernel_rfl) (by kernel_rfl) (fun _ _ _ h => h) (yieldsIf_eqlO (by rfl) (.tmp 11) (.tmp 15) _ rfl rfl rfl hol hl_m) hS ?_
      simp only [Act.put, List.setIfInBounds_toArray, List.set_cons_zero, List.set_cons_succ]
      refine wpAnyH_done (by kernel_rfl) ?_ _
      clear hS
      by_cases heq : n = m ∧ l = k
      · obtain ⟨rfl, rfl⟩ := heq
        have hbt : (decide (n = n) && decide (l = l)) = true := by simp
        have HM : Hid ((0 : Int) ≤ (p : Int) ↔ (n, l) ∈ L) := Lib.hid ⟨fun _ => by rw [← HXE.out]; exact List.getElem_mem _, fun _ => by omega⟩
        rw [hbt]
        go_wp2_with fail
        go_ret
        exact ⟨_, rfl, HM.out, B0.out.trans (BL2.out.mono B0.out.size)⟩
      · have hbt : (decide (n = m) && decide (l = k)) = false := by
          rw [Bool.and_eq_false_iff, decide_eq_false_iff_not, decide_eq_false_iff_not]
          by_cases h1 : n = m
          · right; intro h2; exact heq ⟨h1, h2⟩
          · left; exact h1
        have HNX : Hid ((n, l) ∉ L.take (p + 1)) := Lib.hid (by
          rw [List.take_succ_eq_append_getElem hpl, List.mem_append, List.mem_singleton, HXE.out]
          rintro (h | h)
          · exact HNOT.out h
          · injection h with h1 h2; exact heq ⟨h1, h2⟩)
        rw [hbt]
        clear heq hbt
        go_wp2_with fail
        exact ⟨⟨p + 1, hlt, by go_num, HNX.out, BL2.out⟩, by simp [intOf]; omega⟩
    · obtain rfl : p = N := by omega
      have HM : Hid ((0 : Int) ≤ -1 ↔ (n, l) ∈ L) := Lib.hid (by
        have := HNOT.out
        rw [List.take_of_length_le (Nat.le_of_eq IA.out.ln)] at this
        exact ⟨fun h => by omega, fun h => absurd h this⟩)
      go_wp2_with fail
      go_ret
      exact ⟨_, rfl, HM.out, B0.out.trans (BL.out.mono B0.out.size)⟩

set_option maxRecDepth 100000 in
theorem slContains_any (A : Option Addr) (L : List Od) (N c n : Nat) (l : List Nat) (w : World) (hA : Ino w A L N c) (hNm : N ≤ 100000) (ho : OkO n l) :
    Calls Tryz.prog 40 #[.slice A N c, oV n l] w fun e w' => e = .returned (.bool (decide ((n, l) ∈ L))) ∧ Below w.heap.size w w' := by
  have hb1 := bel1 w (.cells (oc n l).toArray 26)
  have hk1 := Bk.new w 26 (oc n l)
  have hol := ho.len
  have HO := Lib.hid ho
  have IA := Lib.hid (hA.below hb1)
  have B0 := Lib.hid hb1
  have KG := Lib.hid hk1
  clear hA hb1 hk1 ho
  go_enter Tryz.func40, Tryz.ntmps40
  go_wp2_with (refine wpList_load25 rfl (.tmp 3) rfl rfl KG.out hol ?_)
  refine (slIndex_any A L N c n l _ IA.out hNm HO.out).mono ?_
  rintro e w2 ⟨v, rfl, hv, hb⟩
  have HB := Lib.hid (B0.out.trans (hb.mono B0.out.size))
  have hd : decide (0 ≤ v) = decide ((n, l) ∈ L) := decide_eq_decide.2 hv
  obtain ⟨r, hr⟩ : ∃ r, decide ((n, l) ∈ L) = r := ⟨_, rfl⟩
  have HR := Lib.hid hr
  rw [hr] at hd
  clear hv hb hr
  go_wp2_with fail
  go_ret
  rw [HR.out]
  exact ⟨rfl, HB.out⟩
def hasR (L : List Od) (o : Od) : Bool := decide (chkW L = 0) && decide (o ∈ L)
set_option maxHeartbeats 1000000 in
set_option maxRecDepth 100000 in
theorem has7_any (A : Option Addr) (L : List Od) (N c n : Nat) (l : List Nat) (w : World) (hA : Ino w A L N c) (hNm : N ≤ 100000) (ho : OkO n l) :
    Calls Tryz.prog 12 #[.slice A N c, oV n l] w fun e w' => e = .returned (.bool (hasR L (n, l))) ∧ Below w.heap.size w w' := by
  have hb1 := bel1 w (.cells (oc n l).toArray 26)
  have hk1 := Bk.new w 26 (oc n l)
  have hol := ho.len
  have HO := Lib.hid ho
  have IA := Lib.hid (hA.below hb1)
  have B0 := Lib.hid hb1
  have KG := Lib.hid hk1
  clear hA hb1 hk1 ho
  go_enter Tryz.func12, Tryz.ntmps12
  go_wp2_with fail
  refine (ochk_any A L N c _ IA.out.rd IA.out.ln hNm).mono ?_
  rintro e w2 ⟨rfl, hb⟩
  have KH := Lib.hid (KG.out.below hb KG.out.lt)
  have IB := Lib.hid (IA.out.below hb)
  have HB := Lib.hid (B0.out.trans (hb.mono B0.out.size))
  clear hb IA B0 KG
  by_cases hc : chkW L = 0
  · have hcb : ((chkW L : Int) == 0) = true := by simp; exact hc
    have HE : Hid (hasR L (n, l) = decide ((n, l) ∈ L)) := Lib.hid (by unfold hasR; rw [decide_eq_true hc, Bool.true_and])
    clear hc
    go_wp2_with (refine wpList_load25w (by rfl) (.tmp 3) rfl rfl KH.out hol ?_)
    refine (slContains_any A L N c n l _ IB.out hNm HO.out).mono ?_
    rintro e w3 ⟨rfl, hb⟩
    have HB2 := Lib.hid (HB.out.trans (hb.mono HB.out.size))
    clear hb
    generalize decide ((n, l) ∈ L) = r at *
    go_wp2_with fail
    go_ret
    rw [HE.out]
    exact ⟨rfl, HB2.out⟩
  · have hcb : ((chkW L : Int) == 0) = false := by simp; exact hc
    have HE : Hid (hasR L (n, l) = false) := Lib.hid (by unfold hasR; rw [decide_eq_false hc, Bool.false_and])
    clear hc
    go_wp2_with fail
    go_ret
    rw [HE.out]
    exact ⟨rfl, HB.out⟩
set_option maxRecDepth 100000 in
theorem hasany7_any (A : Option Addr) (L : List Od) (N c : Nat) (w : World) (hA : Ino w A L N c) (hNm : N ≤ 100000) :
    Calls Tryz.prog 15 #[.slice A N c] w fun e w' => e = .returned (.bool (hasR L (5, anyL))) ∧ Below w.heap.size w w' := by
  have IA := Lib.hid hA
  clear hA
  go_enter Tryz.func15, Tryz.ntmps15
  go_wp2_with fail
  refine (any_any _).mono ?_
  rintro e w1 ⟨rfl, hb⟩
  have HB := Lib.hid hb
  clear hb
  go_wp2_with fail
  refine (has7_any A L N c 5 anyL _ (IA.out.below HB.out) hNm ⟨by decide, rfl, by decide⟩).mono ?_
  rintro e w2 ⟨rfl, hb⟩
  go_wp2_with fail
  go_ret
  exact ⟨rfl, HB.out.trans (hb.mono HB.out.size)⟩
def samR (L M : List Od) : Bool := decide (chkW L = 0) && decide (L = M)
set_option maxHeartbeats 1000000 in
set_option maxRecDepth 100000 in
theorem same7_any (A B : Option Addr) (L M : List Od) (n m c d : Nat) (w : World) (hA : Ino w A L n c) (hB : Ino w B M m d) (hn : n ≤ 100000) :
    Calls Tryz.prog 23 #[.slice A n c, .slice B m d] w fun e w' => e = .returned (.bool (samR L M)) ∧ Below w.heap.size w w' := by
  have IA := Lib.hid hA
  have IB := Lib.hid hB
  clear hA hB
  go_enter Tryz.func23, Tryz.ntmps23
  go_wp2_with fail
  refine (ochk_any A L n c _ IA.out.rd IA.out.ln hn).mono ?_
  rintro e w2 ⟨rfl, hb⟩
  have HB := Lib.hid hb
  clear hb
  by_cases hc : chkW L = 0
  · have hcb : ((chkW L : Int) == 0) = true := by simp; exact hc
    have HE : Hid (samR L M = decide (L = M)) := Lib.hid (by unfold samR; rw [decide_eq_true hc, Bool.true_and])
    clear hc
    go_wp2_with fail
    refine (slEqual_any A B L M n m c d _ (IA.out.below HB.out) (IB.out.below HB.out) hn).mono ?_
    rintro e w3 ⟨rfl, hb⟩
    have HB2 := Lib.hid (HB.out.trans (hb.mono HB.out.size))
    clear hb
    generalize decide (L = M) = r at *
    go_wp2_with fail
    go_ret
    rw [HE.out]
    exact ⟨rfl, HB2.out⟩
  · have hcb : ((chkW L : Int) == 0) = false := by simp; exact hc
    have HE : Hid (samR L M = false) := Lib.hid (by unfold samR; rw [decide_eq_false hc, Bool.false_and])
    clear hc
    go_wp2_with fail
    go_ret
    rw [HE.out]
    exact ⟨rfl, HB.out⟩
end Go.Proofs.YtaiiihdckdjpoaaGreatDoor

/-!
  Layer 7: append of several OIDs; slices of OIDs; where the reference's Insert lays an OID.
  Conditions: the OIDs' cells are in their kinds.
-/
namespace Go.Proofs.YtaiiihdckdjpoaaGreatDoor
open Go.RowKit

theorem sl0O (A : Option Addr) (h m s : Nat) : sliced A 0 h m s = .slice A h m := by
  unfold sliced
  rw [Nat.zero_mul, Nat.sub_zero, Nat.sub_zero]
  have : A.map (·.add 0) = A := by cases A <;> rfl
  rw [this, ite_self]
/-- append of nothing. -/
theorem appO0 {w : World} {B : Nat} {v : Value} {n : Nat} {cs : List Value} (hown : w.ownsRow B 26 17 v n cs) (A : Option Addr) (c : Nat) :
    (Builtin.append_ #[22, 22] 22 #[v, .slice A 0 c]).run Tryz.prog w = .ok v w := by
  obtain ⟨i, hi, hz0, hz1, hz2⟩ := info_parts infoO3
  rcases hown.2 with ⟨rfl, h0⟩ | ⟨g, cap, cur, rfl, _, _, hnc, _⟩
  · cases A <;> simp [Builtin.append_, run_underlying Tryz.underlying22, sizeOf, typeInfo, hi, Builtin.lenOf, Builtin.firstCells, loadCells, loadCellsFrom]
  · cases A <;> simp [Builtin.append_, run_underlying Tryz.underlying22, sizeOf, typeInfo, hi, Builtin.lenOf, Builtin.firstCells, hnc, storeCells, loadCells, loadCellsFrom]
/-- '[]OID{}'. -/
theorem PO.empty {B : Nat} (w : World) (hB : B ≤ w.heap.size) : PO B [] (.slice (some ⟨w.heap.size, 0, none⟩) 0 0) (w.alloc (.cells #[] 26)) :=
  ⟨⟨rfl, .inr ⟨w.heap.size, 0, #[], rfl, hB, Bk.new w 26 [], Nat.le_refl _, by unfold maxLen; omega, rfl, rfl⟩⟩, OkL.nil, by simp; omega⟩
/-- OIDs are laid behind the others. -/
theorem PO.pushAll {B : Nat} {K : List Od} {v : Value} {w : World} (h : PO B K v w) {A : Option Addr} {M : List Od} (hM : RdO w A M) (hl : K.length + M.length ≤ 1000000) (m c : Nat) (hm : M.length = m) :
    ∃ v' w2, (Builtin.append_ #[22, 22] 22 #[v, .slice A m c]).run Tryz.prog w = .ok v' w2 ∧ PO B (K ++ M) v' w2 ∧ Below B w w2 := by
  subst hm
  rcases Nat.eq_zero_or_pos M.length with h0 | h0
  · obtain rfl := List.eq_nil_of_length_eq_zero h0
    exact ⟨v, w, appO0 h.own A c, by rw [List.append_nil]; exact h, Below.refl _ _⟩
  · obtain ⟨i, hi, hz0, hz1, hz2⟩ := info_parts infoO3
    have hlen := ocs_len hM.2
    obtain ⟨b, off, rfl, hb, hc⟩ := hM.1 (by intro e; rw [e, List.length_nil] at hlen; omega)
    obtain ⟨g, cap, w2, hrun, h2, h3, h4, h5⟩ := run_append_lies (P := Tryz.prog) (w := w) 22 22 B 26 i _ 17 68 Tryz.underlying22 hi hz0 hz1 hz2 (by rw [show (oV 0 zeroL).cells = (oc 0 zeroL).toArray from rfl, List.size_toArray]; rfl) (by decide) v K.length (ocs K) h.own ⟨b, off, none⟩ M.length c (ocs M) hlen
      (fun j u hj => by rw [addr_addO]; exact hc j u hj) ocs_one h0 (by unfold maxLen; omega) (by omega) h.bz w.heap.size rfl
    refine ⟨_, w2, hrun, ⟨by rw [List.length_append, ocs_app]; exact h2, h.ok.app hM.2, Nat.le_trans h.bz h3.size⟩, (Below.refl B w).grown h3 h.bz (fun k hk => (h.own.lt k hk).1)⟩
/-- [p:] of OIDs. -/
theorem Ino.from_ {w : World} {A : Option Addr} {L : List Od} {n c : Nat} (h : Ino w A L n c) (p : Nat) (hp : p ≤ n) :
    ∃ A', (∀ W, (Instr.slice 22 (.slice A n c) (some (.int .i64 (p : Int))) none none).run Tryz.prog W = .ok (.slice A' (n - p) (c - p)) W) ∧
      (∀ W, (Instr.sliceAt 22 (.slice A n c) (some (.int .i64 (p : Int))) none none).run Tryz.prog W = .ok (.slice A' (n - p) (c - p)) W) ∧ RdO w A' (L.drop p) := by
  have hlc := h.lc
  have hcm := h.cm
  have hln := h.ln
  have hsz : ∀ W, (sizeOf (Tryz.prog.elem 22)).run Tryz.prog W = .ok 17 W := fun W => by kernel_rfl
  have q0 : ∀ W : World, (Instr.slice 22 (.slice A n c) (some (.int .i64 (p : Int))) none none).run Tryz.prog W = .ok (sliced A p n c 17) W := fun W => by
    rw [run_slice_l (P := Tryz.prog) W 22 A n c (by kernel_rfl) .i64 (p : Int) (by omega) (by omega), hsz W]
    simp only [Result.andThen, Int.toNat_natCast]
  rcases Nat.eq_zero_or_pos n with h0 | h0
  · subst h0
    obtain rfl : p = 0 := by omega
    have hL : L = [] := List.eq_nil_of_length_eq_zero hln
    have q : ∀ W : World, (Instr.slice 22 (.slice A 0 c) (some (.int .i64 ((0 : Nat) : Int))) none none).run Tryz.prog W = .ok (.slice A (0 - 0) (c - 0)) W := fun W => by rw [q0 W, sl0O]; rfl
    refine ⟨A, q, fun W => ?_, by rw [hL]; exact RdO.nil⟩
    rw [← q W]; exact run_sliceAt_slice (P := Tryz.prog) W 22 _ _ _ _ (by kernel_rfl)
  · obtain ⟨b, off, rfl, -, -, -⟩ := h.rd.at_ (i := 0) (by omega)
    have q : ∀ W : World, (Instr.slice 22 (.slice (some ⟨b, off, none⟩) n c) (some (.int .i64 (p : Int))) none none).run Tryz.prog W = .ok (.slice (if c = p then some ⟨b, off, none⟩ else some ⟨b, off + p * 17, none⟩) (n - p) (c - p)) W := fun W => by
      rw [q0 W]
      simp only [sliced, Option.map_some, addr_addO]
    refine ⟨_, q, fun W => ?_, ?_⟩
    · rw [← q W]; exact run_sliceAt_slice (P := Tryz.prog) W 22 _ _ _ _ (by kernel_rfl)
    · by_cases hc : c = p
      · rw [List.drop_of_length_le (by omega)]; exact RdO.nil
      · rw [if_neg hc]; exact h.rd.drop_ p
/-- [:p] of OIDs. -/
theorem slTO (A : Option Addr) (n c p : Nat) (h : p ≤ c) (W : World) : (Instr.slice 22 (.slice A n c) none (some (.int .i64 (p : Int))) none).run Tryz.prog W = .ok (.slice A p c) W := by
  have hsz : (sizeOf (Tryz.prog.elem 22)).run Tryz.prog W = .ok 17 W := by kernel_rfl
  rw [run_slice_h (P := Tryz.prog) W 22 A n c (by kernel_rfl) .i64 (p : Int) (by omega) (by omega), hsz]
  simp only [Result.andThen, Int.toNat_natCast, sl0O]
/-- '[]OID{x}', as one step of a region that draws. -/
theorem buildO_wp {o : Oper} {a : Act} {w : World} {K : Act → World → Prop} {Q : Exit → Act → World → Prop} (t : Tmp) (ho : o.op = .buildSlice 22 1 #[(0, .tmp t)])
    {n : Nat} {l : List Nat} (hx : a.eval (.tmp t) = oV n l) (hl : l.length = 16)
    (h : K (a.put o.dst (.slice (some ⟨w.heap.size, 0, none⟩) 1 1)) (w.alloc (.cells (oc n l).toArray 26))) : o.wp Tryz.prog a w K Q := by
  obtain ⟨i, hi, hz0, hz1, hz2⟩ := info_parts infoO3
  refine wp_buildSlice 22 26 1 _ ho (oc n l).toArray i _ Tryz.underlying22 hi hz0 (by rw [hz1]; decide) (by rw [hz1]; decide) ?_ h
  have := Great.fill_whole (s := 17) (by decide) [oV n l] ((Array.range (1 * 17)).map ((oV 0 zeroL).cells[· % (oV 0 zeroL).cells.size]!)) (by
    intro v hv
    obtain rfl := List.mem_singleton.1 hv
    rw [show (oV n l).cells = (oc n l).toArray from rfl, List.size_toArray, oc_length, hl]) (by simp)
  rw [hz1]
  rw [show (#[(0, Operand.tmp t)].map fun (i, x) => (i, a.eval x)).toList = ([oV n l].zipIdx 0).map fun x => (x.2, x.1) by simp [hx], this]
  simp [oV, Value.cells]
/-- append, as one step of a region that draws. -/
theorem appO_wp {P : Program} {o : Oper} {a : Act} {w : World} {K : Act → World → Prop} {Q : Exit → Act → World → Prop} (s x : Operand) (t1 t2 : TypeId)
    (ho : o.op = .call { callee := .builtin .append, args := #[s, x], argTypes := #[t1, t2] }) (u v : Value) (hs : a.eval s = u) (hx : a.eval x = v) {r : Value} {w1 : World}
    (hrun : (Builtin.append_ #[t1, t2] o.type #[u, v]).run P w = .ok r w1) (h : K (a.put o.dst r) w1) : o.wp P a w K Q := by
  unfold Oper.wp execOp
  simp only [ho, resolve, invoke, builtin, Sem.run_bind, Sem.run_pure, Result.andThen_ok, List.map_toArray, List.map_cons, List.map_nil, hs, hx, hrun]
  exact h

/-- Is the first OID less? -/
def lsO (o : Od) (x : Od) : Bool := decide (cmpO x.1 x.2 o.1 o.2 < 0)
/-- What the reference's Insert answers. -/
def insR (L : List Od) (o : Od) : List Od := if o ∈ L then L else L.takeWhile (lsO o) ++ [o] ++ L.dropWhile (lsO o)
theorem while_at (f : Od → Bool) : ∀ (L : List Od) (p : Nat), p ≤ L.length → (∀ x ∈ L.take p, f x = true) → (∀ h : p < L.length, f L[p] = false) → L.takeWhile f = L.take p ∧ L.dropWhile f = L.drop p
  | [], p, hp, _, _ => by
    obtain rfl : p = 0 := by simpa using hp
    exact ⟨rfl, rfl⟩
  | x :: L, 0, _, _, h2 => by
    have := h2 (by simp)
    simp only [List.getElem_cons_zero] at this
    exact ⟨by rw [List.takeWhile_cons, this]; rfl, by rw [List.dropWhile_cons, this]; rfl⟩
  | x :: L, p + 1, hp, h1, h2 => by
    have hx := h1 x (by simp)
    obtain ⟨r1, r2⟩ := while_at f L p (by simpa using hp) (fun y hy => h1 y (by simp [hy])) (fun h => h2 (by simpa using h))
    exact ⟨by rw [List.takeWhile_cons, hx, if_pos rfl, r1, List.take_succ_cons], by rw [List.dropWhile_cons, hx, if_pos rfl, r2, List.drop_succ_cons]⟩
end Go.Proofs.YtaiiihdckdjpoaaGreatDoor
