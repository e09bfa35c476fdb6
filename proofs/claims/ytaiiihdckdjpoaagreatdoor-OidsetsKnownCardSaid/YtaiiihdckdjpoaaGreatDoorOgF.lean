/-
  Layer 7: OIDs one behind the other in memory; contracts of the reference's Has and Check, and of Check of package oidsets.
  Conditions: the OIDs' cells are in their kinds.
-/
import Derived.Test.YtaiiihdckdjpoaaGreatDoorOgB
import Derived.Deep.DeepCutAuto
import Derived.Deep.AppendLies
import Derived.Deep.AppendSrc
import Derived.ArgAppend
import Derived.Great.BuildSlice
namespace Go.Proofs.YtaiiihdckdjpoaaGreatDoor
open Go.RowKit

/-- An OID: how many arcs count, and the arcs. -/
abbrev Od := Nat × List Nat
/-- The cells of OIDs one behind the other. -/
def ocs : List Od → List Value
  | [] => []
  | o :: L => oc o.1 o.2 ++ ocs L
def OkL (L : List Od) : Prop := ∀ o ∈ L, OkO o.1 o.2
theorem OkL.nil : OkL [] := fun _ h => absurd h (by simp)
theorem OkL.cons {o : Od} {L : List Od} (h : OkO o.1 o.2) (k : OkL L) : OkL (o :: L) := by
  intro y hy
  rcases List.mem_cons.1 hy with rfl | hy
  · exact h
  · exact k y hy
theorem OkL.app {L M : List Od} (h : OkL L) (k : OkL M) : OkL (L ++ M) := by
  intro y hy
  rcases List.mem_append.1 hy with hy | hy
  · exact h y hy
  · exact k y hy
theorem OkL.get {L : List Od} (h : OkL L) {i : Nat} (hi : i < L.length) : OkO L[i].1 L[i].2 := h _ (List.getElem_mem hi)
theorem OkL.drop {L : List Od} (h : OkL L) (k : Nat) : OkL (L.drop k) := fun y hy => h y (List.mem_of_mem_drop hy)
theorem OkL.take {L : List Od} (h : OkL L) (k : Nat) : OkL (L.take k) := fun y hy => h y (List.mem_of_mem_take hy)
theorem oc_17 {o : Od} (h : OkO o.1 o.2) : (oc o.1 o.2).length = 17 := by rw [oc_length, h.len]
theorem ocs_app : ∀ (L M : List Od), ocs (L ++ M) = ocs L ++ ocs M
  | [], _ => rfl
  | o :: L, M => by rw [List.cons_append, ocs, ocs, ocs_app L M, List.append_assoc]
theorem ocs_len : ∀ {L : List Od}, OkL L → (ocs L).length = L.length * 17
  | [], _ => rfl
  | o :: L, h => by
    rw [ocs, List.length_append, oc_17 (h o (by simp)), ocs_len fun x hx => h x (by simp [hx]), List.length_cons]
    omega
theorem ocs_drop {L : List Od} (h : OkL L) : ∀ (i : Nat), ocs (L.drop i) = (ocs L).drop (i * 17) := by
  intro i
  induction i generalizing L with
  | zero => simp
  | succ i ih =>
    cases L with
    | nil => simp [ocs]
    | cons o L =>
      have h17 := oc_17 (h o (by simp))
      rw [List.drop_succ_cons, ih (fun x hx => h x (by simp [hx])), ocs, show (i + 1) * 17 = (oc o.1 o.2).length + i * 17 by omega, ← List.drop_drop, List.drop_left]
theorem ocs_take {L : List Od} (h : OkL L) : ∀ (i : Nat), ocs (L.take i) = (ocs L).take (i * 17) := by
  intro i
  induction i generalizing L with
  | zero => simp [ocs]
  | succ i ih =>
    cases L with
    | nil => simp [ocs]
    | cons o L =>
      have h17 := oc_17 (h o (by simp))
      rw [List.take_succ_cons, ocs, ih (fun x hx => h x (by simp [hx])), ocs, show (i + 1) * 17 = (oc o.1 o.2).length + i * 17 by omega, List.take_length_add_append]
theorem ocs_get {L : List Od} (h : OkL L) {i : Nat} (hi : i < L.length) {j : Nat} {v : Value} (hj : (oc L[i].1 L[i].2)[j]? = some v) : (ocs L)[i * 17 + j]? = some v := by
  have h1 := ocs_drop h i
  rw [List.drop_eq_getElem_cons hi, ocs] at h1
  have h2 : ((ocs L).drop (i * 17))[j]? = some v := by
    rw [← h1, List.getElem?_append_left (List.getElem?_eq_some_iff.1 hj).1]; exact hj
  rwa [List.getElem?_drop] at h2
theorem ocs_one {L : List Od} : ∀ u ∈ ocs L, u.oneCell' = true := by
  induction L with
  | nil => intro u hu; simp [ocs] at hu
  | cons o L ih =>
    intro u hu
    rw [ocs] at hu
    rcases List.mem_append.1 hu with hu | hu
    · have := Array.all_eq_true_iff_forall_mem.1 (oc_one o.1 o.2) u (by simpa using hu)
      simpa using this
    · exact ih u hu
/-- The slice header's address reads as OIDs. -/
def RdO (w : World) (A : Option Addr) (L : List Od) : Prop := Rd w A (ocs L) ∧ OkL L
section
variable {w w' : World} {A : Option Addr} {L : List Od}
theorem RdO.below (h : RdO w A L) (hb : Below w.heap.size w w') : RdO w' A L := ⟨h.1.below hb, h.2⟩
theorem RdO.nil : RdO w A [] := ⟨Rd.nil, OkL.nil⟩
theorem RdO.at_ (h : RdO w A L) {i : Nat} (hi : i < L.length) : ∃ b off, A = some ⟨b, off, none⟩ ∧ b < w.heap.size ∧ w.rangeAt b (off + i * 17) (oc L[i].1 L[i].2) ∧ OkO L[i].1 L[i].2 := by
  have h0 : ocs L ≠ [] := by
    intro e
    have := ocs_len h.2
    rw [e, List.length_nil] at this; omega
  obtain ⟨b, off, e, hb, hc⟩ := h.1 h0
  exact ⟨b, off, e, hb, fun j v hj => by rw [Nat.add_assoc]; exact hc _ v (ocs_get h.2 hi hj), h.2.get hi⟩
theorem RdO.drop_ {b off : Nat} (h : RdO w (some ⟨b, off, none⟩) L) (k : Nat) : RdO w (some ⟨b, off + k * 17, none⟩) (L.drop k) :=
  ⟨by rw [ocs_drop h.2]; exact h.1.drop_ (k * 17), h.2.drop k⟩
theorem RdO.take_ (h : RdO w A L) (k : Nat) : RdO w A (L.take k) := ⟨by rw [ocs_take h.2]; exact h.1.take_ (k * 17), h.2.take k⟩
end
theorem infoO : (Tryz.prog.info? 26).map (·.size) = some 17 := info25
/-- The walk's step at the load of a whole OID out of a row. -/
theorem wpList_loadO {ops : Array Oper} {rest : List Oper} {o : Oper} {a : Act} {w : World} {Q : Exit → Act → World → Prop} (hgd : o.guard = none) (x : Operand) (ho : o.op = .load 26 x)
    {b off n : Nat} {l : List Nat} (hx : a.eval x = .pointer (some ⟨b, off, none⟩)) (hg : w.rangeAt b off (oc n l)) (hl : l.length = 16) (h : wpList Tryz.prog ops Q rest (a.put o.dst (oV n l)) w) : wpList Tryz.prog ops Q (o :: rest) a w :=
  wpList_load_mid hgd _ x ho b off hx (oc n l) _ hg Tryz.underlying26 rfl (by rw [oc_length, hl]; exact info25) h

/-! What the sets' functions answer. -/
def chkS : Option Od → List Od → Nat
  | _, [] => 0
  | p, o :: L => if chkO o.1 o.2 ≠ 0 then 1 else
    match p with
    | none => chkS (some o) L
    | some q => if cmpO q.1 q.2 o.1 o.2 = 0 then 14 else if 0 < cmpO q.1 q.2 o.1 o.2 then 13 else chkS (some o) L
/-- Check's answer. -/
def chkW (L : List Od) : Nat := if 256 < L.length then 3 else chkS none L
/-- What is left of Check behind i OIDs. -/
def chkI (L : List Od) (i : Nat) : Nat := chkS (if i = 0 then none else L[i - 1]?) (L.drop i)
theorem chkI_end (L : List Od) : chkI L L.length = 0 := by unfold chkI; rw [List.drop_length]; cases (if L.length = 0 then none else L[L.length - 1]?) <;> rfl
theorem chkI_first {L : List Od} (h : 0 < L.length) : chkI L 0 = if chkO L[0].1 L[0].2 ≠ 0 then 1 else chkI L 1 := by
  cases L with
  | nil => simp at h
  | cons o L => rfl
theorem chkI_step {L : List Od} {i : Nat} (h : i + 1 < L.length) : chkI L (i + 1) = if chkO L[i + 1].1 L[i + 1].2 ≠ 0 then 1 else
    if cmpO L[i].1 L[i].2 L[i + 1].1 L[i + 1].2 = 0 then 14 else if 0 < cmpO L[i].1 L[i].2 L[i + 1].1 L[i + 1].2 then 13 else chkI L (i + 2) := by
  have e1 : (if i + 1 = 0 then none else L[i + 1 - 1]?) = some L[i] := by rw [if_neg (by omega), Nat.add_sub_cancel, List.getElem?_eq_getElem (show i < L.length by omega)]
  have e2 : (if i + 2 = 0 then none else L[i + 2 - 1]?) = some L[i + 1] := by rw [if_neg (by omega), show i + 2 - 1 = i + 1 by omega, List.getElem?_eq_getElem h]
  unfold chkI
  rw [e1, e2, List.drop_eq_getElem_cons h]
  rfl
end Go.Proofs.YtaiiihdckdjpoaaGreatDoor

/-!
  Layer 7: contracts of the reference's Has and Check, and of Check of package oidsets.
  Conditions: the OIDs' cells are in their kinds.
-/
namespace Go.Proofs.YtaiiihdckdjpoaaGreatDoor
open Go.RowKit

/-- '==' of two OIDs, in a region that draws its order. -/
theorem yieldsIf_eqlO {ops : Array Oper} {S : World → Prop} {op : Oper} {a : Act} (hw : Region.wanted op (yielded ops a.tmps) = true) (x y : Operand) (r : TypeId) (ho : op.op = .binOp .eql 26 x y r) {n m : Nat} {l k : List Nat}
    (hx : a.eval x = oV n l) (hy : a.eval y = oV m k) (hl : l.length = 16) (hk : k.length = 16) : YieldsIf Tryz.prog ops S op (.bool (decide (n = m) && decide (l = k))) a :=
  .inl ⟨hw, fun w _ => by
    unfold execOp
    simp only [ho, hx, hy, Sem.run_bind, run_eqGuard_agg (P := Tryz.prog) w .eql 26 x y (oc n l).toArray (oc m k).toArray (by kernel_rfl), eql25 hl hk w, Result.andThen_ok, Sem.run_pure]⟩

set_option linter.unusedSimpArgs false in
set_option maxHeartbeats 4000000 in
set_option maxRecDepth 100000 in
theorem rhas_any (A : Option Addr) (L : List Od) (N c n : Nat) (l : List Nat) (w : World) (hA : RdO w A L) (hN : L.length = N) (hNm : N ≤ 100000) (ho : OkO n l) :
    Calls Tryz.prog 14 #[.slice A N c, oV n l] w fun e w' => e = .returned (.bool (decide ((n, l) ∈ L))) ∧ Below w.heap.size w w' := by
  obtain ⟨w1, hw1⟩ : ∃ w1, w.alloc (.cells (oc n l).toArray 26) = w1 := ⟨_, rfl⟩
  have hb1 : Below w.heap.size w w1 := by rw [← hw1]; exact bel1 _ _
  obtain ⟨g, hg⟩ : ∃ g, w.heap.size = g := ⟨_, rfl⟩
  have hk1 : Bk w1 g 26 (oc n l) := by rw [← hw1, ← hg]; exact Bk.new w 26 (oc n l)
  have hol := ho.len
  have R := Lib.hid (hA.below hb1)
  have B := Lib.hid hb1
  have KG := Lib.hid hk1
  have HW1 := Lib.hid hw1
  have HG := Lib.hid hg
  have HN := Lib.hid hN
  clear hA hb1 hk1 hw1 hg hN ho
  go_enter Tryz.func14, Tryz.ntmps14
  go_upto_region 2 with fail
  rw [HW1.out, HG.out]
  have H0 : Hid (Below w1.heap.size w1 w1) := Lib.hid (Below.refl _ _)
  go_loopw [5] (fun i wr => ∃ p : Nat, p ≤ N ∧ i = .int .i64 (p : Int) ∧ (n, l) ∉ L.take p ∧ Below w1.heap.size w1 wr) (fun i _ => N - (intOf i).toNat)
  case atStart => exact ⟨0, Nat.zero_le _, rfl, by simp, H0.out⟩
  case round =>
    obtain ⟨p, hp, rfl, hnot, hbl⟩ := hrel
    have HNOT := Lib.hid hnot
    have BL := Lib.hid hbl
    clear hnot hbl
    by_cases hlt : p < N
    · have hpl : p < L.length := by rw [HN.out]; exact hlt
      obtain ⟨b, off, rfl, hb, hr, ho2⟩ := (R.out.below BL.out).at_ hpl
      have hl2 := ho2.len
      have HX := Lib.hid (show L[p] = (L[p].1, L[p].2) from rfl)
      generalize hm1 : L[p].1 = m at *
      generalize hk1 : L[p].2 = k at *
      have HXX := Lib.hid (show L[p] = (m, k) from HX.out)
      clear hm1 hk1 HX
      go_upto_region 4 with fail
      obtain ⟨wd, hwd⟩ : ∃ wd, wr.drew = wd := ⟨_, rfl⟩
      have hbd : Below wr.heap.size wr wd := by rw [← hwd]; exact ⟨rfl, rfl, rfl, Nat.le_refl _, fun _ _ => rfl⟩
      have hr' : wd.rangeAt b (off + p * 17) (oc m k) := fun j v hj => (hbd.cell (p := ⟨b, off + p * 17 + j, none⟩) hb).trans (hr j v hj)
      have hkg : Bk wd g 26 (oc n l) := (KG.out.below BL.out KG.out.lt).below hbd (KG.out.below BL.out KG.out.lt).lt
      have BL2 := Lib.hid (BL.out.trans (hbd.mono BL.out.size))
      refine wp_region_held_drew (S := fun W => W.rangeAt b (off + p * 17) (oc m k) ∧ Bk W g 26 (oc n l)) (by kernel_rfl) (by rw [hwd]; exact ⟨hr', hkg⟩) (fun hS => ?_)
      rw [hwd] at hS ⊢
      clear hwd hbd hr hr' hkg
      refine wpAnyH_take (i := 0) (oi := ⟨some 12, _, _, _, _, _⟩) (v := .slice (some ⟨b, off, none⟩) N c) rfl (by kernel_rfl) (by kernel_rfl) (by kernel_rfl) (fun _ _ _ h => h) (Or.inl ⟨by rfl, fun w hSw => by (try dsimp only at hSw); go_simp⟩) hS ?_
      simp only [Act.put, List.setIfInBounds_toArray, List.set_cons_zero, List.set_cons_succ]
      refine wpAnyH_take (i := 1) (oi := ⟨some 13, _, _, _, _, _⟩) (v := .int .i64 (p : Int)) rfl (by kernel_rfl) (by kernel_rfl) (by kernel_rfl) (fun _ _ _ h => h) (Or.inl ⟨by rfl, fun w hSw => by (try dsimp only at hSw); go_simp⟩) hS ?_
      simp only [Act.put, List.setIfInBounds_toArray, List.set_cons_zero, List.set_cons_succ]
      refine wpAnyH_take (i := 2) (oi := ⟨some 14, _, _, _, _, _⟩) (v := .pointer (some ⟨b, off + p * 17, none⟩)) rfl (by kernel_rfl) (by kernel_rfl) (by kernel_rfl) (fun _ _ _ h => h) (Or.inl ⟨by rfl, fun w hSw => by (try dsimp only at hSw); go_simp⟩) hS ?_
      simp only [Act.put, List.setIfInBounds_toArray, List.set_cons_zero, List.set_cons_succ]
      refine wpAnyH_take (i := 3) (oi := ⟨some 15, _, _, _, _, _⟩) (v := oV m k) rfl (by kernel_rfl) (by kernel_rfl) (by kernel_rfl) (fun _ _ _ h => h) (yieldsIf_load_mid (by rfl) 26 (.tmp 14) rfl (b) (off + p * 17) rfl (oc m k) _ (fun W h => h.1) Tryz.underlying26 rfl (by rw [oc_length, hl2]; exact info25)) hS ?_
      simp only [Act.put, List.setIfInBounds_toArray, List.set_cons_zero, List.set_cons_succ]
      refine wpAnyH_take (i := 4) (oi := ⟨some 16, _, _, _, _, _⟩) (v := oV n l) rfl (by kernel_rfl) (by kernel_rfl) (by kernel_rfl) (fun _ _ _ h => h) (yieldsIf_load_mid (by rfl) 26 (.tmp 3) rfl (g) (0) rfl (oc n l) _ (fun W h => range25 h.2) Tryz.underlying26 rfl (by rw [oc_length, hol]; exact info25)) hS ?_
      simp only [Act.put, List.setIfInBounds_toArray, List.set_cons_zero, List.set_cons_succ]
      refine wpAnyH_take (i := 5) (oi := ⟨some 17, _, _, _, _, _⟩) (v := .bool (decide (m = n) && decide (k = l))) rfl (by kernel_rfl) (by kernel_rfl) (by kernel_rfl) (fun _ _ _ h => h) (yieldsIf_eqlO (by rfl) (.tmp 15) (.tmp 16) _ rfl rfl rfl hl2 hol) hS ?_
      simp only [Act.put, List.setIfInBounds_toArray, List.set_cons_zero, List.set_cons_succ]
      refine wpAnyH_done (by kernel_rfl) ?_ _
      clear hS
      by_cases heq : m = n ∧ k = l
      · obtain ⟨rfl, rfl⟩ := heq
        have hbt : (decide (m = m) && decide (k = k)) = true := by simp
        have HM : Hid (decide ((m, k) ∈ L) = true) := Lib.hid (decide_eq_true (by rw [← HXX.out]; exact List.getElem_mem _))
        rw [hbt]
        go_wp2_with fail
        go_ret
        rw [HM.out]
        exact ⟨rfl, B.out.trans (BL2.out.mono B.out.size)⟩
      · have hbt : (decide (m = n) && decide (k = l)) = false := by
          rw [Bool.and_eq_false_iff, decide_eq_false_iff_not, decide_eq_false_iff_not]
          by_cases h1 : m = n
          · right; intro h2; exact heq ⟨h1, h2⟩
          · left; exact h1
        have HNX : Hid ((n, l) ∉ L.take (p + 1)) := Lib.hid (by
          rw [List.take_succ_eq_append_getElem hpl, List.mem_append, List.mem_singleton, HXX.out]
          rintro (h | h)
          · exact HNOT.out h
          · injection h with h1 h2; exact heq ⟨h1.symm, h2.symm⟩)
        rw [hbt]
        clear heq hbt
        go_wp2_with fail
        exact ⟨⟨p + 1, hlt, by go_num, HNX.out, BL2.out⟩, by simp [intOf]; omega⟩
    · obtain rfl : p = N := by omega
      have HM : Hid (decide ((n, l) ∈ L) = false) := Lib.hid (decide_eq_false (by have := HNOT.out; rwa [List.take_of_length_le (Nat.le_of_eq HN.out)] at this))
      go_wp2_with fail
      go_ret
      rw [HM.out]
      exact ⟨rfl, B.out.trans (BL.out.mono B.out.size)⟩

set_option linter.unusedSimpArgs false in
set_option maxHeartbeats 8000000 in
set_option maxRecDepth 100000 in
theorem rchk_any (A : Option Addr) (L : List Od) (N c : Nat) (w : World) (hA : RdO w A L) (hN : L.length = N) (hNm : N ≤ 100000) :
    Calls Tryz.prog 10 #[.slice A N c] w (GiveF w (chkW L)) := by
  by_cases hbig : 256 < N
  · have hW : chkW L = 3 := by unfold chkW; rw [if_pos (by omega)]
    have hd : decide ((256 : Int) < (N : Int)) = true := by simp; omega
    rw [hW]
    clear hA hN
    go_enter Tryz.func10, Tryz.ntmps10
    go_wp2_with fail
    go_ret
    exact ⟨rfl, Below.refl _ _⟩
  have hd : decide ((256 : Int) < (N : Int)) = false := by simp; omega
  have HW : Hid (chkW L = chkI L 0) := Lib.hid (by unfold chkW; rw [if_neg (by omega)]; rfl)
  have R := Lib.hid hA
  have HN := Lib.hid hN
  
  clear hA hN
  go_enter Tryz.func10, Tryz.ntmps10
  go_wp2_with fail
  go_loopw [3] (fun i wr => ∃ p : Nat, p ≤ N ∧ i = .int .i64 (p : Int) ∧ chkW L = chkI L p ∧ Below w.heap.size w wr) (fun i _ => N - (intOf i).toNat)
  case atStart => exact ⟨0, Nat.zero_le _, rfl, HW.out, Below.refl _ _⟩
  case round =>
    obtain ⟨p, hp, rfl, hch, hbl⟩ := hrel
    have HCH := Lib.hid hch
    have B := Lib.hid hbl
    clear hch hbl
    by_cases hlt : p < N
    · have hpl : p < L.length := by rw [HN.out]; exact hlt
      obtain ⟨b, off, rfl, hb, hr, ho2⟩ := (R.out.below B.out).at_ hpl
      have hl2 := ho2.len
      have HO := Lib.hid ho2
      have HR := Lib.hid hr
      have HBL := Lib.hid hb
      generalize hm1 : L[p].1 = m at *
      generalize hk1 : L[p].2 = k at *
      have HM1 := Lib.hid hm1
      have HK1 := Lib.hid hk1
      clear hm1 hk1 hr ho2 hb
      go_wp2_with (refine wpList_loadO rfl (.tmp 16) rfl rfl HR.out hl2 ?_)
      refine (rcheck_any m k _ HO.out).mono ?_
      rintro r w4 ⟨rfl, hb⟩
      have HR4 : Hid (w4.rangeAt b (off + p * 17) (oc m k)) := Lib.hid (fun j v hj => (hb.cell (p := ⟨b, off + p * 17 + j, none⟩) HBL.out).trans (HR.out j v hj))
      have HBL4 := Lib.hid (Nat.lt_of_lt_of_le HBL.out hb.size)
      have Bq := Lib.hid (B.out.trans (hb.mono B.out.size))
      clear B
      have B := Bq
      clear Bq hb
      by_cases hc0 : chkO m k = 0
      rotate_left
      · have hcb : ((chkO m k : Int) != 0) = true := by simp; exact hc0
        have h1 : chkO m k = 1 := by unfold chkO at hc0 ⊢; split at hc0 <;> simp_all
        have HE : Hid (chkW L = 1) := Lib.hid (by
          rw [HCH.out]
          cases p with
          | zero => rw [chkI_first hpl, HM1.out, HK1.out, if_pos hc0]
          | succ p => rw [chkI_step hpl, HM1.out, HK1.out, if_pos hc0])
        rw [h1] at hcb ⊢
        go_wp2_with fail
        go_ret
        rw [HE.out]
        exact ⟨rfl, B.out⟩
      rw [hc0]
      have hcz : ((0 : Nat) : Int) = 0 := rfl
      by_cases hp0 : p = 0
      · have HE : Hid (chkW L = chkI L (p + 1)) := Lib.hid (by
          rw [HCH.out]
          subst hp0
          rw [chkI_first hpl, HM1.out, HK1.out, if_neg (by rw [hc0]; decide)])
        have hpb : ((p : Int) == 0) = true := by simp; omega
        have hpb2 : decide ((0 : Int) < (p : Int)) = false := by simp; omega
        have hpb3 : decide (0 < p) = false := by simp; omega
        clear hc0 hcz
        go_wp2_with fail
        exact ⟨⟨p + 1, hlt, by go_num, HE.out, B.out⟩, by simp [intOf]; omega⟩
      obtain ⟨q, rfl⟩ : ∃ q, p = q + 1 := ⟨p - 1, by omega⟩
      have hpb : (((q + 1 : Nat) : Int) == 0) = false := by simp; omega
      have hpb2 : decide ((0 : Int) < ((q + 1 : Nat) : Int)) = true := decide_eq_true (by omega)
      have hpb3 : decide (0 < q + 1) = true := by simp
      obtain ⟨p1, hp1⟩ : ∃ p1, q + 1 = p1 := ⟨_, rfl⟩
      have hql : q < L.length := by omega
      obtain ⟨b', off', e', hb', hr', ho'⟩ := (R.out.below B.out).at_ hql
      injection e' with e'
      injection e' with e1 e2
      subst e1 e2
      have hl3 := ho'.len
      have HO3 := Lib.hid ho'
      generalize hm2 : L[q].1 = m2 at *
      generalize hk2 : L[q].2 = k2 at *
      have HST : Hid (chkI L p1 = if cmpO m2 k2 m k = 0 then 14 else if 0 < cmpO m2 k2 m k then 13 else chkI L (p1 + 1)) := Lib.hid (by
        rw [← hp1, chkI_step hpl, HM1.out, HK1.out, hm2, hk2, if_neg (by rw [hc0]; decide)])
      rw [hp1] at hpb hpb2 hpb3 HCH HR4 hlt hp ⊢
      have hq1 : (p1 : Int) - 1 = (q : Int) := by omega
      have hqw : IntKind.i64.wrap (q : Int) = (q : Int) := IntWalk.i64_in _ (by omega)
      have hqN : q < N := by omega
      have HR5 := Lib.hid hr'
      have HCM := Lib.hid (fun W => rcompare_any m2 k2 m k W HO3.out HO.out)
      clear hc0 hcz hp0 hm2 hk2 hr' ho' hpl hql HM1 HK1 hp1
      go_upto_region 9 with fail
      obtain ⟨wd, hwd⟩ : ∃ wd, w4.drew = wd := ⟨_, rfl⟩
      have hbd : Below w4.heap.size w4 wd := by rw [← hwd]; exact ⟨rfl, rfl, rfl, Nat.le_refl _, fun _ _ => rfl⟩
      have HSZ := Lib.hid hbd.size
      have h5 : wd.rangeAt b (off + q * 17) (oc m2 k2) := fun j v hj => (hbd.cell (p := ⟨b, off + q * 17 + j, none⟩) HBL4.out).trans (HR5.out j v hj)
      have h4 : wd.rangeAt b (off + p1 * 17) (oc m k) := fun j v hj => (hbd.cell (p := ⟨b, off + p1 * 17 + j, none⟩) HBL4.out).trans (HR4.out j v hj)
      have Bq := Lib.hid (B.out.trans (hbd.mono B.out.size))
      clear B
      have B := Bq
      clear Bq hbd
      refine wp_region_held_drew (S := fun W => W.rangeAt b (off + q * 17) (oc m2 k2) ∧ W.rangeAt b (off + p1 * 17) (oc m k)) (by kernel_rfl) (by rw [hwd]; exact ⟨h5, h4⟩) (fun hS => ?_)
      rw [hwd] at hS ⊢
      clear hwd
      refine wpAnyH_take (i := 0) (oi := ⟨some 22, _, _, _, _, _⟩) (v := .slice (some ⟨b, off, none⟩) N c) rfl (by kernel_rfl) (by kernel_rfl) (by kernel_rfl) (fun _ _ _ h => h) (Or.inl ⟨by rfl, fun w hSw => by (try dsimp only at hSw); go_simp⟩) hS ?_
      simp only [Act.put, List.setIfInBounds_toArray, List.set_cons_zero, List.set_cons_succ]
      refine wpAnyH_take (i := 1) (oi := ⟨some 23, _, _, _, _, _⟩) (v := .int .i64 (p1 : Int)) rfl (by kernel_rfl) (by kernel_rfl) (by kernel_rfl) (fun _ _ _ h => h) (Or.inl ⟨by rfl, fun w hSw => by (try dsimp only at hSw); go_simp⟩) hS ?_
      simp only [Act.put, List.setIfInBounds_toArray, List.set_cons_zero, List.set_cons_succ]
      refine wpAnyH_take (i := 2) (oi := ⟨some 24, _, _, _, _, _⟩) (v := .int .i64 (q : Int)) rfl (by kernel_rfl) (by kernel_rfl) (by kernel_rfl) (fun _ _ _ h => h) (Or.inl ⟨by rfl, fun w hSw => by (try dsimp only at hSw); go_simp⟩) hS ?_
      simp only [Act.put, List.setIfInBounds_toArray, List.set_cons_zero, List.set_cons_succ]
      refine wpAnyH_take (i := 3) (oi := ⟨some 25, _, _, _, _, _⟩) (v := .pointer (some ⟨b, off + q * 17, none⟩)) rfl (by kernel_rfl) (by kernel_rfl) (by kernel_rfl) (fun _ _ _ h => h) (Or.inl ⟨by rfl, fun w hSw => by (try dsimp only at hSw); go_simp⟩) hS ?_
      simp only [Act.put, List.setIfInBounds_toArray, List.set_cons_zero, List.set_cons_succ]
      refine wpAnyH_take (i := 4) (oi := ⟨some 26, _, _, _, _, _⟩) (v := oV m2 k2) rfl (by kernel_rfl) (by kernel_rfl) (by kernel_rfl) (fun _ _ _ h => h) (yieldsIf_load_mid (by rfl) 26 (.tmp 25) rfl (b) (off + q * 17) rfl (oc m2 k2) _ (fun W h => h.1) Tryz.underlying26 rfl (by rw [oc_length, hl3]; exact info25)) hS ?_
      simp only [Act.put, List.setIfInBounds_toArray, List.set_cons_zero, List.set_cons_succ]
      refine wpAnyH_take (i := 5) (oi := ⟨some 27, _, _, _, _, _⟩) (v := .slice (some ⟨b, off, none⟩) N c) rfl (by kernel_rfl) (by kernel_rfl) (by kernel_rfl) (fun _ _ _ h => h) (Or.inl ⟨by rfl, fun w hSw => by (try dsimp only at hSw); go_simp⟩) hS ?_
      simp only [Act.put, List.setIfInBounds_toArray, List.set_cons_zero, List.set_cons_succ]
      refine wpAnyH_take (i := 6) (oi := ⟨some 28, _, _, _, _, _⟩) (v := .int .i64 (p1 : Int)) rfl (by kernel_rfl) (by kernel_rfl) (by kernel_rfl) (fun _ _ _ h => h) (Or.inl ⟨by rfl, fun w hSw => by (try dsimp only at hSw); go_simp⟩) hS ?_
      simp only [Act.put, List.setIfInBounds_toArray, List.set_cons_zero, List.set_cons_succ]
      refine wpAnyH_take (i := 7) (oi := ⟨some 29, _, _, _, _, _⟩) (v := .pointer (some ⟨b, off + p1 * 17, none⟩)) rfl (by kernel_rfl) (by kernel_rfl) (by kernel_rfl) (fun _ _ _ h => h) (Or.inl ⟨by rfl, fun w hSw => by (try dsimp only at hSw); go_simp⟩) hS ?_
      simp only [Act.put, List.setIfInBounds_toArray, List.set_cons_zero, List.set_cons_succ]
      refine wpAnyH_take (i := 8) (oi := ⟨some 30, _, _, _, _, _⟩) (v := oV m k) rfl (by kernel_rfl) (by kernel_rfl) (by kernel_rfl) (fun _ _ _ h => h) (yieldsIf_load_mid (by rfl) 26 (.tmp 29) rfl (b) (off + p1 * 17) rfl (oc m k) _ (fun W h => h.2) Tryz.underlying26 rfl (by rw [oc_length, hl2]; exact info25)) hS ?_
      simp only [Act.put, List.setIfInBounds_toArray, List.set_cons_zero, List.set_cons_succ]
      refine wpAnyH_ready (rs := [9]) (by kernel_rfl) (by simp) ?_
      refine AllReadyH.cons (o := _) rfl (fun K hK => ?_) (AllReadyH.nil)
      go_simp
      refine (HCM.out _).mono ?_
      rintro r w5 ⟨rfl, hb⟩
      have h55 : w5.rangeAt b (off + q * 17) (oc m2 k2) := fun j v hj => (hb.cell (p := ⟨b, off + q * 17 + j, none⟩) (Nat.lt_of_lt_of_le HBL4.out HSZ.out)).trans (h5 j v hj)
      have h44 : w5.rangeAt b (off + p1 * 17) (oc m k) := fun j v hj => (hb.cell (p := ⟨b, off + p1 * 17 + j, none⟩) (Nat.lt_of_lt_of_le HBL4.out HSZ.out)).trans (h4 j v hj)
      have Bq := Lib.hid (B.out.trans (hb.mono B.out.size))
      clear B
      have B := Bq
      clear Bq hb
      refine hK.out _ _ (⟨h55, h44⟩) (fun hS => ?_)
      clear hK K
      (try simp only [Act.put, List.setIfInBounds_toArray, List.set_cons_zero, List.set_cons_succ])
      refine wpAnyH_take (i := 10) (oi := ⟨some 4, _, _, _, _, _⟩) (v := .int .i64 (cmpO m2 k2 m k)) rfl (by kernel_rfl) (by kernel_rfl) (by kernel_rfl) (fun _ _ _ h => h) (Or.inl ⟨by rfl, fun w hSw => by (try dsimp only at hSw); go_simp⟩) hS ?_
      simp only [Act.put, List.setIfInBounds_toArray, List.set_cons_zero, List.set_cons_succ]
      refine wpAnyH_done (by kernel_rfl) ?_ _
      clear hS h5 h4 HR4 HR5 HCM
      generalize cmpO m2 k2 m k = x at *
      by_cases hx0 : x = 0
      · have hxb : (x == 0) = true := by simp; exact hx0
        have HE : Hid (chkW L = 14) := Lib.hid (by rw [HCH.out, HST.out, if_pos hx0])
        clear hx0
        go_wp2_with fail
        go_ret
        rw [HE.out]
        exact ⟨rfl, B.out⟩
      have hxb : (x == 0) = false := by simp; exact hx0
      by_cases hx1 : 0 < x
      · have hxc : decide (0 < x) = true := by simp; exact hx1
        have HE : Hid (chkW L = 13) := Lib.hid (by rw [HCH.out, HST.out, if_neg hx0, if_pos hx1])
        clear hx0
        go_wp2_with fail
        go_ret
        rw [HE.out]
        exact ⟨rfl, B.out⟩
      have hxc : decide (0 < x) = false := by simp; omega
      have HE : Hid (chkW L = chkI L (p1 + 1)) := Lib.hid (by rw [HCH.out, HST.out, if_neg hx0, if_neg hx1])
      clear hx0
      go_wp2_with fail
      exact ⟨⟨p1 + 1, hlt, by go_num, HE.out, B.out⟩, by simp [intOf]; omega⟩
    · obtain rfl : p = N := by omega
      have HE : Hid (chkW L = 0) := Lib.hid (by rw [HCH.out, ← HN.out, chkI_end])
      go_wp2_with fail
      go_ret
      rw [HE.out]
      exact ⟨rfl, B.out⟩

set_option linter.unusedSimpArgs false in
set_option maxHeartbeats 8000000 in
set_option maxRecDepth 100000 in
theorem ochk_any (A : Option Addr) (L : List Od) (N c : Nat) (w : World) (hA : RdO w A L) (hN : L.length = N) (hNm : N ≤ 100000) :
    Calls Tryz.prog 11 #[.slice A N c] w (GiveF w (chkW L)) := by
  by_cases hbig : 256 < N
  · have hW : chkW L = 3 := by unfold chkW; rw [if_pos (by omega)]
    have hd : decide ((256 : Int) < (N : Int)) = true := by simp; omega
    rw [hW]
    clear hA hN
    go_enter Tryz.func11, Tryz.ntmps11
    go_wp2_with fail
    go_ret
    exact ⟨rfl, Below.refl _ _⟩
  have hd : decide ((256 : Int) < (N : Int)) = false := by simp; omega
  have HW : Hid (chkW L = chkI L 0) := Lib.hid (by unfold chkW; rw [if_neg (by omega)]; rfl)
  have R := Lib.hid hA
  have HN := Lib.hid hN
  have hz := zero25
  obtain ⟨zl, hzl⟩ : ∃ zl, zeroL = zl := ⟨_, rfl⟩
  have HZL : Hid (zl.length = 16) := Lib.hid (by rw [← hzl]; exact zeroL_length)
  rw [hzl] at hz
  clear hzl
  clear hA hN
  go_enter Tryz.func11, Tryz.ntmps11
  go_wp2_with fail
  go_loopw [12] (fun i wr => ∃ p : Nat, p ≤ N ∧ i = .int .i64 (p : Int) ∧ chkW L = chkI L p ∧ Below w.heap.size w wr) (fun i _ => N - (intOf i).toNat)
  case atStart => exact ⟨0, Nat.zero_le _, rfl, HW.out, Below.refl _ _⟩
  case round =>
    obtain ⟨p, hp, rfl, hch, hbl⟩ := hrel
    have HCH := Lib.hid hch
    have B := Lib.hid hbl
    clear hch hbl
    by_cases hlt : p < N
    · have hpl : p < L.length := by rw [HN.out]; exact hlt
      obtain ⟨b, off, rfl, hb, hr, ho2⟩ := (R.out.below B.out).at_ hpl
      have hl2 := ho2.len
      have HO := Lib.hid ho2
      have HR := Lib.hid hr
      have HBL := Lib.hid hb
      generalize hm1 : L[p].1 = m at *
      generalize hk1 : L[p].2 = k at *
      have HM1 := Lib.hid hm1
      have HK1 := Lib.hid hk1
      clear hm1 hk1 hr ho2 hb
      go_upto_region 6 with (first
        | (refine wpList_loadO rfl (.tmp 15) rfl rfl HR.out hl2 ?_)
        | (refine wpList_store25 rfl (.tmp 4) (.tmp 16) rfl (n := m) (l := k) rfl rfl (Bk.new wr 26 (oc 0 zl)) (by rw [oc_length, HZL.out]) hl2 ?_; intro w3 V3 hg3 hz3; have KO := Lib.hid V3; have hb3 : Below wr.heap.size wr w3 := (bel1 wr (.cells (oc 0 zl).toArray 26)).grown hg3 (by simp) (fun j e => by injection e with e; omega); clear V3 hg3 hz3))
      have Bq := Lib.hid (B.out.trans (hb3.mono B.out.size))
      clear B
      have B := Bq
      clear Bq
      have HR3 : Hid (w3.rangeAt b (off + p * 17) (oc m k)) := Lib.hid (fun j v hj => (hb3.cell (p := ⟨b, off + p * 17 + j, none⟩) HBL.out).trans (HR.out j v hj))
      have HBL3 := Lib.hid (Nat.lt_of_lt_of_le HBL.out hb3.size)
      obtain ⟨go, hgo⟩ : ∃ go, wr.heap.size = go := ⟨_, rfl⟩
      rw [hgo] at KO
      clear hb3 HR HBL
      try rw [hgo]
      go_wp2_with (refine wpList_load25 rfl (.tmp 4) rfl rfl KO.out hl2 ?_)
      refine (check_any m k _ HO.out).mono ?_
      rintro r w4 ⟨rfl, hb⟩
      have HR4 : Hid (w4.rangeAt b (off + p * 17) (oc m k)) := Lib.hid (fun j v hj => (hb.cell (p := ⟨b, off + p * 17 + j, none⟩) HBL3.out).trans (HR3.out j v hj))
      have HBL4 := Lib.hid (Nat.lt_of_lt_of_le HBL3.out hb.size)
      have Bq := Lib.hid (B.out.trans (hb.mono B.out.size))
      have KOq := Lib.hid (KO.out.below hb KO.out.lt)
      clear B KO
      have B := Bq
      have KO := KOq
      clear Bq KOq hb
      by_cases hc0 : chkO m k = 0
      rotate_left
      · have hcb : ((chkO m k : Int) != 0) = true := by simp; exact hc0
        have h1 : chkO m k = 1 := by unfold chkO at hc0 ⊢; split at hc0 <;> simp_all
        have HE : Hid (chkW L = 1) := Lib.hid (by
          rw [HCH.out]
          cases p with
          | zero => rw [chkI_first hpl, HM1.out, HK1.out, if_pos hc0]
          | succ p => rw [chkI_step hpl, HM1.out, HK1.out, if_pos hc0])
        rw [h1] at hcb ⊢
        go_wp2_with fail
        go_ret
        rw [HE.out]
        exact ⟨rfl, B.out⟩
      rw [hc0]
      have hcz : ((0 : Nat) : Int) = 0 := rfl
      by_cases hp0 : p = 0
      · have HE : Hid (chkW L = chkI L (p + 1)) := Lib.hid (by
          rw [HCH.out]
          subst hp0
          rw [chkI_first hpl, HM1.out, HK1.out, if_neg (by rw [hc0]; decide)])
        have hpb : ((p : Int) == 0) = true := by simp; omega
        have hpb2 : decide ((0 : Int) < (p : Int)) = false := by simp; omega
        have hpb3 : decide (0 < p) = false := by simp; omega
        clear hc0 hcz
        go_wp2_with fail
        exact ⟨⟨p + 1, hlt, by go_num, HE.out, B.out⟩, by simp [intOf]; omega⟩
      obtain ⟨q, rfl⟩ : ∃ q, p = q + 1 := ⟨p - 1, by omega⟩
      have hpb : (((q + 1 : Nat) : Int) == 0) = false := by simp; omega
      have hpb2 : decide ((0 : Int) < ((q + 1 : Nat) : Int)) = true := decide_eq_true (by omega)
      have hpb3 : decide (0 < q + 1) = true := by simp
      obtain ⟨p1, hp1⟩ : ∃ p1, q + 1 = p1 := ⟨_, rfl⟩
      have hql : q < L.length := by omega
      obtain ⟨b', off', e', hb', hr', ho'⟩ := (R.out.below B.out).at_ hql
      injection e' with e'
      injection e' with e1 e2
      subst e1 e2
      have hl3 := ho'.len
      have HO3 := Lib.hid ho'
      generalize hm2 : L[q].1 = m2 at *
      generalize hk2 : L[q].2 = k2 at *
      have HST : Hid (chkI L p1 = if cmpO m2 k2 m k = 0 then 14 else if 0 < cmpO m2 k2 m k then 13 else chkI L (p1 + 1)) := Lib.hid (by
        rw [← hp1, chkI_step hpl, HM1.out, HK1.out, hm2, hk2, if_neg (by rw [hc0]; decide)])
      rw [hp1] at hpb hpb2 hpb3 HCH HR4 hlt hp ⊢
      have hq1 : (p1 : Int) - 1 = (q : Int) := by omega
      have hqw : IntKind.i64.wrap (q : Int) = (q : Int) := IntWalk.i64_in _ (by omega)
      have hqN : q < N := by omega
      have HR5 := Lib.hid hr'
      have HCM := Lib.hid (fun W => compare_any m2 k2 m k W HO3.out HO.out)
      clear hc0 hcz hp0 hm2 hk2 hr' ho' hpl hql HM1 HK1 hp1
      go_upto_region 10 with fail
      obtain ⟨wd, hwd⟩ : ∃ wd, w4.drew = wd := ⟨_, rfl⟩
      have hbd : Below w4.heap.size w4 wd := by rw [← hwd]; exact ⟨rfl, rfl, rfl, Nat.le_refl _, fun _ _ => rfl⟩
      have HSZ := Lib.hid hbd.size
      have h5 : wd.rangeAt b (off + q * 17) (oc m2 k2) := fun j v hj => (hbd.cell (p := ⟨b, off + q * 17 + j, none⟩) HBL4.out).trans (HR5.out j v hj)
      have h4 : wd.rangeAt b (off + p1 * 17) (oc m k) := fun j v hj => (hbd.cell (p := ⟨b, off + p1 * 17 + j, none⟩) HBL4.out).trans (HR4.out j v hj)
      have Bq := Lib.hid (B.out.trans (hbd.mono B.out.size))
      have KOq := Lib.hid (KO.out.below hbd KO.out.lt)
      clear B KO
      have B := Bq
      have KO := KOq
      clear Bq KOq hbd
      refine wp_region_held_drew (S := fun W => W.rangeAt b (off + q * 17) (oc m2 k2) ∧ Bk W go 26 (oc m k)) (by kernel_rfl) (by rw [hwd]; exact ⟨h5, KO.out⟩) (fun hS => ?_)
      rw [hwd] at hS ⊢
      clear hwd
      refine wpAnyH_take (i := 0) (oi := ⟨some 24, _, _, _, _, _⟩) (v := .slice (some ⟨b, off, none⟩) N c) rfl (by kernel_rfl) (by kernel_rfl) (by kernel_rfl) (fun _ _ _ h => h) (Or.inl ⟨by rfl, fun w hSw => by (try dsimp only at hSw); go_simp⟩) hS ?_
      simp only [Act.put, List.setIfInBounds_toArray, List.set_cons_zero, List.set_cons_succ]
      refine wpAnyH_take (i := 1) (oi := ⟨some 25, _, _, _, _, _⟩) (v := .int .i64 (p1 : Int)) rfl (by kernel_rfl) (by kernel_rfl) (by kernel_rfl) (fun _ _ _ h => h) (Or.inl ⟨by rfl, fun w hSw => by (try dsimp only at hSw); go_simp⟩) hS ?_
      simp only [Act.put, List.setIfInBounds_toArray, List.set_cons_zero, List.set_cons_succ]
      refine wpAnyH_take (i := 2) (oi := ⟨some 26, _, _, _, _, _⟩) (v := .int .i64 (q : Int)) rfl (by kernel_rfl) (by kernel_rfl) (by kernel_rfl) (fun _ _ _ h => h) (Or.inl ⟨by rfl, fun w hSw => by (try dsimp only at hSw); go_simp⟩) hS ?_
      simp only [Act.put, List.setIfInBounds_toArray, List.set_cons_zero, List.set_cons_succ]
      refine wpAnyH_take (i := 3) (oi := ⟨some 27, _, _, _, _, _⟩) (v := .pointer (some ⟨b, off + q * 17, none⟩)) rfl (by kernel_rfl) (by kernel_rfl) (by kernel_rfl) (fun _ _ _ h => h) (Or.inl ⟨by rfl, fun w hSw => by (try dsimp only at hSw); go_simp⟩) hS ?_
      simp only [Act.put, List.setIfInBounds_toArray, List.set_cons_zero, List.set_cons_succ]
      refine wpAnyH_take (i := 4) (oi := ⟨some 28, _, _, _, _, _⟩) (v := oV m2 k2) rfl (by kernel_rfl) (by kernel_rfl) (by kernel_rfl) (fun _ _ _ h => h) (yieldsIf_load_mid (by rfl) 26 (.tmp 27) rfl (b) (off + q * 17) rfl (oc m2 k2) _ (fun W h => h.1) Tryz.underlying26 rfl (by rw [oc_length, hl3]; exact info25)) hS ?_
      simp only [Act.put, List.setIfInBounds_toArray, List.set_cons_zero, List.set_cons_succ]
      refine wpAnyH_take (i := 5) (oi := ⟨some 29, _, _, _, _, _⟩) (v := oV m k) rfl (by kernel_rfl) (by kernel_rfl) (by kernel_rfl) (fun _ _ _ h => h) (yieldsIf_load_mid (by rfl) 26 (.tmp 4) rfl (go) (0) rfl (oc m k) _ (fun W h => range25 h.2) Tryz.underlying26 rfl (by rw [oc_length, hl2]; exact info25)) hS ?_
      simp only [Act.put, List.setIfInBounds_toArray, List.set_cons_zero, List.set_cons_succ]
      refine wpAnyH_ready (rs := [6]) (by kernel_rfl) (by simp) ?_
      refine AllReadyH.cons (o := _) rfl (fun K hK => ?_) (AllReadyH.nil)
      go_simp
      refine (HCM.out _).mono ?_
      rintro r w5 ⟨rfl, hb⟩
      have k5 := KO.out.below hb KO.out.lt
      have h55 : w5.rangeAt b (off + q * 17) (oc m2 k2) := fun j v hj => (hb.cell (p := ⟨b, off + q * 17 + j, none⟩) (Nat.lt_of_lt_of_le HBL4.out HSZ.out)).trans (h5 j v hj)
      have Bq := Lib.hid (B.out.trans (hb.mono B.out.size))
      clear B
      have B := Bq
      clear Bq hb
      refine hK.out _ _ (⟨h55, k5⟩) (fun hS => ?_)
      clear hK K
      (try simp only [Act.put, List.setIfInBounds_toArray, List.set_cons_zero, List.set_cons_succ])
      refine wpAnyH_take (i := 7) (oi := ⟨some 6, _, _, _, _, _⟩) (v := .int .i64 (cmpO m2 k2 m k)) rfl (by kernel_rfl) (by kernel_rfl) (by kernel_rfl) (fun _ _ _ h => h) (Or.inl ⟨by rfl, fun w hSw => by (try dsimp only at hSw); go_simp⟩) hS ?_
      simp only [Act.put, List.setIfInBounds_toArray, List.set_cons_zero, List.set_cons_succ]
      refine wpAnyH_done (by kernel_rfl) ?_ _
      clear hS h5 h4 HR4 HR5 HCM
      generalize cmpO m2 k2 m k = x at *
      by_cases hx0 : x = 0
      · have hxb : (x == 0) = true := by simp; exact hx0
        have HE : Hid (chkW L = 14) := Lib.hid (by rw [HCH.out, HST.out, if_pos hx0])
        clear hx0
        go_wp2_with fail
        go_ret
        rw [HE.out]
        exact ⟨rfl, B.out⟩
      have hxb : (x == 0) = false := by simp; exact hx0
      by_cases hx1 : 0 < x
      · have hxc : decide (0 < x) = true := by simp; exact hx1
        have HE : Hid (chkW L = 13) := Lib.hid (by rw [HCH.out, HST.out, if_neg hx0, if_pos hx1])
        clear hx0
        go_wp2_with fail
        go_ret
        rw [HE.out]
        exact ⟨rfl, B.out⟩
      have hxc : decide (0 < x) = false := by simp; omega
      have HE : Hid (chkW L = chkI L (p1 + 1)) := Lib.hid (by rw [HCH.out, HST.out, if_neg hx0, if_neg hx1])
      clear hx0
      go_wp2_with fail
      exact ⟨⟨p1 + 1, hlt, by go_num, HE.out, B.out⟩, by simp [intOf]; omega⟩
    · obtain rfl : p = N := by omega
      have HE : Hid (chkW L = 0) := Lib.hid (by rw [HCH.out, ← HN.out, chkI_end])
      go_wp2_with fail
      go_ret
      rw [HE.out]
      exact ⟨rfl, B.out⟩
end Go.Proofs.YtaiiihdckdjpoaaGreatDoor

/-!
  Layer 7: a row of OIDs that the call makes; slices.Clip of OIDs; what merge answers.
  Conditions: the OIDs' cells are in their kinds.
-/
namespace Go.Proofs.YtaiiihdckdjpoaaGreatDoor
open Go.RowKit

theorem wpList_appO {P : Program} {w : World} {ops : Array Oper} {rest : List Oper} {o : Oper} {a : Act} {Q : Exit → Act → World → Prop} (hgd : o.guard = none) (s x : Operand) (t1 t2 : TypeId)
    (ho : o.op = .call { callee := .builtin .append, args := #[s, x], argTypes := #[t1, t2] }) (u v : Value) (hs : a.eval s = u) (hx : a.eval x = v) {r : Value} {w1 : World}
    (hrun : (Builtin.append_ #[t1, t2] o.type #[u, v]).run P w = .ok r w1) (h : wpList P ops Q rest (a.put o.dst r) w1) : wpList P ops Q (o :: rest) a w := by
  refine wpList_plain hgd fun K hK => ?_
  have hK' := hK _ _ h
  unfold Oper.wp execOp
  simp only [ho, resolve, invoke, builtin, Sem.run_bind, Sem.run_pure, Result.andThen_ok, List.map_toArray, List.map_cons, List.map_nil, hs, hx, hrun]
  exact hK'
/-- The store of a whole OID, as one step of a region that draws. -/
theorem storeO_wp {o : Oper} {a : Act} {w : World} {K : Act → World → Prop} {Q : Exit → Act → World → Prop} (x v : Operand) (ho : o.op = .store 26 x v)
    {g n : Nat} {l : List Nat} {cs : List Value} (hx : a.eval x = .pointer (some ⟨g, 0, none⟩)) (hv : a.eval v = oV n l) (hg : Bk w g 26 cs) (hc : cs.length = 17) (hl : l.length = 16)
    (h : ∀ w', Bk w' g 26 (oc n l) → w.grownBy w' (some g) → w'.heap.size = w.heap.size → K (a.put o.dst undef) w') : Oper.wp Tryz.prog o a w K Q := by
  obtain ⟨W', h1, h2, h3, h4⟩ := store25 hg hc hl (n := n)
  have hK' := h W' h2 h3 h4
  unfold Oper.wp execOp
  simp only [ho, hx, hv, Instr.storeAt, Instr.sureAddr, Sem.run_bind, Sem.run_pure, Result.andThen_ok, h1]
  exact hK'
theorem own_keptO {w w' : World} {base : Nat} {e : TypeId} {size : Nat} {v : Value} {n : Nat} {xs : List Value} (h : w.ownsRow base e size v n xs) (hk : ∀ g, v.ownBlock = some g → w'.heap[g]? = w.heap[g]?) : w'.ownsRow base e size v n xs := by
  refine ⟨h.1, ?_⟩
  rcases h.2 with h1 | ⟨g, cap, cur, rfl, hg, hh, r⟩
  · exact .inl h1
  · exact .inr ⟨g, cap, cur, rfl, hg, (hk g rfl).trans hh, r⟩
theorem range_below {w W : World} {b o : Nat} {cs : List Value} (h : w.rangeAt b o cs) (hb : b < w.heap.size) (hB : Below w.heap.size w W) : W.rangeAt b o cs :=
  fun j v hj => (hB.cell (p := ⟨b, o + j, none⟩) hb).trans (h j v hj)
theorem addr_addO (b o j : Nat) : (⟨b, o, none⟩ : Addr).add j = ⟨b, o + j, none⟩ := by
  simp [Addr.add]
theorem infoO3 : (Tryz.prog.info? 26).map (fun i => (i.zero, i.size, i.bytes)) = some (some (oV 0 zeroL), 17, 68) := by kernel_rfl

/-- The walk's step at '[]OID{x}'. -/
theorem wpList_buildO {ops : Array Oper} {rest : List Oper} {o : Oper} {a : Act} {w : World} {Q : Exit → Act → World → Prop} (hg : o.guard = none) (t : Tmp) (ho : o.op = .buildSlice 22 1 #[(0, .tmp t)])
    {n : Nat} {l : List Nat} (hx : a.eval (.tmp t) = oV n l) (hl : l.length = 16)
    (h : wpList Tryz.prog ops Q rest (a.put o.dst (.slice (some ⟨w.heap.size, 0, none⟩) 1 1)) (w.alloc (.cells (oc n l).toArray 26))) : wpList Tryz.prog ops Q (o :: rest) a w := by
  obtain ⟨i, hi, hz0, hz1, hz2⟩ := info_parts infoO3
  refine wpList_buildSlice hg 22 26 1 _ ho (oc n l).toArray i _ Tryz.underlying22 hi hz0 (by rw [hz1]; decide) (by rw [hz1]; decide) ?_ h
  have := Great.fill_whole (s := 17) (by decide) [oV n l] ((Array.range (1 * 17)).map ((oV 0 zeroL).cells[· % (oV 0 zeroL).cells.size]!)) (by
    intro v hv
    obtain rfl := List.mem_singleton.1 hv
    rw [show (oV n l).cells = (oc n l).toArray from rfl, List.size_toArray, oc_length, hl]) (by simp)
  rw [hz1]
  rw [show (#[(0, Operand.tmp t)].map fun (i, x) => (i, a.eval x)).toList = ([oV n l].zipIdx 0).map fun x => (x.2, x.1) by simp [hx], this]
  simp [oV, Value.cells]

/-- The OIDs kept so far, in memory that the call has made. -/
structure PO (B : Nat) (K : List Od) (v : Value) (w : World) : Prop where
  own : w.ownsRow B 26 17 v K.length (ocs K)
  ok : OkL K
  bz : B ≤ w.heap.size
section
variable {B : Nat} {K : List Od} {v : Value} {w w' : World}
theorem PO.new (w : World) : PO w.heap.size [] (.slice none 0 0) w := ⟨World.ownsRow_nil w w.heap.size _ _, OkL.nil, Nat.le_refl _⟩
theorem PO.below (h : PO B K v w) (hb : Below w.heap.size w w') : PO B K v w' :=
  ⟨own_keptO h.own fun g hg => hb.block g (h.own.lt g hg).2, h.ok, Nat.le_trans h.bz hb.size⟩
theorem PO.grown (h : PO B K v w) {g : Nat} (hg : w.grownBy w' (some g)) (hne : v.ownBlock ≠ some g) : PO B K v w' :=
  ⟨own_keptO h.own fun k hk => hg.block k (h.own.lt k hk).2 (fun e => hne (by rw [hk, e])), h.ok, Nat.le_trans h.bz hg.size⟩
theorem PO.form (h : PO B K v w) : ∃ A c, v = .slice A K.length c ∧ K.length ≤ c ∧ c ≤ maxLen ∧ RdO w A K ∧ ((A = none ∧ c = 0 ∧ K = []) ∨ ∃ g, A = some ⟨g, 0, none⟩ ∧ B ≤ g ∧ g < w.heap.size) := by
  have ho := h.own
  rcases ho.2 with ⟨hv, h0⟩ | ⟨g, cap, cur, hv, hg, hh, hn, hm, _⟩
  · exact ⟨none, 0, by rw [hv, h0], by omega, by unfold maxLen; omega, by rw [List.eq_nil_of_length_eq_zero h0]; exact RdO.nil, .inl ⟨rfl, rfl, List.eq_nil_of_length_eq_zero h0⟩⟩
  · have hob : v.ownBlock = some g := by rw [hv]; rfl
    have hlt := (ho.lt g hob).2
    exact ⟨_, cap, hv, hn, hm, ⟨fun _ => ⟨g, 0, rfl, hlt, fun j u hu => by
      have := ho.cells hob j u hu
      rw [addr_addO] at this
      exact this⟩, h.ok⟩, .inr ⟨g, rfl, hg, hlt⟩⟩
/-- An OID is laid behind the others. -/
theorem PO.push (h : PO B K v w) (hl : K.length ≤ 1000000) {n : Nat} {l : List Nat} (ho : OkO n l) :
    ∃ v' w2, (Builtin.append_ #[22, 22] 22 #[v, .slice (some ⟨w.heap.size, 0, none⟩) 1 1]).run Tryz.prog (w.alloc (.cells (oc n l).toArray 26)) = .ok v' w2 ∧
      PO B (K ++ [(n, l)]) v' w2 ∧ Below B w w2 := by
  obtain ⟨i, hi, hz0, hz1, hz2⟩ := info_parts infoO3
  have hb := bel1 w (.cells (oc n l).toArray 26)
  have hown1 := h.own.alloc (.cells (oc n l).toArray 26)
  have h17 : (oc n l).length = 17 := oc_17 (o := (n, l)) ho
  have hcell : ∀ j y, (oc n l)[j]? = some y → (w.alloc (.cells (oc n l).toArray 26)).cell? ((⟨w.heap.size, 0, none⟩ : Addr).add j) = some y := by
    intro j y hy
    have := (Bk.new w 26 (oc n l)).cell j
    rw [addr_addO, Nat.zero_add, this]; exact hy
  have hones : ∀ u ∈ oc n l, u.oneCell' = true := fun u hu => Array.all_eq_true_iff_forall_mem.1 (oc_one n l) u (by simpa using hu)
  obtain ⟨g, cap, w2, hrun, h2, h3, h4, h5⟩ := run_append_lies (P := Tryz.prog) (w := w.alloc (.cells (oc n l).toArray 26)) 22 22 B 26 i _ 17 68 Tryz.underlying22 hi hz0 hz1 hz2 (by rw [show (oV 0 zeroL).cells = (oc 0 zeroL).toArray from rfl, List.size_toArray]; rfl) (by decide) v K.length (ocs K) hown1 ⟨w.heap.size, 0, none⟩ 1 1 (oc n l) (by rw [h17]) hcell hones (by decide) (by unfold maxLen; omega) (by omega) (by have := h.bz; simp; omega) (w.heap.size + 1) (by simp)
  refine ⟨_, w2, hrun, ⟨?_, h.ok.app (OkL.cons ho OkL.nil), Nat.le_trans (Nat.le_trans h.bz hb.size) h3.size⟩, ?_⟩
  · rw [List.length_append, ocs_app, show ocs [(n, l)] = oc n l by rw [ocs, ocs, List.append_nil]]; exact h2
  · exact ((Below.refl B w).alloc h.bz _).grown h3 (Nat.le_trans h.bz hb.size) (fun k hk => (h.own.lt k hk).1)
end

set_option maxRecDepth 100000 in
theorem clipO (A : Option Addr) (n c : Nat) (w : World) (h : n ≤ c) (_hc : c ≤ maxLen) (hA : A = none → n = 0 ∧ c = 0) : Calls Tryz.prog 48 #[.slice A n c] w fun e w' => e = .returned (.slice A n n) ∧ w = w' := by
  unfold maxLen at _hc
  have h1 : (n : Int) ≤ (c : Int) := by omega
  cases A with
  | none =>
    obtain ⟨rfl, rfl⟩ := hA rfl
    go_enter Tryz.func48, Tryz.ntmps48
    go_wp2_with fail
    go_ret
    exact ⟨rfl, rfl⟩
  | some q =>
    obtain ⟨b, o, r⟩ := q
    go_enter Tryz.func48, Tryz.ntmps48
    go_wp2_with fail
    go_ret
    exact ⟨rfl, rfl⟩

/-- An argument: OIDs in memory, as many as the header says. -/
structure Ino (w : World) (A : Option Addr) (L : List Od) (n c : Nat) : Prop where
  rd : RdO w A L
  ln : L.length = n
  lc : n ≤ c
  cm : c ≤ maxLen
/-- [1:] of OIDs. -/
theorem Ino.tail {w : World} {A : Option Addr} {o : Od} {L : List Od} {n c : Nat} (h : Ino w A (o :: L) (n + 1) c) :
    ∃ b off A', A = some ⟨b, off, none⟩ ∧ b < w.heap.size ∧ w.rangeAt b off (oc o.1 o.2) ∧ OkO o.1 o.2 ∧ (∀ W, (Instr.slice 22 (.slice A (n + 1) c) (some (.int .i64 1)) none none).run Tryz.prog W = .ok (.slice A' n (c - 1)) W) ∧
      (∀ W, (Instr.sliceAt 22 (.slice A (n + 1) c) (some (.int .i64 1)) none none).run Tryz.prog W = .ok (.slice A' n (c - 1)) W) ∧ Ino w A' L n (c - 1) := by
  obtain ⟨b, off, rfl, hb, hr, ho⟩ := h.rd.at_ (i := 0) (by simp)
  have hlc := h.lc
  have hcm := h.cm
  have hln := h.ln
  simp only [List.length_cons, Nat.add_right_cancel_iff] at hln
  have hsz : ∀ W, (sizeOf (Tryz.prog.elem 22)).run Tryz.prog W = .ok 17 W := fun W => by kernel_rfl
  have q : ∀ W : World, (Instr.slice 22 (.slice (some ⟨b, off, none⟩) (n + 1) c) (some (.int .i64 1)) none none).run Tryz.prog W = .ok (.slice (if c = 1 then some ⟨b, off, none⟩ else some ⟨b, off + 17, none⟩) n (c - 1)) W := fun W => by
    rw [run_slice_l (P := Tryz.prog) W 22 (some ⟨b, off, none⟩) (n + 1) c (by kernel_rfl) .i64 1 (by omega) (by omega), hsz W]
    simp only [Result.andThen, sliced, Int.toNat_one, Option.map_some, addr_addO, Nat.one_mul, Nat.add_sub_cancel]
  refine ⟨b, off, _, rfl, hb, by simpa using hr, ho, q, fun W => ?_, ⟨?_, hln, by omega, by unfold maxLen at *; omega⟩⟩
  · rw [← q W]; exact run_sliceAt_slice (P := Tryz.prog) W 22 _ _ _ _ (by kernel_rfl)
  · by_cases hc : c = 1
    · have : L = [] := List.eq_nil_of_length_eq_zero (by omega)
      rw [this]; exact RdO.nil
    · rw [if_neg hc]
      have := h.rd.drop_ 1
      simpa using this

/-- What merge answers: n bounds how many steps it takes. -/
def mrg (kf : Bool → Bool → Bool) : Nat → List Od → List Od → List Od
  | 0, _, _ => []
  | _ + 1, [], [] => []
  | n + 1, x :: a, [] => (if kf true false then [x] else []) ++ mrg kf n a []
  | n + 1, [], y :: b => (if kf false true then [y] else []) ++ mrg kf n [] b
  | n + 1, x :: a, y :: b =>
    if cmpO x.1 x.2 y.1 y.2 < 0 then (if kf true false then [x] else []) ++ mrg kf n a (y :: b)
    else if cmpO x.1 x.2 y.1 y.2 = 0 then (if kf true true then [y] else []) ++ mrg kf n a b
    else (if kf false true then [y] else []) ++ mrg kf n (x :: a) b
theorem mrg_nil (kf : Bool → Bool → Bool) : ∀ n, mrg kf n [] [] = []
  | 0 => rfl
  | _ + 1 => rfl
end Go.Proofs.YtaiiihdckdjpoaaGreatDoor
