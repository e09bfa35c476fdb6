/-
  Layer 4: the reference's Depth and Same; the statements' helpers exact and bounded.
  Conditions: none beyond that values read as elements.
-/
import Derived.Test.YtgdjgahmnnjeeaaElC
import Derived.Deep.RegionHeld3
import Derived.Deep.RegionWith
namespace Go.Proofs.Ytgdjgahmnnjeeaa
open Go.RowKit

/-- The cells of a block of five. -/
theorem Bk.five {w : World} {g : Nat} {t : TypeId} {a b c d e : Value} (h : Bk w g t [a, b, c, d, e]) :
    w.cell? ⟨g, 0, none⟩ = some a ∧ w.cell? ⟨g, 1, none⟩ = some b ∧ w.cell? ⟨g, 2, none⟩ = some c ∧ w.cell? ⟨g, 3, none⟩ = some d ∧ w.cell? ⟨g, 4, none⟩ = some e ∧ g < w.heap.size :=
  ⟨h.cell 0, h.cell 1, h.cell 2, h.cell 3, h.cell 4, h.lt⟩

set_option maxHeartbeats 1000000 in
set_option maxRecDepth 100000 in
theorem rdep_any {x : Bool} {S : Nat → Prop} (e : El) : ∀ (v : Value) (w : World), depE e ≤ 9000 → RdE x S w e v →
    Calls Try.prog 20 #[v] w fun e' w' => e' = .returned (.int .i64 (depE e : Nat)) ∧ Below w.heap.size w w' := by
  refine El.ind (P := fun e => ∀ (v : Value) (w : World), depE e ≤ 9000 → RdE x S w e v →
    Calls Try.prog 20 #[v] w fun e' w' => e' = .returned (.int .i64 (depE e : Nat)) ∧ Below w.heap.size w w') ?_ e
  clear e
  intro c n k bs ss ih v w hm h
  obtain ⟨h1, h2, h3, A, ca, B, cb, rfl, h5, h6, h7, h8, h9, h10, h11⟩ := h
  have hlen : ss.length ≤ 9223372036854775807 := by unfold maxLen at h9; omega
  rw [depE] at hm ⊢
  go_enter Try.func20, Try.ntmps20
  go_wp2_with fail
  go_loopw [3, 4] (fun a i wr => ∃ (p q : Nat), p ≤ ss.length ∧ q ≤ 9000 ∧ a = .int .i64 (q : Int) ∧ i = .int .i64 (p : Int) ∧ depS (ss.take p) = q ∧ Bk wr w.heap.size 29 [.int .u8 (c : Int), .bool k, .int .u32 (n : Int), .slice A bs.length ca, .slice B ss.length cb] ∧ Below w.heap.size w wr) (fun _ i _ => ss.length - (intOf i).toNat)
  case atStart =>
    exact ⟨0, 0, Nat.zero_le _, by omega, rfl, rfl, rfl, Bk.new w 29 [_, _, _, _, _], (Below.refl _ _).alloc (Nat.le_refl _) _⟩
  case round =>
    obtain ⟨p, q, hp, hq, rfl, rfl, hM, hbk, hbel⟩ := hrel
    obtain ⟨e0, e1, e2, e3, e4, hsz⟩ := hbk.five
    have H11 := Lib.hid (h11.stay hbel)
    have HIH := Lib.hid ih
    have HM := Lib.hid hM
    have HK := Lib.hid hbk
    have HB := Lib.hid hbel
    clear ih hM hbk hbel h11 h5 h6 h7 h8 h9 h10
    by_cases hlt : p < ss.length
    · obtain ⟨b, off, c', n', k', u, v, rfl, hb, hS, f0, f1, f2, f3, f4, hE⟩ := H11.out.five hlt
      have hd := depE_mem (List.getElem_mem hlt)
      have HN := Lib.hid (depS_take hlt)
      have HC := Lib.hid (HIH.out _ (List.getElem_mem hlt) _ wr (by omega) hE)
      obtain ⟨r, hr⟩ : ∃ r, depE ss[p] = r := ⟨_, rfl⟩
      rw [hr] at hd
      have HR := Lib.hid hr
      clear hE hS hr
      go_wp2_with fail
      refine HC.out.mono ?_
      rintro e' w1 ⟨rfl, hb1⟩
      have HB1 := Lib.hid hb1
      clear hb1
      rw [HR.out]
      go_wp2_with fail
      exact ⟨⟨p + 1, max q r, by omega, by omega, by congr 1; split <;> omega, by go_num, by rw [HN.out, HM.out, HR.out], HK.out.below HB1.out hsz, HB.out.trans (HB1.out.mono HB.out.size)⟩, by simp [intOf]; omega⟩
    · have HQ := Lib.hid (show depS ss = q from by rw [← HM.out, List.take_of_length_le (by omega)])
      go_wp2_with fail
      go_ret
      exact ⟨by rw [HQ.out]; rfl, HB.out⟩

set_option maxHeartbeats 1000000 in
set_option maxRecDepth 100000 in
theorem exact_any {S : Nat → Prop} (e : El) : ∀ (v : Value) (w : World), RdE true S w e v →
    Calls Try.prog 30 #[v] w fun e' w' => e' = .returned (.bool true) ∧ Below w.heap.size w w' := by
  refine El.ind (P := fun e => ∀ (v : Value) (w : World), RdE true S w e v →
    Calls Try.prog 30 #[v] w fun e' w' => e' = .returned (.bool true) ∧ Below w.heap.size w w') ?_ e
  clear e
  intro c n k bs ss ih v w h
  obtain ⟨h1, h2, h3, A, ca, B, cb, rfl, h5, h6, h7, h8, h9, h10, h11⟩ := h
  have hlen : ss.length ≤ 9223372036854775807 := by unfold maxLen at h9; omega
  obtain ⟨rfl, rfl⟩ := h10 rfl
  go_enter Try.func30, Try.ntmps30
  go_wp2_with fail
  go_loopw [3] (fun i wr => ∃ (p : Nat), p ≤ ss.length ∧ i = .int .i64 (p : Int) ∧ Bk wr w.heap.size 29 [.int .u8 (c : Int), .bool k, .int .u32 (n : Int), .slice A bs.length bs.length, .slice B ss.length ss.length] ∧ Below w.heap.size w wr) (fun i _ => ss.length - (intOf i).toNat)
  case atStart =>
    exact ⟨0, Nat.zero_le _, rfl, Bk.new w 29 [_, _, _, _, _], (Below.refl _ _).alloc (Nat.le_refl _) _⟩
  case round =>
    obtain ⟨p, hp, rfl, hbk, hbel⟩ := hrel
    obtain ⟨e0, e1, e2, e3, e4, hsz⟩ := hbk.five
    have H11 := Lib.hid (h11.stay hbel)
    have HIH := Lib.hid ih
    have HK := Lib.hid hbk
    have HB := Lib.hid hbel
    clear ih hbk hbel h11 h5 h6 h7 h8 h9 h10
    by_cases hlt : p < ss.length
    · obtain ⟨b, off, c', n', k', u, v, rfl, hb, hS, f0, f1, f2, f3, f4, hE⟩ := H11.out.five hlt
      have HC := Lib.hid (HIH.out _ (List.getElem_mem hlt) _ wr hE)
      clear hE hS
      go_wp2_with fail
      refine HC.out.mono ?_
      rintro e' w1 ⟨rfl, hb1⟩
      have HB1 := Lib.hid hb1
      clear hb1
      go_wp2_with fail
      exact ⟨⟨p + 1, by omega, by go_num, HK.out.below HB1.out hsz, HB.out.trans (HB1.out.mono HB.out.size)⟩, by simp [intOf]; omega⟩
    · go_wp2_with fail
      go_ret
      exact ⟨rfl, HB.out⟩

mutual
/-- Not too large for a statement. -/
def bndE : El → Bool
  | .mk _ _ _ bs ss => decide (1 + cntS ss ≤ 60) && (decide (bs.length ≤ 200) && bndS ss)
def bndS : List El → Bool
  | [] => true
  | e :: ss => bndE e && bndS ss
end
theorem bndS_drop {ss : List El} {i : Nat} (hi : i < ss.length) : bndS (ss.drop i) = (bndE ss[i] && bndS (ss.drop (i + 1))) := by
  rw [List.drop_eq_getElem_cons hi, bndS]

set_option maxHeartbeats 1000000 in
set_option maxRecDepth 100000 in
theorem bounded_any {x : Bool} {S : Nat → Prop} (e : El) : ∀ (v : Value) (w : World), RdE x S w e v →
    Calls Try.prog 10 #[v] w fun e' w' => e' = .returned (.int .i64 ((if bndE e then 1 else 0 : Nat) : Int)) ∧ Below w.heap.size w w' := by
  refine El.ind (P := fun e => ∀ (v : Value) (w : World), RdE x S w e v →
    Calls Try.prog 10 #[v] w fun e' w' => e' = .returned (.int .i64 ((if bndE e then 1 else 0 : Nat) : Int)) ∧ Below w.heap.size w w') ?_ e
  clear e
  intro c n k bs ss ih v w h
  have hE := h
  obtain ⟨h1, h2, h3, A, ca, B, cb, rfl, h5, h6, h7, h8, h9, h10, h11⟩ := h
  have hlen : ss.length ≤ 9223372036854775807 := by unfold maxLen at h9; omega
  have hba : Below w.heap.size w (w.alloc (.cells #[.int .u8 (c : Int), .bool k, .int .u32 (n : Int), .slice A bs.length ca, .slice B ss.length cb] 29)) := (Below.refl _ _).alloc (Nat.le_refl _) _
  have HM := Lib.hid (many_any (.mk c n k bs ss) _ 60 _ (by omega) (hE.stay hba))
  have HKA := Lib.hid (Bk.new w 29 [.int .u8 (c : Int), .bool k, .int .u32 (n : Int), .slice A bs.length ca, .slice B ss.length cb])
  have HBA := Lib.hid hba
  clear hba hE
  obtain ⟨q, hq⟩ : ∃ q, manE (.mk c n k bs ss) 60 = q := ⟨_, rfl⟩
  have hq2 : q = min (1 + cntS ss) 61 := by rw [← hq, manE_eq, cntE]
  have HQ := Lib.hid hq
  clear hq
  obtain ⟨z, hz⟩ : ∃ z, (if bndE (.mk c n k bs ss) then 1 else 0) = z := ⟨_, rfl⟩
  rw [hz]
  have HZ := Lib.hid hz
  clear hz
  by_cases hq60 : 60 < q
  · have hz0 : 0 = z := by rw [← HZ.out, bndE, decide_eq_false (by omega)]; rfl
    subst hz0
    go_enter Try.func10, Try.ntmps10
    go_wp2_with fail
    refine HM.out.mono ?_
    rintro e' w1 ⟨rfl, hb1⟩
    have HB := Lib.hid (HBA.out.trans (hb1.mono HBA.out.size))
    clear hb1
    rw [HQ.out]
    go_wp2_with fail
    go_ret
    exact ⟨rfl, HB.out⟩
  have hc60 : 1 + cntS ss ≤ 60 := by omega
  by_cases hb200 : 200 < bs.length
  · have hz0 : 0 = z := by rw [← HZ.out, bndE, decide_eq_false (p := bs.length ≤ 200) (by omega), Bool.false_and, Bool.and_false]; rfl
    subst hz0
    go_enter Try.func10, Try.ntmps10
    go_wp2_with fail
    refine HM.out.mono ?_
    rintro e' w1 ⟨rfl, hb1⟩
    have hk1 := HKA.out.below hb1 (by simp)
    obtain ⟨e0, e1, e2, e3, e4, hsz⟩ := hk1.five
    have HB := Lib.hid (HBA.out.trans (hb1.mono HBA.out.size))
    clear hb1 hk1
    rw [HQ.out]
    go_wp2_with fail
    go_ret
    exact ⟨rfl, HB.out⟩
  have hz1 : (if bndS ss then 1 else 0) = z := by rw [← HZ.out, bndE, decide_eq_true hc60, decide_eq_true (p := bs.length ≤ 200) (by omega), Bool.true_and, Bool.true_and]
  have HZ1 := Lib.hid hz1
  clear hz1 HZ hq2 hc60
  go_enter Try.func10, Try.ntmps10
  go_wp2_with fail
  refine HM.out.mono ?_
  rintro e' w1 ⟨rfl, hb1⟩
  have hk1 := HKA.out.below hb1 (by simp)
  obtain ⟨e0, e1, e2, e3, e4, hsz⟩ := hk1.five
  have HB := Lib.hid (HBA.out.trans (hb1.mono HBA.out.size))
  have HK1 := Lib.hid hk1
  clear hb1 hk1 HM
  rw [HQ.out]
  go_wp2_with fail
  go_loopw [3] (fun i wr => ∃ (p : Nat), p ≤ ss.length ∧ i = .int .i64 (p : Int) ∧ (if bndS (ss.drop p) then 1 else 0) = z ∧ Bk wr w.heap.size 29 [.int .u8 (c : Int), .bool k, .int .u32 (n : Int), .slice A bs.length ca, .slice B ss.length cb] ∧ Below w.heap.size w wr) (fun i _ => ss.length - (intOf i).toNat)
  case atStart =>
    exact ⟨0, Nat.zero_le _, rfl, by rw [List.drop_zero]; exact HZ1.out, HK1.out, HB.out⟩
  case round =>
    clear e0 e1 e2 e3 e4 hsz
    obtain ⟨p, hp, rfl, hM, hbk, hbel⟩ := hrel
    obtain ⟨e0, e1, e2, e3, e4, hsz⟩ := hbk.five
    have H11 := Lib.hid (h11.stay hbel)
    have HIH := Lib.hid ih
    have HN := Lib.hid hM
    have HK := Lib.hid hbk
    have HBl := Lib.hid hbel
    clear ih hbk hbel h11 h5 h6 h7 h8 h9 h10 hM HB HK1 HKA HBA HZ1
    by_cases hlt : p < ss.length
    · obtain ⟨b, off, c', n', k', u, v, rfl, hb, hS, f0, f1, f2, f3, f4, hE⟩ := H11.out.five hlt
      have HC := Lib.hid (HIH.out _ (List.getElem_mem hlt) _ wr hE)
      have HN2 := Lib.hid (HN.out.symm.trans (by rw [bndS_drop hlt]))
      clear hE hS
      cases hx : bndE ss[p] with
      | true =>
        have HX := Lib.hid hx
        clear hx
        have e9 : ((1 : Int) == 0) = false := rfl
        go_wp2_with fail
        refine HC.out.mono ?_
        rintro e' w2 ⟨rfl, hb1⟩
        have HB1 := Lib.hid hb1
        clear hb1
        rw [HX.out, if_pos rfl]
        go_wp2_with fail
        exact ⟨⟨p + 1, by omega, by go_num, by rw [HN2.out, HX.out, Bool.true_and], HK.out.below HB1.out hsz, HBl.out.trans (HB1.out.mono HBl.out.size)⟩, by simp [intOf]; omega⟩
      | false =>
        have HX := Lib.hid hx
        clear hx
        go_wp2_with fail
        refine HC.out.mono ?_
        rintro e' w2 ⟨rfl, hb1⟩
        have HB1 := Lib.hid hb1
        clear hb1
        rw [HX.out, if_neg (by decide)]
        go_wp2_with fail
        go_ret
        exact ⟨by rw [HN2.out, HX.out]; rfl, HBl.out.trans (HB1.out.mono HBl.out.size)⟩
    · go_wp2_with fail
      go_ret
      exact ⟨by rw [← HN.out, List.drop_eq_nil_of_le (by omega)]; rfl, HBl.out⟩
end Go.Proofs.Ytgdjgahmnnjeeaa
