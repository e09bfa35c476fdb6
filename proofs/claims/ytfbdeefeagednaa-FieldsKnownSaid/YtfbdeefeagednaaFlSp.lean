/-
  Layer 12: the program's spend: what an element takes off the items that are left.
  Conditions: there are enough items and levels.
-/
import Derived.Test.YtfbdeefeagednaaFlO
import Derived.StillTailTactics
namespace Go.Proofs.Ytfbdeefeagednaa.Fl
open Go.RowKit

theorem wrap_small (n : Nat) (h : n ≤ 65536) : wrap64 (n : Int) = (n : Int) := by unfold wrap64; omega
theorem wrap_dif (I d J : Nat) (hI : I ≤ 2147483647) (hd : d ≤ I) (h : I - d = J) : wrap64 ((I : Int) - (d : Int)) = (J : Int) := by unfold wrap64; omega
mutual
/-- The elements and bytes of an element. -/
def itE : El → Nat
  | .mk _ _ _ bs ss => 1 + bs.length + itS ss
def itS : List El → Nat
  | [] => 0
  | e :: ss => itE e + itS ss
end
theorem itS_take {ss : List El} : ∀ {i : Nat}, (hi : i < ss.length) → itS (ss.take (i + 1)) = itS (ss.take i) + itE ss[i] := by
  induction ss with
  | nil => intro i hi; simp at hi
  | cons e ss ih =>
    intro i hi
    cases i with
    | zero => simp [itS]
    | succ i =>
      have := ih (i := i) (by simpa using hi)
      simp only [List.take_succ_cons, itS, List.getElem_cons_succ] at this ⊢
      omega
theorem itS_le {ss : List El} : ∀ (i : Nat), itS (ss.take i) ≤ itS ss := by
  induction ss with
  | nil => intro i; simp
  | cons e ss ih =>
    intro i
    cases i with
    | zero => simp [itS]
    | succ i => have := ih i; simp only [List.take_succ_cons, itS]; omega
theorem grown_rdS {x : Bool} {S : Nat → Prop} {w w' : World} {A : Option Addr} {ss : List El} {g : Nat} (h : RdS x S w A ss) (hS : ∀ i, S i → i ≠ g) (hg : w.grownBy w' (some g)) : RdS x S w' A ss :=
  RdS.keep hg.size (fun k hk hl => hg.block k hl (fun e => by injection e with e; exact hS k hk e)) (fun _ h _ => h) _ _ h
set_option linter.unusedSimpArgs false in
set_option maxHeartbeats 2000000 in
set_option maxRecDepth 100000 in
theorem spend_any {x : Bool} {S : Nat → Prop} (g : Nat) (hS : ∀ i, S i → i ≠ g) (e : El) : ∀ (v : Value) (lv I : Nat) (w : World), RdE x S w e v → depE e ≤ lv → lv ≤ 65536 → itE e ≤ I → I ≤ 2147483647 → Bk w g 3 [.int .i64 (I : Int)] →
    Calls Try.prog 43 #[v, .int .i64 (lv : Int), .pointer (some ⟨g, 0, none⟩)] w fun e' w' => e' = .returned (.int .i64 0) ∧ Bk w' g 3 [.int .i64 ((I - itE e : Nat) : Int)] ∧ w.grownBy w' (some g) := by
  refine El.ind (P := fun e => ∀ (v : Value) (lv I : Nat) (w : World), RdE x S w e v → depE e ≤ lv → lv ≤ 65536 → itE e ≤ I → I ≤ 2147483647 → Bk w g 3 [.int .i64 (I : Int)] →
    Calls Try.prog 43 #[v, .int .i64 (lv : Int), .pointer (some ⟨g, 0, none⟩)] w fun e' w' => e' = .returned (.int .i64 0) ∧ Bk w' g 3 [.int .i64 ((I - itE e : Nat) : Int)] ∧ w.grownBy w' (some g)) ?_ e
  clear e
  intro c n k bs ss ih v lv I w h hd hl hi hI hk
  obtain ⟨h1, h2, h3, A, ca, B, cb, rfl, h5, h6, h7, h8, h9, h10, h11⟩ := h
  rw [depE] at hd
  rw [itE] at hi ⊢
  obtain ⟨bl, hbl⟩ : ∃ bl, bs.length = bl := ⟨_, rfl⟩
  obtain ⟨m, hmm⟩ : ∃ m, ss.length = m := ⟨_, rfl⟩
  rw [hbl] at hi ⊢
  rw [hmm] at h8 ⊢
  have hmx : m ≤ 9223372036854775807 := by unfold maxLen at h9; omega
  obtain ⟨G, hG⟩ : ∃ G, w.heap.size = G := ⟨_, rfl⟩
  obtain ⟨w1, hw1⟩ : ∃ v, w.alloc (.cells #[.int .u8 (c : Int), .bool k, .int .u32 (n : Int), .slice A bl ca, .slice B m cb] 29) = v := ⟨_, rfl⟩
  have k1 : Bk w1 G 29 [.int .u8 (c : Int), .bool k, .int .u32 (n : Int), .slice A bl ca, .slice B m cb] := by rw [← hw1, ← hG]; exact Bk.new w _ [_, _, _, _, _]
  have hg1 : w.grownBy w1 (some g) := by rw [← hw1]; exact World.grownBy_alloc w _ _
  have kg : Bk w1 g 3 [.int .i64 (I : Int)] := by rw [← hw1]; exact hk.alloc _
  have hgG : g ≠ G := by have := hk.lt; omega
  obtain ⟨d, hdd⟩ : ∃ d, 1 + bl = d := ⟨_, rfl⟩
  obtain ⟨J, hJ⟩ : ∃ J, I - d = J := ⟨_, rfl⟩
  have t0 : ((lv : Int) == 0) = false := by simp; omega
  have t1 : decide ((bl : Int) ≥ (I : Int)) = false := by simp; omega
  have t2 : (1 : Int) + (bl : Int) = (d : Int) := by omega
  have t3 : (I : Int) - (d : Int) = (J : Int) := by omega
  have hd62 : d < 4294967296 := by omega
  have HRS := Lib.hid h11
  have HW := Lib.hid (And.intro hw1 hG)
  have K1 := Lib.hid k1
  have KG := Lib.hid kg
  have G1 := Lib.hid hg1
  have HGG := Lib.hid hgG
  have HN := Lib.hid (And.intro hd (And.intro hl (And.intro hi (And.intro hI (And.intro hdd (And.intro hJ hmm))))))
  have HIH := Lib.hid ih
  have HSS := Lib.hid hS
  obtain ⟨e0, e1, e2, e3, e4, ez⟩ := K1.out.five
  have q0 : w1.cell? ⟨g, 0, none⟩ = some (.int .i64 (I : Int)) := kg.cell 0
  have q1 : w1.frozen? ⟨g, 0, none⟩ = false := kg.free 0
  clear ih h1 h2 h3 h5 h6 h7 h8 h9 h10 h11 hd hl hi hI hdd hJ hmm hbl hw1 hG k1 hg1 kg hgG hk hS
  go_enter Try.func43, Try.ntmps43
  go_upto_region 1 with fail
  rw [HW.out.1, HW.out.2]
  go_upto_region 3 with fail
  go_region
  go_upto_region 5 with fail
  obtain ⟨wa, hwa⟩ : ∃ v, w1.drew = v := ⟨_, rfl⟩
  rw [hwa]
  have Ka : Hid (Bk wa G 29 [.int .u8 (c : Int), .bool k, .int .u32 (n : Int), .slice A bl ca, .slice B m cb]) := Lib.hid (by rw [← hwa]; exact K1.out)
  have KGa : Hid (Bk wa g 3 [.int .i64 (I : Int)]) := Lib.hid (by rw [← hwa]; exact KG.out)
  have Ga : Hid (w.grownBy wa (some g)) := Lib.hid (by rw [← hwa]; exact G1.out.trans (⟨rfl, rfl, rfl, Nat.le_refl _, fun _ _ _ => rfl⟩ : w1.grownBy w1.drew (some g)))
  clear e0 e1 e2 e3 e4 ez q0 q1 hwa K1 KG G1 t1
  obtain ⟨e0, e1, e2, e3, e4, ez⟩ := Ka.out.five
  have q0 : wa.cell? ⟨g, 0, none⟩ = some (.int .i64 (I : Int)) := KGa.out.cell 0
  have q1 : wa.frozen? ⟨g, 0, none⟩ = false := KGa.out.free 0
  refine wp_region_still_tail 9 (by kernel_rfl) (by kernel_rfl) ?_
  simp only [List.take_succ_cons, List.take_zero, List.drop_succ_cons, List.drop_zero]
  repeat still_step
  refine wpStill_nil ?_
  change wpList _ _ _ _ _ wa.drew
  obtain ⟨w2, hw2⟩ : ∃ v, wa.drew = v := ⟨_, rfl⟩
  rw [hw2]
  have K2 : Hid (Bk w2 G 29 [.int .u8 (c : Int), .bool k, .int .u32 (n : Int), .slice A bl ca, .slice B m cb]) := Lib.hid (by rw [← hw2]; exact Ka.out)
  have KG2 : Hid (Bk w2 g 3 [.int .i64 (I : Int)]) := Lib.hid (by rw [← hw2]; exact KGa.out)
  have G2 : Hid (w.grownBy w2 (some g)) := Lib.hid (by rw [← hw2]; exact Ga.out.trans (⟨rfl, rfl, rfl, Nat.le_refl _, fun _ _ _ => rfl⟩ : wa.grownBy wa.drew (some g)))
  clear e0 e1 e2 e3 e4 ez q0 q1 hw2 Ka KGa Ga
  have q0 : w2.cell? ⟨g, 0, none⟩ = some (.int .i64 (I : Int)) := KG2.out.cell 0
  have q1 : w2.frozen? ⟨g, 0, none⟩ = false := KG2.out.free 0
  go_upto_region 6 with fail
  clear q0 q1
  obtain ⟨w3, hw3⟩ : ∃ v, w2.setCell ⟨g, 0, none⟩ (.int .i64 (J : Int)) = v := ⟨_, rfl⟩
  have K3 : Hid (Bk w3 G 29 [.int .u8 (c : Int), .bool k, .int .u32 (n : Int), .slice A bl ca, .slice B m cb]) := Lib.hid (by rw [← hw3]; exact K2.out.far (p := ⟨g, 0, none⟩) (fun e => HGG.out e.symm) _)
  have KG3 : Hid (Bk w3 g 3 [.int .i64 (J : Int)]) := Lib.hid (by rw [← hw3]; exact KG2.out.store 0 _)
  have G3 : Hid (w.grownBy w3 (some g)) := Lib.hid (by
    refine G2.out.trans ?_
    rw [← hw3]
    exact ⟨rfl, rfl, rfl, by rw [World.size_setCell]; exact Nat.le_refl _, fun i _ hne => Below.heap_setCell _ _ _ _ (fun e => hne (by rw [e]))⟩)
  rw [wrap_dif I d J HN.out.2.2.2.1 (by have := HN.out.2.2.1; have := HN.out.2.2.2.2.1; omega) HN.out.2.2.2.2.2.1, hw3]
  clear hw3 K2 KG2 G2 t0 t2 t3
  obtain ⟨e0, e1, e2, e3, e4, ez⟩ := K3.out.five
  go_wp2_with fail
  clear e0 e1 e2 e3 e4 ez
  go_loopw [8, 9, 31] (fun _ _ i wr => ∃ p : Nat, i = .int .i64 (p : Int) ∧ p ≤ m ∧ Bk wr g 3 [.int .i64 ((J - itS (ss.take p) : Nat) : Int)] ∧ w.grownBy wr (some g)) (fun _ _ i _ => m - (intOf i).toNat)
  case atStart => exact ⟨0, rfl, Nat.zero_le _, by have := KG3.out; simpa [itS] using this, G3.out⟩
  case round =>
    obtain ⟨p, rfl, hp, hkg, hgr⟩ := hrel
    have KG := Lib.hid hkg
    have GR := Lib.hid hgr
    have HP := Lib.hid hp
    have RS := Lib.hid (grown_rdS HRS.out HSS.out hgr)
    clear hkg hgr hp KG3 G3 K3
    by_cases hlt : p < m
    · have hlt' : p < ss.length := by have := HN.out.2.2.2.2.2.2; omega
      obtain ⟨b, off, c', n', k', A1, l1, q1, A2, l2, q2, rfl, hb, _, f0, f1, f2, f3, f4, hE⟩ := RS.out.fives hlt'
      have hit := itS_take hlt'
      have hle := itS_le (ss := ss) (p + 1)
      have hdm := depE_mem (List.getElem_mem hlt')
      have hmt := List.getElem_mem hlt'
      obtain ⟨E, hEq⟩ : ∃ E, ss[p] = E := ⟨_, rfl⟩
      rw [hEq] at hE hit hdm hmt
      obtain ⟨I2, hI2⟩ : ∃ I2, J - itS (ss.take p) = I2 := ⟨_, rfl⟩
      rw [hI2] at KG
      obtain ⟨l9, hl9⟩ : ∃ l9, lv - 1 = l9 := ⟨_, rfl⟩
      have hl9i : (lv : Int) - 1 = (l9 : Int) := by have := HN.out; omega
      have hl9b : l9 ≤ 65536 := by have := HN.out.2.1; omega
      obtain ⟨w4, hw4⟩ : ∃ v, wr.alloc (.cells #[.int .u8 (c' : Int), .bool k', .int .u32 (n' : Int), .slice A1 l1 q1, .slice A2 l2 q2] 29) = v := ⟨_, rfl⟩
      have k4 : Bk w4 wr.heap.size 29 [.int .u8 (c' : Int), .bool k', .int .u32 (n' : Int), .slice A1 l1 q1, .slice A2 l2 q2] := by rw [← hw4]; exact Bk.new wr _ [_, _, _, _, _]
      have hb4 : Below wr.heap.size wr w4 := by rw [← hw4]; exact bel1 _ _
      have HC := Lib.hid (HIH.out E hmt _ l9 I2 w4 (hE.stay hb4) (by have := HN.out; omega) (by have := HN.out; omega) (by have := HN.out; omega) (by have := HN.out; omega) (KG.out.below hb4 KG.out.lt))
      have G4 : Hid (w.grownBy w4 (some g)) := Lib.hid (by rw [← hw4]; exact GR.out.trans (World.grownBy_alloc wr _ _))
      have HIT : Hid (I2 - itE E = J - itS (ss.take (p + 1))) := Lib.hid (by omega)
      have HW4 := Lib.hid hw4
      have K4 := Lib.hid k4
      clear hE hit hle hdm hmt hEq hI2 hl9 hw4 k4 hb4 hlt'
      go_upto_region 9 with fail
      rw [HW4.out]
      clear f0 f1 f2 f3 f4
      obtain ⟨G5, hG5⟩ : ∃ G, wr.heap.size = G := ⟨_, rfl⟩
      rw [hG5] at K4 ⊢
      obtain ⟨e0, e1, e2, e3, e4, ez⟩ := K4.out.five
      go_wp2_with fail
      refine HC.out.mono ?_
      rintro e' w5 ⟨rfl, hk5, hg5⟩
      have HX := Lib.hid (And.intro hk5 (G4.out.trans hg5))
      clear hk5 hg5 e0 e1 e2 e3 e4 ez HC
      go_wp2_with fail
      exact ⟨⟨p + 1, by go_num, hlt, by rw [← HIT.out]; exact HX.out.1, HX.out.2⟩, by simp [intOf]; omega⟩
    · have hpe : p = m := by have := HP.out; omega
      subst hpe
      have hkk := KG.out
      rw [List.take_of_length_le (by have := HN.out.2.2.2.2.2.2; omega)] at hkk
      have HX : Hid (Bk wr g 3 [.int .i64 ((I - (1 + bl + itS ss) : Nat) : Int)]) := Lib.hid (by rw [show I - (1 + bl + itS ss) = J - itS ss by have := HN.out; omega]; exact hkk)
      clear hkk
      go_wp2_with fail
      go_ret
      exact ⟨rfl, HX.out, GR.out⟩
end Go.Proofs.Ytfbdeefeagednaa.Fl
