/-
  Layer 12: the law's few: whether an element is small, and what is left of a number.
  Conditions: none beyond that values read as what they are.
-/
import Derived.Test.YtfbdeefeagednaaFlSp
namespace Go.Proofs.Ytfbdeefeagednaa.Fl
open Go.RowKit

mutual
/-- Whether an element is small; what is left. -/
def fewE : El → Int → Nat → Bool × Int
  | .mk _ _ _ bs ss, L, lv => if L - 1 < 0 ∨ 20 < lv ∨ 200 < bs.length ∨ 60 < ss.length then (false, L - 1) else fewS ss (L - 1) (lv + 1)
def fewS : List El → Int → Nat → Bool × Int
  | [], L, _ => (true, L)
  | e :: t, L, lv => if (fewE e L lv).1 then fewS t (fewE e L lv).2 lv else (false, (fewE e L lv).2)
end
mutual
theorem fewE_bd : ∀ (e : El) (L : Int) (lv : Nat), 0 ≤ L → -1 ≤ (fewE e L lv).2 ∧ (fewE e L lv).2 ≤ L ∧ ((fewE e L lv).1 = true → 0 ≤ (fewE e L lv).2)
  | .mk _ _ _ bs ss, L, lv, h => by
    rw [fewE]
    split
    · dsimp only; exact ⟨by omega, by omega, fun h => (by cases h)⟩
    · have := fewS_bd ss (L - 1) (lv + 1) (by omega)
      exact ⟨this.1, by omega, this.2.2⟩
theorem fewS_bd : ∀ (ss : List El) (L : Int) (lv : Nat), 0 ≤ L → -1 ≤ (fewS ss L lv).2 ∧ (fewS ss L lv).2 ≤ L ∧ ((fewS ss L lv).1 = true → 0 ≤ (fewS ss L lv).2)
  | [], L, lv, h => by rw [fewS]; dsimp only; exact ⟨by omega, by omega, fun _ => h⟩
  | e :: t, L, lv, h => by
    have h1 := fewE_bd e L lv h
    rw [fewS]
    split
    · rename_i ht
      have := fewS_bd t (fewE e L lv).2 lv (h1.2.2 ht)
      exact ⟨this.1, by omega, this.2.2⟩
    · dsimp only; exact ⟨h1.1, h1.2.1, fun h => (by cases h)⟩
end
set_option linter.unusedSimpArgs false in
set_option maxHeartbeats 4000000 in
set_option maxRecDepth 100000 in
theorem few_any {x : Bool} {S : Nat → Prop} (g : Nat) (hS : ∀ i, S i → i ≠ g) (e : El) : ∀ (v : Value) (lv : Nat) (L : Int) (w : World), RdE x S w e v → lv ≤ 100 → 0 ≤ L → L ≤ 1000 → Bk w g 3 [.int .i64 L] → ∀ r L', fewE e L lv = (r, L') →
    Calls Try.prog 5 #[v, .pointer (some ⟨g, 0, none⟩), .int .i64 (lv : Int)] w fun e' w' => e' = .returned (.int .i64 (if r then 1 else 0)) ∧ Bk w' g 3 [.int .i64 L'] ∧ w.grownBy w' (some g) := by
  refine El.ind (P := fun e => ∀ (v : Value) (lv : Nat) (L : Int) (w : World), RdE x S w e v → lv ≤ 100 → 0 ≤ L → L ≤ 1000 → Bk w g 3 [.int .i64 L] → ∀ r L', fewE e L lv = (r, L') →
    Calls Try.prog 5 #[v, .pointer (some ⟨g, 0, none⟩), .int .i64 (lv : Int)] w fun e' w' => e' = .returned (.int .i64 (if r then 1 else 0)) ∧ Bk w' g 3 [.int .i64 L'] ∧ w.grownBy w' (some g)) ?_ e
  clear e
  intro c n k bs ss ih v lv L w h hlv hL0 hL1 hk r L' hR
  obtain ⟨h1, h2, h3, A, ca, B, cb, rfl, h5, h6, h7, h8, h9, h10, h11⟩ := h
  rw [fewE] at hR
  obtain ⟨bl, hbl⟩ : ∃ bl, bs.length = bl := ⟨_, rfl⟩
  obtain ⟨m, hmm⟩ : ∃ m, ss.length = m := ⟨_, rfl⟩
  have hblm : bl ≤ 9223372036854775807 := by unfold maxLen at h7; omega
  rw [hbl] at hR ⊢
  rw [hmm] at h8 hR ⊢
  have hmx : m ≤ 9223372036854775807 := by unfold maxLen at h9; omega
  obtain ⟨G, hG⟩ : ∃ G, w.heap.size = G := ⟨_, rfl⟩
  obtain ⟨w1, hw1⟩ : ∃ v, w.alloc (.cells #[.int .u8 (c : Int), .bool k, .int .u32 (n : Int), .slice A bl ca, .slice B m cb] 29) = v := ⟨_, rfl⟩
  have k1 : Bk w1 G 29 [.int .u8 (c : Int), .bool k, .int .u32 (n : Int), .slice A bl ca, .slice B m cb] := by rw [← hw1, ← hG]; exact Bk.new w _ [_, _, _, _, _]
  have hg1 : w.grownBy w1 (some g) := by rw [← hw1]; exact World.grownBy_alloc w _ _
  have kg : Bk w1 g 3 [.int .i64 L] := by rw [← hw1]; exact hk.alloc _
  have hgG : g ≠ G := by have := hk.lt; omega
  obtain ⟨J, hJ⟩ : ∃ J, L - 1 = J := ⟨_, rfl⟩
  rw [hJ] at hR
  have HRS := Lib.hid h11
  have HW := Lib.hid (And.intro hw1 hG)
  have K1 := Lib.hid k1
  have KG := Lib.hid kg
  have G1 := Lib.hid hg1
  have HGG := Lib.hid hgG
  have HIH := Lib.hid ih
  have HSS := Lib.hid hS
  have HR := Lib.hid hR
  have HMM := Lib.hid hmm
  have HJ := Lib.hid (And.intro hJ (And.intro hL0 hL1))
  have hJ1 : -1 ≤ J := by omega
  have hJ2 : J ≤ 1000 := by omega
  have q0 : w1.cell? ⟨g, 0, none⟩ = some (.int .i64 L) := kg.cell 0
  have q1 : w1.frozen? ⟨g, 0, none⟩ = false := kg.free 0
  clear ih h1 h2 h3 h5 h6 h7 h8 h9 h10 h11 hmm hbl hw1 hG k1 hg1 kg hgG hk hS hR
  go_enter Try.func5, Try.ntmps5
  go_upto_region 1 with fail
  rw [HW.out.1, HW.out.2]
  go_upto_region 2 with fail
  clear q0 q1
  obtain ⟨w3, hw3⟩ : ∃ v, w1.setCell ⟨g, 0, none⟩ (.int .i64 J) = v := ⟨_, rfl⟩
  have K3 : Hid (Bk w3 G 29 [.int .u8 (c : Int), .bool k, .int .u32 (n : Int), .slice A bl ca, .slice B m cb]) := Lib.hid (by rw [← hw3]; exact K1.out.far (p := ⟨g, 0, none⟩) (fun e => HGG.out e.symm) _)
  have KG3 : Hid (Bk w3 g 3 [.int .i64 J]) := Lib.hid (by rw [← hw3]; exact KG.out.store 0 _)
  have G3 : Hid (w.grownBy w3 (some g)) := Lib.hid (by
    refine G1.out.trans ?_
    rw [← hw3]
    exact ⟨rfl, rfl, rfl, by rw [World.size_setCell]; exact Nat.le_refl _, fun i _ hne => Below.heap_setCell _ _ _ _ (fun e => hne (by rw [e]))⟩)
  rw [hw3]
  clear hw3 K1 KG G1 hJ hL0 hL1
  obtain ⟨e0, e1, e2, e3, e4, ez⟩ := K3.out.five
  have q0 : w3.cell? ⟨g, 0, none⟩ = some (.int .i64 J) := KG3.out.cell 0
  by_cases hs : J < 0
  · have b1 : decide (J < 0) = true := by simp; omega
    have hr := HR.out
    rw [if_pos (.inl hs)] at hr
    injection hr with h1 h2
    subst h1 h2
    go_wp2_with fail
    go_ret
    exact ⟨rfl, KG3.out, G3.out⟩
  · have b1 : decide (J < 0) = false := by simp; omega
    by_cases hs : 20 < lv
    · have b2 : decide ((lv : Int) > 20) = true := by simp; omega
      have hr := HR.out
      rw [if_pos (.inr (.inl hs))] at hr
      injection hr with h1 h2
      subst h1 h2
      go_wp2_with fail
      go_ret
      exact ⟨rfl, KG3.out, G3.out⟩
    · have b2 : decide ((lv : Int) > 20) = false := by simp; omega
      by_cases hs : 200 < bl
      · have b3 : decide ((bl : Int) > 200) = true := by simp; omega
        have hr := HR.out
        rw [if_pos (.inr (.inr (.inl hs)))] at hr
        injection hr with h1 h2
        subst h1 h2
        go_wp2_with fail
        go_ret
        exact ⟨rfl, KG3.out, G3.out⟩
      · have b3 : decide ((bl : Int) > 200) = false := by simp; omega
        by_cases hs : 60 < m
        · have b4 : decide ((m : Int) > 60) = true := by simp; omega
          have hr := HR.out
          rw [if_pos (.inr (.inr (.inr hs)))] at hr
          injection hr with h1 h2
          subst h1 h2
          go_wp2_with fail
          go_ret
          exact ⟨rfl, KG3.out, G3.out⟩
        · have b4 : decide ((m : Int) > 60) = false := by simp; omega
          have HOK : Hid (fewS ss J (lv + 1) = (r, L')) := Lib.hid (by have := HR.out; rwa [if_neg (by omega)] at this)
          clear HR
          obtain ⟨l9, hl9⟩ : ∃ l9, lv + 1 = l9 := ⟨_, rfl⟩
          have hl9i : (lv : Int) + 1 = (l9 : Int) := by omega
          have hl9b : l9 ≤ 100 := by omega
          rw [hl9] at HOK
          clear hl9
          go_wp2_with fail
          clear e0 e1 e2 e3 e4 ez b1 b2 b3 b4 q0
          go_loopw [7] (fun i wr => ∃ (p : Nat) (Lp : Int), i = .int .i64 (p : Int) ∧ p ≤ m ∧ 0 ≤ Lp ∧ Lp ≤ 1000 ∧ fewS (ss.drop p) Lp l9 = (r, L') ∧ Bk wr g 3 [.int .i64 Lp] ∧ w.grownBy wr (some g) ∧ Bk wr G 29 [.int .u8 (c : Int), .bool k, .int .u32 (n : Int), .slice A bl ca, .slice B m cb]) (fun i _ => m - (intOf i).toNat)
          case atStart => exact ⟨0, J, rfl, Nat.zero_le _, by omega, hJ2, HOK.out, KG3.out, G3.out, K3.out⟩
          case round =>
            obtain ⟨p, Lp, rfl, hp, hLp0, hLp1, hfs, hkg, hgr, hke⟩ := hrel
            have KG := Lib.hid hkg
            have GR := Lib.hid hgr
            have KE := Lib.hid hke
            have HP := Lib.hid hp
            have HFS := Lib.hid hfs
            have HLP := Lib.hid (And.intro hLp0 hLp1)
            have RS := Lib.hid (grown_rdS HRS.out HSS.out hgr)
            clear hkg hgr hke hp hfs KG3 G3 K3 HOK
            obtain ⟨e0, e1, e2, e3, e4, ez⟩ := KE.out.five
            by_cases hlt : p < m
            · have hlt' : p < ss.length := by rw [HMM.out]; exact hlt
              obtain ⟨b, off, c', n', k', A1, l1, q1, A2, l2, q2, rfl, hb, _, f0, f1, f2, f3, f4, hE⟩ := RS.out.fives hlt'
              have hmt := List.getElem_mem hlt'
              have hfs := HFS.out
              rw [List.drop_eq_getElem_cons hlt', fewS] at hfs
              obtain ⟨E, hEq⟩ : ∃ E, ss[p] = E := ⟨_, rfl⟩
              rw [hEq] at hE hmt hfs
              obtain ⟨pr, hpr⟩ : ∃ pr, fewE E Lp l9 = pr := ⟨_, rfl⟩
              obtain ⟨r2, L2⟩ := pr
              have hbd := fewE_bd E Lp l9 hLp0
              rw [hpr] at hfs hbd
              dsimp only at hfs hbd
              have HC := Lib.hid (HIH.out E hmt _ l9 Lp wr hE hl9b hLp0 hLp1 KG.out r2 L2 hpr)
              have HBD := Lib.hid hbd
              have HFN := Lib.hid hfs
              clear hE hmt hEq hpr hbd hfs hlt'
              go_wp2_with fail
              refine HC.out.mono ?_
              rintro e' w5 ⟨rfl, hk5, hg5⟩
              have K5 := Lib.hid hk5
              have G5 := Lib.hid (GR.out.trans hg5)
              have hke5 : Bk w5 G 29 [.int .u8 (c : Int), .bool k, .int .u32 (n : Int), .slice A bl ca, .slice (some ⟨b, off, none⟩) m cb] := by
                unfold Bk; rw [hg5.block G KE.out.lt (fun e => by injection e with e; exact HGG.out e.symm)]; exact KE.out
              have KE5 := Lib.hid hke5
              clear hk5 hg5 hke5 e0 e1 e2 e3 e4 ez HC f0 f1 f2 f3 f4
              cases r2
              · have hfn := HFN.out
                rw [if_neg (by simp)] at hfn
                injection hfn with hf1 hf2
                subst hf1 hf2
                go_wp2_with fail
                go_ret
                exact ⟨rfl, K5.out, G5.out⟩
              · have hfn := HFN.out
                rw [if_pos rfl] at hfn
                have HFN2 := Lib.hid hfn
                clear hfn
                go_wp2_with fail
                exact ⟨⟨p + 1, L2, by go_num, hlt, HBD.out.2.2 (by first | rfl | trivial), by have := HBD.out.2.1; have := HLP.out.2; omega, HFN2.out, K5.out, G5.out, KE5.out⟩, by simp [intOf]; omega⟩
            · have hfs := HFS.out
              rw [List.drop_eq_nil_of_le (by rw [HMM.out]; have := HP.out; omega), fewS] at hfs
              injection hfs with hf1 hf2
              subst hf1 hf2
              go_wp2_with fail
              go_ret
              exact ⟨rfl, KG.out, GR.out⟩
end Go.Proofs.Ytfbdeefeagednaa.Fl
