/-
  Layer 4: Check, Count, Depth; the reference's Check.
  Conditions: none beyond that values read as elements.
-/
import Derived.Test.YtgdjgahmnnjeeaaElI
namespace Go.Proofs.Ytgdjgahmnnjeeaa
open Go.RowKit

set_option maxHeartbeats 1000000 in
set_option maxRecDepth 100000 in
theorem echeck_any {x : Bool} {S : Nat → Prop} (e : El) (v : Value) (w : World) (hd : depE e ≤ 10000) (hE : RdE x S w e v) :
    Calls Try.prog 14 #[v] w fun e' w' => e' = .returned (.int .i64 ((meaR e).2.2 : Int)) ∧ Below w.heap.size w w' := by
  obtain ⟨c, n, k, bs, ss⟩ := e
  have hE2 := hE
  obtain ⟨h1, h2, h3, A, ca, B, cb, rfl, h5, h6, h7, h8, h9, h10, h11⟩ := hE
  clear h1 h2 h3 h5 h6 h7 h8 h9 h10 h11
  have hba := bel1 w (.cells #[.int .u8 (c : Int), .bool k, .int .u32 (n : Int), .slice A bs.length ca, .slice B ss.length cb] 29)
  have HM := Lib.hid (measure_any _ _ _ hd (hE2.stay hba))
  have HBA := Lib.hid hba
  clear hE2 hd hba
  go_enter Try.func14, Try.ntmps14
  go_wp2_with fail
  refine HM.out.mono ?_
  rintro e' w1 ⟨rfl, hb1⟩
  have HB := Lib.hid (HBA.out.trans (hb1.mono HBA.out.size))
  clear hb1
  go_wp2_with fail
  go_ret
  exact ⟨rfl, HB.out⟩

set_option maxHeartbeats 1000000 in
set_option maxRecDepth 100000 in
theorem ecount_any {x : Bool} {S : Nat → Prop} (e : El) (v : Value) (w : World) (hd : depE e ≤ 10000) (hE : RdE x S w e v) :
    Calls Try.prog 15 #[v] w fun e' w' => e' = .returned (.int .i64 ((meaR e).1 : Int)) ∧ Below w.heap.size w w' := by
  obtain ⟨c, n, k, bs, ss⟩ := e
  have hE2 := hE
  obtain ⟨h1, h2, h3, A, ca, B, cb, rfl, h5, h6, h7, h8, h9, h10, h11⟩ := hE
  clear h1 h2 h3 h5 h6 h7 h8 h9 h10 h11
  have hba := bel1 w (.cells #[.int .u8 (c : Int), .bool k, .int .u32 (n : Int), .slice A bs.length ca, .slice B ss.length cb] 29)
  have HM := Lib.hid (measure_any _ _ _ hd (hE2.stay hba))
  have HBA := Lib.hid hba
  clear hE2 hd hba
  go_enter Try.func15, Try.ntmps15
  go_wp2_with fail
  refine HM.out.mono ?_
  rintro e' w1 ⟨rfl, hb1⟩
  have HB := Lib.hid (HBA.out.trans (hb1.mono HBA.out.size))
  clear hb1
  go_wp2_with fail
  go_ret
  exact ⟨rfl, HB.out⟩

set_option maxHeartbeats 1000000 in
set_option maxRecDepth 100000 in
theorem edepth_any {x : Bool} {S : Nat → Prop} (e : El) (v : Value) (w : World) (hd : depE e ≤ 10000) (hE : RdE x S w e v) :
    Calls Try.prog 19 #[v] w fun e' w' => e' = .returned (.int .i64 ((meaR e).2.1 : Int)) ∧ Below w.heap.size w w' := by
  obtain ⟨c, n, k, bs, ss⟩ := e
  have hE2 := hE
  obtain ⟨h1, h2, h3, A, ca, B, cb, rfl, h5, h6, h7, h8, h9, h10, h11⟩ := hE
  clear h1 h2 h3 h5 h6 h7 h8 h9 h10 h11
  have hba := bel1 w (.cells #[.int .u8 (c : Int), .bool k, .int .u32 (n : Int), .slice A bs.length ca, .slice B ss.length cb] 29)
  have HM := Lib.hid (measure_any _ _ _ hd (hE2.stay hba))
  have HBA := Lib.hid hba
  clear hE2 hd hba
  go_enter Try.func19, Try.ntmps19
  go_wp2_with fail
  refine HM.out.mono ?_
  rintro e' w1 ⟨rfl, hb1⟩
  have HB := Lib.hid (HBA.out.trans (hb1.mono HBA.out.size))
  clear hb1
  go_wp2_with fail
  go_ret
  exact ⟨rfl, HB.out⟩

theorem chkS_drop {ss : List El} {i d b : Nat} (hi : i < ss.length) : chkS (ss.drop i) d b = if (chkE ss[i] d b).1 ≠ 0 then ((chkE ss[i] d b).1, 0) else chkS (ss.drop (i + 1)) d (chkE ss[i] d b).2 := by
  rw [List.drop_eq_getElem_cons hi, chkS]
mutual
theorem chkE_cnt : ∀ (e : El) (d b : Nat), (chkE e d b).1 = 0 → (chkE e d b).2 = b + cntE e
  | .mk c n k bs ss, d, b, h => by
    rw [chkE] at h ⊢
    by_cases h1 : oneE (.mk c n k bs ss) d b ≠ 0
    · rw [if_pos h1] at h; exact absurd h h1
    · rw [if_neg h1] at h ⊢
      rw [chkS_cnt ss (d + 1) (b + 1) h, cntE]
      omega
theorem chkS_cnt : ∀ (ss : List El) (d b : Nat), (chkS ss d b).1 = 0 → (chkS ss d b).2 = b + cntS ss
  | [], d, b, h => by rw [chkS, cntS]; rfl
  | e :: ss, d, b, h => by
    rw [chkS] at h ⊢
    by_cases h1 : (chkE e d b).1 ≠ 0
    · rw [if_pos h1] at h; exact absurd h h1
    · rw [if_neg h1] at h ⊢
      rw [chkS_cnt ss d _ h, chkE_cnt e d b (by omega), cntS]
      omega
end
mutual
theorem chkE_le : ∀ (e : El) (d b : Nat), b ≤ 8192 → (chkE e d b).2 ≤ 8192
  | .mk c n k bs ss, d, b, hb => by
    rw [chkE]
    split
    · omega
    · rename_i h
      exact chkS_le ss _ _ (by have := oneE_full h; omega)
theorem chkS_le : ∀ (ss : List El) (d b : Nat), b ≤ 8192 → (chkS ss d b).2 ≤ 8192
  | [], d, b, hb => by rw [chkS]; omega
  | e :: ss, d, b, hb => by
    rw [chkS]
    split
    · omega
    · exact chkS_le ss _ _ (chkE_le e d b hb)
end
theorem meaR_err (e : El) : (meaR e).2.2 = (chkE e 1 0).1 := by unfold meaR; split <;> dsimp only <;> omega
theorem meaR_cnt {e : El} (h : (chkE e 1 0).1 = 0) : meaR e = (cntE e, depE e, 0) := by
  unfold meaR
  rw [if_neg (by omega), chkE_cnt e 1 0 h, Nat.zero_add]
theorem meaR_bad {e : El} (h : (chkE e 1 0).1 ≠ 0) : meaR e = (0, 0, (chkE e 1 0).1) := by unfold meaR; rw [if_pos h]

set_option maxHeartbeats 2000000 in
set_option maxRecDepth 100000 in
theorem rchk_any {x : Bool} {S : Nat → Prop} (e : El) : ∀ (v : Value) (d b : Nat) (w : World), d + depE e ≤ 20000 → b ≤ 8192 → RdE x S w e v →
    Calls Try.prog 12 #[v, .int .i64 (d : Int), .int .i64 (b : Int)] w fun e' w' => e' = .returned (.tuple #[.int .i64 ((chkE e d b).1 : Int), .int .i64 ((chkE e d b).2 : Int)]) ∧ Below w.heap.size w w' := by
  refine El.ind (P := fun e => ∀ (v : Value) (d b : Nat) (w : World), d + depE e ≤ 20000 → b ≤ 8192 → RdE x S w e v →
    Calls Try.prog 12 #[v, .int .i64 (d : Int), .int .i64 (b : Int)] w fun e' w' => e' = .returned (.tuple #[.int .i64 ((chkE e d b).1 : Int), .int .i64 ((chkE e d b).2 : Int)]) ∧ Below w.heap.size w w') ?_ e
  clear e
  intro c n k bs ss ih v d b w hd hb h
  obtain ⟨h1, h2, h3, A, ca, B, cb, rfl, h5, h6, h7, h8, h9, h10, h11⟩ := h
  have hlen : ss.length ≤ 9223372036854775807 := by unfold maxLen at h9; omega
  rw [depE] at hd
  have HBA := Lib.hid (bel1 w (.cells #[.int .u8 (c : Int), .bool k, .int .u32 (n : Int), .slice A bs.length ca, .slice B ss.length cb] 29))
  have HKA := Lib.hid (Bk.new w 29 [.int .u8 (c : Int), .bool k, .int .u32 (n : Int), .slice A bs.length ca, .slice B ss.length cb])
  have HC := Lib.hid fun w => rcheck_any c n k w h1 h2
  clear h3 h5 h6 h7 h8 h9 h10
  obtain ⟨z, hz⟩ : ∃ z, oneE (.mk c n k bs ss) d b = z := ⟨_, rfl⟩
  obtain ⟨f, hf⟩ : ∃ f, chk c n k = f := ⟨_, rfl⟩
  have HF := Lib.hid hf
  have HZ := Lib.hid hz
  have HE := Lib.hid (show chkE (.mk c n k bs ss) d b = if z ≠ 0 then (z, 0) else chkS ss (d + 1) (b + 1) by rw [chkE, hz])
  obtain ⟨r, hr⟩ : ∃ r, chkE (.mk c n k bs ss) d b = r := ⟨_, rfl⟩
  have HR := Lib.hid hr
  rw [hr]
  obtain ⟨g, m⟩ := r
  dsimp only
  have hgm := HE.out.symm.trans HR.out
  by_cases hf0 : f = 0
  rotate_left
  · have hzf : f = z := by rw [← hz, oneE_mk, if_pos (by omega), hf]
    subst hzf
    rw [if_pos hf0] at hgm
    obtain ⟨rfl, rfl⟩ := Prod.mk.inj hgm
    clear hz hf hr ih h11 hgm
    have hf1 : ((f : Int) != 0) = true := by simp; omega
    go_enter Try.func12, Try.ntmps12
    go_wp2_with fail
    refine (HC.out _).mono ?_
    rintro e' w1 ⟨rfl, hb1⟩
    have HB1 := Lib.hid (HBA.out.trans (hb1.mono HBA.out.size))
    clear hb1
    rw [HF.out]
    go_wp2_with fail
    go_ret2
    exact ⟨rfl, HB1.out⟩
  subst hf0
  by_cases hbad : (k = true ∧ 0 < bs.length) ∨ (k = false ∧ 0 < ss.length)
  · have hzf : 1 = z := by rw [← hz, oneE_mk, if_neg (by omega), if_pos hbad]
    subst hzf
    rw [if_pos (by decide)] at hgm
    obtain ⟨rfl, rfl⟩ := Prod.mk.inj hgm
    clear hz hf hr ih h11 hgm
    go_enter Try.func12, Try.ntmps12
    go_wp2_with fail
    refine (HC.out _).mono ?_
    rintro e' w1 ⟨rfl, hb1⟩
    obtain ⟨e0, e1, e2, e3, e4, hsz⟩ := (HKA.out.below hb1 (by simp)).five
    have HB1 := Lib.hid (HBA.out.trans (hb1.mono HBA.out.size))
    clear hb1
    rw [HF.out]
    rcases hbad with ⟨rfl, hl⟩ | ⟨rfl, hl⟩
    · go_wp2_with fail
      go_ret2
      exact ⟨rfl, HB1.out⟩
    · go_wp2_with fail
      go_ret2
      exact ⟨rfl, HB1.out⟩
  have hp := oneE_place (d := d) (b := b) hf hbad
  rw [hz] at hp
  have HP := Lib.hid hp
  have hbad2 : (k = true → ¬ 0 < bs.length) ∧ (k = false → ¬ 0 < ss.length) := ⟨fun hk h => hbad (.inl ⟨hk, h⟩), fun hk h => hbad (.inr ⟨hk, h⟩)⟩
  have HBD := Lib.hid hbad2
  clear hz hf hr hbad hbad2
  by_cases hd16 : 16 < d
  · have hz12 : z = 12 := by rw [hp]; unfold plcE; rw [if_pos hd16]
    subst hz12
    rw [if_pos (by decide)] at hgm
    obtain ⟨rfl, rfl⟩ := Prod.mk.inj hgm
    clear hp ih h11 hgm
    go_enter Try.func12, Try.ntmps12
    go_wp2_with fail
    refine (HC.out _).mono ?_
    rintro e' w1 ⟨rfl, hb1⟩
    obtain ⟨e0, e1, e2, e3, e4, hsz⟩ := (HKA.out.below hb1 (by simp)).five
    have HB1 := Lib.hid (HBA.out.trans (hb1.mono HBA.out.size))
    clear hb1
    rw [HF.out]
    cases k
    · have hl := HBD.out.2 rfl
      go_wp2_with fail
      go_ret2
      exact ⟨rfl, HB1.out⟩
    · have hl := HBD.out.1 rfl
      go_wp2_with fail
      go_ret2
      exact ⟨rfl, HB1.out⟩
  by_cases hb8 : 8192 ≤ b
  · have hz3 : z = 3 := by rw [hp]; unfold plcE; rw [if_neg hd16, if_pos hb8]
    subst hz3
    rw [if_pos (by decide)] at hgm
    obtain ⟨rfl, rfl⟩ := Prod.mk.inj hgm
    clear hp ih h11 hgm
    go_enter Try.func12, Try.ntmps12
    go_wp2_with fail
    refine (HC.out _).mono ?_
    rintro e' w1 ⟨rfl, hb1⟩
    obtain ⟨e0, e1, e2, e3, e4, hsz⟩ := (HKA.out.below hb1 (by simp)).five
    have HB1 := Lib.hid (HBA.out.trans (hb1.mono HBA.out.size))
    clear hb1
    rw [HF.out]
    cases k
    · have hl := HBD.out.2 rfl
      go_wp2_with fail
      go_ret2
      exact ⟨rfl, HB1.out⟩
    · have hl := HBD.out.1 rfl
      go_wp2_with fail
      go_ret2
      exact ⟨rfl, HB1.out⟩
  have hz0 : z = 0 := by rw [hp]; unfold plcE; rw [if_neg hd16, if_neg hb8]
  subst hz0
  rw [if_neg (by decide)] at hgm
  have HG := Lib.hid hgm
  have hd2 : d ≤ 16 := by omega
  have hb2 : b < 8192 := by omega
  clear hp hgm HE HR HP HZ
  go_enter Try.func12, Try.ntmps12
  go_wp2_with fail
  refine (HC.out _).mono ?_
  rintro e' w1 ⟨rfl, hb1⟩
  have hk1 := HKA.out.below hb1 (by simp)
  obtain ⟨e0, e1, e2, e3, e4, hsz⟩ := hk1.five
  have HB1 := Lib.hid (HBA.out.trans (hb1.mono HBA.out.size))
  have HK1 := Lib.hid hk1
  clear hb1 hk1 HC
  rw [HF.out]
  cases k with
  | false =>
    have hl := HBD.out.2 rfl
    clear HBD
    go_wp2_with fail
    go_loopw [9, 10] (fun a i wr => ∃ (p q : Nat), p ≤ ss.length ∧ q ≤ 8192 ∧ a = .int .i64 (q : Int) ∧ i = .int .i64 (p : Int) ∧ chkS (ss.drop p) (d + 1) q = (g, m) ∧ Bk wr w.heap.size 29 [.int .u8 (c : Int), .bool false, .int .u32 (n : Int), .slice A bs.length ca, .slice B ss.length cb] ∧ Below w.heap.size w wr) (fun _ i _ => ss.length - (intOf i).toNat)
    case atStart =>
      exact ⟨0, b + 1, Nat.zero_le _, by omega, by go_num, rfl, HG.out, HK1.out, HB1.out⟩
    case round =>
      clear e0 e1 e2 e3 e4 hsz
      obtain ⟨p, q, hp, hq, rfl, rfl, hM, hbk, hbel⟩ := hrel
      obtain ⟨e0, e1, e2, e3, e4, hsz⟩ := hbk.five
      have H11 := Lib.hid (h11.stay hbel)
      have HIH := Lib.hid ih
      have HM := Lib.hid hM
      have HK := Lib.hid hbk
      have HB := Lib.hid hbel
      clear ih hM hbk hbel h11 HB1 HK1 HBA HKA HG hl
      by_cases hlt : p < ss.length
      · obtain ⟨b', off, c', n', k', u, v, rfl, hbb, hS, f0, f1, f2, f3, f4, hE⟩ := H11.out.five hlt
        have hdp := depE_mem (List.getElem_mem hlt)
        have hc := HIH.out _ (List.getElem_mem hlt) _ (d + 1) q wr (by omega) hq hE
        rw [show ((d + 1 : Nat) : Int) = (d : Int) + 1 from rfl] at hc
        have HC := Lib.hid hc
        have hm2 := HM.out
        rw [chkS_drop hlt] at hm2
        have hq2 := chkE_le ss[p] (d + 1) q hq
        obtain ⟨r, hr⟩ : ∃ r, chkE ss[p] (d + 1) q = r := ⟨_, rfl⟩
        obtain ⟨f2', q2⟩ := r
        rw [hr] at hm2 hq2
        have HR := Lib.hid hr
        have HM2 := Lib.hid hm2
        dsimp only at hq2
        have hd1 : (d : Int) + 1 ≤ 9223372036854775807 := by omega
        clear hE hS hr hm2 hc hdp
        by_cases hf2 : f2' ≠ 0
        · have hfb : ((f2' : Int) != 0) = true := by simp; omega
          have hgm := HM2.out
          dsimp only at hgm
          rw [if_pos hf2] at hgm
          obtain ⟨rfl, rfl⟩ := Prod.mk.inj hgm
          clear hgm
          go_wp2_with fail
          refine HC.out.mono ?_
          rintro e' w2 ⟨rfl, hb1⟩
          have HB2 := Lib.hid hb1
          clear hb1
          rw [HR.out]
          go_wp2_with fail
          go_ret2
          exact ⟨rfl, HB.out.trans (HB2.out.mono HB.out.size)⟩
        · obtain rfl : f2' = 0 := by omega
          have HN := Lib.hid (HM2.out)
          go_wp2_with fail
          refine HC.out.mono ?_
          rintro e' w2 ⟨rfl, hb1⟩
          have HB2 := Lib.hid hb1
          clear hb1
          rw [HR.out]
          go_wp2_with fail
          exact ⟨⟨p + 1, q2, by omega, hq2, rfl, by go_num, by have := HN.out; rw [if_neg (by decide)] at this; exact this, HK.out.below HB2.out hsz, HB.out.trans (HB2.out.mono HB.out.size)⟩, by simp [intOf]; omega⟩
      · have hm2 := HM.out
        rw [List.drop_eq_nil_of_le (by omega), chkS] at hm2
        obtain ⟨rfl, rfl⟩ := Prod.mk.inj hm2
        clear hm2
        go_wp2_with fail
        go_ret2
        exact ⟨rfl, HB.out⟩
  | true =>
    have hl := HBD.out.1 rfl
    clear HBD
    go_wp2_with fail
    go_loopw [9, 10] (fun a i wr => ∃ (p q : Nat), p ≤ ss.length ∧ q ≤ 8192 ∧ a = .int .i64 (q : Int) ∧ i = .int .i64 (p : Int) ∧ chkS (ss.drop p) (d + 1) q = (g, m) ∧ Bk wr w.heap.size 29 [.int .u8 (c : Int), .bool true, .int .u32 (n : Int), .slice A bs.length ca, .slice B ss.length cb] ∧ Below w.heap.size w wr) (fun _ i _ => ss.length - (intOf i).toNat)
    case atStart =>
      exact ⟨0, b + 1, Nat.zero_le _, by omega, by go_num, rfl, HG.out, HK1.out, HB1.out⟩
    case round =>
      clear e0 e1 e2 e3 e4 hsz
      obtain ⟨p, q, hp, hq, rfl, rfl, hM, hbk, hbel⟩ := hrel
      obtain ⟨e0, e1, e2, e3, e4, hsz⟩ := hbk.five
      have H11 := Lib.hid (h11.stay hbel)
      have HIH := Lib.hid ih
      have HM := Lib.hid hM
      have HK := Lib.hid hbk
      have HB := Lib.hid hbel
      clear ih hM hbk hbel h11 HB1 HK1 HBA HKA HG hl
      by_cases hlt : p < ss.length
      · obtain ⟨b', off, c', n', k', u, v, rfl, hbb, hS, f0, f1, f2, f3, f4, hE⟩ := H11.out.five hlt
        have hdp := depE_mem (List.getElem_mem hlt)
        have hc := HIH.out _ (List.getElem_mem hlt) _ (d + 1) q wr (by omega) hq hE
        rw [show ((d + 1 : Nat) : Int) = (d : Int) + 1 from rfl] at hc
        have HC := Lib.hid hc
        have hm2 := HM.out
        rw [chkS_drop hlt] at hm2
        have hq2 := chkE_le ss[p] (d + 1) q hq
        obtain ⟨r, hr⟩ : ∃ r, chkE ss[p] (d + 1) q = r := ⟨_, rfl⟩
        obtain ⟨f2', q2⟩ := r
        rw [hr] at hm2 hq2
        have HR := Lib.hid hr
        have HM2 := Lib.hid hm2
        dsimp only at hq2
        have hd1 : (d : Int) + 1 ≤ 9223372036854775807 := by omega
        clear hE hS hr hm2 hc hdp
        by_cases hf2 : f2' ≠ 0
        · have hfb : ((f2' : Int) != 0) = true := by simp; omega
          have hgm := HM2.out
          dsimp only at hgm
          rw [if_pos hf2] at hgm
          obtain ⟨rfl, rfl⟩ := Prod.mk.inj hgm
          clear hgm
          go_wp2_with fail
          refine HC.out.mono ?_
          rintro e' w2 ⟨rfl, hb1⟩
          have HB2 := Lib.hid hb1
          clear hb1
          rw [HR.out]
          go_wp2_with fail
          go_ret2
          exact ⟨rfl, HB.out.trans (HB2.out.mono HB.out.size)⟩
        · obtain rfl : f2' = 0 := by omega
          have HN := Lib.hid (HM2.out)
          go_wp2_with fail
          refine HC.out.mono ?_
          rintro e' w2 ⟨rfl, hb1⟩
          have HB2 := Lib.hid hb1
          clear hb1
          rw [HR.out]
          go_wp2_with fail
          exact ⟨⟨p + 1, q2, by omega, hq2, rfl, by go_num, by have := HN.out; rw [if_neg (by decide)] at this; exact this, HK.out.below HB2.out hsz, HB.out.trans (HB2.out.mono HB.out.size)⟩, by simp [intOf]; omega⟩
      · have hm2 := HM.out
        rw [List.drop_eq_nil_of_le (by omega), chkS] at hm2
        obtain ⟨rfl, rfl⟩ := Prod.mk.inj hm2
        clear hm2
        go_wp2_with fail
        go_ret2
        exact ⟨rfl, HB.out⟩
end Go.Proofs.Ytgdjgahmnnjeeaa
