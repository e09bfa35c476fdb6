/-
  Layer 12: the law's path: a path within an element, told by numbers.
  Conditions: none beyond that values read as what they are.
-/
import Derived.Test.YtfbdeefeagednaaFlRa
namespace Go.Proofs.Ytfbdeefeagednaa.Fl
open Go.RowKit

/-- The path that numbers tell. -/
def pthL : El → List Nat → List Int
  | _, [] => []
  | .mk _ _ _ _ ss, x :: t => if h : x % (ss.length + 1) < ss.length then ((x % (ss.length + 1) : Nat) : Int) :: pthL ss[x % (ss.length + 1)] t else [((x % (ss.length + 1) : Nat) : Int)]
termination_by _ t => t.length
theorem pthL_nil (e : El) : pthL e [] = [] := by rw [pthL]
theorem pthL_len : ∀ (l : List Nat) (e : El), (pthL e l).length ≤ l.length
  | [], e => by rw [pthL]; simp
  | x :: t, .mk _ _ _ _ ss => by
    rw [pthL]
    split
    · rename_i h; have := pthL_len t ss[x % (ss.length + 1)]; simp; omega
    · simp
set_option linter.unusedSimpArgs false in
set_option maxHeartbeats 4000000 in
set_option maxRecDepth 100000 in
theorem path_any {x : Bool} {S : Nat → Prop} (e : El) (v : Value) (l : List Nat) (P : Option Addr) (N pc : Nat) (w : World) (hE : RdE x S w e v) (hsm : SMe e) (hP : Rb w P l) (hN : l.length = N) (hN1 : N ≤ maxLen) :
    Calls Try.prog 49 #[v, .slice P N pc] w (fun e' w' => ∃ A' n' c', e' = .returned (.slice A' n' c') ∧ (pthL e (l.take 6)).length = n' ∧ Rd w' A' (csZ (pthL e (l.take 6))) ∧ n' ≤ c' ∧ c' ≤ maxLen ∧ Below w.heap.size w w') := by
  have hE2 : RdE x (· < w.heap.size) w e v := RdE.keep (Nat.le_refl _) (fun _ _ _ => rfl) (fun _ _ h => h) _ _ hE
  obtain ⟨c, n, k, u1, u2, hv⟩ : ∃ c n k u1 u2, v = elV c n k u1 u2 := by
    obtain ⟨c, n, k, A, l, q, A2, l2, q2, h⟩ := hE.form
    exact ⟨_, _, _, _, _, h⟩
  subst hv
  obtain ⟨G, hG⟩ : ∃ G, w.heap.size = G := ⟨_, rfl⟩
  obtain ⟨w1, hw1⟩ : ∃ v, w.alloc (.cells #[.int .u8 (c : Int), .bool k, .int .u32 (n : Int), u1, u2] 29) = v := ⟨_, rfl⟩
  have b1 : Below w.heap.size w w1 := by rw [← hw1]; exact bel1 _ _
  have k1 : Bk w1 G 29 [.int .u8 (c : Int), .bool k, .int .u32 (n : Int), u1, u2] := by rw [← hw1, ← hG]; exact Bk.new w _ [_, _, _, _, _]
  have hz1 : w1.heap.size = G + 1 := by rw [← hw1, World.size_alloc, hG]
  have K1 := Lib.hid k1
  have B1 := Lib.hid b1
  have HZ1 := Lib.hid hz1
  have HW := Lib.hid (And.intro hw1 hG)
  have HG := Lib.hid hG
  have E0 := Lib.hid hE2
  have HS0 := Lib.hid hsm
  have HPA := Lib.hid hP
  have HN := Lib.hid hN
  have hnn : N ≤ 9223372036854775807 := by unfold maxLen at hN1; omega
  obtain ⟨R, hR⟩ : ∃ R, pthL e (l.take 6) = R := ⟨_, rfl⟩
  have HRR := Lib.hid hR
  rw [hR]
  clear hE hE2 hsm hP hN hR hG hw1 b1 k1 hz1
  go_enter Try.func49, Try.ntmps49
  go_upto_region 1 with fail
  rw [HW.out.1, HW.out.2]
  go_wp2_with fail
  go_loopw [5, 6, 7] (fun o i _ wr => ∃ (q : Nat) (y : El) (c n : Nat) (k : Bool) (u1 u2 : Value) (pre : List Int) (AO : Option Addr) (no co : Nat), q ≤ N ∧ q ≤ 6 ∧ i = .int .i64 (q : Int) ∧ o = .slice AO no co ∧ pre.length = no ∧ no = q ∧ pre ++ pthL y ((l.take 6).drop q) = R ∧ SMe y ∧
      RdE x (· < w.heap.size) w y (elV c n k u1 u2) ∧ Bk wr G 29 [.int .u8 (c : Int), .bool k, .int .u32 (n : Int), u1, u2] ∧ wr.ownsRow (G + 1) 3 1 (.slice AO no co) no (csZ pre) ∧ Below w.heap.size w wr) (fun _ i _ _ => 7 - (intOf i).toNat)
  case atStart => exact ⟨0, e, c, n, k, u1, u2, [], none, 0, 0, Nat.zero_le _, Nat.zero_le _, rfl, rfl, rfl, rfl, by rw [List.drop_zero]; exact HRR.out, HS0.out, E0.out, K1.out, World.ownsRow_nil _ _ _ _, B1.out⟩
  case round =>
    clear K1 B1 E0 HRR HS0
    obtain ⟨q, y, c, n, k, u1, u2, pre, AO, no, co, hq, hq6, rfl, rfl, hlo, hnq, hpt, hsm, hE, hk, hown, hbl⟩ := hrel
    have KK := Lib.hid hk
    have BB := Lib.hid hbl
    have OW := Lib.hid hown
    have HLO := Lib.hid hlo
    have HQ := Lib.hid (And.intro hnq hq6)
    have HPT := Lib.hid hpt
    have EE := Lib.hid hE
    have HSM := Lib.hid hsm
    have HSZ : Hid (G + 1 ≤ wr.heap.size) := Lib.hid (by have := KK.out.lt; omega)
    obtain ⟨e0, e1, e2, e3, e4, ez⟩ := KK.out.five
    clear hk hbl hown hlo hnq hpt hsm hE
    by_cases hlt : q < N ∧ q < 6
    · obtain ⟨hl1, hl2⟩ := hlt
      have t6 : decide ((q : Int) < 6) = true := by simp; omega
      obtain ⟨xx, hxx⟩ : ∃ xx, l[q]'(by rw [HN.out]; exact hl1) = xx := ⟨_, rfl⟩
      have hdr : (l.take 6).drop q = xx :: (l.take 6).drop (q + 1) := by
        rw [List.drop_eq_getElem_cons (by rw [List.length_take, HN.out]; omega), List.getElem_take, hxx]
      obtain ⟨pb, po, rfl, hpb, hx8, hpc⟩ := (HPA.out.below BB.out).at_ (k := q) (by rw [HN.out]; exact hl1)
      rw [hxx] at hx8 hpc
      obtain ⟨yc, yn, yk, bs, ss⟩ := y
      have hE1 := EE.out
      obtain ⟨_, _, _, A, ca, B, cb, hv, _, _, _, hm1, hm2, _, hRS⟩ := hE1
      injection hv with hv
      simp at hv
      obtain ⟨hv1, rfl, hv2, rfl, rfl⟩ := hv
      obtain rfl : c = yc := by omega
      obtain rfl : n = yn := by omega
      obtain ⟨m, hm⟩ : ∃ m, ss.length = m := ⟨_, rfl⟩
      have HRS := Lib.hid hRS
      have HM := Lib.hid hm
      have hmm : m ≤ 100000 := by have h := HSM.out.1; rw [smlE] at h; omega
      rw [hdr] at HPT
      rw [hm] at KK e4 EE
      obtain ⟨m1, hm1e⟩ : ∃ m1, m + 1 = m1 := ⟨_, rfl⟩
      obtain ⟨j, hje⟩ : ∃ j, xx % m1 = j := ⟨_, rfl⟩
      have y1 : (m : Int) + 1 = (m1 : Int) := by omega
      have y2 : (xx : Int).tmod (m1 : Int) = (j : Int) := by rw [← hje]; exact (Int.ofNat_tmod xx m1).symm
      have y3 : ((m1 : Int) == 0) = false := by simp; omega
      have y5 : IntKind.i64.wrap (xx : Int) = (xx : Int) := by rw [IntKind.wrap_i64]; omega
      have y6 : IntKind.i64.wrap (m1 : Int) = (m1 : Int) := by rw [IntKind.wrap_i64]; omega
      have y7 : ¬ m1 = 0 := by omega
      have y8 : IntKind.i64.wrap (j : Int) = (j : Int) := by have := Nat.mod_lt xx (show 0 < m1 by omega); rw [IntKind.wrap_i64]; omega
      have hjm : j ≤ m := by have := Nat.mod_lt xx (show 0 < m1 by omega); omega
      have hm1b : m1 ≤ 100001 := by omega
      have HPS : Hid (pthL (.mk c n k bs ss) (xx :: (l.take 6).drop (q + 1)) = if h : j < ss.length then (j : Int) :: pthL ss[j] ((l.take 6).drop (q + 1)) else [(j : Int)]) := Lib.hid (by rw [pthL]; simp only [hm, hm1e, hje])
      have hpc0 := hpc
      clear hpc hdr hRS hm1 hm2 hv1 hv2 hm hm1e hje hxx
      go_upto_region 5 with fail
      have hpc1 : wr.cell? ⟨pb, po + q, none⟩ = some (.int .u8 (xx : Int)) := hpc0
      have HSR := Lib.hid (show ∀ W, Below wr.heap.size wr W → W.cell? ⟨pb, po + q, none⟩ = some (.int .u8 (xx : Int)) ∧ W.cell? ⟨G, 4, none⟩ = some (.slice B m cb) ∧ Below wr.heap.size wr W from fun W hW => ⟨(hW.cell (p := ⟨pb, po + q, none⟩) hpb).trans hpc1, (hW.cell (p := ⟨G, 4, none⟩) KK.out.lt).trans (KK.out.cell 4), hW⟩)
      refine wp_region_held_drew (S := fun W => W.cell? ⟨pb, po + q, none⟩ = some (.int .u8 (xx : Int)) ∧ W.cell? ⟨G, 4, none⟩ = some (.slice B m cb) ∧ Below wr.heap.size wr W) (by kernel_rfl) (HSR.out _ (Below.refl wr.heap.size wr).drew) (fun hS => ?_)
      obtain ⟨wd, hwd⟩ : ∃ v, wr.drew = v := ⟨_, rfl⟩
      have d0 : Below wr.heap.size wr wd := by rw [← hwd]; exact (Below.refl wr.heap.size wr).drew
      rw [hwd] at hS ⊢
      clear hwd
      refine wpAnyH_take (i := 0) (oi := ⟨some 18, _, _, _, _, _⟩) (v := .slice (some ⟨pb, po, none⟩) N pc) rfl (by kernel_rfl) (by kernel_rfl) (by kernel_rfl) (fun _ _ _ h => h) (Or.inl ⟨by rfl, fun w _ => by go_simp⟩) hS ?_
      (try simp only [Act.put, List.setIfInBounds_toArray, List.set_cons_zero, List.set_cons_succ])
      refine wpAnyH_take (i := 1) (oi := ⟨some 19, _, _, _, _, _⟩) (v := .int .i64 (q : Int)) rfl (by kernel_rfl) (by kernel_rfl) (by kernel_rfl) (fun _ _ _ h => h) (Or.inl ⟨by rfl, fun w _ => by go_simp⟩) hS ?_
      (try simp only [Act.put, List.setIfInBounds_toArray, List.set_cons_zero, List.set_cons_succ])
      refine wpAnyH_take (i := 2) (oi := ⟨some 20, _, _, _, _, _⟩) (v := .pointer (some ⟨pb, po + q, none⟩)) rfl (by kernel_rfl) (by kernel_rfl) (by kernel_rfl) (fun _ _ _ h => h) (Or.inl ⟨by rfl, fun w _ => by go_simp⟩) hS ?_
      (try simp only [Act.put, List.setIfInBounds_toArray, List.set_cons_zero, List.set_cons_succ])
      refine wpAnyH_take (i := 3) (oi := ⟨some 21, _, _, _, _, _⟩) (v := .int .u8 (xx : Int)) rfl (by kernel_rfl) (by kernel_rfl) (by kernel_rfl) (fun _ _ _ h => h) (Or.inl ⟨by rfl, fun w hSw => by (try obtain ⟨s1, s2, s3⟩ := hSw); go_simp⟩) hS ?_
      (try simp only [Act.put, List.setIfInBounds_toArray, List.set_cons_zero, List.set_cons_succ])
      refine wpAnyH_take (i := 4) (oi := ⟨some 22, _, _, _, _, _⟩) (v := .int .i64 (xx : Int)) rfl (by kernel_rfl) (by kernel_rfl) (by kernel_rfl) (fun _ _ _ h => h) (Or.inl ⟨by rfl, fun w _ => by go_simp⟩) hS ?_
      (try simp only [Act.put, List.setIfInBounds_toArray, List.set_cons_zero, List.set_cons_succ])
      refine wpAnyH_take (i := 5) (oi := ⟨some 23, _, _, _, _, _⟩) (v := .pointer (some ⟨G, 4, none⟩)) rfl (by kernel_rfl) (by kernel_rfl) (by kernel_rfl) (fun _ _ _ h => h) (Or.inl ⟨by rfl, fun w _ => by go_simp⟩) hS ?_
      (try simp only [Act.put, List.setIfInBounds_toArray, List.set_cons_zero, List.set_cons_succ])
      refine wpAnyH_take (i := 6) (oi := ⟨some 24, _, _, _, _, _⟩) (v := .slice B m cb) rfl (by kernel_rfl) (by kernel_rfl) (by kernel_rfl) (fun _ _ _ h => h) (Or.inl ⟨by rfl, fun w hSw => by (try obtain ⟨s1, s2, s3⟩ := hSw); go_simp⟩) hS ?_
      (try simp only [Act.put, List.setIfInBounds_toArray, List.set_cons_zero, List.set_cons_succ])
      refine wpAnyH_take (i := 7) (oi := ⟨some 25, _, _, _, _, _⟩) (v := .int .i64 (m : Int)) rfl (by kernel_rfl) (by kernel_rfl) (by kernel_rfl) (fun _ _ _ h => h) (Or.inl ⟨by rfl, fun w _ => by go_simp⟩) hS ?_
      (try simp only [Act.put, List.setIfInBounds_toArray, List.set_cons_zero, List.set_cons_succ])
      refine wpAnyH_take (i := 8) (oi := ⟨some 26, _, _, _, _, _⟩) (v := .int .i64 (m1 : Int)) rfl (by kernel_rfl) (by kernel_rfl) (by kernel_rfl) (fun _ _ _ h => h) (Or.inl ⟨by rfl, fun w _ => by go_simp⟩) hS ?_
      (try simp only [Act.put, List.setIfInBounds_toArray, List.set_cons_zero, List.set_cons_succ])
      refine wpAnyH_take (i := 9) (oi := ⟨some 27, _, _, _, _, _⟩) (v := .int .i64 (j : Int)) rfl (by kernel_rfl) (by kernel_rfl) (by kernel_rfl) (fun _ _ _ h => h) (Or.inl ⟨by rfl, fun w _ => by go_simp⟩) hS ?_
      (try simp only [Act.put, List.setIfInBounds_toArray, List.set_cons_zero, List.set_cons_succ])
      refine wpAnyH_take (i := 10) (oi := ⟨some 7, _, _, _, _, _⟩) (v := .int .i64 (j : Int)) rfl (by kernel_rfl) (by kernel_rfl) (by kernel_rfl) (fun _ _ _ h => h) (Or.inl ⟨by rfl, fun w _ => by go_simp⟩) hS ?_
      (try simp only [Act.put, List.setIfInBounds_toArray, List.set_cons_zero, List.set_cons_succ])
      refine wpAnyH_done (by kernel_rfl) ?_ _
      clear hS
      have B3 := bt BB (Lib.hid d0)
      have K3 := kt KK (Lib.hid d0)
      have OW3 := Lib.hid (own_kept OW.out (w' := wd) (fun g hg => d0.block g (OW.out.lt g hg).2))
      have HSZ3 : Hid (G + 1 ≤ wd.heap.size) := Lib.hid (Nat.le_trans HSZ.out d0.size)
      clear HSR d0 e0 e1 e2 e3 e4 ez KK BB OW hpc1 hpb y1 y2 y3 y5 y6 y7 y8
      obtain ⟨A5, c5, w5, hrun, ho5, hb5⟩ := push_int (v := .slice AO no co) OW3.out HLO.out (j : Int) HSZ3.out (by have := HQ.out; omega) rfl
      have O5 := Lib.hid ho5
      have B5 := Lib.hid (B3.out.trans (hb5.mono (by have := HG.out; omega)))
      have K5 := Lib.hid (show Bk w5 G 29 [.int .u8 (c : Int), .bool k, .int .u32 (n : Int), .slice A bs.length ca, .slice B m cb] by unfold Bk; rw [hb5.block G (by omega)]; exact K3.out)
      obtain ⟨n5, hn5⟩ : ∃ n5, no + 1 = n5 := ⟨_, rfl⟩
      rw [hn5] at O5 hrun
      have HN5 := Lib.hid hn5
      have HL5 : Hid ((pre ++ [(j : Int)]).length = n5) := Lib.hid (by rw [List.length_append, HLO.out, ← hn5]; rfl)
      clear ho5 hb5 hn5 K3 OW3
      go_upto_region 7 with (refine wpList_app (o := ⟨some 31, _, _, _, _, _⟩) rfl (.tmp 28) (.tmp 30) _ _ rfl _ _ rfl rfl hrun ?_)
      clear hrun
      obtain ⟨e0, e1, e2, e3, e4, ez⟩ := K5.out.five
      by_cases hje : j = m
      · have t9 : ((j : Int) == (m : Int)) = true := by simp; omega
        have h2 := HPT.out
        rw [HPS.out, dif_neg (by rw [HM.out]; omega)] at h2
        subst h2
        have HFN : Hid (∃ A' n' c', (.slice A5 n5 c5 : Value) = .slice A' n' c' ∧ (pre ++ [(j : Int)]).length = n' ∧ Rd w5 A' (csZ (pre ++ [(j : Int)])) ∧ n' ≤ c' ∧ c' ≤ maxLen) := Lib.hid (by
          obtain ⟨A9, c9, he, hr, hc, hm⟩ := own_openX (xs := csZ (pre ++ [(j : Int)])) (by rw [csZ_len, HL5.out]; exact O5.out)
          rw [csZ_len, HL5.out] at he hc
          exact ⟨A9, n5, c9, he, HL5.out, hr.rd, hc, hm⟩)
        subst hje
        go_wp2_with fail
        go_ret
        obtain ⟨A9, n9, c9, h1, h2, h3, h4, h5⟩ := HFN.out
        exact ⟨A9, n9, c9, by rw [← h1]; rfl, h2, h3, h4, h5, B5.out⟩
      · have t9 : ((j : Int) == (m : Int)) = false := by simp; omega
        have hj : j < m := by omega
        have h2 := HPT.out
        rw [HPS.out, dif_pos (by rw [HM.out]; omega)] at h2
        obtain ⟨b, off, c', n', k', v1, v2, rfl, hb, hSb, f0, f1, f2, f3, f4, hE3⟩ := HRS.out.five (i := j) (by rw [HM.out]; exact hj)
        have HSM2 := Lib.hid (HSM.out.sub (i := j) (by rw [HM.out]; exact hj))
        have EE3 := Lib.hid hE3
        have HPN := Lib.hid (show (pre ++ [(j : Int)]) ++ pthL (ss[j]'(by rw [HM.out]; exact hj)) ((l.take 6).drop (q + 1)) = R by rw [← h2]; simp)
        have g0 := (B5.out.cell (p := ⟨b, off + j * 5, none⟩) hb).trans f0
        have g1 := (B5.out.cell (p := ⟨b, off + j * 5 + 1, none⟩) hb).trans f1
        have g2 := (B5.out.cell (p := ⟨b, off + j * 5 + 2, none⟩) hb).trans f2
        have g3 := (B5.out.cell (p := ⟨b, off + j * 5 + 3, none⟩) hb).trans f3
        have g4 := (B5.out.cell (p := ⟨b, off + j * 5 + 4, none⟩) hb).trans f4
        have ho1 : v1.oneCell' = true := by obtain ⟨_, _, _, _, _, _, _, _, _, h⟩ := EE3.out.form; injection h with h; simp at h; rw [h.2.2.2.1]; rfl
        have ho2 : v2.oneCell' = true := by obtain ⟨_, _, _, _, _, _, _, _, _, h⟩ := EE3.out.form; injection h with h; simp at h; rw [h.2.2.2.2]; rfl
        have HO := Lib.hid (And.intro ho1 ho2)
        clear ho1 ho2 f0 f1 f2 f3 f4 hE3 hSb h2 hb
        go_wp2_with (refine storeE rfl _ _ rfl rfl rfl K5.out rfl rfl rfl HO.out.1 HO.out.2 ?_; intro w6 h4 h5)
        have how : w6.ownsRow (G + 1) 3 1 (.slice A5 n5 c5) n5 (csZ (pre ++ [(j : Int)])) := own_kept O5.out (fun g hg => h5.out.block g (O5.out.lt g hg).2 (fun e => by injection e with e; have := (O5.out.lt g hg).1; omega))
        exact ⟨⟨q + 1, _, c', n', k', v1, v2, pre ++ [(j : Int)], A5, n5, c5, by omega, by omega, by go_num, rfl, HL5.out, by have := HN5.out; have := HQ.out; omega, HPN.out, HSM2.out, EE3.out, h4.out, how, B5.out.trans (only_below h5.out (by rw [HG.out]; exact Nat.le_refl _) B5.out.size)⟩, by simp [intOf]; omega⟩
    · have t6 : q < N → decide ((q : Int) < 6) = false := fun h => by simp; omega
      have hdr : (l.take 6).drop q = [] := List.drop_eq_nil_of_le (by rw [List.length_take, HN.out]; omega)
      have h2 := HPT.out
      rw [hdr, pthL_nil, List.append_nil] at h2
      subst h2
      have HFN : Hid (∃ A' n' c', (.slice AO no co : Value) = .slice A' n' c' ∧ pre.length = n' ∧ Rd wr A' (csZ pre) ∧ n' ≤ c' ∧ c' ≤ maxLen) := Lib.hid (by
        obtain ⟨A9, c9, he, hr, hc, hm⟩ := own_openX (xs := csZ pre) (by rw [csZ_len, HLO.out]; exact OW.out)
        rw [csZ_len, HLO.out] at he hc
        exact ⟨A9, no, c9, he, HLO.out, hr.rd, hc, hm⟩)
      clear hdr HPT
      by_cases hqn : q < N
      · have t7 := t6 hqn
        clear t6
        go_wp2_with fail
        go_ret
        obtain ⟨A9, n9, c9, h1, h2, h3, h4, h5⟩ := HFN.out
        exact ⟨A9, n9, c9, by rw [← h1]; rfl, h2, h3, h4, h5, BB.out⟩
      · clear t6
        go_wp2_with fail
        go_ret
        obtain ⟨A9, n9, c9, h1, h2, h3, h4, h5⟩ := HFN.out
        exact ⟨A9, n9, c9, by rw [← h1]; rfl, h2, h3, h4, h5, BB.out⟩
end Go.Proofs.Ytfbdeefeagednaa.Fl
