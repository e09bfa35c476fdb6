/-
  Layer 12: Offset, Report.
  Conditions: none beyond that values read as what they are.
-/
import Derived.Test.YtfbdeefeagednaaFlM
namespace Go.Proofs.Ytfbdeefeagednaa.Fl
open Go.RowKit

theorem offE_cons {c n : Nat} {k : Bool} {bs : List Nat} {ss : List El} {i : Nat} {t : List Int} (h : i < ss.length) : offE (.mk c n k bs ss) ((i : Int) :: t) = (encE (.mk c n k bs ss)).length - (encS (ss.drop i)).length + offE ss[i] t := by
  rw [offE, dif_pos ⟨by omega, by simpa using h⟩]
  rfl
/-- What Offset returns. -/
def offR (e : El) (p : List Int) : Nat × Nat := if (sizR e).2 ≠ 0 then (0, (sizR e).2) else match atE e p with
  | none => (0, 19)
  | some _ => (offE e p, 0)
theorem offE_le : ∀ (p : List Int) (e : El), OKe e → offE e p ≤ (encE e).length
  | [], e, _ => by rw [offE]; omega
  | z :: t, .mk c n k bs ss, h => by
    rw [offE]
    split
    · rename_i hz
      have h1 := offE_le t ss[z.toNat] (h.sub hz.2)
      have h2 := encS_le (c := c) (n := n) (k := k) (bs := bs) (ss := ss)
      have h3 := encS_drop_le ss z.toNat
      have h4 : (encE ss[z.toNat]).length ≤ (encS (ss.drop z.toNat)).length := by
        rw [List.drop_eq_getElem_cons hz.2, encS, List.length_append]; omega
      omega
    · omega
set_option maxHeartbeats 4000000 in
set_option maxRecDepth 100000 in
theorem off_any {x : Bool} {S : Nat → Prop} (e : El) (v : Value) (path : List Int) (P : Option Addr) (N pc : Nat) (w : World) (hE : RdE x S w e v) (hd : depE e ≤ 10000) (hco : conOk e) (hP : Rd w P (csZ path)) (hN : path.length = N) (hN1 : N ≤ 1000000) (a f : Nat) (hR : offR e path = (a, f)) :
    Calls Try.prog 14 #[v, .slice P N pc] w fun e' w' => e' = .returned (.tuple #[.int .i64 (a : Int), .int .i64 (f : Int)]) ∧ Below w.heap.size w w' := by
  have hE2 : RdE x (· < w.heap.size) w e v := RdE.keep (Nat.le_refl _) (fun _ _ _ => rfl) (fun _ _ h => h) _ _ hE
  obtain ⟨c, n, k, u1, u2, hv⟩ : ∃ c n k u1 u2, v = elV c n k u1 u2 := by
    obtain ⟨c, n, k, A, l, q, A2, l2, q2, h⟩ := hE.form
    exact ⟨_, _, _, _, _, h⟩
  subst hv
  have hb0 := bel1 w (.cells #[.int .u8 (c : Int), .bool k, .int .u32 (n : Int), u1, u2] 29)
  have hp0 := eput_any e _ _ hd (hE2.stay hb0) hco
  have HPUT := Lib.hid hp0
  have K0 := Lib.hid (Bk.new w 29 [.int .u8 (c : Int), .bool k, .int .u32 (n : Int), u1, u2])
  have B0 := Lib.hid hb0
  obtain ⟨G, hG⟩ : ∃ G, w.heap.size = G := ⟨_, rfl⟩
  have HG := Lib.hid hG
  rw [hG] at K0
  have E0 := Lib.hid hE2
  have HPA := Lib.hid hP
  have HN := Lib.hid hN
  have HRR := Lib.hid hR
  clear hp0 hb0 hE hE2 hd hco hP hN hG hR
  by_cases hs : (sizR e).2 ≠ 0
  · have he : encR e = ([], (sizR e).2) := by unfold encR; rw [if_neg hs]
    rw [he] at HPUT
    obtain ⟨rfl, hf⟩ : 0 = a ∧ (sizR e).2 = f := by have := HRR.out; unfold offR at this; rw [if_pos hs] at this; exact Prod.mk.inj this
    rw [hf] at HPUT hs
    have hfb : ((f : Int) != 0) = true := by simp; omega
    clear he hf HRR E0 HPA K0
    go_enter Try.func14, Try.ntmps14
    go_wp2_with fail
    refine HPUT.out.mono ?_
    rintro e' w1 ⟨A9, rfl, _, _, hb1⟩
    have B1 := bt B0 (Lib.hid hb1)
    clear hb1
    go_wp2_with fail
    go_ret2
    exact ⟨rfl, B1.out⟩
  have hs0 : (sizR e).2 = 0 := by omega
  have hok := OKe.of hs0
  have he : encR e = (encE e, 0) := by unfold encR; rw [if_pos hs0]
  rw [he] at HPUT
  have HRR2 : Hid ((match atE e path with | none => (0, 19) | some _ => (offE e path, 0)) = (a, f)) := Lib.hid (by have := HRR.out; unfold offR at this; rw [if_neg hs] at this; exact this)
  have HOK := Lib.hid hok
  have HLE := Lib.hid (offE_le path e hok)
  obtain ⟨L, hL⟩ : ∃ L, (encE e).length = L := ⟨_, rfl⟩
  have hLm : L ≤ 1048576 := by rw [← hL]; exact hok.2.2.2
  rw [hL] at HLE
  clear he hs hs0 hok HRR hL
  go_enter Try.func14, Try.ntmps14
  go_wp2_with fail
  refine HPUT.out.mono ?_
  rintro e' w1 ⟨A9, rfl, _, _, hb1⟩
  have B1 := bt B0 (Lib.hid hb1)
  have K1 := kt K0 (Lib.hid hb1)
  rw [HG.out]
  clear hb1 HPUT K0 B0
  go_wp2_with fail
  go_loopw [8, 10, 21] (fun s _ i wr => ∃ (q z : Nat) (y : El) (c n : Nat) (k : Bool) (u1 u2 : Value), q ≤ N ∧ i = .int .i64 (q : Int) ∧ s = .int .i64 (z : Int) ∧ atE e path = atE y (path.drop q) ∧ offE e path = z + offE y (path.drop q) ∧ OKe y ∧ z ≤ L ∧
      RdE x (· < w.heap.size) w y (elV c n k u1 u2) ∧ Bk wr G 29 [.int .u8 (c : Int), .bool k, .int .u32 (n : Int), u1, u2] ∧ Below w.heap.size w wr) (fun _ _ i _ => N - (intOf i).toNat)
  case atStart => exact ⟨0, 0, e, c, n, k, u1, u2, Nat.zero_le _, rfl, rfl, by rw [List.drop_zero], by rw [List.drop_zero, Nat.zero_add], HOK.out, Nat.zero_le _, E0.out, K1.out, B1.out⟩
  case round =>
    clear K1 B1 E0 HOK
    obtain ⟨q, z, y, c, n, k, u1, u2, hq, rfl, rfl, hat, hof, hok, hzL, hE, hk, hbl⟩ := hrel
    have KK := Lib.hid hk
    have BB := Lib.hid hbl
    have HAT := Lib.hid hat
    have HOF := Lib.hid hof
    have HOK := Lib.hid hok
    have EE := Lib.hid hE
    obtain ⟨e0, e1, e2, e3, e4, ez⟩ := KK.out.five
    clear hk hbl hat hof hok hE
    by_cases hlt : q < N
    · obtain ⟨t, ht⟩ : ∃ t, path[q]'(by rw [HN.out]; exact hlt) = t := ⟨_, rfl⟩
      have hdr : path.drop q = t :: path.drop (q + 1) := by rw [List.drop_eq_getElem_cons (by rw [HN.out]; exact hlt), ht]
      obtain ⟨pb, po, rfl, hpb, hpc⟩ := (HPA.out.below BB.out).at_ (k := q) (by rw [csZ_len, HN.out]; exact hlt)
      have hpc1 : wr.cell? ⟨pb, po + q, none⟩ = some (.int .i64 t) := by rw [hpc]; unfold csZ; rw [List.getElem_map, ht]
      obtain ⟨yc, yn, yk, bs, ss⟩ := y
      have hE1 := EE.out
      obtain ⟨_, _, _, A, ca, B, cb, hv, _, _, _, hm1, hm2, _, hRS⟩ := hE1
      injection hv with hv
      simp at hv
      obtain ⟨hv1, rfl, hv2, rfl, rfl⟩ := hv
      obtain rfl : c = yc := by omega
      obtain rfl : n = yn := by omega
      obtain ⟨m, hm⟩ : ∃ m, ss.length = m := ⟨_, rfl⟩
      have HRS := Lib.hid hRS
      have HM := Lib.hid hm
      have hmm : m ≤ 9223372036854775807 := by unfold maxLen at hm2; omega
      rw [hdr] at HAT HOF
      have HH := Lib.hid fun W => has_any (x := x) (S := S) c n k (.slice A bs.length ca) B m cb t W
      rw [hm] at KK e4 EE
      clear hpc hdr ht hRS hm1 hm2 hv1 hv2
      clear hm
      by_cases hin : 0 ≤ t ∧ t < (m : Int)
      · obtain ⟨j, rfl⟩ : ∃ j : Nat, t = (j : Int) := ⟨t.toNat, by omega⟩
        have hj : j < m := by omega
        have hz : (decide (0 ≤ (j : Int)) && decide ((j : Int) < (m : Int))) = true := by simp; omega
        rw [hz] at HH
        obtain ⟨b, off, c', n', k', v1, v2, rfl, hb, hSb, f0, f1, f2, f3, f4, hE3⟩ := HRS.out.five (i := j) (by rw [HM.out]; exact hj)
        have hat2 : atE (.mk c n k bs ss) ((j : Int) :: path.drop (q + 1)) = atE (ss[j]'(by rw [HM.out]; exact hj)) (path.drop (q + 1)) := by
          rw [atE, dif_pos ⟨by omega, by rw [HM.out]; simpa using hj⟩]; rfl
        have hof2 := offE_cons (c := c) (n := n) (k := k) (bs := bs) (ss := ss) (i := j) (t := path.drop (q + 1)) (by rw [HM.out]; exact hj)
        have HAT2 := Lib.hid (HAT.out.trans hat2)
        have hof3 := HOF.out
        rw [hof2] at hof3
        obtain ⟨D, hD⟩ : ∃ D, (encE (.mk c n k bs ss)).length - (encS (ss.drop j)).length = D := ⟨_, rfl⟩
        rw [hD] at hof3
        have HOF2 := Lib.hid (show offE e path = (z + D) + offE (ss[j]'(by rw [HM.out]; exact hj)) (path.drop (q + 1)) by rw [hof3]; omega)
        have hzD : z + D ≤ L := by have := HLE.out; have := HOF2.out; omega
        have HOK2 := Lib.hid (HOK.out.sub (i := j) (by rw [HM.out]; exact hj))
        have EE3 := Lib.hid hE3
        have HOO := Lib.hid fun (W : World) (hb : Below w.heap.size w W) => offOf_any c n k bs ss _ j W (EE.out.below (B := w.heap.size) (fun _ h _ => h) hb) HOK.out (by rw [HM.out]; exact hj)
        rw [hD] at HOO
        have HC := Lib.hid (And.intro f0 (And.intro f1 (And.intro f2 (And.intro f3 f4))))
        have HBL := Lib.hid hb
        have HG2 : Hid (b ≠ G) := Lib.hid (by have := HG.out; omega)
        clear hat2 hof2 hof3 hD hE3 hSb f0 f1 f2 f3 f4 hz HAT HOF hin hb
        go_wp2_with fail
        refine (HH.out _).mono ?_
        rintro e' w2 ⟨rfl, hb2⟩
        have B2 := bt BB (Lib.hid hb2)
        have K2 := kt KK (Lib.hid hb2)
        clear hb2 e0 e1 e2 e3 e4 ez KK BB hpc1 hpb
        obtain ⟨e0, e1, e2, e3, e4, ez⟩ := K2.out.five
        go_wp2_with fail
        refine (HOO.out _ B2.out).mono ?_
        rintro e' w3 ⟨rfl, hb3⟩
        have B3 := bt B2 (Lib.hid hb3)
        have K3 := kt K2 (Lib.hid hb3)
        clear hb3 e0 e1 e2 e3 e4 ez K2 B2 HOO
        have e4 : w3.cell? ⟨G, 4, none⟩ = some (.slice (some ⟨b, off, none⟩) m cb) := K3.out.cell 4
        have g0 := (B3.out.cell (p := ⟨b, off + j * 5, none⟩) HBL.out).trans HC.out.1
        have g1 := (B3.out.cell (p := ⟨b, off + j * 5 + 1, none⟩) HBL.out).trans HC.out.2.1
        have g2 := (B3.out.cell (p := ⟨b, off + j * 5 + 2, none⟩) HBL.out).trans HC.out.2.2.1
        have g3 := (B3.out.cell (p := ⟨b, off + j * 5 + 3, none⟩) HBL.out).trans HC.out.2.2.2.1
        have g4 := (B3.out.cell (p := ⟨b, off + j * 5 + 4, none⟩) HBL.out).trans HC.out.2.2.2.2
        have ho1 : v1.oneCell' = true := by obtain ⟨_, _, _, _, _, _, _, _, _, h⟩ := EE3.out.form; injection h with h; simp at h; rw [h.2.2.2.1]; rfl
        have ho2 : v2.oneCell' = true := by obtain ⟨_, _, _, _, _, _, _, _, _, h⟩ := EE3.out.form; injection h with h; simp at h; rw [h.2.2.2.2]; rfl
        have HO := Lib.hid (And.intro ho1 ho2)
        have hzD9 : (z : Int) + (D : Int) ≤ 9223372036854775807 := by omega
        clear ho1 ho2
        go_wp2_with (refine storeE rfl _ _ rfl rfl rfl K3.out rfl rfl rfl HO.out.1 HO.out.2 ?_; intro w4 h4 h5)
        exact ⟨⟨q + 1, z + D, _, c', n', k', v1, v2, by omega, by go_num, by go_num, HAT2.out, HOF2.out, HOK2.out, hzD, EE3.out, h4.out, B3.out.trans (only_below h5.out (by rw [HG.out]; exact Nat.le_refl _) B3.out.size)⟩, by simp [intOf]; omega⟩
      · have hz : (decide (0 ≤ t) && decide (t < (m : Int))) = false := by simp; omega
        rw [hz] at HH
        have hat2 : atE (.mk c n k bs ss) (t :: path.drop (q + 1)) = none := by
          rw [atE, dif_neg (by rw [HM.out]; omega)]
        obtain ⟨rfl, rfl⟩ : 0 = a ∧ 19 = f := by have := HRR2.out; rw [HAT.out, hat2] at this; exact Prod.mk.inj this
        clear hz hat2 hin
        go_wp2_with fail
        refine (HH.out _).mono ?_
        rintro e' w2 ⟨rfl, hb2⟩
        have B2 := bt BB (Lib.hid hb2)
        clear hb2
        go_wp2_with fail
        go_ret2
        exact ⟨rfl, B2.out⟩
    · have hdr : path.drop q = [] := List.drop_eq_nil_of_le (by rw [HN.out]; omega)
      have h2 := HRR2.out
      have h3 := HOF.out
      rw [HAT.out, hdr, atE_nil] at h2
      rw [hdr, offE, Nat.add_zero] at h3
      dsimp only at h2
      obtain ⟨h4, rfl⟩ := Prod.mk.inj h2
      have HF := Lib.hid (show z = a by omega)
      clear hdr h2 h3 h4
      go_wp2_with fail
      go_ret2
      exact ⟨by rw [HF.out]; rfl, BB.out⟩
end Go.Proofs.Ytfbdeefeagednaa.Fl
