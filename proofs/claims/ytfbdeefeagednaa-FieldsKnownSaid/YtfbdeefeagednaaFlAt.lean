/-
  Layer 12: the program's At: the element to which a path leads, in new memory.
  Conditions: the element is not too great for a machine.
-/
import Derived.Test.YtfbdeefeagednaaFlCl
import Derived.Test.YtfbdeefeagednaaFlSp
import Derived.Test.YtfbdeefeagednaaFlN
namespace Go.Proofs.Ytfbdeefeagednaa.Fl
open Go.RowKit

/-- Not too great. -/
def SMe (e : El) : Prop := smlE e ∧ depE e ≤ 10000 ∧ itE e ≤ 2000000000
theorem SMe.sub {c n : Nat} {k : Bool} {bs : List Nat} {ss : List El} (h : SMe (.mk c n k bs ss)) {i : Nat} (hi : i < ss.length) : SMe ss[i] := by
  obtain ⟨h1, h2, h3⟩ := h
  rw [smlE] at h1
  rw [depE] at h2
  rw [itE] at h3
  have hm := List.getElem_mem hi
  have := depE_mem hm
  have := itS_take hi
  have := itS_le (ss := ss) (i + 1)
  exact ⟨sml_mem h1.2.2 hm, by omega, by omega⟩
@[reducible] def zeE : Value := .agg #[.int .u8 0, .bool false, .int .u32 0, .slice none 0 0, .slice none 0 0]
theorem ownE_kept {b b' : Nat} {e : El} {u : Value} {w w' : World} (h : OwnE b e u w) (hb : b' ≤ b) (hk : ∀ i, b ≤ i → i < w.heap.size → w'.heap[i]? = w.heap[i]?) : OwnE b' e u w' := by
  obtain ⟨c, n, k, bs, ss⟩ := e
  obtain ⟨A, N, c3, B, m, h1, h2, h3, h4, h5⟩ := h
  refine ⟨A, N, c3, B, m, h1, h2, h3, ⟨own_kept (h4.mono0 hb).1 (fun g hg => hk g (h4.1.lt g hg).1 (h4.1.lt g hg).2), h4.2⟩, ?_⟩
  rcases h5 with h5 | ⟨g, L, h5, h6, h7, h8⟩
  · exact .inl h5
  · exact .inr ⟨g, L, h5, Nat.le_trans hb h6, by unfold Bk; rw [hk g h6 h7.lt]; exact h7, h8⟩
/-- An element is given, or there is none. -/
def GvA (w : World) (r : Option El) (e : Ending) (w' : World) : Prop :=
  match r with
  | none => e = .returned (.tuple #[zeE, .int .i64 19]) ∧ Below w.heap.size w w'
  | some d => ∃ u, e = .returned (.tuple #[u, .int .i64 0]) ∧ RdE true (fun i => w.heap.size ≤ i ∧ i < w'.heap.size) w' d u ∧ OwnE w.heap.size d u w' ∧ Below w.heap.size w w'
set_option linter.unusedSimpArgs false in
set_option maxHeartbeats 4000000 in
set_option maxRecDepth 100000 in
theorem at_any {x : Bool} {S : Nat → Prop} (e : El) (v : Value) (path : List Int) (P : Option Addr) (N pc : Nat) (w : World) (hE : RdE x S w e v) (hsm : SMe e) (hP : Rd w P (csZ path)) (hN : path.length = N) (hN1 : N ≤ 1000000) (r : Option El) (hR : atE e path = r) :
    Calls Try.prog 15 #[v, .slice P N pc] w (GvA w r) := by
  have hE2 : RdE x (· < w.heap.size) w e v := RdE.keep (Nat.le_refl _) (fun _ _ _ => rfl) (fun _ _ h => h) _ _ hE
  obtain ⟨c, n, k, u1, u2, hv⟩ : ∃ c n k u1 u2, v = elV c n k u1 u2 := by
    obtain ⟨c, n, k, A, l, q, A2, l2, q2, h⟩ := hE.form
    exact ⟨_, _, _, _, _, h⟩
  subst hv
  obtain ⟨G, hG⟩ : ∃ G, w.heap.size = G := ⟨_, rfl⟩
  obtain ⟨w1, hw1⟩ : ∃ v, w.alloc (.cells #[.int .u8 (c : Int), .bool k, .int .u32 (n : Int), u1, u2] 29) = v := ⟨_, rfl⟩
  obtain ⟨w2, hw2⟩ : ∃ v, w1.alloc (.cells #[.int .u8 0, .bool false, .int .u32 0, .slice none 0 0, .slice none 0 0] 29) = v := ⟨_, rfl⟩
  have b1 : Below w.heap.size w w1 := by rw [← hw1]; exact bel1 _ _
  have b2 : Below w1.heap.size w1 w2 := by rw [← hw2]; exact bel1 _ _
  have z1 : w1.heap.size = G + 1 := by rw [← hw1, World.size_alloc, hG]
  have k1 : Bk w1 G 29 [.int .u8 (c : Int), .bool k, .int .u32 (n : Int), u1, u2] := by rw [← hw1, ← hG]; exact Bk.new w _ [_, _, _, _, _]
  have k2 : Bk w2 (G + 1) 29 [.int .u8 0, .bool false, .int .u32 0, .slice none 0 0, .slice none 0 0] := by rw [← hw2, ← z1]; exact Bk.new w1 _ [_, _, _, _, _]
  rw [← hw1] at hw2
  have K1 := kt (Lib.hid k1) (Lib.hid b2)
  have K2 := Lib.hid k2
  have B2 := bt (Lib.hid b1) (Lib.hid b2)
  have HW := Lib.hid (And.intro hw2 hG)
  have HG := Lib.hid hG
  have E0 := Lib.hid hE2
  have HSM := Lib.hid hsm
  have HPA := Lib.hid hP
  have HN := Lib.hid hN
  have HRR := Lib.hid hR
  clear hE hE2 hsm hP hN hR hG hw1 hw2 b1 b2 z1 k1 k2
  go_enter Try.func15, Try.ntmps15
  go_upto_region 1 with fail
  rw [HW.out.1, HW.out.2]
  go_wp2_with fail
  go_loopw [7, 12] (fun _ i wr => ∃ (q : Nat) (y : El) (c n : Nat) (k : Bool) (u1 u2 : Value), q ≤ N ∧ i = .int .i64 (q : Int) ∧ atE y (path.drop q) = r ∧ SMe y ∧
      RdE x (· < w.heap.size) w y (elV c n k u1 u2) ∧ Bk wr G 29 [.int .u8 (c : Int), .bool k, .int .u32 (n : Int), u1, u2] ∧ Bk wr (G + 1) 29 [.int .u8 0, .bool false, .int .u32 0, .slice none 0 0, .slice none 0 0] ∧ Below w.heap.size w wr) (fun _ i _ => N - (intOf i).toNat)
  case atStart => exact ⟨0, e, c, n, k, u1, u2, Nat.zero_le _, rfl, by rw [List.drop_zero]; exact HRR.out, HSM.out, E0.out, K1.out, K2.out, B2.out⟩
  case round =>
    clear K1 K2 B2 E0 HSM HRR
    obtain ⟨q, y, c, n, k, u1, u2, hq, rfl, hat, hsm, hE, hk, hk2, hbl⟩ := hrel
    have KK := Lib.hid hk
    have K2 := Lib.hid hk2
    have BB := Lib.hid hbl
    have HAT := Lib.hid hat
    have HSM := Lib.hid hsm
    have EE := Lib.hid hE
    obtain ⟨e0, e1, e2, e3, e4, ez⟩ := KK.out.five
    clear hk hk2 hbl hat hsm hE
    by_cases hlt : q < N
    · obtain ⟨t, ht⟩ : ∃ t, path[q]'(by rw [HN.out]; exact hlt) = t := ⟨_, rfl⟩
      have hdr : path.drop q = t :: path.drop (q + 1) := by rw [List.drop_eq_getElem_cons (by rw [HN.out]; exact hlt), ht]
      obtain ⟨pb, po, rfl, hpb, hpc⟩ := (HPA.out.below BB.out).at_ (k := q) (by rw [csZ_len, HN.out]; exact hlt)
      have hpc1 : wr.cell? ⟨pb, po + q, none⟩ = some (.int .i64 t) := by rw [hpc]; unfold csZ; rw [List.getElem_map, ht]
      obtain ⟨yc, yn, yk, bs, ss⟩ := y
      have hE1 := EE.out
      obtain ⟨_, _, _, A, ca, B, cb, hv, _, _, _, hm1, hm2, _, hRS⟩ := hE1
      injection hv with hv
      simp at hv
      obtain ⟨hv1, rfl, hv2, rfl, rfl⟩ := hv
      obtain rfl : c = yc := by omega
      obtain rfl : n = yn := by omega
      obtain ⟨m, hm⟩ : ∃ m, ss.length = m := ⟨_, rfl⟩
      have HRS := Lib.hid hRS
      have HM := Lib.hid hm
      have hmm : m ≤ 9223372036854775807 := by unfold maxLen at hm2; omega
      rw [hdr] at HAT
      have HH := Lib.hid fun W => has_any (x := x) (S := S) c n k (.slice A bs.length ca) B m cb t W
      rw [hm] at KK e4 EE
      clear hpc hdr ht hRS hm1 hm2 hv1 hv2
      clear hm
      by_cases hin : 0 ≤ t ∧ t < (m : Int)
      · obtain ⟨j, rfl⟩ : ∃ j : Nat, t = (j : Int) := ⟨t.toNat, by omega⟩
        have hj : j < m := by omega
        have hz : (decide (0 ≤ (j : Int)) && decide ((j : Int) < (m : Int))) = true := by simp; omega
        rw [hz] at HH
        obtain ⟨b, off, c', n', k', v1, v2, rfl, hb, hSb, f0, f1, f2, f3, f4, hE3⟩ := HRS.out.five (i := j) (by rw [HM.out]; exact hj)
        have hat2 : atE (.mk c n k bs ss) ((j : Int) :: path.drop (q + 1)) = atE (ss[j]'(by rw [HM.out]; exact hj)) (path.drop (q + 1)) := by
          rw [atE, dif_pos ⟨by omega, by rw [HM.out]; simpa using hj⟩]; rfl
        have HAT2 := Lib.hid (hat2.symm.trans HAT.out)
        have HSM2 := Lib.hid (HSM.out.sub (i := j) (by rw [HM.out]; exact hj))
        have EE3 := Lib.hid hE3
        have HC := Lib.hid (And.intro f0 (And.intro f1 (And.intro f2 (And.intro f3 f4))))
        have HBL := Lib.hid hb
        have HG2 : Hid (b ≠ G) := Lib.hid (by have := HG.out; omega)
        clear hat2 hE3 hSb f0 f1 f2 f3 f4 hz HAT hin hb HSM
        go_wp2_with fail
        refine (HH.out _).mono ?_
        rintro e' w3 ⟨rfl, hb3⟩
        have B3 := bt BB (Lib.hid hb3)
        have K3 := kt KK (Lib.hid hb3)
        have KR3 := kt K2 (Lib.hid hb3)
        clear hb3 e0 e1 e2 e3 e4 ez KK BB K2 hpc1 hpb
        have e4 : w3.cell? ⟨G, 4, none⟩ = some (.slice (some ⟨b, off, none⟩) m cb) := K3.out.cell 4
        have g0 := (B3.out.cell (p := ⟨b, off + j * 5, none⟩) HBL.out).trans HC.out.1
        have g1 := (B3.out.cell (p := ⟨b, off + j * 5 + 1, none⟩) HBL.out).trans HC.out.2.1
        have g2 := (B3.out.cell (p := ⟨b, off + j * 5 + 2, none⟩) HBL.out).trans HC.out.2.2.1
        have g3 := (B3.out.cell (p := ⟨b, off + j * 5 + 3, none⟩) HBL.out).trans HC.out.2.2.2.1
        have g4 := (B3.out.cell (p := ⟨b, off + j * 5 + 4, none⟩) HBL.out).trans HC.out.2.2.2.2
        have ho1 : v1.oneCell' = true := by obtain ⟨_, _, _, _, _, _, _, _, _, h⟩ := EE3.out.form; injection h with h; simp at h; rw [h.2.2.2.1]; rfl
        have ho2 : v2.oneCell' = true := by obtain ⟨_, _, _, _, _, _, _, _, _, h⟩ := EE3.out.form; injection h with h; simp at h; rw [h.2.2.2.2]; rfl
        have HO := Lib.hid (And.intro ho1 ho2)
        clear ho1 ho2
        go_wp2_with (refine storeE rfl _ _ rfl rfl rfl K3.out rfl rfl rfl HO.out.1 HO.out.2 ?_; intro w4 h4 h5)
        have hkr : Bk w4 (G + 1) 29 [.int .u8 0, .bool false, .int .u32 0, .slice none 0 0, .slice none 0 0] := by
          unfold Bk; rw [h5.out.block (G + 1) KR3.out.lt (fun e => by injection e with e; omega)]; exact KR3.out
        exact ⟨⟨q + 1, _, c', n', k', v1, v2, by omega, by go_num, HAT2.out, HSM2.out, EE3.out, h4.out, hkr, B3.out.trans (only_below h5.out (by rw [HG.out]; exact Nat.le_refl _) B3.out.size)⟩, by simp [intOf]; omega⟩
      · have hz : (decide (0 ≤ t) && decide (t < (m : Int))) = false := by simp; omega
        rw [hz] at HH
        have hat2 : atE (.mk c n k bs ss) (t :: path.drop (q + 1)) = none := by
          rw [atE, dif_neg (by rw [HM.out]; omega)]
        obtain rfl : none = r := hat2.symm.trans HAT.out
        clear hz hat2 hin
        go_wp2_with fail
        refine (HH.out _).mono ?_
        rintro e' w3 ⟨rfl, hb3⟩
        have B3 := bt BB (Lib.hid hb3)
        have KR3 := kt K2 (Lib.hid hb3)
        clear hb3
        go_wp2_with (refine storeE rfl _ _ rfl rfl rfl KR3.out rfl rfl rfl rfl rfl ?_; intro w4 h4 h5)
        exact retE2 rfl rfl rfl h4.out rfl ⟨rfl, B3.out.trans (only_below h5.out (by rw [HG.out]; omega) B3.out.size)⟩
    · have hdr : path.drop q = [] := List.drop_eq_nil_of_le (by rw [HN.out]; omega)
      have h2 := HAT.out
      rw [hdr, atE_nil] at h2
      subst h2
      clear hdr HAT
      obtain ⟨gi, hgi⟩ : ∃ g, wr.heap.size = g := ⟨_, rfl⟩
      obtain ⟨w5, hw5⟩ : ∃ v, wr.alloc (.cells #[.int .i64 2147483647] 3) = v := ⟨_, rfl⟩
      have b5 : Below wr.heap.size wr w5 := by rw [← hw5]; exact bel1 _ _
      have B5 := bt BB (Lib.hid b5)
      have KI : Bk w5 gi 3 [.int .i64 ((2147483647 : Nat) : Int)] := by rw [← hw5, ← hgi]; exact Bk.new wr _ [_]
      have K5 := kt KK (Lib.hid b5)
      have KR5 := kt K2 (Lib.hid b5)
      have hgw : w.heap.size ≤ gi := by rw [← hgi]; exact BB.out.size
      have hgr : G + 1 < gi := by rw [← hgi]; exact K2.out.lt
      have HSP := Lib.hid (spend_any gi (fun i hi e => by have : i < w.heap.size := hi; omega) y _ 65536 2147483647 w5 (EE.out.below (B := w.heap.size) (fun _ h _ => h) B5.out) (by have := HSM.out.2.1; omega) (Nat.le_refl _) (by have := HSM.out.2.2; omega) (Nat.le_refl _) KI)
      have HX := Lib.hid (And.intro hgw hgr)
      have HW5 := Lib.hid hw5
      have HGI := Lib.hid hgi
      clear b5 KI hw5 hgi hgw hgr e0 e1 e2 e3 e4 ez
      go_upto_region 9 with fail
      rw [HW5.out, HGI.out]
      obtain ⟨e0, e1, e2, e3, e4, ez⟩ := K5.out.five
      go_wp2_with fail
      refine HSP.out.mono ?_
      rintro e' w6 ⟨rfl, _, hg6⟩
      have k6 : Bk w6 G 29 [.int .u8 (c : Int), .bool k, .int .u32 (n : Int), u1, u2] := by
        unfold Bk; rw [hg6.block G K5.out.lt (fun e => by injection e with e; have := HX.out.2; omega)]; exact K5.out
      have kr6 : Bk w6 (G + 1) 29 [.int .u8 0, .bool false, .int .u32 0, .slice none 0 0, .slice none 0 0] := by
        unfold Bk; rw [hg6.block (G + 1) KR5.out.lt (fun e => by injection e with e; have := HX.out.2; omega)]; exact KR5.out
      have B6 := Lib.hid (B5.out.trans (only_below hg6 HX.out.1 B5.out.size))
      have K6 := Lib.hid k6
      have KR6 := Lib.hid kr6
      have HCL := Lib.hid (clone_any y _ w6 (EE.out.below (B := w.heap.size) (fun _ h _ => h) B6.out) HSM.out.1)
      clear hg6 k6 kr6 e0 e1 e2 e3 e4 ez HSP K5 KR5 B5
      obtain ⟨e0, e1, e2, e3, e4, ez⟩ := K6.out.five
      go_wp2_with fail
      refine HCL.out.mono ?_
      rintro e' w7 ⟨uu, rfl, hu, how, hb7⟩
      obtain ⟨c5, n5, k5, A5, l5, q5, A6, l6, q6, rfl⟩ := hu.form
      have KR7 := kt KR6 (Lib.hid hb7)
      have B7 := bt B6 (Lib.hid hb7)
      have HU := Lib.hid hu
      have HOW := Lib.hid how
      have HS6 : Hid (G + 1 < w6.heap.size) := Lib.hid KR6.out.lt
      have HS67 := Lib.hid B6.out.size
      clear hu how hb7 e0 e1 e2 e3 e4 ez
      go_wp2_with (refine storeE rfl _ _ rfl rfl rfl KR7.out rfl rfl rfl rfl rfl ?_; intro w8 h4 h5)
      have h5' := h5.out
      refine retE2 rfl rfl rfl h4.out rfl ⟨_, rfl, ?_, ownE_kept HOW.out HS67.out (fun i hi hk => h5'.block i hk (fun e => by injection e with e; have := HS6.out; omega)), B7.out.trans (only_below h5' (by rw [HG.out]; omega) B7.out.size)⟩
      exact RdE.keep h5'.size (fun i hi hk => h5'.block i hk (fun e => by injection e with e; have := HS6.out; have := hi.1; omega)) (fun i hi hk => ⟨Nat.le_trans HS67.out hi.1, Nat.lt_of_lt_of_le hk h5'.size⟩) _ _ HU.out
end Go.Proofs.Ytfbdeefeagednaa.Fl
