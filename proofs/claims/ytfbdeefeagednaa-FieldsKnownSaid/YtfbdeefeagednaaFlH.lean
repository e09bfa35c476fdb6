/-
  Layer 12: the reference's Sequence.
  Conditions: none beyond that values read as what they are.
-/
import Derived.Test.YtfbdeefeagednaaFlG
namespace Go.Proofs.Ytfbdeefeagednaa.Fl
open Go.RowKit

/-- One more number appended to what the call has built. -/
theorem push_int {w : World} {base : Nat} {v : Value} {l : List Int} {n c : Nat} {A : Option Addr} (hown : w.ownsRow base 3 1 (.slice A n c) n (csZ l)) (hl : l.length = n) (z : Int) (hb : base ≤ w.heap.size) (hn : n ≤ 1000000) (_hv : v = .slice A n c) :
    ∃ A' c' w', (Builtin.append_ #[30, 30] 30 #[.slice A n c, .slice (some ⟨w.heap.size, 0, none⟩) 1 1]).run Try.prog (w.alloc (.cells #[.int .i64 z] 3)) = .ok (.slice A' (n + 1) c') w' ∧
      w'.ownsRow base 3 1 (.slice A' (n + 1) c') (n + 1) (csZ (l ++ [z])) ∧ Below base w w' := by
  have h0 : (csZ l).length = n := by rw [csZ_len, hl]
  have hown' : w.ownsRow base 3 1 (.slice A n c) (csZ l).length (csZ l) := by rw [h0]; exact hown
  obtain ⟨v', w', hrun, ho, hbl⟩ := app_one (P := Try.prog) (t := 30) (ty := 30) Try.underlying30 infoI rfl hown' (.int .i64 z) rfl hb (by rw [h0]; omega) (by rw [h0]; unfold maxLen; omega)
  obtain ⟨A', c', rfl, _, _, _⟩ := own_openX ho
  have e : (csZ l ++ [Value.int .i64 z]).length = n + 1 := by rw [List.length_append, h0]; rfl
  rw [e] at hrun ho
  exact ⟨A', c', w', hrun, by rw [csZ_app]; exact ho, hbl⟩
/-- What the loop over the fields keeps, the reference's. -/
def SrK (w : World) (G D : Nat) (c n : Nat) (k : Bool) (u : Value) (B : Option Addr) (m cb : Nat) (l : List Fd) (N : Nat) (ss : List El) (R : List Int × List Int × Nat) (o a i : Value) (wr : World) : Prop :=
  ∃ (p q n1 c1 : Nat) (A1 : Option Addr) (pre : List Int), q ≤ N ∧ p ≤ m ∧ a = .int .i64 (p : Int) ∧ i = .int .i64 (q : Int) ∧ pre.length = n1 ∧ n1 = q ∧ glue pre (sqL ss (l.drop q) p) = R ∧ o = .slice A1 n1 c1 ∧ wr.ownsRow (D + 1) 3 1 (.slice A1 n1 c1) n1 (csZ pre) ∧ D + 1 ≤ wr.heap.size ∧
    Bk wr G 29 [.int .u8 (c : Int), .bool k, .int .u32 (n : Int), u, .slice B m cb] ∧ Bk wr D 38 [.slice none 0 0, .int .i64 0] ∧ Below w.heap.size w wr
set_option linter.unusedSimpArgs false in
set_option maxHeartbeats 4000000 in
set_option maxRecDepth 100000 in
theorem rseq_any {x : Bool} {S : Nat → Prop} (c n : Nat) (k : Bool) (u : Value) (bs : List Nat) (ss : List El) (B : Option Addr) (m cb : Nat) (c2 n2 : Nat) (k2 : Bool) (l : List Fd) (A : Option Addr) (N ca : Nat) (w : World) (hm : ss.length = m) (hmc : m ≤ cb) (hcm : cb ≤ maxLen) (hS : RdS x S w B ss)
    (hl : l.length = N) (hA : Rd w A (csF l)) (hN : N ≤ 9223372036854775807) (I P : List Int) (f : Nat) (hR : sqR c2 n2 k2 (.mk c n k bs ss) l = (I, P, f)) :
    Calls Try.prog 21 #[elV c n k u (.slice B m cb), tgV c2 k2 n2, .slice A N ca] w (GiveQ false w I P f) := by
  have K0 := Lib.hid (Bk.new ((w.alloc (.cells #[.int .u8 (c : Int), .bool k, .int .u32 (n : Int), u, .slice B m cb] 29)).alloc (.cells #[.int .u8 (c2 : Int), .bool k2, .int .u32 (n2 : Int)] 25)) 38 [.slice none 0 0, .int .i64 0])
  have B0 := Lib.hid (bel3 w (.cells #[.int .u8 (c : Int), .bool k, .int .u32 (n : Int), u, .slice B m cb] 29) (.cells #[.int .u8 (c2 : Int), .bool k2, .int .u32 (n2 : Int)] 25) (.cells #[.slice none 0 0, .int .i64 0] 38))
  have HQ := fun W => neqT c k n c2 k2 n2 W
  rw [sqR, hl, isT] at hR
  rw [World.size_alloc, World.size_alloc] at K0
  by_cases h1 : 256 < N
  · rw [if_pos h1] at hR
    obtain ⟨rfl, hR2⟩ := Prod.mk.inj hR
    obtain ⟨rfl, rfl⟩ := Prod.mk.inj hR2
    have t1 : decide ((N : Int) > 256) = true := by simp; omega
    clear hm hmc hcm hS hl hA hR hR2 h1
    go_enter Try.func21, Try.ntmps21
    go_wp2_with fail
    refine (rfault_any 3 (-1) _ (by omega)).mono ?_
    rintro e w1 ⟨A9, n9, c9, rfl, hl9, hn9, hm9, _, hr9, hb1⟩
    have K1 := kt K0 (Lib.hid hb1)
    have B1 := bt B0 (Lib.hid hb1)
    have HP9 := Lib.hid hl9
    have HN9 := Lib.hid (And.intro hn9 hm9)
    clear hb1 hl9 hn9 hm9 hr9
    go_wp2_with (refine storeF rfl _ _ rfl rfl rfl K1.out rfl rfl ?_; intro w3 h3 h4)
    refine retF2 rfl rfl rfl h3.out rfl ⟨none, 0, 0, A9, n9, c9, rfl, rfl, Nat.le_refl _, by unfold maxLen; omega, RdX.nil, HP9.out, HN9.out.1, HN9.out.2, RdX.nil, (fun h => by cases h), B1.out.trans (only_below h4.out (by omega) B1.out.size)⟩
  rw [if_neg h1] at hR
  have t1 : decide ((N : Int) > 256) = false := by simp; omega
  by_cases h3 : (decide (c2 = c) && (k2 == k) && decide (n2 = n)) = false
  · rw [if_pos h3] at hR
    obtain ⟨rfl, hR2⟩ := Prod.mk.inj hR
    obtain ⟨rfl, rfl⟩ := Prod.mk.inj hR2
    have h3' : (!(decide (c = c2) && (k == k2) && decide (n = n2))) = true := by rw [← h3f h3]; rfl
    rw [h3'] at HQ
    clear hm hmc hcm hS hl hA hR hR2 h1 h3 h3'
    go_enter Try.func21, Try.ntmps21
    go_wp2_with fail
    refine (rfault_any 9 (-1) _ (by omega)).mono ?_
    rintro e w1 ⟨A9, n9, c9, rfl, hl9, hn9, hm9, _, hr9, hb1⟩
    have K1 := kt K0 (Lib.hid hb1)
    have B1 := bt B0 (Lib.hid hb1)
    have HP9 := Lib.hid hl9
    have HN9 := Lib.hid (And.intro hn9 hm9)
    clear hb1 hl9 hn9 hm9 hr9
    go_wp2_with (refine storeF rfl _ _ rfl rfl rfl K1.out rfl rfl ?_; intro w3 h3 h4)
    refine retF2 rfl rfl rfl h3.out rfl ⟨none, 0, 0, A9, n9, c9, rfl, rfl, Nat.le_refl _, by unfold maxLen; omega, RdX.nil, HP9.out, HN9.out.1, HN9.out.2, RdX.nil, (fun h => by cases h), B1.out.trans (only_below h4.out (by omega) B1.out.size)⟩
  rw [if_neg h3] at hR
  have h3' : (!(decide (c = c2) && (k == k2) && decide (n = n2))) = false := by rw [h3t h3]; rfl
  rw [h3'] at HQ
  clear h3 h3'
  obtain ⟨w3, hw3⟩ : ∃ w3, ((w.alloc (.cells #[.int .u8 (c : Int), .bool k, .int .u32 (n : Int), u, .slice B m cb] 29)).alloc (.cells #[.int .u8 (c2 : Int), .bool k2, .int .u32 (n2 : Int)] 25)).alloc (.cells #[.slice none 0 0, .int .i64 0] 38) = w3 := ⟨_, rfl⟩
  have k3 : Bk w3 w.heap.size 29 [.int .u8 (c : Int), .bool k, .int .u32 (n : Int), u, .slice B m cb] := by rw [← hw3]; exact ((Bk.new w _ [_, _, _, _, _]).alloc _).alloc _
  have hz3 : w3.heap.size = w.heap.size + 1 + 1 + 1 := by rw [← hw3]; simp
  rw [hw3] at K0 B0
  have KE := Lib.hid k3
  have KF := K0
  have BB := B0
  have HW3 := Lib.hid hw3
  obtain ⟨G, hGG⟩ : ∃ G, w.heap.size = G := ⟨_, rfl⟩
  have HGG := Lib.hid hGG
  obtain ⟨D, hD⟩ : ∃ D, G + 1 + 1 = D := ⟨_, rfl⟩
  rw [hGG] at KE KF
  rw [hD] at KF
  have HDD := Lib.hid hD
  have HGD : Hid (G < D) := Lib.hid (by omega)
  have HSS := Lib.hid hS
  have HAA := Lib.hid hA
  have HN := Lib.hid hl
  have HM := Lib.hid hm
  have HC := Lib.hid (And.intro hmc hcm)
  have HRR := Lib.hid hR
  have HN6 := Lib.hid h1
  have HZ3 : Hid (D + 1 ≤ w3.heap.size) := Lib.hid (by omega)
  clear hw3 k3 K0 B0 hGG hD hS hA hl hm hmc hcm hR h1 hz3
  go_enter Try.func21, Try.ntmps21
  go_upto_region 5 with fail
  rw [HW3.out, HGG.out, HDD.out]
  clear HQ t1
  go_wp2_with fail
  go_loopw [8, 9, 10] (fun o a i wr => SrK w G D c n k u B m cb l N ss (I, P, f) o a i wr) (fun _ _ i _ => N - (intOf i).toNat)
  case atStart => exact ⟨0, 0, 0, 0, none, [], Nat.zero_le _, Nat.zero_le _, rfl, rfl, rfl, rfl, by rw [List.drop_zero, glue_nil _ (sqL_bad ss l 0), HRR.out], rfl, World.ownsRow_nil _ _ _ _, HZ3.out, KE.out, KF.out, BB.out⟩
  case round =>
    clear KE KF BB HW3 HRR HZ3
    obtain ⟨p, q, n1, c1, A1, pre, hqN, hpm, rfl, rfl, hpl, hnq, hgl, rfl, hown, hds, hke, hkf, hbl⟩ := hrel
    have KE := Lib.hid hke
    have KF := Lib.hid hkf
    have BB := Lib.hid hbl
    have HGL := Lib.hid hgl
    have HPL := Lib.hid hpl
    have HPM := Lib.hid hpm
    have HOW := Lib.hid hown
    have HNQ := Lib.hid hnq
    have HDS := Lib.hid hds
    have HQN := Lib.hid hqN
    obtain ⟨e0, e1, e2, e3, e4, ez⟩ := KE.out.five
    clear hke hkf hbl hgl hpl hpm hown hnq hds hqN e0 e1 e2 e3
    by_cases hlt : q < N
    · have hdr : l.drop q = l[q]'(by rw [HN.out]; exact hlt) :: l.drop (q + 1) := List.drop_eq_getElem_cons (by rw [HN.out]; exact hlt)
      obtain ⟨fb, foff, rfl, hfb, hfc⟩ := (HAA.out.below (BB.out.mono (Nat.le_refl _))).all_ (by rw [csF_len, HN.out]; omega)
      have hfj : ∀ j, j < 5 → wr.cell? ⟨fb, foff + q * 5 + j, none⟩ = ((l[q]'(by rw [HN.out]; exact hlt)).cells)[j]? := fun j hj => by
        have h1 := csF_get (l := l) (i := q) (by rw [HN.out]; exact hlt) hj
        have h2 := hfc (q * 5 + j) (by rw [csF_len, HN.out]; omega)
        rw [Nat.add_assoc, h2, ← h1, List.getElem?_eq_getElem]
      obtain ⟨F, hF⟩ : ∃ F, l[q]'(by rw [HN.out]; exact hlt) = F := ⟨_, rfl⟩
      rw [hF] at hdr hfj
      clear hF hfc
      rw [hdr] at HGL
      clear hdr
      obtain ⟨fc, fn, fk, fany, fopt⟩ := F
      have f0 : wr.cell? ⟨fb, foff + q * 5, none⟩ = some (.int .u8 (fc : Int)) := hfj 0 (by decide)
      have f1 : wr.cell? ⟨fb, foff + q * 5 + 1, none⟩ = some (.bool fk) := hfj 1 (by decide)
      have f2 : wr.cell? ⟨fb, foff + q * 5 + 2, none⟩ = some (.int .u32 (fn : Int)) := hfj 2 (by decide)
      have f3 : wr.cell? ⟨fb, foff + q * 5 + 3, none⟩ = some (.bool fany) := hfj 3 (by decide)
      have f4 : wr.cell? ⟨fb, foff + q * 5 + 4, none⟩ = some (.bool fopt) := hfj 4 (by decide)
      clear hfj
      go_upto_region 10 with fail
      have hbb := Lib.hid hfb
      by_cases hp : p < m
      · obtain ⟨b, off, c', n', k', u', v', rfl, hb, hS', g0, g1, g2, g3, g4, hE⟩ := (HSS.out.stay BB.out).five (i := p) (by rw [HM.out]; exact hp)
        have hh : hit ⟨fc, fn, fk, fany, fopt⟩ ss p = (fany || (decide (fc = c') && (fk == k') && decide (fn = n'))) := by
          unfold hit
          rw [dif_pos (by rw [HM.out]; exact hp)]
          generalize ss[p]'(by rw [HM.out]; exact hp) = e at hE ⊢
          obtain ⟨a1, a2, a3, a4, a5⟩ := e
          obtain ⟨_, _, _, _, _, _, _, h, _⟩ := hE
          injection h with h
          simp at h
          obtain ⟨h1, h2, h3, _⟩ := h
          obtain rfl : c' = a1 := by omega
          obtain rfl : n' = a2 := by omega
          subst h2
          rfl
        have HQ := fun W => eqlT fc fk fn c' k' n' W
        obtain ⟨z, hz⟩ : ∃ z, (decide (fc = c') && (fk == k') && decide (fn = n')) = z := ⟨_, rfl⟩
        rw [hz] at HQ hh
        have HZH := Lib.hid hh
        clear hE hS' hh hz
        cases fany
        · cases z
          · go_region
            obtain ⟨wc, hwd⟩ : ∃ wc, wr.drew = wc := ⟨_, rfl⟩
            have hbd : Below wr.heap.size wr wc := by rw [← hwd]; exact ⟨rfl, rfl, rfl, Nat.le_refl _, fun _ _ => rfl⟩
            have hod := own_kept HOW.out (w' := wc) (fun g hg => hbd.block g (HOW.out.lt g hg).2)
            have KE1 := kt KE (Lib.hid hbd)
            have KF1 := kt KF (Lib.hid hbd)
            have BB1 := bt BB (Lib.hid hbd)
            have HOW1 := Lib.hid hod
            have HDS1 : Hid (D + 1 ≤ wc.heap.size) := Lib.hid (Nat.le_trans HDS.out hbd.size)
            have f4' := (hbd.cell (p := ⟨fb, foff + q * 5 + 4, none⟩) hfb).trans f4
            have e4' := (hbd.cell (p := ⟨G, 4, none⟩) ez).trans e4
            rw [hwd]
            clear hwd hbd hod KE KF BB HOW HDS f0 f1 f2 f3 f4 e4 ez hfb
            have HNM := Lib.hid (show n1 + 1 ≤ 1000 from by have := HNQ.out; have := HN6.out; omega)
            cases fopt
            rotate_left
            · have hG2 := HGL.out
              rw [sqL, if_neg (by rw [HZH.out]; simp), if_pos rfl, glue_cons] at hG2
              have HG2 := Lib.hid hG2
              obtain ⟨A3, c3, w6, hrun, hown3, hb6⟩ := push_int HOW1.out HPL.out (-1) HDS1.out (by have := HNM.out; omega) rfl
              have KE6 := Lib.hid (KE1.out.below hb6 (by have := HGD.out; omega))
              have KF6 := Lib.hid (KF1.out.below hb6 (by omega))
              have BB6 := Lib.hid (BB1.out.trans (hb6.mono (by have := HGG.out; have := HGD.out; omega)))
              have HO6 := Lib.hid hown3
              have HS6 : Hid (D + 1 ≤ w6.heap.size) := Lib.hid (Nat.le_trans HDS1.out hb6.size)
              have HNQ2 := Lib.hid (show n1 + 1 = q + 1 from by rw [HNQ.out])
              clear hG2 hown3 hb6 HGL
              go_wp2_with (refine wpList_app (o := ⟨some 65, _, _, _, _, _⟩) rfl (.tmp 63) (.tmp 64) _ _ rfl (.slice A1 n1 c1) (.slice (some ⟨wc.heap.size, 0, none⟩) 1 1) rfl rfl hrun ?_)
              exact ⟨⟨p, q + 1, n1 + 1, c3, A3, pre ++ [-1], by omega, HPM.out, rfl, by go_num, by rw [List.length_append, HPL.out]; rfl, HNQ2.out, HG2.out, rfl, HO6.out, HS6.out, KE6.out, KF6.out, BB6.out⟩, by simp [intOf]; omega⟩
            · have hG2 := HGL.out
              rw [sqL, if_neg (by rw [HZH.out]; simp), if_neg (by simp), HM.out] at hG2
              by_cases hpm : p = m
              · omega
              · rw [if_neg hpm] at hG2
                unfold glue at hG2
                rw [if_neg (by simp)] at hG2
                injection hG2 with h1 h2
                injection h2 with h2 h3
                subst h1 h2 h3
                have tpm : ((p : Int) == (m : Int)) = false := by simp; omega
                clear HGL
                go_wp2_with fail
                refine (rfault_any 9 (p : Int) _ (by omega)).mono ?_
                rintro e w6 ⟨A9, n9, c9, rfl, hl9, hn9, hm9, _, hr9, hb6⟩
                rw [if_neg (by omega)] at hl9 hr9
                have K6 := kt KF1 (Lib.hid hb6)
                have B6 := bt BB1 (Lib.hid hb6)
                have HP9 := Lib.hid hl9
                have HN9 := Lib.hid (And.intro hn9 hm9)
                have HS9 := Lib.hid (RdX.above hr9 (g := D) (by have := HDS1.out; omega))
                clear hb6 hl9 hn9 hm9 hr9
                go_wp2_with (refine storeF rfl _ _ rfl rfl rfl K6.out rfl rfl ?_; intro w7 h7 h8)
                have hr7 : RdX (fun i => w.heap.size ≤ i) w7 A9 (csZ [(p : Int)]) := (HS9.out.keep (T := fun i => w.heap.size ≤ i) h8.out.size (fun i hS hi => h8.out.block i hi (fun e => by injection e with e; omega)) (fun i hS _ => by have := HDD.out; have := HGG.out; omega))
                exact retF2 rfl rfl rfl h7.out rfl ⟨none, 0, 0, A9, n9, c9, rfl, rfl, Nat.le_refl _, by unfold maxLen; omega, RdX.nil, HP9.out, HN9.out.1, HN9.out.2, hr7, (fun h => by cases h), B6.out.trans (only_below h8.out (by have := HDD.out; have := HGG.out; omega) B6.out.size)⟩
          · go_region
            obtain ⟨wc, hwd⟩ : ∃ wc, wr.drew = wc := ⟨_, rfl⟩
            have hbd : Below wr.heap.size wr wc := by rw [← hwd]; exact ⟨rfl, rfl, rfl, Nat.le_refl _, fun _ _ => rfl⟩
            have hod := own_kept HOW.out (w' := wc) (fun g hg => hbd.block g (HOW.out.lt g hg).2)
            have KE1 := kt KE (Lib.hid hbd)
            have KF1 := kt KF (Lib.hid hbd)
            have BB1 := bt BB (Lib.hid hbd)
            have HOW1 := Lib.hid hod
            have HDS1 : Hid (D + 1 ≤ wc.heap.size) := Lib.hid (Nat.le_trans HDS.out hbd.size)
            have f4' := (hbd.cell (p := ⟨fb, foff + q * 5 + 4, none⟩) hfb).trans f4
            have e4' := (hbd.cell (p := ⟨G, 4, none⟩) ez).trans e4
            rw [hwd]
            clear hwd hbd hod KE KF BB HOW HDS f0 f1 f2 f3 f4 e4 ez hfb
            have HNM := Lib.hid (show n1 + 1 ≤ 1000 from by have := HNQ.out; have := HN6.out; omega)
            have hpm2 : p + 1 ≤ m := by have := hit_lt (HZH.out.trans rfl); rw [HM.out] at this; omega
            have hG2 := HGL.out
            rw [sqL, if_pos (by rw [HZH.out]; rfl), glue_cons] at hG2
            have HG2 := Lib.hid hG2
            obtain ⟨A3, c3, w6, hrun, hown3, hb6⟩ := push_int HOW1.out HPL.out (p : Int) HDS1.out (by have := HNM.out; omega) rfl
            have KE6 := Lib.hid (KE1.out.below hb6 (by have := HGD.out; omega))
            have KF6 := Lib.hid (KF1.out.below hb6 (by omega))
            have BB6 := Lib.hid (BB1.out.trans (hb6.mono (by have := HGG.out; have := HGD.out; omega)))
            have HO6 := Lib.hid hown3
            have HS6 : Hid (D + 1 ≤ w6.heap.size) := Lib.hid (Nat.le_trans HDS1.out hb6.size)
            have hp9 : (p : Int) + 1 ≤ 9223372036854775807 := by have := HPM.out; have := HC.out; unfold maxLen at this; omega
            have HNQ2 := Lib.hid (show n1 + 1 = q + 1 from by rw [HNQ.out])
            clear hG2 hown3 hb6 HGL
            go_wp2_with (refine wpList_app (o := ⟨some 55, _, _, _, _, _⟩) rfl (.tmp 52) (.tmp 54) _ _ rfl (.slice A1 n1 c1) (.slice (some ⟨wc.heap.size, 0, none⟩) 1 1) rfl rfl hrun ?_)
            exact ⟨⟨p + 1, q + 1, n1 + 1, c3, A3, pre ++ [(p : Int)], by omega, hpm2, by go_num, by go_num, by rw [List.length_append, HPL.out]; rfl, HNQ2.out, HG2.out, rfl, HO6.out, HS6.out, KE6.out, KF6.out, BB6.out⟩, by simp [intOf]; omega⟩
        · go_region
          obtain ⟨wc, hwd⟩ : ∃ wc, wr.drew = wc := ⟨_, rfl⟩
          have hbd : Below wr.heap.size wr wc := by rw [← hwd]; exact ⟨rfl, rfl, rfl, Nat.le_refl _, fun _ _ => rfl⟩
          have hod := own_kept HOW.out (w' := wc) (fun g hg => hbd.block g (HOW.out.lt g hg).2)
          have KE1 := kt KE (Lib.hid hbd)
          have KF1 := kt KF (Lib.hid hbd)
          have BB1 := bt BB (Lib.hid hbd)
          have HOW1 := Lib.hid hod
          have HDS1 : Hid (D + 1 ≤ wc.heap.size) := Lib.hid (Nat.le_trans HDS.out hbd.size)
          have f4' := (hbd.cell (p := ⟨fb, foff + q * 5 + 4, none⟩) hfb).trans f4
          have e4' := (hbd.cell (p := ⟨G, 4, none⟩) ez).trans e4
          rw [hwd]
          clear hwd hbd hod KE KF BB HOW HDS f0 f1 f2 f3 f4 e4 ez hfb
          have HNM := Lib.hid (show n1 + 1 ≤ 1000 from by have := HNQ.out; have := HN6.out; omega)
          have hpm2 : p + 1 ≤ m := by have := hit_lt (HZH.out.trans rfl); rw [HM.out] at this; omega
          have hG2 := HGL.out
          rw [sqL, if_pos (by rw [HZH.out]; rfl), glue_cons] at hG2
          have HG2 := Lib.hid hG2
          obtain ⟨A3, c3, w6, hrun, hown3, hb6⟩ := push_int HOW1.out HPL.out (p : Int) HDS1.out (by have := HNM.out; omega) rfl
          have KE6 := Lib.hid (KE1.out.below hb6 (by have := HGD.out; omega))
          have KF6 := Lib.hid (KF1.out.below hb6 (by omega))
          have BB6 := Lib.hid (BB1.out.trans (hb6.mono (by have := HGG.out; have := HGD.out; omega)))
          have HO6 := Lib.hid hown3
          have HS6 : Hid (D + 1 ≤ w6.heap.size) := Lib.hid (Nat.le_trans HDS1.out hb6.size)
          have hp9 : (p : Int) + 1 ≤ 9223372036854775807 := by have := HPM.out; have := HC.out; unfold maxLen at this; omega
          have HNQ2 := Lib.hid (show n1 + 1 = q + 1 from by rw [HNQ.out])
          clear hG2 hown3 hb6 HGL
          go_wp2_with (refine wpList_app (o := ⟨some 55, _, _, _, _, _⟩) rfl (.tmp 52) (.tmp 54) _ _ rfl (.slice A1 n1 c1) (.slice (some ⟨wc.heap.size, 0, none⟩) 1 1) rfl rfl hrun ?_)
          exact ⟨⟨p + 1, q + 1, n1 + 1, c3, A3, pre ++ [(p : Int)], by omega, hpm2, by go_num, by go_num, by rw [List.length_append, HPL.out]; rfl, HNQ2.out, HG2.out, rfl, HO6.out, HS6.out, KE6.out, KF6.out, BB6.out⟩, by simp [intOf]; omega⟩
      · have hh : hit ⟨fc, fn, fk, fany, fopt⟩ ss p = false := by unfold hit; rw [dif_neg (by rw [HM.out]; exact hp)]
        have HZH := Lib.hid hh
        clear hh
        go_region
        obtain ⟨wc, hwd⟩ : ∃ wc, wr.drew = wc := ⟨_, rfl⟩
        have hbd : Below wr.heap.size wr wc := by rw [← hwd]; exact ⟨rfl, rfl, rfl, Nat.le_refl _, fun _ _ => rfl⟩
        have hod := own_kept HOW.out (w' := wc) (fun g hg => hbd.block g (HOW.out.lt g hg).2)
        have KE1 := kt KE (Lib.hid hbd)
        have KF1 := kt KF (Lib.hid hbd)
        have BB1 := bt BB (Lib.hid hbd)
        have HOW1 := Lib.hid hod
        have HDS1 : Hid (D + 1 ≤ wc.heap.size) := Lib.hid (Nat.le_trans HDS.out hbd.size)
        have f4' := (hbd.cell (p := ⟨fb, foff + q * 5 + 4, none⟩) hfb).trans f4
        have e4' := (hbd.cell (p := ⟨G, 4, none⟩) ez).trans e4
        rw [hwd]
        clear hwd hbd hod KE KF BB HOW HDS f0 f1 f2 f3 f4 e4 ez hfb
        have HNM := Lib.hid (show n1 + 1 ≤ 1000 from by have := HNQ.out; have := HN6.out; omega)
        cases fopt
        rotate_left
        · have hG2 := HGL.out
          rw [sqL, if_neg (by rw [HZH.out]; simp), if_pos rfl, glue_cons] at hG2
          have HG2 := Lib.hid hG2
          obtain ⟨A3, c3, w6, hrun, hown3, hb6⟩ := push_int HOW1.out HPL.out (-1) HDS1.out (by have := HNM.out; omega) rfl
          have KE6 := Lib.hid (KE1.out.below hb6 (by have := HGD.out; omega))
          have KF6 := Lib.hid (KF1.out.below hb6 (by omega))
          have BB6 := Lib.hid (BB1.out.trans (hb6.mono (by have := HGG.out; have := HGD.out; omega)))
          have HO6 := Lib.hid hown3
          have HS6 : Hid (D + 1 ≤ w6.heap.size) := Lib.hid (Nat.le_trans HDS1.out hb6.size)
          have HNQ2 := Lib.hid (show n1 + 1 = q + 1 from by rw [HNQ.out])
          clear hG2 hown3 hb6 HGL
          go_wp2_with (refine wpList_app (o := ⟨some 65, _, _, _, _, _⟩) rfl (.tmp 63) (.tmp 64) _ _ rfl (.slice A1 n1 c1) (.slice (some ⟨wc.heap.size, 0, none⟩) 1 1) rfl rfl hrun ?_)
          exact ⟨⟨p, q + 1, n1 + 1, c3, A3, pre ++ [-1], by omega, HPM.out, rfl, by go_num, by rw [List.length_append, HPL.out]; rfl, HNQ2.out, HG2.out, rfl, HO6.out, HS6.out, KE6.out, KF6.out, BB6.out⟩, by simp [intOf]; omega⟩
        · have hG2 := HGL.out
          rw [sqL, if_neg (by rw [HZH.out]; simp), if_neg (by simp), HM.out] at hG2
          by_cases hpm : p = m
          · rw [if_pos hpm] at hG2
            unfold glue at hG2
            rw [if_neg (by simp)] at hG2
            injection hG2 with h1 h2
            injection h2 with h2 h3
            subst h1 h2 h3
            subst hpm
            clear HGL
            go_wp2_with fail
            refine (rfault_any 7 (-1) _ (by omega)).mono ?_
            rintro e w6 ⟨A9, n9, c9, rfl, hl9, hn9, hm9, _, hr9, hb6⟩
            have K6 := kt KF1 (Lib.hid hb6)
            have B6 := bt BB1 (Lib.hid hb6)
            have HP9 := Lib.hid hl9
            have HN9 := Lib.hid (And.intro hn9 hm9)
            clear hb6 hl9 hn9 hm9 hr9
            go_wp2_with (refine storeF rfl _ _ rfl rfl rfl K6.out rfl rfl ?_; intro w7 h7 h8)
            exact retF2 rfl rfl rfl h7.out rfl ⟨none, 0, 0, A9, n9, c9, rfl, rfl, Nat.le_refl _, by unfold maxLen; omega, RdX.nil, HP9.out, HN9.out.1, HN9.out.2, RdX.nil, (fun h => by cases h), B6.out.trans (only_below h8.out (by have := HDD.out; have := HGG.out; omega) B6.out.size)⟩
          · rw [if_neg hpm] at hG2
            unfold glue at hG2
            rw [if_neg (by simp)] at hG2
            injection hG2 with h1 h2
            injection h2 with h2 h3
            subst h1 h2 h3
            have tpm : ((p : Int) == (m : Int)) = false := by simp; omega
            clear HGL
            go_wp2_with fail
            refine (rfault_any 9 (p : Int) _ (by omega)).mono ?_
            rintro e w6 ⟨A9, n9, c9, rfl, hl9, hn9, hm9, _, hr9, hb6⟩
            rw [if_neg (by omega)] at hl9 hr9
            have K6 := kt KF1 (Lib.hid hb6)
            have B6 := bt BB1 (Lib.hid hb6)
            have HP9 := Lib.hid hl9
            have HN9 := Lib.hid (And.intro hn9 hm9)
            have HS9 := Lib.hid (RdX.above hr9 (g := D) (by have := HDS1.out; omega))
            clear hb6 hl9 hn9 hm9 hr9
            go_wp2_with (refine storeF rfl _ _ rfl rfl rfl K6.out rfl rfl ?_; intro w7 h7 h8)
            have hr7 : RdX (fun i => w.heap.size ≤ i) w7 A9 (csZ [(p : Int)]) := (HS9.out.keep (T := fun i => w.heap.size ≤ i) h8.out.size (fun i hS hi => h8.out.block i hi (fun e => by injection e with e; omega)) (fun i hS _ => by have := HDD.out; have := HGG.out; omega))
            exact retF2 rfl rfl rfl h7.out rfl ⟨none, 0, 0, A9, n9, c9, rfl, rfl, Nat.le_refl _, by unfold maxLen; omega, RdX.nil, HP9.out, HN9.out.1, HN9.out.2, hr7, (fun h => by cases h), B6.out.trans (only_below h8.out (by have := HDD.out; have := HGG.out; omega) B6.out.size)⟩
    · obtain rfl : q = N := by have := HQN.out; omega
      have hG2 := HGL.out
      rw [List.drop_eq_nil_of_le (by rw [HN.out]; exact Nat.le_refl _), sqL, HM.out] at hG2
      by_cases hpm : p < m
      · rw [if_pos hpm] at hG2
        unfold glue at hG2
        rw [if_neg (by simp)] at hG2
        injection hG2 with h1 h2
        injection h2 with h2 h3
        subst h1 h2 h3
        clear HGL
        go_wp2_with fail
        refine (rfault_any 8 (p : Int) _ (by omega)).mono ?_
        rintro e w6 ⟨A9, n9, c9, rfl, hl9, hn9, hm9, _, hr9, hb6⟩
        rw [if_neg (by omega)] at hl9 hr9
        have K6 := kt KF (Lib.hid hb6)
        have B6 := bt BB (Lib.hid hb6)
        have HP9 := Lib.hid hl9
        have HN9 := Lib.hid (And.intro hn9 hm9)
        have HS9 := Lib.hid (RdX.above hr9 (g := D) (by have := HDS.out; omega))
        clear hb6 hl9 hn9 hm9 hr9
        go_wp2_with (refine storeF rfl _ _ rfl rfl rfl K6.out rfl rfl ?_; intro w7 h7 h8)
        have hr7 : RdX (fun i => w.heap.size ≤ i) w7 A9 (csZ [(p : Int)]) := (HS9.out.keep (T := fun i => w.heap.size ≤ i) h8.out.size (fun i hS hi => h8.out.block i hi (fun e => by injection e with e; omega)) (fun i hS _ => by have := HDD.out; have := HGG.out; omega))
        exact retF2 rfl rfl rfl h7.out rfl ⟨none, 0, 0, A9, n9, c9, rfl, rfl, Nat.le_refl _, by unfold maxLen; omega, RdX.nil, HP9.out, HN9.out.1, HN9.out.2, hr7, (fun h => by cases h), B6.out.trans (only_below h8.out (by have := HDD.out; have := HGG.out; omega) B6.out.size)⟩
      · rw [if_neg hpm] at hG2
        unfold glue at hG2
        rw [if_pos rfl, List.append_nil] at hG2
        injection hG2 with h1 h2
        injection h2 with h2 h3
        subst h1 h2 h3
        have hown' : wr.ownsRow (D + 1) 3 1 (.slice A1 n1 c1) (csZ pre).length (csZ pre) := by rw [csZ_len, HPL.out]; exact HOW.out
        obtain ⟨A3, c3, he3, hr3, hn3, hm3⟩ := own_openX hown'
        injection he3 with he3 he4 he5
        subst he3 he5
        have HRP := Lib.hid hr3
        have HN3 := Lib.hid (And.intro (show n1 ≤ c1 by rw [csZ_len, HPL.out] at hn3; exact hn3) hm3)
        clear HGL hr3 hn3 hm3 hown' he4
        go_wp2_with (refine storeF rfl _ _ rfl rfl rfl KF.out rfl rfl ?_; intro w7 h7 h8)
        have hr7 : RdX (fun i => w.heap.size ≤ i) w7 A1 (csZ pre) := (HRP.out.keep (T := fun i => w.heap.size ≤ i) h8.out.size (fun i hS hi => h8.out.block i hi (fun e => by injection e with e; omega)) (fun i hS _ => by have := HDD.out; have := HGG.out; omega))
        exact retF2 rfl rfl rfl h7.out rfl ⟨_, n1, c1, none, 0, 0, rfl, HPL.out, HN3.out.1, HN3.out.2, hr7, rfl, Nat.le_refl _, by unfold maxLen; omega, RdX.nil, (fun h => by cases h), BB.out.trans (only_below h8.out (by have := HDD.out; have := HGG.out; omega) BB.out.size)⟩
end Go.Proofs.Ytfbdeefeagednaa.Fl
