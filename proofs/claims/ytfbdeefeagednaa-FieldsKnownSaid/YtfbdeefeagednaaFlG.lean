/-
  Layer 12: the program's Sequence.
  Conditions: none beyond that values read as what they are.
-/
import Derived.Test.YtfbdeefeagednaaFlF
namespace Go.Proofs.Ytfbdeefeagednaa.Fl
open Go.RowKit

/-- Indices and a fault are given; x: without spare capacity. -/
def GiveQ (x : Bool) (w : World) (I p : List Int) (f : Nat) (e : Ending) (w' : World) : Prop :=
  ∃ A n c B m d, e = .returned (.tuple #[.slice A n c, fvV B m d f]) ∧ I.length = n ∧ n ≤ c ∧ c ≤ maxLen ∧ RdX (fun i => w.heap.size ≤ i) w' A (csZ I) ∧ p.length = m ∧ m ≤ d ∧ d ≤ maxLen ∧ RdX (fun i => w.heap.size ≤ i) w' B (csZ p) ∧ (x = true → c = n ∧ d = m) ∧ Below w.heap.size w w'
theorem RdS.drop_ {x : Bool} {S : Nat → Prop} {w : World} {b : Nat} : ∀ {ss : List El} {off : Nat} (k : Nat), RdS x S w (some ⟨b, off, none⟩) ss → RdS x S w (some ⟨b, off + k * 5, none⟩) (ss.drop k)
  | _, _, 0, h => by simpa using h
  | [], _, k + 1, _ => by rw [List.drop_nil]; trivial
  | e :: ss, off, k + 1, h => by
    obtain ⟨b', off', v, h1, h2, h3, h4, h5, h6⟩ := h
    simp only [Option.some.injEq, Addr.mk.injEq, and_true] at h1
    obtain ⟨rfl, rfl⟩ := h1
    have := RdS.drop_ k h6
    rw [List.drop_succ_cons, show off + (k + 1) * 5 = off + 5 + k * 5 by omega]
    exact this
theorem slE_part (A : Option Addr) (n c k d : Nat) (h : k + d = n) (hc : n ≤ c) :
    ∃ A' c', d ≤ c' ∧ (∀ W, (Instr.slice 27 (.slice A n c) (some (.int .i64 (k : Int))) none none).run Try.prog W = .ok (.slice A' d c') W) ∧
      ∀ (x : Bool) (S : Nat → Prop) (W : World) (ss : List El), ss.length = n → RdS x S W A ss → RdS x S W A' (ss.drop k) := by
  have hsz : ∀ W, (sizeOf (Try.prog.elem 27)).run Try.prog W = .ok 5 W := fun W => by kernel_rfl
  refine ⟨if c = k then A else A.map (·.add (k * 5)), c - k, by omega, fun W => ?_, fun x S W ss hl hr => ?_⟩
  · rw [run_slice_l (P := Try.prog) W 27 A n c (by kernel_rfl) .i64 (k : Int) (by omega) (by omega), hsz]
    simp only [Result.andThen, Int.toNat_natCast, sliced]
    rw [show n - k = d by omega]
  · by_cases hk : c = k
    · rw [if_pos hk, List.drop_eq_nil_of_le (by omega)]
      trivial
    · rw [if_neg hk]
      cases ss with
      | nil => rw [List.drop_nil]; trivial
      | cons e t =>
        have hr2 := hr
        obtain ⟨b, off, v, rfl, _⟩ := hr2
        show RdS x S W (some ((⟨b, off, none⟩ : Addr).add (k * 5))) _
        rw [addr_add]
        exact RdS.drop_ k hr
theorem csZ_len (l : List Int) : (csZ l).length = l.length := by unfold csZ; rw [List.length_map]
theorem csZ_app (l m : List Int) : csZ (l ++ m) = csZ l ++ csZ m := by unfold csZ; rw [List.map_append]
def zs (k : Nat) : List Value := List.replicate k (.int .i64 0)
theorem set_mid (pre : List Int) (x : Int) (r : Nat) (y : Value) : (csZ pre ++ (y :: zs r)).set pre.length (.int .i64 x) = csZ (pre ++ [x]) ++ zs r := by
  rw [List.set_append_right _ _ (by rw [csZ_len]; exact Nat.le_refl _), csZ_len, Nat.sub_self, csZ_app]
  simp [csZ]
theorem makeI (n : Nat) (h : n ≤ 1000000) (W : World) : (Instr.makeSlice 30 (.int .i64 (n : Int)) (.int .i64 (n : Int))).run Try.prog W = .ok (.slice (some ⟨W.heap.size, 0, none⟩) n n) (W.alloc (.cells (zs n).toArray 3)) := by
  obtain ⟨i, hi, hz0, hz1, hz2⟩ := info_parts infoI
  have h := run_make (P := Try.prog) W 30 3 i (.int .i64 0) Try.underlying30 hi hz0 .i64 .i64 (n : Int) (n : Int) (by omega) (by omega) (by rw [hz2]; omega) (by omega)
  rw [h, hz1, Int.toNat_natCast, Nat.mul_one, show (Value.int IntKind.i64 0).cells = #[Value.int IntKind.i64 0] from rfl, made_one]
  rfl
theorem set_mid2 (pre : List Int) (x y : Int) (zz : List Value) (q : Nat) (hq : pre.length = q) : (csZ (pre ++ [y]) ++ zz).set q (.int .i64 x) = csZ (pre ++ [x]) ++ zz := by
  subst hq
  rw [csZ_app, csZ_app, List.append_assoc, List.append_assoc, List.set_append_right _ _ (by rw [csZ_len]; exact Nat.le_refl _), csZ_len, Nat.sub_self]
  simp [csZ]
theorem hit_lt {f : Fd} {ss : List El} {p : Nat} (h : hit f ss p = true) : p < ss.length := by
  unfold hit at h
  by_cases h1 : p < ss.length
  · exact h1
  · rw [dif_neg h1] at h; cases h
theorem mid_get (pre : List Int) (y : Value) (zz : List Value) (q : Nat) (hq : pre.length = q) : (csZ pre ++ (y :: zz))[q]? = some y := by
  subst hq
  rw [List.getElem?_append_right (by rw [csZ_len]; exact Nat.le_refl _), csZ_len, Nat.sub_self]
  rfl
/-- What the loop over the fields keeps. -/
def SqK (w : World) (G D g : Nat) (c n : Nat) (k : Bool) (u : Value) (B : Option Addr) (m cb : Nat) (l : List Fd) (N : Nat) (ss : List El) (R : List Int × List Int × Nat) (a i : Value) (wr : World) : Prop :=
  ∃ (p q r : Nat) (pre : List Int), q + r = N ∧ p ≤ m ∧ p ≤ q ∧ a = .int .i64 (p : Int) ∧ i = .int .i64 (q : Int) ∧ pre.length = q ∧ glue pre (sqL ss (l.drop q) p) = R ∧ Bk wr g 3 (csZ pre ++ zs r) ∧
    Bk wr G 29 [.int .u8 (c : Int), .bool k, .int .u32 (n : Int), u, .slice B m cb] ∧ Bk wr D 38 [.slice none 0 0, .int .i64 0] ∧ Below w.heap.size w wr
set_option linter.unusedSimpArgs false in
set_option maxHeartbeats 4000000 in
set_option maxRecDepth 100000 in
theorem seq_any {x : Bool} {S : Nat → Prop} (c n : Nat) (k : Bool) (u : Value) (bs : List Nat) (ss : List El) (B : Option Addr) (m cb : Nat) (c2 n2 : Nat) (k2 : Bool) (l : List Fd) (A : Option Addr) (N ca : Nat) (w : World) (hm : ss.length = m) (hmc : m ≤ cb) (hcm : cb ≤ maxLen) (hS : RdS x S w B ss)
    (hl : l.length = N) (hA : Rd w A (csF l)) (hN : N ≤ 9223372036854775807) (I P : List Int) (f : Nat) (hR : sqR c2 n2 k2 (.mk c n k bs ss) l = (I, P, f)) :
    Calls Try.prog 20 #[elV c n k u (.slice B m cb), tgV c2 k2 n2, .slice A N ca] w (GiveQ true w I P f) := by
  have K0 := Lib.hid (Bk.new ((w.alloc (.cells #[.int .u8 (c : Int), .bool k, .int .u32 (n : Int), u, .slice B m cb] 29)).alloc (.cells #[.int .u8 (c2 : Int), .bool k2, .int .u32 (n2 : Int)] 25)) 38 [.slice none 0 0, .int .i64 0])
  have B0 := Lib.hid (bel3 w (.cells #[.int .u8 (c : Int), .bool k, .int .u32 (n : Int), u, .slice B m cb] 29) (.cells #[.int .u8 (c2 : Int), .bool k2, .int .u32 (n2 : Int)] 25) (.cells #[.slice none 0 0, .int .i64 0] 38))
  have HQ := fun W => neqT c k n c2 k2 n2 W
  rw [sqR, hl, isT] at hR
  rw [World.size_alloc, World.size_alloc] at K0
  by_cases h1 : 256 < N
  · rw [if_pos h1] at hR
    obtain ⟨rfl, hR2⟩ := Prod.mk.inj hR
    obtain ⟨rfl, rfl⟩ := Prod.mk.inj hR2
    have t1 : decide ((N : Int) > 256) = true := by simp; omega
    clear hm hmc hcm hS hl hA hR hR2 h1
    go_enter Try.func20, Try.ntmps20
    go_wp2_with fail
    refine (fault_any 3 none 0 0 _).mono ?_
    rintro e w1 ⟨rfl, hb1⟩
    have K1 := kt K0 (Lib.hid hb1)
    have B1 := bt B0 (Lib.hid hb1)
    clear hb1
    go_wp2_with (refine storeF rfl _ _ rfl rfl rfl K1.out rfl rfl ?_; intro w3 h3 h4)
    refine retF2 rfl rfl rfl h3.out rfl ⟨none, 0, 0, none, 0, 0, rfl, rfl, Nat.le_refl _, by unfold maxLen; omega, RdX.nil, rfl, Nat.le_refl _, by unfold maxLen; omega, RdX.nil, fun _ => ⟨rfl, rfl⟩, B1.out.trans (only_below h4.out (by omega) B1.out.size)⟩
  rw [if_neg h1] at hR
  have t1 : decide ((N : Int) > 256) = false := by simp; omega
  by_cases h3 : (decide (c2 = c) && (k2 == k) && decide (n2 = n)) = false
  · rw [if_pos h3] at hR
    obtain ⟨rfl, hR2⟩ := Prod.mk.inj hR
    obtain ⟨rfl, rfl⟩ := Prod.mk.inj hR2
    have h3' : (!(decide (c = c2) && (k == k2) && decide (n = n2))) = true := by rw [← h3f h3]; rfl
    rw [h3'] at HQ
    clear hm hmc hcm hS hl hA hR hR2 h1 h3 h3'
    go_enter Try.func20, Try.ntmps20
    go_wp2_with fail
    refine (fault_any 9 none 0 0 _).mono ?_
    rintro e w1 ⟨rfl, hb1⟩
    have K1 := kt K0 (Lib.hid hb1)
    have B1 := bt B0 (Lib.hid hb1)
    clear hb1
    go_wp2_with (refine storeF rfl _ _ rfl rfl rfl K1.out rfl rfl ?_; intro w3 h3 h4)
    refine retF2 rfl rfl rfl h3.out rfl ⟨none, 0, 0, none, 0, 0, rfl, rfl, Nat.le_refl _, by unfold maxLen; omega, RdX.nil, rfl, Nat.le_refl _, by unfold maxLen; omega, RdX.nil, fun _ => ⟨rfl, rfl⟩, B1.out.trans (only_below h4.out (by omega) B1.out.size)⟩
  rw [if_neg h3] at hR
  have h3' : (!(decide (c = c2) && (k == k2) && decide (n = n2))) = false := by rw [h3t h3]; rfl
  rw [h3'] at HQ
  clear h3 h3'
  have HMK := Lib.hid fun W => makeI N (by omega) W
  obtain ⟨w3, hw3⟩ : ∃ w3, ((w.alloc (.cells #[.int .u8 (c : Int), .bool k, .int .u32 (n : Int), u, .slice B m cb] 29)).alloc (.cells #[.int .u8 (c2 : Int), .bool k2, .int .u32 (n2 : Int)] 25)).alloc (.cells #[.slice none 0 0, .int .i64 0] 38) = w3 := ⟨_, rfl⟩
  have k3 : Bk w3 w.heap.size 29 [.int .u8 (c : Int), .bool k, .int .u32 (n : Int), u, .slice B m cb] := by rw [← hw3]; exact ((Bk.new w _ [_, _, _, _, _]).alloc _).alloc _
  obtain ⟨w4, hw4⟩ : ∃ w4, w3.alloc (.cells (zs N).toArray 3) = w4 := ⟨_, rfl⟩
  obtain ⟨g, hg⟩ : ∃ g, w3.heap.size = g := ⟨_, rfl⟩
  have hz3 : g = w.heap.size + 1 + 1 + 1 := by rw [← hg, ← hw3]; simp
  have k4 : Bk w4 g 3 (zs N) := by rw [← hw4, ← hg]; exact Bk.new w3 _ _
  have b4 : Below w3.heap.size w3 w4 := by rw [← hw4]; exact bel1 _ _
  rw [hw3] at K0 B0
  have KE := kt (Lib.hid k3) (Lib.hid b4)
  have KF := kt K0 (Lib.hid b4)
  have KG := Lib.hid k4
  have BB := bt B0 (Lib.hid b4)
  have HW3 := Lib.hid hw3
  have HW4 := Lib.hid hw4
  have HG := Lib.hid hg
  obtain ⟨G, hGG⟩ : ∃ G, w.heap.size = G := ⟨_, rfl⟩
  have HGG := Lib.hid hGG
  have HD : Hid (G + 1 + 1 < g) := Lib.hid (by omega)
  obtain ⟨D, hD⟩ : ∃ D, G + 1 + 1 = D := ⟨_, rfl⟩
  rw [hGG] at KE KF
  rw [hD] at KF HD
  have HDD := Lib.hid hD
  have HGD : Hid (G < D) := Lib.hid (by omega)
  have HSS := Lib.hid hS
  have HAA := Lib.hid hA
  have HN := Lib.hid hl
  have HM := Lib.hid hm
  have HC := Lib.hid (And.intro hmc hcm)
  have HRR := Lib.hid hR
  have HN6 := Lib.hid h1
  clear hw3 k3 hw4 hg k4 b4 K0 B0 hGG hD hS hA hl hm hmc hcm hR h1 hz3
  go_enter Try.func20, Try.ntmps20
  go_upto_region 5 with fail
  rw [HW3.out]
  have hmk := HMK.out w3
  rw [HW4.out, HG.out] at hmk
  go_upto_region 7 with fail
  rw [HGG.out, HDD.out]
  clear hmk HQ t1
  go_wp2_with fail
  go_loopw [9, 10, 11, 26] (fun a _ _ i wr => SqK w G D g c n k u B m cb l N ss (I, P, f) a i wr) (fun _ _ _ i _ => N - (intOf i).toNat)
  case atStart => exact ⟨0, 0, N, [], by omega, Nat.zero_le _, Nat.le_refl _, rfl, rfl, rfl, by rw [List.drop_zero, glue_nil _ (sqL_bad ss l 0), HRR.out], KG.out, KE.out, KF.out, BB.out⟩
  case round =>
    clear KG KE KF BB HW3 HW4 HRR HMK
    obtain ⟨p, q, r, pre, hqr, hpm, hpq, rfl, rfl, hpl, hgl, hkg, hke, hkf, hbl⟩ := hrel
    have KG := Lib.hid hkg
    have KE := Lib.hid hke
    have KF := Lib.hid hkf
    have BB := Lib.hid hbl
    have HGL := Lib.hid hgl
    have HPL := Lib.hid hpl
    have HQR := Lib.hid hqr
    have HPM := Lib.hid hpm
    clear hkg hke hkf hbl hgl hpl hqr hpm
    by_cases hlt : q < N
    · obtain ⟨r, rfl⟩ : ∃ r', r = r' + 1 := ⟨r - 1, by have := HQR.out; omega⟩
      have hdr : l.drop q = l[q]'(by rw [HN.out]; exact hlt) :: l.drop (q + 1) := List.drop_eq_getElem_cons (by rw [HN.out]; exact hlt)
      have hAr := HAA.out.below BB.out
      obtain ⟨fb, foff, rfl, hfb, hfc⟩ := (HAA.out.below (BB.out.mono (Nat.le_refl _))).all_ (by rw [csF_len, HN.out]; omega)
      have hfj : ∀ j, j < 5 → wr.cell? ⟨fb, foff + q * 5 + j, none⟩ = ((l[q]'(by rw [HN.out]; exact hlt)).cells)[j]? := fun j hj => by
        have h1 := csF_get (l := l) (i := q) (by rw [HN.out]; exact hlt) hj
        have h2 := hfc (q * 5 + j) (by rw [csF_len, HN.out]; omega)
        rw [Nat.add_assoc, h2, ← h1, List.getElem?_eq_getElem]
      obtain ⟨F, hF⟩ : ∃ F, l[q]'(by rw [HN.out]; exact hlt) = F := ⟨_, rfl⟩
      rw [hF] at hdr hfj
      clear hF hfc hAr
      rw [hdr] at HGL
      clear hdr
      obtain ⟨fc, fn, fk, fany, fopt⟩ := F
      have f0 : wr.cell? ⟨fb, foff + q * 5, none⟩ = some (.int .u8 (fc : Int)) := hfj 0 (by decide)
      have f1 : wr.cell? ⟨fb, foff + q * 5 + 1, none⟩ = some (.bool fk) := hfj 1 (by decide)
      have f2 : wr.cell? ⟨fb, foff + q * 5 + 2, none⟩ = some (.int .u32 (fn : Int)) := hfj 2 (by decide)
      have f3 : wr.cell? ⟨fb, foff + q * 5 + 3, none⟩ = some (.bool fany) := hfj 3 (by decide)
      have f4 : wr.cell? ⟨fb, foff + q * 5 + 4, none⟩ = some (.bool fopt) := hfj 4 (by decide)
      clear hfj
      go_upto_region 10 with fail
      obtain ⟨W1, hW1⟩ : ∃ W1, wr.alloc (.cells #[.int .u8 (fc : Int), .bool fk, .int .u32 (fn : Int), .bool fany, .bool fopt] 54) = W1 := ⟨_, rfl⟩
      have hb1 : Below wr.heap.size wr W1 := by rw [← hW1]; exact bel1 _ _
      obtain ⟨E, hE⟩ : ∃ E, wr.heap.size = E := ⟨_, rfl⟩
      have k1 : Bk W1 E 54 [.int .u8 (fc : Int), .bool fk, .int .u32 (fn : Int), .bool fany, .bool fopt] := by rw [← hW1, ← hE]; exact Bk.new wr _ [_, _, _, _, _]
      have HEg : Hid (g < E) := Lib.hid (by rw [← hE]; exact KG.out.lt)
      rw [hW1, hE]
      have KG1 := kt KG (Lib.hid hb1)
      have KE1 := kt KE (Lib.hid hb1)
      have KF1 := kt KF (Lib.hid hb1)
      have BB1 := bt BB (Lib.hid hb1)
      have KD1 := Lib.hid k1
      clear KG KE KF BB hW1 hE k1 hb1 f0 f1 f2 f3 f4 hfb
      have c0 : W1.cell? ⟨g, q, none⟩ = some (.int .i64 0) := by rw [KG1.out.cell]; exact mid_get pre _ _ q HPL.out
      have c1 := KG1.out.free q
      go_upto_region 11 with fail
      clear c0 c1
      obtain ⟨W2, hW2⟩ : ∃ W2, W1.setCell ⟨g, q, none⟩ (.int .i64 (-1)) = W2 := ⟨_, rfl⟩
      have hGg : G ≠ g := by have := HGD.out; have := HD.out; omega
      have hDg : D ≠ g := by have := HD.out; omega
      have hEg : E ≠ g := by have := HEg.out; omega
      have hgw : w.heap.size ≤ g := by have := HGG.out; have := HGD.out; have := HD.out; omega
      have KG := Lib.hid (show Bk W2 g 3 (csZ (pre ++ [-1]) ++ zs r) by rw [← hW2]; have := KG1.out.store q (.int .i64 (-1)); rw [show zs (r + 1) = .int .i64 0 :: zs r from rfl, ← HPL.out, set_mid] at this; rw [← HPL.out]; exact this)
      have KE := Lib.hid (show Bk W2 G _ _ by rw [← hW2]; exact KE1.out.far (p := ⟨g, q, none⟩) hGg (.int .i64 (-1)))
      have KF := Lib.hid (show Bk W2 D _ _ by rw [← hW2]; exact KF1.out.far (p := ⟨g, q, none⟩) hDg (.int .i64 (-1)))
      have KD := Lib.hid (show Bk W2 E _ _ by rw [← hW2]; exact KD1.out.far (p := ⟨g, q, none⟩) hEg (.int .i64 (-1)))
      have BB := Lib.hid (show Below w.heap.size w W2 by rw [← hW2]; exact BB1.out.setCell (p := ⟨g, q, none⟩) hgw _)
      rw [hW2]
      clear KG1 KE1 KF1 KD1 BB1 hW2 hGg hDg hEg
      obtain ⟨d, hd⟩ : ∃ d, p + d = m := ⟨m - p, by have := HPM.out; omega⟩
      obtain ⟨A2, c2', hdc, hsl, hrd⟩ := slE_part B m cb p d hd HC.out.1
      have HS2 := hrd _ _ _ _ HM.out (HSS.out.stay BB.out)
      have hle : d ≤ maxLen := by have := HC.out; omega
      have HCb := Lib.hid (fun (W : World) (hb : Below W2.heap.size W2 W) => begins_any ⟨fc, fn, fk, fany, fopt⟩ (ss.drop p) A2 d c2' W (HS2.stay hb) (by rw [List.length_drop, HM.out]; omega) hle)
      rw [beg_hit] at HCb
      obtain ⟨z, hz⟩ : ∃ z, hit ⟨fc, fn, fk, fany, fopt⟩ ss p = z := ⟨_, rfl⟩
      rw [hz] at HCb
      have HZ := Lib.hid hz
      have HSL := fun W => hsl W
      clear hz hsl hrd HS2 hle hd hdc
      obtain ⟨e0, e1, e2, e3, e4, ez⟩ := KE.out.five
      obtain ⟨q0, q1, q2, q3, q4, qz⟩ := KD.out.five
      have b1 := Below.refl W2.heap.size W2
      go_region_held3 (fun w' => w'.cell? ⟨G, 4, none⟩ = some (.slice B m cb) ∧ w'.cell? ⟨E, 0, none⟩ = some (.int .u8 (fc : Int)) ∧ w'.cell? ⟨E, 1, none⟩ = some (.bool fk) ∧ w'.cell? ⟨E, 2, none⟩ = some (.int .u32 (fn : Int)) ∧ w'.cell? ⟨E, 3, none⟩ = some (.bool fany) ∧ w'.cell? ⟨E, 4, none⟩ = some (.bool fopt))
        (first | exact ⟨e4, q0, q1, q2, q3, q4⟩ | exact ⟨(hb1.cell (p := ⟨G, 4, none⟩) ez).trans e4, (hb1.cell (p := ⟨E, 0, none⟩) qz).trans q0, (hb1.cell (p := ⟨E, 1, none⟩) qz).trans q1, (hb1.cell (p := ⟨E, 2, none⟩) qz).trans q2, (hb1.cell (p := ⟨E, 3, none⟩) qz).trans q3, (hb1.cell (p := ⟨E, 4, none⟩) qz).trans q4⟩)
        (first | (go_at_call 45; refine (HCb.out _ b1.drew).mono ?_; rintro e w5 ⟨rfl, hb1⟩))
      have hb5 := b1.drew.trans (hb1.mono b1.drew.size)
      have KG5 := kt KG (Lib.hid hb5)
      have KE5 := kt KE (Lib.hid hb5)
      have KF5 := kt KF (Lib.hid hb5)
      have KD5 := kt KD (Lib.hid hb5)
      have BB5 := bt BB (Lib.hid hb5)
      clear KG KE KF KD BB hb5 hb1 e0 e1 e2 e3 e4 ez q0 q1 q2 q3 q4 qz b1 HSL HCb
      cases z
      rotate_left
      · have hpm2 := hit_lt HZ.out
        have hG2 := HGL.out
        rw [sqL, if_pos HZ.out, glue_cons] at hG2
        have HG2 := Lib.hid hG2
        have c0 : w5.cell? ⟨g, q, none⟩ = some (.int .i64 (-1)) := by
          have := KG5.out.cell q
          rw [csZ_app, List.append_assoc] at this
          exact this.trans (mid_get pre _ _ q HPL.out)
        have c1 := KG5.out.free q
        have HFN := Lib.hid (show ∀ W6, w5.setCell ⟨g, q, none⟩ (.int .i64 (p : Int)) = W6 → Bk W6 g 3 (csZ (pre ++ [(p : Int)]) ++ zs r) ∧ Bk W6 G 29 [.int .u8 (c : Int), .bool k, .int .u32 (n : Int), u, .slice B m cb] ∧ Bk W6 D 38 [.slice none 0 0, .int .i64 0] ∧ Below w.heap.size w W6 from fun W6 hW6 => by
          subst hW6
          have := HGD.out
          have := HD.out
          exact ⟨by have h := KG5.out.store q (.int .i64 (p : Int)); rwa [set_mid2 pre (p : Int) (-1) _ q HPL.out] at h, KE5.out.far (p := ⟨g, q, none⟩) (by show G ≠ g; omega) _, KF5.out.far (p := ⟨g, q, none⟩) (by show D ≠ g; omega) _, BB5.out.setCell (p := ⟨g, q, none⟩) hgw _⟩)
        have hp9 : (p : Int) + 1 ≤ 9223372036854775807 := by have := HPM.out; omega
        have hpm3 : p + 1 ≤ m := by have := HM.out; omega
        clear hG2 hpm2 hgw
        go_wp2_with fail
        obtain ⟨g1, g2, g3, g4⟩ := HFN.out _ rfl
        exact ⟨⟨p + 1, q + 1, r, pre ++ [(p : Int)], by have := HQR.out; omega, by omega, by omega, by go_num, by go_num, by rw [List.length_append, HPL.out]; rfl, HG2.out, g1, g2, g3, g4⟩, by simp [intOf]; omega⟩
      · have c4 : w5.cell? ⟨E, 2 + 1 + 1, none⟩ = some (.bool fopt) := KD5.out.cell 4
        have c4' : w5.cell? ⟨E, 4, none⟩ = some (.bool fopt) := KD5.out.cell 4
        cases fopt
        rotate_left
        · have hG2 := HGL.out
          rw [sqL, if_neg (by rw [HZ.out]; decide), if_pos rfl, glue_cons] at hG2
          have HG2 := Lib.hid hG2
          clear hG2 hgw
          go_wp2_with fail
          exact ⟨⟨p, q + 1, r, pre ++ [-1], by have := HQR.out; omega, HPM.out, by omega, rfl, by go_num, by rw [List.length_append, HPL.out]; rfl, HG2.out, KG5.out, KE5.out, KF5.out, BB5.out⟩, by simp [intOf]; omega⟩
        · have hG2 := HGL.out
          rw [sqL, if_neg (by rw [HZ.out]; decide), if_neg (by simp), HM.out] at hG2
          obtain ⟨P0, hP0⟩ : ∃ P0 : List Int, (if p = m then [] else [(p : Int)]) = P0 := ⟨_, rfl⟩
          obtain ⟨F0, hF0⟩ : ∃ F0 : Nat, (if p = m then 7 else 9) = F0 := ⟨_, rfl⟩
          have hG3 : I = [] ∧ P = P0 ∧ f = F0 := by
            by_cases hpm : p = m
            · rw [if_pos hpm] at hG2 hP0 hF0
              unfold glue at hG2
              rw [if_neg (by simp)] at hG2
              injection hG2 with h1 h2
              injection h2 with h2 h3
              exact ⟨h1.symm, by rw [← h2, hP0], by rw [← h3, hF0]⟩
            · rw [if_neg hpm] at hG2 hP0 hF0
              unfold glue at hG2
              rw [if_neg (by simp)] at hG2
              injection hG2 with h1 h2
              injection h2 with h2 h3
              exact ⟨h1.symm, by rw [← h2, hP0], by rw [← h3, hF0]⟩
          obtain ⟨rfl, rfl, rfl⟩ := hG3
          have HMI := Lib.hid fun W => missing_any c n k u B m cb p W
          rw [hP0, hF0] at HMI
          obtain ⟨e0, e1, e2, e3, e4, ez⟩ := KE5.out.five
          clear hG2 hP0 hF0 HGL
          go_wp2_with fail
          refine (HMI.out _).mono ?_
          rintro e w6 ⟨A9, n9, c9, rfl, hl9, hn9, hm9, hx9, hr9, hb6⟩
          have K6 := kt KF5 (Lib.hid hb6)
          have B6 := bt BB5 (Lib.hid hb6)
          have HP9 := Lib.hid hl9
          have HN9 := Lib.hid (And.intro hn9 hm9)
          have HX9 := Lib.hid (hx9 rfl)
          have HR9 := Lib.hid (show Rd w6 A9 (csZ P) from hr9.rd)
          have HS9 := Lib.hid (show RdX (fun i => D < i) w6 A9 (csZ P) from RdX.above hr9 (by have := KF5.out.lt; exact this))
          clear hb6 hl9 hn9 hm9 hx9 hr9 e0 e1 e2 e3 e4 ez c4 c4'
          go_wp2_with (refine storeF rfl _ _ rfl rfl rfl K6.out rfl rfl ?_; intro w7 h7 h8)
          have hr7 : RdX (fun i => w.heap.size ≤ i) w7 A9 (csZ P) := (HS9.out.keep (T := fun i => w.heap.size ≤ i) h8.out.size (fun i hS hi => h8.out.block i hi (fun e => by injection e with e; omega)) (fun i hS _ => by have := HDD.out; have := HGG.out; omega))
          exact retF2 rfl rfl rfl h7.out rfl ⟨none, 0, 0, A9, n9, c9, rfl, rfl, Nat.le_refl _, by unfold maxLen; omega, RdX.nil, HP9.out, HN9.out.1, HN9.out.2, hr7, fun h => ⟨rfl, HX9.out⟩, B6.out.trans (only_below h8.out (by have := HDD.out; have := HGG.out; omega) B6.out.size)⟩
    · obtain rfl : q = N := by have := HQR.out; omega
      obtain rfl : r = 0 := by have := HQR.out; omega
      have hG2 := HGL.out
      rw [List.drop_eq_nil_of_le (by rw [HN.out]; exact Nat.le_refl _), sqL, HM.out] at hG2
      obtain ⟨e0, e1, e2, e3, e4, ez⟩ := KE.out.five
      by_cases hpm : p < m
      · rw [if_pos hpm] at hG2
        unfold glue at hG2
        rw [if_neg (by simp)] at hG2
        injection hG2 with h1 h2
        injection h2 with h2 h3
        subst h1 h2 h3
        have hl0 := fun W => litI W (p : Int)
        have tp : decide ((p : Int) < (m : Int)) = true := by simpa using hpm
        have HGDL := Lib.hid (show D < wr.heap.size from KF.out.lt)
        clear HGL
        go_wp2_with fail
        refine (fault_any 8 (some ⟨_, 0, none⟩) 1 1 _).mono ?_
        rintro e w6 ⟨rfl, hb6⟩
        have K6 := kt (kt KF (Lib.hid (bel1 _ _))) (Lib.hid hb6)
        have B6 := bt (bt BB (Lib.hid (bel1 _ _))) (Lib.hid hb6)
        have HS9 := Lib.hid (RdX.above (RdX.belowX (hl0 _) hb6) (g := D) HGDL.out)
        clear hb6 hl0 e0 e1 e2 e3 e4 ez
        go_wp2_with (refine storeF rfl _ _ rfl rfl rfl K6.out rfl rfl ?_; intro w7 h7 h8)
        have hr7 : RdX (fun i => w.heap.size ≤ i) w7 (some ⟨wr.heap.size, 0, none⟩) (csZ [(p : Int)]) := (HS9.out.keep (T := fun i => w.heap.size ≤ i) h8.out.size (fun i hS hi => h8.out.block i hi (fun e => by injection e with e; omega)) (fun i hS _ => by have := HDD.out; have := HGG.out; omega))
        exact retF2 rfl rfl rfl h7.out rfl ⟨none, 0, 0, _, 1, 1, rfl, rfl, Nat.le_refl _, by unfold maxLen; omega, RdX.nil, rfl, Nat.le_refl _, by unfold maxLen; omega, hr7, fun h => ⟨rfl, rfl⟩, B6.out.trans (only_below h8.out (by have := HDD.out; have := HGG.out; omega) B6.out.size)⟩
      · rw [if_neg hpm] at hG2
        unfold glue at hG2
        rw [if_pos rfl, List.append_nil] at hG2
        injection hG2 with h1 h2
        injection h2 with h2 h3
        subst h1 h2 h3
        have tp : decide ((p : Int) < (m : Int)) = false := by simp; omega
        have HRP : Hid (RdX (fun i => D < i) wr (some ⟨g, 0, none⟩) (csZ pre)) := Lib.hid (fun _ => ⟨g, 0, rfl, KG.out.lt, HD.out, fun j y hy => by
          rw [Nat.zero_add, KG.out.cell, List.getElem?_append_left (List.getElem?_eq_some_iff.1 hy).1]; exact hy⟩)
        clear HGL
        go_wp2_with (refine storeF rfl _ _ rfl rfl rfl KF.out rfl rfl ?_; intro w7 h7 h8)
        have hr7 : RdX (fun i => w.heap.size ≤ i) w7 (some ⟨g, 0, none⟩) (csZ pre) := (HRP.out.keep (T := fun i => w.heap.size ≤ i) h8.out.size (fun i hS hi => h8.out.block i hi (fun e => by injection e with e; omega)) (fun i hS _ => by have := HDD.out; have := HGG.out; omega))
        exact retF2 rfl rfl rfl h7.out rfl ⟨_, q, q, none, 0, 0, rfl, HPL.out, Nat.le_refl _, by have := HN6.out; unfold maxLen; omega, hr7, rfl, Nat.le_refl _, by unfold maxLen; omega, RdX.nil, fun h => ⟨rfl, rfl⟩, BB.out.trans (only_below h8.out (by have := HDD.out; have := HGG.out; omega) BB.out.size)⟩
end Go.Proofs.Ytfbdeefeagednaa.Fl
