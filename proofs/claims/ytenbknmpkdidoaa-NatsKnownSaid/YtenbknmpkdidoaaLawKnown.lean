/-
  The statement NatsKnown: the examples of the chapter; the largest number, and one more; texts of 155 digits.
  Conditions: none.
-/
import Derived.Test.YtenbknmpkdidoaaLives
import Derived.Test.YtenbknmpkdidoaaRow
import Derived.Test.YtenbknmpkdidoaaRefS
import Derived.Test.YtenbknmpkdidoaaRows
namespace Go.Proofs.Ytenbknmpkdidoaa
open Go.RowKit

def fullL : List Nat := List.replicate 64 255
theorem full64 : Nat64 fullL := ⟨by intro x hx; have := List.eq_of_mem_replicate hx; omega, by decide +kernel, by decide +kernel⟩
theorem full_of {ds : List Nat} (h : ds.length = 64) (h2 : ∀ j : Nat, j < 64 → ds[j]? = some 255) : ds = fullL := by
  apply List.ext_getElem?
  intro j
  rcases Nat.lt_or_ge j 64 with hj | hj
  · rw [h2 j hj]; unfold fullL; rw [List.getElem?_replicate, if_pos hj]
  · rw [List.getElem?_eq_none (by omega), List.getElem?_eq_none (by unfold fullL; rw [List.length_replicate]; exact hj)]
/-- One literal beside an argument. -/
theorem add_l1 (w : World) (A : Option Addr) (a b : List Nat) (hA : Rb w A a) (hb : Lt 256 b) (la : a.length ≤ 64) (lb : b.length ≤ 64) :
    Calls Try.prog 16 #[.slice A a.length a.length, .slice (some ⟨w.heap.size, 0, none⟩) b.length b.length] (w.alloc (.cells (cs8 b).toArray 5)) (GiveD w (addL a b) (addE a b)) :=
  (add_any _ _ a b _ _ _ (by unfold maxLen; omega) (by unfold maxLen; omega) (hA.below (bel1 _ _)) (lit_rb w b hb)).mono fun _ _ h => h.from (bel1 _ _)
theorem mul_l1 (w : World) (A : Option Addr) (a b : List Nat) (hA : Rb w A a) (hb : Lt 256 b) (la : a.length ≤ 64) (lb : b.length ≤ 64) :
    Calls Try.prog 18 #[.slice A a.length a.length, .slice (some ⟨w.heap.size, 0, none⟩) b.length b.length] (w.alloc (.cells (cs8 b).toArray 5)) (GiveD w (mulL a b) (mulE a b)) :=
  (mul_any _ _ a b _ _ _ (by unfold maxLen; omega) (by unfold maxLen; omega) (hA.below (bel1 _ _)) (lit_rb w b hb)).mono fun _ _ h => h.from (bel1 _ _)

/-- Powers of 0 and 1. -/
theorem pow_nil0 (w : World) : Calls Try.prog 22 #[.slice none 0 0, .int .i64 0] w (GiveD w [1] 0) := by
  have h := pow_ok none [] 0 0 w (by decide) (Nat.le_refl _) (by decide) Rb.nil ⟨Lt.nil, rfl, by decide⟩
  rw [show limD (val [] ^ 0) = [1] from by decide +kernel, show limE (val [] ^ 0) = 0 from by decide +kernel] at h
  exact h
theorem pow_nil (k : Nat) (w : World) (hk : 0 < k) (hm : k ≤ maxLen) : Calls Try.prog 22 #[.slice none 0 0, .int .i64 k] w (GiveD w [] 0) := by
  have h := pow_ok none [] 0 k w hm (Nat.le_refl _) (by decide) Rb.nil ⟨Lt.nil, rfl, by decide⟩
  rw [show val [] = 0 from rfl, Nat.zero_pow hk, show limD 0 = [] from by decide +kernel, show limE 0 = 0 from by decide +kernel] at h
  exact h
theorem pow_one (k : Nat) (w : World) (hm : k ≤ maxLen) :
    Calls Try.prog 22 #[.slice (some ⟨w.heap.size, 0, none⟩) 1 1, .int .i64 k] (w.alloc (.cells (cs8 [1]).toArray 5)) (GiveD w [1] 0) := by
  have h := pow_ok _ [1] 1 k _ hm (by decide) (by decide) (lit_rb w [1] (lt_lit rfl)) (nat64 _ (lt_lit rfl) rfl (by decide))
  rw [show val [1] = 1 from rfl, Nat.one_pow, show limD 1 = [1] from by decide +kernel, show limE 1 = 0 from by decide +kernel] at h
  exact h.mono fun _ _ h => h.from (bel1 _ _)

set_option maxHeartbeats 6400000 in
set_option maxRecDepth 100000 in
theorem known_walk (w : World) : Calls Try.prog 12 #[] w fun e w' => e = .returned (.bool true) ∧ Below w.heap.size w w' := by
  have hmk := make_bytes 64 (by omega) w
  obtain ⟨Z, hZ⟩ : ∃ Z, cs8 (List.replicate 64 0) = Z := ⟨_, rfl⟩
  rw [hZ, show ((64 : Nat) : Int) = 64 from rfl] at hmk
  have HZ := Lib.hid hZ
  clear hZ
  go_enter Try.func12, Try.ntmps12
  go_wp2_with fail
  go_loopw [2] (fun i wr => ∃ (k : Nat) (ds : List Nat), k ≤ 64 ∧ i = .int .i64 k ∧ ds.length = 64 ∧ Lt 256 ds ∧ (∀ j : Nat, j < k → ds[j]? = some 255) ∧ Bk wr w.heap.size 5 (cs8 ds) ∧ Below w.heap.size w wr) (fun i _ => 64 - (intOf i).toNat)
  case atStart =>
    exact ⟨0, List.replicate 64 0, Nat.zero_le _, rfl, by simp, by intro x hx; simp at hx; omega, fun j hj => absurd hj (by omega), by rw [HZ.out]; exact Bk.new _ _ _, (Below.refl _ _).alloc (Nat.le_refl _) _⟩
  case round =>
    obtain ⟨k, ds, hk, rfl, hds, hd8, hall, hB, hbel⟩ := hrel
    have HD := Lib.hid hds
    have HALL := Lib.hid hall
    have H8 := Lib.hid hd8
    have HB := Lib.hid hB
    have HBel := Lib.hid hbel
    clear hds hall hd8 hB hbel HZ hmk
    by_cases hlt : k < 64
    · have hc2 : wr.cell? ⟨w.heap.size, k, none⟩ = some (.int .u8 ((ds[k]'(by rw [HD.out]; exact hlt) : Nat) : Int)) := by
        rw [HB.out.cell, cs8_get (by rw [HD.out]; exact hlt)]
      have hfree : wr.frozen? ⟨w.heap.size, k, none⟩ = false := HB.out.free _
      generalize ds[k]'(by rw [HD.out]; exact hlt) = old at hc2
      go_wp2_with fail
      refine ⟨⟨k + 1, ds.set k 255, by omega, by go_num, by rw [List.length_set, HD.out], Lt.set H8.out (by omega), ?_, ?_, HBel.out.setCell (Nat.le_refl _) _⟩, by simp [intOf]; omega⟩
      · intro j hj
        rw [List.getElem?_set]
        by_cases e : k = j
        · rw [if_pos e, if_pos (by rw [HD.out]; exact hlt)]
        · rw [if_neg e]
          exact HALL.out j (by omega)
      · have hs := HB.out.store k (.int .u8 255)
        have e : (Value.int .u8 255) = by8 255 := rfl
        rw [e, cs8_set] at hs
        exact hs
    · have hk64 : k = 64 := by omega
      subst hk64
      have hfu := full_of HD.out HALL.out
      have hr : Rb wr (some ⟨w.heap.size, 0, none⟩) fullL := by rw [← hfu]; exact ⟨by have := HB.out.rd 0; simpa using this, H8.out⟩
      have R0 := Lib.hid hr
      have hle : fullL.length = 64 := by decide +kernel
      have HLE := Lib.hid hle
      have FA := Lib.hid (show fullL.length ≤ 64 by decide +kernel)
      obtain ⟨A, hAe⟩ : ∃ A, (some ⟨w.heap.size, 0, none⟩ : Option Addr) = A := ⟨_, rfl⟩
      rw [hAe] at R0 ⊢
      clear hfu hr HB HD HALL H8 hle hAe
      have a1 := add_l1 wr A fullL [1] R0.out (lt_lit rfl) FA.out (by decide)
      rw [show addL fullL [1] = [] from by decide +kernel, show addE fullL [1] = 3 from by decide +kernel, HLE.out] at a1
      have A1 := Lib.hid a1
      clear a1
      go_wp2_with fail
      refine A1.out.mono ?_
      intro e wa h
      obtain ⟨X1, rfl, _, hb⟩ := h.hid
      have Ba := Lib.hid hb.out
      clear h hb A1
      have a2 := add_any A none fullL [] 64 0 wa (by rw [HLE.out]; decide) (by decide) (R0.out.below Ba.out) Rb.nil
      rw [show addL fullL [] = fullL from by decide +kernel, show addE fullL [] = 0 from by decide +kernel, HLE.out, show ([] : List Nat).length = 0 from rfl] at a2
      have A2 := Lib.hid a2
      clear a2
      go_wp2_with fail
      refine A2.out.mono ?_
      intro e wb h
      obtain ⟨S1, rfl, rs, hb⟩ := h.hid
      have RS := Lib.hid rs.out
      have Bb := bt Ba hb
      clear h hb A2 rs Ba
      have a3 := mul_l1 wb A fullL [2] (R0.out.below Bb.out) (lt_lit rfl) FA.out (by decide)
      rw [show mulL fullL [2] = [] from by decide +kernel, show mulE fullL [2] = 3 from by decide +kernel, HLE.out] at a3
      have A3 := Lib.hid a3
      clear a3
      rw [HLE.out]
      go_wp2_with fail
      refine A3.out.mono ?_
      intro e wc h
      obtain ⟨X2, rfl, _, hb⟩ := h.hid
      have Bbc := Lib.hid hb.out
      have Bc := bt Bb hb
      clear h hb A3
      have a4 := mul_l1 wc A fullL [1] (R0.out.below Bc.out) (lt_lit rfl) FA.out (by decide)
      rw [show mulL fullL [1] = fullL from by decide +kernel, show mulE fullL [1] = 0 from by decide +kernel, HLE.out] at a4
      have A4 := Lib.hid a4
      clear a4
      go_wp2_with fail
      refine A4.out.mono ?_
      intro e wd h
      obtain ⟨P1, rfl, rp, hb⟩ := h.hid
      have RP := Lib.hid rp.out
      have Bbd := bt Bbc hb
      have Bd := bt Bc hb
      have RSd := Lib.hid (RS.out.below Bbd.out)
      have RFd := Lib.hid (R0.out.below Bd.out)
      clear h hb A4 rp Bbc Bb Bc RS Bbd
      have s1 := run_str8 RFd.out 64
      rw [HLE.out] at s1
      have i1 := is_any S1 fullL 64 wd RSd.out
      have i2 := is_any P1 fullL 64 wd RP.out
      rw [HLE.out] at i1 i2
      have I1 := Lib.hid i1
      have I2 := Lib.hid i2
      clear i1 i2
      rw [HLE.out]
      go_wp2_with fail
      refine I1.out.mono ?_
      rintro e wx ⟨rfl, rfl⟩
      go_wp2_with fail
      refine I2.out.mono ?_
      rintro e wx ⟨rfl, rfl⟩
      clear I1 I2 RSd RP
      have b1 := bits_any A fullL 64 wd (by rw [HLE.out]; decide) RFd.out
      rw [show bitsN fullL = 512 from by decide +kernel, HLE.out] at b1
      have B1 := Lib.hid b1
      clear b1
      go_wp2_with fail
      refine B1.out.mono ?_
      rintro e wx ⟨rfl, rfl⟩
      clear B1 s1
      obtain ⟨S, hS⟩ : ∃ S : ByteArray, ({ data := #[49, 51, 52, 48, 55, 56, 48, 55, 57, 50, 57, 57, 52, 50, 53, 57, 55, 48, 57, 57, 53, 55, 52, 48, 50, 52, 57, 57, 56, 50, 48, 53, 56, 52, 54, 49, 50, 55, 52, 55, 57, 51, 54, 53, 56, 50, 48, 53, 57, 50, 51, 57, 51, 51, 55, 55, 55, 50, 51, 53, 54, 49, 52, 52, 51, 55, 50, 49, 55, 54, 52, 48, 51, 48, 48, 55, 51, 53, 52, 54, 57, 55, 54, 56, 48, 49, 56, 55, 52, 50, 57, 56, 49, 54, 54, 57, 48, 51, 52, 50, 55, 54, 57, 48, 48, 51, 49, 56, 53, 56, 49, 56, 54, 52, 56, 54, 48, 53, 48, 56, 53, 51, 55, 53, 51, 56, 56, 50, 56, 49, 49, 57, 52, 54, 53, 54, 57, 57, 52, 54, 52, 51, 51, 54, 52, 57, 48, 48, 54, 48, 56, 52, 48, 57, 53] } : ByteArray) = S := ⟨_, rfl⟩
      have f1 : bstr (textL (val fullL)) = S := by rw [← hS]; decide +kernel
      have f2 : parseL (sl S) = fullL ∧ parseE (sl S) = 0 := by rw [← hS]; decide +kernel
      have t1 := text_ok A fullL 64 wd (by rw [HLE.out]; decide) (by decide) RFd.out full64
      rw [f1, HLE.out] at t1
      have T1 := Lib.hid t1
      have F2 := Lib.hid f2
      have f3 : S.size = 155 := by rw [← hS]; decide +kernel
      have HS := Lib.hid hS
      clear t1 f1 f2
      go_wp2_with fail
      refine T1.out.mono ?_
      rintro e we ⟨rfl, hb⟩
      have Be := bt Bd (Lib.hid hb)
      clear hb T1 Bd RFd
      have p1 := parse_any S we (by rw [f3]; decide)
      rw [F2.out.1, F2.out.2] at p1
      have PP := Lib.hid p1
      clear p1 F2
      go_wp2_with fail
      refine PP.out.mono ?_
      intro e wf h
      obtain ⟨K1, rfl, rk, hb⟩ := h.hid
      have RK := Lib.hid rk.out
      have Bf := bt Be hb
      clear h hb PP rk Be
      rw [HLE.out]
      go_wp2_with fail
      have f4 : (S.extract 0 154 ++ { data := #[54] }).size ≤ maxLen ∧ parseE (sl (S.extract 0 154 ++ { data := #[54] })) = 3 := by rw [← HS.out]; decide +kernel
      have p2 := parse_any (S.extract 0 154 ++ { data := #[54] }) wf f4.1
      rw [f4.2] at p2
      generalize parseL (sl (S.extract 0 154 ++ { data := #[54] })) = M at p2
      generalize S.extract 0 154 ++ { data := #[54] } = S2 at p2 ⊢
      have PP := Lib.hid p2
      clear p2 f4 HS
      have hself : (S.toList != S.toList) = false := by simp
      refine PP.out.mono ?_
      intro e wg h
      obtain ⟨K2, rfl, _, hb⟩ := h.hid
      have RKg := Lib.hid (RK.out.below hb.out)
      have Bg := bt Bf hb
      clear h hb PP RK Bf
      have RFg := Lib.hid (R0.out.below Bg.out)
      have s1 := run_str8 RFg.out 64
      rw [HLE.out] at s1
      have i1 := is_any K1 fullL 64 wg RKg.out
      rw [HLE.out] at i1
      have I1 := Lib.hid i1
      clear i1 RKg
      go_wp2_with fail
      refine I1.out.mono ?_
      rintro e wx ⟨rfl, rfl⟩
      clear I1 s1
      go_wp2_with fail
      refine (pow_nil0 wg).mono ?_
      intro e wh h
      obtain ⟨Z1, rfl, rz1, hb⟩ := h.hid
      have Bgh := Lib.hid hb.out
      clear h hb
      go_wp2_with fail
      refine (pow_nil 4611686018427387904 wh (by decide) (by decide)).mono ?_
      intro e wi h
      obtain ⟨Z2, rfl, rz2, hb⟩ := h.hid
      have Bhi := Lib.hid hb.out
      clear h hb
      go_wp2_with fail
      refine (pow_one 4611686018427387904 wi (by decide)).mono ?_
      intro e wj h
      obtain ⟨Z3, rfl, rz3, hb⟩ := h.hid
      have Bij := Lib.hid hb.out
      have Bj := bt Bg (bt (bt Bgh Bhi) Bij)
      clear h hb RFg
      have dd := div_any A fullL 64 4294967295 wj (by rw [HLE.out]; decide) (R0.out.below Bj.out) (by omega)
      rw [show divE fullL 4294967295 = 0 from by decide +kernel, if_pos rfl, if_pos rfl, show val fullL % 4294967295 = 0 from by decide +kernel, HLE.out] at dd
      obtain ⟨Q, hQ⟩ : ∃ Q, dig (val fullL / 4294967295) = Q := ⟨_, rfl⟩
      have g1 : Q.length ≤ 64 ∧ mulL Q (dig 4294967295) = fullL ∧ mulE Q (dig 4294967295) = 0 := by rw [← hQ]; decide +kernel
      rw [hQ] at dd
      have DD := Lib.hid dd
      have G1 := Lib.hid g1
      clear dd hQ g1
      go_wp2_with fail
      refine DD.out.mono ?_
      rintro e wk ⟨D1, rfl, rd, hb⟩
      have Bjk := Lib.hid hb
      have RD := Lib.hid rd
      clear rd hb DD
      go_wp2_with fail
      refine (of_any 4294967295 wk (by omega)).mono ?_
      rintro e wl ⟨O1, rfl, ro, hb⟩
      have Bkl := Lib.hid hb
      have RO := Lib.hid ro
      clear ro hb
      have mm := mul_any D1 O1 Q (dig 4294967295) Q.length (dig 4294967295).length wl (Nat.le_trans G1.out.1 (by decide)) (by decide +kernel) (RD.out.below Bkl.out) RO.out
      rw [G1.out.2.1, G1.out.2.2] at mm
      have MM := Lib.hid mm
      clear mm
      go_wp2_with fail
      refine MM.out.mono ?_
      intro e wm h
      obtain ⟨N1, rfl, rn, hb⟩ := h.hid
      have Bim := bt Bij (bt (bt Bjk Bkl) hb)
      have Bhm := bt Bhi Bim
      have Bm := bt Bg (bt Bgh Bhm)
      have rz1m := Lib.hid (rz1.out.below Bhm.out)
      have rz2m := Lib.hid (rz2.out.below Bim.out)
      have rz3m := Lib.hid (rz3.out.below (bt (bt Bjk Bkl) hb).out)
      have s1 := run_str8 rn.out 64
      have s2 := run_str8 (R0.out.below Bm.out) 64
      rw [HLE.out] at s1 s2
      have hself2 : ((bstr fullL).toList == (bstr fullL).toList) = true := by rw [beq_iff_eq]
      have Bz := bt HBel Bm
      clear h hb rn Bim Bhm Bjk Bkl Bhi Bij Bgh Bg Bj Bm rz1 rz2 rz3 RD RO MM G1
      rw [HLE.out]
      go_wp2_with fail
      refine (is_any Z1 [1] 1 wm rz1m.out).mono ?_
      rintro e wx ⟨rfl, rfl⟩
      go_wp2_with fail
      refine (is_any Z2 [] 0 wm rz2m.out).mono ?_
      rintro e wx ⟨rfl, rfl⟩
      go_wp2_with fail
      refine (is_any Z3 [1] 1 wm rz3m.out).mono ?_
      rintro e wx ⟨rfl, rfl⟩
      clear rz1m rz2m rz3m
      go_wp2_with fail
      refine (lives1 wm).mono ?_
      rintro e wn ⟨rfl, hb⟩
      have Bn := bt Bz (Lib.hid hb)
      clear hb Bz
      go_wp2_with fail
      go_ret
      exact ⟨rfl, Bn.out⟩

open Go.ChangeShapes Go.WideShapes Go.ChangeAt
set_option maxRecDepth 100000 in
theorem natsKnown_lifted (os : Os) (started : os.Started) (H : Type) (enc : TypeId × Value → H) :
    ReturnsInHanded {} Try.checked os 12 .any (Rows.natsKnownSpec.pre6 enc Try.prog Try.f12 Rows.natsKnownRow.domain false) (Rows.natsKnownSpec.post enc Try.prog Try.f12 false true false false) := by
  refine returnsInHanded_of_change (C := Try.checked) x_own started (by kernel_rfl) Try.func12
    (ChangeSpec.witness6 (enc := enc) (C := Try.checked) false ⟨#[], #[], []⟩ 8 (by kernel_rfl) (by kernel_rfl) (by kernel_rfl) (by kernel_rfl)) ?_
  intro W base args ds gs before hval0 hW hcnd _
  have hval : ∀ (j : Nat) t v, Try.f12.params[j]? = some t → args[j]? = some v → Value.okWide Try.prog W .any base t v := hval0
  have hW' := hW
  obtain ⟨p, q, hA0, hV, rfl, hfz, hnd⟩ := hW
  have hA : DataW.TrodAll enc Try.prog W 0 (fun _ => true) true Try.f12.params.toList args.toList ds p := hA0
  rw [Try.params12] at hA hval
  obtain ⟨rfl, rfl, rfl⟩ := trodAll_none hA
  obtain ⟨rfl, rfl⟩ := trodVars_none hV
  clear hA0 hval0
  refine (known_walk W).mono fun e W' ⟨he, hb⟩ => ?_
  subst he
  exact ⟨_, rfl, law_post (tb := 4) x_laid (by decide +kernel) rfl rfl (by kernel_rfl) Try.underlying4 hW' hb⟩

/-- The statement. -/
theorem natsKnown_holds : Rows.NatsKnownSaid :=
  OpenClaim.holds_of_wide 12 Try.f12 rfl rfl rfl rfl rfl rfl rfl ⟨rfl, rfl, rfl, rfl, rfl⟩ rfl rfl rfl rfl rfl (by kernel_rfl) Try.func12 (by kernel_rfl)
    (of_decide_eq_true (by kernel_rfl)) (by unfold Func.isWrapper; first | (rw [if_pos (by decide +kernel)]; kernel_rfl) | (rw [if_neg (by decide +kernel)]; exact ⟨rfl, rfl⟩))
    (fun os started H enc _ => natsKnown_lifted os started H enc)
end Go.Proofs.Ytenbknmpkdidoaa
