/-
  Layer 12: the walk of FieldsPlaces: at the offset of a path in the encoding stands the encoding of the element to which it leads, which is new memory; faults are reported there.
  Conditions: none beyond that the codes and the numbers are bytes.
-/
import Derived.Test.YtfbdeefeagednaaFlQ
import Derived.Test.YtfbdeefeagednaaFlRo
import Derived.Test.YtfbdeefeagednaaFlYs
import Derived.Test.YtfbdeefeagednaaFlPa
import Derived.Test.YtfbdeefeagednaaFlRf
namespace Go.Proofs.Ytfbdeefeagednaa.Fl
open Go.RowKit

theorem atE_ok : ∀ (p : List Int) (e d : El), OKe e → atE e p = some d → OKe d
  | [], e, d, h, ha => by rw [atE_nil] at ha; injection ha with ha; exact ha ▸ h
  | z :: t, .mk c n k bs ss, d, h, ha => by
    rw [atE] at ha
    split at ha
    · rename_i hz; exact atE_ok t _ _ (h.sub hz.2) ha
    · cases ha
theorem offR_none {e : El} {p : List Int} (hok : OKe e) (h : atE e p = none) : offR e p = (0, 19) := by
  unfold offR; rw [if_neg (by rw [hok.siz]; simp), h]
theorem offR_some {e d : El} {p : List Int} (hok : OKe e) (h : atE e p = some d) : offR e p = (offE e p, 0) := by
  unfold offR; rw [if_neg (by rw [hok.siz]; simp), h]
theorem bkneU {w : World} {g g' : Nat} {t t' : TypeId} {cs cs' : List Value} (h : Bk w g t cs) (h' : Bk w g' t' cs') (ht : t ≠ t') (e : g = g') : False := by
  subst e
  unfold Bk at h h'
  rw [h] at h'
  injection h' with h'
  injection h' with _ h'
  exact ht h'
theorem sl8 (A : Option Addr) (n c a b d : Nat) (hab : a + d = b) (hb : b ≤ n) (hc : n ≤ c) :
    ∃ A' c', (∀ W, (Instr.slice 26 (.slice A n c) (some (.int .i64 (a : Int))) (some (.int .i64 (b : Int))) none).run Try.prog W = .ok (.slice A' d c') W) ∧ ∀ (W : World) (l : List Nat), l.length = n → Rb W A l → Rb W A' ((l.drop a).take d) := by
  have hsz : ∀ W, (sizeOf (Try.prog.elem 26)).run Try.prog W = .ok 1 W := fun W => by kernel_rfl
  refine ⟨if c = a then A else A.map (·.add (a * 1)), c - a, fun W => ?_, fun W l hl hr => ?_⟩
  · rw [run_slice_lh (P := Try.prog) W 26 A n c (by kernel_rfl) .i64 .i64 (a : Int) (b : Int) (by omega) (by omega) (by omega), hsz]
    simp only [Result.andThen, Int.toNat_natCast, sliced]
    rw [show b - a = d by omega]
  · refine ⟨fun hn => ?_, fun y hy => hr.2 y (List.mem_of_mem_drop (List.mem_of_mem_take hy))⟩
    have hd : d ≠ 0 := by intro e; subst e; simp [cs8] at hn
    rw [if_neg (by omega)]
    obtain ⟨g, off, rfl, hlt, hcell⟩ := hr.1 (by intro e; have := congrArg List.length e; simp [cs8] at this; subst this; simp at hl; omega)
    refine ⟨g, off + a, by show some ((⟨g, off, none⟩ : Addr).add (a * 1)) = _; rw [addr_add, Nat.mul_one], hlt, fun j u hu => ?_⟩
    rw [Nat.add_assoc]
    refine hcell (a + j) u ?_
    unfold cs8 at hu ⊢
    rw [List.getElem?_map] at hu ⊢
    rw [← hu]
    have hj : j < d := by
      rcases Nat.lt_or_ge j d with h | h
      · exact h
      · rw [List.getElem?_eq_none (by rw [List.length_take]; omega)] at hu; cases hu
    rw [List.getElem?_take_of_lt hj, List.getElem?_drop]
set_option linter.unusedSimpArgs false in
set_option maxHeartbeats 8000000 in
set_option maxRecDepth 100000 in
theorem places_law (code : List Nat) (A : Option Addr) (n c : Nat) (l : List Nat) (A2 : Option Addr) (n2 c2 : Nat) (w : World) (hA : Rb w A code) (hn : code.length = n) (hnm : n ≤ maxLen) (hA2 : Rb w A2 l) (hn2 : l.length = n2) (hm2 : n2 ≤ maxLen) :
    Calls Try.prog 28 #[.agg #[.slice A n c], .slice A2 n2 c2] w fun e w' => e = .returned (.bool true) ∧ Below w.heap.size w w' := by
  have HOK := Lib.hid (tofE_ok hA.2)
  have HSM := Lib.hid (tofE_sm hA.2)
  have RA := Lib.hid hA
  have RL := Lib.hid hA2
  have HN := Lib.hid (And.intro hn hnm)
  have HN2 := Lib.hid (And.intro hn2 hm2)
  have B := Lib.hid (Below.refl w.heap.size w)
  clear hA hA2 hn hnm hn2 hm2
  go_enter Try.func28, Try.ntmps28
  go_upto_region 1 with fail
  obtain ⟨g3, hg3⟩ : ∃ g, w.heap.size = g := ⟨_, rfl⟩
  obtain ⟨w1, hw⟩ : ∃ v, w.alloc (.cells #[.slice A n c] 66) = v := ⟨_, rfl⟩
  have hbh := Lib.hid (show Below w.heap.size w w1 by rw [← hw]; exact bel1 _ _)
  have K3n := Lib.hid (show Bk w1 g3 66 [.slice A n c] by rw [← hw, ← hg3]; exact Bk.new w _ [_])
  rw [hw, hg3]
  replace RA := Lib.hid (RA.out.below hbh.out)
  replace RL := Lib.hid (RL.out.below hbh.out)
  replace B := bt B hbh
  have K3 := K3n
  clear hbh hw K3n
  have c0 : w1.cell? ⟨g3, 0, none⟩ = some (.slice A n c) := K3.out.cell 0
  go_wp2_with fail
  refine (tof_any code A n c HN.out.1 HN.out.2 _ RA.out).mono ?_
  rintro e w2 ⟨B1, m, cb, rfl, hm1, hmc, hcm, hrs, hb⟩
  have HM := Lib.hid (And.intro hm1 (And.intro hmc hcm))
  have hbh := Lib.hid hb
  replace RA := Lib.hid (RA.out.below hbh.out)
  replace RL := Lib.hid (RL.out.below hbh.out)
  replace B := bt B hbh
  replace K3 := kt K3 hbh
  have RS := Lib.hid hrs
  clear hbh hb hm1 hmc hcm hrs c0
  go_upto_region 2 with fail
  obtain ⟨gE, hgE⟩ : ∃ g, w2.heap.size = g := ⟨_, rfl⟩
  obtain ⟨w3, hw⟩ : ∃ v, w2.alloc (.cells #[.int .u8 0, .bool true, .int .u32 16, .slice none 0 0, .slice B1 m cb] 29) = v := ⟨_, rfl⟩
  have hbh := Lib.hid (show Below w2.heap.size w2 w3 by rw [← hw]; exact bel1 _ _)
  have KEn := Lib.hid (show Bk w3 gE 29 [.int .u8 0, .bool true, .int .u32 16, .slice none 0 0, .slice B1 m cb] by rw [← hw, ← hgE]; exact Bk.new w2 _ [_, _, _, _, _])
  rw [hw, hgE]
  replace RA := Lib.hid (RA.out.below hbh.out)
  replace RL := Lib.hid (RL.out.below hbh.out)
  replace B := bt B hbh
  replace K3 := kt K3 hbh
  replace RS := Lib.hid (RS.out.stay hbh.out)
  have KE := KEn
  clear hbh hw KEn
  obtain ⟨e0, e1, e2, e3, e4, ez⟩ := KE.out.five
  go_wp2_with fail
  refine (path_any (tofE code) _ l A2 n2 c2 _ (rdE_parts (x := false) (c := 0) (n := 16) (k := true) (by decide) (by decide) HM.out.1 HM.out.2.1 HM.out.2.2 (fun h => by cases h) RS.out) HSM.out RL.out HN2.out.1 HN2.out.2).mono ?_
  rintro e w4 ⟨AP, nP, cP, rfl, hlP, hrP, _, _, hb⟩
  have hl6 := pthL_len (l.take 6) (tofE code)
  obtain ⟨pp, hpp⟩ : ∃ pp, pthL (tofE code) (l.take 6) = pp := ⟨_, rfl⟩
  rw [hpp] at hlP hrP hl6
  have HP := Lib.hid hlP
  have hnP : nP ≤ 6 := by rw [← hlP]; refine Nat.le_trans hl6 ?_; rw [List.length_take]; omega
  clear hpp hl6
  have hbh := Lib.hid hb
  replace RA := Lib.hid (RA.out.below hbh.out)
  replace RL := Lib.hid (RL.out.below hbh.out)
  replace B := bt B hbh
  replace K3 := kt K3 hbh
  replace RS := Lib.hid (RS.out.stay hbh.out)
  replace KE := kt KE hbh
  have RP := Lib.hid hrP
  clear hbh hb hlP hrP e0 e1 e2 e3 e4 ez
  clear RL
  have HDC := Lib.hid (And.intro (show depE (tofE code) ≤ 10000 by have := HOK.out.2.1; omega) HOK.out.con)
  obtain ⟨r, hr⟩ : ∃ r, atE (tofE code) pp = r := ⟨_, rfl⟩
  have HR := Lib.hid hr
  clear hr
  rcases r with _ | d
  · have HOF := Lib.hid (offR_none HOK.out HR.out)
    obtain ⟨e0, e1, e2, e3, e4, ez⟩ := KE.out.five
    go_wp2_with fail
    refine (rat_any (tofE code) _ pp AP nP cP _ (rdE_parts (x := false) (c := 0) (n := 16) (k := true) (by decide) (by decide) HM.out.1 HM.out.2.1 HM.out.2.2 (fun h => by cases h) RS.out) RP.out HP.out (by omega) none HR.out).mono ?_
    rintro e w5 ⟨rfl, hb⟩
    have hbh := Lib.hid hb
    replace RA := Lib.hid (RA.out.below hbh.out)
    replace B := bt B hbh
    replace K3 := kt K3 hbh
    replace RS := Lib.hid (RS.out.stay hbh.out)
    replace KE := kt KE hbh
    replace RP := rt RP hbh
    clear hbh hb e0 e1 e2 e3 e4 ez
    go_upto_region 4 with fail
    obtain ⟨gW, hgW⟩ : ∃ g, w5.heap.size = g := ⟨_, rfl⟩
    obtain ⟨w6, hw⟩ : ∃ v, w5.alloc (.cells #[.int .u8 0, .bool false, .int .u32 0, .slice none 0 0, .slice none 0 0] 29) = v := ⟨_, rfl⟩
    have hbh := Lib.hid (show Below w5.heap.size w5 w6 by rw [← hw]; exact bel1 _ _)
    have KWn := Lib.hid (show Bk w6 gW 29 [.int .u8 0, .bool false, .int .u32 0, .slice none 0 0, .slice none 0 0] by rw [← hw, ← hgW]; exact Bk.new w5 _ [_, _, _, _, _])
    rw [hw, hgW]
    replace RA := Lib.hid (RA.out.below hbh.out)
    replace B := bt B hbh
    replace K3 := kt K3 hbh
    replace RS := Lib.hid (RS.out.stay hbh.out)
    replace KE := kt KE hbh
    replace RP := rt RP hbh
    have KW := KWn
    clear hbh hw KWn
    obtain ⟨e0, e1, e2, e3, e4, ez⟩ := KE.out.five
    go_wp2_with fail
    refine (at_any (tofE code) _ pp AP nP cP _ (rdE_parts (x := false) (c := 0) (n := 16) (k := true) (by decide) (by decide) HM.out.1 HM.out.2.1 HM.out.2.2 (fun h => by cases h) RS.out) HSM.out RP.out HP.out (by omega) none HR.out).mono ?_
    rintro e w7 ⟨rfl, hb⟩
    have hbh := Lib.hid hb
    replace RA := Lib.hid (RA.out.below hbh.out)
    replace B := bt B hbh
    replace K3 := kt K3 hbh
    replace RS := Lib.hid (RS.out.stay hbh.out)
    replace KE := kt KE hbh
    replace RP := rt RP hbh
    replace KW := kt KW hbh
    clear hbh hb e0 e1 e2 e3 e4 ez
    go_upto_region 5 with fail
    obtain ⟨gG, hgG⟩ : ∃ g, w7.heap.size = g := ⟨_, rfl⟩
    obtain ⟨w8, hw⟩ : ∃ v, w7.alloc (.cells #[.int .u8 0, .bool false, .int .u32 0, .slice none 0 0, .slice none 0 0] 29) = v := ⟨_, rfl⟩
    have hbh := Lib.hid (show Below w7.heap.size w7 w8 by rw [← hw]; exact bel1 _ _)
    have KGn := Lib.hid (show Bk w8 gG 29 [.int .u8 0, .bool false, .int .u32 0, .slice none 0 0, .slice none 0 0] by rw [← hw, ← hgG]; exact Bk.new w7 _ [_, _, _, _, _])
    rw [hw, hgG]
    replace RA := Lib.hid (RA.out.below hbh.out)
    replace B := bt B hbh
    replace K3 := kt K3 hbh
    replace RS := Lib.hid (RS.out.stay hbh.out)
    replace KE := kt KE hbh
    replace RP := rt RP hbh
    replace KW := kt KW hbh
    have KG := KGn
    clear hbh hw KGn
    obtain ⟨e0, e1, e2, e3, e4, ez⟩ := KE.out.five
    go_wp2_with fail
    refine (off_any (tofE code) _ pp AP nP cP _ (rdE_parts (x := false) (c := 0) (n := 16) (k := true) (by decide) (by decide) HM.out.1 HM.out.2.1 HM.out.2.2 (fun h => by cases h) RS.out) HDC.out.1 HDC.out.2 RP.out HP.out (by omega) 0 19 HOF.out).mono ?_
    rintro e w9 ⟨rfl, hb⟩
    have hbh := Lib.hid hb
    replace RA := Lib.hid (RA.out.below hbh.out)
    replace B := bt B hbh
    replace K3 := kt K3 hbh
    replace RS := Lib.hid (RS.out.stay hbh.out)
    replace KE := kt KE hbh
    replace RP := rt RP hbh
    replace KW := kt KW hbh
    replace KG := kt KG hbh
    clear hbh hb e0 e1 e2 e3 e4 ez
    obtain ⟨e0, e1, e2, e3, e4, ez⟩ := KE.out.five
    go_wp2_with fail
    refine (report_any (tofE code) _ pp AP nP cP 11 _ (rdE_parts (x := false) (c := 0) (n := 16) (k := true) (by decide) (by decide) HM.out.1 HM.out.2.1 HM.out.2.2 (fun h => by cases h) RS.out) HDC.out.1 HDC.out.2 RP.out HP.out (by omega) 0 11 (by unfold repR; rw [if_neg (by decide), HOF.out])).mono ?_
    rintro e w10 ⟨rfl, hb⟩
    have hbh := Lib.hid hb
    replace RA := Lib.hid (RA.out.below hbh.out)
    replace B := bt B hbh
    replace K3 := kt K3 hbh
    replace RS := Lib.hid (RS.out.stay hbh.out)
    replace KE := kt KE hbh
    replace RP := rt RP hbh
    replace KW := kt KW hbh
    replace KG := kt KG hbh
    clear hbh hb e0 e1 e2 e3 e4 ez
    obtain ⟨x0, x1, x2, x3, x4, xz⟩ := KG.out.five
    have HQ : ∀ W, (binOp .eql 25 (.agg #[.int .u8 0, .bool false, .int .u32 0]) (.agg #[.int .u8 0, .bool false, .int .u32 0])).run Try.prog W = .ok (.bool true) W := fun W => eqlT 0 false 0 0 false 0 W
    go_wp2_with fail
    refine (lives_any _).mono ?_
    rintro e w11 ⟨rfl, hb⟩
    have hbh := Lib.hid hb
    replace RA := Lib.hid (RA.out.below hbh.out)
    replace B := bt B hbh
    replace K3 := kt K3 hbh
    replace RS := Lib.hid (RS.out.stay hbh.out)
    replace KE := kt KE hbh
    replace RP := rt RP hbh
    replace KW := kt KW hbh
    replace KG := kt KG hbh
    clear hbh hb 
    go_wp2_with fail
    go_ret
    exact ⟨rfl, B.out⟩
  · obtain ⟨dc, dn, dk, bs, ss⟩ := d
    obtain ⟨O, hO⟩ : ∃ O, offE (tofE code) pp = O := ⟨_, rfl⟩
    have HOKD := Lib.hid (atE_ok _ _ _ HOK.out HR.out)
    have HOA := Lib.hid (offE_at HR.out)
    have HOO := Lib.hid hO
    have HOF2 : Hid (offR (tofE code) pp = (O, 0)) := Lib.hid (by rw [offR_some HOK.out HR.out, hO])
    clear hO
    obtain ⟨e0, e1, e2, e3, e4, ez⟩ := KE.out.five
    go_wp2_with fail
    refine (rat_any (tofE code) _ pp AP nP cP _ (rdE_parts (x := false) (c := 0) (n := 16) (k := true) (by decide) (by decide) HM.out.1 HM.out.2.1 HM.out.2.2 (fun h => by cases h) RS.out) RP.out HP.out (by omega) (some (.mk dc dn dk bs ss)) HR.out).mono ?_
    rintro e w5 ⟨uu, rfl, hu, hb⟩
    obtain ⟨c5, n5, k5, A5, l5, q5, A6, l6, q6, rfl⟩ := hu.form
    have hu2 := hu.stay hb
    have hbh := Lib.hid hb
    replace RA := Lib.hid (RA.out.below hbh.out)
    replace B := bt B hbh
    replace K3 := kt K3 hbh
    replace RS := Lib.hid (RS.out.stay hbh.out)
    replace KE := kt KE hbh
    replace RP := rt RP hbh
    clear hbh hb e0 e1 e2 e3 e4 ez hu
    have RU := Lib.hid (hu2)
    clear hu2
    go_upto_region 4 with fail
    obtain ⟨gW, hgW⟩ : ∃ g, w5.heap.size = g := ⟨_, rfl⟩
    obtain ⟨w6, hw⟩ : ∃ v, w5.alloc (.cells #[.int .u8 (c5 : Int), .bool k5, .int .u32 (n5 : Int), .slice A5 l5 q5, .slice A6 l6 q6] 29) = v := ⟨_, rfl⟩
    have hbh := Lib.hid (show Below w5.heap.size w5 w6 by rw [← hw]; exact bel1 _ _)
    have KWn := Lib.hid (show Bk w6 gW 29 [.int .u8 (c5 : Int), .bool k5, .int .u32 (n5 : Int), .slice A5 l5 q5, .slice A6 l6 q6] by rw [← hw, ← hgW]; exact Bk.new w5 _ [_, _, _, _, _])
    rw [hw, hgW]
    replace RA := Lib.hid (RA.out.below hbh.out)
    replace B := bt B hbh
    replace K3 := kt K3 hbh
    replace RS := Lib.hid (RS.out.stay hbh.out)
    replace KE := kt KE hbh
    replace RP := rt RP hbh
    replace RU := Lib.hid (RU.out.stay hbh.out)
    have KW := KWn
    clear hbh hw KWn
    obtain ⟨e0, e1, e2, e3, e4, ez⟩ := KE.out.five
    have BA := Lib.hid (Below.refl w6.heap.size w6)
    have K3a := K3
    have KEa := KE
    have RSa := RS
    have RAa := RA
    have Ba := B
    go_wp2_with fail
    refine (at_any (tofE code) _ pp AP nP cP _ (rdE_parts (x := false) (c := 0) (n := 16) (k := true) (by decide) (by decide) HM.out.1 HM.out.2.1 HM.out.2.2 (fun h => by cases h) RS.out) HSM.out RP.out HP.out (by omega) (some (.mk dc dn dk bs ss)) HR.out).mono ?_
    rintro e w7 ⟨uu, rfl, hg, how, hb⟩
    obtain ⟨A7, N7, c7, B7, m7, rfl, hN7, hm7, hob, hsb⟩ := how
    have HNM := Lib.hid (And.intro hN7 hm7)
    have hbh := Lib.hid hb
    replace RA := Lib.hid (RA.out.below hbh.out)
    replace B := bt B hbh
    replace K3 := kt K3 hbh
    replace RS := Lib.hid (RS.out.stay hbh.out)
    replace KE := kt KE hbh
    replace RP := rt RP hbh
    replace RU := Lib.hid (RU.out.stay hbh.out)
    replace KW := kt KW hbh
    replace BA := bt BA hbh
    have RG := Lib.hid hg
    have OB := Lib.hid hob
    clear hbh hb e0 e1 e2 e3 e4 ez hg hob hN7 hm7
    have BW := Lib.hid (Below.refl w7.heap.size w7)
    have HSB := Lib.hid hsb
    clear hsb
    go_upto_region 5 with fail
    obtain ⟨gG, hgG⟩ : ∃ g, w7.heap.size = g := ⟨_, rfl⟩
    obtain ⟨w8, hw⟩ : ∃ v, w7.alloc (.cells #[.int .u8 (dc : Int), .bool dk, .int .u32 (dn : Int), .slice A7 N7 N7, .slice B7 m7 m7] 29) = v := ⟨_, rfl⟩
    have hbh := Lib.hid (show Below w7.heap.size w7 w8 by rw [← hw]; exact bel1 _ _)
    have KGn := Lib.hid (show Bk w8 gG 29 [.int .u8 (dc : Int), .bool dk, .int .u32 (dn : Int), .slice A7 N7 N7, .slice B7 m7 m7] by rw [← hw, ← hgG]; exact Bk.new w7 _ [_, _, _, _, _])
    rw [hw, hgG]
    replace RA := Lib.hid (RA.out.below hbh.out)
    replace B := bt B hbh
    replace K3 := kt K3 hbh
    replace RS := Lib.hid (RS.out.stay hbh.out)
    replace KE := kt KE hbh
    replace RP := rt RP hbh
    replace RU := Lib.hid (RU.out.stay hbh.out)
    replace KW := kt KW hbh
    replace BA := bt BA hbh
    replace RG := Lib.hid (RG.out.stay hbh.out)
    replace OB := Lib.hid (OB.out.below hbh.out)
    replace BW := bt BW hbh
    have KG := KGn
    clear hbh hw KGn
    obtain ⟨e0, e1, e2, e3, e4, ez⟩ := KE.out.five
    go_wp2_with fail
    refine (off_any (tofE code) _ pp AP nP cP _ (rdE_parts (x := false) (c := 0) (n := 16) (k := true) (by decide) (by decide) HM.out.1 HM.out.2.1 HM.out.2.2 (fun h => by cases h) RS.out) HDC.out.1 HDC.out.2 RP.out HP.out (by omega) O 0 HOF2.out).mono ?_
    rintro e w9 ⟨rfl, hb⟩
    have hbh := Lib.hid hb
    replace RA := Lib.hid (RA.out.below hbh.out)
    replace B := bt B hbh
    replace K3 := kt K3 hbh
    replace RS := Lib.hid (RS.out.stay hbh.out)
    replace KE := kt KE hbh
    replace RP := rt RP hbh
    replace RU := Lib.hid (RU.out.stay hbh.out)
    replace KW := kt KW hbh
    replace BA := bt BA hbh
    replace RG := Lib.hid (RG.out.stay hbh.out)
    replace OB := Lib.hid (OB.out.below hbh.out)
    replace BW := bt BW hbh
    replace KG := kt KG hbh
    clear hbh hb e0 e1 e2 e3 e4 ez
    obtain ⟨e0, e1, e2, e3, e4, ez⟩ := KE.out.five
    go_wp2_with fail
    refine (report_any (tofE code) _ pp AP nP cP 11 _ (rdE_parts (x := false) (c := 0) (n := 16) (k := true) (by decide) (by decide) HM.out.1 HM.out.2.1 HM.out.2.2 (fun h => by cases h) RS.out) HDC.out.1 HDC.out.2 RP.out HP.out (by omega) O 11 (by unfold repR; rw [if_neg (by decide), HOF2.out])).mono ?_
    rintro e w10 ⟨rfl, hb⟩
    have hbh := Lib.hid hb
    replace RA := Lib.hid (RA.out.below hbh.out)
    replace B := bt B hbh
    replace K3 := kt K3 hbh
    replace RS := Lib.hid (RS.out.stay hbh.out)
    replace KE := kt KE hbh
    replace RP := rt RP hbh
    replace RU := Lib.hid (RU.out.stay hbh.out)
    replace KW := kt KW hbh
    replace BA := bt BA hbh
    replace RG := Lib.hid (RG.out.stay hbh.out)
    replace OB := Lib.hid (OB.out.below hbh.out)
    replace BW := bt BW hbh
    replace KG := kt KG hbh
    clear hbh hb e0 e1 e2 e3 e4 ez
    have hw1 : IntKind.i64.wrap 1 = 1 := by rw [IntKind.wrap_i64]; omega
    obtain ⟨x0, x1, x2, x3, x4, xz⟩ := KG.out.five
    obtain ⟨y0, y1, y2, y3, y4, yz⟩ := KW.out.five
    go_wp2_with fail
    refine (same_eq (.mk dc dn dk bs ss) _ _ _ RG.out RU.out).mono ?_
    rintro e w11 ⟨rfl, hb⟩
    have hbh := Lib.hid hb
    replace RA := Lib.hid (RA.out.below hbh.out)
    replace B := bt B hbh
    replace K3 := kt K3 hbh
    replace RS := Lib.hid (RS.out.stay hbh.out)
    replace KE := kt KE hbh
    replace RP := rt RP hbh
    replace RU := Lib.hid (RU.out.stay hbh.out)
    replace KW := kt KW hbh
    replace BA := bt BA hbh
    replace RG := Lib.hid (RG.out.stay hbh.out)
    replace OB := Lib.hid (OB.out.below hbh.out)
    replace BW := bt BW hbh
    replace KG := kt KG hbh
    clear hbh hb x0 x1 x2 x3 x4 xz y0 y1 y2 y3 y4 yz
    obtain ⟨e0, e1, e2, e3, e4, ez⟩ := KE.out.five
    have HRF := Lib.hid (fun W hE hP => by have h := roff_any (x := false) (S := fun j => w1.heap.size ≤ j ∧ j < w2.heap.size) (tofE code) (elV 0 16 true (.slice none 0 0) (.slice B1 m cb)) pp AP nP cP W hE HOK.out hP HP.out (by omega) _ HR.out; rw [HOO.out] at h; exact h)
    go_wp2_with fail
    refine (HRF.out _ (rdE_parts (x := false) (c := 0) (n := 16) (k := true) (by decide) (by decide) HM.out.1 HM.out.2.1 HM.out.2.2 (fun h => by cases h) RS.out) RP.out).mono ?_
    rintro e w12 ⟨rfl, hb⟩
    have hbh := Lib.hid hb
    replace RA := Lib.hid (RA.out.below hbh.out)
    replace B := bt B hbh
    replace K3 := kt K3 hbh
    replace RS := Lib.hid (RS.out.stay hbh.out)
    replace KE := kt KE hbh
    replace RP := rt RP hbh
    replace RU := Lib.hid (RU.out.stay hbh.out)
    replace KW := kt KW hbh
    replace BA := bt BA hbh
    replace RG := Lib.hid (RG.out.stay hbh.out)
    replace OB := Lib.hid (OB.out.below hbh.out)
    replace BW := bt BW hbh
    replace KG := kt KG hbh
    clear hbh hb e0 e1 e2 e3 e4 ez HRF
    obtain ⟨x0, x1, x2, x3, x4, xz⟩ := KG.out.five
    obtain ⟨e0, e1, e2, e3, e4, ez⟩ := KE.out.five
    obtain ⟨LE, hLE⟩ : ∃ LE, (encE (tofE code)).length = LE := ⟨_, rfl⟩
    obtain ⟨LD, hLD⟩ : ∃ LD, (encE (.mk dc dn dk bs ss)).length = LD := ⟨_, rfl⟩
    have HLE := Lib.hid (And.intro hLE hLD)
    have HPE := Lib.hid (fun W hE => by have h := eput_any (x := false) (S := fun j => w1.heap.size ≤ j ∧ j < w2.heap.size) (tofE code) (elV 0 16 true (.slice none 0 0) (.slice B1 m cb)) W HDC.out.1 hE HDC.out.2; rw [encR_ok HOK.out] at h; dsimp only at h; exact h)
    have hLEb : LE ≤ 1048576 := by rw [← hLE]; exact HOK.out.2.2.2
    have hOL : O + LD ≤ LE := by have := HOA.out.1; rw [HOO.out, hLE, hLD] at this; exact this
    clear hLE hLD
    go_wp2_with fail
    refine (HPE.out _ (rdE_parts (x := false) (c := 0) (n := 16) (k := true) (by decide) (by decide) HM.out.1 HM.out.2.1 HM.out.2.2 (fun h => by cases h) RS.out)).mono ?_
    rintro e w13 ⟨AE, rfl, hrx, h8, hb⟩
    have hre := And.intro hrx.rd h8
    rw [HLE.out.1]
    have hbh := Lib.hid hb
    replace RA := Lib.hid (RA.out.below hbh.out)
    replace B := bt B hbh
    replace K3 := kt K3 hbh
    replace RS := Lib.hid (RS.out.stay hbh.out)
    replace KE := kt KE hbh
    replace RP := rt RP hbh
    replace RU := Lib.hid (RU.out.stay hbh.out)
    replace KW := kt KW hbh
    replace BA := bt BA hbh
    replace RG := Lib.hid (RG.out.stay hbh.out)
    replace OB := Lib.hid (OB.out.below hbh.out)
    replace BW := bt BW hbh
    replace KG := kt KG hbh
    have RE := Lib.hid (show Rb _ AE (encE (tofE code)) from hre)
    clear hbh hb hrx h8 hre HPE x0 x1 x2 x3 x4 xz e0 e1 e2 e3 e4 ez
    obtain ⟨y0, y1, y2, y3, y4, yz⟩ := KW.out.five
    have HPD := Lib.hid (fun W hE => by have h := eput_any (x := false) (S := fun i => i < w4.heap.size) (.mk dc dn dk bs ss) (elV c5 n5 k5 (.slice A5 l5 q5) (.slice A6 l6 q6)) W (by have := HOKD.out.2.1; omega) hE HOKD.out.con; rw [encR_ok HOKD.out] at h; dsimp only at h; exact h)
    go_wp2_with fail
    refine (HPD.out _ RU.out).mono ?_
    rintro e w14 ⟨AD, rfl, hrx, h8, hb⟩
    have hre := And.intro hrx.rd h8
    rw [HLE.out.2]
    have hbh := Lib.hid hb
    replace RA := Lib.hid (RA.out.below hbh.out)
    replace B := bt B hbh
    replace K3 := kt K3 hbh
    replace RS := Lib.hid (RS.out.stay hbh.out)
    replace KE := kt KE hbh
    replace RP := rt RP hbh
    replace RU := Lib.hid (RU.out.stay hbh.out)
    replace KW := kt KW hbh
    replace BA := bt BA hbh
    replace RG := Lib.hid (RG.out.stay hbh.out)
    replace OB := Lib.hid (OB.out.below hbh.out)
    replace BW := bt BW hbh
    replace KG := kt KG hbh
    replace RE := Lib.hid (RE.out.below hbh.out)
    have RD := Lib.hid (show Rb _ AD (encE (.mk dc dn dk bs ss)) from hre)
    clear hbh hb hrx h8 hre HPD y0 y1 y2 y3 y4 yz
    obtain ⟨K, hK⟩ : ∃ K, O + LD = K := ⟨_, rfl⟩
    obtain ⟨M9, hM9⟩ : ∃ M9, LE - LD = M9 := ⟨_, rfl⟩
    obtain ⟨AX, cX, hsl, hrd⟩ := sl8 AE LE LE O K LD hK (by omega) (Nat.le_refl _)
    obtain ⟨ZD, hZ⟩ : ∃ Z, bstr (encE (.mk dc dn dk bs ss)) = Z := ⟨_, rfl⟩
    have hrx := hrd _ _ HLE.out.1 RE.out
    have hoa := HOA.out.2
    rw [HOO.out, HLE.out.2] at hoa
    rw [hoa] at hrx
    have HZX := Lib.hid (show ∀ W, Below w14.heap.size w14 W → (convert 26 9 (.slice AX LD cX)).run Try.prog W = .ok (.string ZD) W from fun W hb => by have h := str8 (hrx.below hb) HLE.out.2 cX; rw [hZ] at h; exact h)
    have HZD := Lib.hid (show ∀ W, Below w14.heap.size w14 W → (convert 26 9 (.slice AD LD LD)).run Try.prog W = .ok (.string ZD) W from fun W hb => by have h := str8 (RD.out.below hb) HLE.out.2 LD; rw [hZ] at h; exact h)
    have t1 : (LE : Int) - (LD : Int) = (M9 : Int) := by omega
    have t2 : (O : Int) + (LD : Int) = (K : Int) := by omega
    have t3 : decide ((O : Int) < 0) = false := by simp
    have t4 : decide ((O : Int) > (M9 : Int)) = false := by simp; omega
    have hKb : K ≤ 1048576 := by omega
    have hMb : M9 ≤ 1048576 := by omega
    have hOM : O ≤ M9 := by omega
    have t5 : IntKind.i64.wrap (K : Int) = (K : Int) := by rw [IntKind.wrap_i64]; omega
    have t6 : IntKind.i64.wrap (M9 : Int) = (M9 : Int) := by rw [IntKind.wrap_i64]; omega
    have HSR := Lib.hid (show ∀ W, Below w14.heap.size w14 W → Below w14.heap.size w14 W from fun W hW => hW)
    clear hK hM9 hrd hrx hoa hZ
    go_upto_region 13 with fail
    refine wp_region_held_drew (S := fun W => Below w14.heap.size w14 W) (by kernel_rfl) (HSR.out _ (Below.refl w14.heap.size w14).drew) (fun hS => ?_)
    obtain ⟨wd, hwd⟩ : ∃ v, w14.drew = v := ⟨_, rfl⟩
    have d0 : Below w14.heap.size w14 wd := by rw [← hwd]; exact (Below.refl w14.heap.size w14).drew
    rw [hwd] at hS ⊢
    clear hwd
    refine wpAnyH_take (i := 0) (oi := ⟨some 144, _, _, _, _, _⟩) (v := .int .i64 0) rfl (by kernel_rfl) (by kernel_rfl) (by kernel_rfl) (fun _ _ _ h => h) (Or.inl ⟨by rfl, fun w _ => by go_simp⟩) hS ?_
    (try simp only [Act.put, List.setIfInBounds_toArray, List.set_cons_zero, List.set_cons_succ])
    refine wpAnyH_take (i := 1) (oi := ⟨some 145, _, _, _, _, _⟩) (v := .bool false) rfl (by kernel_rfl) (by kernel_rfl) (by kernel_rfl) (fun _ _ _ h => h) (Or.inl ⟨by rfl, fun w _ => by go_simp⟩) hS ?_
    (try simp only [Act.put, List.setIfInBounds_toArray, List.set_cons_zero, List.set_cons_succ])
    refine wpAnyH_take (i := 2) (oi := ⟨some 146, _, _, _, _, _⟩) (v := .bool false) rfl (by kernel_rfl) (by kernel_rfl) (by kernel_rfl) (fun _ _ _ h => h) (Or.inl ⟨by rfl, fun w _ => by go_simp⟩) hS ?_
    (try simp only [Act.put, List.setIfInBounds_toArray, List.set_cons_zero, List.set_cons_succ])
    refine wpAnyH_take (i := 3) (oi := ⟨some 147, _, _, _, _, _⟩) (v := .int .i64 0) rfl (by kernel_rfl) (by kernel_rfl) (by kernel_rfl) (fun _ _ _ h => h) (Or.inl ⟨by rfl, fun w _ => by go_simp⟩) hS ?_
    (try simp only [Act.put, List.setIfInBounds_toArray, List.set_cons_zero, List.set_cons_succ])
    refine wpAnyH_take (i := 4) (oi := ⟨some 148, _, _, _, _, _⟩) (v := .bool false) rfl (by kernel_rfl) (by kernel_rfl) (by kernel_rfl) (fun _ _ _ h => h) (Or.inl ⟨by rfl, fun w _ => by go_simp⟩) hS ?_
    (try simp only [Act.put, List.setIfInBounds_toArray, List.set_cons_zero, List.set_cons_succ])
    refine wpAnyH_take (i := 5) (oi := ⟨some 149, _, _, _, _, _⟩) (v := .bool false) rfl (by kernel_rfl) (by kernel_rfl) (by kernel_rfl) (fun _ _ _ h => h) (Or.inl ⟨by rfl, fun w _ => by go_simp⟩) hS ?_
    (try simp only [Act.put, List.setIfInBounds_toArray, List.set_cons_zero, List.set_cons_succ])
    refine wpAnyH_take (i := 6) (oi := ⟨some 150, _, _, _, _, _⟩) (v := .bool false) rfl (by kernel_rfl) (by kernel_rfl) (by kernel_rfl) (fun _ _ _ h => h) (Or.inl ⟨by rfl, fun w _ => by go_simp⟩) hS ?_
    (try simp only [Act.put, List.setIfInBounds_toArray, List.set_cons_zero, List.set_cons_succ])
    refine wpAnyH_take (i := 7) (oi := ⟨some 151, _, _, _, _, _⟩) (v := .int .i64 (O : Int)) rfl (by kernel_rfl) (by kernel_rfl) (by kernel_rfl) (fun _ _ _ h => h) (Or.inl ⟨by rfl, fun w _ => by go_simp⟩) hS ?_
    (try simp only [Act.put, List.setIfInBounds_toArray, List.set_cons_zero, List.set_cons_succ])
    refine wpAnyH_take (i := 8) (oi := ⟨some 152, _, _, _, _, _⟩) (v := .bool false) rfl (by kernel_rfl) (by kernel_rfl) (by kernel_rfl) (fun _ _ _ h => h) (Or.inl ⟨by rfl, fun w _ => by go_simp⟩) hS ?_
    (try simp only [Act.put, List.setIfInBounds_toArray, List.set_cons_zero, List.set_cons_succ])
    refine wpAnyH_take (i := 9) (oi := ⟨some 153, _, _, _, _, _⟩) (v := .bool false) rfl (by kernel_rfl) (by kernel_rfl) (by kernel_rfl) (fun _ _ _ h => h) (Or.inl ⟨by rfl, fun w _ => by go_simp⟩) hS ?_
    (try simp only [Act.put, List.setIfInBounds_toArray, List.set_cons_zero, List.set_cons_succ])
    refine wpAnyH_take (i := 10) (oi := ⟨some 154, _, _, _, _, _⟩) (v := .bool false) rfl (by kernel_rfl) (by kernel_rfl) (by kernel_rfl) (fun _ _ _ h => h) (Or.inl ⟨by rfl, fun w _ => by go_simp⟩) hS ?_
    (try simp only [Act.put, List.setIfInBounds_toArray, List.set_cons_zero, List.set_cons_succ])
    refine wpAnyH_take (i := 11) (oi := ⟨some 155, _, _, _, _, _⟩) (v := .int .i64 (O : Int)) rfl (by kernel_rfl) (by kernel_rfl) (by kernel_rfl) (fun _ _ _ h => h) (Or.inl ⟨by rfl, fun w _ => by go_simp⟩) hS ?_
    (try simp only [Act.put, List.setIfInBounds_toArray, List.set_cons_zero, List.set_cons_succ])
    refine wpAnyH_take (i := 12) (oi := ⟨some 156, _, _, _, _, _⟩) (v := .slice AE LE LE) rfl (by kernel_rfl) (by kernel_rfl) (by kernel_rfl) (fun _ _ _ h => h) (Or.inl ⟨by rfl, fun w _ => by go_simp⟩) hS ?_
    (try simp only [Act.put, List.setIfInBounds_toArray, List.set_cons_zero, List.set_cons_succ])
    refine wpAnyH_take (i := 13) (oi := ⟨some 157, _, _, _, _, _⟩) (v := .int .i64 (LE : Int)) rfl (by kernel_rfl) (by kernel_rfl) (by kernel_rfl) (fun _ _ _ h => h) (Or.inl ⟨by rfl, fun w _ => by go_simp⟩) hS ?_
    (try simp only [Act.put, List.setIfInBounds_toArray, List.set_cons_zero, List.set_cons_succ])
    refine wpAnyH_take (i := 14) (oi := ⟨some 158, _, _, _, _, _⟩) (v := .slice AD LD LD) rfl (by kernel_rfl) (by kernel_rfl) (by kernel_rfl) (fun _ _ _ h => h) (Or.inl ⟨by rfl, fun w _ => by go_simp⟩) hS ?_
    (try simp only [Act.put, List.setIfInBounds_toArray, List.set_cons_zero, List.set_cons_succ])
    refine wpAnyH_take (i := 15) (oi := ⟨some 159, _, _, _, _, _⟩) (v := .int .i64 (LD : Int)) rfl (by kernel_rfl) (by kernel_rfl) (by kernel_rfl) (fun _ _ _ h => h) (Or.inl ⟨by rfl, fun w _ => by go_simp⟩) hS ?_
    (try simp only [Act.put, List.setIfInBounds_toArray, List.set_cons_zero, List.set_cons_succ])
    refine wpAnyH_take (i := 16) (oi := ⟨some 160, _, _, _, _, _⟩) (v := .int .i64 (M9 : Int)) rfl (by kernel_rfl) (by kernel_rfl) (by kernel_rfl) (fun _ _ _ h => h) (Or.inl ⟨by rfl, fun w _ => by go_simp⟩) hS ?_
    (try simp only [Act.put, List.setIfInBounds_toArray, List.set_cons_zero, List.set_cons_succ])
    refine wpAnyH_take (i := 17) (oi := ⟨some 161, _, _, _, _, _⟩) (v := .bool false) rfl (by kernel_rfl) (by kernel_rfl) (by kernel_rfl) (fun _ _ _ h => h) (Or.inl ⟨by rfl, fun w _ => by go_simp⟩) hS ?_
    (try simp only [Act.put, List.setIfInBounds_toArray, List.set_cons_zero, List.set_cons_succ])
    refine wpAnyH_take (i := 18) (oi := ⟨some 162, _, _, _, _, _⟩) (v := .bool false) rfl (by kernel_rfl) (by kernel_rfl) (by kernel_rfl) (fun _ _ _ h => h) (Or.inl ⟨by rfl, fun w _ => by go_simp⟩) hS ?_
    (try simp only [Act.put, List.setIfInBounds_toArray, List.set_cons_zero, List.set_cons_succ])
    refine wpAnyH_take (i := 19) (oi := ⟨some 163, _, _, _, _, _⟩) (v := .bool false) rfl (by kernel_rfl) (by kernel_rfl) (by kernel_rfl) (fun _ _ _ h => h) (Or.inl ⟨by rfl, fun w _ => by go_simp⟩) hS ?_
    (try simp only [Act.put, List.setIfInBounds_toArray, List.set_cons_zero, List.set_cons_succ])
    refine wpAnyH_take (i := 20) (oi := ⟨some 164, _, _, _, _, _⟩) (v := .slice AE LE LE) rfl (by kernel_rfl) (by kernel_rfl) (by kernel_rfl) (fun _ _ _ h => h) (Or.inl ⟨by rfl, fun w _ => by go_simp⟩) hS ?_
    (try simp only [Act.put, List.setIfInBounds_toArray, List.set_cons_zero, List.set_cons_succ])
    refine wpAnyH_take (i := 21) (oi := ⟨some 165, _, _, _, _, _⟩) (v := .int .i64 (O : Int)) rfl (by kernel_rfl) (by kernel_rfl) (by kernel_rfl) (fun _ _ _ h => h) (Or.inl ⟨by rfl, fun w _ => by go_simp⟩) hS ?_
    (try simp only [Act.put, List.setIfInBounds_toArray, List.set_cons_zero, List.set_cons_succ])
    refine wpAnyH_take (i := 22) (oi := ⟨some 166, _, _, _, _, _⟩) (v := .int .i64 (O : Int)) rfl (by kernel_rfl) (by kernel_rfl) (by kernel_rfl) (fun _ _ _ h => h) (Or.inl ⟨by rfl, fun w _ => by go_simp⟩) hS ?_
    (try simp only [Act.put, List.setIfInBounds_toArray, List.set_cons_zero, List.set_cons_succ])
    refine wpAnyH_take (i := 23) (oi := ⟨some 167, _, _, _, _, _⟩) (v := .slice AD LD LD) rfl (by kernel_rfl) (by kernel_rfl) (by kernel_rfl) (fun _ _ _ h => h) (Or.inl ⟨by rfl, fun w _ => by go_simp⟩) hS ?_
    (try simp only [Act.put, List.setIfInBounds_toArray, List.set_cons_zero, List.set_cons_succ])
    refine wpAnyH_take (i := 24) (oi := ⟨some 168, _, _, _, _, _⟩) (v := .int .i64 (LD : Int)) rfl (by kernel_rfl) (by kernel_rfl) (by kernel_rfl) (fun _ _ _ h => h) (Or.inl ⟨by rfl, fun w _ => by go_simp⟩) hS ?_
    (try simp only [Act.put, List.setIfInBounds_toArray, List.set_cons_zero, List.set_cons_succ])
    refine wpAnyH_take (i := 25) (oi := ⟨some 169, _, _, _, _, _⟩) (v := .int .i64 (K : Int)) rfl (by kernel_rfl) (by kernel_rfl) (by kernel_rfl) (fun _ _ _ h => h) (Or.inl ⟨by rfl, fun w _ => by go_simp⟩) hS ?_
    (try simp only [Act.put, List.setIfInBounds_toArray, List.set_cons_zero, List.set_cons_succ])
    refine wpAnyH_take (i := 26) (oi := ⟨some 170, _, _, _, _, _⟩) (v := .slice AX LD cX) rfl (by kernel_rfl) (by kernel_rfl) (by kernel_rfl) (fun _ _ _ h => h) (Or.inl ⟨by rfl, fun w _ => by go_simp⟩) hS ?_
    (try simp only [Act.put, List.setIfInBounds_toArray, List.set_cons_zero, List.set_cons_succ])
    refine wpAnyH_take (i := 27) (oi := ⟨some 171, _, _, _, _, _⟩) (v := .string ZD) rfl (by kernel_rfl) (by kernel_rfl) (by kernel_rfl) (fun _ _ _ h => h) (Or.inl ⟨by rfl, fun w hSw => by have h9 := HZX.out w hSw; go_simp⟩) hS ?_
    (try simp only [Act.put, List.setIfInBounds_toArray, List.set_cons_zero, List.set_cons_succ])
    refine wpAnyH_take (i := 28) (oi := ⟨some 172, _, _, _, _, _⟩) (v := .slice AD LD LD) rfl (by kernel_rfl) (by kernel_rfl) (by kernel_rfl) (fun _ _ _ h => h) (Or.inl ⟨by rfl, fun w _ => by go_simp⟩) hS ?_
    (try simp only [Act.put, List.setIfInBounds_toArray, List.set_cons_zero, List.set_cons_succ])
    refine wpAnyH_take (i := 29) (oi := ⟨some 173, _, _, _, _, _⟩) (v := .string ZD) rfl (by kernel_rfl) (by kernel_rfl) (by kernel_rfl) (fun _ _ _ h => h) (Or.inl ⟨by rfl, fun w hSw => by have h9 := HZD.out w hSw; go_simp⟩) hS ?_
    (try simp only [Act.put, List.setIfInBounds_toArray, List.set_cons_zero, List.set_cons_succ])
    refine wpAnyH_take (i := 30) (oi := ⟨some 174, _, _, _, _, _⟩) (v := .bool false) rfl (by kernel_rfl) (by kernel_rfl) (by kernel_rfl) (fun _ _ _ h => h) (Or.inl ⟨by rfl, fun w _ => by go_simp⟩) hS ?_
    (try simp only [Act.put, List.setIfInBounds_toArray, List.set_cons_zero, List.set_cons_succ])
    refine wpAnyH_take (i := 31) (oi := ⟨some 175, _, _, _, _, _⟩) (v := .bool false) rfl (by kernel_rfl) (by kernel_rfl) (by kernel_rfl) (fun _ _ _ h => h) (Or.inl ⟨by rfl, fun w _ => by go_simp⟩) hS ?_
    (try simp only [Act.put, List.setIfInBounds_toArray, List.set_cons_zero, List.set_cons_succ])
    refine wpAnyH_done (by kernel_rfl) ?_ _
    clear hS
    clear HSR hsl t1 t2 t3 t4 t5 t6 HZX HZD
    have hbh := Lib.hid d0
    clear d0
    clear RE RD RU RG RP
    replace RA := Lib.hid (RA.out.below hbh.out)
    replace B := bt B hbh
    replace K3 := kt K3 hbh
    replace RS := Lib.hid (RS.out.stay hbh.out)
    replace KE := kt KE hbh
    replace KW := kt KW hbh
    replace BA := bt BA hbh
    replace OB := Lib.hid (OB.out.below hbh.out)
    replace BW := bt BW hbh
    replace KG := kt KG hbh
    clear hbh
    obtain ⟨x0, x1, x2, x3, x4, xz⟩ := KG.out.five
    go_upto_if 179 with fail
    go_cut [4] (fun z wx => z = .bool false ∧ Below w6.heap.size w6 wx ∧ ∀ g L, Bk wd g 29 L → Bk wx g 29 L)
    case first =>
      by_cases hN0 : N7 = 0
      · subst hN0
        go_wp2_with fail
        go_meet
        exact ⟨rfl, BA.out, fun _ _ h => h⟩
      · have hgt : decide ((N7 : Int) > 0) = true := by simp; omega
        have hgt2 : 0 < N7 := by omega
        rcases OB.out.1.2 with ⟨h1, _⟩ | ⟨g, cap, cur, h1, hgb, hh, hcap, hcm, _, _⟩
        · injection h1 with _ h1
          exact absurd h1 hN0
        · injection h1 with h1 h2 h3
          subst h1
          have kb : Bk wd g 5 cur.toList := by unfold Bk; rw [hh]
          obtain ⟨bx, hbx⟩ : ∃ bx, bs[0]? = some bx := ⟨bs[0]'(by rw [HNM.out.1]; exact hgt2), List.getElem?_eq_getElem _⟩
          have hcell := OB.out.1.cells (g := g) rfl 0 (.int .u8 (bx : Int)) (by unfold cs8; rw [List.getElem?_map, hbx]; rfl)
          rw [addr_add, Nat.add_zero] at hcell
          have hfr : wd.frozen? ⟨g, 0, none⟩ = false := kb.free 0
          have HKB := Lib.hid kb
          have HGB := Lib.hid hgb
          clear kb hh hgb hcap hcm hbx h2 h3
          go_wp2_with fail
          go_meet
          refine ⟨rfl, BA.out.setCell (p := ⟨g, 0, none⟩) HGB.out _, fun g' L' h => h.far (p := ⟨g, 0, none⟩) (fun e => ?_) _⟩
          exact bkneU h HKB.out (by decide) e
    case rest =>
      obtain ⟨rfl, hba, hbk⟩ := hcut
      generalize wc = wx1 at *
      have KG1 := Lib.hid (hbk _ _ KG.out)
      have HBK := Lib.hid hbk
      have BA1 := Lib.hid hba
      clear hba hbk x0 x1 x2 x3 x4 xz
      obtain ⟨x0, x1, x2, x3, x4, xz⟩ := KG1.out.five
      go_upto_if 189 with fail
      go_cut [4] (fun z wx => z = .bool false ∧ Below w6.heap.size w6 wx)
      case first =>
        by_cases hm0 : m7 = 0
        · subst hm0
          go_wp2_with fail
          go_meet
          exact ⟨rfl, BA1.out⟩
        · have hgt : decide ((m7 : Int) > 0) = true := by simp; omega
          have hgt2 : 0 < m7 := by omega
          rcases HSB.out with h1 | ⟨gS, L, rfl, hgS, hkS, hLS⟩
          · exact absurd h1 hm0
          · have KS := Lib.hid (HBK.out _ _ (hkS.below BW.out hkS.lt))
            have HGS := Lib.hid hgS
            have hL5 : 5 ≤ L.length := by omega
            have y0 : wx1.cell? ⟨gS, 0, none⟩ = some (L[0]'(by omega)) := by rw [KS.out.cell, List.getElem?_eq_getElem]
            have y1 : wx1.cell? ⟨gS, 1, none⟩ = some (L[1]'(by omega)) := by rw [KS.out.cell, List.getElem?_eq_getElem]
            have y2 : wx1.cell? ⟨gS, 2, none⟩ = some (L[2]'(by omega)) := by rw [KS.out.cell, List.getElem?_eq_getElem]
            have y3 : wx1.cell? ⟨gS, 3, none⟩ = some (L[3]'(by omega)) := by rw [KS.out.cell, List.getElem?_eq_getElem]
            have y4 : wx1.cell? ⟨gS, 4, none⟩ = some (L[4]'(by omega)) := by rw [KS.out.cell, List.getElem?_eq_getElem]
            obtain ⟨z0, z1, z2, z3, z4⟩ := KS.out.free5
            clear hkS hgS
            go_wp2_with fail
            go_meet
            exact ⟨rfl, ((((BA1.out.setCell (p := ⟨gS, 0, none⟩) HGS.out _).setCell (p := ⟨gS, 1, none⟩) HGS.out _).setCell (p := ⟨gS, 2, none⟩) HGS.out _).setCell (p := ⟨gS, 3, none⟩) HGS.out _).setCell (p := ⟨gS, 4, none⟩) HGS.out _⟩
      case rest =>
        obtain ⟨rfl, hba⟩ := hcut
        generalize wc = wx2 at *
        have BX := Lib.hid hba
        have K3x := kt K3a BX
        have KEx := kt KEa BX
        have Bx := bt Ba BX
        clear hba x0 x1 x2 x3 x4 xz
        go_upto_region 19 with fail
        have HSR := Lib.hid (show ∀ W, Below wx2.heap.size wx2 W → W.cell? ⟨gE, 0, none⟩ = some (.int .u8 0) ∧ W.cell? ⟨gE, 1, none⟩ = some (.bool true) ∧ W.cell? ⟨gE, 2, none⟩ = some (.int .u32 16) ∧ W.cell? ⟨gE, 3, none⟩ = some (.slice none 0 0) ∧ W.cell? ⟨gE, 4, none⟩ = some (.slice B1 m cb) ∧ W.cell? ⟨g3, 0, none⟩ = some (.slice A n c) ∧ Below wx2.heap.size wx2 W from fun W hW => ⟨(hW.cell (p := ⟨gE, 0, none⟩) KEx.out.lt).trans (KEx.out.cell 0), (hW.cell (p := ⟨gE, 1, none⟩) KEx.out.lt).trans (KEx.out.cell 1), (hW.cell (p := ⟨gE, 2, none⟩) KEx.out.lt).trans (KEx.out.cell 2), (hW.cell (p := ⟨gE, 3, none⟩) KEx.out.lt).trans (KEx.out.cell 3), (hW.cell (p := ⟨gE, 4, none⟩) KEx.out.lt).trans (KEx.out.cell 4), (hW.cell (p := ⟨g3, 0, none⟩) K3x.out.lt).trans (K3x.out.cell 0), hW⟩)
        have d0 : Below wx2.heap.size wx2 wx2.drew := (Below.refl wx2.heap.size wx2).drew
        go_region_held3 (fun W => W.cell? ⟨gE, 0, none⟩ = some (.int .u8 0) ∧ W.cell? ⟨gE, 1, none⟩ = some (.bool true) ∧ W.cell? ⟨gE, 2, none⟩ = some (.int .u32 16) ∧ W.cell? ⟨gE, 3, none⟩ = some (.slice none 0 0) ∧ W.cell? ⟨gE, 4, none⟩ = some (.slice B1 m cb) ∧ W.cell? ⟨g3, 0, none⟩ = some (.slice A n c) ∧ Below wx2.heap.size wx2 W)
          (first | exact HSR.out _ d3 | exact HSR.out _ d2 | exact HSR.out _ d1 | exact HSR.out _ d0)
          (first | (have dz := d2; go_at_call 6; refine (lives_any _).mono ?_; rintro e v3 ⟨rfl, hv3⟩; have d3 : Below wx2.heap.size wx2 v3 := d2.trans (hv3.mono d2.size); clear dz) | (have dz := d1; go_at_call 17; refine (same_eq (tofE code) _ _ _ (rdE_parts (x := false) (by decide) (by decide) HM.out.1 HM.out.2.1 HM.out.2.2 (fun h => by cases h) (RSa.out.stay (BX.out.trans (d1.mono BX.out.size)))) (rdE_parts (x := false) (by decide) (by decide) hm3 hmc3 hcm3 (fun h => by cases h) hrs3)).mono ?_; rintro e v2 ⟨rfl, hv2⟩; have d2 : Below wx2.heap.size wx2 v2 := d1.trans (hv2.mono d1.size); clear dz) | (go_at_call 48; refine (tof_any code A n c HN.out.1 HN.out.2 _ (RAa.out.below (BX.out.trans (d0.mono BX.out.size)))).mono ?_; rintro e v1 ⟨B3, m3, cb3, rfl, hm3, hmc3, hcm3, hrs3, hv1⟩; have d1 : Below wx2.heap.size wx2 v1 := d0.trans (hv1.mono d0.size)))
        have BZ := bt Bx (Lib.hid d3)
        clear HSR
        go_wp2_with fail
        go_ret
        exact ⟨rfl, BZ.out⟩
end Go.Proofs.Ytfbdeefeagednaa.Fl
