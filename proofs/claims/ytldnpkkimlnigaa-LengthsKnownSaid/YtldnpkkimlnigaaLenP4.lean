/-
  Layer 3, the statement LengthsBack: Get returns the length that was put, whatever octets follow; a proper prefix of its octets is ErrShort; the examples of the chapter hold.
  Conditions: none.
-/
import Derived.Test.YtldnpkkimlnigaaLenV
namespace Go.Proofs.Ytldnpkkimlnigaa
open Go.RowKit

/-- 'append(append([]byte{}, b...), after...)'. -/
theorem app_none (w : World) {A : Option Addr} {l : List Nat} (c N : Nat) (h : Rb w A l) (hN : l.length = N) (hl : N ≤ 1000) :
    ∃ v w', (Builtin.append_ #[22, 22] 22 #[.slice (some ⟨w.heap.size, 0, none⟩) 0 0, .slice A N c]).run Try.prog (w.alloc (.cells #[] 5)) = .ok v w' ∧ w'.ownsRow w.heap.size 5 1 v (cs8 l).length (cs8 l) ∧ Below w.heap.size w w' := by
  subst hN
  have hown : (w.alloc (.cells #[] 5)).ownsRow w.heap.size 5 1 (.slice (some ⟨w.heap.size, 0, none⟩) 0 0) ([] : List Value).length [] :=
    ⟨rfl, .inr ⟨w.heap.size, 0, #[], rfl, Nat.le_refl _, heap_alloc_new w _, Nat.le_refl _, by unfold maxLen; omega, rfl, rfl⟩⟩
  have h2 := h.below ((Below.refl _ _).alloc (Nat.le_refl _) (.cells #[] 5))
  obtain ⟨v', w', h3, h4, h5⟩ := app_src (P := Try.prog) (ty := 22) Try.underlying22 info5 rfl hown (c := c) h2.1 (fun u hu => by obtain ⟨x, _, rfl⟩ := List.mem_map.1 hu; rfl) (by simp) (by rw [cs8_length]; simp; omega) (by rw [cs8_length]; unfold maxLen; simp; omega)
  rw [cs8_length] at h3
  exact ⟨v', w', h3, h4, ((Below.refl _ _).alloc (Nat.le_refl _) _).trans h5⟩
theorem app_more {w : World} {B : Nat} {v : Value} {k : List Nat} (hown : w.ownsRow B 5 1 v (cs8 k).length (cs8 k)) (hB : B ≤ w.heap.size) {A : Option Addr} {l : List Nat} (c N : Nat) (h : Rb w A l) (h8 : All8 k) (hN : l.length = N) (hl : N ≤ 1000) (hk : k.length ≤ 1000) :
    ∃ A' M d w', (Builtin.append_ #[22, 22] 22 #[v, .slice A N c]).run Try.prog w = .ok (.slice A' M d) w' ∧ (k ++ l).length = M ∧ M ≤ d ∧ Rb w' A' (k ++ l) ∧ Below B w w' := by
  subst hN
  obtain ⟨v', w', h3, h4, h5⟩ := app_src (P := Try.prog) (ty := 22) Try.underlying22 info5 rfl hown (c := c) h.1 (fun u hu => by obtain ⟨x, _, rfl⟩ := List.mem_map.1 hu; rfl) hB (by rw [cs8_length, cs8_length]; omega) (by rw [cs8_length, cs8_length]; unfold maxLen; omega)
  have e : cs8 k ++ cs8 l = cs8 (k ++ l) := by simp [cs8]
  rw [e] at h4
  obtain ⟨A', d, rfl, h6, h7, h8'⟩ := own_open h4
  rw [cs8_length] at h3 h7
  exact ⟨A', _, d, w', h3, (cs8_length _).symm, by rw [cs8_length]; exact h7, ⟨h6, h8.append h.2⟩, h5⟩
set_option maxHeartbeats 1600000 in
set_option maxRecDepth 100000 in
theorem back_walk (n : Nat) (A : Option Addr) (l : List Nat) (c left : Nat) (w : World) (_hn : n < 4294967296) (hA : Rb w A l) (hleft : left < 256) :
    Calls Try.prog 4 #[.int .u32 (n : Int), .slice A l.length c, .int .u8 (left : Int)] w fun e w' => e = .returned (.bool true) ∧ Below w.heap.size w w' := by
  have HA := Lib.hid hA
  obtain ⟨L, hL⟩ : ∃ L, l.length = L := ⟨_, rfl⟩
  have HL := Lib.hid hL
  rw [hL]
  by_cases h1 : 10 < L
  · clear hA hL
    go_enter Try.func4, Try.ntmps4
    go_wp2_with fail
    refine (lives1 w).mono ?_
    rintro e w1 ⟨rfl, hb⟩
    have B1 := Lib.hid hb
    clear hb
    go_wp2_with fail
    go_ret
    exact ⟨rfl, B1.out⟩
  obtain ⟨v, hv⟩ : ∃ v, n % 16777216 = v := ⟨_, rfl⟩
  have hv1 : ((n : Int) % 16777216) = (v : Int) := by omega
  have hv2 : v ≤ 16777215 := by omega
  have P1 := put_any (v : Int) w
  have e1 : putZ (v : Int) = putL v := by unfold putZ; rw [if_neg (by omega), if_neg (by omega), Int.toNat_natCast]
  have e2 : putE (v : Int) = 0 := by unfold putE; rw [if_neg (by omega), if_neg (by omega)]
  rw [e1, e2] at P1
  have hlen := putL_len v
  have hback := getL_back hv2 l
  obtain ⟨N, hN⟩ : ∃ N, (putL v).length = N := ⟨_, rfl⟩
  rw [hN] at hlen hback
  obtain ⟨hN1, hN4⟩ := hlen
  obtain ⟨m, hm⟩ : ∃ m, left % N = m := ⟨_, rfl⟩
  have hw : wrap64 (left : Int) = (left : Int) := by unfold wrap64; omega
  have hm1 : (left : Int).tmod (N : Int) = (m : Int) := by rw [← hm]; rfl
  have hm2 : m < N := by rw [← hm]; exact Nat.mod_lt _ (by omega)
  have hshort := getL_short (n := v) (m := m) (by rw [hN]; exact hm2)
  have hmlen : ((putL v).take m).length = m := by rw [List.length_take, hN]; omega
  have HP := Lib.hid P1
  have HN := Lib.hid hN
  have HB := Lib.hid hback
  have HS := Lib.hid hshort
  have HM := Lib.hid hmlen
  have H8 := Lib.hid (putL_all hv2)
  have hN0 : ((N : Int) == 0) = false := by simp; omega
  have hN5 : decide ((4 : Int) < (N : Int)) = false := by simp; omega
  clear P1 e1 e2 hN hback hshort hmlen hv hm hA hL
  go_enter Try.func4, Try.ntmps4
  go_wp2_with fail
  refine HP.out.mono ?_
  rintro e w1 ⟨A1, rfl, r1, hb⟩
  rw [HN.out]
  obtain ⟨u, w2, hrun2, hown2, hb2⟩ := app_none w1 N N r1 HN.out (by omega)
  have R1 := Lib.hid r1
  have B1 := Lib.hid hb
  have B2 := bt B1 (Lib.hid hb2)
  obtain ⟨A3, M3, d3, w3, hrun3, hM3, hd3, r3, hb3⟩ := app_more hown2 hb2.size c L (HA.out.below B2.out) H8.out HL.out (by omega) (by rw [HN.out]; omega)
  have HR2 := Lib.hid hrun2
  have HR3 := Lib.hid hrun3
  have R13 := Lib.hid (R1.out.below (hb2.trans hb3))
  have B3 := Lib.hid (B2.out.trans (hb3.mono B1.out.size))
  have R3 := Lib.hid r3
  have HM3 := Lib.hid (And.intro hM3 hd3)
  clear r1 hb hb2 hown2 hrun2 hrun3 hb3 r3 hM3 hd3 HP
  go_wp2_with (at_builtin; first | refine wpList_app2 (o := ⟨some 37, _, _, _, _, _⟩) rfl _ _ _ _ rfl _ _ rfl rfl HR2.out ?_ | refine wpList_app2 (o := ⟨some 39, _, _, _, _, _⟩) rfl _ _ _ _ rfl _ _ rfl rfl HR3.out ?_)
  refine (read_ok A3 (putL v ++ l) d3 M3 v N 0 w3 HM3.out.1 HM3.out.2 R3.out HB.out).mono ?_
  rintro e w4 ⟨rfl, hb⟩
  have B4 := bt B3 (Lib.hid hb)
  have R14 := Lib.hid ((R13.out.below hb).take_ m)
  clear hb
  go_wp2_with fail
  refine (read_ok A1 ((putL v).take m) N m 0 0 7 w4 HM.out (by omega) R14.out HS.out).mono ?_
  rintro e w5 ⟨rfl, hb⟩
  have B5 := bt B4 (Lib.hid hb)
  clear hb
  go_wp2_with fail
  refine (lives1 w5).mono ?_
  rintro e w6 ⟨rfl, hb⟩
  have B6 := bt B5 (Lib.hid hb)
  clear hb
  go_wp2_with fail
  go_ret
  exact ⟨rfl, B6.out⟩

open Go.ChangeShapes Go.WideShapes Go.ChangeAt
set_option maxRecDepth 100000 in
theorem lengthsBack_lifted (os : Os) (started : os.Started) (H : Type) (enc : TypeId × Value → H) :
    ReturnsInHanded {} Try.checked os 4 .any (Rows.lengthsBackSpec.pre6 enc Try.prog Try.f4 Rows.lengthsBackRow.domain false) (Rows.lengthsBackSpec.post enc Try.prog Try.f4 false true false false) := by
  refine returnsInHanded_of_change (C := Try.checked) x_own started (by kernel_rfl) Try.func4
    (ChangeSpec.witness6 (enc := enc) (C := Try.checked) false ⟨#[], #[.int .u32 0, .slice none 0 0, .int .u8 0], []⟩ 8 (by kernel_rfl) (by kernel_rfl) (by kernel_rfl) (by kernel_rfl)) ?_
  intro W base args ds gs before hval0 hW hcnd _
  have hval : ∀ (j : Nat) t v, Try.f4.params[j]? = some t → args[j]? = some v → Value.okWide Try.prog W .any base t v := hval0
  have hW' := hW
  obtain ⟨p, q, hA0, hV, rfl, hfz, hnd⟩ := hW
  have hA : DataW.TrodAll enc Try.prog W 0 (fun _ => true) true Try.f4.params.toList args.toList ds p := hA0
  rw [Try.params4] at hA hval
  obtain ⟨v0, v1, v2, d0, d1, d2, p0, p1, p2, rfl, rfl, rfl, h0, h1, h2⟩ := trodAll_three hA
  obtain ⟨rfl, rfl⟩ := trodVars_none hV
  obtain ⟨n, rfl, hn⟩ := open_u32 (hval 0 _ v0 rfl rfl) h0
  obtain ⟨A, l, c, rfl, hR, hlc, hc⟩ := open_bytes (hval 1 _ v1 rfl rfl) h1
  obtain ⟨m, rfl, hm⟩ := open_u8 (hval 2 _ v2 rfl rfl) h2
  clear hA0 hval0
  refine (back_walk n A l c m W hn hR hm).mono fun e W' ⟨he, hb⟩ => ?_
  subst he
  exact ⟨_, rfl, law_post (tb := 4) x_laid (by decide +kernel) rfl rfl (by kernel_rfl) Try.underlying4 hW' hb⟩

/-- The statement. -/
theorem lengthsBack_holds : Rows.LengthsBackSaid :=
  OpenClaim.holds_of_wide 4 Try.f4 rfl rfl rfl rfl rfl rfl rfl ⟨rfl, rfl, rfl, rfl, rfl⟩ rfl rfl rfl rfl rfl (by kernel_rfl) Try.func4 (by kernel_rfl)
    (of_decide_eq_true (by kernel_rfl)) (by unfold Func.isWrapper; first | (rw [if_pos (by decide +kernel)]; kernel_rfl) | (rw [if_neg (by decide +kernel)]; exact ⟨rfl, rfl⟩))
    (fun os started H enc _ => lengthsBack_lifted os started H enc)
end Go.Proofs.Ytldnpkkimlnigaa
