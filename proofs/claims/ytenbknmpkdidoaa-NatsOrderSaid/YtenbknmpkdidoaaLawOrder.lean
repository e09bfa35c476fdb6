/-
  The statement NatsOrder: Compare answers the order of the values, whatever leading zeros there are, and the examples of the chapter hold; the walk of the law.
  Conditions: none.
-/
import Derived.Test.YtenbknmpkdidoaaLives
import Derived.Test.YtenbknmpkdidoaaRow
import Derived.Test.YtenbknmpkdidoaaRows
namespace Go.Proofs.Ytenbknmpkdidoaa
open Go.RowKit

theorem cmpI_neg (u v : Nat) : cmpI v u = -cmpI u v := by unfold cmpI; split <;> split <;> first | rfl | omega
theorem cmpI_self (u : Nat) : cmpI u u = 0 := by unfold cmpI; simp
theorem cmpI_range (u v : Nat) : -1 ≤ cmpI u v ∧ cmpI u v ≤ 1 := by unfold cmpI; split <;> (try split) <;> omega
theorem own_two (w : World) (e : TypeId) (x y : Value) : (w.alloc (.cells #[x, y] e)).ownsRow w.heap.size e 1 (.slice (some ⟨w.heap.size, 0, none⟩) 2 2) [x, y].length [x, y] :=
  ⟨rfl, .inr ⟨w.heap.size, 2, #[x, y], rfl, Nat.le_refl _, heap_alloc_new w _, Nat.le_refl _, by unfold maxLen; omega, rfl, rfl⟩⟩
/-- 'append([]byte{0, 0}, l...)'. -/
theorem app_zeros (w : World) {A : Option Addr} {l : List Nat} (c : Nat) (h : Rb w A l) (hl : l.length ≤ 80) :
    ∃ B d w', (Builtin.append_ #[22, 22] 22 #[.slice (some ⟨w.heap.size, 0, none⟩) 2 2, .slice A l.length c]).run Try.prog (w.alloc (.cells #[.int .u8 0, .int .u8 0] 5)) = .ok (.slice B (l.length + 2) d) w' ∧
      Rb w' B (0 :: 0 :: l) ∧ l.length + 2 ≤ d ∧ d ≤ maxLen ∧ Below w.heap.size w w' := by
  have hown := own_two w 5 (.int .u8 0) (.int .u8 0)
  have h2 := h.below ((Below.refl _ _).alloc (Nat.le_refl _) (.cells #[.int .u8 0, .int .u8 0] 5))
  obtain ⟨v', w', h3, h4, h5⟩ := app_src (P := Try.prog) (ty := 22) Try.underlying22 info5 rfl hown (c := c) h2.1 (fun u hu => by obtain ⟨x, _, rfl⟩ := List.mem_map.1 hu; rfl) (by simp) (by rw [cs8_length]; simp; omega) (by rw [cs8_length]; unfold maxLen; simp; omega)
  obtain ⟨B, d, rfl, h6, h7, h8⟩ := own_open h4
  have e0 : ([Value.int .u8 0, .int .u8 0] ++ cs8 l).length = l.length + 2 := by simp [cs8_length]
  rw [cs8_length, e0] at h3
  rw [e0] at h7
  exact ⟨B, d, w', h3, ⟨h6, (All8.cons (by omega) (All8.cons (by omega) h.2))⟩, h7, h8, ((Below.refl _ _).alloc (Nat.le_refl _) _).trans h5⟩

set_option maxHeartbeats 1600000 in
theorem order_walk (A B : Option Addr) (a b : List Nat) (c d : Nat) (w : World) (hA : Rb w A a) (hB : Rb w B b) (hac : a.length ≤ c) (hbd : b.length ≤ d) (hc : c ≤ maxLen) (hd : d ≤ maxLen) :
    Calls Try.prog 9 #[.slice A a.length c, .slice B b.length d] w fun e w' => e = .returned (.bool true) ∧ Below w.heap.size w w' := by
  have HC := Lib.hid (And.intro (And.intro hac hbd) (And.intro hc hd))
  have L0 := Lib.hid (lives1 w)
  unfold maxLen at hc hd
  by_cases h1 : 80 < a.length
  · clear hA hB
    go_enter Try.func9, Try.ntmps9
    go_wp2_with fail
    refine L0.out.mono ?_
    rintro e w1 ⟨rfl, hb⟩
    have B1 := Lib.hid hb
    clear hb
    go_wp2_with fail
    go_ret
    exact ⟨rfl, B1.out⟩
  by_cases h2 : 80 < b.length
  · clear hA hB
    go_enter Try.func9, Try.ntmps9
    go_wp2_with fail
    refine L0.out.mono ?_
    rintro e w1 ⟨rfl, hb⟩
    have B1 := Lib.hid hb
    clear hb
    go_wp2_with fail
    go_ret
    exact ⟨rfl, B1.out⟩
  have hl1 : a.length ≤ 80 := by omega
  have hl2 : b.length ≤ 80 := by omega
  have C1 := Lib.hid (cmp_any A B a b c d w HC.out.1.1 HC.out.1.2 HC.out.2.1 HC.out.2.2 hA hB)
  have C2 := Lib.hid (rof_any A a c w hl1 hA)
  have HA := Lib.hid hA
  have HB := Lib.hid hB
  obtain ⟨x, hx⟩ : ∃ x, cmpI (val a) (val b) = x := ⟨_, rfl⟩
  have hr := cmpI_range (val a) (val b)
  have hx2 := cmpI_neg (val a) (val b)
  rw [hx] at C1 hr hx2
  have HX := Lib.hid hx
  have HX2 := Lib.hid hx2
  obtain ⟨hr1, hr2⟩ := hr
  clear hA hB hx hx2 L0
  go_enter Try.func9, Try.ntmps9
  go_wp2_with fail
  refine C1.out.mono ?_
  rintro e w1 ⟨rfl, rfl⟩
  clear C1
  go_wp2_with fail
  refine C2.out.mono ?_
  rintro e w1 ⟨A1, c1, rfl, r1, _, _, hb1⟩
  have B1 := Lib.hid hb1
  have R1 := Lib.hid r1
  clear C2 hb1 r1
  go_wp2_with fail
  refine (rof_any B b d w1 hl2 (HB.out.below B1.out)).mono ?_
  rintro e w2 ⟨A2, c2, rfl, r2, _, _, hb2⟩
  have R2 := Lib.hid r2
  have R12 := Lib.hid (R1.out.below hb2)
  have B2 := bt B1 (Lib.hid hb2)
  clear hb2 r2 R1 B1
  go_wp2_with fail
  refine (rcmp_any A1 A2 (val a) (val b) c1 c2 w2 (Nat.le_trans (dgs_val_le HA.out.2) (by omega)) R12.out R2.out).mono ?_
  rw [HX.out]
  rintro e w3 ⟨rfl, hb⟩
  have B3 := bt B2 (Lib.hid hb)
  clear hb B2 R12 R2
  go_wp2_with fail
  refine (cmp_any B A b a d c w3 HC.out.1.2 HC.out.1.1 HC.out.2.2 HC.out.2.1 (HB.out.below B3.out) (HA.out.below B3.out)).mono ?_
  rw [HX2.out]
  rintro e w4 ⟨rfl, rfl⟩
  obtain ⟨B', d', w5, hrun, r5, hd1, hd2, hb5⟩ := app_zeros w3 c (HA.out.below B3.out) hl1
  have R5 := Lib.hid r5
  have HD := Lib.hid (And.intro hd1 hd2)
  have B5 := bt B3 (Lib.hid hb5)
  clear hd1 hd2 hb5 r5
  go_wp2_with (at_builtin; refine wpList_app2 rfl _ _ _ _ rfl _ _ rfl rfl hrun ?_)
  have C6 := cmp_any A B' a (0 :: 0 :: a) c d' w5 HC.out.1.1 HD.out.1 HC.out.2.1 HD.out.2 (HA.out.below B5.out) R5.out
  refine C6.mono ?_
  rw [show val (0 :: 0 :: a) = val a by rw [val_cons, val_cons]; omega, cmpI_self]
  rintro e w6 ⟨rfl, rfl⟩
  clear hrun R5 C6
  go_wp2_with fail
  refine (lives1 w5).mono ?_
  rintro e w7 ⟨rfl, hb⟩
  have B7 := bt B5 (Lib.hid hb)
  clear hb
  go_wp2_with fail
  go_ret
  exact ⟨rfl, B7.out⟩

open Go.ChangeShapes Go.WideShapes Go.ChangeAt
set_option maxRecDepth 100000 in
theorem natsOrder_lifted (os : Os) (started : os.Started) (H : Type) (enc : TypeId × Value → H) :
    ReturnsInHanded {} Try.checked os 9 .any (Rows.natsOrderSpec.pre6 enc Try.prog Try.f9 Rows.natsOrderRow.domain false) (Rows.natsOrderSpec.post enc Try.prog Try.f9 false true false false) := by
  refine returnsInHanded_of_change (C := Try.checked) x_own started (by kernel_rfl) Try.func9
    (ChangeSpec.witness6 (enc := enc) (C := Try.checked) false ⟨#[], #[.slice none 0 0, .slice none 0 0], []⟩ 8 (by kernel_rfl) (by kernel_rfl) (by kernel_rfl) (by kernel_rfl)) ?_
  intro W base args ds gs before hval0 hW hcnd _
  have hval : ∀ (j : Nat) t v, Try.f9.params[j]? = some t → args[j]? = some v → Value.okWide Try.prog W .any base t v := hval0
  have hW' := hW
  obtain ⟨p, q, hA0, hV, rfl, hfz, hnd⟩ := hW
  have hA : DataW.TrodAll enc Try.prog W 0 (fun _ => true) true Try.f9.params.toList args.toList ds p := hA0
  rw [Try.params9] at hA hval
  obtain ⟨v0, v1, d0, d1, p0, p1, rfl, rfl, rfl, h0, h1⟩ := trodAll_two hA
  obtain ⟨rfl, rfl⟩ := trodVars_none hV
  obtain ⟨A, a, c, rfl, hRa, hac, hc⟩ := open_bytes (hval 0 _ v0 rfl rfl) h0
  obtain ⟨B, b, d, rfl, hRb, hbd, hd⟩ := open_bytes (hval 1 _ v1 rfl rfl) h1
  clear hA0 hval0
  refine (order_walk A B a b c d W hRa hRb hac hbd hc hd).mono fun e W' ⟨he, hb⟩ => ?_
  subst he
  exact ⟨_, rfl, law_post (tb := 4) x_laid (by decide +kernel) rfl rfl (by kernel_rfl) Try.underlying4 hW' hb⟩

/-- The statement. -/
theorem natsOrder_holds : Rows.NatsOrderSaid :=
  OpenClaim.holds_of_wide 9 Try.f9 rfl rfl rfl rfl rfl rfl rfl ⟨rfl, rfl, rfl, rfl, rfl⟩ rfl rfl rfl rfl rfl (by kernel_rfl) Try.func9 (by kernel_rfl)
    (of_decide_eq_true (by kernel_rfl)) (by unfold Func.isWrapper; first | (rw [if_pos (by decide +kernel)]; kernel_rfl) | (rw [if_neg (by decide +kernel)]; exact ⟨rfl, rfl⟩))
    (fun os started H enc _ => natsOrder_lifted os started H enc)
end Go.Proofs.Ytenbknmpkdidoaa
