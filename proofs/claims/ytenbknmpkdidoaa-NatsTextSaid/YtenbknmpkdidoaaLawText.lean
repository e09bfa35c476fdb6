/-
  The statement NatsText: Text answers the decimal form and Parse inverts it; Parse accepts nothing else; the examples of the chapter hold.
  Conditions: none.
-/
import Derived.Test.YtenbknmpkdidoaaLives
import Derived.Test.YtenbknmpkdidoaaRow
import Derived.Test.YtenbknmpkdidoaaRefS
import Derived.Test.YtenbknmpkdidoaaRows
namespace Go.Proofs.Ytenbknmpkdidoaa
open Go.RowKit

theorem dgs_no_zero {b v : Nat} {l : List Nat} (hb : 2 ≤ b) : dgs b v ≠ l ++ [0] := by
  intro h
  have h1 := trimL_eq_of hb (dgs_lt hb v) (vl_dgs hb v)
  rw [h, trimL_zero] at h1
  have h2 := trimL_length l
  rw [h1, List.length_append, List.length_singleton] at h2
  omega
theorem decV_rev (m : List Nat) (h : Lt 10 m) : decV (m.reverse.map (48 + ·)) = vl 10 m := by
  induction m with
  | nil => rfl
  | cons x m ih =>
    rw [List.reverse_cons, List.map_append, List.map_cons, List.map_nil, decV_snoc, ih (fun y hy => h y (List.mem_cons_of_mem _ hy))]
    simp [vl]
    omega
theorem textL_lt (v : Nat) : Lt 256 (textL v) := by
  unfold textL
  split
  · intro x hx
    simp at hx
    omega
  · intro x hx
    obtain ⟨y, hy, rfl⟩ := List.mem_map.1 hx
    have := dgs_lt (b := 10) (by omega) v y (List.mem_reverse.1 hy)
    show 48 + y < 256
    omega
theorem decV_text (v : Nat) : decV (textL v) = v := by
  unfold textL
  split
  · subst_vars; rfl
  · rw [decV_rev _ (dgs_lt (by omega) v), vl_dgs (by omega)]
theorem decB_text (v : Nat) : decB (textL v) = true := by
  by_cases hv : v = 0
  · subst hv; decide +kernel
  · have hall : (textL v).all decD = true := by
      rw [List.all_eq_true]
      intro x hx
      unfold textL at hx
      rw [if_neg hv] at hx
      obtain ⟨y, hy, rfl⟩ := List.mem_map.1 hx
      have := dgs_lt (b := 10) (by omega) v y (List.mem_reverse.1 hy)
      show (decide (48 ≤ 48 + y) && decide (48 + y ≤ 57)) = true
      rw [Bool.and_eq_true, decide_eq_true_eq, decide_eq_true_eq]
      omega
    have hne : textL v ≠ [] := by
      unfold textL
      rw [if_neg hv]
      intro h
      have h2 := congrArg List.length h
      rw [dgs_pos (by omega) hv] at h2
      simp at h2
    have hhead : (textL v).head? ≠ some 48 := by
      intro h
      unfold textL at h
      rw [if_neg hv] at h
      cases hr : (dgs 10 v).reverse with
      | nil => rw [hr] at h; simp at h
      | cons x t =>
        rw [hr] at h
        simp at h
        subst h
        have h2 := congrArg List.reverse hr
        rw [List.reverse_reverse, List.reverse_cons] at h2
        exact dgs_no_zero (by omega) h2
    unfold decB
    rw [hall, Bool.true_and]
    have h1 : (!(textL v).isEmpty) = true := by simpa using hne
    have h2 : ((textL v).head? != some 48) = true := by simpa using hhead
    rw [h1, h2]
    simp

theorem dgs64_le2 {v : Nat} (h : v < 256 ^ 64) : (dgs 10 v).length ≤ 1000 := Nat.le_trans (dgs256_le h) (by omega)
theorem textL_len {v : Nat} (h : v < 256 ^ 64) : (textL v).length ≤ 1000 := by
  have h1 := dgs256_le h
  unfold textL
  split
  · simp
  · simp; omega
theorem parse_text {v : Nat} (h : v < 256 ^ 64) : parseL (textL v) = dig v ∧ parseE (textL v) = 0 := by
  unfold parseL parseE
  rw [decB_text, decV_text, if_pos rfl, if_pos rfl, limD_lt h, limE_lt h]
  exact ⟨rfl, rfl⟩
theorem parse_zero {l : List Nat} (h : parseE l = 0) : decV l < 256 ^ 64 ∧ parseL l = dig (decV l) ∧ rparseL l = dgs 10 (decV l) := by
  have h0 := h
  unfold parseE at h
  cases hd : decB l with
  | false => rw [hd] at h; simp at h
  | true =>
    rw [hd, if_pos rfl] at h
    have hv : decV l < 256 ^ 64 := by
      rcases Nat.lt_or_ge (decV l) (256 ^ 64) with h1 | h1
      · exact h1
      · rw [limE_ge (by omega)] at h; simp at h
    exact ⟨hv, by unfold parseL; rw [hd, if_pos rfl, limD_lt hv], by unfold rparseL; rw [h0, if_pos rfl]⟩
theorem parse_bad {l : List Nat} (h : parseE l ≠ 0) : parseL l = [] := by
  unfold parseE at h
  unfold parseL
  cases hd : decB l with
  | false => rfl
  | true =>
    rw [hd, if_pos rfl] at h
    rw [if_pos rfl]
    by_cases hv : decV l < 256 ^ 64
    · rw [limE_lt hv] at h; exact absurd rfl h
    · rw [limD_ge hv]

set_option maxHeartbeats 6400000 in
theorem text_walk (A : Option Addr) (l : List Nat) (c : Nat) (s : ByteArray) (w : World) (hA : Rb w A l) (hlc : l.length ≤ c) (hc : c ≤ maxLen) (hs : s.size ≤ maxLen) :
    Calls Try.prog 10 #[.agg #[.slice A l.length c], .string s] w fun e w' => e = .returned (.bool true) ∧ Below w.heap.size w w' := by
  have B0 : Hid (Below w.heap.size w (w.alloc (Obj.cells #[Value.slice A l.length c] 40))) := (Below.refl _ _).alloc (Nat.le_refl _) _
  have C0 := Lib.hid (nof_any A l c (w.alloc (Obj.cells #[Value.slice A l.length c] 40)) hlc hc (hA.below B0.out))
  have hn := numL_ok hA.2
  generalize numL l = n at C0 hn
  have HN := Lib.hid hn
  have hn64 : n.length ≤ 64 := hn.2.2
  have HS := Lib.hid hs
  unfold maxLen at hs
  clear hA hlc hc hn
  go_enter Try.func10, Try.ntmps10
  go_wp2_with fail
  refine C0.out.mono ?_
  rintro e w1 ⟨An, cn, rfl, rn, hn1, hn2, hb⟩
  have B1 := bt B0 (Lib.hid hb)
  have RN := Lib.hid rn
  have hcn := Lib.hid (And.intro hn1 hn2)
  clear C0 B0 hb rn hn1 hn2
  go_wp2_with fail
  refine (text_ok An n cn w1 hcn.out.1 hcn.out.2 RN.out HN.out).mono ?_
  rintro e w2 ⟨rfl, hb⟩
  have B12 := Lib.hid hb
  clear hb
  have HP := parse_any (bstr (textL (val n))) w2 (by rw [bstr_size]; have := textL_len HN.out.lt; unfold maxLen; omega)
  rw [sl_bstr (textL_lt _), (parse_text HN.out.lt).1, (parse_text HN.out.lt).2, HN.out.dig] at HP
  have C3 := Lib.hid HP
  have CT := Lib.hid (fun (Y : Option Addr) (cy : Nat) (w : World) => rtext_any Y (val n) cy w (dgs64_le2 HN.out.lt))
  clear HP
  have CO := Lib.hid (fun (w : World) => rof_any An n cn w (by omega))
  generalize bstr (textL (val n)) = T at C3 CT ⊢
  go_wp2_with fail
  refine C3.out.mono ?_
  intro e w3 h
  obtain ⟨Bk, rfl, rk, hb⟩ := h.hid
  have B13 := bt B12 hb
  clear h hb B12 C3
  go_wp2_with fail
  refine (CO.out w3 (RN.out.below B13.out)).mono ?_
  rintro e w4 ⟨Y, cy, rfl, ry, _, _, hb⟩
  have RY := Lib.hid ry
  have B34 := Lib.hid hb
  clear hb ry CO
  go_wp2_with fail
  refine (CT.out Y cy w4 RY.out).mono ?_
  rintro e w5 ⟨rfl, hb⟩
  have B35 := bt B34 (Lib.hid hb)
  clear hb B34 CT
  have B5 := bt B13 B35
  have s1 := run_str8 (rk.out.below B35.out) n.length
  have s2 := run_str8 (RN.out.below B5.out) cn
  have hself : ((bstr n).toList != (bstr n).toList) = false := by simp
  have hself2 : (T.toList != T.toList) = false := by simp
  have B05 := bt B1 B5
  clear B1 B5 B13 B35 rk RN RY
  by_cases h200 : 200 < s.size
  · go_wp2_with fail
    refine (lives1 w5).mono ?_
    rintro e w10 ⟨rfl, hb⟩
    have B10 := bt B05 (Lib.hid hb)
    clear hb B05
    go_wp2_with fail
    go_ret
    exact ⟨rfl, B10.out⟩
  · have hs2 : s.size ≤ 200 := by omega
    have C6 := parse_any s w5 HS.out
    have C7 := Lib.hid (fun (w : World) => rparse_any s w hs2)
    by_cases hE : parseE (sl s) = 0
    · obtain ⟨hv, e1, e2⟩ := parse_zero hE
      rw [e1, hE] at C6
      have C7 := Lib.hid (fun (w : World) => by have := C7.out w; rw [e2, hE] at this; exact this)
      have C6 := Lib.hid C6
      have HV := Lib.hid hv
      generalize decV (sl s) = V at C6 C7 HV
      clear e1 e2 hE hv
      go_wp2_with fail
      refine C6.out.mono ?_
      intro e w6 h
      obtain ⟨X, rfl, rx, hb⟩ := h.hid
      have B6 := bt B05 hb
      clear h hb B05
      go_wp2_with fail
      refine (C7.out w6).mono ?_
      rintro e w7 ⟨Z, cz, rfl, rz, hb⟩
      have RX := Lib.hid (rx.out.below hb)
      have RZ := Lib.hid rz
      have B7 := bt B6 (Lib.hid hb)
      clear hb B6 rx rz
      go_wp2_with fail
      refine (same_ok X Z V cz w7 RX.out (dgs64_le2 HV.out) RZ.out).mono ?_
      rintro e w8 ⟨rfl, hb⟩
      have B8 := bt B7 (Lib.hid hb)
      clear hb B7
      go_wp2_with fail
      refine (lives1 w8).mono ?_
      rintro e w9 ⟨rfl, hb⟩
      have B9 := bt B8 (Lib.hid hb)
      clear hb B8
      go_wp2_with fail
      go_ret
      exact ⟨rfl, B9.out⟩
    · have e1 := parse_bad hE
      rw [e1] at C6
      have C6 := Lib.hid C6
      generalize parseE (sl s) = f at C6 C7 hE
      generalize rparseL (sl s) = m at C7
      clear e1
      go_wp2_with fail
      refine C6.out.mono ?_
      intro e w6 h
      obtain ⟨X, rfl, rx, hb⟩ := h.hid
      have B6 := bt B05 hb
      clear h hb B05 rx
      go_wp2_with fail
      refine (C7.out w6).mono ?_
      rintro e w7 ⟨Z, cz, rfl, rz, hb⟩
      have B7 := bt B6 (Lib.hid hb)
      clear hb B6 rz
      go_wp2_with fail
      refine (same_err X Z 0 m.length cz f w7 hE).mono ?_
      rintro e w8 ⟨rfl, hb⟩
      have B8 := bt B7 (Lib.hid hb)
      clear hb B7
      go_wp2_with fail
      refine (lives1 w8).mono ?_
      rintro e w9 ⟨rfl, hb⟩
      have B9 := bt B8 (Lib.hid hb)
      clear hb B8
      go_wp2_with fail
      go_ret
      exact ⟨rfl, B9.out⟩

open Go.ChangeShapes Go.WideShapes Go.ChangeAt
set_option maxRecDepth 100000 in
theorem natsText_lifted (os : Os) (started : os.Started) (H : Type) (enc : TypeId × Value → H) :
    ReturnsInHanded {} Try.checked os 10 .any (Rows.natsTextSpec.pre6 enc Try.prog Try.f10 Rows.natsTextRow.domain false) (Rows.natsTextSpec.post enc Try.prog Try.f10 false true false false) := by
  refine returnsInHanded_of_change (C := Try.checked) x_own started (by kernel_rfl) Try.func10
    (ChangeSpec.witness6 (enc := enc) (C := Try.checked) false ⟨#[], #[.agg #[.slice none 0 0], .string ByteArray.empty], []⟩ 8 (by kernel_rfl) (by kernel_rfl) (by kernel_rfl) (by kernel_rfl)) ?_
  intro W base args ds gs before hval0 hW hcnd _
  have hval : ∀ (j : Nat) t v, Try.f10.params[j]? = some t → args[j]? = some v → Value.okWide Try.prog W .any base t v := hval0
  have hW' := hW
  obtain ⟨p, q, hA0, hV, rfl, hfz, hnd⟩ := hW
  have hA : DataW.TrodAll enc Try.prog W 0 (fun _ => true) true Try.f10.params.toList args.toList ds p := hA0
  rw [Try.params10] at hA hval
  obtain ⟨v0, v1, d0, d1, p0, p1, rfl, rfl, rfl, h0, h1⟩ := trodAll_two hA
  obtain ⟨rfl, rfl⟩ := trodVars_none hV
  obtain ⟨A0, l0, c0, rfl, hR0, hl0, hc0⟩ := open_num (hval 0 _ v0 rfl rfl) h0
  obtain ⟨x1, rfl, _, _, wf1⟩ := Go.ChangeMaps.open_string Try.underlying9 (hval 1 _ v1 rfl rfl) h1
  clear hA0 hval0
  refine (text_walk A0 l0 c0 x1 W hR0 hl0 hc0 wf1).mono fun e W' ⟨he, hb⟩ => ?_
  subst he
  exact ⟨_, rfl, law_post (tb := 4) x_laid (by decide +kernel) rfl rfl (by kernel_rfl) Try.underlying4 hW' hb⟩

/-- The statement. -/
theorem natsText_holds : Rows.NatsTextSaid :=
  OpenClaim.holds_of_wide 10 Try.f10 rfl rfl rfl rfl rfl rfl rfl ⟨rfl, rfl, rfl, rfl, rfl⟩ rfl rfl rfl rfl rfl (by kernel_rfl) Try.func10 (by kernel_rfl)
    (of_decide_eq_true (by kernel_rfl)) (by unfold Func.isWrapper; first | (rw [if_pos (by decide +kernel)]; kernel_rfl) | (rw [if_neg (by decide +kernel)]; exact ⟨rfl, rfl⟩))
    (fun os started H enc _ => natsText_lifted os started H enc)
end Go.Proofs.Ytenbknmpkdidoaa
