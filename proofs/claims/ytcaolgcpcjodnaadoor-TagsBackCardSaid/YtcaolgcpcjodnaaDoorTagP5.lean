/-
  Layer 2, the statement TagsBack: Put returns the octets of the definition, and Get returns the tag again, whatever bytes follow.
  Conditions: the package-level variables that the row lists hold what the program's text lays (the card ties them).
-/
import Derived.Test.YtcaolgcpcjodnaaDoorTagR
import Derived.Test.YtcaolgcpcjodnaaDoorTagV
import Derived.Test.YtcaolgcpcjodnaaDoorTagS
import Derived.Deep.RegionHeld3
namespace Go.Proofs.YtcaolgcpcjodnaaDoor
open Go.RowKit

/-- A region's step at the builtin append, by what it runs to. -/
theorem step_app {P : Program} {w : World} {ops : Array Oper} {o : Oper} {a : Act} {K : Act → World → Prop} {Q : Exit → Act → World → Prop} {E : Prop} (hgd : o.guard = none) (s x : Operand) (t1 t2 : TypeId)
    (ho : o.op = .call { callee := .builtin .append, args := #[s, x], argTypes := #[t1, t2] }) (u v : Value) (hs : a.eval s = u) (hx : a.eval x = v) {r : Value} {w1 : World}
    (hrun : (Builtin.append_ #[t1, t2] o.type #[u, v]).run P w = .ok r w1) (h : K (a.put o.dst r) w1) : if Region.wanted o (yielded ops a.tmps) = true then Oper.wp P o a w K Q else E := by
  have hw : Region.wanted o (yielded ops a.tmps) = true := by simp [Region.wanted, hgd]
  rw [if_pos hw]
  unfold Oper.wp execOp
  simp only [ho, resolve, invoke, builtin, Sem.run_bind, Sem.run_pure, Result.andThen_ok, List.map_toArray, List.map_cons, List.map_nil, hs, hx, hrun]
  exact h
theorem own_empty (w : World) : (w.alloc (.cells #[] 5)).ownsRow w.heap.size 5 1 (.slice (some ⟨w.heap.size, 0, none⟩) 0 0) ([] : List Value).length [] :=
  ⟨rfl, .inr ⟨w.heap.size, 0, #[], rfl, Nat.le_refl _, heap_alloc_new w _, Nat.le_refl _, by unfold maxLen; omega, rfl, rfl⟩⟩
theorem cs8_app (l m : List Nat) : cs8 l ++ cs8 m = cs8 (l ++ m) := by unfold cs8; rw [List.map_append]
theorem cs8_one (l : List Nat) : ∀ u ∈ cs8 l, u.oneCell' = true := by intro u hu; obtain ⟨n, _, rfl⟩ := List.mem_map.1 hu; rfl
theorem put_pos (c n : Nat) (k : Bool) : 0 < (putL c n k).length := by unfold putL; split <;> simp
theorem put_le {c n : Nat} {k : Bool} (h : n < 268435456) : (putL c n k).length ≤ 5 := by
  unfold putL
  split
  · simp
  · rw [List.length_cons, gl_length (by omega) (by omega)]
    have := gk_le h
    omega
/-- The two appends. -/
theorem two_apps (w : World) {A B : Option Addr} {l m : List Nat} {c d : Nat} (hA : Rb w A l) (hB : Rb w B m) (hl : l.length ≤ 100) (hm : m.length ≤ 100) :
    ∃ v1 w1 A2 c2 w2, (Builtin.append_ #[30, 30] 30 #[.slice (some ⟨w.heap.size, 0, none⟩) 0 0, .slice A l.length c]).run Tryd.prog (w.alloc (.cells #[] 5)).drew = .ok v1 w1 ∧
      (Builtin.append_ #[30, 30] 30 #[v1, .slice B m.length d]).run Tryd.prog w1 = .ok (.slice A2 (l ++ m).length c2) w2 ∧ Below w.heap.size w w1 ∧ Rb w2 A2 (l ++ m) ∧ (l ++ m).length ≤ c2 ∧ c2 ≤ maxLen ∧ Below w.heap.size w w2 := by
  have hb0 : Below w.heap.size w (w.alloc (.cells #[] 5)).drew := ((Below.refl _ _).alloc (Nat.le_refl _) _).drew
  have ho : (w.alloc (.cells #[] 5)).drew.ownsRow w.heap.size 5 1 (.slice (some ⟨w.heap.size, 0, none⟩) 0 0) ([] : List Value).length [] := own_empty w
  obtain ⟨v1, w1, hrun1, hown1, hb1⟩ := app_src (P := Tryd.prog) (ty := 30) Tryd.underlying30 info5 rfl ho (c := c) ((hA.below hb0).1) (cs8_one l) hb0.size (by rw [cs8_length, List.length_nil]; omega) (by rw [cs8_length, List.length_nil]; unfold maxLen; omega)
  rw [cs8_length] at hrun1
  rw [List.nil_append] at hown1
  have hB1 : Below w.heap.size w w1 := hb0.trans hb1
  obtain ⟨v2, w2, hrun2, hown2, hb2⟩ := app_src (P := Tryd.prog) (ty := 30) Tryd.underlying30 info5 rfl hown1 (c := d) ((hB.below hB1).1) (cs8_one m) hB1.size (by rw [cs8_length, cs8_length]; omega) (by rw [cs8_length, cs8_length]; unfold maxLen; omega)
  rw [cs8_length] at hrun2
  rw [cs8_app] at hown2
  obtain ⟨A2, c2, rfl, hr2, hc2, hc3⟩ := own_open hown2
  rw [cs8_length] at hrun2 hc2
  exact ⟨v1, w1, A2, c2, w2, hrun1, hrun2, hB1, ⟨hr2, hA.2.append hB.2⟩, hc2, hc3, hB1.trans hb2⟩

set_option maxHeartbeats 2000000 in
set_option maxRecDepth 100000 in
theorem back_walk (a f n : Nat) (B : Option Addr) (l : List Nat) (cp : Nat) (w : World) (hE : Env w) (ha : a < 256) (hf : f < 256) (hn : n < 4294967296) (hR : Rb w B l) (hlc : l.length ≤ cp) (hcp : cp ≤ maxLen) :
    Calls Tryd.prog 4 #[.agg #[.int .u8 (a : Int), .int .u8 (f : Int), .int .u32 (n : Int)], .slice B l.length cp] w fun e w' => e = .returned (.bool true) ∧ Below w.heap.size w w' := by
  have E0 := Lib.hid hE
  have R0 := Lib.hid hR
  have B0 := Lib.hid (bel1 w (.cells #[.int .u8 (a : Int), .int .u8 (f : Int), .int .u32 (n : Int)] 37))
  clear hE hR hlc hcp
  obtain ⟨M, hM⟩ : ∃ M, l.length = M := ⟨_, rfl⟩
  have HM := Lib.hid hM
  rw [hM]
  by_cases h20 : 20 < M
  · clear hM
    go_enter Tryd.func4, Tryd.ntmps4
    go_wp2_with fail
    refine (lives_any _ (E0.out.below B0.out)).mono ?_
    rintro e w4 ⟨rfl, hb⟩
    have B4 := bt B0 (Lib.hid hb)
    clear hb B0
    go_wp2_with fail
    go_ret
    exact ⟨rfl, B4.out⟩
  have hM20 : M ≤ 20 := by omega
  have hchk := of_ok a f n ha hf hn
  have HO := Lib.hid (of_any a f n (w.alloc (.cells #[.int .u8 (a : Int), .int .u8 (f : Int), .int .u32 (n : Int)] 37)) ha hf hn)
  generalize a % 4 = c at *
  generalize decide (f % 2 = 1) = k at *
  generalize ofN c (n % 268435456) k = m at *
  have hcm := chk_zero hchk
  have H0 := Lib.hid hchk
  have hNp := put_pos c m k
  have hN5 := put_le (c := c) (k := k) hcm.2
  have hsz0 : sizeN c m k = (putL c m k).length := by
    unfold sizeN putL
    rw [if_neg (by omega)]
    split
    · rfl
    · rw [List.length_cons, gl_length (by omega) (by omega)]
  obtain ⟨N, hN⟩ : ∃ N, (putL c m k).length = N := ⟨_, rfl⟩
  rw [hN] at hNp hN5 hsz0
  have HN := Lib.hid hN
  have HS0 := Lib.hid hsz0
  have hcl := rd_back c m k l hchk
  rw [hN] at hcl
  have HC := Lib.hid hcl
  clear hchk hN hcl h20 hM hsz0
  go_enter Tryd.func4, Tryd.ntmps4
  go_wp2_with fail
  refine HO.out.mono ?_
  rintro e w1 ⟨rfl, hb⟩
  have B1 := bt (bt B0 (Lib.hid hb)) (Lib.hid (bel1 w1 (.cells #[.int .u8 (c : Int), .bool k, .int .u32 (m : Int)] 25)))
  have S1 := Lib.hid (Bk.new w1 25 [.int .u8 (c : Int), .bool k, .int .u32 (m : Int)])
  clear B0 hb HO
  go_wp2_with fail
  refine (put_any c m k _ (by omega) (by omega) H0.out).mono ?_
  rintro e w2 ⟨A, rfl, r, hb⟩
  rw [HN.out]
  have B2 := bt B1 (Lib.hid hb)
  have S2 := kt S1 (Lib.hid hb)
  have R2 := Lib.hid r
  clear B1 S1 hb r
  obtain ⟨s0, s1, s2, hsz⟩ := tag3 S2
  go_wp2_with fail
  refine (rput_any c m k _ (by omega) (by omega) H0.out).mono ?_
  rintro e w3 ⟨A3, c3, rfl, r, hc31, hc32, hb⟩
  have B3 := bt B2 (Lib.hid hb)
  have S3 := kt S2 (Lib.hid hb)
  have R3 := rt R2 (Lib.hid hb)
  have C3 := same_ok A A3 (putL c m k) c3 0 w3 R3.out r
  rw [HN.out] at C3 ⊢
  have HC3 := Lib.hid C3
  clear B2 S2 R2 hb r hc31 hc32 s0 s1 s2 hsz C3
  obtain ⟨s0, s1, s2, hsz⟩ := tag3 S3
  go_wp2_with fail
  refine HC3.out.mono ?_
  rintro e w4 ⟨rfl, rfl⟩
  clear HC3
  go_wp2_with fail
  refine (size_any c m k _ (by omega) (by omega)).mono ?_
  rw [HS0.out]
  rintro e w5 ⟨rfl, hb⟩
  have B5 := bt B3 (Lib.hid hb)
  have S5 := kt S3 (Lib.hid hb)
  have R5 := rt R3 (Lib.hid hb)
  clear B3 S3 R3 hb s0 s1 s2 hsz
  obtain ⟨s0, s1, s2, hsz⟩ := tag3 S5
  have R5b := Lib.hid (R0.out.below B5.out)
  obtain ⟨v6, w6, A7, c7, w7, hrun1, hrun2, hb6, hr7, hc71, hc72, hb7⟩ := two_apps w5 (c := N) (d := cp) R5.out R5b.out (by rw [HN.out]; omega) (by rw [HM.out]; omega)
  rw [HN.out] at hrun1
  rw [HM.out] at hrun2
  have C7 := read_ok A7 (putL c m k ++ l) c7 c m N 0 k w7 hc71 hc72 hr7 HC.out
  have hlen : (putL c m k ++ l).length = N + M := by rw [List.length_append, HN.out, HM.out]
  rw [hlen] at C7 hrun2
  have HC7 := Lib.hid C7
  have B7 := bt B5 (Lib.hid hb7)
  have HB6 := Lib.hid hb6
  have HB7 := Lib.hid hb7
  clear C7 hlen hr7 hc71 hc72 hb7 hb6
  go_wp2_with fail
  have kS : ∀ W : World, Below w5.heap.size w5 W → W.cell? ⟨w1.heap.size, 0, none⟩ = some (.int .u8 (c : Int)) ∧ W.cell? ⟨w1.heap.size, 1, none⟩ = some (.bool k) ∧ W.cell? ⟨w1.heap.size, 2, none⟩ = some (.int .u32 (m : Int)) := fun W h =>
    ⟨(h.cell (p := ⟨w1.heap.size, 0, none⟩) hsz).trans s0, (h.cell (p := ⟨w1.heap.size, 1, none⟩) hsz).trans s1, (h.cell (p := ⟨w1.heap.size, 2, none⟩) hsz).trans s2⟩
  have HkS := Lib.hid kS
  clear kS
  go_region_held3 (fun w' => w'.cell? ⟨w1.heap.size, 0, none⟩ = some (.int .u8 (c : Int)) ∧ w'.cell? ⟨w1.heap.size, 1, none⟩ = some (.bool k) ∧ w'.cell? ⟨w1.heap.size, 2, none⟩ = some (.int .u32 (m : Int)))
    (first | exact ⟨s0, s1, s2⟩ | exact HkS.out _ (bel1 w5 _).drew | exact HkS.out _ HB6.out | exact HkS.out _ HB7.out | exact HkS.out _ (HB7.out.trans (hb8.mono HB7.out.size)) | exact HkS.out _ ((HB7.out.trans (hb8.mono HB7.out.size)).trans (hb9.mono (HB7.out.trans (hb8.mono HB7.out.size)).size)))
    (first | (refine step_app (by rfl) _ _ _ _ (by rfl) _ _ (by rfl) (by rfl) hrun1 ?_) | (refine step_app (by rfl) _ _ _ _ (by rfl) _ _ (by rfl) (by rfl) hrun2 ?_) | (go_at_call 19; refine HC7.out.mono ?_; rintro e w8 ⟨rfl, hb8⟩) | (go_at_call 12; refine (lives_any _ (E0.out.below (B7.out.trans (hb8.mono B7.out.size)))).mono ?_; rintro e w9 ⟨rfl, hb9⟩))
  all_goals go_wp2_with fail
  all_goals go_ret
  all_goals exact ⟨rfl, (B7.out.trans (hb8.mono B7.out.size)).trans (hb9.mono (B7.out.trans (hb8.mono B7.out.size)).size)⟩

open Go.ChangeShapes Go.WideShapes Go.ChangeAt Go.WideMaps Go.WideElems
set_option maxRecDepth 100000 in
theorem tagsBack_lifted (os : Os) (started : os.Started) (H : Type) (enc : TypeId × Value → H) :
    ReturnsInHanded {} Tryd.checked os 4 .any (fun w args => (Rows.tagsBackSpec.pre enc Tryd.prog Tryd.f4 [] false w args ∧ laidMetH Tryd.prog laidL w) ∧ sizedMet enc Tryd.prog Tryd.f4 (OpenSpec.ofChange Rows.tagsBackSpec) false w args)
      (Rows.tagsBackSpec.post enc Tryd.prog Tryd.f4 false true false false) := by
  refine returnsInHanded_of_change_and (C := Tryd.checked) (X := fun w _ => laidMetH Tryd.prog laidL w) (fun _ _ _ hh h => h.of_heap hh) x_own started (by kernel_rfl) Tryd.func4
    (ChangeSpec.witness_shaped (enc := enc) (C := Tryd.checked) (os := os) (X := fun w _ => laidMetH Tryd.prog laidL w) false (World.doorLaid Tryd.prog 67 os) #[.agg #[.int .u8 0, .int .u8 0, .int .u32 0], .slice none 0 0] 8 rfl (World.shaped_of_RefB (by kernel_rfl) (by kernel_rfl)) (by kernel_rfl) (by kernel_rfl) (by kernel_rfl) (door_met os _)) ?_
  intro W base args ds gs before hval0 hW _ _ hL _
  have hval : ∀ (j : Nat) t v, Tryd.f4.params[j]? = some t → args[j]? = some v → Value.okWide Tryd.prog W .any base t v := hval0
  have hW' := hW
  obtain ⟨p, q, hA0, hV, rfl, hfz, hnd⟩ := hW
  have hA : DataW.TrodAll enc Tryd.prog W 0 (fun _ => true) true Tryd.f4.params.toList args.toList ds p := hA0
  rw [Tryd.params4] at hA hval
  obtain ⟨v0, v1, d0, d1, p0, p1, rfl, rfl, rfl, h0, h1⟩ := trodAll_two hA
  obtain ⟨rfl, rfl⟩ := trodVars_none hV
  obtain ⟨a, f, n, rfl, ha, hf, hn⟩ := open_T (hval 0 _ v0 rfl rfl) h0
  obtain ⟨B, l, cp, rfl, hR, hlc, hcp⟩ := open_bytes (hval 1 _ v1 rfl rfl) h1
  have hE := of_laid hL
  clear hA0 hval0
  simp only [List.append_nil] at hW'
  refine (back_walk a f n B l cp W hE ha hf hn hR hlc hcp).mono fun e W' ⟨he, hb⟩ => ?_
  subst he
  exact ⟨_, rfl, law_post (tb := 4) x_laid (by decide +kernel) rfl rfl (by kernel_rfl) Tryd.underlying4 hW' hb⟩

/-- The row's statement. -/
theorem tagsBack_row : Rows.TagsBackSaid :=
  OpenClaim.holds_of_wide 4 Tryd.f4 rfl rfl rfl rfl rfl rfl rfl ⟨rfl, rfl, rfl, rfl, rfl⟩ rfl rfl rfl rfl rfl (by kernel_rfl) Tryd.func4 (by kernel_rfl)
    (of_decide_eq_true (by kernel_rfl)) (by unfold Func.isWrapper; first | (rw [if_pos (by decide +kernel)]; kernel_rfl) | (rw [if_neg (by decide +kernel)]; exact ⟨rfl, rfl⟩))
    (fun os started H enc _ => tagsBack_lifted os started H enc)

/-- The statement: the card. -/
theorem tagsBack_holds : Rows.TagsBackCardSaid :=
  Claim7.holds_tied_plain_at .later [] [.data, .data, .data, .sentinel, .sentinel, .data] true Rows.tagsBackCard.stood.harness true
    tagsBack_row (fun _ h => by cases h) (by kernel_rfl) (fun _ h => by cases h) tagsBack_row_tie rfl ⟨rfl, rfl⟩ (by kernel_rfl) rfl
    (fun f fn hf hfn => by
      obtain rfl : f = 4 := Option.some.inj ((show Tryd.prog.funcNamed "vidimus/vidimuslaw02.TagsBack" = some 4 by kernel_rfl).symm.trans hf) |>.symm
      obtain rfl : fn = Tryd.f4 := (Option.some.inj (Tryd.func4.symm.trans hfn)).symm
      exact ⟨by kernel_rfl, fun j t ht => by
        rw [Tryd.params4] at ht
        have hm : t ∈ Tryd.f4.params.toList := by rw [Tryd.params4]; exact Array.mem_toList_iff.2 (Array.mem_of_getElem? ht)
        have hall : (Tryd.f4.params.toList.all fun u => !Tryd.prog.wantsStandIn u) = true := by kernel_rfl
        exact (show Tryd.prog.wantsStandIn t = false by simpa using List.all_eq_true.1 hall t hm)⟩)
    (by kernel_rfl)
end Go.Proofs.YtcaolgcpcjodnaaDoor
