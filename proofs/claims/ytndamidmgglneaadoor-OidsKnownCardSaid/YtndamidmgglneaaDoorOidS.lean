/-
  Package oids: contracts of isDecimal and isDotted.
  Conditions: the string has at most 1000000 bytes.
-/
import Derived.Test.YtndamidmgglneaaDoorOidR
namespace Go.Proofs.YtndamidmgglneaaDoor
open Go.RowKit Go.Shelf
attribute [local go_sem] Oper.semAt_some

/-- Is it a digit? -/
def dg (c : Nat) : Bool := decide (48 ≤ c) && decide (c ≤ 57)
/-- Is it a decimal number without leading zeros? -/
def isDec (l : List Nat) : Bool := l.all dg && (l == [48] || (l.headD 48 != 48))
theorem idx_str (l : List Nat) (h8 : All8 l) (j : Nat) (hj : j < l.length) (W : World) : (Instr.index 9 (.string (bstr l)) (.int .i64 (j : Int))).run Tryd.prog W = .ok (.int .u8 (l[j] : Int)) W := by
  rw [run_index_string (P := Tryd.prog) W 9 (bstr l) .i64 (j : Int) Tryd.underlying9]
  have hi : j < (bstr l).size := by rw [bstr_size]; exact hj
  rw [dif_pos ⟨by omega, by omega⟩]
  have e : ((bstr l)[((j : Int)).toNat]'(by rw [Int.toNat_natCast]; exact hi)).toNat = l[j] := by
    have h2 := h8.get hj
    have : (bstr l)[((j : Int)).toNat]'(by rw [Int.toNat_natCast]; exact hi) = UInt8.ofNat l[j] := by
      show (bstr l).data[((j : Int)).toNat]'(by rw [Int.toNat_natCast]; exact hi) = _
      simp [bstr]
    rw [this, UInt8.toNat_ofNat_of_lt' h2]
  rw [e]
theorem head_get {l : List Nat} (h : 0 < l.length) : l.headD 48 = l[0] := by cases l with
  | nil => simp at h
  | cons a m => rfl
theorem toList_bstr (l : List Nat) : (bstr l).toList = l.map UInt8.ofNat := by rw [ByteArray.toList_eq, bstr_list]
theorem isdec_any (l : List Nat) (h8 : All8 l) (hl : l.length ≤ 1000000) (w : World) : Calls Tryd.prog 39 #[.string (bstr l)] w fun e w' => e = .returned (.bool (isDec l)) ∧ w = w' := by
  have hix := fun j hj W => idx_str l h8 j hj W
  have hsz := bstr_size l
  obtain ⟨S, hS⟩ : ∃ S, bstr l = S := ⟨_, rfl⟩
  rw [hS] at hix hsz ⊢
  have HIX := Lib.hid hix
  have HS := Lib.hid hS
  have H8 := Lib.hid h8
  obtain ⟨r, hr⟩ : ∃ r, isDec l = r := ⟨_, rfl⟩
  rw [hr]
  have HR := Lib.hid hr
  clear hix hS h8 hr
  go_enter Tryd.func39, Tryd.ntmps39
  go_wp2
  go_loop [3, 6] (fun _ i => ∃ j : Nat, j ≤ l.length ∧ i = .int .i64 (j : Int) ∧ (l.take j).all dg = true) (fun _ i => l.length - (intOf i).toNat)
  case atStart => exact ⟨0, Nat.zero_le _, rfl, by simp⟩
  case round =>
    obtain ⟨j, hj, rfl, ha⟩ := hrel
    have HA := Lib.hid ha
    clear ha
    rcases Nat.lt_or_ge j l.length with hjl | hjl
    · have hix := HIX.out j hjl
      have hc := H8.out.get hjl
      have HT := Lib.hid (List.take_succ_eq_append_getElem hjl)
      have HBAD := Lib.hid (fun (h : dg l[j] = false) => show isDec l = false from by
        have : l.all dg = false := by
          rw [Bool.eq_false_iff]
          intro e
          have := List.all_eq_true.1 e _ (List.getElem_mem hjl)
          rw [h] at this; cases this
        unfold isDec; rw [this]; rfl)
      generalize l[j] = c at *
      by_cases h1 : c < 48
      · have HF : Hid (r = false) := Lib.hid (by rw [← HR.out]; exact HBAD.out (by unfold dg; simp; omega))
        go_wp2
        go_ret
        rw [HF.out]
        exact ⟨rfl, rfl⟩
      · by_cases h2 : 57 < c
        · have HF : Hid (r = false) := Lib.hid (by rw [← HR.out]; exact HBAD.out (by unfold dg; simp; omega))
          go_wp2
          go_ret
          rw [HF.out]
          exact ⟨rfl, rfl⟩
        · have HT2 : Hid ((l.take (j + 1)).all dg = true) := Lib.hid (by rw [HT.out, List.all_append, HA.out]; unfold dg; simp; omega)
          go_wp2
          go_round
          case rel => exact ⟨j + 1, by omega, by go_num, HT2.out⟩
          case measure => simp [intOf]; omega
    · obtain rfl : j = l.length := by omega
      have hall : l.all dg = true := by have := HA.out; rwa [List.take_length] at this
      have HALL := Lib.hid hall
      clear hall
      by_cases h48 : l = [48]
      · have hb : (S.toList == ([48] : List UInt8)) = true := by rw [← HS.out, h48, toList_bstr]; rfl
        have HF : Hid (r = true) := Lib.hid (by rw [← HR.out, h48]; decide)
        clear h48
        go_wp2
        go_ret
        rw [HF.out]
        exact ⟨rfl, rfl⟩
      · have hb : (S.toList == ([48] : List UInt8)) = false := by
          rw [← HS.out]
          have := bstr_ne (l := l) (m := [48]) H8.out (by intro x hx; simp at hx; omega) h48
          rw [toList_bstr [48]] at this
          exact this
        by_cases hl0 : l = []
        · have hb2 : S.toList.isEmpty = true := by rw [← HS.out, hl0, toList_bstr]; rfl
          have hb3 : S.toList = [] := by rw [← HS.out, hl0, toList_bstr]; rfl
          have HF : Hid (r = false) := Lib.hid (by rw [← HR.out, hl0]; decide)
          rw [hl0] at hsz ⊢
          clear h48 hl0
          go_wp2
          go_ret
          rw [HF.out]
          exact ⟨rfl, rfl⟩
        · have hpos : 0 < l.length := by
            rcases Nat.eq_zero_or_pos l.length with h | h
            · exact absurd (List.eq_nil_of_length_eq_zero h) hl0
            · exact h
          have hb2 : S.toList.isEmpty = false := by
            rw [← HS.out, toList_bstr]
            cases hq : l with
            | nil => exact absurd hq hl0
            | cons a m => rfl
          have hb3 : ¬ S.toList = [] := by
            rw [← HS.out, toList_bstr]
            intro e
            exact hl0 (List.map_eq_nil_iff.1 e)
          have hix0 : ∀ W, (Instr.index 9 (.string S) (.int .i64 0)).run Tryd.prog W = .ok (.int .u8 (l[0] : Int)) W := HIX.out 0 hpos
          have hhd : l.headD 48 = l[0] := head_get hpos
          have hr1 : r = (l[0] != 48) := by
            rw [← HR.out, isDec, HALL.out, hhd]
            have : (l == [48]) = false := by rw [beq_eq_false_iff_ne]; exact h48
            rw [this]; rfl
          have hc := H8.out.get hpos
          generalize l[0] = c at *
          clear h48 hl0 hhd
          by_cases hc48 : c = 48
          · subst hc48
            have HF : Hid (r = false) := Lib.hid (by rw [hr1]; rfl)
            clear hr1
            go_wp2
            go_ret
            rw [HF.out]
            exact ⟨rfl, rfl⟩
          · have hcb : ((c : Int) != 48) = true := by rw [bne_iff_ne]; omega
            have HF : Hid (r = true) := Lib.hid (by rw [hr1, bne_iff_ne]; exact hc48)
            clear hr1 hc48
            go_wp2
            go_ret
            rw [HF.out]
            exact ⟨rfl, rfl⟩
theorem res_bool {fn : Func} {p : Tmp} (h : fn.results = #[.cell p 4]) (tmps : Array Value) (W : World) (g : Nat) (v : Bool) (hp : tmps.getD p undef = .pointer (some ⟨g, 0, none⟩)) (hb : Boxed W g 4 (.bool v)) : (results fn tmps).run Tryd.prog W = .ok (.bool v) W := by
  have hc := hb.cell
  have hp' : tmps[p]?.getD undef = .pointer (some ⟨g, 0, none⟩) := by simpa using hp
  simp [results, h, hp', asAddr, go_sem, hc]
theorem marks_one {B D : Nat} {W : World} (h1 : B ≤ D) (h2 : W.heap[D]? = some (.deferred (some []))) : ∀ D' ∈ [D], B ≤ D' ∧ W.heap[D']? = some (.deferred (some [])) := fun D' h => by
  obtain rfl : D' = D := by simpa using h
  exact ⟨h1, h2⟩
theorem boxed_put {W : World} {g D : Nat} {t : TypeId} {v : Value} (h : Boxed W g t v) (hD : W.heap[D]? = some (.deferred (some []))) (o : Obj) : Boxed (W.putObj D o) g t v :=
  h.kept (grownBy_putObj' W D o) (fun e => by injection e with e; subst e; rw [show W.heap[g]? = _ from h] at hD; cases hD)

set_option maxRecDepth 100000 in
set_option maxHeartbeats 2000000 in
theorem isdotted_in (l : List Nat) (h8 : All8 l) (hl : l.length ≤ 1000000) (m : Nat) (hm : 6 ≤ m) (w : World) :
    CallsIn Fence.wide m Tryd.prog 30 #[.string (bstr l)] w fun e w' => e = .returned (.bool ((splitD l).all isDec)) ∧ Below w.heap.size w w' := by
  have h1 : 1 ≤ m := by omega
  have S0 := Lib.hid (Boxed.new w 4 (.bool false))
  have B0 := Lib.hid (bel1 w (.cells #[.bool false] 4))
  have H8 := Lib.hid h8
  clear h8
  refine callsIn_of_wp_marks Tryd.func30 rfl trivial ?_ rfl
  simp only [Tryd.ntmps30, List.size_toArray, List.length_cons, List.length_nil, Nat.reduceAdd, Nat.reduceSub, Array.replicate_succ, Array.replicate_zero, List.push_toArray, List.append_toArray, List.nil_append, List.cons_append]
  rw [wpIn_wide]
  go_upto_region 1 with fail
  generalize w.alloc (.cells #[.bool false] 4) = w1 at *
  go_wp2_with (go_at_call 31; refine (splitseq_any _ _).mono ?_; rintro e w' ⟨rfl, rfl⟩)
  have hsz := S0.out.lt
  have BS := Lib.hid (((Boxed.new w1 9 (.string (bstr l))).alloc (.cells #[.string ⟨#[46]⟩] 9)).alloc (.cells #[.int .i64 0] 3))
  have BE := Lib.hid (show Boxed (((w1.alloc (.cells #[.string (bstr l)] 9)).alloc (.cells #[.string ⟨#[46]⟩] 9)).alloc (.cells #[.int .i64 0] 3)) (w1.heap.size + 1) 9 (.string ⟨#[46]⟩) from by
    have := (Boxed.new (w1.alloc (.cells #[.string (bstr l)] 9)) 9 (.string ⟨#[46]⟩)).alloc (.cells #[.int .i64 0] 3)
    rwa [World.size_alloc] at this)
  have BV := Lib.hid (show Boxed (((w1.alloc (.cells #[.string (bstr l)] 9)).alloc (.cells #[.string ⟨#[46]⟩] 9)).alloc (.cells #[.int .i64 0] 3)) (w1.heap.size + 1 + 1) 3 (.int .i64 0) from by
    have := Boxed.new ((w1.alloc (.cells #[.string (bstr l)] 9)).alloc (.cells #[.string ⟨#[46]⟩] 9)) 3 (.int .i64 0)
    rwa [World.size_alloc, World.size_alloc] at this)
  have SG := Lib.hid (((S0.out.alloc (.cells #[.string (bstr l)] 9)).alloc (.cells #[.string ⟨#[46]⟩] 9)).alloc (.cells #[.int .i64 0] 3))
  have BB := Lib.hid (((B0.out.alloc B0.out.size (.cells #[.string (bstr l)] 9)).alloc (by have := B0.out.size; simp; omega) (.cells #[.string ⟨#[46]⟩] 9)).alloc (by have := B0.out.size; simp; omega) (.cells #[.int .i64 0] 3))
  have hwz : (((w1.alloc (.cells #[.string (bstr l)] 9)).alloc (.cells #[.string ⟨#[46]⟩] 9)).alloc (.cells #[.int .i64 0] 3)).heap.size = w1.heap.size + 3 := by simp
  generalize ((w1.alloc (.cells #[.string (bstr l)] 9)).alloc (.cells #[.string ⟨#[46]⟩] 9)).alloc (.cells #[.int .i64 0] 3) = w2 at *
  generalize w1.heap.size = b at *
  have HWZ := Lib.hid hwz
  clear hwz S0 B0
  rw [← wpIn_wide (n := m)]
  refine range_b h1 (gf := 48) (lb := #[.pointer (some ⟨b + 1, 0, none⟩), .pointer (some ⟨b, 0, none⟩), .pointer (some ⟨b + 1 + 1, 0, none⟩)]) rfl (enters_of Tryd.func48 (by kernel_rfl) rfl) (bs := [b + 1, b, b + 1 + 1]) (b := b)
    (fun i hi => by have := HWZ.out; simp at hi; omega) (by simp) (split_seq l H8.out hl (m - 1) (by omega) (b + 1) b (b + 1 + 1) (by omega) (by omega) w2 BE.out BS.out BV.out) (fun _ => rfl)
    (fun pre W => (pre.all isDec = true ∧ Boxed W w.heap.size 4 (.bool false)) ∧ Below w.heap.size w W)
    (fun c pre W => (c = .ret ∧ pre.all isDec = false ∧ Boxed W w.heap.size 4 (.bool false)) ∧ Below w.heap.size w W)
    (OwnFrom.and (Own.from (fun s A B row hs hg hr => ⟨hs.1, own_box w.heap.size 4 (.bool false) (β := List (List Nat)) s A B row hs.2 hg hr⟩) _) (ownFrom_below (Nat.le_refl _) (by have := HWZ.out; omega)))
    (fun s W v hs => ⟨⟨hs.1.1, hs.1.2.other (by omega) v⟩, hs.2.setCell (p := ⟨b, 0, none⟩) (by show w.heap.size ≤ b; omega) v⟩)
    (fun c => OwnFrom.and (Own.from (fun s A B row hs hg hr => ⟨hs.1, hs.2.1, own_box w.heap.size 4 (.bool false) (β := List (List Nat)) s A B row hs.2.2 hg hr⟩) _) (ownFrom_below (Nat.le_refl _) (by have := HWZ.out; omega)))
    ⟨⟨rfl, SG.out⟩, BB.out⟩
    (fun x => { tmps := #[.string (bstr l), undef, .pointer (some ⟨w.heap.size, 0, none⟩), .string (bstr x), .string (bstr l), .func (.func 48) #[] #[.pointer (some ⟨b + 1, 0, none⟩), .pointer (some ⟨b, 0, none⟩), .pointer (some ⟨b + 1 + 1, 0, none⟩)], .string (bstr x), undef, undef, undef], defers := [] }) ?assign ?body ?done ?stop
  case assign =>
    rintro l y W K hK
    gi_wp2_with fail
    simpa [encS] using hK
  case body =>
    rintro lw pre x W hok ⟨⟨hp, hg⟩, hB⟩ hlen
    obtain ⟨hxa, hxl⟩ := split_mem (pre_mem hok)
    have hd := isdec_any x (fun c hc => H8.out c (hxa c hc)) (by omega) W
    have HD := Lib.hid hd
    have HP := Lib.hid hp
    have HG := Lib.hid hg
    have HB := Lib.hid hB
    clear hd hp hB hok hxa
    have cg := hg.cell
    have fg := hg.frozen
    clear hg
    cases hx : isDec x with
    | true =>
      rw [hx] at HD
      gi_wp2_with fail
      refine ⟨trivial, fun _ => by omega, ?_⟩
      refine (show CallsIn (Fence.wide.inRound lw) (m - 1 - 1 - 1) Tryd.prog 39 #[.string (bstr x)] W _ from callsIn_wide.2 HD.out).mono ?_
      rintro e w' ⟨rfl, rfl⟩
      gi_wp2_with fail
      exact ⟨KeepsOthers.refl _, fun i _ => rfl, ⟨by rw [List.all_append, HP.out]; simp [hx], HG.out⟩, HB.out⟩
    | false =>
      rw [hx] at HD
      gi_wp2_with fail
      refine ⟨trivial, fun _ => by omega, ?_⟩
      refine (show CallsIn (Fence.wide.inRound lw) (m - 1 - 1 - 1) Tryd.prog 39 #[.string (bstr x)] W _ from callsIn_wide.2 HD.out).mono ?_
      rintro e w' ⟨rfl, rfl⟩
      gi_wp2_with fail
      exact ⟨KeepsOthers.setCell _ _ _, ⟨rfl, by rw [List.all_append]; simp [hx], HG.out.set _⟩, HB.out.setCell (p := ⟨w.heap.size, 0, none⟩) (Nat.le_refl _) _⟩
  case done =>
    rintro D ys W hD rfl ⟨⟨hp, hg⟩, hB⟩ hK
    have cg := hg.cell
    have fg := hg.frozen
    have HG := Lib.hid hg
    have HB := Lib.hid hB
    have HKK := Lib.hid hK
    clear hg hB hK
    have HP := Lib.hid hp
    clear hp
    go_wp2
    have hK2 : (W.setCell ⟨w.heap.size, 0, none⟩ (.bool true)).heap[D]? = some (.deferred (some [])) := (setCell_heap (by have := HWZ.out; omega) _).trans HKK.out
    refine leaves_marks2 (fun W => Boxed W w.heap.size 4 (.bool true) ∧ Below w.heap.size w W) w.heap.size (fun W D hD h hk => ⟨boxed_put h.1 hk _, h.2.grown (grownBy_putObj' W D _) h.2.size (fun k e => by cases e; exact hD)⟩)
      (fun W h => ⟨_, res_bool rfl _ W w.heap.size true rfl h.1, by rw [HP.out], h.2⟩) [D] _ (by simp) (marks_one (by have := HWZ.out; omega) hK2) ⟨HG.out.set _, HB.out.setCell (p := ⟨w.heap.size, 0, none⟩) (Nat.le_refl _) _⟩
  case stop =>
    rintro D c pre W hD hpre ⟨⟨rfl, hp, hg⟩, hB⟩ hK
    have HP : Hid ((splitD l).all isDec = false) := Lib.hid (by
      obtain ⟨t, e⟩ := hpre
      rw [← e, List.all_append, hp]; rfl)
    have HG := Lib.hid hg
    have HB := Lib.hid hB
    have HKK := Lib.hid hK
    clear hpre hp hg hB hK
    rw [wpIn_wide]
    go_wp2
    refine leaves_marks2 (fun W => Boxed W w.heap.size 4 (.bool false) ∧ Below w.heap.size w W) w.heap.size (fun W D hD h hk => ⟨boxed_put h.1 hk _, h.2.grown (grownBy_putObj' W D _) h.2.size (fun k e => by cases e; exact hD)⟩)
      (fun W h => ⟨_, res_bool rfl _ W w.heap.size false rfl h.1, by rw [HP.out], h.2⟩) [D] _ (by simp) (marks_one (by have := HWZ.out; omega) HKK.out) ⟨HG.out, HB.out⟩
theorem isdotted_any (l : List Nat) (h8 : All8 l) (hl : l.length ≤ 1000000) (w : World) : Calls Tryd.prog 30 #[.string (bstr l)] w fun e w' => e = .returned (.bool ((splitD l).all isDec)) ∧ Below w.heap.size w w' :=
  callsIn_wide.1 (isdotted_in l h8 hl 6 (by omega) w)
end Go.Proofs.YtndamidmgglneaaDoor
