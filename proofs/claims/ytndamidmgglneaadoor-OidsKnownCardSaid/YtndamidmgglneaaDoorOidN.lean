/-
  Package oids: what the listed variables hold; the contract of Text.
  Conditions: the variables hold what the program's text lays.
-/
import Derived.Test.YtndamidmgglneaaDoorOidM
import Derived.Test.YtndamidmgglneaaDoorStr2
import Derived.Shelf.Strconv.Itoa3
import Derived.Lib.AppendIntMem
namespace Go.Proofs.YtndamidmgglneaaDoor
open Go.RowKit

/-- The variables that the program reads hold what its text lays. -/
structure Env (w : World) : Prop where
  tab : Lib.TabIs Tryd.prog w "internal/strconv.uint64pow10" .u64 Lib.pow10Tab
  rng : ∃ tp p, w.var? Tryd.prog "strconv.ErrRange" = some #[.iface tp p]
theorem var_below {P : Program} {w w' : World} {name : String} {cs : Array Value} (h : w.var? P name = some cs) (hb : Below w.heap.size w w') : w'.var? P name = some cs := by
  unfold World.var? at *
  cases hg : P.globalNamed name with
  | none => rw [hg] at h; cases h
  | some g =>
    rw [hg] at h
    simp only [Option.bind_some] at h ⊢
    have hlt : g < w.heap.size := by
      rcases Nat.lt_or_ge g w.heap.size with h1 | h1
      · exact h1
      · rw [Array.getElem?_eq_none h1] at h; cases h
    rw [hb.block g hlt]
    exact h
theorem Env.below {w w' : World} (h : Env w) (hb : Below w.heap.size w w') : Env w' :=
  ⟨var_below h.tab hb, by obtain ⟨t, p, e⟩ := h.rng; exact ⟨t, p, var_below e hb⟩⟩
theorem et {a b : World} (h : Hid (Env a)) (h2 : Hid (Below a.heap.size a b)) : Hid (Env b) := Lib.hid (h.out.below h2.out)
/-- The decimal form. -/
def textL (v : Nat) : List Nat := if v = 0 then [48] else (dgs 10 v).reverse.map (48 + ·)
theorem dec_text (u : Nat) : Lib.decDigits u = (textL u).map UInt8.ofNat := by
  induction u using Nat.strongRecOn with
  | ind u ih =>
    by_cases h : u < 10
    · rw [Lib.decDigits_one h]
      by_cases h0 : u = 0
      · subst h0; rfl
      · rw [textL, if_neg h0, dgs_pos (by omega) h0, Nat.div_eq_of_lt h, Nat.mod_eq_of_lt h]
        rfl
    · rw [Lib.decDigits, dif_neg h, ih (u / 10) (by omega), textL, textL, if_neg (by omega), if_neg (by omega), dgs_pos (v := u) (by omega) (by omega)]
      simp
theorem dec_str (u : Nat) : (⟨(Lib.decDigits u).toArray⟩ : ByteArray) = bstr (textL u) := by rw [dec_text]; rfl
theorem textL_pos (u : Nat) : 0 < (textL u).length := by
  unfold textL; split
  · simp
  · rename_i h; rw [dgs_pos (by omega) h]; simp
theorem textL_le {u : Nat} (h : u < 18446744073709551616) : (textL u).length ≤ 20 := by
  unfold textL; split
  · simp
  · rw [List.length_map, List.length_reverse]
    exact (dgs_length (by omega) u 20).2 (by omega)
theorem textL_all (u : Nat) : All8 (textL u) := by
  unfold textL
  split
  · intro x hx; simp at hx; omega
  · intro x hx
    simp only [List.mem_map, List.mem_reverse] at hx
    obtain ⟨y, hy, rfl⟩ := hx
    have := dgs_lt (b := 10) (by omega) u y hy
    omega
theorem dec_cells (u : Nat) : Lib.byteCells (Lib.decDigits u) = cs8 (textL u) := by
  rw [dec_text]
  unfold Lib.byteCells cs8
  rw [List.map_map]
  apply List.map_congr_left
  intro x hx
  simp only [Function.comp, by8]
  rw [UInt8.toNat_ofNat_of_lt' (textL_all u x hx)]
theorem dec_len (u : Nat) : (Lib.decDigits u).length = (textL u).length := by rw [dec_text, List.length_map]
/-- Numbers in decimal with a dot ahead of each. -/
def jn (l : List Nat) : List Nat := l.flatMap fun a => 46 :: textL a
/-- .. between any two. -/
def dot (l : List Nat) : List Nat := (jn l).drop 1
theorem jn_snoc (l : List Nat) (x : Nat) : jn (l ++ [x]) = jn l ++ 46 :: textL x := by unfold jn; rw [List.flatMap_append]; simp
theorem dot_one (x : Nat) : dot [x] = textL x := by unfold dot jn; simp
theorem dot_snoc {l : List Nat} (h : l ≠ []) (x : Nat) : dot (l ++ [x]) = dot l ++ [46] ++ textL x := by
  unfold dot
  rw [jn_snoc]
  obtain ⟨a, m, rfl⟩ : ∃ a m, l = a :: m := by cases l with
    | nil => exact absurd rfl h
    | cons a m => exact ⟨a, m, rfl⟩
  unfold jn
  simp
theorem jn_all (l : List Nat) : All8 (jn l) := by
  intro x hx
  obtain ⟨a, _, h⟩ := List.mem_flatMap.1 hx
  rcases List.mem_cons.1 h with rfl | h
  · omega
  · exact textL_all a x h
theorem dot_all (l : List Nat) : All8 (dot l) := (jn_all l).drop 1
theorem jn_len : ∀ {l : List Nat}, (∀ x ∈ l, x < 4294967296) → (jn l).length ≤ 21 * l.length
  | [], _ => by simp [jn]
  | a :: l, h => by
    have h1 := textL_le (u := a) (by have := h a (by simp); omega)
    have h2 := jn_len (l := l) fun x hx => h x (by simp [hx])
    unfold jn at *
    rw [List.flatMap_cons, List.length_append, List.length_cons, List.length_cons]
    omega
theorem dot_len {l : List Nat} (h : ∀ x ∈ l, x < 4294967296) : (dot l).length ≤ 21 * l.length := by
  have := jn_len h
  unfold dot
  rw [List.length_drop]
  omega
theorem appU (B u : Nat) (l : List Nat) (sv : Value) (w : World) (hu : u < 4294967296) (hown : w.ownsRow B 5 1 sv l.length (cs8 l)) (hB : B ≤ w.heap.size) (hl : l.length ≤ 1000) (hE : Env w) :
    Calls Tryd.prog 22 #[sv, .int .u64 (u : Int), .int .i64 10] w fun e w' => ∃ v', e = .returned v' ∧ w'.ownsRow B 5 1 v' (l ++ textL u).length (cs8 (l ++ textL u)) ∧ Below B w w' := by
  have hcall := Lib.hid (Tryd.internal_strconv_AppendUint_10 B l.length u (by omega) sv (cs8 l) w hown hB (by omega) hE.tab)
  clear hE hown
  go_enter Tryd.func22, Tryd.ntmps22
  go_wp2_with (go_at_call 34; refine hcall.out.mono ?_; rintro e w' ⟨v', rfl, h1, h2, -⟩; have H1 := Lib.hid h1; have H2 := Lib.hid h2; clear h1 h2)
  go_ret
  refine ⟨v', rfl, ?_, H2.out⟩
  have := H1.out
  rw [dec_cells, dec_len] at this
  rw [List.length_append]
  unfold cs8 at *
  rw [List.map_append]
  exact this
def GiveT (w : World) (l : List Nat) (e : Ending) (w' : World) : Prop := e = .returned (.string (bstr l)) ∧ Below w.heap.size w w'
/-- The dotted form. -/
def txO (n : Nat) (l : List Nat) : List Nat := if chkO n l = 0 then dot (l.take n) else [63]

set_option maxRecDepth 100000 in
set_option maxHeartbeats 2000000 in
theorem text_any (n : Nat) (l : List Nat) (w : World) (ho : OkO n l) (hE : Env w) : Calls Tryd.prog 9 #[oV n l] w (GiveT w (txO n l)) := by
  have S := Lib.hid (Bk.new w 26 (oc n l))
  have B0 := Lib.hid (bel1 w (.cells (oc n l).toArray 26))
  have HE := Lib.hid hE
  have HO := Lib.hid ho
  have HL := Lib.hid ho.len
  have h32 := ho.a32
  clear ho hE
  go_enter Tryd.func9, Tryd.ntmps9
  go_upto_region 1 with fail
  generalize w.alloc (.cells (oc n l).toArray 26) = w1 at *
  rcases chkO_01 n l with hc | hc
  · have HT : Hid (txO n l = dot (l.take n)) := Lib.hid (if_pos hc)
    have hn := chkO_n hc
    have HC := Lib.hid hc
    have H32 := Lib.hid h32
    clear hc h32
    go_wp2_with (refine wpList_load25 rfl (.tmp 1) rfl rfl S.out HL.out ?_)
    refine (check_any n l _ HO.out).mono ?_
    rw [HC.out]
    rintro e w2 ⟨rfl, hb⟩
    have B2 := bt B0 (Lib.hid hb)
    have S2 := kt S (Lib.hid hb)
    have E2 := et HE B2
    clear hb S B0
    have cn := oid_n S2.out
    have hsl := slice23h w.heap.size n hn.2 .u8
    go_wp2
    clear cn hsl
    go_loopw [3, 4, 5, 14] (fun v _ _ i wr => ∃ j : Nat, j ≤ n ∧ i = .int .i64 (j : Int) ∧ wr.ownsRow (w.heap.size + 1) 5 1 v (dot (l.take j)).length (cs8 (dot (l.take j))) ∧ Bk wr w.heap.size 26 (oc n l) ∧ Below w.heap.size w wr) (fun _ _ _ i _ => n - (intOf i).toNat)
    case atStart => exact ⟨0, Nat.zero_le _, rfl, World.ownsRow_nil _ _ _ _, S2.out, B2.out⟩
    case round =>
      obtain ⟨j, hj, rfl, hown, hbk, hbel⟩ := hrel
      have HOWN := Lib.hid hown
      have HBK := Lib.hid hbk
      have HBEL := Lib.hid hbel
      have E3 := et HE HBEL
      have hlen := HL.out
      rcases Nat.lt_or_ge j n with hjn | hjn
      · have hjl : j < l.length := by omega
        have hc := oid_a' hbk (i := j) hjl
        have hx32 := H32.out _ (List.getElem_mem hjl)
        have hts := List.take_succ_eq_append_getElem hjl
        generalize l[j] = x at *
        have HTS := Lib.hid hts
        have hdl := dot_len (l := l.take j) (fun y hy => H32.out y (List.mem_of_mem_take hy))
        rw [List.length_take] at hdl
        have hjl16 : j < 16 := by omega
        have hdl2 : (dot (l.take j)).length ≤ 400 := by omega
        obtain ⟨Av, cv, hv⟩ := own_form hown
        subst hv
        by_cases hj0 : j = 0
        · subst hj0
          have hds : Hid (dot (l.take (0 + 1)) = dot (l.take 0) ++ textL x) := Lib.hid (by rw [HTS.out, List.take_zero]; exact dot_one x)
          clear hts hown hbk hbel hdl hlen
          rw [show ((0 : Nat) : Int) = 0 from rfl]
          go_wp2_with fail
          refine (appU (w.heap.size + 1) x (dot (l.take 0)) _ _ hx32 HOWN.out HBK.out.lt (by omega) E3.out).mono ?_
          rintro e w4 ⟨v4, rfl, hown4, hb4⟩
          have HOWN4 := Lib.hid hown4
          have HBK4 := Lib.hid (HBK.out.below hb4 (Nat.lt_succ_self _))
          have HBEL4 := Lib.hid (HBEL.out.trans (hb4.mono (Nat.le_succ _)))
          clear hown4 hb4
          go_wp2
          exact ⟨⟨1, by omega, rfl, by rw [show (1 : Nat) = 0 + 1 from rfl, hds.out]; exact HOWN4.out, HBK4.out, HBEL4.out⟩, by simp [intOf]; omega⟩
        · have hne : l.take j ≠ [] := fun e => by
            have := congrArg List.length e
            rw [List.length_take, List.length_nil] at this
            omega
          have hds : Hid (dot (l.take (j + 1)) = (dot (l.take j) ++ [46]) ++ textL x) := Lib.hid (by rw [HTS.out, dot_snoc hne])
          have hjp : 0 < j := by omega
          obtain ⟨v2, w3, hrun, hown3, hb3⟩ := app8 (xs := dot (l.take j)) (ys := [46]) (c := 1) (own_below HOWN.out (bel1 _ (.cells #[.int .u8 46] 5))) (A := some ⟨wr.heap.size, 0, none⟩) ((Bk.new wr 5 (cs8 [46])).rd 0) (by have := HBK.out.lt; simp; omega) (by simp; omega)
          have HOWN3 := Lib.hid hown3
          have HBK3 := Lib.hid ((HBK.out.alloc (.cells #[.int .u8 46] 5)).below hb3 (Nat.lt_succ_self _))
          have HBEL3 := Lib.hid ((HBEL.out.alloc HBEL.out.size (.cells #[.int .u8 46] 5)).trans (hb3.mono (Nat.le_succ _)))
          have E4 := et HE HBEL3
          clear hts hown hbk hbel hown3 hb3 hdl hlen hj0 hne
          go_wp2_with (at_builtin; refine wpList_app rfl _ _ _ _ rfl _ _ rfl rfl hrun ?_)
          refine (appU (w.heap.size + 1) x (dot (l.take j) ++ [46]) _ _ hx32 HOWN3.out HBK3.out.lt (by simp; omega) E4.out).mono ?_
          rintro e w4 ⟨v4, rfl, hown4, hb4⟩
          have HOWN4 := Lib.hid hown4
          have HBK4 := Lib.hid (HBK3.out.below hb4 (Nat.lt_succ_self _))
          have HBEL4 := Lib.hid (HBEL3.out.trans (hb4.mono (Nat.le_succ _)))
          clear hown4 hb4
          go_wp2
          exact ⟨⟨j + 1, by omega, by go_num, by rw [hds.out]; exact HOWN4.out, HBK4.out, HBEL4.out⟩, by simp [intOf]; omega⟩
      · obtain rfl : j = n := by omega
        obtain ⟨A, c, hv, hr, _, _⟩ := own_rd hown
        subst hv
        have hcv := fun (W : World) (h : Rb W A (dot (l.take j))) => run_str (P := Tryd.prog) (src := 40) (dst := 9) (w := W) Tryd.underlying40 Tryd.underlying5 Tryd.underlying9 h c
        have hcv := hcv wr ⟨hr, dot_all _⟩
        clear hown hbk hbel hr
        go_wp2
        go_ret
        rw [HT.out]
        exact ⟨rfl, HBEL.out⟩
  · have HT : Hid (txO n l = [63]) := Lib.hid (if_neg (by rw [hc]; decide))
    have HC := Lib.hid hc
    clear hc h32
    go_wp2_with (refine wpList_load25 rfl (.tmp 1) rfl rfl S.out HL.out ?_)
    refine (check_any n l _ HO.out).mono ?_
    rw [HC.out]
    rintro e w2 ⟨rfl, hb⟩
    have B2 := bt B0 (Lib.hid hb)
    clear hb
    go_wp2
    go_ret
    rw [HT.out]
    exact ⟨rfl, B2.out⟩
end Go.Proofs.YtndamidmgglneaaDoor
