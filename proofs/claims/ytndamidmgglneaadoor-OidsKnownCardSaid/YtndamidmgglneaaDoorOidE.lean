/-
  The order of OIDs: contracts of slices.Compare, slices.Equal, Compare and Has, and of the reference's Compare.
  Conditions: the OID's cells are in their kinds.
-/
import Derived.Test.YtndamidmgglneaaDoorOidD
namespace Go.Proofs.YtndamidmgglneaaDoor
open Go.RowKit

/-- The order of two lists. -/
def cmpL : List Nat → List Nat → Int
  | [], [] => 0
  | [], _ :: _ => -1
  | _ :: _, [] => 1
  | a :: l, b :: k => if a < b then -1 else if b < a then 1 else cmpL l k
theorem cmpL_nil_r (l : List Nat) : cmpL l [] = if l.length = 0 then 0 else 1 := by cases l <;> simp [cmpL]
theorem cmpL_nil_l (l : List Nat) : cmpL [] l = if l.length = 0 then 0 else -1 := by cases l <;> simp [cmpL]
theorem cmpL_drop {l k : List Nat} {j : Nat} (h1 : j < l.length) (h2 : j < k.length) : cmpL (l.drop j) (k.drop j) = if l[j] < k[j] then -1 else if k[j] < l[j] then 1 else cmpL (l.drop (j + 1)) (k.drop (j + 1)) := by
  rw [List.drop_eq_getElem_cons h1, List.drop_eq_getElem_cons h2]; rfl
def cmp1 (a b : Nat) : Int := if a < b then -1 else if b < a then 1 else 0
theorem isnan_any (a : Nat) (w : World) : Calls Tryd.prog 47 #[.int .u32 (a : Int)] w fun e w' => e = .returned (.bool false) ∧ w = w' := by
  go_enter Tryd.func47, Tryd.ntmps47
  go_wp2
  go_ret
  exact ⟨rfl, rfl⟩
theorem cmp_any (a b : Nat) (w : World) : Calls Tryd.prog 35 #[.int .u32 (a : Int), .int .u32 (b : Int)] w fun e w' => e = .returned (.int .i64 (cmp1 a b)) ∧ w = w' := by
  rcases Nat.lt_trichotomy a b with h | h | h
  · rw [show cmp1 a b = -1 from if_pos h]
    go_enter Tryd.func35, Tryd.ntmps35
    go_wp2_with (go_at_call 47; refine (isnan_any _ _).mono ?_; rintro e w' ⟨rfl, rfl⟩)
    go_ret
    exact ⟨rfl, rfl⟩
  · subst h
    rw [show cmp1 a a = 0 by simp [cmp1]]
    go_enter Tryd.func35, Tryd.ntmps35
    go_wp2_with (go_at_call 47; refine (isnan_any _ _).mono ?_; rintro e w' ⟨rfl, rfl⟩)
    go_ret
    exact ⟨rfl, rfl⟩
  · rw [show cmp1 a b = 1 by unfold cmp1; rw [if_neg (by omega), if_pos h]]
    go_enter Tryd.func35, Tryd.ntmps35
    go_wp2_with (go_at_call 47; refine (isnan_any _ _).mono ?_; rintro e w' ⟨rfl, rfl⟩)
    go_ret
    exact ⟨rfl, rfl⟩

set_option maxRecDepth 100000 in
set_option maxHeartbeats 1000000 in
theorem scompare_any (A B : Option Addr) (l k : List Nat) (c d : Nat) (w : World) (hl : l.length ≤ 16) (hk : k.length ≤ 16) (hA : R32 w A l) (hB : R32 w B k) :
    Calls Tryd.prog 24 #[.slice A l.length c, .slice B k.length d] w fun e w' => e = .returned (.int .i64 (cmpL l k)) ∧ w = w' := by
  go_enter Tryd.func24, Tryd.ntmps24
  go_wp2
  go_loop [5, 6, 7, 8, 11] (fun _ _ _ _ i => ∃ j : Nat, j ≤ l.length ∧ j ≤ k.length ∧ i = .int .i64 (j : Int) ∧ cmpL l k = cmpL (l.drop j) (k.drop j)) (fun _ _ _ _ i => l.length - (intOf i).toNat)
  case atStart => exact ⟨0, by omega, by omega, rfl, rfl⟩
  case round =>
    obtain ⟨j, hj1, hj2, rfl, hc⟩ := hrel
    have HC := Lib.hid hc
    clear hc
    rcases Nat.lt_or_ge j l.length with h1 | h1
    · obtain ⟨b, off, rfl, hb, hx⟩ := hA.at_ h1
      rcases Nat.lt_or_ge j k.length with h2 | h2
      · obtain ⟨b', off', rfl, hb', hy⟩ := hB.at_ h2
        have HD := Lib.hid (cmpL_drop h1 h2)
        generalize l[j] = x at *
        generalize k[j] = y at *
        clear hA hB
        obtain ⟨r, hr⟩ : ∃ r, cmp1 x y = r := ⟨_, rfl⟩
        have HR := Lib.hid hr
        rcases Nat.lt_trichotomy x y with h | h | h
        · have HE : Hid (cmpL l k = r) := Lib.hid (by rw [HC.out, HD.out, ← HR.out, if_pos h, cmp1, if_pos h])
          have hr0 : (r != 0) = true := by rw [← hr, cmp1, if_pos h]; rfl
          clear hr
          go_wp2_with (go_at_call 35; refine (cmp_any _ _ _).mono ?_; rintro e w' ⟨rfl, rfl⟩; rw [HR.out])
          go_ret
          exact ⟨by rw [HE.out]; rfl, rfl⟩
        · have HE : Hid (cmpL l k = cmpL (l.drop (j + 1)) (k.drop (j + 1))) := Lib.hid (by rw [HC.out, HD.out, if_neg (by omega), if_neg (by omega)])
          obtain rfl : r = 0 := by rw [← hr, cmp1, if_neg (by omega), if_neg (by omega)]
          clear hr
          subst h
          go_wp2_with (go_at_call 35; refine (cmp_any _ _ _).mono ?_; rintro e w' ⟨rfl, rfl⟩; rw [HR.out])
          go_round
          case rel => exact ⟨j + 1, by omega, by omega, by go_num, HE.out⟩
          case measure => simp [intOf]; omega
        · have HE : Hid (cmpL l k = r) := Lib.hid (by rw [HC.out, HD.out, ← HR.out, if_neg (by omega), if_pos h, cmp1, if_neg (by omega), if_pos h])
          have hr0 : (r != 0) = true := by rw [← hr, cmp1, if_neg (by omega), if_pos h]; rfl
          clear hr
          go_wp2_with (go_at_call 35; refine (cmp_any _ _ _).mono ?_; rintro e w' ⟨rfl, rfl⟩; rw [HR.out])
          go_ret
          exact ⟨by rw [HE.out]; rfl, rfl⟩
      · have HE : Hid (cmpL l k = 1) := Lib.hid (by rw [HC.out, List.drop_of_length_le h2, cmpL_nil_r, if_neg (by rw [List.length_drop]; omega)])
        go_wp2
        go_ret
        exact ⟨by rw [HE.out]; rfl, rfl⟩
    · obtain rfl : j = l.length := by omega
      rcases Nat.lt_or_ge l.length k.length with h2 | h2
      · have HE : Hid (cmpL l k = -1) := Lib.hid (by rw [HC.out, List.drop_of_length_le (Nat.le_refl _), cmpL_nil_l, if_neg (by rw [List.length_drop]; omega)])
        go_wp2
        go_ret
        exact ⟨by rw [HE.out]; rfl, rfl⟩
      · have HE : Hid (cmpL l k = 0) := Lib.hid (by rw [HC.out, List.drop_of_length_le (Nat.le_refl _), List.drop_of_length_le h2]; rfl)
        go_wp2
        go_ret
        exact ⟨by rw [HE.out]; rfl, rfl⟩
set_option maxRecDepth 100000 in
set_option maxHeartbeats 1000000 in
theorem sequal_any (A B : Option Addr) (l k : List Nat) (c d : Nat) (w : World) (hl : l.length ≤ 16) (hk : k.length ≤ 16) (hA : R32 w A l) (hB : R32 w B k) :
    Calls Tryd.prog 26 #[.slice A l.length c, .slice B k.length d] w fun e w' => e = .returned (.bool (decide (l = k))) ∧ ∃ n, w' = w.drewN n := by
  by_cases hlk : l.length = k.length
  · have HL := Lib.hid hlk
    have hlb : ((l.length : Int) != (k.length : Int)) = false := by rw [bne_eq_false_iff_eq]; omega
    clear hlk
    go_enter Tryd.func26, Tryd.ntmps26
    go_wp2
    clear hlb
    go_loopw [5, 13] (fun _ i wr => ∃ j n : Nat, j ≤ l.length ∧ i = .int .i64 (j : Int) ∧ l.take j = k.take j ∧ wr = w.drewN n) (fun _ i _ => l.length - (intOf i).toNat)
    case atStart => exact ⟨0, 0, by omega, rfl, rfl, rfl⟩
    case round =>
      obtain ⟨j, n, hj, rfl, hc, rfl⟩ := hrel
      have HC := Lib.hid hc
      clear hc
      rcases Nat.lt_or_ge j l.length with h1 | h1
      · have h2 : j < k.length := by have := HL.out; omega
        obtain ⟨b, off, rfl, hb, hx⟩ := hA.at_ h1
        obtain ⟨b', off', rfl, hb', hy⟩ := hB.at_ h2
        have T1 := Lib.hid (List.take_succ_eq_append_getElem h1)
        have T2 := Lib.hid (List.take_succ_eq_append_getElem h2)
        have N1 := Lib.hid (show l[j] ≠ k[j] → l ≠ k from fun h e => h (by subst e; rfl))
        generalize l[j] = x at *
        generalize k[j] = y at *
        clear hA hB
        by_cases h : x = y
        · subst h
          have hb0 : ((x : Int) != (x : Int)) = false := by rw [bne_eq_false_iff_eq]
          go_wp2
          go_quiet (fail)
          go_wp2
          exact ⟨⟨j + 1, _, by omega, by go_num, by rw [T1.out, T2.out, HC.out], rfl⟩, by simp [intOf]; omega⟩
        · have hb0 : ((x : Int) != (y : Int)) = true := by rw [bne_iff_ne]; omega
          have HN : Hid (decide (l = k) = false) := Lib.hid (decide_eq_false (N1.out h))
          clear h
          go_wp2
          go_quiet (fail)
          go_wp2
          go_ret
          exact ⟨by rw [HN.out]; rfl, _, World.drewN_drewN _ _ _⟩
      · obtain rfl : j = l.length := by omega
        have HN : Hid (decide (l = k) = true) := Lib.hid (decide_eq_true (by have := HC.out; rwa [List.take_length, HL.out, List.take_length] at this))
        go_wp2
        go_ret
        exact ⟨by rw [HN.out]; rfl, _, rfl⟩
  · rw [show decide (l = k) = false from decide_eq_false (fun h => hlk (congrArg List.length h))]
    have hb : decide (l.length = k.length) = false := decide_eq_false hlk
    have hb2 : ((l.length : Int) != (k.length : Int)) = true := by rw [bne_iff_ne]; omega
    go_enter Tryd.func26, Tryd.ntmps26
    go_wp2
    go_ret
    exact ⟨rfl, 0, rfl⟩

/-- The walk's step at a guarded load of a whole OID whose guard says yes. -/
theorem wpList_load25g {ops : Array Oper} {rest : List Oper} {o : Oper} {a : Act} {w : World} {Q : Exit → Act → World → Prop} (hw : Region.wanted o (yielded ops a.tmps) = true) (x : Operand) (ho : o.op = .load 26 x)
    {g n : Nat} {l : List Nat} (hx : a.eval x = .pointer (some ⟨g, 0, none⟩)) (hg : Bk w g 26 (oc n l)) (hl : l.length = 16) (h : wpList Tryd.prog ops Q rest (a.put o.dst (oV n l)) w) : wpList Tryd.prog ops Q (o :: rest) a w :=
  BigFrame.wpList_want hw fun _ hK => wp_load_mid _ x ho g 0 hx (oc n l) _ (range25 hg) Tryd.underlying26 rfl (by rw [oc_length, hl]; exact info25) (hK _ _ h)
theorem r32_arr {w : World} {g n : Nat} {t : TypeId} {l : List Nat} (h : Bk w g t (oc n l)) (j : Nat) : R32 w (some ⟨g, 1, none⟩) (l.take j) := by
  have := (h.rd 1).take_ j
  unfold R32 cs32
  rw [List.map_take]
  exact this
theorem sequal_q (g g' n : Nat) (l k : List Nat) (b : Bool) (w : World) (hb : decide (l.take n = k.take n) = b) (hl : l.length = 16) (hk : k.length = 16) (hn : n ≤ 16) (hA : R32 w (some ⟨g, 1, none⟩) (l.take n)) (hB : R32 w (some ⟨g', 1, none⟩) (k.take n)) :
    Calls Tryd.prog 26 #[.slice (some ⟨g, 1, none⟩) n 16, .slice (some ⟨g', 1, none⟩) n 16] w fun e w' => e = .returned (.bool b) ∧ ∃ m, w' = w.drewN m := by
  have h1 : (l.take n).length = n := by rw [List.length_take]; omega
  have h2 : (k.take n).length = n := by rw [List.length_take]; omega
  have := sequal_any _ _ (l.take n) (k.take n) 16 16 w (by omega) (by omega) hA hB
  rw [h1, h2, hb] at this
  exact this
def hasO (n : Nat) (l : List Nat) (m : Nat) (k : List Nat) : Bool := decide (chkO n l = 0) && decide (chkO m k = 0) && decide (n < m) && decide (l.take n = k.take n)
theorem chkO_01 (n : Nat) (l : List Nat) : chkO n l = 0 ∨ chkO n l = 1 := by unfold chkO; split <;> simp
theorem chkO_n {n : Nat} {l : List Nat} (h : chkO n l = 0) : 2 ≤ n ∧ n ≤ 16 := by
  unfold chkO at h; split at h
  · omega
  · cases h
theorem bt {a b c : World} (h1 : Hid (Below a.heap.size a b)) (h2 : Hid (Below b.heap.size b c)) : Hid (Below a.heap.size a c) := Lib.hid (h1.out.trans (h2.out.mono h1.out.size))
theorem rt {a b : World} {A : Option Addr} {l : List Nat} (h : Hid (Rb a A l)) (h2 : Hid (Below a.heap.size a b)) : Hid (Rb b A l) := Lib.hid (h.out.below h2.out)
theorem kt {a b : World} {g : Nat} {t : TypeId} {cs : List Value} (h : Hid (Bk a g t cs)) (h2 : Hid (Below a.heap.size a b)) : Hid (Bk b g t cs) := Lib.hid (h.out.below h2.out h.out.lt)

set_option maxRecDepth 100000 in
set_option maxHeartbeats 2000000 in
theorem has_any (n : Nat) (l : List Nat) (m : Nat) (k : List Nat) (w : World) (ho : OkO n l) (hp : OkO m k) :
    Calls Tryd.prog 12 #[oV n l, oV m k] w fun e w' => e = .returned (.bool (hasO n l m k)) ∧ Below w.heap.size w w' := by
  have hl := ho.len
  have hk := hp.len
  have S1 := Lib.hid ((Bk.new w 26 (oc n l)).alloc (.cells (oc m k).toArray 26))
  have S2' := Bk.new (w.alloc (.cells (oc n l).toArray 26)) 26 (oc m k)
  rw [World.size_alloc] at S2'
  have S2 := Lib.hid S2'
  clear S2'
  have B0 := Lib.hid ((bel1 w (.cells (oc n l).toArray 26)).alloc (by simp) (.cells (oc m k).toArray 26))
  obtain ⟨r, hr⟩ : ∃ r, hasO n l m k = r := ⟨_, rfl⟩
  rw [hr]
  have HR := Lib.hid hr
  have HO := Lib.hid ho
  have HP := Lib.hid hp
  have HL := Lib.hid hl
  have HK := Lib.hid hk
  clear hr ho hp hl hk
  go_enter Tryd.func12, Tryd.ntmps12
  go_upto_region 1 with fail
  generalize (w.alloc (.cells (oc n l).toArray 26)).alloc (.cells (oc m k).toArray 26) = w1 at *
  rcases chkO_01 n l with hc | hc
  · have HC := Lib.hid hc
    clear hc
    go_wp2_with (refine wpList_load25 rfl (.tmp 2) rfl rfl S1.out HL.out ?_)
    refine (check_any n l _ HO.out).mono ?_
    rw [HC.out]
    rintro e w2 ⟨rfl, hb⟩
    have B2 := bt B0 (Lib.hid hb)
    have T1 := kt S1 (Lib.hid hb)
    have T2 := kt S2 (Lib.hid hb)
    clear hb B0 S1 S2
    rcases chkO_01 m k with hd | hd
    · have HD := Lib.hid hd
      clear hd
      go_wp2_with (refine wpList_load25g (by rfl) (.tmp 3) rfl rfl T2.out HK.out ?_)
      refine (check_any m k _ HP.out).mono ?_
      rw [HD.out]
      rintro e w3 ⟨rfl, hb⟩
      have B3 := bt B2 (Lib.hid hb)
      have U1 := kt T1 (Lib.hid hb)
      have U2 := kt T2 (Lib.hid hb)
      clear hb B2 T1 T2
      go_upto_region 3 with fail
      have c1 := oid_n U1.out
      have c2 := oid_n U2.out
      have hn8 := (chkO_n HC.out).2
      have hr1 : hasO n l m k = (decide (n < m) && decide (l.take n = k.take n)) := by unfold hasO; rw [HC.out, HD.out]; rfl
      have q1 := slice23h w.heap.size n hn8 .u8
      have q2 := slice23h (w.heap.size + 1) n hn8 .u8
      rw [HR.out] at hr1
      rcases Nat.lt_or_ge n m with hnm | hnm
      · have hd1 : decide (n < m) = true := decide_eq_true hnm
        rw [hd1, Bool.true_and] at hr1
        have HR1 := Lib.hid hr1.symm
        clear hr1
        go_quiet ((go_at_call 26; exact Calls.quiet_of (sequal_q _ _ n l k r _ HR1.out HL.out HK.out hn8 (r32_arr U1.out n) (r32_arr U2.out n))))
        go_wp2
        go_ret
        exact ⟨rfl, bel_drewN B3.out _⟩
      · have hd1 : decide (n < m) = false := decide_eq_false (by omega)
        rw [hd1, Bool.false_and] at hr1
        subst hr1
        go_quiet (fail)
        go_wp2
        go_ret
        exact ⟨rfl, bel_drewN B3.out _⟩
    · have HD := Lib.hid hd
      obtain rfl : r = false := by rw [← HR.out, hasO, hd]; cases decide (chkO n l = 0) <;> rfl
      clear hd
      go_wp2_with (refine wpList_load25g (by rfl) (.tmp 3) rfl rfl T2.out HK.out ?_)
      refine (check_any m k _ HP.out).mono ?_
      rw [HD.out]
      rintro e w3 ⟨rfl, hb⟩
      have B3 := bt B2 (Lib.hid hb)
      clear hb
      go_wp2
      go_ret
      exact ⟨rfl, B3.out⟩
  · have HC := Lib.hid hc
    obtain rfl : r = false := by rw [← HR.out, hasO, hc]; rfl
    clear hc
    go_wp2_with (refine wpList_load25 rfl (.tmp 2) rfl rfl S1.out HL.out ?_)
    refine (check_any n l _ HO.out).mono ?_
    rw [HC.out]
    rintro e w2 ⟨rfl, hb⟩
    have B2 := bt B0 (Lib.hid hb)
    clear hb
    go_wp2
    go_ret
    exact ⟨rfl, B2.out⟩
end Go.Proofs.YtndamidmgglneaaDoor
