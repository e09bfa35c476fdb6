/-
  The reference of layer 7: the contract of Parse.
  Conditions: the string has at most 250 bytes.
-/
import Derived.Test.YtaiiihdckdjpoaaGreatDoorOgI
import Derived.Test.YtaiiihdckdjpoaaGreatDoorOgH
import Derived.Test.YtaiiihdckdjpoaaGreatDoorOidPz
namespace Go.Proofs.YtaiiihdckdjpoaaGreatDoor
open Go.RowKit

/-! ### Pure -/
theorem insW_short {l : List Nat} (h : l.length < 2) : insW l = ([], 6) := by
  unfold insW
  rw [if_neg]
  rintro ⟨h1, h2⟩
  match l, h with
  | [], _ => cases h1
  | [x], _ =>
    have e : tP [x] = [] := by unfold tP; rw [if_pos h1]; rfl
    rw [e] at h2
    cases h2
theorem insW_head {x : Nat} {r : List Nat} (h : x ≠ 123) : insW (x :: r) = ([], 6) := by
  unfold insW
  rw [if_neg]
  rintro ⟨h1, -⟩
  unfold opP at h1
  simp at h1
  exact h h1
theorem opP_123 (r : List Nat) : opP (123 :: r) = true := rfl
theorem tP_123 (r : List Nat) : tP (123 :: r) = r := by unfold tP; rw [if_pos (opP_123 r)]; rfl
theorem insW_last {m : List Nat} {y : Nat} (h : y ≠ 125) : insW (123 :: (m ++ [y])) = ([], 6) := by
  unfold insW
  rw [if_neg]
  rintro ⟨-, h2⟩
  rw [tP_123] at h2
  unfold clP at h2
  simp at h2
  exact h h2
theorem insW_in (m : List Nat) : insW (123 :: (m ++ [125])) = if m = [] then ([], 0) else if (splitS m).all nE = true then (m, 0) else ([], 6) := by
  have h1 : clP (m ++ [125]) = true := by unfold clP; simp
  have h2 : tS (m ++ [125]) = m := by unfold tS; rw [if_pos h1, List.dropLast_concat]
  unfold insW
  rw [tP_123, if_pos ⟨opP_123 _, h1⟩, h2]
theorem prsW_bad {l : List Nat} (h : insW l = ([], 6)) : prsW l = ([], 6) := by
  unfold prsW
  rw [h]
  rfl
theorem splitS_stop {l : List Nat} {f k : Nat} (h : f ≤ k) (hk : k < l.length) (hn : 32 ∉ sg l f k) (hc : l[k] = 32) : splitS (l.drop f) = sg l f k :: splitS (l.drop (k + 1)) := by
  rw [sg_drop h (Nat.le_of_lt hk), List.drop_eq_getElem_cons hk, hc, splitS_at _ hn]
theorem splitS_end {l : List Nat} {f : Nat} (h : f ≤ l.length) (hn : 32 ∉ sg l f l.length) : splitS (l.drop f) = [sg l f l.length] := by
  conv => lhs; rw [sg_drop h (Nat.le_refl _)]
  rw [List.drop_length, List.append_nil, splitS_none hn]
theorem splitS_len (l : List Nat) : (splitS l).length ≤ l.length + 1 := by
  induction l with
  | nil => rw [splitS]; simp
  | cons c l ih =>
    rw [splitS]
    split
    · simp; omega
    · simp; omega
theorem prsW_in {m : List Nat} (h : m ≠ []) (hl : m.length ≤ 250) (ha : (splitS m).all nE = true) : prsW (123 :: (m ++ [125])) =
    if frE (splitS m) ≠ 0 then ([], frE (splitS m)) else if chkW ((splitS m).map odO) ≠ 0 then ([], chkW ((splitS m).map odO)) else ((splitS m).map odO, 0) := by
  have e : insW (123 :: (m ++ [125])) = (m, 0) := by rw [insW_in, if_neg h, if_pos ha]
  have hk : kq (splitS m) = (splitS m).map odO := by
    unfold kq
    rw [List.take_of_length_le]
    rw [List.length_map]
    have := splitS_len m
    omega
  unfold prsW
  rw [e]
  dsimp only
  rw [if_neg (by simp), if_neg h, hk]
theorem sg_mid {m : List Nat} {f k : Nat} (hk : k ≤ m.length) : sg (123 :: (m ++ [125])) (f + 1) (k + 1) = sg m f k := by
  unfold sg
  rw [List.drop_succ_cons, show k + 1 - (f + 1) = k - f by omega]
  by_cases hf : f ≤ m.length
  · rw [List.drop_append_of_le_length hf, List.take_append_of_le_length (by rw [List.length_drop]; omega)]
  · rw [show k - f = 0 by omega]; simp

/-- Words as cells. -/
def scs (ps : List (List Nat)) : List Value := ps.map fun p => .string (bstr p)
theorem scs_len (ps : List (List Nat)) : (scs ps).length = ps.length := by unfold scs; rw [List.length_map]
theorem scs_snoc (ps : List (List Nat)) (p : List Nat) : scs (ps ++ [p]) = scs ps ++ [.string (bstr p)] := by unfold scs; rw [List.map_append]; rfl
theorem appW {w : World} {base : Nat} {v : Value} {ps : List (List Nat)} (hown : w.ownsRow base 9 1 v ps.length (scs ps)) (p : List Nat) (hb : base ≤ w.heap.size) (hl : ps.length ≤ 1000000) :
    ∃ v' w', (Builtin.append_ #[59, 59] 59 #[v, .slice (some ⟨w.heap.size, 0, none⟩) 1 1]).run Tryz.prog (w.alloc (.cells #[.string (bstr p)] 9)) = .ok v' w' ∧ w'.ownsRow base 9 1 v' (ps ++ [p]).length (scs (ps ++ [p])) ∧ Below base w w' := by
  rw [← scs_len] at hown
  obtain ⟨v', w', h1, h2, h3⟩ := app_one (P := Tryz.prog) (ty := 59) Tryz.underlying59 infoS rfl hown (.string (bstr p)) rfl hb (by rw [scs_len]; omega) (by rw [scs_len]; unfold maxLen; omega)
  refine ⟨v', w', h1, ?_, h3⟩
  rw [← scs_len, scs_snoc]
  exact h2

/-- What stands between two rounds of the first loop. -/
structure PS (w : World) (m : List Nat) (pre : List (List Nat)) (f k : Nat) (v : Value) (wr : World) : Prop where
  il : k ≤ m.length + 1
  fi : f ≤ k
  pl : pre.length ≤ f
  ne : pre.all nE = true
  own : wr.ownsRow w.heap.size 9 1 v pre.length (scs pre)
  bel : Below w.heap.size w wr
  dig : k ≤ m.length → 32 ∉ sg m f k ∧ splitS m = pre ++ splitS (m.drop f)
  fin : k = m.length + 1 → splitS m = pre
theorem PS.more {w wr : World} {m : List Nat} {pre : List (List Nat)} {f k : Nat} {v : Value} (h : PS w m pre f k v wr) (hk : k < m.length) (hd : m[k] ≠ 32) : PS w m pre f (k + 1) v wr :=
  ⟨by omega, by have := h.fi; omega, h.pl, h.ne, h.own, h.bel, fun _ => ⟨by
    rw [sg_next h.fi hk, List.mem_append, List.mem_singleton]
    rintro (h1 | h1)
    · exact (h.dig (by omega)).1 h1
    · exact hd h1.symm, (h.dig (by omega)).2⟩, fun e => by omega⟩
theorem PS.piece {w wr : World} {m : List Nat} {pre : List (List Nat)} {f k : Nat} {v : Value} (h : PS w m pre f k v wr) (hk : k ≤ m.length) (hc : ∀ h : k < m.length, m[k] = 32) : ∃ r, splitS m = pre ++ sg m f k :: r := by
  obtain ⟨h1, h2⟩ := h.dig hk
  by_cases hk2 : k < m.length
  · exact ⟨_, by rw [h2, splitS_stop h.fi hk2 h1 (hc hk2)]⟩
  · obtain rfl : k = m.length := by omega
    exact ⟨[], by rw [h2, splitS_end h.fi h1]⟩
theorem PS.bad {w wr : World} {m : List Nat} {pre : List (List Nat)} {f k : Nat} {v : Value} (h : PS w m pre f k v wr) (hk : k ≤ m.length) (hc : ∀ h : k < m.length, m[k] = 32) (hf : k = f) (hm : m ≠ []) : prsW (123 :: (m ++ [125])) = ([], 6) := by
  obtain ⟨r, e⟩ := h.piece hk hc
  apply prsW_bad
  rw [insW_in, if_neg hm, if_neg]
  rw [e, List.all_append, List.all_cons, hf, sg_self]
  simp [nE]
theorem PS.ends {w wr : World} {m : List Nat} {pre : List (List Nat)} {f k : Nat} {v v2 : Value} {w2 : World} (h : PS w m pre f k v wr) (hk : k ≤ m.length) (hc : ∀ h : k < m.length, m[k] = 32) (hf : k ≠ f)
    (hown : w2.ownsRow w.heap.size 9 1 v2 (pre ++ [sg m f k]).length (scs (pre ++ [sg m f k]))) (hb : Below w.heap.size wr w2) : PS w m (pre ++ [sg m f k]) (k + 1) (k + 1) v2 w2 := by
  have hfk := h.fi
  obtain ⟨h1, h2⟩ := h.dig hk
  refine ⟨by omega, Nat.le_refl _, by have := h.pl; simp; omega, ?_, hown, h.bel.trans hb, fun hk2 => ⟨by rw [sg_self]; simp, ?_⟩, fun e => ?_⟩
  · rw [List.all_append, h.ne, List.all_cons, List.all_nil]
    have : sg m f k ≠ [] := fun e => by
      have := congrArg List.length e
      rw [sg_len hfk hk] at this
      simp at this
      omega
    simp [nE, this]
  · have hk3 : k < m.length := by omega
    rw [h2, splitS_stop hfk hk3 h1 (hc hk3), List.append_assoc]; rfl
  · obtain rfl : k = m.length := by omega
    rw [h2, splitS_end hfk h1]
/-- A set that the reference's Parse answers. -/
def GivePr (w : World) (r : List Od × Nat) (e : Ending) (w' : World) : Prop :=
  ∃ A c, e = .returned (.tuple #[.slice A r.1.length c, .int .i64 ((r.2 : Nat) : Int)]) ∧ Ino w' A r.1 r.1.length c ∧ Below w.heap.size w w'
theorem Ino.none (w : World) : Ino w none [] 0 0 := ⟨RdO.nil, rfl, Nat.le_refl _, by unfold maxLen; omega⟩
theorem mid_of {l : List Nat} (h2 : 2 ≤ l.length) (h0 : l[0] = 123) : ∃ m y, l = 123 :: (m ++ [y]) ∧ l[l.length - 1]'(by omega) = y := by
  match l, h2 with
  | x :: r, h2 =>
    obtain rfl : x = 123 := h0
    have hr : r ≠ [] := by intro e; subst e; simp at h2
    refine ⟨r.dropLast, r.getLast hr, by rw [List.dropLast_concat_getLast hr], ?_⟩
    rw [List.getLast_eq_getElem, List.getElem_cons, dif_neg (by simp; intro e; simp [e] at h2)]
    congr 1

theorem bad_head {l : List Nat} (hp : 0 < l.length) (h0 : l[0] ≠ 123) : prsW l = ([], 6) := by
  match l, hp with
  | x :: r, _ => exact prsW_bad (insW_head h0)
set_option maxRecDepth 100000 in
set_option maxHeartbeats 4000000 in
theorem rparseW_any (l : List Nat) (h8 : All8 l) (hl : l.length ≤ 250) (w : World) :
    Calls Tryz.prog 34 #[.string (bstr l)] w (GivePr w (prsW l)) := by
  have HZL := Lib.hid zeroL_length
  have HIX := Lib.hid (fun j hj W => idx_str l h8 j hj W)
  rcases Nat.lt_or_ge l.length 2 with h2 | h2
  · have HT := Lib.hid (prsW_bad (insW_short h2))
    have h2i : (l.length : Int) < 2 := by omega
    have hsz : (bstr l).size = l.length := bstr_size l
    generalize bstr l = S at *
    clear h8 HIX
    go_enter Tryz.func34, Tryz.ntmps34
    go_wp2_with fail
    go_ret2
    rw [HT.out]
    exact ⟨none, 0, rfl, Ino.none _, Below.refl _ _⟩
  have h2i : ¬ (l.length : Int) < 2 := by omega
  have hp0 : 0 < l.length := by omega
  have hi0 : ∀ W, (Instr.index 9 (.string (bstr l)) (.int .i64 0)).run Tryz.prog W = .ok (.int .u8 (l[0] : Int)) W := HIX.out 0 hp0
  by_cases h0 : l[0] = 123
  rotate_left
  · have HT : Hid (prsW l = ([], 6)) := Lib.hid (bad_head hp0 h0)
    have hy8 := h8.get hp0
    have hsz : (bstr l).size = l.length := bstr_size l
    clear h8 HIX
    generalize bstr l = S at *
    generalize l[0] = y at *
    have h0i : ¬ (y : Int) = 123 := by omega
    clear h0
    go_enter Tryz.func34, Tryz.ntmps34
    go_wp2_with fail
    go_ret2
    rw [HT.out]
    exact ⟨none, 0, rfl, Ino.none _, Below.refl _ _⟩
  rw [h0] at hi0
  replace hi0 : ∀ W, (Instr.index 9 (.string (bstr l)) (.int .i64 0)).run Tryz.prog W = .ok (.int .u8 123) W := hi0
  obtain ⟨m, y, hm, hy⟩ := mid_of h2 h0
  have hlt1 : l.length - 1 < l.length := by omega
  have hil := HIX.out (l.length - 1) hlt1
  rw [hy] at hil
  have hy8 : y < 256 := by rw [← hy]; exact h8.get _
  have hwl : ((l.length : Int) - 1) = ((l.length - 1 : Nat) : Int) := by omega
  by_cases hy125 : y = 125
  rotate_left
  · have HT := Lib.hid (show prsW l = ([], 6) by rw [hm]; exact prsW_bad (insW_last hy125))
    have hsz : (bstr l).size = l.length := bstr_size l
    clear h8 HIX h0 hm hy hlt1
    generalize l.length - 1 = n1 at *
    generalize bstr l = S at *
    have h0i : ¬ (y : Int) = 125 := by omega
    clear hy125
    go_enter Tryz.func34, Tryz.ntmps34
    go_wp2_with fail
    go_ret2
    rw [HT.out]
    exact ⟨none, 0, rfl, Ino.none _, Below.refl _ _⟩
  subst hy125
  replace hil : ∀ W, (Instr.index 9 (.string (bstr l)) (.int .i64 ((l.length - 1 : Nat) : Int))).run Tryz.prog W = .ok (.int .u8 125) W := hil
  by_cases hme : m = []
  · have HT := Lib.hid (show prsW l = ([], 0) by rw [hm, hme]; rfl)
    have hl2 : l.length = 2 := by rw [hm, hme]; rfl
    have hsz : (bstr l).size = l.length := bstr_size l
    clear h8 HIX h0 hm hy hlt1
    rw [hl2] at hil hwl hsz
    replace hil : ∀ W, (Instr.index 9 (.string (bstr l)) (.int .i64 1)).run Tryz.prog W = .ok (.int .u8 125) W := hil
    generalize bstr l = S at *
    go_enter Tryz.func34, Tryz.ntmps34
    go_wp2_with fail
    go_ret2
    rw [HT.out]
    exact ⟨none, 0, rfl, Ino.none _, Below.refl _ _⟩
  have hml : l.length = m.length + 2 := by rw [hm]; simp
  obtain ⟨N, hN⟩ : ∃ N, m.length = N := ⟨_, rfl⟩
  have hNp : 1 ≤ N := by
    rw [← hN]
    exact List.length_pos_iff.2 hme
  have hm8 : All8 m := fun x hx => h8 x (by rw [hm]; simp [hx])
  have HAT : Hid (∀ k (hk : k < m.length), ∀ W, (Instr.index 9 (.string (bstr l)) (.int .i64 ((k + 1 : Nat) : Int))).run Tryz.prog W = .ok (.int .u8 (m[k] : Int)) W) := Lib.hid (fun k hk W => by
    have := HIX.out (k + 1) (by omega) W
    rw [this]
    congr 3
    simp only [hm, List.getElem_cons_succ]
    rw [List.getElem_append_left hk])
  have HEX : Hid (∀ f k, f ≤ k → k ≤ m.length → (bstr l).extract (f + 1) (k + 1) = bstr (sg m f k)) := Lib.hid (fun f k hfk hk => by
    rw [bstr_extract, ← sg_mid hk, ← hm]
    unfold sg
    rw [← List.drop_take])
  have HM := Lib.hid hm
  have HN := Lib.hid hN
  have HME := Lib.hid hme
  have HM8 := Lib.hid hm8
  have hN250 : N ≤ 248 := by omega
  have hsz : (bstr l).size = l.length := bstr_size l
  rw [hml, hN] at hsz hwl h2i
  rw [hml, hN] at hil
  clear hm hml hme hm8 h8 HIX h0 hy h2 hl hlt1
  generalize bstr l = S at *
  rw [HM.out]
  clear hp0
  obtain ⟨T, hT⟩ : ∃ T, prsW (123 :: (m ++ [125])) = T := ⟨_, rfl⟩
  rw [hT]
  have HT := Lib.hid hT
  clear hT
  have hn2 : (((N + 2 : Nat) : Int) == 2) = false := by rw [beq_eq_false_iff_ne]; omega
  obtain ⟨n, hn⟩ : ∃ n, N + 2 = n := ⟨_, rfl⟩
  have hn1 : N + 2 - 1 = N + 1 := by omega
  rw [hn1] at hil hwl
  rw [hn] at hsz hwl h2i hn2
  clear hn1
  obtain ⟨n1, hn1⟩ : ∃ n1, N + 1 = n1 := ⟨_, rfl⟩
  rw [hn1] at hil hwl
  go_enter Tryz.func34, Tryz.ntmps34
  go_upto_region 9 with fail
  go_loopw [5, 6, 7] (fun v f i wr => ∃ (pre : List (List Nat)) (p j fp k : Nat), f = .int .i64 (p : Int) ∧ i = .int .i64 (j : Int) ∧ p = fp + 1 ∧ j = k + 1 ∧ PS w m pre fp k v wr) (fun _ _ i _ => n + 1 - (intOf i).toNat)
  case atStart => exact ⟨[], 1, 1, 0, 0, rfl, rfl, rfl, rfl, ⟨by omega, Nat.le_refl _, Nat.le_refl _, rfl, World.ownsRow_nil _ _ _ _, Below.refl _ _, fun _ => ⟨by rw [sg_self]; simp, rfl⟩, fun e => by omega⟩⟩
  case round =>
    obtain ⟨pre, p, j, f, k, rfl, rfl, hpf, hjk, hR⟩ := hrel
    have HG := Lib.hid hR
    clear hR
    obtain ⟨Av, cv, hv⟩ := own_form HG.out.own
    subst hv
    have hil2 := HG.out.il
    have hfk := HG.out.fi
    have hpl := HG.out.pl
    rw [HN.out] at hil2
    have HJK := Lib.hid hjk
    have HPF := Lib.hid hpf
    clear hjk hpf
    rcases Nat.lt_or_ge k (N + 1) with hk1 | hk1
    · have hjn : (j : Int) < (n : Int) := by have := HJK.out; omega
      have hkm : k ≤ m.length := by rw [HN.out]; omega
      by_cases hdi : ∃ h : k < m.length, m[k] ≠ 32
      · obtain ⟨hk, h32⟩ := hdi
        have hix := HAT.out k hk
        have HMO := Lib.hid (HG.out.more hk h32)
        have hy8 := HM8.out.get hk
        have hkN : k < N := by rw [← HN.out]; exact hk
        generalize m[k] = y at *
        rw [← HJK.out] at hix
        have hji : ((j : Int) == (n1 : Int)) = false := by have := HJK.out; rw [beq_eq_false_iff_ne]; omega
        have h32i : ((y : Int) == 32) = false := by rw [beq_eq_false_iff_ne]; omega
        clear h32
        go_wp2_with fail
        exact ⟨⟨pre, p, j + 1, f, k + 1, rfl, by go_num, HPF.out, by have := HJK.out; omega, HMO.out⟩, by simp [intOf]; omega⟩
      · have hc : ∀ h : k < m.length, m[k] = 32 := fun h => Classical.byContradiction fun e => hdi ⟨h, e⟩
        have HC := Lib.hid hc
        clear hdi
        by_cases hkf : k = f
        · have HE := Lib.hid (HG.out.bad hkm hc hkf HME.out)
          have hjp : j = p := by have := HJK.out; have := HPF.out; omega
          subst hjp
          rcases Nat.lt_or_ge k N with hk | hk
          · have hix := HAT.out k (by rw [HN.out]; exact hk)
            rw [hc (by rw [HN.out]; exact hk), ← HJK.out] at hix
            have hji : ((j : Int) == (n1 : Int)) = false := by have := HJK.out; rw [beq_eq_false_iff_ne]; omega
            clear hc
            go_wp2_with fail
            go_ret2
            rw [← HT.out, HE.out]
            exact ⟨none, 0, rfl, Ino.none _, HG.out.bel⟩
          · have hji : ((j : Int) == (n1 : Int)) = true := by have := HJK.out; rw [beq_iff_eq]; omega
            clear hc
            go_wp2_with fail
            go_ret2
            rw [← HT.out, HE.out]
            exact ⟨none, 0, rfl, Ino.none _, HG.out.bel⟩
        · obtain ⟨v2, w2, hrun, hown2, hb2⟩ := appW HG.out.own (sg m f k) HG.out.bel.size (by omega)
          have HRUN := Lib.hid hrun
          have HEN := Lib.hid (HG.out.ends hkm hc hkf hown2 hb2)
          have hex := HEX.out f k hfk hkm
          rw [← HPF.out, ← HJK.out] at hex
          have hpj : ((j : Int) == (p : Int)) = false := by have := HJK.out; have := HPF.out; rw [beq_eq_false_iff_ne]; omega
          have hpj2 : p ≤ j := by have := HJK.out; have := HPF.out; omega
          have hjsz : (j : Int) ≤ (S.size : Int) := by rw [hsz]; omega
          have hsl : ∀ W, (Instr.slice 9 (.string S) (some (.int .i64 (p : Int))) (some (.int .i64 (j : Int))) none).run Tryz.prog W = .ok (.string (bstr (sg m f k))) W := fun W => by
            rw [run_slice_string (P := Tryz.prog) (w := W) 9 S .i64 .i64 (p : Int) (j : Int) Tryz.underlying9 (by omega) (by omega) hjsz, Int.toNat_natCast, Int.toNat_natCast, hex]
          clear hex hjsz
          generalize bstr (sg m f k) = SW at *
          have HKN : Hid (sg m f k = sg m f k) := Lib.hid rfl
          clear hrun hown2 hb2 hkf
          rcases Nat.lt_or_ge k N with hk | hk
          · have hix := HAT.out k (by rw [HN.out]; exact hk)
            rw [hc (by rw [HN.out]; exact hk), ← HJK.out] at hix
            have hji : ((j : Int) == (n1 : Int)) = false := by have := HJK.out; rw [beq_eq_false_iff_ne]; omega
            clear hc
            go_wp2_with (at_builtin; refine wpList_appO rfl _ _ _ _ rfl _ _ rfl rfl HRUN.out ?_)
            exact ⟨⟨pre ++ [sg m f k], j + 1, j + 1, k + 1, k + 1, by go_num, by go_num, by have := HJK.out; omega, by have := HJK.out; omega, HEN.out⟩, by simp [intOf]; omega⟩
          · have hji : ((j : Int) == (n1 : Int)) = true := by have := HJK.out; rw [beq_iff_eq]; omega
            clear hc
            go_wp2_with (at_builtin; refine wpList_appO rfl _ _ _ _ rfl _ _ rfl rfl HRUN.out ?_)
            exact ⟨⟨pre ++ [sg m f k], j + 1, j + 1, k + 1, k + 1, by go_num, by go_num, by have := HJK.out; omega, by have := HJK.out; omega, HEN.out⟩, by simp [intOf]; omega⟩
    · obtain rfl : k = N + 1 := by omega
      have hfin := HG.out.fin (by rw [HN.out])
      have hji : ¬ (j : Int) < (n : Int) := by have := HJK.out; omega
      have hsp : ∀ x ∈ pre, All8 x ∧ x.length ≤ 250 := fun x hx => by
        rw [← hfin] at hx
        have := splitS_mem hx
        exact ⟨fun c hc => HM8.out c (this.1 c hc), by rw [HN.out] at this; omega⟩
      have HSP := Lib.hid hsp
      have hP := prsW_in HME.out (by rw [HN.out]; omega) (by rw [hfin]; exact HG.out.ne)
      rw [hfin] at hP
      rw [HT.out] at hP
      have HP := Lib.hid hP
      have hown := HG.out.own
      rw [← scs_len pre] at hown
      obtain ⟨A1, c1, e, hrd, -, -⟩ := own_open hown
      rw [scs_len] at e
      injection e with e1 _ e3
      subst e1 e3
      have HRD := Lib.hid hrd
      have HB0 := Lib.hid HG.out.bel
      obtain ⟨Q, hQ⟩ : ∃ Q, pre.length = Q := ⟨_, rfl⟩
      have HQ := Lib.hid hQ
      have hQ250 : Q ≤ 250 := by omega
      rw [hQ]
      clear hfin hsp hP hown hrd hQ hpl HG HAT HEX hil hil2 hfk
      have hz := zero25
      generalize hzl : zeroL = zl at *
      clear hzl
      go_upto_region 18 with fail
      go_loopw [8, 9] (fun v i wx => ∃ q : Nat, q ≤ Q ∧ i = .int .i64 (q : Int) ∧ frE (pre.take q) = 0 ∧ PO wr.heap.size ((pre.take q).map odO) v wx ∧ Below wr.heap.size wr wx) (fun _ i _ => Q - (intOf i).toNat)
      case atStart => exact ⟨0, Nat.zero_le _, rfl, rfl, PO.new wr, Below.refl _ _⟩
      case round =>
        obtain ⟨q, hq, rfl, hfr, hpo, hbl⟩ := hrel
        have BL := Lib.hid hbl
        have PK := Lib.hid hpo
        have HFR := Lib.hid hfr
        obtain ⟨Ak, ck, rfl, hk1, hk2, hrk, -⟩ := hpo.form
        have HRK := Lib.hid hrk
        have HK1 := Lib.hid hk1
        have HK2 := Lib.hid hk2
        have hkq : ((pre.take q).map odO).length = q := by rw [List.length_map, List.length_take, HQ.out]; omega
        clear hbl hpo hfr hrk hk1 hk2
        rcases Nat.lt_or_ge q Q with hlt | hge
        · have hqp : q < pre.length := by rw [HQ.out]; exact hlt
          obtain ⟨b, off, hAe, hb, hc⟩ := Rd.at_ (k := q) (HRD.out.below BL.out) (by rw [scs_len]; exact hqp)
          rw [show (scs pre)[q]'(by rw [scs_len]; exact hqp) = .string (bstr pre[q]) by simp [scs]] at hc
          subst hAe
          have hx := HSP.out _ (List.getElem_mem hqp)
          have CP := Lib.hid (fun W => rparse_any pre[q] hx.1 hx.2 W)
          have HTK := Lib.hid (List.take_succ_eq_append_getElem hqp)
          have hfs := frE_snoc pre[q] HFR.out
          rw [← HTK.out] at hfs
          have HOD : Hid ((pre.take (q + 1)).map odO = (pre.take q).map odO ++ [odO pre[q]]) := Lib.hid (by rw [HTK.out, List.map_append]; rfl)
          have HOP := Lib.hid (show odO pre[q] = ((prsO pre[q]).1, (prsO pre[q]).2.1) from rfl)
          have HOK : Hid (OkO (prsO pre[q]).1 (prsO pre[q]).2.1) := Lib.hid (odO_ok pre[q])
          have hlen := HOK.out.len
          have HFP := Lib.hid (fun (h : frE (pre.take (q + 1)) ≠ 0) => frE_pre (List.take_prefix (q + 1) pre) h)
          unfold GiveG at CP
          clear hx HTK
          generalize bstr pre[q] = SW at *
          generalize odO pre[q] = od at *
          generalize (prsO pre[q]).1 = a at *
          generalize (prsO pre[q]).2.1 = bl at *
          generalize (prsO pre[q]).2.2 = ff at *
          have HFS := Lib.hid hfs
          generalize (pre.take q).map odO = K at *
          have HKQ := Lib.hid hkq
          clear hfs hkq
          rw [HKQ.out] at HK1 PK ⊢
          go_wp2_with fail
          refine (CP.out _).mono ?_
          rintro e w2 ⟨rfl, hb2⟩
          have BL2 := Lib.hid (BL.out.trans (hb2.mono BL.out.size))
          have PK2 := Lib.hid (PK.out.below hb2)
          clear hb2 BL PK HRK hb hc
          go_upto_region 21 with (refine wpList_store25 rfl (.tmp 10) (.tmp 70) rfl (n := a) (l := bl) rfl rfl (Bk.new w2 26 (oc 0 zl)) (by rw [oc_length, HZL.out]) hlen ?_; intro w4 S4 hg4 hz4; have HS4 := Lib.hid S4; have BL4 := Lib.hid ((BL2.out.alloc BL2.out.size (.cells (oc 0 zl).toArray 26)).grown hg4 (by have := BL2.out.size; simp; omega) (fun k e => by injection e with e; have := BL2.out.size; omega)); have PK4 := Lib.hid ((PK2.out.below (bel1 w2 (.cells (oc 0 zl).toArray 26))).grown hg4 (fun e => by have := (PK2.out.own.lt _ e).2; omega)); clear S4 hg4 hz4 BL2 PK2)
          by_cases hf0 : ff = 0
          · subst hf0
            obtain ⟨v2, w5, hrun, hpo5, hb5⟩ := PK4.out.push (by rw [HKQ.out]; omega) HOK.out
            have HRUN := Lib.hid hrun
            have PK5 := Lib.hid hpo5
            have BL5 := Lib.hid (BL4.out.trans hb5)
            clear hrun hpo5 hb5
            go_wp2_with (first
              | (refine wpList_load25 rfl (.tmp 10) rfl rfl HS4.out hlen ?_)
              | (refine wpList_buildO rfl 76 rfl rfl hlen ?_)
              | (at_builtin; refine wpList_appO rfl _ _ _ _ rfl _ _ rfl rfl HRUN.out ?_))
            exact ⟨⟨q + 1, by omega, by go_num, HFS.out, by rw [HOD.out, HOP.out]; exact PK5.out, BL5.out⟩, by simp [intOf]; omega⟩
          · have HE : Hid (T = ([], ff)) := Lib.hid (by
              have h1 : frE (pre.take (q + 1)) ≠ 0 := by rw [HFS.out]; exact hf0
              rw [HP.out, HFP.out h1, HFS.out, if_pos hf0])
            have hfi : ¬ (ff : Int) = 0 := by omega
            clear hf0
            go_wp2_with fail
            go_ret2
            rw [HE.out]
            exact ⟨none, 0, rfl, Ino.none _, HB0.out.trans (BL4.out.mono HB0.out.size)⟩
        · obtain rfl : q = Q := by omega
          have hall : pre.take q = pre := List.take_of_length_le (by rw [HQ.out]; exact Nat.le_refl _)
          rw [hall] at HRK HK1 HFR hkq ⊢
          have HPC : Hid (T = if chkW (pre.map odO) ≠ 0 then ([], chkW (pre.map odO)) else (pre.map odO, 0)) := Lib.hid (by rw [HP.out, HFR.out, if_neg (by simp)])
          have CK := Lib.hid (fun W (h : RdO W Ak (pre.map odO)) => rchk_any Ak (pre.map odO) q ck W h hkq (by omega))
          unfold GiveF at CK
          generalize pre.map odO = K at *
          have HKQ := Lib.hid hkq
          clear hkq hall
          rw [HKQ.out] at HK1 ⊢
          obtain ⟨f, hf⟩ : ∃ f, chkW K = f := ⟨_, rfl⟩
          rw [hf] at HPC CK
          clear hf
          go_wp2_with fail
          refine (CK.out _ HRK.out).mono ?_
          rintro e w2 ⟨rfl, hb2⟩
          have BL2 := Lib.hid (BL.out.trans (hb2.mono BL.out.size))
          have HR2 := Lib.hid (HRK.out.below hb2)
          clear hb2 BL HRK
          by_cases hf0 : f = 0
          · subst hf0
            have HE : Hid (T = (K, 0)) := Lib.hid (by rw [HPC.out, if_neg (by simp)])
            go_wp2_with fail
            go_ret2
            rw [HE.out]
            refine ⟨Ak, ck, ?_, ⟨HR2.out, rfl, by rw [HKQ.out]; exact HK1.out, HK2.out⟩, HB0.out.trans (BL2.out.mono HB0.out.size)⟩
            rw [HKQ.out]; rfl
          · have HE : Hid (T = ([], f)) := Lib.hid (by rw [HPC.out, if_pos hf0])
            have hfi : ¬ (f : Int) = 0 := by omega
            clear hf0
            go_wp2_with fail
            go_ret2
            rw [HE.out]
            exact ⟨none, 0, rfl, Ino.none _, HB0.out.trans (BL2.out.mono HB0.out.size)⟩
end Go.Proofs.YtaiiihdckdjpoaaGreatDoor
