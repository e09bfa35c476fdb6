/-
  The reference of layer 6: the contract of Parse.
  Conditions: the string has at most 250 bytes.
-/
import Derived.Test.YtaiiihdckdjpoaaGreatDoorOgD
import Derived.Test.YtaiiihdckdjpoaaGreatDoorOgC
import Derived.Test.YtaiiihdckdjpoaaGreatDoorOgE
namespace Go.Proofs.YtaiiihdckdjpoaaGreatDoor
open Go.RowKit

/-! ### Pure -/
theorem vdA_snoc : ∀ (p : List Nat) (c a : Nat), vdA a (p ++ [c]) = 10 * vdA a p + (c - 48)
  | [], _, _ => rfl
  | x :: p, c, a => vdA_snoc p c (10 * a + (x - 48))
theorem vd_snoc (p : List Nat) (c : Nat) : vd (p ++ [c]) = 10 * vd p + (c - 48) := vdA_snoc p c 0
/-- The value of a number, as the reference bounds it. -/
def mv (p : List Nat) : Nat := min (vd p) 4294967296
theorem mv_snoc (p : List Nat) (c : Nat) : min (10 * mv p + (c - 48)) 4294967296 = mv (p ++ [c]) := by unfold mv; rw [vd_snoc]; omega
/-- The octets from f to k. -/
def sg (l : List Nat) (f k : Nat) : List Nat := (l.drop f).take (k - f)
theorem sg_self (l : List Nat) (f : Nat) : sg l f f = [] := by unfold sg; rw [Nat.sub_self, List.take_zero]
theorem sg_next {l : List Nat} {f k : Nat} (h : f ≤ k) (hk : k < l.length) : sg l f (k + 1) = sg l f k ++ [l[k]] := by
  unfold sg
  rw [show k + 1 - f = (k - f) + 1 by omega, List.take_succ_eq_append_getElem (by rw [List.length_drop]; omega)]
  congr 2
  rw [List.getElem_drop]; congr 1; omega
theorem sg_len {l : List Nat} {f k : Nat} (h : f ≤ k) (hk : k ≤ l.length) : (sg l f k).length = k - f := by unfold sg; rw [List.length_take, List.length_drop]; omega
theorem sg_drop {l : List Nat} {f k : Nat} (h : f ≤ k) (_hk : k ≤ l.length) : l.drop f = sg l f k ++ l.drop k := by
  unfold sg
  conv => lhs; rw [← List.take_append_drop (k - f) (l.drop f)]
  rw [List.drop_drop, show f + (k - f) = k by omega]
theorem no46 {p : List Nat} (h : p.all dg = true) : 46 ∉ p := fun hm => by
  have := List.all_eq_true.1 h 46 hm
  exact absurd this (by decide)
theorem split_bad {q : List Nat} {c : Nat} (r : List Nat) (hq : 46 ∉ q) (hc : c ≠ 46) (hd : dg c = false) : (splitD (q ++ c :: r)).all isDec = false := by
  have key : ∀ s : List Nat, isDec (q ++ c :: s) = false := fun s => by
    unfold isDec
    rw [List.all_append, List.all_cons, hd]
    simp
  by_cases hr : 46 ∈ r
  · obtain ⟨s, t, e, hs⟩ := List.eq_append_cons_of_mem hr
    rw [e, show q ++ c :: (s ++ 46 :: t) = (q ++ c :: s) ++ 46 :: t by simp, split_at t (by simp only [List.mem_append, List.mem_cons, not_or]; exact ⟨hq, Ne.symm hc, hs⟩), List.all_cons, key]
    rfl
  · rw [split_none (by simp only [List.mem_append, List.mem_cons, not_or]; exact ⟨hq, Ne.symm hc, hr⟩), List.all_cons, key]
    rfl
theorem all_pre {a b c : List (List Nat)} (h : a = b ++ c) (hc : c.all isDec = false) : a.all isDec = false := by rw [h, List.all_append, hc, Bool.and_false]
theorem dec_head {p : List Nat} (h1 : p.all dg = true) (h2 : p ≠ []) (h3 : ¬(p.headD 0 = 48 ∧ 1 < p.length)) : isDec p = true := by
  unfold isDec
  rw [h1, Bool.true_and]
  cases p with
  | nil => exact absurd rfl h2
  | cons x p =>
    by_cases hx : x = 48
    · cases p with
      | nil => rw [hx]; rfl
      | cons y p => exact absurd ⟨hx, by simp⟩ h3
    · have : (x != 48) = true := by simpa using hx
      show ((x :: p) == [48] || x != 48) = true
      rw [this, Bool.or_true]
theorem dec_not {p : List Nat} (h : p = [] ∨ (p.headD 0 = 48 ∧ 1 < p.length)) : isDec p = false := by
  rcases h with rfl | ⟨h1, h2⟩
  · decide
  · cases p with
    | nil => simp at h2
    | cons x p =>
      obtain rfl : x = 48 := h1
      cases p with
      | nil => simp at h2
      | cons y p =>
        unfold isDec
        have e1 : ((48 :: y :: p : List Nat) == [48]) = false := by simp
        rw [e1]
        simp
theorem split_stop {l : List Nat} {f k : Nat} (h : f ≤ k) (hk : k < l.length) (hd : (sg l f k).all dg = true) (hc : l[k] = 46) : splitD (l.drop f) = sg l f k :: splitD (l.drop (k + 1)) := by
  rw [sg_drop h (Nat.le_of_lt hk), List.drop_eq_getElem_cons hk, hc, split_at _ (no46 hd)]
theorem split_end {l : List Nat} {f : Nat} (h : f ≤ l.length) (hd : (sg l f l.length).all dg = true) : splitD (l.drop f) = [sg l f l.length] := by
  conv => lhs; rw [sg_drop h (Nat.le_refl _)]
  rw [List.drop_length, List.append_nil, split_none (no46 hd)]
theorem fits_big {ps : List (List Nat)} {j : Nat} (hj : j < ps.length) (h : 4294967295 < mv ps[j]) : fits ps = false := by
  unfold fits
  have : (ps.all fun x => decide (vd x ≤ 4294967295)) = false := by
    rw [List.all_eq_false]
    exact ⟨ps[j], List.getElem_mem hj, by unfold mv at h; simp; omega⟩
  rw [this, Bool.and_false]

/-- What stands between two rounds of the reference's Parse. -/
structure PR (w : World) (l : List Nat) (pre : List (List Nat)) (f i : Nat) (v : Value) (wr : World) : Prop where
  il : i ≤ l.length + 1
  fi : f ≤ i
  pl : pre.length ≤ f
  dec : pre.all isDec = true
  own : wr.ownsRow (w.heap.size + 1) 3 1 v pre.length (csI (pre.map mv))
  res : Bk wr w.heap.size 26 (oc 0 zeroL)
  bel : Below w.heap.size w wr
  dig : i ≤ l.length → (sg l f i).all dg = true ∧ splitD l = pre ++ splitD (l.drop f)
  fin : i = l.length + 1 → splitD l = pre

theorem PR.more {w wr : World} {l : List Nat} {pre : List (List Nat)} {f i : Nat} {v : Value} (h : PR w l pre f i v wr) (hi : i < l.length) (hd : dg l[i] = true) : PR w l pre f (i + 1) v wr :=
  ⟨by omega, by have := h.fi; omega, h.pl, h.dec, h.own, h.res, h.bel, fun _ => ⟨by rw [sg_next h.fi hi, List.all_append, (h.dig (by omega)).1]; simp [hd], (h.dig (by omega)).2⟩, fun e => by omega⟩
/-- A piece ends at i. -/
theorem PR.ends {w wr : World} {l : List Nat} {pre : List (List Nat)} {f i : Nat} {v v2 : Value} {w2 : World} (h : PR w l pre f i v wr) (hi : i ≤ l.length) (hc : ∀ h : i < l.length, l[i] = 46) (hfi : i ≠ f) (hz : ¬((sg l f i).headD 0 = 48 ∧ f + 1 < i))
    (hown : w2.ownsRow (w.heap.size + 1) 3 1 v2 (pre.map mv ++ [mv (sg l f i)]).length (csI (pre.map mv ++ [mv (sg l f i)]))) (hb : Below (w.heap.size + 1) wr w2) : PR w l (pre ++ [sg l f i]) (i + 1) (i + 1) v2 w2 := by
  obtain ⟨h1, h2⟩ := h.dig hi
  have hfi2 := h.fi
  have hlen := sg_len hfi2 hi
  have hdec : isDec (sg l f i) = true := dec_head h1 (fun e => by rw [e] at hlen; simp at hlen; omega) (fun ⟨a, b⟩ => hz ⟨a, by omega⟩)
  refine ⟨by omega, Nat.le_refl _, by have := h.pl; simp; omega, by rw [List.all_append, h.dec]; simp [hdec], ?_, h.res.below hb (Nat.lt_succ_self _), h.bel.trans (hb.mono (Nat.le_succ _)), fun hi2 => ⟨by rw [sg_self]; rfl, ?_⟩, fun e => ?_⟩
  · rw [List.map_append, List.length_append, List.length_singleton]
    rw [List.length_append, List.length_map, List.length_singleton] at hown
    exact hown
  · have hi3 : i < l.length := by omega
    rw [h2, split_stop hfi2 hi3 h1 (hc hi3), List.append_assoc]; rfl
  · obtain rfl : i = l.length := by omega
    rw [h2, split_end hfi2 h1]

theorem PR.piece {w wr : World} {l : List Nat} {pre : List (List Nat)} {f i : Nat} {v : Value} (h : PR w l pre f i v wr) (hi : i ≤ l.length) (hc : ∀ h : i < l.length, l[i] = 46) : ∃ r, splitD (l.drop f) = sg l f i :: r := by
  obtain ⟨h1, h2⟩ := h.dig hi
  rcases Nat.lt_or_ge i l.length with h3 | h3
  · exact ⟨_, split_stop h.fi h3 h1 (hc h3)⟩
  · obtain rfl : i = l.length := by omega
    exact ⟨[], split_end h.fi h1⟩
theorem PR.bad {w wr : World} {l : List Nat} {pre : List (List Nat)} {f i : Nat} {v : Value} (h : PR w l pre f i v wr) (hi : i ≤ l.length) (hc : ∀ h : i < l.length, l[i] = 46) (hd : isDec (sg l f i) = false) : prsO l = (0, zeroL, 6) := by
  obtain ⟨r, hr⟩ := h.piece hi hc
  exact if_pos (all_pre (h.dig hi).2 (by rw [hr, List.all_cons, hd]; rfl))
theorem sg_head {l : List Nat} {f i : Nat} (h : f < i) (hi : i ≤ l.length) : (sg l f i).headD 0 = l[f]'(by omega) := by
  unfold sg
  rw [List.drop_eq_getElem_cons (by omega : f < l.length), show i - f = (i - f - 1) + 1 by omega, List.take_succ_cons]; rfl
theorem sg_mem {l : List Nat} {f i k : Nat} (h : f ≤ k) (hk : k < i) (hi : i ≤ l.length) : l[k]'(by omega) ∈ sg l f i := by
  rw [sg, List.mem_take_iff_getElem]
  exact ⟨k - f, by rw [List.length_drop]; omega, by rw [List.getElem_drop]; congr 1; omega⟩

set_option maxRecDepth 100000 in
set_option maxHeartbeats 8000000 in
theorem rparse_any (l : List Nat) (h8 : All8 l) (hl : l.length ≤ 250) (w : World) :
    Calls Tryz.prog 56 #[.string (bstr l)] w (GiveG w (prsO l)) := by
  have hz := zero25
  have HZL := Lib.hid zeroL_length
  obtain ⟨T, hT⟩ : ∃ T, prsO l = T := ⟨_, rfl⟩
  rw [hT]
  have HT := Lib.hid hT
  clear hT
  have S0 := Lib.hid (Bk.new w 26 (oc 0 zeroL))
  have B0 := Lib.hid (bel1 w (.cells (oc 0 zeroL).toArray 26))
  generalize hzl : zeroL = zl at *
  have HZ := Lib.hid hzl
  clear hzl
  have hsz : (bstr l).size = l.length := bstr_size l
  have HIX := Lib.hid (fun j hj W => idx_str l h8 j hj W)
  have H8 := Lib.hid h8
  clear h8
  generalize bstr l = S at *
  go_enter Tryz.func56, Tryz.ntmps56
  go_upto_region 1 with fail
  generalize w.alloc (.cells (oc 0 zl).toArray 26) = w1 at *
  have START := Lib.hid (show PR w l [] 0 0 (.slice none 0 0) w1 from ⟨by omega, Nat.le_refl _, Nat.le_refl _, rfl, World.ownsRow_nil _ _ _ _, HZ.out ▸ S0.out, B0.out, fun _ => ⟨by rw [sg_self]; rfl, rfl⟩, fun e => by omega⟩)
  clear S0 B0
  go_upto_region 4 with fail
  go_loopw [4, 5, 6] (fun v f i wr => ∃ (pre : List (List Nat)) (p j : Nat), f = .int .i64 (p : Int) ∧ i = .int .i64 (j : Int) ∧ PR w l pre p j v wr) (fun _ _ i _ => l.length + 1 - (intOf i).toNat)
  case atStart => exact ⟨[], 0, 0, rfl, rfl, START.out⟩
  case round =>
    obtain ⟨pre, p, i, rfl, rfl, hR⟩ := hrel
    have HG := Lib.hid hR
    clear hR START
    obtain ⟨Av, cv, hv⟩ := own_form HG.out.own
    subst hv
    have hil := HG.out.il
    have hpi := HG.out.fi
    have hpl := HG.out.pl
    rcases Nat.lt_or_ge i (l.length + 1) with hi1 | hi1
    · have hil2 : i ≤ l.length := by omega
      by_cases hdi : ∃ h : i < l.length, l[i] ≠ 46
      · obtain ⟨hi, h46⟩ := hdi
        have hix := HIX.out i hi
        have hdig := HG.out.dig hil2
        have hmore := fun hd => HG.out.more hi hd
        have hbad := fun (hd : dg l[i] = false) => split_bad (l.drop (i + 1)) (no46 hdig.1) h46 hd
        rw [← List.drop_eq_getElem_cons hi, ← sg_drop hpi hil2] at hbad
        have hbad2 := fun hd => all_pre hdig.2 (hbad hd)
        have hyy : ∀ y, l[i] = y → True := fun _ _ => trivial
        have hy8 := H8.out.get hi
        generalize l[i] = y at *
        clear hbad hyy hdig
        have h46i : ¬ (y : Int) = 46 := by omega
        by_cases hd : dg y = true
        · have HM := Lib.hid (hmore hd)
          have hd1 : 48 ≤ y := by unfold dg at hd; simp at hd; omega
          have hd2 : y ≤ 57 := by unfold dg at hd; simp at hd; omega
          clear hmore hbad2 hd
          go_wp2_with fail
          exact ⟨⟨pre, p, i + 1, rfl, by go_num, HM.out⟩, by simp [intOf]; omega⟩
        · have HBD := Lib.hid (hbad2 (by simpa using hd))
          have hd0 : y < 48 ∨ 57 < y := by
            rcases Nat.lt_or_ge y 48 with h | h
            · exact .inl h
            · refine .inr (Nat.lt_of_not_le fun h2 => hd ?_)
              unfold dg; rw [decide_eq_true h, decide_eq_true h2]; rfl
          clear hmore hbad2 hd
          rcases hd0 with hd0 | hd0
          · go_wp2_with (refine wpList_store25 rfl (.tmp 2) (.tmp 37) rfl rfl rfl HG.out.res (by rw [oc_length]; rfl) HZL.out ?_; intro w5 S5 hg5 hz5; have HS5 := Lib.hid S5; have HB5 := Lib.hid (HG.out.bel.grown hg5 HG.out.bel.size (fun k e => by injection e with e; omega)); clear S5 hg5 hz5)
            refine ret25t rfl rfl rfl HS5.out HZL.out rfl ⟨?_, HB5.out⟩
            rw [← HT.out, show prsO l = (0, zeroL, 6) from if_pos HBD.out, HZ.out]
            rfl
          · go_wp2_with (refine wpList_store25 rfl (.tmp 2) (.tmp 37) rfl rfl rfl HG.out.res (by rw [oc_length]; rfl) HZL.out ?_; intro w5 S5 hg5 hz5; have HS5 := Lib.hid S5; have HB5 := Lib.hid (HG.out.bel.grown hg5 HG.out.bel.size (fun k e => by injection e with e; omega)); clear S5 hg5 hz5)
            refine ret25t rfl rfl rfl HS5.out HZL.out rfl ⟨?_, HB5.out⟩
            rw [← HT.out, show prsO l = (0, zeroL, 6) from if_pos HBD.out, HZ.out]
            rfl
      · have hc : ∀ h : i < l.length, l[i] = 46 := fun h => Classical.byContradiction fun e => hdi ⟨h, e⟩
        clear hdi
        by_cases hip : i = p
        · have HE := Lib.hid (HG.out.bad hil2 hc (dec_not (.inl (by rw [hip, sg_self]))))
          subst hip
          rcases Nat.lt_or_ge i l.length with hi | hi
          · have hix := HIX.out i hi
            rw [hc hi] at hix
            go_wp2_with (refine wpList_store25 rfl (.tmp 2) (.tmp 53) rfl rfl rfl HG.out.res (by rw [oc_length]; rfl) HZL.out ?_; intro w5 S5 hg5 hz5; have HS5 := Lib.hid S5; have HB5 := Lib.hid (HG.out.bel.grown hg5 HG.out.bel.size (fun k e => by injection e with e; omega)); clear S5 hg5 hz5)
            refine ret25t rfl rfl rfl HS5.out HZL.out rfl ⟨?_, HB5.out⟩
            rw [← HT.out, HE.out, HZ.out]
            rfl
          · have hnl : ¬ (i : Int) < (l.length : Int) := by omega
            go_wp2_with (refine wpList_store25 rfl (.tmp 2) (.tmp 53) rfl rfl rfl HG.out.res (by rw [oc_length]; rfl) HZL.out ?_; intro w5 S5 hg5 hz5; have HS5 := Lib.hid S5; have HB5 := Lib.hid (HG.out.bel.grown hg5 HG.out.bel.size (fun k e => by injection e with e; omega)); clear S5 hg5 hz5)
            refine ret25t rfl rfl rfl HS5.out HZL.out rfl ⟨?_, HB5.out⟩
            rw [← HT.out, HE.out, HZ.out]
            rfl
        · have hpi2 : p < i := by omega
          have hixp := HIX.out p (by omega)
          have hnip : ¬ (i : Int) = (p : Int) := by omega
          by_cases hzz : l[p]'(by omega) = 48 ∧ p + 1 < i
          · have HE := Lib.hid (HG.out.bad hil2 hc (dec_not (.inr ⟨by rw [sg_head hpi2 hil2]; exact hzz.1, by rw [sg_len hpi hil2]; omega⟩)))
            obtain ⟨hz1, hz2⟩ := hzz
            rw [hz1] at hixp
            have hz2i : (p : Int) + 1 < (i : Int) := by omega
            clear hz1
            rcases Nat.lt_or_ge i l.length with hi | hi
            · have hix := HIX.out i hi
              rw [hc hi] at hix
              go_wp2_with (refine wpList_store25 rfl (.tmp 2) (.tmp 53) rfl rfl rfl HG.out.res (by rw [oc_length]; rfl) HZL.out ?_; intro w5 S5 hg5 hz5; have HS5 := Lib.hid S5; have HB5 := Lib.hid (HG.out.bel.grown hg5 HG.out.bel.size (fun k e => by injection e with e; omega)); clear S5 hg5 hz5)
              refine ret25t rfl rfl rfl HS5.out HZL.out rfl ⟨?_, HB5.out⟩
              rw [← HT.out, HE.out, HZ.out]
              rfl
            · have hnl : ¬ (i : Int) < (l.length : Int) := by omega
              go_wp2_with (refine wpList_store25 rfl (.tmp 2) (.tmp 53) rfl rfl rfl HG.out.res (by rw [oc_length]; rfl) HZL.out ?_; intro w5 S5 hg5 hz5; have HS5 := Lib.hid S5; have HB5 := Lib.hid (HG.out.bel.grown hg5 HG.out.bel.size (fun k e => by injection e with e; omega)); clear S5 hg5 hz5)
              refine ret25t rfl rfl rfl HS5.out HZL.out rfl ⟨?_, HB5.out⟩
              rw [← HT.out, HE.out, HZ.out]
              rfl
          · have HNZ : Hid (¬((sg l p i).headD 0 = 48 ∧ p + 1 < i)) := Lib.hid (by rw [sg_head hpi2 hil2]; exact hzz)
            have hy8 := H8.out.get (show p < l.length by omega)
            have hzi : ¬ (l[p]'(by omega) = 48) ∨ ¬ (p + 1 < i) := Decidable.not_and_iff_or_not.1 hzz
            have HC := Lib.hid hc
            generalize l[p]'(by omega) = y at *
            have hzi2 : ¬ (y : Int) = 48 ∨ (y = 48 ∧ ¬ ((p : Int) + 1 < (i : Int))) := by omega
            clear hzz hzi
            rcases hzi2 with hzi2 | ⟨rfl, hzi2⟩
            · rcases Nat.lt_or_ge i l.length with hi | hi
              · have hix := HIX.out i hi
                rw [hc hi] at hix
                go_upto_region 13 with fail
                try clear hix
                clear hixp
                have hsg : mv (sg l p p) = 0 := by rw [sg_self]; rfl
                go_loop [7, 8] (fun nv kv => ∃ k : Nat, p ≤ k ∧ k ≤ i ∧ nv = .int .i64 (mv (sg l p k) : Int) ∧ kv = .int .i64 (k : Int)) (fun _ kv => i - (intOf kv).toNat)
                case atStart => exact ⟨p, Nat.le_refl _, hpi, by rw [hsg]; rfl, rfl⟩
                case round =>
                  obtain ⟨k, hpk, hki, rfl, rfl⟩ := hrel
                  rcases Nat.lt_or_ge k i with hk | hk
                  · have hixk := HIX.out k (by omega)
                    have hdk : dg (l[k]'(by omega)) = true := List.all_eq_true.1 (HG.out.dig hil2).1 _ (sg_mem hpk hk hil2)
                    have hms := mv_snoc (sg l p k) (l[k]'(by omega))
                    rw [← sg_next hpk (show k < l.length by omega)] at hms
                    have hk1 : 48 ≤ l[k]'(by omega) ∧ l[k]'(by omega) ≤ 57 := by unfold dg at hdk; simp at hdk; omega
                    have hm0 : mv (sg l p k) ≤ 4294967296 := Nat.min_le_right _ _
                    have HMS2 : Hid (∃ M, mv (sg l p (k + 1)) = M) := Lib.hid ⟨_, rfl⟩
                    obtain ⟨M2, hM2⟩ := HMS2.out
                    rw [hM2] at hms
                    generalize l[k]'(by omega) = c at *
                    generalize mv (sg l p k) = M at *
                    obtain ⟨d, hd⟩ : ∃ d, c - 48 = d := ⟨_, rfl⟩
                    have hdi : (c : Int) - 48 = (d : Int) := by omega
                    have hd9 : d ≤ 9 := by omega
                    rw [hd] at hms
                    have hmi : min (10 * (M : Int) + (d : Int)) 4294967296 = (M2 : Int) := by omega
                    clear hd hms hdk HMS2
                    go_wp2_with fail
                    go_round
                    case rel => exact ⟨k + 1, by omega, by omega, by rw [hM2], by go_num⟩
                    case measure => simp [intOf]; omega
                  · obtain rfl : k = i := by omega
                    have hms := mv_snoc (sg l p k) 0
                    obtain ⟨M, hM⟩ : ∃ M, mv (sg l p k) = M := ⟨_, rfl⟩
                    have hown' := HG.out.own
                    rw [show pre.length = (pre.map mv).length by rw [List.length_map]] at hown'
                    obtain ⟨v2, w2, hrun, hown2, hb2⟩ := appInt hown' M HG.out.res.lt (by rw [List.length_map]; omega)
                    rw [List.length_map] at hrun
                    rw [hM]
                    have HN := Lib.hid (HG.out.ends hil2 HC.out hip HNZ.out (by rw [hM]; exact hown2) hb2)
                    clear hown' hown2 hb2 hms
                    go_wp2_with (at_builtin; refine wpList_app rfl _ _ _ _ rfl _ _ rfl rfl hrun ?_)
                    exact ⟨⟨pre ++ [sg l p k], k + 1, k + 1, by go_num, by go_num, HN.out⟩, by simp [intOf]; omega⟩
              · have hnl : ¬ (i : Int) < (l.length : Int) := by omega
                go_upto_region 13 with fail
                try clear hix
                clear hixp
                have hsg : mv (sg l p p) = 0 := by rw [sg_self]; rfl
                go_loop [7, 8] (fun nv kv => ∃ k : Nat, p ≤ k ∧ k ≤ i ∧ nv = .int .i64 (mv (sg l p k) : Int) ∧ kv = .int .i64 (k : Int)) (fun _ kv => i - (intOf kv).toNat)
                case atStart => exact ⟨p, Nat.le_refl _, hpi, by rw [hsg]; rfl, rfl⟩
                case round =>
                  obtain ⟨k, hpk, hki, rfl, rfl⟩ := hrel
                  rcases Nat.lt_or_ge k i with hk | hk
                  · have hixk := HIX.out k (by omega)
                    have hdk : dg (l[k]'(by omega)) = true := List.all_eq_true.1 (HG.out.dig hil2).1 _ (sg_mem hpk hk hil2)
                    have hms := mv_snoc (sg l p k) (l[k]'(by omega))
                    rw [← sg_next hpk (show k < l.length by omega)] at hms
                    have hk1 : 48 ≤ l[k]'(by omega) ∧ l[k]'(by omega) ≤ 57 := by unfold dg at hdk; simp at hdk; omega
                    have hm0 : mv (sg l p k) ≤ 4294967296 := Nat.min_le_right _ _
                    have HMS2 : Hid (∃ M, mv (sg l p (k + 1)) = M) := Lib.hid ⟨_, rfl⟩
                    obtain ⟨M2, hM2⟩ := HMS2.out
                    rw [hM2] at hms
                    generalize l[k]'(by omega) = c at *
                    generalize mv (sg l p k) = M at *
                    obtain ⟨d, hd⟩ : ∃ d, c - 48 = d := ⟨_, rfl⟩
                    have hdi : (c : Int) - 48 = (d : Int) := by omega
                    have hd9 : d ≤ 9 := by omega
                    rw [hd] at hms
                    have hmi : min (10 * (M : Int) + (d : Int)) 4294967296 = (M2 : Int) := by omega
                    clear hd hms hdk HMS2
                    go_wp2_with fail
                    go_round
                    case rel => exact ⟨k + 1, by omega, by omega, by rw [hM2], by go_num⟩
                    case measure => simp [intOf]; omega
                  · obtain rfl : k = i := by omega
                    have hms := mv_snoc (sg l p k) 0
                    obtain ⟨M, hM⟩ : ∃ M, mv (sg l p k) = M := ⟨_, rfl⟩
                    have hown' := HG.out.own
                    rw [show pre.length = (pre.map mv).length by rw [List.length_map]] at hown'
                    obtain ⟨v2, w2, hrun, hown2, hb2⟩ := appInt hown' M HG.out.res.lt (by rw [List.length_map]; omega)
                    rw [List.length_map] at hrun
                    rw [hM]
                    have HN := Lib.hid (HG.out.ends hil2 HC.out hip HNZ.out (by rw [hM]; exact hown2) hb2)
                    clear hown' hown2 hb2 hms
                    go_wp2_with (at_builtin; refine wpList_app rfl _ _ _ _ rfl _ _ rfl rfl hrun ?_)
                    exact ⟨⟨pre ++ [sg l p k], k + 1, k + 1, by go_num, by go_num, HN.out⟩, by simp [intOf]; omega⟩
            · rcases Nat.lt_or_ge i l.length with hi | hi
              · have hix := HIX.out i hi
                rw [hc hi] at hix
                go_upto_region 13 with fail
                try clear hix
                clear hixp
                have hsg : mv (sg l p p) = 0 := by rw [sg_self]; rfl
                go_loop [7, 8] (fun nv kv => ∃ k : Nat, p ≤ k ∧ k ≤ i ∧ nv = .int .i64 (mv (sg l p k) : Int) ∧ kv = .int .i64 (k : Int)) (fun _ kv => i - (intOf kv).toNat)
                case atStart => exact ⟨p, Nat.le_refl _, hpi, by rw [hsg]; rfl, rfl⟩
                case round =>
                  obtain ⟨k, hpk, hki, rfl, rfl⟩ := hrel
                  rcases Nat.lt_or_ge k i with hk | hk
                  · have hixk := HIX.out k (by omega)
                    have hdk : dg (l[k]'(by omega)) = true := List.all_eq_true.1 (HG.out.dig hil2).1 _ (sg_mem hpk hk hil2)
                    have hms := mv_snoc (sg l p k) (l[k]'(by omega))
                    rw [← sg_next hpk (show k < l.length by omega)] at hms
                    have hk1 : 48 ≤ l[k]'(by omega) ∧ l[k]'(by omega) ≤ 57 := by unfold dg at hdk; simp at hdk; omega
                    have hm0 : mv (sg l p k) ≤ 4294967296 := Nat.min_le_right _ _
                    have HMS2 : Hid (∃ M, mv (sg l p (k + 1)) = M) := Lib.hid ⟨_, rfl⟩
                    obtain ⟨M2, hM2⟩ := HMS2.out
                    rw [hM2] at hms
                    generalize l[k]'(by omega) = c at *
                    generalize mv (sg l p k) = M at *
                    obtain ⟨d, hd⟩ : ∃ d, c - 48 = d := ⟨_, rfl⟩
                    have hdi : (c : Int) - 48 = (d : Int) := by omega
                    have hd9 : d ≤ 9 := by omega
                    rw [hd] at hms
                    have hmi : min (10 * (M : Int) + (d : Int)) 4294967296 = (M2 : Int) := by omega
                    clear hd hms hdk HMS2
                    go_wp2_with fail
                    go_round
                    case rel => exact ⟨k + 1, by omega, by omega, by rw [hM2], by go_num⟩
                    case measure => simp [intOf]; omega
                  · obtain rfl : k = i := by omega
                    have hms := mv_snoc (sg l p k) 0
                    obtain ⟨M, hM⟩ : ∃ M, mv (sg l p k) = M := ⟨_, rfl⟩
                    have hown' := HG.out.own
                    rw [show pre.length = (pre.map mv).length by rw [List.length_map]] at hown'
                    obtain ⟨v2, w2, hrun, hown2, hb2⟩ := appInt hown' M HG.out.res.lt (by rw [List.length_map]; omega)
                    rw [List.length_map] at hrun
                    rw [hM]
                    have HN := Lib.hid (HG.out.ends hil2 HC.out hip HNZ.out (by rw [hM]; exact hown2) hb2)
                    clear hown' hown2 hb2 hms
                    go_wp2_with (at_builtin; refine wpList_app rfl _ _ _ _ rfl _ _ rfl rfl hrun ?_)
                    exact ⟨⟨pre ++ [sg l p k], k + 1, k + 1, by go_num, by go_num, HN.out⟩, by simp [intOf]; omega⟩
              · have hnl : ¬ (i : Int) < (l.length : Int) := by omega
                go_upto_region 13 with fail
                try clear hix
                clear hixp
                have hsg : mv (sg l p p) = 0 := by rw [sg_self]; rfl
                go_loop [7, 8] (fun nv kv => ∃ k : Nat, p ≤ k ∧ k ≤ i ∧ nv = .int .i64 (mv (sg l p k) : Int) ∧ kv = .int .i64 (k : Int)) (fun _ kv => i - (intOf kv).toNat)
                case atStart => exact ⟨p, Nat.le_refl _, hpi, by rw [hsg]; rfl, rfl⟩
                case round =>
                  obtain ⟨k, hpk, hki, rfl, rfl⟩ := hrel
                  rcases Nat.lt_or_ge k i with hk | hk
                  · have hixk := HIX.out k (by omega)
                    have hdk : dg (l[k]'(by omega)) = true := List.all_eq_true.1 (HG.out.dig hil2).1 _ (sg_mem hpk hk hil2)
                    have hms := mv_snoc (sg l p k) (l[k]'(by omega))
                    rw [← sg_next hpk (show k < l.length by omega)] at hms
                    have hk1 : 48 ≤ l[k]'(by omega) ∧ l[k]'(by omega) ≤ 57 := by unfold dg at hdk; simp at hdk; omega
                    have hm0 : mv (sg l p k) ≤ 4294967296 := Nat.min_le_right _ _
                    have HMS2 : Hid (∃ M, mv (sg l p (k + 1)) = M) := Lib.hid ⟨_, rfl⟩
                    obtain ⟨M2, hM2⟩ := HMS2.out
                    rw [hM2] at hms
                    generalize l[k]'(by omega) = c at *
                    generalize mv (sg l p k) = M at *
                    obtain ⟨d, hd⟩ : ∃ d, c - 48 = d := ⟨_, rfl⟩
                    have hdi : (c : Int) - 48 = (d : Int) := by omega
                    have hd9 : d ≤ 9 := by omega
                    rw [hd] at hms
                    have hmi : min (10 * (M : Int) + (d : Int)) 4294967296 = (M2 : Int) := by omega
                    clear hd hms hdk HMS2
                    go_wp2_with fail
                    go_round
                    case rel => exact ⟨k + 1, by omega, by omega, by rw [hM2], by go_num⟩
                    case measure => simp [intOf]; omega
                  · obtain rfl : k = i := by omega
                    have hms := mv_snoc (sg l p k) 0
                    obtain ⟨M, hM⟩ : ∃ M, mv (sg l p k) = M := ⟨_, rfl⟩
                    have hown' := HG.out.own
                    rw [show pre.length = (pre.map mv).length by rw [List.length_map]] at hown'
                    obtain ⟨v2, w2, hrun, hown2, hb2⟩ := appInt hown' M HG.out.res.lt (by rw [List.length_map]; omega)
                    rw [List.length_map] at hrun
                    rw [hM]
                    have HN := Lib.hid (HG.out.ends hil2 HC.out hip HNZ.out (by rw [hM]; exact hown2) hb2)
                    clear hown' hown2 hb2 hms
                    go_wp2_with (at_builtin; refine wpList_app rfl _ _ _ _ rfl _ _ rfl rfl hrun ?_)
                    exact ⟨⟨pre ++ [sg l p k], k + 1, k + 1, by go_num, by go_num, HN.out⟩, by simp [intOf]; omega⟩
    · obtain rfl : i = l.length + 1 := by omega
      have hfin := HG.out.fin rfl
      have HP : Hid (T = if fits pre = false then (0, zl, 3) else if chkO pre.length (pad (pre.map vd)) = 0 then (pre.length, pad (pre.map vd), 0) else (0, zl, 1)) := Lib.hid (by
        rw [← HT.out, ← HZ.out]; unfold prsO; rw [hfin, if_neg (by rw [HG.out.dec]; simp)])
      by_cases h16 : 16 < pre.length
      · have HE : Hid (T = (0, zl, 3)) := Lib.hid (by rw [HP.out, if_pos (by unfold fits; rw [decide_eq_false (by omega)]; rfl)])
        clear hfin
        go_wp2_with (refine wpList_store25 rfl (.tmp 2) (.tmp 78) rfl rfl rfl HG.out.res (by rw [oc_length]; rfl) HZL.out ?_; intro w5 S5 hg5 hz5; have HS5 := Lib.hid S5; have HB5 := Lib.hid (HG.out.bel.grown hg5 HG.out.bel.size (fun k e => by injection e with e; omega)); clear S5 hg5 hz5)
        refine ret25t rfl rfl rfl HS5.out HZL.out rfl ⟨?_, HB5.out⟩
        rw [HE.out]; rfl
      · have hle : pre.length ≤ 16 := by omega
        have hne : pre ≠ [] := by
          obtain ⟨a, b, e, -⟩ := split_join l
          rw [← hfin, e]; simp
        have hown' := HG.out.own
        rw [show pre.length = (pre.map mv).length by rw [List.length_map]] at hown'
        have hri := own_int hown'
        rw [List.length_map] at hown'
        obtain ⟨bv, ov, hAv, hbv, -⟩ := Rd.at_ (k := 0) hri (by rw [csI_length, List.length_map]; exact List.length_pos_iff.2 hne)
        have RI := Lib.hid hri
        obtain ⟨N, hN⟩ : ∃ N, pre.length = N := ⟨_, rfl⟩
        have HN := Lib.hid hN
        rw [hN] at hle ⊢
        clear hri hown' hfin h16 hne hN hpl hil hpi
        subst hAv
        go_upto_region 20 with fail
        have e7 := Lib.hid (Bk.new wr 26 (oc 0 zl))
        have r7 := Lib.hid (show Bk (wr.alloc (.cells (oc 0 zl).toArray 26)) w.heap.size 26 (oc 0 zl) from HZ.out ▸ HG.out.res.alloc (.cells (oc 0 zl).toArray 26))
        have b7 := Lib.hid (HG.out.bel.alloc HG.out.bel.size (.cells (oc 0 zl).toArray 26))
        have i7 := Lib.hid (RI.out.below (bel1 wr (.cells (oc 0 zl).toArray 26)))
        have hlt := HG.out.res.lt
        have hsz2 : wr.heap.size < (wr.alloc (.cells (oc 0 zl).toArray 26)).heap.size := by simp
        have c0 := oid_n e7.out
        have f0 := e7.out.free 0
        have HNE : Hid (∀ q : Addr, (some (⟨bv, ov, none⟩ : Addr)) = some q → q.block ≠ wr.heap.size) := Lib.hid (fun q hq => by injection hq with hq; rw [← hq]; show bv ≠ _; omega)
        go_upto_region 21 with fail
        generalize wr.alloc (.cells (oc 0 zl).toArray 26) = we at *
        generalize wr.heap.size = g at *
        go_upto_region 22 with fail
        have e8 := Lib.hid (show Bk (we.setCell ⟨g, 0, none⟩ (.int .u8 (N : Int))) g 26 (oc N zl) from e7.out.store 0 (.int .u8 (N : Int)))
        have r8 := Lib.hid (r7.out.far (p := ⟨g, 0, none⟩) (by simp; omega) (.int .u8 (N : Int)))
        have b8 := Lib.hid (b7.out.setCell (p := ⟨g, 0, none⟩) (by show w.heap.size ≤ g; omega) (.int .u8 (N : Int)))
        have i8 := Lib.hid (Rd.far (B := g) (o := 0) i7.out HNE.out (.int .u8 (N : Int)))
        clear c0 f0 e7 r7 b7 i7
        generalize we.setCell ⟨g, 0, none⟩ (.int .u8 (N : Int)) = wf at *
        have HZP := Lib.hid (show zl = pad ((pre.map vd).take 0) from by rw [← HZ.out]; rfl)
        go_upto_region 23 with fail
        go_loopw [10] (fun i wx => ∃ j : Nat, j ≤ N ∧ i = .int .i64 (j : Int) ∧ (∀ q (h : q < pre.length), q < j → vd pre[q] ≤ 4294967295) ∧ Bk wx g 26 (oc N (pad ((pre.map vd).take j))) ∧ Bk wx w.heap.size 26 (oc 0 zl) ∧ Rd wx (some ⟨bv, ov, none⟩) (csI (pre.map mv)) ∧ Below w.heap.size w wx) (fun i _ => N - (intOf i).toNat)
        case atStart => exact ⟨0, Nat.zero_le _, rfl, fun q h hq => by omega, HZP.out ▸ e8.out, r8.out, i8.out, b8.out⟩
        case round =>
          obtain ⟨j, hj, rfl, hv, r1, r0, ri, rb⟩ := hrel
          have RB := Lib.hid rb
          have HR0 := Lib.hid r0
          have HV := Lib.hid hv
          have HRI := Lib.hid ri
          clear rb r0 hv e8 r8 b8 i8
          rcases Nat.lt_or_ge j N with hj2 | hj2
          · have hjp : j < pre.length := by rw [HN.out]; exact hj2
            obtain ⟨b', o', e, hb', hc⟩ := Rd.at_ (k := j) ri (by rw [csI_length, List.length_map]; exact hjp)
            injection e with e
            injection e with e1 e2
            subst e1 e2
            rw [show (csI (pre.map mv))[j]'(by rw [csI_length, List.length_map]; exact hjp) = .int .i64 (mv pre[j] : Int) by simp [csI]; rfl] at hc
            clear ri
            have hmv : mv pre[j] = min (vd pre[j]) 4294967296 := rfl
            by_cases hbig : 4294967295 < mv pre[j]
            · have HE : Hid (T = (0, zl, 3)) := Lib.hid (by rw [HP.out, if_pos (fits_big hjp hbig)])
              generalize mv pre[j] = x at *
              clear r1 hmv
              go_wp2_with (refine wpList_store25 rfl (.tmp 2) (.tmp 94) rfl rfl rfl HR0.out (by rw [oc_length, HZL.out]) HZL.out ?_; intro w5 S5 hg5 hz5; have HS5 := Lib.hid S5; have HB5 := Lib.hid (RB.out.grown hg5 RB.out.size (fun k e => by injection e with e; omega)); clear S5 hg5 hz5)
              refine ret25t rfl rfl rfl HS5.out HZL.out rfl ⟨?_, HB5.out⟩
              rw [HE.out]; rfl
            · have hx : mv pre[j] = vd pre[j] := by omega
              have hjm : j < (pre.map vd).length := by rw [List.length_map]; exact hjp
              have hlm : (pre.map vd).length ≤ 16 := by rw [List.length_map, HN.out]; exact hle
              have hp := oid_a' r1 (i := j) (by rw [pad_length (by rw [List.length_take]; omega)]; omega)
              have hf := r1.free (1 + j)
              have HS := Lib.hid (r1.store (1 + j) (.int .u32 (vd pre[j] : Int)))
              have HS2 : Hid (((oc N (pad ((pre.map vd).take j))).set (1 + j) (.int .u32 (vd pre[j] : Int))) = oc N (pad ((pre.map vd).take (j + 1)))) := Lib.hid (by
                have h := pad_set (pre.map vd) j hjm hlm
                rw [List.getElem_map] at h
                rw [Nat.add_comm 1 j, oc_set, h])
              have HF := Lib.hid (HR0.out.far (p := ⟨g, 1 + j, none⟩) (by simp; omega) (.int .u32 (vd pre[j] : Int)))
              have HB := Lib.hid (RB.out.setCell (p := ⟨g, 1 + j, none⟩) (by show w.heap.size ≤ g; omega) (.int .u32 (vd pre[j] : Int)))
              have HI := Lib.hid (Rd.far (B := g) (o := 1 + j) HRI.out HNE.out (.int .u32 (vd pre[j] : Int)))
              have HVV : Hid (∀ q (h : q < pre.length), q < j + 1 → vd pre[q] ≤ 4294967295) := Lib.hid (fun q h hq => by
                rcases Nat.lt_or_ge q j with h2 | h2
                · exact HV.out q h h2
                · obtain rfl : q = j := by omega
                  omega)
              rw [hx] at hc hbig
              clear hx hmv
              generalize vd pre[j] = x at *
              go_wp2_with fail
              exact ⟨⟨j + 1, by omega, by go_num, HVV.out, HS2.out ▸ HS.out, HF.out, HI.out, HB.out⟩, by simp [intOf]; omega⟩
          · obtain rfl : j = N := by omega
            rw [List.take_of_length_le (by rw [List.length_map, HN.out]; exact Nat.le_refl _)] at r1
            have hall : ∀ x ∈ pre.map vd, x < 4294967296 := fun x hx => by
              obtain ⟨q, hq, rfl⟩ := List.mem_map.1 hx
              obtain ⟨k, hk, rfl⟩ := List.getElem_of_mem hq
              have := HV.out k hk (by rw [HN.out] at hk; exact hk)
              omega
            have hfits : fits pre = true := by
              unfold fits
              rw [decide_eq_true (by rw [HN.out]; exact hle), Bool.true_and, List.all_eq_true]
              intro x hx
              have := hall (vd x) (List.mem_map.2 ⟨x, hx, rfl⟩)
              simp; omega
            have ho : OkO j (pad (pre.map vd)) := by
              have := okO_pad (l := pre.map vd) (by rw [List.length_map, HN.out]; exact hle) hall
              rwa [List.length_map, HN.out] at this
            have HP2 : Hid (T = if chkO j (pad (pre.map vd)) = 0 then (j, pad (pre.map vd), 0) else (0, zl, 1)) := Lib.hid (by rw [HP.out, if_neg (by rw [hfits]; simp), HN.out])
            have hpl := ho.len
            have HR1 := Lib.hid r1
            have c01 := chkO_01 j (pad (pre.map vd))
            have HC := Lib.hid (fun W => rcheck_any j (pad (pre.map vd)) W ho)
            clear r1 hfits ho hall HV
            generalize pad (pre.map vd) = pl at *
            unfold GiveF at HC
            rcases c01 with hc0 | hc0
            · rw [hc0] at HC
              have HE : Hid (T = (j, pl, 0)) := Lib.hid (by rw [HP2.out, if_pos hc0])
              clear hc0
              go_wp2_with (first | (refine wpList_load25 rfl (.tmp 9) rfl rfl HR1.out hpl ?_) | (refine wpList_load25 rfl (.tmp 9) rfl rfl R1b.out hpl ?_) | (refine wpList_store25 rfl (.tmp 2) (.tmp 107) rfl rfl rfl R0b.out (by rw [oc_length, HZL.out]) hpl ?_; intro w5 S5 hg5 hz5; have HS5 := Lib.hid S5; have HB5 := Lib.hid (RBb.out.grown hg5 RBb.out.size (fun k e => by injection e with e; omega)); clear S5 hg5 hz5) | (go_at_call 13; refine (HC.out _).mono ?_; rintro e wc ⟨rfl, hbc⟩; have R1b := kt HR1 (Lib.hid hbc); have R0b := kt HR0 (Lib.hid hbc); have RBb := bt RB (Lib.hid hbc); clear hbc))
              refine ret25t rfl rfl rfl HS5.out hpl rfl ⟨?_, HB5.out⟩
              rw [HE.out]; rfl
            · rw [hc0] at HC
              have HE : Hid (T = (0, zl, 1)) := Lib.hid (by rw [HP2.out, if_neg (by omega)])
              clear hc0
              go_wp2_with (first | (refine wpList_load25 rfl (.tmp 9) rfl rfl HR1.out hpl ?_) | (refine wpList_store25 rfl (.tmp 2) (.tmp 106) rfl rfl rfl R0b.out (by rw [oc_length, HZL.out]) HZL.out ?_; intro w5 S5 hg5 hz5; have HS5 := Lib.hid S5; have HB5 := Lib.hid (RBb.out.grown hg5 RBb.out.size (fun k e => by injection e with e; omega)); clear S5 hg5 hz5) | (go_at_call 13; refine (HC.out _).mono ?_; rintro e wc ⟨rfl, hbc⟩; have R1b := kt HR1 (Lib.hid hbc); have R0b := kt HR0 (Lib.hid hbc); have RBb := bt RB (Lib.hid hbc); clear hbc))
              refine ret25t rfl rfl rfl HS5.out HZL.out rfl ⟨?_, HB5.out⟩
              rw [HE.out]; rfl
end Go.Proofs.YtaiiihdckdjpoaaGreatDoor
