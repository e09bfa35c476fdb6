/-
  Layer 10, pure: what is read of a text that a time has; the answers of Of and Parse are determined.
  Conditions: none.
-/
import Derived.Test.YtecmgkmonehmfaaDoorTimZb
namespace Go.Proofs.YtecmgkmonehmfaaDoor.Tim
open Go.RowKit

theorem isD_dig (d : Nat) (h : d < 10) : isD (48 + d) = true := by unfold isD; rw [Bool.and_eq_true, decide_eq_true_eq, decide_eq_true_eq]; omega
theorem num2 (n : Nat) (h : n ≤ 99) : numR (dgl 2 n) = (n : Int) := by
  have e : dgl 2 n = [48 + n / 10 % 10, 48 + n % 10] := by
    show [48 + n / 10 ^ 1 % 10, 48 + n / 10 ^ 0 % 10] = _
    rw [show n / 10 ^ 1 = n / 10 from rfl, show n / 10 ^ 0 = n from Nat.div_one n]
  rw [e]
  unfold numR valD
  rw [if_pos (by simp only [List.all_cons, List.all_nil, isD_dig _ (Nat.mod_lt _ (by decide : 0 < 10))]; rfl)]
  simp only [List.foldl]
  omega
theorem dgl4 (n : Nat) : dgl 4 n = [48 + n / 1000 % 10, 48 + n / 100 % 10, 48 + n / 10 % 10, 48 + n % 10] := by
  show [48 + n / 10 ^ 3 % 10, 48 + n / 10 ^ 2 % 10, 48 + n / 10 ^ 1 % 10, 48 + n / 10 ^ 0 % 10] = _
  rw [show n / 10 ^ 3 = n / 1000 from rfl, show n / 10 ^ 2 = n / 100 from rfl, show n / 10 ^ 1 = n / 10 from rfl, show n / 10 ^ 0 = n from Nat.div_one n]
theorem dgl2 (n : Nat) : dgl 2 n = [48 + n / 10 % 10, 48 + n % 10] := by
  show [48 + n / 10 ^ 1 % 10, 48 + n / 10 ^ 0 % 10] = _
  rw [show n / 10 ^ 1 = n / 10 from rfl, show n / 10 ^ 0 = n from Nat.div_one n]
theorem num4 (n : Nat) (h : n ≤ 9999) : numR (dgl 4 n) = (n : Int) := by
  rw [dgl4]
  unfold numR valD
  rw [if_pos (by simp only [List.all_cons, List.all_nil, isD_dig _ (Nat.mod_lt _ (by decide : 0 < 10))]; rfl)]
  simp only [List.foldl]
  omega
/-- Two digits behind two others. -/
theorem num22 (a b n : Nat) (ha : a < 10) (hb : b < 10) (h : n ≤ 99) : numR ([48 + a, 48 + b] ++ dgl 2 n) = ((1000 * a + 100 * b + n : Nat) : Int) := by
  rw [dgl2]
  unfold numR valD
  rw [if_pos (by simp only [List.cons_append, List.nil_append, List.all_cons, List.all_nil, isD_dig _ (Nat.mod_lt _ (by decide : 0 < 10)), isD_dig _ ha, isD_dig _ hb]; rfl)]
  simp only [List.cons_append, List.nil_append, List.foldl]
  omega
theorem rdS_dig (n d : Nat) (hn : n ≤ 100000) (hd : d < 10) : rdS (n : Int) (48 + d) = ((10 * n + d : Nat) : Int) := by
  have h1 : IntKind.i64.wrap (10 * (n : Int)) = 10 * (n : Int) := by rw [IntKind.wrap_i64]; omega
  have h2 : IntKind.i64.wrap (10 * (n : Int) + ((48 + d : Nat) : Int)) = 10 * (n : Int) + ((48 + d : Nat) : Int) := by rw [IntKind.wrap_i64]; omega
  unfold rdS
  rw [h1, h2, IntKind.wrap_i64]
  omega
theorem rd2 (n : Nat) (h : n ≤ 99) : rdS (rdS 0 (48 + n / 10 % 10)) (48 + n % 10) = (n : Int) := by
  rw [show (0 : Int) = ((0 : Nat) : Int) from rfl, rdS_dig 0 _ (by decide) (Nat.mod_lt _ (by decide)), rdS_dig _ _ (by omega) (Nat.mod_lt _ (by decide))]
  omega
theorem rd4 (n : Nat) (h : n ≤ 9999) : rdS (rdS (rdS (rdS 0 (48 + n / 1000 % 10)) (48 + n / 100 % 10)) (48 + n / 10 % 10)) (48 + n % 10) = (n : Int) := by
  rw [show (0 : Int) = ((0 : Nat) : Int) from rfl, rdS_dig 0 _ (by decide) (Nat.mod_lt _ (by decide)), rdS_dig _ _ (by omega) (Nat.mod_lt _ (by decide)), rdS_dig _ _ (by omega) (Nat.mod_lt _ (by decide)), rdS_dig _ _ (by omega) (Nat.mod_lt _ (by decide))]
  omega
/-- The fields that are read. -/
def RdF (L l : List Nat) (a0 a1 a2 a3 a4 a5 : Int) : Prop := rdG L l 89 L.length = a0 ∧ rdG L l 77 L.length = a1 ∧ rdG L l 68 L.length = a2 ∧ rdG L l 104 L.length = a3 ∧ rdG L l 109 L.length = a4 ∧ rdG L l 115 L.length = a5
theorem tail_list (m d h mi s : Nat) : tailE m d h mi s = [48 + m / 10 % 10, 48 + m % 10, 48 + d / 10 % 10, 48 + d % 10, 48 + h / 10 % 10, 48 + h % 10, 48 + mi / 10 % 10, 48 + mi % 10, 48 + s / 10 % 10, 48 + s % 10, 90] := by
  unfold tailE
  simp only [dgl2]
  rfl
theorem rd_U (y m d h mi s : Nat) (hm : m ≤ 99) (hd : d ≤ 99) (hh : h ≤ 99) (hmi : mi ≤ 99) (hs : s ≤ 99) : RdF LU (txtE 23 y m d h mi s) ((y % 100 : Nat) : Int) m d h mi s := by
  have e : txtE 23 y m d h mi s = [48 + y % 100 / 10 % 10, 48 + y % 100 % 10, 48 + m / 10 % 10, 48 + m % 10, 48 + d / 10 % 10, 48 + d % 10, 48 + h / 10 % 10, 48 + h % 10, 48 + mi / 10 % 10, 48 + mi % 10, 48 + s / 10 % 10, 48 + s % 10, 90] := by
    show dgl 2 (y % 100) ++ tailE m d h mi s = _
    rw [tail_list, dgl2]
    rfl
  rw [e]
  exact ⟨rd2 (y % 100) (by omega), rd2 m hm, rd2 d hd, rd2 h hh, rd2 mi hmi, rd2 s hs⟩
theorem rd_G (y m d h mi s : Nat) (hy : y ≤ 9999) (hm : m ≤ 99) (hd : d ≤ 99) (hh : h ≤ 99) (hmi : mi ≤ 99) (hs : s ≤ 99) : RdF LG (txtE 24 y m d h mi s) y m d h mi s := by
  have e : txtE 24 y m d h mi s = [48 + y / 1000 % 10, 48 + y / 100 % 10, 48 + y / 10 % 10, 48 + y % 10, 48 + m / 10 % 10, 48 + m % 10, 48 + d / 10 % 10, 48 + d % 10, 48 + h / 10 % 10, 48 + h % 10, 48 + mi / 10 % 10, 48 + mi % 10, 48 + s / 10 % 10, 48 + s % 10, 90] := by
    show dgl 4 y ++ tailE m d h mi s = _
    rw [tail_list, dgl4]
    rfl
  rw [e]
  exact ⟨rd4 y hy, rd2 m hm, rd2 d hd, rd2 h hh, rd2 mi hmi, rd2 s hs⟩
theorem txtX_list (y m d h mi s : Nat) : txtX y m d h mi s = [48 + y / 1000 % 10, 48 + y / 100 % 10, 48 + y / 10 % 10, 48 + y % 10, 45, 48 + m / 10 % 10, 48 + m % 10, 45, 48 + d / 10 % 10, 48 + d % 10, 84, 48 + h / 10 % 10, 48 + h % 10, 58, 48 + mi / 10 % 10, 48 + mi % 10, 58, 48 + s / 10 % 10, 48 + s % 10, 90] := by
  unfold txtX
  simp only [dgl2, dgl4]
  rfl
theorem rd_X (y m d h mi s : Nat) (hy : y ≤ 9999) (hm : m ≤ 99) (hd : d ≤ 99) (hh : h ≤ 99) (hmi : mi ≤ 99) (hs : s ≤ 99) : RdF LX (txtX y m d h mi s) y m d h mi s := by
  rw [txtX_list]
  exact ⟨rd4 y hy, rd2 m hm, rd2 d hd, rd2 h hh, rd2 mi hmi, rd2 s hs⟩
/-- The bounds of a valid time. -/
theorem ck_in {a0 a1 a2 a3 a4 a5 : Int} (h : ck a0 a1 a2 a3 a4 a5 = 0) : (0 ≤ a0 ∧ a0 ≤ 9999) ∧ (1 ≤ a1 ∧ a1 ≤ 12) ∧ (1 ≤ a2 ∧ a2 ≤ (dyT a0 a1 : Int)) ∧ (0 ≤ a3 ∧ a3 ≤ 23) ∧ (0 ≤ a4 ∧ a4 ≤ 59) ∧ (0 ≤ a5 ∧ a5 ≤ 59) := by
  unfold ck at h
  split at h
  · rename_i h1
    unfold ckD ckC inI at h1
    simp only [Bool.and_eq_true, decide_eq_true_eq] at h1
    omega
  · cases h
theorem ck_of {a0 a1 a2 a3 a4 a5 : Int} (h : (0 ≤ a0 ∧ a0 ≤ 9999) ∧ (1 ≤ a1 ∧ a1 ≤ 12) ∧ (1 ≤ a2 ∧ a2 ≤ (dyT a0 a1 : Int)) ∧ (0 ≤ a3 ∧ a3 ≤ 23) ∧ (0 ≤ a4 ∧ a4 ≤ 59) ∧ (0 ≤ a5 ∧ a5 ≤ 59)) : ck a0 a1 a2 a3 a4 a5 = 0 := by
  unfold ck
  rw [if_pos]
  unfold ckD ckC inI
  simp only [Bool.and_eq_true, decide_eq_true_eq]
  omega
theorem ck_01 (a0 a1 a2 a3 a4 a5 : Int) : ck a0 a1 a2 a3 a4 a5 = 0 ∨ ck a0 a1 a2 a3 a4 a5 = 1 := by
  unfold ck
  split
  · exact .inl rfl
  · exact .inr rfl
/-- The bounds of a valid time, of natural numbers. -/
theorem ck_nat {y m d h mi s : Nat} (hc : ck y m d h mi s = 0) : y ≤ 9999 ∧ 1 ≤ m ∧ m ≤ 12 ∧ 1 ≤ d ∧ d ≤ dyT y m ∧ d ≤ 31 ∧ h ≤ 23 ∧ mi ≤ 59 ∧ s ≤ 59 := by
  have h1 := ck_in hc
  have h2 : dyT y m ≤ 31 := by
    have hk : m - 1 < 12 := by omega
    have e : ((m : Nat) : Int) = ((m - 1 : Nat) : Int) + 1 := by omega
    rw [e, dyT_in hk]
    have hmd := md_le (m - 1) hk
    by_cases hc : m - 1 = 1 ∧ lpT (y : Int) = true
    · rw [if_pos hc, hc.1]; decide
    · rw [if_neg hc]; omega
  omega
/-- A valid time has letters of its own. -/
theorem ck_letters {a0 a1 a2 a3 a4 a5 : Int} (h : ck a0 a1 a2 a3 a4 a5 = 0) : ∃ y m d h mi s : Nat, a0 = y ∧ a1 = m ∧ a2 = d ∧ a3 = h ∧ a4 = mi ∧ a5 = s := by
  have h1 := ck_in h
  exact ⟨a0.toNat, a1.toNat, a2.toNat, a3.toNat, a4.toNat, a5.toNat, by omega, by omega, by omega, by omega, by omega, by omega⟩
/-- The valid times with a content. -/
def GoodE (k : Nat) (l : List Nat) (y m d h mi s : Nat) : Prop := ck y m d h mi s = 0 ∧ tagN y = k ∧ txtE k y m d h mi s = l
def GoodX (l : List Nat) (y m d h mi s : Nat) : Prop := ck y m d h mi s = 0 ∧ txtX y m d h mi s = l
theorem tagN_23 {y : Nat} (h : tagN y = 23) : 1950 ≤ y ∧ y ≤ 2049 := by
  unfold tagN at h
  split at h
  · assumption
  · cases h
theorem tagN_two (y : Nat) : tagN y = 23 ∨ tagN y = 24 := by unfold tagN; split <;> simp
theorem fullI_of {y : Nat} (h : tagN y = 23) : fullI ((y % 100 : Nat) : Int) = (y : Int) := by
  have := tagN_23 h
  unfold fullI
  split <;> omega
/-- What the program reads of a content. -/
theorem GoodE.prog {l : List Nat} {y m d h mi s : Nat} (g : GoodE 23 l y m d h mi s) : RdF LU l ((y % 100 : Nat) : Int) m d h mi s := by
  have hc := ck_nat g.1
  rw [← g.2.2]
  exact rd_U y m d h mi s (by omega) (by omega) (by omega) (by omega) (by omega)
theorem GoodE.progG {l : List Nat} {y m d h mi s : Nat} (g : GoodE 24 l y m d h mi s) : RdF LG l y m d h mi s := by
  have hc := ck_nat g.1
  rw [← g.2.2]
  exact rd_G y m d h mi s (by omega) (by omega) (by omega) (by omega) (by omega) (by omega)
theorem GoodX.prog {l : List Nat} {y m d h mi s : Nat} (g : GoodX l y m d h mi s) : RdF LX l y m d h mi s := by
  have hc := ck_nat g.1
  rw [← g.2]
  exact rd_X y m d h mi s (by omega) (by omega) (by omega) (by omega) (by omega) (by omega)
/-- What the reference reads. -/
def NmF (l : List Nat) (i0 j0 i1 j1 i2 j2 i3 j3 i4 j4 i5 j5 : Nat) (a0 a1 a2 a3 a4 a5 : Int) : Prop := numP l i0 j0 = a0 ∧ numP l i1 j1 = a1 ∧ numP l i2 j2 = a2 ∧ numP l i3 j3 = a3 ∧ numP l i4 j4 = a4 ∧ numP l i5 j5 = a5
theorem GoodX.ref {l : List Nat} {y m d h mi s : Nat} (g : GoodX l y m d h mi s) : NmF l 0 4 5 7 8 10 11 13 14 16 17 19 y m d h mi s := by
  have hc := ck_nat g.1
  rw [← g.2]
  exact ⟨num4 y (by omega), num2 m (by omega), num2 d (by omega), num2 h (by omega), num2 mi (by omega), num2 s (by omega)⟩
theorem GoodE.refG {l : List Nat} {y m d h mi s : Nat} (g : GoodE 24 l y m d h mi s) : NmF l 0 4 4 6 6 8 8 10 10 12 12 14 y m d h mi s := by
  have hc := ck_nat g.1
  rw [← g.2.2]
  exact ⟨num4 y (by omega), num2 m (by omega), num2 d (by omega), num2 h (by omega), num2 mi (by omega), num2 s (by omega)⟩
/-- The digits of the century. -/
def cen (x : Nat) : List Nat := if x < 53 then [50, 48] else [49, 57]
theorem cen_good {y m d h mi s : Nat} (ht : tagN y = 23) : cen ((txtE 23 y m d h mi s).getD 0 0) ++ dgl 2 (y % 100) = dgl 4 y := by
  have h1 := tagN_23 ht
  have e : (txtE 23 y m d h mi s).getD 0 0 = 48 + y % 100 / 10 % 10 := by
    show (dgl 2 (y % 100) ++ tailE m d h mi s).getD 0 0 = _
    rw [dgl2]
    rfl
  rw [e, dgl4, dgl2]
  unfold cen
  by_cases h2 : 2000 ≤ y
  · rw [if_pos (by omega)]
    simp only [List.cons_append, List.nil_append, List.cons.injEq, and_true]
    omega
  · rw [if_neg (by omega)]
    simp only [List.cons_append, List.nil_append, List.cons.injEq, and_true]
    omega
theorem GoodE.refU {l : List Nat} {y m d h mi s : Nat} (g : GoodE 23 l y m d h mi s) : NmF (cen (l.getD 0 0) ++ l) 0 4 4 6 6 8 8 10 10 12 12 14 y m d h mi s := by
  have hc := ck_nat g.1
  have e : cen (l.getD 0 0) ++ l = dgl 4 y ++ tailE m d h mi s := by
    rw [← cen_good (m := m) (d := d) (h := h) (mi := mi) (s := s) g.2.1, ← g.2.2]
    show _ ++ (dgl 2 (y % 100) ++ _) = _
    rw [List.append_assoc]
  rw [e]
  exact ⟨num4 y (by omega), num2 m (by omega), num2 d (by omega), num2 h (by omega), num2 mi (by omega), num2 s (by omega)⟩
theorem len_E (k y m d h mi s : Nat) (hk : k = 23 ∨ k = 24) : (txtE k y m d h mi s).length = if k = 23 then 13 else 15 := by
  rcases hk with rfl | rfl
  · rw [← wrT_U, wrT_len]; rfl
  · rw [← wrT_G, wrT_len]; rfl
/-- What Of answers, of one of its two tags. -/
def AnsE (k : Nat) (l : List Nat) (T : List Value) (f : Int) : Prop := (∃ y m d h mi s, GoodE k l y m d h mi s ∧ T = tL y m d h mi s ∧ f = 0) ∨ ((∀ y m d h mi s, ¬ GoodE k l y m d h mi s) ∧ T = tL 0 0 0 0 0 0 ∧ f = 11)
/-- What Parse answers. -/
def AnsX (l : List Nat) (T : List Value) (f : Int) : Prop := (∃ y m d h mi s, GoodX l y m d h mi s ∧ T = tL y m d h mi s ∧ f = 0) ∨ ((∀ y m d h mi s, ¬ GoodX l y m d h mi s) ∧ T = tL 0 0 0 0 0 0 ∧ f = 6)
theorem cast_eq {a b : Nat} {x : Int} (h1 : x = (a : Int)) (h2 : x = (b : Int)) : a = b := by omega
theorem GoodX.uniq {l : List Nat} {y m d h mi s y2 m2 d2 h2 mi2 s2 : Nat} (g : GoodX l y m d h mi s) (g2 : GoodX l y2 m2 d2 h2 mi2 s2) : y = y2 ∧ m = m2 ∧ d = d2 ∧ h = h2 ∧ mi = mi2 ∧ s = s2 := by
  obtain ⟨a0, a1, a2, a3, a4, a5⟩ := g.ref
  obtain ⟨b0, b1, b2, b3, b4, b5⟩ := g2.ref
  exact ⟨cast_eq a0 b0, cast_eq a1 b1, cast_eq a2 b2, cast_eq a3 b3, cast_eq a4 b4, cast_eq a5 b5⟩
theorem GoodE.uniq {k : Nat} {l : List Nat} {y m d h mi s y2 m2 d2 h2 mi2 s2 : Nat} (hk : k = 23 ∨ k = 24) (g : GoodE k l y m d h mi s) (g2 : GoodE k l y2 m2 d2 h2 mi2 s2) : y = y2 ∧ m = m2 ∧ d = d2 ∧ h = h2 ∧ mi = mi2 ∧ s = s2 := by
  rcases hk with rfl | rfl
  · obtain ⟨a0, a1, a2, a3, a4, a5⟩ := g.refU
    obtain ⟨b0, b1, b2, b3, b4, b5⟩ := g2.refU
    exact ⟨cast_eq a0 b0, cast_eq a1 b1, cast_eq a2 b2, cast_eq a3 b3, cast_eq a4 b4, cast_eq a5 b5⟩
  · obtain ⟨a0, a1, a2, a3, a4, a5⟩ := g.refG
    obtain ⟨b0, b1, b2, b3, b4, b5⟩ := g2.refG
    exact ⟨cast_eq a0 b0, cast_eq a1 b1, cast_eq a2 b2, cast_eq a3 b3, cast_eq a4 b4, cast_eq a5 b5⟩
theorem AnsE.uniq {k : Nat} {l : List Nat} {T T2 : List Value} {f f2 : Int} (hk : k = 23 ∨ k = 24) (h : AnsE k l T f) (h2 : AnsE k l T2 f2) : T = T2 ∧ f = f2 := by
  rcases h with ⟨y, m, d, h, mi, s, g, rfl, rfl⟩ | ⟨n, rfl, rfl⟩ <;> rcases h2 with ⟨y2, m2, d2, h2, mi2, s2, g2, rfl, rfl⟩ | ⟨n2, rfl, rfl⟩
  · obtain ⟨rfl, rfl, rfl, rfl, rfl, rfl⟩ := g.uniq hk g2
    exact ⟨rfl, rfl⟩
  · exact absurd g (n2 _ _ _ _ _ _)
  · exact absurd g2 (n _ _ _ _ _ _)
  · exact ⟨rfl, rfl⟩
theorem AnsX.uniq {l : List Nat} {T T2 : List Value} {f f2 : Int} (h : AnsX l T f) (h2 : AnsX l T2 f2) : T = T2 ∧ f = f2 := by
  rcases h with ⟨y, m, d, h, mi, s, g, rfl, rfl⟩ | ⟨n, rfl, rfl⟩ <;> rcases h2 with ⟨y2, m2, d2, h2, mi2, s2, g2, rfl, rfl⟩ | ⟨n2, rfl, rfl⟩
  · obtain ⟨rfl, rfl, rfl, rfl, rfl, rfl⟩ := g.uniq g2
    exact ⟨rfl, rfl⟩
  · exact absurd g (n2 _ _ _ _ _ _)
  · exact absurd g2 (n _ _ _ _ _ _)
  · exact ⟨rfl, rfl⟩
end Go.Proofs.YtecmgkmonehmfaaDoor.Tim
