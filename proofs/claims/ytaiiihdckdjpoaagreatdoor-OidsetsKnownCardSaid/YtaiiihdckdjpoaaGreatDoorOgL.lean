/-
  Layer 7: sets as lists: valid OIDs in strictly ascending order; two such lists with the same elements are one; what the merge, the insertion, the filters, the distinct elements of a list hold.
  Conditions: none (plain lists).
-/
import Derived.Test.YtaiiihdckdjpoaaGreatDoorOgK
import Derived.Test.YtaiiihdckdjpoaaGreatDoorOgH
import Derived.Test.YtaiiihdckdjpoaaGreatDoorOgG
import Derived.Test.YtaiiihdckdjpoaaGreatDoorOgB
import Derived.Test.YtaiiihdckdjpoaaGreatDoorOgE
namespace Go.Proofs.YtaiiihdckdjpoaaGreatDoor
open Go.RowKit

/-- A set: valid OIDs in strictly ascending order. -/
structure SetO (L : List Od) : Prop where
  ok : OkL L
  vd : ∀ o ∈ L, chkO o.1 o.2 = 0
  asc : L.Pairwise (fun x y => cmpO x.1 x.2 y.1 y.2 < 0)
/-- Valid OIDs. -/
structure ValO (L : List Od) : Prop where
  ok : OkL L
  vd : ∀ o ∈ L, chkO o.1 o.2 = 0
theorem SetO.val {L : List Od} (h : SetO L) : ValO L := ⟨h.ok, h.vd⟩
theorem ValO.app {L M : List Od} (h : ValO L) (k : ValO M) : ValO (L ++ M) := ⟨h.ok.app k.ok, fun o ho => by
  rcases List.mem_append.1 ho with ho | ho
  · exact h.vd o ho
  · exact k.vd o ho⟩
theorem cmpO_lt {a b c : Od} (h1 : cmpO a.1 a.2 b.1 b.2 < 0) (h2 : cmpO b.1 b.2 c.1 c.2 < 0) : cmpO a.1 a.2 c.1 c.2 < 0 := by
  have h := cmpO_le (Int.le_of_lt h1) (Int.le_of_lt h2)
  rcases Int.lt_or_eq_of_le h with h | h
  · exact h
  · exfalso
    unfold cmpO at h h1 h2
    have e := cmpL_zero h
    rw [← e, cmpL_anti] at h2
    omega
theorem cmpO_irr (a : Od) : ¬ cmpO a.1 a.2 a.1 a.2 < 0 := by rw [cmpO_self]; decide
theorem cmpO_asym {a b : Od} (h : cmpO a.1 a.2 b.1 b.2 < 0) : ¬ cmpO b.1 b.2 a.1 a.2 < 0 := by
  have := cmpO_anti a.1 a.2 b.1 b.2
  omega
theorem cmpO_tri {a b : Od} (ha : OkO a.1 a.2) (hb : OkO b.1 b.2) (h1 : chkO a.1 a.2 = 0) (h2 : chkO b.1 b.2 = 0) : cmpO a.1 a.2 b.1 b.2 < 0 ∨ a = b ∨ cmpO b.1 b.2 a.1 a.2 < 0 := by
  have h := cmpO_anti a.1 a.2 b.1 b.2
  have hz := cmpO_zero ha hb h1 h2
  rcases Int.lt_trichotomy (cmpO a.1 a.2 b.1 b.2) 0 with h3 | h3 | h3
  · exact .inl h3
  · have := hz.1 h3
    exact .inr (.inl (Prod.ext this.1 this.2))
  · exact .inr (.inr (by omega))
theorem SetO.nil : SetO [] := ⟨OkL.nil, fun _ h => absurd h (by simp), List.Pairwise.nil⟩
theorem SetO.cons {x : Od} {L : List Od} (hx : OkO x.1 x.2) (h1 : chkO x.1 x.2 = 0) (h2 : ∀ z ∈ L, cmpO x.1 x.2 z.1 z.2 < 0) (h : SetO L) : SetO (x :: L) :=
  ⟨OkL.cons hx h.ok, fun o ho => by
    rcases List.mem_cons.1 ho with rfl | ho
    · exact h1
    · exact h.vd o ho, List.Pairwise.cons h2 h.asc⟩
theorem SetO.tail {x : Od} {L : List Od} (h : SetO (x :: L)) : SetO L :=
  ⟨fun o ho => h.ok o (List.mem_cons_of_mem _ ho), fun o ho => h.vd o (List.mem_cons_of_mem _ ho), (List.pairwise_cons.1 h.asc).2⟩
theorem SetO.head {x : Od} {L : List Od} (h : SetO (x :: L)) : OkO x.1 x.2 ∧ chkO x.1 x.2 = 0 ∧ ∀ z ∈ L, cmpO x.1 x.2 z.1 z.2 < 0 :=
  ⟨h.ok x (by simp), h.vd x (by simp), (List.pairwise_cons.1 h.asc).1⟩
theorem SetO.notin {x : Od} {L : List Od} (h : SetO (x :: L)) : x ∉ L := fun hx => cmpO_irr x (h.head.2.2 x hx)
theorem SetO.filter {L : List Od} (h : SetO L) (p : Od → Bool) : SetO (L.filter p) :=
  ⟨fun o ho => h.ok o ((List.mem_filter.1 ho).1), fun o ho => h.vd o ((List.mem_filter.1 ho).1), h.asc.filter p⟩
/-- Two sets with the same elements are one list. -/
theorem SetO.uniq : ∀ {L M : List Od}, SetO L → SetO M → (∀ x, x ∈ L ↔ x ∈ M) → L = M
  | [], [], _, _, _ => rfl
  | [], y :: M, _, _, h => absurd ((h y).2 (by simp)) (by simp)
  | x :: L, [], _, _, h => absurd ((h x).1 (by simp)) (by simp)
  | x :: L, y :: M, hL, hM, h => by
    have e : x = y := by
      rcases List.mem_cons.1 ((h x).1 (by simp)) with e | hx
      · exact e
      · rcases List.mem_cons.1 ((h y).2 (by simp)) with e | hy
        · exact e.symm
        · exact absurd (hM.head.2.2 x hx) (cmpO_asym (hL.head.2.2 y hy))
    subst e
    rw [SetO.uniq hL.tail hM.tail fun z => ?_]
    constructor
    · intro hz
      rcases List.mem_cons.1 ((h z).1 (List.mem_cons_of_mem _ hz)) with rfl | hz2
      · exact absurd hz hL.notin
      · exact hz2
    · intro hz
      rcases List.mem_cons.1 ((h z).2 (List.mem_cons_of_mem _ hz)) with rfl | hz2
      · exact absurd hz hM.notin
      · exact hz2

/-! Check. -/
theorem chkS_zero : ∀ (L : List Od) (q : Od), chkS (some q) L = 0 ↔ (∀ o ∈ L, chkO o.1 o.2 = 0) ∧ (q :: L).Pairwise (fun x y => cmpO x.1 x.2 y.1 y.2 < 0)
  | [], q => by simp [chkS]
  | o :: L, q => by
    have ih := chkS_zero L o
    rw [chkS]
    by_cases h1 : chkO o.1 o.2 ≠ 0
    · rw [if_pos h1]
      exact ⟨fun h => absurd h (by decide), fun h => absurd (h.1 o (by simp)) h1⟩
    · rw [if_neg h1]
      by_cases h2 : cmpO q.1 q.2 o.1 o.2 = 0
      · rw [if_pos h2]
        refine ⟨fun h => absurd h (by decide), fun h => ?_⟩
        have := (List.pairwise_cons.1 h.2).1 o (by simp)
        omega
      · rw [if_neg h2]
        by_cases h3 : 0 < cmpO q.1 q.2 o.1 o.2
        · rw [if_pos h3]
          refine ⟨fun h => absurd h (by decide), fun h => ?_⟩
          have := (List.pairwise_cons.1 h.2).1 o (by simp)
          omega
        · rw [if_neg h3, ih]
          have hlt : cmpO q.1 q.2 o.1 o.2 < 0 := by omega
          constructor
          · rintro ⟨h4, h5⟩
            refine ⟨fun z hz => ?_, List.Pairwise.cons (fun z hz => ?_) h5⟩
            · rcases List.mem_cons.1 hz with rfl | hz
              · omega
              · exact h4 z hz
            · rcases List.mem_cons.1 hz with rfl | hz
              · exact hlt
              · exact cmpO_lt hlt ((List.pairwise_cons.1 h5).1 z hz)
          · rintro ⟨h4, h5⟩
            exact ⟨fun z hz => h4 z (List.mem_cons_of_mem _ hz), (List.pairwise_cons.1 h5).2⟩
theorem chkW_zero {L : List Od} (hok : OkL L) : chkW L = 0 ↔ SetO L ∧ L.length ≤ 256 := by
  unfold chkW
  by_cases h : 256 < L.length
  · rw [if_pos h]
    exact ⟨fun h => absurd h (by decide), fun h2 => by omega⟩
  · rw [if_neg h]
    cases L with
    | nil => exact ⟨fun _ => ⟨SetO.nil, by simp⟩, fun _ => rfl⟩
    | cons o L =>
      rw [chkS]
      by_cases h1 : chkO o.1 o.2 ≠ 0
      · rw [if_pos h1]
        exact ⟨fun h => absurd h (by decide), fun h2 => absurd (h2.1.vd o (by simp)) h1⟩
      · rw [if_neg h1]
        rw [chkS_zero]
        constructor
        · rintro ⟨h2, h3⟩
          refine ⟨⟨hok, fun z hz => ?_, h3⟩, by omega⟩
          rcases List.mem_cons.1 hz with rfl | hz
          · omega
          · exact h2 z hz
        · rintro ⟨h2, _⟩
          exact ⟨fun z hz => h2.vd z (List.mem_cons_of_mem _ hz), h2.asc⟩
theorem SetO.chk {L : List Od} (h : SetO L) (hl : L.length ≤ 256) : chkW L = 0 := (chkW_zero h.ok).2 ⟨h, hl⟩

/-! The merge. -/
theorem mem_if {b : Bool} {x z : Od} {R : List Od} : z ∈ (if b = true then [x] else []) ++ R ↔ (z = x ∧ b = true) ∨ z ∈ R := by
  cases b <;> simp
theorem mrg_spec (kf : Bool → Bool → Bool) : ∀ (n : Nat) (L M : List Od), L.length + M.length ≤ n → SetO L → SetO M →
    SetO (mrg kf n L M) ∧ ∀ z, z ∈ mrg kf n L M ↔ (z ∈ L ∨ z ∈ M) ∧ kf (decide (z ∈ L)) (decide (z ∈ M)) = true
  | 0, L, M, hl, _, _ => by
    obtain rfl : L = [] := List.eq_nil_of_length_eq_zero (by omega)
    obtain rfl : M = [] := List.eq_nil_of_length_eq_zero (by omega)
    exact ⟨SetO.nil, fun z => by simp [mrg]⟩
  | n + 1, [], [], _, _, _ => ⟨SetO.nil, fun z => by simp [mrg]⟩
  | n + 1, x :: a, [], hl, hL, hM => by
    have ih := mrg_spec kf n a [] (by simp at hl ⊢; omega) hL.tail hM
    have hx := hL.notin
    rw [mrg]
    have hm : ∀ z, z ∈ (if kf true false = true then [x] else []) ++ mrg kf n a [] ↔ (z ∈ x :: a ∨ z ∈ []) ∧ kf (decide (z ∈ x :: a)) (decide (z ∈ ([] : List Od))) = true := fun z => by
      rw [mem_if, ih.2]
      by_cases e : z = x
      · subst e; simp [hx]
      · simp [e]
    refine ⟨?_, hm⟩
    cases hk : kf true false
    · simpa using ih.1
    · exact SetO.cons hL.head.1 hL.head.2.1 (fun z hz => by
        have := ((ih.2 z).1 hz).1
        simp only [List.not_mem_nil, or_false] at this
        exact hL.head.2.2 z this) ih.1
  | n + 1, [], y :: b, hl, hL, hM => by
    have ih := mrg_spec kf n [] b (by simp at hl ⊢; omega) hL hM.tail
    have hy := hM.notin
    rw [mrg]
    have hm : ∀ z, z ∈ (if kf false true = true then [y] else []) ++ mrg kf n [] b ↔ (z ∈ [] ∨ z ∈ y :: b) ∧ kf (decide (z ∈ ([] : List Od))) (decide (z ∈ y :: b)) = true := fun z => by
      rw [mem_if, ih.2]
      by_cases e : z = y
      · subst e; simp [hy]
      · simp [e]
    refine ⟨?_, hm⟩
    cases hk : kf false true
    · simpa using ih.1
    · exact SetO.cons hM.head.1 hM.head.2.1 (fun z hz => by
        have := ((ih.2 z).1 hz).1
        simp only [List.not_mem_nil, false_or] at this
        exact hM.head.2.2 z this) ih.1
  | n + 1, x :: a, y :: b, hl, hL, hM => by
    have hx := hL.notin
    have hy := hM.notin
    rw [mrg]
    by_cases h1 : cmpO x.1 x.2 y.1 y.2 < 0
    · rw [if_pos h1]
      have ih := mrg_spec kf n a (y :: b) (by simp at hl ⊢; omega) hL.tail hM
      have hlt : ∀ z ∈ y :: b, cmpO x.1 x.2 z.1 z.2 < 0 := fun z hz => by
        rcases List.mem_cons.1 hz with rfl | hz
        · exact h1
        · exact cmpO_lt h1 (hM.head.2.2 z hz)
      have hxm : x ∉ y :: b := fun h => cmpO_irr x (hlt x h)
      refine ⟨?_, fun z => ?_⟩
      · cases hk : kf true false
        · simpa using ih.1
        · exact SetO.cons hL.head.1 hL.head.2.1 (fun z hz => by
            rcases ((ih.2 z).1 hz).1 with h | h
            · exact hL.head.2.2 z h
            · exact hlt z h) ih.1
      · rw [mem_if, ih.2]
        by_cases e : z = x
        · subst e; simp only [hx, hxm]; simp
        · simp [e]
    · rw [if_neg h1]
      by_cases h2 : cmpO x.1 x.2 y.1 y.2 = 0
      · rw [if_pos h2]
        have e := (cmpO_zero hL.head.1 hM.head.1 hL.head.2.1 hM.head.2.1).1 h2
        obtain rfl : x = y := Prod.ext e.1 e.2
        have ih := mrg_spec kf n a b (by simp at hl ⊢; omega) hL.tail hM.tail
        refine ⟨?_, fun z => ?_⟩
        · cases hk : kf true true
          · simpa using ih.1
          · exact SetO.cons hL.head.1 hL.head.2.1 (fun z hz => by
              rcases ((ih.2 z).1 hz).1 with h | h
              · exact hL.head.2.2 z h
              · exact hM.head.2.2 z h) ih.1
        · rw [mem_if, ih.2]
          by_cases e : z = x
          · subst e; simp [hx, hy]
          · simp [e]
      · rw [if_neg h2]
        have h3 : cmpO y.1 y.2 x.1 x.2 < 0 := by
          have := cmpO_anti x.1 x.2 y.1 y.2
          omega
        have ih := mrg_spec kf n (x :: a) b (by simp at hl ⊢; omega) hL hM.tail
        have hlt : ∀ z ∈ x :: a, cmpO y.1 y.2 z.1 z.2 < 0 := fun z hz => by
          rcases List.mem_cons.1 hz with rfl | hz
          · exact h3
          · exact cmpO_lt h3 (hL.head.2.2 z hz)
        have hym : y ∉ x :: a := fun h => cmpO_irr y (hlt y h)
        refine ⟨?_, fun z => ?_⟩
        · cases hk : kf false true
          · simpa using ih.1
          · exact SetO.cons hM.head.1 hM.head.2.1 (fun z hz => by
              rcases ((ih.2 z).1 hz).1 with h | h
              · exact hlt z h
              · exact hM.head.2.2 z h) ih.1
        · rw [mem_if, ih.2]
          by_cases e : z = y
          · subst e; simp only [hy, hym]; simp
          · simp [e]
theorem mem_uni {L M : List Od} (hL : SetO L) (hM : SetO M) (z : Od) : z ∈ mrg uK (L.length + M.length) L M ↔ z ∈ L ∨ z ∈ M := by
  rw [(mrg_spec uK _ L M (Nat.le_refl _) hL hM).2 z]
  unfold uK
  simp
theorem mem_com {L M : List Od} (hL : SetO L) (hM : SetO M) (z : Od) : z ∈ mrg cK (L.length + M.length) L M ↔ z ∈ L ∧ z ∈ M := by
  rw [(mrg_spec cK _ L M (Nat.le_refl _) hL hM).2 z]
  unfold cK
  simp only [Bool.and_eq_true, decide_eq_true_eq]
  exact ⟨fun h => h.2, fun h => ⟨.inl h.1, h⟩⟩
theorem mem_min {L M : List Od} (hL : SetO L) (hM : SetO M) (z : Od) : z ∈ mrg mK (L.length + M.length) L M ↔ z ∈ L ∧ z ∉ M := by
  rw [(mrg_spec mK _ L M (Nat.le_refl _) hL hM).2 z]
  unfold mK
  simp only [Bool.and_eq_true, Bool.not_eq_true', decide_eq_true_eq, decide_eq_false_iff_not]
  exact ⟨fun h => h.2, fun h => ⟨.inl h.1, h⟩⟩
theorem set_mrg (kf : Bool → Bool → Bool) {L M : List Od} (hL : SetO L) (hM : SetO M) : SetO (mrg kf (L.length + M.length) L M) := (mrg_spec kf _ L M (Nat.le_refl _) hL hM).1
theorem com_filter {L M : List Od} (hL : SetO L) (hM : SetO M) : mrg cK (L.length + M.length) L M = L.filter fun o => decide (o ∈ M) :=
  (set_mrg cK hL hM).uniq (hL.filter _) fun z => by rw [mem_com hL hM, List.mem_filter, decide_eq_true_eq]
theorem min_filter {L M : List Od} (hL : SetO L) (hM : SetO M) : mrg mK (L.length + M.length) L M = L.filter fun o => !(decide (o ∈ M)) :=
  (set_mrg mK hL hM).uniq (hL.filter _) fun z => by rw [mem_min hL hM, List.mem_filter, Bool.not_eq_true', decide_eq_false_iff_not]

/-! The insertion. -/
theorem ins_set (o : Od) (ho : OkO o.1 o.2) (h1 : chkO o.1 o.2 = 0) : ∀ {L : List Od}, SetO L → o ∉ L → SetO (L.takeWhile (lsO o) ++ [o] ++ L.dropWhile (lsO o))
  | [], _, _ => SetO.cons ho h1 (fun z hz => absurd hz (by simp)) SetO.nil
  | x :: L, h, hn => by
    by_cases hx : lsO o x = true
    · rw [List.takeWhile_cons_of_pos hx, List.dropWhile_cons_of_pos hx, List.cons_append, List.cons_append]
      have hxo : cmpO x.1 x.2 o.1 o.2 < 0 := by unfold lsO at hx; simpa using hx
      refine SetO.cons h.head.1 h.head.2.1 (fun z hz => ?_) (ins_set o ho h1 h.tail fun h => hn (List.mem_cons_of_mem _ h))
      rw [List.append_assoc, List.mem_append, List.mem_append, List.mem_singleton] at hz
      rcases hz with hz | rfl | hz
      · exact h.head.2.2 z (List.takeWhile_subset _ hz)
      · exact hxo
      · exact h.head.2.2 z (List.dropWhile_subset _ hz)
    · rw [List.takeWhile_cons_of_neg hx, List.dropWhile_cons_of_neg hx]
      have hox : cmpO o.1 o.2 x.1 x.2 < 0 := by
        have hx' : ¬ cmpO x.1 x.2 o.1 o.2 < 0 := by unfold lsO at hx; simpa using hx
        rcases cmpO_tri ho h.head.1 h1 h.head.2.1 with h2 | rfl | h2
        · exact h2
        · exact absurd (List.mem_cons_self) hn
        · exact absurd h2 hx'
      exact SetO.cons ho h1 (fun z hz => by
        rcases List.mem_cons.1 hz with rfl | hz
        · exact hox
        · exact cmpO_lt hox (h.head.2.2 z hz)) h
theorem insR_set {L : List Od} {o : Od} (h : SetO L) (ho : OkO o.1 o.2) (h1 : chkO o.1 o.2 = 0) : SetO (insR L o) := by
  unfold insR
  split
  · exact h
  · rename_i hn
    exact ins_set o ho h1 h hn
theorem mem_insR {L : List Od} {o z : Od} : z ∈ insR L o ↔ z ∈ L ∨ z = o := by
  unfold insR
  split
  · rename_i h
    exact ⟨.inl, fun h2 => by
      rcases h2 with h2 | rfl
      · exact h2
      · exact h⟩
  · have e := List.takeWhile_append_dropWhile (p := lsO o) (l := L)
    constructor
    · intro hz
      rw [List.append_assoc, List.mem_append, List.mem_append, List.mem_singleton] at hz
      rcases hz with hz | rfl | hz
      · exact .inl (List.takeWhile_subset _ hz)
      · exact .inr rfl
      · exact .inl (List.dropWhile_subset _ hz)
    · intro hz
      rw [List.append_assoc, List.mem_append, List.mem_append, List.mem_singleton]
      rcases hz with hz | rfl
      · rw [← e, List.mem_append] at hz
        rcases hz with hz | hz
        · exact .inl hz
        · exact .inr (.inr hz)
      · exact .inr (.inl rfl)
theorem ofR_spec' : ∀ (L A : List Od), ValO L → SetO A → SetO (L.foldl insR A) ∧ ∀ z, z ∈ L.foldl insR A ↔ z ∈ A ∨ z ∈ L
  | [], A, _, hA => ⟨hA, fun z => by simp⟩
  | o :: L, A, hL, hA => by
    have ih := ofR_spec' L (insR A o) ⟨fun x hx => hL.ok x (List.mem_cons_of_mem _ hx), fun x hx => hL.vd x (List.mem_cons_of_mem _ hx)⟩ (insR_set hA (hL.ok o (by simp)) (hL.vd o (by simp)))
    rw [List.foldl_cons]
    refine ⟨ih.1, fun z => ?_⟩
    rw [ih.2, mem_insR, List.mem_cons, or_assoc]
theorem ofR_set {L : List Od} (h : ValO L) : SetO (ofR L) := (ofR_spec' L [] h SetO.nil).1
theorem mem_ofR {L : List Od} (h : ValO L) (z : Od) : z ∈ ofR L ↔ z ∈ L := by
  unfold ofR
  rw [(ofR_spec' L [] h SetO.nil).2]
  simp
theorem ofR_self {L : List Od} (h : SetO L) : ofR L = L := (ofR_set h.val).uniq h fun z => mem_ofR h.val z
theorem uni_ofR {L M : List Od} (hL : SetO L) (hM : SetO M) : mrg uK (L.length + M.length) L M = ofR (L ++ M) :=
  (set_mrg uK hL hM).uniq (ofR_set (hL.val.app hM.val)) fun z => by rw [mem_uni hL hM, mem_ofR (hL.val.app hM.val), List.mem_append]

/-! The distinct elements of a list. -/
/-- Without what comes again. -/
def disM (A L : List Od) : List Od := L.foldl insM A
theorem insM_len (M : List Od) (o : Od) : M.length ≤ (insM M o).length := by unfold insM; split <;> simp
theorem disM_len : ∀ (L A : List Od), A.length ≤ (disM A L).length
  | [], _ => Nat.le_refl _
  | o :: L, A => Nat.le_trans (insM_len A o) (disM_len L (insM A o))
theorem mem_insM {M : List Od} {o z : Od} : z ∈ insM M o ↔ z ∈ M ∨ z = o := by
  unfold insM
  split
  · rename_i h
    exact ⟨.inl, fun h2 => by
      rcases h2 with h2 | rfl
      · exact h2
      · exact h⟩
  · rw [List.mem_append, List.mem_singleton]
theorem mem_disM : ∀ (L A : List Od) (z : Od), z ∈ disM A L ↔ z ∈ A ∨ z ∈ L
  | [], A, z => by simp [disM]
  | o :: L, A, z => by
    show z ∈ disM (insM A o) L ↔ _
    rw [mem_disM L, mem_insM, List.mem_cons, or_assoc]
theorem insM_nodup {M : List Od} (h : M.Nodup) (o : Od) : (insM M o).Nodup := by
  unfold insM
  split
  · exact h
  · rename_i hn
    exact List.nodup_append.2 ⟨h, List.pairwise_singleton _ o, fun a ha b hb e => by
      rw [List.mem_singleton] at hb
      subst hb e
      exact hn ha⟩
theorem disM_nodup : ∀ (L A : List Od), A.Nodup → (disM A L).Nodup
  | [], _, h => h
  | o :: L, A, h => disM_nodup L (insM A o) (insM_nodup h o)
theorem stM_fold : ∀ (L A : List Od), (disM A L).length ≤ 256 → L.foldl stM A = disM A L
  | [], _, _ => rfl
  | o :: L, A, h => by
    have h1 := disM_len L (insM A o)
    have h2 := insM_len A o
    have h3 : (disM (insM A o) L).length ≤ 256 := h
    show L.foldl stM (stM A o) = disM (insM A o) L
    have e : stM A o = insM A o := if_pos (by omega)
    rw [e]
    exact stM_fold L _ h3
theorem stM_grow : ∀ (L A : List Od), A.length ≤ (L.foldl stM A).length
  | [], _ => Nat.le_refl _
  | o :: L, A => by
    refine Nat.le_trans ?_ (stM_grow L (stM A o))
    unfold stM
    split
    · exact insM_len A o
    · exact Nat.le_refl _
theorem stM_over : ∀ (L A : List Od), 256 < (disM A L).length → 256 < (L.foldl stM A).length
  | [], _, h => h
  | o :: L, A, h => by
    show 256 < (L.foldl stM (stM A o)).length
    by_cases hA : A.length ≤ 256
    · have e : stM A o = insM A o := if_pos hA
      rw [e]
      exact stM_over L _ h
    · have := stM_grow L (stM A o)
      have e : stM A o = A := if_neg hA
      rw [e] at this ⊢
      omega
theorem capM_few {L : List Od} (h : (disM [] L).length ≤ 256) : capM L = disM [] L := stM_fold L [] h
theorem capM_many {L : List Od} (h : 256 < (disM [] L).length) : 256 < (capM L).length := stM_over L [] h
theorem dis_le (L : List Od) : (disM [] L).length ≤ L.length := by
  have h : ∀ (L A : List Od), (disM A L).length ≤ A.length + L.length := fun L => by
    induction L with
    | nil => intro A; exact Nat.le_refl _
    | cons o L ih =>
      intro A
      have h1 := ih (insM A o)
      have h2 : (insM A o).length ≤ A.length + 1 := by unfold insM; split <;> simp
      show (disM (insM A o) L).length ≤ _
      rw [List.length_cons]
      omega
  have := h L []
  simpa using this
/-- What the sort leaves of distinct elements is the set. -/
theorem perm_ofR {L : List Od} (h : ValO L) {R : List OD} (hp : (vs R).Perm (disM [] L)) (ha : AscO R) : vs R = ofR L := by
  have hm : ∀ z, z ∈ vs R ↔ z ∈ L := fun z => by rw [hp.mem_iff, mem_disM]; simp
  have hn : (vs R).Nodup := hp.nodup_iff.2 (disM_nodup L [] List.nodup_nil)
  have hasc : (vs R).Pairwise (fun x y => cmpO x.1 x.2 y.1 y.2 < 0) := by
    have h1 : (vs R).Pairwise (fun x y => 0 ≤ cmpO y.1 y.2 x.1 x.2) := List.pairwise_map.2 ha
    have h2 := List.pairwise_and_iff.2 ⟨h1, hn⟩
    refine h2.imp_of_mem fun {x y} hx hy hxy => ?_
    obtain ⟨h3, h4⟩ := hxy
    rcases cmpO_tri (h.ok x ((hm x).1 hx)) (h.ok y ((hm y).1 hy)) (h.vd x ((hm x).1 hx)) (h.vd y ((hm y).1 hy)) with h5 | h5 | h5
    · exact h5
    · exact absurd h5 h4
    · omega
  exact (SetO.mk (fun o ho => h.ok o ((hm o).1 ho)) (fun o ho => h.vd o ((hm o).1 ho)) hasc).uniq (ofR_set h) fun z => by rw [hm, mem_ofR h]
theorem okA_val {L : List Od} (hok : OkL L) : okA L = true ↔ ValO L := by
  unfold okA
  rw [List.all_eq_true]
  exact ⟨fun h => ⟨hok, fun o ho => by simpa using h o ho⟩, fun h o ho => by simpa using h.vd o ho⟩
/-- Of, where there are at most 256 distinct elements. -/
theorem of_set {w : World} {L : List Od} {e : Ending} {w' : World} (h : ValO L) (hl : (disM [] L).length ≤ 256) (hg : GiveOf w L e w') : ∃ A N, e = .returned (.tuple #[.slice A N N, .int .i64 0]) ∧ (ofR L).length = N ∧ RdO w' A (ofR L) ∧ Below w.heap.size w w' := by
  unfold GiveOf at hg
  rw [if_neg (by rw [(okA_val h.ok).2 h]; decide), if_neg (by rw [capM_few hl]; omega), capM_few hl] at hg
  obtain ⟨A, N, R, he, hp, ha, hN, hr, hb⟩ := hg
  have e := perm_ofR h hp ha
  refine ⟨A, N, he, ?_, by rw [← e]; exact hr, hb⟩
  rw [← e, List.length_map]
  exact hN
end Go.Proofs.YtaiiihdckdjpoaaGreatDoor

/-!
  Layer 7: contracts of the statements' Of: an OID of seven, a set of the seven, a set of any.
  Conditions: the numbers are in their kinds.
-/
namespace Go.Proofs.YtaiiihdckdjpoaaGreatDoor
open Go.RowKit

/-- The arcs of the seven. -/
def arcsL : Nat → List Nat
  | 1 => [1, 2, 3]
  | 2 => [1, 2, 3, 4]
  | 3 => [1, 2, 4]
  | 4 => [2, 5, 29, 32]
  | 5 => [2, 5, 29, 32, 1]
  | 6 => [2, 999, 4294967295]
  | _ => [2, 5, 29, 32, 0]
theorem arcs_cases {k : Nat} (hk : k < 7) : k = 0 ∨ k = 1 ∨ k = 2 ∨ k = 3 ∨ k = 4 ∨ k = 5 ∨ k = 6 := by omega
theorem arcs_len {k : Nat} (hk : k < 7) : (arcsL k).length ≤ 16 := by
  rcases arcs_cases hk with rfl | rfl | rfl | rfl | rfl | rfl | rfl <;> decide
theorem arcs_32 {k : Nat} (hk : k < 7) : ∀ x ∈ arcsL k, x < 4294967296 := by
  rcases arcs_cases hk with rfl | rfl | rfl | rfl | rfl | rfl | rfl <;> decide
set_option maxRecDepth 100000 in
theorem arcs_any (k : Nat) (hk : k < 7) (w : World) : Calls Tryz.prog 70 #[.int .i64 (k : Int)] w fun e w' =>
    e = .returned (.slice (some ⟨w.heap.size, 0, none⟩) (arcsL k).length (arcsL k).length) ∧ w' = w.alloc (.cells (cs32 (arcsL k)).toArray 23) := by
  rcases arcs_cases hk with rfl | rfl | rfl | rfl | rfl | rfl | rfl
  all_goals
    go_enter Tryz.func70, Tryz.ntmps70
    go_wp2_with fail
    go_ret
    exact ⟨rfl, rfl⟩
theorem arcs_rd (w : World) (l : List Nat) : R32 (w.alloc (.cells (cs32 l).toArray 23)) (some ⟨w.heap.size, 0, none⟩) l := by
  have := (Bk.new w 23 (cs32 l)).rd 0
  simpa [R32] using this
/-- One of the seven OIDs. -/
def oR (k : Nat) : Od := ((arcsL (k % 7)).length, pad (arcsL (k % 7)))
theorem oR_ok (k : Nat) : OkO (oR k).1 (oR k).2 := okO_pad (arcs_len (Nat.mod_lt _ (by decide))) (arcs_32 (Nat.mod_lt _ (by decide)))
theorem oR_vd (k : Nat) : chkO (oR k).1 (oR k).2 = 0 := by
  unfold oR
  rcases arcs_cases (Nat.mod_lt k (show 0 < 7 by decide)) with h | h | h | h | h | h | h <;> rw [h] <;> decide +kernel

set_option maxRecDepth 100000 in
set_option maxHeartbeats 1000000 in
theorem oof_any (k : Nat) (hk : k < 256) (w : World) : Calls Tryz.prog 53 #[.agg #[.int .u8 (k : Int)]] w (GiveO w (oR k).1 (oR k).2) := by
  have hz := zero25
  obtain ⟨zl, hzl⟩ : ∃ zl, zeroL = zl := ⟨_, rfl⟩
  have HZL : Hid (zl.length = 16) := Lib.hid (by rw [← hzl]; exact zeroL_length)
  rw [hzl] at hz
  clear hzl
  have S0 := Lib.hid ((Bk.new w 73 [.int .u8 (k : Int)]).alloc (.cells (oc 0 zl).toArray 26))
  have T0 := Lib.hid (show Bk ((w.alloc (.cells #[.int .u8 (k : Int)] 73)).alloc (.cells (oc 0 zl).toArray 26)) (w.heap.size + 1) 26 (oc 0 zl) from by
    have := Bk.new (w.alloc (.cells #[.int .u8 (k : Int)] 73)) 26 (oc 0 zl)
    rwa [World.size_alloc] at this)
  have B0 := Lib.hid ((bel1 w (.cells #[.int .u8 (k : Int)] 73)).alloc (by simp) (.cells (oc 0 zl).toArray 26))
  go_enter Tryz.func53, Tryz.ntmps53
  go_upto_region 1 with fail
  generalize (w.alloc (.cells #[.int .u8 (k : Int)] 73)).alloc (.cells (oc 0 zl).toArray 26) = w1 at *
  have c0 : w1.cell? ⟨w.heap.size, 0, none⟩ = some (.int .u8 (k : Int)) := by rw [S0.out.cell]; rfl
  obtain ⟨j, hj⟩ : ∃ j, k % 7 = j := ⟨_, rfl⟩
  have hji : (k : Int) % 7 = (j : Int) := by omega
  have hj7 : j < 7 := by omega
  have HOR := Lib.hid (show oR k = ((arcsL j).length, pad (arcsL j)) by unfold oR; rw [hj])
  have h16 := arcs_len hj7
  have hpl := pad_length h16
  have CA := Lib.hid (fun W => arcs_any j hj7 W)
  have CM := Lib.hid (fun W => made_any (some ⟨W.heap.size, 0, none⟩) (arcsL j) (arcsL j).length (W.alloc (.cells (cs32 (arcsL j)).toArray 23)) h16 (arcs_rd W (arcsL j)))
  generalize arcsL j = l at *
  generalize pad l = pl at *
  obtain ⟨n, hn⟩ : ∃ n, l.length = n := ⟨_, rfl⟩
  rw [hn] at CA CM HOR h16
  have T1 := Lib.hid (T0.out.alloc (.cells (cs32 l).toArray 23))
  have B1 := Lib.hid (B0.out.alloc B0.out.size (.cells (cs32 l).toArray 23))
  clear S0 T0 B0 hj hn
  go_wp2_with (first
    | (go_at_call 70; refine (CA.out _).mono ?_; rintro e w2 ⟨rfl, rfl⟩)
    | (go_at_call 69; refine (CM.out _).mono ?_; rintro e w3 ⟨rfl, hb⟩; have T2 := kt T1 (Lib.hid hb); have B2 := bt B1 (Lib.hid hb); clear hb)
    | (refine wpList_store25 rfl (.tmp 2) (.tmp 8) rfl (n := n) (l := pl) rfl rfl T2.out (by rw [oc_length, HZL.out]) hpl ?_; intro w7 S7 hg7 hz7; have HS7 := Lib.hid S7; have HB7 := Lib.hid (B2.out.grown hg7 B2.out.size (fun k e => by injection e with e; omega)); clear S7 hg7 hz7))
  exact ret25 rfl rfl HS7.out hpl rfl ⟨by rw [HOR.out], HB7.out⟩

/-- The set of the seven's first p that a number tells. -/
def sR (x : Nat) : Nat → List Od
  | 0 => []
  | p + 1 => if x / 2 ^ p % 2 = 1 then insR (sR x p) (oR p) else sR x p
theorem sR_len (x : Nat) : ∀ p, (sR x p).length ≤ p
  | 0 => Nat.le_refl _
  | p + 1 => by
    have h1 := sR_len x p
    have h2 := insR_le (sR x p) (oR p)
    rw [sR]
    split <;> omega

set_option linter.unusedSimpArgs false in
set_option maxHeartbeats 1000000 in
set_option maxRecDepth 100000 in
theorem sof_any (x : Nat) (_hx : x < 256) (w : World) : Calls Tryz.prog 31 #[.agg #[.int .u8 (x : Int)]] w (GiveK w (sR x 7)) := by
  have S0 := Lib.hid (Bk.new w 50 [.int .u8 (x : Int)])
  have B0 := Lib.hid (bel1 w (.cells #[.int .u8 (x : Int)] 50))
  go_enter Tryz.func31, Tryz.ntmps31
  go_upto_region 1 with fail
  generalize w.alloc (.cells #[.int .u8 (x : Int)] 50) = w1 at *
  go_upto_region 3 with fail
  go_loopw [4, 3] (fun i kv wr => ∃ (p : Nat) (A' : Option Addr) (c' : Nat), p ≤ 7 ∧ i = .int .i64 (p : Int) ∧ kv = .slice A' (sR x p).length c' ∧ Ino wr A' (sR x p) (sR x p).length c' ∧ Below w1.heap.size w1 wr) (fun i _ _ => 7 - (intOf i).toNat)
  case atStart => exact ⟨0, none, 0, Nat.zero_le _, rfl, rfl, ⟨RdO.nil, rfl, Nat.le_refl _, by unfold maxLen; omega⟩, Below.refl _ _⟩
  case round =>
    obtain ⟨p, A', c', hp, rfl, rfl, hik, hbl⟩ := hrel
    have IK := Lib.hid hik
    have BL := Lib.hid hbl
    have hkl := sR_len x p
    have hg := S0.out.lt
    have c0 : wr.cell? ⟨w.heap.size, 0, none⟩ = some (.int .u8 (x : Int)) := by rw [(S0.out.below hbl hg).cell]; rfl
    clear hik hbl hg
    by_cases hlt : p < 7
    · have hsh : (x : Int) / 2 ^ p = ((x / 2 ^ p : Nat) : Int) := by rw [Int.natCast_ediv, Int.natCast_pow]; rfl
      have HTS := Lib.hid (show sR x (p + 1) = if x / 2 ^ p % 2 = 1 then insR (sR x p) (oR p) else sR x p from rfl)
      have hbd : x / 2 ^ p ≤ x := Nat.div_le_self _ _
      obtain ⟨y, hy⟩ : ∃ y, x / 2 ^ p = y := ⟨_, rfl⟩
      rw [hy] at hsh HTS hbd
      generalize sR x p = K at *
      obtain ⟨nk, hnk⟩ : ∃ nk, K.length = nk := ⟨_, rfl⟩
      rw [hnk] at IK hkl ⊢
      clear hnk hy
      have hpb : (p : Int) % 256 = (p : Int) := by omega
      by_cases hy1 : y % 2 = 1
      · have hb : ((y : Int) % 2 == 1) = true := by rw [beq_iff_eq]; omega
        have HT : Hid (sR x (p + 1) = insR K (oR p)) := Lib.hid (by rw [HTS.out, if_pos hy1])
        have CO := Lib.hid (fun W => oof_any p (by omega) W)
        have HOK := Lib.hid (oR_ok p)
        have HOP := Lib.hid (show oR p = ((oR p).1, (oR p).2) from rfl)
        generalize (oR p).1 = a at *
        generalize (oR p).2 = b at *
        clear hy1 HTS
        go_wp2_with fail
        refine (CO.out _).mono ?_
        rintro e w2 ⟨rfl, hb2⟩
        have IK2 := Lib.hid (IK.out.below hb2)
        have BL2 := Lib.hid (BL.out.trans (hb2.mono BL.out.size))
        clear hb2 IK BL
        go_wp2_with fail
        refine (rinsert_any A' K nk c' a b w2 IK2.out (by omega) HOK.out).mono ?_
        rintro e w3 ⟨A2, c2, rfl, hi, hb3⟩
        have HI := Lib.hid hi
        have BL3 := Lib.hid (BL2.out.trans (hb3.mono BL2.out.size))
        clear hi hb3 IK2 BL2
        go_wp2_with fail
        exact ⟨⟨p + 1, A2, c2, hlt, by go_num, by rw [HT.out, HOP.out], by rw [HT.out, HOP.out]; exact HI.out, BL3.out⟩, by simp [intOf]; omega⟩
      · have hb : ((y : Int) % 2 == 1) = false := by rw [beq_eq_false_iff_ne]; omega
        have HT : Hid (sR x (p + 1) = K) := Lib.hid (by rw [HTS.out, if_neg hy1])
        have HNK := Lib.hid IK.out.ln
        clear hy1 HTS
        go_wp2_with fail
        exact ⟨⟨p + 1, A', c', hlt, by go_num, by rw [HT.out, HNK.out], by rw [HT.out, HNK.out]; exact IK.out, BL.out⟩, by simp [intOf]; omega⟩
    · obtain rfl : p = 7 := by omega
      go_wp2_with fail
      go_ret
      exact ⟨A', c', rfl, IK.out, B0.out.trans (BL.out.mono B0.out.size)⟩
end Go.Proofs.YtaiiihdckdjpoaaGreatDoor

/-!
  Layer 7: the contract of the statements' Of of W: a set of at most 12 of any OIDs.
  Conditions: the numbers are in their kinds.
-/
namespace Go.Proofs.YtaiiihdckdjpoaaGreatDoor
open Go.RowKit

/-- The parts of an OID of the statements. -/
structure Ad where
  (f s : Nat)
  l : List Nat
@[reducible] def Ad.cells (g : Ad) (B : Option Addr) (cb : Nat) : List Value := [.int .u8 (g.f : Int), .int .u32 (g.s : Int), .slice B g.l.length cb]
def Ad.fits (g : Ad) : Prop := g.f < 256 ∧ g.s < 4294967296 ∧ ∀ y ∈ g.l, y < 4294967296
/-- The header's address reads as the parts, one behind the other. -/
def RdA (w : World) (A : Option Addr) : List Ad → Prop
  | [] => True
  | g :: gs => ∃ b off B cb, A = some ⟨b, off, none⟩ ∧ b < w.heap.size ∧ (∀ j u, (g.cells B cb)[j]? = some u → w.cell? ⟨b, off + j, none⟩ = some u) ∧ g.fits ∧ R32 w B g.l ∧ g.l.length ≤ cb ∧ cb ≤ maxLen ∧ RdA w (some ⟨b, off + 3, none⟩) gs
theorem R32.below7 {w w' : World} {A : Option Addr} {l : List Nat} (h : R32 w A l) (hb : Below w.heap.size w w') : R32 w' A l := Rd.below h hb
theorem RdA.stay {w w' : World} (hb : Below w.heap.size w w') : ∀ {gs : List Ad} {A : Option Addr}, RdA w A gs → RdA w' A gs
  | [], _, _ => trivial
  | _ :: _, _, ⟨b, off, B, cb, h1, h2, h3, h4, h5, h6, h7, h8⟩ => ⟨b, off, B, cb, h1, Nat.lt_of_lt_of_le h2 hb.size, fun j u hu => (hb.cell (p := ⟨b, off + j, none⟩) h2).trans (h3 j u hu), h4, h5.below7 hb, h6, h7, RdA.stay hb h8⟩
theorem RdA.at_ {w : World} {A : Option Addr} {gs : List Ad} (h : RdA w A gs) {i : Nat} (hi : i < gs.length) :
    ∃ b off B cb, A = some ⟨b, off, none⟩ ∧ b < w.heap.size ∧ (∀ j u, (gs[i].cells B cb)[j]? = some u → w.cell? ⟨b, off + i * 3 + j, none⟩ = some u) ∧ gs[i].fits ∧ R32 w B gs[i].l ∧ gs[i].l.length ≤ cb ∧ cb ≤ maxLen := by
  induction gs generalizing A i with
  | nil => simp at hi
  | cons g gs ih =>
    obtain ⟨b, off, B, cb, h1, h2, h3, h4, h5, h6, h7, h8⟩ := h
    cases i with
    | zero => exact ⟨b, off, B, cb, h1, h2, by simpa using h3, h4, h5, h6, h7⟩
    | succ i =>
      obtain ⟨b', off', B', cb', k1, k2, k3, k4⟩ := ih h8 (by simpa using hi)
      simp only [Option.some.injEq, Addr.mk.injEq, and_true] at k1
      obtain ⟨rfl, rfl⟩ := k1
      refine ⟨b, off, B', cb', h1, k2, fun j u hu => ?_, by simpa using k4⟩
      rw [List.getElem_cons_succ] at hu
      rw [show off + (i + 1) * 3 + j = off + 3 + i * 3 + j by omega]
      exact k3 j u hu
/-- An OID of the statements. -/
def aR (g : Ad) : Od := ((aL g.f g.s g.l).length, pad (aL g.f g.s g.l))
theorem aR_ok {g : Ad} (h : g.fits) : OkO (aR g).1 (aR g).2 := aL_ok h.2.2
theorem aR_vd (g : Ad) : chkO (aR g).1 (aR g).2 = 0 := aL_chk g.f g.s g.l
/-- The OIDs of a W. -/
def wL (gs : List Ad) : List Od := (gs.take 12).map aR
def wR (gs : List Ad) : List Od := ofR (wL gs)
theorem wL_len (gs : List Ad) : (wL gs).length = min 12 gs.length := by unfold wL; rw [List.length_map, List.length_take]
theorem wL_get {gs : List Ad} {p : Nat} (h : p < (wL gs).length) : (wL gs)[p] = aR (gs[p]'(by rw [wL_len] at h; omega)) := by simp [wL]

set_option linter.unusedSimpArgs false in
set_option maxHeartbeats 1000000 in
set_option maxRecDepth 100000 in
theorem wof_any (A : Option Addr) (gs : List Ad) (n c : Nat) (w : World) (hA : RdA w A gs) (hn : gs.length = n) (hlc : n ≤ c) (hm : c ≤ maxLen) :
    Calls Tryz.prog 26 #[.agg #[.slice A n c]] w (GiveK w (wR gs)) := by
  have IA := Lib.hid hA
  have HN := Lib.hid hn
  have hnm : n ≤ maxLen := Nat.le_trans hlc hm
  have S0 := Lib.hid (Bk.new w 45 [.slice A n c])
  have B0 := Lib.hid (bel1 w (.cells #[.slice A n c] 45))
  clear hA hn
  go_enter Tryz.func26, Tryz.ntmps26
  go_upto_region 1 with fail
  generalize w.alloc (.cells #[.slice A n c] 45) = w1 at *
  go_upto_region 3 with fail
  go_loopw [4, 3] (fun i kv wr => ∃ (p : Nat) (A' : Option Addr) (c' : Nat), p ≤ n ∧ p ≤ 12 ∧ i = .int .i64 (p : Int) ∧ kv = .slice A' (ofR ((wL gs).take p)).length c' ∧ Ino wr A' (ofR ((wL gs).take p)) (ofR ((wL gs).take p)).length c' ∧ Below w1.heap.size w1 wr) (fun i _ _ => 12 - (intOf i).toNat)
  case atStart => exact ⟨0, none, 0, Nat.zero_le _, Nat.zero_le _, rfl, rfl, ⟨RdO.nil, rfl, Nat.le_refl _, by unfold maxLen; omega⟩, Below.refl _ _⟩
  case round =>
    obtain ⟨p, A', c', hp, hp12, rfl, rfl, hik, hbl⟩ := hrel
    have IK := Lib.hid hik
    have BL := Lib.hid hbl
    have hkl : (ofR ((wL gs).take p)).length ≤ p := Nat.le_trans (ofR_le _) (by rw [List.length_take]; omega)
    have hg := S0.out.lt
    have c0 : wr.cell? ⟨w.heap.size, 0, none⟩ = some (.slice A n c) := by rw [(S0.out.below hbl hg).cell]; rfl
    clear hik hbl hg
    by_cases hlt : p < n ∧ p < 12
    · obtain ⟨hlt, hlt12⟩ := hlt
      have hpl : p < (wL gs).length := by rw [wL_len, HN.out]; omega
      have hpg : p < gs.length := by rw [HN.out]; exact hlt
      obtain ⟨b, off, B, cb, hAe, hb, hcell, hf, hB, hcb, _⟩ := (RdA.stay (B0.out.trans (BL.out.mono B0.out.size)) IA.out).at_ hpg
      have HTS := Lib.hid (show ofR ((wL gs).take (p + 1)) = insR (ofR ((wL gs).take p)) (aR gs[p]) by rw [List.take_succ_eq_append_getElem hpl, ofR_snoc, wL_get])
      have HOK := Lib.hid (aR_ok hf)
      have CA := Lib.hid (aof_any gs[p].f gs[p].s B gs[p].l cb wr hf.1 hf.2.1 hB hcb)
      have HOP := Lib.hid (show aR gs[p] = ((aR gs[p]).1, (aR gs[p]).2) from rfl)
      have HCA : Hid (Calls Tryz.prog 52 #[.agg #[.int .u8 (gs[p].f : Int), .int .u32 (gs[p].s : Int), .slice B gs[p].l.length cb]] wr (GiveO wr (aR gs[p]).1 (aR gs[p]).2)) := CA
      have e0 := hcell 0 _ rfl
      rw [Nat.add_zero] at e0
      have e1 := hcell 1 _ rfl
      have e2 := hcell 2 _ rfl
      subst hAe
      clear hcell CA hf hB hcb
      generalize (aR gs[p]).1 = x at *
      generalize (aR gs[p]).2 = y at *
      generalize gs[p].l.length = bl at *
      generalize gs[p].f = ff at *
      generalize gs[p].s = ss at *
      generalize ofR ((wL gs).take p) = K at *
      obtain ⟨nk, hnk⟩ : ∃ nk, K.length = nk := ⟨_, rfl⟩
      rw [hnk] at IK hkl ⊢
      clear hnk
      go_wp2_with fail
      refine (HCA.out).mono ?_
      rintro e w2 ⟨rfl, hb2⟩
      have IK2 := Lib.hid (IK.out.below hb2)
      have BL2 := Lib.hid (BL.out.trans (hb2.mono BL.out.size))
      clear hb2 IK BL
      go_wp2_with fail
      refine (rinsert_any A' K nk c' x y w2 IK2.out (by omega) HOK.out).mono ?_
      rintro e w3 ⟨A2, c2, rfl, hi, hb3⟩
      have HI := Lib.hid hi
      have BL3 := Lib.hid (BL2.out.trans (hb3.mono BL2.out.size))
      clear hi hb3 IK2 BL2
      go_wp2_with fail
      exact ⟨⟨p + 1, A2, c2, hlt, hlt12, by go_num, by rw [HTS.out, HOP.out], by rw [HTS.out, HOP.out]; exact HI.out, BL3.out⟩, by simp [intOf]; omega⟩
    · have HT : Hid (ofR ((wL gs).take p) = wR gs) := Lib.hid (by unfold wR; rw [List.take_of_length_le (by rw [wL_len, HN.out]; omega)])
      rw [HT.out] at IK hkl ⊢
      rcases Nat.lt_or_ge p n with h1 | h1
      · obtain rfl : p = 12 := by omega
        have h1i : (12 : Int) < (n : Int) := by omega
        go_wp2_with fail
        go_ret
        exact ⟨A', c', rfl, IK.out, B0.out.trans (BL.out.mono B0.out.size)⟩
      · have h1i : ¬ (p : Int) < (n : Int) := by omega
        go_wp2_with fail
        go_ret
        exact ⟨A', c', rfl, IK.out, B0.out.trans (BL.out.mono B0.out.size)⟩
theorem wL_val {gs : List Ad} (h : ∀ g ∈ gs, g.fits) : OkL (wL gs) ∧ ∀ o ∈ wL gs, chkO o.1 o.2 = 0 := by
  constructor
  · intro o ho
    obtain ⟨g, hg, rfl⟩ := List.mem_map.1 ho
    exact aR_ok (h g (List.mem_of_mem_take hg))
  · intro o ho
    obtain ⟨g, _, rfl⟩ := List.mem_map.1 ho
    exact aR_vd g
theorem RdA.fits {w : World} : ∀ {gs : List Ad} {A : Option Addr}, RdA w A gs → ∀ g ∈ gs, g.fits
  | [], _, _, _, hg => absurd hg (by simp)
  | g :: gs, _, ⟨_, _, _, _, _, _, _, h4, _, _, _, h8⟩, x, hx => by
    rcases List.mem_cons.1 hx with rfl | hx
    · exact h4
    · exact RdA.fits h8 x hx
end Go.Proofs.YtaiiihdckdjpoaaGreatDoor
