/-
  Layer 4: the encoding of a tree, plain; what Check accepts, said outright.
  Conditions: none (no program is walked here).
-/
import Derived.Test.YtgdjgahmnnjeeaaElJ
import Derived.Test.YtgdjgahmnnjeeaaTagV
import Derived.Test.YtgdjgahmnnjeeaaLenV
namespace Go.Proofs.Ytgdjgahmnnjeeaa
open Go.RowKit

mutual
/-- The encoding of an element. -/
def encE : El → List Nat
  | .mk c n k bs ss => putL c n k ++ (Len.putL (bs.length + (encS ss).length) ++ (bs ++ encS ss))
def encS : List El → List Nat
  | [] => []
  | e :: ss => encE e ++ encS ss
end
/-- The number of octets of an element's content. -/
def conL : El → Nat
  | .mk _ _ _ bs ss => bs.length + (encS ss).length
mutual
/-- Each element is one by itself. -/
def valE : El → Prop
  | .mk c n k bs ss => chk c n k = 0 ∧ (k = true → bs = []) ∧ (k = false → ss = []) ∧ valS ss
def valS : List El → Prop
  | [] => True
  | e :: ss => valE e ∧ valS ss
end
theorem valS_mem {ss : List El} (h : valS ss) {e : El} (he : e ∈ ss) : valE e := by
  induction ss with
  | nil => simp at he
  | cons x ss ih =>
    rcases List.mem_cons.1 he with rfl | he
    · exact h.1
    · exact ih h.2 he
theorem valS_of {ss : List El} (h : ∀ e, e ∈ ss → valE e) : valS ss := by
  induction ss with
  | nil => trivial
  | cons x ss ih => exact ⟨h x (by simp), ih fun e he => h e (by simp [he])⟩
theorem oneE_zero {c n : Nat} {k : Bool} {bs : List Nat} {ss : List El} {d b : Nat} : oneE (.mk c n k bs ss) d b = 0 ↔ chk c n k = 0 ∧ (k = true → bs = []) ∧ (k = false → ss = []) ∧ d ≤ 16 ∧ b < 8192 := by
  rw [oneE_mk]
  constructor
  · intro h
    split at h
    · rename_i h1; exact absurd h h1
    rename_i h1
    split at h
    · exact absurd h (by decide)
    rename_i h2
    unfold plcE at h
    split at h
    · exact absurd h (by decide)
    split at h
    · exact absurd h (by decide)
    refine ⟨by omega, fun hk => ?_, fun hk => ?_, by omega, by omega⟩
    · rcases bs with _ | ⟨x, bs⟩
      · rfl
      · exact absurd (.inl ⟨hk, by simp⟩) h2
    · rcases ss with _ | ⟨x, ss⟩
      · rfl
      · exact absurd (.inr ⟨hk, by simp⟩) h2
  · rintro ⟨h1, h2, h3, h4, h5⟩
    rw [if_neg (by omega), if_neg ?_]
    · unfold plcE; rw [if_neg (by omega), if_neg (by omega)]
    · rintro (⟨hk, hl⟩ | ⟨hk, hl⟩)
      · rw [h2 hk] at hl; simp at hl
      · rw [h3 hk] at hl; simp at hl
mutual
theorem chkE_zero : ∀ (e : El) (d b : Nat), (chkE e d b).1 = 0 ↔ valE e ∧ d + depE e ≤ 17 ∧ b + cntE e ≤ 8192
  | .mk c n k bs ss, d, b => by
    rw [chkE, valE, depE, cntE]
    have h0 := @oneE_zero c n k bs ss d b
    by_cases h : oneE (.mk c n k bs ss) d b ≠ 0
    · rw [if_pos h]
      refine ⟨fun h1 => absurd h1 h, fun ⟨⟨h1, h2, h3, h4⟩, h5, h6⟩ => absurd (h0.2 ⟨h1, h2, h3, by omega, by omega⟩) h⟩
    · rw [if_neg h]
      obtain ⟨g1, g2, g3, g4, g5⟩ := h0.1 (by omega)
      rw [chkS_zero ss (d + 1) (b + 1) (by omega) (by omega)]
      exact ⟨fun ⟨h1, h2, h3⟩ => ⟨⟨g1, g2, g3, h1⟩, by omega, by omega⟩, fun ⟨⟨_, _, _, h1⟩, h2, h3⟩ => ⟨h1, by omega, by omega⟩⟩
theorem chkS_zero : ∀ (ss : List El) (d b : Nat), d ≤ 17 → b ≤ 8192 → ((chkS ss d b).1 = 0 ↔ valS ss ∧ d + depS ss ≤ 17 ∧ b + cntS ss ≤ 8192)
  | [], d, b, hd, hb => by
    rw [chkS, valS, depS, cntS]
    exact ⟨fun _ => ⟨trivial, hd, hb⟩, fun _ => rfl⟩
  | e :: ss, d, b, hd, hb => by
    rw [chkS, valS, depS, cntS]
    have h0 := chkE_zero e d b
    by_cases h : (chkE e d b).1 ≠ 0
    · rw [if_pos h]
      refine ⟨fun h1 => absurd h1 h, fun ⟨⟨h1, h2⟩, h5, h6⟩ => absurd (h0.2 ⟨h1, by omega, by omega⟩) h⟩
    · rw [if_neg h]
      obtain ⟨g1, g2, g3⟩ := h0.1 (by omega)
      rw [chkE_cnt e d b (by omega), chkS_zero ss d (b + cntE e) hd (by omega)]
      exact ⟨fun ⟨h1, h2, h3⟩ => ⟨⟨g1, h1⟩, by omega, by omega⟩, fun ⟨⟨_, h1⟩, h2, h3⟩ => ⟨h1, by omega, by omega⟩⟩
end

theorem tput_pos (c n : Nat) (k : Bool) : 0 < (putL c n k).length := by unfold putL; split <;> simp
theorem tput_le {c n : Nat} {k : Bool} (h : n < 268435456) : (putL c n k).length ≤ 5 := by
  unfold putL
  split
  · simp
  · rw [List.length_cons, gl_length (by omega) (by omega)]
    have := gk_le h
    omega
theorem tput_size {c n : Nat} {k : Bool} (h : chk c n k = 0) : sizeN c n k = (putL c n k).length := by
  have h28 := (chk_zero h).2
  unfold sizeN putL
  rw [if_neg (by omega)]
  split
  · rfl
  · rw [List.length_cons, gl_length (by omega) (by omega)]
theorem lput_size {m : Nat} (h : m ≤ 16777215) : (Len.putL m).length = Len.szI (m : Int) := by
  rw [Len.szI_of h]
  unfold Len.putL
  split
  · rfl
  split
  · rfl
  split <;> rfl
theorem lput_le {m : Nat} (_h : m ≤ 16777215) : 0 < (Len.putL m).length ∧ (Len.putL m).length ≤ 4 := by
  unfold Len.putL
  split
  · simp
  split
  · simp
  split <;> simp
theorem encE_len {c n : Nat} {k : Bool} {bs : List Nat} {ss : List El} : (encE (.mk c n k bs ss)).length = (putL c n k).length + ((Len.putL (conL (.mk c n k bs ss))).length + conL (.mk c n k bs ss)) := by
  rw [encE, conL, List.length_append, List.length_append, List.length_append]
theorem tot_enc {c n : Nat} {k : Bool} {bs : List Nat} {ss : List El} (h : chk c n k = 0) (hc : conL (.mk c n k bs ss) ≤ 1048576) :
    Len.totI ((sizeN c n k : Nat) : Int) ((conL (.mk c n k bs ss) : Nat) : Int) = ((encE (.mk c n k bs ss)).length : Int) := by
  have h1 := tput_pos c n k
  have h2 := tput_le (c := c) (k := k) (chk_zero h).2
  have h3 := lput_le (m := conL (.mk c n k bs ss)) (by omega)
  rw [encE_len, tput_size h]
  unfold Len.totI
  rw [if_neg (by omega), if_neg (by omega), ← lput_size (by omega), if_neg (by omega)]
  omega
theorem conL_le {e : El} : conL e ≤ (encE e).length := by
  obtain ⟨c, n, k, bs, ss⟩ := e
  rw [encE_len]; omega
theorem encS_take {ss : List El} {i : Nat} (hi : i < ss.length) : (encS (ss.take (i + 1))).length = (encS (ss.take i)).length + (encE ss[i]).length := by
  have happ : ∀ a b : List El, encS (a ++ b) = encS a ++ encS b := by
    intro a b
    induction a with
    | nil => rfl
    | cons x a ih => rw [List.cons_append, encS, ih, encS, List.append_assoc]
  rw [List.take_succ_eq_append_getElem hi, happ, List.length_append, encS, encS, List.append_nil]
theorem encS_app (a b : List El) : encS (a ++ b) = encS a ++ encS b := by
  induction a with
  | nil => rfl
  | cons x a ih => rw [List.cons_append, encS, ih, encS, List.append_assoc]
theorem encS_part {ss : List El} {i : Nat} (hi : i < ss.length) : (encS (ss.take i)).length + (encE ss[i]).length ≤ (encS ss).length := by
  have h := encS_app (ss.take (i + 1)) (ss.drop (i + 1))
  rw [List.take_append_drop] at h
  rw [← encS_take hi, h, List.length_append]
  omega
end Go.Proofs.Ytgdjgahmnnjeeaa
