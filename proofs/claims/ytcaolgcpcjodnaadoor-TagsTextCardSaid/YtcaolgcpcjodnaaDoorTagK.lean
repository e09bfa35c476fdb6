/-
  Package tags: the contracts of strings.Cut, parseClass, parseNumber.
  Conditions: the variables hold what the program's text lays.
-/
import Derived.Test.YtcaolgcpcjodnaaDoorTagJ
import Derived.Lib.IndexLaws
import Derived.Lib.ParseIntBCases
namespace Go.Proofs.YtcaolgcpcjodnaaDoor
open Go.RowKit

/-- The letters of a string. -/
def sl (s : ByteArray) : List Nat := s.data.toList.map UInt8.toNat
theorem bstr_sl (s : ByteArray) : bstr (sl s) = s := by
  apply ByteArray.ext
  unfold bstr sl
  rw [List.map_map]
  have : (UInt8.ofNat ∘ UInt8.toNat) = id := by funext x; simp
  rw [this, List.map_id]
theorem sl_all (s : ByteArray) : All8 (sl s) := by
  intro x hx
  simp only [sl, List.mem_map] at hx
  obtain ⟨y, _, rfl⟩ := hx
  exact y.toNat_lt
theorem bstr_list (l : List Nat) : (bstr l).data.toList = l.map UInt8.ofNat := by unfold bstr; simp
theorem sl_bstr {l : List Nat} (h : All8 l) : sl (bstr l) = l := by
  unfold sl
  rw [bstr_list, List.map_map]
  conv => rhs; rw [← List.map_id l]
  apply List.map_congr_left
  intro x hx
  simp only [Function.comp, id]
  exact UInt8.toNat_ofNat_of_lt' (h x hx)
theorem bstr_inj {l m : List Nat} (hl : All8 l) (hm : All8 m) (h : bstr l = bstr m) : l = m := by rw [← sl_bstr hl, h, sl_bstr hm]
theorem bstr_ne {l m : List Nat} (hl : All8 l) (hm : All8 m) (h : l ≠ m) : ((bstr l).toList == (bstr m).toList) = false := by
  rw [beq_eq_false_iff_ne, ByteArray.toList_eq, ByteArray.toList_eq]
  intro e
  refine h (bstr_inj hl hm (ByteArray.ext ?_))
  exact Array.toList_inj.1 e
theorem bstr_ne' {l m : List Nat} (hl : All8 l) (hm : All8 m) (h : l ≠ m) : ((bstr l).toList != (bstr m).toList) = true := by
  rw [bne, bstr_ne hl hm h]; rfl
theorem bstr_self (s : ByteArray) : (s.toList == s.toList) = true := by rw [beq_iff_eq]
theorem bstr_extract (l : List Nat) (a b : Nat) : (bstr l).extract a b = bstr ((l.take b).drop a) := by
  apply ByteArray.ext
  rw [ByteArray.data_extract]
  unfold bstr
  apply Array.toList_inj.1
  simp [List.map_drop, List.map_take, List.drop_take]

theorem cname_all (c : Nat) : All8 (cname c) := by
  unfold cname
  intro x hx
  split at hx
  · simp at hx; omega
  · split at hx
    · simp at hx; omega
    · split at hx
      · simp at hx; omega
      · simp at hx; omega
/-- What stands before the first space. -/
def pre32 (l : List Nat) : List Nat := l.takeWhile (· ≠ 32)
theorem idx32 {l : List Nat} (h : All8 l) : Lib.indexByte (l.map UInt8.ofNat) 32 = if 32 ∈ l then ((pre32 l).length : Int) else -1 := by
  induction l with
  | nil => rfl
  | cons x l ih =>
    have hx := h x (List.mem_cons_self ..)
    have ih := ih (fun y hy => h y (List.mem_cons_of_mem _ hy))
    rw [List.map_cons, Lib.indexByte, ih]
    by_cases hx32 : x = 32
    · subst hx32
      rw [if_pos (by decide), if_pos (List.mem_cons_self ..)]
      rfl
    · have hne : (UInt8.ofNat x == 32) = false := by
        rw [beq_eq_false_iff_ne]
        intro e
        have := congrArg UInt8.toNat e
        rw [UInt8.toNat_ofNat_of_lt' hx] at this
        exact hx32 this
      rw [hne, if_neg (by simp)]
      have hp : (pre32 (x :: l)).length = (pre32 l).length + 1 := by
        unfold pre32
        rw [List.takeWhile_cons, if_pos (by simpa using hx32), List.length_cons]
      rw [hp]
      by_cases hm : 32 ∈ l
      · rw [if_pos hm, if_pos (List.mem_cons_of_mem _ hm), if_neg (by rw [beq_iff_eq]; omega)]
        simp
      · have hnx : ¬ 32 ∈ x :: l := fun e => by
          rcases List.mem_cons.1 e with e | e
          · exact hx32 e.symm
          · exact hm e
        rw [if_neg hm, if_pos (by decide), if_neg hnx]
theorem pre32_split {l : List Nat} (h : 32 ∈ l) : l = pre32 l ++ 32 :: l.drop ((pre32 l).length + 1) ∧ (pre32 l).length < l.length := by
  induction l with
  | nil => cases h
  | cons x l ih =>
    unfold pre32
    by_cases hx : x = 32
    · subst hx; simp
    · have hm : 32 ∈ l := by
        rcases List.mem_cons.1 h with e | e
        · exact absurd e.symm hx
        · exact e
      obtain ⟨h1, h2⟩ := ih hm
      rw [List.takeWhile_cons, if_pos (by simpa using hx)]
      simp only [List.length_cons, List.cons_append, List.drop_succ_cons]
      exact ⟨congrArg _ h1, Nat.succ_lt_succ h2⟩
theorem take_tw (l : List Nat) : l.take (l.takeWhile (· ≠ 32)).length = l.takeWhile (· ≠ 32) := by
  induction l with
  | nil => rfl
  | cons x l ih =>
    rw [List.takeWhile_cons]
    split
    · rw [List.length_cons, List.take_succ_cons, ih]
    · rfl
theorem pre32_of {a r : List Nat} (h : 32 ∉ a) : pre32 (a ++ 32 :: r) = a := by
  induction a with
  | nil => rfl
  | cons x a ih =>
    unfold pre32
    rw [List.cons_append, List.takeWhile_cons, if_pos (by simp; intro e; exact h (by simp [e]))]
    exact congrArg _ (ih (fun e => h (List.mem_cons_of_mem _ e)))

/-- What strings.Cut returns at a space. -/
def cut1 (l : List Nat) : List Nat × List Nat × Bool := if 32 ∈ l then (pre32 l, l.drop ((pre32 l).length + 1), true) else (l, [], false)

theorem slice_to (l : List Nat) (p : Nat) (hp : p ≤ l.length) (h9 : l.length < 9223372036854775808) (W : World) : (Instr.slice 9 (.string (bstr l)) none (some (.int .i64 (p : Int))) none).run Tryd.prog W = .ok (.string (bstr (l.take p))) W := by
  have hsz := bstr_size l
  have he := bstr_extract l 0 p
  simp [go_sem, hsz, hp]
  rw [he, List.drop_zero]
theorem slice_from (l : List Nat) (p : Nat) (hp : p ≤ l.length) (h9 : l.length < 9223372036854775808) (W : World) : (Instr.slice 9 (.string (bstr l)) (some (.int .i64 (p : Int))) none none).run Tryd.prog W = .ok (.string (bstr (l.drop p))) W := by
  have hsz := bstr_size l
  have he := bstr_extract l p l.length
  simp [go_sem, hsz, hp]
  rw [he, List.take_length]
set_option maxRecDepth 100000 in
set_option maxHeartbeats 1000000 in
theorem cut_in (l : List Nat) (w : World) (h8 : All8 l) (hl : l.length ≤ 4294967296) :
    Calls Tryd.prog 43 #[.string (bstr l), .string ⟨#[32]⟩] w fun e w' => e = .returned (.tuple #[.string (bstr (cut1 l).1), .string (bstr (cut1 l).2.1), .bool (cut1 l).2.2]) ∧ Below w.heap.size w w' := by
  have hi := idx32 h8
  by_cases hm : 32 ∈ l
  · rw [if_pos hm] at hi
    have hlt := (pre32_split hm).2
    have hc0 : cut1 l = (pre32 l, l.drop ((pre32 l).length + 1), true) := if_pos hm
    obtain ⟨p, hp⟩ : ∃ p, (pre32 l).length = p := ⟨_, rfl⟩
    rw [hp] at hi hlt hc0
    have HC := Lib.hid hc0
    clear hc0
    have HI := Lib.hid hi
    have HP := Lib.hid hp
    have HM := Lib.hid hm
    have hsz := bstr_size l
    clear hi hp hm
    go_enter Tryd.func43, Tryd.ntmps43
    go_wp2_with (go_at_call 49; refine (Tryd.stringslite_Index_one (bstr l) 32 _).mono ?_; rintro e w' ⟨rfl, rfl⟩; rw [bstr_list, HI.out])
    have q1 := slice_to l p (by omega) (by omega)
    have q2 := slice_from l (p + 1) (by omega) (by omega)
    have q3 : IntKind.i64.wrap ((p : Int) + 1) = (p : Int) + 1 := IntWalk.i64_in _ (by omega)
    go_region
    clear q3
    go_wp2_with fail
    go_ret3
    refine ⟨?_, (Below.refl _ _).drew⟩
    have e1 : (bstr l).extract (p + 1) l.length = bstr (l.drop (p + 1)) := by rw [bstr_extract, List.take_length]
    have e2 : l.take p = pre32 l := by
      have h1 := (pre32_split (l := l) HM.out).1
      rw [← HP.out]
      unfold pre32 at h1 ⊢
      exact take_tw l
    rw [HC.out, ← e2, ← e1]
    rfl
  · rw [if_neg hm] at hi
    have HC := Lib.hid (show cut1 l = (l, [], false) from if_neg hm)
    have HI := Lib.hid hi
    clear hi hm
    go_enter Tryd.func43, Tryd.ntmps43
    go_wp2_with (go_at_call 49; refine (Tryd.stringslite_Index_one (bstr l) 32 _).mono ?_; rintro e w' ⟨rfl, rfl⟩; rw [bstr_list, HI.out])
    go_ret3
    exact ⟨by rw [HC.out]; rfl, Below.refl _ _⟩

theorem cut_any (l : List Nat) (w : World) (h8 : All8 l) (hl : l.length ≤ 4294967296) :
    Calls Tryd.prog 32 #[.string (bstr l), .string ⟨#[32]⟩] w fun e w' => e = .returned (.tuple #[.string (bstr (cut1 l).1), .string (bstr (cut1 l).2.1), .bool (cut1 l).2.2]) ∧ Below w.heap.size w w' := by
  have H8 := Lib.hid h8
  clear h8
  go_enter Tryd.func32, Tryd.ntmps32
  go_wp2_with (go_at_call 43; refine (cut_in l _ H8.out hl).mono ?_; rintro e w' ⟨rfl, hb⟩; have HB := Lib.hid hb; clear hb)
  go_ret3
  exact ⟨rfl, HB.out⟩

/-- The class with a name. -/
def clsOf (l : List Nat) : Option Nat := if l = cname 0 then some 0 else if l = cname 1 then some 1 else if l = cname 2 then some 2 else if l = cname 3 then some 3 else none
set_option maxHeartbeats 1000000 in
theorem pclass_any (l : List Nat) (w : World) (hE : Env w) (h8 : All8 l) :
    Calls Tryd.prog 33 #[.string (bstr l)] w fun e w' => e = .returned (.tuple #[.int .u8 (((clsOf l).getD 0 : Nat) : Int), .bool (clsOf l).isSome]) ∧ w = w' := by
  go_enter Tryd.func33, Tryd.ntmps33
  go_wp2_with fail
  go_loop [5] (fun i => ∃ k : Nat, k ≤ 4 ∧ i = .int .i64 (k : Int) ∧ ∀ j, j < k → l ≠ cname j) (fun i => 4 - (intOf i).toNat)
  case atStart => exact ⟨0, by omega, rfl, fun j hj => absurd hj (by omega)⟩
  case round =>
    obtain ⟨k, hk, rfl, hne⟩ := hrel
    by_cases hk4 : k = 4
    · subst hk4
      have HC := Lib.hid (show clsOf l = none by unfold clsOf; rw [if_neg (hne 0 (by omega)), if_neg (hne 1 (by omega)), if_neg (hne 2 (by omega)), if_neg (hne 3 (by omega))])
      clear hne
      go_wp2_with fail
      go_ret2
      exact ⟨by rw [HC.out]; rfl, rfl⟩
    · have hcc := hE.cls_cell k (by omega)
      have hlt : k < 4 := by omega
      by_cases he : l = cname k
      · have HC := Lib.hid (show clsOf l = some k by
          unfold clsOf
          rcases k with _ | _ | _ | _ | k
          · rw [if_pos he]
          · rw [if_neg (hne 0 (by omega)), if_pos he]
          · rw [if_neg (hne 0 (by omega)), if_neg (hne 1 (by omega)), if_pos he]
          · rw [if_neg (hne 0 (by omega)), if_neg (hne 1 (by omega)), if_neg (hne 2 (by omega)), if_pos he]
          · omega)
        rw [← he] at hcc
        clear hne he hk4 hE
        go_wp2_with fail
        go_ret2
        exact ⟨by rw [HC.out]; rfl, rfl⟩
      · have hb := bstr_ne (cname_all k) h8 (fun e => he e.symm)
        have HN := Lib.hid hne
        have HE := Lib.hid he
        generalize bstr (cname k) = s1 at *
        clear hne he hk4 hE
        go_wp2_with fail
        exact ⟨⟨k + 1, by omega, by go_num, fun j hj => by
          by_cases h : j = k
          · subst h; exact HE.out
          · exact HN.out j (by omega)⟩, by simp [intOf]; try omega⟩
end Go.Proofs.YtcaolgcpcjodnaaDoor
