/-
  Layer 10: the closure that reads a number at the places of a letter.
  Conditions: the layout is short, and the text is as long.
-/
import Derived.Test.YtecmgkmonehmfaaDoorTimR
namespace Go.Proofs.YtecmgkmonehmfaaDoor.Tim
open Go.RowKit
attribute [local go_sem] Oper.semAt_some

def rdS (n : Int) (x : Nat) : Int := IntKind.i64.wrap (IntKind.i64.wrap (IntKind.i64.wrap (10 * n) + (x : Int)) - 48)
/-- The number at the places of a letter, of the first places. -/
def rdG (L s : List Nat) (c : Nat) : Nat → Int
  | 0 => 0
  | k + 1 => if L.getD k 0 = c then rdS (rdG L s c k) (s.getD k 0) else rdG L s c k
theorem wrap_I64 (z : Int) : I64 (IntKind.i64.wrap z) := by unfold I64; rw [IntKind.wrap_i64]; omega
theorem rdG_I64 (L s : List Nat) (c k : Nat) : I64 (rdG L s c k) := by
  induction k with
  | zero => unfold rdG I64; omega
  | succ k ih =>
    unfold rdG
    split
    · exact wrap_I64 _
    · exact ih
set_option linter.unusedSimpArgs false in
set_option linter.unusedVariables false in
set_option maxHeartbeats 4000000 in
set_option maxRecDepth 100000 in
theorem field_any (L s : List Nat) (hL8 : All8 L) (hs8 : All8 s) (N : Nat) (hN : L.length = N) (hsN : s.length = N) (hl : N ≤ 100) (c : Nat) (hc : c < 256) (g g1 : Nat) (w : World)
    (hg : w.cell? ⟨g, 0, none⟩ = some (.string (bstr L))) (hg1 : w.cell? ⟨g1, 0, none⟩ = some (.string (bstr s))) :
    Calls Tryd.prog 50 #[.int .u8 (c : Int), .pointer (some ⟨g, 0, none⟩), .pointer (some ⟨g1, 0, none⟩)] w fun e w' => e = .returned (.int .i64 (rdG L s c N)) ∧ w = w' := by
  have HIX := Lib.hid (fun j hj W => idx_str L hL8 j hj W)
  have HIS := Lib.hid (fun j hj W => idx_str s hs8 j hj W)
  have hsz := bstr_size L
  obtain ⟨S, hS⟩ : ∃ S, bstr L = S := ⟨_, rfl⟩
  obtain ⟨T, hT⟩ : ∃ T, bstr s = T := ⟨_, rfl⟩
  rw [hS] at HIX hsz hg
  rw [hT] at HIS hg1
  rw [hN] at hsz
  have HN := Lib.hid hN
  have HSN := Lib.hid hsN
  have HL8 := Lib.hid hL8
  have HS8 := Lib.hid hs8
  clear hS hT hN hsN hL8 hs8
  go_enter Tryd.func50, Tryd.ntmps50
  go_upto_region 3 with fail
  go_loopw [5, 9] (fun n i wr => ∃ (k : Nat) (v : Int), k ≤ N ∧ n = .int .i64 v ∧ rdG L s c k = v ∧ i = .int .i64 (k : Int) ∧ w = wr) (fun _ i _ => N - (intOf i).toNat)
  case atStart => exact ⟨0, 0, Nat.zero_le _, rfl, rfl, rfl, rfl⟩
  case round =>
    obtain ⟨k, v, hk, rfl, hv, rfl, rfl⟩ := hrel
    have HV := Lib.hid hv
    clear hv
    by_cases hlt : k < N
    · have hlt1 : k < L.length := by rw [HN.out]; exact hlt
      have hlt2 : k < s.length := by rw [HSN.out]; exact hlt
      have hix := HIX.out k hlt1
      have his := HIS.out k hlt2
      have hx8 := HL8.out _ (List.getElem_mem hlt1)
      have hs8 := HS8.out _ (List.getElem_mem hlt2)
      have hg2 : rdG L s c (k + 1) = if L[k] = c then rdS v s[k] else v := by
        show (if L.getD k 0 = c then rdS (rdG L s c k) (s.getD k 0) else rdG L s c k) = _
        rw [HV.out, List.getD_eq_getElem?_getD, List.getElem?_eq_getElem hlt1, Option.getD_some, List.getD_eq_getElem?_getD, List.getElem?_eq_getElem hlt2, Option.getD_some]
      generalize L[k] = x at *
      generalize s[k] = z at *
      have HG2 := Lib.hid hg2
      have hli : (k : Int) < (N : Int) := by omega
      clear hg2 hlt1 hlt2 hlt
      by_cases hxc : x = c
      · subst hxc
        have HE : Hid (rdG L s x (k + 1) = IntKind.i64.wrap (IntKind.i64.wrap (IntKind.i64.wrap (10 * v) + (z : Int)) - 48)) := Lib.hid (by rw [HG2.out, if_pos rfl]; rfl)
        have q0 : IntKind.i64.wrap (z : Int) = (z : Int) := by rw [IntKind.wrap_i64]; omega
        generalize hr1 : IntKind.i64.wrap (10 * v) = r1 at *
        generalize hr2 : IntKind.i64.wrap (r1 + (z : Int)) = r2 at *
        generalize hr3 : IntKind.i64.wrap (r2 - 48) = r3 at *
        go_wp2_with fail
        exact ⟨⟨k + 1, r3, by omega, rfl, HE.out, by go_num, trivial⟩, by simp [intOf]; omega⟩
      · have HE : Hid (rdG L s c (k + 1) = v) := Lib.hid (by rw [HG2.out, if_neg hxc])
        have hxb : ((x : Int) == (c : Int)) = false := by rw [beq_eq_false_iff_ne]; omega
        go_wp2_with fail
        exact ⟨⟨k + 1, v, by omega, rfl, HE.out, by go_num, trivial⟩, by simp [intOf]; omega⟩
    · obtain rfl : k = N := by omega
      go_wp2_with fail
      go_ret
      exact ⟨by rw [HV.out]; rfl, rfl⟩
end Go.Proofs.YtecmgkmonehmfaaDoor.Tim
