/-
  Package tags: the contract of parseNumber.
  Conditions: the variables hold what the program's text lays.
-/
import Derived.Test.YtcaolgcpcjodnaaDoorTagK
import Derived.Lib.AtoiErrMem
namespace Go.Proofs.YtcaolgcpcjodnaaDoor
open Go.RowKit

theorem fold_rev (l : List Nat) : ∀ acc, l.reverse.foldl (fun a d => a * 10 + d) acc = acc * 10 ^ l.length + vl 10 l := by
  induction l with
  | nil => intro acc; simp [vl]
  | cons x l ih =>
    intro acc
    rw [List.reverse_cons, List.foldl_append, ih, List.foldl_cons, List.foldl_nil, List.length_cons, Nat.pow_succ, vl]
    rw [Nat.add_mul, Nat.mul_assoc]
    omega
theorem parseM (M : Nat) (hM : M < 1844674407370955162) (l : List Nat) : ∀ acc, (∀ x ∈ l, x < 10) → l.foldl (fun a d => a * 10 + d) acc ≤ M → Lib.parseUintM M acc ((l.map (48 + ·)).map UInt8.ofNat) = .ok (l.foldl (fun a d => a * 10 + d) acc) := by
  induction l with
  | nil => intro acc _ _; rfl
  | cons x l ih =>
    intro acc h10 hle
    have hx := h10 x (List.mem_cons_self ..)
    have hmono : acc * 10 + x ≤ M := by
      have : ∀ (l : List Nat) (a : Nat), a ≤ l.foldl (fun a d => a * 10 + d) a := by
        intro l
        induction l with
        | nil => intro a; exact Nat.le_refl _
        | cons y l ih => intro a; have := ih (a * 10 + y); rw [List.foldl_cons]; omega
      exact Nat.le_trans (this l _) hle
    have hu : (UInt8.ofNat (48 + x)).toNat = 48 + x := UInt8.toNat_ofNat_of_lt' (show 48 + x < 256 by omega)
    rw [List.map_cons, List.map_cons, Lib.parseUintM, hu, if_pos (by omega), if_neg (by omega), if_neg (by omega), show 48 + x - 48 = x by omega, ih _ (fun y hy => h10 y (List.mem_cons_of_mem _ hy)) hle]
    rfl
theorem parse_text (n : Nat) (hn : n ≤ 268435455) : Lib.parseUintB 32 ((textL n).map UInt8.ofNat) = .ok n := by
  by_cases h0 : n = 0
  · subst h0; rfl
  · have hf := fold_rev (dgs 10 n) 0
    rw [vl_dgs (by omega), Nat.zero_mul, Nat.zero_add] at hf
    have h := parseM (2 ^ 32 - 1) (by decide) (dgs 10 n).reverse 0 (dgs_lt (by omega) n).rev (by rw [hf]; omega)
    rw [hf] at h
    unfold Lib.parseUintB textL
    rw [if_neg h0, if_neg (by rw [dgs_pos (by omega) h0]; simp)]
    exact h
/-- The number of a tag with a decimal form. -/
def numOf (l : List Nat) : Option Nat := match Lib.parseUintB 32 (l.map UInt8.ofNat) with
  | .ok u => if u ≤ 268435455 ∧ textL u = l then some u else none
  | _ => none
theorem num_text (n : Nat) (hn : n ≤ 268435455) : numOf (textL n) = some n := by
  unfold numOf; rw [parse_text n hn]; exact if_pos ⟨hn, rfl⟩
theorem num_some {l : List Nat} {n : Nat} (h : numOf l = some n) : n ≤ 268435455 ∧ l = textL n := by
  unfold numOf at h
  split at h
  · split at h
    · rename_i h1 h2; cases h; exact ⟨h2.1, h2.2.symm⟩
    · cases h
  · cases h
theorem textL_all (n : Nat) : All8 (textL n) := by
  unfold textL
  split
  · intro x hx; simp at hx; omega
  · intro x hx
    simp only [List.mem_map, List.mem_reverse] at hx
    obtain ⟨y, hy, rfl⟩ := hx
    have := dgs_lt (b := 10) (by omega) n y hy
    omega
theorem textL_no32 (n : Nat) : 32 ∉ textL n := by
  unfold textL
  split
  · simp
  · intro hx
    simp only [List.mem_map, List.mem_reverse] at hx
    obtain ⟨y, hy, e⟩ := hx
    omega
theorem pb {w w' : World} {t : TypeId} {s : ByteArray} (h : w' = w ∨ w' = Lib.bytesWorld w t s) : Below w.heap.size w w' := by
  rcases h with rfl | rfl
  · exact Below.refl _ _
  · exact Lib.bytesWorld_below _ _ _

/-- ParseUint refuses. -/
def Refuses (w : World) (e : Ending) (w' : World) : Prop := ∃ (N : Nat) (z : Int), e = .returned (.tuple #[.int .u64 z, .iface 105 (.pointer (some ⟨N, 0, none⟩))]) ∧ Below w.heap.size w w'
theorem pu_range {w : World} (hE : Env w) (l : List Nat) (hl : l.length ≤ 4294967296) (hp : Lib.parseUintB 32 (l.map UInt8.ofNat) = .range) :
    Calls Tryd.prog 44 #[.string (bstr l), .int .i64 10, .int .i64 32] w (Refuses w) := by
  obtain ⟨tp, p, hv⟩ := hE.rng
  have hs := bstr_size l
  exact (Tryd.strconv_ParseUint_10_at32_range_var (bstr l) (by omega) (by rw [bstr_list]; exact hp) tp p w hv).mono fun e w' ⟨N, h1, _, _, h2⟩ => ⟨N, _, h1, h2⟩
theorem pu_bad {w : World} (hE : Env w) (l : List Nat) (hl : l.length ≤ 4294967296) (h1 : ∀ u, Lib.parseUintB 32 (l.map UInt8.ofNat) ≠ .ok u) :
    Calls Tryd.prog 44 #[.string (bstr l), .int .i64 10, .int .i64 32] w (Refuses w) := by
  cases hp : Lib.parseUintB 32 (l.map UInt8.ofNat)
  · exact absurd hp (h1 _)
  · obtain ⟨tp, p, hv⟩ := hE.syn
    have hs := bstr_size l
    exact (Any.strconv_ParseUint_10_at32_syntax_var Tryd.laysPu14 (bstr l) (by omega) (by rw [bstr_list]; exact hp) tp p w hv).mono fun e w' ⟨N, h1, _, _, h2⟩ => ⟨N, _, h1, h2⟩
  · exact pu_range hE l hl hp
set_option maxHeartbeats 1000000 in
theorem pnum_any (l : List Nat) (w : World) (hE : Env w) (h8 : All8 l) (hl : l.length ≤ 4294967296) :
    Calls Tryd.prog 34 #[.string (bstr l)] w fun e w' => e = .returned (.tuple #[.int .u32 (((numOf l).getD 0 : Nat) : Int), .bool (numOf l).isSome]) ∧ Below w.heap.size w w' := by
  have hsz := bstr_size l
  have HE := Lib.hid hE
  cases hp : Lib.parseUintB 32 (l.map UInt8.ofNat)
  · rename_i u
    have hu := Lib.parseUintB_le hp
    have hu32 : u ≤ 4294967295 := hu
    have hp2 : Lib.parseUintB 32 (bstr l).data.toList = .ok u := by rw [bstr_list]; exact hp
    have HP := Lib.hid hp2
    by_cases hu28 : u ≤ 268435455
    · by_cases ht : textL u = l
      · have HN := Lib.hid (show numOf l = some u by unfold numOf; rw [hp]; exact if_pos ⟨hu28, ht⟩)
        have HT := Lib.hid ht
        have hsf := bstr_self (bstr l)
        clear hp hp2 hE hu ht
        go_enter Tryd.func34, Tryd.ntmps34
        go_wp2_with (first | (go_at_call 44; refine (Tryd.strconv_ParseUint_10_at32_ok (bstr l) (by omega) u HP.out _).mono ?_; rintro e w1 ⟨rfl, hw1⟩; have hB := pb hw1; have HB := Lib.hid hB; clear hB hw1) | (go_at_call 27; refine (format_any u (by omega) _ (HE.out.below HB.out).tab).mono ?_; rintro e w2 ⟨rfl, hb2⟩; rw [dec_str, HT.out]; have HB2 := Lib.hid hb2; clear hb2))
        go_ret2
        exact ⟨by rw [HN.out]; rfl, HB.out.trans (HB2.out.mono HB.out.size)⟩
      · have HN := Lib.hid (show numOf l = none by unfold numOf; rw [hp]; exact if_neg (fun e => ht e.2))
        have hne := bstr_ne' h8 (textL_all u) (fun e => ht e.symm)
        have hne2 := bstr_ne h8 (textL_all u) (fun e => ht e.symm)
        obtain ⟨T, hT⟩ : ∃ T, bstr (textL u) = T := ⟨_, rfl⟩
        rw [hT] at hne hne2
        have HT := Lib.hid hT
        clear hp hp2 hE hu ht hT
        go_enter Tryd.func34, Tryd.ntmps34
        go_wp2_with (first | (go_at_call 44; refine (Tryd.strconv_ParseUint_10_at32_ok (bstr l) (by omega) u HP.out _).mono ?_; rintro e w1 ⟨rfl, hw1⟩; have hB := pb hw1; have HB := Lib.hid hB; clear hB hw1) | (go_at_call 27; refine (format_any u (by omega) _ (HE.out.below HB.out).tab).mono ?_; rintro e w2 ⟨rfl, hb2⟩; rw [dec_str, HT.out]; have HB2 := Lib.hid hb2; clear hb2))
        go_ret2
        exact ⟨by rw [HN.out]; rfl, HB.out.trans (HB2.out.mono HB.out.size)⟩
    · have HN := Lib.hid (show numOf l = none by unfold numOf; rw [hp]; exact if_neg (fun e => hu28 e.1))
      clear hp hp2 hE hu
      go_enter Tryd.func34, Tryd.ntmps34
      go_wp2_with (go_at_call 44; refine (Tryd.strconv_ParseUint_10_at32_ok (bstr l) (by omega) u HP.out _).mono ?_; rintro e w1 ⟨rfl, hw1⟩; have hB := pb hw1; have HB := Lib.hid hB; clear hB hw1)
      go_ret2
      exact ⟨by rw [HN.out]; rfl, HB.out⟩
  · have HPr := Lib.hid (pu_bad hE l (by omega) (fun u e => by rw [hp] at e; cases e))
    have HN := Lib.hid (show numOf l = none by unfold numOf; rw [hp])
    clear hp hE
    go_enter Tryd.func34, Tryd.ntmps34
    go_wp2_with (go_at_call 44; refine HPr.out.mono ?_; rintro e w1 ⟨N, z, rfl, hb1⟩; have HB := Lib.hid hb1; clear hb1)
    go_ret2
    exact ⟨by rw [HN.out]; rfl, HB.out⟩
  · have HPr := Lib.hid (pu_range hE l (by omega) hp)
    have HN := Lib.hid (show numOf l = none by unfold numOf; rw [hp])
    clear hp hE
    go_enter Tryd.func34, Tryd.ntmps34
    go_wp2_with (go_at_call 44; refine HPr.out.mono ?_; rintro e w1 ⟨N, z, rfl, hb1⟩; have HB := Lib.hid hb1; clear hb1)
    go_ret2
    exact ⟨by rw [HN.out]; rfl, HB.out⟩
end Go.Proofs.YtcaolgcpcjodnaaDoor
