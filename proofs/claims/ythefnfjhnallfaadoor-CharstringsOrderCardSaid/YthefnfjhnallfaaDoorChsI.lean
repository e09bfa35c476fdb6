/-
  Layer 9: one character put, of each kind; slices.Clip of bytes.
  Conditions: a row that the call owns; the character is one of the kind.
-/
import Derived.Test.YthefnfjhnallfaaDoorChsH
import Derived.IntWalk
namespace Go.Proofs.YthefnfjhnallfaaDoor.Chs
open Go.RowKit Go.Shelf

theorem cs8_length (l : List Nat) : (cs8 l).length = l.length := by unfold cs8; rw [List.length_map]
theorem infoB : (Tryd.prog.info? 5).map (fun i => (i.zero, i.size, i.bytes)) = some (some (.int .u8 0), 1, 1) := by kernel_rfl
theorem cs8_app (l m : List Nat) : cs8 l ++ cs8 m = cs8 (l ++ m) := by unfold cs8; rw [List.map_append]
theorem appB {w : World} {base : Nat} {v : Value} {l : List Nat} (hown : w.ownsRow base 5 1 v l.length (cs8 l)) (x : Nat) (hb : base ≤ w.heap.size) (hl : l.length ≤ 1000000) :
    ∃ v' w', (Builtin.append_ #[32, 32] 32 #[v, .slice (some ⟨w.heap.size, 0, none⟩) 1 1]).run Tryd.prog (w.alloc (.cells #[.int .u8 (x : Int)] 5)) = .ok v' w' ∧ w'.ownsRow base 5 1 v' (l ++ [x]).length (cs8 (l ++ [x])) ∧ Below base w w' := by
  rw [← cs8_length] at hown
  obtain ⟨v', w', h1, h2, h3⟩ := app_one (P := Tryd.prog) (ty := 32) Tryd.underlying32 infoB rfl hown (.int .u8 (x : Int)) rfl hb (by rw [cs8_length]; omega) (by rw [cs8_length]; unfold maxLen; omega)
  refine ⟨v', w', h1, ?_, h3⟩
  rw [show cs8 l ++ [.int .u8 (x : Int)] = cs8 (l ++ [x]) from cs8_app l [x], cs8_length] at h2
  exact h2
/-- 'append(v, x, y)' of two bytes. -/
theorem appB2 {w : World} {base : Nat} {v : Value} {l : List Nat} (hown : w.ownsRow base 5 1 v l.length (cs8 l)) (x y : Nat) (hb : base ≤ w.heap.size) (hl : l.length ≤ 1000000) :
    ∃ v' w', (Builtin.append_ #[32, 32] 32 #[v, .slice (some ⟨w.heap.size, 0, none⟩) 2 2]).run Tryd.prog (w.alloc (.cells #[.int .u8 (x : Int), .int .u8 (y : Int)] 5)) = .ok v' w' ∧ w'.ownsRow base 5 1 v' (l ++ [x, y]).length (cs8 (l ++ [x, y])) ∧ Below base w w' := by
  rw [← cs8_length] at hown
  obtain ⟨i, hi, hz0, hz1, hz2⟩ := info_parts infoB
  obtain ⟨v', w', hrun, h2, h3, _⟩ := run_append_own (P := Tryd.prog) (w.alloc (.cells #[.int .u8 (x : Int), .int .u8 (y : Int)] 5)) base 32 32 5 i _ 1 1 Tryd.underlying32 hi hz0 hz1 hz2 rfl (by omega) v (cs8 l).length (cs8 l) (hown.alloc _) ⟨w.heap.size, 0, none⟩ 2 2 (cs8 [x, y]) rfl
    (fun j u hu => by
      have := ((Bk.new w 5 (cs8 [x, y])).cell j).trans hu
      rwa [show (⟨w.heap.size, 0, none⟩ : Addr).add j = ⟨w.heap.size, j, none⟩ by unfold Addr.add; split <;> simp_all]) (fun u hu => by obtain ⟨_, _, rfl⟩ := List.mem_map.1 hu; rfl) (by rw [cs8_length]; unfold maxLen; omega) (by rw [cs8_length]; omega) (by simp; omega)
  refine ⟨v', w', hrun, ?_, ((Below.refl base w).alloc hb _).grown h3 (by simp; omega) (fun k hk => (hown.lt k hk).1)⟩
  rw [cs8_app, cs8_length] at h2
  rw [List.length_append]
  exact h2
theorem clipB_s (b n c : Nat) (w : World) (h : n ≤ c) (_hc : c ≤ maxLen) : Calls Tryd.prog 34 #[.slice (some ⟨b, 0, none⟩) n c] w fun e w' => e = .returned (.slice (some ⟨b, 0, none⟩) n n) ∧ w = w' := by
  unfold maxLen at _hc
  have h1 : (n : Int) ≤ (c : Int) := by omega
  go_enter Tryd.func34, Tryd.ntmps34
  go_wp2_with fail
  go_ret
  exact ⟨rfl, rfl⟩
theorem clipB_nil (w : World) : Calls Tryd.prog 34 #[.slice none 0 0] w fun e w' => e = .returned (.slice none 0 0) ∧ w = w' := by
  go_enter Tryd.func34, Tryd.ntmps34
  go_wp2_with fail
  go_ret
  exact ⟨rfl, rfl⟩
theorem clipB_any {w : World} {base : Nat} {v : Value} {l : List Nat} (hown : w.ownsRow base 5 1 v l.length (cs8 l)) : Calls Tryd.prog 34 #[v] w fun e w' => (∃ A, e = .returned (.slice A l.length l.length) ∧ Rd w A (cs8 l) ∧ ∀ q, A = some q → base ≤ q.block) ∧ w = w' := by
  obtain ⟨A, c, hv, hr, h1, h2⟩ := own_open (by rw [cs8_length]; exact hown)
  rw [cs8_length] at hv h1
  rcases hown.2 with ⟨rfl, h0⟩ | ⟨g, cap, cur, rfl, _⟩
  · refine (clipB_nil w).mono ?_
    rintro e w' ⟨rfl, rfl⟩
    exact ⟨⟨none, by rw [h0], by rw [List.eq_nil_of_length_eq_zero h0]; exact fun h => absurd rfl h, fun q e => by cases e⟩, rfl⟩
  · injection hv with e1 e2 e3
    subst e1
    subst e3
    refine (clipB_s g l.length cap w h1 h2).mono ?_
    rintro e w' ⟨rfl, rfl⟩
    exact ⟨⟨_, rfl, hr, fun q e => by cases e; exact (hown.lt g rfl).1⟩, rfl⟩
/-- The bytes of a character of a kind. -/
def putB (k c : Nat) : List Nat := if k = 12 then enc1 c else if k = 30 then [c / 256, c % 256] else [c]
theorem putB_len (k c : Nat) : 1 ≤ (putB k c).length ∧ (putB k c).length ≤ 4 := by
  unfold putB
  split
  · exact enc1_len c
  · split <;> simp
theorem runeCells_eq {c : Nat} (h : scal c = true) : Lib.runeCells (c : Int) = cs8 (enc1 c) := by
  have h := scal_iff.1 h
  unfold Lib.runeCells Lib.encodeRuneZ enc1 cs8
  by_cases h1 : c < 128
  · rw [if_pos (by omega), if_pos h1]; rfl
  · rw [if_neg (by omega), if_neg h1]
    by_cases h2 : c < 2048
    · rw [if_pos (by omega), if_pos h2]; rfl
    · rw [if_neg (by omega), if_neg h2]
      by_cases h3 : c < 65536
      · rw [if_pos (by omega), if_pos h3]; rfl
      · rw [if_neg (by omega), if_pos (by omega), if_neg h3]; rfl
theorem putOctet_any (c : Nat) (hc : c < 256) {w : World} {B : Nat} {v : Value} {l : List Nat} (hown : w.ownsRow B 5 1 v l.length (cs8 l)) (hb : B ≤ w.heap.size) (hl : l.length ≤ 1000000) :
    Calls Tryd.prog 48 #[v, .int .i32 (c : Int)] w fun e w' => ∃ v', e = .returned v' ∧ w'.ownsRow B 5 1 v' (l ++ [c]).length (cs8 (l ++ [c])) ∧ Below B w w' := by
  have hw : IntKind.u8.wrap (c : Int) = (c : Int) := IntWalk.u8_in _ (by omega)
  obtain ⟨v', w', hrun, h2, h3⟩ := appB hown c hb hl
  have H2 := Lib.hid h2
  have H3 := Lib.hid h3
  clear h2 h3 hown
  go_enter Tryd.func48, Tryd.ntmps48
  go_wp2_with (at_builtin; refine wpList_app rfl _ _ _ _ rfl _ _ rfl rfl hrun ?_)
  go_ret
  exact ⟨v', rfl, H2.out, H3.out⟩
theorem putPair_any (c : Nat) (hc : c < 65536) {w : World} {B : Nat} {v : Value} {l : List Nat} (hown : w.ownsRow B 5 1 v l.length (cs8 l)) (hb : B ≤ w.heap.size) (hl : l.length ≤ 1000000) :
    Calls Tryd.prog 53 #[v, .int .i32 (c : Int)] w fun e w' => ∃ v', e = .returned v' ∧ w'.ownsRow B 5 1 v' (l ++ [c / 256, c % 256]).length (cs8 (l ++ [c / 256, c % 256])) ∧ Below B w w' := by
  obtain ⟨v', w', hrun, h2, h3⟩ := appB2 hown (c / 256) (c % 256) hb hl
  have H2 := Lib.hid h2
  have H3 := Lib.hid h3
  clear h2 h3 hown
  rw [show ((c / 256 : Nat) : Int) = (c : Int) / 256 by omega, show ((c % 256 : Nat) : Int) = (c : Int) % 256 by omega] at hrun
  go_enter Tryd.func53, Tryd.ntmps53
  go_wp2_with (at_builtin; refine wpList_app rfl _ _ _ _ rfl _ _ rfl rfl hrun ?_)
  go_ret
  exact ⟨v', rfl, H2.out, H3.out⟩
/-- One character of a kind put. -/
theorem put_any {k : Nat} (hk : isK k = true) (c : Nat) (hs : scal c = true) (hh : hasN k c = true) {w : World} {B : Nat} {v : Value} {l : List Nat} (hown : w.ownsRow B 5 1 v l.length (cs8 l)) (hb : B ≤ w.heap.size) (hl : l.length ≤ 1000000) :
    Calls Tryd.prog (putF k) #[v, .int .i32 (c : Int)] w fun e w' => ∃ v', e = .returned v' ∧ w'.ownsRow B 5 1 v' (l ++ putB k c).length (cs8 (l ++ putB k c)) ∧ Below B w w' := by
  have hsc := scal_iff.1 hs
  by_cases h12 : k = 12
  · subst h12
    refine (Tryd.utf8_AppendRune_plain B v l.length (cs8 l) (c : Int) (by omega) (by omega) w hown (by omega) hb).mono ?_
    rintro e w' ⟨v', rfl, h1, o, h2⟩
    rw [runeCells_eq hs, cs8_app, cs8_length] at h1
    refine ⟨v', rfl, by rw [List.length_append]; exact h1, ((Below.refl B w).alloc hb o).grown h2 (by simp; omega) (fun k hk => (hown.lt k hk).1)⟩
  · by_cases h30 : k = 30
    · subst h30
      have : c < 65536 := by
        unfold hasN at hh
        simp at hh
        omega
      exact putPair_any c this hown hb hl
    · have hc : c < 256 := by
        unfold hasN at hh
        rw [if_neg h12] at hh
        split at hh
        · simp at hh; omega
        · split at hh
          · simp at hh; omega
          · unfold prB othL at hh
            simp at hh
            omega
      have e1 : putB k c = [c] := by unfold putB; rw [if_neg h12, if_neg h30]
      have e2 : putF k = 48 := by unfold putF; rw [if_neg h12, if_neg h30]
      rw [e1, e2]
      exact putOctet_any c hc hown hb hl
theorem put_enter {k : Nat} (h : isK k = true) (args : Array Value) (W : World) : (callFunc (putF k) args).run Tryd.prog W = .ok (.enter (putF k) args) W := by
  rcases isK_cases h with rfl | rfl | rfl | rfl | rfl
  all_goals simp [go_sem, putF]
end Go.Proofs.YthefnfjhnallfaaDoor.Chs
