/-
  The reference of layer 5: contracts of PutInt, GetInt, GetBool.
  Conditions: slices read as bytes; the integer is in a word.
-/
import Derived.Test.YtdmbkbgnlmiilaaSclC
namespace Go.Proofs.Ytdmbkbgnlmiilaa.Scl
open Go.RowKit

theorem cons_own (w : World) (x : Nat) (hx : x < 256) {B : Option Addr} {m : List Nat} {c : Nat} (h : Rb w B m) (hm : m.length ≤ 1000) :
    ∃ g c2 w2, (Builtin.append_ #[22, 22] 22 #[.slice (some ⟨w.heap.size, 0, none⟩) 1 1, .slice B m.length c]).run Try.prog (w.alloc (.cells #[.int .u8 (x : Int)] 5)) = .ok (.slice (some g) (m.length + 1) c2) w2 ∧
      Rb w2 (some g) (x :: m) ∧ m.length + 1 ≤ c2 ∧ c2 ≤ maxLen ∧ Below w.heap.size w w2 := by
  have hb2 := bel1 w (.cells #[.int .u8 (x : Int)] 5)
  obtain ⟨v', w2, hrun, hown2, hb3⟩ := app_src (P := Try.prog) (ty := 22) Try.underlying22 info5 rfl (own_lit w 5 (.int .u8 (x : Int))) (c := c) ((h.below hb2).1) (by intro u hu; obtain ⟨n, _, rfl⟩ := List.mem_map.1 hu; rfl) (by simp) (by rw [cs8_length, List.length_singleton]; omega) (by rw [cs8_length, List.length_singleton]; unfold maxLen; omega)
  rw [cs8_length] at hrun
  obtain ⟨B2, c2, rfl, hr2, hc2, hc3⟩ := own_open hown2
  have e1 : [Value.int .u8 (x : Int)] ++ cs8 m = cs8 (x :: m) := rfl
  rw [e1] at hr2 hc2 hrun
  rw [cs8_length, List.length_cons] at hc2 hrun
  obtain ⟨b, off, rfl, _⟩ := hr2 (by simp [cs8])
  exact ⟨_, c2, w2, hrun, ⟨hr2, All8.cons hx h.2⟩, hc2, hc3, hb2.trans hb3⟩

theorem rpint_go {z r : Int} {m : List Nat} (h : putI z = putI r ++ m) (hs : ¬ ((r / 256 = 0 ∧ r % 256 < 128) ∨ (r / 256 = -1 ∧ 128 ≤ r % 256))) : putI z = putI (r / 256) ++ ((r % 256).toNat :: m) := by
  rw [h, putI_go hs, List.append_assoc]; rfl
theorem rpint_stop {z r : Int} {m : List Nat} (h : putI z = putI r ++ m) (hs : (r / 256 = 0 ∧ r % 256 < 128) ∨ (r / 256 = -1 ∧ 128 ≤ r % 256)) : putI z = (r % 256).toNat :: m := by
  rw [h, putI_stop hs]; rfl

set_option maxHeartbeats 2000000 in
theorem rpint_any (z : Int) (w : World) (h1 : -9223372036854775808 ≤ z) (h2 : z < 9223372036854775808) : Calls Try.prog 9 #[.int .i64 z] w (GiveB w (putI z)) := by
  have HL := Lib.hid (putI_len h1 h2)
  have h1' := h1
  have h2' := h2
  go_enter Try.func9, Try.ntmps9
  go_wp2_with fail
  go_loopw [3, 4] (fun o i wr => ∃ (r : Int) (m : List Nat) (B : Option Addr) (c : Nat), -9223372036854775808 ≤ r ∧ r < 9223372036854775808 ∧ i = .int .i64 r ∧ o = .slice B m.length c ∧ Rb wr B m ∧ putI z = putI r ++ m ∧ Below w.heap.size w wr) (fun _ i _ => (intOf i).natAbs)
  case atStart => exact ⟨z, [], none, 0, h1', h2', rfl, rfl, Rb.nil, by rw [List.append_nil], Below.refl _ _⟩
  case round =>
    obtain ⟨r, m, B, c, hr1, hr2, rfl, rfl, hrb, hp, hbel⟩ := hrel
    have hml : m.length ≤ 8 := by
      have := congrArg List.length hp
      rw [List.length_append] at this
      have := HL.out
      omega
    have hx : (r % 256).toNat < 256 := by omega
    obtain ⟨⟨gb, go, ge⟩, c2, w2, hrun, hr3, hc2, hc3, hb3⟩ := cons_own (c := c) wr (r % 256).toNat hx hrb (by omega)
    have hge := hr3.1 (by simp [cs8])
    obtain ⟨b', o', e, hgz, hcl⟩ := hge
    simp only [Option.some.injEq, Addr.mk.injEq] at e
    obtain ⟨rfl, rfl, rfl⟩ := e
    have hc0 : w2.cell? ⟨gb, go, none⟩ = some (.int .u8 ((r % 256).toNat : Int)) := hcl 0 _ rfl
    have hcast : (((r % 256).toNat : Nat) : Int) = r % 256 := by omega
    rw [hcast] at hrun hc0
    have ha : bits .and .i64 r 255 = r % 256 := i64_and255 r
    have HP := Lib.hid hp
    have HR3 := Lib.hid hr3
    have HBel := Lib.hid (hbel.trans (hb3.mono hbel.size))
    have HRUN := Lib.hid hrun
    have HC := Lib.hid (And.intro hc2 hc3)
    have hq1 : -9223372036854775808 ≤ r / 256 := by omega
    have hq2 : r / 256 < 9223372036854775808 := by omega
    obtain ⟨x, hxe⟩ : ∃ x, r % 256 = x := ⟨_, rfl⟩
    have hx0 : 0 ≤ x := by omega
    have hx1 : x < 256 := by omega
    have HX := Lib.hid hxe
    have HIF := Lib.hid (show ∀ n : Nat, n = m.length + 1 → n = ((r % 256).toNat :: m).length from fun n h => by rw [h, List.length_cons])
    obtain ⟨q, hqe⟩ : ∃ q, r / 256 = q := ⟨_, rfl⟩
    have HQ := Lib.hid hqe
    have hm16 : x % 256 = x := by omega
    rw [hqe] at hq1 hq2
    rw [hxe] at ha hc0
    have HRUN2 : Hid ((Builtin.append_ #[22, 22] 22 #[.slice (some ⟨wr.heap.size, 0, none⟩) 1 1, .slice B m.length c]).run Try.prog (wr.alloc (.cells #[.int .u8 x] 5)) = .ok (.slice (some ⟨gb, go, none⟩) (m.length + 1) c2) w2) := by rw [← hxe]; exact HRUN.out
    have HM : Hid (¬ ((q = 0 ∧ x < 128) ∨ (q = -1 ∧ 128 ≤ x)) → q.natAbs < r.natAbs) := Lib.hid fun h => by omega
    clear hp hr3 hbel hb3 hrun hrb hc2 hc3 hcl hcast hqe hxe hx HRUN hr1 hr2 h1 h2
    have hsh : r / 256 = q := HQ.out
    generalize hml' : m.length = ml at *
    have HML := Lib.hid hml'
    clear hml'
    rcases (show (q = 0 ∧ x < 128) ∨ (q = 0 ∧ 128 ≤ x) ∨ (q = -1 ∧ 128 ≤ x) ∨ (q = -1 ∧ x < 128) ∨ (q ≠ 0 ∧ q ≠ -1) by omega) with ⟨hq, h⟩ | ⟨hq, h⟩ | ⟨hq, h⟩ | ⟨hq, h⟩ | ⟨hq, h⟩
    · subst hq
      go_wp2_with (at_builtin; refine wpList_app rfl _ _ _ _ rfl _ _ rfl rfl HRUN2.out ?_)
      go_ret
      have e := rpint_stop HP.out (by rw [HQ.out, HX.out]; omega)
      rw [e]
      exact ⟨_, c2, by rw [List.length_cons, HML.out]; rfl, HR3.out, by rw [List.length_cons, HML.out]; exact HC.out.1, HC.out.2, HBel.out⟩
    · subst hq
      go_wp2_with (at_builtin; refine wpList_app rfl _ _ _ _ rfl _ _ rfl rfl HRUN2.out ?_)
      have e := rpint_go HP.out (by rw [HQ.out, HX.out]; omega)
      rw [HQ.out] at e
      exact ⟨⟨0, _, some ⟨gb, go, none⟩, c2, by omega, by omega, rfl, by rw [List.length_cons, HML.out], HR3.out, e, HBel.out⟩, HM.out (by omega)⟩
    · subst hq
      go_wp2_with (at_builtin; refine wpList_app rfl _ _ _ _ rfl _ _ rfl rfl HRUN2.out ?_)
      go_ret
      have e := rpint_stop HP.out (by rw [HQ.out, HX.out]; omega)
      rw [e]
      exact ⟨_, c2, by rw [List.length_cons, HML.out]; rfl, HR3.out, by rw [List.length_cons, HML.out]; exact HC.out.1, HC.out.2, HBel.out⟩
    · subst hq
      go_wp2_with (at_builtin; refine wpList_app rfl _ _ _ _ rfl _ _ rfl rfl HRUN2.out ?_)
      have e := rpint_go HP.out (by rw [HQ.out, HX.out]; omega)
      rw [HQ.out] at e
      exact ⟨⟨-1, _, some ⟨gb, go, none⟩, c2, by omega, by omega, rfl, by rw [List.length_cons, HML.out], HR3.out, e, HBel.out⟩, HM.out (by omega)⟩
    · have hb1 : (q == 0) = false := by simpa using hq
      have hb2 : (q == -1) = false := by simpa using h
      go_wp2_with (at_builtin; refine wpList_app rfl _ _ _ _ rfl _ _ rfl rfl HRUN2.out ?_)
      have e := rpint_go HP.out (by rw [HQ.out, HX.out]; omega)
      rw [HQ.out] at e
      exact ⟨⟨q, _, some ⟨gb, go, none⟩, c2, by omega, by omega, rfl, by rw [List.length_cons, HML.out], HR3.out, e, HBel.out⟩, HM.out (by omega)⟩
end Go.Proofs.Ytdmbkbgnlmiilaa.Scl
