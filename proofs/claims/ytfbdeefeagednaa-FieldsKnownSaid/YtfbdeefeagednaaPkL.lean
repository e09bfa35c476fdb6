/-
  Contracts and facts of layers 1 to 10 that later statements rest on: part L (LenA LenB LenD LenE LenV).
  Conditions: as each says.
-/
import Derived.Test.YtfbdeefeagednaaPkC
import Derived.Test.YtfbdeefeagednaaPkT
import Derived.Test.YtfbdeefeagednaaRows
import Derived.WalkSpells
import Derived.Handy
import Derived.Deep.QuietTactic
import Derived.BigQuiet
import Derived.Laws.BitsLemmas
import Derived.Laws.AppendOwnNone
set_option maxRecDepth 100000
namespace Go.Proofs.Ytfbdeefeagednaa.Len
open Go.RowKit
/-- The number of octets of a length; 0 if it is not valid. -/
def szI (z : Int) : Nat := if z < 0 then 0 else if 16777215 < z then 0 else if z < 128 then 1 else if z < 256 then 2 else if z < 65536 then 3 else 4
/-- The size of an element. -/
def totI (t z : Int) : Int := if t < 1 then 0 else if 5 < t then 0 else if szI z = 0 then 0 else t + (szI z : Int) + z
set_option maxRecDepth 100000 in
set_option maxHeartbeats 400000 in
theorem size_any (z : Int) (w : World) : Calls Try.prog 63 #[.int .i64 z] w fun e w' => e = .returned (.int .i64 (szI z : Int)) ∧ w = w' := by
  unfold szI
  by_cases h0 : z < 0
  · rw [if_pos h0]
    go_enter Try.func63, Try.ntmps63
    go_wp2
    go_ret
    exact ⟨rfl, rfl⟩
  by_cases h1 : 16777215 < z
  · rw [if_neg h0, if_pos h1]
    go_enter Try.func63, Try.ntmps63
    go_wp2
    go_ret
    exact ⟨rfl, rfl⟩
  rw [if_neg h0, if_neg h1]
  by_cases h2 : z < 128
  · rw [if_pos h2]
    go_enter Try.func63, Try.ntmps63
    go_wp2
    go_ret
    exact ⟨rfl, rfl⟩
  rw [if_neg h2]
  by_cases h3 : z < 256
  · rw [if_pos h3]
    go_enter Try.func63, Try.ntmps63
    go_wp2
    go_ret
    exact ⟨rfl, rfl⟩
  rw [if_neg h3]
  by_cases h4 : z < 65536
  · rw [if_pos h4]
    go_enter Try.func63, Try.ntmps63
    go_wp2
    go_ret
    exact ⟨rfl, rfl⟩
  · rw [if_neg h4]
    go_enter Try.func63, Try.ntmps63
    go_wp2
    go_ret
    exact ⟨rfl, rfl⟩
theorem szI_le (z : Int) : szI z ≤ 4 := by unfold szI; repeat (first | omega | split)
theorem szI_zero {z : Int} : szI z = 0 ↔ z < 0 ∨ 16777215 < z := by unfold szI; repeat (first | omega | split)
set_option maxRecDepth 100000 in
set_option maxHeartbeats 400000 in
theorem total_any (t z : Int) (w : World) : Calls Try.prog 71 #[.int .i64 t, .int .i64 z] w fun e w' => e = .returned (.int .i64 (totI t z)) ∧ w = w' := by
  unfold totI
  have C1 := Lib.hid (size_any z w)
  have h4 := szI_le z
  have h5 := @szI_zero z
  generalize szI z = s at C1 h4 h5
  by_cases h0 : t < 1
  · rw [if_pos h0]
    go_enter Try.func71, Try.ntmps71
    go_wp2_with fail
    refine C1.out.mono ?_
    rintro e w' ⟨rfl, rfl⟩
    go_wp2_with fail
    go_ret
    exact ⟨rfl, rfl⟩
  rw [if_neg h0]
  by_cases h1 : 5 < t
  · rw [if_pos h1]
    go_enter Try.func71, Try.ntmps71
    go_wp2_with fail
    refine C1.out.mono ?_
    rintro e w' ⟨rfl, rfl⟩
    go_wp2_with fail
    go_ret
    exact ⟨rfl, rfl⟩
  rw [if_neg h1]
  by_cases h2 : s = 0
  · subst h2
    rw [if_pos rfl]
    clear h5
    go_enter Try.func71, Try.ntmps71
    go_wp2_with fail
    refine C1.out.mono ?_
    rintro e w' ⟨rfl, rfl⟩
    go_wp2_with fail
    go_ret
    exact ⟨rfl, rfl⟩
  · rw [if_neg h2]
    have h6 : 0 ≤ z ∧ z ≤ 16777215 := by omega
    obtain ⟨h6, h7⟩ := h6
    have hb : ((s : Int) == 0) = false := by simp; omega
    clear h5 h2
    go_enter Try.func71, Try.ntmps71
    go_wp2_with fail
    refine C1.out.mono ?_
    rintro e w' ⟨rfl, rfl⟩
    go_wp2_with fail
    go_ret
    exact ⟨rfl, rfl⟩
end Go.Proofs.Ytfbdeefeagednaa.Len
namespace Go.Proofs.Ytfbdeefeagednaa.Len
open Go.RowKit
/-- The walk's step at the builtin append, by what it runs to. -/
theorem wpList_app {P : Program} {w : World} {ops : Array Oper} {rest : List Oper} {o : Oper} {a : Act} {Q : Exit → Act → World → Prop} (hgd : o.guard = none) (s x : Operand) (t1 t2 : TypeId)
    (ho : o.op = .call { callee := .builtin .append, args := #[s, x], argTypes := #[t1, t2] }) (u v : Value) (hs : a.eval s = u) (hx : a.eval x = v) {r : Value} {w1 : World}
    (hrun : (Builtin.append_ #[t1, t2] o.type #[u, v]).run P w = .ok r w1) (h : wpList P ops Q rest (a.put o.dst r) w1) : wpList P ops Q (o :: rest) a w := by
  refine wpList_plain hgd fun K hK => ?_
  have hK' := hK _ _ h
  unfold Oper.wp execOp
  simp only [ho, resolve, invoke, builtin, Sem.run_bind, Sem.run_pure, Result.andThen_ok, List.map_toArray, List.map_cons, List.map_nil, hs, hx, hrun]
  exact hK'
theorem info5 : (Try.prog.info? 5).map (fun i => (i.zero, i.size, i.bytes)) = some (some (.int .u8 0), 1, 1) := by kernel_rfl
theorem cs8_length (l : List Nat) : (cs8 l).length = l.length := by unfold cs8; rw [List.length_map]
theorem made_one (v : Value) (n : Nat) : madeCells #[v] n = (List.replicate n v).toArray := by
  unfold madeCells
  apply Array.ext
  · simp
  · intro i h1 h2
    simp [Nat.mod_one]
/-- A block whose first cells hold the octets; the others are free. -/
def Room (w : World) (g L : Nat) (l : List Nat) : Prop := Bk w g 5 (cs8 l ++ List.replicate (L - l.length) (by8 0)) ∧ l.length ≤ L ∧ All8 l
theorem make_cap (L : Nat) (hL : L ≤ 1000000) (W : World) : (Instr.makeSlice 26 (.int .i64 0) (.int .i64 (L : Int))).run Try.prog W = .ok (.slice (some ⟨W.heap.size, 0, none⟩) 0 L) (W.alloc (.cells (List.replicate L (by8 0)).toArray 5)) := by
  obtain ⟨i, hi, hz0, hz1, hz2⟩ := info_parts info5
  have h := run_make (P := Try.prog) W 26 5 i (.int .u8 0) Try.underlying26 hi hz0 .i64 .i64 0 (L : Int) (by omega) (by omega) (by rw [hz2]; omega) (by omega)
  rw [h, hz1, Int.toNat_natCast, Nat.mul_one, show (Value.int IntKind.u8 0).cells = #[Value.int IntKind.u8 0] from rfl, made_one, Int.toNat_zero]
  rfl
theorem make_room (z : Int) (L : Nat) (hz : z = (L : Int)) (hL : L ≤ 1000000) (W : World) : ∃ W1, (Instr.makeSlice 26 (.int .i64 0) (.int .i64 z)).run Try.prog W = .ok (.slice (some ⟨W.heap.size, 0, none⟩) 0 L) W1 ∧ Room W1 W.heap.size L [] ∧ Below W.heap.size W W1 :=
  ⟨_, hz ▸ make_cap L hL W, ⟨by simpa [cs8] using Bk.new W 5 (List.replicate L (by8 0)), Nat.zero_le _, All8.nil⟩, (Below.refl _ _).alloc (Nat.le_refl _) _⟩
/-- 'append(octets, x)' where there is room. -/
theorem app_oct {w : World} {g L : Nat} {l : List Nat} (hr : Room w g L l) (k k1 : Nat) (hk : l.length = k) (hk1 : k + 1 = k1) (hl : k < L) {x : Nat} (hx : x < 256) {B : Nat} (hB : B ≤ g) :
    ∃ w', (Builtin.append_ #[26, 26] 26 #[.slice (some ⟨g, 0, none⟩) k L, .slice (some ⟨w.heap.size, 0, none⟩) 1 1]).run Try.prog (w.alloc (.cells #[.int .u8 (x : Int)] 5)) = .ok (.slice (some ⟨g, 0, none⟩) k1 L) w' ∧
      Room w' g L (l ++ [x]) ∧ Below B w w' := by
  subst hk hk1
  obtain ⟨hb, hle, h8⟩ := hr
  obtain ⟨i, hi, hz0, hz1, hz2⟩ := info_parts info5
  have hb1 := hb.alloc (.cells #[.int .u8 (x : Int)] 5)
  have hg := hb.lt
  have hsz : (cs8 l ++ List.replicate (L - l.length) (by8 0)).length = L := by simp [cs8_length]; omega
  have h := run_append_room_cells (P := Try.prog) (w := w.alloc (.cells #[.int .u8 (x : Int)] 5)) 26 26 5 i Try.underlying26 hi g 0 l.length L ⟨w.heap.size, 0, none⟩ 1 1 [.int .u8 (x : Int)] (by rw [hz1]; rfl)
      (fun j u hj => by
        obtain ⟨hj1, rfl⟩ := List.getElem?_eq_some_iff.1 hj
        have : j = 0 := by simpa using hj1
        subst this
        simp [Addr.add, go_sem]) (by simp [Value.oneCell']) (by omega)
      (fun j hj => by
        have : j = 0 := by simpa using hj
        subst this
        rw [hb1.cell, List.getElem?_eq_getElem (by rw [hsz, hz1]; omega)]; rfl)
      (fun j _ => hb1.free _)
  refine ⟨_, h.trans rfl, ⟨?_, by simp; omega, h8.append (All8.cons hx All8.nil)⟩, ?_⟩
  · have hst := hb1.store l.length (.int .u8 (x : Int))
    have e : (cs8 l ++ List.replicate (L - l.length) (by8 0)).set l.length (.int .u8 (x : Int)) = cs8 (l ++ [x]) ++ List.replicate (L - (l ++ [x]).length) (by8 0) := by
      rw [show L - l.length = (L - (l ++ [x]).length) + 1 by simp; omega, List.replicate_succ]
      simp [cs8, by8]
    rw [e] at hst
    simpa [World.setCells, hz1] using hst
  · rw [hz1]
    exact ((Below.refl B w).alloc (by omega) _).setCell (p := ⟨g, 0 + l.length * 1, none⟩) hB _ |> fun h => by simpa [World.setCells] using h
/-- All that was made, read. -/
theorem Room.rb {w : World} {g L : Nat} {l : List Nat} (h : Room w g L l) (hl : l.length = L) : Rb w (some ⟨g, 0, none⟩) l := by
  obtain ⟨h1, h2, h3⟩ := h
  have := h1.rd 0
  rw [hl, Nat.sub_self] at this
  exact ⟨by simpa using this, h3⟩
/-- The octets of a valid length. -/
def putL (n : Nat) : List Nat := if n < 128 then [n] else if n < 256 then [129, n] else if n < 65536 then [130, n / 256, n % 256] else [131, n / 65536, n / 256 % 256, n % 256]
/-- Octets without spare capacity, and an error. -/
def GiveP (w : World) (l : List Nat) (f : Nat) (e : Ending) (w' : World) : Prop :=
  ∃ A, e = .returned (.tuple #[.slice A l.length l.length, .int .i64 (f : Int)]) ∧ Rb w' A l ∧ Below w.heap.size w w'
/-- The same, in a block that was not there. -/
def GiveN (w : World) (l : List Nat) (f : Nat) (e : Ending) (w' : World) : Prop :=
  ∃ g, e = .returned (.tuple #[.slice (some ⟨g, 0, none⟩) l.length l.length, .int .i64 (f : Int)]) ∧ w.heap.size ≤ g ∧ Rb w' (some ⟨g, 0, none⟩) l ∧ Below w.heap.size w w'
theorem GiveN.p {w w' : World} {l : List Nat} {f : Nat} {e : Ending} (h : GiveN w l f e w') : GiveP w l f e w' := let ⟨_, h1, _, h3, h4⟩ := h; ⟨_, h1, h3, h4⟩
set_option maxRecDepth 100000 in
set_option maxHeartbeats 1000000 in
theorem put_1 (n : Nat) (w : World) (h : n < 128) : Calls Try.prog 39 #[.int .i64 (n : Int)] w (GiveN w [n] 0) := by
  have C1 := Lib.hid (size_any (n : Int) w)
  have hs : szI (n : Int) = 1 := by unfold szI; rw [if_neg (by omega), if_neg (by omega), if_pos (by omega)]
  rw [hs] at C1
  obtain ⟨w1, hmk, hr1, hb1⟩ := make_room 1 1 rfl (by omega) w
  obtain ⟨w2, ha2, hr2, hb2⟩ := app_oct hr1 0 1 rfl rfl (by decide) (x := n) (by omega) (Nat.le_refl _)
  have HR := Lib.hid hr2
  have HB := Lib.hid (hb1.trans hb2)
  clear hs hr1 hb1 hr2 hb2
  go_enter Try.func39, Try.ntmps39
  go_wp2_with fail
  refine C1.out.mono ?_
  rintro e w' ⟨rfl, rfl⟩
  go_wp2_with (at_builtin; refine wpList_app rfl _ _ _ _ rfl _ _ rfl rfl ha2 ?_)
  go_ret2
  exact ⟨_, rfl, Nat.le_refl _, HR.out.rb rfl, HB.out⟩
set_option maxRecDepth 100000 in
set_option maxHeartbeats 1000000 in
theorem put_2 (n : Nat) (w : World) (h : 128 ≤ n) (h2 : n < 256) : Calls Try.prog 39 #[.int .i64 (n : Int)] w (GiveN w [129, n] 0) := by
  have C1 := Lib.hid (size_any (n : Int) w)
  have hs : szI (n : Int) = 2 := by unfold szI; rw [if_neg (by omega), if_neg (by omega), if_neg (by omega), if_pos (by omega)]
  rw [hs] at C1
  have ho : bits BinOp.or IntKind.u8 128 1 = 129 := by decide
  obtain ⟨w1, hmk, hr1, hb1⟩ := make_room 2 2 rfl (by omega) w
  obtain ⟨w2, ha2, hr2, hb2⟩ := app_oct hr1 0 1 rfl rfl (by decide) (x := 129) (by omega) (Nat.le_refl _)
  obtain ⟨w3, ha3, hr3, hb3⟩ := app_oct hr2 1 2 rfl rfl (by decide) (x := n) (by omega) (Nat.le_refl _)
  have HR := Lib.hid hr3
  have HB := Lib.hid ((hb1.trans hb2).trans hb3)
  have HA2 := Lib.hid ha2
  have HA3 := Lib.hid ha3
  clear hs hr1 hb1 hr2 hb2 ha2 hr3 hb3 ha3
  go_enter Try.func39, Try.ntmps39
  go_wp2_with fail
  refine C1.out.mono ?_
  rintro e w' ⟨rfl, rfl⟩
  go_wp2_with (at_builtin; first | refine wpList_app (o := ⟨some 22, _, _, _, _, _⟩) rfl _ _ _ _ rfl _ _ rfl rfl HA2.out ?_ | refine wpList_app (o := ⟨some 44, _, _, _, _, _⟩) rfl _ _ _ _ rfl _ _ rfl rfl HA3.out ?_)
  go_ret2
  exact ⟨_, rfl, Nat.le_refl _, HR.out.rb rfl, HB.out⟩
set_option maxRecDepth 100000 in
set_option maxHeartbeats 1000000 in
theorem put_3 (n : Nat) (w : World) (h : 256 ≤ n) (h2 : n < 65536) : Calls Try.prog 39 #[.int .i64 (n : Int)] w (GiveN w [130, n / 256, n % 256] 0) := by
  have C1 := Lib.hid (size_any (n : Int) w)
  have hs : szI (n : Int) = 3 := by unfold szI; rw [if_neg (by omega), if_neg (by omega), if_neg (by omega), if_neg (by omega), if_pos (by omega)]
  rw [hs] at C1
  have ho : bits BinOp.or IntKind.u8 128 2 = 130 := by decide
  obtain ⟨x, hx⟩ : ∃ x, n / 256 = x := ⟨_, rfl⟩
  rw [hx]
  have hx1 : (n : Int) / 256 = (x : Int) := by omega
  have hx2 : x < 256 := by omega
  clear hx
  obtain ⟨y, hy⟩ : ∃ y, n % 256 = y := ⟨_, rfl⟩
  rw [hy]
  have hy1 : (n : Int) % 256 = (y : Int) := by omega
  have hy2 : y < 256 := by omega
  clear hy
  obtain ⟨w1, hmk, hr1, hb1⟩ := make_room 3 3 rfl (by omega) w
  obtain ⟨w2, ha2, hr2, hb2⟩ := app_oct hr1 0 1 rfl rfl (by decide) (x := 130) (by omega) (Nat.le_refl _)
  obtain ⟨w3, ha3, hr3, hb3⟩ := app_oct hr2 1 2 rfl rfl (by decide) (x := x) (by omega) (Nat.le_refl _)
  obtain ⟨w4, ha4, hr4, hb4⟩ := app_oct hr3 2 3 rfl rfl (by decide) (x := y) (by omega) (Nat.le_refl _)
  have HR := Lib.hid hr4
  have HB := Lib.hid (((hb1.trans hb2).trans hb3).trans hb4)
  have HA2 := Lib.hid ha2
  have HA3 := Lib.hid ha3
  have HA4 := Lib.hid ha4
  clear hs hr1 hb1 hr2 hb2 ha2 hr3 hb3 ha3 hr4 hb4 ha4
  go_enter Try.func39, Try.ntmps39
  go_wp2_with fail
  refine C1.out.mono ?_
  rintro e w' ⟨rfl, rfl⟩
  go_wp2_with (at_builtin; first | refine wpList_app (o := ⟨some 22, _, _, _, _, _⟩) rfl _ _ _ _ rfl _ _ rfl rfl HA2.out ?_ | refine wpList_app (o := ⟨some 39, _, _, _, _, _⟩) rfl _ _ _ _ rfl _ _ rfl rfl HA3.out ?_ | refine wpList_app (o := ⟨some 44, _, _, _, _, _⟩) rfl _ _ _ _ rfl _ _ rfl rfl HA4.out ?_)
  go_ret2
  exact ⟨_, rfl, Nat.le_refl _, HR.out.rb rfl, HB.out⟩
set_option maxRecDepth 100000 in
set_option maxHeartbeats 1000000 in
theorem put_4 (n : Nat) (w : World) (h : 65536 ≤ n) (h2 : n ≤ 16777215) : Calls Try.prog 39 #[.int .i64 (n : Int)] w (GiveN w [131, n / 65536, n / 256 % 256, n % 256] 0) := by
  have C1 := Lib.hid (size_any (n : Int) w)
  have hs : szI (n : Int) = 4 := by unfold szI; rw [if_neg (by omega), if_neg (by omega), if_neg (by omega), if_neg (by omega), if_neg (by omega)]
  rw [hs] at C1
  have ho : bits BinOp.or IntKind.u8 128 3 = 131 := by decide
  obtain ⟨x, hx⟩ : ∃ x, n / 65536 = x := ⟨_, rfl⟩
  rw [hx]
  have hx1 : (n : Int) / 65536 = (x : Int) := by omega
  have hx2 : x < 256 := by omega
  clear hx
  obtain ⟨y, hy⟩ : ∃ y, n / 256 % 256 = y := ⟨_, rfl⟩
  rw [hy]
  have hy1 : (n : Int) / 256 % 256 = (y : Int) := by omega
  have hy2 : y < 256 := by omega
  clear hy
  obtain ⟨v, hv⟩ : ∃ v, n % 256 = v := ⟨_, rfl⟩
  rw [hv]
  have hv1 : (n : Int) % 256 = (v : Int) := by omega
  have hv2 : v < 256 := by omega
  clear hv
  obtain ⟨w1, hmk, hr1, hb1⟩ := make_room 4 4 rfl (by omega) w
  obtain ⟨w2, ha2, hr2, hb2⟩ := app_oct hr1 0 1 rfl rfl (by decide) (x := 131) (by omega) (Nat.le_refl _)
  obtain ⟨w3, ha3, hr3, hb3⟩ := app_oct hr2 1 2 rfl rfl (by decide) (x := x) (by omega) (Nat.le_refl _)
  obtain ⟨w4, ha4, hr4, hb4⟩ := app_oct hr3 2 3 rfl rfl (by decide) (x := y) (by omega) (Nat.le_refl _)
  obtain ⟨w5, ha5, hr5, hb5⟩ := app_oct hr4 3 4 rfl rfl (by decide) (x := v) (by omega) (Nat.le_refl _)
  have HR := Lib.hid hr5
  have HB := Lib.hid ((((hb1.trans hb2).trans hb3).trans hb4).trans hb5)
  have HA2 := Lib.hid ha2
  have HA3 := Lib.hid ha3
  have HA4 := Lib.hid ha4
  have HA5 := Lib.hid ha5
  clear hs hr1 hb1 hr2 hb2 ha2 hr3 hb3 ha3 hr4 hb4 ha4 hr5 hb5 ha5
  go_enter Try.func39, Try.ntmps39
  go_wp2_with fail
  refine C1.out.mono ?_
  rintro e w' ⟨rfl, rfl⟩
  go_wp2_with (at_builtin; first | refine wpList_app (o := ⟨some 22, _, _, _, _, _⟩) rfl _ _ _ _ rfl _ _ rfl rfl HA2.out ?_ | refine wpList_app (o := ⟨some 33, _, _, _, _, _⟩) rfl _ _ _ _ rfl _ _ rfl rfl HA3.out ?_ | refine wpList_app (o := ⟨some 39, _, _, _, _, _⟩) rfl _ _ _ _ rfl _ _ rfl rfl HA4.out ?_ | refine wpList_app (o := ⟨some 44, _, _, _, _, _⟩) rfl _ _ _ _ rfl _ _ rfl rfl HA5.out ?_)
  go_ret2
  exact ⟨_, rfl, Nat.le_refl _, HR.out.rb rfl, HB.out⟩
theorem putn_any (n : Nat) (w : World) (hn : n ≤ 16777215) : Calls Try.prog 39 #[.int .i64 (n : Int)] w (GiveN w (putL n) 0) := by
  unfold putL
  split
  · exact put_1 n w (by omega)
  split
  · exact put_2 n w (by omega) (by omega)
  split
  · exact put_3 n w (by omega) (by omega)
  · exact put_4 n w (by omega) (by omega)
end Go.Proofs.Ytfbdeefeagednaa.Len
namespace Go.Proofs.Ytfbdeefeagednaa.Len
open Go.RowKit
/-- Get's answer: the length, the number of its octets, the error. -/
def getL (l : List Nat) : Nat × Nat × Nat :=
  match l with
  | [] => (0, 0, 7)
  | x :: t => if x < 128 then (x, 1, 0) else if x < 129 then (0, 0, 10) else if 131 < x then (0, 0, 10) else if t.length < x - 128 then (0, 0, 7)
    else if szI ((val (t.take (x - 128)) : Nat) : Int) = x - 127 then (val (t.take (x - 128)), x - 127, 0) else (0, 0, 10)
end Go.Proofs.Ytfbdeefeagednaa.Len
namespace Go.Proofs.Ytfbdeefeagednaa.Len
open Go.RowKit
theorem dig_pos {v : Nat} (h : v ≠ 0) : dig v = dig (v / 256) ++ [v % 256] := by unfold dig; rw [dgs_pos (by omega) h, List.reverse_cons]
theorem putL_big {n : Nat} (h1 : 128 ≤ n) (h2 : n ≤ 16777215) : putL n = (128 + (dig n).length) :: dig n := by
  unfold putL
  rw [if_neg (by omega)]
  split
  · rw [dig_pos (by omega), show n / 256 = 0 by omega, dig_zero, Nat.mod_eq_of_lt (by omega)]; rfl
  split
  · rw [dig_pos (by omega), dig_pos (v := n / 256) (by omega), show n / 256 / 256 = 0 by omega, dig_zero, Nat.mod_eq_of_lt (a := n / 256) (by omega)]; rfl
  · rw [dig_pos (by omega), dig_pos (v := n / 256) (by omega), dig_pos (v := n / 256 / 256) (by omega), show n / 256 / 256 / 256 = 0 by omega, dig_zero, Nat.mod_eq_of_lt (a := n / 256 / 256) (by omega), show n / 256 / 256 = n / 65536 by omega]; rfl
end Go.Proofs.Ytfbdeefeagednaa.Len
namespace Go.Proofs.Ytfbdeefeagednaa.Len
open Go.RowKit
theorem szI_of {v : Nat} (hv : v ≤ 16777215) : szI (v : Int) = if v < 128 then 1 else if v < 256 then 2 else if v < 65536 then 3 else 4 := by
  unfold szI
  rw [if_neg (by omega), if_neg (by omega)]
  repeat (first | omega | split)
theorem val1 (a : Nat) : val [a] = a := by simp [val, vl]
theorem val2 (a b : Nat) : val [a, b] = a * 256 + b := by simp [val, vl]; omega
theorem val3 (a b c : Nat) : val [a, b, c] = a * 65536 + b * 256 + c := by simp [val, vl]; omega
/-- Get at the octets of each size. -/
theorem getL_1 (a : Nat) (t : List Nat) (ha : a < 256) : getL (129 :: a :: t) = if 128 ≤ a then (a, 2, 0) else (0, 0, 10) := by
  have hv : a ≤ 16777215 := by omega
  unfold getL
  dsimp only
  rw [if_neg (by omega), if_neg (by omega), if_neg (by omega), if_neg (by simp)]
  simp only [show 129 - 128 = 1 from rfl, show 129 - 127 = 2 from rfl, List.take_succ_cons, List.take_zero, val1]
  by_cases h : 128 ≤ a
  · have e : szI ((a : Nat) : Int) = 2 := by
      rw [szI_of hv]
      repeat (first | omega | split)
    rw [if_pos h, if_pos e]
  · have e : ¬ szI ((a : Nat) : Int) = 2 := by
      rw [szI_of hv]
      repeat (first | omega | split)
    rw [if_neg h, if_neg e]
theorem getL_2 (a b : Nat) (t : List Nat) (ha : a < 256) (hb : b < 256) : getL (130 :: a :: b :: t) = if 1 ≤ a then (a * 256 + b, 3, 0) else (0, 0, 10) := by
  have hv : a * 256 + b ≤ 16777215 := by omega
  unfold getL
  dsimp only
  rw [if_neg (by omega), if_neg (by omega), if_neg (by omega), if_neg (by simp)]
  simp only [show 130 - 128 = 2 from rfl, show 130 - 127 = 3 from rfl, List.take_succ_cons, List.take_zero, val2]
  by_cases h : 1 ≤ a
  · have e : szI ((a * 256 + b : Nat) : Int) = 3 := by
      rw [szI_of hv]
      repeat (first | omega | split)
    rw [if_pos h, if_pos e]
  · have e : ¬ szI ((a * 256 + b : Nat) : Int) = 3 := by
      rw [szI_of hv]
      repeat (first | omega | split)
    rw [if_neg h, if_neg e]
theorem getL_3 (a b c : Nat) (t : List Nat) (ha : a < 256) (hb : b < 256) (hc : c < 256) : getL (131 :: a :: b :: c :: t) = if 1 ≤ a then (a * 65536 + b * 256 + c, 4, 0) else (0, 0, 10) := by
  have hv : a * 65536 + b * 256 + c ≤ 16777215 := by omega
  unfold getL
  dsimp only
  rw [if_neg (by omega), if_neg (by omega), if_neg (by omega), if_neg (by simp)]
  simp only [show 131 - 128 = 3 from rfl, show 131 - 127 = 4 from rfl, List.take_succ_cons, List.take_zero, val3]
  by_cases h : 1 ≤ a
  · have e : szI ((a * 65536 + b * 256 + c : Nat) : Int) = 4 := by
      rw [szI_of hv]
      repeat (first | omega | split)
    rw [if_pos h, if_pos e]
  · have e : ¬ szI ((a * 65536 + b * 256 + c : Nat) : Int) = 4 := by
      rw [szI_of hv]
      repeat (first | omega | split)
    rw [if_neg h, if_neg e]
theorem getL_back {n : Nat} (hn : n ≤ 16777215) (t : List Nat) : getL (putL n ++ t) = (n, (putL n).length, 0) := by
  unfold putL
  by_cases h1 : n < 128
  · rw [if_pos h1]; unfold getL; simp [h1]
  rw [if_neg h1]
  by_cases h2 : n < 256
  · rw [if_pos h2]
    show getL (129 :: n :: t) = _
    rw [getL_1 _ _ h2, if_pos (by omega)]; rfl
  rw [if_neg h2]
  by_cases h3 : n < 65536
  · rw [if_pos h3]
    show getL (130 :: (n / 256) :: (n % 256) :: t) = _
    rw [getL_2 _ _ _ (by omega) (by omega), if_pos (by omega), show n / 256 * 256 + n % 256 = n by omega]; rfl
  · rw [if_neg h3]
    show getL (131 :: (n / 65536) :: (n / 256 % 256) :: (n % 256) :: t) = _
    rw [getL_3 _ _ _ _ (by omega) (by omega) (by omega), if_pos (by omega), show n / 65536 * 65536 + n / 256 % 256 * 256 + n % 256 = n by omega]; rfl
end Go.Proofs.Ytfbdeefeagednaa.Len
