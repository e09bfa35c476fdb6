/-
  Layer 12: the reference's Digits and Encode: the encoding of a valid element.
  Conditions: the element's parts are valid, the encoding has at most 1048576 octets.
-/
import Derived.Test.YtfbdeefeagednaaFlC
import Derived.Test.YtfbdeefeagednaaFlM
namespace Go.Proofs.Ytfbdeefeagednaa.Fl
open Go.RowKit

theorem ap_src {P : Program} {t ty e : TypeId} {z : Value} {bytes : Nat} (ht : P.underlying t = some (.slice e)) (hinfo : (P.info? e).map (fun i => (i.zero, i.size, i.bytes)) = some (some z, 1, bytes)) (hz : z.cells.size = 1)
    {w : World} {base : Nat} {v : Value} {xs : List Value} (hown : w.ownsRow base e 1 v xs.length xs) {A : Option Addr} {ys : List Value} {c : Nat} (hy : Rd w A ys) (h1 : ∀ u ∈ ys, u.oneCell' = true) (hb : base ≤ w.heap.size)
    (hl : (xs.length + ys.length) * bytes ≤ 140737488355328) (hm : xs.length + ys.length ≤ maxLen) :
    ∃ v' w', (Builtin.append_ #[t, t] ty #[v, .slice A ys.length c]).run P w = .ok v' w' ∧ w'.ownsRow base e 1 v' (xs ++ ys).length (xs ++ ys) ∧ Below base w w' ∧ w.grownBy w' v.ownBlock := by
  obtain ⟨i, hi, hz0, hz1, hz2⟩ := info_parts hinfo
  cases A with
  | some a =>
    obtain ⟨v', w', hrun, h2, h3, _⟩ := run_append_own (P := P) w base t ty e i z 1 bytes ht hi hz0 hz1 hz2 hz (by omega) v xs.length xs hown a ys.length c ys (by simp)
      (fun j u hu => by
        obtain ⟨b, off, e, _, hc⟩ := hy (by intro e; subst e; simp at hu)
        injection e with e
        subst e
        rw [addr_add]; exact hc j u hu) h1 hm hl hb
    exact ⟨v', w', hrun, by rw [List.length_append]; exact h2, (Below.refl base w).grown h3 hb (fun k hk => (hown.lt k hk).1), h3⟩
  | none =>
    have hnil : ys = [] := by
      cases ys with
      | nil => rfl
      | cons u m => obtain ⟨_, _, e, _⟩ := hy (by simp); cases e
    subst hnil
    refine ⟨v, w, ?_, by simpa using hown, Below.refl _ _, World.grownBy.refl _ _⟩
    rcases hown.2 with ⟨rfl, h0⟩ | ⟨g, cap, cur, rfl, _, _, hnc, _⟩
    · simp [Builtin.append_, run_underlying ht, sizeOf, typeInfo, hi, Builtin.lenOf, Builtin.firstCells]
    · simp [Builtin.append_, run_underlying ht, sizeOf, typeInfo, hi, Builtin.lenOf, Builtin.firstCells, hnc, storeCells]
/-- A row of bytes that the call has built. -/
def OwB (b : Nat) (v : Value) (l : List Nat) (W : World) : Prop := W.ownsRow b 5 1 v l.length (cs8 l) ∧ All8 l
theorem cs8_len (l : List Nat) : (cs8 l).length = l.length := by unfold cs8; rw [List.length_map]
theorem cs8_app (l m : List Nat) : cs8 (l ++ m) = cs8 l ++ cs8 m := by unfold cs8; rw [List.map_append]
theorem all8_app {l m : List Nat} (h : All8 l) (h' : All8 m) : All8 (l ++ m) := fun y hy => (List.mem_append.1 hy).elim (h y) (h' y)
theorem OwB.nil (W : World) (b : Nat) : OwB b (.slice none 0 0) [] W := ⟨World.ownsRow_nil W b 5 1, All8.nil⟩
theorem OwB.lit (W : World) {x : Nat} (hx : x < 256) : OwB W.heap.size (.slice (some ⟨W.heap.size, 0, none⟩) 1 1) [x] (W.alloc (.cells #[.int .u8 (x : Int)] 5)) :=
  ⟨⟨rfl, .inr ⟨W.heap.size, 1, #[.int .u8 (x : Int)], rfl, Nat.le_refl _, heap_alloc_new W _, Nat.le_refl _, by unfold maxLen; omega, rfl, rfl⟩⟩, All8.cons hx All8.nil⟩
theorem OwB.below {b : Nat} {v : Value} {l : List Nat} {W W' : World} (h : OwB b v l W) (hb : Below W.heap.size W W') : OwB b v l W' := ⟨own_kept h.1 (fun g hg => hb.block g (h.1.lt g hg).2), h.2⟩
theorem OwB.opn {b : Nat} {v : Value} {l : List Nat} {W : World} (h : OwB b v l W) : ∃ A n c, v = .slice A n c ∧ l.length = n ∧ Rb W A l ∧ n ≤ c ∧ c ≤ maxLen ∧ RdX (fun i => b ≤ i) W A (cs8 l) := by
  obtain ⟨A, c, hv, hr, hc, hm⟩ := own_openX (xs := cs8 l) (by rw [cs8_len]; exact h.1)
  rw [cs8_len] at hv hc
  exact ⟨A, _, c, hv, rfl, ⟨hr.rd, h.2⟩, hc, hm, hr⟩
/-- 'append(v, ys...)'. -/
theorem ap8 {b : Nat} {v : Value} {l ys : List Nat} {W : World} {A : Option Addr} {N : Nat} (c : Nat) (h : OwB b v l W) (hy : Rb W A ys) (hN : ys.length = N) (hb : b ≤ W.heap.size) (hl : l.length + N ≤ 4000000) :
    ∃ v' W', (Builtin.append_ #[26, 26] 26 #[v, .slice A N c]).run Try.prog W = .ok v' W' ∧ OwB b v' (l ++ ys) W' ∧ Below b W W' ∧ W.grownBy W' v.ownBlock := by
  subst hN
  obtain ⟨v', w', hrun, ho, hbb, hgr⟩ := ap_src (P := Try.prog) (ty := 26) Try.underlying26 info5 rfl (xs := cs8 l) (by rw [cs8_len]; exact h.1) (c := c) hy.1 (by intro u hu; obtain ⟨n, _, rfl⟩ := List.mem_map.1 hu; rfl) hb (by rw [cs8_len, cs8_len]; omega) (by rw [cs8_len, cs8_len]; unfold maxLen; omega)
  rw [cs8_len] at hrun
  refine ⟨v', w', hrun, ⟨?_, all8_app h.2 hy.2⟩, hbb, hgr⟩
  rw [← cs8_app, cs8_len] at ho
  exact ho
/-- Bytes are given. -/
def GvB (w : World) (l : List Nat) (e : Ending) (w' : World) : Prop := ∃ A N c, e = .returned (.slice A N c) ∧ l.length = N ∧ Rb w' A l ∧ N ≤ c ∧ c ≤ maxLen ∧ Below w.heap.size w w'
/-- 'append([]byte{x}, s...)'. -/
theorem ap_front (w1 : World) {x : Nat} (hx : x < 256) {A : Option Addr} {out : List Nat} {N : Nat} (c : Nat) (h : Rb w1 A out) (hN : out.length = N) (hl : N ≤ 1000) :
    ∃ B2 N2 c2 w2, (Builtin.append_ #[26, 26] 26 #[.slice (some ⟨w1.heap.size, 0, none⟩) 1 1, .slice A N c]).run Try.prog (w1.alloc (.cells #[.int .u8 (x : Int)] 5)) = .ok (.slice B2 N2 c2) w2 ∧ (x :: out).length = N2 ∧ Rb w2 B2 (x :: out) ∧ N2 ≤ c2 ∧ c2 ≤ maxLen ∧ Below w1.heap.size w1 w2 ∧ RdX (fun i => w1.heap.size ≤ i) w2 B2 (cs8 (x :: out)) := by
  have hb2 : Below w1.heap.size w1 (w1.alloc (.cells #[.int .u8 (x : Int)] 5)) := (Below.refl _ _).alloc (Nat.le_refl _) _
  obtain ⟨v', w2, hrun, ho, hb3, _⟩ := ap8 c (OwB.lit w1 hx) (h.below hb2) hN (by rw [World.size_alloc]; omega) (by simp; omega)
  obtain ⟨B2, N2, c2, rfl, h1, h2, h3, h4, h5⟩ := ho.opn
  exact ⟨B2, N2, c2, w2, hrun, h1, h2, h3, h4, hb2.trans hb3, h5⟩
set_option maxRecDepth 100000 in
set_option maxHeartbeats 1000000 in
theorem rdig_any (n : Nat) (w : World) (hn : n < 268435456) : Calls Try.prog 55 #[.int .u32 (n : Int)] w (GvB w (gl n)) := by
  have hgl := gl_le hn
  obtain ⟨y, hy⟩ : ∃ y, n % 128 = y := ⟨_, rfl⟩
  obtain ⟨v, hv⟩ : ∃ v, n / 128 = v := ⟨_, rfl⟩
  have hy1 : (n : Int).tmod 128 = (y : Int) := by rw [← hy]; exact (Int.ofNat_tmod n 128).symm
  have hy3 : ((n : Int) % 128) = (y : Int) := by omega
  have hy2 : y < 128 := by omega
  have hyw : IntKind.u8.wrap (y : Int) = (y : Int) := by rw [IntKind.wrap_u8]; omega
  have hv1 : (n : Int).tdiv 128 = (v : Int) := by rw [← hv]; exact (Int.ofNat_tdiv n 128).symm
  have hv3 : ((n : Int) / 128) = (v : Int) := by omega
  have hv2 : v < 268435456 := by omega
  have HG := Lib.hid (show gl n = ((dgs 128 v).map (128 + ·)).reverse ++ [y] by rw [← hy, ← hv]; rfl)
  have HGL := Lib.hid hgl
  clear hy hv hgl
  go_enter Try.func55, Try.ntmps55
  go_wp2_with fail
  clear hy1 hy3 hyw hv1 hv3
  go_loopw [0, 3] (fun d o wr => ∃ (u : Nat) (B : Option Addr) (out : List Nat) (N c : Nat), u < 268435456 ∧ d = .int .u32 (u : Int) ∧ o = .slice B N c ∧ out.length = N ∧ Rb wr B out ∧ N ≤ c ∧ c ≤ maxLen ∧ gl n = ((dgs 128 u).map (128 + ·)).reverse ++ out ∧ Below w.heap.size w wr) (fun d _ _ => (intOf d).toNat)
  case atStart => exact ⟨v, _, [y], 1, 1, hv2, rfl, rfl, rfl, one_bytes (by omega), Nat.le_refl _, by unfold maxLen; omega, HG.out, (Below.refl _ _).alloc (Nat.le_refl _) _⟩
  case round =>
    obtain ⟨u, B, out, N, c, hu, rfl, rfl, hN, hb, hc1, hc2, hd, hbel⟩ := hrel
    have hol : N ≤ 1000 := by
      have := congrArg List.length hd
      have h5 := HGL.out
      rw [List.length_append] at this
      omega
    have HN := Lib.hid hN
    have HRb := Lib.hid hb
    have HO := Lib.hid (And.intro hc1 hc2)
    have HD := Lib.hid hd
    have HBel := Lib.hid hbel
    clear hb hc1 hc2 hd hbel hN
    by_cases hu0 : u = 0
    · subst hu0
      have HD2 : Hid (gl n = out) := HD.out.trans (by rw [dgs_zero]; rfl)
      go_wp2_with fail
      go_ret
      rw [HD2.out]
      exact ⟨B, N, c, rfl, HN.out, HRb.out, HO.out.1, HO.out.2, HBel.out⟩
    · have hupos : decide ((u : Int) > 0) = true := by simp; omega
      obtain ⟨y, hy⟩ : ∃ y, u % 128 = y := ⟨_, rfl⟩
      obtain ⟨x, hx⟩ : ∃ x, 128 + y = x := ⟨_, rfl⟩
      obtain ⟨u', hu'⟩ : ∃ u', u / 128 = u' := ⟨_, rfl⟩
      have ht : (u : Int).tmod 128 = (y : Int) := by rw [← hy]; exact (Int.ofNat_tmod u 128).symm
      have ht3 : ((u : Int) % 128) = (y : Int) := by omega
      have hx1 : (128 : Int) + (y : Int) = (x : Int) := by omega
      have hx2 : x < 256 := by omega
      have hxw : IntKind.u32.wrap (x : Int) = (x : Int) := by rw [IntKind.wrap_u32]; omega
      have hxw8 : IntKind.u8.wrap (x : Int) = (x : Int) := by rw [IntKind.wrap_u8]; omega
      have hu1 : (u : Int).tdiv 128 = (u' : Int) := by rw [← hu']; exact (Int.ofNat_tdiv u 128).symm
      have hu3 : ((u : Int) / 128) = (u' : Int) := by omega
      have hu2 : u' < u := by omega
      obtain ⟨B2, N2, c2, w2, hrun, h20, hr2, h21, h22, hb2, _⟩ := ap_front wr hx2 c HRb.out HN.out hol
      have HH := Lib.hid hr2
      have HC2 := Lib.hid (And.intro h20 (And.intro h21 h22))
      have HB2 := Lib.hid hb2
      have HN2 : Hid (gl n = ((dgs 128 u').map (128 + ·)).reverse ++ (x :: out)) := Lib.hid (HD.out.trans (by rw [dgs_pos (by omega) hu0, hu', List.map_cons, List.reverse_cons, hy, hx, List.append_assoc]; rfl))
      clear hr2 h20 h21 h22 hb2 hx hy hu' hu0
      go_wp2_with (at_builtin; refine wpList_app rfl _ _ _ _ rfl _ _ rfl rfl hrun ?_)
      exact ⟨⟨u', B2, x :: out, N2, c2, by omega, rfl, rfl, HC2.out.1, HH.out, HC2.out.2.1, HC2.out.2.2, HN2.out, (HBel.out).trans ((HB2.out).mono (HBel.out).size)⟩, by simp [intOf]; omega⟩
end Go.Proofs.Ytfbdeefeagednaa.Fl
