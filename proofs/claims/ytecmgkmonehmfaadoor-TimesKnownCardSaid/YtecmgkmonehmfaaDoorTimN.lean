/-
  Layer 10: the closure that writes a number's digits at the places of a letter.
  Conditions: the layout is short, the number is not negative.
-/
import Derived.Test.YtecmgkmonehmfaaDoorTimM
import Derived.Lib.ConvBytes
namespace Go.Proofs.YtecmgkmonehmfaaDoor.Tim
open Go.RowKit
attribute [local go_sem] Oper.semAt_some

theorem cs8_set (l : List Nat) (n x : Nat) : (cs8 l).set n (.int .u8 (x : Int)) = cs8 (l.set n x) := by unfold cs8; rw [List.map_set]; rfl
/-- Block g is just these bytes; the place behind them bears the mark of a conversion. -/
def Bm (w : World) (g : Nat) (bs : List Nat) : Prop := w.heap[g]? = some (.cells (cs8 bs).toArray 5 (bs.length, bs.length + 1))
section
variable {w w' : World} {g : Nat} {bs : List Nat}
theorem Bm.lt (h : Bm w g bs) : g < w.heap.size := by
  rcases Nat.lt_or_ge g w.heap.size with hlt | hge
  · exact hlt
  · unfold Bm at h; rw [Array.getElem?_eq_none hge] at h; cases h
theorem Bm.cell (h : Bm w g bs) (i : Nat) : w.cell? ⟨g, i, none⟩ = (cs8 bs)[i]? := by
  unfold Bm at h
  simp [World.cell?, h]
theorem Bm.free (h : Bm w g bs) (i : Nat) (hi : i < bs.length) : w.frozen? ⟨g, i, none⟩ = false := by
  unfold Bm at h
  simp [World.frozen?, h]
  omega
theorem Bm.store (h : Bm w g bs) (i x : Nat) : Bm (w.setCell ⟨g, i, none⟩ (.int .u8 (x : Int))) g (bs.set i x) := by
  unfold Bm at h ⊢
  rw [← cs8_set, List.length_set]
  simp [World.setCell, Array.getElem?_modify, h]
end
/-- A number's digits, written from the end at the places of a letter. -/
def putD (L : List Nat) (c : Nat) : Nat → Nat → List Nat → List Nat
  | 0, _, bs => bs
  | i + 1, n, bs => if L.getD i 0 = c then putD L c i (n / 10) (bs.set i (48 + n % 10)) else putD L c i n bs
theorem putD_len (L : List Nat) (c k n : Nat) (bs : List Nat) : (putD L c k n bs).length = bs.length := by
  induction k generalizing n bs with
  | zero => rfl
  | succ k ih =>
    unfold putD
    split
    · rw [ih, List.length_set]
    · exact ih _ _
theorem putD_app (L : List Nat) (c k n : Nat) (bs z : List Nat) (h : k ≤ bs.length) : putD L c k n (bs ++ z) = putD L c k n bs ++ z := by
  induction k generalizing n bs with
  | zero => rfl
  | succ k ih =>
    unfold putD
    split
    · rw [List.set_append_left _ _ (by omega), ih _ _ (by rw [List.length_set]; omega)]
    · exact ih _ _ (by omega)
set_option linter.unusedSimpArgs false in
set_option linter.unusedVariables false in
set_option maxHeartbeats 4000000 in
set_option maxRecDepth 100000 in
theorem put_any (L : List Nat) (h8 : All8 L) (N : Nat) (hN : L.length = N) (hl : N ≤ 100) (c n : Nat) (hc : c < 256) (hn : n ≤ 1000000) (bs : List Nat) (M C : Nat) (hM : bs.length = M) (hMN : N ≤ M) (g g5 gb : Nat) (w : World)
    (hg : w.cell? ⟨g, 0, none⟩ = some (.string (bstr L))) (hgl : g < w.heap.size) (hgn : g ≠ gb) (hg5 : w.cell? ⟨g5, 0, none⟩ = some (.slice (some ⟨gb, 0, none⟩) N C)) (hg5l : g5 < w.heap.size) (hg5n : g5 ≠ gb) (hb : Bm w gb bs) :
    Calls Tryd.prog 47 #[.int .u8 (c : Int), .int .i64 (n : Int), .pointer (some ⟨g, 0, none⟩), .pointer (some ⟨g5, 0, none⟩)] w fun e w' => e = .returned (.tuple #[]) ∧ Bm w' gb (putD L c N n bs) ∧ w.grownBy w' (some gb) := by
  have HIX := Lib.hid (fun j hj W => idx_str L h8 j hj W)
  have hsz := bstr_size L
  obtain ⟨S, hS⟩ : ∃ S, bstr L = S := ⟨_, rfl⟩
  rw [hS] at HIX hsz hg
  rw [hN] at hsz
  have HN := Lib.hid hN
  have H8 := Lib.hid h8
  obtain ⟨R, hR⟩ : ∃ R, putD L c N n bs = R := ⟨_, rfl⟩
  rw [hR]
  have HR := Lib.hid hR
  have HM := Lib.hid hM
  have HB := Lib.hid hb
  have q0 : IntKind.i64.wrap ((N : Int) - 1) = (N : Int) - 1 := by rw [IntKind.wrap_i64]; omega
  clear hS hN h8 hR hM hb
  go_enter Tryd.func47, Tryd.ntmps47
  go_upto_region 1 with fail
  go_loopw [1, 6] (fun a i wr => ∃ (k q : Nat) (ds : List Nat), k ≤ N ∧ i = .int .i64 ((k : Int) - 1) ∧ a = .int .i64 (q : Int) ∧ q ≤ 1000000 ∧ ds.length = M ∧ putD L c k q ds = R ∧ Bm wr gb ds ∧ w.grownBy wr (some gb)) (fun _ i _ => (intOf i + 1).toNat)
  case atStart => exact ⟨N, n, bs, Nat.le_refl _, rfl, rfl, hn, HM.out, HR.out, HB.out, World.grownBy.refl _ _⟩
  case round =>
    obtain ⟨k, q, ds, hk, rfl, rfl, hq, hds, hp, hbm, hgr⟩ := hrel
    have HP := Lib.hid hp
    have HBm := Lib.hid hbm
    have HGr := Lib.hid hgr
    have HDs := Lib.hid hds
    have cg : wr.cell? ⟨g, 0, none⟩ = some (.string S) := (World.cell?_of_block (a := ⟨g, 0, none⟩) (hgr.block g hgl (fun e => hgn (by injection e)))).trans hg
    have cg5 : wr.cell? ⟨g5, 0, none⟩ = some (.slice (some ⟨gb, 0, none⟩) N C) := (World.cell?_of_block (a := ⟨g5, 0, none⟩) (hgr.block g5 hg5l (fun e => hg5n (by injection e)))).trans hg5
    clear hp hbm hgr HR HB
    cases k with
    | zero =>
      have hE : Hid (ds = R) := Lib.hid HP.out
      go_wp2_with fail
      exact bodyPost_end (v := .tuple #[]) (by simp [results, Tryd.results47, go_sem]) rfl ⟨rfl, by rw [← hE.out]; exact HBm.out, HGr.out⟩
    | succ j =>
      have hlt2 : j < L.length := by rw [HN.out]; omega
      have hix := HIX.out j hlt2
      have hx8 := H8.out _ (List.getElem_mem hlt2)
      have hp := HP.out
      unfold putD at hp
      rw [List.getD_eq_getElem?_getD, List.getElem?_eq_getElem hlt2, Option.getD_some] at hp
      generalize L[j] = x at *
      have HP2 := Lib.hid hp
      rw [show (((j + 1 : Nat) : Int) - 1) = (j : Int) by omega]
      have hjN : j < N := by omega
      have hjm : j < ds.length := by omega
      have c0 : wr.cell? ⟨gb, j, none⟩ = some (.int .u8 (ds[j] : Int)) := by rw [HBm.out.cell]; unfold cs8; rw [List.getElem?_map, List.getElem?_eq_getElem hjm]; rfl
      have f0 := HBm.out.free j hjm
      have hq3 : IntKind.i64.wrap ((j : Int) - 1) = (j : Int) - 1 := by rw [IntKind.wrap_i64]; omega
      clear hp HP hlt2 hds
      by_cases hxc : x = c
      · subst hxc
        have HE : Hid (putD L x j (q / 10) (ds.set j (48 + q % 10)) = R) := Lib.hid (by have := HP2.out; rwa [if_pos rfl] at this)
        obtain ⟨d, hd⟩ : ∃ d, q % 10 = d := ⟨_, rfl⟩
        have hdi : (q : Int) % 10 = (d : Int) := by omega
        obtain ⟨q2, hq2⟩ : ∃ q2, q / 10 = q2 := ⟨_, rfl⟩
        have hqi : (q : Int) / 10 = (q2 : Int) := by omega
        have hd10 : d < 10 := by omega
        have hw1 : IntKind.u8.wrap (d : Int) = (d : Int) := by rw [IntKind.wrap_u8]; omega
        have hw2 : IntKind.u8.wrap (48 + (d : Int)) = 48 + (d : Int) := by rw [IntKind.wrap_u8]; omega
        rw [hd, hq2] at HE
        have hq2l : q2 ≤ 1000000 := by omega
        clear hd hq2 HP2
        have hst : Hid (Bm (wr.setCell ⟨gb, j, none⟩ (.int .u8 (48 + (d : Int)))) gb (ds.set j (48 + d))) := Lib.hid (HBm.out.store j (48 + d))
        generalize ds[j] = y at *
        go_wp2_with fail
        exact ⟨⟨j, q2, ds.set j (48 + d), by omega, rfl, rfl, hq2l, by rw [List.length_set]; exact HDs.out, HE.out, hst.out, only_store HGr.out j _⟩, by simp [intOf]⟩
      · have HE : Hid (putD L c j q ds = R) := Lib.hid (by have := HP2.out; rwa [if_neg hxc] at this)
        have hxb : ((x : Int) == (c : Int)) = false := by rw [beq_eq_false_iff_ne]; omega
        clear HP2
        go_wp2_with fail
        exact ⟨⟨j, q, ds, by omega, rfl, rfl, hq, HDs.out, HE.out, HBm.out, HGr.out⟩, by simp [intOf]⟩
end Go.Proofs.YtecmgkmonehmfaaDoor.Tim
