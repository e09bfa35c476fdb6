/-
  Layer 9: what a law keeps from call to call, and the contracts in the form that its walk takes.
  Conditions: none.
-/
import Derived.Test.YthefnfjhnallfaaDoorChsLb
namespace Go.Proofs.YthefnfjhnallfaaDoor.Chs
open Go.RowKit Go.Shelf

/-- A whole struct is loaded, where its guard is open. -/
theorem wpList_loadGg {t : TypeId} {d : TypeDesc} {ops : Array Oper} {rest : List Oper} {o : Oper} {a : Act} {w : World} {Q : Exit → Act → World → Prop} (hw : Region.wanted o (yielded ops a.tmps) = true) (x : Operand) (ho : o.op = .load t x)
    {g off : Nat} {cs : List Value} (hx : a.eval x = .pointer (some ⟨g, off, none⟩)) (hg : w.rangeAt g off cs) (hu : Tryd.prog.underlying t = some d) (hd : d.isRow = true) (hi : (Tryd.prog.info? t).map (·.size) = some cs.length)
    (h : wpList Tryd.prog ops Q rest (a.put o.dst (.agg cs.toArray)) w) : wpList Tryd.prog ops Q (o :: rest) a w :=
  BigFrame.wpList_want hw fun _ hK => wp_load_mid t x ho g off hx cs d hg hu hd hi (hK _ _ h)
/-- What a law keeps: slices that read as cells, blocks that hold character strings. -/
structure St (w0 : World) (rows : List (Option Addr × List Value)) (bks : List (Nat × TypeId × List Value)) (W : World) : Prop where
  b : Below w0.heap.size w0 W
  t : Tab W
  r : ∀ r ∈ rows, Rd W r.1 r.2
  k : ∀ x ∈ bks, Bk W x.1 x.2.1 x.2.2
section
variable {w0 W W' : World} {rows : List (Option Addr × List Value)} {bks : List (Nat × TypeId × List Value)}
theorem St.start (hT : Tab W) : St W [] [] W := ⟨Below.refl _ _, hT, fun _ h => absurd h (by simp), fun _ h => absurd h (by simp)⟩
theorem St.below (h : St w0 rows bks W) (hb : Below W.heap.size W W') : St w0 rows bks W' := ⟨h.b.trans (hb.mono h.b.size), h.t.below hb, fun r hr => (h.r r hr).below hb, fun x hx => (h.k x hx).below hb (h.k x hx).lt⟩
theorem St.add (h : St w0 rows bks W) {A : Option Addr} {vs : List Value} (hi : Rd W A vs) : St w0 ((A, vs) :: rows) bks W := ⟨h.b, h.t, fun r hr => by
  rcases List.mem_cons.1 hr with rfl | hr
  · exact hi
  · exact h.r r hr, h.k⟩
theorem St.blk (h : St w0 rows bks W) {g : Nat} {ty : TypeId} {vs : List Value} (hi : Bk W g ty vs) : St w0 rows ((g, ty, vs) :: bks) W := ⟨h.b, h.t, h.r, fun r hr => by
  rcases List.mem_cons.1 hr with rfl | hr
  · exact hi
  · exact h.k r hr⟩
/-- A block of the call's own has been stored into: what is left. -/
theorem St.put (h : St w0 rows bks W) (hT : Tab w0) {g : Nat} (hg : w0.heap.size ≤ g) (k : W.grownBy W' (some g)) : St w0 [] [] W' :=
  have hb : Below w0.heap.size w0 W' := h.b.grown k h.b.size (fun j e => by injection e with e; omega)
  ⟨hb, hT.below hb, fun _ h => absurd h (by simp), fun _ h => absurd h (by simp)⟩
end
theorem kp {w0 W W' : World} {rows : List (Option Addr × List Value)} {bks : List (Nat × TypeId × List Value)} (h : Hid (St w0 rows bks W)) (hb : Hid (Below W.heap.size W W')) : Hid (St w0 rows bks W') := Lib.hid (h.out.below hb.out)
theorem ka {w0 W : World} {rows : List (Option Addr × List Value)} {bks : List (Nat × TypeId × List Value)} (h : Hid (St w0 rows bks W)) {A : Option Addr} {vs : List Value} (hi : Hid (Rd W A vs)) : Hid (St w0 ((A, vs) :: rows) bks W) := Lib.hid (h.out.add hi.out)
theorem kb {w0 W : World} {rows : List (Option Addr × List Value)} {bks : List (Nat × TypeId × List Value)} (h : Hid (St w0 rows bks W)) {g : Nat} {ty : TypeId} {vs : List Value} (hi : Hid (Bk W g ty vs)) : Hid (St w0 rows ((g, ty, vs) :: bks) W) := Lib.hid (h.out.blk hi.out)
/-- Bytes of the literal are bytes. -/
theorem lt_lit {l : List Nat} (h : l.all (fun x => decide (x < 256)) = true) : All8 l := fun x hx => by simpa using List.all_eq_true.1 h x hx
theorem lit_rd (w : World) (l : List Nat) : Rd (w.alloc (.cells (cs8 l).toArray 5)) (some ⟨w.heap.size, 0, none⟩) (cs8 l) := by
  have := (Bk.new w 5 (cs8 l)).rd 0; simpa using this
theorem range3 {w : World} {g : Nat} {ty : TypeId} {a b c : Value} {cs : List Value} (h : Bk w g ty (a :: b :: c :: cs)) : w.rangeAt g 0 [a, b, c] := fun i u hu => by
  have := rangeB h i u
  match i, hu with
  | 0, hu => exact this (by simpa using hu)
  | 1, hu => exact this (by simpa using hu)
  | 2, hu => exact this (by simpa using hu)
  | i + 3, hu => simp at hu
theorem infoC : (Tryd.prog.info? 47).map (·.size) = some 2 := by kernel_rfl
theorem infoT : (Tryd.prog.info? 37).map (·.size) = some 3 := by kernel_rfl
section
variable (W : World)
theorem made_at (k : Nat) (S : ByteArray) : Calls Tryd.prog 14 #[.int .u32 (k : Int), .string S] W fun e w' => e = .returned (chV k S) ∧ Hid (Below W.heap.size W w') :=
  (made_any k S W).mono fun _ _ ⟨h1, h2⟩ => ⟨h1, Lib.hid h2⟩
/-- .. behind a literal of bytes. -/
theorem made_lit (k : Nat) (S : ByteArray) (l : List Nat) : Calls Tryd.prog 14 #[.int .u32 (k : Int), .string S] (W.alloc (.cells (cs8 l).toArray 5)) fun e w' => e = .returned (chV k S) ∧ Hid (Rd w' (some ⟨W.heap.size, 0, none⟩) (cs8 l)) ∧ Hid (Below W.heap.size W w') :=
  (made_any k S _).mono fun _ _ ⟨h1, h2⟩ => ⟨h1, Lib.hid ((lit_rd W l).below h2), Lib.hid ((bel1 W _).trans (h2.mono (bel1 W _).size))⟩
theorem chk_at (k : Nat) (hk : k < 4294967296) (l : List Nat) (h8 : All8 l) (hl : l.length ≤ 9000000000000000000) (S : ByteArray) (hS : bstr l = S) (f : Nat) (hf : chkC k l = f) (hT : Tab W) :
    Calls Tryd.prog 12 #[chV k S] W fun e w' => e = .returned (.int .i64 (f : Int)) ∧ Hid (Below W.heap.size W w') := by
  subst hS hf
  exact (check_any k hk l h8 hl W hT).mono fun _ _ ⟨h1, h2⟩ => ⟨h1, Lib.hid h2⟩
theorem put_at (k : Nat) (hk : k < 4294967296) (l : List Nat) (h8 : All8 l) (hl : l.length ≤ 9000000000000000000) (S : ByteArray) (hS : bstr l = S) (f : Nat) (hf : chkC k l = f) (m : List Nat) (N : Nat) (hm : putL k l = m) (hN : m.length = N) (hT : Tab W) :
    Calls Tryd.prog 15 #[chV k S] W fun e w' => ∃ A, e = .returned (.tuple #[.slice A N N, .int .i64 (f : Int)]) ∧ Hid (Rd w' A (cs8 m)) ∧ Hid (Below W.heap.size W w') := by
  subst hS hf hm hN
  exact (put9_any k hk l h8 hl W hT).mono fun _ _ ⟨⟨A, h1, h2, _⟩, h3⟩ => ⟨A, h1, Lib.hid h2.1, Lib.hid h3⟩
theorem elem_at (k : Nat) (hk : k < 4294967296) (l : List Nat) (h8 : All8 l) (hl : l.length ≤ 9000000000000000000) (S : ByteArray) (hS : bstr l = S) (f : Nat) (hf : chkC k l = f) (m : List Nat) (N n : Nat) (hm : putL k l = m) (hN : m.length = N) (hn : elN k l = n) (hT : Tab W) :
    Calls Tryd.prog 16 #[chV k S] W fun e w' => ∃ A, e = .returned (.tuple #[.agg #[.int .u8 0, .bool false, .int .u32 (n : Int), .slice A N N, .slice none 0 0], .int .i64 (f : Int)]) ∧ Hid (Rd w' A (cs8 m)) ∧ Hid (Below W.heap.size W w') := by
  subst hS hf hm hN hn
  exact (element_any k hk l h8 hl W hT).mono fun _ _ ⟨⟨A, h1, h2, _⟩, h3⟩ => ⟨A, h1, Lib.hid h2.1, Lib.hid h3⟩
theorem same_at (A B : Option Addr) (l : List Nat) (h8 : All8 l) (N c f : Nat) (hA : Rd W A (cs8 l)) (hB : Rd W B (cs8 l)) (hN : l.length = N) :
    Calls Tryd.prog 17 #[.slice A N N, .int .i64 (f : Int), .slice B N c, .int .i64 (f : Int)] W fun e w' => e = .returned (.bool true) ∧ Hid (Below W.heap.size W w') :=
  (same_ok A B l c N f W ⟨hA, h8⟩ ⟨hB, h8⟩ hN).mono fun _ _ ⟨h1, h2⟩ => ⟨h1, Lib.hid (h2 ▸ Below.refl _ _)⟩
theorem same_lit (A : Option Addr) (l : List Nat) (h8 : All8 l) (N f : Nat) (hA : Rd W A (cs8 l)) (hN : l.length = N) :
    Calls Tryd.prog 17 #[.slice A N N, .int .i64 (f : Int), .slice (some ⟨W.heap.size, 0, none⟩) N N, .int .i64 (f : Int)] (W.alloc (.cells (cs8 l).toArray 5)) fun e w' => e = .returned (.bool true) ∧ Hid (Below W.heap.size W w') :=
  (same_ok A _ l N N f _ ⟨hA.below (bel1 W _), h8⟩ ⟨lit_rd W l, h8⟩ hN).mono fun _ _ ⟨h1, h2⟩ => ⟨h1, Lib.hid (h2 ▸ bel1 W _)⟩
theorem lit_rdm (w : World) (l : List Nat) (fr : Nat × Nat) : Rd (w.alloc (.cells (cs8 l).toArray 5 fr)) (some ⟨w.heap.size, 0, none⟩) (cs8 l) := fun _ => ⟨w.heap.size, 0, rfl, by simp, fun j u hu => by rw [Nat.zero_add, World.cell?_alloc_mark]; simpa using hu⟩
/-- .. where the literal was made of a constant string. -/
theorem same_mark (A : Option Addr) (l : List Nat) (h8 : All8 l) (N f : Nat) (fr : Nat × Nat) (hA : Rd W A (cs8 l)) (hN : l.length = N) :
    Calls Tryd.prog 17 #[.slice A N N, .int .i64 (f : Int), .slice (some ⟨W.heap.size, 0, none⟩) N N, .int .i64 (f : Int)] (W.alloc (.cells (cs8 l).toArray 5 fr)) fun e w' => e = .returned (.bool true) ∧ Hid (Below W.heap.size W w') :=
  (same_ok A _ l N N f _ ⟨hA.below (bel1 W _), h8⟩ ⟨lit_rdm W l fr, h8⟩ hN).mono fun _ _ ⟨h1, h2⟩ => ⟨h1, Lib.hid (h2 ▸ bel1 W _)⟩
theorem read_at (k : Nat) (hk : k < 4294967296) (A : Option Addr) (l : List Nat) (h8 : All8 l) (N c : Nat) (hN : l.length = N) (hc : N ≤ c) (hcm : c ≤ maxLen) (k2 : Nat) (m : List Nat) (f : Nat) (hq : get9 k l = (k2, m, f)) (S : ByteArray) (hS : bstr m = S) (hA : Rd W A (cs8 l)) (hT : Tab W) :
    Calls Tryd.prog 21 #[.int .u32 (k : Int), .slice A N c, chV k2 S, .int .i64 (f : Int)] W fun e w' => e = .returned (.bool true) ∧ Hid (Below W.heap.size W w') := by
  subst hS
  exact (read_any k hk l A N c hN hc hcm k2 m f hq W ⟨hA, h8⟩ hT).mono fun _ _ ⟨h1, h2⟩ => ⟨h1, Lib.hid h2⟩
theorem read_lit (k : Nat) (hk : k < 4294967296) (l : List Nat) (h8 : All8 l) (N : Nat) (hN : l.length = N) (hm : N ≤ 1000) (k2 : Nat) (m : List Nat) (f : Nat) (hq : get9 k l = (k2, m, f)) (S : ByteArray) (hS : bstr m = S) (hT : Tab W) :
    Calls Tryd.prog 21 #[.int .u32 (k : Int), .slice (some ⟨W.heap.size, 0, none⟩) N N, chV k2 S, .int .i64 (f : Int)] (W.alloc (.cells (cs8 l).toArray 5)) fun e w' => e = .returned (.bool true) ∧ Hid (Below W.heap.size W w') := by
  subst hS
  exact (read_any k hk l _ N N hN (Nat.le_refl _) (by unfold maxLen; omega) k2 m f hq _ ⟨lit_rd W l, h8⟩ (hT.below (bel1 W _))).mono fun _ _ ⟨h1, h2⟩ => ⟨h1, Lib.hid ((bel1 W _).trans (h2.mono (bel1 W _).size))⟩
theorem conv_at (k : Nat) (hk : k < 4294967296) (l : List Nat) (h8 : All8 l) (hl : l.length ≤ 9000000000000000000) (S : ByteArray) (hS : bstr l = S) (k2 : Nat) (hk2 : k2 < 4294967296) (f : Nat) (hf : cvC k l k2 = f) (k3 : Nat) (S3 : ByteArray) (h3 : (if f = 0 then (k2, S) else (0, S0)) = (k3, S3)) (hT : Tab W) :
    Calls Tryd.prog 13 #[chV k S, .int .u32 (k2 : Int)] W fun e w' => e = .returned (.tuple #[chV k3 S3, .int .i64 (f : Int)]) ∧ Hid (Below W.heap.size W w') := by
  subst hS hf
  refine (convert_any k hk l h8 hl k2 hk2 W hT).mono fun _ _ ⟨h1, h2⟩ => ⟨?_, Lib.hid h2⟩
  rw [h1]
  by_cases h : cvC k l k2 = 0
  · rw [if_pos h] at h3 ⊢
    injection h3 with e1 e2
    rw [← e1, ← e2]; rfl
  · rw [if_neg h] at h3 ⊢
    injection h3 with e1 e2
    rw [← e1, ← e2]; rfl
theorem len_at (k : Nat) (hk : k < 4294967296) (l : List Nat) (h8 : All8 l) (hl : l.length ≤ 9000000000000000000) (S : ByteArray) (hS : bstr l = S) (f : Nat) (hf : lenC k l = f) (hT : Tab W) :
    Calls Tryd.prog 18 #[chV k S] W fun e w' => e = .returned (.int .i64 (f : Int)) ∧ Hid (Below W.heap.size W w') := by
  subst hS hf
  exact (length_any k hk l h8 hl W hT).mono fun _ _ ⟨h1, h2⟩ => ⟨h1, Lib.hid h2⟩
theorem cmp_at (k : Nat) (l : List Nat) (S : ByteArray) (hS : bstr l = S) (k2 : Nat) (l2 : List Nat) (S2 : ByteArray) (hS2 : bstr l2 = S2) (z : Int) (hz : cmpC k l k2 l2 = z) :
    Calls Tryd.prog 28 #[chV k S, chV k2 S2] W fun e w' => e = .returned (.int .i64 z) ∧ Hid (Below W.heap.size W w') := by
  subst hS hS2 hz
  exact (compare_any k l k2 l2 W).mono fun _ _ ⟨h1, h2⟩ => ⟨h1, Lib.hid h2⟩
theorem kinds_at (l : List Nat) (h8 : All8 l) (hl : l.length ≤ 9000000000000000000) (S : ByteArray) (hS : bstr l = S) (m : List Nat) (N : Nat) (hm : kindsP 5 l = m) (hN : m.length = N) (hT : Tab W) :
    Calls Tryd.prog 27 #[.string S] W fun e w' => ∃ A, e = .returned (.slice A N N) ∧ Hid (Rd w' A (cs32 m)) ∧ Hid (Below W.heap.size W w') := by
  subst hS hm hN
  exact (kinds_any l h8 hl W hT).mono fun _ _ ⟨⟨A, h1, h2⟩, h3⟩ => ⟨A, h1, Lib.hid h2, Lib.hid h3⟩
theorem list_at (A B : Option Addr) (l : List Nat) (N d : Nat) (hN : l.length = N) (hm : N ≤ 1000) (hA : Rd W A (cs32 l)) (hB : Rd W B (cs32 l)) :
    Calls Tryd.prog 30 #[.slice A N N, .slice B N d] W fun e w' => e = .returned (.bool true) ∧ Hid (Below W.heap.size W w') :=
  (list_ok A B l N d hN hm W hA hB).mono fun _ _ ⟨h1, h2⟩ => ⟨h1, Lib.hid h2⟩
theorem list_lit (A : Option Addr) (l : List Nat) (N : Nat) (hN : l.length = N) (hm : N ≤ 1000) (hA : Rd W A (cs32 l)) :
    Calls Tryd.prog 30 #[.slice A N N, .slice (some ⟨W.heap.size, 0, none⟩) N N] (W.alloc (.cells (cs32 l).toArray 22)) fun e w' => e = .returned (.bool true) ∧ Hid (Below W.heap.size W w') :=
  (list_ok A _ l N N hN hm _ (hA.below (bel1 W _)) (by have := (Bk.new W 22 (cs32 l)).rd 0; simpa using this)).mono fun _ _ ⟨h1, h2⟩ => ⟨h1, Lib.hid ((bel1 W _).trans (h2.mono (bel1 W _).size))⟩
theorem of_at (c n : Nat) (kb : Bool) (hn : n < 4294967296) (l : List Nat) (h8 : All8 l) (A B : Option Addr) (N cA M cB : Nat) (hN : l.length = N) (hc : N ≤ cA) (hcm : cA ≤ maxLen) (hA : Rd W A (cs8 l)) (hT : Tab W) (k2 : Nat) (m : List Nat) (f : Nat) (hq : of9 c n kb l M = (k2, m, f)) (S : ByteArray) (hS : bstr m = S) :
    Calls Tryd.prog 22 #[.agg (eV c n kb (.slice A N cA) (.slice B M cB)).toArray] W fun e w' => e = .returned (.tuple #[chV k2 S, .int .i64 (f : Int)]) ∧ Hid (Below W.heap.size W w') := by
  subst hS
  have h := of9_any c n kb hn l A B N cA M cB hN hc hcm W ⟨hA, h8⟩ hT
  rw [hq] at h
  exact h.mono fun _ _ ⟨h1, h2⟩ => ⟨h1, Lib.hid h2⟩
theorem rchk_at (k : Nat) (hk : k < 4294967296) (l : List Nat) (h8 : All8 l) (hl : l.length ≤ 9000000000000000000) (S : ByteArray) (hS : bstr l = S) (f : Nat) (hf : chkC k l = f) :
    Calls Tryd.prog 11 #[chV k S] W fun e w' => e = .returned (.int .i64 (f : Int)) ∧ Hid (Below W.heap.size W w') := by
  subst hS hf
  exact (rchk_any k hk l h8 hl W).mono fun _ _ ⟨h1, h2⟩ => ⟨h1, Lib.hid h2⟩
theorem rput_at (k : Nat) (l : List Nat) (h8 : All8 l) (hv : chkC k l = 0) (S : ByteArray) (hS : bstr l = S) (m : List Nat) (N : Nat) (hm : putL k l = m) (hN : m.length = N) :
    Calls Tryd.prog 20 #[chV k S] W fun e w' => ∃ A c, e = .returned (.slice A N c) ∧ Hid (Rd w' A (cs8 m)) ∧ Hid (All8 m ∧ N ≤ c ∧ c ≤ maxLen) ∧ Hid (Below W.heap.size W w') := by
  subst hS hm hN
  exact (rput_any k l h8 hv W).mono fun _ _ ⟨⟨A, c, h1, h2, h3, h4⟩, h5⟩ => ⟨A, c, h1, Lib.hid h2.1, Lib.hid ⟨h2.2, h3, h4⟩, Lib.hid h5⟩
theorem rget_at (k : Nat) (hk : k < 4294967296) (l : List Nat) (h8 : All8 l) (A : Option Addr) (N c : Nat) (hN : l.length = N) (hc : N ≤ c) (hcm : c ≤ maxLen) (hA : Rd W A (cs8 l)) (k2 : Nat) (m : List Nat) (f : Nat) (hq : get9 k l = (k2, m, f)) (S : ByteArray) (hS : bstr m = S) :
    Calls Tryd.prog 24 #[.int .u32 (k : Int), .slice A N c] W fun e w' => e = .returned (.tuple #[chV k2 S, .int .i64 (f : Int)]) ∧ Hid (Below W.heap.size W w') := by
  subst hS
  have h := rget_any k hk l A N c hN hc hcm W ⟨hA, h8⟩
  rw [hq] at h
  exact h.mono fun _ _ ⟨h1, h2⟩ => ⟨h1, Lib.hid h2⟩
theorem cof_at (kd p : Nat) (hkd : kd < 256) (hp : kd % 5 = p) (A : Option Addr) (xs : List Nat) (n c : Nat) (hN : xs.length = n) (hm : n ≤ maxLen) (hx : ∀ y ∈ xs, y < 4294967296) (hA : Rd W A (cs32 xs)) (K : Nat) (hK : kN p = K) (S : ByteArray) (hS : bstr (encS (ofC K xs)) = S) :
    Calls Tryd.prog 19 #[cV kd A n c] W fun e w' => e = .returned (chV K S) ∧ Hid (Below W.heap.size W w') := by
  subst hK hS
  exact (cof_any kd p hkd hp A xs n c hN hm hx W hA).mono fun _ _ ⟨h1, h2⟩ => ⟨h1, Lib.hid h2⟩
theorem rdec_at (l : List Nat) (h8 : All8 l) (S : ByteArray) (hS : bstr l = S) (hl : l.length ≤ 1000000) (cs : List Nat) (M : Nat) (hd : decS l = some cs) (hM : cs.length = M) :
    Calls Tryd.prog 23 #[.string S] W fun e w' => ∃ A c, e = .returned (.tuple #[.slice A M c, .bool true]) ∧ Hid (Rd w' A (csI cs)) ∧ Hid (Below W.heap.size W w') := by
  subst hS hM
  have h := rdec_any l l.length h8 rfl hl W
  rw [hd] at h
  exact h.mono fun _ _ ⟨⟨A, c, h1, h2, _, _⟩, h3⟩ => ⟨A, c, h1, Lib.hid h2, Lib.hid h3⟩
end
end Go.Proofs.YthefnfjhnallfaaDoor.Chs
