/-
  The examples of the chapter hold: the statements' helper 'lives' returns true; what was there has not turned.
  Conditions: none.
-/
import Derived.Test.YtenbknmpkdidoaaRefF
namespace Go.Proofs.Ytenbknmpkdidoaa
open Go.RowKit

theorem lit_rb (w : World) (l : List Nat) (h : Lt 256 l) : Rb (w.alloc (.cells (cs8 l).toArray 5)) (some ⟨w.heap.size, 0, none⟩) l :=
  ⟨by have := (Bk.new w 5 (cs8 l)).rd 0; simpa using this, h⟩
theorem lit_rb2 (w : World) (o : Obj) (l : List Nat) (h : Lt 256 l) : Rb ((w.alloc o).alloc (.cells (cs8 l).toArray 5)) (some ⟨w.heap.size + 1, 0, none⟩) l := by
  have := lit_rb (w.alloc o) l h
  simpa using this
theorem bel1 (w : World) (o : Obj) : Below w.heap.size w (w.alloc o) := (Below.refl _ _).alloc (Nat.le_refl _) _
theorem bel2 (w : World) (o o' : Obj) : Below w.heap.size w ((w.alloc o).alloc o') := (bel1 w o).alloc (by simp) _
theorem GiveD.from {w W : World} (hb : Below w.heap.size w W) {l : List Nat} {f : Int} {e : Ending} {w' : World} (h : GiveD W l f e w') : GiveD w l f e w' := by
  obtain ⟨A, h1, h2, h3⟩ := h
  exact ⟨A, h1, h2, hb.trans (h3.mono hb.size)⟩
section
variable (w : World)
/-- A binary function on two literals. -/
theorem add_lit (a b : List Nat) (ha : Lt 256 a) (hb : Lt 256 b) (la : a.length ≤ 64) (lb : b.length ≤ 64) :
    Calls Try.prog 16 #[.slice (some ⟨w.heap.size, 0, none⟩) a.length a.length, .slice (some ⟨w.heap.size + 1, 0, none⟩) b.length b.length] ((w.alloc (.cells (cs8 a).toArray 5)).alloc (.cells (cs8 b).toArray 5)) (GiveD w (addL a b) (addE a b)) :=
  (add_any _ _ a b _ _ _ (by unfold maxLen; omega) (by unfold maxLen; omega) ((lit_rb w a ha).below (bel1 _ _)) (lit_rb2 w _ b hb)).mono fun _ _ h => h.from (bel2 _ _ _)
theorem mul_lit (a b : List Nat) (ha : Lt 256 a) (hb : Lt 256 b) (la : a.length ≤ 64) (lb : b.length ≤ 64) :
    Calls Try.prog 18 #[.slice (some ⟨w.heap.size, 0, none⟩) a.length a.length, .slice (some ⟨w.heap.size + 1, 0, none⟩) b.length b.length] ((w.alloc (.cells (cs8 a).toArray 5)).alloc (.cells (cs8 b).toArray 5)) (GiveD w (mulL a b) (mulE a b)) :=
  (mul_any _ _ a b _ _ _ (by unfold maxLen; omega) (by unfold maxLen; omega) ((lit_rb w a ha).below (bel1 _ _)) (lit_rb2 w _ b hb)).mono fun _ _ h => h.from (bel2 _ _ _)
theorem sub_lit (a b : List Nat) (ha : Lt 256 a) (hb : Lt 256 b) (la : a.length ≤ 64) (lb : b.length ≤ 64) :
    Calls Try.prog 17 #[.slice (some ⟨w.heap.size, 0, none⟩) a.length a.length, .slice (some ⟨w.heap.size + 1, 0, none⟩) b.length b.length] ((w.alloc (.cells (cs8 a).toArray 5)).alloc (.cells (cs8 b).toArray 5)) (GiveD w (if subE a b = 0 then dig (val a - val b) else []) (subE a b)) :=
  (sub_any _ _ a b _ _ _ (Nat.le_refl _) (Nat.le_refl _) (by unfold maxLen; omega) (by unfold maxLen; omega) ((lit_rb w a ha).below (bel1 _ _)) (lit_rb2 w _ b hb)).mono fun _ _ h => h.from (bel2 _ _ _)
theorem cmp_lit (a b : List Nat) (ha : Lt 256 a) (hb : Lt 256 b) (la : a.length ≤ 64) (lb : b.length ≤ 64) :
    Calls Try.prog 35 #[.slice (some ⟨w.heap.size, 0, none⟩) a.length a.length, .slice (some ⟨w.heap.size + 1, 0, none⟩) b.length b.length] ((w.alloc (.cells (cs8 a).toArray 5)).alloc (.cells (cs8 b).toArray 5)) fun e w' => e = .returned (.int .i64 (cmpI (val a) (val b))) ∧ Below w.heap.size w w' :=
  (cmp_any _ _ a b _ _ _ (Nat.le_refl _) (Nat.le_refl _) (by unfold maxLen; omega) (by unfold maxLen; omega) ((lit_rb w a ha).below (bel1 _ _)) (lit_rb2 w _ b hb)).mono fun _ _ ⟨h1, h2⟩ => ⟨h1, by rw [← h2]; exact bel2 _ _ _⟩
theorem check_lit (a : List Nat) (ha : Lt 256 a) (la : a.length ≤ 64) :
    Calls Try.prog 15 #[.slice (some ⟨w.heap.size, 0, none⟩) a.length a.length] (w.alloc (.cells (cs8 a).toArray 5)) fun e w' => e = .returned (.int .i64 (checkE a)) ∧ Below w.heap.size w w' :=
  (check_any _ a _ _ (by unfold maxLen; omega) (lit_rb w a ha)).mono fun _ _ ⟨h1, h2⟩ => ⟨h1, by rw [← h2]; exact bel1 _ _⟩
theorem bits_lit (a : List Nat) (ha : Lt 256 a) (la : a.length ≤ 64) :
    Calls Try.prog 23 #[.slice (some ⟨w.heap.size, 0, none⟩) a.length a.length] (w.alloc (.cells (cs8 a).toArray 5)) fun e w' => e = .returned (.int .i64 (bitsN a)) ∧ Below w.heap.size w w' :=
  (bits_any _ a _ _ (by unfold maxLen; omega) (lit_rb w a ha)).mono fun _ _ ⟨h1, h2⟩ => ⟨h1, by rw [← h2]; exact bel1 _ _⟩
theorem div_lit (a : List Nat) (y : Nat) (hy : y < 4294967296) (ha : Lt 256 a) (la : a.length ≤ 64) :
    Calls Try.prog 21 #[.slice (some ⟨w.heap.size, 0, none⟩) a.length a.length, .int .u32 y] (w.alloc (.cells (cs8 a).toArray 5)) (Give3 w (if divE a y = 0 then dig (val a / y) else []) (if divE a y = 0 then val a % y else 0) (divE a y)) :=
  (div_any _ a _ y _ (by unfold maxLen; omega) (lit_rb w a ha) hy).mono fun _ _ ⟨A, h1, h2, h3⟩ => ⟨A, h1, h2, (bel1 _ _).trans (h3.mono (bel1 _ _).size)⟩
theorem pow_lit (a : List Nat) (k : Nat) (hk : k ≤ 1000) (ha : Nat64 a) :
    Calls Try.prog 22 #[.slice (some ⟨w.heap.size, 0, none⟩) a.length a.length, .int .i64 k] (w.alloc (.cells (cs8 a).toArray 5)) (GiveD w (limD (val a ^ k)) (limE (val a ^ k))) :=
  (pow_ok _ a _ k _ (by unfold maxLen; omega) (Nat.le_refl _) (by have := ha.2.2; unfold maxLen; omega) (lit_rb w a ha.1) ha).mono fun _ _ h => h.from (bel1 _ _)
theorem text_lit (a : List Nat) (ha : Nat64 a) :
    Calls Try.prog 24 #[.slice (some ⟨w.heap.size, 0, none⟩) a.length a.length] (w.alloc (.cells (cs8 a).toArray 5)) fun e w' => e = .returned (.string (bstr (textL (val a)))) ∧ Below w.heap.size w w' :=
  (text_ok _ a _ _ (Nat.le_refl _) (by have := ha.2.2; unfold maxLen; omega) (lit_rb w a ha.1) ha).mono fun _ _ ⟨h1, h2⟩ => ⟨h1, (bel1 _ _).trans (h2.mono (bel1 _ _).size)⟩
end
theorem nat64 (l : List Nat) (h : Lt 256 l) (h2 : cutL l = l) (h3 : l.length ≤ 64) : Nat64 l := ⟨h, h2, h3⟩
theorem dig_eq {l : List Nat} {v : Nat} (h : Nat64 l) (hv : val l = v) : dig v = l := by rw [← hv, h.dig]
theorem lt_lit {l : List Nat} (h : l.all (fun x => decide (x < 256)) = true) : Lt 256 l := fun x hx => by simpa using List.all_eq_true.1 h x hx

theorem bt {a b c : World} (h1 : Hid (Below a.heap.size a b)) (h2 : Hid (Below b.heap.size b c)) : Hid (Below a.heap.size a c) := Lib.hid (h1.out.trans (h2.out.mono h1.out.size))
theorem GiveD.hid {w : World} {l : List Nat} {f : Int} {e : Ending} {w' : World} (h : GiveD w l f e w') : ∃ A, e = .returned (.tuple #[.slice A l.length l.length, .int .i64 f]) ∧ Hid (Rb w' A l) ∧ Hid (Below w.heap.size w w') := h

set_option maxHeartbeats 3200000 in
set_option maxRecDepth 100000 in
theorem lives1 (w : World) : Calls Try.prog 13 #[] w fun e w' => e = .returned (.bool true) ∧ Below w.heap.size w w' := by
  go_enter Try.func13, Try.ntmps13
  go_wp2_with fail
  refine (check_lit w [0, 1] (lt_lit rfl) (by decide)).mono ?_
  rintro e w1 ⟨rfl, hb⟩
  rw [show checkE [0, 1] = 11 from rfl]
  have B1 := Lib.hid hb
  clear hb
  go_wp2_with fail
  refine (power_any 512 w1 (by decide)).mono ?_
  rintro e w2 ⟨A2, c2, rfl, r2, h21, h22, hb⟩
  have B2 := bt B1 (Lib.hid hb)
  clear hb B1
  go_wp2_with fail
  refine (check_any A2 _ c2 w2 (by decide) r2).mono ?_
  rintro e w3 ⟨rfl, rfl⟩
  rw [show checkE (2 ^ (512 % 8) :: List.replicate (512 / 8) 0) = 3 from by decide +kernel]
  clear r2 h21 h22
  go_wp2_with fail
  refine (check_any none [] 0 w2 (by decide) Rb.nil).mono ?_
  rintro e w3 ⟨rfl, rfl⟩
  rw [show checkE [] = 0 from rfl]
  go_wp2_with fail
  refine (cmp_lit w2 [0, 2] [2] (lt_lit rfl) (lt_lit rfl) (by decide) (by decide)).mono ?_
  rintro e w3 ⟨rfl, hb⟩
  rw [show cmpI (val [0, 2]) (val [2]) = 0 from by decide +kernel]
  have B3 := bt B2 (Lib.hid hb)
  clear hb B2
  go_wp2_with fail
  refine (cmp_lit w3 [1, 0] [255] (lt_lit rfl) (lt_lit rfl) (by decide) (by decide)).mono ?_
  rintro e w4 ⟨rfl, hb⟩
  rw [show cmpI (val [1, 0]) (val [255]) = 1 from by decide +kernel]
  have B4 := bt B3 (Lib.hid hb)
  clear hb B3
  go_wp2_with fail
  refine (bits_lit w4 [1, 0] (lt_lit rfl) (by decide)).mono ?_
  rintro e w5 ⟨rfl, hb⟩
  rw [show bitsN [1, 0] = 9 from by decide +kernel]
  have B5 := bt B4 (Lib.hid hb)
  clear hb B4
  go_wp2_with fail
  refine (add_lit w5 [255] [1] (lt_lit rfl) (lt_lit rfl) (by decide) (by decide)).mono ?_
  rw [show addL [255] [1] = [1, 0] from by decide +kernel, show addE [255] [1] = 0 from by decide +kernel]
  intro e w6 h
  obtain ⟨Aa, rfl, ra, hb6⟩ := h.hid
  clear h
  go_wp2_with fail
  refine (sub_lit w6 [1, 0] [1] (lt_lit rfl) (lt_lit rfl) (by decide) (by decide)).mono ?_
  rw [show subE [1, 0] [1] = 0 from by decide +kernel, if_pos rfl, show dig (val [1, 0] - val [1]) = [255] from by decide +kernel]
  intro e w7 h
  obtain ⟨Ab, rfl, rb, hb7⟩ := h.hid
  clear h
  go_wp2_with fail
  refine (sub_lit w7 [1] [2] (lt_lit rfl) (lt_lit rfl) (by decide) (by decide)).mono ?_
  rw [show subE [1] [2] = 1 from by decide +kernel, if_neg (by decide)]
  intro e w8 h
  obtain ⟨Ac, rfl, rc, hb8⟩ := h.hid
  clear h rc
  go_wp2_with fail
  refine (mul_lit w8 [255, 255] [255, 255] (lt_lit rfl) (lt_lit rfl) (by decide) (by decide)).mono ?_
  rw [show mulL [255, 255] [255, 255] = [255, 254, 0, 1] from by decide +kernel, show mulE [255, 255] [255, 255] = 0 from by decide +kernel]
  intro e w9 h
  obtain ⟨Ad, rfl, rd, hb9⟩ := h.hid
  clear h
  have B9 := bt (bt (bt (bt B5 hb6) hb7) hb8) hb9
  have ra9 := Lib.hid (ra.out.below (bt (bt hb7 hb8) hb9).out)
  have rb9 := Lib.hid (rb.out.below (bt hb8 hb9).out)
  clear B5 hb6 hb7 hb8 hb9 ra rb
  go_wp2_with fail
  refine (is_any Aa [1, 0] 2 w9 ra9.out).mono ?_
  rintro e w10 ⟨rfl, rfl⟩
  clear ra9
  go_wp2_with fail
  refine (is_any Ab [255] 1 w9 rb9.out).mono ?_
  rintro e w10 ⟨rfl, rfl⟩
  clear rb9
  go_wp2_with fail
  refine (is_any Ad [255, 254, 0, 1] 4 w9 rd.out).mono ?_
  rintro e w10 ⟨rfl, rfl⟩
  clear rd
  go_wp2_with fail
  refine (div_lit w9 [1, 0, 0] 7 (by decide) (lt_lit rfl) (by decide)).mono ?_
  rw [show divE [1, 0, 0] 7 = 0 from by decide +kernel, if_pos rfl, if_pos rfl, show dig (val [1, 0, 0] / 7) = [36, 146] from by decide +kernel, show val [1, 0, 0] % 7 = 2 from by decide +kernel]
  rintro e w10 ⟨Ae, rfl, re, hb⟩
  have hb10 := Lib.hid hb
  have re := Lib.hid re
  clear hb
  go_wp2_with fail
  refine (div_lit w10 [5] 0 (by decide) (lt_lit rfl) (by decide)).mono ?_
  rw [show divE [5] 0 = 1 from by decide +kernel, if_neg (by decide), if_neg (by decide)]
  rintro e w11 ⟨Af, rfl, rf, hb⟩
  have hb11 := Lib.hid hb
  clear hb rf
  go_wp2_with fail
  refine (pow_lit w11 [2] 10 (by decide) (nat64 _ (lt_lit rfl) rfl (by decide))).mono ?_
  rw [show limD (val [2] ^ 10) = [4, 0] from by decide +kernel, show limE (val [2] ^ 10) = 0 from by decide +kernel]
  intro e w12 h
  obtain ⟨Ag, rfl, rg, hb12⟩ := h.hid
  clear h
  go_wp2_with fail
  refine (pow_lit w12 [2] 512 (by decide) (nat64 _ (lt_lit rfl) rfl (by decide))).mono ?_
  rw [show limD (val [2] ^ 512) = [] from by decide +kernel, show limE (val [2] ^ 512) = 3 from by decide +kernel]
  intro e w13 h
  obtain ⟨Ah, rfl, rh, hb13⟩ := h.hid
  clear h rh
  go_wp2_with fail
  refine (pow_lit w13 [2] 511 (by decide) (nat64 _ (lt_lit rfl) rfl (by decide))).mono ?_
  obtain ⟨q, hq⟩ : ∃ q, limD (val [2] ^ 511) = q := ⟨_, rfl⟩
  have hql : q.length = 64 := by rw [← hq]; decide +kernel
  rw [hq, show limE (val [2] ^ 511) = 0 from by decide +kernel]
  clear hq
  intro e w14 h
  obtain ⟨Ai, rfl, ri, hb14⟩ := h.hid
  rw [hql]
  clear h ri hql
  have B14 := bt (bt (bt (bt (bt B9 hb10) hb11) hb12) hb13) hb14
  have re14 := Lib.hid (re.out.below (bt (bt (bt hb11 hb12) hb13) hb14).out)
  have rg14 := Lib.hid (rg.out.below (bt hb13 hb14).out)
  clear B9 hb10 hb11 hb12 hb13 hb14 re rg
  go_wp2_with fail
  refine (is_any Ae [36, 146] 2 w14 re14.out).mono ?_
  rintro e w15 ⟨rfl, rfl⟩
  clear re14
  go_wp2_with fail
  refine (is_any Ag [4, 0] 2 w14 rg14.out).mono ?_
  rintro e w15 ⟨rfl, rfl⟩
  clear rg14
  go_wp2_with fail
  refine (parse_any { data := #[50, 53, 54] } w14 (by decide)).mono ?_
  rw [show sl { data := #[50, 53, 54] } = [50, 53, 54] from by decide +kernel, show parseL [50, 53, 54] = [1, 0] from by decide +kernel, show parseE [50, 53, 54] = 0 from by decide +kernel]
  intro e w15 h
  obtain ⟨At, rfl, rt, hb15⟩ := h.hid
  clear h
  go_wp2_with fail
  refine (parse_any { data := #[48, 48, 55] } w15 (by decide)).mono ?_
  rw [show sl { data := #[48, 48, 55] } = [48, 48, 55] from by decide +kernel, show parseL [48, 48, 55] = [] from by decide +kernel, show parseE [48, 48, 55] = 6 from by decide +kernel]
  intro e w16 h
  obtain ⟨Au, rfl, ru, hb16⟩ := h.hid
  clear h ru
  go_wp2_with fail
  refine (parse_any { data := #[] } w16 (by decide)).mono ?_
  rw [show sl { data := #[] } = [] from by decide +kernel, show parseL [] = [] from by decide +kernel, show parseE [] = 6 from by decide +kernel]
  intro e w17 h
  obtain ⟨Av, rfl, rv, hb17⟩ := h.hid
  clear h rv
  go_wp2_with fail
  refine (text_lit w17 [1, 0] (nat64 _ (lt_lit rfl) rfl (by decide))).mono ?_
  rw [show bstr (textL (val [1, 0])) = { data := #[50, 53, 54] } from by decide +kernel]
  rintro e w18 ⟨rfl, hb⟩
  have hb18 := Lib.hid hb
  clear hb
  have B18 := bt (bt (bt (bt B14 hb15) hb16) hb17) hb18
  have rt18 := Lib.hid (rt.out.below (bt (bt hb16 hb17) hb18).out)
  clear B14 hb15 hb16 hb17 hb18 rt
  go_wp2_with fail
  refine (is_any At [1, 0] 2 w18 rt18.out).mono ?_
  rintro e w19 ⟨rfl, rfl⟩
  clear rt18
  go_wp2_with fail
  go_ret
  exact ⟨rfl, B18.out⟩
end Go.Proofs.Ytenbknmpkdidoaa
