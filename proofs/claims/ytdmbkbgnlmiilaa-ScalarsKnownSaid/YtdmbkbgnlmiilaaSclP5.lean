/-
  Layer 5, the statement ScalarsKnown: the examples of the chapter; booleans and NULL; the integers around each additional octet; numbers of 64 bytes.
  Conditions: none.
-/
import Derived.Test.YtdmbkbgnlmiilaaSclP1
import Derived.Test.YtdmbkbgnlmiilaaSclP2
namespace Go.Proofs.Ytdmbkbgnlmiilaa.Scl
open Go.RowKit

theorem get_lit (w : World) (l : List Nat) (N : Nat) (h : Lt 256 l) (hN : l.length = N) (hn : N ≤ 1000) :
    Calls Try.prog 4 #[.slice (some ⟨w.heap.size, 0, none⟩) N N] (w.alloc (.cells (cs8 l).toArray 5)) fun e w' => e = .returned (.bool true) ∧ Below w.heap.size w w' := by
  have := get_walk (some ⟨w.heap.size, 0, none⟩) l N (w.alloc (.cells (cs8 l).toArray 5)) (lit_rb w l h) (by omega) (by unfold maxLen; omega)
  rw [hN] at this
  exact this.mono fun _ _ ⟨h1, h2⟩ => ⟨h1, (bel1 _ _).trans (h2.mono (bel1 _ _).size)⟩
theorem made8 (v : Value) (n : Nat) : madeCells #[v] n = (List.replicate n v).toArray := made_one v n
theorem make_bytes (n : Nat) (hn : n ≤ 1000000) (W : World) : (Instr.makeSlice 22 (.int .i64 (n : Int)) (.int .i64 (n : Int))).run Try.prog W = .ok (.slice (some ⟨W.heap.size, 0, none⟩) n n) (W.alloc (.cells (cs8 (List.replicate n 0)).toArray 5)) := by
  obtain ⟨i, hi, hz0, hz1, hz2⟩ := info_parts info5
  have h := run_make (P := Try.prog) W 22 5 i (.int .u8 0) Try.underlying22 hi hz0 .i64 .i64 (n : Int) (n : Int) (by omega) (Int.le_refl _) (by rw [hz2]; omega) (by omega)
  rw [h, hz1, Int.toNat_natCast, Nat.mul_one]
  congr 3
  rw [show (Value.int IntKind.u8 0).cells = #[Value.int IntKind.u8 0] from rfl, made_one]
  unfold cs8
  rw [List.map_replicate]
  rfl
/-- The slice while it is filled. -/
def ful (k : Nat) : List Nat := List.replicate k 255 ++ List.replicate (66 - k) 0
theorem ful_set {k : Nat} (h : k < 66) : (ful k).set k 255 = ful (k + 1) := by
  unfold ful
  rw [List.set_append, if_neg (by simp), List.length_replicate, Nat.sub_self, show 66 - k = 66 - (k + 1) + 1 from by omega, List.replicate_succ, List.set_cons_zero, List.replicate_succ', List.append_assoc]
  rfl
theorem ful_at {k : Nat} (h : k < 66) : (ful k)[k]? = some 0 := by
  unfold ful
  rw [List.getElem?_append_right (by simp), List.length_replicate, Nat.sub_self, List.getElem?_replicate, if_pos (by omega)]
theorem ful_all : ful 66 = List.replicate 66 255 := by unfold ful; simp
def fulL : List Nat := 0 :: List.replicate 65 255
theorem fulL_all : All8 fulL := by
  intro x hx
  unfold fulL at hx
  rcases List.mem_cons.1 hx with rfl | hx
  · omega
  · have := List.eq_of_mem_replicate hx; omega
set_option maxHeartbeats 6400000 in
set_option maxRecDepth 100000 in
theorem known_walk (w : World) : Calls Try.prog 7 #[] w fun e w' => e = .returned (.bool true) ∧ Below w.heap.size w w' := by
  have hmk := make_bytes 66 (by omega)
  rw [show ((66 : Nat) : Int) = 66 from rfl] at hmk
  obtain ⟨Z, hZ⟩ : ∃ Z, cs8 (List.replicate 66 0) = Z := ⟨_, rfl⟩
  rw [hZ] at hmk
  have HMK := Lib.hid hmk
  have HZ := Lib.hid hZ
  clear hmk hZ
  go_enter Try.func7, Try.ntmps7
  go_wp2_with fail
  go_loopw [1] (fun i wr => ∃ k : Nat, k ≤ 256 ∧ i = .int .i64 (k : Int) ∧ Below w.heap.size w wr) (fun i _ => 256 - (intOf i).toNat)
  case atStart => exact ⟨0, Nat.zero_le _, rfl, Below.refl _ _⟩
  case round =>
    obtain ⟨k, hk, rfl, hbel⟩ := hrel
    have B0 := Lib.hid hbel
    clear hbel
    by_cases hlt : k < 256
    · have h1 : Lt 256 [k] := by intro x hx; simp at hx; omega
      have h2 : Lt 256 [k, 0] := by intro x hx; simp at hx; omega
      have h3 : Lt 256 [0, k] := by intro x hx; simp at hx; omega
      have h4 : Lt 256 [255, k] := by intro x hx; simp at hx; omega
      go_wp2_with fail
      refine (get_lit wr [k] 1 h1 rfl (by omega)).mono ?_
      rintro e w1 ⟨rfl, hb⟩
      have B1 := bt B0 (Lib.hid hb)
      clear hb
      go_wp2_with fail
      refine (get_lit w1 [k, 0] 2 h2 rfl (by omega)).mono ?_
      rintro e w2 ⟨rfl, hb⟩
      have B2 := bt B1 (Lib.hid hb)
      clear hb
      go_wp2_with fail
      refine (get_lit w2 [0, k] 2 h3 rfl (by omega)).mono ?_
      rintro e w3 ⟨rfl, hb⟩
      have B3 := bt B2 (Lib.hid hb)
      clear hb
      go_wp2_with fail
      refine (get_lit w3 [255, k] 2 h4 rfl (by omega)).mono ?_
      rintro e w4 ⟨rfl, hb⟩
      have B4 := bt B3 (Lib.hid hb)
      clear hb
      go_wp2_with fail
      exact ⟨⟨k + 1, by omega, by go_num, B4.out⟩, by simp [intOf]; omega⟩
    · obtain rfl : k = 256 := by omega
      rw [show ((256 : Nat) : Int) = 256 from rfl]
      clear hk hlt
      go_wp2_with fail
      go_loopw [2, 3] (fun p i wr => ∃ k : Nat, k ≤ 62 ∧ i = .int .i64 (k : Int) ∧ p = .int .i64 ((2 ^ k : Nat) : Int) ∧ Below w.heap.size w wr) (fun _ i _ => 62 - (intOf i).toNat)
      case atStart => exact ⟨0, Nat.zero_le _, rfl, rfl, B0.out⟩
      case round =>
        obtain ⟨k, hk, rfl, rfl, hbel⟩ := hrel
        clear B0
        have B0 := Lib.hid hbel
        clear hbel
        by_cases hlt : k < 62
        · have hq : 2 ^ k ≤ 2 ^ 61 := Nat.pow_le_pow_right (by decide) (by omega)
          have hq1 : 1 ≤ 2 ^ k := Nat.one_le_two_pow
          have hqs : 2 ^ (k + 1) = 2 * 2 ^ k := by rw [Nat.pow_succ]; omega
          have HQ := Lib.hid hqs
          clear hqs
          obtain ⟨q, hqe⟩ : ∃ q, 2 ^ k = q := ⟨_, rfl⟩
          rw [hqe] at hq hq1 HQ ⊢
          have hq2 : q ≤ 2305843009213693952 := hq
          clear hqe hq
          go_wp2_with fail
          refine (ints_walk (q : Int) wr (by omega) (by omega)).mono ?_
          rintro e w1 ⟨rfl, hb⟩
          have B1 := bt B0 (Lib.hid hb)
          clear hb
          go_wp2_with fail
          refine (ints_walk ((q : Int) - 1) w1 (by omega) (by omega)).mono ?_
          rintro e w2 ⟨rfl, hb⟩
          have B2 := bt B1 (Lib.hid hb)
          clear hb
          go_wp2_with fail
          refine (ints_walk (-(q : Int)) w2 (by omega) (by omega)).mono ?_
          rintro e w3 ⟨rfl, hb⟩
          have B3 := bt B2 (Lib.hid hb)
          clear hb
          go_wp2_with fail
          refine (ints_walk (-(q : Int) - 1) w3 (by omega) (by omega)).mono ?_
          rintro e w4 ⟨rfl, hb⟩
          have B4 := bt B3 (Lib.hid hb)
          clear hb
          go_wp2_with fail
          exact ⟨⟨k + 1, by omega, by go_num, by rw [HQ.out, Int.natCast_mul]; rfl, B4.out⟩, by simp [intOf]; omega⟩
        · obtain rfl : k = 62 := by omega
          rw [show ((62 : Nat) : Int) = 62 from rfl]
          rw [show ((2 ^ 62 : Nat) : Int) = 4611686018427387904 from rfl]
          clear hk hlt
          go_wp2_with fail
          refine (bool_any true wr).mono ?_
          rintro e w1 ⟨A1, rfl, hr, hb⟩
          have RX := Lib.hid hr
          clear hr
          have B1 := bt B0 (Lib.hid hb)
          clear hb B0
          go_wp2_with fail
          refine (ofbool_any 0 1 false A1 none [255] 1 1 0 0 w1 RX.out rfl (Nat.le_refl _) (by unfold maxLen; omega)).mono ?_
          rintro e w2 ⟨rfl, hb⟩
          rw [show obV 0 1 false 0 1 [255] = true from by decide, show obE 0 1 false 0 1 [255] = 0 from by decide]
          have B2 := bt B1 (Lib.hid hb)
          clear hb B1
          go_wp2_with fail
          refine (bool_any false w2).mono ?_
          rintro e w3 ⟨A3, rfl, hr, hb⟩
          have RX := Lib.hid hr
          clear hr
          have B3 := bt B2 (Lib.hid hb)
          clear hb B2
          go_wp2_with fail
          refine (ofbool_any 0 1 false A3 none [0] 1 1 0 0 w3 RX.out rfl (Nat.le_refl _) (by unfold maxLen; omega)).mono ?_
          rintro e w4 ⟨rfl, hb⟩
          rw [show obV 0 1 false 0 1 [0] = false from by decide, show obE 0 1 false 0 1 [0] = 0 from by decide]
          have B4 := bt B3 (Lib.hid hb)
          clear hb B3
          go_wp2_with fail
          refine (bool_any true w4).mono ?_
          rintro e w5 ⟨A5, rfl, hr, hb⟩
          have RX := Lib.hid hr
          clear hr
          have B5 := bt B4 (Lib.hid hb)
          clear hb B4
          go_wp2_with fail
          refine (is_ok A5 (some ⟨w5.heap.size, 0, none⟩) [255] 1 1 1 (w5.alloc (.cells (cs8 [255]).toArray 5)) (RX.out.below (bel1 _ _)) (lit_rb w5 [255] (lt_lit rfl)) rfl).mono ?_
          rintro e w6 ⟨rfl, hb0⟩
          have hb := (bel1 w5 (.cells (cs8 [255]).toArray 5)).trans (hb0.mono (bel1 _ _).size)
          have B6 := bt B5 (Lib.hid hb)
          clear hb hb0 B5 RX
          go_wp2_with fail
          refine (bool_any false w6).mono ?_
          rintro e w7 ⟨A7, rfl, hr, hb⟩
          have RX := Lib.hid hr
          clear hr
          have B7 := bt B6 (Lib.hid hb)
          clear hb B6
          go_wp2_with fail
          refine (is_ok A7 (some ⟨w7.heap.size, 0, none⟩) [0] 1 1 1 (w7.alloc (.cells (cs8 [0]).toArray 5)) (RX.out.below (bel1 _ _)) (lit_rb w7 [0] (lt_lit rfl)) rfl).mono ?_
          rintro e w8 ⟨rfl, hb0⟩
          have hb := (bel1 w7 (.cells (cs8 [0]).toArray 5)).trans (hb0.mono (bel1 _ _).size)
          have B8 := bt B7 (Lib.hid hb)
          clear hb hb0 B7 RX
          go_wp2_with fail
          refine (null_any w8).mono ?_
          rintro e w9 ⟨rfl, hb⟩
          have B9 := bt B8 (Lib.hid hb)
          clear hb B8
          go_wp2_with fail
          refine (is_ok none none [] 5 0 0 w9 Rb.nil Rb.nil rfl).mono ?_
          rintro e w10 ⟨rfl, hb⟩
          have B10 := bt B9 (Lib.hid hb)
          clear hb B9
          go_wp2_with fail
          refine (null_any w10).mono ?_
          rintro e w11 ⟨rfl, hb⟩
          have B11 := bt B10 (Lib.hid hb)
          clear hb B10
          go_wp2_with fail
          refine (ofnull_any 0 5 false none none 0 0 0 0 w11).mono ?_
          rintro e w12 ⟨rfl, hb⟩
          rw [show ouE 0 5 false 0 0 = 0 from by decide]
          have B12 := bt B11 (Lib.hid hb)
          clear hb B11
          have hmk := HMK.out w12
          have hbk := Bk.new w12 5 Z
          have HBM := bt B12 (Lib.hid (bel1 w12 (.cells Z.toArray 5)))
          go_wp2_with fail
          obtain ⟨g, hg⟩ : ∃ g, w12.heap.size = g := ⟨_, rfl⟩
          have hgw : w.heap.size ≤ g := by rw [← hg]; exact B12.out.size
          rw [hg] at hbk
          obtain ⟨v0, hv0⟩ : ∃ v0, w12.alloc (.cells Z.toArray 5) = v0 := ⟨_, rfl⟩
          rw [hv0] at hbk HBM ⊢
          rw [← HZ.out] at hbk
          have HBK := Lib.hid hbk
          have HGW := Lib.hid hgw
          rw [hg]
          clear hmk hbk hg hv0 hgw
          go_loopw [9] (fun i wr => ∃ k : Nat, k ≤ 66 ∧ i = .int .i64 (k : Int) ∧ Bk wr g 5 (cs8 (ful k)) ∧ Below w.heap.size w wr) (fun i _ => 66 - (intOf i).toNat)
          case atStart => exact ⟨0, Nat.zero_le _, rfl, HBK.out, HBM.out⟩
          case round =>
            obtain ⟨k, hk, rfl, hB, hbel⟩ := hrel
            have HB := Lib.hid hB
            have HBel := Lib.hid hbel
            have hsz := hB.lt
            have f0 := hB.free k
            by_cases hlt : k < 66
            · have c0 : wr.cell? ⟨g, k, none⟩ = some (.int .u8 0) := by rw [hB.cell]; unfold cs8; rw [List.getElem?_map, ful_at hlt]; rfl
              have HS : Hid (Bk (wr.setCell ⟨g, k, none⟩ (.int .u8 255)) g 5 (cs8 (ful (k + 1)))) := Lib.hid (by have := hB.store k (.int .u8 ((255 : Nat) : Int)); rw [cs8_set, ful_set hlt] at this; exact this)
              clear hB hbel
              go_wp2_with fail
              exact ⟨⟨k + 1, by omega, by go_num, HS.out, HBel.out.setCell (p := ⟨g, k, none⟩) HGW.out _⟩, by simp [intOf]; omega⟩
            · obtain rfl : k = 66 := by omega
              rw [ful_all] at hB
              have c0 : wr.cell? ⟨g, 0, none⟩ = some (.int .u8 255) := by rw [hB.cell]; rfl
              have f00 := hB.free 0
              have HS : Hid (Bk (wr.setCell ⟨g, 0, none⟩ (.int .u8 0)) g 5 (cs8 fulL)) := Lib.hid (by have := hB.store 0 (.int .u8 ((0 : Nat) : Int)); rw [cs8_set] at this; exact this)
              have HBelS := Lib.hid (HBel.out.setCell (p := ⟨g, 0, none⟩) HGW.out (.int .u8 0))
              rw [show ((66 : Nat) : Int) = 66 from rfl]
              clear hB hbel hk hlt f0
              go_upto_region 23 with fail
              obtain ⟨v1, hv1⟩ : ∃ v1, wr.setCell ⟨g, 0, none⟩ (.int .u8 0) = v1 := ⟨_, rfl⟩
              rw [hv1] at HS HBelS ⊢
              have b1 := Below.refl v1.heap.size v1
              have hR0 : Rb v1 (some ⟨g, 0, none⟩) fulL := ⟨by have := HS.out.rd 0; simpa using this, fulL_all⟩
              have hR1 := hR0.take_ 65
              have hR2 := (hR0.drop_ 1).take_ 64
              rw [Nat.zero_add] at hR2
              have H0 := Lib.hid hR0
              have H1 := Lib.hid hR1
              have H2 := Lib.hid hR2
              clear hR0 hR1 hR2 hv1 hsz c0 f00
              refine wp_region_held_drew (S := fun _ => True) (by kernel_rfl) (trivial) (fun hS => ?_)
              refine wpAnyH_take (i := 0) (oi := ⟨some 123, _, _, _, _, _⟩) (v := .slice (some ⟨g, 0, none⟩) 66 66) rfl (by kernel_rfl) (by kernel_rfl) (by kernel_rfl) (fun _ _ _ h => h) (Or.inl ⟨by rfl, fun w hSw => by (try dsimp only at hSw); go_simp⟩) hS ?_
              simp only [Act.put, List.setIfInBounds_toArray, List.set_cons_zero, List.set_cons_succ]
              refine wpAnyH_take (i := 1) (oi := ⟨some 124, _, _, _, _, _⟩) (v := .slice (some ⟨g, 0, none⟩) 65 66) rfl (by kernel_rfl) (by kernel_rfl) (by kernel_rfl) (fun _ _ _ h => h) (Or.inl ⟨by rfl, fun w hSw => by (try dsimp only at hSw); go_simp⟩) hS ?_
              simp only [Act.put, List.setIfInBounds_toArray, List.set_cons_zero, List.set_cons_succ]
              refine wpAnyH_take (i := 2) (oi := ⟨some 125, _, _, _, _, _⟩) (v := .slice (some ⟨g, 0, none⟩) 66 66) rfl (by kernel_rfl) (by kernel_rfl) (by kernel_rfl) (fun _ _ _ h => h) (Or.inl ⟨by rfl, fun w hSw => by (try dsimp only at hSw); go_simp⟩) hS ?_
              simp only [Act.put, List.setIfInBounds_toArray, List.set_cons_zero, List.set_cons_succ]
              refine wpAnyH_take (i := 3) (oi := ⟨some 126, _, _, _, _, _⟩) (v := .slice (some ⟨g, 1, none⟩) 64 65) rfl (by kernel_rfl) (by kernel_rfl) (by kernel_rfl) (fun _ _ _ h => h) (Or.inl ⟨by rfl, fun w hSw => by (try dsimp only at hSw); go_simp⟩) hS ?_
              simp only [Act.put, List.setIfInBounds_toArray, List.set_cons_zero, List.set_cons_succ]
              refine wpAnyH_ready (rs := [4]) (by kernel_rfl) (by simp) ?_
              refine AllReadyH.cons (o := _) rfl (fun K hK => ?_) (AllReadyH.nil)
              go_simp
              refine (natural_ok (some ⟨g, 0, none⟩) (some ⟨g, 1, none⟩) (fulL.take 65) ((fulL.drop 1).take 64) 65 66 64 65 0 _ (H1.out.below b1.drew) (H2.out.below b1.drew) (by decide +kernel) (by decide +kernel) (by omega) (by unfold maxLen; omega) (by omega) (by decide +kernel) (by decide +kernel)).mono ?_
              rintro e x1 ⟨rfl, hb⟩
              have d1 := b1.drew.trans (hb.mono b1.drew.size)
              clear hb
              refine hK.out _ _ (trivial) (fun hS => ?_)
              clear hK K
              (try simp only [Act.put, List.setIfInBounds_toArray, List.set_cons_zero, List.set_cons_succ])
              refine wpAnyH_take (i := 5) (oi := ⟨some 128, _, _, _, _, _⟩) (v := .bool true) rfl (by kernel_rfl) (by kernel_rfl) (by kernel_rfl) (fun _ _ _ h => h) (Or.inl ⟨by rfl, fun w hSw => by (try dsimp only at hSw); go_simp⟩) hS ?_
              simp only [Act.put, List.setIfInBounds_toArray, List.set_cons_zero, List.set_cons_succ]
              refine wpAnyH_take (i := 6) (oi := ⟨some 129, _, _, _, _, _⟩) (v := .slice (some ⟨g, 0, none⟩) 66 66) rfl (by kernel_rfl) (by kernel_rfl) (by kernel_rfl) (fun _ _ _ h => h) (Or.inl ⟨by rfl, fun w hSw => by (try dsimp only at hSw); go_simp⟩) hS ?_
              simp only [Act.put, List.setIfInBounds_toArray, List.set_cons_zero, List.set_cons_succ]
              refine wpAnyH_ready (rs := [7]) (by kernel_rfl) (by simp) ?_
              refine AllReadyH.cons (o := _) rfl (fun K hK => ?_) (AllReadyH.nil)
              go_simp
              refine (natural_ok (some ⟨g, 0, none⟩) none fulL [] 66 66 0 0 3 _ (H0.out.below d1) Rb.nil (by decide +kernel) rfl (by omega) (by unfold maxLen; omega) (by omega) (by decide +kernel) (by decide +kernel)).mono ?_
              rintro e x2 ⟨rfl, hb⟩
              have d2 := d1.trans (hb.mono d1.size)
              clear hb
              refine hK.out _ _ (trivial) (fun hS => ?_)
              clear hK K
              (try simp only [Act.put, List.setIfInBounds_toArray, List.set_cons_zero, List.set_cons_succ])
              refine wpAnyH_take (i := 8) (oi := ⟨some 131, _, _, _, _, _⟩) (v := .bool true) rfl (by kernel_rfl) (by kernel_rfl) (by kernel_rfl) (fun _ _ _ h => h) (Or.inl ⟨by rfl, fun w hSw => by (try dsimp only at hSw); go_simp⟩) hS ?_
              simp only [Act.put, List.setIfInBounds_toArray, List.set_cons_zero, List.set_cons_succ]
              refine wpAnyH_take (i := 9) (oi := ⟨some 132, _, _, _, _, _⟩) (v := .bool true) rfl (by kernel_rfl) (by kernel_rfl) (by kernel_rfl) (fun _ _ _ h => h) (Or.inl ⟨by rfl, fun w hSw => by (try dsimp only at hSw); go_simp⟩) hS ?_
              simp only [Act.put, List.setIfInBounds_toArray, List.set_cons_zero, List.set_cons_succ]
              refine wpAnyH_ready (rs := [10]) (by kernel_rfl) (by simp) ?_
              refine AllReadyH.cons (o := _) rfl (fun K hK => ?_) (AllReadyH.nil)
              go_simp
              refine (ints_walk 9223372036854775807 _ (by omega) (by omega)).mono ?_
              rintro e x3 ⟨rfl, hb⟩
              have d3 := d2.trans (hb.mono d2.size)
              clear hb
              refine hK.out _ _ (trivial) (fun hS => ?_)
              clear hK K
              (try simp only [Act.put, List.setIfInBounds_toArray, List.set_cons_zero, List.set_cons_succ])
              refine wpAnyH_take (i := 11) (oi := ⟨some 134, _, _, _, _, _⟩) (v := .bool true) rfl (by kernel_rfl) (by kernel_rfl) (by kernel_rfl) (fun _ _ _ h => h) (Or.inl ⟨by rfl, fun w hSw => by (try dsimp only at hSw); go_simp⟩) hS ?_
              simp only [Act.put, List.setIfInBounds_toArray, List.set_cons_zero, List.set_cons_succ]
              refine wpAnyH_take (i := 12) (oi := ⟨some 135, _, _, _, _, _⟩) (v := .bool true) rfl (by kernel_rfl) (by kernel_rfl) (by kernel_rfl) (fun _ _ _ h => h) (Or.inl ⟨by rfl, fun w hSw => by (try dsimp only at hSw); go_simp⟩) hS ?_
              simp only [Act.put, List.setIfInBounds_toArray, List.set_cons_zero, List.set_cons_succ]
              refine wpAnyH_ready (rs := [13]) (by kernel_rfl) (by simp) ?_
              refine AllReadyH.cons (o := _) rfl (fun K hK => ?_) (AllReadyH.nil)
              go_simp
              refine (ints_walk (-9223372036854775808) _ (by omega) (by omega)).mono ?_
              rintro e x4 ⟨rfl, hb⟩
              have d4 := d3.trans (hb.mono d3.size)
              clear hb
              refine hK.out _ _ (trivial) (fun hS => ?_)
              clear hK K
              (try simp only [Act.put, List.setIfInBounds_toArray, List.set_cons_zero, List.set_cons_succ])
              refine wpAnyH_take (i := 14) (oi := ⟨some 137, _, _, _, _, _⟩) (v := .bool true) rfl (by kernel_rfl) (by kernel_rfl) (by kernel_rfl) (fun _ _ _ h => h) (Or.inl ⟨by rfl, fun w hSw => by (try dsimp only at hSw); go_simp⟩) hS ?_
              simp only [Act.put, List.setIfInBounds_toArray, List.set_cons_zero, List.set_cons_succ]
              refine wpAnyH_take (i := 15) (oi := ⟨some 138, _, _, _, _, _⟩) (v := .bool true) rfl (by kernel_rfl) (by kernel_rfl) (by kernel_rfl) (fun _ _ _ h => h) (Or.inl ⟨by rfl, fun w hSw => by (try dsimp only at hSw); go_simp⟩) hS ?_
              simp only [Act.put, List.setIfInBounds_toArray, List.set_cons_zero, List.set_cons_succ]
              refine wpAnyH_ready (rs := [16]) (by kernel_rfl) (by simp) ?_
              refine AllReadyH.cons (o := _) rfl (fun K hK => ?_) (AllReadyH.nil)
              go_simp
              refine (lives1 _).mono ?_
              rintro e x5 ⟨rfl, hb⟩
              have d5 := d4.trans (hb.mono d4.size)
              clear hb
              refine hK.out _ _ (trivial) (fun hS => ?_)
              clear hK K
              (try simp only [Act.put, List.setIfInBounds_toArray, List.set_cons_zero, List.set_cons_succ])
              refine wpAnyH_take (i := 17) (oi := ⟨some 140, _, _, _, _, _⟩) (v := .bool true) rfl (by kernel_rfl) (by kernel_rfl) (by kernel_rfl) (fun _ _ _ h => h) (Or.inl ⟨by rfl, fun w hSw => by (try dsimp only at hSw); go_simp⟩) hS ?_
              simp only [Act.put, List.setIfInBounds_toArray, List.set_cons_zero, List.set_cons_succ]
              refine wpAnyH_take (i := 18) (oi := ⟨some 0, _, _, _, _, _⟩) (v := .bool true) rfl (by kernel_rfl) (by kernel_rfl) (by kernel_rfl) (fun _ _ _ h => h) (Or.inl ⟨by rfl, fun w hSw => by (try dsimp only at hSw); go_simp⟩) hS ?_
              simp only [Act.put, List.setIfInBounds_toArray, List.set_cons_zero]
              refine wpAnyH_done (by kernel_rfl) ?_ _
              go_wp2_with fail
              go_ret
              exact ⟨rfl, HBelS.out.trans (d5.mono HBelS.out.size)⟩

open Go.ChangeShapes Go.WideShapes Go.ChangeAt
set_option maxRecDepth 100000 in
theorem scalarsKnown_lifted (os : Os) (started : os.Started) (H : Type) (enc : TypeId × Value → H) :
    ReturnsInHanded {} Try.checked os 7 .any (Rows.scalarsKnownSpec.pre6 enc Try.prog Try.f7 Rows.scalarsKnownRow.domain false) (Rows.scalarsKnownSpec.post enc Try.prog Try.f7 false true false false) := by
  refine returnsInHanded_of_change (C := Try.checked) x_own started (by kernel_rfl) Try.func7
    (ChangeSpec.witness6 (enc := enc) (C := Try.checked) false ⟨#[], #[], []⟩ 8 (by kernel_rfl) (by kernel_rfl) (by kernel_rfl) (by kernel_rfl)) ?_
  intro W base args ds gs before hval0 hW hcnd _
  have hval : ∀ (j : Nat) t v, Try.f7.params[j]? = some t → args[j]? = some v → Value.okWide Try.prog W .any base t v := hval0
  have hW' := hW
  obtain ⟨p, q, hA0, hV, rfl, hfz, hnd⟩ := hW
  have hA : DataW.TrodAll enc Try.prog W 0 (fun _ => true) true Try.f7.params.toList args.toList ds p := hA0
  rw [Try.params7] at hA hval
  obtain ⟨rfl, rfl, rfl⟩ := trodAll_none hA
  obtain ⟨rfl, rfl⟩ := trodVars_none hV
  clear hA0 hval0
  refine (known_walk W).mono fun e W' ⟨he, hb⟩ => ?_
  subst he
  exact ⟨_, rfl, law_post (tb := 4) x_laid (by decide +kernel) rfl rfl (by kernel_rfl) Try.underlying4 hW' hb⟩

/-- The statement. -/
theorem scalarsKnown_holds : Rows.ScalarsKnownSaid :=
  OpenClaim.holds_of_wide 7 Try.f7 rfl rfl rfl rfl rfl rfl rfl ⟨rfl, rfl, rfl, rfl, rfl⟩ rfl rfl rfl rfl rfl (by kernel_rfl) Try.func7 (by kernel_rfl)
    (of_decide_eq_true (by kernel_rfl)) (by unfold Func.isWrapper; first | (rw [if_pos (by decide +kernel)]; kernel_rfl) | (rw [if_neg (by decide +kernel)]; exact ⟨rfl, rfl⟩))
    (fun os started H enc _ => scalarsKnown_lifted os started H enc)
end Go.Proofs.Ytdmbkbgnlmiilaa.Scl
