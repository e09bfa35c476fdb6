/-
  Layer 5: contracts of getNull, value of it, OfNull; of the reference's Wrong; of Nat; of the statements' helpers same, is, integer, natural.
  Conditions: the element's octets read as bytes.
-/
import Derived.Test.YtdmbkbgnlmiilaaSclK
namespace Go.Proofs.Ytdmbkbgnlmiilaa.Scl
open Go.RowKit

def nulE (L : Nat) : Nat := if 0 < L then 11 else 0
theorem getnull_any (A : Option Addr) (L ca : Nat) (w : World) : Calls Try.prog 49 #[.slice A L ca] w fun e w' => e = .returned (.tuple #[.agg #[], .int .i64 ((nulE L : Nat) : Int)]) ∧ Below w.heap.size w w' := by
  have HB := Lib.hid (bel1 w (.cells #[] 80))
  by_cases h : 0 < L
  · rw [show nulE L = 11 from by unfold nulE; rw [if_pos h]]
    have hd : decide ((L : Int) > 0) = true := by simp; omega
    go_enter Try.func49, Try.ntmps49
    go_wp2_with fail
    exact bodyPost_ret (v := .tuple #[.agg #[], .int .i64 11]) (by simp [results, Try.results49, go_sem]) rfl ⟨rfl, HB.out⟩
  · rw [show nulE L = 0 from by unfold nulE; rw [if_neg h]]
    have hd : decide ((L : Int) > 0) = false := by simp; omega
    go_enter Try.func49, Try.ntmps49
    go_wp2_with fail
    exact bodyPost_ret (v := .tuple #[.agg #[], .int .i64 0]) (by simp [results, Try.results49, go_sem]) rfl ⟨rfl, HB.out⟩

set_option maxRecDepth 100000 in
set_option maxHeartbeats 2000000 in
theorem value_null (K : Nat) (c n : Nat) (k : Bool) (A B : Option Addr) (L ca S cb num : Nat)  (f : Nat) (w : World) (hK : ∀ (args : Array Value) (w : World), (callFunc K args).run Try.prog w = .ok (.enter K args) w)
    (h : ∀ w1, Below w.heap.size w w1 → Calls Try.prog K #[.slice A L ca] w1 fun e w' => e = .returned (.tuple #[.agg #[], .int .i64 (f : Int)]) ∧ Below w1.heap.size w1 w') :
    Calls Try.prog 48 #[elV c n k (.slice A L ca) (.slice B S cb), .int .u32 (num : Int), .func (.func K) #[] #[]] w fun e w' =>
      e = .returned (.tuple #[.agg #[], .int .i64 (((if wrg c n k S num = 0 then f else wrg c n k S num) : Nat) : Int)]) ∧ Below w.heap.size w w' := by
  have HH := Lib.hid h
  clear h
  by_cases hc : c = 0
  rotate_left
  · have hw := wrg_9 (S := S) (show ¬ (c = 0 ∧ k = false ∧ n = num) from fun h => hc h.1)
    have hcb : ((c : Int) == 0) = false := by simp; exact hc
    rw [hw]
    clear hc hw
    have hk := ((Bk.new w 34 [.int .u8 (c : Int), .bool k, .int .u32 (n : Int), .slice A L ca, .slice B S cb]).alloc (.cells #[] 80)).alloc (.cells #[] 80)
    have HB0 := Lib.hid (((bel1 w (.cells #[.int .u8 (c : Int), .bool k, .int .u32 (n : Int), .slice A L ca, .slice B S cb] 34)).alloc (by simp) (.cells #[] 80)).alloc (by simp; omega) (.cells #[] 80))
    obtain ⟨W, hW⟩ : ∃ W, ((w.alloc (.cells #[.int .u8 (c : Int), .bool k, .int .u32 (n : Int), .slice A L ca, .slice B S cb] 34)).alloc (.cells #[] 80)).alloc (.cells #[] 80) = W := ⟨_, rfl⟩
    rw [hW] at hk HB0
    show Calls Try.prog 48 #[.agg #[.int .u8 (c : Int), .bool k, .int .u32 (n : Int), .slice A L ca, .slice B S cb], .int .u32 (num : Int), .func (.func K) #[] #[]] w _
    go_enter Try.func48, Try.ntmps48
    go_wp2_with fail
    have HK := Lib.hid hk
    obtain ⟨c0, c1, c2, c3, c4, hsz⟩ := Bk.five hk
    have b1 := Below.refl W.heap.size W
    clear hW hk
    go_region_held3 (fun w' => w'.cell? ⟨w.heap.size, 0, none⟩ = some (.int .u8 (c : Int)) ∧ w'.cell? ⟨w.heap.size, 1, none⟩ = some (.bool k) ∧ w'.cell? ⟨w.heap.size, 2, none⟩ = some (.int .u32 (n : Int)))
      (first | exact ⟨c0, c1, c2⟩ | exact ⟨(hb1.cell (p := ⟨w.heap.size, 0, none⟩) hsz).trans c0, (hb1.cell (p := ⟨w.heap.size, 1, none⟩) hsz).trans c1, (hb1.cell (p := ⟨w.heap.size, 2, none⟩) hsz).trans c2⟩)
      (first | (go_at_call 50; refine (tag_any num _).mono ?_; rintro e w1 ⟨rfl, hb1⟩))
    have HB1 := Lib.hid (b1.drew.trans (hb1.mono b1.drew.size))
    have HK1 := Lib.hid (HK.out.below HB1.out hsz)
    have HB01 := bt HB0 HB1
    obtain ⟨d0, d1, d2, d3, d4, hsz1⟩ := Bk.five HK1.out
    clear hb1 b1 c0 c1 c2 c3 c4
    go_wp2_with fail
    exact bodyPost_ret (v := .tuple #[.agg #[], .int .i64 9]) (by simp [results, Try.results48, go_sem]) rfl ⟨rfl, HB01.out⟩
  subst hc
  cases k with
  | true =>
    rw [wrg_9 (S := S) (show ¬ (0 = 0 ∧ true = false ∧ n = num) by simp)]
    have hk := ((Bk.new w 34 [.int .u8 0, .bool true, .int .u32 (n : Int), .slice A L ca, .slice B S cb]).alloc (.cells #[] 80)).alloc (.cells #[] 80)
    have HB0 := Lib.hid (((bel1 w (.cells #[.int .u8 0, .bool true, .int .u32 (n : Int), .slice A L ca, .slice B S cb] 34)).alloc (by simp) (.cells #[] 80)).alloc (by simp; omega) (.cells #[] 80))
    obtain ⟨W, hW⟩ : ∃ W, ((w.alloc (.cells #[.int .u8 0, .bool true, .int .u32 (n : Int), .slice A L ca, .slice B S cb] 34)).alloc (.cells #[] 80)).alloc (.cells #[] 80) = W := ⟨_, rfl⟩
    rw [hW] at hk HB0
    show Calls Try.prog 48 #[.agg #[.int .u8 0, .bool true, .int .u32 (n : Int), .slice A L ca, .slice B S cb], .int .u32 (num : Int), .func (.func K) #[] #[]] w _
    go_enter Try.func48, Try.ntmps48
    go_wp2_with fail
    have HK := Lib.hid hk
    obtain ⟨c0, c1, c2, c3, c4, hsz⟩ := Bk.five hk
    have b1 := Below.refl W.heap.size W
    clear hW hk
    go_region_held3 (fun w' => w'.cell? ⟨w.heap.size, 0, none⟩ = some (.int .u8 0) ∧ w'.cell? ⟨w.heap.size, 1, none⟩ = some (.bool true) ∧ w'.cell? ⟨w.heap.size, 2, none⟩ = some (.int .u32 (n : Int)))
      (first | exact ⟨c0, c1, c2⟩ | exact ⟨(hb1.cell (p := ⟨w.heap.size, 0, none⟩) hsz).trans c0, (hb1.cell (p := ⟨w.heap.size, 1, none⟩) hsz).trans c1, (hb1.cell (p := ⟨w.heap.size, 2, none⟩) hsz).trans c2⟩)
      (first | (go_at_call 50; refine (tag_any num _).mono ?_; rintro e w1 ⟨rfl, hb1⟩))
    have HB1 := Lib.hid (b1.drew.trans (hb1.mono b1.drew.size))
    have HK1 := Lib.hid (HK.out.below HB1.out hsz)
    have HB01 := bt HB0 HB1
    obtain ⟨d0, d1, d2, d3, d4, hsz1⟩ := Bk.five HK1.out
    clear hb1 b1 c0 c1 c2 c3 c4
    go_wp2_with fail
    exact bodyPost_ret (v := .tuple #[.agg #[], .int .i64 9]) (by simp [results, Try.results48, go_sem]) rfl ⟨rfl, HB01.out⟩
  | false =>
    by_cases hn : n = num
    rotate_left
    · have hw := wrg_9 (c := 0) (k := false) (S := S) (show ¬ (0 = 0 ∧ false = false ∧ n = num) from fun h => hn h.2.2)
      have hcb : ((n : Int) == (num : Int)) = false := by simp; omega
      rw [hw]
      clear hn hw
      have hk := ((Bk.new w 34 [.int .u8 0, .bool false, .int .u32 (n : Int), .slice A L ca, .slice B S cb]).alloc (.cells #[] 80)).alloc (.cells #[] 80)
      have HB0 := Lib.hid (((bel1 w (.cells #[.int .u8 0, .bool false, .int .u32 (n : Int), .slice A L ca, .slice B S cb] 34)).alloc (by simp) (.cells #[] 80)).alloc (by simp; omega) (.cells #[] 80))
      obtain ⟨W, hW⟩ : ∃ W, ((w.alloc (.cells #[.int .u8 0, .bool false, .int .u32 (n : Int), .slice A L ca, .slice B S cb] 34)).alloc (.cells #[] 80)).alloc (.cells #[] 80) = W := ⟨_, rfl⟩
      rw [hW] at hk HB0
      show Calls Try.prog 48 #[.agg #[.int .u8 0, .bool false, .int .u32 (n : Int), .slice A L ca, .slice B S cb], .int .u32 (num : Int), .func (.func K) #[] #[]] w _
      go_enter Try.func48, Try.ntmps48
      go_wp2_with fail
      have HK := Lib.hid hk
      obtain ⟨c0, c1, c2, c3, c4, hsz⟩ := Bk.five hk
      have b1 := Below.refl W.heap.size W
      clear hW hk
      go_region_held3 (fun w' => w'.cell? ⟨w.heap.size, 0, none⟩ = some (.int .u8 0) ∧ w'.cell? ⟨w.heap.size, 1, none⟩ = some (.bool false) ∧ w'.cell? ⟨w.heap.size, 2, none⟩ = some (.int .u32 (n : Int)))
        (first | exact ⟨c0, c1, c2⟩ | exact ⟨(hb1.cell (p := ⟨w.heap.size, 0, none⟩) hsz).trans c0, (hb1.cell (p := ⟨w.heap.size, 1, none⟩) hsz).trans c1, (hb1.cell (p := ⟨w.heap.size, 2, none⟩) hsz).trans c2⟩)
        (first | (go_at_call 50; refine (tag_any num _).mono ?_; rintro e w1 ⟨rfl, hb1⟩))
      have HB1 := Lib.hid (b1.drew.trans (hb1.mono b1.drew.size))
      have HK1 := Lib.hid (HK.out.below HB1.out hsz)
      have HB01 := bt HB0 HB1
      obtain ⟨d0, d1, d2, d3, d4, hsz1⟩ := Bk.five HK1.out
      clear hb1 b1 c0 c1 c2 c3 c4
      go_wp2_with fail
      exact bodyPost_ret (v := .tuple #[.agg #[], .int .i64 9]) (by simp [results, Try.results48, go_sem]) rfl ⟨rfl, HB01.out⟩
    subst hn
    by_cases hS : 0 < S
    · rw [wrg_1 hS]
      have hSb : decide ((S : Int) > 0) = true := by simp; omega
      have hk := ((Bk.new w 34 [.int .u8 0, .bool false, .int .u32 (n : Int), .slice A L ca, .slice B S cb]).alloc (.cells #[] 80)).alloc (.cells #[] 80)
      have HB0 := Lib.hid (((bel1 w (.cells #[.int .u8 0, .bool false, .int .u32 (n : Int), .slice A L ca, .slice B S cb] 34)).alloc (by simp) (.cells #[] 80)).alloc (by simp; omega) (.cells #[] 80))
      obtain ⟨W, hW⟩ : ∃ W, ((w.alloc (.cells #[.int .u8 0, .bool false, .int .u32 (n : Int), .slice A L ca, .slice B S cb] 34)).alloc (.cells #[] 80)).alloc (.cells #[] 80) = W := ⟨_, rfl⟩
      rw [hW] at hk HB0
      show Calls Try.prog 48 #[.agg #[.int .u8 0, .bool false, .int .u32 (n : Int), .slice A L ca, .slice B S cb], .int .u32 (n : Int), .func (.func K) #[] #[]] w _
      go_enter Try.func48, Try.ntmps48
      go_wp2_with fail
      have HK := Lib.hid hk
      obtain ⟨c0, c1, c2, c3, c4, hsz⟩ := Bk.five hk
      have b1 := Below.refl W.heap.size W
      clear hW hk
      go_region_held3 (fun w' => w'.cell? ⟨w.heap.size, 0, none⟩ = some (.int .u8 0) ∧ w'.cell? ⟨w.heap.size, 1, none⟩ = some (.bool false) ∧ w'.cell? ⟨w.heap.size, 2, none⟩ = some (.int .u32 (n : Int)))
        (first | exact ⟨c0, c1, c2⟩ | exact ⟨(hb1.cell (p := ⟨w.heap.size, 0, none⟩) hsz).trans c0, (hb1.cell (p := ⟨w.heap.size, 1, none⟩) hsz).trans c1, (hb1.cell (p := ⟨w.heap.size, 2, none⟩) hsz).trans c2⟩)
        (first | (go_at_call 50; refine (tag_any n _).mono ?_; rintro e w1 ⟨rfl, hb1⟩))
      have HB1 := Lib.hid (b1.drew.trans (hb1.mono b1.drew.size))
      have HK1 := Lib.hid (HK.out.below HB1.out hsz)
      have HB01 := bt HB0 HB1
      obtain ⟨d0, d1, d2, d3, d4, hsz1⟩ := Bk.five HK1.out
      clear hb1 b1 c0 c1 c2 c3 c4
      go_wp2_with fail
      exact bodyPost_ret (v := .tuple #[.agg #[], .int .i64 1]) (by simp [results, Try.results48, go_sem]) rfl ⟨rfl, HB01.out⟩
    · rw [wrg_0 hS]
      have hSb : decide ((S : Int) > 0) = false := by simp; omega
      have hk := ((Bk.new w 34 [.int .u8 0, .bool false, .int .u32 (n : Int), .slice A L ca, .slice B S cb]).alloc (.cells #[] 80)).alloc (.cells #[] 80)
      have HB0 := Lib.hid (((bel1 w (.cells #[.int .u8 0, .bool false, .int .u32 (n : Int), .slice A L ca, .slice B S cb] 34)).alloc (by simp) (.cells #[] 80)).alloc (by simp; omega) (.cells #[] 80))
      obtain ⟨W, hW⟩ : ∃ W, ((w.alloc (.cells #[.int .u8 0, .bool false, .int .u32 (n : Int), .slice A L ca, .slice B S cb] 34)).alloc (.cells #[] 80)).alloc (.cells #[] 80) = W := ⟨_, rfl⟩
      rw [hW] at hk HB0
      show Calls Try.prog 48 #[.agg #[.int .u8 0, .bool false, .int .u32 (n : Int), .slice A L ca, .slice B S cb], .int .u32 (n : Int), .func (.func K) #[] #[]] w _
      go_enter Try.func48, Try.ntmps48
      go_wp2_with fail
      have HK := Lib.hid hk
      obtain ⟨c0, c1, c2, c3, c4, hsz⟩ := Bk.five hk
      have b1 := Below.refl W.heap.size W
      clear hW hk
      go_region_held3 (fun w' => w'.cell? ⟨w.heap.size, 0, none⟩ = some (.int .u8 0) ∧ w'.cell? ⟨w.heap.size, 1, none⟩ = some (.bool false) ∧ w'.cell? ⟨w.heap.size, 2, none⟩ = some (.int .u32 (n : Int)))
        (first | exact ⟨c0, c1, c2⟩ | exact ⟨(hb1.cell (p := ⟨w.heap.size, 0, none⟩) hsz).trans c0, (hb1.cell (p := ⟨w.heap.size, 1, none⟩) hsz).trans c1, (hb1.cell (p := ⟨w.heap.size, 2, none⟩) hsz).trans c2⟩)
        (first | (go_at_call 50; refine (tag_any n _).mono ?_; rintro e w1 ⟨rfl, hb1⟩))
      have HB1 := Lib.hid (b1.drew.trans (hb1.mono b1.drew.size))
      have HK1 := Lib.hid (HK.out.below HB1.out hsz)
      have HB01 := bt HB0 HB1
      obtain ⟨d0, d1, d2, d3, d4, hsz1⟩ := Bk.five HK1.out
      clear hb1 b1 c0 c1 c2 c3 c4
      go_wp2_with fail
      refine (HH.out _ HB01.out).mono ?_
      rintro e w2 ⟨rfl, hb⟩
      have HB2 := bt HB01 (Lib.hid hb)
      clear hb
      go_wp2_with fail
      exact bodyPost_ret (v := .tuple #[.agg #[], .int .i64 (f : Int)]) (by simp [results, Try.results48, go_sem]) rfl ⟨rfl, HB2.out⟩

def ouE (c n : Nat) (k : Bool) (S L : Nat) : Nat := if wrg c n k S 5 = 0 then nulE L else wrg c n k S 5
set_option maxRecDepth 100000 in
set_option maxHeartbeats 2000000 in
theorem ofnull_any (c n : Nat) (k : Bool) (A B : Option Addr) (L ca S cb : Nat) (w : World) :
    Calls Try.prog 32 #[elV c n k (.slice A L ca) (.slice B S cb)] w fun e w' => e = .returned (.int .i64 ((ouE c n k S L : Nat) : Int)) ∧ Below w.heap.size w w' := by
  obtain ⟨c0, c1, c2, c3, c4, hsz⟩ := Bk.five (box5 w c n k (.slice A L ca) (.slice B S cb))
  have HB0 := Lib.hid (bel1 w (.cells #[.int .u8 (c : Int), .bool k, .int .u32 (n : Int), .slice A L ca, .slice B S cb] 34))
  have HV0 : Calls Try.prog 48 #[elV c n k (.slice A L ca) (.slice B S cb), .int .u32 ((5 : Nat) : Int), .func (.func 49) #[] #[]] (w.alloc (.cells #[.int .u8 (c : Int), .bool k, .int .u32 (n : Int), .slice A L ca, .slice B S cb] 34)) fun e w' => e = .returned (.tuple #[.agg #[], .int .i64 ((ouE c n k S L : Nat) : Int)]) ∧ Below (w.alloc (.cells #[.int .u8 (c : Int), .bool k, .int .u32 (n : Int), .slice A L ca, .slice B S cb] 34)).heap.size (w.alloc (.cells #[.int .u8 (c : Int), .bool k, .int .u32 (n : Int), .slice A L ca, .slice B S cb] 34)) w' :=
    value_null 49 c n k A B L ca S cb 5 (nulE L) (w.alloc (.cells #[.int .u8 (c : Int), .bool k, .int .u32 (n : Int), .slice A L ca, .slice B S cb] 34)) (fun _ _ => rfl) (fun w1 _ => getnull_any A L ca w1)
  obtain ⟨f, hf⟩ : ∃ f, ouE c n k S L = f := ⟨_, rfl⟩
  rw [hf] at HV0
  rw [hf]
  have HV := Lib.hid HV0
  clear HV0 hf
  go_enter Try.func32, Try.ntmps32
  go_wp2_with fail
  refine HV.out.mono ?_
  rintro e w1 ⟨rfl, hb⟩
  have HB1 := bt HB0 (Lib.hid hb)
  have HB2 := bt HB1 (Lib.hid (bel1 w1 (.cells #[] 80)))
  clear hb
  go_wp2_with fail
  go_ret
  exact ⟨rfl, HB2.out⟩

set_option maxRecDepth 100000 in
set_option maxHeartbeats 2000000 in
theorem wrong_any (c n : Nat) (k : Bool) (A B : Option Addr) (L ca S cb num : Nat) (w : World) :
    Calls Try.prog 31 #[elV c n k (.slice A L ca) (.slice B S cb), .int .u32 (num : Int)] w fun e w' => e = .returned (.int .i64 ((wrg c n k S num : Nat) : Int)) ∧ Below w.heap.size w w' := by
  by_cases hc : c = 0
  rotate_left
  · rw [wrg_9 (S := S) (show ¬ (c = 0 ∧ k = false ∧ n = num) from fun h => hc h.1)]
    have hcb : ((c : Int) == 0) = false := by simp; exact hc
    clear hc
    show Calls Try.prog 31 #[.agg #[.int .u8 (c : Int), .bool k, .int .u32 (n : Int), .slice A L ca, .slice B S cb], .int .u32 (num : Int)] w _
    go_enter Try.func31, Try.ntmps31
    go_wp2_with fail
    go_ret
    exact ⟨rfl, bel2 _ _ _⟩
  subst hc
  cases k with
  | true =>
    rw [wrg_9 (S := S) (show ¬ (0 = 0 ∧ true = false ∧ n = num) by simp)]
    show Calls Try.prog 31 #[.agg #[.int .u8 0, .bool true, .int .u32 (n : Int), .slice A L ca, .slice B S cb], .int .u32 (num : Int)] w _
    go_enter Try.func31, Try.ntmps31
    go_wp2_with fail
    go_ret
    exact ⟨rfl, bel2 _ _ _⟩
  | false =>
    by_cases hn : n = num
    rotate_left
    · have hw := wrg_9 (c := 0) (k := false) (S := S) (show ¬ (0 = 0 ∧ false = false ∧ n = num) from fun h => hn h.2.2)
      have hcb : ((n : Int) == (num : Int)) = false := by simp; omega
      rw [hw]
      clear hn hw
      show Calls Try.prog 31 #[.agg #[.int .u8 0, .bool false, .int .u32 (n : Int), .slice A L ca, .slice B S cb], .int .u32 (num : Int)] w _
      go_enter Try.func31, Try.ntmps31
      go_wp2_with fail
      go_ret
      exact ⟨rfl, bel2 _ _ _⟩
    subst hn
    by_cases hS : 0 < S
    · rw [wrg_1 hS]
      have hSb : decide ((S : Int) > 0) = true := by simp; omega
      show Calls Try.prog 31 #[.agg #[.int .u8 0, .bool false, .int .u32 (n : Int), .slice A L ca, .slice B S cb], .int .u32 (n : Int)] w _
      go_enter Try.func31, Try.ntmps31
      go_wp2_with fail
      go_ret
      exact ⟨rfl, bel2 _ _ _⟩
    · rw [wrg_0 hS]
      have hSb : decide ((S : Int) > 0) = false := by simp; omega
      show Calls Try.prog 31 #[.agg #[.int .u8 0, .bool false, .int .u32 (n : Int), .slice A L ca, .slice B S cb], .int .u32 (n : Int)] w _
      go_enter Try.func31, Try.ntmps31
      go_wp2_with fail
      go_ret
      exact ⟨rfl, bel2 _ _ _⟩

/-! The statements' helpers. -/
set_option maxRecDepth 100000 in
set_option maxHeartbeats 400000 in
theorem same_ok (A B : Option Addr) (l : List Nat) (c N f : Nat) (w : World) (hA : Rb w A l) (hB : Rb w B l) (hN : l.length = N) :
    Calls Try.prog 10 #[.slice A N N, .int .i64 (f : Int), .slice B N c, .int .i64 (f : Int)] w fun e w' => e = .returned (.bool true) ∧ w = w' := by
  have s0 := run_str8 hA N
  have s1 := run_str8 hB c
  rw [hN] at s0 s1
  clear hA hB hN
  generalize bstr l = S at *
  go_enter Try.func10, Try.ntmps10
  go_wp2_with fail
  go_ret
  exact ⟨by simp, rfl⟩
set_option maxRecDepth 100000 in
set_option maxHeartbeats 400000 in
theorem integer_ok (A : Option Addr) (l : List Nat) (N c : Nat) (z : Int) (f : Nat) (w : World) (h : Rb w A l) (hN : l.length = N) (hc : N ≤ c) (hm : c ≤ maxLen) (hz : giV l = z) (hf : giE l = f) :
    Calls Try.prog 11 #[.slice A N c, .int .i64 z, .int .i64 (f : Int)] w fun e w' => e = .returned (.bool true) ∧ Below w.heap.size w w' := by
  have H := gint_any A l N c w h hN hc hm
  rw [hz, hf] at H
  have HH := Lib.hid H
  clear H hz hf h hN
  go_enter Try.func11, Try.ntmps11
  go_wp2_with fail
  refine HH.out.mono ?_
  rintro e w1 ⟨rfl, hb⟩
  have HB := Lib.hid hb
  clear hb HH
  go_wp2_with fail
  go_ret
  exact ⟨by simp, HB.out⟩
set_option maxRecDepth 100000 in
set_option maxHeartbeats 400000 in
theorem natural_ok (A B : Option Addr) (l m : List Nat) (N c M d f : Nat) (w : World) (h : Rb w A l) (hB : Rb w B m) (hN : l.length = N) (hM : m.length = M) (hc : N ≤ c) (hm : c ≤ maxLen) (hn : N ≤ 1000) (hz : gnL l = m) (hf : gnE l = f) :
    Calls Try.prog 23 #[.slice A N c, .slice B M d, .int .i64 (f : Int)] w fun e w' => e = .returned (.bool true) ∧ Below w.heap.size w w' := by
  have H := gnat_any A l N c w h hN hc hm hn
  unfold GiveF at H
  rw [hz, hf, hM] at H
  have HH := Lib.hid H
  have HB := Lib.hid hB
  have HM := Lib.hid hM
  clear H hz hf h hN hB hM
  go_enter Try.func23, Try.ntmps23
  go_wp2_with fail
  refine HH.out.mono ?_
  rintro e w1 ⟨A', rfl, hr, hb⟩
  have HR := Lib.hid hr
  have HB1 := Lib.hid hb
  have HBr := Lib.hid (HB.out.below hb)
  clear hb hr HH
  go_wp2_with fail
  refine (same_ok A' B m d M f w1 HR.out HBr.out HM.out).mono ?_
  rintro e w2 ⟨rfl, rfl⟩
  go_wp2_with fail
  go_ret
  exact ⟨rfl, HB1.out⟩
set_option maxRecDepth 100000 in
set_option maxHeartbeats 800000 in
theorem is_ok (A B : Option Addr) (l : List Nat) (num N d : Nat) (w : World) (hA : Rb w A l) (hB : Rb w B l) (hN : l.length = N) :
    Calls Try.prog 12 #[elV 0 num false (.slice A N N) (.slice none 0 0), .int .u32 (num : Int), .slice B N d] w fun e w' => e = .returned (.bool true) ∧ Below w.heap.size w w' := by
  have HB0 := Lib.hid (bel2 w (.cells #[.int .u8 0, .bool false, .int .u32 (num : Int), .slice A N N, .slice none 0 0] 34) (.cells #[.int .u8 0, .bool false, .int .u32 (num : Int)] 31))
  have HS := Lib.hid (same_ok A B l d N 0 ((w.alloc (.cells #[.int .u8 0, .bool false, .int .u32 (num : Int), .slice A N N, .slice none 0 0] 34)).alloc (.cells #[.int .u8 0, .bool false, .int .u32 (num : Int)] 31)) (hA.below HB0.out) (hB.below HB0.out) hN)
  clear hA hB hN
  show Calls Try.prog 12 #[.agg #[.int .u8 0, .bool false, .int .u32 (num : Int), .slice A N N, .slice none 0 0], .int .u32 (num : Int), .slice B N d] w _
  go_enter Try.func12, Try.ntmps12
  go_wp2_with fail
  refine HS.out.mono ?_
  rintro e w2 ⟨rfl, rfl⟩
  go_wp2_with fail
  go_ret
  exact ⟨rfl, HB0.out⟩
end Go.Proofs.Ytdmbkbgnlmiilaa.Scl
