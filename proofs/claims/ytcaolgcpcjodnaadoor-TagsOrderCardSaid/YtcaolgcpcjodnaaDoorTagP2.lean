/-
  Layer 2, the statement TagsOrder: Compare is the order of the definition; it is 0 for equal tags only.
  Conditions: the package-level variables that the row lists hold what the program's text lays (the card ties them).
-/
import Derived.Test.YtcaolgcpcjodnaaDoorTagR
namespace Go.Proofs.YtcaolgcpcjodnaaDoor
open Go.RowKit

theorem bel2 (w : World) (o o' : Obj) : Below w.heap.size w ((w.alloc o).alloc o') := (bel1 w o).alloc (by simp) _
theorem two_box (w : World) (o : Obj) (a b c : Value) : Hid (Bk ((w.alloc o).alloc (.cells #[a, b, c] 25)) (w.heap.size + 1) 25 [a, b, c]) := by
  have h := Bk.new (w.alloc o) 25 [a, b, c]
  rw [World.size_alloc] at h
  exact Lib.hid h
set_option maxHeartbeats 2000000 in
set_option maxRecDepth 100000 in
theorem order_walk (c n : Nat) (k : Bool) (c' n' : Nat) (k' : Bool) (w : World) (hE : Env w) :
    Calls Tryd.prog 7 #[tagV c n k, tagV c' n' k'] w fun e w' => e = .returned (.bool true) ∧ Below w.heap.size w w' := by
  rcases Nat.lt_trichotomy c c' with h | rfl | h
  · have HX := Lib.hid (show cmpT c n k c' n' k' = -1 by unfold cmpT; rw [cmpN_lt h]; rfl)
    have HY := Lib.hid (show cmpT c' n' k' c n k = 1 by unfold cmpT; rw [cmpN_gt h]; rfl)
    have hq : ((c : Int) == (c' : Int)) = false := by rw [beq_eq_false_iff_ne]; omega
    have hq' : ((c' : Int) == (c : Int)) = false := by rw [beq_eq_false_iff_ne]; omega
    have E0 := Lib.hid hE
    clear hE
    have S0 := Lib.hid ((Bk.new w 25 [.int .u8 (c : Int), .bool k, .int .u32 (n : Int)]).alloc (.cells #[.int .u8 (c' : Int), .bool k', .int .u32 (n' : Int)] 25))
    have T0 := two_box w (.cells #[.int .u8 (c : Int), .bool k, .int .u32 (n : Int)] 25) (.int .u8 (c' : Int)) (.bool k') (.int .u32 (n' : Int))
    have B0 := Lib.hid (bel2 w (.cells #[.int .u8 (c : Int), .bool k, .int .u32 (n : Int)] 25) (.cells #[.int .u8 (c' : Int), .bool k', .int .u32 (n' : Int)] 25))
    go_enter Tryd.func7, Tryd.ntmps7
    go_wp2_with fail
    refine (compare_any c n k c' n' k' _).mono ?_
    rw [HX.out]
    rintro e w1 ⟨rfl, hb⟩
    have B1 := bt B0 (Lib.hid hb)
    have S1 := kt S0 (Lib.hid hb)
    have T1 := kt T0 (Lib.hid hb)
    clear B0 S0 T0 hb
    obtain ⟨s0, s1, s2, hsz⟩ := tag3 S1
    obtain ⟨t0, t1, t2, htz⟩ := tag3 T1
    go_wp2_with fail
    refine (compare_any c' n' k' c n k _).mono ?_
    rw [HY.out]
    rintro e w2 ⟨rfl, hb⟩
    have B2 := bt B1 (Lib.hid hb)
    have S2 := kt S1 (Lib.hid hb)
    have T2 := kt T1 (Lib.hid hb)
    clear B1 S1 T1 hb s0 s1 s2 hsz t0 t1 t2 htz
    obtain ⟨s0, s1, s2, hsz⟩ := tag3 S2
    obtain ⟨t0, t1, t2, htz⟩ := tag3 T2
    go_wp2_with fail
    refine (lives_any _ (E0.out.below B2.out)).mono ?_
    rintro e w3 ⟨rfl, hb⟩
    have B3 := bt B2 (Lib.hid hb)
    clear B2 hb
    go_wp2_with fail
    go_ret
    exact ⟨rfl, B3.out⟩
  · rcases Nat.lt_trichotomy n n' with h | rfl | h
    · have HX := Lib.hid (show cmpT c n k c n' k' = -1 by unfold cmpT; rw [cmpN_eq, cmpN_lt h]; rfl)
      have HY := Lib.hid (show cmpT c n' k' c n k = 1 by unfold cmpT; rw [cmpN_eq, cmpN_gt h]; rfl)
      have hq : ((n : Int) == (n' : Int)) = false := by rw [beq_eq_false_iff_ne]; omega
      have hq' : ((n' : Int) == (n : Int)) = false := by rw [beq_eq_false_iff_ne]; omega
      have E0 := Lib.hid hE
      clear hE
      have S0 := Lib.hid ((Bk.new w 25 [.int .u8 (c : Int), .bool k, .int .u32 (n : Int)]).alloc (.cells #[.int .u8 (c : Int), .bool k', .int .u32 (n' : Int)] 25))
      have T0 := two_box w (.cells #[.int .u8 (c : Int), .bool k, .int .u32 (n : Int)] 25) (.int .u8 (c : Int)) (.bool k') (.int .u32 (n' : Int))
      have B0 := Lib.hid (bel2 w (.cells #[.int .u8 (c : Int), .bool k, .int .u32 (n : Int)] 25) (.cells #[.int .u8 (c : Int), .bool k', .int .u32 (n' : Int)] 25))
      go_enter Tryd.func7, Tryd.ntmps7
      go_wp2_with fail
      refine (compare_any c n k c n' k' _).mono ?_
      rw [HX.out]
      rintro e w1 ⟨rfl, hb⟩
      have B1 := bt B0 (Lib.hid hb)
      have S1 := kt S0 (Lib.hid hb)
      have T1 := kt T0 (Lib.hid hb)
      clear B0 S0 T0 hb
      obtain ⟨s0, s1, s2, hsz⟩ := tag3 S1
      obtain ⟨t0, t1, t2, htz⟩ := tag3 T1
      go_wp2_with fail
      refine (compare_any c n' k' c n k _).mono ?_
      rw [HY.out]
      rintro e w2 ⟨rfl, hb⟩
      have B2 := bt B1 (Lib.hid hb)
      have S2 := kt S1 (Lib.hid hb)
      have T2 := kt T1 (Lib.hid hb)
      clear B1 S1 T1 hb s0 s1 s2 hsz t0 t1 t2 htz
      obtain ⟨s0, s1, s2, hsz⟩ := tag3 S2
      obtain ⟨t0, t1, t2, htz⟩ := tag3 T2
      go_wp2_with fail
      refine (lives_any _ (E0.out.below B2.out)).mono ?_
      rintro e w3 ⟨rfl, hb⟩
      have B3 := bt B2 (Lib.hid hb)
      clear B2 hb
      go_wp2_with fail
      go_ret
      exact ⟨rfl, B3.out⟩
    · cases k <;> cases k'
      · have HX := Lib.hid (show cmpT c n false c n false = 0 by unfold cmpT; rw [cmpN_eq, cmpN_eq]; rfl)
        have HY := Lib.hid (show cmpT c n false c n false = 0 by unfold cmpT; rw [cmpN_eq, cmpN_eq]; rfl)
        have E0 := Lib.hid hE
        clear hE
        have S0 := Lib.hid ((Bk.new w 25 [.int .u8 (c : Int), .bool false, .int .u32 (n : Int)]).alloc (.cells #[.int .u8 (c : Int), .bool false, .int .u32 (n : Int)] 25))
        have T0 := two_box w (.cells #[.int .u8 (c : Int), .bool false, .int .u32 (n : Int)] 25) (.int .u8 (c : Int)) (.bool false) (.int .u32 (n : Int))
        have B0 := Lib.hid (bel2 w (.cells #[.int .u8 (c : Int), .bool false, .int .u32 (n : Int)] 25) (.cells #[.int .u8 (c : Int), .bool false, .int .u32 (n : Int)] 25))
        go_enter Tryd.func7, Tryd.ntmps7
        go_wp2_with fail
        refine (compare_any c n false c n false _).mono ?_
        rw [HX.out]
        rintro e w1 ⟨rfl, hb⟩
        have B1 := bt B0 (Lib.hid hb)
        have S1 := kt S0 (Lib.hid hb)
        have T1 := kt T0 (Lib.hid hb)
        clear B0 S0 T0 hb
        obtain ⟨s0, s1, s2, hsz⟩ := tag3 S1
        obtain ⟨t0, t1, t2, htz⟩ := tag3 T1
        go_wp2_with fail
        refine (compare_any c n false c n false _).mono ?_
        rw [HY.out]
        rintro e w2 ⟨rfl, hb⟩
        have B2 := bt B1 (Lib.hid hb)
        have S2 := kt S1 (Lib.hid hb)
        have T2 := kt T1 (Lib.hid hb)
        clear B1 S1 T1 hb s0 s1 s2 hsz t0 t1 t2 htz
        obtain ⟨s0, s1, s2, hsz⟩ := tag3 S2
        obtain ⟨t0, t1, t2, htz⟩ := tag3 T2
        go_wp2_with fail
        refine (lives_any _ (E0.out.below B2.out)).mono ?_
        rintro e w3 ⟨rfl, hb⟩
        have B3 := bt B2 (Lib.hid hb)
        clear B2 hb
        go_wp2_with fail
        go_ret
        exact ⟨rfl, B3.out⟩
      · have HX := Lib.hid (show cmpT c n false c n true = -1 by unfold cmpT; rw [cmpN_eq, cmpN_eq]; rfl)
        have HY := Lib.hid (show cmpT c n true c n false = 1 by unfold cmpT; rw [cmpN_eq, cmpN_eq]; rfl)
        have E0 := Lib.hid hE
        clear hE
        have S0 := Lib.hid ((Bk.new w 25 [.int .u8 (c : Int), .bool false, .int .u32 (n : Int)]).alloc (.cells #[.int .u8 (c : Int), .bool true, .int .u32 (n : Int)] 25))
        have T0 := two_box w (.cells #[.int .u8 (c : Int), .bool false, .int .u32 (n : Int)] 25) (.int .u8 (c : Int)) (.bool true) (.int .u32 (n : Int))
        have B0 := Lib.hid (bel2 w (.cells #[.int .u8 (c : Int), .bool false, .int .u32 (n : Int)] 25) (.cells #[.int .u8 (c : Int), .bool true, .int .u32 (n : Int)] 25))
        go_enter Tryd.func7, Tryd.ntmps7
        go_wp2_with fail
        refine (compare_any c n false c n true _).mono ?_
        rw [HX.out]
        rintro e w1 ⟨rfl, hb⟩
        have B1 := bt B0 (Lib.hid hb)
        have S1 := kt S0 (Lib.hid hb)
        have T1 := kt T0 (Lib.hid hb)
        clear B0 S0 T0 hb
        obtain ⟨s0, s1, s2, hsz⟩ := tag3 S1
        obtain ⟨t0, t1, t2, htz⟩ := tag3 T1
        go_wp2_with fail
        refine (compare_any c n true c n false _).mono ?_
        rw [HY.out]
        rintro e w2 ⟨rfl, hb⟩
        have B2 := bt B1 (Lib.hid hb)
        have S2 := kt S1 (Lib.hid hb)
        have T2 := kt T1 (Lib.hid hb)
        clear B1 S1 T1 hb s0 s1 s2 hsz t0 t1 t2 htz
        obtain ⟨s0, s1, s2, hsz⟩ := tag3 S2
        obtain ⟨t0, t1, t2, htz⟩ := tag3 T2
        go_wp2_with fail
        refine (lives_any _ (E0.out.below B2.out)).mono ?_
        rintro e w3 ⟨rfl, hb⟩
        have B3 := bt B2 (Lib.hid hb)
        clear B2 hb
        go_wp2_with fail
        go_ret
        exact ⟨rfl, B3.out⟩
      · have HX := Lib.hid (show cmpT c n true c n false = 1 by unfold cmpT; rw [cmpN_eq, cmpN_eq]; rfl)
        have HY := Lib.hid (show cmpT c n false c n true = -1 by unfold cmpT; rw [cmpN_eq, cmpN_eq]; rfl)
        have E0 := Lib.hid hE
        clear hE
        have S0 := Lib.hid ((Bk.new w 25 [.int .u8 (c : Int), .bool true, .int .u32 (n : Int)]).alloc (.cells #[.int .u8 (c : Int), .bool false, .int .u32 (n : Int)] 25))
        have T0 := two_box w (.cells #[.int .u8 (c : Int), .bool true, .int .u32 (n : Int)] 25) (.int .u8 (c : Int)) (.bool false) (.int .u32 (n : Int))
        have B0 := Lib.hid (bel2 w (.cells #[.int .u8 (c : Int), .bool true, .int .u32 (n : Int)] 25) (.cells #[.int .u8 (c : Int), .bool false, .int .u32 (n : Int)] 25))
        go_enter Tryd.func7, Tryd.ntmps7
        go_wp2_with fail
        refine (compare_any c n true c n false _).mono ?_
        rw [HX.out]
        rintro e w1 ⟨rfl, hb⟩
        have B1 := bt B0 (Lib.hid hb)
        have S1 := kt S0 (Lib.hid hb)
        have T1 := kt T0 (Lib.hid hb)
        clear B0 S0 T0 hb
        obtain ⟨s0, s1, s2, hsz⟩ := tag3 S1
        obtain ⟨t0, t1, t2, htz⟩ := tag3 T1
        go_wp2_with fail
        refine (compare_any c n false c n true _).mono ?_
        rw [HY.out]
        rintro e w2 ⟨rfl, hb⟩
        have B2 := bt B1 (Lib.hid hb)
        have S2 := kt S1 (Lib.hid hb)
        have T2 := kt T1 (Lib.hid hb)
        clear B1 S1 T1 hb s0 s1 s2 hsz t0 t1 t2 htz
        obtain ⟨s0, s1, s2, hsz⟩ := tag3 S2
        obtain ⟨t0, t1, t2, htz⟩ := tag3 T2
        go_wp2_with fail
        refine (lives_any _ (E0.out.below B2.out)).mono ?_
        rintro e w3 ⟨rfl, hb⟩
        have B3 := bt B2 (Lib.hid hb)
        clear B2 hb
        go_wp2_with fail
        go_ret
        exact ⟨rfl, B3.out⟩
      · have HX := Lib.hid (show cmpT c n true c n true = 0 by unfold cmpT; rw [cmpN_eq, cmpN_eq]; rfl)
        have HY := Lib.hid (show cmpT c n true c n true = 0 by unfold cmpT; rw [cmpN_eq, cmpN_eq]; rfl)
        have E0 := Lib.hid hE
        clear hE
        have S0 := Lib.hid ((Bk.new w 25 [.int .u8 (c : Int), .bool true, .int .u32 (n : Int)]).alloc (.cells #[.int .u8 (c : Int), .bool true, .int .u32 (n : Int)] 25))
        have T0 := two_box w (.cells #[.int .u8 (c : Int), .bool true, .int .u32 (n : Int)] 25) (.int .u8 (c : Int)) (.bool true) (.int .u32 (n : Int))
        have B0 := Lib.hid (bel2 w (.cells #[.int .u8 (c : Int), .bool true, .int .u32 (n : Int)] 25) (.cells #[.int .u8 (c : Int), .bool true, .int .u32 (n : Int)] 25))
        go_enter Tryd.func7, Tryd.ntmps7
        go_wp2_with fail
        refine (compare_any c n true c n true _).mono ?_
        rw [HX.out]
        rintro e w1 ⟨rfl, hb⟩
        have B1 := bt B0 (Lib.hid hb)
        have S1 := kt S0 (Lib.hid hb)
        have T1 := kt T0 (Lib.hid hb)
        clear B0 S0 T0 hb
        obtain ⟨s0, s1, s2, hsz⟩ := tag3 S1
        obtain ⟨t0, t1, t2, htz⟩ := tag3 T1
        go_wp2_with fail
        refine (compare_any c n true c n true _).mono ?_
        rw [HY.out]
        rintro e w2 ⟨rfl, hb⟩
        have B2 := bt B1 (Lib.hid hb)
        have S2 := kt S1 (Lib.hid hb)
        have T2 := kt T1 (Lib.hid hb)
        clear B1 S1 T1 hb s0 s1 s2 hsz t0 t1 t2 htz
        obtain ⟨s0, s1, s2, hsz⟩ := tag3 S2
        obtain ⟨t0, t1, t2, htz⟩ := tag3 T2
        go_wp2_with fail
        refine (lives_any _ (E0.out.below B2.out)).mono ?_
        rintro e w3 ⟨rfl, hb⟩
        have B3 := bt B2 (Lib.hid hb)
        clear B2 hb
        go_wp2_with fail
        go_ret
        exact ⟨rfl, B3.out⟩
    · have HX := Lib.hid (show cmpT c n k c n' k' = 1 by unfold cmpT; rw [cmpN_eq, cmpN_gt h]; rfl)
      have HY := Lib.hid (show cmpT c n' k' c n k = -1 by unfold cmpT; rw [cmpN_eq, cmpN_lt h]; rfl)
      have hq : ((n : Int) == (n' : Int)) = false := by rw [beq_eq_false_iff_ne]; omega
      have hq' : ((n' : Int) == (n : Int)) = false := by rw [beq_eq_false_iff_ne]; omega
      have E0 := Lib.hid hE
      clear hE
      have S0 := Lib.hid ((Bk.new w 25 [.int .u8 (c : Int), .bool k, .int .u32 (n : Int)]).alloc (.cells #[.int .u8 (c : Int), .bool k', .int .u32 (n' : Int)] 25))
      have T0 := two_box w (.cells #[.int .u8 (c : Int), .bool k, .int .u32 (n : Int)] 25) (.int .u8 (c : Int)) (.bool k') (.int .u32 (n' : Int))
      have B0 := Lib.hid (bel2 w (.cells #[.int .u8 (c : Int), .bool k, .int .u32 (n : Int)] 25) (.cells #[.int .u8 (c : Int), .bool k', .int .u32 (n' : Int)] 25))
      go_enter Tryd.func7, Tryd.ntmps7
      go_wp2_with fail
      refine (compare_any c n k c n' k' _).mono ?_
      rw [HX.out]
      rintro e w1 ⟨rfl, hb⟩
      have B1 := bt B0 (Lib.hid hb)
      have S1 := kt S0 (Lib.hid hb)
      have T1 := kt T0 (Lib.hid hb)
      clear B0 S0 T0 hb
      obtain ⟨s0, s1, s2, hsz⟩ := tag3 S1
      obtain ⟨t0, t1, t2, htz⟩ := tag3 T1
      go_wp2_with fail
      refine (compare_any c n' k' c n k _).mono ?_
      rw [HY.out]
      rintro e w2 ⟨rfl, hb⟩
      have B2 := bt B1 (Lib.hid hb)
      have S2 := kt S1 (Lib.hid hb)
      have T2 := kt T1 (Lib.hid hb)
      clear B1 S1 T1 hb s0 s1 s2 hsz t0 t1 t2 htz
      obtain ⟨s0, s1, s2, hsz⟩ := tag3 S2
      obtain ⟨t0, t1, t2, htz⟩ := tag3 T2
      go_wp2_with fail
      refine (lives_any _ (E0.out.below B2.out)).mono ?_
      rintro e w3 ⟨rfl, hb⟩
      have B3 := bt B2 (Lib.hid hb)
      clear B2 hb
      go_wp2_with fail
      go_ret
      exact ⟨rfl, B3.out⟩
  · have HX := Lib.hid (show cmpT c n k c' n' k' = 1 by unfold cmpT; rw [cmpN_gt h]; rfl)
    have HY := Lib.hid (show cmpT c' n' k' c n k = -1 by unfold cmpT; rw [cmpN_lt h]; rfl)
    have hq : ((c : Int) == (c' : Int)) = false := by rw [beq_eq_false_iff_ne]; omega
    have hq' : ((c' : Int) == (c : Int)) = false := by rw [beq_eq_false_iff_ne]; omega
    have E0 := Lib.hid hE
    clear hE
    have S0 := Lib.hid ((Bk.new w 25 [.int .u8 (c : Int), .bool k, .int .u32 (n : Int)]).alloc (.cells #[.int .u8 (c' : Int), .bool k', .int .u32 (n' : Int)] 25))
    have T0 := two_box w (.cells #[.int .u8 (c : Int), .bool k, .int .u32 (n : Int)] 25) (.int .u8 (c' : Int)) (.bool k') (.int .u32 (n' : Int))
    have B0 := Lib.hid (bel2 w (.cells #[.int .u8 (c : Int), .bool k, .int .u32 (n : Int)] 25) (.cells #[.int .u8 (c' : Int), .bool k', .int .u32 (n' : Int)] 25))
    go_enter Tryd.func7, Tryd.ntmps7
    go_wp2_with fail
    refine (compare_any c n k c' n' k' _).mono ?_
    rw [HX.out]
    rintro e w1 ⟨rfl, hb⟩
    have B1 := bt B0 (Lib.hid hb)
    have S1 := kt S0 (Lib.hid hb)
    have T1 := kt T0 (Lib.hid hb)
    clear B0 S0 T0 hb
    obtain ⟨s0, s1, s2, hsz⟩ := tag3 S1
    obtain ⟨t0, t1, t2, htz⟩ := tag3 T1
    go_wp2_with fail
    refine (compare_any c' n' k' c n k _).mono ?_
    rw [HY.out]
    rintro e w2 ⟨rfl, hb⟩
    have B2 := bt B1 (Lib.hid hb)
    have S2 := kt S1 (Lib.hid hb)
    have T2 := kt T1 (Lib.hid hb)
    clear B1 S1 T1 hb s0 s1 s2 hsz t0 t1 t2 htz
    obtain ⟨s0, s1, s2, hsz⟩ := tag3 S2
    obtain ⟨t0, t1, t2, htz⟩ := tag3 T2
    go_wp2_with fail
    refine (lives_any _ (E0.out.below B2.out)).mono ?_
    rintro e w3 ⟨rfl, hb⟩
    have B3 := bt B2 (Lib.hid hb)
    clear B2 hb
    go_wp2_with fail
    go_ret
    exact ⟨rfl, B3.out⟩

open Go.ChangeShapes Go.WideShapes Go.ChangeAt Go.WideMaps Go.WideElems
set_option maxRecDepth 100000 in
theorem tagsOrder_lifted (os : Os) (started : os.Started) (H : Type) (enc : TypeId × Value → H) :
    ReturnsInHanded {} Tryd.checked os 7 .any (fun w args => (Rows.tagsOrderSpec.pre enc Tryd.prog Tryd.f7 [] false w args ∧ laidMetH Tryd.prog laidL w) ∧ sizedMet enc Tryd.prog Tryd.f7 (OpenSpec.ofChange Rows.tagsOrderSpec) false w args)
      (Rows.tagsOrderSpec.post enc Tryd.prog Tryd.f7 false true false false) := by
  refine returnsInHanded_of_change_and (C := Tryd.checked) (X := fun w _ => laidMetH Tryd.prog laidL w) (fun _ _ _ hh h => h.of_heap hh) x_own started (by kernel_rfl) Tryd.func7
    (ChangeSpec.witness_shaped (enc := enc) (C := Tryd.checked) (os := os) (X := fun w _ => laidMetH Tryd.prog laidL w) false (World.doorLaid Tryd.prog 67 os) #[.agg #[.int .u8 0, .bool false, .int .u32 0], .agg #[.int .u8 0, .bool false, .int .u32 0]] 8 rfl (World.shaped_of_RefB (by kernel_rfl) (by kernel_rfl)) (by kernel_rfl) (by kernel_rfl) (by kernel_rfl) (door_met os _)) ?_
  intro W base args ds gs before hval0 hW _ _ hL _
  have hval : ∀ (j : Nat) t v, Tryd.f7.params[j]? = some t → args[j]? = some v → Value.okWide Tryd.prog W .any base t v := hval0
  have hW' := hW
  obtain ⟨p, q, hA0, hV, rfl, hfz, hnd⟩ := hW
  have hA : DataW.TrodAll enc Tryd.prog W 0 (fun _ => true) true Tryd.f7.params.toList args.toList ds p := hA0
  rw [Tryd.params7] at hA hval
  obtain ⟨v0, v1, d0, d1, p0, p1, rfl, rfl, rfl, h0, h1⟩ := trodAll_two hA
  obtain ⟨rfl, rfl⟩ := trodVars_none hV
  obtain ⟨c, n, k, rfl, _, _⟩ := open_tag (hval 0 _ v0 rfl rfl) h0
  obtain ⟨c', n', k', rfl, _, _⟩ := open_tag (hval 1 _ v1 rfl rfl) h1
  have hE := of_laid hL
  clear hA0 hval0
  simp only [List.append_nil] at hW'
  refine (order_walk c n k c' n' k' W hE).mono fun e W' ⟨he, hb⟩ => ?_
  subst he
  exact ⟨_, rfl, law_post (tb := 4) x_laid (by decide +kernel) rfl rfl (by kernel_rfl) Tryd.underlying4 hW' hb⟩

/-- The row's statement. -/
theorem tagsOrder_row : Rows.TagsOrderSaid :=
  OpenClaim.holds_of_wide 7 Tryd.f7 rfl rfl rfl rfl rfl rfl rfl ⟨rfl, rfl, rfl, rfl, rfl⟩ rfl rfl rfl rfl rfl (by kernel_rfl) Tryd.func7 (by kernel_rfl)
    (of_decide_eq_true (by kernel_rfl)) (by unfold Func.isWrapper; first | (rw [if_pos (by decide +kernel)]; kernel_rfl) | (rw [if_neg (by decide +kernel)]; exact ⟨rfl, rfl⟩))
    (fun os started H enc _ => tagsOrder_lifted os started H enc)

/-- The statement: the card. -/
theorem tagsOrder_holds : Rows.TagsOrderCardSaid :=
  Claim7.holds_tied_plain_at .later [] [.data, .data, .data, .sentinel, .sentinel, .data] true Rows.tagsOrderCard.stood.harness true
    tagsOrder_row (fun _ h => by cases h) (by kernel_rfl) (fun _ h => by cases h) tagsOrder_row_tie rfl ⟨rfl, rfl⟩ (by kernel_rfl) rfl
    (fun f fn hf hfn => by
      obtain rfl : f = 7 := Option.some.inj ((show Tryd.prog.funcNamed "vidimus/vidimuslaw02.TagsOrder" = some 7 by kernel_rfl).symm.trans hf) |>.symm
      obtain rfl : fn = Tryd.f7 := (Option.some.inj (Tryd.func7.symm.trans hfn)).symm
      exact ⟨by kernel_rfl, fun j t ht => by
        rw [Tryd.params7] at ht
        have hm : t ∈ Tryd.f7.params.toList := by rw [Tryd.params7]; exact Array.mem_toList_iff.2 (Array.mem_of_getElem? ht)
        have hall : (Tryd.f7.params.toList.all fun u => !Tryd.prog.wantsStandIn u) = true := by kernel_rfl
        exact (show Tryd.prog.wantsStandIn t = false by simpa using List.all_eq_true.1 hall t hm)⟩)
    (by kernel_rfl)
end Go.Proofs.YtcaolgcpcjodnaaDoor
