/-
  Layer 10: Text, of the program.
  Conditions: the table of the months holds what the program's text lays.
-/
import Derived.Test.YtecmgkmonehmfaaDoorTimO
namespace Go.Proofs.YtecmgkmonehmfaaDoor.Tim
open Go.RowKit
attribute [local go_sem] Oper.semAt_some

def LU : List Nat := [89, 89, 77, 77, 68, 68, 104, 104, 109, 109, 115, 115, 90]
def LG : List Nat := [89, 89, 89, 89, 77, 77, 68, 68, 104, 104, 109, 109, 115, 115, 90]
def LX : List Nat := [89, 89, 89, 89, 45, 77, 77, 45, 68, 68, 84, 104, 104, 58, 109, 109, 58, 115, 115, 90]
def tailE (m d h mi s : Nat) : List Nat := dgl 2 m ++ dgl 2 d ++ dgl 2 h ++ dgl 2 mi ++ dgl 2 s ++ [90]
def txtE : Nat → Nat → Nat → Nat → Nat → Nat → Nat → List Nat
  | 23, y, m, d, h, mi, s => dgl 2 (y % 100) ++ tailE m d h mi s
  | _, y, m, d, h, mi, s => dgl 4 y ++ tailE m d h mi s
def txtX (y m d h mi s : Nat) : List Nat := dgl 4 y ++ [45] ++ dgl 2 m ++ [45] ++ dgl 2 d ++ [84] ++ dgl 2 h ++ [58] ++ dgl 2 mi ++ [58] ++ dgl 2 s ++ [90]
theorem lay1 : layS 1 = bstr LU := rfl
theorem lay2 : layS 2 = bstr LG := rfl
set_option linter.unusedSimpArgs false in
theorem wrT_U (y m d h mi s : Nat) : wrT LU y m d h mi s = txtE 23 y m d h mi s := by
  simp [wrT, putD, dgl, LU, txtE, tailE, Nat.div_div_eq_div_mul]
  omega
set_option linter.unusedSimpArgs false in
theorem wrT_G (y m d h mi s : Nat) : wrT LG y m d h mi s = txtE 24 y m d h mi s := by
  simp [wrT, putD, dgl, LG, txtE, tailE, Nat.div_div_eq_div_mul]
set_option linter.unusedSimpArgs false in
theorem wrT_X (y m d h mi s : Nat) : wrT LX y m d h mi s = txtX y m d h mi s := by
  simp [wrT, putD, dgl, LX, txtX, Nat.div_div_eq_div_mul]
theorem len_X (y m d h mi s : Nat) : (txtX y m d h mi s).length = 20 := by rw [← wrT_X, wrT_len]; rfl
theorem all_app {a b : List Nat} (h1 : All8 a) (h2 : All8 b) : All8 (a ++ b) := fun x hx => (List.mem_append.1 hx).elim (h1 x) (h2 x)
theorem all_one {x : Nat} (h : x < 256) : All8 [x] := fun y hy => by rw [List.mem_singleton.1 hy]; exact h
theorem all_tail (m d h mi s : Nat) : All8 (tailE m d h mi s) := all_app (all_app (all_app (all_app (all_app (dgl_8 _ _) (dgl_8 _ _)) (dgl_8 _ _)) (dgl_8 _ _)) (dgl_8 _ _)) (all_one (by decide))
theorem all_X (y m d h mi s : Nat) : All8 (txtX y m d h mi s) := all_app (all_app (all_app (all_app (all_app (all_app (all_app (all_app (all_app (all_app (all_app (dgl_8 _ _) (all_one (by decide))) (dgl_8 _ _)) (all_one (by decide))) (dgl_8 _ _)) (all_one (by decide))) (dgl_8 _ _)) (all_one (by decide))) (dgl_8 _ _)) (all_one (by decide))) (dgl_8 _ _)) (all_one (by decide))
theorem all_E (k y m d h mi s : Nat) : All8 (txtE k y m d h mi s) := by
  unfold txtE
  split
  · exact all_app (dgl_8 _ _) (all_tail _ _ _ _ _)
  · exact all_app (dgl_8 _ _) (all_tail _ _ _ _ _)
theorem all_L {L : List Nat} (h : L.all (fun x => decide (x < 256)) = true) : All8 L := fun x hx => by
  have := List.all_eq_true.1 h x hx
  exact of_decide_eq_true this

set_option linter.unusedSimpArgs false in
set_option linter.unusedVariables false in
set_option maxHeartbeats 4000000 in
set_option maxRecDepth 100000 in
theorem text_bad (y mo d h mi s : Int) (hmo : I64 mo) (hck : ck y mo d h mi s = 1) (w : World) (hE : Env w) :
    Calls Tryd.prog 19 #[tV y mo d h mi s] w fun e w' => e = .returned (.string ⟨#[63]⟩) ∧ Below w.heap.size w w' := by
  obtain ⟨g, hg⟩ : ∃ g, w.heap.size = g := ⟨_, rfl⟩
  obtain ⟨w1, hw1⟩ : ∃ w1, w.alloc (.cells #[.int .i64 y, .int .i64 mo, .int .i64 d, .int .i64 h, .int .i64 mi, .int .i64 s] 23) = w1 := ⟨_, rfl⟩
  have B1 : Hid (Below w.heap.size w w1) := Lib.hid (by rw [← hw1]; exact bel1 w _)
  have K1 : Hid (Bk w1 g 23 (tL y mo d h mi s)) := Lib.hid (by rw [← hw1, ← hg]; exact Bk.new w _ (tL y mo d h mi s))
  have CK := Lib.hid (check_any y mo d h mi s hmo w1 (hE.below B1.out))
  rw [hck] at CK
  have HW1 := Lib.hid hw1
  have HG := Lib.hid hg
  clear hw1 hg hck hE
  go_enter Tryd.func19, Tryd.ntmps19
  go_upto_region 1 with fail
  rw [HW1.out, HG.out]
  go_wp2_with (refine wpList_loadG rfl (.tmp 1) rfl rfl (rangeB K1.out) Tryd.underlying23 rfl infoTm ?_)
  refine CK.out.mono ?_
  rintro e w2 ⟨rfl, hb⟩
  have B2 := bt B1 (Lib.hid hb)
  clear hb
  go_wp2_with fail
  go_ret
  exact ⟨rfl, B2.out⟩
set_option linter.unusedSimpArgs false in
set_option linter.unusedVariables false in
set_option maxHeartbeats 4000000 in
set_option maxRecDepth 100000 in
theorem text_ok (y m d h mi s : Nat) (hy : y ≤ 1000000) (hm : m ≤ 1000000) (hd : d ≤ 1000000) (hh : h ≤ 1000000) (hmi : mi ≤ 1000000) (hs : s ≤ 1000000) (hck : ck y m d h mi s = 0) (w : World) (hE : Env w) :
    Calls Tryd.prog 19 #[tV y m d h mi s] w fun e w' => e = .returned (.string (bstr (txtX y m d h mi s))) ∧ Below w.heap.size w w' := by
  obtain ⟨g, hg⟩ : ∃ g, w.heap.size = g := ⟨_, rfl⟩
  obtain ⟨w1, hw1⟩ : ∃ w1, w.alloc (.cells #[.int .i64 (y : Int), .int .i64 (m : Int), .int .i64 (d : Int), .int .i64 (h : Int), .int .i64 (mi : Int), .int .i64 (s : Int)] 23) = w1 := ⟨_, rfl⟩
  have B1 : Hid (Below w.heap.size w w1) := Lib.hid (by rw [← hw1]; exact bel1 w _)
  have K1 : Hid (Bk w1 g 23 (tL y m d h mi s)) := Lib.hid (by rw [← hw1, ← hg]; exact Bk.new w _ (tL y m d h mi s))
  have CK := Lib.hid (check_any y m d h mi s (by unfold I64; omega) w1 (hE.below B1.out))
  rw [hck] at CK
  have CW : Hid (∀ W, Calls Tryd.prog 35 #[.string ⟨#[89, 89, 89, 89, 45, 77, 77, 45, 68, 68, 84, 104, 104, 58, 109, 109, 58, 115, 115, 90]⟩, .agg (tL y m d h mi s).toArray] W fun e w' => ∃ gb, W.heap.size ≤ gb ∧ e = .returned (.slice (some ⟨gb, 0, none⟩) 20 20) ∧ Rd w' (some ⟨gb, 0, none⟩) (cs8 (txtX y m d h mi s)) ∧ Below W.heap.size W w') := Lib.hid (fun W => by
    have := write_any LX (all_L rfl) (by decide) y m d h mi s hy hm hd hh hmi hs W
    rw [wrT_X] at this
    exact this)
  have HX := Lib.hid (And.intro (all_X y m d h mi s) (len_X y m d h mi s))
  generalize txtX y m d h mi s = T at *
  have HW1 := Lib.hid hw1
  have HG := Lib.hid hg
  clear hw1 hg hck hE
  go_enter Tryd.func19, Tryd.ntmps19
  go_upto_region 1 with fail
  rw [HW1.out, HG.out]
  go_wp2_with (refine wpList_loadG rfl (.tmp 1) rfl rfl (rangeB K1.out) Tryd.underlying23 rfl infoTm ?_)
  refine CK.out.mono ?_
  rintro e w2 ⟨rfl, hb⟩
  have B2 := bt B1 (Lib.hid hb)
  have K2 := kt K1 (Lib.hid hb)
  clear hb K1 CK
  go_wp2_with (refine wpList_loadG rfl (.tmp 1) rfl rfl (rangeB K2.out) Tryd.underlying23 rfl infoTm ?_)
  refine (CW.out _).mono ?_
  rintro e w3 ⟨gb, hgb, rfl, hr, hb⟩
  have B3 := bt B2 (Lib.hid hb)
  have s0 : (convert 34 9 (.slice (some ⟨gb, 0, none⟩) 20 20)).run Tryd.prog w3 = .ok (.string (bstr T)) w3 := by
    have := run_str (P := Tryd.prog) (src := 34) (dst := 9) Tryd.underlying34 Tryd.underlying5 Tryd.underlying9 (show Rb w3 (some ⟨gb, 0, none⟩) T from ⟨hr, HX.out.1⟩) 20
    rwa [HX.out.2] at this
  clear hb hr
  go_wp2_with fail
  go_ret
  exact ⟨rfl, B3.out⟩
end Go.Proofs.YtecmgkmonehmfaaDoor.Tim
