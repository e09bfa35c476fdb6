/-
  Layer 9, the statement CharstringsKnown: the examples of the chapter; each octet as a character of each kind; the limits of the lengths.
  Conditions: the package-level variables that the row lists hold what the program's text lays (the card ties them).
-/
import Derived.Test.YthefnfjhnallfaaDoorChsLi
import Derived.Test.YthefnfjhnallfaaDoorChsP2
import Derived.Deep.DeepCutAuto
import Derived.Deep.CutBlock
namespace Go.Proofs.YthefnfjhnallfaaDoor.Chs
open Go.RowKit Go.Shelf

/-- Copies of one number. -/
def rp (n x : Nat) : List Nat := List.replicate n x
theorem rp_len (n x : Nat) : (rp n x).length = n := List.length_replicate
theorem rp_all (n x : Nat) (h : x < 256) : All8 (rp n x) := fun y hy => by rw [List.eq_of_mem_replicate hy]; exact h
theorem rp_succ (n x : Nat) : rp (n + 1) x = x :: rp n x := List.replicate_succ
theorem rp_take (n m x : Nat) (h : n ≤ m) : (rp m x).take n = rp n x := by unfold rp; rw [List.take_replicate, Nat.min_eq_left h]
theorem rp_enc (x : Nat) : ∀ n, (encS (rp n x)).length = n * (enc1 x).length
  | 0 => by rw [Nat.zero_mul]; rfl
  | n + 1 => by rw [rp_succ, encS_cons, List.length_append, rp_enc x n, Nat.succ_mul, Nat.add_comm]
theorem rp_enc1 (x : Nat) (h : x < 128) : ∀ n, encS (rp n x) = rp n x
  | 0 => rfl
  | n + 1 => by rw [rp_succ, encS_cons, rp_enc1 x h n]; unfold enc1; rw [if_pos h]; rfl
theorem rp_prs (x : Nat) : ∀ n, prs (rp (2 * n) x) = rp n (256 * x + x)
  | 0 => rfl
  | n + 1 => by rw [show 2 * (n + 1) = 2 * n + 1 + 1 by omega, rp_succ, rp_succ, prs, rp_prs x n, rp_succ]
theorem rp_has (k n x : Nat) (h : hasN k x = true) : (rp n x).all (hasN k) = true := by
  rw [List.all_eq_true]
  intro y hy
  rw [List.eq_of_mem_replicate hy]; exact h
theorem h22 : hasN 22 97 = true := by decide
theorem h30 : hasN 30 24929 = true := by decide
theorem e97 : (enc1 97).length = 1 := by decide
theorem e24929 : (enc1 24929).length = 3 := by decide
theorem get_22 (n : Nat) (h : n ≤ 65536) : get9 22 (rp n 97) = (22, rp n 97, 0) := by
  rw [get9_of (rp_all n 97 (by decide)) rfl (by rw [rp_len]; omega), chars_one (by decide) (by decide)]
  dsimp only
  rw [if_pos (rp_has 22 n 97 h22), rp_enc1 97 (by decide), if_neg (by rw [rp_len]; omega)]
theorem get_22b (n : Nat) (h : 65536 < n) (h2 : n ≤ 131072) : get9 22 (rp n 97) = (0, [], 3) := by
  rw [get9_of (rp_all n 97 (by decide)) rfl (by rw [rp_len]; omega), chars_one (by decide) (by decide)]
  dsimp only
  rw [if_pos (rp_has 22 n 97 h22), rp_enc1 97 (by decide), if_pos (by rw [rp_len]; omega)]
theorem get_30 (n m : Nat) (hm : 2 * n = m) (h : 3 * n ≤ 65536) : get9 30 (rp m 97) = (30, encS (rp n 24929), 0) := by
  rw [get9_of (rp_all m 97 (by decide)) rfl (by rw [rp_len]; omega), chars_even (by rw [rp_len]; omega), ← hm, rp_prs]
  dsimp only
  rw [if_pos (rp_has 30 n _ h30), if_neg (by rw [rp_enc, e24929]; omega)]
theorem get_30b (n m : Nat) (hm : 2 * n = m) (h : 65536 < 3 * n) (h2 : m ≤ 131072) : get9 30 (rp m 97) = (0, [], 3) := by
  rw [get9_of (rp_all m 97 (by decide)) rfl (by rw [rp_len]; omega), chars_even (by rw [rp_len]; omega), ← hm, rp_prs]
  dsimp only
  rw [if_pos (rp_has 30 n _ h30), if_pos (by rw [rp_enc, e24929]; omega)]
theorem rp_scal (n x : Nat) (h : scal x = true) : ∀ c ∈ rp n x, scal c = true := fun c hc => by rw [List.eq_of_mem_replicate hc]; exact h
theorem chk_22 (n : Nat) (h : n ≤ 65536) : chkC 22 (rp n 97) = 0 := by
  have hd : decS (rp n 97) = some (rp n 97) := by
    have := decS_enc (rp_scal n 97 (by decide))
    rwa [rp_enc1 97 (by decide)] at this
  rw [chkC_some rfl (by rw [rp_len]; omega) hd, if_pos (rp_has 22 n 97 h22)]
theorem dec_22 (n : Nat) : decS (rp n 97) = some (rp n 97) := by
  have := decS_enc (rp_scal n 97 (by decide))
  rwa [rp_enc1 97 (by decide)] at this
theorem chk_30 (n : Nat) (h : n ≤ 65536) : chkC 30 (rp n 97) = 0 := chk_up rfl has_22_30 (chk_22 n h)
theorem put_30 (n : Nat) (h : n ≤ 65536) : (putL 30 (rp n 97)).length = 2 * n := by
  unfold putL
  rw [if_pos (chk_30 n h), dec_22]
  show (pL 30 (rp n 97)).length = _
  rw [pL_30, rp_len]
theorem chk_big (k n : Nat) (hk : isK k = true) (h : 65536 < n) : chkC k (rp n 97) = 3 := chkC_long hk (by rw [rp_len]; exact h)
theorem kinds_big (n : Nat) (h : 65536 < n) : kindsP 5 (rp n 97) = [] := by
  have e : ∀ q, q < 5 → chkC (kN q) (rp n 97) ≠ 0 := fun q hq => by rw [chk_big _ n (kN_kind hq) h]; decide
  rw [kindsP_succ, if_neg (e 4 (by decide)), kindsP_succ, if_neg (e 3 (by decide)), kindsP_succ, if_neg (e 2 (by decide)), kindsP_succ, if_neg (e 1 (by decide)), kindsP_succ, if_neg (e 0 (by decide))]
  rfl
theorem len_30 (n : Nat) (h : 3 * n ≤ 65536) : lenC 30 (encS (rp n 24929)) = n := by
  have hd := decS_enc (rp_scal n 24929 (by decide))
  have hc : chkC 30 (encS (rp n 24929)) = 0 := by
    rw [chkC_some rfl (by rw [rp_enc, e24929]; omega) hd, if_pos (rp_has 30 n _ h30)]
  unfold lenC
  rw [if_pos hc, hd]
  exact rp_len n 24929
theorem rp_set (n j : Nat) (h : j < n) : (rp j 97 ++ rp (n - j) 0).set j 97 = rp (j + 1) 97 ++ rp (n - (j + 1)) 0 := by
  have e : rp (n - j) 0 = 0 :: rp (n - (j + 1)) 0 := by rw [show n - j = (n - (j + 1)) + 1 by omega, rp_succ]
  rw [e, List.set_append_right _ _ (by rw [rp_len]; exact Nat.le_refl _), rp_len, Nat.sub_self, List.set_cons_zero]
  have e2 : rp (j + 1) 97 = rp j 97 ++ [97] := List.replicate_succ'
  rw [e2, List.append_assoc]; rfl
theorem info5 : (Tryd.prog.info? 5).map (fun i => (i.zero, i.size, i.bytes)) = some (some (.int .u8 0), 1, 1) := by kernel_rfl
theorem made_one (v : Value) (n : Nat) : madeCells #[v] n = (List.replicate n v).toArray := by
  unfold madeCells
  apply Array.ext
  · simp
  · intro i h1 h2
    simp [Nat.mod_one]
theorem make_bytes (n : Nat) (hn : n ≤ 2000000) (W : World) : (Instr.makeSlice 32 (.int .i64 (n : Int)) (.int .i64 (n : Int))).run Tryd.prog W = .ok (.slice (some ⟨W.heap.size, 0, none⟩) n n) (W.alloc (.cells (cs8 (List.replicate n 0)).toArray 5)) := by
  obtain ⟨i, hi, hz0, hz1, hz2⟩ := info_parts info5
  have h := run_make (P := Tryd.prog) W 32 5 i (.int .u8 0) Tryd.underlying32 hi hz0 .i64 .i64 (n : Int) (n : Int) (by omega) (Int.le_refl _) (by rw [hz2]; omega) (by omega)
  rw [h, hz1, Int.toNat_natCast, Nat.mul_one]
  congr 3
  rw [show (Value.int IntKind.u8 0).cells = #[Value.int IntKind.u8 0] from rfl, made_one]
  unfold cs8
  rw [List.map_replicate]
  rfl
theorem number_at7 (W : World) (p : Nat) (hp : p < 5) (q : Nat) (hq : kN p = q) : Calls Tryd.prog 26 #[.int .i64 (p : Int)] W fun e w' => e = .returned (.int .u32 (q : Int)) ∧ Hid (Below W.heap.size W w') := by
  subst hq
  exact (number_any p hp W).mono fun _ _ ⟨h1, h2⟩ => ⟨h1, Lib.hid h2⟩
theorem law_lit (W : World) (k : Nat) (hk : k < 4294967296) (l : List Nat) (h8 : All8 l) (N : Nat) (hN : l.length = N) (hm : N ≤ 1000) (hT : Tab W) :
    Calls Tryd.prog 5 #[.int .u32 (k : Int), .slice (some ⟨W.heap.size, 0, none⟩) N N] (W.alloc (.cells (cs8 l).toArray 5)) fun e w' => e = .returned (.bool true) ∧ Hid (Below W.heap.size W w') :=
  (get_walk k hk _ l N N _ ⟨lit_rd W l, h8⟩ hN (Nat.le_refl _) (by unfold maxLen; omega) (hT.below (bel1 W _))).mono fun _ _ ⟨h1, h2⟩ => ⟨h1, Lib.hid ((bel1 W _).trans (h2.mono (bel1 W _).size))⟩
/-- Get of a beginning of the long slice. -/
theorem getb_at (W : World) (k : Nat) (hk : k < 4294967296) (g n : Nat) (hn : n ≤ 131074) (hA : Rd W (some ⟨g, 0, none⟩) (cs8 (rp 131074 97))) (hT : Tab W) (k2 : Nat) (m : List Nat) (f : Nat) (hq : get9 k (rp n 97) = (k2, m, f)) (S : ByteArray) (hS : bstr m = S) :
    Calls Tryd.prog 29 #[.int .u32 (k : Int), .slice (some ⟨g, 0, none⟩) n 131074] W fun e w' => e = .returned (.tuple #[chV k2 S, .int .i64 (f : Int)]) ∧ Hid (Below W.heap.size W w') := by
  subst hS
  have hr : Rb W (some ⟨g, 0, none⟩) (rp n 97) := ⟨by have := hA.take_ n; unfold cs8 at this ⊢; rwa [← List.map_take, rp_take n _ 97 hn] at this, rp_all n 97 (by decide)⟩
  have h := get9_any k hk (rp n 97) _ n 131074 (rp_len n 97) hn (by unfold maxLen; omega) W hr hT
  rw [hq] at h
  exact h.mono fun _ _ ⟨h1, h2⟩ => ⟨h1, Lib.hid h2⟩
/-- A whole character string is loaded, written out. -/
theorem wpList_loadCh {ops : Array Oper} {rest : List Oper} {o : Oper} {a : Act} {w : World} {Q : Exit → Act → World → Prop} (hw : Region.wanted o (yielded ops a.tmps) = true) (x : Operand) (ho : o.op = .load 24 x)
    {g k : Nat} {S : ByteArray} (hx : a.eval x = .pointer (some ⟨g, 0, none⟩)) (hg : Bk w g 24 (chL k S))
    (h : wpList Tryd.prog ops Q rest (a.put o.dst (chV k S)) w) : wpList Tryd.prog ops Q (o :: rest) a w :=
  wpList_loadGg hw x ho hx (rangeB hg) Tryd.underlying24 rfl infoCh h
set_option linter.unusedSimpArgs false in
set_option linter.unusedVariables false in
set_option maxHeartbeats 6400000 in
set_option maxRecDepth 100000 in
theorem known_walk (w : World) (hT : Tab w) : Calls Tryd.prog 9 #[] w fun e w' => e = .returned (.bool true) ∧ Below w.heap.size w w' := by
  have K0 := Lib.hid (St.start hT)
  have HT0 := Lib.hid hT
  obtain ⟨Sz, hSz⟩ : ∃ s, S0 = s := ⟨_, rfl⟩
  have HSZ0 := Lib.hid hSz
  have HSZ : Hid (bstr [] = Sz) := Lib.hid (by rw [← hSz]; rfl)
  have hz : ∀ w : World, (zeroValue 24).run Tryd.prog w = .ok (.agg #[.int .u32 0, .string Sz]) w := by rw [← hSz]; exact zeroCh
  clear hSz
  clear hT
  go_enter Tryd.func9, Tryd.ntmps9
  go_upto_block 0 with fail
  go_cut [1] (fun _ wx => St w [] [] wx)
  case first =>
    go_wp2_with fail
    go_loopw [1] (fun i wr => ∃ c : Nat, c ≤ 256 ∧ i = .int .i64 (c : Int) ∧ St w [] [] wr) (fun i _ => 256 - (intOf i).toNat)
    case atStart => exact ⟨0, Nat.zero_le _, rfl, K0.out⟩
    case round =>
      obtain ⟨c, hc, rfl, hst⟩ := hrel
      have K100 := Lib.hid hst
      clear hst K0
      generalize wr = w100 at *
      rcases Nat.lt_or_ge c 256 with hlt | hge
      · have hci : (c : Int) < 256 := by omega
        have hcw : IntKind.u8.wrap (c : Int) = (c : Int) := by rw [IntKind.wrap_u8]; omega
        have HC := Lib.hid hlt
        go_upto_region 5 with fail
        go_loopw [2] (fun i wr => ∃ p : Nat, p ≤ 5 ∧ i = .int .i64 (p : Int) ∧ St w [] [] wr) (fun i _ => 5 - (intOf i).toNat)
        case atStart => exact ⟨0, Nat.zero_le _, rfl, K100.out⟩
        case round =>
          obtain ⟨p, hp, rfl, hst⟩ := hrel
          have K200 := Lib.hid hst
          clear hst K100
          generalize wr = w200 at *
          rcases Nat.lt_or_ge p 5 with hpl | hpg
          · have hpi : (p : Int) < 5 := by omega
            have HPL := Lib.hid hpl
            obtain ⟨q, hq⟩ : ∃ q, kN p = q := ⟨_, rfl⟩
            have hq31 := kN_lt hpl
            rw [hq] at hq31
            have hq32 : q < 4294967296 := by omega
            have HQ := Lib.hid hq
            have HA1 : Hid (All8 [c]) := Lib.hid (fun y hy => by simp at hy; omega)
            have HA2 : Hid (All8 [c, 0]) := Lib.hid (fun y hy => by simp at hy; omega)
            have HA3 : Hid (All8 [0, c]) := Lib.hid (fun y hy => by simp at hy; omega)
            clear hq hq31
            go_wp2_with fail
            refine (number_at7 w200 p HPL.out q HQ.out).mono ?_
            rintro e w201 ⟨rfl, hb⟩
            have K201 := kp K200 hb
            clear hb K200
            go_wp2_with fail
            refine (law_lit w201 q hq32 [c] HA1.out 1 rfl (by decide) K201.out.t).mono ?_
            rintro e w202 ⟨rfl, hb⟩
            have K202 := kp K201 hb
            clear hb K201
            go_wp2_with fail
            refine (number_at7 w202 p HPL.out q HQ.out).mono ?_
            rintro e w203 ⟨rfl, hb⟩
            have K203 := kp K202 hb
            clear hb K202
            go_wp2_with fail
            refine (law_lit w203 q hq32 [c, 0] HA2.out 2 rfl (by decide) K203.out.t).mono ?_
            rintro e w204 ⟨rfl, hb⟩
            have K204 := kp K203 hb
            clear hb K203
            go_wp2_with fail
            refine (number_at7 w204 p HPL.out q HQ.out).mono ?_
            rintro e w205 ⟨rfl, hb⟩
            have K205 := kp K204 hb
            clear hb K204
            go_wp2_with fail
            refine (law_lit w205 q hq32 [0, c] HA3.out 2 rfl (by decide) K205.out.t).mono ?_
            rintro e w206 ⟨rfl, hb⟩
            have K206 := kp K205 hb
            clear hb K205
            go_wp2_with fail
            exact ⟨⟨p + 1, by omega, by go_num, K206.out⟩, by simp [intOf]; omega⟩
          · obtain rfl : p = 5 := by omega
            go_wp2_with fail
            exact ⟨⟨c + 1, by omega, by go_num, K200.out⟩, by simp [intOf]; omega⟩
      · obtain rfl : c = 256 := by omega
        go_wp2_with fail
        go_meet
        exact K100.out
  case rest =>
    have K1 := Lib.hid hcut
    clear hcut K0
    generalize wc = w1 at *
    have hmk := fun W => make_bytes 131074 (by omega) W
    rw [show ((131074 : Nat) : Int) = 131074 from rfl] at hmk
    obtain ⟨g3, hg3⟩ : ∃ g, w1.heap.size = g := ⟨_, rfl⟩
    obtain ⟨N, hN⟩ : ∃ N, 131074 = N := ⟨_, rfl⟩
    have HNN := Lib.hid hN
    obtain ⟨Z, hZ⟩ : ∃ Z, (cs8 (List.replicate 131074 0)).toArray = Z := ⟨_, rfl⟩
    rw [hZ] at hmk
    obtain ⟨w2, hw2⟩ : ∃ v, w1.alloc (.cells Z 5) = v := ⟨_, rfl⟩
    have hmk1 := hmk w1
    rw [hw2, hg3] at hmk1
    have hbk : Hid (Bk w2 g3 5 (cs8 (rp 0 97 ++ rp (N - 0) 0))) := Lib.hid (by
      rw [← hw2, ← hg3, ← hZ, ← hN]
      exact Bk.new w1 5 (cs8 (List.replicate 131074 0)))
    have hb : Hid (Below w1.heap.size w1 w2) := Lib.hid (by rw [← hw2]; exact bel1 w1 _)
    have GE_g3 : Hid (w.heap.size ≤ g3) := Lib.hid (by rw [← hg3]; exact K1.out.b.size)
    have K2 := kp K1 hb
    clear hb hw2 hZ hmk hg3 hN K1
    go_upto_block 4 with fail
    clear hmk1
    go_cut [4] (fun _ wx => St w [] [] wx ∧ Bk wx g3 5 (cs8 (rp N 97)))
    case first =>
      go_wp2_with fail
      go_loopw [4] (fun i wr => ∃ j : Nat, j ≤ N ∧ i = .int .i64 (j : Int) ∧ St w [] [] wr ∧ Bk wr g3 5 (cs8 (rp j 97 ++ rp (N - j) 0))) (fun i _ => N - (intOf i).toNat)
      case atStart => exact ⟨0, Nat.zero_le _, rfl, K2.out, hbk.out⟩
      case round =>
        obtain ⟨j, hj, rfl, hst, hk⟩ := hrel
        have KR := Lib.hid hst
        have BR := Lib.hid hk
        have hNi : (N : Int) = 131074 := by rw [← HNN.out]; rfl
        clear hst hk hbk K2
        rcases Nat.lt_or_ge j N with hlt | hge
        · have hji : (j : Int) < 131074 := by omega
          have hjn : j < 131074 := by omega
          obtain ⟨v, hv⟩ : ∃ v, wr.cell? ⟨g3, j, none⟩ = some v := by
            rw [BR.out.cell]
            exact ⟨_, List.getElem?_eq_getElem (by rw [cs8_length, List.length_append, rp_len, rp_len]; omega)⟩
          have hfr := BR.out.free j
          obtain ⟨w3, hw3⟩ : ∃ v, wr.setCell ⟨g3, j, none⟩ (.int .u8 97) = v := ⟨_, rfl⟩
          have hgr : wr.grownBy w3 (some g3) := by rw [← hw3]; exact only_store (only_refl wr (some g3)) j _
          have BN : Hid (Bk w3 g3 5 (cs8 (rp (j + 1) 97 ++ rp (N - (j + 1)) 0))) := Lib.hid (by
            rw [← hw3, ← rp_set N j hlt]
            have := BR.out.store j (.int .u8 97)
            unfold cs8 at this ⊢
            rw [List.map_set]
            exact this)
          have KN : Hid (St w [] [] w3) := Lib.hid (KR.out.put HT0.out GE_g3.out hgr)
          have HW3 := Lib.hid hw3
          clear hw3 hgr BR KR hNi
          go_upto_region 12 with fail
          rw [HW3.out]
          clear hv hfr
          go_wp2_with fail
          exact ⟨⟨j + 1, by omega, by go_num, KN.out, BN.out⟩, by simp [intOf]; omega⟩
        · obtain rfl : j = N := by omega
          have hji : ¬ (j : Int) < 131074 := by omega
          have BE : Hid (Bk wr g3 5 (cs8 (rp j 97))) := Lib.hid (by
            have := BR.out
            rw [Nat.sub_self, show rp 0 0 = [] from rfl, List.append_nil] at this
            exact this)
          clear BR hNi
          go_wp2_with fail
          go_meet
          exact ⟨KR.out, BE.out⟩
    case rest =>
      have K3 := Lib.hid hcut.1
      have hr : Hid (Rd wc (some ⟨g3, 0, none⟩) (cs8 (rp 131074 97))) := Lib.hid (by
        have := hcut.2.rd 0
        rw [← HNN.out] at this
        exact this)
      have K4 := ka K3 hr
      clear hcut hr K2 K3 hbk HNN
      generalize wc = w4 at *
      obtain ⟨S, hS⟩ : ∃ S, bstr (rp 65536 97) = S := ⟨_, rfl⟩
      have hsz : S.size = 65536 := by rw [← hS, size_bstr, rp_len]
      have HS := Lib.hid hS
      obtain ⟨U, hU⟩ : ∃ S, bstr (encS (rp 21845 24929)) = S := ⟨_, rfl⟩
      have hszU : U.size = 65535 := by rw [← hU, size_bstr, rp_enc, e24929]
      have HU := Lib.hid hU
      obtain ⟨L, hL⟩ : ∃ S, bstr (rp 65537 97) = S := ⟨_, rfl⟩
      have HL := Lib.hid hL
      have hSL : S ++ ⟨#[97]⟩ = L := by
        rw [← hS, ← hL, show (⟨#[97]⟩ : ByteArray) = bstr [97] from rfl, bstr_app]
        have e2 : rp 65537 97 = rp 65536 97 ++ [97] := List.replicate_succ'
        rw [e2]
      have hszz : Sz.size = 0 := by rw [← HSZ0.out]; rfl
      have h8s : Hid (All8 (rp 65536 97)) := Lib.hid (rp_all _ _ (by decide))
      have h8l : Hid (All8 (rp 65537 97)) := Lib.hid (rp_all _ _ (by decide))
      have h8u : Hid (All8 (encS (rp 21845 24929))) := Lib.hid (encS_all (rp_scal _ _ (by decide)))
      have hls : Hid ((rp 65536 97).length ≤ 9000000000000000000) := Lib.hid (by rw [rp_len]; omega)
      have hll : Hid ((rp 65537 97).length ≤ 9000000000000000000) := Lib.hid (by rw [rp_len]; omega)
      have hlu : Hid ((encS (rp 21845 24929)).length ≤ 9000000000000000000) := Lib.hid (by rw [rp_enc, e24929]; omega)
      have G1 := Lib.hid (get_22 65536 (by omega))
      have G2 := Lib.hid (get_22b 65537 (by omega) (by omega))
      have G3 := Lib.hid (get_30b 65536 131072 (by omega) (by omega) (by omega))
      have G4 : Hid (get9 30 (rp 131074 97) = (0, [], 3)) := Lib.hid (get9_long rfl (by rw [rp_len]; omega))
      have G5 := Lib.hid (get_30 21845 43690 (by omega) (by omega))
      have G6 := Lib.hid (get_30b 21846 43692 (by omega) (by omega) (by omega))
      have HC1 := Lib.hid (chk_22 65536 (by omega))
      have HC2 : Hid (cvC 22 (rp 65536 97) 30 = 0) := Lib.hid (by unfold cvC; rw [if_neg (by rw [chk_22 65536 (by omega)]; decide), chk_30 65536 (by omega)])
      have HC3 := Lib.hid (chk_30 65536 (by omega))
      have HC4 := Lib.hid (chk_big 22 65537 rfl (by omega))
      have HC5 := Lib.hid (kinds_big 65537 (by omega))
      have HC6 := Lib.hid (len_30 21845 (by omega))
      obtain ⟨m, hm⟩ : ∃ m, putL 30 (rp 65536 97) = m := ⟨_, rfl⟩
      have HMM := Lib.hid hm
      have HML : Hid (m.length = 131072) := Lib.hid (by rw [← hm, put_30 65536 (by omega)])
      clear hS hU hL hm
      go_wp2_with fail
      refine (getb_at w4 22 (by decide) g3 65536 (by omega) (K4.out.r (some ⟨g3, 0, none⟩, cs8 (rp 131074 97)) (by simp)) K4.out.t 22 (rp 65536 97) 0 G1.out S HS.out).mono ?_
      rintro e w5 ⟨rfl, hb⟩
      have K5 := kp K4 hb
      clear hb K4
      go_upto_region 15 with fail
      obtain ⟨g5, hg5⟩ : ∃ g, w5.heap.size = g := ⟨_, rfl⟩
      obtain ⟨w6, hw6⟩ : ∃ v, w5.alloc (.cells #[.int .u32 22, .string S] 24) = v := ⟨_, rfl⟩
      have hbk : Hid (Bk w6 g5 24 (chL 22 S)) := Lib.hid (by rw [← hw6, ← hg5]; exact Bk.new w5 _ (chL 22 S))
      have hb : Hid (Below w5.heap.size w5 w6) := Lib.hid (by rw [← hw6]; exact bel1 w5 _)
      have GE_g5 : Hid (w.heap.size ≤ g5) := Lib.hid (by rw [← hg5]; exact K5.out.b.size)
      rw [hw6, hg5]
      have K6 := kp K5 hb
      clear hb K5
      have Kn := kb K6 hbk
      clear hbk K6 hg5 hw6
      have K6 := Kn
      clear Kn
      go_wp2_with fail
      refine (getb_at w6 22 (by decide) g3 65537 (by omega) (K6.out.r (some ⟨g3, 0, none⟩, cs8 (rp 131074 97)) (by simp)) K6.out.t 0 ([]) 3 G2.out Sz HSZ.out).mono ?_
      rintro e w7 ⟨rfl, hb⟩
      have K7 := kp K6 hb
      clear hb K6
      go_upto_region 16 with fail
      obtain ⟨g7, hg7⟩ : ∃ g, w7.heap.size = g := ⟨_, rfl⟩
      obtain ⟨w8, hw8⟩ : ∃ v, w7.alloc (.cells #[.int .u32 0, .string Sz] 24) = v := ⟨_, rfl⟩
      have hbk : Hid (Bk w8 g7 24 (chL 0 Sz)) := Lib.hid (by rw [← hw8, ← hg7]; exact Bk.new w7 _ (chL 0 Sz))
      have hb : Hid (Below w7.heap.size w7 w8) := Lib.hid (by rw [← hw8]; exact bel1 w7 _)
      have GE_g7 : Hid (w.heap.size ≤ g7) := Lib.hid (by rw [← hg7]; exact K7.out.b.size)
      rw [hw8, hg7]
      have K8 := kp K7 hb
      clear hb K7
      have Kn := kb K8 hbk
      clear hbk K8 hg7 hw8
      have K8 := Kn
      clear Kn
      go_wp2_with fail
      refine (getb_at w8 30 (by decide) g3 131072 (by omega) (K8.out.r (some ⟨g3, 0, none⟩, cs8 (rp 131074 97)) (by simp)) K8.out.t 0 ([]) 3 G3.out Sz HSZ.out).mono ?_
      rintro e w9 ⟨rfl, hb⟩
      have K9 := kp K8 hb
      clear hb K8
      go_upto_region 17 with fail
      obtain ⟨g9, hg9⟩ : ∃ g, w9.heap.size = g := ⟨_, rfl⟩
      obtain ⟨w10, hw10⟩ : ∃ v, w9.alloc (.cells #[.int .u32 0, .string Sz] 24) = v := ⟨_, rfl⟩
      have hbk : Hid (Bk w10 g9 24 (chL 0 Sz)) := Lib.hid (by rw [← hw10, ← hg9]; exact Bk.new w9 _ (chL 0 Sz))
      have hb : Hid (Below w9.heap.size w9 w10) := Lib.hid (by rw [← hw10]; exact bel1 w9 _)
      have GE_g9 : Hid (w.heap.size ≤ g9) := Lib.hid (by rw [← hg9]; exact K9.out.b.size)
      rw [hw10, hg9]
      have K10 := kp K9 hb
      clear hb K9
      have Kn := kb K10 hbk
      clear hbk K10 hg9 hw10
      have K10 := Kn
      clear Kn
      go_wp2_with fail
      refine (getb_at w10 30 (by decide) g3 131074 (by omega) (K10.out.r (some ⟨g3, 0, none⟩, cs8 (rp 131074 97)) (by simp)) K10.out.t 0 ([]) 3 G4.out Sz HSZ.out).mono ?_
      rintro e w11 ⟨rfl, hb⟩
      have K11 := kp K10 hb
      clear hb K10
      go_upto_region 18 with fail
      obtain ⟨g11, hg11⟩ : ∃ g, w11.heap.size = g := ⟨_, rfl⟩
      obtain ⟨w12, hw12⟩ : ∃ v, w11.alloc (.cells #[.int .u32 0, .string Sz] 24) = v := ⟨_, rfl⟩
      have hbk : Hid (Bk w12 g11 24 (chL 0 Sz)) := Lib.hid (by rw [← hw12, ← hg11]; exact Bk.new w11 _ (chL 0 Sz))
      have hb : Hid (Below w11.heap.size w11 w12) := Lib.hid (by rw [← hw12]; exact bel1 w11 _)
      have GE_g11 : Hid (w.heap.size ≤ g11) := Lib.hid (by rw [← hg11]; exact K11.out.b.size)
      rw [hw12, hg11]
      have K12 := kp K11 hb
      clear hb K11
      have Kn := kb K12 hbk
      clear hbk K12 hg11 hw12
      have K12 := Kn
      clear Kn
      have c_g5_1 : w12.cell? ⟨g5, 1, none⟩ = some (.string S) := by rw [(K12.out.k (g5, 24, chL 22 S) (by simp)).cell]; rfl
      have c_g9_1 : w12.cell? ⟨g9, 1, none⟩ = some (.string Sz) := by rw [(K12.out.k (g9, 24, chL 0 Sz) (by simp)).cell]; rfl
      go_wp2_with fail
      clear c_g5_1 c_g9_1
      refine (getb_at w12 30 (by decide) g3 43690 (by omega) (K12.out.r (some ⟨g3, 0, none⟩, cs8 (rp 131074 97)) (by simp)) K12.out.t 30 (encS (rp 21845 24929)) 0 G5.out U HU.out).mono ?_
      rintro e w13 ⟨rfl, hb⟩
      have K13 := kp K12 hb
      clear hb K12
      go_upto_region 21 with fail
      obtain ⟨g13, hg13⟩ : ∃ g, w13.heap.size = g := ⟨_, rfl⟩
      obtain ⟨w14, hw14⟩ : ∃ v, w13.alloc (.cells #[.int .u32 30, .string U] 24) = v := ⟨_, rfl⟩
      have hbk : Hid (Bk w14 g13 24 (chL 30 U)) := Lib.hid (by rw [← hw14, ← hg13]; exact Bk.new w13 _ (chL 30 U))
      have hb : Hid (Below w13.heap.size w13 w14) := Lib.hid (by rw [← hw14]; exact bel1 w13 _)
      have GE_g13 : Hid (w.heap.size ≤ g13) := Lib.hid (by rw [← hg13]; exact K13.out.b.size)
      rw [hw14, hg13]
      have K14 := kp K13 hb
      clear hb K13
      have Kn := kb K14 hbk
      clear hbk K14 hg13 hw14
      have K14 := Kn
      clear Kn
      go_wp2_with fail
      refine (getb_at w14 30 (by decide) g3 43692 (by omega) (K14.out.r (some ⟨g3, 0, none⟩, cs8 (rp 131074 97)) (by simp)) K14.out.t 0 ([]) 3 G6.out Sz HSZ.out).mono ?_
      rintro e w15 ⟨rfl, hb⟩
      have K15 := kp K14 hb
      clear hb K14
      go_upto_region 23 with (refine wpList_loadCh (by rfl) (.tmp 5) rfl rfl (K15.out.k (g5, 24, chL 22 S) (by simp)) ?_)
      obtain ⟨g14, hg14⟩ : ∃ g, w15.heap.size = g := ⟨_, rfl⟩
      obtain ⟨w16, hw16⟩ : ∃ v, w15.alloc (.cells #[.int .u32 22, .string S] 24) = v := ⟨_, rfl⟩
      have hbk : Hid (Bk w16 g14 24 (chL 22 S)) := Lib.hid (by rw [← hw16, ← hg14]; exact Bk.new w15 _ (chL 22 S))
      have hb : Hid (Below w15.heap.size w15 w16) := Lib.hid (by rw [← hw16]; exact bel1 w15 _)
      have GE_g14 : Hid (w.heap.size ≤ g14) := Lib.hid (by rw [← hg14]; exact K15.out.b.size)
      rw [hw16, hg14]
      have LT_g5_g14 : Hid (g5 < g14) := Lib.hid (by rw [← hg14]; exact (K15.out.k (g5, 24, chL 22 S) (by simp)).lt)
      have LT_g13_g14 : Hid (g13 < g14) := Lib.hid (by rw [← hg14]; exact (K15.out.k (g13, 24, chL 30 U) (by simp)).lt)
      have K16 := kp K15 hb
      clear hb K15
      have Kn := kb K16 hbk
      clear hbk K16 hg14 hw16
      have K16 := Kn
      clear Kn
      have c_g14_1 : w16.cell? ⟨g14, 1, none⟩ = some (.string S) := by rw [(K16.out.k (g14, 24, chL 22 S) (by simp)).cell]; rfl
      have hfr := (K16.out.k (g14, 24, chL 22 S) (by simp)).free 1
      obtain ⟨w17, hw17⟩ : ∃ v, w16.setCell ⟨g14, 1, none⟩ (.string L) = v := ⟨_, rfl⟩
      have hgr : w16.grownBy w17 (some g14) := by rw [← hw17]; exact only_store (only_refl w16 (some g14)) 1 _
      have KA := Lib.hid (K16.out.put HT0.out GE_g14.out hgr)
      have KB := kb KA (Lib.hid ((K16.out.k (g13, 24, chL 30 U) (by simp)).only hgr (by intro e; injection e with e; have := LT_g13_g14.out; omega)))
      have KC := kb KB (Lib.hid ((K16.out.k (g5, 24, chL 22 S) (by simp)).only hgr (by intro e; injection e with e; have := LT_g5_g14.out; omega)))
      have KN : Hid (St w [] [(g14, 24, chL 22 L), (g5, 24, chL 22 S), (g13, 24, chL 30 U)] w17) := kb KC (Lib.hid (by rw [← hw17]; exact (K16.out.k (g14, 24, chL 22 S) (by simp)).store 1 (.string L)))
      have HWN := Lib.hid hw17
      clear hw17 hgr KA KB KC K16
      go_upto_region 24 with fail
      rw [HWN.out]
      clear c_g14_1 hfr HWN
      have K17 := KN
      clear KN
      go_wp2_with (refine wpList_loadGg (by rfl) (.tmp 5) rfl rfl (rangeB (K17.out.k (g5, 24, chL 22 S) (by simp))) Tryd.underlying24 rfl infoCh ?_)
      refine (conv_at w17 22 (by decide) (rp 65536 97) h8s.out hls.out S HS.out 30 (by decide) 0 HC2.out 30 S rfl K17.out.t).mono ?_
      rintro e w18 ⟨rfl, hb⟩
      have K18 := kp K17 hb
      clear hb K17
      go_upto_region 25 with fail
      obtain ⟨g15, hg15⟩ : ∃ g, w18.heap.size = g := ⟨_, rfl⟩
      obtain ⟨w19, hw19⟩ : ∃ v, w18.alloc (.cells #[.int .u32 30, .string S] 24) = v := ⟨_, rfl⟩
      have hbk : Hid (Bk w19 g15 24 (chL 30 S)) := Lib.hid (by rw [← hw19, ← hg15]; exact Bk.new w18 _ (chL 30 S))
      have hb : Hid (Below w18.heap.size w18 w19) := Lib.hid (by rw [← hw19]; exact bel1 w18 _)
      have GE_g15 : Hid (w.heap.size ≤ g15) := Lib.hid (by rw [← hg15]; exact K18.out.b.size)
      rw [hw19, hg15]
      have K19 := kp K18 hb
      clear hb K18
      have Kn := kb K19 hbk
      clear hbk K19 hg15 hw19
      have K19 := Kn
      clear Kn
      go_wp2_with (refine wpList_loadGg (by rfl) (.tmp 15) rfl rfl (rangeB (K19.out.k (g15, 24, chL 30 S) (by simp))) Tryd.underlying24 rfl infoCh ?_)
      refine (put_at w19 30 (by decide) (rp 65536 97) h8s.out hls.out S HS.out 0 HC3.out m 131072 HMM.out HML.out K19.out.t).mono ?_
      rintro e w20 ⟨A17, rfl, hr, hb⟩
      have K20 := kp K19 hb
      clear hb K19
      have Kn := ka K20 hr
      clear hr K20
      have K20 := Kn
      clear Kn
      have c_g13_1 : w20.cell? ⟨g13, 1, none⟩ = some (.string U) := by rw [(K20.out.k (g13, 24, chL 30 U) (by simp)).cell]; rfl
      go_wp2_with (refine wpList_loadGg (by rfl) (.tmp 13) rfl rfl (rangeB (K20.out.k (g13, 24, chL 30 U) (by simp))) Tryd.underlying24 rfl infoCh ?_)
      clear c_g13_1
      refine (len_at w20 30 (by decide) (encS (rp 21845 24929)) h8u.out hlu.out U HU.out 21845 HC6.out K20.out.t).mono ?_
      rintro e w21 ⟨rfl, hb⟩
      have K21 := kp K20 hb
      clear hb K20
      go_wp2_with (refine wpList_loadGg (by rfl) (.tmp 5) rfl rfl (rangeB (K21.out.k (g5, 24, chL 22 S) (by simp))) Tryd.underlying24 rfl infoCh ?_)
      refine (chk_at w21 22 (by decide) (rp 65536 97) h8s.out hls.out S HS.out 0 HC1.out K21.out.t).mono ?_
      rintro e w22 ⟨rfl, hb⟩
      have K22 := kp K21 hb
      clear hb K21
      go_wp2_with (refine wpList_loadGg (by rfl) (.tmp 14) rfl rfl (rangeB (K22.out.k (g14, 24, chL 22 L) (by simp))) Tryd.underlying24 rfl infoCh ?_)
      refine (chk_at w22 22 (by decide) (rp 65537 97) h8l.out hll.out L HL.out 3 HC4.out K22.out.t).mono ?_
      rintro e w23 ⟨rfl, hb⟩
      have K23 := kp K22 hb
      clear hb K22
      have c_g14_1 : w23.cell? ⟨g14, 1, none⟩ = some (.string L) := by rw [(K23.out.k (g14, 24, chL 22 L) (by simp)).cell]; rfl
      go_wp2_with fail
      clear c_g14_1
      refine (kinds_at w23 (rp 65537 97) h8l.out hll.out L HL.out [] 0 HC5.out rfl K23.out.t).mono ?_
      rintro e w24 ⟨A18, rfl, hr, hb⟩
      have K24 := kp K23 hb
      clear hb K23
      clear hr
      go_wp2_with fail
      refine (lives_at w24 K24.out.t).mono ?_
      rintro e w25 ⟨rfl, hb⟩
      have K25 := kp K24 hb
      clear hb K24
      go_wp2_with fail
      go_ret
      exact ⟨rfl, K25.out.b⟩

open Go.ChangeShapes Go.WideShapes Go.ChangeAt Go.WideMaps Go.WideElems
set_option maxRecDepth 100000 in
theorem charstringsKnown_lifted (os : Os) (started : os.Started) (H : Type) (enc : TypeId × Value → H) :
    ReturnsInHanded {} Tryd.checked os 9 .any (fun w args => (Rows.charstringsKnownSpec.pre enc Tryd.prog Tryd.f9 [] false w args ∧ laidMetH Tryd.prog laidL w) ∧ sizedMet enc Tryd.prog Tryd.f9 (OpenSpec.ofChange Rows.charstringsKnownSpec) false w args)
      (Rows.charstringsKnownSpec.post enc Tryd.prog Tryd.f9 false true false false) := by
  refine returnsInHanded_of_change_and (C := Tryd.checked) (X := fun w _ => laidMetH Tryd.prog laidL w) (fun _ _ _ hh h => h.of_heap hh) x_own started (by kernel_rfl) Tryd.func9
    (ChangeSpec.witness_shaped (enc := enc) (C := Tryd.checked) (os := os) (X := fun w _ => laidMetH Tryd.prog laidL w) false (World.laidAll Tryd.prog os laidL) #[] 8 (World.laidAll_os _ _ _) (World.shaped_of_ZipB (by kernel_rfl) (by kernel_rfl)) (by kernel_rfl) (by kernel_rfl) (by kernel_rfl) (door_met os _)) ?_
  intro W base args ds gs before hval0 hW _ _ hL _
  have hval : ∀ (j : Nat) t v, Tryd.f9.params[j]? = some t → args[j]? = some v → Value.okWide Tryd.prog W .any base t v := hval0
  have hW' := hW
  obtain ⟨p, q, hA0, hV, rfl, hfz, hnd⟩ := hW
  have hA : DataW.TrodAll enc Tryd.prog W 0 (fun _ => true) true Tryd.f9.params.toList args.toList ds p := hA0
  rw [Tryd.params9] at hA hval
  obtain ⟨rfl, rfl, rfl⟩ := trodAll_none hA
  obtain ⟨rfl, rfl⟩ := trodVars_none hV
  have hE := of_laid hL
  clear hA0 hval0
  simp only [List.append_nil] at hW'
  refine (known_walk W hE).mono fun e W' ⟨he, hb⟩ => ?_
  subst he
  exact ⟨_, rfl, law_post (tb := 4) x_laid (by decide +kernel) rfl rfl (by kernel_rfl) Tryd.underlying4 hW' hb⟩

/-- The row's statement. -/
theorem charstringsKnown_row : Rows.CharstringsKnownSaid :=
  OpenClaim.holds_of_wide 9 Tryd.f9 rfl rfl rfl rfl rfl rfl rfl ⟨rfl, rfl, rfl, rfl, rfl⟩ rfl rfl rfl rfl rfl (by kernel_rfl) Tryd.func9 (by kernel_rfl)
    (of_decide_eq_true (by kernel_rfl)) (by unfold Func.isWrapper; first | (rw [if_pos (by decide +kernel)]; kernel_rfl) | (rw [if_neg (by decide +kernel)]; exact ⟨rfl, rfl⟩))
    (fun os started H enc _ => charstringsKnown_lifted os started H enc)

/-- The statement: the card. -/
theorem charstringsKnown_holds : Rows.CharstringsKnownCardSaid :=
  Claim7.holds_tied_plain_at .later [] [.data, .pinned] true Rows.charstringsKnownCard.stood.harness Rows.charstringsKnownCard.stood.looks
    charstringsKnown_row (fun _ h => by cases h) (by kernel_rfl) (fun _ h => by cases h) charstringsKnown_row_tie rfl ⟨rfl, rfl⟩ (by kernel_rfl) rfl
    (fun f fn hf hfn => by
      obtain rfl : f = 9 := Option.some.inj ((show Tryd.prog.funcNamed "vidimus/vidimuslaw09.CharstringsKnown" = some 9 by kernel_rfl).symm.trans hf) |>.symm
      obtain rfl : fn = Tryd.f9 := (Option.some.inj (Tryd.func9.symm.trans hfn)).symm
      exact ⟨by kernel_rfl, fun j t ht => by
        rw [Tryd.params9] at ht
        exact absurd ht (by simp)⟩)
    (by kernel_rfl)
end Go.Proofs.YthefnfjhnallfaaDoor.Chs
