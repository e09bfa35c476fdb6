/-
  Layer 7, the statement OidsetsKnown: the examples of the chapter; sets of 256 elements, and one more.
  Conditions: the package-level variables that the row lists hold what the program's text lays (the card ties them).
-/
import Derived.Test.YtaiiihdckdjpoaaGreatDoorOgM
import Derived.Test.YtaiiihdckdjpoaaGreatDoorOsPt
namespace Go.Proofs.YtaiiihdckdjpoaaGreatDoor
open Go.RowKit Go.Shelf

theorem giveT_atk {f : FuncId} {args : Array Value} {W : World} {l : List Nat} {S : ByteArray} (h : Calls Tryz.prog f args W (GiveT W l)) (hS : bstr l = S) :
    Calls Tryz.prog f args W fun e w' => e = .returned (.string S) ∧ Hid (Below W.heap.size W w') := by
  subst hS
  exact h.mono fun e w' ⟨h1, h2⟩ => ⟨h1, Lib.hid h2⟩
theorem text_at7k (A : Option Addr) (L : List Od) (n c : Nat) (S : ByteArray) (W : World) (hA : Ino W A L n c) (hm : n ≤ 1000) (hE : Env W) (h1 : chkW L = 0) (hS : bstr (txW L) = S) :
    Calls Tryz.prog 17 #[.slice A n c] W fun e w' => e = .returned (.string S) ∧ Hid (Below W.heap.size W w') := by
  have := textW_any A L n c W hA.rd hA.ln hm hE
  rw [if_pos h1] at this
  exact giveT_atk this hS
theorem parsed_at7k (S : ByteArray) (l : List Nat) (A : Option Addr) (K : List Od) (n d f : Nat) (W : World) (hS : bstr l = S) (h8 : All8 l) (hl : l.length ≤ 1000000) (hE : Env W) (hA : Ino W A K n d) (hm : n ≤ 100000) (hq : prsW l = (K, f)) :
    Calls Tryz.prog 33 #[.string S, .slice A n d, .int .i64 (f : Int)] W fun e w' => e = .returned (.bool true) ∧ Hid (Below W.heap.size W w') := by
  subst hS
  exact (parsedW l h8 hl A K n d f W hE hA hm hq fun hf => prsW_zero hq hf).mono fun _ _ ⟨h1, h2⟩ => ⟨h1, Lib.hid h2⟩
theorem giveP_atk {f : FuncId} {args : Array Value} {W : World} {r : List Od × Nat} {R : List Od} {g k : Nat} (h : Calls Tryz.prog f args W (GivePr W r)) (hr : r = (R, g)) (hk : R.length = k) :
    Calls Tryz.prog f args W fun e w' => ∃ A c, e = .returned (.tuple #[.slice A k c, .int .i64 (g : Int)]) ∧ Hid (Ino w' A R k c) ∧ Hid (Below W.heap.size W w') := by
  subst hr hk
  exact h.mono fun e w' ⟨A, c, h1, h2, h3⟩ => ⟨A, c, h1, Lib.hid h2, Lib.hid h3⟩
theorem rparse_at7k (S : ByteArray) (l : List Nat) (K : List Od) (k f : Nat) (W : World) (hS : bstr l = S) (h8 : All8 l) (hl : l.length ≤ 250) (hq : prsW l = (K, f)) (hk : K.length = k) :
    Calls Tryz.prog 34 #[.string S] W fun e w' => ∃ A c, e = .returned (.tuple #[.slice A k c, .int .i64 (f : Int)]) ∧ Hid (Ino w' A K k c) ∧ Hid (Below W.heap.size W w') := by
  subst hS
  exact giveP_atk (rparseW_any l h8 hl W) hq hk
theorem rtext_at7k (A : Option Addr) (L : List Od) (n c : Nat) (S : ByteArray) (W : World) (hA : Ino W A L n c) (hm : n ≤ 1000) (hS : bstr (txW L) = S) :
    Calls Tryz.prog 32 #[.slice A n c] W fun e w' => e = .returned (.string S) ∧ Hid (Below W.heap.size W w') := giveT_atk (rtextW_any A L n c W hA.rd hA.ln hm) hS
theorem of_at7k (A : Option Addr) (L : List Od) (n c : Nat) (R : List Od) (k : Nat) (W : World) (hA : Ino W A L n c) (hm : n ≤ 256) (hv : ValO L) (hR : ofR L = R) (hk : R.length = k) :
    Calls Tryz.prog 24 #[.slice A n c] W fun e w' => ∃ A', e = .returned (.tuple #[.slice A' k k, .int .i64 0]) ∧ Hid (Ino w' A' R k k) ∧ Hid (Below W.heap.size W w') := by
  subst hR
  refine (of_setany A L n c W hA.rd hA.ln (by omega)).mono fun e w' h => ?_
  obtain ⟨A', N, he, hN, hr, hb⟩ := of_set hv (Nat.le_trans (dis_le L) (by rw [hA.ln]; exact hm)) h
  obtain rfl : N = k := hN.symm.trans hk
  exact ⟨A', he, Lib.hid ⟨hr, hk, Nat.le_refl _, by have := ofR_le L; rw [hA.ln] at this; unfold maxLen; omega⟩, Lib.hid hb⟩
theorem of_bad7k (A : Option Addr) (L : List Od) (n c : Nat) (W : World) (hA : Ino W A L n c) (hm : n ≤ 256) (hv : okA L = false) :
    Calls Tryz.prog 24 #[.slice A n c] W fun e w' => e = .returned (.tuple #[.slice none 0 0, .int .i64 1]) ∧ Hid (Below W.heap.size W w') := by
  refine (of_setany A L n c W hA.rd hA.ln (by omega)).mono fun e w' h => ?_
  unfold GiveOf at h
  rw [if_pos hv] at h
  exact ⟨h.1, Lib.hid h.2⟩
/-! The OIDs 2.0, 2.1, .. -/
def kd (i : Nat) : Od := (2, pad [2, i])
def KL : Nat → List Od
  | 0 => []
  | p + 1 => KL p ++ [kd p]
theorem KL_len : ∀ p, (KL p).length = p
  | 0 => rfl
  | p + 1 => by rw [KL, List.length_append, KL_len p]; rfl
theorem KL_mem : ∀ {p : Nat} {z : Od}, z ∈ KL p ↔ ∃ i, i < p ∧ z = kd i
  | 0, z => by simp [KL]
  | p + 1, z => by
    rw [KL, List.mem_append, KL_mem, List.mem_singleton]
    constructor
    · rintro (⟨i, h1, h2⟩ | h)
      · exact ⟨i, by omega, h2⟩
      · exact ⟨p, by omega, h⟩
    · rintro ⟨i, h1, h2⟩
      rcases Nat.lt_or_ge i p with h | h
      · exact .inl ⟨i, h, h2⟩
      · obtain rfl : i = p := by omega
        exact .inr h2
theorem kd_ok {i : Nat} (h : i < 4294967296) : OkO 2 (pad [2, i]) := okO_pad (l := [2, i]) (by simp) fun x hx => by
  simp at hx
  omega
theorem kd_vd {i : Nat} (h : i ≤ 4294967215) : chkO 2 (pad [2, i]) = 0 := by
  unfold chkO
  refine if_pos ⟨by decide, by decide, ?_, rfl⟩
  show (decide (2 ≤ 2) && decide (i ≤ if 2 = 2 then 4294967215 else 39)) = true
  simp [h]
theorem kd_lt {i j : Nat} (h : i < j) : cmpO 2 (pad [2, i]) 2 (pad [2, j]) < 0 := by
  show cmpL [2, i] [2, j] < 0
  simp [cmpL, h]
theorem SetO.snoc {L : List Od} {o : Od} (h : SetO L) (ho : OkO o.1 o.2) (h1 : chkO o.1 o.2 = 0) (h2 : ∀ z ∈ L, cmpO z.1 z.2 o.1 o.2 < 0) : SetO (L ++ [o]) :=
  ⟨h.ok.app (OkL.cons ho OkL.nil), fun x hx => by
    rcases List.mem_append.1 hx with hx | hx
    · exact h.vd x hx
    · rw [List.mem_singleton] at hx; rw [hx]; exact h1, List.pairwise_append.2 ⟨h.asc, List.pairwise_singleton _ _, fun a ha b hb => by
    rw [List.mem_singleton] at hb
    rw [hb]
    exact h2 a ha⟩⟩
theorem KL_set : ∀ (p : Nat), p ≤ 1000 → SetO (KL p)
  | 0, _ => SetO.nil
  | p + 1, h => (KL_set p (by omega)).snoc (kd_ok (by omega)) (kd_vd (by omega)) fun z hz => by
    obtain ⟨i, h1, rfl⟩ := KL_mem.1 hz
    exact kd_lt h1
theorem SetO.nodup {L : List Od} (h : SetO L) : L.Nodup := h.asc.imp fun {a b} hab e => by
  subst e
  exact cmpO_irr a hab
theorem disM_self : ∀ (L A : List Od), (A ++ L).Nodup → disM A L = A ++ L
  | [], A, _ => by rw [List.append_nil]; rfl
  | o :: L, A, h => by
    have hn : o ∉ A := fun ho => (List.nodup_append.1 h).2.2 o ho o (by simp) rfl
    have e : insM A o = A ++ [o] := if_neg hn
    show disM (insM A o) L = _
    rw [e, disM_self L (A ++ [o]) (by rw [List.append_assoc]; exact h), List.append_assoc]
    rfl
theorem over_of {L : List Od} (h : SetO L) (hl : 256 < L.length) (w : World) (A : Option Addr) (n c : Nat) (hA : Ino w A L n c) (hm : n ≤ 100000) :
    Calls Tryz.prog 24 #[.slice A n c] w fun e w' => e = .returned (.tuple #[.slice none 0 0, .int .i64 3]) ∧ Hid (Below w.heap.size w w') := by
  refine (of_setany A L n c w hA.rd hA.ln hm).mono fun e w' hg => ?_
  have hd : disM [] L = L := disM_self L [] h.nodup
  unfold GiveOf at hg
  rw [if_neg (by rw [(okA_val h.ok).2 h.val]; decide), if_pos (capM_many (by rw [hd]; exact hl))] at hg
  exact ⟨hg.1, Lib.hid hg.2⟩
theorem text_over {L : List Od} (h : SetO L) (hl : L.length = 257) : prsW (txW L) = ([], 3) := by
  obtain ⟨o, M, rfl⟩ : ∃ o M, L = o :: M := by
    cases L with
    | nil => cases hl
    | cons o M => exact ⟨o, M, rfl⟩
  have hs := splitS_sj (L := M) o fun x hx => h.vd x hx
  have hne : sj (o :: M) ≠ [] := by
    rw [sj_cons]
    intro e
    exact txO_ne (h.ok o (by simp)) (h.vd o (by simp)) (List.append_eq_nil_iff.1 e).1
  have hall : (splitS (sj (o :: M))).all nE = true := by
    rw [hs, List.all_map, List.all_eq_true]
    intro x hx
    have := txO_ne (h.ok x hx) (h.vd x hx)
    simp [nE, this]
  have hi : insW (txW (o :: M)) = (sj (o :: M), 0) := by unfold txW; rw [insW_in, if_neg hne, if_pos hall]
  have hk : kq (splitS (sj (o :: M))) = o :: M := by
    unfold kq
    rw [hs, od_map (fun x hx => h.ok x hx) fun x hx => h.vd x hx, List.take_of_length_le (by omega)]
  have hc : chkW (o :: M) = 3 := by unfold chkW; rw [if_pos (by omega)]
  unfold prsW
  rw [hi]
  dsimp only
  rw [if_neg (by simp), if_neg hne, hk, hc, hs, frE_map (fun x hx => h.ok x hx) fun x hx => h.vd x hx]
  simp
theorem ino_mid {w : World} {A : Option Addr} {L : List Od} {n c : Nat} (h : Ino w A L n c) (p q : Nat) (hp : p ≤ q) (hq : q ≤ n) (hpc : p < c) (hn0 : 0 < n) :
    ∃ A', (∀ W, (Instr.slice 22 (.slice A n c) (some (.int .i64 (p : Int))) (some (.int .i64 (q : Int))) none).run Tryz.prog W = .ok (.slice A' (q - p) (c - p)) W) ∧
      (∀ W, (Instr.sliceAt 22 (.slice A n c) (some (.int .i64 (p : Int))) (some (.int .i64 (q : Int))) none).run Tryz.prog W = .ok (.slice A' (q - p) (c - p)) W) ∧ RdO w A' ((L.take q).drop p) := by
  have hlc := h.lc
  have hcm := h.cm
  have hln := h.ln
  have hsz : ∀ W, (sizeOf (Tryz.prog.elem 22)).run Tryz.prog W = .ok 17 W := fun W => by kernel_rfl
  have q0 : ∀ W : World, (Instr.slice 22 (.slice A n c) (some (.int .i64 (p : Int))) (some (.int .i64 (q : Int))) none).run Tryz.prog W = .ok (sliced A p q c 17) W := fun W => by
    rw [run_slice_lh (P := Tryz.prog) W 22 A n c (by kernel_rfl) .i64 .i64 (p : Int) (q : Int) (by omega) (by omega) (by omega), hsz W]
    simp only [Result.andThen, Int.toNat_natCast]
  obtain ⟨b, off, rfl, -, -, -⟩ := h.rd.at_ (i := 0) (by omega)
  have qq : ∀ W : World, (Instr.slice 22 (.slice (some ⟨b, off, none⟩) n c) (some (.int .i64 (p : Int))) (some (.int .i64 (q : Int))) none).run Tryz.prog W = .ok (.slice (some ⟨b, off + p * 17, none⟩) (q - p) (c - p)) W := fun W => by
    rw [q0 W]
    simp only [sliced, Option.map_some, addr_addO]
    rw [if_neg (by omega)]
  refine ⟨_, qq, fun W => ?_, (h.rd.take_ q).drop_ p⟩
  rw [← qq W]; exact run_sliceAt_slice (P := Tryz.prog) W 22 _ _ _ _ (by kernel_rfl)
theorem wpList_loadOg {ops : Array Oper} {rest : List Oper} {o : Oper} {a : Act} {w : World} {Q : Exit → Act → World → Prop} (hw : Region.wanted o (yielded ops a.tmps) = true) (x : Operand) (ho : o.op = .load 26 x)
    {b off n : Nat} {l : List Nat} (hx : a.eval x = .pointer (some ⟨b, off, none⟩)) (hg : w.rangeAt b off (oc n l)) (hl : l.length = 16) (h : wpList Tryz.prog ops Q rest (a.put o.dst (oV n l)) w) : wpList Tryz.prog ops Q (o :: rest) a w :=
  BigFrame.wpList_want hw fun _ hK => wp_load_mid _ x ho b off hx (oc n l) _ hg Tryz.underlying26 rfl (by rw [oc_length, hl]; exact info25) (hK _ _ h)
theorem of_two (i : Nat) (h : i ≤ 4294967215) (W : World) : Calls Tryz.prog 35 #[.slice (some ⟨W.heap.size, 0, none⟩) 2 2] (W.alloc (.cells #[.int .u32 2, .int .u32 (i : Int)] 23)) fun e w' => e = .returned (oV 2 (pad [2, i])) ∧ Hid (Below W.heap.size W w') := by
  have h32 : ∀ x ∈ [2, i], x < 4294967296 := fun x hx => by simp at hx; omega
  have hy : ([2, i] : List Nat).length ≤ 16 ∧ chkO ([2, i] : List Nat).length (pad [2, i]) = 0 := ⟨by simp, kd_vd h⟩
  have hc := of_any (some ⟨W.heap.size, 0, none⟩) [2, i] 2 (W.alloc (.cells (cs32 [2, i]).toArray 23)) (by show 2 ≤ maxLen; unfold maxLen; omega) h32 (arcs_rd W [2, i])
  rw [show ofN [2, i] = 2 from (if_pos hy).trans rfl, show ofL [2, i] = pad [2, i] from if_pos hy] at hc
  exact hc.mono fun e w' ⟨h1, h2⟩ => ⟨h1, Lib.hid ((bel1 W _).trans (h2.mono (bel1 W _).size))⟩

set_option linter.unusedSimpArgs false in
set_option linter.unusedVariables false in
set_option maxHeartbeats 16000000 in
set_option maxRecDepth 100000 in
theorem known7_walk (w : World) (hE : Env w) :
    Calls Tryz.prog 8 #[] w fun e w' => e = .returned (.bool true) ∧ Below w.heap.size w w' := by
  have E0 := Lib.hid hE
  obtain ⟨K0, hK0⟩ : ∃ K, K = KL := ⟨_, rfl⟩
  have HK0 := Lib.hid hK0
  clear hE hK0
  go_enter Tryz.func8, Tryz.ntmps8
  go_upto_region 3 with fail
  go_loopw [2, 1] (fun i v wr => ∃ p : Nat, p ≤ 257 ∧ i = .int .i64 (p : Int) ∧ PO w.heap.size (K0 p) v wr ∧ Below w.heap.size w wr) (fun i _ _ => 257 - (intOf i).toNat)
  case atStart => exact ⟨0, Nat.zero_le _, rfl, by rw [HK0.out]; exact PO.new w, Below.refl _ _⟩
  case round =>
    obtain ⟨p, hp, rfl, hpo, hbl⟩ := hrel
    have BL := Lib.hid hbl
    have PK := Lib.hid hpo
    obtain ⟨Ak, ck, rfl, hk1, hk2, hrk, hform⟩ := hpo.form
    have HRK := Lib.hid hrk
    have HK1 := Lib.hid hk1
    have HK2 := Lib.hid hk2
    have HFM := Lib.hid hform
    have hlen : (K0 p).length = p := by rw [HK0.out, KL_len]
    clear hbl hpo hrk hk1 hk2 hform
    rcases Nat.lt_or_ge p 257 with hlt | hge
    · have hpm : (p : Int) % 4294967296 = (p : Int) := by omega
      have CO := Lib.hid (fun W => of_two p (by omega) W)
      have HOK := Lib.hid (kd_ok (i := p) (by omega))
      have HNX : Hid (K0 (p + 1) = K0 p ++ [(2, pad [2, p])]) := Lib.hid (by rw [HK0.out]; rfl)
      have hl16 := HOK.out.len
      generalize pad [2, p] = pl at *
      generalize K0 p = K at *
      have HLN := Lib.hid hlen
      clear hlen
      rw [HLN.out] at HK1 PK ⊢
      go_wp2_with fail
      refine (CO.out _).mono ?_
      rintro e w2 ⟨rfl, hb2⟩
      have B2 := Lib.hid (BL.out.trans (hb2.out.mono BL.out.size))
      have P2 := Lib.hid (PK.out.below hb2.out)
      obtain ⟨v3, w3, hrun, hpo3, hb3⟩ := P2.out.push (by rw [HLN.out]; omega) HOK.out
      have HRUN := Lib.hid hrun
      have P3 := Lib.hid hpo3
      have B3 := Lib.hid (B2.out.trans hb3)
      clear hb2 hrun hpo3 hb3 BL PK HRK P2 B2
      go_wp2_with (first
        | (refine wpList_buildO rfl 25 rfl rfl hl16 ?_)
        | (at_builtin; refine wpList_appO rfl _ _ _ _ rfl _ _ rfl rfl HRUN.out ?_))
      exact ⟨⟨p + 1, by omega, by go_num, by rw [HNX.out]; exact P3.out, B3.out⟩, by simp [intOf]; omega⟩
    · obtain rfl : p = 257 := by omega
      have hgl : ∃ gl, Ak = some ⟨gl, 0, none⟩ := by
        rcases HFM.out with ⟨-, -, h⟩ | ⟨gl, h, -, -⟩
        · rw [h] at hlen; cases hlen
        · exact ⟨gl, h⟩
      obtain ⟨gl, rfl⟩ := hgl
      have hc257 : 257 ≤ ck := by have := HK1.out; rw [hlen] at this; exact this
      rw [HK0.out] at HRK hlen PK ⊢
      rw [show (KL 257).length = 257 from KL_len 257] at PK ⊢
      obtain ⟨AL, hAL⟩ : ∃ AL, KL 257 = AL := ⟨_, rfl⟩
      obtain ⟨FL, hFL⟩ : ∃ FL, KL 256 = FL := ⟨_, rfl⟩
      have hAF : AL = FL ++ [kd 256] := by rw [← hAL, ← hFL]; rfl
      have hEF : FL = KL 255 ++ [kd 255] := by rw [← hFL]; rfl
      have hsA : SetO AL := by rw [← hAL]; exact KL_set 257 (by omega)
      have hsF : SetO FL := by rw [← hFL]; exact KL_set 256 (by omega)
      have hlA : AL.length = 257 := by rw [← hAL]; exact KL_len 257
      have hlF : FL.length = 256 := by rw [← hFL]; exact KL_len 256
      have htk : AL.take 256 = FL := by rw [hAF]; exact List.take_left' hlF
      have hdr : AL.drop 256 = [kd 256] := by rw [hAF]; exact List.drop_left' hlF
      have hmd : (AL.take 256).drop 255 = [kd 255] := by rw [htk, hEF]; exact List.drop_left' (KL_len 255)
      have hgA : ∀ q (h : q < AL.length), AL[q] = kd q := fun q h => by
        have hm : ∀ (p q : Nat) (h : q < (KL p).length), (KL p)[q] = kd q := fun p => by
          induction p with
          | zero => intro q h; cases h
          | succ p ih =>
            intro q h
            rw [KL_len] at h
            simp only [KL]
            rcases Nat.lt_or_ge q p with h2 | h2
            · rw [List.getElem_append_left (by rw [KL_len]; exact h2)]; exact ih q _
            · obtain rfl : q = p := by omega
              rw [List.getElem_append_right (by rw [KL_len]; exact Nat.le_refl _)]
              simp [KL_len]
        subst hAL
        exact hm 257 q h
      have hrd : RdO wr (some ⟨gl, 0, none⟩) AL := by rw [← hAL]; exact HRK.out
      have hia : Ino wr (some ⟨gl, 0, none⟩) AL 257 ck := ⟨hrd, hlA, hc257, HK2.out⟩
      have hif : Ino wr (some ⟨gl, 0, none⟩) FL 256 ck := ⟨by rw [← htk]; exact hrd.take_ 256, hlF, by omega, HK2.out⟩
      have s0 := slTO (some ⟨gl, 0, none⟩) 257 ck 256 (by omega)
      obtain ⟨A6, s1, s2, hr6⟩ := hia.from_ 256 (by omega)
      obtain ⟨A5, s3, s4, hr5⟩ := ino_mid hia 255 256 (by omega) (by omega) (by omega) (by omega)
      rw [hdr] at hr6
      rw [hmd] at hr5
      obtain ⟨c6, hc6⟩ : ∃ c6, ck - 256 = c6 := ⟨_, rfl⟩
      obtain ⟨c5, hc5⟩ : ∃ c5, ck - 255 = c5 := ⟨_, rfl⟩
      have hck := HK2.out
      have hi6 : Ino wr A6 [kd 256] 1 c6 := ⟨hr6, rfl, by omega, by omega⟩
      have hi5 : Ino wr A5 [kd 255] 1 c5 := ⟨hr5, rfl, by omega, by omega⟩
      have s0 : ∀ W, (Instr.slice 22 (.slice (some ⟨gl, 0, none⟩) 257 ck) none (some (.int .i64 256)) none).run Tryz.prog W = .ok (.slice (some ⟨gl, 0, none⟩) 256 ck) W := s0
      have s1 : ∀ W, (Instr.slice 22 (.slice (some ⟨gl, 0, none⟩) 257 ck) (some (.int .i64 256)) none none).run Tryz.prog W = .ok (.slice A6 1 c6) W := fun W => by rw [← hc6]; exact s1 W
      have s2 : ∀ W, (Instr.sliceAt 22 (.slice (some ⟨gl, 0, none⟩) 257 ck) (some (.int .i64 256)) none none).run Tryz.prog W = .ok (.slice A6 1 c6) W := fun W => by rw [← hc6]; exact s2 W
      have s3 : ∀ W, (Instr.slice 22 (.slice (some ⟨gl, 0, none⟩) 257 ck) (some (.int .i64 255)) (some (.int .i64 256)) none).run Tryz.prog W = .ok (.slice A5 1 c5) W := fun W => by rw [← hc5]; exact s3 W
      have s4 : ∀ W, (Instr.sliceAt 22 (.slice (some ⟨gl, 0, none⟩) 257 ck) (some (.int .i64 255)) (some (.int .i64 256)) none).run Tryz.prog W = .ok (.slice A5 1 c5) W := fun W => by rw [← hc5]; exact s4 W
      have hsL : SetO [kd 256] := SetO.nil.snoc (o := kd 256) (kd_ok (by omega)) (kd_vd (by omega)) (fun z h => absurd h (by simp))
      have hsE : SetO [kd 255] := SetO.nil.snoc (o := kd 255) (kd_ok (by omega)) (kd_vd (by omega)) (fun z h => absurd h (by simp))
      have HVF : Hid (ValO FL) := Lib.hid hsF.val
      have HOF : Hid (ofR FL = FL) := Lib.hid (ofR_self hsF)
      have HLF : Hid (FL.length = 256) := Lib.hid hlF
      have HSAX := Lib.hid hsA
      have HLA := Lib.hid hlA
      have hmu1 := uni_ofR hsF hsL
      have hU1 : mrg uK (FL.length + [kd 256].length) FL [kd 256] = AL := by rw [hmu1, ← hAF]; exact ofR_self hsA
      have HU1 : Hid (uniR FL [kd 256] = ([], 3)) := Lib.hid (by
        unfold uniR
        rw [cmb_ok uK hsF hsL (by omega) (by simp), hU1, if_pos (by dsimp only; omega)])
      have hU2 : mrg uK (FL.length + [kd 255].length) FL [kd 255] = FL := (set_mrg uK hsF hsE).uniq hsF fun z => by
        rw [mem_uni hsF hsE, List.mem_singleton]
        constructor
        · rintro (h | h)
          · exact h
          · rw [h, hEF]; simp
        · exact .inl
      have HU2 : Hid (uniR FL [kd 255] = (FL, 0)) := Lib.hid (by
        unfold uniR
        rw [cmb_ok uK hsF hsE (by omega) (by simp), hU2, if_neg (by dsimp only; omega)])
      have HCF : Hid (chkW FL = 0) := Lib.hid (hsF.chk (by omega))
      have HCA : Hid (chkW AL = 3) := Lib.hid (by unfold chkW; rw [if_pos (by omega)])
      have HTW : Hid (ValO (FL ++ FL) ∧ ofR (FL ++ FL) = FL ∧ (disM [] (FL ++ FL)).length ≤ 256) := Lib.hid (by
        have hv := hsF.val.app hsF.val
        refine ⟨hv, (ofR_set hv).uniq hsF fun z => by rw [mem_ofR hv, List.mem_append, or_self], ?_⟩
        have hd : disM [] (FL ++ FL) = FL := by
          have h1 : disM [] (FL ++ FL) = disM (disM [] FL) FL := List.foldl_append
          rw [h1, disM_self FL [] hsF.nodup, List.nil_append]
          have h2 : ∀ (M : List Od), (∀ z ∈ M, z ∈ FL) → disM FL M = FL := fun M => by
            induction M with
            | nil => intro _; rfl
            | cons o M ih =>
              intro h
              have e : insM FL o = FL := if_pos (h o (by simp))
              show disM (insM FL o) M = FL
              rw [e]
              exact ih fun z hz => h z (by simp [hz])
          exact h2 FL fun z hz => hz
        rw [hd, hlF]; decide)
      have HPT : Hid (prsW (txW FL) = (FL, 0)) := Lib.hid (text_prsW hsF (by omega))
      have HPO : Hid (prsW (txW AL) = ([], 3)) := Lib.hid (text_over hsA hlA)
      have HTL : Hid ((txW FL).length ≤ 1000000 ∧ (txW AL).length ≤ 1000000) := Lib.hid (by
        have h1 := txW_len hsF.ok
        have h2 := txW_len hsA.ok
        omega)
      have HGE : Hid (∀ q, q < 256 → ∀ W, RdO W (some ⟨gl, 0, none⟩) AL → W.rangeAt gl (q * 17) (oc 2 (pad [2, q])) ∧ OkO 2 (pad [2, q]) ∧ hasR FL (2, pad [2, q]) = true) := Lib.hid (fun q hq W h => by
        obtain ⟨b, off, e, _, hr, ho⟩ := h.at_ (i := q) (by rw [hlA]; omega)
        injection e with e
        injection e with e1 e2
        subst e1 e2
        rw [hgA q (by rw [hlA]; omega)] at hr ho
        rw [Nat.zero_add] at hr
        refine ⟨hr, ho, ?_⟩
        unfold hasR
        rw [decide_eq_true HCF.out, decide_eq_true (show ((2, pad [2, q]) : Od) ∈ FL by rw [← hFL]; exact KL_mem.2 ⟨q, hq, rfl⟩)]
        rfl)
      have HGL : Hid (∀ W, RdO W (some ⟨gl, 0, none⟩) AL → W.rangeAt gl 4352 (oc 2 (pad [2, 256])) ∧ OkO 2 (pad [2, 256]) ∧ W.rangeAt gl 0 (oc 2 (pad [2, 0])) ∧ OkO 2 (pad [2, 0])) := Lib.hid (fun W h => by
        obtain ⟨b, off, e, _, hr, ho⟩ := h.at_ (i := 256) (by rw [hlA]; omega)
        injection e with e
        injection e with e1 e2
        subst e1 e2
        rw [hgA 256 (by rw [hlA]; omega)] at hr ho
        obtain ⟨b, off, e, _, hr0, ho0⟩ := h.at_ (i := 0) (by rw [hlA]; omega)
        injection e with e
        injection e with e1 e2
        subst e1 e2
        rw [hgA 0 (by rw [hlA]; omega)] at hr0 ho0
        exact ⟨hr, ho, hr0, ho0⟩)
      have HHF : Hid (hasR FL (2, pad [2, 256]) = false) := Lib.hid (by
        unfold hasR
        rw [decide_eq_false (p := ((2, pad [2, 256]) : Od) ∈ FL) (fun h => by
          have := hsA.nodup
          rw [hAF] at this
          exact (List.nodup_append.1 this).2.2 _ h (kd 256) (by simp) rfl), Bool.and_false])
      have HHA : Hid (hasR AL (2, pad [2, 0]) = false) := Lib.hid (by unfold hasR; rw [HCA.out]; rfl)
      obtain ⟨T, hT⟩ : ∃ T, bstr (txW FL) = T := ⟨_, rfl⟩
      obtain ⟨T1, hT1⟩ : ∃ T1, bstr (123 :: sj FL) = T1 := ⟨_, rfl⟩
      obtain ⟨T2, hT2⟩ : ∃ T2, bstr (txW AL) = T2 := ⟨_, rfl⟩
      have HT := Lib.hid hT
      have HT2 := Lib.hid hT2
      obtain ⟨N, hN⟩ : ∃ N, (txW FL).length = N := ⟨_, rfl⟩
      have hNm : N ≤ 1000000 := by rw [← hN]; exact HTL.out.1
      have hN1 : (123 :: sj FL).length = N - 1 ∧ 1 ≤ N := by
        rw [← hN]
        unfold txW
        simp
      have hsz : T.size = N := by rw [← hT, ← hN]; exact bstr_size _
      have hNw : (N : Int) - 1 = ((N - 1 : Nat) : Int) := by omega
      have hsT : ∀ W, (Instr.slice 9 (.string T) none (some (.int .i64 ((N - 1 : Nat) : Int))) none).run Tryz.prog W = .ok (.string T1) W := fun W => by
        rw [run_slice_string_h (P := Tryz.prog) W 9 T Tryz.underlying9 .i64 ((N - 1 : Nat) : Int) (by omega) (by rw [hsz]; omega), Int.toNat_natCast, ← hT, ← hT1, bstr_extract, List.drop_zero]
        congr 3
        unfold txW
        rw [← hN1.1]
        show (123 :: (sj FL ++ [125])).take (123 :: sj FL).length = _
        rw [← List.cons_append]
        exact List.take_left
      have hsT' : ∀ W, (Instr.sliceAt 9 (.string T) none (some (.int .i64 ((N - 1 : Nat) : Int))) none).run Tryz.prog W = .ok (.string T1) W := fun W => by
        rw [run_sliceAt_string (P := Tryz.prog) W 9 _ _ _ _ Tryz.underlying9]; exact hsT W
      have hcat : T1 ++ ⟨#[32, 50, 46, 50, 53, 54, 125]⟩ = T2 := by
        rw [← hT1, ← hT2]
        have h1 : (⟨#[32, 50, 46, 50, 53, 54, 125]⟩ : ByteArray) = bstr (32 :: txO 2 (pad [2, 256]) ++ [125]) := by decide +kernel
        rw [h1, bstr_app]
        congr 1
        unfold txW
        rw [hAF, sj_snoc (fun e => by rw [e] at hlF; cases hlF)]
        simp [kd]
      have hz1 : ¬ 9223372036854775807 < T1.size + 7 := by rw [← hT1, bstr_size, hN1.1]; omega
      have hz2 : ¬ 9223372036854775807 < T1.size + (⟨#[32, 50, 46, 50, 53, 54, 125]⟩ : ByteArray).size := hz1
      obtain ⟨n1, hn1⟩ : ∃ n1, N - 1 = n1 := ⟨_, rfl⟩
      rw [hn1] at hNw hsT hsT'
      have HAL := Lib.hid hAL
      have K2 : Hid (St7 w [(some ⟨gl, 0, none⟩, AL, 257, ck), (some ⟨gl, 0, none⟩, FL, 256, ck), (A6, [kd 256], 1, c6), (A5, [kd 255], 1, c5)] wr) := Lib.hid ((((St7.add ⟨BL.out, E0.out.below BL.out, fun _ h => absurd h (by simp)⟩ hi5).add hi6).add hif).add hia)
      clear hAL hFL hAF hEF hsA hsF hlA hlF htk hdr hmd hgA hrd hia hif hr6 hr5 hi6 hi5 hc6 hc5 hsL hsE hmu1 hU1 hU2 hT hT1 hT2 hN hN1 hn1 hck hc257 HAL HRK BL PK HFM HK1 hlen
      generalize [kd 256] = LL at *
      generalize [kd 255] = LE at *
      go_upto_region 6 with fail
      have hdr : Hid (Below wr.heap.size wr wr.drew) := Lib.hid (Below.refl _ wr).drew
      have K3 := kp7 K2 hdr
      clear hdr K2
      refine wp_region_held_drew (S := fun _ => True) (by kernel_rfl) trivial (fun hS => ?_)
      generalize wr.drew = w3 at *
      refine wpAnyH_take (i := 0) (oi := ⟨some 28, _, _, _, _, _⟩) (v := .slice (some ⟨gl, 0, none⟩) 257 ck) rfl (by kernel_rfl) (by kernel_rfl) (by kernel_rfl) (fun _ _ _ h => h) (Or.inl ⟨by rfl, fun w hSw => by go_simp⟩) hS ?_
      simp only [Act.put, List.setIfInBounds_toArray, List.set_cons_zero, List.set_cons_succ]
      refine wpAnyH_take (i := 1) (oi := ⟨some 29, _, _, _, _, _⟩) (v := .slice (some ⟨gl, 0, none⟩) 256 ck) rfl (by kernel_rfl) (by kernel_rfl) (by kernel_rfl) (fun _ _ _ h => h) (Or.inl ⟨by rfl, fun w hSw => by go_simp⟩) hS ?_
      simp only [Act.put, List.setIfInBounds_toArray, List.set_cons_zero, List.set_cons_succ]
      refine wpAnyH_take (i := 2) (oi := ⟨some 30, _, _, _, _, _⟩) (v := .slice (some ⟨gl, 0, none⟩) 257 ck) rfl (by kernel_rfl) (by kernel_rfl) (by kernel_rfl) (fun _ _ _ h => h) (Or.inl ⟨by rfl, fun w hSw => by go_simp⟩) hS ?_
      simp only [Act.put, List.setIfInBounds_toArray, List.set_cons_zero, List.set_cons_succ]
      refine wpAnyH_take (i := 3) (oi := ⟨some 31, _, _, _, _, _⟩) (v := .slice A6 1 c6) rfl (by kernel_rfl) (by kernel_rfl) (by kernel_rfl) (fun _ _ _ h => h) (Or.inl ⟨by rfl, fun w hSw => by go_simp⟩) hS ?_
      simp only [Act.put, List.setIfInBounds_toArray, List.set_cons_zero, List.set_cons_succ]
      refine wpAnyH_take (i := 4) (oi := ⟨some 3, _, _, _, _, _⟩) (v := .slice (some ⟨gl, 0, none⟩) 256 ck) rfl (by kernel_rfl) (by kernel_rfl) (by kernel_rfl) (fun _ _ _ h => h) (Or.inl ⟨by rfl, fun w hSw => by go_simp⟩) hS ?_
      simp only [Act.put, List.setIfInBounds_toArray, List.set_cons_zero, List.set_cons_succ]
      refine wpAnyH_take (i := 5) (oi := ⟨some 4, _, _, _, _, _⟩) (v := .slice A6 1 c6) rfl (by kernel_rfl) (by kernel_rfl) (by kernel_rfl) (fun _ _ _ h => h) (Or.inl ⟨by rfl, fun w hSw => by go_simp⟩) hS ?_
      simp only [Act.put, List.setIfInBounds_toArray, List.set_cons_zero, List.set_cons_succ]
      refine wpAnyH_done (by kernel_rfl) ?_ _
      clear hS
      go_wp2_with fail
      refine (of_at7k (some ⟨gl, 0, none⟩) FL 256 ck FL 256 _ (K3.out.r (some ⟨gl, 0, none⟩, FL, 256, ck) (by simp)) (by omega) HVF.out HOF.out HLF.out).mono ?_
      rintro e w4 ⟨A1, rfl, hi, hb⟩
      have K4 := kp7 K3 hb
      clear hb K3
      have K4n := ka7 K4 hi
      clear hi K4
      have K4 := K4n
      clear K4n
      go_wp2_with fail
      refine (over_of HSAX.out (by rw [HLA.out]; decide) _ (some ⟨gl, 0, none⟩) 257 ck (K4.out.r (some ⟨gl, 0, none⟩, AL, 257, ck) (by simp)) (by omega)).mono ?_
      rintro e w5 ⟨rfl, hb⟩
      have K5 := kp7 K4 hb
      clear hb K4
      go_wp2_with fail
      refine (giveL_at (union_any (some ⟨gl, 0, none⟩) A6 FL LL 256 1 ck c6 _ (K5.out.r (some ⟨gl, 0, none⟩, FL, 256, ck) (by simp)) (K5.out.r (A6, LL, 1, c6) (by simp)) (by omega) (by omega)) HU1.out rfl (by decide)).mono ?_
      rintro e w6 ⟨A2, rfl, hi, hb⟩
      have K6 := kp7 K5 hb
      clear hb K5
      clear hi
      go_wp2_with fail
      refine (giveL_at (union_any (some ⟨gl, 0, none⟩) A5 FL LE 256 1 ck c5 _ (K6.out.r (some ⟨gl, 0, none⟩, FL, 256, ck) (by simp)) (K6.out.r (A5, LE, 1, c5) (by simp)) (by omega) (by omega)) HU2.out HLF.out (by decide)).mono ?_
      rintro e w7 ⟨A3, rfl, hi, hb⟩
      have K7 := kp7 K6 hb
      clear hb K6
      have K7n := ka7 K7 hi
      clear hi K7
      have K7 := K7n
      clear K7n
      go_wp2_with fail
      refine (same_at7 A1 (some ⟨gl, 0, none⟩) FL 256 ck _ (K7.out.r (A1, FL, 256, 256) (by simp)) (K7.out.r (some ⟨gl, 0, none⟩, FL, 256, ck) (by simp)) (by omega)).mono ?_
      rintro e w8 ⟨rfl, hb⟩
      have K8 := kp7 K7 hb
      clear hb K7
      go_wp2_with fail
      refine (same_at7 A3 (some ⟨gl, 0, none⟩) FL 256 ck _ (K8.out.r (A3, FL, 256, 256) (by simp)) (K8.out.r (some ⟨gl, 0, none⟩, FL, 256, ck) (by simp)) (by omega)).mono ?_
      rintro e w9 ⟨rfl, hb⟩
      have K9 := kp7 K8 hb
      clear hb K8
      go_wp2_with fail
      refine (giveF_at (ochk_any (some ⟨gl, 0, none⟩) FL 256 ck _ (K9.out.r (some ⟨gl, 0, none⟩, FL, 256, ck) (by simp)).rd (K9.out.r (some ⟨gl, 0, none⟩, FL, 256, ck) (by simp)).ln (by omega)) HCF.out).mono ?_
      rintro e w10 ⟨rfl, hb⟩
      have K10 := kp7 K9 hb
      clear hb K9
      go_wp2_with fail
      refine (giveF_at (ochk_any (some ⟨gl, 0, none⟩) AL 257 ck _ (K10.out.r (some ⟨gl, 0, none⟩, AL, 257, ck) (by simp)).rd (K10.out.r (some ⟨gl, 0, none⟩, AL, 257, ck) (by simp)).ln (by omega)) HCA.out).mono ?_
      rintro e w11 ⟨rfl, hb⟩
      have K11 := kp7 K10 hb
      clear hb K10
      have PE := PO.empty (B := w11.heap.size) w11 (Nat.le_refl _)
      have hbe := bel1 w11 (.cells #[] 26)
      obtain ⟨v1, wa, hrun1, hp1, hb1⟩ := PE.pushAll ((K11.out.r (some ⟨gl, 0, none⟩, FL, 256, ck) (by simp)).rd.below hbe) (by rw [HLF.out]; decide) 256 ck HLF.out
      have hb1' := hbe.trans (hb1.mono (Nat.le_refl _))
      obtain ⟨v2, wb, hrun2, hp2, hb2⟩ := hp1.pushAll ((K11.out.r (some ⟨gl, 0, none⟩, FL, 256, ck) (by simp)).rd.below hb1') (by rw [List.length_append, HLF.out]; decide) 256 ck HLF.out
      obtain ⟨A4, c4, rfl, h1, h2, h3, _⟩ := hp2.form
      rw [List.nil_append] at h1 h3 hrun2
      have HIN : Hid (Ino wb A4 (FL ++ FL) 512 c4) := Lib.hid ⟨h3, by rw [List.length_append, HLF.out], by rw [List.length_append, HLF.out] at h1; exact h1, h2⟩
      rw [show (FL ++ FL).length = 512 by rw [List.length_append, HLF.out]] at hrun2
      have HRUN1 := Lib.hid hrun1
      have HRUN2 := Lib.hid hrun2
      have K12 := kp7 K11 (Lib.hid (hb1'.trans (hb2.mono (Nat.le_refl _))))
      clear PE hbe hrun1 hp1 hb1 hb1' hrun2 hp2 hb2 h1 h2 h3
      go_wp2_with (at_builtin; first | (refine wpList_appO (o := ⟨some 88, _, _, _, _, _⟩) rfl (.tmp 86) (.tmp 87) _ _ rfl _ _ rfl rfl HRUN1.out ?_) | (refine wpList_appO (o := ⟨some 90, _, _, _, _, _⟩) rfl (.tmp 88) (.tmp 89) _ _ rfl _ _ rfl rfl HRUN2.out ?_))
      clear HRUN1 HRUN2 K11
      have COF : Calls Tryz.prog 24 #[.slice A4 512 c4] wb fun e w' => ∃ A', e = .returned (.tuple #[.slice A' 256 256, .int .i64 0]) ∧ Hid (Ino w' A' FL 256 256) ∧ Hid (Below wb.heap.size wb w') := by
        refine (of_setany A4 (FL ++ FL) 512 c4 wb HIN.out.rd HIN.out.ln (by omega)).mono fun e w' h => ?_
        obtain ⟨A', N', he, hN', hr, hb⟩ := of_set HTW.out.1 HTW.out.2.2 h
        rw [HTW.out.2.1] at hN' hr
        obtain rfl : N' = 256 := hN'.symm.trans HLF.out
        exact ⟨A', he, Lib.hid ⟨hr, HLF.out, Nat.le_refl _, by unfold maxLen; omega⟩, Lib.hid hb⟩
      refine COF.mono ?_
      rintro e w13 ⟨A7, rfl, hi, hb⟩
      clear COF HIN
      have K13 := kp7 K12 hb
      clear hb K12
      have K13n := ka7 K13 hi
      clear hi K13
      have K13 := K13n
      clear K13n
      go_wp2_with fail
      refine (same_at7 A7 (some ⟨gl, 0, none⟩) FL 256 ck _ (K13.out.r (A7, FL, 256, 256) (by simp)) (K13.out.r (some ⟨gl, 0, none⟩, FL, 256, ck) (by simp)) (by omega)).mono ?_
      rintro e w14 ⟨rfl, hb⟩
      have K14 := kp7 K13 hb
      clear hb K13
      go_wp2_with fail
      refine (text_at7k (some ⟨gl, 0, none⟩) FL 256 ck T _ (K14.out.r (some ⟨gl, 0, none⟩, FL, 256, ck) (by simp)) (by omega) K14.out.e HCF.out HT.out).mono ?_
      rintro e w15 ⟨rfl, hb⟩
      have K15 := kp7 K14 hb
      clear hb K14
      go_wp2_with fail
      refine (parsed_at7k T (txW FL) (some ⟨gl, 0, none⟩) FL 256 ck 0 _ HT.out txW_all HTL.out.1 K15.out.e (K15.out.r (some ⟨gl, 0, none⟩, FL, 256, ck) (by simp)) (by omega) HPT.out).mono ?_
      rintro e w16 ⟨rfl, hb⟩
      have K16 := kp7 K15 hb
      clear hb K15
      go_wp2_with fail
      have hTx := textW_any (some ⟨gl, 0, none⟩) AL 257 ck w16 (K16.out.r (some ⟨gl, 0, none⟩, AL, 257, ck) (by simp)).rd (K16.out.r (some ⟨gl, 0, none⟩, AL, 257, ck) (by simp)).ln (by omega) K16.out.e
      rw [if_neg (by rw [HCA.out]; decide)] at hTx
      replace hTx : Calls Tryz.prog 17 #[.slice (some ⟨gl, 0, none⟩) 257 ck] w16 (fun e w' => e = .returned (.string ⟨#[63]⟩) ∧ Below w16.heap.size w16 w') := hTx
      refine hTx.mono ?_
      rintro e w17 ⟨rfl, hbb⟩
      have hb := Lib.hid hbb
      clear hbb hTx
      have K17 := kp7 K16 hb
      clear hb K16
      go_wp2_with fail
      refine (text_at7k (some ⟨gl, 0, none⟩) FL 256 ck T _ (K17.out.r (some ⟨gl, 0, none⟩, FL, 256, ck) (by simp)) (by omega) K17.out.e HCF.out HT.out).mono ?_
      rintro e w18 ⟨rfl, hb⟩
      have K18 := kp7 K17 hb
      clear hb K17
      go_upto_region 18 with fail
      go_loopw [16] (fun i wx => ∃ q : Nat, q ≤ 256 ∧ i = .int .i64 (q : Int) ∧ St7 w [(A7, FL, 256, 256), (A3, FL, 256, 256), (A1, FL, 256, 256), (some ⟨gl, 0, none⟩, AL, 257, ck), (some ⟨gl, 0, none⟩, FL, 256, ck), (A6, LL, 1, c6), (A5, LE, 1, c5)] wx) (fun i _ => 256 - (intOf i).toNat)
      case atStart => exact ⟨0, Nat.zero_le _, rfl, K18.out⟩
      case round =>
        obtain ⟨q, hq, rfl, hst⟩ := hrel
        have KL0 := Lib.hid hst
        clear hst K18
        rcases Nat.lt_or_ge q 256 with hlt | hge
        · obtain ⟨hr, ho, hh⟩ := HGE.out q hlt wr (KL0.out.r (some ⟨gl, 0, none⟩, AL, 257, ck) (by simp)).rd
          have hl16 := ho.len
          have HO := Lib.hid ho
          have HH := Lib.hid hh
          have HR := Lib.hid hr
          clear hr ho hh
          generalize pad [2, q] = pl at *
          go_wp2_with (refine wpList_loadO rfl (.tmp 120) rfl rfl (by first | exact HR.out | (rw [Nat.zero_add]; exact HR.out)) hl16 ?_)
          refine (giveB_at (has7_any (some ⟨gl, 0, none⟩) FL 256 ck 2 pl wr (KL0.out.r (some ⟨gl, 0, none⟩, FL, 256, ck) (by simp)) (by omega) HO.out) HH.out).mono ?_
          rintro e wy ⟨rfl, hb⟩
          have KN := kp7 KL0 hb
          clear hb KL0 HR
          go_wp2_with fail
          exact ⟨⟨q + 1, by omega, by go_num, KN.out⟩, by simp [intOf]; omega⟩
        · obtain rfl : q = 256 := by omega
          have K0 := KL0
          clear KL0 HGE
          go_wp2_with fail
          refine (parsed_at7k T2 (txW AL) none [] 0 0 3 _ HT2.out txW_all HTL.out.2 K0.out.e (Ino.none _) (by omega) HPO.out).mono ?_
          rintro e w1 ⟨rfl, hb⟩
          have K1 := kp7 K0 hb
          clear hb K0
          have hg1 := HGL.out w1 (K1.out.r (some ⟨gl, 0, none⟩, AL, 257, ck) (by simp)).rd
          have HR1 := Lib.hid hg1.1
          have HO1 := Lib.hid hg1.2.1
          have hl1 := hg1.2.1.len
          clear hg1
          go_wp2_with (refine wpList_loadOg (by rfl) (.tmp 134) rfl rfl HR1.out hl1 ?_)
          refine (giveB_at (has7_any (some ⟨gl, 0, none⟩) FL 256 ck 2 _ _ (K1.out.r (some ⟨gl, 0, none⟩, FL, 256, ck) (by simp)) (by omega) HO1.out) HHF.out).mono ?_
          rintro e w2 ⟨rfl, hb⟩
          have K2 := kp7 K1 hb
          clear hb K1
          have hg2 := HGL.out w2 (K2.out.r (some ⟨gl, 0, none⟩, AL, 257, ck) (by simp)).rd
          have HR2 := Lib.hid hg2.2.2.1
          have HO2 := Lib.hid hg2.2.2.2
          have hl2 := hg2.2.2.2.len
          clear hg2 HR1
          go_wp2_with (refine wpList_loadOg (by rfl) (.tmp 142) rfl rfl HR2.out hl2 ?_)
          refine (giveB_at (has7_any (some ⟨gl, 0, none⟩) AL 257 ck 2 _ _ (K2.out.r (some ⟨gl, 0, none⟩, AL, 257, ck) (by simp)) (by omega) HO2.out) HHA.out).mono ?_
          rintro e w3 ⟨rfl, hb⟩
          have K3 := kp7 K2 hb
          clear hb K2
          go_wp2_with fail
          refine (lives_at7 _ K3.out.e).mono ?_
          rintro e w4 ⟨rfl, hb⟩
          have K4 := kp7 K3 hb
          clear hb K3
          go_wp2_with fail
          go_ret
          exact ⟨rfl, K4.out.b⟩

open Go.ChangeShapes Go.WideShapes Go.ChangeAt Go.WideMaps Go.WideElems
set_option maxRecDepth 100000 in
theorem oidsetsKnown_lifted (os : Os) (started : os.Started) (H : Type) (enc : TypeId × Value → H) :
    ReturnsInHanded {} Tryz.checked os 8 .any (fun w args => (Rows.oidsetsKnownSpec.pre enc Tryz.prog Tryz.f8 [] false w args ∧ laidMetH Tryz.prog laidL w) ∧ sizedMet enc Tryz.prog Tryz.f8 (OpenSpec.ofChange Rows.oidsetsKnownSpec) false w args)
      (Rows.oidsetsKnownSpec.post enc Tryz.prog Tryz.f8 false true false false) := by
  refine returnsInHanded_of_change_and (C := Tryz.checked) (X := fun w _ => laidMetH Tryz.prog laidL w) (fun _ _ _ hh h => h.of_heap hh) x_own started (by kernel_rfl) Tryz.func8
    (ChangeSpec.witness_shaped (enc := enc) (C := Tryz.checked) (os := os) (X := fun w _ => laidMetH Tryz.prog laidL w) false (World.laidAll Tryz.prog os laidL) #[] 8 (World.laidAll_os _ _ _) (World.shaped_of_ZipB (by kernel_rfl) (by kernel_rfl)) (by kernel_rfl) (by kernel_rfl) (by kernel_rfl) (door_met os _)) ?_
  intro W base args ds gs before hval0 hW _ _ hL _
  have hval : ∀ (j : Nat) t v, Tryz.f8.params[j]? = some t → args[j]? = some v → Value.okWide Tryz.prog W .any base t v := hval0
  have hW' := hW
  obtain ⟨p, q, hA0, hV, rfl, hfz, hnd⟩ := hW
  have hA : DataW.TrodAll enc Tryz.prog W 0 (fun _ => true) true Tryz.f8.params.toList args.toList ds p := hA0
  rw [Tryz.params8] at hA hval
  obtain ⟨rfl, rfl, rfl⟩ := trodAll_none hA
  obtain ⟨rfl, rfl⟩ := trodVars_none hV
  have hE := of_laid hL
  clear hA0 hval0
  simp only [List.append_nil] at hW'
  refine (known7_walk W hE).mono fun e W' ⟨he, hb⟩ => ?_
  subst he
  exact ⟨_, rfl, law_post (tb := 4) x_laid (by decide +kernel) rfl rfl (by kernel_rfl) Tryz.underlying4 hW' hb⟩

/-- The row's statement. -/
theorem oidsetsKnown_row : Rows.OidsetsKnownSaid :=
  OpenClaim.holds_of_wide 8 Tryz.f8 rfl rfl rfl rfl rfl rfl rfl ⟨rfl, rfl, rfl, rfl, rfl⟩ rfl rfl rfl rfl rfl (by kernel_rfl) Tryz.func8 (by kernel_rfl)
    (of_decide_eq_true (by kernel_rfl)) (by unfold Func.isWrapper; first | (rw [if_pos (by decide +kernel)]; kernel_rfl) | (rw [if_neg (by decide +kernel)]; exact ⟨rfl, rfl⟩))
    (fun os started H enc _ => oidsetsKnown_lifted os started H enc)

/-- The statement: the card. -/
theorem oidsetsKnown_holds : Rows.OidsetsKnownCardSaid :=
  Claim7.holds_tied_plain_at .later [] [.data, .data, .data, .data, .sentinel, .sentinel, .pinned] true Rows.oidsetsKnownCard.stood.harness true
    oidsetsKnown_row (fun _ h => by cases h) (by kernel_rfl) (fun _ h => by cases h) oidsetsKnown_row_tie rfl ⟨rfl, rfl⟩ (by kernel_rfl) rfl
    (fun f fn hf hfn => by
      obtain rfl : f = 8 := Option.some.inj ((show Tryz.prog.funcNamed "vidimus/vidimuslaw07.OidsetsKnown" = some 8 by kernel_rfl).symm.trans hf) |>.symm
      obtain rfl : fn = Tryz.f8 := (Option.some.inj (Tryz.func8.symm.trans hfn)).symm
      exact ⟨by kernel_rfl, fun j t ht => by
        rw [Tryz.params8] at ht
        exact absurd ht (by simp)⟩)
    (by kernel_rfl)
end Go.Proofs.YtaiiihdckdjpoaaGreatDoor
