/-
  Layer 7: contract of merge of package oidsets.
  Conditions: the OIDs' cells are in their kinds.
-/
import Derived.Test.YtaiiihdckdjpoaaGreatDoorOgF
namespace Go.Proofs.YtaiiihdckdjpoaaGreatDoor
open Go.RowKit

def lenV : Value → Nat
  | .slice _ n _ => n
  | _ => 0

set_option linter.unusedSimpArgs false in
set_option maxHeartbeats 8000000 in
set_option maxRecDepth 100000 in
theorem merge_any (kf : Bool → Bool → Bool) (F : FuncId) (A0 B0 : Option Addr) (L M : List Od) (n0 m0 c0 d0 T : Nat) (w : World) (hA : Ino w A0 L n0 c0) (hB : Ino w B0 M m0 d0) (hT : n0 + m0 ≤ T) (hT2 : T ≤ 100000)
    (hF : ∀ (args : Array Value) (w : World), (callFunc F args).run Tryz.prog w = .ok (.enter F args) w)
    (hkeep : ∀ (x y : Bool) (W : World), Calls Tryz.prog F #[.bool x, .bool y] W fun e w' => e = .returned (.bool (kf x y)) ∧ W = w') :
    Calls Tryz.prog 65 #[.slice A0 n0 c0, .slice B0 m0 d0, .func (.func 39) #[] #[], .func (.func F) #[] #[]] w fun e w' =>
      ∃ A, e = .returned (.slice A (mrg kf T L M).length (mrg kf T L M).length) ∧ RdO w' A (mrg kf T L M) ∧ (∀ q, A = some q → w.heap.size ≤ q.block) ∧ Below w.heap.size w w' := by
  obtain ⟨RES, hres⟩ : ∃ RES, mrg kf T L M = RES := ⟨_, rfl⟩
  rw [hres]
  have HRES0 := Lib.hid hres
  have HA0 := Lib.hid hA
  have HB0 := Lib.hid hB
  have HKEEP := Lib.hid hkeep
  have hz := zero25
  obtain ⟨zl, hzl⟩ : ∃ zl, zeroL = zl := ⟨_, rfl⟩
  have HZL : Hid (zl.length = 16) := Lib.hid (by rw [← hzl]; exact zeroL_length)
  rw [hzl] at hz
  clear hzl hres hA hB hkeep
  go_enter Tryz.func65, Tryz.ntmps65
  go_upto_region 2 with fail
  go_loopw [0, 1, 9] (fun a b kv wr => ∃ (A B : Option Addr) (ca cb la lb : Nat) (La Lb K : List Od) (q : Nat), a = .slice A la ca ∧ b = .slice B lb cb ∧ Ino w A La la ca ∧ Ino w B Lb lb cb ∧ PO w.heap.size K kv wr ∧ K.length + la + lb ≤ T ∧ K ++ mrg kf q La Lb = RES ∧ la + lb ≤ q ∧ Below w.heap.size w wr) (fun a b _ _ => lenV a + lenV b)
  case atStart => exact ⟨A0, B0, c0, d0, n0, m0, L, M, [], T, rfl, rfl, HA0.out, HB0.out, PO.new w, by simpa using hT, by simpa using HRES0.out, hT, Below.refl _ _⟩
  case round =>
    obtain ⟨Aa, Ba, ca, cb, la, lb, La, Lb, K, q, rfl, rfl, hia, hib, hpo, hsz, hres, hq, hbl⟩ := hrel
    have HR := Lib.hid hres
    have PK := Lib.hid hpo
    have B := Lib.hid hbl
    clear hres hpo hbl HA0 HB0 HRES0
    cases la with
    | zero =>
      have e1 : La = [] := List.eq_nil_of_length_eq_zero hia.ln
      subst e1
      cases lb with
      | zero =>
        have e2 : Lb = [] := List.eq_nil_of_length_eq_zero hib.ln
        subst e2
        have HK : Hid (K = RES) := Lib.hid (by rw [← HR.out, mrg_nil, List.append_nil])
        obtain ⟨Ak, ck, rfl, hk1, hk2, hk3, hk4⟩ := PK.out.form
        have h1 : Ak = none → K.length = 0 ∧ ck = 0 := by
          intro e
          rcases hk4 with ⟨_, h, h'⟩ | ⟨g, h, _⟩
          · exact ⟨by rw [h']; rfl, h⟩
          · rw [e] at h; cases h
        have HK3 := Lib.hid hk3
        have HK4 : Hid (∀ q, Ak = some q → w.heap.size ≤ q.block) := Lib.hid (by
          intro q e
          rcases hk4 with ⟨h, _⟩ | ⟨g, h, h', _⟩
          · rw [h] at e; cases e
          · rw [h] at e; injection e with e; rw [← e]; exact h')
        obtain ⟨nk, hnk⟩ : ∃ nk, K.length = nk := ⟨_, rfl⟩
        have HNK := Lib.hid hnk
        rw [hnk] at hk1 h1 ⊢
        clear hk3 hk4 hia hib PK HKEEP hF hnk
        go_wp2_with fail
        refine (clipO Ak nk ck wr hk1 hk2 h1).mono ?_
        rintro e w2 ⟨rfl, rfl⟩
        go_wp2_with fail
        go_ret
        rw [← HK.out, HNK.out]
        exact ⟨Ak, rfl, HK3.out, HK4.out, B.out⟩
      | succ lb =>
        obtain ⟨⟨m, k⟩, Ly, rfl⟩ := List.exists_cons_of_length_eq_add_one hib.ln
        obtain ⟨q, rfl⟩ : ∃ q', q = q' + 1 := ⟨q - 1, by omega⟩
        have HM : Hid (mrg kf (q + 1) [] ((m, k) :: Ly) = (if kf false true then [(m, k)] else []) ++ mrg kf q [] Ly) := Lib.hid rfl
        obtain ⟨b2, off2, B1, rfl, hyb, hyr, hyo, ht1, ht2, hi1⟩ := hib.tail
        dsimp only at hyr hyo
        obtain ⟨pb, hpb⟩ : ∃ pb, lb + 1 = pb := ⟨_, rfl⟩
        rw [hpb] at ht1 ht2 hib hsz hq ⊢
        have hpb1 : ((pb : Int) == 0) = false := by simp; omega
        have hpb2 : decide ((0 : Int) < (pb : Int)) = true := decide_eq_true (by omega)
        have hpb3 : ¬ ((pb : Int) = 0) := by omega
        have hyl := hyo.len
        have HY := Lib.hid hyr
        have HYB := Lib.hid hyb
        have HYO := Lib.hid hyo
        have IB1 := Lib.hid hi1
        have IB := Lib.hid hib
        clear hyr hyb hyo hi1 hib
        have IA := Lib.hid hia
        clear hia
        go_upto_region 3 with fail
        obtain ⟨wd, hwd⟩ : ∃ y, wr.drew = y := ⟨_, rfl⟩
        have hbd : Below wr.heap.size wr wd := by rw [← hwd]; exact ⟨rfl, rfl, rfl, Nat.le_refl _, fun _ _ => rfl⟩
        have Bq := Lib.hid (B.out.trans (hbd.mono B.out.size))
        have PKq := Lib.hid (PK.out.below hbd)
        clear B PK
        have B := Bq
        have PK := PKq
        clear Bq PKq hbd
        refine wp_region_held_drew (S := fun W => Below w.heap.size w W) (by kernel_rfl) (by rw [hwd]; exact B.out) (fun hS => ?_)
        rw [hwd] at hS ⊢
        clear hwd
        refine wpAnyH_take (i := 0) (oi := ⟨some 21, _, _, _, _, _⟩) (v := .slice (some ⟨b2, off2, none⟩) pb cb) rfl (by kernel_rfl) (by kernel_rfl) (by kernel_rfl) (fun _ _ _ h => h) (Or.inl ⟨by rfl, fun w hSw => by (try dsimp only at hSw); go_simp <;> first | omega | (intro hx; exact absurd hx (by omega))⟩) hS ?_
        simp only [Act.put, List.setIfInBounds_toArray, List.set_cons_zero, List.set_cons_succ]
        refine wpAnyH_take (i := 1) (oi := ⟨some 22, _, _, _, _, _⟩) (v := .int .i64 (pb : Int)) rfl (by kernel_rfl) (by kernel_rfl) (by kernel_rfl) (fun _ _ _ h => h) (Or.inl ⟨by rfl, fun w hSw => by (try dsimp only at hSw); go_simp <;> first | omega | (intro hx; exact absurd hx (by omega))⟩) hS ?_
        simp only [Act.put, List.setIfInBounds_toArray, List.set_cons_zero, List.set_cons_succ]
        refine wpAnyH_take (i := 2) (oi := ⟨some 23, _, _, _, _, _⟩) (v := .bool false) rfl (by kernel_rfl) (by kernel_rfl) (by kernel_rfl) (fun _ _ _ h => h) (Or.inl ⟨by rfl, fun w hSw => by (try dsimp only at hSw); go_simp <;> first | omega | (intro hx; exact absurd hx (by omega))⟩) hS ?_
        simp only [Act.put, List.setIfInBounds_toArray, List.set_cons_zero, List.set_cons_succ]
        refine wpAnyH_take (i := 3) (oi := ⟨some 24, _, _, _, _, _⟩) (v := .bool false) rfl (by kernel_rfl) (by kernel_rfl) (by kernel_rfl) (fun _ _ _ h => h) (Or.inl ⟨by rfl, fun w hSw => by (try dsimp only at hSw); go_simp <;> first | omega | (intro hx; exact absurd hx (by omega))⟩) hS ?_
        simp only [Act.put, List.setIfInBounds_toArray, List.set_cons_zero, List.set_cons_succ]
        refine wpAnyH_take (i := 4) (oi := ⟨some 25, _, _, _, _, _⟩) (v := .slice Aa 0 ca) rfl (by kernel_rfl) (by kernel_rfl) (by kernel_rfl) (fun _ _ _ h => h) (Or.inl ⟨by rfl, fun w hSw => by (try dsimp only at hSw); go_simp <;> first | omega | (intro hx; exact absurd hx (by omega))⟩) hS ?_
        simp only [Act.put, List.setIfInBounds_toArray, List.set_cons_zero, List.set_cons_succ]
        refine wpAnyH_take (i := 5) (oi := ⟨some 26, _, _, _, _, _⟩) (v := .int .i64 0) rfl (by kernel_rfl) (by kernel_rfl) (by kernel_rfl) (fun _ _ _ h => h) (Or.inl ⟨by rfl, fun w hSw => by (try dsimp only at hSw); go_simp <;> first | omega | (intro hx; exact absurd hx (by omega))⟩) hS ?_
        simp only [Act.put, List.setIfInBounds_toArray, List.set_cons_zero, List.set_cons_succ]
        refine wpAnyH_take (i := 6) (oi := ⟨some 27, _, _, _, _, _⟩) (v := .bool false) rfl (by kernel_rfl) (by kernel_rfl) (by kernel_rfl) (fun _ _ _ h => h) (Or.inl ⟨by rfl, fun w hSw => by (try dsimp only at hSw); go_simp <;> first | omega | (intro hx; exact absurd hx (by omega))⟩) hS ?_
        simp only [Act.put, List.setIfInBounds_toArray, List.set_cons_zero, List.set_cons_succ]
        refine wpAnyH_take (i := 7) (oi := ⟨some 28, _, _, _, _, _⟩) (v := .bool false) rfl (by kernel_rfl) (by kernel_rfl) (by kernel_rfl) (fun _ _ _ h => h) (Or.inl ⟨by rfl, fun w hSw => by (try dsimp only at hSw); go_simp <;> first | omega | (intro hx; exact absurd hx (by omega))⟩) hS ?_
        simp only [Act.put, List.setIfInBounds_toArray, List.set_cons_zero, List.set_cons_succ]
        refine wpAnyH_take (i := 8) (oi := ⟨some 29, _, _, _, _, _⟩) (v := undef) rfl (by kernel_rfl) (by kernel_rfl) (by kernel_rfl) (fun _ _ _ h => h) (Or.inr ⟨by rfl, rfl⟩) hS ?_
        simp only [Act.put, List.setIfInBounds_toArray, List.set_cons_zero, List.set_cons_succ]
        refine wpAnyH_take (i := 9) (oi := ⟨some 30, _, _, _, _, _⟩) (v := undef) rfl (by kernel_rfl) (by kernel_rfl) (by kernel_rfl) (fun _ _ _ h => h) (Or.inr ⟨by rfl, rfl⟩) hS ?_
        simp only [Act.put, List.setIfInBounds_toArray, List.set_cons_zero, List.set_cons_succ]
        refine wpAnyH_take (i := 10) (oi := ⟨some 31, _, _, _, _, _⟩) (v := undef) rfl (by kernel_rfl) (by kernel_rfl) (by kernel_rfl) (fun _ _ _ h => h) (Or.inr ⟨by rfl, rfl⟩) hS ?_
        simp only [Act.put, List.setIfInBounds_toArray, List.set_cons_zero, List.set_cons_succ]
        refine wpAnyH_take (i := 11) (oi := ⟨some 32, _, _, _, _, _⟩) (v := undef) rfl (by kernel_rfl) (by kernel_rfl) (by kernel_rfl) (fun _ _ _ h => h) (Or.inr ⟨by rfl, rfl⟩) hS ?_
        simp only [Act.put, List.setIfInBounds_toArray, List.set_cons_zero, List.set_cons_succ]
        refine wpAnyH_take (i := 12) (oi := ⟨some 33, _, _, _, _, _⟩) (v := undef) rfl (by kernel_rfl) (by kernel_rfl) (by kernel_rfl) (fun _ _ _ h => h) (Or.inr ⟨by rfl, rfl⟩) hS ?_
        simp only [Act.put, List.setIfInBounds_toArray, List.set_cons_zero, List.set_cons_succ]
        refine wpAnyH_take (i := 13) (oi := ⟨some 34, _, _, _, _, _⟩) (v := undef) rfl (by kernel_rfl) (by kernel_rfl) (by kernel_rfl) (fun _ _ _ h => h) (Or.inr ⟨by rfl, rfl⟩) hS ?_
        simp only [Act.put, List.setIfInBounds_toArray, List.set_cons_zero, List.set_cons_succ]
        refine wpAnyH_take (i := 14) (oi := ⟨some 35, _, _, _, _, _⟩) (v := undef) rfl (by kernel_rfl) (by kernel_rfl) (by kernel_rfl) (fun _ _ _ h => h) (Or.inr ⟨by rfl, rfl⟩) hS ?_
        simp only [Act.put, List.setIfInBounds_toArray, List.set_cons_zero, List.set_cons_succ]
        refine wpAnyH_take (i := 15) (oi := ⟨some 36, _, _, _, _, _⟩) (v := undef) rfl (by kernel_rfl) (by kernel_rfl) (by kernel_rfl) (fun _ _ _ h => h) (Or.inr ⟨by rfl, rfl⟩) hS ?_
        simp only [Act.put, List.setIfInBounds_toArray, List.set_cons_zero, List.set_cons_succ]
        refine wpAnyH_take (i := 16) (oi := ⟨some 37, _, _, _, _, _⟩) (v := undef) rfl (by kernel_rfl) (by kernel_rfl) (by kernel_rfl) (fun _ _ _ h => h) (Or.inr ⟨by rfl, rfl⟩) hS ?_
        simp only [Act.put, List.setIfInBounds_toArray, List.set_cons_zero, List.set_cons_succ]
        refine wpAnyH_take (i := 17) (oi := ⟨some 38, _, _, _, _, _⟩) (v := .bool false) rfl (by kernel_rfl) (by kernel_rfl) (by kernel_rfl) (fun _ _ _ h => h) (Or.inl ⟨by rfl, fun w hSw => by (try dsimp only at hSw); go_simp <;> first | omega | (intro hx; exact absurd hx (by omega))⟩) hS ?_
        simp only [Act.put, List.setIfInBounds_toArray, List.set_cons_zero, List.set_cons_succ]
        refine wpAnyH_take (i := 18) (oi := ⟨some 39, _, _, _, _, _⟩) (v := .bool false) rfl (by kernel_rfl) (by kernel_rfl) (by kernel_rfl) (fun _ _ _ h => h) (Or.inl ⟨by rfl, fun w hSw => by (try dsimp only at hSw); go_simp <;> first | omega | (intro hx; exact absurd hx (by omega))⟩) hS ?_
        simp only [Act.put, List.setIfInBounds_toArray, List.set_cons_zero, List.set_cons_succ]
        refine wpAnyH_take (i := 19) (oi := ⟨some 10, _, _, _, _, _⟩) (v := .bool false) rfl (by kernel_rfl) (by kernel_rfl) (by kernel_rfl) (fun _ _ _ h => h) (Or.inl ⟨by rfl, fun w hSw => by (try dsimp only at hSw); go_simp <;> first | omega | (intro hx; exact absurd hx (by omega))⟩) hS ?_
        simp only [Act.put, List.setIfInBounds_toArray, List.set_cons_zero, List.set_cons_succ]
        refine wpAnyH_done (by kernel_rfl) ?_ _
        clear hS
        go_upto_region 4 with fail
        obtain ⟨wd2, hwd⟩ : ∃ y, wd.drew = y := ⟨_, rfl⟩
        have hbd : Below wd.heap.size wd wd2 := by rw [← hwd]; exact ⟨rfl, rfl, rfl, Nat.le_refl _, fun _ _ => rfl⟩
        have Bq := Lib.hid (B.out.trans (hbd.mono B.out.size))
        have PKq := Lib.hid (PK.out.below hbd)
        clear B PK
        have B := Bq
        have PK := PKq
        clear Bq PKq hbd
        refine wp_region_held_drew (S := fun W => Below w.heap.size w W) (by kernel_rfl) (by rw [hwd]; exact B.out) (fun hS => ?_)
        rw [hwd] at hS ⊢
        clear hwd
        refine wpAnyH_take (i := 0) (oi := ⟨some 40, _, _, _, _, _⟩) (v := .slice Aa 0 ca) rfl (by kernel_rfl) (by kernel_rfl) (by kernel_rfl) (fun _ _ _ h => h) (Or.inl ⟨by rfl, fun w hSw => by (try dsimp only at hSw); go_simp <;> first | omega | (intro hx; exact absurd hx (by omega))⟩) hS ?_
        simp only [Act.put, List.setIfInBounds_toArray, List.set_cons_zero, List.set_cons_succ]
        refine wpAnyH_take (i := 1) (oi := ⟨some 41, _, _, _, _, _⟩) (v := .int .i64 0) rfl (by kernel_rfl) (by kernel_rfl) (by kernel_rfl) (fun _ _ _ h => h) (Or.inl ⟨by rfl, fun w hSw => by (try dsimp only at hSw); go_simp <;> first | omega | (intro hx; exact absurd hx (by omega))⟩) hS ?_
        simp only [Act.put, List.setIfInBounds_toArray, List.set_cons_zero, List.set_cons_succ]
        refine wpAnyH_take (i := 2) (oi := ⟨some 42, _, _, _, _, _⟩) (v := .bool true) rfl (by kernel_rfl) (by kernel_rfl) (by kernel_rfl) (fun _ _ _ h => h) (Or.inl ⟨by rfl, fun w hSw => by (try dsimp only at hSw); go_simp <;> first | omega | (intro hx; exact absurd hx (by omega))⟩) hS ?_
        simp only [Act.put, List.setIfInBounds_toArray, List.set_cons_zero, List.set_cons_succ]
        refine wpAnyH_take (i := 3) (oi := ⟨some 43, _, _, _, _, _⟩) (v := .bool true) rfl (by kernel_rfl) (by kernel_rfl) (by kernel_rfl) (fun _ _ _ h => h) (Or.inl ⟨by rfl, fun w hSw => by (try dsimp only at hSw); go_simp <;> first | omega | (intro hx; exact absurd hx (by omega))⟩) hS ?_
        simp only [Act.put, List.setIfInBounds_toArray, List.set_cons_zero, List.set_cons_succ]
        refine wpAnyH_take (i := 4) (oi := ⟨some 44, _, _, _, _, _⟩) (v := undef) rfl (by kernel_rfl) (by kernel_rfl) (by kernel_rfl) (fun _ _ _ h => h) (Or.inr ⟨by rfl, rfl⟩) hS ?_
        simp only [Act.put, List.setIfInBounds_toArray, List.set_cons_zero, List.set_cons_succ]
        refine wpAnyH_take (i := 5) (oi := ⟨some 45, _, _, _, _, _⟩) (v := undef) rfl (by kernel_rfl) (by kernel_rfl) (by kernel_rfl) (fun _ _ _ h => h) (Or.inr ⟨by rfl, rfl⟩) hS ?_
        simp only [Act.put, List.setIfInBounds_toArray, List.set_cons_zero, List.set_cons_succ]
        refine wpAnyH_take (i := 6) (oi := ⟨some 46, _, _, _, _, _⟩) (v := undef) rfl (by kernel_rfl) (by kernel_rfl) (by kernel_rfl) (fun _ _ _ h => h) (Or.inr ⟨by rfl, rfl⟩) hS ?_
        simp only [Act.put, List.setIfInBounds_toArray, List.set_cons_zero, List.set_cons_succ]
        refine wpAnyH_take (i := 7) (oi := ⟨some 47, _, _, _, _, _⟩) (v := undef) rfl (by kernel_rfl) (by kernel_rfl) (by kernel_rfl) (fun _ _ _ h => h) (Or.inr ⟨by rfl, rfl⟩) hS ?_
        simp only [Act.put, List.setIfInBounds_toArray, List.set_cons_zero, List.set_cons_succ]
        refine wpAnyH_take (i := 8) (oi := ⟨some 48, _, _, _, _, _⟩) (v := undef) rfl (by kernel_rfl) (by kernel_rfl) (by kernel_rfl) (fun _ _ _ h => h) (Or.inr ⟨by rfl, rfl⟩) hS ?_
        simp only [Act.put, List.setIfInBounds_toArray, List.set_cons_zero, List.set_cons_succ]
        refine wpAnyH_take (i := 9) (oi := ⟨some 49, _, _, _, _, _⟩) (v := undef) rfl (by kernel_rfl) (by kernel_rfl) (by kernel_rfl) (fun _ _ _ h => h) (Or.inr ⟨by rfl, rfl⟩) hS ?_
        simp only [Act.put, List.setIfInBounds_toArray, List.set_cons_zero, List.set_cons_succ]
        refine wpAnyH_take (i := 10) (oi := ⟨some 50, _, _, _, _, _⟩) (v := undef) rfl (by kernel_rfl) (by kernel_rfl) (by kernel_rfl) (fun _ _ _ h => h) (Or.inr ⟨by rfl, rfl⟩) hS ?_
        simp only [Act.put, List.setIfInBounds_toArray, List.set_cons_zero, List.set_cons_succ]
        refine wpAnyH_take (i := 11) (oi := ⟨some 51, _, _, _, _, _⟩) (v := undef) rfl (by kernel_rfl) (by kernel_rfl) (by kernel_rfl) (fun _ _ _ h => h) (Or.inr ⟨by rfl, rfl⟩) hS ?_
        simp only [Act.put, List.setIfInBounds_toArray, List.set_cons_zero, List.set_cons_succ]
        refine wpAnyH_take (i := 12) (oi := ⟨some 52, _, _, _, _, _⟩) (v := undef) rfl (by kernel_rfl) (by kernel_rfl) (by kernel_rfl) (fun _ _ _ h => h) (Or.inr ⟨by rfl, rfl⟩) hS ?_
        simp only [Act.put, List.setIfInBounds_toArray, List.set_cons_zero, List.set_cons_succ]
        refine wpAnyH_take (i := 13) (oi := ⟨some 53, _, _, _, _, _⟩) (v := undef) rfl (by kernel_rfl) (by kernel_rfl) (by kernel_rfl) (fun _ _ _ h => h) (Or.inr ⟨by rfl, rfl⟩) hS ?_
        simp only [Act.put, List.setIfInBounds_toArray, List.set_cons_zero, List.set_cons_succ]
        refine wpAnyH_take (i := 14) (oi := ⟨some 54, _, _, _, _, _⟩) (v := undef) rfl (by kernel_rfl) (by kernel_rfl) (by kernel_rfl) (fun _ _ _ h => h) (Or.inr ⟨by rfl, rfl⟩) hS ?_
        simp only [Act.put, List.setIfInBounds_toArray, List.set_cons_zero, List.set_cons_succ]
        refine wpAnyH_take (i := 15) (oi := ⟨some 55, _, _, _, _, _⟩) (v := undef) rfl (by kernel_rfl) (by kernel_rfl) (by kernel_rfl) (fun _ _ _ h => h) (Or.inr ⟨by rfl, rfl⟩) hS ?_
        simp only [Act.put, List.setIfInBounds_toArray, List.set_cons_zero, List.set_cons_succ]
        refine wpAnyH_take (i := 16) (oi := ⟨some 56, _, _, _, _, _⟩) (v := undef) rfl (by kernel_rfl) (by kernel_rfl) (by kernel_rfl) (fun _ _ _ h => h) (Or.inr ⟨by rfl, rfl⟩) hS ?_
        simp only [Act.put, List.setIfInBounds_toArray, List.set_cons_zero, List.set_cons_succ]
        refine wpAnyH_take (i := 17) (oi := ⟨some 57, _, _, _, _, _⟩) (v := undef) rfl (by kernel_rfl) (by kernel_rfl) (by kernel_rfl) (fun _ _ _ h => h) (Or.inr ⟨by rfl, rfl⟩) hS ?_
        simp only [Act.put, List.setIfInBounds_toArray, List.set_cons_zero, List.set_cons_succ]
        refine wpAnyH_take (i := 18) (oi := ⟨some 58, _, _, _, _, _⟩) (v := .bool true) rfl (by kernel_rfl) (by kernel_rfl) (by kernel_rfl) (fun _ _ _ h => h) (Or.inl ⟨by rfl, fun w hSw => by (try dsimp only at hSw); go_simp <;> first | omega | (intro hx; exact absurd hx (by omega))⟩) hS ?_
        simp only [Act.put, List.setIfInBounds_toArray, List.set_cons_zero, List.set_cons_succ]
        refine wpAnyH_take (i := 19) (oi := ⟨some 11, _, _, _, _, _⟩) (v := .bool true) rfl (by kernel_rfl) (by kernel_rfl) (by kernel_rfl) (fun _ _ _ h => h) (Or.inl ⟨by rfl, fun w hSw => by (try dsimp only at hSw); go_simp <;> first | omega | (intro hx; exact absurd hx (by omega))⟩) hS ?_
        simp only [Act.put, List.setIfInBounds_toArray, List.set_cons_zero, List.set_cons_succ]
        refine wpAnyH_done (by kernel_rfl) ?_ _
        clear hS
        obtain ⟨wa, hwa⟩ : ∃ y, wd2.alloc (.cells (oc 0 zl).toArray 26) = y := ⟨_, rfl⟩
        obtain ⟨go, hgo⟩ : ∃ y, wd2.heap.size = y := ⟨_, rfl⟩
        have hbn : Below wd2.heap.size wd2 wa := by rw [← hwa]; exact bel1 _ _
        have KO : Hid (Bk wa go 26 (oc 0 zl)) := Lib.hid (by rw [← hwa, ← hgo]; exact Bk.new _ _ _)
        have GB : Hid (w.heap.size ≤ go) := Lib.hid (by rw [← hgo]; exact B.out.size)
        have GN : Hid (u9.ownBlock ≠ some go) := Lib.hid (fun e => by have := (PK.out.own.lt _ e).2; omega)
        have KL := HZL
        have HWA := Lib.hid hwa
        have HGO := Lib.hid hgo
        clear hwa hgo
        have Bq := Lib.hid (B.out.trans (hbn.mono B.out.size))
        have PKq := Lib.hid (PK.out.below hbn)
        clear B PK
        have B := Bq
        have PK := PKq
        clear Bq PKq hbn
        go_upto_region 9 with fail
        rw [HWA.out, HGO.out]
        clear HWA HGO
        obtain ⟨wd4, hwd⟩ : ∃ y, wa.drew = y := ⟨_, rfl⟩
        have hbd : Below wa.heap.size wa wd4 := by rw [← hwd]; exact ⟨rfl, rfl, rfl, Nat.le_refl _, fun _ _ => rfl⟩
        have Bq := Lib.hid (B.out.trans (hbd.mono B.out.size))
        have PKq := Lib.hid (PK.out.below hbd)
        have KOq := Lib.hid (KO.out.below hbd KO.out.lt)
        clear B PK KO
        have B := Bq
        have PK := PKq
        have KO := KOq
        clear Bq PKq KOq hbd
        refine wp_region_held_drew (S := fun W => Below w.heap.size w W) (by kernel_rfl) (by rw [hwd]; exact B.out) (fun hS => ?_)
        rw [hwd] at hS ⊢
        clear hwd
        refine wpAnyH_take (i := 0) (oi := ⟨some 66, _, _, _, _, _⟩) (v := .slice (some ⟨b2, off2, none⟩) pb cb) rfl (by kernel_rfl) (by kernel_rfl) (by kernel_rfl) (fun _ _ _ h => h) (Or.inl ⟨by rfl, fun w hSw => by (try dsimp only at hSw); go_simp <;> first | omega | (intro hx; exact absurd hx (by omega))⟩) hS ?_
        simp only [Act.put, List.setIfInBounds_toArray, List.set_cons_zero, List.set_cons_succ]
        refine wpAnyH_take (i := 1) (oi := ⟨some 67, _, _, _, _, _⟩) (v := .pointer (some ⟨b2, off2, none⟩)) rfl (by kernel_rfl) (by kernel_rfl) (by kernel_rfl) (fun _ _ _ h => h) (Or.inl ⟨by rfl, fun w hSw => by (try dsimp only at hSw); go_simp <;> first | omega | (intro hx; exact absurd hx (by omega))⟩) hS ?_
        simp only [Act.put, List.setIfInBounds_toArray, List.set_cons_zero, List.set_cons_succ]
        refine wpAnyH_take (i := 2) (oi := ⟨some 68, _, _, _, _, _⟩) (v := oV m k) rfl (by kernel_rfl) (by kernel_rfl) (by kernel_rfl) (fun _ _ _ h => h) (yieldsIf_load_mid (by rfl) 26 (.tmp 67) rfl (b2) (off2) rfl (oc m k) _ (fun W h => range_below HY.out HYB.out h) Tryz.underlying26 rfl (by rw [oc_length, hyl]; exact info25)) hS ?_
        simp only [Act.put, List.setIfInBounds_toArray, List.set_cons_zero, List.set_cons_succ]
        refine wpAnyH_take (i := 3) (oi := ⟨some 69, _, _, _, _, _⟩) (v := .slice (some ⟨b2, off2, none⟩) pb cb) rfl (by kernel_rfl) (by kernel_rfl) (by kernel_rfl) (fun _ _ _ h => h) (Or.inl ⟨by rfl, fun w hSw => by (try dsimp only at hSw); go_simp <;> first | omega | (intro hx; exact absurd hx (by omega))⟩) hS ?_
        simp only [Act.put, List.setIfInBounds_toArray, List.set_cons_zero, List.set_cons_succ]
        refine wpAnyH_take (i := 4) (oi := ⟨some 70, _, _, _, _, _⟩) (v := .slice B1 lb (cb - 1)) rfl (by kernel_rfl) (by kernel_rfl) (by kernel_rfl) (fun _ _ _ h => h) (Or.inl ⟨by rfl, fun w hSw => by (try dsimp only at hSw); go_simp <;> first | omega | (intro hx; exact absurd hx (by omega))⟩) hS ?_
        simp only [Act.put, List.setIfInBounds_toArray, List.set_cons_zero, List.set_cons_succ]
        refine wpAnyH_ready (rs := [5]) (by kernel_rfl) (by simp) ?_
        refine AllReadyH.cons (o := _) rfl (fun K hK => ?_) (AllReadyH.nil)
        refine storeO_wp (.tmp 12) (.tmp 68) rfl (n := m) (l := k) rfl rfl KO.out (by rw [oc_length, KL.out]) hyl ?_
        intro W2 V hg hz
        have KOq := Lib.hid V
        have Bq : Hid (Below w.heap.size w W2) := Lib.hid (B.out.grown hg B.out.size (fun k e => by injection e with e; have := GB.out; omega))
        have PKq := Lib.hid (PK.out.grown hg (GN.out))
        have KLq : Hid (k.length = 16) := Lib.hid hyl
        clear V hg hz B KO PK KL
        have B := Bq
        have KO := KOq
        have PK := PKq
        have KL := KLq
        clear Bq KOq PKq KLq
        refine hK.out _ _ (B.out) (fun hS => ?_)
        clear hK K
        (try simp only [Act.put, List.setIfInBounds_toArray, List.set_cons_zero, List.set_cons_succ])
        refine wpAnyH_take (i := 6) (oi := ⟨some 1, _, _, _, _, _⟩) (v := .slice B1 lb (cb - 1)) rfl (by kernel_rfl) (by kernel_rfl) (by kernel_rfl) (fun _ _ _ h => h) (Or.inl ⟨by rfl, fun w hSw => by (try dsimp only at hSw); go_simp <;> first | omega | (intro hx; exact absurd hx (by omega))⟩) hS ?_
        simp only [Act.put, List.setIfInBounds_toArray, List.set_cons_zero, List.set_cons_succ]
        refine wpAnyH_done (by kernel_rfl) ?_ _
        clear hS
        have HKP := HKEEP.out false true
        cases hkf : kf false true
        · rw [hkf] at HKP
          go_wp2_with fail
          refine (HKP _).mono ?_
          rintro e w7 ⟨rfl, rfl⟩
          have HRES : Hid (K ++ mrg kf q [] Ly = RES) := Lib.hid (by rw [← HR.out, HM.out]; simp [hkf])
          clear hkf HKP
          go_wp2_with fail
          exact ⟨⟨Aa, B1, ca, cb - 1, 0, lb, [], Ly, K, q, rfl, rfl, IA.out, IB1.out, PK.out, by omega, HRES.out, by omega, B.out⟩, by simp [lenV]; try omega⟩
        · rw [hkf] at HKP
          go_wp2_with fail
          refine (HKP _).mono ?_
          rintro e w7 ⟨rfl, rfl⟩
          obtain ⟨v', w8, hrun, hpo, hbl⟩ := PK.out.push (by omega) (HYO.out : OkO m k)
          have HRUN := Lib.hid hrun
          have HPO := Lib.hid hpo
          have HBL := Lib.hid (B.out.trans (hbl.mono (Nat.le_refl _)))
          have HRES : Hid ((K ++ [(m, k)]) ++ mrg kf q [] Ly = RES) := Lib.hid (by rw [← HR.out, HM.out]; simp [hkf])
          clear hkf HKP hrun hpo hbl
          go_wp2_with (first | (refine wpList_load25 rfl (.tmp 12) rfl rfl KO.out KL.out ?_) | (refine wpList_buildO rfl 76 rfl rfl KL.out ?_) | (at_builtin; refine wpList_appO (o := ⟨some 78, _, _, _, _, _⟩) rfl _ _ _ _ rfl _ _ rfl rfl HRUN.out ?_))
          exact ⟨⟨Aa, B1, ca, cb - 1, 0, lb, [], Ly, K ++ [(m, k)], q, rfl, rfl, IA.out, IB1.out, HPO.out, by rw [List.length_append, List.length_singleton]; omega, HRES.out, by omega, HBL.out⟩, by simp [lenV]; try omega⟩
    | succ la =>
      obtain ⟨⟨n, l⟩, Lx, rfl⟩ := List.exists_cons_of_length_eq_add_one hia.ln
      obtain ⟨q, rfl⟩ : ∃ q', q = q' + 1 := ⟨q - 1, by omega⟩
      obtain ⟨b, off, A1, rfl, hxb, hxr, hxo, hs1, hs2, hi1⟩ := hia.tail
      dsimp only at hxr hxo
      obtain ⟨pa, hpa⟩ : ∃ pa, la + 1 = pa := ⟨_, rfl⟩
      rw [hpa] at hs1 hs2 hia hsz hq ⊢
      have hpa1 : ((pa : Int) == 0) = false := by simp; omega
      have hpa2 : decide ((0 : Int) < (pa : Int)) = true := decide_eq_true (by omega)
      have hpa3 : ¬ ((pa : Int) = 0) := by omega
      have hxl := hxo.len
      have HX := Lib.hid hxr
      have HXB := Lib.hid hxb
      have HXO := Lib.hid hxo
      have IA1 := Lib.hid hi1
      have IA := Lib.hid hia
      clear hxr hxb hxo hi1 hia
      cases lb with
      | zero =>
        have e2 : Lb = [] := List.eq_nil_of_length_eq_zero hib.ln
        subst e2
        have HM : Hid (mrg kf (q + 1) ((n, l) :: Lx) [] = (if kf true false then [(n, l)] else []) ++ mrg kf q Lx []) := Lib.hid rfl
        have IB := Lib.hid hib
        clear hib
        go_upto_region 3 with fail
        obtain ⟨wd, hwd⟩ : ∃ y, wr.drew = y := ⟨_, rfl⟩
        have hbd : Below wr.heap.size wr wd := by rw [← hwd]; exact ⟨rfl, rfl, rfl, Nat.le_refl _, fun _ _ => rfl⟩
        have Bq := Lib.hid (B.out.trans (hbd.mono B.out.size))
        have PKq := Lib.hid (PK.out.below hbd)
        clear B PK
        have B := Bq
        have PK := PKq
        clear Bq PKq hbd
        refine wp_region_held_drew (S := fun W => Below w.heap.size w W) (by kernel_rfl) (by rw [hwd]; exact B.out) (fun hS => ?_)
        rw [hwd] at hS ⊢
        clear hwd
        refine wpAnyH_take (i := 0) (oi := ⟨some 21, _, _, _, _, _⟩) (v := .slice Ba 0 cb) rfl (by kernel_rfl) (by kernel_rfl) (by kernel_rfl) (fun _ _ _ h => h) (Or.inl ⟨by rfl, fun w hSw => by (try dsimp only at hSw); go_simp <;> first | omega | (intro hx; exact absurd hx (by omega))⟩) hS ?_
        simp only [Act.put, List.setIfInBounds_toArray, List.set_cons_zero, List.set_cons_succ]
        refine wpAnyH_take (i := 1) (oi := ⟨some 22, _, _, _, _, _⟩) (v := .int .i64 0) rfl (by kernel_rfl) (by kernel_rfl) (by kernel_rfl) (fun _ _ _ h => h) (Or.inl ⟨by rfl, fun w hSw => by (try dsimp only at hSw); go_simp <;> first | omega | (intro hx; exact absurd hx (by omega))⟩) hS ?_
        simp only [Act.put, List.setIfInBounds_toArray, List.set_cons_zero, List.set_cons_succ]
        refine wpAnyH_take (i := 2) (oi := ⟨some 23, _, _, _, _, _⟩) (v := .bool true) rfl (by kernel_rfl) (by kernel_rfl) (by kernel_rfl) (fun _ _ _ h => h) (Or.inl ⟨by rfl, fun w hSw => by (try dsimp only at hSw); go_simp <;> first | omega | (intro hx; exact absurd hx (by omega))⟩) hS ?_
        simp only [Act.put, List.setIfInBounds_toArray, List.set_cons_zero, List.set_cons_succ]
        refine wpAnyH_take (i := 3) (oi := ⟨some 24, _, _, _, _, _⟩) (v := .bool true) rfl (by kernel_rfl) (by kernel_rfl) (by kernel_rfl) (fun _ _ _ h => h) (Or.inl ⟨by rfl, fun w hSw => by (try dsimp only at hSw); go_simp <;> first | omega | (intro hx; exact absurd hx (by omega))⟩) hS ?_
        simp only [Act.put, List.setIfInBounds_toArray, List.set_cons_zero, List.set_cons_succ]
        refine wpAnyH_take (i := 4) (oi := ⟨some 25, _, _, _, _, _⟩) (v := undef) rfl (by kernel_rfl) (by kernel_rfl) (by kernel_rfl) (fun _ _ _ h => h) (Or.inr ⟨by rfl, rfl⟩) hS ?_
        simp only [Act.put, List.setIfInBounds_toArray, List.set_cons_zero, List.set_cons_succ]
        refine wpAnyH_take (i := 5) (oi := ⟨some 26, _, _, _, _, _⟩) (v := undef) rfl (by kernel_rfl) (by kernel_rfl) (by kernel_rfl) (fun _ _ _ h => h) (Or.inr ⟨by rfl, rfl⟩) hS ?_
        simp only [Act.put, List.setIfInBounds_toArray, List.set_cons_zero, List.set_cons_succ]
        refine wpAnyH_take (i := 6) (oi := ⟨some 27, _, _, _, _, _⟩) (v := undef) rfl (by kernel_rfl) (by kernel_rfl) (by kernel_rfl) (fun _ _ _ h => h) (Or.inr ⟨by rfl, rfl⟩) hS ?_
        simp only [Act.put, List.setIfInBounds_toArray, List.set_cons_zero, List.set_cons_succ]
        refine wpAnyH_take (i := 7) (oi := ⟨some 28, _, _, _, _, _⟩) (v := undef) rfl (by kernel_rfl) (by kernel_rfl) (by kernel_rfl) (fun _ _ _ h => h) (Or.inr ⟨by rfl, rfl⟩) hS ?_
        simp only [Act.put, List.setIfInBounds_toArray, List.set_cons_zero, List.set_cons_succ]
        refine wpAnyH_take (i := 8) (oi := ⟨some 29, _, _, _, _, _⟩) (v := undef) rfl (by kernel_rfl) (by kernel_rfl) (by kernel_rfl) (fun _ _ _ h => h) (Or.inr ⟨by rfl, rfl⟩) hS ?_
        simp only [Act.put, List.setIfInBounds_toArray, List.set_cons_zero, List.set_cons_succ]
        refine wpAnyH_take (i := 9) (oi := ⟨some 30, _, _, _, _, _⟩) (v := undef) rfl (by kernel_rfl) (by kernel_rfl) (by kernel_rfl) (fun _ _ _ h => h) (Or.inr ⟨by rfl, rfl⟩) hS ?_
        simp only [Act.put, List.setIfInBounds_toArray, List.set_cons_zero, List.set_cons_succ]
        refine wpAnyH_take (i := 10) (oi := ⟨some 31, _, _, _, _, _⟩) (v := undef) rfl (by kernel_rfl) (by kernel_rfl) (by kernel_rfl) (fun _ _ _ h => h) (Or.inr ⟨by rfl, rfl⟩) hS ?_
        simp only [Act.put, List.setIfInBounds_toArray, List.set_cons_zero, List.set_cons_succ]
        refine wpAnyH_take (i := 11) (oi := ⟨some 32, _, _, _, _, _⟩) (v := undef) rfl (by kernel_rfl) (by kernel_rfl) (by kernel_rfl) (fun _ _ _ h => h) (Or.inr ⟨by rfl, rfl⟩) hS ?_
        simp only [Act.put, List.setIfInBounds_toArray, List.set_cons_zero, List.set_cons_succ]
        refine wpAnyH_take (i := 12) (oi := ⟨some 33, _, _, _, _, _⟩) (v := undef) rfl (by kernel_rfl) (by kernel_rfl) (by kernel_rfl) (fun _ _ _ h => h) (Or.inr ⟨by rfl, rfl⟩) hS ?_
        simp only [Act.put, List.setIfInBounds_toArray, List.set_cons_zero, List.set_cons_succ]
        refine wpAnyH_take (i := 13) (oi := ⟨some 34, _, _, _, _, _⟩) (v := undef) rfl (by kernel_rfl) (by kernel_rfl) (by kernel_rfl) (fun _ _ _ h => h) (Or.inr ⟨by rfl, rfl⟩) hS ?_
        simp only [Act.put, List.setIfInBounds_toArray, List.set_cons_zero, List.set_cons_succ]
        refine wpAnyH_take (i := 14) (oi := ⟨some 35, _, _, _, _, _⟩) (v := undef) rfl (by kernel_rfl) (by kernel_rfl) (by kernel_rfl) (fun _ _ _ h => h) (Or.inr ⟨by rfl, rfl⟩) hS ?_
        simp only [Act.put, List.setIfInBounds_toArray, List.set_cons_zero, List.set_cons_succ]
        refine wpAnyH_take (i := 15) (oi := ⟨some 36, _, _, _, _, _⟩) (v := undef) rfl (by kernel_rfl) (by kernel_rfl) (by kernel_rfl) (fun _ _ _ h => h) (Or.inr ⟨by rfl, rfl⟩) hS ?_
        simp only [Act.put, List.setIfInBounds_toArray, List.set_cons_zero, List.set_cons_succ]
        refine wpAnyH_take (i := 16) (oi := ⟨some 37, _, _, _, _, _⟩) (v := undef) rfl (by kernel_rfl) (by kernel_rfl) (by kernel_rfl) (fun _ _ _ h => h) (Or.inr ⟨by rfl, rfl⟩) hS ?_
        simp only [Act.put, List.setIfInBounds_toArray, List.set_cons_zero, List.set_cons_succ]
        refine wpAnyH_take (i := 17) (oi := ⟨some 38, _, _, _, _, _⟩) (v := undef) rfl (by kernel_rfl) (by kernel_rfl) (by kernel_rfl) (fun _ _ _ h => h) (Or.inr ⟨by rfl, rfl⟩) hS ?_
        simp only [Act.put, List.setIfInBounds_toArray, List.set_cons_zero, List.set_cons_succ]
        refine wpAnyH_take (i := 18) (oi := ⟨some 39, _, _, _, _, _⟩) (v := .bool true) rfl (by kernel_rfl) (by kernel_rfl) (by kernel_rfl) (fun _ _ _ h => h) (Or.inl ⟨by rfl, fun w hSw => by (try dsimp only at hSw); go_simp <;> first | omega | (intro hx; exact absurd hx (by omega))⟩) hS ?_
        simp only [Act.put, List.setIfInBounds_toArray, List.set_cons_zero, List.set_cons_succ]
        refine wpAnyH_take (i := 19) (oi := ⟨some 10, _, _, _, _, _⟩) (v := .bool true) rfl (by kernel_rfl) (by kernel_rfl) (by kernel_rfl) (fun _ _ _ h => h) (Or.inl ⟨by rfl, fun w hSw => by (try dsimp only at hSw); go_simp <;> first | omega | (intro hx; exact absurd hx (by omega))⟩) hS ?_
        simp only [Act.put, List.setIfInBounds_toArray, List.set_cons_zero, List.set_cons_succ]
        refine wpAnyH_done (by kernel_rfl) ?_ _
        clear hS
        go_upto_region 4 with fail
        obtain ⟨wd2, hwd⟩ : ∃ y, wd.drew = y := ⟨_, rfl⟩
        have hbd : Below wd.heap.size wd wd2 := by rw [← hwd]; exact ⟨rfl, rfl, rfl, Nat.le_refl _, fun _ _ => rfl⟩
        have Bq := Lib.hid (B.out.trans (hbd.mono B.out.size))
        have PKq := Lib.hid (PK.out.below hbd)
        clear B PK
        have B := Bq
        have PK := PKq
        clear Bq PKq hbd
        refine wp_region_held_drew (S := fun W => Below w.heap.size w W) (by kernel_rfl) (by rw [hwd]; exact B.out) (fun hS => ?_)
        rw [hwd] at hS ⊢
        clear hwd
        refine wpAnyH_take (i := 0) (oi := ⟨some 40, _, _, _, _, _⟩) (v := .slice (some ⟨b, off, none⟩) pa ca) rfl (by kernel_rfl) (by kernel_rfl) (by kernel_rfl) (fun _ _ _ h => h) (Or.inl ⟨by rfl, fun w hSw => by (try dsimp only at hSw); go_simp <;> first | omega | (intro hx; exact absurd hx (by omega))⟩) hS ?_
        simp only [Act.put, List.setIfInBounds_toArray, List.set_cons_zero, List.set_cons_succ]
        refine wpAnyH_take (i := 1) (oi := ⟨some 41, _, _, _, _, _⟩) (v := .int .i64 (pa : Int)) rfl (by kernel_rfl) (by kernel_rfl) (by kernel_rfl) (fun _ _ _ h => h) (Or.inl ⟨by rfl, fun w hSw => by (try dsimp only at hSw); go_simp <;> first | omega | (intro hx; exact absurd hx (by omega))⟩) hS ?_
        simp only [Act.put, List.setIfInBounds_toArray, List.set_cons_zero, List.set_cons_succ]
        refine wpAnyH_take (i := 2) (oi := ⟨some 42, _, _, _, _, _⟩) (v := .bool false) rfl (by kernel_rfl) (by kernel_rfl) (by kernel_rfl) (fun _ _ _ h => h) (Or.inl ⟨by rfl, fun w hSw => by (try dsimp only at hSw); go_simp <;> first | omega | (intro hx; exact absurd hx (by omega))⟩) hS ?_
        simp only [Act.put, List.setIfInBounds_toArray, List.set_cons_zero, List.set_cons_succ]
        refine wpAnyH_take (i := 3) (oi := ⟨some 43, _, _, _, _, _⟩) (v := .bool false) rfl (by kernel_rfl) (by kernel_rfl) (by kernel_rfl) (fun _ _ _ h => h) (Or.inl ⟨by rfl, fun w hSw => by (try dsimp only at hSw); go_simp <;> first | omega | (intro hx; exact absurd hx (by omega))⟩) hS ?_
        simp only [Act.put, List.setIfInBounds_toArray, List.set_cons_zero, List.set_cons_succ]
        refine wpAnyH_take (i := 4) (oi := ⟨some 44, _, _, _, _, _⟩) (v := .slice Ba 0 cb) rfl (by kernel_rfl) (by kernel_rfl) (by kernel_rfl) (fun _ _ _ h => h) (Or.inl ⟨by rfl, fun w hSw => by (try dsimp only at hSw); go_simp <;> first | omega | (intro hx; exact absurd hx (by omega))⟩) hS ?_
        simp only [Act.put, List.setIfInBounds_toArray, List.set_cons_zero, List.set_cons_succ]
        refine wpAnyH_take (i := 5) (oi := ⟨some 45, _, _, _, _, _⟩) (v := .int .i64 0) rfl (by kernel_rfl) (by kernel_rfl) (by kernel_rfl) (fun _ _ _ h => h) (Or.inl ⟨by rfl, fun w hSw => by (try dsimp only at hSw); go_simp <;> first | omega | (intro hx; exact absurd hx (by omega))⟩) hS ?_
        simp only [Act.put, List.setIfInBounds_toArray, List.set_cons_zero, List.set_cons_succ]
        refine wpAnyH_take (i := 6) (oi := ⟨some 46, _, _, _, _, _⟩) (v := .bool false) rfl (by kernel_rfl) (by kernel_rfl) (by kernel_rfl) (fun _ _ _ h => h) (Or.inl ⟨by rfl, fun w hSw => by (try dsimp only at hSw); go_simp <;> first | omega | (intro hx; exact absurd hx (by omega))⟩) hS ?_
        simp only [Act.put, List.setIfInBounds_toArray, List.set_cons_zero, List.set_cons_succ]
        refine wpAnyH_take (i := 7) (oi := ⟨some 47, _, _, _, _, _⟩) (v := .bool false) rfl (by kernel_rfl) (by kernel_rfl) (by kernel_rfl) (fun _ _ _ h => h) (Or.inl ⟨by rfl, fun w hSw => by (try dsimp only at hSw); go_simp <;> first | omega | (intro hx; exact absurd hx (by omega))⟩) hS ?_
        simp only [Act.put, List.setIfInBounds_toArray, List.set_cons_zero, List.set_cons_succ]
        refine wpAnyH_take (i := 8) (oi := ⟨some 48, _, _, _, _, _⟩) (v := undef) rfl (by kernel_rfl) (by kernel_rfl) (by kernel_rfl) (fun _ _ _ h => h) (Or.inr ⟨by rfl, rfl⟩) hS ?_
        simp only [Act.put, List.setIfInBounds_toArray, List.set_cons_zero, List.set_cons_succ]
        refine wpAnyH_take (i := 9) (oi := ⟨some 49, _, _, _, _, _⟩) (v := undef) rfl (by kernel_rfl) (by kernel_rfl) (by kernel_rfl) (fun _ _ _ h => h) (Or.inr ⟨by rfl, rfl⟩) hS ?_
        simp only [Act.put, List.setIfInBounds_toArray, List.set_cons_zero, List.set_cons_succ]
        refine wpAnyH_take (i := 10) (oi := ⟨some 50, _, _, _, _, _⟩) (v := undef) rfl (by kernel_rfl) (by kernel_rfl) (by kernel_rfl) (fun _ _ _ h => h) (Or.inr ⟨by rfl, rfl⟩) hS ?_
        simp only [Act.put, List.setIfInBounds_toArray, List.set_cons_zero, List.set_cons_succ]
        refine wpAnyH_take (i := 11) (oi := ⟨some 51, _, _, _, _, _⟩) (v := undef) rfl (by kernel_rfl) (by kernel_rfl) (by kernel_rfl) (fun _ _ _ h => h) (Or.inr ⟨by rfl, rfl⟩) hS ?_
        simp only [Act.put, List.setIfInBounds_toArray, List.set_cons_zero, List.set_cons_succ]
        refine wpAnyH_take (i := 12) (oi := ⟨some 52, _, _, _, _, _⟩) (v := undef) rfl (by kernel_rfl) (by kernel_rfl) (by kernel_rfl) (fun _ _ _ h => h) (Or.inr ⟨by rfl, rfl⟩) hS ?_
        simp only [Act.put, List.setIfInBounds_toArray, List.set_cons_zero, List.set_cons_succ]
        refine wpAnyH_take (i := 13) (oi := ⟨some 53, _, _, _, _, _⟩) (v := undef) rfl (by kernel_rfl) (by kernel_rfl) (by kernel_rfl) (fun _ _ _ h => h) (Or.inr ⟨by rfl, rfl⟩) hS ?_
        simp only [Act.put, List.setIfInBounds_toArray, List.set_cons_zero, List.set_cons_succ]
        refine wpAnyH_take (i := 14) (oi := ⟨some 54, _, _, _, _, _⟩) (v := undef) rfl (by kernel_rfl) (by kernel_rfl) (by kernel_rfl) (fun _ _ _ h => h) (Or.inr ⟨by rfl, rfl⟩) hS ?_
        simp only [Act.put, List.setIfInBounds_toArray, List.set_cons_zero, List.set_cons_succ]
        refine wpAnyH_take (i := 15) (oi := ⟨some 55, _, _, _, _, _⟩) (v := undef) rfl (by kernel_rfl) (by kernel_rfl) (by kernel_rfl) (fun _ _ _ h => h) (Or.inr ⟨by rfl, rfl⟩) hS ?_
        simp only [Act.put, List.setIfInBounds_toArray, List.set_cons_zero, List.set_cons_succ]
        refine wpAnyH_take (i := 16) (oi := ⟨some 56, _, _, _, _, _⟩) (v := undef) rfl (by kernel_rfl) (by kernel_rfl) (by kernel_rfl) (fun _ _ _ h => h) (Or.inr ⟨by rfl, rfl⟩) hS ?_
        simp only [Act.put, List.setIfInBounds_toArray, List.set_cons_zero, List.set_cons_succ]
        refine wpAnyH_take (i := 17) (oi := ⟨some 57, _, _, _, _, _⟩) (v := .bool false) rfl (by kernel_rfl) (by kernel_rfl) (by kernel_rfl) (fun _ _ _ h => h) (Or.inl ⟨by rfl, fun w hSw => by (try dsimp only at hSw); go_simp <;> first | omega | (intro hx; exact absurd hx (by omega))⟩) hS ?_
        simp only [Act.put, List.setIfInBounds_toArray, List.set_cons_zero, List.set_cons_succ]
        refine wpAnyH_take (i := 18) (oi := ⟨some 58, _, _, _, _, _⟩) (v := .bool false) rfl (by kernel_rfl) (by kernel_rfl) (by kernel_rfl) (fun _ _ _ h => h) (Or.inl ⟨by rfl, fun w hSw => by (try dsimp only at hSw); go_simp <;> first | omega | (intro hx; exact absurd hx (by omega))⟩) hS ?_
        simp only [Act.put, List.setIfInBounds_toArray, List.set_cons_zero, List.set_cons_succ]
        refine wpAnyH_take (i := 19) (oi := ⟨some 11, _, _, _, _, _⟩) (v := .bool false) rfl (by kernel_rfl) (by kernel_rfl) (by kernel_rfl) (fun _ _ _ h => h) (Or.inl ⟨by rfl, fun w hSw => by (try dsimp only at hSw); go_simp <;> first | omega | (intro hx; exact absurd hx (by omega))⟩) hS ?_
        simp only [Act.put, List.setIfInBounds_toArray, List.set_cons_zero, List.set_cons_succ]
        refine wpAnyH_done (by kernel_rfl) ?_ _
        clear hS
        obtain ⟨wa, hwa⟩ : ∃ y, wd2.alloc (.cells (oc 0 zl).toArray 26) = y := ⟨_, rfl⟩
        obtain ⟨go, hgo⟩ : ∃ y, wd2.heap.size = y := ⟨_, rfl⟩
        have hbn : Below wd2.heap.size wd2 wa := by rw [← hwa]; exact bel1 _ _
        have KO : Hid (Bk wa go 26 (oc 0 zl)) := Lib.hid (by rw [← hwa, ← hgo]; exact Bk.new _ _ _)
        have GB : Hid (w.heap.size ≤ go) := Lib.hid (by rw [← hgo]; exact B.out.size)
        have GN : Hid (u9.ownBlock ≠ some go) := Lib.hid (fun e => by have := (PK.out.own.lt _ e).2; omega)
        have KL := HZL
        have HWA := Lib.hid hwa
        have HGO := Lib.hid hgo
        clear hwa hgo
        have Bq := Lib.hid (B.out.trans (hbn.mono B.out.size))
        have PKq := Lib.hid (PK.out.below hbn)
        clear B PK
        have B := Bq
        have PK := PKq
        clear Bq PKq hbn
        go_upto_region 7 with fail
        rw [HWA.out, HGO.out]
        clear HWA HGO
        obtain ⟨wd3, hwd⟩ : ∃ y, wa.drew = y := ⟨_, rfl⟩
        have hbd : Below wa.heap.size wa wd3 := by rw [← hwd]; exact ⟨rfl, rfl, rfl, Nat.le_refl _, fun _ _ => rfl⟩
        have Bq := Lib.hid (B.out.trans (hbd.mono B.out.size))
        have PKq := Lib.hid (PK.out.below hbd)
        have KOq := Lib.hid (KO.out.below hbd KO.out.lt)
        clear B PK KO
        have B := Bq
        have PK := PKq
        have KO := KOq
        clear Bq PKq KOq hbd
        refine wp_region_held_drew (S := fun W => Below w.heap.size w W) (by kernel_rfl) (by rw [hwd]; exact B.out) (fun hS => ?_)
        rw [hwd] at hS ⊢
        clear hwd
        refine wpAnyH_take (i := 0) (oi := ⟨some 60, _, _, _, _, _⟩) (v := .slice (some ⟨b, off, none⟩) pa ca) rfl (by kernel_rfl) (by kernel_rfl) (by kernel_rfl) (fun _ _ _ h => h) (Or.inl ⟨by rfl, fun w hSw => by (try dsimp only at hSw); go_simp <;> first | omega | (intro hx; exact absurd hx (by omega))⟩) hS ?_
        simp only [Act.put, List.setIfInBounds_toArray, List.set_cons_zero, List.set_cons_succ]
        refine wpAnyH_take (i := 1) (oi := ⟨some 61, _, _, _, _, _⟩) (v := .pointer (some ⟨b, off, none⟩)) rfl (by kernel_rfl) (by kernel_rfl) (by kernel_rfl) (fun _ _ _ h => h) (Or.inl ⟨by rfl, fun w hSw => by (try dsimp only at hSw); go_simp <;> first | omega | (intro hx; exact absurd hx (by omega))⟩) hS ?_
        simp only [Act.put, List.setIfInBounds_toArray, List.set_cons_zero, List.set_cons_succ]
        refine wpAnyH_take (i := 2) (oi := ⟨some 62, _, _, _, _, _⟩) (v := oV n l) rfl (by kernel_rfl) (by kernel_rfl) (by kernel_rfl) (fun _ _ _ h => h) (yieldsIf_load_mid (by rfl) 26 (.tmp 61) rfl (b) (off) rfl (oc n l) _ (fun W h => range_below HX.out HXB.out h) Tryz.underlying26 rfl (by rw [oc_length, hxl]; exact info25)) hS ?_
        simp only [Act.put, List.setIfInBounds_toArray, List.set_cons_zero, List.set_cons_succ]
        refine wpAnyH_take (i := 3) (oi := ⟨some 63, _, _, _, _, _⟩) (v := .slice (some ⟨b, off, none⟩) pa ca) rfl (by kernel_rfl) (by kernel_rfl) (by kernel_rfl) (fun _ _ _ h => h) (Or.inl ⟨by rfl, fun w hSw => by (try dsimp only at hSw); go_simp <;> first | omega | (intro hx; exact absurd hx (by omega))⟩) hS ?_
        simp only [Act.put, List.setIfInBounds_toArray, List.set_cons_zero, List.set_cons_succ]
        refine wpAnyH_take (i := 4) (oi := ⟨some 64, _, _, _, _, _⟩) (v := .slice A1 la (ca - 1)) rfl (by kernel_rfl) (by kernel_rfl) (by kernel_rfl) (fun _ _ _ h => h) (Or.inl ⟨by rfl, fun w hSw => by (try dsimp only at hSw); go_simp <;> first | omega | (intro hx; exact absurd hx (by omega))⟩) hS ?_
        simp only [Act.put, List.setIfInBounds_toArray, List.set_cons_zero, List.set_cons_succ]
        refine wpAnyH_ready (rs := [5]) (by kernel_rfl) (by simp) ?_
        refine AllReadyH.cons (o := _) rfl (fun K hK => ?_) (AllReadyH.nil)
        refine storeO_wp (.tmp 12) (.tmp 62) rfl (n := n) (l := l) rfl rfl KO.out (by rw [oc_length, KL.out]) hxl ?_
        intro W1 V hg hz
        have KOq := Lib.hid V
        have Bq : Hid (Below w.heap.size w W1) := Lib.hid (B.out.grown hg B.out.size (fun k e => by injection e with e; have := GB.out; omega))
        have PKq := Lib.hid (PK.out.grown hg (GN.out))
        have KLq : Hid (l.length = 16) := Lib.hid hxl
        clear V hg hz B KO PK KL
        have B := Bq
        have KO := KOq
        have PK := PKq
        have KL := KLq
        clear Bq KOq PKq KLq
        refine hK.out _ _ (B.out) (fun hS => ?_)
        clear hK K
        (try simp only [Act.put, List.setIfInBounds_toArray, List.set_cons_zero, List.set_cons_succ])
        refine wpAnyH_take (i := 6) (oi := ⟨some 0, _, _, _, _, _⟩) (v := .slice A1 la (ca - 1)) rfl (by kernel_rfl) (by kernel_rfl) (by kernel_rfl) (fun _ _ _ h => h) (Or.inl ⟨by rfl, fun w hSw => by (try dsimp only at hSw); go_simp <;> first | omega | (intro hx; exact absurd hx (by omega))⟩) hS ?_
        simp only [Act.put, List.setIfInBounds_toArray, List.set_cons_zero]
        refine wpAnyH_done (by kernel_rfl) ?_ _
        clear hS
        have HKP := HKEEP.out true false
        cases hkf : kf true false
        · rw [hkf] at HKP
          go_wp2_with fail
          refine (HKP _).mono ?_
          rintro e w7 ⟨rfl, rfl⟩
          have HRES : Hid (K ++ mrg kf q Lx [] = RES) := Lib.hid (by rw [← HR.out, HM.out]; simp [hkf])
          clear hkf HKP
          go_wp2_with fail
          exact ⟨⟨A1, Ba, ca - 1, cb, la, 0, Lx, [], K, q, rfl, rfl, IA1.out, IB.out, PK.out, by omega, HRES.out, by omega, B.out⟩, by simp [lenV]; try omega⟩
        · rw [hkf] at HKP
          go_wp2_with fail
          refine (HKP _).mono ?_
          rintro e w7 ⟨rfl, rfl⟩
          obtain ⟨v', w8, hrun, hpo, hbl⟩ := PK.out.push (by omega) (HXO.out : OkO n l)
          have HRUN := Lib.hid hrun
          have HPO := Lib.hid hpo
          have HBL := Lib.hid (B.out.trans (hbl.mono (Nat.le_refl _)))
          have HRES : Hid ((K ++ [(n, l)]) ++ mrg kf q Lx [] = RES) := Lib.hid (by rw [← HR.out, HM.out]; simp [hkf])
          clear hkf HKP hrun hpo hbl
          go_wp2_with (first | (refine wpList_load25 rfl (.tmp 12) rfl rfl KO.out KL.out ?_) | (refine wpList_buildO rfl 76 rfl rfl KL.out ?_) | (at_builtin; refine wpList_appO (o := ⟨some 78, _, _, _, _, _⟩) rfl _ _ _ _ rfl _ _ rfl rfl HRUN.out ?_))
          exact ⟨⟨A1, Ba, ca - 1, cb, la, 0, Lx, [], K ++ [(n, l)], q, rfl, rfl, IA1.out, IB.out, HPO.out, by rw [List.length_append, List.length_singleton]; omega, HRES.out, by omega, HBL.out⟩, by simp [lenV]; try omega⟩
      | succ lb =>
        obtain ⟨⟨m, k⟩, Ly, rfl⟩ := List.exists_cons_of_length_eq_add_one hib.ln
        obtain ⟨b2, off2, B1, rfl, hyb, hyr, hyo, ht1, ht2, hi1⟩ := hib.tail
        dsimp only at hyr hyo
        obtain ⟨pb, hpb⟩ : ∃ pb, lb + 1 = pb := ⟨_, rfl⟩
        rw [hpb] at ht1 ht2 hib hsz hq ⊢
        have hpb1 : ((pb : Int) == 0) = false := by simp; omega
        have hpb2 : decide ((0 : Int) < (pb : Int)) = true := decide_eq_true (by omega)
        have hpb3 : ¬ ((pb : Int) = 0) := by omega
        have hyl := hyo.len
        have HY := Lib.hid hyr
        have HYB := Lib.hid hyb
        have HYO := Lib.hid hyo
        have IB1 := Lib.hid hi1
        have IB := Lib.hid hib
        clear hyr hyb hyo hi1 hib
        have hcm := fun W => compare_any n l m k W HXO.out HYO.out
        have HM0 : mrg kf (q + 1) ((n, l) :: Lx) ((m, k) :: Ly) = if cmpO n l m k < 0 then (if kf true false then [(n, l)] else []) ++ mrg kf q Lx ((m, k) :: Ly)
          else if cmpO n l m k = 0 then (if kf true true then [(m, k)] else []) ++ mrg kf q Lx Ly else (if kf false true then [(m, k)] else []) ++ mrg kf q ((n, l) :: Lx) Ly := rfl
        generalize cmpO n l m k = x at hcm HM0
        have HCM := Lib.hid hcm
        clear hcm
        rcases Int.lt_trichotomy x 0 with hx | hx | hx
        · have HM : Hid (mrg kf (q + 1) ((n, l) :: Lx) ((m, k) :: Ly) = (if kf true false then [(n, l)] else []) ++ mrg kf q Lx ((m, k) :: Ly)) := Lib.hid (by rw [HM0, if_pos hx])
          have hx1 : decide (x ≤ 0) = true := decide_eq_true (by omega)
          have hx2 : decide (0 ≤ x) = false := decide_eq_false (by omega)
          clear HM0 hx
          go_upto_region 3 with fail
          obtain ⟨wd, hwd⟩ : ∃ y, wr.drew = y := ⟨_, rfl⟩
          have hbd : Below wr.heap.size wr wd := by rw [← hwd]; exact ⟨rfl, rfl, rfl, Nat.le_refl _, fun _ _ => rfl⟩
          have Bq := Lib.hid (B.out.trans (hbd.mono B.out.size))
          have PKq := Lib.hid (PK.out.below hbd)
          clear B PK
          have B := Bq
          have PK := PKq
          clear Bq PKq hbd
          refine wp_region_held_drew (S := fun W => Below w.heap.size w W) (by kernel_rfl) (by rw [hwd]; exact B.out) (fun hS => ?_)
          rw [hwd] at hS ⊢
          clear hwd
          refine wpAnyH_take (i := 0) (oi := ⟨some 21, _, _, _, _, _⟩) (v := .slice (some ⟨b2, off2, none⟩) pb cb) rfl (by kernel_rfl) (by kernel_rfl) (by kernel_rfl) (fun _ _ _ h => h) (Or.inl ⟨by rfl, fun w hSw => by (try dsimp only at hSw); go_simp <;> first | omega | (intro hx; exact absurd hx (by omega))⟩) hS ?_
          simp only [Act.put, List.setIfInBounds_toArray, List.set_cons_zero, List.set_cons_succ]
          refine wpAnyH_take (i := 1) (oi := ⟨some 22, _, _, _, _, _⟩) (v := .int .i64 (pb : Int)) rfl (by kernel_rfl) (by kernel_rfl) (by kernel_rfl) (fun _ _ _ h => h) (Or.inl ⟨by rfl, fun w hSw => by (try dsimp only at hSw); go_simp <;> first | omega | (intro hx; exact absurd hx (by omega))⟩) hS ?_
          simp only [Act.put, List.setIfInBounds_toArray, List.set_cons_zero, List.set_cons_succ]
          refine wpAnyH_take (i := 2) (oi := ⟨some 23, _, _, _, _, _⟩) (v := .bool false) rfl (by kernel_rfl) (by kernel_rfl) (by kernel_rfl) (fun _ _ _ h => h) (Or.inl ⟨by rfl, fun w hSw => by (try dsimp only at hSw); go_simp <;> first | omega | (intro hx; exact absurd hx (by omega))⟩) hS ?_
          simp only [Act.put, List.setIfInBounds_toArray, List.set_cons_zero, List.set_cons_succ]
          refine wpAnyH_take (i := 3) (oi := ⟨some 24, _, _, _, _, _⟩) (v := .bool false) rfl (by kernel_rfl) (by kernel_rfl) (by kernel_rfl) (fun _ _ _ h => h) (Or.inl ⟨by rfl, fun w hSw => by (try dsimp only at hSw); go_simp <;> first | omega | (intro hx; exact absurd hx (by omega))⟩) hS ?_
          simp only [Act.put, List.setIfInBounds_toArray, List.set_cons_zero, List.set_cons_succ]
          refine wpAnyH_take (i := 4) (oi := ⟨some 25, _, _, _, _, _⟩) (v := .slice (some ⟨b, off, none⟩) pa ca) rfl (by kernel_rfl) (by kernel_rfl) (by kernel_rfl) (fun _ _ _ h => h) (Or.inl ⟨by rfl, fun w hSw => by (try dsimp only at hSw); go_simp <;> first | omega | (intro hx; exact absurd hx (by omega))⟩) hS ?_
          simp only [Act.put, List.setIfInBounds_toArray, List.set_cons_zero, List.set_cons_succ]
          refine wpAnyH_take (i := 5) (oi := ⟨some 26, _, _, _, _, _⟩) (v := .int .i64 (pa : Int)) rfl (by kernel_rfl) (by kernel_rfl) (by kernel_rfl) (fun _ _ _ h => h) (Or.inl ⟨by rfl, fun w hSw => by (try dsimp only at hSw); go_simp <;> first | omega | (intro hx; exact absurd hx (by omega))⟩) hS ?_
          simp only [Act.put, List.setIfInBounds_toArray, List.set_cons_zero, List.set_cons_succ]
          refine wpAnyH_take (i := 6) (oi := ⟨some 27, _, _, _, _, _⟩) (v := .bool true) rfl (by kernel_rfl) (by kernel_rfl) (by kernel_rfl) (fun _ _ _ h => h) (Or.inl ⟨by rfl, fun w hSw => by (try dsimp only at hSw); go_simp <;> first | omega | (intro hx; exact absurd hx (by omega))⟩) hS ?_
          simp only [Act.put, List.setIfInBounds_toArray, List.set_cons_zero, List.set_cons_succ]
          refine wpAnyH_take (i := 7) (oi := ⟨some 28, _, _, _, _, _⟩) (v := .bool true) rfl (by kernel_rfl) (by kernel_rfl) (by kernel_rfl) (fun _ _ _ h => h) (Or.inl ⟨by rfl, fun w hSw => by (try dsimp only at hSw); go_simp <;> first | omega | (intro hx; exact absurd hx (by omega))⟩) hS ?_
          simp only [Act.put, List.setIfInBounds_toArray, List.set_cons_zero, List.set_cons_succ]
          refine wpAnyH_take (i := 8) (oi := ⟨some 29, _, _, _, _, _⟩) (v := .func (.func 39) #[] #[]) rfl (by kernel_rfl) (by kernel_rfl) (by kernel_rfl) (fun _ _ _ h => h) (Or.inl ⟨by rfl, fun w hSw => by (try dsimp only at hSw); go_simp <;> first | omega | (intro hx; exact absurd hx (by omega))⟩) hS ?_
          simp only [Act.put, List.setIfInBounds_toArray, List.set_cons_zero, List.set_cons_succ]
          refine wpAnyH_take (i := 9) (oi := ⟨some 30, _, _, _, _, _⟩) (v := .slice (some ⟨b, off, none⟩) pa ca) rfl (by kernel_rfl) (by kernel_rfl) (by kernel_rfl) (fun _ _ _ h => h) (Or.inl ⟨by rfl, fun w hSw => by (try dsimp only at hSw); go_simp <;> first | omega | (intro hx; exact absurd hx (by omega))⟩) hS ?_
          simp only [Act.put, List.setIfInBounds_toArray, List.set_cons_zero, List.set_cons_succ]
          refine wpAnyH_take (i := 10) (oi := ⟨some 31, _, _, _, _, _⟩) (v := .pointer (some ⟨b, off, none⟩)) rfl (by kernel_rfl) (by kernel_rfl) (by kernel_rfl) (fun _ _ _ h => h) (Or.inl ⟨by rfl, fun w hSw => by (try dsimp only at hSw); go_simp <;> first | omega | (intro hx; exact absurd hx (by omega))⟩) hS ?_
          simp only [Act.put, List.setIfInBounds_toArray, List.set_cons_zero, List.set_cons_succ]
          refine wpAnyH_take (i := 11) (oi := ⟨some 32, _, _, _, _, _⟩) (v := oV n l) rfl (by kernel_rfl) (by kernel_rfl) (by kernel_rfl) (fun _ _ _ h => h) (yieldsIf_load_mid (by rfl) 26 (.tmp 31) rfl (b) (off) rfl (oc n l) _ (fun W h => range_below HX.out HXB.out h) Tryz.underlying26 rfl (by rw [oc_length, hxl]; exact info25)) hS ?_
          simp only [Act.put, List.setIfInBounds_toArray, List.set_cons_zero, List.set_cons_succ]
          refine wpAnyH_take (i := 12) (oi := ⟨some 33, _, _, _, _, _⟩) (v := .slice (some ⟨b2, off2, none⟩) pb cb) rfl (by kernel_rfl) (by kernel_rfl) (by kernel_rfl) (fun _ _ _ h => h) (Or.inl ⟨by rfl, fun w hSw => by (try dsimp only at hSw); go_simp <;> first | omega | (intro hx; exact absurd hx (by omega))⟩) hS ?_
          simp only [Act.put, List.setIfInBounds_toArray, List.set_cons_zero, List.set_cons_succ]
          refine wpAnyH_take (i := 13) (oi := ⟨some 34, _, _, _, _, _⟩) (v := .pointer (some ⟨b2, off2, none⟩)) rfl (by kernel_rfl) (by kernel_rfl) (by kernel_rfl) (fun _ _ _ h => h) (Or.inl ⟨by rfl, fun w hSw => by (try dsimp only at hSw); go_simp <;> first | omega | (intro hx; exact absurd hx (by omega))⟩) hS ?_
          simp only [Act.put, List.setIfInBounds_toArray, List.set_cons_zero, List.set_cons_succ]
          refine wpAnyH_take (i := 14) (oi := ⟨some 35, _, _, _, _, _⟩) (v := oV m k) rfl (by kernel_rfl) (by kernel_rfl) (by kernel_rfl) (fun _ _ _ h => h) (yieldsIf_load_mid (by rfl) 26 (.tmp 34) rfl (b2) (off2) rfl (oc m k) _ (fun W h => range_below HY.out HYB.out h) Tryz.underlying26 rfl (by rw [oc_length, hyl]; exact info25)) hS ?_
          simp only [Act.put, List.setIfInBounds_toArray, List.set_cons_zero, List.set_cons_succ]
          refine wpAnyH_ready (rs := [15]) (by kernel_rfl) (by simp) ?_
          refine AllReadyH.cons (o := _) rfl (fun K hK => ?_) (AllReadyH.nil)
          go_simp
          refine (HCM.out _).mono ?_
          rintro r w5 ⟨rfl, hb⟩
          have Bq := Lib.hid (B.out.trans (hb.mono B.out.size))
          have PKq := Lib.hid (PK.out.below hb)
          clear B PK
          have B := Bq
          have PK := PKq
          clear Bq PKq hb
          refine hK.out _ _ (B.out) (fun hS => ?_)
          clear hK K
          (try simp only [Act.put, List.setIfInBounds_toArray, List.set_cons_zero, List.set_cons_succ])
          refine wpAnyH_take (i := 16) (oi := ⟨some 37, _, _, _, _, _⟩) (v := .bool true) rfl (by kernel_rfl) (by kernel_rfl) (by kernel_rfl) (fun _ _ _ h => h) (Or.inl ⟨by rfl, fun w hSw => by (try dsimp only at hSw); go_simp <;> first | omega | (intro hx; exact absurd hx (by omega))⟩) hS ?_
          simp only [Act.put, List.setIfInBounds_toArray, List.set_cons_zero, List.set_cons_succ]
          refine wpAnyH_take (i := 17) (oi := ⟨some 38, _, _, _, _, _⟩) (v := .bool true) rfl (by kernel_rfl) (by kernel_rfl) (by kernel_rfl) (fun _ _ _ h => h) (Or.inl ⟨by rfl, fun w hSw => by (try dsimp only at hSw); go_simp <;> first | omega | (intro hx; exact absurd hx (by omega))⟩) hS ?_
          simp only [Act.put, List.setIfInBounds_toArray, List.set_cons_zero, List.set_cons_succ]
          refine wpAnyH_take (i := 18) (oi := ⟨some 39, _, _, _, _, _⟩) (v := .bool true) rfl (by kernel_rfl) (by kernel_rfl) (by kernel_rfl) (fun _ _ _ h => h) (Or.inl ⟨by rfl, fun w hSw => by (try dsimp only at hSw); go_simp <;> first | omega | (intro hx; exact absurd hx (by omega))⟩) hS ?_
          simp only [Act.put, List.setIfInBounds_toArray, List.set_cons_zero, List.set_cons_succ]
          refine wpAnyH_take (i := 19) (oi := ⟨some 10, _, _, _, _, _⟩) (v := .bool true) rfl (by kernel_rfl) (by kernel_rfl) (by kernel_rfl) (fun _ _ _ h => h) (Or.inl ⟨by rfl, fun w hSw => by (try dsimp only at hSw); go_simp <;> first | omega | (intro hx; exact absurd hx (by omega))⟩) hS ?_
          simp only [Act.put, List.setIfInBounds_toArray, List.set_cons_zero, List.set_cons_succ]
          refine wpAnyH_done (by kernel_rfl) ?_ _
          clear hS
          go_upto_region 4 with fail
          obtain ⟨wd2, hwd⟩ : ∃ y, w5.drew = y := ⟨_, rfl⟩
          have hbd : Below w5.heap.size w5 wd2 := by rw [← hwd]; exact ⟨rfl, rfl, rfl, Nat.le_refl _, fun _ _ => rfl⟩
          have Bq := Lib.hid (B.out.trans (hbd.mono B.out.size))
          have PKq := Lib.hid (PK.out.below hbd)
          clear B PK
          have B := Bq
          have PK := PKq
          clear Bq PKq hbd
          refine wp_region_held_drew (S := fun W => Below w.heap.size w W) (by kernel_rfl) (by rw [hwd]; exact B.out) (fun hS => ?_)
          rw [hwd] at hS ⊢
          clear hwd
          refine wpAnyH_take (i := 0) (oi := ⟨some 40, _, _, _, _, _⟩) (v := .slice (some ⟨b, off, none⟩) pa ca) rfl (by kernel_rfl) (by kernel_rfl) (by kernel_rfl) (fun _ _ _ h => h) (Or.inl ⟨by rfl, fun w hSw => by (try dsimp only at hSw); go_simp <;> first | omega | (intro hx; exact absurd hx (by omega))⟩) hS ?_
          simp only [Act.put, List.setIfInBounds_toArray, List.set_cons_zero, List.set_cons_succ]
          refine wpAnyH_take (i := 1) (oi := ⟨some 41, _, _, _, _, _⟩) (v := .int .i64 (pa : Int)) rfl (by kernel_rfl) (by kernel_rfl) (by kernel_rfl) (fun _ _ _ h => h) (Or.inl ⟨by rfl, fun w hSw => by (try dsimp only at hSw); go_simp <;> first | omega | (intro hx; exact absurd hx (by omega))⟩) hS ?_
          simp only [Act.put, List.setIfInBounds_toArray, List.set_cons_zero, List.set_cons_succ]
          refine wpAnyH_take (i := 2) (oi := ⟨some 42, _, _, _, _, _⟩) (v := .bool false) rfl (by kernel_rfl) (by kernel_rfl) (by kernel_rfl) (fun _ _ _ h => h) (Or.inl ⟨by rfl, fun w hSw => by (try dsimp only at hSw); go_simp <;> first | omega | (intro hx; exact absurd hx (by omega))⟩) hS ?_
          simp only [Act.put, List.setIfInBounds_toArray, List.set_cons_zero, List.set_cons_succ]
          refine wpAnyH_take (i := 3) (oi := ⟨some 43, _, _, _, _, _⟩) (v := .bool false) rfl (by kernel_rfl) (by kernel_rfl) (by kernel_rfl) (fun _ _ _ h => h) (Or.inl ⟨by rfl, fun w hSw => by (try dsimp only at hSw); go_simp <;> first | omega | (intro hx; exact absurd hx (by omega))⟩) hS ?_
          simp only [Act.put, List.setIfInBounds_toArray, List.set_cons_zero, List.set_cons_succ]
          refine wpAnyH_take (i := 4) (oi := ⟨some 44, _, _, _, _, _⟩) (v := .slice (some ⟨b2, off2, none⟩) pb cb) rfl (by kernel_rfl) (by kernel_rfl) (by kernel_rfl) (fun _ _ _ h => h) (Or.inl ⟨by rfl, fun w hSw => by (try dsimp only at hSw); go_simp <;> first | omega | (intro hx; exact absurd hx (by omega))⟩) hS ?_
          simp only [Act.put, List.setIfInBounds_toArray, List.set_cons_zero, List.set_cons_succ]
          refine wpAnyH_take (i := 5) (oi := ⟨some 45, _, _, _, _, _⟩) (v := .int .i64 (pb : Int)) rfl (by kernel_rfl) (by kernel_rfl) (by kernel_rfl) (fun _ _ _ h => h) (Or.inl ⟨by rfl, fun w hSw => by (try dsimp only at hSw); go_simp <;> first | omega | (intro hx; exact absurd hx (by omega))⟩) hS ?_
          simp only [Act.put, List.setIfInBounds_toArray, List.set_cons_zero, List.set_cons_succ]
          refine wpAnyH_take (i := 6) (oi := ⟨some 46, _, _, _, _, _⟩) (v := .bool true) rfl (by kernel_rfl) (by kernel_rfl) (by kernel_rfl) (fun _ _ _ h => h) (Or.inl ⟨by rfl, fun w hSw => by (try dsimp only at hSw); go_simp <;> first | omega | (intro hx; exact absurd hx (by omega))⟩) hS ?_
          simp only [Act.put, List.setIfInBounds_toArray, List.set_cons_zero, List.set_cons_succ]
          refine wpAnyH_take (i := 7) (oi := ⟨some 47, _, _, _, _, _⟩) (v := .bool true) rfl (by kernel_rfl) (by kernel_rfl) (by kernel_rfl) (fun _ _ _ h => h) (Or.inl ⟨by rfl, fun w hSw => by (try dsimp only at hSw); go_simp <;> first | omega | (intro hx; exact absurd hx (by omega))⟩) hS ?_
          simp only [Act.put, List.setIfInBounds_toArray, List.set_cons_zero, List.set_cons_succ]
          refine wpAnyH_take (i := 8) (oi := ⟨some 48, _, _, _, _, _⟩) (v := .func (.func 39) #[] #[]) rfl (by kernel_rfl) (by kernel_rfl) (by kernel_rfl) (fun _ _ _ h => h) (Or.inl ⟨by rfl, fun w hSw => by (try dsimp only at hSw); go_simp <;> first | omega | (intro hx; exact absurd hx (by omega))⟩) hS ?_
          simp only [Act.put, List.setIfInBounds_toArray, List.set_cons_zero, List.set_cons_succ]
          refine wpAnyH_take (i := 9) (oi := ⟨some 49, _, _, _, _, _⟩) (v := .slice (some ⟨b, off, none⟩) pa ca) rfl (by kernel_rfl) (by kernel_rfl) (by kernel_rfl) (fun _ _ _ h => h) (Or.inl ⟨by rfl, fun w hSw => by (try dsimp only at hSw); go_simp <;> first | omega | (intro hx; exact absurd hx (by omega))⟩) hS ?_
          simp only [Act.put, List.setIfInBounds_toArray, List.set_cons_zero, List.set_cons_succ]
          refine wpAnyH_take (i := 10) (oi := ⟨some 50, _, _, _, _, _⟩) (v := .pointer (some ⟨b, off, none⟩)) rfl (by kernel_rfl) (by kernel_rfl) (by kernel_rfl) (fun _ _ _ h => h) (Or.inl ⟨by rfl, fun w hSw => by (try dsimp only at hSw); go_simp <;> first | omega | (intro hx; exact absurd hx (by omega))⟩) hS ?_
          simp only [Act.put, List.setIfInBounds_toArray, List.set_cons_zero, List.set_cons_succ]
          refine wpAnyH_take (i := 11) (oi := ⟨some 51, _, _, _, _, _⟩) (v := oV n l) rfl (by kernel_rfl) (by kernel_rfl) (by kernel_rfl) (fun _ _ _ h => h) (yieldsIf_load_mid (by rfl) 26 (.tmp 50) rfl (b) (off) rfl (oc n l) _ (fun W h => range_below HX.out HXB.out h) Tryz.underlying26 rfl (by rw [oc_length, hxl]; exact info25)) hS ?_
          simp only [Act.put, List.setIfInBounds_toArray, List.set_cons_zero, List.set_cons_succ]
          refine wpAnyH_take (i := 12) (oi := ⟨some 52, _, _, _, _, _⟩) (v := .slice (some ⟨b2, off2, none⟩) pb cb) rfl (by kernel_rfl) (by kernel_rfl) (by kernel_rfl) (fun _ _ _ h => h) (Or.inl ⟨by rfl, fun w hSw => by (try dsimp only at hSw); go_simp <;> first | omega | (intro hx; exact absurd hx (by omega))⟩) hS ?_
          simp only [Act.put, List.setIfInBounds_toArray, List.set_cons_zero, List.set_cons_succ]
          refine wpAnyH_take (i := 13) (oi := ⟨some 53, _, _, _, _, _⟩) (v := .pointer (some ⟨b2, off2, none⟩)) rfl (by kernel_rfl) (by kernel_rfl) (by kernel_rfl) (fun _ _ _ h => h) (Or.inl ⟨by rfl, fun w hSw => by (try dsimp only at hSw); go_simp <;> first | omega | (intro hx; exact absurd hx (by omega))⟩) hS ?_
          simp only [Act.put, List.setIfInBounds_toArray, List.set_cons_zero, List.set_cons_succ]
          refine wpAnyH_take (i := 14) (oi := ⟨some 54, _, _, _, _, _⟩) (v := oV m k) rfl (by kernel_rfl) (by kernel_rfl) (by kernel_rfl) (fun _ _ _ h => h) (yieldsIf_load_mid (by rfl) 26 (.tmp 53) rfl (b2) (off2) rfl (oc m k) _ (fun W h => range_below HY.out HYB.out h) Tryz.underlying26 rfl (by rw [oc_length, hyl]; exact info25)) hS ?_
          simp only [Act.put, List.setIfInBounds_toArray, List.set_cons_zero, List.set_cons_succ]
          refine wpAnyH_ready (rs := [15]) (by kernel_rfl) (by simp) ?_
          refine AllReadyH.cons (o := _) rfl (fun K hK => ?_) (AllReadyH.nil)
          go_simp
          refine (HCM.out _).mono ?_
          rintro r w6 ⟨rfl, hb⟩
          have Bq := Lib.hid (B.out.trans (hb.mono B.out.size))
          have PKq := Lib.hid (PK.out.below hb)
          clear B PK
          have B := Bq
          have PK := PKq
          clear Bq PKq hb
          refine hK.out _ _ (B.out) (fun hS => ?_)
          clear hK K
          (try simp only [Act.put, List.setIfInBounds_toArray, List.set_cons_zero, List.set_cons_succ])
          refine wpAnyH_take (i := 16) (oi := ⟨some 56, _, _, _, _, _⟩) (v := .bool false) rfl (by kernel_rfl) (by kernel_rfl) (by kernel_rfl) (fun _ _ _ h => h) (Or.inl ⟨by rfl, fun w hSw => by (try dsimp only at hSw); go_simp <;> first | omega | (intro hx; exact absurd hx (by omega))⟩) hS ?_
          simp only [Act.put, List.setIfInBounds_toArray, List.set_cons_zero, List.set_cons_succ]
          refine wpAnyH_take (i := 17) (oi := ⟨some 57, _, _, _, _, _⟩) (v := .bool false) rfl (by kernel_rfl) (by kernel_rfl) (by kernel_rfl) (fun _ _ _ h => h) (Or.inl ⟨by rfl, fun w hSw => by (try dsimp only at hSw); go_simp <;> first | omega | (intro hx; exact absurd hx (by omega))⟩) hS ?_
          simp only [Act.put, List.setIfInBounds_toArray, List.set_cons_zero, List.set_cons_succ]
          refine wpAnyH_take (i := 18) (oi := ⟨some 58, _, _, _, _, _⟩) (v := .bool false) rfl (by kernel_rfl) (by kernel_rfl) (by kernel_rfl) (fun _ _ _ h => h) (Or.inl ⟨by rfl, fun w hSw => by (try dsimp only at hSw); go_simp <;> first | omega | (intro hx; exact absurd hx (by omega))⟩) hS ?_
          simp only [Act.put, List.setIfInBounds_toArray, List.set_cons_zero, List.set_cons_succ]
          refine wpAnyH_take (i := 19) (oi := ⟨some 11, _, _, _, _, _⟩) (v := .bool false) rfl (by kernel_rfl) (by kernel_rfl) (by kernel_rfl) (fun _ _ _ h => h) (Or.inl ⟨by rfl, fun w hSw => by (try dsimp only at hSw); go_simp <;> first | omega | (intro hx; exact absurd hx (by omega))⟩) hS ?_
          simp only [Act.put, List.setIfInBounds_toArray, List.set_cons_zero, List.set_cons_succ]
          refine wpAnyH_done (by kernel_rfl) ?_ _
          clear hS
          obtain ⟨wa, hwa⟩ : ∃ y, w6.alloc (.cells (oc 0 zl).toArray 26) = y := ⟨_, rfl⟩
          obtain ⟨go, hgo⟩ : ∃ y, w6.heap.size = y := ⟨_, rfl⟩
          have hbn : Below w6.heap.size w6 wa := by rw [← hwa]; exact bel1 _ _
          have KO : Hid (Bk wa go 26 (oc 0 zl)) := Lib.hid (by rw [← hwa, ← hgo]; exact Bk.new _ _ _)
          have GB : Hid (w.heap.size ≤ go) := Lib.hid (by rw [← hgo]; exact B.out.size)
          have GN : Hid (u9.ownBlock ≠ some go) := Lib.hid (fun e => by have := (PK.out.own.lt _ e).2; omega)
          have KL := HZL
          have HWA := Lib.hid hwa
          have HGO := Lib.hid hgo
          clear hwa hgo
          have Bq := Lib.hid (B.out.trans (hbn.mono B.out.size))
          have PKq := Lib.hid (PK.out.below hbn)
          clear B PK
          have B := Bq
          have PK := PKq
          clear Bq PKq hbn
          go_upto_region 7 with fail
          rw [HWA.out, HGO.out]
          clear HWA HGO
          obtain ⟨wd3, hwd⟩ : ∃ y, wa.drew = y := ⟨_, rfl⟩
          have hbd : Below wa.heap.size wa wd3 := by rw [← hwd]; exact ⟨rfl, rfl, rfl, Nat.le_refl _, fun _ _ => rfl⟩
          have Bq := Lib.hid (B.out.trans (hbd.mono B.out.size))
          have PKq := Lib.hid (PK.out.below hbd)
          have KOq := Lib.hid (KO.out.below hbd KO.out.lt)
          clear B PK KO
          have B := Bq
          have PK := PKq
          have KO := KOq
          clear Bq PKq KOq hbd
          refine wp_region_held_drew (S := fun W => Below w.heap.size w W) (by kernel_rfl) (by rw [hwd]; exact B.out) (fun hS => ?_)
          rw [hwd] at hS ⊢
          clear hwd
          refine wpAnyH_take (i := 0) (oi := ⟨some 60, _, _, _, _, _⟩) (v := .slice (some ⟨b, off, none⟩) pa ca) rfl (by kernel_rfl) (by kernel_rfl) (by kernel_rfl) (fun _ _ _ h => h) (Or.inl ⟨by rfl, fun w hSw => by (try dsimp only at hSw); go_simp <;> first | omega | (intro hx; exact absurd hx (by omega))⟩) hS ?_
          simp only [Act.put, List.setIfInBounds_toArray, List.set_cons_zero, List.set_cons_succ]
          refine wpAnyH_take (i := 1) (oi := ⟨some 61, _, _, _, _, _⟩) (v := .pointer (some ⟨b, off, none⟩)) rfl (by kernel_rfl) (by kernel_rfl) (by kernel_rfl) (fun _ _ _ h => h) (Or.inl ⟨by rfl, fun w hSw => by (try dsimp only at hSw); go_simp <;> first | omega | (intro hx; exact absurd hx (by omega))⟩) hS ?_
          simp only [Act.put, List.setIfInBounds_toArray, List.set_cons_zero, List.set_cons_succ]
          refine wpAnyH_take (i := 2) (oi := ⟨some 62, _, _, _, _, _⟩) (v := oV n l) rfl (by kernel_rfl) (by kernel_rfl) (by kernel_rfl) (fun _ _ _ h => h) (yieldsIf_load_mid (by rfl) 26 (.tmp 61) rfl (b) (off) rfl (oc n l) _ (fun W h => range_below HX.out HXB.out h) Tryz.underlying26 rfl (by rw [oc_length, hxl]; exact info25)) hS ?_
          simp only [Act.put, List.setIfInBounds_toArray, List.set_cons_zero, List.set_cons_succ]
          refine wpAnyH_take (i := 3) (oi := ⟨some 63, _, _, _, _, _⟩) (v := .slice (some ⟨b, off, none⟩) pa ca) rfl (by kernel_rfl) (by kernel_rfl) (by kernel_rfl) (fun _ _ _ h => h) (Or.inl ⟨by rfl, fun w hSw => by (try dsimp only at hSw); go_simp <;> first | omega | (intro hx; exact absurd hx (by omega))⟩) hS ?_
          simp only [Act.put, List.setIfInBounds_toArray, List.set_cons_zero, List.set_cons_succ]
          refine wpAnyH_take (i := 4) (oi := ⟨some 64, _, _, _, _, _⟩) (v := .slice A1 la (ca - 1)) rfl (by kernel_rfl) (by kernel_rfl) (by kernel_rfl) (fun _ _ _ h => h) (Or.inl ⟨by rfl, fun w hSw => by (try dsimp only at hSw); go_simp <;> first | omega | (intro hx; exact absurd hx (by omega))⟩) hS ?_
          simp only [Act.put, List.setIfInBounds_toArray, List.set_cons_zero, List.set_cons_succ]
          refine wpAnyH_ready (rs := [5]) (by kernel_rfl) (by simp) ?_
          refine AllReadyH.cons (o := _) rfl (fun K hK => ?_) (AllReadyH.nil)
          refine storeO_wp (.tmp 12) (.tmp 62) rfl (n := n) (l := l) rfl rfl KO.out (by rw [oc_length, KL.out]) hxl ?_
          intro W1 V hg hz
          have KOq := Lib.hid V
          have Bq : Hid (Below w.heap.size w W1) := Lib.hid (B.out.grown hg B.out.size (fun k e => by injection e with e; have := GB.out; omega))
          have PKq := Lib.hid (PK.out.grown hg (GN.out))
          have KLq : Hid (l.length = 16) := Lib.hid hxl
          clear V hg hz B KO PK KL
          have B := Bq
          have KO := KOq
          have PK := PKq
          have KL := KLq
          clear Bq KOq PKq KLq
          refine hK.out _ _ (B.out) (fun hS => ?_)
          clear hK K
          (try simp only [Act.put, List.setIfInBounds_toArray, List.set_cons_zero, List.set_cons_succ])
          refine wpAnyH_take (i := 6) (oi := ⟨some 0, _, _, _, _, _⟩) (v := .slice A1 la (ca - 1)) rfl (by kernel_rfl) (by kernel_rfl) (by kernel_rfl) (fun _ _ _ h => h) (Or.inl ⟨by rfl, fun w hSw => by (try dsimp only at hSw); go_simp <;> first | omega | (intro hx; exact absurd hx (by omega))⟩) hS ?_
          simp only [Act.put, List.setIfInBounds_toArray, List.set_cons_zero]
          refine wpAnyH_done (by kernel_rfl) ?_ _
          clear hS
          have HKP := HKEEP.out true false
          cases hkf : kf true false
          · rw [hkf] at HKP
            go_wp2_with fail
            refine (HKP _).mono ?_
            rintro e w7 ⟨rfl, rfl⟩
            have HRES : Hid (K ++ mrg kf q Lx ((m, k) :: Ly) = RES) := Lib.hid (by rw [← HR.out, HM.out]; simp [hkf])
            clear hkf HKP
            go_wp2_with fail
            exact ⟨⟨A1, (some ⟨b2, off2, none⟩), ca - 1, cb, la, pb, Lx, ((m, k) :: Ly), K, q, rfl, rfl, IA1.out, IB.out, PK.out, by omega, HRES.out, by omega, B.out⟩, by simp [lenV]; try omega⟩
          · rw [hkf] at HKP
            go_wp2_with fail
            refine (HKP _).mono ?_
            rintro e w7 ⟨rfl, rfl⟩
            obtain ⟨v', w8, hrun, hpo, hbl⟩ := PK.out.push (by omega) (HXO.out : OkO n l)
            have HRUN := Lib.hid hrun
            have HPO := Lib.hid hpo
            have HBL := Lib.hid (B.out.trans (hbl.mono (Nat.le_refl _)))
            have HRES : Hid ((K ++ [(n, l)]) ++ mrg kf q Lx ((m, k) :: Ly) = RES) := Lib.hid (by rw [← HR.out, HM.out]; simp [hkf])
            clear hkf HKP hrun hpo hbl
            go_wp2_with (first | (refine wpList_load25 rfl (.tmp 12) rfl rfl KO.out KL.out ?_) | (refine wpList_buildO rfl 76 rfl rfl KL.out ?_) | (at_builtin; refine wpList_appO (o := ⟨some 78, _, _, _, _, _⟩) rfl _ _ _ _ rfl _ _ rfl rfl HRUN.out ?_))
            exact ⟨⟨A1, (some ⟨b2, off2, none⟩), ca - 1, cb, la, pb, Lx, ((m, k) :: Ly), K ++ [(n, l)], q, rfl, rfl, IA1.out, IB.out, HPO.out, by rw [List.length_append, List.length_singleton]; omega, HRES.out, by omega, HBL.out⟩, by simp [lenV]; try omega⟩
        · have HM : Hid (mrg kf (q + 1) ((n, l) :: Lx) ((m, k) :: Ly) = (if kf true true then [(m, k)] else []) ++ mrg kf q Lx Ly) := Lib.hid (by rw [HM0, if_neg (by omega), if_pos hx])
          have hx1 : decide (x ≤ 0) = true := decide_eq_true (by omega)
          have hx2 : decide (0 ≤ x) = true := decide_eq_true (by omega)
          clear HM0 hx
          go_upto_region 3 with fail
          obtain ⟨wd, hwd⟩ : ∃ y, wr.drew = y := ⟨_, rfl⟩
          have hbd : Below wr.heap.size wr wd := by rw [← hwd]; exact ⟨rfl, rfl, rfl, Nat.le_refl _, fun _ _ => rfl⟩
          have Bq := Lib.hid (B.out.trans (hbd.mono B.out.size))
          have PKq := Lib.hid (PK.out.below hbd)
          clear B PK
          have B := Bq
          have PK := PKq
          clear Bq PKq hbd
          refine wp_region_held_drew (S := fun W => Below w.heap.size w W) (by kernel_rfl) (by rw [hwd]; exact B.out) (fun hS => ?_)
          rw [hwd] at hS ⊢
          clear hwd
          refine wpAnyH_take (i := 0) (oi := ⟨some 21, _, _, _, _, _⟩) (v := .slice (some ⟨b2, off2, none⟩) pb cb) rfl (by kernel_rfl) (by kernel_rfl) (by kernel_rfl) (fun _ _ _ h => h) (Or.inl ⟨by rfl, fun w hSw => by (try dsimp only at hSw); go_simp <;> first | omega | (intro hx; exact absurd hx (by omega))⟩) hS ?_
          simp only [Act.put, List.setIfInBounds_toArray, List.set_cons_zero, List.set_cons_succ]
          refine wpAnyH_take (i := 1) (oi := ⟨some 22, _, _, _, _, _⟩) (v := .int .i64 (pb : Int)) rfl (by kernel_rfl) (by kernel_rfl) (by kernel_rfl) (fun _ _ _ h => h) (Or.inl ⟨by rfl, fun w hSw => by (try dsimp only at hSw); go_simp <;> first | omega | (intro hx; exact absurd hx (by omega))⟩) hS ?_
          simp only [Act.put, List.setIfInBounds_toArray, List.set_cons_zero, List.set_cons_succ]
          refine wpAnyH_take (i := 2) (oi := ⟨some 23, _, _, _, _, _⟩) (v := .bool false) rfl (by kernel_rfl) (by kernel_rfl) (by kernel_rfl) (fun _ _ _ h => h) (Or.inl ⟨by rfl, fun w hSw => by (try dsimp only at hSw); go_simp <;> first | omega | (intro hx; exact absurd hx (by omega))⟩) hS ?_
          simp only [Act.put, List.setIfInBounds_toArray, List.set_cons_zero, List.set_cons_succ]
          refine wpAnyH_take (i := 3) (oi := ⟨some 24, _, _, _, _, _⟩) (v := .bool false) rfl (by kernel_rfl) (by kernel_rfl) (by kernel_rfl) (fun _ _ _ h => h) (Or.inl ⟨by rfl, fun w hSw => by (try dsimp only at hSw); go_simp <;> first | omega | (intro hx; exact absurd hx (by omega))⟩) hS ?_
          simp only [Act.put, List.setIfInBounds_toArray, List.set_cons_zero, List.set_cons_succ]
          refine wpAnyH_take (i := 4) (oi := ⟨some 25, _, _, _, _, _⟩) (v := .slice (some ⟨b, off, none⟩) pa ca) rfl (by kernel_rfl) (by kernel_rfl) (by kernel_rfl) (fun _ _ _ h => h) (Or.inl ⟨by rfl, fun w hSw => by (try dsimp only at hSw); go_simp <;> first | omega | (intro hx; exact absurd hx (by omega))⟩) hS ?_
          simp only [Act.put, List.setIfInBounds_toArray, List.set_cons_zero, List.set_cons_succ]
          refine wpAnyH_take (i := 5) (oi := ⟨some 26, _, _, _, _, _⟩) (v := .int .i64 (pa : Int)) rfl (by kernel_rfl) (by kernel_rfl) (by kernel_rfl) (fun _ _ _ h => h) (Or.inl ⟨by rfl, fun w hSw => by (try dsimp only at hSw); go_simp <;> first | omega | (intro hx; exact absurd hx (by omega))⟩) hS ?_
          simp only [Act.put, List.setIfInBounds_toArray, List.set_cons_zero, List.set_cons_succ]
          refine wpAnyH_take (i := 6) (oi := ⟨some 27, _, _, _, _, _⟩) (v := .bool true) rfl (by kernel_rfl) (by kernel_rfl) (by kernel_rfl) (fun _ _ _ h => h) (Or.inl ⟨by rfl, fun w hSw => by (try dsimp only at hSw); go_simp <;> first | omega | (intro hx; exact absurd hx (by omega))⟩) hS ?_
          simp only [Act.put, List.setIfInBounds_toArray, List.set_cons_zero, List.set_cons_succ]
          refine wpAnyH_take (i := 7) (oi := ⟨some 28, _, _, _, _, _⟩) (v := .bool true) rfl (by kernel_rfl) (by kernel_rfl) (by kernel_rfl) (fun _ _ _ h => h) (Or.inl ⟨by rfl, fun w hSw => by (try dsimp only at hSw); go_simp <;> first | omega | (intro hx; exact absurd hx (by omega))⟩) hS ?_
          simp only [Act.put, List.setIfInBounds_toArray, List.set_cons_zero, List.set_cons_succ]
          refine wpAnyH_take (i := 8) (oi := ⟨some 29, _, _, _, _, _⟩) (v := .func (.func 39) #[] #[]) rfl (by kernel_rfl) (by kernel_rfl) (by kernel_rfl) (fun _ _ _ h => h) (Or.inl ⟨by rfl, fun w hSw => by (try dsimp only at hSw); go_simp <;> first | omega | (intro hx; exact absurd hx (by omega))⟩) hS ?_
          simp only [Act.put, List.setIfInBounds_toArray, List.set_cons_zero, List.set_cons_succ]
          refine wpAnyH_take (i := 9) (oi := ⟨some 30, _, _, _, _, _⟩) (v := .slice (some ⟨b, off, none⟩) pa ca) rfl (by kernel_rfl) (by kernel_rfl) (by kernel_rfl) (fun _ _ _ h => h) (Or.inl ⟨by rfl, fun w hSw => by (try dsimp only at hSw); go_simp <;> first | omega | (intro hx; exact absurd hx (by omega))⟩) hS ?_
          simp only [Act.put, List.setIfInBounds_toArray, List.set_cons_zero, List.set_cons_succ]
          refine wpAnyH_take (i := 10) (oi := ⟨some 31, _, _, _, _, _⟩) (v := .pointer (some ⟨b, off, none⟩)) rfl (by kernel_rfl) (by kernel_rfl) (by kernel_rfl) (fun _ _ _ h => h) (Or.inl ⟨by rfl, fun w hSw => by (try dsimp only at hSw); go_simp <;> first | omega | (intro hx; exact absurd hx (by omega))⟩) hS ?_
          simp only [Act.put, List.setIfInBounds_toArray, List.set_cons_zero, List.set_cons_succ]
          refine wpAnyH_take (i := 11) (oi := ⟨some 32, _, _, _, _, _⟩) (v := oV n l) rfl (by kernel_rfl) (by kernel_rfl) (by kernel_rfl) (fun _ _ _ h => h) (yieldsIf_load_mid (by rfl) 26 (.tmp 31) rfl (b) (off) rfl (oc n l) _ (fun W h => range_below HX.out HXB.out h) Tryz.underlying26 rfl (by rw [oc_length, hxl]; exact info25)) hS ?_
          simp only [Act.put, List.setIfInBounds_toArray, List.set_cons_zero, List.set_cons_succ]
          refine wpAnyH_take (i := 12) (oi := ⟨some 33, _, _, _, _, _⟩) (v := .slice (some ⟨b2, off2, none⟩) pb cb) rfl (by kernel_rfl) (by kernel_rfl) (by kernel_rfl) (fun _ _ _ h => h) (Or.inl ⟨by rfl, fun w hSw => by (try dsimp only at hSw); go_simp <;> first | omega | (intro hx; exact absurd hx (by omega))⟩) hS ?_
          simp only [Act.put, List.setIfInBounds_toArray, List.set_cons_zero, List.set_cons_succ]
          refine wpAnyH_take (i := 13) (oi := ⟨some 34, _, _, _, _, _⟩) (v := .pointer (some ⟨b2, off2, none⟩)) rfl (by kernel_rfl) (by kernel_rfl) (by kernel_rfl) (fun _ _ _ h => h) (Or.inl ⟨by rfl, fun w hSw => by (try dsimp only at hSw); go_simp <;> first | omega | (intro hx; exact absurd hx (by omega))⟩) hS ?_
          simp only [Act.put, List.setIfInBounds_toArray, List.set_cons_zero, List.set_cons_succ]
          refine wpAnyH_take (i := 14) (oi := ⟨some 35, _, _, _, _, _⟩) (v := oV m k) rfl (by kernel_rfl) (by kernel_rfl) (by kernel_rfl) (fun _ _ _ h => h) (yieldsIf_load_mid (by rfl) 26 (.tmp 34) rfl (b2) (off2) rfl (oc m k) _ (fun W h => range_below HY.out HYB.out h) Tryz.underlying26 rfl (by rw [oc_length, hyl]; exact info25)) hS ?_
          simp only [Act.put, List.setIfInBounds_toArray, List.set_cons_zero, List.set_cons_succ]
          refine wpAnyH_ready (rs := [15]) (by kernel_rfl) (by simp) ?_
          refine AllReadyH.cons (o := _) rfl (fun K hK => ?_) (AllReadyH.nil)
          go_simp
          refine (HCM.out _).mono ?_
          rintro r w5 ⟨rfl, hb⟩
          have Bq := Lib.hid (B.out.trans (hb.mono B.out.size))
          have PKq := Lib.hid (PK.out.below hb)
          clear B PK
          have B := Bq
          have PK := PKq
          clear Bq PKq hb
          refine hK.out _ _ (B.out) (fun hS => ?_)
          clear hK K
          (try simp only [Act.put, List.setIfInBounds_toArray, List.set_cons_zero, List.set_cons_succ])
          refine wpAnyH_take (i := 16) (oi := ⟨some 37, _, _, _, _, _⟩) (v := .bool true) rfl (by kernel_rfl) (by kernel_rfl) (by kernel_rfl) (fun _ _ _ h => h) (Or.inl ⟨by rfl, fun w hSw => by (try dsimp only at hSw); go_simp <;> first | omega | (intro hx; exact absurd hx (by omega))⟩) hS ?_
          simp only [Act.put, List.setIfInBounds_toArray, List.set_cons_zero, List.set_cons_succ]
          refine wpAnyH_take (i := 17) (oi := ⟨some 38, _, _, _, _, _⟩) (v := .bool true) rfl (by kernel_rfl) (by kernel_rfl) (by kernel_rfl) (fun _ _ _ h => h) (Or.inl ⟨by rfl, fun w hSw => by (try dsimp only at hSw); go_simp <;> first | omega | (intro hx; exact absurd hx (by omega))⟩) hS ?_
          simp only [Act.put, List.setIfInBounds_toArray, List.set_cons_zero, List.set_cons_succ]
          refine wpAnyH_take (i := 18) (oi := ⟨some 39, _, _, _, _, _⟩) (v := .bool true) rfl (by kernel_rfl) (by kernel_rfl) (by kernel_rfl) (fun _ _ _ h => h) (Or.inl ⟨by rfl, fun w hSw => by (try dsimp only at hSw); go_simp <;> first | omega | (intro hx; exact absurd hx (by omega))⟩) hS ?_
          simp only [Act.put, List.setIfInBounds_toArray, List.set_cons_zero, List.set_cons_succ]
          refine wpAnyH_take (i := 19) (oi := ⟨some 10, _, _, _, _, _⟩) (v := .bool true) rfl (by kernel_rfl) (by kernel_rfl) (by kernel_rfl) (fun _ _ _ h => h) (Or.inl ⟨by rfl, fun w hSw => by (try dsimp only at hSw); go_simp <;> first | omega | (intro hx; exact absurd hx (by omega))⟩) hS ?_
          simp only [Act.put, List.setIfInBounds_toArray, List.set_cons_zero, List.set_cons_succ]
          refine wpAnyH_done (by kernel_rfl) ?_ _
          clear hS
          go_upto_region 4 with fail
          obtain ⟨wd2, hwd⟩ : ∃ y, w5.drew = y := ⟨_, rfl⟩
          have hbd : Below w5.heap.size w5 wd2 := by rw [← hwd]; exact ⟨rfl, rfl, rfl, Nat.le_refl _, fun _ _ => rfl⟩
          have Bq := Lib.hid (B.out.trans (hbd.mono B.out.size))
          have PKq := Lib.hid (PK.out.below hbd)
          clear B PK
          have B := Bq
          have PK := PKq
          clear Bq PKq hbd
          refine wp_region_held_drew (S := fun W => Below w.heap.size w W) (by kernel_rfl) (by rw [hwd]; exact B.out) (fun hS => ?_)
          rw [hwd] at hS ⊢
          clear hwd
          refine wpAnyH_take (i := 0) (oi := ⟨some 40, _, _, _, _, _⟩) (v := .slice (some ⟨b, off, none⟩) pa ca) rfl (by kernel_rfl) (by kernel_rfl) (by kernel_rfl) (fun _ _ _ h => h) (Or.inl ⟨by rfl, fun w hSw => by (try dsimp only at hSw); go_simp <;> first | omega | (intro hx; exact absurd hx (by omega))⟩) hS ?_
          simp only [Act.put, List.setIfInBounds_toArray, List.set_cons_zero, List.set_cons_succ]
          refine wpAnyH_take (i := 1) (oi := ⟨some 41, _, _, _, _, _⟩) (v := .int .i64 (pa : Int)) rfl (by kernel_rfl) (by kernel_rfl) (by kernel_rfl) (fun _ _ _ h => h) (Or.inl ⟨by rfl, fun w hSw => by (try dsimp only at hSw); go_simp <;> first | omega | (intro hx; exact absurd hx (by omega))⟩) hS ?_
          simp only [Act.put, List.setIfInBounds_toArray, List.set_cons_zero, List.set_cons_succ]
          refine wpAnyH_take (i := 2) (oi := ⟨some 42, _, _, _, _, _⟩) (v := .bool false) rfl (by kernel_rfl) (by kernel_rfl) (by kernel_rfl) (fun _ _ _ h => h) (Or.inl ⟨by rfl, fun w hSw => by (try dsimp only at hSw); go_simp <;> first | omega | (intro hx; exact absurd hx (by omega))⟩) hS ?_
          simp only [Act.put, List.setIfInBounds_toArray, List.set_cons_zero, List.set_cons_succ]
          refine wpAnyH_take (i := 3) (oi := ⟨some 43, _, _, _, _, _⟩) (v := .bool false) rfl (by kernel_rfl) (by kernel_rfl) (by kernel_rfl) (fun _ _ _ h => h) (Or.inl ⟨by rfl, fun w hSw => by (try dsimp only at hSw); go_simp <;> first | omega | (intro hx; exact absurd hx (by omega))⟩) hS ?_
          simp only [Act.put, List.setIfInBounds_toArray, List.set_cons_zero, List.set_cons_succ]
          refine wpAnyH_take (i := 4) (oi := ⟨some 44, _, _, _, _, _⟩) (v := .slice (some ⟨b2, off2, none⟩) pb cb) rfl (by kernel_rfl) (by kernel_rfl) (by kernel_rfl) (fun _ _ _ h => h) (Or.inl ⟨by rfl, fun w hSw => by (try dsimp only at hSw); go_simp <;> first | omega | (intro hx; exact absurd hx (by omega))⟩) hS ?_
          simp only [Act.put, List.setIfInBounds_toArray, List.set_cons_zero, List.set_cons_succ]
          refine wpAnyH_take (i := 5) (oi := ⟨some 45, _, _, _, _, _⟩) (v := .int .i64 (pb : Int)) rfl (by kernel_rfl) (by kernel_rfl) (by kernel_rfl) (fun _ _ _ h => h) (Or.inl ⟨by rfl, fun w hSw => by (try dsimp only at hSw); go_simp <;> first | omega | (intro hx; exact absurd hx (by omega))⟩) hS ?_
          simp only [Act.put, List.setIfInBounds_toArray, List.set_cons_zero, List.set_cons_succ]
          refine wpAnyH_take (i := 6) (oi := ⟨some 46, _, _, _, _, _⟩) (v := .bool true) rfl (by kernel_rfl) (by kernel_rfl) (by kernel_rfl) (fun _ _ _ h => h) (Or.inl ⟨by rfl, fun w hSw => by (try dsimp only at hSw); go_simp <;> first | omega | (intro hx; exact absurd hx (by omega))⟩) hS ?_
          simp only [Act.put, List.setIfInBounds_toArray, List.set_cons_zero, List.set_cons_succ]
          refine wpAnyH_take (i := 7) (oi := ⟨some 47, _, _, _, _, _⟩) (v := .bool true) rfl (by kernel_rfl) (by kernel_rfl) (by kernel_rfl) (fun _ _ _ h => h) (Or.inl ⟨by rfl, fun w hSw => by (try dsimp only at hSw); go_simp <;> first | omega | (intro hx; exact absurd hx (by omega))⟩) hS ?_
          simp only [Act.put, List.setIfInBounds_toArray, List.set_cons_zero, List.set_cons_succ]
          refine wpAnyH_take (i := 8) (oi := ⟨some 48, _, _, _, _, _⟩) (v := .func (.func 39) #[] #[]) rfl (by kernel_rfl) (by kernel_rfl) (by kernel_rfl) (fun _ _ _ h => h) (Or.inl ⟨by rfl, fun w hSw => by (try dsimp only at hSw); go_simp <;> first | omega | (intro hx; exact absurd hx (by omega))⟩) hS ?_
          simp only [Act.put, List.setIfInBounds_toArray, List.set_cons_zero, List.set_cons_succ]
          refine wpAnyH_take (i := 9) (oi := ⟨some 49, _, _, _, _, _⟩) (v := .slice (some ⟨b, off, none⟩) pa ca) rfl (by kernel_rfl) (by kernel_rfl) (by kernel_rfl) (fun _ _ _ h => h) (Or.inl ⟨by rfl, fun w hSw => by (try dsimp only at hSw); go_simp <;> first | omega | (intro hx; exact absurd hx (by omega))⟩) hS ?_
          simp only [Act.put, List.setIfInBounds_toArray, List.set_cons_zero, List.set_cons_succ]
          refine wpAnyH_take (i := 10) (oi := ⟨some 50, _, _, _, _, _⟩) (v := .pointer (some ⟨b, off, none⟩)) rfl (by kernel_rfl) (by kernel_rfl) (by kernel_rfl) (fun _ _ _ h => h) (Or.inl ⟨by rfl, fun w hSw => by (try dsimp only at hSw); go_simp <;> first | omega | (intro hx; exact absurd hx (by omega))⟩) hS ?_
          simp only [Act.put, List.setIfInBounds_toArray, List.set_cons_zero, List.set_cons_succ]
          refine wpAnyH_take (i := 11) (oi := ⟨some 51, _, _, _, _, _⟩) (v := oV n l) rfl (by kernel_rfl) (by kernel_rfl) (by kernel_rfl) (fun _ _ _ h => h) (yieldsIf_load_mid (by rfl) 26 (.tmp 50) rfl (b) (off) rfl (oc n l) _ (fun W h => range_below HX.out HXB.out h) Tryz.underlying26 rfl (by rw [oc_length, hxl]; exact info25)) hS ?_
          simp only [Act.put, List.setIfInBounds_toArray, List.set_cons_zero, List.set_cons_succ]
          refine wpAnyH_take (i := 12) (oi := ⟨some 52, _, _, _, _, _⟩) (v := .slice (some ⟨b2, off2, none⟩) pb cb) rfl (by kernel_rfl) (by kernel_rfl) (by kernel_rfl) (fun _ _ _ h => h) (Or.inl ⟨by rfl, fun w hSw => by (try dsimp only at hSw); go_simp <;> first | omega | (intro hx; exact absurd hx (by omega))⟩) hS ?_
          simp only [Act.put, List.setIfInBounds_toArray, List.set_cons_zero, List.set_cons_succ]
          refine wpAnyH_take (i := 13) (oi := ⟨some 53, _, _, _, _, _⟩) (v := .pointer (some ⟨b2, off2, none⟩)) rfl (by kernel_rfl) (by kernel_rfl) (by kernel_rfl) (fun _ _ _ h => h) (Or.inl ⟨by rfl, fun w hSw => by (try dsimp only at hSw); go_simp <;> first | omega | (intro hx; exact absurd hx (by omega))⟩) hS ?_
          simp only [Act.put, List.setIfInBounds_toArray, List.set_cons_zero, List.set_cons_succ]
          refine wpAnyH_take (i := 14) (oi := ⟨some 54, _, _, _, _, _⟩) (v := oV m k) rfl (by kernel_rfl) (by kernel_rfl) (by kernel_rfl) (fun _ _ _ h => h) (yieldsIf_load_mid (by rfl) 26 (.tmp 53) rfl (b2) (off2) rfl (oc m k) _ (fun W h => range_below HY.out HYB.out h) Tryz.underlying26 rfl (by rw [oc_length, hyl]; exact info25)) hS ?_
          simp only [Act.put, List.setIfInBounds_toArray, List.set_cons_zero, List.set_cons_succ]
          refine wpAnyH_ready (rs := [15]) (by kernel_rfl) (by simp) ?_
          refine AllReadyH.cons (o := _) rfl (fun K hK => ?_) (AllReadyH.nil)
          go_simp
          refine (HCM.out _).mono ?_
          rintro r w6 ⟨rfl, hb⟩
          have Bq := Lib.hid (B.out.trans (hb.mono B.out.size))
          have PKq := Lib.hid (PK.out.below hb)
          clear B PK
          have B := Bq
          have PK := PKq
          clear Bq PKq hb
          refine hK.out _ _ (B.out) (fun hS => ?_)
          clear hK K
          (try simp only [Act.put, List.setIfInBounds_toArray, List.set_cons_zero, List.set_cons_succ])
          refine wpAnyH_take (i := 16) (oi := ⟨some 56, _, _, _, _, _⟩) (v := .bool true) rfl (by kernel_rfl) (by kernel_rfl) (by kernel_rfl) (fun _ _ _ h => h) (Or.inl ⟨by rfl, fun w hSw => by (try dsimp only at hSw); go_simp <;> first | omega | (intro hx; exact absurd hx (by omega))⟩) hS ?_
          simp only [Act.put, List.setIfInBounds_toArray, List.set_cons_zero, List.set_cons_succ]
          refine wpAnyH_take (i := 17) (oi := ⟨some 57, _, _, _, _, _⟩) (v := .bool true) rfl (by kernel_rfl) (by kernel_rfl) (by kernel_rfl) (fun _ _ _ h => h) (Or.inl ⟨by rfl, fun w hSw => by (try dsimp only at hSw); go_simp <;> first | omega | (intro hx; exact absurd hx (by omega))⟩) hS ?_
          simp only [Act.put, List.setIfInBounds_toArray, List.set_cons_zero, List.set_cons_succ]
          refine wpAnyH_take (i := 18) (oi := ⟨some 58, _, _, _, _, _⟩) (v := .bool true) rfl (by kernel_rfl) (by kernel_rfl) (by kernel_rfl) (fun _ _ _ h => h) (Or.inl ⟨by rfl, fun w hSw => by (try dsimp only at hSw); go_simp <;> first | omega | (intro hx; exact absurd hx (by omega))⟩) hS ?_
          simp only [Act.put, List.setIfInBounds_toArray, List.set_cons_zero, List.set_cons_succ]
          refine wpAnyH_take (i := 19) (oi := ⟨some 11, _, _, _, _, _⟩) (v := .bool true) rfl (by kernel_rfl) (by kernel_rfl) (by kernel_rfl) (fun _ _ _ h => h) (Or.inl ⟨by rfl, fun w hSw => by (try dsimp only at hSw); go_simp <;> first | omega | (intro hx; exact absurd hx (by omega))⟩) hS ?_
          simp only [Act.put, List.setIfInBounds_toArray, List.set_cons_zero, List.set_cons_succ]
          refine wpAnyH_done (by kernel_rfl) ?_ _
          clear hS
          obtain ⟨wa, hwa⟩ : ∃ y, w6.alloc (.cells (oc 0 zl).toArray 26) = y := ⟨_, rfl⟩
          obtain ⟨go, hgo⟩ : ∃ y, w6.heap.size = y := ⟨_, rfl⟩
          have hbn : Below w6.heap.size w6 wa := by rw [← hwa]; exact bel1 _ _
          have KO : Hid (Bk wa go 26 (oc 0 zl)) := Lib.hid (by rw [← hwa, ← hgo]; exact Bk.new _ _ _)
          have GB : Hid (w.heap.size ≤ go) := Lib.hid (by rw [← hgo]; exact B.out.size)
          have GN : Hid (u9.ownBlock ≠ some go) := Lib.hid (fun e => by have := (PK.out.own.lt _ e).2; omega)
          have KL := HZL
          have HWA := Lib.hid hwa
          have HGO := Lib.hid hgo
          clear hwa hgo
          have Bq := Lib.hid (B.out.trans (hbn.mono B.out.size))
          have PKq := Lib.hid (PK.out.below hbn)
          clear B PK
          have B := Bq
          have PK := PKq
          clear Bq PKq hbn
          go_upto_region 7 with fail
          rw [HWA.out, HGO.out]
          clear HWA HGO
          obtain ⟨wd3, hwd⟩ : ∃ y, wa.drew = y := ⟨_, rfl⟩
          have hbd : Below wa.heap.size wa wd3 := by rw [← hwd]; exact ⟨rfl, rfl, rfl, Nat.le_refl _, fun _ _ => rfl⟩
          have Bq := Lib.hid (B.out.trans (hbd.mono B.out.size))
          have PKq := Lib.hid (PK.out.below hbd)
          have KOq := Lib.hid (KO.out.below hbd KO.out.lt)
          clear B PK KO
          have B := Bq
          have PK := PKq
          have KO := KOq
          clear Bq PKq KOq hbd
          refine wp_region_held_drew (S := fun W => Below w.heap.size w W) (by kernel_rfl) (by rw [hwd]; exact B.out) (fun hS => ?_)
          rw [hwd] at hS ⊢
          clear hwd
          refine wpAnyH_take (i := 0) (oi := ⟨some 60, _, _, _, _, _⟩) (v := .slice (some ⟨b, off, none⟩) pa ca) rfl (by kernel_rfl) (by kernel_rfl) (by kernel_rfl) (fun _ _ _ h => h) (Or.inl ⟨by rfl, fun w hSw => by (try dsimp only at hSw); go_simp <;> first | omega | (intro hx; exact absurd hx (by omega))⟩) hS ?_
          simp only [Act.put, List.setIfInBounds_toArray, List.set_cons_zero, List.set_cons_succ]
          refine wpAnyH_take (i := 1) (oi := ⟨some 61, _, _, _, _, _⟩) (v := .pointer (some ⟨b, off, none⟩)) rfl (by kernel_rfl) (by kernel_rfl) (by kernel_rfl) (fun _ _ _ h => h) (Or.inl ⟨by rfl, fun w hSw => by (try dsimp only at hSw); go_simp <;> first | omega | (intro hx; exact absurd hx (by omega))⟩) hS ?_
          simp only [Act.put, List.setIfInBounds_toArray, List.set_cons_zero, List.set_cons_succ]
          refine wpAnyH_take (i := 2) (oi := ⟨some 62, _, _, _, _, _⟩) (v := oV n l) rfl (by kernel_rfl) (by kernel_rfl) (by kernel_rfl) (fun _ _ _ h => h) (yieldsIf_load_mid (by rfl) 26 (.tmp 61) rfl (b) (off) rfl (oc n l) _ (fun W h => range_below HX.out HXB.out h) Tryz.underlying26 rfl (by rw [oc_length, hxl]; exact info25)) hS ?_
          simp only [Act.put, List.setIfInBounds_toArray, List.set_cons_zero, List.set_cons_succ]
          refine wpAnyH_take (i := 3) (oi := ⟨some 63, _, _, _, _, _⟩) (v := .slice (some ⟨b, off, none⟩) pa ca) rfl (by kernel_rfl) (by kernel_rfl) (by kernel_rfl) (fun _ _ _ h => h) (Or.inl ⟨by rfl, fun w hSw => by (try dsimp only at hSw); go_simp <;> first | omega | (intro hx; exact absurd hx (by omega))⟩) hS ?_
          simp only [Act.put, List.setIfInBounds_toArray, List.set_cons_zero, List.set_cons_succ]
          refine wpAnyH_take (i := 4) (oi := ⟨some 64, _, _, _, _, _⟩) (v := .slice A1 la (ca - 1)) rfl (by kernel_rfl) (by kernel_rfl) (by kernel_rfl) (fun _ _ _ h => h) (Or.inl ⟨by rfl, fun w hSw => by (try dsimp only at hSw); go_simp <;> first | omega | (intro hx; exact absurd hx (by omega))⟩) hS ?_
          simp only [Act.put, List.setIfInBounds_toArray, List.set_cons_zero, List.set_cons_succ]
          refine wpAnyH_ready (rs := [5]) (by kernel_rfl) (by simp) ?_
          refine AllReadyH.cons (o := _) rfl (fun K hK => ?_) (AllReadyH.nil)
          refine storeO_wp (.tmp 12) (.tmp 62) rfl (n := n) (l := l) rfl rfl KO.out (by rw [oc_length, KL.out]) hxl ?_
          intro W1 V hg hz
          have KOq := Lib.hid V
          have Bq : Hid (Below w.heap.size w W1) := Lib.hid (B.out.grown hg B.out.size (fun k e => by injection e with e; have := GB.out; omega))
          have PKq := Lib.hid (PK.out.grown hg (GN.out))
          have KLq : Hid (l.length = 16) := Lib.hid hxl
          clear V hg hz B KO PK KL
          have B := Bq
          have KO := KOq
          have PK := PKq
          have KL := KLq
          clear Bq KOq PKq KLq
          refine hK.out _ _ (B.out) (fun hS => ?_)
          clear hK K
          (try simp only [Act.put, List.setIfInBounds_toArray, List.set_cons_zero, List.set_cons_succ])
          refine wpAnyH_take (i := 6) (oi := ⟨some 0, _, _, _, _, _⟩) (v := .slice A1 la (ca - 1)) rfl (by kernel_rfl) (by kernel_rfl) (by kernel_rfl) (fun _ _ _ h => h) (Or.inl ⟨by rfl, fun w hSw => by (try dsimp only at hSw); go_simp <;> first | omega | (intro hx; exact absurd hx (by omega))⟩) hS ?_
          simp only [Act.put, List.setIfInBounds_toArray, List.set_cons_zero]
          refine wpAnyH_done (by kernel_rfl) ?_ _
          clear hS
          go_upto_region 9 with fail
          obtain ⟨wd4, hwd⟩ : ∃ y, W1.drew = y := ⟨_, rfl⟩
          have hbd : Below W1.heap.size W1 wd4 := by rw [← hwd]; exact ⟨rfl, rfl, rfl, Nat.le_refl _, fun _ _ => rfl⟩
          have Bq := Lib.hid (B.out.trans (hbd.mono B.out.size))
          have PKq := Lib.hid (PK.out.below hbd)
          have KOq := Lib.hid (KO.out.below hbd KO.out.lt)
          clear B PK KO
          have B := Bq
          have PK := PKq
          have KO := KOq
          clear Bq PKq KOq hbd
          refine wp_region_held_drew (S := fun W => Below w.heap.size w W) (by kernel_rfl) (by rw [hwd]; exact B.out) (fun hS => ?_)
          rw [hwd] at hS ⊢
          clear hwd
          refine wpAnyH_take (i := 0) (oi := ⟨some 66, _, _, _, _, _⟩) (v := .slice (some ⟨b2, off2, none⟩) pb cb) rfl (by kernel_rfl) (by kernel_rfl) (by kernel_rfl) (fun _ _ _ h => h) (Or.inl ⟨by rfl, fun w hSw => by (try dsimp only at hSw); go_simp <;> first | omega | (intro hx; exact absurd hx (by omega))⟩) hS ?_
          simp only [Act.put, List.setIfInBounds_toArray, List.set_cons_zero, List.set_cons_succ]
          refine wpAnyH_take (i := 1) (oi := ⟨some 67, _, _, _, _, _⟩) (v := .pointer (some ⟨b2, off2, none⟩)) rfl (by kernel_rfl) (by kernel_rfl) (by kernel_rfl) (fun _ _ _ h => h) (Or.inl ⟨by rfl, fun w hSw => by (try dsimp only at hSw); go_simp <;> first | omega | (intro hx; exact absurd hx (by omega))⟩) hS ?_
          simp only [Act.put, List.setIfInBounds_toArray, List.set_cons_zero, List.set_cons_succ]
          refine wpAnyH_take (i := 2) (oi := ⟨some 68, _, _, _, _, _⟩) (v := oV m k) rfl (by kernel_rfl) (by kernel_rfl) (by kernel_rfl) (fun _ _ _ h => h) (yieldsIf_load_mid (by rfl) 26 (.tmp 67) rfl (b2) (off2) rfl (oc m k) _ (fun W h => range_below HY.out HYB.out h) Tryz.underlying26 rfl (by rw [oc_length, hyl]; exact info25)) hS ?_
          simp only [Act.put, List.setIfInBounds_toArray, List.set_cons_zero, List.set_cons_succ]
          refine wpAnyH_take (i := 3) (oi := ⟨some 69, _, _, _, _, _⟩) (v := .slice (some ⟨b2, off2, none⟩) pb cb) rfl (by kernel_rfl) (by kernel_rfl) (by kernel_rfl) (fun _ _ _ h => h) (Or.inl ⟨by rfl, fun w hSw => by (try dsimp only at hSw); go_simp <;> first | omega | (intro hx; exact absurd hx (by omega))⟩) hS ?_
          simp only [Act.put, List.setIfInBounds_toArray, List.set_cons_zero, List.set_cons_succ]
          refine wpAnyH_take (i := 4) (oi := ⟨some 70, _, _, _, _, _⟩) (v := .slice B1 lb (cb - 1)) rfl (by kernel_rfl) (by kernel_rfl) (by kernel_rfl) (fun _ _ _ h => h) (Or.inl ⟨by rfl, fun w hSw => by (try dsimp only at hSw); go_simp <;> first | omega | (intro hx; exact absurd hx (by omega))⟩) hS ?_
          simp only [Act.put, List.setIfInBounds_toArray, List.set_cons_zero, List.set_cons_succ]
          refine wpAnyH_ready (rs := [5]) (by kernel_rfl) (by simp) ?_
          refine AllReadyH.cons (o := _) rfl (fun K hK => ?_) (AllReadyH.nil)
          refine storeO_wp (.tmp 12) (.tmp 68) rfl (n := m) (l := k) rfl rfl KO.out (by rw [oc_length, KL.out]) hyl ?_
          intro W2 V hg hz
          have KOq := Lib.hid V
          have Bq : Hid (Below w.heap.size w W2) := Lib.hid (B.out.grown hg B.out.size (fun k e => by injection e with e; have := GB.out; omega))
          have PKq := Lib.hid (PK.out.grown hg (GN.out))
          have KLq : Hid (k.length = 16) := Lib.hid hyl
          clear V hg hz B KO PK KL
          have B := Bq
          have KO := KOq
          have PK := PKq
          have KL := KLq
          clear Bq KOq PKq KLq
          refine hK.out _ _ (B.out) (fun hS => ?_)
          clear hK K
          (try simp only [Act.put, List.setIfInBounds_toArray, List.set_cons_zero, List.set_cons_succ])
          refine wpAnyH_take (i := 6) (oi := ⟨some 1, _, _, _, _, _⟩) (v := .slice B1 lb (cb - 1)) rfl (by kernel_rfl) (by kernel_rfl) (by kernel_rfl) (fun _ _ _ h => h) (Or.inl ⟨by rfl, fun w hSw => by (try dsimp only at hSw); go_simp <;> first | omega | (intro hx; exact absurd hx (by omega))⟩) hS ?_
          simp only [Act.put, List.setIfInBounds_toArray, List.set_cons_zero, List.set_cons_succ]
          refine wpAnyH_done (by kernel_rfl) ?_ _
          clear hS
          have HKP := HKEEP.out true true
          cases hkf : kf true true
          · rw [hkf] at HKP
            go_wp2_with fail
            refine (HKP _).mono ?_
            rintro e w7 ⟨rfl, rfl⟩
            have HRES : Hid (K ++ mrg kf q Lx Ly = RES) := Lib.hid (by rw [← HR.out, HM.out]; simp [hkf])
            clear hkf HKP
            go_wp2_with fail
            exact ⟨⟨A1, B1, ca - 1, cb - 1, la, lb, Lx, Ly, K, q, rfl, rfl, IA1.out, IB1.out, PK.out, by omega, HRES.out, by omega, B.out⟩, by simp [lenV]; try omega⟩
          · rw [hkf] at HKP
            go_wp2_with fail
            refine (HKP _).mono ?_
            rintro e w7 ⟨rfl, rfl⟩
            obtain ⟨v', w8, hrun, hpo, hbl⟩ := PK.out.push (by omega) (HYO.out : OkO m k)
            have HRUN := Lib.hid hrun
            have HPO := Lib.hid hpo
            have HBL := Lib.hid (B.out.trans (hbl.mono (Nat.le_refl _)))
            have HRES : Hid ((K ++ [(m, k)]) ++ mrg kf q Lx Ly = RES) := Lib.hid (by rw [← HR.out, HM.out]; simp [hkf])
            clear hkf HKP hrun hpo hbl
            go_wp2_with (first | (refine wpList_load25 rfl (.tmp 12) rfl rfl KO.out KL.out ?_) | (refine wpList_buildO rfl 76 rfl rfl KL.out ?_) | (at_builtin; refine wpList_appO (o := ⟨some 78, _, _, _, _, _⟩) rfl _ _ _ _ rfl _ _ rfl rfl HRUN.out ?_))
            exact ⟨⟨A1, B1, ca - 1, cb - 1, la, lb, Lx, Ly, K ++ [(m, k)], q, rfl, rfl, IA1.out, IB1.out, HPO.out, by rw [List.length_append, List.length_singleton]; omega, HRES.out, by omega, HBL.out⟩, by simp [lenV]; try omega⟩
        · have HM : Hid (mrg kf (q + 1) ((n, l) :: Lx) ((m, k) :: Ly) = (if kf false true then [(m, k)] else []) ++ mrg kf q ((n, l) :: Lx) Ly) := Lib.hid (by rw [HM0, if_neg (by omega), if_neg (by omega)])
          have hx1 : decide (x ≤ 0) = false := decide_eq_false (by omega)
          have hx2 : decide (0 ≤ x) = true := decide_eq_true (by omega)
          clear HM0 hx
          go_upto_region 3 with fail
          obtain ⟨wd, hwd⟩ : ∃ y, wr.drew = y := ⟨_, rfl⟩
          have hbd : Below wr.heap.size wr wd := by rw [← hwd]; exact ⟨rfl, rfl, rfl, Nat.le_refl _, fun _ _ => rfl⟩
          have Bq := Lib.hid (B.out.trans (hbd.mono B.out.size))
          have PKq := Lib.hid (PK.out.below hbd)
          clear B PK
          have B := Bq
          have PK := PKq
          clear Bq PKq hbd
          refine wp_region_held_drew (S := fun W => Below w.heap.size w W) (by kernel_rfl) (by rw [hwd]; exact B.out) (fun hS => ?_)
          rw [hwd] at hS ⊢
          clear hwd
          refine wpAnyH_take (i := 0) (oi := ⟨some 21, _, _, _, _, _⟩) (v := .slice (some ⟨b2, off2, none⟩) pb cb) rfl (by kernel_rfl) (by kernel_rfl) (by kernel_rfl) (fun _ _ _ h => h) (Or.inl ⟨by rfl, fun w hSw => by (try dsimp only at hSw); go_simp <;> first | omega | (intro hx; exact absurd hx (by omega))⟩) hS ?_
          simp only [Act.put, List.setIfInBounds_toArray, List.set_cons_zero, List.set_cons_succ]
          refine wpAnyH_take (i := 1) (oi := ⟨some 22, _, _, _, _, _⟩) (v := .int .i64 (pb : Int)) rfl (by kernel_rfl) (by kernel_rfl) (by kernel_rfl) (fun _ _ _ h => h) (Or.inl ⟨by rfl, fun w hSw => by (try dsimp only at hSw); go_simp <;> first | omega | (intro hx; exact absurd hx (by omega))⟩) hS ?_
          simp only [Act.put, List.setIfInBounds_toArray, List.set_cons_zero, List.set_cons_succ]
          refine wpAnyH_take (i := 2) (oi := ⟨some 23, _, _, _, _, _⟩) (v := .bool false) rfl (by kernel_rfl) (by kernel_rfl) (by kernel_rfl) (fun _ _ _ h => h) (Or.inl ⟨by rfl, fun w hSw => by (try dsimp only at hSw); go_simp <;> first | omega | (intro hx; exact absurd hx (by omega))⟩) hS ?_
          simp only [Act.put, List.setIfInBounds_toArray, List.set_cons_zero, List.set_cons_succ]
          refine wpAnyH_take (i := 3) (oi := ⟨some 24, _, _, _, _, _⟩) (v := .bool false) rfl (by kernel_rfl) (by kernel_rfl) (by kernel_rfl) (fun _ _ _ h => h) (Or.inl ⟨by rfl, fun w hSw => by (try dsimp only at hSw); go_simp <;> first | omega | (intro hx; exact absurd hx (by omega))⟩) hS ?_
          simp only [Act.put, List.setIfInBounds_toArray, List.set_cons_zero, List.set_cons_succ]
          refine wpAnyH_take (i := 4) (oi := ⟨some 25, _, _, _, _, _⟩) (v := .slice (some ⟨b, off, none⟩) pa ca) rfl (by kernel_rfl) (by kernel_rfl) (by kernel_rfl) (fun _ _ _ h => h) (Or.inl ⟨by rfl, fun w hSw => by (try dsimp only at hSw); go_simp <;> first | omega | (intro hx; exact absurd hx (by omega))⟩) hS ?_
          simp only [Act.put, List.setIfInBounds_toArray, List.set_cons_zero, List.set_cons_succ]
          refine wpAnyH_take (i := 5) (oi := ⟨some 26, _, _, _, _, _⟩) (v := .int .i64 (pa : Int)) rfl (by kernel_rfl) (by kernel_rfl) (by kernel_rfl) (fun _ _ _ h => h) (Or.inl ⟨by rfl, fun w hSw => by (try dsimp only at hSw); go_simp <;> first | omega | (intro hx; exact absurd hx (by omega))⟩) hS ?_
          simp only [Act.put, List.setIfInBounds_toArray, List.set_cons_zero, List.set_cons_succ]
          refine wpAnyH_take (i := 6) (oi := ⟨some 27, _, _, _, _, _⟩) (v := .bool true) rfl (by kernel_rfl) (by kernel_rfl) (by kernel_rfl) (fun _ _ _ h => h) (Or.inl ⟨by rfl, fun w hSw => by (try dsimp only at hSw); go_simp <;> first | omega | (intro hx; exact absurd hx (by omega))⟩) hS ?_
          simp only [Act.put, List.setIfInBounds_toArray, List.set_cons_zero, List.set_cons_succ]
          refine wpAnyH_take (i := 7) (oi := ⟨some 28, _, _, _, _, _⟩) (v := .bool true) rfl (by kernel_rfl) (by kernel_rfl) (by kernel_rfl) (fun _ _ _ h => h) (Or.inl ⟨by rfl, fun w hSw => by (try dsimp only at hSw); go_simp <;> first | omega | (intro hx; exact absurd hx (by omega))⟩) hS ?_
          simp only [Act.put, List.setIfInBounds_toArray, List.set_cons_zero, List.set_cons_succ]
          refine wpAnyH_take (i := 8) (oi := ⟨some 29, _, _, _, _, _⟩) (v := .func (.func 39) #[] #[]) rfl (by kernel_rfl) (by kernel_rfl) (by kernel_rfl) (fun _ _ _ h => h) (Or.inl ⟨by rfl, fun w hSw => by (try dsimp only at hSw); go_simp <;> first | omega | (intro hx; exact absurd hx (by omega))⟩) hS ?_
          simp only [Act.put, List.setIfInBounds_toArray, List.set_cons_zero, List.set_cons_succ]
          refine wpAnyH_take (i := 9) (oi := ⟨some 30, _, _, _, _, _⟩) (v := .slice (some ⟨b, off, none⟩) pa ca) rfl (by kernel_rfl) (by kernel_rfl) (by kernel_rfl) (fun _ _ _ h => h) (Or.inl ⟨by rfl, fun w hSw => by (try dsimp only at hSw); go_simp <;> first | omega | (intro hx; exact absurd hx (by omega))⟩) hS ?_
          simp only [Act.put, List.setIfInBounds_toArray, List.set_cons_zero, List.set_cons_succ]
          refine wpAnyH_take (i := 10) (oi := ⟨some 31, _, _, _, _, _⟩) (v := .pointer (some ⟨b, off, none⟩)) rfl (by kernel_rfl) (by kernel_rfl) (by kernel_rfl) (fun _ _ _ h => h) (Or.inl ⟨by rfl, fun w hSw => by (try dsimp only at hSw); go_simp <;> first | omega | (intro hx; exact absurd hx (by omega))⟩) hS ?_
          simp only [Act.put, List.setIfInBounds_toArray, List.set_cons_zero, List.set_cons_succ]
          refine wpAnyH_take (i := 11) (oi := ⟨some 32, _, _, _, _, _⟩) (v := oV n l) rfl (by kernel_rfl) (by kernel_rfl) (by kernel_rfl) (fun _ _ _ h => h) (yieldsIf_load_mid (by rfl) 26 (.tmp 31) rfl (b) (off) rfl (oc n l) _ (fun W h => range_below HX.out HXB.out h) Tryz.underlying26 rfl (by rw [oc_length, hxl]; exact info25)) hS ?_
          simp only [Act.put, List.setIfInBounds_toArray, List.set_cons_zero, List.set_cons_succ]
          refine wpAnyH_take (i := 12) (oi := ⟨some 33, _, _, _, _, _⟩) (v := .slice (some ⟨b2, off2, none⟩) pb cb) rfl (by kernel_rfl) (by kernel_rfl) (by kernel_rfl) (fun _ _ _ h => h) (Or.inl ⟨by rfl, fun w hSw => by (try dsimp only at hSw); go_simp <;> first | omega | (intro hx; exact absurd hx (by omega))⟩) hS ?_
          simp only [Act.put, List.setIfInBounds_toArray, List.set_cons_zero, List.set_cons_succ]
          refine wpAnyH_take (i := 13) (oi := ⟨some 34, _, _, _, _, _⟩) (v := .pointer (some ⟨b2, off2, none⟩)) rfl (by kernel_rfl) (by kernel_rfl) (by kernel_rfl) (fun _ _ _ h => h) (Or.inl ⟨by rfl, fun w hSw => by (try dsimp only at hSw); go_simp <;> first | omega | (intro hx; exact absurd hx (by omega))⟩) hS ?_
          simp only [Act.put, List.setIfInBounds_toArray, List.set_cons_zero, List.set_cons_succ]
          refine wpAnyH_take (i := 14) (oi := ⟨some 35, _, _, _, _, _⟩) (v := oV m k) rfl (by kernel_rfl) (by kernel_rfl) (by kernel_rfl) (fun _ _ _ h => h) (yieldsIf_load_mid (by rfl) 26 (.tmp 34) rfl (b2) (off2) rfl (oc m k) _ (fun W h => range_below HY.out HYB.out h) Tryz.underlying26 rfl (by rw [oc_length, hyl]; exact info25)) hS ?_
          simp only [Act.put, List.setIfInBounds_toArray, List.set_cons_zero, List.set_cons_succ]
          refine wpAnyH_ready (rs := [15]) (by kernel_rfl) (by simp) ?_
          refine AllReadyH.cons (o := _) rfl (fun K hK => ?_) (AllReadyH.nil)
          go_simp
          refine (HCM.out _).mono ?_
          rintro r w5 ⟨rfl, hb⟩
          have Bq := Lib.hid (B.out.trans (hb.mono B.out.size))
          have PKq := Lib.hid (PK.out.below hb)
          clear B PK
          have B := Bq
          have PK := PKq
          clear Bq PKq hb
          refine hK.out _ _ (B.out) (fun hS => ?_)
          clear hK K
          (try simp only [Act.put, List.setIfInBounds_toArray, List.set_cons_zero, List.set_cons_succ])
          refine wpAnyH_take (i := 16) (oi := ⟨some 37, _, _, _, _, _⟩) (v := .bool false) rfl (by kernel_rfl) (by kernel_rfl) (by kernel_rfl) (fun _ _ _ h => h) (Or.inl ⟨by rfl, fun w hSw => by (try dsimp only at hSw); go_simp <;> first | omega | (intro hx; exact absurd hx (by omega))⟩) hS ?_
          simp only [Act.put, List.setIfInBounds_toArray, List.set_cons_zero, List.set_cons_succ]
          refine wpAnyH_take (i := 17) (oi := ⟨some 38, _, _, _, _, _⟩) (v := .bool false) rfl (by kernel_rfl) (by kernel_rfl) (by kernel_rfl) (fun _ _ _ h => h) (Or.inl ⟨by rfl, fun w hSw => by (try dsimp only at hSw); go_simp <;> first | omega | (intro hx; exact absurd hx (by omega))⟩) hS ?_
          simp only [Act.put, List.setIfInBounds_toArray, List.set_cons_zero, List.set_cons_succ]
          refine wpAnyH_take (i := 18) (oi := ⟨some 39, _, _, _, _, _⟩) (v := .bool false) rfl (by kernel_rfl) (by kernel_rfl) (by kernel_rfl) (fun _ _ _ h => h) (Or.inl ⟨by rfl, fun w hSw => by (try dsimp only at hSw); go_simp <;> first | omega | (intro hx; exact absurd hx (by omega))⟩) hS ?_
          simp only [Act.put, List.setIfInBounds_toArray, List.set_cons_zero, List.set_cons_succ]
          refine wpAnyH_take (i := 19) (oi := ⟨some 10, _, _, _, _, _⟩) (v := .bool false) rfl (by kernel_rfl) (by kernel_rfl) (by kernel_rfl) (fun _ _ _ h => h) (Or.inl ⟨by rfl, fun w hSw => by (try dsimp only at hSw); go_simp <;> first | omega | (intro hx; exact absurd hx (by omega))⟩) hS ?_
          simp only [Act.put, List.setIfInBounds_toArray, List.set_cons_zero, List.set_cons_succ]
          refine wpAnyH_done (by kernel_rfl) ?_ _
          clear hS
          go_upto_region 4 with fail
          obtain ⟨wd2, hwd⟩ : ∃ y, w5.drew = y := ⟨_, rfl⟩
          have hbd : Below w5.heap.size w5 wd2 := by rw [← hwd]; exact ⟨rfl, rfl, rfl, Nat.le_refl _, fun _ _ => rfl⟩
          have Bq := Lib.hid (B.out.trans (hbd.mono B.out.size))
          have PKq := Lib.hid (PK.out.below hbd)
          clear B PK
          have B := Bq
          have PK := PKq
          clear Bq PKq hbd
          refine wp_region_held_drew (S := fun W => Below w.heap.size w W) (by kernel_rfl) (by rw [hwd]; exact B.out) (fun hS => ?_)
          rw [hwd] at hS ⊢
          clear hwd
          refine wpAnyH_take (i := 0) (oi := ⟨some 40, _, _, _, _, _⟩) (v := .slice (some ⟨b, off, none⟩) pa ca) rfl (by kernel_rfl) (by kernel_rfl) (by kernel_rfl) (fun _ _ _ h => h) (Or.inl ⟨by rfl, fun w hSw => by (try dsimp only at hSw); go_simp <;> first | omega | (intro hx; exact absurd hx (by omega))⟩) hS ?_
          simp only [Act.put, List.setIfInBounds_toArray, List.set_cons_zero, List.set_cons_succ]
          refine wpAnyH_take (i := 1) (oi := ⟨some 41, _, _, _, _, _⟩) (v := .int .i64 (pa : Int)) rfl (by kernel_rfl) (by kernel_rfl) (by kernel_rfl) (fun _ _ _ h => h) (Or.inl ⟨by rfl, fun w hSw => by (try dsimp only at hSw); go_simp <;> first | omega | (intro hx; exact absurd hx (by omega))⟩) hS ?_
          simp only [Act.put, List.setIfInBounds_toArray, List.set_cons_zero, List.set_cons_succ]
          refine wpAnyH_take (i := 2) (oi := ⟨some 42, _, _, _, _, _⟩) (v := .bool false) rfl (by kernel_rfl) (by kernel_rfl) (by kernel_rfl) (fun _ _ _ h => h) (Or.inl ⟨by rfl, fun w hSw => by (try dsimp only at hSw); go_simp <;> first | omega | (intro hx; exact absurd hx (by omega))⟩) hS ?_
          simp only [Act.put, List.setIfInBounds_toArray, List.set_cons_zero, List.set_cons_succ]
          refine wpAnyH_take (i := 3) (oi := ⟨some 43, _, _, _, _, _⟩) (v := .bool false) rfl (by kernel_rfl) (by kernel_rfl) (by kernel_rfl) (fun _ _ _ h => h) (Or.inl ⟨by rfl, fun w hSw => by (try dsimp only at hSw); go_simp <;> first | omega | (intro hx; exact absurd hx (by omega))⟩) hS ?_
          simp only [Act.put, List.setIfInBounds_toArray, List.set_cons_zero, List.set_cons_succ]
          refine wpAnyH_take (i := 4) (oi := ⟨some 44, _, _, _, _, _⟩) (v := .slice (some ⟨b2, off2, none⟩) pb cb) rfl (by kernel_rfl) (by kernel_rfl) (by kernel_rfl) (fun _ _ _ h => h) (Or.inl ⟨by rfl, fun w hSw => by (try dsimp only at hSw); go_simp <;> first | omega | (intro hx; exact absurd hx (by omega))⟩) hS ?_
          simp only [Act.put, List.setIfInBounds_toArray, List.set_cons_zero, List.set_cons_succ]
          refine wpAnyH_take (i := 5) (oi := ⟨some 45, _, _, _, _, _⟩) (v := .int .i64 (pb : Int)) rfl (by kernel_rfl) (by kernel_rfl) (by kernel_rfl) (fun _ _ _ h => h) (Or.inl ⟨by rfl, fun w hSw => by (try dsimp only at hSw); go_simp <;> first | omega | (intro hx; exact absurd hx (by omega))⟩) hS ?_
          simp only [Act.put, List.setIfInBounds_toArray, List.set_cons_zero, List.set_cons_succ]
          refine wpAnyH_take (i := 6) (oi := ⟨some 46, _, _, _, _, _⟩) (v := .bool true) rfl (by kernel_rfl) (by kernel_rfl) (by kernel_rfl) (fun _ _ _ h => h) (Or.inl ⟨by rfl, fun w hSw => by (try dsimp only at hSw); go_simp <;> first | omega | (intro hx; exact absurd hx (by omega))⟩) hS ?_
          simp only [Act.put, List.setIfInBounds_toArray, List.set_cons_zero, List.set_cons_succ]
          refine wpAnyH_take (i := 7) (oi := ⟨some 47, _, _, _, _, _⟩) (v := .bool true) rfl (by kernel_rfl) (by kernel_rfl) (by kernel_rfl) (fun _ _ _ h => h) (Or.inl ⟨by rfl, fun w hSw => by (try dsimp only at hSw); go_simp <;> first | omega | (intro hx; exact absurd hx (by omega))⟩) hS ?_
          simp only [Act.put, List.setIfInBounds_toArray, List.set_cons_zero, List.set_cons_succ]
          refine wpAnyH_take (i := 8) (oi := ⟨some 48, _, _, _, _, _⟩) (v := .func (.func 39) #[] #[]) rfl (by kernel_rfl) (by kernel_rfl) (by kernel_rfl) (fun _ _ _ h => h) (Or.inl ⟨by rfl, fun w hSw => by (try dsimp only at hSw); go_simp <;> first | omega | (intro hx; exact absurd hx (by omega))⟩) hS ?_
          simp only [Act.put, List.setIfInBounds_toArray, List.set_cons_zero, List.set_cons_succ]
          refine wpAnyH_take (i := 9) (oi := ⟨some 49, _, _, _, _, _⟩) (v := .slice (some ⟨b, off, none⟩) pa ca) rfl (by kernel_rfl) (by kernel_rfl) (by kernel_rfl) (fun _ _ _ h => h) (Or.inl ⟨by rfl, fun w hSw => by (try dsimp only at hSw); go_simp <;> first | omega | (intro hx; exact absurd hx (by omega))⟩) hS ?_
          simp only [Act.put, List.setIfInBounds_toArray, List.set_cons_zero, List.set_cons_succ]
          refine wpAnyH_take (i := 10) (oi := ⟨some 50, _, _, _, _, _⟩) (v := .pointer (some ⟨b, off, none⟩)) rfl (by kernel_rfl) (by kernel_rfl) (by kernel_rfl) (fun _ _ _ h => h) (Or.inl ⟨by rfl, fun w hSw => by (try dsimp only at hSw); go_simp <;> first | omega | (intro hx; exact absurd hx (by omega))⟩) hS ?_
          simp only [Act.put, List.setIfInBounds_toArray, List.set_cons_zero, List.set_cons_succ]
          refine wpAnyH_take (i := 11) (oi := ⟨some 51, _, _, _, _, _⟩) (v := oV n l) rfl (by kernel_rfl) (by kernel_rfl) (by kernel_rfl) (fun _ _ _ h => h) (yieldsIf_load_mid (by rfl) 26 (.tmp 50) rfl (b) (off) rfl (oc n l) _ (fun W h => range_below HX.out HXB.out h) Tryz.underlying26 rfl (by rw [oc_length, hxl]; exact info25)) hS ?_
          simp only [Act.put, List.setIfInBounds_toArray, List.set_cons_zero, List.set_cons_succ]
          refine wpAnyH_take (i := 12) (oi := ⟨some 52, _, _, _, _, _⟩) (v := .slice (some ⟨b2, off2, none⟩) pb cb) rfl (by kernel_rfl) (by kernel_rfl) (by kernel_rfl) (fun _ _ _ h => h) (Or.inl ⟨by rfl, fun w hSw => by (try dsimp only at hSw); go_simp <;> first | omega | (intro hx; exact absurd hx (by omega))⟩) hS ?_
          simp only [Act.put, List.setIfInBounds_toArray, List.set_cons_zero, List.set_cons_succ]
          refine wpAnyH_take (i := 13) (oi := ⟨some 53, _, _, _, _, _⟩) (v := .pointer (some ⟨b2, off2, none⟩)) rfl (by kernel_rfl) (by kernel_rfl) (by kernel_rfl) (fun _ _ _ h => h) (Or.inl ⟨by rfl, fun w hSw => by (try dsimp only at hSw); go_simp <;> first | omega | (intro hx; exact absurd hx (by omega))⟩) hS ?_
          simp only [Act.put, List.setIfInBounds_toArray, List.set_cons_zero, List.set_cons_succ]
          refine wpAnyH_take (i := 14) (oi := ⟨some 54, _, _, _, _, _⟩) (v := oV m k) rfl (by kernel_rfl) (by kernel_rfl) (by kernel_rfl) (fun _ _ _ h => h) (yieldsIf_load_mid (by rfl) 26 (.tmp 53) rfl (b2) (off2) rfl (oc m k) _ (fun W h => range_below HY.out HYB.out h) Tryz.underlying26 rfl (by rw [oc_length, hyl]; exact info25)) hS ?_
          simp only [Act.put, List.setIfInBounds_toArray, List.set_cons_zero, List.set_cons_succ]
          refine wpAnyH_ready (rs := [15]) (by kernel_rfl) (by simp) ?_
          refine AllReadyH.cons (o := _) rfl (fun K hK => ?_) (AllReadyH.nil)
          go_simp
          refine (HCM.out _).mono ?_
          rintro r w6 ⟨rfl, hb⟩
          have Bq := Lib.hid (B.out.trans (hb.mono B.out.size))
          have PKq := Lib.hid (PK.out.below hb)
          clear B PK
          have B := Bq
          have PK := PKq
          clear Bq PKq hb
          refine hK.out _ _ (B.out) (fun hS => ?_)
          clear hK K
          (try simp only [Act.put, List.setIfInBounds_toArray, List.set_cons_zero, List.set_cons_succ])
          refine wpAnyH_take (i := 16) (oi := ⟨some 56, _, _, _, _, _⟩) (v := .bool true) rfl (by kernel_rfl) (by kernel_rfl) (by kernel_rfl) (fun _ _ _ h => h) (Or.inl ⟨by rfl, fun w hSw => by (try dsimp only at hSw); go_simp <;> first | omega | (intro hx; exact absurd hx (by omega))⟩) hS ?_
          simp only [Act.put, List.setIfInBounds_toArray, List.set_cons_zero, List.set_cons_succ]
          refine wpAnyH_take (i := 17) (oi := ⟨some 57, _, _, _, _, _⟩) (v := .bool true) rfl (by kernel_rfl) (by kernel_rfl) (by kernel_rfl) (fun _ _ _ h => h) (Or.inl ⟨by rfl, fun w hSw => by (try dsimp only at hSw); go_simp <;> first | omega | (intro hx; exact absurd hx (by omega))⟩) hS ?_
          simp only [Act.put, List.setIfInBounds_toArray, List.set_cons_zero, List.set_cons_succ]
          refine wpAnyH_take (i := 18) (oi := ⟨some 58, _, _, _, _, _⟩) (v := .bool true) rfl (by kernel_rfl) (by kernel_rfl) (by kernel_rfl) (fun _ _ _ h => h) (Or.inl ⟨by rfl, fun w hSw => by (try dsimp only at hSw); go_simp <;> first | omega | (intro hx; exact absurd hx (by omega))⟩) hS ?_
          simp only [Act.put, List.setIfInBounds_toArray, List.set_cons_zero, List.set_cons_succ]
          refine wpAnyH_take (i := 19) (oi := ⟨some 11, _, _, _, _, _⟩) (v := .bool true) rfl (by kernel_rfl) (by kernel_rfl) (by kernel_rfl) (fun _ _ _ h => h) (Or.inl ⟨by rfl, fun w hSw => by (try dsimp only at hSw); go_simp <;> first | omega | (intro hx; exact absurd hx (by omega))⟩) hS ?_
          simp only [Act.put, List.setIfInBounds_toArray, List.set_cons_zero, List.set_cons_succ]
          refine wpAnyH_done (by kernel_rfl) ?_ _
          clear hS
          obtain ⟨wa, hwa⟩ : ∃ y, w6.alloc (.cells (oc 0 zl).toArray 26) = y := ⟨_, rfl⟩
          obtain ⟨go, hgo⟩ : ∃ y, w6.heap.size = y := ⟨_, rfl⟩
          have hbn : Below w6.heap.size w6 wa := by rw [← hwa]; exact bel1 _ _
          have KO : Hid (Bk wa go 26 (oc 0 zl)) := Lib.hid (by rw [← hwa, ← hgo]; exact Bk.new _ _ _)
          have GB : Hid (w.heap.size ≤ go) := Lib.hid (by rw [← hgo]; exact B.out.size)
          have GN : Hid (u9.ownBlock ≠ some go) := Lib.hid (fun e => by have := (PK.out.own.lt _ e).2; omega)
          have KL := HZL
          have HWA := Lib.hid hwa
          have HGO := Lib.hid hgo
          clear hwa hgo
          have Bq := Lib.hid (B.out.trans (hbn.mono B.out.size))
          have PKq := Lib.hid (PK.out.below hbn)
          clear B PK
          have B := Bq
          have PK := PKq
          clear Bq PKq hbn
          go_upto_region 9 with fail
          rw [HWA.out, HGO.out]
          clear HWA HGO
          obtain ⟨wd4, hwd⟩ : ∃ y, wa.drew = y := ⟨_, rfl⟩
          have hbd : Below wa.heap.size wa wd4 := by rw [← hwd]; exact ⟨rfl, rfl, rfl, Nat.le_refl _, fun _ _ => rfl⟩
          have Bq := Lib.hid (B.out.trans (hbd.mono B.out.size))
          have PKq := Lib.hid (PK.out.below hbd)
          have KOq := Lib.hid (KO.out.below hbd KO.out.lt)
          clear B PK KO
          have B := Bq
          have PK := PKq
          have KO := KOq
          clear Bq PKq KOq hbd
          refine wp_region_held_drew (S := fun W => Below w.heap.size w W) (by kernel_rfl) (by rw [hwd]; exact B.out) (fun hS => ?_)
          rw [hwd] at hS ⊢
          clear hwd
          refine wpAnyH_take (i := 0) (oi := ⟨some 66, _, _, _, _, _⟩) (v := .slice (some ⟨b2, off2, none⟩) pb cb) rfl (by kernel_rfl) (by kernel_rfl) (by kernel_rfl) (fun _ _ _ h => h) (Or.inl ⟨by rfl, fun w hSw => by (try dsimp only at hSw); go_simp <;> first | omega | (intro hx; exact absurd hx (by omega))⟩) hS ?_
          simp only [Act.put, List.setIfInBounds_toArray, List.set_cons_zero, List.set_cons_succ]
          refine wpAnyH_take (i := 1) (oi := ⟨some 67, _, _, _, _, _⟩) (v := .pointer (some ⟨b2, off2, none⟩)) rfl (by kernel_rfl) (by kernel_rfl) (by kernel_rfl) (fun _ _ _ h => h) (Or.inl ⟨by rfl, fun w hSw => by (try dsimp only at hSw); go_simp <;> first | omega | (intro hx; exact absurd hx (by omega))⟩) hS ?_
          simp only [Act.put, List.setIfInBounds_toArray, List.set_cons_zero, List.set_cons_succ]
          refine wpAnyH_take (i := 2) (oi := ⟨some 68, _, _, _, _, _⟩) (v := oV m k) rfl (by kernel_rfl) (by kernel_rfl) (by kernel_rfl) (fun _ _ _ h => h) (yieldsIf_load_mid (by rfl) 26 (.tmp 67) rfl (b2) (off2) rfl (oc m k) _ (fun W h => range_below HY.out HYB.out h) Tryz.underlying26 rfl (by rw [oc_length, hyl]; exact info25)) hS ?_
          simp only [Act.put, List.setIfInBounds_toArray, List.set_cons_zero, List.set_cons_succ]
          refine wpAnyH_take (i := 3) (oi := ⟨some 69, _, _, _, _, _⟩) (v := .slice (some ⟨b2, off2, none⟩) pb cb) rfl (by kernel_rfl) (by kernel_rfl) (by kernel_rfl) (fun _ _ _ h => h) (Or.inl ⟨by rfl, fun w hSw => by (try dsimp only at hSw); go_simp <;> first | omega | (intro hx; exact absurd hx (by omega))⟩) hS ?_
          simp only [Act.put, List.setIfInBounds_toArray, List.set_cons_zero, List.set_cons_succ]
          refine wpAnyH_take (i := 4) (oi := ⟨some 70, _, _, _, _, _⟩) (v := .slice B1 lb (cb - 1)) rfl (by kernel_rfl) (by kernel_rfl) (by kernel_rfl) (fun _ _ _ h => h) (Or.inl ⟨by rfl, fun w hSw => by (try dsimp only at hSw); go_simp <;> first | omega | (intro hx; exact absurd hx (by omega))⟩) hS ?_
          simp only [Act.put, List.setIfInBounds_toArray, List.set_cons_zero, List.set_cons_succ]
          refine wpAnyH_ready (rs := [5]) (by kernel_rfl) (by simp) ?_
          refine AllReadyH.cons (o := _) rfl (fun K hK => ?_) (AllReadyH.nil)
          refine storeO_wp (.tmp 12) (.tmp 68) rfl (n := m) (l := k) rfl rfl KO.out (by rw [oc_length, KL.out]) hyl ?_
          intro W2 V hg hz
          have KOq := Lib.hid V
          have Bq : Hid (Below w.heap.size w W2) := Lib.hid (B.out.grown hg B.out.size (fun k e => by injection e with e; have := GB.out; omega))
          have PKq := Lib.hid (PK.out.grown hg (GN.out))
          have KLq : Hid (k.length = 16) := Lib.hid hyl
          clear V hg hz B KO PK KL
          have B := Bq
          have KO := KOq
          have PK := PKq
          have KL := KLq
          clear Bq KOq PKq KLq
          refine hK.out _ _ (B.out) (fun hS => ?_)
          clear hK K
          (try simp only [Act.put, List.setIfInBounds_toArray, List.set_cons_zero, List.set_cons_succ])
          refine wpAnyH_take (i := 6) (oi := ⟨some 1, _, _, _, _, _⟩) (v := .slice B1 lb (cb - 1)) rfl (by kernel_rfl) (by kernel_rfl) (by kernel_rfl) (fun _ _ _ h => h) (Or.inl ⟨by rfl, fun w hSw => by (try dsimp only at hSw); go_simp <;> first | omega | (intro hx; exact absurd hx (by omega))⟩) hS ?_
          simp only [Act.put, List.setIfInBounds_toArray, List.set_cons_zero, List.set_cons_succ]
          refine wpAnyH_done (by kernel_rfl) ?_ _
          clear hS
          have HKP := HKEEP.out false true
          cases hkf : kf false true
          · rw [hkf] at HKP
            go_wp2_with fail
            refine (HKP _).mono ?_
            rintro e w7 ⟨rfl, rfl⟩
            have HRES : Hid (K ++ mrg kf q ((n, l) :: Lx) Ly = RES) := Lib.hid (by rw [← HR.out, HM.out]; simp [hkf])
            clear hkf HKP
            go_wp2_with fail
            exact ⟨⟨(some ⟨b, off, none⟩), B1, ca, cb - 1, pa, lb, ((n, l) :: Lx), Ly, K, q, rfl, rfl, IA.out, IB1.out, PK.out, by omega, HRES.out, by omega, B.out⟩, by simp [lenV]; try omega⟩
          · rw [hkf] at HKP
            go_wp2_with fail
            refine (HKP _).mono ?_
            rintro e w7 ⟨rfl, rfl⟩
            obtain ⟨v', w8, hrun, hpo, hbl⟩ := PK.out.push (by omega) (HYO.out : OkO m k)
            have HRUN := Lib.hid hrun
            have HPO := Lib.hid hpo
            have HBL := Lib.hid (B.out.trans (hbl.mono (Nat.le_refl _)))
            have HRES : Hid ((K ++ [(m, k)]) ++ mrg kf q ((n, l) :: Lx) Ly = RES) := Lib.hid (by rw [← HR.out, HM.out]; simp [hkf])
            clear hkf HKP hrun hpo hbl
            go_wp2_with (first | (refine wpList_load25 rfl (.tmp 12) rfl rfl KO.out KL.out ?_) | (refine wpList_buildO rfl 76 rfl rfl KL.out ?_) | (at_builtin; refine wpList_appO (o := ⟨some 78, _, _, _, _, _⟩) rfl _ _ _ _ rfl _ _ rfl rfl HRUN.out ?_))
            exact ⟨⟨(some ⟨b, off, none⟩), B1, ca, cb - 1, pa, lb, ((n, l) :: Lx), Ly, K ++ [(m, k)], q, rfl, rfl, IA.out, IB1.out, HPO.out, by rw [List.length_append, List.length_singleton]; omega, HRES.out, by omega, HBL.out⟩, by simp [lenV]; try omega⟩
end Go.Proofs.YtaiiihdckdjpoaaGreatDoor
