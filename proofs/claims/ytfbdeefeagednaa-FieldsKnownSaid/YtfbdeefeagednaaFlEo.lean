/-
  Layer 12: the reference's Encode: the encoding of a valid element.
  Conditions: the element's parts are valid, the encoding has at most 1048576 octets.
-/
import Derived.Test.YtfbdeefeagednaaFlEn
namespace Go.Proofs.Ytfbdeefeagednaa.Fl
open Go.RowKit

theorem encS_take1 {ss : List El} {i : Nat} (hi : i < ss.length) : encS (ss.take (i + 1)) = encS (ss.take i) ++ encE ss[i] := by
  rw [List.take_succ_eq_append_getElem hi, encS_app]; simp [encS]
theorem OwB.mono {b b' : Nat} {v : Value} {l : List Nat} {W : World} (h : OwB b v l W) (hb : b' ≤ b) : OwB b' v l W :=
  ⟨⟨h.1.1, h.1.2.imp id fun ⟨g, cap, cur, h1, h2, r⟩ => ⟨g, cap, cur, h1, Nat.le_trans hb h2, r⟩⟩, h.2⟩
theorem hd_lt {c : Nat} {k : Bool} (h : c ≤ 3) : hd c k + 31 < 256 := by unfold hd; split <;> omega
set_option linter.unusedSimpArgs false in
set_option maxHeartbeats 4000000 in
set_option maxRecDepth 100000 in
theorem renc_any {x : Bool} {S : Nat → Prop} (e : El) : ∀ (v : Value) (w : World), RdE x S w e v → valE e → (encE e).length ≤ 1048576 →
    Calls Try.prog 32 #[v] w (GvB w (encE e)) := by
  refine El.ind (P := fun e => ∀ (v : Value) (w : World), RdE x S w e v → valE e → (encE e).length ≤ 1048576 →
    Calls Try.prog 32 #[v] w (GvB w (encE e))) ?_ e
  clear e
  intro c n k bs ss ih v w h hv hm
  obtain ⟨h1, h2, h3, A, ca, B, cb, rfl, h5, h6, h7, h8, h9, h10, h11⟩ := h
  rw [valE] at hv
  have hck := chk_zero hv.1
  have hvs := hv.2.2.2
  have hlen := conL_le (e := .mk c n k bs ss)
  rw [conL] at hlen
  obtain ⟨bl, hbl⟩ : ∃ bl, bs.length = bl := ⟨_, rfl⟩
  obtain ⟨m, hmm⟩ : ∃ m, ss.length = m := ⟨_, rfl⟩
  rw [hbl, hmm]
  rw [hmm] at h8
  obtain ⟨G, hG⟩ : ∃ G, w.heap.size = G := ⟨_, rfl⟩
  obtain ⟨w1, hw1⟩ : ∃ v, w.alloc (.cells #[.int .u8 (c : Int), .bool k, .int .u32 (n : Int), .slice A bl ca, .slice B m cb] 29) = v := ⟨_, rfl⟩
  have b1 : Below w.heap.size w w1 := by rw [← hw1]; exact bel1 _ _
  have k1 : Bk w1 G 29 [.int .u8 (c : Int), .bool k, .int .u32 (n : Int), .slice A bl ca, .slice B m cb] := by rw [← hw1, ← hG]; exact Bk.new w _ [_, _, _, _, _]
  have RS := Lib.hid (h11.stay b1)
  have hra : Rb w1 A bs := ⟨h5.rd.below b1, h3⟩
  obtain ⟨v0, w2, hrun0, ho0, hb0, _⟩ := ap8 ca (OwB.nil w1 w1.heap.size) hra hbl (Nat.le_refl _) (by simp; omega)
  have K1 := Lib.hid k1
  have B1 := Lib.hid b1
  have HW := Lib.hid (And.intro hw1 hG)
  have HSZ := Lib.hid (And.intro hlen hm)
  have HCK := Lib.hid hck
  have HVS := Lib.hid hvs
  have HIH := Lib.hid ih
  have HMM := Lib.hid hmm
  have OW0 := Lib.hid ho0
  have BB0 := Lib.hid hb0
  have hmx : m ≤ 9223372036854775807 := by unfold maxLen at h9; omega
  clear ih h1 h2 h3 h5 h6 h7 h8 h9 h10 h11 hv hck hvs hlen hm hw1 hG b1 k1 hra ho0 hb0 hmm hbl
  go_enter Try.func32, Try.ntmps32
  go_upto_region 1 with fail
  rw [HW.out.1, HW.out.2]
  obtain ⟨e0, e1, e2, e3, e4, ez⟩ := K1.out.five
  go_wp2_with (refine wpList_app (o := ⟨some 12, _, _, _, _, _⟩) rfl _ (.tmp 11) _ _ rfl (.slice none 0 0) (.slice A bl ca) rfl rfl hrun0 ?_)
  clear hrun0 e0 e1 e2 e3 e4 ez
  go_loopw [3, 4] (fun z3 z4 wr => ∃ p : Nat, z4 = .int .i64 (p : Int) ∧ p ≤ m ∧ OwB w1.heap.size z3 (bs ++ encS (ss.take p)) wr ∧ Below w1.heap.size w1 wr) (fun _ z4 _ => m - (intOf z4).toNat)
  case atStart => exact ⟨0, rfl, Nat.zero_le _, by have := OW0.out; simpa [encS] using this, BB0.out⟩
  case round =>
    obtain ⟨p, rfl, hp, how, hbl⟩ := hrel
    have OW := Lib.hid how
    have BB := Lib.hid hbl
    have KE := kt K1 BB
    have HP := Lib.hid hp
    clear how hbl hp OW0 BB0
    obtain ⟨e0, e1, e2, e3, e4, ez⟩ := KE.out.five
    by_cases hlt : p < m
    · have hlt' : p < ss.length := by rw [HMM.out]; exact hlt
      obtain ⟨b, off, c', n', k', A1, l1, q1, A2, l2, q2, rfl, hb, _, f0, f1, f2, f3, f4, hE⟩ := (RS.out.stay BB.out).fives hlt'
      have hpart := encS_part hlt'
      have htk := encS_take hlt'
      have htk1 := encS_take1 hlt'
      have hmt := List.getElem_mem hlt'
      obtain ⟨E, hEq⟩ : ∃ E, ss[p] = E := ⟨_, rfl⟩
      rw [hEq] at hE hpart htk htk1 hmt
      have HC := Lib.hid (HIH.out E hmt _ wr hE (valS_mem HVS.out hmt) (by have := HSZ.out; omega))
      have hszs := HSZ.out
      have HTK := Lib.hid htk1
      have HPT := Lib.hid (show bs.length + (encS (ss.take p)).length + (encE E).length ≤ 1048576 by omega)
      clear hE hpart htk htk1 hmt hEq hszs hlt'
      go_wp2_with fail
      refine HC.out.mono ?_
      rintro e' w4 ⟨A4, N4, c4, rfl, hl4, hr4, _, _, hb4⟩
      obtain ⟨v5, w5, hrun5, ho5, hb5, _⟩ := ap8 c4 (OW.out.below hb4) hr4 hl4 (Nat.le_trans BB.out.size hb4.size) (by rw [List.length_append]; have := HPT.out; omega)
      have OW5 := Lib.hid ho5
      have BB5 := Lib.hid ((BB.out.trans (hb4.mono BB.out.size)).trans hb5)
      clear hl4 hr4 hb4 ho5 hb5 HC e0 e1 e2 e3 e4 ez f0 f1 f2 f3 f4
      go_wp2_with (refine wpList_app (o := ⟨some 27, _, _, _, _, _⟩) rfl (.tmp 20) (.tmp 26) _ _ rfl _ _ rfl rfl hrun5 ?_)
      exact ⟨⟨p + 1, by go_num, hlt, by have := OW5.out; rwa [List.append_assoc, ← HTK.out] at this, BB5.out⟩, by simp [intOf]; omega⟩
    · have hpe : p = m := by have := HP.out; omega
      subst hpe
      obtain ⟨C, hC⟩ : ∃ C, bs ++ encS ss = C := ⟨_, rfl⟩
      have how := OW.out
      rw [List.take_of_length_le (by rw [HMM.out]; exact Nat.le_refl _), hC] at how
      have HSC : Hid (C.length ≤ 1048576) := Lib.hid (by rw [← hC, List.length_append]; have := HSZ.out; omega)
      have HE : Hid (encE (.mk c n k bs ss) = putL c n k ++ (Len.putL C.length ++ C)) := Lib.hid (by rw [encE, ← hC, List.length_append])
      obtain ⟨AC, cl, cc, rfl, hcl, hrc, hc1, hc2, _⟩ := how.opn
      rw [hcl] at HSC HE
      have RC := Lib.hid hrc
      have HCL := Lib.hid hcl
      have HCM := Lib.hid (And.intro hc1 hc2)
      have B2 := bt B1 BB
      obtain ⟨h, hh⟩ : ∃ h, hd c k = h := ⟨_, rfl⟩
      have HH := Lib.hid hh
      have HH2 := Lib.hid (show h + 31 < 256 by rw [← hh]; exact hd_lt HCK.out.1)
      clear how hC hcl hrc hc1 hc2 hh hlt RS HIH HVS K1 BB OW HMM B1
      have hn32 : n < 268435456 := HCK.out.2
      have y1 : IntKind.u8.wrap ((c : Int) * 64) = (c : Int) * 64 := by have := HCK.out.1; rw [IntKind.wrap_u8]; omega
      go_upto_if 34 with fail
      go_cut [5] (fun z wx => z = .int .u8 (h : Int) ∧ wx = wr)
      case first =>
        cases k
        · go_wp2_with fail
          go_meet
          exact ⟨by first | rfl | (rw [← HH.out]; unfold hd; simp; done) | (rw [← HH.out]; unfold hd; simp; omega), rfl⟩
        · have y2 : IntKind.u8.wrap ((c : Int) * 64 + 32) = (h : Int) := by rw [← HH.out]; unfold hd; have := HCK.out.1; rw [IntKind.wrap_u8]; simp <;> omega
          go_wp2_with fail
          go_meet
          exact ⟨by first | rfl | (rw [← HH.out]; unfold hd; simp; done) | (rw [← HH.out]; unfold hd; simp; omega), rfl⟩
      case rest =>
        obtain ⟨rfl, rfl⟩ := hcut
        clear y1
        generalize wc = W0 at *
        go_upto_region 9 with fail
        go_cut [6] (fun z wx => OwB W0.heap.size z [h + min n 31] wx ∧ Below W0.heap.size W0 wx)
        case first =>
          obtain ⟨q, hq⟩ : ∃ q, min n 31 = q := ⟨_, rfl⟩
          obtain ⟨s, hs⟩ : ∃ s, h + q = s := ⟨_, rfl⟩
          have hs2 : s < 256 := by have := HH2.out; omega
          have hmi : min (n : Int) 31 = (q : Int) := by omega
          have y2 : IntKind.u8.wrap (q : Int) = (q : Int) := by rw [IntKind.wrap_u8]; omega
          have y3 : (h : Int) + (q : Int) = (s : Int) := by omega
          have y4 : IntKind.u8.wrap (s : Int) = (s : Int) := by rw [IntKind.wrap_u8]; omega
          have HS2 := Lib.hid (OwB.lit W0 hs2)
          have HQ := Lib.hid (And.intro hq hs)
          clear hq hs
          go_wp2_with fail
          go_meet
          rw [HQ.out.1, HQ.out.2]
          exact ⟨HS2.out, bel1 _ _⟩
        case rest =>
          obtain ⟨how6, hb6⟩ := hcut
          generalize wc = W6 at *
          have O6 := Lib.hid how6
          have HB6 := Lib.hid hb6
          have KE6 := kt KE HB6
          clear how6 hb6 e0 e1 e2 e3 e4 ez KE
          obtain ⟨e0, e1, e2, e3, e4, ez⟩ := KE6.out.five
          go_upto_if 48 with fail
          go_cut [6] (fun z wx => OwB W0.heap.size z (putL c n k) wx ∧ Below W0.heap.size W0 wx)
          case first =>
            by_cases h31 : n < 31
            · have z1 : decide ((n : Int) > 30) = false := by simp; omega
              go_wp2_with fail
              go_meet
              exact ⟨by have := O6.out; rw [Nat.min_eq_left (by omega)] at this; unfold putL; rw [if_pos h31, HH.out]; exact this, HB6.out⟩
            · have z1 : decide ((n : Int) > 30) = true := by simp; omega
              go_wp2_with fail
              refine (rdig_any n _ hn32).mono ?_
              rintro e' w7 ⟨A7, N7, c7, rfl, hl7, hr7, _, _, hb7⟩
              obtain ⟨v8, w8, hrun8, ho8, hb8, _⟩ := ap8 c7 (O6.out.below hb7) hr7 hl7 (Nat.le_trans HB6.out.size hb7.size) (by have := gl_le hn32; simp; omega)
              have HX := Lib.hid (And.intro ho8 ((HB6.out.trans (hb7.mono HB6.out.size)).trans hb8))
              have H31 := Lib.hid h31
              clear hl7 hr7 hb7 ho8 hb8 e0 e1 e2 e3 e4 ez z1 h31
              go_wp2_with (refine wpList_app (o := ⟨some 54, _, _, _, _, _⟩) rfl (.tmp 49) (.tmp 53) _ _ rfl _ _ rfl rfl hrun8 ?_)
              go_meet
              exact ⟨by have := HX.out.1; rw [Nat.min_eq_right (by have := H31.out; omega)] at this; unfold putL; rw [if_neg H31.out, HH.out]; exact this, HX.out.2⟩
          case rest =>
            obtain ⟨how7, hb7⟩ := hcut
            generalize wc = W7 at *
            have O7 := Lib.hid how7
            have HB7 := Lib.hid hb7
            clear how7 hb7 e0 e1 e2 e3 e4 ez KE6 O6 HB6
            have HPL : Hid ((putL c n k).length ≤ 5) := Lib.hid (tput_le hn32)
            go_upto_if 58 with fail
            go_cut [6, 8, 9] (fun z _ _ wx => OwB W0.heap.size z (putL c n k ++ Len.putL cl) wx ∧ Below W0.heap.size W0 wx)
            case first =>
              by_cases h128 : cl < 128
              · have z1 : decide ((cl : Int) < 128) = true := by simp; omega
                have z2 : IntKind.u8.wrap (cl : Int) = (cl : Int) := by rw [IntKind.wrap_u8]; omega
                have hal := bel1 W7 (.cells #[.int .u8 (cl : Int)] 5)
                obtain ⟨v8, w8, hrun8, ho8, hb8, _⟩ := ap8 1 (O7.out.below hal) (one_bytes (w := W7) (x := cl) (by omega)) (N := 1) rfl (Nat.le_trans HB7.out.size hal.size) (by have := HPL.out; omega)
                have HX := Lib.hid (And.intro ho8 ((HB7.out.trans (hal.mono HB7.out.size)).trans hb8))
                have H128 := Lib.hid h128
                clear ho8 hb8 hal
                go_wp2_with (refine wpList_app (o := ⟨some 63, _, _, _, _, _⟩) rfl (.tmp 59) (.tmp 62) _ _ rfl _ _ rfl rfl hrun8 ?_)
                go_meet
                exact ⟨by rw [show Len.putL cl = [cl] from if_pos H128.out]; exact HX.out.1, HX.out.2⟩
              · have z1 : decide ((cl : Int) < 128) = false := by simp; omega
                have HPB := Lib.hid (Len.putL_big (n := cl) (by omega) (by have := HSC.out; omega))
                have HDL := Lib.hid ((dig_length cl 3).2 (by have := HSC.out; omega))
                have hcl24 : cl ≤ 16777215 := by have := HSC.out; omega
                skip
                go_wp2_with fail
                clear z1
                go_loopw [8, 9] (fun z8 z9 wr => ∃ (u : Nat) (B : Option Addr) (out : List Nat) (N cq : Nat), u ≤ 16777215 ∧ z9 = .int .i64 (u : Int) ∧ z8 = .slice B N cq ∧ out.length = N ∧ RdX (fun i => W7.heap.size ≤ i) wr B (cs8 out) ∧ All8 out ∧ N ≤ cq ∧ cq ≤ maxLen ∧ dig cl = dig u ++ out ∧ Below W7.heap.size W7 wr) (fun _ z9 _ => (intOf z9).toNat)
                case atStart => exact ⟨cl, none, [], 0, 0, hcl24, rfl, rfl, rfl, RdX.nil, All8.nil, Nat.le_refl _, Nat.zero_le _, (List.append_nil _).symm, Below.refl _ _⟩
                case round =>
                  obtain ⟨u, B, out, N, cq, hu, rfl, rfl, hN, hrx, h8, hc1, hc2, hd, hbel⟩ := hrel
                  have hol : N ≤ 3 := by
                    have := congrArg List.length hd
                    have h5 := HDL.out
                    rw [List.length_append] at this
                    omega
                  have HN := Lib.hid hN
                  have HRX := Lib.hid hrx
                  have H8 := Lib.hid h8
                  have HD := Lib.hid hd
                  have HBL := Lib.hid hbel
                  have HCC := Lib.hid (And.intro hc1 hc2)
                  clear hrx hc1 hc2 hd hbel hN h8
                  by_cases hu0 : u = 0
                  · subst hu0
                    have HD2 : Hid (dig cl = out) := Lib.hid (HD.out.trans (by rw [dig_zero]; rfl))
                    obtain ⟨x, hx⟩ : ∃ x, 128 + N = x := ⟨_, rfl⟩
                    have hx1 : (128 + (N : Int)) = (x : Int) := by omega
                    have hx2 : x < 256 := by omega
                    have hx3 : IntKind.u8.wrap (x : Int) = (x : Int) := by rw [IntKind.wrap_u8]; omega
                    have HX := Lib.hid hx
                    have hal := bel1 wr (.cells #[.int .u8 (x : Int)] 5)
                    have hO7 := O7.out.below HBL.out
                    have hown : ∀ i, W7.heap.size ≤ i → u6.ownBlock ≠ some i := fun i hi e => by have := (O7.out.1.lt i e).2; omega
                    obtain ⟨v8, w8, hrun8, ho8, hb8, hg8⟩ := ap8 1 (hO7.below hal) (one_bytes (w := wr) (x := x) hx2) (N := 1) rfl (Nat.le_trans (Nat.le_trans HB7.out.size HBL.out.size) hal.size) (by have := HPL.out; omega)
                    have hrx8 : RdX (fun i => W7.heap.size ≤ i) w8 B (cs8 out) := (RdX.belowX HRX.out hal).keep hg8.size (fun i hi hk => hg8.block i hk (fun e => hown i hi e.symm)) (fun _ h _ => h)
                    have hb08 : Below W0.heap.size W0 w8 := ((HB7.out.trans (HBL.out.mono HB7.out.size)).trans (hal.mono (Nat.le_trans HB7.out.size HBL.out.size))).trans hb8
                    obtain ⟨v9, w9, hrun9, ho9, hb9, _⟩ := ap8 cq ho8 (⟨hrx8.rd, H8.out⟩ : Rb w8 B out) HN.out hb08.size (by rw [List.length_append]; have := HPL.out; simp; omega)
                    have HX9 := Lib.hid (And.intro ho9 (hb08.trans hb9))
                    have HR8 := Lib.hid hrun8
                    have HR9 := Lib.hid hrun9
                    clear hx hal hO7 hown hrun8 ho8 hb8 hg8 hrx8 hb08 hrun9 ho9 hb9
                    go_upto_region 21 with (at_builtin; refine wpList_app rfl _ _ _ _ rfl _ _ rfl rfl HR8.out ?_)
                    go_wp2_with (at_builtin; refine wpList_app rfl _ _ _ _ rfl _ _ rfl rfl HR9.out ?_)
                    go_meet
                    exact ⟨by have := HX9.out.1; rw [HPB.out, HD2.out, HN.out, HX.out, show putL c n k ++ x :: out = putL c n k ++ [x] ++ out by simp]; exact this, HX9.out.2⟩
                  · have hupos : decide ((u : Int) > 0) = true := by simp; omega
                    obtain ⟨x, hx⟩ : ∃ x, u % 256 = x := ⟨_, rfl⟩
                    obtain ⟨u', hu'⟩ : ∃ u', u / 256 = u' := ⟨_, rfl⟩
                    have ht : (u : Int).tmod 256 = (x : Int) := by rw [← hx]; exact (Int.ofNat_tmod u 256).symm
                    have ht3 : ((u : Int) % 256) = (x : Int) := by omega
                    have hx2 : x < 256 := by omega
                    have hx3 : IntKind.u8.wrap (x : Int) = (x : Int) := by rw [IntKind.wrap_u8]; omega
                    have hu1 : (u : Int).tdiv 256 = (u' : Int) := by rw [← hu']; exact (Int.ofNat_tdiv u 256).symm
                    have hu3 : ((u : Int) / 256) = (u' : Int) := by omega
                    have hu2 : u' < u := by omega
                    obtain ⟨B2, N2, c2, w2, hrun, h20, hr2, h21, h22, hb2, hrx2⟩ := ap_front wr hx2 cq (⟨HRX.out.rd, H8.out⟩ : Rb wr B out) HN.out (by omega)
                    have HR := Lib.hid hrun
                    have HALL := Lib.hid (And.intro h20 (And.intro (RdX.since hrx2 HBL.out) (And.intro hr2.2 (And.intro h21 (And.intro h22 (HBL.out.trans (hb2.mono HBL.out.size)))))))
                    have HDN : Hid (dig cl = dig u' ++ (x :: out)) := Lib.hid (HD.out.trans (by rw [Len.dig_pos hu0, hu', hx, List.append_assoc]; rfl))
                    clear hr2 h20 h21 h22 hb2 hrx2 hx hu' hu0 hrun
                    go_wp2_with (at_builtin; refine wpList_app rfl _ _ _ _ rfl _ _ rfl rfl HR.out ?_)
                    exact ⟨⟨u', B2, x :: out, N2, c2, by omega, rfl, rfl, HALL.out.1, HALL.out.2.1, HALL.out.2.2.1, HALL.out.2.2.2.1, HALL.out.2.2.2.2.1, HDN.out, HALL.out.2.2.2.2.2⟩, by simp [intOf]; omega⟩
            case rest =>
              obtain ⟨how8, hb8⟩ := hcut
              generalize wc = W8 at *
              obtain ⟨v9, w9, hrun9, ho9, hb9, _⟩ := ap8 cc how8 (show Rb W8 AC C from RC.out.below hb8) HCL.out hb8.size (by rw [List.length_append]; have := HPL.out; have := (lput_le (m := cl) (by have := HSC.out; omega)).2; have := HSC.out; omega)
              have HX9 := Lib.hid (And.intro ho9 (hb8.trans hb9))
              clear how8 hb8 ho9 hb9
              go_wp2_with (at_builtin; refine wpList_app rfl _ _ _ _ rfl _ _ rfl rfl hrun9 ?_)
              go_ret
              rw [HE.out, ← List.append_assoc]
              obtain ⟨A9, N9, c9, rfl, q1, q2, q3, q4, _⟩ := HX9.out.1.opn
              exact ⟨A9, N9, c9, rfl, q1, q2, q3, q4, B2.out.trans (HX9.out.2.mono B2.out.size)⟩
end Go.Proofs.Ytfbdeefeagednaa.Fl
