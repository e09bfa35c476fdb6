/-
  Package tags: the contract of Text.
  Conditions: the variables hold what the program's text lays.
-/
import Derived.Test.YtcaolgcpcjodnaaDoorTagI
namespace Go.Proofs.YtcaolgcpcjodnaaDoor
open Go.RowKit

/-- The text of a valid tag. -/
def ttext (c n : Nat) (k : Bool) : List Nat := (cname c ++ [32]) ++ textL n ++ (if k then [32, 99, 111, 110, 115, 116, 114, 117, 99, 116, 101, 100] else [])
theorem str_lit (l : List Nat) : (⟨(l.map UInt8.ofNat).toArray⟩ : ByteArray) = bstr l := rfl

theorem lt_of_cell {w : World} {g o : Nat} {v : Value} (h : w.cell? ⟨g, o, none⟩ = some v) : g < w.heap.size := by
  rcases Nat.lt_or_ge g w.heap.size with h1 | h1
  · exact h1
  · unfold World.cell? at h
    simp only [Array.getElem?_eq_none h1] at h
    cases h
theorem keepT {w1 w' w2 : World} {p q s r : Addr} {x y t z : Value} (h0 : w1.cell? p = some x) (h1 : w1.cell? q = some y) (h3 : w1.cell? s = some t) (h2 : w1.cell? r = some z) (hp : p.block < w1.heap.size) (hr : r.block < w1.heap.size) (hb : Below w1.heap.size w1 w') (hb2 : Below w'.heap.size w' w2) (hq : q.block = p.block := by rfl) (hs : s.block = p.block := by rfl) :
    w2.cell? p = some x ∧ w2.cell? q = some y ∧ w2.cell? s = some t ∧ w2.cell? r = some z ∧ Below w1.heap.size w1 w2 := by
  have hB := hb.trans (hb2.mono hb.size)
  exact ⟨(hB.cell hp).trans h0, (hB.cell (by rw [hq]; exact hp)).trans h1, (hB.cell (by rw [hs]; exact hp)).trans h3, (hB.cell hr).trans h2, hB⟩
set_option maxRecDepth 100000 in
set_option maxHeartbeats 2000000 in
theorem text_ok (c n : Nat) (k : Bool) (w : World) (hE : Env w) (hc : c < 256) (hn : n < 4294967296) (h : chk c n k = 0) :
    Calls Tryd.prog 16 #[tagV c n k] w fun e w' => e = .returned (.string (bstr (ttext c n k))) ∧ Below w.heap.size w w' := by
  have hc3 := (chk_zero h).1
  have H0 := Lib.hid h
  have HEn := Lib.hid hE
  have hnm := hE.cls_cell c hc3
  have hnl := cname_le c
  have htl := textL_le (u := n) (by omega)
  obtain ⟨S, hS⟩ : ∃ S, cname c = S := ⟨_, rfl⟩
  obtain ⟨T, hT⟩ : ∃ T, textL n = T := ⟨_, rfl⟩
  rw [hS] at hnm hnl
  rw [hT] at htl
  have HS := Lib.hid hS
  have HT := Lib.hid hT
  have hds : (⟨(Lib.decDigits n).toArray⟩ : ByteArray) = bstr T := by rw [dec_str, hT]
  have HDs := Lib.hid hds
  clear hE h hS hT hds
  have ha1 : bstr S ++ ⟨#[32]⟩ = bstr (S ++ [32]) := bstr_app S [32]
  obtain ⟨S1, hS1⟩ : ∃ S1, S ++ [32] = S1 := ⟨_, rfl⟩
  obtain ⟨U, hU⟩ : ∃ U, S1 ++ T = U := ⟨_, rfl⟩
  have hS1l : S1.length ≤ 12 := by rw [← hS1]; simp; omega
  have hUl : U.length ≤ 32 := by rw [← hU]; simp; omega
  have ha2 : bstr S1 ++ bstr T = bstr U := by rw [← hU]; exact bstr_app _ _
  rw [hS1] at ha1
  have HTT := Lib.hid (show ttext c n k = U ++ (if k then [32, 99, 111, 110, 115, 116, 114, 117, 99, 116, 101, 100] else []) by rw [ttext, HS.out, HT.out, hS1, hU])
  have ha3 : bstr U ++ ⟨#[32, 99, 111, 110, 115, 116, 114, 117, 99, 116, 101, 100]⟩ = bstr (U ++ [32, 99, 111, 110, 115, 116, 114, 117, 99, 116, 101, 100]) := bstr_app U [32, 99, 111, 110, 115, 116, 114, 117, 99, 116, 101, 100]
  have hz3 : ¬ 9223372036854775807 < (bstr U).size + (⟨#[32, 99, 111, 110, 115, 116, 114, 117, 99, 116, 101, 100]⟩ : ByteArray).size := by rw [bstr_size]; show ¬ _ < U.length + 12; omega
  clear hS1 hU
  have hz1 : ¬ 9223372036854775807 < (bstr S).size + (⟨#[32]⟩ : ByteArray).size := by rw [bstr_size]; show ¬ _ < S.length + 1; omega
  have hz2 : ¬ 9223372036854775807 < (bstr S1).size + (bstr T).size := by rw [bstr_size, bstr_size]; omega
  go_enter Tryd.func16, Tryd.ntmps16
  go_wp2_with (go_at_call 11; refine (check_any c n k _ hc hn).mono ?_; rintro e w1 ⟨rfl, hb⟩; rw [H0.out]; obtain ⟨c0, c1, c2, hsz⟩ := tag_cells hb; have HB := Lib.hid (((Below.refl w.heap.size w).alloc (Nat.le_refl _) _).trans (hb.mono (by simp))); clear hb)
  have hgl : w1.cell? ⟨0, c, none⟩ = some (.string (bstr S)) := by
    obtain ⟨hcl, _⟩ := (⟨HB.out.cell (p := ⟨0, c, none⟩) (lt_of_cell hnm), trivial⟩ : _ ∧ True)
    exact hcl.trans hnm
  have hgs := lt_of_cell hgl
  clear hnm
  have hb1 := Below.refl w1.heap.size w1
  have hn64 : n < 18446744073709551616 := by omega
  have hci : (c : Int) < 4 := by omega
  have hcn : c < 4 := by omega
  have hz1' : ¬ 9223372036854775807 < (bstr S).size + 1 := by rw [bstr_size]; omega
  have hwr : IntKind.u64.wrap (n : Int) = (n : Int) := by rw [IntKind.wrap_u64]; omega
  go_region_held3 (fun w' => w'.cell? ⟨w.heap.size, 0, none⟩ = some (.int .u8 (c : Int)) ∧ w'.cell? ⟨w.heap.size, 1, none⟩ = some (.bool k) ∧ w'.cell? ⟨w.heap.size, 2, none⟩ = some (.int .u32 (n : Int)) ∧ w'.cell? ⟨0, c, none⟩ = some (.string (bstr S)) ∧ Below w1.heap.size w1 w')
    (first | exact ⟨c0, c1, c2, hgl, hb1.drew⟩ | exact ⟨‹_›, ‹_›, ‹_›, ‹_›, ‹_›⟩ | exact keepT c0 c1 c2 hgl hsz hgs hb1.drew ‹_›)
    (first | (go_at_call 27; refine (format_any n hn64 _ (var_below (HEn.out.below HB.out).tab hb1.drew)).mono ?_; rintro e w2 ⟨rfl, hb2⟩; rw [HDs.out]))
  all_goals clear hwr hn64
  all_goals cases k
  all_goals go_wp2_with fail
  all_goals go_ret
  all_goals rename_i hH
  all_goals refine ⟨?_, HB.out.trans (hH.2.2.2.2.mono (Nat.le_of_lt hsz))⟩
  all_goals first | (rw [HTT.out, if_neg (by simp), List.append_nil]; rfl) | (rw [show ttext c n true = U ++ [32, 99, 111, 110, 115, 116, 114, 117, 99, 116, 101, 100] from HTT.out.trans (by simp)]; rfl)

set_option maxHeartbeats 1000000 in
theorem text_bad (c n : Nat) (k : Bool) (w : World) (hc : c < 256) (hn : n < 4294967296) (h : chk c n k ≠ 0) :
    Calls Tryd.prog 16 #[tagV c n k] w fun e w' => e = .returned (.string (bstr [63])) ∧ Below w.heap.size w w' := by
  have h1 : ((chk c n k : Int) != 0) = true := by rw [bne_iff_ne]; omega
  obtain ⟨e0, he⟩ : ∃ e0, chk c n k = e0 := ⟨_, rfl⟩
  have HE := Lib.hid he
  rw [he] at h1
  clear he h
  go_enter Tryd.func16, Tryd.ntmps16
  go_wp2_with (go_at_call 11; refine (check_any c n k _ hc hn).mono ?_; rintro e w1 ⟨rfl, hb⟩; rw [HE.out]; have HB := Lib.hid hb; clear hb)
  go_ret
  exact ⟨rfl, ((Below.refl _ _).alloc (Nat.le_refl _) _).trans (HB.out.mono (by simp))⟩
end Go.Proofs.YtcaolgcpcjodnaaDoor
