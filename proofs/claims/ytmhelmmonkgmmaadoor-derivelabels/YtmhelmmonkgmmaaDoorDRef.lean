/- The document's own answers of layer 5: fellowshipref05.Expand, Info, Label, Secret. -/
import Derived.Test.YtmhelmmonkgmmaaDoorDLabel
import Derived.Test.YtmhelmmonkgmmaaDoorMRef
import Derived.Deep.RegionHeld3
namespace Go.Proofs.YtmhelmmonkgmmaaDoor
open Go.RowKit
/-- What a call answers that makes a new row of these bytes. -/
def GivesF (w : World) (bs : List UInt8) (n : Nat) (e : Ending) (w' : World) : Prop :=
  ∃ b c, e = .returned (.slice (some ⟨b, 0, none⟩) n c) ∧ w.heap.size ≤ b ∧ n ≤ c ∧ c ≤ maxLen ∧ Row w' w'.heap.size (some ⟨b, 0, none⟩) bs ∧ Below w.heap.size w w'
set_option maxRecDepth 100000 in
set_option maxHeartbeats 800000 in
theorem expandRef_any (A B : Option Addr) (c n d m x : Nat) (key info : List UInt8) (w : World) (hl : key.length = n) (hr : Row w w.heap.size A key) (hA : A = none → c = 0) (hn : n ≤ 900000)
    (hbl : info.length = m) (hb : Row w w.heap.size B info) (hB : B = none → d = 0) (hm : m ≤ 700000) (hx : x ≤ 8160) :
    Calls Tryd.prog 13 #[.slice A n c, .slice B m d, .int .i64 (x : Int)] w (GivesF w (hkdf key info x) x) := by
  have HL := Lib.hid hl
  have HBL := Lib.hid hbl
  clear hl hbl
  have h1 := Owns.lit (base := w.heap.size) w [] (Nat.le_refl _) (by simp)
  have b1 : Below w.heap.size w (w.alloc (.cells (rowCells []) 5)) := (Below.refl _ _).alloc (Nat.le_refl _) _
  have z1 : (w.alloc (.cells (rowCells []) 5)).heap.size = w.heap.size + 1 := by simp
  have HE : Hid (rowCells [] = #[]) := rfl
  rw [HE.out] at h1 b1 z1
  have h2 := h1.on ((Below.refl _ _).alloc (Nat.le_refl _) (.cells #[] 5))
  have b2 := b1.alloc b1.size (.cells #[] 5)
  have HO2 := Lib.hid h2
  have HB2 := Lib.hid b2
  clear h1 h2 b1 b2 z1
  go_enter Tryd.func13, Tryd.ntmps13
  go_wp2_with fail
  generalize (w.alloc (.cells #[] 5)).alloc (.cells #[] 5) = w2 at *
  go_loopw [7, 8, 9, 10] (fun v7 v8 i _ wr => ∃ (k : Nat) (A8 : Option Addr) (n8 c8 : Nat) (g l cap : Nat), k ≤ 255 ∧ i = .int .i64 ((k : Int) + 1) ∧ l = 32 * k ∧ v7 = .slice (some ⟨g, 0, none⟩) l cap ∧ v8 = .slice A8 n8 c8 ∧ Below w.heap.size w wr ∧ Owns wr w.heap.size (.slice (some ⟨g, 0, none⟩) l cap) (hkAll key info k) ∧ Part wr wr.heap.size (.slice A8 n8 c8) (hkT key info k)) (fun v7 _ _ _ _ => x - lenOf v7)
  case atStart => exact ⟨0, _, 0, 0, w.heap.size, 0, 0, Nat.zero_le _, rfl, rfl, rfl, rfl, HB2.out, HO2.out, .mk rfl .nil (fun h => by cases h) (Nat.le_refl _) (Nat.zero_le _)⟩
  case round =>
    obtain ⟨k, A8, n8, c8, g, l, cap, hk, rfl, hlk, rfl, rfl, hB3, hO3, hP3⟩ := hrel
    have HLK := Lib.hid hlk
    by_cases hlt : l < x
    · have hk254 : k ≤ 254 := by omega
      have i1 : (l : Int) < (x : Int) := by omega
      clear hlk hlt hk
      obtain ⟨A', c', hv, hrt, _, _, hAt⟩ := hP3
      injection hv with e1 e2 e3
      subst e1 e3
      have HN8 := Lib.hid e2
      clear e2
      have HT8 := Lib.hid (hkT_le key info k)
      have HTL := Lib.hid (hkT_length key info k)
      have HAN := Lib.hid (hkAll_next key info k)
      have HAL := Lib.hid (hkAll_length key info k)
      have HTN := Lib.hid (hkT_next key info k)
      have hO4 := Owns.lit (base := wr.heap.size) wr [] (Nat.le_refl _) (by simp)
      have hb4 : Below wr.heap.size wr (wr.alloc (.cells (rowCells []) 5)) := (Below.refl _ _).alloc (Nat.le_refl _) _
      rw [HE.out] at hO4 hb4
      have HO4 := Lib.hid hO4
      have HB4 := Lib.hid hb4
      clear hO4 hb4
      have hM : ∀ W : World, Row (W.alloc (.cells #[.int .u8 ((k : Int) + 1)] 5)) (W.heap.size + 1) (some ⟨W.heap.size, 0, none⟩) [UInt8.ofNat (k + 1)] := fun W => by
        have e8 : cellOf (UInt8.ofNat (k + 1)) = .int .u8 ((k : Int) + 1) := by
          show Value.int .u8 _ = _
          rw [UInt8.toNat_ofNat']
          congr 1
          omega
        rw [← e8]
        exact row_lit W [UInt8.ofNat (k + 1)] (0, 0)
      have HM := Lib.hid hM
      clear hM
      generalize hT : hkT key info k = tk at *
      replace hT := Lib.hid hT
      go_wp2_with (first
        | (at_builtin
           refine append_row rfl (.tmp 20) (.tmp 21) rfl wr.heap.size _ [] tk _ A8 c8 rfl HO4.out (by rw [← HN8.out]; rfl) hAt (hrt.on HB4.out) (by have := HT8.out; simp; omega) HB4.out.size ?_
           intro v5 w5 hO5 hb5
           rw [List.nil_append] at hO5
           replace hb5 := HB4.out.trans hb5
           clear HO4 HB4)
        | (at_builtin
           refine append_row rfl (.tmp 22) (.tmp 23) rfl wr.heap.size _ tk info _ B d rfl hO5 (by rw [HBL.out]; rfl) hB ((hb.on hB3).on hb5) (by rw [HBL.out]; have := HT8.out; omega) hb5.size ?_
           intro v6 w6 hO6 hb6
           replace hb6 := hb5.trans hb6
           clear hb5 hO5)
        | (at_builtin
           refine append_row rfl (.tmp 24) (.tmp 27) rfl wr.heap.size _ (tk ++ info) [UInt8.ofNat (k + 1)] _ _ 1 rfl (hO6.kept_alloc _) rfl (fun h => by cases h) (HM.out w6) (by rw [List.length_append, HBL.out]; have := HT8.out; simp; omega) (by have := hb6.size; simp; omega) ?_
           intro v7 w7 hO7 hb7
           replace hb7 := (hb6.alloc hb6.size _).trans hb7
           clear hb6 hO6))
      obtain ⟨A7, c7, hv7, _, _, hA7, hR7⟩ := hO7.form2
      obtain ⟨L7, hL7⟩ : ∃ L7, (tk ++ info ++ [UInt8.ofNat (k + 1)]).length = L7 := ⟨_, rfl⟩
      rw [hL7] at hv7
      have hLm : L7 ≤ 800000 := by rw [List.length_append, List.length_append, HBL.out] at hL7; have := HT8.out; simp at hL7; omega
      have HL7 := Lib.hid hL7
      subst hv7
      have hB7 := below_then hB3 hb7
      have hO8 := hO3.on hb7
      clear hL7 hO7 hb7 hB3 hO3 hrt HM
      refine (macRef_any A A7 c n c7 L7 key _ w7 HL.out (hr.on hB7) hA hn HL7.out hR7 hA7 hLm).mono ?_
      rintro e w8 ⟨rfl, hb8⟩
      rw [← HTN.out]
      have hB8 := below_then hB7 hb8
      have hO9 := hO8.on hb8
      have hg9 := (World.ownsRow.lt hO9 g rfl)
      clear hB7 hO8 hb8 hR7 HL7
      generalize hTn : hkT key info (k + 1) = tn at *
      replace hTn := Lib.hid hTn
      go_wp2_with (first
        | (refine put_step rfl rfl 29 (.tmp 10) (.tmp 29) rfl rfl 32 tn rfl rfl zero_r32 size_r32 HTL.out ?_
           intro w9 hb9 hC9 hz9
           have hB9 := below_then hB8 hb9
           have hO10 := hO9.on hb9
           clear hb9 hz9 hO9)
        | (at_builtin
           refine append_but rfl (.tmp 31) (.tmp 32) rfl w.heap.size g l cap (hkAll key info k) tn w9.heap.size (some ⟨w8.heap.size, 0, none⟩) 32 32 rfl hO10 rfl HTL.out (fun h => by cases h) hC9.all (by rw [HAL.out]; omega) hB9.size ?_
           intro v11 w11 hO11 hbut11
           rw [← HAN.out] at hO11
           obtain ⟨g5, c5, hv5, hc5, hm5, hg5, hR5⟩ := hO11.form_pos (by rw [hkAll_length]; omega)
           rw [hkAll_length] at hv5
           subst hv5))
      go_roundw
      case rel =>
        refine ⟨k + 1, _, 32, 32, g5, _, c5, by omega, by go_num, rfl, rfl, rfl, hB9.trans (hbut11.below hg9.1 hB9.size), hO11, ?_⟩
        rw [hTn.out]
        exact .mk HTL.out (hC9.all.but hbut11 (fun _ p hp => by cases hp; show w8.heap.size ≠ g; omega)) (fun h => by cases h) (Nat.le_refl _) (by unfold maxLen; omega)
      case measure =>
        have := HLK.out
        show x - lenOf (Value.slice _ _ _) < x - lenOf (Value.slice _ _ _)
        simp only [lenOf]
        omega
    · have i1 : ¬ (l : Int) < (x : Int) := by omega
      have hO4 := hO3.cutTo x (by omega)
      rw [hkdf_of key info k x hk (by omega)] at hO4
      obtain ⟨A', c', hv, h1, h2, h3, h4⟩ := hO4.form2
      injection hv with e1 e2 e3
      have HC : Hid (x ≤ cap) := by show _ ≤ _; rw [← e2] at h1; rw [e3]; exact h1
      subst e1 e3
      have HG := Lib.hid (hO3.far g rfl)
      clear hlk hP3 e2
      go_wp2_with (first
        | (refine cut_to rfl (.tmp 34) (.tmp 35) rfl (some ⟨g, 0, none⟩) l cap x _ rfl rfl rfl HC.out ?_
           rw [cutA_zero]))
      go_ret
      exact ⟨g, cap, rfl, HG.out, HC.out, h2, h4, hB3⟩
end Go.Proofs.YtmhelmmonkgmmaaDoor
