/- The document's own SHA-512, its small parts: turn, constants, Padded. -/
import Derived.Test.YtpbkjphdkdlhjaaDoorVSum
namespace Go.Proofs.YtpbkjphdkdlhjaaDoor
open Go.RowKit
theorem refTurn64_any (x : BitVec 64) (n : Nat) (w : World) (hn0 : 0 < n) (hn : n < 64) :
    Calls Tryd.prog 17 #[.int .u64 x.toNat, .int .u64 n] w fun e w' => e = .returned (.int .u64 ((rotR64 x n).toNat : Int)) ∧ w = w' := by
  have HR : Hid (bits .or .u64 ((x.toNat : Int) / 2 ^ n) ((x.toNat : Int) * 2 ^ (64 - n) % 18446744073709551616) = ((rotR64 x n).toNat : Int)) := by
    show _ = _
    rw [rotr64 x n hn]
    unfold rotR64
    rw [show ((n : Int) % 64).toNat = n by omega]
  have h1 : (64 : Int) - n = ((64 - n : Nat) : Int) := by omega
  have h2 : ((64 : Int) - (n : Int)).toNat = 64 - n := by omega
  go_enter Tryd.func17, Tryd.ntmps17
  go_wp2
  go_ret
  refine ⟨ret_int ?_, rfl⟩
  first
  | exact HR.out
  | (rw [IntKind.wrap_u64]; exact HR.out)
theorem wideK_build (w : World) : (Instr.buildSlice 51 80 ((List.range 80).zip (widK.map vcell)).toArray).run Tryd.prog w = .ok (.slice (some ⟨w.heap.size, 0, none⟩) 80 80) (w.alloc (.cells (widK.map vcell).toArray 40)) := by kernel_rfl
set_option maxRecDepth 100000 in
theorem wideConstants_any (w : World) : Calls Tryd.prog 16 #[] w fun e w' => e = .returned (.slice (some ⟨w.heap.size, 0, none⟩) 80 80) ∧ Below w.heap.size w w' ∧ Cells w' w.heap.size (widK.map vcell) 40 := by
  go_enter Tryd.func16, Tryd.ntmps16
  go_wp2_with (refine slice_step rfl 51 80 _ rfl ((List.range 80).zip (widK.map vcell)) rfl 40 _ wideK_build ?_
               intro w1 hw1
               have hB1 : Below w.heap.size w w1 := by rw [hw1]; exact (Below.refl _ _).alloc (Nat.le_refl _) _
               have hC1 : Cells w1 w.heap.size (widK.map vcell) 40 := by rw [hw1]; exact Cells.new w _ _
               clear hw1)
  go_ret
  exact ⟨rfl, hB1, hC1⟩
theorem wpad_go (n j : Nat) (hj : j < widPad n - 1) : ¬ ((n : Int) + 1 + j) % 128 = 112 := by unfold widPad at hj; omega
theorem wpad_stop (n : Nat) : ((n : Int) + 1 + ((widPad n - 1 : Nat) : Int)) % 128 = 112 := by unfold widPad; omega
set_option maxRecDepth 100000 in
theorem widePadded_any (A : Option Addr) (c n : Nat) (bs : List UInt8) (w : World) (hl : bs.length = n) (hr : Row w w.heap.size A bs) (hA : A = none → c = 0) (hn : n ≤ 900000) :
    Calls Tryd.prog 11 #[.slice A n c] w (GivesNew w (widPadded bs)) := by
  have HL := Lib.hid hl
  have h0 := Owns.lit (base := w.heap.size) w [] (Nat.le_refl _) (by simp)
  have H0 := Lib.hid h0
  clear h0 hl
  have hM : ∀ (W : World) (u : UInt8), Row (W.alloc (.cells #[cellOf u] 5)) (W.heap.size + 1) (some ⟨W.heap.size, 0, none⟩) [u] := fun W u => (Made.new W [u]).row (by omega)
  have HM := Lib.hid hM
  clear hM
  go_enter Tryd.func11, Tryd.ntmps11
  go_wp2_with (first
    | (at_builtin
       refine append_row rfl (.tmp 6) (.tmp 7) rfl w.heap.size _ [] bs w.heap.size A c rfl H0.out (by rw [HL.out]; rfl) hA (hr.below ((Below.refl _ _).alloc (Nat.le_refl _) _)) (by simp [HL.out]; omega) (by simp) ?_
       intro v1 w1 hown1 hB1)
    | (at_builtin
       refine append_row rfl (.tmp 8) (.tmp 9) rfl w.heap.size _ ([] ++ bs) [128] (w1.heap.size + 1) (some ⟨w1.heap.size, 0, none⟩) 1 rfl (hown1.kept_alloc _) rfl (fun h => by cases h) (HM.out w1 128) (by simp [HL.out]; omega) (by have := hB1.size; simp at this ⊢; omega) ?_
       intro v2 w2 hown2 hB2))
  have hB3 : Below w.heap.size w w1 := ((Below.refl _ _).alloc (Nat.le_refl _) _).trans hB1
  have hB4 := (hB3.alloc hB3.size (.cells #[.int .u8 128] 5)).trans hB2
  have hO4 : Owns w2 w.heap.size v2 (bs ++ 128 :: List.replicate 0 0) := by simpa using hown2
  clear hB1 hB2 hB3 hown1 hown2
  go_loopw [3] (fun v wr => ∃ j : Nat, j ≤ widPad n - 1 ∧ Below w.heap.size w wr ∧ Owns wr w.heap.size v (bs ++ 128 :: List.replicate j 0)) (fun v _ => (240 - lenOf v % 128) % 128)
  case atStart => exact ⟨0, Nat.zero_le _, hB4, hO4⟩
  case round =>
    clear hB4 hO4
    obtain ⟨j, hj, hB, hO⟩ := hrel
    have HJ : Hid ((bs ++ 128 :: List.replicate j 0).length = n + 1 + j) := by show _ = _; rw [List.length_append, HL.out, List.length_cons, List.length_replicate]; omega
    obtain ⟨g1, c1, hv, hc1, hc2, hg1, hR1⟩ := hO.form_pos (by rw [HJ.out]; omega)
    rw [HJ.out] at hv hc1
    have hz := hB.size
    have hpp := widPad_pos n
    by_cases hlt : j < widPad n - 1
    · have hq := wpad_go n j hlt
      have HS := Lib.hid (show bs ++ 128 :: List.replicate j 0 ++ [0] = bs ++ 128 :: List.replicate (j + 1) 0 by rw [List.append_assoc, List.cons_append, ← List.replicate_succ'])
      have HQ : Hid (¬ (n + 1 + j) % 128 = 112) := by show ¬ _; omega
      have hq2 : (((n + 1 + j : Nat) : Int) % 128 != 112) = true := by simp; omega
      clear hq
      subst hv
      generalize hLL : n + 1 + j = L at *
      replace hLL := Lib.hid hLL
      go_wp2_with (first | (at_builtin
                            refine append_row rfl (.tmp 15) (.tmp 16) rfl w.heap.size _ (bs ++ 128 :: List.replicate j 0) [0] (wr.heap.size + 1) (some ⟨wr.heap.size, 0, none⟩) 1 rfl (hO.kept_alloc _) rfl (fun h => by cases h) (HM.out wr 0) (by rw [HJ.out]; have := hLL.out; simp; omega) (by simp; omega) ?_
                            intro v3 w3 hown3 hB3))
      go_roundw
      case rel => exact ⟨j + 1, by omega, (hB.alloc hz _).trans hB3, by rw [← HS.out]; exact hown3⟩
      case measure =>
        obtain ⟨A3, c3, hv3, _⟩ := hown3.form
        subst hv3
        have h1 := HQ.out
        have h2 : (bs ++ 128 :: List.replicate j 0 ++ [0]).length = L + 1 := by rw [List.length_append, HJ.out]; rfl
        simp only [lenOf]
        rw [h2]
        omega
    · obtain rfl : j = widPad n - 1 := by omega
      have hq := wpad_stop n
      have hq2 : (((n + 1 + (widPad n - 1) : Nat) : Int) % 128 != 112) = false := by simp; omega
      have HX : Hid (bs ++ 128 :: List.replicate (widPad n - 1) 0 ++ [0, 0, 0, 0, 0, 0, 0, 0] ++ (putL (8 * n) 8).reverse = widPadded bs) := by
        show _ = _
        unfold widPadded widEnd
        rw [HL.out, List.append_assoc, List.append_assoc]
        simp
      clear hq
      subst hv
      generalize hbb : bs ++ 128 :: List.replicate (widPad n - 1) 0 = xs at *
      generalize hLL : n + 1 + (widPad n - 1) = L at *
      have hL2 : L ≤ 900200 := by omega
      replace hLL := Lib.hid hLL
      replace hbb := Lib.hid hbb
      have hM8 : ∀ (W : World), Row (W.alloc (.cells #[.int .u8 0, .int .u8 0, .int .u8 0, .int .u8 0, .int .u8 0, .int .u8 0, .int .u8 0, .int .u8 0] 5)) (W.heap.size + 1) (some ⟨W.heap.size, 0, none⟩) [0, 0, 0, 0, 0, 0, 0, 0] := fun W => (Made.new W [0, 0, 0, 0, 0, 0, 0, 0]).row (by omega)
      have HM8 := Lib.hid hM8
      clear hM8
      go_wp2_with (first | (at_builtin
                            refine append_row rfl (.tmp 18) (.tmp 19) rfl w.heap.size _ xs [0, 0, 0, 0, 0, 0, 0, 0] (wr.heap.size + 1) (some ⟨wr.heap.size, 0, none⟩) 8 rfl (hO.kept_alloc _) rfl (fun h => by cases h) (HM8.out wr) (by rw [HJ.out]; simp; omega) (by simp; omega) ?_
                            intro v4 w4 hown4 hB4))
      have HJ4 : Hid ((xs ++ [0, 0, 0, 0, 0, 0, 0, 0]).length = L + 8) := by show _ = _; rw [List.length_append, HJ.out]; rfl
      have hB5 := (hB.alloc hz (.cells #[.int .u8 0, .int .u8 0, .int .u8 0, .int .u8 0, .int .u8 0, .int .u8 0, .int .u8 0, .int .u8 0] 5)).trans hB4
      clear hB4 hB hO
      generalize hzz : xs ++ [0, 0, 0, 0, 0, 0, 0, 0] = zs at *
      go_loopw [3, 5] (fun v i wr => ∃ k : Nat, k ≤ 8 ∧ i = .int .i64 (7 - (k : Int)) ∧ Below w.heap.size w wr ∧ Owns wr w.heap.size v (zs ++ putB (8 * n) 8 k)) (fun _ i _ => (intOf i + 1).toNat)
      case atStart => exact ⟨0, by omega, rfl, hB5, by simpa [putB] using hown4⟩
      case round =>
        clear hB5 hown4 hR1 hc1 hz
        obtain ⟨k, hk, rfl, hB, hO⟩ := hrel
        have hz := hB.size
        by_cases hlt2 : k < 8
        · have HS := Lib.hid (show zs ++ putB (8 * n) 8 k ++ [byteAt (8 * n) (7 - k)] = zs ++ putB (8 * n) 8 (k + 1) by rw [putB_succ, List.append_assoc])
          have HY : Hid ((n : Int) * 8 / 2 ^ (8 * (7 - k)) % 256 = ((byteAt (8 * n) (7 - k)).toNat : Int)) := by
            have h := byte_shr (8 * n) (7 - k)
            rw [show ((8 * n : Nat) : Int) = (n : Int) * 8 by omega] at h
            exact h
          have HZ : Hid ((7 : Int) - (k : Int) = ((7 - k : Nat) : Int)) := by show _ = _; omega
          have HZ2 : Hid ((zs ++ putB (8 * n) 8 k).length = L + 8 + k) := by show _ = _; rw [List.length_append, HJ4.out, putB_length]
          rw [HZ.out]
          generalize hmm : 7 - k = m at *
          replace hmm := Lib.hid hmm
          have hm7 : m ≤ 7 := by have := hmm.out; omega
          go_wp2_with (first | (at_builtin
                                rw [HY.out]
                                refine append_row rfl (.tmp 29) (.tmp 36) rfl w.heap.size _ (zs ++ putB (8 * n) 8 k) [byteAt (8 * n) m] (wr.heap.size + 1) (some ⟨wr.heap.size, 0, none⟩) 1 rfl (hO.kept_alloc _) rfl (fun h => by cases h) (HM.out wr _) (by rw [HZ2.out]; simp; omega) (by simp; omega) ?_
                                intro v3 w3 hown3 hB3))
          go_roundw
          case rel => exact ⟨k + 1, by omega, by have := hmm.out; congr 1; omega, (hB.alloc hz _).trans hB3, by rw [← HS.out]; exact hown3⟩
          case measure => simp [intOf]
        · obtain rfl : k = 8 := by omega
          rw [putB_rev, HX.out] at hO
          go_wp2_with fail
          go_ret
          obtain ⟨g', c', hv, _, _, hg', hR⟩ := hO.form_pos (by rw [widPadded_length]; omega)
          exact ⟨g', c', by rw [← hv]; rfl, hg', hB, hR⟩
end Go.Proofs.YtpbkjphdkdlhjaaDoor
