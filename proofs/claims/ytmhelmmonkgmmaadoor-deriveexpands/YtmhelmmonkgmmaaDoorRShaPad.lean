/- The document's own SHA-256, its small parts: turn, constants, Padded. -/
import Derived.Test.YtmhelmmonkgmmaaDoorSParts
namespace Go.Proofs.YtmhelmmonkgmmaaDoor
open Go.RowKit
theorem refTurn_any (x : BitVec 32) (n : Nat) (w : World) (hn0 : 0 < n) (hn : n < 32) :
    Calls Tryd.prog 33 #[.int .u32 x.toNat, .int .u64 n] w fun e w' => e = .returned (.int .u32 ((rotR32 x n).toNat : Int)) ∧ w = w' := by
  have HR : Hid (bits .or .u32 ((x.toNat : Int) / 2 ^ n) ((x.toNat : Int) * 2 ^ (32 - n) % 4294967296) = ((rotR32 x n).toNat : Int)) := by
    show _ = _
    rw [rotr32 x n hn]
    unfold rotR32
    rw [show ((n : Int) % 32).toNat = n by omega]
  have h1 : (32 : Int) - n = ((32 - n : Nat) : Int) := by omega
  have h2 : ((32 : Int) - (n : Int)).toNat = 32 - n := by omega
  go_enter Tryd.func33, Tryd.ntmps33
  go_wp2
  go_ret
  exact ⟨ret_int HR.out, rfl⟩
theorem abc : shaSum [97, 98, 99] = [0xba, 0x78, 0x16, 0xbf, 0x8f, 0x01, 0xcf, 0xea, 0x41, 0x41, 0x40, 0xde, 0x5d, 0xae, 0x22, 0x23, 0xb0, 0x03, 0x61, 0xa3, 0x96, 0x17, 0x7a, 0x9c, 0xb4, 0x10, 0xff, 0x61, 0xf2, 0x00, 0x15, 0xad] := by decide +kernel
theorem kCells : (shaK.map wcell).toArray = #[.int .u32 1116352408, .int .u32 1899447441, .int .u32 3049323471, .int .u32 3921009573, .int .u32 961987163, .int .u32 1508970993, .int .u32 2453635748, .int .u32 2870763221, .int .u32 3624381080, .int .u32 310598401, .int .u32 607225278, .int .u32 1426881987, .int .u32 1925078388, .int .u32 2162078206, .int .u32 2614888103, .int .u32 3248222580, .int .u32 3835390401, .int .u32 4022224774, .int .u32 264347078, .int .u32 604807628, .int .u32 770255983, .int .u32 1249150122, .int .u32 1555081692, .int .u32 1996064986, .int .u32 2554220882, .int .u32 2821834349, .int .u32 2952996808, .int .u32 3210313671, .int .u32 3336571891, .int .u32 3584528711, .int .u32 113926993, .int .u32 338241895, .int .u32 666307205, .int .u32 773529912, .int .u32 1294757372, .int .u32 1396182291, .int .u32 1695183700, .int .u32 1986661051, .int .u32 2177026350, .int .u32 2456956037, .int .u32 2730485921, .int .u32 2820302411, .int .u32 3259730800, .int .u32 3345764771, .int .u32 3516065817, .int .u32 3600352804, .int .u32 4094571909, .int .u32 275423344, .int .u32 430227734, .int .u32 506948616, .int .u32 659060556, .int .u32 883997877, .int .u32 958139571, .int .u32 1322822218, .int .u32 1537002063, .int .u32 1747873779, .int .u32 1955562222, .int .u32 2024104815, .int .u32 2227730452, .int .u32 2361852424, .int .u32 2428436474, .int .u32 2756734187, .int .u32 3204031479, .int .u32 3329325298] := by rfl
set_option maxRecDepth 100000 in
theorem constants_any (w : World) : Calls Tryd.prog 31 #[] w fun e w' => e = .returned (.slice (some ⟨w.heap.size, 0, none⟩) 64 64) ∧ Below w.heap.size w w' ∧ Cells w' w.heap.size (shaK.map wcell) 61 := by
  have HN := Lib.hid (Cells.new w (shaK.map wcell).toArray 61)
  go_enter Tryd.func31, Tryd.ntmps31
  go_wp2
  rw [← kCells]
  go_ret
  exact ⟨rfl, (Below.refl _ _).alloc (Nat.le_refl _) _, by simpa using HN.out⟩
theorem pad_go (n j : Nat) (hj : j < shaPad n - 1) : ¬ ((n : Int) + 1 + j) % 64 = 56 := by unfold shaPad at hj; omega
theorem pad_stop (n : Nat) : ((n : Int) + 1 + ((shaPad n - 1 : Nat) : Int)) % 64 = 56 := by unfold shaPad; omega
set_option maxRecDepth 100000 in
theorem padded_any (A : Option Addr) (c n : Nat) (bs : List UInt8) (w : World) (hl : bs.length = n) (hr : Row w w.heap.size A bs) (hA : A = none → c = 0) (hn : n ≤ 900000) :
    Calls Tryd.prog 32 #[.slice A n c] w (GivesNew w (shaPadded bs)) := by
  have HL := Lib.hid hl
  have h0 := Owns.lit (base := w.heap.size) w [] (Nat.le_refl _) (by simp)
  have H0 := Lib.hid h0
  clear h0 hl
  have hM : ∀ (W : World) (u : UInt8), Row (W.alloc (.cells #[cellOf u] 5)) (W.heap.size + 1) (some ⟨W.heap.size, 0, none⟩) [u] := fun W u => (Made.new W [u]).row (by omega)
  have HM := Lib.hid hM
  clear hM
  go_enter Tryd.func32, Tryd.ntmps32
  go_wp2_with (first
    | (at_builtin
       refine append_row rfl (.tmp 6) (.tmp 7) rfl w.heap.size _ [] bs w.heap.size A c rfl H0.out (by rw [HL.out]; rfl) hA (hr.below ((Below.refl _ _).alloc (Nat.le_refl _) _)) (by simp [HL.out]; omega) (by simp) ?_
       intro v1 w1 hown1 hB1)
    | (at_builtin
       refine append_row rfl (.tmp 8) (.tmp 9) rfl w.heap.size _ ([] ++ bs) [128] (w1.heap.size + 1) (some ⟨w1.heap.size, 0, none⟩) 1 rfl (hown1.kept_alloc _) rfl (fun h => by cases h) (HM.out w1 128) (by simp [HL.out]; omega) (by have := hB1.size; simp at this ⊢; omega) ?_
       intro v2 w2 hown2 hB2))
  have hB3 : Below w.heap.size w w1 := ((Below.refl _ _).alloc (Nat.le_refl _) _).trans hB1
  have hB4 := (hB3.alloc hB3.size (.cells #[.int .u8 128] 5)).trans hB2
  have hO4 : Owns w2 w.heap.size v2 (bs ++ 128 :: List.replicate 0 0) := by simpa using hown2
  clear hB1 hB2 hB3 hown1 hown2
  go_loopw [3] (fun v wr => ∃ j : Nat, j ≤ shaPad n - 1 ∧ Below w.heap.size w wr ∧ Owns wr w.heap.size v (bs ++ 128 :: List.replicate j 0)) (fun v _ => (120 - lenOf v % 64) % 64)
  case atStart => exact ⟨0, Nat.zero_le _, hB4, hO4⟩
  case round =>
    clear hB4 hO4
    obtain ⟨j, hj, hB, hO⟩ := hrel
    have HJ : Hid ((bs ++ 128 :: List.replicate j 0).length = n + 1 + j) := by show _ = _; rw [List.length_append, HL.out, List.length_cons, List.length_replicate]; omega
    obtain ⟨g1, c1, hv, hc1, hc2, hg1, hR1⟩ := hO.form_pos (by rw [HJ.out]; omega)
    rw [HJ.out] at hv hc1
    have hz := hB.size
    have hpp := shaPad_pos n
    by_cases hlt : j < shaPad n - 1
    · have hq := pad_go n j hlt
      have HS := Lib.hid (show bs ++ 128 :: List.replicate j 0 ++ [0] = bs ++ 128 :: List.replicate (j + 1) 0 by rw [List.append_assoc, List.cons_append, ← List.replicate_succ'])
      have HQ : Hid (¬ (n + 1 + j) % 64 = 56) := by show ¬ _; omega
      have hq2 : (((n + 1 + j : Nat) : Int) % 64 != 56) = true := by simp; omega
      clear hq
      subst hv
      generalize hLL : n + 1 + j = L at *
      replace hLL := Lib.hid hLL
      go_wp2_with (first | (at_builtin
                            refine append_row rfl (.tmp 15) (.tmp 16) rfl w.heap.size _ (bs ++ 128 :: List.replicate j 0) [0] (wr.heap.size + 1) (some ⟨wr.heap.size, 0, none⟩) 1 rfl (hO.kept_alloc _) rfl (fun h => by cases h) (HM.out wr 0) (by rw [HJ.out]; have := hLL.out; simp; omega) (by simp; omega) ?_
                            intro v3 w3 hown3 hB3))
      go_roundw
      case rel => exact ⟨j + 1, by omega, (hB.alloc hz _).trans hB3, by rw [← HS.out]; exact hown3⟩
      case measure =>
        obtain ⟨A3, c3, hv3, _⟩ := hown3.form
        subst hv3
        have h1 := HQ.out
        have h2 : (bs ++ 128 :: List.replicate j 0 ++ [0]).length = L + 1 := by rw [List.length_append, HJ.out]; rfl
        simp only [lenOf]
        rw [h2]
        omega
    · obtain rfl : j = shaPad n - 1 := by omega
      have hq := pad_stop n
      have hq2 : (((n + 1 + (shaPad n - 1) : Nat) : Int) % 64 != 56) = false := by simp; omega
      have HX : Hid (bs ++ 128 :: List.replicate (shaPad n - 1) 0 ++ (putL (8 * n) 8).reverse = shaPadded bs) := by
        show _ = _
        unfold shaPadded shaEnd
        rw [HL.out, List.append_assoc]; rfl
      clear hq
      subst hv
      generalize hbb : bs ++ 128 :: List.replicate (shaPad n - 1) 0 = xs at *
      generalize hLL : n + 1 + (shaPad n - 1) = L at *
      have hL2 : L ≤ 900064 := by omega
      replace hLL := Lib.hid hLL
      replace hbb := Lib.hid hbb
      go_wp2_with fail
      go_loopw [3, 5] (fun v i wr => ∃ k : Nat, k ≤ 8 ∧ i = .int .i64 (7 - (k : Int)) ∧ Below w.heap.size w wr ∧ Owns wr w.heap.size v (xs ++ putB (8 * n) 8 k)) (fun _ i _ => (intOf i + 1).toNat)
      case atStart => exact ⟨0, by omega, rfl, hB, by simpa [putB] using hO⟩
      case round =>
        clear hB hO hR1 hc1 hz
        obtain ⟨k, hk, rfl, hB, hO⟩ := hrel
        have hz := hB.size
        by_cases hlt2 : k < 8
        · have HS := Lib.hid (show xs ++ putB (8 * n) 8 k ++ [byteAt (8 * n) (7 - k)] = xs ++ putB (8 * n) 8 (k + 1) by rw [putB_succ, List.append_assoc])
          have HY : Hid ((n : Int) * 8 / 2 ^ (8 * (7 - k)) % 256 = ((byteAt (8 * n) (7 - k)).toNat : Int)) := by
            have h := byte_shr (8 * n) (7 - k)
            rw [show ((8 * n : Nat) : Int) = (n : Int) * 8 by omega] at h
            exact h
          have HZ : Hid ((7 : Int) - (k : Int) = ((7 - k : Nat) : Int)) := by show _ = _; omega
          have HZ2 : Hid ((xs ++ putB (8 * n) 8 k).length = L + k) := by show _ = _; rw [List.length_append, HJ.out, putB_length]
          rw [HZ.out]
          generalize hmm : 7 - k = m at *
          replace hmm := Lib.hid hmm
          have hm7 : m ≤ 7 := by have := hmm.out; omega
          go_wp2_with (first | (at_builtin
                                rw [HY.out]
                                refine append_row rfl (.tmp 26) (.tmp 33) rfl w.heap.size _ (xs ++ putB (8 * n) 8 k) [byteAt (8 * n) m] (wr.heap.size + 1) (some ⟨wr.heap.size, 0, none⟩) 1 rfl (hO.kept_alloc _) rfl (fun h => by cases h) (HM.out wr _) (by rw [HZ2.out]; simp; omega) (by simp; omega) ?_
                                intro v3 w3 hown3 hB3))
          go_roundw
          case rel => exact ⟨k + 1, by omega, by have := hmm.out; congr 1; omega, (hB.alloc hz _).trans hB3, by rw [← HS.out]; exact hown3⟩
          case measure => simp [intOf]
        · obtain rfl : k = 8 := by omega
          rw [putB_rev, HX.out] at hO
          go_wp2_with fail
          go_ret
          obtain ⟨g', c', hv, _, _, hg', hR⟩ := hO.form_pos (by rw [shaPadded_length]; omega)
          exact ⟨g', c', by rw [← hv]; rfl, hg', hB, hR⟩
end Go.Proofs.YtmhelmmonkgmmaaDoor
