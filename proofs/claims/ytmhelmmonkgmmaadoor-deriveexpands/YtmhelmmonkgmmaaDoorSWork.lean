/- The walks of package sha's small functions and of one block's work. -/
import Derived.Test.YtmhelmmonkgmmaaDoorSMath
import Derived.Test.YtmhelmmonkgmmaaDoorWCells
import Derived.IntWalk
namespace Go.Proofs.YtmhelmmonkgmmaaDoor
open Go.RowKit
theorem turns_any (x : BitVec 32) (i j k : Int) (w : World) :
    Calls Tryd.prog 45 #[.int .u32 x.toNat, .int .i64 i, .int .i64 j, .int .i64 k] w fun e w' => e = .returned (.int .u32 ((tri32 x i j k).toNat : Int)) ∧ w = w' := by
  go_enter Tryd.func45, Tryd.ntmps45
  go_wp2_with (go_at_call 48; refine (right_any _ _ _).mono ?_; rintro e w' ⟨rfl, rfl⟩)
  go_ret
  exact ⟨ret_int (by rw [xor32, xor32]; rfl), rfl⟩
theorem shaBig_any (A : Option Addr) (c : Nat) (bs : List UInt8) (w : World) (hr : Row w w.heap.size A bs) (hn : bs.length = 4) :
    Calls Tryd.prog 47 #[.slice A 4 c] w fun e w' => e = .returned (.int .u32 ((BitVec.ofNat 32 (bigN bs)).toNat : Int)) ∧ w = w' := by
  have h := big_few A c bs w hr (by omega)
  rw [hn] at h
  have hb := bigN_lt bs
  rw [hn] at hb
  have HC := Lib.hid h
  clear h hn
  go_enter Tryd.func47, Tryd.ntmps47
  go_wp2_with fail
  refine HC.out.mono ?_
  rintro e w' ⟨rfl, rfl⟩
  go_wp2
  go_ret
  exact ⟨ret_int (by rw [BitVec.toNat_ofNat]; omega), rfl⟩
/-- A word as a cell holds it. -/
abbrev wcell (x : BitVec 32) : Value := .int .u32 (x.toNat : Int)
theorem zerosW : (List.replicate 64 (wcell 0)).toArray = #[.int .u32 0, .int .u32 0, .int .u32 0, .int .u32 0, .int .u32 0, .int .u32 0, .int .u32 0, .int .u32 0, .int .u32 0, .int .u32 0, .int .u32 0, .int .u32 0, .int .u32 0, .int .u32 0, .int .u32 0, .int .u32 0, .int .u32 0, .int .u32 0, .int .u32 0, .int .u32 0, .int .u32 0, .int .u32 0, .int .u32 0, .int .u32 0, .int .u32 0, .int .u32 0, .int .u32 0, .int .u32 0, .int .u32 0, .int .u32 0, .int .u32 0, .int .u32 0, .int .u32 0, .int .u32 0, .int .u32 0, .int .u32 0, .int .u32 0, .int .u32 0, .int .u32 0, .int .u32 0, .int .u32 0, .int .u32 0, .int .u32 0, .int .u32 0, .int .u32 0, .int .u32 0, .int .u32 0, .int .u32 0, .int .u32 0, .int .u32 0, .int .u32 0, .int .u32 0, .int .u32 0, .int .u32 0, .int .u32 0, .int .u32 0, .int .u32 0, .int .u32 0, .int .u32 0, .int .u32 0, .int .u32 0, .int .u32 0, .int .u32 0, .int .u32 0] := by rfl
/-- The 64 words on their way. -/
def spreadTo (bs : List UInt8) (k : Nat) : List Value := (shaSpread bs k).map wcell ++ List.replicate (64 - k) (wcell 0)
theorem spreadTo_length (bs : List UInt8) (k : Nat) (h : k ≤ 64) : (spreadTo bs k).length = 64 := by simp [spreadTo, shaSpread_length]; omega
theorem spreadTo_next (bs : List UInt8) (k : Nat) (h : k < 64) (x : BitVec 32) (hx : x = if k < 16 then shaWord bs k else shaNext (shaSpread bs k) k) : (spreadTo bs k).set k (wcell x) = spreadTo bs (k + 1) := by
  subst hx
  rw [spreadTo, set_nextV _ k 64 _ _ (by simp [shaSpread_length]) h, spreadTo, shaSpread, List.map_append]
  rfl
theorem spreadTo_at (bs : List UInt8) (k j : Nat) (h : j < k) : (spreadTo bs k)[j]? = some (wcell ((shaSpread bs k).getD j 0)) := by
  rw [spreadTo, List.getElem?_append_left (by simp [shaSpread_length]; omega), List.getElem?_map, List.getElem?_eq_getElem (by rw [shaSpread_length]; omega)]
  simp [List.getD, shaSpread_length, h]
set_option maxRecDepth 100000 in
theorem spread_any (b off c : Nat) (bs : List UInt8) (w : World) (hr : Row w w.heap.size (some ⟨b, off, none⟩) bs) (hn : bs.length = 64) (hc : 64 ≤ c) (hc2 : c ≤ maxLen) :
    Calls Tryd.prog 44 #[.slice (some ⟨b, off, none⟩) 64 c] w fun e w' => e = .returned (.agg ((shaSpread bs 64).map wcell).toArray) ∧ Below w.heap.size w w' := by
  have HN := Lib.hid hn
  clear hn
  unfold maxLen at hc2
  go_enter Tryd.func44, Tryd.ntmps44
  go_wp2
  rw [← zerosW]
  have hS : Below w.heap.size w ((w.alloc (.cells (List.replicate 64 (wcell 0)).toArray 91)).alloc (.cells (List.replicate 64 (wcell 0)).toArray 91)) ∧ Cells ((w.alloc (.cells (List.replicate 64 (wcell 0)).toArray 91)).alloc (.cells (List.replicate 64 (wcell 0)).toArray 91)) w.heap.size (List.replicate 64 (wcell 0)) 91 ∧ Cells ((w.alloc (.cells (List.replicate 64 (wcell 0)).toArray 91)).alloc (.cells (List.replicate 64 (wcell 0)).toArray 91)) (w.heap.size + 1) (spreadTo bs 0) 91 := by
    refine ⟨((Below.refl _ _).alloc (Nat.le_refl _) _).alloc (by simp) _, ?_, ?_⟩
    · have := (Cells.new w (List.replicate 64 (wcell 0)).toArray 91).alloc (.cells (List.replicate 64 (wcell 0)).toArray 91)
      simpa using this
    · have := Cells.new (w.alloc (.cells (List.replicate 64 (wcell 0)).toArray 91)) (List.replicate 64 (wcell 0)).toArray 91
      simpa [spreadTo, shaSpread] using this
  generalize (w.alloc (.cells (List.replicate 64 (wcell 0)).toArray 91)).alloc (.cells (List.replicate 64 (wcell 0)).toArray 91) = w0 at *
  obtain ⟨hB0, hR0, hS0⟩ := hS
  go_loopw [10] (fun i wr => ∃ k : Nat, k ≤ 16 ∧ i = .int .i64 k ∧ Below w.heap.size w wr ∧ Cells wr w.heap.size (List.replicate 64 (wcell 0)) 91 ∧ Cells wr (w.heap.size + 1) (spreadTo bs k) 91) (fun i _ => 16 - (intOf i).toNat)
  case atStart => exact ⟨0, Nat.zero_le _, rfl, hB0, hR0, hS0⟩
  case round =>
    clear hB0 hR0 hS0
    obtain ⟨k, hk, rfl, hB, hR, hS⟩ := hrel
    by_cases hlt : k < 16
    · have e4 : 4 * (k + 1) - 4 * k = 4 := by omega
      go_wp2_with fail
      refine (shaBig_any _ _ ((bs.drop (4 * k)).take 4) _ ((hr.on hB).piece (4 * k) 4) (by have := HN.out; rw [List.length_take, List.length_drop]; omega)).mono ?_
      rintro e w' ⟨rfl, rfl⟩
      have hf := hS.frozen k
      obtain ⟨v3, hc3⟩ : ∃ v, wr.cell? ⟨w.heap.size + 1, k, none⟩ = some v := ⟨_, hS.cell k (by rw [spreadTo_length _ _ (by omega)]; omega)⟩
      go_wp2
      go_roundw
      case rel =>
        refine ⟨k + 1, by omega, by go_num, hB.setCell (p := ⟨w.heap.size + 1, k, none⟩) (Nat.le_succ _) _, ?_, ?_⟩
        · exact (Below.heap_setCell _ _ _ _ (by simp)).trans hR
        · have h := hS.set k (wcell (shaWord bs k))
          rw [spreadTo_next bs k (by omega) _ (by rw [if_pos hlt])] at h
          exact h
      case measure => simp [intOf]; omega
    · obtain rfl : k = 16 := by omega
      go_wp2_with fail
      rw [show ((16 : Nat) : Int) = 16 from rfl]
      have d16 : decide ((16 : Int) < 16) = false := by decide
      try rw [d16]
      clear d16
      go_loopw [5] (fun i wr => ∃ k : Nat, 16 ≤ k ∧ k ≤ 64 ∧ i = .int .i64 k ∧ Below w.heap.size w wr ∧ Cells wr w.heap.size (List.replicate 64 (wcell 0)) 91 ∧ Cells wr (w.heap.size + 1) (spreadTo bs k) 91) (fun i _ => 64 - (intOf i).toNat)
      case atStart => exact ⟨16, by omega, by omega, rfl, hB, hR, hS⟩
      case round =>
        clear hB hR hS
        obtain ⟨k, hk1, hk2, rfl, hB, hR, hS⟩ := hrel
        by_cases hlt : k < 64
        · have c15 := hS.get (spreadTo_at bs k (k - 15) (by omega))
          have c2 := hS.get (spreadTo_at bs k (k - 2) (by omega))
          have c16 := hS.get (spreadTo_at bs k (k - 16) (by omega))
          have c7 := hS.get (spreadTo_at bs k (k - 7) (by omega))
          have HX : Hid (shaNext (shaSpread bs k) k = (shaSpread bs k).getD (k - 16) 0 + shaLow ((shaSpread bs k).getD (k - 15) 0) + (shaSpread bs k).getD (k - 7) 0 + shaHigh ((shaSpread bs k).getD (k - 2) 0)) := rfl
          generalize (shaSpread bs k).getD (k - 15) 0 = x15 at *
          generalize (shaSpread bs k).getD (k - 2) 0 = x2 at *
          generalize (shaSpread bs k).getD (k - 16) 0 = x16 at *
          generalize (shaSpread bs k).getD (k - 7) 0 = x7 at *
          have i15 : (0 : Int) ≤ (k : Int) - 15 := by omega
          have j15 : (k : Int) - 15 < 64 := by omega
          have t15 : ((k : Int) - 15).toNat = k - 15 := by omega
          have i2 : (0 : Int) ≤ (k : Int) - 2 := by omega
          have j2 : (k : Int) - 2 < 64 := by omega
          have t2 : ((k : Int) - 2).toNat = k - 2 := by omega
          have i16 : (0 : Int) ≤ (k : Int) - 16 := by omega
          have j16 : (k : Int) - 16 < 64 := by omega
          have t16 : ((k : Int) - 16).toNat = k - 16 := by omega
          have i7 : (0 : Int) ≤ (k : Int) - 7 := by omega
          have j7 : (k : Int) - 7 < 64 := by omega
          have t7 : ((k : Int) - 7).toNat = k - 7 := by omega
          have hf := hS.frozen k
          obtain ⟨v3, hc3⟩ : ∃ v, wr.cell? ⟨w.heap.size + 1, k, none⟩ = some v := ⟨_, hS.cell k (by rw [spreadTo_length _ _ (by omega)]; omega)⟩
          go_wp2
          go_quiet (fail)
          go_wp2_with (go_at_call 48; refine (right_any _ _ _).mono ?_; rintro e w' ⟨rfl, rfl⟩)
          refine wp_region_tail 15 (by kernel_rfl) (by kernel_rfl) ?_
          intro w1 hw1
          have hB1 : Below w.heap.size w w1 := by rw [hw1]; exact (below_drewN hB nq).drew
          have hR1 : Cells w1 w.heap.size (List.replicate 64 (wcell 0)) 91 := by rw [hw1]; exact hR
          have hS1 : Cells w1 (w.heap.size + 1) (spreadTo bs k) 91 := by rw [hw1]; exact hS
          have d16 : w1.cell? ⟨w.heap.size + 1, k - 16, none⟩ = some (wcell x16) := by rw [hw1]; exact c16
          have d7 : w1.cell? ⟨w.heap.size + 1, k - 7, none⟩ = some (wcell x7) := by rw [hw1]; exact c7
          have df := hS1.frozen k
          obtain ⟨v4, dc3⟩ : ∃ v, w1.cell? ⟨w.heap.size + 1, k, none⟩ = some v := ⟨_, hS1.cell k (by rw [spreadTo_length _ _ (by omega)]; omega)⟩
          clear hw1 hB hR hS c15 c2 c16 c7 hf hc3
          simp only [List.take_succ_cons, List.take_zero, List.drop_succ_cons, List.drop_zero]
          have s16 : IntKind.i64.wrap ((k : Int) - 16) = (k : Int) - 16 := IntWalk.i64_in _ (by omega)
          have s7 : IntKind.i64.wrap ((k : Int) - 7) = (k : Int) - 7 := IntWalk.i64_in _ (by omega)
          have m16 : (16 : Int) ≤ (k : Int) := by omega
          have m7 : (7 : Int) ≤ (k : Int) := by omega
          repeat still_step
          clear s16 s7
          refine wpStill_nil ?_
          go_wp2
          go_roundw
          case rel =>
            refine ⟨k + 1, by omega, by omega, by go_num, hB1.setCell (p := ⟨w.heap.size + 1, k, none⟩) (Nat.le_succ _) _, hR1.other (by simp) _, ?_⟩
            have e8 := shr32 x15 3
            have e10 := shr32 x2 10
            rw [show (2 : Int) ^ 3 = 8 from rfl] at e8
            rw [show (2 : Int) ^ 10 = 1024 from rfl] at e10
            rw [e8, e10, xor32, xor32, xor32, xor32, add32_4]
            have h := hS1.set k (wcell (shaNext (shaSpread bs k) k))
            rw [spreadTo_next bs k (by omega) _ (by rw [if_neg (by omega)]), HX.out] at h
            exact h
          case measure => simp [intOf]; omega
        · obtain rfl : k = 64 := by omega
          have hv : (spreadTo bs 64).length = 64 := spreadTo_length _ _ (Nat.le_refl _)
          have HV := Lib.hid (show spreadTo bs 64 = (shaSpread bs 64).map wcell by simp [spreadTo])
          generalize spreadTo bs 64 = vs at *
          have hi : (Tryd.prog.info? 91).map (·.size) = some vs.toArray.size := by
            rw [List.size_toArray, hv]
            kernel_rfl
          have hi0 : (Tryd.prog.info? 91).map (·.size) = some (List.replicate 64 (wcell 0)).toArray.size := by
            rw [List.size_toArray, List.length_replicate]
            kernel_rfl
          have hT : wr.there w.heap.size 0 vs.toArray.size := by rw [show vs.toArray.size = 64 by simpa using hv]; exact hR.there 0 64 (by simp)
          have h1 : vs.toArray.all (·.oneCell') = true := all_oneCell_toArray (by rw [HV.out]; intro v hv; obtain ⟨x, _, rfl⟩ := List.mem_map.1 hv; rfl)
          have HL := Lib.hid hv
          clear hv
          go_wp2_with (first
            | (refine wpList_load_row rfl 91 _ rfl (w.heap.size + 1) rfl 91 _ (0, 0) _ hS Tryd.underlying91 rfl hi ?_)
            | (refine wpList_store_mid rfl 91 _ _ rfl w.heap.size 0 vs.toArray rfl rfl hT hi h1 ?_))
          have hC := hR.setCells (cs := vs) (o := 0) (by simp [HL.out])
          rw [splice_all _ _ (by simp [HL.out])] at hC
          refine ret_block Tryd.results44 w.heap.size vs 91 rfl hC Tryd.underlying91 rfl (by simpa using hi) rfl ⟨by rw [HV.out], below_setCells hB (Nat.le_refl _) _ _⟩
end Go.Proofs.YtmhelmmonkgmmaaDoor
