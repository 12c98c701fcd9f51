/- The walks of package shawide's small functions and of a block's words. -/
import Derived.Test.YtpbkjphdkdlhjaaDoorVMath
import Derived.Test.YtpbkjphdkdlhjaaDoorWParts
import Derived.IntWalk
import Derived.Deep.WholeRow
import Derived.Deep.QuietTactic
import Derived.BigQuiet
namespace Go.Proofs.YtpbkjphdkdlhjaaDoor
open Go.RowKit
theorem turns64_any (x : BitVec 64) (i j k : Int) (w : World) :
    Calls Tryd.prog 23 #[.int .u64 x.toNat, .int .i64 i, .int .i64 j, .int .i64 k] w fun e w' => e = .returned (.int .u64 ((tri64 x i j k).toNat : Int)) ∧ w = w' := by
  go_enter Tryd.func23, Tryd.ntmps23
  go_wp2_with (go_at_call 28; refine (right64_any _ _ _).mono ?_; rintro e w' ⟨rfl, rfl⟩)
  go_ret
  exact ⟨ret_int (by rw [xor64, xor64]; rfl), rfl⟩
theorem turns64_same (x : BitVec 64) (i j k : Int) (w : World) :
    Calls Tryd.prog 23 #[.int .u64 x.toNat, .int .i64 i, .int .i64 j, .int .i64 k] w fun e w' => e = .returned (.int .u64 ((tri64 x i j k).toNat : Int)) ∧ w' = w :=
  (turns64_any x i j k w).mono fun _ _ ⟨h1, h2⟩ => ⟨h1, h2.symm⟩
theorem wideBig_any (A : Option Addr) (c : Nat) (bs : List UInt8) (w : World) (hr : Row w w.heap.size A bs) (hn : bs.length = 8) :
    Calls Tryd.prog 27 #[.slice A 8 c] w fun e w' => e = .returned (.int .u64 ((BitVec.ofNat 64 (bigN bs)).toNat : Int)) ∧ w = w' := by
  have h := big_few A c bs w hr (by omega)
  rw [hn] at h
  have hb := bigN_lt bs
  rw [hn] at hb
  have HC := Lib.hid h
  clear h hn
  go_enter Tryd.func27, Tryd.ntmps27
  go_wp2_with fail
  refine HC.out.mono ?_
  rintro e w' ⟨rfl, rfl⟩
  go_wp2
  go_ret
  exact ⟨ret_int (by rw [BitVec.toNat_ofNat]; omega), rfl⟩
set_option maxRecDepth 100000 in
theorem widePutBig_any (g off len cap x : Nat) (vs : List Value) (t : TypeId) (w : World) (hC : Cells w g vs t) (hx : x < 18446744073709551616) (hl : 8 ≤ len) (ho : off + 8 ≤ vs.length) :
    Calls Tryd.prog 24 #[.slice (some ⟨g, off, none⟩) len cap, .int .u64 x] w fun e w' => e = .returned (.tuple #[]) ∧ But g w w' ∧ Cells w' g (splice vs off (bigCells x 8)) t := by
  have HL : Hid ((putL x 8).reverse.length = 8) := by show _ = _; rw [List.length_reverse, putL_length]
  have HM : Hid (min 8 len = 8) := by show _ = _; omega
  have HT : Hid ((putL x 8).reverse.take len = (putL x 8).reverse) := by show _ = _; rw [List.take_of_length_le (by rw [HL.out]; omega)]
  go_enter Tryd.func24, Tryd.ntmps24
  go_wp2_with fail
  refine (putBig_in x 8 w hx (by omega)).mono ?_
  rintro e w1 ⟨rfl, hB1, hM1⟩
  have hC1 := hC.below hB1 hC.lt
  have hR1 := hM1.row hM1.lt
  have hT1 := hC1.there off 8 ho
  go_wp2_with (refine copy_row rfl (.tmp 11) (.tmp 12) rfl g off len cap 8 8 w1.heap.size 8 _ (putL x 8).reverse rfl rfl HL.out HM.out hR1 hT1 ?_
               intro w2 hw2
               rw [HT.out] at hw2
               have hB2 : But g w1 w2 := by rw [hw2]; exact (But.refl g w1).setCells _ _
               have hC2 : Cells w2 g (splice vs off (bigCells x 8)) t := by rw [hw2]; exact hC1.setCells (by rw [List.length_map, HL.out]; exact ho)
               clear hw2)
  go_end0
  exact ⟨rfl, (But.of_below hB1).trans hB2, hC2⟩
/-- A word as a cell holds it. -/
abbrev vcell (x : BitVec 64) : Value := .int .u64 (x.toNat : Int)
theorem size_u64 : (Tryd.prog.info? 40).map (·.size) = some 1 := by kernel_rfl
theorem zero_w80 : ∀ w, (zeroValue 59).run Tryd.prog w = .ok (.agg (List.replicate 80 (vcell 0)).toArray) w := (zero_of_info (P := Tryd.prog) (t := 59) (v := .agg (List.replicate 80 (vcell 0)).toArray) (n := 80) (by kernel_rfl)).1
theorem size_w80 : (Tryd.prog.info? 59).map (·.size) = some 80 := by kernel_rfl
/-- The 80 words on their way. -/
def wideTo (bs : List UInt8) (k : Nat) : List Value := (widSpread bs k).map vcell ++ List.replicate (80 - k) (vcell 0)
theorem wideTo_length (bs : List UInt8) (k : Nat) (h : k ≤ 80) : (wideTo bs k).length = 80 := by simp [wideTo, widSpread_length]; omega
theorem wideTo_next (bs : List UInt8) (k : Nat) (h : k < 80) (x : BitVec 64) (hx : x = if k < 16 then widWord bs k else widNext (widSpread bs k) k) : (wideTo bs k).set k (vcell x) = wideTo bs (k + 1) := by
  subst hx
  rw [wideTo, set_nextV _ k 80 _ _ (by simp [widSpread_length]) h, wideTo, widSpread, List.map_append]
  rfl
theorem wideTo_at (bs : List UInt8) (k j : Nat) (h : j < k) : (wideTo bs k)[j]? = some (vcell ((widSpread bs k).getD j 0)) := by
  rw [wideTo, List.getElem?_append_left (by simp [widSpread_length]; omega), List.getElem?_map, List.getElem?_eq_getElem (by rw [widSpread_length]; omega)]
  simp [List.getD, widSpread_length, h]
/-- 'b[l:h]' of a block of 128 bytes. -/
theorem block_cut (g l h : Nat) (w : World) (h1 : l < h) (h2 : h ≤ 128) :
    (Instr.sliceAt 48 (.pointer (some ⟨g, 0, none⟩)) (some (.int .i64 (l : Int))) (some (.int .i64 (h : Int))) none).run Tryd.prog w = .ok (.slice (some ⟨g, l, none⟩) (h - l) (128 - l)) w := by
  obtain ⟨i0, hi0, hs0⟩ := Option.map_eq_some_iff.1 size_u8
  have h3 : (h : Int) ≤ 128 := by omega
  have h4 : (l : Int) ≤ (h : Int) := by omega
  have h5 : ¬ 128 = l := by omega
  simp [Instr.sliceAt, Instr.sureAddr, run_underlying Tryd.underlying48, Instr.sliceBounds, run_sliceBound, sizeOf, typeInfo, hi0, hs0, h3, h4, h5, Addr.add]
  exact fun e => e.symm
set_option maxRecDepth 100000 in
theorem wideSpread_any (bs : List UInt8) (vs : List Value) (w : World) (hv : vs = bs.map cellOf) (hn : bs.length = 128) :
    Calls Tryd.prog 22 #[.agg vs.toArray] w fun e w' => e = .returned (.agg ((widSpread bs 80).map vcell).toArray) ∧ Below w.heap.size w w' := by
  have HN := Lib.hid hn
  have HV := Lib.hid hv
  clear hn hv
  go_enter Tryd.func22, Tryd.ntmps22
  go_wp2_with (first
    | (refine box_step rfl 48 _ rfl vs.toArray rfl ?_
       intro w1 hw1
       have hB1 : Below w.heap.size w w1 := by rw [hw1]; exact (Below.refl _ _).alloc (Nat.le_refl _) _
       have hC1 : Cells w1 w.heap.size vs 48 := by rw [hw1]; exact Cells.new w _ _
       have hs1 : w1.heap.size = w.heap.size + 1 := by rw [hw1]; simp
       clear hw1)
    | (refine alloc_step rfl 59 rfl _ zero_w80 ?_
       first
       | (intro w2 hw2
          have hB2 : Below w.heap.size w w2 := by rw [hw2]; exact hB1.alloc hB1.size _
          have hC2 : Cells w2 w.heap.size vs 48 := by rw [hw2]; exact hC1.alloc _
          have hD2 : Cells w2 (w.heap.size + 1) (List.replicate 80 (vcell 0)) 59 := by rw [hw2, ← hs1]; exact Cells.new w1 _ _
          have hs2 : w2.heap.size = w.heap.size + 2 := by rw [hw2]; simp [hs1]
          rw [hs1]
          clear hw2 hB1 hC1)
       | (intro w3 hw3
          have hB3 : Below w.heap.size w w3 := by rw [hw3]; exact hB2.alloc hB2.size _
          have hC3 : Cells w3 w.heap.size vs 48 := by rw [hw3]; exact hC2.alloc _
          have hD3 : Cells w3 (w.heap.size + 1) (List.replicate 80 (vcell 0)) 59 := by rw [hw3]; exact hD2.alloc _
          have hE3 : Cells w3 (w.heap.size + 2) (wideTo bs 0) 59 := by rw [hw3, ← hs2]; exact Cells.new w2 _ _
          rw [hs2]
          clear hw3 hB2 hC2 hD2 hs1 hs2)))
  go_loopw [10] (fun i wr => ∃ k : Nat, k ≤ 16 ∧ i = .int .i64 k ∧ Below w.heap.size w wr ∧ Cells wr w.heap.size vs 48 ∧ Cells wr (w.heap.size + 1) (List.replicate 80 (vcell 0)) 59 ∧ Cells wr (w.heap.size + 2) (wideTo bs k) 59) (fun i _ => 16 - (intOf i).toNat)
  case atStart => exact ⟨0, Nat.zero_le _, rfl, hB3, hC3, hD3, hE3⟩
  case round =>
    clear hB3 hC3 hD3 hE3
    obtain ⟨k, hk, rfl, hB, hC, hR, hS⟩ := hrel
    by_cases hlt : k < 16
    · have hcut := block_cut w.heap.size (8 * k) (8 * (k + 1)) wr (by omega) (by omega)
      rw [show 8 * (k + 1) - 8 * k = 8 by omega, show ((8 * k : Nat) : Int) = 8 * (k : Int) by omega, show ((8 * (k + 1) : Nat) : Int) = 8 * ((k : Int) + 1) by omega] at hcut
      have hrow : Row wr wr.heap.size (some ⟨w.heap.size, 0, none⟩) bs := hC.row (m := 128) (by rw [HV.out, List.take_of_length_le (by rw [List.length_map, HN.out]; omega)])
      go_wp2_with fail
      refine (wideBig_any _ _ ((bs.drop (8 * k)).take 8) _ (by have h := hrow.piece (8 * k) 8; rw [Nat.zero_add] at h; exact h) (by have := HN.out; rw [List.length_take, List.length_drop]; omega)).mono ?_
      rintro e w' ⟨rfl, rfl⟩
      have hf := hS.frozen k
      obtain ⟨v3, hc3⟩ : ∃ v, wr.cell? ⟨w.heap.size + 2, k, none⟩ = some v := ⟨_, hS.cell k (by rw [wideTo_length _ _ (by omega)]; omega)⟩
      go_wp2
      go_roundw
      case rel =>
        refine ⟨k + 1, by omega, by go_num, hB.setCell (p := ⟨w.heap.size + 2, k, none⟩) (by simp) _, hC.other (by simp) _, hR.other (by simp) _, ?_⟩
        have h := hS.set k (vcell (widWord bs k))
        rw [wideTo_next bs k (by omega) _ (by rw [if_pos hlt])] at h
        exact h
      case measure => simp [intOf]; omega
    · obtain rfl : k = 16 := by omega
      go_wp2_with fail
      rw [show ((16 : Nat) : Int) = 16 from rfl]
      have d16 : decide ((16 : Int) < 16) = false := by decide
      try rw [d16]
      clear d16 hC
      go_loopw [5] (fun i wr => ∃ k : Nat, 16 ≤ k ∧ k ≤ 80 ∧ i = .int .i64 k ∧ Below w.heap.size w wr ∧ Cells wr (w.heap.size + 1) (List.replicate 80 (vcell 0)) 59 ∧ Cells wr (w.heap.size + 2) (wideTo bs k) 59) (fun i _ => 80 - (intOf i).toNat)
      case atStart => exact ⟨16, by omega, by omega, rfl, hB, hR, hS⟩
      case round =>
        clear hB hR hS
        obtain ⟨k, hk1, hk2, rfl, hB, hR, hS⟩ := hrel
        by_cases hlt : k < 80
        · have c15 := hS.get (wideTo_at bs k (k - 15) (by omega))
          have c2 := hS.get (wideTo_at bs k (k - 2) (by omega))
          have c16 := hS.get (wideTo_at bs k (k - 16) (by omega))
          have c7 := hS.get (wideTo_at bs k (k - 7) (by omega))
          have HX : Hid (widNext (widSpread bs k) k = (widSpread bs k).getD (k - 16) 0 + widLow ((widSpread bs k).getD (k - 15) 0) + (widSpread bs k).getD (k - 7) 0 + widHigh ((widSpread bs k).getD (k - 2) 0)) := rfl
          generalize (widSpread bs k).getD (k - 15) 0 = x15 at *
          generalize (widSpread bs k).getD (k - 2) 0 = x2 at *
          generalize (widSpread bs k).getD (k - 16) 0 = x16 at *
          generalize (widSpread bs k).getD (k - 7) 0 = x7 at *
          have i15 : (0 : Int) ≤ (k : Int) - 15 := by omega
          have j15 : (k : Int) - 15 < 80 := by omega
          have t15 : ((k : Int) - 15).toNat = k - 15 := by omega
          have i2 : (0 : Int) ≤ (k : Int) - 2 := by omega
          have j2 : (k : Int) - 2 < 80 := by omega
          have t2 : ((k : Int) - 2).toNat = k - 2 := by omega
          have i16 : (0 : Int) ≤ (k : Int) - 16 := by omega
          have j16 : (k : Int) - 16 < 80 := by omega
          have t16 : ((k : Int) - 16).toNat = k - 16 := by omega
          have i7 : (0 : Int) ≤ (k : Int) - 7 := by omega
          have j7 : (k : Int) - 7 < 80 := by omega
          have t7 : ((k : Int) - 7).toNat = k - 7 := by omega
          have hf := hS.frozen k
          obtain ⟨v3, hc3⟩ : ∃ v, wr.cell? ⟨w.heap.size + 2, k, none⟩ = some v := ⟨_, hS.cell k (by rw [wideTo_length _ _ (by omega)]; omega)⟩
          go_wp2
          go_quiet (fail)
          go_wp2_with (go_at_call 28; refine (right64_any _ _ _).mono ?_; rintro e w' ⟨rfl, rfl⟩)
          refine wp_region_tail 15 (by kernel_rfl) (by kernel_rfl) ?_
          intro w1 hw1
          have hB1 : Below w.heap.size w w1 := by rw [hw1]; exact (below_drewN hB nq).drew
          have hR1 : Cells w1 (w.heap.size + 1) (List.replicate 80 (vcell 0)) 59 := by rw [hw1]; exact hR
          have hS1 : Cells w1 (w.heap.size + 2) (wideTo bs k) 59 := by rw [hw1]; exact hS
          have d16 : w1.cell? ⟨w.heap.size + 2, k - 16, none⟩ = some (vcell x16) := by rw [hw1]; exact c16
          have d7 : w1.cell? ⟨w.heap.size + 2, k - 7, none⟩ = some (vcell x7) := by rw [hw1]; exact c7
          have df := hS1.frozen k
          obtain ⟨v4, dc3⟩ : ∃ v, w1.cell? ⟨w.heap.size + 2, k, none⟩ = some v := ⟨_, hS1.cell k (by rw [wideTo_length _ _ (by omega)]; omega)⟩
          clear hw1 hB hR hS c15 c2 c16 c7 hf hc3
          simp only [List.take_succ_cons, List.take_zero, List.drop_succ_cons, List.drop_zero]
          have s16 : IntKind.i64.wrap ((k : Int) - 16) = (k : Int) - 16 := IntWalk.i64_in _ (by omega)
          have s7 : IntKind.i64.wrap ((k : Int) - 7) = (k : Int) - 7 := IntWalk.i64_in _ (by omega)
          have m16 : (16 : Int) ≤ (k : Int) := by omega
          have m7 : (7 : Int) ≤ (k : Int) := by omega
          repeat still_step
          clear s16 s7
          refine wpStill_nil ?_
          go_wp2
          go_roundw
          case rel =>
            refine ⟨k + 1, by omega, by omega, by go_num, hB1.setCell (p := ⟨w.heap.size + 2, k, none⟩) (by simp) _, hR1.other (by simp) _, ?_⟩
            have e7 := shr64 x15 7
            have e6 := shr64 x2 6
            rw [show (2 : Int) ^ 7 = 128 from rfl] at e7
            rw [show (2 : Int) ^ 6 = 64 from rfl] at e6
            rw [e7, e6, xor64, xor64, xor64, xor64, wadd64, wadd64, wadd64]
            have h := hS1.set k (vcell (widNext (widSpread bs k) k))
            rw [wideTo_next bs k (by omega) _ (by rw [if_neg (by omega)]), HX.out] at h
            exact h
          case measure => simp [intOf]; omega
        · obtain rfl : k = 80 := by omega
          have hv : (wideTo bs 80).length = 80 := wideTo_length _ _ (Nat.le_refl _)
          have HV := Lib.hid (show wideTo bs 80 = (widSpread bs 80).map vcell by simp [wideTo])
          generalize wideTo bs 80 = vs at *
          have hi : (Tryd.prog.info? 59).map (·.size) = some vs.toArray.size := by
            rw [List.size_toArray, hv]
            exact size_w80
          have hT : wr.there (w.heap.size + 1) 0 vs.toArray.size := by rw [show vs.toArray.size = 80 by simpa using hv]; exact hR.there 0 80 (by simp)
          have h1 : vs.toArray.all (·.oneCell') = true := all_oneCell_toArray (by rw [HV.out]; intro v hv; obtain ⟨x, _, rfl⟩ := List.mem_map.1 hv; rfl)
          have HL := Lib.hid hv
          clear hv
          go_wp2_with (first
            | (refine wpList_load_row rfl 59 _ rfl (w.heap.size + 2) rfl 59 _ (0, 0) _ hS Tryd.underlying59 rfl hi ?_)
            | (refine wpList_store_mid rfl 59 _ _ rfl (w.heap.size + 1) 0 vs.toArray rfl rfl hT hi h1 ?_))
          have hC := hR.setCells (cs := vs) (o := 0) (by simp [HL.out])
          rw [splice_all _ _ (by simp [HL.out])] at hC
          refine ret_block Tryd.results22 (w.heap.size + 1) vs 59 rfl hC Tryd.underlying59 rfl (by simpa using hi) rfl ⟨by rw [HV.out], below_setCells hB (by omega) _ _⟩
end Go.Proofs.YtpbkjphdkdlhjaaDoor
