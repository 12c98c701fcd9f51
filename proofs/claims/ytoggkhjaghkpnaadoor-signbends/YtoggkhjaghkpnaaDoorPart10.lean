/- Part 10 of what the laws of this seat share: FWritten, FSmall, GNum, GMinus, GLeast, GCarry, GFold, GAdd, GTimes, GTimes2, GSub, GPower, GPowered, GInvert, GWords, GRead, GBytes, NOrder, AMath, TMath, GMasked, GHalf, GSmall, HSame, HAlive, HSteps, JPoint. -/
import Derived.IntWalk
import Derived.Deep.MidRow
import Derived.Test.YtoggkhjaghkpnaaDoorPart9
namespace Go.Proofs.YtoggkhjaghkpnaaDoor
open Go.RowKit
theorem splice_put (s p : List UInt8) (o : Nat) (hp : p.length = 8) : splice (s.map cellOf) o (p.map cellOf) = (s.take o ++ p ++ s.drop (o + 8)).map cellOf := by
  simp [splice, hp, List.map_take, List.map_drop]
set_option maxRecDepth 100000 in
set_option maxHeartbeats 4000000 in
theorem writtenF_over (n0 n1 n2 n3 n4 : Nat) (r : List UInt8) (P : Nat → List UInt8) (X : Nat → Nat) (w : World)
    (HV : Hid (bits .or .u64 (n0 : Int) (IntKind.u64.wrap ((n1 : Int) * 2251799813685248)) = (X 0 : Int) ∧ bits .or .u64 ((n1 : Int) / 8192) (IntKind.u64.wrap ((n2 : Int) * 274877906944)) = (X 1 : Int) ∧ bits .or .u64 ((n2 : Int) / 67108864) (IntKind.u64.wrap ((n3 : Int) * 33554432)) = (X 2 : Int) ∧ bits .or .u64 ((n3 : Int) / 549755813888) (IntKind.u64.wrap ((n4 : Int) * 4096)) = (X 3 : Int)))
    (HX : Hid (∀ k, X k < 18446744073709551616)) (H0 : Hid (P 0 = List.replicate 32 0)) (HL : Hid (∀ k, (P k).length = 32)) (HP : Hid (∀ k, k < 4 → P (k + 1) = (P k).take (8 * k) ++ putL (X k) 8 ++ (P k).drop (8 * k + 8))) (HR : Hid (P 4 = r)) :
    Calls Tryd.prog 73 #[numVal [n0, n1, n2, n3, n4]] w (gvn (hashVal r) w) := by
  have HRL : Hid (r.length = 32) := by show _ = _; rw [← HR.out]; exact HL.out 4
  go_enter Tryd.func73, Tryd.ntmps73
  go_wp2_with (first
    | (refine vtake_step rfl 42 (.tmp 0) rfl ([n0, n1, n2, n3, n4].map ncell) rfl ?_
       intro w1 hB1 hA1)
    | (refine zero_step (o := ⟨some 2, _, _, _, _, _⟩) rfl 23 rfl 32 zero_k32 ?_
       intro w2 hb2 hZ2 hz
       have hB2 := below_then hB1 hb2
       have hA2 := hA1.on hb2
       have hg1 := hA1.lt
       clear hB1 hA1 hb2 hz)
    | (refine zero_step (o := ⟨some 3, _, _, _, _, _⟩) rfl 23 rfl 32 zero_k32 ?_
       intro w3 hb3 hS3 hz
       have hB3 := below_then hB2 hb3
       have hA3 := hA2.on hb3
       have hZ3 := hZ2.on hb3
       have hg2 := hZ2.lt
       clear hB2 hA2 hZ2 hb3 hz))
  generalize hg : w1.heap.size = gz at *
  generalize hh : w2.heap.size = gs at *
  clear hg hh
  have j1 : IntKind.i64.wrap 1 = 1 := by decide
  have j2 : IntKind.i64.wrap 2 = 2 := by decide
  have j3 : IntKind.i64.wrap 3 = 3 := by decide
  have j4 : IntKind.i64.wrap 4 = 4 := by decide
  have j5 : IntKind.i64.wrap 51 = 51 := by decide
  have j6 : IntKind.i64.wrap 38 = 38 := by decide
  have j7 : IntKind.i64.wrap 25 = 25 := by decide
  have j8 : IntKind.i64.wrap 12 = 12 := by decide
  go_loopw [11] (fun i wr => ∃ k : Nat, k ≤ 4 ∧ i = .int .i64 k ∧ Below w.heap.size w wr ∧ Cells wr w.heap.size ([n0, n1, n2, n3, n4].map ncell) 42 ∧ Cells wr gz (List.replicate 32 (cellOf 0)) 23 ∧ Cells wr gs ((P k).map cellOf) 23) (fun i _ => 4 - (intOf i).toNat)
  case atStart => exact ⟨0, Nat.zero_le _, rfl, hB3, hA3, hZ3, by rw [H0.out, List.map_replicate]; exact hS3⟩
  case round =>
    clear hB3 hA3 hZ3 hS3
    obtain ⟨k, hk, rfl, hB, hA, hZ, hS⟩ := hrel
    have HLk := Lib.hid (HL.out k)
    by_cases hlt : k < 4
    · have HN := Lib.hid (HP.out k hlt)
      have HXk := Lib.hid (HX.out k)
      have CP := Lib.hid (fun W => putLittle_in (X k) 8 W (HX.out k) (by decide))
      obtain ⟨z, HZ⟩ := namedF (P (k + 1))
      rw [HZ.out] at HN
      have HVk := Lib.hid HV.out
      have d0 := hA.get (v := ncell n0) (j := 0) rfl
      have d1 := hA.get (v := ncell n1) (j := 1) rfl
      have d2 := hA.get (v := ncell n2) (j := 2) rfl
      have d3 := hA.get (v := ncell n3) (j := 3) rfl
      have d4 := hA.get (v := ncell n4) (j := 4) rfl
      generalize P k = s at *
      clear HV HX H0 HL HP HR HRL
      rcases (show k = 0 ∨ k = 1 ∨ k = 2 ∨ k = 3 by omega) with rfl | rfl | rfl | rfl
      all_goals
        simp only [Nat.mul_zero, Nat.reduceMul, Nat.reduceAdd, Nat.zero_add] at HN HZ
        go_wp2_with fail
        go_quiet (fail)
        first | rw [HVk.out.1] | rw [HVk.out.2.1] | rw [HVk.out.2.2.1] | rw [HVk.out.2.2.2]
        have hB4 : Below w.heap.size w (wr.drewN nq) := ⟨hB.os, hB.tape, hB.output, hB.size, hB.block⟩
        have hA4 := hA.drewN nq
        have hZ4 := hZ.drewN nq
        have hS4 := hS.drewN nq
        generalize wr.drewN nq = w4 at *
        clear hB hA hZ hS d0 d1 d2 d3 d4 HVk
        have hLs : (s.map cellOf).length = 32 := by rw [List.length_map, HLk.out]
        go_wp2_with fail
        refine (CP.out w4).mono ?_
        rintro e w5 ⟨rfl, hb5, hM5⟩
        have hB5 := below_then hB4 hb5
        have hA5 := hA4.on hb5
        have hZ5 := hZ4.on hb5
        have hS5 := hS4.on hb5
        clear CP hB4 hA4 hZ4 hS4 hb5
        go_wp2_with (first
          | (refine copy_row rfl (.tmp 40) (.tmp 41) rfl gs _ _ _ 8 8 w5.heap.size 8 (some ⟨w4.heap.size, 0, none⟩) _ rfl rfl (putL_length _ _) (by decide) (hM5.row hM5.lt) (hS5.there _ 8 (by rw [hLs]; decide)) ?_
             intro w6 hw6
             rw [List.take_of_length_le (by rw [putL_length]; decide)] at hw6
             have hb6 : But gs w5 w6 := by rw [hw6]; exact (But.refl gs w5).setCells _ _
             have hS6 : Cells w6 gs (z.map cellOf) 23 := by
               rw [hw6, HN.out, ← splice_put _ _ _ (putL_length _ 8)]
               exact hS5.setCells (by rw [List.length_map, putL_length, hLs]; decide)
             have hB6 := hB5.trans (hb6.below (by omega) hB5.size)
             have hA6 := hA5.but hb6 (by omega)
             have hZ6 := hZ5.but hb6 (by omega)
             clear hw6 hb6 hB5 hA5 hZ5 hS5 hM5))
        go_roundw
        case rel =>
          rw [← HZ.out] at hS6
          first | exact ⟨1, by omega, rfl, hB6, hA6, hZ6, hS6⟩ | exact ⟨2, by omega, rfl, hB6, hA6, hZ6, hS6⟩ | exact ⟨3, by omega, rfl, hB6, hA6, hZ6, hS6⟩ | exact ⟨4, by omega, rfl, hB6, hA6, hZ6, hS6⟩
        case measure => simp [intOf]
    · obtain rfl : k = 4 := by omega
      rw [HR.out] at hS
      go_wp2_with (first
        | (refine get_step rfl 23 _ rfl gs 32 r _ rfl hS Tryd.underlying23 size_k32 HRL.out ?_)
        | (refine set_step rfl 23 _ _ rfl gz 32 (List.replicate 32 (cellOf 0)) r rfl rfl hZ List.length_replicate size_k32 HRL.out ?_
           intro w7 hb7 hC7 _))
      exact ret_hash Tryd.results73 gz r rfl hC7 Tryd.underlying23 size_k32 HRL.out rfl ⟨rfl, hB.trans (hb7.below (by omega) hB.size)⟩
/-- A number's bytes, the low one first. -/
def keyB (n : Nat) : List UInt8 := putL n 32
theorem keyB_length (n : Nat) : (keyB n).length = 32 := putL_length n 32
theorem putL_div (x j : Nat) : ∀ k, putL x (j + k) = putL x j ++ putL (x / 256 ^ j) k
  | 0 => by rw [show putL (x / 256 ^ j) 0 = [] from rfl, List.append_nil, Nat.add_zero]
  | k + 1 => by
    rw [← Nat.add_assoc, putL_succ, putL_div x j k, putL_succ, List.append_assoc, byteAt, byteAt, Nat.div_div_eq_div_mul, Nat.pow_add]
theorem putL_mod (x k : Nat) (h : k ≤ 8) : putL (x % 18446744073709551616) k = putL x k := by
  rw [putL, putL]
  refine List.map_congr_left fun i hi => ?_
  have hi' : i < 8 := by have := List.mem_range.1 hi; omega
  rw [byteAt, byteAt, ← UInt8.toNat_inj, UInt8.toNat_ofNat', UInt8.toNat_ofNat']
  rcases (show i = 0 ∨ i = 1 ∨ i = 2 ∨ i = 3 ∨ i = 4 ∨ i = 5 ∨ i = 6 ∨ i = 7 by omega) with rfl | rfl | rfl | rfl | rfl | rfl | rfl | rfl <;> simp only [Nat.reducePow, Nat.pow_zero] <;> omega
/-- The four words of a number. -/
def word4 (n k : Nat) : Nat := n / 256 ^ (8 * k) % 18446744073709551616
theorem word4_0 (n : Nat) : word4 n 0 = n % 18446744073709551616 := by rw [word4, Nat.mul_zero, Nat.pow_zero, Nat.div_one]
theorem word4_1 (n : Nat) : word4 n 1 = n / 18446744073709551616 % 18446744073709551616 := by rw [word4, show 256 ^ (8 * 1) = 18446744073709551616 from rfl]
theorem word4_2 (n : Nat) : word4 n 2 = n / 340282366920938463463374607431768211456 % 18446744073709551616 := by rw [word4, show 256 ^ (8 * 2) = 340282366920938463463374607431768211456 from rfl]
theorem word4_3 (n : Nat) : word4 n 3 = n / 6277101735386680763835789423207666416102355444464034512896 % 18446744073709551616 := by rw [word4, show 256 ^ (8 * 3) = 6277101735386680763835789423207666416102355444464034512896 from rfl]
theorem word_0 (n : Nat) : n % 2251799813685248 + n / 2251799813685248 % 2251799813685248 * 2251799813685248 % 18446744073709551616 = n % 18446744073709551616 := by omega
theorem word_1 (n : Nat) : n / 2251799813685248 % 2251799813685248 / 8192 + n / 2251799813685248 / 2251799813685248 % 2251799813685248 * 274877906944 % 18446744073709551616 = n / 18446744073709551616 % 18446744073709551616 := by omega
theorem word_2 (n : Nat) : n / 2251799813685248 / 2251799813685248 % 2251799813685248 / 67108864 + n / 2251799813685248 / 2251799813685248 / 2251799813685248 % 2251799813685248 * 33554432 % 18446744073709551616 = n / 340282366920938463463374607431768211456 % 18446744073709551616 := by omega
theorem word_3 (n : Nat) (h : n < 57896044618658097711785492504343953926634992332820282019728792003956564819968) : n / 2251799813685248 / 2251799813685248 / 2251799813685248 % 2251799813685248 / 549755813888 + n / 2251799813685248 / 2251799813685248 / 2251799813685248 / 2251799813685248 % 2251799813685248 * 4096 % 18446744073709551616 = n / 6277101735386680763835789423207666416102355444464034512896 % 18446744073709551616 := by omega
theorem words_or (n0 n1 n2 n3 n4 : Nat) (q0 : n0 < 2251799813685248) (q1 : n1 < 2251799813685248) (q2 : n2 < 2251799813685248) (q3 : n3 < 2251799813685248) :
    bits .or .u64 (n0 : Int) (IntKind.u64.wrap ((n1 : Int) * 2251799813685248)) = ((n0 + n1 * 2251799813685248 % 18446744073709551616 : Nat) : Int) ∧ bits .or .u64 ((n1 : Int) / 8192) (IntKind.u64.wrap ((n2 : Int) * 274877906944)) = ((n1 / 8192 + n2 * 274877906944 % 18446744073709551616 : Nat) : Int) ∧
    bits .or .u64 ((n2 : Int) / 67108864) (IntKind.u64.wrap ((n3 : Int) * 33554432)) = ((n2 / 67108864 + n3 * 33554432 % 18446744073709551616 : Nat) : Int) ∧ bits .or .u64 ((n3 : Int) / 549755813888) (IntKind.u64.wrap ((n4 : Int) * 4096)) = ((n3 / 549755813888 + n4 * 4096 % 18446744073709551616 : Nat) : Int) := by
  refine ⟨?_, ?_, ?_, ?_⟩
  · exact win_or n0 n1 51 2251799813685248 rfl (by decide) q0
  · have h := win_or (n1 / 8192) n2 38 274877906944 rfl (by decide) (by omega)
    rw [← cast_div] at h
    exact h
  · have h := win_or (n2 / 67108864) n3 25 33554432 rfl (by decide) (by omega)
    rw [← cast_div] at h
    exact h
  · have h := win_or (n3 / 549755813888) n4 12 4096 rfl (by decide) (by omega)
    rw [← cast_div] at h
    exact h
theorem written_at (n0 n1 n2 n3 n4 n : Nat) (w : World) (HV : bits .or .u64 (n0 : Int) (IntKind.u64.wrap ((n1 : Int) * 2251799813685248)) = (word4 n 0 : Int) ∧ bits .or .u64 ((n1 : Int) / 8192) (IntKind.u64.wrap ((n2 : Int) * 274877906944)) = (word4 n 1 : Int) ∧ bits .or .u64 ((n2 : Int) / 67108864) (IntKind.u64.wrap ((n3 : Int) * 33554432)) = (word4 n 2 : Int) ∧ bits .or .u64 ((n3 : Int) / 549755813888) (IntKind.u64.wrap ((n4 : Int) * 4096)) = (word4 n 3 : Int)) :
    Calls Tryd.prog 73 #[numVal [n0, n1, n2, n3, n4]] w (gvn (hashVal (keyB n)) w) := by
  have hl : ∀ k, (putL n (min (8 * k) 32) ++ List.replicate (32 - min (8 * k) 32) (0 : UInt8)).length = 32 := fun k => by rw [List.length_append, putL_length, List.length_replicate]; omega
  refine writtenF_over n0 n1 n2 n3 n4 (keyB n) (fun k => putL n (min (8 * k) 32) ++ List.replicate (32 - min (8 * k) 32) 0) (word4 n) w HV (fun k => Nat.mod_lt _ (by decide)) (by show _ = _; simp [putL]) hl (fun k hk => ?_) ?_
  · have e1 : min (8 * k) 32 = 8 * k := by omega
    have e2 : min (8 * (k + 1)) 32 = 8 * k + 8 := by omega
    rw [e1, e2, putL_div n (8 * k) 8, word4, putL_mod _ 8 (Nat.le_refl _)]
    rw [List.take_append_of_le_length (by rw [putL_length]; omega), List.take_of_length_le (by rw [putL_length]; omega)]
    rw [List.drop_append, List.drop_of_length_le (by rw [putL_length]; omega), putL_length, List.nil_append, List.drop_replicate]
    congr 2
    omega
  · show putL n 32 ++ List.replicate 0 0 = _
    rw [List.replicate_zero, List.append_nil]; rfl
theorem written_any (n : Nat) (w : World) (hn : n < pp) : Calls Tryd.prog 73 #[elV n] w (gvn (hashVal (keyB n)) w) := by
  have h := words_or (lx n 0) (lx n 1) (lx n 2) (lx n 3) (lx n 4) (lx_lt _ _) (lx_lt _ _) (lx_lt _ _) (lx_lt _ _)
  refine written_at (lx n 0) (lx n 1) (lx n 2) (lx n 3) (lx n 4) n w ?_
  rw [word4_0, word4_1, word4_2, word4_3, ← word_0, ← word_1, ← word_2, ← word_3 n (by simp only [pp] at hn; omega)]
  exact h
set_option maxRecDepth 100000 in
theorem bytesE_over (a : List Nat) (r : List UInt8) (w : World) (HA : Hid (a.length = 5)) (HR : Hid (r.length = 32)) (CP : Hid (∀ W, Calls Tryd.prog 73 #[numVal a] W (gvn (hashVal r) W))) :
    Calls Tryd.prog 44 #[numVal a] w (gvn (hashVal r) w) := by
  go_enter Tryd.func44, Tryd.ntmps44
  go_wp2_with (first
    | (refine vtake_step rfl 44 (.tmp 0) rfl (a.map ncell) rfl ?_
       intro w1 hB1 hA1
       try simp only [putS]
       skip)
    | (refine zero_step rfl 23 rfl 32 zero_k32 ?_
       intro w3 hb3 hZ3 hz
       have hB3 := below_then hB1 hb3
       have hA3 := hA1.on hb3
       have hle := hB1.size
       clear hB1 hA1 hb3 hz
       try simp only [putS]
       skip)
    | (refine sget_step rfl 42 (.tmp 3) rfl w.heap.size 5 (a.map ncell) rfl hA3 Tryd.underlying42 rfl size_numF (by rw [List.length_map, HA.out]) ?_
       clear hA3
       try simp only [putS]
       skip))
  generalize w1.heap.size = gz at *
  refine (CP.out w3).mono ?_
  rintro e w4 ⟨rfl, hb4⟩
  have hB4 := below_then hB3 hb4
  have hZ4 := hZ3.on hb4
  clear CP hB3 hZ3 hb4
  go_wp2_with (first
    | (refine set_step rfl 23 _ _ rfl gz 32 (List.replicate 32 (cellOf 0)) r rfl rfl hZ4 List.length_replicate size_k32 HR.out ?_
       intro w6 hb6 hC6 _))
  exact ret_hash Tryd.results44 gz r rfl hC6 Tryd.underlying23 size_k32 HR.out rfl ⟨rfl, hB4.trans (hb6.below hle hB4.size)⟩
theorem bytesE_any (n : Nat) (w : World) (hn : n < pp) : Calls Tryd.prog 44 #[elV n] w (gvn (hashVal (keyB n)) w) :=
  bytesE_over (limb5 n) (keyB n) w rfl (keyB_length n) (fun W => written_any n W hn)
theorem limb5_word (x : Nat) (h : x < 18446744073709551616) : limb5 x = [x % 2251799813685248, x / 2251799813685248, 0, 0, 0] := by
  simp only [limb5, List.cons.injEq, and_true]
  refine ⟨trivial, ?_, ?_, ?_, ?_⟩ <;> omega
set_option maxRecDepth 100000 in
theorem small_over (x a b : Nat) (r : List Nat) (w : World) (HR : Hid (r.length = 5)) (M1 : bits .and .u64 (x : Int) 2251799813685247 = (a : Int)) (M2 : (x : Int) / 2251799813685248 = (b : Int)) (BN : ∀ w, (Instr.build 42 #[(0, ncell a), (1, ncell b)]).run Tryd.prog w = .ok (numVal r) w) (BE : ∀ w, (Instr.build 44 #[(0, numVal r)]).run Tryd.prog w = .ok (numVal r) w) :
    Calls Tryd.prog 81 #[ncell x] w (gvn (numVal r) w) := by
  go_enter Tryd.func81, Tryd.ntmps81
  go_wp2_with (first
    | (refine vzero_step rfl 44 rfl (nzeros 5) zero_elem ?_
       intro w3 hB3 hZ3)
    | (refine build_step rfl 42 _ rfl [(0, ncell a), (1, ncell b)] rfl _ BN ?_)
    | (refine build_step rfl 44 _ rfl [(0, numVal r)] rfl _ BE ?_)
    | (refine vset_step rfl 44 _ _ rfl w.heap.size 5 (nzeros 5) (r.map ncell) rfl rfl hZ3 rfl size_elem (by rw [List.length_map, HR.out]) (ncells_one _) ?_
       intro w6 hb6 hC6 _))
  exact sret Tryd.results81 w.heap.size (r.map ncell) rfl hC6 Tryd.underlying44 rfl size_elem (by rw [List.length_map, HR.out]) rfl ⟨rfl, hB3.trans (hb6.below (Nat.le_refl _) hB3.size)⟩
theorem small_any (x : Nat) (w : World) (h : x < 18446744073709551616) : Calls Tryd.prog 81 #[ncell x] w (gvn (elV x) w) :=
  small_over x (x % 2251799813685248) (x / 2251799813685248) (limb5 x) w rfl (and51 x h) rfl (fun w => by rw [limb5_word x h]; exact build_two _ _ w) (build_elV x)
/-- A small number modulo p. -/
def smallN (n : Int) : Nat := (n % (pp : Int)).toNat
set_option maxRecDepth 100000 in
theorem smallE_pos (n : Int) (x : Nat) (r : List Nat) (w : World) (h0 : ¬ n < 0) (HR : Hid (r.length = 5)) (M1 : IntKind.u64.wrap n = (x : Int)) (CS : Hid (∀ W, Calls Tryd.prog 81 #[ncell x] W (gvn (numVal r) W))) :
    Calls Tryd.prog 59 #[.int .i64 n] w (gvn (numVal r) w) := by
  go_enter Tryd.func59, Tryd.ntmps59
  go_wp2_with (first
    | (refine vzero_step rfl 44 rfl (nzeros 5) zero_elem ?_
       intro w3 hB3 hZ3))
  refine (CS.out w3).mono ?_
  rintro e w4 ⟨rfl, hb4⟩
  have hB4 := below_then hB3 hb4
  have hZ4 := hZ3.on hb4
  clear CS hB3 hZ3 hb4
  go_wp2_with (first
    | (refine vset_step rfl 44 _ _ rfl w.heap.size 5 (nzeros 5) (r.map ncell) rfl rfl hZ4 rfl size_elem (by rw [List.length_map, HR.out]) (ncells_one _) ?_
       intro w6 hb6 hC6 _))
  exact sret Tryd.results59 w.heap.size (r.map ncell) rfl hC6 Tryd.underlying44 rfl size_elem (by rw [List.length_map, HR.out]) rfl ⟨rfl, hB4.trans (hb6.below (Nat.le_refl _) hB4.size)⟩
set_option maxRecDepth 100000 in
theorem smallE_neg (n : Int) (x : Nat) (r s z : List Nat) (w : World) (h0 : n < 0) (HR : Hid (r.length = 5)) (M1 : IntKind.u64.wrap (-(IntKind.u64.wrap n)) = (x : Int)) (HN : ∀ w, (Instr.build 44 #[]).run Tryd.prog w = .ok (numVal z) w) (CS : Hid (∀ W, Calls Tryd.prog 81 #[ncell x] W (gvn (numVal s) W))) (CU : Hid (∀ W, Calls Tryd.prog 39 #[numVal z, numVal s] W (gvn (numVal r) W))) :
    Calls Tryd.prog 59 #[.int .i64 n] w (gvn (numVal r) w) := by
  go_enter Tryd.func59, Tryd.ntmps59
  go_wp2_with (first
    | (refine vzero_step rfl 44 rfl (nzeros 5) zero_elem ?_
       intro w3 hB3 hZ3)
    | (refine build_step rfl 44 [] rfl [] rfl _ HN ?_))
  refine (CS.out w3).mono ?_
  rintro e w4 ⟨rfl, hb4⟩
  have hB4 := below_then hB3 hb4
  have hZ4 := hZ3.on hb4
  clear CS hB3 hZ3 hb4
  go_wp2_with fail
  refine (CU.out w4).mono ?_
  rintro e w5 ⟨rfl, hb5⟩
  have hB5 := below_then hB4 hb5
  have hZ5 := hZ4.on hb5
  clear CU hB4 hZ4 hb5
  go_wp2_with (first
    | (refine vset_step rfl 44 _ _ rfl w.heap.size 5 (nzeros 5) (r.map ncell) rfl rfl hZ5 rfl size_elem (by rw [List.length_map, HR.out]) (ncells_one _) ?_
       intro w6 hb6 hC6 _))
  exact sret Tryd.results59 w.heap.size (r.map ncell) rfl hC6 Tryd.underlying44 rfl size_elem (by rw [List.length_map, HR.out]) rfl ⟨rfl, hB5.trans (hb6.below (Nat.le_refl _) hB5.size)⟩
theorem smallE_any (n : Int) (w : World) (h1 : -9223372036854775808 ≤ n) (h2 : n < 9223372036854775808) : Calls Tryd.prog 59 #[.int .i64 n] w (gvn (elV (smallN n)) w) := by
  by_cases h0 : n < 0
  · have hx : (-n).toNat < 18446744073709551616 := by omega
    have e1 : IntKind.u64.wrap (-(IntKind.u64.wrap n)) = (((-n).toNat : Nat) : Int) := by rw [IntKind.wrap_u64, IntKind.wrap_u64]; omega
    have e2 : smallN n = (0 + (pp - (-n).toNat)) % pp := by simp only [smallN, pp]; omega
    rw [e2]
    exact smallE_neg n (-n).toNat (limb5 _) (limb5 (-n).toNat) (limb5 0) w h0 rfl e1 build_none (fun W => small_any _ W hx) (fun W => eSub_any 0 _ W (by decide) (by simp only [pp]; omega))
  · have e1 : IntKind.u64.wrap n = ((n.toNat : Nat) : Int) := by rw [IntKind.wrap_u64]; omega
    have e2 : smallN n = n.toNat := by simp only [smallN, pp]; omega
    rw [e2]
    exact smallE_pos n n.toNat (limb5 n.toNat) w h0 rfl e1 (fun W => small_any _ W (by omega))
set_option maxRecDepth 100000 in
theorem curveE_any (u : List Nat) (w : World) (HU : Hid (u.length = 5)) (hU : Tab w 9 (u.map ncell)) (BU : ∀ w, (Instr.build 44 #[(0, numVal u)]).run Tryd.prog w = .ok (numVal u) w) :
    Calls Tryd.prog 61 #[] w (gvn (numVal u) w) := by
  go_enter Tryd.func61, Tryd.ntmps61
  go_wp2_with (first
    | (refine vzero_step rfl 44 rfl (nzeros 5) zero_elem ?_
       intro w3 hB3 hZ3
       have hU3 := hU.on hB3)
    | (refine tget_step rfl 42 (.global 9) rfl 9 5 (u.map ncell) rfl hU3 Tryd.underlying42 rfl size_numF (by rw [List.length_map, HU.out]) ?_)
    | (refine build_step rfl 44 _ rfl [(0, numVal u)] rfl _ BU ?_)
    | (refine vset_step rfl 44 _ _ rfl w.heap.size 5 (nzeros 5) (u.map ncell) rfl rfl hZ3 rfl size_elem (by rw [List.length_map, HU.out]) (ncells_one _) ?_
       intro w6 hb6 hC6 _))
  exact sret Tryd.results61 w.heap.size (u.map ncell) rfl hC6 Tryd.underlying44 rfl size_elem (by rw [List.length_map, HU.out]) rfl ⟨rfl, hB3.trans (hb6.below (Nat.le_refl _) hB3.size)⟩
set_option maxRecDepth 100000 in
theorem baseXE_any (u : List Nat) (w : World) (HU : Hid (u.length = 5)) (hU : Tab w 4 (u.map ncell)) (BU : ∀ w, (Instr.build 44 #[(0, numVal u)]).run Tryd.prog w = .ok (numVal u) w) :
    Calls Tryd.prog 52 #[] w (gvn (numVal u) w) := by
  go_enter Tryd.func52, Tryd.ntmps52
  go_wp2_with (first
    | (refine vzero_step rfl 44 rfl (nzeros 5) zero_elem ?_
       intro w3 hB3 hZ3
       have hU3 := hU.on hB3)
    | (refine tget_step rfl 42 (.global 4) rfl 4 5 (u.map ncell) rfl hU3 Tryd.underlying42 rfl size_numF (by rw [List.length_map, HU.out]) ?_)
    | (refine build_step rfl 44 _ rfl [(0, numVal u)] rfl _ BU ?_)
    | (refine vset_step rfl 44 _ _ rfl w.heap.size 5 (nzeros 5) (u.map ncell) rfl rfl hZ3 rfl size_elem (by rw [List.length_map, HU.out]) (ncells_one _) ?_
       intro w6 hb6 hC6 _))
  exact sret Tryd.results52 w.heap.size (u.map ncell) rfl hC6 Tryd.underlying44 rfl size_elem (by rw [List.length_map, HU.out]) rfl ⟨rfl, hB3.trans (hb6.below (Nat.le_refl _) hB3.size)⟩
set_option maxRecDepth 100000 in
theorem baseYE_any (u : List Nat) (w : World) (HU : Hid (u.length = 5)) (hU : Tab w 5 (u.map ncell)) (BU : ∀ w, (Instr.build 44 #[(0, numVal u)]).run Tryd.prog w = .ok (numVal u) w) :
    Calls Tryd.prog 53 #[] w (gvn (numVal u) w) := by
  go_enter Tryd.func53, Tryd.ntmps53
  go_wp2_with (first
    | (refine vzero_step rfl 44 rfl (nzeros 5) zero_elem ?_
       intro w3 hB3 hZ3
       have hU3 := hU.on hB3)
    | (refine tget_step rfl 42 (.global 5) rfl 5 5 (u.map ncell) rfl hU3 Tryd.underlying42 rfl size_numF (by rw [List.length_map, HU.out]) ?_)
    | (refine build_step rfl 44 _ rfl [(0, numVal u)] rfl _ BU ?_)
    | (refine vset_step rfl 44 _ _ rfl w.heap.size 5 (nzeros 5) (u.map ncell) rfl rfl hZ3 rfl size_elem (by rw [List.length_map, HU.out]) (ncells_one _) ?_
       intro w6 hb6 hC6 _))
  exact sret Tryd.results53 w.heap.size (u.map ncell) rfl hC6 Tryd.underlying44 rfl size_elem (by rw [List.length_map, HU.out]) rfl ⟨rfl, hB3.trans (hb6.below (Nat.le_refl _) hB3.size)⟩
/-- The first words' number. -/
def pre (l : List Nat) : Nat → Nat
  | 0 => 0
  | i + 1 => pre l i + l.getD i 0 * 4294967296 ^ i
/-- A number's eight words. -/
def nD (n : Nat) : List Nat := [n % 4294967296, n / 4294967296 % 4294967296, n / 18446744073709551616 % 4294967296, n / 79228162514264337593543950336 % 4294967296, n / 340282366920938463463374607431768211456 % 4294967296, n / 1461501637330902918203684832716283019655932542976 % 4294967296, n / 6277101735386680763835789423207666416102355444464034512896 % 4294967296, n / 26959946667150639794667015087019630673637144422540572481103610249216 % 4294967296]
theorem nD_length (n : Nat) : (nD n).length = 8 := rfl
/-- 2^256. -/
abbrev mm : Nat := 115792089237316195423570985008687907853269984665640564039457584007913129639936
/-- Eight words, each below 2^32. -/
def D8 (l : List Nat) : Prop := l.length = 8 ∧ ∀ k, l.getD k 0 < 4294967296
theorem eight_of {α : Type} (l : List α) (h : l.length = 8) : ∃ a b c d e f g i, l = [a, b, c, d, e, f, g, i] := by
  match l, h with
  | [a, b, c, d, e, f, g, i], _ => exact ⟨a, b, c, d, e, f, g, i, rfl⟩
theorem pre_eight (a b c d e f g i : Nat) : pre [a, b, c, d, e, f, g, i] 8 = a + b * 4294967296 + c * 18446744073709551616 + d * 79228162514264337593543950336 + e * 340282366920938463463374607431768211456 + f * 1461501637330902918203684832716283019655932542976 + g * 6277101735386680763835789423207666416102355444464034512896 + i * 26959946667150639794667015087019630673637144422540572481103610249216 := by
  simp [pre]
theorem nD_D8 (n : Nat) : D8 (nD n) := by
  refine ⟨rfl, fun k => ?_⟩
  rcases Nat.lt_or_ge k 8 with h | h
  · rcases (show k = 0 ∨ k = 1 ∨ k = 2 ∨ k = 3 ∨ k = 4 ∨ k = 5 ∨ k = 6 ∨ k = 7 by omega) with rfl | rfl | rfl | rfl | rfl | rfl | rfl | rfl <;> exact Nat.mod_lt _ (by decide)
  · rw [List.getD_eq_getElem?_getD, List.getElem?_eq_none (by rw [nD_length]; exact h)]; decide
theorem pre_nD (n : Nat) (h : n < mm) : pre (nD n) 8 = n := by
  rw [nD, pre_eight]; simp only [mm] at h; omega
theorem D8.is {l : List Nat} (h : D8 l) : l = nD (pre l 8) := by
  obtain ⟨a, b, c, d, e, f, g, i, rfl⟩ := eight_of l h.1
  have h0 : a < 4294967296 := h.2 0
  have h1 : b < 4294967296 := h.2 1
  have h2 : c < 4294967296 := h.2 2
  have h3 : d < 4294967296 := h.2 3
  have h4 : e < 4294967296 := h.2 4
  have h5 : f < 4294967296 := h.2 5
  have h6 : g < 4294967296 := h.2 6
  have h7 : i < 4294967296 := h.2 7
  rw [pre_eight]
  simp only [nD, List.cons.injEq, and_true]
  refine ⟨?_, ?_, ?_, ?_, ?_, ?_, ?_, ?_⟩ <;> omega
theorem D8.lt {l : List Nat} (h : D8 l) : pre l 8 < mm := by
  obtain ⟨a, b, c, d, e, f, g, i, rfl⟩ := eight_of l h.1
  have h0 : a < 4294967296 := h.2 0
  have h1 : b < 4294967296 := h.2 1
  have h2 : c < 4294967296 := h.2 2
  have h3 : d < 4294967296 := h.2 3
  have h4 : e < 4294967296 := h.2 4
  have h5 : f < 4294967296 := h.2 5
  have h6 : g < 4294967296 := h.2 6
  have h7 : i < 4294967296 := h.2 7
  rw [pre_eight]; simp only [mm]; omega
/-- A word set: the number below it stays. -/
theorem pre_set_ge (l : List Nat) (j v : Nat) : ∀ i, i ≤ j → pre (l.set j v) i = pre l i
  | 0, _ => rfl
  | i + 1, h => by
    rw [pre, pre, pre_set_ge l j v i (by omega), List.getD_eq_getElem?_getD, List.getElem?_set_ne (by omega), ← List.getD_eq_getElem?_getD]
theorem getD_set_eq (l : List Nat) (j v : Nat) (h : j < l.length) : (l.set j v).getD j 0 = v := by
  rw [List.getD_eq_getElem?_getD, List.getElem?_set_self h]; rfl
theorem getD_set_neN (l : List Nat) (j k v : Nat) (h : j ≠ k) : (l.set j v).getD k 0 = l.getD k 0 := by
  rw [List.getD_eq_getElem?_getD, List.getElem?_set_ne h, ← List.getD_eq_getElem?_getD]
theorem pre_set (l : List Nat) (j v : Nat) (h : j < l.length) : pre (l.set j v) (j + 1) = pre l j + v * 4294967296 ^ j := by
  rw [pre, pre_set_ge l j v j (Nat.le_refl _), getD_set_eq l j v h]
theorem set_lt {l : List Nat} {b : Nat} (h : ∀ k, l.getD k 0 < b) (j v : Nat) (hv : v < b) : ∀ k, (l.set j v).getD k 0 < b := fun k => by
  by_cases e : j = k
  · subst e
    rcases Nat.lt_or_ge j l.length with hl | hl
    · rw [getD_set_eq l j v hl]; exact hv
    · rw [List.set_eq_of_length_le hl]; exact h j
  · rw [getD_set_neN l j k v e]; exact h k
theorem D8.set {l : List Nat} (h : D8 l) (j v : Nat) (hv : v < 4294967296) : D8 (l.set j v) := ⟨by rw [List.length_set]; exact h.1, set_lt h.2 j v hv⟩
theorem D8.zeros : D8 [0, 0, 0, 0, 0, 0, 0, 0] := by
  refine ⟨rfl, fun k => ?_⟩
  rcases Nat.lt_or_ge k 8 with h | h
  · rcases (show k = 0 ∨ k = 1 ∨ k = 2 ∨ k = 3 ∨ k = 4 ∨ k = 5 ∨ k = 6 ∨ k = 7 by omega) with rfl | rfl | rfl | rfl | rfl | rfl | rfl | rfl <;> decide
  · rw [List.getD_eq_getElem?_getD, List.getElem?_eq_none (show [0, 0, 0, 0, 0, 0, 0, 0].length ≤ k from h)]; decide
/-- minus, k words on: what is written, what is owed. -/
def miX (a b : List Nat) (o k : Nat) : Nat := a.getD k 0 + 4294967296 - b.getD k 0 - o
theorem pre_congr (a b : List Nat) : ∀ k, (∀ i, i < k → a.getD i 0 = b.getD i 0) → pre a k = pre b k
  | 0, _ => rfl
  | k + 1, h => by rw [pre, pre, pre_congr a b k fun i hi => h i (by omega), h k (by omega)]
end Go.Proofs.YtoggkhjaghkpnaaDoor
namespace Go.Proofs.YtoggkhjaghkpnaaDoor
open Go.RowKit
def psum (f : Nat → Nat) : Nat → Nat
  | 0 => 0
  | k + 1 => psum f k + f k * 4294967296 ^ k
theorem pre_psum (l : List Nat) : ∀ k, pre l k = psum (fun j => l.getD j 0) k
  | 0 => rfl
  | k + 1 => by rw [pre, psum, pre_psum l k]
theorem psum_add (f g : Nat → Nat) : ∀ k, psum (fun j => f j + g j) k = psum f k + psum g k
  | 0 => rfl
  | k + 1 => by rw [psum, psum, psum, psum_add f g k, Nat.add_mul]; omega
theorem psum_mul (c : Nat) (f : Nat → Nat) : ∀ k, psum (fun j => c * f j) k = c * psum f k
  | 0 => rfl
  | k + 1 => by rw [psum, psum, psum_mul c f k, Nat.mul_add, Nat.mul_assoc]
theorem psum_congr (f g : Nat → Nat) : ∀ k, (∀ j, j < k → f j = g j) → psum f k = psum g k
  | 0, _ => rfl
  | k + 1, h => by rw [psum, psum, psum_congr f g k fun j hj => h j (by omega), h k (by omega)]
/-- Word by word: the sum's low word is written, the rest carried. -/
def cyTo (f : Nat → Nat) (l0 : List Nat) (c0 : Nat) : Nat → List Nat × Nat
  | 0 => (l0, c0)
  | k + 1 => ((cyTo f l0 c0 k).1.set k ((f k + (cyTo f l0 c0 k).2) % 4294967296), (f k + (cyTo f l0 c0 k).2) / 4294967296)
theorem cyTo_length (f : Nat → Nat) (l0 : List Nat) (c0 : Nat) : ∀ k, (cyTo f l0 c0 k).1.length = l0.length
  | 0 => rfl
  | k + 1 => by rw [cyTo, List.length_set, cyTo_length]
theorem cyTo_lt (f : Nat → Nat) {l0 : List Nat} (c0 : Nat) (h : ∀ k, l0.getD k 0 < 4294967296) : ∀ k j, (cyTo f l0 c0 k).1.getD j 0 < 4294967296
  | 0 => h
  | k + 1 => by rw [cyTo]; exact set_lt (cyTo_lt f c0 h k) k _ (Nat.mod_lt _ (by decide))
theorem cyTo_ahead (f : Nat → Nat) (l0 : List Nat) (c0 : Nat) : ∀ k j, k ≤ j → (cyTo f l0 c0 k).1.getD j 0 = l0.getD j 0
  | 0, _, _ => rfl
  | k + 1, j, h => by rw [cyTo, getD_set_neN _ _ _ _ (by omega), cyTo_ahead f l0 c0 k j (by omega)]
theorem cyTo_pre (f : Nat → Nat) (l0 : List Nat) (c0 : Nat) : ∀ k, k ≤ l0.length → pre (cyTo f l0 c0 k).1 k + (cyTo f l0 c0 k).2 * 4294967296 ^ k = psum f k + c0
  | 0, _ => by simp [cyTo, pre, psum]
  | k + 1, h => by
    have ih := cyTo_pre f l0 c0 k (by omega)
    have hl := cyTo_length f l0 c0 k
    rw [cyTo]
    show pre ((cyTo f l0 c0 k).1.set k ((f k + (cyTo f l0 c0 k).2) % 4294967296)) (k + 1) + (f k + (cyTo f l0 c0 k).2) / 4294967296 * _ = _
    rw [pre_set _ _ _ (by omega), psum, Nat.pow_succ]
    generalize (cyTo f l0 c0 k).2 = o at *
    have e := Nat.div_add_mod (f k + o) 4294967296
    generalize (f k + o) % 4294967296 = r at *
    generalize (f k + o) / 4294967296 = q at *
    have e2 : (4294967296 * q + r) * 4294967296 ^ k = (f k + o) * 4294967296 ^ k := by rw [e]
    rw [Nat.add_mul, Nat.add_mul, Nat.mul_assoc, Nat.mul_left_comm] at e2
    rw [Nat.mul_comm (4294967296 ^ k)]
    omega
theorem cyTo_le (f : Nat → Nat) (l0 : List Nat) (c0 m : Nat) (hc : c0 ≤ m) (hf : ∀ k, f k + m < (m + 1) * 4294967296) : ∀ k, (cyTo f l0 c0 k).2 ≤ m
  | 0 => hc
  | k + 1 => by
    have ih := cyTo_le f l0 c0 m hc hf k
    have h := hf k
    rw [cyTo]
    show (f k + (cyTo f l0 c0 k).2) / 4294967296 ≤ m
    have : (f k + (cyTo f l0 c0 k).2) / 4294967296 < m + 1 := Nat.div_lt_of_lt_mul (by rw [Nat.mul_comm]; omega)
    omega
end Go.Proofs.YtoggkhjaghkpnaaDoor
namespace Go.Proofs.YtoggkhjaghkpnaaDoor
open Go.RowKit
def z16 : List Nat := [0, 0, 0, 0, 0, 0, 0, 0, 0, 0, 0, 0, 0, 0, 0, 0]
theorem z16_zero (k : Nat) : z16.getD k 0 = 0 := by
  rcases Nat.lt_or_ge k 16 with h | h
  · rw [show z16 = List.replicate 16 0 from rfl, List.getD_eq_getElem?_getD, List.getElem?_replicate]
    simp [h]
  · rw [List.getD_eq_getElem?_getD, List.getElem?_eq_none (show z16.length ≤ k from h)]; rfl
end Go.Proofs.YtoggkhjaghkpnaaDoor
namespace Go.Proofs.YtoggkhjaghkpnaaDoor
open Go.RowKit
def rowV (a b s0 : List Nat) (i : Nat) : Nat → List Nat × Nat
  | 0 => (s0, 0)
  | k + 1 => ((rowV a b s0 i k).1.set (i + k) ((a.getD i 0 * b.getD k 0 + (rowV a b s0 i k).1.getD (i + k) 0 + (rowV a b s0 i k).2) % 4294967296), (a.getD i 0 * b.getD k 0 + (rowV a b s0 i k).1.getD (i + k) 0 + (rowV a b s0 i k).2) / 4294967296)
def rowS (a b : List Nat) : Nat → List Nat
  | 0 => z16
  | i + 1 => (rowV a b (rowS a b i) i 8).1.set (i + 8) (rowV a b (rowS a b i) i 8).2
theorem rowV_length (a b s0 : List Nat) (i : Nat) : ∀ k, (rowV a b s0 i k).1.length = s0.length
  | 0 => rfl
  | k + 1 => by rw [rowV, List.length_set, rowV_length]
theorem rowV_lt {a b s0 : List Nat} (ha : ∀ k, a.getD k 0 < 4294967296) (hb : ∀ k, b.getD k 0 < 4294967296) (hs : ∀ k, s0.getD k 0 < 4294967296) (i : Nat) : ∀ k, (∀ j, (rowV a b s0 i k).1.getD j 0 < 4294967296) ∧ (rowV a b s0 i k).2 < 4294967296
  | 0 => ⟨hs, show (0 : Nat) < 4294967296 by decide⟩
  | k + 1 => by
    obtain ⟨h1, h2⟩ := rowV_lt ha hb hs i k
    rw [rowV]
    refine ⟨set_lt h1 _ _ (Nat.mod_lt _ (by decide)), ?_⟩
    have h3 := h1 (i + k)
    have hm : a.getD i 0 * b.getD k 0 ≤ 4294967295 * 4294967295 := Nat.mul_le_mul (by have := ha i; omega) (by have := hb k; omega)
    show (a.getD i 0 * b.getD k 0 + (rowV a b s0 i k).1.getD (i + k) 0 + (rowV a b s0 i k).2) / 4294967296 < 4294967296
    omega
theorem rowV_ahead (a b s0 : List Nat) (i j : Nat) : ∀ k, i + k ≤ j → (rowV a b s0 i k).1.getD j 0 = s0.getD j 0
  | 0, _ => rfl
  | k + 1, h => by rw [rowV, getD_set_neN _ _ _ _ (by omega), rowV_ahead a b s0 i j k (by omega)]
theorem pre_set_all (l : List Nat) (j v : Nat) (hl : j < l.length) : ∀ n, j < n → pre (l.set j v) n + l.getD j 0 * 4294967296 ^ j = pre l n + v * 4294967296 ^ j
  | 0, h => by omega
  | n + 1, h => by
    rcases Nat.lt_or_ge j n with h1 | h1
    · have ih := pre_set_all l j v hl n h1
      rw [pre, pre, getD_set_neN _ _ _ _ (by omega)]
      omega
    · obtain rfl : j = n := by omega
      rw [pre_set l j v hl, pre]; omega
theorem rowV_next (a b s0 : List Nat) (i k : Nat) : rowV a b s0 i (k + 1) = ((rowV a b s0 i k).1.set (i + k) ((a.getD i 0 * b.getD k 0 + (rowV a b s0 i k).1.getD (i + k) 0 + (rowV a b s0 i k).2) % 4294967296), (a.getD i 0 * b.getD k 0 + (rowV a b s0 i k).1.getD (i + k) 0 + (rowV a b s0 i k).2) / 4294967296) := by rw [rowV]
theorem pre_next (l : List Nat) (k : Nat) : pre l (k + 1) = pre l k + l.getD k 0 * 4294967296 ^ k := by rw [pre]
theorem row_step (n p t u c d x E : Nat) (h1 : n + u * E = p + x % 4294967296 * E) (h2 : p + c * E = t) (hx : x = d + u + c) : n + x / 4294967296 * (E * 4294967296) = t + d * E := by
  have e := Nat.div_add_mod x 4294967296
  have e2 : (4294967296 * (x / 4294967296) + x % 4294967296) * E = (d + u + c) * E := by rw [e, hx]
  have e3 : x / 4294967296 * (E * 4294967296) = 4294967296 * (x / 4294967296) * E := by rw [Nat.mul_comm E, ← Nat.mul_assoc, Nat.mul_comm (x / 4294967296)]
  rw [Nat.add_mul, Nat.add_mul, Nat.add_mul] at e2
  omega
theorem row_part (p q E F : Nat) : p * (q * E) * F = p * q * (F * E) := by rw [Nat.mul_comm F, ← Nat.mul_assoc, ← Nat.mul_assoc]
theorem rowV_pre (a b s0 : List Nat) (i : Nat) (hl : s0.length = 16) : ∀ k, i + k ≤ 16 → pre (rowV a b s0 i k).1 16 + (rowV a b s0 i k).2 * 4294967296 ^ (i + k) = pre s0 16 + a.getD i 0 * pre b k * 4294967296 ^ i
  | 0, _ => by rw [rowV, pre, Nat.mul_zero, Nat.zero_mul, Nat.zero_mul]
  | k + 1, h => by
    have ih := rowV_pre a b s0 i hl k (by omega)
    have hlen := rowV_length a b s0 i k
    have hn := rowV_next a b s0 i k
    have hs := fun v => pre_set_all (rowV a b s0 i k).1 (i + k) v (by omega) 16 (by omega)
    generalize (rowV a b s0 i k).1.getD (i + k) 0 = u at *
    generalize (rowV a b s0 i k).2 = c at *
    generalize (rowV a b s0 i k).1 = s at *
    generalize hx : a.getD i 0 * b.getD k 0 + u + c = x at *
    have key := row_step _ _ _ u c (a.getD i 0 * b.getD k 0) x _ (hs (x % 4294967296)) ih hx.symm
    rw [hn]
    dsimp only
    rw [pre_next b k, Nat.mul_add, Nat.add_mul, row_part, ← Nat.pow_add, ← Nat.add_assoc i, Nat.pow_succ, ← Nat.add_assoc]
    exact key
theorem rowS_length (a b : List Nat) : ∀ i, (rowS a b i).length = 16
  | 0 => rfl
  | i + 1 => by rw [rowS, List.length_set, rowV_length, rowS_length]
theorem rowS_lt {a b : List Nat} (ha : ∀ k, a.getD k 0 < 4294967296) (hb : ∀ k, b.getD k 0 < 4294967296) : ∀ i k, (rowS a b i).getD k 0 < 4294967296
  | 0, k => by rw [rowS, z16_zero]; decide
  | i + 1, k => by
    have h := rowV_lt ha hb (rowS_lt ha hb i) i 8
    rw [rowS]
    exact set_lt h.1 _ _ h.2 k
theorem rowS_zero (a b : List Nat) : ∀ i j, i + 8 ≤ j → (rowS a b i).getD j 0 = 0
  | 0, j, _ => z16_zero j
  | i + 1, j, h => by rw [rowS, getD_set_neN _ _ _ _ (by omega), rowV_ahead _ _ _ _ _ 8 (by omega), rowS_zero a b i j (by omega)]
theorem z16_pre : ∀ n, pre z16 n = 0
  | 0 => rfl
  | n + 1 => by rw [pre, z16_pre n, z16_zero, Nat.zero_mul]
theorem rowS_pre (a b : List Nat) : ∀ i, i ≤ 8 → pre (rowS a b i) 16 = pre a i * pre b 8
  | 0, _ => by rw [rowS, z16_pre, pre, Nat.zero_mul]
  | i + 1, h => by
    have ih := rowS_pre a b i (by omega)
    have h1 := rowV_pre a b (rowS a b i) i (rowS_length a b i) 8 (by omega)
    have h2 := pre_set_all (rowV a b (rowS a b i) i 8).1 (i + 8) (rowV a b (rowS a b i) i 8).2 (by rw [rowV_length, rowS_length]; omega) 16 (by omega)
    rw [rowV_ahead _ _ _ _ _ 8 (Nat.le_refl _), rowS_zero a b i (i + 8) (Nat.le_refl _), Nat.zero_mul, Nat.add_zero, h1, ih] at h2
    rw [rowS, h2]
    generalize pre b 8 = y at *
    rw [pre, Nat.add_mul, Nat.mul_assoc, Nat.mul_assoc, Nat.mul_comm y]
theorem rowS_next (a b : List Nat) (i : Nat) : rowS a b (i + 1) = (rowV a b (rowS a b i) i 8).1.set (i + 8) (rowV a b (rowS a b i) i 8).2 := by rw [rowS]
end Go.Proofs.YtoggkhjaghkpnaaDoor
namespace Go.Proofs.YtoggkhjaghkpnaaDoor
open Go.RowKit
theorem nD_at (n i : Nat) (h : i < 8) : (nD n).getD i 0 = n / 2 ^ (32 * i) % 2 ^ 32 := by
  rcases (show i = 0 ∨ i = 1 ∨ i = 2 ∨ i = 3 ∨ i = 4 ∨ i = 5 ∨ i = 6 ∨ i = 7 by omega) with rfl | rfl | rfl | rfl | rfl | rfl | rfl | rfl <;> simp [nD]
/-- The document's BaseY. -/
def baseYN : Nat := 46316835694926478169428394003475163141307993866256225615783033603165251855960
/-- The document's BaseX. -/
def baseXN : Nat := 15112221349535400772501151409588531511454012693041857206046113283949847762202
end Go.Proofs.YtoggkhjaghkpnaaDoor
namespace Go.Proofs.YtoggkhjaghkpnaaDoor
open Go.RowKit
theorem lev_step (b : List UInt8) (k : Nat) (hk : k < b.length) : lev (b.take (k + 1)) = lev (b.take k) + (b.getD k 0).toNat * 2 ^ (8 * k) := by
  rw [List.take_succ_eq_append_getElem hk, lev_append, List.length_take, Nat.min_eq_left (Nat.le_of_lt hk), lev_cons, show (256 : Nat) = 2 ^ 8 from rfl, ← Nat.pow_mul, Nat.mul_comm, List.getD_eq_getElem?_getD, List.getElem?_eq_getElem hk]
  rfl
theorem lev_take_lt (b : List UInt8) (k : Nat) (hk : k ≤ b.length) : lev (b.take k) < 2 ^ (8 * k) := by
  have h := lev_lt (b.take k)
  rw [List.length_take, Nat.min_eq_left hk, show (256 : Nat) = 2 ^ 8 from rfl, ← Nat.pow_mul] at h
  exact h
end Go.Proofs.YtoggkhjaghkpnaaDoor
namespace Go.Proofs.YtoggkhjaghkpnaaDoor.NP
def lC : Nat := 1257559732178653
def lD : Nat := 4434155615661930479
def lE : Nat := 172054593956031949258510691
def lF : Nat := 19757330305831588566944191468367130476339
def lG : Nat := 276602624281642239937218680557139826668747
/-- The order. -/
def LL : Nat := 7237005577332262213973186563042994240857116359379907606001950938285454250989
set_option maxRecDepth 100000 in
theorem pr_lA : Pr 1224481 := pr_small 1224481 1106 (by decide +kernel) (by decide +kernel) (by decide +kernel)
set_option maxRecDepth 100000 in
theorem pr_lB : Pr 531581 := pr_small 531581 729 (by decide +kernel) (by decide +kernel) (by decide +kernel)
set_option maxRecDepth 100000 in
theorem pr_lC : Pr lC := pr_two (q := 1224481) (u := 531581) 2 2 51 pr_lA pr_lB (by decide +kernel) (by decide +kernel) (by decide +kernel) (by decide +kernel) (by decide +kernel) (by decide +kernel) (by decide +kernel) (by decide +kernel) (by decide +kernel) (by decide +kernel)
set_option maxRecDepth 100000 in
theorem pr_lD : Pr lD := pr_one (q := lC) 2 62 pr_lC (by decide +kernel) (by decide +kernel) (by decide +kernel) (by decide +kernel) (by decide +kernel) (by decide +kernel)
set_option maxRecDepth 100000 in
theorem pr_lE : Pr lE := pr_one (q := lD) 2 88 pr_lD (by decide +kernel) (by decide +kernel) (by decide +kernel) (by decide +kernel) (by decide +kernel) (by decide +kernel)
set_option maxRecDepth 100000 in
theorem pr_lF : Pr lF := pr_one (q := lE) 2 134 pr_lE (by decide +kernel) (by decide +kernel) (by decide +kernel) (by decide +kernel) (by decide +kernel) (by decide +kernel)
set_option maxRecDepth 100000 in
theorem pr_lG : Pr lG := pr_one (q := lF) 2 138 pr_lF (by decide +kernel) (by decide +kernel) (by decide +kernel) (by decide +kernel) (by decide +kernel) (by decide +kernel)
set_option maxRecDepth 100000 in
theorem pr_L : Pr LL := pr_one (q := lG) 2 253 pr_lG (by decide +kernel) (by decide +kernel) (by decide +kernel) (by decide +kernel) (by decide +kernel) (by decide +kernel)
end Go.Proofs.YtoggkhjaghkpnaaDoor.NP
namespace Go.Proofs.YtoggkhjaghkpnaaDoor
open Go.RowKit
/-- The number of digits, the high one first. -/
def hval (ds : List Nat) : Nat := dval ds.reverse
/-- All are digits. -/
def Dig (ds : List Nat) : Prop := ∀ x ∈ ds, x < 256
theorem Dig.drop {ds : List Nat} (h : Dig ds) (n : Nat) : Dig (ds.drop n) := fun x hx => h x (List.mem_of_mem_drop hx)
theorem Dig.at {ds : List Nat} (h : Dig ds) (k : Nat) : ds.getD k 0 < 256 := by
  rw [List.getD_eq_getElem?_getD]
  cases hk : ds[k]? with
  | none => decide
  | some x => exact h x (List.mem_of_getElem? hk)
theorem mm_pow : (4294967296 : Nat) ^ 8 = mm := by decide +kernel
/-- What is left in eight limbs when all have been carried over. -/
theorem cyTo_all (f : Nat → Nat) {l0 : List Nat} (c0 : Nat) (h : D8 l0) : (cyTo f l0 c0 8).1 = nD ((psum f 8 + c0) % mm) := by
  have hd : D8 (cyTo f l0 c0 8).1 := ⟨by rw [cyTo_length]; exact h.1, cyTo_lt f c0 h.2 8⟩
  have h1 := cyTo_pre f l0 c0 8 (by rw [h.1]; exact Nat.le_refl _)
  have h2 := hd.lt
  rw [mm_pow] at h1
  rw [hd.is, ← h1, Nat.mul_comm, Nat.add_mul_mod_self_left, Nat.mod_eq_of_lt h2]
/-- A sum, limb by limb, over the first number. -/
def plS (a b : List Nat) (k : Nat) : List Nat × Nat := cyTo (fun j => a.getD j 0 + b.getD j 0) a 0 k
theorem plS_next (a b : List Nat) (k : Nat) : plS a b (k + 1) = ((plS a b k).1.set k ((a.getD k 0 + b.getD k 0 + (plS a b k).2) % 4294967296), (a.getD k 0 + b.getD k 0 + (plS a b k).2) / 4294967296) := by
  rw [plS, cyTo]; rfl
theorem plS_all {a b : List Nat} (ha : D8 a) : (plS a b 8).1 = nD ((pre a 8 + pre b 8) % mm) := by
  rw [plS, cyTo_all _ 0 ha, psum_add, ← pre_psum, ← pre_psum, Nat.add_zero]
/-- A number so many times, limb by limb. -/
def scS (a : List Nat) (t : Nat) (k : Nat) : List Nat × Nat := cyTo (fun j => a.getD j 0 * t) a 0 k
theorem scS_next (a : List Nat) (t k : Nat) : scS a t (k + 1) = ((scS a t k).1.set k ((a.getD k 0 * t + (scS a t k).2) % 4294967296), (a.getD k 0 * t + (scS a t k).2) / 4294967296) := by
  rw [scS, cyTo]; rfl
theorem scS_all {a : List Nat} (ha : D8 a) (t : Nat) : (scS a t 8).1 = nD (pre a 8 * t % mm) := by
  have e : psum (fun j => a.getD j 0 * t) 8 = pre a 8 * t := by
    rw [psum_congr _ (fun j => t * a.getD j 0) 8 fun j _ => Nat.mul_comm _ _, psum_mul, ← pre_psum, Nat.mul_comm]
  rw [scS, cyTo_all _ 0 ha, e, Nat.add_zero]
theorem scS_le {a : List Nat} (ha : D8 a) {t : Nat} (ht : t ≤ 4294967296) (k : Nat) : (scS a t k).2 ≤ 4294967295 :=
  cyTo_le _ _ _ 4294967295 (by decide) (fun j => by
    have h1 := ha.2 j
    have h2 : a.getD j 0 * t ≤ 4294967295 * 4294967296 := Nat.mul_le_mul (by omega) ht
    omega) k
/-- A difference, limb by limb, over the first number. -/
def mnS (a b : List Nat) : Nat → List Nat × Nat
  | 0 => (a, 0)
  | k + 1 => ((mnS a b k).1.set k (miX a b (mnS a b k).2 k % 4294967296), 1 - miX a b (mnS a b k).2 k / 4294967296)
theorem mnS_owe (a b : List Nat) : ∀ k, (mnS a b k).2 ≤ 1
  | 0 => Nat.zero_le _
  | k + 1 => by rw [mnS]; omega
theorem mnS_D8 {a b : List Nat} (ha : D8 a) : ∀ k, D8 (mnS a b k).1
  | 0 => ha
  | k + 1 => by rw [mnS]; exact (mnS_D8 ha k).set _ _ (Nat.mod_lt _ (by decide))
theorem mnS_ahead (a b : List Nat) : ∀ k j, k ≤ j → (mnS a b k).1.getD j 0 = a.getD j 0
  | 0, _, _ => rfl
  | k + 1, j, h => by rw [mnS, getD_set_neN _ _ _ _ (by omega), mnS_ahead a b k j (by omega)]
theorem mnS_pre {a b : List Nat} (ha : D8 a) (hb : D8 b) : ∀ k, k ≤ 8 → pre (mnS a b k).1 k + pre b k = pre a k + (mnS a b k).2 * 4294967296 ^ k
  | 0, _ => rfl
  | k + 1, h => by
    have ih := mnS_pre ha hb k (by omega)
    have hl := (mnS_D8 (b := b) ha k).1
    have ho := mnS_owe a b k
    rw [mnS]
    show pre ((mnS a b k).1.set k (miX a b (mnS a b k).2 k % 4294967296)) (k + 1) + _ = _ + (1 - miX a b (mnS a b k).2 k / 4294967296) * _
    rw [pre_set _ _ _ (by omega), pre, pre, Nat.pow_succ]
    have hx : miX a b (mnS a b k).2 k = a.getD k 0 + 4294967296 - b.getD k 0 - (mnS a b k).2 := rfl
    have h1 := ha.2 k
    have h2 := hb.2 k
    generalize miX a b (mnS a b k).2 k = x at *
    generalize (mnS a b k).2 = o at *
    generalize a.getD k 0 = p at *
    generalize b.getD k 0 = q at *
    have e : x % 4294967296 + q + o = p + (1 - x / 4294967296) * 4294967296 := by omega
    have e2 : (x % 4294967296 + q + o) * 4294967296 ^ k = (p + (1 - x / 4294967296) * 4294967296) * 4294967296 ^ k := by rw [e]
    rw [Nat.add_mul, Nat.add_mul, Nat.add_mul, Nat.mul_assoc (1 - x / 4294967296), Nat.mul_comm 4294967296] at e2
    omega
theorem mnS_all {a b : List Nat} (ha : D8 a) (hb : D8 b) : (mnS a b 8).1 = nD ((pre a 8 + mm - pre b 8) % mm) ∧ (mnS a b 8).2 = if pre a 8 < pre b 8 then 1 else 0 := by
  have h1 := mnS_pre ha hb 8 (Nat.le_refl _)
  have h2 := (mnS_D8 (b := b) ha 8).lt
  have h3 := mnS_owe a b 8
  have h4 := ha.lt
  have h5 := hb.lt
  rw [mm_pow] at h1
  rw [(mnS_D8 (b := b) ha 8).is]
  generalize pre (mnS a b 8).1 8 = x at *
  generalize (mnS a b 8).2 = o at *
  generalize pre a 8 = p at *
  generalize pre b 8 = q at *
  rcases (show o = 0 ∨ o = 1 by omega) with rfl | rfl
  · rw [Nat.zero_mul, Nat.add_zero] at h1
    subst h1
    refine ⟨?_, by rw [if_neg (by omega)]⟩
    rw [show x + q + mm - q = x + mm by omega, Nat.add_mod_right, Nat.mod_eq_of_lt h2]
  · rw [Nat.one_mul] at h1
    refine ⟨?_, by rw [if_pos (by omega)]⟩
    rw [← h1, show x + q - q = x by omega, Nat.mod_eq_of_lt h2]
/-- Eight words out of bytes. -/
def rdW (b : List UInt8) (k : Nat) : Nat := lev ((b.drop (4 * k)).take 4)
def rdS (b : List UInt8) : Nat → List Nat
  | 0 => [0, 0, 0, 0, 0, 0, 0, 0]
  | k + 1 => (rdS b k).set k (rdW b k)
theorem rdW_lt (b : List UInt8) (k : Nat) : rdW b k < 4294967296 := by
  have h := lev_lt ((b.drop (4 * k)).take 4)
  have h2 : 256 ^ ((b.drop (4 * k)).take 4).length ≤ 256 ^ 4 := Nat.pow_le_pow_right (by decide) (List.length_take_le _ _)
  rw [show (256 : Nat) ^ 4 = 4294967296 from rfl] at h2
  exact Nat.lt_of_lt_of_le h h2
theorem rdS_D8 (b : List UInt8) : ∀ k, D8 (rdS b k)
  | 0 => D8.zeros
  | k + 1 => by rw [rdS]; exact (rdS_D8 b k).set _ _ (rdW_lt b k)
theorem rdS_pre (b : List UInt8) (hb : b.length = 32) : ∀ k, k ≤ 8 → pre (rdS b k) k = lev (b.take (4 * k))
  | 0, _ => rfl
  | k + 1, h => by
    have ih := rdS_pre b hb k (by omega)
    rw [rdS, pre_set _ _ _ (by rw [(rdS_D8 b k).1]; omega), ih, Nat.mul_add, Nat.mul_one, List.take_add, lev_append, List.length_take, Nat.min_eq_left (by omega), rdW, Nat.mul_comm (256 ^ (4 * k)), Nat.pow_mul]
theorem rdS_all (b : List UInt8) (hb : b.length = 32) : rdS b 8 = nD (lev b) := by
  rw [(rdS_D8 b 8).is, rdS_pre b hb 8 (Nat.le_refl _), List.take_of_length_le (by omega)]
/-- Bytes out of eight words. -/
def wtS (n k : Nat) : List UInt8 := putL n (min (4 * k) 32) ++ List.replicate (32 - min (4 * k) 32) 0
theorem wtS_length (n k : Nat) : (wtS n k).length = 32 := by rw [wtS, List.length_append, putL_length, List.length_replicate]; omega
theorem putL_mod32 (x k : Nat) (h : k ≤ 4) : putL (x % 4294967296) k = putL x k := by
  rw [putL, putL]
  refine List.map_congr_left fun i hi => ?_
  have hi' : i < 4 := by have := List.mem_range.1 hi; omega
  rw [byteAt, byteAt, ← UInt8.toNat_inj, UInt8.toNat_ofNat', UInt8.toNat_ofNat']
  rcases (show i = 0 ∨ i = 1 ∨ i = 2 ∨ i = 3 by omega) with rfl | rfl | rfl | rfl <;> simp only [Nat.reducePow, Nat.pow_zero] <;> omega
theorem wtS_next (n k : Nat) (hk : k < 8) : wtS n (k + 1) = (wtS n k).take (4 * k) ++ putL ((nD n).getD k 0) 4 ++ (wtS n k).drop (4 * k + 4) := by
  have e1 : min (4 * k) 32 = 4 * k := by omega
  have e2 : min (4 * (k + 1)) 32 = 4 * k + 4 := by omega
  have e3 : 2 ^ (32 * k) = 256 ^ (4 * k) := by rw [show (256 : Nat) = 2 ^ 8 from rfl, ← Nat.pow_mul]; congr 1; omega
  rw [wtS, wtS, e1, e2, putL_div n (4 * k) 4, nD_at n k hk, e3, show (2 : Nat) ^ 32 = 4294967296 from rfl, putL_mod32 _ 4 (Nat.le_refl _)]
  rw [List.take_append_of_le_length (by rw [putL_length]; omega), List.take_of_length_le (by rw [putL_length]; omega)]
  rw [List.drop_append, List.drop_of_length_le (by rw [putL_length]; omega), putL_length, List.nil_append, List.drop_replicate]
  congr 2
  omega
theorem wtS_zero (n : Nat) : wtS n 0 = List.replicate 32 0 := rfl
theorem wtS_all (n : Nat) : wtS n 8 = putL n 32 := by
  rw [wtS]
  show putL n 32 ++ List.replicate 0 0 = _
  rw [List.replicate_zero, List.append_nil]
/-- The rest of a number below the order with one limb more: top, what stays, and what is taken away. -/
def tailN : Nat := 27742317777372353535851937790883648493
theorem LL_tail : NP.LL = 7237005577332262213973186563042994240829374041602535252466099000494570602496 + tailN := by decide
theorem next_top (n limb : Nat) (hl : limb < 4294967296) : (n * 4294967296 + limb) / 7237005577332262213973186563042994240829374041602535252466099000494570602496 = n / 1684996666696914987166688442938726917102321526408785780068975640576 := by omega
theorem next_top_le (n : Nat) (h : n < NP.LL) : n / 1684996666696914987166688442938726917102321526408785780068975640576 ≤ 4294967296 := by simp only [NP.LL] at h; omega
theorem next_small (t : Nat) (h : t ≤ 4294967296) : tailN * t < NP.LL := by
  have h2 : tailN * t ≤ tailN * 4294967296 := Nat.mul_le_mul_left _ h
  exact Nat.lt_of_le_of_lt h2 (by decide)
/-- Of what stays, the tail so often as the top says is taken away: it is the rest. -/
theorem next_rest (x r t : Nat) (hr : r < 7237005577332262213973186563042994240829374041602535252466099000494570602496) (ht : t ≤ 4294967296) (hx : x = t * 7237005577332262213973186563042994240829374041602535252466099000494570602496 + r) : (if r < tailN * t then r + NP.LL - tailN * t else r - tailN * t) = x % NP.LL := by
  have h1 := next_small t ht
  have hL := LL_tail
  have e : x + tailN * t = t * NP.LL + r := by rw [hL, Nat.mul_add, hx, Nat.mul_comm t tailN]; omega
  generalize tailN * t = u at *
  have hLp : 0 < NP.LL := by decide
  have hrl : r < NP.LL := by rw [hL]; omega
  split
  · rename_i h
    have ht1 : 1 ≤ t := by
      rcases Nat.eq_zero_or_pos t with h0 | h0
      · subst h0; rw [Nat.zero_mul] at e; omega
      · exact h0
    obtain ⟨s, rfl⟩ : ∃ s, t = s + 1 := ⟨t - 1, by omega⟩
    rw [Nat.succ_mul] at e
    have hx2 : x = r + NP.LL - u + NP.LL * s := by rw [Nat.mul_comm NP.LL s]; omega
    rw [hx2, Nat.add_mul_mod_self_left, Nat.mod_eq_of_lt (by omega)]
  · have hx2 : x = r - u + NP.LL * t := by rw [Nat.mul_comm NP.LL t]; omega
    rw [hx2, Nat.add_mul_mod_self_left, Nat.mod_eq_of_lt (by omega)]
/-- The limbs of what stays. -/
def upL (n : List Nat) (limb : Nat) : List Nat := limb :: n.take 7
theorem upL_set (n : List Nat) (limb : Nat) (hn : D8 n) (hl : limb < 4294967296) : D8 ((upL n limb).set 7 (n.getD 6 0 % 268435456)) ∧ pre ((upL n limb).set 7 (n.getD 6 0 % 268435456)) 8 = (pre n 8 * 4294967296 + limb) % 7237005577332262213973186563042994240829374041602535252466099000494570602496 ∧ n.getD 7 0 * 16 + n.getD 6 0 / 268435456 = pre n 8 / 1684996666696914987166688442938726917102321526408785780068975640576 := by
  obtain ⟨a, b, c, d, e, f, g, i, rfl⟩ := eight_of n hn.1
  have h0 : a < 4294967296 := hn.2 0
  have h1 : b < 4294967296 := hn.2 1
  have h2 : c < 4294967296 := hn.2 2
  have h3 : d < 4294967296 := hn.2 3
  have h4 : e < 4294967296 := hn.2 4
  have h5 : f < 4294967296 := hn.2 5
  have h6 : g < 4294967296 := hn.2 6
  have h7 : i < 4294967296 := hn.2 7
  have hu : (upL [a, b, c, d, e, f, g, i] limb).set 7 (g % 268435456) = [limb, a, b, c, d, e, f, g % 268435456] := rfl
  show D8 ((upL [a, b, c, d, e, f, g, i] limb).set 7 (g % 268435456)) ∧ pre ((upL [a, b, c, d, e, f, g, i] limb).set 7 (g % 268435456)) 8 = _ ∧ i * 16 + g / 268435456 = _
  rw [hu, pre_eight, pre_eight]
  refine ⟨⟨rfl, fun k => ?_⟩, by omega, by omega⟩
  rcases Nat.lt_or_ge k 8 with h | h
  · rcases (show k = 0 ∨ k = 1 ∨ k = 2 ∨ k = 3 ∨ k = 4 ∨ k = 5 ∨ k = 6 ∨ k = 7 by omega) with rfl | rfl | rfl | rfl | rfl | rfl | rfl | rfl
    · exact hl
    · exact h0
    · exact h1
    · exact h2
    · exact h3
    · exact h4
    · exact h5
    · exact Nat.lt_trans (Nat.mod_lt g (by decide)) (by decide)
  · rw [List.getD_eq_getElem?_getD, List.getElem?_eq_none (by exact h)]; decide
/-- Sixteen limbs: what the higher ones are. -/
def hiW (r : List Nat) : Nat → Nat
  | 0 => 0
  | k + 1 => hiW r k * 4294967296 + r.getD (15 - k) 0
theorem lev_mask (b : List UInt8) (hb : b.length = 32) : lev (b.set 31 (b.getD 31 0 % 128)) = lev b % 57896044618658097711785492504343953926634992332820282019728792003956564819968 := by
  have hg : ∀ c : List UInt8, c.length = 32 → lev c = lev (c.take 31) + (c.getD 31 0).toNat * 452312848583266388373324160190187140051835877600158453279131187530910662656 := fun c hc => by
    have h := lev_step c 31 (by rw [hc]; decide)
    rw [List.take_of_length_le (by rw [hc]; decide)] at h
    exact h
  have hl := lev_take_lt b 31 (by rw [hb]; decide)
  rw [hg _ (by rw [List.length_set]; exact hb), hg b hb, List.take_set_of_le (by decide), show (b.set 31 (b.getD 31 0 % 128)).getD 31 0 = b.getD 31 0 % 128 by rw [List.getD_eq_getElem?_getD, List.getElem?_set_self (by rw [hb]; decide)]; rfl, UInt8.toNat_mod]
  generalize lev (b.take 31) = L at *
  generalize b.getD 31 0 = q
  have hq := q.toNat_lt
  have h8 : (128 : UInt8).toNat = 128 := rfl
  rw [h8]
  generalize q.toNat = y at *
  have hl' : L < 452312848583266388373324160190187140051835877600158453279131187530910662656 := hl
  clear hl
  omega
end Go.Proofs.YtoggkhjaghkpnaaDoor
namespace Go.Proofs.YtoggkhjaghkpnaaDoor
open Go.RowKit
theorem key_eql (ds es : List UInt8) (hd : ds.length = 32) (he : es.length = 32) (w : World) : (binOp .eql 23 (hashVal ds) (hashVal es)).run Tryd.prog w = .ok (.bool (ds == es)) w :=
  run_eql_bytes (P := Tryd.prog) w 23 5 32 Tryd.underlying23 Tryd.underlying5 (fun w => by
    obtain ⟨i0, hi0, hs0⟩ := Option.map_eq_some_iff.1 size_u8
    simp [sizeOf, typeInfo, hi0, hs0]) ds es hd he
end Go.Proofs.YtoggkhjaghkpnaaDoor
namespace Go.Proofs.YtoggkhjaghkpnaaDoor
open Go.RowKit
theorem key_run {w : World} {g : Nat} {l : List UInt8} {t' : TypeId} (hC : Cells w g (l.map cellOf) t') (hl : l.length = 32) : (Instr.loadAt 23 (.pointer (some ⟨g, 0, none⟩))).run Tryd.prog w = .ok (hashVal l) w := by
  have h := run_loadVar_row (P := Tryd.prog) w g t' 23 (l.map cellOf).toArray (0, 0) _ hC Tryd.underlying23 rfl (by rw [List.size_toArray, List.length_map, hl]; exact size_k32)
  simp only [Instr.loadAt, Instr.sureAddr, Sem.run_bind, Sem.run_pure, Result.andThen_ok]
  exact h
theorem pick_true {P : Program} (ρ : Operand → Value) (o : Oper) (c x y : Operand) (h : o.op = .pick c x y) (hc : ρ c = .bool true) (v : Value) (hx : ρ x = v) (w : World) : (execOp ρ o).run P w = .ok (.value v) w := by
  rw [exec_pick ρ o c x y h true hc w, if_pos rfl, hx]
section
variable {P : Program} {w : World} {ops : Array Oper} {rest : List Oper} {o : Oper} {a : Act} {Q : Exit → Act → World → Prop}
theorem wpList_move (hgd : o.guard = none) {x : Operand} (ho : o.op = .move x ∨ o.op = .assign x) (v : Value) (hx : a.eval x = v) (h : wpList P ops Q rest (a.put o.dst v) w) : wpList P ops Q (o :: rest) a w := by
  refine wpList_plain hgd fun K hK => ?_
  exact flat_pure v (exec_move _ _ _ ho _ hx w) (hK _ _ h)
theorem wanted_none {a : Act} {j s : Nat} {b : Bool} (hg : o.guard = some (j, b)) {oj : Oper} (hj : ops[j]? = some oj) (hd : oj.dst = some s) (hv : a.tmps.getD s undef = undef) : Region.wanted o (yielded ops a.tmps) = false := by
  simp only [Region.wanted, hg]
  unfold yielded
  rw [Array.getD_eq_getD_getElem?] at hv
  cases h : a.tmps[s]? with
  | none => simp [hj, hd, h]
  | some v =>
    rw [h] at hv
    obtain rfl : v = undef := hv
    simp [hj, hd, h, undef]
end
theorem key_guard (op : BinOp) (x y : Operand) (a b : List UInt8) (w : World) : (eqGuard op 23 x y (hashVal a) (hashVal b)).run Tryd.prog w = .ok () w := run_eqGuard_agg w op 23 _ _ _ _ (by kernel_rfl)
theorem list5 {l : List Nat} (h : l.length = 5) : ∃ a b c d e, l = [a, b, c, d, e] := by
  match l, h with
  | [a, b, c, d, e], _ => exact ⟨a, b, c, d, e, rfl⟩
theorem load_part {w : World} {g : Nat} {p : List Nat} {t' : TypeId} (hC : Cells w g (p.map ncell) t') (o : Nat) (x : List Nat) (hp : (p.drop o).take 5 = x) (hx : x.length = 5) : (Instr.loadAt 44 (.pointer (some ⟨g, o, none⟩))).run Tryd.prog w = .ok (numVal x) w := by
  have hr := hC.range o 5
  rw [← List.map_drop, ← List.map_take, hp] at hr
  exact run_loadAt_mid w g o 44 (x.map ncell) _ hr Tryd.underlying44 rfl (by rw [List.length_map, hx]; exact size_elem)
abbrev kzeros : List Value := List.replicate 32 (cellOf 0)
theorem kcells_one (l : List UInt8) : (l.map cellOf).toArray.all (·.oneCell') = true := all_oneCell_toArray (cells8_one l)
end Go.Proofs.YtoggkhjaghkpnaaDoor
