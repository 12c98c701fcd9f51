/- Part 8 of what the laws of this seat share: FBytes, FWritten, FSmall, GNum, GMinus. -/
import Derived.IntWalk
import Derived.Test.YtagjbdhelfickaaDoorPart7
namespace Go.Proofs.YtagjbdhelfickaaDoor
open Go.RowKit
/-- Four words of a number. -/
def rows4 (x : Nat) : List Nat := [x % 18446744073709551616, x / 18446744073709551616 % 18446744073709551616, x / 340282366920938463463374607431768211456 % 18446744073709551616, x / 6277101735386680763835789423207666416102355444464034512896 % 18446744073709551616]
theorem rows4_at (b : List UInt8) (hb : b.length = 32) (k : Nat) (hk : k < 4) : bigN ((b.drop (8 * k)).take 8).reverse = (rows4 (lev b)).getD k 0 := by
  rw [lev_rev, lev_take _ _ (by rw [List.length_drop]; omega), lev_drop _ _ (by omega)]
  generalize lev b = x
  rcases (show k = 0 ∨ k = 1 ∨ k = 2 ∨ k = 3 by omega) with rfl | rfl | rfl | rfl
  · show x / 256 ^ 0 % 256 ^ 8 = x % 18446744073709551616
    rw [Nat.pow_zero, Nat.div_one, show 256 ^ 8 = 18446744073709551616 from rfl]
  · show x / 256 ^ 8 % 256 ^ 8 = x / 18446744073709551616 % 18446744073709551616
    rw [show 256 ^ 8 = 18446744073709551616 from rfl]
  · show x / 256 ^ 16 % 256 ^ 8 = x / 340282366920938463463374607431768211456 % 18446744073709551616
    rw [show 256 ^ 8 = 18446744073709551616 from rfl, show 256 ^ 16 = 340282366920938463463374607431768211456 from rfl]
  · show x / 256 ^ 24 % 256 ^ 8 = x / 6277101735386680763835789423207666416102355444464034512896 % 18446744073709551616
    rw [show 256 ^ 8 = 18446744073709551616 from rfl, show 256 ^ 24 = 6277101735386680763835789423207666416102355444464034512896 from rfl]
theorem winL_0 (x0 x1 x2 x3 x4 : Nat) : winL [x0, x1, x2, x3, x4] 0 = winW x0 x1 1 18446744073709551616 := by rw [winL]; simp only [List.getD_cons_zero, List.getD_cons_succ]
theorem limb5_0 (x : Nat) : (limb5 x).getD 0 0 = x % 2251799813685248 := rfl
theorem win_0 (x : Nat) : (x % 18446744073709551616 + x / 18446744073709551616 % 18446744073709551616 * 18446744073709551616 % 18446744073709551616) % 2251799813685248 = x % 2251799813685248 := by
  omega
theorem winL_1 (x0 x1 x2 x3 x4 : Nat) : winL [x0, x1, x2, x3, x4] 1 = winW x0 x1 2251799813685248 8192 := by rw [winL]; simp only [List.getD_cons_zero, List.getD_cons_succ]
theorem limb5_1 (x : Nat) : (limb5 x).getD 1 0 = x / 2251799813685248 % 2251799813685248 := rfl
theorem win_1 (x : Nat) : (x % 18446744073709551616 / 2251799813685248 + x / 18446744073709551616 % 18446744073709551616 * 8192 % 18446744073709551616) % 2251799813685248 = x / 2251799813685248 % 2251799813685248 := by
  omega
theorem winL_2 (x0 x1 x2 x3 x4 : Nat) : winL [x0, x1, x2, x3, x4] 2 = winW x1 x2 274877906944 67108864 := by rw [winL]; simp only [List.getD_cons_zero, List.getD_cons_succ]
theorem limb5_2 (x : Nat) : (limb5 x).getD 2 0 = x / 2251799813685248 / 2251799813685248 % 2251799813685248 := rfl
theorem win_2 (x : Nat) : (x / 18446744073709551616 % 18446744073709551616 / 274877906944 + x / 340282366920938463463374607431768211456 % 18446744073709551616 * 67108864 % 18446744073709551616) % 2251799813685248 = x / 2251799813685248 / 2251799813685248 % 2251799813685248 := by
  omega
theorem winL_3 (x0 x1 x2 x3 x4 : Nat) : winL [x0, x1, x2, x3, x4] 3 = winW x2 x3 33554432 549755813888 := by rw [winL]; simp only [List.getD_cons_zero, List.getD_cons_succ]
theorem limb5_3 (x : Nat) : (limb5 x).getD 3 0 = x / 2251799813685248 / 2251799813685248 / 2251799813685248 % 2251799813685248 := rfl
theorem win_3 (x : Nat) : (x / 340282366920938463463374607431768211456 % 18446744073709551616 / 33554432 + x / 6277101735386680763835789423207666416102355444464034512896 % 18446744073709551616 * 549755813888 % 18446744073709551616) % 2251799813685248 = x / 2251799813685248 / 2251799813685248 / 2251799813685248 % 2251799813685248 := by
  omega
theorem winL_4 (x0 x1 x2 x3 x4 : Nat) : winL [x0, x1, x2, x3, x4] 4 = winW x3 x4 4096 4503599627370496 := by rw [winL]; simp only [List.getD_cons_zero, List.getD_cons_succ]
theorem limb5_4 (x : Nat) : (limb5 x).getD 4 0 = x / 2251799813685248 / 2251799813685248 / 2251799813685248 / 2251799813685248 % 2251799813685248 := rfl
theorem win_4 (x : Nat) (h : x < 115792089237316195423570985008687907853269984665640564039457584007913129639936) : (x / 6277101735386680763835789423207666416102355444464034512896 % 18446744073709551616 / 4096 + 0 * 4503599627370496 % 18446744073709551616) % 2251799813685248 = x / 2251799813685248 / 2251799813685248 / 2251799813685248 / 2251799813685248 % 2251799813685248 := by
  omega
theorem winL_is (x k : Nat) (hx : x < 115792089237316195423570985008687907853269984665640564039457584007913129639936) (hk : k < 5) : winL [x % 18446744073709551616, x / 18446744073709551616 % 18446744073709551616, x / 340282366920938463463374607431768211456 % 18446744073709551616, x / 6277101735386680763835789423207666416102355444464034512896 % 18446744073709551616, 0] k = (limb5 x).getD k 0 := by
  rcases (show k = 0 ∨ k = 1 ∨ k = 2 ∨ k = 3 ∨ k = 4 by omega) with rfl | rfl | rfl | rfl | rfl
  · rw [winL_0, limb5_0, winW, Nat.div_one, win_0]
  · rw [winL_1, limb5_1, winW, win_1]
  · rw [winL_2, limb5_2, winW, win_2]
  · rw [winL_3, limb5_3, winW, win_3]
  · rw [winL_4, limb5_4, winW, win_4 x hx]
theorem take_pad_length (l : List Nat) (h : l.length ≤ 5) (k : Nat) (hk : k ≤ l.length) : (l.take k ++ List.replicate (5 - k) 0).length = 5 := by
  rw [List.length_append, List.length_take, List.length_replicate]; omega
theorem lev_lt32 (b : List UInt8) (hb : b.length = 32) : lev b < 115792089237316195423570985008687907853269984665640564039457584007913129639936 := by
  have h := lev_lt b
  rw [hb] at h
  exact h
theorem cast_div (a b : Nat) : ((a : Int) / (b : Int)) = ((a / b : Nat) : Int) := (Int.natCast_ediv a b).symm
/-- The five windows of four words. -/
theorem wins (x0 x1 x2 x3 : Nat) (q0 : x0 < 18446744073709551616) (q1 : x1 < 18446744073709551616) (q2 : x2 < 18446744073709551616) (q3 : x3 < 18446744073709551616) :
    bits .and .u64 (bits .or .u64 (x0 : Int) (IntKind.u64.wrap ((x1 : Int) * 18446744073709551616))) 2251799813685247 = ((winL [x0, x1, x2, x3, 0] 0 : Nat) : Int) ∧ bits .and .u64 (bits .or .u64 ((x0 : Int) / 2251799813685248) (IntKind.u64.wrap ((x1 : Int) * 8192))) 2251799813685247 = ((winL [x0, x1, x2, x3, 0] 1 : Nat) : Int) ∧
      bits .and .u64 (bits .or .u64 ((x1 : Int) / 274877906944) (IntKind.u64.wrap ((x2 : Int) * 67108864))) 2251799813685247 = ((winL [x0, x1, x2, x3, 0] 2 : Nat) : Int) ∧ bits .and .u64 (bits .or .u64 ((x2 : Int) / 33554432) (IntKind.u64.wrap ((x3 : Int) * 549755813888))) 2251799813685247 = ((winL [x0, x1, x2, x3, 0] 3 : Nat) : Int) ∧
      bits .and .u64 (bits .or .u64 ((x3 : Int) / 4096) (IntKind.u64.wrap (((0 : Nat) : Int) * 4503599627370496))) 2251799813685247 = ((winL [x0, x1, x2, x3, 0] 4 : Nat) : Int) := by
  rw [winL_0, winL_1, winL_2, winL_3, winL_4, winW, winW, winW, winW, winW, Nat.div_one]
  refine ⟨?_, ?_, ?_, ?_, ?_⟩
  · exact win_and x0 x1 64 18446744073709551616 rfl (by decide) q0 (by omega)
  · have h := win_and (x0 / 2251799813685248) x1 13 8192 rfl (by decide) (by omega) (by omega)
    rw [← cast_div] at h
    exact h
  · have h := win_and (x1 / 274877906944) x2 26 67108864 rfl (by decide) (by omega) (by omega)
    rw [← cast_div] at h
    exact h
  · have h := win_and (x2 / 33554432) x3 39 549755813888 rfl (by decide) (by omega) (by omega)
    rw [← cast_div] at h
    exact h
  · have h := win_and (x3 / 4096) 0 52 4503599627370496 rfl (by decide) (by omega) (by omega)
    rw [← cast_div] at h
    exact h
theorem readF_at (b : List UInt8) (x0 x1 x2 x3 : Nat) (r : List Nat) (w : World) (hb : b.length = 32) (hr : r.length = 5) (q0 : x0 < 18446744073709551616) (q1 : x1 < 18446744073709551616) (q2 : x2 < 18446744073709551616) (q3 : x3 < 18446744073709551616)
    (hw : ∀ k, k < 4 → bigN ((b.drop (8 * k)).take 8).reverse = [x0, x1, x2, x3].getD k 0) (hl : ∀ k, k < 5 → winL [x0, x1, x2, x3, 0] k = r.getD k 0) : Calls Tryd.prog 83 #[hashVal b] w fun e w' => e = .returned (numVal r) ∧ Below w.heap.size w w' := by
  obtain ⟨r0, r1, r2, r3, r4, rfl⟩ := five_of r hr
  refine readF_over b x0 x1 x2 x3 0 [r0, r1, r2, r3, r4] (fun k => [x0, x1, x2, x3].take k ++ List.replicate (5 - k) 0) (fun k => [r0, r1, r2, r3, r4].take k ++ List.replicate (5 - k) 0) w hb (fun k hk => take_pad_length _ (Nat.le_of_ble_eq_true rfl) k hk) rfl (fun k hk => ?_) rfl (fun k hk => take_pad_length _ (Nat.le_of_ble_eq_true rfl) k hk) rfl (fun k hk => ?_) rfl (wins x0 x1 x2 x3 q0 q1 q2 q3)
  · rw [hw k hk]
    rcases (show k = 0 ∨ k = 1 ∨ k = 2 ∨ k = 3 by omega) with rfl | rfl | rfl | rfl <;> rfl
  · rw [hl k hk]
    rcases (show k = 0 ∨ k = 1 ∨ k = 2 ∨ k = 3 ∨ k = 4 by omega) with rfl | rfl | rfl | rfl | rfl <;> rfl
theorem readF_any (b : List UInt8) (w : World) (hb : b.length = 32) : Calls Tryd.prog 83 #[hashVal b] w fun e w' => e = .returned (numVal (limb5 (lev b))) ∧ Below w.heap.size w w' :=
  readF_at b _ _ _ _ _ w hb (limb5_length _) (Nat.mod_lt _ (by decide)) (Nat.mod_lt _ (by decide)) (Nat.mod_lt _ (by decide)) (Nat.mod_lt _ (by decide)) (fun k hk => rows4_at b hb k hk) (fun k hk => winL_is (lev b) k (lev_lt32 b hb) hk)
set_option maxRecDepth 100000 in
theorem readE_over (b : List UInt8) (s r : List Nat) (w : World) (HB : Hid (b.length = 32)) (HR : Hid (r.length = 5)) (CP : Hid (∀ W, Calls Tryd.prog 83 #[hashVal b] W fun e w' => e = .returned (numVal s) ∧ Below W.heap.size W w'))
    (CL : Hid (∀ W, Calls Tryd.prog 73 #[numVal s] W fun e w' => e = .returned (numVal r) ∧ Below W.heap.size W w')) (BE : ∀ w, (Instr.build 29 #[(0, numVal r)]).run Tryd.prog w = .ok (numVal r) w) :
    Calls Tryd.prog 61 #[hashVal b] w fun e w' => e = .returned (numVal r) ∧ Below w.heap.size w w' := by
  go_enter Tryd.func61, Tryd.ntmps61
  go_wp2_with (first
    | (refine take_step rfl 23 (.tmp 0) rfl b rfl ?_
       intro w1 hB1 hA1 hz
       clear hz
       try simp only [Act.put, List.setIfInBounds_toArray, List.set_cons_zero, List.set_cons_succ]
       skip)
    | (refine vzero_step rfl 29 rfl (nzeros 5) zero_elem ?_
       intro w3 hb3 hZ3
       have hB3 := below_then hB1 hb3
       have hA3 := hA1.on hb3
       have hle := hB1.size
       clear hB1 hA1 hb3
       try simp only [Act.put, List.setIfInBounds_toArray, List.set_cons_zero, List.set_cons_succ]
       skip)
    | (refine get_step rfl 23 (.tmp 1) rfl w.heap.size 32 b _ rfl hA3 Tryd.underlying23 size_k32 HB.out ?_
       clear hA3
       try simp only [Act.put, List.setIfInBounds_toArray, List.set_cons_zero, List.set_cons_succ]
       skip))
  generalize w1.heap.size = gz at *
  refine (CP.out w3).mono ?_
  rintro e w4 ⟨rfl, hb4⟩
  have hB4 := below_then hB3 hb4
  have hZ4 := hZ3.on hb4
  clear CP hB3 hZ3 hb4
  go_wp2_with fail
  refine (CL.out w4).mono ?_
  rintro e w5 ⟨rfl, hb5⟩
  have hB5 := below_then hB4 hb5
  have hZ5 := hZ4.on hb5
  clear CL hB4 hZ4 hb5
  go_wp2_with (first
    | (refine build_step rfl 29 _ rfl [(0, numVal r)] rfl _ BE ?_)
    | (refine vset_step rfl 29 _ _ rfl gz 5 (nzeros 5) (r.map ncell) rfl rfl hZ5 rfl size_elem (by rw [List.length_map, HR.out]) (ncells_one _) ?_
       intro w6 hb6 hC6 _))
  refine sret Tryd.results61 gz (r.map ncell) rfl hC6 Tryd.underlying29 rfl size_elem (by rw [List.length_map, HR.out]) rfl ⟨rfl, hB5.trans (hb6.below hle hB5.size)⟩
/-- The number of a key. -/
def keyN (b : List UInt8) : Nat := lev b % 57896044618658097711785492504343953926634992332820282019728792003956564819968 % pp
theorem keyN_lt (b : List UInt8) : keyN b < pp := Nat.mod_lt _ (by decide)
theorem val5_lim (x : Nat) : val5 (lx x 0) (lx x 1) (lx x 2) (lx x 3) (lx x 4) = x % 57896044618658097711785492504343953926634992332820282019728792003956564819968 := by
  have e : ∀ k, lx (x % 57896044618658097711785492504343953926634992332820282019728792003956564819968) k = lx x k := fun k => by rw [lx, limb5_mod]; rfl
  rw [← e 0, ← e 1, ← e 2, ← e 3, ← e 4]
  exact val5_limbs _ (Nat.mod_lt _ (by decide))
theorem readE_any (b : List UInt8) (w : World) (hb : b.length = 32) : Calls Tryd.prog 61 #[hashVal b] w fun e w' => e = .returned (elV (keyN b)) ∧ Below w.heap.size w w' := by
  have hx := lx_lt (lev b)
  refine readE_over b (limb5 (lev b)) (limb5 (keyN b)) w hb rfl (fun W => readF_any b W hb) (fun W => ?_) (build_elN _ rfl)
  have h := least_any (lx (lev b) 0) (lx (lev b) 1) (lx (lev b) 2) (lx (lev b) 3) (lx (lev b) 4) _ W (by have := hx 0; omega) (by have := hx 1; omega) (by have := hx 2; omega) (by have := hx 3; omega) (by have := hx 4; omega) rfl
  rw [val5_lim] at h
  exact h
end Go.Proofs.YtagjbdhelfickaaDoor
namespace Go.Proofs.YtagjbdhelfickaaDoor
open Go.RowKit
theorem splice_put (s p : List UInt8) (o : Nat) (hp : p.length = 8) : splice (s.map cellOf) o (p.map cellOf) = (s.take o ++ p ++ s.drop (o + 8)).map cellOf := by
  simp [splice, hp, List.map_take, List.map_drop]
set_option maxRecDepth 100000 in
set_option maxHeartbeats 4000000 in
theorem writtenF_over (n0 n1 n2 n3 n4 : Nat) (r : List UInt8) (P : Nat → List UInt8) (X : Nat → Nat) (w : World)
    (HV : Hid (bits .or .u64 (n0 : Int) (IntKind.u64.wrap ((n1 : Int) * 2251799813685248)) = (X 0 : Int) ∧ bits .or .u64 ((n1 : Int) / 8192) (IntKind.u64.wrap ((n2 : Int) * 274877906944)) = (X 1 : Int) ∧ bits .or .u64 ((n2 : Int) / 67108864) (IntKind.u64.wrap ((n3 : Int) * 33554432)) = (X 2 : Int) ∧ bits .or .u64 ((n3 : Int) / 549755813888) (IntKind.u64.wrap ((n4 : Int) * 4096)) = (X 3 : Int)))
    (HX : Hid (∀ k, X k < 18446744073709551616)) (H0 : Hid (P 0 = List.replicate 32 0)) (HL : Hid (∀ k, (P k).length = 32)) (HP : Hid (∀ k, k < 4 → P (k + 1) = (P k).take (8 * k) ++ putL (X k) 8 ++ (P k).drop (8 * k + 8))) (HR : Hid (P 4 = r)) :
    Calls Tryd.prog 75 #[numVal [n0, n1, n2, n3, n4]] w fun e w' => e = .returned (hashVal r) ∧ Below w.heap.size w w' := by
  have HRL : Hid (r.length = 32) := by show _ = _; rw [← HR.out]; exact HL.out 4
  go_enter Tryd.func75, Tryd.ntmps75
  go_wp2_with (first
    | (refine vtake_step rfl 27 (.tmp 0) rfl ([n0, n1, n2, n3, n4].map ncell) rfl ?_
       intro w1 hB1 hA1)
    | (refine zero_step (o := ⟨some 2, _, _, _, _, _⟩) rfl 23 rfl 32 zero_k32 ?_
       intro w2 hb2 hZ2 hz
       have hB2 := below_then hB1 hb2
       have hA2 := hA1.on hb2
       have hg1 := hA1.lt
       clear hB1 hA1 hb2 hz)
    | (refine zero_step (o := ⟨some 3, _, _, _, _, _⟩) rfl 23 rfl 32 zero_k32 ?_
       intro w3 hb3 hS3 hz
       have hB3 := below_then hB2 hb3
       have hA3 := hA2.on hb3
       have hZ3 := hZ2.on hb3
       have hg2 := hZ2.lt
       clear hB2 hA2 hZ2 hb3 hz))
  generalize hg : w1.heap.size = gz at *
  generalize hh : w2.heap.size = gs at *
  clear hg hh
  have j1 : IntKind.i64.wrap 1 = 1 := by decide
  have j2 : IntKind.i64.wrap 2 = 2 := by decide
  have j3 : IntKind.i64.wrap 3 = 3 := by decide
  have j4 : IntKind.i64.wrap 4 = 4 := by decide
  have j5 : IntKind.i64.wrap 51 = 51 := by decide
  have j6 : IntKind.i64.wrap 38 = 38 := by decide
  have j7 : IntKind.i64.wrap 25 = 25 := by decide
  have j8 : IntKind.i64.wrap 12 = 12 := by decide
  go_loopw [11] (fun i wr => ∃ k : Nat, k ≤ 4 ∧ i = .int .i64 k ∧ Below w.heap.size w wr ∧ Cells wr w.heap.size ([n0, n1, n2, n3, n4].map ncell) 27 ∧ Cells wr gz (List.replicate 32 (cellOf 0)) 23 ∧ Cells wr gs ((P k).map cellOf) 23) (fun i _ => 4 - (intOf i).toNat)
  case atStart => exact ⟨0, Nat.zero_le _, rfl, hB3, hA3, hZ3, by rw [H0.out, List.map_replicate]; exact hS3⟩
  case round =>
    clear hB3 hA3 hZ3 hS3
    obtain ⟨k, hk, rfl, hB, hA, hZ, hS⟩ := hrel
    have HLk := Lib.hid (HL.out k)
    by_cases hlt : k < 4
    · have HN := Lib.hid (HP.out k hlt)
      have HXk := Lib.hid (HX.out k)
      have CP := Lib.hid (fun W => putLittle_in (X k) 8 W (HX.out k) (by decide))
      obtain ⟨z, HZ⟩ := namedF (P (k + 1))
      rw [HZ.out] at HN
      have HVk := Lib.hid HV.out
      have d0 := hA.get (v := ncell n0) (j := 0) rfl
      have d1 := hA.get (v := ncell n1) (j := 1) rfl
      have d2 := hA.get (v := ncell n2) (j := 2) rfl
      have d3 := hA.get (v := ncell n3) (j := 3) rfl
      have d4 := hA.get (v := ncell n4) (j := 4) rfl
      generalize P k = s at *
      clear HV HX H0 HL HP HR HRL
      rcases (show k = 0 ∨ k = 1 ∨ k = 2 ∨ k = 3 by omega) with rfl | rfl | rfl | rfl
      all_goals
        simp only [Nat.mul_zero, Nat.reduceMul, Nat.reduceAdd, Nat.zero_add] at HN HZ
        go_wp2_with fail
        go_quiet (fail)
        first | rw [HVk.out.1] | rw [HVk.out.2.1] | rw [HVk.out.2.2.1] | rw [HVk.out.2.2.2]
        have hB4 : Below w.heap.size w (wr.drewN nq) := ⟨hB.os, hB.tape, hB.output, hB.size, hB.block⟩
        have hA4 := hA.drewN nq
        have hZ4 := hZ.drewN nq
        have hS4 := hS.drewN nq
        generalize wr.drewN nq = w4 at *
        clear hB hA hZ hS d0 d1 d2 d3 d4 HVk
        have hLs : (s.map cellOf).length = 32 := by rw [List.length_map, HLk.out]
        go_wp2_with fail
        refine (CP.out w4).mono ?_
        rintro e w5 ⟨rfl, hb5, hM5⟩
        have hB5 := below_then hB4 hb5
        have hA5 := hA4.on hb5
        have hZ5 := hZ4.on hb5
        have hS5 := hS4.on hb5
        clear CP hB4 hA4 hZ4 hS4 hb5
        go_wp2_with (first
          | (refine copy_row rfl (.tmp 40) (.tmp 41) rfl gs _ _ _ 8 8 w5.heap.size 8 (some ⟨w4.heap.size, 0, none⟩) _ rfl rfl (putL_length _ _) (by decide) (hM5.row hM5.lt) (hS5.there _ 8 (by rw [hLs]; decide)) ?_
             intro w6 hw6
             rw [List.take_of_length_le (by rw [putL_length]; decide)] at hw6
             have hb6 : But gs w5 w6 := by rw [hw6]; exact (But.refl gs w5).setCells _ _
             have hS6 : Cells w6 gs (z.map cellOf) 23 := by
               rw [hw6, HN.out, ← splice_put _ _ _ (putL_length _ 8)]
               exact hS5.setCells (by rw [List.length_map, putL_length, hLs]; decide)
             have hB6 := hB5.trans (hb6.below (by omega) hB5.size)
             have hA6 := hA5.but hb6 (by omega)
             have hZ6 := hZ5.but hb6 (by omega)
             clear hw6 hb6 hB5 hA5 hZ5 hS5 hM5))
        go_roundw
        case rel =>
          rw [← HZ.out] at hS6
          first | exact ⟨1, by omega, rfl, hB6, hA6, hZ6, hS6⟩ | exact ⟨2, by omega, rfl, hB6, hA6, hZ6, hS6⟩ | exact ⟨3, by omega, rfl, hB6, hA6, hZ6, hS6⟩ | exact ⟨4, by omega, rfl, hB6, hA6, hZ6, hS6⟩
        case measure => simp [intOf]
    · obtain rfl : k = 4 := by omega
      rw [HR.out] at hS
      go_wp2_with (first
        | (refine get_step rfl 23 _ rfl gs 32 r _ rfl hS Tryd.underlying23 size_k32 HRL.out ?_)
        | (refine set_step rfl 23 _ _ rfl gz 32 (List.replicate 32 (cellOf 0)) r rfl rfl hZ List.length_replicate size_k32 HRL.out ?_
           intro w7 hb7 hC7 _))
      exact ret_hash Tryd.results75 gz r rfl hC7 Tryd.underlying23 size_k32 HRL.out rfl ⟨rfl, hB.trans (hb7.below (by omega) hB.size)⟩
/-- A number's bytes, the low one first. -/
def keyB (n : Nat) : List UInt8 := putL n 32
theorem keyB_length (n : Nat) : (keyB n).length = 32 := putL_length n 32
theorem putL_div (x j : Nat) : ∀ k, putL x (j + k) = putL x j ++ putL (x / 256 ^ j) k
  | 0 => by rw [show putL (x / 256 ^ j) 0 = [] from rfl, List.append_nil, Nat.add_zero]
  | k + 1 => by
    rw [← Nat.add_assoc, putL_succ, putL_div x j k, putL_succ, List.append_assoc, byteAt, byteAt, Nat.div_div_eq_div_mul, Nat.pow_add]
theorem putL_mod (x k : Nat) (h : k ≤ 8) : putL (x % 18446744073709551616) k = putL x k := by
  rw [putL, putL]
  refine List.map_congr_left fun i hi => ?_
  have hi' : i < 8 := by have := List.mem_range.1 hi; omega
  rw [byteAt, byteAt, ← UInt8.toNat_inj, UInt8.toNat_ofNat', UInt8.toNat_ofNat']
  rcases (show i = 0 ∨ i = 1 ∨ i = 2 ∨ i = 3 ∨ i = 4 ∨ i = 5 ∨ i = 6 ∨ i = 7 by omega) with rfl | rfl | rfl | rfl | rfl | rfl | rfl | rfl <;> simp only [Nat.reducePow, Nat.pow_zero] <;> omega
/-- The four words of a number. -/
def word4 (n k : Nat) : Nat := n / 256 ^ (8 * k) % 18446744073709551616
theorem word4_0 (n : Nat) : word4 n 0 = n % 18446744073709551616 := by rw [word4, Nat.mul_zero, Nat.pow_zero, Nat.div_one]
theorem word4_1 (n : Nat) : word4 n 1 = n / 18446744073709551616 % 18446744073709551616 := by rw [word4, show 256 ^ (8 * 1) = 18446744073709551616 from rfl]
theorem word4_2 (n : Nat) : word4 n 2 = n / 340282366920938463463374607431768211456 % 18446744073709551616 := by rw [word4, show 256 ^ (8 * 2) = 340282366920938463463374607431768211456 from rfl]
theorem word4_3 (n : Nat) : word4 n 3 = n / 6277101735386680763835789423207666416102355444464034512896 % 18446744073709551616 := by rw [word4, show 256 ^ (8 * 3) = 6277101735386680763835789423207666416102355444464034512896 from rfl]
theorem word_0 (n : Nat) : n % 2251799813685248 + n / 2251799813685248 % 2251799813685248 * 2251799813685248 % 18446744073709551616 = n % 18446744073709551616 := by omega
theorem word_1 (n : Nat) : n / 2251799813685248 % 2251799813685248 / 8192 + n / 2251799813685248 / 2251799813685248 % 2251799813685248 * 274877906944 % 18446744073709551616 = n / 18446744073709551616 % 18446744073709551616 := by omega
theorem word_2 (n : Nat) : n / 2251799813685248 / 2251799813685248 % 2251799813685248 / 67108864 + n / 2251799813685248 / 2251799813685248 / 2251799813685248 % 2251799813685248 * 33554432 % 18446744073709551616 = n / 340282366920938463463374607431768211456 % 18446744073709551616 := by omega
theorem word_3 (n : Nat) (h : n < 57896044618658097711785492504343953926634992332820282019728792003956564819968) : n / 2251799813685248 / 2251799813685248 / 2251799813685248 % 2251799813685248 / 549755813888 + n / 2251799813685248 / 2251799813685248 / 2251799813685248 / 2251799813685248 % 2251799813685248 * 4096 % 18446744073709551616 = n / 6277101735386680763835789423207666416102355444464034512896 % 18446744073709551616 := by omega
theorem words_or (n0 n1 n2 n3 n4 : Nat) (q0 : n0 < 2251799813685248) (q1 : n1 < 2251799813685248) (q2 : n2 < 2251799813685248) (q3 : n3 < 2251799813685248) :
    bits .or .u64 (n0 : Int) (IntKind.u64.wrap ((n1 : Int) * 2251799813685248)) = ((n0 + n1 * 2251799813685248 % 18446744073709551616 : Nat) : Int) ∧ bits .or .u64 ((n1 : Int) / 8192) (IntKind.u64.wrap ((n2 : Int) * 274877906944)) = ((n1 / 8192 + n2 * 274877906944 % 18446744073709551616 : Nat) : Int) ∧
    bits .or .u64 ((n2 : Int) / 67108864) (IntKind.u64.wrap ((n3 : Int) * 33554432)) = ((n2 / 67108864 + n3 * 33554432 % 18446744073709551616 : Nat) : Int) ∧ bits .or .u64 ((n3 : Int) / 549755813888) (IntKind.u64.wrap ((n4 : Int) * 4096)) = ((n3 / 549755813888 + n4 * 4096 % 18446744073709551616 : Nat) : Int) := by
  refine ⟨?_, ?_, ?_, ?_⟩
  · exact win_or n0 n1 51 2251799813685248 rfl (by decide) q0
  · have h := win_or (n1 / 8192) n2 38 274877906944 rfl (by decide) (by omega)
    rw [← cast_div] at h
    exact h
  · have h := win_or (n2 / 67108864) n3 25 33554432 rfl (by decide) (by omega)
    rw [← cast_div] at h
    exact h
  · have h := win_or (n3 / 549755813888) n4 12 4096 rfl (by decide) (by omega)
    rw [← cast_div] at h
    exact h
theorem written_at (n0 n1 n2 n3 n4 n : Nat) (w : World) (HV : bits .or .u64 (n0 : Int) (IntKind.u64.wrap ((n1 : Int) * 2251799813685248)) = (word4 n 0 : Int) ∧ bits .or .u64 ((n1 : Int) / 8192) (IntKind.u64.wrap ((n2 : Int) * 274877906944)) = (word4 n 1 : Int) ∧ bits .or .u64 ((n2 : Int) / 67108864) (IntKind.u64.wrap ((n3 : Int) * 33554432)) = (word4 n 2 : Int) ∧ bits .or .u64 ((n3 : Int) / 549755813888) (IntKind.u64.wrap ((n4 : Int) * 4096)) = (word4 n 3 : Int)) :
    Calls Tryd.prog 75 #[numVal [n0, n1, n2, n3, n4]] w fun e w' => e = .returned (hashVal (keyB n)) ∧ Below w.heap.size w w' := by
  have hl : ∀ k, (putL n (min (8 * k) 32) ++ List.replicate (32 - min (8 * k) 32) (0 : UInt8)).length = 32 := fun k => by rw [List.length_append, putL_length, List.length_replicate]; omega
  refine writtenF_over n0 n1 n2 n3 n4 (keyB n) (fun k => putL n (min (8 * k) 32) ++ List.replicate (32 - min (8 * k) 32) 0) (word4 n) w HV (fun k => Nat.mod_lt _ (by decide)) (by show _ = _; simp [putL]) hl (fun k hk => ?_) ?_
  · have e1 : min (8 * k) 32 = 8 * k := by omega
    have e2 : min (8 * (k + 1)) 32 = 8 * k + 8 := by omega
    rw [e1, e2, putL_div n (8 * k) 8, word4, putL_mod _ 8 (Nat.le_refl _)]
    rw [List.take_append_of_le_length (by rw [putL_length]; omega), List.take_of_length_le (by rw [putL_length]; omega)]
    rw [List.drop_append, List.drop_of_length_le (by rw [putL_length]; omega), putL_length, List.nil_append, List.drop_replicate]
    congr 2
    omega
  · show putL n 32 ++ List.replicate 0 0 = _
    rw [List.replicate_zero, List.append_nil]; rfl
theorem written_any (n : Nat) (w : World) (hn : n < pp) : Calls Tryd.prog 75 #[elV n] w fun e w' => e = .returned (hashVal (keyB n)) ∧ Below w.heap.size w w' := by
  have h := words_or (lx n 0) (lx n 1) (lx n 2) (lx n 3) (lx n 4) (lx_lt _ _) (lx_lt _ _) (lx_lt _ _) (lx_lt _ _)
  refine written_at (lx n 0) (lx n 1) (lx n 2) (lx n 3) (lx n 4) n w ?_
  rw [word4_0, word4_1, word4_2, word4_3, ← word_0, ← word_1, ← word_2, ← word_3 n (by simp only [pp] at hn; omega)]
  exact h
set_option maxRecDepth 100000 in
theorem bytesE_over (a : List Nat) (r : List UInt8) (w : World) (HA : Hid (a.length = 5)) (HR : Hid (r.length = 32)) (CP : Hid (∀ W, Calls Tryd.prog 75 #[numVal a] W fun e w' => e = .returned (hashVal r) ∧ Below W.heap.size W w')) :
    Calls Tryd.prog 44 #[numVal a] w fun e w' => e = .returned (hashVal r) ∧ Below w.heap.size w w' := by
  go_enter Tryd.func44, Tryd.ntmps44
  go_wp2_with (first
    | (refine vtake_step rfl 29 (.tmp 0) rfl (a.map ncell) rfl ?_
       intro w1 hB1 hA1
       try simp only [Act.put, List.setIfInBounds_toArray, List.set_cons_zero, List.set_cons_succ]
       skip)
    | (refine zero_step rfl 23 rfl 32 zero_k32 ?_
       intro w3 hb3 hZ3 hz
       have hB3 := below_then hB1 hb3
       have hA3 := hA1.on hb3
       have hle := hB1.size
       clear hB1 hA1 hb3 hz
       try simp only [Act.put, List.setIfInBounds_toArray, List.set_cons_zero, List.set_cons_succ]
       skip)
    | (refine sget_step rfl 27 (.tmp 3) rfl w.heap.size 5 (a.map ncell) rfl hA3 Tryd.underlying27 rfl size_numF (by rw [List.length_map, HA.out]) ?_
       clear hA3
       try simp only [Act.put, List.setIfInBounds_toArray, List.set_cons_zero, List.set_cons_succ]
       skip))
  generalize w1.heap.size = gz at *
  refine (CP.out w3).mono ?_
  rintro e w4 ⟨rfl, hb4⟩
  have hB4 := below_then hB3 hb4
  have hZ4 := hZ3.on hb4
  clear CP hB3 hZ3 hb4
  go_wp2_with (first
    | (refine set_step rfl 23 _ _ rfl gz 32 (List.replicate 32 (cellOf 0)) r rfl rfl hZ4 List.length_replicate size_k32 HR.out ?_
       intro w6 hb6 hC6 _))
  exact ret_hash Tryd.results44 gz r rfl hC6 Tryd.underlying23 size_k32 HR.out rfl ⟨rfl, hB4.trans (hb6.below hle hB4.size)⟩
theorem bytesE_any (n : Nat) (w : World) (hn : n < pp) : Calls Tryd.prog 44 #[elV n] w fun e w' => e = .returned (hashVal (keyB n)) ∧ Below w.heap.size w w' :=
  bytesE_over (limb5 n) (keyB n) w rfl (keyB_length n) (fun W => written_any n W hn)
end Go.Proofs.YtagjbdhelfickaaDoor
namespace Go.Proofs.YtagjbdhelfickaaDoor
open Go.RowKit
theorem limb5_word (x : Nat) (h : x < 18446744073709551616) : limb5 x = [x % 2251799813685248, x / 2251799813685248, 0, 0, 0] := by
  simp only [limb5, List.cons.injEq, and_true]
  refine ⟨trivial, ?_, ?_, ?_, ?_⟩ <;> omega
set_option maxRecDepth 100000 in
theorem small_over (x a b : Nat) (r : List Nat) (w : World) (HR : Hid (r.length = 5)) (M1 : bits .and .u64 (x : Int) 2251799813685247 = (a : Int)) (M2 : (x : Int) / 2251799813685248 = (b : Int)) (BN : ∀ w, (Instr.build 27 #[(0, ncell a), (1, ncell b)]).run Tryd.prog w = .ok (numVal r) w) (BE : ∀ w, (Instr.build 29 #[(0, numVal r)]).run Tryd.prog w = .ok (numVal r) w) :
    Calls Tryd.prog 80 #[ncell x] w fun e w' => e = .returned (numVal r) ∧ Below w.heap.size w w' := by
  go_enter Tryd.func80, Tryd.ntmps80
  go_wp2_with (first
    | (refine vzero_step rfl 29 rfl (nzeros 5) zero_elem ?_
       intro w3 hB3 hZ3)
    | (refine build_step rfl 27 _ rfl [(0, ncell a), (1, ncell b)] rfl _ BN ?_)
    | (refine build_step rfl 29 _ rfl [(0, numVal r)] rfl _ BE ?_)
    | (refine vset_step rfl 29 _ _ rfl w.heap.size 5 (nzeros 5) (r.map ncell) rfl rfl hZ3 rfl size_elem (by rw [List.length_map, HR.out]) (ncells_one _) ?_
       intro w6 hb6 hC6 _))
  exact sret Tryd.results80 w.heap.size (r.map ncell) rfl hC6 Tryd.underlying29 rfl size_elem (by rw [List.length_map, HR.out]) rfl ⟨rfl, hB3.trans (hb6.below (Nat.le_refl _) hB3.size)⟩
theorem small_any (x : Nat) (w : World) (h : x < 18446744073709551616) : Calls Tryd.prog 80 #[ncell x] w fun e w' => e = .returned (elV x) ∧ Below w.heap.size w w' :=
  small_over x (x % 2251799813685248) (x / 2251799813685248) (limb5 x) w rfl (and51 x h) rfl (fun w => by rw [limb5_word x h]; exact build_two _ _ w) (build_elV x)
/-- A small number modulo p. -/
def smallN (n : Int) : Nat := (n % (pp : Int)).toNat
set_option maxRecDepth 100000 in
theorem smallE_pos (n : Int) (x : Nat) (r : List Nat) (w : World) (h0 : ¬ n < 0) (HR : Hid (r.length = 5)) (M1 : IntKind.u64.wrap n = (x : Int)) (CS : Hid (∀ W, Calls Tryd.prog 80 #[ncell x] W fun e w' => e = .returned (numVal r) ∧ Below W.heap.size W w')) :
    Calls Tryd.prog 55 #[.int .i64 n] w fun e w' => e = .returned (numVal r) ∧ Below w.heap.size w w' := by
  go_enter Tryd.func55, Tryd.ntmps55
  go_wp2_with (first
    | (refine vzero_step rfl 29 rfl (nzeros 5) zero_elem ?_
       intro w3 hB3 hZ3))
  refine (CS.out w3).mono ?_
  rintro e w4 ⟨rfl, hb4⟩
  have hB4 := below_then hB3 hb4
  have hZ4 := hZ3.on hb4
  clear CS hB3 hZ3 hb4
  go_wp2_with (first
    | (refine vset_step rfl 29 _ _ rfl w.heap.size 5 (nzeros 5) (r.map ncell) rfl rfl hZ4 rfl size_elem (by rw [List.length_map, HR.out]) (ncells_one _) ?_
       intro w6 hb6 hC6 _))
  exact sret Tryd.results55 w.heap.size (r.map ncell) rfl hC6 Tryd.underlying29 rfl size_elem (by rw [List.length_map, HR.out]) rfl ⟨rfl, hB4.trans (hb6.below (Nat.le_refl _) hB4.size)⟩
set_option maxRecDepth 100000 in
theorem smallE_neg (n : Int) (x : Nat) (r s z : List Nat) (w : World) (h0 : n < 0) (HR : Hid (r.length = 5)) (M1 : IntKind.u64.wrap (-(IntKind.u64.wrap n)) = (x : Int)) (HN : ∀ w, (Instr.build 29 #[]).run Tryd.prog w = .ok (numVal z) w) (CS : Hid (∀ W, Calls Tryd.prog 80 #[ncell x] W fun e w' => e = .returned (numVal s) ∧ Below W.heap.size W w')) (CU : Hid (∀ W, Calls Tryd.prog 47 #[numVal z, numVal s] W fun e w' => e = .returned (numVal r) ∧ Below W.heap.size W w')) :
    Calls Tryd.prog 55 #[.int .i64 n] w fun e w' => e = .returned (numVal r) ∧ Below w.heap.size w w' := by
  go_enter Tryd.func55, Tryd.ntmps55
  go_wp2_with (first
    | (refine vzero_step rfl 29 rfl (nzeros 5) zero_elem ?_
       intro w3 hB3 hZ3)
    | (refine build_step rfl 29 [] rfl [] rfl _ HN ?_))
  refine (CS.out w3).mono ?_
  rintro e w4 ⟨rfl, hb4⟩
  have hB4 := below_then hB3 hb4
  have hZ4 := hZ3.on hb4
  clear CS hB3 hZ3 hb4
  go_wp2_with fail
  refine (CU.out w4).mono ?_
  rintro e w5 ⟨rfl, hb5⟩
  have hB5 := below_then hB4 hb5
  have hZ5 := hZ4.on hb5
  clear CU hB4 hZ4 hb5
  go_wp2_with (first
    | (refine vset_step rfl 29 _ _ rfl w.heap.size 5 (nzeros 5) (r.map ncell) rfl rfl hZ5 rfl size_elem (by rw [List.length_map, HR.out]) (ncells_one _) ?_
       intro w6 hb6 hC6 _))
  exact sret Tryd.results55 w.heap.size (r.map ncell) rfl hC6 Tryd.underlying29 rfl size_elem (by rw [List.length_map, HR.out]) rfl ⟨rfl, hB5.trans (hb6.below (Nat.le_refl _) hB5.size)⟩
theorem smallE_any (n : Int) (w : World) (h1 : -9223372036854775808 ≤ n) (h2 : n < 9223372036854775808) : Calls Tryd.prog 55 #[.int .i64 n] w fun e w' => e = .returned (elV (smallN n)) ∧ Below w.heap.size w w' := by
  by_cases h0 : n < 0
  · have hx : (-n).toNat < 18446744073709551616 := by omega
    have e1 : IntKind.u64.wrap (-(IntKind.u64.wrap n)) = (((-n).toNat : Nat) : Int) := by rw [IntKind.wrap_u64, IntKind.wrap_u64]; omega
    have e2 : smallN n = (0 + (pp - (-n).toNat)) % pp := by simp only [smallN, pp]; omega
    rw [e2]
    exact smallE_neg n (-n).toNat (limb5 _) (limb5 (-n).toNat) (limb5 0) w h0 rfl e1 build_none (fun W => small_any _ W hx) (fun W => eSub_any 0 _ W (by decide) (by simp only [pp]; omega))
  · have e1 : IntKind.u64.wrap n = ((n.toNat : Nat) : Int) := by rw [IntKind.wrap_u64]; omega
    have e2 : smallN n = n.toNat := by simp only [smallN, pp]; omega
    rw [e2]
    exact smallE_pos n n.toNat (limb5 n.toNat) w h0 rfl e1 (fun W => small_any _ W (by omega))
set_option maxRecDepth 100000 in
theorem curveE_any (u : List Nat) (w : World) (HU : Hid (u.length = 5)) (hU : Tab w 19 (u.map ncell)) (BU : ∀ w, (Instr.build 29 #[(0, numVal u)]).run Tryd.prog w = .ok (numVal u) w) :
    Calls Tryd.prog 52 #[] w fun e w' => e = .returned (numVal u) ∧ Below w.heap.size w w' := by
  go_enter Tryd.func52, Tryd.ntmps52
  go_wp2_with (first
    | (refine vzero_step rfl 29 rfl (nzeros 5) zero_elem ?_
       intro w3 hB3 hZ3
       have hU3 := hU.on hB3)
    | (refine tget_step rfl 27 (.global 19) rfl 19 5 (u.map ncell) rfl hU3 Tryd.underlying27 rfl size_numF (by rw [List.length_map, HU.out]) ?_)
    | (refine build_step rfl 29 _ rfl [(0, numVal u)] rfl _ BU ?_)
    | (refine vset_step rfl 29 _ _ rfl w.heap.size 5 (nzeros 5) (u.map ncell) rfl rfl hZ3 rfl size_elem (by rw [List.length_map, HU.out]) (ncells_one _) ?_
       intro w6 hb6 hC6 _))
  exact sret Tryd.results52 w.heap.size (u.map ncell) rfl hC6 Tryd.underlying29 rfl size_elem (by rw [List.length_map, HU.out]) rfl ⟨rfl, hB3.trans (hb6.below (Nat.le_refl _) hB3.size)⟩
set_option maxRecDepth 100000 in
theorem baseXE_any (u : List Nat) (w : World) (HU : Hid (u.length = 5)) (hU : Tab w 20 (u.map ncell)) (BU : ∀ w, (Instr.build 29 #[(0, numVal u)]).run Tryd.prog w = .ok (numVal u) w) :
    Calls Tryd.prog 59 #[] w fun e w' => e = .returned (numVal u) ∧ Below w.heap.size w w' := by
  go_enter Tryd.func59, Tryd.ntmps59
  go_wp2_with (first
    | (refine vzero_step rfl 29 rfl (nzeros 5) zero_elem ?_
       intro w3 hB3 hZ3
       have hU3 := hU.on hB3)
    | (refine tget_step rfl 27 (.global 20) rfl 20 5 (u.map ncell) rfl hU3 Tryd.underlying27 rfl size_numF (by rw [List.length_map, HU.out]) ?_)
    | (refine build_step rfl 29 _ rfl [(0, numVal u)] rfl _ BU ?_)
    | (refine vset_step rfl 29 _ _ rfl w.heap.size 5 (nzeros 5) (u.map ncell) rfl rfl hZ3 rfl size_elem (by rw [List.length_map, HU.out]) (ncells_one _) ?_
       intro w6 hb6 hC6 _))
  exact sret Tryd.results59 w.heap.size (u.map ncell) rfl hC6 Tryd.underlying29 rfl size_elem (by rw [List.length_map, HU.out]) rfl ⟨rfl, hB3.trans (hb6.below (Nat.le_refl _) hB3.size)⟩
set_option maxRecDepth 100000 in
theorem baseYE_any (u : List Nat) (w : World) (HU : Hid (u.length = 5)) (hU : Tab w 21 (u.map ncell)) (BU : ∀ w, (Instr.build 29 #[(0, numVal u)]).run Tryd.prog w = .ok (numVal u) w) :
    Calls Tryd.prog 60 #[] w fun e w' => e = .returned (numVal u) ∧ Below w.heap.size w w' := by
  go_enter Tryd.func60, Tryd.ntmps60
  go_wp2_with (first
    | (refine vzero_step rfl 29 rfl (nzeros 5) zero_elem ?_
       intro w3 hB3 hZ3
       have hU3 := hU.on hB3)
    | (refine tget_step rfl 27 (.global 21) rfl 21 5 (u.map ncell) rfl hU3 Tryd.underlying27 rfl size_numF (by rw [List.length_map, HU.out]) ?_)
    | (refine build_step rfl 29 _ rfl [(0, numVal u)] rfl _ BU ?_)
    | (refine vset_step rfl 29 _ _ rfl w.heap.size 5 (nzeros 5) (u.map ncell) rfl rfl hZ3 rfl size_elem (by rw [List.length_map, HU.out]) (ncells_one _) ?_
       intro w6 hb6 hC6 _))
  exact sret Tryd.results60 w.heap.size (u.map ncell) rfl hC6 Tryd.underlying29 rfl size_elem (by rw [List.length_map, HU.out]) rfl ⟨rfl, hB3.trans (hb6.below (Nat.le_refl _) hB3.size)⟩
end Go.Proofs.YtagjbdhelfickaaDoor
namespace Go.Proofs.YtagjbdhelfickaaDoor
open Go.RowKit
/-- A word of 32 bits as a cell holds it. -/
abbrev dcell (x : Nat) : Value := .int .u32 (x : Int)
def numD (l : List Nat) : Value := .agg (l.map dcell).toArray
def dzeros (n : Nat) : List Value := List.replicate n (dcell 0)
/-- The first words' number. -/
def pre (l : List Nat) : Nat → Nat
  | 0 => 0
  | i + 1 => pre l i + l.getD i 0 * 4294967296 ^ i
/-- A number's eight words. -/
def nD (n : Nat) : List Nat := [n % 4294967296, n / 4294967296 % 4294967296, n / 18446744073709551616 % 4294967296, n / 79228162514264337593543950336 % 4294967296, n / 340282366920938463463374607431768211456 % 4294967296, n / 1461501637330902918203684832716283019655932542976 % 4294967296, n / 6277101735386680763835789423207666416102355444464034512896 % 4294967296, n / 26959946667150639794667015087019630673637144422540572481103610249216 % 4294967296]
theorem nD_length (n : Nat) : (nD n).length = 8 := rfl
/-- 2^256. -/
abbrev mm : Nat := 115792089237316195423570985008687907853269984665640564039457584007913129639936
theorem dzeros_map (n : Nat) : dzeros n = (List.replicate n 0).map dcell := by simp [dzeros]
theorem dcells_one (l : List Nat) : (l.map dcell).toArray.all (·.oneCell') = true := all_oneCell_toArray (by intro v hv; obtain ⟨x, _, rfl⟩ := List.mem_map.1 hv; rfl)
theorem dat (l : List Nat) (k : Nat) (hk : k < l.length) : (l.map dcell)[k]? = some (dcell (l.getD k 0)) := by
  rw [List.getElem?_map, List.getD_eq_getElem?_getD, List.getElem?_eq_getElem hk]
  rfl
theorem dset_map (l : List Nat) (k x : Nat) : (l.map dcell).set k (dcell x) = (l.set k x).map dcell := by rw [List.map_set]
/-- Eight words, each below 2^32. -/
def D8 (l : List Nat) : Prop := l.length = 8 ∧ ∀ k, l.getD k 0 < 4294967296
theorem eight_of {α : Type} (l : List α) (h : l.length = 8) : ∃ a b c d e f g i, l = [a, b, c, d, e, f, g, i] := by
  match l, h with
  | [a, b, c, d, e, f, g, i], _ => exact ⟨a, b, c, d, e, f, g, i, rfl⟩
theorem pre_eight (a b c d e f g i : Nat) : pre [a, b, c, d, e, f, g, i] 8 = a + b * 4294967296 + c * 18446744073709551616 + d * 79228162514264337593543950336 + e * 340282366920938463463374607431768211456 + f * 1461501637330902918203684832716283019655932542976 + g * 6277101735386680763835789423207666416102355444464034512896 + i * 26959946667150639794667015087019630673637144422540572481103610249216 := by
  simp [pre]
theorem nD_D8 (n : Nat) : D8 (nD n) := by
  refine ⟨rfl, fun k => ?_⟩
  rcases Nat.lt_or_ge k 8 with h | h
  · rcases (show k = 0 ∨ k = 1 ∨ k = 2 ∨ k = 3 ∨ k = 4 ∨ k = 5 ∨ k = 6 ∨ k = 7 by omega) with rfl | rfl | rfl | rfl | rfl | rfl | rfl | rfl <;> exact Nat.mod_lt _ (by decide)
  · rw [List.getD_eq_getElem?_getD, List.getElem?_eq_none (by rw [nD_length]; exact h)]; decide
theorem pre_nD (n : Nat) (h : n < mm) : pre (nD n) 8 = n := by
  rw [nD, pre_eight]; simp only [mm] at h; omega
theorem D8.is {l : List Nat} (h : D8 l) : l = nD (pre l 8) := by
  obtain ⟨a, b, c, d, e, f, g, i, rfl⟩ := eight_of l h.1
  have h0 : a < 4294967296 := h.2 0
  have h1 : b < 4294967296 := h.2 1
  have h2 : c < 4294967296 := h.2 2
  have h3 : d < 4294967296 := h.2 3
  have h4 : e < 4294967296 := h.2 4
  have h5 : f < 4294967296 := h.2 5
  have h6 : g < 4294967296 := h.2 6
  have h7 : i < 4294967296 := h.2 7
  rw [pre_eight]
  simp only [nD, List.cons.injEq, and_true]
  refine ⟨?_, ?_, ?_, ?_, ?_, ?_, ?_, ?_⟩ <;> omega
theorem D8.lt {l : List Nat} (h : D8 l) : pre l 8 < mm := by
  obtain ⟨a, b, c, d, e, f, g, i, rfl⟩ := eight_of l h.1
  have h0 : a < 4294967296 := h.2 0
  have h1 : b < 4294967296 := h.2 1
  have h2 : c < 4294967296 := h.2 2
  have h3 : d < 4294967296 := h.2 3
  have h4 : e < 4294967296 := h.2 4
  have h5 : f < 4294967296 := h.2 5
  have h6 : g < 4294967296 := h.2 6
  have h7 : i < 4294967296 := h.2 7
  rw [pre_eight]; simp only [mm]; omega
/-- A word set: the number below it stays. -/
theorem pre_set_ge (l : List Nat) (j v : Nat) : ∀ i, i ≤ j → pre (l.set j v) i = pre l i
  | 0, _ => rfl
  | i + 1, h => by
    rw [pre, pre, pre_set_ge l j v i (by omega), List.getD_eq_getElem?_getD, List.getElem?_set_ne (by omega), ← List.getD_eq_getElem?_getD]
theorem getD_set_eq (l : List Nat) (j v : Nat) (h : j < l.length) : (l.set j v).getD j 0 = v := by
  rw [List.getD_eq_getElem?_getD, List.getElem?_set_self h]; rfl
theorem getD_set_neN (l : List Nat) (j k v : Nat) (h : j ≠ k) : (l.set j v).getD k 0 = l.getD k 0 := by
  rw [List.getD_eq_getElem?_getD, List.getElem?_set_ne h, ← List.getD_eq_getElem?_getD]
theorem pre_set (l : List Nat) (j v : Nat) (h : j < l.length) : pre (l.set j v) (j + 1) = pre l j + v * 4294967296 ^ j := by
  rw [pre, pre_set_ge l j v j (Nat.le_refl _), getD_set_eq l j v h]
theorem set_lt {l : List Nat} {b : Nat} (h : ∀ k, l.getD k 0 < b) (j v : Nat) (hv : v < b) : ∀ k, (l.set j v).getD k 0 < b := fun k => by
  by_cases e : j = k
  · subst e
    rcases Nat.lt_or_ge j l.length with hl | hl
    · rw [getD_set_eq l j v hl]; exact hv
    · rw [List.set_eq_of_length_le hl]; exact h j
  · rw [getD_set_neN l j k v e]; exact h k
theorem D8.set {l : List Nat} (h : D8 l) (j v : Nat) (hv : v < 4294967296) : D8 (l.set j v) := ⟨by rw [List.length_set]; exact h.1, set_lt h.2 j v hv⟩
theorem D8.zeros : D8 [0, 0, 0, 0, 0, 0, 0, 0] := by
  refine ⟨rfl, fun k => ?_⟩
  rcases Nat.lt_or_ge k 8 with h | h
  · rcases (show k = 0 ∨ k = 1 ∨ k = 2 ∨ k = 3 ∨ k = 4 ∨ k = 5 ∨ k = 6 ∨ k = 7 by omega) with rfl | rfl | rfl | rfl | rfl | rfl | rfl | rfl <;> decide
  · rw [List.getD_eq_getElem?_getD, List.getElem?_eq_none (show [0, 0, 0, 0, 0, 0, 0, 0].length ≤ k from h)]; decide
theorem zero_ND : ∀ w, (zeroValue 38).run Tryd.prog w = .ok (.agg (dzeros 8).toArray) w := (zero_of_info (P := Tryd.prog) (t := 38) (v := .agg (dzeros 8).toArray) (n := 8) (by kernel_rfl)).1
theorem size_ND : (Tryd.prog.info? 38).map (·.size) = some 8 := by kernel_rfl
theorem size_w32 : (Tryd.prog.info? 36).map (·.size) = some 1 := by kernel_rfl
theorem build_ND0 (w : World) : (Instr.build 38 #[]).run Tryd.prog w = .ok (.agg (dzeros 8).toArray) w := by kernel_rfl
theorem dzeros8 : dzeros 8 = [0, 0, 0, 0, 0, 0, 0, 0].map dcell := rfl
theorem u64_id (x : Nat) (h : x < 18446744073709551616) : IntKind.u64.wrap (x : Int) = (x : Int) := by rw [IntKind.wrap_u64]; omega
theorem u32_mod (x : Nat) : IntKind.u32.wrap (x : Int) = ((x % 4294967296 : Nat) : Int) := by rw [IntKind.wrap_u32]; omega
/-- The document's p. -/
theorem refP_any (w : World) : Calls Tryd.prog 64 #[] w fun e w' => e = .returned (numD (nD pp)) ∧ Below w.heap.size w w' := by
  have BP : ∀ w, (Instr.build 38 #[(0, dcell 4294967277), (1, dcell 4294967295), (2, dcell 4294967295), (3, dcell 4294967295), (4, dcell 4294967295), (5, dcell 4294967295), (6, dcell 4294967295), (7, dcell 2147483647)]).run Tryd.prog w = .ok (numD (nD pp)) w := fun w => by kernel_rfl
  obtain ⟨r, HR⟩ := namedF (nD pp)
  have HL : Hid (r.length = 8) := by show _ = _; rw [← HR.out]; rfl
  rw [HR.out] at BP ⊢
  go_enter Tryd.func64, Tryd.ntmps64
  go_wp2_with (first
    | (refine vzero_step rfl 38 rfl (dzeros 8) zero_ND ?_
       intro w3 hB3 hZ3)
    | (refine build_step rfl 38 _ rfl [(0, dcell 4294967277), (1, dcell 4294967295), (2, dcell 4294967295), (3, dcell 4294967295), (4, dcell 4294967295), (5, dcell 4294967295), (6, dcell 4294967295), (7, dcell 2147483647)] rfl _ BP ?_)
    | (refine vset_step rfl 38 _ _ rfl w.heap.size 8 (dzeros 8) (r.map dcell) rfl rfl hZ3 rfl size_ND (by rw [List.length_map, HL.out]) (dcells_one _) ?_
       intro w6 hb6 hC6 _))
  exact sret Tryd.results64 w.heap.size (r.map dcell) rfl hC6 Tryd.underlying38 rfl size_ND (by rw [List.length_map, HL.out]) rfl ⟨rfl, hB3.trans (hb6.below (Nat.le_refl _) hB3.size)⟩
end Go.Proofs.YtagjbdhelfickaaDoor
namespace Go.Proofs.YtagjbdhelfickaaDoor
open Go.RowKit
/-- minus, k words on: what is written, what is owed. -/
def miX (a b : List Nat) (o k : Nat) : Nat := a.getD k 0 + 4294967296 - b.getD k 0 - o
def miTo (a b : List Nat) : Nat → List Nat × Nat
  | 0 => ([0, 0, 0, 0, 0, 0, 0, 0], 0)
  | k + 1 => ((miTo a b k).1.set k (miX a b (miTo a b k).2 k % 4294967296), 1 - miX a b (miTo a b k).2 k / 4294967296)
theorem miTo_owe (a b : List Nat) : ∀ k, (miTo a b k).2 ≤ 1
  | 0 => Nat.zero_le _
  | k + 1 => by rw [miTo]; omega
theorem miTo_D8 (a b : List Nat) : ∀ k, D8 (miTo a b k).1
  | 0 => D8.zeros
  | k + 1 => by rw [miTo]; exact (miTo_D8 a b k).set _ _ (Nat.mod_lt _ (by decide))
theorem miTo_pre {a b : List Nat} (ha : D8 a) (hb : D8 b) : ∀ k, k ≤ 8 → pre (miTo a b k).1 k + pre b k = pre a k + (miTo a b k).2 * 4294967296 ^ k
  | 0, _ => rfl
  | k + 1, h => by
    have ih := miTo_pre ha hb k (by omega)
    have hl := (miTo_D8 a b k).1
    have ho := miTo_owe a b k
    rw [miTo]
    show pre ((miTo a b k).1.set k (miX a b (miTo a b k).2 k % 4294967296)) (k + 1) + _ = _ + (1 - miX a b (miTo a b k).2 k / 4294967296) * _
    rw [pre_set _ _ _ (by omega), pre, pre, Nat.pow_succ]
    have hx : miX a b (miTo a b k).2 k = a.getD k 0 + 4294967296 - b.getD k 0 - (miTo a b k).2 := rfl
    have h1 := ha.2 k
    have h2 := hb.2 k
    generalize miX a b (miTo a b k).2 k = x at *
    generalize (miTo a b k).2 = o at *
    generalize a.getD k 0 = p at *
    generalize b.getD k 0 = q at *
    have e : x % 4294967296 + q + o = p + (1 - x / 4294967296) * 4294967296 := by omega
    have e2 : (x % 4294967296 + q + o) * 4294967296 ^ k = (p + (1 - x / 4294967296) * 4294967296) * 4294967296 ^ k := by rw [e]
    rw [Nat.add_mul, Nat.add_mul, Nat.add_mul, Nat.mul_assoc (1 - x / 4294967296), Nat.mul_comm 4294967296] at e2
    omega
theorem miTo_all {a b : List Nat} (ha : D8 a) (hb : D8 b) (h : pre b 8 ≤ pre a 8) : (miTo a b 8).1 = nD (pre a 8 - pre b 8) := by
  have h1 := miTo_pre ha hb 8 (Nat.le_refl _)
  have h2 := (miTo_D8 a b 8).lt
  have h3 := miTo_owe a b 8
  have h4 := ha.lt
  rw [(miTo_D8 a b 8).is]
  congr 1
  rw [show 4294967296 ^ 8 = mm from rfl] at h1
  simp only [mm] at *
  omega
set_option maxRecDepth 100000 in
set_option maxHeartbeats 2000000 in
theorem refMinus_over (a b r : List Nat) (S : Nat → List Nat) (O X : Nat → Nat) (w : World) (HA : Hid (a.length = 8)) (HB : Hid (b.length = 8)) (HL : Hid (∀ k, (S k).length = 8)) (H0 : Hid (S 0 = [0, 0, 0, 0, 0, 0, 0, 0] ∧ O 0 = 0)) (HS : Hid (∀ k, S (k + 1) = (S k).set k (X k % 4294967296) ∧ O (k + 1) = 1 - X k / 4294967296)) (HX : Hid (∀ k, X k = a.getD k 0 + 4294967296 - b.getD k 0 - O k)) (HO : Hid (∀ k, O k ≤ 1 ∧ a.getD k 0 < 4294967296 ∧ b.getD k 0 < 4294967296)) (HR : Hid (S 8 = r)) :
    Calls Tryd.prog 65 #[numD a, numD b] w fun e w' => e = .returned (numD r) ∧ Below w.heap.size w w' := by
  go_enter Tryd.func65, Tryd.ntmps65
  go_wp2_with (first
    | (refine vtake_step rfl 38 (.tmp 0) rfl (a.map dcell) rfl ?_
       intro w1 hB1 hA1
       try simp only [Act.put, List.setIfInBounds_toArray, List.set_cons_zero, List.set_cons_succ]
       skip)
    | (refine vtake_step rfl 38 (.tmp 1) rfl (b.map dcell) rfl ?_
       intro w2 hb2 hC2
       have hB2 := below_then hB1 hb2
       have hA2 := hA1.on hb2
       have hg1 := hA1.lt
       clear hB1 hA1 hb2
       try simp only [Act.put, List.setIfInBounds_toArray, List.set_cons_zero, List.set_cons_succ]
       skip)
    | (refine vzero_step (o := ⟨some 4, _, _, _, _, _⟩) rfl 38 rfl (dzeros 8) zero_ND ?_
       intro w3 hb3 hZ3
       have hB3 := below_then hB2 hb3
       have hA3 := hA2.on hb3
       have hC3 := hC2.on hb3
       have hg2 := hC2.lt
       clear hB2 hA2 hC2 hb3
       try simp only [Act.put, List.setIfInBounds_toArray, List.set_cons_zero, List.set_cons_succ]
       skip)
    | (refine build_step rfl 38 [] rfl [] rfl _ build_ND0 ?_
       try simp only [Act.put, List.setIfInBounds_toArray, List.set_cons_zero, List.set_cons_succ]
       skip)
    | (refine vput_step rfl rfl 38 (.tmp 5) (.tmp 9) rfl rfl 8 (dzeros 8) (dzeros 8) rfl rfl zero_ND rfl size_ND rfl (by rw [dzeros_map]; exact dcells_one _) ?_
       intro w4 hb4 hS4
       have hB4 := below_then hB3 hb4
       have hA4 := hA3.on hb4
       have hC4 := hC3.on hb4
       have hZ4 := hZ3.on hb4
       have hg3 := hZ3.lt
       clear hB3 hA3 hC3 hZ3 hb4
       try simp only [Act.put, List.setIfInBounds_toArray, List.set_cons_zero, List.set_cons_succ]
       skip))
  generalize hg : w1.heap.size = gb at *
  generalize hh : w2.heap.size = gz at *
  generalize hi : w3.heap.size = gs at *
  clear hg hh hi
  go_loopw [6, 7] (fun v i wr => ∃ k : Nat, k ≤ 8 ∧ i = .int .i64 k ∧ v = .int .u64 (O k : Int) ∧ Below w.heap.size w wr ∧ Cells wr w.heap.size (a.map dcell) 38 ∧ Cells wr gb (b.map dcell) 38 ∧ Cells wr gz (dzeros 8) 38 ∧ Cells wr gs ((S k).map dcell) 38) (fun _ i _ => 8 - (intOf i).toNat)
  case atStart => exact ⟨0, Nat.zero_le _, rfl, by rw [H0.out.2]; rfl, hB4, hA4, hC4, hZ4, by rw [H0.out.1, ← dzeros8]; exact hS4⟩
  case round =>
    clear hB4 hA4 hC4 hZ4 hS4
    obtain ⟨k, hk, rfl, rfl, hB, hA, hC, hZ, hS⟩ := hrel
    have HLk := Lib.hid (HL.out k)
    by_cases hlt : k < 8
    · have HN := Lib.hid (HS.out k)
      have hx := HX.out k
      have ho := HO.out k
      have d1 := hA.get (dat a k (by rw [HA.out]; exact hlt))
      have d2 := hC.get (dat b k (by rw [HB.out]; exact hlt))
      obtain ⟨z, HZ⟩ := namedF (S (k + 1))
      obtain ⟨o2, HO2⟩ := namedF (O (k + 1))
      rw [HZ.out, HO2.out] at HN
      generalize S k = s at *
      generalize O k = o at *
      generalize X k = x at *
      generalize a.getD k 0 = p at *
      generalize b.getD k 0 = q at *
      clear HL H0 HS HX HO HR
      have c1 := u64_id p (by omega)
      have c2 : IntKind.u64.wrap ((p : Int) + 4294967296) = ((p + 4294967296 : Nat) : Int) := wadd p 4294967296 (by omega)
      have c3 := u64_id q (by omega)
      obtain ⟨x1, hx1⟩ : ∃ x1, x1 = p + 4294967296 := ⟨_, rfl⟩
      rw [← hx1] at c2
      have c4 : IntKind.u64.wrap ((x1 : Int) - (q : Int)) = ((x1 - q : Nat) : Int) := wsub x1 q (by omega) (by omega)
      obtain ⟨x2, hx2⟩ : ∃ x2, x2 = x1 - q := ⟨_, rfl⟩
      rw [← hx2] at c4
      have c5 : IntKind.u64.wrap ((x2 : Int) - (o : Int)) = (x : Int) := by
        rw [wsub x2 o (by omega) (by omega)]; congr 1; omega
      have c6 := u32_mod x
      have c7 : IntKind.u64.wrap (1 - (x : Int) / 4294967296) = (o2 : Int) := by
        rw [HN.out.2]
        exact wsub 1 (x / 4294967296) (by omega) (by decide)
      obtain ⟨v, HV⟩ := namedF (x % 4294967296)
      rw [HV.out] at HN c6
      clear hx ho hx1 hx2 HV
      go_wp2_with fail
      go_quiet (fail)
      have hB4 : Below w.heap.size w (wr.drewN nq) := ⟨hB.os, hB.tape, hB.output, hB.size, hB.block⟩
      have hA4 := hA.drewN nq
      have hC4 := hC.drewN nq
      have hZ4 := hZ.drewN nq
      have hS4 := hS.drewN nq
      generalize wr.drewN nq = w4 at *
      clear hB hA hC hZ hS d1 d2
      have hT := hS4.there k 1 (by rw [List.length_map, HLk.out]; omega)
      have hE := Lib.hid (hS4.set k (dcell v))
      go_wp2_with (first
        | (refine store_step rfl 36 _ _ rfl gs k .u32 (v : Int) rfl rfl size_w32 hT ?_
           intro w5 hw5
           have hB5 : Below w.heap.size w w5 := by rw [hw5]; exact hB4.setCell (p := ⟨gs, k, none⟩) (by show w.heap.size ≤ gs; omega) _
           have hA5 : Cells w5 w.heap.size (a.map dcell) 38 := by rw [hw5]; exact hA4.other (by show w.heap.size ≠ gs; omega) _
           have hC5 : Cells w5 gb (b.map dcell) 38 := by rw [hw5]; exact hC4.other (by show gb ≠ gs; omega) _
           have hZ5 : Cells w5 gz (dzeros 8) 38 := by rw [hw5]; exact hZ4.other (by show gz ≠ gs; omega) _
           have hS5 : Cells w5 gs (z.map dcell) 38 := by rw [hw5, HN.out.1, ← dset_map]; exact hE.out
           clear hw5 hT hE hB4 hA4 hC4 hZ4 hS4))
      go_roundw
      case rel => exact ⟨k + 1, by omega, by go_num, by rw [HO2.out], hB5, hA5, hC5, hZ5, by rw [HZ.out]; exact hS5⟩
      case measure => simp [intOf]; omega
    · obtain rfl : k = 8 := by omega
      rw [HR.out] at hS HLk
      go_wp2_with (first
        | (refine sget_step rfl 38 _ rfl gs 8 (r.map dcell) rfl hS Tryd.underlying38 rfl size_ND (by rw [List.length_map, HLk.out]) ?_)
        | (refine vset_step rfl 38 _ _ rfl gz 8 (dzeros 8) (r.map dcell) rfl rfl hZ rfl size_ND (by rw [List.length_map, HLk.out]) (dcells_one r) ?_
           intro w7 hb7 hC7 _))
      exact sret Tryd.results65 gz (r.map dcell) rfl hC7 Tryd.underlying38 rfl size_ND (by rw [List.length_map, HLk.out]) rfl ⟨rfl, hB.trans (hb7.below (by omega) hB.size)⟩
theorem refMinus_any (n m : Nat) (w : World) (hn : n < mm) (hm : m ≤ n) : Calls Tryd.prog 65 #[numD (nD n), numD (nD m)] w fun e w' => e = .returned (numD (nD (n - m))) ∧ Below w.heap.size w w' := by
  have h := miTo_all (nD_D8 n) (nD_D8 m) (by rw [pre_nD n hn, pre_nD m (by omega)]; exact hm)
  rw [pre_nD n hn, pre_nD m (by omega)] at h
  exact refMinus_over (nD n) (nD m) _ (fun k => (miTo (nD n) (nD m) k).1) (fun k => (miTo (nD n) (nD m) k).2) (fun k => miX (nD n) (nD m) (miTo (nD n) (nD m) k).2 k) w rfl rfl (fun k => (miTo_D8 _ _ k).1) ⟨rfl, rfl⟩ (fun k => ⟨rfl, rfl⟩) (fun k => rfl) (fun k => ⟨miTo_owe _ _ k, (nD_D8 n).2 k, (nD_D8 m).2 k⟩) h
set_option maxRecDepth 100000 in
set_option maxHeartbeats 1000000 in
theorem refLess_over (a b : List Nat) (r : Bool) (w : World) (HA : Hid (a.length = 8)) (HB : Hid (b.length = 8)) (HD : Hid (∀ k, k < 8 → (∀ i, k < i → i < 8 → a.getD i 0 = b.getD i 0) → a.getD k 0 ≠ b.getD k 0 → decide (a.getD k 0 < b.getD k 0) = r)) (HE : Hid ((∀ i, i < 8 → a.getD i 0 = b.getD i 0) → r = false)) :
    Calls Tryd.prog 63 #[numD a, numD b] w fun e w' => e = .returned (.bool r) ∧ Below w.heap.size w w' := by
  go_enter Tryd.func63, Tryd.ntmps63
  go_wp2_with (first
    | (refine vtake_step rfl 38 (.tmp 0) rfl (a.map dcell) rfl ?_
       intro w1 hB1 hA1
       try simp only [Act.put, List.setIfInBounds_toArray, List.set_cons_zero, List.set_cons_succ]
       skip)
    | (refine vtake_step rfl 38 (.tmp 1) rfl (b.map dcell) rfl ?_
       intro w2 hb2 hC2
       have hB2 := below_then hB1 hb2
       have hA2 := hA1.on hb2
       clear hB1 hA1 hb2
       try simp only [Act.put, List.setIfInBounds_toArray, List.set_cons_zero, List.set_cons_succ]
       skip))
  generalize hg : w1.heap.size = gb at *
  clear hg
  go_loopw [5] (fun i wr => ∃ j : Nat, j ≤ 8 ∧ i = .int .i64 ((j : Int) - 1) ∧ Below w.heap.size w wr ∧ Cells wr w.heap.size (a.map dcell) 38 ∧ Cells wr gb (b.map dcell) 38 ∧ Hid (∀ i, j ≤ i → i < 8 → a.getD i 0 = b.getD i 0)) (fun i _ => ((intOf i) + 1).toNat)
  case atStart => exact ⟨8, Nat.le_refl _, rfl, hB2, hA2, hC2, fun i h1 h2 => by omega⟩
  case round =>
    clear hB2 hA2 hC2
    obtain ⟨j, hj, rfl, hB, hA, hC, HQ⟩ := hrel
    by_cases h0 : 0 < j
    · obtain ⟨k, rfl⟩ : ∃ k, j = k + 1 := ⟨j - 1, by omega⟩
      have d1 := hA.get (dat a k (by rw [HA.out]; omega))
      have d2 := hC.get (dat b k (by rw [HB.out]; omega))
      have e1 : (((k + 1 : Nat) : Int) - 1) = (k : Int) := by omega
      have i1 : (0 : Int) ≤ (k : Int) := by omega
      have i2 : (k : Int) < 8 := by omega
      rw [e1]
      by_cases hne : a.getD k 0 = b.getD k 0
      · have HQ2 : Hid (∀ i, k ≤ i → i < 8 → a.getD i 0 = b.getD i 0) := fun i h1 h2 => by
          by_cases e : k = i
          · rw [← e]; exact hne
          · exact HQ.out i (by omega) h2
        rw [← hne] at d2
        have i3 : IntKind.i64.wrap ((k : Int) - 1) = (k : Int) - 1 := IntWalk.i64_in _ (by omega)
        generalize a.getD k 0 = p at *
        clear HQ HD HE hne
        go_wp2_with fail
        go_quiet (fail)
        have hB4 : Below w.heap.size w (wr.drewN nq) := ⟨hB.os, hB.tape, hB.output, hB.size, hB.block⟩
        have hA4 := hA.drewN nq
        have hC4 := hC.drewN nq
        generalize wr.drewN nq = w4 at *
        clear hB hA hC d1 d2
        go_wp2
        go_roundw
        case rel => exact ⟨k, by omega, by rfl, hB4, hA4, hC4, HQ2⟩
        case measure => simp [intOf]
      · have HDk := Lib.hid (HD.out k (by omega) (fun i h1 h2 => HQ.out i (by omega) h2) hne)
        have hneI : ¬ ((a.getD k 0 : Nat) : Int) = ((b.getD k 0 : Nat) : Int) := by omega
        generalize a.getD k 0 = p at *
        generalize b.getD k 0 = q at *
        clear HQ HD HE hne
        go_wp2_with fail
        go_quiet (fail)
        have hB4 : Below w.heap.size w (wr.drewN nq) := ⟨hB.os, hB.tape, hB.output, hB.size, hB.block⟩
        replace d1 : (wr.drewN nq).cell? ⟨w.heap.size, k, none⟩ = some (dcell p) := d1
        replace d2 : (wr.drewN nq).cell? ⟨gb, k, none⟩ = some (dcell q) := d2
        generalize wr.drewN nq = w4 at *
        clear hB hA hC
        go_wp2_with fail
        go_quiet (fail)
        go_wp2
        go_ret
        exact ⟨congrArg (fun b => Ending.returned (.bool b)) HDk.out, ⟨hB4.os, hB4.tape, hB4.output, hB4.size, hB4.block⟩⟩
    · obtain rfl : j = 0 := by omega
      have e0 : r = false := HE.out fun i hi => HQ.out i (Nat.zero_le _) hi
      subst e0
      go_wp2
      go_ret
      exact ⟨rfl, hB⟩
theorem pre_congr (a b : List Nat) : ∀ k, (∀ i, i < k → a.getD i 0 = b.getD i 0) → pre a k = pre b k
  | 0, _ => rfl
  | k + 1, h => by rw [pre, pre, pre_congr a b k fun i hi => h i (by omega), h k (by omega)]
theorem pre_lt {a : List Nat} (h : ∀ k, a.getD k 0 < 4294967296) : ∀ k, pre a k < 4294967296 ^ k
  | 0 => Nat.pow_pos (by decide)
  | k + 1 => by
    have h1 := pre_lt h k
    have h2 : a.getD k 0 * 4294967296 ^ k ≤ 4294967295 * 4294967296 ^ k := Nat.mul_le_mul_right _ (by have := h k; omega)
    rw [pre, Nat.pow_succ]; omega
theorem pre_less {a b : List Nat} (ha : ∀ k, a.getD k 0 < 4294967296) (k : Nat) (h : a.getD k 0 < b.getD k 0) : pre a (k + 1) < pre b (k + 1) := by
  have h1 := pre_lt ha k
  have h2 : (a.getD k 0 + 1) * 4294967296 ^ k ≤ b.getD k 0 * 4294967296 ^ k := Nat.mul_le_mul_right _ h
  rw [pre, pre]
  rw [Nat.add_mul, Nat.one_mul] at h2
  omega
theorem pre_tail (a b : List Nat) (k : Nat) : ∀ n, (∀ i, k ≤ i → i < k + n → a.getD i 0 = b.getD i 0) → pre a k < pre b k → pre a (k + n) < pre b (k + n)
  | 0, _, h => h
  | n + 1, h, hl => by
    have ih := pre_tail a b k n (fun i h1 h2 => h i h1 (by omega)) hl
    rw [← Nat.add_assoc, pre, pre, h (k + n) (by omega) (by omega)]
    omega
theorem refLess_any (n m : Nat) (w : World) (hn : n < mm) (hm : m < mm) : Calls Tryd.prog 63 #[numD (nD n), numD (nD m)] w fun e w' => e = .returned (.bool (decide (n < m))) ∧ Below w.heap.size w w' := by
  have en := pre_nD n hn
  have em := pre_nD m hm
  have ha := (nD_D8 n).2
  have hb := (nD_D8 m).2
  refine refLess_over (nD n) (nD m) _ w rfl rfl (fun k hk heq hne => ?_) (fun heq => ?_)
  · have key : ∀ a b : List Nat, (∀ k, a.getD k 0 < 4294967296) → (∀ i, k < i → i < 8 → a.getD i 0 = b.getD i 0) → a.getD k 0 < b.getD k 0 → pre a 8 < pre b 8 := fun a b ha he hl => by
      have h := pre_tail a b (k + 1) (7 - k) (fun i h1 h2 => he i (by omega) (by omega)) (pre_less ha k hl)
      rwa [show k + 1 + (7 - k) = 8 by omega] at h
    rw [Bool.eq_iff_iff, decide_eq_true_eq, decide_eq_true_eq]
    rcases Nat.lt_or_ge ((nD n).getD k 0) ((nD m).getD k 0) with h | h
    · have h2 := key _ _ ha heq h
      rw [en, em] at h2
      omega
    · have h2 := key _ _ hb (fun i h1 h2 => (heq i h1 h2).symm) (by omega)
      rw [en, em] at h2
      omega
  · have h := pre_congr _ _ 8 heq
    rw [en, em] at h
    rw [decide_eq_false_iff_not]; omega
end Go.Proofs.YtagjbdhelfickaaDoor
