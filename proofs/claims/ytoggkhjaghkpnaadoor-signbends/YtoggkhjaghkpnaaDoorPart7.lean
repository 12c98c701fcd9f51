/- Part 7 of what the laws of this seat share: FPlus, FWide, FNarrow, FProduct, FProd2. -/
import Derived.Deep.QuietTactic
import Derived.BigQuiet
import Derived.Test.YtoggkhjaghkpnaaDoorPart6
namespace Go.Proofs.YtoggkhjaghkpnaaDoor
open Go.RowKit
set_option maxRecDepth 100000 in
set_option maxHeartbeats 1000000 in
theorem plusF_over (a b r : List Nat) (S : Nat → List Nat) (w : World) (HB : Hid (b.length = 5)) (HL : Hid (∀ k, (S k).length = 5)) (H0 : Hid (S 0 = a)) (HS : Hid (∀ k, S (k + 1) = (S k).set k (addW ((S k).getD k 0) (b.getD k 0)))) (HR : Hid (S 5 = r)) :
    Calls Tryd.prog 82 #[numVal a, numVal b] w (gvn (numVal r) w) := by
  go_enter Tryd.func82, Tryd.ntmps82
  go_wp2_with (first
    | (refine vtake_step rfl 42 (.tmp 0) rfl (a.map ncell) rfl ?_
       intro w1 hB1 hA1)
    | (refine vtake_step rfl 42 (.tmp 1) rfl (b.map ncell) rfl ?_
       intro w2 hb2 hC2
       have hB2 := below_then hB1 hb2
       have hA2 := hA1.on hb2
       have hg1 := hA1.lt
       clear hB1 hA1 hb2)
    | (refine vzero_step rfl 42 rfl (nzeros 5) zero_numF ?_
       intro w3 hb3 hZ3
       have hB3 := below_then hB2 hb3
       have hA3 := hA2.on hb3
       have hC3 := hC2.on hb3
       have hg2 := hC2.lt
       clear hB2 hA2 hC2 hb3))
  generalize hg : w1.heap.size = gb at *
  generalize hh : w2.heap.size = gz at *
  clear hg hh
  go_loopw [6] (fun i wr => ∃ k : Nat, k ≤ 5 ∧ i = .int .i64 k ∧ Below w.heap.size w wr ∧ Cells wr w.heap.size ((S k).map ncell) 42 ∧ Cells wr gb (b.map ncell) 42 ∧ Cells wr gz (nzeros 5) 42) (fun i _ => 5 - (intOf i).toNat)
  case atStart => exact ⟨0, Nat.zero_le _, rfl, hB3, by rw [H0.out]; exact hA3, hC3, hZ3⟩
  case round =>
    clear hB3 hA3 hC3 hZ3
    obtain ⟨k, hk, rfl, hB, hS, hC, hZ⟩ := hrel
    have HLk := Lib.hid (HL.out k)
    by_cases hlt : k < 5
    · have HN := Lib.hid (HS.out k)
      generalize S k = s at *
      have i1 : (0 : Int) ≤ (k : Int) := by omega
      have i2 : (k : Int) < 5 := by omega
      go_wp2_with fail
      refine wp_region_tail 8 (by kernel_rfl) (by kernel_rfl) ?_
      intro w4 hw4
      have hB4 : Below w.heap.size w w4 := by rw [hw4]; exact hB.drew
      have hS4 : Cells w4 w.heap.size (s.map ncell) 42 := by rw [hw4]; exact hS
      have hC4 : Cells w4 gb (b.map ncell) 42 := by rw [hw4]; exact hC
      have hZ4 : Cells w4 gz (nzeros 5) 42 := by rw [hw4]; exact hZ
      clear hw4 hB hS hC hZ
      have d1 := hS4.get (nat_at s k (by rw [HLk.out]; exact hlt))
      have d2 := hC4.get (nat_at b k (by rw [HB.out]; exact hlt))
      have d3 := hS4.frozen k
      generalize s.getD k 0 = x at *
      generalize b.getD k 0 = y at *
      simp only [List.take_succ_cons, List.take_zero, List.drop_succ_cons, List.drop_zero]
      repeat still_step
      refine wpStill_nil ?_
      go_wp2
      go_roundw
      case rel =>
        rw [add64n]
        refine ⟨k + 1, by omega, by go_num, hB4.setCell (p := ⟨w.heap.size, k, none⟩) (Nat.le_refl _) _, ?_, hC4.other (by show gb ≠ w.heap.size; omega) _, hZ4.other (by show gz ≠ w.heap.size; omega) _⟩
        rw [HN.out, ← nset_map]
        exact hS4.set k _
      case measure => simp [intOf]; omega
    · obtain rfl : k = 5 := by omega
      rw [HR.out] at hS HLk
      go_wp2_with (first
        | (refine vget_step rfl 42 _ rfl w.heap.size 5 (r.map ncell) 40 rfl hS Tryd.underlying42 size_numF (by rw [List.length_map, HLk.out]) ?_)
        | (refine vset_step rfl 42 _ _ rfl gz 5 (nzeros 5) (r.map ncell) rfl rfl hZ rfl size_numF (by rw [List.length_map, HLk.out]) (ncells_one r) ?_
           intro w7 hb7 hC7 _))
      refine vret Tryd.results82 gz (r.map ncell) rfl hC7 Tryd.underlying42 size_numF (by rw [List.length_map, HLk.out]) rfl ⟨rfl, hB.trans (hb7.below (by omega) hB.size)⟩
theorem plusF_any (a b : List Nat) (w : World) (ha : a.length = 5) (hb : b.length = 5) :
    Calls Tryd.prog 82 #[numVal a, numVal b] w (gvn (numVal (plusN a b)) w) :=
  plusF_over a b _ (plusTo a b) w hb (fun k => (plusTo_length a b k).trans ha) rfl (fun _ => rfl) rfl
theorem wsub (C y : Nat) (h : y ≤ C) (hC : C < 18446744073709551616) : IntKind.u64.wrap ((C : Int) - (y : Int)) = ((C - y : Nat) : Int) := by
  rw [IntKind.wrap_u64]; omega
set_option maxRecDepth 100000 in
set_option maxHeartbeats 1000000 in
theorem minusF_over (a b r : List Nat) (S : Nat → List Nat) (w : World) (HA : Hid (a.length = 5)) (HB : Hid (b.length = 5)) (HL : Hid (∀ k, (S k).length = 5)) (H1 : Hid (S 1 = a.set 0 (a.getD 0 0 + (4503599627370458 - b.getD 0 0)))) (HS : Hid (∀ k, 1 ≤ k → k < 5 → S (k + 1) = (S k).set k ((S k).getD k 0 + (4503599627370494 - b.getD k 0)))) (HR : Hid (S 5 = r))
    (HBb : Hid (∀ k, b.getD k 0 < 2251799813685248)) (HAb : Hid (a.getD 0 0 < 2251799813685248)) (HSb : Hid (∀ k, 1 ≤ k → k < 5 → (S k).getD k 0 < 2251799813685248)) :
    Calls Tryd.prog 65 #[numVal a, numVal b] w (gvn (numVal r) w) := by
  have e0 : a[0]? = some (a.getD 0 0) := by have := HA.out; rw [List.getD_eq_getElem?_getD, List.getElem?_eq_getElem (by omega)]; rfl
  have X0 := Lib.hid (nat_at a 0 (by rw [HA.out]; omega))
  have Y0 := Lib.hid (nat_at b 0 (by rw [HB.out]; omega))
  have hy := HBb.out 0
  have hx := HAb.out
  have M1 : IntKind.u64.wrap (4503599627370458 - ((b.getD 0 0 : Nat) : Int)) = ((4503599627370458 - b.getD 0 0 : Nat) : Int) := wsub 4503599627370458 (b.getD 0 0) (by omega) (by decide)
  have M2 := wadd (a.getD 0 0) (4503599627370458 - b.getD 0 0) (by omega)
  obtain ⟨z, HZ⟩ : ∃ z, Hid (a.getD 0 0 + (4503599627370458 - b.getD 0 0) = z) := ⟨_, rfl⟩
  obtain ⟨y2, HY⟩ : ∃ z, Hid (4503599627370458 - b.getD 0 0 = z) := ⟨_, rfl⟩
  rw [HZ.out] at M2 H1
  rw [HY.out] at M1 M2
  clear hx hy HZ HY e0 HAb
  generalize a.getD 0 0 = x at *
  generalize b.getD 0 0 = y at *
  go_enter Tryd.func65, Tryd.ntmps65
  go_wp2_with (first
    | (refine vtake_step rfl 42 (.tmp 0) rfl (a.map ncell) rfl ?_
       intro w1 hB1 hA1)
    | (refine vtake_step rfl 42 (.tmp 1) rfl (b.map ncell) rfl ?_
       intro w2 hb2 hC2
       have hB2 := below_then hB1 hb2
       have hA2 := hA1.on hb2
       have hg1 := hA1.lt
       clear hB1 hA1 hb2)
    | (refine vzero_step rfl 42 rfl (nzeros 5) zero_numF ?_
       intro w3 hb3 hZ3
       have hB3 := below_then hB2 hb3
       have hA3 := hA2.on hb3
       have hC3 := hC2.on hb3
       have hg2 := hC2.lt
       have d1 := hA3.get X0.out
       have d2 := hC3.get Y0.out
       have hT := hA3.there 0 1 (by rw [List.length_map, HA.out]; omega)
       clear hB2 hA2 hC2 hb3)
    | ((try rw [M1, M2])
       refine store_step rfl 40 _ _ rfl w.heap.size 0 .u64 (z : Int) rfl rfl size_u64 hT ?_
       intro w4 hw4
       have hB4 : Below w.heap.size w w4 := by rw [hw4]; exact hB3.setCell (p := ⟨w.heap.size, 0, none⟩) (Nat.le_refl _) _
       have hA4 : Cells w4 w.heap.size ((S 1).map ncell) 42 := by rw [hw4, H1.out, ← nset_map]; exact hA3.set 0 _
       have hC4 : Cells w4 w1.heap.size (b.map ncell) 42 := by rw [hw4]; exact hC3.other (by show w1.heap.size ≠ w.heap.size; omega) _
       have hZ4 : Cells w4 w2.heap.size (nzeros 5) 42 := by rw [hw4]; exact hZ3.other (by show w2.heap.size ≠ w.heap.size; omega) _
       clear hw4 hB3 hA3 hC3 hZ3 d1 d2 hT M1 M2))
  generalize hg : w1.heap.size = gb at *
  generalize hh : w2.heap.size = gz at *
  clear hg hh
  go_loopw [5] (fun i wr => ∃ k : Nat, 1 ≤ k ∧ k ≤ 5 ∧ i = .int .i64 k ∧ Below w.heap.size w wr ∧ Cells wr w.heap.size ((S k).map ncell) 42 ∧ Cells wr gb (b.map ncell) 42 ∧ Cells wr gz (nzeros 5) 42) (fun i _ => 5 - (intOf i).toNat)
  case atStart => exact ⟨1, Nat.le_refl _, by omega, rfl, hB4, hA4, hC4, hZ4⟩
  case round =>
    clear hB4 hA4 hC4 hZ4
    obtain ⟨k, hk1, hk, rfl, hB, hS, hC, hZ⟩ := hrel
    have HLk := Lib.hid (HL.out k)
    by_cases hlt : k < 5
    · have HN := Lib.hid (HS.out k hk1 hlt)
      have HX := Lib.hid (HSb.out k hk1 hlt)
      have HY := Lib.hid (HBb.out k)
      generalize S k = s at *
      have i1 : (0 : Int) ≤ (k : Int) := by omega
      have i2 : (k : Int) < 5 := by omega
      go_wp2_with fail
      refine wp_region_tail 9 (by kernel_rfl) (by kernel_rfl) ?_
      intro w4 hw4
      have hB4 : Below w.heap.size w w4 := by rw [hw4]; exact hB.drew
      have hS4 : Cells w4 w.heap.size (s.map ncell) 42 := by rw [hw4]; exact hS
      have hC4 : Cells w4 gb (b.map ncell) 42 := by rw [hw4]; exact hC
      have hZ4 : Cells w4 gz (nzeros 5) 42 := by rw [hw4]; exact hZ
      clear hw4 hB hS hC hZ
      have d1 := hS4.get (nat_at s k (by rw [HLk.out]; exact hlt))
      have d2 := hC4.get (nat_at b k (by rw [HB.out]; exact hlt))
      have d3 := hS4.frozen k
      have M1 := Lib.hid (wsub 4503599627370494 (b.getD k 0) (by have := HY.out; omega) (by decide))
      have M2 := Lib.hid (wadd (s.getD k 0) (4503599627370494 - b.getD k 0) (by have := HX.out; omega))
      clear HX HY
      generalize s.getD k 0 = x at *
      generalize b.getD k 0 = y at *
      simp only [List.take_succ_cons, List.take_zero, List.drop_succ_cons, List.drop_zero]
      repeat still_step
      refine wpStill_nil ?_
      go_wp2
      go_roundw
      case rel =>
        rw [show (4503599627370494 : Int) = ((4503599627370494 : Nat) : Int) from rfl, M1.out, M2.out]
        refine ⟨k + 1, by omega, by omega, by go_num, hB4.setCell (p := ⟨w.heap.size, k, none⟩) (Nat.le_refl _) _, ?_, hC4.other (by show gb ≠ w.heap.size; omega) _, hZ4.other (by show gz ≠ w.heap.size; omega) _⟩
        rw [HN.out, ← nset_map]
        exact hS4.set k _
      case measure => simp [intOf]; omega
    · obtain rfl : k = 5 := by omega
      rw [HR.out] at hS HLk
      go_wp2_with (first
        | (refine vget_step rfl 42 _ rfl w.heap.size 5 (r.map ncell) 40 rfl hS Tryd.underlying42 size_numF (by rw [List.length_map, HLk.out]) ?_)
        | (refine vset_step rfl 42 _ _ rfl gz 5 (nzeros 5) (r.map ncell) rfl rfl hZ rfl size_numF (by rw [List.length_map, HLk.out]) (ncells_one r) ?_
           intro w7 hb7 hC7 _))
      refine vret Tryd.results65 gz (r.map ncell) rfl hC7 Tryd.underlying42 size_numF (by rw [List.length_map, HLk.out]) rfl ⟨rfl, hB.trans (hb7.below (by omega) hB.size)⟩
def minTo (a b : List Nat) : Nat → List Nat
  | 0 => a
  | 1 => a.set 0 (a.getD 0 0 + (4503599627370458 - b.getD 0 0))
  | k + 1 => (minTo a b k).set k ((minTo a b k).getD k 0 + (4503599627370494 - b.getD k 0))
theorem minTo_length (a b : List Nat) : ∀ k, (minTo a b k).length = a.length
  | 0 => rfl
  | 1 => by rw [minTo, List.length_set]
  | k + 2 => by rw [minTo, List.length_set, minTo_length a b (k + 1)]; exact fun h => by omega
theorem minusF_any (a0 a1 a2 a3 a4 b0 b1 b2 b3 b4 : Nat) (w : World) (ha : a0 < 2251799813685248 ∧ a1 < 2251799813685248 ∧ a2 < 2251799813685248 ∧ a3 < 2251799813685248 ∧ a4 < 2251799813685248) (hb : b0 < 2251799813685248 ∧ b1 < 2251799813685248 ∧ b2 < 2251799813685248 ∧ b3 < 2251799813685248 ∧ b4 < 2251799813685248) :
    Calls Tryd.prog 65 #[numVal [a0, a1, a2, a3, a4], numVal [b0, b1, b2, b3, b4]] w (gvn (numVal [a0 + (4503599627370458 - b0), a1 + (4503599627370494 - b1), a2 + (4503599627370494 - b2), a3 + (4503599627370494 - b3), a4 + (4503599627370494 - b4)]) w) := by
  obtain ⟨p0, p1, p2, p3, p4⟩ := ha
  obtain ⟨q0, q1, q2, q3, q4⟩ := hb
  refine minusF_over _ _ _ (minTo [a0, a1, a2, a3, a4] [b0, b1, b2, b3, b4]) w rfl rfl (fun k => minTo_length _ _ k) rfl (fun k h1 h2 => ?_) rfl (fun k => ?_) p0 (fun k h1 h2 => ?_)
  · match k, h1, h2 with
    | 1, _, _ => rfl
    | 2, _, _ => rfl
    | 3, _, _ => rfl
    | 4, _, _ => rfl
  · match k with
    | 0 => exact q0
    | 1 => exact q1
    | 2 => exact q2
    | 3 => exact q3
    | 4 => exact q4
    | k + 5 => show 0 < _; decide
  · match k, h1, h2 with
    | 1, _, _ => exact p1
    | 2, _, _ => exact p2
    | 3, _, _ => exact p3
    | 4, _, _ => exact p4
theorem andLow (x : Nat) (h : x < 18446744073709551616) : bits .and .u64 (x : Int) 4294967295 = ((x % 4294967296 : Nat) : Int) := by
  rw [show (4294967295 : Int) = ((4294967295 : Nat) : Int) from rfl, u64_and_nat _ _ h (by omega)]
  have := Nat.and_two_pow_sub_one_eq_mod x 32
  simp only [Nat.reducePow, Nat.reduceSub] at this
  rw [this]
theorem mul_parts (x0 x1 y0 y1 : Nat) : (x0 + 4294967296 * x1) * (y0 + 4294967296 * y1) = x0 * y0 + 4294967296 * (x1 * y0) + 4294967296 * (x0 * y1) + 18446744073709551616 * (x1 * y1) := by grind
theorem mulHalf {x y : Nat} (hx : x < 4294967296) (hy : y < 4294967296) : x * y ≤ 18446744065119617025 := Nat.mul_le_mul (show x ≤ 4294967295 by omega) (show y ≤ 4294967295 by omega)
set_option maxRecDepth 100000 in
theorem mul64_over (x y x0 x1 y0 y1 w0 s p10 t w1 w2 p01 w3 p11 h1 s2 hi lo : Nat) (w : World)
    (F1 : bits .and .u64 (x : Int) 4294967295 = x0) (F2 : (x : Int) / 4294967296 = x1) (F3 : bits .and .u64 (y : Int) 4294967295 = y0) (F4 : (y : Int) / 4294967296 = y1)
    (F5 : IntKind.u64.wrap ((x0 : Int) * y0) = w0) (F6 : (w0 : Int) / 4294967296 = s) (F7 : IntKind.u64.wrap ((x1 : Int) * y0) = p10) (F8 : IntKind.u64.wrap ((p10 : Int) + s) = t)
    (F9 : bits .and .u64 (t : Int) 4294967295 = w1) (F10 : (t : Int) / 4294967296 = w2) (F11 : IntKind.u64.wrap ((x0 : Int) * y1) = p01) (F12 : IntKind.u64.wrap ((w1 : Int) + p01) = w3)
    (F13 : IntKind.u64.wrap ((x1 : Int) * y1) = p11) (F14 : IntKind.u64.wrap ((p11 : Int) + w2) = h1) (F15 : (w3 : Int) / 4294967296 = s2) (F16 : IntKind.u64.wrap ((h1 : Int) + s2) = hi) (F17 : IntKind.u64.wrap ((x : Int) * y) = lo) :
    Calls Tryd.prog 96 #[ncell x, ncell y] w fun r w' => r = .returned (.tuple #[ncell hi, ncell lo]) ∧ w = w' := by
  go_enter Tryd.func96, Tryd.ntmps96
  go_wp2
  go_ret2
  exact ⟨rfl, rfl⟩
theorem mul64_any (x y : Nat) (w : World) (hx : x < 18446744073709551616) (hy : y < 18446744073709551616) :
    Calls Tryd.prog 96 #[ncell x, ncell y] w fun r w' => r = .returned (.tuple #[ncell (x * y / 18446744073709551616), ncell (x * y % 18446744073709551616)]) ∧ w = w' := by
  have dx := Nat.div_add_mod x 4294967296
  have dy := Nat.div_add_mod y 4294967296
  have mp := mul_parts (x % 4294967296) (x / 4294967296) (y % 4294967296) (y / 4294967296)
  rw [Nat.add_comm (x % 4294967296), Nat.add_comm (y % 4294967296), dx, dy] at mp
  have b00 := mulHalf (Nat.mod_lt x (show 4294967296 > 0 by decide)) (Nat.mod_lt y (show 4294967296 > 0 by decide))
  have b10 := mulHalf (show x / 4294967296 < 4294967296 by omega) (Nat.mod_lt y (show 4294967296 > 0 by decide))
  have b01 := mulHalf (Nat.mod_lt x (show 4294967296 > 0 by decide)) (show y / 4294967296 < 4294967296 by omega)
  have b11 := mulHalf (show x / 4294967296 < 4294967296 by omega) (show y / 4294967296 < 4294967296 by omega)
  have F17 : IntKind.u64.wrap ((x : Int) * y) = ((x * y % 18446744073709551616 : Nat) : Int) := by rw [IntKind.wrap_u64, ← Int.natCast_mul]; rfl
  have F1 := andLow x hx
  have F3 := andLow y hy
  have F5 := wmul (x % 4294967296) (y % 4294967296) (by omega)
  have F7 := wmul (x / 4294967296) (y % 4294967296) (by omega)
  have F11 := wmul (x % 4294967296) (y / 4294967296) (by omega)
  have F13 := wmul (x / 4294967296) (y / 4294967296) (by omega)
  have F2 : (x : Int) / 4294967296 = ((x / 4294967296 : Nat) : Int) := rfl
  have F4 : (y : Int) / 4294967296 = ((y / 4294967296 : Nat) : Int) := rfl
  generalize x % 4294967296 = x0 at *
  generalize x / 4294967296 = x1 at *
  generalize y % 4294967296 = y0 at *
  generalize y / 4294967296 = y1 at *
  generalize x0 * y0 = p00 at *
  generalize x1 * y0 = p10 at *
  generalize x0 * y1 = p01 at *
  generalize x1 * y1 = p11 at *
  generalize x * y = z at *
  have F8 := wadd p10 (p00 / 4294967296) (by omega)
  have F9 := andLow (p10 + p00 / 4294967296) (by omega)
  have F12 := wadd ((p10 + p00 / 4294967296) % 4294967296) p01 (by omega)
  have F14 := wadd p11 ((p10 + p00 / 4294967296) / 4294967296) (by omega)
  have F16 := wadd (p11 + (p10 + p00 / 4294967296) / 4294967296) (((p10 + p00 / 4294967296) % 4294967296 + p01) / 4294967296) (by omega)
  have e : z / 18446744073709551616 = p11 + (p10 + p00 / 4294967296) / 4294967296 + ((p10 + p00 / 4294967296) % 4294967296 + p01) / 4294967296 := by omega
  rw [e]
  exact mul64_over x y x0 x1 y0 y1 p00 (p00 / 4294967296) p10 (p10 + p00 / 4294967296) ((p10 + p00 / 4294967296) % 4294967296) ((p10 + p00 / 4294967296) / 4294967296) p01 ((p10 + p00 / 4294967296) % 4294967296 + p01) p11 (p11 + (p10 + p00 / 4294967296) / 4294967296) (((p10 + p00 / 4294967296) % 4294967296 + p01) / 4294967296) _ _ w F1 F2 F3 F4 F5 rfl F7 F8 F9 rfl F11 F12 F13 F14 rfl F16 F17
theorem add64_run (x y c : Nat) (hc : c ≤ 1) (w : World) : (callFunc 97 #[ncell x, ncell y, ncell c]).run Tryd.prog w = .ok (.value (.tuple #[ncell ((x + y + c) % 18446744073709551616), ncell ((x + y + c) / 18446744073709551616)])) w := by
  rw [run_callFunc_extern Tryd.func97 (by kernel_rfl) (by kernel_rfl) (by kernel_rfl) (e := add64Entry) (by kernel_rfl), run_add64 x y c (by omega) (by omega) (by omega) (by omega)]
  rfl
set_option maxRecDepth 100000 in
theorem wplus_over (h l a b hi lo l2 c h2 c2 : Nat) (w : World)
    (CM : Hid (∀ W, Calls Tryd.prog 96 #[ncell a, ncell b] W fun r w' => r = .returned (.tuple #[ncell hi, ncell lo]) ∧ W = w'))
    (A1 : ∀ W, (callFunc 97 #[ncell lo, ncell l, .int .u64 0]).run Tryd.prog W = .ok (.value (.tuple #[ncell l2, ncell c])) W)
    (A2 : ∀ W, (callFunc 97 #[ncell hi, ncell h, ncell c]).run Tryd.prog W = .ok (.value (.tuple #[ncell h2, ncell c2])) W) :
    Calls Tryd.prog 90 #[numVal [h, l], ncell a, ncell b] w fun r w' => r = .returned (numVal [h2, l2]) ∧ Below w.heap.size w w' := by
  go_enter Tryd.func90, Tryd.ntmps90
  go_wp2_with (first
    | (refine vtake_step rfl 129 (.tmp 0) rfl ([h, l].map ncell) rfl ?_
       intro w1 hB1 hA1
       have hg2 := hA1.lt)
    | (refine vzero_step rfl 129 rfl (nzeros 2) zero_wide ?_
       intro w3 hb3 hZ3
       have hB3 := below_then hB1 hb3
       have hA3 := hA1.on hb3
       clear hB1 hA1 hb3
       have d0 := hA3.get (v := ncell h) (j := 0) rfl
       have d1 := hA3.get (v := ncell l) (j := 1) rfl))
  refine (CM.out w3).mono ?_
  rintro r w4 ⟨rfl, rfl⟩
  clear CM
  go_wp2_with (first
    | (refine build_step rfl 129 _ rfl [(0, ncell h2), (1, ncell l2)] rfl _ (build_wide _ _) ?_)
    | (refine vset_step rfl 129 _ _ rfl w1.heap.size 2 (nzeros 2) ([h2, l2].map ncell) rfl rfl hZ3 rfl size_wide rfl (ncells_one _) ?_
       intro w7 hb7 hC7 _))
  refine sret Tryd.results90 w1.heap.size ([h2, l2].map ncell) rfl hC7 Tryd.underlying129 rfl size_wide rfl rfl ⟨rfl, hB3.trans (hb7.below (Nat.le_of_lt hg2) hB3.size)⟩
theorem wplus_any (v a b : Nat) (w : World) (ha : a < 18446744073709551616) (hb : b < 18446744073709551616) (hv : v + a * b < 340282366920938463463374607431768211456) :
    Calls Tryd.prog 90 #[wideV v, ncell a, ncell b] w fun r w' => r = .returned (wideV (v + a * b)) ∧ Below w.heap.size w w' := by
  have CM := fun W => mul64_any a b W ha hb
  rw [wideV, wideV]
  generalize a * b = z at *
  have A1 := fun W => add64_run (z % 18446744073709551616) (v % 18446744073709551616) 0 (by omega) W
  have A2 := fun W => add64_run (z / 18446744073709551616) (v / 18446744073709551616) ((z % 18446744073709551616 + v % 18446744073709551616 + 0) / 18446744073709551616) (by omega) W
  have e1 : (v + z) / 18446744073709551616 = (z / 18446744073709551616 + v / 18446744073709551616 + (z % 18446744073709551616 + v % 18446744073709551616 + 0) / 18446744073709551616) % 18446744073709551616 := by omega
  have e2 : (v + z) % 18446744073709551616 = (z % 18446744073709551616 + v % 18446744073709551616 + 0) % 18446744073709551616 := by omega
  rw [e1, e2]
  exact wplus_over _ _ a b _ _ _ _ _ _ w CM A1 A2
theorem shl13 (h : Nat) (hh : h < 2251799813685248) : IntKind.u64.wrap ((h : Int) * 8192) = ((h * 8192 : Nat) : Int) := by
  rw [IntKind.wrap_u64]; omega
theorem or13 (h l : Nat) (hh : h < 2251799813685248) (hl : l < 18446744073709551616) : bits .or .u64 (((h * 8192 : Nat)) : Int) ((l / 2251799813685248 : Nat) : Int) = ((h * 8192 + l / 2251799813685248 : Nat) : Int) := by
  rw [u64_or_nat _ _ (by omega) (by omega), nat_join 13 _ _ (by omega) (by omega)]
set_option maxRecDepth 100000 in
theorem split_over (h l n o : Nat) (w : World) (H1 : bits .and .u64 (l : Int) 2251799813685247 = (n : Int)) (H2 : bits .or .u64 (IntKind.u64.wrap ((h : Int) * 8192)) ((l : Int) / 2251799813685248) = (o : Int)) :
    Calls Tryd.prog 95 #[numVal [h, l]] w fun r w' => r = .returned (.tuple #[ncell n, ncell o]) ∧ Below w.heap.size w w' := by
  go_enter Tryd.func95, Tryd.ntmps95
  go_wp2_with (first
    | (refine vtake_step rfl 129 (.tmp 0) rfl ([h, l].map ncell) rfl ?_
       intro w1 hB1 hA1
       have d0 := hA1.get (v := ncell h) (j := 0) rfl
       have d1 := hA1.get (v := ncell l) (j := 1) rfl
       clear hA1))
  go_quiet (fail)
  go_wp2
  go_ret2
  exact ⟨rfl, ⟨hB1.os, hB1.tape, hB1.output, hB1.size, hB1.block⟩⟩
theorem split_any (v : Nat) (w : World) (hv : v < 41538374868278621028243970633760768) :
    Calls Tryd.prog 95 #[wideV v] w fun r w' => r = .returned (.tuple #[ncell (v % 2251799813685248), ncell (v / 2251799813685248)]) ∧ Below w.heap.size w w' := by
  have e1 := and51 (v % 18446744073709551616) (Nat.mod_lt _ (by decide))
  have e2 := or13 (v / 18446744073709551616) (v % 18446744073709551616) (by omega) (Nat.mod_lt _ (by decide))
  have e3 := shl13 (v / 18446744073709551616) (by omega)
  rw [show v % 18446744073709551616 % 2251799813685248 = v % 2251799813685248 by omega] at e1
  rw [show v / 18446744073709551616 * 8192 + v % 18446744073709551616 / 2251799813685248 = v / 2251799813685248 by omega] at e2
  refine split_over _ _ _ _ w e1 ?_
  rw [e3]; exact e2
set_option maxRecDepth 100000 in
set_option maxHeartbeats 1000000 in
theorem narrow_over (v0 v1 v2 v3 v4 : List Nat) (n0 n1 n2 n3 n4 o0 o1 o2 o3 o4 r0 r1 r2 r3 r4 : Nat) (w : World) (L0 : Hid (v0.length = 2)) (L1 : Hid (v1.length = 2)) (L2 : Hid (v2.length = 2)) (L3 : Hid (v3.length = 2)) (L4 : Hid (v4.length = 2))
    (M : IntKind.u64.wrap (19 * (o4 : Int)) = 19 * (o4 : Int)) (M0 : IntKind.u64.wrap ((n0 : Int) + 19 * (o4 : Int)) = (r0 : Int)) (M1 : IntKind.u64.wrap ((n1 : Int) + (o0 : Int)) = (r1 : Int)) (M2 : IntKind.u64.wrap ((n2 : Int) + (o1 : Int)) = (r2 : Int)) (M3 : IntKind.u64.wrap ((n3 : Int) + (o2 : Int)) = (r3 : Int)) (M4 : IntKind.u64.wrap ((n4 : Int) + (o3 : Int)) = (r4 : Int))
    (C0 : Hid (∀ W, Calls Tryd.prog 95 #[numVal v0] W fun r w' => r = .returned (.tuple #[ncell n0, ncell o0]) ∧ Below W.heap.size W w'))
    (C1 : Hid (∀ W, Calls Tryd.prog 95 #[numVal v1] W fun r w' => r = .returned (.tuple #[ncell n1, ncell o1]) ∧ Below W.heap.size W w'))
    (C2 : Hid (∀ W, Calls Tryd.prog 95 #[numVal v2] W fun r w' => r = .returned (.tuple #[ncell n2, ncell o2]) ∧ Below W.heap.size W w'))
    (C3 : Hid (∀ W, Calls Tryd.prog 95 #[numVal v3] W fun r w' => r = .returned (.tuple #[ncell n3, ncell o3]) ∧ Below W.heap.size W w'))
    (C4 : Hid (∀ W, Calls Tryd.prog 95 #[numVal v4] W fun r w' => r = .returned (.tuple #[ncell n4, ncell o4]) ∧ Below W.heap.size W w')) :
    Calls Tryd.prog 89 #[numVal v0, numVal v1, numVal v2, numVal v3, numVal v4] w fun r w' => r = .returned (numVal [r0, r1, r2, r3, r4]) ∧ Below w.heap.size w w' := by
  go_enter Tryd.func89, Tryd.ntmps89
  go_wp2_with (first
    | (refine vtake_step rfl 129 (.tmp 0) rfl (v0.map ncell) rfl ?_
       intro w1 hB1 hV0
       try simp only [putS]
       skip)
    | (refine vtake_step rfl 129 (.tmp 1) rfl (v1.map ncell) rfl ?_
       intro w2 hb2 hV1
       have hB2 := below_then hB1 hb2
       replace hV0 := hV0.on hb2
       clear hB1 hb2
       try simp only [putS]
       skip)
    | (refine vtake_step rfl 129 (.tmp 2) rfl (v2.map ncell) rfl ?_
       intro w3 hb2 hV2
       have hB3 := below_then hB2 hb2
       replace hV0 := hV0.on hb2
       replace hV1 := hV1.on hb2
       clear hB2 hb2
       try simp only [putS]
       skip)
    | (refine vtake_step rfl 129 (.tmp 3) rfl (v3.map ncell) rfl ?_
       intro w4 hb2 hV3
       have hB4 := below_then hB3 hb2
       replace hV0 := hV0.on hb2
       replace hV1 := hV1.on hb2
       replace hV2 := hV2.on hb2
       clear hB3 hb2
       try simp only [putS]
       skip)
    | (refine vtake_step rfl 129 (.tmp 4) rfl (v4.map ncell) rfl ?_
       intro w5 hb2 hV4
       have hB5 := below_then hB4 hb2
       replace hV0 := hV0.on hb2
       replace hV1 := hV1.on hb2
       replace hV2 := hV2.on hb2
       replace hV3 := hV3.on hb2
       clear hB4 hb2
       try simp only [putS]
       skip)
    | (refine vzero_step rfl 42 rfl (nzeros 5) zero_numF ?_
       intro w6 hb2 hZ6
       have hB6 := below_then hB5 hb2
       have hle := hB5.size
       replace hV0 := hV0.on hb2
       replace hV1 := hV1.on hb2
       replace hV2 := hV2.on hb2
       replace hV3 := hV3.on hb2
       replace hV4 := hV4.on hb2
       clear hB5 hb2
       try simp only [putS]
       skip)
    | (refine sget_step rfl 129 (.tmp 5) rfl w.heap.size 2 (v0.map ncell) rfl hV0 Tryd.underlying129 rfl size_wide (by rw [List.length_map, L0.out]) ?_
       clear hV0))
  generalize w5.heap.size = gz at *
  refine (C0.out w6).mono ?_
  rintro r w7 ⟨rfl, hb2⟩
  have hB7 := below_then hB6 hb2
  replace hV1 := hV1.on hb2
  replace hV2 := hV2.on hb2
  replace hV3 := hV3.on hb2
  replace hV4 := hV4.on hb2
  replace hZ6 := hZ6.on hb2
  clear C0 hB6 hb2
  go_wp2_with (first
    | (refine sget_step rfl 129 (.tmp 6) rfl w1.heap.size 2 (v1.map ncell) rfl hV1 Tryd.underlying129 rfl size_wide (by rw [List.length_map, L1.out]) ?_
       clear hV1))
  refine (C1.out w7).mono ?_
  rintro r w8 ⟨rfl, hb2⟩
  have hB8 := below_then hB7 hb2
  replace hV2 := hV2.on hb2
  replace hV3 := hV3.on hb2
  replace hV4 := hV4.on hb2
  replace hZ6 := hZ6.on hb2
  clear C1 hB7 hb2
  go_wp2_with (first
    | (refine sget_step rfl 129 (.tmp 7) rfl w2.heap.size 2 (v2.map ncell) rfl hV2 Tryd.underlying129 rfl size_wide (by rw [List.length_map, L2.out]) ?_
       clear hV2))
  refine (C2.out w8).mono ?_
  rintro r w9 ⟨rfl, hb2⟩
  have hB9 := below_then hB8 hb2
  replace hV3 := hV3.on hb2
  replace hV4 := hV4.on hb2
  replace hZ6 := hZ6.on hb2
  clear C2 hB8 hb2
  go_wp2_with (first
    | (refine sget_step rfl 129 (.tmp 8) rfl w3.heap.size 2 (v3.map ncell) rfl hV3 Tryd.underlying129 rfl size_wide (by rw [List.length_map, L3.out]) ?_
       clear hV3))
  refine (C3.out w9).mono ?_
  rintro r w10 ⟨rfl, hb2⟩
  have hB10 := below_then hB9 hb2
  replace hV4 := hV4.on hb2
  replace hZ6 := hZ6.on hb2
  clear C3 hB9 hb2
  go_wp2_with (first
    | (refine sget_step rfl 129 (.tmp 9) rfl w4.heap.size 2 (v4.map ncell) rfl hV4 Tryd.underlying129 rfl size_wide (by rw [List.length_map, L4.out]) ?_
       clear hV4))
  refine (C4.out w10).mono ?_
  rintro r w11 ⟨rfl, hb2⟩
  have hB11 := below_then hB10 hb2
  replace hZ6 := hZ6.on hb2
  clear C4 hB10 hb2
  go_wp2_with (first
    | (refine build_step rfl 42 _ rfl [(0, ncell r0), (1, ncell r1), (2, ncell r2), (3, ncell r3), (4, ncell r4)] rfl _ (build_num _ _ _ _ _) ?_)
    | (refine vset_step rfl 42 _ _ rfl gz 5 (nzeros 5) ([r0, r1, r2, r3, r4].map ncell) rfl rfl hZ6 rfl size_numF rfl (ncells_one _) ?_
       intro w12 hb12 hC12 _))
  refine vret Tryd.results89 gz ([r0, r1, r2, r3, r4].map ncell) rfl hC12 Tryd.underlying42 size_numF rfl rfl ⟨rfl, hB11.trans (hb12.below hle hB11.size)⟩
theorem narrow_any (v0 v1 v2 v3 v4 : Nat) (w : World) (h0 : v0 < 649037107316853453566312041152512) (h1 : v1 < 649037107316853453566312041152512) (h2 : v2 < 649037107316853453566312041152512) (h3 : v3 < 649037107316853453566312041152512) (h4 : v4 < 162259276829213363391578010288128) :
    Calls Tryd.prog 89 #[wideV v0, wideV v1, wideV v2, wideV v3, wideV v4] w fun r w' => r = .returned (numVal [v0 % 2251799813685248 + 19 * (v4 / 2251799813685248), v1 % 2251799813685248 + v0 / 2251799813685248, v2 % 2251799813685248 + v1 / 2251799813685248, v3 % 2251799813685248 + v2 / 2251799813685248, v4 % 2251799813685248 + v3 / 2251799813685248]) ∧ Below w.heap.size w w' := by
  have M := wmul 19 (v4 / 2251799813685248) (by omega)
  have M0 := wadd (v0 % 2251799813685248) (19 * (v4 / 2251799813685248)) (by omega)
  have M1 := wadd (v1 % 2251799813685248) (v0 / 2251799813685248) (by omega)
  have M2 := wadd (v2 % 2251799813685248) (v1 / 2251799813685248) (by omega)
  have M3 := wadd (v3 % 2251799813685248) (v2 / 2251799813685248) (by omega)
  have M4 := wadd (v4 % 2251799813685248) (v3 / 2251799813685248) (by omega)
  exact narrow_over _ _ _ _ _ _ _ _ _ _ _ _ _ _ _ _ _ _ _ _ w rfl rfl rfl rfl rfl M M0 M1 M2 M3 M4 (fun W => split_any v0 W (by omega)) (fun W => split_any v1 W (by omega)) (fun W => split_any v2 W (by omega)) (fun W => split_any v3 W (by omega)) (fun W => split_any v4 W (by omega))
/-- What stands in product's slots when all has come up but the store. -/
def prodVs (A B R : Value) (ga gb gr : Nat) (x y c : Nat → Nat) (Z : Nat → Nat → Value) : List Value :=
  A :: B :: .pointer (some ⟨ga, 0, none⟩) :: .pointer (some ⟨gb, 0, none⟩) :: .pointer (some ⟨gr, 0, none⟩) :: ncell (c 1) :: ncell (c 2) :: ncell (c 3) :: ncell (c 4) :: .pointer (some ⟨gb, 1, none⟩) :: ncell (y 1) :: ncell (c 1) :: .pointer (some ⟨gb, 2, none⟩) :: ncell (y 2) :: ncell (c 2) :: .pointer (some ⟨gb, 3, none⟩) :: ncell (y 3) :: ncell (c 3) :: .pointer (some ⟨gb, 4, none⟩) :: ncell (y 4) :: ncell (c 4) :: Z 0 0 :: .pointer (some ⟨ga, 0, none⟩) :: ncell (x 0) :: .pointer (some ⟨gb, 0, none⟩) :: ncell (y 0) :: Z 0 1 :: .pointer (some ⟨ga, 1, none⟩) :: ncell (x 1) :: ncell (c 4) :: Z 0 2 :: .pointer (some ⟨ga, 2, none⟩) :: ncell (x 2) :: ncell (c 3) :: Z 0 3 :: .pointer (some ⟨ga, 3, none⟩) :: ncell (x 3) :: ncell (c 2) :: Z 0 4 :: .pointer (some ⟨ga, 4, none⟩) :: ncell (x 4) :: ncell (c 1) :: Z 0 5 :: Z 1 0 :: .pointer (some ⟨ga, 0, none⟩) :: ncell (x 0) :: .pointer (some ⟨gb, 1, none⟩) :: ncell (y 1) :: Z 1 1 :: .pointer (some ⟨ga, 1, none⟩) :: ncell (x 1) :: .pointer (some ⟨gb, 0, none⟩) :: ncell (y 0) :: Z 1 2 :: .pointer (some ⟨ga, 2, none⟩) :: ncell (x 2) :: ncell (c 4) :: Z 1 3 :: .pointer (some ⟨ga, 3, none⟩) :: ncell (x 3) :: ncell (c 3) :: Z 1 4 :: .pointer (some ⟨ga, 4, none⟩) :: ncell (x 4) :: ncell (c 2) :: Z 1 5 :: Z 2 0 :: .pointer (some ⟨ga, 0, none⟩) :: ncell (x 0) :: .pointer (some ⟨gb, 2, none⟩) :: ncell (y 2) :: Z 2 1 :: .pointer (some ⟨ga, 1, none⟩) :: ncell (x 1) :: .pointer (some ⟨gb, 1, none⟩) :: ncell (y 1) :: Z 2 2 :: .pointer (some ⟨ga, 2, none⟩) :: ncell (x 2) :: .pointer (some ⟨gb, 0, none⟩) :: ncell (y 0) :: Z 2 3 :: .pointer (some ⟨ga, 3, none⟩) :: ncell (x 3) :: ncell (c 4) :: Z 2 4 :: .pointer (some ⟨ga, 4, none⟩) :: ncell (x 4) :: ncell (c 3) :: Z 2 5 :: Z 3 0 :: .pointer (some ⟨ga, 0, none⟩) :: ncell (x 0) :: .pointer (some ⟨gb, 3, none⟩) :: ncell (y 3) :: Z 3 1 :: .pointer (some ⟨ga, 1, none⟩) :: ncell (x 1) :: .pointer (some ⟨gb, 2, none⟩) :: ncell (y 2) :: Z 3 2 :: .pointer (some ⟨ga, 2, none⟩) :: ncell (x 2) :: .pointer (some ⟨gb, 1, none⟩) :: ncell (y 1) :: Z 3 3 :: .pointer (some ⟨ga, 3, none⟩) :: ncell (x 3) :: .pointer (some ⟨gb, 0, none⟩) :: ncell (y 0) :: Z 3 4 :: .pointer (some ⟨ga, 4, none⟩) :: ncell (x 4) :: ncell (c 4) :: Z 3 5 :: Z 4 0 :: .pointer (some ⟨ga, 0, none⟩) :: ncell (x 0) :: .pointer (some ⟨gb, 4, none⟩) :: ncell (y 4) :: Z 4 1 :: .pointer (some ⟨ga, 1, none⟩) :: ncell (x 1) :: .pointer (some ⟨gb, 3, none⟩) :: ncell (y 3) :: Z 4 2 :: .pointer (some ⟨ga, 2, none⟩) :: ncell (x 2) :: .pointer (some ⟨gb, 2, none⟩) :: ncell (y 2) :: Z 4 3 :: .pointer (some ⟨ga, 3, none⟩) :: ncell (x 3) :: .pointer (some ⟨gb, 1, none⟩) :: ncell (y 1) :: Z 4 4 :: .pointer (some ⟨ga, 4, none⟩) :: ncell (x 4) :: .pointer (some ⟨gb, 0, none⟩) :: ncell (y 0) :: Z 4 5 :: R :: []
/-- The same ahead of the sums. -/
def prodVs1 (A B _R : Value) (ga gb gr : Nat) (_x y c : Nat → Nat) (_Z : Nat → Nat → Value) : List Value :=
  A :: B :: .pointer (some ⟨ga, 0, none⟩) :: .pointer (some ⟨gb, 0, none⟩) :: .pointer (some ⟨gr, 0, none⟩) :: ncell (c 1) :: ncell (c 2) :: ncell (c 3) :: ncell (c 4) :: .pointer (some ⟨gb, 1, none⟩) :: ncell (y 1) :: ncell (c 1) :: .pointer (some ⟨gb, 2, none⟩) :: ncell (y 2) :: ncell (c 2) :: .pointer (some ⟨gb, 3, none⟩) :: ncell (y 3) :: ncell (c 3) :: .pointer (some ⟨gb, 4, none⟩) :: ncell (y 4) :: ncell (c 4) :: ud 121 []
theorem load_cell {w : World} {g j v : Nat} (h : w.cell? ⟨g, j, none⟩ = some (ncell v)) : (Instr.loadAt 40 (.pointer (some ⟨g, j, none⟩))).run Tryd.prog w = .ok (ncell v) w := by
  go_simp
theorem mul19_run (v u : Nat) (h : IntKind.u64.wrap (19 * (v : Int)) = (u : Int)) (w : World) : (binOp .mul 40 (.int .u64 19) (ncell v)).run Tryd.prog w = .ok (ncell u) w := by
  rw [ncell, ncell, ← h]
  kernel_rfl
set_option maxRecDepth 100000 in
set_option maxHeartbeats 4000000 in
theorem product_over (a b r : List Nat) (x y c : Nat → Nat) (Z : Nat → Nat → Value) (w : World) (Ha : Hid (a = [x 0, x 1, x 2, x 3, x 4])) (Hb : Hid (b = [y 0, y 1, y 2, y 3, y 4])) (Hr : Hid (r.length = 5))
    (MC : ∀ w k, (binOp .mul 40 (.int .u64 19) (ncell (y k))).run Tryd.prog w = .ok (ncell (c k)) w) (Z0 : ∀ i w, (Instr.build 129 #[]).run Tryd.prog w = .ok (Z i 0) w)
    (HC : ∀ i j, i < 5 → j < 5 → ∀ W, Calls Tryd.prog 90 #[Z i j, ncell (x j), ncell (if j ≤ i then y (i - j) else c (5 + i - j))] W (gvn (Z i (j + 1)) W))
    (CN : ∀ W, Calls Tryd.prog 89 #[Z 0 5, Z 1 5, Z 2 5, Z 3 5, Z 4 5] W (gvn (numVal r) W)) :
    Calls Tryd.prog 72 #[numVal a, numVal b] w (gvn (numVal r) w) := by
  go_enter Tryd.func72, Tryd.ntmps72
  go_wp2_with (first
    | (refine vtake_step rfl 42 (.tmp 0) rfl (a.map ncell) rfl ?_
       intro w1 hB1 hA1)
    | (refine vtake_step rfl 42 (.tmp 1) rfl (b.map ncell) rfl ?_
       intro w2 hb2 hC2
       have hB2 := below_then hB1 hb2
       have hA2 := hA1.on hb2
       have hg1 := hA1.lt
       clear hB1 hA1 hb2)
    | (refine vzero_step rfl 42 rfl (nzeros 5) zero_numF ?_
       intro w3 hb3 hZ3
       have hB3 := below_then hB2 hb3
       have hA3 := hA2.on hb3
       have hC3 := hC2.on hb3
       have hg2 := hC2.lt
       clear hB2 hA2 hC2 hb3))
  generalize hg : w1.heap.size = gb at *
  generalize hh : w2.heap.size = gr at *
  generalize hz : w.heap.size = ga at *
  clear hg hh
  have LA : ∀ W, Below w3.drew.heap.size w3.drew W → ∀ k, k < 5 → (Instr.loadAt 40 (.pointer (some ⟨ga, k, none⟩))).run Tryd.prog W = .ok (ncell (x k)) W := by
    intro W hb k hk
    refine load_cell ((hA3.drew.on hb).get ?_)
    rw [Ha.out]
    match k, hk with
    | 0, _ => rfl
    | 1, _ => rfl
    | 2, _ => rfl
    | 3, _ => rfl
    | 4, _ => rfl
  have LB : ∀ W, Below w3.drew.heap.size w3.drew W → ∀ k, k < 5 → (Instr.loadAt 40 (.pointer (some ⟨gb, k, none⟩))).run Tryd.prog W = .ok (ncell (y k)) W := by
    intro W hb k hk
    refine load_cell ((hC3.drew.on hb).get ?_)
    rw [Hb.out]
    match k, hk with
    | 0, _ => rfl
    | 1, _ => rfl
    | 2, _ => rfl
    | 3, _ => rfl
    | 4, _ => rfl
  refine wp_region_any (by kernel_rfl) ?_
  refine wpAny_flatAt (L := [0, 1, 2, 3, 4, 5, 6, 7, 8, 9, 10, 11, 12, 13, 14, 15]) (by kernel_rfl) _ _ (prodVs1 (numVal a) (numVal b) (numVal r) ga gb gr x y c Z) [0, 1, 2, 3, 4, 21, 22, 23, 24, 25, 26, 27, 28, 29, 30, 31, 32, 33, 34, 35, 36, 37, 38, 39, 40, 41, 42, 43, 44, 45, 46, 47, 48, 49, 50, 51, 52, 53, 54, 55, 56, 57, 58, 59, 60, 61, 62, 63, 64, 65, 66, 67, 68, 69, 70, 71, 72, 73, 74, 75, 76, 77, 78, 79, 80, 81, 82, 83, 84, 85, 86, 87, 88, 89, 90, 91, 92, 93, 94, 95, 96, 97, 98, 99, 100, 101, 102, 103, 104, 105, 106, 107, 108, 109, 110, 111, 112, 113, 114, 115, 116, 117, 118, 119, 120, 121, 122, 123, 124, 125, 126, 127, 128, 129, 130, 131, 132, 133, 134, 135, 136, 137, 138, 139, 140, 141] (by kernel_rfl) ?_ (by rfl) ?_ 0 (by kernel_rfl) ?_
  · repeat refine all_cons rfl ?_
    exact all_nil
  · change ∀ i ∈ _, StepOk _ _ _ _ _ w3.drew _ i
    refine all_cons (sI 9 rfl fun w => by kernel_rfl) ?_
    refine all_cons (sL 10 rfl fun w hb => LB w hb 1 (by decide)) ?_
    refine all_cons (stepPure _ 11 rfl rfl rfl (by kernel_rfl) (by kernel_rfl) fun a w hb hv => exec_bin _ _ _ _ _ _ _ rfl _ _ _ rfl (hv 10 (by kernel_rfl)) w (by kernel_rfl) (MC w 1)) ?_
    refine all_cons (sI 12 rfl fun w => by kernel_rfl) ?_
    refine all_cons (sL 13 rfl fun w hb => LB w hb 2 (by decide)) ?_
    refine all_cons (stepPure _ 14 rfl rfl rfl (by kernel_rfl) (by kernel_rfl) fun a w hb hv => exec_bin _ _ _ _ _ _ _ rfl _ _ _ rfl (hv 13 (by kernel_rfl)) w (by kernel_rfl) (MC w 2)) ?_
    refine all_cons (sI 15 rfl fun w => by kernel_rfl) ?_
    refine all_cons (sL 16 rfl fun w hb => LB w hb 3 (by decide)) ?_
    refine all_cons (stepPure _ 17 rfl rfl rfl (by kernel_rfl) (by kernel_rfl) fun a w hb hv => exec_bin _ _ _ _ _ _ _ rfl _ _ _ rfl (hv 16 (by kernel_rfl)) w (by kernel_rfl) (MC w 3)) ?_
    refine all_cons (sI 18 rfl fun w => by kernel_rfl) ?_
    refine all_cons (sL 19 rfl fun w hb => LB w hb 4 (by decide)) ?_
    refine all_cons (stepPure _ 20 rfl rfl rfl (by kernel_rfl) (by kernel_rfl) fun a w hb hv => exec_bin _ _ _ _ _ _ _ rfl _ _ _ rfl (hv 19 (by kernel_rfl)) w (by kernel_rfl) (MC w 4)) ?_
    refine all_cons (stepPure _ 5 rfl rfl rfl (by kernel_rfl) (by kernel_rfl) fun a w hb hv => exec_move _ _ _ (.inr rfl) _ (hv 11 (by kernel_rfl)) w) ?_
    refine all_cons (stepPure _ 6 rfl rfl rfl (by kernel_rfl) (by kernel_rfl) fun a w hb hv => exec_move _ _ _ (.inr rfl) _ (hv 14 (by kernel_rfl)) w) ?_
    refine all_cons (stepPure _ 7 rfl rfl rfl (by kernel_rfl) (by kernel_rfl) fun a w hb hv => exec_move _ _ _ (.inr rfl) _ (hv 17 (by kernel_rfl)) w) ?_
    refine all_cons (stepPure _ 8 rfl rfl rfl (by kernel_rfl) (by kernel_rfl) fun a w hb hv => exec_move _ _ _ (.inr rfl) _ (hv 20 (by kernel_rfl)) w) ?_
    exact all_nil
  · intro w4 hb4
    have hB4 : Below ga w w4 := (show Below ga w w3.drew from hB3.drew).trans (Below.mono hb4 (by rw [← hz]; exact hB3.size))
    have hZ4 : Cells w4 gr (nzeros 5) 42 := hZ3.drew.on hb4
    replace LA : ∀ W, Below w4.drew.heap.size w4.drew W → ∀ k, k < 5 → (Instr.loadAt 40 (.pointer (some ⟨ga, k, none⟩))).run Tryd.prog W = .ok (ncell (x k)) W := fun W hb k hk => LA W (hb4.trans (Below.mono (show Below w4.heap.size w4 W from ⟨hb.os, hb.tape, hb.output, hb.size, hb.block⟩) hb4.size)) k hk
    replace LB : ∀ W, Below w4.drew.heap.size w4.drew W → ∀ k, k < 5 → (Instr.loadAt 40 (.pointer (some ⟨gb, k, none⟩))).run Tryd.prog W = .ok (ncell (y k)) W := fun W hb k hk => LB W (hb4.trans (Below.mono (show Below w4.heap.size w4 W from ⟨hb.os, hb.tape, hb.output, hb.size, hb.block⟩) hb4.size)) k hk
    clear hb4 hB3 hA3 hC3 hZ3
    refine ⟨by kernel_rfl, ?_⟩
    show Exit.then _ _ Exit.normal ⟨(prodVs1 (numVal a) (numVal b) (numVal r) ga gb gr x y c Z).toArray, []⟩ w4
    generalize hF : (⟨(prodVs1 (numVal a) (numVal b) (numVal r) ga gb gr x y c Z).toArray, []⟩ : Act) = F
    simp only [Exit.then]
    rename_i K hKK
    refine hKK _ _ ?_
    refine wp_seq_k fun K2 hK2 => ?_
    refine wp_region_any (by kernel_rfl) ?_
    subst hF
    refine wpAny_flatAt (L := [0, 1, 2, 3, 4, 5, 6, 7, 8, 9, 10, 11, 12, 13, 14, 15, 16, 17, 18, 19, 20, 21, 22, 23, 24, 25, 26, 27, 28, 29, 30, 31, 32, 33, 34, 35, 36, 37, 38, 39, 40, 41, 42, 43, 44, 45, 46, 47, 48, 49, 50, 51, 52, 53, 54, 55, 56, 57, 58, 59, 60, 61, 62, 63, 64, 65, 66, 67, 68, 69, 70, 71, 72, 73, 74, 75, 76, 77, 78, 79, 80, 81, 82, 83, 84, 85, 86, 87, 88, 89, 90, 91, 92, 93, 94, 95, 96, 97, 98, 99, 100, 101, 102, 103, 104, 105, 106, 107, 108, 109, 110, 111, 112, 113, 114, 115, 116, 117, 118, 119, 120]) (by kernel_rfl) _ _ (prodVs (numVal a) (numVal b) (numVal r) ga gb gr x y c Z) [0, 1, 2, 3, 4, 5, 6, 7, 8, 9, 10, 11, 12, 13, 14, 15, 16, 17, 18, 19, 20] (by kernel_rfl) ?_ (by rfl) ?_ 1 (by kernel_rfl) ?_
    · repeat refine all_cons rfl ?_
      exact all_nil
    · change ∀ i ∈ _, StepOk _ _ _ _ _ w4.drew _ i
      refine all_cons (stepPure _ 21 rfl rfl rfl (by kernel_rfl) (by kernel_rfl) fun a w hb hv => exec_build _ _ _ [] rfl [] rfl _ w (Z0 0 w)) ?_
      refine all_cons (sI 22 rfl fun w => by kernel_rfl) ?_
      refine all_cons (sL 23 rfl fun w hb => LA w hb 0 (by decide)) ?_
      refine all_cons (sI 24 rfl fun w => by kernel_rfl) ?_
      refine all_cons (sL 25 rfl fun w hb => LB w hb 0 (by decide)) ?_
      refine all_cons (sC 26 rfl Tryd.func90 fun w hb => HC 0 0 (by decide) (by decide) w) ?_
      refine all_cons (sI 27 rfl fun w => by kernel_rfl) ?_
      refine all_cons (sL 28 rfl fun w hb => LA w hb 1 (by decide)) ?_
      refine all_cons (stepPure _ 29 rfl rfl rfl (by kernel_rfl) (by kernel_rfl) fun a w hb hv => exec_move _ _ _ (.inl rfl) _ (hv 8 (by kernel_rfl)) w) ?_
      refine all_cons (sC 30 rfl Tryd.func90 fun w hb => HC 0 1 (by decide) (by decide) w) ?_
      refine all_cons (sI 31 rfl fun w => by kernel_rfl) ?_
      refine all_cons (sL 32 rfl fun w hb => LA w hb 2 (by decide)) ?_
      refine all_cons (stepPure _ 33 rfl rfl rfl (by kernel_rfl) (by kernel_rfl) fun a w hb hv => exec_move _ _ _ (.inl rfl) _ (hv 7 (by kernel_rfl)) w) ?_
      refine all_cons (sC 34 rfl Tryd.func90 fun w hb => HC 0 2 (by decide) (by decide) w) ?_
      refine all_cons (sI 35 rfl fun w => by kernel_rfl) ?_
      refine all_cons (sL 36 rfl fun w hb => LA w hb 3 (by decide)) ?_
      refine all_cons (stepPure _ 37 rfl rfl rfl (by kernel_rfl) (by kernel_rfl) fun a w hb hv => exec_move _ _ _ (.inl rfl) _ (hv 6 (by kernel_rfl)) w) ?_
      refine all_cons (sC 38 rfl Tryd.func90 fun w hb => HC 0 3 (by decide) (by decide) w) ?_
      refine all_cons (sI 39 rfl fun w => by kernel_rfl) ?_
      refine all_cons (sL 40 rfl fun w hb => LA w hb 4 (by decide)) ?_
      refine all_cons (stepPure _ 41 rfl rfl rfl (by kernel_rfl) (by kernel_rfl) fun a w hb hv => exec_move _ _ _ (.inl rfl) _ (hv 5 (by kernel_rfl)) w) ?_
      refine all_cons (sC 42 rfl Tryd.func90 fun w hb => HC 0 4 (by decide) (by decide) w) ?_
      refine all_cons (stepPure _ 43 rfl rfl rfl (by kernel_rfl) (by kernel_rfl) fun a w hb hv => exec_build _ _ _ [] rfl [] rfl _ w (Z0 1 w)) ?_
      refine all_cons (sI 44 rfl fun w => by kernel_rfl) ?_
      refine all_cons (sL 45 rfl fun w hb => LA w hb 0 (by decide)) ?_
      refine all_cons (sI 46 rfl fun w => by kernel_rfl) ?_
      refine all_cons (sL 47 rfl fun w hb => LB w hb 1 (by decide)) ?_
      refine all_cons (sC 48 rfl Tryd.func90 fun w hb => HC 1 0 (by decide) (by decide) w) ?_
      refine all_cons (sI 49 rfl fun w => by kernel_rfl) ?_
      refine all_cons (sL 50 rfl fun w hb => LA w hb 1 (by decide)) ?_
      refine all_cons (sI 51 rfl fun w => by kernel_rfl) ?_
      refine all_cons (sL 52 rfl fun w hb => LB w hb 0 (by decide)) ?_
      refine all_cons (sC 53 rfl Tryd.func90 fun w hb => HC 1 1 (by decide) (by decide) w) ?_
      refine all_cons (sI 54 rfl fun w => by kernel_rfl) ?_
      refine all_cons (sL 55 rfl fun w hb => LA w hb 2 (by decide)) ?_
      refine all_cons (stepPure _ 56 rfl rfl rfl (by kernel_rfl) (by kernel_rfl) fun a w hb hv => exec_move _ _ _ (.inl rfl) _ (hv 8 (by kernel_rfl)) w) ?_
      refine all_cons (sC 57 rfl Tryd.func90 fun w hb => HC 1 2 (by decide) (by decide) w) ?_
      refine all_cons (sI 58 rfl fun w => by kernel_rfl) ?_
      refine all_cons (sL 59 rfl fun w hb => LA w hb 3 (by decide)) ?_
      refine all_cons (stepPure _ 60 rfl rfl rfl (by kernel_rfl) (by kernel_rfl) fun a w hb hv => exec_move _ _ _ (.inl rfl) _ (hv 7 (by kernel_rfl)) w) ?_
      refine all_cons (sC 61 rfl Tryd.func90 fun w hb => HC 1 3 (by decide) (by decide) w) ?_
      refine all_cons (sI 62 rfl fun w => by kernel_rfl) ?_
      refine all_cons (sL 63 rfl fun w hb => LA w hb 4 (by decide)) ?_
      refine all_cons (stepPure _ 64 rfl rfl rfl (by kernel_rfl) (by kernel_rfl) fun a w hb hv => exec_move _ _ _ (.inl rfl) _ (hv 6 (by kernel_rfl)) w) ?_
      refine all_cons (sC 65 rfl Tryd.func90 fun w hb => HC 1 4 (by decide) (by decide) w) ?_
      refine all_cons (stepPure _ 66 rfl rfl rfl (by kernel_rfl) (by kernel_rfl) fun a w hb hv => exec_build _ _ _ [] rfl [] rfl _ w (Z0 2 w)) ?_
      refine all_cons (sI 67 rfl fun w => by kernel_rfl) ?_
      refine all_cons (sL 68 rfl fun w hb => LA w hb 0 (by decide)) ?_
      refine all_cons (sI 69 rfl fun w => by kernel_rfl) ?_
      refine all_cons (sL 70 rfl fun w hb => LB w hb 2 (by decide)) ?_
      refine all_cons (sC 71 rfl Tryd.func90 fun w hb => HC 2 0 (by decide) (by decide) w) ?_
      refine all_cons (sI 72 rfl fun w => by kernel_rfl) ?_
      refine all_cons (sL 73 rfl fun w hb => LA w hb 1 (by decide)) ?_
      refine all_cons (sI 74 rfl fun w => by kernel_rfl) ?_
      refine all_cons (sL 75 rfl fun w hb => LB w hb 1 (by decide)) ?_
      refine all_cons (sC 76 rfl Tryd.func90 fun w hb => HC 2 1 (by decide) (by decide) w) ?_
      refine all_cons (sI 77 rfl fun w => by kernel_rfl) ?_
      refine all_cons (sL 78 rfl fun w hb => LA w hb 2 (by decide)) ?_
      refine all_cons (sI 79 rfl fun w => by kernel_rfl) ?_
      refine all_cons (sL 80 rfl fun w hb => LB w hb 0 (by decide)) ?_
      refine all_cons (sC 81 rfl Tryd.func90 fun w hb => HC 2 2 (by decide) (by decide) w) ?_
      refine all_cons (sI 82 rfl fun w => by kernel_rfl) ?_
      refine all_cons (sL 83 rfl fun w hb => LA w hb 3 (by decide)) ?_
      refine all_cons (stepPure _ 84 rfl rfl rfl (by kernel_rfl) (by kernel_rfl) fun a w hb hv => exec_move _ _ _ (.inl rfl) _ (hv 8 (by kernel_rfl)) w) ?_
      refine all_cons (sC 85 rfl Tryd.func90 fun w hb => HC 2 3 (by decide) (by decide) w) ?_
      refine all_cons (sI 86 rfl fun w => by kernel_rfl) ?_
      refine all_cons (sL 87 rfl fun w hb => LA w hb 4 (by decide)) ?_
      refine all_cons (stepPure _ 88 rfl rfl rfl (by kernel_rfl) (by kernel_rfl) fun a w hb hv => exec_move _ _ _ (.inl rfl) _ (hv 7 (by kernel_rfl)) w) ?_
      refine all_cons (sC 89 rfl Tryd.func90 fun w hb => HC 2 4 (by decide) (by decide) w) ?_
      refine all_cons (stepPure _ 90 rfl rfl rfl (by kernel_rfl) (by kernel_rfl) fun a w hb hv => exec_build _ _ _ [] rfl [] rfl _ w (Z0 3 w)) ?_
      refine all_cons (sI 91 rfl fun w => by kernel_rfl) ?_
      refine all_cons (sL 92 rfl fun w hb => LA w hb 0 (by decide)) ?_
      refine all_cons (sI 93 rfl fun w => by kernel_rfl) ?_
      refine all_cons (sL 94 rfl fun w hb => LB w hb 3 (by decide)) ?_
      refine all_cons (sC 95 rfl Tryd.func90 fun w hb => HC 3 0 (by decide) (by decide) w) ?_
      refine all_cons (sI 96 rfl fun w => by kernel_rfl) ?_
      refine all_cons (sL 97 rfl fun w hb => LA w hb 1 (by decide)) ?_
      refine all_cons (sI 98 rfl fun w => by kernel_rfl) ?_
      refine all_cons (sL 99 rfl fun w hb => LB w hb 2 (by decide)) ?_
      refine all_cons (sC 100 rfl Tryd.func90 fun w hb => HC 3 1 (by decide) (by decide) w) ?_
      refine all_cons (sI 101 rfl fun w => by kernel_rfl) ?_
      refine all_cons (sL 102 rfl fun w hb => LA w hb 2 (by decide)) ?_
      refine all_cons (sI 103 rfl fun w => by kernel_rfl) ?_
      refine all_cons (sL 104 rfl fun w hb => LB w hb 1 (by decide)) ?_
      refine all_cons (sC 105 rfl Tryd.func90 fun w hb => HC 3 2 (by decide) (by decide) w) ?_
      refine all_cons (sI 106 rfl fun w => by kernel_rfl) ?_
      refine all_cons (sL 107 rfl fun w hb => LA w hb 3 (by decide)) ?_
      refine all_cons (sI 108 rfl fun w => by kernel_rfl) ?_
      refine all_cons (sL 109 rfl fun w hb => LB w hb 0 (by decide)) ?_
      refine all_cons (sC 110 rfl Tryd.func90 fun w hb => HC 3 3 (by decide) (by decide) w) ?_
      refine all_cons (sI 111 rfl fun w => by kernel_rfl) ?_
      refine all_cons (sL 112 rfl fun w hb => LA w hb 4 (by decide)) ?_
      refine all_cons (stepPure _ 113 rfl rfl rfl (by kernel_rfl) (by kernel_rfl) fun a w hb hv => exec_move _ _ _ (.inl rfl) _ (hv 8 (by kernel_rfl)) w) ?_
      refine all_cons (sC 114 rfl Tryd.func90 fun w hb => HC 3 4 (by decide) (by decide) w) ?_
      refine all_cons (stepPure _ 115 rfl rfl rfl (by kernel_rfl) (by kernel_rfl) fun a w hb hv => exec_build _ _ _ [] rfl [] rfl _ w (Z0 4 w)) ?_
      refine all_cons (sI 116 rfl fun w => by kernel_rfl) ?_
      refine all_cons (sL 117 rfl fun w hb => LA w hb 0 (by decide)) ?_
      refine all_cons (sI 118 rfl fun w => by kernel_rfl) ?_
      refine all_cons (sL 119 rfl fun w hb => LB w hb 4 (by decide)) ?_
      refine all_cons (sC 120 rfl Tryd.func90 fun w hb => HC 4 0 (by decide) (by decide) w) ?_
      refine all_cons (sI 121 rfl fun w => by kernel_rfl) ?_
      refine all_cons (sL 122 rfl fun w hb => LA w hb 1 (by decide)) ?_
      refine all_cons (sI 123 rfl fun w => by kernel_rfl) ?_
      refine all_cons (sL 124 rfl fun w hb => LB w hb 3 (by decide)) ?_
      refine all_cons (sC 125 rfl Tryd.func90 fun w hb => HC 4 1 (by decide) (by decide) w) ?_
      refine all_cons (sI 126 rfl fun w => by kernel_rfl) ?_
      refine all_cons (sL 127 rfl fun w hb => LA w hb 2 (by decide)) ?_
      refine all_cons (sI 128 rfl fun w => by kernel_rfl) ?_
      refine all_cons (sL 129 rfl fun w hb => LB w hb 2 (by decide)) ?_
      refine all_cons (sC 130 rfl Tryd.func90 fun w hb => HC 4 2 (by decide) (by decide) w) ?_
      refine all_cons (sI 131 rfl fun w => by kernel_rfl) ?_
      refine all_cons (sL 132 rfl fun w hb => LA w hb 3 (by decide)) ?_
      refine all_cons (sI 133 rfl fun w => by kernel_rfl) ?_
      refine all_cons (sL 134 rfl fun w hb => LB w hb 1 (by decide)) ?_
      refine all_cons (sC 135 rfl Tryd.func90 fun w hb => HC 4 3 (by decide) (by decide) w) ?_
      refine all_cons (sI 136 rfl fun w => by kernel_rfl) ?_
      refine all_cons (sL 137 rfl fun w hb => LA w hb 4 (by decide)) ?_
      refine all_cons (sI 138 rfl fun w => by kernel_rfl) ?_
      refine all_cons (sL 139 rfl fun w hb => LB w hb 0 (by decide)) ?_
      refine all_cons (sC 140 rfl Tryd.func90 fun w hb => HC 4 4 (by decide) (by decide) w) ?_
      refine all_cons (sC 141 rfl Tryd.func89 fun w hb => CN w) ?_
      exact all_nil
    · intro w5 hb5
      have hB5 : Below ga w w5 := (show Below ga w w4.drew from hB4.drew).trans (Below.mono hb5 (by rw [← hz] at hB4 ⊢; exact hB4.size))
      have hZ5 : Cells w5 gr (nzeros 5) 42 := hZ4.drew.on hb5
      clear hb5 hB4 hZ4 LA LB MC Z0 HC CN
      refine wpAny_rest 121 rfl (by kernel_rfl) ?_
      refine vset_step rfl 42 (.tmp 4) (.tmp 141) rfl gr 5 (nzeros 5) (r.map ncell) rfl rfl hZ5 rfl size_numF (by rw [List.length_map, Hr.out]) (ncells_one r) ?_
      intro w7 hb7 hC7 hz7
      generalize hF : (⟨(prodVs (numVal a) (numVal b) (numVal r) ga gb gr x y c Z).toArray, []⟩ : Act) = F
      show Exit.then K2 _ Exit.normal (F.put none undef) w7
      simp only [Exit.then]
      refine hK2 _ _ ?_
      refine wp_ret ?_
      subst hF
      refine vret Tryd.results72 gr (r.map ncell) rfl hC7 Tryd.underlying42 size_numF (by rw [List.length_map, Hr.out]) rfl ⟨rfl, by rw [hz]; exact hB5.trans (hb7.below (by omega) (by have := hZ5.lt; omega))⟩
/-- The part j of product's sum i. -/
def prodM (y : Nat → Nat) (i j : Nat) : Nat := if j ≤ i then y (i - j) else 19 * y (5 + i - j)
def prodS (x y : Nat → Nat) (i : Nat) : Nat → Nat
  | 0 => 0
  | j + 1 => prodS x y i j + x j * prodM y i j
theorem prodM_le {y : Nat → Nat} (hy : ∀ k, y k < 2251799813685248) (i j : Nat) : prodM y i j ≤ 42784196460019693 := by
  have h1 := hy (i - j)
  have h2 := hy (5 + i - j)
  unfold prodM
  split <;> omega
theorem prod_part {x y : Nat → Nat} (hx : ∀ k, x k < 2251799813685248) (hy : ∀ k, y k < 2251799813685248) (i j : Nat) : x j * prodM y i j ≤ 2251799813685247 * 42784196460019693 := Nat.mul_le_mul (by have := hx j; omega) (prodM_le hy i j)
theorem prodS_le {x y : Nat → Nat} (hx : ∀ k, x k < 2251799813685248) (hy : ∀ k, y k < 2251799813685248) (i : Nat) : ∀ j, prodS x y i j ≤ j * (2251799813685247 * 42784196460019693)
  | 0 => Nat.zero_le _
  | j + 1 => by
    have h1 := prodS_le hx hy i j
    have h2 := prod_part hx hy i j
    rw [prodS, Nat.add_mul j 1]
    omega
theorem prodS_last {x y : Nat → Nat} (hx : ∀ k, x k < 2251799813685248) (hy : ∀ k, y k < 2251799813685248) : prodS x y 4 5 < 162259276829213363391578010288128 := by
  have h : ∀ k l, x k * y l ≤ 2251799813685247 * 2251799813685247 := fun k l => Nat.mul_le_mul (by have := hx k; omega) (by have := hy l; omega)
  have e : prodS x y 4 5 = 0 + x 0 * y 4 + x 1 * y 3 + x 2 * y 2 + x 3 * y 1 + x 4 * y 0 := rfl
  rw [e]
  have h0 := h 0 4
  have h1 := h 1 3
  have h2 := h 2 2
  have h3 := h 3 1
  have h4 := h 4 0
  omega
theorem prod_ring (m x0 x1 x2 x3 x4 y0 y1 y2 y3 y4 : Int) : (x0 + m * (x1 + m * (x2 + m * (x3 + m * x4)))) * (y0 + m * (y1 + m * (y2 + m * (y3 + m * y4)))) =
    (x0 * y0 + x1 * (19 * y4) + x2 * (19 * y3) + x3 * (19 * y2) + x4 * (19 * y1)) + m * ((x0 * y1 + x1 * y0 + x2 * (19 * y4) + x3 * (19 * y3) + x4 * (19 * y2)) + m * ((x0 * y2 + x1 * y1 + x2 * y0 + x3 * (19 * y4) + x4 * (19 * y3)) + m * ((x0 * y3 + x1 * y2 + x2 * y1 + x3 * y0 + x4 * (19 * y4)) + m * (x0 * y4 + x1 * y3 + x2 * y2 + x3 * y1 + x4 * y0)))) +
    (m * m * m * m * m - 19) * ((x1 * y4 + x2 * y3 + x3 * y2 + x4 * y1) + m * ((x2 * y4 + x3 * y3 + x4 * y2) + m * ((x3 * y4 + x4 * y3) + m * (x4 * y4)))) := by grind
theorem narrow_val (v0 v1 v2 v3 v4 : Nat) : val5 (v0 % 2251799813685248 + 19 * (v4 / 2251799813685248)) (v1 % 2251799813685248 + v0 / 2251799813685248) (v2 % 2251799813685248 + v1 / 2251799813685248) (v3 % 2251799813685248 + v2 / 2251799813685248) (v4 % 2251799813685248 + v3 / 2251799813685248) + pp * (v4 / 2251799813685248) = val5 v0 v1 v2 v3 v4 := by
  simp only [val5, pp]; omega
theorem prod_val (x y : Nat → Nat) : val5 (prodS x y 0 5) (prodS x y 1 5) (prodS x y 2 5) (prodS x y 3 5) (prodS x y 4 5) % pp = val5 (x 0) (x 1) (x 2) (x 3) (x 4) * val5 (y 0) (y 1) (y 2) (y 3) (y 4) % pp := by
  have e0 : prodS x y 0 5 = 0 + x 0 * y 0 + x 1 * (19 * y 4) + x 2 * (19 * y 3) + x 3 * (19 * y 2) + x 4 * (19 * y 1) := rfl
  have e1 : prodS x y 1 5 = 0 + x 0 * y 1 + x 1 * y 0 + x 2 * (19 * y 4) + x 3 * (19 * y 3) + x 4 * (19 * y 2) := rfl
  have e2 : prodS x y 2 5 = 0 + x 0 * y 2 + x 1 * y 1 + x 2 * y 0 + x 3 * (19 * y 4) + x 4 * (19 * y 3) := rfl
  have e3 : prodS x y 3 5 = 0 + x 0 * y 3 + x 1 * y 2 + x 2 * y 1 + x 3 * y 0 + x 4 * (19 * y 4) := rfl
  have e4 : prodS x y 4 5 = 0 + x 0 * y 4 + x 1 * y 3 + x 2 * y 2 + x 3 * y 1 + x 4 * y 0 := rfl
  rw [NP.cg, e0, e1, e2, e3, e4]
  generalize x 0 = x0
  generalize x 1 = x1
  generalize x 2 = x2
  generalize x 3 = x3
  generalize x 4 = x4
  generalize y 0 = y0
  generalize y 1 = y1
  generalize y 2 = y2
  generalize y 3 = y3
  generalize y 4 = y4
  have h := prod_ring 2251799813685248 x0 x1 x2 x3 x4 y0 y1 y2 y3 y4
  refine ⟨-((x1 * y4 + x2 * y3 + x3 * y2 + x4 * y1) + 2251799813685248 * ((x2 * y4 + x3 * y3 + x4 * y2) + 2251799813685248 * ((x3 * y4 + x4 * y3) + 2251799813685248 * (x4 * y4)))), ?_⟩
  simp only [val5, Int.natCast_mul, Int.natCast_add, Int.natCast_zero, Int.zero_add]
  rw [show ((2251799813685248 : Nat) : Int) = 2251799813685248 from rfl, show ((19 : Nat) : Int) = 19 from rfl, h]
  generalize ((x1 : Int) * y4 + x2 * y3 + x3 * y2 + x4 * y1) + 2251799813685248 * ((x2 * y4 + x3 * y3 + x4 * y2) + 2251799813685248 * ((x3 * y4 + x4 * y3) + 2251799813685248 * (x4 * y4))) = W
  rw [show (2251799813685248 : Int) * 2251799813685248 * 2251799813685248 * 2251799813685248 * 2251799813685248 - 19 = 57896044618658097711785492504343953926634992332820282019728792003956564819949 from by decide, show ((pp : Nat) : Int) = 57896044618658097711785492504343953926634992332820282019728792003956564819949 from rfl]
  omega
/-- What product's limbs are. -/
structure ProdIs (x y : Nat → Nat) (a b c d e : Nat) : Prop where
  low : a < 2305843009213693952 ∧ b < 2305843009213693952 ∧ c < 2305843009213693952 ∧ d < 2305843009213693952 ∧ e < 1152921504606846976
  val : val5 a b c d e % pp = val5 (x 0) (x 1) (x 2) (x 3) (x 4) * val5 (y 0) (y 1) (y 2) (y 3) (y 4) % pp
theorem product_any (x y : Nat → Nat) (hx : ∀ k, x k < 2251799813685248) (hy : ∀ k, y k < 2251799813685248) :
    ∃ a b c d e, ProdIs x y a b c d e ∧ ∀ w, Calls Tryd.prog 72 #[numVal [x 0, x 1, x 2, x 3, x 4], numVal [y 0, y 1, y 2, y 3, y 4]] w fun r w' => r = .returned (numVal [a, b, c, d, e]) ∧ Below w.heap.size w w' := by
  have hS := fun i => prodS_le hx hy i 5
  have hL := prodS_last hx hy
  refine ⟨_, _, _, _, _, ⟨?_, ?_⟩, fun w => product_over _ _ _ x y (fun k => 19 * y k) (fun i j => wideV (prodS x y i j)) w rfl rfl rfl (fun w k => mul19_run _ _ ?_ w) (fun i w => build_wide0 w) (fun i j hi hj W => ?_) (fun W => narrow_any _ _ _ _ _ W ?_ ?_ ?_ ?_ hL)⟩
  · have h0 := hS 0
    have h1 := hS 1
    have h2 := hS 2
    have h3 := hS 3
    refine ⟨?_, ?_, ?_, ?_, ?_⟩ <;> omega
  · rw [← prod_val]
    conv => rhs; rw [← narrow_val, Nat.add_mul_mod_self_left]
  · exact wmul 19 (y k) (by have := hy k; omega)
  · have h1 := prodS_le hx hy i j
    have h2 := prod_part hx hy i j
    have h3 : prodS x y i j ≤ 5 * (2251799813685247 * 42784196460019693) := Nat.le_trans h1 (Nat.mul_le_mul_right _ (by omega))
    exact wplus_any (prodS x y i j) (x j) (prodM y i j) W (by have := hx j; omega) (by have := prodM_le hy i j; omega) (by omega)
  all_goals
    have h0 := hS 0
    have h1 := hS 1
    have h2 := hS 2
    have h3 := hS 3
    omega
end Go.Proofs.YtoggkhjaghkpnaaDoor
