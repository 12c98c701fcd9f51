/- Part 3 of what the laws of this seat share: FLeast, FPlus, FWide, FNarrow, WOrders, WLoops, WLoose. -/
import Derived.Deep.QuietTactic
import Derived.BigQuiet
import Derived.Deep.RegionHeld
import Derived.RegionTactic
import Derived.StillTail
import Derived.Test.YtagjbdhelfickaaDoorPart2
namespace Go.Proofs.YtagjbdhelfickaaDoor
open Go.RowKit
theorem results_tmp6 {fn : Func} {t u v x y z : Tmp} (h : fn.results = #[.tmp t, .tmp u, .tmp v, .tmp x, .tmp y, .tmp z]) (tmps : Array Value) (P : Program) (w : World) :
    (results fn tmps).run P w = .ok (.tuple #[tmps.getD t undef, tmps.getD u undef, tmps.getD v undef, tmps.getD x undef, tmps.getD y undef, tmps.getD z undef]) w := by
  simp [results, h]
set_option maxRecDepth 100000 in
theorem carried_over5 (a b c d e b1 c1 d1 e1 : Nat) (w : World) (ha : Hid (a < 9223372036854775808)) (hb : Hid (b1 = b + a / 2251799813685248 ∧ b1 < 18446744073709551616)) (hc : Hid (c1 = c + b1 / 2251799813685248 ∧ c1 < 18446744073709551616)) (hd : Hid (d1 = d + c1 / 2251799813685248 ∧ d1 < 18446744073709551616)) (he : Hid (e1 = e + d1 / 2251799813685248 ∧ e1 < 18446744073709551616)) :
    Calls Tryd.prog 86 #[ncell a, ncell b, ncell c, ncell d, ncell e] w fun r w' => r = .returned (.tuple #[ncell (a % 2251799813685248), ncell (b1 % 2251799813685248), ncell (c1 % 2251799813685248), ncell (d1 % 2251799813685248), ncell (e1 % 2251799813685248), ncell (e1 / 2251799813685248)]) ∧ w = w' := by
  have eb : IntKind.u64.wrap ((b : Int) + (a : Int) / 2251799813685248) = (b1 : Int) := by rw [wadd_div _ _ (by rw [← hb.out.1]; exact hb.out.2), ← hb.out.1]
  have ec : IntKind.u64.wrap ((c : Int) + (b1 : Int) / 2251799813685248) = (c1 : Int) := by rw [wadd_div _ _ (by rw [← hc.out.1]; exact hc.out.2), ← hc.out.1]
  have ed : IntKind.u64.wrap ((d : Int) + (c1 : Int) / 2251799813685248) = (d1 : Int) := by rw [wadd_div _ _ (by rw [← hd.out.1]; exact hd.out.2), ← hd.out.1]
  have ee : IntKind.u64.wrap ((e : Int) + (d1 : Int) / 2251799813685248) = (e1 : Int) := by rw [wadd_div _ _ (by rw [← he.out.1]; exact he.out.2), ← he.out.1]
  have fa := and51 a (by have := ha.out; omega)
  have fb := and51 b1 hb.out.2
  have fc := and51 c1 hc.out.2
  have fd := and51 d1 hd.out.2
  have fe := and51 e1 he.out.2
  go_enter Tryd.func86, Tryd.ntmps86
  go_wp2
  try simp only [Exit.inBlock, Exit.then]
  refine bodyPost_ret (results_tmp6 rfl _ _ _) rfl ?_
  exact ⟨rfl, rfl⟩
/-- Five limbs carried, told by their number. -/
theorem carried_any (a b c d e : Nat) (w : World) (ha : a < 4611686018427387904) (hb : b < 4611686018427387904) (hc : c < 4611686018427387904) (hd : d < 4611686018427387904) (he : e < 4611686018427387904) (n : Nat) (hn : n = val5 a b c d e) :
    Calls Tryd.prog 86 #[ncell a, ncell b, ncell c, ncell d, ncell e] w fun r w' => r = .returned (.tuple #[ncell (n % 2251799813685248), ncell (n / 2251799813685248 % 2251799813685248), ncell (n / 2251799813685248 / 2251799813685248 % 2251799813685248), ncell (n / 2251799813685248 / 2251799813685248 / 2251799813685248 % 2251799813685248), ncell (n / 2251799813685248 / 2251799813685248 / 2251799813685248 / 2251799813685248 % 2251799813685248), ncell (n / 2251799813685248 / 2251799813685248 / 2251799813685248 / 2251799813685248 / 2251799813685248)]) ∧ w = w' := by
  subst hn
  have h0 : val5 a b c d e % 2251799813685248 = a % 2251799813685248 := by rw [val5, mod51]
  rw [val5_4, val5_3, val5_2, val5_1, mod51, mod51, mod51, h0]
  exact carried_over5 a b c d e _ _ _ _ w (by show _ < _; omega) ⟨rfl, by omega⟩ ⟨rfl, by omega⟩ ⟨rfl, by omega⟩ ⟨rfl, by omega⟩
set_option maxRecDepth 100000 in
set_option maxHeartbeats 1000000 in
theorem least_over5 (a b c d e o q : Nat) (x0 x1 x2 x3 x4 y0 y1 y2 y3 y4 z0 z1 z2 z3 z4 u v t : Nat) (w : World)
    (HT : Hid (t < 576460752303423488 ∧ o < 1024 ∧ q < 1024 ∧ x0 < 2251799813685248)) (Ht : Hid (t = x0 + 19 * o)) (Hu : Hid (u = t + 19)) (Hv : Hid (v = t + 19 * q))
    (C1 : Hid (∀ W, Calls Tryd.prog 86 #[ncell a, ncell b, ncell c, ncell d, ncell e] W fun r w' => r = .returned (.tuple #[ncell x0, ncell x1, ncell x2, ncell x3, ncell x4, ncell o]) ∧ W = w'))
    (C2 : Hid (∀ W, Calls Tryd.prog 86 #[ncell u, ncell x1, ncell x2, ncell x3, ncell x4] W fun r w' => r = .returned (.tuple #[ncell y0, ncell y1, ncell y2, ncell y3, ncell y4, ncell q]) ∧ W = w'))
    (C3 : Hid (∀ W, Calls Tryd.prog 86 #[ncell v, ncell x1, ncell x2, ncell x3, ncell x4] W fun r w' => ∃ p : Nat, r = .returned (.tuple #[ncell z0, ncell z1, ncell z2, ncell z3, ncell z4, ncell p]) ∧ W = w')) :
    Calls Tryd.prog 73 #[numVal [a, b, c, d, e]] w fun r w' => r = .returned (numVal [z0, z1, z2, z3, z4]) ∧ Below w.heap.size w w' := by
  have M1 : IntKind.u64.wrap (19 * (o : Int)) = 19 * (o : Int) := wmul 19 o (by have := HT.out; omega)
  have M2 : IntKind.u64.wrap ((x0 : Int) + 19 * (o : Int)) = (t : Int) := by have h := wadd x0 (19 * o) (by have := HT.out; omega); rw [Ht.out]; exact h
  have M3 : IntKind.u64.wrap ((t : Int) + 19) = (u : Int) := by rw [show (19 : Int) = ((19 : Nat) : Int) from rfl, wadd _ _ (by have := HT.out; omega), ← Hu.out]
  have M4 : IntKind.u64.wrap (19 * (q : Int)) = 19 * (q : Int) := wmul 19 q (by have := HT.out; omega)
  have M5 : IntKind.u64.wrap ((t : Int) + 19 * (q : Int)) = (v : Int) := by have h := wadd t (19 * q) (by have := HT.out; omega); rw [Hv.out]; exact h
  clear HT Ht Hu Hv
  go_enter Tryd.func73, Tryd.ntmps73
  go_wp2_with (first
    | (refine vtake_step rfl 27 (.tmp 0) rfl ([a, b, c, d, e].map ncell) rfl ?_
       intro w1 hB1 hA1
       have d0 := hA1.get (v := ncell a) (j := 0) rfl
       have d1 := hA1.get (v := ncell b) (j := 1) rfl
       have d2 := hA1.get (v := ncell c) (j := 2) rfl
       have d3 := hA1.get (v := ncell d) (j := 3) rfl
       have d4 := hA1.get (v := ncell e) (j := 4) rfl)
    | (refine vzero_step rfl 27 rfl (nzeros 5) zero_numF ?_
       intro w3 hb3 hZ3
       have hB3 := below_then hB1 hb3
       have hA3 := hA1.on hb3
       have hg2 := hA1.lt
       clear hB1 hA1 hb3 d0 d1 d2 d3 d4
       have d0 := hA3.get (v := ncell a) (j := 0) rfl
       have d1 := hA3.get (v := ncell b) (j := 1) rfl
       have d2 := hA3.get (v := ncell c) (j := 2) rfl
       have d3 := hA3.get (v := ncell d) (j := 3) rfl
       have d4 := hA3.get (v := ncell e) (j := 4) rfl))
  refine (C1.out w3).mono ?_
  rintro r w4 ⟨rfl, rfl⟩
  clear C1 d0 d1 d2 d3 d4 hA3
  go_wp2_with fail
  refine (C2.out w3).mono ?_
  rintro r w4 ⟨rfl, rfl⟩
  clear C2
  go_wp2_with fail
  refine (C3.out w3).mono ?_
  rintro r w4 ⟨p, rfl, rfl⟩
  clear C3
  go_wp2_with (first
    | (refine build_step rfl 27 _ rfl [(0, ncell z0), (1, ncell z1), (2, ncell z2), (3, ncell z3), (4, ncell z4)] rfl _ (build_num _ _ _ _ _) ?_)
    | (refine vset_step rfl 27 _ _ rfl w1.heap.size 5 (nzeros 5) ([z0, z1, z2, z3, z4].map ncell) rfl rfl hZ3 rfl size_numF rfl (ncells_one _) ?_
       intro w7 hb7 hC7 _))
  refine vret Tryd.results73 w1.heap.size ([z0, z1, z2, z3, z4].map ncell) rfl hC7 Tryd.underlying27 size_numF rfl rfl ⟨rfl, hB3.trans (hb7.below (Nat.le_of_lt hg2) hB3.size)⟩
theorem least_any (a b c d e n : Nat) (w : World) (ha : a < 2305843009213693952) (hb : b < 2305843009213693952) (hc : c < 2305843009213693952) (hd : d < 2305843009213693952) (he : e < 1152921504606846976) (hn : n = val5 a b c d e) :
    Calls Tryd.prog 73 #[numVal [a, b, c, d, e]] w fun r w' => r = .returned (elV (n % pp)) ∧ Below w.heap.size w w' := by
  have hs : n < 1024 * 57896044618658097711785492504343953926634992332820282019728792003956564819968 := by rw [hn, val5]; omega
  have ho : n / 2251799813685248 / 2251799813685248 / 2251799813685248 / 2251799813685248 / 2251799813685248 < 1024 := by rw [div5_all]; omega
  have hx0 := Nat.mod_lt n (show 0 < 2251799813685248 by decide)
  have hx1 := Nat.mod_lt (n / 2251799813685248) (show 0 < 2251799813685248 by decide)
  have hx2 := Nat.mod_lt (n / 2251799813685248 / 2251799813685248) (show 0 < 2251799813685248 by decide)
  have hx3 := Nat.mod_lt (n / 2251799813685248 / 2251799813685248 / 2251799813685248) (show 0 < 2251799813685248 by decide)
  have hx4 := Nat.mod_lt (n / 2251799813685248 / 2251799813685248 / 2251799813685248 / 2251799813685248) (show 0 < 2251799813685248 by decide)
  have key := least_val a b c d e n _ _ _ hn hs rfl rfl rfl
  rw [elV, ← key]
  have C1 := fun W => carried_any a b c d e W (by omega) (by omega) (by omega) (by omega) (by omega) n hn
  clear key hn hs
  generalize n / 2251799813685248 / 2251799813685248 / 2251799813685248 / 2251799813685248 / 2251799813685248 = o at *
  generalize n / 2251799813685248 / 2251799813685248 / 2251799813685248 / 2251799813685248 % 2251799813685248 = x4 at *
  generalize n / 2251799813685248 / 2251799813685248 / 2251799813685248 % 2251799813685248 = x3 at *
  generalize n / 2251799813685248 / 2251799813685248 % 2251799813685248 = x2 at *
  generalize n / 2251799813685248 % 2251799813685248 = x1 at *
  generalize n % 2251799813685248 = x0 at *
  have C2 := fun W => carried_any (x0 + 19 * o + 19) x1 x2 x3 x4 W (by omega) (by omega) (by omega) (by omega) (by omega) _ rfl
  have hq : val5 (x0 + 19 * o + 19) x1 x2 x3 x4 / 2251799813685248 / 2251799813685248 / 2251799813685248 / 2251799813685248 / 2251799813685248 < 1024 := by rw [div5_all, val5]; omega
  generalize val5 (x0 + 19 * o + 19) x1 x2 x3 x4 / 2251799813685248 / 2251799813685248 / 2251799813685248 / 2251799813685248 / 2251799813685248 = q at *
  have C3 := fun W => carried_any (x0 + 19 * o + 19 * q) x1 x2 x3 x4 W (by omega) (by omega) (by omega) (by omega) (by omega) _ rfl
  exact least_over5 a b c d e o q x0 x1 x2 x3 x4 _ _ _ _ _ _ _ _ _ _ (x0 + 19 * o + 19) (x0 + 19 * o + 19 * q) (x0 + 19 * o) w (by show _ ∧ _; omega) rfl rfl rfl C1 C2 (fun W => (C3 W).mono (fun r w' h => ⟨_, h.1, h.2⟩))
end Go.Proofs.YtagjbdhelfickaaDoor
namespace Go.Proofs.YtagjbdhelfickaaDoor
open Go.RowKit
set_option maxRecDepth 100000 in
set_option maxHeartbeats 1000000 in
theorem plusF_over (a b r : List Nat) (S : Nat → List Nat) (w : World) (HB : Hid (b.length = 5)) (HL : Hid (∀ k, (S k).length = 5)) (H0 : Hid (S 0 = a)) (HS : Hid (∀ k, S (k + 1) = (S k).set k (addW ((S k).getD k 0) (b.getD k 0)))) (HR : Hid (S 5 = r)) :
    Calls Tryd.prog 79 #[numVal a, numVal b] w fun e w' => e = .returned (numVal r) ∧ Below w.heap.size w w' := by
  go_enter Tryd.func79, Tryd.ntmps79
  go_wp2_with (first
    | (refine vtake_step rfl 27 (.tmp 0) rfl (a.map ncell) rfl ?_
       intro w1 hB1 hA1)
    | (refine vtake_step rfl 27 (.tmp 1) rfl (b.map ncell) rfl ?_
       intro w2 hb2 hC2
       have hB2 := below_then hB1 hb2
       have hA2 := hA1.on hb2
       have hg1 := hA1.lt
       clear hB1 hA1 hb2)
    | (refine vzero_step rfl 27 rfl (nzeros 5) zero_numF ?_
       intro w3 hb3 hZ3
       have hB3 := below_then hB2 hb3
       have hA3 := hA2.on hb3
       have hC3 := hC2.on hb3
       have hg2 := hC2.lt
       clear hB2 hA2 hC2 hb3))
  generalize hg : w1.heap.size = gb at *
  generalize hh : w2.heap.size = gz at *
  clear hg hh
  go_loopw [6] (fun i wr => ∃ k : Nat, k ≤ 5 ∧ i = .int .i64 k ∧ Below w.heap.size w wr ∧ Cells wr w.heap.size ((S k).map ncell) 27 ∧ Cells wr gb (b.map ncell) 27 ∧ Cells wr gz (nzeros 5) 27) (fun i _ => 5 - (intOf i).toNat)
  case atStart => exact ⟨0, Nat.zero_le _, rfl, hB3, by rw [H0.out]; exact hA3, hC3, hZ3⟩
  case round =>
    clear hB3 hA3 hC3 hZ3
    obtain ⟨k, hk, rfl, hB, hS, hC, hZ⟩ := hrel
    have HLk := Lib.hid (HL.out k)
    by_cases hlt : k < 5
    · have HN := Lib.hid (HS.out k)
      generalize S k = s at *
      have i1 : (0 : Int) ≤ (k : Int) := by omega
      have i2 : (k : Int) < 5 := by omega
      go_wp2_with fail
      refine wp_region_tail 8 (by kernel_rfl) (by kernel_rfl) ?_
      intro w4 hw4
      have hB4 : Below w.heap.size w w4 := by rw [hw4]; exact hB.drew
      have hS4 : Cells w4 w.heap.size (s.map ncell) 27 := by rw [hw4]; exact hS
      have hC4 : Cells w4 gb (b.map ncell) 27 := by rw [hw4]; exact hC
      have hZ4 : Cells w4 gz (nzeros 5) 27 := by rw [hw4]; exact hZ
      clear hw4 hB hS hC hZ
      have d1 := hS4.get (nat_at s k (by rw [HLk.out]; exact hlt))
      have d2 := hC4.get (nat_at b k (by rw [HB.out]; exact hlt))
      have d3 := hS4.frozen k
      generalize s.getD k 0 = x at *
      generalize b.getD k 0 = y at *
      simp only [List.take_succ_cons, List.take_zero, List.drop_succ_cons, List.drop_zero]
      repeat still_step
      refine wpStill_nil ?_
      go_wp2
      go_roundw
      case rel =>
        rw [add64n]
        refine ⟨k + 1, by omega, by go_num, hB4.setCell (p := ⟨w.heap.size, k, none⟩) (Nat.le_refl _) _, ?_, hC4.other (by show gb ≠ w.heap.size; omega) _, hZ4.other (by show gz ≠ w.heap.size; omega) _⟩
        rw [HN.out, ← nset_map]
        exact hS4.set k _
      case measure => simp [intOf]; omega
    · obtain rfl : k = 5 := by omega
      rw [HR.out] at hS HLk
      go_wp2_with (first
        | (refine vget_step rfl 27 _ rfl w.heap.size 5 (r.map ncell) 25 rfl hS Tryd.underlying27 size_numF (by rw [List.length_map, HLk.out]) ?_)
        | (refine vset_step rfl 27 _ _ rfl gz 5 (nzeros 5) (r.map ncell) rfl rfl hZ rfl size_numF (by rw [List.length_map, HLk.out]) (ncells_one r) ?_
           intro w7 hb7 hC7 _))
      refine vret Tryd.results79 gz (r.map ncell) rfl hC7 Tryd.underlying27 size_numF (by rw [List.length_map, HLk.out]) rfl ⟨rfl, hB.trans (hb7.below (by omega) hB.size)⟩
theorem plusF_any (a b : List Nat) (w : World) (ha : a.length = 5) (hb : b.length = 5) :
    Calls Tryd.prog 79 #[numVal a, numVal b] w fun e w' => e = .returned (numVal (plusN a b)) ∧ Below w.heap.size w w' :=
  plusF_over a b _ (plusTo a b) w hb (fun k => (plusTo_length a b k).trans ha) rfl (fun _ => rfl) rfl
theorem wsub (C y : Nat) (h : y ≤ C) (hC : C < 18446744073709551616) : IntKind.u64.wrap ((C : Int) - (y : Int)) = ((C - y : Nat) : Int) := by
  rw [IntKind.wrap_u64]; omega
set_option maxRecDepth 100000 in
set_option maxHeartbeats 1000000 in
theorem minusF_over (a b r : List Nat) (S : Nat → List Nat) (w : World) (HA : Hid (a.length = 5)) (HB : Hid (b.length = 5)) (HL : Hid (∀ k, (S k).length = 5)) (H1 : Hid (S 1 = a.set 0 (a.getD 0 0 + (4503599627370458 - b.getD 0 0)))) (HS : Hid (∀ k, 1 ≤ k → k < 5 → S (k + 1) = (S k).set k ((S k).getD k 0 + (4503599627370494 - b.getD k 0)))) (HR : Hid (S 5 = r))
    (HBb : Hid (∀ k, b.getD k 0 < 2251799813685248)) (HAb : Hid (a.getD 0 0 < 2251799813685248)) (HSb : Hid (∀ k, 1 ≤ k → k < 5 → (S k).getD k 0 < 2251799813685248)) :
    Calls Tryd.prog 76 #[numVal a, numVal b] w fun e w' => e = .returned (numVal r) ∧ Below w.heap.size w w' := by
  have e0 : a[0]? = some (a.getD 0 0) := by have := HA.out; rw [List.getD_eq_getElem?_getD, List.getElem?_eq_getElem (by omega)]; rfl
  have X0 := Lib.hid (nat_at a 0 (by rw [HA.out]; omega))
  have Y0 := Lib.hid (nat_at b 0 (by rw [HB.out]; omega))
  have hy := HBb.out 0
  have hx := HAb.out
  have M1 : IntKind.u64.wrap (4503599627370458 - ((b.getD 0 0 : Nat) : Int)) = ((4503599627370458 - b.getD 0 0 : Nat) : Int) := wsub 4503599627370458 (b.getD 0 0) (by omega) (by decide)
  have M2 := wadd (a.getD 0 0) (4503599627370458 - b.getD 0 0) (by omega)
  obtain ⟨z, HZ⟩ : ∃ z, Hid (a.getD 0 0 + (4503599627370458 - b.getD 0 0) = z) := ⟨_, rfl⟩
  obtain ⟨y2, HY⟩ : ∃ z, Hid (4503599627370458 - b.getD 0 0 = z) := ⟨_, rfl⟩
  rw [HZ.out] at M2 H1
  rw [HY.out] at M1 M2
  clear hx hy HZ HY e0 HAb
  generalize a.getD 0 0 = x at *
  generalize b.getD 0 0 = y at *
  go_enter Tryd.func76, Tryd.ntmps76
  go_wp2_with (first
    | (refine vtake_step rfl 27 (.tmp 0) rfl (a.map ncell) rfl ?_
       intro w1 hB1 hA1)
    | (refine vtake_step rfl 27 (.tmp 1) rfl (b.map ncell) rfl ?_
       intro w2 hb2 hC2
       have hB2 := below_then hB1 hb2
       have hA2 := hA1.on hb2
       have hg1 := hA1.lt
       clear hB1 hA1 hb2)
    | (refine vzero_step rfl 27 rfl (nzeros 5) zero_numF ?_
       intro w3 hb3 hZ3
       have hB3 := below_then hB2 hb3
       have hA3 := hA2.on hb3
       have hC3 := hC2.on hb3
       have hg2 := hC2.lt
       have d1 := hA3.get X0.out
       have d2 := hC3.get Y0.out
       have hT := hA3.there 0 1 (by rw [List.length_map, HA.out]; omega)
       clear hB2 hA2 hC2 hb3)
    | ((try rw [M1, M2])
       refine store_step rfl 25 _ _ rfl w.heap.size 0 .u64 (z : Int) rfl rfl size_u64 hT ?_
       intro w4 hw4
       have hB4 : Below w.heap.size w w4 := by rw [hw4]; exact hB3.setCell (p := ⟨w.heap.size, 0, none⟩) (Nat.le_refl _) _
       have hA4 : Cells w4 w.heap.size ((S 1).map ncell) 27 := by rw [hw4, H1.out, ← nset_map]; exact hA3.set 0 _
       have hC4 : Cells w4 w1.heap.size (b.map ncell) 27 := by rw [hw4]; exact hC3.other (by show w1.heap.size ≠ w.heap.size; omega) _
       have hZ4 : Cells w4 w2.heap.size (nzeros 5) 27 := by rw [hw4]; exact hZ3.other (by show w2.heap.size ≠ w.heap.size; omega) _
       clear hw4 hB3 hA3 hC3 hZ3 d1 d2 hT M1 M2))
  generalize hg : w1.heap.size = gb at *
  generalize hh : w2.heap.size = gz at *
  clear hg hh
  go_loopw [5] (fun i wr => ∃ k : Nat, 1 ≤ k ∧ k ≤ 5 ∧ i = .int .i64 k ∧ Below w.heap.size w wr ∧ Cells wr w.heap.size ((S k).map ncell) 27 ∧ Cells wr gb (b.map ncell) 27 ∧ Cells wr gz (nzeros 5) 27) (fun i _ => 5 - (intOf i).toNat)
  case atStart => exact ⟨1, Nat.le_refl _, by omega, rfl, hB4, hA4, hC4, hZ4⟩
  case round =>
    clear hB4 hA4 hC4 hZ4
    obtain ⟨k, hk1, hk, rfl, hB, hS, hC, hZ⟩ := hrel
    have HLk := Lib.hid (HL.out k)
    by_cases hlt : k < 5
    · have HN := Lib.hid (HS.out k hk1 hlt)
      have HX := Lib.hid (HSb.out k hk1 hlt)
      have HY := Lib.hid (HBb.out k)
      generalize S k = s at *
      have i1 : (0 : Int) ≤ (k : Int) := by omega
      have i2 : (k : Int) < 5 := by omega
      go_wp2_with fail
      refine wp_region_tail 9 (by kernel_rfl) (by kernel_rfl) ?_
      intro w4 hw4
      have hB4 : Below w.heap.size w w4 := by rw [hw4]; exact hB.drew
      have hS4 : Cells w4 w.heap.size (s.map ncell) 27 := by rw [hw4]; exact hS
      have hC4 : Cells w4 gb (b.map ncell) 27 := by rw [hw4]; exact hC
      have hZ4 : Cells w4 gz (nzeros 5) 27 := by rw [hw4]; exact hZ
      clear hw4 hB hS hC hZ
      have d1 := hS4.get (nat_at s k (by rw [HLk.out]; exact hlt))
      have d2 := hC4.get (nat_at b k (by rw [HB.out]; exact hlt))
      have d3 := hS4.frozen k
      have M1 := Lib.hid (wsub 4503599627370494 (b.getD k 0) (by have := HY.out; omega) (by decide))
      have M2 := Lib.hid (wadd (s.getD k 0) (4503599627370494 - b.getD k 0) (by have := HX.out; omega))
      clear HX HY
      generalize s.getD k 0 = x at *
      generalize b.getD k 0 = y at *
      simp only [List.take_succ_cons, List.take_zero, List.drop_succ_cons, List.drop_zero]
      repeat still_step
      refine wpStill_nil ?_
      go_wp2
      go_roundw
      case rel =>
        rw [show (4503599627370494 : Int) = ((4503599627370494 : Nat) : Int) from rfl, M1.out, M2.out]
        refine ⟨k + 1, by omega, by omega, by go_num, hB4.setCell (p := ⟨w.heap.size, k, none⟩) (Nat.le_refl _) _, ?_, hC4.other (by show gb ≠ w.heap.size; omega) _, hZ4.other (by show gz ≠ w.heap.size; omega) _⟩
        rw [HN.out, ← nset_map]
        exact hS4.set k _
      case measure => simp [intOf]; omega
    · obtain rfl : k = 5 := by omega
      rw [HR.out] at hS HLk
      go_wp2_with (first
        | (refine vget_step rfl 27 _ rfl w.heap.size 5 (r.map ncell) 25 rfl hS Tryd.underlying27 size_numF (by rw [List.length_map, HLk.out]) ?_)
        | (refine vset_step rfl 27 _ _ rfl gz 5 (nzeros 5) (r.map ncell) rfl rfl hZ rfl size_numF (by rw [List.length_map, HLk.out]) (ncells_one r) ?_
           intro w7 hb7 hC7 _))
      refine vret Tryd.results76 gz (r.map ncell) rfl hC7 Tryd.underlying27 size_numF (by rw [List.length_map, HLk.out]) rfl ⟨rfl, hB.trans (hb7.below (by omega) hB.size)⟩
def minTo (a b : List Nat) : Nat → List Nat
  | 0 => a
  | 1 => a.set 0 (a.getD 0 0 + (4503599627370458 - b.getD 0 0))
  | k + 1 => (minTo a b k).set k ((minTo a b k).getD k 0 + (4503599627370494 - b.getD k 0))
theorem minTo_length (a b : List Nat) : ∀ k, (minTo a b k).length = a.length
  | 0 => rfl
  | 1 => by rw [minTo, List.length_set]
  | k + 2 => by rw [minTo, List.length_set, minTo_length a b (k + 1)]; exact fun h => by omega
theorem minusF_any (a0 a1 a2 a3 a4 b0 b1 b2 b3 b4 : Nat) (w : World) (ha : a0 < 2251799813685248 ∧ a1 < 2251799813685248 ∧ a2 < 2251799813685248 ∧ a3 < 2251799813685248 ∧ a4 < 2251799813685248) (hb : b0 < 2251799813685248 ∧ b1 < 2251799813685248 ∧ b2 < 2251799813685248 ∧ b3 < 2251799813685248 ∧ b4 < 2251799813685248) :
    Calls Tryd.prog 76 #[numVal [a0, a1, a2, a3, a4], numVal [b0, b1, b2, b3, b4]] w fun e w' => e = .returned (numVal [a0 + (4503599627370458 - b0), a1 + (4503599627370494 - b1), a2 + (4503599627370494 - b2), a3 + (4503599627370494 - b3), a4 + (4503599627370494 - b4)]) ∧ Below w.heap.size w w' := by
  obtain ⟨p0, p1, p2, p3, p4⟩ := ha
  obtain ⟨q0, q1, q2, q3, q4⟩ := hb
  refine minusF_over _ _ _ (minTo [a0, a1, a2, a3, a4] [b0, b1, b2, b3, b4]) w rfl rfl (fun k => minTo_length _ _ k) rfl (fun k h1 h2 => ?_) rfl (fun k => ?_) p0 (fun k h1 h2 => ?_)
  · match k, h1, h2 with
    | 1, _, _ => rfl
    | 2, _, _ => rfl
    | 3, _, _ => rfl
    | 4, _, _ => rfl
  · match k with
    | 0 => exact q0
    | 1 => exact q1
    | 2 => exact q2
    | 3 => exact q3
    | 4 => exact q4
    | k + 5 => show 0 < _; decide
  · match k, h1, h2 with
    | 1, _, _ => exact p1
    | 2, _, _ => exact p2
    | 3, _, _ => exact p3
    | 4, _, _ => exact p4
end Go.Proofs.YtagjbdhelfickaaDoor
namespace Go.Proofs.YtagjbdhelfickaaDoor
open Go.RowKit
theorem andLow (x : Nat) (h : x < 18446744073709551616) : bits .and .u64 (x : Int) 4294967295 = ((x % 4294967296 : Nat) : Int) := by
  rw [show (4294967295 : Int) = ((4294967295 : Nat) : Int) from rfl, u64_and_nat _ _ h (by omega)]
  have := Nat.and_two_pow_sub_one_eq_mod x 32
  simp only [Nat.reducePow, Nat.reduceSub] at this
  rw [this]
theorem mul_parts (x0 x1 y0 y1 : Nat) : (x0 + 4294967296 * x1) * (y0 + 4294967296 * y1) = x0 * y0 + 4294967296 * (x1 * y0) + 4294967296 * (x0 * y1) + 18446744073709551616 * (x1 * y1) := by grind
theorem mulHalf {x y : Nat} (hx : x < 4294967296) (hy : y < 4294967296) : x * y ≤ 18446744065119617025 := Nat.mul_le_mul (show x ≤ 4294967295 by omega) (show y ≤ 4294967295 by omega)
set_option maxRecDepth 100000 in
theorem mul64_over (x y x0 x1 y0 y1 w0 s p10 t w1 w2 p01 w3 p11 h1 s2 hi lo : Nat) (w : World)
    (F1 : bits .and .u64 (x : Int) 4294967295 = x0) (F2 : (x : Int) / 4294967296 = x1) (F3 : bits .and .u64 (y : Int) 4294967295 = y0) (F4 : (y : Int) / 4294967296 = y1)
    (F5 : IntKind.u64.wrap ((x0 : Int) * y0) = w0) (F6 : (w0 : Int) / 4294967296 = s) (F7 : IntKind.u64.wrap ((x1 : Int) * y0) = p10) (F8 : IntKind.u64.wrap ((p10 : Int) + s) = t)
    (F9 : bits .and .u64 (t : Int) 4294967295 = w1) (F10 : (t : Int) / 4294967296 = w2) (F11 : IntKind.u64.wrap ((x0 : Int) * y1) = p01) (F12 : IntKind.u64.wrap ((w1 : Int) + p01) = w3)
    (F13 : IntKind.u64.wrap ((x1 : Int) * y1) = p11) (F14 : IntKind.u64.wrap ((p11 : Int) + w2) = h1) (F15 : (w3 : Int) / 4294967296 = s2) (F16 : IntKind.u64.wrap ((h1 : Int) + s2) = hi) (F17 : IntKind.u64.wrap ((x : Int) * y) = lo) :
    Calls Tryd.prog 93 #[ncell x, ncell y] w fun r w' => r = .returned (.tuple #[ncell hi, ncell lo]) ∧ w = w' := by
  go_enter Tryd.func93, Tryd.ntmps93
  go_wp2
  go_ret2
  exact ⟨rfl, rfl⟩
theorem mul64_any (x y : Nat) (w : World) (hx : x < 18446744073709551616) (hy : y < 18446744073709551616) :
    Calls Tryd.prog 93 #[ncell x, ncell y] w fun r w' => r = .returned (.tuple #[ncell (x * y / 18446744073709551616), ncell (x * y % 18446744073709551616)]) ∧ w = w' := by
  have dx := Nat.div_add_mod x 4294967296
  have dy := Nat.div_add_mod y 4294967296
  have mp := mul_parts (x % 4294967296) (x / 4294967296) (y % 4294967296) (y / 4294967296)
  rw [Nat.add_comm (x % 4294967296), Nat.add_comm (y % 4294967296), dx, dy] at mp
  have b00 := mulHalf (Nat.mod_lt x (show 4294967296 > 0 by decide)) (Nat.mod_lt y (show 4294967296 > 0 by decide))
  have b10 := mulHalf (show x / 4294967296 < 4294967296 by omega) (Nat.mod_lt y (show 4294967296 > 0 by decide))
  have b01 := mulHalf (Nat.mod_lt x (show 4294967296 > 0 by decide)) (show y / 4294967296 < 4294967296 by omega)
  have b11 := mulHalf (show x / 4294967296 < 4294967296 by omega) (show y / 4294967296 < 4294967296 by omega)
  have F17 : IntKind.u64.wrap ((x : Int) * y) = ((x * y % 18446744073709551616 : Nat) : Int) := by rw [IntKind.wrap_u64, ← Int.natCast_mul]; rfl
  have F1 := andLow x hx
  have F3 := andLow y hy
  have F5 := wmul (x % 4294967296) (y % 4294967296) (by omega)
  have F7 := wmul (x / 4294967296) (y % 4294967296) (by omega)
  have F11 := wmul (x % 4294967296) (y / 4294967296) (by omega)
  have F13 := wmul (x / 4294967296) (y / 4294967296) (by omega)
  have F2 : (x : Int) / 4294967296 = ((x / 4294967296 : Nat) : Int) := rfl
  have F4 : (y : Int) / 4294967296 = ((y / 4294967296 : Nat) : Int) := rfl
  generalize x % 4294967296 = x0 at *
  generalize x / 4294967296 = x1 at *
  generalize y % 4294967296 = y0 at *
  generalize y / 4294967296 = y1 at *
  generalize x0 * y0 = p00 at *
  generalize x1 * y0 = p10 at *
  generalize x0 * y1 = p01 at *
  generalize x1 * y1 = p11 at *
  generalize x * y = z at *
  have F8 := wadd p10 (p00 / 4294967296) (by omega)
  have F9 := andLow (p10 + p00 / 4294967296) (by omega)
  have F12 := wadd ((p10 + p00 / 4294967296) % 4294967296) p01 (by omega)
  have F14 := wadd p11 ((p10 + p00 / 4294967296) / 4294967296) (by omega)
  have F16 := wadd (p11 + (p10 + p00 / 4294967296) / 4294967296) (((p10 + p00 / 4294967296) % 4294967296 + p01) / 4294967296) (by omega)
  have e : z / 18446744073709551616 = p11 + (p10 + p00 / 4294967296) / 4294967296 + ((p10 + p00 / 4294967296) % 4294967296 + p01) / 4294967296 := by omega
  rw [e]
  exact mul64_over x y x0 x1 y0 y1 p00 (p00 / 4294967296) p10 (p10 + p00 / 4294967296) ((p10 + p00 / 4294967296) % 4294967296) ((p10 + p00 / 4294967296) / 4294967296) p01 ((p10 + p00 / 4294967296) % 4294967296 + p01) p11 (p11 + (p10 + p00 / 4294967296) / 4294967296) (((p10 + p00 / 4294967296) % 4294967296 + p01) / 4294967296) _ _ w F1 F2 F3 F4 F5 rfl F7 F8 F9 rfl F11 F12 F13 F14 rfl F16 F17
theorem add64_run (x y c : Nat) (hc : c ≤ 1) (w : World) : (callFunc 94 #[ncell x, ncell y, ncell c]).run Tryd.prog w = .ok (.value (.tuple #[ncell ((x + y + c) % 18446744073709551616), ncell ((x + y + c) / 18446744073709551616)])) w := by
  rw [run_callFunc_extern Tryd.func94 (by kernel_rfl) (by kernel_rfl) (by kernel_rfl) (e := add64Entry) (by kernel_rfl), run_add64 x y c (by omega) (by omega) (by omega) (by omega)]
  rfl
set_option maxRecDepth 100000 in
theorem wplus_over (h l a b hi lo l2 c h2 c2 : Nat) (w : World)
    (CM : Hid (∀ W, Calls Tryd.prog 93 #[ncell a, ncell b] W fun r w' => r = .returned (.tuple #[ncell hi, ncell lo]) ∧ W = w'))
    (A1 : ∀ W, (callFunc 94 #[ncell lo, ncell l, .int .u64 0]).run Tryd.prog W = .ok (.value (.tuple #[ncell l2, ncell c])) W)
    (A2 : ∀ W, (callFunc 94 #[ncell hi, ncell h, ncell c]).run Tryd.prog W = .ok (.value (.tuple #[ncell h2, ncell c2])) W) :
    Calls Tryd.prog 88 #[numVal [h, l], ncell a, ncell b] w fun r w' => r = .returned (numVal [h2, l2]) ∧ Below w.heap.size w w' := by
  go_enter Tryd.func88, Tryd.ntmps88
  go_wp2_with (first
    | (refine vtake_step rfl 122 (.tmp 0) rfl ([h, l].map ncell) rfl ?_
       intro w1 hB1 hA1
       have hg2 := hA1.lt)
    | (refine vzero_step rfl 122 rfl (nzeros 2) zero_wide ?_
       intro w3 hb3 hZ3
       have hB3 := below_then hB1 hb3
       have hA3 := hA1.on hb3
       clear hB1 hA1 hb3
       have d0 := hA3.get (v := ncell h) (j := 0) rfl
       have d1 := hA3.get (v := ncell l) (j := 1) rfl))
  refine (CM.out w3).mono ?_
  rintro r w4 ⟨rfl, rfl⟩
  clear CM
  go_wp2_with (first
    | (refine build_step rfl 122 _ rfl [(0, ncell h2), (1, ncell l2)] rfl _ (build_wide _ _) ?_)
    | (refine vset_step rfl 122 _ _ rfl w1.heap.size 2 (nzeros 2) ([h2, l2].map ncell) rfl rfl hZ3 rfl size_wide rfl (ncells_one _) ?_
       intro w7 hb7 hC7 _))
  refine sret Tryd.results88 w1.heap.size ([h2, l2].map ncell) rfl hC7 Tryd.underlying122 rfl size_wide rfl rfl ⟨rfl, hB3.trans (hb7.below (Nat.le_of_lt hg2) hB3.size)⟩
theorem wplus_any (v a b : Nat) (w : World) (ha : a < 18446744073709551616) (hb : b < 18446744073709551616) (hv : v + a * b < 340282366920938463463374607431768211456) :
    Calls Tryd.prog 88 #[wideV v, ncell a, ncell b] w fun r w' => r = .returned (wideV (v + a * b)) ∧ Below w.heap.size w w' := by
  have CM := fun W => mul64_any a b W ha hb
  rw [wideV, wideV]
  generalize a * b = z at *
  have A1 := fun W => add64_run (z % 18446744073709551616) (v % 18446744073709551616) 0 (by omega) W
  have A2 := fun W => add64_run (z / 18446744073709551616) (v / 18446744073709551616) ((z % 18446744073709551616 + v % 18446744073709551616 + 0) / 18446744073709551616) (by omega) W
  have e1 : (v + z) / 18446744073709551616 = (z / 18446744073709551616 + v / 18446744073709551616 + (z % 18446744073709551616 + v % 18446744073709551616 + 0) / 18446744073709551616) % 18446744073709551616 := by omega
  have e2 : (v + z) % 18446744073709551616 = (z % 18446744073709551616 + v % 18446744073709551616 + 0) % 18446744073709551616 := by omega
  rw [e1, e2]
  exact wplus_over _ _ a b _ _ _ _ _ _ w CM A1 A2
end Go.Proofs.YtagjbdhelfickaaDoor
namespace Go.Proofs.YtagjbdhelfickaaDoor
open Go.RowKit
theorem shl13 (h : Nat) (hh : h < 2251799813685248) : IntKind.u64.wrap ((h : Int) * 8192) = ((h * 8192 : Nat) : Int) := by
  rw [IntKind.wrap_u64]; omega
theorem or13 (h l : Nat) (hh : h < 2251799813685248) (hl : l < 18446744073709551616) : bits .or .u64 (((h * 8192 : Nat)) : Int) ((l / 2251799813685248 : Nat) : Int) = ((h * 8192 + l / 2251799813685248 : Nat) : Int) := by
  rw [u64_or_nat _ _ (by omega) (by omega), nat_join 13 _ _ (by omega) (by omega)]
set_option maxRecDepth 100000 in
theorem split_over (h l n o : Nat) (w : World) (H1 : bits .and .u64 (l : Int) 2251799813685247 = (n : Int)) (H2 : bits .or .u64 (IntKind.u64.wrap ((h : Int) * 8192)) ((l : Int) / 2251799813685248) = (o : Int)) :
    Calls Tryd.prog 92 #[numVal [h, l]] w fun r w' => r = .returned (.tuple #[ncell n, ncell o]) ∧ Below w.heap.size w w' := by
  go_enter Tryd.func92, Tryd.ntmps92
  go_wp2_with (first
    | (refine vtake_step rfl 122 (.tmp 0) rfl ([h, l].map ncell) rfl ?_
       intro w1 hB1 hA1
       have d0 := hA1.get (v := ncell h) (j := 0) rfl
       have d1 := hA1.get (v := ncell l) (j := 1) rfl
       clear hA1))
  go_quiet (fail)
  go_wp2
  go_ret2
  exact ⟨rfl, ⟨hB1.os, hB1.tape, hB1.output, hB1.size, hB1.block⟩⟩
theorem split_any (v : Nat) (w : World) (hv : v < 41538374868278621028243970633760768) :
    Calls Tryd.prog 92 #[wideV v] w fun r w' => r = .returned (.tuple #[ncell (v % 2251799813685248), ncell (v / 2251799813685248)]) ∧ Below w.heap.size w w' := by
  have e1 := and51 (v % 18446744073709551616) (Nat.mod_lt _ (by decide))
  have e2 := or13 (v / 18446744073709551616) (v % 18446744073709551616) (by omega) (Nat.mod_lt _ (by decide))
  have e3 := shl13 (v / 18446744073709551616) (by omega)
  rw [show v % 18446744073709551616 % 2251799813685248 = v % 2251799813685248 by omega] at e1
  rw [show v / 18446744073709551616 * 8192 + v % 18446744073709551616 / 2251799813685248 = v / 2251799813685248 by omega] at e2
  refine split_over _ _ _ _ w e1 ?_
  rw [e3]; exact e2
set_option maxRecDepth 100000 in
set_option maxHeartbeats 1000000 in
theorem narrow_over (v0 v1 v2 v3 v4 : List Nat) (n0 n1 n2 n3 n4 o0 o1 o2 o3 o4 r0 r1 r2 r3 r4 : Nat) (w : World) (L0 : Hid (v0.length = 2)) (L1 : Hid (v1.length = 2)) (L2 : Hid (v2.length = 2)) (L3 : Hid (v3.length = 2)) (L4 : Hid (v4.length = 2))
    (M : IntKind.u64.wrap (19 * (o4 : Int)) = 19 * (o4 : Int)) (M0 : IntKind.u64.wrap ((n0 : Int) + 19 * (o4 : Int)) = (r0 : Int)) (M1 : IntKind.u64.wrap ((n1 : Int) + (o0 : Int)) = (r1 : Int)) (M2 : IntKind.u64.wrap ((n2 : Int) + (o1 : Int)) = (r2 : Int)) (M3 : IntKind.u64.wrap ((n3 : Int) + (o2 : Int)) = (r3 : Int)) (M4 : IntKind.u64.wrap ((n4 : Int) + (o3 : Int)) = (r4 : Int))
    (C0 : Hid (∀ W, Calls Tryd.prog 92 #[numVal v0] W fun r w' => r = .returned (.tuple #[ncell n0, ncell o0]) ∧ Below W.heap.size W w'))
    (C1 : Hid (∀ W, Calls Tryd.prog 92 #[numVal v1] W fun r w' => r = .returned (.tuple #[ncell n1, ncell o1]) ∧ Below W.heap.size W w'))
    (C2 : Hid (∀ W, Calls Tryd.prog 92 #[numVal v2] W fun r w' => r = .returned (.tuple #[ncell n2, ncell o2]) ∧ Below W.heap.size W w'))
    (C3 : Hid (∀ W, Calls Tryd.prog 92 #[numVal v3] W fun r w' => r = .returned (.tuple #[ncell n3, ncell o3]) ∧ Below W.heap.size W w'))
    (C4 : Hid (∀ W, Calls Tryd.prog 92 #[numVal v4] W fun r w' => r = .returned (.tuple #[ncell n4, ncell o4]) ∧ Below W.heap.size W w')) :
    Calls Tryd.prog 87 #[numVal v0, numVal v1, numVal v2, numVal v3, numVal v4] w fun r w' => r = .returned (numVal [r0, r1, r2, r3, r4]) ∧ Below w.heap.size w w' := by
  go_enter Tryd.func87, Tryd.ntmps87
  go_wp2_with (first
    | (refine vtake_step rfl 122 (.tmp 0) rfl (v0.map ncell) rfl ?_
       intro w1 hB1 hV0
       try simp only [Act.put, List.setIfInBounds_toArray, List.set_cons_zero, List.set_cons_succ]
       skip)
    | (refine vtake_step rfl 122 (.tmp 1) rfl (v1.map ncell) rfl ?_
       intro w2 hb2 hV1
       have hB2 := below_then hB1 hb2
       replace hV0 := hV0.on hb2
       clear hB1 hb2
       try simp only [Act.put, List.setIfInBounds_toArray, List.set_cons_zero, List.set_cons_succ]
       skip)
    | (refine vtake_step rfl 122 (.tmp 2) rfl (v2.map ncell) rfl ?_
       intro w3 hb2 hV2
       have hB3 := below_then hB2 hb2
       replace hV0 := hV0.on hb2
       replace hV1 := hV1.on hb2
       clear hB2 hb2
       try simp only [Act.put, List.setIfInBounds_toArray, List.set_cons_zero, List.set_cons_succ]
       skip)
    | (refine vtake_step rfl 122 (.tmp 3) rfl (v3.map ncell) rfl ?_
       intro w4 hb2 hV3
       have hB4 := below_then hB3 hb2
       replace hV0 := hV0.on hb2
       replace hV1 := hV1.on hb2
       replace hV2 := hV2.on hb2
       clear hB3 hb2
       try simp only [Act.put, List.setIfInBounds_toArray, List.set_cons_zero, List.set_cons_succ]
       skip)
    | (refine vtake_step rfl 122 (.tmp 4) rfl (v4.map ncell) rfl ?_
       intro w5 hb2 hV4
       have hB5 := below_then hB4 hb2
       replace hV0 := hV0.on hb2
       replace hV1 := hV1.on hb2
       replace hV2 := hV2.on hb2
       replace hV3 := hV3.on hb2
       clear hB4 hb2
       try simp only [Act.put, List.setIfInBounds_toArray, List.set_cons_zero, List.set_cons_succ]
       skip)
    | (refine vzero_step rfl 27 rfl (nzeros 5) zero_numF ?_
       intro w6 hb2 hZ6
       have hB6 := below_then hB5 hb2
       have hle := hB5.size
       replace hV0 := hV0.on hb2
       replace hV1 := hV1.on hb2
       replace hV2 := hV2.on hb2
       replace hV3 := hV3.on hb2
       replace hV4 := hV4.on hb2
       clear hB5 hb2
       try simp only [Act.put, List.setIfInBounds_toArray, List.set_cons_zero, List.set_cons_succ]
       skip)
    | (refine sget_step rfl 122 (.tmp 5) rfl w.heap.size 2 (v0.map ncell) rfl hV0 Tryd.underlying122 rfl size_wide (by rw [List.length_map, L0.out]) ?_
       clear hV0))
  generalize w5.heap.size = gz at *
  refine (C0.out w6).mono ?_
  rintro r w7 ⟨rfl, hb2⟩
  have hB7 := below_then hB6 hb2
  replace hV1 := hV1.on hb2
  replace hV2 := hV2.on hb2
  replace hV3 := hV3.on hb2
  replace hV4 := hV4.on hb2
  replace hZ6 := hZ6.on hb2
  clear C0 hB6 hb2
  go_wp2_with (first
    | (refine sget_step rfl 122 (.tmp 6) rfl w1.heap.size 2 (v1.map ncell) rfl hV1 Tryd.underlying122 rfl size_wide (by rw [List.length_map, L1.out]) ?_
       clear hV1))
  refine (C1.out w7).mono ?_
  rintro r w8 ⟨rfl, hb2⟩
  have hB8 := below_then hB7 hb2
  replace hV2 := hV2.on hb2
  replace hV3 := hV3.on hb2
  replace hV4 := hV4.on hb2
  replace hZ6 := hZ6.on hb2
  clear C1 hB7 hb2
  go_wp2_with (first
    | (refine sget_step rfl 122 (.tmp 7) rfl w2.heap.size 2 (v2.map ncell) rfl hV2 Tryd.underlying122 rfl size_wide (by rw [List.length_map, L2.out]) ?_
       clear hV2))
  refine (C2.out w8).mono ?_
  rintro r w9 ⟨rfl, hb2⟩
  have hB9 := below_then hB8 hb2
  replace hV3 := hV3.on hb2
  replace hV4 := hV4.on hb2
  replace hZ6 := hZ6.on hb2
  clear C2 hB8 hb2
  go_wp2_with (first
    | (refine sget_step rfl 122 (.tmp 8) rfl w3.heap.size 2 (v3.map ncell) rfl hV3 Tryd.underlying122 rfl size_wide (by rw [List.length_map, L3.out]) ?_
       clear hV3))
  refine (C3.out w9).mono ?_
  rintro r w10 ⟨rfl, hb2⟩
  have hB10 := below_then hB9 hb2
  replace hV4 := hV4.on hb2
  replace hZ6 := hZ6.on hb2
  clear C3 hB9 hb2
  go_wp2_with (first
    | (refine sget_step rfl 122 (.tmp 9) rfl w4.heap.size 2 (v4.map ncell) rfl hV4 Tryd.underlying122 rfl size_wide (by rw [List.length_map, L4.out]) ?_
       clear hV4))
  refine (C4.out w10).mono ?_
  rintro r w11 ⟨rfl, hb2⟩
  have hB11 := below_then hB10 hb2
  replace hZ6 := hZ6.on hb2
  clear C4 hB10 hb2
  go_wp2_with (first
    | (refine build_step rfl 27 _ rfl [(0, ncell r0), (1, ncell r1), (2, ncell r2), (3, ncell r3), (4, ncell r4)] rfl _ (build_num _ _ _ _ _) ?_)
    | (refine vset_step rfl 27 _ _ rfl gz 5 (nzeros 5) ([r0, r1, r2, r3, r4].map ncell) rfl rfl hZ6 rfl size_numF rfl (ncells_one _) ?_
       intro w12 hb12 hC12 _))
  refine vret Tryd.results87 gz ([r0, r1, r2, r3, r4].map ncell) rfl hC12 Tryd.underlying27 size_numF rfl rfl ⟨rfl, hB11.trans (hb12.below hle hB11.size)⟩
theorem narrow_any (v0 v1 v2 v3 v4 : Nat) (w : World) (h0 : v0 < 649037107316853453566312041152512) (h1 : v1 < 649037107316853453566312041152512) (h2 : v2 < 649037107316853453566312041152512) (h3 : v3 < 649037107316853453566312041152512) (h4 : v4 < 162259276829213363391578010288128) :
    Calls Tryd.prog 87 #[wideV v0, wideV v1, wideV v2, wideV v3, wideV v4] w fun r w' => r = .returned (numVal [v0 % 2251799813685248 + 19 * (v4 / 2251799813685248), v1 % 2251799813685248 + v0 / 2251799813685248, v2 % 2251799813685248 + v1 / 2251799813685248, v3 % 2251799813685248 + v2 / 2251799813685248, v4 % 2251799813685248 + v3 / 2251799813685248]) ∧ Below w.heap.size w w' := by
  have M := wmul 19 (v4 / 2251799813685248) (by omega)
  have M0 := wadd (v0 % 2251799813685248) (19 * (v4 / 2251799813685248)) (by omega)
  have M1 := wadd (v1 % 2251799813685248) (v0 / 2251799813685248) (by omega)
  have M2 := wadd (v2 % 2251799813685248) (v1 / 2251799813685248) (by omega)
  have M3 := wadd (v3 % 2251799813685248) (v2 / 2251799813685248) (by omega)
  have M4 := wadd (v4 % 2251799813685248) (v3 / 2251799813685248) (by omega)
  exact narrow_over _ _ _ _ _ _ _ _ _ _ _ _ _ _ _ _ _ _ _ _ w rfl rfl rfl rfl rfl M M0 M1 M2 M3 M4 (fun W => split_any v0 W (by omega)) (fun W => split_any v1 W (by omega)) (fun W => split_any v2 W (by omega)) (fun W => split_any v3 W (by omega)) (fun W => split_any v4 W (by omega))
end Go.Proofs.YtagjbdhelfickaaDoor
namespace Go.Proofs.YtagjbdhelfickaaDoor
open Go.RowKit
section
variable {P : Program} {ops : Array Oper} {Q : Exit → Act → World → Prop} {md : Region.Mode} {S : World → Prop} {c : Nat}
/-- Operation c waits for operation i. -/
def waitsFor (md : Region.Mode) (ops : Array Oper) (c i : Nat) : Bool := match ops[c]? with
  | some oc => oc.after.any fun e => Region.binds md e && e.on == i
  | none => false
/-- From here on the rest comes in the text's order. -/
theorem wpAny_rest {l : List Oper} {fuel : Nat} {listed : Array Bool} {a : Act} {w : World} (n : Nat) (hf : fuel = (l.drop n).length) (hB : Region.seqB md l.toArray (l.drop n).length n listed = true) (h : wpList P l.toArray Q (l.drop n) a w) : wpAny P md l.toArray Q fuel listed a w := by
  subst hf
  exact wpAny_of_seq (l.drop n) n listed a w (fun j => by simp [List.getElem?_drop]) hB h
end
end Go.Proofs.YtagjbdhelfickaaDoor
namespace Go.Proofs.YtagjbdhelfickaaDoor
open Go.RowKit
theorem frame_of (n : Nat) (a : Act) (hs : a.tmps.size = n) (hd : a.defers = []) : ∃ u : Nat → Value, a = ⟨((List.range n).map u).toArray, []⟩ := by
  obtain ⟨t, d⟩ := a
  simp only at hs hd
  subst hd
  refine ⟨fun i => t.getD i undef, ?_⟩
  congr 1
  apply Array.ext_getElem?
  intro i
  by_cases h : i < n
  · simp [h, hs]
  · simp [h, hs]
end Go.Proofs.YtagjbdhelfickaaDoor
namespace Go.Proofs.YtagjbdhelfickaaDoor
open Go.RowKit
section
variable {P : Program} {ops : Array Oper} {Q : Exit → Act → World → Prop} {md : Region.Mode}
/-- Whatever order the operations of L come up in, it comes to one of these ends (what is listed, how many are left). -/
def looseB (md : Region.Mode) (ops : Array Oper) (L : List Nat) (fins : List (Array Bool × Nat)) : Nat → Array Bool → Bool
  | 0, listed => fins.contains (listed, 0)
  | k + 1, listed => fins.contains (listed, k + 1) || (!(Region.ready md ops listed).isEmpty && (Region.ready md ops listed).all fun i => L.contains i && looseB md ops L fins k (listed.setIfInBounds i true))
theorem wpAny_loose {L : List Nat} {fins : List (Array Bool × Nat)} (I : Array Bool → Act → World → Prop)
    (hstep : ∀ i ∈ L, ∀ listed a w, I listed a w → i ∈ Region.ready md ops listed → wpOp P ops Q i (I (listed.setIfInBounds i true)) a w)
    (hend : ∀ f ∈ fins, ∀ a w, I f.1 a w → wpAny P md ops Q f.2 f.1 a w) :
    ∀ (k : Nat) (listed : Array Bool) (a : Act) (w : World), looseB md ops L fins k listed = true → I listed a w → wpAny P md ops Q k listed a w
  | 0, listed, a, w, hB, hI => hend (listed, 0) (by simpa [looseB] using hB) a w hI
  | k + 1, listed, a, w, hB, hI => by
    rw [looseB, Bool.or_eq_true] at hB
    rcases hB with hB | hB
    · exact hend (listed, k + 1) (by simpa using hB) a w hI
    rw [Bool.and_eq_true, List.all_eq_true] at hB
    refine ⟨fun h0 => ?_, fun i hi => ?_⟩
    · rw [h0] at hB
      simp at hB
    · have h := hB.2 i hi
      rw [Bool.and_eq_true] at h
      exact wpOp_mono (fun a' w' h' => wpAny_loose I hstep hend k _ a' w' h.2 h') (hstep i (by simpa using h.1) listed a w hI hi)
/-- What a loose operation finds: only new memory, the frame as it was but for the loose ones' slots, and what those yield that it waits for. -/
structure LooseAt (w0 : World) (a0 : Act) (slots : List (Nat × Nat)) (prop : Nat → Value → World → Prop) (listed : Array Bool) (a : Act) (w : World) : Prop where
  below : Below w0.heap.size w0 w
  size : a.tmps.size = a0.tmps.size
  defers : a.defers = a0.defers
  same : ∀ s, (∀ p ∈ slots, p.2 ≠ s) → a.tmps.getD s undef = a0.tmps.getD s undef
  fact : ∀ p ∈ slots, listed.getD p.1 false = true → prop p.1 (a.tmps.getD p.2 undef) w
theorem ready_has {i j : Nat} {listed : Array Bool} (hr : i ∈ Region.ready md ops listed) (hw : waitsFor md ops i j = true) : listed.getD j false = true := by
  obtain ⟨_, o, ho, hall⟩ := mem_ready.1 hr
  simp only [waitsFor, ho] at hw
  obtain ⟨e, he, hb⟩ := Array.any_eq_true'.1 hw
  simp only [Bool.and_eq_true, beq_iff_eq] at hb
  have h1 := hall e he hb.1
  rwa [hb.2] at h1
theorem put_getD_ne (a : Act) (s t : Nat) (v : Value) (h : s ≠ t) : (a.put (some s) v).tmps.getD t undef = a.tmps.getD t undef := by
  simp only [Act.put, Array.getD_eq_getD_getElem?]
  rw [Array.getElem?_setIfInBounds_ne h]
theorem put_getD_eq (a : Act) (s : Nat) (v : Value) (h : s < a.tmps.size) : (a.put (some s) v).tmps.getD s undef = v := by
  simp [Act.put, h]
theorem loose_put {w0 : World} {a0 : Act} {slots : List (Nat × Nat)} {prop : Nat → Value → World → Prop} (hinj : (slots.map (·.2)).Nodup) (hinj1 : (slots.map (·.1)).Nodup) (N : Nat) (hN : a0.tmps.size = N) (hlt : ∀ p ∈ slots, p.2 < N)
    (hst : ∀ i v w w', prop i v w → Below w.heap.size w w' → prop i v w') {i s : Nat} (hi : (i, s) ∈ slots) {listed : Array Bool} {a : Act} {w w' : World} {v : Value} (h : LooseAt w0 a0 slots prop listed a w) (hb : Below w.heap.size w w') (hv : prop i v w') :
    LooseAt w0 a0 slots prop (listed.setIfInBounds i true) (a.put (some s) v) w' := by
  refine ⟨h.below.trans (hb.mono h.below.size), ?_, ?_, fun t ht => ?_, fun p hp hl => ?_⟩
  · rw [← h.size]; simp [Act.put]
  · rw [← h.defers]; rfl
  · rw [put_getD_ne _ _ _ _ (ht _ hi)]
    exact h.same t ht
  · by_cases e : p.1 = i
    · have e2 : p = (i, s) := by
        have : ∀ (l : List (Nat × Nat)), (l.map (·.1)).Nodup → p ∈ l → (i, s) ∈ l → p = (i, s) := by
          intro l hl h1 h2
          induction l with
          | nil => cases h1
          | cons q l ih =>
            rw [List.map_cons, List.nodup_cons] at hl
            rcases List.mem_cons.1 h1 with rfl | h1
            · rcases List.mem_cons.1 h2 with h2 | h2
              · exact h2.symm
              · exact absurd (List.mem_map.2 ⟨(i, s), h2, e.symm⟩) hl.1
            · rcases List.mem_cons.1 h2 with h2 | h2
              · rw [← h2] at hl
                exact absurd (List.mem_map.2 ⟨p, h1, e⟩) hl.1
              · exact ih hl.2 h1 h2
        exact this slots hinj1 hp hi
      subst e2
      rw [put_getD_eq _ _ _ (by rw [h.size, hN]; exact hlt _ hi)]
      exact hv
    · have hne : s ≠ p.2 := by
        intro e3
        have : ∀ (l : List (Nat × Nat)), (l.map (·.2)).Nodup → p ∈ l → (i, s) ∈ l → p = (i, s) := by
          intro l hl h1 h2
          induction l with
          | nil => cases h1
          | cons q l ih =>
            rw [List.map_cons, List.nodup_cons] at hl
            rcases List.mem_cons.1 h1 with rfl | h1
            · rcases List.mem_cons.1 h2 with h2 | h2
              · exact h2.symm
              · exact absurd (List.mem_map.2 ⟨(i, s), h2, e3⟩) hl.1
            · rcases List.mem_cons.1 h2 with h2 | h2
              · rw [← h2] at hl
                exact absurd (List.mem_map.2 ⟨p, h1, e3.symm⟩) hl.1
              · exact ih hl.2 h1 h2
        exact e (by rw [this slots hinj hp hi])
      rw [put_getD_ne _ _ _ _ hne]
      refine hst _ _ _ _ (h.fact p hp ?_) hb
      rwa [getD_set_ne false (fun e4 => e e4.symm)] at hl
/-- One loose operation. -/
theorem loose_step {w0 : World} {a0 : Act} {slots : List (Nat × Nat)} {prop : Nat → Value → World → Prop} (hinj : (slots.map (·.2)).Nodup) (hinj1 : (slots.map (·.1)).Nodup) (N : Nat) (hN : a0.tmps.size = N) (hlt : ∀ p ∈ slots, p.2 < N)
    (hst : ∀ i v w w', prop i v w → Below w.heap.size w w' → prop i v w')
    {i s : Nat} (hi : (i, s) ∈ slots) {o : Oper} (ho : ops[i]? = some o) (hd : o.dst = some s)
    (hop : ∀ a w K, Below w0.heap.size w0 w → a.tmps.size = a0.tmps.size → a.defers = a0.defers → (∀ s, (∀ p ∈ slots, p.2 ≠ s) → a.tmps.getD s undef = a0.tmps.getD s undef) →
      (∀ p ∈ slots, waitsFor md ops i p.1 = true → prop p.1 (a.tmps.getD p.2 undef) w) → (∀ v w', Below w.heap.size w w' → prop i v w' → K (a.put o.dst v) w') →
      if Region.wanted o (yielded ops a.tmps) = true then Oper.wp P o a w K Q else K (a.put o.dst undef) w)
    (listed : Array Bool) (a : Act) (w : World) (h : LooseAt w0 a0 slots prop listed a w) (hr : i ∈ Region.ready md ops listed) :
    wpOp P ops Q i (LooseAt w0 a0 slots prop (listed.setIfInBounds i true)) a w := by
  refine wpOp_step ho fun K hK => ?_
  refine hop a w K h.below h.size h.defers h.same (fun p hp hwt => h.fact p hp (ready_has hr hwt)) fun v w' hb hv => hK _ _ ?_
  rw [hd]
  exact loose_put hinj hinj1 N hN hlt hst hi h hb hv
/-- The block that a value leads to. -/
def blk : Value → Nat | .pointer (some p) => p.block | .slice (some p) _ _ => p.block | _ => 0
/-- A range in a block that stood. -/
theorem range_on {w w' : World} {b off : Nat} {cs : List Value} (h : w.rangeAt b off cs) (hlt : b < w.heap.size) (hb : Below w.heap.size w w') : w'.rangeAt b off cs := by
  intro j v hj
  rw [World.cell?_of_block (w := w) (hb.block b hlt)]
  exact h j v hj
/-- A call of a Go function. -/
theorem call_op {w : World} {o : Oper} {a : Act} {K : Act → World → Prop} (hgd : o.guard = none) (f : FuncId) (args : List Operand) (tys : Array TypeId) (ho : o.op = .call { callee := .value (.func f), args := args.toArray, argTypes := tys }) (vs : List Value) (hv : args.map a.eval = vs) (hcf : ∀ args w, (callFunc f args).run P w = .ok (.enter f args) w)
    {R : Ending → World → Prop} (hc : Calls P f vs.toArray w R) (h : ∀ e w', R e w' → ∃ v, e = .returned v ∧ K (a.put o.dst v) w') : if Region.wanted o (yielded ops a.tmps) = true then Oper.wp P o a w K Q else K (a.put o.dst undef) w := by
  rw [if_pos (by simp [Region.wanted, hgd])]
  unfold Oper.wp
  simp [execOp, ho, resolve, invoke, Act.eval, Deferred.ofValue, hv, hcf, Oper.upon]
  refine hc.mono fun e w' hR => ?_
  obtain ⟨v, rfl, hk⟩ := h e w' hR
  exact hk
theorem enters {f : FuncId} {fn : Func} (hf : P.funcs[f]? = some fn) (hn : (fn.name == "runtime.NumGoroutine") = false) (hb : fn.body.isNone = false) (args : Array Value) (w : World) : (callFunc f args).run P w = .ok (.enter f args) w := by
  have hn' : fn.name ≠ "runtime.NumGoroutine" := by simpa using hn
  have hb' : fn.body ≠ none := by intro e; rw [e] at hb; cases hb
  simp [callFunc, hf, hn', hb']
/-- A whole array loaded. -/
theorem load_op {w : World} {o : Oper} {a : Act} {K : Act → World → Prop} (hgd : o.guard = none) (t : TypeId) (x : Operand) (ho : o.op = .load t x) (b off : Nat) (hx : a.eval x = .pointer (some ⟨b, off, none⟩)) (cs : List Value) (d : TypeDesc) (hc : w.rangeAt b off cs)
    (hu : P.underlying t = some d) (hd : d.isRow = true) (hi : (P.info? t).map (·.size) = some cs.length) (h : K (a.put o.dst (.agg cs.toArray)) w) : if Region.wanted o (yielded ops a.tmps) = true then Oper.wp P o a w K Q else K (a.put o.dst undef) w := by
  rw [if_pos (by simp [Region.wanted, hgd])]
  exact wp_load_mid t x ho b off hx cs d hc hu hd hi h
/-- A literal of a slice. -/
theorem lit_op {w : World} {o : Oper} {a : Act} {K : Act → World → Prop} (hgd : o.guard = none) (t : TypeId) (n : Nat) (parts : List (Nat × Operand)) (ho : o.op = .buildSlice t n parts.toArray) (ps : List (Nat × Value)) (hp : (parts.map fun (i, x) => (i, a.eval x)) = ps) (e : TypeId) (vs : List Value)
    (hr : ∀ w, (Instr.buildSlice t n ps.toArray).run P w = .ok (.slice (some ⟨w.heap.size, 0, none⟩) n n) (w.alloc (.cells vs.toArray e)))
    (h : ∀ w', Below w.heap.size w w' → Cells w' w.heap.size vs e → K (a.put o.dst (.slice (some ⟨w.heap.size, 0, none⟩) n n)) w') : if Region.wanted o (yielded ops a.tmps) = true then Oper.wp P o a w K Q else K (a.put o.dst undef) w := by
  rw [if_pos (by simp [Region.wanted, hgd])]
  unfold Oper.wp
  simp only [execOp, ho, List.map_toArray, hp, hr, Sem.run_bind, Sem.run_pure, Result.andThen_ok]
  exact h _ ((Below.refl _ _).alloc (Nat.le_refl _) _) (Cells.new w _ _)
end
end Go.Proofs.YtagjbdhelfickaaDoor
