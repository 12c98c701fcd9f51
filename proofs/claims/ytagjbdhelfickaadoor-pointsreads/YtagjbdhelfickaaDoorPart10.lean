/- Part 10 of what the laws of this seat share: GSub, GPower, GPowered, GInvert, GWords, GRead, GBytes, GMasked, GHalf, GSmall, HSame, HAlive. -/
import Derived.Test.YtagjbdhelfickaaDoorPart9
namespace Go.Proofs.YtagjbdhelfickaaDoor
open Go.RowKit
def refSubVs (a b p l m r : List Nat) (ga gb gz : Nat) : List Value :=
  (numD a) :: (numD b) :: (.pointer (some ⟨ga, 0, none⟩)) :: (.pointer (some ⟨gb, 0, none⟩)) :: (.pointer (some ⟨gz, 0, none⟩)) :: (numD a) :: (numD p) :: (numD b) :: (numD l) :: (numD m) :: (numD r) :: []
set_option maxRecDepth 100000 in
theorem refSub_over (a b p l m r : List Nat) (w : World) (HA : Hid (a.length = 8)) (HB : Hid (b.length = 8)) (HR : Hid (r.length = 8))
    (CP : Hid (∀ W, Calls Tryd.prog 64 #[] W fun e w' => e = .returned (numD p) ∧ Below W.heap.size W w')) (CL : Hid (∀ W, Calls Tryd.prog 33 #[numD b] W fun e w' => e = .returned (numD l) ∧ Below W.heap.size W w')) (CM : Hid (∀ W, Calls Tryd.prog 65 #[numD p, numD l] W fun e w' => e = .returned (numD m) ∧ Below W.heap.size W w')) (CA : Hid (∀ W, Calls Tryd.prog 39 #[numD a, numD m] W fun e w' => e = .returned (numD r) ∧ Below W.heap.size W w')) :
    Calls Tryd.prog 36 #[numD a, numD b] w fun e w' => e = .returned (numD r) ∧ Below w.heap.size w w' := by
  go_enter Tryd.func36, Tryd.ntmps36
  go_wp2_with (first
    | (refine vtake_step rfl 38 (.tmp 0) rfl (a.map dcell) rfl ?_
       intro w1 hB1 hAa
       try simp only [Act.put, List.setIfInBounds_toArray, List.set_cons_zero, List.set_cons_succ]
       skip)
    | (refine vtake_step rfl 38 (.tmp 1) rfl (b.map dcell) rfl ?_
       intro w2 hb hAb
       have hB2 := below_then hB1 hb
       have hga := hAa.lt
       replace hAa := hAa.on hb
       clear hB1 hb
       try simp only [Act.put, List.setIfInBounds_toArray, List.set_cons_zero, List.set_cons_succ]
       skip)
    | (refine vzero_step rfl 38 rfl (dzeros 8) zero_ND ?_
       intro w9 hb hZ
       have hB := below_then hB2 hb
       have hle := hB2.size
       have hla := hAa.lt
       have hlb := hAb.lt
       replace hAa := hAa.on hb
       replace hAb := hAb.on hb
       clear hB2 hb
       try simp only [Act.put, List.setIfInBounds_toArray, List.set_cons_zero, List.set_cons_succ]
       skip))
  generalize hgz : w2.heap.size = gz at *
  generalize hg1 : w1.heap.size = gb at *
  clear hgz hg1
  refine wp_region_any (by kernel_rfl) ?_
  refine wpAny_flatAt (L := [0, 1, 2, 3, 4, 5]) (by kernel_rfl) _ _ (refSubVs a b p l m r w.heap.size gb gz) [0, 1, 2, 3, 4] (by kernel_rfl) ?_ (by rfl) ?_ 1 (by kernel_rfl) ?_
  · repeat refine all_cons rfl ?_
    exact all_nil
  · change ∀ i ∈ _, StepOk _ _ _ _ _ w9.drew _ i
    refine all_cons (stepPure _ 5 rfl rfl rfl (by kernel_rfl) (by kernel_rfl) fun a w hb hv => exec_load _ _ _ _ rfl _ _ (hv 2 (by kernel_rfl)) w (num_run (hAa.drew.on hb) HA.out)) ?_
    refine all_cons (stepCall _ 6 rfl rfl rfl (by kernel_rfl) (by kernel_rfl) 64 _ _ rfl [] (fun a hv => rfl) (enters Tryd.func64 rfl rfl) (fun w hb => CP.out w)) ?_
    refine all_cons (stepPure _ 7 rfl rfl rfl (by kernel_rfl) (by kernel_rfl) fun a w hb hv => exec_load _ _ _ _ rfl _ _ (hv 3 (by kernel_rfl)) w (num_run (hAb.drew.on hb) HB.out)) ?_
    refine all_cons (stepCall _ 8 rfl rfl rfl (by kernel_rfl) (by kernel_rfl) 33 _ _ rfl [numD b] (fun a hv => cons_eq (hv 7 (by kernel_rfl)) (rfl)) (enters Tryd.func33 rfl rfl) (fun w hb => CL.out w)) ?_
    refine all_cons (stepCall _ 9 rfl rfl rfl (by kernel_rfl) (by kernel_rfl) 65 _ _ rfl [numD p, numD l] (fun a hv => cons_eq (hv 6 (by kernel_rfl)) (cons_eq (hv 8 (by kernel_rfl)) (rfl))) (enters Tryd.func65 rfl rfl) (fun w hb => CM.out w)) ?_
    refine all_cons (stepCall _ 10 rfl rfl rfl (by kernel_rfl) (by kernel_rfl) 39 _ _ rfl [numD a, numD m] (fun a hv => cons_eq (hv 5 (by kernel_rfl)) (cons_eq (hv 9 (by kernel_rfl)) (rfl))) (enters Tryd.func39 rfl rfl) (fun w hb => CA.out w)) ?_
    exact all_nil
  intro w4 hb4
  have hB4 := below_then (show Below w.heap.size w w9.drew from hB.drew) hb4
  have hZ4 := hZ.drew.on hb4
  refine wpAny_rest 6 rfl (by kernel_rfl) ?_
  refine vset_step rfl 38 (.tmp 4) (.tmp 10) rfl gz 8 (dzeros 8) (r.map dcell) rfl rfl hZ4 rfl size_ND (by rw [List.length_map, HR.out]) (dcells_one _) ?_
  intro w7 hb7 hC7 hz7
  generalize hF : (⟨(refSubVs a b p l m r w.heap.size gb gz).toArray, []⟩ : Act) = F
  rename_i K hKK
  show Exit.then K _ Exit.normal (F.put none undef) w7
  simp only [Exit.then]
  refine hKK _ _ ?_
  refine wp_ret ?_
  subst hF
  exact sret Tryd.results36 gz (r.map dcell) rfl hC7 Tryd.underlying38 rfl size_ND (by rw [List.length_map, HR.out]) rfl ⟨rfl, hB4.trans (hb7.below (by omega) hB4.size)⟩
theorem refSub_any (n m : Nat) (w : World) (hn : n < mm) (hm : m < mm) : Calls Tryd.prog 36 #[numD (nD n), numD (nD m)] w fun e w' => e = .returned (numD (nD ((n + (pp - m % pp)) % pp))) ∧ Below w.heap.size w w' := by
  have h := Nat.mod_lt m (show 0 < pp by decide)
  exact refSub_over (nD n) (nD m) (nD pp) (nD (m % pp)) (nD (pp - m % pp)) _ w rfl rfl rfl refP_any (fun W => refLeast_any m W hm) (fun W => refMinus_any pp (m % pp) W (by decide) (Nat.le_of_lt h)) (fun W => refAdd_any n (pp - m % pp) W hn (by simp only [pp, mm]; omega))
end Go.Proofs.YtagjbdhelfickaaDoor
namespace Go.Proofs.YtagjbdhelfickaaDoor
open Go.RowKit
theorem bit_at (x k : Nat) (b : Bool) (hx : x < 4294967296) (h : decide (x / 2 ^ k % 2 = 1) = b) : bits .and .u32 ((x : Int) / 2 ^ k) 1 = if b then 1 else 0 := by
  have h2 : x / 2 ^ k < 4294967296 := Nat.lt_of_le_of_lt (Nat.div_le_self _ _) hx
  rw [pow_cast, ← Int.natCast_ediv, show (1 : Int) = ((1 : Nat) : Int) from rfl, u32_and_nat _ _ h2 (by omega), Nat.and_one_is_mod, ← h]
  have := Nat.mod_two_eq_zero_or_one (x / 2 ^ k)
  rcases this with h | h <;> rw [h] <;> simp
theorem build_one (w : World) : (Instr.build 38 #[(0, dcell 1)]).run Tryd.prog w = .ok (numD (nD 1)) w := by kernel_rfl
set_option maxRecDepth 100000 in
set_option maxHeartbeats 2000000 in
theorem refPower_over (a e r : List Nat) (T Q : Nat → List Nat) (B : Nat → Bool) (w : World) (HA : Hid (a.length = 8)) (HE : Hid (e.length = 8)) (HL : Hid (∀ k, (T k).length = 8 ∧ (Q k).length = 8)) (H0 : Hid (T 256 = nD 1)) (HR : Hid (T 0 = r))
    (HB : Hid (∀ k, k < 256 → decide (e.getD (k / 32) 0 / 2 ^ (k % 32) % 2 = 1) = B k)) (HQ : Hid (∀ k, k < 256 → B k = false → Q k = T k)) (HX : Hid (∀ k, e.getD k 0 < 4294967296))
    (CQ : Hid (∀ k, k < 256 → ∀ W, Calls Tryd.prog 34 #[numD (T (k + 1)), numD (T (k + 1))] W fun e w' => e = .returned (numD (Q k)) ∧ Below W.heap.size W w'))
    (CM : Hid (∀ k, k < 256 → B k = true → ∀ W, Calls Tryd.prog 34 #[numD (Q k), numD a] W fun e w' => e = .returned (numD (T k)) ∧ Below W.heap.size W w')) :
    Calls Tryd.prog 67 #[numD a, numD e] w fun x w' => x = .returned (numD r) ∧ Below w.heap.size w w' := by
  obtain ⟨one, HONE⟩ := namedF (nD 1)
  have HOL : Hid (one.length = 8) := by show _ = _; rw [← HONE.out]; rfl
  have BO := build_one
  rw [HONE.out] at BO H0
  go_enter Tryd.func67, Tryd.ntmps67
  go_wp2_with (first
    | (refine vtake_step rfl 38 (.tmp 0) rfl (a.map dcell) rfl ?_
       intro w1 hB1 hA1
       try simp only [Act.put, List.setIfInBounds_toArray, List.set_cons_zero, List.set_cons_succ]
       skip)
    | (refine vtake_step rfl 38 (.tmp 1) rfl (e.map dcell) rfl ?_
       intro w2 hb2 hC2
       have hB2 := below_then hB1 hb2
       have hA2 := hA1.on hb2
       have hg1 := hA1.lt
       clear hB1 hA1 hb2
       try simp only [Act.put, List.setIfInBounds_toArray, List.set_cons_zero, List.set_cons_succ]
       skip)
    | (refine vzero_step (o := ⟨some 4, _, _, _, _, _⟩) rfl 38 rfl (dzeros 8) zero_ND ?_
       intro w3 hb3 hZ3
       have hB3 := below_then hB2 hb3
       have hA3 := hA2.on hb3
       have hC3 := hC2.on hb3
       have hg2 := hC2.lt
       clear hB2 hA2 hC2 hb3
       try simp only [Act.put, List.setIfInBounds_toArray, List.set_cons_zero, List.set_cons_succ]
       skip)
    | (refine build_step rfl 38 _ rfl [(0, dcell 1)] rfl _ BO ?_
       try simp only [Act.put, List.setIfInBounds_toArray, List.set_cons_zero, List.set_cons_succ]
       skip)
    | (refine vput_step rfl rfl 38 (.tmp 5) (.tmp 7) rfl rfl 8 (dzeros 8) (one.map dcell) rfl rfl zero_ND rfl size_ND (by rw [List.length_map, HOL.out]) (dcells_one _) ?_
       intro w4 hb4 hS4
       have hB4 := below_then hB3 hb4
       have hA4 := hA3.on hb4
       have hC4 := hC3.on hb4
       have hZ4 := hZ3.on hb4
       have hg3 := hZ3.lt
       clear hB3 hA3 hC3 hZ3 hb4
       try simp only [Act.put, List.setIfInBounds_toArray, List.set_cons_zero, List.set_cons_succ]
       skip))
  generalize hg : w1.heap.size = gb at *
  generalize hh : w2.heap.size = gz at *
  generalize hi : w3.heap.size = gs at *
  clear hg hh hi
  go_loopw [6] (fun i wr => ∃ j : Nat, j ≤ 256 ∧ i = .int .i64 ((j : Int) - 1) ∧ Below w.heap.size w wr ∧ Cells wr w.heap.size (a.map dcell) 38 ∧ Cells wr gb (e.map dcell) 38 ∧ Cells wr gz (dzeros 8) 38 ∧ Cells wr gs ((T j).map dcell) 38) (fun i _ => ((intOf i) + 1).toNat)
  case atStart => exact ⟨256, Nat.le_refl _, rfl, hB4, hA4, hC4, hZ4, by rw [H0.out]; exact hS4⟩
  case round =>
    clear hB4 hA4 hC4 hZ4 hS4
    obtain ⟨j, hj, rfl, hB, hA, hC, hZ, hS⟩ := hrel
    by_cases h0 : 0 < j
    · obtain ⟨k, rfl⟩ : ∃ k, j = k + 1 := ⟨j - 1, by omega⟩
      have hk : k < 256 := by omega
      have e1 : (((k + 1 : Nat) : Int) - 1) = (k : Int) := by omega
      have i1 : (0 : Int) ≤ (k : Int) := by omega
      have i2 : (k : Int) < 256 := by omega
      have i3 : IntKind.i64.wrap ((k : Int) - 1) = (k : Int) - 1 := IntWalk.i64_in _ (by omega)
      rw [e1]
      have HQk := Lib.hid (HQ.out k hk)
      have CQk := Lib.hid (CQ.out k hk)
      have CMk := Lib.hid (CM.out k hk)
      have HBk := Lib.hid (HB.out k hk)
      have HTL := Lib.hid (HL.out (k + 1)).1
      have HQL := Lib.hid (HL.out k).2
      have HNL := Lib.hid (HL.out k).1
      have hx := HX.out (k / 32)
      have d0 := Lib.hid (dat e (k / 32) (by rw [HE.out]; omega))
      generalize e.getD (k / 32) 0 = x at *
      obtain ⟨nx, HNX⟩ := namedF (T k)
      rw [HNX.out] at HQk CMk HNL
      generalize T (k + 1) = s at *
      generalize Q k = q at *
      generalize B k = b at *
      clear HB HQ CQ CM HL H0 HR HX
      go_wp2_with (first
        | (refine sget_step rfl 38 (.tmp 5) rfl gs 8 (s.map dcell) rfl hS Tryd.underlying38 rfl size_ND (by rw [List.length_map, HTL.out]) ?_
           try simp only [Act.put, List.setIfInBounds_toArray, List.set_cons_zero, List.set_cons_succ]
           skip))
      refine (CQk.out wr).mono ?_
      rintro x1 w5 ⟨rfl, hb5⟩
      have hB5 := below_then hB hb5
      have hA5 := hA.on hb5
      have hC5 := hC.on hb5
      have hZ5 := hZ.on hb5
      have hS5 := hS.on hb5
      clear CQk hB hA hC hZ hS hb5
      have hbit := bit_at x (k % 32) b hx HBk.out
      have d5 := hC5.get d0.out
      cases b
      · obtain rfl := HQk.out rfl
        clear CMk HBk HQk
        go_wp2_with (first
          | (refine vset_step rfl 38 _ _ rfl gs 8 (s.map dcell) (q.map dcell) rfl rfl hS5 (by rw [List.length_map, HTL.out]) size_ND (by rw [List.length_map, HQL.out]) (dcells_one _) ?_
             intro w6 hb6 hS6 _
             have hB6 := hB5.trans (hb6.below (by omega) hB5.size)
             have hA6 := hA5.but hb6 (by omega)
             have hC6 := hC5.but hb6 (by omega)
             have hZ6 := hZ5.but hb6 (by omega)
             have d1 := hC6.get d0.out
             clear hB5 hA5 hC5 hZ5 hS5 hb6 d5 d0))
        go_roundw
        case rel => first | exact ⟨k, by omega, by go_num, hB6, hA6, hC6, hZ6, by rw [HNX.out]; exact hS6⟩ | trace_state
        case measure => simp [intOf] <;> omega
      · clear HQk HBk
        go_wp2_with (first
          | (refine vset_step rfl 38 _ _ rfl gs 8 (s.map dcell) (q.map dcell) rfl rfl hS5 (by rw [List.length_map, HTL.out]) size_ND (by rw [List.length_map, HQL.out]) (dcells_one _) ?_
             intro w6 hb6 hS6 _
             have hB6 := hB5.trans (hb6.below (by omega) hB5.size)
             have hA6 := hA5.but hb6 (by omega)
             have hC6 := hC5.but hb6 (by omega)
             have hZ6 := hZ5.but hb6 (by omega)
             have d1 := hC6.get d0.out
             clear hB5 hA5 hC5 hZ5 hS5 hb6 d5 d0)
          | (refine sget_step rfl 38 (.tmp 5) rfl gs 8 (q.map dcell) rfl hS6 Tryd.underlying38 rfl size_ND (by rw [List.length_map, HQL.out]) ?_
             try simp only [Act.put, List.setIfInBounds_toArray, List.set_cons_zero, List.set_cons_succ]
             skip)
          | (refine sget_step rfl 38 (.tmp 2) rfl w.heap.size 8 (a.map dcell) rfl hA6 Tryd.underlying38 rfl size_ND (by rw [List.length_map, HA.out]) ?_
             try simp only [Act.put, List.setIfInBounds_toArray, List.set_cons_zero, List.set_cons_succ]
             skip))
        refine (CMk.out trivial w6).mono ?_
        rintro x1 w7 ⟨rfl, hb7⟩
        have hB7 := below_then hB6 hb7
        have hA7 := hA6.on hb7
        have hC7 := hC6.on hb7
        have hZ7 := hZ6.on hb7
        have hS7 := hS6.on hb7
        clear CMk hB6 hA6 hC6 hZ6 hS6 hb7 d1
        go_wp2_with (first
          | (refine vset_step rfl 38 _ _ rfl gs 8 (q.map dcell) (nx.map dcell) rfl rfl hS7 (by rw [List.length_map, HQL.out]) size_ND (by rw [List.length_map, HNL.out]) (dcells_one _) ?_
             intro w8 hb8 hS8 _
             have hB8 := hB7.trans (hb8.below (by omega) hB7.size)
             have hA8 := hA7.but hb8 (by omega)
             have hC8 := hC7.but hb8 (by omega)
             have hZ8 := hZ7.but hb8 (by omega)
             clear hB7 hA7 hC7 hZ7 hS7 hb8))
        go_roundw
        case rel => first | exact ⟨k, by omega, by go_num, hB8, hA8, hC8, hZ8, by rw [HNX.out]; exact hS8⟩ | trace_state
        case measure => simp [intOf] <;> omega
    · obtain rfl : j = 0 := by omega
      rw [show (((0 : Nat) : Int) - 1) = -1 from rfl]
      rw [HR.out] at hS
      have HTL := Lib.hid (HL.out 0).1
      rw [HR.out] at HTL
      clear HB HQ CQ CM HL H0 HX hA hC
      go_wp2_with (first
        | (refine sget_step rfl 38 (.tmp 5) rfl gs 8 (r.map dcell) rfl hS Tryd.underlying38 rfl size_ND (by rw [List.length_map, HTL.out]) ?_
           try simp only [Act.put, List.setIfInBounds_toArray, List.set_cons_zero, List.set_cons_succ]
           skip)
        | (refine vset_step rfl 38 _ _ rfl gz 8 (dzeros 8) (r.map dcell) rfl rfl hZ rfl size_ND (by rw [List.length_map, HTL.out]) (dcells_one _) ?_
           intro w6 hb6 hZ6 _
           have hB6 := hB.trans (hb6.below (by omega) hB.size)
           clear hB hS hb6))
      exact sret Tryd.results67 gz (r.map dcell) rfl hZ6 Tryd.underlying38 rfl size_ND (by rw [List.length_map, HTL.out]) rfl ⟨rfl, hB6⟩
end Go.Proofs.YtagjbdhelfickaaDoor
namespace Go.Proofs.YtagjbdhelfickaaDoor
open Go.RowKit
theorem nD_at (n i : Nat) (h : i < 8) : (nD n).getD i 0 = n / 2 ^ (32 * i) % 2 ^ 32 := by
  rcases (show i = 0 ∨ i = 1 ∨ i = 2 ∨ i = 3 ∨ i = 4 ∨ i = 5 ∨ i = 6 ∨ i = 7 by omega) with rfl | rfl | rfl | rfl | rfl | rfl | rfl | rfl <;> simp [nD]
theorem nD_bit (n k : Nat) (h : k < 256) : decide ((nD n).getD (k / 32) 0 / 2 ^ (k % 32) % 2 = 1) = n.testBit k := by
  rw [← Nat.testBit_eq_decide_div_mod_eq, nD_at n (k / 32) (by omega), Nat.testBit_mod_two_pow, Nat.testBit_div_two_pow, show k % 32 + 32 * (k / 32) = k by omega, decide_eq_true (show k % 32 < 32 by omega), Bool.true_and]
/-- The power by the bits of e above the k lowest. -/
def tN (a e k : Nat) : Nat := a ^ (e / 2 ^ k) % pp
theorem tN_top (a e : Nat) (h : e < mm) : tN a e 256 = 1 := by
  rw [tN, Nat.div_eq_of_lt (Nat.lt_of_lt_of_le h (by decide +kernel)), Nat.pow_zero]
  decide
theorem tN_zero (a e : Nat) : tN a e 0 = a ^ e % pp := by rw [tN, Nat.pow_zero, Nat.div_one]
theorem tN_lt (a e k : Nat) : tN a e k < mm := Nat.lt_trans (Nat.mod_lt _ (by decide)) (by decide)
theorem halves (e k : Nat) : e / 2 ^ k = e / 2 ^ (k + 1) + e / 2 ^ (k + 1) + e / 2 ^ k % 2 := by
  rw [Nat.pow_succ, ← Nat.div_div_eq_div_mul]; omega
theorem tN_even (a e k : Nat) (h : e.testBit k = false) : tN a e (k + 1) * tN a e (k + 1) % pp = tN a e k := by
  rw [Nat.testBit_eq_decide_div_mod_eq, decide_eq_false_iff_not] at h
  rw [tN, tN, halves e k, show e / 2 ^ k % 2 = 0 by omega, Nat.add_zero (e / 2 ^ (k + 1) + e / 2 ^ (k + 1))]
  generalize e / 2 ^ (k + 1) = y
  rw [Nat.pow_add a y y, ← Nat.mul_mod]
theorem tN_odd (a e k : Nat) (h : e.testBit k = true) : (tN a e (k + 1) * tN a e (k + 1) % pp) * a % pp = tN a e k := by
  rw [Nat.testBit_eq_decide_div_mod_eq, decide_eq_true_eq] at h
  rw [tN, tN, halves e k, h]
  generalize e / 2 ^ (k + 1) = y
  rw [Nat.pow_succ, Nat.pow_add, ← Nat.mul_mod, Nat.mod_mul_mod]
theorem refPower_any (a e : Nat) (w : World) (ha : a < mm) (he : e < mm) : Calls Tryd.prog 67 #[numD (nD a), numD (nD e)] w fun x w' => x = .returned (numD (nD (a ^ e % pp))) ∧ Below w.heap.size w w' :=
  refPower_over (nD a) (nD e) _ (fun k => nD (tN a e k)) (fun k => nD (tN a e (k + 1) * tN a e (k + 1) % pp)) (fun k => e.testBit k) w rfl rfl (fun _ => ⟨rfl, rfl⟩) (congrArg nD (tN_top a e he)) (congrArg nD (tN_zero a e)) (fun k hk => nD_bit e k hk) (fun k _ hb => congrArg nD (tN_even a e k hb)) (nD_D8 e).2
    (fun k _ W => refTimes_any _ _ W (tN_lt a e (k + 1)) (tN_lt a e (k + 1)))
    (fun k _ hb W => (refTimes_any _ _ W (Nat.lt_trans (Nat.mod_lt _ (by decide)) (by decide)) ha).mono (by
      rintro x w' ⟨rfl, h⟩
      exact ⟨by rw [tN_odd a e k hb], h⟩))
end Go.Proofs.YtagjbdhelfickaaDoor
namespace Go.Proofs.YtagjbdhelfickaaDoor
open Go.RowKit
theorem build_ND2 (w : World) : (Instr.build 38 #[(0, dcell 2)]).run Tryd.prog w = .ok (numD (nD 2)) w := by kernel_rfl
def refInvertVs (a p t m r : List Nat) (ga gz : Nat) : List Value :=
  (numD a) :: (.pointer (some ⟨ga, 0, none⟩)) :: (.pointer (some ⟨gz, 0, none⟩)) :: (numD a) :: (numD p) :: (numD t) :: (numD m) :: (numD r) :: []
set_option maxRecDepth 100000 in
theorem refInvert_over (a p t m r : List Nat) (w : World) (HA : Hid (a.length = 8)) (HR : Hid (r.length = 8)) (BT : ∀ w, (Instr.build 38 #[(0, dcell 2)]).run Tryd.prog w = .ok (numD t) w)
    (CP : Hid (∀ W, Calls Tryd.prog 64 #[] W fun e w' => e = .returned (numD p) ∧ Below W.heap.size W w')) (CM : Hid (∀ W, Calls Tryd.prog 65 #[numD p, numD t] W fun e w' => e = .returned (numD m) ∧ Below W.heap.size W w')) (CA : Hid (∀ W, Calls Tryd.prog 67 #[numD a, numD m] W fun e w' => e = .returned (numD r) ∧ Below W.heap.size W w')) :
    Calls Tryd.prog 38 #[numD a] w fun e w' => e = .returned (numD r) ∧ Below w.heap.size w w' := by
  go_enter Tryd.func38, Tryd.ntmps38
  go_wp2_with (first
    | (refine vtake_step rfl 38 (.tmp 0) rfl (a.map dcell) rfl ?_
       intro w1 hB1 hAa
       try simp only [Act.put, List.setIfInBounds_toArray, List.set_cons_zero, List.set_cons_succ]
       skip)
    | (refine vzero_step rfl 38 rfl (dzeros 8) zero_ND ?_
       intro w9 hb hZ
       have hB := below_then hB1 hb
       have hle := hB1.size
       have hla := hAa.lt
       replace hAa := hAa.on hb
       clear hB1 hb
       try simp only [Act.put, List.setIfInBounds_toArray, List.set_cons_zero, List.set_cons_succ]
       skip))
  generalize hgz : w1.heap.size = gz at *
  clear hgz
  refine wp_region_any (by kernel_rfl) ?_
  refine wpAny_flatAt (L := [0, 1, 2, 3, 4]) (by kernel_rfl) _ _ (refInvertVs a p t m r w.heap.size gz) [0, 1, 2] (by kernel_rfl) ?_ (by rfl) ?_ 1 (by kernel_rfl) ?_
  · exact all_cons rfl (all_cons rfl (all_cons rfl (all_nil)))
  · change ∀ i ∈ _, StepOk _ _ _ _ _ w9.drew _ i
    refine all_cons (stepPure _ 3 rfl rfl rfl (by kernel_rfl) (by kernel_rfl) fun a w hb hv => exec_load _ _ _ _ rfl _ _ (hv 1 (by kernel_rfl)) w (num_run (hAa.drew.on hb) HA.out)) ?_
    refine all_cons (stepCall _ 4 rfl rfl rfl (by kernel_rfl) (by kernel_rfl) 64 _ _ rfl [] (fun a hv => rfl) (enters Tryd.func64 rfl rfl) (fun w hb => CP.out w)) ?_
    refine all_cons (stepPure _ 5 rfl rfl rfl (by kernel_rfl) (by kernel_rfl) fun a w hb hv => exec_build _ _ _ [(0, .const (.int .u32 2))] rfl [(0, dcell 2)] rfl _ w (BT w)) ?_
    refine all_cons (stepCall _ 6 rfl rfl rfl (by kernel_rfl) (by kernel_rfl) 65 _ _ rfl [numD p, numD t] (fun a hv => cons_eq (hv 4 (by kernel_rfl)) (cons_eq (hv 5 (by kernel_rfl)) (rfl))) (enters Tryd.func65 rfl rfl) (fun w hb => CM.out w)) ?_
    refine all_cons (stepCall _ 7 rfl rfl rfl (by kernel_rfl) (by kernel_rfl) 67 _ _ rfl [numD a, numD m] (fun a hv => cons_eq (hv 3 (by kernel_rfl)) (cons_eq (hv 6 (by kernel_rfl)) (rfl))) (enters Tryd.func67 rfl rfl) (fun w hb => CA.out w)) ?_
    exact all_nil
  intro w4 hb4
  have hB4 := below_then (show Below w.heap.size w w9.drew from hB.drew) hb4
  have hZ4 := hZ.drew.on hb4
  refine wpAny_rest 5 rfl (by kernel_rfl) ?_
  refine vset_step rfl 38 (.tmp 2) (.tmp 7) rfl gz 8 (dzeros 8) (r.map dcell) rfl rfl hZ4 rfl size_ND (by rw [List.length_map, HR.out]) (dcells_one _) ?_
  intro w7 hb7 hC7 hz7
  generalize hF : (⟨(refInvertVs a p t m r w.heap.size gz).toArray, []⟩ : Act) = F
  rename_i K hKK
  show Exit.then K _ Exit.normal (F.put none undef) w7
  simp only [Exit.then]
  refine hKK _ _ ?_
  refine wp_ret ?_
  subst hF
  exact sret Tryd.results38 gz (r.map dcell) rfl hC7 Tryd.underlying38 rfl size_ND (by rw [List.length_map, HR.out]) rfl ⟨rfl, hB4.trans (hb7.below (by omega) hB4.size)⟩
theorem refInvert_any (n : Nat) (w : World) (hn : n < mm) : Calls Tryd.prog 38 #[numD (nD n)] w fun e w' => e = .returned (numD (nD (n ^ (pp - 2) % pp))) ∧ Below w.heap.size w w' :=
  refInvert_over (nD n) (nD pp) (nD 2) (nD (pp - 2)) _ w rfl rfl build_ND2 refP_any (fun W => refMinus_any pp 2 W (by decide) (by decide)) (fun W => refPower_any n (pp - 2) W hn (by decide))
/-- The document's Curve. -/
def curveN : Nat := 37095705934669439343138083508754565189542113879843219016388785533085940283555
theorem refCurve_any (w : World) : Calls Tryd.prog 40 #[] w fun e w' => e = .returned (numD (nD curveN)) ∧ Below w.heap.size w w' := by
  have BP : ∀ w, (Instr.build 38 #[(0, dcell 324630691), (1, dcell 1978355146), (2, dcell 1094834347), (3, dcell 7342669), (4, dcell 2004478104), (5, dcell 2361868409), (6, dcell 728759923), (7, dcell 1375956206)]).run Tryd.prog w = .ok (numD (nD curveN)) w := fun w => by kernel_rfl
  obtain ⟨r, HR⟩ := namedF (nD curveN)
  have HL : Hid (r.length = 8) := by show _ = _; rw [← HR.out]; rfl
  rw [HR.out] at BP ⊢
  go_enter Tryd.func40, Tryd.ntmps40
  go_wp2_with (first
    | (refine vzero_step rfl 38 rfl (dzeros 8) zero_ND ?_
       intro w3 hB3 hZ3)
    | (refine build_step rfl 38 _ rfl [(0, dcell 324630691), (1, dcell 1978355146), (2, dcell 1094834347), (3, dcell 7342669), (4, dcell 2004478104), (5, dcell 2361868409), (6, dcell 728759923), (7, dcell 1375956206)] rfl _ BP ?_)
    | (refine vset_step rfl 38 _ _ rfl w.heap.size 8 (dzeros 8) (r.map dcell) rfl rfl hZ3 rfl size_ND (by rw [List.length_map, HL.out]) (dcells_one _) ?_
       intro w6 hb6 hC6 _))
  exact sret Tryd.results40 w.heap.size (r.map dcell) rfl hC6 Tryd.underlying38 rfl size_ND (by rw [List.length_map, HL.out]) rfl ⟨rfl, hB3.trans (hb6.below (Nat.le_refl _) hB3.size)⟩
/-- The document's BaseY. -/
def baseYN : Nat := 46316835694926478169428394003475163141307993866256225615783033603165251855960
theorem refBaseY_any (w : World) : Calls Tryd.prog 78 #[] w fun e w' => e = .returned (numD (nD baseYN)) ∧ Below w.heap.size w w' := by
  have BP : ∀ w, (Instr.build 38 #[(0, dcell 1717986904), (1, dcell 1717986918), (2, dcell 1717986918), (3, dcell 1717986918), (4, dcell 1717986918), (5, dcell 1717986918), (6, dcell 1717986918), (7, dcell 1717986918)]).run Tryd.prog w = .ok (numD (nD baseYN)) w := fun w => by kernel_rfl
  obtain ⟨r, HR⟩ := namedF (nD baseYN)
  have HL : Hid (r.length = 8) := by show _ = _; rw [← HR.out]; rfl
  rw [HR.out] at BP ⊢
  go_enter Tryd.func78, Tryd.ntmps78
  go_wp2_with (first
    | (refine vzero_step rfl 38 rfl (dzeros 8) zero_ND ?_
       intro w3 hB3 hZ3)
    | (refine build_step rfl 38 _ rfl [(0, dcell 1717986904), (1, dcell 1717986918), (2, dcell 1717986918), (3, dcell 1717986918), (4, dcell 1717986918), (5, dcell 1717986918), (6, dcell 1717986918), (7, dcell 1717986918)] rfl _ BP ?_)
    | (refine vset_step rfl 38 _ _ rfl w.heap.size 8 (dzeros 8) (r.map dcell) rfl rfl hZ3 rfl size_ND (by rw [List.length_map, HL.out]) (dcells_one _) ?_
       intro w6 hb6 hC6 _))
  exact sret Tryd.results78 w.heap.size (r.map dcell) rfl hC6 Tryd.underlying38 rfl size_ND (by rw [List.length_map, HL.out]) rfl ⟨rfl, hB3.trans (hb6.below (Nat.le_refl _) hB3.size)⟩
/-- The document's BaseX. -/
def baseXN : Nat := 15112221349535400772501151409588531511454012693041857206046113283949847762202
theorem refBaseX_any (w : World) : Calls Tryd.prog 77 #[] w fun e w' => e = .returned (numD (nD baseXN)) ∧ Below w.heap.size w w' := by
  have BP : ∀ w, (Instr.build 38 #[(0, dcell 2401621274), (1, dcell 3377868128), (2, dcell 2502272946), (3, dcell 1764542304), (4, dcell 4258716764), (5, dcell 3232031281), (6, dcell 3446559742), (7, dcell 560543443)]).run Tryd.prog w = .ok (numD (nD baseXN)) w := fun w => by kernel_rfl
  obtain ⟨r, HR⟩ := namedF (nD baseXN)
  have HL : Hid (r.length = 8) := by show _ = _; rw [← HR.out]; rfl
  rw [HR.out] at BP ⊢
  go_enter Tryd.func77, Tryd.ntmps77
  go_wp2_with (first
    | (refine vzero_step rfl 38 rfl (dzeros 8) zero_ND ?_
       intro w3 hB3 hZ3)
    | (refine build_step rfl 38 _ rfl [(0, dcell 2401621274), (1, dcell 3377868128), (2, dcell 2502272946), (3, dcell 1764542304), (4, dcell 4258716764), (5, dcell 3232031281), (6, dcell 3446559742), (7, dcell 560543443)] rfl _ BP ?_)
    | (refine vset_step rfl 38 _ _ rfl w.heap.size 8 (dzeros 8) (r.map dcell) rfl rfl hZ3 rfl size_ND (by rw [List.length_map, HL.out]) (dcells_one _) ?_
       intro w6 hb6 hC6 _))
  exact sret Tryd.results77 w.heap.size (r.map dcell) rfl hC6 Tryd.underlying38 rfl size_ND (by rw [List.length_map, HL.out]) rfl ⟨rfl, hB3.trans (hb6.below (Nat.le_refl _) hB3.size)⟩
end Go.Proofs.YtagjbdhelfickaaDoor
namespace Go.Proofs.YtagjbdhelfickaaDoor
open Go.RowKit
theorem nD_get (n k : Nat) (h : k < (nD n).length) : (nD n)[k] = n / 2 ^ (32 * k) % 2 ^ 32 := by
  rw [← nD_at n k h, List.getD_eq_getElem?_getD, List.getElem?_eq_getElem h]; rfl
theorem nD_add (n x i : Nat) (hn : n < 2 ^ (8 * i)) (hx : x < 256) : nD (n + x * 2 ^ (8 * i)) = (nD n).set (i / 4) ((nD n).getD (i / 4) 0 + x * 2 ^ (8 * (i % 4))) := by
  apply List.ext_getElem (by rw [List.length_set]; rfl)
  intro k h1 h2
  have hk : k < 8 := h1
  rw [nD_get _ k h1, List.getElem_set]
  split
  · rename_i e
    subst e
    rw [nD_at n _ hk]
    have hE : 2 ^ (8 * i) = 2 ^ (8 * (i % 4)) * 2 ^ (32 * (i / 4)) := by rw [← Nat.pow_add]; congr 1; omega
    have hP : 2 ^ (8 * (i % 4)) ≤ 16777216 := Nat.le_trans (Nat.pow_le_pow_right (by decide) (show 8 * (i % 4) ≤ 24 by omega)) (by decide)
    have hD : 0 < 2 ^ (32 * (i / 4)) := Nat.two_pow_pos _
    rw [hE] at hn ⊢
    generalize 2 ^ (8 * (i % 4)) = P at *
    generalize 2 ^ (32 * (i / 4)) = D at *
    have h3 : n / D < P := Nat.div_lt_of_lt_mul (by rw [Nat.mul_comm]; exact hn)
    rw [← Nat.mul_assoc, Nat.add_mul_div_right _ _ hD]
    have h4 : x * P ≤ 255 * P := Nat.mul_le_mul_right _ (by omega)
    rw [Nat.mod_eq_of_lt (show n / D + x * P < 2 ^ 32 by omega), Nat.mod_eq_of_lt (show n / D < 2 ^ 32 by omega)]
  · rename_i e
    rw [nD_get]
    rcases Nat.lt_or_ge k (i / 4) with h | h
    · have hE : 2 ^ (8 * i) = 2 ^ 32 * 2 ^ (8 * i - 32 * (k + 1)) * 2 ^ (32 * k) := by rw [← Nat.pow_add, ← Nat.pow_add]; congr 1; omega
      rw [hE]
      generalize 2 ^ (8 * i - 32 * (k + 1)) = F
      rw [← Nat.mul_assoc, Nat.add_mul_div_right _ _ (Nat.two_pow_pos _), ← Nat.mul_assoc, Nat.mul_comm x, Nat.mul_assoc, Nat.add_mul_mod_self_left]
    · have hL : 2 ^ (8 * i) * 256 ≤ 2 ^ (32 * k) := by
        rw [show 256 = 2 ^ 8 from rfl, ← Nat.pow_add]; exact Nat.pow_le_pow_right (by decide) (by omega)
      generalize 2 ^ (8 * i) = E at *
      generalize 2 ^ (32 * k) = G at *
      have h4 : x * E ≤ 255 * E := Nat.mul_le_mul_right _ (by omega)
      rw [Nat.div_eq_of_lt (show n + x * E < G by omega), Nat.div_eq_of_lt (show n < G by omega)]
end Go.Proofs.YtagjbdhelfickaaDoor
namespace Go.Proofs.YtagjbdhelfickaaDoor
open Go.RowKit
set_option maxRecDepth 100000 in
set_option maxHeartbeats 2000000 in
theorem refRead_over (b : List UInt8) (r : List Nat) (T : Nat → List Nat) (w : World) (HB : Hid (b.length = 32)) (HL : Hid (∀ k, (T k).length = 8)) (H0 : Hid (T 0 = [0, 0, 0, 0, 0, 0, 0, 0])) (HR : Hid (T 32 = r))
    (HS : Hid (∀ k, k < 32 → T (k + 1) = (T k).set (k / 4) ((T k).getD (k / 4) 0 + (b.getD k 0).toNat * 2 ^ (8 * (k % 4))) ∧ (T k).getD (k / 4) 0 + (b.getD k 0).toNat * 2 ^ (8 * (k % 4)) < 4294967296)) :
    Calls Tryd.prog 32 #[hashVal b] w fun e w' => e = .returned (numD r) ∧ Below w.heap.size w w' := by
  go_enter Tryd.func32, Tryd.ntmps32
  go_wp2_with (first
    | (refine take_step rfl 22 (.tmp 0) rfl b rfl ?_
       intro w1 hB1 hA1 hz
       clear hz
       try simp only [Act.put, List.setIfInBounds_toArray, List.set_cons_zero, List.set_cons_succ]
       skip)
    | (refine vzero_step (o := ⟨some 2, _, _, _, _, _⟩) rfl 38 rfl (dzeros 8) zero_ND ?_
       intro w3 hb3 hZ3
       have hB3 := below_then hB1 hb3
       have hA3 := hA1.on hb3
       have hg2 := hA1.lt
       clear hB1 hA1 hb3
       try simp only [Act.put, List.setIfInBounds_toArray, List.set_cons_zero, List.set_cons_succ]
       skip)
    | (refine build_step rfl 38 [] rfl [] rfl _ build_ND0 ?_
       try simp only [Act.put, List.setIfInBounds_toArray, List.set_cons_zero, List.set_cons_succ]
       skip)
    | (refine vput_step rfl rfl 38 (.tmp 3) (.tmp 5) rfl rfl 8 (dzeros 8) (dzeros 8) rfl rfl zero_ND rfl size_ND rfl (by rw [dzeros_map]; exact dcells_one _) ?_
       intro w4 hb4 hS4
       have hB4 := below_then hB3 hb4
       have hA4 := hA3.on hb4
       have hZ4 := hZ3.on hb4
       have hg3 := hZ3.lt
       clear hB3 hA3 hZ3 hb4
       try simp only [Act.put, List.setIfInBounds_toArray, List.set_cons_zero, List.set_cons_succ]
       skip))
  generalize hh : w1.heap.size = gz at *
  generalize hi : w3.heap.size = gs at *
  clear hh hi
  go_loopw [4] (fun i wr => ∃ k : Nat, k ≤ 32 ∧ i = .int .i64 k ∧ Below w.heap.size w wr ∧ Cells wr w.heap.size (b.map cellOf) 22 ∧ Cells wr gz (dzeros 8) 38 ∧ Cells wr gs ((T k).map dcell) 38) (fun i _ => 32 - (intOf i).toNat)
  case atStart => exact ⟨0, Nat.zero_le _, rfl, hB4, hA4, hZ4, by rw [H0.out, ← dzeros8]; exact hS4⟩
  case round =>
    clear hB4 hA4 hZ4 hS4
    obtain ⟨k, hk, rfl, hB, hA, hZ, hS⟩ := hrel
    have HLk := Lib.hid (HL.out k)
    by_cases hlt : k < 32
    · have HN := Lib.hid (HS.out k hlt).1
      have hlim := (HS.out k hlt).2
      have d1 := hA.get (show (b.map cellOf)[k]? = some (cellOf (b.getD k 0)) by rw [List.getElem?_map, List.getD_eq_getElem?_getD, List.getElem?_eq_getElem (by rw [HB.out]; exact hlt)]; rfl)
      have d2 := hS.get (dat (T k) (k / 4) (by rw [HLk.out]; omega))
      obtain ⟨z, HZ⟩ := namedF (T (k + 1))
      rw [HZ.out] at HN
      generalize T k = s at *
      generalize s.getD (k / 4) 0 = p at *
      generalize b.getD k 0 = q at *
      clear HB HL H0 HS HR
      have i1 : (0 : Int) ≤ (k : Int) := by omega
      have i2 : (k : Int) < 32 := by omega
      have i3 : (k : Int) / 4 < 8 := by omega
      have i4 : (0 : Int) ≤ (k : Int) / 4 := by omega
      have i5 : ((k : Int) / 4).toNat = k / 4 := by omega
      have c1 : IntKind.i64.wrap ((k : Int) / 4) = (k : Int) / 4 := IntWalk.i64_in _ (by omega)
      obtain ⟨m, hm⟩ : ∃ m, m = k % 4 := ⟨_, rfl⟩
      rw [← hm] at HN hlim
      have c2 : (k : Int).tmod 4 = (m : Int) := by rw [Int.tmod_eq_emod_of_nonneg (by omega)]; omega
      have hm4 : m < 4 := by omega
      have c3 : IntKind.i64.wrap (8 * (m : Int)) = 8 * (m : Int) := IntWalk.i64_in _ (by omega)
      have c4 : IntKind.u64.wrap (8 * (m : Int)) = 8 * (m : Int) := by rw [IntKind.wrap_u64]; omega
      have c6 : (8 * (m : Int)).toNat = 8 * m := by omega
      have c7 : min (8 * m) 32 = 8 * m := by omega
      have hq : q.toNat < 256 := q.toNat_lt
      have c5 : IntKind.u32.wrap (q.toNat : Int) = (q.toNat : Int) := by rw [IntKind.wrap_u32]; omega
      obtain ⟨x, hx⟩ : ∃ x, x = q.toNat * 2 ^ (8 * m) := ⟨_, rfl⟩
      rw [← hx] at HN hlim
      have c8 : IntKind.u32.wrap ((q.toNat : Int) * 2 ^ (8 * m)) = (x : Int) := by rw [pow_cast, ← Int.natCast_mul, ← hx, IntKind.wrap_u32]; omega
      obtain ⟨v, hv⟩ : ∃ v, v = p + x := ⟨_, rfl⟩
      rw [← hv] at HN
      have c9 : IntKind.u32.wrap ((p : Int) + (x : Int)) = (v : Int) := by rw [IntKind.wrap_u32]; omega
      clear hx hv hlim hm
      go_wp2_with fail
      refine wp_region_tail 15 (by kernel_rfl) (by kernel_rfl) ?_
      intro w4 hw4
      have hB4 : Below w.heap.size w w4 := by rw [hw4]; exact hB.drew
      have hA4 : Cells w4 w.heap.size (b.map cellOf) 22 := by rw [hw4]; exact hA
      have hZ4 : Cells w4 gz (dzeros 8) 38 := by rw [hw4]; exact hZ
      have hS4 : Cells w4 gs (s.map dcell) 38 := by rw [hw4]; exact hS
      have d3 : w4.cell? ⟨w.heap.size, k, none⟩ = some (cellOf q) := by rw [hw4]; exact d1
      have d4 : w4.cell? ⟨gs, k / 4, none⟩ = some (dcell p) := by rw [hw4]; exact d2
      clear hw4 hB hA hZ hS d1 d2
      simp only [List.take_succ_cons, List.take_zero, List.drop_succ_cons, List.drop_zero]
      repeat still_step
      refine wpStill_nil ?_
      have hT := hS4.there (k / 4) 1 (by rw [List.length_map, HLk.out]; omega)
      have hE := Lib.hid (hS4.set (k / 4) (dcell v))
      go_wp2_with (first
        | (refine store_step rfl 36 _ _ rfl gs (k / 4) .u32 (v : Int) rfl rfl size_w32 hT ?_
           intro w5 hw5
           have hB5 : Below w.heap.size w w5 := by rw [hw5]; exact hB4.setCell (p := ⟨gs, k / 4, none⟩) (by show w.heap.size ≤ gs; omega) _
           have hA5 : Cells w5 w.heap.size (b.map cellOf) 22 := by rw [hw5]; exact hA4.other (by show w.heap.size ≠ gs; omega) _
           have hZ5 : Cells w5 gz (dzeros 8) 38 := by rw [hw5]; exact hZ4.other (by show gz ≠ gs; omega) _
           have hS5 : Cells w5 gs (z.map dcell) 38 := by rw [hw5, HN.out, ← dset_map]; exact hE.out
           clear hw5 hT hE hB4 hA4 hZ4 hS4))
      go_roundw
      case rel => first | exact ⟨k + 1, by omega, by go_num, hB5, hA5, hZ5, by rw [HZ.out]; exact hS5⟩ | trace_state
      case measure => simp [intOf] <;> omega
    · obtain rfl : k = 32 := by omega
      rw [HR.out] at hS
      have HTL := Lib.hid (HL.out 32)
      rw [HR.out] at HTL
      clear HB HS HL H0 hA
      go_wp2_with (first
        | (refine sget_step rfl 38 (.tmp 3) rfl gs 8 (r.map dcell) rfl hS Tryd.underlying38 rfl size_ND (by rw [List.length_map, HTL.out]) ?_
           try simp only [Act.put, List.setIfInBounds_toArray, List.set_cons_zero, List.set_cons_succ]
           skip)
        | (refine vset_step rfl 38 _ _ rfl gz 8 (dzeros 8) (r.map dcell) rfl rfl hZ rfl size_ND (by rw [List.length_map, HTL.out]) (dcells_one _) ?_
           intro w6 hb6 hZ6 _
           have hB6 := hB.trans (hb6.below (by omega) hB.size)
           clear hB hS hb6))
      exact sret Tryd.results32 gz (r.map dcell) rfl hZ6 Tryd.underlying38 rfl size_ND (by rw [List.length_map, HTL.out]) rfl ⟨rfl, hB6⟩
theorem lev_step (b : List UInt8) (k : Nat) (hk : k < b.length) : lev (b.take (k + 1)) = lev (b.take k) + (b.getD k 0).toNat * 2 ^ (8 * k) := by
  rw [List.take_succ_eq_append_getElem hk, lev_append, List.length_take, Nat.min_eq_left (Nat.le_of_lt hk), lev_cons, show (256 : Nat) = 2 ^ 8 from rfl, ← Nat.pow_mul, Nat.mul_comm, List.getD_eq_getElem?_getD, List.getElem?_eq_getElem hk]
  rfl
theorem lev_take_lt (b : List UInt8) (k : Nat) (hk : k ≤ b.length) : lev (b.take k) < 2 ^ (8 * k) := by
  have h := lev_lt (b.take k)
  rw [List.length_take, Nat.min_eq_left hk, show (256 : Nat) = 2 ^ 8 from rfl, ← Nat.pow_mul] at h
  exact h
theorem refRead_any (b : List UInt8) (w : World) (hb : b.length = 32) : Calls Tryd.prog 32 #[hashVal b] w fun e w' => e = .returned (numD (nD (lev b))) ∧ Below w.heap.size w w' := by
  refine refRead_over b _ (fun k => nD (lev (b.take k))) w hb (fun _ => rfl) (by show nD (lev (b.take 0)) = _; rw [List.take_zero, show lev [] = 0 from rfl]; rfl) (by show nD (lev (b.take 32)) = _; rw [List.take_of_length_le (by omega)]) (fun k hk => ?_)
  have h1 := nD_add (lev (b.take k)) (b.getD k 0).toNat k (lev_take_lt b k (by omega)) (b.getD k 0).toNat_lt
  rw [← lev_step b k (by omega)] at h1
  refine ⟨h1, ?_⟩
  have h2 := (nD_D8 (lev (b.take (k + 1)))).2 (k / 4)
  rw [h1, List.getD_eq_getElem?_getD, List.getElem?_set_self (by rw [nD_length]; omega)] at h2
  exact h2
end Go.Proofs.YtagjbdhelfickaaDoor
namespace Go.Proofs.YtagjbdhelfickaaDoor
open Go.RowKit
theorem size_b32 : (Tryd.prog.info? 22).map (·.size) = some 32 := by kernel_rfl
theorem zero_b32 : ∀ w, (zeroValue 22).run Tryd.prog w = .ok (.agg (List.replicate 32 (cellOf 0)).toArray) w := (zero_of_info (P := Tryd.prog) (t := 22) (v := .agg (List.replicate 32 (cellOf 0)).toArray) (n := 32) (by kernel_rfl)).1
theorem build_b32 (w : World) : (Instr.build 22 #[]).run Tryd.prog w = .ok (hashVal (List.replicate 32 0)) w := by kernel_rfl
theorem nD_byte (n k : Nat) (hk : k < 32) : (nD n).getD (k / 4) 0 / 2 ^ (8 * (k % 4)) % 256 = (byteAt n k).toNat := by
  rw [nD_at n _ (by omega), byteAt, UInt8.toNat_ofNat', show (256 : Nat) = 2 ^ 8 from rfl, ← Nat.pow_mul]
  have h1 : 2 ^ 32 = 2 ^ (8 * (k % 4)) * 2 ^ (32 - 8 * (k % 4)) := by rw [← Nat.pow_add]; congr 1; omega
  have h2 : (2 : Nat) ^ 8 ∣ 2 ^ (32 - 8 * (k % 4)) := Nat.pow_dvd_pow 2 (by omega)
  rw [h1, Nat.mod_mul_right_div_self, Nat.mod_mod_of_dvd _ h2, Nat.div_div_eq_div_mul, ← Nat.pow_add, show 32 * (k / 4) + 8 * (k % 4) = 8 * k by omega]
set_option maxRecDepth 100000 in
set_option maxHeartbeats 2000000 in
theorem refBytes_over (a : List Nat) (r : List UInt8) (T : Nat → List UInt8) (V : Nat → UInt8) (w : World) (HA : Hid (a.length = 8)) (HL : Hid (∀ k, k ≤ 32 → (T k).length = 32)) (H0 : Hid (T 0 = List.replicate 32 0)) (HR : Hid (T 32 = r))
    (HS : Hid (∀ k, k < 32 → T (k + 1) = (T k).set k (V k))) (HV : Hid (∀ k, k < 32 → a.getD (k / 4) 0 / 2 ^ (8 * (k % 4)) % 256 = (V k).toNat)) :
    Calls Tryd.prog 46 #[numD a] w fun e w' => e = .returned (hashVal r) ∧ Below w.heap.size w w' := by
  obtain ⟨z0, HZ0⟩ := namedF (List.replicate 32 (0 : UInt8))
  have BB := build_b32
  have HZL : Hid (z0.length = 32) := by show _ = _; rw [← HZ0.out]; rfl
  rw [HZ0.out] at BB H0
  go_enter Tryd.func46, Tryd.ntmps46
  go_wp2_with (first
    | (refine vtake_step rfl 38 (.tmp 0) rfl (a.map dcell) rfl ?_
       intro w1 hB1 hA1
       try simp only [Act.put, List.setIfInBounds_toArray, List.set_cons_zero, List.set_cons_succ]
       skip)
    | (refine zero_step (o := ⟨some 2, _, _, _, _, _⟩) rfl 22 rfl 32 zero_b32 ?_
       intro w3 hb3 hZ3 hz
       have hB3 := below_then hB1 hb3
       have hA3 := hA1.on hb3
       have hg2 := hA1.lt
       clear hB1 hA1 hb3 hz
       try simp only [Act.put, List.setIfInBounds_toArray, List.set_cons_zero, List.set_cons_succ]
       skip)
    | (refine build_step rfl 22 [] rfl [] rfl _ BB ?_
       try simp only [Act.put, List.setIfInBounds_toArray, List.set_cons_zero, List.set_cons_succ]
       skip)
    | (refine put_step rfl rfl 22 (.tmp 3) (.tmp 5) rfl rfl 32 z0 rfl rfl zero_b32 size_b32 HZL.out ?_
       intro w4 hb4 hS4 hz
       have hB4 := below_then hB3 hb4
       have hA4 := hA3.on hb4
       have hZ4 := hZ3.on hb4
       have hg3 := hZ3.lt
       clear hB3 hA3 hZ3 hb4 hz
       try simp only [Act.put, List.setIfInBounds_toArray, List.set_cons_zero, List.set_cons_succ]
       skip))
  generalize hh : w1.heap.size = gz at *
  generalize hi : w3.heap.size = gs at *
  clear hh hi
  go_loopw [4] (fun i wr => ∃ k : Nat, k ≤ 32 ∧ i = .int .i64 k ∧ Below w.heap.size w wr ∧ Cells wr w.heap.size (a.map dcell) 38 ∧ Cells wr gz (List.replicate 32 (cellOf 0)) 22 ∧ Cells wr gs ((T k).map cellOf) 22) (fun i _ => 32 - (intOf i).toNat)
  case atStart => exact ⟨0, Nat.zero_le _, rfl, hB4, hA4, hZ4, by rw [H0.out]; exact hS4⟩
  case round =>
    clear hB4 hA4 hZ4 hS4
    obtain ⟨k, hk, rfl, hB, hA, hZ, hS⟩ := hrel
    have HLk := Lib.hid (HL.out k hk)
    by_cases hlt : k < 32
    · have HN := Lib.hid (HS.out k hlt)
      have hlim := HV.out k hlt
      have d1 := hA.get (dat a (k / 4) (by rw [HA.out]; omega))
      obtain ⟨z, HZ⟩ := namedF (T (k + 1))
      rw [HZ.out] at HN
      generalize T k = s at *
      generalize a.getD (k / 4) 0 = p at *
      generalize V k = v at *
      clear HA HL H0 HS HR HV
      have i1 : (0 : Int) ≤ (k : Int) := by omega
      have i2 : (k : Int) < 32 := by omega
      have i3 : (k : Int) / 4 < 8 := by omega
      have i4 : (0 : Int) ≤ (k : Int) / 4 := by omega
      have i5 : ((k : Int) / 4).toNat = k / 4 := by omega
      have c1 : IntKind.i64.wrap ((k : Int) / 4) = (k : Int) / 4 := IntWalk.i64_in _ (by omega)
      obtain ⟨m, hm⟩ : ∃ m, m = k % 4 := ⟨_, rfl⟩
      rw [← hm] at hlim
      have c2 : (k : Int).tmod 4 = (m : Int) := by rw [Int.tmod_eq_emod_of_nonneg (by omega)]; omega
      have hm4 : m < 4 := by omega
      have c3 : IntKind.i64.wrap (8 * (m : Int)) = 8 * (m : Int) := IntWalk.i64_in _ (by omega)
      have c4 : IntKind.u64.wrap (8 * (m : Int)) = 8 * (m : Int) := by rw [IntKind.wrap_u64]; omega
      have c6 : (8 * (m : Int)).toNat = 8 * m := by omega
      have c8 : IntKind.u8.wrap ((p : Int) / 2 ^ (8 * m)) = (v.toNat : Int) := by rw [pow_cast, ← Int.natCast_ediv, IntKind.wrap_u8, ← hlim]; omega
      clear hlim hm
      have hT := hS.there k 1 (by rw [List.length_map, HLk.out]; omega)
      have hE := Lib.hid (hS.set k (cellOf v))
      go_wp2_with (first
        | (refine store_step rfl 5 _ _ rfl gs k .u8 (v.toNat : Int) rfl rfl size_u8 hT ?_
           intro w5 hw5
           have hB5 : Below w.heap.size w w5 := by rw [hw5]; exact hB.setCell (p := ⟨gs, k, none⟩) (by show w.heap.size ≤ gs; omega) _
           have hA5 : Cells w5 w.heap.size (a.map dcell) 38 := by rw [hw5]; exact hA.other (by show w.heap.size ≠ gs; omega) _
           have hZ5 : Cells w5 gz (List.replicate 32 (cellOf 0)) 22 := by rw [hw5]; exact hZ.other (by show gz ≠ gs; omega) _
           have hS5 : Cells w5 gs (z.map cellOf) 22 := by rw [hw5, HN.out, List.map_set]; exact hE.out
           clear hw5 hT hE hB hA hZ hS d1))
      go_roundw
      case rel => first | exact ⟨k + 1, by omega, by go_num, hB5, hA5, hZ5, by rw [HZ.out]; exact hS5⟩ | trace_state
      case measure => simp [intOf] <;> omega
    · obtain rfl : k = 32 := by omega
      rw [HR.out] at hS
      have HTL := Lib.hid (HL.out 32 (by omega))
      rw [HR.out] at HTL
      clear HA HS HL H0 hA HV
      go_wp2_with (first
        | (refine get_step rfl 22 (.tmp 3) rfl gs 32 r _ rfl hS Tryd.underlying22 size_b32 HTL.out ?_
           try simp only [Act.put, List.setIfInBounds_toArray, List.set_cons_zero, List.set_cons_succ]
           skip)
        | (refine set_step rfl 22 _ _ rfl gz 32 (List.replicate 32 (cellOf 0)) r rfl rfl hZ rfl size_b32 HTL.out ?_
           intro w6 hb6 hZ6 hz
           have hB6 := hB.trans (hb6.below (by omega) hB.size)
           clear hB hS hb6 hz))
      exact ret_hash Tryd.results46 gz r rfl hZ6 Tryd.underlying22 size_b32 HTL.out rfl ⟨rfl, hB6⟩
theorem refBytes_any (n : Nat) (w : World) : Calls Tryd.prog 46 #[numD (nD n)] w fun e w' => e = .returned (hashVal (putL n 32)) ∧ Below w.heap.size w w' := by
  refine refBytes_over (nD n) _ (fun k => putL n k ++ List.replicate (32 - k) 0) (byteAt n) w rfl (fun k hk => ?_) (by show putL n 0 ++ List.replicate 32 0 = _; rfl) (by show putL n 32 ++ List.replicate 0 0 = _; exact List.append_nil _) (fun k hk => ?_) (fun k hk => nD_byte n k hk)
  · show (putL n k ++ List.replicate (32 - k) 0).length = 32
    rw [List.length_append, putL_length, List.length_replicate]; omega
  · show putL n (k + 1) ++ List.replicate (32 - (k + 1)) 0 = (putL n k ++ List.replicate (32 - k) 0).set k (byteAt n k)
    rw [putL_succ, show 32 - k = (32 - (k + 1)) + 1 by omega, List.replicate_succ, List.set_append_right _ _ (by rw [putL_length]; omega), putL_length, Nat.sub_self, List.set_cons_zero, List.append_assoc]
    rfl
end Go.Proofs.YtagjbdhelfickaaDoor
namespace Go.Proofs.YtagjbdhelfickaaDoor
open Go.RowKit
theorem lev_mask (b : List UInt8) (hb : b.length = 32) : lev (b.set 31 (b.getD 31 0 % 128)) = lev b % 57896044618658097711785492504343953926634992332820282019728792003956564819968 := by
  have hg : ∀ c : List UInt8, c.length = 32 → lev c = lev (c.take 31) + (c.getD 31 0).toNat * 452312848583266388373324160190187140051835877600158453279131187530910662656 := fun c hc => by
    have h := lev_step c 31 (by rw [hc]; decide)
    rw [List.take_of_length_le (by rw [hc]; decide)] at h
    exact h
  have hl := lev_take_lt b 31 (by rw [hb]; decide)
  rw [hg _ (by rw [List.length_set]; exact hb), hg b hb, List.take_set_of_le (by decide), show (b.set 31 (b.getD 31 0 % 128)).getD 31 0 = b.getD 31 0 % 128 by rw [List.getD_eq_getElem?_getD, List.getElem?_set_self (by rw [hb]; decide)]; rfl, UInt8.toNat_mod]
  generalize lev (b.take 31) = L at *
  generalize b.getD 31 0 = q
  have hq := q.toNat_lt
  have h8 : (128 : UInt8).toNat = 128 := rfl
  rw [h8]
  generalize q.toNat = y at *
  have hl' : L < 452312848583266388373324160190187140051835877600158453279131187530910662656 := hl
  clear hl
  omega
end Go.Proofs.YtagjbdhelfickaaDoor
namespace Go.Proofs.YtagjbdhelfickaaDoor
open Go.RowKit
set_option maxRecDepth 100000 in
set_option maxHeartbeats 2000000 in
theorem refHalf_over (a r : List Nat) (T : Nat → List Nat) (V : Nat → Nat) (w : World) (HA : Hid (a.length = 8 ∧ ∀ k, a.getD k 0 < 4294967296)) (HL : Hid (∀ k, (T k).length = 8)) (H0 : Hid (T 0 = [0, 0, 0, 0, 0, 0, 0, 0])) (HR : Hid (T 8 = r))
    (HS : Hid (∀ k, k < 7 → V k = a.getD k 0 / 2 + a.getD (k + 1) 0 % 2 * 2147483648 ∧ T (k + 1) = ((T k).set k (a.getD k 0 / 2)).set k (V k))) (H8 : Hid (T 8 = (T 7).set 7 (a.getD 7 0 / 2))) :
    Calls Tryd.prog 68 #[numD a] w fun e w' => e = .returned (numD r) ∧ Below w.heap.size w w' := by
  go_enter Tryd.func68, Tryd.ntmps68
  go_wp2_with (first
    | (refine vtake_step rfl 38 (.tmp 0) rfl (a.map dcell) rfl ?_
       intro w1 hB1 hA1
       try simp only [Act.put, List.setIfInBounds_toArray, List.set_cons_zero, List.set_cons_succ]
       skip)
    | (refine vzero_step (o := ⟨some 2, _, _, _, _, _⟩) rfl 38 rfl (dzeros 8) zero_ND ?_
       intro w3 hb3 hZ3
       have hB3 := below_then hB1 hb3
       have hA3 := hA1.on hb3
       have hg2 := hA1.lt
       clear hB1 hA1 hb3
       try simp only [Act.put, List.setIfInBounds_toArray, List.set_cons_zero, List.set_cons_succ]
       skip)
    | (refine build_step rfl 38 [] rfl [] rfl _ build_ND0 ?_
       try simp only [Act.put, List.setIfInBounds_toArray, List.set_cons_zero, List.set_cons_succ]
       skip)
    | (refine vput_step rfl rfl 38 (.tmp 3) (.tmp 5) rfl rfl 8 (dzeros 8) (dzeros 8) rfl rfl zero_ND rfl size_ND rfl (by rw [dzeros_map]; exact dcells_one _) ?_
       intro w4 hb4 hS4
       have hB4 := below_then hB3 hb4
       have hA4 := hA3.on hb4
       have hZ4 := hZ3.on hb4
       have hg3 := hZ3.lt
       clear hB3 hA3 hZ3 hb4
       try simp only [Act.put, List.setIfInBounds_toArray, List.set_cons_zero, List.set_cons_succ]
       skip))
  generalize hh : w1.heap.size = gz at *
  generalize hi : w3.heap.size = gs at *
  clear hh hi
  go_loopw [4] (fun i wr => ∃ k : Nat, k ≤ 8 ∧ i = .int .i64 k ∧ Below w.heap.size w wr ∧ Cells wr w.heap.size (a.map dcell) 38 ∧ Cells wr gz (dzeros 8) 38 ∧ Cells wr gs ((T k).map dcell) 38) (fun i _ => 8 - (intOf i).toNat)
  case atStart => exact ⟨0, Nat.zero_le _, rfl, hB4, hA4, hZ4, by rw [H0.out, ← dzeros8]; exact hS4⟩
  case round =>
    clear hB4 hA4 hZ4 hS4
    obtain ⟨k, hk, rfl, hB, hA, hZ, hS⟩ := hrel
    have HLk := Lib.hid (HL.out k)
    by_cases hlt : k < 8
    · have d1 := hA.get (dat a k (by rw [HA.out.1]; omega))
      have hp := HA.out.2 k
      have i1 : (0 : Int) ≤ (k : Int) := by omega
      have i2 : (k : Int) < 8 := by omega
      obtain ⟨y, hy⟩ : ∃ y, y = a.getD k 0 / 2 := ⟨_, rfl⟩
      have c1 : ((a.getD k 0 : Nat) : Int) / 2 = (y : Int) := by rw [hy]; rfl
      have hT := hS.there k 1 (by rw [List.length_map, HLk.out]; omega)
      have hE := Lib.hid (hS.set k (dcell y))
      by_cases h7 : k < 7
      · have HN := Lib.hid (HS.out k h7).2
        have hv := (HS.out k h7).1
        rw [← hy] at HN hv
        have d0 := Lib.hid (dat a (k + 1) (by rw [HA.out.1]; omega))
        have hq := HA.out.2 (k + 1)
        obtain ⟨z, HZ⟩ := namedF (T (k + 1))
        rw [HZ.out] at HN
        generalize T k = s at *
        generalize a.getD k 0 = p at *
        generalize a.getD (k + 1) 0 = q at *
        generalize V k = v at *
        have HAL := Lib.hid HA.out.1
        clear HA HL H0 HS HR H8
        have i3 : (k : Int) < 7 := by omega
        have i4 : IntKind.i64.wrap ((k : Int) + 1) = (k : Int) + 1 := IntWalk.i64_in _ (by omega)
        have i5 : ((k : Int) + 1).toNat = k + 1 := by omega
        have i6 : (k : Int) + 1 < 8 := by omega
        have i7 : (0 : Int) ≤ (k : Int) + 1 := by omega
        obtain ⟨b, hb⟩ : ∃ b, b = q % 2 := ⟨_, rfl⟩
        have c2 : (q : Int).tmod 2 = (b : Int) := by rw [Int.tmod_eq_emod_of_nonneg (by omega)]; omega
        have c3 : IntKind.u32.wrap (b : Int) = (b : Int) := by rw [IntKind.wrap_u32]; omega
        obtain ⟨x, hx⟩ : ∃ x, x = b * 2147483648 := ⟨_, rfl⟩
        have c4 : IntKind.u32.wrap ((b : Int) * 2147483648) = (x : Int) := by rw [IntKind.wrap_u32]; omega
        have c5 : IntKind.u32.wrap ((y : Int) + (x : Int)) = (v : Int) := by rw [IntKind.wrap_u32]; omega
        clear hx hb hv hy
        go_wp2_with (first
          | (refine store_step rfl 36 _ _ rfl gs k .u32 (y : Int) rfl rfl size_w32 hT ?_
             intro w5 hw5
             have hB5 : Below w.heap.size w w5 := by rw [hw5]; exact hB.setCell (p := ⟨gs, k, none⟩) (by show w.heap.size ≤ gs; omega) _
             have hA5 : Cells w5 w.heap.size (a.map dcell) 38 := by rw [hw5]; exact hA.other (by show w.heap.size ≠ gs; omega) _
             have hZ5 : Cells w5 gz (dzeros 8) 38 := by rw [hw5]; exact hZ.other (by show gz ≠ gs; omega) _
             have hS5 : Cells w5 gs ((s.set k y).map dcell) 38 := by rw [hw5, ← dset_map]; exact hE.out
             have d5 := hA5.get d0.out
             have d6 := hS5.get (dat (s.set k y) k (by rw [List.length_set, HLk.out]; exact hlt))
             rw [List.getD_eq_getElem?_getD, List.getElem?_set_self (by rw [HLk.out]; exact hlt)] at d6
             simp only [Option.getD_some] at d6
             clear hw5 hT hE hB hA hZ hS d1 d0))
        refine wp_region_tail 11 (by kernel_rfl) (by kernel_rfl) ?_
        intro w4 hw4
        have hB4 : Below w.heap.size w w4 := by rw [hw4]; exact hB5.drew
        have hA4 : Cells w4 w.heap.size (a.map dcell) 38 := by rw [hw4]; exact hA5
        have hZ4 : Cells w4 gz (dzeros 8) 38 := by rw [hw4]; exact hZ5
        have hS4 : Cells w4 gs ((s.set k y).map dcell) 38 := by rw [hw4]; exact hS5
        have d3 : w4.cell? ⟨w.heap.size, k + 1, none⟩ = some (dcell q) := by rw [hw4]; exact d5
        have d4 : w4.cell? ⟨gs, k, none⟩ = some (dcell y) := by rw [hw4]; exact d6
        clear hw4 hB5 hA5 hZ5 hS5 d5 d6
        simp only [List.take_succ_cons, List.take_zero, List.drop_succ_cons, List.drop_zero]
        repeat still_step
        refine wpStill_nil ?_
        have hT := hS4.there k 1 (by rw [List.length_map, List.length_set, HLk.out]; omega)
        have hE := Lib.hid (hS4.set k (dcell v))
        go_wp2_with (first
          | (refine store_step rfl 36 _ _ rfl gs k .u32 (v : Int) rfl rfl size_w32 hT ?_
             intro w5 hw5
             have hB5 : Below w.heap.size w w5 := by rw [hw5]; exact hB4.setCell (p := ⟨gs, k, none⟩) (by show w.heap.size ≤ gs; omega) _
             have hA5 : Cells w5 w.heap.size (a.map dcell) 38 := by rw [hw5]; exact hA4.other (by show w.heap.size ≠ gs; omega) _
             have hZ5 : Cells w5 gz (dzeros 8) 38 := by rw [hw5]; exact hZ4.other (by show gz ≠ gs; omega) _
             have hS5 : Cells w5 gs (z.map dcell) 38 := by rw [hw5, HN.out, ← dset_map]; exact hE.out
             clear hw5 hT hE hB4 hA4 hZ4 hS4 d3 d4))
        go_roundw
        case rel => first | exact ⟨k + 1, by omega, by go_num, hB5, hA5, hZ5, by rw [HZ.out]; exact hS5⟩ | trace_state
        case measure => simp [intOf] <;> omega
      · obtain rfl : k = 7 := by omega
        have HN := Lib.hid H8.out
        rw [← hy] at HN
        obtain ⟨z, HZ⟩ := namedF (T 8)
        rw [HZ.out] at HN
        generalize T 7 = s at *
        generalize a.getD 7 0 = p at *
        clear HA HL H0 HS HR H8 hp hy
        go_wp2_with (first
          | (refine store_step rfl 36 _ _ rfl gs 7 .u32 (y : Int) rfl rfl size_w32 hT ?_
             intro w5 hw5
             have hB5 : Below w.heap.size w w5 := by rw [hw5]; exact hB.setCell (p := ⟨gs, 7, none⟩) (by show w.heap.size ≤ gs; omega) _
             have hA5 : Cells w5 w.heap.size (a.map dcell) 38 := by rw [hw5]; exact hA.other (by show w.heap.size ≠ gs; omega) _
             have hZ5 : Cells w5 gz (dzeros 8) 38 := by rw [hw5]; exact hZ.other (by show gz ≠ gs; omega) _
             have hS5 : Cells w5 gs (z.map dcell) 38 := by rw [hw5, HN.out, ← dset_map]; exact hE.out
             clear hw5 hT hE hB hA hZ hS d1))
        go_roundw
        case rel => first | exact ⟨8, by omega, by go_num, hB5, hA5, hZ5, by rw [HZ.out]; exact hS5⟩ | trace_state
        case measure => simp [intOf] <;> omega
    · obtain rfl : k = 8 := by omega
      rw [HR.out] at hS
      have HTL := Lib.hid (HL.out 8)
      rw [HR.out] at HTL
      clear HA HS HL H0 hA H8
      go_wp2_with (first
        | (refine sget_step rfl 38 (.tmp 3) rfl gs 8 (r.map dcell) rfl hS Tryd.underlying38 rfl size_ND (by rw [List.length_map, HTL.out]) ?_
           try simp only [Act.put, List.setIfInBounds_toArray, List.set_cons_zero, List.set_cons_succ]
           skip)
        | (refine vset_step rfl 38 _ _ rfl gz 8 (dzeros 8) (r.map dcell) rfl rfl hZ rfl size_ND (by rw [List.length_map, HTL.out]) (dcells_one _) ?_
           intro w6 hb6 hZ6 _
           have hB6 := hB.trans (hb6.below (by omega) hB.size)
           clear hB hS hb6))
      exact sret Tryd.results68 gz (r.map dcell) rfl hZ6 Tryd.underlying38 rfl size_ND (by rw [List.length_map, HTL.out]) rfl ⟨rfl, hB6⟩
theorem nD_halfAt (n k : Nat) (hk : k < 8) : (nD (n / 2)).getD k 0 = (nD n).getD k 0 / 2 + n / 2 ^ (32 * k + 32) % 2 * 2147483648 := by
  rw [nD_at _ k hk, nD_at _ k hk, Nat.pow_add, ← Nat.div_div_eq_div_mul, Nat.div_div_eq_div_mul n 2, Nat.mul_comm 2, ← Nat.div_div_eq_div_mul]
  generalize n / 2 ^ (32 * k) = y
  omega
theorem refHalf_any (n : Nat) (w : World) (hn : n < mm) : Calls Tryd.prog 68 #[numD (nD n)] w fun e w' => e = .returned (numD (nD (n / 2))) ∧ Below w.heap.size w w' := by
  have hT : ∀ k, k < 8 → ((nD (n / 2)).take (k + 1) ++ List.replicate (8 - (k + 1)) 0) = ((nD (n / 2)).take k ++ List.replicate (8 - k) 0).set k ((nD (n / 2)).getD k 0) := fun k hk => by
    have hl : ((nD (n / 2)).take k).length = k := by rw [List.length_take, nD_length]; omega
    rw [List.take_succ_eq_append_getElem (show k < (nD (n / 2)).length from hk), show 8 - k = (8 - (k + 1)) + 1 by omega, List.replicate_succ, List.set_append_right _ _ (by rw [hl]; omega), hl, Nat.sub_self, List.set_cons_zero, List.append_assoc, List.getD_eq_getElem?_getD, List.getElem?_eq_getElem (show k < (nD (n / 2)).length from hk)]
    rfl
  refine refHalf_over (nD n) _ (fun k => (nD (n / 2)).take k ++ List.replicate (8 - k) 0) (fun k => (nD (n / 2)).getD k 0) w ⟨rfl, (nD_D8 n).2⟩ (fun k => ?_) (by show (nD (n / 2)).take 0 ++ List.replicate 8 0 = _; rfl) (by show (nD (n / 2)).take 8 ++ List.replicate 0 0 = _; rw [List.take_of_length_le (Nat.le_refl 8)]; exact List.append_nil _) (fun k hk => ⟨?_, ?_⟩) ?_
  · show ((nD (n / 2)).take k ++ List.replicate (8 - k) 0).length = 8
    rw [List.length_append, List.length_take, List.length_replicate, nD_length]; omega
  · show (nD (n / 2)).getD k 0 = _
    rw [nD_halfAt n k (by omega), nD_at n (k + 1) (by omega), show 32 * (k + 1) = 32 * k + 32 by omega]
    generalize n / 2 ^ (32 * k + 32) = y
    omega
  · show ((nD (n / 2)).take (k + 1) ++ List.replicate (8 - (k + 1)) 0) = _
    rw [hT k (by omega), List.set_set]
  · show ((nD (n / 2)).take 8 ++ List.replicate (8 - 8) 0) = _
    have h7 := nD_halfAt n 7 (by omega)
    rw [show n / 2 ^ (32 * 7 + 32) = 0 from Nat.div_eq_of_lt (Nat.lt_of_lt_of_le hn (by decide +kernel)), Nat.zero_mod, Nat.zero_mul, Nat.add_zero] at h7
    rw [hT 7 (by omega), h7]
end Go.Proofs.YtagjbdhelfickaaDoor
namespace Go.Proofs.YtagjbdhelfickaaDoor
open Go.RowKit
end Go.Proofs.YtagjbdhelfickaaDoor
namespace Go.Proofs.YtagjbdhelfickaaDoor
open Go.RowKit
theorem key_eql (ds es : List UInt8) (hd : ds.length = 32) (he : es.length = 32) (w : World) : (binOp .eql 23 (hashVal ds) (hashVal es)).run Tryd.prog w = .ok (.bool (ds == es)) w :=
  run_eql_bytes (P := Tryd.prog) w 23 5 32 Tryd.underlying23 Tryd.underlying5 (fun w => by
    obtain ⟨i0, hi0, hs0⟩ := Option.map_eq_some_iff.1 size_u8
    simp [sizeOf, typeInfo, hi0, hs0]) ds es hd he
end Go.Proofs.YtagjbdhelfickaaDoor
namespace Go.Proofs.YtagjbdhelfickaaDoor
open Go.RowKit
end Go.Proofs.YtagjbdhelfickaaDoor
