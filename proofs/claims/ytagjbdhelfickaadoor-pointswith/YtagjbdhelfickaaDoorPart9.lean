/- Part 9 of what the laws of this seat share: GLeast, GCarry, GFold, GAdd, GTimes, GTimes2. -/
import Derived.Test.YtagjbdhelfickaaDoorPart8
namespace Go.Proofs.YtagjbdhelfickaaDoor
open Go.RowKit
theorem num_run {w : World} {g : Nat} {l : List Nat} {t' : TypeId} (hC : Cells w g (l.map dcell) t') (hl : l.length = 8) : (Instr.loadAt 38 (.pointer (some ⟨g, 0, none⟩))).run Tryd.prog w = .ok (numD l) w := by
  have h := run_loadVar_row (P := Tryd.prog) w g t' 38 (l.map dcell).toArray (0, 0) _ hC Tryd.underlying38 rfl (by rw [List.size_toArray, List.length_map, hl]; exact size_ND)
  simp only [Instr.loadAt, Instr.sureAddr, Sem.run_bind, Sem.run_pure, Result.andThen_ok]
  exact h
/-- The number that a block of words holds. -/
def numAt (w : World) (g : Nat) : Nat := pre ((List.range 8).map fun j => match w.cell? ⟨g, j, none⟩ with | some (.int _ i) => i.toNat | _ => 0) 8
theorem numAt_is {w : World} {g : Nat} {l : List Nat} {t : TypeId} (hC : Cells w g (l.map dcell) t) (hl : l.length = 8) : numAt w g = pre l 8 := by
  rw [numAt]
  congr 1
  apply List.ext_getElem
  · simp [hl]
  · intro i h1 h2
    have h3 := hC.get (dat l i h2)
    simp only [List.getElem_map, List.getElem_range, h3]
    simp [h2]
def leastVs1 (a y p : List Nat) (b : Bool) (ga gz : Nat) (u7 u8 u9 : Value) : List Value :=
  (numD a) :: (.pointer (some ⟨ga, 0, none⟩)) :: (.pointer (some ⟨gz, 0, none⟩)) :: (numD y) :: (numD p) :: (.bool b) :: (.bool (!b)) :: (u7) :: (u8) :: (u9) :: undef :: []
def leastVs2 (a y p z : List Nat) (ga gz : Nat) : List Value :=
  (numD a) :: (.pointer (some ⟨ga, 0, none⟩)) :: (.pointer (some ⟨gz, 0, none⟩)) :: (numD y) :: (numD p) :: (.bool false) :: (.bool true) :: (numD y) :: (numD p) :: (numD z) :: undef :: []
set_option maxRecDepth 100000 in
set_option maxHeartbeats 1000000 in
theorem refLeast_over (a r : List Nat) (n : Nat) (Y : Nat → List Nat) (w : World) (HA : Hid (a = Y n ∧ n < mm)) (HYL : Hid (∀ y, (Y y).length = 8)) (HN : Hid (∀ y, y < mm → pre (Y y) 8 = y)) (HR : Hid (∀ y, y < mm → y < pp → y % pp = n % pp → Y y = r))
    (p : List Nat) (CP : Hid (∀ W, Calls Tryd.prog 64 #[] W fun e w' => e = .returned (numD p) ∧ Below W.heap.size W w')) (CL : Hid (∀ y, y < mm → ∀ W, Calls Tryd.prog 63 #[numD (Y y), numD p] W fun e w' => e = .returned (.bool (decide (y < pp))) ∧ Below W.heap.size W w')) (CM : Hid (∀ y, y < mm → pp ≤ y → ∀ W, Calls Tryd.prog 65 #[numD (Y y), numD p] W fun e w' => e = .returned (numD (Y (y - pp))) ∧ Below W.heap.size W w')) :
    Calls Tryd.prog 33 #[numD a] w fun e w' => e = .returned (numD r) ∧ Below w.heap.size w w' := by
  go_enter Tryd.func33, Tryd.ntmps33
  go_wp2_with (first
    | (refine vtake_step rfl 38 (.tmp 0) rfl (a.map dcell) rfl ?_
       intro w1 hB1 hA1
       try simp only [Act.put, List.setIfInBounds_toArray, List.set_cons_zero, List.set_cons_succ]
       skip)
    | (refine vzero_step rfl 38 rfl (dzeros 8) zero_ND ?_
       intro w3 hb3 hZ3
       have hB3 := below_then hB1 hb3
       have hA3 := hA1.on hb3
       have hlt := hA1.lt
       clear hB1 hA1 hb3
       try simp only [Act.put, List.setIfInBounds_toArray, List.set_cons_zero, List.set_cons_succ]
       skip))
  generalize hg : w1.heap.size = gz at *
  clear hg
  go_loopw [3] (fun _ wr => ∃ y : Nat, Hid (y < mm) ∧ Hid (y % pp = n % pp) ∧ Below w.heap.size w wr ∧ Cells wr w.heap.size ((Y y).map dcell) 38 ∧ Cells wr gz (dzeros 8) 38) (fun _ wr => numAt wr w.heap.size)
  case atStart => exact ⟨n, HA.out.2, rfl, hB3, by rw [← HA.out.1]; exact hA3, hZ3⟩
  case round =>
    clear hB3 hA3 hZ3
    obtain ⟨v, HV, HVM, hB, hY, hZ⟩ := hrel
    have HNA : Hid (numAt wr w.heap.size = v) := by show _ = _; rw [numAt_is hY (HYL.out v), HN.out v HV.out]
    replace CL := Lib.hid (CL.out v HV.out)
    replace CM := Lib.hid (CM.out v HV.out)
    have HYM := Lib.hid (HYL.out (v - pp))
    have HSM : Hid (∀ W : World, Cells W w.heap.size ((Y (v - pp)).map dcell) 38 → pp ≤ v → numAt W w.heap.size < v) := fun W hW hv => by
      rw [numAt_is hW (HYL.out _), HN.out _ (by have := HV.out; omega)]
      have : 0 < pp := by decide
      omega
    have HRv := Lib.hid (HR.out v HV.out)
    replace HYL := Lib.hid (HYL.out v)
    obtain ⟨z, HZ⟩ := namedF (Y (v - pp))
    obtain ⟨y, HY⟩ := namedF (Y v)
    rw [HZ.out] at CM HYM HSM
    rw [HY.out] at CL CM HYL hY HRv
    obtain ⟨b, HBB⟩ := namedF (decide (v < pp))
    rw [HBB.out] at CL
    clear HN HA HR
    go_wp2_with fail
    refine wp_region_any (by kernel_rfl) ?_
    refine wpAny_flatAt (L := [0, 1, 2, 3]) (by kernel_rfl) _ _ (leastVs1 a y p b w.heap.size gz u7 u8 u9) [0, 1, 2, 7, 8, 9, 10] (by kernel_rfl) ?_ (by rfl) ?_ 0 (by kernel_rfl) ?_
    · repeat refine all_cons rfl ?_
      exact all_nil
    · change ∀ i ∈ _, StepOk _ _ _ _ _ wr.drew _ i
      refine all_cons (stepPure _ 3 rfl rfl rfl (by kernel_rfl) (by kernel_rfl) fun a w hb hv => exec_load _ _ _ _ rfl _ _ (hv 1 (by kernel_rfl)) w (num_run (hY.drew.on hb) HYL.out)) ?_
      refine all_cons (stepCall _ 4 rfl rfl rfl (by kernel_rfl) (by kernel_rfl) 64 _ _ rfl [] (fun a hv => rfl) (enters Tryd.func64 rfl rfl) (fun w hb => CP.out w)) ?_
      refine all_cons (stepCall _ 5 rfl rfl rfl (by kernel_rfl) (by kernel_rfl) 63 _ _ rfl [numD y, numD p] (fun a hv => cons_eq (hv 3 (by kernel_rfl)) (cons_eq (hv 4 (by kernel_rfl)) (rfl))) (enters Tryd.func63 rfl rfl) (fun w hb => CL.out w)) ?_
      refine all_cons (stepPure _ 6 rfl rfl rfl (by kernel_rfl) (by kernel_rfl) fun a w hb hv => exec_not _ _ _ _ rfl _ (hv 5 (by kernel_rfl)) w) ?_
      exact all_nil
    intro w4 hb4
    have hB4 := below_then (show Below w.heap.size w wr.drew from hB.drew) hb4
    have hY4 := hY.drew.on hb4
    have hZ4 := hZ.drew.on hb4
    clear hb4 hB hY hZ CL
    refine ⟨by kernel_rfl, ?_⟩
    rename_i K hKK
    show Exit.then K _ Exit.normal (⟨(leastVs1 a y p b w.heap.size gz u7 u8 u9).toArray, []⟩ : Act) w4
    simp only [Exit.then]
    refine hKK _ _ ?_
    clear hKK K
    simp only [leastVs1]
    cases b with
    | true =>
      obtain rfl : y = r := HRv.out (by simpa using HBB.out) HVM.out
      go_wp2_with (first
        | (refine sget_step rfl 38 (.tmp 1) rfl w.heap.size 8 (y.map dcell) rfl hY4 Tryd.underlying38 rfl size_ND (by rw [List.length_map, HYL.out]) ?_)
        | (refine vset_step rfl 38 _ _ rfl gz 8 (dzeros 8) (y.map dcell) rfl rfl hZ4 rfl size_ND (by rw [List.length_map, HYL.out]) (dcells_one _) ?_
           intro w7 hb7 hC7 _))
      exact sret Tryd.results33 gz (y.map dcell) rfl hC7 Tryd.underlying38 rfl size_ND (by rw [List.length_map, HYL.out]) rfl ⟨rfl, hB4.trans (hb7.below (by omega) hB4.size)⟩
    | false =>
      have hge : pp ≤ v := by have := HBB.out; simp only [decide_eq_false_iff_not] at this; omega
      replace CM := Lib.hid (CM.out hge)
      clear HRv HBB
      go_wp2_with fail
      refine wp_region_any (by kernel_rfl) ?_
      refine wpAny_flatAt (L := [0, 1, 2]) (by kernel_rfl) _ _ (leastVs2 a y p z w.heap.size gz) [0, 1, 2, 3, 4, 5, 6, 10] (by kernel_rfl) ?_ (by rfl) ?_ 1 (by kernel_rfl) ?_
      · repeat refine all_cons rfl ?_
        exact all_nil
      · change ∀ i ∈ _, StepOk _ _ _ _ _ w4.drew _ i
        refine all_cons (stepPure _ 7 rfl rfl rfl (by kernel_rfl) (by kernel_rfl) fun a w hb hv => exec_load _ _ _ _ rfl _ _ (hv 1 (by kernel_rfl)) w (num_run (hY4.drew.on hb) HYL.out)) ?_
        refine all_cons (stepCall _ 8 rfl rfl rfl (by kernel_rfl) (by kernel_rfl) 64 _ _ rfl [] (fun a hv => rfl) (enters Tryd.func64 rfl rfl) (fun w hb => CP.out w)) ?_
        refine all_cons (stepCall _ 9 rfl rfl rfl (by kernel_rfl) (by kernel_rfl) 65 _ _ rfl [numD y, numD p] (fun a hv => cons_eq (hv 7 (by kernel_rfl)) (cons_eq (hv 8 (by kernel_rfl)) (rfl))) (enters Tryd.func65 rfl rfl) (fun w hb => CM.out w)) ?_
        exact all_nil
      intro w5 hb5
      have hB5 := below_then (show Below w.heap.size w w4.drew from hB4.drew) hb5
      have hY5 := hY4.drew.on hb5
      have hZ5 := hZ4.drew.on hb5
      clear hb5 hB4 hY4 hZ4 CM CP
      refine wpAny_rest 3 rfl (by kernel_rfl) ?_
      refine vset_step rfl 38 (.tmp 1) (.tmp 9) rfl w.heap.size 8 (y.map dcell) (z.map dcell) rfl rfl hY5 (by rw [List.length_map, HYL.out]) size_ND (by rw [List.length_map, HYM.out]) (dcells_one _) ?_
      intro w6 hb6 hY6 hz6
      have hB6 := hB5.trans (hb6.below (Nat.le_refl _) hB5.size)
      have hZ6 := hZ5.but hb6 (by omega)
      clear hb6 hB5 hY5 hZ5
      simp only [leastVs2]
      go_wp2
      go_roundw
      case rel => exact ⟨_, _, _, _, _, _, _, ⟨v - pp, by have := HV.out; show _ < _; omega, by show _ = _; rw [← HVM.out]; exact (Nat.mod_eq_sub_mod hge).symm, hB6, by rw [HZ.out]; exact hY6, hZ6⟩, rfl⟩
      case measure => rw [HNA.out]; exact HSM.out _ (by assumption) hge
theorem refLeast_any (n : Nat) (w : World) (hn : n < mm) : Calls Tryd.prog 33 #[numD (nD n)] w fun e w' => e = .returned (numD (nD (n % pp))) ∧ Below w.heap.size w w' :=
  refLeast_over (nD n) (nD (n % pp)) n nD w ⟨rfl, hn⟩ (fun _ => rfl) (fun y hy => pre_nD y hy) (fun y _ h1 h2 => by rw [← h2, Nat.mod_eq_of_lt h1]) (nD pp) refP_any (fun y hy W => refLess_any y pp W hy (by decide)) (fun y hy h W => refMinus_any y pp W hy h)
end Go.Proofs.YtagjbdhelfickaaDoor
namespace Go.Proofs.YtagjbdhelfickaaDoor
open Go.RowKit
def psum (f : Nat → Nat) : Nat → Nat
  | 0 => 0
  | k + 1 => psum f k + f k * 4294967296 ^ k
theorem pre_psum (l : List Nat) : ∀ k, pre l k = psum (fun j => l.getD j 0) k
  | 0 => rfl
  | k + 1 => by rw [pre, psum, pre_psum l k]
theorem psum_add (f g : Nat → Nat) : ∀ k, psum (fun j => f j + g j) k = psum f k + psum g k
  | 0 => rfl
  | k + 1 => by rw [psum, psum, psum, psum_add f g k, Nat.add_mul]; omega
theorem psum_mul (c : Nat) (f : Nat → Nat) : ∀ k, psum (fun j => c * f j) k = c * psum f k
  | 0 => rfl
  | k + 1 => by rw [psum, psum, psum_mul c f k, Nat.mul_add, Nat.mul_assoc]
/-- Word by word: the sum's low word is written, the rest carried. -/
def cyTo (f : Nat → Nat) (l0 : List Nat) (c0 : Nat) : Nat → List Nat × Nat
  | 0 => (l0, c0)
  | k + 1 => ((cyTo f l0 c0 k).1.set k ((f k + (cyTo f l0 c0 k).2) % 4294967296), (f k + (cyTo f l0 c0 k).2) / 4294967296)
theorem cyTo_length (f : Nat → Nat) (l0 : List Nat) (c0 : Nat) : ∀ k, (cyTo f l0 c0 k).1.length = l0.length
  | 0 => rfl
  | k + 1 => by rw [cyTo, List.length_set, cyTo_length]
theorem cyTo_lt (f : Nat → Nat) {l0 : List Nat} (c0 : Nat) (h : ∀ k, l0.getD k 0 < 4294967296) : ∀ k j, (cyTo f l0 c0 k).1.getD j 0 < 4294967296
  | 0 => h
  | k + 1 => by rw [cyTo]; exact set_lt (cyTo_lt f c0 h k) k _ (Nat.mod_lt _ (by decide))
theorem cyTo_ahead (f : Nat → Nat) (l0 : List Nat) (c0 : Nat) : ∀ k j, k ≤ j → (cyTo f l0 c0 k).1.getD j 0 = l0.getD j 0
  | 0, _, _ => rfl
  | k + 1, j, h => by rw [cyTo, getD_set_neN _ _ _ _ (by omega), cyTo_ahead f l0 c0 k j (by omega)]
theorem cyTo_pre (f : Nat → Nat) (l0 : List Nat) (c0 : Nat) : ∀ k, k ≤ l0.length → pre (cyTo f l0 c0 k).1 k + (cyTo f l0 c0 k).2 * 4294967296 ^ k = psum f k + c0
  | 0, _ => by simp [cyTo, pre, psum]
  | k + 1, h => by
    have ih := cyTo_pre f l0 c0 k (by omega)
    have hl := cyTo_length f l0 c0 k
    rw [cyTo]
    show pre ((cyTo f l0 c0 k).1.set k ((f k + (cyTo f l0 c0 k).2) % 4294967296)) (k + 1) + (f k + (cyTo f l0 c0 k).2) / 4294967296 * _ = _
    rw [pre_set _ _ _ (by omega), psum, Nat.pow_succ]
    generalize (cyTo f l0 c0 k).2 = o at *
    have e := Nat.div_add_mod (f k + o) 4294967296
    generalize (f k + o) % 4294967296 = r at *
    generalize (f k + o) / 4294967296 = q at *
    have e2 : (4294967296 * q + r) * 4294967296 ^ k = (f k + o) * 4294967296 ^ k := by rw [e]
    rw [Nat.add_mul, Nat.add_mul, Nat.mul_assoc, Nat.mul_left_comm] at e2
    rw [Nat.mul_comm (4294967296 ^ k)]
    omega
theorem cyTo_le (f : Nat → Nat) (l0 : List Nat) (c0 m : Nat) (hc : c0 ≤ m) (hf : ∀ k, f k + m < (m + 1) * 4294967296) : ∀ k, (cyTo f l0 c0 k).2 ≤ m
  | 0 => hc
  | k + 1 => by
    have ih := cyTo_le f l0 c0 m hc hf k
    have h := hf k
    rw [cyTo]
    show (f k + (cyTo f l0 c0 k).2) / 4294967296 ≤ m
    have : (f k + (cyTo f l0 c0 k).2) / 4294967296 < m + 1 := Nat.div_lt_of_lt_mul (by rw [Nat.mul_comm]; omega)
    omega
theorem zero_w16 : ∀ w, (zeroValue 93).run Tryd.prog w = .ok (.agg (dzeros 16).toArray) w := (zero_of_info (P := Tryd.prog) (t := 93) (v := .agg (dzeros 16).toArray) (n := 16) (by kernel_rfl)).1
theorem size_w16 : (Tryd.prog.info? 93).map (·.size) = some 16 := by kernel_rfl
theorem build_w16 (w : World) : (Instr.build 93 #[]).run Tryd.prog w = .ok (.agg (dzeros 16).toArray) w := by kernel_rfl
/-- The loop over what is beyond 2^256. -/
def foldI (u o : Nat) : Nat := if o = 0 then 0 else if u + 38 * o < mm then 1 else 2
set_option maxRecDepth 100000 in
set_option maxHeartbeats 4000000 in
theorem refFold_over (a r : List Nat) (S : Nat → List Nat) (O : Nat → Nat) (n : Nat) (V : Nat → Nat → Nat → List Nat × Nat) (w : World) (HA : Hid (a.length = 16 ∧ ∀ k, a.getD k 0 < 4294967296)) (HL : Hid (∀ k, (S k).length = 8)) (H0 : Hid (S 0 = [0, 0, 0, 0, 0, 0, 0, 0] ∧ O 0 = 0)) (HS : Hid (∀ k, S (k + 1) = (S k).set k ((a.getD k 0 + 38 * a.getD (8 + k) 0 + O k) % 4294967296) ∧ O (k + 1) = (a.getD k 0 + 38 * a.getD (8 + k) 0 + O k) / 4294967296)) (HO : Hid (∀ k, O k ≤ 38))
    (HU : Hid (∃ u, u < mm ∧ S 8 = nD u ∧ (u + mm * O 8) % pp = n % pp)) (HV : Hid (∀ u o, V u o 0 = (nD u, 38 * o) ∧ (∀ k, (V u o k).1.length = 8) ∧ (∀ k, V u o (k + 1) = ((V u o k).1.set k (((nD u).getD k 0 + (V u o k).2) % 4294967296), ((nD u).getD k 0 + (V u o k).2) / 4294967296)) ∧ ∀ k, (V u o k).1.getD k 0 = (nD u).getD k 0))
    (HC : Hid (∀ u o, u < mm → o ≤ 38 → (∀ k, (V u o k).2 ≤ 1500) ∧ (V u o 8).1 = nD ((u + 38 * o) % mm) ∧ (V u o 8).2 = (u + 38 * o) / mm))
    (CL : Hid (∀ u, u < mm → u % pp = n % pp → ∀ W, Calls Tryd.prog 33 #[numD (nD u)] W fun e w' => e = .returned (numD r) ∧ Below W.heap.size W w')) (HRL : Hid (r.length = 8)) :
    Calls Tryd.prog 66 #[numD a] w fun e w' => e = .returned (numD r) ∧ Below w.heap.size w w' := by
  go_enter Tryd.func66, Tryd.ntmps66
  go_wp2_with (first
    | (refine vtake_step rfl 93 (.tmp 0) rfl (a.map dcell) rfl ?_
       intro w1 hB1 hA1
       try simp only [Act.put, List.setIfInBounds_toArray, List.set_cons_zero, List.set_cons_succ]
       skip)
    | (refine vzero_step (o := ⟨some 2, _, _, _, _, _⟩) rfl 38 rfl (dzeros 8) zero_ND ?_
       intro w3 hb3 hZ3
       have hB3 := below_then hB1 hb3
       have hA3 := hA1.on hb3
       have hg2 := hA1.lt
       clear hB1 hA1 hb3
       try simp only [Act.put, List.setIfInBounds_toArray, List.set_cons_zero, List.set_cons_succ]
       skip)
    | (refine build_step rfl 38 [] rfl [] rfl _ build_ND0 ?_
       try simp only [Act.put, List.setIfInBounds_toArray, List.set_cons_zero, List.set_cons_succ]
       skip)
    | (refine vput_step rfl rfl 38 (.tmp 3) (.tmp 9) rfl rfl 8 (dzeros 8) (dzeros 8) rfl rfl zero_ND rfl size_ND rfl (by rw [dzeros_map]; exact dcells_one _) ?_
       intro w4 hb4 hS4
       have hB4 := below_then hB3 hb4
       have hA4 := hA3.on hb4
       have hZ4 := hZ3.on hb4
       have hg3 := hZ3.lt
       clear hB3 hA3 hZ3 hb4
       try simp only [Act.put, List.setIfInBounds_toArray, List.set_cons_zero, List.set_cons_succ]
       skip))
  generalize hh : w1.heap.size = gz at *
  generalize hi : w3.heap.size = gs at *
  clear hh hi
  go_loopw [4, 5] (fun v i wr => ∃ k : Nat, k ≤ 8 ∧ i = .int .i64 k ∧ v = .int .u64 (O k : Int) ∧ Below w.heap.size w wr ∧ Cells wr w.heap.size (a.map dcell) 93 ∧ Cells wr gz (dzeros 8) 38 ∧ Cells wr gs ((S k).map dcell) 38) (fun _ i _ => 8 - (intOf i).toNat)
  case atStart => exact ⟨0, Nat.zero_le _, rfl, by rw [H0.out.2]; rfl, hB4, hA4, hZ4, by rw [H0.out.1, ← dzeros8]; exact hS4⟩
  case round =>
    clear hB4 hA4 hZ4 hS4
    obtain ⟨k, hk, rfl, rfl, hB, hA, hZ, hS⟩ := hrel
    have HLk := Lib.hid (HL.out k)
    by_cases hlt : k < 8
    · have HN := Lib.hid (HS.out k)
      have ho := HO.out k
      have hp := HA.out.2 k
      have hq := HA.out.2 (8 + k)
      have d1 := hA.get (dat a k (by rw [HA.out.1]; omega))
      have d2 := hA.get (dat a (8 + k) (by rw [HA.out.1]; omega))
      obtain ⟨z, HZ⟩ := namedF (S (k + 1))
      obtain ⟨o2, HO2⟩ := namedF (O (k + 1))
      rw [HZ.out, HO2.out] at HN
      generalize S k = s at *
      generalize O k = o at *
      generalize a.getD k 0 = p at *
      generalize a.getD (8 + k) 0 = q at *
      clear HA HL H0 HS HO HU HV HC CL HRL
      have c1 := u64_id p (by omega)
      have c3 := u64_id q (by omega)
      obtain ⟨x1, hx1⟩ : ∃ x1, x1 = 38 * q := ⟨_, rfl⟩
      have c2 : IntKind.u64.wrap (38 * (q : Int)) = (x1 : Int) := by rw [hx1]; exact wmul 38 q (by omega)
      obtain ⟨x2, hx2⟩ : ∃ x2, x2 = p + x1 := ⟨_, rfl⟩
      have c4 : IntKind.u64.wrap ((p : Int) + (x1 : Int)) = (x2 : Int) := by rw [hx2]; exact wadd p x1 (by omega)
      obtain ⟨x, hx⟩ : ∃ x, x = x2 + o := ⟨_, rfl⟩
      have c5 : IntKind.u64.wrap ((x2 : Int) + (o : Int)) = (x : Int) := by rw [hx]; exact wadd x2 o (by omega)
      have c6 := u32_mod x
      have c7 : (x : Int) / 4294967296 = (o2 : Int) := by rw [HN.out.2, ← hx1, ← hx2, ← hx]; rfl
      have c8 : IntKind.i64.wrap (8 + (k : Int)) = 8 + (k : Int) := IntWalk.i64_in _ (by omega)
      have e9 : (8 + (k : Int)) = ((8 + k : Nat) : Int) := by omega
      have i1 : (0 : Int) ≤ (k : Int) := by omega
      have i2 : (k : Int) < 8 := by omega
      have i3 : (0 : Int) ≤ 8 + (k : Int) := by omega
      have i4 : 8 + (k : Int) < 16 := by omega
      have i5 : (k : Int) < 16 := by omega
      have i6 : (8 + (k : Int)).toNat = 8 + k := by omega
      rw [← hx1, ← hx2, ← hx] at HN
      obtain ⟨v, HV⟩ := namedF (x % 4294967296)
      rw [HV.out] at HN c6
      clear hx1 hx2 hx HV hp hq e9
      go_wp2_with fail
      go_quiet (fail)
      have hB4 : Below w.heap.size w (wr.drewN nq) := ⟨hB.os, hB.tape, hB.output, hB.size, hB.block⟩
      have hA4 := hA.drewN nq
      have hZ4 := hZ.drewN nq
      have hS4 := hS.drewN nq
      generalize wr.drewN nq = w4 at *
      clear hB hA hZ hS d1 d2
      have hT := hS4.there k 1 (by rw [List.length_map, HLk.out]; omega)
      have hE := Lib.hid (hS4.set k (dcell v))
      go_wp2_with (first
        | (refine store_step rfl 36 _ _ rfl gs k .u32 (v : Int) rfl rfl size_w32 hT ?_
           intro w5 hw5
           have hB5 : Below w.heap.size w w5 := by rw [hw5]; exact hB4.setCell (p := ⟨gs, k, none⟩) (by show w.heap.size ≤ gs; omega) _
           have hA5 : Cells w5 w.heap.size (a.map dcell) 93 := by rw [hw5]; exact hA4.other (by show w.heap.size ≠ gs; omega) _
           have hZ5 : Cells w5 gz (dzeros 8) 38 := by rw [hw5]; exact hZ4.other (by show gz ≠ gs; omega) _
           have hS5 : Cells w5 gs (z.map dcell) 38 := by rw [hw5, HN.out.1, ← dset_map]; exact hE.out
           clear hw5 hT hE hB4 hA4 hZ4 hS4))
      go_roundw
      case rel => exact ⟨k + 1, by omega, by go_num, by rw [HO2.out], hB5, hA5, hZ5, by rw [HZ.out]; exact hS5⟩
      case measure => simp [intOf]; omega
    · obtain rfl : k = 8 := by omega
      obtain ⟨u0, hu0, hs0, hm0⟩ := HU.out
      have ho0 := HO.out 8
      rw [hs0] at hS
      generalize O 8 = o0 at *
      clear HL H0 HS HO HU HLk hA HA hs0
      go_wp2_with fail
      go_loopw [4] (fun v wr => ∃ u o : Nat, Hid (u < mm ∧ o ≤ 38 ∧ (u + mm * o) % pp = n % pp) ∧ v = .int .u64 (o : Int) ∧ Below w.heap.size w wr ∧ Cells wr gz (dzeros 8) 38 ∧ Cells wr gs ((nD u).map dcell) 38) (fun v wr => foldI (numAt wr gs) (intOf v).toNat)
      case atStart => exact ⟨u0, o0, ⟨hu0, ho0, hm0⟩, rfl, hB, hZ, hS⟩
      case round =>
        clear hB hZ hS hu0 hm0 ho0
        obtain ⟨u, o, HUO, rfl, hB, hZ, hS⟩ := hrel
        by_cases h0 : 0 < o
        · have HVu := HV.out u o
          have HCu := HC.out u o HUO.out.1 HUO.out.2.1
          have HMS : Hid (foldI (numAt wr gs) o = foldI u o) := by show _ = _; rw [numAt_is hS rfl, pre_nD u HUO.out.1]
          have HDS := Lib.hid (fun k => (nD_D8 u).2 k)
          generalize V u o = vv at *
          obtain ⟨q, HQ⟩ := namedF (nD u)
          rw [HQ.out] at hS HVu HDS
          obtain ⟨hv0, hvl, hvs, hvr⟩ := HVu
          obtain ⟨hcl, hc1, hc2⟩ := HCu
          have HV0 := Lib.hid hv0
          have HVL := Lib.hid hvl
          have HVS := Lib.hid hvs
          have HVR := Lib.hid hvr
          have HCL := Lib.hid hcl
          have HC1 := Lib.hid hc1
          have HC2 := Lib.hid hc2
          have c1 : IntKind.u64.wrap ((o : Int) * 38) = ((38 * o : Nat) : Int) := by
            have := HUO.out.2.1
            rw [Int.mul_comm]; exact wmul 38 o (by omega)
          have i0 : (0 : Int) < (o : Int) := by omega
          clear hv0 hvl hvs hvr hcl hc1 hc2 HV HC CL HRL
          go_wp2_with fail
          go_loopw [7, 8] (fun x i wr => ∃ k : Nat, k ≤ 8 ∧ i = .int .i64 k ∧ x = .int .u64 ((vv k).2 : Int) ∧ Below w.heap.size w wr ∧ Cells wr gz (dzeros 8) 38 ∧ Cells wr gs ((vv k).1.map dcell) 38) (fun _ i _ => 8 - (intOf i).toNat)
          case atStart => exact ⟨0, Nat.zero_le _, rfl, by rw [HV0.out]; rfl, hB, hZ, by rw [HV0.out]; exact hS⟩
          case round =>
            clear hB hZ hS
            obtain ⟨k, hk, rfl, rfl, hB, hZ, hS⟩ := hrel
            have HLk := Lib.hid (HVL.out k)
            by_cases hlt : k < 8
            · have HN := Lib.hid (HVS.out k)
              have hc := HCL.out k
              have hp := HDS.out k
              have d1 := hS.get (dat (vv k).1 k (by rw [HLk.out]; omega))
              rw [HVR.out k] at d1
              have hT := hS.there k 1 (by rw [List.length_map, HLk.out]; omega)
              obtain ⟨z, HZ⟩ := namedF (vv (k + 1))
              rw [HZ.out] at HN
              generalize (vv k).2 = c at *
              generalize (vv k).1 = s at *
              generalize q.getD k 0 = p at *
              have c3 := u64_id p (by omega)
              obtain ⟨x, hx⟩ : ∃ x, x = c + p := ⟨_, rfl⟩
              have c5 : IntKind.u64.wrap ((c : Int) + (p : Int)) = (x : Int) := by rw [hx]; exact wadd c p (by omega)
              rw [Nat.add_comm p c, ← hx] at HN
              have c6 := u32_mod x
              obtain ⟨x3, hx3⟩ : ∃ x3, x3 = x / 4294967296 := ⟨_, rfl⟩
              have c7 : (x : Int) / 4294967296 = (x3 : Int) := by rw [hx3]; rfl
              rw [← hx3] at HN
              obtain ⟨v, HV⟩ := namedF (x % 4294967296)
              rw [HV.out] at HN c6
              have hE := Lib.hid (hS.set k (dcell v))
              have i1 : (0 : Int) ≤ (k : Int) := by omega
              have i2 : (k : Int) < 8 := by omega
              clear hx hx3 HV hp hc HV0 HVL HVS HVR HCL HC1 HC2 HDS
              go_wp2_with (first
                | (refine store_step rfl 36 _ _ rfl gs k .u32 (v : Int) rfl rfl size_w32 hT ?_
                   intro w5 hw5
                   have hB5 : Below w.heap.size w w5 := by rw [hw5]; exact hB.setCell (p := ⟨gs, k, none⟩) (by show w.heap.size ≤ gs; omega) _
                   have hZ5 : Cells w5 gz (dzeros 8) 38 := by rw [hw5]; exact hZ.other (by show gz ≠ gs; omega) _
                   have hS5 : Cells w5 gs (z.1.map dcell) 38 := by rw [hw5, HN.out, ← dset_map]; exact hE.out
                   clear hw5 hT hE hB hZ hS))
              go_roundw
              case rel => exact ⟨_, _, _, _, _, _, _, _, _, _, _, _, _, _, _, _, _, _, ⟨k + 1, by omega, by go_num, by rw [HZ.out, HN.out], hB5, hZ5, by rw [HZ.out]; exact hS5⟩, rfl⟩
              case measure => simp [intOf]; omega
            · obtain rfl : k = 8 := by omega
              rw [HC1.out] at hS
              rw [HC2.out]
              clear HV0 HVL HVS HVR HCL HC1 HC2 HDS HLk
              go_wp2
              go_roundw
              case rel =>
                refine ⟨(u + 38 * o) % mm, (u + 38 * o) / mm, ⟨Nat.mod_lt _ (by decide), ?_, ?_⟩, rfl, hB, hZ, hS⟩
                · have := HUO.out; simp only [mm] at *; omega
                · have h1 := HUO.out.2.2
                  have h2 := Nat.div_add_mod (u + 38 * o) mm
                  have h3 : (u + 38 * o) % mm + mm * ((u + 38 * o) / mm) = u + 38 * o := by omega
                  rw [h3, ← h1, show u + mm * o = (u + 38 * o) + pp * (2 * o) by simp only [mm, pp]; omega, Nat.add_mul_mod_self_left]
              case measure =>
                have h1 := HUO.out
                have h2 : numAt wr gs = (u + 38 * o) % mm := by rw [numAt_is hS rfl, pre_nD _ (Nat.mod_lt _ (by decide))]
                show foldI (numAt wr gs) ((((u + 38 * o) / mm : Nat) : Int)).toNat < foldI _ ((o : Int)).toNat
                rw [Int.toNat_natCast, Int.toNat_natCast, HMS.out, h2]
                simp only [foldI, mm] at *
                (repeat' split) <;> omega
        · obtain rfl : o = 0 := by omega
          have HCL := Lib.hid (CL.out u HUO.out.1 (by have := HUO.out.2.2; rwa [Nat.mul_zero, Nat.add_zero] at this))
          obtain ⟨q, HQ⟩ := namedF (nD u)
          have HQL : Hid (q.length = 8) := by show _ = _; rw [← HQ.out]; rfl
          rw [HQ.out] at hS HCL
          clear HV HC CL HUO
          go_wp2_with (first
            | (refine sget_step rfl 38 (.tmp 3) rfl gs 8 (q.map dcell) rfl hS Tryd.underlying38 rfl size_ND (by rw [List.length_map, HQL.out]) ?_))
          refine (HCL.out wr).mono ?_
          rintro e w6 ⟨rfl, hb6⟩
          have hB6 := below_then hB hb6
          have hZ6 := hZ.on hb6
          clear HCL hB hZ hS hb6
          go_wp2_with (first
            | (refine vset_step rfl 38 _ _ rfl gz 8 (dzeros 8) (r.map dcell) rfl rfl hZ6 rfl size_ND (by rw [List.length_map, HRL.out]) (dcells_one r) ?_
               intro w7 hb7 hC7 _))
          exact sret Tryd.results66 gz (r.map dcell) rfl hC7 Tryd.underlying38 rfl size_ND (by rw [List.length_map, HRL.out]) rfl ⟨rfl, hB6.trans (hb7.below (by omega) hB6.size)⟩
end Go.Proofs.YtagjbdhelfickaaDoor
namespace Go.Proofs.YtagjbdhelfickaaDoor
open Go.RowKit
/-- The first round's sums. -/
def foldF (a : List Nat) (k : Nat) : Nat := a.getD k 0 + 38 * a.getD (8 + k) 0
def foldS (a : List Nat) (k : Nat) : List Nat × Nat := cyTo (foldF a) [0, 0, 0, 0, 0, 0, 0, 0] 0 k
def foldV (u o k : Nat) : List Nat × Nat := cyTo (fun j => (nD u).getD j 0) (nD u) (38 * o) k
theorem foldS_next (a : List Nat) (k : Nat) : (foldS a (k + 1)).1 = (foldS a k).1.set k ((a.getD k 0 + 38 * a.getD (8 + k) 0 + (foldS a k).2) % 4294967296) ∧ (foldS a (k + 1)).2 = (a.getD k 0 + 38 * a.getD (8 + k) 0 + (foldS a k).2) / 4294967296 := by
  rw [foldS, cyTo, foldF, ← foldS]
  exact ⟨rfl, rfl⟩
theorem foldV_next (u o k : Nat) : foldV u o (k + 1) = ((foldV u o k).1.set k (((nD u).getD k 0 + (foldV u o k).2) % 4294967296), ((nD u).getD k 0 + (foldV u o k).2) / 4294967296) := by
  rw [foldV, cyTo, ← foldV]
theorem fold_u (a : List Nat) : ∃ u, u < mm ∧ (foldS a 8).1 = nD u ∧ (u + mm * (foldS a 8).2) % pp = pre a 16 % pp := by
  have hd : D8 (foldS a 8).1 := ⟨cyTo_length _ _ _ 8, cyTo_lt _ _ D8.zeros.2 8⟩
  refine ⟨pre (foldS a 8).1 8, hd.lt, hd.is, ?_⟩
  have h : pre (foldS a 8).1 8 + (foldS a 8).2 * 4294967296 ^ 8 = psum (foldF a) 8 + 0 := cyTo_pre (foldF a) [0, 0, 0, 0, 0, 0, 0, 0] 0 8 (Nat.le_refl _)
  have hF : psum (foldF a) 8 = pre a 8 + 38 * psum (fun j => a.getD (8 + j) 0) 8 := by
    rw [show foldF a = fun k => a.getD k 0 + 38 * a.getD (8 + k) 0 from rfl, psum_add, psum_mul, ← pre_psum]
  have key : ∀ n, pre a (8 + n) = pre a 8 + 4294967296 ^ 8 * psum (fun j => a.getD (8 + j) 0) n := by
    intro n
    induction n with
    | zero => rw [psum, Nat.mul_zero, Nat.add_zero, Nat.add_zero]
    | succ n ih => rw [← Nat.add_assoc, pre, ih, psum, Nat.mul_add, Nat.pow_add, Nat.mul_left_comm, Nat.add_assoc]
  have e := key 8
  rw [hF] at h
  generalize psum (fun j => a.getD (8 + j) 0) 8 = q at *
  rw [show (8 + 8 : Nat) = 16 from rfl] at e
  generalize pre a 16 = x at *
  generalize pre a 8 = y at *
  generalize pre (foldS a 8).1 8 = u at *
  generalize (foldS a 8).2 = o at *
  rw [show (4294967296 : Nat) ^ 8 = mm from by decide] at *
  have e2 : x = (u + mm * o) + pp * (2 * q) := by simp only [mm, pp] at *; omega
  rw [e2, Nat.add_mul_mod_self_left]
theorem fold_c (u o : Nat) (hu : u < mm) (ho : o ≤ 38) : (∀ k, (foldV u o k).2 ≤ 1500) ∧ (foldV u o 8).1 = nD ((u + 38 * o) % mm) ∧ (foldV u o 8).2 = (u + 38 * o) / mm := by
  have hd : D8 (foldV u o 8).1 := ⟨cyTo_length _ _ _ 8, cyTo_lt _ _ (nD_D8 u).2 8⟩
  have h : pre (foldV u o 8).1 8 + (foldV u o 8).2 * 4294967296 ^ 8 = psum (fun j => (nD u).getD j 0) 8 + 38 * o := cyTo_pre (fun k => (nD u).getD k 0) (nD u) (38 * o) 8 (Nat.le_of_eq (nD_length u).symm)
  rw [← pre_psum, pre_nD u hu] at h
  have hlt := hd.lt
  have his := hd.is
  have hle : ∀ k, (foldV u o k).2 ≤ 1500 := cyTo_le (fun k => (nD u).getD k 0) (nD u) (38 * o) 1500 (by omega) (fun k => by have := (nD_D8 u).2 k; omega)
  rw [his]
  generalize pre (foldV u o 8).1 8 = x at *
  generalize (foldV u o 8).2 = c at *
  rw [show (4294967296 : Nat) ^ 8 = mm from by decide] at h
  have e1 : x = (u + 38 * o) % mm ∧ c = (u + 38 * o) / mm := by simp only [mm] at *; omega
  exact ⟨hle, by rw [e1.1], e1.2⟩
theorem foldS_le (a : List Nat) (ha : ∀ k, a.getD k 0 < 4294967296) (k : Nat) : (foldS a k).2 ≤ 38 :=
  cyTo_le (foldF a) [0, 0, 0, 0, 0, 0, 0, 0] 0 38 (Nat.zero_le _) (fun k => by have := ha k; have := ha (8 + k); rw [foldF]; omega) k
theorem foldS_length (a : List Nat) (k : Nat) : (foldS a k).1.length = 8 := cyTo_length _ _ _ k
theorem foldS_zero (a : List Nat) : (foldS a 0).1 = [0, 0, 0, 0, 0, 0, 0, 0] ∧ (foldS a 0).2 = 0 := by rw [foldS, cyTo]; exact ⟨rfl, rfl⟩
theorem foldV_all (u o : Nat) : foldV u o 0 = (nD u, 38 * o) ∧ (∀ k, (foldV u o k).1.length = 8) ∧ (∀ k, foldV u o (k + 1) = ((foldV u o k).1.set k (((nD u).getD k 0 + (foldV u o k).2) % 4294967296), ((nD u).getD k 0 + (foldV u o k).2) / 4294967296)) ∧ ∀ k, (foldV u o k).1.getD k 0 = (nD u).getD k 0 :=
  ⟨by rw [foldV, cyTo], fun k => cyTo_length _ _ _ k, foldV_next u o, fun k => cyTo_ahead _ _ _ k k (Nat.le_refl _)⟩
/-- The document's fold: sixteen words modulo p. -/
theorem refFold_any (a : List Nat) (w : World) (hl : a.length = 16) (ha : ∀ k, a.getD k 0 < 4294967296) : Calls Tryd.prog 66 #[numD a] w fun e w' => e = .returned (numD (nD (pre a 16 % pp))) ∧ Below w.heap.size w w' :=
  refFold_over a (nD (pre a 16 % pp)) (fun k => (foldS a k).1) (fun k => (foldS a k).2) (pre a 16) foldV w ⟨hl, ha⟩ (foldS_length a) (foldS_zero a) (foldS_next a) (foldS_le a ha) (fold_u a) foldV_all fold_c
    (fun u hu hm W => by rw [← hm]; exact refLeast_any u W hu) (nD_length _)
end Go.Proofs.YtagjbdhelfickaaDoor
namespace Go.Proofs.YtagjbdhelfickaaDoor
open Go.RowKit
def z16 : List Nat := [0, 0, 0, 0, 0, 0, 0, 0, 0, 0, 0, 0, 0, 0, 0, 0]
theorem dzeros16 : dzeros 16 = z16.map dcell := rfl
theorem z16_zero (k : Nat) : z16.getD k 0 = 0 := by
  rcases Nat.lt_or_ge k 16 with h | h
  · rw [show z16 = List.replicate 16 0 from rfl, List.getD_eq_getElem?_getD, List.getElem?_replicate]
    simp [h]
  · rw [List.getD_eq_getElem?_getD, List.getElem?_eq_none (show z16.length ≤ k from h)]; rfl
theorem pre_over (l : List Nat) (m : Nat) (h : ∀ j, m ≤ j → l.getD j 0 = 0) : ∀ n, pre l (m + n) = pre l m
  | 0 => rfl
  | n + 1 => by rw [← Nat.add_assoc, pre, pre_over l m h n, h (m + n) (by omega), Nat.zero_mul, Nat.add_zero]
set_option maxRecDepth 100000 in
set_option maxHeartbeats 2000000 in
theorem refAdd_over (a b r q : List Nat) (S : Nat → List Nat) (O : Nat → Nat) (w : World) (HA : Hid (a.length = 8 ∧ ∀ k, a.getD k 0 < 4294967296)) (HB : Hid (b.length = 8 ∧ ∀ k, b.getD k 0 < 4294967296)) (HL : Hid (∀ k, (S k).length = 16)) (H0 : Hid (S 0 = z16 ∧ O 0 = 0)) (HS : Hid (∀ k, S (k + 1) = (S k).set k ((a.getD k 0 + b.getD k 0 + O k) % 4294967296) ∧ O (k + 1) = (a.getD k 0 + b.getD k 0 + O k) / 4294967296)) (HO : Hid (∀ k, O k ≤ 1)) (HQ : Hid (q = (S 8).set 8 (O 8))) (HQL : Hid (q.length = 16))
    (CF : Hid (∀ W, Calls Tryd.prog 66 #[numD q] W fun e w' => e = .returned (numD r) ∧ Below W.heap.size W w')) (HRL : Hid (r.length = 8)) :
    Calls Tryd.prog 39 #[numD a, numD b] w fun e w' => e = .returned (numD r) ∧ Below w.heap.size w w' := by
  go_enter Tryd.func39, Tryd.ntmps39
  go_wp2_with (first
    | (refine vtake_step rfl 38 (.tmp 0) rfl (a.map dcell) rfl ?_
       intro w1 hB1 hA1
       try simp only [Act.put, List.setIfInBounds_toArray, List.set_cons_zero, List.set_cons_succ]
       skip)
    | (refine vtake_step rfl 38 (.tmp 1) rfl (b.map dcell) rfl ?_
       intro w2 hb2 hC2
       have hB2 := below_then hB1 hb2
       have hA2 := hA1.on hb2
       have hg1 := hA1.lt
       clear hB1 hA1 hb2
       try simp only [Act.put, List.setIfInBounds_toArray, List.set_cons_zero, List.set_cons_succ]
       skip)
    | (refine vzero_step (o := ⟨some 4, _, _, _, _, _⟩) rfl 38 rfl (dzeros 8) zero_ND ?_
       intro w3 hb3 hZ3
       have hB3 := below_then hB2 hb3
       have hA3 := hA2.on hb3
       have hC3 := hC2.on hb3
       have hg2 := hC2.lt
       clear hB2 hA2 hC2 hb3
       try simp only [Act.put, List.setIfInBounds_toArray, List.set_cons_zero, List.set_cons_succ]
       skip)
    | (refine build_step rfl 93 [] rfl [] rfl _ build_w16 ?_
       try simp only [Act.put, List.setIfInBounds_toArray, List.set_cons_zero, List.set_cons_succ]
       skip)
    | (refine vput_step rfl rfl 93 (.tmp 5) (.tmp 9) rfl rfl 16 (dzeros 16) (dzeros 16) rfl rfl zero_w16 rfl size_w16 rfl (by rw [dzeros_map]; exact dcells_one _) ?_
       intro w4 hb4 hS4
       have hB4 := below_then hB3 hb4
       have hA4 := hA3.on hb4
       have hC4 := hC3.on hb4
       have hZ4 := hZ3.on hb4
       have hg3 := hZ3.lt
       clear hB3 hA3 hC3 hZ3 hb4
       try simp only [Act.put, List.setIfInBounds_toArray, List.set_cons_zero, List.set_cons_succ]
       skip))
  generalize hg : w1.heap.size = gb at *
  generalize hh : w2.heap.size = gz at *
  generalize hi : w3.heap.size = gs at *
  clear hg hh hi
  go_loopw [6, 7] (fun v i wr => ∃ k : Nat, k ≤ 8 ∧ i = .int .i64 k ∧ v = .int .u64 (O k : Int) ∧ Below w.heap.size w wr ∧ Cells wr w.heap.size (a.map dcell) 38 ∧ Cells wr gb (b.map dcell) 38 ∧ Cells wr gz (dzeros 8) 38 ∧ Cells wr gs ((S k).map dcell) 93) (fun _ i _ => 8 - (intOf i).toNat)
  case atStart => exact ⟨0, Nat.zero_le _, rfl, by rw [H0.out.2]; rfl, hB4, hA4, hC4, hZ4, by rw [H0.out.1, ← dzeros16]; exact hS4⟩
  case round =>
    clear hB4 hA4 hC4 hZ4 hS4
    obtain ⟨k, hk, rfl, rfl, hB, hA, hC, hZ, hS⟩ := hrel
    have HLk := Lib.hid (HL.out k)
    by_cases hlt : k < 8
    · have HN := Lib.hid (HS.out k)
      have ho := HO.out k
      have hp := HA.out.2 k
      have hq := HB.out.2 k
      have d1 := hA.get (dat a k (by rw [HA.out.1]; omega))
      have d2 := hC.get (dat b k (by rw [HB.out.1]; omega))
      obtain ⟨z, HZ⟩ := namedF (S (k + 1))
      obtain ⟨o2, HO2⟩ := namedF (O (k + 1))
      rw [HZ.out, HO2.out] at HN
      generalize S k = s at *
      generalize O k = o at *
      generalize a.getD k 0 = p at *
      generalize b.getD k 0 = y at *
      clear HA HB HL H0 HS HO HQ HQL CF HRL
      have c1 := u64_id p (by omega)
      have c3 := u64_id y (by omega)
      obtain ⟨x2, hx2⟩ : ∃ x2, x2 = p + y := ⟨_, rfl⟩
      have c4 : IntKind.u64.wrap ((p : Int) + (y : Int)) = (x2 : Int) := by rw [hx2]; exact wadd p y (by omega)
      obtain ⟨x, hx⟩ : ∃ x, x = x2 + o := ⟨_, rfl⟩
      have c5 : IntKind.u64.wrap ((x2 : Int) + (o : Int)) = (x : Int) := by rw [hx]; exact wadd x2 o (by omega)
      have c6 := u32_mod x
      have c7 : (x : Int) / 4294967296 = (o2 : Int) := by rw [HN.out.2, ← hx2, ← hx]; rfl
      rw [← hx2, ← hx] at HN
      obtain ⟨v, HV⟩ := namedF (x % 4294967296)
      rw [HV.out] at HN c6
      clear hx2 hx HV hp hq
      have i1 : (0 : Int) ≤ (k : Int) := by omega
      have i2 : (k : Int) < 16 := by omega
      go_wp2_with fail
      go_quiet (fail)
      have hB4 : Below w.heap.size w (wr.drewN nq) := ⟨hB.os, hB.tape, hB.output, hB.size, hB.block⟩
      have hA4 := hA.drewN nq
      have hC4 := hC.drewN nq
      have hZ4 := hZ.drewN nq
      have hS4 := hS.drewN nq
      generalize wr.drewN nq = w4 at *
      clear hB hA hC hZ hS d1 d2
      have hT := hS4.there k 1 (by rw [List.length_map, HLk.out]; omega)
      have hE := Lib.hid (hS4.set k (dcell v))
      go_wp2_with (first
        | (refine store_step rfl 36 _ _ rfl gs k .u32 (v : Int) rfl rfl size_w32 hT ?_
           intro w5 hw5
           have hB5 : Below w.heap.size w w5 := by rw [hw5]; exact hB4.setCell (p := ⟨gs, k, none⟩) (by show w.heap.size ≤ gs; omega) _
           have hA5 : Cells w5 w.heap.size (a.map dcell) 38 := by rw [hw5]; exact hA4.other (by show w.heap.size ≠ gs; omega) _
           have hC5 : Cells w5 gb (b.map dcell) 38 := by rw [hw5]; exact hC4.other (by show gb ≠ gs; omega) _
           have hZ5 : Cells w5 gz (dzeros 8) 38 := by rw [hw5]; exact hZ4.other (by show gz ≠ gs; omega) _
           have hS5 : Cells w5 gs (z.map dcell) 93 := by rw [hw5, HN.out.1, ← dset_map]; exact hE.out
           clear hw5 hT hE hB4 hA4 hC4 hZ4 hS4))
      go_roundw
      case rel => exact ⟨k + 1, by omega, by go_num, by rw [HO2.out], hB5, hA5, hC5, hZ5, by rw [HZ.out]; exact hS5⟩
      case measure => simp [intOf]; omega
    · obtain rfl : k = 8 := by omega
      have ho := HO.out 8
      generalize S 8 = s at *
      generalize O 8 = o at *
      have c6 : IntKind.u32.wrap (o : Int) = (o : Int) := by rw [u32_mod]; omega
      have hT := hS.there 8 1 (by rw [List.length_map, HLk.out]; omega)
      have hE : Hid (Cells (wr.setCell ⟨gs, 8, none⟩ (dcell o)) gs (q.map dcell) 93) := by rw [HQ.out, ← dset_map]; exact hS.set 8 (dcell o)
      clear HA HB HL H0 HS HO HQ HLk hA hC ho
      go_wp2_with (first
        | (refine store_step rfl 36 _ _ rfl gs 8 .u32 (o : Int) rfl rfl size_w32 hT ?_
           intro w5 hw5
           have hB5 : Below w.heap.size w w5 := by rw [hw5]; exact hB.setCell (p := ⟨gs, 8, none⟩) (by show w.heap.size ≤ gs; omega) _
           have hZ5 : Cells w5 gz (dzeros 8) 38 := by rw [hw5]; exact hZ.other (by show gz ≠ gs; omega) _
           have hS5 : Cells w5 gs (q.map dcell) 93 := by rw [hw5]; exact hE.out
           clear hw5 hT hE hB hZ hS)
        | (refine sget_step rfl 93 (.tmp 5) rfl gs 16 (q.map dcell) rfl hS5 Tryd.underlying93 rfl size_w16 (by rw [List.length_map, HQL.out]) ?_))
      refine (CF.out w5).mono ?_
      rintro e w6 ⟨rfl, hb6⟩
      have hB6 := below_then hB5 hb6
      have hZ6 := hZ5.on hb6
      clear CF hB5 hZ5 hS5 hb6
      go_wp2_with (first
        | (refine vset_step rfl 38 _ _ rfl gz 8 (dzeros 8) (r.map dcell) rfl rfl hZ6 rfl size_ND (by rw [List.length_map, HRL.out]) (dcells_one r) ?_
           intro w7 hb7 hC7 _))
      exact sret Tryd.results39 gz (r.map dcell) rfl hC7 Tryd.underlying38 rfl size_ND (by rw [List.length_map, HRL.out]) rfl ⟨rfl, hB6.trans (hb7.below (by omega) hB6.size)⟩
def addS (a b : List Nat) (k : Nat) : List Nat × Nat := cyTo (fun j => a.getD j 0 + b.getD j 0) z16 0 k
theorem addS_next (a b : List Nat) (k : Nat) : (addS a b (k + 1)).1 = (addS a b k).1.set k ((a.getD k 0 + b.getD k 0 + (addS a b k).2) % 4294967296) ∧ (addS a b (k + 1)).2 = (a.getD k 0 + b.getD k 0 + (addS a b k).2) / 4294967296 := by
  rw [addS, cyTo, ← addS]
  exact ⟨rfl, rfl⟩
theorem addS_zero (a b : List Nat) : (addS a b 0).1 = z16 ∧ (addS a b 0).2 = 0 := by rw [addS, cyTo]; exact ⟨rfl, rfl⟩
theorem addS_length (a b : List Nat) (k : Nat) : (addS a b k).1.length = 16 := cyTo_length _ _ _ k
theorem addS_le {a b : List Nat} (ha : ∀ k, a.getD k 0 < 4294967296) (hb : ∀ k, b.getD k 0 < 4294967296) (k : Nat) : (addS a b k).2 ≤ 1 :=
  cyTo_le _ _ _ 1 (Nat.zero_le _) (fun k => by have := ha k; have := hb k; omega) k
theorem addS_lt (a b : List Nat) : ∀ k, (addS a b 8).1.getD k 0 < 4294967296 := cyTo_lt _ 0 (fun k => by rw [z16_zero]; decide) 8
theorem addS_val (a b : List Nat) : pre ((addS a b 8).1.set 8 (addS a b 8).2) 16 = pre a 8 + pre b 8 := by
  have h : pre (addS a b 8).1 8 + (addS a b 8).2 * 4294967296 ^ 8 = psum (fun j => a.getD j 0 + b.getD j 0) 8 + 0 := cyTo_pre _ z16 0 8 (by decide)
  rw [psum_add, ← pre_psum, ← pre_psum, Nat.add_zero] at h
  have h0 : ∀ j, 9 ≤ j → ((addS a b 8).1.set 8 (addS a b 8).2).getD j 0 = 0 := fun j hj => by
    rw [getD_set_neN _ _ _ _ (by omega), addS, cyTo_ahead _ _ _ 8 j (by omega), z16_zero]
  rw [show 16 = 9 + 7 from rfl, pre_over _ 9 h0 7, pre_set _ 8 _ (by rw [addS_length]; decide), h]
theorem refAdd_any (n m : Nat) (w : World) (hn : n < mm) (hm : m < mm) : Calls Tryd.prog 39 #[numD (nD n), numD (nD m)] w fun e w' => e = .returned (numD (nD ((n + m) % pp))) ∧ Below w.heap.size w w' := by
  have hq := addS_val (nD n) (nD m)
  rw [pre_nD n hn, pre_nD m hm] at hq
  have hl : ((addS (nD n) (nD m) 8).1.set 8 (addS (nD n) (nD m) 8).2).length = 16 := by rw [List.length_set, addS_length]
  have hlt := set_lt (addS_lt (nD n) (nD m)) 8 _ (Nat.lt_of_le_of_lt (addS_le (nD_D8 n).2 (nD_D8 m).2 8) (by decide))
  refine refAdd_over (nD n) (nD m) (nD ((n + m) % pp)) _ (fun k => (addS (nD n) (nD m) k).1) (fun k => (addS (nD n) (nD m) k).2) w (nD_D8 n) (nD_D8 m) (addS_length _ _) (addS_zero _ _) (addS_next _ _) (addS_le (nD_D8 n).2 (nD_D8 m).2) rfl hl (fun W => ?_) (nD_length _)
  have h := refFold_any _ W hl hlt
  rw [hq] at h
  exact h
end Go.Proofs.YtagjbdhelfickaaDoor
namespace Go.Proofs.YtagjbdhelfickaaDoor
open Go.RowKit
set_option maxRecDepth 100000 in
set_option maxHeartbeats 4000000 in
theorem refTimes_over (a b r q : List Nat) (S : Nat → List Nat) (V : Nat → Nat → List Nat × Nat) (w : World) (HA : Hid (a.length = 8 ∧ ∀ k, a.getD k 0 < 4294967296)) (HB : Hid (b.length = 8 ∧ ∀ k, b.getD k 0 < 4294967296)) (H0 : Hid (S 0 = z16))
    (HV0 : Hid (∀ i, V i 0 = (S i, 0))) (HVL : Hid (∀ i k, (V i k).1.length = 16 ∧ (∀ j, (V i k).1.getD j 0 < 4294967296) ∧ (V i k).2 < 4294967296)) (HVS : Hid (∀ i k, V i (k + 1) = ((V i k).1.set (i + k) ((a.getD i 0 * b.getD k 0 + (V i k).1.getD (i + k) 0 + (V i k).2) % 4294967296), (a.getD i 0 * b.getD k 0 + (V i k).1.getD (i + k) 0 + (V i k).2) / 4294967296)))
    (HS : Hid (∀ i, S (i + 1) = (V i 8).1.set (i + 8) (V i 8).2)) (HQ : Hid (S 8 = q)) (HQL : Hid (q.length = 16))
    (CF : Hid (∀ W, Calls Tryd.prog 66 #[numD q] W fun e w' => e = .returned (numD r) ∧ Below W.heap.size W w')) (HRL : Hid (r.length = 8)) :
    Calls Tryd.prog 34 #[numD a, numD b] w fun e w' => e = .returned (numD r) ∧ Below w.heap.size w w' := by
  go_enter Tryd.func34, Tryd.ntmps34
  go_wp2_with (first
    | (refine vtake_step rfl 38 (.tmp 0) rfl (a.map dcell) rfl ?_
       intro w1 hB1 hA1
       try simp only [Act.put, List.setIfInBounds_toArray, List.set_cons_zero, List.set_cons_succ]
       skip)
    | (refine vtake_step rfl 38 (.tmp 1) rfl (b.map dcell) rfl ?_
       intro w2 hb2 hC2
       have hB2 := below_then hB1 hb2
       have hA2 := hA1.on hb2
       have hg1 := hA1.lt
       clear hB1 hA1 hb2
       try simp only [Act.put, List.setIfInBounds_toArray, List.set_cons_zero, List.set_cons_succ]
       skip)
    | (refine vzero_step (o := ⟨some 4, _, _, _, _, _⟩) rfl 38 rfl (dzeros 8) zero_ND ?_
       intro w3 hb3 hZ3
       have hB3 := below_then hB2 hb3
       have hA3 := hA2.on hb3
       have hC3 := hC2.on hb3
       have hg2 := hC2.lt
       clear hB2 hA2 hC2 hb3
       try simp only [Act.put, List.setIfInBounds_toArray, List.set_cons_zero, List.set_cons_succ]
       skip)
    | (refine build_step rfl 93 [] rfl [] rfl _ build_w16 ?_
       try simp only [Act.put, List.setIfInBounds_toArray, List.set_cons_zero, List.set_cons_succ]
       skip)
    | (refine vput_step rfl rfl 93 (.tmp 5) (.tmp 10) rfl rfl 16 (dzeros 16) (dzeros 16) rfl rfl zero_w16 rfl size_w16 rfl (by rw [dzeros_map]; exact dcells_one _) ?_
       intro w4 hb4 hS4
       have hB4 := below_then hB3 hb4
       have hA4 := hA3.on hb4
       have hC4 := hC3.on hb4
       have hZ4 := hZ3.on hb4
       have hg3 := hZ3.lt
       clear hB3 hA3 hC3 hZ3 hb4
       try simp only [Act.put, List.setIfInBounds_toArray, List.set_cons_zero, List.set_cons_succ]
       skip))
  generalize hg : w1.heap.size = gb at *
  generalize hh : w2.heap.size = gz at *
  generalize hi : w3.heap.size = gs at *
  clear hg hh hi
  go_loopw [6] (fun i wr => ∃ k : Nat, k ≤ 8 ∧ i = .int .i64 k ∧ Below w.heap.size w wr ∧ Cells wr w.heap.size (a.map dcell) 38 ∧ Cells wr gb (b.map dcell) 38 ∧ Cells wr gz (dzeros 8) 38 ∧ Cells wr gs ((S k).map dcell) 93) (fun i _ => 8 - (intOf i).toNat)
  case atStart => exact ⟨0, Nat.zero_le _, rfl, hB4, hA4, hC4, hZ4, by rw [H0.out, ← dzeros16]; exact hS4⟩
  case round =>
    clear hB4 hA4 hC4 hZ4 hS4
    obtain ⟨i, hi, rfl, hB, hA, hC, hZ, hS⟩ := hrel
    by_cases hil : i < 8
    · have HVi0 := Lib.hid (HV0.out i)
      have HVLi := Lib.hid (HVL.out i)
      have HVSi := Lib.hid (HVS.out i)
      have HSi := Lib.hid (HS.out i)
      have hai := HA.out.2 i
      have HAI := Lib.hid (dat a i (by rw [HA.out.1]; exact hil))
      obtain ⟨nx, HNX⟩ := namedF (S (i + 1))
      rw [HNX.out] at HSi
      generalize V i = vv at *
      generalize S i = s0 at *
      generalize a.getD i 0 = p at *
      have hpI : (i : Int) < 8 := by omega
      clear HV0 HVL HVS HS HQ HQL CF HRL H0
      go_wp2_with fail
      try rw [show decide ((i : Int) < 8) = true by simp; omega]
      go_loopw [7, 8] (fun v k wr => ∃ n : Nat, n ≤ 8 ∧ k = .int .i64 n ∧ v = .int .u64 ((vv n).2 : Int) ∧ Below w.heap.size w wr ∧ Cells wr w.heap.size (a.map dcell) 38 ∧ Cells wr gb (b.map dcell) 38 ∧ Cells wr gz (dzeros 8) 38 ∧ Cells wr gs ((vv n).1.map dcell) 93) (fun _ k _ => 8 - (intOf k).toNat)
      case atStart => exact ⟨0, Nat.zero_le _, rfl, by rw [HVi0.out]; rfl, hB, hA, hC, hZ, by rw [HVi0.out]; exact hS⟩
      case round =>
        clear hB hA hC hZ hS
        obtain ⟨k, hk, rfl, rfl, hB, hA, hC, hZ, hS⟩ := hrel
        have HLk := Lib.hid (HVLi.out k).1
        by_cases hlt : k < 8
        · have HN := Lib.hid (HVSi.out k)
          have ho := (HVLi.out k).2.2
          have hq := (HVLi.out k).2.1 (i + k)
          have hy := HB.out.2 k
          have d1 := hA.get HAI.out
          have d2 := hC.get (dat b k (by rw [HB.out.1]; omega))
          have d3 := hS.get (dat (vv k).1 (i + k) (by rw [HLk.out]; omega))
          obtain ⟨z, HZ⟩ := namedF (vv (k + 1))
          rw [HZ.out] at HN
          generalize (vv k).2 = o at *
          generalize (vv k).1 = s at *
          generalize b.getD k 0 = y at *
          generalize s.getD (i + k) 0 = u at *
          have hm : p * y ≤ 4294967295 * 4294967295 := Nat.mul_le_mul (by omega) (by omega)
          have c1 := u64_id p (by omega)
          have c3 := u64_id y (by omega)
          have c2 := u64_id u (by omega)
          obtain ⟨x1, hx1⟩ : ∃ x1, x1 = p * y := ⟨_, rfl⟩
          have c4 : IntKind.u64.wrap ((p : Int) * (y : Int)) = (x1 : Int) := by rw [hx1]; exact wmul p y (by omega)
          rw [← hx1] at hm HN
          obtain ⟨x2, hx2⟩ : ∃ x2, x2 = x1 + u := ⟨_, rfl⟩
          have c5 : IntKind.u64.wrap ((x1 : Int) + (u : Int)) = (x2 : Int) := by rw [hx2]; exact wadd x1 u (by omega)
          obtain ⟨x, hx⟩ : ∃ x, x = x2 + o := ⟨_, rfl⟩
          have c7 : IntKind.u64.wrap ((x2 : Int) + (o : Int)) = (x : Int) := by rw [hx]; exact wadd x2 o (by omega)
          have c6 := u32_mod x
          rw [← hx2, ← hx] at HN
          obtain ⟨x3, hx3⟩ : ∃ x3, x3 = x / 4294967296 := ⟨_, rfl⟩
          have c8 : (x : Int) / 4294967296 = (x3 : Int) := by rw [hx3]; rfl
          rw [← hx3] at HN
          obtain ⟨v, HV⟩ := namedF (x % 4294967296)
          rw [HV.out] at HN c6
          have c9 : IntKind.i64.wrap ((i : Int) + (k : Int)) = (i : Int) + (k : Int) := IntWalk.i64_in _ (by omega)
          have i1 : (0 : Int) ≤ (k : Int) := by omega
          have i2 : (k : Int) < 8 := by omega
          have i3 : (0 : Int) ≤ (i : Int) + (k : Int) := by omega
          have i4 : (i : Int) + (k : Int) < 16 := by omega
          have i5 : ((i : Int) + (k : Int)).toNat = i + k := by omega
          have i6 : (0 : Int) ≤ (i : Int) := by omega
          clear hx1 hx2 hx hx3 HV hq hy ho hm HVi0 HVLi HVSi HSi
          go_wp2_with fail
          go_quiet (fail)
          have hB4 : Below w.heap.size w (wr.drewN nq) := ⟨hB.os, hB.tape, hB.output, hB.size, hB.block⟩
          have hA4 := hA.drewN nq
          have hC4 := hC.drewN nq
          have hZ4 := hZ.drewN nq
          have hS4 := hS.drewN nq
          generalize wr.drewN nq = w4 at *
          clear hB hA hC hZ hS d1 d2 d3
          have hT := hS4.there (i + k) 1 (by rw [List.length_map, HLk.out]; omega)
          have hE := Lib.hid (hS4.set (i + k) (dcell v))
          go_wp2_with (first
            | (refine store_step rfl 36 _ _ rfl gs (i + k) .u32 (v : Int) rfl rfl size_w32 hT ?_
               intro w5 hw5
               have hB5 : Below w.heap.size w w5 := by rw [hw5]; exact hB4.setCell (p := ⟨gs, i + k, none⟩) (by show w.heap.size ≤ gs; omega) _
               have hA5 : Cells w5 w.heap.size (a.map dcell) 38 := by rw [hw5]; exact hA4.other (by show w.heap.size ≠ gs; omega) _
               have hC5 : Cells w5 gb (b.map dcell) 38 := by rw [hw5]; exact hC4.other (by show gb ≠ gs; omega) _
               have hZ5 : Cells w5 gz (dzeros 8) 38 := by rw [hw5]; exact hZ4.other (by show gz ≠ gs; omega) _
               have hS5 : Cells w5 gs (z.1.map dcell) 93 := by rw [hw5, HN.out, ← dset_map]; exact hE.out
               clear hw5 hT hE hB4 hA4 hC4 hZ4 hS4))
          go_roundw
          case rel => first | exact ⟨k + 1, by omega, by go_num, by rw [HZ.out, HN.out], hB5, hA5, hC5, hZ5, by rw [HZ.out]; exact hS5⟩ | trace_state
          case measure => simp [intOf]; omega
        · obtain rfl : k = 8 := by omega
          have ho := (HVLi.out 8).2.2
          generalize (vv 8).2 = o at *
          generalize (vv 8).1 = s at *
          have c6 : IntKind.u32.wrap (o : Int) = (o : Int) := by rw [u32_mod]; omega
          have c9 : IntKind.i64.wrap ((i : Int) + 8) = (i : Int) + 8 := IntWalk.i64_in _ (by omega)
          have i3 : (0 : Int) ≤ (i : Int) + 8 := by omega
          have i4 : (i : Int) + 8 < 16 := by omega
          have i5 : ((i : Int) + 8).toNat = i + 8 := by omega
          have i6 : (0 : Int) ≤ (i : Int) := by omega
          have i7 : IntKind.i64.wrap ((i : Int) + 1) = (i : Int) + 1 := IntWalk.i64_in _ (by omega)
          have hT := hS.there (i + 8) 1 (by rw [List.length_map, HLk.out]; omega)
          have hE := Lib.hid (hS.set (i + 8) (dcell o))
          clear HVi0 HVLi HVSi ho
          go_wp2_with (first
            | (refine store_step rfl 36 _ _ rfl gs (i + 8) .u32 (o : Int) rfl rfl size_w32 hT ?_
               intro w5 hw5
               have hB5 : Below w.heap.size w w5 := by rw [hw5]; exact hB.setCell (p := ⟨gs, i + 8, none⟩) (by show w.heap.size ≤ gs; omega) _
               have hA5 : Cells w5 w.heap.size (a.map dcell) 38 := by rw [hw5]; exact hA.other (by show w.heap.size ≠ gs; omega) _
               have hC5 : Cells w5 gb (b.map dcell) 38 := by rw [hw5]; exact hC.other (by show gb ≠ gs; omega) _
               have hZ5 : Cells w5 gz (dzeros 8) 38 := by rw [hw5]; exact hZ.other (by show gz ≠ gs; omega) _
               have hS5 : Cells w5 gs (nx.map dcell) 93 := by rw [hw5, HSi.out, ← dset_map]; exact hE.out
               clear hw5 hT hE hB hA hC hZ hS))
          go_roundw
          case rel => first | exact ⟨i + 1, by omega, by go_num, hB5, hA5, hC5, hZ5, by rw [HNX.out]; exact hS5⟩ | trace_state
          case measure => simp [intOf]; omega
    · obtain rfl : i = 8 := by omega
      rw [HQ.out] at hS
      clear HA HB H0 HV0 HVL HVS HS HQ hA hC
      go_wp2_with (first
        | (refine sget_step rfl 93 (.tmp 5) rfl gs 16 (q.map dcell) rfl hS Tryd.underlying93 rfl size_w16 (by rw [List.length_map, HQL.out]) ?_))
      refine (CF.out wr).mono ?_
      rintro e w6 ⟨rfl, hb6⟩
      have hB6 := below_then hB hb6
      have hZ6 := hZ.on hb6
      clear CF hB hZ hS hb6
      go_wp2_with (first
        | (refine vset_step rfl 38 _ _ rfl gz 8 (dzeros 8) (r.map dcell) rfl rfl hZ6 rfl size_ND (by rw [List.length_map, HRL.out]) (dcells_one r) ?_
           intro w7 hb7 hC7 _))
      exact sret Tryd.results34 gz (r.map dcell) rfl hC7 Tryd.underlying38 rfl size_ND (by rw [List.length_map, HRL.out]) rfl ⟨rfl, hB6.trans (hb7.below (by omega) hB6.size)⟩
end Go.Proofs.YtagjbdhelfickaaDoor
namespace Go.Proofs.YtagjbdhelfickaaDoor
open Go.RowKit
def rowV (a b s0 : List Nat) (i : Nat) : Nat → List Nat × Nat
  | 0 => (s0, 0)
  | k + 1 => ((rowV a b s0 i k).1.set (i + k) ((a.getD i 0 * b.getD k 0 + (rowV a b s0 i k).1.getD (i + k) 0 + (rowV a b s0 i k).2) % 4294967296), (a.getD i 0 * b.getD k 0 + (rowV a b s0 i k).1.getD (i + k) 0 + (rowV a b s0 i k).2) / 4294967296)
def rowS (a b : List Nat) : Nat → List Nat
  | 0 => z16
  | i + 1 => (rowV a b (rowS a b i) i 8).1.set (i + 8) (rowV a b (rowS a b i) i 8).2
theorem rowV_length (a b s0 : List Nat) (i : Nat) : ∀ k, (rowV a b s0 i k).1.length = s0.length
  | 0 => rfl
  | k + 1 => by rw [rowV, List.length_set, rowV_length]
theorem rowV_lt {a b s0 : List Nat} (ha : ∀ k, a.getD k 0 < 4294967296) (hb : ∀ k, b.getD k 0 < 4294967296) (hs : ∀ k, s0.getD k 0 < 4294967296) (i : Nat) : ∀ k, (∀ j, (rowV a b s0 i k).1.getD j 0 < 4294967296) ∧ (rowV a b s0 i k).2 < 4294967296
  | 0 => ⟨hs, show (0 : Nat) < 4294967296 by decide⟩
  | k + 1 => by
    obtain ⟨h1, h2⟩ := rowV_lt ha hb hs i k
    rw [rowV]
    refine ⟨set_lt h1 _ _ (Nat.mod_lt _ (by decide)), ?_⟩
    have h3 := h1 (i + k)
    have hm : a.getD i 0 * b.getD k 0 ≤ 4294967295 * 4294967295 := Nat.mul_le_mul (by have := ha i; omega) (by have := hb k; omega)
    show (a.getD i 0 * b.getD k 0 + (rowV a b s0 i k).1.getD (i + k) 0 + (rowV a b s0 i k).2) / 4294967296 < 4294967296
    omega
theorem rowV_ahead (a b s0 : List Nat) (i j : Nat) : ∀ k, i + k ≤ j → (rowV a b s0 i k).1.getD j 0 = s0.getD j 0
  | 0, _ => rfl
  | k + 1, h => by rw [rowV, getD_set_neN _ _ _ _ (by omega), rowV_ahead a b s0 i j k (by omega)]
theorem pre_set_all (l : List Nat) (j v : Nat) (hl : j < l.length) : ∀ n, j < n → pre (l.set j v) n + l.getD j 0 * 4294967296 ^ j = pre l n + v * 4294967296 ^ j
  | 0, h => by omega
  | n + 1, h => by
    rcases Nat.lt_or_ge j n with h1 | h1
    · have ih := pre_set_all l j v hl n h1
      rw [pre, pre, getD_set_neN _ _ _ _ (by omega)]
      omega
    · obtain rfl : j = n := by omega
      rw [pre_set l j v hl, pre]; omega
theorem rowV_next (a b s0 : List Nat) (i k : Nat) : rowV a b s0 i (k + 1) = ((rowV a b s0 i k).1.set (i + k) ((a.getD i 0 * b.getD k 0 + (rowV a b s0 i k).1.getD (i + k) 0 + (rowV a b s0 i k).2) % 4294967296), (a.getD i 0 * b.getD k 0 + (rowV a b s0 i k).1.getD (i + k) 0 + (rowV a b s0 i k).2) / 4294967296) := by rw [rowV]
theorem pre_next (l : List Nat) (k : Nat) : pre l (k + 1) = pre l k + l.getD k 0 * 4294967296 ^ k := by rw [pre]
theorem row_step (n p t u c d x E : Nat) (h1 : n + u * E = p + x % 4294967296 * E) (h2 : p + c * E = t) (hx : x = d + u + c) : n + x / 4294967296 * (E * 4294967296) = t + d * E := by
  have e := Nat.div_add_mod x 4294967296
  have e2 : (4294967296 * (x / 4294967296) + x % 4294967296) * E = (d + u + c) * E := by rw [e, hx]
  have e3 : x / 4294967296 * (E * 4294967296) = 4294967296 * (x / 4294967296) * E := by rw [Nat.mul_comm E, ← Nat.mul_assoc, Nat.mul_comm (x / 4294967296)]
  rw [Nat.add_mul, Nat.add_mul, Nat.add_mul] at e2
  omega
theorem row_part (p q E F : Nat) : p * (q * E) * F = p * q * (F * E) := by rw [Nat.mul_comm F, ← Nat.mul_assoc, ← Nat.mul_assoc]
theorem rowV_pre (a b s0 : List Nat) (i : Nat) (hl : s0.length = 16) : ∀ k, i + k ≤ 16 → pre (rowV a b s0 i k).1 16 + (rowV a b s0 i k).2 * 4294967296 ^ (i + k) = pre s0 16 + a.getD i 0 * pre b k * 4294967296 ^ i
  | 0, _ => by rw [rowV, pre, Nat.mul_zero, Nat.zero_mul, Nat.zero_mul]
  | k + 1, h => by
    have ih := rowV_pre a b s0 i hl k (by omega)
    have hlen := rowV_length a b s0 i k
    have hn := rowV_next a b s0 i k
    have hs := fun v => pre_set_all (rowV a b s0 i k).1 (i + k) v (by omega) 16 (by omega)
    generalize (rowV a b s0 i k).1.getD (i + k) 0 = u at *
    generalize (rowV a b s0 i k).2 = c at *
    generalize (rowV a b s0 i k).1 = s at *
    generalize hx : a.getD i 0 * b.getD k 0 + u + c = x at *
    have key := row_step _ _ _ u c (a.getD i 0 * b.getD k 0) x _ (hs (x % 4294967296)) ih hx.symm
    rw [hn]
    dsimp only
    rw [pre_next b k, Nat.mul_add, Nat.add_mul, row_part, ← Nat.pow_add, ← Nat.add_assoc i, Nat.pow_succ, ← Nat.add_assoc]
    exact key
theorem rowS_length (a b : List Nat) : ∀ i, (rowS a b i).length = 16
  | 0 => rfl
  | i + 1 => by rw [rowS, List.length_set, rowV_length, rowS_length]
theorem rowS_lt {a b : List Nat} (ha : ∀ k, a.getD k 0 < 4294967296) (hb : ∀ k, b.getD k 0 < 4294967296) : ∀ i k, (rowS a b i).getD k 0 < 4294967296
  | 0, k => by rw [rowS, z16_zero]; decide
  | i + 1, k => by
    have h := rowV_lt ha hb (rowS_lt ha hb i) i 8
    rw [rowS]
    exact set_lt h.1 _ _ h.2 k
theorem rowS_zero (a b : List Nat) : ∀ i j, i + 8 ≤ j → (rowS a b i).getD j 0 = 0
  | 0, j, _ => z16_zero j
  | i + 1, j, h => by rw [rowS, getD_set_neN _ _ _ _ (by omega), rowV_ahead _ _ _ _ _ 8 (by omega), rowS_zero a b i j (by omega)]
theorem z16_pre : ∀ n, pre z16 n = 0
  | 0 => rfl
  | n + 1 => by rw [pre, z16_pre n, z16_zero, Nat.zero_mul]
theorem rowS_pre (a b : List Nat) : ∀ i, i ≤ 8 → pre (rowS a b i) 16 = pre a i * pre b 8
  | 0, _ => by rw [rowS, z16_pre, pre, Nat.zero_mul]
  | i + 1, h => by
    have ih := rowS_pre a b i (by omega)
    have h1 := rowV_pre a b (rowS a b i) i (rowS_length a b i) 8 (by omega)
    have h2 := pre_set_all (rowV a b (rowS a b i) i 8).1 (i + 8) (rowV a b (rowS a b i) i 8).2 (by rw [rowV_length, rowS_length]; omega) 16 (by omega)
    rw [rowV_ahead _ _ _ _ _ 8 (Nat.le_refl _), rowS_zero a b i (i + 8) (Nat.le_refl _), Nat.zero_mul, Nat.add_zero, h1, ih] at h2
    rw [rowS, h2]
    generalize pre b 8 = y at *
    rw [pre, Nat.add_mul, Nat.mul_assoc, Nat.mul_assoc, Nat.mul_comm y]
theorem rowS_next (a b : List Nat) (i : Nat) : rowS a b (i + 1) = (rowV a b (rowS a b i) i 8).1.set (i + 8) (rowV a b (rowS a b i) i 8).2 := by rw [rowS]
theorem refTimes_any (n m : Nat) (w : World) (hn : n < mm) (hm : m < mm) : Calls Tryd.prog 34 #[numD (nD n), numD (nD m)] w fun e w' => e = .returned (numD (nD (n * m % pp))) ∧ Below w.heap.size w w' := by
  have ha := (nD_D8 n).2
  have hb := (nD_D8 m).2
  have hv := rowS_pre (nD n) (nD m) 8 (Nat.le_refl _)
  rw [pre_nD n hn, pre_nD m hm] at hv
  refine refTimes_over (nD n) (nD m) (nD (n * m % pp)) (rowS (nD n) (nD m) 8) (rowS (nD n) (nD m)) (fun i => rowV (nD n) (nD m) (rowS (nD n) (nD m) i) i) w (nD_D8 n) (nD_D8 m) rfl (fun i => rfl) (fun i k => ?_) (fun i k => rowV_next _ _ _ i k) (fun i => rowS_next _ _ i) rfl (rowS_length _ _ _) (fun W => ?_) (nD_length _)
  · have h := rowV_lt ha hb (rowS_lt ha hb i) i k
    exact ⟨by rw [rowV_length, rowS_length], h.1, h.2⟩
  · have h := refFold_any (rowS (nD n) (nD m) 8) W (rowS_length _ _ _) (rowS_lt ha hb 8)
    rw [hv] at h
    exact h
end Go.Proofs.YtagjbdhelfickaaDoor
