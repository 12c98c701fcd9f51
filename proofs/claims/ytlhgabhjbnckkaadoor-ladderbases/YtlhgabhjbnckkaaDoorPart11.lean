/- Part 11 of what the laws of this seat share: GAdd, GTimes, GTimes2, GSub, GPower, GPowered, GInvert, GWords. -/
import Derived.Test.YtlhgabhjbnckkaaDoorPart10
namespace Go.Proofs.YtlhgabhjbnckkaaDoor
open Go.RowKit
def z16 : List Nat := [0, 0, 0, 0, 0, 0, 0, 0, 0, 0, 0, 0, 0, 0, 0, 0]
theorem dzeros16 : dzeros 16 = z16.map dcell := rfl
theorem z16_zero (k : Nat) : z16.getD k 0 = 0 := by
  rcases Nat.lt_or_ge k 16 with h | h
  · rw [show z16 = List.replicate 16 0 from rfl, List.getD_eq_getElem?_getD, List.getElem?_replicate]
    simp [h]
  · rw [List.getD_eq_getElem?_getD, List.getElem?_eq_none (show z16.length ≤ k from h)]; rfl
theorem pre_over (l : List Nat) (m : Nat) (h : ∀ j, m ≤ j → l.getD j 0 = 0) : ∀ n, pre l (m + n) = pre l m
  | 0 => rfl
  | n + 1 => by rw [← Nat.add_assoc, pre, pre_over l m h n, h (m + n) (by omega), Nat.zero_mul, Nat.add_zero]
set_option maxRecDepth 100000 in
set_option maxHeartbeats 2000000 in
theorem refAdd_over (a b r q : List Nat) (S : Nat → List Nat) (O : Nat → Nat) (w : World) (HA : Hid (a.length = 8 ∧ ∀ k, a.getD k 0 < 4294967296)) (HB : Hid (b.length = 8 ∧ ∀ k, b.getD k 0 < 4294967296)) (HL : Hid (∀ k, (S k).length = 16)) (H0 : Hid (S 0 = z16 ∧ O 0 = 0)) (HS : Hid (∀ k, S (k + 1) = (S k).set k ((a.getD k 0 + b.getD k 0 + O k) % 4294967296) ∧ O (k + 1) = (a.getD k 0 + b.getD k 0 + O k) / 4294967296)) (HO : Hid (∀ k, O k ≤ 1)) (HQ : Hid (q = (S 8).set 8 (O 8))) (HQL : Hid (q.length = 16))
    (CF : Hid (∀ W, Calls Tryd.prog 31 #[numD q] W fun e w' => e = .returned (numD r) ∧ Below W.heap.size W w')) (HRL : Hid (r.length = 8)) :
    Calls Tryd.prog 16 #[numD a, numD b] w fun e w' => e = .returned (numD r) ∧ Below w.heap.size w w' := by
  go_enter Tryd.func16, Tryd.ntmps16
  go_wp2_with (first
    | (refine vtake_step rfl 38 (.tmp 0) rfl (a.map dcell) rfl ?_
       intro w1 hB1 hA1
       try simp only [Act.put, List.setIfInBounds_toArray, List.set_cons_zero, List.set_cons_succ]
       skip)
    | (refine vtake_step rfl 38 (.tmp 1) rfl (b.map dcell) rfl ?_
       intro w2 hb2 hC2
       have hB2 := below_then hB1 hb2
       have hA2 := hA1.on hb2
       have hg1 := hA1.lt
       clear hB1 hA1 hb2
       try simp only [Act.put, List.setIfInBounds_toArray, List.set_cons_zero, List.set_cons_succ]
       skip)
    | (refine vzero_step (o := ⟨some 4, _, _, _, _, _⟩) rfl 38 rfl (dzeros 8) zero_ND ?_
       intro w3 hb3 hZ3
       have hB3 := below_then hB2 hb3
       have hA3 := hA2.on hb3
       have hC3 := hC2.on hb3
       have hg2 := hC2.lt
       clear hB2 hA2 hC2 hb3
       try simp only [Act.put, List.setIfInBounds_toArray, List.set_cons_zero, List.set_cons_succ]
       skip)
    | (refine build_step rfl 59 [] rfl [] rfl _ build_w16 ?_
       try simp only [Act.put, List.setIfInBounds_toArray, List.set_cons_zero, List.set_cons_succ]
       skip)
    | (refine vput_step rfl rfl 59 (.tmp 5) (.tmp 9) rfl rfl 16 (dzeros 16) (dzeros 16) rfl rfl zero_w16 rfl size_w16 rfl (by rw [dzeros_map]; exact dcells_one _) ?_
       intro w4 hb4 hS4
       have hB4 := below_then hB3 hb4
       have hA4 := hA3.on hb4
       have hC4 := hC3.on hb4
       have hZ4 := hZ3.on hb4
       have hg3 := hZ3.lt
       clear hB3 hA3 hC3 hZ3 hb4
       try simp only [Act.put, List.setIfInBounds_toArray, List.set_cons_zero, List.set_cons_succ]
       skip))
  generalize hg : w1.heap.size = gb at *
  generalize hh : w2.heap.size = gz at *
  generalize hi : w3.heap.size = gs at *
  clear hg hh hi
  go_loopw [6, 7] (fun v i wr => ∃ k : Nat, k ≤ 8 ∧ i = .int .i64 k ∧ v = .int .u64 (O k : Int) ∧ Below w.heap.size w wr ∧ Cells wr w.heap.size (a.map dcell) 38 ∧ Cells wr gb (b.map dcell) 38 ∧ Cells wr gz (dzeros 8) 38 ∧ Cells wr gs ((S k).map dcell) 59) (fun _ i _ => 8 - (intOf i).toNat)
  case atStart => exact ⟨0, Nat.zero_le _, rfl, by rw [H0.out.2]; rfl, hB4, hA4, hC4, hZ4, by rw [H0.out.1, ← dzeros16]; exact hS4⟩
  case round =>
    clear hB4 hA4 hC4 hZ4 hS4
    obtain ⟨k, hk, rfl, rfl, hB, hA, hC, hZ, hS⟩ := hrel
    have HLk := Lib.hid (HL.out k)
    by_cases hlt : k < 8
    · have HN := Lib.hid (HS.out k)
      have ho := HO.out k
      have hp := HA.out.2 k
      have hq := HB.out.2 k
      have d1 := hA.get (dat a k (by rw [HA.out.1]; omega))
      have d2 := hC.get (dat b k (by rw [HB.out.1]; omega))
      obtain ⟨z, HZ⟩ := namedF (S (k + 1))
      obtain ⟨o2, HO2⟩ := namedF (O (k + 1))
      rw [HZ.out, HO2.out] at HN
      generalize S k = s at *
      generalize O k = o at *
      generalize a.getD k 0 = p at *
      generalize b.getD k 0 = y at *
      clear HA HB HL H0 HS HO HQ HQL CF HRL
      have c1 := u64_id p (by omega)
      have c3 := u64_id y (by omega)
      obtain ⟨x2, hx2⟩ : ∃ x2, x2 = p + y := ⟨_, rfl⟩
      have c4 : IntKind.u64.wrap ((p : Int) + (y : Int)) = (x2 : Int) := by rw [hx2]; exact wadd p y (by omega)
      obtain ⟨x, hx⟩ : ∃ x, x = x2 + o := ⟨_, rfl⟩
      have c5 : IntKind.u64.wrap ((x2 : Int) + (o : Int)) = (x : Int) := by rw [hx]; exact wadd x2 o (by omega)
      have c6 := u32_mod x
      have c7 : (x : Int) / 4294967296 = (o2 : Int) := by rw [HN.out.2, ← hx2, ← hx]; rfl
      rw [← hx2, ← hx] at HN
      obtain ⟨v, HV⟩ := namedF (x % 4294967296)
      rw [HV.out] at HN c6
      clear hx2 hx HV hp hq
      have i1 : (0 : Int) ≤ (k : Int) := by omega
      have i2 : (k : Int) < 16 := by omega
      go_wp2_with fail
      go_quiet (fail)
      have hB4 : Below w.heap.size w (wr.drewN nq) := ⟨hB.os, hB.tape, hB.output, hB.size, hB.block⟩
      have hA4 := hA.drewN nq
      have hC4 := hC.drewN nq
      have hZ4 := hZ.drewN nq
      have hS4 := hS.drewN nq
      generalize wr.drewN nq = w4 at *
      clear hB hA hC hZ hS d1 d2
      have hT := hS4.there k 1 (by rw [List.length_map, HLk.out]; omega)
      have hE := Lib.hid (hS4.set k (dcell v))
      go_wp2_with (first
        | (refine store_step rfl 36 _ _ rfl gs k .u32 (v : Int) rfl rfl size_w32 hT ?_
           intro w5 hw5
           have hB5 : Below w.heap.size w w5 := by rw [hw5]; exact hB4.setCell (p := ⟨gs, k, none⟩) (by show w.heap.size ≤ gs; omega) _
           have hA5 : Cells w5 w.heap.size (a.map dcell) 38 := by rw [hw5]; exact hA4.other (by show w.heap.size ≠ gs; omega) _
           have hC5 : Cells w5 gb (b.map dcell) 38 := by rw [hw5]; exact hC4.other (by show gb ≠ gs; omega) _
           have hZ5 : Cells w5 gz (dzeros 8) 38 := by rw [hw5]; exact hZ4.other (by show gz ≠ gs; omega) _
           have hS5 : Cells w5 gs (z.map dcell) 59 := by rw [hw5, HN.out.1, ← dset_map]; exact hE.out
           clear hw5 hT hE hB4 hA4 hC4 hZ4 hS4))
      go_roundw
      case rel => exact ⟨k + 1, by omega, by go_num, by rw [HO2.out], hB5, hA5, hC5, hZ5, by rw [HZ.out]; exact hS5⟩
      case measure => simp [intOf]; omega
    · obtain rfl : k = 8 := by omega
      have ho := HO.out 8
      generalize S 8 = s at *
      generalize O 8 = o at *
      have c6 : IntKind.u32.wrap (o : Int) = (o : Int) := by rw [u32_mod]; omega
      have hT := hS.there 8 1 (by rw [List.length_map, HLk.out]; omega)
      have hE : Hid (Cells (wr.setCell ⟨gs, 8, none⟩ (dcell o)) gs (q.map dcell) 59) := by rw [HQ.out, ← dset_map]; exact hS.set 8 (dcell o)
      clear HA HB HL H0 HS HO HQ HLk hA hC ho
      go_wp2_with (first
        | (refine store_step rfl 36 _ _ rfl gs 8 .u32 (o : Int) rfl rfl size_w32 hT ?_
           intro w5 hw5
           have hB5 : Below w.heap.size w w5 := by rw [hw5]; exact hB.setCell (p := ⟨gs, 8, none⟩) (by show w.heap.size ≤ gs; omega) _
           have hZ5 : Cells w5 gz (dzeros 8) 38 := by rw [hw5]; exact hZ.other (by show gz ≠ gs; omega) _
           have hS5 : Cells w5 gs (q.map dcell) 59 := by rw [hw5]; exact hE.out
           clear hw5 hT hE hB hZ hS)
        | (refine sget_step rfl 59 (.tmp 5) rfl gs 16 (q.map dcell) rfl hS5 Tryd.underlying59 rfl size_w16 (by rw [List.length_map, HQL.out]) ?_))
      refine (CF.out w5).mono ?_
      rintro e w6 ⟨rfl, hb6⟩
      have hB6 := below_then hB5 hb6
      have hZ6 := hZ5.on hb6
      clear CF hB5 hZ5 hS5 hb6
      go_wp2_with (first
        | (refine vset_step rfl 38 _ _ rfl gz 8 (dzeros 8) (r.map dcell) rfl rfl hZ6 rfl size_ND (by rw [List.length_map, HRL.out]) (dcells_one r) ?_
           intro w7 hb7 hC7 _))
      exact sret Tryd.results16 gz (r.map dcell) rfl hC7 Tryd.underlying38 rfl size_ND (by rw [List.length_map, HRL.out]) rfl ⟨rfl, hB6.trans (hb7.below (by omega) hB6.size)⟩
def addS (a b : List Nat) (k : Nat) : List Nat × Nat := cyTo (fun j => a.getD j 0 + b.getD j 0) z16 0 k
theorem addS_next (a b : List Nat) (k : Nat) : (addS a b (k + 1)).1 = (addS a b k).1.set k ((a.getD k 0 + b.getD k 0 + (addS a b k).2) % 4294967296) ∧ (addS a b (k + 1)).2 = (a.getD k 0 + b.getD k 0 + (addS a b k).2) / 4294967296 := by
  rw [addS, cyTo, ← addS]
  exact ⟨rfl, rfl⟩
theorem addS_zero (a b : List Nat) : (addS a b 0).1 = z16 ∧ (addS a b 0).2 = 0 := by rw [addS, cyTo]; exact ⟨rfl, rfl⟩
theorem addS_length (a b : List Nat) (k : Nat) : (addS a b k).1.length = 16 := cyTo_length _ _ _ k
theorem addS_le {a b : List Nat} (ha : ∀ k, a.getD k 0 < 4294967296) (hb : ∀ k, b.getD k 0 < 4294967296) (k : Nat) : (addS a b k).2 ≤ 1 :=
  cyTo_le _ _ _ 1 (Nat.zero_le _) (fun k => by have := ha k; have := hb k; omega) k
theorem addS_lt (a b : List Nat) : ∀ k, (addS a b 8).1.getD k 0 < 4294967296 := cyTo_lt _ 0 (fun k => by rw [z16_zero]; decide) 8
theorem addS_val (a b : List Nat) : pre ((addS a b 8).1.set 8 (addS a b 8).2) 16 = pre a 8 + pre b 8 := by
  have h : pre (addS a b 8).1 8 + (addS a b 8).2 * 4294967296 ^ 8 = psum (fun j => a.getD j 0 + b.getD j 0) 8 + 0 := cyTo_pre _ z16 0 8 (by decide)
  rw [psum_add, ← pre_psum, ← pre_psum, Nat.add_zero] at h
  have h0 : ∀ j, 9 ≤ j → ((addS a b 8).1.set 8 (addS a b 8).2).getD j 0 = 0 := fun j hj => by
    rw [getD_set_neN _ _ _ _ (by omega), addS, cyTo_ahead _ _ _ 8 j (by omega), z16_zero]
  rw [show 16 = 9 + 7 from rfl, pre_over _ 9 h0 7, pre_set _ 8 _ (by rw [addS_length]; decide), h]
theorem refAdd_any (n m : Nat) (w : World) (hn : n < mm) (hm : m < mm) : Calls Tryd.prog 16 #[numD (nD n), numD (nD m)] w fun e w' => e = .returned (numD (nD ((n + m) % pp))) ∧ Below w.heap.size w w' := by
  have hq := addS_val (nD n) (nD m)
  rw [pre_nD n hn, pre_nD m hm] at hq
  have hl : ((addS (nD n) (nD m) 8).1.set 8 (addS (nD n) (nD m) 8).2).length = 16 := by rw [List.length_set, addS_length]
  have hlt := set_lt (addS_lt (nD n) (nD m)) 8 _ (Nat.lt_of_le_of_lt (addS_le (nD_D8 n).2 (nD_D8 m).2 8) (by decide))
  refine refAdd_over (nD n) (nD m) (nD ((n + m) % pp)) _ (fun k => (addS (nD n) (nD m) k).1) (fun k => (addS (nD n) (nD m) k).2) w (nD_D8 n) (nD_D8 m) (addS_length _ _) (addS_zero _ _) (addS_next _ _) (addS_le (nD_D8 n).2 (nD_D8 m).2) rfl hl (fun W => ?_) (nD_length _)
  have h := refFold_any _ W hl hlt
  rw [hq] at h
  exact h
end Go.Proofs.YtlhgabhjbnckkaaDoor
namespace Go.Proofs.YtlhgabhjbnckkaaDoor
open Go.RowKit
set_option maxRecDepth 100000 in
set_option maxHeartbeats 4000000 in
theorem refTimes_over (a b r q : List Nat) (S : Nat → List Nat) (V : Nat → Nat → List Nat × Nat) (w : World) (HA : Hid (a.length = 8 ∧ ∀ k, a.getD k 0 < 4294967296)) (HB : Hid (b.length = 8 ∧ ∀ k, b.getD k 0 < 4294967296)) (H0 : Hid (S 0 = z16))
    (HV0 : Hid (∀ i, V i 0 = (S i, 0))) (HVL : Hid (∀ i k, (V i k).1.length = 16 ∧ (∀ j, (V i k).1.getD j 0 < 4294967296) ∧ (V i k).2 < 4294967296)) (HVS : Hid (∀ i k, V i (k + 1) = ((V i k).1.set (i + k) ((a.getD i 0 * b.getD k 0 + (V i k).1.getD (i + k) 0 + (V i k).2) % 4294967296), (a.getD i 0 * b.getD k 0 + (V i k).1.getD (i + k) 0 + (V i k).2) / 4294967296)))
    (HS : Hid (∀ i, S (i + 1) = (V i 8).1.set (i + 8) (V i 8).2)) (HQ : Hid (S 8 = q)) (HQL : Hid (q.length = 16))
    (CF : Hid (∀ W, Calls Tryd.prog 31 #[numD q] W fun e w' => e = .returned (numD r) ∧ Below W.heap.size W w')) (HRL : Hid (r.length = 8)) :
    Calls Tryd.prog 17 #[numD a, numD b] w fun e w' => e = .returned (numD r) ∧ Below w.heap.size w w' := by
  go_enter Tryd.func17, Tryd.ntmps17
  go_wp2_with (first
    | (refine vtake_step rfl 38 (.tmp 0) rfl (a.map dcell) rfl ?_
       intro w1 hB1 hA1
       try simp only [Act.put, List.setIfInBounds_toArray, List.set_cons_zero, List.set_cons_succ]
       skip)
    | (refine vtake_step rfl 38 (.tmp 1) rfl (b.map dcell) rfl ?_
       intro w2 hb2 hC2
       have hB2 := below_then hB1 hb2
       have hA2 := hA1.on hb2
       have hg1 := hA1.lt
       clear hB1 hA1 hb2
       try simp only [Act.put, List.setIfInBounds_toArray, List.set_cons_zero, List.set_cons_succ]
       skip)
    | (refine vzero_step (o := ⟨some 4, _, _, _, _, _⟩) rfl 38 rfl (dzeros 8) zero_ND ?_
       intro w3 hb3 hZ3
       have hB3 := below_then hB2 hb3
       have hA3 := hA2.on hb3
       have hC3 := hC2.on hb3
       have hg2 := hC2.lt
       clear hB2 hA2 hC2 hb3
       try simp only [Act.put, List.setIfInBounds_toArray, List.set_cons_zero, List.set_cons_succ]
       skip)
    | (refine build_step rfl 59 [] rfl [] rfl _ build_w16 ?_
       try simp only [Act.put, List.setIfInBounds_toArray, List.set_cons_zero, List.set_cons_succ]
       skip)
    | (refine vput_step rfl rfl 59 (.tmp 5) (.tmp 10) rfl rfl 16 (dzeros 16) (dzeros 16) rfl rfl zero_w16 rfl size_w16 rfl (by rw [dzeros_map]; exact dcells_one _) ?_
       intro w4 hb4 hS4
       have hB4 := below_then hB3 hb4
       have hA4 := hA3.on hb4
       have hC4 := hC3.on hb4
       have hZ4 := hZ3.on hb4
       have hg3 := hZ3.lt
       clear hB3 hA3 hC3 hZ3 hb4
       try simp only [Act.put, List.setIfInBounds_toArray, List.set_cons_zero, List.set_cons_succ]
       skip))
  generalize hg : w1.heap.size = gb at *
  generalize hh : w2.heap.size = gz at *
  generalize hi : w3.heap.size = gs at *
  clear hg hh hi
  go_loopw [6] (fun i wr => ∃ k : Nat, k ≤ 8 ∧ i = .int .i64 k ∧ Below w.heap.size w wr ∧ Cells wr w.heap.size (a.map dcell) 38 ∧ Cells wr gb (b.map dcell) 38 ∧ Cells wr gz (dzeros 8) 38 ∧ Cells wr gs ((S k).map dcell) 59) (fun i _ => 8 - (intOf i).toNat)
  case atStart => exact ⟨0, Nat.zero_le _, rfl, hB4, hA4, hC4, hZ4, by rw [H0.out, ← dzeros16]; exact hS4⟩
  case round =>
    clear hB4 hA4 hC4 hZ4 hS4
    obtain ⟨i, hi, rfl, hB, hA, hC, hZ, hS⟩ := hrel
    by_cases hil : i < 8
    · have HVi0 := Lib.hid (HV0.out i)
      have HVLi := Lib.hid (HVL.out i)
      have HVSi := Lib.hid (HVS.out i)
      have HSi := Lib.hid (HS.out i)
      have hai := HA.out.2 i
      have HAI := Lib.hid (dat a i (by rw [HA.out.1]; exact hil))
      obtain ⟨nx, HNX⟩ := namedF (S (i + 1))
      rw [HNX.out] at HSi
      generalize V i = vv at *
      generalize S i = s0 at *
      generalize a.getD i 0 = p at *
      have hpI : (i : Int) < 8 := by omega
      clear HV0 HVL HVS HS HQ HQL CF HRL H0
      go_wp2_with fail
      try rw [show decide ((i : Int) < 8) = true by simp; omega]
      go_loopw [7, 8] (fun v k wr => ∃ n : Nat, n ≤ 8 ∧ k = .int .i64 n ∧ v = .int .u64 ((vv n).2 : Int) ∧ Below w.heap.size w wr ∧ Cells wr w.heap.size (a.map dcell) 38 ∧ Cells wr gb (b.map dcell) 38 ∧ Cells wr gz (dzeros 8) 38 ∧ Cells wr gs ((vv n).1.map dcell) 59) (fun _ k _ => 8 - (intOf k).toNat)
      case atStart => exact ⟨0, Nat.zero_le _, rfl, by rw [HVi0.out]; rfl, hB, hA, hC, hZ, by rw [HVi0.out]; exact hS⟩
      case round =>
        clear hB hA hC hZ hS
        obtain ⟨k, hk, rfl, rfl, hB, hA, hC, hZ, hS⟩ := hrel
        have HLk := Lib.hid (HVLi.out k).1
        by_cases hlt : k < 8
        · have HN := Lib.hid (HVSi.out k)
          have ho := (HVLi.out k).2.2
          have hq := (HVLi.out k).2.1 (i + k)
          have hy := HB.out.2 k
          have d1 := hA.get HAI.out
          have d2 := hC.get (dat b k (by rw [HB.out.1]; omega))
          have d3 := hS.get (dat (vv k).1 (i + k) (by rw [HLk.out]; omega))
          obtain ⟨z, HZ⟩ := namedF (vv (k + 1))
          rw [HZ.out] at HN
          generalize (vv k).2 = o at *
          generalize (vv k).1 = s at *
          generalize b.getD k 0 = y at *
          generalize s.getD (i + k) 0 = u at *
          have hm : p * y ≤ 4294967295 * 4294967295 := Nat.mul_le_mul (by omega) (by omega)
          have c1 := u64_id p (by omega)
          have c3 := u64_id y (by omega)
          have c2 := u64_id u (by omega)
          obtain ⟨x1, hx1⟩ : ∃ x1, x1 = p * y := ⟨_, rfl⟩
          have c4 : IntKind.u64.wrap ((p : Int) * (y : Int)) = (x1 : Int) := by rw [hx1]; exact wmul p y (by omega)
          rw [← hx1] at hm HN
          obtain ⟨x2, hx2⟩ : ∃ x2, x2 = x1 + u := ⟨_, rfl⟩
          have c5 : IntKind.u64.wrap ((x1 : Int) + (u : Int)) = (x2 : Int) := by rw [hx2]; exact wadd x1 u (by omega)
          obtain ⟨x, hx⟩ : ∃ x, x = x2 + o := ⟨_, rfl⟩
          have c7 : IntKind.u64.wrap ((x2 : Int) + (o : Int)) = (x : Int) := by rw [hx]; exact wadd x2 o (by omega)
          have c6 := u32_mod x
          rw [← hx2, ← hx] at HN
          obtain ⟨x3, hx3⟩ : ∃ x3, x3 = x / 4294967296 := ⟨_, rfl⟩
          have c8 : (x : Int) / 4294967296 = (x3 : Int) := by rw [hx3]; rfl
          rw [← hx3] at HN
          obtain ⟨v, HV⟩ := namedF (x % 4294967296)
          rw [HV.out] at HN c6
          have c9 : IntKind.i64.wrap ((i : Int) + (k : Int)) = (i : Int) + (k : Int) := IntWalk.i64_in _ (by omega)
          have i1 : (0 : Int) ≤ (k : Int) := by omega
          have i2 : (k : Int) < 8 := by omega
          have i3 : (0 : Int) ≤ (i : Int) + (k : Int) := by omega
          have i4 : (i : Int) + (k : Int) < 16 := by omega
          have i5 : ((i : Int) + (k : Int)).toNat = i + k := by omega
          have i6 : (0 : Int) ≤ (i : Int) := by omega
          clear hx1 hx2 hx hx3 HV hq hy ho hm HVi0 HVLi HVSi HSi
          go_wp2_with fail
          go_quiet (fail)
          have hB4 : Below w.heap.size w (wr.drewN nq) := ⟨hB.os, hB.tape, hB.output, hB.size, hB.block⟩
          have hA4 := hA.drewN nq
          have hC4 := hC.drewN nq
          have hZ4 := hZ.drewN nq
          have hS4 := hS.drewN nq
          generalize wr.drewN nq = w4 at *
          clear hB hA hC hZ hS d1 d2 d3
          have hT := hS4.there (i + k) 1 (by rw [List.length_map, HLk.out]; omega)
          have hE := Lib.hid (hS4.set (i + k) (dcell v))
          go_wp2_with (first
            | (refine store_step rfl 36 _ _ rfl gs (i + k) .u32 (v : Int) rfl rfl size_w32 hT ?_
               intro w5 hw5
               have hB5 : Below w.heap.size w w5 := by rw [hw5]; exact hB4.setCell (p := ⟨gs, i + k, none⟩) (by show w.heap.size ≤ gs; omega) _
               have hA5 : Cells w5 w.heap.size (a.map dcell) 38 := by rw [hw5]; exact hA4.other (by show w.heap.size ≠ gs; omega) _
               have hC5 : Cells w5 gb (b.map dcell) 38 := by rw [hw5]; exact hC4.other (by show gb ≠ gs; omega) _
               have hZ5 : Cells w5 gz (dzeros 8) 38 := by rw [hw5]; exact hZ4.other (by show gz ≠ gs; omega) _
               have hS5 : Cells w5 gs (z.1.map dcell) 59 := by rw [hw5, HN.out, ← dset_map]; exact hE.out
               clear hw5 hT hE hB4 hA4 hC4 hZ4 hS4))
          go_roundw
          case rel => first | exact ⟨k + 1, by omega, by go_num, by rw [HZ.out, HN.out], hB5, hA5, hC5, hZ5, by rw [HZ.out]; exact hS5⟩ | trace_state
          case measure => simp [intOf]; omega
        · obtain rfl : k = 8 := by omega
          have ho := (HVLi.out 8).2.2
          generalize (vv 8).2 = o at *
          generalize (vv 8).1 = s at *
          have c6 : IntKind.u32.wrap (o : Int) = (o : Int) := by rw [u32_mod]; omega
          have c9 : IntKind.i64.wrap ((i : Int) + 8) = (i : Int) + 8 := IntWalk.i64_in _ (by omega)
          have i3 : (0 : Int) ≤ (i : Int) + 8 := by omega
          have i4 : (i : Int) + 8 < 16 := by omega
          have i5 : ((i : Int) + 8).toNat = i + 8 := by omega
          have i6 : (0 : Int) ≤ (i : Int) := by omega
          have i7 : IntKind.i64.wrap ((i : Int) + 1) = (i : Int) + 1 := IntWalk.i64_in _ (by omega)
          have hT := hS.there (i + 8) 1 (by rw [List.length_map, HLk.out]; omega)
          have hE := Lib.hid (hS.set (i + 8) (dcell o))
          clear HVi0 HVLi HVSi ho
          go_wp2_with (first
            | (refine store_step rfl 36 _ _ rfl gs (i + 8) .u32 (o : Int) rfl rfl size_w32 hT ?_
               intro w5 hw5
               have hB5 : Below w.heap.size w w5 := by rw [hw5]; exact hB.setCell (p := ⟨gs, i + 8, none⟩) (by show w.heap.size ≤ gs; omega) _
               have hA5 : Cells w5 w.heap.size (a.map dcell) 38 := by rw [hw5]; exact hA.other (by show w.heap.size ≠ gs; omega) _
               have hC5 : Cells w5 gb (b.map dcell) 38 := by rw [hw5]; exact hC.other (by show gb ≠ gs; omega) _
               have hZ5 : Cells w5 gz (dzeros 8) 38 := by rw [hw5]; exact hZ.other (by show gz ≠ gs; omega) _
               have hS5 : Cells w5 gs (nx.map dcell) 59 := by rw [hw5, HSi.out, ← dset_map]; exact hE.out
               clear hw5 hT hE hB hA hC hZ hS))
          go_roundw
          case rel => first | exact ⟨i + 1, by omega, by go_num, hB5, hA5, hC5, hZ5, by rw [HNX.out]; exact hS5⟩ | trace_state
          case measure => simp [intOf]; omega
    · obtain rfl : i = 8 := by omega
      rw [HQ.out] at hS
      clear HA HB H0 HV0 HVL HVS HS HQ hA hC
      go_wp2_with (first
        | (refine sget_step rfl 59 (.tmp 5) rfl gs 16 (q.map dcell) rfl hS Tryd.underlying59 rfl size_w16 (by rw [List.length_map, HQL.out]) ?_))
      refine (CF.out wr).mono ?_
      rintro e w6 ⟨rfl, hb6⟩
      have hB6 := below_then hB hb6
      have hZ6 := hZ.on hb6
      clear CF hB hZ hS hb6
      go_wp2_with (first
        | (refine vset_step rfl 38 _ _ rfl gz 8 (dzeros 8) (r.map dcell) rfl rfl hZ6 rfl size_ND (by rw [List.length_map, HRL.out]) (dcells_one r) ?_
           intro w7 hb7 hC7 _))
      exact sret Tryd.results17 gz (r.map dcell) rfl hC7 Tryd.underlying38 rfl size_ND (by rw [List.length_map, HRL.out]) rfl ⟨rfl, hB6.trans (hb7.below (by omega) hB6.size)⟩
end Go.Proofs.YtlhgabhjbnckkaaDoor
namespace Go.Proofs.YtlhgabhjbnckkaaDoor
open Go.RowKit
def rowV (a b s0 : List Nat) (i : Nat) : Nat → List Nat × Nat
  | 0 => (s0, 0)
  | k + 1 => ((rowV a b s0 i k).1.set (i + k) ((a.getD i 0 * b.getD k 0 + (rowV a b s0 i k).1.getD (i + k) 0 + (rowV a b s0 i k).2) % 4294967296), (a.getD i 0 * b.getD k 0 + (rowV a b s0 i k).1.getD (i + k) 0 + (rowV a b s0 i k).2) / 4294967296)
def rowS (a b : List Nat) : Nat → List Nat
  | 0 => z16
  | i + 1 => (rowV a b (rowS a b i) i 8).1.set (i + 8) (rowV a b (rowS a b i) i 8).2
theorem rowV_length (a b s0 : List Nat) (i : Nat) : ∀ k, (rowV a b s0 i k).1.length = s0.length
  | 0 => rfl
  | k + 1 => by rw [rowV, List.length_set, rowV_length]
theorem rowV_lt {a b s0 : List Nat} (ha : ∀ k, a.getD k 0 < 4294967296) (hb : ∀ k, b.getD k 0 < 4294967296) (hs : ∀ k, s0.getD k 0 < 4294967296) (i : Nat) : ∀ k, (∀ j, (rowV a b s0 i k).1.getD j 0 < 4294967296) ∧ (rowV a b s0 i k).2 < 4294967296
  | 0 => ⟨hs, show (0 : Nat) < 4294967296 by decide⟩
  | k + 1 => by
    obtain ⟨h1, h2⟩ := rowV_lt ha hb hs i k
    rw [rowV]
    refine ⟨set_lt h1 _ _ (Nat.mod_lt _ (by decide)), ?_⟩
    have h3 := h1 (i + k)
    have hm : a.getD i 0 * b.getD k 0 ≤ 4294967295 * 4294967295 := Nat.mul_le_mul (by have := ha i; omega) (by have := hb k; omega)
    show (a.getD i 0 * b.getD k 0 + (rowV a b s0 i k).1.getD (i + k) 0 + (rowV a b s0 i k).2) / 4294967296 < 4294967296
    omega
theorem rowV_ahead (a b s0 : List Nat) (i j : Nat) : ∀ k, i + k ≤ j → (rowV a b s0 i k).1.getD j 0 = s0.getD j 0
  | 0, _ => rfl
  | k + 1, h => by rw [rowV, getD_set_neN _ _ _ _ (by omega), rowV_ahead a b s0 i j k (by omega)]
theorem pre_set_all (l : List Nat) (j v : Nat) (hl : j < l.length) : ∀ n, j < n → pre (l.set j v) n + l.getD j 0 * 4294967296 ^ j = pre l n + v * 4294967296 ^ j
  | 0, h => by omega
  | n + 1, h => by
    rcases Nat.lt_or_ge j n with h1 | h1
    · have ih := pre_set_all l j v hl n h1
      rw [pre, pre, getD_set_neN _ _ _ _ (by omega)]
      omega
    · obtain rfl : j = n := by omega
      rw [pre_set l j v hl, pre]; omega
theorem rowV_next (a b s0 : List Nat) (i k : Nat) : rowV a b s0 i (k + 1) = ((rowV a b s0 i k).1.set (i + k) ((a.getD i 0 * b.getD k 0 + (rowV a b s0 i k).1.getD (i + k) 0 + (rowV a b s0 i k).2) % 4294967296), (a.getD i 0 * b.getD k 0 + (rowV a b s0 i k).1.getD (i + k) 0 + (rowV a b s0 i k).2) / 4294967296) := by rw [rowV]
theorem pre_next (l : List Nat) (k : Nat) : pre l (k + 1) = pre l k + l.getD k 0 * 4294967296 ^ k := by rw [pre]
theorem row_step (n p t u c d x E : Nat) (h1 : n + u * E = p + x % 4294967296 * E) (h2 : p + c * E = t) (hx : x = d + u + c) : n + x / 4294967296 * (E * 4294967296) = t + d * E := by
  have e := Nat.div_add_mod x 4294967296
  have e2 : (4294967296 * (x / 4294967296) + x % 4294967296) * E = (d + u + c) * E := by rw [e, hx]
  have e3 : x / 4294967296 * (E * 4294967296) = 4294967296 * (x / 4294967296) * E := by rw [Nat.mul_comm E, ← Nat.mul_assoc, Nat.mul_comm (x / 4294967296)]
  rw [Nat.add_mul, Nat.add_mul, Nat.add_mul] at e2
  omega
theorem row_part (p q E F : Nat) : p * (q * E) * F = p * q * (F * E) := by rw [Nat.mul_comm F, ← Nat.mul_assoc, ← Nat.mul_assoc]
theorem rowV_pre (a b s0 : List Nat) (i : Nat) (hl : s0.length = 16) : ∀ k, i + k ≤ 16 → pre (rowV a b s0 i k).1 16 + (rowV a b s0 i k).2 * 4294967296 ^ (i + k) = pre s0 16 + a.getD i 0 * pre b k * 4294967296 ^ i
  | 0, _ => by rw [rowV, pre, Nat.mul_zero, Nat.zero_mul, Nat.zero_mul]
  | k + 1, h => by
    have ih := rowV_pre a b s0 i hl k (by omega)
    have hlen := rowV_length a b s0 i k
    have hn := rowV_next a b s0 i k
    have hs := fun v => pre_set_all (rowV a b s0 i k).1 (i + k) v (by omega) 16 (by omega)
    generalize (rowV a b s0 i k).1.getD (i + k) 0 = u at *
    generalize (rowV a b s0 i k).2 = c at *
    generalize (rowV a b s0 i k).1 = s at *
    generalize hx : a.getD i 0 * b.getD k 0 + u + c = x at *
    have key := row_step _ _ _ u c (a.getD i 0 * b.getD k 0) x _ (hs (x % 4294967296)) ih hx.symm
    rw [hn]
    dsimp only
    rw [pre_next b k, Nat.mul_add, Nat.add_mul, row_part, ← Nat.pow_add, ← Nat.add_assoc i, Nat.pow_succ, ← Nat.add_assoc]
    exact key
theorem rowS_length (a b : List Nat) : ∀ i, (rowS a b i).length = 16
  | 0 => rfl
  | i + 1 => by rw [rowS, List.length_set, rowV_length, rowS_length]
theorem rowS_lt {a b : List Nat} (ha : ∀ k, a.getD k 0 < 4294967296) (hb : ∀ k, b.getD k 0 < 4294967296) : ∀ i k, (rowS a b i).getD k 0 < 4294967296
  | 0, k => by rw [rowS, z16_zero]; decide
  | i + 1, k => by
    have h := rowV_lt ha hb (rowS_lt ha hb i) i 8
    rw [rowS]
    exact set_lt h.1 _ _ h.2 k
theorem rowS_zero (a b : List Nat) : ∀ i j, i + 8 ≤ j → (rowS a b i).getD j 0 = 0
  | 0, j, _ => z16_zero j
  | i + 1, j, h => by rw [rowS, getD_set_neN _ _ _ _ (by omega), rowV_ahead _ _ _ _ _ 8 (by omega), rowS_zero a b i j (by omega)]
theorem z16_pre : ∀ n, pre z16 n = 0
  | 0 => rfl
  | n + 1 => by rw [pre, z16_pre n, z16_zero, Nat.zero_mul]
theorem rowS_pre (a b : List Nat) : ∀ i, i ≤ 8 → pre (rowS a b i) 16 = pre a i * pre b 8
  | 0, _ => by rw [rowS, z16_pre, pre, Nat.zero_mul]
  | i + 1, h => by
    have ih := rowS_pre a b i (by omega)
    have h1 := rowV_pre a b (rowS a b i) i (rowS_length a b i) 8 (by omega)
    have h2 := pre_set_all (rowV a b (rowS a b i) i 8).1 (i + 8) (rowV a b (rowS a b i) i 8).2 (by rw [rowV_length, rowS_length]; omega) 16 (by omega)
    rw [rowV_ahead _ _ _ _ _ 8 (Nat.le_refl _), rowS_zero a b i (i + 8) (Nat.le_refl _), Nat.zero_mul, Nat.add_zero, h1, ih] at h2
    rw [rowS, h2]
    generalize pre b 8 = y at *
    rw [pre, Nat.add_mul, Nat.mul_assoc, Nat.mul_assoc, Nat.mul_comm y]
theorem rowS_next (a b : List Nat) (i : Nat) : rowS a b (i + 1) = (rowV a b (rowS a b i) i 8).1.set (i + 8) (rowV a b (rowS a b i) i 8).2 := by rw [rowS]
theorem refTimes_any (n m : Nat) (w : World) (hn : n < mm) (hm : m < mm) : Calls Tryd.prog 17 #[numD (nD n), numD (nD m)] w fun e w' => e = .returned (numD (nD (n * m % pp))) ∧ Below w.heap.size w w' := by
  have ha := (nD_D8 n).2
  have hb := (nD_D8 m).2
  have hv := rowS_pre (nD n) (nD m) 8 (Nat.le_refl _)
  rw [pre_nD n hn, pre_nD m hm] at hv
  refine refTimes_over (nD n) (nD m) (nD (n * m % pp)) (rowS (nD n) (nD m) 8) (rowS (nD n) (nD m)) (fun i => rowV (nD n) (nD m) (rowS (nD n) (nD m) i) i) w (nD_D8 n) (nD_D8 m) rfl (fun i => rfl) (fun i k => ?_) (fun i k => rowV_next _ _ _ i k) (fun i => rowS_next _ _ i) rfl (rowS_length _ _ _) (fun W => ?_) (nD_length _)
  · have h := rowV_lt ha hb (rowS_lt ha hb i) i k
    exact ⟨by rw [rowV_length, rowS_length], h.1, h.2⟩
  · have h := refFold_any (rowS (nD n) (nD m) 8) W (rowS_length _ _ _) (rowS_lt ha hb 8)
    rw [hv] at h
    exact h
end Go.Proofs.YtlhgabhjbnckkaaDoor
namespace Go.Proofs.YtlhgabhjbnckkaaDoor
open Go.RowKit
def refSubVs (a b p l m r : List Nat) (ga gb gz : Nat) : List Value :=
  (numD a) :: (numD b) :: (.pointer (some ⟨ga, 0, none⟩)) :: (.pointer (some ⟨gb, 0, none⟩)) :: (.pointer (some ⟨gz, 0, none⟩)) :: (numD a) :: (numD p) :: (numD b) :: (numD l) :: (numD m) :: (numD r) :: []
set_option maxRecDepth 100000 in
theorem refSub_over (a b p l m r : List Nat) (w : World) (HA : Hid (a.length = 8)) (HB : Hid (b.length = 8)) (HR : Hid (r.length = 8))
    (CP : Hid (∀ W, Calls Tryd.prog 33 #[] W fun e w' => e = .returned (numD p) ∧ Below W.heap.size W w')) (CL : Hid (∀ W, Calls Tryd.prog 29 #[numD b] W fun e w' => e = .returned (numD l) ∧ Below W.heap.size W w')) (CM : Hid (∀ W, Calls Tryd.prog 32 #[numD p, numD l] W fun e w' => e = .returned (numD m) ∧ Below W.heap.size W w')) (CA : Hid (∀ W, Calls Tryd.prog 16 #[numD a, numD m] W fun e w' => e = .returned (numD r) ∧ Below W.heap.size W w')) :
    Calls Tryd.prog 18 #[numD a, numD b] w fun e w' => e = .returned (numD r) ∧ Below w.heap.size w w' := by
  go_enter Tryd.func18, Tryd.ntmps18
  go_wp2_with (first
    | (refine vtake_step rfl 38 (.tmp 0) rfl (a.map dcell) rfl ?_
       intro w1 hB1 hAa
       try simp only [Act.put, List.setIfInBounds_toArray, List.set_cons_zero, List.set_cons_succ]
       skip)
    | (refine vtake_step rfl 38 (.tmp 1) rfl (b.map dcell) rfl ?_
       intro w2 hb hAb
       have hB2 := below_then hB1 hb
       have hga := hAa.lt
       replace hAa := hAa.on hb
       clear hB1 hb
       try simp only [Act.put, List.setIfInBounds_toArray, List.set_cons_zero, List.set_cons_succ]
       skip)
    | (refine vzero_step rfl 38 rfl (dzeros 8) zero_ND ?_
       intro w9 hb hZ
       have hB := below_then hB2 hb
       have hle := hB2.size
       have hla := hAa.lt
       have hlb := hAb.lt
       replace hAa := hAa.on hb
       replace hAb := hAb.on hb
       clear hB2 hb
       try simp only [Act.put, List.setIfInBounds_toArray, List.set_cons_zero, List.set_cons_succ]
       skip))
  generalize hgz : w2.heap.size = gz at *
  generalize hg1 : w1.heap.size = gb at *
  clear hgz hg1
  refine wp_region_any (by kernel_rfl) ?_
  refine wpAny_flatAt (L := [0, 1, 2, 3, 4, 5]) (by kernel_rfl) _ _ (refSubVs a b p l m r w.heap.size gb gz) [0, 1, 2, 3, 4] (by kernel_rfl) ?_ (by rfl) ?_ 1 (by kernel_rfl) ?_
  · exact all_cons rfl (all_cons rfl (all_cons rfl (all_cons rfl (all_cons rfl (all_nil)))))
  · change ∀ i ∈ _, StepOk _ _ _ _ _ w9.drew _ i
    refine all_cons (stepPure _ 5 rfl rfl rfl (by kernel_rfl) (by kernel_rfl) fun a w hb hv => exec_load _ _ _ _ rfl _ _ (hv 2 (by kernel_rfl)) w (num_run (hAa.drew.on hb) HA.out)) ?_
    refine all_cons (stepCall _ 6 rfl rfl rfl (by kernel_rfl) (by kernel_rfl) 33 _ _ rfl [] (fun a hv => rfl) (enters Tryd.func33 rfl rfl) (fun w hb => CP.out w)) ?_
    refine all_cons (stepPure _ 7 rfl rfl rfl (by kernel_rfl) (by kernel_rfl) fun a w hb hv => exec_load _ _ _ _ rfl _ _ (hv 3 (by kernel_rfl)) w (num_run (hAb.drew.on hb) HB.out)) ?_
    refine all_cons (stepCall _ 8 rfl rfl rfl (by kernel_rfl) (by kernel_rfl) 29 _ _ rfl [numD b] (fun a hv => cons_eq (hv 7 (by kernel_rfl)) (rfl)) (enters Tryd.func29 rfl rfl) (fun w hb => CL.out w)) ?_
    refine all_cons (stepCall _ 9 rfl rfl rfl (by kernel_rfl) (by kernel_rfl) 32 _ _ rfl [numD p, numD l] (fun a hv => cons_eq (hv 6 (by kernel_rfl)) (cons_eq (hv 8 (by kernel_rfl)) (rfl))) (enters Tryd.func32 rfl rfl) (fun w hb => CM.out w)) ?_
    refine all_cons (stepCall _ 10 rfl rfl rfl (by kernel_rfl) (by kernel_rfl) 16 _ _ rfl [numD a, numD m] (fun a hv => cons_eq (hv 5 (by kernel_rfl)) (cons_eq (hv 9 (by kernel_rfl)) (rfl))) (enters Tryd.func16 rfl rfl) (fun w hb => CA.out w)) ?_
    exact all_nil
  intro w4 hb4
  have hB4 := below_then (show Below w.heap.size w w9.drew from hB.drew) hb4
  have hZ4 := hZ.drew.on hb4
  refine wpAny_rest 6 rfl (by kernel_rfl) ?_
  refine vset_step rfl 38 (.tmp 4) (.tmp 10) rfl gz 8 (dzeros 8) (r.map dcell) rfl rfl hZ4 rfl size_ND (by rw [List.length_map, HR.out]) (dcells_one _) ?_
  intro w7 hb7 hC7 hz7
  generalize hF : (⟨(refSubVs a b p l m r w.heap.size gb gz).toArray, []⟩ : Act) = F
  rename_i K hKK
  show Exit.then K _ Exit.normal (F.put none undef) w7
  simp only [Exit.then]
  refine hKK _ _ ?_
  refine wp_ret ?_
  subst hF
  exact sret Tryd.results18 gz (r.map dcell) rfl hC7 Tryd.underlying38 rfl size_ND (by rw [List.length_map, HR.out]) rfl ⟨rfl, hB4.trans (hb7.below (by omega) hB4.size)⟩
theorem refSub_any (n m : Nat) (w : World) (hn : n < mm) (hm : m < mm) : Calls Tryd.prog 18 #[numD (nD n), numD (nD m)] w fun e w' => e = .returned (numD (nD ((n + (pp - m % pp)) % pp))) ∧ Below w.heap.size w w' := by
  have h := Nat.mod_lt m (show 0 < pp by decide)
  exact refSub_over (nD n) (nD m) (nD pp) (nD (m % pp)) (nD (pp - m % pp)) _ w rfl rfl rfl refP_any (fun W => refLeast_any m W hm) (fun W => refMinus_any pp (m % pp) W (by decide) (Nat.le_of_lt h)) (fun W => refAdd_any n (pp - m % pp) W hn (by simp only [pp, mm]; omega))
end Go.Proofs.YtlhgabhjbnckkaaDoor
namespace Go.Proofs.YtlhgabhjbnckkaaDoor
open Go.RowKit
theorem bit_at (x k : Nat) (b : Bool) (hx : x < 4294967296) (h : decide (x / 2 ^ k % 2 = 1) = b) : bits .and .u32 ((x : Int) / 2 ^ k) 1 = if b then 1 else 0 := by
  have h2 : x / 2 ^ k < 4294967296 := Nat.lt_of_le_of_lt (Nat.div_le_self _ _) hx
  rw [pow_cast, ← Int.natCast_ediv, show (1 : Int) = ((1 : Nat) : Int) from rfl, u32_and_nat _ _ h2 (by omega), Nat.and_one_is_mod, ← h]
  have := Nat.mod_two_eq_zero_or_one (x / 2 ^ k)
  rcases this with h | h <;> rw [h] <;> simp
theorem build_one (w : World) : (Instr.build 38 #[(0, dcell 1)]).run Tryd.prog w = .ok (numD (nD 1)) w := by kernel_rfl
set_option maxRecDepth 100000 in
set_option maxHeartbeats 2000000 in
theorem refPower_over (a e r : List Nat) (T Q : Nat → List Nat) (B : Nat → Bool) (w : World) (HA : Hid (a.length = 8)) (HE : Hid (e.length = 8)) (HL : Hid (∀ k, (T k).length = 8 ∧ (Q k).length = 8)) (H0 : Hid (T 256 = nD 1)) (HR : Hid (T 0 = r))
    (HB : Hid (∀ k, k < 256 → decide (e.getD (k / 32) 0 / 2 ^ (k % 32) % 2 = 1) = B k)) (HQ : Hid (∀ k, k < 256 → B k = false → Q k = T k)) (HX : Hid (∀ k, e.getD k 0 < 4294967296))
    (CQ : Hid (∀ k, k < 256 → ∀ W, Calls Tryd.prog 17 #[numD (T (k + 1)), numD (T (k + 1))] W fun e w' => e = .returned (numD (Q k)) ∧ Below W.heap.size W w'))
    (CM : Hid (∀ k, k < 256 → B k = true → ∀ W, Calls Tryd.prog 17 #[numD (Q k), numD a] W fun e w' => e = .returned (numD (T k)) ∧ Below W.heap.size W w')) :
    Calls Tryd.prog 34 #[numD a, numD e] w fun x w' => x = .returned (numD r) ∧ Below w.heap.size w w' := by
  obtain ⟨one, HONE⟩ := namedF (nD 1)
  have HOL : Hid (one.length = 8) := by show _ = _; rw [← HONE.out]; rfl
  have BO := build_one
  rw [HONE.out] at BO H0
  go_enter Tryd.func34, Tryd.ntmps34
  go_wp2_with (first
    | (refine vtake_step rfl 38 (.tmp 0) rfl (a.map dcell) rfl ?_
       intro w1 hB1 hA1
       try simp only [Act.put, List.setIfInBounds_toArray, List.set_cons_zero, List.set_cons_succ]
       skip)
    | (refine vtake_step rfl 38 (.tmp 1) rfl (e.map dcell) rfl ?_
       intro w2 hb2 hC2
       have hB2 := below_then hB1 hb2
       have hA2 := hA1.on hb2
       have hg1 := hA1.lt
       clear hB1 hA1 hb2
       try simp only [Act.put, List.setIfInBounds_toArray, List.set_cons_zero, List.set_cons_succ]
       skip)
    | (refine vzero_step (o := ⟨some 4, _, _, _, _, _⟩) rfl 38 rfl (dzeros 8) zero_ND ?_
       intro w3 hb3 hZ3
       have hB3 := below_then hB2 hb3
       have hA3 := hA2.on hb3
       have hC3 := hC2.on hb3
       have hg2 := hC2.lt
       clear hB2 hA2 hC2 hb3
       try simp only [Act.put, List.setIfInBounds_toArray, List.set_cons_zero, List.set_cons_succ]
       skip)
    | (refine build_step rfl 38 _ rfl [(0, dcell 1)] rfl _ BO ?_
       try simp only [Act.put, List.setIfInBounds_toArray, List.set_cons_zero, List.set_cons_succ]
       skip)
    | (refine vput_step rfl rfl 38 (.tmp 5) (.tmp 7) rfl rfl 8 (dzeros 8) (one.map dcell) rfl rfl zero_ND rfl size_ND (by rw [List.length_map, HOL.out]) (dcells_one _) ?_
       intro w4 hb4 hS4
       have hB4 := below_then hB3 hb4
       have hA4 := hA3.on hb4
       have hC4 := hC3.on hb4
       have hZ4 := hZ3.on hb4
       have hg3 := hZ3.lt
       clear hB3 hA3 hC3 hZ3 hb4
       try simp only [Act.put, List.setIfInBounds_toArray, List.set_cons_zero, List.set_cons_succ]
       skip))
  generalize hg : w1.heap.size = gb at *
  generalize hh : w2.heap.size = gz at *
  generalize hi : w3.heap.size = gs at *
  clear hg hh hi
  go_loopw [6] (fun i wr => ∃ j : Nat, j ≤ 256 ∧ i = .int .i64 ((j : Int) - 1) ∧ Below w.heap.size w wr ∧ Cells wr w.heap.size (a.map dcell) 38 ∧ Cells wr gb (e.map dcell) 38 ∧ Cells wr gz (dzeros 8) 38 ∧ Cells wr gs ((T j).map dcell) 38) (fun i _ => ((intOf i) + 1).toNat)
  case atStart => exact ⟨256, Nat.le_refl _, rfl, hB4, hA4, hC4, hZ4, by rw [H0.out]; exact hS4⟩
  case round =>
    clear hB4 hA4 hC4 hZ4 hS4
    obtain ⟨j, hj, rfl, hB, hA, hC, hZ, hS⟩ := hrel
    by_cases h0 : 0 < j
    · obtain ⟨k, rfl⟩ : ∃ k, j = k + 1 := ⟨j - 1, by omega⟩
      have hk : k < 256 := by omega
      have e1 : (((k + 1 : Nat) : Int) - 1) = (k : Int) := by omega
      have i1 : (0 : Int) ≤ (k : Int) := by omega
      have i2 : (k : Int) < 256 := by omega
      have i3 : IntKind.i64.wrap ((k : Int) - 1) = (k : Int) - 1 := IntWalk.i64_in _ (by omega)
      rw [e1]
      have HQk := Lib.hid (HQ.out k hk)
      have CQk := Lib.hid (CQ.out k hk)
      have CMk := Lib.hid (CM.out k hk)
      have HBk := Lib.hid (HB.out k hk)
      have HTL := Lib.hid (HL.out (k + 1)).1
      have HQL := Lib.hid (HL.out k).2
      have HNL := Lib.hid (HL.out k).1
      have hx := HX.out (k / 32)
      have d0 := Lib.hid (dat e (k / 32) (by rw [HE.out]; omega))
      generalize e.getD (k / 32) 0 = x at *
      obtain ⟨nx, HNX⟩ := namedF (T k)
      rw [HNX.out] at HQk CMk HNL
      generalize T (k + 1) = s at *
      generalize Q k = q at *
      generalize B k = b at *
      clear HB HQ CQ CM HL H0 HR HX
      go_wp2_with (first
        | (refine sget_step rfl 38 (.tmp 5) rfl gs 8 (s.map dcell) rfl hS Tryd.underlying38 rfl size_ND (by rw [List.length_map, HTL.out]) ?_
           try simp only [Act.put, List.setIfInBounds_toArray, List.set_cons_zero, List.set_cons_succ]
           skip))
      refine (CQk.out wr).mono ?_
      rintro x1 w5 ⟨rfl, hb5⟩
      have hB5 := below_then hB hb5
      have hA5 := hA.on hb5
      have hC5 := hC.on hb5
      have hZ5 := hZ.on hb5
      have hS5 := hS.on hb5
      clear CQk hB hA hC hZ hS hb5
      have hbit := bit_at x (k % 32) b hx HBk.out
      have d5 := hC5.get d0.out
      cases b
      · obtain rfl := HQk.out rfl
        clear CMk HBk HQk
        go_wp2_with (first
          | (refine vset_step rfl 38 _ _ rfl gs 8 (s.map dcell) (q.map dcell) rfl rfl hS5 (by rw [List.length_map, HTL.out]) size_ND (by rw [List.length_map, HQL.out]) (dcells_one _) ?_
             intro w6 hb6 hS6 _
             have hB6 := hB5.trans (hb6.below (by omega) hB5.size)
             have hA6 := hA5.but hb6 (by omega)
             have hC6 := hC5.but hb6 (by omega)
             have hZ6 := hZ5.but hb6 (by omega)
             have d1 := hC6.get d0.out
             clear hB5 hA5 hC5 hZ5 hS5 hb6 d5 d0))
        go_roundw
        case rel => first | exact ⟨k, by omega, by go_num, hB6, hA6, hC6, hZ6, by rw [HNX.out]; exact hS6⟩ | trace_state
        case measure => simp [intOf] <;> omega
      · clear HQk HBk
        go_wp2_with (first
          | (refine vset_step rfl 38 _ _ rfl gs 8 (s.map dcell) (q.map dcell) rfl rfl hS5 (by rw [List.length_map, HTL.out]) size_ND (by rw [List.length_map, HQL.out]) (dcells_one _) ?_
             intro w6 hb6 hS6 _
             have hB6 := hB5.trans (hb6.below (by omega) hB5.size)
             have hA6 := hA5.but hb6 (by omega)
             have hC6 := hC5.but hb6 (by omega)
             have hZ6 := hZ5.but hb6 (by omega)
             have d1 := hC6.get d0.out
             clear hB5 hA5 hC5 hZ5 hS5 hb6 d5 d0)
          | (refine sget_step rfl 38 (.tmp 5) rfl gs 8 (q.map dcell) rfl hS6 Tryd.underlying38 rfl size_ND (by rw [List.length_map, HQL.out]) ?_
             try simp only [Act.put, List.setIfInBounds_toArray, List.set_cons_zero, List.set_cons_succ]
             skip)
          | (refine sget_step rfl 38 (.tmp 2) rfl w.heap.size 8 (a.map dcell) rfl hA6 Tryd.underlying38 rfl size_ND (by rw [List.length_map, HA.out]) ?_
             try simp only [Act.put, List.setIfInBounds_toArray, List.set_cons_zero, List.set_cons_succ]
             skip))
        refine (CMk.out trivial w6).mono ?_
        rintro x1 w7 ⟨rfl, hb7⟩
        have hB7 := below_then hB6 hb7
        have hA7 := hA6.on hb7
        have hC7 := hC6.on hb7
        have hZ7 := hZ6.on hb7
        have hS7 := hS6.on hb7
        clear CMk hB6 hA6 hC6 hZ6 hS6 hb7 d1
        go_wp2_with (first
          | (refine vset_step rfl 38 _ _ rfl gs 8 (q.map dcell) (nx.map dcell) rfl rfl hS7 (by rw [List.length_map, HQL.out]) size_ND (by rw [List.length_map, HNL.out]) (dcells_one _) ?_
             intro w8 hb8 hS8 _
             have hB8 := hB7.trans (hb8.below (by omega) hB7.size)
             have hA8 := hA7.but hb8 (by omega)
             have hC8 := hC7.but hb8 (by omega)
             have hZ8 := hZ7.but hb8 (by omega)
             clear hB7 hA7 hC7 hZ7 hS7 hb8))
        go_roundw
        case rel => first | exact ⟨k, by omega, by go_num, hB8, hA8, hC8, hZ8, by rw [HNX.out]; exact hS8⟩ | trace_state
        case measure => simp [intOf] <;> omega
    · obtain rfl : j = 0 := by omega
      rw [show (((0 : Nat) : Int) - 1) = -1 from rfl]
      rw [HR.out] at hS
      have HTL := Lib.hid (HL.out 0).1
      rw [HR.out] at HTL
      clear HB HQ CQ CM HL H0 HX hA hC
      go_wp2_with (first
        | (refine sget_step rfl 38 (.tmp 5) rfl gs 8 (r.map dcell) rfl hS Tryd.underlying38 rfl size_ND (by rw [List.length_map, HTL.out]) ?_
           try simp only [Act.put, List.setIfInBounds_toArray, List.set_cons_zero, List.set_cons_succ]
           skip)
        | (refine vset_step rfl 38 _ _ rfl gz 8 (dzeros 8) (r.map dcell) rfl rfl hZ rfl size_ND (by rw [List.length_map, HTL.out]) (dcells_one _) ?_
           intro w6 hb6 hZ6 _
           have hB6 := hB.trans (hb6.below (by omega) hB.size)
           clear hB hS hb6))
      exact sret Tryd.results34 gz (r.map dcell) rfl hZ6 Tryd.underlying38 rfl size_ND (by rw [List.length_map, HTL.out]) rfl ⟨rfl, hB6⟩
end Go.Proofs.YtlhgabhjbnckkaaDoor
namespace Go.Proofs.YtlhgabhjbnckkaaDoor
open Go.RowKit
theorem nD_at (n i : Nat) (h : i < 8) : (nD n).getD i 0 = n / 2 ^ (32 * i) % 2 ^ 32 := by
  rcases (show i = 0 ∨ i = 1 ∨ i = 2 ∨ i = 3 ∨ i = 4 ∨ i = 5 ∨ i = 6 ∨ i = 7 by omega) with rfl | rfl | rfl | rfl | rfl | rfl | rfl | rfl <;> simp [nD]
theorem nD_bit (n k : Nat) (h : k < 256) : decide ((nD n).getD (k / 32) 0 / 2 ^ (k % 32) % 2 = 1) = n.testBit k := by
  rw [← Nat.testBit_eq_decide_div_mod_eq, nD_at n (k / 32) (by omega), Nat.testBit_mod_two_pow, Nat.testBit_div_two_pow, show k % 32 + 32 * (k / 32) = k by omega, decide_eq_true (show k % 32 < 32 by omega), Bool.true_and]
/-- The power by the bits of e above the k lowest. -/
def tN (a e k : Nat) : Nat := a ^ (e / 2 ^ k) % pp
theorem tN_top (a e : Nat) (h : e < mm) : tN a e 256 = 1 := by
  rw [tN, Nat.div_eq_of_lt (Nat.lt_of_lt_of_le h (by decide +kernel)), Nat.pow_zero]
  decide
theorem tN_zero (a e : Nat) : tN a e 0 = a ^ e % pp := by rw [tN, Nat.pow_zero, Nat.div_one]
theorem tN_lt (a e k : Nat) : tN a e k < mm := Nat.lt_trans (Nat.mod_lt _ (by decide)) (by decide)
theorem halves (e k : Nat) : e / 2 ^ k = e / 2 ^ (k + 1) + e / 2 ^ (k + 1) + e / 2 ^ k % 2 := by
  rw [Nat.pow_succ, ← Nat.div_div_eq_div_mul]; omega
theorem tN_even (a e k : Nat) (h : e.testBit k = false) : tN a e (k + 1) * tN a e (k + 1) % pp = tN a e k := by
  rw [Nat.testBit_eq_decide_div_mod_eq, decide_eq_false_iff_not] at h
  rw [tN, tN, halves e k, show e / 2 ^ k % 2 = 0 by omega, Nat.add_zero (e / 2 ^ (k + 1) + e / 2 ^ (k + 1))]
  generalize e / 2 ^ (k + 1) = y
  rw [Nat.pow_add a y y, ← Nat.mul_mod]
theorem tN_odd (a e k : Nat) (h : e.testBit k = true) : (tN a e (k + 1) * tN a e (k + 1) % pp) * a % pp = tN a e k := by
  rw [Nat.testBit_eq_decide_div_mod_eq, decide_eq_true_eq] at h
  rw [tN, tN, halves e k, h]
  generalize e / 2 ^ (k + 1) = y
  rw [Nat.pow_succ, Nat.pow_add, ← Nat.mul_mod, Nat.mod_mul_mod]
theorem refPower_any (a e : Nat) (w : World) (ha : a < mm) (he : e < mm) : Calls Tryd.prog 34 #[numD (nD a), numD (nD e)] w fun x w' => x = .returned (numD (nD (a ^ e % pp))) ∧ Below w.heap.size w w' :=
  refPower_over (nD a) (nD e) _ (fun k => nD (tN a e k)) (fun k => nD (tN a e (k + 1) * tN a e (k + 1) % pp)) (fun k => e.testBit k) w rfl rfl (fun _ => ⟨rfl, rfl⟩) (congrArg nD (tN_top a e he)) (congrArg nD (tN_zero a e)) (fun k hk => nD_bit e k hk) (fun k _ hb => congrArg nD (tN_even a e k hb)) (nD_D8 e).2
    (fun k _ W => refTimes_any _ _ W (tN_lt a e (k + 1)) (tN_lt a e (k + 1)))
    (fun k _ hb W => (refTimes_any _ _ W (Nat.lt_trans (Nat.mod_lt _ (by decide)) (by decide)) ha).mono (by
      rintro x w' ⟨rfl, h⟩
      exact ⟨by rw [tN_odd a e k hb], h⟩))
end Go.Proofs.YtlhgabhjbnckkaaDoor
namespace Go.Proofs.YtlhgabhjbnckkaaDoor
open Go.RowKit
theorem build_ND2 (w : World) : (Instr.build 38 #[(0, dcell 2)]).run Tryd.prog w = .ok (numD (nD 2)) w := by kernel_rfl
def refInvertVs (a p t m r : List Nat) (ga gz : Nat) : List Value :=
  (numD a) :: (.pointer (some ⟨ga, 0, none⟩)) :: (.pointer (some ⟨gz, 0, none⟩)) :: (numD a) :: (numD p) :: (numD t) :: (numD m) :: (numD r) :: []
set_option maxRecDepth 100000 in
theorem refInvert_over (a p t m r : List Nat) (w : World) (HA : Hid (a.length = 8)) (HR : Hid (r.length = 8)) (BT : ∀ w, (Instr.build 38 #[(0, dcell 2)]).run Tryd.prog w = .ok (numD t) w)
    (CP : Hid (∀ W, Calls Tryd.prog 33 #[] W fun e w' => e = .returned (numD p) ∧ Below W.heap.size W w')) (CM : Hid (∀ W, Calls Tryd.prog 32 #[numD p, numD t] W fun e w' => e = .returned (numD m) ∧ Below W.heap.size W w')) (CA : Hid (∀ W, Calls Tryd.prog 34 #[numD a, numD m] W fun e w' => e = .returned (numD r) ∧ Below W.heap.size W w')) :
    Calls Tryd.prog 20 #[numD a] w fun e w' => e = .returned (numD r) ∧ Below w.heap.size w w' := by
  go_enter Tryd.func20, Tryd.ntmps20
  go_wp2_with (first
    | (refine vtake_step rfl 38 (.tmp 0) rfl (a.map dcell) rfl ?_
       intro w1 hB1 hAa
       try simp only [Act.put, List.setIfInBounds_toArray, List.set_cons_zero, List.set_cons_succ]
       skip)
    | (refine vzero_step rfl 38 rfl (dzeros 8) zero_ND ?_
       intro w9 hb hZ
       have hB := below_then hB1 hb
       have hle := hB1.size
       have hla := hAa.lt
       replace hAa := hAa.on hb
       clear hB1 hb
       try simp only [Act.put, List.setIfInBounds_toArray, List.set_cons_zero, List.set_cons_succ]
       skip))
  generalize hgz : w1.heap.size = gz at *
  clear hgz
  refine wp_region_any (by kernel_rfl) ?_
  refine wpAny_flatAt (L := [0, 1, 2, 3, 4]) (by kernel_rfl) _ _ (refInvertVs a p t m r w.heap.size gz) [0, 1, 2] (by kernel_rfl) ?_ (by rfl) ?_ 1 (by kernel_rfl) ?_
  · exact all_cons rfl (all_cons rfl (all_cons rfl (all_nil)))
  · change ∀ i ∈ _, StepOk _ _ _ _ _ w9.drew _ i
    refine all_cons (stepPure _ 3 rfl rfl rfl (by kernel_rfl) (by kernel_rfl) fun a w hb hv => exec_load _ _ _ _ rfl _ _ (hv 1 (by kernel_rfl)) w (num_run (hAa.drew.on hb) HA.out)) ?_
    refine all_cons (stepCall _ 4 rfl rfl rfl (by kernel_rfl) (by kernel_rfl) 33 _ _ rfl [] (fun a hv => rfl) (enters Tryd.func33 rfl rfl) (fun w hb => CP.out w)) ?_
    refine all_cons (stepPure _ 5 rfl rfl rfl (by kernel_rfl) (by kernel_rfl) fun a w hb hv => exec_build _ _ _ [(0, .const (.int .u32 2))] rfl [(0, dcell 2)] rfl _ w (BT w)) ?_
    refine all_cons (stepCall _ 6 rfl rfl rfl (by kernel_rfl) (by kernel_rfl) 32 _ _ rfl [numD p, numD t] (fun a hv => cons_eq (hv 4 (by kernel_rfl)) (cons_eq (hv 5 (by kernel_rfl)) (rfl))) (enters Tryd.func32 rfl rfl) (fun w hb => CM.out w)) ?_
    refine all_cons (stepCall _ 7 rfl rfl rfl (by kernel_rfl) (by kernel_rfl) 34 _ _ rfl [numD a, numD m] (fun a hv => cons_eq (hv 3 (by kernel_rfl)) (cons_eq (hv 6 (by kernel_rfl)) (rfl))) (enters Tryd.func34 rfl rfl) (fun w hb => CA.out w)) ?_
    exact all_nil
  intro w4 hb4
  have hB4 := below_then (show Below w.heap.size w w9.drew from hB.drew) hb4
  have hZ4 := hZ.drew.on hb4
  refine wpAny_rest 5 rfl (by kernel_rfl) ?_
  refine vset_step rfl 38 (.tmp 2) (.tmp 7) rfl gz 8 (dzeros 8) (r.map dcell) rfl rfl hZ4 rfl size_ND (by rw [List.length_map, HR.out]) (dcells_one _) ?_
  intro w7 hb7 hC7 hz7
  generalize hF : (⟨(refInvertVs a p t m r w.heap.size gz).toArray, []⟩ : Act) = F
  rename_i K hKK
  show Exit.then K _ Exit.normal (F.put none undef) w7
  simp only [Exit.then]
  refine hKK _ _ ?_
  refine wp_ret ?_
  subst hF
  exact sret Tryd.results20 gz (r.map dcell) rfl hC7 Tryd.underlying38 rfl size_ND (by rw [List.length_map, HR.out]) rfl ⟨rfl, hB4.trans (hb7.below (by omega) hB4.size)⟩
theorem refInvert_any (n : Nat) (w : World) (hn : n < mm) : Calls Tryd.prog 20 #[numD (nD n)] w fun e w' => e = .returned (numD (nD (n ^ (pp - 2) % pp))) ∧ Below w.heap.size w w' :=
  refInvert_over (nD n) (nD pp) (nD 2) (nD (pp - 2)) _ w rfl rfl build_ND2 refP_any (fun W => refMinus_any pp 2 W (by decide) (by decide)) (fun W => refPower_any n (pp - 2) W hn (by decide))
/-- The document's Curve. -/
def curveN : Nat := 37095705934669439343138083508754565189542113879843219016388785533085940283555
/-- The document's BaseY. -/
def baseYN : Nat := 46316835694926478169428394003475163141307993866256225615783033603165251855960
/-- The document's BaseX. -/
def baseXN : Nat := 15112221349535400772501151409588531511454012693041857206046113283949847762202
end Go.Proofs.YtlhgabhjbnckkaaDoor
namespace Go.Proofs.YtlhgabhjbnckkaaDoor
open Go.RowKit
theorem nD_get (n k : Nat) (h : k < (nD n).length) : (nD n)[k] = n / 2 ^ (32 * k) % 2 ^ 32 := by
  rw [← nD_at n k h, List.getD_eq_getElem?_getD, List.getElem?_eq_getElem h]; rfl
theorem nD_add (n x i : Nat) (hn : n < 2 ^ (8 * i)) (hx : x < 256) : nD (n + x * 2 ^ (8 * i)) = (nD n).set (i / 4) ((nD n).getD (i / 4) 0 + x * 2 ^ (8 * (i % 4))) := by
  apply List.ext_getElem (by rw [List.length_set]; rfl)
  intro k h1 h2
  have hk : k < 8 := h1
  rw [nD_get _ k h1, List.getElem_set]
  split
  · rename_i e
    subst e
    rw [nD_at n _ hk]
    have hE : 2 ^ (8 * i) = 2 ^ (8 * (i % 4)) * 2 ^ (32 * (i / 4)) := by rw [← Nat.pow_add]; congr 1; omega
    have hP : 2 ^ (8 * (i % 4)) ≤ 16777216 := Nat.le_trans (Nat.pow_le_pow_right (by decide) (show 8 * (i % 4) ≤ 24 by omega)) (by decide)
    have hD : 0 < 2 ^ (32 * (i / 4)) := Nat.two_pow_pos _
    rw [hE] at hn ⊢
    generalize 2 ^ (8 * (i % 4)) = P at *
    generalize 2 ^ (32 * (i / 4)) = D at *
    have h3 : n / D < P := Nat.div_lt_of_lt_mul (by rw [Nat.mul_comm]; exact hn)
    rw [← Nat.mul_assoc, Nat.add_mul_div_right _ _ hD]
    have h4 : x * P ≤ 255 * P := Nat.mul_le_mul_right _ (by omega)
    rw [Nat.mod_eq_of_lt (show n / D + x * P < 2 ^ 32 by omega), Nat.mod_eq_of_lt (show n / D < 2 ^ 32 by omega)]
  · rename_i e
    rw [nD_get]
    rcases Nat.lt_or_ge k (i / 4) with h | h
    · have hE : 2 ^ (8 * i) = 2 ^ 32 * 2 ^ (8 * i - 32 * (k + 1)) * 2 ^ (32 * k) := by rw [← Nat.pow_add, ← Nat.pow_add]; congr 1; omega
      rw [hE]
      generalize 2 ^ (8 * i - 32 * (k + 1)) = F
      rw [← Nat.mul_assoc, Nat.add_mul_div_right _ _ (Nat.two_pow_pos _), ← Nat.mul_assoc, Nat.mul_comm x, Nat.mul_assoc, Nat.add_mul_mod_self_left]
    · have hL : 2 ^ (8 * i) * 256 ≤ 2 ^ (32 * k) := by
        rw [show 256 = 2 ^ 8 from rfl, ← Nat.pow_add]; exact Nat.pow_le_pow_right (by decide) (by omega)
      generalize 2 ^ (8 * i) = E at *
      generalize 2 ^ (32 * k) = G at *
      have h4 : x * E ≤ 255 * E := Nat.mul_le_mul_right _ (by omega)
      rw [Nat.div_eq_of_lt (show n + x * E < G by omega), Nat.div_eq_of_lt (show n < G by omega)]
end Go.Proofs.YtlhgabhjbnckkaaDoor
