/- Part 10 of what the laws of this seat share: GNum, GMinus, GLeast, GCarry, GFold. -/
import Derived.IntWalk
import Derived.Test.YtlhgabhjbnckkaaDoorPart9
namespace Go.Proofs.YtlhgabhjbnckkaaDoor
open Go.RowKit
/-- A word of 32 bits as a cell holds it. -/
abbrev dcell (x : Nat) : Value := .int .u32 (x : Int)
def numD (l : List Nat) : Value := .agg (l.map dcell).toArray
def dzeros (n : Nat) : List Value := List.replicate n (dcell 0)
/-- The first words' number. -/
def pre (l : List Nat) : Nat → Nat
  | 0 => 0
  | i + 1 => pre l i + l.getD i 0 * 4294967296 ^ i
/-- A number's eight words. -/
def nD (n : Nat) : List Nat := [n % 4294967296, n / 4294967296 % 4294967296, n / 18446744073709551616 % 4294967296, n / 79228162514264337593543950336 % 4294967296, n / 340282366920938463463374607431768211456 % 4294967296, n / 1461501637330902918203684832716283019655932542976 % 4294967296, n / 6277101735386680763835789423207666416102355444464034512896 % 4294967296, n / 26959946667150639794667015087019630673637144422540572481103610249216 % 4294967296]
theorem nD_length (n : Nat) : (nD n).length = 8 := rfl
/-- 2^256. -/
abbrev mm : Nat := 115792089237316195423570985008687907853269984665640564039457584007913129639936
theorem dzeros_map (n : Nat) : dzeros n = (List.replicate n 0).map dcell := by simp [dzeros]
theorem dcells_one (l : List Nat) : (l.map dcell).toArray.all (·.oneCell') = true := all_oneCell_toArray (by intro v hv; obtain ⟨x, _, rfl⟩ := List.mem_map.1 hv; rfl)
theorem dat (l : List Nat) (k : Nat) (hk : k < l.length) : (l.map dcell)[k]? = some (dcell (l.getD k 0)) := by
  rw [List.getElem?_map, List.getD_eq_getElem?_getD, List.getElem?_eq_getElem hk]
  rfl
theorem dset_map (l : List Nat) (k x : Nat) : (l.map dcell).set k (dcell x) = (l.set k x).map dcell := by rw [List.map_set]
/-- Eight words, each below 2^32. -/
def D8 (l : List Nat) : Prop := l.length = 8 ∧ ∀ k, l.getD k 0 < 4294967296
theorem eight_of {α : Type} (l : List α) (h : l.length = 8) : ∃ a b c d e f g i, l = [a, b, c, d, e, f, g, i] := by
  match l, h with
  | [a, b, c, d, e, f, g, i], _ => exact ⟨a, b, c, d, e, f, g, i, rfl⟩
theorem pre_eight (a b c d e f g i : Nat) : pre [a, b, c, d, e, f, g, i] 8 = a + b * 4294967296 + c * 18446744073709551616 + d * 79228162514264337593543950336 + e * 340282366920938463463374607431768211456 + f * 1461501637330902918203684832716283019655932542976 + g * 6277101735386680763835789423207666416102355444464034512896 + i * 26959946667150639794667015087019630673637144422540572481103610249216 := by
  simp [pre]
theorem nD_D8 (n : Nat) : D8 (nD n) := by
  refine ⟨rfl, fun k => ?_⟩
  rcases Nat.lt_or_ge k 8 with h | h
  · rcases (show k = 0 ∨ k = 1 ∨ k = 2 ∨ k = 3 ∨ k = 4 ∨ k = 5 ∨ k = 6 ∨ k = 7 by omega) with rfl | rfl | rfl | rfl | rfl | rfl | rfl | rfl <;> exact Nat.mod_lt _ (by decide)
  · rw [List.getD_eq_getElem?_getD, List.getElem?_eq_none (by rw [nD_length]; exact h)]; decide
theorem pre_nD (n : Nat) (h : n < mm) : pre (nD n) 8 = n := by
  rw [nD, pre_eight]; simp only [mm] at h; omega
theorem D8.is {l : List Nat} (h : D8 l) : l = nD (pre l 8) := by
  obtain ⟨a, b, c, d, e, f, g, i, rfl⟩ := eight_of l h.1
  have h0 : a < 4294967296 := h.2 0
  have h1 : b < 4294967296 := h.2 1
  have h2 : c < 4294967296 := h.2 2
  have h3 : d < 4294967296 := h.2 3
  have h4 : e < 4294967296 := h.2 4
  have h5 : f < 4294967296 := h.2 5
  have h6 : g < 4294967296 := h.2 6
  have h7 : i < 4294967296 := h.2 7
  rw [pre_eight]
  simp only [nD, List.cons.injEq, and_true]
  refine ⟨?_, ?_, ?_, ?_, ?_, ?_, ?_, ?_⟩ <;> omega
theorem D8.lt {l : List Nat} (h : D8 l) : pre l 8 < mm := by
  obtain ⟨a, b, c, d, e, f, g, i, rfl⟩ := eight_of l h.1
  have h0 : a < 4294967296 := h.2 0
  have h1 : b < 4294967296 := h.2 1
  have h2 : c < 4294967296 := h.2 2
  have h3 : d < 4294967296 := h.2 3
  have h4 : e < 4294967296 := h.2 4
  have h5 : f < 4294967296 := h.2 5
  have h6 : g < 4294967296 := h.2 6
  have h7 : i < 4294967296 := h.2 7
  rw [pre_eight]; simp only [mm]; omega
/-- A word set: the number below it stays. -/
theorem pre_set_ge (l : List Nat) (j v : Nat) : ∀ i, i ≤ j → pre (l.set j v) i = pre l i
  | 0, _ => rfl
  | i + 1, h => by
    rw [pre, pre, pre_set_ge l j v i (by omega), List.getD_eq_getElem?_getD, List.getElem?_set_ne (by omega), ← List.getD_eq_getElem?_getD]
theorem getD_set_eq (l : List Nat) (j v : Nat) (h : j < l.length) : (l.set j v).getD j 0 = v := by
  rw [List.getD_eq_getElem?_getD, List.getElem?_set_self h]; rfl
theorem getD_set_neN (l : List Nat) (j k v : Nat) (h : j ≠ k) : (l.set j v).getD k 0 = l.getD k 0 := by
  rw [List.getD_eq_getElem?_getD, List.getElem?_set_ne h, ← List.getD_eq_getElem?_getD]
theorem pre_set (l : List Nat) (j v : Nat) (h : j < l.length) : pre (l.set j v) (j + 1) = pre l j + v * 4294967296 ^ j := by
  rw [pre, pre_set_ge l j v j (Nat.le_refl _), getD_set_eq l j v h]
theorem set_lt {l : List Nat} {b : Nat} (h : ∀ k, l.getD k 0 < b) (j v : Nat) (hv : v < b) : ∀ k, (l.set j v).getD k 0 < b := fun k => by
  by_cases e : j = k
  · subst e
    rcases Nat.lt_or_ge j l.length with hl | hl
    · rw [getD_set_eq l j v hl]; exact hv
    · rw [List.set_eq_of_length_le hl]; exact h j
  · rw [getD_set_neN l j k v e]; exact h k
theorem D8.set {l : List Nat} (h : D8 l) (j v : Nat) (hv : v < 4294967296) : D8 (l.set j v) := ⟨by rw [List.length_set]; exact h.1, set_lt h.2 j v hv⟩
theorem D8.zeros : D8 [0, 0, 0, 0, 0, 0, 0, 0] := by
  refine ⟨rfl, fun k => ?_⟩
  rcases Nat.lt_or_ge k 8 with h | h
  · rcases (show k = 0 ∨ k = 1 ∨ k = 2 ∨ k = 3 ∨ k = 4 ∨ k = 5 ∨ k = 6 ∨ k = 7 by omega) with rfl | rfl | rfl | rfl | rfl | rfl | rfl | rfl <;> decide
  · rw [List.getD_eq_getElem?_getD, List.getElem?_eq_none (show [0, 0, 0, 0, 0, 0, 0, 0].length ≤ k from h)]; decide
theorem zero_ND : ∀ w, (zeroValue 38).run Tryd.prog w = .ok (.agg (dzeros 8).toArray) w := (zero_of_info (P := Tryd.prog) (t := 38) (v := .agg (dzeros 8).toArray) (n := 8) (by kernel_rfl)).1
theorem size_ND : (Tryd.prog.info? 38).map (·.size) = some 8 := by kernel_rfl
theorem size_w32 : (Tryd.prog.info? 36).map (·.size) = some 1 := by kernel_rfl
theorem build_ND0 (w : World) : (Instr.build 38 #[]).run Tryd.prog w = .ok (.agg (dzeros 8).toArray) w := by kernel_rfl
theorem dzeros8 : dzeros 8 = [0, 0, 0, 0, 0, 0, 0, 0].map dcell := rfl
theorem u64_id (x : Nat) (h : x < 18446744073709551616) : IntKind.u64.wrap (x : Int) = (x : Int) := by rw [IntKind.wrap_u64]; omega
theorem u32_mod (x : Nat) : IntKind.u32.wrap (x : Int) = ((x % 4294967296 : Nat) : Int) := by rw [IntKind.wrap_u32]; omega
/-- The document's p. -/
theorem refP_any (w : World) : Calls Tryd.prog 33 #[] w fun e w' => e = .returned (numD (nD pp)) ∧ Below w.heap.size w w' := by
  have BP : ∀ w, (Instr.build 38 #[(0, dcell 4294967277), (1, dcell 4294967295), (2, dcell 4294967295), (3, dcell 4294967295), (4, dcell 4294967295), (5, dcell 4294967295), (6, dcell 4294967295), (7, dcell 2147483647)]).run Tryd.prog w = .ok (numD (nD pp)) w := fun w => by kernel_rfl
  obtain ⟨r, HR⟩ := namedF (nD pp)
  have HL : Hid (r.length = 8) := by show _ = _; rw [← HR.out]; rfl
  rw [HR.out] at BP ⊢
  go_enter Tryd.func33, Tryd.ntmps33
  go_wp2_with (first
    | (refine vzero_step rfl 38 rfl (dzeros 8) zero_ND ?_
       intro w3 hB3 hZ3)
    | (refine build_step rfl 38 _ rfl [(0, dcell 4294967277), (1, dcell 4294967295), (2, dcell 4294967295), (3, dcell 4294967295), (4, dcell 4294967295), (5, dcell 4294967295), (6, dcell 4294967295), (7, dcell 2147483647)] rfl _ BP ?_)
    | (refine vset_step rfl 38 _ _ rfl w.heap.size 8 (dzeros 8) (r.map dcell) rfl rfl hZ3 rfl size_ND (by rw [List.length_map, HL.out]) (dcells_one _) ?_
       intro w6 hb6 hC6 _))
  exact sret Tryd.results33 w.heap.size (r.map dcell) rfl hC6 Tryd.underlying38 rfl size_ND (by rw [List.length_map, HL.out]) rfl ⟨rfl, hB3.trans (hb6.below (Nat.le_refl _) hB3.size)⟩
end Go.Proofs.YtlhgabhjbnckkaaDoor
namespace Go.Proofs.YtlhgabhjbnckkaaDoor
open Go.RowKit
/-- minus, k words on: what is written, what is owed. -/
def miX (a b : List Nat) (o k : Nat) : Nat := a.getD k 0 + 4294967296 - b.getD k 0 - o
def miTo (a b : List Nat) : Nat → List Nat × Nat
  | 0 => ([0, 0, 0, 0, 0, 0, 0, 0], 0)
  | k + 1 => ((miTo a b k).1.set k (miX a b (miTo a b k).2 k % 4294967296), 1 - miX a b (miTo a b k).2 k / 4294967296)
theorem miTo_owe (a b : List Nat) : ∀ k, (miTo a b k).2 ≤ 1
  | 0 => Nat.zero_le _
  | k + 1 => by rw [miTo]; omega
theorem miTo_D8 (a b : List Nat) : ∀ k, D8 (miTo a b k).1
  | 0 => D8.zeros
  | k + 1 => by rw [miTo]; exact (miTo_D8 a b k).set _ _ (Nat.mod_lt _ (by decide))
theorem miTo_pre {a b : List Nat} (ha : D8 a) (hb : D8 b) : ∀ k, k ≤ 8 → pre (miTo a b k).1 k + pre b k = pre a k + (miTo a b k).2 * 4294967296 ^ k
  | 0, _ => rfl
  | k + 1, h => by
    have ih := miTo_pre ha hb k (by omega)
    have hl := (miTo_D8 a b k).1
    have ho := miTo_owe a b k
    rw [miTo]
    show pre ((miTo a b k).1.set k (miX a b (miTo a b k).2 k % 4294967296)) (k + 1) + _ = _ + (1 - miX a b (miTo a b k).2 k / 4294967296) * _
    rw [pre_set _ _ _ (by omega), pre, pre, Nat.pow_succ]
    have hx : miX a b (miTo a b k).2 k = a.getD k 0 + 4294967296 - b.getD k 0 - (miTo a b k).2 := rfl
    have h1 := ha.2 k
    have h2 := hb.2 k
    generalize miX a b (miTo a b k).2 k = x at *
    generalize (miTo a b k).2 = o at *
    generalize a.getD k 0 = p at *
    generalize b.getD k 0 = q at *
    have e : x % 4294967296 + q + o = p + (1 - x / 4294967296) * 4294967296 := by omega
    have e2 : (x % 4294967296 + q + o) * 4294967296 ^ k = (p + (1 - x / 4294967296) * 4294967296) * 4294967296 ^ k := by rw [e]
    rw [Nat.add_mul, Nat.add_mul, Nat.add_mul, Nat.mul_assoc (1 - x / 4294967296), Nat.mul_comm 4294967296] at e2
    omega
theorem miTo_all {a b : List Nat} (ha : D8 a) (hb : D8 b) (h : pre b 8 ≤ pre a 8) : (miTo a b 8).1 = nD (pre a 8 - pre b 8) := by
  have h1 := miTo_pre ha hb 8 (Nat.le_refl _)
  have h2 := (miTo_D8 a b 8).lt
  have h3 := miTo_owe a b 8
  have h4 := ha.lt
  rw [(miTo_D8 a b 8).is]
  congr 1
  rw [show 4294967296 ^ 8 = mm from rfl] at h1
  simp only [mm] at *
  omega
set_option maxRecDepth 100000 in
set_option maxHeartbeats 2000000 in
theorem refMinus_over (a b r : List Nat) (S : Nat → List Nat) (O X : Nat → Nat) (w : World) (HA : Hid (a.length = 8)) (HB : Hid (b.length = 8)) (HL : Hid (∀ k, (S k).length = 8)) (H0 : Hid (S 0 = [0, 0, 0, 0, 0, 0, 0, 0] ∧ O 0 = 0)) (HS : Hid (∀ k, S (k + 1) = (S k).set k (X k % 4294967296) ∧ O (k + 1) = 1 - X k / 4294967296)) (HX : Hid (∀ k, X k = a.getD k 0 + 4294967296 - b.getD k 0 - O k)) (HO : Hid (∀ k, O k ≤ 1 ∧ a.getD k 0 < 4294967296 ∧ b.getD k 0 < 4294967296)) (HR : Hid (S 8 = r)) :
    Calls Tryd.prog 32 #[numD a, numD b] w fun e w' => e = .returned (numD r) ∧ Below w.heap.size w w' := by
  go_enter Tryd.func32, Tryd.ntmps32
  go_wp2_with (first
    | (refine vtake_step rfl 38 (.tmp 0) rfl (a.map dcell) rfl ?_
       intro w1 hB1 hA1
       try simp only [Act.put, List.setIfInBounds_toArray, List.set_cons_zero, List.set_cons_succ]
       skip)
    | (refine vtake_step rfl 38 (.tmp 1) rfl (b.map dcell) rfl ?_
       intro w2 hb2 hC2
       have hB2 := below_then hB1 hb2
       have hA2 := hA1.on hb2
       have hg1 := hA1.lt
       clear hB1 hA1 hb2
       try simp only [Act.put, List.setIfInBounds_toArray, List.set_cons_zero, List.set_cons_succ]
       skip)
    | (refine vzero_step (o := ⟨some 4, _, _, _, _, _⟩) rfl 38 rfl (dzeros 8) zero_ND ?_
       intro w3 hb3 hZ3
       have hB3 := below_then hB2 hb3
       have hA3 := hA2.on hb3
       have hC3 := hC2.on hb3
       have hg2 := hC2.lt
       clear hB2 hA2 hC2 hb3
       try simp only [Act.put, List.setIfInBounds_toArray, List.set_cons_zero, List.set_cons_succ]
       skip)
    | (refine build_step rfl 38 [] rfl [] rfl _ build_ND0 ?_
       try simp only [Act.put, List.setIfInBounds_toArray, List.set_cons_zero, List.set_cons_succ]
       skip)
    | (refine vput_step rfl rfl 38 (.tmp 5) (.tmp 9) rfl rfl 8 (dzeros 8) (dzeros 8) rfl rfl zero_ND rfl size_ND rfl (by rw [dzeros_map]; exact dcells_one _) ?_
       intro w4 hb4 hS4
       have hB4 := below_then hB3 hb4
       have hA4 := hA3.on hb4
       have hC4 := hC3.on hb4
       have hZ4 := hZ3.on hb4
       have hg3 := hZ3.lt
       clear hB3 hA3 hC3 hZ3 hb4
       try simp only [Act.put, List.setIfInBounds_toArray, List.set_cons_zero, List.set_cons_succ]
       skip))
  generalize hg : w1.heap.size = gb at *
  generalize hh : w2.heap.size = gz at *
  generalize hi : w3.heap.size = gs at *
  clear hg hh hi
  go_loopw [6, 7] (fun v i wr => ∃ k : Nat, k ≤ 8 ∧ i = .int .i64 k ∧ v = .int .u64 (O k : Int) ∧ Below w.heap.size w wr ∧ Cells wr w.heap.size (a.map dcell) 38 ∧ Cells wr gb (b.map dcell) 38 ∧ Cells wr gz (dzeros 8) 38 ∧ Cells wr gs ((S k).map dcell) 38) (fun _ i _ => 8 - (intOf i).toNat)
  case atStart => exact ⟨0, Nat.zero_le _, rfl, by rw [H0.out.2]; rfl, hB4, hA4, hC4, hZ4, by rw [H0.out.1, ← dzeros8]; exact hS4⟩
  case round =>
    clear hB4 hA4 hC4 hZ4 hS4
    obtain ⟨k, hk, rfl, rfl, hB, hA, hC, hZ, hS⟩ := hrel
    have HLk := Lib.hid (HL.out k)
    by_cases hlt : k < 8
    · have HN := Lib.hid (HS.out k)
      have hx := HX.out k
      have ho := HO.out k
      have d1 := hA.get (dat a k (by rw [HA.out]; exact hlt))
      have d2 := hC.get (dat b k (by rw [HB.out]; exact hlt))
      obtain ⟨z, HZ⟩ := namedF (S (k + 1))
      obtain ⟨o2, HO2⟩ := namedF (O (k + 1))
      rw [HZ.out, HO2.out] at HN
      generalize S k = s at *
      generalize O k = o at *
      generalize X k = x at *
      generalize a.getD k 0 = p at *
      generalize b.getD k 0 = q at *
      clear HL H0 HS HX HO HR
      have c1 := u64_id p (by omega)
      have c2 : IntKind.u64.wrap ((p : Int) + 4294967296) = ((p + 4294967296 : Nat) : Int) := wadd p 4294967296 (by omega)
      have c3 := u64_id q (by omega)
      obtain ⟨x1, hx1⟩ : ∃ x1, x1 = p + 4294967296 := ⟨_, rfl⟩
      rw [← hx1] at c2
      have c4 : IntKind.u64.wrap ((x1 : Int) - (q : Int)) = ((x1 - q : Nat) : Int) := wsub x1 q (by omega) (by omega)
      obtain ⟨x2, hx2⟩ : ∃ x2, x2 = x1 - q := ⟨_, rfl⟩
      rw [← hx2] at c4
      have c5 : IntKind.u64.wrap ((x2 : Int) - (o : Int)) = (x : Int) := by
        rw [wsub x2 o (by omega) (by omega)]; congr 1; omega
      have c6 := u32_mod x
      have c7 : IntKind.u64.wrap (1 - (x : Int) / 4294967296) = (o2 : Int) := by
        rw [HN.out.2]
        exact wsub 1 (x / 4294967296) (by omega) (by decide)
      obtain ⟨v, HV⟩ := namedF (x % 4294967296)
      rw [HV.out] at HN c6
      clear hx ho hx1 hx2 HV
      go_wp2_with fail
      go_quiet (fail)
      have hB4 : Below w.heap.size w (wr.drewN nq) := ⟨hB.os, hB.tape, hB.output, hB.size, hB.block⟩
      have hA4 := hA.drewN nq
      have hC4 := hC.drewN nq
      have hZ4 := hZ.drewN nq
      have hS4 := hS.drewN nq
      generalize wr.drewN nq = w4 at *
      clear hB hA hC hZ hS d1 d2
      have hT := hS4.there k 1 (by rw [List.length_map, HLk.out]; omega)
      have hE := Lib.hid (hS4.set k (dcell v))
      go_wp2_with (first
        | (refine store_step rfl 36 _ _ rfl gs k .u32 (v : Int) rfl rfl size_w32 hT ?_
           intro w5 hw5
           have hB5 : Below w.heap.size w w5 := by rw [hw5]; exact hB4.setCell (p := ⟨gs, k, none⟩) (by show w.heap.size ≤ gs; omega) _
           have hA5 : Cells w5 w.heap.size (a.map dcell) 38 := by rw [hw5]; exact hA4.other (by show w.heap.size ≠ gs; omega) _
           have hC5 : Cells w5 gb (b.map dcell) 38 := by rw [hw5]; exact hC4.other (by show gb ≠ gs; omega) _
           have hZ5 : Cells w5 gz (dzeros 8) 38 := by rw [hw5]; exact hZ4.other (by show gz ≠ gs; omega) _
           have hS5 : Cells w5 gs (z.map dcell) 38 := by rw [hw5, HN.out.1, ← dset_map]; exact hE.out
           clear hw5 hT hE hB4 hA4 hC4 hZ4 hS4))
      go_roundw
      case rel => exact ⟨k + 1, by omega, by go_num, by rw [HO2.out], hB5, hA5, hC5, hZ5, by rw [HZ.out]; exact hS5⟩
      case measure => simp [intOf]; omega
    · obtain rfl : k = 8 := by omega
      rw [HR.out] at hS HLk
      go_wp2_with (first
        | (refine sget_step rfl 38 _ rfl gs 8 (r.map dcell) rfl hS Tryd.underlying38 rfl size_ND (by rw [List.length_map, HLk.out]) ?_)
        | (refine vset_step rfl 38 _ _ rfl gz 8 (dzeros 8) (r.map dcell) rfl rfl hZ rfl size_ND (by rw [List.length_map, HLk.out]) (dcells_one r) ?_
           intro w7 hb7 hC7 _))
      exact sret Tryd.results32 gz (r.map dcell) rfl hC7 Tryd.underlying38 rfl size_ND (by rw [List.length_map, HLk.out]) rfl ⟨rfl, hB.trans (hb7.below (by omega) hB.size)⟩
theorem refMinus_any (n m : Nat) (w : World) (hn : n < mm) (hm : m ≤ n) : Calls Tryd.prog 32 #[numD (nD n), numD (nD m)] w fun e w' => e = .returned (numD (nD (n - m))) ∧ Below w.heap.size w w' := by
  have h := miTo_all (nD_D8 n) (nD_D8 m) (by rw [pre_nD n hn, pre_nD m (by omega)]; exact hm)
  rw [pre_nD n hn, pre_nD m (by omega)] at h
  exact refMinus_over (nD n) (nD m) _ (fun k => (miTo (nD n) (nD m) k).1) (fun k => (miTo (nD n) (nD m) k).2) (fun k => miX (nD n) (nD m) (miTo (nD n) (nD m) k).2 k) w rfl rfl (fun k => (miTo_D8 _ _ k).1) ⟨rfl, rfl⟩ (fun k => ⟨rfl, rfl⟩) (fun k => rfl) (fun k => ⟨miTo_owe _ _ k, (nD_D8 n).2 k, (nD_D8 m).2 k⟩) h
set_option maxRecDepth 100000 in
set_option maxHeartbeats 1000000 in
theorem refLess_over (a b : List Nat) (r : Bool) (w : World) (HA : Hid (a.length = 8)) (HB : Hid (b.length = 8)) (HD : Hid (∀ k, k < 8 → (∀ i, k < i → i < 8 → a.getD i 0 = b.getD i 0) → a.getD k 0 ≠ b.getD k 0 → decide (a.getD k 0 < b.getD k 0) = r)) (HE : Hid ((∀ i, i < 8 → a.getD i 0 = b.getD i 0) → r = false)) :
    Calls Tryd.prog 46 #[numD a, numD b] w fun e w' => e = .returned (.bool r) ∧ Below w.heap.size w w' := by
  go_enter Tryd.func46, Tryd.ntmps46
  go_wp2_with (first
    | (refine vtake_step rfl 38 (.tmp 0) rfl (a.map dcell) rfl ?_
       intro w1 hB1 hA1
       try simp only [Act.put, List.setIfInBounds_toArray, List.set_cons_zero, List.set_cons_succ]
       skip)
    | (refine vtake_step rfl 38 (.tmp 1) rfl (b.map dcell) rfl ?_
       intro w2 hb2 hC2
       have hB2 := below_then hB1 hb2
       have hA2 := hA1.on hb2
       clear hB1 hA1 hb2
       try simp only [Act.put, List.setIfInBounds_toArray, List.set_cons_zero, List.set_cons_succ]
       skip))
  generalize hg : w1.heap.size = gb at *
  clear hg
  go_loopw [5] (fun i wr => ∃ j : Nat, j ≤ 8 ∧ i = .int .i64 ((j : Int) - 1) ∧ Below w.heap.size w wr ∧ Cells wr w.heap.size (a.map dcell) 38 ∧ Cells wr gb (b.map dcell) 38 ∧ Hid (∀ i, j ≤ i → i < 8 → a.getD i 0 = b.getD i 0)) (fun i _ => ((intOf i) + 1).toNat)
  case atStart => exact ⟨8, Nat.le_refl _, rfl, hB2, hA2, hC2, fun i h1 h2 => by omega⟩
  case round =>
    clear hB2 hA2 hC2
    obtain ⟨j, hj, rfl, hB, hA, hC, HQ⟩ := hrel
    by_cases h0 : 0 < j
    · obtain ⟨k, rfl⟩ : ∃ k, j = k + 1 := ⟨j - 1, by omega⟩
      have d1 := hA.get (dat a k (by rw [HA.out]; omega))
      have d2 := hC.get (dat b k (by rw [HB.out]; omega))
      have e1 : (((k + 1 : Nat) : Int) - 1) = (k : Int) := by omega
      have i1 : (0 : Int) ≤ (k : Int) := by omega
      have i2 : (k : Int) < 8 := by omega
      rw [e1]
      by_cases hne : a.getD k 0 = b.getD k 0
      · have HQ2 : Hid (∀ i, k ≤ i → i < 8 → a.getD i 0 = b.getD i 0) := fun i h1 h2 => by
          by_cases e : k = i
          · rw [← e]; exact hne
          · exact HQ.out i (by omega) h2
        rw [← hne] at d2
        have i3 : IntKind.i64.wrap ((k : Int) - 1) = (k : Int) - 1 := IntWalk.i64_in _ (by omega)
        generalize a.getD k 0 = p at *
        clear HQ HD HE hne
        go_wp2_with fail
        go_quiet (fail)
        have hB4 : Below w.heap.size w (wr.drewN nq) := ⟨hB.os, hB.tape, hB.output, hB.size, hB.block⟩
        have hA4 := hA.drewN nq
        have hC4 := hC.drewN nq
        generalize wr.drewN nq = w4 at *
        clear hB hA hC d1 d2
        go_wp2
        go_roundw
        case rel => exact ⟨k, by omega, by rfl, hB4, hA4, hC4, HQ2⟩
        case measure => simp [intOf]
      · have HDk := Lib.hid (HD.out k (by omega) (fun i h1 h2 => HQ.out i (by omega) h2) hne)
        have hneI : ¬ ((a.getD k 0 : Nat) : Int) = ((b.getD k 0 : Nat) : Int) := by omega
        generalize a.getD k 0 = p at *
        generalize b.getD k 0 = q at *
        clear HQ HD HE hne
        go_wp2_with fail
        go_quiet (fail)
        have hB4 : Below w.heap.size w (wr.drewN nq) := ⟨hB.os, hB.tape, hB.output, hB.size, hB.block⟩
        replace d1 : (wr.drewN nq).cell? ⟨w.heap.size, k, none⟩ = some (dcell p) := d1
        replace d2 : (wr.drewN nq).cell? ⟨gb, k, none⟩ = some (dcell q) := d2
        generalize wr.drewN nq = w4 at *
        clear hB hA hC
        go_wp2_with fail
        go_quiet (fail)
        go_wp2
        go_ret
        exact ⟨congrArg (fun b => Ending.returned (.bool b)) HDk.out, ⟨hB4.os, hB4.tape, hB4.output, hB4.size, hB4.block⟩⟩
    · obtain rfl : j = 0 := by omega
      have e0 : r = false := HE.out fun i hi => HQ.out i (Nat.zero_le _) hi
      subst e0
      go_wp2
      go_ret
      exact ⟨rfl, hB⟩
theorem pre_congr (a b : List Nat) : ∀ k, (∀ i, i < k → a.getD i 0 = b.getD i 0) → pre a k = pre b k
  | 0, _ => rfl
  | k + 1, h => by rw [pre, pre, pre_congr a b k fun i hi => h i (by omega), h k (by omega)]
theorem pre_lt {a : List Nat} (h : ∀ k, a.getD k 0 < 4294967296) : ∀ k, pre a k < 4294967296 ^ k
  | 0 => Nat.pow_pos (by decide)
  | k + 1 => by
    have h1 := pre_lt h k
    have h2 : a.getD k 0 * 4294967296 ^ k ≤ 4294967295 * 4294967296 ^ k := Nat.mul_le_mul_right _ (by have := h k; omega)
    rw [pre, Nat.pow_succ]; omega
theorem pre_less {a b : List Nat} (ha : ∀ k, a.getD k 0 < 4294967296) (k : Nat) (h : a.getD k 0 < b.getD k 0) : pre a (k + 1) < pre b (k + 1) := by
  have h1 := pre_lt ha k
  have h2 : (a.getD k 0 + 1) * 4294967296 ^ k ≤ b.getD k 0 * 4294967296 ^ k := Nat.mul_le_mul_right _ h
  rw [pre, pre]
  rw [Nat.add_mul, Nat.one_mul] at h2
  omega
theorem pre_tail (a b : List Nat) (k : Nat) : ∀ n, (∀ i, k ≤ i → i < k + n → a.getD i 0 = b.getD i 0) → pre a k < pre b k → pre a (k + n) < pre b (k + n)
  | 0, _, h => h
  | n + 1, h, hl => by
    have ih := pre_tail a b k n (fun i h1 h2 => h i h1 (by omega)) hl
    rw [← Nat.add_assoc, pre, pre, h (k + n) (by omega) (by omega)]
    omega
theorem refLess_any (n m : Nat) (w : World) (hn : n < mm) (hm : m < mm) : Calls Tryd.prog 46 #[numD (nD n), numD (nD m)] w fun e w' => e = .returned (.bool (decide (n < m))) ∧ Below w.heap.size w w' := by
  have en := pre_nD n hn
  have em := pre_nD m hm
  have ha := (nD_D8 n).2
  have hb := (nD_D8 m).2
  refine refLess_over (nD n) (nD m) _ w rfl rfl (fun k hk heq hne => ?_) (fun heq => ?_)
  · have key : ∀ a b : List Nat, (∀ k, a.getD k 0 < 4294967296) → (∀ i, k < i → i < 8 → a.getD i 0 = b.getD i 0) → a.getD k 0 < b.getD k 0 → pre a 8 < pre b 8 := fun a b ha he hl => by
      have h := pre_tail a b (k + 1) (7 - k) (fun i h1 h2 => he i (by omega) (by omega)) (pre_less ha k hl)
      rwa [show k + 1 + (7 - k) = 8 by omega] at h
    rw [Bool.eq_iff_iff, decide_eq_true_eq, decide_eq_true_eq]
    rcases Nat.lt_or_ge ((nD n).getD k 0) ((nD m).getD k 0) with h | h
    · have h2 := key _ _ ha heq h
      rw [en, em] at h2
      omega
    · have h2 := key _ _ hb (fun i h1 h2 => (heq i h1 h2).symm) (by omega)
      rw [en, em] at h2
      omega
  · have h := pre_congr _ _ 8 heq
    rw [en, em] at h
    rw [decide_eq_false_iff_not]; omega
end Go.Proofs.YtlhgabhjbnckkaaDoor
namespace Go.Proofs.YtlhgabhjbnckkaaDoor
open Go.RowKit
theorem num_run {w : World} {g : Nat} {l : List Nat} {t' : TypeId} (hC : Cells w g (l.map dcell) t') (hl : l.length = 8) : (Instr.loadAt 38 (.pointer (some ⟨g, 0, none⟩))).run Tryd.prog w = .ok (numD l) w := by
  have h := run_loadVar_row (P := Tryd.prog) w g t' 38 (l.map dcell).toArray (0, 0) _ hC Tryd.underlying38 rfl (by rw [List.size_toArray, List.length_map, hl]; exact size_ND)
  simp only [Instr.loadAt, Instr.sureAddr, Sem.run_bind, Sem.run_pure, Result.andThen_ok]
  exact h
/-- The number that a block of words holds. -/
def numAt (w : World) (g : Nat) : Nat := pre ((List.range 8).map fun j => match w.cell? ⟨g, j, none⟩ with | some (.int _ i) => i.toNat | _ => 0) 8
theorem numAt_is {w : World} {g : Nat} {l : List Nat} {t : TypeId} (hC : Cells w g (l.map dcell) t) (hl : l.length = 8) : numAt w g = pre l 8 := by
  rw [numAt]
  congr 1
  apply List.ext_getElem
  · simp [hl]
  · intro i h1 h2
    have h3 := hC.get (dat l i h2)
    simp only [List.getElem_map, List.getElem_range, h3]
    simp [h2]
def leastVs1 (a y p : List Nat) (b : Bool) (ga gz : Nat) (u7 u8 u9 : Value) : List Value :=
  (numD a) :: (.pointer (some ⟨ga, 0, none⟩)) :: (.pointer (some ⟨gz, 0, none⟩)) :: (numD y) :: (numD p) :: (.bool b) :: (.bool (!b)) :: (u7) :: (u8) :: (u9) :: undef :: []
def leastVs2 (a y p z : List Nat) (ga gz : Nat) : List Value :=
  (numD a) :: (.pointer (some ⟨ga, 0, none⟩)) :: (.pointer (some ⟨gz, 0, none⟩)) :: (numD y) :: (numD p) :: (.bool false) :: (.bool true) :: (numD y) :: (numD p) :: (numD z) :: undef :: []
set_option maxRecDepth 100000 in
set_option maxHeartbeats 1000000 in
theorem refLeast_over (a r : List Nat) (n : Nat) (Y : Nat → List Nat) (w : World) (HA : Hid (a = Y n ∧ n < mm)) (HYL : Hid (∀ y, (Y y).length = 8)) (HN : Hid (∀ y, y < mm → pre (Y y) 8 = y)) (HR : Hid (∀ y, y < mm → y < pp → y % pp = n % pp → Y y = r))
    (p : List Nat) (CP : Hid (∀ W, Calls Tryd.prog 33 #[] W fun e w' => e = .returned (numD p) ∧ Below W.heap.size W w')) (CL : Hid (∀ y, y < mm → ∀ W, Calls Tryd.prog 46 #[numD (Y y), numD p] W fun e w' => e = .returned (.bool (decide (y < pp))) ∧ Below W.heap.size W w')) (CM : Hid (∀ y, y < mm → pp ≤ y → ∀ W, Calls Tryd.prog 32 #[numD (Y y), numD p] W fun e w' => e = .returned (numD (Y (y - pp))) ∧ Below W.heap.size W w')) :
    Calls Tryd.prog 29 #[numD a] w fun e w' => e = .returned (numD r) ∧ Below w.heap.size w w' := by
  go_enter Tryd.func29, Tryd.ntmps29
  go_wp2_with (first
    | (refine vtake_step rfl 38 (.tmp 0) rfl (a.map dcell) rfl ?_
       intro w1 hB1 hA1
       try simp only [Act.put, List.setIfInBounds_toArray, List.set_cons_zero, List.set_cons_succ]
       skip)
    | (refine vzero_step rfl 38 rfl (dzeros 8) zero_ND ?_
       intro w3 hb3 hZ3
       have hB3 := below_then hB1 hb3
       have hA3 := hA1.on hb3
       have hlt := hA1.lt
       clear hB1 hA1 hb3
       try simp only [Act.put, List.setIfInBounds_toArray, List.set_cons_zero, List.set_cons_succ]
       skip))
  generalize hg : w1.heap.size = gz at *
  clear hg
  go_loopw [3] (fun _ wr => ∃ y : Nat, Hid (y < mm) ∧ Hid (y % pp = n % pp) ∧ Below w.heap.size w wr ∧ Cells wr w.heap.size ((Y y).map dcell) 38 ∧ Cells wr gz (dzeros 8) 38) (fun _ wr => numAt wr w.heap.size)
  case atStart => exact ⟨n, HA.out.2, rfl, hB3, by rw [← HA.out.1]; exact hA3, hZ3⟩
  case round =>
    clear hB3 hA3 hZ3
    obtain ⟨v, HV, HVM, hB, hY, hZ⟩ := hrel
    have HNA : Hid (numAt wr w.heap.size = v) := by show _ = _; rw [numAt_is hY (HYL.out v), HN.out v HV.out]
    replace CL := Lib.hid (CL.out v HV.out)
    replace CM := Lib.hid (CM.out v HV.out)
    have HYM := Lib.hid (HYL.out (v - pp))
    have HSM : Hid (∀ W : World, Cells W w.heap.size ((Y (v - pp)).map dcell) 38 → pp ≤ v → numAt W w.heap.size < v) := fun W hW hv => by
      rw [numAt_is hW (HYL.out _), HN.out _ (by have := HV.out; omega)]
      have : 0 < pp := by decide
      omega
    have HRv := Lib.hid (HR.out v HV.out)
    replace HYL := Lib.hid (HYL.out v)
    obtain ⟨z, HZ⟩ := namedF (Y (v - pp))
    obtain ⟨y, HY⟩ := namedF (Y v)
    rw [HZ.out] at CM HYM HSM
    rw [HY.out] at CL CM HYL hY HRv
    obtain ⟨b, HBB⟩ := namedF (decide (v < pp))
    rw [HBB.out] at CL
    clear HN HA HR
    go_wp2_with fail
    refine wp_region_any (by kernel_rfl) ?_
    refine wpAny_flatAt (L := [0, 1, 2, 3]) (by kernel_rfl) _ _ (leastVs1 a y p b w.heap.size gz u7 u8 u9) [0, 1, 2, 7, 8, 9, 10] (by kernel_rfl) ?_ (by rfl) ?_ 0 (by kernel_rfl) ?_
    · exact all_cons rfl (all_cons rfl (all_cons rfl (all_cons rfl (all_cons rfl (all_cons rfl (all_cons rfl (all_nil)))))))
    · change ∀ i ∈ _, StepOk _ _ _ _ _ wr.drew _ i
      refine all_cons (stepPure _ 3 rfl rfl rfl (by kernel_rfl) (by kernel_rfl) fun a w hb hv => exec_load _ _ _ _ rfl _ _ (hv 1 (by kernel_rfl)) w (num_run (hY.drew.on hb) HYL.out)) ?_
      refine all_cons (stepCall _ 4 rfl rfl rfl (by kernel_rfl) (by kernel_rfl) 33 _ _ rfl [] (fun a hv => rfl) (enters Tryd.func33 rfl rfl) (fun w hb => CP.out w)) ?_
      refine all_cons (stepCall _ 5 rfl rfl rfl (by kernel_rfl) (by kernel_rfl) 46 _ _ rfl [numD y, numD p] (fun a hv => cons_eq (hv 3 (by kernel_rfl)) (cons_eq (hv 4 (by kernel_rfl)) (rfl))) (enters Tryd.func46 rfl rfl) (fun w hb => CL.out w)) ?_
      refine all_cons (stepPure _ 6 rfl rfl rfl (by kernel_rfl) (by kernel_rfl) fun a w hb hv => exec_not _ _ _ _ rfl _ (hv 5 (by kernel_rfl)) w) ?_
      exact all_nil
    intro w4 hb4
    have hB4 := below_then (show Below w.heap.size w wr.drew from hB.drew) hb4
    have hY4 := hY.drew.on hb4
    have hZ4 := hZ.drew.on hb4
    clear hb4 hB hY hZ CL
    refine ⟨by kernel_rfl, ?_⟩
    rename_i K hKK
    show Exit.then K _ Exit.normal (⟨(leastVs1 a y p b w.heap.size gz u7 u8 u9).toArray, []⟩ : Act) w4
    simp only [Exit.then]
    refine hKK _ _ ?_
    clear hKK K
    simp only [leastVs1]
    cases b with
    | true =>
      obtain rfl : y = r := HRv.out (by simpa using HBB.out) HVM.out
      go_wp2_with (first
        | (refine sget_step rfl 38 (.tmp 1) rfl w.heap.size 8 (y.map dcell) rfl hY4 Tryd.underlying38 rfl size_ND (by rw [List.length_map, HYL.out]) ?_)
        | (refine vset_step rfl 38 _ _ rfl gz 8 (dzeros 8) (y.map dcell) rfl rfl hZ4 rfl size_ND (by rw [List.length_map, HYL.out]) (dcells_one _) ?_
           intro w7 hb7 hC7 _))
      exact sret Tryd.results29 gz (y.map dcell) rfl hC7 Tryd.underlying38 rfl size_ND (by rw [List.length_map, HYL.out]) rfl ⟨rfl, hB4.trans (hb7.below (by omega) hB4.size)⟩
    | false =>
      have hge : pp ≤ v := by have := HBB.out; simp only [decide_eq_false_iff_not] at this; omega
      replace CM := Lib.hid (CM.out hge)
      clear HRv HBB
      go_wp2_with fail
      refine wp_region_any (by kernel_rfl) ?_
      refine wpAny_flatAt (L := [0, 1, 2]) (by kernel_rfl) _ _ (leastVs2 a y p z w.heap.size gz) [0, 1, 2, 3, 4, 5, 6, 10] (by kernel_rfl) ?_ (by rfl) ?_ 1 (by kernel_rfl) ?_
      · exact all_cons rfl (all_cons rfl (all_cons rfl (all_cons rfl (all_cons rfl (all_cons rfl (all_cons rfl (all_cons rfl (all_nil))))))))
      · change ∀ i ∈ _, StepOk _ _ _ _ _ w4.drew _ i
        refine all_cons (stepPure _ 7 rfl rfl rfl (by kernel_rfl) (by kernel_rfl) fun a w hb hv => exec_load _ _ _ _ rfl _ _ (hv 1 (by kernel_rfl)) w (num_run (hY4.drew.on hb) HYL.out)) ?_
        refine all_cons (stepCall _ 8 rfl rfl rfl (by kernel_rfl) (by kernel_rfl) 33 _ _ rfl [] (fun a hv => rfl) (enters Tryd.func33 rfl rfl) (fun w hb => CP.out w)) ?_
        refine all_cons (stepCall _ 9 rfl rfl rfl (by kernel_rfl) (by kernel_rfl) 32 _ _ rfl [numD y, numD p] (fun a hv => cons_eq (hv 7 (by kernel_rfl)) (cons_eq (hv 8 (by kernel_rfl)) (rfl))) (enters Tryd.func32 rfl rfl) (fun w hb => CM.out w)) ?_
        exact all_nil
      intro w5 hb5
      have hB5 := below_then (show Below w.heap.size w w4.drew from hB4.drew) hb5
      have hY5 := hY4.drew.on hb5
      have hZ5 := hZ4.drew.on hb5
      clear hb5 hB4 hY4 hZ4 CM CP
      refine wpAny_rest 3 rfl (by kernel_rfl) ?_
      refine vset_step rfl 38 (.tmp 1) (.tmp 9) rfl w.heap.size 8 (y.map dcell) (z.map dcell) rfl rfl hY5 (by rw [List.length_map, HYL.out]) size_ND (by rw [List.length_map, HYM.out]) (dcells_one _) ?_
      intro w6 hb6 hY6 hz6
      have hB6 := hB5.trans (hb6.below (Nat.le_refl _) hB5.size)
      have hZ6 := hZ5.but hb6 (by omega)
      clear hb6 hB5 hY5 hZ5
      simp only [leastVs2]
      go_wp2
      go_roundw
      case rel => exact ⟨_, _, _, _, _, _, _, ⟨v - pp, by have := HV.out; show _ < _; omega, by show _ = _; rw [← HVM.out]; exact (Nat.mod_eq_sub_mod hge).symm, hB6, by rw [HZ.out]; exact hY6, hZ6⟩, rfl⟩
      case measure => rw [HNA.out]; exact HSM.out _ (by assumption) hge
theorem refLeast_any (n : Nat) (w : World) (hn : n < mm) : Calls Tryd.prog 29 #[numD (nD n)] w fun e w' => e = .returned (numD (nD (n % pp))) ∧ Below w.heap.size w w' :=
  refLeast_over (nD n) (nD (n % pp)) n nD w ⟨rfl, hn⟩ (fun _ => rfl) (fun y hy => pre_nD y hy) (fun y _ h1 h2 => by rw [← h2, Nat.mod_eq_of_lt h1]) (nD pp) refP_any (fun y hy W => refLess_any y pp W hy (by decide)) (fun y hy h W => refMinus_any y pp W hy h)
end Go.Proofs.YtlhgabhjbnckkaaDoor
namespace Go.Proofs.YtlhgabhjbnckkaaDoor
open Go.RowKit
def psum (f : Nat → Nat) : Nat → Nat
  | 0 => 0
  | k + 1 => psum f k + f k * 4294967296 ^ k
theorem pre_psum (l : List Nat) : ∀ k, pre l k = psum (fun j => l.getD j 0) k
  | 0 => rfl
  | k + 1 => by rw [pre, psum, pre_psum l k]
theorem psum_add (f g : Nat → Nat) : ∀ k, psum (fun j => f j + g j) k = psum f k + psum g k
  | 0 => rfl
  | k + 1 => by rw [psum, psum, psum, psum_add f g k, Nat.add_mul]; omega
theorem psum_mul (c : Nat) (f : Nat → Nat) : ∀ k, psum (fun j => c * f j) k = c * psum f k
  | 0 => rfl
  | k + 1 => by rw [psum, psum, psum_mul c f k, Nat.mul_add, Nat.mul_assoc]
theorem psum_congr (f g : Nat → Nat) : ∀ k, (∀ j, j < k → f j = g j) → psum f k = psum g k
  | 0, _ => rfl
  | k + 1, h => by rw [psum, psum, psum_congr f g k fun j hj => h j (by omega), h k (by omega)]
/-- Word by word: the sum's low word is written, the rest carried. -/
def cyTo (f : Nat → Nat) (l0 : List Nat) (c0 : Nat) : Nat → List Nat × Nat
  | 0 => (l0, c0)
  | k + 1 => ((cyTo f l0 c0 k).1.set k ((f k + (cyTo f l0 c0 k).2) % 4294967296), (f k + (cyTo f l0 c0 k).2) / 4294967296)
theorem cyTo_length (f : Nat → Nat) (l0 : List Nat) (c0 : Nat) : ∀ k, (cyTo f l0 c0 k).1.length = l0.length
  | 0 => rfl
  | k + 1 => by rw [cyTo, List.length_set, cyTo_length]
theorem cyTo_lt (f : Nat → Nat) {l0 : List Nat} (c0 : Nat) (h : ∀ k, l0.getD k 0 < 4294967296) : ∀ k j, (cyTo f l0 c0 k).1.getD j 0 < 4294967296
  | 0 => h
  | k + 1 => by rw [cyTo]; exact set_lt (cyTo_lt f c0 h k) k _ (Nat.mod_lt _ (by decide))
theorem cyTo_ahead (f : Nat → Nat) (l0 : List Nat) (c0 : Nat) : ∀ k j, k ≤ j → (cyTo f l0 c0 k).1.getD j 0 = l0.getD j 0
  | 0, _, _ => rfl
  | k + 1, j, h => by rw [cyTo, getD_set_neN _ _ _ _ (by omega), cyTo_ahead f l0 c0 k j (by omega)]
theorem cyTo_pre (f : Nat → Nat) (l0 : List Nat) (c0 : Nat) : ∀ k, k ≤ l0.length → pre (cyTo f l0 c0 k).1 k + (cyTo f l0 c0 k).2 * 4294967296 ^ k = psum f k + c0
  | 0, _ => by simp [cyTo, pre, psum]
  | k + 1, h => by
    have ih := cyTo_pre f l0 c0 k (by omega)
    have hl := cyTo_length f l0 c0 k
    rw [cyTo]
    show pre ((cyTo f l0 c0 k).1.set k ((f k + (cyTo f l0 c0 k).2) % 4294967296)) (k + 1) + (f k + (cyTo f l0 c0 k).2) / 4294967296 * _ = _
    rw [pre_set _ _ _ (by omega), psum, Nat.pow_succ]
    generalize (cyTo f l0 c0 k).2 = o at *
    have e := Nat.div_add_mod (f k + o) 4294967296
    generalize (f k + o) % 4294967296 = r at *
    generalize (f k + o) / 4294967296 = q at *
    have e2 : (4294967296 * q + r) * 4294967296 ^ k = (f k + o) * 4294967296 ^ k := by rw [e]
    rw [Nat.add_mul, Nat.add_mul, Nat.mul_assoc, Nat.mul_left_comm] at e2
    rw [Nat.mul_comm (4294967296 ^ k)]
    omega
theorem cyTo_le (f : Nat → Nat) (l0 : List Nat) (c0 m : Nat) (hc : c0 ≤ m) (hf : ∀ k, f k + m < (m + 1) * 4294967296) : ∀ k, (cyTo f l0 c0 k).2 ≤ m
  | 0 => hc
  | k + 1 => by
    have ih := cyTo_le f l0 c0 m hc hf k
    have h := hf k
    rw [cyTo]
    show (f k + (cyTo f l0 c0 k).2) / 4294967296 ≤ m
    have : (f k + (cyTo f l0 c0 k).2) / 4294967296 < m + 1 := Nat.div_lt_of_lt_mul (by rw [Nat.mul_comm]; omega)
    omega
theorem zero_w16 : ∀ w, (zeroValue 59).run Tryd.prog w = .ok (.agg (dzeros 16).toArray) w := (zero_of_info (P := Tryd.prog) (t := 59) (v := .agg (dzeros 16).toArray) (n := 16) (by kernel_rfl)).1
theorem size_w16 : (Tryd.prog.info? 59).map (·.size) = some 16 := by kernel_rfl
theorem build_w16 (w : World) : (Instr.build 59 #[]).run Tryd.prog w = .ok (.agg (dzeros 16).toArray) w := by kernel_rfl
/-- The loop over what is beyond 2^256. -/
def foldI (u o : Nat) : Nat := if o = 0 then 0 else if u + 38 * o < mm then 1 else 2
set_option maxRecDepth 100000 in
set_option maxHeartbeats 4000000 in
theorem refFold_over (a r : List Nat) (S : Nat → List Nat) (O : Nat → Nat) (n : Nat) (V : Nat → Nat → Nat → List Nat × Nat) (w : World) (HA : Hid (a.length = 16 ∧ ∀ k, a.getD k 0 < 4294967296)) (HL : Hid (∀ k, (S k).length = 8)) (H0 : Hid (S 0 = [0, 0, 0, 0, 0, 0, 0, 0] ∧ O 0 = 0)) (HS : Hid (∀ k, S (k + 1) = (S k).set k ((a.getD k 0 + 38 * a.getD (8 + k) 0 + O k) % 4294967296) ∧ O (k + 1) = (a.getD k 0 + 38 * a.getD (8 + k) 0 + O k) / 4294967296)) (HO : Hid (∀ k, O k ≤ 38))
    (HU : Hid (∃ u, u < mm ∧ S 8 = nD u ∧ (u + mm * O 8) % pp = n % pp)) (HV : Hid (∀ u o, V u o 0 = (nD u, 38 * o) ∧ (∀ k, (V u o k).1.length = 8) ∧ (∀ k, V u o (k + 1) = ((V u o k).1.set k (((nD u).getD k 0 + (V u o k).2) % 4294967296), ((nD u).getD k 0 + (V u o k).2) / 4294967296)) ∧ ∀ k, (V u o k).1.getD k 0 = (nD u).getD k 0))
    (HC : Hid (∀ u o, u < mm → o ≤ 38 → (∀ k, (V u o k).2 ≤ 1500) ∧ (V u o 8).1 = nD ((u + 38 * o) % mm) ∧ (V u o 8).2 = (u + 38 * o) / mm))
    (CL : Hid (∀ u, u < mm → u % pp = n % pp → ∀ W, Calls Tryd.prog 29 #[numD (nD u)] W fun e w' => e = .returned (numD r) ∧ Below W.heap.size W w')) (HRL : Hid (r.length = 8)) :
    Calls Tryd.prog 31 #[numD a] w fun e w' => e = .returned (numD r) ∧ Below w.heap.size w w' := by
  go_enter Tryd.func31, Tryd.ntmps31
  go_wp2_with (first
    | (refine vtake_step rfl 59 (.tmp 0) rfl (a.map dcell) rfl ?_
       intro w1 hB1 hA1
       try simp only [Act.put, List.setIfInBounds_toArray, List.set_cons_zero, List.set_cons_succ]
       skip)
    | (refine vzero_step (o := ⟨some 2, _, _, _, _, _⟩) rfl 38 rfl (dzeros 8) zero_ND ?_
       intro w3 hb3 hZ3
       have hB3 := below_then hB1 hb3
       have hA3 := hA1.on hb3
       have hg2 := hA1.lt
       clear hB1 hA1 hb3
       try simp only [Act.put, List.setIfInBounds_toArray, List.set_cons_zero, List.set_cons_succ]
       skip)
    | (refine build_step rfl 38 [] rfl [] rfl _ build_ND0 ?_
       try simp only [Act.put, List.setIfInBounds_toArray, List.set_cons_zero, List.set_cons_succ]
       skip)
    | (refine vput_step rfl rfl 38 (.tmp 3) (.tmp 9) rfl rfl 8 (dzeros 8) (dzeros 8) rfl rfl zero_ND rfl size_ND rfl (by rw [dzeros_map]; exact dcells_one _) ?_
       intro w4 hb4 hS4
       have hB4 := below_then hB3 hb4
       have hA4 := hA3.on hb4
       have hZ4 := hZ3.on hb4
       have hg3 := hZ3.lt
       clear hB3 hA3 hZ3 hb4
       try simp only [Act.put, List.setIfInBounds_toArray, List.set_cons_zero, List.set_cons_succ]
       skip))
  generalize hh : w1.heap.size = gz at *
  generalize hi : w3.heap.size = gs at *
  clear hh hi
  go_loopw [4, 5] (fun v i wr => ∃ k : Nat, k ≤ 8 ∧ i = .int .i64 k ∧ v = .int .u64 (O k : Int) ∧ Below w.heap.size w wr ∧ Cells wr w.heap.size (a.map dcell) 59 ∧ Cells wr gz (dzeros 8) 38 ∧ Cells wr gs ((S k).map dcell) 38) (fun _ i _ => 8 - (intOf i).toNat)
  case atStart => exact ⟨0, Nat.zero_le _, rfl, by rw [H0.out.2]; rfl, hB4, hA4, hZ4, by rw [H0.out.1, ← dzeros8]; exact hS4⟩
  case round =>
    clear hB4 hA4 hZ4 hS4
    obtain ⟨k, hk, rfl, rfl, hB, hA, hZ, hS⟩ := hrel
    have HLk := Lib.hid (HL.out k)
    by_cases hlt : k < 8
    · have HN := Lib.hid (HS.out k)
      have ho := HO.out k
      have hp := HA.out.2 k
      have hq := HA.out.2 (8 + k)
      have d1 := hA.get (dat a k (by rw [HA.out.1]; omega))
      have d2 := hA.get (dat a (8 + k) (by rw [HA.out.1]; omega))
      obtain ⟨z, HZ⟩ := namedF (S (k + 1))
      obtain ⟨o2, HO2⟩ := namedF (O (k + 1))
      rw [HZ.out, HO2.out] at HN
      generalize S k = s at *
      generalize O k = o at *
      generalize a.getD k 0 = p at *
      generalize a.getD (8 + k) 0 = q at *
      clear HA HL H0 HS HO HU HV HC CL HRL
      have c1 := u64_id p (by omega)
      have c3 := u64_id q (by omega)
      obtain ⟨x1, hx1⟩ : ∃ x1, x1 = 38 * q := ⟨_, rfl⟩
      have c2 : IntKind.u64.wrap (38 * (q : Int)) = (x1 : Int) := by rw [hx1]; exact wmul 38 q (by omega)
      obtain ⟨x2, hx2⟩ : ∃ x2, x2 = p + x1 := ⟨_, rfl⟩
      have c4 : IntKind.u64.wrap ((p : Int) + (x1 : Int)) = (x2 : Int) := by rw [hx2]; exact wadd p x1 (by omega)
      obtain ⟨x, hx⟩ : ∃ x, x = x2 + o := ⟨_, rfl⟩
      have c5 : IntKind.u64.wrap ((x2 : Int) + (o : Int)) = (x : Int) := by rw [hx]; exact wadd x2 o (by omega)
      have c6 := u32_mod x
      have c7 : (x : Int) / 4294967296 = (o2 : Int) := by rw [HN.out.2, ← hx1, ← hx2, ← hx]; rfl
      have c8 : IntKind.i64.wrap (8 + (k : Int)) = 8 + (k : Int) := IntWalk.i64_in _ (by omega)
      have e9 : (8 + (k : Int)) = ((8 + k : Nat) : Int) := by omega
      have i1 : (0 : Int) ≤ (k : Int) := by omega
      have i2 : (k : Int) < 8 := by omega
      have i3 : (0 : Int) ≤ 8 + (k : Int) := by omega
      have i4 : 8 + (k : Int) < 16 := by omega
      have i5 : (k : Int) < 16 := by omega
      have i6 : (8 + (k : Int)).toNat = 8 + k := by omega
      rw [← hx1, ← hx2, ← hx] at HN
      obtain ⟨v, HV⟩ := namedF (x % 4294967296)
      rw [HV.out] at HN c6
      clear hx1 hx2 hx HV hp hq e9
      go_wp2_with fail
      go_quiet (fail)
      have hB4 : Below w.heap.size w (wr.drewN nq) := ⟨hB.os, hB.tape, hB.output, hB.size, hB.block⟩
      have hA4 := hA.drewN nq
      have hZ4 := hZ.drewN nq
      have hS4 := hS.drewN nq
      generalize wr.drewN nq = w4 at *
      clear hB hA hZ hS d1 d2
      have hT := hS4.there k 1 (by rw [List.length_map, HLk.out]; omega)
      have hE := Lib.hid (hS4.set k (dcell v))
      go_wp2_with (first
        | (refine store_step rfl 36 _ _ rfl gs k .u32 (v : Int) rfl rfl size_w32 hT ?_
           intro w5 hw5
           have hB5 : Below w.heap.size w w5 := by rw [hw5]; exact hB4.setCell (p := ⟨gs, k, none⟩) (by show w.heap.size ≤ gs; omega) _
           have hA5 : Cells w5 w.heap.size (a.map dcell) 59 := by rw [hw5]; exact hA4.other (by show w.heap.size ≠ gs; omega) _
           have hZ5 : Cells w5 gz (dzeros 8) 38 := by rw [hw5]; exact hZ4.other (by show gz ≠ gs; omega) _
           have hS5 : Cells w5 gs (z.map dcell) 38 := by rw [hw5, HN.out.1, ← dset_map]; exact hE.out
           clear hw5 hT hE hB4 hA4 hZ4 hS4))
      go_roundw
      case rel => exact ⟨k + 1, by omega, by go_num, by rw [HO2.out], hB5, hA5, hZ5, by rw [HZ.out]; exact hS5⟩
      case measure => simp [intOf]; omega
    · obtain rfl : k = 8 := by omega
      obtain ⟨u0, hu0, hs0, hm0⟩ := HU.out
      have ho0 := HO.out 8
      rw [hs0] at hS
      generalize O 8 = o0 at *
      clear HL H0 HS HO HU HLk hA HA hs0
      go_wp2_with fail
      go_loopw [4] (fun v wr => ∃ u o : Nat, Hid (u < mm ∧ o ≤ 38 ∧ (u + mm * o) % pp = n % pp) ∧ v = .int .u64 (o : Int) ∧ Below w.heap.size w wr ∧ Cells wr gz (dzeros 8) 38 ∧ Cells wr gs ((nD u).map dcell) 38) (fun v wr => foldI (numAt wr gs) (intOf v).toNat)
      case atStart => exact ⟨u0, o0, ⟨hu0, ho0, hm0⟩, rfl, hB, hZ, hS⟩
      case round =>
        clear hB hZ hS hu0 hm0 ho0
        obtain ⟨u, o, HUO, rfl, hB, hZ, hS⟩ := hrel
        by_cases h0 : 0 < o
        · have HVu := HV.out u o
          have HCu := HC.out u o HUO.out.1 HUO.out.2.1
          have HMS : Hid (foldI (numAt wr gs) o = foldI u o) := by show _ = _; rw [numAt_is hS rfl, pre_nD u HUO.out.1]
          have HDS := Lib.hid (fun k => (nD_D8 u).2 k)
          generalize V u o = vv at *
          obtain ⟨q, HQ⟩ := namedF (nD u)
          rw [HQ.out] at hS HVu HDS
          obtain ⟨hv0, hvl, hvs, hvr⟩ := HVu
          obtain ⟨hcl, hc1, hc2⟩ := HCu
          have HV0 := Lib.hid hv0
          have HVL := Lib.hid hvl
          have HVS := Lib.hid hvs
          have HVR := Lib.hid hvr
          have HCL := Lib.hid hcl
          have HC1 := Lib.hid hc1
          have HC2 := Lib.hid hc2
          have c1 : IntKind.u64.wrap ((o : Int) * 38) = ((38 * o : Nat) : Int) := by
            have := HUO.out.2.1
            rw [Int.mul_comm]; exact wmul 38 o (by omega)
          have i0 : (0 : Int) < (o : Int) := by omega
          clear hv0 hvl hvs hvr hcl hc1 hc2 HV HC CL HRL
          go_wp2_with fail
          go_loopw [7, 8] (fun x i wr => ∃ k : Nat, k ≤ 8 ∧ i = .int .i64 k ∧ x = .int .u64 ((vv k).2 : Int) ∧ Below w.heap.size w wr ∧ Cells wr gz (dzeros 8) 38 ∧ Cells wr gs ((vv k).1.map dcell) 38) (fun _ i _ => 8 - (intOf i).toNat)
          case atStart => exact ⟨0, Nat.zero_le _, rfl, by rw [HV0.out]; rfl, hB, hZ, by rw [HV0.out]; exact hS⟩
          case round =>
            clear hB hZ hS
            obtain ⟨k, hk, rfl, rfl, hB, hZ, hS⟩ := hrel
            have HLk := Lib.hid (HVL.out k)
            by_cases hlt : k < 8
            · have HN := Lib.hid (HVS.out k)
              have hc := HCL.out k
              have hp := HDS.out k
              have d1 := hS.get (dat (vv k).1 k (by rw [HLk.out]; omega))
              rw [HVR.out k] at d1
              have hT := hS.there k 1 (by rw [List.length_map, HLk.out]; omega)
              obtain ⟨z, HZ⟩ := namedF (vv (k + 1))
              rw [HZ.out] at HN
              generalize (vv k).2 = c at *
              generalize (vv k).1 = s at *
              generalize q.getD k 0 = p at *
              have c3 := u64_id p (by omega)
              obtain ⟨x, hx⟩ : ∃ x, x = c + p := ⟨_, rfl⟩
              have c5 : IntKind.u64.wrap ((c : Int) + (p : Int)) = (x : Int) := by rw [hx]; exact wadd c p (by omega)
              rw [Nat.add_comm p c, ← hx] at HN
              have c6 := u32_mod x
              obtain ⟨x3, hx3⟩ : ∃ x3, x3 = x / 4294967296 := ⟨_, rfl⟩
              have c7 : (x : Int) / 4294967296 = (x3 : Int) := by rw [hx3]; rfl
              rw [← hx3] at HN
              obtain ⟨v, HV⟩ := namedF (x % 4294967296)
              rw [HV.out] at HN c6
              have hE := Lib.hid (hS.set k (dcell v))
              have i1 : (0 : Int) ≤ (k : Int) := by omega
              have i2 : (k : Int) < 8 := by omega
              clear hx hx3 HV hp hc HV0 HVL HVS HVR HCL HC1 HC2 HDS
              go_wp2_with (first
                | (refine store_step rfl 36 _ _ rfl gs k .u32 (v : Int) rfl rfl size_w32 hT ?_
                   intro w5 hw5
                   have hB5 : Below w.heap.size w w5 := by rw [hw5]; exact hB.setCell (p := ⟨gs, k, none⟩) (by show w.heap.size ≤ gs; omega) _
                   have hZ5 : Cells w5 gz (dzeros 8) 38 := by rw [hw5]; exact hZ.other (by show gz ≠ gs; omega) _
                   have hS5 : Cells w5 gs (z.1.map dcell) 38 := by rw [hw5, HN.out, ← dset_map]; exact hE.out
                   clear hw5 hT hE hB hZ hS))
              go_roundw
              case rel => exact ⟨_, _, _, _, _, _, _, _, _, _, _, _, _, _, _, _, _, _, ⟨k + 1, by omega, by go_num, by rw [HZ.out, HN.out], hB5, hZ5, by rw [HZ.out]; exact hS5⟩, rfl⟩
              case measure => simp [intOf]; omega
            · obtain rfl : k = 8 := by omega
              rw [HC1.out] at hS
              rw [HC2.out]
              clear HV0 HVL HVS HVR HCL HC1 HC2 HDS HLk
              go_wp2
              go_roundw
              case rel =>
                refine ⟨(u + 38 * o) % mm, (u + 38 * o) / mm, ⟨Nat.mod_lt _ (by decide), ?_, ?_⟩, rfl, hB, hZ, hS⟩
                · have := HUO.out; simp only [mm] at *; omega
                · have h1 := HUO.out.2.2
                  have h2 := Nat.div_add_mod (u + 38 * o) mm
                  have h3 : (u + 38 * o) % mm + mm * ((u + 38 * o) / mm) = u + 38 * o := by omega
                  rw [h3, ← h1, show u + mm * o = (u + 38 * o) + pp * (2 * o) by simp only [mm, pp]; omega, Nat.add_mul_mod_self_left]
              case measure =>
                have h1 := HUO.out
                have h2 : numAt wr gs = (u + 38 * o) % mm := by rw [numAt_is hS rfl, pre_nD _ (Nat.mod_lt _ (by decide))]
                show foldI (numAt wr gs) ((((u + 38 * o) / mm : Nat) : Int)).toNat < foldI _ ((o : Int)).toNat
                rw [Int.toNat_natCast, Int.toNat_natCast, HMS.out, h2]
                simp only [foldI, mm] at *
                (repeat' split) <;> omega
        · obtain rfl : o = 0 := by omega
          have HCL := Lib.hid (CL.out u HUO.out.1 (by have := HUO.out.2.2; rwa [Nat.mul_zero, Nat.add_zero] at this))
          obtain ⟨q, HQ⟩ := namedF (nD u)
          have HQL : Hid (q.length = 8) := by show _ = _; rw [← HQ.out]; rfl
          rw [HQ.out] at hS HCL
          clear HV HC CL HUO
          go_wp2_with (first
            | (refine sget_step rfl 38 (.tmp 3) rfl gs 8 (q.map dcell) rfl hS Tryd.underlying38 rfl size_ND (by rw [List.length_map, HQL.out]) ?_))
          refine (HCL.out wr).mono ?_
          rintro e w6 ⟨rfl, hb6⟩
          have hB6 := below_then hB hb6
          have hZ6 := hZ.on hb6
          clear HCL hB hZ hS hb6
          go_wp2_with (first
            | (refine vset_step rfl 38 _ _ rfl gz 8 (dzeros 8) (r.map dcell) rfl rfl hZ6 rfl size_ND (by rw [List.length_map, HRL.out]) (dcells_one r) ?_
               intro w7 hb7 hC7 _))
          exact sret Tryd.results31 gz (r.map dcell) rfl hC7 Tryd.underlying38 rfl size_ND (by rw [List.length_map, HRL.out]) rfl ⟨rfl, hB6.trans (hb7.below (by omega) hB6.size)⟩
end Go.Proofs.YtlhgabhjbnckkaaDoor
namespace Go.Proofs.YtlhgabhjbnckkaaDoor
open Go.RowKit
/-- The first round's sums. -/
def foldF (a : List Nat) (k : Nat) : Nat := a.getD k 0 + 38 * a.getD (8 + k) 0
def foldS (a : List Nat) (k : Nat) : List Nat × Nat := cyTo (foldF a) [0, 0, 0, 0, 0, 0, 0, 0] 0 k
def foldV (u o k : Nat) : List Nat × Nat := cyTo (fun j => (nD u).getD j 0) (nD u) (38 * o) k
theorem foldS_next (a : List Nat) (k : Nat) : (foldS a (k + 1)).1 = (foldS a k).1.set k ((a.getD k 0 + 38 * a.getD (8 + k) 0 + (foldS a k).2) % 4294967296) ∧ (foldS a (k + 1)).2 = (a.getD k 0 + 38 * a.getD (8 + k) 0 + (foldS a k).2) / 4294967296 := by
  rw [foldS, cyTo, foldF, ← foldS]
  exact ⟨rfl, rfl⟩
theorem foldV_next (u o k : Nat) : foldV u o (k + 1) = ((foldV u o k).1.set k (((nD u).getD k 0 + (foldV u o k).2) % 4294967296), ((nD u).getD k 0 + (foldV u o k).2) / 4294967296) := by
  rw [foldV, cyTo, ← foldV]
theorem fold_u (a : List Nat) : ∃ u, u < mm ∧ (foldS a 8).1 = nD u ∧ (u + mm * (foldS a 8).2) % pp = pre a 16 % pp := by
  have hd : D8 (foldS a 8).1 := ⟨cyTo_length _ _ _ 8, cyTo_lt _ _ D8.zeros.2 8⟩
  refine ⟨pre (foldS a 8).1 8, hd.lt, hd.is, ?_⟩
  have h : pre (foldS a 8).1 8 + (foldS a 8).2 * 4294967296 ^ 8 = psum (foldF a) 8 + 0 := cyTo_pre (foldF a) [0, 0, 0, 0, 0, 0, 0, 0] 0 8 (Nat.le_refl _)
  have hF : psum (foldF a) 8 = pre a 8 + 38 * psum (fun j => a.getD (8 + j) 0) 8 := by
    rw [show foldF a = fun k => a.getD k 0 + 38 * a.getD (8 + k) 0 from rfl, psum_add, psum_mul, ← pre_psum]
  have key : ∀ n, pre a (8 + n) = pre a 8 + 4294967296 ^ 8 * psum (fun j => a.getD (8 + j) 0) n := by
    intro n
    induction n with
    | zero => rw [psum, Nat.mul_zero, Nat.add_zero, Nat.add_zero]
    | succ n ih => rw [← Nat.add_assoc, pre, ih, psum, Nat.mul_add, Nat.pow_add, Nat.mul_left_comm, Nat.add_assoc]
  have e := key 8
  rw [hF] at h
  generalize psum (fun j => a.getD (8 + j) 0) 8 = q at *
  rw [show (8 + 8 : Nat) = 16 from rfl] at e
  generalize pre a 16 = x at *
  generalize pre a 8 = y at *
  generalize pre (foldS a 8).1 8 = u at *
  generalize (foldS a 8).2 = o at *
  rw [show (4294967296 : Nat) ^ 8 = mm from by decide] at *
  have e2 : x = (u + mm * o) + pp * (2 * q) := by simp only [mm, pp] at *; omega
  rw [e2, Nat.add_mul_mod_self_left]
theorem fold_c (u o : Nat) (hu : u < mm) (ho : o ≤ 38) : (∀ k, (foldV u o k).2 ≤ 1500) ∧ (foldV u o 8).1 = nD ((u + 38 * o) % mm) ∧ (foldV u o 8).2 = (u + 38 * o) / mm := by
  have hd : D8 (foldV u o 8).1 := ⟨cyTo_length _ _ _ 8, cyTo_lt _ _ (nD_D8 u).2 8⟩
  have h : pre (foldV u o 8).1 8 + (foldV u o 8).2 * 4294967296 ^ 8 = psum (fun j => (nD u).getD j 0) 8 + 38 * o := cyTo_pre (fun k => (nD u).getD k 0) (nD u) (38 * o) 8 (Nat.le_of_eq (nD_length u).symm)
  rw [← pre_psum, pre_nD u hu] at h
  have hlt := hd.lt
  have his := hd.is
  have hle : ∀ k, (foldV u o k).2 ≤ 1500 := cyTo_le (fun k => (nD u).getD k 0) (nD u) (38 * o) 1500 (by omega) (fun k => by have := (nD_D8 u).2 k; omega)
  rw [his]
  generalize pre (foldV u o 8).1 8 = x at *
  generalize (foldV u o 8).2 = c at *
  rw [show (4294967296 : Nat) ^ 8 = mm from by decide] at h
  have e1 : x = (u + 38 * o) % mm ∧ c = (u + 38 * o) / mm := by simp only [mm] at *; omega
  exact ⟨hle, by rw [e1.1], e1.2⟩
theorem foldS_le (a : List Nat) (ha : ∀ k, a.getD k 0 < 4294967296) (k : Nat) : (foldS a k).2 ≤ 38 :=
  cyTo_le (foldF a) [0, 0, 0, 0, 0, 0, 0, 0] 0 38 (Nat.zero_le _) (fun k => by have := ha k; have := ha (8 + k); rw [foldF]; omega) k
theorem foldS_length (a : List Nat) (k : Nat) : (foldS a k).1.length = 8 := cyTo_length _ _ _ k
theorem foldS_zero (a : List Nat) : (foldS a 0).1 = [0, 0, 0, 0, 0, 0, 0, 0] ∧ (foldS a 0).2 = 0 := by rw [foldS, cyTo]; exact ⟨rfl, rfl⟩
theorem foldV_all (u o : Nat) : foldV u o 0 = (nD u, 38 * o) ∧ (∀ k, (foldV u o k).1.length = 8) ∧ (∀ k, foldV u o (k + 1) = ((foldV u o k).1.set k (((nD u).getD k 0 + (foldV u o k).2) % 4294967296), ((nD u).getD k 0 + (foldV u o k).2) / 4294967296)) ∧ ∀ k, (foldV u o k).1.getD k 0 = (nD u).getD k 0 :=
  ⟨by rw [foldV, cyTo], fun k => cyTo_length _ _ _ k, foldV_next u o, fun k => cyTo_ahead _ _ _ k k (Nat.le_refl _)⟩
/-- The document's fold: sixteen words modulo p. -/
theorem refFold_any (a : List Nat) (w : World) (hl : a.length = 16) (ha : ∀ k, a.getD k 0 < 4294967296) : Calls Tryd.prog 31 #[numD a] w fun e w' => e = .returned (numD (nD (pre a 16 % pp))) ∧ Below w.heap.size w w' :=
  refFold_over a (nD (pre a 16 % pp)) (fun k => (foldS a k).1) (fun k => (foldS a k).2) (pre a 16) foldV w ⟨hl, ha⟩ (foldS_length a) (foldS_zero a) (foldS_next a) (foldS_le a ha) (fold_u a) foldV_all fold_c
    (fun u hu hm W => by rw [← hm]; exact refLeast_any u W hu) (nD_length _)
end Go.Proofs.YtlhgabhjbnckkaaDoor
