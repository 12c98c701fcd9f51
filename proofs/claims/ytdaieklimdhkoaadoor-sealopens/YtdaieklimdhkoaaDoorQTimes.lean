/- The document's times. -/
import Derived.Test.YtdaieklimdhkoaaDoorQAdd
namespace Go.Proofs.YtdaieklimdhkoaaDoor
open Go.RowKit
/-- A row of a product: x times the digits of b, from place i on. -/
def rowTo (s b : List Nat) (i x : Nat) : Nat → List Nat
  | 0 => s
  | j + 1 => (rowTo s b i x j).set (i + j) ((rowTo s b i x j).getD (i + j) 0 + x * b.getD j 0)
theorem rowTo_length (s b : List Nat) (i x : Nat) : ∀ j, (rowTo s b i x j).length = s.length
  | 0 => rfl
  | j + 1 => by rw [rowTo, List.length_set, rowTo_length]
theorem row_ring (p q x d b : Nat) : p * x * (d + q * b) = p * x * d + p * q * (x * b) := by grind
theorem rowTo_val (s b : List Nat) (i x : Nat) : ∀ j, j ≤ b.length → i + j ≤ s.length → dval (rowTo s b i x j) = dval s + 256 ^ i * x * dval (b.take j)
  | 0, _, _ => by rw [List.take_zero]; simp [dval, rowTo]
  | j + 1, hj, hs => by
    have h1 : i + j < (rowTo s b i x j).length := by rw [rowTo_length]; omega
    rw [rowTo, getD_get _ _ h1, dval_set _ _ _ h1, rowTo_val s b i x j (by omega) (by omega), dval_take b j (by omega), getD_get b j (by omega), row_ring, Nat.pow_add]
    omega
theorem rowTo_le (s b : List Nat) (i x B : Nat) (hs : ∀ p, s.getD p 0 ≤ B) (hx : x ≤ 255) (hb : ∀ z ∈ b, z ≤ 255) : ∀ j p, (p < i + j → (rowTo s b i x j).getD p 0 ≤ B + 65025) ∧ (i + j ≤ p → (rowTo s b i x j).getD p 0 ≤ B)
  | 0, p => ⟨fun _ => by have := hs p; show s.getD p 0 ≤ _; omega, fun _ => hs p⟩
  | j + 1, p => by
    have h1 := rowTo_le s b i x B hs hx hb j p
    have h2 := (rowTo_le s b i x B hs hx hb j (i + j)).2 (Nat.le_refl _)
    have h3 : x * b.getD j 0 ≤ 255 * 255 := Nat.mul_le_mul hx (getD_le b 255 j hb)
    rw [rowTo]
    by_cases e : i + j = p
    · subst e
      have h4 := getD_set_self_le (rowTo s b i x j) (i + j) ((rowTo s b i x j).getD (i + j) 0 + x * b.getD j 0)
      exact ⟨fun _ => by omega, fun h => by omega⟩
    · rw [getN_set_other _ _ _ _ e]
      exact ⟨fun h => h1.1 (by omega), fun h => h1.2 (by omega)⟩
def prodTo (a b : List Nat) : Nat → List Nat
  | 0 => List.replicate (a.length + b.length) 0
  | i + 1 => rowTo (prodTo a b i) b i (a.getD i 0) b.length
theorem prodTo_length (a b : List Nat) : ∀ i, (prodTo a b i).length = a.length + b.length
  | 0 => by rw [prodTo, List.length_replicate]
  | i + 1 => by rw [prodTo, rowTo_length, prodTo_length]
theorem prodTo_le (a b : List Nat) (ha : ∀ z ∈ a, z ≤ 255) (hb : ∀ z ∈ b, z ≤ 255) : ∀ i p, (prodTo a b i).getD p 0 ≤ 65025 * i
  | 0, p => getD_le _ _ p (by intro z hz; rw [List.eq_of_mem_replicate hz]; exact Nat.zero_le _)
  | i + 1, p => by
    have h := rowTo_le (prodTo a b i) b i (a.getD i 0) _ (prodTo_le a b ha hb i) (getD_le a 255 i ha) hb b.length p
    rw [prodTo]
    rcases Nat.lt_or_ge p (i + b.length) with h1 | h1
    · have := h.1 h1; omega
    · have := h.2 h1; omega
theorem prod_ring (p x d y : Nat) : (d + p * x) * y = d * y + p * x * y := by grind
theorem prodTo_val (a b : List Nat) : ∀ i, i ≤ a.length → dval (prodTo a b i) = dval (a.take i) * dval b
  | 0, _ => by rw [prodTo, dval_zeros, List.take_zero]; simp [dval]
  | i + 1, hi => by
    rw [prodTo, rowTo_val _ _ _ _ _ (Nat.le_refl _) (by rw [prodTo_length]; omega), prodTo_val a b i (by omega), List.take_of_length_le (Nat.le_refl _), dval_take a i (by omega), getD_get a i (by omega), prod_ring]
set_option maxRecDepth 100000 in
set_option maxHeartbeats 1000000 in
theorem refTimes_over (A B : Option Addr) (n m c d : Nat) (xs ys rs : List Nat) (M : Nat → Nat → List Nat) (w : World) (HX : Hid (xs.length = n)) (HY : Hid (ys.length = m)) (ha : RowI w w.heap.size A xs) (hb : RowI w w.heap.size B ys) (hn : n ≤ 1000) (hm : m ≤ 1000) (H0 : Hid (M 0 0 = List.replicate (n + m) 0)) (HN : Hid (∀ i, M (i + 1) 0 = M i m))
    (HM : Hid (∀ i j, M i (j + 1) = (M i j).set (i + j) ((M i j).getD (i + j) 0 + xs.getD i 0 * ys.getD j 0))) (HL : Hid (∀ i j, (M i j).length = n + m)) (HB : Hid (∀ i j, i < n → (M i j).getD (i + j) 0 ≤ 1000000000 ∧ xs.getD i 0 * ys.getD j 0 ≤ 1000000000))
    (CE : Hid (∀ g W, RowI W W.heap.size (some ⟨g, 0, none⟩) (M n 0) → Calls Tryd.prog 62 #[.slice (some ⟨g, 0, none⟩) (n + m) (n + m)] W (GivesI W rs))) :
    Calls Tryd.prog 54 #[.slice A n c, .slice B m d] w (GivesI w rs) := by
  have hmk := make_ints (n + m) (by omega)
  rw [show ((n + m : Nat) : Int) = (n : Int) + (m : Int) by omega] at hmk
  go_enter Tryd.func54, Tryd.ntmps54
  go_wp2_with fail
  have hB0 : Below w.heap.size w (w.alloc (.cells (izeros (n + m)).toArray 3)) := (Below.refl _ _).alloc (Nat.le_refl _) _
  have hC0 : Cells (w.alloc (.cells (izeros (n + m)).toArray 3)) w.heap.size ((M 0 0).map icell) 3 := by rw [H0.out, ← izeros_map]; exact Cells.new w _ _
  generalize w.alloc (.cells (izeros (n + m)).toArray 3) = w0 at *
  clear hmk
  go_loopw [6, 7, 18] (fun _ _ i wr => ∃ k : Nat, k ≤ n ∧ i = .int .i64 k ∧ Below w.heap.size w wr ∧ Cells wr w.heap.size ((M k 0).map icell) 3) (fun _ _ i _ => n - (intOf i).toNat)
  case atStart => exact ⟨0, Nat.zero_le _, rfl, hB0, hC0⟩
  case round =>
    clear hB0 hC0
    obtain ⟨k, hk, rfl, hB, hC⟩ := hrel
    by_cases hlt : k < n
    · obtain ⟨b, off, rfl, hb1, hcell⟩ := (ha.below hB).at k (by rw [HX.out]; exact hlt)
      have hMk := HB.out k
      have HMk := Lib.hid (HM.out k)
      clear HM HB
      generalize xs.getD k 0 = x at *
      have i1 : (k : Int) < (n : Int) := by omega
      go_wp2_with fail
      go_loopw [8, 9, 25] (fun _ _ i wr => ∃ j : Nat, j ≤ m ∧ i = .int .i64 j ∧ Below w.heap.size w wr ∧ Cells wr w.heap.size ((M k j).map icell) 3) (fun _ _ i _ => m - (intOf i).toNat)
      case atStart => exact ⟨0, Nat.zero_le _, rfl, hB, hC⟩
      case round =>
        clear hB hC hcell
        obtain ⟨j, hj, rfl, hB, hC⟩ := hrel
        by_cases hjt : j < m
        · obtain ⟨b2, off2, rfl, hb2, hcell2⟩ := (hb.below hB).at j (by rw [HY.out]; exact hjt)
          have HLk := Lib.hid (HL.out k j)
          have HNk := Lib.hid (HMk.out j)
          obtain ⟨q1, q2⟩ := hMk j hlt
          obtain ⟨s1, HS1⟩ : ∃ s1, Hid (M k (j + 1) = s1) := ⟨_, rfl⟩
          rw [HS1.out] at HNk
          have d1 := hC.get (int_at (M k j) (k + j) (by rw [HLk.out]; omega))
          have d2 := hC.frozen (k + j)
          generalize M k j = s at *
          generalize s.getD (k + j) 0 = z at *
          generalize ys.getD j 0 = y at *
          have i2 : (0 : Int) ≤ (k : Int) + (j : Int) := by omega
          have i3 : (k : Int) + (j : Int) < (n : Int) + (m : Int) := by omega
          have i4 : ((k : Int) + (j : Int)).toNat = k + j := by omega
          have e0 : ((n + m : Nat) : Int) = (n : Int) + (m : Int) := by omega
          have q3 : (x : Int) * (y : Int) = ((x * y : Nat) : Int) := (Int.natCast_mul x y).symm
          have Q3 := Lib.hid q3
          have j1 : IntKind.i64.wrap ((x : Int) * (y : Int)) = ((x * y : Nat) : Int) := by rw [q3]; exact IntWalk.i64_in _ (by omega)
          clear q3
          generalize x * y = xy at *
          go_wp2_with fail
          go_roundw
          case rel =>
            refine ⟨j + 1, by omega, by go_num, hB.setCell (p := ⟨w.heap.size, k + j, none⟩) (Nat.le_refl _) _, ?_⟩
            rw [HS1.out, HNk.out, ← iset_map, show ((z : Int) + (xy : Int)) = ((z + xy : Nat) : Int) from (Int.natCast_add z xy).symm]
            exact hC.set _ _
          case measure => simp [intOf]; omega
        · obtain rfl : j = m := by omega
          go_wp2_with fail
          go_roundw
          case rel => exact ⟨k + 1, by omega, by go_num, hB, by rw [HN.out]; exact hC⟩
          case measure => simp [intOf]; omega
    · obtain rfl : k = n := by omega
      have CE2 := Lib.hid (CE.out w.heap.size wr hC.rowI)
      clear CE HM HB HN HL
      go_wp2_with fail
      refine CE2.out.mono ?_
      rintro e w5 ⟨A', c', rfl, h1, h2, h3, h4, h5⟩
      go_wp2_with fail
      go_ret
      exact ⟨A', c', rfl, h1, h2, h3, h4, below_then hB h5⟩
theorem refTimes_any (A B : Option Addr) (n m c d x y : Nat) (xs ys : List Nat) (w : World) (hx : xs = digs x) (hy : ys = digs y) (hxl : xs.length = n) (hyl : ys.length = m) (ha : RowI w w.heap.size A xs) (hb : RowI w w.heap.size B ys) (hn : n ≤ 1000) (hm : m ≤ 1000) :
    Calls Tryd.prog 54 #[.slice A n c, .slice B m d] w (GivesI w (digs (x * y))) := by
  have bx : ∀ z ∈ xs, z ≤ 255 := by rw [hx]; exact fun z hz => by have := digs_lt x z hz; omega
  have by' : ∀ z ∈ ys, z ≤ 255 := by rw [hy]; exact fun z hz => by have := digs_lt y z hz; omega
  have hv : dval (prodTo xs ys n) = x * y := by
    rw [prodTo_val xs ys n (by omega), List.take_of_length_le (by omega), hx, hy, dval_digs, dval_digs]
  have hE := fun g W (hW : RowI W W.heap.size (some ⟨g, 0, none⟩) (prodTo xs ys n)) => even_any (some ⟨g, 0, none⟩) (n + m) (n + m) _ W (by rw [prodTo_length, hxl, hyl]) hW (by omega) (fun z hz => by have := mem_le _ _ (prodTo_le xs ys bx by' n) z hz; omega)
  rw [hv] at hE
  exact refTimes_over A B n m c d xs ys _ (fun i j => rowTo (prodTo xs ys i) ys i (xs.getD i 0) j) w hxl hyl ha hb hn hm (show prodTo xs ys 0 = _ by rw [prodTo, hxl, hyl]) (fun i => show prodTo xs ys (i + 1) = _ by rw [prodTo, hyl]) (fun _ _ => rfl) (fun i j => by rw [rowTo_length, prodTo_length, hxl, hyl])
    (fun i j hi => by
      have h := (rowTo_le (prodTo xs ys i) ys i (xs.getD i 0) _ (prodTo_le xs ys bx by' i) (getD_le xs 255 i bx) by' j (i + j)).2 (Nat.le_refl _)
      have h2 : xs.getD i 0 * ys.getD j 0 ≤ 255 * 255 := Nat.mul_le_mul (getD_le xs 255 i bx) (getD_le ys 255 j by')
      exact ⟨by omega, by omega⟩) hE
end Go.Proofs.YtdaieklimdhkoaaDoor
