/- Part 8 of what the laws of this seat share: FElem, FPow, FEq, WTab. -/
import Derived.IntWalk
import Derived.Stop.BytesEq
import Derived.Test.YtoggkhjaghkpnaaDoorPart7
namespace Go.Proofs.YtoggkhjaghkpnaaDoor
open Go.RowKit
set_option maxRecDepth 100000 in
theorem eAdd_over (a b s r : List Nat) (w : World) (HA : Hid (a.length = 5)) (HB : Hid (b.length = 5)) (HR : Hid (r.length = 5))
    (CP : Hid (∀ W, Calls Tryd.prog 82 #[numVal a, numVal b] W (gvn (numVal s) W))) (CL : Hid (∀ W, Calls Tryd.prog 64 #[numVal s] W (gvn (numVal r) W)))
    (BE : ∀ w, (Instr.build 44 #[(0, numVal r)]).run Tryd.prog w = .ok (numVal r) w) :
    Calls Tryd.prog 62 #[numVal a, numVal b] w (gvn (numVal r) w) := by
  go_enter Tryd.func62, Tryd.ntmps62
  go_wp2_with (first
    | (refine vtake_step rfl 44 (.tmp 0) rfl (a.map ncell) rfl ?_
       intro w1 hB1 hA1
       try simp only [putS]
       skip)
    | (refine vtake_step rfl 44 (.tmp 1) rfl (b.map ncell) rfl ?_
       intro w2 hb2 hC2
       have hB2 := below_then hB1 hb2
       have hA2 := hA1.on hb2
       clear hB1 hA1 hb2
       try simp only [putS]
       skip)
    | (refine vzero_step rfl 44 rfl (nzeros 5) zero_elem ?_
       intro w3 hb3 hZ3
       have hB3 := below_then hB2 hb3
       have hA3 := hA2.on hb3
       have hC3 := hC2.on hb3
       have hle := hB2.size
       clear hB2 hA2 hC2 hb3
       try simp only [putS]
       skip)
    | (refine sget_step rfl 42 (.tmp 5) rfl w.heap.size 5 (a.map ncell) rfl hA3 Tryd.underlying42 rfl size_numF (by rw [List.length_map, HA.out]) ?_
       clear hA3
       try simp only [putS]
       skip)
    | (refine sget_step rfl 42 (.tmp 7) rfl w1.heap.size 5 (b.map ncell) rfl hC3 Tryd.underlying42 rfl size_numF (by rw [List.length_map, HB.out]) ?_
       clear hC3
       try simp only [putS]
       skip))
  generalize w2.heap.size = gz at *
  refine (CP.out w3).mono ?_
  rintro e w4 ⟨rfl, hb4⟩
  have hB4 := below_then hB3 hb4
  have hZ4 := hZ3.on hb4
  clear CP hB3 hZ3 hb4
  go_wp2_with fail
  refine (CL.out w4).mono ?_
  rintro e w5 ⟨rfl, hb5⟩
  have hB5 := below_then hB4 hb5
  have hZ5 := hZ4.on hb5
  clear CL hB4 hZ4 hb5
  go_wp2_with (first
    | (refine build_step rfl 44 _ rfl [(0, numVal r)] rfl _ BE ?_)
    | (refine vset_step rfl 44 _ _ rfl gz 5 (nzeros 5) (r.map ncell) rfl rfl hZ5 rfl size_elem (by rw [List.length_map, HR.out]) (ncells_one _) ?_
       intro w6 hb6 hC6 _))
  refine sret Tryd.results62 gz (r.map ncell) rfl hC6 Tryd.underlying44 rfl size_elem (by rw [List.length_map, HR.out]) rfl ⟨rfl, hB5.trans (hb6.below hle hB5.size)⟩
set_option maxRecDepth 100000 in
theorem eSub_over (a b s r : List Nat) (w : World) (HA : Hid (a.length = 5)) (HB : Hid (b.length = 5)) (HR : Hid (r.length = 5))
    (CP : Hid (∀ W, Calls Tryd.prog 65 #[numVal a, numVal b] W (gvn (numVal s) W))) (CL : Hid (∀ W, Calls Tryd.prog 64 #[numVal s] W (gvn (numVal r) W)))
    (BE : ∀ w, (Instr.build 44 #[(0, numVal r)]).run Tryd.prog w = .ok (numVal r) w) :
    Calls Tryd.prog 39 #[numVal a, numVal b] w (gvn (numVal r) w) := by
  go_enter Tryd.func39, Tryd.ntmps39
  go_wp2_with (first
    | (refine vtake_step rfl 44 (.tmp 0) rfl (a.map ncell) rfl ?_
       intro w1 hB1 hA1
       try simp only [putS]
       skip)
    | (refine vtake_step rfl 44 (.tmp 1) rfl (b.map ncell) rfl ?_
       intro w2 hb2 hC2
       have hB2 := below_then hB1 hb2
       have hA2 := hA1.on hb2
       clear hB1 hA1 hb2
       try simp only [putS]
       skip)
    | (refine vzero_step rfl 44 rfl (nzeros 5) zero_elem ?_
       intro w3 hb3 hZ3
       have hB3 := below_then hB2 hb3
       have hA3 := hA2.on hb3
       have hC3 := hC2.on hb3
       have hle := hB2.size
       clear hB2 hA2 hC2 hb3
       try simp only [putS]
       skip)
    | (refine sget_step rfl 42 (.tmp 5) rfl w.heap.size 5 (a.map ncell) rfl hA3 Tryd.underlying42 rfl size_numF (by rw [List.length_map, HA.out]) ?_
       clear hA3
       try simp only [putS]
       skip)
    | (refine sget_step rfl 42 (.tmp 7) rfl w1.heap.size 5 (b.map ncell) rfl hC3 Tryd.underlying42 rfl size_numF (by rw [List.length_map, HB.out]) ?_
       clear hC3
       try simp only [putS]
       skip))
  generalize w2.heap.size = gz at *
  refine (CP.out w3).mono ?_
  rintro e w4 ⟨rfl, hb4⟩
  have hB4 := below_then hB3 hb4
  have hZ4 := hZ3.on hb4
  clear CP hB3 hZ3 hb4
  go_wp2_with fail
  refine (CL.out w4).mono ?_
  rintro e w5 ⟨rfl, hb5⟩
  have hB5 := below_then hB4 hb5
  have hZ5 := hZ4.on hb5
  clear CL hB4 hZ4 hb5
  go_wp2_with (first
    | (refine build_step rfl 44 _ rfl [(0, numVal r)] rfl _ BE ?_)
    | (refine vset_step rfl 44 _ _ rfl gz 5 (nzeros 5) (r.map ncell) rfl rfl hZ5 rfl size_elem (by rw [List.length_map, HR.out]) (ncells_one _) ?_
       intro w6 hb6 hC6 _))
  refine sret Tryd.results39 gz (r.map ncell) rfl hC6 Tryd.underlying44 rfl size_elem (by rw [List.length_map, HR.out]) rfl ⟨rfl, hB5.trans (hb6.below hle hB5.size)⟩
set_option maxRecDepth 100000 in
theorem eTimes_over (a b s r : List Nat) (w : World) (HA : Hid (a.length = 5)) (HB : Hid (b.length = 5)) (HR : Hid (r.length = 5))
    (CP : Hid (∀ W, Calls Tryd.prog 72 #[numVal a, numVal b] W (gvn (numVal s) W))) (CL : Hid (∀ W, Calls Tryd.prog 64 #[numVal s] W (gvn (numVal r) W)))
    (BE : ∀ w, (Instr.build 44 #[(0, numVal r)]).run Tryd.prog w = .ok (numVal r) w) :
    Calls Tryd.prog 43 #[numVal a, numVal b] w (gvn (numVal r) w) := by
  go_enter Tryd.func43, Tryd.ntmps43
  go_wp2_with (first
    | (refine vtake_step rfl 44 (.tmp 0) rfl (a.map ncell) rfl ?_
       intro w1 hB1 hA1
       try simp only [putS]
       skip)
    | (refine vtake_step rfl 44 (.tmp 1) rfl (b.map ncell) rfl ?_
       intro w2 hb2 hC2
       have hB2 := below_then hB1 hb2
       have hA2 := hA1.on hb2
       clear hB1 hA1 hb2
       try simp only [putS]
       skip)
    | (refine vzero_step rfl 44 rfl (nzeros 5) zero_elem ?_
       intro w3 hb3 hZ3
       have hB3 := below_then hB2 hb3
       have hA3 := hA2.on hb3
       have hC3 := hC2.on hb3
       have hle := hB2.size
       clear hB2 hA2 hC2 hb3
       try simp only [putS]
       skip)
    | (refine sget_step rfl 42 (.tmp 5) rfl w.heap.size 5 (a.map ncell) rfl hA3 Tryd.underlying42 rfl size_numF (by rw [List.length_map, HA.out]) ?_
       clear hA3
       try simp only [putS]
       skip)
    | (refine sget_step rfl 42 (.tmp 7) rfl w1.heap.size 5 (b.map ncell) rfl hC3 Tryd.underlying42 rfl size_numF (by rw [List.length_map, HB.out]) ?_
       clear hC3
       try simp only [putS]
       skip))
  generalize w2.heap.size = gz at *
  refine (CP.out w3).mono ?_
  rintro e w4 ⟨rfl, hb4⟩
  have hB4 := below_then hB3 hb4
  have hZ4 := hZ3.on hb4
  clear CP hB3 hZ3 hb4
  go_wp2_with fail
  refine (CL.out w4).mono ?_
  rintro e w5 ⟨rfl, hb5⟩
  have hB5 := below_then hB4 hb5
  have hZ5 := hZ4.on hb5
  clear CL hB4 hZ4 hb5
  go_wp2_with (first
    | (refine build_step rfl 44 _ rfl [(0, numVal r)] rfl _ BE ?_)
    | (refine vset_step rfl 44 _ _ rfl gz 5 (nzeros 5) (r.map ncell) rfl rfl hZ5 rfl size_elem (by rw [List.length_map, HR.out]) (ncells_one _) ?_
       intro w6 hb6 hC6 _))
  refine sret Tryd.results43 gz (r.map ncell) rfl hC6 Tryd.underlying44 rfl size_elem (by rw [List.length_map, HR.out]) rfl ⟨rfl, hB5.trans (hb6.below hle hB5.size)⟩
/-- A number's limb. -/
def lx (n k : Nat) : Nat := (limb5 n).getD k 0
theorem lx_lt (n k : Nat) : lx n k < 2251799813685248 := by
  match k with
  | 0 => exact Nat.mod_lt _ (by decide)
  | 1 => exact Nat.mod_lt _ (by decide)
  | 2 => exact Nat.mod_lt _ (by decide)
  | 3 => exact Nat.mod_lt _ (by decide)
  | 4 => exact Nat.mod_lt _ (by decide)
  | k + 5 => show 0 < _; decide
theorem val5_lx (n : Nat) (h : n < pp) : val5 (lx n 0) (lx n 1) (lx n 2) (lx n 3) (lx n 4) = n := val5_limbs n (by simp only [pp] at h; omega)
theorem build_elN (r : List Nat) (h : r.length = 5) (w : World) : (Instr.build 44 #[(0, numVal r)]).run Tryd.prog w = .ok (numVal r) w := by
  obtain ⟨a, b, c, d, e, rfl⟩ := five_of r h
  exact build_elem a b c d e w
theorem eAdd_any (n m : Nat) (w : World) (hn : n < pp) (hm : m < pp) : Calls Tryd.prog 62 #[elV n, elV m] w (gvn (elV ((n + m) % pp)) w) := by
  have e1 := val5_lx n hn
  have e2 := val5_lx m hm
  have hx := lx_lt n
  have hy := lx_lt m
  refine eAdd_over (limb5 n) (limb5 m) [lx n 0 + lx m 0, lx n 1 + lx m 1, lx n 2 + lx m 2, lx n 3 + lx m 3, lx n 4 + lx m 4] (limb5 ((n + m) % pp)) w rfl rfl rfl (fun W => ?_) (fun W => ?_) (fun w => build_elN _ rfl w)
  · have h := plusF_any (limb5 n) (limb5 m) W rfl rfl
    have e : plusN (limb5 n) (limb5 m) = [addW (lx n 0) (lx m 0), addW (lx n 1) (lx m 1), addW (lx n 2) (lx m 2), addW (lx n 3) (lx m 3), addW (lx n 4) (lx m 4)] := rfl
    rw [e, addW_in _ _ (by have := hx 0; have := hy 0; omega), addW_in _ _ (by have := hx 1; have := hy 1; omega), addW_in _ _ (by have := hx 2; have := hy 2; omega), addW_in _ _ (by have := hx 3; have := hy 3; omega), addW_in _ _ (by have := hx 4; have := hy 4; omega)] at h
    exact h
  · refine least_any _ _ _ _ _ _ W (by have := hx 0; have := hy 0; omega) (by have := hx 1; have := hy 1; omega) (by have := hx 2; have := hy 2; omega) (by have := hx 3; have := hy 3; omega) (by have := hx 4; have := hy 4; omega) ?_
    rw [val5] at e1 e2 ⊢
    omega
theorem eSub_any (n m : Nat) (w : World) (hn : n < pp) (hm : m < pp) : Calls Tryd.prog 39 #[elV n, elV m] w (gvn (elV ((n + (pp - m)) % pp)) w) := by
  have e1 := val5_lx n hn
  have e2 := val5_lx m hm
  have hx := lx_lt n
  have hy := lx_lt m
  refine eSub_over (limb5 n) (limb5 m) [lx n 0 + (4503599627370458 - lx m 0), lx n 1 + (4503599627370494 - lx m 1), lx n 2 + (4503599627370494 - lx m 2), lx n 3 + (4503599627370494 - lx m 3), lx n 4 + (4503599627370494 - lx m 4)] (limb5 ((n + (pp - m)) % pp)) w rfl rfl rfl (fun W => ?_) (fun W => ?_) (fun w => build_elN _ rfl w)
  · exact minusF_any (lx n 0) (lx n 1) (lx n 2) (lx n 3) (lx n 4) (lx m 0) (lx m 1) (lx m 2) (lx m 3) (lx m 4) W ⟨hx 0, hx 1, hx 2, hx 3, hx 4⟩ ⟨hy 0, hy 1, hy 2, hy 3, hy 4⟩
  · have e : (n + (pp - m)) % pp = (n + (2 * pp - m)) % pp := by rw [show n + (2 * pp - m) = (n + (pp - m)) + pp by simp only [pp] at hm ⊢; omega, Nat.add_mod_right]
    rw [e]
    have x0 := hx 0
    have x1 := hx 1
    have x2 := hx 2
    have x3 := hx 3
    have x4 := hx 4
    have y0 := hy 0
    have y1 := hy 1
    have y2 := hy 2
    have y3 := hy 3
    have y4 := hy 4
    refine least_any _ _ _ _ _ _ W (by omega) (by omega) (by omega) (by omega) (by omega) ?_
    rw [val5] at e1 e2 ⊢
    simp only [pp] at hm ⊢
    omega
theorem eTimes_any (n m : Nat) (w : World) (hn : n < pp) (hm : m < pp) : Calls Tryd.prog 43 #[elV n, elV m] w (gvn (elV (n * m % pp)) w) := by
  obtain ⟨a, b, c, d, e, hP, hC⟩ := product_any (lx n) (lx m) (lx_lt n) (lx_lt m)
  refine eTimes_over (limb5 n) (limb5 m) [a, b, c, d, e] (limb5 (n * m % pp)) w rfl rfl rfl hC (fun W => ?_) (fun w => build_elN _ rfl w)
  have h := least_any a b c d e _ W hP.low.1 hP.low.2.1 hP.low.2.2.1 hP.low.2.2.2.1 hP.low.2.2.2.2 rfl
  rw [hP.val, val5_lx n hn, val5_lx m hm] at h
  exact h
set_option maxRecDepth 100000 in
theorem eSquare_over (a r : List Nat) (w : World) (HA : Hid (a.length = 5)) (HR : Hid (r.length = 5)) (CT : Hid (∀ W, Calls Tryd.prog 43 #[numVal a, numVal a] W (gvn (numVal r) W))) :
    Calls Tryd.prog 60 #[numVal a] w (gvn (numVal r) w) := by
  go_enter Tryd.func60, Tryd.ntmps60
  go_wp2_with (first
    | (refine vtake_step rfl 44 (.tmp 0) rfl (a.map ncell) rfl ?_
       intro w1 hB1 hA1
       try simp only [putS]
       skip)
    | (refine vzero_step rfl 44 rfl (nzeros 5) zero_elem ?_
       intro w3 hb3 hZ3
       have hB3 := below_then hB1 hb3
       have hA3 := hA1.on hb3
       have hle := hB1.size
       clear hB1 hA1 hb3
       try simp only [putS]
       skip)
    | (refine sget_step rfl 44 (.tmp 1) rfl w.heap.size 5 (a.map ncell) rfl hA3 Tryd.underlying44 rfl size_elem (by rw [List.length_map, HA.out]) ?_
       try simp only [putS]
       skip))
  generalize w1.heap.size = gz at *
  refine (CT.out w3).mono ?_
  rintro e w4 ⟨rfl, hb4⟩
  have hB4 := below_then hB3 hb4
  have hZ4 := hZ3.on hb4
  clear CT hB3 hZ3 hb4
  go_wp2_with (first
    | (refine vset_step rfl 44 _ _ rfl gz 5 (nzeros 5) (r.map ncell) rfl rfl hZ4 rfl size_elem (by rw [List.length_map, HR.out]) (ncells_one _) ?_
       intro w6 hb6 hC6 _))
  refine sret Tryd.results60 gz (r.map ncell) rfl hC6 Tryd.underlying44 rfl size_elem (by rw [List.length_map, HR.out]) rfl ⟨rfl, hB4.trans (hb6.below hle hB4.size)⟩
theorem eSquare_any (n : Nat) (w : World) (hn : n < pp) : Calls Tryd.prog 60 #[elV n] w (gvn (elV (n * n % pp)) w) :=
  eSquare_over (limb5 n) (limb5 (n * n % pp)) w rfl rfl fun W => eTimes_any n n W hn hn
theorem elem_run {w : World} {g : Nat} {l : List Nat} {t' : TypeId} (hC : Cells w g (l.map ncell) t') (hl : l.length = 5) : (Instr.loadAt 44 (.pointer (some ⟨g, 0, none⟩))).run Tryd.prog w = .ok (numVal l) w := by
  have h := run_loadVar_row (P := Tryd.prog) w g t' 44 (l.map ncell).toArray (0, 0) _ hC Tryd.underlying44 rfl (by rw [List.size_toArray, List.length_map, hl]; exact size_elem)
  simp only [Instr.loadAt, Instr.sureAddr, Sem.run_bind, Sem.run_pure, Result.andThen_ok]
  exact h
set_option maxRecDepth 100000 in
theorem squared_over (a r : List Nat) (t : Nat) (T : Nat → List Nat) (w : World) (ht : t < 1000) (HL : Hid (∀ j, (T j).length = 5)) (H0 : Hid (T t = a)) (HR : Hid (T 0 = r))
    (CS : Hid (∀ j, j < t → ∀ W, Calls Tryd.prog 60 #[numVal (T (j + 1))] W (gvn (numVal (T j)) W))) :
    Calls Tryd.prog 70 #[numVal a, .int .i64 t] w (gvn (numVal r) w) := by
  go_enter Tryd.func70, Tryd.ntmps70
  go_wp2_with (first
    | (refine vtake_step rfl 44 (.tmp 0) rfl (a.map ncell) rfl ?_
       intro w1 hB1 hA1)
    | (refine vzero_step rfl 44 rfl (nzeros 5) zero_elem ?_
       intro w3 hb3 hZ3
       have hB3 := below_then hB1 hb3
       have hA3 := hA1.on hb3
       have hlt := hA1.lt
       clear hB1 hA1 hb3))
  generalize hgz : w1.heap.size = gz at *
  clear hgz
  refine wp_scope_once 0 (fun a' w' => ∃ (j : Nat) (u5 u6 u7 u8 u9 u10 u11 : Value), j ≤ t ∧ Below w.heap.size w w' ∧ Cells w' w.heap.size ((T j).map ncell) 44 ∧ Cells w' gz (nzeros 5) 44 ∧
      a' = { tmps := #[numVal a, .int .i64 (j : Int), .pointer (some ⟨w.heap.size, 0, none⟩), undef, .pointer (some ⟨gz, 0, none⟩), u5, u6, u7, u8, u9, u10, u11], defers := [] })
    (fun a' _ => (intOf (a'.tmps.getD 1 undef)).toNat) rfl ?_ ?_
  · intro hp
    go_wp2
    go_step3
    rename_i K hK
    exact hK _ _ (hp.out _ _ ⟨t, _, _, _, _, _, _, _, Nat.le_refl _, hB3, by rw [H0.out]; exact hA3, hZ3, rfl⟩)
  · clear hB3 hA3 hZ3
    rintro a' w' ⟨j, u5, u6, u7, u8, u9, u10, u11, hj, hB, hA, hZ, rfl⟩
    have HLj := Lib.hid (HL.out j)
    by_cases h0 : 0 < j
    · obtain ⟨k, rfl⟩ : ∃ k, j = k + 1 := ⟨j - 1, by omega⟩
      have HLk := Lib.hid (HL.out k)
      have HC := Lib.hid (CS.out k (by omega))
      have i1 : (0 : Int) < ((k + 1 : Nat) : Int) := by omega
      have i2 : IntKind.i64.wrap (((k + 1 : Nat) : Int) - 1) = (k : Int) := by rw [IntWalk.i64_in _ (by omega)]; omega
      obtain ⟨s, HS⟩ := namedF (T (k + 1))
      obtain ⟨q, HQ⟩ := namedF (T k)
      obtain ⟨m, HM⟩ := namedF (((k + 1 : Nat) : Int))
      have HMV := HM.out
      rw [HM.out] at i1 i2 ⊢
      rw [HS.out] at hA HLj HC
      rw [HQ.out] at HLk HC
      clear CS H0 HR HL
      go_wp2_with (first
        | (refine sget_step rfl 44 (.tmp 2) rfl w.heap.size 5 (s.map ncell) rfl hA Tryd.underlying44 rfl size_elem (by rw [List.length_map, HLj.out]) ?_))
      refine (HC.out w').mono ?_
      rintro e w4 ⟨rfl, hb4⟩
      have hB4 := below_then hB hb4
      have hA4 := hA.on hb4
      have hZ4 := hZ.on hb4
      clear HC hB hA hZ hb4
      go_wp2_with (first
        | (refine vset_step rfl 44 _ _ rfl w.heap.size 5 (s.map ncell) (q.map ncell) rfl rfl hA4 (by rw [List.length_map, HLj.out]) size_elem (by rw [List.length_map, HLk.out]) (ncells_one _) ?_
           intro w6 hb6 hC6 _
           have hB6 := hB4.trans (hb6.below (Nat.le_refl _) hB4.size)
           have hZ6 := hZ4.but hb6 (by omega)
           clear hB4 hA4 hZ4 hb6))
      go_step3
      exact ⟨rfl, ⟨k, _, _, _, _, _, _, _, by omega, hB6, by rw [HQ.out]; exact hC6, hZ6, rfl⟩, by simp [intOf]; omega⟩
    · obtain rfl : j = 0 := by omega
      rw [HR.out] at hA HLj
      go_wp2_with (first
        | (refine sget_step rfl 44 (.tmp 2) rfl w.heap.size 5 (r.map ncell) rfl hA Tryd.underlying44 rfl size_elem (by rw [List.length_map, HLj.out]) ?_)
        | (refine vset_step rfl 44 _ _ rfl gz 5 (nzeros 5) (r.map ncell) rfl rfl hZ rfl size_elem (by rw [List.length_map, HLj.out]) (ncells_one _) ?_
           intro w6 hb6 hC6 _))
      simp only [Exit.jump]
      refine sret Tryd.results70 gz (r.map ncell) rfl hC6 Tryd.underlying44 rfl size_elem (by rw [List.length_map, HLj.out]) rfl ⟨rfl, hB.trans (hb6.below (by omega) hB.size)⟩
/-- n squared so many times. -/
def sqN (n : Nat) : Nat → Nat
  | 0 => n
  | k + 1 => sqN n k * sqN n k % pp
theorem sqN_lt {n : Nat} (h : n < pp) : ∀ k, sqN n k < pp
  | 0 => h
  | k + 1 => Nat.mod_lt _ (by decide)
theorem sqN_pow {n : Nat} (h : n < pp) : ∀ k, sqN n k = n ^ 2 ^ k % pp
  | 0 => by rw [sqN, Nat.pow_zero, Nat.pow_one, Nat.mod_eq_of_lt h]
  | k + 1 => by rw [sqN, sqN_pow h k, ← Nat.mul_mod, Nat.pow_succ 2, Nat.pow_mul, Nat.pow_two]
theorem squared_any (n t : Nat) (w : World) (hn : n < pp) (ht : t < 1000) : Calls Tryd.prog 70 #[elV n, .int .i64 t] w (gvn (elV (n ^ 2 ^ t % pp)) w) := by
  rw [← sqN_pow hn t]
  refine squared_over (limb5 n) (limb5 (sqN n t)) t (fun j => limb5 (sqN n (t - j))) w ht (fun _ => rfl) ?_ ?_ ?_
  · show limb5 (sqN n (t - t)) = _
    rw [Nat.sub_self]; rfl
  · rfl
  · intro j h W
    have e : t - j = (t - (j + 1)) + 1 := by omega
    have h2 := eSquare_any (sqN n (t - (j + 1))) W (sqN_lt hn _)
    show Calls _ _ #[numVal (limb5 (sqN n (t - (j + 1))))] W fun e w' => e = .returned (numVal (limb5 (sqN n (t - j)))) ∧ _
    rw [e]
    exact h2
def thenVs (a b s r : List Nat) (t : Nat) (ga gb gz : Nat) : List Value :=
  (numVal a) :: (.int .i64 (t : Int)) :: (numVal b) :: ptr ga :: undef :: ptr gb :: ptr gz :: (numVal a) :: (.int .i64 (t : Int)) :: (numVal s) :: (numVal b) :: (numVal r) :: []
set_option maxRecDepth 100000 in
theorem then_over (a b s r : List Nat) (t : Nat) (w : World) (HA : Hid (a.length = 5)) (HB : Hid (b.length = 5)) (HR : Hid (r.length = 5))
    (CS : Hid (∀ W, Calls Tryd.prog 70 #[numVal a, .int .i64 t] W (gvn (numVal s) W))) (CT : Hid (∀ W, Calls Tryd.prog 43 #[numVal s, numVal b] W (gvn (numVal r) W))) :
    Calls Tryd.prog 88 #[numVal a, .int .i64 t, numVal b] w (gvn (numVal r) w) := by
  go_enter Tryd.func88, Tryd.ntmps88
  go_wp2_with (first
    | (refine vtake_step rfl 44 (.tmp 0) rfl (a.map ncell) rfl ?_
       intro w1 hB1 hAa
       try simp only [putS]
       skip)
    | (refine vtake_step rfl 44 (.tmp 2) rfl (b.map ncell) rfl ?_
       intro w2 hb hAb
       have hB2 := below_then hB1 hb
       have hga := hAa.lt
       replace hAa := hAa.on hb
       clear hB1 hb
       try simp only [putS]
       skip)
    | (refine vzero_step rfl 44 rfl (nzeros 5) zero_elem ?_
       intro w9 hb hZ
       have hB := below_then hB2 hb
       have hle := hB2.size
       have hla := hAa.lt
       have hlb := hAb.lt
       replace hAa := hAa.on hb
       replace hAb := hAb.on hb
       clear hB2 hb
       try simp only [putS]
       skip))
  generalize hgz : w2.heap.size = gz at *
  generalize hg1 : w1.heap.size = gb at *
  clear hgz hg1
  refine wp_region_any (by kernel_rfl) ?_
  refine wpAny_flatAt (L := [0, 1, 2, 3, 4]) (by kernel_rfl) _ _ (thenVs a b s r t w.heap.size gb gz) [0, 1, 2, 3, 4, 5, 6] (by kernel_rfl) ?_ (by rfl) ?_ 1 (by kernel_rfl) ?_
  · repeat refine all_cons rfl ?_
    exact all_nil
  · change ∀ i ∈ _, StepOk _ _ _ _ _ w9.drew _ i
    refine all_cons (sL 7 rfl fun w hb => elem_run (hAa.drew.on hb) HA.out) ?_
    refine all_cons (stepPure _ 8 rfl rfl rfl (by kernel_rfl) (by kernel_rfl) fun a w hb hv => exec_move _ _ _ (.inl rfl) _ (hv 1 (by kernel_rfl)) w) ?_
    refine all_cons (sC 9 rfl Tryd.func70 fun w hb => CS.out w) ?_
    refine all_cons (sL 10 rfl fun w hb => elem_run (hAb.drew.on hb) HB.out) ?_
    refine all_cons (sC 11 rfl Tryd.func43 fun w hb => CT.out w) ?_
    exact all_nil
  intro w4 hb4
  have hB4 := below_then (show Below w.heap.size w w9.drew from hB.drew) hb4
  have hZ4 := hZ.drew.on hb4
  refine wpAny_rest 5 rfl (by kernel_rfl) ?_
  refine vset_step rfl 44 (.tmp 6) (.tmp 11) rfl gz 5 (nzeros 5) (r.map ncell) rfl rfl hZ4 rfl size_elem (by rw [List.length_map, HR.out]) (ncells_one _) ?_
  intro w7 hb7 hC7 hz7
  generalize hF : (⟨(thenVs a b s r t w.heap.size gb gz).toArray, []⟩ : Act) = F
  rename_i K hKK
  show Exit.then K _ Exit.normal (F.put none undef) w7
  simp only [Exit.then]
  refine hKK _ _ ?_
  refine wp_ret ?_
  subst hF
  exact sret Tryd.results88 gz (r.map ncell) rfl hC7 Tryd.underlying44 rfl size_elem (by rw [List.length_map, HR.out]) rfl ⟨rfl, hB4.trans (hb7.below (by omega) hB4.size)⟩
theorem then_any (n m t : Nat) (w : World) (hn : n < pp) (hm : m < pp) (ht : t < 1000) : Calls Tryd.prog 88 #[elV n, .int .i64 t, elV m] w (gvn (elV (n ^ 2 ^ t % pp * m % pp)) w) :=
  then_over (limb5 n) (limb5 m) (limb5 (n ^ 2 ^ t % pp)) (limb5 (n ^ 2 ^ t % pp * m % pp)) t w rfl rfl rfl (fun W => squared_any n t W hn ht) (fun W => eTimes_any _ _ W (Nat.mod_lt _ (by decide)) hm)
/-- A power modulo p. -/
def pwN (n e : Nat) : Nat := n ^ e % pp
theorem pwN_lt (n e : Nat) : pwN n e < pp := Nat.mod_lt _ (by decide)
theorem pwN_one {n : Nat} (h : n < pp) : pwN n 1 = n := by rw [pwN, Nat.pow_one, Nat.mod_eq_of_lt h]
theorem pwN_sq (n a t : Nat) : pwN n a ^ 2 ^ t % pp = pwN n (a * 2 ^ t) := by rw [pwN, pwN, ← Nat.pow_mod, ← Nat.pow_mul]
theorem pwN_mul (n a b : Nat) : pwN n a * pwN n b % pp = pwN n (a + b) := by rw [pwN, pwN, pwN, ← Nat.mul_mod, ← Nat.pow_add]
theorem then_pow (n a b c t : Nat) (w : World) (ht : t < 1000) (hc : a * 2 ^ t + b = c) : Calls Tryd.prog 88 #[elV (pwN n a), .int .i64 t, elV (pwN n b)] w (gvn (elV (pwN n c)) w) := by
  have h := then_any (pwN n a) (pwN n b) t w (pwN_lt _ _) (pwN_lt _ _) ht
  rw [pwN_sq, pwN_mul, hc] at h
  exact h
def onesVs (a hundred fifty big r : List Nat) (ga gz g3 g4 g5 g6 g7 g8 g9 g10 : Nat) (u : Nat → List Nat) : List Value :=
  (numVal a) :: ptr ga :: ptr gz :: ptr g3 :: ptr g4 :: ptr g5 :: ptr g6 :: ptr g7 :: ptr g8 :: ptr g9 :: ptr g10 :: (numVal (u 11)) :: (numVal (u 12)) :: (numVal (u 13)) :: (numVal (u 14)) :: (numVal (u 15)) :: (numVal (u 16)) :: (numVal (u 17)) :: (numVal (u 18)) :: (numVal (u 19)) :: (numVal (u 20)) :: (numVal (u 21)) :: (numVal (u 22)) :: (numVal (u 23)) :: (numVal (u 24)) :: (numVal (u 25)) :: (numVal (u 26)) :: (numVal (u 27)) :: (numVal (u 28)) :: (numVal (u 29)) :: (numVal (u 30)) :: (numVal (u 31)) :: (numVal (u 32)) :: (numVal (u 33)) :: (numVal (u 34)) :: (numVal hundred) :: (numVal hundred) :: (numVal big) :: (numVal fifty) :: (numVal r) :: []
set_option maxRecDepth 100000 in
set_option maxHeartbeats 1000000 in
theorem ones250_over (a two four five ten twenty forty fifty hundred big r : List Nat) (w : World) (Ha : Hid (a.length = 5)) (Htwo : Hid (two.length = 5)) (Hfour : Hid (four.length = 5)) (Hfive : Hid (five.length = 5)) (Hten : Hid (ten.length = 5)) (Htwenty : Hid (twenty.length = 5)) (Hforty : Hid (forty.length = 5)) (Hfifty : Hid (fifty.length = 5)) (Hhundred : Hid (hundred.length = 5)) (Hr : Hid (r.length = 5))
    (C0 : Hid (∀ W, Calls Tryd.prog 88 #[numVal a, .int .i64 1, numVal a] W (gvn (numVal two) W)))
    (C1 : Hid (∀ W, Calls Tryd.prog 88 #[numVal two, .int .i64 2, numVal two] W (gvn (numVal four) W)))
    (C2 : Hid (∀ W, Calls Tryd.prog 88 #[numVal four, .int .i64 1, numVal a] W (gvn (numVal five) W)))
    (C3 : Hid (∀ W, Calls Tryd.prog 88 #[numVal five, .int .i64 5, numVal five] W (gvn (numVal ten) W)))
    (C4 : Hid (∀ W, Calls Tryd.prog 88 #[numVal ten, .int .i64 10, numVal ten] W (gvn (numVal twenty) W)))
    (C5 : Hid (∀ W, Calls Tryd.prog 88 #[numVal twenty, .int .i64 20, numVal twenty] W (gvn (numVal forty) W)))
    (C6 : Hid (∀ W, Calls Tryd.prog 88 #[numVal forty, .int .i64 10, numVal ten] W (gvn (numVal fifty) W)))
    (C7 : Hid (∀ W, Calls Tryd.prog 88 #[numVal fifty, .int .i64 50, numVal fifty] W (gvn (numVal hundred) W)))
    (C8 : Hid (∀ W, Calls Tryd.prog 88 #[numVal hundred, .int .i64 100, numVal hundred] W (gvn (numVal big) W)))
    (C9 : Hid (∀ W, Calls Tryd.prog 88 #[numVal big, .int .i64 50, numVal fifty] W (gvn (numVal r) W)))
    : Calls Tryd.prog 71 #[numVal a] w (gvn (numVal r) w) := by
  go_enter Tryd.func71, Tryd.ntmps71
  go_wp2_with (first
    | (refine vtake_step rfl 44 (.tmp 0) rfl (a.map ncell) rfl ?_
       intro w1 hB1 hva
       try simp only [putS]
       skip)
    | (refine vzero_step (o := ⟨some 2, _, _, _, _, _⟩) rfl 44 rfl (nzeros 5) zero_elem ?_
       intro w0 hb hZ
       have hB := below_then hB1 hb
       have hle := hB1.size
       replace hva := hva.on hb
       clear hB1 hb
       try simp only [putS]
       skip)
    | (refine sget_step rfl 44 (.tmp 1) rfl w.heap.size 5 (a.map ncell) rfl hva Tryd.underlying44 rfl size_elem (by rw [List.length_map, Ha.out]) ?_
       try simp only [putS]
       skip))
  generalize hgz : w1.heap.size = gz at *
  clear hgz
  refine (C0.out w0).mono ?_
  rintro e x1 ⟨rfl, hb⟩
  replace hB := below_then hB hb
  replace hZ := hZ.on hb
  replace hva := hva.on hb
  clear C0 hb
  go_wp2_with (first
    | (refine vput_step rfl rfl 44 (.tmp 3) _ rfl rfl 5 (nzeros 5) (two.map ncell) rfl rfl zero_elem rfl size_elem (by rw [List.length_map, Htwo.out]) (ncells_one _) ?_
       intro x2 hb hvtwo
       replace hB := below_then hB hb
       replace hZ := hZ.on hb
       replace hva := hva.on hb
       clear hb
       try simp only [putS]
       skip)
    | (refine sget_step rfl 44 (.tmp 3) rfl x1.heap.size 5 (two.map ncell) rfl hvtwo Tryd.underlying44 rfl size_elem (by rw [List.length_map, Htwo.out]) ?_
       try simp only [putS]
       skip))
  generalize hg : x1.heap.size = gtwo at *
  clear hg
  refine (C1.out x2).mono ?_
  rintro e x3 ⟨rfl, hb⟩
  replace hB := below_then hB hb
  replace hZ := hZ.on hb
  replace hva := hva.on hb
  clear C1 hb
  go_wp2_with (first
    | (refine vput_step rfl rfl 44 (.tmp 4) _ rfl rfl 5 (nzeros 5) (four.map ncell) rfl rfl zero_elem rfl size_elem (by rw [List.length_map, Hfour.out]) (ncells_one _) ?_
       intro x4 hb hvfour
       replace hB := below_then hB hb
       replace hZ := hZ.on hb
       replace hva := hva.on hb
       clear hb
       try simp only [putS]
       skip)
    | (refine sget_step rfl 44 (.tmp 4) rfl x3.heap.size 5 (four.map ncell) rfl hvfour Tryd.underlying44 rfl size_elem (by rw [List.length_map, Hfour.out]) ?_
       try simp only [putS]
       skip)
    | (refine sget_step rfl 44 (.tmp 1) rfl w.heap.size 5 (a.map ncell) rfl hva Tryd.underlying44 rfl size_elem (by rw [List.length_map, Ha.out]) ?_
       try simp only [putS]
       skip))
  generalize hg : x3.heap.size = gfour at *
  clear hg
  refine (C2.out x4).mono ?_
  rintro e x5 ⟨rfl, hb⟩
  replace hB := below_then hB hb
  replace hZ := hZ.on hb
  clear C2 hb
  go_wp2_with (first
    | (refine vput_step rfl rfl 44 (.tmp 5) _ rfl rfl 5 (nzeros 5) (five.map ncell) rfl rfl zero_elem rfl size_elem (by rw [List.length_map, Hfive.out]) (ncells_one _) ?_
       intro x6 hb hvfive
       replace hB := below_then hB hb
       replace hZ := hZ.on hb
       clear hb
       try simp only [putS]
       skip)
    | (refine sget_step rfl 44 (.tmp 5) rfl x5.heap.size 5 (five.map ncell) rfl hvfive Tryd.underlying44 rfl size_elem (by rw [List.length_map, Hfive.out]) ?_
       try simp only [putS]
       skip))
  generalize hg : x5.heap.size = gfive at *
  clear hg
  refine (C3.out x6).mono ?_
  rintro e x7 ⟨rfl, hb⟩
  replace hB := below_then hB hb
  replace hZ := hZ.on hb
  clear C3 hb
  go_wp2_with (first
    | (refine vput_step rfl rfl 44 (.tmp 6) _ rfl rfl 5 (nzeros 5) (ten.map ncell) rfl rfl zero_elem rfl size_elem (by rw [List.length_map, Hten.out]) (ncells_one _) ?_
       intro x8 hb hvten
       replace hB := below_then hB hb
       replace hZ := hZ.on hb
       clear hb
       try simp only [putS]
       skip)
    | (refine sget_step rfl 44 (.tmp 6) rfl x7.heap.size 5 (ten.map ncell) rfl hvten Tryd.underlying44 rfl size_elem (by rw [List.length_map, Hten.out]) ?_
       try simp only [putS]
       skip))
  generalize hg : x7.heap.size = gten at *
  clear hg
  refine (C4.out x8).mono ?_
  rintro e x9 ⟨rfl, hb⟩
  replace hB := below_then hB hb
  replace hZ := hZ.on hb
  replace hvten := hvten.on hb
  clear C4 hb
  go_wp2_with (first
    | (refine vput_step rfl rfl 44 (.tmp 7) _ rfl rfl 5 (nzeros 5) (twenty.map ncell) rfl rfl zero_elem rfl size_elem (by rw [List.length_map, Htwenty.out]) (ncells_one _) ?_
       intro x10 hb hvtwenty
       replace hB := below_then hB hb
       replace hZ := hZ.on hb
       replace hvten := hvten.on hb
       clear hb
       try simp only [putS]
       skip)
    | (refine sget_step rfl 44 (.tmp 7) rfl x9.heap.size 5 (twenty.map ncell) rfl hvtwenty Tryd.underlying44 rfl size_elem (by rw [List.length_map, Htwenty.out]) ?_
       try simp only [putS]
       skip))
  generalize hg : x9.heap.size = gtwenty at *
  clear hg
  refine (C5.out x10).mono ?_
  rintro e x11 ⟨rfl, hb⟩
  replace hB := below_then hB hb
  replace hZ := hZ.on hb
  replace hvten := hvten.on hb
  clear C5 hb
  go_wp2_with (first
    | (refine vput_step rfl rfl 44 (.tmp 8) _ rfl rfl 5 (nzeros 5) (forty.map ncell) rfl rfl zero_elem rfl size_elem (by rw [List.length_map, Hforty.out]) (ncells_one _) ?_
       intro x12 hb hvforty
       replace hB := below_then hB hb
       replace hZ := hZ.on hb
       replace hvten := hvten.on hb
       clear hb
       try simp only [putS]
       skip)
    | (refine sget_step rfl 44 (.tmp 8) rfl x11.heap.size 5 (forty.map ncell) rfl hvforty Tryd.underlying44 rfl size_elem (by rw [List.length_map, Hforty.out]) ?_
       try simp only [putS]
       skip)
    | (refine sget_step rfl 44 (.tmp 6) rfl gten 5 (ten.map ncell) rfl hvten Tryd.underlying44 rfl size_elem (by rw [List.length_map, Hten.out]) ?_
       try simp only [putS]
       skip))
  generalize hg : x11.heap.size = gforty at *
  clear hg
  refine (C6.out x12).mono ?_
  rintro e x13 ⟨rfl, hb⟩
  replace hB := below_then hB hb
  replace hZ := hZ.on hb
  clear C6 hb
  go_wp2_with (first
    | (refine vput_step rfl rfl 44 (.tmp 9) _ rfl rfl 5 (nzeros 5) (fifty.map ncell) rfl rfl zero_elem rfl size_elem (by rw [List.length_map, Hfifty.out]) (ncells_one _) ?_
       intro x14 hb hvfifty
       replace hB := below_then hB hb
       replace hZ := hZ.on hb
       clear hb
       try simp only [putS]
       skip)
    | (refine sget_step rfl 44 (.tmp 9) rfl x13.heap.size 5 (fifty.map ncell) rfl hvfifty Tryd.underlying44 rfl size_elem (by rw [List.length_map, Hfifty.out]) ?_
       try simp only [putS]
       skip))
  generalize hg : x13.heap.size = gfifty at *
  clear hg
  refine (C7.out x14).mono ?_
  rintro e x15 ⟨rfl, hb⟩
  replace hB := below_then hB hb
  replace hZ := hZ.on hb
  replace hvfifty := hvfifty.on hb
  clear C7 hb
  go_wp2_with (first
    | (refine vput_step rfl rfl 44 (.tmp 10) _ rfl rfl 5 (nzeros 5) (hundred.map ncell) rfl rfl zero_elem rfl size_elem (by rw [List.length_map, Hhundred.out]) (ncells_one _) ?_
       intro x16 hb hvhundred
       replace hB := below_then hB hb
       replace hZ := hZ.on hb
       replace hvfifty := hvfifty.on hb
       clear hb
       try simp only [putS]
       skip))
  generalize hg : x15.heap.size = ghundred at *
  clear hg
  obtain ⟨u, hu⟩ : ∃ u : Nat → List Nat, u 11 = a ∧ u 12 = a ∧ u 13 = two ∧ u 14 = two ∧ u 15 = two ∧ u 16 = four ∧ u 17 = four ∧ u 18 = a ∧ u 19 = five ∧ u 20 = five ∧ u 21 = five ∧ u 22 = ten ∧ u 23 = ten ∧ u 24 = ten ∧ u 25 = twenty ∧ u 26 = twenty ∧ u 27 = twenty ∧ u 28 = forty ∧ u 29 = forty ∧ u 30 = ten ∧ u 31 = fifty ∧ u 32 = fifty ∧ u 33 = fifty ∧ u 34 = hundred := ⟨fun k => match k with | 11 => a | 12 => a | 13 => two | 14 => two | 15 => two | 16 => four | 17 => four | 18 => a | 19 => five | 20 => five | 21 => five | 22 => ten | 23 => ten | 24 => ten | 25 => twenty | 26 => twenty | 27 => twenty | 28 => forty | 29 => forty | 30 => ten | 31 => fifty | 32 => fifty | 33 => fifty | 34 => hundred | _ => [], rfl, rfl, rfl, rfl, rfl, rfl, rfl, rfl, rfl, rfl, rfl, rfl, rfl, rfl, rfl, rfl, rfl, rfl, rfl, rfl, rfl, rfl, rfl, rfl⟩
  obtain ⟨u11, u12, u13, u14, u15, u16, u17, u18, u19, u20, u21, u22, u23, u24, u25, u26, u27, u28, u29, u30, u31, u32, u33, u34⟩ := hu
  refine wp_region_any (by kernel_rfl) ?_
  refine wpAny_flatAt (L := [0, 1, 2, 3, 4]) (by kernel_rfl) _ _ (onesVs a hundred fifty big r w.heap.size gz gtwo gfour gfive gten gtwenty gforty gfifty ghundred u) [0, 1, 2, 3, 4, 5, 6, 7, 8, 9, 10, 11, 12, 13, 14, 15, 16, 17, 18, 19, 20, 21, 22, 23, 24, 25, 26, 27, 28, 29, 30, 31, 32, 33, 34] (by kernel_rfl) ?_ (by rfl) ?_ 1 (by kernel_rfl) ?_
  · exact all_cons (rfl) (all_cons (rfl) (all_cons (rfl) (all_cons (rfl) (all_cons (rfl) (all_cons (rfl) (all_cons (rfl) (all_cons (rfl) (all_cons (rfl) (all_cons (rfl) (all_cons (rfl) (all_cons (congrArg numVal u11.symm) (all_cons (congrArg numVal u12.symm) (all_cons (congrArg numVal u13.symm) (all_cons (congrArg numVal u14.symm) (all_cons (congrArg numVal u15.symm) (all_cons (congrArg numVal u16.symm) (all_cons (congrArg numVal u17.symm) (all_cons (congrArg numVal u18.symm) (all_cons (congrArg numVal u19.symm) (all_cons (congrArg numVal u20.symm) (all_cons (congrArg numVal u21.symm) (all_cons (congrArg numVal u22.symm) (all_cons (congrArg numVal u23.symm) (all_cons (congrArg numVal u24.symm) (all_cons (congrArg numVal u25.symm) (all_cons (congrArg numVal u26.symm) (all_cons (congrArg numVal u27.symm) (all_cons (congrArg numVal u28.symm) (all_cons (congrArg numVal u29.symm) (all_cons (congrArg numVal u30.symm) (all_cons (congrArg numVal u31.symm) (all_cons (congrArg numVal u32.symm) (all_cons (congrArg numVal u33.symm) (all_cons (congrArg numVal u34.symm) (all_nil)))))))))))))))))))))))))))))))))))
  · change ∀ i ∈ _, StepOk _ _ _ _ _ x16.drew _ i
    refine all_cons (sL 35 rfl fun w hb => elem_run (hvhundred.drew.on hb) Hhundred.out) ?_
    refine all_cons (sL 36 rfl fun w hb => elem_run (hvhundred.drew.on hb) Hhundred.out) ?_
    refine all_cons (sC 37 rfl Tryd.func88 fun w hb => C8.out w) ?_
    refine all_cons (sL 38 rfl fun w hb => elem_run (hvfifty.drew.on hb) Hfifty.out) ?_
    refine all_cons (sC 39 rfl Tryd.func88 fun w hb => C9.out w) ?_
    exact all_nil
  intro w4 hb4
  have hB4 := below_then (show Below w.heap.size w x16.drew from hB.drew) hb4
  have hZ4 := hZ.drew.on hb4
  refine wpAny_rest 5 rfl (by kernel_rfl) ?_
  refine vset_step rfl 44 (.tmp 2) (.tmp 39) rfl gz 5 (nzeros 5) (r.map ncell) rfl rfl hZ4 rfl size_elem (by rw [List.length_map, Hr.out]) (ncells_one _) ?_
  intro w7 hb7 hC7 hz7
  generalize hF : (⟨(onesVs a hundred fifty big r w.heap.size gz gtwo gfour gfive gten gtwenty gforty gfifty ghundred u).toArray, []⟩ : Act) = F
  rename_i K hKK
  show Exit.then K _ Exit.normal (F.put none undef) w7
  simp only [Exit.then]
  refine hKK _ _ ?_
  refine wp_ret ?_
  subst hF
  exact sret Tryd.results71 gz (r.map ncell) rfl hC7 Tryd.underlying44 rfl size_elem (by rw [List.length_map, Hr.out]) rfl ⟨rfl, hB4.trans (hb7.below (by omega) hB4.size)⟩
theorem ones250_any (n : Nat) (w : World) (hn : n < pp) : Calls Tryd.prog 71 #[elV n] w (gvn (elV (pwN n 1809251394333065553493296640760748560207343510400633813116524750123642650623)) w) := by
  have h := ones250_over (limb5 (pwN n 1)) (limb5 (pwN n 3)) (limb5 (pwN n 15)) (limb5 (pwN n 31)) (limb5 (pwN n 1023)) (limb5 (pwN n 1048575)) (limb5 (pwN n 1099511627775)) (limb5 (pwN n 1125899906842623)) (limb5 (pwN n 1267650600228229401496703205375)) (limb5 (pwN n 1606938044258990275541962092341162602522202993782792835301375)) (limb5 (pwN n 1809251394333065553493296640760748560207343510400633813116524750123642650623)) w rfl rfl rfl rfl rfl rfl rfl rfl rfl rfl
    (fun W => then_pow n 1 1 3 1 W (by decide) (by decide)) (fun W => then_pow n 3 3 15 2 W (by decide) (by decide)) (fun W => then_pow n 15 1 31 1 W (by decide) (by decide)) (fun W => then_pow n 31 31 1023 5 W (by decide) (by decide)) (fun W => then_pow n 1023 1023 1048575 10 W (by decide) (by decide)) (fun W => then_pow n 1048575 1048575 1099511627775 20 W (by decide) (by decide)) (fun W => then_pow n 1099511627775 1023 1125899906842623 10 W (by decide) (by decide)) (fun W => then_pow n 1125899906842623 1125899906842623 1267650600228229401496703205375 50 W (by decide) (by decide)) (fun W => then_pow n 1267650600228229401496703205375 1267650600228229401496703205375 1606938044258990275541962092341162602522202993782792835301375 100 W (by decide) (by decide)) (fun W => then_pow n 1606938044258990275541962092341162602522202993782792835301375 1125899906842623 1809251394333065553493296640760748560207343510400633813116524750123642650623 50 W (by decide) (by decide))
  rw [pwN_one hn] at h
  exact h
def invVs1 (a e2 e8 e10 e11 : List Nat) (ga gz : Nat) : List Value :=
  (numVal a) :: ptr ga :: ptr gz :: (undef) :: (numVal a) :: (numVal e8) :: (numVal a) :: (numVal e2) :: (numVal e10) :: (numVal a) :: (numVal e11) :: ud 5 []
def invVs2 (a e2 e8 e10 e11 o s r : List Nat) (ga gz gn : Nat) : List Value :=
  (numVal a) :: ptr ga :: ptr gz :: ptr gn :: (numVal a) :: (numVal e8) :: (numVal a) :: (numVal e2) :: (numVal e10) :: (numVal a) :: (numVal e11) :: (numVal a) :: (numVal o) :: (numVal s) :: (numVal e11) :: (numVal r) :: []
set_option maxRecDepth 100000 in
theorem invert_over (a e2 e8 e10 e11 o s r : List Nat) (w : World) (HA : Hid (a.length = 5)) (H11 : Hid (e11.length = 5)) (HR : Hid (r.length = 5))
    (C8 : Hid (∀ W, Calls Tryd.prog 70 #[numVal a, .int .i64 3] W (gvn (numVal e8) W))) (C2 : Hid (∀ W, Calls Tryd.prog 60 #[numVal a] W (gvn (numVal e2) W))) (C10 : Hid (∀ W, Calls Tryd.prog 43 #[numVal e8, numVal e2] W (gvn (numVal e10) W))) (C11 : Hid (∀ W, Calls Tryd.prog 43 #[numVal e10, numVal a] W (gvn (numVal e11) W))) (CO : Hid (∀ W, Calls Tryd.prog 71 #[numVal a] W (gvn (numVal o) W))) (CS : Hid (∀ W, Calls Tryd.prog 70 #[numVal o, .int .i64 5] W (gvn (numVal s) W))) (CR : Hid (∀ W, Calls Tryd.prog 43 #[numVal s, numVal e11] W (gvn (numVal r) W))) :
    Calls Tryd.prog 42 #[numVal a] w (gvn (numVal r) w) := by
  go_enter Tryd.func42, Tryd.ntmps42
  go_wp2_with (first
    | (refine vtake_step rfl 44 (.tmp 0) rfl (a.map ncell) rfl ?_
       intro w1 hB1 hAa
       try simp only [putS]
       skip)
    | (refine vzero_step rfl 44 rfl (nzeros 5) zero_elem ?_
       intro w9 hb hZ
       have hB := below_then hB1 hb
       have hle := hB1.size
       have hla := hAa.lt
       replace hAa := hAa.on hb
       clear hB1 hb
       try simp only [putS]
       skip))
  generalize hgz : w1.heap.size = gz at *
  clear hgz
  refine wp_region_any (by kernel_rfl) ?_
  refine wpAny_flatNew (L := [0, 1, 2, 3, 4, 5, 6, 7]) (by kernel_rfl) _ _ (invVs1 a e2 e8 e10 e11 w.heap.size gz) [0, 1, 2, 11, 12, 13, 14, 15] (by kernel_rfl) 7 3 44 (nzeros 5) _ rfl rfl rfl rfl zero_elem (by kernel_rfl) (by kernel_rfl) (by kernel_rfl) (by kernel_rfl) ?_ (by rfl) ?_ 1 (by kernel_rfl) ?_
  · repeat refine all_cons rfl ?_
    exact all_nil
  · change ∀ i ∈ _, _ ∨ StepOk _ _ _ _ _ w9.drew _ i
    refine all_cons (.inr (sL 4 rfl fun w hb => elem_run (hAa.drew.on hb) HA.out)) ?_
    refine all_cons (.inr (sC 5 rfl Tryd.func70 fun w hb => C8.out w)) ?_
    refine all_cons (.inr (sL 6 rfl fun w hb => elem_run (hAa.drew.on hb) HA.out)) ?_
    refine all_cons (.inr (sC 7 rfl Tryd.func60 fun w hb => C2.out w)) ?_
    refine all_cons (.inr (sC 8 rfl Tryd.func43 fun w hb => C10.out w)) ?_
    refine all_cons (.inr (sL 9 rfl fun w hb => elem_run (hAa.drew.on hb) HA.out)) ?_
    refine all_cons (.inr (sC 10 rfl Tryd.func43 fun w hb => C11.out w)) ?_
    refine all_cons (.inl rfl) ?_
    exact all_nil
  intro w4 gn hb4 hgn hN4
  have hB4 := below_then (show Below w.heap.size w w9.drew from hB.drew) hb4
  have hZ4 := hZ.drew.on hb4
  have hA4 := hAa.drew.on hb4
  have hzl := hZ.lt
  replace hgn : w9.heap.size ≤ gn := hgn
  refine wpAny_rest 8 rfl (by kernel_rfl) ?_
  refine vset_step rfl 44 (.tmp 3) (.tmp 10) rfl gn 5 (nzeros 5) (e11.map ncell) rfl rfl hN4 rfl size_elem (by rw [List.length_map, H11.out]) (ncells_one _) ?_
  intro w5 hb5 hE4 hz5
  have hB5 := hB4.trans (hb5.below (by omega) hB4.size)
  have hZ5 := hZ4.but hb5 (by omega)
  replace hA4 := hA4.but hb5 (by omega)
  generalize hF : (⟨((invVs1 a e2 e8 e10 e11 w.heap.size gz).set 3 (.pointer (some ⟨gn, 0, none⟩))).toArray, []⟩ : Act) = F
  rename_i K hKK
  show Exit.then K _ Exit.normal (F.put none undef) w5
  simp only [Exit.then]
  refine hKK _ _ ?_
  refine wp_seq_k fun K2 hK2 => ?_
  subst hF
  change Code.wp _ _ _ (⟨((invVs1 a e2 e8 e10 e11 w.heap.size gz).set 3 (.pointer (some ⟨gn, 0, none⟩))).toArray, []⟩ : Act) w5
  clear hb4 hb5 hB4 hZ4 hN4 hB hZ hAa
  refine wp_region_any (by kernel_rfl) ?_
  refine wpAny_flatAt (L := [0, 1, 2, 3, 4]) (by kernel_rfl) _ _ (invVs2 a e2 e8 e10 e11 o s r w.heap.size gz gn) [0, 1, 2, 3, 4, 5, 6, 7, 8, 9, 10] (by kernel_rfl) ?_ (by rfl) ?_ 1 (by kernel_rfl) ?_
  · repeat refine all_cons rfl ?_
    exact all_nil
  · change ∀ i ∈ _, StepOk _ _ _ _ _ w5.drew _ i
    refine all_cons (sL 11 rfl fun w hb => elem_run (hA4.drew.on hb) HA.out) ?_
    refine all_cons (sC 12 rfl Tryd.func71 fun w hb => CO.out w) ?_
    refine all_cons (sC 13 rfl Tryd.func70 fun w hb => CS.out w) ?_
    refine all_cons (sL 14 rfl fun w hb => elem_run (hE4.drew.on hb) H11.out) ?_
    refine all_cons (sC 15 rfl Tryd.func43 fun w hb => CR.out w) ?_
    exact all_nil
  intro w4 hb4
  have hB4 := below_then (show Below w.heap.size w w5.drew from hB5.drew) hb4
  have hZ4 := hZ5.drew.on hb4
  refine wpAny_rest 5 rfl (by kernel_rfl) ?_
  refine vset_step rfl 44 (.tmp 2) (.tmp 15) rfl gz 5 (nzeros 5) (r.map ncell) rfl rfl hZ4 rfl size_elem (by rw [List.length_map, HR.out]) (ncells_one _) ?_
  intro w7 hb7 hC7 hz7
  generalize hF : (⟨(invVs2 a e2 e8 e10 e11 o s r w.heap.size gz gn).toArray, []⟩ : Act) = F
  show Exit.then K2 _ Exit.normal (F.put none undef) w7
  simp only [Exit.then]
  refine hK2 _ _ ?_
  refine wp_ret ?_
  subst hF
  exact sret Tryd.results42 gz (r.map ncell) rfl hC7 Tryd.underlying44 rfl size_elem (by rw [List.length_map, HR.out]) rfl ⟨rfl, hB4.trans (hb7.below (by omega) hB4.size)⟩
theorem sq_pow (n a t c : Nat) (w : World) (ht : t < 1000) (hc : a * 2 ^ t = c) : Calls Tryd.prog 70 #[elV (pwN n a), .int .i64 t] w (gvn (elV (pwN n c)) w) := by
  have h := squared_any (pwN n a) t w (pwN_lt _ _) ht
  rw [pwN_sq, hc] at h
  exact h
theorem times_pow (n a b c : Nat) (w : World) (hc : a + b = c) : Calls Tryd.prog 43 #[elV (pwN n a), elV (pwN n b)] w (gvn (elV (pwN n c)) w) := by
  have h := eTimes_any (pwN n a) (pwN n b) w (pwN_lt _ _) (pwN_lt _ _)
  rw [pwN_mul, hc] at h
  exact h
theorem square_pow (n a c : Nat) (w : World) (hc : a + a = c) : Calls Tryd.prog 60 #[elV (pwN n a)] w (gvn (elV (pwN n c)) w) := by
  have h := eSquare_any (pwN n a) w (pwN_lt _ _)
  rw [pwN_mul, hc] at h
  exact h
theorem ones250_pow (n : Nat) (w : World) (hn : n < pp) : Calls Tryd.prog 71 #[elV (pwN n 1)] w (gvn (elV (pwN n 1809251394333065553493296640760748560207343510400633813116524750123642650623)) w) := by
  rw [pwN_one hn]; exact ones250_any n w hn
theorem invert_any (n : Nat) (w : World) (hn : n < pp) : Calls Tryd.prog 42 #[elV n] w (gvn (elV (pwN n 57896044618658097711785492504343953926634992332820282019728792003956564819947)) w) := by
  have h := invert_over (limb5 (pwN n 1)) (limb5 (pwN n 2)) (limb5 (pwN n 8)) (limb5 (pwN n 10)) (limb5 (pwN n 11)) (limb5 (pwN n 1809251394333065553493296640760748560207343510400633813116524750123642650623)) (limb5 (pwN n 57896044618658097711785492504343953926634992332820282019728792003956564819936)) (limb5 (pwN n 57896044618658097711785492504343953926634992332820282019728792003956564819947)) w rfl rfl rfl
    (fun W => sq_pow n 1 3 8 W (by decide) (by decide)) (fun W => square_pow n 1 2 W (by decide)) (fun W => times_pow n 8 2 10 W (by decide)) (fun W => times_pow n 10 1 11 W (by decide)) (fun W => ones250_pow n W hn) (fun W => sq_pow n 1809251394333065553493296640760748560207343510400633813116524750123642650623 5 57896044618658097711785492504343953926634992332820282019728792003956564819936 W (by decide) (by decide)) (fun W => times_pow n 57896044618658097711785492504343953926634992332820282019728792003956564819936 11 57896044618658097711785492504343953926634992332820282019728792003956564819947 W (by decide))
  rw [pwN_one hn] at h
  exact h
theorem all_range_nat : ∀ (xs ys : List Nat), xs.length = ys.length → ((List.range xs.length).all fun i => xs.getD i 0 == ys.getD i 0) = (xs == ys)
  | [], [], _ => rfl
  | x :: xs, y :: ys, h => by
    have ih := all_range_nat xs ys (by simpa using h)
    rw [List.length_cons, List.range_succ_eq_map, List.all_cons, List.all_map]
    simp only [List.getD_cons_zero, Function.comp_def, List.getD_cons_succ, ih]
    simp [List.cons_beq_cons]
  | [], _ :: _, h => by simp at h
  | _ :: _, [], h => by simp at h
/-- An integer as a cell holds it. -/
abbrev kcell (k : IntKind) (v : Nat) : Value := .int k (v : Int)
/-- Two arrays of integers of one kind. -/
theorem run_equalIn_nats {P : Program} (w : World) (k : IntKind) (d : Nat) (t e : TypeId) (n : Nat) (ht : P.underlying t = some (.array n e)) (he : P.underlying e = some (.int k)) (hsz : ∀ w, (sizeOf e).run P w = .ok 1 w)
    (xs ys : List Nat) (hx : xs.length = n) (hy : ys.length = n) :
    (Op.equalIn (d + 2) t (.agg (xs.map (kcell k)).toArray) (.agg (ys.map (kcell k)).toArray)).run P w = .ok (xs == ys) w := by
  rw [← all_range_nat xs ys (hx.trans hy.symm), hx, List.range_eq_range', Op.equalIn]
  simp only [Sem.run_bind, run_underlying ht, Result.andThen_ok, hsz, Std.Legacy.Range.forIn_eq_forIn_range', Std.Legacy.Range.size, Nat.sub_zero, Nat.add_sub_cancel, Nat.div_one]
  have hl : ∀ i ∈ List.range' 0 n 1, i < n := fun i hi => by simpa using (List.mem_range'_1.1 hi).2
  generalize List.range' 0 n 1 = l at hl ⊢
  induction l with
  | nil => simp
  | cons i l ih =>
    have hi : i < n := hl i (by simp)
    have px : (part e (xs.map (kcell k)).toArray (i * 1)).run P w = .ok (Value.int k ((xs.getD i 0 : Nat) : Int)) w := by
      simp [part, isAgg, run_underlying he, List.getD, List.getElem?_eq_getElem (show i < xs.length by omega)]
    have py : (part e (ys.map (kcell k)).toArray (i * 1)).run P w = .ok (Value.int k ((ys.getD i 0 : Nat) : Int)) w := by
      simp [part, isAgg, run_underlying he, List.getD, List.getElem?_eq_getElem (show i < ys.length by omega)]
    have pe : (Op.equalIn (d + 1) e (Value.int k ((xs.getD i 0 : Nat) : Int)) (Value.int k ((ys.getD i 0 : Nat) : Int))).run P w = .ok (xs.getD i 0 == ys.getD i 0) w := by
      rw [run_equalIn_int w d e k k _ _ he]
      congr 1
      rw [Bool.eq_iff_iff]
      simp
      omega
    simp only [List.forIn_cons, Sem.run_bind, px, py, pe, Result.andThen_ok, List.all_cons]
    cases hb : (xs.getD i 0 == ys.getD i 0)
    · simp
    · simp only [Bool.not_true, Bool.false_eq_true, if_false, Sem.run_pure, Result.andThen_ok, Bool.true_and]
      exact ih fun j hj => hl j (by simp [hj])
theorem sizeOf_u64 (w : World) : (sizeOf 40).run Tryd.prog w = .ok 1 w := by
  obtain ⟨i0, hi0, hs0⟩ := Option.map_eq_some_iff.1 size_u64
  simp [sizeOf, typeInfo, hi0, hs0]
theorem elem_equal (xs ys : List Nat) (hx : xs.length = 5) (hy : ys.length = 5) (w : World) : (Op.equalIn 10000 44 (.agg (xs.map ncell).toArray) (.agg (ys.map ncell).toArray)).run Tryd.prog w = .ok (xs == ys) w := by
  have h : (Op.equalIn 9999 42 (.agg (xs.map ncell).toArray) (.agg (ys.map ncell).toArray)).run Tryd.prog w = .ok (xs == ys) w := run_equalIn_nats (P := Tryd.prog) w .u64 9997 42 40 5 Tryd.underlying42 Tryd.underlying40 sizeOf_u64 xs ys hx hy
  have px : ∀ zs : List Nat, zs.length = 5 → (part 42 (zs.map ncell).toArray 0).run Tryd.prog w = .ok (.agg (zs.map ncell).toArray) w := by
    intro zs hz
    obtain ⟨a, b, c, d, e, rfl⟩ := five_of zs hz
    kernel_rfl
  rw [run_equalIn_struct w 9999 44 _ _ (by kernel_rfl) (by kernel_rfl)]
  have hf : (Tryd.prog.fieldsOf 44).toList.map (fun f => (f.name, f.type, f.offset)) = [("n", 42, 0)] := by kernel_rfl
  generalize (Tryd.prog.fieldsOf 44).toList = fs at *
  rcases fs with _ | ⟨f, _ | ⟨g, fs⟩⟩
  · cases hf
  · simp only [List.map_cons, List.map_nil, List.cons.injEq, Prod.mk.injEq, and_true] at hf
    obtain ⟨h1, h2, h3⟩ := hf
    simp [Op.eqFields, h1, h2, h3, px xs hx, px ys hy, h]
    by_cases e : xs = ys <;> simp [e]
  · simp at hf
theorem limb5_inj {n m : Nat} (hn : n < pp) (hm : m < pp) : (limb5 n == limb5 m) = decide (n = m) := by
  rw [Bool.eq_iff_iff, beq_iff_eq, decide_eq_true_eq]
  refine ⟨fun h => ?_, fun h => by rw [h]⟩
  rw [← val5_lx n hn, ← val5_lx m hm]
  simp only [lx, h]
set_option maxRecDepth 100000 in
theorem same_over (a b : List Nat) (r : Bool) (w : World) (HA : Hid (a.length = 5)) (HB : Hid (b.length = 5)) (HR : ∀ w, (Op.equalIn 10000 44 (.agg (a.map ncell).toArray) (.agg (b.map ncell).toArray)).run Tryd.prog w = .ok r w) :
    Calls Tryd.prog 83 #[numVal a, numVal b] w (gvn (.bool r) w) := by
  have HQ : ∀ w, (binOp .eql 44 (.agg (a.map ncell).toArray) (.agg (b.map ncell).toArray)).run Tryd.prog w = .ok (.bool r) w := fun w => by rw [run_eql_struct, HR]; rfl
  have HG : ∀ w, (eqGuard .eql 44 (.tmp 5) (.tmp 6) (.agg (a.map ncell).toArray) (.agg (b.map ncell).toArray)).run Tryd.prog w = .ok () w := fun w => run_eqGuard_agg w .eql 44 _ _ _ _ (by kernel_rfl)
  clear HR
  go_enter Tryd.func83, Tryd.ntmps83
  go_wp2_with (first
    | (refine vtake_step rfl 44 (.tmp 0) rfl (a.map ncell) rfl ?_
       intro w1 hB1 hA1
       try simp only [putS]
       skip)
    | (refine vtake_step rfl 44 (.tmp 1) rfl (b.map ncell) rfl ?_
       intro w2 hb2 hC2
       have hB2 := below_then hB1 hb2
       have hA2 := hA1.on hb2
       clear hB1 hA1 hb2
       try simp only [putS]
       skip)
    | (refine sget_step rfl 44 (.tmp 2) rfl w.heap.size 5 (a.map ncell) rfl hA2 Tryd.underlying44 rfl size_elem (by rw [List.length_map, HA.out]) ?_
       clear hA2
       try simp only [putS]
       skip)
    | (refine sget_step rfl 44 (.tmp 3) rfl w1.heap.size 5 (b.map ncell) rfl hC2 Tryd.underlying44 rfl size_elem (by rw [List.length_map, HB.out]) ?_
       clear hC2
       try simp only [putS]
       skip))
  go_ret
  exact ⟨rfl, hB2⟩
theorem same_any (n m : Nat) (w : World) (hn : n < pp) (hm : m < pp) : Calls Tryd.prog 83 #[elV n, elV m] w (gvn (.bool (decide (n = m))) w) := by
  rw [← limb5_inj hn hm]
  exact same_over (limb5 n) (limb5 m) _ w rfl rfl (fun w => elem_equal _ _ rfl rfl w)
set_option maxRecDepth 100000 in
theorem zero_over (a : List Nat) (r : Bool) (w : World) (HA : Hid (a.length = 5)) (HR : ∀ w, (Op.equalIn 10000 44 (.agg (a.map ncell).toArray) (.agg ([0, 0, 0, 0, 0].map ncell).toArray)).run Tryd.prog w = .ok r w) :
    Calls Tryd.prog 37 #[numVal a] w (gvn (.bool r) w) := by
  obtain ⟨z, HZ⟩ := namedF ([0, 0, 0, 0, 0] : List Nat)
  have HN : ∀ w, (Instr.build 44 #[]).run Tryd.prog w = .ok (.agg (z.map ncell).toArray) w := by rw [← HZ.out]; exact build_none
  rw [HZ.out] at HR
  clear HZ
  have HQ : ∀ w, (binOp .eql 44 (.agg (a.map ncell).toArray) (.agg (z.map ncell).toArray)).run Tryd.prog w = .ok (.bool r) w := fun w => by rw [run_eql_struct, HR]; rfl
  have HG : ∀ w, (eqGuard .eql 44 (.tmp 3) (.tmp 4) (.agg (a.map ncell).toArray) (.agg (z.map ncell).toArray)).run Tryd.prog w = .ok () w := fun w => run_eqGuard_agg w .eql 44 _ _ _ _ (by kernel_rfl)
  clear HR
  go_enter Tryd.func37, Tryd.ntmps37
  go_wp2_with (first
    | (refine vtake_step rfl 44 (.tmp 0) rfl (a.map ncell) rfl ?_
       intro w1 hB1 hA1
       try simp only [putS]
       skip)
    | (refine sget_step rfl 44 (.tmp 1) rfl w.heap.size 5 (a.map ncell) rfl hA1 Tryd.underlying44 rfl size_elem (by rw [List.length_map, HA.out]) ?_
       clear hA1
       try simp only [putS]
       skip)
    | (refine build_step rfl 44 [] rfl [] rfl _ HN ?_
       try simp only [putS]
       skip))
  go_ret
  exact ⟨rfl, hB1⟩
theorem zeroE_any (n : Nat) (w : World) (hn : n < pp) : Calls Tryd.prog 37 #[elV n] w (gvn (.bool (decide (n = 0))) w) := by
  rw [← limb5_inj hn (by decide)]
  exact zero_over (limb5 n) _ w rfl (fun w => elem_equal (limb5 n) (limb5 0) rfl rfl w)
set_option maxRecDepth 100000 in
theorem odd_any (n : Nat) (w : World) : Calls Tryd.prog 45 #[elV n] w (gvn (.bool (decide (n % 2 = 1))) w) := by
  have h1 : bits .and .u64 ((lx n 0 : Nat) : Int) 1 = ((n % 2 : Nat) : Int) := by
    rw [show (1 : Int) = ((1 : Nat) : Int) from rfl, u64_and_nat _ _ (by have := lx_lt n 0; omega) (by omega)]
    have := Nat.and_two_pow_sub_one_eq_mod (lx n 0) 1
    simp only [Nat.reducePow, Nat.reduceSub] at this
    rw [this]
    show ((n % 2251799813685248 % 2 : Nat) : Int) = _
    omega
  have HD : Hid (((((n % 2 : Nat) : Int)) == 1) = decide (n % 2 = 1)) := by
    show _ = _
    rw [Bool.eq_iff_iff, beq_iff_eq, decide_eq_true_eq]; omega
  obtain ⟨a, HA⟩ := namedF (limb5 n)
  have e0 : a[0]? = some (lx n 0) := by rw [← HA.out]; rfl
  have HX : (a.map ncell)[0]? = some (ncell (lx n 0)) := by rw [List.getElem?_map, e0]; rfl
  show Calls _ _ #[numVal (limb5 n)] _ _
  rw [HA.out]
  generalize lx n 0 = x at *
  rw [← HD.out]
  generalize n % 2 = q at *
  clear e0 HA HD
  go_enter Tryd.func45, Tryd.ntmps45
  go_wp2_with (first
    | (refine vtake_step rfl 44 (.tmp 0) rfl (a.map ncell) rfl ?_
       intro w1 hB1 hA1
       have d0 := hA1.get HX
       try simp only [putS]
       skip))
  go_ret
  exact ⟨rfl, hB1⟩
/-- A package variable's block is just these cells. -/
def Tab (w : World) (g : Nat) (vs : List Value) : Prop := ∃ t f, w.heap[g]? = some (.cells vs.toArray t f)
theorem Tab.lt {w : World} {g : Nat} {vs : List Value} (h : Tab w g vs) : g < w.heap.size := by obtain ⟨t, f, h⟩ := h; exact heap_lt h
theorem Tab.below {w w' : World} {B g : Nat} {vs : List Value} (h : Tab w g vs) (hb : Below B w w') (hg : g < B) : Tab w' g vs := by obtain ⟨t, f, h⟩ := h; exact ⟨t, f, (hb.block g hg).trans h⟩
theorem Tab.on {w w' : World} {g : Nat} {vs : List Value} (h : Tab w g vs) (hb : Below w.heap.size w w') : Tab w' g vs := h.below hb h.lt
theorem Tab.but {w w' : World} {b g : Nat} {vs : List Value} (h : Tab w g vs) (hb : But b w w') (hg : g ≠ b) : Tab w' g vs := by
  have hl := h.lt
  obtain ⟨t, f, h⟩ := h
  exact ⟨t, f, (hb.block g hl hg).trans h⟩
theorem Tab.drew {w : World} {g : Nat} {vs : List Value} (h : Tab w g vs) : Tab w.drew g vs := h
theorem Tab.of_var {P : Program} {W : World} {name : String} {g : Nat} {cs : List Value} (hg : P.globalNamed name = some g) (hv : W.var? P name = some cs.toArray) : Tab W g cs := by
  unfold World.var? at hv
  rw [hg, Option.bind_some] at hv
  cases h : W.heap[g]? with
  | none => rw [h] at hv; cases hv
  | some o =>
    rw [h] at hv
    cases o with
    | cells c t f =>
      obtain rfl : c = cs.toArray := by simpa using hv
      exact ⟨t, f, h⟩
    | _ => cases hv
section
variable {P : Program} {w : World} {ops : Array Oper} {rest : List Oper} {o : Oper} {a : Act} {Q : Exit → Act → World → Prop}
/-- Such a variable as a value. -/
theorem tget_step (hgd : o.guard = none) (t : TypeId) (x : Operand) (ho : o.op = .load t x) (g n : Nat) (vs : List Value) {d : TypeDesc} (hx : a.eval x = .pointer (some ⟨g, 0, none⟩)) (hC : Tab w g vs) (hu : P.underlying t = some d)
    (hd : (match d with | .struct _ | .array _ _ => true | _ => false) = true) (hs : (P.info? t).map (·.size) = some n) (hl : vs.length = n) (h : wpList P ops Q rest (a.put o.dst (.agg vs.toArray)) w) : wpList P ops Q (o :: rest) a w := by
  obtain ⟨t', f, hC⟩ := hC
  exact wpList_load_row hgd t x ho g hx t' vs.toArray f _ hC hu hd (by rw [List.size_toArray, hl]; exact hs) h
end
end Go.Proofs.YtoggkhjaghkpnaaDoor
