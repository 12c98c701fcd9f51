/- The walk of the law WordsRows. -/
import Derived.Test.YtbifokcchlcloaaDoorWApp
import Derived.Test.YtbifokcchlcloaaDoorWNum
import Derived.Deep.RegionHeld3
namespace Go.Proofs.YtbifokcchlcloaaDoor.wordsRows
open Go.RowKit
theorem all_zero (xs : List UInt8) : xs.all (· == 0) = (xs == List.replicate xs.length 0) := by
  rw [Bool.eq_iff_iff, List.all_eq_true, beq_iff_eq]
  constructor
  · intro h
    refine List.eq_replicate_iff.2 ⟨rfl, fun u hu => ?_⟩
    simpa using h u hu
  · intro h u hu
    rw [h] at hu
    simp [(List.mem_replicate.1 hu).2]
/-- 'string(b)' in every world in which nothing old has turned. -/
theorem conv_in {w : World} {A : Option Addr} {bs : List UInt8} (h : Row w w.heap.size A bs) (c : Nat) : ∀ w' : World, Below w.heap.size w w' → (convert 30 9 (.slice A bs.length c)).run Tryd.prog w' = .ok (.string (str bs)) w' :=
  fun _ hb => (h.below hb).conv c Tryd.underlying30 Tryd.underlying5 Tryd.underlying9
theorem conv_zeros (n : Nat) (W : World) : (convert 30 9 (.slice (some ⟨W.heap.size, 0, none⟩) n n)).run Tryd.prog (W.alloc (.cells (rowCells (List.replicate n 0)) 5)) = .ok (.string (str (List.replicate n 0))) (W.alloc (.cells (rowCells (List.replicate n 0)) 5)) := by
  have h := ((Made.new W (List.replicate n 0)).row (B := W.heap.size + 1) (by omega)).conv (P := Tryd.prog) n Tryd.underlying30 Tryd.underlying5 Tryd.underlying9
  rw [List.length_replicate] at h
  exact h
theorem conv_zeros' (n : Nat) (W : World) : (convert 30 9 (.slice (some ⟨W.heap.size, 0, none⟩) n n)).run Tryd.prog (W.alloc (.cells (rowCells (List.replicate n 0)) 5)).drew = .ok (.string (str (List.replicate n 0))) (W.alloc (.cells (rowCells (List.replicate n 0)) 5)).drew := by
  have h := ((Made.new W (List.replicate n 0)).drew.row (B := W.heap.size + 1) (by omega)).conv (P := Tryd.prog) n Tryd.underlying30 Tryd.underlying5 Tryd.underlying9
  rw [List.length_replicate] at h
  exact h
theorem long_walk (A B : Option Addr) (c d m n : Nat) (w : World) (hl : 300 < m ∨ 300 < n) :
    Calls Tryd.prog 5 #[.slice A m c, .slice B n d] w fun e w' => e = .returned (.bool true) ∧ Below w.heap.size w w' := by
  by_cases h : 300 < m
  · have h1 : (300 : Int) < (m : Int) := by omega
    clear hl
    go_enter Tryd.func5, Tryd.ntmps5
    go_wp2_with fail
    refine (alive_any _).mono ?_
    rintro e w1 ⟨rfl, hb⟩
    go_wp2
    go_ret
    exact ⟨rfl, hb⟩
  · have h1 : ¬ (300 : Int) < (m : Int) := by omega
    have h2 : (300 : Int) < (n : Int) := by omega
    clear hl
    go_enter Tryd.func5, Tryd.ntmps5
    go_wp2_with fail
    refine (alive_any _).mono ?_
    rintro e w1 ⟨rfl, hb⟩
    go_wp2
    go_ret
    exact ⟨rfl, hb⟩
set_option maxRecDepth 100000 in
set_option maxHeartbeats 1000000 in
theorem other_walk (A B : Option Addr) (c d : Nat) (xs ys : List UInt8) (es : List Addr) (w : World) (ha : Row w w.heap.size A xs) (hb : Row w w.heap.size B ys) (hA : A = none → c = 0) (hBn : B = none → d = 0)
    (hE : Errs w es) (hx : xs.length ≤ 300) (hy : ys.length ≤ 300) (hl : xs.length ≠ ys.length) :
    Calls Tryd.prog 5 #[.slice A xs.length c, .slice B ys.length d] w fun e w' => e = .returned (.bool true) ∧ Below w.heap.size w w' := by
  have HL := Lib.hid hl
  have hxy : (xs == ys) = false := by
    rw [beq_eq_false_iff_ne]
    rintro rfl
    exact hl rfl
  have h1 : ¬ (300 : Int) < (xs.length : Int) := by omega
  have h2 : ¬ (300 : Int) < (ys.length : Int) := by omega
  have sb := str_beq
  have az := all_zero xs
  have n1 : ((xs.length : Int) == (ys.length : Int)) = false := by simp; omega
  have n2 : ((xs.length : Int) != (ys.length : Int)) = true := by simp; omega
  clear hl
  go_enter Tryd.func5, Tryd.ntmps5
  go_wp2_with fail
  refine (alive_any _).mono ?_
  rintro e w1 ⟨rfl, hB1⟩
  go_wp2_with fail
  refine (bytes_any _ _ _ _ ((ha.below hB1).more hB1.size) hA (by omega)).mono ?_
  rintro e w2 ⟨g, cap, rfl, hc1, hc2, hg, hR, hB2⟩
  have hB2' : Below w.heap.size w w2 := hB1.trans (hB2.mono hB1.size)
  go_wp2_with fail
  refine (bytes_any _ _ _ _ ((hb.below hB2').more hB2'.size) hBn (by omega)).mono ?_
  rintro e w3 ⟨g', cap', rfl, hc1', hc2', hg', hR', hB3⟩
  have hB3' : Below w.heap.size w w3 := hB2'.trans (hB3.mono hB2'.size)
  obtain ⟨aF, haF, hcF⟩ := (hE.below hB3').var 3 (g := 3) rfl
  go_wp2_with fail
  refine (mix_other _ _ _ _ _ _ _ _ HL.out hcF).mono ?_
  rintro e w4 ⟨rfl, n4, rfl⟩
  have hB4 : Below w.heap.size w (w3.drewN n4) := below_drewN hB3' _
  have rX : Row (w3.drewN n4) (w3.drewN n4).heap.size (some ⟨g, 0, none⟩) xs := by
    have h := (hR.below hB3).take xs.length
    rw [List.take_left' rfl] at h
    exact (h.more hB3.size).drewN _
  have rA := (ha.below hB4).more hB4.size
  have rB := (hb.below hB4).more hB4.size
  have rE := (hE.below hB3').drewN n4
  generalize w3.drewN n4 = w4 at *
  clear hB3' hB3 hB2' hB2 hB1 hR hR' hg hg' hc1 hc2 hc1' hc2' hcF
  have kA := conv_in rA c
  have kB := conv_in rB d
  have hmk := make_bytes xs.length xs.length (Nat.le_refl _) (by omega)
  have kz := conv_zeros xs.length
  have kz' := conv_zeros' xs.length
  go_wp2
  go_region_held (fun w' => Below w4.heap.size w4 w') (first | exact Below.refl _ _ | exact (Below.refl _ _).drew | assumption | exact Below.alloc ‹_› (Below.size ‹_›) _ | exact Below.drew (Below.alloc ‹_› (Below.size ‹_›) _))
    (first | (go_at_call 25; refine (equal_other _ _ _ _ _ _ _ HL.out).mono ?_; rintro e w' ⟨rfl, rfl⟩) | (go_at_call 26; refine (zero_any _ _ _ _ ?_ ?_).mono ?_; (exact (rX.below ‹_›).more (Below.size ‹_›)); (omega); rintro e w' ⟨rfl, rfl⟩))
  all_goals
    go_wp2_with (go_at_call 16; refine (num_is es 3 4 aF _ ?_ haF rfl).mono ?_; (exact rE.below ‹Below w4.heap.size w4 _›); rintro e w' ⟨rfl, hq⟩)
    go_ret
    exact ⟨rfl, hB4.trans ((Below.trans ‹Below w4.heap.size w4 _› (hq.mono (Below.size ‹Below w4.heap.size w4 _›))).mono hB4.size)⟩
theorem conv_zerosM (n k : Nat) (W : World) : (convert 30 9 (.slice (some ⟨W.heap.size, 0, none⟩) n n)).run Tryd.prog ((W.drewN k).alloc (.cells (rowCells (List.replicate n 0)) 5)) = .ok (.string (str (List.replicate n 0))) ((W.drewN k).alloc (.cells (rowCells (List.replicate n 0)) 5)) :=
  conv_zeros n (W.drewN k)
theorem xorL_back : ∀ a b : List UInt8, a.length = b.length → xorL (xorL a b) b = a
  | [], [], _ => rfl
  | x :: a, y :: b, h => by
    have ih := xorL_back a b (by simpa using h)
    unfold xorL at *
    simp only [List.zipWith_cons_cons]
    rw [ih, UInt8.xor_assoc, UInt8.xor_self, UInt8.xor_zero]
set_option maxRecDepth 100000 in
set_option maxHeartbeats 1000000 in
theorem same_walk (A B : Option Addr) (c d n : Nat) (xs ys : List UInt8) (w : World) (ha : Row w w.heap.size A xs) (hb : Row w w.heap.size B ys) (hA : A = none → c = 0) (hBn : B = none → d = 0)
    (hn : n ≤ 300) (hx : xs.length = n) (hy : ys.length = n) :
    Calls Tryd.prog 5 #[.slice A n c, .slice B n d] w fun e w' => e = .returned (.bool true) ∧ Below w.heap.size w w' := by
  have HX := Lib.hid hx
  have HY := Lib.hid hy
  have h1 : ¬ (300 : Int) < (n : Int) := by omega
  have sb := str_beq
  have az := all_zero xs
  rw [hx] at az
  have LX : Hid ((xorL xs ys).length = n) := by show _ = _; rw [xorL_length]; omega
  have LB := Lib.hid (xorL_back xs ys (hx.trans hy.symm))
  clear hx hy
  go_enter Tryd.func5, Tryd.ntmps5
  go_wp2_with fail
  refine (alive_any _).mono ?_
  rintro e w1 ⟨rfl, hB1⟩
  go_wp2_with fail
  refine (bytes_n HX.out ((ha.below hB1).more hB1.size) hA (by omega)).mono ?_
  rintro e w2 ⟨g, cap, rfl, hc1, hc2, hg, hR, hB2⟩
  have hB2' : Below w.heap.size w w2 := hB1.trans (hB2.mono hB1.size)
  go_wp2_with fail
  refine (bytes_n HY.out ((hb.below hB2').more hB2'.size) hBn (by omega)).mono ?_
  rintro e w3 ⟨g', cap', rfl, hc1', hc2', hg', hR', hB3⟩
  have hB3' : Below w.heap.size w w3 := hB2'.trans (hB3.mono hB2'.size)
  have rX3 : Row w3 w3.heap.size (some ⟨g, 0, none⟩) (xs ++ marks) := (hR.below hB3).more hB3.size
  go_wp2_with fail
  refine (mix_n HX.out HY.out rX3.head hR'.head (by omega)).mono ?_
  rintro e w4 ⟨rfl, hB4, hM⟩
  have hB4' : Below w.heap.size w w4 := hB3'.trans (hB4.mono hB3'.size)
  have rX := (rX3.below hB4).more hB4.size
  have rY := (hR'.below hB4).more hB4.size
  have rA := (ha.below hB4').more hB4'.size
  have rB := (hb.below hB4').more hB4'.size
  have rM := hM.row hM.lt
  generalize w3.heap.size = gm at *
  clear rX3 hB3' hB3 hB2' hB2 hB1 hR hR' hg hg' hB4 hM
  have kA := conv_n HX.out rA c
  have kB := conv_n HY.out rB d
  have hmk := make_bytes n n (Nat.le_refl _) (by omega)
  have kz := conv_zeros n
  have kz' := conv_zeros' n
  have kzN := conv_zerosM n
  go_wp2
  go_region_held (fun w' => Below w4.heap.size w4 w') (first | exact Below.refl _ _ | exact (Below.refl _ _).drew | assumption | exact (Below.refl _ _).alloc (Nat.le_refl _) _ | exact ((Below.refl _ _).alloc (Nat.le_refl _) _).drew | exact below_drewN (Below.refl _ _) _ | exact below_drewN ((Below.refl _ _).alloc (Nat.le_refl _) _) _ | exact (below_drewN (Below.refl _ _) _).alloc (Nat.le_refl _) _)
    (first | (go_at_call 25; refine (equal_n HX.out HY.out ?_ ?_ ?_).mono ?_; (exact (rX.head.below ‹_›).more (Below.size ‹_›)); (exact (rY.head.below ‹_›).more (Below.size ‹_›)); (omega); rintro e w' ⟨rfl, nq, rfl⟩) | (go_at_call 26; refine (zero_n HX.out ?_ ?_).mono ?_; (exact (rX.head.below ‹_›).more (Below.size ‹_›)); (omega); rintro e w' ⟨rfl, rfl⟩))
  clear kA kB kz kz' kzN hmk
  all_goals
    have hB5 := ‹Below w4.heap.size w4 _›
    have rA5 := rA.on hB5
    have rB5 := rB.on hB5
    have rM5 := rM.on hB5
    have rX5 := rX.on hB5
    have rY5 := rY.on hB5
    go_wp2_with fail
    refine (mix_n LX.out HY.out rM5 rB5 (by omega)).mono ?_
    rintro e w6 ⟨rfl, hB6, hM6⟩
    rw [LB.out] at hM6
    have hM7 : Made w6 (w4.heap.size + 1) xs := by simpa using hM6
    have rA6 := rA5.on hB6
    have rB6 := rB5.on hB6
    have rX6 := rX5.on hB6
    have rY6 := rY5.on hB6
    have kM := conv_n LX.out (rM5.on hB6) n
    have kK := conv_n HX.out (hM7.row hM7.lt) n
    have kA := conv_n HX.out rA6 c
    have hB7 : Below w.heap.size w w6 := below_then hB4' (below_then hB5 hB6)
    clear hM6 hM7 rA5 rB5 rM5 rX5 rY5 hB6 hB5
    go_wp2
    go_region_held (fun w' => Below w6.heap.size w6 w') (first | exact Below.refl _ _ | exact (Below.refl _ _).drew | assumption | (apply below_then <;> assumption) | (apply below_drewN; assumption) | (apply below_redrew; assumption))
      (first | (go_at_call 27; refine (refmix_n HX.out HY.out ?_ ?_ ?_).mono ?_; (exact rA6.on ‹_›); (exact rB6.on ‹_›); (omega); rintro e w' ⟨A', c', rfl, hA', hB', hR'⟩; have kR := conv_n LX.out hR' c' _ (Below.refl _ _)) | (go_at_call 22; (with_reducible refine (kept_n (g := g) (cap := cap) (A := A) (c := c) HX.out ?_ ?_ hc1 hc2 ?_).mono ?_); (exact rX6.on ‹_›); (exact rA6.on ‹_›); (omega); rintro e w' ⟨rfl, nq, rfl⟩) | (go_at_call 22; (with_reducible refine (kept_n (g := g') (cap := cap') (A := B) (c := d) HY.out ?_ ?_ hc1' hc2' ?_).mono ?_); (exact rY6.on ‹_›); (exact rB6.on ‹_›); (omega); rintro e w' ⟨rfl, nq, rfl⟩))
    all_goals
      go_wp2
      go_ret
      exact ⟨rfl, below_then hB7 ‹Below w6.heap.size w6 _›⟩
end Go.Proofs.YtbifokcchlcloaaDoor.wordsRows
