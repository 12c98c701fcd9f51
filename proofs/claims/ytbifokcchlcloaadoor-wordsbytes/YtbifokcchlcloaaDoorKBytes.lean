/- The walk of the law WordsBytes. -/
import Derived.Test.YtbifokcchlcloaaDoorWPut
import Derived.Deep.RegionHeld3
namespace Go.Proofs.YtbifokcchlcloaaDoor.wordsBytes
open Go.RowKit
theorem long_walk (x n : Int) (A : Option Addr) (c m : Nat) (w : World) (hl : 100 < m) :
    Calls Tryd.prog 4 #[.int .u64 x, .int .i64 n, .slice A m c] w fun e w' => e = .returned (.bool true) ∧ Below w.heap.size w w' := by
  have h1 : (100 : Int) < (m : Int) := by omega
  go_enter Tryd.func4, Tryd.ntmps4
  go_wp2_with fail
  refine (alive_any _).mono ?_
  rintro e w1 ⟨rfl, hb⟩
  go_wp2
  go_ret
  exact ⟨rfl, hb⟩
set_option maxRecDepth 100000 in
set_option maxHeartbeats 2000000 in
theorem out_few (x n : Int) (A : Option Addr) (c m : Nat) (bs : List UInt8) (es : List Addr) (w : World) (hn : n < 0 ∨ 8 < n) (hm : m ≤ 100) (h8 : m ≤ 8) (hl : bs.length = m) (hr : Row w w.heap.size A bs) (hA : A = none → c = 0) (hE : Errs w es) :
    Calls Tryd.prog 4 #[.int .u64 x, .int .i64 n, .slice A m c] w fun e w' => e = .returned (.bool true) ∧ Below w.heap.size w w' := by
  have HN := Lib.hid hn
  have HL := Lib.hid hl
  have HR : Hid (bs.reverse.length = m) := by show _ = _; rw [List.length_reverse, hl]
  have h1 : ¬ (100 : Int) < (m : Int) := by omega
  have h9 : ¬ (8 : Int) < (m : Int) := by omega
  clear hl
  by_cases h : n < 0
  all_goals
    try have h2 : 8 < n := by omega
    clear hn
    go_enter Tryd.func4, Tryd.ntmps4
    go_wp2_with fail
    refine (alive_any _).mono ?_
    rintro e w1 ⟨rfl, hB1⟩
    obtain ⟨aR, haR, hcR⟩ := (hE.below hB1).var 0 (g := 0) rfl
    go_wp2_with fail
    refine (putLittle_out _ _ _ _ HN.out (by exact hcR)).mono ?_
    rintro e w2 ⟨rfl, n2, rfl⟩
    go_wp2_with fail
    refine (putBig_out _ _ _ _ HN.out (by exact hcR)).mono ?_
    rintro e w2 ⟨rfl, n3, rfl⟩
    have hB2 : Below w.heap.size w (w1.drewN (n2 + n3)) := below_drewN hB1 _
    try rw [World.drewN_drewN]
    generalize w1.drewN (n2 + n3) = w2 at *
    clear hB1 hcR
    go_wp2_with fail
    refine (num_is es 0 1 aR _ (hE.below hB2) haR rfl).mono ?_
    rintro e w3 ⟨rfl, hB3⟩
    have hB3' := below_then hB2 hB3
    go_wp2_with fail
    refine (num_is es 0 1 aR _ (hE.below hB3') haR rfl).mono ?_
    rintro e w5 ⟨rfl, hB5⟩
    have hB5 := below_then hB3' hB5
    clear hB2 hB3 hB3'
    go_wp2_with fail
    refine (bytes_n HL.out (hr.on hB5) hA (by omega)).mono ?_
    rintro e w6 ⟨g, cap, rfl, hc1, hc2, hg, hR, hB6⟩
    have hB6' := below_then hB5 hB6
    go_wp2_with fail
    refine (big_few_n _ _ _ bs _ HL.out hR.head (by omega)).mono ?_
    rintro e w7 ⟨rfl, rfl⟩
    go_wp2_with fail
    refine (little_few _ _ _ bs _ HL.out hR.head (by omega)).mono ?_
    rintro e w7 ⟨rfl, rfl⟩
    go_wp2_with fail
    refine (kept_n HL.out hR (hr.on hB6') hc1 hc2 (by omega)).mono ?_
    rintro e w7 ⟨rfl, nk, rfl⟩
    have hB7 := below_drewN hB6' nk
    generalize w6.drewN nk = w7 at *
    clear hR hB6 hB6'
    go_wp2_with fail
    refine (refBig_few _ _ _ bs _ HL.out (hr.on hB7) (by omega)).mono ?_
    rintro e w8 ⟨rfl, rfl⟩
    go_wp2_with fail
    refine (reverse_n _ _ _ bs _ HL.out (hr.on hB7) (by omega)).mono ?_
    rintro e w8 ⟨rfl, hB8, hM8⟩
    go_wp2_with fail
    refine (refBig_few _ _ _ bs.reverse _ HR.out (hM8.row hM8.lt) (by omega)).mono ?_
    rintro e w9 ⟨rfl, rfl⟩
    go_wp2
    go_ret
    exact ⟨by simp, below_then hB7 hB8⟩
set_option maxRecDepth 100000 in
set_option maxHeartbeats 2000000 in
theorem out_long (x n : Int) (A : Option Addr) (c m : Nat) (bs : List UInt8) (es : List Addr) (w : World) (hn : n < 0 ∨ 8 < n) (hm : m ≤ 100) (h8 : 8 < m) (hl : bs.length = m) (hr : Row w w.heap.size A bs) (hA : A = none → c = 0) (hE : Errs w es) :
    Calls Tryd.prog 4 #[.int .u64 x, .int .i64 n, .slice A m c] w fun e w' => e = .returned (.bool true) ∧ Below w.heap.size w w' := by
  have HN := Lib.hid hn
  have HL := Lib.hid hl
  have h1 : ¬ (100 : Int) < (m : Int) := by omega
  have h9 : (8 : Int) < (m : Int) := by omega
  clear hl
  by_cases h : n < 0
  all_goals
    try have h2 : 8 < n := by omega
    clear hn
    go_enter Tryd.func4, Tryd.ntmps4
    go_wp2_with fail
    refine (alive_any _).mono ?_
    rintro e w1 ⟨rfl, hB1⟩
    obtain ⟨aR, haR, hcR⟩ := (hE.below hB1).var 0 (g := 0) rfl
    go_wp2_with fail
    refine (putLittle_out _ _ _ _ HN.out (by exact hcR)).mono ?_
    rintro e w2 ⟨rfl, n2, rfl⟩
    go_wp2_with fail
    refine (putBig_out _ _ _ _ HN.out (by exact hcR)).mono ?_
    rintro e w2 ⟨rfl, n3, rfl⟩
    have hB2 : Below w.heap.size w (w1.drewN (n2 + n3)) := below_drewN hB1 _
    try rw [World.drewN_drewN]
    generalize w1.drewN (n2 + n3) = w2 at *
    clear hB1 hcR
    go_wp2_with fail
    refine (num_is es 0 1 aR _ (hE.below hB2) haR rfl).mono ?_
    rintro e w3 ⟨rfl, hB3⟩
    have hB3' := below_then hB2 hB3
    go_wp2_with fail
    refine (num_is es 0 1 aR _ (hE.below hB3') haR rfl).mono ?_
    rintro e w5 ⟨rfl, hB5⟩
    have hB5 := below_then hB3' hB5
    clear hB2 hB3 hB3'
    go_wp2_with fail
    refine (bytes_n HL.out (hr.on hB5) hA (by omega)).mono ?_
    rintro e w6 ⟨g, cap, rfl, hc1, hc2, hg, hR, hB6⟩
    have hB6' := below_then hB5 hB6
    obtain ⟨aL, haL, hcL⟩ := (hE.below hB6').var 2 (g := 2) rfl
    go_wp2_with fail
    refine (big_long _ _ _ _ _ h8 (by exact hcL)).mono ?_
    rintro e w7 ⟨rfl, n7, rfl⟩
    go_wp2_with fail
    refine (little_long _ _ _ _ _ h8 (by exact hcL)).mono ?_
    rintro e w7 ⟨rfl, n8, rfl⟩
    go_wp2_with fail
    refine (kept_n HL.out (by exact hR) (by exact hr.on (below_drewN hB6' _)) hc1 hc2 (by omega)).mono ?_
    rintro e w7 ⟨rfl, nk, rfl⟩
    have hB7 : Below w.heap.size w (w6.drewN (n7 + n8 + nk)) := below_drewN hB6' _
    try rw [World.drewN_drewN]
    try rw [World.drewN_drewN]
    try rw [← Nat.add_assoc]
    generalize w6.drewN (n7 + n8 + nk) = w7 at *
    clear hR hB6 hB6' hcL
    go_wp2_with fail
    refine (num_is es 2 3 aL _ (hE.below hB7) haL rfl).mono ?_
    rintro e w8 ⟨rfl, hB8⟩
    have hB8' := below_then hB7 hB8
    go_wp2_with fail
    refine (num_is es 2 3 aL _ (hE.below hB8') haL rfl).mono ?_
    rintro e w9 ⟨rfl, hB9⟩
    go_wp2
    go_ret
    exact ⟨rfl, below_then hB8' hB9⟩
set_option maxRecDepth 100000 in
set_option maxHeartbeats 2000000 in
theorem in_few (x n : Nat) (A : Option Addr) (c m : Nat) (bs : List UInt8) (w : World) (hx : x < 18446744073709551616) (hn : n ≤ 8) (hm : m ≤ 100) (h8 : m ≤ 8) (hl : bs.length = m) (hr : Row w w.heap.size A bs) (hA : A = none → c = 0) :
    Calls Tryd.prog 4 #[.int .u64 x, .int .i64 n, .slice A m c] w fun e w' => e = .returned (.bool true) ∧ Below w.heap.size w w' := by
  have PL := Lib.hid (putL_length x n)
  have PR : Hid ((putL x n).reverse.length = n) := by show _ = _; rw [List.length_reverse, putL_length]
  have sb := str_beq
  have HL := Lib.hid hl
  have HR : Hid (bs.reverse.length = m) := by show _ = _; rw [List.length_reverse, hl]
  have h1 : ¬ (100 : Int) < (m : Int) := by omega
  have h9 : ¬ (8 : Int) < (m : Int) := by omega
  clear hl
  have hz : (0 : Int) ≤ (n : Int) := by omega
  go_enter Tryd.func4, Tryd.ntmps4
  go_wp2_with fail
  refine (alive_any _).mono ?_
  rintro e w1 ⟨rfl, hB1⟩
  go_wp2_with fail
  refine (putLittle_in x n _ hx hn).mono ?_
  rintro e w2 ⟨rfl, hB2, hM2⟩
  go_wp2_with fail
  refine (putBig_in x n _ hx hn).mono ?_
  rintro e w3 ⟨rfl, hB3, hM3⟩
  have rL : Row w3 w3.heap.size (some ⟨w1.heap.size, 0, none⟩) (putL x n) := (hM2.row hM2.lt).on hB3
  have rG := hM3.row hM3.lt
  have hB4 := below_then hB1 (below_then hB2 hB3)
  have kL := conv_n PL.out rL n
  have kG := conv_n PR.out rG n
  generalize w1.heap.size = g1 at *
  generalize w2.heap.size = g2 at *
  clear hB1 hB2 hB3 hM2 hM3
  go_wp2
  go_region_held (fun w' => Below w3.heap.size w3 w') (first | exact Below.refl _ _ | exact (Below.refl _ _).drew | assumption | (apply below_then <;> assumption) | (apply below_drewN; assumption))
    (first | (go_at_call 17; refine (refLittle_any x n _ hx ?_).mono ?_; (omega); rintro e w' ⟨A', c', rfl, hA', hB', hR'⟩; have kR := conv_n PL.out hR' c' _ (Below.refl _ _)) | (go_at_call 18; refine (reverse_n _ _ _ _ _ PL.out ?_ ?_).mono ?_; (exact rL.on ‹_›); (omega); rintro e w' ⟨rfl, hB', hM'⟩; have kR := conv_n PR.out (hM'.row hM'.lt) n _ (Below.refl _ _)))
  all_goals
    have hB5 := below_then hB4 ‹Below w3.heap.size w3 _›
    go_wp2_with fail
    refine (bytes_n HL.out (hr.on hB5) hA (by omega)).mono ?_
    rintro e w6 ⟨g, cap, rfl, hc1, hc2, hg, hR, hB6⟩
    have hB6' := below_then hB5 hB6
    go_wp2_with fail
    refine (big_few_n _ _ _ bs _ HL.out hR.head (by omega)).mono ?_
    rintro e w7 ⟨rfl, rfl⟩
    go_wp2_with fail
    refine (little_few _ _ _ bs _ HL.out hR.head (by omega)).mono ?_
    rintro e w7 ⟨rfl, rfl⟩
    go_wp2_with fail
    refine (kept_n HL.out hR (hr.on hB6') hc1 hc2 (by omega)).mono ?_
    rintro e w7 ⟨rfl, nk, rfl⟩
    have hB7 := below_drewN hB6' nk
    generalize w6.drewN nk = w7 at *
    clear hR hB6 hB6'
    go_wp2_with fail
    refine (refBig_few _ _ _ bs _ HL.out (hr.on hB7) (by omega)).mono ?_
    rintro e w8 ⟨rfl, rfl⟩
    go_wp2_with fail
    refine (reverse_n _ _ _ bs _ HL.out (hr.on hB7) (by omega)).mono ?_
    rintro e w8 ⟨rfl, hB8, hM8⟩
    go_wp2_with fail
    refine (refBig_few _ _ _ bs.reverse _ HR.out (hM8.row hM8.lt) (by omega)).mono ?_
    rintro e w9 ⟨rfl, rfl⟩
    go_wp2
    go_ret
    exact ⟨by simp, below_then hB7 hB8⟩
set_option maxRecDepth 100000 in
set_option maxHeartbeats 2000000 in
theorem in_long (x n : Nat) (A : Option Addr) (c m : Nat) (bs : List UInt8) (es : List Addr) (w : World) (hx : x < 18446744073709551616) (hn : n ≤ 8) (hm : m ≤ 100) (h8 : 8 < m) (hl : bs.length = m) (hr : Row w w.heap.size A bs) (hA : A = none → c = 0) (hE : Errs w es) :
    Calls Tryd.prog 4 #[.int .u64 x, .int .i64 n, .slice A m c] w fun e w' => e = .returned (.bool true) ∧ Below w.heap.size w w' := by
  have PL := Lib.hid (putL_length x n)
  have PR : Hid ((putL x n).reverse.length = n) := by show _ = _; rw [List.length_reverse, putL_length]
  have sb := str_beq
  have HL := Lib.hid hl
  have h1 : ¬ (100 : Int) < (m : Int) := by omega
  have h9 : (8 : Int) < (m : Int) := by omega
  clear hl
  have hz : (0 : Int) ≤ (n : Int) := by omega
  go_enter Tryd.func4, Tryd.ntmps4
  go_wp2_with fail
  refine (alive_any _).mono ?_
  rintro e w1 ⟨rfl, hB1⟩
  go_wp2_with fail
  refine (putLittle_in x n _ hx hn).mono ?_
  rintro e w2 ⟨rfl, hB2, hM2⟩
  go_wp2_with fail
  refine (putBig_in x n _ hx hn).mono ?_
  rintro e w3 ⟨rfl, hB3, hM3⟩
  have rL : Row w3 w3.heap.size (some ⟨w1.heap.size, 0, none⟩) (putL x n) := (hM2.row hM2.lt).on hB3
  have rG := hM3.row hM3.lt
  have hB4 := below_then hB1 (below_then hB2 hB3)
  have kL := conv_n PL.out rL n
  have kG := conv_n PR.out rG n
  generalize w1.heap.size = g1 at *
  generalize w2.heap.size = g2 at *
  clear hB1 hB2 hB3 hM2 hM3
  go_wp2
  go_region_held (fun w' => Below w3.heap.size w3 w') (first | exact Below.refl _ _ | exact (Below.refl _ _).drew | assumption | (apply below_then <;> assumption) | (apply below_drewN; assumption))
    (first | (go_at_call 17; refine (refLittle_any x n _ hx ?_).mono ?_; (omega); rintro e w' ⟨A', c', rfl, hA', hB', hR'⟩; have kR := conv_n PL.out hR' c' _ (Below.refl _ _)) | (go_at_call 18; refine (reverse_n _ _ _ _ _ PL.out ?_ ?_).mono ?_; (exact rL.on ‹_›); (omega); rintro e w' ⟨rfl, hB', hM'⟩; have kR := conv_n PR.out (hM'.row hM'.lt) n _ (Below.refl _ _)))
  all_goals
    have hB5 := below_then hB4 ‹Below w3.heap.size w3 _›
    go_wp2_with fail
    refine (bytes_n HL.out (hr.on hB5) hA (by omega)).mono ?_
    rintro e w6 ⟨g, cap, rfl, hc1, hc2, hg, hR, hB6⟩
    have hB6' := below_then hB5 hB6
    obtain ⟨aL, haL, hcL⟩ := (hE.below hB6').var 2 (g := 2) rfl
    go_wp2_with fail
    refine (big_long _ _ _ _ _ h8 (by exact hcL)).mono ?_
    rintro e w7 ⟨rfl, n7, rfl⟩
    go_wp2_with fail
    refine (little_long _ _ _ _ _ h8 (by exact hcL)).mono ?_
    rintro e w7 ⟨rfl, n8, rfl⟩
    go_wp2_with fail
    refine (kept_n HL.out (by exact hR) (by exact hr.on (below_drewN hB6' _)) hc1 hc2 (by omega)).mono ?_
    rintro e w7 ⟨rfl, nk, rfl⟩
    have hB7 : Below w.heap.size w (w6.drewN (n7 + n8 + nk)) := below_drewN hB6' _
    try rw [World.drewN_drewN]
    try rw [World.drewN_drewN]
    try rw [← Nat.add_assoc]
    generalize w6.drewN (n7 + n8 + nk) = w7 at *
    clear hR hB6 hB6' hcL
    go_wp2_with fail
    refine (num_is es 2 3 aL _ (hE.below hB7) haL rfl).mono ?_
    rintro e w8 ⟨rfl, hB8⟩
    have hB8' := below_then hB7 hB8
    go_wp2_with fail
    refine (num_is es 2 3 aL _ (hE.below hB8') haL rfl).mono ?_
    rintro e w9 ⟨rfl, hB9⟩
    go_wp2
    go_ret
    exact ⟨rfl, below_then hB8' hB9⟩
end Go.Proofs.YtbifokcchlcloaaDoor.wordsBytes
