/- Package onetime: read. -/
import Derived.Test.YtiadgningbogmaaDoorOTimes
import Derived.Test.YtiadgningbogmaaDoorOMath2
import Derived.Test.YtiadgningbogmaaDoorWPut
import Derived.IntWalk
namespace Go.Proofs.YtiadgningbogmaaDoor
open Go.RowKit
theorem zero_row17 : ∀ w, (zeroValue 44).run Tryd.prog w = .ok (.agg (List.replicate 17 (cellOf 0)).toArray) w := (zero_of_info (P := Tryd.prog) (t := 44) (v := .agg (List.replicate 17 (cellOf 0)).toArray) (n := 17) (by kernel_rfl)).1
theorem size_row17 : (Tryd.prog.info? 44).map (·.size) = some 17 := by kernel_rfl
theorem read1 (x : Nat) (h : x < 18446744073709551616) : bits .and .u64 (x : Int) 67108863 = ((x / 1 % 67108864 : Nat) : Int) := by rw [Nat.div_one]; exact and26 x h
theorem read4 (x : Nat) (h : x < 18446744073709551616) : bits .and .u64 ((x : Int) / 4) 67108863 = ((x / 4 % 67108864 : Nat) : Int) := and26 (x / 4) (by omega)
theorem read16 (x : Nat) (h : x < 18446744073709551616) : bits .and .u64 ((x : Int) / 16) 67108863 = ((x / 16 % 67108864 : Nat) : Int) := and26 (x / 16) (by omega)
theorem read64 (x : Nat) (h : x < 18446744073709551616) : bits .and .u64 ((x : Int) / 64) 67108863 = ((x / 64 % 67108864 : Nat) : Int) := and26 (x / 64) (by omega)
set_option maxRecDepth 100000 in
set_option maxHeartbeats 1000000 in
theorem read_over (b : List UInt8) (r : List Nat) (S : Nat → List Nat) (w : World) (HB : Hid (b.length = 17)) (HL : Hid (∀ k, k ≤ 5 → (S k).length = 5)) (H0 : Hid (S 0 = [0, 0, 0, 0, 0])) (HS : Hid (∀ k, k < 5 → S (k + 1) = (S k).set k (bigN ((b.drop (k * 26 / 8)).take 4).reverse / 2 ^ (k * 26 % 8) % 67108864))) (HR : Hid (S 5 = r)) :
    Calls Tryd.prog 14 #[hashVal b] w fun e w' => e = .returned (numVal r) ∧ Below w.heap.size w w' := by
  go_enter Tryd.func14, Tryd.ntmps14
  go_wp2_with (first
    | (refine take_step rfl 44 (.tmp 0) rfl b rfl ?_
       intro w1 hB1 hA1 hz
       clear hz)
    | (refine vzero_step (o := ⟨some 2, _, _, _, _, _⟩) rfl 41 rfl (nzeros 5) zero_num ?_
       intro w2 hb2 hZ2
       have hB2 := below_then hB1 hb2
       have hA2 := hA1.on hb2
       have hg1 := hA1.lt
       clear hB1 hA1 hb2)
    | (refine vzero_step (o := ⟨some 3, _, _, _, _, _⟩) rfl 41 rfl (nzeros 5) zero_num ?_
       intro w3 hb3 hS3
       have hB3 := below_then hB2 hb3
       have hA3 := hA2.on hb3
       have hZ3 := hZ2.on hb3
       have hg2 := hZ2.lt
       clear hB2 hA2 hZ2 hb3))
  generalize hg : w1.heap.size = gz at *
  generalize hh : w2.heap.size = gs at *
  clear hg hh
  go_loopw [9] (fun i wr => ∃ k : Nat, k ≤ 5 ∧ i = .int .i64 k ∧ Below w.heap.size w wr ∧ Cells wr w.heap.size (b.map cellOf) 44 ∧ Cells wr gz (nzeros 5) 41 ∧ Cells wr gs ((S k).map ncell) 41) (fun i _ => 5 - (intOf i).toNat)
  case atStart => exact ⟨0, Nat.zero_le _, rfl, hB3, hA3, hZ3, by rw [H0.out]; exact hS3⟩
  case round =>
    clear hB3 hA3 hZ3 hS3
    obtain ⟨k, hk, rfl, hB, hA, hZ, hS⟩ := hrel
    have HLk := Lib.hid (HL.out k hk)
    by_cases hlt : k < 5
    · have HN := Lib.hid (HS.out k hlt)
      obtain ⟨z, HZ⟩ : ∃ z, Hid (S (k + 1) = z) := ⟨_, rfl⟩
      rw [HZ.out] at HN
      generalize S k = s at *
      have hR : Row wr wr.heap.size (some ⟨w.heap.size, k * 26 / 8, none⟩) ((b.drop (k * 26 / 8)).take 4) := by
        have h := hA.all.piece (k * 26 / 8) 4
        rw [Nat.zero_add] at h
        exact h
      have HC := Lib.hid (little_few (some ⟨w.heap.size, k * 26 / 8, none⟩) (17 - k * 26 / 8) 4 _ wr (by rw [List.length_take, List.length_drop, HB.out]; omega) hR (by omega))
      have HX : Hid (bigN ((b.drop (k * 26 / 8)).take 4).reverse < 18446744073709551616) := by
        have h := bigN_lt ((b.drop (k * 26 / 8)).take 4).reverse
        have h2 : ((b.drop (k * 26 / 8)).take 4).reverse.length = 4 := by rw [List.length_reverse, List.length_take, List.length_drop, HB.out]; omega
        rw [h2] at h
        show _ < _
        omega
      generalize bigN ((b.drop (k * 26 / 8)).take 4).reverse = x at *
      clear hR HS HL H0 HR
      have hT := fun k (h : k < 5) => hS.there k 1 (by rw [List.length_map, HLk.out]; omega)
      have h0 := hS.set 0 (ncell (x / 1 % 67108864))
      have h1 := hS.set 1 (ncell (x / 4 % 67108864))
      have h2 := hS.set 2 (ncell (x / 16 % 67108864))
      have h3 := hS.set 3 (ncell (x / 64 % 67108864))
      have h4 := hS.set 4 (ncell (x / 1 % 67108864))
      rw [nset_map, ncell, ← read1 x HX.out] at h0 h4
      rw [nset_map, ncell, ← read4 x HX.out] at h1
      rw [nset_map, ncell, ← read16 x HX.out] at h2
      rw [nset_map, ncell, ← read64 x HX.out] at h3
      obtain ⟨h0, h1, h2, h3, h4⟩ : Hid _ ∧ Hid _ ∧ Hid _ ∧ Hid _ ∧ Hid _ := ⟨Lib.hid h0, Lib.hid h1, Lib.hid h2, Lib.hid h3, Lib.hid h4⟩
      rcases (show k = 0 ∨ k = 1 ∨ k = 2 ∨ k = 3 ∨ k = 4 by omega) with rfl | rfl | rfl | rfl | rfl
      all_goals
        simp only [Nat.zero_mul, Nat.reduceMul, Nat.reduceDiv, Nat.reduceSub, Nat.reduceMod, Nat.reducePow, Nat.zero_div, Nat.zero_mod, Nat.reduceAdd, Nat.sub_zero] at HC HN HZ
        go_wp2_with fail
        refine HC.out.mono ?_
        rintro e w4 ⟨rfl, rfl⟩
        clear HC
        go_wp2_with (first
          | (refine store_step rfl 39 _ _ rfl gs _ .u64 _ rfl rfl size_u64 (hT _ (by omega)) ?_
             intro w5 hw5
             have hB5 : Below w.heap.size w w5 := by rw [hw5]; exact hB.setCell (p := ⟨gs, _, none⟩) (by show w.heap.size ≤ gs; omega) _
             have hA5 : Cells w5 w.heap.size (b.map cellOf) 44 := by rw [hw5]; exact hA.other (by show w.heap.size ≠ gs; omega) _
             have hZ5 : Cells w5 gz (nzeros 5) 41 := by rw [hw5]; exact hZ.other (by show gz ≠ gs; omega) _
             have hS5 : Cells w5 gs (z.map ncell) 41 := by rw [hw5, HN.out]; first | exact h0.out | exact h1.out | exact h2.out | exact h3.out | exact h4.out

             clear hw5))
        go_roundw
        case rel =>
          rw [← HZ.out] at hS5
          first | exact ⟨1, by omega, rfl, hB5, hA5, hZ5, hS5⟩ | exact ⟨2, by omega, rfl, hB5, hA5, hZ5, hS5⟩ | exact ⟨3, by omega, rfl, hB5, hA5, hZ5, hS5⟩ | exact ⟨4, by omega, rfl, hB5, hA5, hZ5, hS5⟩ | exact ⟨5, by omega, rfl, hB5, hA5, hZ5, hS5⟩
        case measure => simp [intOf]
    · obtain rfl : k = 5 := by omega
      rw [HR.out] at hS HLk
      go_wp2_with (first
        | (refine vget_step rfl 41 _ rfl gs 5 (r.map ncell) 39 rfl hS Tryd.underlying41 size_num (by rw [List.length_map, HLk.out]) ?_)
        | (refine vset_step rfl 41 _ _ rfl gz 5 (nzeros 5) (r.map ncell) rfl rfl hZ rfl size_num (by rw [List.length_map, HLk.out]) (ncells_one r) ?_
           intro w7 hb7 hC7 _))
      refine vret Tryd.results14 gz (r.map ncell) rfl hC7 Tryd.underlying41 size_num (by rw [List.length_map, HLk.out]) rfl ⟨rfl, hB.trans (hb7.below (by omega) hB.size)⟩
theorem read_any (b : List UInt8) (w : World) (hb : b.length = 17) :
    Calls Tryd.prog 14 #[hashVal b] w fun e w' => e = .returned (numVal (limbsOf (lev b))) ∧ Below w.heap.size w w' :=
  read_over b _ (readTo (lev b)) w hb (fun k hk => readTo_length _ k hk) (readTo_zero _) (fun k hk => by rw [limb_window b hb k hk]; exact (readTo_next _ k hk).symm) (readTo_all _)
end Go.Proofs.YtiadgningbogmaaDoor
