/- Part 12 of what the laws of this seat share: TRead, TBeside, WFlat4. -/
import Derived.IntWalk
import Derived.Test.YtoggkhjaghkpnaaDoorPart11
namespace Go.Proofs.YtoggkhjaghkpnaaDoor
open Go.RowKit
set_option maxRecDepth 100000 in
set_option maxHeartbeats 4000000 in
theorem scRead_over (b : List UInt8) (r : List Nat) (S : Nat → List Nat) (w : World) (HB : Hid (b.length = 32)) (HL : Hid (∀ k, (S k).length = 8)) (H0 : Hid (S 0 = [0, 0, 0, 0, 0, 0, 0, 0])) (HS : Hid (∀ k, S (k + 1) = (S k).set k (bigN ((b.drop (4 * k)).take 4).reverse))) (HR : Hid (S 8 = r)) :
    Calls Tryd.prog 33 #[hashVal b] w (gvn (numVal r) w) := by
  go_enter Tryd.func33, Tryd.ntmps33
  go_wp2_with (first
    | (refine take_step rfl 23 (.tmp 0) rfl b rfl ?_
       intro w1 hB1 hA1 hz
       clear hz
       try simp only [putS]
       skip)
    | (refine vzero_step (o := ⟨some 2, _, _, _, _, _⟩) rfl 63 rfl (nzeros 8) zero_sn ?_
       intro w2 hb2 hZ2
       have hB2 := below_then hB1 hb2
       have hA2 := hA1.on hb2
       have hg1 := hA1.lt
       clear hB1 hA1 hb2
       try simp only [putS]
       skip)
    | (refine vzero_step (o := ⟨some 3, _, _, _, _, _⟩) rfl 63 rfl (nzeros 8) zero_sn ?_
       intro w3 hb3 hS3
       have hB3 := below_then hB2 hb3
       have hA3 := hA2.on hb3
       have hZ3 := hZ2.on hb3
       have hg2 := hZ2.lt
       clear hB2 hA2 hZ2 hb3
       try simp only [putS]
       skip))
  generalize hg : w1.heap.size = gz at *
  generalize hh : w2.heap.size = gs at *
  clear hg hh
  go_loopw [5] (fun i wr => ∃ k : Nat, k ≤ 8 ∧ i = .int .i64 k ∧ Below w.heap.size w wr ∧ Cells wr w.heap.size (b.map cellOf) 23 ∧ Cells wr gz (nzeros 8) 63 ∧ Cells wr gs ((S k).map ncell) 63) (fun i _ => 8 - (intOf i).toNat)
  case atStart => exact ⟨0, Nat.zero_le _, rfl, hB3, hA3, hZ3, by rw [H0.out]; exact hS3⟩
  case round =>
    clear hB3 hA3 hZ3 hS3
    obtain ⟨k, hk, rfl, hB, hA, hZ, hS⟩ := hrel
    have HLk := Lib.hid (HL.out k)
    by_cases hlt : k < 8
    · have HN := Lib.hid (HS.out k)
      obtain ⟨z, HZ⟩ := namedF (S (k + 1))
      rw [HZ.out] at HN
      generalize S k = s at *
      have hR : Row wr wr.heap.size (some ⟨w.heap.size, 4 * k, none⟩) ((b.drop (4 * k)).take 4) := by
        have h := hA.all.piece (4 * k) 4
        rw [Nat.zero_add] at h
        exact h
      have HC := Lib.hid (little_few (some ⟨w.heap.size, 4 * k, none⟩) (32 - 4 * k) 4 _ wr (by rw [List.length_take, List.length_drop, HB.out]; omega) hR (by omega))
      generalize bigN ((b.drop (4 * k)).take 4).reverse = x at *
      clear hR HS HL H0 HR
      have hT := hS.there k 1 (by rw [List.length_map, HLk.out]; omega)
      have hE := Lib.hid (hS.set k (ncell x))
      rcases (show k = 0 ∨ k = 1 ∨ k = 2 ∨ k = 3 ∨ k = 4 ∨ k = 5 ∨ k = 6 ∨ k = 7 by omega) with rfl | rfl | rfl | rfl | rfl | rfl | rfl | rfl
      all_goals
        simp only [Nat.mul_zero, Nat.reduceMul, Nat.reduceSub, Nat.reduceAdd, Nat.sub_zero] at HC HN HZ
        go_wp2_with fail
        refine HC.out.mono ?_
        rintro e w4 ⟨rfl, rfl⟩
        clear HC
        go_wp2_with (first
          | (refine store_step rfl 40 _ _ rfl gs _ .u64 _ rfl rfl size_u64 hT ?_
             intro w5 hw5
             have hB5 : Below w.heap.size w w5 := by rw [hw5]; exact hB.setCell (p := ⟨gs, _, none⟩) (by show w.heap.size ≤ gs; omega) _
             have hA5 : Cells w5 w.heap.size (b.map cellOf) 23 := by rw [hw5]; exact hA.other (by show w.heap.size ≠ gs; omega) _
             have hZ5 : Cells w5 gz (nzeros 8) 63 := by rw [hw5]; exact hZ.other (by show gz ≠ gs; omega) _
             have hS5 : Cells w5 gs (z.map ncell) 63 := by rw [hw5, HN.out, ← nset_map]; exact hE.out
             clear hw5))
        go_roundw
        case rel =>
          rw [← HZ.out] at hS5
          first | exact ⟨1, by omega, rfl, hB5, hA5, hZ5, hS5⟩ | exact ⟨2, by omega, rfl, hB5, hA5, hZ5, hS5⟩ | exact ⟨3, by omega, rfl, hB5, hA5, hZ5, hS5⟩ | exact ⟨4, by omega, rfl, hB5, hA5, hZ5, hS5⟩ | exact ⟨5, by omega, rfl, hB5, hA5, hZ5, hS5⟩ | exact ⟨6, by omega, rfl, hB5, hA5, hZ5, hS5⟩ | exact ⟨7, by omega, rfl, hB5, hA5, hZ5, hS5⟩ | exact ⟨8, by omega, rfl, hB5, hA5, hZ5, hS5⟩
        case measure => simp [intOf]
    · obtain rfl : k = 8 := by omega
      rw [HR.out] at hS HLk
      clear HL H0 HS hA
      go_wp2_with (first
        | (refine sget_step rfl 63 _ rfl gs 8 (r.map ncell) rfl hS Tryd.underlying63 rfl size_sn (by rw [List.length_map, HLk.out]) ?_)
        | (refine vset_step rfl 63 _ _ rfl gz 8 (nzeros 8) (r.map ncell) rfl rfl hZ rfl size_sn (by rw [List.length_map, HLk.out]) (ncells_one r) ?_
           intro w7 hb7 hC7 _))
      exact sret Tryd.results33 gz (r.map ncell) rfl hC7 Tryd.underlying63 rfl size_sn (by rw [List.length_map, HLk.out]) rfl ⟨rfl, hB.trans (hb7.below (by omega) hB.size)⟩
theorem scRead_any (b : List UInt8) (w : World) (hb : b.length = 32) : Calls Tryd.prog 33 #[hashVal b] w (gvn (numVal (nD (lev b))) w) :=
  scRead_over b _ (rdS b) w hb (fun k => (rdS_D8 b k).1) rfl (fun k => by show _ = _; rw [rdS, rdW, lev_rev]) (rdS_all b hb)
theorem splice_put4 (s p : List UInt8) (o : Nat) (hp : p.length = 4) : splice (s.map cellOf) o (p.map cellOf) = (s.take o ++ p ++ s.drop (o + 4)).map cellOf := by
  simp [splice, hp, List.map_take, List.map_drop]
set_option maxRecDepth 100000 in
set_option maxHeartbeats 4000000 in
theorem scWritten_over (n : List Nat) (r : List UInt8) (P : Nat → List UInt8) (w : World) (HN : Hid (n.length = 8 ∧ ∀ k, n.getD k 0 < 4294967296)) (H0 : Hid (P 0 = List.replicate 32 0)) (HL : Hid (∀ k, (P k).length = 32)) (HP : Hid (∀ k, k < 8 → P (k + 1) = (P k).take (4 * k) ++ putL (n.getD k 0) 4 ++ (P k).drop (4 * k + 4))) (HR : Hid (P 8 = r)) :
    Calls Tryd.prog 27 #[numVal n] w (gvn (hashVal r) w) := by
  have HRL : Hid (r.length = 32) := by show _ = _; rw [← HR.out]; exact HL.out 8
  go_enter Tryd.func27, Tryd.ntmps27
  go_wp2_with (first
    | (refine vtake_step rfl 63 (.tmp 0) rfl (n.map ncell) rfl ?_
       intro w1 hB1 hA1
       try simp only [putS]
       skip)
    | (refine zero_step (o := ⟨some 2, _, _, _, _, _⟩) rfl 23 rfl 32 zero_k32 ?_
       intro w2 hb2 hZ2 hz
       have hB2 := below_then hB1 hb2
       have hA2 := hA1.on hb2
       have hg1 := hA1.lt
       clear hB1 hA1 hb2 hz
       try simp only [putS]
       skip)
    | (refine zero_step (o := ⟨some 3, _, _, _, _, _⟩) rfl 23 rfl 32 zero_k32 ?_
       intro w3 hb3 hS3 hz
       have hB3 := below_then hB2 hb3
       have hA3 := hA2.on hb3
       have hZ3 := hZ2.on hb3
       have hg2 := hZ2.lt
       clear hB2 hA2 hZ2 hb3 hz
       try simp only [putS]
       skip)
    | (refine sget_step rfl 63 (.tmp 1) rfl w.heap.size 8 (n.map ncell) rfl hA3 Tryd.underlying63 rfl size_sn (by rw [List.length_map, HN.out.1]) ?_
       try simp only [putS]
       skip))
  generalize hg : w1.heap.size = gz at *
  generalize hh : w2.heap.size = gs at *
  clear hg hh hA3
  go_loopw [9] (fun i wr => ∃ k : Nat, k ≤ 8 ∧ i = .int .i64 k ∧ Below w.heap.size w wr ∧ Cells wr gz (List.replicate 32 (cellOf 0)) 23 ∧ Cells wr gs ((P k).map cellOf) 23) (fun i _ => 8 - (intOf i).toNat)
  case atStart => exact ⟨0, Nat.zero_le _, rfl, hB3, hZ3, by rw [H0.out, List.map_replicate]; exact hS3⟩
  case round =>
    clear hB3 hZ3 hS3
    obtain ⟨k, hk, rfl, hB, hZ, hS⟩ := hrel
    have HLk := Lib.hid (HL.out k)
    by_cases hlt : k < 8
    · have HPk := Lib.hid (HP.out k hlt)
      have hx := HN.out.2 k
      have HIX := Lib.hid (nat_at n k (by rw [HN.out.1]; exact hlt))
      obtain ⟨z, HZ⟩ := namedF (P (k + 1))
      rw [HZ.out] at HPk
      generalize n.getD k 0 = x at *
      have CP := Lib.hid (fun W => putLittle_in x 4 W (by omega) (by decide))
      have HRUN : ∀ W, (Instr.index 63 (.agg (n.map ncell).toArray) (.int .i64 (k : Int))).run Tryd.prog W = .ok (ncell x) W := fun W =>
        run_index_int (P := Tryd.prog) (t := 63) (n.map ncell) k (ncell x) W Tryd.underlying63 Tryd.underlying40 size_u64 hlt HIX.out
      generalize P k = s at *
      clear H0 HL HP HR HRL hx
      rcases (show k = 0 ∨ k = 1 ∨ k = 2 ∨ k = 3 ∨ k = 4 ∨ k = 5 ∨ k = 6 ∨ k = 7 by omega) with rfl | rfl | rfl | rfl | rfl | rfl | rfl | rfl
      all_goals
        simp only [Nat.mul_zero, Nat.reduceMul, Nat.reduceAdd, Nat.zero_add] at HPk HZ
        have hLs : (s.map cellOf).length = 32 := by rw [List.length_map, HLk.out]
        push_cast at HRUN
        go_wp2_with fail
        refine (CP.out wr).mono ?_
        rintro e w5 ⟨rfl, hb5, hM5⟩
        have hB5 := below_then hB hb5
        have hZ5 := hZ.on hb5
        have hS5 := hS.on hb5
        clear CP hB hZ hS hb5
        go_wp2_with (first
          | (refine copy_row rfl (.tmp 20) (.tmp 21) rfl gs _ _ _ 4 4 w5.heap.size 4 (some ⟨wr.heap.size, 0, none⟩) _ rfl rfl (putL_length _ _) (by decide) (hM5.row hM5.lt) (hS5.there _ 4 (by rw [hLs]; decide)) ?_
             intro w6 hw6
             rw [List.take_of_length_le (by rw [putL_length]; decide)] at hw6
             have hb6 : But gs w5 w6 := by rw [hw6]; exact (But.refl gs w5).setCells _ _
             have hS6 : Cells w6 gs (z.map cellOf) 23 := by
               rw [hw6, HPk.out, ← splice_put4 _ _ _ (putL_length _ 4)]
               exact hS5.setCells (by rw [List.length_map, putL_length, hLs]; decide)
             have hB6 := hB5.trans (hb6.below (by omega) hB5.size)
             have hZ6 := hZ5.but hb6 (by omega)
             clear hw6 hb6 hB5 hZ5 hS5 hM5))
        go_roundw
        case rel =>
          rw [← HZ.out] at hS6
          first | exact ⟨1, by omega, rfl, hB6, hZ6, hS6⟩ | exact ⟨2, by omega, rfl, hB6, hZ6, hS6⟩ | exact ⟨3, by omega, rfl, hB6, hZ6, hS6⟩ | exact ⟨4, by omega, rfl, hB6, hZ6, hS6⟩ | exact ⟨5, by omega, rfl, hB6, hZ6, hS6⟩ | exact ⟨6, by omega, rfl, hB6, hZ6, hS6⟩ | exact ⟨7, by omega, rfl, hB6, hZ6, hS6⟩ | exact ⟨8, by omega, rfl, hB6, hZ6, hS6⟩
        case measure => simp [intOf]
    · obtain rfl : k = 8 := by omega
      rw [HR.out] at hS
      go_wp2_with (first
        | (refine get_step rfl 23 _ rfl gs 32 r _ rfl hS Tryd.underlying23 size_k32 HRL.out ?_)
        | (refine set_step rfl 23 _ _ rfl gz 32 (List.replicate 32 (cellOf 0)) r rfl rfl hZ List.length_replicate size_k32 HRL.out ?_
           intro w7 hb7 hC7 _))
      exact ret_hash Tryd.results27 gz r rfl hC7 Tryd.underlying23 size_k32 HRL.out rfl ⟨rfl, hB.trans (hb7.below (by omega) hB.size)⟩
theorem scWritten_any (n : Nat) (w : World) : Calls Tryd.prog 27 #[numVal (nD n)] w (gvn (hashVal (putL n 32)) w) :=
  scWritten_over (nD n) _ (wtS n) w (nD_D8 n) (wtS_zero n) (wtS_length n) (wtS_next n) (wtS_all n)
theorem splice_head (x y : List Nat) (hx : x.length = 8) : splice (y.map ncell) 0 (x.map ncell) = (x ++ y.drop 8).map ncell := by
  simp [splice, hx, List.map_drop]
theorem splice_tail (x y : List Nat) (hx : x.length = 8) (hy : y.length = 16) : splice (y.map ncell) 8 (x.map ncell) = (y.take 8 ++ x).map ncell := by
  simp [splice, hx, hy, List.map_take]
set_option maxRecDepth 100000 in
set_option maxHeartbeats 2000000 in
theorem scBeside_over (l h m r z : List Nat) (w : World) (HL : Hid (l.length = 8)) (HH : Hid (h.length = 8)) (HZ : Hid (z = List.replicate 16 0)) (HM : Hid (l ++ z.drop 8 = m)) (HR : Hid (m.take 8 ++ h = r)) (HML : Hid (m.length = 16)) (HRL : Hid (r.length = 16)) :
    Calls Tryd.prog 50 #[numVal l, numVal h] w (gvn (numVal r) w) := by
  have HZZ : Hid (nzeros 16 = z.map ncell) := by show _ = _; rw [HZ.out, nzeros_map]
  have HZL : Hid (z.length = 16) := by show _ = _; rw [HZ.out, List.length_replicate]
  clear HZ
  go_enter Tryd.func50, Tryd.ntmps50
  go_wp2_with (first
    | (refine vtake_step rfl 63 (.tmp 0) rfl (l.map ncell) rfl ?_
       intro w1 hB1 hA1
       try simp only [putS]
       skip)
    | (refine vtake_step rfl 63 (.tmp 1) rfl (h.map ncell) rfl ?_
       intro w2 hb2 hC2
       have hB2 := below_then hB1 hb2
       have hA2 := hA1.on hb2
       have hg1 := hA1.lt
       clear hB1 hA1 hb2
       try simp only [putS]
       skip)
    | (refine vzero_step (o := ⟨some 4, _, _, _, _, _⟩) rfl 68 rfl (nzeros 16) zero_sr ?_
       intro w3 hb3 hZ3
       have hB3 := below_then hB2 hb3
       have hA3 := hA2.on hb3
       have hC3 := hC2.on hb3
       have hg2 := hC2.lt
       clear hB2 hA2 hC2 hb3
       try simp only [putS]
       skip)
    | (refine vzero_step (o := ⟨some 5, _, _, _, _, _⟩) rfl 68 rfl (nzeros 16) zero_sr ?_
       intro w4 hb4 hS4
       have hB4 := below_then hB3 hb4
       have hA4 := hA3.on hb4
       have hC4 := hC3.on hb4
       have hZ4 := hZ3.on hb4
       have hg3 := hZ3.lt
       rw [HZZ.out] at hS4
       clear hB3 hA3 hC3 hZ3 hb4
       try simp only [putS]
       skip))
  generalize hg : w1.heap.size = gh at *
  generalize hi : w2.heap.size = gz at *
  generalize hj : w3.heap.size = gs at *
  clear hg hi hj
  refine wp_region_tail 2 (by kernel_rfl) (by kernel_rfl) ?_
  intro w5 hw5
  have hB5 : Below w.heap.size w w5 := by rw [hw5]; exact hB4.drew
  have hA5 : Cells w5 w.heap.size (l.map ncell) 63 := by rw [hw5]; exact hA4
  have hC5 : Cells w5 gh (h.map ncell) 63 := by rw [hw5]; exact hC4
  have hZ5 : Cells w5 gz (nzeros 16) 68 := by rw [hw5]; exact hZ4
  have hS5 : Cells w5 gs (z.map ncell) 68 := by rw [hw5]; exact hS4
  clear hw5 hB4 hA4 hC4 hZ4 hS4
  simp only [List.take_succ_cons, List.take_zero, List.drop_succ_cons, List.drop_zero]
  repeat still_step
  refine wpStill_nil ?_
  go_wp2_with (first
    | (refine copy_cells rfl (.tmp 6) (.tmp 7) 117 40 Tryd.underlying117 size_u64 rfl gs 0 _ _ w.heap.size 0 _ _ 8 (l.map ncell) rfl rfl rfl (by rw [List.length_map, HL.out]) hA5.rangeAll (hS5.there 0 8 (by rw [List.length_map, HZL.out]; decide)) (by intro v hv; obtain ⟨x, _, rfl⟩ := List.mem_map.1 hv; rfl) ?_
       intro w6 hw6
       have hb6 : But gs w5 w6 := by rw [hw6]; exact (But.refl gs w5).setCells _ _
       have hS6 : Cells w6 gs (m.map ncell) 68 := by
         rw [hw6, ← HM.out, ← splice_head l z HL.out]
         exact hS5.setCells (by rw [List.length_map, List.length_map, HL.out, HZL.out]; decide)
       have hB6 := hB5.trans (hb6.below (by omega) hB5.size)
       have hC6 := hC5.but hb6 (by omega)
       have hZ6 := hZ5.but hb6 (by omega)
       clear hw6 hb6 hB5 hA5 hC5 hZ5 hS5
       try simp only [putS]
       skip))
  refine wp_region_tail 2 (by kernel_rfl) (by kernel_rfl) ?_
  intro w7 hw7
  have hB7 : Below w.heap.size w w7 := by rw [hw7]; exact hB6.drew
  have hC7 : Cells w7 gh (h.map ncell) 63 := by rw [hw7]; exact hC6
  have hZ7 : Cells w7 gz (nzeros 16) 68 := by rw [hw7]; exact hZ6
  have hS7 : Cells w7 gs (m.map ncell) 68 := by rw [hw7]; exact hS6
  clear hw7 hB6 hC6 hZ6 hS6
  simp only [List.take_succ_cons, List.take_zero, List.drop_succ_cons, List.drop_zero]
  repeat still_step
  refine wpStill_nil ?_
  go_wp2_with (first
    | (refine copy_cells rfl (.tmp 9) (.tmp 10) 117 40 Tryd.underlying117 size_u64 rfl gs 8 _ _ gh 0 _ _ 8 (h.map ncell) rfl rfl rfl (by rw [List.length_map, HH.out]) hC7.rangeAll (hS7.there 8 8 (by rw [List.length_map, HML.out]; decide)) (by intro v hv; obtain ⟨x, _, rfl⟩ := List.mem_map.1 hv; rfl) ?_
       intro w8 hw8
       have hb8 : But gs w7 w8 := by rw [hw8]; exact (But.refl gs w7).setCells _ _
       have hS8 : Cells w8 gs (r.map ncell) 68 := by
         rw [hw8, ← HR.out, ← splice_tail h m HH.out HML.out]
         exact hS7.setCells (by rw [List.length_map, List.length_map, HH.out, HML.out]; decide)
       have hB8 := hB7.trans (hb8.below (by omega) hB7.size)
       have hZ8 := hZ7.but hb8 (by omega)
       clear hw8 hb8 hB7 hC7 hZ7 hS7
       try simp only [putS]
       skip)
    | (refine sget_step rfl 68 _ rfl gs 16 (r.map ncell) rfl hS8 Tryd.underlying68 rfl size_sr (by rw [List.length_map, HRL.out]) ?_)
    | (refine vset_step rfl 68 _ _ rfl gz 16 (nzeros 16) (r.map ncell) rfl rfl hZ8 rfl size_sr (by rw [List.length_map, HRL.out]) (ncells_one r) ?_
       intro w9 hb9 hC9 _))
  exact sret Tryd.results50 gz (r.map ncell) rfl hC9 Tryd.underlying68 rfl size_sr (by rw [List.length_map, HRL.out]) rfl ⟨rfl, hB8.trans (hb9.below (by omega) hB8.size)⟩
theorem scBeside_any (l h : List Nat) (w : World) (hl : l.length = 8) (hh : h.length = 8) : Calls Tryd.prog 50 #[numVal l, numVal h] w (gvn (numVal (l ++ h)) w) := by
  refine scBeside_over l h (l ++ List.replicate 8 0) (l ++ h) (List.replicate 16 0) w hl hh rfl rfl ?_ (by show _ = _; rw [List.length_append, hl, List.length_replicate]) (by show _ = _; rw [List.length_append, hl, hh])
  show _ = _
  rw [List.take_append_of_le_length (by omega), List.take_of_length_le (by omega)]
set_option maxRecDepth 100000 in
set_option maxHeartbeats 4000000 in
theorem scProduct_over (a b q : List Nat) (S : Nat → List Nat) (V : Nat → Nat → List Nat × Nat) (w : World) (HA : Hid (a.length = 8 ∧ ∀ k, a.getD k 0 < 4294967296)) (HB : Hid (b.length = 8 ∧ ∀ k, b.getD k 0 < 4294967296)) (H0 : Hid (S 0 = z16))
    (HV0 : Hid (∀ i, V i 0 = (S i, 0))) (HVL : Hid (∀ i k, (V i k).1.length = 16 ∧ (∀ j, (V i k).1.getD j 0 < 4294967296) ∧ (V i k).2 < 4294967296)) (HVS : Hid (∀ i k, V i (k + 1) = ((V i k).1.set (i + k) ((a.getD i 0 * b.getD k 0 + (V i k).1.getD (i + k) 0 + (V i k).2) % 4294967296), (a.getD i 0 * b.getD k 0 + (V i k).1.getD (i + k) 0 + (V i k).2) / 4294967296)))
    (HS : Hid (∀ i, S (i + 1) = (V i 8).1.set (i + 8) (V i 8).2)) (HQ : Hid (S 8 = q)) (HQL : Hid (q.length = 16)) :
    Calls Tryd.prog 32 #[numVal a, numVal b] w (gvn (numVal q) w) := by
  go_enter Tryd.func32, Tryd.ntmps32
  go_wp2_with (first
    | (refine vtake_step rfl 63 (.tmp 0) rfl (a.map ncell) rfl ?_
       intro w1 hB1 hA1
       try simp only [putS]
       skip)
    | (refine vtake_step rfl 63 (.tmp 1) rfl (b.map ncell) rfl ?_
       intro w2 hb2 hC2
       have hB2 := below_then hB1 hb2
       have hA2 := hA1.on hb2
       have hg1 := hA1.lt
       clear hB1 hA1 hb2
       try simp only [putS]
       skip)
    | (refine vzero_step (o := ⟨some 4, _, _, _, _, _⟩) rfl 68 rfl (nzeros 16) zero_sr ?_
       intro w3 hb3 hZ3
       have hB3 := below_then hB2 hb3
       have hA3 := hA2.on hb3
       have hC3 := hC2.on hb3
       have hg2 := hC2.lt
       clear hB2 hA2 hC2 hb3
       try simp only [putS]
       skip)
    | (refine vzero_step (o := ⟨some 5, _, _, _, _, _⟩) rfl 68 rfl (nzeros 16) zero_sr ?_
       intro w4 hb4 hS4
       have hB4 := below_then hB3 hb4
       have hA4 := hA3.on hb4
       have hC4 := hC3.on hb4
       have hZ4 := hZ3.on hb4
       have hg3 := hZ3.lt
       clear hB3 hA3 hC3 hZ3 hb4
       try simp only [putS]
       skip))
  generalize hg : w1.heap.size = gb at *
  generalize hh : w2.heap.size = gz at *
  generalize hi : w3.heap.size = gs at *
  clear hg hh hi
  go_loopw [10] (fun i wr => ∃ k : Nat, k ≤ 8 ∧ i = .int .i64 k ∧ Below w.heap.size w wr ∧ Cells wr w.heap.size (a.map ncell) 63 ∧ Cells wr gb (b.map ncell) 63 ∧ Cells wr gz (nzeros 16) 68 ∧ Cells wr gs ((S k).map ncell) 68) (fun i _ => 8 - (intOf i).toNat)
  case atStart => exact ⟨0, Nat.zero_le _, rfl, hB4, hA4, hC4, hZ4, by rw [H0.out]; exact hS4⟩
  case round =>
    clear hB4 hA4 hC4 hZ4 hS4
    obtain ⟨i, hi, rfl, hB, hA, hC, hZ, hS⟩ := hrel
    by_cases hil : i < 8
    · have HVi0 := Lib.hid (HV0.out i)
      have HVLi := Lib.hid (HVL.out i)
      have HVSi := Lib.hid (HVS.out i)
      have HSi := Lib.hid (HS.out i)
      have hai := HA.out.2 i
      have HAI := Lib.hid (nat_at a i (by rw [HA.out.1]; exact hil))
      obtain ⟨nx, HNX⟩ := namedF (S (i + 1))
      rw [HNX.out] at HSi
      generalize V i = vv at *
      generalize S i = s0 at *
      generalize a.getD i 0 = p at *
      have hpI : (i : Int) < 8 := by omega
      clear HV0 HVL HVS HS HQ HQL H0
      go_wp2_with fail
      try rw [show decide ((i : Int) < 8) = true by simp; omega]
      go_loopw [7, 13] (fun v k wr => ∃ n : Nat, n ≤ 8 ∧ k = .int .i64 n ∧ v = .int .u64 ((vv n).2 : Int) ∧ Below w.heap.size w wr ∧ Cells wr w.heap.size (a.map ncell) 63 ∧ Cells wr gb (b.map ncell) 63 ∧ Cells wr gz (nzeros 16) 68 ∧ Cells wr gs ((vv n).1.map ncell) 68) (fun _ k _ => 8 - (intOf k).toNat)
      case atStart => exact ⟨0, Nat.zero_le _, rfl, by rw [HVi0.out]; rfl, hB, hA, hC, hZ, by rw [HVi0.out]; exact hS⟩
      case round =>
        clear hB hA hC hZ hS
        obtain ⟨k, hk, rfl, rfl, hB, hA, hC, hZ, hS⟩ := hrel
        have HLk := Lib.hid (HVLi.out k).1
        by_cases hlt : k < 8
        · have HN := Lib.hid (HVSi.out k)
          have ho := (HVLi.out k).2.2
          have hq := (HVLi.out k).2.1 (i + k)
          have hy := HB.out.2 k
          have d1 := hA.get HAI.out
          have d2 := hC.get (nat_at b k (by rw [HB.out.1]; omega))
          have d3 := hS.get (nat_at (vv k).1 (i + k) (by rw [HLk.out]; omega))
          obtain ⟨z, HZ⟩ := namedF (vv (k + 1))
          rw [HZ.out] at HN
          generalize (vv k).2 = o at *
          generalize (vv k).1 = s at *
          generalize b.getD k 0 = y at *
          generalize s.getD (i + k) 0 = u at *
          have hm : p * y ≤ 4294967295 * 4294967295 := Nat.mul_le_mul (by omega) (by omega)
          obtain ⟨x1, hx1⟩ : ∃ x1, x1 = p * y := ⟨_, rfl⟩
          have c4 : IntKind.u64.wrap ((p : Int) * (y : Int)) = (x1 : Int) := by rw [hx1]; exact wmul p y (by omega)
          rw [← hx1] at hm HN
          obtain ⟨x2, hx2⟩ : ∃ x2, x2 = x1 + u := ⟨_, rfl⟩
          have c5 : IntKind.u64.wrap ((u : Int) + (x1 : Int)) = (x2 : Int) := by rw [hx2, Nat.add_comm]; exact wadd u x1 (by omega)
          obtain ⟨x, hx⟩ : ∃ x, x = x2 + o := ⟨_, rfl⟩
          have c7 : IntKind.u64.wrap ((x2 : Int) + (o : Int)) = (x : Int) := by rw [hx]; exact wadd x2 o (by omega)
          have c6 := and32m x (by omega)
          rw [← hx2, ← hx] at HN
          obtain ⟨x3, hx3⟩ : ∃ x3, x3 = x / 4294967296 := ⟨_, rfl⟩
          have c8 : (x : Int) / 4294967296 = (x3 : Int) := by rw [hx3]; rfl
          rw [← hx3] at HN
          obtain ⟨v, HV⟩ := namedF (x % 4294967296)
          rw [HV.out] at HN c6
          have c9 : IntKind.i64.wrap ((i : Int) + (k : Int)) = (i : Int) + (k : Int) := IntWalk.i64_in _ (by omega)
          have i1 : (0 : Int) ≤ (k : Int) := by omega
          have i2 : (k : Int) < 8 := by omega
          have i3 : (0 : Int) ≤ (i : Int) + (k : Int) := by omega
          have i4 : (i : Int) + (k : Int) < 16 := by omega
          have i5 : ((i : Int) + (k : Int)).toNat = i + k := by omega
          have i6 : (0 : Int) ≤ (i : Int) := by omega
          clear hx1 hx2 hx hx3 HV hq hy ho hm HVi0 HVLi HVSi HSi
          go_wp2_with fail
          go_quiet (fail)
          have hB4 : Below w.heap.size w (wr.drewN nq) := ⟨hB.os, hB.tape, hB.output, hB.size, hB.block⟩
          have hA4 := hA.drewN nq
          have hC4 := hC.drewN nq
          have hZ4 := hZ.drewN nq
          have hS4 := hS.drewN nq
          generalize wr.drewN nq = w4 at *
          clear hB hA hC hZ hS d1 d2 d3
          have hT := hS4.there (i + k) 1 (by rw [List.length_map, HLk.out]; omega)
          have hE := Lib.hid (hS4.set (i + k) (ncell v))
          go_wp2_with (first
            | (refine store_step rfl 40 _ _ rfl gs (i + k) .u64 (v : Int) rfl rfl size_u64 hT ?_
               intro w5 hw5
               have hB5 : Below w.heap.size w w5 := by rw [hw5]; exact hB4.setCell (p := ⟨gs, i + k, none⟩) (by show w.heap.size ≤ gs; omega) _
               have hA5 : Cells w5 w.heap.size (a.map ncell) 63 := by rw [hw5]; exact hA4.other (by show w.heap.size ≠ gs; omega) _
               have hC5 : Cells w5 gb (b.map ncell) 63 := by rw [hw5]; exact hC4.other (by show gb ≠ gs; omega) _
               have hZ5 : Cells w5 gz (nzeros 16) 68 := by rw [hw5]; exact hZ4.other (by show gz ≠ gs; omega) _
               have hS5 : Cells w5 gs (z.1.map ncell) 68 := by rw [hw5, HN.out, ← nset_map]; exact hE.out
               clear hw5 hT hE hB4 hA4 hC4 hZ4 hS4))
          go_roundw
          case rel => first | exact ⟨k + 1, by omega, by go_num, by rw [HZ.out, HN.out], hB5, hA5, hC5, hZ5, by rw [HZ.out]; exact hS5⟩ | trace_state
          case measure => simp [intOf]; omega
        · obtain rfl : k = 8 := by omega
          have ho := (HVLi.out 8).2.2
          generalize (vv 8).2 = o at *
          generalize (vv 8).1 = s at *
          have c9 : IntKind.i64.wrap ((i : Int) + 8) = (i : Int) + 8 := IntWalk.i64_in _ (by omega)
          have i3 : (0 : Int) ≤ (i : Int) + 8 := by omega
          have i4 : (i : Int) + 8 < 16 := by omega
          have i5 : ((i : Int) + 8).toNat = i + 8 := by omega
          have i6 : (0 : Int) ≤ (i : Int) := by omega
          have i7 : IntKind.i64.wrap ((i : Int) + 1) = (i : Int) + 1 := IntWalk.i64_in _ (by omega)
          have hT := hS.there (i + 8) 1 (by rw [List.length_map, HLk.out]; omega)
          have hE := Lib.hid (hS.set (i + 8) (ncell o))
          clear HVi0 HVLi HVSi ho
          go_wp2_with (first
            | (refine store_step rfl 40 _ _ rfl gs (i + 8) .u64 (o : Int) rfl rfl size_u64 hT ?_
               intro w5 hw5
               have hB5 : Below w.heap.size w w5 := by rw [hw5]; exact hB.setCell (p := ⟨gs, i + 8, none⟩) (by show w.heap.size ≤ gs; omega) _
               have hA5 : Cells w5 w.heap.size (a.map ncell) 63 := by rw [hw5]; exact hA.other (by show w.heap.size ≠ gs; omega) _
               have hC5 : Cells w5 gb (b.map ncell) 63 := by rw [hw5]; exact hC.other (by show gb ≠ gs; omega) _
               have hZ5 : Cells w5 gz (nzeros 16) 68 := by rw [hw5]; exact hZ.other (by show gz ≠ gs; omega) _
               have hS5 : Cells w5 gs (nx.map ncell) 68 := by rw [hw5, HSi.out, ← nset_map]; exact hE.out
               clear hw5 hT hE hB hA hC hZ hS))
          go_roundw
          case rel => first | exact ⟨i + 1, by omega, by go_num, hB5, hA5, hC5, hZ5, by rw [HNX.out]; exact hS5⟩ | trace_state
          case measure => simp [intOf]; omega
    · obtain rfl : i = 8 := by omega
      rw [HQ.out] at hS
      clear HA HB HV0 HVL HVS HS HQ H0 hA hC
      go_wp2_with (first
        | (refine sget_step rfl 68 _ rfl gs 16 (q.map ncell) rfl hS Tryd.underlying68 rfl size_sr (by rw [List.length_map, HQL.out]) ?_)
        | (refine vset_step rfl 68 _ _ rfl gz 16 (nzeros 16) (q.map ncell) rfl rfl hZ rfl size_sr (by rw [List.length_map, HQL.out]) (ncells_one q) ?_
           intro w7 hb7 hC7 _))
      exact sret Tryd.results32 gz (q.map ncell) rfl hC7 Tryd.underlying68 rfl size_sr (by rw [List.length_map, HQL.out]) rfl ⟨rfl, hB.trans (hb7.below (by omega) hB.size)⟩
/-- A product's sixteen limbs. -/
def prR (n m : Nat) : List Nat := rowS (nD n) (nD m) 8
theorem prR_length (n m : Nat) : (prR n m).length = 16 := rowS_length _ _ _
theorem prR_lt (n m : Nat) : ∀ k, (prR n m).getD k 0 < 4294967296 := rowS_lt (nD_D8 n).2 (nD_D8 m).2 8
theorem prR_pre (n m : Nat) (hn : n < mm) (hm : m < mm) : pre (prR n m) 16 = n * m := by
  have hv := rowS_pre (nD n) (nD m) 8 (Nat.le_refl _)
  rw [pre_nD n hn, pre_nD m hm] at hv
  exact hv
theorem scProduct_any (n m : Nat) (w : World) : Calls Tryd.prog 32 #[numVal (nD n), numVal (nD m)] w (gvn (numVal (prR n m)) w) := by
  have ha := (nD_D8 n).2
  have hb := (nD_D8 m).2
  refine scProduct_over (nD n) (nD m) (prR n m) (rowS (nD n) (nD m)) (fun i => rowV (nD n) (nD m) (rowS (nD n) (nD m) i) i) w (nD_D8 n) (nD_D8 m) rfl (fun i => rfl) (fun i k => ?_) (fun i k => rowV_next _ _ _ i k) (fun i => rowS_next _ _ i) rfl (prR_length _ _)
  have h := rowV_lt ha hb (rowS_lt ha hb i) i k
  exact ⟨by rw [rowV_length, rowS_length], h.1, h.2⟩
section
variable {P : Program} {ops : Array Oper} {Q : Exit → Act → World → Prop} {md : Region.Mode} {L : List Nat}
/-- What is asked of a store into a new variable. -/
structure StoreS (P : Program) (md : Region.Mode) (ops : Array Oper) (L : List Nat) (vs : List Value) (news : List (Nat × Nat)) (t : TypeId) (zs : List Value) (p : Nat × Nat) (j : Nat) (l : List Value) : Prop where
  store : ∃ o v, ops[j]? = some o ∧ o.dst = none ∧ o.guard = none ∧ o.op = .store t (.tmp p.2) (.tmp v) ∧ waitsFor md ops j p.1 = true ∧ oldB news v = true ∧ okB md ops L j v = true ∧ vs.getD v undef = .agg l.toArray ∧ (P.info? t).map (·.size) = some l.length ∧ zs.length = l.length ∧ l.toArray.all (·.oneCell') = true
/-- What a new variable's block holds: what it is made with, or what was stored into it. -/
def curS (sv : Nat → Option (Nat × List Value)) (zs : Nat → List Value) (listed : Array Bool) (s : Nat) : List Value := match sv s with
  | some (j, l) => if listed.getD j false = true then l else zs s
  | none => zs s
structure FlatS (sv : Nat → Option (Nat × List Value)) (ops : Array Oper) (L : List Nat) (w0 : World) (ds : List Deferred) (vs : List Value) (news : List (Nat × Nat)) (t : Nat → TypeId) (zs : Nat → List Value) (listed : Array Bool) (a : Act) (w : World) : Prop where
  below : Below w0.heap.size w0 w
  size : a.tmps.size = vs.length
  defers : a.defers = ds
  fact : ∀ s, oldB news s = true → (∀ j ∈ L, dstIs ops j s = true → listed.getD j false = true) → a.tmps.getD s undef = vs.getD s undef
  made : ∀ p ∈ news, listed.getD p.1 false = true → ∃ g, w0.heap.size ≤ g ∧ a.tmps.getD p.2 undef = .pointer (some ⟨g, 0, none⟩) ∧ Cells w g (curS sv zs listed p.2) (t p.2)
  order : ∀ p ∈ news, ∀ j l, sv p.2 = some (j, l) → listed.getD j false = true → listed.getD p.1 false = true
  apart : ∀ p ∈ news, ∀ q ∈ news, p.2 ≠ q.2 → listed.getD p.1 false = true → listed.getD q.1 false = true → a.tmps.getD p.2 undef ≠ a.tmps.getD q.2 undef
theorem flatS_step {w0 : World} {ds : List Deferred} {vs : List Value} {news : List (Nat × Nat)} {t : Nat → TypeId} {zs : Nat → List Value} {sv : Nat → Option (Nat × List Value)} (hnL : ∀ p ∈ news, p.1 ∈ L) (hN : ∀ p ∈ news, NewM P ops L vs.length (t p.2) p) (hz : ∀ p ∈ news, ∀ w, (zeroValue (t p.2)).run P w = .ok (.agg (zs p.2).toArray) w) (hsv : ∀ p ∈ news, ∀ j l, sv p.2 = some (j, l) → StoreS P md ops L vs news (t p.2) (zs p.2) p j l) (huq : ∀ p ∈ news, ∀ q ∈ news, ∀ j l l', sv p.2 = some (j, l) → sv q.2 = some (j, l') → p.2 = q.2) {i : Nat} (hi : i ∈ L) (h : (∃ p ∈ news, p.1 = i) ∨ StepM P md ops Q L w0 vs news i ∨ ∃ p ∈ news, ∃ l, sv p.2 = some (i, l))
    (listed : Array Bool) (a : Act) (w : World) (hI : FlatS sv ops L w0 ds vs news t zs listed a w) (hr : i ∈ Region.ready md ops listed) : wpOp P ops Q i (FlatS sv ops L w0 ds vs news t zs (listed.setIfInBounds i true)) a w := by
  have hget : ∀ (s u : Nat) (v : Value), s ≠ u → (a.put (some s) v).tmps.getD u undef = a.tmps.getD u undef := fun s u v hne => put_getD_ne _ _ _ _ hne
  have hback : ∀ j, j ≠ i → (listed.setIfInBounds i true).getD j false = true → listed.getD j false = true := fun j hj hl => by
    rwa [getD_set_ne false (fun e => hj e.symm)] at hl
  have hilt : i < listed.size := by
    have h0 := (mem_ready.1 hr).1
    rcases Nat.lt_or_ge i listed.size with h | h
    · exact h
    · rw [Array.getD_eq_getD_getElem?, Array.getElem?_eq_none h] at h0; cases h0
  have hun : listed.getD i false = false := by
    have h0 := (mem_ready.1 hr).1
    simp [hilt] at h0 ⊢
    exact h0
  have hset : (listed.setIfInBounds i true).getD i false = true := by simp [hilt]
  have hmono : ∀ j, listed.getD j false = true → (listed.setIfInBounds i true).getD j false = true := fun j hj => by
    by_cases e : j = i
    · rw [e]; exact hset
    · rwa [getD_set_ne false (fun e2 => e e2.symm)]
  have hcur : ∀ s, (∀ j l, sv s = some (j, l) → j ≠ i) → curS sv zs (listed.setIfInBounds i true) s = curS sv zs listed s := fun s hs => by
    unfold curS
    split
    · rename_i j l hj
      rw [getD_set_ne false (fun e2 => hs j l hj e2.symm)]
    · rfl
  rcases h with ⟨p, hp, rfl⟩ | h | ⟨p, hp, l, hsp⟩
  · obtain ⟨o, ho, hd, hg, hop, hs, hone⟩ := (hN p hp).new
    rw [List.all_eq_true] at hone
    have hs' : p.2 < vs.length := by simpa [Nat.blt_eq] using hs
    have hb : Below w.heap.size w (w.alloc (.cells (zs p.2).toArray (t p.2))) := (Below.refl _ _).alloc (Nat.le_refl _) _
    have heq : (a.put (some p.2) (.pointer (some ⟨w.heap.size, 0, none⟩))).tmps.getD p.2 undef = .pointer (some ⟨w.heap.size, 0, none⟩) := put_getD_eq _ _ _ (by rw [hI.size]; exact hs')
    have hone2 : ∀ q ∈ news, q.2 = p.2 → q.1 = p.1 := fun q hq e => by
      obtain ⟨oq, hoq, hdq, _⟩ := (hN q hq).new
      have := hone q.1 (hnL q hq)
      simpa [dstIs, hoq, hdq, e] using this
    suffices hfin : FlatS sv ops L w0 ds vs news t zs (listed.setIfInBounds p.1 true) (a.put (some p.2) (.pointer (some ⟨w.heap.size, 0, none⟩))) (w.alloc (.cells (zs p.2).toArray (t p.2))) by
      refine wpOp_step ho fun K hK => ?_
      rw [if_pos (by simp [Region.wanted, hg])]
      have hfin2 := hK _ _ hfin
      rw [← hd] at hfin2
      unfold Oper.wp
      simp only [execOp, hop, Instr.alloc, hz p hp, newVar, Value.cells, Sem.run_bind, Sem.run_pure, Result.andThen_ok, go_sem]
      exact hfin2
    have hjne : ∀ q ∈ news, ∀ j l, sv q.2 = some (j, l) → j ≠ p.1 := fun q hq j l hj e => by
      obtain ⟨oj, v, hoj, hdj, _⟩ := (hsv q hq j l hj).store
      rw [e, ho] at hoj
      cases hoj
      rw [hd] at hdj
      cases hdj
    refine ⟨hI.below.trans (hb.mono hI.below.size), ?_, ?_, fun s hold hs2 => ?_, fun q hq hl => ?_, fun q hq j l hj hl => hmono _ (hI.order q hq j l hj (hback _ (hjne q hq j l hj) hl)), fun q hq q' hq' hne hl hl' => ?_⟩
    · rw [← hI.size]; simp [Act.put]
    · rw [← hI.defers]; rfl
    · have hne := oldB_ne hold p hp
      rw [hget _ _ _ hne]
      refine hI.fact s hold fun j hj hjs => ?_
      have h1 := hs2 j hj hjs
      refine hback j (fun e => ?_) h1
      rw [e] at hjs
      simp only [dstIs, ho, hd] at hjs
      exact hne (by simpa using hjs)
    · by_cases e : q.2 = p.2
      · have e3 : curS sv zs (listed.setIfInBounds p.1 true) q.2 = zs p.2 := by
          rw [hcur _ (hjne q hq), e]
          unfold curS
          split
          · rename_i j l hj
            rw [if_neg]
            intro hlj
            rw [hI.order p hp j l hj hlj] at hun
            cases hun
          · rfl
        rw [e3, e, heq]
        exact ⟨_, hI.below.size, rfl, Cells.new w _ _⟩
      · rw [hget _ _ _ (fun e2 => e e2.symm), hcur _ (hjne q hq)]
        obtain ⟨g, h1, h2, h3⟩ := hI.made q hq (hback _ (fun e2 => by
          obtain ⟨oq, hoq, hdq, _⟩ := (hN q hq).new
          rw [e2, ho] at hoq
          cases hoq
          rw [hd] at hdq
          exact e (by simpa using hdq.symm)) hl)
        exact ⟨g, h1, h2, h3.below hb h3.lt⟩
    · have key : ∀ r ∈ news, r.2 ≠ p.2 → (listed.setIfInBounds p.1 true).getD r.1 false = true → a.tmps.getD r.2 undef ≠ .pointer (some ⟨w.heap.size, 0, none⟩) := fun r hr2 hne2 hl2 e => by
        obtain ⟨g, h1, h2, h3⟩ := hI.made r hr2 (hback _ (fun e2 => by
          obtain ⟨oq, hoq, hdq, _⟩ := (hN r hr2).new
          rw [e2, ho] at hoq
          cases hoq
          rw [hd] at hdq
          exact hne2 (by simpa using hdq.symm)) hl2)
        rw [h2] at e
        have := h3.lt
        simp at e
        try omega
      have nl : ∀ r ∈ news, r.2 ≠ p.2 → (listed.setIfInBounds p.1 true).getD r.1 false = true → listed.getD r.1 false = true := fun r hr2 hne2 hl2 => hback _ (fun e2 => by
          obtain ⟨oq, hoq, hdq, _⟩ := (hN r hr2).new
          rw [e2, ho] at hoq
          cases hoq
          rw [hd] at hdq
          exact hne2 (by simpa using hdq.symm)) hl2
      by_cases e : q.2 = p.2
      · have e' : q'.2 ≠ p.2 := fun e2 => hne (e.trans e2.symm)
        rw [e, heq, hget _ _ _ (fun e2 => e' e2.symm)]
        exact fun h => key q' hq' e' hl' h.symm
      · by_cases e' : q'.2 = p.2
        · rw [e', heq, hget _ _ _ (fun e2 => e e2.symm)]
          exact key q hq e hl
        · rw [hget _ _ _ (fun e2 => e e2.symm), hget _ _ _ (fun e2 => e' e2.symm)]
          exact hI.apart q hq q' hq' hne (nl q hq e hl) (nl q' hq' e' hl')
  · obtain ⟨o, s, ho, hd, hs, hold, hone, hstep⟩ := h.step
    rw [List.all_eq_true] at hone
    have hs' : s < vs.length := by simpa [Nat.blt_eq] using hs
    have hnew := oldB_ne hold
    have hni : ∀ p ∈ news, p.1 ≠ i := fun p hp e => by
      obtain ⟨oq, hoq, hdq, _⟩ := (hN p hp).new
      rw [e, ho] at hoq
      cases hoq
      rw [hd] at hdq
      exact hnew p hp (by simpa using hdq.symm)
    refine wpOp_step ho fun K hK => ?_
    refine hstep a w K hI.below (fun u hu hou => hI.fact u hou fun j hj hjs => ?_) fun w' hb => hK _ _ ?_
    · rw [okB, List.all_eq_true] at hu
      have h1 := hu j hj
      rw [hjs] at h1
      exact ready_has hr (by simpa using h1)
    · rw [hd]
      have hjne : ∀ q ∈ news, ∀ j l, sv q.2 = some (j, l) → j ≠ i := fun q hq j l hj e => by
        obtain ⟨oj, v, hoj, hdj, _⟩ := (hsv q hq j l hj).store
        rw [e, ho] at hoj
        cases hoj
        rw [hd] at hdj
        cases hdj
      refine ⟨hI.below.trans (hb.mono hI.below.size), ?_, ?_, fun u hou hu => ?_, fun q hq hl => ?_, fun q hq j l hj hl => hmono _ (hI.order q hq j l hj (hback _ (hjne q hq j l hj) hl)), fun q hq q' hq' hne hl hl' => ?_⟩
      · rw [← hI.size]; simp [Act.put]
      · rw [← hI.defers]; rfl
      · by_cases e : s = u
        · subst e
          rw [put_getD_eq _ _ _ (by rw [hI.size]; exact hs')]
        · rw [hget _ _ _ e]
          refine hI.fact u hou fun j hj hju => ?_
          have h1 := hu j hj hju
          refine hback j (fun ej => ?_) h1
          rw [ej] at hju
          simp only [dstIs, ho, hd] at hju
          exact e (by simpa using hju)
      · rw [hget _ _ _ (fun e => hnew q hq e.symm), hcur _ (hjne q hq)]
        obtain ⟨g, h1, h2, h3⟩ := hI.made q hq (hback _ (hni q hq) hl)
        exact ⟨g, h1, h2, h3.below hb h3.lt⟩
      · rw [hget _ _ _ (fun e => hnew q hq e.symm), hget _ _ _ (fun e => hnew q' hq' e.symm)]
        exact hI.apart q hq q' hq' hne (hback _ (hni q hq) hl) (hback _ (hni q' hq') hl')
  · obtain ⟨o, v, ho, hd, hg, hop, hw, hov, hok, hval, hsz, hzl, h1c⟩ := (hsv p hp i l hsp).store
    have hlp : listed.getD p.1 false = true := ready_has hr hw
    obtain ⟨g, hge, hpt, hC⟩ := hI.made p hp hlp
    have hcz : curS sv zs listed p.2 = zs p.2 := by
      unfold curS
      rw [hsp]
      simp [hun]
    rw [hcz] at hC
    have hv : a.tmps.getD v undef = .agg l.toArray := by
      rw [← hval]
      refine hI.fact v hov fun j hj hjs => ?_
      rw [okB, List.all_eq_true] at hok
      have h1 := hok j hj
      rw [hjs] at h1
      exact ready_has hr (by simpa using h1)
    have hne : ∀ q ∈ news, q.2 ≠ p.2 → ∀ j l', sv q.2 = some (j, l') → j ≠ i := fun q hq hne j l' hj e => by
      subst e
      exact hne (huq q hq p hp j l' l hj hsp)
    have hC2 := hC.setCells (cs := l) (o := 0) (by omega)
    rw [splice_all _ _ (by omega)] at hC2
    refine wpOp_step ho fun K hK => ?_
    rw [if_pos (by simp [Region.wanted, hg])]
    refine wp_store_mid (t p.2) (.tmp p.2) (.tmp v) hop g 0 l.toArray hpt hv (by rw [List.size_toArray]; exact hC.there 0 _ (by omega)) (by rw [List.size_toArray]; exact hsz) h1c ?_
    rw [hd]
    refine hK _ _ ⟨below_setCells hI.below hge _ _, hI.size, hI.defers, fun s hold hs2 => hI.fact s hold fun j hj hjs => hback j (fun e => ?_) (hs2 j hj hjs), fun q hq hl => ?_, fun q hq j l' hj hl => ?_, fun q hq q' hq' hne2 hl hl' => hI.apart q hq q' hq' hne2 ?_ ?_⟩
    · rw [e] at hjs
      simp [dstIs, ho, hd] at hjs
    · by_cases e : q.2 = p.2
      · have e3 : curS sv zs (listed.setIfInBounds i true) q.2 = l := by
          unfold curS
          rw [e, hsp]
          simp only [hset, if_true]
        rw [e3, e]
        exact ⟨g, hge, hpt, hC2⟩
      · rw [hcur _ (hne q hq e)]
        have hlq : listed.getD q.1 false = true := by
          refine hback _ (fun e2 => ?_) hl
          obtain ⟨oq, hoq, hdq, _⟩ := (hN q hq).new
          rw [e2, ho] at hoq
          cases hoq
          rw [hd] at hdq
          cases hdq
        obtain ⟨g', h1, h2, h3⟩ := hI.made q hq hlq
        refine ⟨g', h1, h2, h3.otherCells (fun e2 => ?_) _ _⟩
        have h4 := hI.apart q hq p hp e hlq hlp
        rw [h2, hpt, e2] at h4
        exact h4 rfl
    · by_cases e : q.2 = p.2
      · have hq1 : q.1 = p.1 := by
          obtain ⟨oq, hoq, hdq, hgq, hopq, hsq, honeq⟩ := (hN q hq).new
          rw [List.all_eq_true] at honeq
          obtain ⟨op, hop2, hdp, _⟩ := (hN p hp).new
          have := honeq p.1 (hnL p hp)
          have h5 : p.1 = q.1 := by simpa [dstIs, hop2, hdp, e] using this
          exact h5.symm
        rw [hq1]
        exact hmono _ hlp
      · exact hmono _ (hI.order q hq j l' hj (hback _ (hne q hq e j l' hj) hl))
    all_goals
      refine hback _ (fun e2 => ?_) (by assumption)
      first
      | (obtain ⟨oq, hoq, hdq, _⟩ := (hN q hq).new
         rw [e2, ho] at hoq
         cases hoq
         rw [hd] at hdq
         cases hdq
         done)
      | (obtain ⟨oq, hoq, hdq, _⟩ := (hN q' hq').new
         rw [e2, ho] at hoq
         cases hoq
         rw [hd] at hdq
         cases hdq)
theorem wpAny_flatS (hB : flatB md ops L = true) (w0 : World) (a0 : Act) (vs : List Value) (news : List (Nat × Nat)) (t : Nat → TypeId) (zs : Nat → List Value) (sv : Nat → Option (Nat × List Value)) (keep : List Nat) (hkeep : ((List.range vs.length).all fun s => keep.contains s || L.any fun j => dstIs ops j s && Nat.blt j ops.size) = true)
    (hnL : (news.all fun p => L.contains p.1) = true) (hN : ∀ p ∈ news, NewM P ops L vs.length (t p.2) p) (hz : ∀ p ∈ news, ∀ w, (zeroValue (t p.2)).run P w = .ok (.agg (zs p.2).toArray) w)
    (hsv : ∀ p ∈ news, ∀ j l, sv p.2 = some (j, l) → StoreS P md ops L vs news (t p.2) (zs p.2) p j l ∧ j ∈ L) (huq : ∀ p ∈ news, ∀ q ∈ news, ∀ j l l', sv p.2 = some (j, l) → sv q.2 = some (j, l') → p.2 = q.2)
    (hk : ∀ s ∈ keep, a0.tmps.getD s undef = vs.getD s undef) (hsz : a0.tmps.size = vs.length) (hstep : ∀ i ∈ L, (∃ p ∈ news, p.1 = i) ∨ StepM P md ops Q L w0 vs news i ∨ ∃ p ∈ news, ∃ l, sv p.2 = some (i, l)) (rem : Nat) (hrem : rem + (fullOf ops.size L).toList.countP id = ops.size)
    (hend : ∀ w (g : Nat → Nat), Below w0.heap.size w0 w → (∀ p ∈ news, w0.heap.size ≤ g p.2 ∧ Cells w (g p.2) ((sv p.2).elim (zs p.2) (·.2)) (t p.2)) → (∀ p ∈ news, ∀ q ∈ news, p.2 ≠ q.2 → g p.2 ≠ g q.2) → wpAny P md ops Q rem (fullOf ops.size L) ⟨(withNew g news vs).toArray, a0.defers⟩ w) : wpAny P md ops Q ops.size (Array.replicate ops.size false) a0 w0 := by
  rw [List.all_eq_true] at hkeep hnL
  have hnL' : ∀ p ∈ news, p.1 ∈ L := fun p hp => by simpa using hnL p hp
  have hno : ∀ j, (Array.replicate ops.size false).getD j false = false := fun j => by
    by_cases h : j < ops.size <;> simp [h]
  have h0 : (Array.replicate ops.size false).toList.countP id = 0 := by simp [List.countP_replicate]
  refine wpAny_flat hB (FlatS sv ops L w0 a0.defers vs news t zs) (fun i hi => flatS_step hnL' hN hz (fun p hp j l h => (hsv p hp j l h).1) huq hi (hstep i hi)) rem hrem (fun a w hI => ?_) ops.size _ a0 w0 ⟨by simp, fun j hj => ?_, fun i j hi => ?_⟩ (by omega) ⟨Below.refl _ _, hsz, rfl, fun s hold hs => ?_, fun p hp hl => ?_, fun p hp j l _ hl => ?_, fun p hp q hq _ hl => ?_⟩
  · have hful : ∀ j ∈ L, j < ops.size → (fullOf ops.size L).getD j false = true := fun j hj hlt => by simp [fullOf, hlt, hj]
    have hnew : ∀ p ∈ news, (fullOf ops.size L).getD p.1 false = true := fun p hp => by
      obtain ⟨o, ho, _⟩ := (hN p hp).new
      exact hful _ (hnL' p hp) (Array.getElem?_eq_some_iff.1 ho).1
    have hcur : ∀ p ∈ news, curS sv zs (fullOf ops.size L) p.2 = (sv p.2).elim (zs p.2) (·.2) := fun p hp => by
      unfold curS
      split
      · rename_i j l hj
        have h := hsv p hp j l hj
        obtain ⟨o, v, ho, _⟩ := h.1.store
        rw [if_pos (hful j h.2 (Array.getElem?_eq_some_iff.1 ho).1), hj]; rfl
      · rename_i hj
        rw [hj]; rfl
    have hg : ∃ g : Nat → Nat, ∀ p ∈ news, w0.heap.size ≤ g p.2 ∧ a.tmps.getD p.2 undef = .pointer (some ⟨g p.2, 0, none⟩) ∧ Cells w (g p.2) ((sv p.2).elim (zs p.2) (·.2)) (t p.2) := by
      refine ⟨fun s => blk (a.tmps.getD s undef), fun p hp => ?_⟩
      obtain ⟨g, h1, h2, h3⟩ := hI.made p hp (hnew p hp)
      have hb : blk (a.tmps.getD p.2 undef) = g := by rw [h2]; rfl
      show w0.heap.size ≤ blk (a.tmps.getD p.2 undef) ∧ a.tmps.getD p.2 undef = .pointer (some ⟨blk (a.tmps.getD p.2 undef), 0, none⟩) ∧ Cells w (blk (a.tmps.getD p.2 undef)) ((sv p.2).elim (zs p.2) (·.2)) (t p.2)
      rw [hb, ← hcur p hp]
      exact ⟨h1, h2, h3⟩
    obtain ⟨g, hg⟩ := hg
    rw [frame_is (vs := withNew g news vs) (by rw [withNew_length]; exact hI.size) hI.defers fun s => ?_]
    · refine hend w g hI.below (fun p hp => ⟨(hg p hp).1, (hg p hp).2.2⟩) fun p hp q hq hne e => hI.apart p hp q hq hne (hnew p hp) (hnew q hq) ?_
      rw [(hg p hp).2.1, (hg q hq).2.1, e]
    · by_cases ho : oldB news s = true
      · rw [withNew_old g s news vs ho]
        refine hI.fact s ho fun j hj hjs => hful j hj ?_
        unfold dstIs at hjs
        rcases Nat.lt_or_ge j ops.size with h | h
        · exact h
        · rw [Array.getElem?_eq_none h] at hjs; cases hjs
      · have hex : ∃ p ∈ news, p.2 = s := by
          refine Classical.byContradiction fun hc => ho ?_
          rw [oldB, List.all_eq_true]
          intro q hq
          cases hb : Nat.beq q.2 s with
          | false => rfl
          | true => exact absurd ⟨q, hq, Nat.eq_of_beq_eq_true hb⟩ hc
        obtain ⟨p, hp, e⟩ := hex
        obtain ⟨o, _, _, _, _, hlt, _⟩ := (hN p hp).new
        rw [withNew_new g s news vs (by rw [← e]; simpa [Nat.blt_eq] using hlt) ⟨p, hp, e⟩, ← e]
        exact (hg p hp).2.1
  · rw [hno] at hj; cases hj
  · rw [hno] at hi; cases hi
  · rcases Nat.lt_or_ge s vs.length with h | h
    · have h1 := hkeep s (List.mem_range.2 h)
      rw [Bool.or_eq_true, List.contains_iff_mem, List.any_eq_true] at h1
      rcases h1 with h1 | ⟨j, hj, h1⟩
      · exact hk s h1
      · rw [Bool.and_eq_true] at h1
        have := hs j hj h1.1
        rw [hno] at this; cases this
    · simp [Array.getElem?_eq_none (show a0.tmps.size ≤ s by omega), h]
  · rw [hno] at hl; cases hl
  · rw [hno] at hl; cases hl
  · rw [hno] at hl; cases hl
end
end Go.Proofs.YtoggkhjaghkpnaaDoor
