/- Part 13 of what the laws of this seat share: ATimes, ANegate, Frame, WOpen, WOpen2, WOpen3, WKey, TLaw. -/
import Derived.StillTail
import Derived.StillTailTactics
import Derived.Test.YticgkabamelddaaDoorCards
import Derived.Test.YticgkabamelddaaDoorTie
import Derived.WalkKit
import Derived.ProofKit
import Derived.OpenShut
import Derived.ShutString
import Derived.LaidMore
import Derived.Deep.DeepHandedRow
import Derived.Deep.DeepWitnessRowRef
import Derived.Deep.Matrix
import Derived.Deep.Strs
import Derived.Deep.WholeRow
import Derived.Lib.LaidTab
import Derived.Test.YticgkabamelddaaDoorPart12
namespace Go.Proofs.YticgkabamelddaaDoor
open Go.RowKit
set_option maxRecDepth 100000 in
set_option maxHeartbeats 4000000 in
theorem refTimes11_over (a b : List UInt8) (M : Nat → Nat → List Nat) (ds : List Nat) (O Y : Nat → Nat) (S : Nat) (w : World) (HA : Hid (a.length = 32)) (HB : Hid (b.length = 32)) (HM0 : Hid (M 0 0 = List.replicate 65 0)) (HMN : Hid (∀ i, M (i + 1) 0 = M i 32)) (HMS : Hid (∀ i j, i < 32 → j < 32 → M i (j + 1) = (M i j).set (i + j) ((M i j).getD (i + j) 0 + (a.getD i 0).toNat * (b.getD j 0).toNat)))
    (HML : Hid (∀ i j, (M i j).length = 65)) (HMB : Hid (∀ i j, i < 32 → (M i j).getD (i + j) 0 ≤ 100000000)) (HDS : Hid (M 32 0 = ds)) (HDL : Hid (ds.length = 65)) (HXB : Hid (∀ k, ds.getD k 0 ≤ 100000000))
    (H0 : Hid (O 0 = 0)) (HL : Hid (∀ k, k ≤ 65 → O k ≤ 100000000)) (HY : Hid (∀ k, k < 65 → O k + ds.getD k 0 = Y k)) (HO : Hid (∀ k, k < 65 → O (k + 1) = Y k / 256)) (HD : Hid (∀ k, k < 65 → Y k % 256 = (byteAt S k).toNat)) (HS : Hid (lev (putL S 65) = S)) :
    Calls Tryd.prog 14 #[hashVal a, hashVal b] w fun e w' => e = .returned (hashVal (putL (S % NP.LL) 32)) ∧ Below w.heap.size w w' := by
  obtain ⟨rs, HRS⟩ := named (putL (S % NP.LL) 32)
  have HRL : Hid (rs.length = 32) := by show _ = _; rw [← HRS.out]; exact putL_length _ _
  rw [HRS.out]
  have hmk := make_ints 65 (by decide)
  rw [show ((65 : Nat) : Int) = 65 from rfl] at hmk
  go_enter Tryd.func14, Tryd.ntmps14
  go_wp2_with (first
    | (refine take_step rfl 24 (.tmp 0) rfl a rfl ?_
       intro w1 hB1 hA1 hz
       clear hz
       try simp only [Act.put, List.setIfInBounds_toArray, List.set_cons_zero, List.set_cons_succ]
       skip)
    | (refine take_step rfl 24 (.tmp 1) rfl b rfl ?_
       intro w2 hb2 hC2 hz
       have hB2 := below_then hB1 hb2
       have hA2 := hA1.on hb2
       have hlt1 := hA1.lt
       clear hz hB1 hA1 hb2
       try simp only [Act.put, List.setIfInBounds_toArray, List.set_cons_zero, List.set_cons_succ]
       skip)
    | (refine vzero_step (o := ⟨some 4, _, _, _, _, _⟩) rfl 24 rfl (List.replicate 32 (cellOf 0)) zero_a32 ?_
       intro w3 hb3 hZ3
       have hB3 := below_then hB2 hb3
       have hA3 := hA2.on hb3
       have hC3 := hC2.on hb3
       have hlt2 := hC2.lt
       have hlt3 := hZ3.lt
       clear hB2 hA2 hC2 hb3))
  have hD4 : Cells (w3.alloc (.cells (izeros 65).toArray 3)) w3.heap.size ((M 0 0).map icell) 3 := by rw [HM0.out, ← izeros_map]; exact Cells.new _ _ _
  have hA4 := hA3.alloc (.cells (izeros 65).toArray 3)
  have hC4 := hC3.alloc (.cells (izeros 65).toArray 3)
  have hZ4 := hZ3.alloc (.cells (izeros 65).toArray 3)
  have hB4 : Below w.heap.size w (w3.alloc (.cells (izeros 65).toArray 3)) := hB3.alloc hB3.size _
  generalize w3.alloc (.cells (izeros 65).toArray 3) = w4 at *
  generalize w3.heap.size = g3 at *
  generalize w2.heap.size = g2 at *
  generalize w1.heap.size = g1 at *
  clear hA3 hC3 hZ3 hB3 hmk
  go_loopw [6, 7] (fun i _ wr => ∃ k : Nat, k ≤ 32 ∧ i = .int .i64 (k : Int) ∧ Below w.heap.size w wr ∧ Cells wr w.heap.size (a.map cellOf) 24 ∧ Cells wr g1 (b.map cellOf) 24 ∧ Cells wr g2 (List.replicate 32 (cellOf 0)) 24 ∧ Cells wr g3 ((M k 0).map icell) 3) (fun i _ _ => 32 - (intOf i).toNat)
  case atStart => exact ⟨0, Nat.zero_le _, rfl, hB4, hA4, hC4, hZ4, hD4⟩
  case round =>
    clear hB4 hA4 hC4 hZ4 hD4
    obtain ⟨k, hk, rfl, hB, hA, hC, hZ, hD⟩ := hrel
    by_cases hlt : k < 32
    · have i1 : (0 : Int) ≤ (k : Int) := by omega
      have i2 : (k : Int) < 32 := by omega
      have hMS := fun j => HMS.out k j hlt
      have hMB := fun j => HMB.out k j hlt
      have HMk := Lib.hid hMS
      have HMBk := Lib.hid hMB
      have HAk := Lib.hid (key_at a k (by rw [HA.out]; exact hlt))
      clear hMS hMB HMS HMB
      generalize a.getD k 0 = x at *
      go_wp2_with fail
      go_loopw [7] (fun j wr => ∃ m : Nat, m ≤ 32 ∧ j = .int .i64 (m : Int) ∧ Below w.heap.size w wr ∧ Cells wr w.heap.size (a.map cellOf) 24 ∧ Cells wr g1 (b.map cellOf) 24 ∧ Cells wr g2 (List.replicate 32 (cellOf 0)) 24 ∧ Cells wr g3 ((M k m).map icell) 3) (fun j _ => 32 - (intOf j).toNat)
      case atStart => exact ⟨0, Nat.zero_le _, rfl, hB, hA, hC, hZ, hD⟩
      case round =>
        clear hB hA hC hZ hD
        obtain ⟨m, hm, rfl, hB, hA, hC, hZ, hD⟩ := hrel
        by_cases hltm : m < 32
        · have i3 : (0 : Int) ≤ (m : Int) := by omega
          have i4 : (m : Int) < 32 := by omega
          have HLk := Lib.hid (HML.out k m)
          have HSk := Lib.hid (HMk.out m hltm)
          have hb1 := HMBk.out m
          have d2 := hC.get (key_at b m (by rw [HB.out]; exact hltm))
          have d1 := hA.get HAk.out
          have d3 := hD.get (int_at (M k m) (k + m) (by rw [HLk.out]; omega))
          obtain ⟨sn, HSN⟩ := named (M k (m + 1))
          rw [HSN.out] at HSk
          have hx := x.toNat_lt
          have hy := (b.getD m 0).toNat_lt
          have hxy : x.toNat * (b.getD m 0).toNat ≤ 255 * 255 := Nat.mul_le_mul (by omega) (by omega)
          generalize b.getD m 0 = y at *
          generalize M k m = s at *
          generalize s.getD (k + m) 0 = z at *
          have q3 : (x.toNat : Int) * (y.toNat : Int) = ((x.toNat * y.toNat : Nat) : Int) := (Int.natCast_mul _ _).symm
          have j1 : IntKind.i64.wrap ((x.toNat : Int) * (y.toNat : Int)) = ((x.toNat * y.toNat : Nat) : Int) := by rw [q3]; exact IntWalk.i64_in _ (by omega)
          have HJ1 := Lib.hid j1
          clear q3 j1
          obtain ⟨xy, HXY⟩ := named (x.toNat * y.toNat)
          rw [HXY.out] at HJ1 HSk hxy
          have j1 := HJ1.out
          have j0 : IntKind.i64.wrap (x.toNat : Int) = (x.toNat : Int) := IntWalk.i64_in _ (by omega)
          have j00 : IntKind.i64.wrap (y.toNat : Int) = (y.toNat : Int) := IntWalk.i64_in _ (by omega)
          have i5 : (0 : Int) ≤ (k : Int) + (m : Int) := by omega
          have i6 : (k : Int) + (m : Int) < 65 := by omega
          have i7 : ((k : Int) + (m : Int)).toNat = k + m := by omega
          have i8 : IntKind.i64.wrap ((k : Int) + (m : Int)) = (k : Int) + (m : Int) := IntWalk.i64_in _ (by omega)
          obtain ⟨v, hv⟩ : ∃ v, v = z + xy := ⟨_, rfl⟩
          rw [← hv] at HSk
          have j2 : IntKind.i64.wrap ((z : Int) + (xy : Int)) = (v : Int) := by rw [hv, IntWalk.i64_in _ (by omega)]; omega
          clear hv hx hy hxy hb1
          go_wp2_with fail
          refine wp_region_tail 16 (by kernel_rfl) (by kernel_rfl) ?_
          intro w4 hw4
          have hB4 : Below w.heap.size w w4 := by rw [hw4]; exact hB.drew
          have hA4 : Cells w4 w.heap.size (a.map cellOf) 24 := by rw [hw4]; exact hA
          have hC4 : Cells w4 g1 (b.map cellOf) 24 := by rw [hw4]; exact hC
          have hZ4 : Cells w4 g2 (List.replicate 32 (cellOf 0)) 24 := by rw [hw4]; exact hZ
          have hD4 : Cells w4 g3 (s.map icell) 3 := by rw [hw4]; exact hD
          have e1 : w4.cell? ⟨w.heap.size, k, none⟩ = some (cellOf x) := by rw [hw4]; exact d1
          have e2 : w4.cell? ⟨g1, m, none⟩ = some (cellOf y) := by rw [hw4]; exact d2
          have e3 : w4.cell? ⟨g3, k + m, none⟩ = some (icell z) := by rw [hw4]; exact d3
          clear hw4 hB hA hC hZ hD d1 d2 d3
          simp only [List.take_succ_cons, List.take_zero, List.drop_succ_cons, List.drop_zero]
          repeat still_step
          refine wpStill_nil ?_
          have e4 := hD4.frozen (k + m)
          have hE := Lib.hid (hD4.set (k + m) (icell v))
          go_wp2_with fail
          go_roundw
          case rel => exact ⟨m + 1, by omega, by go_num, hB4.setCell (p := ⟨g3, k + m, none⟩) (by show w.heap.size ≤ g3; omega) _, hA4.other (by show w.heap.size ≠ g3; omega) _, hC4.other (by show g1 ≠ g3; omega) _, hZ4.other (by show g2 ≠ g3; omega) _, by rw [HSN.out, HSk.out, List.map_set]; exact hE.out⟩
          case measure => simp [intOf] <;> omega
        · obtain rfl : m = 32 := by omega
          rw [show ((32 : Nat) : Int) = 32 from rfl]
          have i3 : IntKind.i64.wrap ((k : Int) + 1) = (k : Int) + 1 := IntWalk.i64_in _ (by omega)
          go_wp2_with fail
          go_roundw
          case rel => exact ⟨k + 1, by omega, by go_num, hB, hA, hC, hZ, by rw [HMN.out]; exact hD⟩
          case measure => simp [intOf] <;> omega
    · obtain rfl : k = 32 := by omega
      rw [show ((32 : Nat) : Int) = 32 from rfl]
      rw [HDS.out] at hD
      have hOw : Owns (wr.alloc (.cells #[] 5)) wr.heap.size (.slice (some ⟨wr.heap.size, 0, none⟩) 0 0) [] := Owns.lit wr [] (Nat.le_refl _) (by decide)
      clear HM0 HMN HMS HML HMB HDS hA hC HA HB
      have hB5 : Below w.heap.size w (wr.alloc (.cells #[] 5)) := hB.alloc hB.size _
      have hZ5 := hZ.alloc (.cells #[] 5)
      have hD5 := hD.alloc (.cells #[] 5)
      have hg3 := hD.lt
      have hz5 : wr.heap.size ≤ (wr.alloc (.cells #[] 5)).heap.size := by simp
      go_wp2_with fail
      generalize wr.alloc (.cells #[] 5) = w5 at *
      clear hB hZ hD
      generalize wr.heap.size = g4 at *
      go_loopw [8, 9, 41] (fun v o i wr => ∃ k : Nat, k ≤ 65 ∧ i = .int .i64 (k : Int) ∧ o = .int .i64 (O k : Int) ∧ Below w.heap.size w wr ∧ g4 ≤ wr.heap.size ∧ Cells wr g2 (List.replicate 32 (cellOf 0)) 24 ∧ Cells wr g3 (ds.map icell) 3 ∧ Owns wr g4 v (putL S k)) (fun _ _ i _ => 65 - (intOf i).toNat)
      case atStart => exact ⟨0, Nat.zero_le _, rfl, by rw [H0.out]; rfl, hB5, hz5, hZ5, hD5, hOw⟩
      case round =>
        clear hB5 hz5 hZ5 hD5 hOw
        obtain ⟨k, hk, rfl, rfl, hB, hgz, hZ, hD, hO⟩ := hrel
        by_cases hltk : k < 65
        · have i1 : (0 : Int) ≤ (k : Int) := by omega
          have i2 : (k : Int) < 65 := by omega
          have d1 := hD.get (int_at ds k (by rw [HDL.out]; exact hltk))
          have y1 := HY.out k hltk
          have y2 := HO.out k hltk
          have y3 := HD.out k hltk
          have y4 := HL.out k hk
          have y5 := HXB.out k
          have hp := Lib.hid (putL_succ S k)
          have hpl := Lib.hid (putL_length S k)
          obtain ⟨l, HLN⟩ := named (putL S k)
          rw [HLN.out] at hp hpl hO
          generalize ds.getD k 0 = x at *
          obtain ⟨on, HON⟩ := named (O (k + 1))
          rw [HON.out] at y2
          generalize O k = ok at *
          generalize Y k = yk at *
          generalize byteAt S k = q at *
          have j2 : IntKind.i64.wrap ((ok : Int) + (x : Int)) = (yk : Int) := by rw [IntWalk.i64_in _ (by omega)]; omega
          have j3 : (yk : Int) % 256 = (q.toNat : Int) := by omega
          have j4 : (yk : Int) / 256 = (on : Int) := by omega
          have j5 : IntKind.u8.wrap (q.toNat : Int) = (q.toNat : Int) := by rw [IntKind.wrap_u8]; have := q.toNat_lt; omega
          have j6 : IntKind.i64.wrap (on : Int) = (on : Int) := IntWalk.i64_in _ (by omega)
          have hpl2 : l.length = k := hpl.out
          have hlen : l.length + [q].length ≤ 1000000 := by rw [hpl2]; show k + 1 ≤ 1000000; omega
          have HLEN := Lib.hid hlen
          clear y1 y2 y3 y4 y5 HY HO HD HL hpl2 hlen
          go_wp2_with (first
            | (at_builtin
               refine append_row rfl (.tmp 48) (.tmp 52) rfl g4 _ l [q] (wr.heap.size + 1) (some ⟨wr.heap.size, 0, none⟩) 1 rfl (hO.kept_alloc _) rfl (fun h => by cases h) (rowB_new wr q) HLEN.out (by have := hgz; simp; omega) ?_
               intro v5 w5 hown5 hb5))
          go_roundw
          case rel =>
            have hb6 : Below g4 wr w5 := ((Below.refl _ _).alloc hgz _).trans hb5
            exact ⟨k + 1, by omega, by go_num, by rw [HON.out], hB.trans (hb6.mono (by omega)), Nat.le_trans hgz hb6.size, hZ.below hb6 (by omega), hD.below hb6 (by omega), by rw [hp.out]; exact hown5⟩
          case measure => simp [intOf] <;> omega
        · obtain rfl : k = 65 := by omega
          rw [show ((65 : Nat) : Int) = 65 from rfl]
          have hpl := Lib.hid (putL_length S 65)
          obtain ⟨l, HLN⟩ := named (putL S 65)
          rw [HLN.out] at hpl hO HS
          obtain ⟨A5, c5, rfl, hc5, hA5, hr5⟩ := hO.form
          have CM := Lib.hid (refMod11_any A5 65 c5 l wr hpl.out (by decide) hr5)
          rw [HS.out, HRS.out] at CM
          rw [hpl.out]
          clear HY HO HD HL H0 hO hr5 hD HXB
          go_wp2_with fail
          refine CM.out.mono ?_
          rintro e w6 ⟨rfl, hb6⟩
          have hB6 := below_then hB hb6
          have hZ6 := hZ.on hb6
          clear CM hB hZ hb6
          go_wp2_with (first
            | (refine set_step rfl 24 _ _ rfl g2 32 (List.replicate 32 (cellOf 0)) rs rfl rfl hZ6 (by simp) size_a32 HRL.out ?_
               intro w7 hb7 hC7 _))
          exact ret_hash Tryd.results14 g2 rs rfl hC7 Tryd.underlying24 size_a32 HRL.out rfl ⟨rfl, hB6.trans (hb7.below (by omega) hB6.size)⟩
theorem even_digit (ds : List Nat) (k : Nat) (hk : k < ds.length) : ((evenTo ds k).2 + ds.getD k 0) % 256 = dval ds / 256 ^ k % 256 := by
  have h1 := evenTo_val ds k
  have h2 := dval_lt (evenTo ds k).1 (evenTo_lt ds k)
  rw [evenTo_length] at h2
  rw [← h1, Nat.add_mul_div_left _ _ (Nat.pow_pos (by decide)), Nat.div_eq_of_lt h2, Nat.zero_add, dval_drop ds k hk, getD_get ds k hk]
  omega
theorem refTimes11_any (a b : List UInt8) (w : World) (ha : a.length = 32) (hb : b.length = 32) : Calls Tryd.prog 14 #[hashVal a, hashVal b] w fun e w' => e = .returned (hashVal (putL (lev a * lev b % NP.LL) 32)) ∧ Below w.heap.size w w' := by
  obtain ⟨xs, hxs⟩ : ∃ xs, xs = a.map (·.toNat) ++ [0] := ⟨_, rfl⟩
  obtain ⟨ys, hys⟩ : ∃ ys, ys = b.map (·.toNat) := ⟨_, rfl⟩
  have lx : xs.length = 33 := by rw [hxs, List.length_append, List.length_map, ha]; rfl
  have ly : ys.length = 32 := by rw [hys, List.length_map, hb]
  have bx : ∀ z ∈ xs, z ≤ 255 := fun z hz => by
    rw [hxs] at hz
    rcases List.mem_append.1 hz with h | h
    · have := lev_digits a z h; omega
    · rw [List.mem_singleton.1 h]; decide
  have by' : ∀ z ∈ ys, z ≤ 255 := fun z hz => by rw [hys] at hz; have := lev_digits b z hz; omega
  have ga : ∀ k, k < 32 → (a.getD k 0).toNat = xs.getD k 0 := fun k hk => by
    rw [hxs, List.getD_eq_getElem?_getD, List.getD_eq_getElem?_getD, List.getElem?_append_left (by rw [List.length_map]; omega), List.getElem?_map, List.getElem?_eq_getElem (by omega)]; rfl
  have gb : ∀ k, k < 32 → (b.getD k 0).toNat = ys.getD k 0 := fun k hk => by
    rw [hys, List.getD_eq_getElem?_getD, List.getD_eq_getElem?_getD, List.getElem?_map, List.getElem?_eq_getElem (by omega)]; rfl
  have hv : dval (prodTo xs ys 32) = lev a * lev b := by
    rw [prodTo_val xs ys 32 (by omega), hys, hxs, List.take_append_of_le_length (by rw [List.length_map]; omega), List.take_of_length_le (by rw [List.length_map]; omega)]
    rfl
  have hl : (prodTo xs ys 32).length = 65 := by rw [prodTo_length, lx, ly]
  have hle := prodTo_le xs ys bx by' 32
  have ha2 := lev_lt a
  have hb2 := lev_lt b
  rw [ha] at ha2
  rw [hb] at hb2
  have hS : lev a * lev b < 256 ^ 65 := by
    have h1 : lev a * lev b ≤ 256 ^ 32 * 256 ^ 32 := Nat.mul_le_mul (Nat.le_of_lt ha2) (Nat.le_of_lt hb2)
    rw [← Nat.pow_add] at h1
    exact Nat.lt_of_le_of_lt h1 (by decide +kernel)
  refine refTimes11_over a b (fun i j => rowTo (prodTo xs ys i) ys i (xs.getD i 0) j) (prodTo xs ys 32) (fun k => (evenTo (prodTo xs ys 32) k).2) (fun k => (evenTo (prodTo xs ys 32) k).2 + (prodTo xs ys 32).getD k 0) (lev a * lev b) w ha hb (by show prodTo xs ys 0 = _; rw [prodTo, lx, ly]) (fun i => by show prodTo xs ys (i + 1) = _; rw [prodTo, ly]) (fun i j hi hj => by rw [ga i hi, gb j hj]; rfl) (fun i j => by rw [rowTo_length, prodTo_length, lx, ly])
    (fun i j hi => ?_) rfl hl (fun k => Nat.le_trans (hle k) (by decide)) rfl (fun k _ => ?_) (fun _ _ => rfl) (fun _ _ => rfl) (fun k hk => ?_) ?_
  · have h := (rowTo_le (prodTo xs ys i) ys i (xs.getD i 0) _ (prodTo_le xs ys bx by' i) (getD_le xs 255 i bx) by' j (i + j)).2 (Nat.le_refl _)
    have : 65025 * i ≤ 65025 * 32 := Nat.mul_le_mul_left _ (by omega)
    omega
  · exact Nat.le_trans (evenTo_over _ (65025 * 32) (mem_le _ _ hle) k) (by decide)
  · rw [byteAt_toNat, ← hv]
    exact even_digit _ k (by rw [hl]; exact hk)
  · show _ = _
    rw [lev_putL, Nat.mod_eq_of_lt hS]
end Go.Proofs.YticgkabamelddaaDoor
namespace Go.Proofs.YticgkabamelddaaDoor
open Go.RowKit
set_option maxRecDepth 100000 in
set_option maxHeartbeats 4000000 in
theorem refNegate11_over (a xs : List UInt8) (ls : List Nat) (D : Nat) (O : Nat → Nat) (rs : List UInt8) (w : World) (HX : Hid (xs.length = 32)) (HRL : Hid (rs.length = 32)) (HLS : Hid (ordD = ls)) (HLL : Hid (ls.length = 32 ∧ Dig ls)) (H0 : Hid (O 0 = 0)) (HO1 : Hid (∀ k, O k ≤ 1)) (HQ : Hid (∀ k, k < 32 → (byteAt D k).toNat + (xs.getD k 0).toNat + O k = ls.getD (31 - k) 0 + 256 * O (k + 1)))
    (CA : Hid (∀ (A : Option Addr) (c : Nat) (W : World), Row W W.heap.size A a → Calls Tryd.prog 8 #[.slice A 32 c] W fun e w' => e = .returned (hashVal xs) ∧ Below W.heap.size W w'))
    (CM : Hid (∀ (A : Option Addr) (c : Nat) (W : World), Row W W.heap.size A (putL D 32) → Calls Tryd.prog 8 #[.slice A 32 c] W fun e w' => e = .returned (hashVal rs) ∧ Below W.heap.size W w')) :
    Calls Tryd.prog 16 #[hashVal a] w fun e w' => e = .returned (hashVal rs) ∧ Below w.heap.size w w' := by
  go_enter Tryd.func16, Tryd.ntmps16
  go_wp2_with (first
    | (refine take_step rfl 24 (.tmp 0) rfl a rfl ?_
       intro w1 hB1 hA1 hz
       clear hz
       try simp only [Act.put, List.setIfInBounds_toArray, List.set_cons_zero, List.set_cons_succ]
       skip)
    | (refine vzero_step (o := ⟨some 2, _, _, _, _, _⟩) rfl 24 rfl (List.replicate 32 (cellOf 0)) zero_a32 ?_
       intro w2 hb2 hZ2
       have hB2 := below_then hB1 hb2
       have hA2 := hA1.on hb2
       have hlt1 := hA1.lt
       have hltz := hZ2.lt
       clear hB1 hA1 hb2))
  refine (CA.out _ _ w2 hA2.all).mono ?_
  rintro e w3 ⟨rfl, hb3⟩
  have hB3 := below_then hB2 hb3
  have hZ3 := hZ2.on hb3
  have hs3 := hb3.size
  clear CA hB2 hA2 hZ2 hb3
  go_wp2_with (first
    | (refine put_step rfl rfl 24 (.tmp 3) (.tmp 10) rfl rfl 32 xs rfl rfl zero_a32 size_a32 HX.out ?_
       intro w4 hb4 hX4 _
       have hB4 := below_then hB3 hb4
       have hZ4 := hZ3.on hb4
       have hltx := hX4.lt
       clear hB3 hZ3 hb4
       try simp only [Act.put, List.setIfInBounds_toArray, List.set_cons_zero, List.set_cons_succ]
       skip))
  refine (modulus_any w4).mono ?_
  rintro e w5 ⟨gm, rfl, hgm, hC5, hb5⟩
  rw [HLS.out] at hC5
  have hB5 := below_then hB4 hb5
  have hZ5 := hZ4.on hb5
  have hX5 := hX4.on hb5
  clear hB4 hZ4 hX4 hb5
  go_wp2_with fail
  have hOw : Owns (w5.alloc (.cells #[] 5)) w5.heap.size (.slice (some ⟨w5.heap.size, 0, none⟩) 0 0) [] := Owns.lit w5 [] (Nat.le_refl _) (by decide)
  have hB6 : Below w.heap.size w (w5.alloc (.cells #[] 5)) := hB5.alloc hB5.size _
  have hZ6 := hZ5.alloc (.cells #[] 5)
  have hX6 := hX5.alloc (.cells #[] 5)
  have hC6 := hC5.alloc (.cells #[] 5)
  have hltm := hC5.lt
  have hz6 : w5.heap.size ≤ (w5.alloc (.cells #[] 5)).heap.size := by simp
  generalize w5.alloc (.cells #[] 5) = w6 at *
  clear hB5 hZ5 hX5 hC5
  generalize w5.heap.size = g5 at *
  generalize w3.heap.size = g3 at *
  generalize w1.heap.size = g1 at *
  go_loopw [5, 6, 7] (fun v o i wr => ∃ k : Nat, k ≤ 32 ∧ i = .int .i64 (k : Int) ∧ o = .int .i64 (O k : Int) ∧ Below w.heap.size w wr ∧ g5 ≤ wr.heap.size ∧ Cells wr g1 (List.replicate 32 (cellOf 0)) 24 ∧ Cells wr g3 (xs.map cellOf) 24 ∧ Cells wr gm (ls.map icell) 3 ∧ Owns wr g5 v (putL D k)) (fun _ _ i _ => 32 - (intOf i).toNat)
  case atStart => exact ⟨0, Nat.zero_le _, rfl, by rw [H0.out]; rfl, hB6, hz6, hZ6, hX6, hC6, hOw⟩
  case round =>
    clear hB6 hz6 hZ6 hX6 hC6 hOw
    obtain ⟨k, hk, rfl, rfl, hB, hgz, hZ, hX, hC, hO⟩ := hrel
    by_cases hlt : k < 32
    · have i1 : (0 : Int) ≤ (k : Int) := by omega
      have i2 : (k : Int) < 32 := by omega
      have i3 : (0 : Int) ≤ 31 - (k : Int) := by omega
      have i4 : (31 : Int) - (k : Int) < 32 := by omega
      have i5 : ((31 : Int) - (k : Int)).toNat = 31 - k := by omega
      have i6 : IntKind.i64.wrap (31 - (k : Int)) = 31 - (k : Int) := IntWalk.i64_in _ (by omega)
      have d1 := hX.get (key_at xs k (by rw [HX.out]; exact hlt))
      have d2 := hC.get (int_at ls (31 - k) (by rw [HLL.out.1]; omega))
      have q1 := HQ.out k hlt
      have q2 := HO1.out k
      have q3 := HO1.out (k + 1)
      have q4 := HLL.out.2.at (31 - k)
      have hp := Lib.hid (putL_succ D k)
      have hpl := Lib.hid (putL_length D k)
      obtain ⟨l, HLN⟩ := named (putL D k)
      rw [HLN.out] at hp hpl hO
      obtain ⟨on, HON⟩ := named (O (k + 1))
      rw [HON.out] at q1 q3
      have q5 := (xs.getD k 0).toNat_lt
      have q6 := (byteAt D k).toNat_lt
      generalize xs.getD k 0 = x at *
      generalize ls.getD (31 - k) 0 = y at *
      generalize O k = ok at *
      generalize byteAt D k = q at *
      have j0 : IntKind.i64.wrap (x.toNat : Int) = (x.toNat : Int) := IntWalk.i64_in _ (by omega)
      obtain ⟨s1, hs1⟩ := named ((y : Int) - (x.toNat : Int))
      have j1 : IntKind.i64.wrap ((y : Int) - (x.toNat : Int)) = s1 := by rw [← hs1.out]; exact IntWalk.i64_in _ (by omega)
      obtain ⟨s2, hs2⟩ := named (s1 - (ok : Int))
      have j2 : IntKind.i64.wrap (s1 - (ok : Int)) = s2 := by rw [← hs2.out, ← hs1.out]; exact IntWalk.i64_in _ (by omega)
      have j5 : IntKind.u8.wrap (q.toNat : Int) = (q.toNat : Int) := by rw [IntKind.wrap_u8]; omega
      have hlen : l.length + [q].length ≤ 1000000 := by rw [hpl.out]; show k + 1 ≤ 1000000; omega
      have HLEN := Lib.hid hlen
      have hs := hs2.out
      rw [← hs1.out] at hs
      have HS := Lib.hid hs
      clear hs1 hs2 hs hlen
      rcases (show on = 0 ∨ on = 1 by omega) with hon | hon
      · have J3 := Lib.hid (less_nought s2 false (decide_eq_false (by rw [← HS.out]; omega)))
        have e2 : s2 = (q.toNat : Int) := by rw [← HS.out]; omega
        have HE2 := Lib.hid e2
        subst hon
        clear e2 q1 q2 q3 q4 q5 q6
        go_wp2_with fail
        go_quiet (fail)
        go_wp2_with (first
          | (refine bin_stepA rfl .lss 3 _ (.tmp 29) (.const (.int .i64 0)) rfl (.int .i64 s2) (.int .i64 0) (.bool false) rfl rfl (fun w => less_guard s2 w _ _) J3.out ?_
             try simp only [Act.put, List.setIfInBounds_toArray, List.set_cons_zero, List.set_cons_succ]
             rw [HE2.out]
             skip)
          | (at_builtin
             refine append_row rfl (.tmp 33) (.tmp 36) rfl g5 _ l [q] (wr.heap.size + 1) (some ⟨wr.heap.size, 0, none⟩) 1 rfl ((hO.drewN nq).kept_alloc _) rfl (fun h => by cases h) (rowB_new (wr.drewN nq) q) HLEN.out (by have := hgz; simp; omega) ?_
             intro v7 w7 hown7 hb7))
        go_roundw
        case rel =>
          have hb6 : Below g5 wr w7 := ((below_drewN (Below.refl _ _) nq).alloc hgz _).trans hb7
          exact ⟨k + 1, by omega, by go_num, by rw [HON.out]; rfl, hB.trans (hb6.mono (by omega)), Nat.le_trans hgz hb6.size, hZ.below hb6 (by omega), hX.below hb6 (by omega), hC.below hb6 (by omega), by rw [hp.out]; exact hown7⟩
        case measure => simp [intOf] <;> omega
      · have j3 : s2 < 0 := by rw [← HS.out]; omega
        have j4 : IntKind.i64.wrap (s2 + 256) = (q.toNat : Int) := by rw [← HS.out, IntWalk.i64_in _ (by omega)]; omega
        subst hon
        clear q1 q2 q3 q4 q5 q6
        go_wp2_with fail
        go_quiet (fail)
        go_wp2_with (first
          | (at_builtin
             refine append_row rfl (.tmp 33) (.tmp 36) rfl g5 _ l [q] (wr.heap.size + 1) (some ⟨wr.heap.size, 0, none⟩) 1 rfl ((hO.drewN nq).kept_alloc _) rfl (fun h => by cases h) (rowB_new (wr.drewN nq) q) HLEN.out (by have := hgz; simp; omega) ?_
             intro v7 w7 hown7 hb7))
        go_roundw
        case rel =>
          have hb6 : Below g5 wr w7 := ((below_drewN (Below.refl _ _) nq).alloc hgz _).trans hb7
          exact ⟨k + 1, by omega, by go_num, by rw [HON.out]; rfl, hB.trans (hb6.mono (by omega)), Nat.le_trans hgz hb6.size, hZ.below hb6 (by omega), hX.below hb6 (by omega), hC.below hb6 (by omega), by rw [hp.out]; exact hown7⟩
        case measure => simp [intOf] <;> omega
    · obtain rfl : k = 32 := by omega
      rw [show ((32 : Nat) : Int) = 32 from rfl]
      have hpl := Lib.hid (putL_length D 32)
      obtain ⟨l, HLN⟩ := named (putL D 32)
      rw [HLN.out] at hpl hO CM
      obtain ⟨A5, c5, rfl, hc5, hA5, hr5⟩ := hO.form
      have CM2 := Lib.hid (CM.out A5 c5 wr hr5)
      rw [hpl.out]
      clear HQ HO1 H0 hO hr5 hC hX CM
      go_wp2_with fail
      refine CM2.out.mono ?_
      rintro e w8 ⟨rfl, hb8⟩
      have hB8 := below_then hB hb8
      have hZ8 := hZ.on hb8
      clear CM2 hB hZ hb8
      go_wp2_with (first
        | (refine set_step rfl 24 _ _ rfl g1 32 (List.replicate 32 (cellOf 0)) rs rfl rfl hZ8 (by simp) size_a32 HRL.out ?_
           intro w9 hb9 hC9 _))
      exact ret_hash Tryd.results16 g1 rs rfl hC9 Tryd.underlying24 size_a32 HRL.out rfl ⟨rfl, hB8.trans (hb9.below (by omega) hB8.size)⟩
theorem ord_bytes : ∀ k : Fin 32, ordD.getD (31 - k.val) 0 = NP.LL / 256 ^ k.val % 256 := by decide +kernel
theorem refNegate11_any (a : List UInt8) (w : World) (ha : a.length = 32) : Calls Tryd.prog 16 #[hashVal a] w fun e w' => e = .returned (hashVal (putL ((NP.LL - lev a % NP.LL) % NP.LL) 32)) ∧ Below w.heap.size w w' := by
  obtain ⟨X, hX⟩ : ∃ X, X = lev a % NP.LL := ⟨_, rfl⟩
  have hXl : X < NP.LL := by rw [hX]; exact Nat.mod_lt _ (by decide)
  obtain ⟨D, hD⟩ : ∃ D, D = NP.LL - X := ⟨_, rfl⟩
  have hDX : D + X = NP.LL := by omega
  have hL : NP.LL < 256 ^ 32 := by decide +kernel
  rw [← hX, ← hD]
  have lp : ∀ (z k : Nat), z < 256 ^ 32 → k ≤ 32 → dval (((putL z 32).map (·.toNat)).take k) = z % 256 ^ k := fun z k hz hk => by
    rw [dval_take_mod _ (lev_digits _) k (by rw [List.length_map, putL_length]; exact hk)]
    show lev (putL z 32) % _ = _
    rw [lev_putL, Nat.mod_eq_of_lt hz]
  have gd : ∀ (z k : Nat), k < 32 → ((putL z 32).map (·.toNat)).getD k 0 = z / 256 ^ k % 256 := fun z k hk => by
    rw [List.getD_eq_getElem?_getD, List.getElem?_map, putL, List.getElem?_map, List.getElem?_range hk]
    exact byteAt_toNat z k
  have gx : ∀ k, k < 32 → ((putL X 32).getD k 0).toNat = X / 256 ^ k % 256 := fun k hk => by
    rw [putL, List.getD_eq_getElem?_getD, List.getElem?_map, List.getElem?_range hk]
    exact byteAt_toNat X k
  refine refNegate11_over a (putL X 32) ordD D (fun k => (D % 256 ^ k + X % 256 ^ k) / 256 ^ k) _ w (putL_length _ _) (putL_length _ _) rfl ⟨rfl, by unfold Dig; decide⟩ (by show (D % 256 ^ 0 + X % 256 ^ 0) / 256 ^ 0 = 0; rw [Nat.pow_zero, Nat.mod_one, Nat.mod_one]) (fun k => ?_) (fun k hk => ?_) (fun A c W hr => ?_) (fun A c W hr => ?_)
  · have h0 : 0 < 256 ^ k := Nat.pow_pos (by decide)
    have h1 := Nat.mod_lt D h0
    have h2 := Nat.mod_lt X h0
    have h3 : (D % 256 ^ k + X % 256 ^ k) / 256 ^ k < 2 := by rw [Nat.div_lt_iff_lt_mul h0]; omega
    exact Nat.le_of_lt_succ h3
  · show (byteAt D k).toNat + ((putL X 32).getD k 0).toNat + (D % 256 ^ k + X % 256 ^ k) / 256 ^ k = _ + 256 * ((D % 256 ^ (k + 1) + X % 256 ^ (k + 1)) / 256 ^ (k + 1))
    have dl : ((putL D 32).map (·.toNat)).length = 32 := by rw [List.length_map, putL_length]
    have xl : ((putL X 32).map (·.toNat)).length = 32 := by rw [List.length_map, putL_length]
    have c1 := carry_step ((putL D 32).map (·.toNat)) ((putL X 32).map (·.toNat)) k (by omega) (by omega)
    have c2 := carry_digit ((putL D 32).map (·.toNat)) ((putL X 32).map (·.toNat)) k (by omega) (by omega) (lev_digits _) (lev_digits _)
    rw [← getD_get _ k (by omega), ← getD_get _ k (by omega), gd D k hk, gd X k hk, lp D k (by omega) (by omega), lp X k (by omega) (by omega), lp D (k + 1) (by omega) (by omega), lp X (k + 1) (by omega) (by omega)] at c1
    have e1 : dval ((putL D 32).map (·.toNat)) = D := by show lev (putL D 32) = D; rw [lev_putL, Nat.mod_eq_of_lt (by omega)]
    have e2 : dval ((putL X 32).map (·.toNat)) = X := by show lev (putL X 32) = X; rw [lev_putL, Nat.mod_eq_of_lt (by omega)]
    rw [lp D (k + 1) (by omega) (by omega), lp X (k + 1) (by omega) (by omega), e1, e2, hDX] at c2
    have ob := ord_bytes ⟨k, hk⟩
    change ordD.getD (31 - k) 0 = NP.LL / 256 ^ k % 256 at ob
    rw [← ob] at c2
    rw [byteAt_toNat, gx k hk, ← carry_next]
    have c3 := Nat.div_add_mod ((D % 256 ^ (k + 1) + X % 256 ^ (k + 1)) / 256 ^ k) 256
    rw [c2] at c3
    generalize (D % 256 ^ (k + 1) + X % 256 ^ (k + 1)) / 256 ^ k = y at *
    generalize (D % 256 ^ k + X % 256 ^ k) / 256 ^ k = o at *
    generalize D / 256 ^ k % 256 = d at *
    generalize X / 256 ^ k % 256 = x at *
    generalize ordD.getD (31 - k) 0 = l at *
    omega
  · rw [hX]
    exact refMod11_any A 32 c a W ha (by decide) hr
  · have h := refMod11_any A 32 c (putL D 32) W (putL_length _ _) (by decide) hr
    rw [lev_putL, Nat.mod_eq_of_lt (a := D) (by omega)] at h
    exact h
end Go.Proofs.YticgkabamelddaaDoor
namespace Go.Proofs.YticgkabamelddaaDoor
open Go.ChangeShapes Go.WideShapes Go.ChangeAt Go.RowKit

theorem own : ownKnob Tryd.prog.godebug = none := by kernel_rfl
theorem laidOut : laidOutB Tryd.prog = true := by kernel_rfl

/-- All arguments read as they did where nothing old has turned. -/
theorem trodAll_below {H : Type} {enc : TypeId × Value → H} {P : Program} (hl : laidOutB P = true) {W W' : World} (hb : Below W.heap.size W W') :
    ∀ (ts : List TypeId) (vs : List Value) (ds : List (DataW H)) (ps : List MemPlace), (ts.all fun t => P.readableRec t && decide (t < P.types.size)) = true → (∀ x ∈ ps, x.block < W.heap.size) →
      DataW.TrodAll enc P W 0 (fun _ => true) true ts vs ds ps → DataW.TrodAll enc P W' 0 (fun b => decide (b < W.heap.size)) true ts vs ds ps
  | [], [], [], ps, _, _, h => h
  | t :: ts, v :: vs, d :: ds, ps, hr, hlt, ⟨p, q, h1, h2, h3⟩ => by
    subst h3
    rw [List.all_cons, Bool.and_eq_true, Bool.and_eq_true] at hr
    exact ⟨p, q, Below.trod hl hr.1.1 (of_decide_eq_true hr.1.2) h1 hb (fun x hx => hlt x (List.mem_append_left _ hx)),
      trodAll_below hl hb ts vs ds q hr.2 (fun x hx => hlt x (List.mem_append_right _ hx)) h2, rfl⟩

/-- A law's last step. -/
theorem law_post {H : Type} {enc : TypeId × Value → H} {P : Program} {f : Func} {s : ChangeSpec} {tb : TypeId} {W W' : World} {args : Array Value} {ds gs : List (DataW H)} {before : List MemPlace}
    (hl : laidOutB P = true) (hbool : P.underlying tb = some .bool) (hres : f.resultTypes = #[tb]) (hts : (f.params.toList.all fun t => P.readableRec t && decide (t < P.types.size)) = true) (hvars : s.vars = [])
    (hfn : (s.fn H ds).results = [.lit (.bool true)] ∧ (s.fn H ds).args = ds ∧ (s.fn H ds).vars = [])
    (hW : DataW.Whole enc P f.params.toList s.vars false W args.toList ds gs before) (hb : Below W.heap.size W W') :
    s.post enc P f false true false false W args (.bool true) W' := by
  have hlt : ∀ p ∈ before, p.block < W.heap.size := fun p hp => hW.lt p hp
  have hW' := hW
  obtain ⟨p, q, hA, hV, rfl, hfz, hnd⟩ := hW
  rw [hvars] at hV
  obtain ⟨rfl, rfl⟩ := trodVars_none hV
  have e : ds ++ [] = ds := List.append_nil _
  refine ⟨ds, [], _, [], p, [], hW', ?_, ?_, ?_, hb.frame _ |> World.keptBut_mono (fun x hx => ⟨hx, .inr (.inl (by simpa using hx))⟩), fun h => by cases h⟩
  · rw [e, hfn.1, hres]; exact trodAll_mk1 (shut_bool hbool _)
  · rw [e, hfn.2.1]; exact trodAll_below hl hb _ _ _ _ hts (fun x hx => hlt x (by simpa using hx)) hA
  · rw [e, hfn.2.2, hvars]; rfl

theorem word32 {n : Int} (h : (Lit.int .u32 n).wf = true) : ∃ x : BitVec 32, n = (x.toNat : Int) := by
  have := bounds_u32 h
  exact ⟨BitVec.ofNat 32 n.toNat, by rw [BitVec.toNat_ofNat]; omega⟩
theorem word64 {n : Int} (h : (Lit.int .u64 n).wf = true) : ∃ x : BitVec 64, n = (x.toNat : Int) := by
  have := bounds_u64 h
  exact ⟨BitVec.ofNat 64 n.toNat, by rw [BitVec.toNat_ofNat]; omega⟩

/-- An array of integers that comes in by value. -/
theorem open_intarr {H : Type} {enc : TypeId × Value → H} {P : Program} {W : World} {r : Reach} {b0 base : Nat} {spare : Nat → Bool} {held : Bool} {t e : TypeId} {n : Nat} {k : IntKind} {v : Value} {d : DataW H} {p : List MemPlace}
    (ht : P.underlying t = some (.array n e)) (he : P.underlying e = some (.int k)) (hc : P.cellsOf e = 1) (hC : P.cellsOf t = n)
    (hv : Value.okWide P W r b0 t v) (h : DataW.Trod enc P W base spare held t v d p) :
    ∃ zs : List Int, v = .agg (zs.map (Value.int k)).toArray ∧ zs.length = n ∧ ∀ z ∈ zs, (Lit.int k z).wf = true := by
  simp only [Value.okWide, ht] at hv
  obtain ⟨⟨cs⟩, rfl, hsz, _⟩ := hv
  obtain ⟨fuel, hf⟩ := h
  obtain ⟨xs, m, rfl, hx, hl, hn, hel⟩ := DataW.trod_array ht hf
  simp only [Value.cells] at hl hel
  rw [hC] at hl
  have hi : ∀ i, i < n → ∃ z, cs[i]? = some (.int k z) ∧ (Lit.int k z).wf = true := by
    intro i hi
    have h1 := hel i hi
    rw [hc, Nat.mul_one, List.getElem?_eq_getElem (by omega)] at h1
    obtain ⟨z, e1, _, e3⟩ := DataW.trod_int he h1
    refine ⟨z, ?_, e3⟩
    have e4 : ((cs.drop i).take 1)[0]? = some (.int k z) := by rw [e1]; rfl
    simpa using e4
  refine ⟨cs.map fun c => intOf c, ?_, by simpa using hl, ?_⟩
  · congr 1
    simp only [List.map_map]
    congr 1
    refine List.ext_getElem? fun i => ?_
    rw [List.getElem?_map]
    by_cases h : i < n
    · obtain ⟨z, hz, _⟩ := hi i h
      rw [hz]; rfl
    · rw [List.getElem?_eq_none (by omega)]; rfl
  · intro z hz
    obtain ⟨c, hc1, rfl⟩ := List.mem_map.1 hz
    obtain ⟨i, hi1, hi2⟩ := List.getElem_of_mem hc1
    obtain ⟨z, hz1, hz2⟩ := hi i (by omega)
    rw [List.getElem?_eq_getElem hi1, hi2] at hz1
    cases hz1
    exact hz2
end Go.Proofs.YticgkabamelddaaDoor
namespace Go.Proofs.YticgkabamelddaaDoor
open Go.ChangeShapes Go.WideShapes Go.ChangeAt Go.RowKit
theorem cells_u8 : Tryd.prog.cellsOf 5 = 1 := by kernel_rfl
set_option maxRecDepth 100000 in
/-- A slice of bytes that comes in. -/
theorem open_bytes {H : Type} {enc : TypeId × Value → H} {W : World} {r : Reach} {b0 : Nat} {v : Value} {d : DataW H} {p : List MemPlace} (hv : Value.okWide Tryd.prog W r b0 29 v) (h : DataW.Trod enc Tryd.prog W 0 (fun _ => true) true 29 v d p) :
    ∃ A c bs, v = .slice A bs.length c ∧ (A = none → c = 0) ∧ Row W W.heap.size A bs ∧ bs.length ≤ c ∧ c ≤ maxLen := by
  obtain ⟨a0, len, cap, rfl⟩ := okWide_slice Tryd.underlying29 hv
  obtain ⟨fuel, hf⟩ := h
  rcases open_ints Tryd.underlying29 Tryd.underlying5 cells_u8 hf with ⟨hcs, _⟩ | ⟨x, l, c, zs, hcs, _, hl, hm, hz, _, hcell, hwz⟩
  · simp [Value.cells] at hcs
    obtain ⟨rfl, rfl, rfl⟩ := hcs
    exact ⟨none, 0, [], rfl, fun _ => rfl, .inl rfl, Nat.le_refl _, Nat.zero_le _⟩
  · simp [Value.cells] at hcs
    obtain ⟨rfl, rfl, rfl⟩ := hcs
    simp only [if_true] at hz
    refine ⟨some x, cap, (zs.take len).map fun z => UInt8.ofNat z.toNat, ?_, (fun h => by cases h), ?_, ?_, hm⟩
    · simp; omega
    · by_cases h0 : len = 0
      · subst h0; exact .inl (by simp)
      · obtain ⟨b, off, rfl, hc⟩ := ints_at hcell (by omega)
        have hlt := block_lt_of_cell (hc 0 (by omega))
        refine .inr ⟨b, off, rfl, hlt, fun j u hu => ?_⟩
        rw [List.getElem?_map] at hu
        have hj : j < len := by
          rcases Nat.lt_or_ge j len with h | h
          · exact h
          · rw [List.getElem?_eq_none (by rw [List.length_take]; omega)] at hu; cases hu
        have hjz : j < zs.length := by omega
        rw [List.getElem?_take_of_lt hj, List.getElem?_eq_getElem hjz] at hu
        simp only [Option.map_some, Option.some.injEq] at hu
        have hb := bounds_u8 (hwz zs[j] (List.getElem_mem _))
        rw [hc j hjz, ← hu]
        simp only [cellOf, UInt8.toNat_ofNat']
        simp [List.getD, hjz]
        omega
    · simp; omega
/-- The errors as the program's text lays them. -/
def errTexts : List (String × List UInt8) := [("fellowship/api.ErrRange", [102, 101, 108, 108, 111, 119, 115, 104, 105, 112, 58, 32, 114, 97, 110, 103, 101]), ("fellowship/api.ErrShort", [102, 101, 108, 108, 111, 119, 115, 104, 105, 112, 58, 32, 115, 104, 111, 114, 116]), ("fellowship/api.ErrLong", [102, 101, 108, 108, 111, 119, 115, 104, 105, 112, 58, 32, 108, 111, 110, 103]), ("fellowship/api.ErrForm", [102, 101, 108, 108, 111, 119, 115, 104, 105, 112, 58, 32, 102, 111, 114, 109]), ("fellowship/api.ErrKey", [102, 101, 108, 108, 111, 119, 115, 104, 105, 112, 58, 32, 107, 101, 121]), ("fellowship/api.ErrSign", [102, 101, 108, 108, 111, 119, 115, 104, 105, 112, 58, 32, 115, 105, 103, 110]), ("fellowship/api.ErrSeal", [102, 101, 108, 108, 111, 119, 115, 104, 105, 112, 58, 32, 115, 101, 97, 108]), ("fellowship/api.ErrEpoch", [102, 101, 108, 108, 111, 119, 115, 104, 105, 112, 58, 32, 101, 112, 111, 99, 104]), ("fellowship/api.ErrGroup", [102, 101, 108, 108, 111, 119, 115, 104, 105, 112, 58, 32, 103, 114, 111, 117, 112]), ("fellowship/api.ErrSender", [102, 101, 108, 108, 111, 119, 115, 104, 105, 112, 58, 32, 115, 101, 110, 100, 101, 114]), ("fellowship/api.ErrLeaf", [102, 101, 108, 108, 111, 119, 115, 104, 105, 112, 58, 32, 108, 101, 97, 102]), ("fellowship/api.ErrOffer", [102, 101, 108, 108, 111, 119, 115, 104, 105, 112, 58, 32, 111, 102, 102, 101, 114]), ("fellowship/api.ErrPath", [102, 101, 108, 108, 111, 119, 115, 104, 105, 112, 58, 32, 112, 97, 116, 104]), ("fellowship/api.ErrTag", [102, 101, 108, 108, 111, 119, 115, 104, 105, 112, 58, 32, 116, 97, 103]), ("fellowship/api.ErrNone", [102, 101, 108, 108, 111, 119, 115, 104, 105, 112, 58, 32, 110, 111, 110, 101]), ("fellowship/api.ErrRemoved", [102, 101, 108, 108, 111, 119, 115, 104, 105, 112, 58, 32, 114, 101, 109, 111, 118, 101, 100]), ("fellowship/api.ErrFull", [102, 101, 108, 108, 111, 119, 115, 104, 105, 112, 58, 32, 102, 117, 108, 108]), ("fellowship/api.ErrState", [102, 101, 108, 108, 111, 119, 115, 104, 105, 112, 58, 32, 115, 116, 97, 116, 101]), ("fellowship/api.ErrTwice", [102, 101, 108, 108, 111, 119, 115, 104, 105, 112, 58, 32, 116, 119, 105, 99, 101])]
end Go.Proofs.YticgkabamelddaaDoor
namespace Go.Proofs.YticgkabamelddaaDoor
open Go.ChangeShapes Go.WideShapes Go.ChangeAt Go.RowKit
theorem var_lt {W : World} {name : String} {g : Nat} {cs : Array Value} {v : Value} (hg : Tryd.prog.globalNamed name = some g) (hv : W.var? Tryd.prog name = some cs) (h0 : cs[0]? = some v) : g < W.heap.size := by
  have h := World.var?_cell hg hv 0
  rw [h0] at h
  exact block_lt_of_cell (a := ⟨g, 0, none⟩) (by simpa using h)
theorem var_there {W : World} {name : String} {g : Nat} {cs : Array Value} (hg : Tryd.prog.globalNamed name = some g) (hv : W.var? Tryd.prog name = some cs) : g < W.heap.size := by
  rcases Nat.lt_or_ge g W.heap.size with h | h
  · exact h
  · simp [World.var?, hg, Array.getElem?_eq_none h] at hv
theorem row_of_ints {W : World} {a : Addr} {L : Nat} {zs : List Int} (hl : L ≤ zs.length) (hw : ∀ n ∈ zs, (Lit.int .u8 n).wf = true) (hc : ∀ i, i < zs.length → W.cell? (a.add i) = some (.int .u8 (zs.getD i 0))) :
    Row W W.heap.size (some a) ((zs.take L).map fun z => UInt8.ofNat z.toNat) := by
  by_cases h0 : L = 0
  · subst h0; exact .inl (by simp)
  · obtain ⟨b, off, rfl, hc2⟩ := ints_at hc (by omega)
    have hlt := block_lt_of_cell (hc2 0 (by omega))
    refine .inr ⟨b, off, rfl, hlt, fun j u hu => ?_⟩
    rw [List.getElem?_map] at hu
    have hj : j < L := by
      rcases Nat.lt_or_ge j L with h | h
      · exact h
      · rw [List.getElem?_eq_none (by rw [List.length_take]; omega)] at hu; cases hu
    have hjz : j < zs.length := by omega
    rw [List.getElem?_take_of_lt hj, List.getElem?_eq_getElem hjz] at hu
    simp only [Option.map_some, Option.some.injEq] at hu
    have hb := bounds_u8 (hw zs[j] (List.getElem_mem _))
    rw [hc2 j hjz, ← hu]
    simp only [cellOf, UInt8.toNat_ofNat']
    simp [List.getD, hjz]
    omega
theorem cells_bs : Tryd.prog.cellsOf 29 = 1 := by kernel_rfl
/-- A list of laid variables in two parts. -/
theorem laid_split {W : World} : ∀ (l1 l2 : List (String × DataW Unit)) (ps : List MemPlace), DataW.LaidVars Tryd.prog W (l1 ++ l2) ps → ∃ p1 p2, ps = p1 ++ p2 ∧ DataW.LaidVars Tryd.prog W l1 p1 ∧ DataW.LaidVars Tryd.prog W l2 p2
  | [], l2, ps, h => ⟨[], ps, rfl, rfl, h⟩
  | x :: l1, l2, ps, h => by
    obtain ⟨g, t, cs, f, p, q, h1, h2, h3, h4, h5, rfl⟩ := h
    obtain ⟨p1, p2, rfl, h6, h7⟩ := laid_split l1 l2 q h5
    exact ⟨_, p2, by simp only [List.append_assoc], ⟨g, t, cs, f, p, p1, h1, h2, h3, h4, h6, rfl⟩, h7⟩
end Go.Proofs.YticgkabamelddaaDoor
namespace Go.Proofs.YticgkabamelddaaDoor
open Go.ChangeShapes Go.WideShapes Go.ChangeAt Go.RowKit
set_option maxRecDepth 100000 in
/-- A slice of bytes, by its cells. -/
theorem cells_bytes {H : Type} {enc : TypeId × Value → H} {W : World} {fuel : Nat} {cs : List Value} {x : DataW H × List MemPlace} (hf : DataW.trod enc Tryd.prog W 0 (fun _ => true) true fuel 29 cs = some x) :
    ∃ A c bs, cs = [.slice A bs.length c] ∧ (A = none → c = 0) ∧ Row W W.heap.size A bs ∧ bs.length ≤ c ∧ c ≤ maxLen := by
  rcases open_ints Tryd.underlying29 Tryd.underlying5 cells_u8 hf with ⟨hcs, _⟩ | ⟨x, l, c, zs, hcs, _, hl, hm, hz, _, hcell, hwz⟩
  · exact ⟨none, 0, [], hcs, fun _ => rfl, .inl rfl, Nat.le_refl _, Nat.zero_le _⟩
  · simp only [if_true] at hz
    have hlen : ((zs.take l).map fun z => UInt8.ofNat z.toNat).length = l := by simp; omega
    exact ⟨some x, c, (zs.take l).map fun z => UInt8.ofNat z.toNat, by rw [hlen]; exact hcs, (fun h => by cases h), row_of_ints (by omega) hwz hcell, by rw [hlen]; exact hl, hm⟩
/-- An array of integers, by its cells. -/
theorem cells_ints {H : Type} {enc : TypeId × Value → H} {P : Program} {W : World} {base : Nat} {spare : Nat → Bool} {held : Bool} {fuel : Nat} {t e : TypeId} {n : Nat} {k : IntKind} {cs : List Value} {x : DataW H × List MemPlace}
    (ht : P.underlying t = some (.array n e)) (he : P.underlying e = some (.int k)) (hc : P.cellsOf e = 1) (hC : P.cellsOf t = n) (hf : DataW.trod enc P W base spare held fuel t cs = some x) :
    ∃ zs : List Int, cs = zs.map (Value.int k) ∧ zs.length = n ∧ ∀ z ∈ zs, (Lit.int k z).wf = true := by
  obtain ⟨xs, m, rfl, hx, hl, hn, hel⟩ := DataW.trod_array ht hf
  rw [hC] at hl
  have hi : ∀ i, i < n → ∃ z, cs[i]? = some (.int k z) ∧ (Lit.int k z).wf = true := by
    intro i hi
    have h1 := hel i hi
    rw [hc, Nat.mul_one, List.getElem?_eq_getElem (by omega)] at h1
    obtain ⟨z, e1, _, e3⟩ := DataW.trod_int he h1
    refine ⟨z, ?_, e3⟩
    have e4 : ((cs.drop i).take 1)[0]? = some (.int k z) := by rw [e1]; rfl
    simpa using e4
  refine ⟨cs.map fun c => intOf c, ?_, by simpa using hl, ?_⟩
  · simp only [List.map_map]
    refine List.ext_getElem? fun i => ?_
    rw [List.getElem?_map]
    by_cases h : i < n
    · obtain ⟨z, hz, _⟩ := hi i h
      rw [hz]; rfl
    · rw [List.getElem?_eq_none (by omega)]; rfl
  · intro z hz
    obtain ⟨c, hc1, rfl⟩ := List.mem_map.1 hz
    obtain ⟨i, hi1, hi2⟩ := List.getElem_of_mem hc1
    obtain ⟨z, hz1, hz2⟩ := hi i (by omega)
    rw [List.getElem?_eq_getElem hi1, hi2] at hz1
    cases hz1
    exact hz2
/-- Integers that are bytes, as bytes. -/
theorem bytes_of_ints (zs : List Int) (hw : ∀ z ∈ zs, (Lit.int .u8 z).wf = true) : ∃ bs : List UInt8, zs.map (Value.int .u8) = bs.map cellOf ∧ bs.length = zs.length := by
  refine ⟨zs.map fun z => UInt8.ofNat z.toNat, ?_, by simp⟩
  rw [List.map_map]
  refine List.map_congr_left fun z hm => ?_
  have hb := bounds_u8 (hw z hm)
  show Value.int .u8 z = cellOf (UInt8.ofNat z.toNat)
  unfold cellOf
  rw [UInt8.toNat_ofNat']
  congr 1
  omega
/-- Integers that are words, as words. -/
theorem words_of_ints (zs : List Int) (hw : ∀ z ∈ zs, (Lit.int .u32 z).wf = true) : ∃ l : List (BitVec 32), zs.map (Value.int .u32) = l.map wcell ∧ l.length = zs.length := by
  refine ⟨zs.map fun z => BitVec.ofNat 32 z.toNat, ?_, by simp⟩
  rw [List.map_map]
  refine List.map_congr_left fun z hm => ?_
  have hb := bounds_u32 (hw z hm)
  show Value.int .u32 z = wcell (BitVec.ofNat 32 z.toNat)
  unfold wcell
  rw [BitVec.toNat_ofNat]
  congr 1
  omega
end Go.Proofs.YticgkabamelddaaDoor
namespace Go.Proofs.YticgkabamelddaaDoor
open Go.ChangeShapes Go.WideShapes Go.ChangeAt Go.RowKit
set_option maxRecDepth 100000 in
/-- An array of 32 bytes, a key, that comes in by value. -/
theorem open_key {H : Type} {enc : TypeId × Value → H} {W : World} {r : Reach} {b0 : Nat} {v : Value} {d : DataW H} {p : List MemPlace} (hv : Value.okWide Tryd.prog W r b0 25 v) (h : DataW.Trod enc Tryd.prog W 0 (fun _ => true) true 25 v d p) : ∃ s : List UInt8, v = hashVal s ∧ s.length = 32 := by
  obtain ⟨zs, rfl, hz, hw⟩ := open_intarr Tryd.underlying25 Tryd.underlying5 cells_u8 (by kernel_rfl) hv h
  obtain ⟨bs, h1, h2⟩ := bytes_of_ints zs hw
  exact ⟨bs, by unfold hashVal; rw [h1], by omega⟩
theorem zero_key : ∀ w, (zeroValue 25).run Tryd.prog w = .ok (.agg (List.replicate 32 (cellOf 0)).toArray) w := (zero_of_info (P := Tryd.prog) (t := 25) (v := .agg (List.replicate 32 (cellOf 0)).toArray) (n := 32) (by kernel_rfl)).1
theorem size_key : (Tryd.prog.info? 25).map (·.size) = some 32 := by kernel_rfl
end Go.Proofs.YticgkabamelddaaDoor
namespace Go.Proofs.YticgkabamelddaaDoor
open Go.ChangeShapes Go.WideShapes Go.ChangeAt Go.RowKit
theorem order_tab {H : Type} : (Rows.laid_fellowship_scalar_order (H := H)) = Lib.tabData .u64 ((nD NP.LL).map fun n : Nat => (n : Int)) := by kernel_rfl
theorem tail_tab {H : Type} : (Rows.laid_fellowship_scalar_tail (H := H)) = Lib.tabData .u64 ((nD tailN).map fun n : Nat => (n : Int)) := by kernel_rfl
theorem sn_cells_are (l : List Nat) : ((l.map fun n : Nat => (n : Int)).map fun z => Value.int .u64 z) = l.map ncell := by
  rw [List.map_map]; rfl
theorem snTab_is {W : World} {name : String} {g : Nat} {fuel : Nat} {l : List Nat} {cs : Array Value} {p : List MemPlace} (hg : Tryd.prog.globalNamed name = some g) (hv : W.var? Tryd.prog name = some cs)
    (hd : DataW.trod (H := Unit) (fun _ => ()) Tryd.prog W 0 (fun _ => true) false fuel 42 cs.toList = some (Lib.tabData .u64 (l.map fun n : Nat => (n : Int)), p)) : Tab W g (l.map ncell) := by
  have c2 := Lib.cells_of_tab Tryd.underlying42 Tryd.underlying40 (by kernel_rfl) (by kernel_rfl) hd
  rw [sn_cells_are] at c2
  have e : cs = (l.map ncell).toArray := by rw [← c2]
  rw [e] at hv
  exact Tab.of_var hg hv
theorem tabsS_of {W : World} (h : laidMetH Tryd.prog [("fellowship/api.ErrRange", Rows.laid_fellowship_api_ErrRange), ("fellowship/api.ErrLong", Rows.laid_fellowship_api_ErrLong), ("fellowship/scalar.order", Rows.laid_fellowship_scalar_order), ("fellowship/scalar.tail", Rows.laid_fellowship_scalar_tail)] W) : TabsS W := by
  rw [MakeChecks.laidMetH_plain _ _ _ (by kernel_rfl)] at h
  obtain ⟨ps, hv, _, _⟩ := h
  obtain ⟨g0, t0, cs0, f0, p0, q0, hg0, ht0, hv0, hd0, hq0, rfl⟩ := hv
  obtain ⟨g1, t1, cs1, f1, p1, q1, hg1, ht1, hv1, hd1, hq1, rfl⟩ := hq0
  obtain ⟨g2, t2, cs2, f2, p2, q2, hg2, ht2, hv2, hd2, hq2, rfl⟩ := hq1
  obtain ⟨g3, t3, cs3, f3, p3, q3, hg3, ht3, hv3, hd3, hq3, rfl⟩ := hq2
  obtain rfl : 0 = g2 := Option.some.inj ((show Tryd.prog.globalNamed "fellowship/scalar.order" = some 0 by kernel_rfl).symm.trans hg2)
  obtain rfl : 3 = g3 := Option.some.inj ((show Tryd.prog.globalNamed "fellowship/scalar.tail" = some 3 by kernel_rfl).symm.trans hg3)
  obtain rfl : 42 = t2 := Option.some.inj ((show (Tryd.prog.globals[0]?).map (·.type) = some 42 by kernel_rfl).symm.trans ht2)
  obtain rfl : 42 = t3 := Option.some.inj ((show (Tryd.prog.globals[3]?).map (·.type) = some 42 by kernel_rfl).symm.trans ht3)
  rw [order_tab] at hd2
  rw [tail_tab] at hd3
  exact ⟨snTab_is hg2 hv2 hd2, snTab_is hg3 hv3 hd3⟩
theorem lev_inj : ∀ a b : List UInt8, a.length = b.length → lev a = lev b → a = b
  | [], [], _, _ => rfl
  | x :: a, y :: b, hl, h => by
    rw [lev_cons, lev_cons] at h
    have hx := x.toNat_lt
    have hy := y.toNat_lt
    rw [UInt8.toNat_inj.1 (show x.toNat = y.toNat by omega), lev_inj a b (Nat.succ.inj hl) (by omega)]
theorem lev_key (n : Nat) (h : n < NP.LL) : lev (putL n 32) = n := by
  rw [lev_putL, Nat.mod_eq_of_lt (Nat.lt_trans h (by decide +kernel))]
def one11 : List UInt8 := 1 :: List.replicate 31 0
theorem build_one11 (w : World) : (Instr.build 25 #[(0, .int .u8 1)]).run Tryd.prog w = .ok (hashVal one11) w := by kernel_rfl
theorem build_zero11 (w : World) : (Instr.build 25 #[]).run Tryd.prog w = .ok (hashVal (List.replicate 32 0)) w := by kernel_rfl
theorem neg_one11 : (NP.LL - lev one11 % NP.LL) % NP.LL = NP.LL - 1 := by decide +kernel
def less11 : List UInt8 := putL (NP.LL - 1) 32
theorem less11_at : (less11.map cellOf)[0]? = some (.int .u8 236) ∧ (less11.map cellOf)[31]? = some (.int .u8 16) ∧ (less11.map cellOf).set 0 (.int .u8 237) = (less11.set 0 237).map cellOf := ⟨by rw [List.getElem?_map, show less11[0]? = some 236 from by decide +kernel]; rfl, by rw [List.getElem?_map, show less11[31]? = some 16 from by decide +kernel]; rfl, by rw [List.map_set]; rfl⟩
theorem less11_lev : lev less11 < NP.LL ∧ ¬ lev (less11.set 0 237) < NP.LL := ⟨by decide +kernel, by decide +kernel⟩
theorem alive11 (w : World) (hS : TabsS w) : Calls Tryd.prog 6 #[] w fun e w' => e = .returned (.bool true) ∧ Below w.heap.size w w' := by
  have l1 : less11.length = 32 := putL_length _ _
  refine alive11_over one11 less11 (less11.set 0 237) w l1 (by show _ = _; rw [List.length_set]; exact l1) less11_at.1 less11_at.2.1 less11_at.2.2 build_one11 (fun W hW => ?_) (fun W hW => ?_) (fun W hW => ?_) hS
  · have h := scNegate_any one11 W rfl hW
    rw [neg_one11] at h
    exact h
  · have h := scRight_any less11 W l1 hW
    rw [decide_eq_true less11_lev.1] at h
    exact h
  · have h := scRight_any (less11.set 0 237) W (by rw [List.length_set]; exact l1) hW
    rw [decide_eq_false less11_lev.2] at h
    exact h
theorem keyS_eq (l : List UInt8) (h : l.length = 32) (w : World) : (binOp .eql 25 (hashVal l) (hashVal l)).run Tryd.prog w = .ok (.bool true) w := by
  have h2 := key_eql l l h h w
  rw [beq_self_eq_true] at h2
  exact h2
theorem keyS_neq (l : List UInt8) (h : l.length = 32) (w : World) : (binOp .neq 25 (hashVal l) (hashVal l)).run Tryd.prog w = .ok (.bool false) w := by
  have h0 := run_equalIn_bytes (P := Tryd.prog) w 9998 25 5 32 Tryd.underlying25 Tryd.underlying5 (fun w => by
    obtain ⟨i0, hi0, hs0⟩ := Option.map_eq_some_iff.1 size_u8
    simp [sizeOf, typeInfo, hi0, hs0]) l l h h
  have h2 := run_neq_struct (P := Tryd.prog) w 25 (l.map cellOf).toArray (l.map cellOf).toArray
  unfold hashVal
  rw [h2]
  have h3 : (Op.equalIn 10000 25 (.agg (l.map cellOf).toArray) (.agg (l.map cellOf).toArray)).run Tryd.prog w = .ok (l == l) w := h0
  rw [h3, beq_self_eq_true]
  rfl
/-- What together with v is nought modulo L is L less v. -/
theorem neg_unique (u v L : Nat) (hL : 0 < L) (h : (u + v) % L = 0) : u % L = (L - v % L) % L := by
  rw [Nat.add_mod] at h
  have hx := Nat.mod_lt u hL
  have hy := Nat.mod_lt v hL
  generalize u % L = x at *
  generalize v % L = y at *
  rcases Nat.lt_or_ge (x + y) L with h1 | h1
  · rw [Nat.mod_eq_of_lt h1] at h
    obtain rfl : y = 0 := by omega
    obtain rfl : x = 0 := by omega
    rw [Nat.sub_zero, Nat.mod_self]
  · rw [Nat.mod_eq_sub_mod h1, Nat.mod_eq_of_lt (by omega)] at h
    rw [Nat.mod_eq_of_lt (by omega)]
    omega
theorem neg_times (a b L : Nat) (hL : 0 < L) : (L - a % L) % L * b % L = (L - a * b % L % L) % L := by
  rw [Nat.mod_mul_mod]
  refine neg_unique _ _ L hL ?_
  have ha := Nat.mod_lt a hL
  have e : L - a % L + a = L * (1 + a / L) := by
    have h := Nat.div_add_mod a L
    rw [Nat.mul_add, Nat.mul_one]
    generalize L * (a / L) = q at *
    omega
  rw [Nat.add_mod_mod, ← Nat.add_mul, e, Nat.mul_assoc, Nat.mul_mod_right]
theorem add_neg (a L : Nat) (hL : 0 < L) : (a + (L - a % L) % L) % L = 0 := by
  have ha := Nat.mod_lt a hL
  rw [Nat.add_mod_mod, ← Nat.mod_add_mod, Nat.add_sub_cancel' (Nat.le_of_lt ha), Nat.mod_self]
theorem times_goes (a b c L : Nat) : (a + b) % L * c % L = (a * c % L + b * c % L) % L := by
  rw [Nat.mod_mul_mod, Nat.add_mul, ← Nat.add_mod]
end Go.Proofs.YticgkabamelddaaDoor
