/- OnetimeEdges: the walk. -/
import Derived.Test.YtiadgningbogmaaDoorPart7
import Derived.Test.YtiadgningbogmaaDoorQSumC
import Derived.IntWalk
namespace Go.Proofs.YtiadgningbogmaaDoor
open Go.RowKit
/-- Noughts, j of them overlaid. -/
def fillTo (m : Nat) (u : UInt8) : Nat → List UInt8
  | 0 => List.replicate m 0
  | j + 1 => (fillTo m u j).set j u
theorem fillTo_length (m : Nat) (u : UInt8) : ∀ j, (fillTo m u j).length = m
  | 0 => by rw [fillTo, List.length_replicate]
  | j + 1 => by rw [fillTo, List.length_set, fillTo_length]
theorem build_zeroKey (w : World) : (Instr.build 23 #[]).run Tryd.prog w = .ok (hashVal (List.replicate 32 0)) w := by kernel_rfl
theorem sum_eql (ds : List UInt8) (h : ds.length = 16) (w : World) : (binOp .eql 27 (hashVal ds) (hashVal ds)).run Tryd.prog w = .ok (.bool true) w := by
  have h := run_eql_bytes (P := Tryd.prog) w 27 5 16 Tryd.underlying27 Tryd.underlying5 (fun w => by
    obtain ⟨i0, hi0, hs0⟩ := Option.map_eq_some_iff.1 size_u8
    simp [sizeOf, typeInfo, hi0, hs0]) ds ds h h
  rw [beq_self_eq_true] at h
  exact h
theorem sum_guard (op : BinOp) (x y : Operand) (ds es : List UInt8) (w : World) : (eqGuard op 27 x y (hashVal ds) (hashVal es)).run Tryd.prog w = .ok () w := run_eqGuard_agg w op 27 x y _ _ (by kernel_rfl)
/-- What the operations of the statement's last line yield. -/
def edgesYields (key X : List UInt8) (gb n : Nat) (i : Nat) (v : Value) (w : World) : Prop := match i with
  | 0 => v = hashVal key
  | 2 => ∃ g, v = .slice (some ⟨g, 0, none⟩) 1 1 ∧ Cells w g [.slice (some ⟨gb, 0, none⟩) n n] 25
  | 3 => v = hashVal X
  | 4 => v = hashVal key
  | 6 => v = hashVal X
  | _ => True
theorem edgesYields_on {key X : List UInt8} {gb n i : Nat} {v : Value} {w w' : World} (h : edgesYields key X gb n i v w) (hb : Below w.heap.size w w') : edgesYields key X gb n i v w' := by
  unfold edgesYields at h ⊢
  split
  all_goals first
    | exact h
    | trivial
    | (obtain ⟨gq, h1, h3⟩ := h
       exact ⟨gq, h1, h3.on hb⟩)
set_option maxRecDepth 100000 in
set_option maxHeartbeats 2000000 in
theorem edges_over (uk uc : UInt8) (z : Int) (m : Nat) (kz : List UInt8) (K B : Nat → List UInt8) (X : List UInt8) (w : World) (y : Nat) (hu : IntKind.u64.wrap z = (y : Int)) (hm : y % 100 = m)
    (HKZ : Hid (∀ w, (Instr.build 23 #[]).run Tryd.prog w = .ok (hashVal kz) w)) (HK0 : Hid (K 0 = kz)) (HKN : Hid (∀ j, K (j + 1) = (K j).set j uk)) (HKL : Hid (∀ j, (K j).length = 32)) (HB0 : Hid (B 0 = List.replicate m 0)) (HBN : Hid (∀ j, B (j + 1) = (B j).set j uc)) (HBL : Hid (∀ j, (B j).length = m)) (HX : Hid (X.length = 16))
    (CA : Hid (∀ W, Calls Tryd.prog 6 #[] W fun e w' => e = .returned (.bool true) ∧ Below W.heap.size W w'))
    (CS : Hid (∀ g gb W, Cells W gb ((B m).map cellOf) 5 → Cells W g [.slice (some ⟨gb, 0, none⟩) m m] 25 → Calls Tryd.prog 8 #[hashVal (K 32), .slice (some ⟨g, 0, none⟩) 1 1] W fun e w' => e = .returned (hashVal X) ∧ Below W.heap.size W w'))
    (CR : Hid (∀ gb W, Cells W gb ((B m).map cellOf) 5 → Calls Tryd.prog 7 #[hashVal (K 32), .slice (some ⟨gb, 0, none⟩) m m] W fun e w' => e = .returned (hashVal X) ∧ Below W.heap.size W w')) :
    Calls Tryd.prog 4 #[cellOf uk, cellOf uc, .int .i64 z] w fun e w' => e = .returned (.bool true) ∧ Below w.heap.size w w' := by
  have hm2 : m < 100 := by omega
  have ht : Int.tmod (y : Int) 100 = (m : Int) := by
    rw [Int.tmod_eq_emod_of_nonneg (by omega)]
    omega
  have hw64 : wrap64 (m : Int) = (m : Int) := by unfold wrap64; omega
  have hmk := make_bytes m m (Nat.le_refl _) (by omega)
  have HM := Lib.hid hm
  clear hm
  have HK0L : Hid (kz.length = 32) := by rw [← HK0.out]; exact HKL.out 0
  go_enter Tryd.func4, Tryd.ntmps4
  go_wp2_with fail
  refine (CA.out w).mono ?_
  rintro e w1 ⟨rfl, hB1⟩
  clear CA
  go_wp2_with (first
    | (refine build_step rfl 23 _ rfl [] rfl _ HKZ.out ?_)
    | (refine put_step rfl rfl 23 (.tmp 7) (.tmp 13) rfl rfl 32 kz rfl rfl zero_key size_key HK0L.out ?_
       intro w2 hb2 hC2 hz
       have hB2 := below_then hB1 hb2
       have hgk := hB1.size
       clear hz hb2 hB1))
  generalize w1.heap.size = gk at *
  rw [← HK0.out] at hC2
  go_loopw [8, 14, 15, 16, 17, 18, 19, 20] (fun _ i _ _ _ _ _ _ wr => ∃ j : Nat, j ≤ 32 ∧ i = .int .i64 j ∧ Below w.heap.size w wr ∧ Cells wr gk ((K j).map cellOf) 23) (fun _ i _ _ _ _ _ _ _ => 32 - (intOf i).toNat)
  case atStart => exact ⟨0, Nat.zero_le _, rfl, hB2, hC2⟩
  case round =>
    clear hB2 hC2 HKZ HK0
    obtain ⟨j, hj, rfl, hB, hC⟩ := hrel
    by_cases hlt : j < 32
    · have HN := Lib.hid (HKN.out j)
      obtain ⟨k1, HK1⟩ := named (K (j + 1))
      rw [HK1.out] at HN
      have HLj := Lib.hid (HKL.out j)
      have hf := hC.frozen j
      obtain ⟨v4, hv4⟩ : ∃ v, wr.cell? ⟨gk, j, none⟩ = some v := ⟨_, hC.cell j (by rw [List.length_map, HLj.out]; exact hlt)⟩
      clear CS CR HKN HKL HBN HBL
      generalize K j = kj at *
      have i1 : (j : Int) < 32 := by omega
      have i2 : (0 : Int) ≤ (j : Int) := by omega
      go_wp2_with fail
      go_roundw
      case rel =>
        refine ⟨j + 1, by omega, by go_num, hB.setCell (p := ⟨gk, j, none⟩) hgk _, ?_⟩
        rw [HK1.out, HN.out, List.map_set]
        exact hC.set j _
      case measure => simp [intOf]; omega
    · obtain rfl : j = 32 := by omega
      have HKK := Lib.hid (HKL.out 32)
      clear HKN HKL
      generalize K 32 = key at *
      have hB3 : Below w.heap.size w (wr.alloc (.cells (rowCells (List.replicate m 0)) 5)) := hB.alloc hB.size _
      have hC3 : Cells (wr.alloc (.cells (rowCells (List.replicate m 0)) 5)) gk (key.map cellOf) 23 := hC.alloc _
      have hE3 : Cells (wr.alloc (.cells (rowCells (List.replicate m 0)) 5)) wr.heap.size ((B 0).map cellOf) 5 := by
        rw [HB0.out]
        exact Cells.new wr _ _
      have hgb : gk < wr.heap.size := hC.lt
      go_wp2_with fail
      generalize wr.alloc (.cells (rowCells (List.replicate m 0)) 5) = w3 at *
      generalize hgbe : wr.heap.size = gb at *
      have hgb2 : w.heap.size ≤ gb := by rw [← hgbe]; exact hB.size
      clear hgbe hB hC hmk hw64 ht HB0
      go_loopw [10, 28, 29, 30, 31, 32, 33, 34, 35] (fun _ i _ _ _ _ _ _ _ wr => ∃ j : Nat, j ≤ m ∧ i = .int .i64 j ∧ Below w.heap.size w wr ∧ Cells wr gk (key.map cellOf) 23 ∧ Cells wr gb ((B j).map cellOf) 5) (fun _ i _ _ _ _ _ _ _ _ => m - (intOf i).toNat)
      case atStart => exact ⟨0, Nat.zero_le _, rfl, hB3, hC3, hE3⟩
      case round =>
        clear hB3 hC3 hE3
        obtain ⟨j, hj, rfl, hB, hC, hE⟩ := hrel
        by_cases hlt : j < m
        · have HN := Lib.hid (HBN.out j)
          obtain ⟨k1, HK1⟩ := named (B (j + 1))
          rw [HK1.out] at HN
          have HLj := Lib.hid (HBL.out j)
          have hf := hE.frozen j
          obtain ⟨v4, hv4⟩ : ∃ v, wr.cell? ⟨gb, j, none⟩ = some v := ⟨_, hE.cell j (by rw [List.length_map, HLj.out]; exact hlt)⟩
          clear CS CR HBN HBL
          generalize B j = kj at *
          have i1 : (j : Int) < (m : Int) := by omega
          have i2 : (0 : Int) ≤ (j : Int) := by omega
          go_wp2_with fail
          go_roundw
          case rel =>
            refine ⟨j + 1, by omega, by go_num, hB.setCell (p := ⟨gb, j, none⟩) hgb2 _, hC.other (p := ⟨gb, j, none⟩) (by show gk ≠ gb; omega) _, ?_⟩
            rw [HK1.out, HN.out, List.map_set]
            exact hE.set j _
          case measure => simp [intOf]; omega
        · obtain rfl : j = m := by omega
          clear HBN HBL
          generalize B j = bb at *
          go_wp2_with fail
          refine wp_region_any (by kernel_rfl) ?_
          show wpAny _ _ _ _ _ _ _ wr.drew
          simp only [List.size_toArray, List.length_cons, List.length_nil, Nat.reduceAdd, Array.replicate_succ, Array.replicate_zero, List.push_toArray, List.nil_append, List.cons_append]
          have hB5 : Below w.heap.size w wr.drew := hB.drew
          have hC5 : Cells wr.drew gk (key.map cellOf) 23 := hC
          have hE5 : Cells wr.drew gb (bb.map cellOf) 5 := hE
          clear hB hC hE
          generalize wr.drew = w5 at *
          refine wpAny_take (i := 1) (oi := ⟨some 37, _, _, _, _, _⟩) (v := ?_) rfl (by kernel_rfl) (by kernel_rfl) (by kernel_rfl) (fun _ _ _ h => h) (Or.inl ⟨by rfl, ?_⟩) ?_
          rotate_left
          · (intro w; go_simp; try with_reducible rfl)
          simp only [Act.put, List.setIfInBounds_toArray, List.set_cons_zero, List.set_cons_succ]
          refine wpAny_take (i := 5) (oi := ⟨some 41, _, _, _, _, _⟩) (v := ?_) rfl (by kernel_rfl) (by kernel_rfl) (by kernel_rfl) (fun _ _ _ h => h) (Or.inl ⟨by rfl, ?_⟩) ?_
          rotate_left
          · (intro w; go_simp; try with_reducible rfl)
          simp only [Act.put, List.setIfInBounds_toArray, List.set_cons_zero, List.set_cons_succ]
          have hk5 := hC5.range 0 32
          rw [List.drop_zero, List.take_of_length_le (by rw [List.length_map, HKK.out]; omega)] at hk5
          have hgw : gk < w5.heap.size := hC5.lt
          refine wpAny_loose (L := [0, 2, 3, 4, 6]) (fins := [(#[true, true, true, true, true, true, true, false, false], 2)]) (LooseAt w5 _ [(0, 36), (2, 38), (3, 39), (4, 40), (6, 42)] (edgesYields key X gb j)) ?_ ?_ 7 _ _ _ (by kernel_rfl) ⟨Below.refl _ _, rfl, rfl, fun _ _ => rfl, ?_⟩
          · intro i hi
            simp only [List.mem_cons, List.not_mem_nil, or_false] at hi
            rcases hi with rfl | rfl | rfl | rfl | rfl
            · refine loose_step (slots := [(0, 36), (2, 38), (3, 39), (4, 40), (6, 42)]) (prop := edgesYields key X gb j) (by decide) (by decide) 44 rfl (by decide) (fun _ _ _ _ h hb => edgesYields_on h hb) (i := 0) (s := 36) (by decide) rfl rfl ?_
              intro a w6 K hb hs hd hsame hfact hK
              exact load_op rfl 23 (.tmp 7) rfl gk 0 (hsame 7 (by decide)) (key.map cellOf) _ (range_on hk5 hgw hb) Tryd.underlying23 rfl (by rw [List.length_map, HKK.out]; exact size_key) (hK _ _ (Below.refl _ _) rfl)
            · refine loose_step (slots := [(0, 36), (2, 38), (3, 39), (4, 40), (6, 42)]) (prop := edgesYields key X gb j) (by decide) (by decide) 44 rfl (by decide) (fun _ _ _ _ h hb => edgesYields_on h hb) (i := 2) (s := 38) (by decide) rfl rfl ?_
              intro a w6 K hb hs hd hsame hfact hK
              refine lit_op rfl 24 1 [(0, .tmp 37)] rfl [(0, .slice (some ⟨gb, 0, none⟩) j j)] ?_ 25 [.slice (some ⟨gb, 0, none⟩) j j] (fun w => by kernel_rfl) (fun w' hb' hc' => hK _ _ hb' ⟨_, rfl, hc'⟩)
              simp only [List.map_cons, List.map_nil]
              rw [show a.eval (.tmp 37) = .slice (some ⟨gb, 0, none⟩) j j from hsame 37 (by decide)]
            · refine loose_step (slots := [(0, 36), (2, 38), (3, 39), (4, 40), (6, 42)]) (prop := edgesYields key X gb j) (by decide) (by decide) 44 rfl (by decide) (fun _ _ _ _ h hb => edgesYields_on h hb) (i := 3) (s := 39) (by decide) rfl rfl ?_
              intro a w6 K hb hs hd hsame hfact hK
              have s36 : a.tmps.getD 36 undef = hashVal key := hfact (0, 36) (by decide) (by kernel_rfl)
              obtain ⟨gl, hl1, hl2⟩ := hfact (2, 38) (by decide) (by kernel_rfl)
              refine call_op rfl 8 [.tmp 36, .tmp 38] _ rfl [hashVal key, .slice (some ⟨gl, 0, none⟩) 1 1] ?_ (enters Tryd.func8 (by kernel_rfl) (by kernel_rfl)) (CS.out gl gb w6 (hE5.on hb) hl2) ?_
              · simp only [List.map_cons, List.map_nil]
                rw [show a.eval (.tmp 36) = hashVal key from s36, show a.eval (.tmp 38) = .slice (some ⟨gl, 0, none⟩) 1 1 from hl1]
              · rintro e w7 ⟨rfl, hb7⟩
                exact ⟨_, rfl, hK _ _ hb7 rfl⟩
            · refine loose_step (slots := [(0, 36), (2, 38), (3, 39), (4, 40), (6, 42)]) (prop := edgesYields key X gb j) (by decide) (by decide) 44 rfl (by decide) (fun _ _ _ _ h hb => edgesYields_on h hb) (i := 4) (s := 40) (by decide) rfl rfl ?_
              intro a w6 K hb hs hd hsame hfact hK
              exact load_op rfl 23 (.tmp 7) rfl gk 0 (hsame 7 (by decide)) (key.map cellOf) _ (range_on hk5 hgw hb) Tryd.underlying23 rfl (by rw [List.length_map, HKK.out]; exact size_key) (hK _ _ (Below.refl _ _) rfl)
            · refine loose_step (slots := [(0, 36), (2, 38), (3, 39), (4, 40), (6, 42)]) (prop := edgesYields key X gb j) (by decide) (by decide) 44 rfl (by decide) (fun _ _ _ _ h hb => edgesYields_on h hb) (i := 6) (s := 42) (by decide) rfl rfl ?_
              intro a w6 K hb hs hd hsame hfact hK
              have s40 : a.tmps.getD 40 undef = hashVal key := hfact (4, 40) (by decide) (by kernel_rfl)
              refine call_op rfl 7 [.tmp 40, .tmp 41] _ rfl [hashVal key, .slice (some ⟨gb, 0, none⟩) j j] ?_ (enters Tryd.func7 (by kernel_rfl) (by kernel_rfl)) (CR.out gb w6 (hE5.on hb)) ?_
              · simp only [List.map_cons, List.map_nil]
                rw [show a.eval (.tmp 40) = hashVal key from s40, show a.eval (.tmp 41) = .slice (some ⟨gb, 0, none⟩) j j from hsame 41 (by decide)]
              · rintro e w7 ⟨rfl, hb7⟩
                exact ⟨_, rfl, hK _ _ hb7 rfl⟩
          · intro f hf a w6 hA
            obtain rfl := List.mem_singleton.1 hf
            have hB7 := below_then hB5 hA.below
            have s39 : a.tmps.getD 39 undef = hashVal X := hA.fact (3, 39) (by decide) (by kernel_rfl)
            have s42 : a.tmps.getD 42 undef = hashVal X := hA.fact (6, 42) (by decide) (by kernel_rfl)
            obtain ⟨u, rfl⟩ := loose_frame44 a hA.size hA.defers
            change u 39 = _ at s39
            change u 42 = _ at s42
            rw [s39, s42]
            clear hA s39 s42 CS CR hB5 hC5 hE5 hk5 hgw
            refine wpAny_rest 7 rfl (by kernel_rfl) ?_
            simp only [List.drop_succ_cons, List.drop_zero]
            have HQ := sum_eql X HX.out
            have HG := fun w => sum_guard .eql (.tmp 39) (.tmp 42) X X w
            go_wp2
            go_ret
            exact ⟨rfl, hB7⟩
          · intro p hp hl
            exact absurd hl (by revert p; decide)
theorem wrap_u64_nat (z : Int) : ∃ y : Nat, IntKind.u64.wrap z = (y : Int) := by
  refine ⟨(IntKind.u64.wrap z).toNat, ?_⟩
  rw [Int.toNat_of_nonneg]
  show 0 ≤ z % 18446744073709551616
  omega
theorem edges_any (uk uc : UInt8) (z : Int) (w : World) : Calls Tryd.prog 4 #[cellOf uk, cellOf uc, .int .i64 z] w fun e w' => e = .returned (.bool true) ∧ Below w.heap.size w w' := by
  obtain ⟨y, hy⟩ := wrap_u64_nat z
  have hm : y % 100 < 100 := Nat.mod_lt _ (by omega)
  generalize hmm : y % 100 = m at *
  have hk := fillTo_length 32 uk 32
  have hb := fillTo_length m uc m
  exact edges_over uk uc z m (List.replicate 32 0) (fillTo 32 uk) (fillTo m uc) (polySum (fillTo 32 uk 32) (fillTo m uc m)) w y hy hmm build_zeroKey rfl (fun _ => rfl) (fillTo_length 32 uk) rfl (fun _ => rfl) (fillTo_length m uc) (polySum_length _ _) alive7
    (fun g gb W hE hC => onetimeSum_lit hk hC hb hE.all (fun h => by cases h) (Nat.le_refl _) (by unfold maxLen; omega))
    (fun gb W hE => refSum7_any (some ⟨gb, 0, none⟩) m m _ _ W hk hb hE.all (Nat.le_refl _) (by omega))
end Go.Proofs.YtiadgningbogmaaDoor
