/- Part 12 of what the laws of this seat share: AMod, AAdd. -/
import Derived.Test.YticgkabamelddaaDoorPart11
namespace Go.Proofs.YticgkabamelddaaDoor
open Go.RowKit
theorem zero_a32 : ∀ w, (zeroValue 24).run Tryd.prog w = .ok (.agg (List.replicate 32 (cellOf 0)).toArray) w := (zero_of_info (P := Tryd.prog) (t := 24) (v := .agg (List.replicate 32 (cellOf 0)).toArray) (n := 32) (by kernel_rfl)).1
theorem size_a32 : (Tryd.prog.info? 24).map (·.size) = some 32 := by kernel_rfl
theorem build_a32 (w : World) : (Instr.build 24 #[]).run Tryd.prog w = .ok (hashVal (List.replicate 32 0)) w := by kernel_rfl
/-- A row's number, the high digit first, read off the world. -/
def numH (w : World) : Value → Nat
  | .slice A n _ => hval ((List.range n).map (digAt w A))
  | _ => 0
theorem numH_row {w : World} {B : Nat} {A : Option Addr} {ds : List Nat} (c : Nat) (h : RowI w B A ds) : numH w (.slice A ds.length c) = hval ds := by
  show hval ((List.range ds.length).map (digAt w A)) = hval ds
  congr 1
  rcases h with rfl | ⟨b, off, rfl, hb, hc⟩
  · rfl
  · apply List.ext_getElem
    · simp
    · intro i h1 h2
      have h3 := hc i ds[i] (List.getElem?_eq_getElem h2)
      simp only [List.getElem_map, List.getElem_range, digAt, h3]
      rfl
/-- The first cells of a block as a row. -/
theorem Cells.rowFrom {w : World} {g : Nat} {l : List Nat} {rest : List Value} {t : TypeId} (h : Cells w g (l.map icell ++ rest) t) (k : Nat) : RowI w w.heap.size (some ⟨g, k, none⟩) (l.drop k) :=
  .inr ⟨g, k, rfl, h.lt, fun j x hx => h.get (by
    rw [List.getElem?_drop] at hx
    have hl : k + j < l.length := by
      rcases Nat.lt_or_ge (k + j) l.length with h1 | h1
      · exact h1
      · rw [List.getElem?_eq_none h1] at hx; cases hx
    rw [List.getElem?_append_left (by rw [List.length_map]; exact hl), List.getElem?_map, hx]; rfl)⟩
theorem Cells.intAt {w : World} {g : Nat} {l : List Nat} {rest : List Value} {t : TypeId} (h : Cells w g (l.map icell ++ rest) t) (k : Nat) (hk : k < l.length) : w.cell? ⟨g, k, none⟩ = some (icell (l.getD k 0)) :=
  h.get (by rw [List.getElem?_append_left (by rw [List.length_map]; exact hk), List.getElem?_map, List.getD_eq_getElem?_getD, List.getElem?_eq_getElem hk]; rfl)
theorem set_front (l : List Nat) (rest : List Value) (k z : Nat) (hk : k < l.length) : (l.map icell ++ rest).set k (icell z) = (l.set k z).map icell ++ rest := by
  rw [List.set_append_left _ _ (by rw [List.length_map]; exact hk), List.map_set]
/-- The state of a difference: the digits down to j are done. -/
def subAt (r l : List Nat) (j : Nat) : List Nat := r.take j ++ (subD (r.drop j) (l.drop j)).2
theorem subAt_length (r l : List Nat) (h : r.length = l.length) (j : Nat) (hj : j ≤ r.length) : (subAt r l j).length = r.length := by
  rw [subAt, List.length_append, subD_length _ _ (by rw [List.length_drop, List.length_drop, h]), List.length_take, List.length_drop]; omega
theorem subAt_at (r l : List Nat) (j : Nat) (hj : j < r.length) : (subAt r l (j + 1)).getD j 0 = r.getD j 0 := by
  rw [subAt, List.getD_eq_getElem?_getD, List.getElem?_append_left (by rw [List.length_take]; omega), List.getElem?_take, if_pos (by omega), List.getD_eq_getElem?_getD]
theorem drop_at (r : List Nat) (j : Nat) (hj : j < r.length) : r.drop j = r.getD j 0 :: r.drop (j + 1) := by
  rw [List.drop_eq_getElem_cons hj, List.getD_eq_getElem?_getD, List.getElem?_eq_getElem hj]; rfl
theorem subAt_step (r l : List Nat) (h : r.length = l.length) (j : Nat) (hj : j < r.length) (x y o z : Nat) (hx : r.getD j 0 = x) (hy : l.getD j 0 = y) (ho : (subD (r.drop (j + 1)) (l.drop (j + 1))).1 = o) (hz : z = if x < y + o then x + 256 - y - o else x - y - o) :
    (subAt r l (j + 1)).set j z = subAt r l j ∧ (subD (r.drop j) (l.drop j)).1 = if x < y + o then 1 else 0 := by
  have e : subD (r.drop j) (l.drop j) = (if x < y + o then 1 else 0, z :: (subD (r.drop (j + 1)) (l.drop (j + 1))).2) := by
    rw [drop_at r j hj, drop_at l j (by omega), hx, hy, subD, ho, hz]
    split <;> rfl
  refine ⟨?_, by rw [e]⟩
  rw [subAt, subAt, e, List.take_succ_eq_append_getElem hj, List.append_assoc, List.set_append_right _ _ (by rw [List.length_take]; omega), List.length_take, Nat.min_eq_left (by omega), Nat.sub_self]
  rfl
theorem subAt_end (r l : List Nat) (h : r.length = l.length) : subAt r l r.length = r ∧ (subD (r.drop r.length) (l.drop r.length)).1 = 0 := by
  rw [subAt, List.drop_length, h, List.drop_length, List.take_of_length_le (by omega)]
  exact ⟨List.append_nil _, rfl⟩
theorem subAt_zero (r l : List Nat) : subAt r l 0 = (subD r l).2 := rfl
/-- The number's bytes, the low one first. -/
theorem digit_byte (r : List Nat) (hl : r.length = 33) (hd : Dig r) (q k : Nat) (hk : k < 33) (hv : hval r = q) : r.getD (32 - k) 0 = (byteAt q k).toNat := by
  have h := dval_take_mod r.reverse (fun x hx => hd x (List.mem_reverse.1 hx)) (k + 1) (by rw [List.length_reverse]; omega)
  have h0 := dval_take_mod r.reverse (fun x hx => hd x (List.mem_reverse.1 hx)) k (by rw [List.length_reverse]; omega)
  have h1 := dval_take r.reverse k (by rw [List.length_reverse]; omega)
  have h2 : r.reverse[k]'(by rw [List.length_reverse]; omega) = r.getD (32 - k) 0 := by
    rw [List.getElem_reverse, List.getD_eq_getElem?_getD, List.getElem?_eq_getElem (by omega)]
    show r[r.length - 1 - k] = r[32 - k]
    congr 1
    omega
  rw [h, h0, h2] at h1
  have h3 : dval r.reverse = q := hv
  rw [h3, Nat.pow_succ, Nat.mod_mul] at h1
  have h4 : 0 < 256 ^ k := Nat.pow_pos (by decide)
  have h5 : q / 256 ^ k % 256 = r.getD (32 - k) 0 := by
    have h6 : 256 ^ k * (q / 256 ^ k % 256) = 256 ^ k * r.getD (32 - k) 0 := by omega
    exact Nat.eq_of_mul_eq_mul_left h4 h6
  rw [← h5, byteAt, UInt8.toNat_ofNat', show (256 : Nat) = 2 ^ 8 from rfl, ← Nat.pow_mul]
set_option maxRecDepth 100000 in
set_option maxHeartbeats 8000000 in
theorem refMod11_over (A : Option Addr) (n c : Nat) (bs : List UInt8) (T : Nat → Nat) (w : World) (HL : Hid (bs.length = n)) (hn : n ≤ 100) (hr : Row w w.heap.size A bs) (HT0 : Hid (T n = 0)) (HTL : Hid (∀ j, j ≤ n → T j < NP.LL)) (HT : Hid (∀ j, j < n → T j = (T (j + 1) * 256 + (bs.getD j 0).toNat) % NP.LL)) :
    Calls Tryd.prog 8 #[.slice A n c] w fun e w' => e = .returned (hashVal (putL (T 0) 32)) ∧ Below w.heap.size w w' := by
  have hmk := make_ints 33 (by decide)
  rw [show ((33 : Nat) : Int) = 33 from rfl] at hmk
  have hn1 : IntKind.i64.wrap ((n : Int) - 1) = (n : Int) - 1 := IntWalk.i64_in _ (by omega)
  go_enter Tryd.func8, Tryd.ntmps8
  go_wp2_with (first
    | (refine vzero_step rfl 24 rfl (List.replicate 32 (cellOf 0)) zero_a32 ?_
       intro w1 hB1 hZ1))
  have hlt1 := hZ1.lt
  obtain ⟨w2, hw2⟩ : ∃ z, z = w1.alloc (.cells (izeros 33).toArray 3) := ⟨_, rfl⟩
  have hs2 : w2.heap.size = w1.heap.size + 1 := by rw [hw2]; simp
  have hR2 : Cells w2 w1.heap.size ((List.replicate 33 0).map icell ++ []) 3 := by rw [hw2, List.append_nil, ← izeros_map]; exact Cells.new _ _ _
  have hB2 : Below w.heap.size w w2 := by rw [hw2]; exact hB1.alloc hB1.size _
  have hZ2 : Cells w2 w.heap.size (List.replicate 32 (cellOf 0)) 24 := by rw [hw2]; exact hZ1.alloc _
  rw [← hw2]
  clear hw2 hB1 hZ1 hmk
  obtain ⟨w3, hw3⟩ : ∃ z, z = w2.alloc (.cells #[.int .i64 0] 3) := ⟨_, rfl⟩
  have hO3 : OwnsI w3 w2.heap.size (.slice (some ⟨w1.heap.size + 1, 0, none⟩) 1 1) [0] := by rw [hw3, ← hs2]; exact OwnsI.lit w2 [0] (Nat.le_refl _) (by decide)
  have hR3 : Cells w3 w1.heap.size ((List.replicate 33 0).map icell ++ []) 3 := by rw [hw3]; exact hR2.alloc _
  have hB3 : Below w.heap.size w w3 := by rw [hw3]; exact hB2.alloc hB2.size _
  have hB23 : Below w2.heap.size w2 w3 := by rw [hw3]; exact (Below.refl _ _).alloc (Nat.le_refl _) _
  have hZ3 : Cells w3 w.heap.size (List.replicate 32 (cellOf 0)) 24 := by rw [hw3]; exact hZ2.alloc _
  rw [← hw3]
  clear hw3 hB2 hZ2 hR2
  refine (modulus_any w3).mono ?_
  rintro e w4 ⟨gm, rfl, hgm, hCm, hB34⟩
  have hO4 := hO3.on hB34
  have hR4 := hR3.on hB34
  have hZ4 := hZ3.on hB34
  have hB4 := below_then hB3 hB34
  have hz4 : w2.heap.size ≤ w4.heap.size := Nat.le_trans hB23.size hB34.size
  have hrowm : RowI w4 w4.heap.size (some ⟨gm, 0, none⟩) ordD := .inr ⟨gm, 0, rfl, hCm.lt, fun j x hx => by rw [Nat.zero_add]; exact hCm.get (by rw [List.getElem?_map, hx]; rfl)⟩
  clear hO3 hR3 hZ3 hB3 hB34 hB23 hgm hCm
  go_wp2_with (first
    | (at_builtin
       refine append_ints rfl (.tmp 12) (.tmp 13) rfl w2.heap.size w4.heap.size _ [0] ordD gm 0 32 32 rfl hO4 rfl rfl hrowm (by decide) hz4 ?_
       intro v5 w5 hown5 hb5))
  have hR5 := hR4.below hb5 (by omega)
  have hZ5 := hZ4.below hb5 (by omega)
  have hB5 : Below w.heap.size w w5 := hB4.trans (hb5.mono (by omega))
  clear hR4 hZ4 hB4 hO4 hrowm hb5
  obtain ⟨gl, cl, rl, rfl, hgl, hcl, hclm, hCl⟩ := hown5.cells (by decide)
  change Cells w5 gl ((0 :: ordD).map icell ++ rl) 3 at hCl
  change 33 ≤ cl at hcl
  rw [show (([0] : List Nat) ++ ordD).length = 33 from rfl]
  clear hown5
  obtain ⟨ls, HLS⟩ := named (0 :: ordD)
  rw [HLS.out] at hCl
  have HLL : Hid (ls.length = 33 ∧ Dig ls ∧ hval ls = NP.LL) := by rw [← HLS.out]; exact ⟨rfl, ordD_dig, ordD_val⟩
  clear HLS
  go_loopw [3, 5] (fun v i wr => ∃ (j g c3 : Nat) (r : List Nat) (rest : List Value), j ≤ n ∧ i = .int .i64 ((j : Int) - 1) ∧ v = .slice (some ⟨g, 0, none⟩) 33 c3 ∧ 33 ≤ c3 ∧ w1.heap.size ≤ g ∧ g ≠ gl ∧ Hid (r.length = 33 ∧ Dig r ∧ hval r = T j) ∧ Cells wr g (r.map icell ++ rest) 3 ∧ Cells wr gl (ls.map icell ++ rl) 3 ∧ Cells wr w.heap.size (List.replicate 32 (cellOf 0)) 24 ∧ Below w.heap.size w wr) (fun _ i _ => ((intOf i) + 1).toNat)
  case atStart => exact ⟨n, w1.heap.size, 33, List.replicate 33 0, [], Nat.le_refl _, rfl, rfl, Nat.le_refl _, Nat.le_refl _, by omega, ⟨rfl, by unfold Dig; decide, by rw [HT0.out]; rfl⟩, hR5, hCl, hZ5, hB5⟩
  case round =>
    clear hR5 hCl hZ5 hB5
    obtain ⟨j, g, c3, r, rest, hj, rfl, rfl, hc3, hg1, hgg, HR3, hC, hCL, hZ, hB⟩ := hrel
    by_cases h0 : 0 < j
    · obtain ⟨k, rfl⟩ : ∃ k, j = k + 1 := ⟨j - 1, by omega⟩
      have hlt : k < n := by omega
      have HTk := Lib.hid (HT.out k hlt)
      obtain ⟨b, off, rfl, hb, hcell⟩ := (hr.below hB).atD k (by rw [HL.out]; exact hlt)
      have hbz : b < wr.heap.size := Nat.lt_of_lt_of_le hb hB.size
      obtain ⟨q, HQ⟩ := named (bs.getD k 0)
      rw [HQ.out] at hcell HTk
      have e1 : (((k + 1 : Nat) : Int) - 1) = (k : Int) := by omega
      have i1 : (0 : Int) ≤ (k : Int) := by omega
      rw [e1]
      clear HT HT0
      go_wp2_with fail
      rename_i K hKK
      have hfin : ∀ (v22 v25 v31 v32 : Value) (wf : World), OwnsI wf wr.heap.size v32 (r.drop 1 ++ [q.toNat]) → Below wr.heap.size wr wf → K (⟨((.slice (some ⟨b, off, none⟩) n c) :: undef :: (.pointer (some ⟨w.heap.size, 0, none⟩)) :: (v32) :: (.slice (some ⟨gl, 0, none⟩) 33 cl) :: (.int .i64 (k : Int)) :: u6 :: u7 :: u8 :: undef :: undef :: (.slice (some ⟨w1.heap.size, 0, none⟩) 33 33) :: (.slice (some ⟨w1.heap.size + 1, 0, none⟩) 1 1) :: (.slice (some ⟨gm, 0, none⟩) 32 32) :: (.slice (some ⟨gl, 0, none⟩) 33 cl) :: (.slice (some ⟨b, off, none⟩) n c) :: (.int .i64 (n : Int)) :: (.int .i64 ((n : Int) - 1)) :: (.int .i64 (k : Int)) :: (.bool true) :: u20 :: u21 :: (v22) :: (.slice (some ⟨g, 0, none⟩) 33 c3) :: (.slice (some ⟨g, 1, none⟩) 32 (c3 - 1)) :: (v25) :: (.slice (some ⟨b, off, none⟩) n c) :: (.int .i64 (k : Int)) :: (.pointer (some ⟨b, off + k, none⟩)) :: (cellOf q) :: (icell q.toNat) :: (v31) :: (v32) :: u33 :: u34 :: u35 :: u36 :: u37 :: u38 :: u39 :: u40 :: u41 :: u42 :: u43 :: u44 :: u45 :: u46 :: u47 :: u48 :: u49 :: u50 :: u51 :: u52 :: u53 :: u54 :: u55 :: u56 :: u57 :: u58 :: undef :: undef :: undef :: undef :: undef :: undef :: undef :: undef :: undef :: undef :: undef :: undef :: undef :: undef :: []).toArray, []⟩ : Act) wf := by
        intro v22 v25 v31 v32 wf hown hBf
        refine hKK _ _ ?_
        clear hKK K
        have hlen : (r.drop 1 ++ [q.toNat]).length = 33 := by rw [List.length_append, List.length_drop, HR3.out.1]; rfl
        obtain ⟨g2, c2, rest2, rfl, hg2, hc2, hc2m, hC2⟩ := hown.cells (by rw [hlen]; decide)
        rw [hlen] at hc2 ⊢
        have hB6 : Below w.heap.size w wf := below_then hB hBf
        have hZ6 := hZ.on hBf
        have hL6 := hCL.on hBf
        have hne2 : g2 ≠ gl := by have := hCL.lt; omega
        have hge2 : w1.heap.size ≤ g2 := by have := hC.lt; omega
        obtain ⟨r2, HN2⟩ := named (r.drop 1 ++ [q.toNat])
        have HV2 : Hid (r2.length = 33 ∧ Dig r2 ∧ hval r2 % NP.LL = T k) := by
          obtain ⟨h1, h2, h3⟩ := HR3.out
          rw [← HN2.out]
          refine ⟨hlen, (h2.drop 1).snoc q.toNat_lt, ?_⟩
          rw [hval_step h1 h2 (by rw [h3]; exact HTL.out (k + 1) (by omega)), h3, HTk.out]
        rw [HN2.out] at hC2
        clear hown hBf hB hZ hCL hC HR3 HN2 hlen hcell hb hbz HTk
        go_wp2_with fail
        go_loopw [6, 7, 8] (fun _ _ _ wr => ∃ r : List Nat, Hid (r.length = 33 ∧ Dig r ∧ hval r % NP.LL = T k) ∧ Cells wr g2 (r.map icell ++ rest2) 3 ∧ Cells wr gl (ls.map icell ++ rl) 3 ∧ Cells wr w.heap.size (List.replicate 32 (cellOf 0)) 24 ∧ Below w.heap.size w wr) (fun _ _ _ wr => numH wr (.slice (some ⟨g2, 0, none⟩) 33 c2))
        case atStart => exact ⟨r2, HV2, hC2, hL6, hZ6, hB6⟩
        case round =>
          clear hC2 hL6 hZ6 hB6 HV2
          obtain ⟨r, HR, hC, hCL, hZ, hB⟩ := hrel
          have CL := less_any (some ⟨g2, 0, none⟩) c2 r wr HR.out.1 HR.out.2.1 (hC.rowFrom 0)
          have HNH : Hid (numH wr (.slice (some ⟨g2, 0, none⟩) 33 c2) = hval r) := by
            show _ = _
            have := numH_row c2 (hC.rowFrom 0)
            rw [List.drop_zero, HR.out.1] at this
            exact this
          obtain ⟨lb, HLB⟩ := named (decide (hval r < NP.LL))
          rw [HLB.out] at CL
          go_wp2_with fail
          refine CL.mono ?_
          rintro e wa ⟨rfl, hba⟩
          have hBa := below_then hB hba
          have hCa := hC.on hba
          have hCLa := hCL.on hba
          have hZa := hZ.on hba
          clear CL hB hC hCL hZ hba
          cases lb
          · have hnl : ¬ hval r < NP.LL := of_decide_eq_false HLB.out
            have HNL := Lib.hid hnl
            clear hnl HLB
            go_wp2_with fail
            go_loopw [6, 7, 8] (fun o i _ wr => ∃ j : Nat, j ≤ 33 ∧ o = .int .i64 (((subD (r.drop j) (ls.drop j)).1 : Nat) : Int) ∧ i = .int .i64 ((j : Int) - 1) ∧ Cells wr g2 ((subAt r ls j).map icell ++ rest2) 3 ∧ Cells wr gl (ls.map icell ++ rl) 3 ∧ Cells wr w.heap.size (List.replicate 32 (cellOf 0)) 24 ∧ Below w.heap.size w wr) (fun _ i _ _ => ((intOf i) + 1).toNat)
            case atStart =>
              obtain ⟨s1, s2⟩ := subAt_end r ls (HR.out.1.trans HLL.out.1.symm)
              rw [HR.out.1] at s1 s2
              exact ⟨33, Nat.le_refl _, by rw [s2]; rfl, rfl, by rw [s1]; exact hCa, hCLa, hZa, hBa⟩
            case round =>
              clear hCa hCLa hZa hBa
              obtain ⟨j, hj, rfl, rfl, hC, hCL, hZ, hB⟩ := hrel
              by_cases h0 : 0 < j
              · obtain ⟨m, rfl⟩ : ∃ m, j = m + 1 := ⟨j - 1, by omega⟩
                have hm : m < 33 := by omega
                have e1 : (((m + 1 : Nat) : Int) - 1) = (m : Int) := by omega
                have i1 : (0 : Int) ≤ (m : Int) := by omega
                have i2 : (m : Int) < 33 := by omega
                have i3 : IntKind.i64.wrap ((m : Int) - 1) = (m : Int) - 1 := IntWalk.i64_in _ (by omega)
                rw [e1]
                have hlr : (subAt r ls (m + 1)).length = 33 := by rw [subAt_length r ls (HR.out.1.trans HLL.out.1.symm) _ (by rw [HR.out.1]; omega)]; exact HR.out.1
                have d1 := hC.intAt m (by rw [hlr]; exact hm)
                rw [subAt_at r ls m (by rw [HR.out.1]; exact hm)] at d1
                have d2 := hCL.intAt m (by rw [HLL.out.1]; exact hm)
                have d3 := hC.frozen m
                have hx := HR.out.2.1.at m
                have hy := HLL.out.2.1.at m
                have ho := subD_owe (r.drop (m + 1)) (ls.drop (m + 1))
                have HST := fun z hz => Lib.hid (subAt_step r ls (HR.out.1.trans HLL.out.1.symm) m (by rw [HR.out.1]; exact hm) _ _ _ z rfl rfl rfl hz)
                have hSA := fun z : Nat => set_front (subAt r ls (m + 1)) rest2 m z (by rw [hlr]; exact hm)
                clear hlr
                generalize r.getD m 0 = x at *
                generalize ls.getD m 0 = y at *
                generalize (subD (r.drop (m + 1)) (ls.drop (m + 1))).1 = o at *
                obtain ⟨d1', hd1⟩ := named ((x : Int) - (y : Int))
                have j1 : IntKind.i64.wrap ((x : Int) - (y : Int)) = d1' := by rw [← hd1.out]; exact IntWalk.i64_in _ (by omega)
                have hd2 : d1' = (x : Int) - (y : Int) := hd1.out.symm
                have HD := Lib.hid hd2
                clear hd1 hd2
                have hge : w.heap.size ≤ g2 := by omega
                have hnez : w.heap.size ≠ g2 := by omega
                by_cases hlt2 : x < y + o
                · obtain ⟨d2', hd2⟩ := named (d1' - (o : Int))
                  have j2 : IntKind.i64.wrap (d1' - (o : Int)) = d2' := by rw [← hd2.out, HD.out]; exact IntWalk.i64_in _ (by omega)
                  have j3 : d2' < 0 := by rw [← hd2.out, HD.out]; omega
                  obtain ⟨z, hz⟩ : ∃ z, z = x + 256 - y - o := ⟨_, rfl⟩
                  have j4 : IntKind.i64.wrap (d2' + 256) = (z : Int) := by rw [hz, ← hd2.out, HD.out, IntWalk.i64_in _ (by omega)]; omega
                  have T1 := HST z (by rw [if_pos hlt2]; exact hz)
                  rw [if_pos hlt2] at T1
                  have S1 := Lib.hid (hSA z)
                  clear HST hSA hz hx hy ho hlt2
                  go_wp2_with fail
                  go_quiet (fail)
                  go_wp2_with fail
                  go_roundw
                  case rel => exact ⟨m, by omega, by rw [T1.out.2]; rfl, rfl, by rw [← T1.out.1, ← S1.out]; exact (hC.drewN nq).set m _, (hCL.drewN nq).other (Ne.symm hne2) _, (hZ.drewN nq).other hnez _, (below_drewN hB nq).setCell (p := ⟨g2, m, none⟩) hge _⟩
                  case measure => simp [intOf] <;> omega
                · obtain ⟨z, hz⟩ : ∃ z, z = x - y - o := ⟨_, rfl⟩
                  obtain ⟨d2', hd2⟩ := named (z : Int)
                  have j2 : IntKind.i64.wrap (d1' - (o : Int)) = d2' := by rw [← hd2.out, hz, HD.out, IntWalk.i64_in _ (by omega)]; omega
                  have J3 := Lib.hid (less_nought d2' false (decide_eq_false (by rw [← hd2.out]; omega)))
                  have T1 := HST z (by rw [if_neg hlt2]; exact hz)
                  rw [if_neg hlt2] at T1
                  have S1 := Lib.hid (hSA z)
                  clear HST hSA hz hx hy ho hlt2
                  go_wp2_with fail
                  go_quiet (fail)
                  go_wp2_with (first
                    | (refine bin_stepA rfl .lss 3 _ (.tmp 51) (.const (.int .i64 0)) rfl (.int .i64 d2') (.int .i64 0) (.bool false) rfl rfl (fun w => less_guard d2' w _ _) J3.out ?_
                       try simp only [Act.put, List.setIfInBounds_toArray, List.set_cons_zero, List.set_cons_succ]
                       skip))
                  go_roundw
                  case rel =>
                    rw [← hd2.out]
                    exact ⟨m, by omega, by rw [T1.out.2]; rfl, rfl, by rw [← T1.out.1, ← S1.out]; exact (hC.drewN nq).set m _, (hCL.drewN nq).other (Ne.symm hne2) _, (hZ.drewN nq).other hnez _, (below_drewN hB nq).setCell (p := ⟨g2, m, none⟩) hge _⟩
                  case measure => simp [intOf] <;> omega
              · obtain rfl : j = 0 := by omega
                rw [show (((0 : Nat) : Int) - 1) = -1 from rfl]
                rw [subAt_zero] at hC
                have HV : Hid (hval (subD r ls).2 = hval r - NP.LL) := by
                  have := subD_less (HR.out.1.trans HLL.out.1.symm) HR.out.2.1 HLL.out.2.1 (by rw [HLL.out.2.2]; exact Nat.le_of_not_lt HNL.out)
                  rw [HLL.out.2.2] at this
                  exact this
                have HS : Hid ((subD r ls).2.length = 33 ∧ Dig (subD r ls).2) := ⟨(subD_length r ls (HR.out.1.trans HLL.out.1.symm)).trans HR.out.1, subD_dig r ls HR.out.2.1 HLL.out.2.1⟩
                generalize (subD r ls).2 = s at *
                go_wp2_with fail
                go_roundw
                case rel => exact ⟨s, ⟨HS.out.1, HS.out.2, by rw [HV.out, ← Nat.mod_eq_sub_mod (Nat.le_of_not_lt HNL.out)]; exact HR.out.2.2⟩, hC, hCL, hZ, hB⟩
                case measure =>
                  have h1 := numH_row c2 (hC.rowFrom 0)
                  rw [List.drop_zero, HS.out.1] at h1
                  have h2 := HNL.out
                  have h3 : 0 < NP.LL := by decide
                  show numH _ _ < numH _ _
                  rw [h1, HNH.out, HV.out]
                  omega
          · have hlv : hval r = T k := by
              have h1 : hval r < NP.LL := of_decide_eq_true HLB.out
              rw [← HR.out.2.2, Nat.mod_eq_of_lt h1]
            have HV := Lib.hid hlv
            have i3 : IntKind.i64.wrap ((k : Int) - 1) = (k : Int) - 1 := IntWalk.i64_in _ (by omega)
            clear hlv
            go_wp2_with fail
            go_roundw
            case rel => exact ⟨k, g2, c2, r, rest2, by omega, rfl, rfl, hc2, hge2, hne2, ⟨HR.out.1, HR.out.2.1, HV.out⟩, hCa, hCLa, hZa, hBa⟩
            case measure => simp [intOf] <;> omega
      have hBd : Below wr.heap.size wr wr.drew := ⟨rfl, rfl, rfl, Nat.le_refl _, fun _ _ => rfl⟩
      have hCd : Cells wr.drew g (r.map icell ++ rest) 3 := hC.drew
      refine wp_region_any (by kernel_rfl) ?_
      refine wpAny_of_held (S := fun w' => Below wr.heap.size wr w') _ _ _ _ ?_
      show wpAnyH _ _ _ _ _ _ _ _ wr.drew
      simp only [List.size_toArray, List.length_cons, List.length_nil, Nat.reduceAdd, Array.replicate_succ, Array.replicate_zero, List.push_toArray, List.nil_append, List.cons_append]
      generalize wr.drew = wd at *
      refine wpAnyH_take (i := 1) (oi := ⟨some 23, _, _, _, _, _⟩) (v := .slice (some ⟨g, 0, none⟩) 33 c3) rfl (by kernel_rfl) (by kernel_rfl) (by kernel_rfl) (fun _ _ _ h => h) (Or.inl ⟨by rfl, fun w8 h8 => ?_⟩) hBd ?_
      · exact exec_move _ _ _ (.inl rfl) (.slice (some ⟨g, 0, none⟩) 33 c3) rfl w8
      try simp only [Act.put, List.setIfInBounds_toArray, List.set_cons_zero, List.set_cons_succ]
      refine wpAnyH_take (i := 2) (oi := ⟨some 24, _, _, _, _, _⟩) (v := .slice (some ⟨g, 1, none⟩) 32 (c3 - 1)) rfl (by kernel_rfl) (by kernel_rfl) (by kernel_rfl) (fun _ _ _ h => h) (Or.inl ⟨by rfl, fun w8 h8 => ?_⟩) hBd ?_
      · exact exec_cut _ rfl g c3 hc3 rfl w8
      try simp only [Act.put, List.setIfInBounds_toArray, List.set_cons_zero, List.set_cons_succ]
      refine wpAnyH_take (i := 4) (oi := ⟨some 26, _, _, _, _, _⟩) (v := .slice (some ⟨b, off, none⟩) n c) rfl (by kernel_rfl) (by kernel_rfl) (by kernel_rfl) (fun _ _ _ h => h) (Or.inl ⟨by rfl, fun w8 h8 => ?_⟩) hBd ?_
      · exact exec_move _ _ _ (.inl rfl) (.slice (some ⟨b, off, none⟩) n c) rfl w8
      try simp only [Act.put, List.setIfInBounds_toArray, List.set_cons_zero, List.set_cons_succ]
      refine wpAnyH_take (i := 5) (oi := ⟨some 27, _, _, _, _, _⟩) (v := .int .i64 (k : Int)) rfl (by kernel_rfl) (by kernel_rfl) (by kernel_rfl) (fun _ _ _ h => h) (Or.inl ⟨by rfl, fun w8 h8 => ?_⟩) hBd ?_
      · exact exec_move _ _ _ (.inl rfl) (.int .i64 (k : Int)) rfl w8
      try simp only [Act.put, List.setIfInBounds_toArray, List.set_cons_zero, List.set_cons_succ]
      refine wpAnyH_take (i := 6) (oi := ⟨some 28, _, _, _, _, _⟩) (v := .pointer (some ⟨b, off + k, none⟩)) rfl (by kernel_rfl) (by kernel_rfl) (by kernel_rfl) (fun _ _ _ h => h) (Or.inl ⟨by rfl, fun w8 h8 => ?_⟩) hBd ?_
      · exact exec_at _ _ rfl b off n c k hlt rfl rfl w8
      try simp only [Act.put, List.setIfInBounds_toArray, List.set_cons_zero, List.set_cons_succ]
      refine wpAnyH_take (i := 7) (oi := ⟨some 29, _, _, _, _, _⟩) (v := cellOf q) rfl (by kernel_rfl) (by kernel_rfl) (by kernel_rfl) (fun _ _ _ h => h) (Or.inl ⟨by rfl, fun w8 h8 => ?_⟩) hBd ?_
      · exact exec_byte _ rfl _ q rfl w8 ((h8.cell hbz).trans hcell)
      try simp only [Act.put, List.setIfInBounds_toArray, List.set_cons_zero, List.set_cons_succ]
      refine wpAnyH_take (i := 8) (oi := ⟨some 30, _, _, _, _, _⟩) (v := icell q.toNat) rfl (by kernel_rfl) (by kernel_rfl) (by kernel_rfl) (fun _ _ _ h => h) (Or.inl ⟨by rfl, fun w8 h8 => ?_⟩) hBd ?_
      · exact exec_conv8 _ rfl q rfl w8
      try simp only [Act.put, List.setIfInBounds_toArray, List.set_cons_zero, List.set_cons_succ]
      obtain ⟨x, hx⟩ : ∃ x, x = q.toNat := ⟨_, rfl⟩
      rw [← hx] at hfin ⊢
      have hdl : (r.drop 1).length = 32 := by rw [List.length_drop, HR3.out.1]
      refine wpAnyH_all (rs := [0, 9]) (by kernel_rfl) (by decide) fun i hi => ?_
      rcases List.mem_cons.1 hi with rfl | hi
      · refine wpOp_step (o := ⟨some 22, _, _, _, _, _⟩) rfl fun K1 hK1 => ?_
        rw [if_pos (by rfl)]
        refine wp_slice_lit 49 0 [] rfl [] rfl 3 #[] lit_none (hK1 _ _ ⟨hBd.alloc hBd.size _, ?_⟩)
        clear hK1 K1
        try simp only [Act.put, List.setIfInBounds_toArray, List.set_cons_zero, List.set_cons_succ]
        obtain ⟨wp1, hw⟩ : ∃ z, z = wd.alloc (.cells #[] 3) := ⟨_, rfl⟩
        rw [← hw]
        have hBp1 : Below wr.heap.size wr wp1 := by rw [hw]; exact hBd.alloc hBd.size _
        have hOp1 : OwnsI wp1 wr.heap.size (.slice (some ⟨wd.heap.size, 0, none⟩) 0 0) [] := by rw [hw]; exact OwnsI.lit wd [] hBd.size (by decide)
        have hCp1 : Cells wp1 g (r.map icell ++ rest) 3 := by rw [hw]; exact hCd.alloc _
        clear hw
        have hlt22 : wd.heap.size < wp1.heap.size := (World.ownsRow.lt hOp1 _ rfl).2
        refine wpAnyH_all (rs := [3, 9]) (by kernel_rfl) (by decide) fun i hi => ?_
        rcases List.mem_cons.1 hi with rfl | hi
        · refine wpOp_step (o := ⟨some 25, _, _, _, _, _⟩) rfl fun K1 hK1 => ?_
          rw [if_pos (by rfl)]
          refine wp_append_ints (.tmp 22) (.tmp 24) rfl wr.heap.size wp1.heap.size _ [] (r.drop 1) g 1 32 (c3 - 1) rfl hOp1 rfl hdl (hCp1.rowFrom 1) (by rw [hdl]; decide) hBp1.size ?_
          intro v25 wp2 hPp2 hbp2 hbut
          refine hK1 _ _ ⟨hBp1.trans hbp2, ?_⟩
          clear hK1 K1
          try simp only [Act.put, List.setIfInBounds_toArray, List.set_cons_zero, List.set_cons_succ]
          have hBp2 := hBp1.trans hbp2
          clear hbut
          refine wpAnyH_all (rs := [9]) (by kernel_rfl) (by decide) fun i hi => ?_
          obtain rfl := List.mem_singleton.1 hi
          clear hi
          refine wpOp_step (o := ⟨some 31, _, _, _, _, _⟩) rfl fun K1 hK1 => ?_
          rw [if_pos (by rfl)]
          refine wp_slice_lit 49 1 [(0, .tmp 30)] rfl [(0, icell x)] rfl 3 ([x].map icell).toArray (lit_one x) (hK1 _ _ ⟨hBp2.alloc hBp2.size _, ?_⟩)
          clear hK1 K1
          try simp only [Act.put, List.setIfInBounds_toArray, List.set_cons_zero, List.set_cons_succ]
          obtain ⟨wp3, hw⟩ : ∃ z, z = wp2.alloc (.cells ([x].map icell).toArray 3) := ⟨_, rfl⟩
          rw [← hw]
          have hBp3 : Below wr.heap.size wr wp3 := by rw [hw]; exact hBp2.alloc hBp2.size _
          have hcp3 : wp3.cell? ⟨wp2.heap.size, 0, none⟩ = some (icell x) := by rw [hw]; exact cell_lit wp2 x
          have hgp3 : wp2.heap.size < wp3.heap.size := by rw [hw, World.size_alloc]; omega
          have hPp3 := hPp2.kept_alloc (.cells ([x].map icell).toArray 3)
          rw [← hw] at hPp3
          clear hw
          refine wpAnyH_all (rs := [10]) (by kernel_rfl) (by decide) fun i hi => ?_
          obtain rfl := List.mem_singleton.1 hi
          clear hi
          refine wpOp_step (o := ⟨some 32, _, _, _, _, _⟩) rfl fun K1 hK1 => ?_
          rw [if_pos (by rfl)]
          refine wp_append_ints (.tmp 25) (.tmp 31) rfl wr.heap.size wp3.heap.size _ (r.drop 1) [x] _ 0 1 1 rfl hPp3 rfl rfl (row_one hcp3 hgp3) (by rw [hdl]; show 32 + 1 ≤ 1000000; decide) hBp3.size ?_
          intro v32 wp4 hZp4 hbp4 _
          refine hK1 _ _ ⟨hBp3.trans hbp4, ?_⟩
          clear hK1 K1
          try simp only [Act.put, List.setIfInBounds_toArray, List.set_cons_zero, List.set_cons_succ]
          have hBp4 := hBp3.trans hbp4
          refine wpAnyH_all (rs := [11]) (by kernel_rfl) (by decide) fun i hi => ?_
          obtain rfl := List.mem_singleton.1 hi
          clear hi
          refine wpOp_step (o := ⟨some 3, _, _, _, _, _⟩) rfl fun K1 hK1 => ?_
          rw [if_pos (by rfl)]
          refine flat_pure v32 (exec_move _ _ _ (.inr rfl) v32 rfl _) (hK1 _ _ ⟨hBp4, ?_⟩)
          clear hK1 K1
          try simp only [Act.put, List.setIfInBounds_toArray, List.set_cons_zero, List.set_cons_succ]
          refine wpAnyH_done (by kernel_rfl) ?_ _
          exact hfin _ _ _ _ _ hZp4 hBp4
        obtain rfl := List.mem_singleton.1 hi
        refine wpOp_step (o := ⟨some 31, _, _, _, _, _⟩) rfl fun K1 hK1 => ?_
        rw [if_pos (by rfl)]
        refine wp_slice_lit 49 1 [(0, .tmp 30)] rfl [(0, icell x)] rfl 3 ([x].map icell).toArray (lit_one x) (hK1 _ _ ⟨hBp1.alloc hBp1.size _, ?_⟩)
        clear hK1 K1
        try simp only [Act.put, List.setIfInBounds_toArray, List.set_cons_zero, List.set_cons_succ]
        obtain ⟨wp2, hw⟩ : ∃ z, z = wp1.alloc (.cells ([x].map icell).toArray 3) := ⟨_, rfl⟩
        rw [← hw]
        have hBp2 : Below wr.heap.size wr wp2 := by rw [hw]; exact hBp1.alloc hBp1.size _
        have hCp2 : Cells wp2 g (r.map icell ++ rest) 3 := by rw [hw]; exact hCp1.alloc _
        have hcp2 : wp2.cell? ⟨wp1.heap.size, 0, none⟩ = some (icell x) := by rw [hw]; exact cell_lit wp1 x
        have hgp2 : wp1.heap.size < wp2.heap.size := by rw [hw, World.size_alloc]; omega
        have hOp2 := hOp1.kept_alloc (.cells ([x].map icell).toArray 3)
        rw [← hw] at hOp2
        have hnep2 : wp1.heap.size ≠ wd.heap.size := by have := hlt22; omega
        clear hw
        refine wpAnyH_all (rs := [3]) (by kernel_rfl) (by decide) fun i hi => ?_
        obtain rfl := List.mem_singleton.1 hi
        clear hi
        refine wpOp_step (o := ⟨some 25, _, _, _, _, _⟩) rfl fun K1 hK1 => ?_
        rw [if_pos (by rfl)]
        refine wp_append_ints (.tmp 22) (.tmp 24) rfl wr.heap.size wp2.heap.size _ [] (r.drop 1) g 1 32 (c3 - 1) rfl hOp2 rfl hdl (hCp2.rowFrom 1) (by rw [hdl]; decide) hBp2.size ?_
        intro v25 wp3 hPp3 hbp3 hbut
        refine hK1 _ _ ⟨hBp2.trans hbp3, ?_⟩
        clear hK1 K1
        try simp only [Act.put, List.setIfInBounds_toArray, List.set_cons_zero, List.set_cons_succ]
        have hBp3 := hBp2.trans hbp3
        have hcp3 := cell_but (hbut _ rfl) hgp2 hnep2 hcp2
        have hgp3 := Nat.lt_of_lt_of_le hgp2 (hbut _ rfl).size
        clear hbut
        refine wpAnyH_all (rs := [10]) (by kernel_rfl) (by decide) fun i hi => ?_
        obtain rfl := List.mem_singleton.1 hi
        clear hi
        refine wpOp_step (o := ⟨some 32, _, _, _, _, _⟩) rfl fun K1 hK1 => ?_
        rw [if_pos (by rfl)]
        refine wp_append_ints (.tmp 25) (.tmp 31) rfl wr.heap.size wp3.heap.size _ (r.drop 1) [x] _ 0 1 1 rfl hPp3 rfl rfl (row_one hcp3 hgp3) (by rw [hdl]; show 32 + 1 ≤ 1000000; decide) hBp3.size ?_
        intro v32 wp4 hZp4 hbp4 _
        refine hK1 _ _ ⟨hBp3.trans hbp4, ?_⟩
        clear hK1 K1
        try simp only [Act.put, List.setIfInBounds_toArray, List.set_cons_zero, List.set_cons_succ]
        have hBp4 := hBp3.trans hbp4
        refine wpAnyH_all (rs := [11]) (by kernel_rfl) (by decide) fun i hi => ?_
        obtain rfl := List.mem_singleton.1 hi
        clear hi
        refine wpOp_step (o := ⟨some 3, _, _, _, _, _⟩) rfl fun K1 hK1 => ?_
        rw [if_pos (by rfl)]
        refine flat_pure v32 (exec_move _ _ _ (.inr rfl) v32 rfl _) (hK1 _ _ ⟨hBp4, ?_⟩)
        clear hK1 K1
        try simp only [Act.put, List.setIfInBounds_toArray, List.set_cons_zero, List.set_cons_succ]
        refine wpAnyH_done (by kernel_rfl) ?_ _
        exact hfin _ _ _ _ _ hZp4 hBp4
      obtain rfl := List.mem_singleton.1 hi
      refine wpOp_step (o := ⟨some 31, _, _, _, _, _⟩) rfl fun K1 hK1 => ?_
      rw [if_pos (by rfl)]
      refine wp_slice_lit 49 1 [(0, .tmp 30)] rfl [(0, icell x)] rfl 3 ([x].map icell).toArray (lit_one x) (hK1 _ _ ⟨hBd.alloc hBd.size _, ?_⟩)
      clear hK1 K1
      try simp only [Act.put, List.setIfInBounds_toArray, List.set_cons_zero, List.set_cons_succ]
      obtain ⟨wp1, hw⟩ : ∃ z, z = wd.alloc (.cells ([x].map icell).toArray 3) := ⟨_, rfl⟩
      rw [← hw]
      have hBp1 : Below wr.heap.size wr wp1 := by rw [hw]; exact hBd.alloc hBd.size _
      have hCp1 : Cells wp1 g (r.map icell ++ rest) 3 := by rw [hw]; exact hCd.alloc _
      have hcp1 : wp1.cell? ⟨wd.heap.size, 0, none⟩ = some (icell x) := by rw [hw]; exact cell_lit wd x
      have hgp1 : wd.heap.size < wp1.heap.size := by rw [hw, World.size_alloc]; omega
      clear hw
      refine wpAnyH_all (rs := [0]) (by kernel_rfl) (by decide) fun i hi => ?_
      obtain rfl := List.mem_singleton.1 hi
      clear hi
      refine wpOp_step (o := ⟨some 22, _, _, _, _, _⟩) rfl fun K1 hK1 => ?_
      rw [if_pos (by rfl)]
      refine wp_slice_lit 49 0 [] rfl [] rfl 3 #[] lit_none (hK1 _ _ ⟨hBp1.alloc hBp1.size _, ?_⟩)
      clear hK1 K1
      try simp only [Act.put, List.setIfInBounds_toArray, List.set_cons_zero, List.set_cons_succ]
      obtain ⟨wp2, hw⟩ : ∃ z, z = wp1.alloc (.cells #[] 3) := ⟨_, rfl⟩
      rw [← hw]
      have hBp2 : Below wr.heap.size wr wp2 := by rw [hw]; exact hBp1.alloc hBp1.size _
      have hOp2 : OwnsI wp2 wr.heap.size (.slice (some ⟨wp1.heap.size, 0, none⟩) 0 0) [] := by rw [hw]; exact OwnsI.lit wp1 [] hBp1.size (by decide)
      have hCp2 : Cells wp2 g (r.map icell ++ rest) 3 := by rw [hw]; exact hCp1.alloc _
      have hcp2 : wp2.cell? ⟨wd.heap.size, 0, none⟩ = some (icell x) := by rw [hw]; exact cell_alloc _ hgp1 hcp1
      have hgp2 : wd.heap.size < wp2.heap.size := by rw [hw, World.size_alloc]; omega
      have hnep2 : wd.heap.size ≠ wp1.heap.size := Nat.ne_of_lt hgp1
      clear hw
      refine wpAnyH_all (rs := [3]) (by kernel_rfl) (by decide) fun i hi => ?_
      obtain rfl := List.mem_singleton.1 hi
      clear hi
      refine wpOp_step (o := ⟨some 25, _, _, _, _, _⟩) rfl fun K1 hK1 => ?_
      rw [if_pos (by rfl)]
      refine wp_append_ints (.tmp 22) (.tmp 24) rfl wr.heap.size wp2.heap.size _ [] (r.drop 1) g 1 32 (c3 - 1) rfl hOp2 rfl hdl (hCp2.rowFrom 1) (by rw [hdl]; decide) hBp2.size ?_
      intro v25 wp3 hPp3 hbp3 hbut
      refine hK1 _ _ ⟨hBp2.trans hbp3, ?_⟩
      clear hK1 K1
      try simp only [Act.put, List.setIfInBounds_toArray, List.set_cons_zero, List.set_cons_succ]
      have hBp3 := hBp2.trans hbp3
      have hcp3 := cell_but (hbut _ rfl) hgp2 hnep2 hcp2
      have hgp3 := Nat.lt_of_lt_of_le hgp2 (hbut _ rfl).size
      clear hbut
      refine wpAnyH_all (rs := [10]) (by kernel_rfl) (by decide) fun i hi => ?_
      obtain rfl := List.mem_singleton.1 hi
      clear hi
      refine wpOp_step (o := ⟨some 32, _, _, _, _, _⟩) rfl fun K1 hK1 => ?_
      rw [if_pos (by rfl)]
      refine wp_append_ints (.tmp 25) (.tmp 31) rfl wr.heap.size wp3.heap.size _ (r.drop 1) [x] _ 0 1 1 rfl hPp3 rfl rfl (row_one hcp3 hgp3) (by rw [hdl]; show 32 + 1 ≤ 1000000; decide) hBp3.size ?_
      intro v32 wp4 hZp4 hbp4 _
      refine hK1 _ _ ⟨hBp3.trans hbp4, ?_⟩
      clear hK1 K1
      try simp only [Act.put, List.setIfInBounds_toArray, List.set_cons_zero, List.set_cons_succ]
      have hBp4 := hBp3.trans hbp4
      refine wpAnyH_all (rs := [11]) (by kernel_rfl) (by decide) fun i hi => ?_
      obtain rfl := List.mem_singleton.1 hi
      clear hi
      refine wpOp_step (o := ⟨some 3, _, _, _, _, _⟩) rfl fun K1 hK1 => ?_
      rw [if_pos (by rfl)]
      refine flat_pure v32 (exec_move _ _ _ (.inr rfl) v32 rfl _) (hK1 _ _ ⟨hBp4, ?_⟩)
      clear hK1 K1
      try simp only [Act.put, List.setIfInBounds_toArray, List.set_cons_zero, List.set_cons_succ]
      refine wpAnyH_done (by kernel_rfl) ?_ _
      exact hfin _ _ _ _ _ hZp4 hBp4
    · obtain rfl : j = 0 := by omega
      rw [show (((0 : Nat) : Int) - 1) = -1 from rfl]
      obtain ⟨Q, HQ⟩ := named (T 0)
      rw [HQ.out] at HR3
      have hQ' : ∀ (e : Ending) (w' : World), (e = .returned (hashVal (putL Q 32)) ∧ Below w.heap.size w w') → (e = .returned (hashVal (putL (T 0) 32)) ∧ Below w.heap.size w w') := fun e w' h => by rw [HQ.out]; exact h
      have hg0 : w.heap.size < g := by omega
      clear HT HTL HT0 HLL hCL
      go_wp2_with (first
        | (refine build_step rfl 24 [] rfl [] rfl _ build_a32 ?_
           try simp only [Act.put, List.setIfInBounds_toArray, List.set_cons_zero, List.set_cons_succ]
           skip)
        | (refine put_step rfl rfl 24 (.tmp 9) (.tmp 59) rfl rfl 32 (List.replicate 32 0) rfl rfl zero_a32 size_a32 (by simp) ?_
           intro w6 hb6 hO6 _
           have hB6 := below_then hB hb6
           have hC6 := hC.on hb6
           have hZ6 := hZ.on hb6
           have hzlt := hC.lt
           clear hB hC hZ hb6))
      have hgo : g < wr.heap.size := hzlt
      generalize hq9 : wr.heap.size = go at *
      clear hq9
      go_loopw [10] (fun i wr => ∃ k : Nat, k ≤ 32 ∧ i = .int .i64 (k : Int) ∧ Below w.heap.size w wr ∧ Cells wr go ((putL Q k ++ List.replicate (32 - k) 0).map cellOf) 24 ∧ Cells wr g (r.map icell ++ rest) 3 ∧ Cells wr w.heap.size (List.replicate 32 (cellOf 0)) 24) (fun i _ => 32 - (intOf i).toNat)
      case atStart => exact ⟨0, Nat.zero_le _, rfl, hB6, hO6, hC6, hZ6⟩
      case round =>
        clear hB6 hO6 hC6 hZ6
        obtain ⟨k, hk, rfl, hB, hO, hC, hZ⟩ := hrel
        by_cases hlt : k < 32
        · have i1 : (0 : Int) ≤ (k : Int) := by omega
          have i2 : (k : Int) < 32 := by omega
          have i3 : (0 : Int) ≤ 32 - (k : Int) := by omega
          have i4 : (32 : Int) - (k : Int) < 33 := by omega
          have i5 : ((32 : Int) - (k : Int)).toNat = 32 - k := by omega
          have i6 : IntKind.i64.wrap (32 - (k : Int)) = 32 - (k : Int) := IntWalk.i64_in _ (by omega)
          have d1 := hC.intAt (32 - k) (by rw [HR3.out.1]; omega)
          rw [digit_byte r HR3.out.1 HR3.out.2.1 Q k (by omega) HR3.out.2.2] at d1
          have hpl := putL_length Q k
          have d2 := hO.frozen k
          have d0 := hO.get (show ((putL Q k ++ List.replicate (32 - k) 0).map cellOf)[k]? = some (cellOf 0) by rw [List.getElem?_map, List.getElem?_append_right (by omega), hpl, Nat.sub_self, List.getElem?_replicate, if_pos (by omega)]; rfl)
          have hS := Lib.hid (hO.set k (cellOf (byteAt Q k)))
          have hP := Lib.hid (set_nextV (putL Q k) k 32 (byteAt Q k) 0 hpl hlt)
          have hPS := Lib.hid (putL_succ Q k)
          have hq := (byteAt Q k).toNat_lt
          generalize byteAt Q k = q at *
          have j1 : IntKind.u8.wrap (q.toNat : Int) = (q.toNat : Int) := by rw [IntKind.wrap_u8]; omega
          clear hq
          go_wp2_with fail
          go_roundw
          case rel =>
            refine ⟨k + 1, by omega, by go_num, hB.setCell (p := ⟨go, k, none⟩) (by show w.heap.size ≤ go; omega) _, ?_, hC.other (by show g ≠ go; omega) _, hZ.other (by show w.heap.size ≠ go; omega) _⟩
            rw [hPS.out, ← hP.out, List.map_set]
            exact hS.out
          case measure => simp [intOf] <;> omega
        · obtain rfl : k = 32 := by omega
          rw [show ((32 : Nat) : Int) = 32 from rfl]
          have hp : putL Q 32 ++ List.replicate (32 - 32) 0 = putL Q 32 := List.append_nil _
          rw [hp] at hO
          have hpl := Lib.hid (putL_length Q 32)
          obtain ⟨p, HP⟩ := named (putL Q 32)
          rw [HP.out] at hO hpl hQ'
          clear hp
          go_wp2_with (first
            | (refine get_step rfl 24 (.tmp 9) rfl go 32 p _ rfl hO Tryd.underlying24 size_a32 hpl.out ?_
               try simp only [Act.put, List.setIfInBounds_toArray, List.set_cons_zero, List.set_cons_succ]
               skip)
            | (refine set_step rfl 24 _ _ rfl w.heap.size 32 (List.replicate 32 (cellOf 0)) p rfl rfl hZ (by simp) size_a32 hpl.out ?_
               intro w7 hb7 hC7 _))
          exact ret_hash Tryd.results8 w.heap.size p rfl hC7 Tryd.underlying24 size_a32 hpl.out rfl (hQ' _ _ ⟨rfl, hB.trans (hb7.below (Nat.le_refl _) hB.size)⟩)
theorem mod_step (a q m : Nat) : (a % m * 256 + q) % m = (q + 256 * a) % m := by
  rw [Nat.add_mod, Nat.mod_mul_mod, ← Nat.add_mod]
  congr 1
  omega
theorem lev_dropS (bs : List UInt8) (j : Nat) (h : j < bs.length) : lev (bs.drop j) = (bs.getD j 0).toNat + 256 * lev (bs.drop (j + 1)) := by
  rw [List.drop_eq_getElem_cons h, List.getD_eq_getElem?_getD, List.getElem?_eq_getElem h]
  rfl
theorem refMod11_any (A : Option Addr) (n c : Nat) (bs : List UInt8) (w : World) (hl : bs.length = n) (hn : n ≤ 100) (hr : Row w w.heap.size A bs) : Calls Tryd.prog 8 #[.slice A n c] w fun e w' => e = .returned (hashVal (putL (lev bs % NP.LL) 32)) ∧ Below w.heap.size w w' := by
  have h := refMod11_over A n c bs (fun j => lev (bs.drop j) % NP.LL) w hl hn hr (by show _ = _; rw [List.drop_of_length_le (by omega)]; rfl) (fun j _ => Nat.mod_lt _ (by decide)) (fun j hj => by
    show _ = _
    rw [lev_dropS bs j (by omega), mod_step])
  rw [List.drop_zero] at h
  exact h
end Go.Proofs.YticgkabamelddaaDoor
namespace Go.Proofs.YticgkabamelddaaDoor
open Go.RowKit
theorem rowB_new (w : World) (u : UInt8) : Row (w.alloc (.cells #[cellOf u] 5)) (w.heap.size + 1) (some ⟨w.heap.size, 0, none⟩) [u] := by
  refine .inr ⟨_, 0, rfl, by omega, fun j x hx => ?_⟩
  rw [Nat.zero_add]
  exact (Cells.new w #[cellOf u] 5).get (by
    match j with
    | 0 => cases hx; rfl
    | j + 1 => cases hx)
theorem byteAt_toNat (x i : Nat) : (byteAt x i).toNat = x / 256 ^ i % 256 := by rw [byteAt, UInt8.toNat_ofNat']
theorem key_at (k : List UInt8) (j : Nat) (h : j < k.length) : (k.map cellOf)[j]? = some (cellOf (k.getD j 0)) := by
  rw [List.getElem?_map, List.getD_eq_getElem?_getD, List.getElem?_eq_getElem h]; rfl
set_option maxRecDepth 100000 in
set_option maxHeartbeats 2000000 in
theorem refAdd11_over (a b : List UInt8) (O Y : Nat → Nat) (S : Nat) (w : World) (HA : Hid (a.length = 32)) (HB : Hid (b.length = 32)) (H0 : Hid (O 0 = 0)) (HL : Hid (∀ k, k ≤ 32 → O k ≤ 1000)) (HY : Hid (∀ k, k < 32 → O k + ((a.getD k 0).toNat + (b.getD k 0).toNat) = Y k)) (HO : Hid (∀ k, k < 32 → O (k + 1) = Y k / 256)) (HD : Hid (∀ k, k < 32 → Y k % 256 = (byteAt S k).toNat)) (HE : Hid (O 32 = (byteAt S 32).toNat)) (HS : Hid (lev (putL S 33) = S)) :
    Calls Tryd.prog 12 #[hashVal a, hashVal b] w fun e w' => e = .returned (hashVal (putL (S % NP.LL) 32)) ∧ Below w.heap.size w w' := by
  obtain ⟨rs, HRS⟩ := named (putL (S % NP.LL) 32)
  have HRL : Hid (rs.length = 32) := by show _ = _; rw [← HRS.out]; exact putL_length _ _
  rw [HRS.out]
  go_enter Tryd.func12, Tryd.ntmps12
  go_wp2_with (first
    | (refine take_step rfl 24 (.tmp 0) rfl a rfl ?_
       intro w1 hB1 hA1 hz
       clear hz
       try simp only [Act.put, List.setIfInBounds_toArray, List.set_cons_zero, List.set_cons_succ]
       skip)
    | (refine take_step rfl 24 (.tmp 1) rfl b rfl ?_
       intro w2 hb2 hC2 hz
       have hB2 := below_then hB1 hb2
       have hA2 := hA1.on hb2
       have hlt1 := hA1.lt
       clear hz hB1 hA1 hb2
       try simp only [Act.put, List.setIfInBounds_toArray, List.set_cons_zero, List.set_cons_succ]
       skip)
    | (refine vzero_step (o := ⟨some 4, _, _, _, _, _⟩) rfl 24 rfl (List.replicate 32 (cellOf 0)) zero_a32 ?_
       intro w3 hb3 hZ3
       have hB3 := below_then hB2 hb3
       have hA3 := hA2.on hb3
       have hC3 := hC2.on hb3
       have hlt2 := hC2.lt
       have hlt3 := hZ3.lt
       clear hB2 hA2 hC2 hb3))
  have hO3 : Owns (w3.alloc (.cells #[] 5)) w3.heap.size (.slice (some ⟨w3.heap.size, 0, none⟩) 0 0) [] := Owns.lit w3 [] (Nat.le_refl _) (by decide)
  have hA4 := hA3.alloc (.cells #[] 5)
  have hC4 := hC3.alloc (.cells #[] 5)
  have hZ4 := hZ3.alloc (.cells #[] 5)
  have hB4 : Below w.heap.size w (w3.alloc (.cells #[] 5)) := hB3.alloc hB3.size _
  have hb4 : Below w3.heap.size w3 (w3.alloc (.cells #[] 5)) := (Below.refl _ _).alloc (Nat.le_refl _) _
  generalize w3.alloc (.cells #[] 5) = w4 at *
  generalize hq3 : w3.heap.size = g3 at *
  generalize hq2 : w2.heap.size = g2 at *
  generalize hq1 : w1.heap.size = g1 at *
  clear hA3 hC3 hZ3 hB3 hq1 hq2
  have hgz := hb4.size
  rw [hq3] at hgz
  clear hb4 hq3
  go_loopw [5, 6, 7] (fun v o i wr => ∃ k : Nat, k ≤ 32 ∧ i = .int .i64 (k : Int) ∧ o = .int .i64 (O k : Int) ∧ Below w.heap.size w wr ∧ g3 ≤ wr.heap.size ∧ Cells wr w.heap.size (a.map cellOf) 24 ∧ Cells wr g1 (b.map cellOf) 24 ∧ Cells wr g2 (List.replicate 32 (cellOf 0)) 24 ∧ Owns wr g3 v (putL S k)) (fun _ _ i _ => 32 - (intOf i).toNat)
  case atStart => exact ⟨0, Nat.zero_le _, rfl, by rw [H0.out]; rfl, hB4, hgz, hA4, hC4, hZ4, hO3⟩
  case round =>
    clear hO3 hA4 hC4 hZ4 hB4 hgz
    obtain ⟨k, hk, rfl, rfl, hB, hgz, hA, hC, hZ, hO⟩ := hrel
    by_cases hlt : k < 32
    · have i1 : (0 : Int) ≤ (k : Int) := by omega
      have i2 : (k : Int) < 32 := by omega
      have d1 := hA.get (key_at a k (by rw [HA.out]; exact hlt))
      have d2 := hC.get (key_at b k (by rw [HB.out]; exact hlt))
      have y1 := HY.out k hlt
      have y2 := HO.out k hlt
      have y3 := HD.out k hlt
      have y4 := HL.out k hk
      have hp := Lib.hid (putL_succ S k)
      have hpl := Lib.hid (putL_length S k)
      obtain ⟨l, HLN⟩ := named (putL S k)
      rw [HLN.out] at hp hpl hO
      have hx := (a.getD k 0).toNat_lt
      have hy := (b.getD k 0).toNat_lt
      generalize a.getD k 0 = x at *
      generalize b.getD k 0 = y at *
      obtain ⟨on, HON⟩ := named (O (k + 1))
      rw [HON.out] at y2
      generalize O k = ok at *
      generalize Y k = yk at *
      generalize byteAt S k = q at *
      have j0 : IntKind.i64.wrap (x.toNat : Int) = (x.toNat : Int) := IntWalk.i64_in _ (by omega)
      have j00 : IntKind.i64.wrap (y.toNat : Int) = (y.toNat : Int) := IntWalk.i64_in _ (by omega)
      obtain ⟨s', hs⟩ := named ((x.toNat : Int) + (y.toNat : Int))
      have j1 : IntKind.i64.wrap ((x.toNat : Int) + (y.toNat : Int)) = s' := by rw [← hs.out]; exact IntWalk.i64_in _ (by omega)
      have j2 : IntKind.i64.wrap ((ok : Int) + s') = (yk : Int) := by rw [← hs.out, IntWalk.i64_in _ (by omega)]; omega
      have j3 : (yk : Int) % 256 = (q.toNat : Int) := by omega
      have j4 : (yk : Int) / 256 = (on : Int) := by omega
      have j5 : IntKind.u8.wrap (q.toNat : Int) = (q.toNat : Int) := by rw [IntKind.wrap_u8]; have := q.toNat_lt; omega
      have j6 : IntKind.i64.wrap (on : Int) = (on : Int) := IntWalk.i64_in _ (by omega)
      clear y1 y2 y3 y4 hx hy HY HO HD HL
      have hpl2 : l.length = k := hpl.out
      have hlen : l.length + [q].length ≤ 1000000 := by rw [hpl2]; show k + 1 ≤ 1000000; omega
      have HLEN := Lib.hid hlen
      clear hpl2 hlen
      go_wp2_with fail
      go_quiet (fail)
      go_wp2_with (first
        | (at_builtin
           refine append_row rfl (.tmp 24) (.tmp 28) rfl g3 _ l [q] (wr.heap.size + 1) (some ⟨wr.heap.size, 0, none⟩) 1 rfl ((hO.drewN nq).kept_alloc _) rfl (fun h => by cases h) (rowB_new (wr.drewN nq) q) HLEN.out (by have := hgz; simp; omega) ?_
           intro v5 w5 hown5 hb5))
      go_roundw
      case rel =>
        have hb6 : Below g3 wr w5 := ((below_drewN (Below.refl _ _) nq).alloc hgz _).trans hb5
        exact ⟨k + 1, by omega, by go_num, by rw [HON.out], hB.trans (hb6.mono (by omega)), Nat.le_trans hgz hb6.size, hA.below hb6 (by omega), hC.below hb6 (by omega), hZ.below hb6 (by omega), by rw [hp.out]; exact hown5⟩
      case measure => simp [intOf] <;> omega
    · obtain rfl : k = 32 := by omega
      rw [show ((32 : Nat) : Int) = 32 from rfl]
      rw [HE.out]
      have hp := Lib.hid (putL_succ S 32)
      have hpl := Lib.hid (putL_length S 32)
      have hpl3 := Lib.hid (putL_length S 33)
      obtain ⟨l3, HL3⟩ := named (putL S (32 + 1))
      obtain ⟨l, HLN⟩ := named (putL S 32)
      rw [HLN.out] at hp hpl hO
      rw [HL3.out] at hp
      have HL33 : Hid (putL S 33 = l3) := HL3
      rw [HL33.out] at HS hpl3
      generalize byteAt S 32 = q at *
      have j5 : IntKind.u8.wrap (q.toNat : Int) = (q.toNat : Int) := by rw [IntKind.wrap_u8]; have := q.toNat_lt; omega
      have hlen : l.length + [q].length ≤ 1000000 := by rw [hpl.out]; show 32 + 1 ≤ 1000000; decide
      have HLEN := Lib.hid hlen
      clear hlen HY HO HD HL H0 hA hC
      go_wp2_with (first
        | (at_builtin
           refine append_row rfl (.tmp 32) (.tmp 35) rfl g3 _ l [q] (wr.heap.size + 1) (some ⟨wr.heap.size, 0, none⟩) 1 rfl (hO.kept_alloc _) rfl (fun h => by cases h) (rowB_new wr q) HLEN.out (by have := hgz; simp; omega) ?_
           intro v5 w5 hown5 hb5
           rw [← hp.out] at hown5
           obtain ⟨A5, c5, rfl, hc5, hA5, hr5⟩ := hown5.form
           rw [hpl3.out]
           have CM := Lib.hid (refMod11_any A5 33 c5 l3 w5 hpl3.out (by decide) hr5)
           have hb6 : Below g3 wr w5 := ((Below.refl _ _).alloc hgz _).trans hb5
           have hB5 := hB.trans (hb6.mono (by omega))
           have hZ5 := hZ.below hb6 (by omega)
           clear hown5 hb5 hb6 hB hZ hO hr5))
      rw [HS.out, HRS.out] at CM
      refine CM.out.mono ?_
      rintro e w6 ⟨rfl, hb6⟩
      have hB6 := below_then hB5 hb6
      have hZ6 := hZ5.on hb6
      clear CM hB5 hZ5 hb6
      go_wp2_with (first
        | (refine set_step rfl 24 _ _ rfl g2 32 (List.replicate 32 (cellOf 0)) rs rfl rfl hZ6 (by simp) size_a32 HRL.out ?_
           intro w7 hb7 hC7 _))
      exact ret_hash Tryd.results12 g2 rs rfl hC7 Tryd.underlying24 size_a32 HRL.out rfl ⟨rfl, hB6.trans (hb7.below (by omega) hB6.size)⟩
theorem refAdd11_any (a b : List UInt8) (w : World) (ha : a.length = 32) (hb : b.length = 32) : Calls Tryd.prog 12 #[hashVal a, hashVal b] w fun e w' => e = .returned (hashVal (putL ((lev a + lev b) % NP.LL) 32)) ∧ Below w.heap.size w w' := by
  have la : (a.map (·.toNat)).length = 32 := by rw [List.length_map]; exact ha
  have lb : (b.map (·.toNat)).length = 32 := by rw [List.length_map]; exact hb
  have ga : ∀ k, k < 32 → (a.getD k 0).toNat = (a.map (·.toNat)).getD k 0 := fun k hk => by
    rw [List.getD_eq_getElem?_getD, List.getD_eq_getElem?_getD, List.getElem?_map, List.getElem?_eq_getElem (by omega)]; rfl
  have gb : ∀ k, k < 32 → (b.getD k 0).toNat = (b.map (·.toNat)).getD k 0 := fun k hk => by
    rw [List.getD_eq_getElem?_getD, List.getD_eq_getElem?_getD, List.getElem?_map, List.getElem?_eq_getElem (by omega)]; rfl
  have ha2 := lev_lt a
  have hb2 := lev_lt b
  rw [ha] at ha2
  rw [hb] at hb2
  have hS : lev a + lev b < 256 ^ 33 := by rw [Nat.pow_succ]; omega
  refine refAdd11_over a b (fun k => (dval ((a.map (·.toNat)).take k) + dval ((b.map (·.toNat)).take k)) / 256 ^ k) (fun k => (dval ((a.map (·.toNat)).take (k + 1)) + dval ((b.map (·.toNat)).take (k + 1))) / 256 ^ k) (lev a + lev b) w ha hb (by show _ = _; rw [List.take_zero, List.take_zero]; rfl) (fun k hk => ?_) (fun k hk => ?_) (fun k hk => ?_) (fun k hk => ?_) ?_ ?_
  · have h1 := dval_lt ((a.map (·.toNat)).take k) (fun x hx => lev_digits a x (List.mem_of_mem_take hx))
    have h2 := dval_lt ((b.map (·.toNat)).take k) (fun x hx => lev_digits b x (List.mem_of_mem_take hx))
    rw [List.length_take, la, Nat.min_eq_left hk] at h1
    rw [List.length_take, lb, Nat.min_eq_left hk] at h2
    have h3 : (dval ((a.map (·.toNat)).take k) + dval ((b.map (·.toNat)).take k)) / 256 ^ k < 2 := by
      rw [Nat.div_lt_iff_lt_mul (Nat.pow_pos (by decide))]; omega
    exact Nat.le_trans (Nat.le_of_lt h3) (by decide)
  · show _ + _ = _
    rw [ga k hk, gb k hk, getD_get _ k (by omega), getD_get _ k (by omega)]
    exact carry_step _ _ k (by omega) (by omega)
  · exact (carry_next _ _).symm
  · rw [byteAt_toNat]
    exact carry_digit _ _ k (by omega) (by omega) (lev_digits a) (lev_digits b)
  · show _ = _
    rw [byteAt_toNat, List.take_of_length_le (by omega), List.take_of_length_le (by omega)]
    show (lev a + lev b) / 256 ^ 32 = _
    rw [Nat.mod_eq_of_lt]
    rw [Nat.div_lt_iff_lt_mul (Nat.pow_pos (by decide)), ← Nat.pow_succ']
    exact hS
  · show _ = _
    rw [lev_putL, Nat.mod_eq_of_lt hS]
end Go.Proofs.YticgkabamelddaaDoor
