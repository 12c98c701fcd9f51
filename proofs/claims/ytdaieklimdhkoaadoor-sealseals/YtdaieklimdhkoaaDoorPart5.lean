/- Part 5 of what the laws of this seat share: COpened, CTurned, CBlock, PMath, PMath2. -/
import Derived.Lib.SlBytesConst
import Derived.Test.YtdaieklimdhkoaaDoorPart4
namespace Go.Proofs.YtdaieklimdhkoaaDoor
open Go.RowKit
/-- The mark on a row that a constant text is: no cell turns. -/
theorem run_mark {W : World} (g n c : Nat) (C : Array Value) (hg : W.heap[g]? = some (.cells C 5 (0, 0))) :
    ∃ W', (convert 24 24 (.slice (some ⟨g, 0, none⟩) n c)).run Tryd.prog W = .ok (.slice (some ⟨g, 0, none⟩) n c) W' ∧ But g W W' ∧ W'.heap.size = W.heap.size ∧ ∀ p, W'.cell? p = W.cell? p := by
  have hsh : W.shape? g = some (5, C.size) := by
    unfold World.shape?
    rw [hg]
  refine ⟨W.freeze ⟨g, C.size, none⟩ 1, ?_, ?_, ?_, ?_⟩
  · simp [convert, run_underlying Tryd.underlying24, run_underlying Tryd.underlying5, markStringish, hsh]
  · refine ⟨rfl, rfl, rfl, ?_, fun k _ hk => ?_⟩
    · unfold World.freeze; rw [if_neg (by decide)]; simp
    · unfold World.freeze; rw [if_neg (by decide)]; simp [Array.getElem?_modify, Ne.symm hk]
  · unfold World.freeze; rw [if_neg (by decide)]; simp
  · intro p
    unfold World.freeze
    rw [if_neg (by decide)]
    unfold World.cell?
    by_cases hp : p.block = g
    · subst hp
      simp [Array.getElem?_modify, hg]
    · simp [Array.getElem?_modify, Ne.symm hp]
theorem wanted_plain {ops : Array Oper} {o : Oper} {a : Act} (hgd : o.guard = none) : Region.wanted o (yielded ops a.tmps) = true := by simp [Region.wanted, hgd]
/-- A literal of a slice, as one operation. -/
theorem slice_op {P : Program} {w : World} {ops : Array Oper} {o : Oper} {a : Act} {K : Act → World → Prop} {Q : Exit → Act → World → Prop} (hgd : o.guard = none) (t : TypeId) (n : Nat) (parts : List (Nat × Operand)) (ho : o.op = .buildSlice t n parts.toArray) (ps : List (Nat × Value)) (hp : (parts.map fun (i, x) => (i, a.eval x)) = ps) (e : TypeId) (vs : Array Value)
    (hr : ∀ w, (Instr.buildSlice t n ps.toArray).run P w = .ok (.slice (some ⟨w.heap.size, 0, none⟩) n n) (w.alloc (.cells vs e)))
    (h : K (a.put o.dst (.slice (some ⟨w.heap.size, 0, none⟩) n n)) (w.alloc (.cells vs e))) : if Region.wanted o (yielded ops a.tmps) = true then Oper.wp P o a w K Q else K (a.put o.dst undef) w := by
  rw [if_pos (wanted_plain hgd)]
  unfold Oper.wp
  simp only [execOp, ho, List.map_toArray, hp, hr, Sem.run_bind, Sem.run_pure, Result.andThen_ok]
  exact h
/-- '[]byte("..")': the mark. -/
theorem mark_op {w : World} {ops : Array Oper} {o : Oper} {a : Act} {K : Act → World → Prop} {Q : Exit → Act → World → Prop} (hgd : o.guard = none) (x : Operand) (ho : o.op = .convert 24 24 x) (g n c : Nat) (C : Array Value) (hx : a.eval x = .slice (some ⟨g, 0, none⟩) n c) (hg : w.heap[g]? = some (.cells C 5 (0, 0)))
    (h : ∀ w', But g w w' → w'.heap.size = w.heap.size → (∀ p, w'.cell? p = w.cell? p) → K (a.put o.dst (.slice (some ⟨g, 0, none⟩) n c)) w') : if Region.wanted o (yielded ops a.tmps) = true then Oper.wp Tryd.prog o a w K Q else K (a.put o.dst undef) w := by
  obtain ⟨W', h1, h2, h3, h4⟩ := run_mark g n c C hg
  rw [if_pos (wanted_plain hgd)]
  unfold Oper.wp
  simp only [execOp, ho, hx, h1, Sem.run_bind, Sem.run_pure, Result.andThen_ok]
  exact h W' h2 h3 h4
theorem Row.block_lt {w : World} {B b off : Nat} {bs : List UInt8} (h : Row w B (Option.some ⟨b, off, none⟩) bs) (hp : 0 < bs.length) : b < B := by
  rcases h with rfl | ⟨b', off', hA, hb, _⟩
  · simp at hp
  · cases hA; exact hb
theorem Row.same {w w' : World} {B : Nat} {A : Option Addr} {bs : List UInt8} (h : Row w B A bs) (hc : ∀ p, w'.cell? p = w.cell? p) : Row w' B A bs := h.keep fun p _ => hc p
theorem opening_cells : (opening.map cellOf).toArray = #[.int .u8 101, .int .u8 120, .int .u8 112, .int .u8 97, .int .u8 110, .int .u8 100, .int .u8 32, .int .u8 51, .int .u8 50, .int .u8 45, .int .u8 98, .int .u8 121, .int .u8 116, .int .u8 101, .int .u8 32, .int .u8 107] := rfl
set_option maxRecDepth 100000 in
set_option maxHeartbeats 1000000 in
theorem opened_over (A : Option Addr) (d : Nat) (key nonce row : List UInt8) (x : BitVec 32) (s : Nat → List (BitVec 32)) (w : World) (HK : Hid (key.length = 32)) (HNL : Hid (nonce.length = 12)) (hr : Row w w.heap.size A nonce) (hA : A = none → d = 0) (hd : 12 ≤ d) (hd2 : d ≤ maxLen)
    (HR : Hid ([opening, key, putL x.toNat 4, nonce].flatten = row)) (HRL : Hid (row.length = 64)) (H0 : Hid (s 0 = [])) (HS : Hid (∀ k, s (k + 1) = s k ++ [word4L ((row.drop (4 * k)).take 4)])) (HSL : Hid (∀ k, (s k).length = k)) :
    Calls Tryd.prog 25 #[hashVal key, wcell x, .slice A 12 d] w fun e w' => e = .returned (.agg ((s 16).map wcell).toArray) ∧ Below w.heap.size w w' := by
  go_enter Tryd.func25, Tryd.ntmps25
  go_wp2_with (first
    | (refine take_step rfl 23 _ rfl key rfl ?_
       intro w1 hB1 hC1 hz1
       clear hz1)
    | (refine vzero_step rfl 56 rfl (wzeros 16) zero_state ?_
       intro w2 hb2 hZ2
       have hB2 := below_then hB1 hb2
       have hC2 := hC1.on hb2
       have hg1 := hC1.lt
       clear hB1 hC1 hb2))
  simp only [Act.put, List.setIfInBounds_toArray, List.set_cons_zero, List.set_cons_succ]
  generalize hgz : w1.heap.size = gz at *
  clear hgz
  refine Code.wp_mono (Q := fun e a' w' => e = .normal ∧ ∃ (B : Option Addr) (c : Nat) (v10 v11 v12 v13 v14 v15 v16 v17 : Value), a' = ⟨#[hashVal key, wcell x, .slice A 12 d, .pointer (some ⟨w.heap.size, 0, none⟩), undef, undef, .pointer (some ⟨gz, 0, none⟩), .slice B 64 c, undef, undef, v10, v11, v12, v13, v14, v15, v16, v17, undef, undef, undef, undef, undef, undef, undef, undef, undef, undef, undef, undef, undef, undef, undef], []⟩ ∧
      Below w.heap.size w w' ∧ Cells w' gz (wzeros 16) 56 ∧ Row w' w'.heap.size B row ∧ 64 ≤ c ∧ c ≤ maxLen ∧ (B = none → c = 0)) ?_ ?_
  rotate_left
  · refine wp_region_any (by kernel_rfl) ?_
    show wpAny _ _ _ _ _ _ _ w2.drew
    simp only [List.size_toArray, List.length_cons, List.length_nil, Nat.reduceAdd, Array.replicate_succ, Array.replicate_zero, List.push_toArray, List.nil_append, List.cons_append]
    have hB3 : Below w.heap.size w w2.drew := hB2.drew
    have hC3 : Cells w2.drew w.heap.size (key.map cellOf) 23 := hC2
    have hZ3 : Cells w2.drew gz (wzeros 16) 56 := hZ2
    clear hB2 hC2 hZ2
    generalize w2.drew = w3 at *
    refine wpAny_take (i := 2) (oi := ⟨some 12, _, _, _, _, _⟩) (v := ?_) rfl (by kernel_rfl) (by kernel_rfl) (by kernel_rfl) (fun _ _ _ h => by cases h.1) (Or.inl ⟨by rfl, ?_⟩) ?_
    rotate_left
    · (intro w; go_simp; try with_reducible rfl)
    simp only [Act.put, List.setIfInBounds_toArray, List.set_cons_zero, List.set_cons_succ]
    refine wpAny_take (i := 3) (oi := ⟨some 13, _, _, _, _, _⟩) (v := ?_) rfl (by kernel_rfl) (by kernel_rfl) (by kernel_rfl) (fun _ _ _ h => by cases h.1) (Or.inl ⟨by rfl, ?_⟩) ?_
    rotate_left
    · (intro w; go_simp; try with_reducible rfl)
    simp only [Act.put, List.setIfInBounds_toArray, List.set_cons_zero, List.set_cons_succ]
    refine wpAny_take (i := 5) (oi := ⟨some 15, _, _, _, _, _⟩) (v := ?_) rfl (by kernel_rfl) (by kernel_rfl) (by kernel_rfl) (fun _ _ _ h => by cases h.1) (Or.inl ⟨by rfl, ?_⟩) ?_
    rotate_left
    · (intro w; go_simp; try with_reducible rfl)
    simp only [Act.put, List.setIfInBounds_toArray, List.set_cons_zero, List.set_cons_succ]
    refine wpAny_ready (rs := [0, 4]) (by kernel_rfl) (by simp) (AllReady.cons rfl (fun K hK => ?_) (AllReady.cons rfl (fun K hK => ?_) AllReady.nil))
    · replace hK := Lib.hid hK
      refine slice_op rfl 24 16 _ rfl _ rfl 5 (opening.map cellOf).toArray (fun _ => by kernel_rfl) ?_
      refine hK.out _ _ ?_
      clear hK K
      simp only [Act.put, List.setIfInBounds_toArray, List.set_cons_zero]
      have hb : Below w3.heap.size w3 (w3.alloc (.cells (opening.map cellOf).toArray 5)) := (Below.refl _ _).alloc (Nat.le_refl _) _
      have hm : (w3.alloc (.cells (opening.map cellOf).toArray 5)).heap[w3.heap.size]? = some (.cells (opening.map cellOf).toArray 5 (0, 0)) := Cells.new w3 _ _
      have hO : Row (w3.alloc (.cells (opening.map cellOf).toArray 5)) (w3.alloc (.cells (opening.map cellOf).toArray 5)).heap.size (some ⟨w3.heap.size, 0, none⟩) opening := Cells.all (Cells.new w3 _ _)
      generalize w3.alloc (.cells (opening.map cellOf).toArray 5) = w4 at *
      have hB4 := below_then hB3 hb
      have hC4 := hC3.on hb
      have hZ4 := hZ3.on hb
      have hl := heap_lt hm
      have hga1 := hC3.lt
      have hga2 := hZ3.lt
      generalize w3.heap.size = ga at *
      clear hb hB3 hC3 hZ3
      refine wpAny_ready (rs := [1, 4]) (by kernel_rfl) (by simp) (AllReady.cons rfl (fun K hK => ?_) (AllReady.cons rfl (fun K hK => ?_) AllReady.nil))
      · replace hK := Lib.hid hK
        refine mark_op rfl (.tmp 10) rfl ga 16 16 (opening.map cellOf).toArray rfl hm ?_
        intro w5 hb hz hs
        refine hK.out _ _ ?_
        clear hK K
        simp only [Act.put, List.setIfInBounds_toArray, List.set_cons_zero, List.set_cons_succ]
        have hB5 := hB4.trans (hb.below (Nat.le_of_lt hga1) hB4.size)
        have hC5 := hC4.but hb (Nat.ne_of_lt hga1)
        have hZ5 := hZ4.but hb (Nat.ne_of_lt hga2)
        replace hO := hO.same hs
        rw [← hz] at hO
        clear hb hz hs hm hl hB4 hC4 hZ4
        refine wpAny_ready (rs := [4]) (by kernel_rfl) (by simp) (AllReady.cons rfl (fun K hK => ?_) AllReady.nil)
        replace hK := Lib.hid hK
        go_simp
        go_wp2_with (first
          | (go_at_call 41
             refine (streamPut_any x w5).mono ?_
             rintro e w6 ⟨rfl, hb, hM⟩))
        refine hK.out _ _ ?_
        clear hK K
        have hP := hM.row hM.lt
        clear hM
        simp only [List.setIfInBounds_toArray, List.set_cons_zero, List.set_cons_succ]
        have hB6 := below_then hB5 hb
        have hC6 := hC5.on hb
        have hZ6 := hZ5.on hb
        replace hO := hO.on hb
        generalize w5.heap.size = gb at *
        clear hb hB5 hC5 hZ5
        refine wpAny_rest 6 rfl (by kernel_rfl) ?_
        simp only [List.drop_succ_cons, List.drop_zero]
        have HP := Lib.hid (parts_four w6 _ _ _ _ _ _ _ _ (Part.mk (c := 16) rfl hO (fun h => by cases h) (Nat.le_refl _) (by unfold maxLen; omega)) (Part.mk (c := 32) HK.out hC6.all (fun h => by cases h) (Nat.le_refl _) (by unfold maxLen; omega)) (Part.mk (c := 4) (putL_length _ 4) hP (fun h => by cases h) (Nat.le_refl _) (by unfold maxLen; omega)) (Part.mk (c := d) HNL.out (hr.on hB6) hA hd hd2))
        have HB : Hid (Below w6.heap.size w6 (w6.alloc (.cells #[.slice (some ⟨ga, 0, none⟩) 16 16, .slice (some ⟨w.heap.size, 0, none⟩) 32 32, .slice (some ⟨gb, 0, none⟩) 4 4, .slice A 12 d] 24))) := (Below.refl _ _).alloc (Nat.le_refl _) _
        rw [show opening.length = 16 from rfl] at HP
        clear hO hP hC6
        go_wp2_with fail
        generalize w6.alloc (.cells #[.slice (some ⟨ga, 0, none⟩) 16 16, .slice (some ⟨w.heap.size, 0, none⟩) 32 32, .slice (some ⟨gb, 0, none⟩) 4 4, .slice A 12 d] 24) = w7 at *
        have hB7 := below_then hB6 HB.out
        have hZ7 := hZ6.on HB.out
        refine (concat_any _ 4 4 64 _ w7 rfl HP.out (by omega) (by rw [HR.out, HRL.out]) (by omega)).mono ?_
        rintro e w8 ⟨B, cB, rfl, h1, h2, h3, h4, h5⟩
        rw [HR.out] at h4
        have hB8 := below_then hB7 h5
        have hZ8 := hZ7.on h5
        clear HP HB hB6 hZ6 hB7 hZ7 h5
        go_wp2
        exact ⟨B, cB, ⟨rfl, rfl⟩, h4, h2, h3, h1⟩
      · replace hK := Lib.hid hK
        go_simp
        go_wp2_with (first
          | (go_at_call 41
             refine (streamPut_any x w4).mono ?_
             rintro e w5 ⟨rfl, hb, hM⟩))
        refine hK.out _ _ ?_
        clear hK K
        have hP := hM.row hM.lt
        clear hM
        simp only [List.setIfInBounds_toArray, List.set_cons_zero, List.set_cons_succ]
        have hB5 := below_then hB4 hb
        have hC5 := hC4.on hb
        have hZ5 := hZ4.on hb
        replace hO := hO.on hb
        replace hm := (hb.block ga hl).trans hm
        clear hl
        generalize w4.heap.size = gb at *
        clear hb hB4 hC4 hZ4
        refine wpAny_ready (rs := [1]) (by kernel_rfl) (by simp) (AllReady.cons rfl (fun K hK => ?_) AllReady.nil)
        replace hK := Lib.hid hK
        refine mark_op rfl (.tmp 10) rfl ga 16 16 (opening.map cellOf).toArray rfl hm ?_
        intro w6 hb hz hs
        refine hK.out _ _ ?_
        clear hK K
        simp only [Act.put, List.setIfInBounds_toArray, List.set_cons_zero, List.set_cons_succ]
        have hB6 := hB5.trans (hb.below (Nat.le_of_lt hga1) hB5.size)
        have hC6 := hC5.but hb (Nat.ne_of_lt hga1)
        have hZ6 := hZ5.but hb (Nat.ne_of_lt hga2)
        replace hO := hO.same hs
        rw [← hz] at hO
        replace hP := hP.same hs
        rw [← hz] at hP
        clear hb hz hs hm hB5 hC5 hZ5
        refine wpAny_rest 6 rfl (by kernel_rfl) ?_
        simp only [List.drop_succ_cons, List.drop_zero]
        have HP := Lib.hid (parts_four w6 _ _ _ _ _ _ _ _ (Part.mk (c := 16) rfl hO (fun h => by cases h) (Nat.le_refl _) (by unfold maxLen; omega)) (Part.mk (c := 32) HK.out hC6.all (fun h => by cases h) (Nat.le_refl _) (by unfold maxLen; omega)) (Part.mk (c := 4) (putL_length _ 4) hP (fun h => by cases h) (Nat.le_refl _) (by unfold maxLen; omega)) (Part.mk (c := d) HNL.out (hr.on hB6) hA hd hd2))
        have HB : Hid (Below w6.heap.size w6 (w6.alloc (.cells #[.slice (some ⟨ga, 0, none⟩) 16 16, .slice (some ⟨w.heap.size, 0, none⟩) 32 32, .slice (some ⟨gb, 0, none⟩) 4 4, .slice A 12 d] 24))) := (Below.refl _ _).alloc (Nat.le_refl _) _
        rw [show opening.length = 16 from rfl] at HP
        clear hO hP hC6
        go_wp2_with fail
        generalize w6.alloc (.cells #[.slice (some ⟨ga, 0, none⟩) 16 16, .slice (some ⟨w.heap.size, 0, none⟩) 32 32, .slice (some ⟨gb, 0, none⟩) 4 4, .slice A 12 d] 24) = w7 at *
        have hB7 := below_then hB6 HB.out
        have hZ7 := hZ6.on HB.out
        refine (concat_any _ 4 4 64 _ w7 rfl HP.out (by omega) (by rw [HR.out, HRL.out]) (by omega)).mono ?_
        rintro e w8 ⟨B, cB, rfl, h1, h2, h3, h4, h5⟩
        rw [HR.out] at h4
        have hB8 := below_then hB7 h5
        have hZ8 := hZ7.on h5
        clear HP HB hB6 hZ6 hB7 hZ7 h5
        go_wp2
        exact ⟨B, cB, ⟨rfl, rfl⟩, h4, h2, h3, h1⟩
    · replace hK := Lib.hid hK
      go_simp
      go_wp2_with (first
        | (go_at_call 41
           refine (streamPut_any x w3).mono ?_
           rintro e w4 ⟨rfl, hb, hM⟩))
      refine hK.out _ _ ?_
      clear hK K
      have hP := hM.row hM.lt
      clear hM
      simp only [List.setIfInBounds_toArray, List.set_cons_zero, List.set_cons_succ]
      have hB4 := below_then hB3 hb
      have hC4 := hC3.on hb
      have hZ4 := hZ3.on hb
      generalize w3.heap.size = gb at *
      clear hb hB3 hC3 hZ3
      refine wpAny_ready (rs := [0]) (by kernel_rfl) (by simp) (AllReady.cons rfl (fun K hK => ?_) AllReady.nil)
      replace hK := Lib.hid hK
      refine slice_op rfl 24 16 _ rfl _ rfl 5 (opening.map cellOf).toArray (fun _ => by kernel_rfl) ?_
      refine hK.out _ _ ?_
      clear hK K
      simp only [Act.put, List.setIfInBounds_toArray, List.set_cons_zero]
      have hb : Below w4.heap.size w4 (w4.alloc (.cells (opening.map cellOf).toArray 5)) := (Below.refl _ _).alloc (Nat.le_refl _) _
      have hm : (w4.alloc (.cells (opening.map cellOf).toArray 5)).heap[w4.heap.size]? = some (.cells (opening.map cellOf).toArray 5 (0, 0)) := Cells.new w4 _ _
      have hO : Row (w4.alloc (.cells (opening.map cellOf).toArray 5)) (w4.alloc (.cells (opening.map cellOf).toArray 5)).heap.size (some ⟨w4.heap.size, 0, none⟩) opening := Cells.all (Cells.new w4 _ _)
      generalize w4.alloc (.cells (opening.map cellOf).toArray 5) = w5 at *
      have hB5 := below_then hB4 hb
      have hC5 := hC4.on hb
      have hZ5 := hZ4.on hb
      replace hP := hP.on hb
      have hga1 := hC4.lt
      have hga2 := hZ4.lt
      generalize w4.heap.size = ga at *
      clear hb hB4 hC4 hZ4
      refine wpAny_ready (rs := [1]) (by kernel_rfl) (by simp) (AllReady.cons rfl (fun K hK => ?_) AllReady.nil)
      replace hK := Lib.hid hK
      refine mark_op rfl (.tmp 10) rfl ga 16 16 (opening.map cellOf).toArray rfl hm ?_
      intro w6 hb hz hs
      refine hK.out _ _ ?_
      clear hK K
      simp only [Act.put, List.setIfInBounds_toArray, List.set_cons_zero, List.set_cons_succ]
      have hB6 := hB5.trans (hb.below (Nat.le_of_lt hga1) hB5.size)
      have hC6 := hC5.but hb (Nat.ne_of_lt hga1)
      have hZ6 := hZ5.but hb (Nat.ne_of_lt hga2)
      replace hO := hO.same hs
      rw [← hz] at hO
      replace hP := hP.same hs
      rw [← hz] at hP
      clear hb hz hs hm hB5 hC5 hZ5
      refine wpAny_rest 6 rfl (by kernel_rfl) ?_
      simp only [List.drop_succ_cons, List.drop_zero]
      have HP := Lib.hid (parts_four w6 _ _ _ _ _ _ _ _ (Part.mk (c := 16) rfl hO (fun h => by cases h) (Nat.le_refl _) (by unfold maxLen; omega)) (Part.mk (c := 32) HK.out hC6.all (fun h => by cases h) (Nat.le_refl _) (by unfold maxLen; omega)) (Part.mk (c := 4) (putL_length _ 4) hP (fun h => by cases h) (Nat.le_refl _) (by unfold maxLen; omega)) (Part.mk (c := d) HNL.out (hr.on hB6) hA hd hd2))
      have HB : Hid (Below w6.heap.size w6 (w6.alloc (.cells #[.slice (some ⟨ga, 0, none⟩) 16 16, .slice (some ⟨w.heap.size, 0, none⟩) 32 32, .slice (some ⟨gb, 0, none⟩) 4 4, .slice A 12 d] 24))) := (Below.refl _ _).alloc (Nat.le_refl _) _
      rw [show opening.length = 16 from rfl] at HP
      clear hO hP hC6
      go_wp2_with fail
      generalize w6.alloc (.cells #[.slice (some ⟨ga, 0, none⟩) 16 16, .slice (some ⟨w.heap.size, 0, none⟩) 32 32, .slice (some ⟨gb, 0, none⟩) 4 4, .slice A 12 d] 24) = w7 at *
      have hB7 := below_then hB6 HB.out
      have hZ7 := hZ6.on HB.out
      refine (concat_any _ 4 4 64 _ w7 rfl HP.out (by omega) (by rw [HR.out, HRL.out]) (by omega)).mono ?_
      rintro e w8 ⟨B, cB, rfl, h1, h2, h3, h4, h5⟩
      rw [HR.out] at h4
      have hB8 := below_then hB7 h5
      have hZ8 := hZ7.on h5
      clear HP HB hB6 hZ6 hB7 hZ7 h5
      go_wp2
      exact ⟨B, cB, ⟨rfl, rfl⟩, h4, h2, h3, h1⟩
  · rintro e a' w' ⟨rfl, B, c, v10, v11, v12, v13, v14, v15, v16, v17, rfl, hB, hZ, hR, hc1, hc2, hBn⟩
    clear hB2 hC2 hZ2 HR
    unfold maxLen at hc2
    obtain ⟨b, off, rfl⟩ := hR.some (by rw [HRL.out]; omega)
    go_wp2_with (first
      | (refine vzero_step rfl 56 rfl (wzeros 16) zero_state ?_
         intro w4 hb4 hS4
         have hB4 := below_then hB hb4
         have hZ4 := hZ.on hb4
         have hR4 := hR.on hb4
         have hg4 := hZ.lt
         have hg5 := hB.size
         have hg6 := hR.block_lt (by rw [HRL.out]; omega)
         clear hB hZ hR hb4))
    generalize hgs : w'.heap.size = gs at *
    clear hgs
    go_loopw [18] (fun i wr => ∃ k : Nat, k ≤ 16 ∧ i = .int .i64 k ∧ Below w.heap.size w wr ∧ Cells wr gz (wzeros 16) 56 ∧ Row wr wr.heap.size (some ⟨b, off, none⟩) row ∧ Cells wr gs ((s k).map wcell ++ wzeros (16 - k)) 56) (fun i _ => 16 - (intOf i).toNat)
    case atStart => exact ⟨0, Nat.zero_le _, rfl, hB4, hZ4, hR4, by rw [H0.out]; exact hS4⟩
    case round =>
      clear hB4 hZ4 hR4 hS4
      obtain ⟨k, hk, rfl, hB, hZ, hR, hS⟩ := hrel
      have HL := Lib.hid (HSL.out k)
      by_cases hlt : k < 16
      · have HN := Lib.hid (HS.out k)
        have e4 : 4 * (k + 1) - 4 * k = 4 := by omega
        have HV : Hid (((s k).map wcell ++ wzeros (16 - k)).length = 16) := by
          show _ = _
          rw [List.length_append, List.length_map, HL.out, wzeros, List.length_replicate]
          omega
        have HX : Hid (((s k).map wcell ++ wzeros (16 - k)).set k (wcell (word4L ((row.drop (4 * k)).take 4))) = (s (k + 1)).map wcell ++ wzeros (16 - (k + 1))) := by
          show _ = _
          rw [HN.out, List.map_append]
          exact set_nextV ((s k).map wcell) k 16 _ (wcell 0) (by rw [List.length_map, HL.out]) hlt
        have CL := Lib.hid (streamLittle_any (some ⟨b, off + 4 * k, none⟩) (c - 4 * k) ((row.drop (4 * k)).take 4) wr (by have := HRL.out; rw [List.length_take, List.length_drop]; omega) (hR.piece (4 * k) 4))
        generalize word4L ((row.drop (4 * k)).take 4) = xw at *
        generalize hvs : (s k).map wcell ++ wzeros (16 - k) = vs at *
        clear hvs HN
        go_wp2_with fail
        refine CL.out.mono ?_
        rintro e w5 ⟨rfl, rfl⟩
        clear CL
        have hf := hS.frozen k
        obtain ⟨v3, hc3⟩ : ∃ v, wr.cell? ⟨gs, k, none⟩ = some v := ⟨_, hS.cell k (by rw [HV.out]; exact hlt)⟩
        go_wp2
        go_roundw
        case rel =>
          have hb : But gs wr (wr.setCell ⟨gs, k, none⟩ (wcell xw)) := (But.refl gs wr).setCell k _
          refine ⟨k + 1, by omega, by go_num, hB.trans (hb.below (by omega) hB.size), hZ.but hb (by omega), hR.but hb (fun _ p hp => by cases hp; show b ≠ gs; omega), ?_⟩
          rw [← HX.out]
          exact hS.set k _
        case measure => simp [intOf]; omega
      · obtain rfl : k = 16 := by omega
        have HE : Hid ((s 16).map wcell ++ wzeros (16 - 16) = (s 16).map wcell) := by show _ = _; simp [wzeros]
        rw [HE.out] at hS
        have HV : Hid (((s 16).map wcell).length = 16) := by show _ = _; rw [List.length_map, HL.out]
        go_wp2_with (first
          | (refine vget_step rfl 56 _ rfl gs 16 ((s 16).map wcell) 44 rfl hS Tryd.underlying56 size_state HV.out ?_)
          | (refine vset_step rfl 56 _ _ rfl gz 16 (wzeros 16) ((s 16).map wcell) rfl rfl hZ rfl size_state HV.out (wcells_one _) ?_
             intro w9 hb9 hC9 _))
        refine vret Tryd.results25 gz ((s 16).map wcell) rfl hC9 Tryd.underlying56 size_state HV.out rfl ⟨rfl, hB.trans (hb9.below (by omega) hB.size)⟩
theorem streamOpened_any (A : Option Addr) (d : Nat) (key nonce : List UInt8) (x : BitVec 32) (w : World) (hk : key.length = 32) (hn : nonce.length = 12) (hr : Row w w.heap.size A nonce) (hA : A = none → d = 0) (hd : 12 ≤ d) (hd2 : d ≤ maxLen) :
    Calls Tryd.prog 25 #[hashVal key, wcell x, .slice A 12 d] w fun e w' => e = .returned (.agg ((chOpened key x nonce).map wcell).toArray) ∧ Below w.heap.size w w' :=
  opened_over A d key nonce (chRow key x nonce) x (wordsOf (chRow key x nonce)) w hk hn hr hA hd hd2 (show _ = _ by simp [chRow]) (show _ = _ by simp [chRow, opening, hk, hn, putL_length]) rfl (fun _ => rfl) (wordsOf_length _)
end Go.Proofs.YtdaieklimdhkoaaDoor
namespace Go.Proofs.YtdaieklimdhkoaaDoor
open Go.RowKit
theorem setB_next (l : List UInt8) (k n : Nat) (u : UInt8) (hl : l.length = k) (hk : k < n) : (l ++ List.replicate (n - k) 0).set k u = l ++ [u] ++ List.replicate (n - (k + 1)) 0 := set_nextV l k n u 0 hl hk
set_option maxRecDepth 100000 in
set_option maxHeartbeats 2000000 in
theorem turned_over (A : Option Addr) (c L : Nat) (bs : List UInt8) (S : Nat → List (BitVec 32)) (E T : Nat → List UInt8) (w : World) (HL : Hid (bs.length = L)) (hr : Row w w.heap.size A bs) (hn : L ≤ 1000000)
    (HS : Hid (∀ k, S (k + 1) = (S k).set 12 ((S k).getD 12 0 + 1))) (HSL : Hid (∀ k, (S k).length = 16)) (HEL : Hid (∀ k, (E k).length = 64)) (HT0 : Hid (T 0 = [])) (HT : Hid (∀ k j, j < 64 → T (64 * k + j + 1) = T (64 * k + j) ++ [bs.getD (64 * k + j) 0 ^^^ (E k).getD j 0])) (HTL : Hid (∀ k, (T k).length = k))
    (CE : Hid (∀ k W, Calls Tryd.prog 39 #[.agg ((S k).map wcell).toArray] W fun e w' => e = .returned (hashVal (E k)) ∧ Below W.heap.size W w')) :
    Calls Tryd.prog 24 #[.agg ((S 0).map wcell).toArray, .slice A L c] w fun e w' => e = .returned (.slice (some ⟨w.heap.size + 1, 0, none⟩) L L) ∧ Below w.heap.size w w' ∧ Made w' (w.heap.size + 1) (T L) := by
  obtain ⟨s, hs⟩ : ∃ s, s = S 0 := ⟨_, rfl⟩
  rw [← hs]
  have H0 := Lib.hid hs
  clear hs
  go_enter Tryd.func24, Tryd.ntmps24
  go_wp2_with (first
    | (refine box_step rfl 56 _ rfl (s.map wcell).toArray rfl ?_
       intro w1 hw1
       have hB1 : Below w.heap.size w w1 := by rw [hw1]; exact (Below.refl _ _).alloc (Nat.le_refl _) _
       have hC1 : Cells w1 w.heap.size (s.map wcell) 56 := by rw [hw1]; exact Cells.new w _ _
       have hz1 : w1.heap.size = w.heap.size + 1 := by rw [hw1]; simp
       have HZ1 := Lib.hid hz1
       clear hw1 hz1))
  obtain ⟨go, hgo⟩ : ∃ go, go = w1.heap.size := ⟨_, rfl⟩
  have hg2 : w.heap.size < go := by rw [hgo]; exact hC1.lt
  have HGO : Hid (go = w.heap.size + 1) := by rw [← HZ1.out]; exact hgo
  replace hgo := Lib.hid hgo
  clear HZ1
  refine wp_scope_once 0 (fun a' w' => ∃ (k at0 : Nat) (u7 u8 u9 u10 u11 u12 u13 u14 u15 u16 u17 u18 u19 u20 u21 u22 u23 u24 u25 u26 u27 u28 u29 u30 u31 u32 u33 u34 u35 u36 u37 u38 u39 u40 u41 u42 u43 u44 u45 u46 u47 u48 u49 u50 : Value), at0 = min (64 * k) L ∧ Below w.heap.size w w' ∧ Cells w' w.heap.size ((S k).map wcell) 56 ∧ Made w' go (T at0 ++ List.replicate (L - at0) 0) ∧
      a' = { tmps := #[.agg (s.map wcell).toArray, .slice A L c, .pointer (some ⟨w.heap.size, 0, none⟩), undef, .slice none 0 0, .slice (some ⟨go, 0, none⟩) L L, .int .i64 (at0 : Int), u7, u8, u9, u10, u11, u12, u13, u14, u15, u16, u17, u18, u19, u20, u21, u22, u23, u24, u25, u26, u27, u28, u29, u30, u31, u32, u33, u34, u35, u36, u37, u38, u39, u40, u41, u42, u43, u44, u45, u46, u47, u48, u49, u50, undef], defers := [] })
    (fun a' _ => L - (intOf (a'.tmps.getD 6 undef)).toNat) rfl ?_ ?_
  · intro hp
    go_wp2_with (first
      | (refine make_step rfl (.tmp 11) (.tmp 11) rfl L L rfl rfl (Nat.le_refl _) hn ?_
         intro w2 hb2 hM2 hz2
         have hB2 := below_then hB1 hb2
         have hC2 := hC1.on hb2
         clear hB1 hC1 hb2 hz2
         rw [← hgo.out] at hM2 ⊢))
    go_step3
    rename_i K hK
    exact hK _ _ (hp.out _ _ ⟨0, 0, _, _, _, _, _, _, _, _, _, _, _, _, _, _, _, _, _, _, _, _, _, _, _, _, _, _, _, _, _, _, _, _, _, _, _, _, _, _, _, _, _, _, _, _, by omega, hB2, by rw [← H0.out]; exact hC2, by rw [HT0.out]; exact hM2, rfl⟩)
  · clear hB1 hC1 H0 HT0 hgo
    rintro a' w' ⟨k, at0, u7, u8, u9, u10, u11, u12, u13, u14, u15, u16, u17, u18, u19, u20, u21, u22, u23, u24, u25, u26, u27, u28, u29, u30, u31, u32, u33, u34, u35, u36, u37, u38, u39, u40, u41, u42, u43, u44, u45, u46, u47, u48, u49, u50, hat, hB, hC, hM, rfl⟩
    have HTL0 := Lib.hid (HTL.out at0)
    by_cases hlt : at0 < L
    · have hat2 : at0 = 64 * k := by omega
      have CEk := Lib.hid (CE.out k w')
      have HSk := Lib.hid (HSL.out k)
      have HNk := Lib.hid (HS.out k)
      have HEk := Lib.hid (HEL.out k)
      have HTk : Hid (∀ j, j < 64 → T (at0 + j + 1) = T (at0 + j) ++ [bs.getD (at0 + j) 0 ^^^ (E k).getD j 0]) := by rw [hat2]; exact HT.out k
      have HAT := Lib.hid hat2
      generalize S k = x at *
      generalize E k = ek at *
      clear HS HT CE HEL hat hat2
      have i1 : (at0 : Int) < (L : Int) := by omega
      have hM' := hM
      clear hM
      go_wp2_with (first
        | (refine vget_step rfl 56 _ rfl w.heap.size 16 (x.map wcell) 44 rfl hC Tryd.underlying56 size_state (by rw [List.length_map, HSk.out]) ?_))
      refine CEk.out.mono ?_
      rintro e w3 ⟨rfl, hb3⟩
      have hB3 := below_then hB hb3
      have hC3 := hC.on hb3
      have hM3 := hM'.below hb3 hM'.lt
      clear CEk hB hC hM' hb3
      obtain ⟨q, hq⟩ : ∃ q, min 64 (L - at0) = q := ⟨_, rfl⟩
      have hq1 : q ≤ 64 := by omega
      have hq2 : at0 + q ≤ L := by omega
      have hq3 : 0 < q := by omega
      have HQ := Lib.hid hq
      clear hq
      go_wp2_with (first
        | (refine put_step rfl rfl 78 _ _ rfl rfl 64 ek rfl rfl zero_b64 size_b64 HEk.out ?_
           intro w4 hb4 hE4 hz4
           clear hz4
           have hB4 := below_then hB3 hb4
           have hC4 := hC3.on hb4
           have hM4 := hM3.below hb4 hM3.lt
           have hg4 := hM3.lt
           clear hB3 hC3 hM3 hb4)
        | (refine min_step rfl _ (.tmp 22) rfl 64 _ q rfl rfl ?_ ?_
           · have := HQ.out; omega))
      generalize w3.heap.size = ge at *
      go_loopw [25] (fun i wr => ∃ j : Nat, j ≤ q ∧ i = .int .i64 j ∧ Below w.heap.size w wr ∧ Cells wr w.heap.size (x.map wcell) 56 ∧ Cells wr ge (ek.map cellOf) 78 ∧ Made wr go (T (at0 + j) ++ List.replicate (L - (at0 + j)) 0)) (fun i _ => q - (intOf i).toNat)
      case atStart => exact ⟨0, Nat.zero_le _, rfl, hB4, hC4, hE4, hM4⟩
      case round =>
        clear hB4 hC4 hE4 hM4
        obtain ⟨j, hj, rfl, hB, hC, hE, hM⟩ := hrel
        by_cases hjq : j < q
        · have hat1 : at0 + j < L := by omega
          obtain ⟨b, off, rfl, hb1, hc1⟩ := (hr.below hB).atD (at0 + j) (by rw [HL.out]; exact hat1)
          have HNT := Lib.hid (HTk.out j (by omega))
          have HTj := Lib.hid (HTL.out (at0 + j))
          have ce : wr.cell? ⟨ge, j, none⟩ = some (cellOf (ek.getD j 0)) := hE.get (by
            have hj2 : j < ek.length := by rw [HEk.out]; omega
            rw [List.getElem?_map, List.getD_eq_getElem?_getD, List.getElem?_eq_getElem hj2]
            rfl)
          generalize bs.getD (at0 + j) 0 = bj at *
          generalize ek.getD j 0 = ej at *
          have i2 : (0 : Int) ≤ (at0 : Int) + (j : Int) := by omega
          have i3 : (at0 : Int) + (j : Int) < (L : Int) := by omega
          have i4 : ((at0 : Int) + (j : Int)).toNat = at0 + j := by omega
          have i5 : (0 : Int) ≤ (j : Int) := by omega
          have i6 : (j : Int) < 64 := by omega
          have i7 : (j : Int) < (q : Int) := by omega
          go_wp2_with fail
          refine wp_region_tail 15 (by kernel_rfl) (by kernel_rfl) ?_
          intro w5 hw5
          have hB5 : Below w.heap.size w w5 := by rw [hw5]; exact hB.drew
          have hC5 : Cells w5 w.heap.size (x.map wcell) 56 := by rw [hw5]; exact hC
          have hE5 : Cells w5 ge (ek.map cellOf) 78 := by rw [hw5]; exact hE
          have hM5 : Made w5 go (T (at0 + j) ++ List.replicate (L - (at0 + j)) 0) := by rw [hw5]; exact hM
          have d1 : w5.cell? ⟨b, off + (at0 + j), none⟩ = some (cellOf bj) := by rw [hw5]; exact hc1
          have d2 : w5.cell? ⟨ge, j, none⟩ = some (cellOf ej) := by rw [hw5]; exact ce
          clear hw5 hB hC hE hM hc1 ce
          have df := hM5.frozen (at0 + j)
          obtain ⟨v5, dc⟩ : ∃ v, w5.cell? ⟨go, at0 + j, none⟩ = some v := ⟨_, hM5.cell (at0 + j) (by rw [List.length_append, HTj.out, List.length_replicate]; omega)⟩
          simp only [List.take_succ_cons, List.take_zero, List.drop_succ_cons, List.drop_zero]
          have s1 : IntKind.i64.wrap ((at0 : Int) + (j : Int)) = (at0 : Int) + (j : Int) := IntWalk.i64_in _ (by omega)
          repeat still_step
          clear s1
          refine wpStill_nil ?_
          go_wp2
          go_roundw
          case rel =>
            have hb : But go w5 (w5.setCell ⟨go, at0 + j, none⟩ (cellOf (bj ^^^ ej))) := (But.refl go w5).setCell _ _
            rw [xor8]
            refine ⟨j + 1, by omega, by go_num, hB5.trans (hb.below (by omega) hB5.size), hC5.but hb (by omega), hE5.but hb (by omega), ?_⟩
            have h := hM5.set (at0 + j) (bj ^^^ ej)
            rw [setB_next _ _ L _ HTj.out hat1, ← HNT.out] at h
            exact h
          case measure => simp [intOf]; omega
        · obtain rfl : j = q := by omega
          clear hE HTk
          have c12 := hC.get (list_at x 12 (by rw [HSk.out]; omega))
          have f12 := hC.frozen 12
          generalize x.getD 12 0 = x12 at *
          have HX : Hid (((x12.toNat : Int) + 1) % 4294967296 = ((x12 + 1).toNat : Int)) := add32 x12 1
          go_wp2_with fail
          rw [HX.out]
          have e2 : (at0 : Int) + (j : Int) = ((at0 + j : Nat) : Int) := by omega
          rw [e2]
          go_step3
          have hb : But w.heap.size wr (wr.setCell ⟨w.heap.size, 12, none⟩ (wcell (x12 + 1))) := (But.refl _ wr).setCell _ _
          refine ⟨rfl, ⟨k + 1, at0 + j, _, _, _, _, _, _, _, _, _, _, _, _, _, _, _, _, _, _, _, _, _, _, _, _, _, _, _, _, _, _, _, _, _, _, _, _, _, _, _, _, _, _, _, _, by have := HQ.out; have := HAT.out; omega, hB.trans (hb.below (Nat.le_refl _) hB.size), ?_, (hb.block go hM.lt (Nat.ne_of_gt hg2)).trans hM, rfl⟩, by simp [intOf]; omega⟩
          · rw [HNk.out, ← wset_map]
            exact hC.set 12 _
    · obtain rfl : at0 = L := by omega
      rw [Nat.sub_self, List.replicate_zero, List.append_nil] at hM
      have i1 : ¬ (at0 : Int) < (at0 : Int) := by omega
      clear HS HT CE HEL HTL0 hat hlt
      go_wp2
      simp only [Exit.jump]
      go_ret
      rw [HGO.out] at hM
      exact ⟨by rw [HGO.out]; rfl, hB, hM⟩
end Go.Proofs.YtdaieklimdhkoaaDoor
namespace Go.Proofs.YtdaieklimdhkoaaDoor
open Go.RowKit
theorem streamTurned_any (A : Option Addr) (c L : Nat) (bs : List UInt8) (s : List (BitVec 32)) (w : World) (hs : s.length = 16) (hl : bs.length = L) (hr : Row w w.heap.size A bs) (hn : L ≤ 1000000) :
    Calls Tryd.prog 24 #[.agg (s.map wcell).toArray, .slice A L c] w fun e w' => e = .returned (.slice (some ⟨w.heap.size + 1, 0, none⟩) L L) ∧ Below w.heap.size w w' ∧ Made w' (w.heap.size + 1) (chAll s bs) := by
  have h := turned_over A c L bs (chAt s) (fun k => chEnded (chAt s k)) (chTurned s bs) w hl hr hn (fun k => chAt_next s k hs) (fun k => (chAt_length s k).trans hs) (fun _ => chEnded_length _) rfl (fun k j hj => chTurned_block s bs k j hj) (chTurned_length s bs)
    (fun k W => streamEnded_any (chAt s k) W ((chAt_length s k).trans hs))
  rw [chAt_zero s hs, ← hl] at h
  rw [← hl]
  exact h
/-- The key's block of that counter. -/
def chBlock (key : List UInt8) (x : BitVec 32) (nonce : List UInt8) : List UInt8 := chEnded (chOpened key x nonce)
theorem chBlock_length (key : List UInt8) (x : BitVec 32) (nonce : List UInt8) : (chBlock key x nonce).length = 64 := chEnded_length _
def chTurn (key : List UInt8) (x : BitVec 32) (nonce bs : List UInt8) : List UInt8 := chAll (chOpened key x nonce) bs
theorem chTurn_length (key : List UInt8) (x : BitVec 32) (nonce bs : List UInt8) : (chTurn key x nonce bs).length = bs.length := chAll_length _ _
theorem chTurn_back (key : List UInt8) (x : BitVec 32) (nonce bs : List UInt8) : chTurn key x nonce (chTurn key x nonce bs) = bs := chAll_back _ _
set_option maxRecDepth 100000 in
set_option maxHeartbeats 1000000 in
theorem block_over (A : Option Addr) (d : Nat) (key out : List UInt8) (s : List (BitVec 32)) (x : BitVec 32) (w : World) (HK : Hid (key.length = 32)) (HO : Hid (out.length = 64))
    (C1 : Hid (∀ W, Below w.heap.size w W → Calls Tryd.prog 25 #[hashVal key, wcell x, .slice A 12 d] W fun e w' => e = .returned (.agg (s.map wcell).toArray) ∧ Below W.heap.size W w'))
    (C2 : Hid (∀ W, Calls Tryd.prog 39 #[.agg (s.map wcell).toArray] W fun e w' => e = .returned (hashVal out) ∧ Below W.heap.size W w')) :
    Calls Tryd.prog 23 #[hashVal key, wcell x, .slice A 12 d] w (GivesOk w out 64) := by
  go_enter Tryd.func23, Tryd.ntmps23
  go_wp2_with (first
    | (refine take_step rfl 23 _ rfl key rfl ?_
       intro w1 hB1 hC1 hz1
       clear hz1)
    | (refine get_step rfl 23 _ rfl w.heap.size 32 key 5 rfl hC1 Tryd.underlying23 size_key HK.out ?_
       clear hC1))
  refine (C1.out w1 hB1).mono ?_
  rintro e w2 ⟨rfl, hb2⟩
  have hB2 := below_then hB1 hb2
  clear hB1 hb2 C1
  go_wp2_with fail
  refine (C2.out w2).mono ?_
  rintro e w3 ⟨rfl, hb3⟩
  have hB3 := below_then hB2 hb3
  clear hB2 hb3 C2
  go_wp2_with (first
    | (refine put_step rfl rfl 78 _ _ rfl rfl 64 out rfl rfl zero_b64 size_b64 HO.out ?_
       intro w4 hb4 hE4 hz4
       clear hz4
       have hB4 := below_then hB3 hb4
       clear hB3 hb4))
  go_ret2
  exact ⟨some ⟨w3.heap.size, 0, none⟩, 64, rfl, (fun h => by cases h), Nat.le_refl _, by unfold maxLen; omega, hE4.all, hB4⟩
theorem streamBlock_any (A : Option Addr) (d : Nat) (key nonce : List UInt8) (x : BitVec 32) (w : World) (hk : key.length = 32) (hn : nonce.length = 12) (hr : Row w w.heap.size A nonce) (hA : A = none → d = 0) (hd : 12 ≤ d) (hd2 : d ≤ maxLen) :
    Calls Tryd.prog 23 #[hashVal key, wcell x, .slice A 12 d] w (GivesOk w (chBlock key x nonce) 64) :=
  block_over A d key _ (chOpened key x nonce) x w hk (chBlock_length _ _ _) (fun W hW => streamOpened_any A d key nonce x W hk hn (hr.on hW) hA hd hd2) (fun W => streamEnded_any _ W (chOpened_length _ _ _))
set_option maxRecDepth 100000 in
theorem streamBlock_out (A : Option Addr) (d n : Nat) (key : List UInt8) (x : BitVec 32) (E : Value) (w : World) (hn : n ≠ 12) (hE : w.cell? ⟨3, 0, none⟩ = some E) :
    Calls Tryd.prog 23 #[hashVal key, wcell x, .slice A n d] w fun e w' => e = .returned (.tuple #[.slice none 0 0, E]) ∧ Below w.heap.size w w' := by
  have hE2 : ∀ W, Below w.heap.size w W → W.cell? ⟨3, 0, none⟩ = some E := fun W hW => (hW.cell (block_lt_of_cell hE)).trans hE
  have HE := Lib.hid hE2
  clear hE hE2
  have i1 : ¬ (n : Int) = 12 := by omega
  go_enter Tryd.func23, Tryd.ntmps23
  go_wp2_with (first
    | (refine take_step rfl 23 _ rfl key rfl ?_
       intro w1 hB1 hC1 hz1
       have hE1 := HE.out w1 hB1
       clear hz1 hC1))
  go_quiet (fail)
  go_wp2
  go_ret2
  exact ⟨rfl, below_drewN hB1 _⟩
set_option maxRecDepth 100000 in
set_option maxHeartbeats 1000000 in
theorem turn_over (A B : Option Addr) (d c L : Nat) (key out : List UInt8) (s : List (BitVec 32)) (x : BitVec 32) (w : World) (HK : Hid (key.length = 32)) (hL : L ≤ 65536)
    (C1 : Hid (∀ W, Below w.heap.size w W → Calls Tryd.prog 25 #[hashVal key, wcell x, .slice A 12 d] W fun e w' => e = .returned (.agg (s.map wcell).toArray) ∧ Below W.heap.size W w'))
    (C2 : Hid (∀ W, Below w.heap.size w W → Calls Tryd.prog 24 #[.agg (s.map wcell).toArray, .slice B L c] W fun e w' => e = .returned (.slice (some ⟨W.heap.size + 1, 0, none⟩) L L) ∧ Below W.heap.size W w' ∧ Made w' (W.heap.size + 1) out)) :
    Calls Tryd.prog 16 #[hashVal key, wcell x, .slice A 12 d, .slice B L c] w (GivesOk w out L) := by
  have i1 : ¬ (65536 : Int) < (L : Int) := by omega
  go_enter Tryd.func16, Tryd.ntmps16
  go_wp2_with (first
    | (refine take_step rfl 23 _ rfl key rfl ?_
       intro w1 hB1 hC1 hz1
       clear hz1)
    | (refine get_step rfl 23 _ rfl w.heap.size 32 key 5 rfl hC1 Tryd.underlying23 size_key HK.out ?_
       clear hC1))
  refine (C1.out w1 hB1).mono ?_
  rintro e w2 ⟨rfl, hb2⟩
  have hB2 := below_then hB1 hb2
  clear hB1 hb2 C1
  go_wp2_with fail
  refine (C2.out w2 hB2).mono ?_
  rintro e w3 ⟨rfl, hb3, hM3⟩
  have hB3 := below_then hB2 hb3
  clear hB2 hb3 C2
  generalize w2.heap.size + 1 = g at *
  go_wp2
  go_ret2
  exact ⟨some ⟨g, 0, none⟩, L, rfl, (fun h => by cases h), Nat.le_refl _, by unfold maxLen; omega, hM3.row hM3.lt, hB3⟩
theorem streamTurn_any (A B : Option Addr) (d c L : Nat) (key nonce bs : List UInt8) (x : BitVec 32) (w : World) (hk : key.length = 32) (hn : nonce.length = 12) (hr : Row w w.heap.size A nonce) (hA : A = none → d = 0) (hd : 12 ≤ d) (hd2 : d ≤ maxLen) (hl : bs.length = L) (hb : Row w w.heap.size B bs) (hL : L ≤ 65536) :
    Calls Tryd.prog 16 #[hashVal key, wcell x, .slice A 12 d, .slice B L c] w (GivesOk w (chTurn key x nonce bs) L) :=
  turn_over A B d c L key _ (chOpened key x nonce) x w hk hL (fun W hW => streamOpened_any A d key nonce x W hk hn (hr.on hW) hA hd hd2) (fun W hW => streamTurned_any B c L bs _ W (chOpened_length _ _ _) hl (hb.on hW) (by omega))
set_option maxRecDepth 100000 in
theorem streamTurn_out (A B : Option Addr) (d n c L : Nat) (key : List UInt8) (x : BitVec 32) (E : Value) (w : World) (hn : n ≠ 12) (hE : w.cell? ⟨3, 0, none⟩ = some E) :
    Calls Tryd.prog 16 #[hashVal key, wcell x, .slice A n d, .slice B L c] w fun e w' => e = .returned (.tuple #[.slice none 0 0, E]) ∧ Below w.heap.size w w' := by
  have hE2 : ∀ W, Below w.heap.size w W → W.cell? ⟨3, 0, none⟩ = some E := fun W hW => (hW.cell (block_lt_of_cell hE)).trans hE
  have HE := Lib.hid hE2
  clear hE hE2
  have i1 : ¬ (n : Int) = 12 := by omega
  go_enter Tryd.func16, Tryd.ntmps16
  go_wp2_with (first
    | (refine take_step rfl 23 _ rfl key rfl ?_
       intro w1 hB1 hC1 hz1
       have hE1 := HE.out w1 hB1
       clear hz1 hC1))
  go_quiet (fail)
  go_wp2
  go_ret2
  exact ⟨rfl, below_drewN hB1 _⟩
set_option maxRecDepth 100000 in
theorem streamTurn_long (A B : Option Addr) (d c L : Nat) (key : List UInt8) (x : BitVec 32) (E : Value) (w : World) (hL : 65536 < L) (hE : w.cell? ⟨0, 0, none⟩ = some E) :
    Calls Tryd.prog 16 #[hashVal key, wcell x, .slice A 12 d, .slice B L c] w fun e w' => e = .returned (.tuple #[.slice none 0 0, E]) ∧ Below w.heap.size w w' := by
  have hE2 : ∀ W, Below w.heap.size w W → W.cell? ⟨0, 0, none⟩ = some E := fun W hW => (hW.cell (block_lt_of_cell hE)).trans hE
  have HE := Lib.hid hE2
  clear hE hE2
  have i1 : (65536 : Int) < (L : Int) := by omega
  go_enter Tryd.func16, Tryd.ntmps16
  go_wp2_with (first
    | (refine take_step rfl 23 _ rfl key rfl ?_
       intro w1 hB1 hC1 hz1
       have hE1 := HE.out w1 hB1
       clear hz1 hC1))
  go_quiet (fail)
  go_wp2
  go_ret2
  exact ⟨rfl, below_drewN hB1 _⟩
end Go.Proofs.YtdaieklimdhkoaaDoor
namespace Go.Proofs.YtdaieklimdhkoaaDoor
open Go.RowKit
/-- The number of a row of digits (which may be 256 and above). -/
def dval : List Nat → Nat
  | [] => 0
  | x :: l => x + 256 * dval l
/-- A number's digits, no nought at the high end. -/
def digs (n : Nat) : List Nat := if h : n = 0 then [] else n % 256 :: digs (n / 256)
termination_by n
decreasing_by omega
theorem digs_zero : digs 0 = [] := by rw [digs]; simp
theorem digs_pos {n : Nat} (h : n ≠ 0) : digs n = n % 256 :: digs (n / 256) := by rw [digs]; simp [h]
theorem dval_digs (n : Nat) : dval (digs n) = n := by
  induction n using Nat.strongRecOn with
  | _ n ih =>
    by_cases h : n = 0
    · subst h; rw [digs_zero]; rfl
    · rw [digs_pos h, dval, ih (n / 256) (by omega)]
      omega
theorem digs_lt (n : Nat) : ∀ x ∈ digs n, x < 256 := by
  induction n using Nat.strongRecOn with
  | _ n ih =>
    by_cases h : n = 0
    · subst h; rw [digs_zero]; intro x hx; cases hx
    · rw [digs_pos h]
      intro x hx
      rcases List.mem_cons.1 hx with rfl | hx
      · omega
      · exact ih (n / 256) (by omega) x hx
theorem dval_append (a b : List Nat) : dval (a ++ b) = dval a + 256 ^ a.length * dval b := by
  induction a with
  | nil => simp [dval]
  | cons x a ih =>
    rw [List.cons_append, dval, dval, ih, List.length_cons, Nat.pow_succ, Nat.mul_add]
    rw [show 256 * (256 ^ a.length * dval b) = 256 ^ a.length * 256 * dval b by rw [Nat.mul_comm (256 ^ a.length) 256, Nat.mul_assoc]]
    omega
theorem dval_lt (a : List Nat) (h : ∀ x ∈ a, x < 256) : dval a < 256 ^ a.length := by
  induction a with
  | nil => simp [dval]
  | cons x a ih =>
    rw [dval, List.length_cons, Nat.pow_succ]
    have h1 := h x List.mem_cons_self
    have h2 := ih fun y hy => h y (List.mem_cons_of_mem _ hy)
    omega
/-- Noughts at the high end struck. -/
def dtrim (a : List Nat) : List Nat := (a.reverse.dropWhile (· == 0)).reverse
theorem dtrim_snoc (a : List Nat) (x : Nat) : dtrim (a ++ [x]) = if x = 0 then dtrim a else a ++ [x] := by
  unfold dtrim
  rw [List.reverse_append, List.reverse_singleton, List.singleton_append, List.dropWhile_cons]
  by_cases h : x = 0
  · simp [h]
  · simp [h]
theorem dtrim_nil : dtrim [] = [] := rfl
theorem digs_snoc : ∀ (a : List Nat) (x : Nat), (∀ y ∈ a, y < 256) → x < 256 → x ≠ 0 → digs (dval (a ++ [x])) = a ++ [x]
  | [], x, _, hx, h0 => by
    show digs (x + 256 * 0) = [x]
    rw [Nat.mul_zero, Nat.add_zero, digs_pos h0, show x / 256 = 0 by omega, digs_zero, Nat.mod_eq_of_lt hx]
  | y :: a, x, ha, hx, h0 => by
    have hy := ha y List.mem_cons_self
    have ih := digs_snoc a x (fun z hz => ha z (List.mem_cons_of_mem _ hz)) hx h0
    have hp : dval (a ++ [x]) ≠ 0 := by
      intro e
      rw [e, digs_zero] at ih
      simp at ih
    rw [List.cons_append, dval, digs_pos (by omega), show (y + 256 * dval (a ++ [x])) % 256 = y by omega, show (y + 256 * dval (a ++ [x])) / 256 = dval (a ++ [x]) by omega, ih]
/-- A row of digits below 256, its noughts at the high end struck, is its number's. -/
theorem dtrim_digs (a : List Nat) (h : ∀ x ∈ a, x < 256) : dtrim a = digs (dval a) := by
  rcases List.eq_nil_or_concat a with rfl | ⟨b, x, rfl⟩
  · rw [dtrim_nil]; exact digs_zero.symm
  · have hb : ∀ y ∈ b, y < 256 := fun y hy => h y (by simp [hy])
    have hx : x < 256 := h x (by simp)
    rw [List.concat_eq_append, dtrim_snoc]
    by_cases h0 : x = 0
    · have : b.length < (b.concat x).length := by simp
      rw [if_pos h0, dtrim_digs b hb, dval_append]
      simp [dval, h0]
    · rw [if_neg h0, digs_snoc b x hb hx h0]
termination_by a.length
theorem digs_length_le (n k : Nat) (h : n < 256 ^ k) : (digs n).length ≤ k := by
  induction k generalizing n with
  | zero =>
    have : n = 0 := by simpa using h
    subst this
    rw [digs_zero]; exact Nat.le_refl _
  | succ k ih =>
    by_cases h0 : n = 0
    · subst h0; rw [digs_zero]; exact Nat.zero_le _
    · rw [digs_pos h0, List.length_cons]
      have := ih (n / 256) (by rw [Nat.pow_succ] at h; omega)
      omega
theorem digs_length_gt (n k : Nat) (h : 256 ^ k ≤ n) : k < (digs n).length := by
  rcases Nat.lt_or_ge k (digs n).length with h1 | h1
  · exact h1
  · have h2 := dval_lt (digs n) (digs_lt n)
    rw [dval_digs] at h2
    have h3 : 256 ^ (digs n).length ≤ 256 ^ k := Nat.pow_le_pow_right (by omega) h1
    omega
theorem digs_eq_nil (n : Nat) : digs n = [] ↔ n = 0 := by
  constructor
  · intro h
    have := dval_digs n
    rw [h] at this
    exact this.symm
  · intro h; subst h; exact digs_zero
/-- 2^130 - 5. -/
def polyP : Nat := 2 ^ 130 - 5
/-- One step of the reduction keeps the rest. -/
theorem poly_step (n : Nat) : (n % 2 ^ 130 + n / 2 ^ 130 * 5) % polyP = n % polyP := by
  have h : n = n % 2 ^ 130 + n / 2 ^ 130 * 2 ^ 130 := by omega
  have e : n / 2 ^ 130 * 2 ^ 130 = n / 2 ^ 130 * 5 + n / 2 ^ 130 * polyP := by
    rw [← Nat.mul_add]
    rfl
  conv => rhs; rw [h, e, ← Nat.add_assoc, Nat.add_mul_mod_self_right]
theorem poly_less (n : Nat) (h : n / 2 ^ 130 ≠ 0) : n % 2 ^ 130 + n / 2 ^ 130 * 5 < n := by omega
/-- The last step. -/
theorem poly_last (n : Nat) (h : n / 2 ^ 130 = 0) : (if (n + 5) / 2 ^ 130 ≠ 0 then (n + 5) % 2 ^ 130 else n) = n % polyP := by
  have hp : polyP = 2 ^ 130 - 5 := rfl
  by_cases h5 : (n + 5) / 2 ^ 130 = 0
  · rw [if_neg (fun h => h h5), Nat.mod_eq_of_lt (by rw [hp]; omega)]
  · rw [if_pos h5, hp]
    omega
/- Carries: a row's digits made even. -/
theorem dval_drop (a : List Nat) (i : Nat) (h : i < a.length) : dval (a.drop i) = a[i] + 256 * dval (a.drop (i + 1)) := by
  rw [List.drop_eq_getElem_cons h, dval]
theorem dval_drop_end (a : List Nat) (i : Nat) (h : a.length ≤ i) : dval (a.drop i) = 0 := by rw [List.drop_eq_nil_of_le h]; rfl
theorem even_step (out : List Nat) (i o rest : Nat) (hl : out.length = i) : dval (out ++ [o % 256]) + 256 ^ (i + 1) * (o / 256 + rest) = dval out + 256 ^ i * (o + 256 * rest) := by
  have e : dval [o % 256] = o % 256 := by simp [dval]
  rw [dval_append, hl, e, Nat.pow_succ, Nat.mul_assoc, Nat.add_assoc, ← Nat.mul_add]
  congr 2
  omega
/- One digit raised. -/
theorem dval_set (l : List Nat) (i x : Nat) (h : i < l.length) : dval (l.set i (l[i] + x)) = dval l + 256 ^ i * x := by
  induction l generalizing i with
  | nil => simp at h
  | cons y l ih =>
    cases i with
    | zero => simp [dval]; omega
    | succ i =>
      have h2 : i < l.length := by simpa using h
      have e := ih i h2
      rw [List.set_cons_succ, dval, dval, List.getElem_cons_succ, e, Nat.pow_succ, Nat.mul_add]
      rw [show 256 * (256 ^ i * x) = 256 ^ i * 256 * x by rw [Nat.mul_comm (256 ^ i) 256, Nat.mul_assoc]]
      omega
theorem dval_zeros (n : Nat) : dval (List.replicate n 0) = 0 := by
  induction n with
  | zero => rfl
  | succ n ih => rw [List.replicate_succ, dval, ih]
theorem dval_take (a : List Nat) (i : Nat) (h : i < a.length) : dval (a.take (i + 1)) = dval (a.take i) + 256 ^ i * a[i] := by
  have e : a.take (i + 1) = a.take i ++ [a[i]] := (List.take_append_getElem h).symm
  rw [e, dval_append, List.length_take, Nat.min_eq_left (by omega)]
  simp [dval]
/- Two bits down. -/
def dshift : List Nat → List Nat
  | [] => []
  | x :: l => (x / 4 + l.headD 0 % 4 * 64) :: dshift l
theorem dshift_length : ∀ l, (dshift l).length = l.length
  | [] => rfl
  | x :: l => by rw [dshift, List.length_cons, List.length_cons, dshift_length l]
theorem dval_head (l : List Nat) : dval l % 4 = l.headD 0 % 4 := by
  cases l with
  | nil => rfl
  | cons x l => show (x + 256 * dval l) % 4 = x % 4; omega
theorem dshift_val : ∀ l : List Nat, dval (dshift l) = dval l / 4
  | [] => rfl
  | x :: l => by
    rw [dshift, dval, dval, dshift_val l, ← dval_head]
    omega
theorem dshift_lt (l : List Nat) (h : ∀ x ∈ l, x < 256) : ∀ x ∈ dshift l, x < 256 := by
  induction l with
  | nil => intro x hx; cases hx
  | cons y l ih =>
    intro x hx
    rw [dshift] at hx
    rcases List.mem_cons.1 hx with rfl | hx
    · have := h y List.mem_cons_self
      omega
    · exact ih (fun z hz => h z (List.mem_cons_of_mem _ hz)) x hx
theorem dshift_get (l : List Nat) (k : Nat) (h : k < l.length) : (dshift l)[k]'(by rw [dshift_length]; exact h) = l[k] / 4 + l.getD (k + 1) 0 % 4 * 64 := by
  induction l generalizing k with
  | nil => simp at h
  | cons y l ih =>
    cases k with
    | zero => cases l <;> simp [dshift, List.headD]
    | succ k =>
      have h2 : k < l.length := by simpa using h
      have := ih k h2
      simp only [dshift, List.getElem_cons_succ, List.getD_cons_succ]
      exact this
/-- A row's lower 130 bits, and those above. -/
theorem halved_low (a : List Nat) (h : 16 < a.length) (hl : ∀ x ∈ a, x < 256) : dval ((a.take 17).set 16 (a[16] % 4)) = dval a % 2 ^ 130 := by
  have e1 : (a.take 17).set 16 (a[16] % 4) = a.take 16 ++ [a[16] % 4] := by
    rw [show a.take 17 = a.take 16 ++ [a[16]] from (List.take_append_getElem h).symm, List.set_append_right _ _ (by rw [List.length_take]; omega), List.length_take, Nat.min_eq_left (by omega)]
    rfl
  have hlen : (a.take 16).length = 16 := by rw [List.length_take]; omega
  have e2 : dval a = dval (a.take 16) + 256 ^ 16 * (a[16] + 256 * dval (a.drop 17)) := by
    conv => lhs; rw [← List.take_append_drop 16 a]
    rw [dval_append, hlen, dval_drop a 16 h]
  have h3 := dval_lt (a.take 16) (fun x hx => hl x (List.mem_of_mem_take hx))
  rw [hlen] at h3
  rw [e1, dval_append, hlen, e2, show dval [a[16] % 4] = a[16] % 4 by simp [dval]]
  generalize dval (a.take 16) = u at *
  generalize dval (a.drop 17) = v at *
  generalize a[16] = t at *
  rw [show (256 : Nat) ^ 16 = 340282366920938463463374607431768211456 from rfl] at *
  rw [show (2 : Nat) ^ 130 = 1361129467683753853853498429727072845824 from rfl]
  omega
theorem halved_high (a : List Nat) (h : 16 < a.length) (hl : ∀ x ∈ a, x < 256) : dval (dshift (a.drop 16)) = dval a / 2 ^ 130 := by
  have hlen : (a.take 16).length = 16 := by rw [List.length_take]; omega
  have e2 : dval a = dval (a.take 16) + 256 ^ 16 * dval (a.drop 16) := by
    conv => lhs; rw [← List.take_append_drop 16 a]
    rw [dval_append, hlen]
  have h3 := dval_lt (a.take 16) (fun x hx => hl x (List.mem_of_mem_take hx))
  rw [hlen] at h3
  rw [dshift_val, e2]
  generalize dval (a.take 16) = u at *
  generalize dval (a.drop 16) = v at *
  rw [show (256 : Nat) ^ 16 = 340282366920938463463374607431768211456 from rfl] at *
  rw [show (2 : Nat) ^ 130 = 1361129467683753853853498429727072845824 from rfl]
  omega
end Go.Proofs.YtdaieklimdhkoaaDoor
namespace Go.Proofs.YtdaieklimdhkoaaDoor
open Go.RowKit
/-- The number of a row of bytes, the low one first. -/
def lev (bs : List UInt8) : Nat := dval (bs.map (·.toNat))
theorem lev_digits (bs : List UInt8) : ∀ x ∈ bs.map (·.toNat), x < 256 := by
  intro x hx
  obtain ⟨u, _, rfl⟩ := List.mem_map.1 hx
  exact u.toNat_lt
theorem lev_lt (bs : List UInt8) : lev bs < 256 ^ bs.length := by
  have h := dval_lt _ (lev_digits bs)
  rwa [List.length_map] at h
theorem lev_append (a b : List UInt8) : lev (a ++ b) = lev a + 256 ^ a.length * lev b := by
  unfold lev
  rw [List.map_append, dval_append, List.length_map]
/-- A row of bytes as digits, its noughts at the high end struck. -/
theorem lev_digs (bs : List UInt8) : dtrim (bs.map (·.toNat)) = digs (lev bs) := dtrim_digs _ (lev_digits bs)
/-- The key's first half, clamped. -/
def polyClamp (k : List UInt8) : List UInt8 := [4, 8, 12].foldl (fun k i => k.set i (k.getD i 0 / 4 * 4)) ([3, 7, 11, 15].foldl (fun k i => k.set i (k.getD i 0 % 16)) k)
theorem polyClamp_length (k : List UInt8) : (polyClamp k).length = k.length := by simp [polyClamp]
def polyR (key : List UInt8) : Nat := lev (polyClamp (key.take 16))
def polyS (key : List UInt8) : Nat := lev (key.drop 16)
/-- The number behind n blocks. -/
def polyH (r : Nat) (bs : List UInt8) : Nat → Nat
  | 0 => 0
  | n + 1 => (polyH r bs n + lev ((bs.drop (16 * n)).take 16 ++ [1])) * r % polyP
theorem polyH_lt (r : Nat) (bs : List UInt8) (n : Nat) : polyH r bs n < polyP := by
  cases n with
  | zero => show 0 < polyP; decide
  | succ n => exact Nat.mod_lt _ (by decide)
/-- The code. -/
def polySum (key bs : List UInt8) : List UInt8 := putL (polyH (polyR key) bs ((bs.length + 15) / 16) + polyS key) 16
theorem polySum_length (key bs : List UInt8) : (polySum key bs).length = 16 := putL_length _ _
/-- A number's k low bytes are that number, modulo 256^k. -/
theorem lev_putL (x : Nat) : ∀ k, lev (putL x k) = x % 256 ^ k
  | 0 => by rw [Nat.pow_zero, Nat.mod_one]; rfl
  | k + 1 => by
    rw [putL_succ, lev_append, lev_putL x k, putL_length]
    have e : lev [byteAt x k] = x / 256 ^ k % 256 := by
      simp [lev, dval, byteAt]
    rw [e, Nat.pow_succ, Nat.mod_mul]
theorem dval_take_mod (a : List Nat) (h : ∀ x ∈ a, x < 256) (k : Nat) (hk : k ≤ a.length) : dval (a.take k) = dval a % 256 ^ k := by
  have e : dval a = dval (a.take k) + 256 ^ k * dval (a.drop k) := by
    conv => lhs; rw [← List.take_append_drop k a]
    rw [dval_append, List.length_take, Nat.min_eq_left hk]
  have h1 := dval_lt (a.take k) (fun x hx => h x (List.mem_of_mem_take hx))
  rw [List.length_take, Nat.min_eq_left hk] at h1
  rw [e, Nat.add_mul_mod_self_left, Nat.mod_eq_of_lt h1]
/- Two rows added digit by digit, with what is carried. -/
theorem carry_step (a b : List Nat) (i : Nat) (ha : i < a.length) (hb : i < b.length) : (dval (a.take i) + dval (b.take i)) / 256 ^ i + (a[i] + b[i]) = (dval (a.take (i + 1)) + dval (b.take (i + 1))) / 256 ^ i := by
  rw [dval_take a i ha, dval_take b i hb]
  have e : dval (a.take i) + 256 ^ i * a[i] + (dval (b.take i) + 256 ^ i * b[i]) = dval (a.take i) + dval (b.take i) + 256 ^ i * (a[i] + b[i]) := by
    rw [Nat.mul_add]; omega
  rw [e, Nat.add_mul_div_left _ _ (Nat.pow_pos (by omega))]
theorem carry_next (n i : Nat) : n / 256 ^ i / 256 = n / 256 ^ (i + 1) := by rw [Nat.div_div_eq_div_mul, Nat.pow_succ]
/-- The digit that comes out is the sum's own. -/
theorem carry_digit (a b : List Nat) (i : Nat) (ha : i < a.length) (hb : i < b.length) (la : ∀ x ∈ a, x < 256) (lb : ∀ x ∈ b, x < 256) : (dval (a.take (i + 1)) + dval (b.take (i + 1))) / 256 ^ i % 256 = (dval a + dval b) / 256 ^ i % 256 := by
  rw [dval_take_mod a la (i + 1) ha, dval_take_mod b lb (i + 1) hb]
  have key : ∀ u v : Nat, (u % 256 ^ (i + 1) + v % 256 ^ (i + 1)) / 256 ^ i % 256 = (u + v) / 256 ^ i % 256 := by
    intro u v
    have hm : ∀ z : Nat, z / 256 ^ i % 256 = z % 256 ^ (i + 1) / 256 ^ i := by
      intro z
      rw [Nat.pow_succ, Nat.mod_mul_right_div_self]
    rw [hm, hm, ← Nat.add_mod]
  exact key _ _
/-- Sums that are the same modulo 256^n have the same lower n digits. -/
theorem digit_same (u v n i : Nat) (hi : i < n) (h : u % 256 ^ n = v % 256 ^ n) : u / 256 ^ i % 256 = v / 256 ^ i % 256 := by
  have hm : ∀ z : Nat, z / 256 ^ i % 256 = z % 256 ^ n / 256 ^ i % 256 := by
    intro z
    obtain ⟨d, rfl⟩ : ∃ d, n = i + (d + 1) := ⟨n - i - 1, by omega⟩
    rw [Nat.pow_add, Nat.mod_mul_right_div_self, Nat.pow_succ, Nat.mod_mul_left_mod]
  rw [hm u, hm v, h]
/-- By another end of the key the codes are apart by as much as the ends are. -/
theorem polySum_apart (a b bs : List UInt8) (h : polyR a = polyR b) : (lev (polySum a bs) + polyS b) % 256 ^ 16 = (lev (polySum b bs) + polyS a) % 256 ^ 16 := by
  unfold polySum
  rw [lev_putL, lev_putL, h, Nat.mod_add_mod, Nat.mod_add_mod]
  congr 1
  omega
end Go.Proofs.YtdaieklimdhkoaaDoor
