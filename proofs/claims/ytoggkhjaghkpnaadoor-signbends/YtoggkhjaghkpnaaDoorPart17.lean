/- Part 17 of what the laws of this seat share: UShare, URadix, UOf, UMany, USum, UTimes, UWith, GSquare. -/
import Derived.Great.BuildSlice
import Derived.Deep.Cut
import Derived.IntWalk
import Derived.Test.YtoggkhjaghkpnaaDoorPart16
namespace Go.Proofs.YtoggkhjaghkpnaaDoor
open Go.RowKit
/-- Cells of any kind, as a value. -/
abbrev anyc (v : Value) : Value := v
def valsV (l : List Value) : Value := .agg (l.map anyc).toArray
abbrev zshare : List Value := nzeros 240 ++ kzeros
theorem zero_share : ∀ w, (zeroValue 81).run Tryd.prog w = .ok (.agg zshare.toArray) w := (zero_of_info (P := Tryd.prog) (t := 81) (v := .agg zshare.toArray) (n := 272) (by kernel_rfl)).1
theorem size_share : (Tryd.prog.info? 81).map (·.size) = some 272 := by kernel_rfl
theorem list32 {l : List UInt8} (h : l.length = 32) : ∃ a0 a1 a2 a3 a4 a5 a6 a7 a8 a9 a10 a11 a12 a13 a14 a15 a16 a17 a18 a19 a20 a21 a22 a23 a24 a25 a26 a27 a28 a29 a30 a31, l = [a0, a1, a2, a3, a4, a5, a6, a7, a8, a9, a10, a11, a12, a13, a14, a15, a16, a17, a18, a19, a20, a21, a22, a23, a24, a25, a26, a27, a28, a29, a30, a31] := by
  match l, h with
  | [a0, a1, a2, a3, a4, a5, a6, a7, a8, a9, a10, a11, a12, a13, a14, a15, a16, a17, a18, a19, a20, a21, a22, a23, a24, a25, a26, a27, a28, a29, a30, a31], _ => exact ⟨a0, a1, a2, a3, a4, a5, a6, a7, a8, a9, a10, a11, a12, a13, a14, a15, a16, a17, a18, a19, a20, a21, a22, a23, a24, a25, a26, a27, a28, a29, a30, a31, rfl⟩
theorem build_share (key : List UInt8) (hk : key.length = 32) (w : World) : (Instr.build 81 #[(1, hashVal key)]).run Tryd.prog w = .ok (valsV (nzeros 240 ++ key.map cellOf)) w := by
  obtain ⟨a0, a1, a2, a3, a4, a5, a6, a7, a8, a9, a10, a11, a12, a13, a14, a15, a16, a17, a18, a19, a20, a21, a22, a23, a24, a25, a26, a27, a28, a29, a30, a31, rfl⟩ := list32 hk
  kernel_rfl
theorem field_s0 (g o : Nat) (w : World) : (Instr.fieldAt 81 (.pointer (some ⟨g, o, none⟩)) 0).run Tryd.prog w = .ok (.pointer (some ⟨g, o, none⟩)) w := by kernel_rfl
theorem field_z0 (g : Nat) (w : World) : (Instr.fieldAt 81 (.pointer (some ⟨g, 0, none⟩)) 0).run Tryd.prog w = .ok (.pointer (some ⟨g, 0, none⟩)) w := field_s0 g 0 w
theorem index_s (g o k : Nat) (ik : IntKind) (hk : k < 16) (w : World) : (Instr.indexAt 79 (.pointer (some ⟨g, o, none⟩)) (.int ik (k : Int))).run Tryd.prog w = .ok (.pointer (some ⟨g, o + k * 15, none⟩)) w :=
  index_run (by kernel_rfl) size_up g o k hk w
theorem index_sl (g o m k : Nat) (ik : IntKind) (hk : k < m) (w : World) : (Instr.indexAt 107 (.slice (some ⟨g, o, none⟩) m m) (.int ik (k : Int))).run Tryd.prog w = .ok (.pointer (some ⟨g, o + k * 272, none⟩)) w :=
  index_slice (by kernel_rfl) size_share g o k hk w
/-- A point out of the middle of cells. -/
theorem load_mid {w : World} {g : Nat} {vs : List Value} {t' : TypeId} (hC : Cells w g vs t') (o : Nat) (x : List Nat) (hx : x.length = 15) (hv : (vs.drop o).take 15 = x.map ncell) : (Instr.loadAt 46 (.pointer (some ⟨g, o, none⟩))).run Tryd.prog w = .ok (numVal x) w := by
  have hr := hC.range o 15
  rw [hv] at hr
  exact run_loadAt_mid w g o 46 (x.map ncell) _ hr Tryd.underlying46 rfl (by rw [List.length_map, hx]; exact size_up)
/-- Slices of one share and of two. -/
theorem fold_cells : ∀ (cs : List Value) (k off : Nat) (A : List Value), off + k + cs.length ≤ A.length →
    (cs.zipIdx k).foldl (fun a (p : Value × Nat) => a.setIfInBounds (off + p.2) p.1) A.toArray = (splice A (off + k) cs).toArray
  | [], k, off, A, _ => by simp [splice]
  | c :: cs, k, off, A, h => by
    rw [List.length_cons] at h
    rw [List.zipIdx_cons, List.foldl_cons]
    simp only [List.setIfInBounds_toArray]
    rw [fold_cells cs (k + 1) off (A.set (off + k) c) (by rw [List.length_set]; omega)]
    rw [show off + (k + 1) = off + k + 1 by omega, set_splice _ _ _ _ (by omega)]
theorem fold_agg (l : List Value) (off : Nat) (A : List Value) (h : off + l.length ≤ A.length) :
    (l.toArray.zipIdx).foldl (fun a (p : Value × Nat) => a.setIfInBounds (off + p.2) p.1) A.toArray = (splice A off l).toArray := by
  have e := fold_cells l 0 off A (by omega)
  simpa using e
theorem valsV_cells (l : List Value) : (valsV l).cells = l.toArray := by
  show (l.map anyc).toArray = l.toArray
  rw [show l.map anyc = l from List.map_id l]
theorem info_share : ∃ i0, Tryd.prog.info? 81 = some i0 ∧ i0.size = 272 ∧ i0.zero = some (.agg zshare.toArray) := by
  have h : (Tryd.prog.info? 81).map (fun i => (i.size, i.zero)) = some (272, some (.agg zshare.toArray)) := by kernel_rfl
  obtain ⟨i0, h1, h2⟩ := Option.map_eq_some_iff.1 h
  exact ⟨i0, h1, (Prod.mk.inj h2).1, (Prod.mk.inj h2).2⟩
theorem zero_row (n : Nat) : ∃ A : List Value, A.length = n ∧ A.toArray = (Array.range n).map (fun x => (Value.cells (.agg zshare.toArray))[x % (Value.cells (.agg zshare.toArray)).size]!) :=
  ⟨((Array.range n).map (fun x => (Value.cells (.agg zshare.toArray))[x % (Value.cells (.agg zshare.toArray)).size]!)).toList, by simp, Array.toArray_toList⟩
theorem slice_one (s : List Value) (hs : s.length = 272) (w : World) : (Instr.buildSlice 107 1 #[(0, valsV s)]).run Tryd.prog w = .ok (.slice (some ⟨w.heap.size, 0, none⟩) 1 1) (w.alloc (.cells (s.map anyc).toArray 81)) := by
  obtain ⟨i0, hi0, hs0, hz0⟩ := info_share
  refine run_buildSlice w _ _ 1 _ _ i0 _ (by kernel_rfl) hi0 hz0 (by rw [hs0]; decide) (by rw [hs0]; decide) ?_
  rw [hs0]
  obtain ⟨A, hl, hA⟩ := zero_row (1 * 272)
  rw [← hA]
  simp only [Instr.fill, valsV_cells]
  rw [if_neg (by simp [hs, hl])]
  rw [Nat.zero_mul, fold_agg s 0 A (by omega), splice_all _ _ (by omega), show s.map anyc = s from List.map_id s]
theorem slice_two (s t : List Value) (hs : s.length = 272) (ht : t.length = 272) (w : World) : (Instr.buildSlice 107 2 #[(0, valsV s), (1, valsV t)]).run Tryd.prog w = .ok (.slice (some ⟨w.heap.size, 0, none⟩) 2 2) (w.alloc (.cells ((s ++ t).map anyc).toArray 81)) := by
  obtain ⟨i0, hi0, hs0, hz0⟩ := info_share
  refine run_buildSlice w _ _ 2 _ _ i0 _ (by kernel_rfl) hi0 hz0 (by rw [hs0]; decide) (by rw [hs0]; decide) ?_
  rw [hs0]
  obtain ⟨A, hl, hA⟩ := zero_row (2 * 272)
  rw [← hA]
  simp only [Instr.fill, valsV_cells]
  rw [if_neg (by simp [hs, hl])]
  rw [Nat.zero_mul, fold_agg s 0 A (by omega)]
  have l1 : (splice A 0 s).length = 544 := by rw [splice_length _ _ _ (by omega)]; omega
  rw [if_neg (by simp [ht, l1])]
  rw [fold_agg t _ _ (by omega), show (s ++ t).map anyc = s ++ t from List.map_id _]
  have e : splice (splice A 0 s) (1 * 272) t = s ++ t := by
    have e1 : splice A 0 s = s ++ A.drop 272 := by rw [splice, List.take_zero, List.nil_append, Nat.zero_add, hs]
    rw [e1] at l1 ⊢
    rw [splice, show List.drop (1 * 272 + t.length) (s ++ List.drop 272 A) = [] from List.drop_eq_nil_of_le (by omega), List.append_nil, List.take_append_of_le_length (by omega), List.take_of_length_le (by omega)]
  rw [e]
section
variable {P : Program} {w : World} {ops : Array Oper} {rest : List Oper} {o : Oper} {a : Act} {Q : Exit → Act → World → Prop}
/-- A literal of a slice of shares. -/
theorem ulit_step (hgd : o.guard = none) (t : TypeId) (n : Nat) (parts : List (Nat × Operand)) (ho : o.op = .buildSlice t n parts.toArray) (ps : List (Nat × Value)) (hp : (parts.map fun (i, x) => (i, a.eval x)) = ps) (e : TypeId) (vs : List Value)
    (hr : ∀ w, (Instr.buildSlice t n ps.toArray).run P w = .ok (.slice (some ⟨w.heap.size, 0, none⟩) n n) (w.alloc (.cells vs.toArray e)))
    (h : ∀ w', Below w.heap.size w w' → Cells w' w.heap.size vs e → wpList P ops Q rest (a.put o.dst (.slice (some ⟨w.heap.size, 0, none⟩) n n)) w') : wpList P ops Q (o :: rest) a w :=
  slice_step hgd t n parts ho ps hp e _ hr fun w' hw => h w' (by rw [hw]; exact (Below.refl _ _).alloc (Nat.le_refl _) _) (by rw [hw]; exact Cells.new w _ _)
end
set_option maxRecDepth 100000 in
set_option maxHeartbeats 1000000 in
theorem urad_over (p : List Nat) (X : Nat → List Nat) (w : World)
    (HX0 : Hid (X 0 = p))
    (HL : Hid (∀ j, (X j).length = 15))
    (HT : Hid (∀ j : Nat, j < 4 → ∀ W, Calls Tryd.prog 86 #[numVal (X j)] W (gvn (numVal (X (j + 1))) W))) :
    Calls Tryd.prog 67 #[numVal p] w (gvn (numVal (X 4)) w) := by
  go_enter Tryd.func67, Tryd.ntmps67
  go_wp2_with (first
    | (refine vtake_step rfl 46 (.tmp 0) rfl (p.map ncell) rfl ?_
       intro w1 hb1 hvp1
       have hB1 := hb1
       have hgep : w.heap.size ≤ w.heap.size := Nat.le_refl _
       clear  hb1
       try simp only [putS]
       skip)
    | (refine vzero_step (o := ⟨some 2, _, _, _, _, _⟩) rfl 46 rfl (nzeros 15) zero_up ?_
       intro w2 hb2 hvr2
       have hB2 := below_then hB1 hb2
       have hger : w.heap.size ≤ w1.heap.size := hB1.size
       have hvp2 := hvp1.on hb2
       have hnepr := Nat.ne_of_lt hvp1.lt
       clear hB1 hvp1 hb2
       try simp only [putS]
       skip))
  generalize hqr : w1.heap.size = gr at *
  clear hqr
  go_loopw [3] (fun t wr => ∃ j : Nat, j ≤ 4 ∧ t = .int .i64 (j : Int) ∧ Below w.heap.size w wr ∧ Cells wr (w.heap.size) ((X j).map ncell) 46 ∧ Cells wr gr (nzeros 15) 46) (fun t _ => (4 - intOf t).toNat)
  case atStart => exact ⟨0, by decide, rfl, hB2, by rw [HX0.out]; exact hvp2, hvr2⟩
  case round =>
    clear hB2 hvp2 hvr2
    obtain ⟨j, hj, rfl, hBl, hvpl, hvrl⟩ := hrel
    by_cases h0 : j < 4
    · have i1 : (0 : Int) ≤ (j : Int) := by omega
      have i2 : (j : Int) < 4 := by omega
      have i3 : IntKind.i64.wrap ((j : Int) + 1) = (j : Int) + 1 := IntWalk.i64_in _ (by omega)
      have CT := Lib.hid (HT.out j h0)
      have Hx := Lib.hid (HL.out j)
      have Hy := Lib.hid (HL.out (j + 1))
      clear HT HL HX0
      obtain ⟨x, HXx⟩ := namedF (X j)
      obtain ⟨y, HXy⟩ := namedF (X (j + 1))
      rw [HXx.out] at CT Hx hvpl
      rw [HXy.out] at CT Hy
      go_wp2_with (first
        | (refine sget_step rfl 46 (.tmp 1) rfl w.heap.size 15 (x.map ncell) rfl hvpl Tryd.underlying46 rfl size_up (by rw [List.length_map, Hx.out]) ?_
           try simp only [putS]
           skip))
      refine (CT.out wr).mono ?_
      rintro e w3 ⟨rfl, hb3⟩
      have hB3 := below_then hBl hb3
      have hvp3 := hvpl.on hb3
      have hvr3 := hvrl.on hb3
      clear hBl hvpl hvrl hb3
      go_wp2_with (first
        | (refine vset_step rfl 46 (.tmp 1) (.tmp 6) rfl w.heap.size 15 (x.map ncell) (y.map ncell) rfl rfl hvp3 (by rw [List.length_map, Hx.out]) size_up (by rw [List.length_map, Hy.out]) (ncells_one _) ?_
           intro w4 hb4 hvp4 hz4
           have hB4 : Below w.heap.size w w4 := hB3.trans (hb4.below hgep hB3.size)
           have hvr4 := hvr3.but hb4 (Ne.symm hnepr)
           clear hB3 hvp3 hb4 hz4 hvr3
           skip))
      go_roundw
      case rel => exact ⟨j + 1, by omega, rfl, hB4, by rw [HXy.out]; exact hvp4, hvr4⟩
      case measure => simp [intOf] <;> omega
    · obtain rfl : j = 4 := by omega
      rw [show (((4 : Nat)) : Int) = 4 from rfl]
      have Hx := Lib.hid (HL.out 4)
      clear HT HL HX0
      go_wp2_with (first
        | (refine sget_step rfl 46 (.tmp 1) rfl w.heap.size 15 ((X 4).map ncell) rfl hvpl Tryd.underlying46 rfl size_up (by rw [List.length_map, Hx.out]) ?_
           try simp only [putS]
           skip)
        | (refine vset_step rfl 46 (.tmp 2) (.tmp 8) rfl gr 15 (nzeros 15) ((X 4).map ncell) rfl rfl hvrl rfl size_up (by rw [List.length_map, Hx.out]) (ncells_one _) ?_
           intro w5 hb5 hvr5 hz5
           have hB5 : Below w.heap.size w w5 := hBl.trans (hb5.below hger hBl.size)
           have hvp5 := hvpl.but hb5 hnepr
           clear hBl hvrl hb5 hz5 hvpl
           skip))
      exact sret Tryd.results67 gr ((X 4).map ncell) rfl hvr5 Tryd.underlying46 rfl size_up (by rw [List.length_map, Hx.out]) rfl ⟨rfl, hB5⟩
set_option maxRecDepth 100000 in
set_option maxHeartbeats 1000000 in
theorem uof_over (g o i d : Nat) (vs : List Value) (q : UInt8) (m : List Nat) (t' : TypeId) (w : World) (hi : i < 64) (hd : d < 16) (hC : Cells w g vs t')
    (HQ : Hid (vs[o + 240 + i / 2]? = some (cellOf q)))
    (HD : Hid ((q.toNat : Int) / 2 ^ (i % 2 * 4) % 16 = (d : Int)))
    (Hm : Hid (m.length = 15))
    (HM : Hid ((vs.drop (o + d * 15)).take 15 = m.map ncell)) :
    Calls Tryd.prog 69 #[.pointer (some ⟨g, o, none⟩), .int .i64 (i : Int)] w (gvn (numVal m) w) := by
  go_enter Tryd.func69, Tryd.ntmps69
  go_upto_region 1 with (first
    | (refine vzero_step (o := ⟨some 4, _, _, _, _, _⟩) rfl 46 rfl (nzeros 15) zero_up ?_
       intro w1 hb1 hvr1
       have hB1 := hb1
       have hger : w.heap.size ≤ w.heap.size := Nat.le_refl _
       clear  hb1
       try simp only [putS]
       skip))
  have hC1 := hC.on hB1
  have dq := hC1.get HQ.out
  have hD := HD.out
  have i1 : (0 : Int) ≤ (i : Int) := by omega
  have i2 : (i : Int) < 64 := by omega
  have i3 : (i : Int).tdiv 2 = (i : Int) / 2 := Int.tdiv_eq_ediv_of_nonneg i1
  have i4 : (i : Int).tmod 2 = (i : Int) % 2 := Int.tmod_eq_emod_of_nonneg i1
  have i5 : IntKind.i64.wrap ((i : Int) / 2) = (i : Int) / 2 := IntWalk.i64_in _ (by omega)
  have i6 : IntKind.i64.wrap ((i : Int) % 2) = (i : Int) % 2 := IntWalk.i64_in _ (by omega)
  have i7 : IntKind.i64.wrap ((i : Int) % 2 * 4) = (i : Int) % 2 * 4 := IntWalk.i64_in _ (by omega)
  have i8 : (0 : Int) ≤ (i : Int) / 2 := by omega
  have i9 : (i : Int) / 2 < 32 := by omega
  have i10 : ((i : Int) / 2).toNat = i / 2 := by omega
  have i11 : (0 : Int) ≤ (i : Int) % 2 * 4 := by omega
  have i12 : ((i : Int) % 2 * 4).toNat = i % 2 * 4 := by omega
  have i13 : (0 : Int) ≤ (q.toNat : Int) / 2 ^ (i % 2 * 4) := Int.ediv_nonneg (by omega) (Int.pow_nonneg (by decide))
  have i14 : ((q.toNat : Int) / 2 ^ (i % 2 * 4)).tmod 16 = (d : Int) := by rw [Int.tmod_eq_emod_of_nonneg i13]; exact hD
  have i15 : (0 : Int) ≤ (d : Int) := by omega
  have i16 : (d : Int) < 16 := by omega
  have hR : w1.rangeAt g (o + d * 15) (m.map ncell) := by rw [← HM.out]; exact hC1.range (o + d * 15) 15
  clear hD i13
  go_wp2_with (first
    | (refine wpList_load_mid rfl 46 (.tmp 22) rfl g (o + d * 15) rfl (m.map ncell) _ hR Tryd.underlying46 rfl (by rw [List.length_map, Hm.out]; exact size_up) ?_
       try simp only [putS]
       skip)
    | (refine vset_step rfl 46 (.tmp 4) (.tmp 23) rfl (w.heap.size) 15 (nzeros 15) (m.map ncell) rfl rfl hvr1 rfl size_up (by rw [List.length_map, Hm.out]) (ncells_one _) ?_
       intro w2 hb2 hvr2 hz2
       have hB2 : Below w.heap.size w w2 := hB1.trans (hb2.below hger hB1.size)
       clear hB1 hvr1 hb2 hz2
       skip))
  exact sret Tryd.results69 (w.heap.size) (m.map ncell) rfl hvr2 Tryd.underlying46 rfl size_up (by rw [List.length_map, Hm.out]) rfl ⟨rfl, hB2⟩
theorem less_one (k : Nat) (hk : k < 15) (w : World) : (binOp .sub 3 (.int .i64 ((k + 1 : Nat) : Int)) (.int .i64 1)).run Tryd.prog w = .ok (.int .i64 (k : Int)) w := by
  have h : IntKind.i64.wrap (k : Int) = (k : Int) := IntWalk.i64_in _ (by omega)
  go_simp
def umanyVs2 (p : List Nat) (key : List UInt8) (g_base : Nat) (gk : Nat) (gr : Nat) (gs : Nat) (T : Nat → List Value) (z : List Nat) : List Value :=
  (numVal p) :: (hashVal key) :: ptr g_base :: ptr gk :: ptr gr :: ptr gs :: undef :: (hashVal key) :: (valsV (T 0)) :: (numVal z) :: ptr gs :: ptr gs :: ud 15 []
def umanyVs6_1 (p : List Nat) (key : List UInt8) (g_base : Nat) (gk : Nat) (gr : Nat) (gs : Nat) (k : Nat) (T : Nat → List Value) (z : List Nat) (u14 : Value) (u15 : Value) (x : List Nat) (y : List Nat) : List Value :=
  (numVal p) :: (hashVal key) :: ptr g_base :: ptr gk :: ptr gr :: ptr gs :: (.int .i64 ((k + 1 : Nat) : Int)) :: (hashVal key) :: (valsV (T 0)) :: (numVal z) :: ptr gs :: ptr gs :: (.int .i64 ((k + 1 : Nat) : Int)) :: (.bool (decide ((k : Int) + 1 < 16))) :: (u14) :: (u15) :: (.int .i64 ((k + 1 : Nat) : Int)) :: (.int .i64 ((k + 1 : Nat) : Int)) :: (.int .i64 (k : Int)) :: ptr gs :: (.pointer (some ⟨gs, 0 + k * 15, none⟩)) :: (numVal x) :: (numVal p) :: (numVal y) :: ptr gs :: (.pointer (some ⟨gs, 0 + (k + 1) * 15, none⟩)) :: undef :: []
set_option maxRecDepth 100000 in
set_option maxHeartbeats 2000000 in
theorem umany_over (p z : List Nat) (key : List UInt8) (X : Nat → List Nat) (T : Nat → List Value) (E : Value) (w : World)
    (Hp : Hid (p.length = 15))
    (Hz : Hid (z.length = 15))
    (Hkey : Hid (key.length = 32))
    (HTl : Hid (∀ k, (T k).length = 272))
    (HOne : Hid (∀ k, ((T k).map anyc).toArray.all (·.oneCell') = true))
    (HS0 : Hid (splice ((T 0).map anyc) 0 (z.map ncell) = ((T 1).map anyc)))
    (HR : Hid (∀ k : Nat, k < 15 → (X k).length = 15 ∧ (X (k + 1)).length = 15 ∧ (∀ W, TabsU E W → Calls Tryd.prog 68 #[numVal (X k), numVal p] W (gvn (numVal (X (k + 1))) W)) ∧ (((T (k + 1)).map anyc).drop (0 + k * 15)).take 15 = (X k).map ncell ∧ splice ((T (k + 1)).map anyc) (0 + (k + 1) * 15) ((X (k + 1)).map ncell) = ((T (k + 1 + 1)).map anyc)))
    (CZ : Hid (∀ W, Calls Tryd.prog 66 #[] W (gvn (numVal z) W)))
    (BS : ∀ w, (Instr.build 81 #[(1, hashVal key)]).run Tryd.prog w = .ok (valsV (T 0)) w)
    (hS : TabsU E w) :
    Calls Tryd.prog 41 #[numVal p, hashVal key] w (gvn (valsV (T 16)) w) := by
  go_enter Tryd.func41, Tryd.ntmps41
  go_upto_region 2 with (first
    | (refine vtake_step rfl 46 (.tmp 0) rfl (p.map ncell) rfl ?_
       intro w1 hb1 hvp1
       have hB1 := hb1
       have hgep : w.heap.size ≤ w.heap.size := Nat.le_refl _
       clear  hb1
       try simp only [putS]
       skip)
    | (refine take_step rfl 23 (.tmp 1) rfl key rfl ?_
       intro w2 hb2 hvk2 hz
       clear hz
       have hB2 := below_then hB1 hb2
       have hgek : w.heap.size ≤ w1.heap.size := hB1.size
       have hvp2 := hvp1.on hb2
       have hnepk := Nat.ne_of_lt hvp1.lt
       clear hB1 hvp1 hb2
       try simp only [putS]
       skip)
    | (refine vzero_step (o := ⟨some 4, _, _, _, _, _⟩) rfl 81 rfl zshare zero_share ?_
       intro w3 hb3 hvr3
       have hB3 := below_then hB2 hb3
       have hger : w.heap.size ≤ w2.heap.size := hB2.size
       have hvp3 := hvp2.on hb3
       have hnepr := Nat.ne_of_lt hvp2.lt
       have hvk3 := hvk2.on hb3
       have hnekr := Nat.ne_of_lt hvk2.lt
       clear hB2 hvp2 hvk2 hb3
       try simp only [putS]
       skip)
    | (refine get_step rfl 23 (.tmp 3) rfl w1.heap.size 32 key 5 rfl hvk3 Tryd.underlying23 size_k32 Hkey.out ?_
       try simp only [putS]
       skip)
    | (refine build_step rfl 81 _ rfl [(1, hashVal key)] rfl _ BS ?_
       try simp only [putS]
       skip)
    | (refine vput_step rfl rfl 81 (.tmp 5) (.tmp 8) rfl rfl 272 zshare ((T 0).map anyc) rfl rfl zero_share rfl size_share (by rw [List.length_map, (HTl.out 0)]) (HOne.out _) ?_
       intro w4 hb4 hvs4
       have hB4 := below_then hB3 hb4
       have hges : w.heap.size ≤ w3.heap.size := hB3.size
       have hvp4 := hvp3.on hb4
       have hneps := Nat.ne_of_lt hvp3.lt
       have hvk4 := hvk3.on hb4
       have hneks := Nat.ne_of_lt hvk3.lt
       have hvr4 := hvr3.on hb4
       have hners := Nat.ne_of_lt hvr3.lt
       clear hB3 hvp3 hvk3 hvr3 hb4
       try simp only [putS]
       skip))
  generalize hqk : w1.heap.size = gk at *
  clear hqk
  generalize hqr : w2.heap.size = gr at *
  clear hqr
  generalize hqs : w3.heap.size = gs at *
  clear hqs
  refine wp_region_flat (md := .any) (by kernel_rfl) ?_
  refine wpAny_flatM (L := [0, 1, 2]) (by kernel_rfl) _ _ (umanyVs2 p key w.heap.size gk gr gs T z) [] 46 (nzeros 15) [0, 1, 2, 3, 4, 5, 6, 7, 8, 12, 13, 14, 15, 16, 17, 18, 19, 20, 21, 22, 23, 24, 25, 26] (by kernel_rfl) (by kernel_rfl) ?_ zero_up ?_ (by rfl) ?_ 1 (by kernel_rfl) ?_
  · intro p hp
    exact absurd hp List.not_mem_nil
  · repeat refine all_cons rfl ?_
    exact all_nil
  · refine all_cons (.inr (mC 9 rfl Tryd.func66 fun w hb => CZ.out w)) ?_
    refine all_cons (.inr (mF 10 rfl (field_z0 _))) ?_
    refine all_cons (.inr (mI 11 rfl fun w => index_s _ 0 0 .i64 (by decide) w)) ?_
    exact all_nil
  intro w5 g hb5 hN5 hap5
  clear hN5 hap5
  have hB5 := below_then hB4 hb5
  have hvp5 := hvp4.on hb5
  have hvk5 := hvk4.on hb5
  have hvr5 := hvr4.on hb5
  have hvs5 := hvs4.on hb5
  clear hB4 hvp4 hvk4 hvr4 hvs4 hb5
  refine wpAny_rest 3 rfl (by kernel_rfl) ?_
  refine smid_step rfl 46 (.tmp 11) (.tmp 9) rfl gs (0) 15 ((T 0).map anyc) (z.map ncell) ((T 1).map anyc) rfl rfl hvs5 (by rw [List.length_map, HTl.out 0]; decide) size_up (by rw [List.length_map, Hz.out]) (ncells_one _) HS0.out ?_
  intro w6 hb6 hvs6 hz6
  have hB6 : Below w.heap.size w w6 := hB5.trans (hb6.below hges hB5.size)
  have hvp6 := hvp5.but hb6 hneps
  have hvk6 := hvk5.but hb6 hneks
  have hvr6 := hvr5.but hb6 hners
  clear hB5 hvs5 hb6 hz6 hvp5 hvk5 hvr5
  rename_i K hKK
  show Exit.then K _ Exit.normal (⟨(umanyVs2 p key w.heap.size gk gr gs T z).toArray, []⟩ : Act) w6
  simp only [Exit.then]
  refine hKK _ _ ?_
  clear hKK K g
  simp only [umanyVs2, ptr, ud]
  go_wp2_with fail
  replace hnepk := Lib.hid hnepk
  replace hnepr := Lib.hid hnepr
  replace hnekr := Lib.hid hnekr
  replace hneps := Lib.hid hneps
  replace hneks := Lib.hid hneks
  replace hners := Lib.hid hners
  go_loopw [6] (fun t wr => ∃ j : Nat, 1 ≤ j ∧ j ≤ 16 ∧ t = .int .i64 (j : Int) ∧ Below w.heap.size w wr ∧ Cells wr (w.heap.size) (p.map ncell) 46 ∧ Cells wr gk (key.map cellOf) 23 ∧ Cells wr gr zshare 81 ∧ Cells wr gs ((T j).map anyc) 81) (fun t _ => (16 - intOf t).toNat)
  case atStart => exact ⟨1, Nat.le_refl _, by decide, rfl, hB6, hvp6, hvk6, hvr6, hvs6⟩
  case round =>
    clear hB6 hvp6 hvk6 hvr6 hvs6
    obtain ⟨j, hj1, hj, rfl, hBl, hvpl, hvkl, hvrl, hvsl⟩ := hrel
    by_cases h0 : j < 16
    · obtain ⟨k, rfl⟩ : ∃ k, j = k + 1 := ⟨j - 1, by omega⟩
      have hk : k < 15 := by omega
      have i1 : (0 : Int) ≤ ((k + 1 : Nat) : Int) := by omega
      have i2 : ((k + 1 : Nat) : Int) < 16 := by omega
      have i3 : IntKind.i64.wrap (((k + 1 : Nat) : Int) + 1) = ((k + 1 : Nat) : Int) + 1 := IntWalk.i64_in _ (by omega)
      obtain ⟨hx1, hx2, hx3, hx4, hx5⟩ := HR.out k hk
      have CA := Lib.hid hx3
      have Hx := Lib.hid hx1
      have Hy := Lib.hid hx2
      have HXx := Lib.hid hx4
      have HSk := Lib.hid hx5
      clear HR HS0 hx1 hx2 hx3 hx4 hx5
      obtain ⟨x, HXz⟩ := namedF (X k)
      obtain ⟨y, HYz⟩ := namedF (X (k + 1))
      rw [HXz.out] at CA Hx HXx
      rw [HYz.out] at CA Hy HSk
      go_upto_region 6 with fail
      go_wp2_with fail
      replace hvpl := hvpl.drew
      replace hvkl := hvkl.drew
      replace hvrl := hvrl.drew
      replace hvsl := hvsl.drew
      have hBq := (show Below w.heap.size w wr.drew from hBl.drew)
      refine wp_region_any (by kernel_rfl) ?_
      refine wpAny_flatM (L := [0, 1, 2, 3, 4, 5, 6, 7, 8, 9]) (by kernel_rfl) _ _ (umanyVs6_1 p key w.heap.size gk gr gs k T z u14 u15 x y) [] 46 (nzeros 15) [0, 1, 2, 3, 4, 5, 6, 7, 8, 9, 10, 11, 12, 13, 14, 15, 26] (by kernel_rfl) (by kernel_rfl) ?_ zero_up ?_ (by rfl) ?_ 1 (by kernel_rfl) ?_
      · intro p hp
        exact absurd hp List.not_mem_nil
      · repeat refine all_cons rfl ?_
        exact all_nil
      · refine all_cons (.inr (mV 16 rfl (.inl rfl) rfl)) ?_
        refine all_cons (.inr (mV 17 rfl (.inl rfl) rfl)) ?_
        refine all_cons (.inr (mStep _ 18 rfl rfl rfl rfl (by kernel_rfl) (fun a hv => wanted_all rfl _) (fun a w K hb hv hK => mPure (.int .i64 (k : Int)) (exec_bin _ _ _ _ _ _ _ rfl (.int .i64 ((k + 1 : Nat) : Int)) (.int .i64 1) _ (hv 17 (by kernel_rfl) rfl) (by rfl) w (by kernel_rfl) (less_one k hk w)) hK))) ?_
        refine all_cons (.inr (mF 19 rfl (field_z0 _))) ?_
        refine all_cons (.inr (mI 20 rfl fun w => index_s _ 0 k .i64 (by omega) w)) ?_
        refine all_cons (.inr (mL 21 rfl fun w hb => load_mid (hvsl.on hb) (0 + k * 15) x Hx.out HXx.out)) ?_
        refine all_cons (.inr (mL 22 rfl fun w hb => up_run (hvpl.on hb) Hp.out)) ?_
        refine all_cons (.inr (mC 23 rfl Tryd.func68 fun w hb => CA.out w (hS.below (below_then hBq hb)))) ?_
        refine all_cons (.inr (mF 24 rfl (field_z0 _))) ?_
        refine all_cons (.inr (mI 25 rfl fun w => index_s _ 0 (k + 1) .i64 (by omega) w)) ?_
        exact all_nil
      intro w7 g hb7 hN7 hap7
      clear hN7 hap7
      have hB7 := below_then (show Below w.heap.size w wr.drew from hBl.drew) hb7
      have hvp7 := hvpl.on hb7
      have hvk7 := hvkl.on hb7
      have hvr7 := hvrl.on hb7
      have hvs7 := hvsl.on hb7
      clear hBl hvpl hvkl hvrl hvsl hb7 hBq
      refine wpAny_rest 10 rfl (by kernel_rfl) ?_
      refine smid_step rfl 46 (.tmp 25) (.tmp 23) rfl gs (0 + (k + 1) * 15) 15 ((T (k + 1)).map anyc) (y.map ncell) ((T (k + 1 + 1)).map anyc) rfl rfl hvs7 (by rw [List.length_map, HTl.out (k + 1)]; omega) size_up (by rw [List.length_map, Hy.out]) (ncells_one _) HSk.out ?_
      intro w8 hb8 hvs8 hz8
      have hB8 : Below w.heap.size w w8 := hB7.trans (hb8.below hges hB7.size)
      have hvp8 := hvp7.but hb8 hneps.out
      have hvk8 := hvk7.but hb8 hneks.out
      have hvr8 := hvr7.but hb8 hners.out
      clear hB7 hvs7 hb8 hz8 hvp7 hvk7 hvr7
      rename_i K hKK
      show Exit.inBlock _ (Exit.then K _) Exit.normal (⟨(umanyVs6_1 p key w.heap.size gk gr gs k T z u14 u15 x y).toArray, []⟩ : Act) w8
      simp only [Exit.inBlock, Exit.then]
      refine hKK _ _ ?_
      clear hKK K g
      simp only [umanyVs6_1, ptr]
      go_wp2_with fail
      go_roundw
      case rel => exact ⟨k + 1 + 1, by omega, by omega, rfl, hB8, hvp8, hvk8, hvr8, hvs8⟩
      case measure => simp [intOf] <;> omega
    · obtain rfl : j = 16 := by omega
      rw [show (((16 : Nat)) : Int) = 16 from rfl]
      clear HR HS0
      go_wp2_with (first
        | (refine sget_step rfl 81 (.tmp 5) rfl gs 272 ((T 16).map anyc) rfl hvsl Tryd.underlying81 rfl size_share (by rw [List.length_map, (HTl.out 16)]) ?_
           try simp only [putS]
           skip)
        | (refine vset_step rfl 81 (.tmp 4) (.tmp 26) rfl gr 272 zshare ((T 16).map anyc) rfl rfl hvrl rfl size_share (by rw [List.length_map, (HTl.out 16)]) (HOne.out _) ?_
           intro w9 hb9 hvr9 hz9
           have hB9 : Below w.heap.size w w9 := hBl.trans (hb9.below hger hBl.size)
           have hvp9 := hvpl.but hb9 hnepr.out
           have hvk9 := hvkl.but hb9 hnekr.out
           have hvs9 := hvsl.but hb9 (Ne.symm hners.out)
           clear hBl hvrl hb9 hz9 hvpl hvkl hvsl
           skip))
      exact sret Tryd.results41 gr ((T 16).map anyc) rfl hvr9 Tryd.underlying81 rfl size_share (by rw [List.length_map, (HTl.out 16)]) rfl ⟨rfl, hB9⟩
def usumVs9 (gs : Nat) (m : Nat) (g_base : Nat) (go : Nat) (k : Nat) (j : Nat) (z : List Nat) (x : List Nat) (y0 : List Nat) (yj : List Nat) (mm : List Nat) (y : List Nat) (u25 : Value) : List Value :=
  (.slice (some ⟨gs, 0, none⟩) m m) :: undef :: ptr g_base :: ptr go :: (.int .i64 (k : Int)) :: (.int .i64 (j : Int)) :: (numVal z) :: (.int .i64 ((k : Int) + 1)) :: (.bool true) :: (.int .i64 ((k : Int) + 1)) :: (.int .i64 (k : Int)) :: (numVal x) :: (numVal y0) :: (.slice (some ⟨gs, 0, none⟩) m m) :: (.int .i64 (m : Int)) :: (.int .i64 (j : Int)) :: (.bool true) :: (.int .i64 (j : Int)) :: (numVal yj) :: (.slice (some ⟨gs, 0, none⟩) m m) :: (.int .i64 (j : Int)) :: (.pointer (some ⟨gs, 0 + j * 272, none⟩)) :: (.int .i64 (k : Int)) :: (numVal mm) :: (numVal y) :: (u25) :: undef :: []
set_option maxRecDepth 100000 in
set_option maxHeartbeats 4000000 in
theorem usum_over (m gs : Nat) (vs : List Value) (z : List Nat) (X : Nat → List Nat) (Y : Nat → Nat → List Nat) (E : Value) (w : World) (hm : m ≤ 1000000) (hC : Cells w gs (vs.map anyc) 81)
    (Hz : Hid (z.length = 15))
    (HXz : Hid (X 64 = z))
    (HLX : Hid (∀ k, (X k).length = 15))
    (HR : Hid (∀ k : Nat, k < 64 → (∀ W, Calls Tryd.prog 67 #[numVal (X (k + 1))] W (gvn (numVal (Y k 0)) W)) ∧ (∀ j, (Y k j).length = 15) ∧ (∀ j : Nat, j < m → ∃ mm : List Nat, mm.length = 15 ∧ (∀ W, Cells W gs (vs.map anyc) 81 → Calls Tryd.prog 69 #[.pointer (some ⟨gs, 0 + j * 272, none⟩), .int .i64 (k : Int)] W (gvn (numVal mm) W)) ∧ (∀ W, TabsU E W → Calls Tryd.prog 68 #[numVal (Y k j), numVal mm] W (gvn (numVal (Y k (j + 1))) W))) ∧ Y k m = X k))
    (CZ : Hid (∀ W, Calls Tryd.prog 66 #[] W (gvn (numVal z) W)))
    (hS : TabsU E w) :
    Calls Tryd.prog 40 #[.slice (some ⟨gs, 0, none⟩) m m] w (gvn (numVal (X 0)) w) := by
  go_enter Tryd.func40, Tryd.ntmps40
  go_wp2_with (first
    | (refine vzero_step (o := ⟨some 2, _, _, _, _, _⟩) rfl 46 rfl (nzeros 15) zero_up ?_
       intro w1 hb1 hvr1
       have hB1 := hb1
       have hger : w.heap.size ≤ w.heap.size := Nat.le_refl _
       have hvh1 := hC.on hb1
       have hnehr := Nat.ne_of_lt hC.lt
       clear hC hb1
       try simp only [putS]
       skip))
  refine wp_scope_once 0 (fun a' w' => ∃ (j go : Nat) (u5 u7 u8 u9 u10 u11 u12 u13 u14 u15 u16 u17 u18 u19 u20 u21 u22 u23 u24 u25 : Value), j ≤ 64 ∧ Below w.heap.size w w' ∧ w.heap.size ≤ go ∧ gs ≠ go ∧ w.heap.size ≠ go ∧ Cells w' gs (vs.map anyc) 81 ∧ Cells w' (w.heap.size) (nzeros 15) 46 ∧ Cells w' go ((X j).map ncell) 46 ∧
      a' = { tmps := #[.slice (some ⟨gs, 0, none⟩) m m, undef, .pointer (some ⟨w.heap.size, 0, none⟩), .pointer (some ⟨go, 0, none⟩), .int .i64 (j : Int), u5, numVal z, u7, u8, u9, u10, u11, u12, u13, u14, u15, u16, u17, u18, u19, u20, u21, u22, u23, u24, u25, undef], defers := [] })
    (fun a' _ => (intOf (a'.tmps.getD 4 undef)).toNat) rfl ?_ ?_
  · intro hp
    go_wp2_with fail
    refine (CZ.out w1).mono ?_
    rintro e w2 ⟨rfl, hb2⟩
    have hB2 := below_then hB1 hb2
    have hvh2 := hvh1.on hb2
    have hvr2 := hvr1.on hb2
    clear hB1 hvh1 hvr1 hb2
    go_wp2_with (first
      | (refine vput_step rfl rfl 46 (.tmp 3) (.tmp 6) rfl rfl 15 (nzeros 15) (z.map ncell) rfl rfl zero_up rfl size_up (by rw [List.length_map, Hz.out]) (ncells_one _) ?_
         intro w3 hb3 hvo3
         have hB3 := below_then hB2 hb3
         have hgeo : w.heap.size ≤ w2.heap.size := hB2.size
         have hvh3 := hvh2.on hb3
         have hneho := Nat.ne_of_lt hvh2.lt
         have hvr3 := hvr2.on hb3
         have hnero := Nat.ne_of_lt hvr2.lt
         clear hB2 hvh2 hvr2 hb3
         try simp only [putS]
         skip))
    generalize hqo : w2.heap.size = go at *
    clear hqo
    go_step3
    rename_i K hK
    exact hK _ _ (hp.out _ _ ⟨64, _, _, _, _, _, _, _, _, _, _, _, _, _, _, _, _, _, _, _, _, _, Nat.le_refl _, hB3, hgeo, hneho, hnero, hvh3, hvr3, by rw [HXz.out]; exact hvo3, rfl⟩)
  · clear hB1 hvh1 hvr1
    rintro a' wl ⟨j, go, u5, u7, u8, u9, u10, u11, u12, u13, u14, u15, u16, u17, u18, u19, u20, u21, u22, u23, u24, u25, hj, hBl, hgeo, hneho, hnero, hvhl, hvrl, hvol, rfl⟩
    by_cases h0 : 0 < j
    · obtain ⟨k, rfl⟩ : ∃ k, j = k + 1 := ⟨j - 1, by omega⟩
      have hk : k < 64 := by omega
      have e1 : (((k + 1 : Nat) : Int)) = (k : Int) + 1 := by omega
      have e2 : (k : Int) + 1 - 1 = (k : Int) := by omega
      have i0 : (0 : Int) < (k : Int) + 1 := by omega
      have i3 : IntKind.i64.wrap (k : Int) = (k : Int) := IntWalk.i64_in _ (by omega)
      rw [e1]
      obtain ⟨hr1, hr2, hr3, hr4⟩ := HR.out k hk
      have HXk := Lib.hid hr4
      have CRk := Lib.hid hr1
      have HYk := Lib.hid hr2
      have HSk := Lib.hid hr3
      have Hx := Lib.hid (HLX.out (k + 1))
      have Hy0 := Lib.hid (hr2 0)
      clear HR HXz HLX hr1 hr2 hr3 hr4 hj
      obtain ⟨x, HXx⟩ := namedF (X (k + 1))
      obtain ⟨y0, HY0⟩ := namedF (Y k 0)
      rw [HXx.out] at CRk Hx hvol
      rw [HY0.out] at CRk Hy0
      go_wp2_with (first
        | (refine sget_step rfl 46 (.tmp 3) rfl go 15 (x.map ncell) rfl hvol Tryd.underlying46 rfl size_up (by rw [List.length_map, Hx.out]) ?_
           try simp only [putS]
           skip))
      refine (CRk.out wl).mono ?_
      rintro e w4 ⟨rfl, hb4⟩
      have hB4 := below_then hBl hb4
      have hvh4 := hvhl.on hb4
      have hvr4 := hvrl.on hb4
      have hvo4 := hvol.on hb4
      clear hBl hvhl hvrl hvol hb4
      go_wp2_with (first
        | (refine vset_step rfl 46 (.tmp 3) (.tmp 12) rfl go 15 (x.map ncell) (y0.map ncell) rfl rfl hvo4 (by rw [List.length_map, Hx.out]) size_up (by rw [List.length_map, Hy0.out]) (ncells_one _) ?_
           intro w5 hb5 hvo5 hz5
           have hB5 : Below w.heap.size w w5 := hB4.trans (hb5.below hgeo hB4.size)
           have hvh5 := hvh4.but hb5 hneho
           have hvr5 := hvr4.but hb5 hnero
           clear hB4 hvo4 hb5 hz5 hvh4 hvr4
           skip))
      go_loopw [15] (fun t wr => ∃ j : Nat, j ≤ m ∧ t = .int .i64 (j : Int) ∧ Below w.heap.size w wr ∧ Cells wr gs (vs.map anyc) 81 ∧ Cells wr (w.heap.size) (nzeros 15) 46 ∧ Cells wr go ((Y k j).map ncell) 46) (fun t _ => ((m : Int) - intOf t).toNat)
      case atStart => exact ⟨0, Nat.zero_le _, rfl, hB5, hvh5, hvr5, by rw [HY0.out]; exact hvo5⟩
      case round =>
        clear hB5 hvh5 hvr5 hvo5
        obtain ⟨j, hjm, rfl, hBi, hvhi, hvri, hvoi⟩ := hrel
        by_cases h1 : j < m
        · have hj1 : j < m := h1
          have i4 : (0 : Int) ≤ (j : Int) := by omega
          have i5 : (j : Int) < (m : Int) := by omega
          have i6 : IntKind.i64.wrap ((j : Int) + 1) = (j : Int) + 1 := IntWalk.i64_in _ (by omega)
          obtain ⟨mm, hs1, hs2, hs3⟩ := HSk.out j h1
          have CF := Lib.hid hs2
          have CA := Lib.hid hs3
          have Hmm := Lib.hid hs1
          have Hyj := Lib.hid (HYk.out j)
          have Hy := Lib.hid (HYk.out (j + 1))
          clear hs1 hs2 hs3 HSk HYk HXk h1
          obtain ⟨yj, HYj⟩ := namedF (Y k j)
          obtain ⟨y, HYy⟩ := namedF (Y k (j + 1))
          rw [HYj.out] at CA Hyj hvoi
          rw [HYy.out] at CA Hy
          go_upto_region 9 with fail
          go_wp2_with fail
          replace hvhi := hvhi.drew
          replace hvri := hvri.drew
          replace hvoi := hvoi.drew
          have hBq := (show Below w.heap.size w wr.drew from hBi.drew)
          refine wp_region_any (by kernel_rfl) ?_
          refine wpAny_flatM (L := [0, 1, 2, 3, 4, 5, 6]) (by kernel_rfl) _ _ (usumVs9 gs m w.heap.size go k j z x y0 yj mm y u25) [] 81 zshare [0, 1, 2, 3, 4, 5, 6, 7, 8, 9, 10, 11, 12, 13, 14, 15, 16, 17, 25, 26] (by kernel_rfl) (by kernel_rfl) ?_ zero_share ?_ (by rfl) ?_ 1 (by kernel_rfl) ?_
          · intro p hp
            exact absurd hp List.not_mem_nil
          · repeat refine all_cons rfl ?_
            exact all_nil
          · refine all_cons (.inr (mL 18 rfl fun w hb => up_run (hvoi.on hb) Hyj.out)) ?_
            refine all_cons (.inr (mV 19 rfl (.inl rfl) rfl)) ?_
            refine all_cons (.inr (mV 20 rfl (.inl rfl) rfl)) ?_
            refine all_cons (.inr (mI 21 rfl fun w => index_sl _ 0 m j .i64 hj1 w)) ?_
            refine all_cons (.inr (mV 22 rfl (.inl rfl) rfl)) ?_
            refine all_cons (.inr (mC 23 rfl Tryd.func69 fun w hb => CF.out w (hvhi.on hb))) ?_
            refine all_cons (.inr (mC 24 rfl Tryd.func68 fun w hb => CA.out w (hS.below (below_then hBq hb)))) ?_
            exact all_nil
          intro w6 g hb6 hN6 hap6
          clear hN6 hap6
          have hB6 := below_then (show Below w.heap.size w wr.drew from hBi.drew) hb6
          have hvh6 := hvhi.on hb6
          have hvr6 := hvri.on hb6
          have hvo6 := hvoi.on hb6
          clear hBi hvhi hvri hvoi hb6 hBq
          refine wpAny_rest 7 rfl (by kernel_rfl) ?_
          refine vset_step rfl 46 (.tmp 3) (.tmp 24) rfl go 15 (yj.map ncell) (y.map ncell) rfl rfl hvo6 (by rw [List.length_map, Hyj.out]) size_up (by rw [List.length_map, Hy.out]) (ncells_one _) ?_
          intro w7 hb7 hvo7 hz7
          have hB7 : Below w.heap.size w w7 := hB6.trans (hb7.below hgeo hB6.size)
          have hvh7 := hvh6.but hb7 hneho
          have hvr7 := hvr6.but hb7 hnero
          clear hB6 hvo6 hb7 hz7 hvh6 hvr6
          rename_i K hKK
          show Exit.inBlock _ (Exit.then K _) Exit.normal (⟨(usumVs9 gs m w.heap.size go k j z x y0 yj mm y u25).toArray, []⟩ : Act) w7
          simp only [Exit.inBlock, Exit.then]
          refine hKK _ _ ?_
          clear hKK K g
          simp only [usumVs9, ptr]
          go_wp2_with fail
          go_roundw
          case rel => exact ⟨_, _, _, _, _, _, _, _, _, _, _, _, ⟨j + 1, by omega, rfl, hB7, hvh7, hvr7, by rw [HYy.out]; exact hvo7⟩, rfl⟩
          case measure => simp [intOf] <;> omega
        · obtain rfl : m = j := by omega
          have i5 : ¬ (m : Int) < (m : Int) := by omega
          go_wp2_with fail
          go_step3
          exact ⟨rfl, ⟨k, go, _, _, _, _, _, _, _, _, _, _, _, _, _, _, _, _, _, _, _, _, by omega, hBi, hgeo, hneho, hnero, hvhi, hvri, by rw [← HXk.out]; exact hvoi, rfl⟩, by simp [intOf] <;> omega⟩
    · obtain rfl : j = 0 := by omega
      have HX0 := Lib.hid (HLX.out 0)
      rw [show (((0 : Nat) : Int)) = 0 from rfl]
      go_wp2_with (first
        | (refine sget_step rfl 46 (.tmp 3) rfl go 15 ((X 0).map ncell) rfl hvol Tryd.underlying46 rfl size_up (by rw [List.length_map, HX0.out]) ?_
           try simp only [putS]
           skip)
        | (refine vset_step rfl 46 (.tmp 2) (.tmp 26) rfl w.heap.size 15 (nzeros 15) ((X 0).map ncell) rfl rfl hvrl rfl size_up (by rw [List.length_map, HX0.out]) (ncells_one _) ?_
           intro w8 hb8 hvr8 hz8
           have hB8 : Below w.heap.size w w8 := hBl.trans (hb8.below hger hBl.size)
           have hvh8 := hvhl.but hb8 hnehr
           have hvo8 := hvol.but hb8 (Ne.symm hnero)
           clear hBl hvrl hb8 hz8 hvhl hvol
           skip))
      simp only [Exit.jump]
      exact sret Tryd.results40 (w.heap.size) ((X 0).map ncell) rfl hvr8 Tryd.underlying46 rfl size_up (by rw [List.length_map, HX0.out]) rfl ⟨rfl, hB8⟩
set_option maxRecDepth 100000 in
set_option maxHeartbeats 1000000 in
theorem utimes_over (p res : List Nat) (key : List UInt8) (sv : List Value) (E : Value) (w : World)
    (Hp : Hid (p.length = 15))
    (Hres : Hid (res.length = 15))
    (Hkey : Hid (key.length = 32))
    (Hsv : Hid (sv.length = 272))
    (CM : Hid (∀ W, TabsU E W → Calls Tryd.prog 41 #[numVal p, hashVal key] W (gvn (valsV sv) W)))
    (CS : Hid (∀ g W, Cells W g (sv.map anyc) 81 → TabsU E W → Calls Tryd.prog 40 #[.slice (some ⟨g, 0, none⟩) 1 1] W (gvn (numVal res) W)))
    (hS : TabsU E w) :
    Calls Tryd.prog 25 #[numVal p, hashVal key] w (gvn (numVal res) w) := by
  go_enter Tryd.func25, Tryd.ntmps25
  go_wp2_with (first
    | (refine vtake_step rfl 46 (.tmp 0) rfl (p.map ncell) rfl ?_
       intro w1 hb1 hvp1
       have hB1 := hb1
       have hgep : w.heap.size ≤ w.heap.size := Nat.le_refl _
       clear  hb1
       try simp only [putS]
       skip)
    | (refine take_step rfl 23 (.tmp 1) rfl key rfl ?_
       intro w2 hb2 hvk2 hz
       clear hz
       have hB2 := below_then hB1 hb2
       have hgek : w.heap.size ≤ w1.heap.size := hB1.size
       have hvp2 := hvp1.on hb2
       have hnepk := Nat.ne_of_lt hvp1.lt
       clear hB1 hvp1 hb2
       try simp only [putS]
       skip)
    | (refine vzero_step (o := ⟨some 4, _, _, _, _, _⟩) rfl 46 rfl (nzeros 15) zero_up ?_
       intro w3 hb3 hvr3
       have hB3 := below_then hB2 hb3
       have hger : w.heap.size ≤ w2.heap.size := hB2.size
       have hvp3 := hvp2.on hb3
       have hnepr := Nat.ne_of_lt hvp2.lt
       have hvk3 := hvk2.on hb3
       have hnekr := Nat.ne_of_lt hvk2.lt
       clear hB2 hvp2 hvk2 hb3
       try simp only [putS]
       skip)
    | (refine sget_step rfl 46 (.tmp 2) rfl w.heap.size 15 (p.map ncell) rfl hvp3 Tryd.underlying46 rfl size_up (by rw [List.length_map, Hp.out]) ?_
       try simp only [putS]
       skip)
    | (refine get_step rfl 23 (.tmp 3) rfl w1.heap.size 32 key 5 rfl hvk3 Tryd.underlying23 size_k32 Hkey.out ?_
       try simp only [putS]
       skip))
  generalize hqk : w1.heap.size = gk at *
  clear hqk
  generalize hqr : w2.heap.size = gr at *
  clear hqr
  refine (CM.out w3 (hS.below hB3)).mono ?_
  rintro e w4 ⟨rfl, hb4⟩
  have hB4 := below_then hB3 hb4
  have hvp4 := hvp3.on hb4
  have hvk4 := hvk3.on hb4
  have hvr4 := hvr3.on hb4
  clear hB3 hvp3 hvk3 hvr3 hb4
  go_wp2_with (first
    | (refine ulit_step rfl 107 1 [(0, .tmp 7)] rfl [(0, valsV sv)] rfl 81 (sv.map anyc) (slice_one sv Hsv.out) ?_
       intro w5 hb5 hvl5
       have hB5 := below_then hB4 hb5
       have hgel : w.heap.size ≤ w4.heap.size := hB4.size
       have hvp5 := hvp4.on hb5
       have hnepl := Nat.ne_of_lt hvp4.lt
       have hvk5 := hvk4.on hb5
       have hnekl := Nat.ne_of_lt hvk4.lt
       have hvr5 := hvr4.on hb5
       have hnerl := Nat.ne_of_lt hvr4.lt
       clear hB4 hvp4 hvk4 hvr4 hb5
       try simp only [putS]
       skip))
  generalize hql : w4.heap.size = gl at *
  clear hql
  refine ((CS.out gl) w5 hvl5 (hS.below hB5)).mono ?_
  rintro e w6 ⟨rfl, hb6⟩
  have hB6 := below_then hB5 hb6
  have hvp6 := hvp5.on hb6
  have hvk6 := hvk5.on hb6
  have hvr6 := hvr5.on hb6
  have hvl6 := hvl5.on hb6
  clear hB5 hvp5 hvk5 hvr5 hvl5 hb6
  go_wp2_with (first
    | (refine vset_step rfl 46 (.tmp 4) (.tmp 9) rfl gr 15 (nzeros 15) (res.map ncell) rfl rfl hvr6 rfl size_up (by rw [List.length_map, Hres.out]) (ncells_one _) ?_
       intro w7 hb7 hvr7 hz7
       have hB7 : Below w.heap.size w w7 := hB6.trans (hb7.below hger hB6.size)
       have hvp7 := hvp6.but hb7 hnepr
       have hvk7 := hvk6.but hb7 hnekr
       have hvl7 := hvl6.but hb7 (Ne.symm hnerl)
       clear hB6 hvr6 hb7 hz7 hvp6 hvk6 hvl6
       skip))
  exact sret Tryd.results25 gr (res.map ncell) rfl hvr7 Tryd.underlying46 rfl size_up (by rw [List.length_map, Hres.out]) rfl ⟨rfl, hB7⟩
set_option maxRecDepth 100000 in
theorem loose_frame15 (a : Act) (hs : a.tmps.size = 15) (hd : a.defers = []) : ∃ u : Nat → Value, a = ⟨(u 0 :: u 1 :: u 2 :: u 3 :: u 4 :: u 5 :: u 6 :: u 7 :: u 8 :: u 9 :: u 10 :: u 11 :: u 12 :: u 13 :: u 14 :: []).toArray, []⟩ := by
  obtain ⟨u, h⟩ := frame_of 15 a hs hd
  exact ⟨u, h⟩
/-- What the operations of With yield. -/
def uwYields (p q r : List Nat) (kh ks : List UInt8) (s1 s2 : List Value) (i : Nat) (v : Value) (w : World) : Prop := match i with
  | 0 => v = numVal p
  | 1 => v = hashVal kh
  | 2 => v = valsV s1
  | 3 => v = numVal q
  | 4 => v = hashVal ks
  | 5 => v = valsV s2
  | 6 => ∃ g, v = .slice (some ⟨g, 0, none⟩) 2 2 ∧ Cells w g ((s1 ++ s2).map anyc) 81
  | 7 => v = numVal r
  | _ => True
theorem uwYields_on {p q r : List Nat} {kh ks : List UInt8} {s1 s2 : List Value} {i : Nat} {v : Value} {w w' : World} (h : uwYields p q r kh ks s1 s2 i v w) (hb : Below w.heap.size w w') : uwYields p q r kh ks s1 s2 i v w' := by
  unfold uwYields at h ⊢
  split
  all_goals first
    | exact h
    | trivial
    | (obtain ⟨g, h1, h2⟩ := h
       exact ⟨g, h1, h2.on hb⟩)
set_option maxRecDepth 100000 in
set_option maxHeartbeats 2000000 in
theorem uwith_over (p q r : List Nat) (kh ks : List UInt8) (s1 s2 : List Value) (E : Value) (w : World)
    (Hp : Hid (p.length = 15)) (Hr : Hid (r.length = 15)) (Hkh : Hid (kh.length = 32)) (Hks : Hid (ks.length = 32)) (H1 : Hid (s1.length = 272)) (H2 : Hid (s2.length = 272))
    (CM1 : Hid (∀ W, TabsU E W → Calls Tryd.prog 41 #[numVal p, hashVal kh] W (gvn (valsV s1) W)))
    (CM2 : Hid (∀ W, TabsU E W → Calls Tryd.prog 41 #[numVal q, hashVal ks] W (gvn (valsV s2) W)))
    (CB : Hid (∀ W, TabsU E W → Calls Tryd.prog 24 #[] W (gvn (numVal q) W)))
    (CS : Hid (∀ g W, Cells W g ((s1 ++ s2).map anyc) 81 → TabsU E W → Calls Tryd.prog 40 #[.slice (some ⟨g, 0, none⟩) 2 2] W (gvn (numVal r) W)))
    (hS : TabsU E w) :
    Calls Tryd.prog 18 #[numVal p, hashVal kh, hashVal ks] w (gvn (numVal r) w) := by
  go_enter Tryd.func18, Tryd.ntmps18
  go_wp2_with (first
    | (refine vtake_step rfl 46 (.tmp 0) rfl (p.map ncell) rfl ?_
       intro w1 hb1 hp1
       have hB1 := hb1
       clear hb1
       try simp only [putS]
       skip)
    | (refine take_step rfl 23 (.tmp 1) rfl kh rfl ?_
       intro w2 hb2 hh2 hz
       clear hz
       have hB2 := below_then hB1 hb2
       have hp2 := hp1.on hb2
       clear hB1 hp1 hb2
       try simp only [putS]
       skip)
    | (refine take_step rfl 23 (.tmp 2) rfl ks rfl ?_
       intro w3 hb3 hs3 hz
       clear hz
       have hB3 := below_then hB2 hb3
       have hp3 := hp2.on hb3
       have hh3 := hh2.on hb3
       clear hB2 hp2 hh2 hb3
       try simp only [putS]
       skip)
    | (refine vzero_step (o := ⟨some 6, _, _, _, _, _⟩) rfl 46 rfl (nzeros 15) zero_up ?_
       intro w4 hb4 hr4
       have hB4 := below_then hB3 hb4
       have hge : w.heap.size ≤ w3.heap.size := hB3.size
       have hp4 := hp3.on hb4
       have hh4 := hh3.on hb4
       have hs4 := hs3.on hb4
       clear hB3 hp3 hh3 hs3 hb4
       try simp only [putS]
       skip))
  generalize hq3 : w3.heap.size = gr at *
  clear hq3
  generalize hq2 : w2.heap.size = gs at *
  clear hq2
  generalize hq1 : w1.heap.size = gh at *
  clear hq1
  have hB5 : Below w.heap.size w w4.drew := hB4.drew
  have hp5 := hp4.drew
  have hh5 := hh4.drew
  have hs5 := hs4.drew
  have hr5 := hr4.drew
  refine wp_region_any (by kernel_rfl) ?_
  show wpAny _ _ _ _ _ _ _ w4.drew
  simp only [List.size_toArray, List.length_cons, List.length_nil, Nat.reduceAdd, Array.replicate_succ, Array.replicate_zero, List.push_toArray, List.nil_append, List.cons_append]
  clear hB4 hp4 hh4 hs4 hr4
  generalize w4.drew = w5 at *
  have rp := hp5.range 0 15
  rw [List.drop_zero, List.take_of_length_le (by rw [List.length_map, Hp.out]; omega)] at rp
  have rh := hh5.range 0 32
  rw [List.drop_zero, List.take_of_length_le (by rw [List.length_map, Hkh.out]; omega)] at rh
  have rs := hs5.range 0 32
  rw [List.drop_zero, List.take_of_length_le (by rw [List.length_map, Hks.out]; omega)] at rs
  refine wpAny_loose (L := [0, 1, 2, 3, 4, 5, 6, 7]) (fins := [(#[true, true, true, true, true, true, true, true, false], 1)]) (LooseAt w5 _ [(0, 7), (1, 8), (2, 9), (3, 10), (4, 11), (5, 12), (6, 13), (7, 14)] (uwYields p q r kh ks s1 s2)) ?_ ?_ 9 _ _ _ (by kernel_rfl) ⟨Below.refl _ _, rfl, rfl, fun _ _ => rfl, ?_⟩
  rotate_left 2
  · intro p hp hl
    simp only [List.mem_cons, List.not_mem_nil, or_false] at hp
    rcases hp with rfl | rfl | rfl | rfl | rfl | rfl | rfl | rfl
    all_goals cases hl
  · intro i hi
    simp only [List.mem_cons, List.not_mem_nil, or_false] at hi
    rcases hi with rfl | rfl | rfl | rfl | rfl | rfl | rfl | rfl
    · refine loose_step (slots := [(0, 7), (1, 8), (2, 9), (3, 10), (4, 11), (5, 12), (6, 13), (7, 14)]) (prop := uwYields p q r kh ks s1 s2) (by decide) (by decide) 15 rfl (by decide) (fun _ _ _ _ h hb => uwYields_on h hb) (i := 0) (s := 7) (by decide) rfl rfl ?_
      intro a w6 K hb hs hd hsame hfact hK
      exact load_op rfl 46 (.tmp 3) rfl w.heap.size 0 (hsame 3 (by decide)) (p.map ncell) _ (range_on rp hp5.lt hb) Tryd.underlying46 rfl (by rw [List.length_map, Hp.out]; exact size_up) (hK _ _ (Below.refl _ _) rfl)
    · refine loose_step (slots := [(0, 7), (1, 8), (2, 9), (3, 10), (4, 11), (5, 12), (6, 13), (7, 14)]) (prop := uwYields p q r kh ks s1 s2) (by decide) (by decide) 15 rfl (by decide) (fun _ _ _ _ h hb => uwYields_on h hb) (i := 1) (s := 8) (by decide) rfl rfl ?_
      intro a w6 K hb hs hd hsame hfact hK
      exact load_op rfl 23 (.tmp 4) rfl gh 0 (hsame 4 (by decide)) (kh.map cellOf) _ (range_on rh hh5.lt hb) Tryd.underlying23 rfl (by rw [List.length_map, Hkh.out]; exact size_k32) (hK _ _ (Below.refl _ _) rfl)
    · refine loose_step (slots := [(0, 7), (1, 8), (2, 9), (3, 10), (4, 11), (5, 12), (6, 13), (7, 14)]) (prop := uwYields p q r kh ks s1 s2) (by decide) (by decide) 15 rfl (by decide) (fun _ _ _ _ h hb => uwYields_on h hb) (i := 2) (s := 9) (by decide) rfl rfl ?_
      intro a w6 K hb hs hd hsame hfact hK
      have s7 : a.tmps.getD 7 undef = numVal p := hfact (0, 7) (by decide) (by kernel_rfl)
      have s8 : a.tmps.getD 8 undef = hashVal kh := hfact (1, 8) (by decide) (by kernel_rfl)
      refine call_op rfl 41 [.tmp 7, .tmp 8] _ rfl [numVal p, hashVal kh] ?_ (enters Tryd.func41 (by kernel_rfl) (by kernel_rfl)) (CM1.out w6 (hS.below (below_then hB5 hb))) ?_
      · simp only [List.map_cons, List.map_nil]
        rw [show a.eval (.tmp 7) = numVal p from s7, show a.eval (.tmp 8) = hashVal kh from s8]
      · rintro e w7 ⟨rfl, hb7⟩
        exact ⟨_, rfl, hK _ _ hb7 rfl⟩
    · refine loose_step (slots := [(0, 7), (1, 8), (2, 9), (3, 10), (4, 11), (5, 12), (6, 13), (7, 14)]) (prop := uwYields p q r kh ks s1 s2) (by decide) (by decide) 15 rfl (by decide) (fun _ _ _ _ h hb => uwYields_on h hb) (i := 3) (s := 10) (by decide) rfl rfl ?_
      intro a w6 K hb hs hd hsame hfact hK
      refine call_op rfl 24 [] _ rfl [] rfl (enters Tryd.func24 (by kernel_rfl) (by kernel_rfl)) (CB.out w6 (hS.below (below_then hB5 hb))) ?_
      rintro e w7 ⟨rfl, hb7⟩
      exact ⟨_, rfl, hK _ _ hb7 rfl⟩
    · refine loose_step (slots := [(0, 7), (1, 8), (2, 9), (3, 10), (4, 11), (5, 12), (6, 13), (7, 14)]) (prop := uwYields p q r kh ks s1 s2) (by decide) (by decide) 15 rfl (by decide) (fun _ _ _ _ h hb => uwYields_on h hb) (i := 4) (s := 11) (by decide) rfl rfl ?_
      intro a w6 K hb hs hd hsame hfact hK
      exact load_op rfl 23 (.tmp 5) rfl gs 0 (hsame 5 (by decide)) (ks.map cellOf) _ (range_on rs hs5.lt hb) Tryd.underlying23 rfl (by rw [List.length_map, Hks.out]; exact size_k32) (hK _ _ (Below.refl _ _) rfl)
    · refine loose_step (slots := [(0, 7), (1, 8), (2, 9), (3, 10), (4, 11), (5, 12), (6, 13), (7, 14)]) (prop := uwYields p q r kh ks s1 s2) (by decide) (by decide) 15 rfl (by decide) (fun _ _ _ _ h hb => uwYields_on h hb) (i := 5) (s := 12) (by decide) rfl rfl ?_
      intro a w6 K hb hs hd hsame hfact hK
      have s10 : a.tmps.getD 10 undef = numVal q := hfact (3, 10) (by decide) (by kernel_rfl)
      have s11 : a.tmps.getD 11 undef = hashVal ks := hfact (4, 11) (by decide) (by kernel_rfl)
      refine call_op rfl 41 [.tmp 10, .tmp 11] _ rfl [numVal q, hashVal ks] ?_ (enters Tryd.func41 (by kernel_rfl) (by kernel_rfl)) (CM2.out w6 (hS.below (below_then hB5 hb))) ?_
      · simp only [List.map_cons, List.map_nil]
        rw [show a.eval (.tmp 10) = numVal q from s10, show a.eval (.tmp 11) = hashVal ks from s11]
      · rintro e w7 ⟨rfl, hb7⟩
        exact ⟨_, rfl, hK _ _ hb7 rfl⟩
    · refine loose_step (slots := [(0, 7), (1, 8), (2, 9), (3, 10), (4, 11), (5, 12), (6, 13), (7, 14)]) (prop := uwYields p q r kh ks s1 s2) (by decide) (by decide) 15 rfl (by decide) (fun _ _ _ _ h hb => uwYields_on h hb) (i := 6) (s := 13) (by decide) rfl rfl ?_
      intro a w6 K hb hs hd hsame hfact hK
      have s9 : a.tmps.getD 9 undef = valsV s1 := hfact (2, 9) (by decide) (by kernel_rfl)
      have s12 : a.tmps.getD 12 undef = valsV s2 := hfact (5, 12) (by decide) (by kernel_rfl)
      refine lit_op rfl 107 2 [(0, .tmp 9), (1, .tmp 12)] rfl [(0, valsV s1), (1, valsV s2)] ?_ 81 ((s1 ++ s2).map anyc) (slice_two s1 s2 H1.out H2.out) (fun w' hb' hc' => hK _ _ hb' ⟨_, rfl, hc'⟩)
      simp only [List.map_cons, List.map_nil]
      rw [show a.eval (.tmp 9) = valsV s1 from s9, show a.eval (.tmp 12) = valsV s2 from s12]
    · refine loose_step (slots := [(0, 7), (1, 8), (2, 9), (3, 10), (4, 11), (5, 12), (6, 13), (7, 14)]) (prop := uwYields p q r kh ks s1 s2) (by decide) (by decide) 15 rfl (by decide) (fun _ _ _ _ h hb => uwYields_on h hb) (i := 7) (s := 14) (by decide) rfl rfl ?_
      intro a w6 K hb hs hd hsame hfact hK
      obtain ⟨gl, s13, hl2⟩ := hfact (6, 13) (by decide) (by kernel_rfl)
      refine call_op rfl 40 [.tmp 13] _ rfl [.slice (some ⟨gl, 0, none⟩) 2 2] ?_ (enters Tryd.func40 (by kernel_rfl) (by kernel_rfl)) (CS.out gl w6 hl2 (hS.below (below_then hB5 hb))) ?_
      · simp only [List.map_cons, List.map_nil]
        rw [show a.eval (.tmp 13) = .slice (some ⟨gl, 0, none⟩) 2 2 from s13]
      · rintro e w7 ⟨rfl, hb7⟩
        exact ⟨_, rfl, hK _ _ hb7 rfl⟩
  · intro f hf a w6 hA
    obtain rfl := List.mem_singleton.1 hf
    have hB6 := below_then hB5 hA.below
    have hr6 := hr5.on hA.below
    have s6 := hA.same 6 (by decide)
    have s14 : a.tmps.getD 14 undef = numVal r := hA.fact (7, 14) (by decide) (by kernel_rfl)
    obtain ⟨u, rfl⟩ := loose_frame15 a hA.size hA.defers
    change u 6 = .pointer (some ⟨gr, 0, none⟩) at s6
    change u 14 = _ at s14
    rw [s6, s14]
    clear s6 s14 hA hB5 hp5 hh5 hs5 hr5 rp rh rs CM1 CM2 CB CS
    refine wpAny_rest 8 rfl (by kernel_rfl) ?_
    simp only [List.drop_succ_cons, List.drop_zero]
    refine vset_step rfl 46 (.tmp 6) (.tmp 14) rfl gr 15 (nzeros 15) (r.map ncell) rfl rfl hr6 rfl size_up (by rw [List.length_map, Hr.out]) (ncells_one _) ?_
    intro w8 hb8 hr8 hz8
    have hB8 : Below w.heap.size w w8 := hB6.trans (hb8.below hge hB6.size)
    clear hB6 hr6 hb8 hz8
    rename_i K hKK
    show Exit.then K _ Exit.normal _ w8
    simp only [Exit.then]
    refine hKK _ _ ?_
    clear hKK K
    go_wp2
    exact sret Tryd.results18 gr (r.map ncell) rfl hr8 Tryd.underlying46 rfl size_up (by rw [List.length_map, Hr.out]) rfl ⟨rfl, hB8⟩
theorem less_odd9 (r : Nat) (h : r % 2 = 1) : (pp - r) % pp = pp - r := Nat.mod_eq_of_lt (by simp only [pp]; omega)
theorem evenN_ev (r : Nat) (hr : r < pp) : evenN r % 2 = 0 := by
  rw [evenN]
  split
  · rename_i h
    rw [less_odd9 r h]
    simp only [pp] at *
    omega
  · omega
theorem square_neg (P r : Nat) (hr : r ≤ P) : (P - r) * (P - r) % P = r * r % P := by
  rw [NP.cg]
  rw [Int.natCast_mul, Int.natCast_mul, Int.natCast_sub hr]
  exact ⟨(P : Int) - 2 * r, by grind⟩
theorem evenN_sq (r : Nat) (hr : r < pp) : evenN r * evenN r % pp = r * r % pp := by
  rw [evenN]
  split
  · rename_i h
    rw [less_odd9 r h]
    exact square_neg pp r (Nat.le_of_lt hr)
  · rfl
theorem rootN_sq {n : Nat} (h : isSN n = true) : rootN n * rootN n % pp = n := by
  rw [rootN, if_pos h, evenN_sq _ (rtN_lt n)]
  rw [isSN] at h
  exact of_decide_eq_true h
theorem rootN_ev (n : Nat) : rootN n % 2 = 0 := by
  rw [rootN]
  split
  · exact evenN_ev _ (rtN_lt n)
  · rfl
theorem root_there (x : Nat) (hx : x < pp) : isSN (x * x % pp) = true := by
  obtain ⟨k, hk⟩ : ∃ k, k + 1 = 7237005577332262213973186563042994240829374041602535252466099000494570602494 := ⟨7237005577332262213973186563042994240829374041602535252466099000494570602493, by decide⟩
  have hp : pp = 8 * k + 5 := by simp only [pp]; omega
  rw [isSN_is k hk]
  exact NP.isS_square NP.pr_P hp turn_divides hx
/-- The even one of a number and its opposite is its square's root. -/
theorem rootN_of (x : Nat) (hx : x < pp) : rootN (x * x % pp) = if x % 2 = 1 then pp - x else x := by
  have h1 := rootN_sq (root_there x hx)
  have h2 := rootN_ev (x * x % pp)
  have h3 := rootN_lt (x * x % pp)
  generalize rootN (x * x % pp) = r at *
  have hp : pp % 2 = 1 := by decide
  rcases NP.same_square NP.pr_P h3 hx h1 with h | h
  · subst h
    rw [if_neg (by omega)]
  · change (r + x) % pp = 0 at h
    have h4 : r + x = 0 ∨ r + x = pp := by
      generalize pp = P at *
      rcases Nat.lt_or_ge (r + x) P with h5 | h5
      · rw [Nat.mod_eq_of_lt h5] at h; exact .inl h
      · rw [Nat.mod_eq_sub_mod h5, Nat.mod_eq_of_lt (by omega)] at h; exact .inr (by omega)
    generalize pp = P at *
    rcases h4 with h5 | h5
    · rw [if_neg (by omega)]; omega
    · rw [if_pos (by omega)]; omega
theorem lev_same : ∀ a b : List UInt8, a.length = b.length → lev a = lev b → a = b
  | [], [], _, _ => rfl
  | x :: a, y :: b, hl, h => by
    rw [lev_cons, lev_cons] at h
    have hx := x.toNat_lt
    have hy := y.toNat_lt
    rw [UInt8.toNat_inj.1 (show x.toNat = y.toNat by omega), lev_same a b (Nat.succ.inj hl) (by omega)]
end Go.Proofs.YtoggkhjaghkpnaaDoor
