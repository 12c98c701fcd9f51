/- Part 24 of what the laws of this seat share: USum, UTimes, UWith, GSquare, BCurve, JBits, BPts, UMult. -/
import Derived.Deep.Cut
import Derived.IntWalk
import Derived.Test.YtagjbdhelfickaaDoorPart23
namespace Go.Proofs.YtagjbdhelfickaaDoor
open Go.RowKit
def usumVs9 (gs : Nat) (m : Nat) (g_base : Nat) (go : Nat) (k : Nat) (j : Nat) (z : List Nat) (x : List Nat) (y0 : List Nat) (yj : List Nat) (mm : List Nat) (y : List Nat) (u25 : Value) : List Value :=
  (.slice (some ⟨gs, 0, none⟩) m m) :: undef :: (.pointer (some ⟨g_base, 0, none⟩)) :: (.pointer (some ⟨go, 0, none⟩)) :: (.int .i64 (k : Int)) :: (.int .i64 (j : Int)) :: (numVal z) :: (.int .i64 ((k : Int) + 1)) :: (.bool true) :: (.int .i64 ((k : Int) + 1)) :: (.int .i64 (k : Int)) :: (numVal x) :: (numVal y0) :: (.slice (some ⟨gs, 0, none⟩) m m) :: (.int .i64 (m : Int)) :: (.int .i64 (j : Int)) :: (.bool true) :: (.int .i64 (j : Int)) :: (numVal yj) :: (.slice (some ⟨gs, 0, none⟩) m m) :: (.int .i64 (j : Int)) :: (.pointer (some ⟨gs, 0 + j * 272, none⟩)) :: (.int .i64 (k : Int)) :: (numVal mm) :: (numVal y) :: (u25) :: undef :: []
set_option maxRecDepth 100000 in
set_option maxHeartbeats 4000000 in
theorem usum_over (m gs : Nat) (vs : List Value) (z : List Nat) (X : Nat → List Nat) (Y : Nat → Nat → List Nat) (E : Value) (w : World) (hm : m ≤ 1000000) (hC : Cells w gs (vs.map vcell) 88)
    (Hz : Hid (z.length = 15))
    (HXz : Hid (X 64 = z))
    (HLX : Hid (∀ k, (X k).length = 15))
    (HR : Hid (∀ k : Nat, k < 64 → (∀ W, Calls Tryd.prog 81 #[numVal (X (k + 1))] W fun e w' => e = .returned (numVal (Y k 0)) ∧ Below W.heap.size W w') ∧ (∀ j, (Y k j).length = 15) ∧ (∀ j : Nat, j < m → ∃ mm : List Nat, mm.length = 15 ∧ (∀ W, Cells W gs (vs.map vcell) 88 → Calls Tryd.prog 82 #[.pointer (some ⟨gs, 0 + j * 272, none⟩), .int .i64 (k : Int)] W fun e w' => e = .returned (numVal mm) ∧ Below W.heap.size W w') ∧ (∀ W, TabsU E W → Calls Tryd.prog 17 #[numVal (Y k j), numVal mm] W fun e w' => e = .returned (numVal (Y k (j + 1))) ∧ Below W.heap.size W w')) ∧ Y k m = X k))
    (CZ : Hid (∀ W, Calls Tryd.prog 20 #[] W fun e w' => e = .returned (numVal z) ∧ Below W.heap.size W w'))
    (hS : TabsU E w) :
    Calls Tryd.prog 56 #[.slice (some ⟨gs, 0, none⟩) m m] w fun e w' => e = .returned (numVal (X 0)) ∧ Below w.heap.size w w' := by
  go_enter Tryd.func56, Tryd.ntmps56
  go_wp2_with (first
    | (refine vzero_step (o := ⟨some 2, _, _, _, _, _⟩) rfl 31 rfl (nzeros 15) zero_up ?_
       intro w1 hb1 hvr1
       have hB1 := hb1
       have hger : w.heap.size ≤ w.heap.size := Nat.le_refl _
       have hvh1 := hC.on hb1
       have hnehr := Nat.ne_of_lt hC.lt
       clear hC hb1
       try simp only [Act.put, List.setIfInBounds_toArray, List.set_cons_zero, List.set_cons_succ]
       skip))
  refine wp_scope_once 0 (fun a' w' => ∃ (j go : Nat) (u5 u7 u8 u9 u10 u11 u12 u13 u14 u15 u16 u17 u18 u19 u20 u21 u22 u23 u24 u25 : Value), j ≤ 64 ∧ Below w.heap.size w w' ∧ w.heap.size ≤ go ∧ gs ≠ go ∧ w.heap.size ≠ go ∧ Cells w' gs (vs.map vcell) 88 ∧ Cells w' (w.heap.size) (nzeros 15) 31 ∧ Cells w' go ((X j).map ncell) 31 ∧
      a' = { tmps := #[.slice (some ⟨gs, 0, none⟩) m m, undef, .pointer (some ⟨w.heap.size, 0, none⟩), .pointer (some ⟨go, 0, none⟩), .int .i64 (j : Int), u5, numVal z, u7, u8, u9, u10, u11, u12, u13, u14, u15, u16, u17, u18, u19, u20, u21, u22, u23, u24, u25, undef], defers := [] })
    (fun a' _ => (intOf (a'.tmps.getD 4 undef)).toNat) rfl ?_ ?_
  · intro hp
    go_wp2_with fail
    refine (CZ.out w1).mono ?_
    rintro e w2 ⟨rfl, hb2⟩
    have hB2 := below_then hB1 hb2
    have hvh2 := hvh1.on hb2
    have hvr2 := hvr1.on hb2
    clear hB1 hvh1 hvr1 hb2
    go_wp2_with (first
      | (refine vput_step rfl rfl 31 (.tmp 3) (.tmp 6) rfl rfl 15 (nzeros 15) (z.map ncell) rfl rfl zero_up rfl size_up (by rw [List.length_map, Hz.out]) (ncells_one _) ?_
         intro w3 hb3 hvo3
         have hB3 := below_then hB2 hb3
         have hgeo : w.heap.size ≤ w2.heap.size := hB2.size
         have hvh3 := hvh2.on hb3
         have hneho := Nat.ne_of_lt hvh2.lt
         have hvr3 := hvr2.on hb3
         have hnero := Nat.ne_of_lt hvr2.lt
         clear hB2 hvh2 hvr2 hb3
         try simp only [Act.put, List.setIfInBounds_toArray, List.set_cons_zero, List.set_cons_succ]
         skip))
    generalize hqo : w2.heap.size = go at *
    clear hqo
    go_step3
    rename_i K hK
    exact hK _ _ (hp.out _ _ ⟨64, _, _, _, _, _, _, _, _, _, _, _, _, _, _, _, _, _, _, _, _, _, Nat.le_refl _, hB3, hgeo, hneho, hnero, hvh3, hvr3, by rw [HXz.out]; exact hvo3, rfl⟩)
  · clear hB1 hvh1 hvr1
    rintro a' wl ⟨j, go, u5, u7, u8, u9, u10, u11, u12, u13, u14, u15, u16, u17, u18, u19, u20, u21, u22, u23, u24, u25, hj, hBl, hgeo, hneho, hnero, hvhl, hvrl, hvol, rfl⟩
    by_cases h0 : 0 < j
    · obtain ⟨k, rfl⟩ : ∃ k, j = k + 1 := ⟨j - 1, by omega⟩
      have hk : k < 64 := by omega
      have e1 : (((k + 1 : Nat) : Int)) = (k : Int) + 1 := by omega
      have e2 : (k : Int) + 1 - 1 = (k : Int) := by omega
      have i0 : (0 : Int) < (k : Int) + 1 := by omega
      have i3 : IntKind.i64.wrap (k : Int) = (k : Int) := IntWalk.i64_in _ (by omega)
      rw [e1]
      obtain ⟨hr1, hr2, hr3, hr4⟩ := HR.out k hk
      have HXk := Lib.hid hr4
      have CRk := Lib.hid hr1
      have HYk := Lib.hid hr2
      have HSk := Lib.hid hr3
      have Hx := Lib.hid (HLX.out (k + 1))
      have Hy0 := Lib.hid (hr2 0)
      clear HR HXz HLX hr1 hr2 hr3 hr4 hj
      obtain ⟨x, HXx⟩ := namedF (X (k + 1))
      obtain ⟨y0, HY0⟩ := namedF (Y k 0)
      rw [HXx.out] at CRk Hx hvol
      rw [HY0.out] at CRk Hy0
      go_wp2_with (first
        | (refine sget_step rfl 31 (.tmp 3) rfl go 15 (x.map ncell) rfl hvol Tryd.underlying31 rfl size_up (by rw [List.length_map, Hx.out]) ?_
           try simp only [Act.put, List.setIfInBounds_toArray, List.set_cons_zero, List.set_cons_succ]
           skip))
      refine (CRk.out wl).mono ?_
      rintro e w4 ⟨rfl, hb4⟩
      have hB4 := below_then hBl hb4
      have hvh4 := hvhl.on hb4
      have hvr4 := hvrl.on hb4
      have hvo4 := hvol.on hb4
      clear hBl hvhl hvrl hvol hb4
      go_wp2_with (first
        | (refine vset_step rfl 31 (.tmp 3) (.tmp 12) rfl go 15 (x.map ncell) (y0.map ncell) rfl rfl hvo4 (by rw [List.length_map, Hx.out]) size_up (by rw [List.length_map, Hy0.out]) (ncells_one _) ?_
           intro w5 hb5 hvo5 hz5
           have hB5 : Below w.heap.size w w5 := hB4.trans (hb5.below hgeo hB4.size)
           have hvh5 := hvh4.but hb5 hneho
           have hvr5 := hvr4.but hb5 hnero
           clear hB4 hvo4 hb5 hz5 hvh4 hvr4
           skip))
      go_loopw [15] (fun t wr => ∃ j : Nat, j ≤ m ∧ t = .int .i64 (j : Int) ∧ Below w.heap.size w wr ∧ Cells wr gs (vs.map vcell) 88 ∧ Cells wr (w.heap.size) (nzeros 15) 31 ∧ Cells wr go ((Y k j).map ncell) 31) (fun t _ => ((m : Int) - intOf t).toNat)
      case atStart => exact ⟨0, Nat.zero_le _, rfl, hB5, hvh5, hvr5, by rw [HY0.out]; exact hvo5⟩
      case round =>
        clear hB5 hvh5 hvr5 hvo5
        obtain ⟨j, hjm, rfl, hBi, hvhi, hvri, hvoi⟩ := hrel
        by_cases h1 : j < m
        · have hj1 : j < m := h1
          have i4 : (0 : Int) ≤ (j : Int) := by omega
          have i5 : (j : Int) < (m : Int) := by omega
          have i6 : IntKind.i64.wrap ((j : Int) + 1) = (j : Int) + 1 := IntWalk.i64_in _ (by omega)
          obtain ⟨mm, hs1, hs2, hs3⟩ := HSk.out j h1
          have CF := Lib.hid hs2
          have CA := Lib.hid hs3
          have Hmm := Lib.hid hs1
          have Hyj := Lib.hid (HYk.out j)
          have Hy := Lib.hid (HYk.out (j + 1))
          clear hs1 hs2 hs3 HSk HYk HXk h1
          obtain ⟨yj, HYj⟩ := namedF (Y k j)
          obtain ⟨y, HYy⟩ := namedF (Y k (j + 1))
          rw [HYj.out] at CA Hyj hvoi
          rw [HYy.out] at CA Hy
          go_upto_region 9 with fail
          go_wp2_with fail
          replace hvhi := hvhi.drew
          replace hvri := hvri.drew
          replace hvoi := hvoi.drew
          have hBq := (show Below w.heap.size w wr.drew from hBi.drew)
          refine wp_region_any (by kernel_rfl) ?_
          refine wpAny_flatM (L := [0, 1, 2, 3, 4, 5, 6]) (by kernel_rfl) _ _ (usumVs9 gs m w.heap.size go k j z x y0 yj mm y u25) [] 88 zshare [0, 1, 2, 3, 4, 5, 6, 7, 8, 9, 10, 11, 12, 13, 14, 15, 16, 17, 25, 26] (by kernel_rfl) (by kernel_rfl) ?_ zero_share ?_ (by rfl) ?_ 1 (by kernel_rfl) ?_
          · intro p hp
            exact absurd hp List.not_mem_nil
          · repeat refine all_cons rfl ?_
            exact all_nil
          · refine all_cons (.inr (mStep _ 18 rfl rfl rfl rfl (by kernel_rfl) (fun a hv => wanted_all rfl _) (fun a w K hb hv hK => mPure (numVal yj) (exec_load _ _ _ _ rfl _ _ (hv 3 (by kernel_rfl) rfl) w (up_run (hvoi.on hb) Hyj.out)) hK))) ?_
            refine all_cons (.inr (mStep _ 19 rfl rfl rfl rfl (by kernel_rfl) (fun a hv => wanted_all rfl _) (fun a w K hb hv hK => mPure (.slice (some ⟨gs, 0, none⟩) m m) (exec_move _ _ _ (.inl rfl) _ (hv 0 (by kernel_rfl) rfl) w) hK))) ?_
            refine all_cons (.inr (mStep _ 20 rfl rfl rfl rfl (by kernel_rfl) (fun a hv => wanted_all rfl _) (fun a w K hb hv hK => mPure (.int .i64 (j : Int)) (exec_move _ _ _ (.inl rfl) _ (hv 5 (by kernel_rfl) rfl) w) hK))) ?_
            refine all_cons (.inr (mStep _ 21 rfl rfl rfl rfl (by kernel_rfl) (fun a hv => wanted_all rfl _) (fun a w K hb hv hK => mPure (.pointer (some ⟨gs, 0 + j * 272, none⟩)) (exec_index _ _ _ _ _ rfl _ _ _ (hv 19 (by kernel_rfl) rfl) (hv 20 (by kernel_rfl) rfl) w (index_sl _ 0 m j .i64 hj1 w)) hK))) ?_
            refine all_cons (.inr (mStep _ 22 rfl rfl rfl rfl (by kernel_rfl) (fun a hv => wanted_all rfl _) (fun a w K hb hv hK => mPure (.int .i64 (k : Int)) (exec_move _ _ _ (.inl rfl) _ (hv 4 (by kernel_rfl) rfl) w) hK))) ?_
            refine all_cons (.inr (mStep _ 23 rfl rfl rfl rfl (by kernel_rfl) (fun a hv => wanted_all rfl _) (fun a w K hb hv hK => mCall (numVal mm) 82 _ _ rfl [.pointer (some ⟨gs, 0 + j * 272, none⟩), .int .i64 (k : Int)] (cons_eq (hv 21 (by kernel_rfl) rfl) (cons_eq (hv 22 (by kernel_rfl) rfl) (rfl))) (enters Tryd.func82 rfl rfl) (CF.out w (hvhi.on hb)) hK))) ?_
            refine all_cons (.inr (mStep _ 24 rfl rfl rfl rfl (by kernel_rfl) (fun a hv => wanted_all rfl _) (fun a w K hb hv hK => mCall (numVal y) 17 _ _ rfl [numVal yj, numVal mm] (cons_eq (hv 18 (by kernel_rfl) rfl) (cons_eq (hv 23 (by kernel_rfl) rfl) (rfl))) (enters Tryd.func17 rfl rfl) (CA.out w (hS.below (below_then hBq hb))) hK))) ?_
            exact all_nil
          intro w6 g hb6 hN6 hap6
          clear hN6 hap6
          have hB6 := below_then (show Below w.heap.size w wr.drew from hBi.drew) hb6
          have hvh6 := hvhi.on hb6
          have hvr6 := hvri.on hb6
          have hvo6 := hvoi.on hb6
          clear hBi hvhi hvri hvoi hb6 hBq
          refine wpAny_rest 7 rfl (by kernel_rfl) ?_
          refine vset_step rfl 31 (.tmp 3) (.tmp 24) rfl go 15 (yj.map ncell) (y.map ncell) rfl rfl hvo6 (by rw [List.length_map, Hyj.out]) size_up (by rw [List.length_map, Hy.out]) (ncells_one _) ?_
          intro w7 hb7 hvo7 hz7
          have hB7 : Below w.heap.size w w7 := hB6.trans (hb7.below hgeo hB6.size)
          have hvh7 := hvh6.but hb7 hneho
          have hvr7 := hvr6.but hb7 hnero
          clear hB6 hvo6 hb7 hz7 hvh6 hvr6
          rename_i K hKK
          show Exit.inBlock _ (Exit.then K _) Exit.normal (⟨(usumVs9 gs m w.heap.size go k j z x y0 yj mm y u25).toArray, []⟩ : Act) w7
          simp only [Exit.inBlock, Exit.then]
          refine hKK _ _ ?_
          clear hKK K g
          simp only [usumVs9]
          go_wp2_with fail
          go_roundw
          case rel => exact ⟨_, _, _, _, _, _, _, _, _, _, _, _, ⟨j + 1, by omega, rfl, hB7, hvh7, hvr7, by rw [HYy.out]; exact hvo7⟩, rfl⟩
          case measure => simp [intOf] <;> omega
        · obtain rfl : m = j := by omega
          have i5 : ¬ (m : Int) < (m : Int) := by omega
          go_wp2_with fail
          go_step3
          exact ⟨rfl, ⟨k, go, _, _, _, _, _, _, _, _, _, _, _, _, _, _, _, _, _, _, _, _, by omega, hBi, hgeo, hneho, hnero, hvhi, hvri, by rw [← HXk.out]; exact hvoi, rfl⟩, by simp [intOf] <;> omega⟩
    · obtain rfl : j = 0 := by omega
      have HX0 := Lib.hid (HLX.out 0)
      rw [show (((0 : Nat) : Int)) = 0 from rfl]
      go_wp2_with (first
        | (refine sget_step rfl 31 (.tmp 3) rfl go 15 ((X 0).map ncell) rfl hvol Tryd.underlying31 rfl size_up (by rw [List.length_map, HX0.out]) ?_
           try simp only [Act.put, List.setIfInBounds_toArray, List.set_cons_zero, List.set_cons_succ]
           skip)
        | (refine vset_step rfl 31 (.tmp 2) (.tmp 26) rfl w.heap.size 15 (nzeros 15) ((X 0).map ncell) rfl rfl hvrl rfl size_up (by rw [List.length_map, HX0.out]) (ncells_one _) ?_
           intro w8 hb8 hvr8 hz8
           have hB8 : Below w.heap.size w w8 := hBl.trans (hb8.below hger hBl.size)
           have hvh8 := hvhl.but hb8 hnehr
           have hvo8 := hvol.but hb8 (Ne.symm hnero)
           clear hBl hvrl hb8 hz8 hvhl hvol
           skip))
      simp only [Exit.jump]
      exact sret Tryd.results56 (w.heap.size) ((X 0).map ncell) rfl hvr8 Tryd.underlying31 rfl size_up (by rw [List.length_map, HX0.out]) rfl ⟨rfl, hB8⟩
end Go.Proofs.YtagjbdhelfickaaDoor
namespace Go.Proofs.YtagjbdhelfickaaDoor
open Go.RowKit
set_option maxRecDepth 100000 in
set_option maxHeartbeats 1000000 in
theorem utimes_over (p res : List Nat) (key : List UInt8) (sv : List Value) (E : Value) (w : World)
    (Hp : Hid (p.length = 15))
    (Hres : Hid (res.length = 15))
    (Hkey : Hid (key.length = 32))
    (Hsv : Hid (sv.length = 272))
    (CM : Hid (∀ W, TabsU E W → Calls Tryd.prog 57 #[numVal p, hashVal key] W fun e w' => e = .returned (valsV sv) ∧ Below W.heap.size W w'))
    (CS : Hid (∀ g W, Cells W g (sv.map vcell) 88 → TabsU E W → Calls Tryd.prog 56 #[.slice (some ⟨g, 0, none⟩) 1 1] W fun e w' => e = .returned (numVal res) ∧ Below W.heap.size W w'))
    (hS : TabsU E w) :
    Calls Tryd.prog 21 #[numVal p, hashVal key] w fun e w' => e = .returned (numVal res) ∧ Below w.heap.size w w' := by
  go_enter Tryd.func21, Tryd.ntmps21
  go_wp2_with (first
    | (refine vtake_step rfl 31 (.tmp 0) rfl (p.map ncell) rfl ?_
       intro w1 hb1 hvp1
       have hB1 := hb1
       have hgep : w.heap.size ≤ w.heap.size := Nat.le_refl _
       clear  hb1
       try simp only [Act.put, List.setIfInBounds_toArray, List.set_cons_zero, List.set_cons_succ]
       skip)
    | (refine take_step rfl 23 (.tmp 1) rfl key rfl ?_
       intro w2 hb2 hvk2 hz
       clear hz
       have hB2 := below_then hB1 hb2
       have hgek : w.heap.size ≤ w1.heap.size := hB1.size
       have hvp2 := hvp1.on hb2
       have hnepk := Nat.ne_of_lt hvp1.lt
       clear hB1 hvp1 hb2
       try simp only [Act.put, List.setIfInBounds_toArray, List.set_cons_zero, List.set_cons_succ]
       skip)
    | (refine vzero_step (o := ⟨some 4, _, _, _, _, _⟩) rfl 31 rfl (nzeros 15) zero_up ?_
       intro w3 hb3 hvr3
       have hB3 := below_then hB2 hb3
       have hger : w.heap.size ≤ w2.heap.size := hB2.size
       have hvp3 := hvp2.on hb3
       have hnepr := Nat.ne_of_lt hvp2.lt
       have hvk3 := hvk2.on hb3
       have hnekr := Nat.ne_of_lt hvk2.lt
       clear hB2 hvp2 hvk2 hb3
       try simp only [Act.put, List.setIfInBounds_toArray, List.set_cons_zero, List.set_cons_succ]
       skip)
    | (refine sget_step rfl 31 (.tmp 2) rfl w.heap.size 15 (p.map ncell) rfl hvp3 Tryd.underlying31 rfl size_up (by rw [List.length_map, Hp.out]) ?_
       try simp only [Act.put, List.setIfInBounds_toArray, List.set_cons_zero, List.set_cons_succ]
       skip)
    | (refine get_step rfl 23 (.tmp 3) rfl w1.heap.size 32 key 5 rfl hvk3 Tryd.underlying23 size_k32 Hkey.out ?_
       try simp only [Act.put, List.setIfInBounds_toArray, List.set_cons_zero, List.set_cons_succ]
       skip))
  generalize hqk : w1.heap.size = gk at *
  clear hqk
  generalize hqr : w2.heap.size = gr at *
  clear hqr
  refine (CM.out w3 (hS.below hB3)).mono ?_
  rintro e w4 ⟨rfl, hb4⟩
  have hB4 := below_then hB3 hb4
  have hvp4 := hvp3.on hb4
  have hvk4 := hvk3.on hb4
  have hvr4 := hvr3.on hb4
  clear hB3 hvp3 hvk3 hvr3 hb4
  go_wp2_with (first
    | (refine ulit_step rfl 103 1 [(0, .tmp 7)] rfl [(0, valsV sv)] rfl 88 (sv.map vcell) (slice_one sv Hsv.out) ?_
       intro w5 hb5 hvl5
       have hB5 := below_then hB4 hb5
       have hgel : w.heap.size ≤ w4.heap.size := hB4.size
       have hvp5 := hvp4.on hb5
       have hnepl := Nat.ne_of_lt hvp4.lt
       have hvk5 := hvk4.on hb5
       have hnekl := Nat.ne_of_lt hvk4.lt
       have hvr5 := hvr4.on hb5
       have hnerl := Nat.ne_of_lt hvr4.lt
       clear hB4 hvp4 hvk4 hvr4 hb5
       try simp only [Act.put, List.setIfInBounds_toArray, List.set_cons_zero, List.set_cons_succ]
       skip))
  generalize hql : w4.heap.size = gl at *
  clear hql
  refine ((CS.out gl) w5 hvl5 (hS.below hB5)).mono ?_
  rintro e w6 ⟨rfl, hb6⟩
  have hB6 := below_then hB5 hb6
  have hvp6 := hvp5.on hb6
  have hvk6 := hvk5.on hb6
  have hvr6 := hvr5.on hb6
  have hvl6 := hvl5.on hb6
  clear hB5 hvp5 hvk5 hvr5 hvl5 hb6
  go_wp2_with (first
    | (refine vset_step rfl 31 (.tmp 4) (.tmp 9) rfl gr 15 (nzeros 15) (res.map ncell) rfl rfl hvr6 rfl size_up (by rw [List.length_map, Hres.out]) (ncells_one _) ?_
       intro w7 hb7 hvr7 hz7
       have hB7 : Below w.heap.size w w7 := hB6.trans (hb7.below hger hB6.size)
       have hvp7 := hvp6.but hb7 hnepr
       have hvk7 := hvk6.but hb7 hnekr
       have hvl7 := hvl6.but hb7 (Ne.symm hnerl)
       clear hB6 hvr6 hb7 hz7 hvp6 hvk6 hvl6
       skip))
  exact sret Tryd.results21 gr (res.map ncell) rfl hvr7 Tryd.underlying31 rfl size_up (by rw [List.length_map, Hres.out]) rfl ⟨rfl, hB7⟩
end Go.Proofs.YtagjbdhelfickaaDoor
namespace Go.Proofs.YtagjbdhelfickaaDoor
open Go.RowKit
set_option maxRecDepth 100000 in
theorem loose_frame15 (a : Act) (hs : a.tmps.size = 15) (hd : a.defers = []) : ∃ u : Nat → Value, a = ⟨(u 0 :: u 1 :: u 2 :: u 3 :: u 4 :: u 5 :: u 6 :: u 7 :: u 8 :: u 9 :: u 10 :: u 11 :: u 12 :: u 13 :: u 14 :: []).toArray, []⟩ := by
  obtain ⟨u, h⟩ := frame_of 15 a hs hd
  exact ⟨u, h⟩
/-- What the operations of With yield. -/
def uwYields (p q r : List Nat) (kh ks : List UInt8) (s1 s2 : List Value) (i : Nat) (v : Value) (w : World) : Prop := match i with
  | 0 => v = numVal p
  | 1 => v = hashVal kh
  | 2 => v = valsV s1
  | 3 => v = numVal q
  | 4 => v = hashVal ks
  | 5 => v = valsV s2
  | 6 => ∃ g, v = .slice (some ⟨g, 0, none⟩) 2 2 ∧ Cells w g ((s1 ++ s2).map vcell) 88
  | 7 => v = numVal r
  | _ => True
theorem uwYields_on {p q r : List Nat} {kh ks : List UInt8} {s1 s2 : List Value} {i : Nat} {v : Value} {w w' : World} (h : uwYields p q r kh ks s1 s2 i v w) (hb : Below w.heap.size w w') : uwYields p q r kh ks s1 s2 i v w' := by
  unfold uwYields at h ⊢
  split
  all_goals first
    | exact h
    | trivial
    | (obtain ⟨g, h1, h2⟩ := h
       exact ⟨g, h1, h2.on hb⟩)
set_option maxRecDepth 100000 in
set_option maxHeartbeats 2000000 in
theorem uwith_over (p q r : List Nat) (kh ks : List UInt8) (s1 s2 : List Value) (E : Value) (w : World)
    (Hp : Hid (p.length = 15)) (Hr : Hid (r.length = 15)) (Hkh : Hid (kh.length = 32)) (Hks : Hid (ks.length = 32)) (H1 : Hid (s1.length = 272)) (H2 : Hid (s2.length = 272))
    (CM1 : Hid (∀ W, TabsU E W → Calls Tryd.prog 57 #[numVal p, hashVal kh] W fun e w' => e = .returned (valsV s1) ∧ Below W.heap.size W w'))
    (CM2 : Hid (∀ W, TabsU E W → Calls Tryd.prog 57 #[numVal q, hashVal ks] W fun e w' => e = .returned (valsV s2) ∧ Below W.heap.size W w'))
    (CB : Hid (∀ W, TabsU E W → Calls Tryd.prog 25 #[] W fun e w' => e = .returned (numVal q) ∧ Below W.heap.size W w'))
    (CS : Hid (∀ g W, Cells W g ((s1 ++ s2).map vcell) 88 → TabsU E W → Calls Tryd.prog 56 #[.slice (some ⟨g, 0, none⟩) 2 2] W fun e w' => e = .returned (numVal r) ∧ Below W.heap.size W w'))
    (hS : TabsU E w) :
    Calls Tryd.prog 23 #[numVal p, hashVal kh, hashVal ks] w fun e w' => e = .returned (numVal r) ∧ Below w.heap.size w w' := by
  go_enter Tryd.func23, Tryd.ntmps23
  go_wp2_with (first
    | (refine vtake_step rfl 31 (.tmp 0) rfl (p.map ncell) rfl ?_
       intro w1 hb1 hp1
       have hB1 := hb1
       clear hb1
       try simp only [Act.put, List.setIfInBounds_toArray, List.set_cons_zero, List.set_cons_succ]
       skip)
    | (refine take_step rfl 23 (.tmp 1) rfl kh rfl ?_
       intro w2 hb2 hh2 hz
       clear hz
       have hB2 := below_then hB1 hb2
       have hp2 := hp1.on hb2
       clear hB1 hp1 hb2
       try simp only [Act.put, List.setIfInBounds_toArray, List.set_cons_zero, List.set_cons_succ]
       skip)
    | (refine take_step rfl 23 (.tmp 2) rfl ks rfl ?_
       intro w3 hb3 hs3 hz
       clear hz
       have hB3 := below_then hB2 hb3
       have hp3 := hp2.on hb3
       have hh3 := hh2.on hb3
       clear hB2 hp2 hh2 hb3
       try simp only [Act.put, List.setIfInBounds_toArray, List.set_cons_zero, List.set_cons_succ]
       skip)
    | (refine vzero_step (o := ⟨some 6, _, _, _, _, _⟩) rfl 31 rfl (nzeros 15) zero_up ?_
       intro w4 hb4 hr4
       have hB4 := below_then hB3 hb4
       have hge : w.heap.size ≤ w3.heap.size := hB3.size
       have hp4 := hp3.on hb4
       have hh4 := hh3.on hb4
       have hs4 := hs3.on hb4
       clear hB3 hp3 hh3 hs3 hb4
       try simp only [Act.put, List.setIfInBounds_toArray, List.set_cons_zero, List.set_cons_succ]
       skip))
  generalize hq3 : w3.heap.size = gr at *
  clear hq3
  generalize hq2 : w2.heap.size = gs at *
  clear hq2
  generalize hq1 : w1.heap.size = gh at *
  clear hq1
  have hB5 : Below w.heap.size w w4.drew := hB4.drew
  have hp5 := hp4.drew
  have hh5 := hh4.drew
  have hs5 := hs4.drew
  have hr5 := hr4.drew
  refine wp_region_any (by kernel_rfl) ?_
  show wpAny _ _ _ _ _ _ _ w4.drew
  simp only [List.size_toArray, List.length_cons, List.length_nil, Nat.reduceAdd, Array.replicate_succ, Array.replicate_zero, List.push_toArray, List.nil_append, List.cons_append]
  clear hB4 hp4 hh4 hs4 hr4
  generalize w4.drew = w5 at *
  have rp := hp5.range 0 15
  rw [List.drop_zero, List.take_of_length_le (by rw [List.length_map, Hp.out]; omega)] at rp
  have rh := hh5.range 0 32
  rw [List.drop_zero, List.take_of_length_le (by rw [List.length_map, Hkh.out]; omega)] at rh
  have rs := hs5.range 0 32
  rw [List.drop_zero, List.take_of_length_le (by rw [List.length_map, Hks.out]; omega)] at rs
  refine wpAny_loose (L := [0, 1, 2, 3, 4, 5, 6, 7]) (fins := [(#[true, true, true, true, true, true, true, true, false], 1)]) (LooseAt w5 _ [(0, 7), (1, 8), (2, 9), (3, 10), (4, 11), (5, 12), (6, 13), (7, 14)] (uwYields p q r kh ks s1 s2)) ?_ ?_ 9 _ _ _ (by kernel_rfl) ⟨Below.refl _ _, rfl, rfl, fun _ _ => rfl, ?_⟩
  rotate_left 2
  · intro p hp hl
    simp only [List.mem_cons, List.not_mem_nil, or_false] at hp
    rcases hp with rfl | rfl | rfl | rfl | rfl | rfl | rfl | rfl
    all_goals cases hl
  · intro i hi
    simp only [List.mem_cons, List.not_mem_nil, or_false] at hi
    rcases hi with rfl | rfl | rfl | rfl | rfl | rfl | rfl | rfl
    · refine loose_step (slots := [(0, 7), (1, 8), (2, 9), (3, 10), (4, 11), (5, 12), (6, 13), (7, 14)]) (prop := uwYields p q r kh ks s1 s2) (by decide) (by decide) 15 rfl (by decide) (fun _ _ _ _ h hb => uwYields_on h hb) (i := 0) (s := 7) (by decide) rfl rfl ?_
      intro a w6 K hb hs hd hsame hfact hK
      exact load_op rfl 31 (.tmp 3) rfl w.heap.size 0 (hsame 3 (by decide)) (p.map ncell) _ (range_on rp hp5.lt hb) Tryd.underlying31 rfl (by rw [List.length_map, Hp.out]; exact size_up) (hK _ _ (Below.refl _ _) rfl)
    · refine loose_step (slots := [(0, 7), (1, 8), (2, 9), (3, 10), (4, 11), (5, 12), (6, 13), (7, 14)]) (prop := uwYields p q r kh ks s1 s2) (by decide) (by decide) 15 rfl (by decide) (fun _ _ _ _ h hb => uwYields_on h hb) (i := 1) (s := 8) (by decide) rfl rfl ?_
      intro a w6 K hb hs hd hsame hfact hK
      exact load_op rfl 23 (.tmp 4) rfl gh 0 (hsame 4 (by decide)) (kh.map cellOf) _ (range_on rh hh5.lt hb) Tryd.underlying23 rfl (by rw [List.length_map, Hkh.out]; exact size_k32) (hK _ _ (Below.refl _ _) rfl)
    · refine loose_step (slots := [(0, 7), (1, 8), (2, 9), (3, 10), (4, 11), (5, 12), (6, 13), (7, 14)]) (prop := uwYields p q r kh ks s1 s2) (by decide) (by decide) 15 rfl (by decide) (fun _ _ _ _ h hb => uwYields_on h hb) (i := 2) (s := 9) (by decide) rfl rfl ?_
      intro a w6 K hb hs hd hsame hfact hK
      have s7 : a.tmps.getD 7 undef = numVal p := hfact (0, 7) (by decide) (by kernel_rfl)
      have s8 : a.tmps.getD 8 undef = hashVal kh := hfact (1, 8) (by decide) (by kernel_rfl)
      refine call_op rfl 57 [.tmp 7, .tmp 8] _ rfl [numVal p, hashVal kh] ?_ (enters Tryd.func57 (by kernel_rfl) (by kernel_rfl)) (CM1.out w6 (hS.below (below_then hB5 hb))) ?_
      · simp only [List.map_cons, List.map_nil]
        rw [show a.eval (.tmp 7) = numVal p from s7, show a.eval (.tmp 8) = hashVal kh from s8]
      · rintro e w7 ⟨rfl, hb7⟩
        exact ⟨_, rfl, hK _ _ hb7 rfl⟩
    · refine loose_step (slots := [(0, 7), (1, 8), (2, 9), (3, 10), (4, 11), (5, 12), (6, 13), (7, 14)]) (prop := uwYields p q r kh ks s1 s2) (by decide) (by decide) 15 rfl (by decide) (fun _ _ _ _ h hb => uwYields_on h hb) (i := 3) (s := 10) (by decide) rfl rfl ?_
      intro a w6 K hb hs hd hsame hfact hK
      refine call_op rfl 25 [] _ rfl [] rfl (enters Tryd.func25 (by kernel_rfl) (by kernel_rfl)) (CB.out w6 (hS.below (below_then hB5 hb))) ?_
      rintro e w7 ⟨rfl, hb7⟩
      exact ⟨_, rfl, hK _ _ hb7 rfl⟩
    · refine loose_step (slots := [(0, 7), (1, 8), (2, 9), (3, 10), (4, 11), (5, 12), (6, 13), (7, 14)]) (prop := uwYields p q r kh ks s1 s2) (by decide) (by decide) 15 rfl (by decide) (fun _ _ _ _ h hb => uwYields_on h hb) (i := 4) (s := 11) (by decide) rfl rfl ?_
      intro a w6 K hb hs hd hsame hfact hK
      exact load_op rfl 23 (.tmp 5) rfl gs 0 (hsame 5 (by decide)) (ks.map cellOf) _ (range_on rs hs5.lt hb) Tryd.underlying23 rfl (by rw [List.length_map, Hks.out]; exact size_k32) (hK _ _ (Below.refl _ _) rfl)
    · refine loose_step (slots := [(0, 7), (1, 8), (2, 9), (3, 10), (4, 11), (5, 12), (6, 13), (7, 14)]) (prop := uwYields p q r kh ks s1 s2) (by decide) (by decide) 15 rfl (by decide) (fun _ _ _ _ h hb => uwYields_on h hb) (i := 5) (s := 12) (by decide) rfl rfl ?_
      intro a w6 K hb hs hd hsame hfact hK
      have s10 : a.tmps.getD 10 undef = numVal q := hfact (3, 10) (by decide) (by kernel_rfl)
      have s11 : a.tmps.getD 11 undef = hashVal ks := hfact (4, 11) (by decide) (by kernel_rfl)
      refine call_op rfl 57 [.tmp 10, .tmp 11] _ rfl [numVal q, hashVal ks] ?_ (enters Tryd.func57 (by kernel_rfl) (by kernel_rfl)) (CM2.out w6 (hS.below (below_then hB5 hb))) ?_
      · simp only [List.map_cons, List.map_nil]
        rw [show a.eval (.tmp 10) = numVal q from s10, show a.eval (.tmp 11) = hashVal ks from s11]
      · rintro e w7 ⟨rfl, hb7⟩
        exact ⟨_, rfl, hK _ _ hb7 rfl⟩
    · refine loose_step (slots := [(0, 7), (1, 8), (2, 9), (3, 10), (4, 11), (5, 12), (6, 13), (7, 14)]) (prop := uwYields p q r kh ks s1 s2) (by decide) (by decide) 15 rfl (by decide) (fun _ _ _ _ h hb => uwYields_on h hb) (i := 6) (s := 13) (by decide) rfl rfl ?_
      intro a w6 K hb hs hd hsame hfact hK
      have s9 : a.tmps.getD 9 undef = valsV s1 := hfact (2, 9) (by decide) (by kernel_rfl)
      have s12 : a.tmps.getD 12 undef = valsV s2 := hfact (5, 12) (by decide) (by kernel_rfl)
      refine lit_op rfl 103 2 [(0, .tmp 9), (1, .tmp 12)] rfl [(0, valsV s1), (1, valsV s2)] ?_ 88 ((s1 ++ s2).map vcell) (slice_two s1 s2 H1.out H2.out) (fun w' hb' hc' => hK _ _ hb' ⟨_, rfl, hc'⟩)
      simp only [List.map_cons, List.map_nil]
      rw [show a.eval (.tmp 9) = valsV s1 from s9, show a.eval (.tmp 12) = valsV s2 from s12]
    · refine loose_step (slots := [(0, 7), (1, 8), (2, 9), (3, 10), (4, 11), (5, 12), (6, 13), (7, 14)]) (prop := uwYields p q r kh ks s1 s2) (by decide) (by decide) 15 rfl (by decide) (fun _ _ _ _ h hb => uwYields_on h hb) (i := 7) (s := 14) (by decide) rfl rfl ?_
      intro a w6 K hb hs hd hsame hfact hK
      obtain ⟨gl, s13, hl2⟩ := hfact (6, 13) (by decide) (by kernel_rfl)
      refine call_op rfl 56 [.tmp 13] _ rfl [.slice (some ⟨gl, 0, none⟩) 2 2] ?_ (enters Tryd.func56 (by kernel_rfl) (by kernel_rfl)) (CS.out gl w6 hl2 (hS.below (below_then hB5 hb))) ?_
      · simp only [List.map_cons, List.map_nil]
        rw [show a.eval (.tmp 13) = .slice (some ⟨gl, 0, none⟩) 2 2 from s13]
      · rintro e w7 ⟨rfl, hb7⟩
        exact ⟨_, rfl, hK _ _ hb7 rfl⟩
  · intro f hf a w6 hA
    obtain rfl := List.mem_singleton.1 hf
    have hB6 := below_then hB5 hA.below
    have hr6 := hr5.on hA.below
    have s6 := hA.same 6 (by decide)
    have s14 : a.tmps.getD 14 undef = numVal r := hA.fact (7, 14) (by decide) (by kernel_rfl)
    obtain ⟨u, rfl⟩ := loose_frame15 a hA.size hA.defers
    change u 6 = .pointer (some ⟨gr, 0, none⟩) at s6
    change u 14 = _ at s14
    rw [s6, s14]
    clear s6 s14 hA hB5 hp5 hh5 hs5 hr5 rp rh rs CM1 CM2 CB CS
    refine wpAny_rest 8 rfl (by kernel_rfl) ?_
    simp only [List.drop_succ_cons, List.drop_zero]
    refine vset_step rfl 31 (.tmp 6) (.tmp 14) rfl gr 15 (nzeros 15) (r.map ncell) rfl rfl hr6 rfl size_up (by rw [List.length_map, Hr.out]) (ncells_one _) ?_
    intro w8 hb8 hr8 hz8
    have hB8 : Below w.heap.size w w8 := hB6.trans (hb8.below hge hB6.size)
    clear hB6 hr6 hb8 hz8
    rename_i K hKK
    show Exit.then K _ Exit.normal _ w8
    simp only [Exit.then]
    refine hKK _ _ ?_
    clear hKK K
    go_wp2
    exact sret Tryd.results23 gr (r.map ncell) rfl hr8 Tryd.underlying31 rfl size_up (by rw [List.length_map, Hr.out]) rfl ⟨rfl, hB8⟩
end Go.Proofs.YtagjbdhelfickaaDoor
namespace Go.Proofs.YtagjbdhelfickaaDoor
open Go.RowKit
theorem less_odd9 (r : Nat) (h : r % 2 = 1) : (pp - r) % pp = pp - r := Nat.mod_eq_of_lt (by simp only [pp]; omega)
theorem evenN_ev (r : Nat) (hr : r < pp) : evenN r % 2 = 0 := by
  rw [evenN]
  split
  · rename_i h
    rw [less_odd9 r h]
    simp only [pp] at *
    omega
  · omega
theorem square_neg (P r : Nat) (hr : r ≤ P) : (P - r) * (P - r) % P = r * r % P := by
  rw [NP.cg]
  rw [Int.natCast_mul, Int.natCast_mul, Int.natCast_sub hr]
  exact ⟨(P : Int) - 2 * r, by grind⟩
theorem evenN_sq (r : Nat) (hr : r < pp) : evenN r * evenN r % pp = r * r % pp := by
  rw [evenN]
  split
  · rename_i h
    rw [less_odd9 r h]
    exact square_neg pp r (Nat.le_of_lt hr)
  · rfl
theorem rootN_sq {n : Nat} (h : isSN n = true) : rootN n * rootN n % pp = n := by
  rw [rootN, if_pos h, evenN_sq _ (rtN_lt n)]
  rw [isSN] at h
  exact of_decide_eq_true h
theorem rootN_ev (n : Nat) : rootN n % 2 = 0 := by
  rw [rootN]
  split
  · exact evenN_ev _ (rtN_lt n)
  · rfl
theorem root_there (x : Nat) (hx : x < pp) : isSN (x * x % pp) = true := by
  obtain ⟨k, hk⟩ : ∃ k, k + 1 = 7237005577332262213973186563042994240829374041602535252466099000494570602494 := ⟨7237005577332262213973186563042994240829374041602535252466099000494570602493, by decide⟩
  have hp : pp = 8 * k + 5 := by simp only [pp]; omega
  rw [isSN_is k hk]
  exact NP.isS_square NP.pr_P hp turn_divides hx
/-- The even one of a number and its opposite is its square's root. -/
theorem rootN_of (x : Nat) (hx : x < pp) : rootN (x * x % pp) = if x % 2 = 1 then pp - x else x := by
  have h1 := rootN_sq (root_there x hx)
  have h2 := rootN_ev (x * x % pp)
  have h3 := rootN_lt (x * x % pp)
  generalize rootN (x * x % pp) = r at *
  have hp : pp % 2 = 1 := by decide
  rcases NP.same_square NP.pr_P h3 hx h1 with h | h
  · subst h
    rw [if_neg (by omega)]
  · change (r + x) % pp = 0 at h
    have h4 : r + x = 0 ∨ r + x = pp := by
      generalize pp = P at *
      rcases Nat.lt_or_ge (r + x) P with h5 | h5
      · rw [Nat.mod_eq_of_lt h5] at h; exact .inl h
      · rw [Nat.mod_eq_sub_mod h5, Nat.mod_eq_of_lt (by omega)] at h; exact .inr (by omega)
    generalize pp = P at *
    rcases h4 with h5 | h5
    · rw [if_neg (by omega)]; omega
    · rw [if_pos (by omega)]; omega
theorem lev_same : ∀ a b : List UInt8, a.length = b.length → lev a = lev b → a = b
  | [], [], _, _ => rfl
  | x :: a, y :: b, hl, h => by
    rw [lev_cons, lev_cons] at h
    have hx := x.toNat_lt
    have hy := y.toNat_lt
    rw [UInt8.toNat_inj.1 (show x.toNat = y.toNat by omega), lev_same a b (Nat.succ.inj hl) (by omega)]
end Go.Proofs.YtagjbdhelfickaaDoor
namespace Go.Proofs.YtagjbdhelfickaaDoor
open Go.RowKit
theorem one_pp : 1 < pp := by decide
theorem pp_is : pp = NP.PP := rfl
namespace NP
/-- Numbers on the curve are a point's. -/
theorem point_at {x y : Nat} (hx : x < pp) (hy : y < pp) (h : On PP dE (x : Int) (y : Int)) : ∃ p : Pt PP dE, Pt.X p = x ∧ Pt.Y p = y ∧ RepN p (x, y, 1) := by
  have ex : (x : Int) % ((PP : Nat) : Int) = x := Int.emod_eq_of_lt (by omega) (by have : x < PP := hx; omega)
  have ey : (y : Int) % ((PP : Nat) : Int) = y := Int.emod_eq_of_lt (by omega) (by have : y < PP := hy; omega)
  refine ⟨⟨x, y, h, ex, ey⟩, Int.toNat_natCast x, Int.toNat_natCast y, ⟨edw.prime.not_one, ?_, ?_⟩, hx, hy, one_pp⟩
  · show Cg _ (x : Int) ((x : Int) * ((1 : Nat) : Int))
    rw [show ((1 : Nat) : Int) = 1 from rfl, Int.mul_one]; exact Cg.refl _
  · show Cg _ (y : Int) ((y : Int) * ((1 : Nat) : Int))
    rw [show ((1 : Nat) : Int) = 1 from rfl, Int.mul_one]; exact Cg.refl _
/-- A point's own numbers stand for it. -/
theorem Pt.own (p : Pt PP dE) : RepN p (Pt.X p, Pt.Y p, 1) := by
  obtain ⟨h1, h2⟩ := Pt.X_is p
  obtain ⟨h3, h4⟩ := Pt.Y_is p
  refine ⟨⟨edw.prime.not_one, ?_, ?_⟩, h2, h4, one_pp⟩
  · show Cg _ ((Pt.X p : Nat) : Int) (p.x * ((1 : Nat) : Int))
    rw [h1, show ((1 : Nat) : Int) = 1 from rfl, Int.mul_one]; exact Cg.refl _
  · show Cg _ ((Pt.Y p : Nat) : Int) (p.y * ((1 : Nat) : Int))
    rw [h3, show ((1 : Nat) : Int) = 1 from rfl, Int.mul_one]; exact Cg.refl _
/-- d y^2 + 1 isn't nought. -/
theorem den_not (y : Int) : ¬ ((PP : Nat) : Int) ∣ dE * (y * y) + 1 := fun h => by
  obtain ⟨c, hc⟩ := h
  obtain ⟨j, hj⟩ := edw.root
  have h1 := edw.non iE y ⟨j - c, by rw [Int.mul_sub, ← hc, ← hj]; omega⟩
  obtain ⟨v, hv⟩ := h1
  refine edw.prime.not_one ⟨c - dE * (v * y), ?_⟩
  rw [Int.mul_sub, ← hc]
  have : ((PP : Nat) : Int) * ((dE : Int) * (v * y)) = dE * (y * y) := by
    rw [Int.mul_left_comm, ← Int.mul_assoc ((PP : Nat) : Int), ← hv]
  omega
/-- What isn't nought times its power p - 2 is one. -/
theorem iv_one {n : Nat} (h : ¬ ((PP : Nat) : Int) ∣ (n : Int)) : Cg ((PP : Nat) : Int) ((ivN n : Nat) * (n : Int)) 1 := by
  have hn : ¬ PP ∣ n := fun hd => h (Int.natCast_dvd_natCast.2 hd)
  have hl := pr_P.little hn
  obtain ⟨k, hk⟩ : ∃ k, pp - 2 = k := ⟨_, rfl⟩
  have hk2 : k + 2 = PP := by rw [← hk]; decide
  rw [show PP - 1 = k + 1 by omega, Nat.pow_succ] at hl
  have hi : ivN n = n ^ k % PP := by rw [ivN, hk, pp_is]
  have h3 : (ivN n * n) % PP = 1 := by rw [hi, Nat.mod_mul_mod]; exact hl
  have h4 := (cgM PP (ivN n) n).swap
  rw [h3] at h4
  exact h4
/-- y's quotient: times the denominator it is the numerator. -/
theorem rat_is (y : Nat) : Cg ((PP : Nat) : Int) (((ratN y : Nat) : Int) * (dE * ((y : Int) * y) + 1)) ((y : Int) * y - 1) := by
  have hyy := cg_M y y
  have hn := (cg_S (fM y y) 1 (by decide)).trans (hyy.sub (Cg.refl ((1 : Nat) : Int)))
  have hd := (cg_A (fM dNat (fM y y)) 1).trans (((cg_M dNat (fM y y)).trans ((Cg.refl (dNat : Int)).mul hyy)).add (Cg.refl ((1 : Nat) : Int)))
  rw [dNat_is] at hd
  rw [show ((1 : Nat) : Int) = 1 from rfl] at hn hd
  have nz : ¬ ((PP : Nat) : Int) ∣ ((fA (fM dNat (fM y y)) 1 : Nat) : Int) := fun h => den_not y (hd.dvd h)
  have h1 := iv_one nz
  have h2 := (cg_M (fS (fM y y) 1) (ivN (fA (fM dNat (fM y y)) 1))).mul hd.swap
  refine h2.trans ?_
  rw [Int.mul_assoc]
  have h3 := hn.mul h1
  rw [Int.mul_one] at h3
  exact h3
theorem rat_on {x y : Nat} (h : x * x % pp = ratN y) : On PP dE (x : Int) (y : Int) := by
  have h1 := rat_is y
  rw [← h] at h1
  have h2 := ((cgM PP x x).swap.mul (Cg.refl (dE * ((y : Int) * y) + 1))).trans h1
  obtain ⟨c, hc⟩ := h2
  exact ⟨-c, by rw [Int.mul_neg, ← hc]; grind⟩
theorem on_rat {x y : Nat} (h : On PP dE (x : Int) (y : Int)) : x * x % pp = ratN y := by
  have h1 := rat_is y
  obtain ⟨c, hc⟩ := h
  have h2 : Cg ((PP : Nat) : Int) (((x * x % pp : Nat) : Int) * (dE * ((y : Int) * y) + 1)) ((y : Int) * y - 1) := by
    refine ((cgM PP x x).mul (Cg.refl _)).trans ⟨-c, ?_⟩
    rw [Int.mul_neg, ← hc]
    grind
  have h3 := h2.trans h1.swap
  have hl : ratN y < pp := fM_lt _ _
  have hm : x * x % pp < pp := Nat.mod_lt _ (by decide)
  generalize x * x % pp = u at *
  generalize ratN y = v at *
  have h4 : ((PP : Nat) : Int) ∣ ((u : Int) - v) * (dE * ((y : Int) * y) + 1) := by rw [Int.sub_mul]; exact h3
  rcases pr_P.int h4 with h5 | h5
  · have h6 := (cg u v PP).2 h5
    rw [← pp_is, Nat.mod_eq_of_lt hm, Nat.mod_eq_of_lt hl] at h6
    exact h6
  · exact absurd h5 (den_not y)
/-- On the curve x may be turned round. -/
theorem on_neg {x y : Nat} (hx : x ≤ pp) (h : On PP dE (x : Int) (y : Int)) : On PP dE ((pp - x : Nat) : Int) (y : Int) := by
  refine rat_on ?_
  rw [square_neg pp x hx]
  exact on_rat h
end NP
/-- The highest bit apart. -/
theorem lev_top (b : List UInt8) (hb : b.length = 32) : lev b = readY b + (readO b).toNat * 57896044618658097711785492504343953926634992332820282019728792003956564819968 ∧ readY b < 57896044618658097711785492504343953926634992332820282019728792003956564819968 := by
  have h1 := lev_step b 31 (by omega)
  have h2 := lev_take_lt b 31 (by omega)
  have h3 := lev_mask b hb
  rw [List.take_of_length_le (by omega)] at h1
  rw [show (8 * 31 : Nat) = 248 from rfl, show (2 : Nat) ^ 248 = 452312848583266388373324160190187140051835877600158453279131187530910662656 from by decide +kernel] at h1 h2
  rw [readY, readO, h3]
  have hq := (b.getD 31 0).toNat_lt
  generalize (b.getD 31 0).toNat = q at *
  generalize lev b = n at *
  generalize lev (b.take 31) = m at *
  by_cases h : 128 ≤ q
  · rw [decide_eq_true h, Bool.toNat_true]; omega
  · rw [decide_eq_false h, Bool.toNat_false]; omega
theorem lev_ptB (x y : Nat) (hy : y < 57896044618658097711785492504343953926634992332820282019728792003956564819968) : lev (ptB x y) = y + x % 2 * 57896044618658097711785492504343953926634992332820282019728792003956564819968 := by
  rw [ptB, lev_putL, show (256 : Nat) ^ 32 = 115792089237316195423570985008687907853269984665640564039457584007913129639936 from by decide +kernel, Nat.mod_eq_of_lt]
  omega
theorem pp_lt {n : Nat} (h : n < pp) : n < 57896044618658097711785492504343953926634992332820282019728792003956564819968 := Nat.lt_trans h (by decide)
/-- A point's bytes are read as it. -/
theorem read_ptB (p : NP.Pt NP.PP NP.dE) : readGood (ptB (NP.Pt.X p) (NP.Pt.Y p)) = true ∧ readT (ptB (NP.Pt.X p) (NP.Pt.Y p)) = (NP.Pt.X p, NP.Pt.Y p, 1) := by
  obtain ⟨hx1, hx⟩ := NP.Pt.X_is p
  obtain ⟨hy1, hy⟩ := NP.Pt.Y_is p
  have hon := p.on
  rw [← hx1, ← hy1] at hon
  have hr := NP.on_rat hon
  generalize NP.Pt.X p = x at *
  generalize NP.Pt.Y p = y at *
  have hl : (ptB x y).length = 32 := ptB_length x y
  obtain ⟨h1, h2⟩ := lev_top (ptB x y) hl
  rw [lev_ptB x y (pp_lt hy)] at h1
  have hy2 : readY (ptB x y) = y := by
    have := pp_lt hy
    generalize readY (ptB x y) = r at *
    generalize readO (ptB x y) = o at *
    cases o
    · rw [Bool.toNat_false] at h1; omega
    · rw [Bool.toNat_true] at h1; omega
  have ho : readO (ptB x y) = decide (x % 2 = 1) := by
    rw [hy2] at h1
    generalize readO (ptB x y) = o at *
    cases o
    · rw [Bool.toNat_false] at h1; exact (decide_eq_false (by omega)).symm
    · rw [Bool.toNat_true] at h1; exact (decide_eq_true (by omega)).symm
  have hX : readX (ptB x y) = if x % 2 = 1 then pp - x else x := by rw [readX, hy2, ← hr]; exact rootN_of x hx
  have hs : isSN (ratN y) = true := by rw [← hr]; exact root_there x hx
  have hg : readGood (ptB x y) = true := by
    rw [readGood, hy2, ho, hX, hs, decide_eq_true hy]
    by_cases h : x % 2 = 1
    · rw [if_pos h, decide_eq_true h, decide_eq_false (by omega)]; rfl
    · rw [decide_eq_false h]; rfl
  refine ⟨hg, ?_⟩
  rw [readT, hg, ho, hX, hy2, cond_true]
  by_cases h : x % 2 = 1
  · rw [if_pos h, decide_eq_true h, cond_true]
    have e : fS 0 (pp - x) = x := by
      rw [fS, Nat.zero_add, Nat.mod_eq_of_lt] <;> omega
    rw [e]
  · rw [if_neg h, decide_eq_false h, cond_false]
theorem neg_even (x : Nat) (h0 : x ≠ 0) (hx : x < pp) (he : x % 2 = 0) : fS 0 x = pp - x ∧ pp - x < pp ∧ (pp - x) % 2 = 1 := by
  have hp : pp % 2 = 1 := by decide
  rw [fS, Nat.zero_add]
  generalize pp = P at *
  exact ⟨Nat.mod_eq_of_lt (by omega), by omega, by omega⟩
/-- Bytes that are read are a point's. -/
theorem read_good (b : List UInt8) (hb : b.length = 32) (hg : readGood b = true) : ∃ p : NP.Pt NP.PP NP.dE, readT b = (NP.Pt.X p, NP.Pt.Y p, 1) ∧ ptB (NP.Pt.X p) (NP.Pt.Y p) = b := by
  obtain ⟨h1, h2⟩ := lev_top b hb
  have hg2 := hg
  rw [readGood, Bool.and_eq_true, Bool.and_eq_true, decide_eq_true_eq, Bool.not_eq_true', Bool.and_eq_false_iff] at hg
  obtain ⟨⟨hy, hs⟩, hxo⟩ := hg
  have hsq := rootN_sq hs
  have hev := rootN_ev (ratN (readY b))
  have hlt := rootN_lt (ratN (readY b))
  have hon := NP.rat_on hsq
  rw [show rootN (ratN (readY b)) = readX b from rfl] at hev hlt hon
  have hne : readX b ≤ pp := Nat.le_of_lt hlt
  have hp2 : pp % 2 = 1 := by decide
  cases ho : readO b with
  | false =>
    rw [ho, Bool.toNat_false, Nat.zero_mul, Nat.add_zero] at h1
    obtain ⟨p, hX, hY, -⟩ := NP.point_at hlt hy hon
    refine ⟨p, ?_, ?_⟩
    · rw [hX, hY, readT, hg2, ho, cond_true, cond_false]
    · rw [hX, hY]
      refine lev_same _ _ (by rw [ptB_length, hb]) ?_
      rw [lev_ptB _ _ h2, hev, h1, Nat.zero_mul, Nat.add_zero]
  | true =>
    rw [ho, Bool.toNat_true, Nat.one_mul] at h1
    have hx0 : readX b ≠ 0 := by
      rcases hxo with h | h
      · rw [ho] at h; cases h
      · exact of_decide_eq_false h
    have hon2 := NP.on_neg hne hon
    obtain ⟨e, hlt2, hodd⟩ := neg_even (readX b) hx0 hlt hev
    obtain ⟨p, hX, hY, -⟩ := NP.point_at hlt2 hy hon2
    refine ⟨p, ?_, ?_⟩
    · rw [hX, hY, readT, hg2, ho, cond_true, cond_true, e]
    · rw [hX, hY]
      refine lev_same _ _ (by rw [ptB_length, hb]) ?_
      rw [lev_ptB _ _ h2, h1]
      rw [hodd, Nat.one_mul]
end Go.Proofs.YtagjbdhelfickaaDoor
namespace Go.Proofs.YtagjbdhelfickaaDoor
open Go.RowKit
theorem lev_bit : ∀ (k : List UInt8) (i : Nat), lev k / 2 ^ i % 2 = (k.getD (i / 8) 0).toNat / 2 ^ (i % 8) % 2
  | [], i => by rw [show lev [] = 0 from rfl, Nat.zero_div]; simp
  | b :: t, i => by
    rw [lev_cons]
    rcases Nat.lt_or_ge i 8 with h | h
    · rw [Nat.div_eq_of_lt h, Nat.mod_eq_of_lt h]
      show _ = b.toNat / 2 ^ i % 2
      obtain ⟨j, hj⟩ : ∃ j, j + i = 7 := ⟨7 - i, by omega⟩
      have hp : (256 : Nat) = 2 ^ i * (2 ^ j * 2) := by
        rw [← Nat.pow_succ, ← Nat.pow_add, show i + (j + 1) = 8 by omega]
      rw [hp, Nat.mul_assoc, Nat.add_mul_div_left _ _ (Nat.pow_pos (by decide)), Nat.mul_comm (2 ^ j) 2, Nat.mul_assoc, Nat.add_mul_mod_self_left]
    · obtain ⟨j, rfl⟩ : ∃ j, i = j + 8 := ⟨i - 8, by omega⟩
      rw [show (j + 8) / 8 = j / 8 + 1 by omega, Nat.add_mod_right, List.getD_cons_succ, ← lev_bit t j, Nat.add_comm j 8, Nat.pow_add, ← Nat.div_div_eq_div_mul, show (2 : Nat) ^ 8 = 256 from rfl]
      have := b.toNat_lt
      congr 2
      omega
theorem kbit_is (k : List UInt8) (i : Nat) : kbit k i = decide (lev k / 2 ^ i % 2 = 1) := by rw [kbit, lev_bit]
end Go.Proofs.YtagjbdhelfickaaDoor
namespace Go.Proofs.YtagjbdhelfickaaDoor
open Go.RowKit
theorem lev_256 (b : List UInt8) (hb : b.length = 32) : lev b < 115792089237316195423570985008687907853269984665640564039457584007913129639936 := lev_lt32 b hb
theorem kbits (key : List UInt8) : ∀ i, i < 256 → kbit key i = decide (lev key / 2 ^ i % 2 = 1) := fun i _ => kbit_is key i
namespace NP
/-- So many times a point, by a key's bits. -/
theorem mulT_key {p : Pt PP dE} {t : Tri} (r : RepN p t) (key : List UInt8) (hk : key.length = 32) : RepN (edw.mul p (lev key)) (mulT (kbit key) t 256) := mulT_all r (lev_256 key hk) (kbits key)
theorem withT_key {p : Pt PP dE} {t : Tri} (r : RepN p t) (kh ks : List UInt8) (hh : kh.length = 32) (hs : ks.length = 32) : RepN (edw.add (edw.mul p (lev kh)) (edw.mul bE (lev ks))) (withT (kbit kh) (kbit ks) t baseT (sumT t baseT) 256) :=
  withT_all r baseT_rep (sumT_rep r baseT_rep) (lev_256 kh hh) (lev_256 ks hs) (kbits kh) (kbits ks)
end NP
/-- A point's bytes. -/
def bytesOf (p : NP.Pt NP.PP NP.dE) : List UInt8 := ptB (NP.Pt.X p) (NP.Pt.Y p)
theorem bytesOf_length (p : NP.Pt NP.PP NP.dE) : (bytesOf p).length = 32 := ptB_length _ _
theorem bytesOf_inj {p q : NP.Pt NP.PP NP.dE} (h : bytesOf p = bytesOf q) : p = q := by
  have h1 := (read_ptB p).2
  have h2 := (read_ptB q).2
  rw [show ptB (NP.Pt.X p) (NP.Pt.Y p) = bytesOf p from rfl, h] at h1
  rw [show ptB (NP.Pt.X q) (NP.Pt.Y q) = bytesOf q from rfl, h1] at h2
  have h3 := Prod.mk.inj h2
  exact NP.Pt.eq_of h3.1 (Prod.mk.inj h3.2).1
theorem bytes12_pt {p : NP.Pt NP.PP NP.dE} {t : Tri} (r : NP.RepN p t) (w : World) : Calls Tryd.prog 13 #[numD (triL t)] w fun e w' => e = .returned (hashVal (bytesOf p)) ∧ Below w.heap.size w w' := by
  have h := bytes12_any t w r.lt
  rw [r.over.1, r.over.2] at h
  exact h
end Go.Proofs.YtagjbdhelfickaaDoor
namespace Go.Proofs.YtagjbdhelfickaaDoor
open Go.RowKit
/-- Rows of fifteen cells, one behind the other. -/
def rowsV (f : Nat → List Value) : Nat → List Value
  | 0 => []
  | n + 1 => rowsV f n ++ f n
theorem rowsV_length (f : Nat → List Value) (h : ∀ i, (f i).length = 15) : ∀ n, (rowsV f n).length = n * 15
  | 0 => rfl
  | n + 1 => by rw [rowsV, List.length_append, rowsV_length f h n, h]; omega
theorem rowsV_get (f : Nat → List Value) (h : ∀ i, (f i).length = 15) (k : Nat) : ∀ (n : Nat) (T : List Value), k < n → ((rowsV f n ++ T).drop (k * 15)).take 15 = f k
  | n + 1, T, hk => by
    rw [rowsV, List.append_assoc]
    by_cases e : k < n
    · exact rowsV_get f h k n _ e
    · obtain rfl : k = n := by omega
      rw [List.drop_left' (rowsV_length f h k), List.take_left' (h k)]
theorem splice_far (A B c : List Value) (o : Nat) (h : A.length ≤ o) : splice (A ++ B) o c = A ++ splice B (o - A.length) c := by
  rw [splice, splice, List.take_append, List.take_of_length_le h, List.drop_append, List.drop_eq_nil_of_le (by omega), List.nil_append, show o + c.length - A.length = o - A.length + c.length by omega]
  simp only [List.append_assoc]
theorem splice_near (A B c : List Value) (o : Nat) (h : o + c.length ≤ A.length) : splice (A ++ B) o c = splice A o c ++ B := by
  rw [splice, splice, List.take_append_of_le_length (by omega), List.drop_append_of_le_length h]
  simp only [List.append_assoc]
theorem rowsV_set (f : Nat → List Value) (h : ∀ i, (f i).length = 15) (k : Nat) (c : List Value) (hc : c.length = 15) : ∀ (n : Nat), k < n → splice (rowsV f n) (k * 15) c = rowsV (fun i => if i = k then c else f i) n
  | n + 1, hk => by
    have hl := rowsV_length f h n
    rw [rowsV, rowsV]
    by_cases e : k < n
    · rw [splice_near _ _ _ _ (by rw [hl, hc]; omega), rowsV_set f h k c hc n e, if_neg (by omega)]
    · obtain rfl : k = n := by omega
      rw [splice_far _ _ _ _ (by omega), hl, Nat.sub_self, splice_all _ _ (by rw [hc, h]), if_pos rfl]
      congr 1
      have key : ∀ m, m ≤ k → rowsV f m = rowsV (fun i => if i = k then c else f i) m := by
        intro m
        induction m with
        | zero => intro _; rfl
        | succ m ih => intro hm; rw [rowsV, rowsV, ih (by omega), if_neg (by omega)]
      exact key k (Nat.le_refl k)
/-- A share's cells while its multiples are made: those below k are. -/
def mrow (t : Tri) (k i : Nat) : List Value := if i < k then (triU (manyT t i)).map ncell else nzeros 15
theorem mrow_length (t : Tri) (k i : Nat) : (mrow t k i).length = 15 := by
  rw [mrow]
  split
  · rw [List.length_map, triU_length]
  · rfl
def shC (t : Tri) (key : List UInt8) (k : Nat) : List Value := rowsV (mrow t k) 16 ++ key.map cellOf
theorem shC_length (t : Tri) (key : List UInt8) (hk : key.length = 32) (k : Nat) : (shC t key k).length = 272 := by
  rw [shC, List.length_append, rowsV_length _ (mrow_length t k), List.length_map, hk]
theorem map_vcell (l : List Value) : l.map vcell = l := List.map_id l
theorem rowsV_one (f : Nat → List Value) (h : ∀ i, ∀ v ∈ f i, v.oneCell' = true) : ∀ n, ∀ v ∈ rowsV f n, v.oneCell' = true
  | 0, v, hv => absurd hv List.not_mem_nil
  | n + 1, v, hv => by
    rw [rowsV, List.mem_append] at hv
    rcases hv with hv | hv
    · exact rowsV_one f h n v hv
    · exact h n v hv
theorem shC_one (t : Tri) (key : List UInt8) (k : Nat) : ((shC t key k).map vcell).toArray.all (·.oneCell') = true := by
  rw [map_vcell]
  refine all_oneCell_toArray fun v hv => ?_
  rw [shC, List.mem_append] at hv
  rcases hv with hv | hv
  · refine rowsV_one _ (fun i u hu => ?_) 16 v hv
    rw [mrow] at hu
    split at hu
    · obtain ⟨x, _, rfl⟩ := List.mem_map.1 hu; rfl
    · rw [List.eq_of_mem_replicate hu]; rfl
  · exact cells8_one key v hv
theorem shC_zero (t : Tri) (key : List UInt8) : shC t key 0 = nzeros 240 ++ key.map cellOf := by
  have h : mrow t 0 = fun _ => nzeros 15 := by funext i; rw [mrow, if_neg (Nat.not_lt_zero i)]
  rw [shC, h, show rowsV (fun _ => nzeros 15) 16 = nzeros 240 from by kernel_rfl]
theorem shC_set (t : Tri) (key : List UInt8) (k : Nat) (hk : k < 16) : splice (shC t key k) (k * 15) ((triU (manyT t k)).map ncell) = shC t key (k + 1) := by
  have hl := rowsV_length _ (mrow_length t k) 16
  have hc : ((triU (manyT t k)).map ncell).length = 15 := by rw [List.length_map, triU_length]
  rw [shC, splice_near _ _ _ _ (by rw [hl, hc]; omega), rowsV_set _ (mrow_length t k) k _ hc 16 hk, shC]
  congr 2
  funext i
  rw [mrow, mrow]
  by_cases e : i = k
  · subst e; rw [if_pos rfl, if_pos (by omega)]
  · rw [if_neg e]
    by_cases e2 : i < k
    · rw [if_pos e2, if_pos (by omega)]
    · rw [if_neg e2, if_neg (by omega)]
theorem shC_get (t : Tri) (key : List UInt8) (k i : Nat) (hi : i < k) (hk : k ≤ 16) (T : List Value) : ((shC t key k ++ T).drop (i * 15)).take 15 = (triU (manyT t i)).map ncell := by
  rw [shC, List.append_assoc, rowsV_get _ (mrow_length t k) i 16 _ (by omega), mrow, if_pos hi]
theorem umany_any (E : Value) (t : Tri) (key : List UInt8) (w : World) (hk : key.length = 32) (h : TriLt t) (hS : TabsU E w) : Calls Tryd.prog 57 #[numVal (triU t), hashVal key] w fun e w' => e = .returned (valsV (shC t key 16)) ∧ Below w.heap.size w w' := by
  refine umany_over (triU t) (triU (0, 1, 1)) key (fun k => triU (manyT t k)) (shC t key) E w rfl rfl hk (shC_length t key hk) (shC_one t key) ?_ ?_ uzero_any ?_ hS
  · show _ = _
    rw [map_vcell, map_vcell]
    have h := shC_set t key 0 (by decide)
    rw [Nat.zero_mul] at h
    exact h
  · intro k hk15
    refine ⟨rfl, rfl, fun W hW => uadd_any E (manyT t k) t W (manyT_lt t k) h hW, ?_, ?_⟩
    · rw [map_vcell, Nat.zero_add]
      have h2 := shC_get t key (k + 1) k (by omega) (by omega) []
      rw [List.append_nil] at h2
      exact h2
    · rw [map_vcell, map_vcell, Nat.zero_add]
      exact shC_set t key (k + 1) (by omega)
  · rw [shC_zero]
    exact build_share key hk
theorem dig_cast (q : UInt8) (i : Nat) : (q.toNat : Int) / 2 ^ (i % 2 * 4) % 16 = ((q.toNat / 16 ^ (i % 2) % 16 : Nat) : Int) := by
  rcases Nat.mod_two_eq_zero_or_one i with e | e <;> rw [e]
  · show (q.toNat : Int) / 1 % 16 = ((q.toNat / 1 % 16 : Nat) : Int); omega
  · show (q.toNat : Int) / 16 % 16 = ((q.toNat / 16 % 16 : Nat) : Int); omega
theorem uof_any (g i o : Nat) (A B : List Value) (t : Tri) (key : List UInt8) (t' : TypeId) (w : World) (hk : key.length = 32) (hi : i < 64) (ho : A.length = o) (hC : Cells w g (A ++ (shC t key 16 ++ B)) t') : Calls Tryd.prog 82 #[.pointer (some ⟨g, o, none⟩), .int .i64 (i : Int)] w fun e w' => e = .returned (numVal (triU (manyT t (dig key i)))) ∧ Below w.heap.size w w' := by
  refine uof_over g o i (dig key i) _ (key.getD (i / 2) 0) (triU (manyT t (dig key i))) t' w hi (dig_lt key i) hC ?_ (dig_cast _ i) rfl ?_
  · show _ = _
    have hl := rowsV_length _ (mrow_length t 16) 16
    rw [List.getElem?_append_right (by omega), ho, show o + 240 + i / 2 - o = 240 + i / 2 by omega, shC, List.append_assoc, List.getElem?_append_right (by omega), hl, show 240 + i / 2 - 16 * 15 = i / 2 by omega, List.getElem?_append_left (by rw [List.length_map, hk]; omega), List.getElem?_map, List.getD_eq_getElem?_getD, List.getElem?_eq_getElem (by omega)]
    rfl
  · show _ = _
    rw [List.drop_append, List.drop_eq_nil_of_le (by omega), List.nil_append, ho, show o + dig key i * 15 - o = dig key i * 15 by omega]
    exact shC_get t key 16 _ (dig_lt key i) (Nat.le_refl _) B
def twN (t : Tri) : Nat → Tri
  | 0 => t
  | j + 1 => twT (twN t j)
theorem urad_any (t : Tri) (w : World) (h : TriLt t) : Calls Tryd.prog 81 #[numVal (triU t)] w fun e w' => e = .returned (numVal (triU (radT t))) ∧ Below w.heap.size w w' := by
  have hl : ∀ j, TriLt (twN t j) := fun j => by
    cases j with
    | zero => exact h
    | succ j => exact twT_lt _
  exact urad_over (triU t) (fun j => triU (twN t j)) w rfl (fun _ => rfl) (fun j _ W => utw_any _ W (hl j))
/-- The shares' sum, where the j-th's multiple by digit i is f i j. -/
theorem usum_any (E : Value) (m gs : Nat) (vs : List Value) (f : Nat → Nat → Tri) (w : World) (hm : m ≤ 1000000) (hC : Cells w gs (vs.map vcell) 88) (hf : ∀ i j, TriLt (f i j))
    (hF : ∀ i j : Nat, i < 64 → j < m → ∀ W, Cells W gs (vs.map vcell) 88 → Calls Tryd.prog 82 #[.pointer (some ⟨gs, 0 + j * 272, none⟩), .int .i64 (i : Int)] W fun e w' => e = .returned (numVal (triU (f i j))) ∧ Below W.heap.size W w') (hS : TabsU E w) :
    Calls Tryd.prog 56 #[.slice (some ⟨gs, 0, none⟩) m m] w fun e w' => e = .returned (numVal (triU (outT m f 64))) ∧ Below w.heap.size w w' := by
  refine usum_over m gs vs (triU (0, 1, 1)) (fun k => triU (outT m f (64 - k))) (fun k j => triU (innT (f k) (radT (outT m f (63 - k))) j)) E w hm hC rfl rfl (fun _ => rfl) ?_ uzero_any hS
  intro k hk
  have e : 64 - k = 63 - k + 1 := by omega
  have e2 : 64 - (k + 1) = 63 - k := by omega
  have e3 : 63 - (63 - k) = k := by omega
  refine ⟨fun W => ?_, fun _ => rfl, fun j hj => ⟨triU (f k j), rfl, hF k j hk hj, fun W hW => uadd_any E _ _ W (innT_lt _ _ (radT_lt _) j) (hf k j) hW⟩, ?_⟩
  · show Calls Tryd.prog 81 #[numVal (triU (outT m f (64 - (k + 1))))] W _
    rw [e2]
    exact urad_any _ W (outT_lt m f _)
  · show triU (innT (f k) (radT (outT m f (63 - k))) m) = triU (outT m f (64 - k))
    rw [e, outT, e3]
/-- So many times a point. -/
def oneF (t : Tri) (key : List UInt8) (i _j : Nat) : Tri := manyT t (dig key i)
def timesU (t : Tri) (key : List UInt8) : Tri := outT 1 (oneF t key) 64
theorem timesU_lt (t : Tri) (key : List UInt8) : TriLt (timesU t key) := outT_lt _ _ _
theorem utimes_any (E : Value) (t : Tri) (key : List UInt8) (w : World) (hk : key.length = 32) (h : TriLt t) (hS : TabsU E w) : Calls Tryd.prog 21 #[numVal (triU t), hashVal key] w fun e w' => e = .returned (numVal (triU (timesU t key))) ∧ Below w.heap.size w w' := by
  refine utimes_over (triU t) (triU (timesU t key)) key (shC t key 16) E w rfl rfl hk (shC_length t key hk 16) (fun W hW => umany_any E t key W hk h hW) ?_ hS
  intro g W hC hW
  refine usum_any E 1 g _ (oneF t key) W (by decide) hC (fun i j => manyT_lt _ _) ?_ hW
  intro i j hi hj V hV
  obtain rfl : j = 0 := by omega
  rw [map_vcell] at hV
  refine uof_any g i (0 + 0 * 272) [] [] t key 88 V hk hi rfl ?_
  rw [List.nil_append, List.append_nil]
  exact hV
/-- So many times a point, and so many times another. -/
def twoF (t u : Tri) (kh ks : List UInt8) (i j : Nat) : Tri := if j = 0 then manyT t (dig kh i) else manyT u (dig ks i)
def withU (t u : Tri) (kh ks : List UInt8) : Tri := outT 2 (twoF t u kh ks) 64
theorem twoF_lt (t u : Tri) (kh ks : List UInt8) (i j : Nat) : TriLt (twoF t u kh ks i j) := by
  rw [twoF]
  split <;> exact manyT_lt _ _
theorem uwith_any (E : Value) (t : Tri) (kh ks : List UInt8) (w : World) (hh : kh.length = 32) (hs : ks.length = 32) (h : TriLt t) (hS : TabsU E w) : Calls Tryd.prog 23 #[numVal (triU t), hashVal kh, hashVal ks] w fun e w' => e = .returned (numVal (triU (withU t baseT kh ks))) ∧ Below w.heap.size w w' := by
  have l1 := shC_length t kh hh 16
  have l2 := shC_length baseT ks hs 16
  refine uwith_over (triU t) (triU baseT) (triU (withU t baseT kh ks)) kh ks (shC t kh 16) (shC baseT ks 16) E w rfl rfl hh hs l1 l2 (fun W hW => umany_any E t kh W hh h hW) (fun W hW => umany_any E baseT ks W hs baseT_lt hW) (ubase_any E) ?_ hS
  intro g W hC hW
  refine usum_any E 2 g _ (twoF t baseT kh ks) W (by decide) hC (twoF_lt _ _ _ _) ?_ hW
  intro i j hi hj V hV
  rw [map_vcell] at hV
  obtain rfl | rfl : j = 0 ∨ j = 1 := by omega
  · refine uof_any g i (0 + 0 * 272) [] (shC baseT ks 16) t kh 88 V hh hi rfl ?_
    rw [List.nil_append]
    exact hV
  · refine uof_any g i (0 + 1 * 272) (shC t kh 16) [] baseT ks 88 V hs hi (by rw [l1]) ?_
    rw [List.append_nil]
    exact hV
namespace NP
theorem timesU_rep {p : Pt PP dE} {t : Tri} (r : RepN p t) (key : List UInt8) (hk : key.length = 32) : RepN (edw.mul p (lev key)) (timesU t key) := by
  have h := one_rep r key (oneF t key) (fun _ => rfl) 64
  rw [preD_is (lev_256 key hk) 64 0 rfl, Nat.pow_zero, Nat.div_one] at h
  exact h
theorem withU_rep {p : Pt PP dE} {t : Tri} (r : RepN p t) (kh ks : List UInt8) (hh : kh.length = 32) (hs : ks.length = 32) : RepN (edw.add (edw.mul p (lev kh)) (edw.mul bE (lev ks))) (withU t baseT kh ks) := by
  have h := two_rep r baseT_rep kh ks (twoF t baseT kh ks) (fun _ => rfl) (fun _ => rfl) 64
  rw [preD_is (lev_256 kh hh) 64 0 rfl, preD_is (lev_256 ks hs) 64 0 rfl, Nat.pow_zero, Nat.div_one, Nat.div_one] at h
  exact h
end NP
theorem ubytes_pt {p : NP.Pt NP.PP NP.dE} {t : Tri} (r : NP.RepN p t) (w : World) : Calls Tryd.prog 12 #[numVal (triU t)] w fun e w' => e = .returned (hashVal (bytesOf p)) ∧ Below w.heap.size w w' := by
  have h := ubytes_any t w r.lt
  rw [r.over.1, r.over.2] at h
  exact h
end Go.Proofs.YtagjbdhelfickaaDoor
