/- What the laws of layer 3 share: the tables that the program's text lays, digests held against each other, 'alive'. -/
import Derived.Test.YtpbkjphdkdlhjaaDoorVRSum
import Derived.Test.YtpbkjphdkdlhjaaDoorWOpen2
import Derived.Lib.LaidTab
import Derived.Stop.BytesEq
import Derived.Lib.SlBytesConst
namespace Go.Proofs.YtpbkjphdkdlhjaaDoor
open Go.RowKit
/-- A list of laid variables in two parts. -/
theorem laid_split {W : World} : ∀ (l1 l2 : List (String × DataW Unit)) (ps : List MemPlace), DataW.LaidVars Tryd.prog W (l1 ++ l2) ps → ∃ p1 p2, ps = p1 ++ p2 ∧ DataW.LaidVars Tryd.prog W l1 p1 ∧ DataW.LaidVars Tryd.prog W l2 p2
  | [], l2, ps, h => ⟨[], ps, rfl, rfl, h⟩
  | x :: l1, l2, ps, h => by
    obtain ⟨g, t, cs, f, p, q, h1, h2, h3, h4, h5, rfl⟩ := h
    obtain ⟨p1, p2, rfl, h6, h7⟩ := laid_split l1 l2 q h5
    exact ⟨_, p2, by simp only [List.append_assoc], ⟨g, t, cs, f, p, p1, h1, h2, h3, h4, h6, rfl⟩, h7⟩
theorem errs_vars {W : World} {ps : List MemPlace} (hv : DataW.LaidVars Tryd.prog W (errTexts.map fun x => (x.1, .iface "*errors.errorString" (.ptr (.agg [.lit (.string x.2)])))) ps) (hnd : ps.Nodup)
    (hrows : ∀ b off, MemPlace.cell b off ∈ ps → (∃ c t, W.heap[b]? = some (.cells c t (0, 0))) ∧ ∀ u v, W.cell? ⟨b, off, none⟩ = some (.iface u v) → Value.okWide Tryd.prog W .any 0 u v) : ∃ es, Errs W es := by
  obtain ⟨es, h1, h2, _, h4⟩ := sentinels errTexts errVars ps (by kernel_rfl) (fun g hg => by
    have hall : (errVars.all fun g => ((Tryd.prog.globals[g]?).map (·.type)) == some 31) = true := by kernel_rfl
    simpa using List.all_eq_true.1 hall g hg) hv hnd hrows
  exact ⟨es, h1, h2, h4⟩
theorem wideStart_tab : (Rows.laid_fellowship_shawide_start : DataW Unit) = Lib.tabData .u64 (widStart.list.map fun x => (x.toNat : Int)) := by rfl
theorem wideRounds_tab : (Rows.laid_fellowship_shawide_rounds : DataW Unit) = Lib.tabData .u64 (widK.map fun x => (x.toNat : Int)) := by rfl
theorem tab_range64 {W : World} {name : String} {g : Nat} {cs : Array Value} (l : List (BitVec 64)) (hg : Tryd.prog.globalNamed name = some g) (hv : W.var? Tryd.prog name = some cs) (hc : cs.toList = (l.map fun x => (x.toNat : Int)).map fun z => Value.int .u64 z) : W.rangeAt g 0 (l.map vcell) := by
  intro j v hj
  have h := World.var?_cell hg hv j
  have e : cs[j]? = some v := by
    rw [← Array.getElem?_toList, hc, List.map_map]
    exact hj
  rw [e] at h
  simpa using h
theorem tabsW_of {W : World} {ps : List MemPlace} (h : DataW.LaidVars Tryd.prog W [("fellowship/shawide.start", Rows.laid_fellowship_shawide_start), ("fellowship/shawide.rounds", Rows.laid_fellowship_shawide_rounds)] ps) : TabsW W := by
  obtain ⟨g2, t2, cs2, f2, p2, q2, hg2, ht2, hv2, hd2, hq2, rfl⟩ := h
  obtain ⟨g3, t3, cs3, f3, p3, q3, hg3, ht3, hv3, hd3, _, rfl⟩ := hq2
  obtain rfl : 0 = g2 := Option.some.inj ((show Tryd.prog.globalNamed "fellowship/shawide.start" = some 0 by kernel_rfl).symm.trans hg2)
  obtain rfl : 20 = g3 := Option.some.inj ((show Tryd.prog.globalNamed "fellowship/shawide.rounds" = some 20 by kernel_rfl).symm.trans hg3)
  obtain rfl : 42 = t2 := Option.some.inj ((show (Tryd.prog.globals[0]?).map (·.type) = some 42 by kernel_rfl).symm.trans ht2)
  obtain rfl : 59 = t3 := Option.some.inj ((show (Tryd.prog.globals[20]?).map (·.type) = some 59 by kernel_rfl).symm.trans ht3)
  rw [wideStart_tab] at hd2
  rw [wideRounds_tab] at hd3
  have c2 := Lib.cells_of_tab Tryd.underlying42 Tryd.underlying40 (by kernel_rfl) (by kernel_rfl) hd2
  have c3 := Lib.cells_of_tab Tryd.underlying59 Tryd.underlying40 (by kernel_rfl) (by kernel_rfl) hd3
  exact ⟨tab_range64 widStart.list hg2 hv2 c2, tab_range64 widK hg3 hv3 c3⟩
theorem wide_eql (bs : List UInt8) (w : World) : (binOp .eql 26 (hashVal (widSum bs)) (hashVal (widSum bs))).run Tryd.prog w = .ok (.bool true) w := by
  have h := run_eql_bytes (P := Tryd.prog) w 26 5 64 Tryd.underlying26 Tryd.underlying5 (fun w => by
    obtain ⟨i0, hi0, hs0⟩ := Option.map_eq_some_iff.1 size_u8
    simp [sizeOf, typeInfo, hi0, hs0]) (widSum bs) (widSum bs) (widSum_length bs) (widSum_length bs)
  rw [beq_self_eq_true] at h
  exact h
theorem wide_guard (op : BinOp) (x y : Operand) (ds es : List UInt8) (w : World) : (eqGuard op 26 x y (hashVal ds) (hashVal es)).run Tryd.prog w = .ok () w := run_eqGuard_agg w op 26 x y _ _ (by kernel_rfl)
set_option maxRecDepth 100000 in
theorem alive3 (w : World) (hK : TabsW w) : Calls Tryd.prog 6 #[] w fun e w' => e = .returned (.bool true) ∧ Below w.heap.size w w' := by
  have HD := Lib.hid abc64
  have HW : Hid ((widSum [97, 98, 99]).length = 64) := widSum_length _
  have hm0 := row_lit w [97, 98, 99] (3, 4)
  have hB0 : Below w.heap.size w (w.alloc (.cells #[.int .u8 97, .int .u8 98, .int .u8 99] 5 (3, 4))) := (Below.refl _ _).alloc (Nat.le_refl _) _
  have hP : Parts ((w.alloc (.cells #[.int .u8 97, .int .u8 98, .int .u8 99] 5 (3, 4))).alloc (.cells #[.slice (some ⟨w.heap.size, 0, none⟩) 3 3] 24)) ((w.alloc (.cells #[.int .u8 97, .int .u8 98, .int .u8 99] 5 (3, 4))).alloc (.cells #[.slice (some ⟨w.heap.size, 0, none⟩) 3 3] 24)).heap.size (some ⟨w.heap.size + 1, 0, none⟩) [[97, 98, 99]] := by
    have h := parts_lit (w.alloc (.cells #[.int .u8 97, .int .u8 98, .int .u8 99] 5 (3, 4))) #[.slice (some ⟨w.heap.size, 0, none⟩) 3 3] [[97, 98, 99]] (fun j us hu => by
      match j, hu with
      | 0, hu =>
        cases hu
        exact ⟨_, rfl, _, _, rfl, by rw [World.size_alloc]; exact hm0, Nat.le_refl _, by unfold maxLen; omega, (fun h => by cases h)⟩
      | j + 1, hu => simp at hu)
    simpa using h
  have hB1 := hB0.alloc hB0.size (.cells #[.slice (some ⟨w.heap.size, 0, none⟩) 3 3] 24)
  have HP := Lib.hid hP
  have HB := Lib.hid hB1
  clear hP hB1 hB0 hm0
  have hcv := Lib.run_convert_bytes_const (P := Tryd.prog) w 24 5 #[.int .u8 97, .int .u8 98, .int .u8 99] 3 3 Tryd.underlying24 Tryd.underlying5
  go_enter Tryd.func6, Tryd.ntmps6
  go_wp2_with fail
  refine (wideSum_any _ _ 1 [[97, 98, 99]] _ (hK.below HB.out) rfl HP.out (by omega) (by simp)).mono ?_
  rintro e w2 ⟨rfl, hB2⟩
  have hB3 := HB.out.trans (hB2.mono HB.out.size)
  clear hB2 HP HB
  rw [show ([[97, 98, 99]] : List (List UInt8)).flatten = [97, 98, 99] from rfl]
  generalize widSum [97, 98, 99] = ds at *
  have HV : Hid (hashVal ds = .agg (ds.map cellOf).toArray) := rfl
  rw [HV.out]
  have HP8 : Hid (∀ v ∈ ds.map cellOf, v.oneCell' = true) := cells8_one _
  have HS : Hid ((ds.map cellOf).toArray.size = 64) := by show _ = _; rw [List.size_toArray, List.length_map, HW.out]
  have hi : (Tryd.prog.info? 26).map (·.size) = some (ds.map cellOf).toArray.size := by rw [HS.out]; exact size_wide
  have HN : Hid ((ds.map cellOf).length = 64) := by show _ = _; rw [List.length_map, HW.out]
  have b0 : (ds.map cellOf)[0]? = some (.int .u8 221) := by rw [HD.out]; rfl
  have b1 : (ds.map cellOf)[1]? = some (.int .u8 175) := by rw [HD.out]; rfl
  have b2 : (ds.map cellOf)[2]? = some (.int .u8 53) := by rw [HD.out]; rfl
  have b3 : (ds.map cellOf)[3]? = some (.int .u8 161) := by rw [HD.out]; rfl
  have b4 : (ds.map cellOf)[7]? = some (.int .u8 186) := by rw [HD.out]; rfl
  generalize ds.map cellOf = vs at *
  replace b0 := Lib.hid b0
  replace b1 := Lib.hid b1
  replace b2 := Lib.hid b2
  replace b3 := Lib.hid b3
  replace b4 := Lib.hid b4
  go_wp2_with (first
    | (refine alloc_step rfl 26 rfl _ zero_wide ?_
       intro w3 hw3
       have hB4 : Below w.heap.size w w3 := by rw [hw3]; exact hB3.alloc hB3.size _
       have hC4 : Cells w3 w2.heap.size (List.replicate 64 (cellOf 0)) 26 := by rw [hw3]; exact Cells.new w2 _ _
       clear hw3
       have hT4 : w3.there w2.heap.size 0 vs.toArray.size := by rw [HS.out]; exact hC4.there 0 64 (by simp)
       have hC5 := hC4.setCells (cs := vs) (o := 0) (by simp [HN.out])
       rw [splice_all _ _ (by simp [HN.out])] at hC5
       have hB5 : Below w.heap.size w (w3.setCells w2.heap.size 0 vs) := below_setCells hB4 hB3.size _ _)
    | (refine wpList_store_mid rfl 26 _ _ rfl w2.heap.size 0 vs.toArray rfl rfl hT4 hi (all_oneCell_toArray HP8.out) ?_
       generalize w3.setCells w2.heap.size 0 vs = w5 at *
       have d0 := hC5.get b0.out
       have d1 := hC5.get b1.out
       have d2 := hC5.get b2.out
       have d3 := hC5.get b3.out
       have d4 := hC5.get b4.out))
  go_ret
  exact ⟨rfl, hB5⟩
end Go.Proofs.YtpbkjphdkdlhjaaDoor
