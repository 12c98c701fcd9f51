/- Part 8 of what the laws of this seat share: DLaw. -/
import Derived.Test.YtmhelmmonkgmmaaDoorPart7
namespace Go.Proofs.YtmhelmmonkgmmaaDoor
open Go.ChangeShapes Go.WideShapes Go.ChangeAt Go.RowKit
theorem tabsV_of {W : World} {ps : List MemPlace} (h : DataW.LaidVars Tryd.prog W [("fellowship/sha.start", Rows.laid_fellowship_sha_start), ("fellowship/sha.rounds", Rows.laid_fellowship_sha_rounds)] ps) : Tabs W ∧ 21 ≤ W.heap.size := by
  obtain ⟨g2, t2, cs2, f2, p2, q2, hg2, ht2, hv2, hd2, hq2, rfl⟩ := h
  obtain ⟨g3, t3, cs3, f3, p3, q3, hg3, ht3, hv3, hd3, _, rfl⟩ := hq2
  have l2 := var_there hg2 hv2
  have l3 := var_there hg3 hv3
  obtain rfl : 19 = g2 := Option.some.inj ((show Tryd.prog.globalNamed "fellowship/sha.start" = some 19 by kernel_rfl).symm.trans hg2)
  obtain rfl : 20 = g3 := Option.some.inj ((show Tryd.prog.globalNamed "fellowship/sha.rounds" = some 20 by kernel_rfl).symm.trans hg3)
  obtain rfl : 84 = t2 := Option.some.inj ((show (Tryd.prog.globals[19]?).map (·.type) = some 84 by kernel_rfl).symm.trans ht2)
  obtain rfl : 91 = t3 := Option.some.inj ((show (Tryd.prog.globals[20]?).map (·.type) = some 91 by kernel_rfl).symm.trans ht3)
  rw [start_tab] at hd2
  rw [rounds_tab] at hd3
  have c2 := Lib.cells_of_tab Tryd.underlying84 Tryd.underlying61 (by kernel_rfl) (by kernel_rfl) hd2
  have c3 := Lib.cells_of_tab Tryd.underlying91 Tryd.underlying61 (by kernel_rfl) (by kernel_rfl) hd3
  exact ⟨⟨tab_range shaStart.list hg2 hv2 c2, tab_range shaK hg3 hv3 c3⟩, by omega⟩
theorem laidED_of {W : World} (h : laidMetH Tryd.prog ((errTexts.map fun x => (x.1, .iface "*errors.errorString" (.ptr (.agg [.lit (.string x.2)])))) ++ [("fellowship/sha.start", Rows.laid_fellowship_sha_start), ("fellowship/sha.rounds", Rows.laid_fellowship_sha_rounds)]) W) :
    Tabs W ∧ 21 ≤ W.heap.size ∧ ∃ es, Errs W es := by
  rw [MakeChecks.laidMetH_plain _ _ _ (by kernel_rfl)] at h
  obtain ⟨ps, hv, hnd, hrows⟩ := h
  obtain ⟨p1, p2, rfl, h1, h2⟩ := laid_split _ _ _ hv
  have ht := tabsV_of h2
  exact ⟨ht.1, ht.2, errs_vars h1 (List.nodup_append.1 hnd).1 (fun b off hm => hrows b off (List.mem_append_left _ hm))⟩
theorem code_neq (ds es : List UInt8) (hd : ds.length = 32) (he : es.length = 32) (w : World) : (binOp .neq 30 (hashVal ds) (hashVal es)).run Tryd.prog w = .ok (.bool (!(ds == es))) w := by
  have h := run_equalIn_bytes (P := Tryd.prog) w 9998 30 5 32 Tryd.underlying30 Tryd.underlying5 (fun w => by
    obtain ⟨i0, hi0, hs0⟩ := Option.map_eq_some_iff.1 size_u8
    simp [sizeOf, typeInfo, hi0, hs0]) ds es hd he
  have h2 := run_neq_struct (P := Tryd.prog) w 30 (ds.map cellOf).toArray (es.map cellOf).toArray
  unfold hashVal
  rw [h2]
  have h3 : (Op.equalIn 10000 30 (.agg (ds.map cellOf).toArray) (.agg (es.map cellOf).toArray)).run Tryd.prog w = .ok (ds == es) w := h
  rw [h3]
  rfl
theorem mac_neq (key msg : List UInt8) (w : World) : (binOp .neq 30 (hashVal (macSum key msg)) (hashVal (macSum key msg))).run Tryd.prog w = .ok (.bool false) w := by
  have h := code_neq (macSum key msg) (macSum key msg) (macSum_length _ _) (macSum_length _ _) w
  rw [beq_self_eq_true] at h
  exact h
set_option maxRecDepth 100000 in
/-- A text that comes in. -/
theorem open_text {W : World} {r : Reach} {b0 : Nat} {v : Value} (hv : Value.okWide Tryd.prog W r b0 9 v) : ∃ s : List UInt8, v = .string (str s) := by
  obtain ⟨s, rfl⟩ := okWide_string Tryd.underlying9 hv
  exact ⟨s.data.toList, by rw [← str_of s]⟩
set_option maxRecDepth 100000 in
/-- An array of 32 bytes that comes in by value. -/
theorem open_hash {H : Type} {enc : TypeId × Value → H} {W : World} {r : Reach} {b0 : Nat} {v : Value} {d : DataW H} {p : List MemPlace} (hv : Value.okWide Tryd.prog W r b0 30 v) (h : DataW.Trod enc Tryd.prog W 0 (fun _ => true) true 30 v d p) : ∃ s : List UInt8, v = hashVal s ∧ s.length = 32 := by
  obtain ⟨zs, rfl, hz, hw⟩ := open_intarr Tryd.underlying30 Tryd.underlying5 cells_u8 (by kernel_rfl) hv h
  refine ⟨zs.map fun z => UInt8.ofNat z.toNat, ?_, by simpa using hz⟩
  unfold hashVal
  congr 2
  rw [List.map_map]
  refine List.map_congr_left fun z hm => ?_
  have hb := bounds_u8 (hw z hm)
  show Value.int .u8 z = cellOf (UInt8.ofNat z.toNat)
  unfold cellOf
  rw [UInt8.toNat_ofNat']
  congr 1
  omega
set_option maxRecDepth 100000 in
/-- 'alive'. -/
theorem alive5 (w : World) : Calls Tryd.prog 6 #[] w fun e w' => e = .returned (.bool true) ∧ Below w.heap.size w w' := by
  have h : Calls Tryd.prog 14 #[.string { data := #[120] }, .slice none 0 0, .int .i64 32] w (GivesOk w (infoL [120] [] 32) 17) :=
    info_any none 0 0 1 32 [120] [] w rfl (by omega) rfl .nil (fun _ => rfl) (Nat.le_refl _) (Nat.zero_le _) (by omega) (by omega)
  rw [infoL_x] at h
  have HI := Lib.hid h
  clear h
  go_enter Tryd.func6, Tryd.ntmps6
  go_wp2_with fail
  refine HI.out.mono ?_
  rintro e w1 ⟨A1, c1, rfl, a1, a2, a3, a4, hb1⟩
  have hcv : ∀ w', Below w1.heap.size w1 w' → (convert 22 9 (.slice A1 17 c1)).run Tryd.prog w' = .ok (.string { data := #[0, 32, 12, 102, 101, 108, 108, 111, 119, 115, 104, 105, 112, 32, 120, 0, 0] }) w' := conv_n rfl a4 c1
  have hcv1 := hcv w1 (Below.refl _ _)
  clear hcv a4
  go_wp2
  go_ret
  exact ⟨rfl, hb1⟩
end Go.Proofs.YtmhelmmonkgmmaaDoor
