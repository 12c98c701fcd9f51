/- Part 28 of what the laws of this seat share: WOpen, WOpen2, WOpen3, WKey, ULaw. -/
import Derived.Deep.Matrix
import Derived.Deep.Strs
import Derived.Deep.WholeRow
import Derived.Lib.LaidTab
import Derived.Test.YtagjbdhelfickaaDoorPart27
namespace Go.Proofs.YtagjbdhelfickaaDoor
open Go.ChangeShapes Go.WideShapes Go.ChangeAt Go.RowKit
theorem cells_u8 : Tryd.prog.cellsOf 5 = 1 := by kernel_rfl
/-- The errors as the program's text lays them. -/
def errTexts : List (String × List UInt8) := [("fellowship/api.ErrRange", [102, 101, 108, 108, 111, 119, 115, 104, 105, 112, 58, 32, 114, 97, 110, 103, 101]), ("fellowship/api.ErrShort", [102, 101, 108, 108, 111, 119, 115, 104, 105, 112, 58, 32, 115, 104, 111, 114, 116]), ("fellowship/api.ErrLong", [102, 101, 108, 108, 111, 119, 115, 104, 105, 112, 58, 32, 108, 111, 110, 103]), ("fellowship/api.ErrForm", [102, 101, 108, 108, 111, 119, 115, 104, 105, 112, 58, 32, 102, 111, 114, 109]), ("fellowship/api.ErrKey", [102, 101, 108, 108, 111, 119, 115, 104, 105, 112, 58, 32, 107, 101, 121]), ("fellowship/api.ErrSign", [102, 101, 108, 108, 111, 119, 115, 104, 105, 112, 58, 32, 115, 105, 103, 110]), ("fellowship/api.ErrSeal", [102, 101, 108, 108, 111, 119, 115, 104, 105, 112, 58, 32, 115, 101, 97, 108]), ("fellowship/api.ErrEpoch", [102, 101, 108, 108, 111, 119, 115, 104, 105, 112, 58, 32, 101, 112, 111, 99, 104]), ("fellowship/api.ErrGroup", [102, 101, 108, 108, 111, 119, 115, 104, 105, 112, 58, 32, 103, 114, 111, 117, 112]), ("fellowship/api.ErrSender", [102, 101, 108, 108, 111, 119, 115, 104, 105, 112, 58, 32, 115, 101, 110, 100, 101, 114]), ("fellowship/api.ErrLeaf", [102, 101, 108, 108, 111, 119, 115, 104, 105, 112, 58, 32, 108, 101, 97, 102]), ("fellowship/api.ErrOffer", [102, 101, 108, 108, 111, 119, 115, 104, 105, 112, 58, 32, 111, 102, 102, 101, 114]), ("fellowship/api.ErrPath", [102, 101, 108, 108, 111, 119, 115, 104, 105, 112, 58, 32, 112, 97, 116, 104]), ("fellowship/api.ErrTag", [102, 101, 108, 108, 111, 119, 115, 104, 105, 112, 58, 32, 116, 97, 103]), ("fellowship/api.ErrNone", [102, 101, 108, 108, 111, 119, 115, 104, 105, 112, 58, 32, 110, 111, 110, 101]), ("fellowship/api.ErrRemoved", [102, 101, 108, 108, 111, 119, 115, 104, 105, 112, 58, 32, 114, 101, 109, 111, 118, 101, 100]), ("fellowship/api.ErrFull", [102, 101, 108, 108, 111, 119, 115, 104, 105, 112, 58, 32, 102, 117, 108, 108]), ("fellowship/api.ErrState", [102, 101, 108, 108, 111, 119, 115, 104, 105, 112, 58, 32, 115, 116, 97, 116, 101]), ("fellowship/api.ErrTwice", [102, 101, 108, 108, 111, 119, 115, 104, 105, 112, 58, 32, 116, 119, 105, 99, 101])]
end Go.Proofs.YtagjbdhelfickaaDoor
namespace Go.Proofs.YtagjbdhelfickaaDoor
open Go.ChangeShapes Go.WideShapes Go.ChangeAt Go.RowKit
/-- A list of laid variables in two parts. -/
theorem laid_split {W : World} : ∀ (l1 l2 : List (String × DataW Unit)) (ps : List MemPlace), DataW.LaidVars Tryd.prog W (l1 ++ l2) ps → ∃ p1 p2, ps = p1 ++ p2 ∧ DataW.LaidVars Tryd.prog W l1 p1 ∧ DataW.LaidVars Tryd.prog W l2 p2
  | [], l2, ps, h => ⟨[], ps, rfl, rfl, h⟩
  | x :: l1, l2, ps, h => by
    obtain ⟨g, t, cs, f, p, q, h1, h2, h3, h4, h5, rfl⟩ := h
    obtain ⟨p1, p2, rfl, h6, h7⟩ := laid_split l1 l2 q h5
    exact ⟨_, p2, by simp only [List.append_assoc], ⟨g, t, cs, f, p, p1, h1, h2, h3, h4, h6, rfl⟩, h7⟩
theorem errs_vars {W : World} {ps : List MemPlace} (hv : DataW.LaidVars Tryd.prog W (errTexts.map fun x => (x.1, .iface "*errors.errorString" (.ptr (.agg [.lit (.string x.2)])))) ps) (hnd : ps.Nodup)
    (hrows : ∀ b off, MemPlace.cell b off ∈ ps → (∃ c t, W.heap[b]? = some (.cells c t (0, 0))) ∧ ∀ u v, W.cell? ⟨b, off, none⟩ = some (.iface u v) → Value.okWide Tryd.prog W .any 0 u v) : ∃ es, Errs W es := by
  obtain ⟨es, h1, h2, _, h4⟩ := sentinels errTexts errVars ps (by kernel_rfl) (fun g hg => by
    have hall : (errVars.all fun g => ((Tryd.prog.globals[g]?).map (·.type)) == some 33) = true := by kernel_rfl
    simpa using List.all_eq_true.1 hall g hg) hv hnd hrows
  exact ⟨es, h1, h2, h4⟩
end Go.Proofs.YtagjbdhelfickaaDoor
namespace Go.Proofs.YtagjbdhelfickaaDoor
open Go.ChangeShapes Go.WideShapes Go.ChangeAt Go.RowKit
/-- Integers that are bytes, as bytes. -/
theorem bytes_of_ints (zs : List Int) (hw : ∀ z ∈ zs, (Lit.int .u8 z).wf = true) : ∃ bs : List UInt8, zs.map (Value.int .u8) = bs.map cellOf ∧ bs.length = zs.length := by
  refine ⟨zs.map fun z => UInt8.ofNat z.toNat, ?_, by simp⟩
  rw [List.map_map]
  refine List.map_congr_left fun z hm => ?_
  have hb := bounds_u8 (hw z hm)
  show Value.int .u8 z = cellOf (UInt8.ofNat z.toNat)
  unfold cellOf
  rw [UInt8.toNat_ofNat']
  congr 1
  omega
end Go.Proofs.YtagjbdhelfickaaDoor
namespace Go.Proofs.YtagjbdhelfickaaDoor
open Go.ChangeShapes Go.WideShapes Go.ChangeAt Go.RowKit
set_option maxRecDepth 100000 in
/-- An array of 32 bytes, a key, that comes in by value. -/
theorem open_key {H : Type} {enc : TypeId × Value → H} {W : World} {r : Reach} {b0 : Nat} {v : Value} {d : DataW H} {p : List MemPlace} (hv : Value.okWide Tryd.prog W r b0 23 v) (h : DataW.Trod enc Tryd.prog W 0 (fun _ => true) true 23 v d p) : ∃ s : List UInt8, v = hashVal s ∧ s.length = 32 := by
  obtain ⟨zs, rfl, hz, hw⟩ := open_intarr Tryd.underlying23 Tryd.underlying5 cells_u8 (by kernel_rfl) hv h
  obtain ⟨bs, h1, h2⟩ := bytes_of_ints zs hw
  exact ⟨bs, by unfold hashVal; rw [h1], by omega⟩
end Go.Proofs.YtagjbdhelfickaaDoor
namespace Go.Proofs.YtagjbdhelfickaaDoor
open Go.ChangeShapes Go.WideShapes Go.ChangeAt Go.RowKit
theorem uturn_tab {H : Type} : (Rows.laid_fellowship_field_turn (H := H)) = Lib.tabData .u64 ((limb5 ttN).map fun n : Nat => (n : Int)) := by kernel_rfl
theorem ucurve_tab {H : Type} : (Rows.laid_fellowship_field_curve (H := H)) = Lib.tabData .u64 ((limb5 dNat).map fun n : Nat => (n : Int)) := by kernel_rfl
theorem ubaseX_tab {H : Type} : (Rows.laid_fellowship_field_baseX (H := H)) = Lib.tabData .u64 ((limb5 baseXN).map fun n : Nat => (n : Int)) := by kernel_rfl
theorem ubaseY_tab {H : Type} : (Rows.laid_fellowship_field_baseY (H := H)) = Lib.tabData .u64 ((limb5 baseYN).map fun n : Nat => (n : Int)) := by kernel_rfl
theorem ucells_are (l : List Nat) : ((l.map fun n : Nat => (n : Int)).map fun z => Value.int .u64 z) = l.map ncell := by
  rw [List.map_map]; rfl
theorem utab_is {W : World} {name : String} {g : Nat} {fuel : Nat} {l : List Nat} {cs : Array Value} {p : List MemPlace} (hg : Tryd.prog.globalNamed name = some g) (hv : W.var? Tryd.prog name = some cs)
    (hd : DataW.trod (H := Unit) (fun _ => ()) Tryd.prog W 0 (fun _ => true) false fuel 27 cs.toList = some (Lib.tabData .u64 (l.map fun n : Nat => (n : Int)), p)) : Tab W g (l.map ncell) := by
  have c2 := Lib.cells_of_tab Tryd.underlying27 Tryd.underlying25 (by kernel_rfl) (by kernel_rfl) hd
  rw [ucells_are] at c2
  have e : cs = (l.map ncell).toArray := by rw [← c2]
  rw [e] at hv
  exact Tab.of_var hg hv
theorem fields_of {W : World} {ps : List MemPlace} (hv : DataW.LaidVars Tryd.prog W [("fellowship/field.curve", Rows.laid_fellowship_field_curve), ("fellowship/field.baseX", Rows.laid_fellowship_field_baseX), ("fellowship/field.baseY", Rows.laid_fellowship_field_baseY), ("fellowship/field.turn", Rows.laid_fellowship_field_turn)] ps) :
    Tab W 19 ((limb5 dNat).map ncell) ∧ Tab W 20 ((limb5 baseXN).map ncell) ∧ Tab W 21 ((limb5 baseYN).map ncell) ∧ Tab W 22 ((limb5 ttN).map ncell) := by
  obtain ⟨g2, t2, cs2, f2, p2, q2, hg2, ht2, hv2, hd2, hq2, rfl⟩ := hv
  obtain ⟨g3, t3, cs3, f3, p3, q3, hg3, ht3, hv3, hd3, hq3, rfl⟩ := hq2
  obtain ⟨g4, t4, cs4, f4, p4, q4, hg4, ht4, hv4, hd4, hq4, rfl⟩ := hq3
  obtain ⟨g5, t5, cs5, f5, p5, q5, hg5, ht5, hv5, hd5, hq5, rfl⟩ := hq4
  obtain rfl : 19 = g2 := Option.some.inj ((show Tryd.prog.globalNamed "fellowship/field.curve" = some 19 by kernel_rfl).symm.trans hg2)
  obtain rfl : 20 = g3 := Option.some.inj ((show Tryd.prog.globalNamed "fellowship/field.baseX" = some 20 by kernel_rfl).symm.trans hg3)
  obtain rfl : 21 = g4 := Option.some.inj ((show Tryd.prog.globalNamed "fellowship/field.baseY" = some 21 by kernel_rfl).symm.trans hg4)
  obtain rfl : 22 = g5 := Option.some.inj ((show Tryd.prog.globalNamed "fellowship/field.turn" = some 22 by kernel_rfl).symm.trans hg5)
  obtain rfl : 27 = t2 := Option.some.inj ((show (Tryd.prog.globals[19]?).map (·.type) = some 27 by kernel_rfl).symm.trans ht2)
  obtain rfl : 27 = t3 := Option.some.inj ((show (Tryd.prog.globals[20]?).map (·.type) = some 27 by kernel_rfl).symm.trans ht3)
  obtain rfl : 27 = t4 := Option.some.inj ((show (Tryd.prog.globals[21]?).map (·.type) = some 27 by kernel_rfl).symm.trans ht4)
  obtain rfl : 27 = t5 := Option.some.inj ((show (Tryd.prog.globals[22]?).map (·.type) = some 27 by kernel_rfl).symm.trans ht5)
  rw [ucurve_tab] at hd2
  rw [ubaseX_tab] at hd3
  rw [ubaseY_tab] at hd4
  rw [uturn_tab] at hd5
  exact ⟨utab_is hg2 hv2 hd2, utab_is hg3 hv3 hd3, utab_is hg4 hv4 hd4, utab_is hg5 hv5 hd5⟩
theorem tabsU_of {W : World} (h : laidMetH Tryd.prog (([errTexts[0]!, errTexts[2]!, errTexts[3]!].map fun x => (x.1, .iface "*errors.errorString" (.ptr (.agg [.lit (.string x.2)])))) ++ [("fellowship/field.curve", Rows.laid_fellowship_field_curve), ("fellowship/field.baseX", Rows.laid_fellowship_field_baseX), ("fellowship/field.baseY", Rows.laid_fellowship_field_baseY), ("fellowship/field.turn", Rows.laid_fellowship_field_turn)]) W) : ∃ a, TabsU (errAt a) W := by
  rw [MakeChecks.laidMetH_plain _ _ _ (by kernel_rfl)] at h
  obtain ⟨ps, hv, hnd, hrows⟩ := h
  obtain ⟨p1, p2, rfl, hv1, hv2⟩ := laid_split _ _ _ hv
  obtain ⟨c1, c2, c3, c4⟩ := fields_of hv2
  obtain ⟨es, h1, _, _, h4⟩ := sentinels [errTexts[0]!, errTexts[2]!, errTexts[3]!] [1, 3, 0] p1 (by kernel_rfl) (fun g hg => by
    have hall : ([1, 3, 0].all fun g => ((Tryd.prog.globals[g]?).map (·.type)) == some 33) = true := by kernel_rfl
    simpa using List.all_eq_true.1 hall g hg) hv1 (List.nodup_append.1 hnd).1 (fun b off hm => hrows b off (List.mem_append_left _ hm))
  match es, h1 with
  | [_, _, a], _ => exact ⟨a, c1, c2, c3, c4, (h4 2 _ a rfl rfl).1⟩
theorem tabsUE_of {W : World} (h : laidMetH Tryd.prog ((errTexts.map fun x => (x.1, .iface "*errors.errorString" (.ptr (.agg [.lit (.string x.2)])))) ++ [("fellowship/field.curve", Rows.laid_fellowship_field_curve), ("fellowship/field.baseX", Rows.laid_fellowship_field_baseX), ("fellowship/field.baseY", Rows.laid_fellowship_field_baseY), ("fellowship/field.turn", Rows.laid_fellowship_field_turn)]) W) : ∃ es a, Errs W es ∧ es[3]? = some a ∧ TabsU (errAt a) W := by
  rw [MakeChecks.laidMetH_plain _ _ _ (by kernel_rfl)] at h
  obtain ⟨ps, hv, hnd, hrows⟩ := h
  obtain ⟨p1, p2, rfl, hv1, hv2⟩ := laid_split _ _ _ hv
  obtain ⟨c1, c2, c3, c4⟩ := fields_of hv2
  obtain ⟨es, hE⟩ := errs_vars hv1 (List.nodup_append.1 hnd).1 (fun b off hm => hrows b off (List.mem_append_left _ hm))
  obtain ⟨a, ha, hc⟩ := hE.var 3 (g := 0) rfl
  exact ⟨es, a, hE, ha, c1, c2, c3, c4, hc⟩
theorem ukey_neq (ds es : List UInt8) (hd : ds.length = 32) (he : es.length = 32) (w : World) : (binOp .neq 23 (hashVal ds) (hashVal es)).run Tryd.prog w = .ok (.bool (!(ds == es))) w := by
  have h := run_equalIn_bytes (P := Tryd.prog) w 9998 23 5 32 Tryd.underlying23 Tryd.underlying5 (fun w => by
    obtain ⟨i0, hi0, hs0⟩ := Option.map_eq_some_iff.1 size_u8
    simp [sizeOf, typeInfo, hi0, hs0]) ds es hd he
  have h2 := run_neq_struct (P := Tryd.prog) w 23 (ds.map cellOf).toArray (es.map cellOf).toArray
  unfold hashVal
  rw [h2]
  have h3 : (Op.equalIn 10000 23 (.agg (ds.map cellOf).toArray) (.agg (es.map cellOf).toArray)).run Tryd.prog w = .ok (ds == es) w := h
  rw [h3]
  rfl
theorem strictU_any (b : List UInt8) (E : Value) (w : World) (hb : b.length = 32) (hE : w.cell? ⟨0, 0, none⟩ = some E) (own : Bool) (ho : (keyB (keyN b) == b) = own) :
    Calls Tryd.prog 28 #[hashVal b] w fun e w' => e = .returned (.tuple #[elV (if own then keyN b else 0), if own then .nilIface else E]) ∧ Below w.heap.size w w' := by
  refine strict_over b (keyB (keyN b)) (limb5 (keyN b)) (limb5 0) (limb5 (if own then keyN b else 0)) E (if own then .nilIface else E) (!own) w hb rfl rfl (fun V => readE_any b V hb) (fun V => bytesE_any _ V (keyN_lt b)) (fun V => by rw [← ho]; exact ukey_neq _ _ (keyB_length _) hb V) build_none (fun h => ?_) (fun h => ?_) hE
  · cases own
    · cases h
    · exact ⟨rfl, rfl⟩
  · cases own
    · exact ⟨rfl, rfl⟩
    · cases h
theorem and_top (q : UInt8) : bits .and .u8 (q.toNat : Int) 128 = bif decide (128 ≤ q.toNat) then 128 else 0 := by
  have key : ∀ n : Fin 256, bits .and .u8 ((n.val : Nat) : Int) 128 = bif decide (128 ≤ n.val) then 128 else 0 := by decide +kernel
  exact key ⟨q.toNat, q.toNat_lt⟩
theorem less_top (q : UInt8) : bits .andNot .u8 (q.toNat : Int) 128 = ((q % 128).toNat : Int) := by
  have key : ∀ n : Fin 256, bits .andNot .u8 ((n.val : Nat) : Int) 128 = ((n.val % 128 : Nat) : Int) := by decide +kernel
  rw [UInt8.toNat_mod]
  exact key ⟨q.toNat, q.toNat_lt⟩
/-- Bytes without their highest bit: their number, and whether they are its own bytes. -/
theorem cut_top (b : List UInt8) (hb : b.length = 32) : keyN (b.set 31 (b.getD 31 0 % 128)) = readY b % pp ∧ (keyB (keyN (b.set 31 (b.getD 31 0 % 128))) == b.set 31 (b.getD 31 0 % 128)) = decide (readY b < pp) := by
  have h2 := (lev_top b hb).2
  have hl : (b.set 31 (b.getD 31 0 % 128)).length = 32 := by rw [List.length_set, hb]
  have e : keyN (b.set 31 (b.getD 31 0 % 128)) = readY b % pp := by
    rw [keyN, show lev (b.set 31 (b.getD 31 0 % 128)) = readY b from rfl, Nat.mod_eq_of_lt h2]
  refine ⟨e, ?_⟩
  rw [e]
  by_cases h : readY b < pp
  · rw [decide_eq_true h, Nat.mod_eq_of_lt h, beq_iff_eq]
    refine lev_same _ _ (by rw [keyB_length, hl]) ?_
    rw [keyB, lev_putL, Nat.mod_eq_of_lt (Nat.lt_trans h (by decide +kernel))]
    rfl
  · rw [decide_eq_false h, beq_eq_false_iff_ne]
    intro h3
    have h4 := congrArg lev h3
    have h5 : readY b % pp < pp := Nat.mod_lt _ (by decide)
    rw [keyB, lev_putL, Nat.mod_eq_of_lt (Nat.lt_trans h5 (by decide +kernel)), show lev (b.set 31 (b.getD 31 0 % 128)) = readY b from rfl] at h4
    exact h (by rw [← h4]; exact h5)
theorem byte31 (b : List UInt8) (hb : b.length = 32) : (b.map cellOf)[31]? = some (cellOf (b.getD 31 0)) := by
  rw [List.getElem?_map, List.getD_eq_getElem?_getD, List.getElem?_eq_getElem (by omega)]
  rfl
theorem uread_cases (ok od xz : Bool) (x xn y : Nat) (g : Bool) (a : Addr) (hg : g = (ok && !(od && xz))) (T : Tri) (hT : T = bif g then (bif od then xn else x, y, 1) else (0, 0, 0)) :
    (ok = false → triU T = triU (0, 0, 0) ∧ (bif g then Value.nilIface else errAt a) = errAt a) ∧ (ok = true → od = false → triU T = triU (x, y, 1) ∧ (bif g then Value.nilIface else errAt a) = .nilIface) ∧
    (ok = true → od = true → xz = true → triU T = triU (0, 0, 0) ∧ (bif g then Value.nilIface else errAt a) = errAt a) ∧ (ok = true → od = true → xz = false → triU T = triU (xn, y, 1) ∧ (bif g then Value.nilIface else errAt a) = .nilIface) := by
  subst hT
  cases ok <;> cases od <;> cases xz <;> subst hg <;> refine ⟨?_, ?_, ?_, ?_⟩ <;> intros <;> first | contradiction | exact ⟨rfl, rfl⟩
theorem uread_num (a : Addr) (b kc : List UInt8) (q v : UInt8) (y x xn : Nat) (ok od xz g : Bool) (T : Tri) (w : World) (hb : b.length = 32) (hl : kc.length = 32) (hq : (b.map cellOf)[31]? = some (cellOf q)) (h1 : bits .and .u8 (q.toNat : Int) 128 = bif od then 128 else 0) (h2 : bits .andNot .u8 (q.toNat : Int) 128 = (v.toNat : Int)) (hk : kc = b.set 31 v)
    (CS : ∀ W, TabsU (errAt a) W → Calls Tryd.prog 28 #[hashVal kc] W fun e w' => e = .returned (.tuple #[numVal (limb5 y), .nilIface]) ∧ Below W.heap.size W w')
    (CX : ∀ W, TabsU (errAt a) W → Calls Tryd.prog 29 #[numVal (limb5 y)] W fun e w' => e = .returned (.tuple #[numVal (limb5 x), .bool ok]) ∧ Below W.heap.size W w')
    (CZ : ∀ W, Calls Tryd.prog 30 #[numVal (limb5 x)] W fun e w' => e = .returned (.bool xz) ∧ Below W.heap.size W w')
    (CN : ∀ W, Calls Tryd.prog 14 #[numVal (triU (x, y, 1))] W fun e w' => e = .returned (numVal (triU (xn, y, 1))) ∧ Below W.heap.size W w')
    (hg : g = (ok && !(od && xz))) (hT : T = bif g then (bif od then xn else x, y, 1) else (0, 0, 0)) (hS : TabsU (errAt a) w) :
    Calls Tryd.prog 9 #[hashVal b] w fun e w' => e = .returned (.tuple #[numVal (triU T), bif g then .nilIface else errAt a]) ∧ Below w.heap.size w w' := by
  obtain ⟨c1, c2, c3, c4⟩ := uread_cases ok od xz x xn y g a hg T hT
  exact uread_over (limb5 y) (triU (0, 0, 0)) (limb5 x) (triU (x, y, 1)) (triU (xn, y, 1)) b kc q v od ok xz a (triU T) (bif g then .nilIface else errAt a) w
    rfl rfl rfl rfl rfl hb hl hq h1 h2 hk CS build_up0 CX CZ (fun W => uat_any x y W) CN c1 c2 c3 c4 hS hS.2.2.2.2
theorem uread_any (a : Addr) (b : List UInt8) (w : World) (hb : b.length = 32) (hS : TabsU (errAt a) w) : Calls Tryd.prog 9 #[hashVal b] w fun e w' => e = .returned (.tuple #[numVal (triU (readT b)), bif readGood b then .nilIface else errAt a]) ∧ Below w.heap.size w w' := by
  obtain ⟨e1, e2⟩ := cut_top b hb
  have hl : (b.set 31 (b.getD 31 0 % 128)).length = 32 := by rw [List.length_set, hb]
  have hT : readT b = bif readGood b then (bif readO b then fS 0 (readX b) else readX b, readY b, 1) else (0, 0, 0) := rfl
  have hq := byte31 b hb
  have ho : bits .and .u8 ((b.getD 31 0).toNat : Int) 128 = bif readO b then 128 else 0 := and_top _
  by_cases h : readY b < pp
  · rw [decide_eq_true h] at e2
    rw [Nat.mod_eq_of_lt h] at e1
    have hG : readGood b = (isSN (ratN (readY b)) && !(readO b && decide (readX b = 0))) := by rw [readGood, decide_eq_true h, Bool.true_and]
    have CS : ∀ W, TabsU (errAt a) W → Calls Tryd.prog 28 #[hashVal (b.set 31 (b.getD 31 0 % 128))] W fun e w' => e = .returned (.tuple #[numVal (limb5 (readY b)), .nilIface]) ∧ Below W.heap.size W w' := fun W hW => by
      have hs := strictU_any (b.set 31 (b.getD 31 0 % 128)) (errAt a) W hl hW.2.2.2.2 true e2
      rw [e1] at hs
      exact hs
    have CX : ∀ W, TabsU (errAt a) W → Calls Tryd.prog 29 #[numVal (limb5 (readY b))] W fun e w' => e = .returned (.tuple #[numVal (limb5 (rootN (ratN (readY b)))), .bool (isSN (ratN (readY b)))]) ∧ Below W.heap.size W w' := fun W hW => ueven_any (errAt a) (readY b) W h hW
    have hx : readX b < pp := rootN_lt _
    rw [show rootN (ratN (readY b)) = readX b from rfl] at CX
    have CZ := fun W => zeroE_any (readX b) W hx
    have hy := h
    clear e1 e2 h
    generalize readT b = T at *
    generalize isSN (ratN (readY b)) = ok at *
    generalize hxn : fS 0 (readX b) = xn at *
    generalize decide (readX b = 0) = xz at *
    generalize readX b = x at *
    generalize readY b = y at *
    generalize readO b = od at *
    generalize readGood b = g at *
    have CN : ∀ W, Calls Tryd.prog 14 #[numVal (triU (x, y, 1))] W fun e w' => e = .returned (numVal (triU (xn, y, 1))) ∧ Below W.heap.size W w' := fun W => by
      have hn := uneg_any (x, y, 1) W (And.intro hx (And.intro hy one_pp))
      rw [show negT (x, y, 1) = (xn, y, 1) from by rw [← hxn]; rfl] at hn
      exact hn
    exact uread_num a b _ _ _ y x xn ok od xz g T w hb hl hq ho (less_top _) rfl CS CX CZ CN hG hT hS
  · rw [decide_eq_false h] at e2
    have hG : readGood b = false := by rw [readGood, decide_eq_false h, Bool.false_and, Bool.false_and]
    rw [hT, hG]
    have CS : ∀ W, TabsU (errAt a) W → Calls Tryd.prog 28 #[hashVal (b.set 31 (b.getD 31 0 % 128))] W fun e w' => e = .returned (.tuple #[numVal (limb5 0), errAt a]) ∧ Below W.heap.size W w' := fun W hW => strictU_any (b.set 31 (b.getD 31 0 % 128)) (errAt a) W hl hW.2.2.2.2 false e2
    exact ureadBad_over (limb5 0) (triU (0, 0, 0)) b (b.set 31 (b.getD 31 0 % 128)) (b.getD 31 0) (b.getD 31 0 % 128) (readO b) a w rfl rfl hb hl hq ho (less_top _) rfl CS build_up0 hS hS.2.2.2.2
/-- Bytes of which no more than the first four count. -/
def cutK (b : List UInt8) : Nat → List UInt8
  | 0 => b.set 31 0
  | j + 1 => if j < 4 then cutK b j else (cutK b j).set j 0
theorem cutK_length (b : List UInt8) (hb : b.length = 32) : ∀ j, (cutK b j).length = 32
  | 0 => by rw [cutK, List.length_set, hb]
  | j + 1 => by
    rw [cutK]
    split
    · exact cutK_length b hb j
    · rw [List.length_set]; exact cutK_length b hb j
/-- The point that a law takes of bytes, and both sides' numbers of it. -/
theorem some_pt (b : List UInt8) (hb : b.length = 32) : ∃ (P : NP.Pt NP.PP NP.dE) (s t : Tri), NP.RepN P s ∧ NP.RepN P t ∧ ∀ (a : Addr) (W : World), TabsU (errAt a) W → Calls Tryd.prog 16 #[hashVal b] W fun e w' => e = .returned (.tuple #[numVal (triU s), numD (triL t)]) ∧ Below W.heap.size W w' := by
  cases hg : readGood b with
  | true =>
    obtain ⟨p, h1, h2⟩ := read_good b hb hg
    have hr : NP.RepN p (readT b) := by rw [h1]; exact NP.Pt.own p
    refine ⟨p, readT b, readT b, hr, hr, fun a W hW => ?_⟩
    refine someGood_over (triU (readT b)) (triL (readT b)) b a W rfl rfl hb ?_ ?_ hW
    · intro V hV
      have h := uread_any a b V hb hV
      rw [hg] at h
      exact h
    · intro V
      have h := read12_any b V hb
      rw [hg] at h
      exact h
  | false =>
    have hl := cutK_length b hb
    have r1 := NP.timesU_rep NP.baseT_rep (cutK b 31) (hl 31)
    have r2 := NP.mulT_key NP.baseT_rep (cutK b 31) (hl 31)
    refine ⟨_, _, _, r1, r2, fun a W hW => ?_⟩
    refine someBad_over (triU (readT b)) (triU baseT) (triU (timesU baseT (cutK b 31))) (triL baseT) (triL (mulT (kbit (cutK b 31)) baseT 256)) b (cutK b) a W rfl rfl rfl hb hl ?_ ?_ ?_ (ubase_any (errAt a)) (fun V hV => utimes_any (errAt a) baseT _ V (hl 31) baseT_lt hV) base12_any (fun V => times12_any baseT _ V (hl 31) baseT_lt) hW
    · show _ = _
      rw [show cutK b 4 = b.set 31 0 from rfl, List.map_set]
      rfl
    · intro j h4 _
      rw [cutK, if_neg (by omega), List.map_set]
      rfl
    · intro V hV
      have h := uread_any a b V hb hV
      rw [hg] at h
      exact h
theorem alive12_any (E : Value) (w : World) (hS : TabsU E w) : Calls Tryd.prog 8 #[] w fun e w' => e = .returned (.bool true) ∧ Below w.heap.size w w' := by
  have at_ : ∀ (i : Nat) (v : UInt8), (bytesOf NP.bE)[i]? = some v → Hid (((bytesOf NP.bE).map cellOf)[i]? = some (cellOf v)) := fun i v h => by
    show _ = _
    rw [List.getElem?_map, h]; rfl
  refine alive12_over (triU baseT) (triU (0, 1, 1)) (bytesOf NP.bE) E w (bytesOf_length _) (at_ 0 88 (by decide +kernel)) (at_ 1 102 (by decide +kernel)) (at_ 31 102 (by decide +kernel)) (ubase_any E) (fun W => ubytes_pt NP.baseT_rep W) uzero_any ?_ hS
  intro W
  have h := usame_any baseT (0, 1, 1) W baseT_lt zeroT_lt
  rw [show sameT baseT (0, 1, 1) = false from by decide +kernel] at h
  exact h
/-- Same of numbers that stand for one point. -/
theorem usame_pt {p q : NP.Pt NP.PP NP.dE} {s t : Tri} (r1 : NP.RepN p s) (r2 : NP.RepN q t) (h : p = q) (W : World) : Calls Tryd.prog 15 #[numVal (triU s), numVal (triU t)] W fun e w' => e = .returned (.bool true) ∧ Below W.heap.size W w' := by
  have h2 := usame_any s t W r1.lt r2.lt
  rw [(NP.sameT_rep r1 r2).2 h] at h2
  exact h2
theorem ukey_self (l : List UInt8) (h : l.length = 32) (w : World) : (binOp .eql 23 (hashVal l) (hashVal l)).run Tryd.prog w = .ok (.bool true) w := by
  have h2 := key_eql l l h h w
  rw [beq_self_eq_true] at h2
  exact h2
end Go.Proofs.YtagjbdhelfickaaDoor
