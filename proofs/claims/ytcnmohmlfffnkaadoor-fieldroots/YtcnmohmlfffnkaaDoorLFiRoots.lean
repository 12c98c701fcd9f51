/- A square has a root whose square it is, the even one; of two numbers both or neither have a root just where their product has one; and the constants are the document's: the law fellowshiplaw09.FieldRoots answers true at every input. -/
import Derived.Test.YtcnmohmlfffnkaaDoorKFiRoots
import Derived.Test.YtcnmohmlfffnkaaDoorGConsts
import Derived.Test.YtcnmohmlfffnkaaDoorWKey
import Derived.Test.YtcnmohmlfffnkaaDoorWOpen2
import Derived.Test.YtcnmohmlfffnkaaDoorWOpen3
import Derived.Test.YtcnmohmlfffnkaaDoorFrame
import Derived.Lib.LaidTab
namespace Go.Proofs.YtcnmohmlfffnkaaDoor.fieldRoots
open Go.ChangeShapes Go.WideShapes Go.ChangeAt Go.RowKit
theorem turn_tab {H : Type} : (Rows.laid_fellowship_field_turn (H := H)) = Lib.tabData .u64 ((limb5 ttN).map fun n : Nat => (n : Int)) := by kernel_rfl
theorem curve_tab {H : Type} : (Rows.laid_fellowship_field_curve (H := H)) = Lib.tabData .u64 ((limb5 curveN).map fun n : Nat => (n : Int)) := by kernel_rfl
theorem baseX_tab {H : Type} : (Rows.laid_fellowship_field_baseX (H := H)) = Lib.tabData .u64 ((limb5 baseXN).map fun n : Nat => (n : Int)) := by kernel_rfl
theorem baseY_tab {H : Type} : (Rows.laid_fellowship_field_baseY (H := H)) = Lib.tabData .u64 ((limb5 baseYN).map fun n : Nat => (n : Int)) := by kernel_rfl
theorem cells_are (l : List Nat) : ((l.map fun n : Nat => (n : Int)).map fun z => Value.int .u64 z) = l.map ncell := by
  rw [List.map_map]; rfl
theorem tab_is {W : World} {name : String} {g : Nat} {fuel : Nat} {l : List Nat} {cs : Array Value} {p : List MemPlace} (hg : Tryd.prog.globalNamed name = some g) (hv : W.var? Tryd.prog name = some cs)
    (hd : DataW.trod (H := Unit) (fun _ => ()) Tryd.prog W 0 (fun _ => true) false fuel 31 cs.toList = some (Lib.tabData .u64 (l.map fun n : Nat => (n : Int)), p)) : Tab W g (l.map ncell) := by
  have c2 := Lib.cells_of_tab Tryd.underlying31 Tryd.underlying29 (by kernel_rfl) (by kernel_rfl) hd
  rw [cells_are] at c2
  have e : cs = (l.map ncell).toArray := by rw [← c2]
  rw [e] at hv
  exact Tab.of_var hg hv
theorem tabs_of9 {W : World} (h : laidMetH Tryd.prog [("fellowship/api.ErrRange", Rows.laid_fellowship_api_ErrRange), ("fellowship/api.ErrLong", Rows.laid_fellowship_api_ErrLong), ("fellowship/field.curve", Rows.laid_fellowship_field_curve), ("fellowship/field.baseX", Rows.laid_fellowship_field_baseX), ("fellowship/field.baseY", Rows.laid_fellowship_field_baseY), ("fellowship/field.turn", Rows.laid_fellowship_field_turn)] W) :
    Tab W 19 ((limb5 ttN).map ncell) ∧ Tab W 20 ((limb5 curveN).map ncell) ∧ Tab W 21 ((limb5 baseXN).map ncell) ∧ Tab W 22 ((limb5 baseYN).map ncell) := by
  rw [MakeChecks.laidMetH_plain _ _ _ (by kernel_rfl)] at h
  obtain ⟨ps, hv, _, _⟩ := h
  obtain ⟨g0, t0, cs0, f0, p0, q0, hg0, ht0, hv0, hd0, hq0, rfl⟩ := hv
  obtain ⟨g1, t1, cs1, f1, p1, q1, hg1, ht1, hv1, hd1, hq1, rfl⟩ := hq0
  obtain ⟨g2, t2, cs2, f2, p2, q2, hg2, ht2, hv2, hd2, hq2, rfl⟩ := hq1
  obtain ⟨g3, t3, cs3, f3, p3, q3, hg3, ht3, hv3, hd3, hq3, rfl⟩ := hq2
  obtain ⟨g4, t4, cs4, f4, p4, q4, hg4, ht4, hv4, hd4, hq4, rfl⟩ := hq3
  obtain ⟨g5, t5, cs5, f5, p5, q5, hg5, ht5, hv5, hd5, hq5, rfl⟩ := hq4
  obtain rfl : 20 = g2 := Option.some.inj ((show Tryd.prog.globalNamed "fellowship/field.curve" = some 20 by kernel_rfl).symm.trans hg2)
  obtain rfl : 21 = g3 := Option.some.inj ((show Tryd.prog.globalNamed "fellowship/field.baseX" = some 21 by kernel_rfl).symm.trans hg3)
  obtain rfl : 22 = g4 := Option.some.inj ((show Tryd.prog.globalNamed "fellowship/field.baseY" = some 22 by kernel_rfl).symm.trans hg4)
  obtain rfl : 19 = g5 := Option.some.inj ((show Tryd.prog.globalNamed "fellowship/field.turn" = some 19 by kernel_rfl).symm.trans hg5)
  obtain rfl : 31 = t2 := Option.some.inj ((show (Tryd.prog.globals[20]?).map (·.type) = some 31 by kernel_rfl).symm.trans ht2)
  obtain rfl : 31 = t3 := Option.some.inj ((show (Tryd.prog.globals[21]?).map (·.type) = some 31 by kernel_rfl).symm.trans ht3)
  obtain rfl : 31 = t4 := Option.some.inj ((show (Tryd.prog.globals[22]?).map (·.type) = some 31 by kernel_rfl).symm.trans ht4)
  obtain rfl : 31 = t5 := Option.some.inj ((show (Tryd.prog.globals[19]?).map (·.type) = some 31 by kernel_rfl).symm.trans ht5)
  rw [curve_tab] at hd2
  rw [baseX_tab] at hd3
  rw [baseY_tab] at hd4
  rw [turn_tab] at hd5
  exact ⟨tab_is hg5 hv5 hd5, tab_is hg2 hv2 hd2, tab_is hg3 hv3 hd3, tab_is hg4 hv4 hd4⟩
theorem evenN_lt {r : Nat} (hr : r < pp) : evenN r < pp := by
  rw [evenN]
  split
  · exact Nat.mod_lt _ (by decide)
  · exact hr
theorem less_odd (r : Nat) (h : r % 2 = 1) : (pp - r) % pp = pp - r := Nat.mod_eq_of_lt (by simp only [pp]; omega)
theorem evenN_even (r : Nat) (hr : r < pp) : evenN r % 2 = 0 := by
  rw [evenN]
  split
  · rename_i h
    rw [less_odd r h]
    simp only [pp] at *
    omega
  · omega
theorem square_less (P r : Nat) (hr : r ≤ P) : (P - r) * (P - r) % P = r * r % P := by
  rw [NP.cg]
  rw [Int.natCast_mul, Int.natCast_mul, Int.natCast_sub hr]
  exact ⟨(P : Int) - 2 * r, by grind⟩
theorem evenN_square (r : Nat) (hr : r < pp) : evenN r * evenN r % pp = r * r % pp := by
  rw [evenN]
  split
  · rename_i h
    rw [less_odd r h]
    exact square_less pp r (Nat.le_of_lt hr)
  · rfl
theorem rootN_square {n : Nat} (h : isSN n = true) : rootN n * rootN n % pp = n := by
  rw [rootN, if_pos h, evenN_square _ (rtN_lt n)]
  rw [isSN] at h
  exact of_decide_eq_true h
theorem rootN_even (n : Nat) : rootN n % 2 = 0 := by
  rw [rootN]
  split
  · exact evenN_even _ (rtN_lt n)
  · rfl
theorem has_root (x : Nat) (hx : x < pp) : isSN (x * x % pp) = true := by
  obtain ⟨k, hk⟩ : ∃ k, k + 1 = 7237005577332262213973186563042994240829374041602535252466099000494570602494 := ⟨7237005577332262213973186563042994240829374041602535252466099000494570602493, by decide⟩
  have hp : pp = 8 * k + 5 := by simp only [pp]; omega
  rw [isSN_is k hk]
  exact NP.isS_square NP.pr_P hp turn_divides hx
theorem both_roots (x y : Nat) (hx : x < pp) (hy : y < pp) (h1 : x ≠ 0) (h2 : y ≠ 0) : isSN (x * y % pp) = (isSN x == isSN y) := by
  obtain ⟨k, hk⟩ : ∃ k, k + 1 = 7237005577332262213973186563042994240829374041602535252466099000494570602494 := ⟨7237005577332262213973186563042994240829374041602535252466099000494570602493, by decide⟩
  have hp : pp = 8 * k + 5 := by simp only [pp]; omega
  rw [isSN_is k hk, isSN_is k hk, isSN_is k hk]
  exact NP.isS_mul NP.pr_P hp turn_divides hx hy h1 h2

set_option maxRecDepth 100000 in
theorem contract (H : Type) (enc : TypeId × Value → H) (W : World) (base : Nat) (args : Array Value) (ds gs : List (DataW H)) (before : List MemPlace)
    (hval : ∀ (j : Nat) t v, Tryd.f7.params[j]? = some t → args[j]? = some v → Value.okWide Tryd.prog W .any base t v)
    (hW : DataW.Whole enc Tryd.prog Tryd.f7.params.toList Rows.fieldRootsSpec.vars false W args.toList ds gs before) (hL : laidMetH Tryd.prog Rows.fieldRootsRow.laid W) :
    Calls Tryd.prog 7 args W fun e W' => ∃ v, e = .returned v ∧ Rows.fieldRootsSpec.post enc Tryd.prog Tryd.f7 false true false false W args v W' := by
  have hW' := hW
  obtain ⟨p, q, hA0, hV, rfl, hfz, hnd⟩ := hW
  have hA : DataW.TrodAll enc Tryd.prog W 0 (fun _ => true) true Tryd.f7.params.toList args.toList ds p := hA0
  rw [Tryd.params7] at hA hval
  obtain ⟨v0, vs0, d0, ds0, p0, q0, hargs, rfl, rfl, h0, r0⟩ := trodAll_cons hA
  obtain ⟨v1, vs1, d1, ds1, p1, q1, rfl, rfl, rfl, h1, r1⟩ := trodAll_cons r0
  obtain ⟨v2, vs2, d2, ds2, p2, q2, rfl, rfl, rfl, h2, r2⟩ := trodAll_cons r1
  obtain ⟨rfl, rfl, rfl⟩ := trodAll_nil r2
  obtain rfl : args = #[v0, v1, v2] := by cases args; simp_all
  have fin : ∀ W' : World, Below W.heap.size W W' → ∃ v, Ending.returned (.bool true) = .returned v ∧ Rows.fieldRootsSpec.post enc Tryd.prog Tryd.f7 false true false false W #[v0, v1, v2] v W' := fun W' hb =>
    ⟨_, rfl, law_post laidOut Tryd.underlying4 (by kernel_rfl) (by kernel_rfl) rfl ⟨rfl, rfl, rfl⟩ hW' hb⟩
  obtain ⟨a, rfl, ha⟩ := open_key (hval 0 23 v0 rfl rfl) h0
  obtain ⟨b, rfl, hb⟩ := open_key (hval 1 23 v1 rfl rfl) h1
  obtain ⟨yes, rfl, rfl, rfl⟩ := open_bool Tryd.underlying4 (hval 2 4 v2 rfl rfl) h2
  obtain ⟨hT, hTC, hTX, hTY⟩ := tabs_of9 hL
  have hx := keyN_lt a
  have hy := keyN_lt b
  have rx : ∀ V, Calls Tryd.prog 10 #[hashVal a] V fun e w' => e = .returned (elV (keyN a)) ∧ Below V.heap.size V w' := fun V => readE_any a V ha
  have ry : ∀ V, Calls Tryd.prog 10 #[hashVal b] V fun e w' => e = .returned (elV (keyN b)) ∧ Below V.heap.size V w' := fun V => readE_any b V hb
  generalize keyN a = x at *
  generalize keyN b = y at *
  have hm : ∀ n : Nat, n % pp < pp := fun n => Nat.mod_lt _ (by decide)
  have sm : ∀ n : Nat, n < pp → ∀ V, Calls Tryd.prog 13 #[elV n, numD (nD n)] V fun e w' => e = .returned (.bool true) ∧ Below V.heap.size V w' := fun n hn V => same9_any n V hn
  have st : ∀ n m : Nat, n = m → n < pp → m < pp → ∀ V, Calls Tryd.prog 26 #[elV n, elV m] V fun e w' => e = .returned (.bool true) ∧ Below V.heap.size V w' := fun n m h hn hm V => by have h2 := same_any n m V hn hm; rw [decide_eq_true h] at h2; exact h2
  have rt : ∀ n : Nat, n < pp → ∀ V, Tab V 19 ((limb5 ttN).map ncell) → Calls Tryd.prog 29 #[elV n] V fun e w' => e = .returned (.tuple #[elV (rootN n), .bool (isSN n)]) ∧ Below V.heap.size V w' := fun n hn V hV => rootE_any n V hn hV
  have hsq := has_root x hx
  have r2 : rootN (x * x % pp) * rootN (x * x % pp) % pp = x * x % pp := rootN_square hsq
  have hrl := rootN_lt (x * x % pp)
  have rsq : ∀ V, Tab V 19 ((limb5 ttN).map ncell) → Calls Tryd.prog 29 #[elV (x * x % pp)] V fun e w' => e = .returned (.tuple #[elV (rootN (x * x % pp)), .bool true]) ∧ Below V.heap.size V w' := fun V hV => by have h := rt (x * x % pp) (hm _) V hV; rw [hsq] at h; exact h
  have hev := rootN_even (x * x % pp)
  have hsame : rootN (x * x % pp) = x ∨ (rootN (x * x % pp) + x) % pp = 0 := NP.same_square NP.pr_P hrl hx r2
  generalize rootN (x * x % pp) = r at *
  refine (walk_over a b (limb5 x) (limb5 y) (limb5 (x * x % pp)) (limb5 r) (limb5 (r * r % pp)) (limb5 ((r + x) % pp)) (limb5 (rootN x)) (limb5 (rootN y)) (limb5 (x * y % pp)) (limb5 (rootN (x * y % pp))) (limb5 (if yes then x else y)) (limb5 curveN) (nD curveN) (limb5 baseXN) (nD baseXN) (limb5 baseYN) (nD baseYN) (limb5 ttN) (limb5 curveN) (limb5 baseXN) (limb5 baseYN)
    (decide (r = x)) (isSN x) (isSN y) (isSN (x * y % pp)) (decide (x = 0)) (decide (y = 0)) yes W ha hb rfl rfl rfl rfl rfl rfl rfl
    rx ry (fun V => eSquare_any x V hx) rsq (fun V => eSquare_any r V hrl) (st _ _ r2 (hm _) (hm _)) (fun V => by have h := odd_any r V; rw [decide_eq_false (show ¬ r % 2 = 1 by omega)] at h; exact h) (fun V => same_any r x V hrl hx) (fun V => eAdd_any r x V hrl hx)
    (fun h V => by have h2 := zeroE_any ((r + x) % pp) V (hm _); rw [decide_eq_true (hsame.resolve_left (of_decide_eq_false h))] at h2; exact h2) (rt x hx) (rt y hy) (fun V => eTimes_any x y V hx hy) (rt _ (hm _)) (fun V => zeroE_any x V hx) (fun V => zeroE_any y V hy)
    (fun h1 h2 => both_roots x y hx hy (of_decide_eq_false h1) (of_decide_eq_false h2)) (fun V => pickE_any yes x y V) (fun h => st _ _ (by rw [h]; rfl) (by cases yes <;> assumption) hx) (fun h => st _ _ (by rw [h]; rfl) (by cases yes <;> assumption) hy)
    refConstants_any (fun V hV => curveE_any _ V rfl hV (build_elV _)) (fun V hV => baseXE_any _ V rfl hV (build_elV _)) (fun V hV => baseYE_any _ V rfl hV (build_elV _)) refCurve_any refBaseX_any refBaseY_any (sm _ (by decide)) (sm _ (by decide)) (sm _ (by decide)) hT hTC hTX hTY).mono fun e W' ⟨he, hbl⟩ => ?_
  subst he
  exact fin W' hbl

theorem laid_met (os : Os) (args : Array Value) : laidMetH Tryd.prog Rows.fieldRootsRow.laid ((World.doorLaid Tryd.prog 400 os).forCall (fun _ _ => 0) ⟨#[], args, []⟩).memory :=
  laidMetH_of_parts3 (fuel := 8) (laidMet_of_run' 8 (by kernel_rfl) (by kernel_rfl)) (by kernel_rfl) (by kernel_rfl)
theorem reads (os : Os) {H : Type} (enc : TypeId × Value → H) : ∃ places, DataW.whole enc Tryd.prog ((World.doorLaid Tryd.prog 400 os).forCall (fun _ _ => 0) ⟨#[], #[.agg #[.int .u8 0, .int .u8 0, .int .u8 0, .int .u8 0, .int .u8 0, .int .u8 0, .int .u8 0, .int .u8 0, .int .u8 0, .int .u8 0, .int .u8 0, .int .u8 0, .int .u8 0, .int .u8 0, .int .u8 0, .int .u8 0, .int .u8 0, .int .u8 0, .int .u8 0, .int .u8 0, .int .u8 0, .int .u8 0, .int .u8 0, .int .u8 0, .int .u8 0, .int .u8 0, .int .u8 0, .int .u8 0, .int .u8 0, .int .u8 0, .int .u8 0, .int .u8 0], .agg #[.int .u8 0, .int .u8 0, .int .u8 0, .int .u8 0, .int .u8 0, .int .u8 0, .int .u8 0, .int .u8 0, .int .u8 0, .int .u8 0, .int .u8 0, .int .u8 0, .int .u8 0, .int .u8 0, .int .u8 0, .int .u8 0, .int .u8 0, .int .u8 0, .int .u8 0, .int .u8 0, .int .u8 0, .int .u8 0, .int .u8 0, .int .u8 0, .int .u8 0, .int .u8 0, .int .u8 0, .int .u8 0, .int .u8 0, .int .u8 0, .int .u8 0, .int .u8 0], .bool false], []⟩).memory Tryd.f7.params.toList Rows.fieldRootsSpec.vars false (#[.agg #[.int .u8 0, .int .u8 0, .int .u8 0, .int .u8 0, .int .u8 0, .int .u8 0, .int .u8 0, .int .u8 0, .int .u8 0, .int .u8 0, .int .u8 0, .int .u8 0, .int .u8 0, .int .u8 0, .int .u8 0, .int .u8 0, .int .u8 0, .int .u8 0, .int .u8 0, .int .u8 0, .int .u8 0, .int .u8 0, .int .u8 0, .int .u8 0, .int .u8 0, .int .u8 0, .int .u8 0, .int .u8 0, .int .u8 0, .int .u8 0, .int .u8 0, .int .u8 0], .agg #[.int .u8 0, .int .u8 0, .int .u8 0, .int .u8 0, .int .u8 0, .int .u8 0, .int .u8 0, .int .u8 0, .int .u8 0, .int .u8 0, .int .u8 0, .int .u8 0, .int .u8 0, .int .u8 0, .int .u8 0, .int .u8 0, .int .u8 0, .int .u8 0, .int .u8 0, .int .u8 0, .int .u8 0, .int .u8 0, .int .u8 0, .int .u8 0, .int .u8 0, .int .u8 0, .int .u8 0, .int .u8 0, .int .u8 0, .int .u8 0, .int .u8 0, .int .u8 0], .bool false] : Array Value).toList 8 = some ([.agg [.lit (.int .u8 0), .lit (.int .u8 0), .lit (.int .u8 0), .lit (.int .u8 0), .lit (.int .u8 0), .lit (.int .u8 0), .lit (.int .u8 0), .lit (.int .u8 0), .lit (.int .u8 0), .lit (.int .u8 0), .lit (.int .u8 0), .lit (.int .u8 0), .lit (.int .u8 0), .lit (.int .u8 0), .lit (.int .u8 0), .lit (.int .u8 0), .lit (.int .u8 0), .lit (.int .u8 0), .lit (.int .u8 0), .lit (.int .u8 0), .lit (.int .u8 0), .lit (.int .u8 0), .lit (.int .u8 0), .lit (.int .u8 0), .lit (.int .u8 0), .lit (.int .u8 0), .lit (.int .u8 0), .lit (.int .u8 0), .lit (.int .u8 0), .lit (.int .u8 0), .lit (.int .u8 0), .lit (.int .u8 0)], .agg [.lit (.int .u8 0), .lit (.int .u8 0), .lit (.int .u8 0), .lit (.int .u8 0), .lit (.int .u8 0), .lit (.int .u8 0), .lit (.int .u8 0), .lit (.int .u8 0), .lit (.int .u8 0), .lit (.int .u8 0), .lit (.int .u8 0), .lit (.int .u8 0), .lit (.int .u8 0), .lit (.int .u8 0), .lit (.int .u8 0), .lit (.int .u8 0), .lit (.int .u8 0), .lit (.int .u8 0), .lit (.int .u8 0), .lit (.int .u8 0), .lit (.int .u8 0), .lit (.int .u8 0), .lit (.int .u8 0), .lit (.int .u8 0), .lit (.int .u8 0), .lit (.int .u8 0), .lit (.int .u8 0), .lit (.int .u8 0), .lit (.int .u8 0), .lit (.int .u8 0), .lit (.int .u8 0), .lit (.int .u8 0)], .lit (.bool false)], [], places) :=
  ⟨[], by kernel_rfl⟩

set_option maxRecDepth 100000 in
theorem lifted (os : Os) (started : os.Started) (H : Type) (enc : TypeId × Value → H) (F : Stop.Interp) :
    ReturnsInHanded {} Tryd.checked os 7 .any ((OpenSpec.ofChange Rows.fieldRootsSpec).preRow enc Tryd.prog Tryd.f7 Rows.fieldRootsRow.domain false Rows.fieldRootsRow.laid) (((OpenSpec.ofChange Rows.fieldRootsSpec).at F).post enc Tryd.prog Tryd.f7 false true false false) := by
  obtain ⟨places, hx⟩ := reads os enc
  refine returnsInHanded_of_row (C := Tryd.checked) (s := OpenSpec.ofChange Rows.fieldRootsSpec) own started (by kernel_rfl) Tryd.func7
    (witness_row_atRef (enc := enc) (C := Tryd.checked) false (World.doorLaid Tryd.prog 400 os) #[.agg #[.int .u8 0, .int .u8 0, .int .u8 0, .int .u8 0, .int .u8 0, .int .u8 0, .int .u8 0, .int .u8 0, .int .u8 0, .int .u8 0, .int .u8 0, .int .u8 0, .int .u8 0, .int .u8 0, .int .u8 0, .int .u8 0, .int .u8 0, .int .u8 0, .int .u8 0, .int .u8 0, .int .u8 0, .int .u8 0, .int .u8 0, .int .u8 0, .int .u8 0, .int .u8 0, .int .u8 0, .int .u8 0, .int .u8 0, .int .u8 0, .int .u8 0, .int .u8 0], .agg #[.int .u8 0, .int .u8 0, .int .u8 0, .int .u8 0, .int .u8 0, .int .u8 0, .int .u8 0, .int .u8 0, .int .u8 0, .int .u8 0, .int .u8 0, .int .u8 0, .int .u8 0, .int .u8 0, .int .u8 0, .int .u8 0, .int .u8 0, .int .u8 0, .int .u8 0, .int .u8 0, .int .u8 0, .int .u8 0, .int .u8 0, .int .u8 0, .int .u8 0, .int .u8 0, .int .u8 0, .int .u8 0, .int .u8 0, .int .u8 0, .int .u8 0, .int .u8 0], .bool false] rfl (by kernel_rfl) (by kernel_rfl) (by kernel_rfl)
      (OpenSpec.preRow_of_cond 8 hx (by kernel_rfl) (fun k hk => by cases hk) (by kernel_rfl) (laid_met os _))) ?_
  intro W base args ds gs before hval hW _ _ _ hL _ _
  exact contract H enc W base args ds gs before hval hW hL

theorem said : Rows.FieldRootsSaid :=
  OpenClaim.holds_of_cond 7 Tryd.f7 rfl rfl rfl rfl rfl rfl rfl ⟨rfl, rfl, rfl, rfl, rfl⟩ rfl rfl rfl rfl rfl (by kernel_rfl) Tryd.func7 (by kernel_rfl)
    (of_decide_eq_true (by kernel_rfl)) (by unfold Func.isWrapper; first | (rw [if_pos (by decide +kernel)]; kernel_rfl) | (rw [if_neg (by decide +kernel)]; exact ⟨rfl, rfl⟩))
    (fun os started H enc _ F => by rw [OpenClaim.pre_eq_preRow]; exact lifted os started H enc F)

theorem plain (f : FuncId) (fn : Func) (hf : Tryd.pinned.checked.prog.funcNamed "fellowship/fellowshiplaw09.FieldRoots" = some f) (hfn : Tryd.pinned.checked.prog.funcs[f]? = some fn) :
    true = Tryd.pinned.checked.prog.looks [] ∧ ∀ (j : Nat) t, fn.params[j]? = some t → Tryd.pinned.checked.prog.wantsStandIn t = false := by
  obtain rfl : f = 7 := Option.some.inj ((show Tryd.prog.funcNamed "fellowship/fellowshiplaw09.FieldRoots" = some 7 by kernel_rfl).symm.trans hf) |>.symm
  obtain rfl : fn = Tryd.f7 := (Option.some.inj (Tryd.func7.symm.trans hfn)).symm
  refine ⟨by kernel_rfl, fun j t ht => ?_⟩
  rw [Tryd.params7] at ht
  have hm : t ∈ [23, 23, 4] := by simpa using Array.mem_of_getElem? ht
  have hall : ([23, 23, 4].all fun u => !Tryd.prog.wantsStandIn u) = true := by kernel_rfl
  exact (show Tryd.prog.wantsStandIn t = false by simpa using List.all_eq_true.1 hall t hm)
end Go.Proofs.YtcnmohmlfffnkaaDoor.fieldRoots
namespace Go.Proofs.YtcnmohmlfffnkaaDoor
theorem fieldRoots_card : Rows.FieldRootsCardSaid :=
  Claim7.holds_tied_plain_at .later [] _ _ _ _ fieldRoots.said (fun _ h => by cases h) (by kernel_rfl) (fun _ h => by cases h) fieldRoots_row_tie rfl ⟨rfl, rfl⟩ (by kernel_rfl) rfl fieldRoots.plain (by kernel_rfl)
#print axioms fieldRoots_card
end Go.Proofs.YtcnmohmlfffnkaaDoor
