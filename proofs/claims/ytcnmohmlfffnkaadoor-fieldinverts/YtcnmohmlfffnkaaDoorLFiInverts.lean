/- Inverses and roots are the document's: the law fellowshiplaw09.FieldInverts answers true at every input. -/
import Derived.Test.YtcnmohmlfffnkaaDoorKFiInverts
import Derived.Test.YtcnmohmlfffnkaaDoorPart15
import Derived.Test.YtcnmohmlfffnkaaDoorWKey
import Derived.Test.YtcnmohmlfffnkaaDoorWOpen2
import Derived.Test.YtcnmohmlfffnkaaDoorFrame
import Derived.Lib.LaidTab
namespace Go.Proofs.YtcnmohmlfffnkaaDoor.fieldInverts
open Go.ChangeShapes Go.WideShapes Go.ChangeAt Go.RowKit
theorem turn_tab {H : Type} : (Rows.laid_fellowship_field_turn (H := H)) = Lib.tabData .u64 ((limb5 ttN).map fun n : Nat => (n : Int)) := by kernel_rfl
theorem cells_are (l : List Nat) : ((l.map fun n : Nat => (n : Int)).map fun z => Value.int .u64 z) = l.map ncell := by
  rw [List.map_map]; rfl
theorem turn_of {W : World} (h : laidMetH Tryd.prog [("fellowship/api.ErrRange", Rows.laid_fellowship_api_ErrRange), ("fellowship/api.ErrLong", Rows.laid_fellowship_api_ErrLong), ("fellowship/field.turn", Rows.laid_fellowship_field_turn)] W) : Tab W 19 ((limb5 ttN).map ncell) := by
  rw [MakeChecks.laidMetH_plain _ _ _ (by kernel_rfl)] at h
  obtain ⟨ps, hv, _, _⟩ := h
  obtain ⟨g0, t0, cs0, f0, p0, q0, hg0, ht0, hv0, hd0, hq0, rfl⟩ := hv
  obtain ⟨g1, t1, cs1, f1, p1, q1, hg1, ht1, hv1, hd1, hq1, rfl⟩ := hq0
  obtain ⟨g2, t2, cs2, f2, p2, q2, hg2, ht2, hv2, hd2, hq2, rfl⟩ := hq1
  obtain rfl : 19 = g2 := Option.some.inj ((show Tryd.prog.globalNamed "fellowship/field.turn" = some 19 by kernel_rfl).symm.trans hg2)
  obtain rfl : 31 = t2 := Option.some.inj ((show (Tryd.prog.globals[19]?).map (·.type) = some 31 by kernel_rfl).symm.trans ht2)
  rw [turn_tab] at hd2
  have c2 := Lib.cells_of_tab Tryd.underlying31 Tryd.underlying29 (by kernel_rfl) (by kernel_rfl) hd2
  rw [cells_are] at c2
  have e : cs2 = ((limb5 ttN).map ncell).toArray := by rw [← c2]
  rw [e] at hv2
  exact Tab.of_var hg2 hv2

set_option maxRecDepth 100000 in
theorem contract (H : Type) (enc : TypeId × Value → H) (W : World) (base : Nat) (args : Array Value) (ds gs : List (DataW H)) (before : List MemPlace)
    (hval : ∀ (j : Nat) t v, Tryd.f5.params[j]? = some t → args[j]? = some v → Value.okWide Tryd.prog W .any base t v)
    (hW : DataW.Whole enc Tryd.prog Tryd.f5.params.toList Rows.fieldInvertsSpec.vars false W args.toList ds gs before) (hL : laidMetH Tryd.prog Rows.fieldInvertsRow.laid W) :
    Calls Tryd.prog 5 args W fun e W' => ∃ v, e = .returned v ∧ Rows.fieldInvertsSpec.post enc Tryd.prog Tryd.f5 false true false false W args v W' := by
  have hW' := hW
  obtain ⟨p, q, hA0, hV, rfl, hfz, hnd⟩ := hW
  have hA : DataW.TrodAll enc Tryd.prog W 0 (fun _ => true) true Tryd.f5.params.toList args.toList ds p := hA0
  rw [Tryd.params5] at hA hval
  obtain ⟨v0, vs0, d0, ds0, p0, q0, hargs, rfl, rfl, h0, r0⟩ := trodAll_cons hA
  obtain ⟨rfl, rfl, rfl⟩ := trodAll_nil r0
  obtain rfl : args = #[v0] := by cases args; simp_all
  have fin : ∀ W' : World, Below W.heap.size W W' → ∃ v, Ending.returned (.bool true) = .returned v ∧ Rows.fieldInvertsSpec.post enc Tryd.prog Tryd.f5 false true false false W #[v0] v W' := fun W' hb =>
    ⟨_, rfl, law_post laidOut Tryd.underlying4 (by kernel_rfl) (by kernel_rfl) rfl ⟨rfl, rfl, rfl⟩ hW' hb⟩
  obtain ⟨a, rfl, ha⟩ := open_key (hval 0 23 v0 rfl rfl) h0
  have hx := keyN_lt a
  have hT := turn_of hL
  have sm : ∀ n : Nat, n < pp → ∀ V, Calls Tryd.prog 13 #[elV n, numD (nD n)] V fun e w' => e = .returned (.bool true) ∧ Below V.heap.size V w' := fun n hn V => same9_any n V hn
  have hi : ∀ V, Calls Tryd.prog 28 #[numD (nD (keyN a))] V fun e w' => e = .returned (numD (nD (pwN (keyN a) 57896044618658097711785492504343953926634992332820282019728792003956564819947))) ∧ Below V.heap.size V w' := fun V => refInvert_at _ V hx
  refine (walk_over a (limb5 (keyN a)) (nD (keyN a)) (limb5 (pwN (keyN a) 57896044618658097711785492504343953926634992332820282019728792003956564819947)) (nD (pwN (keyN a) 57896044618658097711785492504343953926634992332820282019728792003956564819947)) (limb5 (rootN (keyN a))) (nD (rootN (keyN a))) (limb5 ttN) (isSN (keyN a)) W ha rfl rfl rfl rfl
    (fun V => readE_any a V ha) (fun V => refMasked_any a V ha) (fun V => invert_any _ V hx) hi (sm _ (pwN_lt _ _)) (fun V => refRoot_any _ V hx) (sm _ (rootN_lt _)) (fun V hV => rootE_any _ V hx hV) hT).mono fun e W' ⟨he, hbl⟩ => ?_
  subst he
  exact fin W' hbl

theorem laid_met (os : Os) (args : Array Value) : laidMetH Tryd.prog Rows.fieldInvertsRow.laid ((World.doorLaid Tryd.prog 400 os).forCall (fun _ _ => 0) ⟨#[], args, []⟩).memory :=
  laidMetH_of_parts3 (fuel := 8) (laidMet_of_run' 8 (by kernel_rfl) (by kernel_rfl)) (by kernel_rfl) (by kernel_rfl)
theorem reads (os : Os) {H : Type} (enc : TypeId × Value → H) : ∃ places, DataW.whole enc Tryd.prog ((World.doorLaid Tryd.prog 400 os).forCall (fun _ _ => 0) ⟨#[], #[.agg #[.int .u8 0, .int .u8 0, .int .u8 0, .int .u8 0, .int .u8 0, .int .u8 0, .int .u8 0, .int .u8 0, .int .u8 0, .int .u8 0, .int .u8 0, .int .u8 0, .int .u8 0, .int .u8 0, .int .u8 0, .int .u8 0, .int .u8 0, .int .u8 0, .int .u8 0, .int .u8 0, .int .u8 0, .int .u8 0, .int .u8 0, .int .u8 0, .int .u8 0, .int .u8 0, .int .u8 0, .int .u8 0, .int .u8 0, .int .u8 0, .int .u8 0, .int .u8 0]], []⟩).memory Tryd.f5.params.toList Rows.fieldInvertsSpec.vars false (#[.agg #[.int .u8 0, .int .u8 0, .int .u8 0, .int .u8 0, .int .u8 0, .int .u8 0, .int .u8 0, .int .u8 0, .int .u8 0, .int .u8 0, .int .u8 0, .int .u8 0, .int .u8 0, .int .u8 0, .int .u8 0, .int .u8 0, .int .u8 0, .int .u8 0, .int .u8 0, .int .u8 0, .int .u8 0, .int .u8 0, .int .u8 0, .int .u8 0, .int .u8 0, .int .u8 0, .int .u8 0, .int .u8 0, .int .u8 0, .int .u8 0, .int .u8 0, .int .u8 0]] : Array Value).toList 8 = some ([.agg [.lit (.int .u8 0), .lit (.int .u8 0), .lit (.int .u8 0), .lit (.int .u8 0), .lit (.int .u8 0), .lit (.int .u8 0), .lit (.int .u8 0), .lit (.int .u8 0), .lit (.int .u8 0), .lit (.int .u8 0), .lit (.int .u8 0), .lit (.int .u8 0), .lit (.int .u8 0), .lit (.int .u8 0), .lit (.int .u8 0), .lit (.int .u8 0), .lit (.int .u8 0), .lit (.int .u8 0), .lit (.int .u8 0), .lit (.int .u8 0), .lit (.int .u8 0), .lit (.int .u8 0), .lit (.int .u8 0), .lit (.int .u8 0), .lit (.int .u8 0), .lit (.int .u8 0), .lit (.int .u8 0), .lit (.int .u8 0), .lit (.int .u8 0), .lit (.int .u8 0), .lit (.int .u8 0), .lit (.int .u8 0)]], [], places) :=
  ⟨[], by kernel_rfl⟩

set_option maxRecDepth 100000 in
theorem lifted (os : Os) (started : os.Started) (H : Type) (enc : TypeId × Value → H) (F : Stop.Interp) :
    ReturnsInHanded {} Tryd.checked os 5 .any ((OpenSpec.ofChange Rows.fieldInvertsSpec).preRow enc Tryd.prog Tryd.f5 Rows.fieldInvertsRow.domain false Rows.fieldInvertsRow.laid) (((OpenSpec.ofChange Rows.fieldInvertsSpec).at F).post enc Tryd.prog Tryd.f5 false true false false) := by
  obtain ⟨places, hx⟩ := reads os enc
  refine returnsInHanded_of_row (C := Tryd.checked) (s := OpenSpec.ofChange Rows.fieldInvertsSpec) own started (by kernel_rfl) Tryd.func5
    (witness_row_atRef (enc := enc) (C := Tryd.checked) false (World.doorLaid Tryd.prog 400 os) #[.agg #[.int .u8 0, .int .u8 0, .int .u8 0, .int .u8 0, .int .u8 0, .int .u8 0, .int .u8 0, .int .u8 0, .int .u8 0, .int .u8 0, .int .u8 0, .int .u8 0, .int .u8 0, .int .u8 0, .int .u8 0, .int .u8 0, .int .u8 0, .int .u8 0, .int .u8 0, .int .u8 0, .int .u8 0, .int .u8 0, .int .u8 0, .int .u8 0, .int .u8 0, .int .u8 0, .int .u8 0, .int .u8 0, .int .u8 0, .int .u8 0, .int .u8 0, .int .u8 0]] rfl (by kernel_rfl) (by kernel_rfl) (by kernel_rfl)
      (OpenSpec.preRow_of_cond 8 hx (by kernel_rfl) (fun k hk => by cases hk) (by kernel_rfl) (laid_met os _))) ?_
  intro W base args ds gs before hval hW _ _ _ hL _ _
  exact contract H enc W base args ds gs before hval hW hL

theorem said : Rows.FieldInvertsSaid :=
  OpenClaim.holds_of_cond 5 Tryd.f5 rfl rfl rfl rfl rfl rfl rfl ⟨rfl, rfl, rfl, rfl, rfl⟩ rfl rfl rfl rfl rfl (by kernel_rfl) Tryd.func5 (by kernel_rfl)
    (of_decide_eq_true (by kernel_rfl)) (by unfold Func.isWrapper; first | (rw [if_pos (by decide +kernel)]; kernel_rfl) | (rw [if_neg (by decide +kernel)]; exact ⟨rfl, rfl⟩))
    (fun os started H enc _ F => by rw [OpenClaim.pre_eq_preRow]; exact lifted os started H enc F)

theorem plain (f : FuncId) (fn : Func) (hf : Tryd.pinned.checked.prog.funcNamed "fellowship/fellowshiplaw09.FieldInverts" = some f) (hfn : Tryd.pinned.checked.prog.funcs[f]? = some fn) :
    true = Tryd.pinned.checked.prog.looks [] ∧ ∀ (j : Nat) t, fn.params[j]? = some t → Tryd.pinned.checked.prog.wantsStandIn t = false := by
  obtain rfl : f = 5 := Option.some.inj ((show Tryd.prog.funcNamed "fellowship/fellowshiplaw09.FieldInverts" = some 5 by kernel_rfl).symm.trans hf) |>.symm
  obtain rfl : fn = Tryd.f5 := (Option.some.inj (Tryd.func5.symm.trans hfn)).symm
  refine ⟨by kernel_rfl, fun j t ht => ?_⟩
  rw [Tryd.params5] at ht
  have hm : t ∈ [23] := by simpa using Array.mem_of_getElem? ht
  have hall : ([23].all fun u => !Tryd.prog.wantsStandIn u) = true := by kernel_rfl
  exact (show Tryd.prog.wantsStandIn t = false by simpa using List.all_eq_true.1 hall t hm)
end Go.Proofs.YtcnmohmlfffnkaaDoor.fieldInverts
namespace Go.Proofs.YtcnmohmlfffnkaaDoor
theorem fieldInverts_card : Rows.FieldInvertsCardSaid :=
  Claim7.holds_tied_plain_at .later [] _ _ _ _ fieldInverts.said (fun _ h => by cases h) (by kernel_rfl) (fun _ h => by cases h) fieldInverts_row_tie rfl ⟨rfl, rfl⟩ (by kernel_rfl) rfl fieldInverts.plain (by kernel_rfl)
#print axioms fieldInverts_card
end Go.Proofs.YtcnmohmlfffnkaaDoor
