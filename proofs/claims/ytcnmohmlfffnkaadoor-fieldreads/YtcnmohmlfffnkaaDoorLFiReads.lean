/- Which numbers all bytes are, and which bytes are a number's own: the law fellowshiplaw09.FieldReads answers true at every input, where package api's errors hold what the program's text lays. -/
import Derived.Test.YtcnmohmlfffnkaaDoorKFiReads
import Derived.Test.YtcnmohmlfffnkaaDoorFStrict
import Derived.Test.YtcnmohmlfffnkaaDoorPart15
import Derived.Test.YtcnmohmlfffnkaaDoorWKey
import Derived.Test.YtcnmohmlfffnkaaDoorWOpen
import Derived.Test.YtcnmohmlfffnkaaDoorFrame
namespace Go.Proofs.YtcnmohmlfffnkaaDoor.fieldReads
open Go.ChangeShapes Go.WideShapes Go.ChangeAt Go.RowKit
theorem key_neq (ds es : List UInt8) (hd : ds.length = 32) (he : es.length = 32) (w : World) : (binOp .neq 23 (hashVal ds) (hashVal es)).run Tryd.prog w = .ok (.bool (!(ds == es))) w := by
  have h := run_equalIn_bytes (P := Tryd.prog) w 9998 23 5 32 Tryd.underlying23 Tryd.underlying5 (fun w => by
    obtain ⟨i0, hi0, hs0⟩ := Option.map_eq_some_iff.1 size_u8
    simp [sizeOf, typeInfo, hi0, hs0]) ds es hd he
  have h2 := run_neq_struct (P := Tryd.prog) w 23 (ds.map cellOf).toArray (es.map cellOf).toArray
  unfold hashVal
  rw [h2]
  have h3 : (Op.equalIn 10000 23 (.agg (ds.map cellOf).toArray) (.agg (es.map cellOf).toArray)).run Tryd.prog w = .ok (ds == es) w := h
  rw [h3]
  rfl
theorem strict_any (b : List UInt8) (E : Value) (w : World) (hb : b.length = 32) (hE : w.cell? ⟨0, 0, none⟩ = some E) (own : Bool) (ho : (keyB (keyN b) == b) = own) :
    Calls Tryd.prog 12 #[hashVal b] w fun e w' => e = .returned (.tuple #[elV (if own then keyN b else 0), if own then .nilIface else E]) ∧ Below w.heap.size w w' := by
  refine strict_over b (keyB (keyN b)) (limb5 (keyN b)) (limb5 0) (limb5 (if own then keyN b else 0)) E (if own then .nilIface else E) (!own) w hb rfl rfl (fun V => readE_any b V hb) (fun V => bytesE_any _ V (keyN_lt b)) (fun V => by rw [← ho]; exact key_neq _ _ (keyB_length _) hb V) build_none (fun h => ?_) (fun h => ?_) hE
  · cases own
    · cases h
    · exact ⟨rfl, rfl⟩
  · cases own
    · exact ⟨rfl, rfl⟩
    · cases h
theorem rem_two (p r : Nat) (h : p % 2 = r) (w : World) : (binOp .rem 25 (dcell p) (.int .u32 2)).run Tryd.prog w = .ok (dcell r) w := by
  have e : (p : Int).tmod 2 = (r : Int) := by rw [Int.tmod_eq_emod_of_nonneg (by omega)]; omega
  go_simp
theorem is_one (r : Nat) (b : Bool) (h : decide ((r : Int) = 1) = b) (w : World) : (binOp .eql 25 (dcell r) (.int .u32 1)).run Tryd.prog w = .ok (.bool b) w := by
  rw [dcell, ← h]
  kernel_rfl

set_option maxRecDepth 100000 in
theorem contract (H : Type) (enc : TypeId × Value → H) (W : World) (base : Nat) (args : Array Value) (ds gs : List (DataW H)) (before : List MemPlace)
    (hval : ∀ (j : Nat) t v, Tryd.f3.params[j]? = some t → args[j]? = some v → Value.okWide Tryd.prog W .any base t v)
    (hW : DataW.Whole enc Tryd.prog Tryd.f3.params.toList Rows.fieldReadsSpec.vars false W args.toList ds gs before) (hL : laidMetH Tryd.prog Rows.fieldReadsRow.laid W) :
    Calls Tryd.prog 3 args W fun e W' => ∃ v, e = .returned v ∧ Rows.fieldReadsSpec.post enc Tryd.prog Tryd.f3 false true false false W args v W' := by
  have hW' := hW
  obtain ⟨p, q, hA0, hV, rfl, hfz, hnd⟩ := hW
  have hA : DataW.TrodAll enc Tryd.prog W 0 (fun _ => true) true Tryd.f3.params.toList args.toList ds p := hA0
  rw [Tryd.params3] at hA hval
  obtain ⟨v0, vs0, d0, ds0, p0, q0, hargs, rfl, rfl, h0, r0⟩ := trodAll_cons hA
  obtain ⟨v1, vs1, d1, ds1, p1, q1, rfl, rfl, rfl, h1, r1⟩ := trodAll_cons r0
  obtain ⟨rfl, rfl, rfl⟩ := trodAll_nil r1
  obtain rfl : args = #[v0, v1] := by cases args; simp_all
  have fin : ∀ W' : World, Below W.heap.size W W' → ∃ v, Ending.returned (.bool true) = .returned v ∧ Rows.fieldReadsSpec.post enc Tryd.prog Tryd.f3 false true false false W #[v0, v1] v W' := fun W' hb =>
    ⟨_, rfl, law_post laidOut Tryd.underlying4 (by kernel_rfl) (by kernel_rfl) rfl ⟨rfl, rfl, rfl⟩ hW' hb⟩
  obtain ⟨a, rfl, ha⟩ := open_key (hval 0 23 v0 rfl rfl) h0
  obtain ⟨n, rfl, rfl, rfl, wn⟩ := open_int Tryd.underlying3 (hval 1 3 v1 rfl rfl) h1
  have hn0 := bounds_i64 wn
  have hn1 : -9223372036854775808 ≤ n ∧ n < 9223372036854775808 := by omega
  obtain ⟨es, hE⟩ := errs_of hL
  have hx := keyN_lt a
  have sm : ∀ n : Nat, n < pp → ∀ V, Calls Tryd.prog 13 #[elV n, numD (nD n)] V fun e w' => e = .returned (.bool true) ∧ Below V.heap.size V w' := fun n hn V => same9_any n V hn
  obtain ⟨aF, haF, _⟩ := hE.var 3 (g := 0) rfl
  obtain ⟨own, ho⟩ : ∃ own, (keyB (keyN a) == a) = own := ⟨_, rfl⟩
  have sk : ∀ V, Errs V es → Calls Tryd.prog 12 #[hashVal a] V fun e w' => e = .returned (.tuple #[elV (if own then keyN a else 0), if own then .nilIface else errAt aF]) ∧ Below V.heap.size V w' := fun V hV => by
    obtain ⟨aV, haV, hcV⟩ := hV.var 3 (g := 0) rfl
    obtain rfl : aV = aF := Option.some.inj (haV.symm.trans haF)
    exact strict_any a (errAt aV) V ha hcV own ho
  have hp : ((nD (keyN a)).map dcell)[0]? = some (dcell (keyN a % 4294967296)) := rfl
  have hsl : smallN n < pp := by
    have : (0 : Int) < (pp : Int) := by decide
    have h1 := Int.emod_nonneg n (Int.ne_of_gt this)
    have h2 := Int.emod_lt_of_pos n this
    unfold smallN
    omega
  refine (walk_over a (keyB (keyN a)) (nD (keyN a)) (limb5 (keyN a)) (limb5 (if own then keyN a else 0)) (limb5 (smallN n)) (nD (smallN n)) (nD 0) (if own then .nilIface else errAt aF) es n (keyN a % 4294967296) (keyN a % 2) own (decide (keyN a % 2 = 1)) (decide (keyN a = 0)) W ha rfl rfl rfl
    (fun V => refMasked_any a V ha) (fun V => readE_any a V ha) (fun V => refBytes_any _ V) sk (sm _ hx) (fun h V => by rw [h]; exact sm _ hx V) (fun h V => by rw [h]; exact zeroE_any 0 V (by decide)) (fun h V hV => by rw [h]; exact num_is es 3 4 aF V hV haF rfl)
    (fun V => smallE_any n V hn1.1 hn1.2) (fun V => refSmall_any n V hn1.1 hn1.2) (sm _ hsl) (fun V => odd_any _ V) (fun V => zeroE_any _ V hx)
    (fun w => by rw [← ho]; exact key_eql _ _ (keyB_length _) ha w) (fun w => by cases own <;> kernel_rfl) (fun w => by cases own <;> kernel_rfl) (rem_two _ _ (by omega)) (is_one _ _ (by congr 1; exact propext ⟨fun h => by omega, fun h => by omega⟩)) (num_eql _ 0 (Nat.lt_trans hx (by decide)) (by decide)) build_NDz hp hE).mono fun e W' ⟨he, hbl⟩ => ?_
  subst he
  exact fin W' hbl

theorem laid_met (os : Os) (args : Array Value) : laidMetH Tryd.prog Rows.fieldReadsRow.laid ((World.doorLaid Tryd.prog 400 os).forCall (fun _ _ => 0) ⟨#[], args, []⟩).memory :=
  laidMetH_of_parts3 (fuel := 8) (laidMet_of_run' 8 (by kernel_rfl) (by kernel_rfl)) (by kernel_rfl) (by kernel_rfl)
theorem reads (os : Os) {H : Type} (enc : TypeId × Value → H) : ∃ places, DataW.whole enc Tryd.prog ((World.doorLaid Tryd.prog 400 os).forCall (fun _ _ => 0) ⟨#[], #[.agg #[.int .u8 0, .int .u8 0, .int .u8 0, .int .u8 0, .int .u8 0, .int .u8 0, .int .u8 0, .int .u8 0, .int .u8 0, .int .u8 0, .int .u8 0, .int .u8 0, .int .u8 0, .int .u8 0, .int .u8 0, .int .u8 0, .int .u8 0, .int .u8 0, .int .u8 0, .int .u8 0, .int .u8 0, .int .u8 0, .int .u8 0, .int .u8 0, .int .u8 0, .int .u8 0, .int .u8 0, .int .u8 0, .int .u8 0, .int .u8 0, .int .u8 0, .int .u8 0], .int .i64 0], []⟩).memory Tryd.f3.params.toList Rows.fieldReadsSpec.vars false (#[.agg #[.int .u8 0, .int .u8 0, .int .u8 0, .int .u8 0, .int .u8 0, .int .u8 0, .int .u8 0, .int .u8 0, .int .u8 0, .int .u8 0, .int .u8 0, .int .u8 0, .int .u8 0, .int .u8 0, .int .u8 0, .int .u8 0, .int .u8 0, .int .u8 0, .int .u8 0, .int .u8 0, .int .u8 0, .int .u8 0, .int .u8 0, .int .u8 0, .int .u8 0, .int .u8 0, .int .u8 0, .int .u8 0, .int .u8 0, .int .u8 0, .int .u8 0, .int .u8 0], .int .i64 0] : Array Value).toList 8 = some ([.agg [.lit (.int .u8 0), .lit (.int .u8 0), .lit (.int .u8 0), .lit (.int .u8 0), .lit (.int .u8 0), .lit (.int .u8 0), .lit (.int .u8 0), .lit (.int .u8 0), .lit (.int .u8 0), .lit (.int .u8 0), .lit (.int .u8 0), .lit (.int .u8 0), .lit (.int .u8 0), .lit (.int .u8 0), .lit (.int .u8 0), .lit (.int .u8 0), .lit (.int .u8 0), .lit (.int .u8 0), .lit (.int .u8 0), .lit (.int .u8 0), .lit (.int .u8 0), .lit (.int .u8 0), .lit (.int .u8 0), .lit (.int .u8 0), .lit (.int .u8 0), .lit (.int .u8 0), .lit (.int .u8 0), .lit (.int .u8 0), .lit (.int .u8 0), .lit (.int .u8 0), .lit (.int .u8 0), .lit (.int .u8 0)], .lit (.int .i64 0)], [], places) :=
  ⟨[], by kernel_rfl⟩

set_option maxRecDepth 100000 in
theorem lifted (os : Os) (started : os.Started) (H : Type) (enc : TypeId × Value → H) (F : Stop.Interp) :
    ReturnsInHanded {} Tryd.checked os 3 .any ((OpenSpec.ofChange Rows.fieldReadsSpec).preRow enc Tryd.prog Tryd.f3 Rows.fieldReadsRow.domain false Rows.fieldReadsRow.laid) (((OpenSpec.ofChange Rows.fieldReadsSpec).at F).post enc Tryd.prog Tryd.f3 false true false false) := by
  obtain ⟨places, hx⟩ := reads os enc
  refine returnsInHanded_of_row (C := Tryd.checked) (s := OpenSpec.ofChange Rows.fieldReadsSpec) own started (by kernel_rfl) Tryd.func3
    (witness_row_atRef (enc := enc) (C := Tryd.checked) false (World.doorLaid Tryd.prog 400 os) #[.agg #[.int .u8 0, .int .u8 0, .int .u8 0, .int .u8 0, .int .u8 0, .int .u8 0, .int .u8 0, .int .u8 0, .int .u8 0, .int .u8 0, .int .u8 0, .int .u8 0, .int .u8 0, .int .u8 0, .int .u8 0, .int .u8 0, .int .u8 0, .int .u8 0, .int .u8 0, .int .u8 0, .int .u8 0, .int .u8 0, .int .u8 0, .int .u8 0, .int .u8 0, .int .u8 0, .int .u8 0, .int .u8 0, .int .u8 0, .int .u8 0, .int .u8 0, .int .u8 0], .int .i64 0] rfl (by kernel_rfl) (by kernel_rfl) (by kernel_rfl)
      (OpenSpec.preRow_of_cond 8 hx (by kernel_rfl) (fun k hk => by cases hk) (by kernel_rfl) (laid_met os _))) ?_
  intro W base args ds gs before hval hW _ _ _ hL _ _
  exact contract H enc W base args ds gs before hval hW hL

theorem said : Rows.FieldReadsSaid :=
  OpenClaim.holds_of_cond 3 Tryd.f3 rfl rfl rfl rfl rfl rfl rfl ⟨rfl, rfl, rfl, rfl, rfl⟩ rfl rfl rfl rfl rfl (by kernel_rfl) Tryd.func3 (by kernel_rfl)
    (of_decide_eq_true (by kernel_rfl)) (by unfold Func.isWrapper; first | (rw [if_pos (by decide +kernel)]; kernel_rfl) | (rw [if_neg (by decide +kernel)]; exact ⟨rfl, rfl⟩))
    (fun os started H enc _ F => by rw [OpenClaim.pre_eq_preRow]; exact lifted os started H enc F)

theorem plain (f : FuncId) (fn : Func) (hf : Tryd.pinned.checked.prog.funcNamed "fellowship/fellowshiplaw09.FieldReads" = some f) (hfn : Tryd.pinned.checked.prog.funcs[f]? = some fn) :
    true = Tryd.pinned.checked.prog.looks [] ∧ ∀ (j : Nat) t, fn.params[j]? = some t → Tryd.pinned.checked.prog.wantsStandIn t = false := by
  obtain rfl : f = 3 := Option.some.inj ((show Tryd.prog.funcNamed "fellowship/fellowshiplaw09.FieldReads" = some 3 by kernel_rfl).symm.trans hf) |>.symm
  obtain rfl : fn = Tryd.f3 := (Option.some.inj (Tryd.func3.symm.trans hfn)).symm
  refine ⟨by kernel_rfl, fun j t ht => ?_⟩
  rw [Tryd.params3] at ht
  have hm : t ∈ [23, 3] := by simpa using Array.mem_of_getElem? ht
  have hall : ([23, 3].all fun u => !Tryd.prog.wantsStandIn u) = true := by kernel_rfl
  exact (show Tryd.prog.wantsStandIn t = false by simpa using List.all_eq_true.1 hall t hm)
end Go.Proofs.YtcnmohmlfffnkaaDoor.fieldReads
namespace Go.Proofs.YtcnmohmlfffnkaaDoor
theorem fieldReads_card : Rows.FieldReadsCardSaid :=
  Claim7.holds_tied_plain_at .later [] _ _ _ _ fieldReads.said (fun _ h => by cases h) (by kernel_rfl) (fun _ h => by cases h) fieldReads_row_tie rfl ⟨rfl, rfl⟩ (by kernel_rfl) rfl fieldReads.plain (by kernel_rfl)
#print axioms fieldReads_card
end Go.Proofs.YtcnmohmlfffnkaaDoor
