/- Every quarter round and every block is the document's: the law fellowshiplaw06.StreamBlocks answers true at every input, where package api's errors hold what the program's text lays. -/
import Derived.Test.YtejcbboajikdkaaDoorKStBlocks
namespace Go.Proofs.YtejcbboajikdkaaDoor.streamBlocks
open Go.ChangeShapes Go.WideShapes Go.ChangeAt Go.RowKit

set_option maxRecDepth 100000 in
theorem contract (H : Type) (enc : TypeId × Value → H) (W : World) (base : Nat) (args : Array Value) (ds gs : List (DataW H)) (before : List MemPlace)
    (hval : ∀ (j : Nat) t v, Tryd.f3.params[j]? = some t → args[j]? = some v → Value.okWide Tryd.prog W .any base t v)
    (hW : DataW.Whole enc Tryd.prog Tryd.f3.params.toList Rows.streamBlocksSpec.vars false W args.toList ds gs before) (hL : laidMetH Tryd.prog Rows.streamBlocksRow.laid W) :
    Calls Tryd.prog 3 args W fun e W' => ∃ v, e = .returned v ∧ Rows.streamBlocksSpec.post enc Tryd.prog Tryd.f3 false true false false W args v W' := by
  have hW' := hW
  obtain ⟨p, q, hA0, hV, rfl, hfz, hnd⟩ := hW
  have hA : DataW.TrodAll enc Tryd.prog W 0 (fun _ => true) true Tryd.f3.params.toList args.toList ds p := hA0
  rw [Tryd.params3] at hA hval
  obtain ⟨v0, vs0, d0, ds0, p0, q0, hargs, rfl, rfl, h0, r0⟩ := trodAll_cons hA
  obtain ⟨v1, vs1, d1, ds1, p1, q1, rfl, rfl, rfl, h1, r1⟩ := trodAll_cons r0
  obtain ⟨v2, vs2, d2, ds2, p2, q2, rfl, rfl, rfl, h2, r2⟩ := trodAll_cons r1
  obtain ⟨rfl, rfl, rfl⟩ := trodAll_nil r2
  obtain rfl : args = #[v0, v1, v2] := by cases args; simp_all
  have fin : ∀ W' : World, Below W.heap.size W W' → ∃ v, Ending.returned (.bool true) = .returned v ∧ Rows.streamBlocksSpec.post enc Tryd.prog Tryd.f3 false true false false W #[v0, v1, v2] v W' := fun W' hb =>
    ⟨_, rfl, law_post laidOut Tryd.underlying4 (by kernel_rfl) (by kernel_rfl) rfl ⟨rfl, rfl, rfl⟩ hW' hb⟩
  obtain ⟨x, y, z, u, rfl⟩ := open_four (hval 0 23 v0 rfl rfl) h0
  obtain ⟨key, rfl, hk⟩ := open_key (hval 1 25 v1 rfl rfl) h1
  obtain ⟨A, d, ns, rfl, nA, rA, hd1, hd2⟩ := open_bytes (hval 2 26 v2 rfl rfl) h2
  obtain ⟨es, hE⟩ := errs_of hL
  have walk : Calls Tryd.prog 3 #[.agg #[wcell x, wcell y, wcell z, wcell u], hashVal key, .slice A ns.length d] W fun e w' => e = .returned (.bool true) ∧ Below W.heap.size W w' := by
    have CQ : ∀ V, Calls Tryd.prog 8 #[wcell x, wcell y, wcell z, wcell u] V fun e w' => e = .returned (.tuple #[wcell (quarter x y z u).a, wcell (quarter x y z u).b, wcell (quarter x y z u).c, wcell (quarter x y z u).d]) ∧ V = w' := fun V => quarter_any x y z u V
    have CR : ∀ g V, Cells V g ([wcell x, wcell y, wcell z, wcell u] ++ []) 22 → Calls Tryd.prog 9 #[.slice (some ⟨g, 0, none⟩) 4 4, .int .i64 0, .int .i64 1, .int .i64 2, .int .i64 3] V fun e w' => e = .returned (.tuple #[]) ∧ But g V w' ∧ Cells w' g [wcell (quarter x y z u).a, wcell (quarter x y z u).b, wcell (quarter x y z u).c, wcell (quarter x y z u).d] 22 := fun g V hC =>
      refQuarter_at g 4 4 0 1 2 3 _ _ _ _ [x, y, z, u] _ [] V rfl rfl rfl rfl rfl rfl (by omega) (by omega) (by omega) (by omega) (by omega) (by omega) (by omega) (by omega) (by omega) (by omega) hC
    by_cases hn : ns.length ≤ 50
    · by_cases h12 : ns.length = 12
      · rw [h12] at hd1 ⊢
        exact in_over A d key (chBlock key x ns) x y z u _ W hk CQ CR (chBlock_length _ _ _) (fun V hV => streamBlock_any A d key ns x V hk h12 (rA.on hV) nA hd1 hd2) (fun V hV => refBlock_any A d key ns x V hk h12 (rA.on hV))
      · obtain ⟨a, ha, hc⟩ := hE.var 3 (g := 0) rfl
        exact out_over A d ns.length key x y z u _ es a W hn h12 hE ha hk CQ CR (fun V hV => streamBlock_out A d ns.length key x (errAt a) V h12 ((hV.cell (block_lt_of_cell hc)).trans hc))
    · exact long_walk A d ns.length key x y z u W (by omega)
  refine walk.mono fun e W' ⟨he, hb⟩ => ?_
  subst he
  exact fin W' hb

theorem laid_met (os : Os) (args : Array Value) : laidMetH Tryd.prog Rows.streamBlocksRow.laid ((World.doorLaid Tryd.prog 400 os).forCall (fun _ _ => 0) ⟨#[], args, []⟩).memory :=
  laidMetH_of_parts3 (fuel := 8) (laidMet_of_run' 8 (by kernel_rfl) (by kernel_rfl)) (by kernel_rfl) (by kernel_rfl)
theorem reads (os : Os) {H : Type} (enc : TypeId × Value → H) : ∃ places, DataW.whole enc Tryd.prog ((World.doorLaid Tryd.prog 400 os).forCall (fun _ _ => 0) ⟨#[], #[.agg #[.int .u32 0, .int .u32 0, .int .u32 0, .int .u32 0], .agg #[.int .u8 0, .int .u8 0, .int .u8 0, .int .u8 0, .int .u8 0, .int .u8 0, .int .u8 0, .int .u8 0, .int .u8 0, .int .u8 0, .int .u8 0, .int .u8 0, .int .u8 0, .int .u8 0, .int .u8 0, .int .u8 0, .int .u8 0, .int .u8 0, .int .u8 0, .int .u8 0, .int .u8 0, .int .u8 0, .int .u8 0, .int .u8 0, .int .u8 0, .int .u8 0, .int .u8 0, .int .u8 0, .int .u8 0, .int .u8 0, .int .u8 0, .int .u8 0], .slice none 0 0], []⟩).memory Tryd.f3.params.toList Rows.streamBlocksSpec.vars false (#[.agg #[.int .u32 0, .int .u32 0, .int .u32 0, .int .u32 0], .agg #[.int .u8 0, .int .u8 0, .int .u8 0, .int .u8 0, .int .u8 0, .int .u8 0, .int .u8 0, .int .u8 0, .int .u8 0, .int .u8 0, .int .u8 0, .int .u8 0, .int .u8 0, .int .u8 0, .int .u8 0, .int .u8 0, .int .u8 0, .int .u8 0, .int .u8 0, .int .u8 0, .int .u8 0, .int .u8 0, .int .u8 0, .int .u8 0, .int .u8 0, .int .u8 0, .int .u8 0, .int .u8 0, .int .u8 0, .int .u8 0, .int .u8 0, .int .u8 0], .slice none 0 0] : Array Value).toList 8 = some ([.agg [.lit (.int .u32 0), .lit (.int .u32 0), .lit (.int .u32 0), .lit (.int .u32 0)], .agg [.lit (.int .u8 0), .lit (.int .u8 0), .lit (.int .u8 0), .lit (.int .u8 0), .lit (.int .u8 0), .lit (.int .u8 0), .lit (.int .u8 0), .lit (.int .u8 0), .lit (.int .u8 0), .lit (.int .u8 0), .lit (.int .u8 0), .lit (.int .u8 0), .lit (.int .u8 0), .lit (.int .u8 0), .lit (.int .u8 0), .lit (.int .u8 0), .lit (.int .u8 0), .lit (.int .u8 0), .lit (.int .u8 0), .lit (.int .u8 0), .lit (.int .u8 0), .lit (.int .u8 0), .lit (.int .u8 0), .lit (.int .u8 0), .lit (.int .u8 0), .lit (.int .u8 0), .lit (.int .u8 0), .lit (.int .u8 0), .lit (.int .u8 0), .lit (.int .u8 0), .lit (.int .u8 0), .lit (.int .u8 0)], .nil], [], places) :=
  ⟨[], by kernel_rfl⟩

set_option maxRecDepth 100000 in
theorem lifted (os : Os) (started : os.Started) (H : Type) (enc : TypeId × Value → H) (F : Stop.Interp) :
    ReturnsInHanded {} Tryd.checked os 3 .any ((OpenSpec.ofChange Rows.streamBlocksSpec).preRow enc Tryd.prog Tryd.f3 Rows.streamBlocksRow.domain false Rows.streamBlocksRow.laid) (((OpenSpec.ofChange Rows.streamBlocksSpec).at F).post enc Tryd.prog Tryd.f3 false true false false) := by
  obtain ⟨places, hx⟩ := reads os enc
  refine returnsInHanded_of_row (C := Tryd.checked) (s := OpenSpec.ofChange Rows.streamBlocksSpec) own started (by kernel_rfl) Tryd.func3
    (witness_row_atRef (enc := enc) (C := Tryd.checked) false (World.doorLaid Tryd.prog 400 os) #[.agg #[.int .u32 0, .int .u32 0, .int .u32 0, .int .u32 0], .agg #[.int .u8 0, .int .u8 0, .int .u8 0, .int .u8 0, .int .u8 0, .int .u8 0, .int .u8 0, .int .u8 0, .int .u8 0, .int .u8 0, .int .u8 0, .int .u8 0, .int .u8 0, .int .u8 0, .int .u8 0, .int .u8 0, .int .u8 0, .int .u8 0, .int .u8 0, .int .u8 0, .int .u8 0, .int .u8 0, .int .u8 0, .int .u8 0, .int .u8 0, .int .u8 0, .int .u8 0, .int .u8 0, .int .u8 0, .int .u8 0, .int .u8 0, .int .u8 0], .slice none 0 0] rfl (by kernel_rfl) (by kernel_rfl) (by kernel_rfl)
      (OpenSpec.preRow_of_cond 8 hx (by kernel_rfl) (fun k hk => by cases hk) (by kernel_rfl) (laid_met os _))) ?_
  intro W base args ds gs before hval hW _ _ _ hL _ _
  exact contract H enc W base args ds gs before hval hW hL

theorem said : Rows.StreamBlocksSaid :=
  OpenClaim.holds_of_cond 3 Tryd.f3 rfl rfl rfl rfl rfl rfl rfl ⟨rfl, rfl, rfl, rfl, rfl⟩ rfl rfl rfl rfl rfl (by kernel_rfl) Tryd.func3 (by kernel_rfl)
    (of_decide_eq_true (by kernel_rfl)) (by unfold Func.isWrapper; first | (rw [if_pos (by decide +kernel)]; kernel_rfl) | (rw [if_neg (by decide +kernel)]; exact ⟨rfl, rfl⟩))
    (fun os started H enc _ F => by rw [OpenClaim.pre_eq_preRow]; exact lifted os started H enc F)

theorem plain (f : FuncId) (fn : Func) (hf : Tryd.pinned.checked.prog.funcNamed "fellowship/fellowshiplaw06.StreamBlocks" = some f) (hfn : Tryd.pinned.checked.prog.funcs[f]? = some fn) :
    true = Tryd.pinned.checked.prog.looks [] ∧ ∀ (j : Nat) t, fn.params[j]? = some t → Tryd.pinned.checked.prog.wantsStandIn t = false := by
  obtain rfl : f = 3 := Option.some.inj ((show Tryd.prog.funcNamed "fellowship/fellowshiplaw06.StreamBlocks" = some 3 by kernel_rfl).symm.trans hf) |>.symm
  obtain rfl : fn = Tryd.f3 := (Option.some.inj (Tryd.func3.symm.trans hfn)).symm
  refine ⟨by kernel_rfl, fun j t ht => ?_⟩
  rw [Tryd.params3] at ht
  have hm : t ∈ [23, 25, 26] := by simpa using Array.mem_of_getElem? ht
  have hall : ([23, 25, 26].all fun u => !Tryd.prog.wantsStandIn u) = true := by kernel_rfl
  exact (show Tryd.prog.wantsStandIn t = false by simpa using List.all_eq_true.1 hall t hm)
end Go.Proofs.YtejcbboajikdkaaDoor.streamBlocks
namespace Go.Proofs.YtejcbboajikdkaaDoor
theorem streamBlocks_card : Rows.StreamBlocksCardSaid :=
  Claim7.holds_tied_plain_at .later [] _ _ _ _ streamBlocks.said (fun _ h => by cases h) (by kernel_rfl) (fun _ h => by cases h) streamBlocks_row_tie rfl ⟨rfl, rfl⟩ (by kernel_rfl) rfl streamBlocks.plain (by kernel_rfl)
#print axioms streamBlocks_card
end Go.Proofs.YtejcbboajikdkaaDoor
