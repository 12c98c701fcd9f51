/- Bytes are turned block by block with the counter going on, and just so many may be: the law fellowshiplaw06.StreamGoes answers true at every input, where package api's errors hold what the program's text lays. -/
import Derived.Test.YtejcbboajikdkaaDoorKStGoes
namespace Go.Proofs.YtejcbboajikdkaaDoor.streamGoes
open Go.ChangeShapes Go.WideShapes Go.ChangeAt Go.RowKit
theorem five (z : Int) : ∃ m : Nat, m < 5 ∧ wrap64 ((IntKind.u64.wrap z).tmod 5) = (m : Int) := by
  have h : IntKind.u64.wrap z = z % 18446744073709551616 := IntKind.wrap_u64 z
  have h0 : 0 ≤ IntKind.u64.wrap z := by rw [h]; omega
  have h1 : (IntKind.u64.wrap z).tmod 5 = IntKind.u64.wrap z % 5 := Int.tmod_eq_emod_of_nonneg h0
  refine ⟨(IntKind.u64.wrap z % 5).toNat, by omega, ?_⟩
  rw [h1, IntWalk.wrap64_in _ (by omega)]
  omega
/-- A block of nought bytes, turned, is the stream's own block. -/
theorem block_of (key : List UInt8) (x : BitVec 32) (ns : List UInt8) (m k : Nat) (hk : key.length = 32) (h : k < m) : ((chTurn key x ns (List.replicate (64 * m) 0)).drop (64 * k)).take 64 = chBlock key (x + BitVec.ofNat 32 k) ns := by
  have hl : (chTurn key x ns (List.replicate (64 * m) 0)).length = 64 * m := by rw [chTurn_length, List.length_replicate]
  have hb : (chBlock key (x + BitVec.ofNat 32 k) ns).length = 64 := chBlock_length _ _ _
  refine List.ext_getElem (by rw [List.length_take, List.length_drop, hl, hb]; omega) fun i h1 h2 => ?_
  have hi : i < 64 := by omega
  rw [List.getElem_take, List.getElem_drop]
  have e1 := chTurned_at (chOpened key x ns) (List.replicate (64 * m) 0) (List.replicate (64 * m) (0 : UInt8)).length (64 * k + i) (by rw [List.length_replicate]; omega)
  have e2 : (chTurn key x ns (List.replicate (64 * m) 0)).getD (64 * k + i) 0 = (chTurn key x ns (List.replicate (64 * m) 0))[64 * k + i]'(by omega) := getD_lt _ _ (by omega)
  rw [← e2]
  refine e1.trans ?_
  rw [getD_lt _ _ (by rw [List.length_replicate]; omega), List.getElem_replicate, UInt8.zero_xor, chByte, show (64 * k + i) / 64 = k by omega, show (64 * k + i) % 64 = i by omega, chAt_opened key x ns k hk]
  exact getD_lt _ _ h2

set_option maxRecDepth 100000 in
theorem contract (H : Type) (enc : TypeId × Value → H) (W : World) (base : Nat) (args : Array Value) (ds gs : List (DataW H)) (before : List MemPlace)
    (hval : ∀ (j : Nat) t v, Tryd.f5.params[j]? = some t → args[j]? = some v → Value.okWide Tryd.prog W .any base t v)
    (hW : DataW.Whole enc Tryd.prog Tryd.f5.params.toList Rows.streamGoesSpec.vars false W args.toList ds gs before) (hL : laidMetH Tryd.prog Rows.streamGoesRow.laid W) :
    Calls Tryd.prog 5 args W fun e W' => ∃ v, e = .returned v ∧ Rows.streamGoesSpec.post enc Tryd.prog Tryd.f5 false true false false W args v W' := by
  have hW' := hW
  obtain ⟨p, q, hA0, hV, rfl, hfz, hnd⟩ := hW
  have hA : DataW.TrodAll enc Tryd.prog W 0 (fun _ => true) true Tryd.f5.params.toList args.toList ds p := hA0
  rw [Tryd.params5] at hA hval
  obtain ⟨v0, vs0, d0, ds0, p0, q0, hargs, rfl, rfl, h0, r0⟩ := trodAll_cons hA
  obtain ⟨v1, vs1, d1, ds1, p1, q1, rfl, rfl, rfl, h1, r1⟩ := trodAll_cons r0
  obtain ⟨rfl, rfl, rfl⟩ := trodAll_nil r1
  obtain rfl : args = #[v0, v1] := by cases args; simp_all
  have fin : ∀ W' : World, Below W.heap.size W W' → ∃ v, Ending.returned (.bool true) = .returned v ∧ Rows.streamGoesSpec.post enc Tryd.prog Tryd.f5 false true false false W #[v0, v1] v W' := fun W' hb =>
    ⟨_, rfl, law_post laidOut Tryd.underlying4 (by kernel_rfl) (by kernel_rfl) rfl ⟨rfl, rfl, rfl⟩ hW' hb⟩
  obtain ⟨key, x, A, d, ns, rfl, hk, nA, rA, hd1, hd2⟩ := open_case (hval 0 40 v0 rfl rfl) h0
  obtain ⟨z, rfl⟩ : ∃ z, v1 = .int .i64 z := okWide_int Tryd.underlying3 (hval 1 3 v1 rfl rfl)
  obtain ⟨es, hE⟩ := errs_of hL
  have walk : Calls Tryd.prog 5 #[caseVal key x A ns.length d, .int .i64 z] W fun e w' => e = .returned (.bool true) ∧ Below W.heap.size W w' := by
    by_cases h12 : ns.length = 12
    · obtain ⟨m, hm, hz⟩ := five z
      obtain ⟨a, ha, hc⟩ := hE.var 2 (g := 3) rfl
      rw [h12] at hd1 ⊢
      have hl : (chTurn key x ns (List.replicate (64 * m) 0)).length = 64 * m := by rw [chTurn_length, List.length_replicate]
      exact in_over A d m z key (chTurn key x ns (List.replicate (64 * m) 0)) (fun k => chBlock key (x + BitVec.ofNat 32 k) ns) x es a W hk hm hz hl (fun _ => chBlock_length _ _ _) hE ha (fun k h => block_of key x ns m k hk h)
        (fun g V hV hR => streamTurn_any A (some ⟨g, 0, none⟩) d (64 * m) (64 * m) key ns (List.replicate (64 * m) 0) x V hk h12 (rA.on hV) nA hd1 hd2 (by rw [List.length_replicate]) hR (by omega))
        (fun k V hV => streamBlock_any A d key ns (x + BitVec.ofNat 32 k) V hk h12 (rA.on hV) nA hd1 hd2)
        (fun g V hV => streamTurn_long A (some ⟨g, 0, none⟩) d 65537 65537 key x (errAt a) V (by omega) ((hV.cell (block_lt_of_cell hc)).trans hc))
    · exact long_walk A d ns.length z key x W hk h12
  refine walk.mono fun e W' ⟨he, hb⟩ => ?_
  subst he
  exact fin W' hb

theorem laid_met (os : Os) (args : Array Value) : laidMetH Tryd.prog Rows.streamGoesRow.laid ((World.doorLaid Tryd.prog 400 os).forCall (fun _ _ => 0) ⟨#[], args, []⟩).memory :=
  laidMetH_of_parts3 (fuel := 8) (laidMet_of_run' 8 (by kernel_rfl) (by kernel_rfl)) (by kernel_rfl) (by kernel_rfl)
theorem reads (os : Os) {H : Type} (enc : TypeId × Value → H) : ∃ places, DataW.whole enc Tryd.prog ((World.doorLaid Tryd.prog 400 os).forCall (fun _ _ => 0) ⟨#[], #[.agg (Value.int .u8 0 :: Value.int .u8 0 :: Value.int .u8 0 :: Value.int .u8 0 :: Value.int .u8 0 :: Value.int .u8 0 :: Value.int .u8 0 :: Value.int .u8 0 :: Value.int .u8 0 :: Value.int .u8 0 :: Value.int .u8 0 :: Value.int .u8 0 :: Value.int .u8 0 :: Value.int .u8 0 :: Value.int .u8 0 :: Value.int .u8 0 :: Value.int .u8 0 :: Value.int .u8 0 :: Value.int .u8 0 :: Value.int .u8 0 :: Value.int .u8 0 :: Value.int .u8 0 :: Value.int .u8 0 :: Value.int .u8 0 :: Value.int .u8 0 :: Value.int .u8 0 :: Value.int .u8 0 :: Value.int .u8 0 :: Value.int .u8 0 :: Value.int .u8 0 :: Value.int .u8 0 :: Value.int .u8 0 :: Value.int .u32 0 :: Value.slice none 0 0 :: []).toArray, .int .i64 0], []⟩).memory Tryd.f5.params.toList Rows.streamGoesSpec.vars false (#[.agg (Value.int .u8 0 :: Value.int .u8 0 :: Value.int .u8 0 :: Value.int .u8 0 :: Value.int .u8 0 :: Value.int .u8 0 :: Value.int .u8 0 :: Value.int .u8 0 :: Value.int .u8 0 :: Value.int .u8 0 :: Value.int .u8 0 :: Value.int .u8 0 :: Value.int .u8 0 :: Value.int .u8 0 :: Value.int .u8 0 :: Value.int .u8 0 :: Value.int .u8 0 :: Value.int .u8 0 :: Value.int .u8 0 :: Value.int .u8 0 :: Value.int .u8 0 :: Value.int .u8 0 :: Value.int .u8 0 :: Value.int .u8 0 :: Value.int .u8 0 :: Value.int .u8 0 :: Value.int .u8 0 :: Value.int .u8 0 :: Value.int .u8 0 :: Value.int .u8 0 :: Value.int .u8 0 :: Value.int .u8 0 :: Value.int .u32 0 :: Value.slice none 0 0 :: []).toArray, .int .i64 0] : Array Value).toList 8 = some ([.agg [.agg [.lit (.int .u8 0), .lit (.int .u8 0), .lit (.int .u8 0), .lit (.int .u8 0), .lit (.int .u8 0), .lit (.int .u8 0), .lit (.int .u8 0), .lit (.int .u8 0), .lit (.int .u8 0), .lit (.int .u8 0), .lit (.int .u8 0), .lit (.int .u8 0), .lit (.int .u8 0), .lit (.int .u8 0), .lit (.int .u8 0), .lit (.int .u8 0), .lit (.int .u8 0), .lit (.int .u8 0), .lit (.int .u8 0), .lit (.int .u8 0), .lit (.int .u8 0), .lit (.int .u8 0), .lit (.int .u8 0), .lit (.int .u8 0), .lit (.int .u8 0), .lit (.int .u8 0), .lit (.int .u8 0), .lit (.int .u8 0), .lit (.int .u8 0), .lit (.int .u8 0), .lit (.int .u8 0), .lit (.int .u8 0)], .lit (.int .u32 0), .nil], .lit (.int .i64 0)], [], places) :=
  ⟨[], by kernel_rfl⟩

set_option maxRecDepth 100000 in
theorem lifted (os : Os) (started : os.Started) (H : Type) (enc : TypeId × Value → H) (F : Stop.Interp) :
    ReturnsInHanded {} Tryd.checked os 5 .any ((OpenSpec.ofChange Rows.streamGoesSpec).preRow enc Tryd.prog Tryd.f5 Rows.streamGoesRow.domain false Rows.streamGoesRow.laid) (((OpenSpec.ofChange Rows.streamGoesSpec).at F).post enc Tryd.prog Tryd.f5 false true false false) := by
  obtain ⟨places, hx⟩ := reads os enc
  refine returnsInHanded_of_row (C := Tryd.checked) (s := OpenSpec.ofChange Rows.streamGoesSpec) own started (by kernel_rfl) Tryd.func5
    (witness_row_atRef (enc := enc) (C := Tryd.checked) false (World.doorLaid Tryd.prog 400 os) #[.agg (Value.int .u8 0 :: Value.int .u8 0 :: Value.int .u8 0 :: Value.int .u8 0 :: Value.int .u8 0 :: Value.int .u8 0 :: Value.int .u8 0 :: Value.int .u8 0 :: Value.int .u8 0 :: Value.int .u8 0 :: Value.int .u8 0 :: Value.int .u8 0 :: Value.int .u8 0 :: Value.int .u8 0 :: Value.int .u8 0 :: Value.int .u8 0 :: Value.int .u8 0 :: Value.int .u8 0 :: Value.int .u8 0 :: Value.int .u8 0 :: Value.int .u8 0 :: Value.int .u8 0 :: Value.int .u8 0 :: Value.int .u8 0 :: Value.int .u8 0 :: Value.int .u8 0 :: Value.int .u8 0 :: Value.int .u8 0 :: Value.int .u8 0 :: Value.int .u8 0 :: Value.int .u8 0 :: Value.int .u8 0 :: Value.int .u32 0 :: Value.slice none 0 0 :: []).toArray, .int .i64 0] rfl (by kernel_rfl) (by kernel_rfl) (by kernel_rfl)
      (OpenSpec.preRow_of_cond 8 hx (by kernel_rfl) (fun k hk => by cases hk) (by kernel_rfl) (laid_met os _))) ?_
  intro W base args ds gs before hval hW _ _ _ hL _ _
  exact contract H enc W base args ds gs before hval hW hL

theorem said : Rows.StreamGoesSaid :=
  OpenClaim.holds_of_cond 5 Tryd.f5 rfl rfl rfl rfl rfl rfl rfl ⟨rfl, rfl, rfl, rfl, rfl⟩ rfl rfl rfl rfl rfl (by kernel_rfl) Tryd.func5 (by kernel_rfl)
    (of_decide_eq_true (by kernel_rfl)) (by unfold Func.isWrapper; first | (rw [if_pos (by decide +kernel)]; kernel_rfl) | (rw [if_neg (by decide +kernel)]; exact ⟨rfl, rfl⟩))
    (fun os started H enc _ F => by rw [OpenClaim.pre_eq_preRow]; exact lifted os started H enc F)

theorem plain (f : FuncId) (fn : Func) (hf : Tryd.pinned.checked.prog.funcNamed "fellowship/fellowshiplaw06.StreamGoes" = some f) (hfn : Tryd.pinned.checked.prog.funcs[f]? = some fn) :
    true = Tryd.pinned.checked.prog.looks [] ∧ ∀ (j : Nat) t, fn.params[j]? = some t → Tryd.pinned.checked.prog.wantsStandIn t = false := by
  obtain rfl : f = 5 := Option.some.inj ((show Tryd.prog.funcNamed "fellowship/fellowshiplaw06.StreamGoes" = some 5 by kernel_rfl).symm.trans hf) |>.symm
  obtain rfl : fn = Tryd.f5 := (Option.some.inj (Tryd.func5.symm.trans hfn)).symm
  refine ⟨by kernel_rfl, fun j t ht => ?_⟩
  rw [Tryd.params5] at ht
  have hm : t ∈ [40, 3] := by simpa using Array.mem_of_getElem? ht
  have hall : ([40, 3].all fun u => !Tryd.prog.wantsStandIn u) = true := by kernel_rfl
  exact (show Tryd.prog.wantsStandIn t = false by simpa using List.all_eq_true.1 hall t hm)
end Go.Proofs.YtejcbboajikdkaaDoor.streamGoes
namespace Go.Proofs.YtejcbboajikdkaaDoor
theorem streamGoes_card : Rows.StreamGoesCardSaid :=
  Claim7.holds_tied_plain_at .later [] _ _ _ _ streamGoes.said (fun _ h => by cases h) (by kernel_rfl) (fun _ h => by cases h) streamGoes_row_tie rfl ⟨rfl, rfl⟩ (by kernel_rfl) rfl streamGoes.plain (by kernel_rfl)
#print axioms streamGoes_card
end Go.Proofs.YtejcbboajikdkaaDoor
