/- Two rows that are turned by one key are as unlike as they were: the law fellowshiplaw06.StreamLike answers true at every input, where three of package api's errors hold what the program's text lays. -/
import Derived.Test.YtejcbboajikdkaaDoorKStLike
namespace Go.Proofs.YtejcbboajikdkaaDoor.streamLike
open Go.ChangeShapes Go.WideShapes Go.ChangeAt Go.RowKit
theorem form_of {W : World} (h : laidMetH Tryd.prog ([errTexts[0]!, errTexts[2]!, errTexts[3]!].map fun x => (x.1, .iface "*errors.errorString" (.ptr (.agg [.lit (.string x.2)])))) W) : ∃ a, W.cell? ⟨0, 0, none⟩ = some (errAt a) := by
  rw [MakeChecks.laidMetH_plain _ _ _ (by kernel_rfl)] at h
  obtain ⟨ps, hv, hnd, hrows⟩ := h
  obtain ⟨es, h1, _, _, h4⟩ := sentinels [errTexts[0]!, errTexts[2]!, errTexts[3]!] [1, 3, 0] ps (by kernel_rfl) (fun g hg => by
    have hall : ([1, 3, 0].all fun g => ((Tryd.prog.globals[g]?).map (·.type)) == some 33) = true := by kernel_rfl
    simpa using List.all_eq_true.1 hall g hg) hv hnd hrows
  match es, h1 with
  | [_, _, a], _ => exact ⟨a, (h4 2 _ a rfl rfl).1⟩

set_option maxRecDepth 100000 in
theorem contract (H : Type) (enc : TypeId × Value → H) (W : World) (base : Nat) (args : Array Value) (ds gs : List (DataW H)) (before : List MemPlace)
    (hval : ∀ (j : Nat) t v, Tryd.f6.params[j]? = some t → args[j]? = some v → Value.okWide Tryd.prog W .any base t v)
    (hW : DataW.Whole enc Tryd.prog Tryd.f6.params.toList Rows.streamLikeSpec.vars false W args.toList ds gs before) (hL : laidMetH Tryd.prog Rows.streamLikeRow.laid W) :
    Calls Tryd.prog 6 args W fun e W' => ∃ v, e = .returned v ∧ Rows.streamLikeSpec.post enc Tryd.prog Tryd.f6 false true false false W args v W' := by
  have hW' := hW
  obtain ⟨p, q, hA0, hV, rfl, hfz, hnd⟩ := hW
  have hA : DataW.TrodAll enc Tryd.prog W 0 (fun _ => true) true Tryd.f6.params.toList args.toList ds p := hA0
  rw [Tryd.params6] at hA hval
  obtain ⟨v0, vs0, d0, ds0, p0, q0, hargs, rfl, rfl, h0, r0⟩ := trodAll_cons hA
  obtain ⟨v1, vs1, d1, ds1, p1, q1, rfl, rfl, rfl, h1, r1⟩ := trodAll_cons r0
  obtain ⟨v2, vs2, d2, ds2, p2, q2, rfl, rfl, rfl, h2, r2⟩ := trodAll_cons r1
  obtain ⟨rfl, rfl, rfl⟩ := trodAll_nil r2
  obtain rfl : args = #[v0, v1, v2] := by cases args; simp_all
  have fin : ∀ W' : World, Below W.heap.size W W' → ∃ v, Ending.returned (.bool true) = .returned v ∧ Rows.streamLikeSpec.post enc Tryd.prog Tryd.f6 false true false false W #[v0, v1, v2] v W' := fun W' hb =>
    ⟨_, rfl, law_post laidOut Tryd.underlying4 (by kernel_rfl) (by kernel_rfl) rfl ⟨rfl, rfl, rfl⟩ hW' hb⟩
  obtain ⟨key, x, A, d, ns, rfl, hk, nA, rA, hd1, hd2⟩ := open_case (hval 0 40 v0 rfl rfl) h0
  obtain ⟨B, c, xs, rfl, nB, rB, hc1, hc2⟩ := open_bytes (hval 1 26 v1 rfl rfl) h1
  obtain ⟨D, m, bs, rfl, nD, rD, hm1, hm2⟩ := open_bytes (hval 2 26 v2 rfl rfl) h2
  obtain ⟨a, ha⟩ := form_of hL
  have walk : Calls Tryd.prog 6 #[caseVal key x A ns.length d, .slice B xs.length c, .slice D bs.length m] W fun e w' => e = .returned (.bool true) ∧ Below W.heap.size W w' := by
    by_cases hn : ns.length = 12 ∧ xs.length ≤ 300 ∧ bs.length ≤ 300
    · obtain ⟨h12, hx, hb⟩ := hn
      rw [h12] at hd1 ⊢
      exact in_over A B D d xs.length c bs.length m key xs bs (chTurn key x ns xs) (chTurn key x ns bs) x a W hk hx hb rfl rfl (chTurn_length _ _ _ _) (chTurn_length _ _ _ _) rB rD
        (fun k h1 h2 => by
          show (chTurned _ _ _).getD k 0 ^^^ (chTurned _ _ _).getD k 0 = _
          rw [chTurned_at _ _ _ _ h1, chTurned_at _ _ _ _ h2]
          generalize chByte (chOpened key x ns) k = s
          rw [UInt8.xor_comm (bs.getD k 0) s, UInt8.xor_assoc, ← UInt8.xor_assoc s s, UInt8.xor_self, UInt8.zero_xor])
        (fun V hV => streamTurn_any A B d c xs.length key ns xs x V hk h12 (rA.on hV) nA hd1 hd2 rfl (rB.on hV) (by omega))
        (fun V hV => streamTurn_any A D d m bs.length key ns bs x V hk h12 (rA.on hV) nA hd1 hd2 rfl (rD.on hV) (by omega))
        (fun V hV => streamBlock_out none 0 0 nokey 0 (errAt a) V (by omega) ((hV.cell (block_lt_of_cell ha)).trans ha))
    · exact long_walk A B D d ns.length xs.length c bs.length m key x W hk (by omega)
  refine walk.mono fun e W' ⟨he, hb⟩ => ?_
  subst he
  exact fin W' hb

theorem laid_met (os : Os) (args : Array Value) : laidMetH Tryd.prog Rows.streamLikeRow.laid ((World.doorLaid Tryd.prog 400 os).forCall (fun _ _ => 0) ⟨#[], args, []⟩).memory :=
  laidMetH_of_parts3 (fuel := 8) (laidMet_of_run' 8 (by kernel_rfl) (by kernel_rfl)) (by kernel_rfl) (by kernel_rfl)
theorem reads (os : Os) {H : Type} (enc : TypeId × Value → H) : ∃ places, DataW.whole enc Tryd.prog ((World.doorLaid Tryd.prog 400 os).forCall (fun _ _ => 0) ⟨#[], #[.agg (Value.int .u8 0 :: Value.int .u8 0 :: Value.int .u8 0 :: Value.int .u8 0 :: Value.int .u8 0 :: Value.int .u8 0 :: Value.int .u8 0 :: Value.int .u8 0 :: Value.int .u8 0 :: Value.int .u8 0 :: Value.int .u8 0 :: Value.int .u8 0 :: Value.int .u8 0 :: Value.int .u8 0 :: Value.int .u8 0 :: Value.int .u8 0 :: Value.int .u8 0 :: Value.int .u8 0 :: Value.int .u8 0 :: Value.int .u8 0 :: Value.int .u8 0 :: Value.int .u8 0 :: Value.int .u8 0 :: Value.int .u8 0 :: Value.int .u8 0 :: Value.int .u8 0 :: Value.int .u8 0 :: Value.int .u8 0 :: Value.int .u8 0 :: Value.int .u8 0 :: Value.int .u8 0 :: Value.int .u8 0 :: Value.int .u32 0 :: Value.slice none 0 0 :: []).toArray, .slice none 0 0, .slice none 0 0], []⟩).memory Tryd.f6.params.toList Rows.streamLikeSpec.vars false (#[.agg (Value.int .u8 0 :: Value.int .u8 0 :: Value.int .u8 0 :: Value.int .u8 0 :: Value.int .u8 0 :: Value.int .u8 0 :: Value.int .u8 0 :: Value.int .u8 0 :: Value.int .u8 0 :: Value.int .u8 0 :: Value.int .u8 0 :: Value.int .u8 0 :: Value.int .u8 0 :: Value.int .u8 0 :: Value.int .u8 0 :: Value.int .u8 0 :: Value.int .u8 0 :: Value.int .u8 0 :: Value.int .u8 0 :: Value.int .u8 0 :: Value.int .u8 0 :: Value.int .u8 0 :: Value.int .u8 0 :: Value.int .u8 0 :: Value.int .u8 0 :: Value.int .u8 0 :: Value.int .u8 0 :: Value.int .u8 0 :: Value.int .u8 0 :: Value.int .u8 0 :: Value.int .u8 0 :: Value.int .u8 0 :: Value.int .u32 0 :: Value.slice none 0 0 :: []).toArray, .slice none 0 0, .slice none 0 0] : Array Value).toList 8 = some ([.agg [.agg [.lit (.int .u8 0), .lit (.int .u8 0), .lit (.int .u8 0), .lit (.int .u8 0), .lit (.int .u8 0), .lit (.int .u8 0), .lit (.int .u8 0), .lit (.int .u8 0), .lit (.int .u8 0), .lit (.int .u8 0), .lit (.int .u8 0), .lit (.int .u8 0), .lit (.int .u8 0), .lit (.int .u8 0), .lit (.int .u8 0), .lit (.int .u8 0), .lit (.int .u8 0), .lit (.int .u8 0), .lit (.int .u8 0), .lit (.int .u8 0), .lit (.int .u8 0), .lit (.int .u8 0), .lit (.int .u8 0), .lit (.int .u8 0), .lit (.int .u8 0), .lit (.int .u8 0), .lit (.int .u8 0), .lit (.int .u8 0), .lit (.int .u8 0), .lit (.int .u8 0), .lit (.int .u8 0), .lit (.int .u8 0)], .lit (.int .u32 0), .nil], .nil, .nil], [], places) :=
  ⟨[], by kernel_rfl⟩

set_option maxRecDepth 100000 in
theorem lifted (os : Os) (started : os.Started) (H : Type) (enc : TypeId × Value → H) (F : Stop.Interp) :
    ReturnsInHanded {} Tryd.checked os 6 .any ((OpenSpec.ofChange Rows.streamLikeSpec).preRow enc Tryd.prog Tryd.f6 Rows.streamLikeRow.domain false Rows.streamLikeRow.laid) (((OpenSpec.ofChange Rows.streamLikeSpec).at F).post enc Tryd.prog Tryd.f6 false true false false) := by
  obtain ⟨places, hx⟩ := reads os enc
  refine returnsInHanded_of_row (C := Tryd.checked) (s := OpenSpec.ofChange Rows.streamLikeSpec) own started (by kernel_rfl) Tryd.func6
    (witness_row_atRef (enc := enc) (C := Tryd.checked) false (World.doorLaid Tryd.prog 400 os) #[.agg (Value.int .u8 0 :: Value.int .u8 0 :: Value.int .u8 0 :: Value.int .u8 0 :: Value.int .u8 0 :: Value.int .u8 0 :: Value.int .u8 0 :: Value.int .u8 0 :: Value.int .u8 0 :: Value.int .u8 0 :: Value.int .u8 0 :: Value.int .u8 0 :: Value.int .u8 0 :: Value.int .u8 0 :: Value.int .u8 0 :: Value.int .u8 0 :: Value.int .u8 0 :: Value.int .u8 0 :: Value.int .u8 0 :: Value.int .u8 0 :: Value.int .u8 0 :: Value.int .u8 0 :: Value.int .u8 0 :: Value.int .u8 0 :: Value.int .u8 0 :: Value.int .u8 0 :: Value.int .u8 0 :: Value.int .u8 0 :: Value.int .u8 0 :: Value.int .u8 0 :: Value.int .u8 0 :: Value.int .u8 0 :: Value.int .u32 0 :: Value.slice none 0 0 :: []).toArray, .slice none 0 0, .slice none 0 0] rfl (by kernel_rfl) (by kernel_rfl) (by kernel_rfl)
      (OpenSpec.preRow_of_cond 8 hx (by kernel_rfl) (fun k hk => by cases hk) (by kernel_rfl) (laid_met os _))) ?_
  intro W base args ds gs before hval hW _ _ _ hL _ _
  exact contract H enc W base args ds gs before hval hW hL

theorem said : Rows.StreamLikeSaid :=
  OpenClaim.holds_of_cond 6 Tryd.f6 rfl rfl rfl rfl rfl rfl rfl ⟨rfl, rfl, rfl, rfl, rfl⟩ rfl rfl rfl rfl rfl (by kernel_rfl) Tryd.func6 (by kernel_rfl)
    (of_decide_eq_true (by kernel_rfl)) (by unfold Func.isWrapper; first | (rw [if_pos (by decide +kernel)]; kernel_rfl) | (rw [if_neg (by decide +kernel)]; exact ⟨rfl, rfl⟩))
    (fun os started H enc _ F => by rw [OpenClaim.pre_eq_preRow]; exact lifted os started H enc F)

theorem plain (f : FuncId) (fn : Func) (hf : Tryd.pinned.checked.prog.funcNamed "fellowship/fellowshiplaw06.StreamLike" = some f) (hfn : Tryd.pinned.checked.prog.funcs[f]? = some fn) :
    true = Tryd.pinned.checked.prog.looks [] ∧ ∀ (j : Nat) t, fn.params[j]? = some t → Tryd.pinned.checked.prog.wantsStandIn t = false := by
  obtain rfl : f = 6 := Option.some.inj ((show Tryd.prog.funcNamed "fellowship/fellowshiplaw06.StreamLike" = some 6 by kernel_rfl).symm.trans hf) |>.symm
  obtain rfl : fn = Tryd.f6 := (Option.some.inj (Tryd.func6.symm.trans hfn)).symm
  refine ⟨by kernel_rfl, fun j t ht => ?_⟩
  rw [Tryd.params6] at ht
  have hm : t ∈ [40, 26, 26] := by simpa using Array.mem_of_getElem? ht
  have hall : ([40, 26, 26].all fun u => !Tryd.prog.wantsStandIn u) = true := by kernel_rfl
  exact (show Tryd.prog.wantsStandIn t = false by simpa using List.all_eq_true.1 hall t hm)
end Go.Proofs.YtejcbboajikdkaaDoor.streamLike
namespace Go.Proofs.YtejcbboajikdkaaDoor
theorem streamLike_card : Rows.StreamLikeCardSaid :=
  Claim7.holds_tied_plain_at .later [] _ _ _ _ streamLike.said (fun _ h => by cases h) (by kernel_rfl) (fun _ h => by cases h) streamLike_row_tie rfl ⟨rfl, rfl⟩ (by kernel_rfl) rfl streamLike.plain (by kernel_rfl)
#print axioms streamLike_card
end Go.Proofs.YtejcbboajikdkaaDoor
