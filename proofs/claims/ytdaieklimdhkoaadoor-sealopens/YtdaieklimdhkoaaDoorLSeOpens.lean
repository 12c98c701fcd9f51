/- All bytes are opened as the document opens them, and those that it refuses are refused with the same error: the law fellowshiplaw08.SealOpens answers true at every input, where package api's errors hold what the program's text lays. -/
import Derived.Test.YtdaieklimdhkoaaDoorKSeOpens
namespace Go.Proofs.YtdaieklimdhkoaaDoor.sealOpens
open Go.ChangeShapes Go.WideShapes Go.ChangeAt Go.RowKit

set_option maxRecDepth 100000 in
theorem contract (H : Type) (enc : TypeId × Value → H) (W : World) (base : Nat) (args : Array Value) (ds gs : List (DataW H)) (before : List MemPlace)
    (hval : ∀ (j : Nat) t v, Tryd.f4.params[j]? = some t → args[j]? = some v → Value.okWide Tryd.prog W .any base t v)
    (hW : DataW.Whole enc Tryd.prog Tryd.f4.params.toList Rows.sealOpensSpec.vars false W args.toList ds gs before) (hL : laidMetH Tryd.prog Rows.sealOpensRow.laid W) :
    Calls Tryd.prog 4 args W fun e W' => ∃ v, e = .returned v ∧ Rows.sealOpensSpec.post enc Tryd.prog Tryd.f4 false true false false W args v W' := by
  have hW' := hW
  obtain ⟨p, q, hA0, hV, rfl, hfz, hnd⟩ := hW
  have hA : DataW.TrodAll enc Tryd.prog W 0 (fun _ => true) true Tryd.f4.params.toList args.toList ds p := hA0
  rw [Tryd.params4] at hA hval
  obtain ⟨v0, vs0, d0, ds0, p0, q0, hargs, rfl, rfl, h0, r0⟩ := trodAll_cons hA
  obtain ⟨v1, vs1, d1, ds1, p1, q1, rfl, rfl, rfl, h1, r1⟩ := trodAll_cons r0
  obtain ⟨rfl, rfl, rfl⟩ := trodAll_nil r1
  obtain rfl : args = #[v0, v1] := by cases args; simp_all
  have fin : ∀ W' : World, Below W.heap.size W W' → ∃ v, Ending.returned (.bool true) = .returned v ∧ Rows.sealOpensSpec.post enc Tryd.prog Tryd.f4 false true false false W #[v0, v1] v W' := fun W' hb =>
    ⟨_, rfl, law_post laidOut Tryd.underlying4 (by kernel_rfl) (by kernel_rfl) rfl ⟨rfl, rfl, rfl⟩ hW' hb⟩
  obtain ⟨key, A, d, ns, B, ca, ws, rfl, hk, nA, rA, hd1, hd2, nB, rB, hb1, hb2⟩ := open_case8 (hval 0 26 v0 rfl rfl) h0
  obtain ⟨D, c, bs, rfl, nD, rD, hc1, hc2⟩ := open_bytes (hval 1 24 v1 rfl rfl) h1
  obtain ⟨es, hE⟩ := errs_of hL
  have walk : Calls Tryd.prog 4 #[caseVal8 key A ns.length d B ws.length ca, .slice D bs.length c] W fun e w' => e = .returned (.bool true) ∧ Below W.heap.size W w' := by
    have CA : Hid (∀ V, Below W.heap.size W V → Calls Tryd.prog 7 #[] V fun e w' => e = .returned (.bool true) ∧ Below V.heap.size V w') := fun V hV => alive8 V es (hE.below hV)
    by_cases hn : ns.length ≤ 50 ∧ ws.length ≤ 17000 ∧ bs.length ≤ 17000
    · by_cases h12 : ns.length = 12
      · rw [h12] at hd1 ⊢
        by_cases h16 : bs.length < 16
        · obtain ⟨a, ha, hc⟩ := hE.var 1 (g := 2) rfl
          exact bad_over A B D d 12 ws.length ca bs.length c 1 2 key bs es a W hk (by omega) hn.2.1 hn.2.2 rfl rD nD hE ha rfl CA
            (fun gi ci V hV _ _ => sealOpen_short A B (some ⟨gi, 0, none⟩) d ws.length ca bs.length ci key ns a V hk h12 (rA.on hV) nA hd1 hd2 h16 ((hV.cell (block_lt_of_cell hc)).trans hc))
            (fun V hV => refOpen_short A B D d ws.length ca bs.length c key V h16)
        · by_cases hl : ws.length ≤ 16384 ∧ bs.length ≤ 16400
          · obtain ⟨ae, ha, hc⟩ := hE.var 6 (g := 6) rfl
            have hm : bs.length = (bs.length - 16) + 16 := by omega
            cases hr : sealCode key ns ws (bs.take (bs.length - 16)) == bs.drop (bs.length - 16) with
            | true =>
              exact ok_over A B D d ws.length ca bs.length (bs.length - 16) c key bs (chTurn key 1 ns (bs.take (bs.length - 16))) W hk hl.1 hl.2 rfl (show _ = _ by rw [chTurn_length, List.length_take]; omega) rD nD CA
                (fun gi ci V hV hR hci => (sealOpen_any A B (some ⟨gi, 0, none⟩) d ws.length ca bs.length ci (bs.length - 16) key ns ws bs ae true V hk h12 (rA.on hV) nA hd1 hd2 rfl (rB.on hV) hl.1 rfl hR hm (by omega) hci ((hV.cell (block_lt_of_cell hc)).trans hc) hr).mono fun _ _ h => h.1 rfl)
                (fun V hV => (refOpen_any A B D d ws.length ca bs.length c (bs.length - 16) key ns ws bs true V hk h12 (rA.on hV) rfl (rB.on hV) nB hl.1 rfl (rD.on hV) hm (by omega) hc1 hr).mono fun _ _ h => h.1 rfl)
            | false =>
              exact bad_over A B D d 12 ws.length ca bs.length c 6 7 key bs es ae W hk (by omega) hn.2.1 hn.2.2 rfl rD nD hE ha rfl CA
                (fun gi ci V hV hR hci => (sealOpen_any A B (some ⟨gi, 0, none⟩) d ws.length ca bs.length ci (bs.length - 16) key ns ws bs ae false V hk h12 (rA.on hV) nA hd1 hd2 rfl (rB.on hV) hl.1 rfl hR hm (by omega) hci ((hV.cell (block_lt_of_cell hc)).trans hc) hr).mono fun _ _ h => h.2 rfl)
                (fun V hV => (refOpen_any A B D d ws.length ca bs.length c (bs.length - 16) key ns ws bs false V hk h12 (rA.on hV) rfl (rB.on hV) nB hl.1 rfl (rD.on hV) hm (by omega) hc1 hr).mono fun _ _ h => h.2 rfl)
          · obtain ⟨a, ha, hc⟩ := hE.var 2 (g := 0) rfl
            exact bad_over A B D d 12 ws.length ca bs.length c 2 3 key bs es a W hk (by omega) hn.2.1 hn.2.2 rfl rD nD hE ha rfl CA
              (fun gi ci V hV _ _ => sealOpen_long A B (some ⟨gi, 0, none⟩) d ws.length ca bs.length ci key ns a V hk h12 (rA.on hV) nA hd1 hd2 (by omega) (by omega) ((hV.cell (block_lt_of_cell hc)).trans hc))
              (fun V hV => refOpen_long A B D d ws.length ca bs.length c key V (by omega) (by omega))
      · obtain ⟨a, ha, hc⟩ := hE.var 3 (g := 3) rfl
        exact bad_over A B D d ns.length ws.length ca bs.length c 3 4 key bs es a W hk hn.1 hn.2.1 hn.2.2 rfl rD nD hE ha rfl CA
          (fun gi ci V hV _ _ => sealOpen_out A B (some ⟨gi, 0, none⟩) d ns.length ws.length ca bs.length ci key a V hk h12 ((hV.cell (block_lt_of_cell hc)).trans hc))
          (fun V hV => refOpen_out A B D d ns.length ws.length ca bs.length c key V h12)
    · exact long_walk A B D d ns.length ws.length ca bs.length c key W hk (by omega) CA
  refine walk.mono fun e W' ⟨he, hb⟩ => ?_
  subst he
  exact fin W' hb

theorem laid_met (os : Os) (args : Array Value) : laidMetH Tryd.prog Rows.sealOpensRow.laid ((World.doorLaid Tryd.prog 400 os).forCall (fun _ _ => 0) ⟨#[], args, []⟩).memory :=
  laidMetH_of_parts3 (fuel := 8) (laidMet_of_run' 8 (by kernel_rfl) (by kernel_rfl)) (by kernel_rfl) (by kernel_rfl)
theorem reads (os : Os) {H : Type} (enc : TypeId × Value → H) : ∃ places, DataW.whole enc Tryd.prog ((World.doorLaid Tryd.prog 400 os).forCall (fun _ _ => 0) ⟨#[], #[.agg (Value.int .u8 0 :: Value.int .u8 0 :: Value.int .u8 0 :: Value.int .u8 0 :: Value.int .u8 0 :: Value.int .u8 0 :: Value.int .u8 0 :: Value.int .u8 0 :: Value.int .u8 0 :: Value.int .u8 0 :: Value.int .u8 0 :: Value.int .u8 0 :: Value.int .u8 0 :: Value.int .u8 0 :: Value.int .u8 0 :: Value.int .u8 0 :: Value.int .u8 0 :: Value.int .u8 0 :: Value.int .u8 0 :: Value.int .u8 0 :: Value.int .u8 0 :: Value.int .u8 0 :: Value.int .u8 0 :: Value.int .u8 0 :: Value.int .u8 0 :: Value.int .u8 0 :: Value.int .u8 0 :: Value.int .u8 0 :: Value.int .u8 0 :: Value.int .u8 0 :: Value.int .u8 0 :: Value.int .u8 0 :: Value.slice none 0 0 :: Value.slice none 0 0 :: []).toArray, .slice none 0 0], []⟩).memory Tryd.f4.params.toList Rows.sealOpensSpec.vars false (#[.agg (Value.int .u8 0 :: Value.int .u8 0 :: Value.int .u8 0 :: Value.int .u8 0 :: Value.int .u8 0 :: Value.int .u8 0 :: Value.int .u8 0 :: Value.int .u8 0 :: Value.int .u8 0 :: Value.int .u8 0 :: Value.int .u8 0 :: Value.int .u8 0 :: Value.int .u8 0 :: Value.int .u8 0 :: Value.int .u8 0 :: Value.int .u8 0 :: Value.int .u8 0 :: Value.int .u8 0 :: Value.int .u8 0 :: Value.int .u8 0 :: Value.int .u8 0 :: Value.int .u8 0 :: Value.int .u8 0 :: Value.int .u8 0 :: Value.int .u8 0 :: Value.int .u8 0 :: Value.int .u8 0 :: Value.int .u8 0 :: Value.int .u8 0 :: Value.int .u8 0 :: Value.int .u8 0 :: Value.int .u8 0 :: Value.slice none 0 0 :: Value.slice none 0 0 :: []).toArray, .slice none 0 0] : Array Value).toList 8 = some ([.agg [.agg [.lit (.int .u8 0), .lit (.int .u8 0), .lit (.int .u8 0), .lit (.int .u8 0), .lit (.int .u8 0), .lit (.int .u8 0), .lit (.int .u8 0), .lit (.int .u8 0), .lit (.int .u8 0), .lit (.int .u8 0), .lit (.int .u8 0), .lit (.int .u8 0), .lit (.int .u8 0), .lit (.int .u8 0), .lit (.int .u8 0), .lit (.int .u8 0), .lit (.int .u8 0), .lit (.int .u8 0), .lit (.int .u8 0), .lit (.int .u8 0), .lit (.int .u8 0), .lit (.int .u8 0), .lit (.int .u8 0), .lit (.int .u8 0), .lit (.int .u8 0), .lit (.int .u8 0), .lit (.int .u8 0), .lit (.int .u8 0), .lit (.int .u8 0), .lit (.int .u8 0), .lit (.int .u8 0), .lit (.int .u8 0)], .nil, .nil], .nil], [], places) :=
  ⟨[], by kernel_rfl⟩

set_option maxRecDepth 100000 in
theorem lifted (os : Os) (started : os.Started) (H : Type) (enc : TypeId × Value → H) (F : Stop.Interp) :
    ReturnsInHanded {} Tryd.checked os 4 .any ((OpenSpec.ofChange Rows.sealOpensSpec).preRow enc Tryd.prog Tryd.f4 Rows.sealOpensRow.domain false Rows.sealOpensRow.laid) (((OpenSpec.ofChange Rows.sealOpensSpec).at F).post enc Tryd.prog Tryd.f4 false true false false) := by
  obtain ⟨places, hx⟩ := reads os enc
  refine returnsInHanded_of_row (C := Tryd.checked) (s := OpenSpec.ofChange Rows.sealOpensSpec) own started (by kernel_rfl) Tryd.func4
    (witness_row_atRef (enc := enc) (C := Tryd.checked) false (World.doorLaid Tryd.prog 400 os) #[.agg (Value.int .u8 0 :: Value.int .u8 0 :: Value.int .u8 0 :: Value.int .u8 0 :: Value.int .u8 0 :: Value.int .u8 0 :: Value.int .u8 0 :: Value.int .u8 0 :: Value.int .u8 0 :: Value.int .u8 0 :: Value.int .u8 0 :: Value.int .u8 0 :: Value.int .u8 0 :: Value.int .u8 0 :: Value.int .u8 0 :: Value.int .u8 0 :: Value.int .u8 0 :: Value.int .u8 0 :: Value.int .u8 0 :: Value.int .u8 0 :: Value.int .u8 0 :: Value.int .u8 0 :: Value.int .u8 0 :: Value.int .u8 0 :: Value.int .u8 0 :: Value.int .u8 0 :: Value.int .u8 0 :: Value.int .u8 0 :: Value.int .u8 0 :: Value.int .u8 0 :: Value.int .u8 0 :: Value.int .u8 0 :: Value.slice none 0 0 :: Value.slice none 0 0 :: []).toArray, .slice none 0 0] rfl (by kernel_rfl) (by kernel_rfl) (by kernel_rfl)
      (OpenSpec.preRow_of_cond 8 hx (by kernel_rfl) (fun k hk => by cases hk) (by kernel_rfl) (laid_met os _))) ?_
  intro W base args ds gs before hval hW _ _ _ hL _ _
  exact contract H enc W base args ds gs before hval hW hL

theorem said : Rows.SealOpensSaid :=
  OpenClaim.holds_of_cond 4 Tryd.f4 rfl rfl rfl rfl rfl rfl rfl ⟨rfl, rfl, rfl, rfl, rfl⟩ rfl rfl rfl rfl rfl (by kernel_rfl) Tryd.func4 (by kernel_rfl)
    (of_decide_eq_true (by kernel_rfl)) (by unfold Func.isWrapper; first | (rw [if_pos (by decide +kernel)]; kernel_rfl) | (rw [if_neg (by decide +kernel)]; exact ⟨rfl, rfl⟩))
    (fun os started H enc _ F => by rw [OpenClaim.pre_eq_preRow]; exact lifted os started H enc F)

theorem plain (f : FuncId) (fn : Func) (hf : Tryd.pinned.checked.prog.funcNamed "fellowship/fellowshiplaw08.SealOpens" = some f) (hfn : Tryd.pinned.checked.prog.funcs[f]? = some fn) :
    true = Tryd.pinned.checked.prog.looks [] ∧ ∀ (j : Nat) t, fn.params[j]? = some t → Tryd.pinned.checked.prog.wantsStandIn t = false := by
  obtain rfl : f = 4 := Option.some.inj ((show Tryd.prog.funcNamed "fellowship/fellowshiplaw08.SealOpens" = some 4 by kernel_rfl).symm.trans hf) |>.symm
  obtain rfl : fn = Tryd.f4 := (Option.some.inj (Tryd.func4.symm.trans hfn)).symm
  refine ⟨by kernel_rfl, fun j t ht => ?_⟩
  rw [Tryd.params4] at ht
  have hm : t ∈ [26, 24] := by simpa using Array.mem_of_getElem? ht
  have hall : ([26, 24].all fun u => !Tryd.prog.wantsStandIn u) = true := by kernel_rfl
  exact (show Tryd.prog.wantsStandIn t = false by simpa using List.all_eq_true.1 hall t hm)
end Go.Proofs.YtdaieklimdhkoaaDoor.sealOpens
namespace Go.Proofs.YtdaieklimdhkoaaDoor
theorem sealOpens_card : Rows.SealOpensCardSaid :=
  Claim7.holds_tied_plain_at .later [] _ _ _ _ sealOpens.said (fun _ h => by cases h) (by kernel_rfl) (fun _ h => by cases h) sealOpens_row_tie rfl ⟨rfl, rfl⟩ (by kernel_rfl) rfl sealOpens.plain (by kernel_rfl)
#print axioms sealOpens_card
end Go.Proofs.YtdaieklimdhkoaaDoor
