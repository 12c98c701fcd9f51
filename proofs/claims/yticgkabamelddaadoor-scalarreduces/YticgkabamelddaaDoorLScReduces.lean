/- Every wide number modulo the order, which numbers are below it, and their bits are the document's: the law fellowshiplaw11.ScalarReduces answers true at every input, where package scalar's tables hold what the program's text lays. -/
import Derived.Test.YticgkabamelddaaDoorKScReduces
import Derived.Test.YticgkabamelddaaDoorTBit
import Derived.Test.YticgkabamelddaaDoorPart13
namespace Go.Proofs.YticgkabamelddaaDoor.scalarReduces
open Go.ChangeShapes Go.WideShapes Go.ChangeAt Go.RowKit
/-- An array of 64 bytes that comes in by value. -/
theorem open_wide {H : Type} {enc : TypeId × Value → H} {W : World} {r : Reach} {b0 : Nat} {v : Value} {d : DataW H} {p : List MemPlace} (hv : Value.okWide Tryd.prog W r b0 23 v) (h : DataW.Trod enc Tryd.prog W 0 (fun _ => true) true 23 v d p) : ∃ s : List UInt8, v = hashVal s ∧ s.length = 64 := by
  obtain ⟨zs, rfl, hz, hw⟩ := open_intarr Tryd.underlying23 Tryd.underlying5 cells_u8 (by kernel_rfl) hv h
  obtain ⟨bs, h1, h2⟩ := bytes_of_ints zs hw
  exact ⟨bs, by unfold hashVal; rw [h1], by omega⟩
theorem putL_lev (b : List UInt8) (hb : b.length = 32) : putL (lev b) 32 = b := by
  have h := lev_inj (putL (lev b) 32) b (by rw [putL_length, hb]) (by rw [lev_putL, Nat.mod_eq_of_lt (by have := lev_lt b; rw [hb] at this; exact this)])
  exact h
theorem key_is (b : List UInt8) (hb : b.length = 32) : (putL (lev b % NP.LL) 32 == b) = decide (lev b < NP.LL) := by
  by_cases h : lev b < NP.LL
  · rw [decide_eq_true h, Nat.mod_eq_of_lt h, putL_lev b hb, beq_self_eq_true]
  · rw [decide_eq_false h, beq_eq_false_iff_ne]
    intro e
    have h2 := congrArg lev e
    rw [lev_key _ (mod_LL _)] at h2
    exact h (by rw [← h2]; exact mod_LL _)
set_option maxRecDepth 100000 in
theorem contract (H : Type) (enc : TypeId × Value → H) (W : World) (base : Nat) (args : Array Value) (ds gs : List (DataW H)) (before : List MemPlace)
    (hval : ∀ (j : Nat) t v, Tryd.f3.params[j]? = some t → args[j]? = some v → Value.okWide Tryd.prog W .any base t v)
    (hW : DataW.Whole enc Tryd.prog Tryd.f3.params.toList Rows.scalarReducesSpec.vars false W args.toList ds gs before) (hL : laidMetH Tryd.prog Rows.scalarReducesRow.laid W) :
    Calls Tryd.prog 3 args W fun e W' => ∃ v, e = .returned v ∧ Rows.scalarReducesSpec.post enc Tryd.prog Tryd.f3 false true false false W args v W' := by
  have hW' := hW
  obtain ⟨p, q, hA0, hV, rfl, hfz, hnd⟩ := hW
  have hA : DataW.TrodAll enc Tryd.prog W 0 (fun _ => true) true Tryd.f3.params.toList args.toList ds p := hA0
  rw [Tryd.params3] at hA hval
  obtain ⟨v0, vs0, d0, ds0, p0, q0, hargs, rfl, rfl, h0, r0⟩ := trodAll_cons hA
  obtain ⟨v1, vs1, d1, ds1, p1, q1, rfl, rfl, rfl, h1, r1⟩ := trodAll_cons r0
  obtain ⟨v2, vs2, d2, ds2, p2, q2, rfl, rfl, rfl, h2, r2⟩ := trodAll_cons r1
  obtain ⟨rfl, rfl, rfl⟩ := trodAll_nil r2
  obtain rfl : args = #[v0, v1, v2] := by cases args; simp_all
  have fin : ∀ W' : World, Below W.heap.size W W' → ∃ v, Ending.returned (.bool true) = .returned v ∧ Rows.scalarReducesSpec.post enc Tryd.prog Tryd.f3 false true false false W #[v0, v1, v2] v W' := fun W' hb =>
    ⟨_, rfl, law_post laidOut Tryd.underlying4 (by kernel_rfl) (by kernel_rfl) rfl ⟨rfl, rfl, rfl⟩ hW' hb⟩
  obtain ⟨x, rfl, hx⟩ := open_wide (hval 0 23 v0 rfl rfl) h0
  obtain ⟨s, rfl, hs⟩ := open_key (hval 1 25 v1 rfl rfl) h1
  obtain ⟨i, rfl, rfl, rfl, wi⟩ := open_int Tryd.underlying3 (hval 2 3 v2 rfl rfl) h2
  have hS := tabsS_of hL
  have kl : ∀ n, (putL n 32).length = 32 := fun n => putL_length n 32
  have hz := key_is s hs
  refine (scReduces_over x s (putL (lev x % NP.LL) 32) (putL (lev s % NP.LL) 32) i (sbit s i) (decide (lev s < NP.LL)) W hx hs (fun V hV => alive11 V hV) (fun V hV => scReduce_any x V hx hV) (fun V hV => refMod11_any _ 64 64 x V hx (by decide) hV.all) (fun g V hV => refMod11_any _ 32 32 s V hs (by decide) hV.all) (fun V hV => scRight_any s V hs hV) (fun V => scBit_any s i V hs) (keyS_neq _ (kl _)) (fun V => by rw [← hz]; exact key_eql _ _ (kl _) hs V) hS ?_).mono fun e W' ⟨he, hbl⟩ => ?_
  · rcases Int.lt_or_le i 0 with h | h
    · exact .inl ⟨h, by rw [sbit, if_neg (by omega)]⟩
    · rcases Int.lt_or_le i 256 with h3 | h3
      · obtain ⟨n, rfl⟩ := Int.eq_ofNat_of_zero_le h
        refine .inr (.inr ⟨n, s.getD (n / 8) 0, rfl, by omega, ?_, ?_⟩)
        · show _ = _
          rw [List.getElem?_map, List.getD_eq_getElem?_getD, List.getElem?_eq_getElem (by omega)]; rfl
        · rw [show sbit s (n : Int) = kbit s n from by rw [sbit, if_pos ⟨h, h3⟩]; rfl]
          exact bit8_at _ (n % 8) _ (UInt8.toNat_lt _) (Nat.mod_lt _ (by decide)) rfl
      · exact .inr (.inl ⟨h3, by rw [sbit, if_neg (by omega)]⟩)
  subst he
  exact fin W' hbl

theorem laid_met (os : Os) (args : Array Value) : laidMetH Tryd.prog Rows.scalarReducesRow.laid ((World.doorLaid Tryd.prog 400 os).forCall (fun _ _ => 0) ⟨#[], args, []⟩).memory :=
  laidMetH_of_parts3 (fuel := 8) (laidMet_of_run' 8 (by kernel_rfl) (by kernel_rfl)) (by kernel_rfl) (by kernel_rfl)
theorem reads (os : Os) {H : Type} (enc : TypeId × Value → H) : ∃ places, DataW.whole enc Tryd.prog ((World.doorLaid Tryd.prog 400 os).forCall (fun _ _ => 0) ⟨#[], #[.agg (Value.int .u8 0 :: Value.int .u8 0 :: Value.int .u8 0 :: Value.int .u8 0 :: Value.int .u8 0 :: Value.int .u8 0 :: Value.int .u8 0 :: Value.int .u8 0 :: Value.int .u8 0 :: Value.int .u8 0 :: Value.int .u8 0 :: Value.int .u8 0 :: Value.int .u8 0 :: Value.int .u8 0 :: Value.int .u8 0 :: Value.int .u8 0 :: Value.int .u8 0 :: Value.int .u8 0 :: Value.int .u8 0 :: Value.int .u8 0 :: Value.int .u8 0 :: Value.int .u8 0 :: Value.int .u8 0 :: Value.int .u8 0 :: Value.int .u8 0 :: Value.int .u8 0 :: Value.int .u8 0 :: Value.int .u8 0 :: Value.int .u8 0 :: Value.int .u8 0 :: Value.int .u8 0 :: Value.int .u8 0 :: Value.int .u8 0 :: Value.int .u8 0 :: Value.int .u8 0 :: Value.int .u8 0 :: Value.int .u8 0 :: Value.int .u8 0 :: Value.int .u8 0 :: Value.int .u8 0 :: Value.int .u8 0 :: Value.int .u8 0 :: Value.int .u8 0 :: Value.int .u8 0 :: Value.int .u8 0 :: Value.int .u8 0 :: Value.int .u8 0 :: Value.int .u8 0 :: Value.int .u8 0 :: Value.int .u8 0 :: Value.int .u8 0 :: Value.int .u8 0 :: Value.int .u8 0 :: Value.int .u8 0 :: Value.int .u8 0 :: Value.int .u8 0 :: Value.int .u8 0 :: Value.int .u8 0 :: Value.int .u8 0 :: Value.int .u8 0 :: Value.int .u8 0 :: Value.int .u8 0 :: Value.int .u8 0 :: Value.int .u8 0 :: []).toArray, .agg #[.int .u8 0, .int .u8 0, .int .u8 0, .int .u8 0, .int .u8 0, .int .u8 0, .int .u8 0, .int .u8 0, .int .u8 0, .int .u8 0, .int .u8 0, .int .u8 0, .int .u8 0, .int .u8 0, .int .u8 0, .int .u8 0, .int .u8 0, .int .u8 0, .int .u8 0, .int .u8 0, .int .u8 0, .int .u8 0, .int .u8 0, .int .u8 0, .int .u8 0, .int .u8 0, .int .u8 0, .int .u8 0, .int .u8 0, .int .u8 0, .int .u8 0, .int .u8 0], .int .i64 0], []⟩).memory Tryd.f3.params.toList Rows.scalarReducesSpec.vars false (#[.agg (Value.int .u8 0 :: Value.int .u8 0 :: Value.int .u8 0 :: Value.int .u8 0 :: Value.int .u8 0 :: Value.int .u8 0 :: Value.int .u8 0 :: Value.int .u8 0 :: Value.int .u8 0 :: Value.int .u8 0 :: Value.int .u8 0 :: Value.int .u8 0 :: Value.int .u8 0 :: Value.int .u8 0 :: Value.int .u8 0 :: Value.int .u8 0 :: Value.int .u8 0 :: Value.int .u8 0 :: Value.int .u8 0 :: Value.int .u8 0 :: Value.int .u8 0 :: Value.int .u8 0 :: Value.int .u8 0 :: Value.int .u8 0 :: Value.int .u8 0 :: Value.int .u8 0 :: Value.int .u8 0 :: Value.int .u8 0 :: Value.int .u8 0 :: Value.int .u8 0 :: Value.int .u8 0 :: Value.int .u8 0 :: Value.int .u8 0 :: Value.int .u8 0 :: Value.int .u8 0 :: Value.int .u8 0 :: Value.int .u8 0 :: Value.int .u8 0 :: Value.int .u8 0 :: Value.int .u8 0 :: Value.int .u8 0 :: Value.int .u8 0 :: Value.int .u8 0 :: Value.int .u8 0 :: Value.int .u8 0 :: Value.int .u8 0 :: Value.int .u8 0 :: Value.int .u8 0 :: Value.int .u8 0 :: Value.int .u8 0 :: Value.int .u8 0 :: Value.int .u8 0 :: Value.int .u8 0 :: Value.int .u8 0 :: Value.int .u8 0 :: Value.int .u8 0 :: Value.int .u8 0 :: Value.int .u8 0 :: Value.int .u8 0 :: Value.int .u8 0 :: Value.int .u8 0 :: Value.int .u8 0 :: Value.int .u8 0 :: Value.int .u8 0 :: []).toArray, .agg #[.int .u8 0, .int .u8 0, .int .u8 0, .int .u8 0, .int .u8 0, .int .u8 0, .int .u8 0, .int .u8 0, .int .u8 0, .int .u8 0, .int .u8 0, .int .u8 0, .int .u8 0, .int .u8 0, .int .u8 0, .int .u8 0, .int .u8 0, .int .u8 0, .int .u8 0, .int .u8 0, .int .u8 0, .int .u8 0, .int .u8 0, .int .u8 0, .int .u8 0, .int .u8 0, .int .u8 0, .int .u8 0, .int .u8 0, .int .u8 0, .int .u8 0, .int .u8 0], .int .i64 0] : Array Value).toList 8 = some ([.agg (.lit (.int .u8 0) :: .lit (.int .u8 0) :: .lit (.int .u8 0) :: .lit (.int .u8 0) :: .lit (.int .u8 0) :: .lit (.int .u8 0) :: .lit (.int .u8 0) :: .lit (.int .u8 0) :: .lit (.int .u8 0) :: .lit (.int .u8 0) :: .lit (.int .u8 0) :: .lit (.int .u8 0) :: .lit (.int .u8 0) :: .lit (.int .u8 0) :: .lit (.int .u8 0) :: .lit (.int .u8 0) :: .lit (.int .u8 0) :: .lit (.int .u8 0) :: .lit (.int .u8 0) :: .lit (.int .u8 0) :: .lit (.int .u8 0) :: .lit (.int .u8 0) :: .lit (.int .u8 0) :: .lit (.int .u8 0) :: .lit (.int .u8 0) :: .lit (.int .u8 0) :: .lit (.int .u8 0) :: .lit (.int .u8 0) :: .lit (.int .u8 0) :: .lit (.int .u8 0) :: .lit (.int .u8 0) :: .lit (.int .u8 0) :: .lit (.int .u8 0) :: .lit (.int .u8 0) :: .lit (.int .u8 0) :: .lit (.int .u8 0) :: .lit (.int .u8 0) :: .lit (.int .u8 0) :: .lit (.int .u8 0) :: .lit (.int .u8 0) :: .lit (.int .u8 0) :: .lit (.int .u8 0) :: .lit (.int .u8 0) :: .lit (.int .u8 0) :: .lit (.int .u8 0) :: .lit (.int .u8 0) :: .lit (.int .u8 0) :: .lit (.int .u8 0) :: .lit (.int .u8 0) :: .lit (.int .u8 0) :: .lit (.int .u8 0) :: .lit (.int .u8 0) :: .lit (.int .u8 0) :: .lit (.int .u8 0) :: .lit (.int .u8 0) :: .lit (.int .u8 0) :: .lit (.int .u8 0) :: .lit (.int .u8 0) :: .lit (.int .u8 0) :: .lit (.int .u8 0) :: .lit (.int .u8 0) :: .lit (.int .u8 0) :: .lit (.int .u8 0) :: .lit (.int .u8 0) :: []), .agg [.lit (.int .u8 0), .lit (.int .u8 0), .lit (.int .u8 0), .lit (.int .u8 0), .lit (.int .u8 0), .lit (.int .u8 0), .lit (.int .u8 0), .lit (.int .u8 0), .lit (.int .u8 0), .lit (.int .u8 0), .lit (.int .u8 0), .lit (.int .u8 0), .lit (.int .u8 0), .lit (.int .u8 0), .lit (.int .u8 0), .lit (.int .u8 0), .lit (.int .u8 0), .lit (.int .u8 0), .lit (.int .u8 0), .lit (.int .u8 0), .lit (.int .u8 0), .lit (.int .u8 0), .lit (.int .u8 0), .lit (.int .u8 0), .lit (.int .u8 0), .lit (.int .u8 0), .lit (.int .u8 0), .lit (.int .u8 0), .lit (.int .u8 0), .lit (.int .u8 0), .lit (.int .u8 0), .lit (.int .u8 0)], .lit (.int .i64 0)], [], places) :=
  ⟨[], by kernel_rfl⟩

set_option maxRecDepth 100000 in
theorem lifted (os : Os) (started : os.Started) (H : Type) (enc : TypeId × Value → H) (F : Stop.Interp) :
    ReturnsInHanded {} Tryd.checked os 3 .any ((OpenSpec.ofChange Rows.scalarReducesSpec).preRow enc Tryd.prog Tryd.f3 Rows.scalarReducesRow.domain false Rows.scalarReducesRow.laid) (((OpenSpec.ofChange Rows.scalarReducesSpec).at F).post enc Tryd.prog Tryd.f3 false true false false) := by
  obtain ⟨places, hx⟩ := reads os enc
  refine returnsInHanded_of_row (C := Tryd.checked) (s := OpenSpec.ofChange Rows.scalarReducesSpec) own started (by kernel_rfl) Tryd.func3
    (witness_row_atRef (enc := enc) (C := Tryd.checked) false (World.doorLaid Tryd.prog 400 os) #[.agg (Value.int .u8 0 :: Value.int .u8 0 :: Value.int .u8 0 :: Value.int .u8 0 :: Value.int .u8 0 :: Value.int .u8 0 :: Value.int .u8 0 :: Value.int .u8 0 :: Value.int .u8 0 :: Value.int .u8 0 :: Value.int .u8 0 :: Value.int .u8 0 :: Value.int .u8 0 :: Value.int .u8 0 :: Value.int .u8 0 :: Value.int .u8 0 :: Value.int .u8 0 :: Value.int .u8 0 :: Value.int .u8 0 :: Value.int .u8 0 :: Value.int .u8 0 :: Value.int .u8 0 :: Value.int .u8 0 :: Value.int .u8 0 :: Value.int .u8 0 :: Value.int .u8 0 :: Value.int .u8 0 :: Value.int .u8 0 :: Value.int .u8 0 :: Value.int .u8 0 :: Value.int .u8 0 :: Value.int .u8 0 :: Value.int .u8 0 :: Value.int .u8 0 :: Value.int .u8 0 :: Value.int .u8 0 :: Value.int .u8 0 :: Value.int .u8 0 :: Value.int .u8 0 :: Value.int .u8 0 :: Value.int .u8 0 :: Value.int .u8 0 :: Value.int .u8 0 :: Value.int .u8 0 :: Value.int .u8 0 :: Value.int .u8 0 :: Value.int .u8 0 :: Value.int .u8 0 :: Value.int .u8 0 :: Value.int .u8 0 :: Value.int .u8 0 :: Value.int .u8 0 :: Value.int .u8 0 :: Value.int .u8 0 :: Value.int .u8 0 :: Value.int .u8 0 :: Value.int .u8 0 :: Value.int .u8 0 :: Value.int .u8 0 :: Value.int .u8 0 :: Value.int .u8 0 :: Value.int .u8 0 :: Value.int .u8 0 :: Value.int .u8 0 :: []).toArray, .agg #[.int .u8 0, .int .u8 0, .int .u8 0, .int .u8 0, .int .u8 0, .int .u8 0, .int .u8 0, .int .u8 0, .int .u8 0, .int .u8 0, .int .u8 0, .int .u8 0, .int .u8 0, .int .u8 0, .int .u8 0, .int .u8 0, .int .u8 0, .int .u8 0, .int .u8 0, .int .u8 0, .int .u8 0, .int .u8 0, .int .u8 0, .int .u8 0, .int .u8 0, .int .u8 0, .int .u8 0, .int .u8 0, .int .u8 0, .int .u8 0, .int .u8 0, .int .u8 0], .int .i64 0] rfl (by kernel_rfl) (by kernel_rfl) (by kernel_rfl)
      (OpenSpec.preRow_of_cond 8 hx (by kernel_rfl) (fun k hk => by cases hk) (by kernel_rfl) (laid_met os _))) ?_
  intro W base args ds gs before hval hW _ _ _ hL _ _
  exact contract H enc W base args ds gs before hval hW hL

theorem said : Rows.ScalarReducesSaid :=
  OpenClaim.holds_of_cond 3 Tryd.f3 rfl rfl rfl rfl rfl rfl rfl ⟨rfl, rfl, rfl, rfl, rfl⟩ rfl rfl rfl rfl rfl (by kernel_rfl) Tryd.func3 (by kernel_rfl)
    (of_decide_eq_true (by kernel_rfl)) (by unfold Func.isWrapper; first | (rw [if_pos (by decide +kernel)]; kernel_rfl) | (rw [if_neg (by decide +kernel)]; exact ⟨rfl, rfl⟩))
    (fun os started H enc _ F => by rw [OpenClaim.pre_eq_preRow]; exact lifted os started H enc F)

theorem plain (f : FuncId) (fn : Func) (hf : Tryd.pinned.checked.prog.funcNamed "fellowship/fellowshiplaw11.ScalarReduces" = some f) (hfn : Tryd.pinned.checked.prog.funcs[f]? = some fn) :
    false = Tryd.pinned.checked.prog.looks [] ∧ ∀ (j : Nat) t, fn.params[j]? = some t → Tryd.pinned.checked.prog.wantsStandIn t = false := by
  obtain rfl : f = 3 := Option.some.inj ((show Tryd.prog.funcNamed "fellowship/fellowshiplaw11.ScalarReduces" = some 3 by kernel_rfl).symm.trans hf) |>.symm
  obtain rfl : fn = Tryd.f3 := (Option.some.inj (Tryd.func3.symm.trans hfn)).symm
  refine ⟨by kernel_rfl, fun j t ht => ?_⟩
  rw [Tryd.params3] at ht
  have hm : t ∈ [23, 25, 3] := by simpa using Array.mem_of_getElem? ht
  have hall : ([23, 25, 3].all fun u => !Tryd.prog.wantsStandIn u) = true := by kernel_rfl
  exact (show Tryd.prog.wantsStandIn t = false by simpa using List.all_eq_true.1 hall t hm)
end Go.Proofs.YticgkabamelddaaDoor.scalarReduces
namespace Go.Proofs.YticgkabamelddaaDoor
theorem scalarReduces_card : Rows.ScalarReducesCardSaid :=
  Claim7.holds_tied_plain_at .later [] _ _ _ _ scalarReduces.said (fun _ h => by cases h) (by kernel_rfl) (fun _ h => by cases h) scalarReduces_row_tie rfl ⟨rfl, rfl⟩ (by kernel_rfl) rfl scalarReduces.plain (by kernel_rfl)
#print axioms scalarReduces_card
end Go.Proofs.YticgkabamelddaaDoor
