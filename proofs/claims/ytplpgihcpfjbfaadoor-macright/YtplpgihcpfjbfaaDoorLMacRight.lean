/- Which tags are right: the law fellowshiplaw04.MacRight answers true at every input, where package sha's tables and package api's errors hold what the program's text lays. -/
import Derived.Test.YtplpgihcpfjbfaaDoorMRight
import Derived.Deep.RegionHeld3
import Derived.Deep.RegionWith
namespace Go.Proofs.YtplpgihcpfjbfaaDoor.macRight
open Go.ChangeShapes Go.WideShapes Go.ChangeAt Go.RowKit

theorem long_walk (A T B : Option Addr) (c n tc tl d m : Nat) (w : World) (hK : Tabs w) (hg : 4 ≤ w.heap.size) (hn : 300 < n ∨ 100 < tl ∨ 300 < m) :
    Calls Tryd.prog 4 #[.slice A n c, .slice T tl tc, .slice B m d] w fun e w' => e = .returned (.bool true) ∧ Below w.heap.size w w' := by
  by_cases h1 : 300 < n
  · have i1 : (300 : Int) < (n : Int) := by omega
    clear hn
    go_enter Tryd.func4, Tryd.ntmps4
    go_wp2_with fail
    refine (alive4 w hK hg).mono ?_
    rintro e w1 ⟨rfl, hB⟩
    go_wp2
    go_ret
    exact ⟨rfl, hB⟩
  · have i1 : ¬ (300 : Int) < (n : Int) := by omega
    by_cases h2 : 100 < tl
    · have i2 : (100 : Int) < (tl : Int) := by omega
      clear hn
      go_enter Tryd.func4, Tryd.ntmps4
      go_wp2_with fail
      refine (alive4 w hK hg).mono ?_
      rintro e w1 ⟨rfl, hB⟩
      go_wp2
      go_ret
      exact ⟨rfl, hB⟩
    · have i2 : ¬ (100 : Int) < (tl : Int) := by omega
      have i3 : (300 : Int) < (m : Int) := by omega
      clear hn
      go_enter Tryd.func4, Tryd.ntmps4
      go_wp2_with fail
      refine (alive4 w hK hg).mono ?_
      rintro e w1 ⟨rfl, hB⟩
      go_wp2
      go_ret
      exact ⟨rfl, hB⟩
set_option maxRecDepth 100000 in
set_option maxHeartbeats 1000000 in
theorem walk (A T B : Option Addr) (c n tc tl d m : Nat) (key tag b : List UInt8) (w : World) (hK : Tabs w) (hg : 4 ≤ w.heap.size) (hl : key.length = n) (hr : Row w w.heap.size A key) (hA : A = none → c = 0) (hc : n ≤ c) (hc2 : c ≤ maxLen) (hn : n ≤ 300)
    (htl : tag.length = tl) (ht : Row w w.heap.size T tag) (hm2 : tl ≤ 100) (hbl : b.length = m) (hb : Row w w.heap.size B b) (hBn : B = none → d = 0) (hd : m ≤ d) (hd2 : d ≤ maxLen) (hm : m ≤ 300) :
    Calls Tryd.prog 4 #[.slice A n c, .slice T tl tc, .slice B m d] w fun e w' => e = .returned (.bool true) ∧ Below w.heap.size w w' := by
  have i1 : ¬ (300 : Int) < (n : Int) := by omega
  have i2 : ¬ (100 : Int) < (tl : Int) := by omega
  have i3 : ¬ (300 : Int) < (m : Int) := by omega
  have HL := Lib.hid hl
  have HTL := Lib.hid htl
  have HBL := Lib.hid hbl
  clear hl htl hbl
  go_enter Tryd.func4, Tryd.ntmps4
  go_wp2_with fail
  refine (alive4 w hK hg).mono ?_
  rintro e w1 ⟨rfl, hB1⟩
  go_wp2_with fail
  refine (macRef_any A B c n d m key b w1 HL.out (hr.on hB1) hA (by omega) HBL.out (hb.on hB1) hBn (by omega)).mono ?_
  rintro e w2 ⟨rfl, hb2⟩
  have hB2 := below_then hB1 hb2
  clear hB1 hb2
  have HSL := Lib.hid (macSum_length key b)
  generalize hds : macSum key b = ds at *
  replace hds := Lib.hid hds
  go_wp2_with (first
    | (refine put_step rfl rfl 26 (.tmp 7) (.tmp 25) rfl rfl 32 ds rfl rfl zero_r32 size_r32 HSL.out ?_
       intro w3 hb3 hC3 hz3
       clear hz3
       have hB3 := below_then hB2 hb3
       generalize w2.heap.size = gw at *
       clear hb3 hB2))
  have hK3 := hK.below hB3
  have hg3 : 4 ≤ w3.heap.size := by have := hB3.size; omega
  have rA := hr.on hB3
  have rT := ht.on hB3
  have rB := hb.on hB3
  have rW := hC3.all
  obtain ⟨r, hres⟩ : ∃ r, (ds == tag) = r := ⟨_, rfl⟩
  have hres2 : (tag == ds) = r := by rw [← hres, Bool.eq_iff_iff, beq_iff_eq, beq_iff_eq]; exact eq_comm
  have sb := str_beq
  have kT := conv_n HTL.out rT tc
  have kW := conv_n HSL.out rW 32
  have HC1 := Lib.hid (right_lit w3 A T B c n tc tl d m key tag b hK3 hg3 HL.out rA hA hc hc2 (by omega) HTL.out rT HBL.out rB hBn hd hd2 (by omega) r (by rw [hds.out]; exact hres))
  have HC2 := Lib.hid (right_lit w3 A (some ⟨gw, 0, none⟩) B c n 32 32 d m key ds b hK3 hg3 HL.out rA hA hc hc2 (by omega) HSL.out rW HBL.out rB hBn hd hd2 (by omega) true (by rw [hds.out]; exact beq_self_eq_true ds))
  have HC3 := Lib.hid (right_lit w3 A (some ⟨gw, 0, none⟩) B c n 32 31 d m key (ds.take 31) b hK3 hg3 HL.out rA hA hc hc2 (by omega) (by rw [List.length_take, HSL.out]; rfl) (rW.take 31) HBL.out rB hBn hd hd2 (by omega) false (by
    rw [hds.out, beq_eq_false_iff_ne]
    intro h
    have h2 := congrArg List.length h
    rw [List.length_take, HSL.out] at h2
    omega))
  clear hres hC3 rA rT rB rW hK3 hg3
  go_wp2_with fail
  go_region_held3 (fun w' => Below w3.heap.size w3 w') (first | exact Below.refl _ _ | exact (Below.refl _ _).drew | assumption | exact Below.alloc ‹_› (Below.size ‹_›) _ | exact Below.drew (Below.alloc ‹_› (Below.size ‹_›) _))
    (first
      | (go_at_call 11
         refine (HC1.out _ _ (by first | exact cells_at _ _ _ _ (by simp) | exact (cells_at _ _ _ _ (by simp)).drew) (by first | exact (Below.refl _ _).alloc (Nat.le_refl _) _ | exact ((Below.refl _ _).alloc (Nat.le_refl _) _).drew | exact (Below.refl _ _).drew.alloc (Nat.le_refl _) _)).mono ?_
         clear HC1
         rintro e w4 ⟨rfl, hb4⟩)
      | (go_at_call 11
         refine (HC2.out _ _ (cells_at _ _ _ _ (by simp)) (hb4.alloc hb4.size _)).mono ?_
         clear HC2 hb4
         rintro e w5 ⟨rfl, hb5⟩)
      | (go_at_call 11
         refine (HC3.out _ _ (cells_at _ _ _ _ (by simp)) (hb5.alloc hb5.size _)).mono ?_
         clear HC3 hb5
         rintro e w6 ⟨rfl, hb6⟩))
  all_goals
    go_wp2
    go_ret
    exact ⟨rfl, below_then hB3 hb6⟩

set_option maxRecDepth 100000 in
theorem contract (H : Type) (enc : TypeId × Value → H) (W : World) (base : Nat) (args : Array Value) (ds gs : List (DataW H)) (before : List MemPlace)
    (hval : ∀ (j : Nat) t v, Tryd.f4.params[j]? = some t → args[j]? = some v → Value.okWide Tryd.prog W .any base t v)
    (hW : DataW.Whole enc Tryd.prog Tryd.f4.params.toList Rows.macRightSpec.vars false W args.toList ds gs before) (hL : laidMetH Tryd.prog Rows.macRightRow.laid W) :
    Calls Tryd.prog 4 args W fun e W' => ∃ v, e = .returned v ∧ Rows.macRightSpec.post enc Tryd.prog Tryd.f4 false true false false W args v W' := by
  have hW' := hW
  obtain ⟨p, q, hA0, hV, rfl, hfz, hnd⟩ := hW
  have hA : DataW.TrodAll enc Tryd.prog W 0 (fun _ => true) true Tryd.f4.params.toList args.toList ds p := hA0
  rw [Tryd.params4] at hA hval
  obtain ⟨v0, vs0, d0, ds0, p0, q0, hargs, rfl, rfl, h0, r0⟩ := trodAll_cons hA
  obtain ⟨v1, vs1, d1, ds1, p1, q1, rfl, rfl, rfl, h1, r1⟩ := trodAll_cons r0
  obtain ⟨v2, vs2, d2, ds2, p2, q2, rfl, rfl, rfl, h2, r2⟩ := trodAll_cons r1
  obtain ⟨rfl, rfl, rfl⟩ := trodAll_nil r2
  obtain rfl : args = #[v0, v1, v2] := by cases args; simp_all
  have fin : ∀ W' : World, Below W.heap.size W W' → ∃ v, Ending.returned (.bool true) = .returned v ∧ Rows.macRightSpec.post enc Tryd.prog Tryd.f4 false true false false W #[v0, v1, v2] v W' := fun W' hb =>
    ⟨_, rfl, law_post laidOut Tryd.underlying4 (by kernel_rfl) (by kernel_rfl) rfl ⟨rfl, rfl, rfl⟩ hW' hb⟩
  obtain ⟨A, c, ks, rfl, nA, rA, hc1, hc2⟩ := open_bytes (hval 0 22 v0 rfl rfl) h0
  obtain ⟨T, tc, ts, rfl, nT, rT, ht1, ht2⟩ := open_bytes (hval 1 22 v1 rfl rfl) h1
  obtain ⟨B, d, bs, rfl, nB, rB, hd1, hd2⟩ := open_bytes (hval 2 22 v2 rfl rfl) h2
  obtain ⟨hK, hg⟩ := tabs_of hL
  have walk : Calls Tryd.prog 4 #[.slice A ks.length c, .slice T ts.length tc, .slice B bs.length d] W fun e w' => e = .returned (.bool true) ∧ Below W.heap.size W w' := by
    by_cases hn : ks.length ≤ 300 ∧ ts.length ≤ 100 ∧ bs.length ≤ 300
    · exact walk A T B c _ tc _ d _ ks ts bs W hK hg rfl rA nA hc1 hc2 hn.1 rfl rT hn.2.1 rfl rB nB hd1 hd2 hn.2.2
    · exact long_walk A T B c _ tc _ d _ W hK hg (by omega)
  refine walk.mono fun e W' ⟨he, hb⟩ => ?_
  subst he
  exact fin W' hb

theorem laid_met (os : Os) (args : Array Value) : laidMetH Tryd.prog Rows.macRightRow.laid ((World.doorLaid Tryd.prog 400 os).forCall (fun _ _ => 0) ⟨#[], args, []⟩).memory :=
  laidMetH_of_parts3 (fuel := 8) (laidMet_of_run' 8 (by kernel_rfl) (by kernel_rfl)) (by kernel_rfl) (by kernel_rfl)
theorem reads (os : Os) {H : Type} (enc : TypeId × Value → H) : ∃ places, DataW.whole enc Tryd.prog ((World.doorLaid Tryd.prog 400 os).forCall (fun _ _ => 0) ⟨#[], #[.slice none 0 0, .slice none 0 0, .slice none 0 0], []⟩).memory Tryd.f4.params.toList Rows.macRightSpec.vars false (#[.slice none 0 0, .slice none 0 0, .slice none 0 0] : Array Value).toList 8 = some ([.nil, .nil, .nil], [], places) :=
  ⟨[], by kernel_rfl⟩

set_option maxRecDepth 100000 in
theorem lifted (os : Os) (started : os.Started) (H : Type) (enc : TypeId × Value → H) (F : Stop.Interp) :
    ReturnsInHanded {} Tryd.checked os 4 .any ((OpenSpec.ofChange Rows.macRightSpec).preRow enc Tryd.prog Tryd.f4 Rows.macRightRow.domain false Rows.macRightRow.laid) (((OpenSpec.ofChange Rows.macRightSpec).at F).post enc Tryd.prog Tryd.f4 false true false false) := by
  obtain ⟨places, hx⟩ := reads os enc
  refine returnsInHanded_of_row (C := Tryd.checked) (s := OpenSpec.ofChange Rows.macRightSpec) own started (by kernel_rfl) Tryd.func4
    (witness_row_atRef (enc := enc) (C := Tryd.checked) false (World.doorLaid Tryd.prog 400 os) #[.slice none 0 0, .slice none 0 0, .slice none 0 0] rfl (by kernel_rfl) (by kernel_rfl) (by kernel_rfl)
      (OpenSpec.preRow_of_cond 8 hx (by kernel_rfl) (fun k hk => by cases hk) (by kernel_rfl) (laid_met os _))) ?_
  intro W base args ds gs before hval hW _ _ _ hL _ _
  exact contract H enc W base args ds gs before hval hW hL

theorem said : Rows.MacRightSaid :=
  OpenClaim.holds_of_cond 4 Tryd.f4 rfl rfl rfl rfl rfl rfl rfl ⟨rfl, rfl, rfl, rfl, rfl⟩ rfl rfl rfl rfl rfl (by kernel_rfl) Tryd.func4 (by kernel_rfl)
    (of_decide_eq_true (by kernel_rfl)) (by unfold Func.isWrapper; first | (rw [if_pos (by decide +kernel)]; kernel_rfl) | (rw [if_neg (by decide +kernel)]; exact ⟨rfl, rfl⟩))
    (fun os started H enc _ F => by rw [OpenClaim.pre_eq_preRow]; exact lifted os started H enc F)

theorem plain (f : FuncId) (fn : Func) (hf : Tryd.pinned.checked.prog.funcNamed "fellowship/fellowshiplaw04.MacRight" = some f) (hfn : Tryd.pinned.checked.prog.funcs[f]? = some fn) :
    false = Tryd.pinned.checked.prog.looks [] ∧ ∀ (j : Nat) t, fn.params[j]? = some t → Tryd.pinned.checked.prog.wantsStandIn t = false := by
  obtain rfl : f = 4 := Option.some.inj ((show Tryd.prog.funcNamed "fellowship/fellowshiplaw04.MacRight" = some 4 by kernel_rfl).symm.trans hf) |>.symm
  obtain rfl : fn = Tryd.f4 := (Option.some.inj (Tryd.func4.symm.trans hfn)).symm
  refine ⟨by kernel_rfl, fun j t ht => ?_⟩
  rw [Tryd.params4] at ht
  have hm : t ∈ [22, 22, 22] := by simpa using Array.mem_of_getElem? ht
  have hall : ([22, 22, 22].all fun u => !Tryd.prog.wantsStandIn u) = true := by kernel_rfl
  exact (show Tryd.prog.wantsStandIn t = false by simpa using List.all_eq_true.1 hall t hm)
end Go.Proofs.YtplpgihcpfjbfaaDoor.macRight
namespace Go.Proofs.YtplpgihcpfjbfaaDoor
theorem macRight_card : Rows.MacRightCardSaid :=
  Claim7.holds_tied_plain_at .later [] _ _ _ _ macRight.said (fun _ h => by cases h) (by kernel_rfl) (fun _ h => by cases h) macRight_row_tie rfl ⟨rfl, rfl⟩ (by kernel_rfl) rfl macRight.plain (by kernel_rfl)
#print axioms macRight_card
end Go.Proofs.YtplpgihcpfjbfaaDoor
