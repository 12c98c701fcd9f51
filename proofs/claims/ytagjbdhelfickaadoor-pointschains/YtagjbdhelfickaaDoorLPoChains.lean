/- Sums go together in whatever order, and the order's multiple of the base point is Zero: the law fellowshiplaw12.PointsChains answers true at every input, where package field's constants and three of package api's errors hold what the program's text lays. -/
import Derived.Test.YtagjbdhelfickaaDoorKPoChains
import Derived.Test.YtagjbdhelfickaaDoorPart28
namespace Go.Proofs.YtagjbdhelfickaaDoor.pointsChains
open Go.ChangeShapes Go.WideShapes Go.ChangeAt Go.RowKit
/-- Keys of few bytes. -/
def kTwo (a b : UInt8) : List UInt8 := a :: b :: List.replicate 30 0
def kThree (a b c : UInt8) : List UInt8 := a :: b :: c :: List.replicate 29 0
theorem lev_zeros : ∀ n, lev (List.replicate n 0) = 0
  | 0 => rfl
  | n + 1 => by rw [List.replicate_succ, lev_cons, lev_zeros n]; rfl
theorem lev_two (a b : UInt8) : lev (kTwo a b) = a.toNat + 256 * b.toNat := by rw [kTwo, lev_cons, lev_cons, lev_zeros]; omega
theorem lev_three (a b c : UInt8) : lev (kThree a b c) = a.toNat + 256 * b.toNat + 65536 * c.toNat := by rw [kThree, lev_cons, lev_cons, lev_cons, lev_zeros]; omega
theorem build_two12 (a b : UInt8) (w : World) : (Instr.build 23 #[(0, .int .u8 (a.toNat : Int)), (1, .int .u8 (b.toNat : Int))]).run Tryd.prog w = .ok (hashVal (kTwo a b)) w := by kernel_rfl
theorem build_three12 (a b c : UInt8) (w : World) : (Instr.build 23 #[(0, .int .u8 (a.toNat : Int)), (1, .int .u8 (b.toNat : Int)), (2, .int .u8 (c.toNat : Int))]).run Tryd.prog w = .ok (hashVal (kThree a b c)) w := by kernel_rfl
theorem build_one12 (w : World) : (Instr.build 23 #[(0, .int .u8 1)]).run Tryd.prog w = .ok (hashVal (kTwo 1 0)) w := by kernel_rfl
def kOrd : List UInt8 := [237, 211, 245, 92, 26, 99, 18, 88, 214, 156, 247, 162, 222, 249, 222, 20, 0, 0, 0, 0, 0, 0, 0, 0, 0, 0, 0, 0, 0, 0, 0, 0]
theorem build_ord (w : World) : (Instr.build 23 #[(0, .int .u8 237), (1, .int .u8 211), (2, .int .u8 245), (3, .int .u8 92), (4, .int .u8 26), (5, .int .u8 99), (6, .int .u8 18), (7, .int .u8 88), (8, .int .u8 214), (9, .int .u8 156), (10, .int .u8 247), (11, .int .u8 162), (12, .int .u8 222), (13, .int .u8 249), (14, .int .u8 222), (15, .int .u8 20)]).run Tryd.prog w = .ok (hashVal kOrd) w := by kernel_rfl
theorem lev_ord : lev (kOrd.set 31 16) = NP.LL := by decide +kernel
theorem byte_of (n : Int) (h : 0 ≤ n) : ∃ b : UInt8, IntKind.u8.wrap n = (b.toNat : Int) ∧ (b.toNat : Int) = n % 256 := by
  refine ⟨UInt8.ofNat (n.toNat % 256), ?_, ?_⟩
  · rw [IntKind.wrap_u8, UInt8.toNat_ofNat']
    omega
  · rw [UInt8.toNat_ofNat']
    omega

set_option maxRecDepth 100000 in
theorem contract (H : Type) (enc : TypeId × Value → H) (W : World) (base : Nat) (args : Array Value) (ds gs : List (DataW H)) (before : List MemPlace)
    (hval : ∀ (j : Nat) t v, Tryd.f7.params[j]? = some t → args[j]? = some v → Value.okWide Tryd.prog W .any base t v)
    (hW : DataW.Whole enc Tryd.prog Tryd.f7.params.toList Rows.pointsChainsSpec.vars false W args.toList ds gs before) (hL : laidMetH Tryd.prog Rows.pointsChainsRow.laid W) :
    Calls Tryd.prog 7 args W fun e W' => ∃ v, e = .returned v ∧ Rows.pointsChainsSpec.post enc Tryd.prog Tryd.f7 false true false false W args v W' := by
  have hW' := hW
  obtain ⟨p, q, hA0, hV, rfl, hfz, hnd⟩ := hW
  have hA : DataW.TrodAll enc Tryd.prog W 0 (fun _ => true) true Tryd.f7.params.toList args.toList ds p := hA0
  rw [Tryd.params7] at hA hval
  obtain ⟨v0, vs0, d0, ds0, p0, q0, hargs, rfl, rfl, h0, r0⟩ := trodAll_cons hA
  obtain ⟨v1, vs1, d1, ds1, p1, q1, rfl, rfl, rfl, h1, r1⟩ := trodAll_cons r0
  obtain ⟨v2, vs2, d2, ds2, p2, q2, rfl, rfl, rfl, h2, r2⟩ := trodAll_cons r1
  obtain ⟨rfl, rfl, rfl⟩ := trodAll_nil r2
  obtain rfl : args = #[v0, v1, v2] := by cases args; simp_all
  have fin : ∀ W' : World, Below W.heap.size W W' → ∃ v, Ending.returned (.bool true) = .returned v ∧ Rows.pointsChainsSpec.post enc Tryd.prog Tryd.f7 false true false false W #[v0, v1, v2] v W' := fun W' hb =>
    ⟨_, rfl, law_post laidOut Tryd.underlying4 (by kernel_rfl) (by kernel_rfl) rfl ⟨rfl, rfl, rfl⟩ hW' hb⟩
  obtain ⟨a, rfl, ha⟩ := open_key (hval 0 23 v0 rfl rfl) h0
  obtain ⟨b, rfl, hb⟩ := open_key (hval 1 23 v1 rfl rfl) h1
  obtain ⟨n, rfl, rfl, rfl, wn⟩ := open_int Tryd.underlying60 (hval 2 60 v2 rfl rfl) h2
  have hn := bounds_u16 wn
  obtain ⟨x, hS⟩ := tabsU_of hL
  obtain ⟨P, s, t, r1, r2, cs⟩ := some_pt a ha
  obtain ⟨Q, u, v, r3, r4, cu⟩ := some_pt b hb
  obtain ⟨b0, e0, m0⟩ := byte_of n hn.1
  obtain ⟨b1, e1, m1⟩ := byte_of (n / 256) (by omega)
  have hN : (0 : Int) ≤ (b0.toNat : Int) + 256 * (b1.toNat : Int) + 1 := by omega
  obtain ⟨c0, f0, g0⟩ := byte_of _ hN
  obtain ⟨c1, f1, g1⟩ := byte_of (((b0.toNat : Int) + 256 * (b1.toNat : Int) + 1) / 256) (by omega)
  obtain ⟨c2, f2, g2⟩ := byte_of (((b0.toNat : Int) + 256 * (b1.toNat : Int) + 1) / 65536) (by omega)
  have hk : lev (kThree c0 c1 c2) = lev (kTwo b0 b1) + 1 := by
    rw [lev_three, lev_two]
    have hb0 := b0.toNat_lt
    have hb1 := b1.toNat_lt
    omega
  have l1 : (kTwo b0 b1).length = 32 := rfl
  have l2 : (kThree c0 c1 c2).length = 32 := rfl
  have l3 : (kOrd.set 31 16).length = 32 := rfl
  have l4 : (kTwo 1 0).length = 32 := rfl
  have pq := NP.addT_rep r1 r3
  have qp := NP.addT_rep r3 r1
  have pqp := NP.addT_rep pq r1
  have pp2 := NP.addT_rep r1 r1
  have ppq := NP.addT_rep pp2 r3
  have pz := NP.addT_rep r1 NP.zeroT_rep
  have tk := NP.timesU_rep r1 (kTwo b0 b1) l1
  have tkp := NP.addT_rep tk r1
  have tn := NP.timesU_rep r1 (kThree c0 c1 c2) l2
  have to := NP.timesU_rep r1 (kTwo 1 0) l4
  have bl := NP.timesU_rep NP.baseT_rep (kOrd.set 31 16) l3
  rw [hk] at tn
  rw [show lev (kTwo 1 0) = 1 from by decide +kernel, NP.edw.mul_one] at to
  rw [lev_ord, NP.order_zero] at bl
  have k0 : ∀ (l : List UInt8) (i : Nat) (q : UInt8), l[i]? = some q → Hid ((l.map cellOf)[i]? = some (cellOf q)) := fun l i q h => by
    show _ = _
    rw [List.getElem?_map, h]; rfl
  refine (ptChains_over (triU s) (triL t) (triU u) (triL v) (triU (addT s u)) (triU (addT u s)) (triU (addT (addT s u) s)) (triU (addT s s)) (triU (addT (addT s s) u)) (triU (0, 1, 1)) (triU (addT s (0, 1, 1))) (triU (timesU s (kTwo b0 b1))) (triU (addT (timesU s (kTwo b0 b1)) s)) (triU (timesU s (kThree c0 c1 c2))) (triU (timesU s (kTwo 1 0))) (triU baseT) (triU (timesU baseT (kOrd.set 31 16))) a b (kTwo b0 b1) (kThree c0 c1 c2) (kTwo 1 0) (kOrd.set 31 16) n b0 b1 (errAt x) W
    rfl rfl ha hb l1 l4 rfl rfl e0 e1 (fun V hV => alive12_any _ V hV) (fun V hV => cs x V hV) (fun V hV => cu x V hV) (fun V hV => uadd_any _ s u V r1.lt r3.lt hV) (fun V hV => uadd_any _ u s V r3.lt r1.lt hV) (fun V => usame_pt pq qp (NP.edw.add_comm _ _) V) (fun V hV => uadd_any _ _ s V pq.lt r1.lt hV) (fun V hV => uadd_any _ s s V r1.lt r1.lt hV) (fun V hV => uadd_any _ _ u V pp2.lt r3.lt hV) (fun V => usame_pt pqp ppq ?_ V)
    uzero_any (fun V hV => uadd_any _ s _ V r1.lt zeroT_lt hV) (fun V => usame_pt pz r1 (NP.edw.add_zero _) V) (fun V hV => utimes_any _ s _ V l1 r1.lt hV) (fun V hV => uadd_any _ _ s V tk.lt r1.lt hV) (fun V => plus12_over _ _ b0 b1 c0 c1 c2 V ?_ (k0 _ 0 _ rfl) (k0 _ 1 _ rfl) f0 f1 f2 (build_three12 c0 c1 c2)) (fun V hV => utimes_any _ s _ V l2 r1.lt hV) (fun V => usame_pt tkp tn rfl V) (fun V hV => utimes_any _ s _ V l4 r1.lt hV) (fun V => usame_pt to r1 rfl V)
    (fun V hV => ubase_any _ V hV) (fun V => l12_over kOrd _ V rfl ?_ ?_ build_ord) (fun V hV => utimes_any _ baseT _ V l3 baseT_lt hV) (fun V => usame_pt bl NP.zeroT_rep rfl V) (build_two12 b0 b1) build_one12 hS).mono fun e W' ⟨he, hbl⟩ => ?_
  · rw [NP.edw.add_assoc, NP.edw.add_comm Q P, ← NP.edw.add_assoc]
  · exact l2
  · exact l3
  · show _ = _
    rw [List.map_set]; rfl
  subst he
  exact fin W' hbl

theorem laid_met (os : Os) (args : Array Value) : laidMetH Tryd.prog Rows.pointsChainsRow.laid ((World.doorLaid Tryd.prog 400 os).forCall (fun _ _ => 0) ⟨#[], args, []⟩).memory :=
  laidMetH_of_parts3 (fuel := 8) (laidMet_of_run' 8 (by kernel_rfl) (by kernel_rfl)) (by kernel_rfl) (by kernel_rfl)
theorem reads (os : Os) {H : Type} (enc : TypeId × Value → H) : ∃ places, DataW.whole enc Tryd.prog ((World.doorLaid Tryd.prog 400 os).forCall (fun _ _ => 0) ⟨#[], #[.agg #[.int .u8 0, .int .u8 0, .int .u8 0, .int .u8 0, .int .u8 0, .int .u8 0, .int .u8 0, .int .u8 0, .int .u8 0, .int .u8 0, .int .u8 0, .int .u8 0, .int .u8 0, .int .u8 0, .int .u8 0, .int .u8 0, .int .u8 0, .int .u8 0, .int .u8 0, .int .u8 0, .int .u8 0, .int .u8 0, .int .u8 0, .int .u8 0, .int .u8 0, .int .u8 0, .int .u8 0, .int .u8 0, .int .u8 0, .int .u8 0, .int .u8 0, .int .u8 0], .agg #[.int .u8 0, .int .u8 0, .int .u8 0, .int .u8 0, .int .u8 0, .int .u8 0, .int .u8 0, .int .u8 0, .int .u8 0, .int .u8 0, .int .u8 0, .int .u8 0, .int .u8 0, .int .u8 0, .int .u8 0, .int .u8 0, .int .u8 0, .int .u8 0, .int .u8 0, .int .u8 0, .int .u8 0, .int .u8 0, .int .u8 0, .int .u8 0, .int .u8 0, .int .u8 0, .int .u8 0, .int .u8 0, .int .u8 0, .int .u8 0, .int .u8 0, .int .u8 0], .int .u16 0], []⟩).memory Tryd.f7.params.toList Rows.pointsChainsSpec.vars false (#[.agg #[.int .u8 0, .int .u8 0, .int .u8 0, .int .u8 0, .int .u8 0, .int .u8 0, .int .u8 0, .int .u8 0, .int .u8 0, .int .u8 0, .int .u8 0, .int .u8 0, .int .u8 0, .int .u8 0, .int .u8 0, .int .u8 0, .int .u8 0, .int .u8 0, .int .u8 0, .int .u8 0, .int .u8 0, .int .u8 0, .int .u8 0, .int .u8 0, .int .u8 0, .int .u8 0, .int .u8 0, .int .u8 0, .int .u8 0, .int .u8 0, .int .u8 0, .int .u8 0], .agg #[.int .u8 0, .int .u8 0, .int .u8 0, .int .u8 0, .int .u8 0, .int .u8 0, .int .u8 0, .int .u8 0, .int .u8 0, .int .u8 0, .int .u8 0, .int .u8 0, .int .u8 0, .int .u8 0, .int .u8 0, .int .u8 0, .int .u8 0, .int .u8 0, .int .u8 0, .int .u8 0, .int .u8 0, .int .u8 0, .int .u8 0, .int .u8 0, .int .u8 0, .int .u8 0, .int .u8 0, .int .u8 0, .int .u8 0, .int .u8 0, .int .u8 0, .int .u8 0], .int .u16 0] : Array Value).toList 8 = some ([.agg [.lit (.int .u8 0), .lit (.int .u8 0), .lit (.int .u8 0), .lit (.int .u8 0), .lit (.int .u8 0), .lit (.int .u8 0), .lit (.int .u8 0), .lit (.int .u8 0), .lit (.int .u8 0), .lit (.int .u8 0), .lit (.int .u8 0), .lit (.int .u8 0), .lit (.int .u8 0), .lit (.int .u8 0), .lit (.int .u8 0), .lit (.int .u8 0), .lit (.int .u8 0), .lit (.int .u8 0), .lit (.int .u8 0), .lit (.int .u8 0), .lit (.int .u8 0), .lit (.int .u8 0), .lit (.int .u8 0), .lit (.int .u8 0), .lit (.int .u8 0), .lit (.int .u8 0), .lit (.int .u8 0), .lit (.int .u8 0), .lit (.int .u8 0), .lit (.int .u8 0), .lit (.int .u8 0), .lit (.int .u8 0)], .agg [.lit (.int .u8 0), .lit (.int .u8 0), .lit (.int .u8 0), .lit (.int .u8 0), .lit (.int .u8 0), .lit (.int .u8 0), .lit (.int .u8 0), .lit (.int .u8 0), .lit (.int .u8 0), .lit (.int .u8 0), .lit (.int .u8 0), .lit (.int .u8 0), .lit (.int .u8 0), .lit (.int .u8 0), .lit (.int .u8 0), .lit (.int .u8 0), .lit (.int .u8 0), .lit (.int .u8 0), .lit (.int .u8 0), .lit (.int .u8 0), .lit (.int .u8 0), .lit (.int .u8 0), .lit (.int .u8 0), .lit (.int .u8 0), .lit (.int .u8 0), .lit (.int .u8 0), .lit (.int .u8 0), .lit (.int .u8 0), .lit (.int .u8 0), .lit (.int .u8 0), .lit (.int .u8 0), .lit (.int .u8 0)], .lit (.int .u16 0)], [], places) :=
  ⟨[], by kernel_rfl⟩

set_option maxRecDepth 100000 in
theorem lifted (os : Os) (started : os.Started) (H : Type) (enc : TypeId × Value → H) (F : Stop.Interp) :
    ReturnsInHanded {} Tryd.checked os 7 .any ((OpenSpec.ofChange Rows.pointsChainsSpec).preRow enc Tryd.prog Tryd.f7 Rows.pointsChainsRow.domain false Rows.pointsChainsRow.laid) (((OpenSpec.ofChange Rows.pointsChainsSpec).at F).post enc Tryd.prog Tryd.f7 false true false false) := by
  obtain ⟨places, hx⟩ := reads os enc
  refine returnsInHanded_of_row (C := Tryd.checked) (s := OpenSpec.ofChange Rows.pointsChainsSpec) own started (by kernel_rfl) Tryd.func7
    (witness_row_atRef (enc := enc) (C := Tryd.checked) false (World.doorLaid Tryd.prog 400 os) #[.agg #[.int .u8 0, .int .u8 0, .int .u8 0, .int .u8 0, .int .u8 0, .int .u8 0, .int .u8 0, .int .u8 0, .int .u8 0, .int .u8 0, .int .u8 0, .int .u8 0, .int .u8 0, .int .u8 0, .int .u8 0, .int .u8 0, .int .u8 0, .int .u8 0, .int .u8 0, .int .u8 0, .int .u8 0, .int .u8 0, .int .u8 0, .int .u8 0, .int .u8 0, .int .u8 0, .int .u8 0, .int .u8 0, .int .u8 0, .int .u8 0, .int .u8 0, .int .u8 0], .agg #[.int .u8 0, .int .u8 0, .int .u8 0, .int .u8 0, .int .u8 0, .int .u8 0, .int .u8 0, .int .u8 0, .int .u8 0, .int .u8 0, .int .u8 0, .int .u8 0, .int .u8 0, .int .u8 0, .int .u8 0, .int .u8 0, .int .u8 0, .int .u8 0, .int .u8 0, .int .u8 0, .int .u8 0, .int .u8 0, .int .u8 0, .int .u8 0, .int .u8 0, .int .u8 0, .int .u8 0, .int .u8 0, .int .u8 0, .int .u8 0, .int .u8 0, .int .u8 0], .int .u16 0] rfl (by kernel_rfl) (by kernel_rfl) (by kernel_rfl)
      (OpenSpec.preRow_of_cond 8 hx (by kernel_rfl) (fun k hk => by cases hk) (by kernel_rfl) (laid_met os _))) ?_
  intro W base args ds gs before hval hW _ _ _ hL _ _
  exact contract H enc W base args ds gs before hval hW hL

theorem said : Rows.PointsChainsSaid :=
  OpenClaim.holds_of_cond 7 Tryd.f7 rfl rfl rfl rfl rfl rfl rfl ⟨rfl, rfl, rfl, rfl, rfl⟩ rfl rfl rfl rfl rfl (by kernel_rfl) Tryd.func7 (by kernel_rfl)
    (of_decide_eq_true (by kernel_rfl)) (by unfold Func.isWrapper; first | (rw [if_pos (by decide +kernel)]; kernel_rfl) | (rw [if_neg (by decide +kernel)]; exact ⟨rfl, rfl⟩))
    (fun os started H enc _ F => by rw [OpenClaim.pre_eq_preRow]; exact lifted os started H enc F)

theorem plain (f : FuncId) (fn : Func) (hf : Tryd.pinned.checked.prog.funcNamed "fellowship/fellowshiplaw12.PointsChains" = some f) (hfn : Tryd.pinned.checked.prog.funcs[f]? = some fn) :
    true = Tryd.pinned.checked.prog.looks [] ∧ ∀ (j : Nat) t, fn.params[j]? = some t → Tryd.pinned.checked.prog.wantsStandIn t = false := by
  obtain rfl : f = 7 := Option.some.inj ((show Tryd.prog.funcNamed "fellowship/fellowshiplaw12.PointsChains" = some 7 by kernel_rfl).symm.trans hf) |>.symm
  obtain rfl : fn = Tryd.f7 := (Option.some.inj (Tryd.func7.symm.trans hfn)).symm
  refine ⟨by kernel_rfl, fun j t ht => ?_⟩
  rw [Tryd.params7] at ht
  have hm : t ∈ [23, 23, 60] := by simpa using Array.mem_of_getElem? ht
  have hall : ([23, 23, 60].all fun u => !Tryd.prog.wantsStandIn u) = true := by kernel_rfl
  exact (show Tryd.prog.wantsStandIn t = false by simpa using List.all_eq_true.1 hall t hm)
end Go.Proofs.YtagjbdhelfickaaDoor.pointsChains
namespace Go.Proofs.YtagjbdhelfickaaDoor
theorem pointsChains_card : Rows.PointsChainsCardSaid :=
  Claim7.holds_tied_plain_at .later [] _ _ _ _ pointsChains.said (fun _ h => by cases h) (by kernel_rfl) (fun _ h => by cases h) pointsChains_row_tie rfl ⟨rfl, rfl⟩ (by kernel_rfl) rfl pointsChains.plain (by kernel_rfl)
#print axioms pointsChains_card
end Go.Proofs.YtagjbdhelfickaaDoor
