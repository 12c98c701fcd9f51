/- Sealed bytes whose last 16 are others aren't opened, and those that are opened are what their plain bytes are sealed to: the law fellowshiplaw08.SealTags answers true at every input, where package api's errors hold what the program's text lays. -/
import Derived.Test.YtdaieklimdhkoaaDoorKSeTags
namespace Go.Proofs.YtdaieklimdhkoaaDoor.sealTags
open Go.ChangeShapes Go.WideShapes Go.ChangeAt Go.RowKit
theorem sealed_again (key ns ws ss : List UInt8) (m : Nat) (h : (sealCode key ns ws (ss.take m) == ss.drop m) = true) : sealL key ns ws (chTurn key 1 ns (ss.take m)) = ss := by
  rw [sealL, chTurn_back, eq_of_beq h, List.take_append_drop]
theorem set_same (l : List UInt8) (k : Nat) (hk : k < l.length) : l.set k (l.getD k 0 ^^^ 0) = l := by
  have e : l.getD k 0 ^^^ 0 = l[k] := by rw [UInt8.xor_zero]; simp [List.getD, hk]
  rw [e]
  exact List.set_getElem_self hk
theorem bent (key ns ws ts : List UInt8) (m k : Nat) (u : UInt8) (ht : ts.length = m) (hk : k < m + 16) (hm : m ≤ k) (hu : u ≠ 0) :
    (sealCode key ns ws (((sealL key ns ws ts).set k ((sealL key ns ws ts).getD k 0 ^^^ u)).take m) == ((sealL key ns ws ts).set k ((sealL key ns ws ts).getD k 0 ^^^ u)).drop m) = false := by
  have hl : (sealL key ns ws ts).length = m + 16 := by rw [sealL_length, ht]
  rw [List.take_set_of_le hm, sealL_take _ _ _ _ _ ht, ← sealL_drop key ns ws ts m ht, beq_eq_false_iff_ne]
  generalize sealL key ns ws ts = l at *
  intro h
  have h1 : (l.drop m)[k - m]? = ((l.set k (l.getD k 0 ^^^ u)).drop m)[k - m]? := by rw [h]
  rw [List.getElem?_drop, List.getElem?_drop, show m + (k - m) = k by omega, List.getElem?_set_self (by omega), List.getElem?_eq_getElem (by omega), Option.some.injEq] at h1
  have e : l.getD k 0 = l[k] := by simp [List.getD, show k < l.length by omega]
  rw [e] at h1
  refine hu ?_
  have h2 : l[k] ^^^ l[k] = l[k] ^^^ (l[k] ^^^ u) := congrArg (l[k] ^^^ ·) h1
  rw [← UInt8.xor_assoc, UInt8.xor_self, UInt8.zero_xor] at h2
  exact h2.symm

set_option maxRecDepth 100000 in
theorem contract (H : Type) (enc : TypeId × Value → H) (W : World) (base : Nat) (args : Array Value) (ds gs : List (DataW H)) (before : List MemPlace)
    (hval : ∀ (j : Nat) t v, Tryd.f5.params[j]? = some t → args[j]? = some v → Value.okWide Tryd.prog W .any base t v)
    (hW : DataW.Whole enc Tryd.prog Tryd.f5.params.toList Rows.sealTagsSpec.vars false W args.toList ds gs before) (hL : laidMetH Tryd.prog Rows.sealTagsRow.laid W) :
    Calls Tryd.prog 5 args W fun e W' => ∃ v, e = .returned v ∧ Rows.sealTagsSpec.post enc Tryd.prog Tryd.f5 false true false false W args v W' := by
  have hW' := hW
  obtain ⟨p, q, hA0, hV, rfl, hfz, hnd⟩ := hW
  have hA : DataW.TrodAll enc Tryd.prog W 0 (fun _ => true) true Tryd.f5.params.toList args.toList ds p := hA0
  rw [Tryd.params5] at hA hval
  obtain ⟨v0, vs0, d0, ds0, p0, q0, hargs, rfl, rfl, h0, r0⟩ := trodAll_cons hA
  obtain ⟨v1, vs1, d1, ds1, p1, q1, rfl, rfl, rfl, h1, r1⟩ := trodAll_cons r0
  obtain ⟨v2, vs2, d2, ds2, p2, q2, rfl, rfl, rfl, h2, r2⟩ := trodAll_cons r1
  obtain ⟨rfl, rfl, rfl⟩ := trodAll_nil r2
  obtain rfl : args = #[v0, v1, v2] := by cases args; simp_all
  have fin : ∀ W' : World, Below W.heap.size W W' → ∃ v, Ending.returned (.bool true) = .returned v ∧ Rows.sealTagsSpec.post enc Tryd.prog Tryd.f5 false true false false W #[v0, v1, v2] v W' := fun W' hb =>
    ⟨_, rfl, law_post laidOut Tryd.underlying4 (by kernel_rfl) (by kernel_rfl) rfl ⟨rfl, rfl, rfl⟩ hW' hb⟩
  obtain ⟨key, A, d, ns, B, ca, ws, rfl, hk, nA, rA, hd1, hd2, nB, rB, hb1, hb2⟩ := open_case8 (hval 0 26 v0 rfl rfl) h0
  obtain ⟨D, c, bs, rfl, nD, rD, hc1, hc2⟩ := open_bytes (hval 1 24 v1 rfl rfl) h1
  obtain ⟨z, rfl, rfl, rfl, wz⟩ := open_int Tryd.underlying5 (hval 2 5 v2 rfl rfl) h2
  have hz := bounds_u8 wz
  obtain ⟨u, rfl⟩ : ∃ u : UInt8, z = (u.toNat : Int) := ⟨UInt8.ofNat z.toNat, by rw [UInt8.toNat_ofNat']; omega⟩
  obtain ⟨es, hE⟩ := errs_of hL
  have walk : Calls Tryd.prog 5 #[caseVal8 key A ns.length d B ws.length ca, .slice D bs.length c, .int .u8 (u.toNat : Int)] W fun e w' => e = .returned (.bool true) ∧ Below W.heap.size W w' := by
    have CA : Hid (∀ V, Below W.heap.size W V → Calls Tryd.prog 7 #[] V fun e w' => e = .returned (.bool true) ∧ Below V.heap.size V w') := fun V hV => alive8 V es (hE.below hV)
    by_cases hn : ns.length = 12 ∧ ws.length ≤ 500 ∧ 16 ≤ bs.length ∧ bs.length ≤ 500
    · obtain ⟨h12, hw, h16, h500⟩ := hn
      rw [h12] at hd1 ⊢
      obtain ⟨b, off, rfl⟩ := rD.some (by omega)
      obtain ⟨eb, heb, hcb⟩ := hE.var 6 (g := 6) rfl
      obtain ⟨m, hm⟩ : ∃ m, bs.length = m + 16 := ⟨bs.length - 16, by omega⟩
      have lt : (bs.take m).length = m := by rw [List.length_take]; omega
      have lp : (chTurn key 1 ns (bs.take m)).length = m := (chTurn_length _ _ _ _).trans lt
      have hb : ∀ V, Below W.heap.size W V → Row V V.heap.size (some ⟨b, off, none⟩) (bs.take m) := fun V hV => (rD.take m).on hV
      have l1 : (sealL key ns ws (bs.take m)).length = bs.length := by rw [sealL_length, lt, hm]
      have hu16 : u.toNat % 16 < 16 := Nat.mod_lt _ (by omega)
      have hkl : bs.length - 1 - u.toNat % 16 < (sealL key ns ws (bs.take m)).length := by omega
      refine tags_over A B b off d ws.length ca bs.length m c u ((sealL key ns ws (bs.take m)).getD (bs.length - 1 - u.toNat % 16) 0) key (chTurn key 1 ns (bs.take m)) bs (bs.take m) (sealL key ns ws (bs.take m)) ((sealL key ns ws (bs.take m)).set (bs.length - 1 - u.toNat % 16) ((sealL key ns ws (bs.take m)).getD (bs.length - 1 - u.toNat % 16) 0 ^^^ u)) (sealCode key ns ws (bs.take m) == bs.drop m) es eb W hk hw (by omega) hm hc1 rfl rD
        (show _ = _ by rw [List.getElem?_map, List.getElem?_eq_getElem hkl]; simp [List.getD, hkl]) (xor8 _ _) (show _ = _ by rw [List.map_set]) (show _ ≤ _ by rw [List.length_map]; omega) lt hb hE heb ?_ CA
        (fun V hV => sealOpen_any A B (some ⟨b, off, none⟩) d ws.length ca bs.length c m key ns ws bs eb _ V hk h12 (rA.on hV) nA hd1 hd2 rfl (rB.on hV) (by omega) rfl (rD.on hV) hm (by omega) hc1 ((hV.cell (block_lt_of_cell hcb)).trans hcb) rfl)
        (fun hr F cf V hV hR => by
          have h := (sealSeal_any A B F d ws.length ca m cf key ns ws (chTurn key 1 ns (bs.take m)) V hk h12 (rA.on hV) nA hd1 hd2 rfl (rB.on hV) (by omega) lp hR (by omega)).mono fun _ _ h => h.ok (by omega)
          rw [sealed_again key ns ws bs m hr, ← hm] at h
          exact h)
        (fun V hV => by
          have h := sealSeal_any A B (some ⟨b, off, none⟩) d ws.length ca m c key ns ws (bs.take m) V hk h12 (rA.on hV) nA hd1 hd2 rfl (rB.on hV) (by omega) lt (hb V hV) (by omega)
          rw [← hm] at h
          exact h)
      intro gs V hV hR
      by_cases hu : u = 0
      · have e : (sealL key ns ws (bs.take m)).set (bs.length - 1 - u.toNat % 16) ((sealL key ns ws (bs.take m)).getD (bs.length - 1 - u.toNat % 16) 0 ^^^ u) = sealL key ns ws (bs.take m) := by
          subst hu
          exact set_same _ _ hkl
        rw [e] at hR
        exact (sealOpen_back A B (some ⟨gs, 0, none⟩) d ws.length ca m bs.length bs.length key ns ws (bs.take m) eb V hk h12 (rA.on hV) nA hd1 hd2 rfl (rB.on hV) (by omega) lt (by omega) hR hm (Nat.le_refl _) ((hV.cell (block_lt_of_cell hcb)).trans hcb)).mono fun e w' h => ⟨fun _ => h, fun h0 => absurd hu h0⟩
      · exact (sealOpen_any A B (some ⟨gs, 0, none⟩) d ws.length ca bs.length bs.length m key ns ws _ eb false V hk h12 (rA.on hV) nA hd1 hd2 rfl (rB.on hV) (by omega) (by rw [List.length_set, l1]) hR hm (by omega) (Nat.le_refl _) ((hV.cell (block_lt_of_cell hcb)).trans hcb) (bent key ns ws (bs.take m) m _ u lt (by omega) (by omega) hu)).mono fun e w' h => ⟨fun h0 => absurd h0 hu, fun _ => h.2 rfl⟩
    · exact long_walk A B D d ns.length ws.length ca bs.length c _ key W hk (by omega) CA
  refine walk.mono fun e W' ⟨he, hb⟩ => ?_
  subst he
  exact fin W' hb

theorem laid_met (os : Os) (args : Array Value) : laidMetH Tryd.prog Rows.sealTagsRow.laid ((World.doorLaid Tryd.prog 400 os).forCall (fun _ _ => 0) ⟨#[], args, []⟩).memory :=
  laidMetH_of_parts3 (fuel := 8) (laidMet_of_run' 8 (by kernel_rfl) (by kernel_rfl)) (by kernel_rfl) (by kernel_rfl)
theorem reads (os : Os) {H : Type} (enc : TypeId × Value → H) : ∃ places, DataW.whole enc Tryd.prog ((World.doorLaid Tryd.prog 400 os).forCall (fun _ _ => 0) ⟨#[], #[.agg (Value.int .u8 0 :: Value.int .u8 0 :: Value.int .u8 0 :: Value.int .u8 0 :: Value.int .u8 0 :: Value.int .u8 0 :: Value.int .u8 0 :: Value.int .u8 0 :: Value.int .u8 0 :: Value.int .u8 0 :: Value.int .u8 0 :: Value.int .u8 0 :: Value.int .u8 0 :: Value.int .u8 0 :: Value.int .u8 0 :: Value.int .u8 0 :: Value.int .u8 0 :: Value.int .u8 0 :: Value.int .u8 0 :: Value.int .u8 0 :: Value.int .u8 0 :: Value.int .u8 0 :: Value.int .u8 0 :: Value.int .u8 0 :: Value.int .u8 0 :: Value.int .u8 0 :: Value.int .u8 0 :: Value.int .u8 0 :: Value.int .u8 0 :: Value.int .u8 0 :: Value.int .u8 0 :: Value.int .u8 0 :: Value.slice none 0 0 :: Value.slice none 0 0 :: []).toArray, .slice none 0 0, .int .u8 0], []⟩).memory Tryd.f5.params.toList Rows.sealTagsSpec.vars false (#[.agg (Value.int .u8 0 :: Value.int .u8 0 :: Value.int .u8 0 :: Value.int .u8 0 :: Value.int .u8 0 :: Value.int .u8 0 :: Value.int .u8 0 :: Value.int .u8 0 :: Value.int .u8 0 :: Value.int .u8 0 :: Value.int .u8 0 :: Value.int .u8 0 :: Value.int .u8 0 :: Value.int .u8 0 :: Value.int .u8 0 :: Value.int .u8 0 :: Value.int .u8 0 :: Value.int .u8 0 :: Value.int .u8 0 :: Value.int .u8 0 :: Value.int .u8 0 :: Value.int .u8 0 :: Value.int .u8 0 :: Value.int .u8 0 :: Value.int .u8 0 :: Value.int .u8 0 :: Value.int .u8 0 :: Value.int .u8 0 :: Value.int .u8 0 :: Value.int .u8 0 :: Value.int .u8 0 :: Value.int .u8 0 :: Value.slice none 0 0 :: Value.slice none 0 0 :: []).toArray, .slice none 0 0, .int .u8 0] : Array Value).toList 8 = some ([.agg [.agg [.lit (.int .u8 0), .lit (.int .u8 0), .lit (.int .u8 0), .lit (.int .u8 0), .lit (.int .u8 0), .lit (.int .u8 0), .lit (.int .u8 0), .lit (.int .u8 0), .lit (.int .u8 0), .lit (.int .u8 0), .lit (.int .u8 0), .lit (.int .u8 0), .lit (.int .u8 0), .lit (.int .u8 0), .lit (.int .u8 0), .lit (.int .u8 0), .lit (.int .u8 0), .lit (.int .u8 0), .lit (.int .u8 0), .lit (.int .u8 0), .lit (.int .u8 0), .lit (.int .u8 0), .lit (.int .u8 0), .lit (.int .u8 0), .lit (.int .u8 0), .lit (.int .u8 0), .lit (.int .u8 0), .lit (.int .u8 0), .lit (.int .u8 0), .lit (.int .u8 0), .lit (.int .u8 0), .lit (.int .u8 0)], .nil, .nil], .nil, .lit (.int .u8 0)], [], places) :=
  ⟨[], by kernel_rfl⟩

set_option maxRecDepth 100000 in
theorem lifted (os : Os) (started : os.Started) (H : Type) (enc : TypeId × Value → H) (F : Stop.Interp) :
    ReturnsInHanded {} Tryd.checked os 5 .any ((OpenSpec.ofChange Rows.sealTagsSpec).preRow enc Tryd.prog Tryd.f5 Rows.sealTagsRow.domain false Rows.sealTagsRow.laid) (((OpenSpec.ofChange Rows.sealTagsSpec).at F).post enc Tryd.prog Tryd.f5 false true false false) := by
  obtain ⟨places, hx⟩ := reads os enc
  refine returnsInHanded_of_row (C := Tryd.checked) (s := OpenSpec.ofChange Rows.sealTagsSpec) own started (by kernel_rfl) Tryd.func5
    (witness_row_atRef (enc := enc) (C := Tryd.checked) false (World.doorLaid Tryd.prog 400 os) #[.agg (Value.int .u8 0 :: Value.int .u8 0 :: Value.int .u8 0 :: Value.int .u8 0 :: Value.int .u8 0 :: Value.int .u8 0 :: Value.int .u8 0 :: Value.int .u8 0 :: Value.int .u8 0 :: Value.int .u8 0 :: Value.int .u8 0 :: Value.int .u8 0 :: Value.int .u8 0 :: Value.int .u8 0 :: Value.int .u8 0 :: Value.int .u8 0 :: Value.int .u8 0 :: Value.int .u8 0 :: Value.int .u8 0 :: Value.int .u8 0 :: Value.int .u8 0 :: Value.int .u8 0 :: Value.int .u8 0 :: Value.int .u8 0 :: Value.int .u8 0 :: Value.int .u8 0 :: Value.int .u8 0 :: Value.int .u8 0 :: Value.int .u8 0 :: Value.int .u8 0 :: Value.int .u8 0 :: Value.int .u8 0 :: Value.slice none 0 0 :: Value.slice none 0 0 :: []).toArray, .slice none 0 0, .int .u8 0] rfl (by kernel_rfl) (by kernel_rfl) (by kernel_rfl)
      (OpenSpec.preRow_of_cond 8 hx (by kernel_rfl) (fun k hk => by cases hk) (by kernel_rfl) (laid_met os _))) ?_
  intro W base args ds gs before hval hW _ _ _ hL _ _
  exact contract H enc W base args ds gs before hval hW hL

theorem said : Rows.SealTagsSaid :=
  OpenClaim.holds_of_cond 5 Tryd.f5 rfl rfl rfl rfl rfl rfl rfl ⟨rfl, rfl, rfl, rfl, rfl⟩ rfl rfl rfl rfl rfl (by kernel_rfl) Tryd.func5 (by kernel_rfl)
    (of_decide_eq_true (by kernel_rfl)) (by unfold Func.isWrapper; first | (rw [if_pos (by decide +kernel)]; kernel_rfl) | (rw [if_neg (by decide +kernel)]; exact ⟨rfl, rfl⟩))
    (fun os started H enc _ F => by rw [OpenClaim.pre_eq_preRow]; exact lifted os started H enc F)

theorem plain (f : FuncId) (fn : Func) (hf : Tryd.pinned.checked.prog.funcNamed "fellowship/fellowshiplaw08.SealTags" = some f) (hfn : Tryd.pinned.checked.prog.funcs[f]? = some fn) :
    true = Tryd.pinned.checked.prog.looks [] ∧ ∀ (j : Nat) t, fn.params[j]? = some t → Tryd.pinned.checked.prog.wantsStandIn t = false := by
  obtain rfl : f = 5 := Option.some.inj ((show Tryd.prog.funcNamed "fellowship/fellowshiplaw08.SealTags" = some 5 by kernel_rfl).symm.trans hf) |>.symm
  obtain rfl : fn = Tryd.f5 := (Option.some.inj (Tryd.func5.symm.trans hfn)).symm
  refine ⟨by kernel_rfl, fun j t ht => ?_⟩
  rw [Tryd.params5] at ht
  have hm : t ∈ [26, 24, 5] := by simpa using Array.mem_of_getElem? ht
  have hall : ([26, 24, 5].all fun u => !Tryd.prog.wantsStandIn u) = true := by kernel_rfl
  exact (show Tryd.prog.wantsStandIn t = false by simpa using List.all_eq_true.1 hall t hm)
end Go.Proofs.YtdaieklimdhkoaaDoor.sealTags
namespace Go.Proofs.YtdaieklimdhkoaaDoor
theorem sealTags_card : Rows.SealTagsCardSaid :=
  Claim7.holds_tied_plain_at .later [] _ _ _ _ sealTags.said (fun _ h => by cases h) (by kernel_rfl) (fun _ h => by cases h) sealTags_row_tie rfl ⟨rfl, rfl⟩ (by kernel_rfl) rfl sealTags.plain (by kernel_rfl)
#print axioms sealTags_card
end Go.Proofs.YtdaieklimdhkoaaDoor
