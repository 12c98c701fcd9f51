/- Just so many bytes are sealed, and opened: the law fellowshiplaw08.SealBounds answers true at every input, where package api's errors hold what the program's text lays. -/
import Derived.Test.YtdaieklimdhkoaaDoorKSeBounds
namespace Go.Proofs.YtdaieklimdhkoaaDoor.sealBounds
open Go.ChangeShapes Go.WideShapes Go.ChangeAt Go.RowKit
theorem bounds_n (x : Int) : ∃ n : Nat, n ≤ 16386 ∧ wrap64 (16382 + wrap64 ((IntKind.u64.wrap x).tmod 5)) = (n : Int) := by
  have h0 : 0 ≤ IntKind.u64.wrap x := by rw [IntKind.wrap_u64]; omega
  rw [Int.tmod_eq_emod_of_nonneg h0]
  generalize IntKind.u64.wrap x = y at *
  refine ⟨16382 + (y % 5).toNat, by omega, ?_⟩
  rw [IntWalk.wrap64_in (y % 5) (by omega), IntWalk.wrap64_in _ (by omega)]
  omega

set_option maxRecDepth 100000 in
theorem contract (H : Type) (enc : TypeId × Value → H) (W : World) (base : Nat) (args : Array Value) (ds gs : List (DataW H)) (before : List MemPlace)
    (hval : ∀ (j : Nat) t v, Tryd.f6.params[j]? = some t → args[j]? = some v → Value.okWide Tryd.prog W .any base t v)
    (hW : DataW.Whole enc Tryd.prog Tryd.f6.params.toList Rows.sealBoundsSpec.vars false W args.toList ds gs before) (hL : laidMetH Tryd.prog Rows.sealBoundsRow.laid W) :
    Calls Tryd.prog 6 args W fun e W' => ∃ v, e = .returned v ∧ Rows.sealBoundsSpec.post enc Tryd.prog Tryd.f6 false true false false W args v W' := by
  have hW' := hW
  obtain ⟨p, q, hA0, hV, rfl, hfz, hnd⟩ := hW
  have hA : DataW.TrodAll enc Tryd.prog W 0 (fun _ => true) true Tryd.f6.params.toList args.toList ds p := hA0
  rw [Tryd.params6] at hA hval
  obtain ⟨v0, vs0, d0, ds0, p0, q0, hargs, rfl, rfl, h0, r0⟩ := trodAll_cons hA
  obtain ⟨v1, vs1, d1, ds1, p1, q1, rfl, rfl, rfl, h1, r1⟩ := trodAll_cons r0
  obtain ⟨rfl, rfl, rfl⟩ := trodAll_nil r1
  obtain rfl : args = #[v0, v1] := by cases args; simp_all
  have fin : ∀ W' : World, Below W.heap.size W W' → ∃ v, Ending.returned (.bool true) = .returned v ∧ Rows.sealBoundsSpec.post enc Tryd.prog Tryd.f6 false true false false W #[v0, v1] v W' := fun W' hb =>
    ⟨_, rfl, law_post laidOut Tryd.underlying4 (by kernel_rfl) (by kernel_rfl) rfl ⟨rfl, rfl, rfl⟩ hW' hb⟩
  obtain ⟨key, rfl, hk⟩ := open_key (hval 0 23 v0 rfl rfl) h0
  obtain ⟨z, rfl⟩ : ∃ z, v1 = .int .i64 z := okWide_int Tryd.underlying3 (hval 1 3 v1 rfl rfl)
  obtain ⟨es, hE⟩ := errs_of hL
  have walk : Calls Tryd.prog 6 #[hashVal key, .int .i64 z] W fun e w' => e = .returned (.bool true) ∧ Below W.heap.size W w' := by
    have CA : Hid (∀ V, Below W.heap.size W V → Calls Tryd.prog 7 #[] V fun e w' => e = .returned (.bool true) ∧ Below V.heap.size V w') := fun V hV => alive8 V es (hE.below hV)
    obtain ⟨n, hn, hx⟩ := bounds_n z
    obtain ⟨ea, hea, hca⟩ := hE.var 2 (g := 0) rfl
    obtain ⟨eb, heb, hcb⟩ := hE.var 6 (g := 6) rfl
    have m12 : 12 ≤ maxLen := by unfold maxLen; omega
    by_cases hl : 16384 < n
    · exact bounds_over z n 0 key (List.replicate 12 0) (List.replicate n 0) (List.replicate (n + 16) 0) (errAt ea) (errAt ea) (errAt ea) es ea eb W hk hx (by omega) hE hea heb (fun V g hM => hM.row hM.lt) (fun V g hM => hM.row hM.lt) (fun V g hM => hM.row hM.lt) (.inl ⟨hl, rfl, rfl, rfl, rfl⟩) CA
        (fun gn gp V hV rn rp => (sealSeal_long (some ⟨gn, 0, none⟩) none (some ⟨gp, 0, none⟩) 12 0 0 n n key _ ea V hk List.length_replicate rn (fun h => by cases h) (Nat.le_refl _) m12 (.inr hl) ((hV.cell (block_lt_of_cell hca)).trans hca)).mono fun e w' h => ⟨_, _, h.1, h.2⟩)
        (fun gn gp V hV rn rp => (sealSeal_long (some ⟨gn, 0, none⟩) (some ⟨gp, 0, none⟩) none 12 n n 0 0 key _ ea V hk List.length_replicate rn (fun h => by cases h) (Nat.le_refl _) m12 (.inl hl) ((hV.cell (block_lt_of_cell hca)).trans hca)).mono fun e w' h => ⟨_, _, _, h.1, h.2⟩)
        (fun gn gp V hV rn rp => (sealOpen_long (some ⟨gn, 0, none⟩) none (some ⟨gp, 0, none⟩) 12 0 0 (n + 16) (n + 16) key _ ea V hk List.length_replicate rn (fun h => by cases h) (Nat.le_refl _) m12 (by omega) (.inr (by omega)) ((hV.cell (block_lt_of_cell hca)).trans hca)).mono fun e w' h => ⟨_, _, _, h.1, h.2⟩)
    · cases hr : sealCode key (List.replicate 12 0) [] ((List.replicate (n + 16) 0).take n) == (List.replicate (n + 16) 0).drop n with
      | true =>
        exact bounds_over z n (n + 16) key (List.replicate 12 0) (List.replicate n 0) (List.replicate (n + 16) 0) .nilIface .nilIface .nilIface es ea eb W hk hx (by omega) hE hea heb (fun V g hM => hM.row hM.lt) (fun V g hM => hM.row hM.lt) (fun V g hM => hM.row hM.lt) (.inr ⟨by omega, rfl, rfl, rfl, .inl rfl⟩) CA
          (fun gn gp V hV rn rp => (sealSeal_any (some ⟨gn, 0, none⟩) none (some ⟨gp, 0, none⟩) 12 0 0 n n key _ [] _ V hk List.length_replicate rn (fun h => by cases h) (Nat.le_refl _) m12 rfl Row.nil (by omega) List.length_replicate rp (by omega)).mono fun e w' ⟨g, h1, _, _, h2⟩ => ⟨_, _, h1, h2⟩)
          (fun gn gp V hV rn rp => (sealSeal_any (some ⟨gn, 0, none⟩) (some ⟨gp, 0, none⟩) none 12 n n 0 0 key _ _ [] V hk List.length_replicate rn (fun h => by cases h) (Nat.le_refl _) m12 List.length_replicate rp (by omega) rfl Row.nil (by omega)).mono fun e w' ⟨g, h1, _, _, h2⟩ => ⟨_, _, _, h1, h2⟩)
          (fun gn gp V hV rn rp => (sealOpen_any (some ⟨gn, 0, none⟩) none (some ⟨gp, 0, none⟩) 12 0 0 (n + 16) (n + 16) n key _ [] _ eb true V hk List.length_replicate rn (fun h => by cases h) (Nat.le_refl _) m12 rfl Row.nil (by omega) List.length_replicate rp rfl (by omega) (Nat.le_refl _) ((hV.cell (block_lt_of_cell hcb)).trans hcb) hr).mono fun e w' h => by
            obtain ⟨F, cf, h1, _, _, _, _, h2⟩ := h.1 rfl
            exact ⟨_, _, _, h1, h2⟩)
      | false =>
        exact bounds_over z n (n + 16) key (List.replicate 12 0) (List.replicate n 0) (List.replicate (n + 16) 0) .nilIface .nilIface (errAt eb) es ea eb W hk hx (by omega) hE hea heb (fun V g hM => hM.row hM.lt) (fun V g hM => hM.row hM.lt) (fun V g hM => hM.row hM.lt) (.inr ⟨by omega, rfl, rfl, rfl, .inr rfl⟩) CA
          (fun gn gp V hV rn rp => (sealSeal_any (some ⟨gn, 0, none⟩) none (some ⟨gp, 0, none⟩) 12 0 0 n n key _ [] _ V hk List.length_replicate rn (fun h => by cases h) (Nat.le_refl _) m12 rfl Row.nil (by omega) List.length_replicate rp (by omega)).mono fun e w' ⟨g, h1, _, _, h2⟩ => ⟨_, _, h1, h2⟩)
          (fun gn gp V hV rn rp => (sealSeal_any (some ⟨gn, 0, none⟩) (some ⟨gp, 0, none⟩) none 12 n n 0 0 key _ _ [] V hk List.length_replicate rn (fun h => by cases h) (Nat.le_refl _) m12 List.length_replicate rp (by omega) rfl Row.nil (by omega)).mono fun e w' ⟨g, h1, _, _, h2⟩ => ⟨_, _, _, h1, h2⟩)
          (fun gn gp V hV rn rp => (sealOpen_any (some ⟨gn, 0, none⟩) none (some ⟨gp, 0, none⟩) 12 0 0 (n + 16) (n + 16) n key _ [] _ eb false V hk List.length_replicate rn (fun h => by cases h) (Nat.le_refl _) m12 rfl Row.nil (by omega) List.length_replicate rp rfl (by omega) (Nat.le_refl _) ((hV.cell (block_lt_of_cell hcb)).trans hcb) hr).mono fun e w' h => by
            obtain ⟨h1, h2⟩ := h.2 rfl
            exact ⟨_, _, _, h1, h2⟩)
  refine walk.mono fun e W' ⟨he, hb⟩ => ?_
  subst he
  exact fin W' hb

theorem laid_met (os : Os) (args : Array Value) : laidMetH Tryd.prog Rows.sealBoundsRow.laid ((World.doorLaid Tryd.prog 400 os).forCall (fun _ _ => 0) ⟨#[], args, []⟩).memory :=
  laidMetH_of_parts3 (fuel := 8) (laidMet_of_run' 8 (by kernel_rfl) (by kernel_rfl)) (by kernel_rfl) (by kernel_rfl)
theorem reads (os : Os) {H : Type} (enc : TypeId × Value → H) : ∃ places, DataW.whole enc Tryd.prog ((World.doorLaid Tryd.prog 400 os).forCall (fun _ _ => 0) ⟨#[], #[.agg #[.int .u8 0, .int .u8 0, .int .u8 0, .int .u8 0, .int .u8 0, .int .u8 0, .int .u8 0, .int .u8 0, .int .u8 0, .int .u8 0, .int .u8 0, .int .u8 0, .int .u8 0, .int .u8 0, .int .u8 0, .int .u8 0, .int .u8 0, .int .u8 0, .int .u8 0, .int .u8 0, .int .u8 0, .int .u8 0, .int .u8 0, .int .u8 0, .int .u8 0, .int .u8 0, .int .u8 0, .int .u8 0, .int .u8 0, .int .u8 0, .int .u8 0, .int .u8 0], .int .i64 0], []⟩).memory Tryd.f6.params.toList Rows.sealBoundsSpec.vars false (#[.agg #[.int .u8 0, .int .u8 0, .int .u8 0, .int .u8 0, .int .u8 0, .int .u8 0, .int .u8 0, .int .u8 0, .int .u8 0, .int .u8 0, .int .u8 0, .int .u8 0, .int .u8 0, .int .u8 0, .int .u8 0, .int .u8 0, .int .u8 0, .int .u8 0, .int .u8 0, .int .u8 0, .int .u8 0, .int .u8 0, .int .u8 0, .int .u8 0, .int .u8 0, .int .u8 0, .int .u8 0, .int .u8 0, .int .u8 0, .int .u8 0, .int .u8 0, .int .u8 0], .int .i64 0] : Array Value).toList 8 = some ([.agg [.lit (.int .u8 0), .lit (.int .u8 0), .lit (.int .u8 0), .lit (.int .u8 0), .lit (.int .u8 0), .lit (.int .u8 0), .lit (.int .u8 0), .lit (.int .u8 0), .lit (.int .u8 0), .lit (.int .u8 0), .lit (.int .u8 0), .lit (.int .u8 0), .lit (.int .u8 0), .lit (.int .u8 0), .lit (.int .u8 0), .lit (.int .u8 0), .lit (.int .u8 0), .lit (.int .u8 0), .lit (.int .u8 0), .lit (.int .u8 0), .lit (.int .u8 0), .lit (.int .u8 0), .lit (.int .u8 0), .lit (.int .u8 0), .lit (.int .u8 0), .lit (.int .u8 0), .lit (.int .u8 0), .lit (.int .u8 0), .lit (.int .u8 0), .lit (.int .u8 0), .lit (.int .u8 0), .lit (.int .u8 0)], .lit (.int .i64 0)], [], places) :=
  ⟨[], by kernel_rfl⟩

set_option maxRecDepth 100000 in
theorem lifted (os : Os) (started : os.Started) (H : Type) (enc : TypeId × Value → H) (F : Stop.Interp) :
    ReturnsInHanded {} Tryd.checked os 6 .any ((OpenSpec.ofChange Rows.sealBoundsSpec).preRow enc Tryd.prog Tryd.f6 Rows.sealBoundsRow.domain false Rows.sealBoundsRow.laid) (((OpenSpec.ofChange Rows.sealBoundsSpec).at F).post enc Tryd.prog Tryd.f6 false true false false) := by
  obtain ⟨places, hx⟩ := reads os enc
  refine returnsInHanded_of_row (C := Tryd.checked) (s := OpenSpec.ofChange Rows.sealBoundsSpec) own started (by kernel_rfl) Tryd.func6
    (witness_row_atRef (enc := enc) (C := Tryd.checked) false (World.doorLaid Tryd.prog 400 os) #[.agg #[.int .u8 0, .int .u8 0, .int .u8 0, .int .u8 0, .int .u8 0, .int .u8 0, .int .u8 0, .int .u8 0, .int .u8 0, .int .u8 0, .int .u8 0, .int .u8 0, .int .u8 0, .int .u8 0, .int .u8 0, .int .u8 0, .int .u8 0, .int .u8 0, .int .u8 0, .int .u8 0, .int .u8 0, .int .u8 0, .int .u8 0, .int .u8 0, .int .u8 0, .int .u8 0, .int .u8 0, .int .u8 0, .int .u8 0, .int .u8 0, .int .u8 0, .int .u8 0], .int .i64 0] rfl (by kernel_rfl) (by kernel_rfl) (by kernel_rfl)
      (OpenSpec.preRow_of_cond 8 hx (by kernel_rfl) (fun k hk => by cases hk) (by kernel_rfl) (laid_met os _))) ?_
  intro W base args ds gs before hval hW _ _ _ hL _ _
  exact contract H enc W base args ds gs before hval hW hL

theorem said : Rows.SealBoundsSaid :=
  OpenClaim.holds_of_cond 6 Tryd.f6 rfl rfl rfl rfl rfl rfl rfl ⟨rfl, rfl, rfl, rfl, rfl⟩ rfl rfl rfl rfl rfl (by kernel_rfl) Tryd.func6 (by kernel_rfl)
    (of_decide_eq_true (by kernel_rfl)) (by unfold Func.isWrapper; first | (rw [if_pos (by decide +kernel)]; kernel_rfl) | (rw [if_neg (by decide +kernel)]; exact ⟨rfl, rfl⟩))
    (fun os started H enc _ F => by rw [OpenClaim.pre_eq_preRow]; exact lifted os started H enc F)

theorem plain (f : FuncId) (fn : Func) (hf : Tryd.pinned.checked.prog.funcNamed "fellowship/fellowshiplaw08.SealBounds" = some f) (hfn : Tryd.pinned.checked.prog.funcs[f]? = some fn) :
    true = Tryd.pinned.checked.prog.looks [] ∧ ∀ (j : Nat) t, fn.params[j]? = some t → Tryd.pinned.checked.prog.wantsStandIn t = false := by
  obtain rfl : f = 6 := Option.some.inj ((show Tryd.prog.funcNamed "fellowship/fellowshiplaw08.SealBounds" = some 6 by kernel_rfl).symm.trans hf) |>.symm
  obtain rfl : fn = Tryd.f6 := (Option.some.inj (Tryd.func6.symm.trans hfn)).symm
  refine ⟨by kernel_rfl, fun j t ht => ?_⟩
  rw [Tryd.params6] at ht
  have hm : t ∈ [23, 3] := by simpa using Array.mem_of_getElem? ht
  have hall : ([23, 3].all fun u => !Tryd.prog.wantsStandIn u) = true := by kernel_rfl
  exact (show Tryd.prog.wantsStandIn t = false by simpa using List.all_eq_true.1 hall t hm)
end Go.Proofs.YtdaieklimdhkoaaDoor.sealBounds
namespace Go.Proofs.YtdaieklimdhkoaaDoor
theorem sealBounds_card : Rows.SealBoundsCardSaid :=
  Claim7.holds_tied_plain_at .later [] _ _ _ _ sealBounds.said (fun _ h => by cases h) (by kernel_rfl) (fun _ h => by cases h) sealBounds_row_tie rfl ⟨rfl, rfl⟩ (by kernel_rfl) rfl sealBounds.plain (by kernel_rfl)
#print axioms sealBounds_card
end Go.Proofs.YtdaieklimdhkoaaDoor
