/- Parts that are cut anywhere have the digest of the whole: the law fellowshiplaw03.ShawideParts answers true at every input, where package shawide's tables and package api's errors hold what the program's text lays. -/
import Derived.Test.YtpbkjphdkdlhjaaDoorVLaw
import Derived.Deep.RegionWith
namespace Go.Proofs.YtpbkjphdkdlhjaaDoor.shawideParts
open Go.ChangeShapes Go.WideShapes Go.ChangeAt Go.RowKit

theorem long_walk (A : Option Addr) (c n : Nat) (x y : Int) (w : World) (hK : TabsW w) (hn : 1000 < n) :
    Calls Tryd.prog 5 #[.slice A n c, .agg #[.int .i64 x, .int .i64 y]] w fun e w' => e = .returned (.bool true) ∧ Below w.heap.size w w' := by
  have h1 : (1000 : Int) < (n : Int) := by omega
  have hB0 : Below w.heap.size w (w.alloc (.cells #[.int .i64 x, .int .i64 y] 37)) := (Below.refl _ _).alloc (Nat.le_refl _) _
  have HB0 := Lib.hid hB0
  clear hB0
  go_enter Tryd.func5, Tryd.ntmps5
  go_wp2_with fail
  refine (alive3 _ (hK.below HB0.out)).mono ?_
  rintro e w1 ⟨rfl, hB⟩
  go_wp2
  go_ret
  exact ⟨rfl, below_then HB0.out hB⟩
theorem cells_at (w : World) (vs : List Value) (t : TypeId) (g : Nat) (hg : w.heap.size = g) : Cells (w.alloc (.cells vs.toArray t)) g vs t := by
  subst hg
  exact Cells.new w vs.toArray t
/-- Sum of a literal of parts, in a region that makes it: whatever else the region has made. -/
theorem sum_lit (w1 : World) (vs : List Value) (ps : List (List UInt8)) (n : Nat) (xs : List UInt8) (hK : TabsW w1) (hn : ps.length = n) (hv : vs.length = n) (hn2 : n ≤ 10) (hf : ps.flatten = xs) (hx : xs.length ≤ 1000)
    (hp : ∀ (j : Nat) (us : List UInt8), ps[j]? = some us → ∃ v, vs[j]? = some v ∧ ∀ W, Below w1.heap.size w1 W → Part W W.heap.size v us) (W : World) (g : Nat) (hC : Cells W g vs 24) (hB : Below w1.heap.size w1 W) :
    Calls Tryd.prog 7 #[.slice (some ⟨g, 0, none⟩) n n] W fun e w' => e = .returned (hashVal (widSum xs)) ∧ Below w1.heap.size w1 w' ∧ ∀ g vs t, Cells W g vs t → Cells w' g vs t := by
  subst hf
  refine (wideSum_any _ n n ps W (hK.below hB) hn (.inr ⟨g, 0, rfl, hC.lt, fun j us hu => ?_⟩) (by omega) (by omega)).mono ?_
  · obtain ⟨v, h1, h2⟩ := hp j us hu
    exact ⟨v, by rw [Nat.zero_add]; exact hC.get h1, h2 W hB⟩
  · rintro e w' ⟨h1, h2⟩
    exact ⟨h1, below_then hB h2, fun g vs t h => h.below h2 h.lt⟩
theorem slice_to (A : Option Addr) (n c i : Nat) (hi : i ≤ n) (hc : n ≤ c) (w : World) : (Instr.slice 24 (.slice A n c) none (some (.int .i64 (i : Int))) none).run Tryd.prog w = .ok (.slice (cutA A 0 c) i c) w := by
  obtain ⟨i0, hi0, hs0⟩ := Option.map_eq_some_iff.1 size_u8
  have h4 : (i : Int) ≤ (c : Int) := by omega
  simp [Instr.slice, run_underlying Tryd.underlying24, Instr.sliceBounds, run_sliceBound, sizeOf, typeInfo, hi0, cutA, h4]
theorem slice_mid (A : Option Addr) (n c i k : Nat) (hi : i ≤ k) (hk : k ≤ n) (hc : n ≤ c) (w : World) : (Instr.slice 24 (.slice A n c) (some (.int .i64 (i : Int))) (some (.int .i64 (k : Int))) none).run Tryd.prog w = .ok (.slice (cutA A i c) (k - i) (c - i)) w := by
  obtain ⟨i0, hi0, hs0⟩ := Option.map_eq_some_iff.1 size_u8
  have h4 : (k : Int) ≤ (c : Int) := by omega
  have h5 : (i : Int) ≤ (k : Int) := by omega
  simp [Instr.slice, run_underlying Tryd.underlying24, Instr.sliceBounds, run_sliceBound, sizeOf, typeInfo, hi0, hs0, cutA, h4, h5]
theorem slice_from (A : Option Addr) (n c k : Nat) (hk : k ≤ n) (w : World) : (Instr.slice 24 (.slice A n c) (some (.int .i64 (k : Int))) none none).run Tryd.prog w = .ok (.slice (cutA A k c) (n - k) (c - k)) w := by
  obtain ⟨i0, hi0, hs0⟩ := Option.map_eq_some_iff.1 size_u8
  have h5 : (k : Int) ≤ (n : Int) := by omega
  simp [Instr.slice, run_underlying Tryd.underlying24, Instr.sliceBounds, run_sliceBound, sizeOf, typeInfo, hi0, hs0, cutA, h5]
theorem count (x : Int) (n : Nat) (hn : n ≤ 1000) : ∃ m : Nat, m ≤ n ∧ wrap64 ((IntKind.u64.wrap x).tmod ((n : Int) + 1)) = (m : Int) := by
  have h : (IntKind.u64.wrap x).tmod ((n : Int) + 1) = x % 18446744073709551616 % ((n : Int) + 1) := by
    rw [IntKind.wrap_u64, Int.tmod_eq_emod_of_nonneg (by omega)]
  have h1 := Int.emod_nonneg (x % 18446744073709551616) (show ((n : Int) + 1) ≠ 0 by omega)
  have h2 := Int.emod_lt_of_pos (x % 18446744073709551616) (show 0 < ((n : Int) + 1) by omega)
  refine ⟨(x % 18446744073709551616 % ((n : Int) + 1)).toNat, by omega, ?_⟩
  rw [h, IntWalk.wrap64_in _ (by omega)]
  omega
set_option maxRecDepth 100000 in
set_option maxHeartbeats 800000 in
theorem walk (A : Option Addr) (c n : Nat) (x y : Int) (bs : List UInt8) (w : World) (hK : TabsW w) (hl : bs.length = n) (hr : Row w w.heap.size A bs) (hA : A = none → c = 0) (hc : n ≤ c) (hc2 : c ≤ maxLen) (hn : n ≤ 1000) :
    Calls Tryd.prog 5 #[.slice A n c, .agg #[.int .i64 x, .int .i64 y]] w fun e w' => e = .returned (.bool true) ∧ Below w.heap.size w w' := by
  have h1 : ¬ (1000 : Int) < (n : Int) := by omega
  have hB0 : Below w.heap.size w (w.alloc (.cells #[.int .i64 x, .int .i64 y] 37)) := (Below.refl _ _).alloc (Nat.le_refl _) _
  have hC0 := Cells.new w #[.int .i64 x, .int .i64 y] 37
  have HC0 := Lib.hid hC0
  have HB0 := Lib.hid hB0
  have HL := Lib.hid hl
  clear hB0 hC0 hl
  go_enter Tryd.func5, Tryd.ntmps5
  go_wp2_with fail
  refine (alive3 _ (hK.below HB0.out)).mono ?_
  rintro e w1 ⟨rfl, hB⟩
  have hC1 := HC0.out.below hB HC0.out.lt
  have hB1 := below_then HB0.out hB
  have cx := hC1.get (j := 0) (v := .int .i64 x) rfl
  have cy := hC1.get (j := 1) (v := .int .i64 y) rfl
  clear hB hC1 HB0 HC0
  obtain ⟨i, hi, e1⟩ := count x n hn
  obtain ⟨r, hr1⟩ : ∃ r, n - i = r := ⟨_, rfl⟩
  have e2 : (n : Int) - (i : Int) = (r : Int) := by omega
  have hr2 : r ≤ 1000 := by omega
  obtain ⟨j, hj, e3⟩ := count y r hr2
  obtain ⟨k, hk1⟩ : ∃ k, i + j = k := ⟨_, rfl⟩
  have e4 : (i : Int) + (j : Int) = (k : Int) := by omega
  have hk2 : k ≤ n := by omega
  have hk3 : i ≤ k := by omega
  replace hr1 := Lib.hid hr1
  replace hk1 := Lib.hid hk1
  go_wp2_with fail
  rw [e1]
  have hs1 := slice_to A n c i hi hc
  have hs2 := slice_mid A n c i k hk3 hk2 hc
  have hs3 := slice_from A n c k hk2
  have hR1 := hr.on hB1
  have hK1 := hK.below hB1
  have hp1 : ∀ W, Below w1.heap.size w1 W → Part W W.heap.size (.slice (cutA A 0 c) i c) (bs.take i) := fun W hb => by
    refine ⟨_, c, by rw [List.length_take, HL.out, Nat.min_eq_left hi], ?_, by rw [List.length_take, HL.out, Nat.min_eq_left hi]; omega, hc2, fun h => hA (cutA_none h)⟩
    have h := ((hR1.on hb).cut 0 c (by rw [HL.out]; exact hc)).take i
    rw [List.drop_zero] at h
    exact h
  have hp2 : ∀ W, Below w1.heap.size w1 W → Part W W.heap.size (.slice (cutA A i c) (k - i) (c - i)) ((bs.drop i).take (k - i)) := fun W hb => by
    have hlen : ((bs.drop i).take (k - i)).length = k - i := by rw [List.length_take, List.length_drop, HL.out]; omega
    refine ⟨_, c - i, by rw [hlen], ((hR1.on hb).cut i c (by rw [HL.out]; exact hc)).take _, by rw [hlen]; omega, by omega, fun h => ?_⟩
    rw [hA (cutA_none h), Nat.zero_sub]
  have hp3 : ∀ W, Below w1.heap.size w1 W → Part W W.heap.size (.slice (cutA A k c) (n - k) (c - k)) (bs.drop k) := fun W hb => by
    have hlen : (bs.drop k).length = n - k := by rw [List.length_drop, HL.out]
    refine ⟨_, c - k, by rw [hlen], (hR1.on hb).cut k c (by rw [HL.out]; exact hc), by rw [hlen]; omega, by omega, fun h => ?_⟩
    rw [hA (cutA_none h), Nat.zero_sub]
  have hp0 : ∀ W, Below w1.heap.size w1 W → Part W W.heap.size (.slice none 0 0) [] := fun W _ => ⟨none, 0, rfl, .inl rfl, Nat.le_refl _, Nat.zero_le _, fun _ => rfl⟩
  have hpb : ∀ W, Below w1.heap.size w1 W → Part W W.heap.size (.slice A n c) bs := fun W hb => ⟨A, c, by rw [HL.out], hR1.on hb, by rw [HL.out]; exact hc, hc2, hA⟩
  have hfl : [bs.take i, (bs.drop i).take (k - i), [], bs.drop k].flatten = bs := by
    have h : (bs.drop i).take (k - i) ++ bs.drop k = bs.drop i := by
      conv => rhs; rw [← List.take_append_drop (k - i) (bs.drop i), List.drop_drop, show i + (k - i) = k by omega]
    simp only [List.flatten_cons, List.flatten_nil, List.append_nil, List.nil_append]
    rw [h, List.take_append_drop]
  generalize hpc2 : (bs.drop i).take (k - i) = q2 at *
  generalize cutA A 0 c = A1 at *
  generalize cutA A i c = A2 at *
  generalize cutA A k c = A3 at *
  generalize k - i = m2 at *
  generalize c - i = c2 at *
  generalize n - k = m3 at *
  generalize c - k = c3 at *
  have HS4 := Lib.hid (sum_lit w1 [.slice A1 i c, .slice A2 m2 c2, .slice none 0 0, .slice A3 m3 c3] [bs.take i, q2, [], bs.drop k] 4 bs hK1 rfl rfl (by omega) hfl (by rw [HL.out]; exact hn) (fun j us hu => by
    match j, hu with
    | 0, hu => cases hu; exact ⟨_, rfl, hp1⟩
    | 1, hu => cases hu; exact ⟨_, rfl, hp2⟩
    | 2, hu => cases hu; exact ⟨_, rfl, hp0⟩
    | 3, hu => cases hu; exact ⟨_, rfl, hp3⟩
    | j + 4, hu => simp at hu))
  have HS1 := Lib.hid (sum_lit w1 [.slice A n c] [bs] 1 bs hK1 rfl rfl (by omega) (by simp) (by rw [HL.out]; exact hn) (fun j us hu => by
    match j, hu with
    | 0, hu => cases hu; exact ⟨_, rfl, hpb⟩
    | j + 1, hu => simp at hu))
  have hq := wide_eql
  have hgd := wide_guard
  clear hp0 hp1 hp2 hp3 hpb hfl hpc2 cx cy e1 e2 e3 e4
  go_region_with (first
    | (go_at_call 7
       refine (HS4.out _ _ (by first | exact cells_at _ _ _ _ (by simp) | exact (cells_at _ _ _ _ (by simp)).alloc _) (by first | exact ((Below.refl _ _).drew.alloc (Nat.le_refl _) _) | exact (((Below.refl _ _).drew.alloc (Nat.le_refl _) _).alloc (by simp) _))).mono ?_
       clear HS4
       rintro e w2 ⟨rfl, hb2, hcc⟩)
    | (go_at_call 7
       refine (HS1.out _ _ (by first | exact hcc _ _ _ (cells_at _ _ _ _ (by simp)) | exact hcc _ _ _ ((cells_at _ _ _ _ (by simp)).alloc _) | exact cells_at _ _ _ _ (by simp)) (by first | exact hb2 | exact hb2.alloc hb2.size _)).mono ?_
       clear HS1
       rintro e w3 ⟨rfl, hb3, _⟩))
  all_goals
    go_wp2
    go_ret
    exact ⟨rfl, below_then hB1 hb3⟩

set_option maxRecDepth 100000 in
theorem contract (H : Type) (enc : TypeId × Value → H) (W : World) (base : Nat) (args : Array Value) (ds gs : List (DataW H)) (before : List MemPlace)
    (hval : ∀ (j : Nat) t v, Tryd.f5.params[j]? = some t → args[j]? = some v → Value.okWide Tryd.prog W .any base t v)
    (hW : DataW.Whole enc Tryd.prog Tryd.f5.params.toList Rows.shawidePartsSpec.vars false W args.toList ds gs before) (hL : laidMetH Tryd.prog Rows.shawidePartsRow.laid W) :
    Calls Tryd.prog 5 args W fun e W' => ∃ v, e = .returned v ∧ Rows.shawidePartsSpec.post enc Tryd.prog Tryd.f5 false true false false W args v W' := by
  have hW' := hW
  obtain ⟨p, q, hA0, hV, rfl, hfz, hnd⟩ := hW
  have hA : DataW.TrodAll enc Tryd.prog W 0 (fun _ => true) true Tryd.f5.params.toList args.toList ds p := hA0
  rw [Tryd.params5] at hA hval
  obtain ⟨v0, vs0, d0, ds0, p0, q0, hargs, rfl, rfl, h0, r0⟩ := trodAll_cons hA
  obtain ⟨v1, vs1, d1, ds1, p1, q1, rfl, rfl, rfl, h1, r1⟩ := trodAll_cons r0
  obtain ⟨rfl, rfl, rfl⟩ := trodAll_nil r1
  obtain rfl : args = #[v0, v1] := by cases args; simp_all
  have fin : ∀ W' : World, Below W.heap.size W W' → ∃ v, Ending.returned (.bool true) = .returned v ∧ Rows.shawidePartsSpec.post enc Tryd.prog Tryd.f5 false true false false W #[v0, v1] v W' := fun W' hb =>
    ⟨_, rfl, law_post laidOut Tryd.underlying4 (by kernel_rfl) (by kernel_rfl) rfl ⟨rfl, rfl, rfl⟩ hW' hb⟩
  obtain ⟨A, c, bs, rfl, nA, rA, hc1, hc2⟩ := open_bytes (hval 0 24 v0 rfl rfl) h0
  obtain ⟨zs, rfl, hz, _⟩ := open_intarr Tryd.underlying37 Tryd.underlying3 (by kernel_rfl) (by kernel_rfl) (hval 1 37 v1 rfl rfl) h1
  obtain ⟨x, y, rfl⟩ : ∃ x y, zs = [x, y] := by
    match zs, hz with
    | [x, y], _ => exact ⟨x, y, rfl⟩
  have hT : TabsW W := by
    have h := hL
    rw [show Rows.shawidePartsRow.laid = [("fellowship/api.ErrRange", Rows.laid_fellowship_api_ErrRange), ("fellowship/api.ErrLong", Rows.laid_fellowship_api_ErrLong)] ++ [("fellowship/shawide.start", Rows.laid_fellowship_shawide_start), ("fellowship/shawide.rounds", Rows.laid_fellowship_shawide_rounds)] from rfl, MakeChecks.laidMetH_plain _ _ _ (by kernel_rfl)] at h
    obtain ⟨ps, hv, _, _⟩ := h
    obtain ⟨p1, p2, _, _, h2⟩ := laid_split _ _ _ hv
    exact tabsW_of h2
  have walk : Calls Tryd.prog 5 #[.slice A bs.length c, .agg #[.int .i64 x, .int .i64 y]] W fun e w' => e = .returned (.bool true) ∧ Below W.heap.size W w' := by
    by_cases hn : bs.length ≤ 1000
    · exact walk A c _ x y bs W hT rfl rA nA hc1 hc2 hn
    · exact long_walk A c _ x y W hT (by omega)
  refine walk.mono fun e W' ⟨he, hb⟩ => ?_
  subst he
  exact fin W' hb

theorem laid_met (os : Os) (args : Array Value) : laidMetH Tryd.prog Rows.shawidePartsRow.laid ((World.doorLaid Tryd.prog 400 os).forCall (fun _ _ => 0) ⟨#[], args, []⟩).memory :=
  laidMetH_of_parts3 (fuel := 8) (laidMet_of_run' 8 (by kernel_rfl) (by kernel_rfl)) (by kernel_rfl) (by kernel_rfl)
theorem reads (os : Os) {H : Type} (enc : TypeId × Value → H) : ∃ places, DataW.whole enc Tryd.prog ((World.doorLaid Tryd.prog 400 os).forCall (fun _ _ => 0) ⟨#[], #[.slice none 0 0, .agg #[.int .i64 0, .int .i64 0]], []⟩).memory Tryd.f5.params.toList Rows.shawidePartsSpec.vars false (#[.slice none 0 0, .agg #[.int .i64 0, .int .i64 0]] : Array Value).toList 8 = some ([.nil, .agg [.lit (.int .i64 0), .lit (.int .i64 0)]], [], places) :=
  ⟨[], by kernel_rfl⟩

set_option maxRecDepth 100000 in
theorem lifted (os : Os) (started : os.Started) (H : Type) (enc : TypeId × Value → H) (F : Stop.Interp) :
    ReturnsInHanded {} Tryd.checked os 5 .any ((OpenSpec.ofChange Rows.shawidePartsSpec).preRow enc Tryd.prog Tryd.f5 Rows.shawidePartsRow.domain false Rows.shawidePartsRow.laid) (((OpenSpec.ofChange Rows.shawidePartsSpec).at F).post enc Tryd.prog Tryd.f5 false true false false) := by
  obtain ⟨places, hx⟩ := reads os enc
  refine returnsInHanded_of_row (C := Tryd.checked) (s := OpenSpec.ofChange Rows.shawidePartsSpec) own started (by kernel_rfl) Tryd.func5
    (witness_row_atRef (enc := enc) (C := Tryd.checked) false (World.doorLaid Tryd.prog 400 os) #[.slice none 0 0, .agg #[.int .i64 0, .int .i64 0]] rfl (by kernel_rfl) (by kernel_rfl) (by kernel_rfl)
      (OpenSpec.preRow_of_cond 8 hx (by kernel_rfl) (fun k hk => by cases hk) (by kernel_rfl) (laid_met os _))) ?_
  intro W base args ds gs before hval hW _ _ _ hL _ _
  exact contract H enc W base args ds gs before hval hW hL

theorem said : Rows.ShawidePartsSaid :=
  OpenClaim.holds_of_cond 5 Tryd.f5 rfl rfl rfl rfl rfl rfl rfl ⟨rfl, rfl, rfl, rfl, rfl⟩ rfl rfl rfl rfl rfl (by kernel_rfl) Tryd.func5 (by kernel_rfl)
    (of_decide_eq_true (by kernel_rfl)) (by unfold Func.isWrapper; first | (rw [if_pos (by decide +kernel)]; kernel_rfl) | (rw [if_neg (by decide +kernel)]; exact ⟨rfl, rfl⟩))
    (fun os started H enc _ F => by rw [OpenClaim.pre_eq_preRow]; exact lifted os started H enc F)

theorem plain (f : FuncId) (fn : Func) (hf : Tryd.pinned.checked.prog.funcNamed "fellowship/fellowshiplaw03.ShawideParts" = some f) (hfn : Tryd.pinned.checked.prog.funcs[f]? = some fn) :
    true = Tryd.pinned.checked.prog.looks [] ∧ ∀ (j : Nat) t, fn.params[j]? = some t → Tryd.pinned.checked.prog.wantsStandIn t = false := by
  obtain rfl : f = 5 := Option.some.inj ((show Tryd.prog.funcNamed "fellowship/fellowshiplaw03.ShawideParts" = some 5 by kernel_rfl).symm.trans hf) |>.symm
  obtain rfl : fn = Tryd.f5 := (Option.some.inj (Tryd.func5.symm.trans hfn)).symm
  refine ⟨by kernel_rfl, fun j t ht => ?_⟩
  rw [Tryd.params5] at ht
  have hm : t ∈ [24, 37] := by simpa using Array.mem_of_getElem? ht
  have hall : ([24, 37].all fun u => !Tryd.prog.wantsStandIn u) = true := by kernel_rfl
  exact (show Tryd.prog.wantsStandIn t = false by simpa using List.all_eq_true.1 hall t hm)
end Go.Proofs.YtpbkjphdkdlhjaaDoor.shawideParts
namespace Go.Proofs.YtpbkjphdkdlhjaaDoor
theorem shawideParts_card : Rows.ShawidePartsCardSaid :=
  Claim7.holds_tied_plain_at .later [] _ _ _ _ shawideParts.said (fun _ h => by cases h) (by kernel_rfl) (fun _ h => by cases h) shawideParts_row_tie rfl ⟨rfl, rfl⟩ (by kernel_rfl) rfl shawideParts.plain (by kernel_rfl)
#print axioms shawideParts_card
end Go.Proofs.YtpbkjphdkdlhjaaDoor
