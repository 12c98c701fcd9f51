/- How many blocks every message has, and the digest of as many bytes of one kind: the law fellowshiplaw03.ShawideBlocks answers true at every input, where package shawide's tables and package api's errors hold what the program's text lays. -/
import Derived.Test.YtpbkjphdkdlhjaaDoorVLaw
namespace Go.Proofs.YtpbkjphdkdlhjaaDoor.shawideBlocks
open Go.ChangeShapes Go.WideShapes Go.ChangeAt Go.RowKit
theorem blocks_q (n q : Nat) (w : World) (hn : n ≤ 65536) (hq : n + (widPad n + 16) = 128 * q) :
    Calls Tryd.prog 9 #[.int .i64 (n : Int)] w fun e w' => e = .returned (.tuple #[.int .i64 (q : Int), .nilIface]) ∧ w = w' := by
  refine (wideBlocks_in n w hn).mono ?_
  rintro e w' ⟨h1, h2⟩
  refine ⟨?_, h2⟩
  rw [h1, hq, show ((128 * q : Nat) : Int) / 128 = (q : Int) by omega]
set_option maxRecDepth 100000 in
theorem out_walk (n : Int) (u : UInt8) (es : List Addr) (w : World) (hK : TabsW w) (hE : Errs w es) (hn : n < 0 ∨ 65536 < n) :
    Calls Tryd.prog 4 #[.int .i64 n, .int .u8 (u.toNat : Int)] w fun e w' => e = .returned (.bool true) ∧ Below w.heap.size w w' := by
  go_enter Tryd.func4, Tryd.ntmps4
  go_wp2_with fail
  refine (alive3 w hK).mono ?_
  rintro e w1 ⟨rfl, hB1⟩
  have hE1 := hE.below hB1
  obtain ⟨a, ha, hca⟩ := hE1.var 0 (g := 1) rfl
  go_wp2_with fail
  refine (wideBlocks_out n _ w1 hn hca).mono ?_
  rintro e w2 ⟨rfl, k2, rfl⟩
  have hE2 := hE1.drewN k2
  have hB2 := below_drewN hB1 k2
  generalize w1.drewN k2 = w2 at *
  rcases hn with hn | hn
  · go_wp2_with fail
    refine (num_is es 0 1 a _ hE2 ha rfl).mono ?_
    rintro e w3 ⟨rfl, hB3⟩
    go_wp2
    go_ret
    exact ⟨rfl, below_then hB2 hB3⟩
  · have h0 : ¬ n < 0 := by omega
    go_wp2_with fail
    refine (num_is es 0 1 a _ hE2 ha rfl).mono ?_
    rintro e w3 ⟨rfl, hB3⟩
    go_wp2
    go_ret
    exact ⟨rfl, below_then hB2 hB3⟩
set_option maxRecDepth 100000 in
set_option maxHeartbeats 2000000 in
theorem in_walk (n : Nat) (u : UInt8) (w : World) (hK : TabsW w) (hn : n ≤ 65536) :
    Calls Tryd.prog 4 #[.int .i64 (n : Int), .int .u8 (u.toNat : Int)] w fun e w' => e = .returned (.bool true) ∧ Below w.heap.size w w' := by
  obtain ⟨q, hq⟩ : ∃ q, n + (widPad n + 16) = 128 * q := ⟨(n + (widPad n + 16)) / 128, by have := widEnd_mod n; omega⟩
  obtain ⟨m, hm⟩ : ∃ m, n % 400 = m := ⟨_, rfl⟩
  obtain ⟨r, hr⟩ : ∃ r, m + (widPad m + 16) = 128 * r := ⟨(m + (widPad m + 16)) / 128, by have := widEnd_mod m; omega⟩
  have hp := widPad_pos n
  have hpm := widPad_pos m
  have hm4 : m < 400 := by omega
  have e1 : (n : Int) % 400 = (m : Int) := by omega
  have q1 : (1 : Int) ≤ (q : Int) := by omega
  have q2 : (17 : Int) ≤ 128 * (q : Int) - (n : Int) := by omega
  have q3 : 128 * (q : Int) - (n : Int) < 145 := by omega
  have q4 : q ≤ 600 := by omega
  have r4 : r ≤ 10 := by omega
  have n0 : (0 : Int) ≤ (n : Int) := by omega
  have n1 : ¬ (65536 : Int) < (n : Int) := by omega
  have hmk := make_bytes m m (Nat.le_refl _) (by omega)
  have HQ := Lib.hid hq
  have HRR := Lib.hid hr
  clear hq hr hp hpm hm
  go_enter Tryd.func4, Tryd.ntmps4
  go_wp2_with fail
  refine (alive3 w hK).mono ?_
  rintro e w1 ⟨rfl, hB1⟩
  go_wp2_with fail
  refine (blocks_q n q w1 hn HQ.out).mono ?_
  rintro e w2 ⟨rfl, rfl⟩
  have hM1 := Made.new w1 (List.replicate m 0)
  have hB2 := hB1.alloc hB1.size (.cells (rowCells (List.replicate m 0)) 5)
  go_wp2_with fail
  generalize w1.alloc (.cells (rowCells (List.replicate m 0)) 5) = w2 at *
  have hgs := hB1.size
  generalize w1.heap.size = g at *
  clear hmk e1 hB1
  go_loopw [36] (fun i wr => ∃ k : Nat, k ≤ m ∧ i = .int .i64 k ∧ Below w.heap.size w wr ∧ Made wr g (List.replicate k u ++ List.replicate (m - k) 0)) (fun i _ => m - (intOf i).toNat)
  case atStart => exact ⟨0, Nat.zero_le _, rfl, hB2, by simpa using hM1⟩
  case round =>
    clear hB2 hM1
    obtain ⟨k, hk, rfl, hB, hM⟩ := hrel
    by_cases hlt : k < m
    · have hf := hM.frozen k
      obtain ⟨v3, hc3⟩ : ∃ v, wr.cell? ⟨g, k, none⟩ = some v := ⟨_, hM.cell k (by simp; omega)⟩
      have i1 : (0 : Int) ≤ (k : Int) := by omega
      have i2 : (k : Int) < (m : Int) := by omega
      go_wp2_with fail
      go_roundw
      case rel =>
        refine ⟨k + 1, by omega, by go_num, hB.setCell (p := ⟨g, k, none⟩) hgs _, ?_⟩
        have h := hM.set k u
        rw [set_next _ k m _ (by simp) hlt, ← List.replicate_succ'] at h
        exact h
      case measure => simp [intOf]; omega
    · obtain rfl : k = m := by omega
      have hM2 : Made wr g (List.replicate k u) := by simpa using hM
      have HL : Hid ((List.replicate k u).length = k) := by show _ = _; simp
      clear hM
      generalize List.replicate k u = xs at *
      have hq := wide_eql
      have hgd := wide_guard
      have hr := hM2.row hM2.lt
      have HPL : Hid ((widPadded xs).length = 128 * r) := by show _ = _; rw [widPadded_length, HL.out]; exact HRR.out
      go_wp2_with fail
      refine (blocks_q k r wr (by omega) HRR.out).mono ?_
      rintro e w3 ⟨rfl, rfl⟩
      go_wp2_with fail
      refine (widePadded_any (some ⟨g, 0, none⟩) k k xs wr HL.out hr (fun h => by cases h) (by omega)).mono ?_
      rintro e w4 ⟨gp, cp, rfl, _, hB4, _⟩
      rw [HPL.out]
      have hB5 := below_then hB hB4
      have hR5 := hr.on hB4
      have hP : Parts (w4.alloc (.cells #[.slice (some ⟨g, 0, none⟩) k k] 24)) (w4.alloc (.cells #[.slice (some ⟨g, 0, none⟩) k k] 24)).heap.size (some ⟨w4.heap.size, 0, none⟩) [xs] := parts_lit w4 #[.slice (some ⟨g, 0, none⟩) k k] [xs] (fun j us hu => by
        match j, hu with
        | 0, hu => cases hu; exact ⟨.slice (some ⟨g, 0, none⟩) k k, rfl, some ⟨g, 0, none⟩, k, by rw [HL.out], hR5, by rw [HL.out]; exact Nat.le_refl _, by unfold maxLen; omega, (fun h => by cases h)⟩
        | j + 1, hu => simp at hu)
      have hB6 : Below w4.heap.size w4 (w4.alloc (.cells #[.slice (some ⟨g, 0, none⟩) k k] 24)) := (Below.refl _ _).alloc (Nat.le_refl _) _
      have hR6 := hR5.on hB6
      have HP := Lib.hid hP
      clear hP
      go_wp2_with fail
      generalize w4.alloc (.cells #[.slice (some ⟨g, 0, none⟩) k k] 24) = w5 at *
      have hB7 := below_then hB5 hB6
      refine (wideSum_any _ _ 1 [xs] w5 (hK.below hB7) rfl HP.out (by omega) (by simp [HL.out]; omega)).mono ?_
      rintro e w6 ⟨rfl, hB8⟩
      rw [show [xs].flatten = xs by simp]
      have hB9 := below_then hB7 hB8
      have hR9 := hR6.on hB8
      go_wp2_with fail
      refine (wideRefSum_any _ k k xs w6 HL.out hR9 (fun h => by cases h) (by omega)).mono ?_
      rintro e w7 ⟨rfl, hB10⟩
      go_wp2
      go_ret
      exact ⟨rfl, below_then hB9 hB10⟩

set_option maxRecDepth 100000 in
theorem contract (H : Type) (enc : TypeId × Value → H) (W : World) (base : Nat) (args : Array Value) (ds gs : List (DataW H)) (before : List MemPlace)
    (hval : ∀ (j : Nat) t v, Tryd.f4.params[j]? = some t → args[j]? = some v → Value.okWide Tryd.prog W .any base t v)
    (hW : DataW.Whole enc Tryd.prog Tryd.f4.params.toList Rows.shawideBlocksSpec.vars false W args.toList ds gs before) (hL : laidMetH Tryd.prog Rows.shawideBlocksRow.laid W) :
    Calls Tryd.prog 4 args W fun e W' => ∃ v, e = .returned v ∧ Rows.shawideBlocksSpec.post enc Tryd.prog Tryd.f4 false true false false W args v W' := by
  have hW' := hW
  obtain ⟨p, q, hA0, hV, rfl, hfz, hnd⟩ := hW
  have hA : DataW.TrodAll enc Tryd.prog W 0 (fun _ => true) true Tryd.f4.params.toList args.toList ds p := hA0
  rw [Tryd.params4] at hA hval
  obtain ⟨v0, vs0, d0, ds0, p0, q0, hargs, rfl, rfl, h0, r0⟩ := trodAll_cons hA
  obtain ⟨v1, vs1, d1, ds1, p1, q1, rfl, rfl, rfl, h1, r1⟩ := trodAll_cons r0
  obtain ⟨rfl, rfl, rfl⟩ := trodAll_nil r1
  obtain rfl : args = #[v0, v1] := by cases args; simp_all
  have fin : ∀ W' : World, Below W.heap.size W W' → ∃ v, Ending.returned (.bool true) = .returned v ∧ Rows.shawideBlocksSpec.post enc Tryd.prog Tryd.f4 false true false false W #[v0, v1] v W' := fun W' hb =>
    ⟨_, rfl, law_post laidOut Tryd.underlying4 (by kernel_rfl) (by kernel_rfl) rfl ⟨rfl, rfl, rfl⟩ hW' hb⟩
  obtain ⟨n, rfl, rfl, rfl, wn⟩ := open_int Tryd.underlying3 (hval 0 3 v0 rfl rfl) h0
  obtain ⟨c, rfl, rfl, rfl, wc⟩ := open_int Tryd.underlying5 (hval 1 5 v1 rfl rfl) h1
  have hb := bounds_u8 wc
  obtain ⟨u, rfl⟩ : ∃ u : UInt8, c = (u.toNat : Int) := ⟨UInt8.ofNat c.toNat, by rw [UInt8.toNat_ofNat']; omega⟩
  have hTE : TabsW W ∧ ∃ es, Errs W es := by
    have h := hL
    rw [show Rows.shawideBlocksRow.laid = (errTexts.map fun x => (x.1, .iface "*errors.errorString" (.ptr (.agg [.lit (.string x.2)])))) ++ [("fellowship/shawide.start", Rows.laid_fellowship_shawide_start), ("fellowship/shawide.rounds", Rows.laid_fellowship_shawide_rounds)] from rfl, MakeChecks.laidMetH_plain _ _ _ (by kernel_rfl)] at h
    obtain ⟨ps, hv, hnd, hrows⟩ := h
    obtain ⟨p1, p2, rfl, h1, h2⟩ := laid_split _ _ _ hv
    exact ⟨tabsW_of h2, errs_vars h1 (List.nodup_append.1 hnd).1 (fun b off hm => hrows b off (List.mem_append_left _ hm))⟩
  obtain ⟨hT, es, hE⟩ := hTE
  have walk : Calls Tryd.prog 4 #[.int .i64 n, .int .u8 (u.toNat : Int)] W fun e w' => e = .returned (.bool true) ∧ Below W.heap.size W w' := by
    by_cases hn : n < 0 ∨ 65536 < n
    · exact out_walk n u es W hT hE hn
    · obtain ⟨m, rfl⟩ := Int.eq_ofNat_of_zero_le (show 0 ≤ n by omega)
      exact in_walk m u W hT (by omega)
  refine walk.mono fun e W' ⟨he, hb⟩ => ?_
  subst he
  exact fin W' hb

theorem laid_met (os : Os) (args : Array Value) : laidMetH Tryd.prog Rows.shawideBlocksRow.laid ((World.doorLaid Tryd.prog 400 os).forCall (fun _ _ => 0) ⟨#[], args, []⟩).memory :=
  laidMetH_of_parts3 (fuel := 8) (laidMet_of_run' 8 (by kernel_rfl) (by kernel_rfl)) (by kernel_rfl) (by kernel_rfl)
theorem reads (os : Os) {H : Type} (enc : TypeId × Value → H) : ∃ places, DataW.whole enc Tryd.prog ((World.doorLaid Tryd.prog 400 os).forCall (fun _ _ => 0) ⟨#[], #[.int .i64 0, .int .u8 0], []⟩).memory Tryd.f4.params.toList Rows.shawideBlocksSpec.vars false (#[.int .i64 0, .int .u8 0] : Array Value).toList 8 = some ([.lit (.int .i64 0), .lit (.int .u8 0)], [], places) :=
  ⟨[], by kernel_rfl⟩

set_option maxRecDepth 100000 in
theorem lifted (os : Os) (started : os.Started) (H : Type) (enc : TypeId × Value → H) (F : Stop.Interp) :
    ReturnsInHanded {} Tryd.checked os 4 .any ((OpenSpec.ofChange Rows.shawideBlocksSpec).preRow enc Tryd.prog Tryd.f4 Rows.shawideBlocksRow.domain false Rows.shawideBlocksRow.laid) (((OpenSpec.ofChange Rows.shawideBlocksSpec).at F).post enc Tryd.prog Tryd.f4 false true false false) := by
  obtain ⟨places, hx⟩ := reads os enc
  refine returnsInHanded_of_row (C := Tryd.checked) (s := OpenSpec.ofChange Rows.shawideBlocksSpec) own started (by kernel_rfl) Tryd.func4
    (witness_row_atRef (enc := enc) (C := Tryd.checked) false (World.doorLaid Tryd.prog 400 os) #[.int .i64 0, .int .u8 0] rfl (by kernel_rfl) (by kernel_rfl) (by kernel_rfl)
      (OpenSpec.preRow_of_cond 8 hx (by kernel_rfl) (fun k hk => by cases hk) (by kernel_rfl) (laid_met os _))) ?_
  intro W base args ds gs before hval hW _ _ _ hL _ _
  exact contract H enc W base args ds gs before hval hW hL

theorem said : Rows.ShawideBlocksSaid :=
  OpenClaim.holds_of_cond 4 Tryd.f4 rfl rfl rfl rfl rfl rfl rfl ⟨rfl, rfl, rfl, rfl, rfl⟩ rfl rfl rfl rfl rfl (by kernel_rfl) Tryd.func4 (by kernel_rfl)
    (of_decide_eq_true (by kernel_rfl)) (by unfold Func.isWrapper; first | (rw [if_pos (by decide +kernel)]; kernel_rfl) | (rw [if_neg (by decide +kernel)]; exact ⟨rfl, rfl⟩))
    (fun os started H enc _ F => by rw [OpenClaim.pre_eq_preRow]; exact lifted os started H enc F)

theorem plain (f : FuncId) (fn : Func) (hf : Tryd.pinned.checked.prog.funcNamed "fellowship/fellowshiplaw03.ShawideBlocks" = some f) (hfn : Tryd.pinned.checked.prog.funcs[f]? = some fn) :
    true = Tryd.pinned.checked.prog.looks [] ∧ ∀ (j : Nat) t, fn.params[j]? = some t → Tryd.pinned.checked.prog.wantsStandIn t = false := by
  obtain rfl : f = 4 := Option.some.inj ((show Tryd.prog.funcNamed "fellowship/fellowshiplaw03.ShawideBlocks" = some 4 by kernel_rfl).symm.trans hf) |>.symm
  obtain rfl : fn = Tryd.f4 := (Option.some.inj (Tryd.func4.symm.trans hfn)).symm
  refine ⟨by kernel_rfl, fun j t ht => ?_⟩
  rw [Tryd.params4] at ht
  have hm : t ∈ [3, 5] := by simpa using Array.mem_of_getElem? ht
  have hall : ([3, 5].all fun u => !Tryd.prog.wantsStandIn u) = true := by kernel_rfl
  exact (show Tryd.prog.wantsStandIn t = false by simpa using List.all_eq_true.1 hall t hm)
end Go.Proofs.YtpbkjphdkdlhjaaDoor.shawideBlocks
namespace Go.Proofs.YtpbkjphdkdlhjaaDoor
theorem shawideBlocks_card : Rows.ShawideBlocksCardSaid :=
  Claim7.holds_tied_plain_at .later [] _ _ _ _ shawideBlocks.said (fun _ h => by cases h) (by kernel_rfl) (fun _ h => by cases h) shawideBlocks_row_tie rfl ⟨rfl, rfl⟩ (by kernel_rfl) rfl shawideBlocks.plain (by kernel_rfl)
#print axioms shawideBlocks_card
end Go.Proofs.YtpbkjphdkdlhjaaDoor
