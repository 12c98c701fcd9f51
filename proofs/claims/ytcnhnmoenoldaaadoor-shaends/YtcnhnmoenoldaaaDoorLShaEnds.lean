/- The digest of as many bytes of one kind as there are, about the ends of blocks, and of twice as many: the law fellowshiplaw02.ShaEnds answers true at every input, where package sha's tables and package api's errors hold what the program's text lays. -/
import Derived.Test.YtcnhnmoenoldaaaDoorSOpen
namespace Go.Proofs.YtcnhnmoenoldaaaDoor.shaEnds
open Go.ChangeShapes Go.WideShapes Go.ChangeAt Go.RowKit

theorem count (n : Int) : ∃ m : Nat, m < 200 ∧ wrap64 ((IntKind.u64.wrap n).tmod 200) = (m : Int) := by
  have h : (IntKind.u64.wrap n).tmod 200 = n % 18446744073709551616 % 200 := by
    rw [IntKind.wrap_u64, Int.tmod_eq_emod_of_nonneg (by omega)]
  refine ⟨(n % 18446744073709551616 % 200).toNat, by omega, ?_⟩
  rw [h, IntWalk.wrap64_in _ (by omega)]
  omega
set_option maxRecDepth 100000 in
set_option maxHeartbeats 2000000 in
theorem walk (n : Int) (u : UInt8) (w : World) (hK : Tabs w) (hg : 4 ≤ w.heap.size) :
    Calls Tryd.prog 5 #[.int .i64 n, .int .u8 (u.toNat : Int)] w fun e w' => e = .returned (.bool true) ∧ Below w.heap.size w w' := by
  obtain ⟨m, hm, e1⟩ := count n
  have hmk := make_bytes m m (Nat.le_refl _) (by omega)
  go_enter Tryd.func5, Tryd.ntmps5
  go_wp2_with fail
  refine (alive2 w hK hg).mono ?_
  rintro e w1 ⟨rfl, hB1⟩
  have hM1 := Made.new w1 (List.replicate m 0)
  have hB2 := hB1.alloc hB1.size (.cells (rowCells (List.replicate m 0)) 5)
  go_wp2_with fail
  generalize w1.alloc (.cells (rowCells (List.replicate m 0)) 5) = w2 at *
  have hgs := hB1.size
  generalize w1.heap.size = g at *
  clear hmk e1 hB1
  go_loopw [16] (fun i wr => ∃ k : Nat, k ≤ m ∧ i = .int .i64 k ∧ Below w.heap.size w wr ∧ Made wr g (List.replicate k u ++ List.replicate (m - k) 0)) (fun i _ => m - (intOf i).toNat)
  case atStart => exact ⟨0, Nat.zero_le _, rfl, hB2, by simpa using hM1⟩
  case round =>
    clear hB2 hM1
    obtain ⟨k, hk, rfl, hB, hM⟩ := hrel
    by_cases hlt : k < m
    · have hf := hM.frozen k
      obtain ⟨v3, hc3⟩ : ∃ v, wr.cell? ⟨g, k, none⟩ = some v := ⟨_, hM.cell k (by simp; omega)⟩
      go_wp2_with fail
      go_roundw
      case rel =>
        refine ⟨k + 1, by omega, by go_num, hB.setCell (p := ⟨g, k, none⟩) hgs _, ?_⟩
        have h := hM.set k u
        rw [set_next _ k m _ (by simp) hlt, ← List.replicate_succ'] at h
        exact h
      case measure => simp [intOf]; omega
    · obtain rfl : k = m := by omega
      have hM2 : Made wr g (List.replicate k u) := by simpa using hM
      have HL : Hid ((List.replicate k u).length = k) := by show _ = _; simp
      clear hM
      generalize List.replicate k u = xs at *
      have hq := hash_eql
      have hgd := hash_guard
      have hr := hM2.row hM2.lt
      have hpart : ∀ w' : World, Below wr.heap.size wr w' → Part w' w'.heap.size (.slice (some ⟨g, 0, none⟩) k k) xs := fun w' hb => ⟨some ⟨g, 0, none⟩, k, by rw [HL.out], hr.on hb, by rw [HL.out]; exact Nat.le_refl _, by unfold maxLen; omega, (fun h => by cases h)⟩
      have HPT := Lib.hid hpart
      clear hpart
      have hP : Parts (wr.alloc (.cells #[.slice (some ⟨g, 0, none⟩) k k] 22)) (wr.alloc (.cells #[.slice (some ⟨g, 0, none⟩) k k] 22)).heap.size (some ⟨wr.heap.size, 0, none⟩) [xs] := parts_lit wr #[.slice (some ⟨g, 0, none⟩) k k] [xs] (fun j us hu => by
        match j, hu with
        | 0, hu => cases hu; exact ⟨_, rfl, HPT.out wr (Below.refl _ _)⟩
        | j + 1, hu => simp at hu)
      have hB3 : Below wr.heap.size wr (wr.alloc (.cells #[.slice (some ⟨g, 0, none⟩) k k] 22)) := (Below.refl _ _).alloc (Nat.le_refl _) _
      have HP := Lib.hid hP
      clear hP
      go_wp2_with fail
      generalize wr.alloc (.cells #[.slice (some ⟨g, 0, none⟩) k k] 22) = w3 at *
      have hB4 := below_then hB hB3
      refine (sum_any _ _ 1 [xs] w3 (hK.below hB4) (by have := hB4.size; omega) rfl HP.out (by omega) (by simp [HL.out]; omega)).mono ?_
      rintro e w4 ⟨rfl, hB5⟩
      rw [show [xs].flatten = xs by simp]
      have hB6 := below_then hB3 hB5
      clear hB3 hB4 hB5 HP
      go_wp2_with fail
      refine (refSum_any _ k k xs w4 HL.out (hr.on hB6) (fun h => by cases h) (by omega)).mono ?_
      rintro e w5 ⟨rfl, hB7⟩
      have hB8 := below_then hB6 hB7
      clear hB6 hB7
      have hP : Parts (w5.alloc (.cells #[.slice (some ⟨g, 0, none⟩) k k, .slice (some ⟨g, 0, none⟩) k k] 22)) (w5.alloc (.cells #[.slice (some ⟨g, 0, none⟩) k k, .slice (some ⟨g, 0, none⟩) k k] 22)).heap.size (some ⟨w5.heap.size, 0, none⟩) [xs, xs] := parts_lit w5 #[.slice (some ⟨g, 0, none⟩) k k, .slice (some ⟨g, 0, none⟩) k k] [xs, xs] (fun j us hu => by
        match j, hu with
        | 0, hu => cases hu; exact ⟨_, rfl, HPT.out w5 hB8⟩
        | 1, hu => cases hu; exact ⟨_, rfl, HPT.out w5 hB8⟩
        | j + 2, hu => simp at hu)
      have hB9 : Below w5.heap.size w5 (w5.alloc (.cells #[.slice (some ⟨g, 0, none⟩) k k, .slice (some ⟨g, 0, none⟩) k k] 22)) := (Below.refl _ _).alloc (Nat.le_refl _) _
      have HP := Lib.hid hP
      clear hP
      go_wp2_with fail
      generalize w5.alloc (.cells #[.slice (some ⟨g, 0, none⟩) k k, .slice (some ⟨g, 0, none⟩) k k] 22) = w6 at *
      have hB10 := below_then hB8 hB9
      have hB11 := below_then hB hB10
      refine (sum_any _ _ 2 [xs, xs] w6 (hK.below hB11) (by have := hB11.size; omega) rfl HP.out (by omega) (by simp [HL.out]; omega)).mono ?_
      rintro e w7 ⟨rfl, hB12⟩
      rw [show [xs, xs].flatten = xs ++ xs by simp]
      have hB13 := below_then hB10 hB12
      clear hB8 hB9 hB10 hB11 hB12 HP
      have H0 := Lib.hid (Owns.lit (base := w7.heap.size) w7 [] (Nat.le_refl _) (by simp))
      have hz0 : Below w7.heap.size w7 (w7.alloc (.cells (rowCells []) 5)) := (Below.refl _ _).alloc (Nat.le_refl _) _
      have HR0 := Lib.hid ((hr.on hB13).on hz0)
      go_wp2_with (first
        | (refine unguard rfl ?_
           refine append_row rfl (.tmp 35) (.tmp 36) rfl w7.heap.size _ [] xs _ (some ⟨g, 0, none⟩) k rfl H0.out (by rw [HL.out]; rfl) (fun h => by cases h) HR0.out (by simp [HL.out]; omega) (by simp) ?_
           intro v1 w8 hown1 hB14)
        | (refine unguard rfl ?_
           refine append_row rfl (.tmp 37) (.tmp 38) rfl w7.heap.size _ ([] ++ xs) xs _ (some ⟨g, 0, none⟩) k rfl hown1 (by rw [HL.out]; rfl) (fun h => by cases h) (hr.on (below_then hB13 (hz0.trans hB14))) (by simp [HL.out]; omega) (by have := (hz0.trans hB14).size; omega) ?_
           intro v2 w9 hown2 hB15))
      rw [List.nil_append] at hown2
      obtain ⟨A', c', hv, _, hA', hR'⟩ := hown2.form
      subst hv
      have hB16 : Below w.heap.size w w9 := by
        have h1 := below_then hB hB13
        have h2 := h1.trans (hz0.mono h1.size)
        have h3 := h2.trans (hB14.mono h1.size)
        exact h3.trans (hB15.mono h1.size)
      refine (refSum_any A' c' _ (xs ++ xs) w9 rfl hR' hA' (by rw [List.length_append, HL.out]; omega)).mono ?_
      rintro e w10 ⟨rfl, hB17⟩
      go_wp2
      go_ret
      exact ⟨rfl, below_then hB16 hB17⟩

theorem contract (H : Type) (enc : TypeId × Value → H) (W : World) (base : Nat) (args : Array Value) (ds gs : List (DataW H)) (before : List MemPlace)
    (hval : ∀ (j : Nat) t v, Tryd.f5.params[j]? = some t → args[j]? = some v → Value.okWide Tryd.prog W .any base t v)
    (hW : DataW.Whole enc Tryd.prog Tryd.f5.params.toList Rows.shaEndsSpec.vars false W args.toList ds gs before) (hL : laidMetH Tryd.prog Rows.shaEndsRow.laid W) :
    Calls Tryd.prog 5 args W fun e W' => ∃ v, e = .returned v ∧ Rows.shaEndsSpec.post enc Tryd.prog Tryd.f5 false true false false W args v W' := by
  have hW' := hW
  obtain ⟨p, q, hA0, hV, rfl, hfz, hnd⟩ := hW
  have hA : DataW.TrodAll enc Tryd.prog W 0 (fun _ => true) true Tryd.f5.params.toList args.toList ds p := hA0
  rw [Tryd.params5] at hA hval
  obtain ⟨v0, vs0, d0, ds0, p0, q0, hargs, rfl, rfl, h0, r0⟩ := trodAll_cons hA
  obtain ⟨v1, vs1, d1, ds1, p1, q1, rfl, rfl, rfl, h1, r1⟩ := trodAll_cons r0
  obtain ⟨rfl, rfl, rfl⟩ := trodAll_nil r1
  obtain rfl : args = #[v0, v1] := by cases args; simp_all
  have fin : ∀ W' : World, Below W.heap.size W W' → ∃ v, Ending.returned (.bool true) = .returned v ∧ Rows.shaEndsSpec.post enc Tryd.prog Tryd.f5 false true false false W #[v0, v1] v W' := fun W' hb =>
    ⟨_, rfl, law_post laidOut Tryd.underlying4 (by kernel_rfl) (by kernel_rfl) rfl ⟨rfl, rfl, rfl⟩ hW' hb⟩
  obtain ⟨n, rfl, rfl, rfl, wn⟩ := open_int Tryd.underlying3 (hval 0 3 v0 rfl rfl) h0
  obtain ⟨c, rfl, rfl, rfl, wc⟩ := open_int Tryd.underlying5 (hval 1 5 v1 rfl rfl) h1
  obtain ⟨hK, hg⟩ := tabs_of hL
  have hb := bounds_u8 wc
  obtain ⟨u, rfl⟩ : ∃ u : UInt8, c = (u.toNat : Int) := ⟨UInt8.ofNat c.toNat, by rw [UInt8.toNat_ofNat']; omega⟩
  refine (walk n u W hK hg).mono fun e W' ⟨he, hb⟩ => ?_
  subst he
  exact fin W' hb

theorem laid_met (os : Os) (args : Array Value) : laidMetH Tryd.prog Rows.shaEndsRow.laid ((World.doorLaid Tryd.prog 400 os).forCall (fun _ _ => 0) ⟨#[], args, []⟩).memory :=
  laidMetH_of_parts3 (fuel := 8) (laidMet_of_run' 8 (by kernel_rfl) (by kernel_rfl)) (by kernel_rfl) (by kernel_rfl)
theorem reads (os : Os) {H : Type} (enc : TypeId × Value → H) : ∃ places, DataW.whole enc Tryd.prog ((World.doorLaid Tryd.prog 400 os).forCall (fun _ _ => 0) ⟨#[], #[.int .i64 0, .int .u8 0], []⟩).memory Tryd.f5.params.toList Rows.shaEndsSpec.vars false (#[.int .i64 0, .int .u8 0] : Array Value).toList 8 = some ([.lit (.int .i64 0), .lit (.int .u8 0)], [], places) :=
  ⟨[], by kernel_rfl⟩

set_option maxRecDepth 100000 in
theorem lifted (os : Os) (started : os.Started) (H : Type) (enc : TypeId × Value → H) (F : Stop.Interp) :
    ReturnsInHanded {} Tryd.checked os 5 .any ((OpenSpec.ofChange Rows.shaEndsSpec).preRow enc Tryd.prog Tryd.f5 Rows.shaEndsRow.domain false Rows.shaEndsRow.laid) (((OpenSpec.ofChange Rows.shaEndsSpec).at F).post enc Tryd.prog Tryd.f5 false true false false) := by
  obtain ⟨places, hx⟩ := reads os enc
  refine returnsInHanded_of_row (C := Tryd.checked) (s := OpenSpec.ofChange Rows.shaEndsSpec) own started (by kernel_rfl) Tryd.func5
    (witness_row_atRef (enc := enc) (C := Tryd.checked) false (World.doorLaid Tryd.prog 400 os) #[.int .i64 0, .int .u8 0] rfl (by kernel_rfl) (by kernel_rfl) (by kernel_rfl)
      (OpenSpec.preRow_of_cond 8 hx (by kernel_rfl) (fun k hk => by cases hk) (by kernel_rfl) (laid_met os _))) ?_
  intro W base args ds gs before hval hW _ _ _ hL _ _
  exact contract H enc W base args ds gs before hval hW hL

theorem said : Rows.ShaEndsSaid :=
  OpenClaim.holds_of_cond 5 Tryd.f5 rfl rfl rfl rfl rfl rfl rfl ⟨rfl, rfl, rfl, rfl, rfl⟩ rfl rfl rfl rfl rfl (by kernel_rfl) Tryd.func5 (by kernel_rfl)
    (of_decide_eq_true (by kernel_rfl)) (by unfold Func.isWrapper; first | (rw [if_pos (by decide +kernel)]; kernel_rfl) | (rw [if_neg (by decide +kernel)]; exact ⟨rfl, rfl⟩))
    (fun os started H enc _ F => by rw [OpenClaim.pre_eq_preRow]; exact lifted os started H enc F)

theorem plain (f : FuncId) (fn : Func) (hf : Tryd.pinned.checked.prog.funcNamed "fellowship/fellowshiplaw02.ShaEnds" = some f) (hfn : Tryd.pinned.checked.prog.funcs[f]? = some fn) :
    false = Tryd.pinned.checked.prog.looks [] ∧ ∀ (j : Nat) t, fn.params[j]? = some t → Tryd.pinned.checked.prog.wantsStandIn t = false := by
  obtain rfl : f = 5 := Option.some.inj ((show Tryd.prog.funcNamed "fellowship/fellowshiplaw02.ShaEnds" = some 5 by kernel_rfl).symm.trans hf) |>.symm
  obtain rfl : fn = Tryd.f5 := (Option.some.inj (Tryd.func5.symm.trans hfn)).symm
  refine ⟨by kernel_rfl, fun j t ht => ?_⟩
  rw [Tryd.params5] at ht
  have hm : t ∈ [3, 5] := by simpa using Array.mem_of_getElem? ht
  have hall : ([3, 5].all fun u => !Tryd.prog.wantsStandIn u) = true := by kernel_rfl
  exact (show Tryd.prog.wantsStandIn t = false by simpa using List.all_eq_true.1 hall t hm)
end Go.Proofs.YtcnhnmoenoldaaaDoor.shaEnds
namespace Go.Proofs.YtcnhnmoenoldaaaDoor
theorem shaEnds_card : Rows.ShaEndsCardSaid :=
  Claim7.holds_tied_plain_at .later [] _ _ _ _ shaEnds.said (fun _ h => by cases h) (by kernel_rfl) (fun _ h => by cases h) shaEnds_row_tie rfl ⟨rfl, rfl⟩ (by kernel_rfl) rfl shaEnds.plain (by kernel_rfl)
#print axioms shaEnds_card
end Go.Proofs.YtcnhnmoenoldaaaDoor
