/- A key of fewer bytes than a block is as one with noughts behind it, and a longer one as its own digest: the law fellowshiplaw04.MacKeys answers true at every input, where package sha's tables and package api's errors hold what the program's text lays. -/
import Derived.Test.YtplpgihcpfjbfaaDoorMRight
import Derived.Test.YtplpgihcpfjbfaaDoorWZeros
import Derived.Deep.RegionWith
namespace Go.Proofs.YtplpgihcpfjbfaaDoor.macKeys
open Go.ChangeShapes Go.WideShapes Go.ChangeAt Go.RowKit

theorem long_walk (A B : Option Addr) (c n d m : Nat) (x : Int) (w : World) (hK : Tabs w) (hg : 4 ≤ w.heap.size) (hn : 300 < n ∨ 300 < m) :
    Calls Tryd.prog 5 #[.slice A n c, .slice B m d, .int .i64 x] w fun e w' => e = .returned (.bool true) ∧ Below w.heap.size w w' := by
  by_cases h1 : 300 < n
  · have i1 : (300 : Int) < (n : Int) := by omega
    clear hn
    go_enter Tryd.func5, Tryd.ntmps5
    go_wp2_with fail
    refine (alive4 w hK hg).mono ?_
    rintro e w1 ⟨rfl, hB⟩
    go_wp2
    go_ret
    exact ⟨rfl, hB⟩
  · have i1 : ¬ (300 : Int) < (n : Int) := by omega
    have i2 : (300 : Int) < (m : Int) := by omega
    clear hn
    go_enter Tryd.func5, Tryd.ntmps5
    go_wp2_with fail
    refine (alive4 w hK hg).mono ?_
    rintro e w1 ⟨rfl, hB⟩
    go_wp2
    go_ret
    exact ⟨rfl, hB⟩
theorem count (x : Int) (q : Nat) (hq : 0 < q) (hq2 : q ≤ 65) : ∃ k : Nat, k < q ∧ wrap64 ((IntKind.u64.wrap x).tmod (q : Int)) = (k : Int) := by
  have h : (IntKind.u64.wrap x).tmod (q : Int) = x % 18446744073709551616 % (q : Int) := by
    rw [IntKind.wrap_u64, Int.tmod_eq_emod_of_nonneg (by omega)]
  have h1 := Int.emod_nonneg (x % 18446744073709551616) (show (q : Int) ≠ 0 by omega)
  have h2 := Int.emod_lt_of_pos (x % 18446744073709551616) (show 0 < (q : Int) by omega)
  refine ⟨(x % 18446744073709551616 % (q : Int)).toNat, by omega, ?_⟩
  rw [h, IntWalk.wrap64_in _ (by omega)]
  omega
set_option maxRecDepth 100000 in
set_option maxHeartbeats 1000000 in
theorem digest_walk (A B : Option Addr) (c n d m : Nat) (x : Int) (key b : List UInt8) (w : World) (hK : Tabs w) (hg : 4 ≤ w.heap.size) (hl : key.length = n) (hr : Row w w.heap.size A key) (hA : A = none → c = 0) (hc : n ≤ c) (hc2 : c ≤ maxLen) (hn : n ≤ 300) (h64 : 64 < n)
    (hbl : b.length = m) (hb : Row w w.heap.size B b) (hBn : B = none → d = 0) (hd : m ≤ d) (hd2 : d ≤ maxLen) (hm : m ≤ 300) :
    Calls Tryd.prog 5 #[.slice A n c, .slice B m d, .int .i64 x] w fun e w' => e = .returned (.bool true) ∧ Below w.heap.size w w' := by
  have i1 : ¬ (300 : Int) < (n : Int) := by omega
  have i2 : ¬ (300 : Int) < (m : Int) := by omega
  have i3 : (64 : Int) < (n : Int) := by omega
  have HL := Lib.hid hl
  have HBL := Lib.hid hbl
  clear hl hbl
  go_enter Tryd.func5, Tryd.ntmps5
  go_wp2_with fail
  refine (alive4 w hK hg).mono ?_
  rintro e w1 ⟨rfl, hB1⟩
  have HP1 := Lib.hid (parts_one w1 A n c key HL.out (hr.on hB1) hA hc hc2)
  have HB1 : Hid (Below w1.heap.size w1 (w1.alloc (.cells #[.slice A n c] 22))) := (Below.refl _ _).alloc (Nat.le_refl _) _
  go_wp2_with fail
  generalize w1.alloc (.cells #[.slice A n c] 22) = w2 at *
  have hB2 := below_then hB1 HB1.out
  refine (sum_any _ _ 1 [key] w2 (hK.below hB2) (by have := hB2.size; omega) rfl HP1.out (by omega) (by simp [HL.out]; omega)).mono ?_
  rintro e w3 ⟨rfl, hb3⟩
  rw [show [key].flatten = key by simp]
  have hB3 := below_then hB2 hb3
  clear hB1 HB1 HP1 hB2 hb3
  have HSL := Lib.hid (shaSum_length key)
  have HME := Lib.hid (macSum_key (macKey_digest key (by rw [HL.out]; exact h64)) b)
  generalize shaSum key = dg at *
  go_wp2_with (first
    | (refine put_step rfl rfl 27 (.tmp 7) (.tmp 24) rfl rfl 32 dg rfl rfl zero_h32 size_h32 HSL.out ?_
       intro w4 hb4 hC4 hz4
       clear hz4
       have hB4 := below_then hB3 hb4
       generalize w3.heap.size = gd at *
       clear hb4 hB3))
  have hK4 := hK.below hB4
  have hg4 : 4 ≤ w4.heap.size := by have := hB4.size; omega
  have HC1 := Lib.hid (macSum_lit w4 A B c n d m key b hK4 hg4 HL.out (hr.on hB4) hA hc hc2 (by omega) HBL.out (hb.on hB4) hBn hd hd2 (by omega) (macSum key b) rfl)
  have HC2 := Lib.hid (macSum_lit w4 (some ⟨gd, 0, none⟩) B 32 32 d m dg b hK4 hg4 HSL.out hC4.all (fun h => by cases h) (Nat.le_refl _) (by unfold maxLen; omega) (by omega) HBL.out (hb.on hB4) hBn hd hd2 (by omega) (macSum key b) HME.out)
  have hq := mac_eql
  have hgd := hash_guard
  clear hC4 hK4 hg4
  go_wp2_with fail
  go_region_with (first
    | (go_at_call 8
       refine (HC1.out _ _ (by first | (refine cells_at _ _ _ _ ?_; simp; done) | (refine Cells.alloc (cells_at _ _ _ _ ?_) _; simp; done)) (by first | exact ((Below.refl _ _).drew.alloc (Nat.le_refl _) _) | exact (((Below.refl _ _).drew.alloc (Nat.le_refl _) _).alloc (by simp) _))).mono ?_
       clear HC1
       rintro e w5 ⟨rfl, hb5, hcc⟩)
    | (go_at_call 8
       refine (HC2.out _ _ (by first | (refine hcc _ _ _ (cells_at _ _ _ _ ?_); simp; done) | (refine hcc _ _ _ (Cells.alloc (cells_at _ _ _ _ ?_) _); simp; done) | (refine cells_at _ _ _ _ ?_; simp; done)) (by first | exact hb5 | exact hb5.alloc hb5.size _)).mono ?_
       clear HC2
       rintro e w6 ⟨rfl, hb6, _⟩))
  all_goals
    go_wp2
    go_ret
    exact ⟨rfl, below_then hB4 hb6⟩
set_option maxRecDepth 100000 in
set_option maxHeartbeats 1000000 in
theorem nought_walk (A B : Option Addr) (c n d m : Nat) (x : Int) (key b : List UInt8) (w : World) (hK : Tabs w) (hg : 4 ≤ w.heap.size) (hl : key.length = n) (hr : Row w w.heap.size A key) (hA : A = none → c = 0) (hc : n ≤ c) (hc2 : c ≤ maxLen) (h64 : n ≤ 64)
    (hbl : b.length = m) (hb : Row w w.heap.size B b) (hBn : B = none → d = 0) (hd : m ≤ d) (hd2 : d ≤ maxLen) (hm : m ≤ 300) :
    Calls Tryd.prog 5 #[.slice A n c, .slice B m d, .int .i64 x] w fun e w' => e = .returned (.bool true) ∧ Below w.heap.size w w' := by
  have i1 : ¬ (300 : Int) < (n : Int) := by omega
  have i2 : ¬ (300 : Int) < (m : Int) := by omega
  have i3 : ¬ (64 : Int) < (n : Int) := by omega
  have HL := Lib.hid hl
  have HBL := Lib.hid hbl
  clear hl hbl
  obtain ⟨q, hq0⟩ : ∃ q, 65 - n = q := ⟨_, rfl⟩
  have hq1 : (65 : Int) - (n : Int) = (q : Int) := by omega
  have hq2 : 0 < q := by omega
  obtain ⟨k, hk, ek⟩ := count x q hq2 (by omega)
  have HKN : Hid (n + k ≤ 64) := by show _ ≤ _; omega
  replace hq0 := Lib.hid hq0
  replace ek := Lib.hid ek
  go_enter Tryd.func5, Tryd.ntmps5
  go_wp2_with fail
  refine (alive4 w hK hg).mono ?_
  rintro e w1 ⟨rfl, hB1⟩
  have hB2 := hB1.alloc hB1.size (.cells (rowCells []) 5)
  have hW2 := Owns.lit (base := w1.heap.size) w1 [] (Nat.le_refl _) (by simp)
  have hz2 : w1.heap.size ≤ (w1.alloc (.cells (rowCells []) 5)).heap.size := by simp
  have HE : Hid (rowCells [] = #[]) := rfl
  rw [HE.out] at hB2 hW2 hz2
  have HB2 := Lib.hid hB2
  have HW2 := Lib.hid hW2
  have HZ2 := Lib.hid hz2
  have HS1 := Lib.hid hB1.size
  clear hB2 hW2 hz2 hB1
  go_wp2_with (first
    | (at_builtin
       refine append_row rfl (.tmp 42) (.tmp 43) rfl w1.heap.size _ [] key _ A c rfl HW2.out (by rw [HL.out]; rfl) hA (hr.on HB2.out) (by rw [HL.out]; simp; omega) HZ2.out ?_
       intro v3 w3 hown3 hb3
       rw [List.nil_append] at hown3
       have hB3 := HB2.out.trans (hb3.mono HS1.out)
       have hz3 := Nat.le_trans HZ2.out hb3.size
       clear hb3)
    | (at_builtin
       refine append_zeros rfl (.tmp 44) (.tmp 45) rfl w1.heap.size k _ key rfl hown3 (congrArg (Value.int .i64) ek.out) (by rw [HL.out]; omega) hz3 ?_
       intro v4 w4 hown4 hb4
       have hB4 := hB3.trans (hb4.mono HS1.out)
       obtain ⟨A4, c4, hv4, hc4, hm4, hA4, hR4⟩ := hown4.form2
       have hL4 : (key ++ List.replicate k 0).length = n + k := by rw [List.length_append, HL.out, List.length_replicate]
       rw [hL4] at hv4 hc4
       replace hL4 := Lib.hid hL4
       subst hv4
       clear hB3 hb4 hown3 hown4 hz3
       have HP4 := Lib.hid (parts_one w4 B m d b HBL.out (hb.on hB4) hBn hd hd2)
       have HB4 : Hid (Below w4.heap.size w4 (w4.alloc (.cells #[.slice B m d] 22))) := (Below.refl _ _).alloc (Nat.le_refl _) _))
  generalize w4.alloc (.cells #[.slice B m d] 22) = w5 at *
  have hB5 := below_then hB4 HB4.out
  have hR5 := hR4.on HB4.out
  have HME := Lib.hid (macSum_key (macKey_noughts key k (by rw [HL.out]; exact HKN.out)) b)
  have HNK := HKN.out
  clear hB4 hR4 HB4 HB2 HW2 HZ2
  refine (macSum_any A4 _ c4 (n + k) 1 1 (key ++ List.replicate k 0) [b] w5 (hK.below hB5) (by have := hB5.size; omega) hL4.out hR5 hA4 hc4 hm4 (by omega) rfl HP4.out (by omega) (by simp [HBL.out]; omega)).mono ?_
  rintro e w6 ⟨rfl, hb6⟩
  rw [show [b].flatten = b by simp, HME.out]
  have hB6 := below_then hB5 hb6
  have HP6 := Lib.hid (parts_one w6 B m d b HBL.out (hb.on hB6) hBn hd hd2)
  have HB6 : Hid (Below w6.heap.size w6 (w6.alloc (.cells #[.slice B m d] 22))) := (Below.refl _ _).alloc (Nat.le_refl _) _
  clear hB5 hb6 hR5 HP4
  have hq := mac_eql
  have hgd := hash_guard
  go_wp2_with fail
  generalize w6.alloc (.cells #[.slice B m d] 22) = w7 at *
  have hB7 := below_then hB6 HB6.out
  refine (macSum_any A _ c n 1 1 key [b] w7 (hK.below hB7) (by have := hB7.size; omega) HL.out (hr.on hB7) hA hc hc2 (by omega) rfl HP6.out (by omega) (by simp [HBL.out]; omega)).mono ?_
  rintro e w8 ⟨rfl, hb8⟩
  rw [show [b].flatten = b by simp]
  go_wp2
  go_ret
  exact ⟨rfl, below_then hB7 hb8⟩

set_option maxRecDepth 100000 in
theorem contract (H : Type) (enc : TypeId × Value → H) (W : World) (base : Nat) (args : Array Value) (ds gs : List (DataW H)) (before : List MemPlace)
    (hval : ∀ (j : Nat) t v, Tryd.f5.params[j]? = some t → args[j]? = some v → Value.okWide Tryd.prog W .any base t v)
    (hW : DataW.Whole enc Tryd.prog Tryd.f5.params.toList Rows.macKeysSpec.vars false W args.toList ds gs before) (hL : laidMetH Tryd.prog Rows.macKeysRow.laid W) :
    Calls Tryd.prog 5 args W fun e W' => ∃ v, e = .returned v ∧ Rows.macKeysSpec.post enc Tryd.prog Tryd.f5 false true false false W args v W' := by
  have hW' := hW
  obtain ⟨p, q, hA0, hV, rfl, hfz, hnd⟩ := hW
  have hA : DataW.TrodAll enc Tryd.prog W 0 (fun _ => true) true Tryd.f5.params.toList args.toList ds p := hA0
  rw [Tryd.params5] at hA hval
  obtain ⟨v0, vs0, d0, ds0, p0, q0, hargs, rfl, rfl, h0, r0⟩ := trodAll_cons hA
  obtain ⟨v1, vs1, d1, ds1, p1, q1, rfl, rfl, rfl, h1, r1⟩ := trodAll_cons r0
  obtain ⟨v2, vs2, d2, ds2, p2, q2, rfl, rfl, rfl, h2, r2⟩ := trodAll_cons r1
  obtain ⟨rfl, rfl, rfl⟩ := trodAll_nil r2
  obtain rfl : args = #[v0, v1, v2] := by cases args; simp_all
  have fin : ∀ W' : World, Below W.heap.size W W' → ∃ v, Ending.returned (.bool true) = .returned v ∧ Rows.macKeysSpec.post enc Tryd.prog Tryd.f5 false true false false W #[v0, v1, v2] v W' := fun W' hb =>
    ⟨_, rfl, law_post laidOut Tryd.underlying4 (by kernel_rfl) (by kernel_rfl) rfl ⟨rfl, rfl, rfl⟩ hW' hb⟩
  obtain ⟨A, c, ks, rfl, nA, rA, hc1, hc2⟩ := open_bytes (hval 0 22 v0 rfl rfl) h0
  obtain ⟨B, d, bs, rfl, nB, rB, hd1, hd2⟩ := open_bytes (hval 1 22 v1 rfl rfl) h1
  obtain ⟨x, rfl⟩ : ∃ x, v2 = .int .i64 x := okWide_int Tryd.underlying3 (hval 2 3 v2 rfl rfl)
  obtain ⟨hK, hg⟩ := tabs_of hL
  have walk : Calls Tryd.prog 5 #[.slice A ks.length c, .slice B bs.length d, .int .i64 x] W fun e w' => e = .returned (.bool true) ∧ Below W.heap.size W w' := by
    by_cases hn : ks.length ≤ 300 ∧ bs.length ≤ 300
    · by_cases h64 : 64 < ks.length
      · exact digest_walk A B c _ d _ x ks bs W hK hg rfl rA nA hc1 hc2 hn.1 h64 rfl rB nB hd1 hd2 hn.2
      · exact nought_walk A B c _ d _ x ks bs W hK hg rfl rA nA hc1 hc2 (by omega) rfl rB nB hd1 hd2 hn.2
    · exact long_walk A B c _ d _ x W hK hg (by omega)
  refine walk.mono fun e W' ⟨he, hb⟩ => ?_
  subst he
  exact fin W' hb

theorem laid_met (os : Os) (args : Array Value) : laidMetH Tryd.prog Rows.macKeysRow.laid ((World.doorLaid Tryd.prog 400 os).forCall (fun _ _ => 0) ⟨#[], args, []⟩).memory :=
  laidMetH_of_parts3 (fuel := 8) (laidMet_of_run' 8 (by kernel_rfl) (by kernel_rfl)) (by kernel_rfl) (by kernel_rfl)
theorem reads (os : Os) {H : Type} (enc : TypeId × Value → H) : ∃ places, DataW.whole enc Tryd.prog ((World.doorLaid Tryd.prog 400 os).forCall (fun _ _ => 0) ⟨#[], #[.slice none 0 0, .slice none 0 0, .int .i64 0], []⟩).memory Tryd.f5.params.toList Rows.macKeysSpec.vars false (#[.slice none 0 0, .slice none 0 0, .int .i64 0] : Array Value).toList 8 = some ([.nil, .nil, .lit (.int .i64 0)], [], places) :=
  ⟨[], by kernel_rfl⟩

set_option maxRecDepth 100000 in
theorem lifted (os : Os) (started : os.Started) (H : Type) (enc : TypeId × Value → H) (F : Stop.Interp) :
    ReturnsInHanded {} Tryd.checked os 5 .any ((OpenSpec.ofChange Rows.macKeysSpec).preRow enc Tryd.prog Tryd.f5 Rows.macKeysRow.domain false Rows.macKeysRow.laid) (((OpenSpec.ofChange Rows.macKeysSpec).at F).post enc Tryd.prog Tryd.f5 false true false false) := by
  obtain ⟨places, hx⟩ := reads os enc
  refine returnsInHanded_of_row (C := Tryd.checked) (s := OpenSpec.ofChange Rows.macKeysSpec) own started (by kernel_rfl) Tryd.func5
    (witness_row_atRef (enc := enc) (C := Tryd.checked) false (World.doorLaid Tryd.prog 400 os) #[.slice none 0 0, .slice none 0 0, .int .i64 0] rfl (by kernel_rfl) (by kernel_rfl) (by kernel_rfl)
      (OpenSpec.preRow_of_cond 8 hx (by kernel_rfl) (fun k hk => by cases hk) (by kernel_rfl) (laid_met os _))) ?_
  intro W base args ds gs before hval hW _ _ _ hL _ _
  exact contract H enc W base args ds gs before hval hW hL

theorem said : Rows.MacKeysSaid :=
  OpenClaim.holds_of_cond 5 Tryd.f5 rfl rfl rfl rfl rfl rfl rfl ⟨rfl, rfl, rfl, rfl, rfl⟩ rfl rfl rfl rfl rfl (by kernel_rfl) Tryd.func5 (by kernel_rfl)
    (of_decide_eq_true (by kernel_rfl)) (by unfold Func.isWrapper; first | (rw [if_pos (by decide +kernel)]; kernel_rfl) | (rw [if_neg (by decide +kernel)]; exact ⟨rfl, rfl⟩))
    (fun os started H enc _ F => by rw [OpenClaim.pre_eq_preRow]; exact lifted os started H enc F)

theorem plain (f : FuncId) (fn : Func) (hf : Tryd.pinned.checked.prog.funcNamed "fellowship/fellowshiplaw04.MacKeys" = some f) (hfn : Tryd.pinned.checked.prog.funcs[f]? = some fn) :
    false = Tryd.pinned.checked.prog.looks [] ∧ ∀ (j : Nat) t, fn.params[j]? = some t → Tryd.pinned.checked.prog.wantsStandIn t = false := by
  obtain rfl : f = 5 := Option.some.inj ((show Tryd.prog.funcNamed "fellowship/fellowshiplaw04.MacKeys" = some 5 by kernel_rfl).symm.trans hf) |>.symm
  obtain rfl : fn = Tryd.f5 := (Option.some.inj (Tryd.func5.symm.trans hfn)).symm
  refine ⟨by kernel_rfl, fun j t ht => ?_⟩
  rw [Tryd.params5] at ht
  have hm : t ∈ [22, 22, 3] := by simpa using Array.mem_of_getElem? ht
  have hall : ([22, 22, 3].all fun u => !Tryd.prog.wantsStandIn u) = true := by kernel_rfl
  exact (show Tryd.prog.wantsStandIn t = false by simpa using List.all_eq_true.1 hall t hm)
end Go.Proofs.YtplpgihcpfjbfaaDoor.macKeys
namespace Go.Proofs.YtplpgihcpfjbfaaDoor
theorem macKeys_card : Rows.MacKeysCardSaid :=
  Claim7.holds_tied_plain_at .later [] _ _ _ _ macKeys.said (fun _ h => by cases h) (by kernel_rfl) (fun _ h => by cases h) macKeys_row_tie rfl ⟨rfl, rfl⟩ (by kernel_rfl) rfl macKeys.plain (by kernel_rfl)
#print axioms macKeys_card
end Go.Proofs.YtplpgihcpfjbfaaDoor
