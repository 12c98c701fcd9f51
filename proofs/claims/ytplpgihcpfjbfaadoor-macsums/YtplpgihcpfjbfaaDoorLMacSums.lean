/- The code of all bytes by all keys is the document's: the law fellowshiplaw04.MacSums answers true at every input, where package sha's tables and package api's errors hold what the program's text lays. -/
import Derived.Test.YtplpgihcpfjbfaaDoorMLaw
namespace Go.Proofs.YtplpgihcpfjbfaaDoor.macSums
open Go.ChangeShapes Go.WideShapes Go.ChangeAt Go.RowKit

theorem long_walk (A D : Option Addr) (c n d m : Nat) (w : World) (hK : Tabs w) (hg : 4 ≤ w.heap.size) (hn : 300 < n ∨ 10 < m) :
    Calls Tryd.prog 3 #[.slice A n c, .slice D m d] w fun e w' => e = .returned (.bool true) ∧ Below w.heap.size w w' := by
  by_cases h1 : 300 < n
  · have i1 : (300 : Int) < (n : Int) := by omega
    clear hn
    go_enter Tryd.func3, Tryd.ntmps3
    go_wp2_with fail
    refine (alive4 w hK hg).mono ?_
    rintro e w1 ⟨rfl, hB⟩
    go_wp2
    go_ret
    exact ⟨rfl, hB⟩
  · have i1 : ¬ (300 : Int) < (n : Int) := by omega
    have i2 : (10 : Int) < (m : Int) := by omega
    clear hn
    go_enter Tryd.func3, Tryd.ntmps3
    go_wp2_with fail
    refine (alive4 w hK hg).mono ?_
    rintro e w1 ⟨rfl, hB⟩
    go_wp2
    go_ret
    exact ⟨rfl, hB⟩
set_option maxRecDepth 100000 in
set_option maxHeartbeats 1000000 in
theorem walk (A D : Option Addr) (c n d m : Nat) (key : List UInt8) (ps : List (List UInt8)) (w : World) (hK : Tabs w) (hg : 4 ≤ w.heap.size) (hl : key.length = n) (hr : Row w w.heap.size A key) (hA : A = none → c = 0) (hn : n ≤ 300) (hpl : ps.length = m) (hP : Parts w w.heap.size D ps) (hm : m ≤ 10) :
    Calls Tryd.prog 3 #[.slice A n c, .slice D m d] w fun e w' => e = .returned (.bool true) ∧ Below w.heap.size w w' := by
  have HL := Lib.hid hl
  have HPL := Lib.hid hpl
  clear hl hpl
  have i1 : ¬ (300 : Int) < (n : Int) := by omega
  have i2 : ¬ (10 : Int) < (m : Int) := by omega
  have hq := mac_eql
  have hgd := hash_guard
  go_enter Tryd.func3, Tryd.ntmps3
  go_wp2_with fail
  refine (alive4 w hK hg).mono ?_
  rintro e w1 ⟨rfl, hB1⟩
  have hB2 := hB1.alloc hB1.size (.cells (rowCells []) 5)
  have hW2 := Owns.lit (base := w1.heap.size) w1 [] (Nat.le_refl _) (by simp)
  have hz2 : w1.heap.size ≤ (w1.alloc (.cells (rowCells []) 5)).heap.size := by simp
  have HE : Hid (rowCells [] = #[]) := rfl
  rw [HE.out] at hB2 hW2 hz2
  go_wp2_with fail
  generalize w1.alloc (.cells #[] 5) = w2 at *
  have hW3 : Owns w2 w1.heap.size (.slice (some ⟨w1.heap.size, 0, none⟩) 0 0) [] := hW2
  have HS1 : Hid (w.heap.size ≤ w1.heap.size) := hB1.size
  clear hW2 hB1
  obtain ⟨v0, hv0⟩ : ∃ v0 : Value, v0 = .slice (some ⟨w1.heap.size, 0, none⟩) 0 0 := ⟨_, rfl⟩
  generalize w1.heap.size = base at *
  rw [← hv0] at hW3
  replace hv0 := Lib.hid hv0
  go_loopw [5, 22] (fun v i wr => ∃ k : Nat, k ≤ m ∧ i = .int .i64 k ∧ Below w.heap.size w wr ∧ base ≤ wr.heap.size ∧ Owns wr base v (ps.take k).flatten ∧ (ps.take k).flatten.length ≤ 200 * k) (fun _ i _ => m - (intOf i).toNat)
  case atStart => exact ⟨0, Nat.zero_le _, rfl, hB2, hz2, by rw [hv0.out] at hW3; exact hW3, by simp⟩
  case round =>
    clear hB2 hz2 hW3
    obtain ⟨k, hk, rfl, hB, hz, hW, hle⟩ := hrel
    by_cases hlt : k < m
    · have hlt2 : k < ps.length := by rw [HPL.out]; exact hlt
      obtain ⟨b, off, A1, c1, rfl, hcl, hr1, h1, h2, h3⟩ := (hP.below hB).at k hlt2
      have HS := Lib.hid (show (ps.take (k + 1)).flatten = (ps.take k).flatten ++ ps[k] by rw [take_snoc ps k hlt2, List.flatten_append]; simp)
      generalize ps[k] = us at *
      generalize hul : us.length = q at *
      replace hul := Lib.hid hul
      by_cases hbig : 200 < q
      · have i3 : (200 : Int) < (q : Int) := by omega
        go_wp2
        go_ret
        exact ⟨rfl, hB⟩
      · have i3 : ¬ (200 : Int) < (q : Int) := by omega
        have HLF : Hid ((ps.take k).flatten.length ≤ 2000) := by show _ ≤ _; omega
        have HLE : Hid ((ps.take k).flatten.length ≤ 200 * k) := hle
        clear hle
        generalize hF : (ps.take k).flatten = F at *
        replace hF := Lib.hid hF
        have hsz := hB.size
        go_wp2_with (first
          | (at_builtin
             refine append_row rfl (.tmp 29) (.tmp 30) rfl base _ F us _ A1 c1 rfl hW (by rw [hul.out]; rfl) h3 (hr1.more hsz) (by rw [hul.out]; have := HLF.out; omega) hz ?_
             intro v7 w7 hW7 hB7))
        go_roundw
        case rel => exact ⟨k + 1, by omega, by go_num, hB.trans (hB7.mono HS1.out), Nat.le_trans hz hB7.size, by rw [HS.out]; exact hW7, by rw [HS.out, List.length_append, hul.out]; have := HLE.out; omega⟩
        case measure => simp [intOf]; omega
    · obtain rfl : k = m := by omega
      have eF : ps.take k = ps := List.take_of_length_le (by rw [HPL.out]; exact Nat.le_refl _)
      rw [eF] at hW hle
      clear eF
      have HPF : Hid (ps.flatten.length ≤ 2000) := by show _ ≤ _; omega
      clear hle
      go_wp2_with fail
      refine (bytes_n HL.out (hr.on hB) hA (by omega)).mono ?_
      rintro e w3 ⟨g, cap, rfl, hc3, hc4, hgg, hR3, hb3⟩
      have hB3 := below_then hB hb3
      have hW4 := hW.on hb3
      clear hB hb3 hW
      go_wp2_with fail
      refine (macSum_any _ _ cap n d k key ps w3 (hK.below hB3) (by have := hB3.size; omega) HL.out hR3.head (fun h => by cases h) (by omega) hc4 (by omega) HPL.out ((hP.below hB3).more hB3.size) (by omega) (by have := HPF.out; omega)).mono ?_
      rintro e w4 ⟨rfl, hb4⟩
      have hB4 := below_then hB3 hb4
      have hW5 := hW4.on hb4
      have hR4 := hR3.on hb4
      clear hB3 hb4 hW4 hR3
      generalize hFF : ps.flatten = F at *
      replace hFF := Lib.hid hFF
      obtain ⟨A6, c6, hv6, _, hA6, hR6⟩ := hW5.form
      obtain ⟨LF, hLF⟩ : ∃ LF, F.length = LF := ⟨_, rfl⟩
      rw [hLF] at hv6
      have hLF4 : LF ≤ 2000 := by have := HPF.out; omega
      replace hLF := Lib.hid hLF
      subst hv6
      clear hW5
      go_wp2_with fail
      refine (macRef_any A A6 c n c6 LF key F w4 HL.out (hr.on hB4) hA (by omega) hLF.out hR6 hA6 (by omega)).mono ?_
      rintro e w5 ⟨rfl, hb5⟩
      have hB5 := below_then hB4 hb5
      have hR5 := hR4.on hb5
      clear hB4 hb5 hR4 hR6
      go_wp2_with fail
      refine (kept_n HL.out hR5 (hr.on hB5) hc3 hc4 (by omega)).mono ?_
      rintro e w6 ⟨rfl, nk, rfl⟩
      go_wp2
      go_ret
      exact ⟨rfl, below_drewN hB5 nk⟩

set_option maxRecDepth 100000 in
theorem contract (H : Type) (enc : TypeId × Value → H) (W : World) (base : Nat) (args : Array Value) (ds gs : List (DataW H)) (before : List MemPlace)
    (hval : ∀ (j : Nat) t v, Tryd.f3.params[j]? = some t → args[j]? = some v → Value.okWide Tryd.prog W .any base t v)
    (hW : DataW.Whole enc Tryd.prog Tryd.f3.params.toList Rows.macSumsSpec.vars false W args.toList ds gs before) (hL : laidMetH Tryd.prog Rows.macSumsRow.laid W) :
    Calls Tryd.prog 3 args W fun e W' => ∃ v, e = .returned v ∧ Rows.macSumsSpec.post enc Tryd.prog Tryd.f3 false true false false W args v W' := by
  have hW' := hW
  obtain ⟨p, q, hA0, hV, rfl, hfz, hnd⟩ := hW
  have hA : DataW.TrodAll enc Tryd.prog W 0 (fun _ => true) true Tryd.f3.params.toList args.toList ds p := hA0
  rw [Tryd.params3] at hA hval
  obtain ⟨v0, vs0, d0, ds0, p0, q0, hargs, rfl, rfl, h0, r0⟩ := trodAll_cons hA
  obtain ⟨v1, vs1, d1, ds1, p1, q1, rfl, rfl, rfl, h1, r1⟩ := trodAll_cons r0
  obtain ⟨rfl, rfl, rfl⟩ := trodAll_nil r1
  obtain rfl : args = #[v0, v1] := by cases args; simp_all
  have fin : ∀ W' : World, Below W.heap.size W W' → ∃ v, Ending.returned (.bool true) = .returned v ∧ Rows.macSumsSpec.post enc Tryd.prog Tryd.f3 false true false false W #[v0, v1] v W' := fun W' hb =>
    ⟨_, rfl, law_post laidOut Tryd.underlying4 (by kernel_rfl) (by kernel_rfl) rfl ⟨rfl, rfl, rfl⟩ hW' hb⟩
  obtain ⟨A, c, bs, rfl, nA, rA, _, _⟩ := open_bytes (hval 0 22 v0 rfl rfl) h0
  obtain ⟨D, d, ps, rfl, hP, _, _⟩ := open_parts (hval 1 23 v1 rfl rfl) h1
  obtain ⟨hK, hg⟩ := tabs_of hL
  have walk : Calls Tryd.prog 3 #[.slice A bs.length c, .slice D ps.length d] W fun e w' => e = .returned (.bool true) ∧ Below W.heap.size W w' := by
    by_cases hn : bs.length ≤ 300 ∧ ps.length ≤ 10
    · exact walk A D c _ d _ bs ps W hK hg rfl rA nA hn.1 rfl hP hn.2
    · exact long_walk A D c _ d _ W hK hg (by omega)
  refine walk.mono fun e W' ⟨he, hb⟩ => ?_
  subst he
  exact fin W' hb

theorem laid_met (os : Os) (args : Array Value) : laidMetH Tryd.prog Rows.macSumsRow.laid ((World.doorLaid Tryd.prog 400 os).forCall (fun _ _ => 0) ⟨#[], args, []⟩).memory :=
  laidMetH_of_parts3 (fuel := 8) (laidMet_of_run' 8 (by kernel_rfl) (by kernel_rfl)) (by kernel_rfl) (by kernel_rfl)
theorem reads (os : Os) {H : Type} (enc : TypeId × Value → H) : ∃ places, DataW.whole enc Tryd.prog ((World.doorLaid Tryd.prog 400 os).forCall (fun _ _ => 0) ⟨#[], #[.slice none 0 0, .slice none 0 0], []⟩).memory Tryd.f3.params.toList Rows.macSumsSpec.vars false (#[.slice none 0 0, .slice none 0 0] : Array Value).toList 8 = some ([.nil, .nil], [], places) :=
  ⟨[], by kernel_rfl⟩

set_option maxRecDepth 100000 in
theorem lifted (os : Os) (started : os.Started) (H : Type) (enc : TypeId × Value → H) (F : Stop.Interp) :
    ReturnsInHanded {} Tryd.checked os 3 .any ((OpenSpec.ofChange Rows.macSumsSpec).preRow enc Tryd.prog Tryd.f3 Rows.macSumsRow.domain false Rows.macSumsRow.laid) (((OpenSpec.ofChange Rows.macSumsSpec).at F).post enc Tryd.prog Tryd.f3 false true false false) := by
  obtain ⟨places, hx⟩ := reads os enc
  refine returnsInHanded_of_row (C := Tryd.checked) (s := OpenSpec.ofChange Rows.macSumsSpec) own started (by kernel_rfl) Tryd.func3
    (witness_row_atRef (enc := enc) (C := Tryd.checked) false (World.doorLaid Tryd.prog 400 os) #[.slice none 0 0, .slice none 0 0] rfl (by kernel_rfl) (by kernel_rfl) (by kernel_rfl)
      (OpenSpec.preRow_of_cond 8 hx (by kernel_rfl) (fun k hk => by cases hk) (by kernel_rfl) (laid_met os _))) ?_
  intro W base args ds gs before hval hW _ _ _ hL _ _
  exact contract H enc W base args ds gs before hval hW hL

theorem said : Rows.MacSumsSaid :=
  OpenClaim.holds_of_cond 3 Tryd.f3 rfl rfl rfl rfl rfl rfl rfl ⟨rfl, rfl, rfl, rfl, rfl⟩ rfl rfl rfl rfl rfl (by kernel_rfl) Tryd.func3 (by kernel_rfl)
    (of_decide_eq_true (by kernel_rfl)) (by unfold Func.isWrapper; first | (rw [if_pos (by decide +kernel)]; kernel_rfl) | (rw [if_neg (by decide +kernel)]; exact ⟨rfl, rfl⟩))
    (fun os started H enc _ F => by rw [OpenClaim.pre_eq_preRow]; exact lifted os started H enc F)

theorem plain (f : FuncId) (fn : Func) (hf : Tryd.pinned.checked.prog.funcNamed "fellowship/fellowshiplaw04.MacSums" = some f) (hfn : Tryd.pinned.checked.prog.funcs[f]? = some fn) :
    false = Tryd.pinned.checked.prog.looks [] ∧ ∀ (j : Nat) t, fn.params[j]? = some t → Tryd.pinned.checked.prog.wantsStandIn t = false := by
  obtain rfl : f = 3 := Option.some.inj ((show Tryd.prog.funcNamed "fellowship/fellowshiplaw04.MacSums" = some 3 by kernel_rfl).symm.trans hf) |>.symm
  obtain rfl : fn = Tryd.f3 := (Option.some.inj (Tryd.func3.symm.trans hfn)).symm
  refine ⟨by kernel_rfl, fun j t ht => ?_⟩
  rw [Tryd.params3] at ht
  have hm : t ∈ [22, 23] := by simpa using Array.mem_of_getElem? ht
  have hall : ([22, 23].all fun u => !Tryd.prog.wantsStandIn u) = true := by kernel_rfl
  exact (show Tryd.prog.wantsStandIn t = false by simpa using List.all_eq_true.1 hall t hm)
end Go.Proofs.YtplpgihcpfjbfaaDoor.macSums
namespace Go.Proofs.YtplpgihcpfjbfaaDoor
theorem macSums_card : Rows.MacSumsCardSaid :=
  Claim7.holds_tied_plain_at .later [] _ _ _ _ macSums.said (fun _ h => by cases h) (by kernel_rfl) (fun _ h => by cases h) macSums_row_tie rfl ⟨rfl, rfl⟩ (by kernel_rfl) rfl macSums.plain (by kernel_rfl)
#print axioms macSums_card
end Go.Proofs.YtplpgihcpfjbfaaDoor
