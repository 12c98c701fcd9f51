/- The digest of all bytes, in whatever parts they come, is the document's: the law fellowshiplaw03.ShawideSums answers true at every input, where package shawide's tables and package api's errors hold what the program's text lays. -/
import Derived.Test.YtpbkjphdkdlhjaaDoorVLaw
namespace Go.Proofs.YtpbkjphdkdlhjaaDoor.shawideSums
open Go.ChangeShapes Go.WideShapes Go.ChangeAt Go.RowKit

theorem long_walk (D : Option Addr) (d n : Nat) (w : World) (hK : TabsW w) (hn : 20 < n) :
    Calls Tryd.prog 3 #[.slice D n d] w fun e w' => e = .returned (.bool true) ∧ Below w.heap.size w w' := by
  have h1 : (20 : Int) < (n : Int) := by omega
  go_enter Tryd.func3, Tryd.ntmps3
  go_wp2_with fail
  refine (alive3 w hK).mono ?_
  rintro e w1 ⟨rfl, hB⟩
  go_wp2
  go_ret
  exact ⟨rfl, hB⟩
set_option maxRecDepth 100000 in
set_option maxHeartbeats 2000000 in
theorem walk (D : Option Addr) (d n : Nat) (ps : List (List UInt8)) (w : World) (hK : TabsW w) (hl : ps.length = n) (hP : Parts w w.heap.size D ps) (hn : n ≤ 20) :
    Calls Tryd.prog 3 #[.slice D n d] w fun e w' => e = .returned (.bool true) ∧ Below w.heap.size w w' := by
  have HL := Lib.hid hl
  clear hl
  have h1 : ¬ (20 : Int) < (n : Int) := by omega
  have hq := wide_eql
  have hgd := wide_guard
  go_enter Tryd.func3, Tryd.ntmps3
  go_wp2_with fail
  refine (alive3 w hK).mono ?_
  rintro e w1 ⟨rfl, hB1⟩
  have H0 := Owns.lit (base := w1.heap.size) w1 [] (Nat.le_refl _) (by simp)
  have hB2 := hB1.alloc hB1.size (.cells (rowCells []) 5)
  have hz : w1.heap.size ≤ (w1.alloc (.cells (rowCells []) 5)).heap.size := by simp
  have hBz := hB1.size
  go_wp2_with fail
  rw [show (#[] : Array Value) = rowCells [] from rfl]
  generalize w1.alloc (.cells (rowCells []) 5) = w2 at *
  generalize w1.heap.size = base at *
  clear hB1
  go_loopw [3, 14] (fun v i wr => ∃ k : Nat, k ≤ n ∧ i = .int .i64 k ∧ Below w.heap.size w wr ∧ base ≤ wr.heap.size ∧ Owns wr base v (ps.take k).flatten ∧ (ps.take k).flatten.length ≤ 300 * k) (fun _ i _ => n - (intOf i).toNat)
  case atStart => exact ⟨0, Nat.zero_le _, rfl, hB2, hz, H0, Nat.le_refl _⟩
  case round =>
    clear hB2 hz H0
    obtain ⟨k, hk, rfl, hB, hz, hO, hlen⟩ := hrel
    by_cases hlt : k < n
    · have hlt2 : k < ps.length := by rw [HL.out]; exact hlt
      obtain ⟨b, off, A, c, rfl, hc1, hr1, hcap, _, hA⟩ := (hP.below hB).at k hlt2
      have HS := Lib.hid (show (ps.take (k + 1)).flatten = (ps.take k).flatten ++ ps[k] by rw [take_snoc ps k hlt2, List.flatten_append]; simp)
      generalize ps[k] = us at *
      generalize hul : us.length = m at *
      replace hul := Lib.hid hul
      generalize hxs : (ps.take k).flatten = xs at *
      replace hxs := Lib.hid hxs
      have i1 : (0 : Int) ≤ (k : Int) := by omega
      have i2 : (k : Int) < (n : Int) := by omega
      by_cases h300 : 300 < m
      · have j1 : (300 : Int) < (m : Int) := by omega
        go_wp2
        go_ret
        exact ⟨rfl, hB⟩
      · have j1 : ¬ (300 : Int) < (m : Int) := by omega
        go_wp2_with (first
          | (at_builtin
             refine append_row rfl (.tmp 21) (.tmp 22) rfl base _ xs us w.heap.size A c rfl hO (by rw [hul.out]; rfl) hA hr1 (by rw [hul.out]; omega) hz ?_
             intro v3 w3 hown3 hB3))
        go_roundw
        case rel => exact ⟨k + 1, by omega, by go_num, hB.trans (hB3.mono hBz), Nat.le_trans hz hB3.size, by rw [HS.out]; exact hown3, by rw [HS.out, List.length_append, hul.out]; omega⟩
        case measure => simp [intOf]; omega
    · obtain rfl : k = n := by omega
      have e1 : ps.take k = ps := List.take_of_length_le (by rw [HL.out]; omega)
      rw [e1] at hO hlen
      clear e1
      have hfl : ps.flatten.length ≤ 900000 := by omega
      have hP2 := (hP.below hB).more hB.size
      obtain ⟨A, c, hv, hcap, hA, hR⟩ := hO.form
      have HX : Hid (ps.flatten.length = ps.flatten.length) := rfl
      generalize hfm : ps.flatten = xs at *
      generalize hml : xs.length = m at *
      replace hfm := Lib.hid hfm
      replace hml := Lib.hid hml
      subst hv
      go_wp2_with fail
      refine (wideSum_any D d k ps wr (hK.below hB) HL.out hP2 (by omega) (by rw [hfm.out, hml.out]; exact hfl)).mono ?_
      rintro e w4 ⟨rfl, hB4⟩
      rw [hfm.out]
      have hB5 := below_then hB hB4
      have hR5 := hR.on hB4
      go_wp2_with fail
      refine (wideRefSum_any A c m xs w4 hml.out hR5 hA hfl).mono ?_
      rintro e w5 ⟨rfl, hB6⟩
      have hB7 := below_then hB5 hB6
      have hR7 := hR5.on hB6
      clear hB4 hB5 hB6 hR5
      have hc2 : c ≤ maxLen := by
        rcases hO.2 with ⟨hv, _⟩ | ⟨g, cap, cur, hv, _, _, _, hcm, _⟩
        · cases hv; exact Nat.zero_le _
        · cases hv; exact hcm
      have hP3 : Parts (w5.alloc (.cells #[.slice A m c] 24)) (w5.alloc (.cells #[.slice A m c] 24)).heap.size (some ⟨w5.heap.size, 0, none⟩) [xs] := parts_lit w5 #[.slice A m c] [xs] (fun j us hu => by
        match j, hu with
        | 0, hu => cases hu; exact ⟨.slice A m c, rfl, A, c, by rw [hml.out], hR7, by rw [hml.out]; exact hcap, hc2, hA⟩
        | j + 1, hu => simp at hu)
      have hB8 : Below w5.heap.size w5 (w5.alloc (.cells #[.slice A m c] 24)) := (Below.refl _ _).alloc (Nat.le_refl _) _
      have hR8 := hR7.on hB8
      have HP3 := Lib.hid hP3
      clear hP3
      go_wp2_with fail
      generalize w5.alloc (.cells #[.slice A m c] 24) = w6 at *
      have hB9 := below_then hB7 hB8
      refine (wideSum_any _ _ 1 [xs] w6 (hK.below hB9) rfl HP3.out (by omega) (by simp [hml.out]; exact hfl)).mono ?_
      rintro e w7 ⟨rfl, hB10⟩
      rw [show [xs].flatten = xs by simp]
      have hB11 := below_then hB9 hB10
      have hR11 := hR8.on hB10
      go_wp2_with fail
      refine (wideRefSum_any A c m xs w7 hml.out hR11 hA hfl).mono ?_
      rintro e w8 ⟨rfl, hB12⟩
      go_wp2
      go_ret
      exact ⟨rfl, below_then hB11 hB12⟩

set_option maxRecDepth 100000 in
theorem contract (H : Type) (enc : TypeId × Value → H) (W : World) (base : Nat) (args : Array Value) (ds gs : List (DataW H)) (before : List MemPlace)
    (hval : ∀ (j : Nat) t v, Tryd.f3.params[j]? = some t → args[j]? = some v → Value.okWide Tryd.prog W .any base t v)
    (hW : DataW.Whole enc Tryd.prog Tryd.f3.params.toList Rows.shawideSumsSpec.vars false W args.toList ds gs before) (hL : laidMetH Tryd.prog Rows.shawideSumsRow.laid W) :
    Calls Tryd.prog 3 args W fun e W' => ∃ v, e = .returned v ∧ Rows.shawideSumsSpec.post enc Tryd.prog Tryd.f3 false true false false W args v W' := by
  have hW' := hW
  obtain ⟨p, q, hA0, hV, rfl, hfz, hnd⟩ := hW
  have hA : DataW.TrodAll enc Tryd.prog W 0 (fun _ => true) true Tryd.f3.params.toList args.toList ds p := hA0
  rw [Tryd.params3] at hA hval
  obtain ⟨v0, vs0, d0, ds0, p0, q0, hargs, rfl, rfl, h0, r0⟩ := trodAll_cons hA
  obtain ⟨rfl, rfl, rfl⟩ := trodAll_nil r0
  obtain rfl : args = #[v0] := by cases args; simp_all
  have fin : ∀ W' : World, Below W.heap.size W W' → ∃ v, Ending.returned (.bool true) = .returned v ∧ Rows.shawideSumsSpec.post enc Tryd.prog Tryd.f3 false true false false W #[v0] v W' := fun W' hb =>
    ⟨_, rfl, law_post laidOut Tryd.underlying4 (by kernel_rfl) (by kernel_rfl) rfl ⟨rfl, rfl, rfl⟩ hW' hb⟩
  obtain ⟨D, c, ps, rfl, rP, _, _⟩ := open_parts (hval 0 22 v0 rfl rfl) h0
  have hT : TabsW W := by
    have h := hL
    rw [show Rows.shawideSumsRow.laid = [("fellowship/api.ErrRange", Rows.laid_fellowship_api_ErrRange), ("fellowship/api.ErrLong", Rows.laid_fellowship_api_ErrLong)] ++ [("fellowship/shawide.start", Rows.laid_fellowship_shawide_start), ("fellowship/shawide.rounds", Rows.laid_fellowship_shawide_rounds)] from rfl, MakeChecks.laidMetH_plain _ _ _ (by kernel_rfl)] at h
    obtain ⟨ps, hv, _, _⟩ := h
    obtain ⟨p1, p2, _, _, h2⟩ := laid_split _ _ _ hv
    exact tabsW_of h2
  have walk : Calls Tryd.prog 3 #[.slice D ps.length c] W fun e w' => e = .returned (.bool true) ∧ Below W.heap.size W w' := by
    by_cases hn : ps.length ≤ 20
    · exact walk D c _ ps W hT rfl rP hn
    · exact long_walk D c _ W hT (by omega)
  refine walk.mono fun e W' ⟨he, hb⟩ => ?_
  subst he
  exact fin W' hb

theorem laid_met (os : Os) (args : Array Value) : laidMetH Tryd.prog Rows.shawideSumsRow.laid ((World.doorLaid Tryd.prog 400 os).forCall (fun _ _ => 0) ⟨#[], args, []⟩).memory :=
  laidMetH_of_parts3 (fuel := 8) (laidMet_of_run' 8 (by kernel_rfl) (by kernel_rfl)) (by kernel_rfl) (by kernel_rfl)
theorem reads (os : Os) {H : Type} (enc : TypeId × Value → H) : ∃ places, DataW.whole enc Tryd.prog ((World.doorLaid Tryd.prog 400 os).forCall (fun _ _ => 0) ⟨#[], #[.slice none 0 0], []⟩).memory Tryd.f3.params.toList Rows.shawideSumsSpec.vars false (#[.slice none 0 0] : Array Value).toList 8 = some ([.nil], [], places) :=
  ⟨[], by kernel_rfl⟩

set_option maxRecDepth 100000 in
theorem lifted (os : Os) (started : os.Started) (H : Type) (enc : TypeId × Value → H) (F : Stop.Interp) :
    ReturnsInHanded {} Tryd.checked os 3 .any ((OpenSpec.ofChange Rows.shawideSumsSpec).preRow enc Tryd.prog Tryd.f3 Rows.shawideSumsRow.domain false Rows.shawideSumsRow.laid) (((OpenSpec.ofChange Rows.shawideSumsSpec).at F).post enc Tryd.prog Tryd.f3 false true false false) := by
  obtain ⟨places, hx⟩ := reads os enc
  refine returnsInHanded_of_row (C := Tryd.checked) (s := OpenSpec.ofChange Rows.shawideSumsSpec) own started (by kernel_rfl) Tryd.func3
    (witness_row_atRef (enc := enc) (C := Tryd.checked) false (World.doorLaid Tryd.prog 400 os) #[.slice none 0 0] rfl (by kernel_rfl) (by kernel_rfl) (by kernel_rfl)
      (OpenSpec.preRow_of_cond 8 hx (by kernel_rfl) (fun k hk => by cases hk) (by kernel_rfl) (laid_met os _))) ?_
  intro W base args ds gs before hval hW _ _ _ hL _ _
  exact contract H enc W base args ds gs before hval hW hL

theorem said : Rows.ShawideSumsSaid :=
  OpenClaim.holds_of_cond 3 Tryd.f3 rfl rfl rfl rfl rfl rfl rfl ⟨rfl, rfl, rfl, rfl, rfl⟩ rfl rfl rfl rfl rfl (by kernel_rfl) Tryd.func3 (by kernel_rfl)
    (of_decide_eq_true (by kernel_rfl)) (by unfold Func.isWrapper; first | (rw [if_pos (by decide +kernel)]; kernel_rfl) | (rw [if_neg (by decide +kernel)]; exact ⟨rfl, rfl⟩))
    (fun os started H enc _ F => by rw [OpenClaim.pre_eq_preRow]; exact lifted os started H enc F)

theorem plain (f : FuncId) (fn : Func) (hf : Tryd.pinned.checked.prog.funcNamed "fellowship/fellowshiplaw03.ShawideSums" = some f) (hfn : Tryd.pinned.checked.prog.funcs[f]? = some fn) :
    true = Tryd.pinned.checked.prog.looks [] ∧ ∀ (j : Nat) t, fn.params[j]? = some t → Tryd.pinned.checked.prog.wantsStandIn t = false := by
  obtain rfl : f = 3 := Option.some.inj ((show Tryd.prog.funcNamed "fellowship/fellowshiplaw03.ShawideSums" = some 3 by kernel_rfl).symm.trans hf) |>.symm
  obtain rfl : fn = Tryd.f3 := (Option.some.inj (Tryd.func3.symm.trans hfn)).symm
  refine ⟨by kernel_rfl, fun j t ht => ?_⟩
  rw [Tryd.params3] at ht
  have hm : t ∈ [22] := by simpa using Array.mem_of_getElem? ht
  have hall : ([22].all fun u => !Tryd.prog.wantsStandIn u) = true := by kernel_rfl
  exact (show Tryd.prog.wantsStandIn t = false by simpa using List.all_eq_true.1 hall t hm)
end Go.Proofs.YtpbkjphdkdlhjaaDoor.shawideSums
namespace Go.Proofs.YtpbkjphdkdlhjaaDoor
theorem shawideSums_card : Rows.ShawideSumsCardSaid :=
  Claim7.holds_tied_plain_at .later [] _ _ _ _ shawideSums.said (fun _ h => by cases h) (by kernel_rfl) (fun _ h => by cases h) shawideSums_row_tie rfl ⟨rfl, rfl⟩ (by kernel_rfl) rfl shawideSums.plain (by kernel_rfl)
#print axioms shawideSums_card
end Go.Proofs.YtpbkjphdkdlhjaaDoor
