/- The digest of all bytes is the document's: the law fellowshiplaw02.ShaSums answers true at every input, where package sha's tables and package api's errors hold what the program's text lays. -/
import Derived.Test.YtcnhnmoenoldaaaDoorSOpen
namespace Go.Proofs.YtcnhnmoenoldaaaDoor.shaSums
open Go.ChangeShapes Go.WideShapes Go.ChangeAt Go.RowKit

theorem long_walk (A : Option Addr) (c n : Nat) (w : World) (hK : Tabs w) (hg : 4 ≤ w.heap.size) (hn : 1000 < n) :
    Calls Tryd.prog 3 #[.slice A n c] w fun e w' => e = .returned (.bool true) ∧ Below w.heap.size w w' := by
  have h1 : (1000 : Int) < (n : Int) := by omega
  go_enter Tryd.func3, Tryd.ntmps3
  go_wp2_with fail
  refine (alive2 w hK hg).mono ?_
  rintro e w1 ⟨rfl, hB⟩
  go_wp2
  go_ret
  exact ⟨rfl, hB⟩
set_option maxRecDepth 100000 in
set_option maxHeartbeats 1000000 in
theorem walk (A : Option Addr) (c n : Nat) (bs : List UInt8) (w : World) (hK : Tabs w) (hg : 4 ≤ w.heap.size) (hl : bs.length = n) (hr : Row w w.heap.size A bs) (hA : A = none → c = 0) (hn : n ≤ 1000) :
    Calls Tryd.prog 3 #[.slice A n c] w fun e w' => e = .returned (.bool true) ∧ Below w.heap.size w w' := by
  have HL := Lib.hid hl
  clear hl
  have h1 : ¬ (1000 : Int) < (n : Int) := by omega
  have hq := hash_eql bs
  have hgd := hash_guard
  go_enter Tryd.func3, Tryd.ntmps3
  go_wp2_with fail
  refine (alive2 w hK hg).mono ?_
  rintro e w1 ⟨rfl, hB1⟩
  go_wp2_with fail
  refine (bytes_n HL.out (hr.on hB1) hA (by omega)).mono ?_
  rintro e w2 ⟨g, cap, rfl, hc1, hc2, hgg, hR2, hB2⟩
  have hB3 := below_then hB1 hB2
  have hP : Parts (w2.alloc (.cells #[.slice (some ⟨g, 0, none⟩) n cap] 22)) (w2.alloc (.cells #[.slice (some ⟨g, 0, none⟩) n cap] 22)).heap.size (some ⟨w2.heap.size, 0, none⟩) [bs] := parts_lit w2 #[.slice (some ⟨g, 0, none⟩) n cap] [bs] (fun j us hu => by
    match j, hu with
    | 0, hu =>
      cases hu
      exact ⟨.slice (some ⟨g, 0, none⟩) n cap, rfl, some ⟨g, 0, none⟩, cap, by rw [HL.out], hR2.head, by rw [HL.out]; omega, hc2, (fun h => by cases h)⟩
    | j + 1, hu => simp at hu)
  have hB4 := hB3.alloc hB3.size (.cells #[.slice (some ⟨g, 0, none⟩) n cap] 22)
  have hR4 := hR2.on ((Below.refl _ _).alloc (Nat.le_refl _) (.cells #[.slice (some ⟨g, 0, none⟩) n cap] 22))
  have HP := Lib.hid hP
  clear hP
  go_wp2_with fail
  generalize w2.alloc (.cells #[.slice (some ⟨g, 0, none⟩) n cap] 22) = w3 at *
  refine (sum_any _ _ 1 [bs] w3 (hK.below hB4) (by have := hB4.size; omega) rfl HP.out (by omega) (by simp [HL.out]; omega)).mono ?_
  rintro e w4 ⟨rfl, hB5⟩
  rw [show [bs].flatten = bs by simp]
  have hB6 := hB4.trans (hB5.mono hB4.size)
  have hR6 := hR4.on hB5
  clear hB1 hB2 hB3 hB4 hB5 hR2 hR4 HP
  go_wp2_with fail
  refine (refSum_any A c n bs w4 HL.out (hr.on hB6) hA (by omega)).mono ?_
  rintro e w5 ⟨rfl, hB7⟩
  have hB8 := hB6.trans (hB7.mono hB6.size)
  have hR8 := hR6.on hB7
  go_wp2_with fail
  refine (kept_n HL.out hR8 (hr.on hB8) hc1 hc2 (by omega)).mono ?_
  rintro e w6 ⟨rfl, nk, rfl⟩
  go_wp2
  go_ret
  exact ⟨rfl, below_drewN hB8 nk⟩

theorem contract (H : Type) (enc : TypeId × Value → H) (W : World) (base : Nat) (args : Array Value) (ds gs : List (DataW H)) (before : List MemPlace)
    (hval : ∀ (j : Nat) t v, Tryd.f3.params[j]? = some t → args[j]? = some v → Value.okWide Tryd.prog W .any base t v)
    (hW : DataW.Whole enc Tryd.prog Tryd.f3.params.toList Rows.shaSumsSpec.vars false W args.toList ds gs before) (hL : laidMetH Tryd.prog Rows.shaSumsRow.laid W) :
    Calls Tryd.prog 3 args W fun e W' => ∃ v, e = .returned v ∧ Rows.shaSumsSpec.post enc Tryd.prog Tryd.f3 false true false false W args v W' := by
  have hW' := hW
  obtain ⟨p, q, hA0, hV, rfl, hfz, hnd⟩ := hW
  have hA : DataW.TrodAll enc Tryd.prog W 0 (fun _ => true) true Tryd.f3.params.toList args.toList ds p := hA0
  rw [Tryd.params3] at hA hval
  obtain ⟨v0, vs0, d0, ds0, p0, q0, hargs, rfl, rfl, h0, r0⟩ := trodAll_cons hA
  obtain ⟨rfl, rfl, rfl⟩ := trodAll_nil r0
  obtain rfl : args = #[v0] := by cases args; simp_all
  have fin : ∀ W' : World, Below W.heap.size W W' → ∃ v, Ending.returned (.bool true) = .returned v ∧ Rows.shaSumsSpec.post enc Tryd.prog Tryd.f3 false true false false W #[v0] v W' := fun W' hb =>
    ⟨_, rfl, law_post laidOut Tryd.underlying4 (by kernel_rfl) (by kernel_rfl) rfl ⟨rfl, rfl, rfl⟩ hW' hb⟩
  obtain ⟨A, c, bs, rfl, nA, rA, _, _⟩ := open_bytes (hval 0 22 v0 rfl rfl) h0
  obtain ⟨hK, hg⟩ := tabs_of hL
  have walk : Calls Tryd.prog 3 #[.slice A bs.length c] W fun e w' => e = .returned (.bool true) ∧ Below W.heap.size W w' := by
    by_cases hn : bs.length ≤ 1000
    · exact walk A c _ bs W hK hg rfl rA nA hn
    · exact long_walk A c _ W hK hg (by omega)
  refine walk.mono fun e W' ⟨he, hb⟩ => ?_
  subst he
  exact fin W' hb

theorem laid_met (os : Os) (args : Array Value) : laidMetH Tryd.prog Rows.shaSumsRow.laid ((World.doorLaid Tryd.prog 400 os).forCall (fun _ _ => 0) ⟨#[], args, []⟩).memory :=
  laidMetH_of_parts3 (fuel := 8) (laidMet_of_run' 8 (by kernel_rfl) (by kernel_rfl)) (by kernel_rfl) (by kernel_rfl)
theorem reads (os : Os) {H : Type} (enc : TypeId × Value → H) : ∃ places, DataW.whole enc Tryd.prog ((World.doorLaid Tryd.prog 400 os).forCall (fun _ _ => 0) ⟨#[], #[.slice none 0 0], []⟩).memory Tryd.f3.params.toList Rows.shaSumsSpec.vars false (#[.slice none 0 0] : Array Value).toList 8 = some ([.nil], [], places) :=
  ⟨[], by kernel_rfl⟩

set_option maxRecDepth 100000 in
theorem lifted (os : Os) (started : os.Started) (H : Type) (enc : TypeId × Value → H) (F : Stop.Interp) :
    ReturnsInHanded {} Tryd.checked os 3 .any ((OpenSpec.ofChange Rows.shaSumsSpec).preRow enc Tryd.prog Tryd.f3 Rows.shaSumsRow.domain false Rows.shaSumsRow.laid) (((OpenSpec.ofChange Rows.shaSumsSpec).at F).post enc Tryd.prog Tryd.f3 false true false false) := by
  obtain ⟨places, hx⟩ := reads os enc
  refine returnsInHanded_of_row (C := Tryd.checked) (s := OpenSpec.ofChange Rows.shaSumsSpec) own started (by kernel_rfl) Tryd.func3
    (witness_row_atRef (enc := enc) (C := Tryd.checked) false (World.doorLaid Tryd.prog 400 os) #[.slice none 0 0] rfl (by kernel_rfl) (by kernel_rfl) (by kernel_rfl)
      (OpenSpec.preRow_of_cond 8 hx (by kernel_rfl) (fun k hk => by cases hk) (by kernel_rfl) (laid_met os _))) ?_
  intro W base args ds gs before hval hW _ _ _ hL _ _
  exact contract H enc W base args ds gs before hval hW hL

theorem said : Rows.ShaSumsSaid :=
  OpenClaim.holds_of_cond 3 Tryd.f3 rfl rfl rfl rfl rfl rfl rfl ⟨rfl, rfl, rfl, rfl, rfl⟩ rfl rfl rfl rfl rfl (by kernel_rfl) Tryd.func3 (by kernel_rfl)
    (of_decide_eq_true (by kernel_rfl)) (by unfold Func.isWrapper; first | (rw [if_pos (by decide +kernel)]; kernel_rfl) | (rw [if_neg (by decide +kernel)]; exact ⟨rfl, rfl⟩))
    (fun os started H enc _ F => by rw [OpenClaim.pre_eq_preRow]; exact lifted os started H enc F)

theorem plain (f : FuncId) (fn : Func) (hf : Tryd.pinned.checked.prog.funcNamed "fellowship/fellowshiplaw02.ShaSums" = some f) (hfn : Tryd.pinned.checked.prog.funcs[f]? = some fn) :
    false = Tryd.pinned.checked.prog.looks [] ∧ ∀ (j : Nat) t, fn.params[j]? = some t → Tryd.pinned.checked.prog.wantsStandIn t = false := by
  obtain rfl : f = 3 := Option.some.inj ((show Tryd.prog.funcNamed "fellowship/fellowshiplaw02.ShaSums" = some 3 by kernel_rfl).symm.trans hf) |>.symm
  obtain rfl : fn = Tryd.f3 := (Option.some.inj (Tryd.func3.symm.trans hfn)).symm
  refine ⟨by kernel_rfl, fun j t ht => ?_⟩
  rw [Tryd.params3] at ht
  have hm : t ∈ [22] := by simpa using Array.mem_of_getElem? ht
  have hall : ([22].all fun u => !Tryd.prog.wantsStandIn u) = true := by kernel_rfl
  exact (show Tryd.prog.wantsStandIn t = false by simpa using List.all_eq_true.1 hall t hm)
end Go.Proofs.YtcnhnmoenoldaaaDoor.shaSums
namespace Go.Proofs.YtcnhnmoenoldaaaDoor
theorem shaSums_card : Rows.ShaSumsCardSaid :=
  Claim7.holds_tied_plain_at .later [] _ _ _ _ shaSums.said (fun _ h => by cases h) (by kernel_rfl) (fun _ h => by cases h) shaSums_row_tie rfl ⟨rfl, rfl⟩ (by kernel_rfl) rfl shaSums.plain (by kernel_rfl)
#print axioms shaSums_card
end Go.Proofs.YtcnhnmoenoldaaaDoor
