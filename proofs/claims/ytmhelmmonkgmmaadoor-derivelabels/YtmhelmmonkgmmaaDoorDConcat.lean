/- slices.Grow of nothing, slices.Concat, and derive's twoBytes. -/
import Derived.Test.YtmhelmmonkgmmaaDoorDMath
import Derived.Test.YtmhelmmonkgmmaaDoorDOwn
namespace Go.Proofs.YtmhelmmonkgmmaaDoor
open Go.RowKit
set_option maxRecDepth 100000 in
/-- Room for n bytes, none of them taken. -/
theorem grow_none (n : Nat) (w : World) (hn : n ≤ 1000000) :
    Calls Tryd.prog 36 #[.slice none 0 0, .int .i64 (n : Int)] w fun e w' => ∃ v, e = .returned v ∧ Owns w' w.heap.size v [] ∧ Below w.heap.size w w' := by
  have h0 : Owns w w.heap.size (.slice none 0 0) [] := ⟨by simp, .inl ⟨rfl, by simp⟩⟩
  have i0 : ¬ (n : Int) < 0 := by omega
  by_cases hz : n = 0
  · subst hz
    go_enter Tryd.func36, Tryd.ntmps36
    go_wp2
    go_ret
    exact ⟨_, rfl, h0, Below.refl _ _⟩
  · have i1 : (0 : Int) < (n : Int) := by omega
    go_enter Tryd.func36, Tryd.ntmps36
    go_wp2_with (first
      | (at_builtin
         refine append_zeros rfl (.tmp 20) (.tmp 21) rfl w.heap.size n _ [] rfl h0 rfl (by simpa using hn) (Nat.le_refl _) ?_
         intro v1 w1 hO1 hB1
         rw [List.nil_append] at hO1
         obtain ⟨g1, c1, hv1, _, _, _, _⟩ := hO1.form_pos (by rw [List.length_replicate]; omega)
         rw [List.length_replicate] at hv1
         subst hv1
         have hO2 := hO1.cutTo 0 (Nat.zero_le _)
         rw [List.take_zero] at hO2)
      | (refine cut_to rfl (.tmp 22) (.tmp 24) rfl (some ⟨g1, 0, none⟩) n c1 0 _ rfl rfl rfl (Nat.zero_le _) ?_
         rw [cutA_zero]))
    go_ret
    exact ⟨_, rfl, hO2, hB1⟩
set_option maxRecDepth 100000 in
set_option maxHeartbeats 800000 in
/-- All parts one behind the other, in a row of its own. -/
theorem concat_any (D : Option Addr) (d m L : Nat) (ps : List (List UInt8)) (w : World) (hpl : ps.length = m) (hP : Parts w w.heap.size D ps) (hm : m ≤ 1000000) (hL : ps.flatten.length = L) (hn : L ≤ 1000000) :
    Calls Tryd.prog 24 #[.slice D m d] w (Gives w ps.flatten L) := by
  have HPL := Lib.hid hpl
  have HFL := Lib.hid hL
  clear hpl hL
  go_enter Tryd.func24, Tryd.ntmps24
  go_wp2
  go_loopw [3, 11] (fun s i wr => ∃ k : Nat, k ≤ m ∧ i = .int .i64 k ∧ s = .int .i64 ((ps.take k).flatten.length : Int) ∧ wr = w) (fun _ i _ => m - (intOf i).toNat)
  case atStart => exact ⟨0, Nat.zero_le _, rfl, by simp, rfl⟩
  case round =>
    obtain ⟨k, hk, rfl, rfl, rfl⟩ := hrel
    have HTL := Lib.hid (flatten_take_le ps k)
    generalize hs : (ps.take k).flatten.length = s at *
    replace hs := Lib.hid hs
    by_cases hlt : k < m
    · have hlt2 : k < ps.length := by rw [HPL.out]; exact hlt
      obtain ⟨b, off, A1, c1, rfl, hcl, hr1, h1, h2, h3⟩ := hP.at k hlt2
      have HS := Lib.hid (show (ps.take (k + 1)).flatten.length = (ps.take k).flatten.length + ps[k].length by rw [take_snoc ps k hlt2, List.flatten_append]; simp)
      have HTL2 := Lib.hid (flatten_take_le ps (k + 1))
      generalize hul : ps[k].length = q at *
      replace hul := Lib.hid hul
      have hq : s + q ≤ L := by have h1 := HS.out; have h2 := hs.out; have h3 := HTL2.out; have h4 := HFL.out; omega
      have i1 : ¬ (s : Int) + (q : Int) < 0 := by omega
      have i2 : (0 : Int) ≤ (s : Int) + (q : Int) := by omega
      go_wp2
      go_roundw
      case rel => exact ⟨k + 1, by omega, by go_num, by rw [HS.out, hs.out]; go_num, trivial⟩
      case measure => simp [intOf]; omega
    · obtain rfl : k = m := by omega
      have e1 : s = L := by rw [← hs.out, List.take_of_length_le (by rw [HPL.out]; exact Nat.le_refl _), HFL.out]
      subst e1
      clear HTL hs
      go_wp2_with (first
        | (go_at_call 36
           refine (grow_none s wr hn).mono ?_
           rintro e w1 ⟨v1, rfl, hO1, hB1⟩))
      have HZ := Lib.hid hB1.size
      have HB1 := Lib.hid hB1
      have HO1 := Lib.hid hO1
      clear hO1 hB1
      go_loopw [6, 27] (fun v i wq => ∃ j : Nat, j ≤ k ∧ i = .int .i64 j ∧ Below wr.heap.size wr wq ∧ Owns wq wr.heap.size v (ps.take j).flatten) (fun _ i _ => k - (intOf i).toNat)
      case atStart => exact ⟨0, Nat.zero_le _, rfl, HB1.out, by simpa using HO1.out⟩
      case round =>
        obtain ⟨j, hj, rfl, hB, hO⟩ := hrel
        rename World => wq
        by_cases hlt : j < k
        · have hlt2 : j < ps.length := by rw [HPL.out]; exact hlt
          obtain ⟨b, off, A1, c1, rfl, hcl, hr1, h1, h2, h3⟩ := (hP.below hB).at j hlt2
          have HS := Lib.hid (show (ps.take (j + 1)).flatten = (ps.take j).flatten ++ ps[j] by rw [take_snoc ps j hlt2, List.flatten_append]; simp)
          have HTL2 : Hid ((ps.take j).flatten.length + ps[j].length ≤ s) := by
            show _ ≤ _
            have h1 := flatten_take_le ps (j + 1)
            rw [HS.out, List.length_append, HFL.out] at h1
            exact h1
          generalize ps[j] = us at *
          generalize hul : us.length = q at *
          replace hul := Lib.hid hul
          generalize hF : (ps.take j).flatten = F at *
          replace hF := Lib.hid hF
          have hsz := hB.size
          go_wp2_with (first
            | (at_builtin
               refine append_row rfl (.tmp 31) (.tmp 32) rfl wr.heap.size _ F us _ A1 c1 rfl hO (by rw [hul.out]; rfl) h3 (hr1.more hsz) (by rw [hul.out]; have := HTL2.out; omega) hsz ?_
               intro v7 w7 hO7 hB7))
          go_roundw
          case rel => exact ⟨j + 1, by omega, by go_num, hB.trans hB7, by rw [HS.out]; exact hO7⟩
          case measure => simp [intOf]; omega
        · obtain rfl : j = k := by omega
          rw [List.take_of_length_le (by rw [HPL.out]; exact Nat.le_refl _)] at hO
          obtain ⟨A', c', hv, h1, h2, h3, h4⟩ := hO.form2
          rw [HFL.out] at hv h1
          subst hv
          go_wp2
          go_ret
          exact ⟨A', c', rfl, h3, h1, h2, h4, hB⟩
end Go.Proofs.YtmhelmmonkgmmaaDoor
