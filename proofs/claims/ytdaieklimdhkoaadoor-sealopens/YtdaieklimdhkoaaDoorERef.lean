/- The document's fill and code. -/
import Derived.Test.YtdaieklimdhkoaaDoorPart9
import Derived.Test.YtdaieklimdhkoaaDoorPart12
import Derived.Test.YtdaieklimdhkoaaDoorQSumC
namespace Go.Proofs.YtdaieklimdhkoaaDoor
open Go.RowKit
/-- What 'fill' answers: a row of its own. -/
def Fills (w : World) (bs : List UInt8) (e : Ending) (w' : World) : Prop := ∃ v, e = .returned v ∧ Owns w' w.heap.size v bs ∧ Below w.heap.size w w'
theorem fill_rem (n k : Nat) (hk : k ≤ wholeN n - n) : (((n + k : Nat) : Int) % 16 = 0) ↔ k = wholeN n - n := by
  unfold wholeN at *
  omega
set_option maxRecDepth 100000 in
set_option maxHeartbeats 1000000 in
theorem refFill_any (A : Option Addr) (n c : Nat) (bs : List UInt8) (w : World) (hl : bs.length = n) (hr : Row w w.heap.size A bs) (hA : A = none → c = 0) (hn : n ≤ 100000) :
    Calls Tryd.prog 33 #[.slice A n c] w (Fills w (fillL bs)) := by
  have HL := Lib.hid hl
  have HF : Hid (fillL bs = bs ++ List.replicate (wholeN n - n) 0) := by show _ = _; rw [fillL, hl]
  have HR := Lib.hid (fill_rem n)
  have hq : wholeN n - n ≤ 16 := by have := wholeN_lt n; omega
  clear hl
  generalize wholeN n - n = q at *
  have H0 := Lib.hid (Owns.lit (base := w.heap.size) w [] (Nat.le_refl _) (by simp))
  go_enter Tryd.func33, Tryd.ntmps33
  go_wp2_with (first
    | (at_builtin
       refine append_rowN rfl (.tmp 4) (.tmp 5) rfl w.heap.size _ [] bs w.heap.size A n c rfl H0.out rfl HL.out hA (hr.below ((Below.refl _ _).alloc (Nat.le_refl _) _)) (by rw [HL.out]; simp; omega) (by simp) ?_
       intro v1 w1 hO1 hb1
       rw [List.nil_append] at hO1
       have hB1 : Below w.heap.size w w1 := ((Below.refl _ _).alloc (Nat.le_refl _) _).trans hb1
       clear hb1))
  go_loopw [3] (fun v wr => ∃ k : Nat, k ≤ q ∧ Below w.heap.size w wr ∧ Owns wr w.heap.size v (bs ++ List.replicate k 0)) (fun v _ => n + q - lenOf v)
  case atStart => exact ⟨0, Nat.zero_le _, hB1, by simpa using hO1⟩
  case round =>
    clear hB1 hO1 H0
    obtain ⟨k, hk, hB, hO⟩ := hrel
    have hz := hB.size
    have HB : Hid ((bs ++ List.replicate k 0).length = n + k) := by show _ = _; rw [List.length_append, HL.out, List.length_replicate]
    obtain ⟨A2, c2, rfl, hc2, _, hA2, hR2⟩ := hO.form2
    rw [HB.out] at hc2 ⊢
    have HO : Hid (Owns wr w.heap.size (.slice A2 (n + k) c2) (bs ++ List.replicate k 0)) := by rw [HB.out] at hO; exact hO
    clear hO
    by_cases hlt : k = q
    · have i1 : ((n : Int) + (k : Int)) % 16 = 0 := by have := (HR.out k hk).2 hlt; omega
      go_wp2
      go_ret
      exact ⟨_, rfl, by rw [HF.out, ← hlt]; exact HO.out, hB⟩
    · have i1 : ¬ ((n : Int) + (k : Int)) % 16 = 0 := by
        intro h
        exact hlt ((HR.out k hk).1 (by omega))
      have HS : Hid (bs ++ List.replicate (k + 1) 0 = (bs ++ List.replicate k 0) ++ [0]) := by show _ = _; rw [List.replicate_succ', List.append_assoc]
      generalize hF : bs ++ List.replicate k 0 = F at *
      clear hF
      go_wp2_with (first
        | (at_builtin
           refine append_row rfl (.tmp 11) (.tmp 12) rfl w.heap.size _ F [0] (wr.heap.size + 1) (some ⟨wr.heap.size, 0, none⟩) 1 rfl (HO.out.kept_alloc _) rfl (fun h => by cases h) ((Made.new wr [0]).row (by omega)) (by rw [HB.out]; simp; omega) (by simp; omega) ?_
           intro v1 w1 hO1 hB1
           obtain ⟨A3, c3, rfl, _, _, _, _⟩ := hO1.form2
           have HB3 : Hid ((F ++ [0]).length = n + k + 1) := by show _ = _; rw [List.length_append, HB.out]; rfl
           rw [HB3.out] at hO1 ⊢))
      go_roundw
      case rel => exact ⟨k + 1, by omega, (hB.alloc hz _).trans hB1, by rw [HS.out]; exact hO1⟩
      case measure => simp [lenOf]; omega
end Go.Proofs.YtdaieklimdhkoaaDoor
