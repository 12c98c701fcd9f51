/- The walks of words.Mix and of the document's own Mix. -/
import Derived.Test.YtbifokcchlcloaaDoorWRows
import Derived.StillTailTactics
import Derived.Deep.RegionHeld3
namespace Go.Proofs.YtbifokcchlcloaaDoor
open Go.RowKit
theorem u8_info : (Tryd.prog.info? 5).map (fun i => (i.zero, i.size, i.bytes)) = some (some (.int .u8 0), 1, 1) := by kernel_rfl
/-- 'make([]byte, n)' and 'make([]byte, 0, n)'. -/
theorem make_bytes (l n : Nat) (hl : l ≤ n) (hn : n ≤ 1000000) (W : World) :
    (Instr.makeSlice 30 (.int .i64 (l : Int)) (.int .i64 (n : Int))).run Tryd.prog W = .ok (.slice (some ⟨W.heap.size, 0, none⟩) l n) (W.alloc (.cells (rowCells (List.replicate n 0)) 5)) := by
  obtain ⟨i0, hi0, hz0, hz1, hz2⟩ := info_parts u8_info
  have h := run_make (P := Tryd.prog) W 30 5 i0 (.int .u8 0) Tryd.underlying30 hi0 hz0 .i64 .i64 l n (by omega) (by omega) (by rw [hz2]; omega) (by omega)
  rw [h, Int.toNat_natCast, Int.toNat_natCast, hz1, Nat.mul_one, zeros_made]
theorem set_next (l : List UInt8) (k n : Nat) (u : UInt8) (hl : l.length = k) (hk : k < n) : (l ++ List.replicate (n - k) 0).set k u = l ++ [u] ++ List.replicate (n - (k + 1)) 0 := by
  obtain ⟨m, hm⟩ : ∃ m, n - k = m + 1 := ⟨n - k - 1, by omega⟩
  rw [hm, show n - (k + 1) = m by omega, List.set_append_right _ _ (by omega), hl, Nat.sub_self, List.replicate_succ]
  simp
theorem xorL_length (a b : List UInt8) : (xorL a b).length = min a.length b.length := by simp [xorL]
set_option maxRecDepth 100000 in
theorem mix_same (A B : Option Addr) (c d : Nat) (xs ys : List UInt8) (w : World) (ha : Row w w.heap.size A xs) (hb : Row w w.heap.size B ys) (hl : xs.length = ys.length) (hn : xs.length ≤ 100000) :
    Calls Tryd.prog 24 #[.slice A xs.length c, .slice B ys.length d] w fun e w' => e = .returned (.tuple #[.slice (some ⟨w.heap.size, 0, none⟩) xs.length xs.length, .nilIface]) ∧ Below w.heap.size w w' ∧ Made w' w.heap.size (xorL xs ys) := by
  have HL := Lib.hid hl
  rw [← hl]
  clear hl
  have hmk := make_bytes xs.length xs.length (Nat.le_refl _) (by omega)
  go_enter Tryd.func24, Tryd.ntmps24
  go_wp2
  go_loopw [7, 19] (fun _ i wr => ∃ k : Nat, k ≤ xs.length ∧ i = .int .i64 k ∧ Below w.heap.size w wr ∧ Made wr w.heap.size (xorL (xs.take k) (ys.take k) ++ List.replicate (xs.length - k) 0)) (fun _ i _ => xs.length - (intOf i).toNat)
  case atStart => exact ⟨0, Nat.zero_le _, rfl, (Below.refl _ _).alloc (Nat.le_refl _) _, by simpa [xorL] using Made.new w (List.replicate xs.length 0)⟩
  case round =>
    obtain ⟨k, hk, rfl, hB, hM⟩ := hrel
    by_cases hlt : k < xs.length
    · have hlt2 : k < ys.length := by have := HL.out; omega
      obtain ⟨b, off, rfl, hb1, hc1⟩ := (ha.below hB).at k hlt
      obtain ⟨b2, off2, rfl, hb2, hc2⟩ := (hb.below hB).at k hlt2
      have HS := Lib.hid (xorL_snoc xs ys k hlt hlt2)
      have i1 : (0 : Int) ≤ (k : Int) := by omega
      have i2 : (k : Int) < (xs.length : Int) := by omega
      have hf := hM.frozen k
      have hc3 : ∃ v, wr.cell? ⟨w.heap.size, k, none⟩ = some v := ⟨_, hM.cell k (by simp [xorL]; omega)⟩
      obtain ⟨v3, hc3⟩ := hc3
      have n1 : w.heap.size ≠ b := by omega
      have n2 : w.heap.size ≠ b2 := by omega
      go_wp2
      go_region_held3 (fun w' => w'.cell? ⟨b, off + k, none⟩ = some (cellOf xs[k]) ∧ w'.cell? ⟨b2, off2 + k, none⟩ = some (cellOf ys[k])) (go_keep) (fail)
      go_wp2
      go_roundw
      case rel =>
        rw [xor8]
        refine ⟨k + 1, by omega, by go_num, (hB.setCell (p := ⟨w.heap.size, k, none⟩) (Nat.le_refl _) _).drew, ?_⟩
        have h := (hM.set k (xs[k] ^^^ ys[k])).drew
        rw [set_next _ k xs.length _ (by rw [xorL_length, List.length_take, List.length_take]; omega) hlt, ← HS.out] at h
        exact h
      case measure => simp [intOf]; omega
    · go_wp2
      go_ret2
      refine ⟨rfl, hB, ?_⟩
      rw [List.take_of_length_le (by omega), List.take_of_length_le (by have := HL.out; omega), show xs.length - k = 0 by omega] at hM
      simpa using hM
theorem mix_other (A B : Option Addr) (c d m n : Nat) (E : Value) (w : World) (hl : m ≠ n) (hE : w.cell? ⟨3, 0, none⟩ = some E) :
    Calls Tryd.prog 24 #[.slice A m c, .slice B n d] w fun e w' => e = .returned (.tuple #[.slice none 0 0, E]) ∧ ∃ n, w' = w.drewN n := by
  have h : ((m : Int) == (n : Int)) = false := by simp; omega
  have h2 : ((m : Int) != (n : Int)) = true := by simp; omega
  clear hl
  go_enter Tryd.func24, Tryd.ntmps24
  go_wp2
  go_quiet (fail)
  go_wp2
  go_ret2
  exact ⟨rfl, _, rfl⟩
end Go.Proofs.YtbifokcchlcloaaDoor
