/- The walks of words.Zero, words.Equal, words.Mix. -/
import Derived.Test.YtiadgningbogmaaDoorWBig
import Derived.BigQuiet
import Derived.Deep.QuietTactic
namespace Go.Proofs.YtiadgningbogmaaDoor
open Go.RowKit
/-- The bits that stand in any of the bytes. -/
def orAll (bs : List UInt8) : UInt8 := bs.foldl (· ||| ·) 0
theorem orAll_snoc (l : List UInt8) (u : UInt8) : orAll (l ++ [u]) = orAll l ||| u := by simp [orAll, List.foldl_append]
theorem or8 (x y : UInt8) : bits .or .u8 (x.toNat : Int) (y.toNat : Int) = ((x ||| y).toNat : Int) := by
  rw [u8_or_nat _ _ x.toNat_lt y.toNat_lt, UInt8.toNat_or]
theorem xor8 (x y : UInt8) : bits .xor .u8 (x.toNat : Int) (y.toNat : Int) = ((x ^^^ y).toNat : Int) := by
  rw [u8_xor_nat _ _ x.toNat_lt y.toNat_lt, UInt8.toNat_xor]
theorem orAll_zero (l : List UInt8) : (((orAll l).toNat : Int) == 0) = l.all (· == 0) := by
  have h : ∀ (l : List UInt8) (x : UInt8), l.foldl (· ||| ·) x = 0 ↔ x = 0 ∧ ∀ u ∈ l, u = 0 := by
    intro l
    induction l with
    | nil => intro x; simp
    | cons u l ih => intro x; rw [List.foldl_cons, ih]; simp [UInt8.or_eq_zero_iff, and_assoc]
  rw [Bool.eq_iff_iff]
  have h2 : (((orAll l).toNat : Int) == 0) = true ↔ orAll l = 0 := by
    rw [beq_iff_eq, UInt8.toNat_inj.symm]
    show _ ↔ (orAll l).toNat = 0
    omega
  rw [h2, orAll, h]
  simp
/-- The exclusive or of two rows. -/
def xorL (a b : List UInt8) : List UInt8 := List.zipWith (· ^^^ ·) a b
theorem xorL_snoc (a b : List UInt8) (k : Nat) (ha : k < a.length) (hb : k < b.length) : xorL (a.take (k + 1)) (b.take (k + 1)) = xorL (a.take k) (b.take k) ++ [a[k] ^^^ b[k]] := by
  unfold xorL
  rw [take_snoc a k ha, take_snoc b k hb, List.zipWith_append (by simp; omega)]
  rfl
theorem xor_zero : ∀ a b : List UInt8, a.length = b.length → (xorL a b).all (· == 0) = (a == b)
  | [], [], _ => rfl
  | x :: a, y :: b, h => by
    have ih := xor_zero a b (by simpa using h)
    unfold xorL at *
    rw [List.zipWith_cons_cons, List.all_cons, ih, List.cons_beq_cons]
    congr 1
    rw [Bool.eq_iff_iff, beq_iff_eq, beq_iff_eq, UInt8.xor_eq_zero_iff]
set_option maxRecDepth 100000 in
theorem equal_same (A B : Option Addr) (c d : Nat) (xs ys : List UInt8) (w : World) (ha : Row w w.heap.size A xs) (hb : Row w w.heap.size B ys) (hl : xs.length = ys.length) (hn : xs.length ≤ 100000) :
    Calls Tryd.prog 18 #[.slice A xs.length c, .slice B ys.length d] w fun e w' => e = .returned (.bool (xs == ys)) ∧ ∃ n, w' = w.drewN n := by
  have HF := Lib.hid ((orAll_zero (xorL xs ys)).trans (xor_zero xs ys hl))
  have HL := Lib.hid hl
  rw [← hl]
  clear hl
  go_enter Tryd.func18, Tryd.ntmps18
  go_wp2
  refine wp_scope_once 0 (fun a' w' => (∃ n, w' = w.drewN n) ∧ ∃ (k : Nat) (u12 u13 u14 u15 u16 u17 u18 u19 u20 u21 u22 u23 u24 u25 u26 u27 u28 : Value), k ≤ xs.length ∧ a' = { tmps := #[.slice A xs.length c, .slice B xs.length d, undef, undef, .bool false, .int .u8 ((orAll (xorL (xs.take k) (ys.take k))).toNat : Int), .int .i64 k, .slice A xs.length c, .int .i64 xs.length, .slice B xs.length d, .int .i64 xs.length, .bool false, u12, u13, u14, u15, u16, u17, u18, u19, u20, u21, u22, u23, u24, u25, u26, u27, u28, undef, undef], defers := [] })
    (fun a' _ => xs.length - (intOf (a'.tmps.getD 6 undef)).toNat) rfl ?_ ?_
  · intro hp
    go_wp2
    go_step3
    rename_i K hK
    exact hK _ _ (hp.out _ _ ⟨⟨0, rfl⟩, 0, _, _, _, _, _, _, _, _, _, _, _, _, _, _, _, _, _, Nat.zero_le _, rfl⟩)
  · rintro a' w' ⟨⟨n, rfl⟩, k, u12, u13, u14, u15, u16, u17, u18, u19, u20, u21, u22, u23, u24, u25, u26, u27, u28, hk, rfl⟩
    by_cases hlt : k < xs.length
    · have hlt2 : k < ys.length := by have := HL.out; omega
      obtain ⟨b, off, rfl, hb1, hc1⟩ := ha.at k hlt
      obtain ⟨b2, off2, rfl, hb2, hc2⟩ := hb.at k hlt2
      have HS := Lib.hid (xorL_snoc xs ys k hlt hlt2)
      have i1 : (0 : Int) ≤ (k : Int) := by omega
      have i2 : (k : Int) < (xs.length : Int) := by omega
      go_wp2
      go_quiet (fail)
      go_wp2
      go_step3
      rw [xor8, or8, ← orAll_snoc, ← HS.out]
      exact ⟨rfl, ⟨⟨_, rfl⟩, k + 1, _, _, _, _, _, _, _, _, _, _, _, _, _, _, _, _, _, hlt, rfl⟩, by simp [intOf]; omega⟩
    · go_wp2
      simp only [Exit.jump]
      go_ret
      refine ⟨?_, _, rfl⟩
      rw [← HF.out, List.take_of_length_le (by omega), List.take_of_length_le (by have := HL.out; omega)]
      rfl
theorem equal_other (A B : Option Addr) (c d m n : Nat) (w : World) (hl : m ≠ n) :
    Calls Tryd.prog 18 #[.slice A m c, .slice B n d] w fun e w' => e = .returned (.bool false) ∧ w = w' := by
  have h : ((m : Int) == (n : Int)) = false := by simp; omega
  have h2 : ((m : Int) != (n : Int)) = true := by simp; omega
  clear hl
  go_enter Tryd.func18, Tryd.ntmps18
  go_wp2
  go_step3
  go_wp2
  try rw [Exit.noGoto_ret]
  go_ret
  exact ⟨rfl, rfl⟩
end Go.Proofs.YtiadgningbogmaaDoor
