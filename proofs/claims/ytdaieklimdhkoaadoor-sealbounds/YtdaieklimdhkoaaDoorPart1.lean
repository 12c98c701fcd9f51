/- Part 1 of what the laws of this seat share: WMath, WTurns, WMem, WBig, WRows, WMix, WApp, WErr, WNum. -/
import Derived.WalkKit
import Derived.Test.YtdaieklimdhkoaaDoorProg
import Derived.Lib.Hide
import Derived.WalkSmall
import Derived.Deep.Draws
import Derived.Laws.BytesArg
import Derived.WalkMore
import Derived.ScopeJumps
import Derived.Below
import Derived.Laws.OwnMore
import Derived.Laws.Rows
import Derived.BigQuiet
import Derived.Deep.QuietTactic
import Derived.StillTailTactics
import Derived.Deep.RegionHeld3
import Derived.Laws.AppendOwnNone
import Derived.Deep.AppendLies
import Derived.Maps.AppendAt
import Derived.Test.YtdaieklimdhkoaaDoorChecked
import Derived.LaidEql
import Derived.Stop.Asserts
import Derived.RowKitTokens
import Derived.LaidLaws
import Derived.Stop.LaidErr
import Derived.MakeChecks
import Derived.ProofKit
namespace Go.Proofs.YtdaieklimdhkoaaDoor
theorem and31 (n : Int) : bits .and .u64 (IntKind.u64.wrap n) 31 = ((n % 32).toNat : Int) := by
  rw [IntKind.wrap_u64, u64_and _ _ (by omega) (by omega) (by omega) (by omega)]
  show (((n % 18446744073709551616).toNat &&& 31 : Nat) : Int) = _
  rw [nat_mask5]; omega
theorem and63 (n : Int) : bits .and .u64 (IntKind.u64.wrap n) 63 = ((n % 64).toNat : Int) := by
  rw [IntKind.wrap_u64, u64_and _ _ (by omega) (by omega) (by omega) (by omega)]
  show (((n % 18446744073709551616).toNat &&& 63 : Nat) : Int) = _
  rw [nat_mask6]; omega
theorem pow_cast (k : Nat) : ((2 : Int) ^ k) = ((2 ^ k : Nat) : Int) := by simp
theorem shl32 (x : BitVec 32) (k : Nat) : (x.toNat : Int) * 2 ^ k % 4294967296 = ((x <<< k).toNat : Int) := by
  rw [BitVec.toNat_shiftLeft, Nat.shiftLeft_eq, pow_cast, Int.natCast_emod, Int.natCast_mul]
  rfl
theorem shr32 (x : BitVec 32) (k : Nat) : (x.toNat : Int) / 2 ^ k = ((x >>> k).toNat : Int) := by
  rw [BitVec.toNat_ushiftRight, Nat.shiftRight_eq_div_pow, pow_cast, Int.natCast_ediv]
theorem or32 (x y : BitVec 32) : bits .or .u32 (x.toNat : Int) (y.toNat : Int) = ((x ||| y).toNat : Int) := by
  rw [u32_or_nat _ _ x.isLt y.isLt, BitVec.toNat_or]
theorem xor32 (x y : BitVec 32) : bits .xor .u32 (x.toNat : Int) (y.toNat : Int) = ((x ^^^ y).toNat : Int) := by
  rw [u32_xor_nat _ _ x.isLt y.isLt, BitVec.toNat_xor]
theorem and32 (x y : BitVec 32) : bits .and .u32 (x.toNat : Int) (y.toNat : Int) = ((x &&& y).toNat : Int) := by
  rw [u32_and_nat _ _ x.isLt y.isLt, BitVec.toNat_and]
theorem rotl32 (x : BitVec 32) (k : Nat) (hk : k < 32) : bits .or .u32 ((x.toNat : Int) * 2 ^ k % 4294967296) ((x.toNat : Int) / 2 ^ (32 - k)) = ((x.rotateLeft k).toNat : Int) := by
  rw [shl32, shr32, or32, BitVec.rotateLeft_def, Nat.mod_eq_of_lt hk]
theorem rotr32 (x : BitVec 32) (k : Nat) (hk : k < 32) : bits .or .u32 ((x.toNat : Int) / 2 ^ k) ((x.toNat : Int) * 2 ^ (32 - k) % 4294967296) = ((x.rotateRight k).toNat : Int) := by
  rw [shl32, shr32, or32, BitVec.rotateRight_def, Nat.mod_eq_of_lt hk]
theorem shl64 (x : BitVec 64) (k : Nat) : (x.toNat : Int) * 2 ^ k % 18446744073709551616 = ((x <<< k).toNat : Int) := by
  rw [BitVec.toNat_shiftLeft, Nat.shiftLeft_eq, pow_cast, Int.natCast_emod, Int.natCast_mul]
  rfl
theorem shr64 (x : BitVec 64) (k : Nat) : (x.toNat : Int) / 2 ^ k = ((x >>> k).toNat : Int) := by
  rw [BitVec.toNat_ushiftRight, Nat.shiftRight_eq_div_pow, pow_cast, Int.natCast_ediv]
theorem or64 (x y : BitVec 64) : bits .or .u64 (x.toNat : Int) (y.toNat : Int) = ((x ||| y).toNat : Int) := by
  rw [u64_or_nat _ _ x.isLt y.isLt, BitVec.toNat_or]
theorem xor64 (x y : BitVec 64) : bits .xor .u64 (x.toNat : Int) (y.toNat : Int) = ((x ^^^ y).toNat : Int) := by
  rw [u64_xor_nat _ _ x.isLt y.isLt, BitVec.toNat_xor]
theorem and64 (x y : BitVec 64) : bits .and .u64 (x.toNat : Int) (y.toNat : Int) = ((x &&& y).toNat : Int) := by
  rw [u64_and_nat _ _ x.isLt y.isLt, BitVec.toNat_and]
theorem rotl64 (x : BitVec 64) (k : Nat) (hk : k < 64) : bits .or .u64 ((x.toNat : Int) * 2 ^ k % 18446744073709551616) ((x.toNat : Int) / 2 ^ (64 - k)) = ((x.rotateLeft k).toNat : Int) := by
  rw [shl64, shr64, or64, BitVec.rotateLeft_def, Nat.mod_eq_of_lt hk]
theorem rotr64 (x : BitVec 64) (k : Nat) (hk : k < 64) : bits .or .u64 ((x.toNat : Int) / 2 ^ k) ((x.toNat : Int) * 2 ^ (64 - k) % 18446744073709551616) = ((x.rotateRight k).toNat : Int) := by
  rw [shl64, shr64, or64, BitVec.rotateRight_def, Nat.mod_eq_of_lt hk]
/-- A word's bits up to the i-th, each laid n places on, round in so many places. -/
def turnedTo (x : BitVec 64) (W n : Nat) : Nat → BitVec 64
  | 0 => 0#64
  | i + 1 => turnedTo x W n i + if x.getLsbD i then BitVec.twoPow 64 ((i + n) % W) else 0#64
theorem mod_apart (W n a i : Nat) (h1 : a < i) (h2 : i < W) : (a + n) % W ≠ (i + n) % W := by
  intro h
  have h3 := Nat.sub_mod_eq_zero_of_mod_eq h.symm
  rw [Nat.add_sub_add_right, Nat.mod_eq_of_lt (by omega)] at h3
  omega
theorem turnedTo_bit (x : BitVec 64) (W n : Nat) (hW : 0 < W) (hW' : W ≤ 64) : ∀ i, i ≤ W → ∀ j, (turnedTo x W n i).getLsbD j = decide (∃ a, a < i ∧ x.getLsbD a = true ∧ (a + n) % W = j) := by
  intro i
  induction i with
  | zero => intro _ j; simp [turnedTo]
  | succ i ih =>
    intro hi j
    have ih := ih (by omega)
    by_cases hb : x.getLsbD i = true
    · have he : (i + n) % W < W := Nat.mod_lt _ hW
      have hz : turnedTo x W n i &&& BitVec.twoPow 64 ((i + n) % W) = 0#64 := by
        apply BitVec.eq_of_getLsbD_eq
        intro j hj
        rw [BitVec.getLsbD_and, ih, BitVec.getLsbD_twoPow, BitVec.getLsbD_zero]
        by_cases hj2 : (i + n) % W = j
        · rw [decide_eq_false (p := ∃ a, _) (by rintro ⟨a, h1, _, h3⟩; exact mod_apart W n a i h1 (by omega) (h3.trans hj2.symm))]; rfl
        · simp [hj2]
      simp only [turnedTo, hb, if_true]
      rw [BitVec.add_eq_or_of_and_eq_zero _ _ hz, BitVec.getLsbD_or, ih, BitVec.getLsbD_twoPow, Bool.eq_iff_iff]
      simp only [Bool.or_eq_true, decide_eq_true_eq, Bool.and_eq_true]
      constructor
      · rintro (⟨a, h1, h2, h3⟩ | ⟨_, h⟩)
        · exact ⟨a, by omega, h2, h3⟩
        · exact ⟨i, by omega, hb, h⟩
      · rintro ⟨a, h1, h2, h3⟩
        by_cases e : a = i
        · subst e; exact .inr ⟨by omega, h3⟩
        · exact .inl ⟨a, by omega, h2, h3⟩
    · have hb' : x.getLsbD i = false := by simpa using hb
      simp only [turnedTo, hb', Bool.false_eq_true, if_false, BitVec.add_zero]
      rw [ih, Bool.eq_iff_iff]
      simp only [decide_eq_true_eq]
      constructor
      · rintro ⟨a, h1, h2, h3⟩; exact ⟨a, by omega, h2, h3⟩
      · rintro ⟨a, h1, h2, h3⟩
        by_cases e : a = i
        · subst e; rw [hb'] at h2; cases h2
        · exact ⟨a, by omega, h2, h3⟩
theorem rl_bit32 (x : BitVec 32) (r j : Nat) (hj : j < 32) : (x.rotateLeft r).getLsbD j = x.getLsbD ((j + (32 - r % 32)) % 32) := by
  rw [BitVec.getLsbD_rotateLeft]
  by_cases h : j < r % 32
  · rw [decide_eq_true h, cond_true]; congr 1; omega
  · rw [decide_eq_false h, cond_false, decide_eq_true hj, Bool.true_and]; congr 1; omega
theorem rr_bit32 (x : BitVec 32) (r j : Nat) (hj : j < 32) : (x.rotateRight r).getLsbD j = x.getLsbD ((j + r) % 32) := by
  rw [BitVec.getLsbD_rotateRight]
  by_cases h : j < 32 - r % 32
  · rw [decide_eq_true h, cond_true]; congr 1; omega
  · rw [decide_eq_false h, cond_false, decide_eq_true hj, Bool.true_and]; congr 1; omega
theorem rl_rl32 (x : BitVec 32) (a b c : Nat) (h : (a + b) % 32 = c % 32) : (x.rotateLeft a).rotateLeft b = x.rotateLeft c := by
  apply BitVec.eq_of_getLsbD_eq
  intro j hj
  rw [rl_bit32 _ _ _ hj, rl_bit32 _ _ _ (Nat.mod_lt _ (by decide)), rl_bit32 _ _ _ hj]
  congr 1; omega
theorem rr_rr32 (x : BitVec 32) (a b c : Nat) (h : (a + b) % 32 = c % 32) : (x.rotateRight a).rotateRight b = x.rotateRight c := by
  apply BitVec.eq_of_getLsbD_eq
  intro j hj
  rw [rr_bit32 _ _ _ hj, rr_bit32 _ _ _ (Nat.mod_lt _ (by decide)), rr_bit32 _ _ _ hj]
  congr 1; omega
theorem rr_rl32 (x : BitVec 32) (a b : Nat) (h : (a + b) % 32 = 0) : x.rotateRight a = x.rotateLeft b := by
  apply BitVec.eq_of_getLsbD_eq
  intro j hj
  rw [rr_bit32 _ _ _ hj, rl_bit32 _ _ _ hj]
  congr 1; omega
theorem rl_032 (x : BitVec 32) (a : Nat) (h : a % 32 = 0) : x.rotateLeft a = x := by
  apply BitVec.eq_of_getLsbD_eq
  intro j hj
  rw [rl_bit32 _ _ _ hj]
  congr 1; omega
theorem rl_bit64 (x : BitVec 64) (r j : Nat) (hj : j < 64) : (x.rotateLeft r).getLsbD j = x.getLsbD ((j + (64 - r % 64)) % 64) := by
  rw [BitVec.getLsbD_rotateLeft]
  by_cases h : j < r % 64
  · rw [decide_eq_true h, cond_true]; congr 1; omega
  · rw [decide_eq_false h, cond_false, decide_eq_true hj, Bool.true_and]; congr 1; omega
theorem rr_bit64 (x : BitVec 64) (r j : Nat) (hj : j < 64) : (x.rotateRight r).getLsbD j = x.getLsbD ((j + r) % 64) := by
  rw [BitVec.getLsbD_rotateRight]
  by_cases h : j < 64 - r % 64
  · rw [decide_eq_true h, cond_true]; congr 1; omega
  · rw [decide_eq_false h, cond_false, decide_eq_true hj, Bool.true_and]; congr 1; omega
theorem rl_rl64 (x : BitVec 64) (a b c : Nat) (h : (a + b) % 64 = c % 64) : (x.rotateLeft a).rotateLeft b = x.rotateLeft c := by
  apply BitVec.eq_of_getLsbD_eq
  intro j hj
  rw [rl_bit64 _ _ _ hj, rl_bit64 _ _ _ (Nat.mod_lt _ (by decide)), rl_bit64 _ _ _ hj]
  congr 1; omega
theorem rr_rr64 (x : BitVec 64) (a b c : Nat) (h : (a + b) % 64 = c % 64) : (x.rotateRight a).rotateRight b = x.rotateRight c := by
  apply BitVec.eq_of_getLsbD_eq
  intro j hj
  rw [rr_bit64 _ _ _ hj, rr_bit64 _ _ _ (Nat.mod_lt _ (by decide)), rr_bit64 _ _ _ hj]
  congr 1; omega
theorem rr_rl64 (x : BitVec 64) (a b : Nat) (h : (a + b) % 64 = 0) : x.rotateRight a = x.rotateLeft b := by
  apply BitVec.eq_of_getLsbD_eq
  intro j hj
  rw [rr_bit64 _ _ _ hj, rl_bit64 _ _ _ hj]
  congr 1; omega
theorem rl_064 (x : BitVec 64) (a : Nat) (h : a % 64 = 0) : x.rotateLeft a = x := by
  apply BitVec.eq_of_getLsbD_eq
  intro j hj
  rw [rl_bit64 _ _ _ hj]
  congr 1; omega
theorem turned32 (x : BitVec 32) (k : Nat) : turnedTo (x.setWidth 64) 32 k 32 = (x.rotateLeft k).setWidth 64 := by
  apply BitVec.eq_of_getLsbD_eq
  intro j hj
  rw [turnedTo_bit _ _ _ (by decide) (by decide) _ (Nat.le_refl _), BitVec.getLsbD_setWidth, Bool.eq_iff_iff]
  simp only [decide_eq_true_eq, Bool.and_eq_true, BitVec.getLsbD_setWidth]
  by_cases hj2 : j < 32
  · rw [rl_bit32 _ _ _ hj2]
    constructor
    · rintro ⟨a, h1, ⟨_, h2⟩, h3⟩
      have : (j + (32 - k % 32)) % 32 = a := by omega
      exact ⟨hj, by rw [this]; exact h2⟩
    · rintro ⟨_, h⟩
      exact ⟨_, Nat.mod_lt _ (by decide), ⟨by omega, h⟩, by omega⟩
  · constructor
    · rintro ⟨a, _, _, h3⟩; omega
    · rintro ⟨_, h⟩; rw [BitVec.getLsbD_of_ge _ _ (by omega)] at h; cases h
theorem turned64 (x : BitVec 64) (k : Nat) : turnedTo x 64 k 64 = x.rotateLeft k := by
  apply BitVec.eq_of_getLsbD_eq
  intro j hj
  rw [turnedTo_bit _ _ _ (by decide) (by decide) _ (Nat.le_refl _), rl_bit64 _ _ _ hj, Bool.eq_iff_iff]
  simp only [decide_eq_true_eq]
  constructor
  · rintro ⟨a, h1, h2, h3⟩
    have : (j + (64 - k % 64)) % 64 = a := by omega
    rw [this]; exact h2
  · intro h
    exact ⟨_, Nat.mod_lt _ (by decide), h, by omega⟩
theorem bit_and1 (x : BitVec 64) (k : Nat) : bits .and .u64 ((x.toNat : Int) / 2 ^ k) 1 = if x.getLsbD k then 1 else 0 := by
  have h1 : x.toNat / 2 ^ k ≤ x.toNat := Nat.div_le_self _ _
  have h2 := x.isLt
  rw [pow_cast, ← Int.natCast_ediv, show (1 : Int) = ((1 : Nat) : Int) from rfl, u64_and_nat _ _ (by omega) (by omega), nat_mask1, ← BitVec.testBit_toNat, Nat.testBit_eq_decide_div_mod_eq]
  have := Nat.mod_two_eq_zero_or_one (x.toNat / 2 ^ k)
  rcases this with h | h <;> rw [h] <;> simp
theorem turned_yes (x : BitVec 64) (W n k : Nat) (hW : 0 < W) (hW' : W ≤ 64) (h : (bits .and .u64 ((x.toNat : Int) / 2 ^ k) 1 == 1) = true) :
    IntKind.u64.wrap (((turnedTo x W n k).toNat : Int) + IntKind.u64.wrap (2 ^ min (IntKind.u64.wrap (((k : Int) + n) % W)).toNat 64)) = ((turnedTo x W n (k + 1)).toNat : Int) := by
  have hb : x.getLsbD k = true := by
    rw [bit_and1] at h
    cases hx : x.getLsbD k <;> simp [hx] at h ⊢
  have he : (k + n) % W < W := Nat.mod_lt _ hW
  have e1 : (IntKind.u64.wrap (((k : Int) + n) % W)).toNat = (k + n) % W := by
    rw [IntKind.wrap_u64, ← Int.natCast_add, ← Int.natCast_emod]; omega
  have hpl : 2 ^ ((k + n) % W) < 2 ^ 64 := Nat.pow_lt_pow_right (by decide) (by omega)
  simp only [turnedTo, hb, if_true]
  rw [e1, Nat.min_eq_left (by omega), BitVec.toNat_add, BitVec.toNat_twoPow, Nat.mod_eq_of_lt (a := 2 ^ _) hpl, pow_cast, IntKind.wrap_u64, IntKind.wrap_u64]
  generalize 2 ^ ((k + n) % W) = q at *
  have := (turnedTo x W n k).isLt
  generalize (turnedTo x W n k).toNat = r at *
  omega
theorem turned_no (x : BitVec 64) (W n k : Nat) (h : (bits .and .u64 ((x.toNat : Int) / 2 ^ k) 1 == 1) = false) : turnedTo x W n (k + 1) = turnedTo x W n k := by
  have hb : x.getLsbD k = false := by
    rw [bit_and1] at h
    cases hx : x.getLsbD k <;> simp [hx] at h ⊢
  simp [turnedTo, hb]
theorem tmod_cases (n : Int) (m : Nat) (hm : 0 < m) : (n.tmod m < 0 → n.tmod m + m = n % m) ∧ (0 ≤ n.tmod m → n.tmod m = n % m) := by
  have hp := Int.emod_nonneg n (b := m) (by omega)
  have hq := Int.emod_lt_of_pos n (b := m) (by omega)
  have hd := @Int.tmod_eq_emod n m
  by_cases c : 0 ≤ n ∨ (m : Int) ∣ n
  · rw [if_pos c] at hd
    exact ⟨fun h => by omega, fun _ => by omega⟩
  · rw [if_neg c] at hd
    exact ⟨fun _ => by omega, fun h => by omega⟩
/-- A word turned to the left (to the right) by any number of bits; by a number from 0 on. (Named, so that a walk leaves them whole.) -/
def rotL32 (x : BitVec 32) (n : Int) : BitVec 32 := x.rotateLeft (n % 32).toNat
def rotR32 (x : BitVec 32) (n : Int) : BitVec 32 := x.rotateRight (n % 32).toNat
def rotR64 (x : BitVec 64) (n : Int) : BitVec 64 := x.rotateRight (n % 64).toNat
def rotTo32 (x : BitVec 32) (n : Int) : BitVec 32 := x.rotateLeft n.toNat
def rotTo64 (x : BitVec 64) (n : Int) : BitVec 64 := x.rotateLeft n.toNat
theorem rotTo_left (x : BitVec 32) (n : Int) : rotTo32 x (n % 32) = rotL32 x n := rfl
theorem rotTo_right (x : BitVec 32) (n : Int) : rotTo32 x (32 - n % 32) = rotR32 x n := (rr_rl32 x _ _ (by omega)).symm
theorem rotTo_right64 (x : BitVec 64) (n : Int) : rotTo64 x (64 - n % 64) = rotR64 x n := (rr_rl64 x _ _ (by omega)).symm
theorem rotR_rotL (x : BitVec 32) (n : Int) : rotR32 (rotL32 x n) n = x := by
  unfold rotR32 rotL32
  rw [rr_rl32 _ (n % 32).toNat (32 - (n % 32).toNat) (by omega), rl_rl32 _ _ _ 0 (by omega), rl_032 _ _ (by omega)]
theorem rotL_rotR (x : BitVec 32) (n : Int) : rotL32 (rotR32 x n) n = x := by
  unfold rotR32 rotL32
  rw [rr_rl32 _ (n % 32).toNat (32 - (n % 32).toNat) (by omega), rl_rl32 _ _ _ 0 (by omega), rl_032 _ _ (by omega)]
theorem rotL_rotL (x : BitVec 32) (a b : Int) : rotL32 (rotL32 x a) b = rotL32 x (a + b) := rl_rl32 _ _ _ _ (by omega)
theorem rotR_rotR64 (x : BitVec 64) (a b : Int) : rotR64 (rotR64 x a) b = rotR64 x (a + b) := rr_rr64 _ _ _ _ (by omega)
theorem rotL_32 (x : BitVec 32) : rotL32 x 32 = x := rl_032 _ _ (by decide)
theorem rotR_64 (x : BitVec 64) : rotR64 x 64 = x := by
  unfold rotR64
  rw [rr_rl64 _ _ 0 (by decide), rl_064 _ _ (by decide)]
theorem rotR_rotL_neg (x : BitVec 32) (a : Int) : rotR32 x a = rotL32 x (-a) := rr_rl32 _ _ _ (by omega)
end Go.Proofs.YtdaieklimdhkoaaDoor
namespace Go.Proofs.YtdaieklimdhkoaaDoor
open Go.RowKit
theorem ret_int {k : IntKind} {a b : Int} (h : a = b) : Ending.returned (.int k a) = .returned (.int k b) := by rw [h]
theorem left_any (x : BitVec 32) (n : Int) (w : World) :
    Calls Tryd.prog 66 #[.int .u32 x.toNat, .int .i64 n] w fun e w' => e = .returned (.int .u32 ((rotL32 x n).toNat : Int)) ∧ w = w' := by
  have hk := and31 n
  have hl : (n % 32).toNat < 32 := by omega
  have HR := Lib.hid (show _ = ((rotL32 x n).toNat : Int) from rotl32 x _ hl)
  generalize (n % 32).toNat = k at *
  go_enter Tryd.func66, Tryd.ntmps66
  go_wp2
  go_ret
  exact ⟨ret_int HR.out, rfl⟩
end Go.Proofs.YtdaieklimdhkoaaDoor
namespace Go.Proofs.YtdaieklimdhkoaaDoor
open Go.RowKit
/-- A byte as a cell holds it. -/
abbrev cellOf (u : UInt8) : Value := .int .u8 (u.toNat : Int)
/-- The address A leads to the bytes bs, in a block below B (of no bytes: any address, none too). -/
def Row (w : World) (B : Nat) (A : Option Addr) (bs : List UInt8) : Prop :=
  bs = [] ∨ ∃ b off, A = some ⟨b, off, none⟩ ∧ b < B ∧ ∀ j u, bs[j]? = some u → w.cell? ⟨b, off + j, none⟩ = some (cellOf u)
section
variable {w w' : World} {B B' : Nat} {A : Option Addr} {bs : List UInt8}
theorem Row.nil : Row w B A [] := .inl rfl
theorem Row.at (h : Row w B A bs) (k : Nat) (hk : k < bs.length) : ∃ b off, A = some ⟨b, off, none⟩ ∧ b < B ∧ w.cell? ⟨b, off + k, none⟩ = some (cellOf bs[k]) := by
  rcases h with rfl | ⟨b, off, hA, hb, hc⟩
  · simp at hk
  · exact ⟨b, off, hA, hb, hc k _ (List.getElem?_eq_getElem hk)⟩
theorem Row.keep (h : Row w B A bs) (hk : ∀ p : Addr, p.block < B → w'.cell? p = w.cell? p) : Row w' B A bs := by
  rcases h with rfl | ⟨b, off, hA, hb, hc⟩
  · exact .inl rfl
  · exact .inr ⟨b, off, hA, hb, fun j u hu => (hk _ hb).trans (hc j u hu)⟩
theorem Row.more (h : Row w B A bs) (hB : B ≤ B') : Row w B' A bs := by
  rcases h with rfl | ⟨b, off, hA, hb, hc⟩
  · exact .inl rfl
  · exact .inr ⟨b, off, hA, by omega, hc⟩
theorem Row.below (h : Row w B A bs) (hb : Below B w w') : Row w' B A bs := h.keep fun _ hp => hb.cell hp
theorem Row.drewN (h : Row w B A bs) (n : Nat) : Row (w.drewN n) B A bs := h
theorem Row.lt (h : Row w B A bs) (hB : B ≤ w.heap.size) : Row w w.heap.size A bs := h.more hB
theorem Row.take (h : Row w B A bs) (n : Nat) : Row w B A (bs.take n) := by
  rcases h with rfl | ⟨b, off, hA, hb, hc⟩
  · exact .inl (by simp)
  · refine .inr ⟨b, off, hA, hb, fun j u hu => hc j u ?_⟩
    rw [List.getElem?_take] at hu
    split at hu
    · exact hu
    · cases hu
end
/-- The text that bytes are. (Named, so that a walk leaves it whole.) -/
def str (bs : List UInt8) : ByteArray := ⟨bs.toArray⟩
theorem str_toList (bs : List UInt8) : (str bs).toList = bs := by
  unfold str; exact ByteArray.toList_mk bs
theorem str_beq (a b : List UInt8) : ((str a).toList == (str b).toList) = (a == b) := by rw [str_toList, str_toList]
/-- 'string(b)' of a row. -/
theorem Row.conv {P : Program} {w : World} {B : Nat} {A : Option Addr} {bs : List UInt8} (h : Row w B A bs) (c : Nat) {src e dst : TypeId} (hs : P.underlying src = some (.slice e)) (he : P.underlying e = some (.int .u8)) (hd : P.underlying dst = some .string) :
    (convert src dst (.slice A bs.length c)).run P w = .ok (.string (str bs)) w := by
  have hn : ∀ A : Option Addr, (convert src dst (.slice A 0 c)).run P w = .ok (.string (str [])) w := by
    intro A
    rw [run_convert_bytes_string w src dst e A 0 c hs he hd]
    cases A <;> simp [Conv.bytesToString, loadCells, str]
    all_goals rfl
  rcases h with rfl | ⟨b, off, rfl, hb, hc⟩
  · exact hn A
  · have := run_convert_bytes_arg (P := P) w src e hs he b off bs.length c (bs.map fun u => (u.toNat : Int)) (by simp) (fun i hi => by
      rw [hc i _ (List.getElem?_eq_getElem hi)]; simp [hi]) dst hd
    rw [this]
    congr 2
    simp [strOfNums, str, Function.comp_def]
/-- A scope with one label that is jumped back to: what holds at the label (J), the way from there on walked once, a measure that every pass lowers. -/
theorem wp_scope_once {P : Program} {c rest : Code} {Q : Exit → Act → World → Prop} {a : Act} {w : World} (l : Nat) (J : Act → World → Prop) (μ : Act → World → Nat) (hf : findLabel c l = some (Code.skip.seq rest))
    (first : Hid (∀ a w, J a w → rest.wp P (Exit.jump l J Q) a w) → c.wp P (Exit.jump l J Q) a w)
    (pass : ∀ a w, J a w → rest.wp P (Exit.jump l (fun a' w' => J a' w' ∧ μ a' w' < μ a w) Q) a w) : (Code.scope c).wp P Q a w :=
  wp_scope_jumps l J μ hf (first fun a w h => Code.wp_mono (fun e _ _ hq => by
    cases e <;> first | exact hq | exact ⟨hq.1, hq.2.1⟩) (pass a w h)) (fun a w h => wp_seq (wp_skip (pass a w h)))
/-- A row that the call itself has made: block g is just these bytes. -/
def Made (w : World) (g : Nat) (bs : List UInt8) : Prop := w.heap[g]? = some (.cells (bs.map cellOf).toArray 5 (0, 0))
theorem Made.cell {w : World} {g : Nat} {bs : List UInt8} (h : Made w g bs) (j : Nat) (hj : j < bs.length) : w.cell? ⟨g, j, none⟩ = some (cellOf bs[j]) := by
  rw [cell_of_row w g j _ _ _ h]
  simp [hj]
theorem Made.lt {w : World} {g : Nat} {bs : List UInt8} (h : Made w g bs) : g < w.heap.size := by
  rcases Nat.lt_or_ge g w.heap.size with hlt | hge
  · exact hlt
  · unfold Made at h; rw [Array.getElem?_eq_none hge] at h; cases h
theorem Made.row {w : World} {g B : Nat} {bs : List UInt8} (h : Made w g bs) (hB : g < B) : Row w B (some ⟨g, 0, none⟩) bs :=
  .inr ⟨g, 0, rfl, hB, fun j u hu => by
    have hj : j < bs.length := by
      rcases Nat.lt_or_ge j bs.length with h | h
      · exact h
      · rw [List.getElem?_eq_none h] at hu; cases hu
    rw [Nat.zero_add, h.cell j hj]
    rw [List.getElem?_eq_getElem hj] at hu
    cases hu; rfl⟩
theorem Made.below {w w' : World} {g B : Nat} {bs : List UInt8} (h : Made w g bs) (hb : Below B w w') (hg : g < B) : Made w' g bs := (hb.block g hg).trans h
theorem Made.frozen {w : World} {g : Nat} {bs : List UInt8} (h : Made w g bs) (j : Nat) : w.frozen? ⟨g, j, none⟩ = false := by
  unfold Made at h
  simp [World.frozen?, h]
theorem Made.set {w : World} {g : Nat} {bs : List UInt8} (h : Made w g bs) (j : Nat) (u : UInt8) : Made (w.setCell ⟨g, j, none⟩ (cellOf u)) g (bs.set j u) := by
  unfold Made at h ⊢
  simp [World.setCell, Array.getElem?_modify, h, List.map_set]
theorem Made.drew {w : World} {g : Nat} {bs : List UInt8} (h : Made w g bs) : Made w.drew g bs := h
theorem Made.drewN {w : World} {g : Nat} {bs : List UInt8} (h : Made w g bs) (n : Nat) : Made (w.drewN n) g bs := h
/-- A new row's cells. -/
def rowCells (bs : List UInt8) : Array Value := (bs.map cellOf).toArray
theorem Made.new (w : World) (bs : List UInt8) : Made (w.alloc (.cells (rowCells bs) 5)) w.heap.size bs := heap_alloc_new w _
theorem zeros_made (n : Nat) : madeCells (Value.int .u8 0).cells n = rowCells (List.replicate n 0) := by
  apply Array.ext_getElem?
  intro i
  simp only [madeCells, rowCells, Value.cells, List.map_replicate]
  by_cases h : i < n
  · simp [h, Nat.mod_one]
  · simp [h]
theorem below_then {a b c : World} (h : Below a.heap.size a b) (k : Below b.heap.size b c) : Below a.heap.size a c := h.trans (k.mono h.size)
/-- A row that stood stands in every world in which nothing old has turned. -/
theorem Row.on {w : World} {A : Option Addr} {bs : List UInt8} (h : Row w w.heap.size A bs) {w' : World} (hb : Below w.heap.size w w') : Row w' w'.heap.size A bs := (h.below hb).more hb.size
theorem below_redrew {B j k : Nat} {a w : World} (h : Below B a (w.drewN j)) : Below B a (w.drewN k) := ⟨h.os, h.tape, h.output, h.size, h.block⟩
end Go.Proofs.YtdaieklimdhkoaaDoor
namespace Go.Proofs.YtdaieklimdhkoaaDoor
open Go.RowKit
/-- The number of bytes, the high one first. -/
def bigN (bs : List UInt8) : Nat := bs.foldl (fun x b => x * 256 + b.toNat) 0
theorem bigN_snoc (l : List UInt8) (u : UInt8) : bigN (l ++ [u]) = bigN l * 256 + u.toNat := by simp [bigN, List.foldl_append]
theorem take_snoc {α : Type} (l : List α) (k : Nat) (h : k < l.length) : l.take (k + 1) = l.take k ++ [l[k]] := List.take_succ_eq_append_getElem h
theorem bigN_lt (l : List UInt8) : bigN l < 256 ^ l.length := by
  suffices h : ∀ n, ∀ l : List UInt8, l.length = n → bigN l < 256 ^ n from h _ l rfl
  intro n
  induction n with
  | zero => intro l hl; rw [List.eq_nil_of_length_eq_zero hl]; decide
  | succ n ih =>
    intro l hl
    have h1 := ih (l.take n) (by rw [List.length_take]; omega)
    have h2 : l = l.take n ++ [l[n]] := by rw [← take_snoc l n (by omega), List.take_of_length_le (by omega)]
    rw [h2, bigN_snoc, Nat.pow_succ]
    have := l[n].toNat_lt
    omega
theorem pow256_le {k n : Nat} (h : k ≤ n) : 256 ^ k ≤ 256 ^ n := Nat.pow_le_pow_right (by decide) h
theorem big_round (l : List UInt8) (k : Nat) (hk : k < l.length) (hn : l.length ≤ 8) :
    bits .or .u64 (IntKind.u64.wrap ((bigN (l.take k) : Int) * 256)) (IntKind.u64.wrap (l[k].toNat : Int)) = (bigN (l.take (k + 1)) : Int) := by
  have h1 := bigN_lt (l.take k)
  have h2 : 256 ^ (l.take k).length ≤ 256 ^ 7 := pow256_le (by rw [List.length_take]; omega)
  have h3 := l[k].toNat_lt
  rw [take_snoc l k hk, bigN_snoc]
  generalize bigN (l.take k) = a at *
  generalize l[k].toNat = u at *
  rw [IntKind.wrap_u64, IntKind.wrap_u64, show ((a : Int) * 256) % 18446744073709551616 = ((a * 256 : Nat) : Int) by omega, show (u : Int) % 18446744073709551616 = (u : Int) by omega, u64_or_nat _ _ (by omega) (by omega), nat_join 8 _ _ (by omega) (by omega)]
theorem left_one (w : World) : Calls Tryd.prog 66 #[.int .u32 2147483648, .int .i64 1] w fun e w' => e = .returned (.int .u32 1) ∧ w = w' := by
  have h := left_any 2147483648#32 1 w
  rw [show ((2147483648#32 : BitVec 32).toNat : Int) = 2147483648 from rfl, show ((rotL32 2147483648#32 1).toNat : Int) = 1 by decide] at h
  exact h
end Go.Proofs.YtdaieklimdhkoaaDoor
namespace Go.Proofs.YtdaieklimdhkoaaDoor
open Go.RowKit
/-- The bits that stand in any of the bytes. -/
def orAll (bs : List UInt8) : UInt8 := bs.foldl (· ||| ·) 0
theorem orAll_snoc (l : List UInt8) (u : UInt8) : orAll (l ++ [u]) = orAll l ||| u := by simp [orAll, List.foldl_append]
theorem or8 (x y : UInt8) : bits .or .u8 (x.toNat : Int) (y.toNat : Int) = ((x ||| y).toNat : Int) := by
  rw [u8_or_nat _ _ x.toNat_lt y.toNat_lt, UInt8.toNat_or]
theorem xor8 (x y : UInt8) : bits .xor .u8 (x.toNat : Int) (y.toNat : Int) = ((x ^^^ y).toNat : Int) := by
  rw [u8_xor_nat _ _ x.toNat_lt y.toNat_lt, UInt8.toNat_xor]
theorem orAll_zero (l : List UInt8) : (((orAll l).toNat : Int) == 0) = l.all (· == 0) := by
  have h : ∀ (l : List UInt8) (x : UInt8), l.foldl (· ||| ·) x = 0 ↔ x = 0 ∧ ∀ u ∈ l, u = 0 := by
    intro l
    induction l with
    | nil => intro x; simp
    | cons u l ih => intro x; rw [List.foldl_cons, ih]; simp [UInt8.or_eq_zero_iff, and_assoc]
  rw [Bool.eq_iff_iff]
  have h2 : (((orAll l).toNat : Int) == 0) = true ↔ orAll l = 0 := by
    rw [beq_iff_eq, UInt8.toNat_inj.symm]
    show _ ↔ (orAll l).toNat = 0
    omega
  rw [h2, orAll, h]
  simp
/-- The exclusive or of two rows. -/
def xorL (a b : List UInt8) : List UInt8 := List.zipWith (· ^^^ ·) a b
theorem xorL_snoc (a b : List UInt8) (k : Nat) (ha : k < a.length) (hb : k < b.length) : xorL (a.take (k + 1)) (b.take (k + 1)) = xorL (a.take k) (b.take k) ++ [a[k] ^^^ b[k]] := by
  unfold xorL
  rw [take_snoc a k ha, take_snoc b k hb, List.zipWith_append (by simp; omega)]
  rfl
theorem xor_zero : ∀ a b : List UInt8, a.length = b.length → (xorL a b).all (· == 0) = (a == b)
  | [], [], _ => rfl
  | x :: a, y :: b, h => by
    have ih := xor_zero a b (by simpa using h)
    unfold xorL at *
    rw [List.zipWith_cons_cons, List.all_cons, ih, List.cons_beq_cons]
    congr 1
    rw [Bool.eq_iff_iff, beq_iff_eq, beq_iff_eq, UInt8.xor_eq_zero_iff]
set_option maxRecDepth 100000 in
theorem equal_same (A B : Option Addr) (c d : Nat) (xs ys : List UInt8) (w : World) (ha : Row w w.heap.size A xs) (hb : Row w w.heap.size B ys) (hl : xs.length = ys.length) (hn : xs.length ≤ 100000) :
    Calls Tryd.prog 38 #[.slice A xs.length c, .slice B ys.length d] w fun e w' => e = .returned (.bool (xs == ys)) ∧ ∃ n, w' = w.drewN n := by
  have HF := Lib.hid ((orAll_zero (xorL xs ys)).trans (xor_zero xs ys hl))
  have HL := Lib.hid hl
  rw [← hl]
  clear hl
  go_enter Tryd.func38, Tryd.ntmps38
  go_wp2
  refine wp_scope_once 0 (fun a' w' => (∃ n, w' = w.drewN n) ∧ ∃ (k : Nat) (u12 u13 u14 u15 u16 u17 u18 u19 u20 u21 u22 u23 u24 u25 u26 u27 u28 : Value), k ≤ xs.length ∧ a' = { tmps := #[.slice A xs.length c, .slice B xs.length d, undef, undef, .bool false, .int .u8 ((orAll (xorL (xs.take k) (ys.take k))).toNat : Int), .int .i64 k, .slice A xs.length c, .int .i64 xs.length, .slice B xs.length d, .int .i64 xs.length, .bool false, u12, u13, u14, u15, u16, u17, u18, u19, u20, u21, u22, u23, u24, u25, u26, u27, u28, undef, undef], defers := [] })
    (fun a' _ => xs.length - (intOf (a'.tmps.getD 6 undef)).toNat) rfl ?_ ?_
  · intro hp
    go_wp2
    go_step3
    rename_i K hK
    exact hK _ _ (hp.out _ _ ⟨⟨0, rfl⟩, 0, _, _, _, _, _, _, _, _, _, _, _, _, _, _, _, _, _, Nat.zero_le _, rfl⟩)
  · rintro a' w' ⟨⟨n, rfl⟩, k, u12, u13, u14, u15, u16, u17, u18, u19, u20, u21, u22, u23, u24, u25, u26, u27, u28, hk, rfl⟩
    by_cases hlt : k < xs.length
    · have hlt2 : k < ys.length := by have := HL.out; omega
      obtain ⟨b, off, rfl, hb1, hc1⟩ := ha.at k hlt
      obtain ⟨b2, off2, rfl, hb2, hc2⟩ := hb.at k hlt2
      have HS := Lib.hid (xorL_snoc xs ys k hlt hlt2)
      have i1 : (0 : Int) ≤ (k : Int) := by omega
      have i2 : (k : Int) < (xs.length : Int) := by omega
      go_wp2
      go_quiet (fail)
      go_wp2
      go_step3
      rw [xor8, or8, ← orAll_snoc, ← HS.out]
      exact ⟨rfl, ⟨⟨_, rfl⟩, k + 1, _, _, _, _, _, _, _, _, _, _, _, _, _, _, _, _, _, hlt, rfl⟩, by simp [intOf]; omega⟩
    · go_wp2
      simp only [Exit.jump]
      go_ret
      refine ⟨?_, _, rfl⟩
      rw [← HF.out, List.take_of_length_le (by omega), List.take_of_length_le (by have := HL.out; omega)]
      rfl
theorem equal_other (A B : Option Addr) (c d m n : Nat) (w : World) (hl : m ≠ n) :
    Calls Tryd.prog 38 #[.slice A m c, .slice B n d] w fun e w' => e = .returned (.bool false) ∧ w = w' := by
  have h : ((m : Int) == (n : Int)) = false := by simp; omega
  have h2 : ((m : Int) != (n : Int)) = true := by simp; omega
  clear hl
  go_enter Tryd.func38, Tryd.ntmps38
  go_wp2
  go_step3
  go_wp2
  try rw [Exit.noGoto_ret]
  go_ret
  exact ⟨rfl, rfl⟩
end Go.Proofs.YtdaieklimdhkoaaDoor
namespace Go.Proofs.YtdaieklimdhkoaaDoor
open Go.RowKit
theorem u8_info : (Tryd.prog.info? 5).map (fun i => (i.zero, i.size, i.bytes)) = some (some (.int .u8 0), 1, 1) := by kernel_rfl
/-- 'make([]byte, n)' and 'make([]byte, 0, n)'. -/
theorem make_bytes (l n : Nat) (hl : l ≤ n) (hn : n ≤ 1000000) (W : World) :
    (Instr.makeSlice 24 (.int .i64 (l : Int)) (.int .i64 (n : Int))).run Tryd.prog W = .ok (.slice (some ⟨W.heap.size, 0, none⟩) l n) (W.alloc (.cells (rowCells (List.replicate n 0)) 5)) := by
  obtain ⟨i0, hi0, hz0, hz1, hz2⟩ := info_parts u8_info
  have h := run_make (P := Tryd.prog) W 24 5 i0 (.int .u8 0) Tryd.underlying24 hi0 hz0 .i64 .i64 l n (by omega) (by omega) (by rw [hz2]; omega) (by omega)
  rw [h, Int.toNat_natCast, Int.toNat_natCast, hz1, Nat.mul_one, zeros_made]
theorem set_next (l : List UInt8) (k n : Nat) (u : UInt8) (hl : l.length = k) (hk : k < n) : (l ++ List.replicate (n - k) 0).set k u = l ++ [u] ++ List.replicate (n - (k + 1)) 0 := by
  obtain ⟨m, hm⟩ : ∃ m, n - k = m + 1 := ⟨n - k - 1, by omega⟩
  rw [hm, show n - (k + 1) = m by omega, List.set_append_right _ _ (by omega), hl, Nat.sub_self, List.replicate_succ]
  simp
theorem xorL_length (a b : List UInt8) : (xorL a b).length = min a.length b.length := by simp [xorL]
end Go.Proofs.YtdaieklimdhkoaaDoor
namespace Go.Proofs.YtdaieklimdhkoaaDoor
open Go.RowKit
/-- The slice v is a row of the call's own (blocks from base on) that begins with these bytes. -/
def Owns (w : World) (base : Nat) (v : Value) (bs : List UInt8) : Prop := w.ownsRow base 5 1 v bs.length (bs.map cellOf)
section
variable {w w' : World} {base : Nat} {v : Value} {bs : List UInt8}
theorem Owns.kept_alloc (h : Owns w base v bs) (o : Obj) : Owns (w.alloc o) base v bs := World.ownsRow.alloc h o
theorem Owns.drewN (h : Owns w base v bs) (n : Nat) : Owns (w.drewN n) base v bs := h
theorem Owns.drew (h : Owns w base v bs) : Owns w.drew base v bs := h
theorem Owns.made (w : World) (c : Nat) (hb : base ≤ w.heap.size) (hc : c ≤ 1000000) : Owns (w.alloc (.cells (rowCells (List.replicate c 0)) 5)) base (.slice (some ⟨w.heap.size, 0, none⟩) 0 c) [] :=
  World.ownsRow_made w _ c hb (by simp only [maxLen]; omega) (by simp [rowCells])
theorem Owns.lit (w : World) (bs : List UInt8) (hb : base ≤ w.heap.size) (hc : bs.length ≤ 1000000) : Owns (w.alloc (.cells (rowCells bs) 5)) base (.slice (some ⟨w.heap.size, 0, none⟩) bs.length bs.length) bs := by
  have h := World.ownsRow_lit (base := base) (e := 5) (size := 1) w (rowCells bs) bs.length hb (by simp only [maxLen]; omega) (by simp [rowCells])
  simp only [rowCells] at h ⊢
  exact h
theorem Owns.form (h : Owns w base v bs) : ∃ A c, v = .slice A bs.length c ∧ bs.length ≤ c ∧ (A = none → c = 0) ∧ Row w w.heap.size A bs := by
  rcases h.2 with ⟨rfl, hn⟩ | ⟨g, cap, cur, rfl, hb, hg, hnc, _⟩
  · have : bs = [] := List.eq_nil_of_length_eq_zero hn
    subst this
    exact ⟨none, 0, rfl, Nat.le_refl _, fun _ => rfl, .inl rfl⟩
  · refine ⟨_, cap, rfl, hnc, (fun h => by cases h), .inr ⟨g, 0, rfl, (World.ownsRow.lt h g rfl).2, fun j u hu => ?_⟩⟩
    have := World.ownsRow.cells h (g := g) rfl j (cellOf u) (by rw [List.getElem?_map, hu]; rfl)
    rwa [Go.WideShapes.add_plain] at this
theorem Owns.form_pos (h : Owns w base v bs) (hp : 0 < bs.length) : ∃ g c, v = .slice (some ⟨g, 0, none⟩) bs.length c ∧ bs.length ≤ c ∧ c ≤ maxLen ∧ base ≤ g ∧ Row w w.heap.size (some ⟨g, 0, none⟩) bs := by
  rcases h.2 with ⟨rfl, hn⟩ | ⟨g, cap, cur, rfl, hb, hg, hnc, hcm, _⟩
  · omega
  · refine ⟨g, cap, rfl, hnc, hcm, hb, .inr ⟨g, 0, rfl, (World.ownsRow.lt h g rfl).2, fun j u hu => ?_⟩⟩
    have := World.ownsRow.cells h (g := g) rfl j (cellOf u) (by rw [List.getElem?_map, hu]; rfl)
    rwa [Go.WideShapes.add_plain] at this
theorem Owns.far (h : Owns w base v bs) : ∀ k, v.ownBlock = some k → base ≤ k := fun k hk => (World.ownsRow.lt h k hk).1
end
/-- 'append(out, b...)', b a row of bytes. -/
theorem append_row {w : World} {ops : Array Oper} {rest : List Oper} {o : Oper} {a : Act} {Q : Exit → Act → World → Prop} (hgd : o.guard = none) (s x : Operand)
    (ho : o.op = .call { callee := .builtin .append, args := #[s, x], argTypes := #[24, 24] }) (base : Nat)
    (v : Value) (bs us : List UInt8) (B : Nat) (A : Option Addr) (c : Nat) (hs : a.eval s = v) (hown : Owns w base v bs) (hx : a.eval x = .slice A us.length c) (hA : A = none → c = 0) (hr : Row w B A us)
    (hlen : bs.length + us.length ≤ 1000000) (hbase : base ≤ w.heap.size)
    (h : ∀ v' w', Owns w' base v' (bs ++ us) → Below base w w' → wpList Tryd.prog ops Q rest (a.put o.dst v') w') : wpList Tryd.prog ops Q (o :: rest) a w := by
  obtain ⟨i0, hi0, hz0, hz1, hz2⟩ := info_parts u8_info
  rcases A with _ | ad
  · have : us = [] := by
      rcases hr with h | ⟨_, _, h, _⟩
      · exact h
      · cases h
    subst this
    rw [hA rfl] at hx
    exact wpList_append_own_none hgd s x 24 ho base 5 i0 1 Tryd.underlying24 hi0 v bs.length (bs.map cellOf) hs hown hx (h v w (by simpa using hown) (Below.refl _ _))
  · refine wpList_append_own w hgd s x 24 ho base 5 i0 _ 1 1 Tryd.underlying24 hi0 hz0 hz1 hz2 rfl (by omega) v bs.length (bs.map cellOf) hs hown ad us.length c (us.map cellOf) hx (by simp) ?_ ?_ (by simp only [maxLen]; omega) (by omega) hbase ?_
    · intro j u hu
      rw [List.getElem?_map] at hu
      cases hj : us[j]? with
      | none => rw [hj] at hu; cases hu
      | some q =>
        rw [hj] at hu
        rcases hr with rfl | ⟨b, off, hb1, _, hc⟩
        · simp at hj
        · cases hb1
          rw [Go.WideShapes.add_plain, hc j q hj]
          exact hu
    · intro u hu
      obtain ⟨q, _, rfl⟩ := List.mem_map.1 hu
      rfl
    · intro v' w' h2 h3 _
      refine h v' w' ?_ ((Below.refl _ _).grown h3 hbase (fun k hk => hown.far k hk))
      unfold Owns
      simpa using h2
/-- The verifier's marks behind a copy. -/
def marks : List UInt8 := [201, 202, 203, 204, 205, 206]
/-- What 'Bytes' answers: a copy of these bytes in a new row, with the marks behind it. -/
def Copied (w : World) (bs : List UInt8) (e : Ending) (w' : World) : Prop :=
  ∃ g cap, e = .returned (.slice (some ⟨g, 0, none⟩) bs.length cap) ∧ bs.length + 6 ≤ cap ∧ cap ≤ maxLen ∧ w.heap.size ≤ g ∧ Row w' w'.heap.size (some ⟨g, 0, none⟩) (bs ++ marks) ∧ Below w.heap.size w w'
set_option maxRecDepth 100000 in
theorem bytes_any (A : Option Addr) (c : Nat) (bs : List UInt8) (w : World) (hr : Row w w.heap.size A bs) (hA : A = none → c = 0) (hn : bs.length ≤ 100000) :
    Calls Tryd.prog 8 #[.slice A bs.length c] w (Copied w bs) := by
  have hmk := make_bytes 0 (bs.length + 6) (by omega) (by omega)
  have e1 : ((bs.length + 6 : Nat) : Int) = (bs.length : Int) + 6 := by omega
  have e0 : ((0 : Nat) : Int) = 0 := rfl
  rw [e1, e0] at hmk
  clear e1 e0
  go_enter Tryd.func8, Tryd.ntmps8
  have hM : ∀ W : World, Row (W.alloc (.cells #[.int .u8 201, .int .u8 202, .int .u8 203, .int .u8 204, .int .u8 205, .int .u8 206] 5)) (W.heap.size + 1) (some ⟨W.heap.size, 0, none⟩) marks := fun W =>
    (Made.new W marks).row (by omega)
  have HM := Lib.hid hM
  clear hM
  go_wp2_with (first
    | (at_builtin
       refine append_row rfl (.tmp 7) (.tmp 8) rfl w.heap.size _ [] bs w.heap.size A c rfl (Owns.made w (bs.length + 6) (Nat.le_refl _) (by omega)) rfl hA (hr.below ((Below.refl _ _).alloc (Nat.le_refl _) _)) (by simp; omega) (by simp) ?_
       intro v1 w1 hown1 hB1)
    | (at_builtin
       refine append_row rfl (.tmp 9) (.tmp 10) rfl w.heap.size _ ([] ++ bs) marks (w1.heap.size + 1) (some ⟨w1.heap.size, 0, none⟩) 6 rfl (hown1.kept_alloc _) rfl (fun h => by cases h) (HM.out w1) (by simp [marks]; omega) ?_ ?_
       · have := hB1.size; simp at this ⊢; omega
       intro v2 w2 hown2 hB2
       obtain ⟨g, cap, hv, hc1, hc2, hg, hrow⟩ := hown2.form_pos (by simp [marks])
       subst hv
       have hc3 : bs.length + 6 ≤ cap := by simpa [marks] using hc1))
  go_ret
  have hB3 : Below w.heap.size w w1 := ((Below.refl _ _).alloc (Nat.le_refl _) _).trans hB1
  exact ⟨g, cap, rfl, hc3, hc2, hg, by simpa using hrow, (hB3.alloc hB3.size _).trans hB2⟩
set_option maxRecDepth 100000 in
theorem kept_any (A : Option Addr) (g cap c : Nat) (bs : List UInt8) (w : World) (hr : Row w w.heap.size (some ⟨g, 0, none⟩) (bs ++ marks)) (hw : Row w w.heap.size A bs) (hc1 : bs.length + 6 ≤ cap) (hc2 : cap ≤ maxLen) (hn : bs.length ≤ 100000) :
    Calls Tryd.prog 12 #[.slice (some ⟨g, 0, none⟩) bs.length cap, .slice A bs.length c] w fun e w' => e = .returned (.bool true) ∧ ∃ n, w' = w.drewN n := by
  unfold maxLen at hc2
  have k1 := fun n => ((hr.take bs.length).drewN n).conv (P := Tryd.prog) cap Tryd.underlying24 Tryd.underlying5 Tryd.underlying9
  rw [List.take_left' rfl] at k1
  have k2 := fun n => (hw.drewN n).conv (P := Tryd.prog) c Tryd.underlying24 Tryd.underlying5 Tryd.underlying9
  have g1 : decide ((cap : Int) < (bs.length : Int) + 6) = false := by simp; omega
  go_enter Tryd.func12, Tryd.ntmps12
  have mk : ∀ k : Nat, k < 6 → w.cell? ⟨g, bs.length + k, none⟩ = some (.int .u8 ((201 : Int) + k)) := by
    intro k hk
    rcases hr with h | ⟨b, off, h, _, hc⟩
    · simp [marks] at h
    · cases h
      have h2 := hc (bs.length + k) (UInt8.ofNat (201 + k)) (by
        rw [List.getElem?_append_right (by omega), Nat.add_sub_cancel_left]
        match k, hk with
        | 0, _ => rfl
        | 1, _ => rfl
        | 2, _ => rfl
        | 3, _ => rfl
        | 4, _ => rfl
        | 5, _ => rfl)
      rw [Nat.zero_add] at h2
      have e : (UInt8.ofNat (201 + k)).toNat = 201 + k := by rw [UInt8.toNat_ofNat']; omega
      rw [h2]
      simp only [cellOf, e]
      congr 2
  have MK := Lib.hid mk
  clear mk
  go_wp2
  go_quiet (fail)
  go_wp2
  go_loop [6] (fun i => ∃ k : Nat, k ≤ 6 ∧ i = .int .i64 k) (fun i => 6 - (intOf i).toNat)
  case atStart => exact ⟨0, by omega, rfl⟩
  case round =>
    obtain ⟨k, hk, rfl⟩ := hrel
    by_cases hlt : k < 6
    · have hc := MK.out k hlt
      have w1 : IntKind.u8.wrap (201 + (k : Int)) = 201 + (k : Int) := by rw [IntKind.wrap_u8']; omega
      have i1 : (0 : Int) ≤ (bs.length : Int) + k := by omega
      have i2 : (bs.length : Int) + (k : Int) < (cap : Int) := by omega
      have i3 : ((bs.length : Int) + k).toNat = bs.length + k := by omega
      go_wp2
      go_round
      case rel => exact ⟨k + 1, by omega, by go_num⟩
      case measure => simp [intOf]; omega
    · go_wp2
      go_ret
      exact ⟨rfl, _, rfl⟩
/-- What a call answers that makes a row of these bytes. -/
def GivesRow (w : World) (bs : List UInt8) (e : Ending) (w' : World) : Prop :=
  ∃ A c, e = .returned (.slice A bs.length c) ∧ (A = none → c = 0) ∧ Below w.heap.size w w' ∧ Row w' w'.heap.size A bs
/- The same contracts, the length a letter of its own. -/
def CopiedN (w : World) (bs : List UInt8) (n : Nat) (e : Ending) (w' : World) : Prop :=
  ∃ g cap, e = .returned (.slice (some ⟨g, 0, none⟩) n cap) ∧ n + 6 ≤ cap ∧ cap ≤ maxLen ∧ w.heap.size ≤ g ∧ Row w' w'.heap.size (some ⟨g, 0, none⟩) (bs ++ marks) ∧ Below w.heap.size w w'
def GivesRowN (w : World) (bs : List UInt8) (n : Nat) (e : Ending) (w' : World) : Prop :=
  ∃ A c, e = .returned (.slice A n c) ∧ (A = none → c = 0) ∧ Below w.heap.size w w' ∧ Row w' w'.heap.size A bs
section
variable {A B : Option Addr} {c d n : Nat} {xs ys : List UInt8} {w : World}
theorem bytes_n (hx : xs.length = n) (hr : Row w w.heap.size A xs) (hA : A = none → c = 0) (hn : n ≤ 100000) : Calls Tryd.prog 8 #[.slice A n c] w (CopiedN w xs n) := by
  subst hx; exact bytes_any A c xs w hr hA hn
theorem equal_n (hx : xs.length = n) (hy : ys.length = n) (ha : Row w w.heap.size A xs) (hb : Row w w.heap.size B ys) (hn : n ≤ 100000) :
    Calls Tryd.prog 38 #[.slice A n c, .slice B n d] w fun e w' => e = .returned (.bool (xs == ys)) ∧ ∃ n, w' = w.drewN n := by
  subst hx
  have h := equal_same A B c d xs ys w ha hb hy.symm hn
  rw [hy] at h
  exact h
theorem kept_n {g cap : Nat} (hx : xs.length = n) (hr : Row w w.heap.size (some ⟨g, 0, none⟩) (xs ++ marks)) (hw : Row w w.heap.size A xs) (hc1 : n + 6 ≤ cap) (hc2 : cap ≤ maxLen) (hn : n ≤ 100000) :
    Calls Tryd.prog 12 #[.slice (some ⟨g, 0, none⟩) n cap, .slice A n c] w fun e w' => e = .returned (.bool true) ∧ ∃ n, w' = w.drewN n := by
  subst hx; exact kept_any A g cap c xs w hr hw hc1 hc2 hn
/-- 'string(b)' in every world in which nothing old has turned. -/
theorem conv_n (hx : xs.length = n) (h : Row w w.heap.size A xs) (c : Nat) : ∀ w' : World, Below w.heap.size w w' → (convert 24 9 (.slice A n c)).run Tryd.prog w' = .ok (.string (str xs)) w' := by
  subst hx
  exact fun _ hb => (h.below hb).conv c Tryd.underlying24 Tryd.underlying5 Tryd.underlying9
end
theorem Row.head {w : World} {B : Nat} {A : Option Addr} {xs ys : List UInt8} (h : Row w B A (xs ++ ys)) : Row w B A xs := by
  have h := h.take xs.length
  rwa [List.take_left' rfl] at h
end Go.Proofs.YtdaieklimdhkoaaDoor
namespace Go.Proofs.YtdaieklimdhkoaaDoor
open Go.RowKit Go.Extern.Stop Go.Stop Go.Extern
/-- An error of package api's, as a value: a pointer to a text of errors.New's. -/
abbrev errAt (a : Addr) : Value := .iface 118 (.pointer (some a))
theorem is_typeOf (v : Value) (w : World) : (Extern.ReflectliteType.typeOf #[.iface 118 v]).run Tryd.prog w = .ok (.iface 100 (.agg #[.pointer (some ⟨19, 118, none⟩)])) w := by kernel_rfl
theorem is_comparable (w : World) : (callFunc 85 #[.agg #[.pointer (some ⟨19, 118, none⟩)]]).run Tryd.prog w = .ok (.value (.bool true)) w := by kernel_rfl
theorem is_methodComparable (v : Value) (w : World) : (Go.method 255 100 v "Comparable").run Tryd.prog w = .ok (85, v) w := by kernel_rfl
theorem is_comp : (Tryd.prog.info? 118).map (·.comparable) = some true := by kernel_rfl
theorem is_size : (Tryd.prog.info? 143).map (·.size) = some 1 := by kernel_rfl
theorem is_noIs (v : Value) (xT : TypeId) (w : World) : (Instr.typeAssert (.iface 118 v) xT 102 true).run Tryd.prog w = .ok (.tuple #[.nilIface, .bool false]) w :=
  run_typeAssert_lacksB Tryd.underlying102 (by kernel_rfl) (by kernel_rfl) v xT w
theorem is_noUnwrap (v : Value) (xT : TypeId) (w : World) : (Instr.typeAssert (.iface 118 v) xT 105 true).run Tryd.prog w = .ok (.tuple #[.nilIface, .bool false]) w :=
  run_typeAssert_lacksB Tryd.underlying105 (by kernel_rfl) (by kernel_rfl) v xT w
theorem is_noUnwraps (v : Value) (xT : TypeId) (w : World) : (Instr.typeAssert (.iface 118 v) xT 107 true).run Tryd.prog w = .ok (.tuple #[.nilIface, .bool false]) w :=
  run_typeAssert_lacksB Tryd.underlying107 (by kernel_rfl) (by kernel_rfl) v xT w
theorem is_same (a : Addr) (w : World) : Calls Tryd.prog 21 #[errAt a, errAt a] w fun e w' => e = .returned (.bool true) ∧ w = w' := by
  obtain ⟨i, hi, hcmp⟩ := Option.map_eq_some_iff.1 is_comp
  obtain ⟨j, hj, _⟩ := Option.map_eq_some_iff.1 is_size
  have h8 := @run_callFunc_extern Tryd.prog 36 _ Extern.ReflectliteType.typeOf Tryd.func36 (by kernel_rfl) (by kernel_rfl) (by kernel_rfl) (by kernel_rfl)
  have tT := is_typeOf
  have cT := is_comparable
  have mR := is_methodComparable
  have heq := run_eql_iface_ptr_same (P := Tryd.prog) w a Tryd.underlying30 Tryd.underlying118 hi hcmp hj
  go_enter Tryd.func21, Tryd.ntmps21
  go_wp2
  refine wp_loop_rounds 1 ?_
  rw [rounds_succ]
  go_wp2
  go_ret
  exact ⟨rfl, rfl⟩
theorem is_other (a b : Addr) (ca cb : Array Value) (ta tb : TypeId) (w : World) (hne : a ≠ b) (ha : w.heap[a.block]? = some (.cells ca ta (0, 0))) (hb : w.heap[b.block]? = some (.cells cb tb (0, 0))) :
    Calls Tryd.prog 21 #[errAt a, errAt b] w fun e w' => e = .returned (.bool false) ∧ w = w' := by
  obtain ⟨i, hi, hcmp⟩ := Option.map_eq_some_iff.1 is_comp
  obtain ⟨j, hj, hjs⟩ := Option.map_eq_some_iff.1 is_size
  have h8 := @run_callFunc_extern Tryd.prog 36 _ Extern.ReflectliteType.typeOf Tryd.func36 (by kernel_rfl) (by kernel_rfl) (by kernel_rfl) (by kernel_rfl)
  have tT := is_typeOf
  have cT := is_comparable
  have mR := is_methodComparable
  have nE := is_noIs
  have uE := is_noUnwrap
  have vE := is_noUnwraps
  have heq := run_eql_iface_ptr_other (P := Tryd.prog) w Tryd.underlying30 Tryd.underlying118 hi hcmp hj (by rw [hjs]; decide) hne ha hb
  go_enter Tryd.func21, Tryd.ntmps21
  go_wp2
  refine wp_loop_rounds 1 ?_
  rw [rounds_succ]
  go_wp2
  go_ret
  exact ⟨rfl, rfl⟩
end Go.Proofs.YtdaieklimdhkoaaDoor
namespace Go.Proofs.YtdaieklimdhkoaaDoor
open Go.RowKit Go.Stop
/-- Package api's errors in the table's order: the variables' numbers. -/
def errVars : List Nat := [1, 2, 0, 3, 4, 5, 6, 7, 8, 9, 10, 11, 12, 13, 14, 15, 16, 17, 18]
/-- Variable g holds an error whose text lies at a. -/
def ErrIs (W : World) (g : Nat) (a : Addr) : Prop := W.cell? ⟨g, 0, none⟩ = some (errAt a) ∧ ∃ c t, W.heap[a.block]? = some (.cells c t (0, 0))
theorem lt_of_heap {W : World} {b : Nat} {o : Obj} (h : W.heap[b]? = some o) : b < W.heap.size := by
  rcases Nat.lt_or_ge b W.heap.size with hlt | hge
  · exact hlt
  · rw [Array.getElem?_eq_none hge] at h; cases h
theorem ErrIs.below {W W' : World} {g : Nat} {a : Addr} (h : ErrIs W g a) (hb : Below W.heap.size W W') : ErrIs W' g a := by
  obtain ⟨h1, c, t, h2⟩ := h
  refine ⟨(hb.cell (block_lt_of_cell h1)).trans h1, c, t, (hb.block _ ?_).trans h2⟩
  rcases Nat.lt_or_ge a.block W.heap.size with hlt | hge
  · exact hlt
  · rw [Array.getElem?_eq_none hge] at h2; cases h2
/-- All of package api's errors stand, each apart from the others. -/
def Errs (W : World) (es : List Addr) : Prop := es.length = 19 ∧ es.Nodup ∧ ∀ (i g : Nat) (a : Addr), errVars[i]? = some g → es[i]? = some a → ErrIs W g a
theorem Errs.below {W W' : World} {es : List Addr} (h : Errs W es) (hb : Below W.heap.size W W') : Errs W' es :=
  ⟨h.1, h.2.1, fun i g a hg ha => (h.2.2 i g a hg ha).below hb⟩
theorem Errs.drewN {W : World} {es : List Addr} (h : Errs W es) (n : Nat) : Errs (W.drewN n) es := h
theorem Errs.var {W : World} {es : List Addr} (h : Errs W es) (i : Nat) {g : Nat} (hg : errVars[i]? = some g) : ∃ a, es[i]? = some a ∧ W.cell? ⟨g, 0, none⟩ = some (errAt a) := by
  have hi : i < es.length := by
    rcases Nat.lt_or_ge i es.length with hlt | hge
    · exact hlt
    · have h1 := h.1
      rw [List.getElem?_eq_none (by show 19 ≤ i; omega)] at hg
      cases hg
  exact ⟨es[i], List.getElem?_eq_getElem hi, (h.2.2 i g _ hg (List.getElem?_eq_getElem hi)).1⟩
theorem row_err : ∀ u, Tryd.prog.typeName? 3 u = some "*errors.errorString" → u = 118 := typeName_ptr_named (nm := "errors.errorString") (by kernel_rfl) (by kernel_rfl) (by decide)
theorem cells_es : Tryd.prog.cellsOf 143 = 1 := by kernel_rfl
theorem cells_str : Tryd.prog.cellsOf 9 = 1 := by kernel_rfl
set_option maxRecDepth 100000 in
/-- What the row's list gives, of whatever length it is. -/
theorem sentinels {W : World} : ∀ (l : List (String × List UInt8)) (gs : List Nat) (ps : List MemPlace), l.map (fun x => Tryd.prog.globalNamed x.1) = gs.map some →
    (∀ g ∈ gs, (Tryd.prog.globals[g]?).map (·.type) = some 30) → DataW.LaidVars Tryd.prog W (l.map fun x => (x.1, .iface "*errors.errorString" (.ptr (.agg [.lit (.string x.2)])))) ps → ps.Nodup →
    (∀ b off, MemPlace.cell b off ∈ ps → (∃ c t, W.heap[b]? = some (.cells c t (0, 0))) ∧ ∀ u v, W.cell? ⟨b, off, none⟩ = some (.iface u v) → Value.okWide Tryd.prog W .any 0 u v) →
    ∃ es : List Addr, es.length = gs.length ∧ es.Nodup ∧ (∀ a ∈ es, MemPlace.cell a.block a.off ∈ ps ∧ a.spot = none) ∧ ∀ (i g : Nat) (a : Addr), gs[i]? = some g → es[i]? = some a → ErrIs W g a
  | [], [], _, _, _, _, _, _ => ⟨[], rfl, List.nodup_nil, fun _ h => (by cases h), fun i g a h => by simp at h⟩
  | [], _ :: _, _, h, _, _, _, _ => by simp at h
  | _ :: _, [], _, h, _, _, _, _ => by simp at h
  | x :: l, g :: gs, ps, hgs, hts, hv, hnd, hrows => by
    rw [List.map_cons, List.map_cons, List.cons.injEq] at hgs
    obtain ⟨g0, t0, cs0, f0, p0, q0, hg0, ht0, hv0, hd0, hq, rfl⟩ := hv
    obtain rfl := Option.some.inj (hgs.1.symm.trans hg0)
    obtain rfl := Option.some.inj ((hts g List.mem_cons_self).symm.trans ht0)
    have hok : ∀ u v, cs0.toList = [.iface u v] → Value.okWide Tryd.prog W .any 0 u v := fun u v e => by
      have hc0 : cs0 = #[.iface u v] := by cases cs0; simp_all
      subst hc0
      exact (hrows g 0 (by simp [MemPlace.row])).2 u v (by simpa using World.var?_cell hg0 hv0 0)
    obtain ⟨a0, s0, hcs, hc0, _, _, rfl⟩ := errorString_of_trod Tryd.underlying30 row_err Tryd.underlying118 Tryd.underlying143 rfl rfl Tryd.underlying9 cells_es cells_str hd0 hok
    have hcs' : cs0 = #[errAt a0] := by cases cs0; simp_all
    subst hcs'
    obtain ⟨es, h1, h2, h3, h4⟩ := sentinels l gs q0 hgs.2 (fun g hg => hts g (List.mem_cons_of_mem _ hg)) hq (List.Nodup.sublist (List.sublist_append_right _ _) hnd) (fun b off hm => hrows b off (List.mem_append_right _ hm))
    have hmem : MemPlace.cell a0.block a0.off ∈ MemPlace.row ⟨g, 0, none⟩ (#[errAt a0] : Array Value).size ++ MemPlace.row a0 1 ++ q0 := by simp [MemPlace.row]
    have hsp : a0.spot = none := by simpa using World.cell?_spot hc0
    refine ⟨a0 :: es, by simp [h1], List.nodup_cons.2 ⟨fun hin => ?_, h2⟩, ?_, ?_⟩
    · have hq1 := (h3 a0 hin).1
      have hd := (List.nodup_append.1 hnd).2.2 (MemPlace.cell a0.block a0.off) (by simp [MemPlace.row]) (MemPlace.cell a0.block a0.off) hq1
      exact hd rfl
    · intro a ha
      rcases List.mem_cons.1 ha with rfl | ha
      · exact ⟨hmem, hsp⟩
      · exact ⟨List.mem_append_right _ (h3 a ha).1, (h3 a ha).2⟩
    · intro i g' a hg' ha'
      cases i with
      | zero =>
        simp at hg' ha'
        subst hg' ha'
        exact ⟨by simpa using World.var?_cell hg0 hv0 0, (hrows _ _ hmem).1⟩
      | succ i => exact h4 i g' a (by simpa using hg') (by simpa using ha')
theorem nodup_one {α : Type} : ∀ (l : List α), l.Nodup → ∀ (i k : Nat) (a : α), l[i]? = some a → l[k]? = some a → i = k
  | [], _, _, _, _, h, _ => by simp at h
  | x :: l, hn, i, k, a, hi, hk => by
    rw [List.nodup_cons] at hn
    cases i with
    | zero =>
      cases k with
      | zero => rfl
      | succ k =>
        simp at hi hk
        subst hi
        exact absurd (List.mem_of_getElem? hk) hn.1
    | succ i =>
      cases k with
      | zero =>
        simp at hi hk
        subst hk
        exact absurd (List.mem_of_getElem? hi) hn.1
      | succ k => rw [nodup_one l hn.2 i k a (by simpa using hi) (by simpa using hk)]
theorem num_nil (w : World) : Calls Tryd.prog 11 #[.nilIface] w fun e w' => e = .returned (.int .i64 0) ∧ w = w' := by
  go_enter Tryd.func11, Tryd.ntmps11
  go_wp2
  go_ret
  exact ⟨rfl, rfl⟩
set_option maxRecDepth 100000 in
set_option maxHeartbeats 1000000 in
/-- Num of the i-th error. -/
theorem num_err (es : List Addr) (i : Nat) (a : Addr) (w : World) (h : Errs w es) (ha : es[i]? = some a) :
    Calls Tryd.prog 11 #[errAt a] w fun e w' => e = .returned (.int .i64 ((i : Int) + 1)) ∧ Below w.heap.size w w' := by
  have hnd := h.2.1
  have hrow := h.2.2
  match es, h.1, ha, hnd, h with
  | [a0, a1, a2, a3, a4, a5, a6, a7, a8, a9, a10, a11, a12, a13, a14, a15, a16, a17, a18], _, ha, hnd, h =>
    have c0 := (h.2.2 0 1 a0 rfl rfl).1
    have c1 := (h.2.2 1 2 a1 rfl rfl).1
    have c2 := (h.2.2 2 0 a2 rfl rfl).1
    have c3 := (h.2.2 3 3 a3 rfl rfl).1
    have c4 := (h.2.2 4 4 a4 rfl rfl).1
    have c5 := (h.2.2 5 5 a5 rfl rfl).1
    have c6 := (h.2.2 6 6 a6 rfl rfl).1
    have c7 := (h.2.2 7 7 a7 rfl rfl).1
    have c8 := (h.2.2 8 8 a8 rfl rfl).1
    have c9 := (h.2.2 9 9 a9 rfl rfl).1
    have c10 := (h.2.2 10 10 a10 rfl rfl).1
    have c11 := (h.2.2 11 11 a11 rfl rfl).1
    have c12 := (h.2.2 12 12 a12 rfl rfl).1
    have c13 := (h.2.2 13 13 a13 rfl rfl).1
    have c14 := (h.2.2 14 14 a14 rfl rfl).1
    have c15 := (h.2.2 15 15 a15 rfl rfl).1
    have c16 := (h.2.2 16 16 a16 rfl rfl).1
    have c17 := (h.2.2 17 17 a17 rfl rfl).1
    have c18 := (h.2.2 18 18 a18 rfl rfl).1
    have HA := Lib.hid (fun (k : Nat) (b : Addr) (hb : [a0, a1, a2, a3, a4, a5, a6, a7, a8, a9, a10, a11, a12, a13, a14, a15, a16, a17, a18][k]? = some b) => show ∃ c t, w.heap[b.block]? = some (.cells c t (0, 0)) from by
      have hk : k < 19 := by
        rcases Nat.lt_or_ge k 19 with hlt | hge
        · exact hlt
        · rw [List.getElem?_eq_none (by simpa using hge)] at hb; cases hb
      exact (h.2.2 k _ b (List.getElem?_eq_getElem (by exact hk)) hb).2)
    have HD := Lib.hid (fun (k : Nat) (b : Addr) (hb : [a0, a1, a2, a3, a4, a5, a6, a7, a8, a9, a10, a11, a12, a13, a14, a15, a16, a17, a18][k]? = some b) (hki : k ≠ i) => show a ≠ b from by
      rintro rfl
      exact hki (nodup_one _ hnd _ _ _ hb ha))
    have HI := Lib.hid ha
    have hi : i < 19 := by
      rcases Nat.lt_or_ge i 19 with hlt | hge
      · exact hlt
      · rw [List.getElem?_eq_none (by simpa using hge)] at ha; cases ha
    clear hnd hrow h ha
    go_enter Tryd.func11, Tryd.ntmps11
    have hc1 : ∀ (k : Nat) (b : Addr), [a0, a1, a2, a3, a4, a5, a6, a7, a8, a9, a10, a11, a12, a13, a14, a15, a16, a17, a18][k]? = some b → (w.alloc (.cells #[errAt a0, errAt a1, errAt a2, errAt a3, errAt a4, errAt a5, errAt a6, errAt a7, errAt a8, errAt a9, errAt a10, errAt a11, errAt a12, errAt a13, errAt a14, errAt a15, errAt a16, errAt a17, errAt a18] 30)).cell? ⟨w.heap.size, k, none⟩ = some (errAt b) := by
      intro k b hb
      have h2 : ([a0, a1, a2, a3, a4, a5, a6, a7, a8, a9, a10, a11, a12, a13, a14, a15, a16, a17, a18].map errAt)[k]? = some (errAt b) := by rw [List.getElem?_map, hb]; rfl
      rw [World.cell?_alloc_at _ _ _ _ rfl, List.getElem?_toArray]
      exact h2
    have hB : Below w.heap.size w (w.alloc (.cells #[errAt a0, errAt a1, errAt a2, errAt a3, errAt a4, errAt a5, errAt a6, errAt a7, errAt a8, errAt a9, errAt a10, errAt a11, errAt a12, errAt a13, errAt a14, errAt a15, errAt a16, errAt a17, errAt a18] 30)) := (Below.refl _ _).alloc (Nat.le_refl _) _
    have HC := Lib.hid hc1
    clear hc1
    go_wp2
    generalize w.alloc (.cells #[errAt a0, errAt a1, errAt a2, errAt a3, errAt a4, errAt a5, errAt a6, errAt a7, errAt a8, errAt a9, errAt a10, errAt a11, errAt a12, errAt a13, errAt a14, errAt a15, errAt a16, errAt a17, errAt a18] 30) = w1 at *
    clear c0 c1 c2 c3 c4 c5 c6 c7 c8 c9 c10 c11 c12 c13 c14 c15 c16 c17 c18
    go_loop [4, 5, 30] (fun _ _ q => ∃ k : Nat, k ≤ i ∧ q = .int .i64 k) (fun _ _ q => 19 - (intOf q).toNat)
    case atStart => exact ⟨0, by omega, rfl⟩
    case round =>
      obtain ⟨k, hk, rfl⟩ := hrel
      have hk2 : k < [a0, a1, a2, a3, a4, a5, a6, a7, a8, a9, a10, a11, a12, a13, a14, a15, a16, a17, a18].length := by show k < 19; omega
      obtain ⟨b, hb⟩ : ∃ b, [a0, a1, a2, a3, a4, a5, a6, a7, a8, a9, a10, a11, a12, a13, a14, a15, a16, a17, a18][k]? = some b := ⟨_, List.getElem?_eq_getElem hk2⟩
      have hck := HC.out k b hb
      have i1 : (k : Int) < 19 := by omega
      rcases Nat.lt_or_eq_of_le hk with hlt | heq
      · have hne := HD.out k b hb (by omega)
        obtain ⟨ca, ta, ha1⟩ := HA.out i a HI.out
        obtain ⟨cb, tb, hb1⟩ := HA.out k b hb
        have H1 := Lib.hid (is_other a b ca cb ta tb w1 hne ((hB.block _ (lt_of_heap ha1)).trans ha1) ((hB.block _ (lt_of_heap hb1)).trans hb1))
        clear hb hne ha1 hb1
        go_wp2_with (go_at_call 21; refine (H1.out).mono ?_; rintro e w' ⟨rfl, rfl⟩)
        go_round
        case rel => exact ⟨k + 1, by omega, by go_num⟩
        case measure => simp [intOf]; omega
      · subst heq
        have hab : b = a := by have h3 := HI.out; rw [hb] at h3; exact Option.some.inj h3
        subst hab
        clear hb
        go_wp2_with (go_at_call 21; refine (is_same _ _).mono ?_; rintro e w' ⟨rfl, rfl⟩)
        go_ret
        exact ⟨rfl, hB⟩
/-- The same, the number written out. -/
theorem num_is (es : List Addr) (i : Nat) (n : Int) (a : Addr) (w : World) (h : Errs w es) (ha : es[i]? = some a) (hn : (i : Int) + 1 = n) :
    Calls Tryd.prog 11 #[errAt a] w fun e w' => e = .returned (.int .i64 n) ∧ Below w.heap.size w w' := by
  subst hn
  exact num_err es i a w h ha
end Go.Proofs.YtdaieklimdhkoaaDoor
