/- Plain facts on words: what Go's shifts and its 'or' make of a word is the word turned round. No program is named here. -/
import Derived.WalkKit
namespace Go.Proofs.YtiadgningbogmaaDoor
theorem and31 (n : Int) : bits .and .u64 (IntKind.u64.wrap n) 31 = ((n % 32).toNat : Int) := by
  rw [IntKind.wrap_u64, u64_and _ _ (by omega) (by omega) (by omega) (by omega)]
  show (((n % 18446744073709551616).toNat &&& 31 : Nat) : Int) = _
  rw [nat_mask5]; omega
theorem and63 (n : Int) : bits .and .u64 (IntKind.u64.wrap n) 63 = ((n % 64).toNat : Int) := by
  rw [IntKind.wrap_u64, u64_and _ _ (by omega) (by omega) (by omega) (by omega)]
  show (((n % 18446744073709551616).toNat &&& 63 : Nat) : Int) = _
  rw [nat_mask6]; omega
theorem pow_cast (k : Nat) : ((2 : Int) ^ k) = ((2 ^ k : Nat) : Int) := by simp
theorem shl32 (x : BitVec 32) (k : Nat) : (x.toNat : Int) * 2 ^ k % 4294967296 = ((x <<< k).toNat : Int) := by
  rw [BitVec.toNat_shiftLeft, Nat.shiftLeft_eq, pow_cast, Int.natCast_emod, Int.natCast_mul]
  rfl
theorem shr32 (x : BitVec 32) (k : Nat) : (x.toNat : Int) / 2 ^ k = ((x >>> k).toNat : Int) := by
  rw [BitVec.toNat_ushiftRight, Nat.shiftRight_eq_div_pow, pow_cast, Int.natCast_ediv]
theorem or32 (x y : BitVec 32) : bits .or .u32 (x.toNat : Int) (y.toNat : Int) = ((x ||| y).toNat : Int) := by
  rw [u32_or_nat _ _ x.isLt y.isLt, BitVec.toNat_or]
theorem xor32 (x y : BitVec 32) : bits .xor .u32 (x.toNat : Int) (y.toNat : Int) = ((x ^^^ y).toNat : Int) := by
  rw [u32_xor_nat _ _ x.isLt y.isLt, BitVec.toNat_xor]
theorem and32 (x y : BitVec 32) : bits .and .u32 (x.toNat : Int) (y.toNat : Int) = ((x &&& y).toNat : Int) := by
  rw [u32_and_nat _ _ x.isLt y.isLt, BitVec.toNat_and]
theorem rotl32 (x : BitVec 32) (k : Nat) (hk : k < 32) : bits .or .u32 ((x.toNat : Int) * 2 ^ k % 4294967296) ((x.toNat : Int) / 2 ^ (32 - k)) = ((x.rotateLeft k).toNat : Int) := by
  rw [shl32, shr32, or32, BitVec.rotateLeft_def, Nat.mod_eq_of_lt hk]
theorem rotr32 (x : BitVec 32) (k : Nat) (hk : k < 32) : bits .or .u32 ((x.toNat : Int) / 2 ^ k) ((x.toNat : Int) * 2 ^ (32 - k) % 4294967296) = ((x.rotateRight k).toNat : Int) := by
  rw [shl32, shr32, or32, BitVec.rotateRight_def, Nat.mod_eq_of_lt hk]
theorem shl64 (x : BitVec 64) (k : Nat) : (x.toNat : Int) * 2 ^ k % 18446744073709551616 = ((x <<< k).toNat : Int) := by
  rw [BitVec.toNat_shiftLeft, Nat.shiftLeft_eq, pow_cast, Int.natCast_emod, Int.natCast_mul]
  rfl
theorem shr64 (x : BitVec 64) (k : Nat) : (x.toNat : Int) / 2 ^ k = ((x >>> k).toNat : Int) := by
  rw [BitVec.toNat_ushiftRight, Nat.shiftRight_eq_div_pow, pow_cast, Int.natCast_ediv]
theorem or64 (x y : BitVec 64) : bits .or .u64 (x.toNat : Int) (y.toNat : Int) = ((x ||| y).toNat : Int) := by
  rw [u64_or_nat _ _ x.isLt y.isLt, BitVec.toNat_or]
theorem xor64 (x y : BitVec 64) : bits .xor .u64 (x.toNat : Int) (y.toNat : Int) = ((x ^^^ y).toNat : Int) := by
  rw [u64_xor_nat _ _ x.isLt y.isLt, BitVec.toNat_xor]
theorem and64 (x y : BitVec 64) : bits .and .u64 (x.toNat : Int) (y.toNat : Int) = ((x &&& y).toNat : Int) := by
  rw [u64_and_nat _ _ x.isLt y.isLt, BitVec.toNat_and]
theorem rotl64 (x : BitVec 64) (k : Nat) (hk : k < 64) : bits .or .u64 ((x.toNat : Int) * 2 ^ k % 18446744073709551616) ((x.toNat : Int) / 2 ^ (64 - k)) = ((x.rotateLeft k).toNat : Int) := by
  rw [shl64, shr64, or64, BitVec.rotateLeft_def, Nat.mod_eq_of_lt hk]
theorem rotr64 (x : BitVec 64) (k : Nat) (hk : k < 64) : bits .or .u64 ((x.toNat : Int) / 2 ^ k) ((x.toNat : Int) * 2 ^ (64 - k) % 18446744073709551616) = ((x.rotateRight k).toNat : Int) := by
  rw [shl64, shr64, or64, BitVec.rotateRight_def, Nat.mod_eq_of_lt hk]
/-- A word's bits up to the i-th, each laid n places on, round in so many places. -/
def turnedTo (x : BitVec 64) (W n : Nat) : Nat → BitVec 64
  | 0 => 0#64
  | i + 1 => turnedTo x W n i + if x.getLsbD i then BitVec.twoPow 64 ((i + n) % W) else 0#64
theorem mod_apart (W n a i : Nat) (h1 : a < i) (h2 : i < W) : (a + n) % W ≠ (i + n) % W := by
  intro h
  have h3 := Nat.sub_mod_eq_zero_of_mod_eq h.symm
  rw [Nat.add_sub_add_right, Nat.mod_eq_of_lt (by omega)] at h3
  omega
theorem turnedTo_bit (x : BitVec 64) (W n : Nat) (hW : 0 < W) (hW' : W ≤ 64) : ∀ i, i ≤ W → ∀ j, (turnedTo x W n i).getLsbD j = decide (∃ a, a < i ∧ x.getLsbD a = true ∧ (a + n) % W = j) := by
  intro i
  induction i with
  | zero => intro _ j; simp [turnedTo]
  | succ i ih =>
    intro hi j
    have ih := ih (by omega)
    by_cases hb : x.getLsbD i = true
    · have he : (i + n) % W < W := Nat.mod_lt _ hW
      have hz : turnedTo x W n i &&& BitVec.twoPow 64 ((i + n) % W) = 0#64 := by
        apply BitVec.eq_of_getLsbD_eq
        intro j hj
        rw [BitVec.getLsbD_and, ih, BitVec.getLsbD_twoPow, BitVec.getLsbD_zero]
        by_cases hj2 : (i + n) % W = j
        · rw [decide_eq_false (p := ∃ a, _) (by rintro ⟨a, h1, _, h3⟩; exact mod_apart W n a i h1 (by omega) (h3.trans hj2.symm))]; rfl
        · simp [hj2]
      simp only [turnedTo, hb, if_true]
      rw [BitVec.add_eq_or_of_and_eq_zero _ _ hz, BitVec.getLsbD_or, ih, BitVec.getLsbD_twoPow, Bool.eq_iff_iff]
      simp only [Bool.or_eq_true, decide_eq_true_eq, Bool.and_eq_true]
      constructor
      · rintro (⟨a, h1, h2, h3⟩ | ⟨_, h⟩)
        · exact ⟨a, by omega, h2, h3⟩
        · exact ⟨i, by omega, hb, h⟩
      · rintro ⟨a, h1, h2, h3⟩
        by_cases e : a = i
        · subst e; exact .inr ⟨by omega, h3⟩
        · exact .inl ⟨a, by omega, h2, h3⟩
    · have hb' : x.getLsbD i = false := by simpa using hb
      simp only [turnedTo, hb', Bool.false_eq_true, if_false, BitVec.add_zero]
      rw [ih, Bool.eq_iff_iff]
      simp only [decide_eq_true_eq]
      constructor
      · rintro ⟨a, h1, h2, h3⟩; exact ⟨a, by omega, h2, h3⟩
      · rintro ⟨a, h1, h2, h3⟩
        by_cases e : a = i
        · subst e; rw [hb'] at h2; cases h2
        · exact ⟨a, by omega, h2, h3⟩
theorem rl_bit32 (x : BitVec 32) (r j : Nat) (hj : j < 32) : (x.rotateLeft r).getLsbD j = x.getLsbD ((j + (32 - r % 32)) % 32) := by
  rw [BitVec.getLsbD_rotateLeft]
  by_cases h : j < r % 32
  · rw [decide_eq_true h, cond_true]; congr 1; omega
  · rw [decide_eq_false h, cond_false, decide_eq_true hj, Bool.true_and]; congr 1; omega
theorem rr_bit32 (x : BitVec 32) (r j : Nat) (hj : j < 32) : (x.rotateRight r).getLsbD j = x.getLsbD ((j + r) % 32) := by
  rw [BitVec.getLsbD_rotateRight]
  by_cases h : j < 32 - r % 32
  · rw [decide_eq_true h, cond_true]; congr 1; omega
  · rw [decide_eq_false h, cond_false, decide_eq_true hj, Bool.true_and]; congr 1; omega
theorem rl_rl32 (x : BitVec 32) (a b c : Nat) (h : (a + b) % 32 = c % 32) : (x.rotateLeft a).rotateLeft b = x.rotateLeft c := by
  apply BitVec.eq_of_getLsbD_eq
  intro j hj
  rw [rl_bit32 _ _ _ hj, rl_bit32 _ _ _ (Nat.mod_lt _ (by decide)), rl_bit32 _ _ _ hj]
  congr 1; omega
theorem rr_rr32 (x : BitVec 32) (a b c : Nat) (h : (a + b) % 32 = c % 32) : (x.rotateRight a).rotateRight b = x.rotateRight c := by
  apply BitVec.eq_of_getLsbD_eq
  intro j hj
  rw [rr_bit32 _ _ _ hj, rr_bit32 _ _ _ (Nat.mod_lt _ (by decide)), rr_bit32 _ _ _ hj]
  congr 1; omega
theorem rr_rl32 (x : BitVec 32) (a b : Nat) (h : (a + b) % 32 = 0) : x.rotateRight a = x.rotateLeft b := by
  apply BitVec.eq_of_getLsbD_eq
  intro j hj
  rw [rr_bit32 _ _ _ hj, rl_bit32 _ _ _ hj]
  congr 1; omega
theorem rl_032 (x : BitVec 32) (a : Nat) (h : a % 32 = 0) : x.rotateLeft a = x := by
  apply BitVec.eq_of_getLsbD_eq
  intro j hj
  rw [rl_bit32 _ _ _ hj]
  congr 1; omega
theorem rl_bit64 (x : BitVec 64) (r j : Nat) (hj : j < 64) : (x.rotateLeft r).getLsbD j = x.getLsbD ((j + (64 - r % 64)) % 64) := by
  rw [BitVec.getLsbD_rotateLeft]
  by_cases h : j < r % 64
  · rw [decide_eq_true h, cond_true]; congr 1; omega
  · rw [decide_eq_false h, cond_false, decide_eq_true hj, Bool.true_and]; congr 1; omega
theorem rr_bit64 (x : BitVec 64) (r j : Nat) (hj : j < 64) : (x.rotateRight r).getLsbD j = x.getLsbD ((j + r) % 64) := by
  rw [BitVec.getLsbD_rotateRight]
  by_cases h : j < 64 - r % 64
  · rw [decide_eq_true h, cond_true]; congr 1; omega
  · rw [decide_eq_false h, cond_false, decide_eq_true hj, Bool.true_and]; congr 1; omega
theorem rl_rl64 (x : BitVec 64) (a b c : Nat) (h : (a + b) % 64 = c % 64) : (x.rotateLeft a).rotateLeft b = x.rotateLeft c := by
  apply BitVec.eq_of_getLsbD_eq
  intro j hj
  rw [rl_bit64 _ _ _ hj, rl_bit64 _ _ _ (Nat.mod_lt _ (by decide)), rl_bit64 _ _ _ hj]
  congr 1; omega
theorem rr_rr64 (x : BitVec 64) (a b c : Nat) (h : (a + b) % 64 = c % 64) : (x.rotateRight a).rotateRight b = x.rotateRight c := by
  apply BitVec.eq_of_getLsbD_eq
  intro j hj
  rw [rr_bit64 _ _ _ hj, rr_bit64 _ _ _ (Nat.mod_lt _ (by decide)), rr_bit64 _ _ _ hj]
  congr 1; omega
theorem rr_rl64 (x : BitVec 64) (a b : Nat) (h : (a + b) % 64 = 0) : x.rotateRight a = x.rotateLeft b := by
  apply BitVec.eq_of_getLsbD_eq
  intro j hj
  rw [rr_bit64 _ _ _ hj, rl_bit64 _ _ _ hj]
  congr 1; omega
theorem rl_064 (x : BitVec 64) (a : Nat) (h : a % 64 = 0) : x.rotateLeft a = x := by
  apply BitVec.eq_of_getLsbD_eq
  intro j hj
  rw [rl_bit64 _ _ _ hj]
  congr 1; omega
theorem turned32 (x : BitVec 32) (k : Nat) : turnedTo (x.setWidth 64) 32 k 32 = (x.rotateLeft k).setWidth 64 := by
  apply BitVec.eq_of_getLsbD_eq
  intro j hj
  rw [turnedTo_bit _ _ _ (by decide) (by decide) _ (Nat.le_refl _), BitVec.getLsbD_setWidth, Bool.eq_iff_iff]
  simp only [decide_eq_true_eq, Bool.and_eq_true, BitVec.getLsbD_setWidth]
  by_cases hj2 : j < 32
  · rw [rl_bit32 _ _ _ hj2]
    constructor
    · rintro ⟨a, h1, ⟨_, h2⟩, h3⟩
      have : (j + (32 - k % 32)) % 32 = a := by omega
      exact ⟨hj, by rw [this]; exact h2⟩
    · rintro ⟨_, h⟩
      exact ⟨_, Nat.mod_lt _ (by decide), ⟨by omega, h⟩, by omega⟩
  · constructor
    · rintro ⟨a, _, _, h3⟩; omega
    · rintro ⟨_, h⟩; rw [BitVec.getLsbD_of_ge _ _ (by omega)] at h; cases h
theorem turned64 (x : BitVec 64) (k : Nat) : turnedTo x 64 k 64 = x.rotateLeft k := by
  apply BitVec.eq_of_getLsbD_eq
  intro j hj
  rw [turnedTo_bit _ _ _ (by decide) (by decide) _ (Nat.le_refl _), rl_bit64 _ _ _ hj, Bool.eq_iff_iff]
  simp only [decide_eq_true_eq]
  constructor
  · rintro ⟨a, h1, h2, h3⟩
    have : (j + (64 - k % 64)) % 64 = a := by omega
    rw [this]; exact h2
  · intro h
    exact ⟨_, Nat.mod_lt _ (by decide), h, by omega⟩
theorem bit_and1 (x : BitVec 64) (k : Nat) : bits .and .u64 ((x.toNat : Int) / 2 ^ k) 1 = if x.getLsbD k then 1 else 0 := by
  have h1 : x.toNat / 2 ^ k ≤ x.toNat := Nat.div_le_self _ _
  have h2 := x.isLt
  rw [pow_cast, ← Int.natCast_ediv, show (1 : Int) = ((1 : Nat) : Int) from rfl, u64_and_nat _ _ (by omega) (by omega), nat_mask1, ← BitVec.testBit_toNat, Nat.testBit_eq_decide_div_mod_eq]
  have := Nat.mod_two_eq_zero_or_one (x.toNat / 2 ^ k)
  rcases this with h | h <;> rw [h] <;> simp
theorem turned_yes (x : BitVec 64) (W n k : Nat) (hW : 0 < W) (hW' : W ≤ 64) (h : (bits .and .u64 ((x.toNat : Int) / 2 ^ k) 1 == 1) = true) :
    IntKind.u64.wrap (((turnedTo x W n k).toNat : Int) + IntKind.u64.wrap (2 ^ min (IntKind.u64.wrap (((k : Int) + n) % W)).toNat 64)) = ((turnedTo x W n (k + 1)).toNat : Int) := by
  have hb : x.getLsbD k = true := by
    rw [bit_and1] at h
    cases hx : x.getLsbD k <;> simp [hx] at h ⊢
  have he : (k + n) % W < W := Nat.mod_lt _ hW
  have e1 : (IntKind.u64.wrap (((k : Int) + n) % W)).toNat = (k + n) % W := by
    rw [IntKind.wrap_u64, ← Int.natCast_add, ← Int.natCast_emod]; omega
  have hpl : 2 ^ ((k + n) % W) < 2 ^ 64 := Nat.pow_lt_pow_right (by decide) (by omega)
  simp only [turnedTo, hb, if_true]
  rw [e1, Nat.min_eq_left (by omega), BitVec.toNat_add, BitVec.toNat_twoPow, Nat.mod_eq_of_lt (a := 2 ^ _) hpl, pow_cast, IntKind.wrap_u64, IntKind.wrap_u64]
  generalize 2 ^ ((k + n) % W) = q at *
  have := (turnedTo x W n k).isLt
  generalize (turnedTo x W n k).toNat = r at *
  omega
theorem turned_no (x : BitVec 64) (W n k : Nat) (h : (bits .and .u64 ((x.toNat : Int) / 2 ^ k) 1 == 1) = false) : turnedTo x W n (k + 1) = turnedTo x W n k := by
  have hb : x.getLsbD k = false := by
    rw [bit_and1] at h
    cases hx : x.getLsbD k <;> simp [hx] at h ⊢
  simp [turnedTo, hb]
theorem tmod_cases (n : Int) (m : Nat) (hm : 0 < m) : (n.tmod m < 0 → n.tmod m + m = n % m) ∧ (0 ≤ n.tmod m → n.tmod m = n % m) := by
  have hp := Int.emod_nonneg n (b := m) (by omega)
  have hq := Int.emod_lt_of_pos n (b := m) (by omega)
  have hd := @Int.tmod_eq_emod n m
  by_cases c : 0 ≤ n ∨ (m : Int) ∣ n
  · rw [if_pos c] at hd
    exact ⟨fun h => by omega, fun _ => by omega⟩
  · rw [if_neg c] at hd
    exact ⟨fun _ => by omega, fun h => by omega⟩
/-- A word turned to the left (to the right) by any number of bits; by a number from 0 on. (Named, so that a walk leaves them whole.) -/
def rotL32 (x : BitVec 32) (n : Int) : BitVec 32 := x.rotateLeft (n % 32).toNat
def rotR32 (x : BitVec 32) (n : Int) : BitVec 32 := x.rotateRight (n % 32).toNat
def rotR64 (x : BitVec 64) (n : Int) : BitVec 64 := x.rotateRight (n % 64).toNat
def rotTo32 (x : BitVec 32) (n : Int) : BitVec 32 := x.rotateLeft n.toNat
def rotTo64 (x : BitVec 64) (n : Int) : BitVec 64 := x.rotateLeft n.toNat
theorem rotTo_left (x : BitVec 32) (n : Int) : rotTo32 x (n % 32) = rotL32 x n := rfl
theorem rotTo_right (x : BitVec 32) (n : Int) : rotTo32 x (32 - n % 32) = rotR32 x n := (rr_rl32 x _ _ (by omega)).symm
theorem rotTo_right64 (x : BitVec 64) (n : Int) : rotTo64 x (64 - n % 64) = rotR64 x n := (rr_rl64 x _ _ (by omega)).symm
theorem rotR_rotL (x : BitVec 32) (n : Int) : rotR32 (rotL32 x n) n = x := by
  unfold rotR32 rotL32
  rw [rr_rl32 _ (n % 32).toNat (32 - (n % 32).toNat) (by omega), rl_rl32 _ _ _ 0 (by omega), rl_032 _ _ (by omega)]
theorem rotL_rotR (x : BitVec 32) (n : Int) : rotL32 (rotR32 x n) n = x := by
  unfold rotR32 rotL32
  rw [rr_rl32 _ (n % 32).toNat (32 - (n % 32).toNat) (by omega), rl_rl32 _ _ _ 0 (by omega), rl_032 _ _ (by omega)]
theorem rotL_rotL (x : BitVec 32) (a b : Int) : rotL32 (rotL32 x a) b = rotL32 x (a + b) := rl_rl32 _ _ _ _ (by omega)
theorem rotR_rotR64 (x : BitVec 64) (a b : Int) : rotR64 (rotR64 x a) b = rotR64 x (a + b) := rr_rr64 _ _ _ _ (by omega)
theorem rotL_32 (x : BitVec 32) : rotL32 x 32 = x := rl_032 _ _ (by decide)
theorem rotR_64 (x : BitVec 64) : rotR64 x 64 = x := by
  unfold rotR64
  rw [rr_rl64 _ _ 0 (by decide), rl_064 _ _ (by decide)]
theorem rotR_rotL_neg (x : BitVec 32) (a : Int) : rotR32 x a = rotL32 x (-a) := rr_rl32 _ _ _ (by omega)
end Go.Proofs.YtiadgningbogmaaDoor
