/- Part 2 of what the laws of this seat share: WPut, PMath2, OMath, WCells, WCopy. -/
import Derived.Deep.MidRow
import Derived.StillTailTactics
import Derived.Laws.CopyOwn
import Derived.Test.YtiadgningbogmaaDoorPart1
namespace Go.Proofs.YtiadgningbogmaaDoor
open Go.RowKit
/-- A number's i-th byte from the low end; its k low bytes, the low one first. -/
def byteAt (x i : Nat) : UInt8 := UInt8.ofNat (x / 256 ^ i)
def putL (x k : Nat) : List UInt8 := (List.range k).map (byteAt x)
theorem putL_length (x k : Nat) : (putL x k).length = k := by simp [putL]
theorem putL_succ (x k : Nat) : putL x (k + 1) = putL x k ++ [byteAt x k] := by simp [putL, List.range_succ]
theorem pow_8 (i : Nat) : 2 ^ (8 * i) = 256 ^ i := by rw [Nat.pow_mul]
theorem byte_shr (x i : Nat) : (x : Int) / 2 ^ (8 * i) % 256 = ((byteAt x i).toNat : Int) := by
  rw [pow_cast, pow_8, ← Int.natCast_ediv, byteAt, UInt8.toNat_ofNat']
  omega
theorem byte_mod (x i : Nat) : ((x / 256 ^ i : Nat) : Int) % 256 = ((byteAt x i).toNat : Int) := by
  rw [byteAt, UInt8.toNat_ofNat']
  omega
theorem bigN_fold (l : List UInt8) : ∀ a : Nat, l.foldl (fun x b => x * 256 + b.toNat) a = a * 256 ^ l.length + bigN l := by
  induction l with
  | nil => intro a; simp [bigN]
  | cons u l ih =>
    intro a
    rw [List.foldl_cons, ih, show bigN (u :: l) = (u :: l).foldl (fun x b => x * 256 + b.toNat) 0 from rfl, List.foldl_cons, ih, List.length_cons, Nat.pow_succ, Nat.add_mul, Nat.zero_mul, Nat.zero_add, Nat.mul_assoc, Nat.mul_comm 256, Nat.add_assoc]
theorem bigN_cons (u : UInt8) (l : List UInt8) : bigN (u :: l) = u.toNat * 256 ^ l.length + bigN l := by
  rw [show bigN (u :: l) = (u :: l).foldl (fun x b => x * 256 + b.toNat) 0 from rfl, List.foldl_cons, bigN_fold, Nat.zero_mul, Nat.zero_add]
theorem refbig_round (l : List UInt8) (k : Nat) (hk : k < l.length) (hn : l.length ≤ 8) :
    IntKind.u64.wrap (IntKind.u64.wrap ((bigN (l.take k) : Int) * 256) + IntKind.u64.wrap (l[k].toNat : Int)) = (bigN (l.take (k + 1)) : Int) := by
  have h1 := bigN_lt (l.take k)
  have h2 : 256 ^ (l.take k).length ≤ 256 ^ 7 := pow256_le (by rw [List.length_take]; omega)
  have h3 := l[k].toNat_lt
  rw [take_snoc l k hk, bigN_snoc]
  generalize bigN (l.take k) = a at *
  generalize l[k].toNat = u at *
  rw [IntKind.wrap_u64, IntKind.wrap_u64, IntKind.wrap_u64]
  omega
theorem little_round (l : List UInt8) (k : Nat) (hk : k < l.length) (hn : l.length ≤ 8) :
    bits .or .u64 (bigN (l.take k).reverse : Int) (IntKind.u64.wrap (IntKind.u64.wrap (l[k].toNat : Int) * 2 ^ (8 * k))) = (bigN (l.take (k + 1)).reverse : Int) := by
  have h1 := bigN_lt (l.take k).reverse
  have hlk : (l.take k).reverse.length = k := by rw [List.length_reverse, List.length_take]; omega
  have h3 := l[k].toNat_lt
  rw [take_snoc l k hk, List.reverse_append, List.reverse_singleton, List.singleton_append, bigN_cons, hlk]
  rw [hlk] at h1
  have hp : 256 ^ k ≤ 256 ^ 7 := pow256_le (by omega)
  generalize bigN (l.take k).reverse = a at *
  generalize l[k].toNat = u at *
  have hu : u * 256 ^ k ≤ 255 * 256 ^ k := Nat.mul_le_mul_right _ (by omega)
  have e : IntKind.u64.wrap (IntKind.u64.wrap (u : Int) * 2 ^ (8 * k)) = ((u * 256 ^ k : Nat) : Int) := by
    rw [IntKind.wrap_u64, IntKind.wrap_u64, show (u : Int) % 18446744073709551616 = (u : Int) by omega, pow_cast, pow_8, ← Int.natCast_mul]
    omega
  rw [e, u64_or_nat _ _ (by omega) (by omega), Nat.or_comm, nat_join (8 * k) _ _ (by rw [pow_8]; exact Nat.mul_mod_left _ _) (by rw [pow_8]; exact h1)]
/-- The high bytes of n, k of them, the high one first. -/
def putB (x n k : Nat) : List UInt8 := (List.range k).map fun i => byteAt x (n - 1 - i)
theorem putB_length (x n k : Nat) : (putB x n k).length = k := by simp [putB]
theorem putB_succ (x n k : Nat) : putB x n (k + 1) = putB x n k ++ [byteAt x (n - 1 - k)] := by simp [putB, List.range_succ]
theorem putB_rev (x n : Nat) : putB x n n = (putL x n).reverse := by
  refine List.ext_getElem (by simp [putB, putL]) fun i h1 h2 => ?_
  simp [putB, putL]
theorem little_few (A : Option Addr) (c n : Nat) (bs : List UInt8) (w : World) (hl : bs.length = n) (hr : Row w w.heap.size A bs) (hn : n ≤ 8) :
    Calls Tryd.prog 22 #[.slice A n c] w fun e w' => e = .returned (.tuple #[.int .u64 (bigN bs.reverse : Int), .nilIface]) ∧ w = w' := by
  subst hl
  go_enter Tryd.func22, Tryd.ntmps22
  go_wp2
  go_loop [4, 5, 6, 13] (fun x _ _ i => ∃ k : Nat, k ≤ bs.length ∧ i = .int .i64 k ∧ x = .int .u64 (bigN (bs.take k).reverse : Int)) (fun _ _ _ i => bs.length - (intOf i).toNat)
  case atStart => exact ⟨0, Nat.zero_le _, rfl, rfl⟩
  case round =>
    obtain ⟨k, hk, rfl, rfl⟩ := hrel
    by_cases hlt : k < bs.length
    · obtain ⟨b, off, rfl, hb, hc⟩ := hr.at k hlt
      go_wp2
      go_round
      case rel => exact ⟨k + 1, by omega, by go_num, by rw [little_round bs k hlt hn]⟩
      case measure => simp [intOf]; omega
    · go_wp2
      go_ret2
      exact ⟨by rw [List.take_of_length_le (by omega)]; rfl, rfl⟩
theorem little_long (A : Option Addr) (c n : Nat) (E : Value) (w : World) (hn : 8 < n) (hE : w.cell? ⟨0, 0, none⟩ = some E) :
    Calls Tryd.prog 22 #[.slice A n c] w fun e w' => e = .returned (.tuple #[.int .u64 0, E]) ∧ ∃ n, w' = w.drewN n := by
  have h : (8 : Int) < (n : Int) := by omega
  go_enter Tryd.func22, Tryd.ntmps22
  go_wp2
  go_quiet (fail)
  go_wp2
  go_ret2
  exact ⟨rfl, _, rfl⟩
theorem set_before (l : List UInt8) (m : Nat) (u : UInt8) : (List.replicate (m + 1) 0 ++ l).set m u = List.replicate m 0 ++ u :: l := by
  rw [List.replicate_succ', List.append_assoc, List.set_append_right _ _ (by simp)]
  simp
end Go.Proofs.YtiadgningbogmaaDoor
namespace Go.Proofs.YtiadgningbogmaaDoor
open Go.RowKit
/-- The number of a row of bytes, the low one first. -/
def lev (bs : List UInt8) : Nat := dval (bs.map (·.toNat))
theorem lev_digits (bs : List UInt8) : ∀ x ∈ bs.map (·.toNat), x < 256 := by
  intro x hx
  obtain ⟨u, _, rfl⟩ := List.mem_map.1 hx
  exact u.toNat_lt
theorem lev_lt (bs : List UInt8) : lev bs < 256 ^ bs.length := by
  have h := dval_lt _ (lev_digits bs)
  rwa [List.length_map] at h
theorem lev_append (a b : List UInt8) : lev (a ++ b) = lev a + 256 ^ a.length * lev b := by
  unfold lev
  rw [List.map_append, dval_append, List.length_map]
/-- A row of bytes as digits, its noughts at the high end struck. -/
theorem lev_digs (bs : List UInt8) : dtrim (bs.map (·.toNat)) = digs (lev bs) := dtrim_digs _ (lev_digits bs)
/-- The key's first half, clamped. -/
def polyClamp (k : List UInt8) : List UInt8 := [4, 8, 12].foldl (fun k i => k.set i (k.getD i 0 / 4 * 4)) ([3, 7, 11, 15].foldl (fun k i => k.set i (k.getD i 0 % 16)) k)
theorem polyClamp_length (k : List UInt8) : (polyClamp k).length = k.length := by simp [polyClamp]
def polyR (key : List UInt8) : Nat := lev (polyClamp (key.take 16))
def polyS (key : List UInt8) : Nat := lev (key.drop 16)
/-- The number behind n blocks. -/
def polyH (r : Nat) (bs : List UInt8) : Nat → Nat
  | 0 => 0
  | n + 1 => (polyH r bs n + lev ((bs.drop (16 * n)).take 16 ++ [1])) * r % polyP
theorem polyH_lt (r : Nat) (bs : List UInt8) (n : Nat) : polyH r bs n < polyP := by
  cases n with
  | zero => show 0 < polyP; decide
  | succ n => exact Nat.mod_lt _ (by decide)
/-- The code. -/
def polySum (key bs : List UInt8) : List UInt8 := putL (polyH (polyR key) bs ((bs.length + 15) / 16) + polyS key) 16
theorem polySum_length (key bs : List UInt8) : (polySum key bs).length = 16 := putL_length _ _
/-- A number's k low bytes are that number, modulo 256^k. -/
theorem lev_putL (x : Nat) : ∀ k, lev (putL x k) = x % 256 ^ k
  | 0 => by rw [Nat.pow_zero, Nat.mod_one]; rfl
  | k + 1 => by
    rw [putL_succ, lev_append, lev_putL x k, putL_length]
    have e : lev [byteAt x k] = x / 256 ^ k % 256 := by
      simp [lev, dval, byteAt]
    rw [e, Nat.pow_succ, Nat.mod_mul]
theorem dval_take_mod (a : List Nat) (h : ∀ x ∈ a, x < 256) (k : Nat) (hk : k ≤ a.length) : dval (a.take k) = dval a % 256 ^ k := by
  have e : dval a = dval (a.take k) + 256 ^ k * dval (a.drop k) := by
    conv => lhs; rw [← List.take_append_drop k a]
    rw [dval_append, List.length_take, Nat.min_eq_left hk]
  have h1 := dval_lt (a.take k) (fun x hx => h x (List.mem_of_mem_take hx))
  rw [List.length_take, Nat.min_eq_left hk] at h1
  rw [e, Nat.add_mul_mod_self_left, Nat.mod_eq_of_lt h1]
/- Two rows added digit by digit, with what is carried. -/
theorem carry_step (a b : List Nat) (i : Nat) (ha : i < a.length) (hb : i < b.length) : (dval (a.take i) + dval (b.take i)) / 256 ^ i + (a[i] + b[i]) = (dval (a.take (i + 1)) + dval (b.take (i + 1))) / 256 ^ i := by
  rw [dval_take a i ha, dval_take b i hb]
  have e : dval (a.take i) + 256 ^ i * a[i] + (dval (b.take i) + 256 ^ i * b[i]) = dval (a.take i) + dval (b.take i) + 256 ^ i * (a[i] + b[i]) := by
    rw [Nat.mul_add]; omega
  rw [e, Nat.add_mul_div_left _ _ (Nat.pow_pos (by omega))]
theorem carry_next (n i : Nat) : n / 256 ^ i / 256 = n / 256 ^ (i + 1) := by rw [Nat.div_div_eq_div_mul, Nat.pow_succ]
/-- The digit that comes out is the sum's own. -/
theorem carry_digit (a b : List Nat) (i : Nat) (ha : i < a.length) (hb : i < b.length) (la : ∀ x ∈ a, x < 256) (lb : ∀ x ∈ b, x < 256) : (dval (a.take (i + 1)) + dval (b.take (i + 1))) / 256 ^ i % 256 = (dval a + dval b) / 256 ^ i % 256 := by
  rw [dval_take_mod a la (i + 1) ha, dval_take_mod b lb (i + 1) hb]
  have key : ∀ u v : Nat, (u % 256 ^ (i + 1) + v % 256 ^ (i + 1)) / 256 ^ i % 256 = (u + v) / 256 ^ i % 256 := by
    intro u v
    have hm : ∀ z : Nat, z / 256 ^ i % 256 = z % 256 ^ (i + 1) / 256 ^ i := by
      intro z
      rw [Nat.pow_succ, Nat.mod_mul_right_div_self]
    rw [hm, hm, ← Nat.add_mod]
  exact key _ _
/-- Sums that are the same modulo 256^n have the same lower n digits. -/
theorem digit_same (u v n i : Nat) (hi : i < n) (h : u % 256 ^ n = v % 256 ^ n) : u / 256 ^ i % 256 = v / 256 ^ i % 256 := by
  have hm : ∀ z : Nat, z / 256 ^ i % 256 = z % 256 ^ n / 256 ^ i % 256 := by
    intro z
    obtain ⟨d, rfl⟩ : ∃ d, n = i + (d + 1) := ⟨n - i - 1, by omega⟩
    rw [Nat.pow_add, Nat.mod_mul_right_div_self, Nat.pow_succ, Nat.mod_mul_left_mod]
  rw [hm u, hm v, h]
/-- By another end of the key the codes are apart by as much as the ends are. -/
theorem polySum_apart (a b bs : List UInt8) (h : polyR a = polyR b) : (lev (polySum a bs) + polyS b) % 256 ^ 16 = (lev (polySum b bs) + polyS a) % 256 ^ 16 := by
  unfold polySum
  rw [lev_putL, lev_putL, h, Nat.mod_add_mod, Nat.mod_add_mod]
  congr 1
  omega
end Go.Proofs.YtiadgningbogmaaDoor
namespace Go.Proofs.YtiadgningbogmaaDoor
open Go.RowKit
/-- The number of a row of limbs (which may be 2^26 and above). -/
def lval : List Nat → Nat
  | [] => 0
  | x :: l => x + 67108864 * lval l
theorem lval_five (a b c d e : Nat) : lval [a, b, c, d, e] = a + 67108864 * (b + 67108864 * (c + 67108864 * (d + 67108864 * (e + 67108864 * 0)))) := rfl
/-- A number's five limbs. -/
def limbsOf (x : Nat) : List Nat := [x % 67108864, x / 67108864 % 67108864, x / 4503599627370496 % 67108864, x / 302231454903657293676544 % 67108864, x / 20282409603651670423947251286016 % 67108864]
theorem limbsOf_length (x : Nat) : (limbsOf x).length = 5 := rfl
theorem lval_limbsOf (x : Nat) (h : x < 1361129467683753853853498429727072845824) : lval (limbsOf x) = x := by
  rw [limbsOf, lval_five]
  omega
theorem five_of {α : Type} (n : List α) (h : n.length = 5) : ∃ a b c d e, n = [a, b, c, d, e] := by
  match n, h with
  | [a, b, c, d, e], _ => exact ⟨a, b, c, d, e, rfl⟩
/-- Sums and products of words of 64 bits. -/
def addW (x y : Nat) : Nat := (x + y) % 18446744073709551616
def mulW (x y : Nat) : Nat := (x * y) % 18446744073709551616
theorem addW_in (x y : Nat) (h : x + y < 18446744073709551616) : addW x y = x + y := Nat.mod_eq_of_lt h
theorem mulW_in (x y : Nat) (h : x * y < 18446744073709551616) : mulW x y = x * y := Nat.mod_eq_of_lt h
theorem mulW_lt (x y a b : Nat) (hx : x < a) (hy : y < b) (h : a * b ≤ 18446744073709551616) : mulW x y = x * y := by
  refine mulW_in _ _ (Nat.lt_of_lt_of_le ?_ h)
  rcases Nat.eq_zero_or_pos y with rfl | hp
  · exact Nat.mul_pos (by omega) (by omega)
  · exact Nat.mul_lt_mul'' hx hy
/-- Two numbers, limb by limb. -/
def plusTo (a b : List Nat) : Nat → List Nat
  | 0 => a
  | k + 1 => (plusTo a b k).set k (addW ((plusTo a b k).getD k 0) (b.getD k 0))
theorem plusTo_length (a b : List Nat) : ∀ k, (plusTo a b k).length = a.length
  | 0 => rfl
  | k + 1 => by rw [plusTo, List.length_set, plusTo_length]
def plusN (a b : List Nat) : List Nat := plusTo a b 5
theorem plusN_length (a b : List Nat) : (plusN a b).length = a.length := plusTo_length a b 5
/-- Carries. -/
def carTo (n : List Nat) : Nat → List Nat × Nat
  | 0 => (n, 0)
  | k + 1 => ((carTo n k).1.set k (addW ((carTo n k).1.getD k 0) (carTo n k).2 % 67108864), addW ((carTo n k).1.getD k 0) (carTo n k).2 / 67108864)
theorem carTo_length (n : List Nat) : ∀ k, (carTo n k).1.length = n.length
  | 0 => rfl
  | k + 1 => by rw [carTo, List.length_set, carTo_length]
def carN (n : List Nat) : List Nat := (carTo n 5).1
def overN (n : List Nat) : Nat := (carTo n 5).2
theorem carN_length (n : List Nat) : (carN n).length = n.length := carTo_length n 5
def foldN (n : List Nat) : List Nat := (carN n).set 0 (addW ((carN n).getD 0 0) (mulW 5 (overN n)))
theorem foldN_length (n : List Nat) : (foldN n).length = n.length := by rw [foldN, List.length_set, carN_length]
def moreN (n : List Nat) : List Nat := n.set 0 (addW (n.getD 0 0) 5)
def lessN (n : List Nat) : List Nat := n.set 0 (addW (n.getD 0 0) (mulW 5 (overN (moreN n))))
def leastN (n : List Nat) : List Nat := carN (lessN n)
theorem leastN_length (n : List Nat) : (leastN n).length = n.length := by rw [leastN, carN_length, lessN, List.length_set]
/-- Products, limb by limb: i and j. -/
def mulPart (a b : List Nat) (i j : Nat) : Nat := if 5 ≤ i + j then mulW (mulW (a.getD i 0) (b.getD j 0)) 5 else mulW (a.getD i 0) (b.getD j 0)
def mulRow (a b : List Nat) (i : Nat) (s : List Nat) : Nat → List Nat
  | 0 => s
  | j + 1 => (mulRow a b i s j).set ((i + j) % 5) (addW ((mulRow a b i s j).getD ((i + j) % 5) 0) (mulPart a b i j))
theorem mulRow_length (a b : List Nat) (i : Nat) (s : List Nat) : ∀ j, (mulRow a b i s j).length = s.length
  | 0 => rfl
  | j + 1 => by rw [mulRow, List.length_set, mulRow_length]
def mulTo (a b : List Nat) : Nat → List Nat
  | 0 => [0, 0, 0, 0, 0]
  | i + 1 => mulRow a b i (mulTo a b i) 5
theorem mulTo_length (a b : List Nat) : ∀ i, (mulTo a b i).length = 5
  | 0 => rfl
  | i + 1 => by rw [mulTo, mulRow_length, mulTo_length]
def timesN (a b : List Nat) : List Nat := foldN (foldN (mulTo a b 5))
theorem timesN_length (a b : List Nat) : (timesN a b).length = 5 := by rw [timesN, foldN_length, foldN_length, mulTo_length]
/-- Limbs below their bound. -/
def Below5 (B : Nat) (n : List Nat) : Prop := ∀ x ∈ n, x < B
theorem below5_five (B a b c d e : Nat) : Below5 B [a, b, c, d, e] ↔ a < B ∧ b < B ∧ c < B ∧ d < B ∧ e < B := by
  simp [Below5]
theorem limbsOf_below (x : Nat) : Below5 67108864 (limbsOf x) := by
  rw [limbsOf, below5_five]; omega
theorem plusN_val (a b : List Nat) (ha : a.length = 5) (hb : b.length = 5) (A B : Nat) (hA : Below5 A a) (hB : Below5 B b) (h : A + B ≤ 18446744073709551616) : lval (plusN a b) = lval a + lval b ∧ Below5 (A + B) (plusN a b) := by
  obtain ⟨a0, a1, a2, a3, a4, rfl⟩ := five_of a ha
  obtain ⟨b0, b1, b2, b3, b4, rfl⟩ := five_of b hb
  rw [below5_five] at hA hB
  have e : plusN [a0, a1, a2, a3, a4] [b0, b1, b2, b3, b4] = [addW a0 b0, addW a1 b1, addW a2 b2, addW a3 b3, addW a4 b4] := rfl
  rw [e, addW_in _ _ (by omega), addW_in _ _ (by omega), addW_in _ _ (by omega), addW_in _ _ (by omega), addW_in _ _ (by omega), lval_five, lval_five, lval_five, below5_five]
  omega
theorem car_five (a b c d e : Nat) : carTo [a, b, c, d, e] 5 = ([addW a 0 % 67108864, addW b (addW a 0 / 67108864) % 67108864, addW c (addW b (addW a 0 / 67108864) / 67108864) % 67108864, addW d (addW c (addW b (addW a 0 / 67108864) / 67108864) / 67108864) % 67108864, addW e (addW d (addW c (addW b (addW a 0 / 67108864) / 67108864) / 67108864) / 67108864) % 67108864],
    addW e (addW d (addW c (addW b (addW a 0 / 67108864) / 67108864) / 67108864) / 67108864) / 67108864) := rfl
theorem carN_val (n : List Nat) (hn : n.length = 5) (h : Below5 9223372036854775808 n) : lval (carN n) + 1361129467683753853853498429727072845824 * overN n = lval n ∧ Below5 67108864 (carN n) := by
  obtain ⟨a, b, c, d, e, rfl⟩ := five_of n hn
  rw [below5_five] at h
  unfold carN overN
  rw [car_five, addW_in a 0 (by omega), addW_in b _ (by omega), addW_in c _ (by omega), addW_in d _ (by omega), addW_in e _ (by omega)]
  simp only [lval_five, below5_five]
  generalize h1 : (a + 0) / 67108864 = x1
  generalize h2 : (b + x1) / 67108864 = x2
  generalize h3 : (c + x2) / 67108864 = x3
  generalize h4 : (d + x3) / 67108864 = x4
  omega
theorem lval_lt (n : List Nat) (hn : n.length = 5) (h : Below5 67108864 n) : lval n < 1361129467683753853853498429727072845824 := by
  obtain ⟨a, b, c, d, e, rfl⟩ := five_of n hn
  rw [below5_five] at h
  rw [lval_five]
  omega
theorem overN_eq (n : List Nat) (hn : n.length = 5) (h : Below5 9223372036854775808 n) : overN n = lval n / 1361129467683753853853498429727072845824 ∧ lval (carN n) = lval n % 1361129467683753853853498429727072845824 := by
  have h1 := carN_val n hn h
  have h2 := lval_lt (carN n) (by rw [carN_length, hn]) h1.2
  omega
theorem lval_set0 (n : List Nat) (hn : n.length = 5) (y : Nat) (h : n.getD 0 0 + y < 18446744073709551616) : lval (n.set 0 (addW (n.getD 0 0) y)) = lval n + y := by
  obtain ⟨a, b, c, d, e, rfl⟩ := five_of n hn
  have h' : a + y < 18446744073709551616 := h
  show lval [addW a y, b, c, d, e] = _
  rw [addW_in _ _ h', lval_five, lval_five]
  omega
theorem polyP_is : polyP = 1361129467683753853853498429727072845819 := rfl
theorem getD_below {B : Nat} {n : List Nat} (h : Below5 B n) (hB : 0 < B) (i : Nat) : n.getD i 0 < B := by
  rw [List.getD_eq_getElem?_getD]
  cases hi : n[i]? with
  | none => simpa using hB
  | some x => exact h x (List.mem_of_getElem? hi)
theorem foldN_mod (n : List Nat) (hn : n.length = 5) (h : Below5 9223372036854775808 n) : lval (foldN n) % polyP = lval n % polyP := by
  have h1 := carN_val n hn h
  have h2 := overN_eq n hn h
  have h3 := getD_below h1.2 (by omega) 0
  have hl : lval n < 9223372036854775808 * 20282409905883129831204239441921 := by
    obtain ⟨a, b, c, d, e, rfl⟩ := five_of n hn
    rw [below5_five] at h
    rw [lval_five]
    omega
  have ho : overN n < 274877906944 := by omega
  unfold foldN
  rw [mulW_in 5 _ (by omega), lval_set0 _ (by rw [carN_length, hn]) _ (by omega), polyP_is]
  omega
/-- Behind two folds the limbs have no more than their bits, but for the first, which is at most 5 beyond them. -/
def Fine (n : List Nat) : Prop := n.length = 5 ∧ n.getD 0 0 < 67108869 ∧ ∀ i, 0 < i → n.getD i 0 < 67108864
theorem fine_five (a b c d e : Nat) (h : Fine [a, b, c, d, e]) : a < 67108869 ∧ b < 67108864 ∧ c < 67108864 ∧ d < 67108864 ∧ e < 67108864 := by
  obtain ⟨_, h0, h1⟩ := h
  exact ⟨h0, h1 1 (by omega), h1 2 (by omega), h1 3 (by omega), h1 4 (by omega)⟩
theorem fine_mk (a b c d e : Nat) (h : a < 67108869 ∧ b < 67108864 ∧ c < 67108864 ∧ d < 67108864 ∧ e < 67108864) : Fine [a, b, c, d, e] := by
  refine ⟨rfl, h.1, fun i hi => ?_⟩
  match i, hi with
  | 1, _ => exact h.2.1
  | 2, _ => exact h.2.2.1
  | 3, _ => exact h.2.2.2.1
  | 4, _ => exact h.2.2.2.2
  | i + 5, _ => show (0 : Nat) < _; omega
theorem Fine.below {n : List Nat} (h : Fine n) : Below5 67108869 n := by
  obtain ⟨a, b, c, d, e, rfl⟩ := five_of n h.1
  have := fine_five _ _ _ _ _ h
  rw [below5_five]
  omega
theorem fine_zero : Fine [0, 0, 0, 0, 0] := fine_mk _ _ _ _ _ (by omega)
theorem foldN_fine (n : List Nat) (hn : n.length = 5) (h : Below5 1152921504606846976 n) : Fine (foldN (foldN n)) := by
  have hb : Below5 9223372036854775808 n := fun x hx => by have := h x hx; omega
  have h1 := carN_val n hn hb
  have h2 := overN_eq n hn hb
  have hl : lval n < 1152921504606846976 * 20282409905883129831204239441921 := by
    obtain ⟨a, b, c, d, e, rfl⟩ := five_of n hn
    rw [below5_five] at h
    rw [lval_five]
    omega
  have ho : overN n < 34359738368 := by omega
  obtain ⟨a, b, c, d, e, hc⟩ := five_of (carN n) (by rw [carN_length, hn])
  have hc2 := h1.2
  rw [hc, below5_five] at hc2
  have e1 : foldN n = [a + 5 * overN n, b, c, d, e] := by
    unfold foldN
    rw [hc]
    show [addW a (mulW 5 (overN n)), b, c, d, e] = _
    rw [mulW_in 5 _ (by omega), addW_in _ _ (by omega)]
  rw [e1]
  generalize overN n = o at *
  have hb2 : Below5 9223372036854775808 [a + 5 * o, b, c, d, e] := by rw [below5_five]; omega
  have h3 := carN_val _ rfl hb2
  have h4 := overN_eq _ rfl hb2
  rw [lval_five] at h4
  have ho2 : overN [a + 5 * o, b, c, d, e] < 2 := by omega
  obtain ⟨a', b', c', d', e', hc'⟩ := five_of (carN [a + 5 * o, b, c, d, e]) (by rw [carN_length]; rfl)
  have hc3 := h3.2
  rw [hc', below5_five] at hc3
  unfold foldN
  rw [hc']
  show Fine [addW a' (mulW 5 (overN [a + 5 * o, b, c, d, e])), b', c', d', e']
  rw [mulW_in 5 _ (by omega), addW_in _ _ (by omega)]
  exact fine_mk _ _ _ _ _ (by omega)
theorem mulRow_0 (a0 a1 a2 a3 a4 b0 b1 b2 b3 b4 s0 s1 s2 s3 s4 : Nat) : mulRow [a0, a1, a2, a3, a4] [b0, b1, b2, b3, b4] 0 [s0, s1, s2, s3, s4] 5 = [addW s0 (mulW a0 b0), addW s1 (mulW a0 b1), addW s2 (mulW a0 b2), addW s3 (mulW a0 b3), addW s4 (mulW a0 b4)] := rfl
theorem mulRow_1 (a0 a1 a2 a3 a4 b0 b1 b2 b3 b4 s0 s1 s2 s3 s4 : Nat) : mulRow [a0, a1, a2, a3, a4] [b0, b1, b2, b3, b4] 1 [s0, s1, s2, s3, s4] 5 = [addW s0 (mulW (mulW a1 b4) 5), addW s1 (mulW a1 b0), addW s2 (mulW a1 b1), addW s3 (mulW a1 b2), addW s4 (mulW a1 b3)] := rfl
theorem mulRow_2 (a0 a1 a2 a3 a4 b0 b1 b2 b3 b4 s0 s1 s2 s3 s4 : Nat) : mulRow [a0, a1, a2, a3, a4] [b0, b1, b2, b3, b4] 2 [s0, s1, s2, s3, s4] 5 = [addW s0 (mulW (mulW a2 b3) 5), addW s1 (mulW (mulW a2 b4) 5), addW s2 (mulW a2 b0), addW s3 (mulW a2 b1), addW s4 (mulW a2 b2)] := rfl
theorem mulRow_3 (a0 a1 a2 a3 a4 b0 b1 b2 b3 b4 s0 s1 s2 s3 s4 : Nat) : mulRow [a0, a1, a2, a3, a4] [b0, b1, b2, b3, b4] 3 [s0, s1, s2, s3, s4] 5 = [addW s0 (mulW (mulW a3 b2) 5), addW s1 (mulW (mulW a3 b3) 5), addW s2 (mulW (mulW a3 b4) 5), addW s3 (mulW a3 b0), addW s4 (mulW a3 b1)] := rfl
theorem mulRow_4 (a0 a1 a2 a3 a4 b0 b1 b2 b3 b4 s0 s1 s2 s3 s4 : Nat) : mulRow [a0, a1, a2, a3, a4] [b0, b1, b2, b3, b4] 4 [s0, s1, s2, s3, s4] 5 = [addW s0 (mulW (mulW a4 b1) 5), addW s1 (mulW (mulW a4 b2) 5), addW s2 (mulW (mulW a4 b3) 5), addW s3 (mulW (mulW a4 b4) 5), addW s4 (mulW a4 b0)] := rfl
theorem mul_small (x y : Nat) (hx : x < 268435456) (hy : y < 67108864) : x * y < 18014398509481984 := by
  rcases Nat.eq_zero_or_pos y with rfl | hp
  · omega
  · exact Nat.mul_lt_mul'' hx hy
theorem mulW_one (x y : Nat) (hx : x < 268435456) (hy : y < 67108864) : mulW x y = x * y := mulW_in _ _ (by have := mul_small x y hx hy; omega)
theorem mulW_five (x y : Nat) (hx : x < 268435456) (hy : y < 67108864) : mulW (mulW x y) 5 = x * y * 5 := by
  rw [mulW_one x y hx hy]
  exact mulW_in _ _ (by have := mul_small x y hx hy; omega)
theorem addW_col (x0 x1 x2 x3 x4 : Nat) (h : x0 + x1 + x2 + x3 + x4 < 18446744073709551616) : addW (addW (addW (addW (addW 0 x0) x1) x2) x3) x4 = x0 + x1 + x2 + x3 + x4 := by
  rw [addW_in 0 x0 (by omega), Nat.zero_add, addW_in x0 x1 (by omega), addW_in _ x2 (by omega), addW_in _ x3 (by omega), addW_in _ x4 (by omega)]
theorem mulTo_all (a0 a1 a2 a3 a4 b0 b1 b2 b3 b4 : Nat) : mulTo [a0, a1, a2, a3, a4] [b0, b1, b2, b3, b4] 5 = [addW (addW (addW (addW (addW 0 (mulW a0 b0)) (mulW (mulW a1 b4) 5)) (mulW (mulW a2 b3) 5)) (mulW (mulW a3 b2) 5)) (mulW (mulW a4 b1) 5), addW (addW (addW (addW (addW 0 (mulW a0 b1)) (mulW a1 b0)) (mulW (mulW a2 b4) 5)) (mulW (mulW a3 b3) 5)) (mulW (mulW a4 b2) 5), addW (addW (addW (addW (addW 0 (mulW a0 b2)) (mulW a1 b1)) (mulW a2 b0)) (mulW (mulW a3 b4) 5)) (mulW (mulW a4 b3) 5), addW (addW (addW (addW (addW 0 (mulW a0 b3)) (mulW a1 b2)) (mulW a2 b1)) (mulW a3 b0)) (mulW (mulW a4 b4) 5), addW (addW (addW (addW (addW 0 (mulW a0 b4)) (mulW a1 b3)) (mulW a2 b2)) (mulW a3 b1)) (mulW a4 b0)] := by
  show mulRow _ _ 4 (mulRow _ _ 3 (mulRow _ _ 2 (mulRow _ _ 1 (mulRow _ _ 0 [0, 0, 0, 0, 0] 5) 5) 5) 5) 5 = _
  rw [mulRow_0, mulRow_1, mulRow_2, mulRow_3, mulRow_4]
theorem mulCol_0 (a0 a1 a2 a3 a4 b0 b1 b2 b3 b4 : Nat) (ha : a0 < 268435456 ∧ a1 < 268435456 ∧ a2 < 268435456 ∧ a3 < 268435456 ∧ a4 < 268435456) (hb : b0 < 67108864 ∧ b1 < 67108864 ∧ b2 < 67108864 ∧ b3 < 67108864 ∧ b4 < 67108864) :
    addW (addW (addW (addW (addW 0 (mulW a0 b0)) (mulW (mulW a1 b4) 5)) (mulW (mulW a2 b3) 5)) (mulW (mulW a3 b2) 5)) (mulW (mulW a4 b1) 5) = a0 * b0 + a1 * b4 * 5 + a2 * b3 * 5 + a3 * b2 * 5 + a4 * b1 * 5 ∧ a0 * b0 + a1 * b4 * 5 + a2 * b3 * 5 + a3 * b2 * 5 + a4 * b1 * 5 < 1152921504606846976 := by
  have q0 := mul_small a0 b0 (by omega) (by omega)
  have q1 := mul_small a1 b4 (by omega) (by omega)
  have q2 := mul_small a2 b3 (by omega) (by omega)
  have q3 := mul_small a3 b2 (by omega) (by omega)
  have q4 := mul_small a4 b1 (by omega) (by omega)
  rw [mulW_one a0 b0 (by omega) (by omega), mulW_five a1 b4 (by omega) (by omega), mulW_five a2 b3 (by omega) (by omega), mulW_five a3 b2 (by omega) (by omega), mulW_five a4 b1 (by omega) (by omega)]
  exact ⟨addW_col _ _ _ _ _ (by omega), by omega⟩
theorem mulCol_1 (a0 a1 a2 a3 a4 b0 b1 b2 b3 b4 : Nat) (ha : a0 < 268435456 ∧ a1 < 268435456 ∧ a2 < 268435456 ∧ a3 < 268435456 ∧ a4 < 268435456) (hb : b0 < 67108864 ∧ b1 < 67108864 ∧ b2 < 67108864 ∧ b3 < 67108864 ∧ b4 < 67108864) :
    addW (addW (addW (addW (addW 0 (mulW a0 b1)) (mulW a1 b0)) (mulW (mulW a2 b4) 5)) (mulW (mulW a3 b3) 5)) (mulW (mulW a4 b2) 5) = a0 * b1 + a1 * b0 + a2 * b4 * 5 + a3 * b3 * 5 + a4 * b2 * 5 ∧ a0 * b1 + a1 * b0 + a2 * b4 * 5 + a3 * b3 * 5 + a4 * b2 * 5 < 1152921504606846976 := by
  have q0 := mul_small a0 b1 (by omega) (by omega)
  have q1 := mul_small a1 b0 (by omega) (by omega)
  have q2 := mul_small a2 b4 (by omega) (by omega)
  have q3 := mul_small a3 b3 (by omega) (by omega)
  have q4 := mul_small a4 b2 (by omega) (by omega)
  rw [mulW_one a0 b1 (by omega) (by omega), mulW_one a1 b0 (by omega) (by omega), mulW_five a2 b4 (by omega) (by omega), mulW_five a3 b3 (by omega) (by omega), mulW_five a4 b2 (by omega) (by omega)]
  exact ⟨addW_col _ _ _ _ _ (by omega), by omega⟩
theorem mulCol_2 (a0 a1 a2 a3 a4 b0 b1 b2 b3 b4 : Nat) (ha : a0 < 268435456 ∧ a1 < 268435456 ∧ a2 < 268435456 ∧ a3 < 268435456 ∧ a4 < 268435456) (hb : b0 < 67108864 ∧ b1 < 67108864 ∧ b2 < 67108864 ∧ b3 < 67108864 ∧ b4 < 67108864) :
    addW (addW (addW (addW (addW 0 (mulW a0 b2)) (mulW a1 b1)) (mulW a2 b0)) (mulW (mulW a3 b4) 5)) (mulW (mulW a4 b3) 5) = a0 * b2 + a1 * b1 + a2 * b0 + a3 * b4 * 5 + a4 * b3 * 5 ∧ a0 * b2 + a1 * b1 + a2 * b0 + a3 * b4 * 5 + a4 * b3 * 5 < 1152921504606846976 := by
  have q0 := mul_small a0 b2 (by omega) (by omega)
  have q1 := mul_small a1 b1 (by omega) (by omega)
  have q2 := mul_small a2 b0 (by omega) (by omega)
  have q3 := mul_small a3 b4 (by omega) (by omega)
  have q4 := mul_small a4 b3 (by omega) (by omega)
  rw [mulW_one a0 b2 (by omega) (by omega), mulW_one a1 b1 (by omega) (by omega), mulW_one a2 b0 (by omega) (by omega), mulW_five a3 b4 (by omega) (by omega), mulW_five a4 b3 (by omega) (by omega)]
  exact ⟨addW_col _ _ _ _ _ (by omega), by omega⟩
theorem mulCol_3 (a0 a1 a2 a3 a4 b0 b1 b2 b3 b4 : Nat) (ha : a0 < 268435456 ∧ a1 < 268435456 ∧ a2 < 268435456 ∧ a3 < 268435456 ∧ a4 < 268435456) (hb : b0 < 67108864 ∧ b1 < 67108864 ∧ b2 < 67108864 ∧ b3 < 67108864 ∧ b4 < 67108864) :
    addW (addW (addW (addW (addW 0 (mulW a0 b3)) (mulW a1 b2)) (mulW a2 b1)) (mulW a3 b0)) (mulW (mulW a4 b4) 5) = a0 * b3 + a1 * b2 + a2 * b1 + a3 * b0 + a4 * b4 * 5 ∧ a0 * b3 + a1 * b2 + a2 * b1 + a3 * b0 + a4 * b4 * 5 < 1152921504606846976 := by
  have q0 := mul_small a0 b3 (by omega) (by omega)
  have q1 := mul_small a1 b2 (by omega) (by omega)
  have q2 := mul_small a2 b1 (by omega) (by omega)
  have q3 := mul_small a3 b0 (by omega) (by omega)
  have q4 := mul_small a4 b4 (by omega) (by omega)
  rw [mulW_one a0 b3 (by omega) (by omega), mulW_one a1 b2 (by omega) (by omega), mulW_one a2 b1 (by omega) (by omega), mulW_one a3 b0 (by omega) (by omega), mulW_five a4 b4 (by omega) (by omega)]
  exact ⟨addW_col _ _ _ _ _ (by omega), by omega⟩
theorem mulCol_4 (a0 a1 a2 a3 a4 b0 b1 b2 b3 b4 : Nat) (ha : a0 < 268435456 ∧ a1 < 268435456 ∧ a2 < 268435456 ∧ a3 < 268435456 ∧ a4 < 268435456) (hb : b0 < 67108864 ∧ b1 < 67108864 ∧ b2 < 67108864 ∧ b3 < 67108864 ∧ b4 < 67108864) :
    addW (addW (addW (addW (addW 0 (mulW a0 b4)) (mulW a1 b3)) (mulW a2 b2)) (mulW a3 b1)) (mulW a4 b0) = a0 * b4 + a1 * b3 + a2 * b2 + a3 * b1 + a4 * b0 ∧ a0 * b4 + a1 * b3 + a2 * b2 + a3 * b1 + a4 * b0 < 1152921504606846976 := by
  have q0 := mul_small a0 b4 (by omega) (by omega)
  have q1 := mul_small a1 b3 (by omega) (by omega)
  have q2 := mul_small a2 b2 (by omega) (by omega)
  have q3 := mul_small a3 b1 (by omega) (by omega)
  have q4 := mul_small a4 b0 (by omega) (by omega)
  rw [mulW_one a0 b4 (by omega) (by omega), mulW_one a1 b3 (by omega) (by omega), mulW_one a2 b2 (by omega) (by omega), mulW_one a3 b1 (by omega) (by omega), mulW_one a4 b0 (by omega) (by omega)]
  exact ⟨addW_col _ _ _ _ _ (by omega), by omega⟩
theorem mulTo_five (a0 a1 a2 a3 a4 b0 b1 b2 b3 b4 : Nat) (ha : Below5 268435456 [a0, a1, a2, a3, a4]) (hb : Below5 67108864 [b0, b1, b2, b3, b4]) :
    mulTo [a0, a1, a2, a3, a4] [b0, b1, b2, b3, b4] 5 = [a0 * b0 + a1 * b4 * 5 + a2 * b3 * 5 + a3 * b2 * 5 + a4 * b1 * 5, a0 * b1 + a1 * b0 + a2 * b4 * 5 + a3 * b3 * 5 + a4 * b2 * 5, a0 * b2 + a1 * b1 + a2 * b0 + a3 * b4 * 5 + a4 * b3 * 5, a0 * b3 + a1 * b2 + a2 * b1 + a3 * b0 + a4 * b4 * 5, a0 * b4 + a1 * b3 + a2 * b2 + a3 * b1 + a4 * b0] ∧ Below5 1152921504606846976 [a0 * b0 + a1 * b4 * 5 + a2 * b3 * 5 + a3 * b2 * 5 + a4 * b1 * 5, a0 * b1 + a1 * b0 + a2 * b4 * 5 + a3 * b3 * 5 + a4 * b2 * 5, a0 * b2 + a1 * b1 + a2 * b0 + a3 * b4 * 5 + a4 * b3 * 5, a0 * b3 + a1 * b2 + a2 * b1 + a3 * b0 + a4 * b4 * 5, a0 * b4 + a1 * b3 + a2 * b2 + a3 * b1 + a4 * b0] := by
  rw [below5_five] at ha hb
  have h0 := mulCol_0 a0 a1 a2 a3 a4 b0 b1 b2 b3 b4 ha hb
  have h1 := mulCol_1 a0 a1 a2 a3 a4 b0 b1 b2 b3 b4 ha hb
  have h2 := mulCol_2 a0 a1 a2 a3 a4 b0 b1 b2 b3 b4 ha hb
  have h3 := mulCol_3 a0 a1 a2 a3 a4 b0 b1 b2 b3 b4 ha hb
  have h4 := mulCol_4 a0 a1 a2 a3 a4 b0 b1 b2 b3 b4 ha hb
  refine ⟨?_, (below5_five _ _ _ _ _ _).2 ⟨h0.2, h1.2, h2.2, h3.2, h4.2⟩⟩
  rw [mulTo_all, h0.1, h1.1, h2.1, h3.1, h4.1]
theorem mul_mod (a0 a1 a2 a3 a4 b0 b1 b2 b3 b4 : Nat) :
    lval [a0 * b0 + a1 * b4 * 5 + a2 * b3 * 5 + a3 * b2 * 5 + a4 * b1 * 5, a0 * b1 + a1 * b0 + a2 * b4 * 5 + a3 * b3 * 5 + a4 * b2 * 5, a0 * b2 + a1 * b1 + a2 * b0 + a3 * b4 * 5 + a4 * b3 * 5, a0 * b3 + a1 * b2 + a2 * b1 + a3 * b0 + a4 * b4 * 5, a0 * b4 + a1 * b3 + a2 * b2 + a3 * b1 + a4 * b0] % polyP = lval [a0, a1, a2, a3, a4] * lval [b0, b1, b2, b3, b4] % polyP := by
  have e : lval [a0, a1, a2, a3, a4] * lval [b0, b1, b2, b3, b4] = lval [a0 * b0 + a1 * b4 * 5 + a2 * b3 * 5 + a3 * b2 * 5 + a4 * b1 * 5, a0 * b1 + a1 * b0 + a2 * b4 * 5 + a3 * b3 * 5 + a4 * b2 * 5, a0 * b2 + a1 * b1 + a2 * b0 + a3 * b4 * 5 + a4 * b3 * 5, a0 * b3 + a1 * b2 + a2 * b1 + a3 * b0 + a4 * b4 * 5, a0 * b4 + a1 * b3 + a2 * b2 + a3 * b1 + a4 * b0] + polyP * (a1 * b4 + a2 * b3 + a3 * b2 + a4 * b1 + 67108864 * (a2 * b4 + a3 * b3 + a4 * b2 + 67108864 * (a3 * b4 + a4 * b3 + 67108864 * (a4 * b4)))) := by
    rw [lval_five, lval_five, lval_five, polyP_is]
    grind
  rw [e, Nat.add_mul_mod_self_left]
theorem timesN_val (a b : List Nat) (ha : a.length = 5) (hb : b.length = 5) (hA : Below5 268435456 a) (hB : Below5 67108864 b) : Fine (timesN a b) ∧ lval (timesN a b) % polyP = lval a * lval b % polyP := by
  obtain ⟨a0, a1, a2, a3, a4, rfl⟩ := five_of a ha
  obtain ⟨b0, b1, b2, b3, b4, rfl⟩ := five_of b hb
  obtain ⟨e, hE⟩ := mulTo_five _ _ _ _ _ _ _ _ _ _ hA hB
  unfold timesN
  rw [e]
  have hb2 : Below5 9223372036854775808 [a0 * b0 + a1 * b4 * 5 + a2 * b3 * 5 + a3 * b2 * 5 + a4 * b1 * 5, a0 * b1 + a1 * b0 + a2 * b4 * 5 + a3 * b3 * 5 + a4 * b2 * 5, a0 * b2 + a1 * b1 + a2 * b0 + a3 * b4 * 5 + a4 * b3 * 5, a0 * b3 + a1 * b2 + a2 * b1 + a3 * b0 + a4 * b4 * 5, a0 * b4 + a1 * b3 + a2 * b2 + a3 * b1 + a4 * b0] := fun x hx => by have := hE x hx; omega
  have hm := mul_mod a0 a1 a2 a3 a4 b0 b1 b2 b3 b4
  generalize [a0 * b0 + a1 * b4 * 5 + a2 * b3 * 5 + a3 * b2 * 5 + a4 * b1 * 5, a0 * b1 + a1 * b0 + a2 * b4 * 5 + a3 * b3 * 5 + a4 * b2 * 5, a0 * b2 + a1 * b1 + a2 * b0 + a3 * b4 * 5 + a4 * b3 * 5, a0 * b3 + a1 * b2 + a2 * b1 + a3 * b0 + a4 * b4 * 5, a0 * b4 + a1 * b3 + a2 * b2 + a3 * b1 + a4 * b0] = s at *
  have hs : s.length = 5 := by rw [← e]; exact mulTo_length _ _ _
  refine ⟨foldN_fine s hs hE, ?_⟩
  have h1 := carN_val s hs hb2
  have hf : Below5 9223372036854775808 (foldN s) := by
    have h2 := overN_eq s hs hb2
    have hl : lval s < 1152921504606846976 * 20282409905883129831204239441921 := by
      obtain ⟨a, b, c, d, e, rfl⟩ := five_of s hs
      rw [below5_five] at hE
      rw [lval_five]
      omega
    have ho : overN s < 34359738368 := by omega
    obtain ⟨a, b, c, d, e, hc⟩ := five_of (carN s) (by rw [carN_length, hs])
    have hc2 := h1.2
    rw [hc, below5_five] at hc2
    unfold foldN
    rw [hc]
    show Below5 _ [addW a (mulW 5 (overN s)), b, c, d, e]
    rw [mulW_in 5 _ (by omega), addW_in _ _ (by omega), below5_five]
    omega
  rw [foldN_mod _ (by rw [foldN_length, hs]) hf, foldN_mod _ hs hb2, hm]
theorem leastN_val (n : List Nat) (h : Fine n) : lval (leastN n) = lval n % polyP ∧ Below5 67108864 (leastN n) := by
  obtain ⟨a, b, c, d, e, rfl⟩ := five_of n h.1
  have hf := fine_five _ _ _ _ _ h
  have e1 : moreN [a, b, c, d, e] = [a + 5, b, c, d, e] := by
    show [addW a 5, b, c, d, e] = _
    rw [addW_in _ _ (by omega)]
  have hm := overN_eq [a + 5, b, c, d, e] rfl (by rw [below5_five]; omega)
  rw [lval_five] at hm
  have ho : overN [a + 5, b, c, d, e] < 2 := by omega
  have e2 : lessN [a, b, c, d, e] = [a + 5 * overN [a + 5, b, c, d, e], b, c, d, e] := by
    unfold lessN
    rw [e1]
    show [addW a (mulW 5 (overN [a + 5, b, c, d, e])), b, c, d, e] = _
    rw [mulW_in 5 _ (by omega), addW_in _ _ (by omega)]
  unfold leastN
  rw [e2]
  have hm2 := hm.1
  clear hm e1 e2
  generalize overN [a + 5, b, c, d, e] = o at *
  have hb : Below5 9223372036854775808 [a + 5 * o, b, c, d, e] := by rw [below5_five]; omega
  have h3 := overN_eq _ rfl hb
  refine ⟨?_, (carN_val _ rfl hb).2⟩
  rw [h3.2, lval_five, lval_five, polyP_is]
  have hz : b + 67108864 * (c + 67108864 * (d + 67108864 * (e + 67108864 * 0))) < 20282409603651670423947251286016 := by omega
  obtain ⟨hfa, _⟩ := hf
  clear hb h3 h
  generalize b + 67108864 * (c + 67108864 * (d + 67108864 * (e + 67108864 * 0))) = z at *
  rcases (show o = 0 ∨ o = 1 by omega) with rfl | rfl
  · rw [Nat.mod_eq_of_lt (by omega), Nat.mod_eq_of_lt (by omega)]
    omega
  · have e1 : a + 5 * 1 + 67108864 * z = a + 67108864 * z - 1361129467683753853853498429727072845819 + 1361129467683753853853498429727072845824 := by omega
    have e2 : a + 67108864 * z = a + 67108864 * z - 1361129467683753853853498429727072845819 + 1361129467683753853853498429727072845819 := by omega
    rw [e1, Nat.add_mod_right, Nat.mod_eq_of_lt (by omega)]
    conv => rhs; rw [e2, Nat.add_mod_right, Nat.mod_eq_of_lt (by omega)]
end Go.Proofs.YtiadgningbogmaaDoor
namespace Go.Proofs.YtiadgningbogmaaDoor
open Go.RowKit
/-- Block g is just these cells. -/
def Cells (w : World) (g : Nat) (vs : List Value) (t : TypeId) : Prop := w.heap[g]? = some (.cells vs.toArray t (0, 0))
/-- Of all blocks that there were only g may have turned. -/
structure But (g : Nat) (w w' : World) : Prop where
  os : w'.os = w.os
  tape : w'.tape = w.tape
  output : w'.output = w.output
  size : w.heap.size ≤ w'.heap.size
  block : ∀ k, k < w.heap.size → k ≠ g → w'.heap[k]? = w.heap[k]?
theorem heap_setCells (b : Nat) : ∀ (vs : List Value) (o : Nat) (w : World), (w.setCells b o vs).os = w.os ∧ (w.setCells b o vs).tape = w.tape ∧ (w.setCells b o vs).output = w.output ∧ (w.setCells b o vs).heap.size = w.heap.size ∧ ∀ k, k ≠ b → (w.setCells b o vs).heap[k]? = w.heap[k]?
  | [], _, _ => ⟨rfl, rfl, rfl, rfl, fun _ _ => rfl⟩
  | v :: r, o, w => by
    obtain ⟨h1, h2, h3, h4, h5⟩ := heap_setCells b r (o + 1) (w.setCell ⟨b, o, none⟩ v)
    refine ⟨h1, h2, h3, h4.trans (by simp [World.setCell]), fun k hk => (h5 k hk).trans (Below.heap_setCell _ _ _ _ hk)⟩
theorem heap_lt {w : World} {b : Nat} {o : Obj} (h : w.heap[b]? = some o) : b < w.heap.size := by
  rcases Nat.lt_or_ge b w.heap.size with hlt | hge
  · exact hlt
  · rw [Array.getElem?_eq_none hge] at h; cases h
section
variable {w w' w'' : World} {g B : Nat} {vs : List Value} {t : TypeId}
theorem Cells.cell (h : Cells w g vs t) (j : Nat) (hj : j < vs.length) : w.cell? ⟨g, j, none⟩ = some vs[j] := by
  rw [cell_of_row w g j _ _ _ h]
  simp [hj]
theorem Cells.get (h : Cells w g vs t) {j : Nat} {v : Value} (hj : vs[j]? = some v) : w.cell? ⟨g, j, none⟩ = some v := by
  rw [cell_of_row w g j _ _ _ h, List.getElem?_toArray, hj]
theorem Cells.lt (h : Cells w g vs t) : g < w.heap.size := heap_lt h
theorem Cells.below (h : Cells w g vs t) (hb : Below B w w') (hg : g < B) : Cells w' g vs t := (hb.block g hg).trans h
theorem Cells.frozen (h : Cells w g vs t) (j : Nat) : w.frozen? ⟨g, j, none⟩ = false := by
  unfold Cells at h
  simp [World.frozen?, h]
theorem Cells.set (h : Cells w g vs t) (j : Nat) (u : Value) : Cells (w.setCell ⟨g, j, none⟩ u) g (vs.set j u) t := by
  unfold Cells at h ⊢
  simp [World.setCell, Array.getElem?_modify, h]
theorem Cells.other (h : Cells w g vs t) {p : Addr} (hp : g ≠ p.block) (u : Value) : Cells (w.setCell p u) g vs t := (Below.heap_setCell _ _ _ _ hp).trans h
theorem Cells.drewN (h : Cells w g vs t) (n : Nat) : Cells (w.drewN n) g vs t := h
theorem Cells.drew (h : Cells w g vs t) : Cells w.drew g vs t := h
theorem Cells.alloc (h : Cells w g vs t) (o : Obj) : Cells (w.alloc o) g vs t := (Below.heap_alloc _ _ _ h.lt).trans h
theorem Cells.new (w : World) (vs : Array Value) (t : TypeId) : Cells (w.alloc (.cells vs t)) w.heap.size vs.toList t := by
  have := heap_alloc_new w (.cells vs t)
  unfold Cells
  rw [this]
theorem Cells.range (h : Cells w g vs t) (o n : Nat) : w.rangeAt g o ((vs.drop o).take n) := by
  intro j v hj
  rw [List.getElem?_take] at hj
  split at hj
  · rw [List.getElem?_drop] at hj
    exact h.get hj
  · cases hj
theorem Cells.there (h : Cells w g vs t) (o n : Nat) (hn : o + n ≤ vs.length) : w.there g o n := fun j hj =>
  ⟨by rw [h.cell (o + j) (by omega)]; rfl, h.frozen _⟩
/-- A piece of a list, written anew. -/
def splice (vs : List Value) (o : Nat) (cs : List Value) : List Value := vs.take o ++ cs ++ vs.drop (o + cs.length)
theorem splice_length (vs cs : List Value) (o : Nat) (h : o + cs.length ≤ vs.length) : (splice vs o cs).length = vs.length := by
  simp [splice]; omega
theorem set_splice (vs : List Value) (o : Nat) (u : Value) (cs : List Value) (h : o + 1 + cs.length ≤ vs.length) : splice (vs.set o u) (o + 1) cs = splice vs o (u :: cs) := by
  have e1 : (vs.set o u).take (o + 1) = vs.take o ++ [u] := by
    rw [List.take_succ_eq_append_getElem (by simp; omega), List.take_set_of_le (Nat.le_refl _)]
    simp
  have e2 : (vs.set o u).drop (o + 1 + cs.length) = vs.drop (o + (cs.length + 1)) := by
    rw [List.drop_set_of_lt (by omega)]
    congr 1; omega
  simp [splice, e1, e2]
theorem Cells.setCells : ∀ {cs : List Value} {w : World} {vs : List Value} {o : Nat}, Cells w g vs t → o + cs.length ≤ vs.length → Cells (w.setCells g o cs) g (splice vs o cs) t
  | [], w, vs, o, h, _ => by
    have e : splice vs o [] = vs := by simp [splice]
    rw [e]; exact h
  | u :: cs, w, vs, o, h, hl => by
    rw [← set_splice vs o u cs (by simp at hl; omega)]
    exact Cells.setCells (h.set o u) (by simp at hl ⊢; omega)
theorem Cells.otherCells (h : Cells w g vs t) {b : Nat} (hp : g ≠ b) (o : Nat) (cs : List Value) : Cells (w.setCells b o cs) g vs t := ((heap_setCells b cs o w).2.2.2.2 g hp).trans h
theorem But.refl (g : Nat) (w : World) : But g w w := ⟨rfl, rfl, rfl, Nat.le_refl _, fun _ _ _ => rfl⟩
theorem But.trans (h : But g w w') (k : But g w' w'') : But g w w'' :=
  ⟨k.os.trans h.os, k.tape.trans h.tape, k.output.trans h.output, Nat.le_trans h.size k.size, fun i hi hg => (k.block i (Nat.lt_of_lt_of_le hi h.size) hg).trans (h.block i hi hg)⟩
theorem But.of_below (h : Below w.heap.size w w') : But g w w' := ⟨h.os, h.tape, h.output, h.size, fun k hk _ => h.block k hk⟩
theorem But.below (h : But g w w') (hB : B ≤ g) (hw : B ≤ w.heap.size) : Below B w w' := ⟨h.os, h.tape, h.output, h.size, fun k hk => h.block k (by omega) (by omega)⟩
theorem But.drew (h : But g w w') : But g w w'.drew := ⟨h.os, h.tape, h.output, h.size, h.block⟩
theorem But.drewN (h : But g w w') (n : Nat) : But g w (w'.drewN n) := ⟨h.os, h.tape, h.output, h.size, h.block⟩
theorem But.setCell (h : But g w w') (j : Nat) (u : Value) : But g w (w'.setCell ⟨g, j, none⟩ u) :=
  h.trans ⟨rfl, rfl, rfl, by simp [World.setCell], fun k _ hk => Below.heap_setCell _ _ _ _ hk⟩
theorem But.alloc (h : But g w w') (o : Obj) : But g w (w'.alloc o) := h.trans ⟨rfl, rfl, rfl, by simp, fun k hk _ => Below.heap_alloc _ _ _ hk⟩
theorem But.setCells (h : But g w w') (o : Nat) (cs : List Value) : But g w (w'.setCells g o cs) := by
  obtain ⟨h1, h2, h3, h4, h5⟩ := heap_setCells g cs o w'
  exact h.trans ⟨h1, h2, h3, by rw [h4]; exact Nat.le_refl _, fun k _ hk => h5 k hk⟩
theorem below_setCells {B b : Nat} (h : Below B w w') (hb : B ≤ b) (o : Nat) (cs : List Value) : Below B w (w'.setCells b o cs) := by
  obtain ⟨h1, h2, h3, h4, h5⟩ := heap_setCells b cs o w'
  exact h.trans ⟨h1, h2, h3, by rw [h4]; exact Nat.le_refl _, fun k hk => h5 k (by omega)⟩
/-- A change of block b as well, where b is new. -/
theorem But.new (h : But g w w') {b : Nat} (hb : w.heap.size ≤ b) (k : But b w' w'') : But g w w'' :=
  ⟨k.os.trans h.os, k.tape.trans h.tape, k.output.trans h.output, Nat.le_trans h.size k.size, fun i hi hg => (k.block i (Nat.lt_of_lt_of_le hi h.size) (by omega)).trans (h.block i hi hg)⟩
theorem Cells.but (h : Cells w g vs t) {b : Nat} (hb : But b w w') (hg : g ≠ b) : Cells w' g vs t := (hb.block g h.lt hg).trans h
theorem Row.but {A : Option Addr} {bs : List UInt8} {b : Nat} (h : Row w w.heap.size A bs) (hb : But b w w') (hg : bs ≠ [] → ∀ p, A = some p → p.block ≠ b) : Row w' w'.heap.size A bs := by
  rcases h with rfl | ⟨b', off, rfl, hb', hc⟩
  · exact .inl rfl
  · refine .inr ⟨b', off, rfl, Nat.lt_of_lt_of_le hb' hb.size, fun j u hu => ?_⟩
    have hne : bs ≠ [] := fun e => by subst e; simp at hu
    rw [World.cell?_of_block (w := w) (hb.block b' hb' (hg hne _ rfl))]
    exact hc j u hu
/-- A region whose head only reads and calls quietly, and whose tail comes in the text's order: the drawn world under a name. -/
theorem wp_region_tail {P : Program} {id : Nat} {Q : Exit → Act → World → Prop} {a : Act} {w : World} {l : List Oper} (n : Nat) (hm : P.follows .mixedOrders = true) (hB : Region.lexTailB .any l.toArray n = true)
    (h : ∀ w1, w1 = w.drew → wpStill P l.toArray w1 (fun a' => wpList P l.toArray Q (l.drop n) a' w1) (l.take n) a) : (Code.region id l.toArray true).wp P Q a w := wp_region_still_tail n hm hB (h _ rfl)
end
section
variable {P : Program} {w : World} {ops : Array Oper} {rest : List Oper} {o : Oper} {a : Act} {Q : Exit → Act → World → Prop}
/-- A literal of a struct or an array. -/
theorem build_step (hgd : o.guard = none) (t : TypeId) (parts : List (Nat × Operand)) (ho : o.op = .build t parts.toArray) (ps : List (Nat × Value)) (hp : (parts.map fun (i, x) => (i, a.eval x)) = ps) (v : Value) (hr : ∀ w, (Instr.build t ps.toArray).run P w = .ok v w)
    (h : wpList P ops Q rest (a.put o.dst v) w) : wpList P ops Q (o :: rest) a w := by
  refine wpList_plain hgd fun K hK => ?_
  unfold Oper.wp
  simp only [execOp, ho, List.map_toArray, hp, hr, Sem.run_bind, Sem.run_pure, Result.andThen_ok]
  exact hK _ _ h
/-- A literal of a slice. -/
theorem slice_step (hgd : o.guard = none) (t : TypeId) (n : Nat) (parts : List (Nat × Operand)) (ho : o.op = .buildSlice t n parts.toArray) (ps : List (Nat × Value)) (hp : (parts.map fun (i, x) => (i, a.eval x)) = ps) (e : TypeId) (vs : Array Value)
    (hr : ∀ w, (Instr.buildSlice t n ps.toArray).run P w = .ok (.slice (some ⟨w.heap.size, 0, none⟩) n n) (w.alloc (.cells vs e)))
    (h : ∀ w', w' = w.alloc (.cells vs e) → wpList P ops Q rest (a.put o.dst (.slice (some ⟨w.heap.size, 0, none⟩) n n)) w') : wpList P ops Q (o :: rest) a w := by
  refine wpList_plain hgd fun K hK => ?_
  unfold Oper.wp
  simp only [execOp, ho, List.map_toArray, hp, hr, Sem.run_bind, Sem.run_pure, Result.andThen_ok]
  exact hK _ _ (h _ rfl)
/-- A new variable of a type whose zero value is known whole. -/
theorem alloc_step (hgd : o.guard = none) (t : TypeId) (ho : o.op = .alloc t) (vs : Array Value) (hz : ∀ w, (zeroValue t).run P w = .ok (.agg vs) w)
    (h : ∀ w', w' = w.alloc (.cells vs t) → wpList P ops Q rest (a.put o.dst (.pointer (some ⟨w.heap.size, 0, none⟩))) w') : wpList P ops Q (o :: rest) a w := by
  refine wpList_plain hgd fun K hK => ?_
  unfold Oper.wp
  simp only [execOp, ho, Instr.alloc, hz, newVar, Value.cells, Sem.run_bind, Sem.run_pure, Result.andThen_ok, go_sem]
  exact hK _ _ (h _ rfl)
/-- An integer stored into one cell. -/
theorem store_step (hgd : o.guard = none) (t : TypeId) (x y : Operand) (ho : o.op = .store t x y) (g j : Nat) (ik : IntKind) (z : Int) (hx : a.eval x = .pointer (some ⟨g, j, none⟩)) (hy : a.eval y = .int ik z) (hs : (P.info? t).map (·.size) = some 1) (ht : w.there g j 1)
    (h : ∀ w', w' = w.setCell ⟨g, j, none⟩ (.int ik z) → wpList P ops Q rest (a.put o.dst undef) w') : wpList P ops Q (o :: rest) a w := by
  refine wpList_plain hgd fun K hK => ?_
  obtain ⟨i0, hi0, hs0⟩ := Option.map_eq_some_iff.1 hs
  have hst := run_storeCells_cells (P := P) g j [.int ik z] 0 w (fun i hi => by simpa using (ht i hi).1) (fun i hi => by simpa using (ht i hi).2) (by intro v hv; cases List.mem_singleton.1 hv; rfl)
  have hrun : (Instr.storeAt t (.pointer (some ⟨g, j, none⟩)) (.int ik z)).run P w = .ok () (w.setCell ⟨g, j, none⟩ (.int ik z)) := by
    simp only [Instr.storeAt, Instr.sureAddr, Sem.run_bind, Sem.run_pure, Result.andThen_ok]
    simp [storeVar, sizeOf, typeInfo, hi0, hs0, Value.cells, hst, World.setCells]
  unfold Oper.wp
  simp only [execOp, ho, hx, hy, hrun, Sem.run_bind, Sem.run_pure, Result.andThen_ok]
  exact hK _ _ (h _ rfl)
/-- A value laid into a new variable. -/
theorem box_step (hgd : o.guard = none) (t : TypeId) (x : Operand) (ho : o.op = .box t x) (vs : Array Value) (hx : a.eval x = .agg vs)
    (h : ∀ w', w' = w.alloc (.cells vs t) → wpList P ops Q rest (a.put o.dst (.pointer (some ⟨w.heap.size, 0, none⟩))) w') : wpList P ops Q (o :: rest) a w := by
  refine wpList_plain hgd fun K hK => ?_
  unfold Oper.wp
  simp only [execOp, ho, hx, Instr.box]
  simp only [newVar, Value.cells, Sem.run_bind, Sem.run_pure, Result.andThen_ok, go_sem]
  exact hK _ _ (h _ rfl)
end
/-- 'a[i]' of an array of integers by value. -/
theorem run_index_int {P : Program} {t e : TypeId} {n : Nat} {ik : IntKind} (vs : List Value) (k : Nat) (v : Value) (w : World) (hu : P.underlying t = some (.array n e)) (he : P.underlying e = some (.int ik)) (hs : (P.info? e).map (·.size) = some 1) (hk : k < n) (hv : vs[k]? = some v) :
    (Instr.index t (.agg vs.toArray) (.int .i64 (k : Int))).run P w = .ok v w := by
  cases hq : P.info? e with
  | none => simp [hq] at hs
  | some i =>
    have hs1 : i.size = 1 := by simpa [hq] using hs
    simp [Instr.index, run_underlying hu, asIntOf, hk, part, isAgg, run_underlying he, sizeOf, typeInfo, hq, hs1, hv, go_sem]
theorem Row.butB {w w' : World} {B g : Nat} {A : Option Addr} {bs : List UInt8} (h : Row w B A bs) (hb : But g w w') (hg : B ≤ g) (hw : B ≤ w.heap.size) : Row w' B A bs :=
  h.keep fun p hp => World.cell?_of_block (w := w) (hb.block p.block (by omega) (by omega))
/-- A row below B lies in no block from B on. -/
theorem Row.apart {w : World} {B g : Nat} {A : Option Addr} {bs : List UInt8} (h : Row w B A bs) (hg : B ≤ g) : bs ≠ [] → ∀ p, A = some p → p.block ≠ g := by
  intro hne p hp
  rcases h with rfl | ⟨b, off, rfl, hb, _⟩
  · exact absurd rfl hne
  · cases hp; show b ≠ g; omega
theorem splice_all (vs cs : List Value) (h : cs.length = vs.length) : splice vs 0 cs = cs := by simp [splice, h]
/-- A function whose result lies in a block of its own, a whole array or struct. -/
theorem ret_block {P : Program} {fn : Func} {R : Ending → World → Prop} {a : Act} {w : World} {p : Tmp} {ty : TypeId} {d : TypeDesc} (hres : fn.results = #[.cell p ty]) (g : Nat) (vs : List Value) (t : TypeId)
    (hp : a.tmps.getD p undef = .pointer (some ⟨g, 0, none⟩)) (hg : Cells w g vs t) (hu : P.underlying ty = some d) (hd : (match d with | .struct _ | .array _ _ => true | _ => false) = true) (hi : (P.info? ty).map (·.size) = some vs.length)
    (hdf : a.defers = []) (hR : R (.returned (.agg vs.toArray)) w) : bodyPost P fn R .ret a w :=
  bodyPost_ret (results_cell_row hres a.tmps w g t vs.toArray (0, 0) d hp hg hu hd (by simpa using hi)) hdf hR
theorem set_nextV {α : Type} (l : List α) (k n : Nat) (u z : α) (hl : l.length = k) (hk : k < n) : (l ++ List.replicate (n - k) z).set k u = l ++ [u] ++ List.replicate (n - (k + 1)) z := by
  obtain ⟨m, hm⟩ : ∃ m, n - k = m + 1 := ⟨n - k - 1, by omega⟩
  rw [hm, show n - (k + 1) = m by omega, List.set_append_right _ _ (by omega), hl, Nat.sub_self, List.replicate_succ]
  simp
theorem Row.piece {w : World} {B b off : Nat} {bs : List UInt8} (h : Row w B (some ⟨b, off, none⟩) bs) (i n : Nat) : Row w B (some ⟨b, off + i, none⟩) ((bs.drop i).take n) := by
  rcases h with rfl | ⟨b', off', hA, hb, hc⟩
  · exact .inl (by simp)
  · cases hA
    refine .inr ⟨b, off + i, rfl, hb, fun j u hu => ?_⟩
    rw [List.getElem?_take] at hu
    split at hu
    · rw [List.getElem?_drop] at hu
      rw [Nat.add_assoc]
      exact hc (i + j) u hu
    · cases hu
end Go.Proofs.YtiadgningbogmaaDoor
namespace Go.Proofs.YtiadgningbogmaaDoor
open Go.RowKit
theorem size_u8 : (Tryd.prog.info? 5).map (·.size) = some 1 := by kernel_rfl
theorem cells8_one (us : List UInt8) : ∀ v ∈ us.map cellOf, v.oneCell' = true := by
  intro v hv
  obtain ⟨x, _, rfl⟩ := List.mem_map.1 hv
  rfl
/-- 'copy(dst, src)', both rows of bytes, dst's room known. -/
theorem copy_row {w : World} {ops : Array Oper} {rest : List Oper} {o : Oper} {a : Act} {Q : Exit → Act → World → Prop} (hgd : o.guard = none) (d s : Operand)
    (ho : o.op = .call { callee := .builtin .copy, args := #[d, s], argTypes := #[25, 25] }) (g off dLen dCap sLen sCap B m : Nat) (A : Option Addr) (us : List UInt8) (hd : a.eval d = .slice (some ⟨g, off, none⟩) dLen dCap) (hs : a.eval s = .slice A sLen sCap)
    (hl : us.length = sLen) (hm : min sLen dLen = m) (hr : Row w B A us) (ht : w.there g off m) (h : ∀ w', w' = w.setCells g off ((us.take dLen).map cellOf) → wpList Tryd.prog ops Q rest (a.put o.dst (.int .i64 (m : Int))) w') : wpList Tryd.prog ops Q (o :: rest) a w := by
  subst hm
  replace h := h _ rfl
  have hlen : ((us.take dLen).map cellOf).length = Nat.min sLen dLen := by rw [List.length_map, List.length_take, hl, Nat.min_comm]
  by_cases h0 : Nat.min sLen dLen = 0
  · have e : (us.take dLen).map cellOf = [] := List.eq_nil_of_length_eq_zero (hlen.trans h0)
    refine wpList_copy_nothing hgd d s _ _ ho 5 Tryd.underlying25 size_u8 _ _ _ _ _ _ hd hs h0 ?_
    rw [e] at h
    have e2 : (min sLen dLen : Nat) = 0 := h0
    rw [e2] at h
    exact h
  · have hpos : us ≠ [] := by
      intro e
      subst e
      simp at hl
      subst hl
      simp at h0
    rcases hr with e | ⟨b, bo, rfl, hb, hc⟩
    · exact absurd e hpos
    · refine wpList_plain hgd fun K hK => ?_
      have hrun := run_copy_cells (P := Tryd.prog) w 25 25 o.type 5 g off dLen dCap ⟨b, bo, none⟩ sLen sCap ((us.take dLen).map cellOf) Tryd.underlying25 size_u8 hlen (fun j v hj => by
        rw [Addr.add_mid]
        rw [List.getElem?_map] at hj
        cases hu : (us.take dLen)[j]? with
        | none => rw [hu] at hj; cases hj
        | some u =>
          rw [hu] at hj
          cases hj
          refine hc j u ?_
          rw [List.getElem?_take] at hu
          split at hu
          · exact hu
          · cases hu) (fun j hj => (ht j (by rw [hlen] at hj; exact hj)).1) (fun j hj => (ht j (by rw [hlen] at hj; exact hj)).2) (cells8_one _)
      unfold Oper.wp
      simp only [execOp, ho, resolve, invoke, builtin, Sem.run_bind, Sem.run_pure, Result.andThen_ok, List.map_toArray, List.map_cons, List.map_nil, hd, hs, hrun]
      have e3 : goInt (((us.take dLen).map cellOf).length : Int) = .int .i64 ((min sLen dLen : Nat) : Int) := by rw [hlen]; rfl
      rw [e3]
      exact hK _ _ h
/-- Where a slice lies that is cut at l: at its room's end the address stays. -/
def cutA (A : Option Addr) (l cap : Nat) : Option Addr := if cap = l then A else A.map (·.add l)
theorem Row.cut {w : World} {B : Nat} {A : Option Addr} {us : List UInt8} (h : Row w B A us) (l cap : Nat) (hl : us.length ≤ cap) : Row w B (cutA A l cap) (us.drop l) := by
  unfold cutA
  split
  · exact .inl (List.drop_eq_nil_of_le (by omega))
  · rcases h with rfl | ⟨b, off, rfl, hb, hc⟩
    · exact .inl (by simp)
    · refine .inr ⟨b, off + l, by simp [Addr.add_mid], hb, fun j u hu => ?_⟩
      rw [List.getElem?_drop] at hu
      rw [Nat.add_assoc]
      exact hc (l + j) u hu
theorem cutA_block {A : Option Addr} {l cap : Nat} {p : Addr} (h : cutA A l cap = some p) : ∃ q, A = some q ∧ p.block = q.block := by
  unfold cutA at h
  split at h
  · exact ⟨p, h, rfl⟩
  · cases A with
    | none => cases h
    | some q =>
      simp only [Option.map_some, Option.some.injEq] at h
      refine ⟨q, rfl, ?_⟩
      rw [← h]
      unfold Addr.add
      split <;> rfl
theorem cutA_none {A : Option Addr} {l cap : Nat} (h : cutA A l cap = none) : A = none := by
  unfold cutA at h
  split at h
  · exact h
  · cases A with
    | none => rfl
    | some q => cases h
/-- 'b[l:]'. -/
theorem cut_from {w : World} {ops : Array Oper} {rest : List Oper} {o : Oper} {a : Act} {Q : Exit → Act → World → Prop} (hgd : o.guard = none) (x y : Operand) (ho : o.op = .slice 25 x (some y) none none)
    (A : Option Addr) (len cap l : Nat) (hx : a.eval x = .slice A len cap) (hy : a.eval y = .int .i64 (l : Int)) (hl : l ≤ len)
    (h : wpList Tryd.prog ops Q rest (a.put o.dst (.slice (cutA A l cap) (len - l) (cap - l))) w) : wpList Tryd.prog ops Q (o :: rest) a w := by
  refine wpList_plain hgd fun K hK => ?_
  obtain ⟨i0, hi0, hs0⟩ := Option.map_eq_some_iff.1 size_u8
  have hrun : (Instr.sliceAt 25 (.slice A len cap) (some (.int .i64 (l : Int))) none none).run Tryd.prog w = .ok (.slice (cutA A l cap) (len - l) (cap - l)) w := by
    have hu : Tryd.prog.underlying 25 = some (.slice 5) := Tryd.underlying25
    have h1 : (Instr.sliceAt 25 (.slice A len cap) (some (.int .i64 (l : Int))) none none).run Tryd.prog w = (Instr.slice 25 (.slice A len cap) (some (.int .i64 (l : Int))) none none).run Tryd.prog w := by
      simp [Instr.sliceAt, run_underlying hu]
    rw [h1]
    have hl' : (l : Int) ≤ (len : Int) := by omega
    simp [Instr.slice, run_underlying hu, Instr.sliceBounds, run_sliceBound, hl, sizeOf, typeInfo, hi0, hs0, cutA]
  unfold Oper.wp
  simp only [execOp, ho, hx, hy, Option.map_some, Option.map_none, hrun, Sem.run_bind, Sem.run_pure, Result.andThen_ok]
  exact hK _ _ h
end Go.Proofs.YtiadgningbogmaaDoor
