/- Part 7 of what the laws of this seat share: TMath, GMasked, GHalf, GSmall, HSame, HAlive, WFlat2, HSteps, JPoint, TNum, TPlus. -/
import Derived.Deep.MidRow
import Derived.IntWalk
import Derived.Test.YticgkabamelddaaDoorPart6
namespace Go.Proofs.YticgkabamelddaaDoor
open Go.RowKit
theorem mm_pow : (4294967296 : Nat) ^ 8 = mm := by decide +kernel
/-- What is left in eight limbs when all have been carried over. -/
theorem cyTo_all (f : Nat → Nat) {l0 : List Nat} (c0 : Nat) (h : D8 l0) : (cyTo f l0 c0 8).1 = nD ((psum f 8 + c0) % mm) := by
  have hd : D8 (cyTo f l0 c0 8).1 := ⟨by rw [cyTo_length]; exact h.1, cyTo_lt f c0 h.2 8⟩
  have h1 := cyTo_pre f l0 c0 8 (by rw [h.1]; exact Nat.le_refl _)
  have h2 := hd.lt
  rw [mm_pow] at h1
  rw [hd.is, ← h1, Nat.mul_comm, Nat.add_mul_mod_self_left, Nat.mod_eq_of_lt h2]
/-- A sum, limb by limb, over the first number. -/
def plS (a b : List Nat) (k : Nat) : List Nat × Nat := cyTo (fun j => a.getD j 0 + b.getD j 0) a 0 k
theorem plS_next (a b : List Nat) (k : Nat) : plS a b (k + 1) = ((plS a b k).1.set k ((a.getD k 0 + b.getD k 0 + (plS a b k).2) % 4294967296), (a.getD k 0 + b.getD k 0 + (plS a b k).2) / 4294967296) := by
  rw [plS, cyTo]; rfl
theorem plS_all {a b : List Nat} (ha : D8 a) : (plS a b 8).1 = nD ((pre a 8 + pre b 8) % mm) := by
  rw [plS, cyTo_all _ 0 ha, psum_add, ← pre_psum, ← pre_psum, Nat.add_zero]
/-- A number so many times, limb by limb. -/
def scS (a : List Nat) (t : Nat) (k : Nat) : List Nat × Nat := cyTo (fun j => a.getD j 0 * t) a 0 k
theorem scS_next (a : List Nat) (t k : Nat) : scS a t (k + 1) = ((scS a t k).1.set k ((a.getD k 0 * t + (scS a t k).2) % 4294967296), (a.getD k 0 * t + (scS a t k).2) / 4294967296) := by
  rw [scS, cyTo]; rfl
theorem scS_all {a : List Nat} (ha : D8 a) (t : Nat) : (scS a t 8).1 = nD (pre a 8 * t % mm) := by
  have e : psum (fun j => a.getD j 0 * t) 8 = pre a 8 * t := by
    rw [psum_congr _ (fun j => t * a.getD j 0) 8 fun j _ => Nat.mul_comm _ _, psum_mul, ← pre_psum, Nat.mul_comm]
  rw [scS, cyTo_all _ 0 ha, e, Nat.add_zero]
theorem scS_le {a : List Nat} (ha : D8 a) {t : Nat} (ht : t ≤ 4294967296) (k : Nat) : (scS a t k).2 ≤ 4294967295 :=
  cyTo_le _ _ _ 4294967295 (by decide) (fun j => by
    have h1 := ha.2 j
    have h2 : a.getD j 0 * t ≤ 4294967295 * 4294967296 := Nat.mul_le_mul (by omega) ht
    omega) k
/-- A difference, limb by limb, over the first number. -/
def mnS (a b : List Nat) : Nat → List Nat × Nat
  | 0 => (a, 0)
  | k + 1 => ((mnS a b k).1.set k (miX a b (mnS a b k).2 k % 4294967296), 1 - miX a b (mnS a b k).2 k / 4294967296)
theorem mnS_owe (a b : List Nat) : ∀ k, (mnS a b k).2 ≤ 1
  | 0 => Nat.zero_le _
  | k + 1 => by rw [mnS]; omega
theorem mnS_D8 {a b : List Nat} (ha : D8 a) : ∀ k, D8 (mnS a b k).1
  | 0 => ha
  | k + 1 => by rw [mnS]; exact (mnS_D8 ha k).set _ _ (Nat.mod_lt _ (by decide))
theorem mnS_ahead (a b : List Nat) : ∀ k j, k ≤ j → (mnS a b k).1.getD j 0 = a.getD j 0
  | 0, _, _ => rfl
  | k + 1, j, h => by rw [mnS, getD_set_neN _ _ _ _ (by omega), mnS_ahead a b k j (by omega)]
theorem mnS_pre {a b : List Nat} (ha : D8 a) (hb : D8 b) : ∀ k, k ≤ 8 → pre (mnS a b k).1 k + pre b k = pre a k + (mnS a b k).2 * 4294967296 ^ k
  | 0, _ => rfl
  | k + 1, h => by
    have ih := mnS_pre ha hb k (by omega)
    have hl := (mnS_D8 (b := b) ha k).1
    have ho := mnS_owe a b k
    rw [mnS]
    show pre ((mnS a b k).1.set k (miX a b (mnS a b k).2 k % 4294967296)) (k + 1) + _ = _ + (1 - miX a b (mnS a b k).2 k / 4294967296) * _
    rw [pre_set _ _ _ (by omega), pre, pre, Nat.pow_succ]
    have hx : miX a b (mnS a b k).2 k = a.getD k 0 + 4294967296 - b.getD k 0 - (mnS a b k).2 := rfl
    have h1 := ha.2 k
    have h2 := hb.2 k
    generalize miX a b (mnS a b k).2 k = x at *
    generalize (mnS a b k).2 = o at *
    generalize a.getD k 0 = p at *
    generalize b.getD k 0 = q at *
    have e : x % 4294967296 + q + o = p + (1 - x / 4294967296) * 4294967296 := by omega
    have e2 : (x % 4294967296 + q + o) * 4294967296 ^ k = (p + (1 - x / 4294967296) * 4294967296) * 4294967296 ^ k := by rw [e]
    rw [Nat.add_mul, Nat.add_mul, Nat.add_mul, Nat.mul_assoc (1 - x / 4294967296), Nat.mul_comm 4294967296] at e2
    omega
theorem mnS_all {a b : List Nat} (ha : D8 a) (hb : D8 b) : (mnS a b 8).1 = nD ((pre a 8 + mm - pre b 8) % mm) ∧ (mnS a b 8).2 = if pre a 8 < pre b 8 then 1 else 0 := by
  have h1 := mnS_pre ha hb 8 (Nat.le_refl _)
  have h2 := (mnS_D8 (b := b) ha 8).lt
  have h3 := mnS_owe a b 8
  have h4 := ha.lt
  have h5 := hb.lt
  rw [mm_pow] at h1
  rw [(mnS_D8 (b := b) ha 8).is]
  generalize pre (mnS a b 8).1 8 = x at *
  generalize (mnS a b 8).2 = o at *
  generalize pre a 8 = p at *
  generalize pre b 8 = q at *
  rcases (show o = 0 ∨ o = 1 by omega) with rfl | rfl
  · rw [Nat.zero_mul, Nat.add_zero] at h1
    subst h1
    refine ⟨?_, by rw [if_neg (by omega)]⟩
    rw [show x + q + mm - q = x + mm by omega, Nat.add_mod_right, Nat.mod_eq_of_lt h2]
  · rw [Nat.one_mul] at h1
    refine ⟨?_, by rw [if_pos (by omega)]⟩
    rw [← h1, show x + q - q = x by omega, Nat.mod_eq_of_lt h2]
/-- Eight words out of bytes. -/
def rdW (b : List UInt8) (k : Nat) : Nat := lev ((b.drop (4 * k)).take 4)
def rdS (b : List UInt8) : Nat → List Nat
  | 0 => [0, 0, 0, 0, 0, 0, 0, 0]
  | k + 1 => (rdS b k).set k (rdW b k)
theorem rdW_lt (b : List UInt8) (k : Nat) : rdW b k < 4294967296 := by
  have h := lev_lt ((b.drop (4 * k)).take 4)
  have h2 : 256 ^ ((b.drop (4 * k)).take 4).length ≤ 256 ^ 4 := Nat.pow_le_pow_right (by decide) (List.length_take_le _ _)
  rw [show (256 : Nat) ^ 4 = 4294967296 from rfl] at h2
  exact Nat.lt_of_lt_of_le h h2
theorem rdS_D8 (b : List UInt8) : ∀ k, D8 (rdS b k)
  | 0 => D8.zeros
  | k + 1 => by rw [rdS]; exact (rdS_D8 b k).set _ _ (rdW_lt b k)
theorem rdS_pre (b : List UInt8) (hb : b.length = 32) : ∀ k, k ≤ 8 → pre (rdS b k) k = lev (b.take (4 * k))
  | 0, _ => rfl
  | k + 1, h => by
    have ih := rdS_pre b hb k (by omega)
    rw [rdS, pre_set _ _ _ (by rw [(rdS_D8 b k).1]; omega), ih, Nat.mul_add, Nat.mul_one, List.take_add, lev_append, List.length_take, Nat.min_eq_left (by omega), rdW, Nat.mul_comm (256 ^ (4 * k)), Nat.pow_mul]
theorem rdS_all (b : List UInt8) (hb : b.length = 32) : rdS b 8 = nD (lev b) := by
  rw [(rdS_D8 b 8).is, rdS_pre b hb 8 (Nat.le_refl _), List.take_of_length_le (by omega)]
/-- Bytes out of eight words. -/
def wtS (n k : Nat) : List UInt8 := putL n (min (4 * k) 32) ++ List.replicate (32 - min (4 * k) 32) 0
theorem wtS_length (n k : Nat) : (wtS n k).length = 32 := by rw [wtS, List.length_append, putL_length, List.length_replicate]; omega
theorem putL_mod32 (x k : Nat) (h : k ≤ 4) : putL (x % 4294967296) k = putL x k := by
  rw [putL, putL]
  refine List.map_congr_left fun i hi => ?_
  have hi' : i < 4 := by have := List.mem_range.1 hi; omega
  rw [byteAt, byteAt, ← UInt8.toNat_inj, UInt8.toNat_ofNat', UInt8.toNat_ofNat']
  rcases (show i = 0 ∨ i = 1 ∨ i = 2 ∨ i = 3 by omega) with rfl | rfl | rfl | rfl <;> simp only [Nat.reducePow, Nat.pow_zero] <;> omega
theorem wtS_next (n k : Nat) (hk : k < 8) : wtS n (k + 1) = (wtS n k).take (4 * k) ++ putL ((nD n).getD k 0) 4 ++ (wtS n k).drop (4 * k + 4) := by
  have e1 : min (4 * k) 32 = 4 * k := by omega
  have e2 : min (4 * (k + 1)) 32 = 4 * k + 4 := by omega
  have e3 : 2 ^ (32 * k) = 256 ^ (4 * k) := by rw [show (256 : Nat) = 2 ^ 8 from rfl, ← Nat.pow_mul]; congr 1; omega
  rw [wtS, wtS, e1, e2, putL_div n (4 * k) 4, nD_at n k hk, e3, show (2 : Nat) ^ 32 = 4294967296 from rfl, putL_mod32 _ 4 (Nat.le_refl _)]
  rw [List.take_append_of_le_length (by rw [putL_length]; omega), List.take_of_length_le (by rw [putL_length]; omega)]
  rw [List.drop_append, List.drop_of_length_le (by rw [putL_length]; omega), putL_length, List.nil_append, List.drop_replicate]
  congr 2
  omega
theorem wtS_zero (n : Nat) : wtS n 0 = List.replicate 32 0 := rfl
theorem wtS_all (n : Nat) : wtS n 8 = putL n 32 := by
  rw [wtS]
  show putL n 32 ++ List.replicate 0 0 = _
  rw [List.replicate_zero, List.append_nil]
/-- The rest of a number below the order with one limb more: top, what stays, and what is taken away. -/
def tailN : Nat := 27742317777372353535851937790883648493
theorem LL_tail : NP.LL = 7237005577332262213973186563042994240829374041602535252466099000494570602496 + tailN := by decide
theorem next_top (n limb : Nat) (hl : limb < 4294967296) : (n * 4294967296 + limb) / 7237005577332262213973186563042994240829374041602535252466099000494570602496 = n / 1684996666696914987166688442938726917102321526408785780068975640576 := by omega
theorem next_top_le (n : Nat) (h : n < NP.LL) : n / 1684996666696914987166688442938726917102321526408785780068975640576 ≤ 4294967296 := by simp only [NP.LL] at h; omega
theorem next_small (t : Nat) (h : t ≤ 4294967296) : tailN * t < NP.LL := by
  have h2 : tailN * t ≤ tailN * 4294967296 := Nat.mul_le_mul_left _ h
  exact Nat.lt_of_le_of_lt h2 (by decide)
/-- Of what stays, the tail so often as the top says is taken away: it is the rest. -/
theorem next_rest (x r t : Nat) (hr : r < 7237005577332262213973186563042994240829374041602535252466099000494570602496) (ht : t ≤ 4294967296) (hx : x = t * 7237005577332262213973186563042994240829374041602535252466099000494570602496 + r) : (if r < tailN * t then r + NP.LL - tailN * t else r - tailN * t) = x % NP.LL := by
  have h1 := next_small t ht
  have hL := LL_tail
  have e : x + tailN * t = t * NP.LL + r := by rw [hL, Nat.mul_add, hx, Nat.mul_comm t tailN]; omega
  generalize tailN * t = u at *
  have hLp : 0 < NP.LL := by decide
  have hrl : r < NP.LL := by rw [hL]; omega
  split
  · rename_i h
    have ht1 : 1 ≤ t := by
      rcases Nat.eq_zero_or_pos t with h0 | h0
      · subst h0; rw [Nat.zero_mul] at e; omega
      · exact h0
    obtain ⟨s, rfl⟩ : ∃ s, t = s + 1 := ⟨t - 1, by omega⟩
    rw [Nat.succ_mul] at e
    have hx2 : x = r + NP.LL - u + NP.LL * s := by rw [Nat.mul_comm NP.LL s]; omega
    rw [hx2, Nat.add_mul_mod_self_left, Nat.mod_eq_of_lt (by omega)]
  · have hx2 : x = r - u + NP.LL * t := by rw [Nat.mul_comm NP.LL t]; omega
    rw [hx2, Nat.add_mul_mod_self_left, Nat.mod_eq_of_lt (by omega)]
/-- The limbs of what stays. -/
def upL (n : List Nat) (limb : Nat) : List Nat := limb :: n.take 7
theorem upL_set (n : List Nat) (limb : Nat) (hn : D8 n) (hl : limb < 4294967296) : D8 ((upL n limb).set 7 (n.getD 6 0 % 268435456)) ∧ pre ((upL n limb).set 7 (n.getD 6 0 % 268435456)) 8 = (pre n 8 * 4294967296 + limb) % 7237005577332262213973186563042994240829374041602535252466099000494570602496 ∧ n.getD 7 0 * 16 + n.getD 6 0 / 268435456 = pre n 8 / 1684996666696914987166688442938726917102321526408785780068975640576 := by
  obtain ⟨a, b, c, d, e, f, g, i, rfl⟩ := eight_of n hn.1
  have h0 : a < 4294967296 := hn.2 0
  have h1 : b < 4294967296 := hn.2 1
  have h2 : c < 4294967296 := hn.2 2
  have h3 : d < 4294967296 := hn.2 3
  have h4 : e < 4294967296 := hn.2 4
  have h5 : f < 4294967296 := hn.2 5
  have h6 : g < 4294967296 := hn.2 6
  have h7 : i < 4294967296 := hn.2 7
  have hu : (upL [a, b, c, d, e, f, g, i] limb).set 7 (g % 268435456) = [limb, a, b, c, d, e, f, g % 268435456] := rfl
  show D8 ((upL [a, b, c, d, e, f, g, i] limb).set 7 (g % 268435456)) ∧ pre ((upL [a, b, c, d, e, f, g, i] limb).set 7 (g % 268435456)) 8 = _ ∧ i * 16 + g / 268435456 = _
  rw [hu, pre_eight, pre_eight]
  refine ⟨⟨rfl, fun k => ?_⟩, by omega, by omega⟩
  rcases Nat.lt_or_ge k 8 with h | h
  · rcases (show k = 0 ∨ k = 1 ∨ k = 2 ∨ k = 3 ∨ k = 4 ∨ k = 5 ∨ k = 6 ∨ k = 7 by omega) with rfl | rfl | rfl | rfl | rfl | rfl | rfl | rfl
    · exact hl
    · exact h0
    · exact h1
    · exact h2
    · exact h3
    · exact h4
    · exact h5
    · exact Nat.lt_trans (Nat.mod_lt g (by decide)) (by decide)
  · rw [List.getD_eq_getElem?_getD, List.getElem?_eq_none (by exact h)]; decide
/-- Sixteen limbs: what the higher ones are. -/
def hiW (r : List Nat) : Nat → Nat
  | 0 => 0
  | k + 1 => hiW r k * 4294967296 + r.getD (15 - k) 0
/-- Sixteen words of a number. -/
def rD (n : Nat) : List Nat := nD (n % mm) ++ nD (n / mm)
theorem rD_length (n : Nat) : (rD n).length = 16 := rfl
end Go.Proofs.YticgkabamelddaaDoor
namespace Go.Proofs.YticgkabamelddaaDoor
open Go.RowKit
theorem lev_mask (b : List UInt8) (hb : b.length = 32) : lev (b.set 31 (b.getD 31 0 % 128)) = lev b % 57896044618658097711785492504343953926634992332820282019728792003956564819968 := by
  have hg : ∀ c : List UInt8, c.length = 32 → lev c = lev (c.take 31) + (c.getD 31 0).toNat * 452312848583266388373324160190187140051835877600158453279131187530910662656 := fun c hc => by
    have h := lev_step c 31 (by rw [hc]; decide)
    rw [List.take_of_length_le (by rw [hc]; decide)] at h
    exact h
  have hl := lev_take_lt b 31 (by rw [hb]; decide)
  rw [hg _ (by rw [List.length_set]; exact hb), hg b hb, List.take_set_of_le (by decide), show (b.set 31 (b.getD 31 0 % 128)).getD 31 0 = b.getD 31 0 % 128 by rw [List.getD_eq_getElem?_getD, List.getElem?_set_self (by rw [hb]; decide)]; rfl, UInt8.toNat_mod]
  generalize lev (b.take 31) = L at *
  generalize b.getD 31 0 = q
  have hq := q.toNat_lt
  have h8 : (128 : UInt8).toNat = 128 := rfl
  rw [h8]
  generalize q.toNat = y at *
  have hl' : L < 452312848583266388373324160190187140051835877600158453279131187530910662656 := hl
  clear hl
  omega
end Go.Proofs.YticgkabamelddaaDoor
namespace Go.Proofs.YticgkabamelddaaDoor
open Go.RowKit
theorem nD_halfAt (n k : Nat) (hk : k < 8) : (nD (n / 2)).getD k 0 = (nD n).getD k 0 / 2 + n / 2 ^ (32 * k + 32) % 2 * 2147483648 := by
  rw [nD_at _ k hk, nD_at _ k hk, Nat.pow_add, ← Nat.div_div_eq_div_mul, Nat.div_div_eq_div_mul n 2, Nat.mul_comm 2, ← Nat.div_div_eq_div_mul]
  generalize n / 2 ^ (32 * k) = y
  omega
end Go.Proofs.YticgkabamelddaaDoor
namespace Go.Proofs.YticgkabamelddaaDoor
open Go.RowKit
theorem nD_word (u : Nat) (h : u < 18446744073709551616) : nD u = [u % 4294967296, u / 4294967296, 0, 0, 0, 0, 0, 0] := by
  simp only [nD, List.cons.injEq, and_true]
  refine ⟨trivial, ?_, ?_, ?_, ?_, ?_, ?_, ?_⟩ <;> omega
end Go.Proofs.YticgkabamelddaaDoor
namespace Go.Proofs.YticgkabamelddaaDoor
open Go.RowKit
theorem key_eql (ds es : List UInt8) (hd : ds.length = 32) (he : es.length = 32) (w : World) : (binOp .eql 25 (hashVal ds) (hashVal es)).run Tryd.prog w = .ok (.bool (ds == es)) w :=
  run_eql_bytes (P := Tryd.prog) w 25 5 32 Tryd.underlying25 Tryd.underlying5 (fun w => by
    obtain ⟨i0, hi0, hs0⟩ := Option.map_eq_some_iff.1 size_u8
    simp [sizeOf, typeInfo, hi0, hs0]) ds es hd he
def sameVs (a m : List Nat) (k : List UInt8) (ga gb : Nat) : List Value :=
  (numVal a) :: (numD m) :: (.pointer (some ⟨ga, 0, none⟩)) :: (.pointer (some ⟨gb, 0, none⟩)) :: (.bool true) :: (numVal a) :: (hashVal k) :: (numD m) :: (hashVal k) :: (.bool true) :: []
end Go.Proofs.YticgkabamelddaaDoor
namespace Go.Proofs.YticgkabamelddaaDoor
open Go.RowKit
theorem at_key {k : List UInt8} {i : Nat} {v : UInt8} (h : k[i]? = some v) : Hid ((k.map cellOf)[i]? = some (cellOf v)) := by
  show _ = _
  rw [List.getElem?_map, h]; rfl
theorem minus_one : (keyB (smallN (-1)))[0]? = some 236 ∧ (keyB (smallN (-1)))[1]? = some 255 ∧ (keyB (smallN (-1)))[31]? = some 127 := by decide +kernel
end Go.Proofs.YticgkabamelddaaDoor
namespace Go.Proofs.YticgkabamelddaaDoor
open Go.RowKit
section
variable {P : Program} {ops : Array Oper} {Q : Exit → Act → World → Prop} {md : Region.Mode} {L : List Nat}
/-- Slot s is none of the new variables'. -/
def oldB (news : List (Nat × Nat)) (s : Nat) : Bool := news.all fun p => !Nat.beq p.2 s
theorem oldB_ne {news : List (Nat × Nat)} {s : Nat} (h : oldB news s = true) : ∀ p ∈ news, p.2 ≠ s := fun p hp e => by
  rw [oldB, List.all_eq_true] at h
  have := h p hp
  rw [e, show Nat.beq s s = true from Nat.beq_refl s] at this
  cases this
structure FlatM (ops : Array Oper) (L : List Nat) (w0 : World) (ds : List Deferred) (vs : List Value) (news : List (Nat × Nat)) (t : Nat → TypeId) (zs : Nat → List Value) (listed : Array Bool) (a : Act) (w : World) : Prop where
  below : Below w0.heap.size w0 w
  size : a.tmps.size = vs.length
  defers : a.defers = ds
  fact : ∀ s, oldB news s = true → (∀ j ∈ L, dstIs ops j s = true → listed.getD j false = true) → a.tmps.getD s undef = vs.getD s undef
  made : ∀ p ∈ news, listed.getD p.1 false = true → ∃ g, w0.heap.size ≤ g ∧ a.tmps.getD p.2 undef = .pointer (some ⟨g, 0, none⟩) ∧ Cells w g (zs p.2) (t p.2)
  apart : ∀ p ∈ news, ∀ q ∈ news, p.2 ≠ q.2 → listed.getD p.1 false = true → listed.getD q.1 false = true → a.tmps.getD p.2 undef ≠ a.tmps.getD q.2 undef
/-- What is asked of an operation that makes no variable. -/
structure StepM (P : Program) (md : Region.Mode) (ops : Array Oper) (Q : Exit → Act → World → Prop) (L : List Nat) (w0 : World) (vs : List Value) (news : List (Nat × Nat)) (i : Nat) : Prop where
  step : ∃ o s, ops[i]? = some o ∧ o.dst = some s ∧ Nat.blt s vs.length = true ∧ oldB news s = true ∧ (L.all fun j => j == i || !dstIs ops j s) = true ∧
    ∀ a w K, Below w0.heap.size w0 w → (∀ t, okB md ops L i t = true → oldB news t = true → a.tmps.getD t undef = vs.getD t undef) → (∀ w', Below w.heap.size w w' → K (a.put o.dst (vs.getD s undef)) w') →
      if Region.wanted o (yielded ops a.tmps) = true then Oper.wp P o a w K Q else K (a.put o.dst undef) w
/-- What is asked of one that makes a variable. -/
structure NewM (P : Program) (ops : Array Oper) (L : List Nat) (n : Nat) (t : TypeId) (p : Nat × Nat) : Prop where
  new : ∃ o, ops[p.1]? = some o ∧ o.dst = some p.2 ∧ o.guard = none ∧ o.op = .alloc t ∧ Nat.blt p.2 n = true ∧ (L.all fun j => j == p.1 || !dstIs ops j p.2) = true
theorem flatM_step {w0 : World} {ds : List Deferred} {vs : List Value} {news : List (Nat × Nat)} {t : Nat → TypeId} {zs : Nat → List Value} (hnL : ∀ p ∈ news, p.1 ∈ L) (hN : ∀ p ∈ news, NewM P ops L vs.length (t p.2) p) (hz : ∀ p ∈ news, ∀ w, (zeroValue (t p.2)).run P w = .ok (.agg (zs p.2).toArray) w) {i : Nat} (hi : i ∈ L) (h : (∃ p ∈ news, p.1 = i) ∨ StepM P md ops Q L w0 vs news i)
    (listed : Array Bool) (a : Act) (w : World) (hI : FlatM ops L w0 ds vs news t zs listed a w) (hr : i ∈ Region.ready md ops listed) : wpOp P ops Q i (FlatM ops L w0 ds vs news t zs (listed.setIfInBounds i true)) a w := by
  have hget : ∀ (s u : Nat) (v : Value), s ≠ u → (a.put (some s) v).tmps.getD u undef = a.tmps.getD u undef := fun s u v hne => put_getD_ne _ _ _ _ hne
  have hback : ∀ j, j ≠ i → (listed.setIfInBounds i true).getD j false = true → listed.getD j false = true := fun j hj hl => by
    rwa [getD_set_ne false (fun e => hj e.symm)] at hl
  rcases h with ⟨p, hp, rfl⟩ | h
  · obtain ⟨o, ho, hd, hg, hop, hs, hone⟩ := (hN p hp).new
    rw [List.all_eq_true] at hone
    have hs' : p.2 < vs.length := by simpa [Nat.blt_eq] using hs
    have hb : Below w.heap.size w (w.alloc (.cells (zs p.2).toArray (t p.2))) := (Below.refl _ _).alloc (Nat.le_refl _) _
    have heq : (a.put (some p.2) (.pointer (some ⟨w.heap.size, 0, none⟩))).tmps.getD p.2 undef = .pointer (some ⟨w.heap.size, 0, none⟩) := put_getD_eq _ _ _ (by rw [hI.size]; exact hs')
    have hone2 : ∀ q ∈ news, q.2 = p.2 → q.1 = p.1 := fun q hq e => by
      obtain ⟨oq, hoq, hdq, _⟩ := (hN q hq).new
      have := hone q.1 (hnL q hq)
      simpa [dstIs, hoq, hdq, e] using this
    suffices hfin : FlatM ops L w0 ds vs news t zs (listed.setIfInBounds p.1 true) (a.put (some p.2) (.pointer (some ⟨w.heap.size, 0, none⟩))) (w.alloc (.cells (zs p.2).toArray (t p.2))) by
      refine wpOp_step ho fun K hK => ?_
      rw [if_pos (by simp [Region.wanted, hg])]
      have hfin2 := hK _ _ hfin
      rw [← hd] at hfin2
      unfold Oper.wp
      simp only [execOp, hop, Instr.alloc, hz p hp, newVar, Value.cells, Sem.run_bind, Sem.run_pure, Result.andThen_ok, go_sem]
      exact hfin2
    refine ⟨hI.below.trans (hb.mono hI.below.size), ?_, ?_, fun s hold hs2 => ?_, fun q hq hl => ?_, fun q hq q' hq' hne hl hl' => ?_⟩
    · rw [← hI.size]; simp [Act.put]
    · rw [← hI.defers]; rfl
    · have hne := oldB_ne hold p hp
      rw [hget _ _ _ hne]
      refine hI.fact s hold fun j hj hjs => ?_
      have h1 := hs2 j hj hjs
      refine hback j (fun e => ?_) h1
      rw [e] at hjs
      simp only [dstIs, ho, hd] at hjs
      exact hne (by simpa using hjs)
    · by_cases e : q.2 = p.2
      · rw [e, heq]
        exact ⟨_, hI.below.size, rfl, Cells.new w _ _⟩
      · rw [hget _ _ _ (fun e2 => e e2.symm)]
        obtain ⟨g, h1, h2, h3⟩ := hI.made q hq (hback _ (fun e2 => by
          obtain ⟨oq, hoq, hdq, _⟩ := (hN q hq).new
          rw [e2, ho] at hoq
          cases hoq
          rw [hd] at hdq
          exact e (by simpa using hdq.symm)) hl)
        exact ⟨g, h1, h2, h3.below hb h3.lt⟩
    · have key : ∀ r ∈ news, r.2 ≠ p.2 → (listed.setIfInBounds p.1 true).getD r.1 false = true → a.tmps.getD r.2 undef ≠ .pointer (some ⟨w.heap.size, 0, none⟩) := fun r hr2 hne2 hl2 e => by
        obtain ⟨g, h1, h2, h3⟩ := hI.made r hr2 (hback _ (fun e2 => by
          obtain ⟨oq, hoq, hdq, _⟩ := (hN r hr2).new
          rw [e2, ho] at hoq
          cases hoq
          rw [hd] at hdq
          exact hne2 (by simpa using hdq.symm)) hl2)
        rw [h2] at e
        have := h3.lt
        simp at e
        try omega
      have nl : ∀ r ∈ news, r.2 ≠ p.2 → (listed.setIfInBounds p.1 true).getD r.1 false = true → listed.getD r.1 false = true := fun r hr2 hne2 hl2 => hback _ (fun e2 => by
          obtain ⟨oq, hoq, hdq, _⟩ := (hN r hr2).new
          rw [e2, ho] at hoq
          cases hoq
          rw [hd] at hdq
          exact hne2 (by simpa using hdq.symm)) hl2
      by_cases e : q.2 = p.2
      · have e' : q'.2 ≠ p.2 := fun e2 => hne (e.trans e2.symm)
        rw [e, heq, hget _ _ _ (fun e2 => e' e2.symm)]
        exact fun h => key q' hq' e' hl' h.symm
      · by_cases e' : q'.2 = p.2
        · rw [e', heq, hget _ _ _ (fun e2 => e e2.symm)]
          exact key q hq e hl
        · rw [hget _ _ _ (fun e2 => e e2.symm), hget _ _ _ (fun e2 => e' e2.symm)]
          exact hI.apart q hq q' hq' hne (nl q hq e hl) (nl q' hq' e' hl')
  · obtain ⟨o, s, ho, hd, hs, hold, hone, hstep⟩ := h.step
    rw [List.all_eq_true] at hone
    have hs' : s < vs.length := by simpa [Nat.blt_eq] using hs
    have hnew := oldB_ne hold
    have hni : ∀ p ∈ news, p.1 ≠ i := fun p hp e => by
      obtain ⟨oq, hoq, hdq, _⟩ := (hN p hp).new
      rw [e, ho] at hoq
      cases hoq
      rw [hd] at hdq
      exact hnew p hp (by simpa using hdq.symm)
    refine wpOp_step ho fun K hK => ?_
    refine hstep a w K hI.below (fun u hu hou => hI.fact u hou fun j hj hjs => ?_) fun w' hb => hK _ _ ?_
    · rw [okB, List.all_eq_true] at hu
      have h1 := hu j hj
      rw [hjs] at h1
      exact ready_has hr (by simpa using h1)
    · rw [hd]
      refine ⟨hI.below.trans (hb.mono hI.below.size), ?_, ?_, fun u hou hu => ?_, fun q hq hl => ?_, fun q hq q' hq' hne hl hl' => ?_⟩
      · rw [← hI.size]; simp [Act.put]
      · rw [← hI.defers]; rfl
      · by_cases e : s = u
        · subst e
          rw [put_getD_eq _ _ _ (by rw [hI.size]; exact hs')]
        · rw [hget _ _ _ e]
          refine hI.fact u hou fun j hj hju => ?_
          have h1 := hu j hj hju
          refine hback j (fun ej => ?_) h1
          rw [ej] at hju
          simp only [dstIs, ho, hd] at hju
          exact e (by simpa using hju)
      · rw [hget _ _ _ (fun e => hnew q hq e.symm)]
        obtain ⟨g, h1, h2, h3⟩ := hI.made q hq (hback _ (hni q hq) hl)
        exact ⟨g, h1, h2, h3.below hb h3.lt⟩
      · rw [hget _ _ _ (fun e => hnew q hq e.symm), hget _ _ _ (fun e => hnew q' hq' e.symm)]
        exact hI.apart q hq q' hq' hne (hback _ (hni q hq) hl) (hback _ (hni q' hq') hl')
/-- The new variables' addresses laid into a frame. -/
def withNew (g : Nat → Nat) (news : List (Nat × Nat)) (vs : List Value) : List Value := news.foldl (fun l p => l.set p.2 (.pointer (some ⟨g p.2, 0, none⟩))) vs
theorem withNew_length (g : Nat → Nat) : ∀ (news : List (Nat × Nat)) (vs : List Value), (withNew g news vs).length = vs.length
  | [], _ => rfl
  | p :: r, vs => by rw [withNew, List.foldl_cons]; exact (withNew_length g r _).trans List.length_set
theorem withNew_old (g : Nat → Nat) (s : Nat) : ∀ (news : List (Nat × Nat)) (vs : List Value), oldB news s = true → (withNew g news vs).getD s undef = vs.getD s undef
  | [], _, _ => rfl
  | p :: r, vs, h => by
    have hp := oldB_ne h p List.mem_cons_self
    have hr : oldB r s = true := by rw [oldB, List.all_cons, Bool.and_eq_true] at h; exact h.2
    rw [withNew, List.foldl_cons]
    refine (withNew_old g s r _ hr).trans ?_
    rw [List.getD_eq_getElem?_getD, List.getD_eq_getElem?_getD, List.getElem?_set_ne hp]
theorem withNew_new (g : Nat → Nat) (s : Nat) : ∀ (news : List (Nat × Nat)) (vs : List Value), s < vs.length → (∃ p ∈ news, p.2 = s) → (withNew g news vs).getD s undef = .pointer (some ⟨g s, 0, none⟩)
  | [], _, _, h => by obtain ⟨_, h, _⟩ := h; cases h
  | p :: r, vs, hl, h => by
    rw [withNew, List.foldl_cons]
    by_cases hr : ∃ q ∈ r, q.2 = s
    · exact withNew_new g s r _ (by rw [List.length_set]; exact hl) hr
    · have hp : p.2 = s := by
        obtain ⟨q, hq, e⟩ := h
        rcases List.mem_cons.1 hq with rfl | hq
        · exact e
        · exact absurd ⟨q, hq, e⟩ hr
      have ho : oldB r s = true := by
        rw [oldB, List.all_eq_true]
        intro q hq
        cases hb : Nat.beq q.2 s with
        | false => rfl
        | true => exact absurd ⟨q, hq, Nat.eq_of_beq_eq_true hb⟩ hr
      refine (withNew_old g s r _ ho).trans ?_
      rw [hp]
      simp [hl]
theorem wpAny_flatMM (hB : flatB md ops L = true) (w0 : World) (a0 : Act) (vs : List Value) (news : List (Nat × Nat)) (t : Nat → TypeId) (zs : Nat → List Value) (keep : List Nat) (hkeep : ((List.range vs.length).all fun s => keep.contains s || L.any fun j => dstIs ops j s && Nat.blt j ops.size) = true)
    (hnL : (news.all fun p => L.contains p.1) = true) (hN : ∀ p ∈ news, NewM P ops L vs.length (t p.2) p) (hz : ∀ p ∈ news, ∀ w, (zeroValue (t p.2)).run P w = .ok (.agg (zs p.2).toArray) w)
    (hk : ∀ s ∈ keep, a0.tmps.getD s undef = vs.getD s undef) (hsz : a0.tmps.size = vs.length) (hstep : ∀ i ∈ L, (∃ p ∈ news, p.1 = i) ∨ StepM P md ops Q L w0 vs news i) (rem : Nat) (hrem : rem + (fullOf ops.size L).toList.countP id = ops.size)
    (hend : ∀ w (g : Nat → Nat), Below w0.heap.size w0 w → (∀ p ∈ news, w0.heap.size ≤ g p.2 ∧ Cells w (g p.2) (zs p.2) (t p.2)) → (∀ p ∈ news, ∀ q ∈ news, p.2 ≠ q.2 → g p.2 ≠ g q.2) → wpAny P md ops Q rem (fullOf ops.size L) ⟨(withNew g news vs).toArray, a0.defers⟩ w) : wpAny P md ops Q ops.size (Array.replicate ops.size false) a0 w0 := by
  rw [List.all_eq_true] at hkeep hnL
  have hnL' : ∀ p ∈ news, p.1 ∈ L := fun p hp => by simpa using hnL p hp
  have hno : ∀ j, (Array.replicate ops.size false).getD j false = false := fun j => by
    by_cases h : j < ops.size <;> simp [h]
  have h0 : (Array.replicate ops.size false).toList.countP id = 0 := by simp [List.countP_replicate]
  refine wpAny_flat hB (FlatM ops L w0 a0.defers vs news t zs) (fun i hi => flatM_step hnL' hN hz hi (hstep i hi)) rem hrem (fun a w hI => ?_) ops.size _ a0 w0 ⟨by simp, fun j hj => ?_, fun i j hi => ?_⟩ (by omega) ⟨Below.refl _ _, hsz, rfl, fun s hold hs => ?_, fun p hp hl => ?_, fun p hp q hq _ hl => ?_⟩
  · have hful : ∀ j ∈ L, j < ops.size → (fullOf ops.size L).getD j false = true := fun j hj hlt => by simp [fullOf, hlt, hj]
    have hnew : ∀ p ∈ news, (fullOf ops.size L).getD p.1 false = true := fun p hp => by
      obtain ⟨o, ho, _⟩ := (hN p hp).new
      exact hful _ (hnL' p hp) (Array.getElem?_eq_some_iff.1 ho).1
    have hg : ∃ g : Nat → Nat, ∀ p ∈ news, w0.heap.size ≤ g p.2 ∧ a.tmps.getD p.2 undef = .pointer (some ⟨g p.2, 0, none⟩) ∧ Cells w (g p.2) (zs p.2) (t p.2) := by
      refine ⟨fun s => blk (a.tmps.getD s undef), fun p hp => ?_⟩
      obtain ⟨g, h1, h2, h3⟩ := hI.made p hp (hnew p hp)
      have hb : blk (a.tmps.getD p.2 undef) = g := by rw [h2]; rfl
      show w0.heap.size ≤ blk (a.tmps.getD p.2 undef) ∧ a.tmps.getD p.2 undef = .pointer (some ⟨blk (a.tmps.getD p.2 undef), 0, none⟩) ∧ Cells w (blk (a.tmps.getD p.2 undef)) (zs p.2) (t p.2)
      rw [hb]
      exact ⟨h1, h2, h3⟩
    obtain ⟨g, hg⟩ := hg
    rw [frame_is (vs := withNew g news vs) (by rw [withNew_length]; exact hI.size) hI.defers fun s => ?_]
    · refine hend w g hI.below (fun p hp => ⟨(hg p hp).1, (hg p hp).2.2⟩) fun p hp q hq hne e => hI.apart p hp q hq hne (hnew p hp) (hnew q hq) ?_
      rw [(hg p hp).2.1, (hg q hq).2.1, e]
    · by_cases ho : oldB news s = true
      · rw [withNew_old g s news vs ho]
        refine hI.fact s ho fun j hj hjs => hful j hj ?_
        unfold dstIs at hjs
        rcases Nat.lt_or_ge j ops.size with h | h
        · exact h
        · rw [Array.getElem?_eq_none h] at hjs; cases hjs
      · have hex : ∃ p ∈ news, p.2 = s := by
          refine Classical.byContradiction fun hc => ho ?_
          rw [oldB, List.all_eq_true]
          intro q hq
          cases hb : Nat.beq q.2 s with
          | false => rfl
          | true => exact absurd ⟨q, hq, Nat.eq_of_beq_eq_true hb⟩ hc
        obtain ⟨p, hp, e⟩ := hex
        obtain ⟨o, _, _, _, _, hlt, _⟩ := (hN p hp).new
        rw [withNew_new g s news vs (by rw [← e]; simpa [Nat.blt_eq] using hlt) ⟨p, hp, e⟩, ← e]
        exact (hg p hp).2.1
  · rw [hno] at hj; cases hj
  · rw [hno] at hi; cases hi
  · rcases Nat.lt_or_ge s vs.length with h | h
    · have h1 := hkeep s (List.mem_range.2 h)
      rw [Bool.or_eq_true, List.contains_iff_mem, List.any_eq_true] at h1
      rcases h1 with h1 | ⟨j, hj, h1⟩
      · exact hk s h1
      · rw [Bool.and_eq_true] at h1
        have := hs j hj h1.1
        rw [hno] at this; cases this
    · simp [Array.getElem?_eq_none (show a0.tmps.size ≤ s by omega), h]
  · rw [hno] at hl; cases hl
  · rw [hno] at hl; cases hl
theorem wpAny_flatM (hB : flatB md ops L = true) (w0 : World) (a0 : Act) (vs : List Value) (news : List (Nat × Nat)) (t : TypeId) (zs : List Value) (keep : List Nat) (hkeep : ((List.range vs.length).all fun s => keep.contains s || L.any fun j => dstIs ops j s && Nat.blt j ops.size) = true)
    (hnL : (news.all fun p => L.contains p.1) = true) (hN : ∀ p ∈ news, NewM P ops L vs.length t p) (hz : ∀ w, (zeroValue t).run P w = .ok (.agg zs.toArray) w)
    (hk : ∀ s ∈ keep, a0.tmps.getD s undef = vs.getD s undef) (hsz : a0.tmps.size = vs.length) (hstep : ∀ i ∈ L, (∃ p ∈ news, p.1 = i) ∨ StepM P md ops Q L w0 vs news i) (rem : Nat) (hrem : rem + (fullOf ops.size L).toList.countP id = ops.size)
    (hend : ∀ w (g : Nat → Nat), Below w0.heap.size w0 w → (∀ p ∈ news, w0.heap.size ≤ g p.2 ∧ Cells w (g p.2) zs t) → (∀ p ∈ news, ∀ q ∈ news, p.2 ≠ q.2 → g p.2 ≠ g q.2) → wpAny P md ops Q rem (fullOf ops.size L) ⟨(withNew g news vs).toArray, a0.defers⟩ w) : wpAny P md ops Q ops.size (Array.replicate ops.size false) a0 w0 :=
  wpAny_flatMM hB w0 a0 vs news (fun _ => t) (fun _ => zs) keep hkeep hnL hN (fun _ _ => hz) hk hsz hstep rem hrem hend
/-- A guarded operation whose guard is known. -/
theorem wanted_is {o : Oper} {a : Act} {j s : Nat} {b c : Bool} (hg : o.guard = some (j, b)) {oj : Oper} (hj : ops[j]? = some oj) (hd : oj.dst = some s) (hv : a.tmps.getD s undef = .bool c) : Region.wanted o (yielded ops a.tmps) = (c == b) := by
  simp only [Region.wanted, hg]
  unfold yielded
  rw [Array.getD_eq_getD_getElem?] at hv
  cases h : a.tmps[s]? with
  | none => rw [h] at hv; cases hv
  | some v =>
    rw [h] at hv
    obtain rfl : v = .bool c := hv
    simp [hj, hd, h]
/-- An operation, whether it is wanted (told by its guard's slot), and what it then yields. -/
theorem mStep {w0 : World} {vs : List Value} {news : List (Nat × Nat)} {i : Nat} (o : Oper) (s : Nat) (ho : ops[i]? = some o) (hd : o.dst = some s) (hs : Nat.blt s vs.length = true) (hold : oldB news s = true) (hone : (L.all fun j => j == i || !dstIs ops j s) = true)
    (hw : ∀ a : Act, (∀ t, okB md ops L i t = true → oldB news t = true → a.tmps.getD t undef = vs.getD t undef) → Region.wanted o (yielded ops a.tmps) = true)
    (hr : ∀ a w K, Below w0.heap.size w0 w → (∀ t, okB md ops L i t = true → oldB news t = true → a.tmps.getD t undef = vs.getD t undef) → (∀ w', Below w.heap.size w w' → K (a.put o.dst (vs.getD s undef)) w') → Oper.wp P o a w K Q) : StepM P md ops Q L w0 vs news i :=
  ⟨o, s, ho, hd, hs, hold, hone, fun a w K hb hv hK => by rw [if_pos (hw a hv)]; exact hr a w K hb hv hK⟩
/-- One that isn't wanted. -/
theorem mSkip {w0 : World} {vs : List Value} {news : List (Nat × Nat)} {i : Nat} (o : Oper) (s : Nat) (ho : ops[i]? = some o) (hd : o.dst = some s) (hs : Nat.blt s vs.length = true) (hold : oldB news s = true) (hone : (L.all fun j => j == i || !dstIs ops j s) = true)
    (hw : ∀ a : Act, (∀ t, okB md ops L i t = true → oldB news t = true → a.tmps.getD t undef = vs.getD t undef) → Region.wanted o (yielded ops a.tmps) = false) (hu : vs.getD s undef = undef) : StepM P md ops Q L w0 vs news i :=
  ⟨o, s, ho, hd, hs, hold, hone, fun a w K hb hv hK => by rw [if_neg (by rw [hw a hv]; decide)]; have := hK w (Below.refl _ _); rwa [hu] at this⟩
theorem wanted_all {o : Oper} (hg : o.guard = none) (y : Nat → Option Bool) : Region.wanted o y = true := by simp [Region.wanted, hg]
theorem mPure {o : Oper} {a : Act} {w : World} {K : Act → World → Prop} (v : Value) (hr : (execOp a.eval o).run P w = .ok (.value v) w) (h : ∀ w', Below w.heap.size w w' → K (a.put o.dst v) w') : Oper.wp P o a w K Q := flat_pure v hr (h w (Below.refl _ _))
theorem mCall {o : Oper} {a : Act} {w : World} {K : Act → World → Prop} (v : Value) (f : FuncId) (args : List Operand) (tys : Array TypeId) (hop : o.op = .call { callee := .value (.func f), args := args.toArray, argTypes := tys }) (us : List Value) (hu : args.map a.eval = us)
    (hcf : ∀ args w, (callFunc f args).run P w = .ok (.enter f args) w) (hc : Calls P f us.toArray w fun e w' => e = .returned v ∧ Below w.heap.size w w') (h : ∀ w', Below w.heap.size w w' → K (a.put o.dst v) w') : Oper.wp P o a w K Q := by
  unfold Oper.wp
  simp [execOp, hop, resolve, invoke, Act.eval, Deferred.ofValue, hu, hcf, Oper.upon]
  refine hc.mono fun e w' hR => ?_
  obtain ⟨rfl, hb'⟩ := hR
  exact h w' hb'
theorem exec_pick (ρ : Operand → Value) (o : Oper) (c x y : Operand) (h : o.op = .pick c x y) (b : Bool) (hc : ρ c = .bool b) (w : World) : (execOp ρ o).run P w = .ok (.value (if b then ρ x else ρ y)) w := by
  simp [execOp, h, hc, asBool]
end
end Go.Proofs.YticgkabamelddaaDoor
namespace Go.Proofs.YticgkabamelddaaDoor
open Go.RowKit
theorem key_run {w : World} {g : Nat} {l : List UInt8} {t' : TypeId} (hC : Cells w g (l.map cellOf) t') (hl : l.length = 32) : (Instr.loadAt 25 (.pointer (some ⟨g, 0, none⟩))).run Tryd.prog w = .ok (hashVal l) w := by
  have h := run_loadVar_row (P := Tryd.prog) w g t' 25 (l.map cellOf).toArray (0, 0) _ hC Tryd.underlying25 rfl (by rw [List.size_toArray, List.length_map, hl]; exact size_k32)
  simp only [Instr.loadAt, Instr.sureAddr, Sem.run_bind, Sem.run_pure, Result.andThen_ok]
  exact h
theorem pick_true {P : Program} (ρ : Operand → Value) (o : Oper) (c x y : Operand) (h : o.op = .pick c x y) (hc : ρ c = .bool true) (v : Value) (hx : ρ x = v) (w : World) : (execOp ρ o).run P w = .ok (.value v) w := by
  rw [exec_pick ρ o c x y h true hc w, if_pos rfl, hx]
theorem pick_false {P : Program} (ρ : Operand → Value) (o : Oper) (c x y : Operand) (h : o.op = .pick c x y) (hc : ρ c = .bool false) (v : Value) (hx : ρ y = v) (w : World) : (execOp ρ o).run P w = .ok (.value v) w := by
  rw [exec_pick ρ o c x y h false hc w, if_neg (by decide), hx]
section
variable {P : Program} {w : World} {ops : Array Oper} {rest : List Oper} {o : Oper} {a : Act} {Q : Exit → Act → World → Prop}
/-- An operator whose run is known. -/
theorem bin_step (hgd : o.guard = none) (b : BinOp) (t t2 : TypeId) (x y : Operand) (ho : o.op = .binOp b t x y t2) (vx vy v : Value) (hx : a.eval x = vx) (hy : a.eval y = vy) (hg : ∀ w, (eqGuard b t x y vx vy).run P w = .ok () w) (hr : ∀ w, (binOp b t vx vy).run P w = .ok v w)
    (h : wpList P ops Q rest (a.put o.dst v) w) : wpList P ops Q (o :: rest) a w := by
  refine wpList_plain hgd fun K hK => ?_
  exact flat_pure v (exec_bin _ _ _ _ _ _ _ ho _ _ _ hx hy w (hg w) (hr w)) (hK _ _ h)
theorem wpList_move (hgd : o.guard = none) {x : Operand} (ho : o.op = .move x ∨ o.op = .assign x) (v : Value) (hx : a.eval x = v) (h : wpList P ops Q rest (a.put o.dst v) w) : wpList P ops Q (o :: rest) a w := by
  refine wpList_plain hgd fun K hK => ?_
  exact flat_pure v (exec_move _ _ _ ho _ hx w) (hK _ _ h)
theorem exec_extract (ρ : Operand → Value) (o : Oper) (x : Operand) (i : Nat) (h : o.op = .extract x i) (vs : Array Value) (hx : ρ x = .tuple vs) (v : Value) (hv : vs[i]? = some v) (w : World) : (execOp ρ o).run P w = .ok (.value v) w := by
  have hr : (Instr.extract (.tuple vs) i).run P w = .ok v w := by simp [Instr.extract, hv]
  simp [execOp, h, hx, hr]
theorem wanted_none {a : Act} {j s : Nat} {b : Bool} (hg : o.guard = some (j, b)) {oj : Oper} (hj : ops[j]? = some oj) (hd : oj.dst = some s) (hv : a.tmps.getD s undef = undef) : Region.wanted o (yielded ops a.tmps) = false := by
  simp only [Region.wanted, hg]
  unfold yielded
  rw [Array.getD_eq_getD_getElem?] at hv
  cases h : a.tmps[s]? with
  | none => simp [hj, hd, h]
  | some v =>
    rw [h] at hv
    obtain rfl : v = undef := hv
    simp [hj, hd, h, undef]
end
theorem key_guard (op : BinOp) (x y : Operand) (a b : List UInt8) (w : World) : (eqGuard op 25 x y (hashVal a) (hashVal b)).run Tryd.prog w = .ok () w := run_eqGuard_agg w op 25 _ _ _ _ (by kernel_rfl)
end Go.Proofs.YticgkabamelddaaDoor
namespace Go.Proofs.YticgkabamelddaaDoor
open Go.RowKit
theorem list5 {l : List Nat} (h : l.length = 5) : ∃ a b c d e, l = [a, b, c, d, e] := by
  match l, h with
  | [a, b, c, d, e], _ => exact ⟨a, b, c, d, e, rfl⟩
theorem exec_field {P : Program} (ρ : Operand → Value) (o : Oper) (t : TypeId) (x : Operand) (f : Nat) (h : o.op = .fieldAddr t x f) (vx v : Value) (hx : ρ x = vx) (w : World) (hr : (Instr.fieldAt t vx f).run P w = .ok v w) : (execOp ρ o).run P w = .ok (.value v) w := by
  simp [execOp, h, hx, hr]
abbrev kzeros : List Value := List.replicate 32 (cellOf 0)
theorem kcells_one (l : List UInt8) : (l.map cellOf).toArray.all (·.oneCell') = true := all_oneCell_toArray (cells8_one l)
theorem b32_run {w : World} {g : Nat} {l : List UInt8} {t' : TypeId} (hC : Cells w g (l.map cellOf) t') (hl : l.length = 32) : (Instr.loadAt 24 (.pointer (some ⟨g, 0, none⟩))).run Tryd.prog w = .ok (hashVal l) w := by
  have h := run_loadVar_row (P := Tryd.prog) w g t' 24 (l.map cellOf).toArray (0, 0) _ hC Tryd.underlying24 rfl (by rw [List.size_toArray, List.length_map, hl]; exact size_b32)
  simp only [Instr.loadAt, Instr.sureAddr, Sem.run_bind, Sem.run_pure, Result.andThen_ok]
  exact h
/-- A point's value: x's limbs, then z's. -/
def ptL (a : Nat × Nat) : List Nat := limb5 a.1 ++ limb5 a.2
theorem ptL_length (a : Nat × Nat) : (ptL a).length = 10 := rfl
end Go.Proofs.YticgkabamelddaaDoor
namespace Go.Proofs.YticgkabamelddaaDoor
open Go.RowKit
theorem zero_sn : ∀ w, (zeroValue 42).run Tryd.prog w = .ok (.agg (nzeros 8).toArray) w := (zero_of_info (P := Tryd.prog) (t := 42) (v := .agg (nzeros 8).toArray) (n := 8) (by kernel_rfl)).1
theorem zero_sr : ∀ w, (zeroValue 47).run Tryd.prog w = .ok (.agg (nzeros 16).toArray) w := (zero_of_info (P := Tryd.prog) (t := 47) (v := .agg (nzeros 16).toArray) (n := 16) (by kernel_rfl)).1
theorem size_sn : (Tryd.prog.info? 42).map (·.size) = some 8 := by kernel_rfl
theorem size_sr : (Tryd.prog.info? 47).map (·.size) = some 16 := by kernel_rfl
theorem sn_run {w : World} {g : Nat} {l : List Nat} {t' : TypeId} (hC : Cells w g (l.map ncell) t') (hl : l.length = 8) : (Instr.loadAt 42 (.pointer (some ⟨g, 0, none⟩))).run Tryd.prog w = .ok (numVal l) w := by
  have h := run_loadVar_row (P := Tryd.prog) w g t' 42 (l.map ncell).toArray (0, 0) _ hC Tryd.underlying42 rfl (by rw [List.size_toArray, List.length_map, hl]; exact size_sn)
  simp only [Instr.loadAt, Instr.sureAddr, Sem.run_bind, Sem.run_pure, Result.andThen_ok]
  exact h
theorem snTab_run {w : World} {g : Nat} {l : List Nat} (hC : Tab w g (l.map ncell)) (hl : l.length = 8) : (Instr.loadAt 42 (.pointer (some ⟨g, 0, none⟩))).run Tryd.prog w = .ok (numVal l) w := by
  obtain ⟨t', f, hC⟩ := hC
  have h := run_loadVar_row (P := Tryd.prog) w g t' 42 (l.map ncell).toArray f _ hC Tryd.underlying42 rfl (by rw [List.size_toArray, List.length_map, hl]; exact size_sn)
  simp only [Instr.loadAt, Instr.sureAddr, Sem.run_bind, Sem.run_pure, Result.andThen_ok]
  exact h
theorem sr_run {w : World} {g : Nat} {l : List Nat} {t' : TypeId} (hC : Cells w g (l.map ncell) t') (hl : l.length = 16) : (Instr.loadAt 47 (.pointer (some ⟨g, 0, none⟩))).run Tryd.prog w = .ok (numVal l) w := by
  have h := run_loadVar_row (P := Tryd.prog) w g t' 47 (l.map ncell).toArray (0, 0) _ hC Tryd.underlying47 rfl (by rw [List.size_toArray, List.length_map, hl]; exact size_sr)
  simp only [Instr.loadAt, Instr.sureAddr, Sem.run_bind, Sem.run_pure, Result.andThen_ok]
  exact h
theorem build_sn0 (w : World) : (Instr.build 42 #[]).run Tryd.prog w = .ok (numVal [0, 0, 0, 0, 0, 0, 0, 0]) w := by kernel_rfl
theorem build_sn1 (x : Nat) (w : World) : (Instr.build 42 #[(0, ncell x)]).run Tryd.prog w = .ok (numVal [x, 0, 0, 0, 0, 0, 0, 0]) w := by kernel_rfl
theorem nzeros_map (n : Nat) : nzeros n = (List.replicate n 0).map ncell := by simp [nzeros]
theorem and32m (x : Nat) (h : x < 18446744073709551616) : bits .and .u64 (x : Int) 4294967295 = ((x % 4294967296 : Nat) : Int) := by
  rw [show (4294967295 : Int) = ((4294967295 : Nat) : Int) from rfl, u64_and_nat _ _ h (by omega)]
  have := Nat.and_two_pow_sub_one_eq_mod x 32
  simp only [Nat.reducePow, Nat.reduceSub] at this
  rw [this]
theorem and28m (x : Nat) (h : x < 18446744073709551616) : bits .and .u64 (x : Int) 268435455 = ((x % 268435456 : Nat) : Int) := by
  rw [show (268435455 : Int) = ((268435455 : Nat) : Int) from rfl, u64_and_nat _ _ h (by omega)]
  have := Nat.and_two_pow_sub_one_eq_mod x 28
  simp only [Nat.reducePow, Nat.reduceSub] at this
  rw [this]
theorem and1m (x : Nat) (h : x < 18446744073709551616) : bits .and .u64 (x : Int) 1 = ((x % 2 : Nat) : Int) := by
  rw [show (1 : Int) = ((1 : Nat) : Int) from rfl, u64_and_nat _ _ h (by omega)]
  have := Nat.and_two_pow_sub_one_eq_mod x 1
  simp only [Nat.reducePow, Nat.reduceSub] at this
  rw [this]
section
variable {P : Program} {w : World} {ops : Array Oper} {rest : List Oper} {o : Oper} {a : Act} {Q : Exit → Act → World → Prop}
/-- 'copy(dst, src)', both rows of any values of one cell each. -/
theorem copy_cells (hgd : o.guard = none) (d s : Operand) (T e : TypeId) (hu : P.underlying T = some (.slice e)) (hsz : (P.info? e).map (·.size) = some 1) (ho : o.op = .call { callee := .builtin .copy, args := #[d, s], argTypes := #[T, T] })
    (g off dLen dCap b bo sLen sCap m : Nat) (vs : List Value) (hd : a.eval d = .slice (some ⟨g, off, none⟩) dLen dCap) (hs : a.eval s = .slice (some ⟨b, bo, none⟩) sLen sCap) (hm : Nat.min sLen dLen = m) (hl : vs.length = m) (hr : w.rangeAt b bo vs) (ht : w.there g off m) (h1 : ∀ v ∈ vs, v.oneCell' = true)
    (h : ∀ w', w' = w.setCells g off vs → wpList P ops Q rest (a.put o.dst (.int .i64 (m : Int))) w') : wpList P ops Q (o :: rest) a w := by
  replace h := h _ rfl
  have hlen : vs.length = Nat.min sLen dLen := hl.trans hm.symm
  refine wpList_plain hgd fun K hK => ?_
  have hrun := run_copy_cells (P := P) w T T o.type e g off dLen dCap ⟨b, bo, none⟩ sLen sCap vs hu hsz hlen (fun j v hj => by
    rw [Addr.add_mid]
    exact hr j v hj) (fun j hj => (ht j (by omega)).1) (fun j hj => (ht j (by omega)).2) h1
  unfold Oper.wp
  simp only [execOp, ho, resolve, invoke, builtin, Sem.run_bind, Sem.run_pure, Result.andThen_ok, List.map_toArray, List.map_cons, List.map_nil, hd, hs, hrun]
  have e3 : goInt (vs.length : Int) = .int .i64 (m : Int) := by rw [hl]; rfl
  rw [e3]
  exact hK _ _ h
end
end Go.Proofs.YticgkabamelddaaDoor
namespace Go.Proofs.YticgkabamelddaaDoor
open Go.RowKit
set_option maxRecDepth 100000 in
set_option maxHeartbeats 2000000 in
theorem scPlus_over (a b r : List Nat) (S : Nat → List Nat) (O : Nat → Nat) (w : World) (HA : Hid (∀ k, a.getD k 0 < 4294967296)) (HB : Hid (b.length = 8 ∧ ∀ k, b.getD k 0 < 4294967296)) (HL : Hid (∀ k, (S k).length = 8)) (H0 : Hid (S 0 = a ∧ O 0 = 0)) (HG : Hid (∀ k, (S k).getD k 0 = a.getD k 0))
    (HS : Hid (∀ k, S (k + 1) = (S k).set k ((a.getD k 0 + b.getD k 0 + O k) % 4294967296) ∧ O (k + 1) = (a.getD k 0 + b.getD k 0 + O k) / 4294967296)) (HO : Hid (∀ k, O k ≤ 1)) (HR : Hid (S 8 = r)) :
    Calls Tryd.prog 25 #[numVal a, numVal b] w fun e w' => e = .returned (numVal r) ∧ Below w.heap.size w w' := by
  go_enter Tryd.func25, Tryd.ntmps25
  go_wp2_with (first
    | (refine vtake_step rfl 42 (.tmp 0) rfl (a.map ncell) rfl ?_
       intro w1 hB1 hA1
       try simp only [Act.put, List.setIfInBounds_toArray, List.set_cons_zero, List.set_cons_succ]
       skip)
    | (refine vtake_step rfl 42 (.tmp 1) rfl (b.map ncell) rfl ?_
       intro w2 hb2 hC2
       have hB2 := below_then hB1 hb2
       have hA2 := hA1.on hb2
       have hg1 := hA1.lt
       clear hB1 hA1 hb2
       try simp only [Act.put, List.setIfInBounds_toArray, List.set_cons_zero, List.set_cons_succ]
       skip)
    | (refine vzero_step (o := ⟨some 4, _, _, _, _, _⟩) rfl 42 rfl (nzeros 8) zero_sn ?_
       intro w3 hb3 hZ3
       have hB3 := below_then hB2 hb3
       have hA3 := hA2.on hb3
       have hC3 := hC2.on hb3
       have hg2 := hC2.lt
       clear hB2 hA2 hC2 hb3
       try simp only [Act.put, List.setIfInBounds_toArray, List.set_cons_zero, List.set_cons_succ]
       skip))
  generalize hg : w1.heap.size = gb at *
  generalize hh : w2.heap.size = gz at *
  clear hg hh
  go_loopw [5, 8] (fun v i wr => ∃ k : Nat, k ≤ 8 ∧ i = .int .i64 k ∧ v = .int .u64 (O k : Int) ∧ Below w.heap.size w wr ∧ Cells wr w.heap.size ((S k).map ncell) 42 ∧ Cells wr gb (b.map ncell) 42 ∧ Cells wr gz (nzeros 8) 42) (fun _ i _ => 8 - (intOf i).toNat)
  case atStart => exact ⟨0, Nat.zero_le _, rfl, by rw [H0.out.2]; rfl, hB3, by rw [H0.out.1]; exact hA3, hC3, hZ3⟩
  case round =>
    clear hB3 hA3 hC3 hZ3
    obtain ⟨k, hk, rfl, rfl, hB, hS, hC, hZ⟩ := hrel
    have HLk := Lib.hid (HL.out k)
    by_cases hlt : k < 8
    · have HN := Lib.hid (HS.out k)
      have ho := HO.out k
      have hp := HA.out k
      have hq := HB.out.2 k
      have HGk := Lib.hid (HG.out k)
      have d1 := hS.get (nat_at (S k) k (by rw [HLk.out]; omega))
      have d2 := hC.get (nat_at b k (by rw [HB.out.1]; omega))
      rw [HGk.out] at d1
      obtain ⟨z, HZ⟩ := namedF (S (k + 1))
      obtain ⟨o2, HO2⟩ := namedF (O (k + 1))
      rw [HZ.out, HO2.out] at HN
      generalize S k = s at *
      generalize O k = o at *
      generalize a.getD k 0 = p at *
      generalize b.getD k 0 = y at *
      clear HA HB HL H0 HS HO HR HG HGk
      obtain ⟨x2, hx2⟩ : ∃ x2, x2 = p + y := ⟨_, rfl⟩
      have c4 : IntKind.u64.wrap ((p : Int) + (y : Int)) = (x2 : Int) := by rw [hx2]; exact wadd p y (by omega)
      obtain ⟨x, hx⟩ : ∃ x, x = x2 + o := ⟨_, rfl⟩
      have c5 : IntKind.u64.wrap ((x2 : Int) + (o : Int)) = (x : Int) := by rw [hx]; exact wadd x2 o (by omega)
      have c6 := and32m x (by omega)
      have c7 : (x : Int) / 4294967296 = (o2 : Int) := by rw [HN.out.2, ← hx2, ← hx]; rfl
      rw [← hx2, ← hx] at HN
      obtain ⟨v, HV⟩ := namedF (x % 4294967296)
      rw [HV.out] at HN c6
      clear hx2 hx HV hp hq
      have i1 : (0 : Int) ≤ (k : Int) := by omega
      have i2 : (k : Int) < 8 := by omega
      go_wp2_with fail
      go_quiet (fail)
      have hB4 : Below w.heap.size w (wr.drewN nq) := ⟨hB.os, hB.tape, hB.output, hB.size, hB.block⟩
      have hC4 := hC.drewN nq
      have hZ4 := hZ.drewN nq
      have hS4 := hS.drewN nq
      generalize wr.drewN nq = w4 at *
      clear hB hC hZ hS d1 d2
      have hT := hS4.there k 1 (by rw [List.length_map, HLk.out]; omega)
      have hE := Lib.hid (hS4.set k (ncell v))
      go_wp2_with (first
        | (refine store_step rfl 40 _ _ rfl w.heap.size k .u64 (v : Int) rfl rfl size_u64 hT ?_
           intro w5 hw5
           have hB5 : Below w.heap.size w w5 := by rw [hw5]; exact hB4.setCell (p := ⟨w.heap.size, k, none⟩) (Nat.le_refl _) _
           have hC5 : Cells w5 gb (b.map ncell) 42 := by rw [hw5]; exact hC4.other (by show gb ≠ w.heap.size; omega) _
           have hZ5 : Cells w5 gz (nzeros 8) 42 := by rw [hw5]; exact hZ4.other (by show gz ≠ w.heap.size; omega) _
           have hS5 : Cells w5 w.heap.size (z.map ncell) 42 := by rw [hw5, HN.out.1, ← nset_map]; exact hE.out
           clear hw5 hT hE hB4 hC4 hZ4 hS4))
      go_roundw
      case rel => exact ⟨k + 1, by omega, by go_num, by rw [HO2.out], hB5, by rw [HZ.out]; exact hS5, hC5, hZ5⟩
      case measure => simp [intOf]; omega
    · obtain rfl : k = 8 := by omega
      rw [HR.out] at hS HLk
      go_wp2_with (first
        | (refine sget_step rfl 42 _ rfl w.heap.size 8 (r.map ncell) rfl hS Tryd.underlying42 rfl size_sn (by rw [List.length_map, HLk.out]) ?_)
        | (refine vset_step rfl 42 _ _ rfl gz 8 (nzeros 8) (r.map ncell) rfl rfl hZ rfl size_sn (by rw [List.length_map, HLk.out]) (ncells_one r) ?_
           intro w7 hb7 hC7 _))
      exact sret Tryd.results25 gz (r.map ncell) rfl hC7 Tryd.underlying42 rfl size_sn (by rw [List.length_map, HLk.out]) rfl ⟨rfl, hB.trans (hb7.below (by omega) hB.size)⟩
theorem scPlus_any (n m : Nat) (w : World) (hn : n < mm) (hm : m < mm) : Calls Tryd.prog 25 #[numVal (nD n), numVal (nD m)] w fun e w' => e = .returned (numVal (nD ((n + m) % mm))) ∧ Below w.heap.size w w' := by
  have h := plS_all (b := nD m) (nD_D8 n)
  rw [pre_nD n hn, pre_nD m hm] at h
  refine scPlus_over (nD n) (nD m) _ (fun k => (plS (nD n) (nD m) k).1) (fun k => (plS (nD n) (nD m) k).2) w (nD_D8 n).2 (nD_D8 m) (fun k => cyTo_length _ _ _ k) ⟨rfl, rfl⟩ (fun k => cyTo_ahead _ _ _ k k (Nat.le_refl _)) (fun k => ?_) (fun k => ?_) h
  · rw [plS_next]; exact ⟨rfl, rfl⟩
  · refine cyTo_le _ _ 0 1 (by decide) (fun j => ?_) k
    have h1 := (nD_D8 n).2 j
    have h2 := (nD_D8 m).2 j
    omega
set_option maxRecDepth 100000 in
set_option maxHeartbeats 2000000 in
theorem scScaled_over (a r : List Nat) (t : Nat) (S : Nat → List Nat) (O : Nat → Nat) (w : World) (ht : t ≤ 4294967296) (HA : Hid (∀ k, a.getD k 0 < 4294967296)) (HL : Hid (∀ k, (S k).length = 8)) (H0 : Hid (S 0 = a ∧ O 0 = 0)) (HG : Hid (∀ k, (S k).getD k 0 = a.getD k 0))
    (HS : Hid (∀ k, S (k + 1) = (S k).set k ((a.getD k 0 * t + O k) % 4294967296) ∧ O (k + 1) = (a.getD k 0 * t + O k) / 4294967296)) (HO : Hid (∀ k, O k ≤ 4294967295)) (HR : Hid (S 8 = r)) :
    Calls Tryd.prog 31 #[numVal a, ncell t] w fun e w' => e = .returned (numVal r) ∧ Below w.heap.size w w' := by
  go_enter Tryd.func31, Tryd.ntmps31
  go_wp2_with (first
    | (refine vtake_step rfl 42 (.tmp 0) rfl (a.map ncell) rfl ?_
       intro w1 hB1 hA1
       try simp only [Act.put, List.setIfInBounds_toArray, List.set_cons_zero, List.set_cons_succ]
       skip)
    | (refine vzero_step (o := ⟨some 4, _, _, _, _, _⟩) rfl 42 rfl (nzeros 8) zero_sn ?_
       intro w3 hb3 hZ3
       have hB3 := below_then hB1 hb3
       have hA3 := hA1.on hb3
       have hg2 := hA1.lt
       clear hB1 hA1 hb3
       try simp only [Act.put, List.setIfInBounds_toArray, List.set_cons_zero, List.set_cons_succ]
       skip))
  generalize hh : w1.heap.size = gz at *
  clear hh
  go_loopw [5, 8] (fun v i wr => ∃ k : Nat, k ≤ 8 ∧ i = .int .i64 k ∧ v = .int .u64 (O k : Int) ∧ Below w.heap.size w wr ∧ Cells wr w.heap.size ((S k).map ncell) 42 ∧ Cells wr gz (nzeros 8) 42) (fun _ i _ => 8 - (intOf i).toNat)
  case atStart => exact ⟨0, Nat.zero_le _, rfl, by rw [H0.out.2]; rfl, hB3, by rw [H0.out.1]; exact hA3, hZ3⟩
  case round =>
    clear hB3 hA3 hZ3
    obtain ⟨k, hk, rfl, rfl, hB, hS, hZ⟩ := hrel
    have HLk := Lib.hid (HL.out k)
    by_cases hlt : k < 8
    · have HN := Lib.hid (HS.out k)
      have ho := HO.out k
      have hp := HA.out k
      have HGk := Lib.hid (HG.out k)
      have d1 := hS.get (nat_at (S k) k (by rw [HLk.out]; omega))
      rw [HGk.out] at d1
      obtain ⟨z, HZ⟩ := namedF (S (k + 1))
      obtain ⟨o2, HO2⟩ := namedF (O (k + 1))
      rw [HZ.out, HO2.out] at HN
      generalize S k = s at *
      generalize O k = o at *
      generalize a.getD k 0 = p at *
      clear HA HL H0 HS HO HR HG HGk
      have hpt : p * t ≤ 4294967295 * 4294967296 := Nat.mul_le_mul (by omega) ht
      obtain ⟨x2, hx2⟩ : ∃ x2, x2 = p * t := ⟨_, rfl⟩
      have c4 : IntKind.u64.wrap ((p : Int) * (t : Int)) = (x2 : Int) := by rw [hx2]; exact wmul p t (by omega)
      rw [← hx2] at hpt HN
      obtain ⟨x, hx⟩ : ∃ x, x = x2 + o := ⟨_, rfl⟩
      have c5 : IntKind.u64.wrap ((x2 : Int) + (o : Int)) = (x : Int) := by rw [hx]; exact wadd x2 o (by omega)
      have c6 := and32m x (by omega)
      have c7 : (x : Int) / 4294967296 = (o2 : Int) := by rw [HN.out.2, ← hx]; rfl
      rw [← hx] at HN
      obtain ⟨v, HV⟩ := namedF (x % 4294967296)
      rw [HV.out] at HN c6
      clear hx2 hx HV hp hpt
      have i1 : (0 : Int) ≤ (k : Int) := by omega
      have i2 : (k : Int) < 8 := by omega
      have hT := hS.there k 1 (by rw [List.length_map, HLk.out]; omega)
      have hE := Lib.hid (hS.set k (ncell v))
      go_wp2_with (first
        | (refine store_step rfl 40 _ _ rfl w.heap.size k .u64 (v : Int) rfl rfl size_u64 hT ?_
           intro w5 hw5
           have hB5 : Below w.heap.size w w5 := by rw [hw5]; exact hB.setCell (p := ⟨w.heap.size, k, none⟩) (Nat.le_refl _) _
           have hZ5 : Cells w5 gz (nzeros 8) 42 := by rw [hw5]; exact hZ.other (by show gz ≠ w.heap.size; omega) _
           have hS5 : Cells w5 w.heap.size (z.map ncell) 42 := by rw [hw5, HN.out.1, ← nset_map]; exact hE.out
           clear hw5 hT hE hB hZ hS d1))
      go_roundw
      case rel => exact ⟨k + 1, by omega, by go_num, by rw [HO2.out], hB5, by rw [HZ.out]; exact hS5, hZ5⟩
      case measure => simp [intOf]; omega
    · obtain rfl : k = 8 := by omega
      rw [HR.out] at hS HLk
      go_wp2_with (first
        | (refine sget_step rfl 42 _ rfl w.heap.size 8 (r.map ncell) rfl hS Tryd.underlying42 rfl size_sn (by rw [List.length_map, HLk.out]) ?_)
        | (refine vset_step rfl 42 _ _ rfl gz 8 (nzeros 8) (r.map ncell) rfl rfl hZ rfl size_sn (by rw [List.length_map, HLk.out]) (ncells_one r) ?_
           intro w7 hb7 hC7 _))
      exact sret Tryd.results31 gz (r.map ncell) rfl hC7 Tryd.underlying42 rfl size_sn (by rw [List.length_map, HLk.out]) rfl ⟨rfl, hB.trans (hb7.below (by omega) hB.size)⟩
theorem scScaled_any (n t : Nat) (w : World) (hn : n < mm) (ht : t ≤ 4294967296) : Calls Tryd.prog 31 #[numVal (nD n), ncell t] w fun e w' => e = .returned (numVal (nD (n * t % mm))) ∧ Below w.heap.size w w' := by
  have h := scS_all (nD_D8 n) t
  rw [pre_nD n hn] at h
  refine scScaled_over (nD n) _ t (fun k => (scS (nD n) t k).1) (fun k => (scS (nD n) t k).2) w ht (nD_D8 n).2 (fun k => cyTo_length _ _ _ k) ⟨rfl, rfl⟩ (fun k => cyTo_ahead _ _ _ k k (Nat.le_refl _)) (fun k => ?_) (fun k => scS_le (nD_D8 n) ht k) h
  rw [scS_next]; exact ⟨rfl, rfl⟩
end Go.Proofs.YticgkabamelddaaDoor
