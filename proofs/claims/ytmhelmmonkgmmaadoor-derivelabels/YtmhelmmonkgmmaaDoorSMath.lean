/- SHA-256 as plain functions on bytes and words. No program is named here. -/
import Derived.Test.YtmhelmmonkgmmaaDoorWPut
namespace Go.Proofs.YtmhelmmonkgmmaaDoor
open Go.RowKit
/- The standard's functions on words. (Plain definitions: a walk leaves them whole.) -/
def shaLow (x : BitVec 32) : BitVec 32 := rotR32 x 7 ^^^ rotR32 x 18 ^^^ (x >>> 3)
def shaHigh (x : BitVec 32) : BitVec 32 := rotR32 x 17 ^^^ rotR32 x 19 ^^^ (x >>> 10)
def tri32 (x : BitVec 32) (i j k : Int) : BitVec 32 := rotR32 x i ^^^ rotR32 x j ^^^ rotR32 x k
def shaA (x : BitVec 32) : BitVec 32 := tri32 x 2 13 22
def shaE (x : BitVec 32) : BitVec 32 := tri32 x 6 11 25
def shaCh (e f g : BitVec 32) : BitVec 32 := (e &&& f) ^^^ (~~~e &&& g)
def shaMaj (a b c : BitVec 32) : BitVec 32 := (a &&& b) ^^^ (a &&& c) ^^^ (b &&& c)
/-- Eight words: a chain. -/
structure Oct where
  (a b c d e f g h : BitVec 32)
def Oct.list (o : Oct) : List (BitVec 32) := [o.a, o.b, o.c, o.d, o.e, o.f, o.g, o.h]
def Oct.plus (o p : Oct) : Oct := ⟨o.a + p.a, o.b + p.b, o.c + p.c, o.d + p.d, o.e + p.e, o.f + p.f, o.g + p.g, o.h + p.h⟩
def shaOne (o : Oct) (k w : BitVec 32) : BitVec 32 := o.h + shaE o.e + shaCh o.e o.f o.g + k + w
def shaTwo (o : Oct) : BitVec 32 := shaA o.a + shaMaj o.a o.b o.c
def shaRound (o : Oct) (k w : BitVec 32) : Oct := ⟨shaOne o k w + shaTwo o, o.a, o.b, o.c, o.d + shaOne o k w, o.e, o.f, o.g⟩
def shaK : List (BitVec 32) := [1116352408, 1899447441, 3049323471, 3921009573, 961987163, 1508970993, 2453635748, 2870763221, 3624381080, 310598401, 607225278, 1426881987, 1925078388, 2162078206, 2614888103, 3248222580, 3835390401, 4022224774, 264347078, 604807628, 770255983, 1249150122, 1555081692, 1996064986, 2554220882, 2821834349, 2952996808, 3210313671, 3336571891, 3584528711, 113926993, 338241895, 666307205, 773529912, 1294757372, 1396182291, 1695183700, 1986661051, 2177026350, 2456956037, 2730485921, 2820302411, 3259730800, 3345764771, 3516065817, 3600352804, 4094571909, 275423344, 430227734, 506948616, 659060556, 883997877, 958139571, 1322822218, 1537002063, 1747873779, 1955562222, 2024104815, 2227730452, 2361852424, 2428436474, 2756734187, 3204031479, 3329325298]
def shaStart : Oct := ⟨1779033703, 3144134277, 1013904242, 2773480762, 1359893119, 2600822924, 528734635, 1541459225⟩
/-- A block's words: the first k of the 64. -/
def shaWord (bs : List UInt8) (i : Nat) : BitVec 32 := BitVec.ofNat 32 (bigN ((bs.drop (4 * i)).take 4))
def shaNext (l : List (BitVec 32)) (t : Nat) : BitVec 32 := l.getD (t - 16) 0 + shaLow (l.getD (t - 15) 0) + l.getD (t - 7) 0 + shaHigh (l.getD (t - 2) 0)
def shaSpread (bs : List UInt8) : Nat → List (BitVec 32)
  | 0 => []
  | t + 1 => shaSpread bs t ++ [if t < 16 then shaWord bs t else shaNext (shaSpread bs t) t]
theorem shaSpread_length (bs : List UInt8) : ∀ t, (shaSpread bs t).length = t
  | 0 => rfl
  | t + 1 => by simp [shaSpread, shaSpread_length bs t]
/-- So many rounds. -/
def shaRounds (o : Oct) (ws : List (BitVec 32)) : Nat → Oct
  | 0 => o
  | t + 1 => shaRound (shaRounds o ws t) (shaK.getD t 0) (ws.getD t 0)
def shaBlock (o : Oct) (bs : List UInt8) : Oct := o.plus (shaRounds o (shaSpread bs 64) 64)
/-- The chain of the first n blocks. -/
def shaChain (bs : List UInt8) : Nat → Oct
  | 0 => shaStart
  | n + 1 => shaBlock (shaChain bs n) ((bs.drop (64 * n)).take 64)
theorem shaChain_append (bs cs : List UInt8) : ∀ n, 64 * n ≤ bs.length → shaChain (bs ++ cs) n = shaChain bs n
  | 0, _ => rfl
  | n + 1, h => by
    rw [shaChain, shaChain, shaChain_append bs cs n (by omega), List.drop_append_of_le_length (by omega), List.take_append_of_le_length (by rw [List.length_drop]; omega)]
/-- The digest's bytes. -/
def word4 (x : BitVec 32) : List UInt8 := (putL x.toNat 4).reverse
theorem word4_length (x : BitVec 32) : (word4 x).length = 4 := by simp [word4, putL_length]
def words4 (l : List (BitVec 32)) : List UInt8 := (l.map word4).flatten
theorem words4_length (l : List (BitVec 32)) : (words4 l).length = 4 * l.length := by
  induction l with
  | nil => rfl
  | cons x l ih => simp only [words4, List.map_cons, List.flatten_cons, List.length_append, word4_length, List.length_cons] at *; omega
theorem words4_snoc (l : List (BitVec 32)) (x : BitVec 32) : words4 (l ++ [x]) = words4 l ++ word4 x := by simp [words4]
/-- What stands behind a message of n bytes. -/
def shaPad (n : Nat) : Nat := 64 - (n % 64 + 8) % 64
def shaEnd (n : Nat) : List UInt8 := 128 :: (List.replicate (shaPad n - 1) 0 ++ (putL (8 * n) 8).reverse)
theorem shaPad_pos (n : Nat) : 1 ≤ shaPad n ∧ shaPad n ≤ 64 := by unfold shaPad; omega
theorem shaEnd_length (n : Nat) : (shaEnd n).length = shaPad n + 8 := by
  have := shaPad_pos n
  simp [shaEnd, putL_length]; omega
theorem shaEnd_mod (n : Nat) : (n + (shaPad n + 8)) % 64 = 0 := by unfold shaPad; omega
def shaPadded (bs : List UInt8) : List UInt8 := bs ++ shaEnd bs.length
theorem shaPadded_length (bs : List UInt8) : (shaPadded bs).length = bs.length + (shaPad bs.length + 8) := by rw [shaPadded, List.length_append, shaEnd_length]
def shaSum (bs : List UInt8) : List UInt8 := words4 (shaChain (shaPadded bs) ((shaPadded bs).length / 64)).list
theorem shaSum_length (bs : List UInt8) : (shaSum bs).length = 32 := by simp [shaSum, words4_length, Oct.list]
/- Go's operations on words of 32 bits. -/
theorem add32 (x y : BitVec 32) : ((x.toNat : Int) + (y.toNat : Int)) % 4294967296 = ((x + y).toNat : Int) := by
  rw [BitVec.toNat_add]; omega
theorem wadd32 (x y : BitVec 32) : IntKind.u32.wrap ((x.toNat : Int) + (y.toNat : Int)) = ((x + y).toNat : Int) := by
  rw [IntKind.wrap_u32, add32]
theorem add32_4 (x y z u : BitVec 32) : ((x.toNat : Int) + (y.toNat : Int) + (z.toNat : Int) + (u.toNat : Int)) % 4294967296 = ((x + y + z + u).toNat : Int) := by
  simp only [BitVec.toNat_add]; omega
theorem add32_5 (x y z u v : BitVec 32) : ((x.toNat : Int) + (y.toNat : Int) + (z.toNat : Int) + (u.toNat : Int) + (v.toNat : Int)) % 4294967296 = ((x + y + z + u + v).toNat : Int) := by
  simp only [BitVec.toNat_add]; omega
theorem not32 (x : BitVec 32) : bits .xor .u32 (if IntKind.u32.signed = true then -1 else IntKind.u32.max) (x.toNat : Int) = ((~~~x).toNat : Int) := by
  have h := xor32 (BitVec.allOnes 32) x
  rw [BitVec.allOnes_xor] at h
  exact h
theorem one_eq (q : Oct) (k w : BitVec 32) : ((q.h.toNat : Int) + ((tri32 q.e 6 11 25).toNat : Int) + bits .xor .u32 (bits .and .u32 (q.e.toNat : Int) (q.f.toNat : Int)) (bits .and .u32 (bits .xor .u32 (if IntKind.u32.signed = true then -1 else IntKind.u32.max) (q.e.toNat : Int)) (q.g.toNat : Int)) + (k.toNat : Int) + (w.toNat : Int)) % 4294967296 = ((shaOne q k w).toNat : Int) := by
  rw [not32, and32, and32, xor32, add32_5]; rfl
theorem two_eq (q : Oct) : (((tri32 q.a 2 13 22).toNat : Int) + bits .xor .u32 (bits .xor .u32 (bits .and .u32 (q.a.toNat : Int) (q.b.toNat : Int)) (bits .and .u32 (q.a.toNat : Int) (q.c.toNat : Int))) (bits .and .u32 (q.b.toNat : Int) (q.c.toNat : Int))) % 4294967296 = ((shaTwo q).toNat : Int) := by
  rw [and32, and32, and32, xor32, xor32, add32]; rfl
end Go.Proofs.YtmhelmmonkgmmaaDoor
