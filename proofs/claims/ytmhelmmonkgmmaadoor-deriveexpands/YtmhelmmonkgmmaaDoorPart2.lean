/- Part 2 of what the laws of this seat share: WPut, SMath, MMath, DMath, WCells, WCopy, WParts. -/
import Derived.Deep.MidRow
import Derived.StillTailTactics
import Derived.Laws.CopyOwn
import Derived.Test.YtmhelmmonkgmmaaDoorPart1
namespace Go.Proofs.YtmhelmmonkgmmaaDoor
open Go.RowKit
/-- A number's i-th byte from the low end; its k low bytes, the low one first. -/
def byteAt (x i : Nat) : UInt8 := UInt8.ofNat (x / 256 ^ i)
def putL (x k : Nat) : List UInt8 := (List.range k).map (byteAt x)
theorem putL_length (x k : Nat) : (putL x k).length = k := by simp [putL]
theorem putL_succ (x k : Nat) : putL x (k + 1) = putL x k ++ [byteAt x k] := by simp [putL, List.range_succ]
theorem pow_8 (i : Nat) : 2 ^ (8 * i) = 256 ^ i := by rw [Nat.pow_mul]
theorem byte_shr (x i : Nat) : (x : Int) / 2 ^ (8 * i) % 256 = ((byteAt x i).toNat : Int) := by
  rw [pow_cast, pow_8, ← Int.natCast_ediv, byteAt, UInt8.toNat_ofNat']
  omega
theorem byte_mod (x i : Nat) : ((x / 256 ^ i : Nat) : Int) % 256 = ((byteAt x i).toNat : Int) := by
  rw [byteAt, UInt8.toNat_ofNat']
  omega
theorem bigN_fold (l : List UInt8) : ∀ a : Nat, l.foldl (fun x b => x * 256 + b.toNat) a = a * 256 ^ l.length + bigN l := by
  induction l with
  | nil => intro a; simp [bigN]
  | cons u l ih =>
    intro a
    rw [List.foldl_cons, ih, show bigN (u :: l) = (u :: l).foldl (fun x b => x * 256 + b.toNat) 0 from rfl, List.foldl_cons, ih, List.length_cons, Nat.pow_succ, Nat.add_mul, Nat.zero_mul, Nat.zero_add, Nat.mul_assoc, Nat.mul_comm 256, Nat.add_assoc]
theorem bigN_cons (u : UInt8) (l : List UInt8) : bigN (u :: l) = u.toNat * 256 ^ l.length + bigN l := by
  rw [show bigN (u :: l) = (u :: l).foldl (fun x b => x * 256 + b.toNat) 0 from rfl, List.foldl_cons, bigN_fold, Nat.zero_mul, Nat.zero_add]
theorem refbig_round (l : List UInt8) (k : Nat) (hk : k < l.length) (hn : l.length ≤ 8) :
    IntKind.u64.wrap (IntKind.u64.wrap ((bigN (l.take k) : Int) * 256) + IntKind.u64.wrap (l[k].toNat : Int)) = (bigN (l.take (k + 1)) : Int) := by
  have h1 := bigN_lt (l.take k)
  have h2 : 256 ^ (l.take k).length ≤ 256 ^ 7 := pow256_le (by rw [List.length_take]; omega)
  have h3 := l[k].toNat_lt
  rw [take_snoc l k hk, bigN_snoc]
  generalize bigN (l.take k) = a at *
  generalize l[k].toNat = u at *
  rw [IntKind.wrap_u64, IntKind.wrap_u64, IntKind.wrap_u64]
  omega
theorem little_round (l : List UInt8) (k : Nat) (hk : k < l.length) (hn : l.length ≤ 8) :
    bits .or .u64 (bigN (l.take k).reverse : Int) (IntKind.u64.wrap (IntKind.u64.wrap (l[k].toNat : Int) * 2 ^ (8 * k))) = (bigN (l.take (k + 1)).reverse : Int) := by
  have h1 := bigN_lt (l.take k).reverse
  have hlk : (l.take k).reverse.length = k := by rw [List.length_reverse, List.length_take]; omega
  have h3 := l[k].toNat_lt
  rw [take_snoc l k hk, List.reverse_append, List.reverse_singleton, List.singleton_append, bigN_cons, hlk]
  rw [hlk] at h1
  have hp : 256 ^ k ≤ 256 ^ 7 := pow256_le (by omega)
  generalize bigN (l.take k).reverse = a at *
  generalize l[k].toNat = u at *
  have hu : u * 256 ^ k ≤ 255 * 256 ^ k := Nat.mul_le_mul_right _ (by omega)
  have e : IntKind.u64.wrap (IntKind.u64.wrap (u : Int) * 2 ^ (8 * k)) = ((u * 256 ^ k : Nat) : Int) := by
    rw [IntKind.wrap_u64, IntKind.wrap_u64, show (u : Int) % 18446744073709551616 = (u : Int) by omega, pow_cast, pow_8, ← Int.natCast_mul]
    omega
  rw [e, u64_or_nat _ _ (by omega) (by omega), Nat.or_comm, nat_join (8 * k) _ _ (by rw [pow_8]; exact Nat.mul_mod_left _ _) (by rw [pow_8]; exact h1)]
theorem putBig_out (x n : Int) (E : Value) (w : World) (hn : n < 0 ∨ 8 < n) (hE : w.cell? ⟨0, 0, none⟩ = some E) :
    Calls Tryd.prog 49 #[.int .u64 x, .int .i64 n] w fun e w' => e = .returned (.tuple #[.slice none 0 0, E]) ∧ ∃ n, w' = w.drewN n := by
  by_cases h : n < 0
  all_goals
    try have h2 : 8 < n := by omega
    clear hn
    go_enter Tryd.func49, Tryd.ntmps49
    go_wp2
    go_quiet (fail)
    go_wp2
    go_ret2
    exact ⟨rfl, _, rfl⟩
/-- The high bytes of n, k of them, the high one first. -/
def putB (x n k : Nat) : List UInt8 := (List.range k).map fun i => byteAt x (n - 1 - i)
theorem putB_length (x n k : Nat) : (putB x n k).length = k := by simp [putB]
theorem putB_succ (x n k : Nat) : putB x n (k + 1) = putB x n k ++ [byteAt x (n - 1 - k)] := by simp [putB, List.range_succ]
theorem putB_rev (x n : Nat) : putB x n n = (putL x n).reverse := by
  refine List.ext_getElem (by simp [putB, putL]) fun i h1 h2 => ?_
  simp [putB, putL]
set_option maxRecDepth 100000 in
theorem putBig_in (x n : Nat) (w : World) (_hx : x < 18446744073709551616) (hn : n ≤ 8) :
    Calls Tryd.prog 49 #[.int .u64 x, .int .i64 n] w fun e w' => e = .returned (.tuple #[.slice (some ⟨w.heap.size, 0, none⟩) n n, .nilIface]) ∧ Below w.heap.size w w' ∧ Made w' w.heap.size (putL x n).reverse := by
  have hmk := make_bytes n n (Nat.le_refl _) (by omega)
  have HR := Lib.hid (putB_rev x n)
  go_enter Tryd.func49, Tryd.ntmps49
  go_wp2
  go_loopw [7, 19] (fun _ i wr => ∃ k : Nat, k ≤ n ∧ i = .int .i64 k ∧ Below w.heap.size w wr ∧ Made wr w.heap.size (putB x n k ++ List.replicate (n - k) 0)) (fun _ i _ => n - (intOf i).toNat)
  case atStart => exact ⟨0, Nat.zero_le _, rfl, (Below.refl _ _).alloc (Nat.le_refl _) _, by simpa [putB] using Made.new w (List.replicate n 0)⟩
  case round =>
    obtain ⟨k, hk, rfl, hB, hM⟩ := hrel
    by_cases hlt : k < n
    · have hf := hM.frozen k
      obtain ⟨v3, hc3⟩ : ∃ v, wr.cell? ⟨w.heap.size, k, none⟩ = some v := ⟨_, hM.cell k (by simp [putB]; omega)⟩
      have i1 : (0 : Int) ≤ (k : Int) := by omega
      have i2 : (k : Int) < (n : Int) := by omega
      have HS := Lib.hid (byte_shr x (n - 1 - k))
      go_wp2
      go_roundw
      case rel =>
        rw [HS.out]
        refine ⟨k + 1, by omega, by go_num, hB.setCell (p := ⟨w.heap.size, k, none⟩) (Nat.le_refl _) _, ?_⟩
        have h := hM.set k (byteAt x (n - 1 - k))
        rw [set_next _ k n _ (putB_length x n k) hlt, ← putB_succ] at h
        exact h
      case measure => simp [intOf]; omega
    · go_wp2
      go_ret2
      refine ⟨rfl, hB, ?_⟩
      have e : k = n := by omega
      subst e
      rw [← HR.out]
      simpa using hM
theorem big_few_n (A : Option Addr) (c n : Nat) (bs : List UInt8) (w : World) (hl : bs.length = n) (hr : Row w w.heap.size A bs) (hn : n ≤ 8) :
    Calls Tryd.prog 50 #[.slice A n c] w fun e w' => e = .returned (.tuple #[.int .u64 (bigN bs : Int), .nilIface]) ∧ w = w' := by
  subst hl; exact big_few A c bs w hr hn
theorem big_long (A : Option Addr) (c n : Nat) (E : Value) (w : World) (hn : 8 < n) (hE : w.cell? ⟨1, 0, none⟩ = some E) :
    Calls Tryd.prog 50 #[.slice A n c] w fun e w' => e = .returned (.tuple #[.int .u64 0, E]) ∧ ∃ n, w' = w.drewN n := by
  have h : (8 : Int) < (n : Int) := by omega
  go_enter Tryd.func50, Tryd.ntmps50
  go_wp2
  go_quiet (fail)
  go_wp2
  go_ret2
  exact ⟨rfl, _, rfl⟩
theorem set_before (l : List UInt8) (m : Nat) (u : UInt8) : (List.replicate (m + 1) 0 ++ l).set m u = List.replicate m 0 ++ u :: l := by
  rw [List.replicate_succ', List.append_assoc, List.set_append_right _ _ (by simp)]
  simp
end Go.Proofs.YtmhelmmonkgmmaaDoor
namespace Go.Proofs.YtmhelmmonkgmmaaDoor
open Go.RowKit
/- The standard's functions on words. (Plain definitions: a walk leaves them whole.) -/
def shaLow (x : BitVec 32) : BitVec 32 := rotR32 x 7 ^^^ rotR32 x 18 ^^^ (x >>> 3)
def shaHigh (x : BitVec 32) : BitVec 32 := rotR32 x 17 ^^^ rotR32 x 19 ^^^ (x >>> 10)
def tri32 (x : BitVec 32) (i j k : Int) : BitVec 32 := rotR32 x i ^^^ rotR32 x j ^^^ rotR32 x k
def shaA (x : BitVec 32) : BitVec 32 := tri32 x 2 13 22
def shaE (x : BitVec 32) : BitVec 32 := tri32 x 6 11 25
def shaCh (e f g : BitVec 32) : BitVec 32 := (e &&& f) ^^^ (~~~e &&& g)
def shaMaj (a b c : BitVec 32) : BitVec 32 := (a &&& b) ^^^ (a &&& c) ^^^ (b &&& c)
/-- Eight words: a chain. -/
structure Oct where
  (a b c d e f g h : BitVec 32)
def Oct.list (o : Oct) : List (BitVec 32) := [o.a, o.b, o.c, o.d, o.e, o.f, o.g, o.h]
def Oct.plus (o p : Oct) : Oct := ⟨o.a + p.a, o.b + p.b, o.c + p.c, o.d + p.d, o.e + p.e, o.f + p.f, o.g + p.g, o.h + p.h⟩
def shaOne (o : Oct) (k w : BitVec 32) : BitVec 32 := o.h + shaE o.e + shaCh o.e o.f o.g + k + w
def shaTwo (o : Oct) : BitVec 32 := shaA o.a + shaMaj o.a o.b o.c
def shaRound (o : Oct) (k w : BitVec 32) : Oct := ⟨shaOne o k w + shaTwo o, o.a, o.b, o.c, o.d + shaOne o k w, o.e, o.f, o.g⟩
def shaK : List (BitVec 32) := [1116352408, 1899447441, 3049323471, 3921009573, 961987163, 1508970993, 2453635748, 2870763221, 3624381080, 310598401, 607225278, 1426881987, 1925078388, 2162078206, 2614888103, 3248222580, 3835390401, 4022224774, 264347078, 604807628, 770255983, 1249150122, 1555081692, 1996064986, 2554220882, 2821834349, 2952996808, 3210313671, 3336571891, 3584528711, 113926993, 338241895, 666307205, 773529912, 1294757372, 1396182291, 1695183700, 1986661051, 2177026350, 2456956037, 2730485921, 2820302411, 3259730800, 3345764771, 3516065817, 3600352804, 4094571909, 275423344, 430227734, 506948616, 659060556, 883997877, 958139571, 1322822218, 1537002063, 1747873779, 1955562222, 2024104815, 2227730452, 2361852424, 2428436474, 2756734187, 3204031479, 3329325298]
def shaStart : Oct := ⟨1779033703, 3144134277, 1013904242, 2773480762, 1359893119, 2600822924, 528734635, 1541459225⟩
/-- A block's words: the first k of the 64. -/
def shaWord (bs : List UInt8) (i : Nat) : BitVec 32 := BitVec.ofNat 32 (bigN ((bs.drop (4 * i)).take 4))
def shaNext (l : List (BitVec 32)) (t : Nat) : BitVec 32 := l.getD (t - 16) 0 + shaLow (l.getD (t - 15) 0) + l.getD (t - 7) 0 + shaHigh (l.getD (t - 2) 0)
def shaSpread (bs : List UInt8) : Nat → List (BitVec 32)
  | 0 => []
  | t + 1 => shaSpread bs t ++ [if t < 16 then shaWord bs t else shaNext (shaSpread bs t) t]
theorem shaSpread_length (bs : List UInt8) : ∀ t, (shaSpread bs t).length = t
  | 0 => rfl
  | t + 1 => by simp [shaSpread, shaSpread_length bs t]
/-- So many rounds. -/
def shaRounds (o : Oct) (ws : List (BitVec 32)) : Nat → Oct
  | 0 => o
  | t + 1 => shaRound (shaRounds o ws t) (shaK.getD t 0) (ws.getD t 0)
def shaBlock (o : Oct) (bs : List UInt8) : Oct := o.plus (shaRounds o (shaSpread bs 64) 64)
/-- The chain of the first n blocks. -/
def shaChain (bs : List UInt8) : Nat → Oct
  | 0 => shaStart
  | n + 1 => shaBlock (shaChain bs n) ((bs.drop (64 * n)).take 64)
theorem shaChain_append (bs cs : List UInt8) : ∀ n, 64 * n ≤ bs.length → shaChain (bs ++ cs) n = shaChain bs n
  | 0, _ => rfl
  | n + 1, h => by
    rw [shaChain, shaChain, shaChain_append bs cs n (by omega), List.drop_append_of_le_length (by omega), List.take_append_of_le_length (by rw [List.length_drop]; omega)]
/-- The digest's bytes. -/
def word4 (x : BitVec 32) : List UInt8 := (putL x.toNat 4).reverse
theorem word4_length (x : BitVec 32) : (word4 x).length = 4 := by simp [word4, putL_length]
def words4 (l : List (BitVec 32)) : List UInt8 := (l.map word4).flatten
theorem words4_length (l : List (BitVec 32)) : (words4 l).length = 4 * l.length := by
  induction l with
  | nil => rfl
  | cons x l ih => simp only [words4, List.map_cons, List.flatten_cons, List.length_append, word4_length, List.length_cons] at *; omega
theorem words4_snoc (l : List (BitVec 32)) (x : BitVec 32) : words4 (l ++ [x]) = words4 l ++ word4 x := by simp [words4]
/-- What stands behind a message of n bytes. -/
def shaPad (n : Nat) : Nat := 64 - (n % 64 + 8) % 64
def shaEnd (n : Nat) : List UInt8 := 128 :: (List.replicate (shaPad n - 1) 0 ++ (putL (8 * n) 8).reverse)
theorem shaPad_pos (n : Nat) : 1 ≤ shaPad n ∧ shaPad n ≤ 64 := by unfold shaPad; omega
theorem shaEnd_length (n : Nat) : (shaEnd n).length = shaPad n + 8 := by
  have := shaPad_pos n
  simp [shaEnd, putL_length]; omega
theorem shaEnd_mod (n : Nat) : (n + (shaPad n + 8)) % 64 = 0 := by unfold shaPad; omega
def shaPadded (bs : List UInt8) : List UInt8 := bs ++ shaEnd bs.length
theorem shaPadded_length (bs : List UInt8) : (shaPadded bs).length = bs.length + (shaPad bs.length + 8) := by rw [shaPadded, List.length_append, shaEnd_length]
def shaSum (bs : List UInt8) : List UInt8 := words4 (shaChain (shaPadded bs) ((shaPadded bs).length / 64)).list
theorem shaSum_length (bs : List UInt8) : (shaSum bs).length = 32 := by simp [shaSum, words4_length, Oct.list]
/- Go's operations on words of 32 bits. -/
theorem add32 (x y : BitVec 32) : ((x.toNat : Int) + (y.toNat : Int)) % 4294967296 = ((x + y).toNat : Int) := by
  rw [BitVec.toNat_add]; omega
theorem wadd32 (x y : BitVec 32) : IntKind.u32.wrap ((x.toNat : Int) + (y.toNat : Int)) = ((x + y).toNat : Int) := by
  rw [IntKind.wrap_u32, add32]
theorem add32_4 (x y z u : BitVec 32) : ((x.toNat : Int) + (y.toNat : Int) + (z.toNat : Int) + (u.toNat : Int)) % 4294967296 = ((x + y + z + u).toNat : Int) := by
  simp only [BitVec.toNat_add]; omega
theorem add32_5 (x y z u v : BitVec 32) : ((x.toNat : Int) + (y.toNat : Int) + (z.toNat : Int) + (u.toNat : Int) + (v.toNat : Int)) % 4294967296 = ((x + y + z + u + v).toNat : Int) := by
  simp only [BitVec.toNat_add]; omega
theorem not32 (x : BitVec 32) : bits .xor .u32 (if IntKind.u32.signed = true then -1 else IntKind.u32.max) (x.toNat : Int) = ((~~~x).toNat : Int) := by
  have h := xor32 (BitVec.allOnes 32) x
  rw [BitVec.allOnes_xor] at h
  exact h
theorem one_eq (q : Oct) (k w : BitVec 32) : ((q.h.toNat : Int) + ((tri32 q.e 6 11 25).toNat : Int) + bits .xor .u32 (bits .and .u32 (q.e.toNat : Int) (q.f.toNat : Int)) (bits .and .u32 (bits .xor .u32 (if IntKind.u32.signed = true then -1 else IntKind.u32.max) (q.e.toNat : Int)) (q.g.toNat : Int)) + (k.toNat : Int) + (w.toNat : Int)) % 4294967296 = ((shaOne q k w).toNat : Int) := by
  rw [not32, and32, and32, xor32, add32_5]; rfl
theorem two_eq (q : Oct) : (((tri32 q.a 2 13 22).toNat : Int) + bits .xor .u32 (bits .xor .u32 (bits .and .u32 (q.a.toNat : Int) (q.b.toNat : Int)) (bits .and .u32 (q.a.toNat : Int) (q.c.toNat : Int))) (bits .and .u32 (q.b.toNat : Int) (q.c.toNat : Int))) % 4294967296 = ((shaTwo q).toNat : Int) := by
  rw [and32, and32, and32, xor32, xor32, add32]; rfl
end Go.Proofs.YtmhelmmonkgmmaaDoor
namespace Go.Proofs.YtmhelmmonkgmmaaDoor
open Go.RowKit
/-- Bytes with noughts behind them, 64 in all. -/
def macFill (k : List UInt8) : List UInt8 := (k ++ List.replicate 64 0).take 64
/-- The key's block. -/
def macKey (key : List UInt8) : List UInt8 := macFill (if 64 < key.length then shaSum key else key)
def macPad (bs : List UInt8) (p : UInt8) : List UInt8 := bs.map (· ^^^ p)
def macIn (key msg : List UInt8) : List UInt8 := shaSum (macPad (macKey key) 54 ++ msg)
/-- The code of a message by a key. -/
def macSum (key msg : List UInt8) : List UInt8 := shaSum (macPad (macKey key) 92 ++ macIn key msg)
theorem macFill_length (k : List UInt8) : (macFill k).length = 64 := by simp [macFill]
theorem macKey_length (key : List UInt8) : (macKey key).length = 64 := macFill_length _
theorem macPad_length (bs : List UInt8) (p : UInt8) : (macPad bs p).length = bs.length := by simp [macPad]
theorem macIn_length (key msg : List UInt8) : (macIn key msg).length = 32 := shaSum_length _
theorem macSum_length (key msg : List UInt8) : (macSum key msg).length = 32 := shaSum_length _
theorem macKey_short (key : List UInt8) (h : key.length ≤ 64) : macKey key = macFill key := by rw [macKey, if_neg (by omega)]
theorem macKey_long (key : List UInt8) (h : 64 < key.length) : macKey key = macFill (shaSum key) := by rw [macKey, if_pos h]
theorem macKey_digest (key : List UInt8) (h : 64 < key.length) : macKey (shaSum key) = macKey key := by
  rw [macKey_long key h, macKey_short _ (by rw [shaSum_length]; omega)]
theorem macFill_eq (k : List UInt8) (h : k.length ≤ 64) : macFill k = k ++ List.replicate (64 - k.length) 0 := by
  rw [macFill, List.take_append, List.take_of_length_le h, List.take_replicate, Nat.min_eq_left (by omega)]
theorem macKey_noughts (key : List UInt8) (n : Nat) (h : key.length + n ≤ 64) : macKey (key ++ List.replicate n 0) = macKey key := by
  have e : (key ++ List.replicate n (0 : UInt8)).length = key.length + n := by simp
  rw [macKey_short _ (by omega), macKey_short _ (by omega), macFill_eq _ (by omega), macFill_eq _ (by omega), e, List.append_assoc, List.replicate_append_replicate, show n + (64 - (key.length + n)) = 64 - key.length by omega]
theorem macSum_key {a b : List UInt8} (h : macKey a = macKey b) (msg : List UInt8) : macSum a msg = macSum b msg := by
  unfold macSum macIn; rw [h]
theorem macFill_at (k : List UInt8) (h : k.length ≤ 64) (i : Nat) (hi : i < 64) : (macFill k)[i]'(by rw [macFill_length]; exact hi) = k.getD i 0 := by
  have e : (macFill k)[i]? = some (k.getD i 0) := by
    rw [macFill_eq k h]
    by_cases hk : i < k.length
    · rw [List.getElem?_append_left hk]; simp [List.getD, hk]
    · rw [List.getElem?_append_right (by omega), List.getElem?_replicate, if_pos (by omega)]; simp [List.getD, List.getElem?_eq_none (by omega : k.length ≤ i)]
  exact (List.getElem?_eq_some_iff.1 e).2
theorem jefe : macSum [74, 101, 102, 101] [119, 104, 97, 116, 32, 100, 111, 32, 121, 97, 32, 119, 97, 110, 116, 32, 102, 111, 114, 32, 110, 111, 116, 104, 105, 110, 103, 63] = [0x5b, 0xdc, 0xc1, 0x46, 0xbf, 0x60, 0x75, 0x4e, 0x6a, 0x04, 0x24, 0x26, 0x08, 0x95, 0x75, 0xc7, 0x5a, 0x00, 0x3f, 0x08, 0x9d, 0x27, 0x39, 0x83, 0x9d, 0xec, 0x58, 0xb9, 0x64, 0xec, 0x38, 0x43] := by decide +kernel
end Go.Proofs.YtmhelmmonkgmmaaDoor
namespace Go.Proofs.YtmhelmmonkgmmaaDoor
open Go.RowKit
/-- The k-th block of an expansion, from 1 on; ahead of the first one: nothing. -/
def hkT (key info : List UInt8) : Nat → List UInt8
  | 0 => []
  | k + 1 => macSum key (hkT key info k ++ info ++ [UInt8.ofNat (k + 1)])
/-- The first k blocks. -/
def hkAll (key info : List UInt8) : Nat → List UInt8
  | 0 => []
  | k + 1 => hkAll key info k ++ hkT key info (k + 1)
/-- n bytes of the expansion. -/
def hkdf (key info : List UInt8) (n : Nat) : List UInt8 := (hkAll key info 255).take n
section
variable (key info : List UInt8)
theorem hkT_zero : hkT key info 0 = [] := rfl
theorem hkT_next (k : Nat) : hkT key info (k + 1) = macSum key (hkT key info k ++ info ++ [UInt8.ofNat (k + 1)]) := rfl
theorem hkT_length (k : Nat) : (hkT key info (k + 1)).length = 32 := macSum_length _ _
theorem hkT_le (k : Nat) : (hkT key info k).length ≤ 32 := by
  cases k with
  | zero => simp [hkT]
  | succ k => rw [hkT_length]; exact Nat.le_refl _
theorem hkAll_zero : hkAll key info 0 = [] := rfl
theorem hkAll_next (k : Nat) : hkAll key info (k + 1) = hkAll key info k ++ hkT key info (k + 1) := rfl
theorem hkAll_length : ∀ k, (hkAll key info k).length = 32 * k
  | 0 => rfl
  | k + 1 => by rw [hkAll_next, List.length_append, hkAll_length k, hkT_length]; omega
theorem hkAll_take (k n : Nat) (hn : n ≤ 32 * k) : ∀ j, (hkAll key info (k + j)).take n = (hkAll key info k).take n
  | 0 => rfl
  | j + 1 => by
    rw [← Nat.add_assoc, hkAll_next, List.take_append_of_le_length (by rw [hkAll_length]; omega), hkAll_take k n hn j]
theorem hkdf_of (k n : Nat) (hk : k ≤ 255) (hn : n ≤ 32 * k) : (hkAll key info k).take n = hkdf key info n := by
  rw [hkdf, ← hkAll_take key info k n hn (255 - k), show k + (255 - k) = 255 by omega]
theorem hkdf_length (n : Nat) (hn : n ≤ 8160) : (hkdf key info n).length = n := by
  rw [hkdf, List.length_take, hkAll_length]; omega
theorem hkdf_take (m n : Nat) (h : m ≤ n) : (hkdf key info n).take m = hkdf key info m := by
  rw [hkdf, hkdf, List.take_take, Nat.min_eq_left h]
/-- What is there behind k blocks, where only n bytes are kept. -/
def hkTo (n k : Nat) : List UInt8 := (hkAll key info k).take n
theorem hkTo_zero (n : Nat) : hkTo key info n 0 = [] := by simp [hkTo, hkAll]
theorem hkTo_length (n k : Nat) : (hkTo key info n k).length = min n (32 * k) := by rw [hkTo, List.length_take, hkAll_length]
theorem hkTo_next (n k : Nat) (h : 32 * k < n) : hkTo key info n (k + 1) = hkTo key info n k ++ (hkT key info (k + 1)).take (min 32 (n - 32 * k)) := by
  have e1 : (hkAll key info k).take n = hkAll key info k := List.take_of_length_le (by rw [hkAll_length]; omega)
  rw [hkTo, hkTo, e1, hkAll_next, List.take_append, e1, hkAll_length]
  congr 1
  rcases Nat.le_total 32 (n - 32 * k) with h1 | h1
  · rw [Nat.min_eq_left h1, List.take_of_length_le (by rw [hkT_length]; exact h1), List.take_of_length_le (by rw [hkT_length]; exact Nat.le_refl _)]
  · rw [Nat.min_eq_right h1]
theorem hkTo_end (n k : Nat) (hk : k ≤ 255) (h : n ≤ 32 * k) : hkTo key info n k = hkdf key info n := hkdf_of key info k n hk h
end
/-- What stands ahead of each label. -/
def labelPre : List UInt8 := [102, 101, 108, 108, 111, 119, 115, 104, 105, 112, 32]
/-- A number's two bytes, the high one first. -/
def two8 (n : Nat) : List UInt8 := [UInt8.ofNat (n / 256), UInt8.ofNat n]
/-- A label's info. -/
def infoL (label ctx : List UInt8) (n : Nat) : List UInt8 := two8 n ++ ([UInt8.ofNat (11 + label.length)] ++ ((labelPre ++ label) ++ (two8 ctx.length ++ ctx)))
theorem infoL_length (label ctx : List UInt8) (n : Nat) : (infoL label ctx n).length = 16 + label.length + ctx.length := by
  simp [infoL, two8, labelPre]; omega
theorem ofNat8_inj {a b : Nat} (ha : a < 256) (hb : b < 256) (h : UInt8.ofNat a = UInt8.ofNat b) : a = b := by
  have h2 := congrArg UInt8.toNat h
  rw [UInt8.toNat_ofNat', UInt8.toNat_ofNat'] at h2
  omega
/-- Unlike labels and contexts have unlike infos. -/
theorem infoL_inj {a b x y : List UInt8} {n : Nat} (ha : a.length ≤ 200) (hb : b.length ≤ 200) (h : infoL a x n = infoL b y n) : a = b ∧ x = y := by
  unfold infoL at h
  have h1 := List.append_cancel_left h
  simp only [List.singleton_append, List.cons.injEq] at h1
  have hl : a.length = b.length := by have := ofNat8_inj (by omega) (by omega) h1.1; omega
  have h2 := List.append_inj h1.2 (by simp [hl])
  refine ⟨List.append_cancel_left h2.1, ?_⟩
  have h3 := List.append_inj h2.2 (by simp [two8])
  exact h3.2
theorem infoL_beq (a b x y : List UInt8) (n : Nat) (ha : a.length ≤ 200) (hb : b.length ≤ 200) : (infoL a x n == infoL b y n) = ((a == b) && (x == y)) := by
  rw [Bool.eq_iff_iff, beq_iff_eq, Bool.and_eq_true, beq_iff_eq, beq_iff_eq]
  exact ⟨fun h => infoL_inj ha hb h, fun ⟨h1, h2⟩ => by rw [h1, h2]⟩
theorem infoL_other (a x : List UInt8) : (infoL a x 32 == infoL a x 33) = false := by
  rw [beq_eq_false_iff_ne]
  intro h
  have h1 : ([UInt8.ofNat (32 / 256), UInt8.ofNat 32] : List UInt8) = [UInt8.ofNat (33 / 256), UInt8.ofNat 33] := (List.append_inj h (by simp [two8])).1
  exact absurd h1 (by decide)
/-- The chapter's example. -/
theorem infoL_x : infoL [120] [] 32 = [0, 32, 12, 102, 101, 108, 108, 111, 119, 115, 104, 105, 112, 32, 120, 0, 0] := by decide +kernel
end Go.Proofs.YtmhelmmonkgmmaaDoor
namespace Go.Proofs.YtmhelmmonkgmmaaDoor
open Go.RowKit
/-- Block g is just these cells. -/
def Cells (w : World) (g : Nat) (vs : List Value) (t : TypeId) : Prop := w.heap[g]? = some (.cells vs.toArray t (0, 0))
/-- Of all blocks that there were only g may have turned. -/
structure But (g : Nat) (w w' : World) : Prop where
  os : w'.os = w.os
  tape : w'.tape = w.tape
  output : w'.output = w.output
  size : w.heap.size ≤ w'.heap.size
  block : ∀ k, k < w.heap.size → k ≠ g → w'.heap[k]? = w.heap[k]?
theorem heap_setCells (b : Nat) : ∀ (vs : List Value) (o : Nat) (w : World), (w.setCells b o vs).os = w.os ∧ (w.setCells b o vs).tape = w.tape ∧ (w.setCells b o vs).output = w.output ∧ (w.setCells b o vs).heap.size = w.heap.size ∧ ∀ k, k ≠ b → (w.setCells b o vs).heap[k]? = w.heap[k]?
  | [], _, _ => ⟨rfl, rfl, rfl, rfl, fun _ _ => rfl⟩
  | v :: r, o, w => by
    obtain ⟨h1, h2, h3, h4, h5⟩ := heap_setCells b r (o + 1) (w.setCell ⟨b, o, none⟩ v)
    refine ⟨h1, h2, h3, h4.trans (by simp [World.setCell]), fun k hk => (h5 k hk).trans (Below.heap_setCell _ _ _ _ hk)⟩
theorem heap_lt {w : World} {b : Nat} {o : Obj} (h : w.heap[b]? = some o) : b < w.heap.size := by
  rcases Nat.lt_or_ge b w.heap.size with hlt | hge
  · exact hlt
  · rw [Array.getElem?_eq_none hge] at h; cases h
section
variable {w w' w'' : World} {g B : Nat} {vs : List Value} {t : TypeId}
theorem Cells.cell (h : Cells w g vs t) (j : Nat) (hj : j < vs.length) : w.cell? ⟨g, j, none⟩ = some vs[j] := by
  rw [cell_of_row w g j _ _ _ h]
  simp [hj]
theorem Cells.get (h : Cells w g vs t) {j : Nat} {v : Value} (hj : vs[j]? = some v) : w.cell? ⟨g, j, none⟩ = some v := by
  rw [cell_of_row w g j _ _ _ h, List.getElem?_toArray, hj]
theorem Cells.lt (h : Cells w g vs t) : g < w.heap.size := heap_lt h
theorem Cells.below (h : Cells w g vs t) (hb : Below B w w') (hg : g < B) : Cells w' g vs t := (hb.block g hg).trans h
theorem Cells.frozen (h : Cells w g vs t) (j : Nat) : w.frozen? ⟨g, j, none⟩ = false := by
  unfold Cells at h
  simp [World.frozen?, h]
theorem Cells.set (h : Cells w g vs t) (j : Nat) (u : Value) : Cells (w.setCell ⟨g, j, none⟩ u) g (vs.set j u) t := by
  unfold Cells at h ⊢
  simp [World.setCell, Array.getElem?_modify, h]
theorem Cells.other (h : Cells w g vs t) {p : Addr} (hp : g ≠ p.block) (u : Value) : Cells (w.setCell p u) g vs t := (Below.heap_setCell _ _ _ _ hp).trans h
theorem Cells.drewN (h : Cells w g vs t) (n : Nat) : Cells (w.drewN n) g vs t := h
theorem Cells.drew (h : Cells w g vs t) : Cells w.drew g vs t := h
theorem Cells.alloc (h : Cells w g vs t) (o : Obj) : Cells (w.alloc o) g vs t := (Below.heap_alloc _ _ _ h.lt).trans h
theorem Cells.new (w : World) (vs : Array Value) (t : TypeId) : Cells (w.alloc (.cells vs t)) w.heap.size vs.toList t := by
  have := heap_alloc_new w (.cells vs t)
  unfold Cells
  rw [this]
theorem Cells.range (h : Cells w g vs t) (o n : Nat) : w.rangeAt g o ((vs.drop o).take n) := by
  intro j v hj
  rw [List.getElem?_take] at hj
  split at hj
  · rw [List.getElem?_drop] at hj
    exact h.get hj
  · cases hj
theorem Cells.there (h : Cells w g vs t) (o n : Nat) (hn : o + n ≤ vs.length) : w.there g o n := fun j hj =>
  ⟨by rw [h.cell (o + j) (by omega)]; rfl, h.frozen _⟩
/-- A piece of a list, written anew. -/
def splice (vs : List Value) (o : Nat) (cs : List Value) : List Value := vs.take o ++ cs ++ vs.drop (o + cs.length)
theorem splice_length (vs cs : List Value) (o : Nat) (h : o + cs.length ≤ vs.length) : (splice vs o cs).length = vs.length := by
  simp [splice]; omega
theorem set_splice (vs : List Value) (o : Nat) (u : Value) (cs : List Value) (h : o + 1 + cs.length ≤ vs.length) : splice (vs.set o u) (o + 1) cs = splice vs o (u :: cs) := by
  have e1 : (vs.set o u).take (o + 1) = vs.take o ++ [u] := by
    rw [List.take_succ_eq_append_getElem (by simp; omega), List.take_set_of_le (Nat.le_refl _)]
    simp
  have e2 : (vs.set o u).drop (o + 1 + cs.length) = vs.drop (o + (cs.length + 1)) := by
    rw [List.drop_set_of_lt (by omega)]
    congr 1; omega
  simp [splice, e1, e2]
theorem Cells.setCells : ∀ {cs : List Value} {w : World} {vs : List Value} {o : Nat}, Cells w g vs t → o + cs.length ≤ vs.length → Cells (w.setCells g o cs) g (splice vs o cs) t
  | [], w, vs, o, h, _ => by
    have e : splice vs o [] = vs := by simp [splice]
    rw [e]; exact h
  | u :: cs, w, vs, o, h, hl => by
    rw [← set_splice vs o u cs (by simp at hl; omega)]
    exact Cells.setCells (h.set o u) (by simp at hl ⊢; omega)
theorem Cells.otherCells (h : Cells w g vs t) {b : Nat} (hp : g ≠ b) (o : Nat) (cs : List Value) : Cells (w.setCells b o cs) g vs t := ((heap_setCells b cs o w).2.2.2.2 g hp).trans h
theorem But.refl (g : Nat) (w : World) : But g w w := ⟨rfl, rfl, rfl, Nat.le_refl _, fun _ _ _ => rfl⟩
theorem But.trans (h : But g w w') (k : But g w' w'') : But g w w'' :=
  ⟨k.os.trans h.os, k.tape.trans h.tape, k.output.trans h.output, Nat.le_trans h.size k.size, fun i hi hg => (k.block i (Nat.lt_of_lt_of_le hi h.size) hg).trans (h.block i hi hg)⟩
theorem But.of_below (h : Below w.heap.size w w') : But g w w' := ⟨h.os, h.tape, h.output, h.size, fun k hk _ => h.block k hk⟩
theorem But.below (h : But g w w') (hB : B ≤ g) (hw : B ≤ w.heap.size) : Below B w w' := ⟨h.os, h.tape, h.output, h.size, fun k hk => h.block k (by omega) (by omega)⟩
theorem But.drew (h : But g w w') : But g w w'.drew := ⟨h.os, h.tape, h.output, h.size, h.block⟩
theorem But.drewN (h : But g w w') (n : Nat) : But g w (w'.drewN n) := ⟨h.os, h.tape, h.output, h.size, h.block⟩
theorem But.setCell (h : But g w w') (j : Nat) (u : Value) : But g w (w'.setCell ⟨g, j, none⟩ u) :=
  h.trans ⟨rfl, rfl, rfl, by simp [World.setCell], fun k _ hk => Below.heap_setCell _ _ _ _ hk⟩
theorem But.alloc (h : But g w w') (o : Obj) : But g w (w'.alloc o) := h.trans ⟨rfl, rfl, rfl, by simp, fun k hk _ => Below.heap_alloc _ _ _ hk⟩
theorem But.setCells (h : But g w w') (o : Nat) (cs : List Value) : But g w (w'.setCells g o cs) := by
  obtain ⟨h1, h2, h3, h4, h5⟩ := heap_setCells g cs o w'
  exact h.trans ⟨h1, h2, h3, by rw [h4]; exact Nat.le_refl _, fun k _ hk => h5 k hk⟩
theorem below_setCells {B b : Nat} (h : Below B w w') (hb : B ≤ b) (o : Nat) (cs : List Value) : Below B w (w'.setCells b o cs) := by
  obtain ⟨h1, h2, h3, h4, h5⟩ := heap_setCells b cs o w'
  exact h.trans ⟨h1, h2, h3, by rw [h4]; exact Nat.le_refl _, fun k hk => h5 k (by omega)⟩
/-- A change of block b as well, where b is new. -/
theorem But.new (h : But g w w') {b : Nat} (hb : w.heap.size ≤ b) (k : But b w' w'') : But g w w'' :=
  ⟨k.os.trans h.os, k.tape.trans h.tape, k.output.trans h.output, Nat.le_trans h.size k.size, fun i hi hg => (k.block i (Nat.lt_of_lt_of_le hi h.size) (by omega)).trans (h.block i hi hg)⟩
theorem Cells.but (h : Cells w g vs t) {b : Nat} (hb : But b w w') (hg : g ≠ b) : Cells w' g vs t := (hb.block g h.lt hg).trans h
theorem Row.but {A : Option Addr} {bs : List UInt8} {b : Nat} (h : Row w w.heap.size A bs) (hb : But b w w') (hg : bs ≠ [] → ∀ p, A = some p → p.block ≠ b) : Row w' w'.heap.size A bs := by
  rcases h with rfl | ⟨b', off, rfl, hb', hc⟩
  · exact .inl rfl
  · refine .inr ⟨b', off, rfl, Nat.lt_of_lt_of_le hb' hb.size, fun j u hu => ?_⟩
    have hne : bs ≠ [] := fun e => by subst e; simp at hu
    rw [World.cell?_of_block (w := w) (hb.block b' hb' (hg hne _ rfl))]
    exact hc j u hu
/-- A region whose head only reads and calls quietly, and whose tail comes in the text's order: the drawn world under a name. -/
theorem wp_region_tail {P : Program} {id : Nat} {Q : Exit → Act → World → Prop} {a : Act} {w : World} {l : List Oper} (n : Nat) (hm : P.follows .mixedOrders = true) (hB : Region.lexTailB .any l.toArray n = true)
    (h : ∀ w1, w1 = w.drew → wpStill P l.toArray w1 (fun a' => wpList P l.toArray Q (l.drop n) a' w1) (l.take n) a) : (Code.region id l.toArray true).wp P Q a w := wp_region_still_tail n hm hB (h _ rfl)
end
section
variable {P : Program} {w : World} {ops : Array Oper} {rest : List Oper} {o : Oper} {a : Act} {Q : Exit → Act → World → Prop}
/-- A literal of a struct or an array. -/
theorem build_step (hgd : o.guard = none) (t : TypeId) (parts : List (Nat × Operand)) (ho : o.op = .build t parts.toArray) (ps : List (Nat × Value)) (hp : (parts.map fun (i, x) => (i, a.eval x)) = ps) (v : Value) (hr : ∀ w, (Instr.build t ps.toArray).run P w = .ok v w)
    (h : wpList P ops Q rest (a.put o.dst v) w) : wpList P ops Q (o :: rest) a w := by
  refine wpList_plain hgd fun K hK => ?_
  unfold Oper.wp
  simp only [execOp, ho, List.map_toArray, hp, hr, Sem.run_bind, Sem.run_pure, Result.andThen_ok]
  exact hK _ _ h
/-- A literal of a slice. -/
theorem slice_step (hgd : o.guard = none) (t : TypeId) (n : Nat) (parts : List (Nat × Operand)) (ho : o.op = .buildSlice t n parts.toArray) (ps : List (Nat × Value)) (hp : (parts.map fun (i, x) => (i, a.eval x)) = ps) (e : TypeId) (vs : Array Value)
    (hr : ∀ w, (Instr.buildSlice t n ps.toArray).run P w = .ok (.slice (some ⟨w.heap.size, 0, none⟩) n n) (w.alloc (.cells vs e)))
    (h : ∀ w', w' = w.alloc (.cells vs e) → wpList P ops Q rest (a.put o.dst (.slice (some ⟨w.heap.size, 0, none⟩) n n)) w') : wpList P ops Q (o :: rest) a w := by
  refine wpList_plain hgd fun K hK => ?_
  unfold Oper.wp
  simp only [execOp, ho, List.map_toArray, hp, hr, Sem.run_bind, Sem.run_pure, Result.andThen_ok]
  exact hK _ _ (h _ rfl)
/-- A new variable of a type whose zero value is known whole. -/
theorem alloc_step (hgd : o.guard = none) (t : TypeId) (ho : o.op = .alloc t) (vs : Array Value) (hz : ∀ w, (zeroValue t).run P w = .ok (.agg vs) w)
    (h : ∀ w', w' = w.alloc (.cells vs t) → wpList P ops Q rest (a.put o.dst (.pointer (some ⟨w.heap.size, 0, none⟩))) w') : wpList P ops Q (o :: rest) a w := by
  refine wpList_plain hgd fun K hK => ?_
  unfold Oper.wp
  simp only [execOp, ho, Instr.alloc, hz, newVar, Value.cells, Sem.run_bind, Sem.run_pure, Result.andThen_ok, go_sem]
  exact hK _ _ (h _ rfl)
/-- An integer stored into one cell. -/
theorem store_step (hgd : o.guard = none) (t : TypeId) (x y : Operand) (ho : o.op = .store t x y) (g j : Nat) (ik : IntKind) (z : Int) (hx : a.eval x = .pointer (some ⟨g, j, none⟩)) (hy : a.eval y = .int ik z) (hs : (P.info? t).map (·.size) = some 1) (ht : w.there g j 1)
    (h : ∀ w', w' = w.setCell ⟨g, j, none⟩ (.int ik z) → wpList P ops Q rest (a.put o.dst undef) w') : wpList P ops Q (o :: rest) a w := by
  refine wpList_plain hgd fun K hK => ?_
  obtain ⟨i0, hi0, hs0⟩ := Option.map_eq_some_iff.1 hs
  have hst := run_storeCells_cells (P := P) g j [.int ik z] 0 w (fun i hi => by simpa using (ht i hi).1) (fun i hi => by simpa using (ht i hi).2) (by intro v hv; cases List.mem_singleton.1 hv; rfl)
  have hrun : (Instr.storeAt t (.pointer (some ⟨g, j, none⟩)) (.int ik z)).run P w = .ok () (w.setCell ⟨g, j, none⟩ (.int ik z)) := by
    simp only [Instr.storeAt, Instr.sureAddr, Sem.run_bind, Sem.run_pure, Result.andThen_ok]
    simp [storeVar, sizeOf, typeInfo, hi0, hs0, Value.cells, hst, World.setCells]
  unfold Oper.wp
  simp only [execOp, ho, hx, hy, hrun, Sem.run_bind, Sem.run_pure, Result.andThen_ok]
  exact hK _ _ (h _ rfl)
/-- A value laid into a new variable. -/
theorem box_step (hgd : o.guard = none) (t : TypeId) (x : Operand) (ho : o.op = .box t x) (vs : Array Value) (hx : a.eval x = .agg vs)
    (h : ∀ w', w' = w.alloc (.cells vs t) → wpList P ops Q rest (a.put o.dst (.pointer (some ⟨w.heap.size, 0, none⟩))) w') : wpList P ops Q (o :: rest) a w := by
  refine wpList_plain hgd fun K hK => ?_
  unfold Oper.wp
  simp only [execOp, ho, hx, Instr.box]
  simp only [newVar, Value.cells, Sem.run_bind, Sem.run_pure, Result.andThen_ok, go_sem]
  exact hK _ _ (h _ rfl)
end
/-- 'a[i]' of an array of integers by value. -/
theorem run_index_int {P : Program} {t e : TypeId} {n : Nat} {ik : IntKind} (vs : List Value) (k : Nat) (v : Value) (w : World) (hu : P.underlying t = some (.array n e)) (he : P.underlying e = some (.int ik)) (hs : (P.info? e).map (·.size) = some 1) (hk : k < n) (hv : vs[k]? = some v) :
    (Instr.index t (.agg vs.toArray) (.int .i64 (k : Int))).run P w = .ok v w := by
  cases hq : P.info? e with
  | none => simp [hq] at hs
  | some i =>
    have hs1 : i.size = 1 := by simpa [hq] using hs
    simp [Instr.index, run_underlying hu, asIntOf, hk, part, isAgg, run_underlying he, sizeOf, typeInfo, hq, hs1, hv, go_sem]
theorem Row.butB {w w' : World} {B g : Nat} {A : Option Addr} {bs : List UInt8} (h : Row w B A bs) (hb : But g w w') (hg : B ≤ g) (hw : B ≤ w.heap.size) : Row w' B A bs :=
  h.keep fun p hp => World.cell?_of_block (w := w) (hb.block p.block (by omega) (by omega))
/-- A row below B lies in no block from B on. -/
theorem Row.apart {w : World} {B g : Nat} {A : Option Addr} {bs : List UInt8} (h : Row w B A bs) (hg : B ≤ g) : bs ≠ [] → ∀ p, A = some p → p.block ≠ g := by
  intro hne p hp
  rcases h with rfl | ⟨b, off, rfl, hb, _⟩
  · exact absurd rfl hne
  · cases hp; show b ≠ g; omega
theorem splice_all (vs cs : List Value) (h : cs.length = vs.length) : splice vs 0 cs = cs := by simp [splice, h]
/-- A function whose result lies in a block of its own, a whole array or struct. -/
theorem ret_block {P : Program} {fn : Func} {R : Ending → World → Prop} {a : Act} {w : World} {p : Tmp} {ty : TypeId} {d : TypeDesc} (hres : fn.results = #[.cell p ty]) (g : Nat) (vs : List Value) (t : TypeId)
    (hp : a.tmps.getD p undef = .pointer (some ⟨g, 0, none⟩)) (hg : Cells w g vs t) (hu : P.underlying ty = some d) (hd : (match d with | .struct _ | .array _ _ => true | _ => false) = true) (hi : (P.info? ty).map (·.size) = some vs.length)
    (hdf : a.defers = []) (hR : R (.returned (.agg vs.toArray)) w) : bodyPost P fn R .ret a w :=
  bodyPost_ret (results_cell_row hres a.tmps w g t vs.toArray (0, 0) d hp hg hu hd (by simpa using hi)) hdf hR
theorem set_nextV {α : Type} (l : List α) (k n : Nat) (u z : α) (hl : l.length = k) (hk : k < n) : (l ++ List.replicate (n - k) z).set k u = l ++ [u] ++ List.replicate (n - (k + 1)) z := by
  obtain ⟨m, hm⟩ : ∃ m, n - k = m + 1 := ⟨n - k - 1, by omega⟩
  rw [hm, show n - (k + 1) = m by omega, List.set_append_right _ _ (by omega), hl, Nat.sub_self, List.replicate_succ]
  simp
theorem Row.piece {w : World} {B b off : Nat} {bs : List UInt8} (h : Row w B (some ⟨b, off, none⟩) bs) (i n : Nat) : Row w B (some ⟨b, off + i, none⟩) ((bs.drop i).take n) := by
  rcases h with rfl | ⟨b', off', hA, hb, hc⟩
  · exact .inl (by simp)
  · cases hA
    refine .inr ⟨b, off + i, rfl, hb, fun j u hu => ?_⟩
    rw [List.getElem?_take] at hu
    split at hu
    · rw [List.getElem?_drop] at hu
      rw [Nat.add_assoc]
      exact hc (i + j) u hu
    · cases hu
end Go.Proofs.YtmhelmmonkgmmaaDoor
namespace Go.Proofs.YtmhelmmonkgmmaaDoor
open Go.RowKit
theorem size_u8 : (Tryd.prog.info? 5).map (·.size) = some 1 := by kernel_rfl
theorem cells8_one (us : List UInt8) : ∀ v ∈ us.map cellOf, v.oneCell' = true := by
  intro v hv
  obtain ⟨x, _, rfl⟩ := List.mem_map.1 hv
  rfl
/-- 'copy(dst, src)', both rows of bytes, dst's room known. -/
theorem copy_row {w : World} {ops : Array Oper} {rest : List Oper} {o : Oper} {a : Act} {Q : Exit → Act → World → Prop} (hgd : o.guard = none) (d s : Operand)
    (ho : o.op = .call { callee := .builtin .copy, args := #[d, s], argTypes := #[22, 22] }) (g off dLen dCap sLen sCap B m : Nat) (A : Option Addr) (us : List UInt8) (hd : a.eval d = .slice (some ⟨g, off, none⟩) dLen dCap) (hs : a.eval s = .slice A sLen sCap)
    (hl : us.length = sLen) (hm : min sLen dLen = m) (hr : Row w B A us) (ht : w.there g off m) (h : ∀ w', w' = w.setCells g off ((us.take dLen).map cellOf) → wpList Tryd.prog ops Q rest (a.put o.dst (.int .i64 (m : Int))) w') : wpList Tryd.prog ops Q (o :: rest) a w := by
  subst hm
  replace h := h _ rfl
  have hlen : ((us.take dLen).map cellOf).length = Nat.min sLen dLen := by rw [List.length_map, List.length_take, hl, Nat.min_comm]
  by_cases h0 : Nat.min sLen dLen = 0
  · have e : (us.take dLen).map cellOf = [] := List.eq_nil_of_length_eq_zero (hlen.trans h0)
    refine wpList_copy_nothing hgd d s _ _ ho 5 Tryd.underlying22 size_u8 _ _ _ _ _ _ hd hs h0 ?_
    rw [e] at h
    have e2 : (min sLen dLen : Nat) = 0 := h0
    rw [e2] at h
    exact h
  · have hpos : us ≠ [] := by
      intro e
      subst e
      simp at hl
      subst hl
      simp at h0
    rcases hr with e | ⟨b, bo, rfl, hb, hc⟩
    · exact absurd e hpos
    · refine wpList_plain hgd fun K hK => ?_
      have hrun := run_copy_cells (P := Tryd.prog) w 22 22 o.type 5 g off dLen dCap ⟨b, bo, none⟩ sLen sCap ((us.take dLen).map cellOf) Tryd.underlying22 size_u8 hlen (fun j v hj => by
        rw [Addr.add_mid]
        rw [List.getElem?_map] at hj
        cases hu : (us.take dLen)[j]? with
        | none => rw [hu] at hj; cases hj
        | some u =>
          rw [hu] at hj
          cases hj
          refine hc j u ?_
          rw [List.getElem?_take] at hu
          split at hu
          · exact hu
          · cases hu) (fun j hj => (ht j (by rw [hlen] at hj; exact hj)).1) (fun j hj => (ht j (by rw [hlen] at hj; exact hj)).2) (cells8_one _)
      unfold Oper.wp
      simp only [execOp, ho, resolve, invoke, builtin, Sem.run_bind, Sem.run_pure, Result.andThen_ok, List.map_toArray, List.map_cons, List.map_nil, hd, hs, hrun]
      have e3 : goInt (((us.take dLen).map cellOf).length : Int) = .int .i64 ((min sLen dLen : Nat) : Int) := by rw [hlen]; rfl
      rw [e3]
      exact hK _ _ h
/-- Where a slice lies that is cut at l: at its room's end the address stays. -/
def cutA (A : Option Addr) (l cap : Nat) : Option Addr := if cap = l then A else A.map (·.add l)
theorem Row.cut {w : World} {B : Nat} {A : Option Addr} {us : List UInt8} (h : Row w B A us) (l cap : Nat) (hl : us.length ≤ cap) : Row w B (cutA A l cap) (us.drop l) := by
  unfold cutA
  split
  · exact .inl (List.drop_eq_nil_of_le (by omega))
  · rcases h with rfl | ⟨b, off, rfl, hb, hc⟩
    · exact .inl (by simp)
    · refine .inr ⟨b, off + l, by simp [Addr.add_mid], hb, fun j u hu => ?_⟩
      rw [List.getElem?_drop] at hu
      rw [Nat.add_assoc]
      exact hc (l + j) u hu
theorem cutA_block {A : Option Addr} {l cap : Nat} {p : Addr} (h : cutA A l cap = some p) : ∃ q, A = some q ∧ p.block = q.block := by
  unfold cutA at h
  split at h
  · exact ⟨p, h, rfl⟩
  · cases A with
    | none => cases h
    | some q =>
      simp only [Option.map_some, Option.some.injEq] at h
      refine ⟨q, rfl, ?_⟩
      rw [← h]
      unfold Addr.add
      split <;> rfl
theorem cutA_none {A : Option Addr} {l cap : Nat} (h : cutA A l cap = none) : A = none := by
  unfold cutA at h
  split at h
  · exact h
  · cases A with
    | none => rfl
    | some q => cases h
/-- 'b[l:]'. -/
theorem cut_from {w : World} {ops : Array Oper} {rest : List Oper} {o : Oper} {a : Act} {Q : Exit → Act → World → Prop} (hgd : o.guard = none) (x y : Operand) (ho : o.op = .slice 22 x (some y) none none)
    (A : Option Addr) (len cap l : Nat) (hx : a.eval x = .slice A len cap) (hy : a.eval y = .int .i64 (l : Int)) (hl : l ≤ len)
    (h : wpList Tryd.prog ops Q rest (a.put o.dst (.slice (cutA A l cap) (len - l) (cap - l))) w) : wpList Tryd.prog ops Q (o :: rest) a w := by
  refine wpList_plain hgd fun K hK => ?_
  obtain ⟨i0, hi0, hs0⟩ := Option.map_eq_some_iff.1 size_u8
  have hrun : (Instr.sliceAt 22 (.slice A len cap) (some (.int .i64 (l : Int))) none none).run Tryd.prog w = .ok (.slice (cutA A l cap) (len - l) (cap - l)) w := by
    have hu : Tryd.prog.underlying 22 = some (.slice 5) := Tryd.underlying22
    have h1 : (Instr.sliceAt 22 (.slice A len cap) (some (.int .i64 (l : Int))) none none).run Tryd.prog w = (Instr.slice 22 (.slice A len cap) (some (.int .i64 (l : Int))) none none).run Tryd.prog w := by
      simp [Instr.sliceAt, run_underlying hu]
    rw [h1]
    have hl' : (l : Int) ≤ (len : Int) := by omega
    simp [Instr.slice, run_underlying hu, Instr.sliceBounds, run_sliceBound, hl, sizeOf, typeInfo, hi0, hs0, cutA]
  unfold Oper.wp
  simp only [execOp, ho, hx, hy, Option.map_some, Option.map_none, hrun, Sem.run_bind, Sem.run_pure, Result.andThen_ok]
  exact hK _ _ h
end Go.Proofs.YtmhelmmonkgmmaaDoor
namespace Go.Proofs.YtmhelmmonkgmmaaDoor
open Go.RowKit
/-- The waiting bytes behind more of them. -/
def restPut (rest us : List UInt8) (h : Nat) : List UInt8 := rest.take h ++ us ++ rest.drop (h + us.length)
theorem restPut_length (rest us : List UInt8) (h : Nat) (hl : h + us.length ≤ rest.length) : (restPut rest us h).length = rest.length := by
  simp [restPut]; omega
theorem restPut_take (rest us : List UInt8) (h : Nat) (hl : h + us.length ≤ rest.length) : (restPut rest us h).take (h + us.length) = rest.take h ++ us := by
  rw [restPut, List.take_append_of_le_length (by simp; omega), List.take_of_length_le (by simp; omega)]
theorem splice_mid (X R T cs : List Value) (h : Nat) (hl : h + cs.length ≤ R.length) : splice (X ++ R ++ T) (X.length + h) cs = X ++ (R.take h ++ cs ++ R.drop (h + cs.length)) ++ T := by
  unfold splice
  rw [List.append_assoc X R T, List.take_length_add_append, Nat.add_assoc, List.drop_length_add_append, List.take_append_of_le_length (by omega), List.drop_append_of_le_length (by omega)]
  simp
def lenOf : Value → Nat | .slice _ n _ => n | _ => 0
/-- A number's n bytes as cells, the high one first. -/
def bigCells (x n : Nat) : List Value := (putL x n).reverse.map cellOf
theorem Cells.row {w : World} {g m : Nat} {vs : List Value} {t : TypeId} {us : List UInt8} (h : Cells w g vs t) (hv : vs.take m = us.map cellOf) : Row w w.heap.size (some ⟨g, 0, none⟩) us := by
  refine .inr ⟨g, 0, rfl, h.lt, fun j u hu => ?_⟩
  rw [Nat.zero_add]
  refine h.get ?_
  have h1 : (vs.take m)[j]? = some (cellOf u) := by rw [hv, List.getElem?_map, hu]; rfl
  rw [List.getElem?_take] at h1
  split at h1
  · exact h1
  · cases h1
/-- A digest as the program holds it. -/
def hashVal (ds : List UInt8) : Value := .agg (ds.map cellOf).toArray
/-- The value v is a slice of these bytes. -/
def Part (w : World) (B : Nat) (v : Value) (us : List UInt8) : Prop := ∃ A c, v = .slice A us.length c ∧ Row w B A us ∧ us.length ≤ c ∧ c ≤ maxLen ∧ (A = none → c = 0)
/-- The address leads to so many slices of bytes. -/
def Parts (w : World) (B : Nat) (D : Option Addr) (ps : List (List UInt8)) : Prop :=
  ps = [] ∨ ∃ b off, D = some ⟨b, off, none⟩ ∧ b < B ∧ ∀ j us, ps[j]? = some us → ∃ v, w.cell? ⟨b, off + j, none⟩ = some v ∧ Part w B v us
theorem Part.below {w w' : World} {B : Nat} {v : Value} {us : List UInt8} (h : Part w B v us) (hb : Below B w w') : Part w' B v us := by
  obtain ⟨A, c, e, hr, h1, h2⟩ := h
  exact ⟨A, c, e, hr.below hb, h1, h2⟩
theorem Part.more {w : World} {B B' : Nat} {v : Value} {us : List UInt8} (h : Part w B v us) (hB : B ≤ B') : Part w B' v us := by
  obtain ⟨A, c, e, hr, h1, h2⟩ := h
  exact ⟨A, c, e, hr.more hB, h1, h2⟩
theorem Parts.below {w w' : World} {B : Nat} {D : Option Addr} {ps : List (List UInt8)} (h : Parts w B D ps) (hb : Below B w w') : Parts w' B D ps := by
  rcases h with rfl | ⟨b, off, rfl, hlt, hc⟩
  · exact .inl rfl
  · refine .inr ⟨b, off, rfl, hlt, fun j us hu => ?_⟩
    obtain ⟨v, h1, h2⟩ := hc j us hu
    exact ⟨v, (hb.cell hlt).trans h1, h2.below hb⟩
theorem Parts.more {w : World} {B B' : Nat} {D : Option Addr} {ps : List (List UInt8)} (h : Parts w B D ps) (hB : B ≤ B') : Parts w B' D ps := by
  rcases h with rfl | ⟨b, off, rfl, hlt, hc⟩
  · exact .inl rfl
  · refine .inr ⟨b, off, rfl, by omega, fun j us hu => ?_⟩
    obtain ⟨v, h1, h2⟩ := hc j us hu
    exact ⟨v, h1, h2.more hB⟩
theorem Parts.at {w : World} {B : Nat} {D : Option Addr} {ps : List (List UInt8)} (h : Parts w B D ps) (k : Nat) (hk : k < ps.length) : ∃ b off A c, D = some ⟨b, off, none⟩ ∧ w.cell? ⟨b, off + k, none⟩ = some (.slice A ps[k].length c) ∧ Row w B A ps[k] ∧ ps[k].length ≤ c ∧ c ≤ maxLen ∧ (A = none → c = 0) := by
  rcases h with rfl | ⟨b, off, rfl, hlt, hc⟩
  · simp at hk
  · obtain ⟨v, h1, A, c, rfl, h2, h3, h4⟩ := hc k _ (List.getElem?_eq_getElem hk)
    exact ⟨b, off, A, c, rfl, h1, h2, h3, h4⟩
theorem flatten_take_le (ps : List (List UInt8)) (k : Nat) : (ps.take k).flatten.length ≤ ps.flatten.length := by
  conv => rhs; rw [← List.take_append_drop k ps, List.flatten_append, List.length_append]
  omega
theorem parts_lit (w : World) (vs : Array Value) (ps : List (List UInt8)) (h : ∀ (j : Nat) (us : List UInt8), ps[j]? = some us → ∃ v, vs[j]? = some v ∧ Part w w.heap.size v us) :
    Parts (w.alloc (.cells vs 22)) (w.alloc (.cells vs 22)).heap.size (some ⟨w.heap.size, 0, none⟩) ps := by
  refine .inr ⟨w.heap.size, 0, rfl, by simp, fun j us hu => ?_⟩
  obtain ⟨v, hv, A, c, e, hr, h1, h2⟩ := h j us hu
  have hb : Below w.heap.size w (w.alloc (.cells vs 22)) := (Below.refl _ _).alloc (Nat.le_refl _) _
  refine ⟨v, ?_, A, c, e, (hr.on hb), h1, h2⟩
  rw [Nat.zero_add, World.cell?_alloc_at _ _ _ _ rfl]
  exact hv
theorem row_lit (w : World) (bs : List UInt8) (f : Nat × Nat) : Row (w.alloc (.cells (bs.map cellOf).toArray 5 f)) (w.heap.size + 1) (some ⟨w.heap.size, 0, none⟩) bs := by
  refine .inr ⟨w.heap.size, 0, rfl, by omega, fun j u hu => ?_⟩
  rw [Nat.zero_add, cell_of_row _ _ _ _ _ _ (heap_alloc_new w _), List.getElem?_toArray, List.getElem?_map, hu]
  rfl
/-- An operation under a guard that holds goes as one without. -/
theorem unguard {P : Program} {w : World} {ops : Array Oper} {rest : List Oper} {o : Oper} {a : Act} {Q : Exit → Act → World → Prop} (hw : Region.wanted o (yielded ops a.tmps) = true) (h : wpList P ops Q ({ o with guard := none } :: rest) a w) : wpList P ops Q (o :: rest) a w := by
  unfold wpList at h ⊢
  rw [if_pos hw]
  rw [if_pos (by simp [Region.wanted])] at h
  exact h
theorem Owns.keep {w w' : World} {base : Nat} {v : Value} {bs : List UInt8} (h : Owns w base v bs) (hk : ∀ g, v.ownBlock = some g → w'.heap[g]? = w.heap[g]?) : Owns w' base v bs := by
  obtain ⟨h1, h2⟩ := h
  refine ⟨h1, ?_⟩
  rcases h2 with h2 | ⟨g, cap, cur, hv, hg, hh, r⟩
  · exact .inl h2
  · refine .inr ⟨g, cap, cur, hv, hg, ?_, r⟩
    rw [hk g (by rw [hv]; rfl)]
    exact hh
theorem Owns.on {w w' : World} {base : Nat} {v : Value} {bs : List UInt8} (h : Owns w base v bs) (hb : Below w.heap.size w w') : Owns w' base v bs :=
  h.keep fun g hg => hb.block g (World.ownsRow.lt h g hg).2
theorem Owns.but {w w' : World} {base g : Nat} {v : Value} {bs : List UInt8} (h : Owns w base v bs) (hb : But g w w') (hg : g < base) : Owns w' base v bs :=
  h.keep fun k hk => hb.block k (World.ownsRow.lt h k hk).2 (by have := (World.ownsRow.lt h k hk).1; omega)
/-- What a call answers that makes a new row of these bytes. -/
def GivesNew (w : World) (bs : List UInt8) (e : Ending) (w' : World) : Prop :=
  ∃ g c, e = .returned (.slice (some ⟨g, 0, none⟩) bs.length c) ∧ w.heap.size ≤ g ∧ Below w.heap.size w w' ∧ Row w' w'.heap.size (some ⟨g, 0, none⟩) bs
theorem getD_lt (ms : List UInt8) (j : Nat) (h : j < ms.length) : ms.getD j 0 = ms[j] := by simp [List.getD, h]
theorem Row.atD {w : World} {B : Nat} {A : Option Addr} {bs : List UInt8} (h : Row w B A bs) (k : Nat) (hk : k < bs.length) : ∃ b off, A = some ⟨b, off, none⟩ ∧ b < B ∧ w.cell? ⟨b, off + k, none⟩ = some (cellOf (bs.getD k 0)) := by
  obtain ⟨b, off, h1, h2, h3⟩ := h.at k hk
  refine ⟨b, off, h1, h2, ?_⟩
  rw [h3]
  simp [List.getD, List.getElem?_eq_getElem hk]

/-- 'make([]byte, m, n)', the world behind it under a name. -/
theorem make_step {w : World} {ops : Array Oper} {rest : List Oper} {o : Oper} {a : Act} {Q : Exit → Act → World → Prop} (hgd : o.guard = none) (l c : Operand) (ho : o.op = .makeSlice 22 l c) (m n : Nat) (hl : a.eval l = .int .i64 (m : Int)) (hc : a.eval c = .int .i64 (n : Int)) (hmn : m ≤ n) (hn : n ≤ 1000000)
    (h : ∀ w', Below w.heap.size w w' → Made w' w.heap.size (List.replicate n 0) → w'.heap.size = w.heap.size + 1 → wpList Tryd.prog ops Q rest (a.put o.dst (.slice (some ⟨w.heap.size, 0, none⟩) m n)) w') : wpList Tryd.prog ops Q (o :: rest) a w := by
  refine wpList_plain hgd fun K hK => ?_
  have hrun := make_bytes m n hmn hn w
  unfold Oper.wp
  simp only [execOp, ho, hl, hc, hrun, Sem.run_bind, Sem.run_pure, Result.andThen_ok]
  exact hK _ _ (h _ ((Below.refl _ _).alloc (Nat.le_refl _) _) (Made.new w _) (by simp))
theorem cutA_some (g o l cap : Nat) (h : ¬ cap = l) : cutA (some ⟨g, o, none⟩) l cap = some ⟨g, o + l, none⟩ := by
  unfold cutA
  rw [if_neg h]
  simp [Addr.add_mid]
theorem Made.cells {w : World} {g : Nat} {bs : List UInt8} (h : Made w g bs) : Cells w g (bs.map cellOf) 5 := h
theorem cells_at (w : World) (vs : List Value) (t : TypeId) (g : Nat) (hg : w.heap.size = g) : Cells (w.alloc (.cells vs.toArray t)) g vs t := by
  subst hg
  exact Cells.new w vs.toArray t
theorem slice_to (A : Option Addr) (n c i : Nat) (hi : i ≤ n) (hc : n ≤ c) (w : World) : (Instr.slice 22 (.slice A n c) none (some (.int .i64 (i : Int))) none).run Tryd.prog w = .ok (.slice (cutA A 0 c) i c) w := by
  obtain ⟨i0, hi0, hs0⟩ := Option.map_eq_some_iff.1 size_u8
  have h4 : (i : Int) ≤ (c : Int) := by omega
  simp [Instr.slice, run_underlying Tryd.underlying22, Instr.sliceBounds, run_sliceBound, sizeOf, typeInfo, hi0, cutA, h4]
theorem slice_mid (A : Option Addr) (n c i k : Nat) (hi : i ≤ k) (hk : k ≤ n) (hc : n ≤ c) (w : World) : (Instr.slice 22 (.slice A n c) (some (.int .i64 (i : Int))) (some (.int .i64 (k : Int))) none).run Tryd.prog w = .ok (.slice (cutA A i c) (k - i) (c - i)) w := by
  obtain ⟨i0, hi0, hs0⟩ := Option.map_eq_some_iff.1 size_u8
  have h4 : (k : Int) ≤ (c : Int) := by omega
  have h5 : (i : Int) ≤ (k : Int) := by omega
  simp [Instr.slice, run_underlying Tryd.underlying22, Instr.sliceBounds, run_sliceBound, sizeOf, typeInfo, hi0, hs0, cutA, h4, h5]
theorem slice_from (A : Option Addr) (n c k : Nat) (hk : k ≤ n) (w : World) : (Instr.slice 22 (.slice A n c) (some (.int .i64 (k : Int))) none none).run Tryd.prog w = .ok (.slice (cutA A k c) (n - k) (c - k)) w := by
  obtain ⟨i0, hi0, hs0⟩ := Option.map_eq_some_iff.1 size_u8
  have h5 : (k : Int) ≤ (n : Int) := by omega
  simp [Instr.slice, run_underlying Tryd.underlying22, Instr.sliceBounds, run_sliceBound, sizeOf, typeInfo, hi0, hs0, cutA, h5]
end Go.Proofs.YtmhelmmonkgmmaaDoor
