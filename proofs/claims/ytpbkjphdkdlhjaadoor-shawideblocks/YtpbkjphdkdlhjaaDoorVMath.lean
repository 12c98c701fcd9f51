/- SHA-512 as plain functions on bytes and words. No program is named here. -/
import Derived.Test.YtpbkjphdkdlhjaaDoorWPut
namespace Go.Proofs.YtpbkjphdkdlhjaaDoor
open Go.RowKit
/- The standard's functions on words of 64 bits. (Plain definitions: a walk leaves them whole.) -/
def widLow (x : BitVec 64) : BitVec 64 := rotR64 x 1 ^^^ rotR64 x 8 ^^^ (x >>> 7)
def widHigh (x : BitVec 64) : BitVec 64 := rotR64 x 19 ^^^ rotR64 x 61 ^^^ (x >>> 6)
def tri64 (x : BitVec 64) (i j k : Int) : BitVec 64 := rotR64 x i ^^^ rotR64 x j ^^^ rotR64 x k
def widA (x : BitVec 64) : BitVec 64 := tri64 x 28 34 39
def widE (x : BitVec 64) : BitVec 64 := tri64 x 14 18 41
def widCh (e f g : BitVec 64) : BitVec 64 := (e &&& f) ^^^ (~~~e &&& g)
def widMaj (a b c : BitVec 64) : BitVec 64 := (a &&& b) ^^^ (a &&& c) ^^^ (b &&& c)
/-- Eight words: a chain. -/
structure Wct where
  (a b c d e f g h : BitVec 64)
def Wct.list (o : Wct) : List (BitVec 64) := [o.a, o.b, o.c, o.d, o.e, o.f, o.g, o.h]
def Wct.plus (o p : Wct) : Wct := ⟨o.a + p.a, o.b + p.b, o.c + p.c, o.d + p.d, o.e + p.e, o.f + p.f, o.g + p.g, o.h + p.h⟩
def widOne (o : Wct) (k w : BitVec 64) : BitVec 64 := o.h + widE o.e + widCh o.e o.f o.g + k + w
def widTwo (o : Wct) : BitVec 64 := widA o.a + widMaj o.a o.b o.c
def widRound (o : Wct) (k w : BitVec 64) : Wct := ⟨widOne o k w + widTwo o, o.a, o.b, o.c, o.d + widOne o k w, o.e, o.f, o.g⟩
def widK : List (BitVec 64) := [4794697086780616226, 8158064640168781261, 13096744586834688815, 16840607885511220156, 4131703408338449720, 6480981068601479193, 10538285296894168987, 12329834152419229976, 15566598209576043074, 1334009975649890238, 2608012711638119052, 6128411473006802146, 8268148722764581231, 9286055187155687089, 11230858885718282805, 13951009754708518548, 16472876342353939154, 17275323862435702243, 1135362057144423861, 2597628984639134821, 3308224258029322869, 5365058923640841347, 6679025012923562964, 8573033837759648693, 10970295158949994411, 12119686244451234320, 12683024718118986047, 13788192230050041572, 14330467153632333762, 15395433587784984357, 489312712824947311, 1452737877330783856, 2861767655752347644, 3322285676063803686, 5560940570517711597, 5996557281743188959, 7280758554555802590, 8532644243296465576, 9350256976987008742, 10552545826968843579, 11727347734174303076, 12113106623233404929, 14000437183269869457, 14369950271660146224, 15101387698204529176, 15463397548674623760, 17586052441742319658, 1182934255886127544, 1847814050463011016, 2177327727835720531, 2830643537854262169, 3796741975233480872, 4115178125766777443, 5681478168544905931, 6601373596472566643, 7507060721942968483, 8399075790359081724, 8693463985226723168, 9568029438360202098, 10144078919501101548, 10430055236837252648, 11840083180663258601, 13761210420658862357, 14299343276471374635, 14566680578165727644, 15097957966210449927, 16922976911328602910, 17689382322260857208, 500013540394364858, 748580250866718886, 1242879168328830382, 1977374033974150939, 2944078676154940804, 3659926193048069267, 4368137639120453308, 4836135668995329356, 5532061633213252278, 6448918945643986474, 6902733635092675308, 7801388544844847127]
def widStart : Wct := ⟨7640891576956012808, 13503953896175478587, 4354685564936845355, 11912009170470909681, 5840696475078001361, 11170449401992604703, 2270897969802886507, 6620516959819538809⟩
/-- A block's words: the first k of the 80. -/
def widWord (bs : List UInt8) (i : Nat) : BitVec 64 := BitVec.ofNat 64 (bigN ((bs.drop (8 * i)).take 8))
def widNext (l : List (BitVec 64)) (t : Nat) : BitVec 64 := l.getD (t - 16) 0 + widLow (l.getD (t - 15) 0) + l.getD (t - 7) 0 + widHigh (l.getD (t - 2) 0)
def widSpread (bs : List UInt8) : Nat → List (BitVec 64)
  | 0 => []
  | t + 1 => widSpread bs t ++ [if t < 16 then widWord bs t else widNext (widSpread bs t) t]
theorem widSpread_length (bs : List UInt8) : ∀ t, (widSpread bs t).length = t
  | 0 => rfl
  | t + 1 => by simp [widSpread, widSpread_length bs t]
/-- So many rounds. -/
def widRounds (o : Wct) (ws : List (BitVec 64)) : Nat → Wct
  | 0 => o
  | t + 1 => widRound (widRounds o ws t) (widK.getD t 0) (ws.getD t 0)
def widBlock (o : Wct) (bs : List UInt8) : Wct := o.plus (widRounds o (widSpread bs 80) 80)
/-- The chain of the first n blocks. -/
def widChain (bs : List UInt8) : Nat → Wct
  | 0 => widStart
  | n + 1 => widBlock (widChain bs n) ((bs.drop (128 * n)).take 128)
/-- The digest's bytes. -/
def word8 (x : BitVec 64) : List UInt8 := (putL x.toNat 8).reverse
theorem word8_length (x : BitVec 64) : (word8 x).length = 8 := by simp [word8, putL_length]
def words8 (l : List (BitVec 64)) : List UInt8 := (l.map word8).flatten
theorem words8_length (l : List (BitVec 64)) : (words8 l).length = 8 * l.length := by
  induction l with
  | nil => rfl
  | cons x l ih => simp only [words8, List.map_cons, List.flatten_cons, List.length_append, word8_length, List.length_cons] at *; omega
theorem words8_snoc (l : List (BitVec 64)) (x : BitVec 64) : words8 (l ++ [x]) = words8 l ++ word8 x := by simp [words8]
/-- What stands behind a message of n bytes. -/
def widPad (n : Nat) : Nat := 128 - (n % 128 + 16) % 128
def widEnd (n : Nat) : List UInt8 := 128 :: (List.replicate (widPad n - 1) 0 ++ (List.replicate 8 0 ++ (putL (8 * n) 8).reverse))
theorem widPad_pos (n : Nat) : 1 ≤ widPad n ∧ widPad n ≤ 128 := by unfold widPad; omega
theorem widEnd_length (n : Nat) : (widEnd n).length = widPad n + 16 := by
  have := widPad_pos n
  simp [widEnd, putL_length]; omega
theorem widEnd_mod (n : Nat) : (n + (widPad n + 16)) % 128 = 0 := by unfold widPad; omega
theorem widEnd_with (n : Nat) : (n + 144) / 128 * 128 = n + (widPad n + 16) := by unfold widPad; omega
def widPadded (bs : List UInt8) : List UInt8 := bs ++ widEnd bs.length
theorem widPadded_length (bs : List UInt8) : (widPadded bs).length = bs.length + (widPad bs.length + 16) := by rw [widPadded, List.length_append, widEnd_length]
theorem widPadded_mod (bs : List UInt8) : (widPadded bs).length % 128 = 0 := by rw [widPadded_length, widEnd_mod]
def widSum (bs : List UInt8) : List UInt8 := words8 (widChain (widPadded bs) ((widPadded bs).length / 128)).list
theorem widSum_length (bs : List UInt8) : (widSum bs).length = 64 := by simp [widSum, words8_length, Wct.list]
/- Go's operations on words of 64 bits. -/
theorem add64 (x y : BitVec 64) : ((x.toNat : Int) + (y.toNat : Int)) % 18446744073709551616 = ((x + y).toNat : Int) := by
  rw [BitVec.toNat_add]; omega
theorem wadd64 (x y : BitVec 64) : IntKind.u64.wrap ((x.toNat : Int) + (y.toNat : Int)) = ((x + y).toNat : Int) := by
  rw [IntKind.wrap_u64, add64]
theorem add64_4 (x y z u : BitVec 64) : ((x.toNat : Int) + (y.toNat : Int) + (z.toNat : Int) + (u.toNat : Int)) % 18446744073709551616 = ((x + y + z + u).toNat : Int) := by
  simp only [BitVec.toNat_add]; omega
theorem add64_5 (x y z u v : BitVec 64) : ((x.toNat : Int) + (y.toNat : Int) + (z.toNat : Int) + (u.toNat : Int) + (v.toNat : Int)) % 18446744073709551616 = ((x + y + z + u + v).toNat : Int) := by
  simp only [BitVec.toNat_add]; omega
theorem not64 (x : BitVec 64) : bits .xor .u64 (if IntKind.u64.signed = true then -1 else IntKind.u64.max) (x.toNat : Int) = ((~~~x).toNat : Int) := by
  have h := xor64 (BitVec.allOnes 64) x
  rw [BitVec.allOnes_xor] at h
  exact h
theorem one64_eq (q : Wct) (k w : BitVec 64) : IntKind.u64.wrap (IntKind.u64.wrap (IntKind.u64.wrap (IntKind.u64.wrap ((q.h.toNat : Int) + ((tri64 q.e 14 18 41).toNat : Int)) + bits .xor .u64 (bits .and .u64 (q.e.toNat : Int) (q.f.toNat : Int)) (bits .and .u64 (bits .xor .u64 (if IntKind.u64.signed = true then -1 else IntKind.u64.max) (q.e.toNat : Int)) (q.g.toNat : Int))) + (k.toNat : Int)) + (w.toNat : Int)) = ((widOne q k w).toNat : Int) := by
  rw [not64, and64, and64, xor64, wadd64, wadd64, wadd64, wadd64]; rfl
theorem two64_eq (q : Wct) : IntKind.u64.wrap (((tri64 q.a 28 34 39).toNat : Int) + bits .xor .u64 (bits .xor .u64 (bits .and .u64 (q.a.toNat : Int) (q.b.toNat : Int)) (bits .and .u64 (q.a.toNat : Int) (q.c.toNat : Int))) (bits .and .u64 (q.b.toNat : Int) (q.c.toNat : Int))) = ((widTwo q).toNat : Int) := by
  rw [and64, and64, and64, xor64, xor64, wadd64]; rfl
theorem abc64 : widSum [97, 98, 99] = [221, 175, 53, 161, 147, 97, 122, 186, 204, 65, 115, 73, 174, 32, 65, 49, 18, 230, 250, 78, 137, 169, 126, 162, 10, 158, 238, 230, 75, 85, 211, 154, 33, 146, 153, 42, 39, 79, 193, 168, 54, 186, 60, 35, 163, 254, 235, 189, 69, 77, 68, 35, 100, 60, 232, 14, 42, 154, 201, 79, 165, 76, 164, 159] := by decide +kernel
end Go.Proofs.YtpbkjphdkdlhjaaDoor
