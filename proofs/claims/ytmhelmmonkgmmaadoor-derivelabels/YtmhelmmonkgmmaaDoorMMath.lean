/- HMAC with SHA-256 as plain functions on bytes. No program is named here. -/
import Derived.Test.YtmhelmmonkgmmaaDoorSMath
namespace Go.Proofs.YtmhelmmonkgmmaaDoor
open Go.RowKit
/-- Bytes with noughts behind them, 64 in all. -/
def macFill (k : List UInt8) : List UInt8 := (k ++ List.replicate 64 0).take 64
/-- The key's block. -/
def macKey (key : List UInt8) : List UInt8 := macFill (if 64 < key.length then shaSum key else key)
def macPad (bs : List UInt8) (p : UInt8) : List UInt8 := bs.map (· ^^^ p)
def macIn (key msg : List UInt8) : List UInt8 := shaSum (macPad (macKey key) 54 ++ msg)
/-- The code of a message by a key. -/
def macSum (key msg : List UInt8) : List UInt8 := shaSum (macPad (macKey key) 92 ++ macIn key msg)
theorem macFill_length (k : List UInt8) : (macFill k).length = 64 := by simp [macFill]
theorem macKey_length (key : List UInt8) : (macKey key).length = 64 := macFill_length _
theorem macPad_length (bs : List UInt8) (p : UInt8) : (macPad bs p).length = bs.length := by simp [macPad]
theorem macIn_length (key msg : List UInt8) : (macIn key msg).length = 32 := shaSum_length _
theorem macSum_length (key msg : List UInt8) : (macSum key msg).length = 32 := shaSum_length _
theorem macKey_short (key : List UInt8) (h : key.length ≤ 64) : macKey key = macFill key := by rw [macKey, if_neg (by omega)]
theorem macKey_long (key : List UInt8) (h : 64 < key.length) : macKey key = macFill (shaSum key) := by rw [macKey, if_pos h]
theorem macKey_digest (key : List UInt8) (h : 64 < key.length) : macKey (shaSum key) = macKey key := by
  rw [macKey_long key h, macKey_short _ (by rw [shaSum_length]; omega)]
theorem macFill_eq (k : List UInt8) (h : k.length ≤ 64) : macFill k = k ++ List.replicate (64 - k.length) 0 := by
  rw [macFill, List.take_append, List.take_of_length_le h, List.take_replicate, Nat.min_eq_left (by omega)]
theorem macKey_noughts (key : List UInt8) (n : Nat) (h : key.length + n ≤ 64) : macKey (key ++ List.replicate n 0) = macKey key := by
  have e : (key ++ List.replicate n (0 : UInt8)).length = key.length + n := by simp
  rw [macKey_short _ (by omega), macKey_short _ (by omega), macFill_eq _ (by omega), macFill_eq _ (by omega), e, List.append_assoc, List.replicate_append_replicate, show n + (64 - (key.length + n)) = 64 - key.length by omega]
theorem macSum_key {a b : List UInt8} (h : macKey a = macKey b) (msg : List UInt8) : macSum a msg = macSum b msg := by
  unfold macSum macIn; rw [h]
theorem macFill_at (k : List UInt8) (h : k.length ≤ 64) (i : Nat) (hi : i < 64) : (macFill k)[i]'(by rw [macFill_length]; exact hi) = k.getD i 0 := by
  have e : (macFill k)[i]? = some (k.getD i 0) := by
    rw [macFill_eq k h]
    by_cases hk : i < k.length
    · rw [List.getElem?_append_left hk]; simp [List.getD, hk]
    · rw [List.getElem?_append_right (by omega), List.getElem?_replicate, if_pos (by omega)]; simp [List.getD, List.getElem?_eq_none (by omega : k.length ≤ i)]
  exact (List.getElem?_eq_some_iff.1 e).2
theorem jefe : macSum [74, 101, 102, 101] [119, 104, 97, 116, 32, 100, 111, 32, 121, 97, 32, 119, 97, 110, 116, 32, 102, 111, 114, 32, 110, 111, 116, 104, 105, 110, 103, 63] = [0x5b, 0xdc, 0xc1, 0x46, 0xbf, 0x60, 0x75, 0x4e, 0x6a, 0x04, 0x24, 0x26, 0x08, 0x95, 0x75, 0xc7, 0x5a, 0x00, 0x3f, 0x08, 0x9d, 0x27, 0x39, 0x83, 0x9d, 0xec, 0x58, 0xb9, 0x64, 0xec, 0x38, 0x43] := by decide +kernel
end Go.Proofs.YtmhelmmonkgmmaaDoor
