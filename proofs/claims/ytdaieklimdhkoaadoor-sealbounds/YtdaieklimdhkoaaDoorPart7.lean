/- Part 7 of what the laws of this seat share: OMath2, ORead, OWritten, OClamp, WLoops. -/
import Derived.IntWalk
import Derived.Test.YtdaieklimdhkoaaDoorPart6
namespace Go.Proofs.YtdaieklimdhkoaaDoor
open Go.RowKit
theorem lev_cons (u : UInt8) (l : List UInt8) : lev (u :: l) = u.toNat + 256 * lev l := rfl
theorem lev_rev (l : List UInt8) : bigN l.reverse = lev l := by
  induction l with
  | nil => rfl
  | cons u l ih => rw [List.reverse_cons, bigN_snoc, ih, lev_cons]; omega
theorem lev_drop (b : List UInt8) (f : Nat) (hf : f ≤ b.length) : lev (b.drop f) = lev b / 256 ^ f := by
  have h := lev_append (b.take f) (b.drop f)
  rw [List.take_append_drop] at h
  have hl : (b.take f).length = f := by rw [List.length_take]; omega
  have h2 := lev_lt (b.take f)
  rw [hl] at h h2
  rw [h, Nat.add_mul_div_left _ _ (Nat.pow_pos (by omega)), Nat.div_eq_of_lt h2, Nat.zero_add]
theorem lev_take (b : List UInt8) (f : Nat) (hf : f ≤ b.length) : lev (b.take f) = lev b % 256 ^ f := by
  have h := lev_append (b.take f) (b.drop f)
  rw [List.take_append_drop] at h
  have hl : (b.take f).length = f := by rw [List.length_take]; omega
  have h2 := lev_lt (b.take f)
  rw [hl] at h h2
  rw [h, Nat.add_mul_mod_self_left, Nat.mod_eq_of_lt h2]
/-- The limb i lies in four bytes from 26 i / 8 on. -/
theorem limb_window (b : List UInt8) (hb : b.length = 17) (i : Nat) (hi : i < 5) : bigN ((b.drop (i * 26 / 8)).take 4).reverse / 2 ^ (i * 26 % 8) % 67108864 = (limbsOf (lev b)).getD i 0 := by
  rw [lev_rev, lev_take _ _ (by rw [List.length_drop]; omega), lev_drop _ _ (by omega)]
  generalize lev b = x
  match i, hi with
  | 0, _ => show x / 1 % 4294967296 / 1 % 67108864 = x % 67108864; omega
  | 1, _ => show x / 16777216 % 4294967296 / 4 % 67108864 = x / 67108864 % 67108864; omega
  | 2, _ => show x / 281474976710656 % 4294967296 / 16 % 67108864 = x / 4503599627370496 % 67108864; omega
  | 3, _ => show x / 4722366482869645213696 % 4294967296 / 64 % 67108864 = x / 302231454903657293676544 % 67108864; omega
  | 4, _ => show x / 20282409603651670423947251286016 % 4294967296 / 1 % 67108864 = x / 20282409603651670423947251286016 % 67108864; omega
/-- k limbs are read. -/
def readTo (x k : Nat) : List Nat := (limbsOf x).take k ++ List.replicate (5 - k) 0
theorem readTo_length (x k : Nat) (hk : k ≤ 5) : (readTo x k).length = 5 := by
  rw [readTo, List.length_append, List.length_take, limbsOf_length, List.length_replicate]; omega
theorem readTo_zero (x : Nat) : readTo x 0 = [0, 0, 0, 0, 0] := rfl
theorem readTo_all (x : Nat) : readTo x 5 = limbsOf x := by
  rw [readTo, List.take_of_length_le (by rw [limbsOf_length]; omega)]; simp
theorem readTo_next (x k : Nat) (hk : k < 5) : (readTo x k).set k ((limbsOf x).getD k 0) = readTo x (k + 1) := by
  match k, hk with
  | 0, _ => rfl
  | 1, _ => rfl
  | 2, _ => rfl
  | 3, _ => rfl
  | 4, _ => rfl
/-- The byte i of a number whose limbs have no more than their bits. -/
def limbByte (n : List Nat) (i : Nat) : Nat := if i * 8 / 26 + 1 < 5 then n.getD (i * 8 / 26) 0 / 2 ^ (i * 8 % 26) + n.getD (i * 8 / 26 + 1) 0 * 2 ^ (26 - i * 8 % 26) else n.getD (i * 8 / 26) 0 / 2 ^ (i * 8 % 26)
theorem limbByte_is (n : List Nat) (hn : n.length = 5) (h : Below5 67108864 n) (i : Nat) (hi : i < 16) : limbByte n i % 256 = lval n / 256 ^ i % 256 := by
  obtain ⟨a, b, c, d, e, rfl⟩ := five_of n hn
  rw [below5_five] at h
  obtain ⟨ha, hb, hc, hd, he⟩ := h
  rw [lval_five]
  rcases (show i = 0 ∨ i = 1 ∨ i = 2 ∨ i = 3 ∨ i = 4 ∨ i = 5 ∨ i = 6 ∨ i = 7 ∨ i = 8 ∨ i = 9 ∨ i = 10 ∨ i = 11 ∨ i = 12 ∨ i = 13 ∨ i = 14 ∨ i = 15 by omega) with rfl | rfl | rfl | rfl | rfl | rfl | rfl | rfl | rfl | rfl | rfl | rfl | rfl | rfl | rfl | rfl
  · show (a / 1 + b * 67108864) % 256 = (a + 67108864 * (b + 67108864 * (c + 67108864 * (d + 67108864 * (e + 67108864 * 0))))) / 1 % 256; omega
  · show (a / 256 + b * 262144) % 256 = (a + 67108864 * (b + 67108864 * (c + 67108864 * (d + 67108864 * (e + 67108864 * 0))))) / 256 % 256; omega
  · show (a / 65536 + b * 1024) % 256 = (a + 67108864 * (b + 67108864 * (c + 67108864 * (d + 67108864 * (e + 67108864 * 0))))) / 65536 % 256; omega
  · show (a / 16777216 + b * 4) % 256 = (a + 67108864 * (b + 67108864 * (c + 67108864 * (d + 67108864 * (e + 67108864 * 0))))) / 16777216 % 256; omega
  · show (b / 64 + c * 1048576) % 256 = (a + 67108864 * (b + 67108864 * (c + 67108864 * (d + 67108864 * (e + 67108864 * 0))))) / 4294967296 % 256; omega
  · show (b / 16384 + c * 4096) % 256 = (a + 67108864 * (b + 67108864 * (c + 67108864 * (d + 67108864 * (e + 67108864 * 0))))) / 1099511627776 % 256; omega
  · show (b / 4194304 + c * 16) % 256 = (a + 67108864 * (b + 67108864 * (c + 67108864 * (d + 67108864 * (e + 67108864 * 0))))) / 281474976710656 % 256; omega
  · show (c / 16 + d * 4194304) % 256 = (a + 67108864 * (b + 67108864 * (c + 67108864 * (d + 67108864 * (e + 67108864 * 0))))) / 72057594037927936 % 256; omega
  · show (c / 4096 + d * 16384) % 256 = (a + 67108864 * (b + 67108864 * (c + 67108864 * (d + 67108864 * (e + 67108864 * 0))))) / 18446744073709551616 % 256; omega
  · show (c / 1048576 + d * 64) % 256 = (a + 67108864 * (b + 67108864 * (c + 67108864 * (d + 67108864 * (e + 67108864 * 0))))) / 4722366482869645213696 % 256; omega
  · show (d / 4 + e * 16777216) % 256 = (a + 67108864 * (b + 67108864 * (c + 67108864 * (d + 67108864 * (e + 67108864 * 0))))) / 1208925819614629174706176 % 256; omega
  · show (d / 1024 + e * 65536) % 256 = (a + 67108864 * (b + 67108864 * (c + 67108864 * (d + 67108864 * (e + 67108864 * 0))))) / 309485009821345068724781056 % 256; omega
  · show (d / 262144 + e * 256) % 256 = (a + 67108864 * (b + 67108864 * (c + 67108864 * (d + 67108864 * (e + 67108864 * 0))))) / 79228162514264337593543950336 % 256; omega
  · show (e / 1) % 256 = (a + 67108864 * (b + 67108864 * (c + 67108864 * (d + 67108864 * (e + 67108864 * 0))))) / 20282409603651670423947251286016 % 256; omega
  · show (e / 256) % 256 = (a + 67108864 * (b + 67108864 * (c + 67108864 * (d + 67108864 * (e + 67108864 * 0))))) / 5192296858534827628530496329220096 % 256; omega
  · show (e / 65536) % 256 = (a + 67108864 * (b + 67108864 * (c + 67108864 * (d + 67108864 * (e + 67108864 * 0))))) / 1329227995784915872903807060280344576 % 256; omega
end Go.Proofs.YtdaieklimdhkoaaDoor
namespace Go.Proofs.YtdaieklimdhkoaaDoor
open Go.RowKit
theorem zero_row17 : ∀ w, (zeroValue 64).run Tryd.prog w = .ok (.agg (List.replicate 17 (cellOf 0)).toArray) w := (zero_of_info (P := Tryd.prog) (t := 64) (v := .agg (List.replicate 17 (cellOf 0)).toArray) (n := 17) (by kernel_rfl)).1
theorem size_row17 : (Tryd.prog.info? 64).map (·.size) = some 17 := by kernel_rfl
theorem read1 (x : Nat) (h : x < 18446744073709551616) : bits .and .u64 (x : Int) 67108863 = ((x / 1 % 67108864 : Nat) : Int) := by rw [Nat.div_one]; exact and26 x h
theorem read4 (x : Nat) (h : x < 18446744073709551616) : bits .and .u64 ((x : Int) / 4) 67108863 = ((x / 4 % 67108864 : Nat) : Int) := and26 (x / 4) (by omega)
theorem read16 (x : Nat) (h : x < 18446744073709551616) : bits .and .u64 ((x : Int) / 16) 67108863 = ((x / 16 % 67108864 : Nat) : Int) := and26 (x / 16) (by omega)
theorem read64 (x : Nat) (h : x < 18446744073709551616) : bits .and .u64 ((x : Int) / 64) 67108863 = ((x / 64 % 67108864 : Nat) : Int) := and26 (x / 64) (by omega)
set_option maxRecDepth 100000 in
set_option maxHeartbeats 1000000 in
theorem read_over (b : List UInt8) (r : List Nat) (S : Nat → List Nat) (w : World) (HB : Hid (b.length = 17)) (HL : Hid (∀ k, k ≤ 5 → (S k).length = 5)) (H0 : Hid (S 0 = [0, 0, 0, 0, 0])) (HS : Hid (∀ k, k < 5 → S (k + 1) = (S k).set k (bigN ((b.drop (k * 26 / 8)).take 4).reverse / 2 ^ (k * 26 % 8) % 67108864))) (HR : Hid (S 5 = r)) :
    Calls Tryd.prog 26 #[hashVal b] w fun e w' => e = .returned (numVal r) ∧ Below w.heap.size w w' := by
  go_enter Tryd.func26, Tryd.ntmps26
  go_wp2_with (first
    | (refine take_step rfl 64 (.tmp 0) rfl b rfl ?_
       intro w1 hB1 hA1 hz
       clear hz)
    | (refine vzero_step (o := ⟨some 2, _, _, _, _, _⟩) rfl 61 rfl (nzeros 5) zero_num ?_
       intro w2 hb2 hZ2
       have hB2 := below_then hB1 hb2
       have hA2 := hA1.on hb2
       have hg1 := hA1.lt
       clear hB1 hA1 hb2)
    | (refine vzero_step (o := ⟨some 3, _, _, _, _, _⟩) rfl 61 rfl (nzeros 5) zero_num ?_
       intro w3 hb3 hS3
       have hB3 := below_then hB2 hb3
       have hA3 := hA2.on hb3
       have hZ3 := hZ2.on hb3
       have hg2 := hZ2.lt
       clear hB2 hA2 hZ2 hb3))
  generalize hg : w1.heap.size = gz at *
  generalize hh : w2.heap.size = gs at *
  clear hg hh
  go_loopw [9] (fun i wr => ∃ k : Nat, k ≤ 5 ∧ i = .int .i64 k ∧ Below w.heap.size w wr ∧ Cells wr w.heap.size (b.map cellOf) 64 ∧ Cells wr gz (nzeros 5) 61 ∧ Cells wr gs ((S k).map ncell) 61) (fun i _ => 5 - (intOf i).toNat)
  case atStart => exact ⟨0, Nat.zero_le _, rfl, hB3, hA3, hZ3, by rw [H0.out]; exact hS3⟩
  case round =>
    clear hB3 hA3 hZ3 hS3
    obtain ⟨k, hk, rfl, hB, hA, hZ, hS⟩ := hrel
    have HLk := Lib.hid (HL.out k hk)
    by_cases hlt : k < 5
    · have HN := Lib.hid (HS.out k hlt)
      obtain ⟨z, HZ⟩ : ∃ z, Hid (S (k + 1) = z) := ⟨_, rfl⟩
      rw [HZ.out] at HN
      generalize S k = s at *
      have hR : Row wr wr.heap.size (some ⟨w.heap.size, k * 26 / 8, none⟩) ((b.drop (k * 26 / 8)).take 4) := by
        have h := hA.all.piece (k * 26 / 8) 4
        rw [Nat.zero_add] at h
        exact h
      have HC := Lib.hid (little_few (some ⟨w.heap.size, k * 26 / 8, none⟩) (17 - k * 26 / 8) 4 _ wr (by rw [List.length_take, List.length_drop, HB.out]; omega) hR (by omega))
      have HX : Hid (bigN ((b.drop (k * 26 / 8)).take 4).reverse < 18446744073709551616) := by
        have h := bigN_lt ((b.drop (k * 26 / 8)).take 4).reverse
        have h2 : ((b.drop (k * 26 / 8)).take 4).reverse.length = 4 := by rw [List.length_reverse, List.length_take, List.length_drop, HB.out]; omega
        rw [h2] at h
        show _ < _
        omega
      generalize bigN ((b.drop (k * 26 / 8)).take 4).reverse = x at *
      clear hR HS HL H0 HR
      have hT := fun k (h : k < 5) => hS.there k 1 (by rw [List.length_map, HLk.out]; omega)
      have h0 := hS.set 0 (ncell (x / 1 % 67108864))
      have h1 := hS.set 1 (ncell (x / 4 % 67108864))
      have h2 := hS.set 2 (ncell (x / 16 % 67108864))
      have h3 := hS.set 3 (ncell (x / 64 % 67108864))
      have h4 := hS.set 4 (ncell (x / 1 % 67108864))
      rw [nset_map, ncell, ← read1 x HX.out] at h0 h4
      rw [nset_map, ncell, ← read4 x HX.out] at h1
      rw [nset_map, ncell, ← read16 x HX.out] at h2
      rw [nset_map, ncell, ← read64 x HX.out] at h3
      obtain ⟨h0, h1, h2, h3, h4⟩ : Hid _ ∧ Hid _ ∧ Hid _ ∧ Hid _ ∧ Hid _ := ⟨Lib.hid h0, Lib.hid h1, Lib.hid h2, Lib.hid h3, Lib.hid h4⟩
      rcases (show k = 0 ∨ k = 1 ∨ k = 2 ∨ k = 3 ∨ k = 4 by omega) with rfl | rfl | rfl | rfl | rfl
      all_goals
        simp only [Nat.zero_mul, Nat.reduceMul, Nat.reduceDiv, Nat.reduceSub, Nat.reduceMod, Nat.reducePow, Nat.zero_div, Nat.zero_mod, Nat.reduceAdd, Nat.sub_zero] at HC HN HZ
        go_wp2_with fail
        refine HC.out.mono ?_
        rintro e w4 ⟨rfl, rfl⟩
        clear HC
        go_wp2_with (first
          | (refine store_step rfl 59 _ _ rfl gs _ .u64 _ rfl rfl size_u64 (hT _ (by omega)) ?_
             intro w5 hw5
             have hB5 : Below w.heap.size w w5 := by rw [hw5]; exact hB.setCell (p := ⟨gs, _, none⟩) (by show w.heap.size ≤ gs; omega) _
             have hA5 : Cells w5 w.heap.size (b.map cellOf) 64 := by rw [hw5]; exact hA.other (by show w.heap.size ≠ gs; omega) _
             have hZ5 : Cells w5 gz (nzeros 5) 61 := by rw [hw5]; exact hZ.other (by show gz ≠ gs; omega) _
             have hS5 : Cells w5 gs (z.map ncell) 61 := by rw [hw5, HN.out]; first | exact h0.out | exact h1.out | exact h2.out | exact h3.out | exact h4.out

             clear hw5))
        go_roundw
        case rel =>
          rw [← HZ.out] at hS5
          first | exact ⟨1, by omega, rfl, hB5, hA5, hZ5, hS5⟩ | exact ⟨2, by omega, rfl, hB5, hA5, hZ5, hS5⟩ | exact ⟨3, by omega, rfl, hB5, hA5, hZ5, hS5⟩ | exact ⟨4, by omega, rfl, hB5, hA5, hZ5, hS5⟩ | exact ⟨5, by omega, rfl, hB5, hA5, hZ5, hS5⟩
        case measure => simp [intOf]
    · obtain rfl : k = 5 := by omega
      rw [HR.out] at hS HLk
      go_wp2_with (first
        | (refine vget_step rfl 61 _ rfl gs 5 (r.map ncell) 59 rfl hS Tryd.underlying61 size_num (by rw [List.length_map, HLk.out]) ?_)
        | (refine vset_step rfl 61 _ _ rfl gz 5 (nzeros 5) (r.map ncell) rfl rfl hZ rfl size_num (by rw [List.length_map, HLk.out]) (ncells_one r) ?_
           intro w7 hb7 hC7 _))
      refine vret Tryd.results26 gz (r.map ncell) rfl hC7 Tryd.underlying61 size_num (by rw [List.length_map, HLk.out]) rfl ⟨rfl, hB.trans (hb7.below (by omega) hB.size)⟩
theorem read_any (b : List UInt8) (w : World) (hb : b.length = 17) :
    Calls Tryd.prog 26 #[hashVal b] w fun e w' => e = .returned (numVal (limbsOf (lev b))) ∧ Below w.heap.size w w' :=
  read_over b _ (readTo (lev b)) w hb (fun k hk => readTo_length _ k hk) (readTo_zero _) (fun k hk => by rw [limb_window b hb k hk]; exact (readTo_next _ k hk).symm) (readTo_all _)
end Go.Proofs.YtdaieklimdhkoaaDoor
namespace Go.Proofs.YtdaieklimdhkoaaDoor
open Go.RowKit
theorem zero_b16 : ∀ w, (zeroValue 45).run Tryd.prog w = .ok (.agg (List.replicate 16 (cellOf 0)).toArray) w := (zero_of_info (P := Tryd.prog) (t := 45) (v := .agg (List.replicate 16 (cellOf 0)).toArray) (n := 16) (by kernel_rfl)).1
theorem size_b16 : (Tryd.prog.info? 45).map (·.size) = some 16 := by kernel_rfl
theorem byte_or (a b s q x k : Nat) (hq : q = 2 ^ s) (ha : a < q) (hs : q ≤ 67108864) (hb : b < 67108864) (h : (a + b * q) % 256 = x / 256 ^ k % 256) : bits .or .u64 (a : Int) (IntKind.u64.wrap ((b : Int) * (q : Int))) % 256 = ((byteAt x k).toNat : Int) := by
  have hbq : b * q ≤ 67108864 * 67108864 := Nat.mul_le_mul (by omega) hs
  have e : IntKind.u64.wrap ((b : Int) * (q : Int)) = ((b * q : Nat) : Int) := by
    rw [IntKind.wrap_u64, ← Int.natCast_mul]; omega
  rw [e, u64_or_nat _ _ (by omega) (by omega), Nat.or_comm, nat_join s _ _ (by rw [hq]; exact Nat.mul_mod_left _ _) (by rw [← hq]; exact ha), byteAt, UInt8.toNat_ofNat', Nat.add_comm]
  omega
theorem byte_one (a x k : Nat) (h : a % 256 = x / 256 ^ k % 256) : (a : Int) % 256 = ((byteAt x k).toNat : Int) := by
  rw [byteAt, UInt8.toNat_ofNat']
  omega
theorem wrote_0 (n0 n1 n2 n3 n4 : Nat) (h : n0 < 67108864 ∧ n1 < 67108864 ∧ n2 < 67108864 ∧ n3 < 67108864 ∧ n4 < 67108864) : bits .or .u64 (n0 : Int) (IntKind.u64.wrap ((n1 : Int) * 67108864)) % 256 = ((byteAt (lval [n0, n1, n2, n3, n4]) 0).toNat : Int) := byte_or n0 n1 26 67108864 _ 0 rfl (by omega) (by omega) (by omega) (by have h2 := limbByte_is [n0, n1, n2, n3, n4] rfl ((below5_five _ _ _ _ _ _).2 h) 0 (by omega); rw [← h2]; show (n0 + n1 * 67108864) % 256 = (n0 / 1 + n1 * 67108864) % 256; rw [Nat.div_one])
theorem wrote_1 (n0 n1 n2 n3 n4 : Nat) (h : n0 < 67108864 ∧ n1 < 67108864 ∧ n2 < 67108864 ∧ n3 < 67108864 ∧ n4 < 67108864) : bits .or .u64 ((n0 : Int) / 256) (IntKind.u64.wrap ((n1 : Int) * 262144)) % 256 = ((byteAt (lval [n0, n1, n2, n3, n4]) 1).toNat : Int) := byte_or (n0 / 256) n1 18 262144 _ 1 rfl (by omega) (by omega) (by omega) (limbByte_is [n0, n1, n2, n3, n4] rfl ((below5_five _ _ _ _ _ _).2 h) 1 (by omega))
theorem wrote_2 (n0 n1 n2 n3 n4 : Nat) (h : n0 < 67108864 ∧ n1 < 67108864 ∧ n2 < 67108864 ∧ n3 < 67108864 ∧ n4 < 67108864) : bits .or .u64 ((n0 : Int) / 65536) (IntKind.u64.wrap ((n1 : Int) * 1024)) % 256 = ((byteAt (lval [n0, n1, n2, n3, n4]) 2).toNat : Int) := byte_or (n0 / 65536) n1 10 1024 _ 2 rfl (by omega) (by omega) (by omega) (limbByte_is [n0, n1, n2, n3, n4] rfl ((below5_five _ _ _ _ _ _).2 h) 2 (by omega))
theorem wrote_3 (n0 n1 n2 n3 n4 : Nat) (h : n0 < 67108864 ∧ n1 < 67108864 ∧ n2 < 67108864 ∧ n3 < 67108864 ∧ n4 < 67108864) : bits .or .u64 ((n0 : Int) / 16777216) (IntKind.u64.wrap ((n1 : Int) * 4)) % 256 = ((byteAt (lval [n0, n1, n2, n3, n4]) 3).toNat : Int) := byte_or (n0 / 16777216) n1 2 4 _ 3 rfl (by omega) (by omega) (by omega) (limbByte_is [n0, n1, n2, n3, n4] rfl ((below5_five _ _ _ _ _ _).2 h) 3 (by omega))
theorem wrote_4 (n0 n1 n2 n3 n4 : Nat) (h : n0 < 67108864 ∧ n1 < 67108864 ∧ n2 < 67108864 ∧ n3 < 67108864 ∧ n4 < 67108864) : bits .or .u64 ((n1 : Int) / 64) (IntKind.u64.wrap ((n2 : Int) * 1048576)) % 256 = ((byteAt (lval [n0, n1, n2, n3, n4]) 4).toNat : Int) := byte_or (n1 / 64) n2 20 1048576 _ 4 rfl (by omega) (by omega) (by omega) (limbByte_is [n0, n1, n2, n3, n4] rfl ((below5_five _ _ _ _ _ _).2 h) 4 (by omega))
theorem wrote_5 (n0 n1 n2 n3 n4 : Nat) (h : n0 < 67108864 ∧ n1 < 67108864 ∧ n2 < 67108864 ∧ n3 < 67108864 ∧ n4 < 67108864) : bits .or .u64 ((n1 : Int) / 16384) (IntKind.u64.wrap ((n2 : Int) * 4096)) % 256 = ((byteAt (lval [n0, n1, n2, n3, n4]) 5).toNat : Int) := byte_or (n1 / 16384) n2 12 4096 _ 5 rfl (by omega) (by omega) (by omega) (limbByte_is [n0, n1, n2, n3, n4] rfl ((below5_five _ _ _ _ _ _).2 h) 5 (by omega))
theorem wrote_6 (n0 n1 n2 n3 n4 : Nat) (h : n0 < 67108864 ∧ n1 < 67108864 ∧ n2 < 67108864 ∧ n3 < 67108864 ∧ n4 < 67108864) : bits .or .u64 ((n1 : Int) / 4194304) (IntKind.u64.wrap ((n2 : Int) * 16)) % 256 = ((byteAt (lval [n0, n1, n2, n3, n4]) 6).toNat : Int) := byte_or (n1 / 4194304) n2 4 16 _ 6 rfl (by omega) (by omega) (by omega) (limbByte_is [n0, n1, n2, n3, n4] rfl ((below5_five _ _ _ _ _ _).2 h) 6 (by omega))
theorem wrote_7 (n0 n1 n2 n3 n4 : Nat) (h : n0 < 67108864 ∧ n1 < 67108864 ∧ n2 < 67108864 ∧ n3 < 67108864 ∧ n4 < 67108864) : bits .or .u64 ((n2 : Int) / 16) (IntKind.u64.wrap ((n3 : Int) * 4194304)) % 256 = ((byteAt (lval [n0, n1, n2, n3, n4]) 7).toNat : Int) := byte_or (n2 / 16) n3 22 4194304 _ 7 rfl (by omega) (by omega) (by omega) (limbByte_is [n0, n1, n2, n3, n4] rfl ((below5_five _ _ _ _ _ _).2 h) 7 (by omega))
theorem wrote_8 (n0 n1 n2 n3 n4 : Nat) (h : n0 < 67108864 ∧ n1 < 67108864 ∧ n2 < 67108864 ∧ n3 < 67108864 ∧ n4 < 67108864) : bits .or .u64 ((n2 : Int) / 4096) (IntKind.u64.wrap ((n3 : Int) * 16384)) % 256 = ((byteAt (lval [n0, n1, n2, n3, n4]) 8).toNat : Int) := byte_or (n2 / 4096) n3 14 16384 _ 8 rfl (by omega) (by omega) (by omega) (limbByte_is [n0, n1, n2, n3, n4] rfl ((below5_five _ _ _ _ _ _).2 h) 8 (by omega))
theorem wrote_9 (n0 n1 n2 n3 n4 : Nat) (h : n0 < 67108864 ∧ n1 < 67108864 ∧ n2 < 67108864 ∧ n3 < 67108864 ∧ n4 < 67108864) : bits .or .u64 ((n2 : Int) / 1048576) (IntKind.u64.wrap ((n3 : Int) * 64)) % 256 = ((byteAt (lval [n0, n1, n2, n3, n4]) 9).toNat : Int) := byte_or (n2 / 1048576) n3 6 64 _ 9 rfl (by omega) (by omega) (by omega) (limbByte_is [n0, n1, n2, n3, n4] rfl ((below5_five _ _ _ _ _ _).2 h) 9 (by omega))
theorem wrote_10 (n0 n1 n2 n3 n4 : Nat) (h : n0 < 67108864 ∧ n1 < 67108864 ∧ n2 < 67108864 ∧ n3 < 67108864 ∧ n4 < 67108864) : bits .or .u64 ((n3 : Int) / 4) (IntKind.u64.wrap ((n4 : Int) * 16777216)) % 256 = ((byteAt (lval [n0, n1, n2, n3, n4]) 10).toNat : Int) := byte_or (n3 / 4) n4 24 16777216 _ 10 rfl (by omega) (by omega) (by omega) (limbByte_is [n0, n1, n2, n3, n4] rfl ((below5_five _ _ _ _ _ _).2 h) 10 (by omega))
theorem wrote_11 (n0 n1 n2 n3 n4 : Nat) (h : n0 < 67108864 ∧ n1 < 67108864 ∧ n2 < 67108864 ∧ n3 < 67108864 ∧ n4 < 67108864) : bits .or .u64 ((n3 : Int) / 1024) (IntKind.u64.wrap ((n4 : Int) * 65536)) % 256 = ((byteAt (lval [n0, n1, n2, n3, n4]) 11).toNat : Int) := byte_or (n3 / 1024) n4 16 65536 _ 11 rfl (by omega) (by omega) (by omega) (limbByte_is [n0, n1, n2, n3, n4] rfl ((below5_five _ _ _ _ _ _).2 h) 11 (by omega))
theorem wrote_12 (n0 n1 n2 n3 n4 : Nat) (h : n0 < 67108864 ∧ n1 < 67108864 ∧ n2 < 67108864 ∧ n3 < 67108864 ∧ n4 < 67108864) : bits .or .u64 ((n3 : Int) / 262144) (IntKind.u64.wrap ((n4 : Int) * 256)) % 256 = ((byteAt (lval [n0, n1, n2, n3, n4]) 12).toNat : Int) := byte_or (n3 / 262144) n4 8 256 _ 12 rfl (by omega) (by omega) (by omega) (limbByte_is [n0, n1, n2, n3, n4] rfl ((below5_five _ _ _ _ _ _).2 h) 12 (by omega))
theorem wrote_13 (n0 n1 n2 n3 n4 : Nat) (h : n0 < 67108864 ∧ n1 < 67108864 ∧ n2 < 67108864 ∧ n3 < 67108864 ∧ n4 < 67108864) : (n4 : Int) % 256 = ((byteAt (lval [n0, n1, n2, n3, n4]) 13).toNat : Int) := byte_one n4 _ 13 (by have h2 := limbByte_is [n0, n1, n2, n3, n4] rfl ((below5_five _ _ _ _ _ _).2 h) 13 (by omega); rw [← h2]; show n4 % 256 = (n4 / 1) % 256; rw [Nat.div_one])
theorem wrote_14 (n0 n1 n2 n3 n4 : Nat) (h : n0 < 67108864 ∧ n1 < 67108864 ∧ n2 < 67108864 ∧ n3 < 67108864 ∧ n4 < 67108864) : ((n4 : Int) / 256) % 256 = ((byteAt (lval [n0, n1, n2, n3, n4]) 14).toNat : Int) := byte_one (n4 / 256) _ 14 (limbByte_is [n0, n1, n2, n3, n4] rfl ((below5_five _ _ _ _ _ _).2 h) 14 (by omega))
theorem wrote_15 (n0 n1 n2 n3 n4 : Nat) (h : n0 < 67108864 ∧ n1 < 67108864 ∧ n2 < 67108864 ∧ n3 < 67108864 ∧ n4 < 67108864) : ((n4 : Int) / 65536) % 256 = ((byteAt (lval [n0, n1, n2, n3, n4]) 15).toNat : Int) := byte_one (n4 / 65536) _ 15 (limbByte_is [n0, n1, n2, n3, n4] rfl ((below5_five _ _ _ _ _ _).2 h) 15 (by omega))
set_option maxRecDepth 100000 in
set_option maxHeartbeats 4000000 in
theorem written_over (n0 n1 n2 n3 n4 : Nat) (r : List UInt8) (P : Nat → List UInt8) (B : Nat → UInt8) (w : World) (HV : Hid (bits .or .u64 (n0 : Int) (IntKind.u64.wrap ((n1 : Int) * 67108864)) % 256 = ((B 0).toNat : Int) ∧ bits .or .u64 ((n0 : Int) / 256) (IntKind.u64.wrap ((n1 : Int) * 262144)) % 256 = ((B 1).toNat : Int) ∧ bits .or .u64 ((n0 : Int) / 65536) (IntKind.u64.wrap ((n1 : Int) * 1024)) % 256 = ((B 2).toNat : Int) ∧ bits .or .u64 ((n0 : Int) / 16777216) (IntKind.u64.wrap ((n1 : Int) * 4)) % 256 = ((B 3).toNat : Int) ∧ bits .or .u64 ((n1 : Int) / 64) (IntKind.u64.wrap ((n2 : Int) * 1048576)) % 256 = ((B 4).toNat : Int) ∧ bits .or .u64 ((n1 : Int) / 16384) (IntKind.u64.wrap ((n2 : Int) * 4096)) % 256 = ((B 5).toNat : Int) ∧ bits .or .u64 ((n1 : Int) / 4194304) (IntKind.u64.wrap ((n2 : Int) * 16)) % 256 = ((B 6).toNat : Int) ∧ bits .or .u64 ((n2 : Int) / 16) (IntKind.u64.wrap ((n3 : Int) * 4194304)) % 256 = ((B 7).toNat : Int) ∧ bits .or .u64 ((n2 : Int) / 4096) (IntKind.u64.wrap ((n3 : Int) * 16384)) % 256 = ((B 8).toNat : Int) ∧ bits .or .u64 ((n2 : Int) / 1048576) (IntKind.u64.wrap ((n3 : Int) * 64)) % 256 = ((B 9).toNat : Int) ∧ bits .or .u64 ((n3 : Int) / 4) (IntKind.u64.wrap ((n4 : Int) * 16777216)) % 256 = ((B 10).toNat : Int) ∧ bits .or .u64 ((n3 : Int) / 1024) (IntKind.u64.wrap ((n4 : Int) * 65536)) % 256 = ((B 11).toNat : Int) ∧ bits .or .u64 ((n3 : Int) / 262144) (IntKind.u64.wrap ((n4 : Int) * 256)) % 256 = ((B 12).toNat : Int) ∧ (n4 : Int) % 256 = ((B 13).toNat : Int) ∧ ((n4 : Int) / 256) % 256 = ((B 14).toNat : Int) ∧ ((n4 : Int) / 65536) % 256 = ((B 15).toNat : Int))) (HL : Hid (∀ k, k ≤ 16 → (P k).length = 16)) (H0 : Hid (P 0 = List.replicate 16 0)) (HS : Hid (∀ k, k < 16 → P (k + 1) = (P k).set k (B k))) (HR : Hid (P 16 = r)) :
    Calls Tryd.prog 48 #[numVal [n0, n1, n2, n3, n4]] w fun e w' => e = .returned (hashVal r) ∧ Below w.heap.size w w' := by
  go_enter Tryd.func48, Tryd.ntmps48
  go_wp2_with (first
    | (refine vtake_step rfl 61 (.tmp 0) rfl ([n0, n1, n2, n3, n4].map ncell) rfl ?_
       intro w1 hB1 hA1)
    | (refine zero_step (o := ⟨some 2, _, _, _, _, _⟩) rfl 45 rfl 16 zero_b16 ?_
       intro w2 hb2 hZ2 hz
       have hB2 := below_then hB1 hb2
       have hA2 := hA1.on hb2
       have hg1 := hA1.lt
       clear hB1 hA1 hb2 hz)
    | (refine zero_step (o := ⟨some 3, _, _, _, _, _⟩) rfl 45 rfl 16 zero_b16 ?_
       intro w3 hb3 hS3 hz
       have hB3 := below_then hB2 hb3
       have hA3 := hA2.on hb3
       have hZ3 := hZ2.on hb3
       have hg2 := hZ2.lt
       clear hB2 hA2 hZ2 hb3 hz))
  generalize hg : w1.heap.size = gz at *
  generalize hh : w2.heap.size = gs at *
  clear hg hh
  go_loopw [9] (fun i wr => ∃ k : Nat, k ≤ 16 ∧ i = .int .i64 k ∧ Below w.heap.size w wr ∧ Cells wr w.heap.size ([n0, n1, n2, n3, n4].map ncell) 61 ∧ Cells wr gz (List.replicate 16 (cellOf 0)) 45 ∧ Cells wr gs ((P k).map cellOf) 45) (fun i _ => 16 - (intOf i).toNat)
  case atStart => exact ⟨0, Nat.zero_le _, rfl, hB3, hA3, hZ3, by rw [H0.out, List.map_replicate]; exact hS3⟩
  case round =>
    clear hB3 hA3 hZ3 hS3
    obtain ⟨k, hk, rfl, hB, hA, hZ, hS⟩ := hrel
    have HLk := Lib.hid (HL.out k hk)
    by_cases hlt : k < 16
    · have HN := Lib.hid (HS.out k hlt)
      obtain ⟨z, HZ⟩ : ∃ z, Hid (P (k + 1) = z) := ⟨_, rfl⟩
      rw [HZ.out] at HN
      generalize P k = s at *
      have c0 := hA.get (j := 0) (v := ncell n0) rfl
      have c1 := hA.get (j := 1) (v := ncell n1) rfl
      have c2 := hA.get (j := 2) (v := ncell n2) rfl
      have c3 := hA.get (j := 3) (v := ncell n3) rfl
      have c4 := hA.get (j := 4) (v := ncell n4) rfl
      have hT := hS.there k 1 (by rw [List.length_map, HLk.out]; omega)
      clear HS HL H0 HR
      obtain ⟨v0, v1, v2, v3, v4, v5, v6, v7, v8, v9, v10, v11, v12, v13, v14, v15⟩ := HV.out
      clear HV
      obtain ⟨V0, V1, V2, V3, V4, V5, V6, V7, V8, V9, V10, V11, V12, V13, V14, V15⟩ : Hid _ ∧ Hid _ ∧ Hid _ ∧ Hid _ ∧ Hid _ ∧ Hid _ ∧ Hid _ ∧ Hid _ ∧ Hid _ ∧ Hid _ ∧ Hid _ ∧ Hid _ ∧ Hid _ ∧ Hid _ ∧ Hid _ ∧ Hid _ := ⟨Lib.hid v0, Lib.hid v1, Lib.hid v2, Lib.hid v3, Lib.hid v4, Lib.hid v5, Lib.hid v6, Lib.hid v7, Lib.hid v8, Lib.hid v9, Lib.hid v10, Lib.hid v11, Lib.hid v12, Lib.hid v13, Lib.hid v14, Lib.hid v15⟩
      rcases (show k = 0 ∨ k = 1 ∨ k = 2 ∨ k = 3 ∨ k = 4 ∨ k = 5 ∨ k = 6 ∨ k = 7 ∨ k = 8 ∨ k = 9 ∨ k = 10 ∨ k = 11 ∨ k = 12 ∨ k = 13 ∨ k = 14 ∨ k = 15 by omega) with rfl | rfl | rfl | rfl | rfl | rfl | rfl | rfl | rfl | rfl | rfl | rfl | rfl | rfl | rfl | rfl
      · simp only [Nat.zero_add] at HZ
        clear v0 v1 v2 v3 v4 v5 v6 v7 v8 v9 v10 v11 v12 v13 v14 v15 V1 V2 V3 V4 V5 V6 V7 V8 V9 V10 V11 V12 V13 V14 V15
        generalize B 0 = u at *
        go_wp2_with (first
          | (rw [V0.out]
             refine store_step rfl 5 _ _ rfl gs 0 .u8 _ rfl rfl size_u8 hT ?_
             intro w5 hw5
             have hB5 : Below w.heap.size w w5 := by rw [hw5]; exact hB.setCell (p := ⟨gs, 0, none⟩) (by show w.heap.size ≤ gs; omega) _
             have hA5 : Cells w5 w.heap.size ([n0, n1, n2, n3, n4].map ncell) 61 := by rw [hw5]; exact hA.other (by show w.heap.size ≠ gs; omega) _
             have hZ5 : Cells w5 gz (List.replicate 16 (cellOf 0)) 45 := by rw [hw5]; exact hZ.other (by show gz ≠ gs; omega) _
             have hS5 : Cells w5 gs (z.map cellOf) 45 := by rw [hw5, HN.out, List.map_set]; exact hS.set 0 _
             rw [← HZ.out] at hS5
             clear hw5))
        go_roundw
        case rel => exact ⟨1, by omega, rfl, hB5, hA5, hZ5, hS5⟩
        case measure => simp [intOf]
      · simp only [Nat.reduceAdd] at HZ
        clear v0 v1 v2 v3 v4 v5 v6 v7 v8 v9 v10 v11 v12 v13 v14 v15 V0 V2 V3 V4 V5 V6 V7 V8 V9 V10 V11 V12 V13 V14 V15
        generalize B 1 = u at *
        go_wp2_with (first
          | (rw [V1.out]
             refine store_step rfl 5 _ _ rfl gs 1 .u8 _ rfl rfl size_u8 hT ?_
             intro w5 hw5
             have hB5 : Below w.heap.size w w5 := by rw [hw5]; exact hB.setCell (p := ⟨gs, 1, none⟩) (by show w.heap.size ≤ gs; omega) _
             have hA5 : Cells w5 w.heap.size ([n0, n1, n2, n3, n4].map ncell) 61 := by rw [hw5]; exact hA.other (by show w.heap.size ≠ gs; omega) _
             have hZ5 : Cells w5 gz (List.replicate 16 (cellOf 0)) 45 := by rw [hw5]; exact hZ.other (by show gz ≠ gs; omega) _
             have hS5 : Cells w5 gs (z.map cellOf) 45 := by rw [hw5, HN.out, List.map_set]; exact hS.set 1 _
             rw [← HZ.out] at hS5
             clear hw5))
        go_roundw
        case rel => exact ⟨2, by omega, rfl, hB5, hA5, hZ5, hS5⟩
        case measure => simp [intOf]
      · simp only [Nat.reduceAdd] at HZ
        clear v0 v1 v2 v3 v4 v5 v6 v7 v8 v9 v10 v11 v12 v13 v14 v15 V0 V1 V3 V4 V5 V6 V7 V8 V9 V10 V11 V12 V13 V14 V15
        generalize B 2 = u at *
        go_wp2_with (first
          | (rw [V2.out]
             refine store_step rfl 5 _ _ rfl gs 2 .u8 _ rfl rfl size_u8 hT ?_
             intro w5 hw5
             have hB5 : Below w.heap.size w w5 := by rw [hw5]; exact hB.setCell (p := ⟨gs, 2, none⟩) (by show w.heap.size ≤ gs; omega) _
             have hA5 : Cells w5 w.heap.size ([n0, n1, n2, n3, n4].map ncell) 61 := by rw [hw5]; exact hA.other (by show w.heap.size ≠ gs; omega) _
             have hZ5 : Cells w5 gz (List.replicate 16 (cellOf 0)) 45 := by rw [hw5]; exact hZ.other (by show gz ≠ gs; omega) _
             have hS5 : Cells w5 gs (z.map cellOf) 45 := by rw [hw5, HN.out, List.map_set]; exact hS.set 2 _
             rw [← HZ.out] at hS5
             clear hw5))
        go_roundw
        case rel => exact ⟨3, by omega, rfl, hB5, hA5, hZ5, hS5⟩
        case measure => simp [intOf]
      · simp only [Nat.reduceAdd] at HZ
        clear v0 v1 v2 v3 v4 v5 v6 v7 v8 v9 v10 v11 v12 v13 v14 v15 V0 V1 V2 V4 V5 V6 V7 V8 V9 V10 V11 V12 V13 V14 V15
        generalize B 3 = u at *
        go_wp2_with (first
          | (rw [V3.out]
             refine store_step rfl 5 _ _ rfl gs 3 .u8 _ rfl rfl size_u8 hT ?_
             intro w5 hw5
             have hB5 : Below w.heap.size w w5 := by rw [hw5]; exact hB.setCell (p := ⟨gs, 3, none⟩) (by show w.heap.size ≤ gs; omega) _
             have hA5 : Cells w5 w.heap.size ([n0, n1, n2, n3, n4].map ncell) 61 := by rw [hw5]; exact hA.other (by show w.heap.size ≠ gs; omega) _
             have hZ5 : Cells w5 gz (List.replicate 16 (cellOf 0)) 45 := by rw [hw5]; exact hZ.other (by show gz ≠ gs; omega) _
             have hS5 : Cells w5 gs (z.map cellOf) 45 := by rw [hw5, HN.out, List.map_set]; exact hS.set 3 _
             rw [← HZ.out] at hS5
             clear hw5))
        go_roundw
        case rel => exact ⟨4, by omega, rfl, hB5, hA5, hZ5, hS5⟩
        case measure => simp [intOf]
      · simp only [Nat.reduceAdd] at HZ
        clear v0 v1 v2 v3 v4 v5 v6 v7 v8 v9 v10 v11 v12 v13 v14 v15 V0 V1 V2 V3 V5 V6 V7 V8 V9 V10 V11 V12 V13 V14 V15
        generalize B 4 = u at *
        go_wp2_with (first
          | (rw [V4.out]
             refine store_step rfl 5 _ _ rfl gs 4 .u8 _ rfl rfl size_u8 hT ?_
             intro w5 hw5
             have hB5 : Below w.heap.size w w5 := by rw [hw5]; exact hB.setCell (p := ⟨gs, 4, none⟩) (by show w.heap.size ≤ gs; omega) _
             have hA5 : Cells w5 w.heap.size ([n0, n1, n2, n3, n4].map ncell) 61 := by rw [hw5]; exact hA.other (by show w.heap.size ≠ gs; omega) _
             have hZ5 : Cells w5 gz (List.replicate 16 (cellOf 0)) 45 := by rw [hw5]; exact hZ.other (by show gz ≠ gs; omega) _
             have hS5 : Cells w5 gs (z.map cellOf) 45 := by rw [hw5, HN.out, List.map_set]; exact hS.set 4 _
             rw [← HZ.out] at hS5
             clear hw5))
        go_roundw
        case rel => exact ⟨5, by omega, rfl, hB5, hA5, hZ5, hS5⟩
        case measure => simp [intOf]
      · simp only [Nat.reduceAdd] at HZ
        clear v0 v1 v2 v3 v4 v5 v6 v7 v8 v9 v10 v11 v12 v13 v14 v15 V0 V1 V2 V3 V4 V6 V7 V8 V9 V10 V11 V12 V13 V14 V15
        generalize B 5 = u at *
        go_wp2_with (first
          | (rw [V5.out]
             refine store_step rfl 5 _ _ rfl gs 5 .u8 _ rfl rfl size_u8 hT ?_
             intro w5 hw5
             have hB5 : Below w.heap.size w w5 := by rw [hw5]; exact hB.setCell (p := ⟨gs, 5, none⟩) (by show w.heap.size ≤ gs; omega) _
             have hA5 : Cells w5 w.heap.size ([n0, n1, n2, n3, n4].map ncell) 61 := by rw [hw5]; exact hA.other (by show w.heap.size ≠ gs; omega) _
             have hZ5 : Cells w5 gz (List.replicate 16 (cellOf 0)) 45 := by rw [hw5]; exact hZ.other (by show gz ≠ gs; omega) _
             have hS5 : Cells w5 gs (z.map cellOf) 45 := by rw [hw5, HN.out, List.map_set]; exact hS.set 5 _
             rw [← HZ.out] at hS5
             clear hw5))
        go_roundw
        case rel => exact ⟨6, by omega, rfl, hB5, hA5, hZ5, hS5⟩
        case measure => simp [intOf]
      · simp only [Nat.reduceAdd] at HZ
        clear v0 v1 v2 v3 v4 v5 v6 v7 v8 v9 v10 v11 v12 v13 v14 v15 V0 V1 V2 V3 V4 V5 V7 V8 V9 V10 V11 V12 V13 V14 V15
        generalize B 6 = u at *
        go_wp2_with (first
          | (rw [V6.out]
             refine store_step rfl 5 _ _ rfl gs 6 .u8 _ rfl rfl size_u8 hT ?_
             intro w5 hw5
             have hB5 : Below w.heap.size w w5 := by rw [hw5]; exact hB.setCell (p := ⟨gs, 6, none⟩) (by show w.heap.size ≤ gs; omega) _
             have hA5 : Cells w5 w.heap.size ([n0, n1, n2, n3, n4].map ncell) 61 := by rw [hw5]; exact hA.other (by show w.heap.size ≠ gs; omega) _
             have hZ5 : Cells w5 gz (List.replicate 16 (cellOf 0)) 45 := by rw [hw5]; exact hZ.other (by show gz ≠ gs; omega) _
             have hS5 : Cells w5 gs (z.map cellOf) 45 := by rw [hw5, HN.out, List.map_set]; exact hS.set 6 _
             rw [← HZ.out] at hS5
             clear hw5))
        go_roundw
        case rel => exact ⟨7, by omega, rfl, hB5, hA5, hZ5, hS5⟩
        case measure => simp [intOf]
      · simp only [Nat.reduceAdd] at HZ
        clear v0 v1 v2 v3 v4 v5 v6 v7 v8 v9 v10 v11 v12 v13 v14 v15 V0 V1 V2 V3 V4 V5 V6 V8 V9 V10 V11 V12 V13 V14 V15
        generalize B 7 = u at *
        go_wp2_with (first
          | (rw [V7.out]
             refine store_step rfl 5 _ _ rfl gs 7 .u8 _ rfl rfl size_u8 hT ?_
             intro w5 hw5
             have hB5 : Below w.heap.size w w5 := by rw [hw5]; exact hB.setCell (p := ⟨gs, 7, none⟩) (by show w.heap.size ≤ gs; omega) _
             have hA5 : Cells w5 w.heap.size ([n0, n1, n2, n3, n4].map ncell) 61 := by rw [hw5]; exact hA.other (by show w.heap.size ≠ gs; omega) _
             have hZ5 : Cells w5 gz (List.replicate 16 (cellOf 0)) 45 := by rw [hw5]; exact hZ.other (by show gz ≠ gs; omega) _
             have hS5 : Cells w5 gs (z.map cellOf) 45 := by rw [hw5, HN.out, List.map_set]; exact hS.set 7 _
             rw [← HZ.out] at hS5
             clear hw5))
        go_roundw
        case rel => exact ⟨8, by omega, rfl, hB5, hA5, hZ5, hS5⟩
        case measure => simp [intOf]
      · simp only [Nat.reduceAdd] at HZ
        clear v0 v1 v2 v3 v4 v5 v6 v7 v8 v9 v10 v11 v12 v13 v14 v15 V0 V1 V2 V3 V4 V5 V6 V7 V9 V10 V11 V12 V13 V14 V15
        generalize B 8 = u at *
        go_wp2_with (first
          | (rw [V8.out]
             refine store_step rfl 5 _ _ rfl gs 8 .u8 _ rfl rfl size_u8 hT ?_
             intro w5 hw5
             have hB5 : Below w.heap.size w w5 := by rw [hw5]; exact hB.setCell (p := ⟨gs, 8, none⟩) (by show w.heap.size ≤ gs; omega) _
             have hA5 : Cells w5 w.heap.size ([n0, n1, n2, n3, n4].map ncell) 61 := by rw [hw5]; exact hA.other (by show w.heap.size ≠ gs; omega) _
             have hZ5 : Cells w5 gz (List.replicate 16 (cellOf 0)) 45 := by rw [hw5]; exact hZ.other (by show gz ≠ gs; omega) _
             have hS5 : Cells w5 gs (z.map cellOf) 45 := by rw [hw5, HN.out, List.map_set]; exact hS.set 8 _
             rw [← HZ.out] at hS5
             clear hw5))
        go_roundw
        case rel => exact ⟨9, by omega, rfl, hB5, hA5, hZ5, hS5⟩
        case measure => simp [intOf]
      · simp only [Nat.reduceAdd] at HZ
        clear v0 v1 v2 v3 v4 v5 v6 v7 v8 v9 v10 v11 v12 v13 v14 v15 V0 V1 V2 V3 V4 V5 V6 V7 V8 V10 V11 V12 V13 V14 V15
        generalize B 9 = u at *
        go_wp2_with (first
          | (rw [V9.out]
             refine store_step rfl 5 _ _ rfl gs 9 .u8 _ rfl rfl size_u8 hT ?_
             intro w5 hw5
             have hB5 : Below w.heap.size w w5 := by rw [hw5]; exact hB.setCell (p := ⟨gs, 9, none⟩) (by show w.heap.size ≤ gs; omega) _
             have hA5 : Cells w5 w.heap.size ([n0, n1, n2, n3, n4].map ncell) 61 := by rw [hw5]; exact hA.other (by show w.heap.size ≠ gs; omega) _
             have hZ5 : Cells w5 gz (List.replicate 16 (cellOf 0)) 45 := by rw [hw5]; exact hZ.other (by show gz ≠ gs; omega) _
             have hS5 : Cells w5 gs (z.map cellOf) 45 := by rw [hw5, HN.out, List.map_set]; exact hS.set 9 _
             rw [← HZ.out] at hS5
             clear hw5))
        go_roundw
        case rel => exact ⟨10, by omega, rfl, hB5, hA5, hZ5, hS5⟩
        case measure => simp [intOf]
      · simp only [Nat.reduceAdd] at HZ
        clear v0 v1 v2 v3 v4 v5 v6 v7 v8 v9 v10 v11 v12 v13 v14 v15 V0 V1 V2 V3 V4 V5 V6 V7 V8 V9 V11 V12 V13 V14 V15
        generalize B 10 = u at *
        go_wp2_with (first
          | (rw [V10.out]
             refine store_step rfl 5 _ _ rfl gs 10 .u8 _ rfl rfl size_u8 hT ?_
             intro w5 hw5
             have hB5 : Below w.heap.size w w5 := by rw [hw5]; exact hB.setCell (p := ⟨gs, 10, none⟩) (by show w.heap.size ≤ gs; omega) _
             have hA5 : Cells w5 w.heap.size ([n0, n1, n2, n3, n4].map ncell) 61 := by rw [hw5]; exact hA.other (by show w.heap.size ≠ gs; omega) _
             have hZ5 : Cells w5 gz (List.replicate 16 (cellOf 0)) 45 := by rw [hw5]; exact hZ.other (by show gz ≠ gs; omega) _
             have hS5 : Cells w5 gs (z.map cellOf) 45 := by rw [hw5, HN.out, List.map_set]; exact hS.set 10 _
             rw [← HZ.out] at hS5
             clear hw5))
        go_roundw
        case rel => exact ⟨11, by omega, rfl, hB5, hA5, hZ5, hS5⟩
        case measure => simp [intOf]
      · simp only [Nat.reduceAdd] at HZ
        clear v0 v1 v2 v3 v4 v5 v6 v7 v8 v9 v10 v11 v12 v13 v14 v15 V0 V1 V2 V3 V4 V5 V6 V7 V8 V9 V10 V12 V13 V14 V15
        generalize B 11 = u at *
        go_wp2_with (first
          | (rw [V11.out]
             refine store_step rfl 5 _ _ rfl gs 11 .u8 _ rfl rfl size_u8 hT ?_
             intro w5 hw5
             have hB5 : Below w.heap.size w w5 := by rw [hw5]; exact hB.setCell (p := ⟨gs, 11, none⟩) (by show w.heap.size ≤ gs; omega) _
             have hA5 : Cells w5 w.heap.size ([n0, n1, n2, n3, n4].map ncell) 61 := by rw [hw5]; exact hA.other (by show w.heap.size ≠ gs; omega) _
             have hZ5 : Cells w5 gz (List.replicate 16 (cellOf 0)) 45 := by rw [hw5]; exact hZ.other (by show gz ≠ gs; omega) _
             have hS5 : Cells w5 gs (z.map cellOf) 45 := by rw [hw5, HN.out, List.map_set]; exact hS.set 11 _
             rw [← HZ.out] at hS5
             clear hw5))
        go_roundw
        case rel => exact ⟨12, by omega, rfl, hB5, hA5, hZ5, hS5⟩
        case measure => simp [intOf]
      · simp only [Nat.reduceAdd] at HZ
        clear v0 v1 v2 v3 v4 v5 v6 v7 v8 v9 v10 v11 v12 v13 v14 v15 V0 V1 V2 V3 V4 V5 V6 V7 V8 V9 V10 V11 V13 V14 V15
        generalize B 12 = u at *
        go_wp2_with (first
          | (rw [V12.out]
             refine store_step rfl 5 _ _ rfl gs 12 .u8 _ rfl rfl size_u8 hT ?_
             intro w5 hw5
             have hB5 : Below w.heap.size w w5 := by rw [hw5]; exact hB.setCell (p := ⟨gs, 12, none⟩) (by show w.heap.size ≤ gs; omega) _
             have hA5 : Cells w5 w.heap.size ([n0, n1, n2, n3, n4].map ncell) 61 := by rw [hw5]; exact hA.other (by show w.heap.size ≠ gs; omega) _
             have hZ5 : Cells w5 gz (List.replicate 16 (cellOf 0)) 45 := by rw [hw5]; exact hZ.other (by show gz ≠ gs; omega) _
             have hS5 : Cells w5 gs (z.map cellOf) 45 := by rw [hw5, HN.out, List.map_set]; exact hS.set 12 _
             rw [← HZ.out] at hS5
             clear hw5))
        go_roundw
        case rel => exact ⟨13, by omega, rfl, hB5, hA5, hZ5, hS5⟩
        case measure => simp [intOf]
      · simp only [Nat.reduceAdd] at HZ
        clear v0 v1 v2 v3 v4 v5 v6 v7 v8 v9 v10 v11 v12 v13 v14 v15 V0 V1 V2 V3 V4 V5 V6 V7 V8 V9 V10 V11 V12 V14 V15
        generalize B 13 = u at *
        go_wp2_with (first
          | (rw [V13.out]
             refine store_step rfl 5 _ _ rfl gs 13 .u8 _ rfl rfl size_u8 hT ?_
             intro w5 hw5
             have hB5 : Below w.heap.size w w5 := by rw [hw5]; exact hB.setCell (p := ⟨gs, 13, none⟩) (by show w.heap.size ≤ gs; omega) _
             have hA5 : Cells w5 w.heap.size ([n0, n1, n2, n3, n4].map ncell) 61 := by rw [hw5]; exact hA.other (by show w.heap.size ≠ gs; omega) _
             have hZ5 : Cells w5 gz (List.replicate 16 (cellOf 0)) 45 := by rw [hw5]; exact hZ.other (by show gz ≠ gs; omega) _
             have hS5 : Cells w5 gs (z.map cellOf) 45 := by rw [hw5, HN.out, List.map_set]; exact hS.set 13 _
             rw [← HZ.out] at hS5
             clear hw5))
        go_roundw
        case rel => exact ⟨14, by omega, rfl, hB5, hA5, hZ5, hS5⟩
        case measure => simp [intOf]
      · simp only [Nat.reduceAdd] at HZ
        clear v0 v1 v2 v3 v4 v5 v6 v7 v8 v9 v10 v11 v12 v13 v14 v15 V0 V1 V2 V3 V4 V5 V6 V7 V8 V9 V10 V11 V12 V13 V15
        generalize B 14 = u at *
        go_wp2_with (first
          | (rw [V14.out]
             refine store_step rfl 5 _ _ rfl gs 14 .u8 _ rfl rfl size_u8 hT ?_
             intro w5 hw5
             have hB5 : Below w.heap.size w w5 := by rw [hw5]; exact hB.setCell (p := ⟨gs, 14, none⟩) (by show w.heap.size ≤ gs; omega) _
             have hA5 : Cells w5 w.heap.size ([n0, n1, n2, n3, n4].map ncell) 61 := by rw [hw5]; exact hA.other (by show w.heap.size ≠ gs; omega) _
             have hZ5 : Cells w5 gz (List.replicate 16 (cellOf 0)) 45 := by rw [hw5]; exact hZ.other (by show gz ≠ gs; omega) _
             have hS5 : Cells w5 gs (z.map cellOf) 45 := by rw [hw5, HN.out, List.map_set]; exact hS.set 14 _
             rw [← HZ.out] at hS5
             clear hw5))
        go_roundw
        case rel => exact ⟨15, by omega, rfl, hB5, hA5, hZ5, hS5⟩
        case measure => simp [intOf]
      · simp only [Nat.reduceAdd] at HZ
        clear v0 v1 v2 v3 v4 v5 v6 v7 v8 v9 v10 v11 v12 v13 v14 v15 V0 V1 V2 V3 V4 V5 V6 V7 V8 V9 V10 V11 V12 V13 V14
        generalize B 15 = u at *
        go_wp2_with (first
          | (rw [V15.out]
             refine store_step rfl 5 _ _ rfl gs 15 .u8 _ rfl rfl size_u8 hT ?_
             intro w5 hw5
             have hB5 : Below w.heap.size w w5 := by rw [hw5]; exact hB.setCell (p := ⟨gs, 15, none⟩) (by show w.heap.size ≤ gs; omega) _
             have hA5 : Cells w5 w.heap.size ([n0, n1, n2, n3, n4].map ncell) 61 := by rw [hw5]; exact hA.other (by show w.heap.size ≠ gs; omega) _
             have hZ5 : Cells w5 gz (List.replicate 16 (cellOf 0)) 45 := by rw [hw5]; exact hZ.other (by show gz ≠ gs; omega) _
             have hS5 : Cells w5 gs (z.map cellOf) 45 := by rw [hw5, HN.out, List.map_set]; exact hS.set 15 _
             rw [← HZ.out] at hS5
             clear hw5))
        go_roundw
        case rel => exact ⟨16, by omega, rfl, hB5, hA5, hZ5, hS5⟩
        case measure => simp [intOf]
    · obtain rfl : k = 16 := by omega
      rw [HR.out] at hS HLk
      clear HV HS HL
      go_wp2_with (first
        | (refine get_step rfl 45 _ rfl gs 16 r 5 rfl hS Tryd.underlying45 size_b16 HLk.out ?_)
        | (refine set_step rfl 45 _ _ rfl gz 16 (List.replicate 16 (cellOf 0)) r rfl rfl hZ (by rw [List.length_replicate]) size_b16 HLk.out ?_
           intro w7 hb7 hC7 _))
      refine ret_hash Tryd.results48 gz r rfl hC7 Tryd.underlying45 size_b16 HLk.out rfl ⟨rfl, hB.trans (hb7.below (by omega) hB.size)⟩
theorem put_set (x k : Nat) (hk : k < 16) : putL x (k + 1) ++ List.replicate (16 - (k + 1)) 0 = (putL x k ++ List.replicate (16 - k) 0).set k (byteAt x k) := by
  rw [set_next _ k 16 _ (putL_length x k) hk, putL_succ]
theorem written_any (n : List Nat) (w : World) (hn : n.length = 5) (h : Below5 67108864 n) :
    Calls Tryd.prog 48 #[numVal n] w fun e w' => e = .returned (hashVal (putL (lval n) 16)) ∧ Below w.heap.size w w' := by
  obtain ⟨n0, n1, n2, n3, n4, rfl⟩ := five_of n hn
  rw [below5_five] at h
  exact written_over n0 n1 n2 n3 n4 _ (fun k => putL (lval [n0, n1, n2, n3, n4]) k ++ List.replicate (16 - k) 0) (byteAt (lval [n0, n1, n2, n3, n4])) w ⟨wrote_0 n0 n1 n2 n3 n4 h, wrote_1 n0 n1 n2 n3 n4 h, wrote_2 n0 n1 n2 n3 n4 h, wrote_3 n0 n1 n2 n3 n4 h, wrote_4 n0 n1 n2 n3 n4 h, wrote_5 n0 n1 n2 n3 n4 h, wrote_6 n0 n1 n2 n3 n4 h, wrote_7 n0 n1 n2 n3 n4 h, wrote_8 n0 n1 n2 n3 n4 h, wrote_9 n0 n1 n2 n3 n4 h, wrote_10 n0 n1 n2 n3 n4 h, wrote_11 n0 n1 n2 n3 n4 h, wrote_12 n0 n1 n2 n3 n4 h, wrote_13 n0 n1 n2 n3 n4 h, wrote_14 n0 n1 n2 n3 n4 h, wrote_15 n0 n1 n2 n3 n4 h⟩ (fun k hk => by rw [List.length_append, putL_length, List.length_replicate]; omega) (by show _ = _; rfl) (fun k hk => put_set _ k hk) (by show _ = _; simp)
end Go.Proofs.YtdaieklimdhkoaaDoor
namespace Go.Proofs.YtdaieklimdhkoaaDoor
open Go.RowKit
theorem u8_all (p : Nat → Bool) (h : (List.range 256).all p = true) (x : Nat) (hx : x < 256) : p x = true := List.all_eq_true.1 h x (List.mem_range.2 hx)
theorem low4 (u : UInt8) : bits .and .u8 (u.toNat : Int) 15 = ((u % 16).toNat : Int) := by
  have h := u8_all (fun x => bits .and .u8 (x : Int) 15 == ((x % 16 : Nat) : Int)) (by decide +kernel) u.toNat u.toNat_lt
  rw [UInt8.toNat_mod]
  exact beq_iff_eq.1 h
theorem high6 (u : UInt8) : bits .and .u8 (u.toNat : Int) 252 = ((u / 4 * 4).toNat : Int) := by
  have h := u8_all (fun x => bits .and .u8 (x : Int) 252 == ((x / 4 * 4 : Nat) : Int)) (by decide +kernel) u.toNat u.toNat_lt
  have e : (u / 4 * 4).toNat = u.toNat / 4 * 4 := by
    rw [UInt8.toNat_mul, UInt8.toNat_div]
    have := u.toNat_lt
    show u.toNat / 4 * 4 % 256 = _
    omega
  rw [e]
  exact beq_iff_eq.1 h
/-- i places of a row are clamped. -/
def clampTo (r : List UInt8) : Nat → List UInt8
  | 0 => r
  | i + 1 => if i % 4 = 3 then (clampTo r i).set i ((clampTo r i).getD i 0 % 16) else if i % 4 = 0 ∧ 0 < i then (clampTo r i).set i ((clampTo r i).getD i 0 / 4 * 4) else clampTo r i
theorem clampTo_length (r : List UInt8) : ∀ i, (clampTo r i).length = r.length
  | 0 => rfl
  | i + 1 => by
    rw [clampTo]
    split
    · rw [List.length_set, clampTo_length]
    · split
      · rw [List.length_set, clampTo_length]
      · exact clampTo_length r i
theorem sixteen_of {α : Type} (n : List α) (h : n.length = 16) : ∃ a0 a1 a2 a3 a4 a5 a6 a7 a8 a9 a10 a11 a12 a13 a14 a15, n = [a0, a1, a2, a3, a4, a5, a6, a7, a8, a9, a10, a11, a12, a13, a14, a15] := by
  match n, h with
  | [a0, a1, a2, a3, a4, a5, a6, a7, a8, a9, a10, a11, a12, a13, a14, a15], _ => exact ⟨a0, a1, a2, a3, a4, a5, a6, a7, a8, a9, a10, a11, a12, a13, a14, a15, rfl⟩
theorem clampTo_all (k : List UInt8) (hk : k.length = 16) : clampTo (k ++ [0]) 16 = polyClamp k ++ [0] := by
  obtain ⟨a0, a1, a2, a3, a4, a5, a6, a7, a8, a9, a10, a11, a12, a13, a14, a15, rfl⟩ := sixteen_of k hk
  rfl
set_option maxRecDepth 100000 in
set_option maxHeartbeats 4000000 in
theorem clamped_over (key r0 r : List UInt8) (S : Nat → List UInt8) (w : World) (HK : Hid (key.length = 32)) (HR0 : Hid (r0 = key.take 16 ++ [0])) (HL : Hid (∀ k, (S k).length = 17)) (H0 : Hid (S 0 = r0)) (HS : Hid (∀ i, S (i + 1) = if i % 4 = 3 then (S i).set i ((S i).getD i 0 % 16) else if i % 4 = 0 ∧ 0 < i then (S i).set i ((S i).getD i 0 / 4 * 4) else S i)) (HR : Hid (S 16 = r)) :
    Calls Tryd.prog 27 #[hashVal key] w fun e w' => e = .returned (hashVal r) ∧ Below w.heap.size w w' := by
  go_enter Tryd.func27, Tryd.ntmps27
  go_wp2_with (first
    | (refine take_step rfl 23 (.tmp 0) rfl key rfl ?_
       intro w1 hB1 hA1 hz
       clear hz)
    | (refine zero_step (o := ⟨some 2, _, _, _, _, _⟩) rfl 64 rfl 17 zero_row17 ?_
       intro w2 hb2 hZ2 hz
       have hB2 := below_then hB1 hb2
       have hA2 := hA1.on hb2
       have hg1 := hA1.lt
       clear hB1 hA1 hb2 hz)
    | (refine zero_step (o := ⟨some 3, _, _, _, _, _⟩) rfl 64 rfl 17 zero_row17 ?_
       intro w3 hb3 hS3 hz
       have hB3 := below_then hB2 hb3
       have hA3 := hA2.on hb3
       have hZ3 := hZ2.on hb3
       have hg2 := hZ2.lt
       clear hB2 hA2 hZ2 hb3 hz))
  generalize hg : w1.heap.size = gz at *
  generalize hh : w2.heap.size = gs at *
  clear hg hh
  refine wp_region_tail 2 (by kernel_rfl) (by kernel_rfl) ?_
  intro w4 hw4
  have hB4 : Below w.heap.size w w4 := by rw [hw4]; exact hB3.drew
  have hA4 : Cells w4 w.heap.size (key.map cellOf) 23 := by rw [hw4]; exact hA3
  have hZ4 : Cells w4 gz (List.replicate 17 (cellOf 0)) 64 := by rw [hw4]; exact hZ3
  have hS4 : Cells w4 gs (List.replicate 17 (cellOf 0)) 64 := by rw [hw4]; exact hS3
  clear hw4 hB3 hA3 hZ3 hS3
  simp only [List.take_succ_cons, List.take_zero, List.drop_succ_cons, List.drop_zero]
  repeat still_step
  refine wpStill_nil ?_
  have HT : Hid ((key.take 16).length = 16) := by show _ = _; rw [List.length_take, HK.out]; rfl
  have hR4 := hA4.all.take 16
  generalize key.take 16 = kt at *
  go_wp2_with (first
    | (refine copy_row rfl (.tmp 5) (.tmp 6) rfl gs 0 17 17 16 32 w4.heap.size 16 (some ⟨w.heap.size, 0, none⟩) kt rfl rfl HT.out (by omega) hR4 (hS4.there 0 16 (by rw [List.length_replicate]; omega)) ?_
       intro w5 hw5
       have hus : kt.take 17 = kt := List.take_of_length_le (by rw [HT.out]; omega)
       rw [hus] at hw5
       have hb5 : But gs w4 w5 := by rw [hw5]; exact (But.refl gs w4).setCells _ _
       have hS5 : Cells w5 gs (r0.map cellOf) 64 := by
         have h := hS4.setCells (cs := kt.map cellOf) (o := 0) (by rw [List.length_map, HT.out, List.length_replicate]; omega)
         rw [← hw5] at h
         have e : splice (List.replicate 17 (cellOf 0)) 0 (kt.map cellOf) = r0.map cellOf := by
           rw [HR0.out, splice, List.length_map, HT.out, List.map_append]
           rfl
         rw [e] at h
         exact h
       have hB5 := hB4.trans (hb5.below (by omega) hB4.size)
       have hA5 := hA4.but hb5 (by omega)
       have hZ5 := hZ4.but hb5 (by omega)
       clear hw5 hus hb5 hB4 hA4 hZ4 hS4 hR4))
  go_loopw [8] (fun i wr => ∃ k : Nat, k ≤ 16 ∧ i = .int .i64 k ∧ Below w.heap.size w wr ∧ Cells wr gz (List.replicate 17 (cellOf 0)) 64 ∧ Cells wr gs ((S k).map cellOf) 64) (fun i _ => 16 - (intOf i).toNat)
  case atStart => exact ⟨0, Nat.zero_le _, rfl, hB5, hZ5, by rw [H0.out]; exact hS5⟩
  case round =>
    clear hB5 hA5 hZ5 hS5
    obtain ⟨k, hk, rfl, hB, hZ, hS⟩ := hrel
    have HLk := Lib.hid (HL.out k)
    by_cases hlt : k < 16
    · have HN := Lib.hid (HS.out k)
      obtain ⟨z, HZ⟩ : ∃ z, Hid (S (k + 1) = z) := ⟨_, rfl⟩
      rw [HZ.out] at HN
      generalize S k = s at *
      have i1 : (0 : Int) ≤ (k : Int) := by omega
      have i2 : (k : Int) < 17 := by omega
      have c1 := hS.get (j := k) (v := cellOf (s.getD k 0)) (by rw [List.getElem?_map, List.getD_eq_getElem?_getD, List.getElem?_eq_getElem (by rw [HLk.out]; omega)]; rfl)
      have hT := hS.there k 1 (by rw [List.length_map, HLk.out]; omega)
      have V1 := Lib.hid (low4 (s.getD k 0))
      have V2 := Lib.hid (high6 (s.getD k 0))
      clear HS HL H0 HR
      generalize s.getD k 0 = u at *
      by_cases h3 : k % 4 = 3
      · rw [if_pos h3] at HN
        have e3 : (k : Int) % 4 = 3 := by omega
        go_wp2_with (first
          | (rw [V1.out]
             refine store_step rfl 5 _ _ rfl gs k .u8 _ rfl rfl size_u8 hT ?_
             intro w5 hw5
             have hB5 : Below w.heap.size w w5 := by rw [hw5]; exact hB.setCell (p := ⟨gs, k, none⟩) (by show w.heap.size ≤ gs; omega) _
             have hZ5 : Cells w5 gz (List.replicate 17 (cellOf 0)) 64 := by rw [hw5]; exact hZ.other (by show gz ≠ gs; omega) _
             have hS5 : Cells w5 gs (z.map cellOf) 64 := by rw [hw5, HN.out, List.map_set]; exact hS.set k _
             rw [← HZ.out] at hS5
             clear hw5))
        go_roundw
        case rel => exact ⟨k + 1, by omega, by go_num, hB5, hZ5, hS5⟩
        case measure => simp [intOf]; omega
      · rw [if_neg h3] at HN
        have e3 : ¬ (k : Int) % 4 = 3 := by omega
        by_cases h0 : k % 4 = 0 ∧ 0 < k
        · rw [if_pos h0] at HN
          have e4 : (k : Int) % 4 = 0 := by omega
          have e5 : (0 : Int) < (k : Int) := by omega
          go_wp2_with (first
            | (rw [V2.out]
               refine store_step rfl 5 _ _ rfl gs k .u8 _ rfl rfl size_u8 hT ?_
               intro w5 hw5
               have hB5 : Below w.heap.size w w5 := by rw [hw5]; exact hB.setCell (p := ⟨gs, k, none⟩) (by show w.heap.size ≤ gs; omega) _
               have hZ5 : Cells w5 gz (List.replicate 17 (cellOf 0)) 64 := by rw [hw5]; exact hZ.other (by show gz ≠ gs; omega) _
               have hS5 : Cells w5 gs (z.map cellOf) 64 := by rw [hw5, HN.out, List.map_set]; exact hS.set k _
               rw [← HZ.out] at hS5
               clear hw5))
          go_roundw
          case rel => exact ⟨k + 1, by omega, by go_num, hB5, hZ5, hS5⟩
          case measure => simp [intOf]; omega
        · rw [if_neg h0, ← HZ.out] at HN
          by_cases e4 : (k : Int) % 4 = 0
          all_goals
            try have e5 : ¬ (0 : Int) < (k : Int) := by omega
            go_wp2_with fail
            go_roundw
            case rel => exact ⟨k + 1, by omega, by go_num, hB, hZ, by rw [HN.out]; exact hS⟩
            case measure => simp [intOf]; omega
    · obtain rfl : k = 16 := by omega
      rw [HR.out] at hS HLk
      clear HS HL
      go_wp2_with (first
        | (refine get_step rfl 64 _ rfl gs 17 r 5 rfl hS Tryd.underlying64 size_row17 HLk.out ?_)
        | (refine set_step rfl 64 _ _ rfl gz 17 (List.replicate 17 (cellOf 0)) r rfl rfl hZ (by rw [List.length_replicate]) size_row17 HLk.out ?_
           intro w7 hb7 hC7 _))
      refine ret_hash Tryd.results27 gz r rfl hC7 Tryd.underlying64 size_row17 HLk.out rfl ⟨rfl, hB.trans (hb7.below (by omega) hB.size)⟩
theorem clamped_any (key : List UInt8) (w : World) (hk : key.length = 32) :
    Calls Tryd.prog 27 #[hashVal key] w fun e w' => e = .returned (hashVal (polyClamp (key.take 16) ++ [0])) ∧ Below w.heap.size w w' :=
  clamped_over key _ _ (clampTo (key.take 16 ++ [0])) w hk (show key.take 16 ++ [0] = _ from rfl) (fun k => by rw [clampTo_length, List.length_append, List.length_take, hk]; rfl) (show clampTo _ 0 = _ from rfl) (fun _ => rfl) (clampTo_all _ (by rw [List.length_take, hk]; rfl))
end Go.Proofs.YtdaieklimdhkoaaDoor
namespace Go.Proofs.YtdaieklimdhkoaaDoor
open Go.RowKit
/-- The bodies of a code's loops, the outer one first. -/
def loopsOf : Code → List Code
  | .loop c => c :: loopsOf c
  | .seq a b => loopsOf a ++ loopsOf b
  | .block _ c => loopsOf c
  | .scope c => loopsOf c
  | .cond _ a b => loopsOf a ++ loopsOf b
  | _ => []
/-- What these slots hold. -/
def Slots (a : Act) : List (Nat × Value) → Prop
  | [] => True
  | (i, v) :: l => a.tmps.getD i undef = v ∧ Slots a l
/-- A frame of n slots, of which some are known. -/
def Fr (n : Nat) (l : List (Nat × Value)) (a : Act) : Prop := a.tmps.size = n ∧ a.defers = [] ∧ Slots a l
theorem frame_of (n : Nat) (a : Act) (hs : a.tmps.size = n) (hd : a.defers = []) : ∃ u : Nat → Value, a = ⟨((List.range n).map u).toArray, []⟩ := by
  obtain ⟨t, d⟩ := a
  simp only at hs hd
  subst hd
  refine ⟨fun i => t.getD i undef, ?_⟩
  congr 1
  apply Array.ext_getElem?
  intro i
  by_cases h : i < n
  · simp [h, hs]
  · simp [h, hs]
end Go.Proofs.YtdaieklimdhkoaaDoor
