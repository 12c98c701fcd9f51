/- Part 12 of what the laws of this seat share: CRefB, CRefT, CRefT2, CLaw, ELaw, EAlive. -/
import Derived.Test.YtdaieklimdhkoaaDoorPart11
namespace Go.Proofs.YtdaieklimdhkoaaDoor
open Go.RowKit
theorem word_le4 (a b c d : UInt8) : (((a.toNat : Int) + 256 * ((b.toNat : Int) % 4294967296) + 65536 * ((c.toNat : Int) % 4294967296)) % 4294967296 + 16777216 * ((d.toNat : Int) % 4294967296) % 4294967296) % 4294967296 = ((word4L [a, b, c, d]).toNat : Int) := by
  rw [word4L, BitVec.toNat_ofNat]
  simp [bigN]
  have h1 := a.toNat_lt
  have h2 := b.toNat_lt
  have h3 := c.toNat_lt
  have h4 := d.toNat_lt
  omega
set_option maxRecDepth 100000 in
theorem refWord_any (A : Option Addr) (c n i : Nat) (bs : List UInt8) (w : World) (hl : bs.length = n) (hr : Row w w.heap.size A bs) (hi : 4 * i + 4 ≤ n) (hn : n ≤ 100000) :
    Calls Tryd.prog 50 #[.slice A n c, .int .i64 (i : Int)] w fun e w' => e = .returned (wcell (word4L ((bs.drop (4 * i)).take 4))) ∧ ∃ k, w' = w.drewN k := by
  have HL := Lib.hid hl
  obtain ⟨b, off, rfl, hb0, c0⟩ := hr.atD (4 * i) (by omega)
  obtain ⟨_, _, hA, _, c1⟩ := hr.atD (4 * i + 1) (by omega)
  cases hA
  obtain ⟨_, _, hA, _, c2⟩ := hr.atD (4 * i + 2) (by omega)
  cases hA
  obtain ⟨_, _, hA, _, c3⟩ := hr.atD (4 * i + 3) (by omega)
  cases hA
  have HF := Lib.hid (four_at bs (4 * i) (by omega))
  clear hl
  generalize bs.getD (4 * i) 0 = x0 at *
  generalize bs.getD (4 * i + 1) 0 = x1 at *
  generalize bs.getD (4 * i + 2) 0 = x2 at *
  generalize bs.getD (4 * i + 3) 0 = x3 at *
  rw [HF.out]
  clear HF HL hr
  have i0 : (0 : Int) ≤ 4 * (i : Int) := by omega
  have i1 : (0 : Int) ≤ 4 * (i : Int) + 1 := by omega
  have i2 : (0 : Int) ≤ 4 * (i : Int) + 2 := by omega
  have i3 : (0 : Int) ≤ 4 * (i : Int) + 3 := by omega
  have j0 : 4 * (i : Int) < (n : Int) := by omega
  have j1 : 4 * (i : Int) + 1 < (n : Int) := by omega
  have j2 : 4 * (i : Int) + 2 < (n : Int) := by omega
  have j3 : 4 * (i : Int) + 3 < (n : Int) := by omega
  have t0 : (4 * (i : Int)).toNat = 4 * i := by omega
  have t1 : (4 * (i : Int) + 1).toNat = 4 * i + 1 := by omega
  have t2 : (4 * (i : Int) + 2).toNat = 4 * i + 2 := by omega
  have t3 : (4 * (i : Int) + 3).toNat = 4 * i + 3 := by omega
  go_enter Tryd.func50, Tryd.ntmps50
  go_wp2
  go_quiet (fail)
  go_wp2
  go_ret
  exact ⟨ret_int (word_le4 x0 x1 x2 x3), _, rfl⟩
theorem refWord_at (A : Option Addr) (c n i : Nat) (z : Int) (xw : BitVec 32) (bs : List UInt8) (w : World) (hz : z = (i : Int)) (hx : word4L ((bs.drop (4 * i)).take 4) = xw) (hl : bs.length = n) (hr : Row w w.heap.size A bs) (hi : 4 * i + 4 ≤ n) (hn : n ≤ 100000) :
    Calls Tryd.prog 50 #[.slice A n c, .int .i64 z] w fun e w' => e = .returned (wcell xw) ∧ Below w.heap.size w w' := by
  subst hz hx
  refine (refWord_any A c n i bs w hl hr hi hn).mono ?_
  rintro e w' ⟨rfl, k, rfl⟩
  exact ⟨rfl, below_drewN (Below.refl _ _) k⟩
theorem refQuarter_at (g n c i j k m : Nat) (zi zj zk zm : Int) (l l' : List (BitVec 32)) (rest : List Value) (w : World) (ei : zi = (i : Int)) (ej : zj = (j : Int)) (ek : zk = (k : Int)) (em : zm = (m : Int)) (hq : qset l i j k m = l') (hl : l.length = n) (hi : i < n) (hj : j < n) (hk : k < n) (hm : m < n) (h1 : i ≠ j) (h2 : i ≠ k) (h3 : i ≠ m) (h4 : j ≠ k) (h5 : j ≠ m) (h6 : k ≠ m) (hC : Cells w g (l.map wcell ++ rest) 44) :
    Calls Tryd.prog 51 #[.slice (some ⟨g, 0, none⟩) n c, .int .i64 zi, .int .i64 zj, .int .i64 zk, .int .i64 zm] w fun e w' => e = .returned (.tuple #[]) ∧ But g w w' ∧ Cells w' g (l'.map wcell ++ rest) 44 := by
  subst ei ej ek em hq
  exact refQuarter_any g n c i j k m l rest w hl hi hj hk hm h1 h2 h3 h4 h5 h6 hC
theorem le_cells (y : BitVec 32) : (#[.int .u8 ((y.toNat : Int) % 256), .int .u8 ((y.toNat : Int) / 256 % 256), .int .u8 ((y.toNat : Int) / 65536 % 256), .int .u8 ((y.toNat : Int) / 16777216)] : Array Value) = ((putL y.toNat 4).map cellOf).toArray := by
  have h := y.isLt
  have e : putL y.toNat 4 = [byteAt y.toNat 0, byteAt y.toNat 1, byteAt y.toNat 2, byteAt y.toNat 3] := rfl
  have b0 : cellOf (byteAt y.toNat 0) = .int .u8 ((y.toNat : Int) % 256) := by
    show Value.int .u8 _ = _
    rw [byteAt, UInt8.toNat_ofNat']
    congr 1
    all_goals omega
  have b1 : cellOf (byteAt y.toNat 1) = .int .u8 ((y.toNat : Int) / 256 % 256) := by
    show Value.int .u8 _ = _
    rw [byteAt, UInt8.toNat_ofNat']
    congr 1
    all_goals omega
  have b2 : cellOf (byteAt y.toNat 2) = .int .u8 ((y.toNat : Int) / 65536 % 256) := by
    show Value.int .u8 _ = _
    rw [byteAt, UInt8.toNat_ofNat']
    congr 1
    all_goals omega
  have b3 : cellOf (byteAt y.toNat 3) = .int .u8 ((y.toNat : Int) / 16777216) := by
    show Value.int .u8 _ = _
    rw [byteAt, UInt8.toNat_ofNat']
    congr 1
    all_goals omega
  rw [e, List.map_cons, List.map_cons, List.map_cons, List.map_cons, List.map_nil, b0, b1, b2, b3]
theorem Cells.rangeHead {w : World} {g : Nat} {vs rest : List Value} {t : TypeId} (h : Cells w g (vs ++ rest) t) : w.rangeAt g 0 vs := fun j v hj => by
  rw [Nat.zero_add]
  refine h.get ?_
  rcases Nat.lt_or_ge j vs.length with hl | hl
  · rw [List.getElem?_append_left hl, hj]
  · rw [List.getElem?_eq_none hl] at hj; cases hj
/-- The first words of a state, and those of the key up to the k-th. -/
def start4 : List (BitVec 32) := [0x61707865, 0x3320646e, 0x79622d32, 0x6b206574]
set_option maxRecDepth 100000 in
set_option maxHeartbeats 2000000 in
theorem refBlock_over (A : Option Addr) (d : Nat) (key nonce : List UInt8) (x n0 n1 n2 : BitVec 32) (S : Nat → List (BitVec 32)) (s : List (BitVec 32)) (X : Nat → List (BitVec 32)) (E : Nat → List UInt8) (w : World) (HK : Hid (key.length = 32)) (HNL : Hid (nonce.length = 12)) (hr : Row w w.heap.size A nonce)
    (H0 : Hid (S 0 = start4)) (HS : Hid (∀ k, S (k + 1) = S k ++ [word4L ((key.drop (4 * k)).take 4)])) (HSL : Hid (∀ k, (S k).length = 4 + k)) (HW0 : Hid (word4L ((nonce.drop (4 * 0)).take 4) = n0)) (HW1 : Hid (word4L ((nonce.drop (4 * 1)).take 4) = n1)) (HW2 : Hid (word4L ((nonce.drop (4 * 2)).take 4) = n2)) (HSS : Hid (S 8 ++ [x, n0, n1, n2] = s)) (HL : Hid (s.length = 16))
    (HX0 : Hid (X 0 = s)) (HX : Hid (∀ k, X (k + 1) = qset (qset (qset (qset (qset (qset (qset (qset (X k) 0 4 8 12) 1 5 9 13) 2 6 10 14) 3 7 11 15) 0 5 10 15) 1 6 11 12) 2 7 8 13) 3 4 9 14)) (HXL : Hid (∀ k, (X k).length = 16))
    (HE0 : Hid (E 0 = [])) (HE : Hid (∀ k, E (k + 1) = E k ++ putL ((X 10).getD k 0 + s.getD k 0).toNat 4)) (HEL : Hid (∀ k, (E k).length = 4 * k)) :
    Calls Tryd.prog 32 #[hashVal key, wcell x, .slice A 12 d] w (GivesAt w (E 16) 64) := by
  go_enter Tryd.func32, Tryd.ntmps32
  go_wp2_with (first
    | (refine take_step rfl 22 _ rfl key rfl ?_
       intro w1 hB1 hC1 hz1
       clear hz1))
  have hb2 : Below w1.heap.size w1 (w1.alloc (.cells #[.int .u32 1634760805, .int .u32 857760878, .int .u32 2036477234, .int .u32 1797285236] 44)) := (Below.refl _ _).alloc (Nat.le_refl _) _
  have hO2 : OwnsW (w1.alloc (.cells #[.int .u32 1634760805, .int .u32 857760878, .int .u32 2036477234, .int .u32 1797285236] 44)) w1.heap.size (.slice (some ⟨w1.heap.size, 0, none⟩) 4 4) (S 0) := by
    rw [H0.out]
    exact OwnsW.lit w1 start4 (Nat.le_refl _) (by decide)
  generalize w1.alloc (.cells #[.int .u32 1634760805, .int .u32 857760878, .int .u32 2036477234, .int .u32 1797285236] 44) = w2 at *
  have hB2 := below_then hB1 hb2
  have hC2 := hC1.on hb2
  have hg1 := hC1.lt
  have hz2 := hb2.size
  clear hB1 hC1 hb2 H0
  generalize w1.heap.size = g1 at *
  go_loopw [7, 8] (fun v i wr => ∃ k : Nat, k ≤ 8 ∧ i = .int .i64 k ∧ Below w.heap.size w wr ∧ g1 ≤ wr.heap.size ∧ Cells wr w.heap.size (key.map cellOf) 22 ∧ OwnsW wr g1 v (S k)) (fun _ i _ => 8 - (intOf i).toNat)
  case atStart => exact ⟨0, Nat.zero_le _, rfl, hB2, hz2, hC2, hO2⟩
  case round =>
    clear hB2 hC2 hO2 hz2
    obtain ⟨k, hk, rfl, hB, hz, hC, hO⟩ := hrel
    have HSk := Lib.hid (HSL.out k)
    by_cases hlt : k < 8
    · have HN := Lib.hid (HS.out k)
      obtain ⟨xw, HXW⟩ : ∃ xw, Hid (word4L ((key.drop (4 * k)).take 4) = xw) := ⟨_, rfl⟩
      rw [HXW.out] at HN
      have i1 : (k : Int) < 8 := by omega
      go_wp2_with fail
      refine (refWord_at _ 32 32 k _ xw key wr rfl HXW.out HK.out hC.all (by omega) (by omega)).mono ?_
      rintro e w3 ⟨rfl, hb3⟩
      have hB3 := below_then hB hb3
      have hC3 := hC.on hb3
      have hO3 := hO.on hb3
      have hz3 := Nat.le_trans hz hb3.size
      clear hB hC hO hz hb3 HXW
      have hb4 : Below w3.heap.size w3 (w3.alloc (.cells #[wcell xw] 44)) := (Below.refl _ _).alloc (Nat.le_refl _) _
      have hR4 : (w3.alloc (.cells #[wcell xw] 44)).rangeAt w3.heap.size 0 ([xw].map wcell) := (Cells.new w3 #[wcell xw] 44).rangeAll
      go_wp2_with (first
        | (at_builtin
           generalize w3.alloc (.cells #[wcell xw] 44) = w4 at *
           have hB4 := below_then hB3 hb4
           have hC4 := hC3.on hb4
           have hO4 := hO3.on hb4
           have hz4 := Nat.le_trans hz3 hb4.size
           clear hB3 hC3 hO3 hz3 hb4
           generalize w3.heap.size = g3 at *
           refine append_words rfl (.tmp 19) (.tmp 23) rfl g1 _ (S k) [xw] g3 1 1 rfl hO4 rfl rfl hR4 (by rw [HSk.out]; simp; omega) hz4 ?_
           intro v5 w5 hO5 hB5
           clear hR4 hO4))
      go_roundw
      case rel => exact ⟨k + 1, by omega, by go_num, hB4.trans (hB5.mono (Nat.le_of_lt hg1)), Nat.le_trans hz4 hB5.size, hC4.below hB5 hg1, by rw [HN.out]; exact hO5⟩
      case measure => simp [intOf]; omega
    · obtain rfl : k = 8 := by omega
      clear hC HS
      rename_i v7
      go_wp2_with fail
      refine (refWord_at A d 12 0 _ n0 nonce wr rfl HW0.out HNL.out (hr.on hB) (by omega) (by omega)).mono ?_
      rintro e w3 ⟨rfl, hb3⟩
      have hB3 := below_then hB hb3
      have hO3 := hO.on hb3
      have hz3 := Nat.le_trans hz hb3.size
      clear hB hO hz hb3
      go_wp2_with fail
      refine (refWord_at A d 12 1 _ n1 nonce w3 rfl HW1.out HNL.out (hr.on hB3) (by omega) (by omega)).mono ?_
      rintro e w4 ⟨rfl, hb4⟩
      have hB4 := below_then hB3 hb4
      have hO4 := hO3.on hb4
      have hz4 := Nat.le_trans hz3 hb4.size
      clear hB3 hO3 hz3 hb4
      go_wp2_with fail
      refine (refWord_at A d 12 2 _ n2 nonce w4 rfl HW2.out HNL.out (hr.on hB4) (by omega) (by omega)).mono ?_
      rintro e w5 ⟨rfl, hb5⟩
      have hB5 := below_then hB4 hb5
      have hO5 := hO4.on hb5
      have hz5 := Nat.le_trans hz4 hb5.size
      clear hB4 hO4 hz4 hb5 HW0 HW1 HW2
      have hb6 : Below w5.heap.size w5 (w5.alloc (.cells #[wcell x, wcell n0, wcell n1, wcell n2] 44)) := (Below.refl _ _).alloc (Nat.le_refl _) _
      have hR6 : (w5.alloc (.cells #[wcell x, wcell n0, wcell n1, wcell n2] 44)).rangeAt w5.heap.size 0 ([x, n0, n1, n2].map wcell) := (Cells.new w5 #[wcell x, wcell n0, wcell n1, wcell n2] 44).rangeAll
      go_wp2_with (first
        | (at_builtin
           generalize w5.alloc (.cells #[wcell x, wcell n0, wcell n1, wcell n2] 44) = w6 at *
           have hB6 := below_then hB5 hb6
           have hO6 := hO5.on hb6
           have hz6 := Nat.le_trans hz5 hb6.size
           clear hB5 hO5 hz5 hb6
           generalize w5.heap.size = g5 at *
           refine append_words rfl (.tmp 25) (.tmp 33) rfl g1 _ (S 8) [x, n0, n1, n2] g5 4 4 rfl hO6 rfl rfl hR6 (by rw [HSk.out]; simp) hz6 ?_
           intro v7 w7 hO7 hb7
           rw [HSS.out] at hO7
           have hB7 := hB6.trans (hb7.mono (Nat.le_of_lt hg1))
           have hz7 := Nat.le_trans hz6 hb7.size
           clear hR6 hO6 hB6 hz6 hb7 HSS HSk HSL
           obtain ⟨gs, cs, rs, rfl, hgs, hcs1, hcs2, hCs7⟩ := hO7.cells (by rw [HL.out]; omega)
           rw [HL.out] at hcs1 ⊢
           clear hO7)
        | (at_builtin
           have hb8 : Below w7.heap.size w7 (w7.alloc (.cells #[] 44)) := (Below.refl _ _).alloc (Nat.le_refl _) _
           have hO8 : OwnsW (w7.alloc (.cells #[] 44)) w7.heap.size (.slice (some ⟨w7.heap.size, 0, none⟩) 0 0) [] := OwnsW.lit w7 [] (Nat.le_refl _) (by decide)
           generalize w7.alloc (.cells #[] 44) = w8 at *
           have hB8 := below_then hB7 hb8
           have hCs8 := hCs7.on hb8
           have hgs2 := hCs7.lt
           have hz8 := hb8.size
           have hz9 := hB7.size
           clear hB7 hCs7 hb8
           generalize w7.heap.size = g7 at *
           refine append_words rfl (.tmp 35) (.tmp 36) rfl g7 _ [] s gs 16 cs rfl hO8 rfl HL.out hCs8.rangeHead (by rw [HL.out]; decide) hz8 ?_
           intro v9 w9 hO9 hb9
           rw [List.nil_append] at hO9
           have hB9 := hB8.trans (hb9.mono (by omega))
           have hCs9 := hCs8.below hb9 hgs2
           obtain ⟨gx, cx, rx, rfl, hgx, _, _, hX9⟩ := hO9.cells (by rw [HL.out]; omega)
           rw [HL.out]
           clear hO8 hB8 hCs8 hb9 hO9 hz8))
      have hsx : gs < gx := by omega
      have hwx : w.heap.size ≤ gx := by omega
      have hws : w.heap.size ≤ gs := by omega
      go_loopw [10] (fun i wr => ∃ k : Nat, k ≤ 10 ∧ i = .int .i64 k ∧ Below w.heap.size w wr ∧ Cells wr gs (s.map wcell ++ rs) 44 ∧ Cells wr gx ((X k).map wcell ++ rx) 44) (fun i _ => 10 - (intOf i).toNat)
      case atStart => exact ⟨0, Nat.zero_le _, rfl, hB9, hCs9, by rw [HX0.out]; exact hX9⟩
      case round =>
        clear hB9 hCs9 hX9
        obtain ⟨k, hk, rfl, hB, hCs, hXk⟩ := hrel
        rename World => wr
        by_cases hlt : k < 10
        · have HN := Lib.hid (HX.out k)
          have HL0 := Lib.hid (HXL.out k)
          generalize X k = l0 at *
          clear HX HXL
          have i1 : (k : Int) < 10 := by omega
          have hXc := hXk
          clear hXk
          obtain ⟨l1, HQ1⟩ : ∃ x, Hid (qset l0 0 4 8 12 = x) := ⟨_, rfl⟩
          have HL1 : Hid (l1.length = 16) := by show _ = _; rw [← HQ1.out, qset_length, HL0.out]
          rw [HQ1.out] at HN
          have CQ := Lib.hid (refQuarter_at gx 16 cx 0 4 8 12 _ _ _ _ l0 l1 rx wr rfl rfl rfl rfl HQ1.out HL0.out (by omega) (by omega) (by omega) (by omega) (by omega) (by omega) (by omega) (by omega) (by omega) (by omega) hXc)
          clear HQ1 HL0
          go_wp2_with fail
          refine CQ.out.mono ?_
          rintro e p1 ⟨rfl, hb, hXn⟩
          have hBn := hB.trans (hb.below hwx hB.size)
          have hCn := hCs.but hb (Nat.ne_of_lt hsx)
          clear CQ hB hCs hXc hb
          have hB := hBn
          have hCs := hCn
          have hXc := hXn
          clear hBn hCn hXn
          obtain ⟨l2, HQ2⟩ : ∃ x, Hid (qset l1 1 5 9 13 = x) := ⟨_, rfl⟩
          have HL2 : Hid (l2.length = 16) := by show _ = _; rw [← HQ2.out, qset_length, HL1.out]
          rw [HQ2.out] at HN
          have CQ := Lib.hid (refQuarter_at gx 16 cx 1 5 9 13 _ _ _ _ l1 l2 rx p1 rfl rfl rfl rfl HQ2.out HL1.out (by omega) (by omega) (by omega) (by omega) (by omega) (by omega) (by omega) (by omega) (by omega) (by omega) hXc)
          clear HQ2 HL1
          go_wp2_with fail
          refine CQ.out.mono ?_
          rintro e p2 ⟨rfl, hb, hXn⟩
          have hBn := hB.trans (hb.below hwx hB.size)
          have hCn := hCs.but hb (Nat.ne_of_lt hsx)
          clear CQ hB hCs hXc hb
          have hB := hBn
          have hCs := hCn
          have hXc := hXn
          clear hBn hCn hXn
          obtain ⟨l3, HQ3⟩ : ∃ x, Hid (qset l2 2 6 10 14 = x) := ⟨_, rfl⟩
          have HL3 : Hid (l3.length = 16) := by show _ = _; rw [← HQ3.out, qset_length, HL2.out]
          rw [HQ3.out] at HN
          have CQ := Lib.hid (refQuarter_at gx 16 cx 2 6 10 14 _ _ _ _ l2 l3 rx p2 rfl rfl rfl rfl HQ3.out HL2.out (by omega) (by omega) (by omega) (by omega) (by omega) (by omega) (by omega) (by omega) (by omega) (by omega) hXc)
          clear HQ3 HL2
          go_wp2_with fail
          refine CQ.out.mono ?_
          rintro e p3 ⟨rfl, hb, hXn⟩
          have hBn := hB.trans (hb.below hwx hB.size)
          have hCn := hCs.but hb (Nat.ne_of_lt hsx)
          clear CQ hB hCs hXc hb
          have hB := hBn
          have hCs := hCn
          have hXc := hXn
          clear hBn hCn hXn
          obtain ⟨l4, HQ4⟩ : ∃ x, Hid (qset l3 3 7 11 15 = x) := ⟨_, rfl⟩
          have HL4 : Hid (l4.length = 16) := by show _ = _; rw [← HQ4.out, qset_length, HL3.out]
          rw [HQ4.out] at HN
          have CQ := Lib.hid (refQuarter_at gx 16 cx 3 7 11 15 _ _ _ _ l3 l4 rx p3 rfl rfl rfl rfl HQ4.out HL3.out (by omega) (by omega) (by omega) (by omega) (by omega) (by omega) (by omega) (by omega) (by omega) (by omega) hXc)
          clear HQ4 HL3
          go_wp2_with fail
          refine CQ.out.mono ?_
          rintro e p4 ⟨rfl, hb, hXn⟩
          have hBn := hB.trans (hb.below hwx hB.size)
          have hCn := hCs.but hb (Nat.ne_of_lt hsx)
          clear CQ hB hCs hXc hb
          have hB := hBn
          have hCs := hCn
          have hXc := hXn
          clear hBn hCn hXn
          obtain ⟨l5, HQ5⟩ : ∃ x, Hid (qset l4 0 5 10 15 = x) := ⟨_, rfl⟩
          have HL5 : Hid (l5.length = 16) := by show _ = _; rw [← HQ5.out, qset_length, HL4.out]
          rw [HQ5.out] at HN
          have CQ := Lib.hid (refQuarter_at gx 16 cx 0 5 10 15 _ _ _ _ l4 l5 rx p4 rfl rfl rfl rfl HQ5.out HL4.out (by omega) (by omega) (by omega) (by omega) (by omega) (by omega) (by omega) (by omega) (by omega) (by omega) hXc)
          clear HQ5 HL4
          go_wp2_with fail
          refine CQ.out.mono ?_
          rintro e p5 ⟨rfl, hb, hXn⟩
          have hBn := hB.trans (hb.below hwx hB.size)
          have hCn := hCs.but hb (Nat.ne_of_lt hsx)
          clear CQ hB hCs hXc hb
          have hB := hBn
          have hCs := hCn
          have hXc := hXn
          clear hBn hCn hXn
          obtain ⟨l6, HQ6⟩ : ∃ x, Hid (qset l5 1 6 11 12 = x) := ⟨_, rfl⟩
          have HL6 : Hid (l6.length = 16) := by show _ = _; rw [← HQ6.out, qset_length, HL5.out]
          rw [HQ6.out] at HN
          have CQ := Lib.hid (refQuarter_at gx 16 cx 1 6 11 12 _ _ _ _ l5 l6 rx p5 rfl rfl rfl rfl HQ6.out HL5.out (by omega) (by omega) (by omega) (by omega) (by omega) (by omega) (by omega) (by omega) (by omega) (by omega) hXc)
          clear HQ6 HL5
          go_wp2_with fail
          refine CQ.out.mono ?_
          rintro e p6 ⟨rfl, hb, hXn⟩
          have hBn := hB.trans (hb.below hwx hB.size)
          have hCn := hCs.but hb (Nat.ne_of_lt hsx)
          clear CQ hB hCs hXc hb
          have hB := hBn
          have hCs := hCn
          have hXc := hXn
          clear hBn hCn hXn
          obtain ⟨l7, HQ7⟩ : ∃ x, Hid (qset l6 2 7 8 13 = x) := ⟨_, rfl⟩
          have HL7 : Hid (l7.length = 16) := by show _ = _; rw [← HQ7.out, qset_length, HL6.out]
          rw [HQ7.out] at HN
          have CQ := Lib.hid (refQuarter_at gx 16 cx 2 7 8 13 _ _ _ _ l6 l7 rx p6 rfl rfl rfl rfl HQ7.out HL6.out (by omega) (by omega) (by omega) (by omega) (by omega) (by omega) (by omega) (by omega) (by omega) (by omega) hXc)
          clear HQ7 HL6
          go_wp2_with fail
          refine CQ.out.mono ?_
          rintro e p7 ⟨rfl, hb, hXn⟩
          have hBn := hB.trans (hb.below hwx hB.size)
          have hCn := hCs.but hb (Nat.ne_of_lt hsx)
          clear CQ hB hCs hXc hb
          have hB := hBn
          have hCs := hCn
          have hXc := hXn
          clear hBn hCn hXn
          obtain ⟨l8, HQ8⟩ : ∃ x, Hid (qset l7 3 4 9 14 = x) := ⟨_, rfl⟩
          have HL8 : Hid (l8.length = 16) := by show _ = _; rw [← HQ8.out, qset_length, HL7.out]
          rw [HQ8.out] at HN
          have CQ := Lib.hid (refQuarter_at gx 16 cx 3 4 9 14 _ _ _ _ l7 l8 rx p7 rfl rfl rfl rfl HQ8.out HL7.out (by omega) (by omega) (by omega) (by omega) (by omega) (by omega) (by omega) (by omega) (by omega) (by omega) hXc)
          clear HQ8 HL7
          go_wp2_with fail
          refine CQ.out.mono ?_
          rintro e p8 ⟨rfl, hb, hXn⟩
          have hBn := hB.trans (hb.below hwx hB.size)
          have hCn := hCs.but hb (Nat.ne_of_lt hsx)
          clear CQ hB hCs hXc hb
          have hB := hBn
          have hCs := hCn
          have hXc := hXn
          clear hBn hCn hXn
          go_wp2
          go_roundw
          case rel => exact ⟨k + 1, by omega, by go_num, hB, hCs, by rw [HN.out]; exact hXc⟩
          case measure => simp [intOf]; omega
        · obtain rfl : k = 10 := by omega
          have HX10 := Lib.hid (HXL.out 10)
          generalize X 10 = xs at *
          clear HX HXL HX0
          have hb4 : Below wr.heap.size wr (wr.alloc (.cells #[] 5)) := (Below.refl _ _).alloc (Nat.le_refl _) _
          have hO4 : Owns (wr.alloc (.cells #[] 5)) wr.heap.size (.slice (some ⟨wr.heap.size, 0, none⟩) 0 0) [] := Owns.lit wr [] (Nat.le_refl _) (by decide)
          have HB4 := Lib.hid hb4
          have HO4 := Lib.hid hO4
          clear hb4 hO4
          go_wp2_with fail
          generalize wr.alloc (.cells #[] 5) = w4 at *
          have hB4 := below_then hB HB4.out
          have hCs4 := hCs.on HB4.out
          have hX4 := hXk.on HB4.out
          have hO4 := HO4.out
          have hgx2 := hXk.lt
          have hz4 := HB4.out.size
          have hwz := hB.size
          clear hB hCs hXk HB4 HO4
          generalize wr.heap.size = go at *
          go_loopw [11, 12] (fun v i wr => ∃ k : Nat, k ≤ 16 ∧ i = .int .i64 k ∧ Below w.heap.size w wr ∧ go ≤ wr.heap.size ∧ Cells wr gs (s.map wcell ++ rs) 44 ∧ Cells wr gx (xs.map wcell ++ rx) 44 ∧ Owns wr go v (E k)) (fun _ i _ => 16 - (intOf i).toNat)
          case atStart => exact ⟨0, Nat.zero_le _, rfl, hB4, hz4, hCs4, hX4, by rw [HE0.out]; exact hO4⟩
          case round =>
            clear hB4 hz4 hCs4 hX4 hO4
            obtain ⟨k, hk, rfl, hB, hz, hCs, hX, hO⟩ := hrel
            rename World => wr
            have HEk := Lib.hid (HEL.out k)
            by_cases hlt : k < 16
            · have HN := Lib.hid (HE.out k)
              have cx := hX.get (wrest_at xs rx k (by rw [HX10.out]; exact hlt))
              have cs := hCs.get (wrest_at s rs k (by rw [HL.out]; exact hlt))
              generalize xs.getD k 0 = xk at *
              generalize s.getD k 0 = sk at *
              have i1 : (0 : Int) ≤ (k : Int) := by omega
              have i2 : (k : Int) < 16 := by omega
              go_wp2_with fail
              go_quiet (fail)
              rw [add32]
              generalize xk + sk = y at *
              have hBq : Below w.heap.size w (wr.drewN nq) := below_drewN hB nq
              have hzq : go ≤ (wr.drewN nq).heap.size := hz
              have hCq : Cells (wr.drewN nq) gs (s.map wcell ++ rs) 44 := hCs
              have hXq : Cells (wr.drewN nq) gx (xs.map wcell ++ rx) 44 := hX
              have hOq := hO.drewN nq
              clear cx cs hB hz hCs hX hO
              generalize wr.drewN nq = wq at *
              have hb5 : Below wq.heap.size wq (wq.alloc (.cells ((putL y.toNat 4).map cellOf).toArray 5)) := (Below.refl _ _).alloc (Nat.le_refl _) _
              have hR5 : Row (wq.alloc (.cells ((putL y.toNat 4).map cellOf).toArray 5)) (wq.alloc (.cells ((putL y.toNat 4).map cellOf).toArray 5)).heap.size (some ⟨wq.heap.size, 0, none⟩) (putL y.toNat 4) := Cells.all (Cells.new wq _ _)
              have HPL := Lib.hid (putL_length y.toNat 4)
              have HLE := Lib.hid (le_cells y)
              go_wp2_with (first
                | (at_builtin
                   rw [HLE.out]
                   clear HLE
                   generalize putL y.toNat 4 = us at *
                   generalize wq.alloc (.cells (us.map cellOf).toArray 5) = w5 at *
                   have hB5 := below_then hBq hb5
                   have hC5 := hCq.on hb5
                   have hX5 := hXq.on hb5
                   have hO5 := hOq.on hb5
                   have hz5 := Nat.le_trans hzq hb5.size
                   clear hBq hCq hXq hOq hzq hb5
                   generalize wq.heap.size = gq at *
                   refine append_row rfl (.tmp 72) (.tmp 84) rfl go _ (E k) us _ (some ⟨gq, 0, none⟩) 4 rfl hO5 (by rw [HPL.out]; rfl) (fun h => by cases h) hR5 (by rw [HEk.out, HPL.out]; omega) hz5 ?_
                   intro v6 w6 hO6 hB6
                   clear hO5 hR5))
              go_roundw
              case rel => exact ⟨_, _, _, _, _, _, _, _, _, _, _, _, _, _, _, _, _, _, _, _, _, _, _, _, _, _, _, _, _, _, ⟨k + 1, by omega, by go_num, hB5.trans (hB6.mono hwz), Nat.le_trans hz5 hB6.size, hC5.below hB6 (by omega), hX5.below hB6 hgx2, by rw [HN.out]; exact hO6⟩, rfl⟩
              case measure => simp [intOf]; omega
            · obtain rfl : k = 16 := by omega
              obtain ⟨g', c', hv, h1, h2, h3, h4⟩ := hO.form_pos (by rw [HEk.out]; omega)
              rw [HEk.out] at hv h1
              subst hv
              clear hCs hX HE
              go_wp2
              go_ret
              exact ⟨g', c', rfl, Nat.le_trans hwz h3, h1, h2, h4, hB⟩
end Go.Proofs.YtdaieklimdhkoaaDoor
namespace Go.Proofs.YtdaieklimdhkoaaDoor
open Go.RowKit
theorem wordsOf_head (a b : List UInt8) : ∀ m, 4 * m ≤ a.length → wordsOf (a ++ b) m = wordsOf a m
  | 0, _ => rfl
  | m + 1, h => by
    rw [wordsOf, wordsOf, wordsOf_head a b m (by omega), List.drop_append_of_le_length (by omega), List.take_append_of_le_length (by rw [List.length_drop]; omega)]
theorem wordsOf_append (a b : List UInt8) (m : Nat) (h : a.length = 4 * m) : ∀ n, wordsOf (a ++ b) (m + n) = wordsOf a m ++ wordsOf b n
  | 0 => by rw [Nat.add_zero, wordsOf_head a b m (by omega)]; simp [wordsOf]
  | n + 1 => by
    rw [← Nat.add_assoc, wordsOf, wordsOf_append a b m h n, wordsOf, List.append_assoc]
    congr 3
    rw [Nat.mul_add, ← h, List.drop_length_add_append]
theorem word4L_put (x : BitVec 32) : word4L (putL x.toNat 4) = x := by
  have h := x.isLt
  have e : putL x.toNat 4 = [byteAt x.toNat 0, byteAt x.toNat 1, byteAt x.toNat 2, byteAt x.toNat 3] := rfl
  apply BitVec.eq_of_toNat_eq
  rw [e, word4L, BitVec.toNat_ofNat]
  simp [bigN, byteAt]
  omega
theorem chOpened_eq (key : List UInt8) (x : BitVec 32) (nonce : List UInt8) (hk : key.length = 32) : chOpened key x nonce = (start4 ++ wordsOf key 8) ++ x :: wordsOf nonce 3 := by
  have h1 : wordsOf opening 4 = start4 := by decide +kernel
  unfold chOpened chRow
  rw [show 16 = 13 + 3 from rfl, wordsOf_append _ _ 13 (by simp [opening, hk, putL_length]), show 13 = 12 + 1 from rfl, wordsOf_append _ _ 12 (by simp [opening, hk]), show 12 = 4 + 8 from rfl, wordsOf_append _ _ 4 (by simp [opening]), h1]
  have h2 : wordsOf (putL x.toNat 4) 1 = [x] := by
    have h3 : wordsOf (putL x.toNat 4) 1 = [word4L (((putL x.toNat 4).drop 0).take 4)] := rfl
    rw [h3, List.drop_zero, List.take_of_length_le (by rw [putL_length]; omega), word4L_put]
  rw [h2, List.append_assoc]
  rfl
theorem chAt_opened (key : List UInt8) (x : BitVec 32) (nonce : List UInt8) (j : Nat) (hk : key.length = 32) : chAt (chOpened key x nonce) j = chOpened key (x + BitVec.ofNat 32 j) nonce := by
  have hl : (start4 ++ wordsOf key 8).length = 12 := by simp [start4, wordsOf_length]
  unfold chAt
  rw [chOpened_eq key x nonce hk, chOpened_eq key _ nonce hk, List.getD_eq_getElem?_getD, List.getElem?_append_right (by omega), List.set_append_right _ _ (by omega), hl]
  rfl
theorem refBlock_any (A : Option Addr) (d : Nat) (key nonce : List UInt8) (x : BitVec 32) (w : World) (hk : key.length = 32) (hn : nonce.length = 12) (hr : Row w w.heap.size A nonce) :
    Calls Tryd.prog 32 #[hashVal key, wcell x, .slice A 12 d] w (GivesAt w (chBlock key x nonce) 64) :=
  refBlock_over A d key nonce x _ _ _ (fun k => start4 ++ wordsOf key k) (chOpened key x nonce) (chStir (chOpened key x nonce)) (endedTo (chOpened key x nonce) (chStir (chOpened key x nonce) 10)) w hk hn hr rfl
    (fun k => by show start4 ++ (wordsOf key k ++ _) = _; rw [List.append_assoc]) (fun k => by show (start4 ++ wordsOf key k).length = _; simp [start4, wordsOf_length]; omega) rfl rfl rfl
    (by show (start4 ++ wordsOf key 8) ++ _ = _; rw [chOpened_eq key x nonce hk]; rfl) (chOpened_length _ _ _) rfl (fun k => chStir_list _ k) (fun k => (chStir_length _ k).trans (chOpened_length _ _ _)) rfl (fun _ => rfl) (endedTo_length _ _)
end Go.Proofs.YtdaieklimdhkoaaDoor
namespace Go.Proofs.YtdaieklimdhkoaaDoor
open Go.RowKit
theorem ctr_add (x : BitVec 32) (n : Nat) : ((x.toNat : Int) + (n : Int)) % 4294967296 = ((x + BitVec.ofNat 32 n).toNat : Int) := by
  rw [BitVec.toNat_add, BitVec.toNat_ofNat]
  omega
theorem Owns.lower {w : World} {base b2 : Nat} {v : Value} {bs : List UInt8} (h : Owns w base v bs) (hb : b2 ≤ base) : Owns w b2 v bs := by
  obtain ⟨h1, h2⟩ := h
  refine ⟨h1, ?_⟩
  rcases h2 with h2 | ⟨g, cap, cur, hv, hg, r⟩
  · exact .inl h2
  · exact .inr ⟨g, cap, cur, hv, Nat.le_trans hb hg, r⟩
/-- What a call answers that makes a row of these bytes, to which more may be appended. -/
def GivesOwn (w : World) (bs : List UInt8) (n : Nat) (e : Ending) (w' : World) : Prop :=
  ∃ g c, e = .returned (.slice (some ⟨g, 0, none⟩) n c) ∧ Owns w' w.heap.size (.slice (some ⟨g, 0, none⟩) n c) bs ∧ Below w.heap.size w w'
theorem GivesOwn.gives {w : World} {bs : List UInt8} {n : Nat} {e : Ending} {w' : World} (hl : bs.length = n) (h : GivesOwn w bs n e w') : Gives w bs n e w' := by
  obtain ⟨g, c, rfl, hO, hB⟩ := h
  obtain ⟨A', c', hv, h1, h2, h3, h4⟩ := hO.form2
  rw [hl] at hv h1
  injection hv with hA' _ hc'
  subst hA' hc'
  exact ⟨_, _, rfl, h3, h1, h2, h4, hB⟩
set_option maxRecDepth 100000 in
set_option maxHeartbeats 2000000 in
theorem refTurn_over (A B : Option Addr) (d c L : Nat) (key bs : List UInt8) (x : BitVec 32) (E T : Nat → List UInt8) (w : World) (HK : Hid (key.length = 32)) (HL : Hid (bs.length = L)) (hr : Row w w.heap.size B bs) (hL : L ≤ 100000)
    (HEL : Hid (∀ k, (E k).length = 64)) (HT0 : Hid (T 0 = [])) (HT : Hid (∀ k, T (k + 1) = T k ++ [bs.getD k 0 ^^^ (E (k / 64)).getD (k % 64) 0])) (HTL : Hid (∀ k, (T k).length = k))
    (CB : Hid (∀ n W, Below w.heap.size w W → Calls Tryd.prog 32 #[hashVal key, wcell (x + BitVec.ofNat 32 n), .slice A 12 d] W (GivesAt W (E n) 64))) :
    Calls Tryd.prog 19 #[hashVal key, wcell x, .slice A 12 d, .slice B L c] w (GivesOwn w (T L) L) := by
  go_enter Tryd.func19, Tryd.ntmps19
  go_wp2_with (first
    | (refine take_step rfl 22 _ rfl key rfl ?_
       intro w1 hB1 hC1 hz1
       clear hz1))
  have hb2 : Below w1.heap.size w1 ((w1.alloc (.cells #[] 5)).alloc (.cells #[] 5)) := ((Below.refl _ _).alloc (Nat.le_refl _) _).alloc (by simp) _
  have hO2 : Owns ((w1.alloc (.cells #[] 5)).alloc (.cells #[] 5)) w1.heap.size (.slice (some ⟨w1.heap.size, 0, none⟩) 0 0) (T 0) := by
    rw [HT0.out]
    exact (Owns.lit w1 [] (Nat.le_refl _) (by decide)).kept_alloc _
  generalize (w1.alloc (.cells #[] 5)).alloc (.cells #[] 5) = w2 at *
  have hB2 := below_then hB1 hb2
  have hC2 := hC1.on hb2
  have hg1 := hC1.lt
  have hz2 := hb2.size
  clear hB1 hC1 hb2 HT0
  generalize w1.heap.size = g1 at *
  go_loopw [9, 10, 17] (fun v vb i wr => ∃ k g c9 : Nat, k ≤ L ∧ i = .int .i64 k ∧ v = .slice (some ⟨g, 0, none⟩) k c9 ∧ Below w.heap.size w wr ∧ g1 ≤ wr.heap.size ∧ Cells wr w.heap.size (key.map cellOf) 22 ∧ Owns wr g1 (.slice (some ⟨g, 0, none⟩) k c9) (T k) ∧
      (k = 0 ∨ ∃ gb ob cb' : Nat, vb = .slice (some ⟨gb, ob, none⟩) 64 cb' ∧ 64 ≤ cb' ∧ gb ≠ g ∧ Row wr wr.heap.size (some ⟨gb, ob, none⟩) (E ((k - 1) / 64)))) (fun _ _ i _ => L - (intOf i).toNat)
  case atStart => exact ⟨0, g1, 0, Nat.zero_le _, rfl, rfl, hB2, hz2, hC2, hO2, .inl rfl⟩
  case round =>
    clear hB2 hz2 hC2 hO2
    obtain ⟨k, g, c9, hk, rfl, rfl, hB, hz, hC, hO, hby⟩ := hrel
    have HTk := Lib.hid (HTL.out k)
    by_cases hlt : k < L
    · have i1 : (0 : Int) ≤ (k : Int) := by omega
      have i2 : (k : Int) < (L : Int) := by omega
      have i3 : (0 : Int) ≤ (k : Int) % 64 := by omega
      have i4 : (k : Int) % 64 < 64 := by omega
      have i5 : ((k : Int) % 64).toNat = k % 64 := by omega
      have HEk := Lib.hid (HEL.out (k / 64))
      obtain ⟨b0, off0, rfl, hb00, cb⟩ := (hr.on hB).atD k (by rw [HL.out]; exact hlt)
      have HNT := Lib.hid (HT.out k)
      generalize bs.getD k 0 = bj at *
      by_cases h0 : k % 64 = 0
      · have j0 : (k : Int) % 64 = 0 := by omega
        clear hby
        go_wp2_with (first
          | (refine get_step rfl 22 _ rfl w.heap.size 32 key 5 rfl hC Tryd.underlying22 size_r32 HK.out ?_))
        have e1 : ((x.toNat : Int) + (k : Int) / 64) % 4294967296 = ((x + BitVec.ofNat 32 (k / 64)).toNat : Int) := by
          rw [← ctr_add]
          rfl
        rw [e1]
        clear e1
        refine (CB.out (k / 64) wr hB).mono ?_
        rintro e w5 ⟨gb, cb', rfl, hgn, hcb, _, hE, hb5⟩
        have hgbg : gb ≠ g := by have := (World.ownsRow.lt hO g rfl).2; omega
        replace hB := below_then hB hb5
        replace hC := hC.on hb5
        replace hO := hO.on hb5
        replace hz := Nat.le_trans hz hb5.size
        clear hb5 cb hgn
        rw [h0] at HNT
        obtain ⟨_, _, hA5, _, ce⟩ := hE.atD 0 (by rw [HEk.out]; omega)
        cases hA5
        rw [Nat.add_zero] at ce
        generalize (E (k / 64)).getD 0 0 = ej at *
        have HXJ := Lib.hid (xor8 bj ej)
        have hb6 : Below w5.heap.size w5 (w5.alloc (.cells ([bj ^^^ ej].map cellOf).toArray 5)) := (Below.refl _ _).alloc (Nat.le_refl _) _
        have hR6 : Row (w5.alloc (.cells ([bj ^^^ ej].map cellOf).toArray 5)) (w5.alloc (.cells ([bj ^^^ ej].map cellOf).toArray 5)).heap.size (some ⟨w5.heap.size, 0, none⟩) [bj ^^^ ej] := Cells.all (Cells.new w5 _ _)
        have HB6 := Lib.hid hb6
        have HR6 := Lib.hid hR6
        have HE6 := Lib.hid hE
        clear hb6 hR6 hE
        go_wp2_with (first
          | (at_builtin
             rw [HXJ.out]
             have hb6 := HB6.out
             have hR6 := HR6.out
             have hE6 := HE6.out.on hb6
             have hB6 := below_then hB hb6
             have hC6 := hC.on hb6
             have hO6 := hO.on hb6
             have hz6 := Nat.le_trans hz hb6.size
             have hgb6 := HE6.out.block_lt (by rw [HEk.out]; omega)
             clear HB6 HR6 HE6 hB hC hO hz ce
             change wpList _ _ _ _ _ (w5.alloc (.cells ([bj ^^^ ej].map cellOf).toArray 5))
             generalize w5.alloc (.cells ([bj ^^^ ej].map cellOf).toArray 5) = w6 at *
             have hgb7 := Nat.lt_of_lt_of_le hgb6 hb6.size
             clear hb6
             generalize w5.heap.size = g6 at *
             refine append_at rfl (.tmp 33) (.tmp 41) rfl g1 g k c9 w6.heap.size g6 0 1 1 (T k) [bj ^^^ ej] rfl hO6 HTk.out rfl rfl (by omega) hR6 (by omega) hz6 ?_
             intro g7 c7 w7 hO7 hb7 hg7
             have hgg : g1 ≤ g := hO6.far g rfl
             rw [← HNT.out] at hO7
             clear hR6 hO6 HNT HXJ))
        go_roundw
        case rel =>
          have hgb8 : gb ≠ g7 := by rcases hg7 with h | h <;> omega
          exact ⟨k + 1, g7, c7, by omega, by go_num, rfl, hB6.trans (hb7.below (by omega) hB6.size), Nat.le_trans hz6 hb7.size, hC6.but hb7 (by omega), hO7, .inr ⟨gb, 0, cb', rfl, hcb, hgb8, by rw [show (k + 1 - 1) / 64 = k / 64 by omega]; exact hE6.but hb7 (fun _ p hp => by cases hp; exact hgbg)⟩⟩
        case measure => simp [intOf]; omega
      · have j0 : ¬ (k : Int) % 64 = 0 := by omega
        rcases hby with rfl | ⟨gb, ob, cb', rfl, hcb, hgbg, hE⟩
        · exact absurd rfl h0
        rw [show (k - 1) / 64 = k / 64 by omega] at hE
        have j1 : (k : Int) % 64 < 64 := by omega
        obtain ⟨_, _, hA5, _, ce⟩ := hE.atD (k % 64) (by rw [HEk.out]; omega)
        cases hA5
        generalize (E (k / 64)).getD (k % 64) 0 = ej at *
        have HXJ := Lib.hid (xor8 bj ej)
        have hb6 : Below wr.heap.size wr (wr.alloc (.cells ([bj ^^^ ej].map cellOf).toArray 5)) := (Below.refl _ _).alloc (Nat.le_refl _) _
        have hR6 : Row (wr.alloc (.cells ([bj ^^^ ej].map cellOf).toArray 5)) (wr.alloc (.cells ([bj ^^^ ej].map cellOf).toArray 5)).heap.size (some ⟨wr.heap.size, 0, none⟩) [bj ^^^ ej] := Cells.all (Cells.new wr _ _)
        have HB6 := Lib.hid hb6
        have HR6 := Lib.hid hR6
        have HE6 := Lib.hid hE
        clear hb6 hR6 hE
        go_wp2_with (first
          | (at_builtin
             rw [HXJ.out]
             have hb6 := HB6.out
             have hR6 := HR6.out
             have hE6 := HE6.out.on hb6
             have hB6 := below_then hB hb6
             have hC6 := hC.on hb6
             have hO6 := hO.on hb6
             have hz6 := Nat.le_trans hz hb6.size
             have hgb6 := HE6.out.block_lt (by rw [HEk.out]; omega)
             clear HB6 HR6 HE6 hB hC hO hz ce
             change wpList _ _ _ _ _ (wr.alloc (.cells ([bj ^^^ ej].map cellOf).toArray 5))
             generalize wr.alloc (.cells ([bj ^^^ ej].map cellOf).toArray 5) = w6 at *
             have hgb7 := Nat.lt_of_lt_of_le hgb6 hb6.size
             clear hb6
             generalize wr.heap.size = g6 at *
             refine append_at rfl (.tmp 33) (.tmp 41) rfl g1 g k c9 w6.heap.size g6 0 1 1 (T k) [bj ^^^ ej] rfl hO6 HTk.out rfl rfl (by omega) hR6 (by omega) hz6 ?_
             intro g7 c7 w7 hO7 hb7 hg7
             have hgg : g1 ≤ g := hO6.far g rfl
             rw [← HNT.out] at hO7
             clear hR6 hO6 HNT HXJ))
        go_roundw
        case rel =>
          have hgb8 : gb ≠ g7 := by rcases hg7 with h | h <;> omega
          exact ⟨k + 1, g7, c7, by omega, by go_num, rfl, hB6.trans (hb7.below (by omega) hB6.size), Nat.le_trans hz6 hb7.size, hC6.but hb7 (by omega), hO7, .inr ⟨gb, ob, cb', rfl, hcb, hgb8, by rw [show (k + 1 - 1) / 64 = k / 64 by omega]; exact hE6.but hb7 (fun _ p hp => by cases hp; exact hgbg)⟩⟩
        case measure => simp [intOf]; omega
    · obtain rfl : k = L := by omega
      clear hby HT CB HTk
      go_wp2
      go_ret
      exact ⟨g, c9, rfl, hO.lower (by omega), hB⟩
end Go.Proofs.YtdaieklimdhkoaaDoor
namespace Go.Proofs.YtdaieklimdhkoaaDoor
open Go.ChangeShapes Go.WideShapes Go.ChangeAt Go.RowKit
theorem refStream_own (A B : Option Addr) (d c L : Nat) (key nonce bs : List UInt8) (x : BitVec 32) (w : World) (hk : key.length = 32) (hn : nonce.length = 12) (hr : Row w w.heap.size A nonce) (hl : bs.length = L) (hb : Row w w.heap.size B bs) (hL : L ≤ 100000) :
    Calls Tryd.prog 19 #[hashVal key, wcell x, .slice A 12 d, .slice B L c] w (GivesOwn w (chTurn key x nonce bs) L) := by
  have h := refTurn_over A B d c L key bs x (fun n => chBlock key (x + BitVec.ofNat 32 n) nonce) (chTurned (chOpened key x nonce) bs) w hk hl hb hL (fun _ => chBlock_length _ _ _) rfl (fun k => by
      show _ ++ [_ ^^^ chByte (chOpened key x nonce) k] = _
      rw [chByte, chAt_opened key x nonce _ hk]
      rfl) (chTurned_length _ _) (fun n W hW => refBlock_any A d key nonce _ W hk hn (hr.on hW))
  rw [← hl] at h ⊢
  exact h
theorem refStream_any (A B : Option Addr) (d c L : Nat) (key nonce bs : List UInt8) (x : BitVec 32) (w : World) (hk : key.length = 32) (hn : nonce.length = 12) (hr : Row w w.heap.size A nonce) (hl : bs.length = L) (hb : Row w w.heap.size B bs) (hL : L ≤ 100000) :
    Calls Tryd.prog 19 #[hashVal key, wcell x, .slice A 12 d, .slice B L c] w (Gives w (chTurn key x nonce bs) L) :=
  (refStream_own A B d c L key nonce bs x w hk hn hr hl hb hL).mono fun _ _ h => h.gives ((chTurn_length _ _ _ _).trans hl)
theorem cells_u32 : Tryd.prog.cellsOf 44 = 1 := by kernel_rfl
/-- A case's cells: a key, a counter, a nonce. (Named, so that a walk leaves them whole.) -/
def caseCells (key : List UInt8) (x : BitVec 32) (A : Option Addr) (n c : Nat) : List Value := key.map cellOf ++ [wcell x, .slice A n c]
def caseVal (key : List UInt8) (x : BitVec 32) (A : Option Addr) (n c : Nat) : Value := .agg (caseCells key x A n c).toArray
theorem alive_quarter : quarter 0x11111111 0x01020304 0x9b8d6f43 0x01234567 = ⟨0xea2a92f4, 0xcb1cf8ce, 0x4581472e, 0x5881c4bb⟩ := by kernel_rfl
theorem case_range {w : World} {g : Nat} {key : List UInt8} {x : BitVec 32} {A : Option Addr} {n c : Nat} {t : TypeId} (h : Cells w g (caseCells key x A n c) t) : w.rangeAt g 0 (key.map cellOf) := Cells.rangeHead h
theorem case_word {w : World} {g : Nat} {key : List UInt8} {x : BitVec 32} {A : Option Addr} {n c : Nat} {t : TypeId} (hk : key.length = 32) (h : Cells w g (caseCells key x A n c) t) : w.cell? ⟨g, 32, none⟩ = some (wcell x) := h.get (by
  unfold caseCells
  rw [List.getElem?_append_right (by rw [List.length_map]; omega), List.length_map, hk]
  rfl)
theorem case_nonce {w : World} {g : Nat} {key : List UInt8} {x : BitVec 32} {A : Option Addr} {n c : Nat} {t : TypeId} (hk : key.length = 32) (h : Cells w g (caseCells key x A n c) t) : w.cell? ⟨g, 33, none⟩ = some (.slice A n c) := h.get (by
  unfold caseCells
  rw [List.getElem?_append_right (by rw [List.length_map]; omega), List.length_map, hk]
  rfl)
/-- A range of bytes loaded as an array's value. -/
theorem range_step {w : World} {ops : Array Oper} {rest : List Oper} {o : Oper} {a : Act} {Q : Exit → Act → World → Prop} (hgd : o.guard = none) (t : TypeId) (x : Operand) (ho : o.op = .load t x) (b off n : Nat) (ds : List UInt8) (e : TypeId) (hx : a.eval x = .pointer (some ⟨b, off, none⟩)) (hR : w.rangeAt b off (ds.map cellOf)) (hu : Tryd.prog.underlying t = some (.array n e))
    (hs : (Tryd.prog.info? t).map (·.size) = some n) (hl : ds.length = n) (h : wpList Tryd.prog ops Q rest (a.put o.dst (hashVal ds)) w) : wpList Tryd.prog ops Q (o :: rest) a w :=
  wpList_load_mid hgd t x ho b off hx (ds.map cellOf) _ hR hu rfl (by rw [List.length_map, hl]; exact hs) h
end Go.Proofs.YtdaieklimdhkoaaDoor
namespace Go.Proofs.YtdaieklimdhkoaaDoor
open Go.ChangeShapes Go.WideShapes Go.ChangeAt Go.RowKit
theorem sealL_take (key nonce a p : List UInt8) (n : Nat) (h : p.length = n) : (sealL key nonce a p).take n = chTurn key 1 nonce p := by
  rw [sealL, List.take_left' ((chTurn_length _ _ _ _).trans h)]
theorem sealL_drop (key nonce a p : List UInt8) (n : Nat) (h : p.length = n) : (sealL key nonce a p).drop n = sealCode key nonce a (chTurn key 1 nonce p) := by
  rw [sealL, List.drop_left' ((chTurn_length _ _ _ _).trans h)]
theorem sealed_right (key nonce a p : List UInt8) (n : Nat) (h : p.length = n) : (sealCode key nonce a ((sealL key nonce a p).take n) == (sealL key nonce a p).drop n) = true := by
  rw [sealL_take _ _ _ _ _ h, sealL_drop _ _ _ _ _ h]
  exact beq_self_eq_true _
theorem sealed_back (key nonce a p : List UInt8) (n : Nat) (h : p.length = n) : chTurn key 1 nonce ((sealL key nonce a p).take n) = p := by
  rw [sealL_take _ _ _ _ _ h, chTurn_back]
/-- What is sealed is opened to the same. -/
theorem sealOpen_back (A B D : Option Addr) (d la ca L n c : Nat) (key nonce aas bs : List UInt8) (ae : Addr) (w : World) (hk : key.length = 32) (hn : nonce.length = 12) (rA : Row w w.heap.size A nonce) (hA : A = none → d = 0) (hd : 12 ≤ d) (hd2 : d ≤ maxLen)
    (hal : aas.length = la) (rB : Row w w.heap.size B aas) (hla : la ≤ 16384) (hbl : bs.length = L) (hL : L ≤ 16384) (rD : Row w w.heap.size D (sealL key nonce aas bs)) (hm : n = L + 16) (hc : n ≤ c) (hE : w.cell? ⟨6, 0, none⟩ = some (errAt ae)) :
    Calls Tryd.prog 13 #[hashVal key, .slice A 12 d, .slice B la ca, .slice D n c] w (GivesOk w bs L) := by
  refine (sealOpen_any A B D d la ca n c L key nonce aas (sealL key nonce aas bs) ae true w hk hn rA hA hd hd2 hal rB hla (by rw [sealL_length, hbl, hm]) rD hm hL hc hE (sealed_right _ _ _ _ _ hbl)).mono fun e w' h => ?_
  have h1 := h.1 rfl
  rwa [sealed_back _ _ _ _ _ hbl] at h1
/-- A case's cells: a key, a nonce, what goes with it. (Named, so that a walk leaves them whole.) -/
def caseCells8 (key : List UInt8) (A : Option Addr) (n c : Nat) (B : Option Addr) (m d : Nat) : List Value := key.map cellOf ++ [.slice A n c, .slice B m d]
def caseVal8 (key : List UInt8) (A : Option Addr) (n c : Nat) (B : Option Addr) (m d : Nat) : Value := .agg (caseCells8 key A n c B m d).toArray
set_option maxRecDepth 100000 in
theorem open_case8 {H : Type} {enc : TypeId × Value → H} {W : World} {r : Reach} {b0 : Nat} {v : Value} {d : DataW H} {p : List MemPlace} (hv : Value.okWide Tryd.prog W r b0 26 v) (h : DataW.Trod enc Tryd.prog W 0 (fun _ => true) true 26 v d p) :
    ∃ key A c ns B d ws, v = caseVal8 key A ns.length c B ws.length d ∧ key.length = 32 ∧ (A = none → c = 0) ∧ Row W W.heap.size A ns ∧ ns.length ≤ c ∧ c ≤ maxLen ∧ (B = none → d = 0) ∧ Row W W.heap.size B ws ∧ ws.length ≤ d ∧ d ≤ maxLen := by
  have ht := Tryd.underlying26
  simp only [Value.okWide, ht] at hv
  obtain ⟨⟨cs⟩, rfl, hsz, _⟩ := hv
  obtain ⟨fuel, hf⟩ := h
  simp only [Value.cells] at hf
  obtain ⟨y0, y1, y2, n, _, hl, h0, h1, h2⟩ := Go.Deep.trod_struct3 ht hf
  have e1 : Tryd.prog.cellsOf 23 = 32 := by kernel_rfl
  have e3 : Tryd.prog.cellsOf 24 = 1 := by kernel_rfl
  have e4 : Tryd.prog.cellsOf 26 = 34 := by kernel_rfl
  simp only [e1, e3, e4, List.drop_zero] at h0 h1 h2 hl
  obtain ⟨zs, g1, g2, g3⟩ := cells_ints Tryd.underlying23 Tryd.underlying5 cells_u8 e1 h0
  obtain ⟨bs, g4, g5⟩ := bytes_of_ints zs g3
  obtain ⟨A, c, ns, m1, m2, m3, m4, m5⟩ := cells_bytes h1
  obtain ⟨B, d, ws, k1, k2, k3, k4, k5⟩ := cells_bytes h2
  refine ⟨bs, A, c, ns, B, d, ws, ?_, by omega, m2, m3, m4, m5, k2, k3, k4, k5⟩
  unfold caseVal8 caseCells8
  congr 1
  have hcs : cs = cs.take 32 ++ ((cs.drop 32).take 1 ++ (cs.drop 33).take 1) := by
    have a1 : (cs.drop 33).take 1 = cs.drop 33 := List.take_of_length_le (by rw [List.length_drop]; omega)
    have a2 : (cs.drop 32).take 1 ++ cs.drop 33 = cs.drop 32 := by
      have := List.take_append_drop 1 (cs.drop 32)
      rwa [List.drop_drop] at this
    rw [a1, a2, List.take_append_drop]
  rw [hcs, g1, m1, k1, g4]
  rfl
section
variable {w : World} {g : Nat} {key : List UInt8} {A B : Option Addr} {n c m d : Nat} {t : TypeId}
theorem case8_range (h : Cells w g (caseCells8 key A n c B m d) t) : w.rangeAt g 0 (key.map cellOf) := Cells.rangeHead h
theorem case8_nonce (hk : key.length = 32) (h : Cells w g (caseCells8 key A n c B m d) t) : w.cell? ⟨g, 32, none⟩ = some (.slice A n c) := h.get (by
  unfold caseCells8
  rw [List.getElem?_append_right (by rw [List.length_map]; omega), List.length_map, hk]
  rfl)
theorem case8_with (hk : key.length = 32) (h : Cells w g (caseCells8 key A n c B m d) t) : w.cell? ⟨g, 33, none⟩ = some (.slice B m d) := h.get (by
  unfold caseCells8
  rw [List.getElem?_append_right (by rw [List.length_map]; omega), List.length_map, hk]
  rfl)
end
/-- '[]byte("..")', the mark on the row. -/
theorem mark_step {w : World} {ops : Array Oper} {rest : List Oper} {o : Oper} {a : Act} {Q : Exit → Act → World → Prop} (hgd : o.guard = none) (x : Operand) (ho : o.op = .convert 24 24 x) (g n c : Nat) (us : List UInt8) (hx : a.eval x = .slice (some ⟨g, 0, none⟩) n c) (hg : Cells w g (us.map cellOf) 5)
    (h : ∀ w', But g w w' → Row w' w'.heap.size (some ⟨g, 0, none⟩) us → wpList Tryd.prog ops Q rest (a.put o.dst (.slice (some ⟨g, 0, none⟩) n c)) w') : wpList Tryd.prog ops Q (o :: rest) a w := by
  refine wpList_plain hgd fun K hK => ?_
  obtain ⟨W', h1, h2, h3, h4⟩ := run_mark g n c _ hg
  unfold Oper.wp
  simp only [execOp, ho, hx, h1, Sem.run_bind, Sem.run_pure, Result.andThen_ok]
  refine hK _ _ (h W' h2 ?_)
  have hr := hg.all.same h4
  rwa [← h3] at hr
end Go.Proofs.YtdaieklimdhkoaaDoor
namespace Go.Proofs.YtdaieklimdhkoaaDoor
open Go.ChangeShapes Go.WideShapes Go.ChangeAt Go.RowKit
def aliveKey8 : List UInt8 := 1 :: List.replicate 31 0
def aliveNonce8 : List UInt8 := List.replicate 12 0
theorem build_alive8 (w : World) : (Instr.build 23 #[(0, .int .u8 1)]).run Tryd.prog w = .ok (hashVal aliveKey8) w := by kernel_rfl
theorem lit_w (w : World) : (Instr.buildSlice 24 1 #[(0, .int .u8 119)]).run Tryd.prog w = .ok (.slice (some ⟨w.heap.size, 0, none⟩) 1 1) (w.alloc (.cells (([119] : List UInt8).map cellOf).toArray 5)) := by kernel_rfl
theorem lit_text (w : World) : (Instr.buildSlice 24 4 #[(0, .int .u8 116), (1, .int .u8 101), (2, .int .u8 120), (3, .int .u8 116)]).run Tryd.prog w = .ok (.slice (some ⟨w.heap.size, 0, none⟩) 4 4) (w.alloc (.cells (([116, 101, 120, 116] : List UInt8).map cellOf).toArray 5)) := by kernel_rfl
set_option maxRecDepth 100000 in
set_option maxHeartbeats 2000000 in
theorem alive8_over (k1 nn ww tx s1 s2 : List UInt8) (w : World) (HN : Hid (∀ W g, Made W g (List.replicate 12 0) → Row W W.heap.size (some ⟨g, 0, none⟩) nn)) (HTX : Hid (tx.length = 4)) (HTS : Hid (str tx = ⟨#[116, 101, 120, 116]⟩))
    (HB : Hid (∀ w, (Instr.build 23 #[(0, .int .u8 1)]).run Tryd.prog w = .ok (hashVal k1) w))
    (HW : Hid (∀ w : World, (Instr.buildSlice 24 1 #[(0, .int .u8 119)]).run Tryd.prog w = .ok (.slice (some ⟨w.heap.size, 0, none⟩) 1 1) (w.alloc (.cells (ww.map cellOf).toArray 5))))
    (HT : Hid (∀ w : World, (Instr.buildSlice 24 4 #[(0, .int .u8 116), (1, .int .u8 101), (2, .int .u8 120), (3, .int .u8 116)]).run Tryd.prog w = .ok (.slice (some ⟨w.heap.size, 0, none⟩) 4 4) (w.alloc (.cells (tx.map cellOf).toArray 5))))
    (C1 : Hid (∀ gn W, Below w.heap.size w W → Row W W.heap.size (some ⟨gn, 0, none⟩) nn → Calls Tryd.prog 9 #[hashVal k1, .slice (some ⟨gn, 0, none⟩) 12 12, .slice none 0 0, .slice none 0 0] W (GivesCells W s1 16)))
    (C2 : Hid (∀ gn gw gt W, Below w.heap.size w W → Row W W.heap.size (some ⟨gn, 0, none⟩) nn → Row W W.heap.size (some ⟨gw, 0, none⟩) ww → Row W W.heap.size (some ⟨gt, 0, none⟩) tx → Calls Tryd.prog 9 #[hashVal k1, .slice (some ⟨gn, 0, none⟩) 12 12, .slice (some ⟨gw, 0, none⟩) 1 1, .slice (some ⟨gt, 0, none⟩) 4 4] W (GivesCells W s2 20)))
    (C3 : Hid (∀ gn gw gs W, Below w.heap.size w W → Row W W.heap.size (some ⟨gn, 0, none⟩) nn → Row W W.heap.size (some ⟨gw, 0, none⟩) ww → Row W W.heap.size (some ⟨gs, 0, none⟩) s2 → Calls Tryd.prog 13 #[hashVal k1, .slice (some ⟨gn, 0, none⟩) 12 12, .slice (some ⟨gw, 0, none⟩) 1 1, .slice (some ⟨gs, 0, none⟩) 20 20] W (GivesOk W tx 4))) :
    Calls Tryd.prog 7 #[] w fun e w' => e = .returned (.bool true) ∧ Below w.heap.size w w' := by
  go_enter Tryd.func7, Tryd.ntmps7
  go_wp2_with (first
    | (refine build_step rfl 23 _ rfl [(0, .int .u8 1)] rfl _ HB.out ?_)
    | (refine make_step rfl _ _ rfl 12 12 rfl rfl (Nat.le_refl _) (by omega) ?_
       intro w1 hB1 hM1 hzz
       have hN1 := HN.out _ _ hM1
       clear hM1 hzz))
  refine (C1.out _ w1 hB1 hN1).mono ?_
  rintro e w2 ⟨g2, rfl, _, _, hb2⟩
  have hB2 := below_then hB1 hb2
  clear C1 hB1 hN1 hb2
  go_wp2_with (first
    | (refine build_step rfl 23 _ rfl [(0, .int .u8 1)] rfl _ HB.out ?_)
    | (refine make_step rfl _ _ rfl 12 12 rfl rfl (Nat.le_refl _) (by omega) ?_
       intro w3 hb3 hM3 hzz
       have hN3 := HN.out _ _ hM3
       have hB3 := below_then hB2 hb3
       clear hM3 hB2 hb3 hzz)
    | (refine slice_step rfl 24 1 _ rfl [(0, .int .u8 119)] rfl 5 _ HW.out ?_
       intro w4 hw4
       have hb4 : Below w3.heap.size w3 w4 := by rw [hw4]; exact (Below.refl _ _).alloc (Nat.le_refl _) _
       have hC4 : Cells w4 w3.heap.size (ww.map cellOf) 5 := by rw [hw4]; exact Cells.new w3 _ _
       have hN4 := hN3.below hb4
       have hB4 := below_then hB3 hb4
       have hz4 := hb4.size
       have hz3 := hB3.size
       clear hw4 hb4 hN3 hB3)
    | (refine mark_step rfl (.tmp 15) rfl w3.heap.size 1 1 ww rfl hC4 ?_
       intro w5 hb5 hR5
       have hN5 : Row w5 w5.heap.size (some ⟨w2.heap.size, 0, none⟩) nn := (hN4.butB hb5 (Nat.le_refl _) hz4).more (Nat.le_trans hz4 hb5.size)
       have hB5 := hB4.trans (hb5.below hz3 hB4.size)
       clear hb5 hC4 hN4 hB4 hz4 hz3)
    | (refine slice_step rfl 24 4 _ rfl [(0, .int .u8 116), (1, .int .u8 101), (2, .int .u8 120), (3, .int .u8 116)] rfl 5 _ HT.out ?_
       intro w6 hw6
       have hb6 : Below w5.heap.size w5 w6 := by rw [hw6]; exact (Below.refl _ _).alloc (Nat.le_refl _) _
       have hC6 : Cells w6 w5.heap.size (tx.map cellOf) 5 := by rw [hw6]; exact Cells.new w5 _ _
       have hN6 := hN5.below hb6
       have hR6 := hR5.below hb6
       have hB6 := below_then hB5 hb6
       have hz6 := hb6.size
       have hz5 := hB5.size
       clear hw6 hb6 hN5 hR5 hB5)
    | (refine mark_step rfl (.tmp 17) rfl w5.heap.size 4 4 tx rfl hC6 ?_
       intro w7 hb7 hT7
       have hN7 : Row w7 w7.heap.size (some ⟨w2.heap.size, 0, none⟩) nn := (hN6.butB hb7 (Nat.le_refl _) hz6).more (Nat.le_trans hz6 hb7.size)
       have hR7 : Row w7 w7.heap.size (some ⟨w3.heap.size, 0, none⟩) ww := (hR6.butB hb7 (Nat.le_refl _) hz6).more (Nat.le_trans hz6 hb7.size)
       have hB7 := hB6.trans (hb7.below hz5 hB6.size)
       clear hb7 hC6 hN6 hR6 hB6 hz6 hz5))
  refine (C2.out _ _ _ w7 hB7 hN7 hR7 hT7).mono ?_
  rintro e w8 ⟨gs, rfl, _, hS8, hb8⟩
  have hB8 := below_then hB7 hb8
  clear C2 hB7 hN7 hR7 hT7 hb8
  have rS8 := hS8.all
  clear hS8
  go_wp2_with (first
    | (refine build_step rfl 23 _ rfl [(0, .int .u8 1)] rfl _ HB.out ?_)
    | (refine make_step rfl _ _ rfl 12 12 rfl rfl (Nat.le_refl _) (by omega) ?_
       intro w9 hb9 hM9 hzz
       have hN9 := HN.out _ _ hM9
       have rS9 := rS8.below hb9
       have hB9 := below_then hB8 hb9
       have hq9 := hb9.size
       clear hM9 hB8 hb9 rS8 hzz)
    | (refine slice_step rfl 24 1 _ rfl [(0, .int .u8 119)] rfl 5 _ HW.out ?_
       intro w10 hw10
       have hb10 : Below w9.heap.size w9 w10 := by rw [hw10]; exact (Below.refl _ _).alloc (Nat.le_refl _) _
       have hC10 : Cells w10 w9.heap.size (ww.map cellOf) 5 := by rw [hw10]; exact Cells.new w9 _ _
       have hN10 := hN9.below hb10
       have rS10 := (rS9.more hq9).below hb10
       have hB10 := below_then hB9 hb10
       have hz10 := hb10.size
       have hz9 := hB9.size
       clear hw10 hb10 hN9 hB9 rS9)
    | (refine mark_step rfl (.tmp 41) rfl w9.heap.size 1 1 ww rfl hC10 ?_
       intro w11 hb11 hR11
       have hN11 : Row w11 w11.heap.size (some ⟨w8.heap.size, 0, none⟩) nn := (hN10.butB hb11 (Nat.le_refl _) hz10).more (Nat.le_trans hz10 hb11.size)
       have rS11 : Row w11 w11.heap.size (some ⟨gs, 0, none⟩) s2 := (rS10.butB hb11 (Nat.le_refl _) hz10).more (Nat.le_trans hz10 hb11.size)
       have hB11 := hB10.trans (hb11.below hz9 hB10.size)
       clear hb11 hC10 hN10 rS10 hB10 hz10 hz9))
  refine (C3.out _ _ _ w11 hB11 hN11 hR11 rS11).mono ?_
  rintro e w12 ⟨F, cf, rfl, _, _, _, r12, hb12⟩
  have hB12 := below_then hB11 hb12
  have kX := conv_n HTX.out r12 cf w12 (Below.refl _ _)
  rw [HTS.out] at kX
  clear C3 hB11 hN11 hR11 rS11 hb12 r12
  go_wp2
  go_ret
  exact ⟨rfl, hB12⟩
/-- 'alive'. -/
theorem alive8 (w : World) (es : List Addr) (hE : Errs w es) : Calls Tryd.prog 7 #[] w fun e w' => e = .returned (.bool true) ∧ Below w.heap.size w w' := by
  obtain ⟨ae, _, hc⟩ := hE.var 6 (g := 6) rfl
  exact alive8_over aliveKey8 aliveNonce8 [119] [116, 101, 120, 116] (sealL aliveKey8 aliveNonce8 [] []) (sealL aliveKey8 aliveNonce8 [119] [116, 101, 120, 116]) w (fun W g hM => hM.row hM.lt) rfl rfl build_alive8 lit_w lit_text
    (fun gn W hW hN => sealSeal_any (some ⟨gn, 0, none⟩) none none 12 0 0 0 0 aliveKey8 aliveNonce8 [] [] W rfl rfl hN (fun h => by cases h) (Nat.le_refl _) (by unfold maxLen; omega) rfl Row.nil (by omega) rfl Row.nil (by omega))
    (fun gn gw gt W hW hN hR hT => sealSeal_any (some ⟨gn, 0, none⟩) _ _ 12 1 1 4 4 aliveKey8 aliveNonce8 [119] [116, 101, 120, 116] W rfl rfl hN (fun h => by cases h) (Nat.le_refl _) (by unfold maxLen; omega) rfl hR (by omega) rfl hT (by omega))
    (fun gn gw gs W hW hN hR hS => sealOpen_back (some ⟨gn, 0, none⟩) _ _ 12 1 1 4 20 20 aliveKey8 aliveNonce8 [119] [116, 101, 120, 116] ae W rfl rfl hN (fun h => by cases h) (Nat.le_refl _) (by unfold maxLen; omega) rfl hR (by omega) rfl (by omega) hS rfl (Nat.le_refl _) ((hW.cell (block_lt_of_cell hc)).trans hc))
end Go.Proofs.YtdaieklimdhkoaaDoor
