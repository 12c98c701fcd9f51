/- The document's own SHA-256: its last loop, the digest's bytes. -/
import Derived.Test.YtmhelmmonkgmmaaDoorRShaW
namespace Go.Proofs.YtmhelmmonkgmmaaDoor
open Go.RowKit
/-- At the last loop's head: k words are laid out. -/
def I5 (w : World) (gk gh gm cm N go : Nat) (l : List (BitVec 32)) (ms : List UInt8) (a : Act) (wr : World) : Prop :=
  ∃ k : Nat, k ≤ 8 ∧ Fr 271 ([(25, .pointer (some ⟨go, 0, none⟩)), (236, .slice (some ⟨gh, 0, none⟩) 8 8), (237, .int .i64 8), (238, .int .i64 (k : Int))] ++ baseSlots w gk gh gm cm N) a ∧ RW w wr gk gh gm (l.map wcell) ms ∧ Cells wr go ((words4 (l.take k)).map cellOf ++ List.replicate (32 - 4 * k) (cellOf 0)) 29
def mu5 (a : Act) (_ : World) : Nat := 8 - (intOf (a.tmps.getD 238 undef)).toNat
theorem word4_cells (x : BitVec 32) : (word4 x).map cellOf = [.int .u8 ((x.toNat : Int) / 16777216), .int .u8 ((x.toNat : Int) / 65536 % 256), .int .u8 ((x.toNat : Int) / 256 % 256), .int .u8 ((x.toNat : Int) % 256)] := by
  have h3 := byte_mod x.toNat 3
  have h2 := byte_mod x.toNat 2
  have h1 := byte_mod x.toNat 1
  have h0 := byte_mod x.toNat 0
  simp only [word4, putL, List.range, List.range.loop, List.map_cons, List.map_nil, List.reverse_cons, List.reverse_nil, List.nil_append, List.cons_append, cellOf]
  have hx := x.isLt
  rw [← h3, ← h2, ← h1, ← h0]
  simp
  omega
theorem set4 (vs : List Value) (o : Nat) (a b c d : Value) (h : o + 4 ≤ vs.length) : (((vs.set o a).set (o + 1) b).set (o + 2) c).set (o + 3) d = splice vs o [a, b, c, d] := by
  have e : ∀ xs : List Value, ∀ j, splice xs j [] = xs := fun xs j => by simp [splice]
  rw [← set_splice vs o a _ (by simp; omega), ← set_splice _ (o + 1) b _ (by simp; omega), ← set_splice _ (o + 2) c _ (by simp; omega), ← set_splice _ (o + 3) d _ (by simp; omega), e]
set_option maxRecDepth 100000 in
set_option maxHeartbeats 2000000 in
theorem round5 (w wr : World) (gk gh gm cm N go k : Nat) (l : List (BitVec 32)) (ms : List UInt8) (a : Act) (Q0 : Exit → Act → World → Prop) (hl : l.length = 8) (hk : k < 8) (hgo : gm < go)
    (hF : Fr 271 ([(25, .pointer (some ⟨go, 0, none⟩)), (236, .slice (some ⟨gh, 0, none⟩) 8 8), (237, .int .i64 8), (238, .int .i64 (k : Int))] ++ baseSlots w gk gh gm cm N) a) (hW : RW w wr gk gh gm (l.map wcell) ms) (hO : Cells wr go ((words4 (l.take k)).map cellOf ++ List.replicate (32 - 4 * k) (cellOf 0)) 29) :
    Code.wp Tryd.prog (refBody 4) (Exit.then (fun a' w' => I5 w gk gh gm cm N go l ms a' w' ∧ mu5 a' w' < mu5 a wr) Q0) a wr := by
  have hk2 : k < l.length := by omega
  have cH := hW.ch.get (show (l.map wcell)[k]? = some (wcell l[k]) by rw [List.getElem?_map, List.getElem?_eq_getElem hk2]; rfl)
  have HD := Lib.hid (digest_next l k hk2 hl)
  rw [word4_cells] at HD
  have HL : Hid (((words4 (l.take k)).map cellOf ++ List.replicate (32 - 4 * k) (cellOf 0)).length = 32) := by
    show _ = _
    rw [List.length_append, List.length_map, words4_length, List.length_take, hl, List.length_replicate]; omega
  generalize l[k] = x at *
  generalize (words4 (l.take k)).map cellOf ++ List.replicate (32 - 4 * k) (cellOf 0) = vs at *
  have HO8 := Lib.hid hl
  clear hl
  have i1 : (0 : Int) ≤ (k : Int) := by omega
  have i2 : (k : Int) < 8 := by omega
  have i3 : (0 : Int) ≤ 4 * (k : Int) := by omega
  have i4 : 4 * (k : Int) < 32 := by omega
  have i5 : 4 * (k : Int) + 1 < 32 := by omega
  have i6 : 4 * (k : Int) + 2 < 32 := by omega
  have i7 : 4 * (k : Int) + 3 < 32 := by omega
  have j5 : (0 : Int) ≤ 4 * (k : Int) + 1 := by omega
  have j6 : (0 : Int) ≤ 4 * (k : Int) + 2 := by omega
  have j7 : (0 : Int) ≤ 4 * (k : Int) + 3 := by omega
  have n5 : (4 * (k : Int) + 1).toNat = 4 * k + 1 := by omega
  have n6 : (4 * (k : Int) + 2).toNat = 4 * k + 2 := by omega
  have n7 : (4 * (k : Int) + 3).toNat = 4 * k + 3 := by omega
  have n4 : (4 * (k : Int)).toNat = 4 * k := by omega
  obtain ⟨hs0, hd0, h25, h236, h237, h238, h2, h3, h4, h5, _⟩ := hF
  obtain ⟨u, rfl⟩ := frame271 a hs0 hd0
  clear hs0 hd0
  change u 25 = _ at h25
  change u 236 = _ at h236
  change u 237 = _ at h237
  change u 238 = _ at h238
  change u 2 = _ at h2
  change u 3 = _ at h3
  change u 4 = _ at h4
  change u 5 = _ at h5
  rw [h25, h236, h237, h238, h2, h3, h4, h5]
  clear h25 h236 h237 h238 h2 h3 h4 h5
  conv => arg 2; whnf
  go_wp2_with (first
    | (refine store_step rfl 5 (.tmp 265) (.tmp 256) rfl go (4 * k) .u8 _ rfl rfl size_u8 (hO.there _ 1 (by rw [HL.out]; omega)) ?_
       intro w1 hw1
       have hO1 := hO.set (4 * k) (.int .u8 ((x.toNat : Int) / 16777216))
       rw [← hw1] at hO1
       have hb1 : But go wr w1 := by rw [hw1]; exact (But.refl go wr).setCell _ _
       clear hw1)
    | (refine store_step rfl 5 (.tmp 266) (.tmp 259) rfl go (4 * k + 1) .u8 _ rfl rfl size_u8 (hO1.there _ 1 (by rw [List.length_set, HL.out]; omega)) ?_
       intro w2 hw2
       have hO2 := hO1.set (4 * k + 1) (.int .u8 ((x.toNat : Int) / 65536 % 256))
       rw [← hw2] at hO2
       have hb2 : But go wr w2 := by rw [hw2]; exact hb1.setCell _ _
       clear hw2)
    | (refine store_step rfl 5 (.tmp 267) (.tmp 262) rfl go (4 * k + 2) .u8 _ rfl rfl size_u8 (hO2.there _ 1 (by rw [List.length_set, List.length_set, HL.out]; omega)) ?_
       intro w3 hw3
       have hO3 := hO2.set (4 * k + 2) (.int .u8 ((x.toNat : Int) / 256 % 256))
       rw [← hw3] at hO3
       have hb3 : But go wr w3 := by rw [hw3]; exact hb2.setCell _ _
       clear hw3)
    | (refine store_step rfl 5 (.tmp 268) (.tmp 264) rfl go (4 * k + 3) .u8 _ rfl rfl size_u8 (hO3.there _ 1 (by rw [List.length_set, List.length_set, List.length_set, HL.out]; omega)) ?_
       intro w4 hw4
       have hO4 := hO3.set (4 * k + 3) (.int .u8 ((x.toNat : Int) % 256))
       rw [← hw4] at hO4
       have hb4 : But go wr w4 := by rw [hw4]; exact hb3.setCell _ _
       clear hw4))
  rw [set4 _ _ _ _ _ _ (by rw [HL.out]; omega), HD.out] at hO4
  refine ⟨⟨k + 1, by omega, ⟨rfl, rfl, rfl, rfl, rfl, by show Value.int .i64 ((k : Int) + 1) = _; go_num, rfl, rfl, rfl, rfl, trivial⟩, hW.but hb4 hgo, hO4⟩, ?_⟩
  show 8 - ((k : Int) + 1).toNat < 8 - ((k : Int)).toNat
  omega
/-- Behind the last loop. -/
def X5 (w : World) (gk gh gm cm N go : Nat) (l : List (BitVec 32)) (ms : List UInt8) (a : Act) (wr : World) : Prop :=
  Fr 271 ([(25, .pointer (some ⟨go, 0, none⟩))] ++ baseSlots w gk gh gm cm N) a ∧ RW w wr gk gh gm (l.map wcell) ms ∧ Cells wr go ((words4 l).map cellOf) 29
set_option maxRecDepth 100000 in
set_option maxHeartbeats 2000000 in
theorem loop5 (w wr : World) (gk gh gm cm N go : Nat) (l : List (BitVec 32)) (ms : List UInt8) (a : Act) (Q0 : Exit → Act → World → Prop) (hl : l.length = 8) (hgo : gm < go)
    (hI : I5 w gk gh gm cm N go l ms a wr) (hX : ∀ a wr, X5 w gk gh gm cm N go l ms a wr → Q0 (.exit 8) a wr) : Code.wp Tryd.prog (Code.loop (refBody 4)) Q0 a wr := by
  refine wp_loop (I5 w gk gh gm cm N go l ms) mu5 hI ?_
  clear hI a wr
  rintro a wr ⟨k, hk, hF, hW, hO⟩
  by_cases h1 : k < 8
  · exact round5 w wr gk gh gm cm N go k l ms a Q0 hl h1 hgo hF hW hO
  obtain rfl : k = 8 := by omega
  have HV : Hid ((words4 (l.take 8)).map cellOf ++ List.replicate (32 - 4 * 8) (cellOf 0) = (words4 l).map cellOf) := by
    show _ = _
    rw [List.take_of_length_le (by rw [hl]; omega)]; simp
  rw [HV.out] at hO
  have HX := Lib.hid hX
  clear hX hl
  obtain ⟨hs0, hd0, h25, h236, h237, h238, h2, h3, h4, h5, _⟩ := hF
  obtain ⟨u, rfl⟩ := frame271 a hs0 hd0
  clear hs0 hd0
  change u 25 = _ at h25
  change u 236 = _ at h236
  change u 237 = _ at h237
  change u 238 = _ at h238
  change u 2 = _ at h2
  change u 3 = _ at h3
  change u 4 = _ at h4
  change u 5 = _ at h5
  rw [h25, h236, h237, h238, h2, h3, h4, h5]
  clear h25 h236 h237 h238 h2 h3 h4 h5
  conv => arg 2; whnf
  go_wp2
  exact HX.out _ _ ⟨⟨rfl, rfl, rfl, rfl, rfl, rfl, rfl, trivial⟩, hW, hO⟩
end Go.Proofs.YtmhelmmonkgmmaaDoor
