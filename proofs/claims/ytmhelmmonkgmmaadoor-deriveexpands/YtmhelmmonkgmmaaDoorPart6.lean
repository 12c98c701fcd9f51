/- Part 6 of what the laws of this seat share: RSha5, RSha, RShaSum, MRef, DChain, DExpand, DInfo. -/
import Derived.Deep.DeepCutAuto
import Derived.BigQuiet
import Derived.Test.YtmhelmmonkgmmaaDoorPart5
namespace Go.Proofs.YtmhelmmonkgmmaaDoor
open Go.RowKit
/-- At the last loop's head: k words are laid out. -/
def I5 (w : World) (gk gh gm cm N go : Nat) (l : List (BitVec 32)) (ms : List UInt8) (a : Act) (wr : World) : Prop :=
  ∃ k : Nat, k ≤ 8 ∧ Fr 271 ([(25, .pointer (some ⟨go, 0, none⟩)), (236, .slice (some ⟨gh, 0, none⟩) 8 8), (237, .int .i64 8), (238, .int .i64 (k : Int))] ++ baseSlots w gk gh gm cm N) a ∧ RW w wr gk gh gm (l.map wcell) ms ∧ Cells wr go ((words4 (l.take k)).map cellOf ++ List.replicate (32 - 4 * k) (cellOf 0)) 29
def mu5 (a : Act) (_ : World) : Nat := 8 - (intOf (a.tmps.getD 238 undef)).toNat
theorem word4_cells (x : BitVec 32) : (word4 x).map cellOf = [.int .u8 ((x.toNat : Int) / 16777216), .int .u8 ((x.toNat : Int) / 65536 % 256), .int .u8 ((x.toNat : Int) / 256 % 256), .int .u8 ((x.toNat : Int) % 256)] := by
  have h3 := byte_mod x.toNat 3
  have h2 := byte_mod x.toNat 2
  have h1 := byte_mod x.toNat 1
  have h0 := byte_mod x.toNat 0
  simp only [word4, putL, List.range, List.range.loop, List.map_cons, List.map_nil, List.reverse_cons, List.reverse_nil, List.nil_append, List.cons_append, cellOf]
  have hx := x.isLt
  rw [← h3, ← h2, ← h1, ← h0]
  simp
  omega
theorem set4 (vs : List Value) (o : Nat) (a b c d : Value) (h : o + 4 ≤ vs.length) : (((vs.set o a).set (o + 1) b).set (o + 2) c).set (o + 3) d = splice vs o [a, b, c, d] := by
  have e : ∀ xs : List Value, ∀ j, splice xs j [] = xs := fun xs j => by simp [splice]
  rw [← set_splice vs o a _ (by simp; omega), ← set_splice _ (o + 1) b _ (by simp; omega), ← set_splice _ (o + 2) c _ (by simp; omega), ← set_splice _ (o + 3) d _ (by simp; omega), e]
set_option maxRecDepth 100000 in
set_option maxHeartbeats 2000000 in
theorem round5 (w wr : World) (gk gh gm cm N go k : Nat) (l : List (BitVec 32)) (ms : List UInt8) (a : Act) (Q0 : Exit → Act → World → Prop) (hl : l.length = 8) (hk : k < 8) (hgo : gm < go)
    (hF : Fr 271 ([(25, .pointer (some ⟨go, 0, none⟩)), (236, .slice (some ⟨gh, 0, none⟩) 8 8), (237, .int .i64 8), (238, .int .i64 (k : Int))] ++ baseSlots w gk gh gm cm N) a) (hW : RW w wr gk gh gm (l.map wcell) ms) (hO : Cells wr go ((words4 (l.take k)).map cellOf ++ List.replicate (32 - 4 * k) (cellOf 0)) 29) :
    Code.wp Tryd.prog (refBody 4) (Exit.then (fun a' w' => I5 w gk gh gm cm N go l ms a' w' ∧ mu5 a' w' < mu5 a wr) Q0) a wr := by
  have hk2 : k < l.length := by omega
  have cH := hW.ch.get (show (l.map wcell)[k]? = some (wcell l[k]) by rw [List.getElem?_map, List.getElem?_eq_getElem hk2]; rfl)
  have HD := Lib.hid (digest_next l k hk2 hl)
  rw [word4_cells] at HD
  have HL : Hid (((words4 (l.take k)).map cellOf ++ List.replicate (32 - 4 * k) (cellOf 0)).length = 32) := by
    show _ = _
    rw [List.length_append, List.length_map, words4_length, List.length_take, hl, List.length_replicate]; omega
  generalize l[k] = x at *
  generalize (words4 (l.take k)).map cellOf ++ List.replicate (32 - 4 * k) (cellOf 0) = vs at *
  have HO8 := Lib.hid hl
  clear hl
  have i1 : (0 : Int) ≤ (k : Int) := by omega
  have i2 : (k : Int) < 8 := by omega
  have i3 : (0 : Int) ≤ 4 * (k : Int) := by omega
  have i4 : 4 * (k : Int) < 32 := by omega
  have i5 : 4 * (k : Int) + 1 < 32 := by omega
  have i6 : 4 * (k : Int) + 2 < 32 := by omega
  have i7 : 4 * (k : Int) + 3 < 32 := by omega
  have j5 : (0 : Int) ≤ 4 * (k : Int) + 1 := by omega
  have j6 : (0 : Int) ≤ 4 * (k : Int) + 2 := by omega
  have j7 : (0 : Int) ≤ 4 * (k : Int) + 3 := by omega
  have n5 : (4 * (k : Int) + 1).toNat = 4 * k + 1 := by omega
  have n6 : (4 * (k : Int) + 2).toNat = 4 * k + 2 := by omega
  have n7 : (4 * (k : Int) + 3).toNat = 4 * k + 3 := by omega
  have n4 : (4 * (k : Int)).toNat = 4 * k := by omega
  obtain ⟨hs0, hd0, h25, h236, h237, h238, h2, h3, h4, h5, _⟩ := hF
  obtain ⟨u, rfl⟩ := frame271 a hs0 hd0
  clear hs0 hd0
  change u 25 = _ at h25
  change u 236 = _ at h236
  change u 237 = _ at h237
  change u 238 = _ at h238
  change u 2 = _ at h2
  change u 3 = _ at h3
  change u 4 = _ at h4
  change u 5 = _ at h5
  rw [h25, h236, h237, h238, h2, h3, h4, h5]
  clear h25 h236 h237 h238 h2 h3 h4 h5
  conv => arg 2; whnf
  go_wp2_with (first
    | (refine store_step rfl 5 (.tmp 265) (.tmp 256) rfl go (4 * k) .u8 _ rfl rfl size_u8 (hO.there _ 1 (by rw [HL.out]; omega)) ?_
       intro w1 hw1
       have hO1 := hO.set (4 * k) (.int .u8 ((x.toNat : Int) / 16777216))
       rw [← hw1] at hO1
       have hb1 : But go wr w1 := by rw [hw1]; exact (But.refl go wr).setCell _ _
       clear hw1)
    | (refine store_step rfl 5 (.tmp 266) (.tmp 259) rfl go (4 * k + 1) .u8 _ rfl rfl size_u8 (hO1.there _ 1 (by rw [List.length_set, HL.out]; omega)) ?_
       intro w2 hw2
       have hO2 := hO1.set (4 * k + 1) (.int .u8 ((x.toNat : Int) / 65536 % 256))
       rw [← hw2] at hO2
       have hb2 : But go wr w2 := by rw [hw2]; exact hb1.setCell _ _
       clear hw2)
    | (refine store_step rfl 5 (.tmp 267) (.tmp 262) rfl go (4 * k + 2) .u8 _ rfl rfl size_u8 (hO2.there _ 1 (by rw [List.length_set, List.length_set, HL.out]; omega)) ?_
       intro w3 hw3
       have hO3 := hO2.set (4 * k + 2) (.int .u8 ((x.toNat : Int) / 256 % 256))
       rw [← hw3] at hO3
       have hb3 : But go wr w3 := by rw [hw3]; exact hb2.setCell _ _
       clear hw3)
    | (refine store_step rfl 5 (.tmp 268) (.tmp 264) rfl go (4 * k + 3) .u8 _ rfl rfl size_u8 (hO3.there _ 1 (by rw [List.length_set, List.length_set, List.length_set, HL.out]; omega)) ?_
       intro w4 hw4
       have hO4 := hO3.set (4 * k + 3) (.int .u8 ((x.toNat : Int) % 256))
       rw [← hw4] at hO4
       have hb4 : But go wr w4 := by rw [hw4]; exact hb3.setCell _ _
       clear hw4))
  rw [set4 _ _ _ _ _ _ (by rw [HL.out]; omega), HD.out] at hO4
  refine ⟨⟨k + 1, by omega, ⟨rfl, rfl, rfl, rfl, rfl, by show Value.int .i64 ((k : Int) + 1) = _; go_num, rfl, rfl, rfl, rfl, trivial⟩, hW.but hb4 hgo, hO4⟩, ?_⟩
  show 8 - ((k : Int) + 1).toNat < 8 - ((k : Int)).toNat
  omega
/-- Behind the last loop. -/
def X5 (w : World) (gk gh gm cm N go : Nat) (l : List (BitVec 32)) (ms : List UInt8) (a : Act) (wr : World) : Prop :=
  Fr 271 ([(25, .pointer (some ⟨go, 0, none⟩))] ++ baseSlots w gk gh gm cm N) a ∧ RW w wr gk gh gm (l.map wcell) ms ∧ Cells wr go ((words4 l).map cellOf) 29
set_option maxRecDepth 100000 in
set_option maxHeartbeats 2000000 in
theorem loop5 (w wr : World) (gk gh gm cm N go : Nat) (l : List (BitVec 32)) (ms : List UInt8) (a : Act) (Q0 : Exit → Act → World → Prop) (hl : l.length = 8) (hgo : gm < go)
    (hI : I5 w gk gh gm cm N go l ms a wr) (hX : ∀ a wr, X5 w gk gh gm cm N go l ms a wr → Q0 (.exit 8) a wr) : Code.wp Tryd.prog (Code.loop (refBody 4)) Q0 a wr := by
  refine wp_loop (I5 w gk gh gm cm N go l ms) mu5 hI ?_
  clear hI a wr
  rintro a wr ⟨k, hk, hF, hW, hO⟩
  by_cases h1 : k < 8
  · exact round5 w wr gk gh gm cm N go k l ms a Q0 hl h1 hgo hF hW hO
  obtain rfl : k = 8 := by omega
  have HV : Hid ((words4 (l.take 8)).map cellOf ++ List.replicate (32 - 4 * 8) (cellOf 0) = (words4 l).map cellOf) := by
    show _ = _
    rw [List.take_of_length_le (by rw [hl]; omega)]; simp
  rw [HV.out] at hO
  have HX := Lib.hid hX
  clear hX hl
  obtain ⟨hs0, hd0, h25, h236, h237, h238, h2, h3, h4, h5, _⟩ := hF
  obtain ⟨u, rfl⟩ := frame271 a hs0 hd0
  clear hs0 hd0
  change u 25 = _ at h25
  change u 236 = _ at h236
  change u 237 = _ at h237
  change u 238 = _ at h238
  change u 2 = _ at h2
  change u 3 = _ at h3
  change u 4 = _ at h4
  change u 5 = _ at h5
  rw [h25, h236, h237, h238, h2, h3, h4, h5]
  clear h25 h236 h237 h238 h2 h3 h4 h5
  conv => arg 2; whnf
  go_wp2
  exact HX.out _ _ ⟨⟨rfl, rfl, rfl, rfl, rfl, rfl, rfl, trivial⟩, hW, hO⟩
end Go.Proofs.YtmhelmmonkgmmaaDoor
namespace Go.Proofs.YtmhelmmonkgmmaaDoor
open Go.RowKit
/-- At the outer loop's head: k blocks are done. -/
def I1 (w : World) (gk gh gm cm N : Nat) (ms : List UInt8) (a : Act) (wr : World) : Prop :=
  ∃ k : Nat, k ≤ N ∧ Fr 271 ([(6, .int .i64 ((64 * k : Nat) : Int))] ++ baseSlots w gk gh gm cm N) a ∧ RW w wr gk gh gm ((shaChain ms k).list.map wcell) ms
def mu1 (N : Nat) (a : Act) (_ : World) : Nat := 64 * N - (intOf (a.tmps.getD 6 undef)).toNat
set_option maxRecDepth 100000 in
set_option maxHeartbeats 4000000 in
theorem round1 (w wr : World) (gk gh gm cm N k : Nat) (ms : List UInt8) (a : Act) (Q0 : Exit → Act → World → Prop) (hN : N ≤ 20000) (hml : ms.length = 64 * N) (hk : k < N)
    (hF : Fr 271 ([(6, .int .i64 ((64 * k : Nat) : Int))] ++ baseSlots w gk gh gm cm N) a) (hW : RW w wr gk gh gm ((shaChain ms k).list.map wcell) ms) :
    Code.wp Tryd.prog (refBody 0) (Exit.then (fun a' w' => I1 w gk gh gm cm N ms a' w' ∧ mu1 N a' w' < mu1 N a wr) Q0) a wr := by
  have hmk := make_words 64 (by omega)
  have e64 : ((64 : Nat) : Int) = 64 := rfl
  rw [e64] at hmk
  clear e64
  have HC : Hid (shaChain ms (k + 1) = shaBlock (shaChain ms k) ((ms.drop (64 * k)).take 64)) := rfl
  have HML := Lib.hid hml
  have HP : Hid (64 * k + 64 ≤ 64 * N) := by show _ ≤ _; omega
  have hk2 : ((64 * k : Nat) : Int) < 64 * (N : Int) := by omega
  have hat : 64 * k ≤ 2000000 := by omega
  have HK := Lib.hid hk
  clear hml hk
  generalize hbk : (ms.drop (64 * k)).take 64 = bk at *
  replace hbk := Lib.hid hbk
  generalize shaChain ms k = oo at *
  generalize hpo : 64 * k = p0 at *
  replace hpo := Lib.hid hpo
  obtain ⟨hs0, hd0, h6, h2, h3, h4, h5, -⟩ := hF
  obtain ⟨u, rfl⟩ := frame271 a hs0 hd0
  clear hs0 hd0
  change u 6 = _ at h6
  change u 2 = _ at h2
  change u 3 = _ at h3
  change u 4 = _ at h4
  change u 5 = _ at h5
  rw [h6, h2, h3, h4, h5]
  clear h6 h2 h3 h4 h5
  conv => arg 2; whnf
  go_wp2_with fail
  have hW1 := hW.alloc (.cells (wzeros 64).toArray 61)
  have hS1 : Cells (wr.alloc (.cells (wzeros 64).toArray 61)) wr.heap.size (spreadTo bk 0) 61 := by
    have := Cells.new wr (wzeros 64).toArray 61
    simpa [spreadTo, shaSpread, wzeros] using this
  have hgw := hW.o4
  generalize wr.alloc (.cells (wzeros 64).toArray 61) = w4 at *
  generalize wr.heap.size = gw at *
  clear hW hmk
  refine loop2 w w4 gk gh gm cm N gw p0 (oo.list.map wcell) ms bk _ _ hN HML.out HP.out hgw (by rw [← hbk.out]) ⟨0, by omega, ⟨rfl, rfl, rfl, rfl, rfl, rfl, rfl, rfl, rfl, trivial⟩, hW1, hS1⟩ ?_
  clear hW1 hS1
  rintro a5 w5 ⟨hF, hW, hS⟩
  obtain ⟨hs0, hd0, h6, h7, h2, h3, h4, h5, -⟩ := hF
  obtain ⟨u, rfl⟩ := frame271 a5 hs0 hd0
  clear hs0 hd0
  change u 6 = _ at h6
  change u 7 = _ at h7
  change u 2 = _ at h2
  change u 3 = _ at h3
  change u 4 = _ at h4
  change u 5 = _ at h5
  rw [h6, h7, h2, h3, h4, h5]
  clear h6 h7 h2 h3 h4 h5
  have HWS : Hid (spreadTo bk 64 = (shaSpread bk 64).map wcell) := by show _ = _; simp [spreadTo]
  rw [HWS.out] at hS
  have HWL := Lib.hid (shaSpread_length bk 64)
  have HBL : Hid (shaBlock oo bk = oo.plus (shaRounds oo (shaSpread bk 64) 64)) := rfl
  generalize shaSpread bk 64 = ws at *
  have c0 := hW.ch.get (j := 0) (v := wcell oo.a) rfl
  have c1 := hW.ch.get (j := 1) (v := wcell oo.b) rfl
  have c2 := hW.ch.get (j := 2) (v := wcell oo.c) rfl
  have c3 := hW.ch.get (j := 3) (v := wcell oo.d) rfl
  have c4 := hW.ch.get (j := 4) (v := wcell oo.e) rfl
  have c5 := hW.ch.get (j := 5) (v := wcell oo.f) rfl
  have c6 := hW.ch.get (j := 6) (v := wcell oo.g) rfl
  have c7 := hW.ch.get (j := 7) (v := wcell oo.h) rfl
  go_wp2_with fail
  go_quiet (fail)
  have hW1 := hW.drewN nq
  have hS1 := hS.drewN nq
  clear hW hS c0 c1 c2 c3 c4 c5 c6 c7
  generalize w5.drewN nq = w6 at *
  go_wp2_with fail
  refine loop3 w w6 gk gh gm cm N gw p0 oo ws ms _ _ HWL.out ⟨0, by omega, ⟨rfl, rfl, rfl, rfl, rfl, rfl, rfl, rfl, rfl, rfl, rfl, rfl, rfl, rfl, rfl, rfl, rfl, trivial⟩, hW1, hS1⟩ ?_
  clear hW1 hS1
  generalize shaRounds oo ws 64 = q at *
  rintro a7 w7 ⟨hF, hW, hS⟩
  obtain ⟨hs0, hd0, h6, h7, h12, h13, h14, h15, h16, h17, h18, h19, h2, h3, h4, h5, -⟩ := hF
  obtain ⟨u, rfl⟩ := frame271 a7 hs0 hd0
  clear hs0 hd0
  change u 6 = _ at h6
  change u 7 = _ at h7
  change u 12 = _ at h12
  change u 13 = _ at h13
  change u 14 = _ at h14
  change u 15 = _ at h15
  change u 16 = _ at h16
  change u 17 = _ at h17
  change u 18 = _ at h18
  change u 19 = _ at h19
  change u 2 = _ at h2
  change u 3 = _ at h3
  change u 4 = _ at h4
  change u 5 = _ at h5
  rw [h6, h7, h12, h13, h14, h15, h16, h17, h18, h19, h2, h3, h4, h5]
  clear h6 h7 h12 h13 h14 h15 h16 h17 h18 h19 h2 h3 h4 h5
  go_wp2_with fail
  have hG1 : Cells (w7.alloc (.cells #[wcell q.a, wcell q.b, wcell q.c, wcell q.d, wcell q.e, wcell q.f, wcell q.g, wcell q.h] 61)) w7.heap.size (q.list.map wcell) 61 := Cells.new w7 (q.list.map wcell).toArray 61
  have hW1 := hW.alloc (.cells #[wcell q.a, wcell q.b, wcell q.c, wcell q.d, wcell q.e, wcell q.f, wcell q.g, wcell q.h] 61)
  have hgx := hW.o4
  generalize w7.alloc (.cells #[wcell q.a, wcell q.b, wcell q.c, wcell q.d, wcell q.e, wcell q.f, wcell q.g, wcell q.h] 61) = w8 at *
  generalize w7.heap.size = gx at *
  clear hW hS
  refine loop4 w w8 gk gh gm cm N gx p0 oo q ms _ _ hgx ⟨0, by omega, ⟨rfl, rfl, rfl, rfl, rfl, rfl, rfl, rfl, rfl, rfl, trivial⟩, hW1, hG1⟩ ?_
  clear hW1 hG1
  rintro a9 w9 ⟨hF, hW⟩
  obtain ⟨hs0, hd0, h6, h2, h3, h4, h5, -⟩ := hF
  obtain ⟨u, rfl⟩ := frame271 a9 hs0 hd0
  clear hs0 hd0
  change u 6 = _ at h6
  change u 2 = _ at h2
  change u 3 = _ at h3
  change u 4 = _ at h4
  change u 5 = _ at h5
  rw [h6, h2, h3, h4, h5]
  clear h6 h2 h3 h4 h5
  go_wp2_with fail
  rw [← HBL.out, ← HC.out] at hW
  have e1 := hpo.out
  have e2 := HK.out
  refine ⟨⟨k + 1, by omega, ⟨rfl, rfl, ?_, rfl, rfl, rfl, rfl, trivial⟩, hW⟩, ?_⟩
  · show Value.int .i64 ((p0 : Int) + 64) = Value.int .i64 ((64 * (k + 1) : Nat) : Int)
    rw [← e1]
    congr 1
  · show 64 * N - ((p0 : Int) + 64).toNat < 64 * N - ((p0 : Int)).toNat
    omega
/-- Behind the outer loop. -/
def X1 (w : World) (gk gh gm cm N : Nat) (ms : List UInt8) (a : Act) (wr : World) : Prop :=
  Fr 271 (baseSlots w gk gh gm cm N) a ∧ RW w wr gk gh gm ((shaChain ms N).list.map wcell) ms
set_option maxRecDepth 100000 in
set_option maxHeartbeats 4000000 in
theorem loop1 (w wr : World) (gk gh gm cm N : Nat) (ms : List UInt8) (a : Act) (Q0 : Exit → Act → World → Prop) (hN : N ≤ 20000) (hml : ms.length = 64 * N)
    (hI : I1 w gk gh gm cm N ms a wr) (hX : ∀ a wr, X1 w gk gh gm cm N ms a wr → Q0 (.exit 0) a wr) : Code.wp Tryd.prog (Code.loop (refBody 0)) Q0 a wr := by
  refine wp_loop (I1 w gk gh gm cm N ms) (mu1 N) hI ?_
  clear hI a wr
  rintro a wr ⟨k, hk, hF, hW⟩
  by_cases h1 : k < N
  · exact round1 w wr gk gh gm cm N k ms a Q0 hN hml h1 hF hW
  obtain rfl : k = N := by omega
  have HX := Lib.hid hX
  have h64 : ¬ ((64 * k : Nat) : Int) < 64 * (k : Int) := by omega
  clear hX hml h1
  obtain ⟨hs0, hd0, h6, h2, h3, h4, h5, -⟩ := hF
  obtain ⟨u, rfl⟩ := frame271 a hs0 hd0
  clear hs0 hd0
  change u 6 = _ at h6
  change u 2 = _ at h2
  change u 3 = _ at h3
  change u 4 = _ at h4
  change u 5 = _ at h5
  rw [h6, h2, h3, h4, h5]
  clear h6 h2 h3 h4 h5
  conv => arg 2; whnf
  go_wp2
  exact HX.out _ _ ⟨⟨rfl, rfl, rfl, rfl, rfl, rfl, trivial⟩, hW⟩
end Go.Proofs.YtmhelmmonkgmmaaDoor
namespace Go.Proofs.YtmhelmmonkgmmaaDoor
open Go.RowKit
/-- 32 bytes of nought. (Named, so that a walk leaves them whole.) -/
def z32 : List Value := List.replicate 32 (cellOf 0)
theorem z32_lit : z32.toArray = #[.int .u8 0, .int .u8 0, .int .u8 0, .int .u8 0, .int .u8 0, .int .u8 0, .int .u8 0, .int .u8 0, .int .u8 0, .int .u8 0, .int .u8 0, .int .u8 0, .int .u8 0, .int .u8 0, .int .u8 0, .int .u8 0, .int .u8 0, .int .u8 0, .int .u8 0, .int .u8 0, .int .u8 0, .int .u8 0, .int .u8 0, .int .u8 0, .int .u8 0, .int .u8 0, .int .u8 0, .int .u8 0, .int .u8 0, .int .u8 0, .int .u8 0, .int .u8 0] := by rfl
theorem ones_r32 : z32.toArray.all (·.oneCell') = true := all_oneCell_toArray (by intro v hv; rw [List.eq_of_mem_replicate hv]; rfl)
set_option maxRecDepth 100000 in
set_option maxHeartbeats 1000000 in
theorem refSum_any (A : Option Addr) (c n : Nat) (bs : List UInt8) (w : World) (hl : bs.length = n) (hr : Row w w.heap.size A bs) (hA : A = none → c = 0) (hn : n ≤ 900000) :
    Calls Tryd.prog 22 #[.slice A n c] w fun e w' => e = .returned (hashVal (shaSum bs)) ∧ Below w.heap.size w w' := by
  have HL := Lib.hid hl
  clear hl
  go_enter Tryd.func22, Tryd.ntmps22
  go_wp2_with (refine alloc_step rfl 29 rfl _ zero_r32 ?_
               intro w0 hw0
               have hB0 : Below w.heap.size w w0 := by rw [hw0]; exact (Below.refl _ _).alloc (Nat.le_refl _) _
               have hR0 : Cells w0 w.heap.size (List.replicate 32 (cellOf 0)) 29 := by rw [hw0]; exact Cells.new w _ _
               clear hw0
               have hz := hR0.lt)
  refine (constants_any w0).mono ?_
  rintro e w1 ⟨rfl, hB1, hK1⟩
  have hB2 := hB0.trans (hB1.mono hB0.size)
  have hR2 := hR0.below hB1 hR0.lt
  have hz2 := hK1.lt
  generalize w0.heap.size = gk at *
  clear hB0 hR0 hB1
  go_wp2_with fail
  have hH3 : Cells (w1.alloc (.cells #[.int .u32 1779033703, .int .u32 3144134277, .int .u32 1013904242, .int .u32 2773480762, .int .u32 1359893119, .int .u32 2600822924, .int .u32 528734635, .int .u32 1541459225] 61)) w1.heap.size (shaStart.list.map wcell) 61 := Cells.new w1 (shaStart.list.map wcell).toArray 61
  have hB3 := hB2.alloc hB2.size (.cells #[.int .u32 1779033703, .int .u32 3144134277, .int .u32 1013904242, .int .u32 2773480762, .int .u32 1359893119, .int .u32 2600822924, .int .u32 528734635, .int .u32 1541459225] 61)
  have hR3 := hR2.alloc (.cells #[.int .u32 1779033703, .int .u32 3144134277, .int .u32 1013904242, .int .u32 2773480762, .int .u32 1359893119, .int .u32 2600822924, .int .u32 528734635, .int .u32 1541459225] 61)
  have hK3 := hK1.alloc (.cells #[.int .u32 1779033703, .int .u32 3144134277, .int .u32 1013904242, .int .u32 2773480762, .int .u32 1359893119, .int .u32 2600822924, .int .u32 528734635, .int .u32 1541459225] 61)
  generalize w1.alloc (.cells #[.int .u32 1779033703, .int .u32 3144134277, .int .u32 1013904242, .int .u32 2773480762, .int .u32 1359893119, .int .u32 2600822924, .int .u32 528734635, .int .u32 1541459225] 61) = w2 at *
  generalize w1.heap.size = gh at *
  have hz3 := hH3.lt
  clear hB2 hR2 hK1
  refine (padded_any A c n bs w2 HL.out (hr.on hB3) hA hn).mono ?_
  rintro e w3 ⟨gm, cm, rfl, hgm, hB4, hM⟩
  have HGM : Hid (gh < gm) := by show _ < _; omega
  clear hgm
  have hB5 := hB3.trans (hB4.mono hB3.size)
  have hR5 := hR3.below hB4 hR3.lt
  have hK5 := hK3.below hB4 hK3.lt
  have hH5 := hH3.below hB4 hH3.lt
  clear hB3 hR3 hK3 hH3
  have HM : Hid ((shaPadded bs).length = 64 * ((shaPadded bs).length / 64)) := by
    show _ = _
    have h1 := shaPadded_length bs
    have h2 := shaEnd_mod bs.length
    omega
  have hm1 : (shaPadded bs).length / 64 ≤ 20000 := by
    have h1 := shaPadded_length bs
    have h2 := shaPad_pos bs.length
    have h3 := HL.out
    omega
  have HX : Hid (shaSum bs = words4 (shaChain (shaPadded bs) ((shaPadded bs).length / 64)).list) := rfl
  have HM0 : Hid (0 < (shaPadded bs).length) := by show _ < _; rw [shaPadded_length]; omega
  generalize shaPadded bs = ms at *
  generalize hN : ms.length / 64 = N at *
  replace hN := Lib.hid hN
  go_wp2_with fail
  rw [HM.out]
  have hW0 : RW w w3 gk gh gm ((shaChain ms 0).list.map wcell) ms := ⟨hB5, hR5, hK5, hH5, hM, hz, hz2, HGM.out, by
    rcases hM with e | ⟨b', off', e3, h, _⟩
    · exfalso
      subst e
      have h1 := HM0.out
      simp at h1
    · cases e3; exact h⟩
  refine loop1 w w3 gk gh gm cm N ms _ _ hm1 HM.out ⟨0, Nat.zero_le _, ⟨rfl, rfl, rfl, rfl, rfl, rfl, rfl, trivial⟩, hW0⟩ ?_
  clear hW0 hB5 hR5 hK5 hH5 hM hB4
  rintro a5 w5 ⟨hF, hW⟩
  obtain ⟨hs0, hd0, h2, h3, h4, h5, -⟩ := hF
  obtain ⟨u, rfl⟩ := frame271 a5 hs0 hd0
  clear hs0 hd0
  change u 2 = _ at h2
  change u 3 = _ at h3
  change u 4 = _ at h4
  change u 5 = _ at h5
  rw [h2, h3, h4, h5]
  clear h2 h3 h4 h5
  have HL8 : Hid ((shaChain ms N).list.length = 8) := rfl
  generalize (shaChain ms N).list = l at *
  have HT6 : Hid ((w5.alloc (.cells z32.toArray 29)).there w5.heap.size 0 z32.toArray.size) := (Cells.new w5 z32.toArray 29).there 0 32 (by simp [z32])
  go_wp2_with (first
    | (rw [← z32_lit]
       refine wpList_store_mid rfl 29 _ _ rfl w5.heap.size 0 z32.toArray rfl rfl HT6.out size_r32 ones_r32 ?_))
  have hW6 := (hW.alloc (.cells z32.toArray 29)).but ((But.refl w5.heap.size _).setCells 0 z32) hW.o4
  have hO6 : Cells ((w5.alloc (.cells z32.toArray 29)).setCells w5.heap.size 0 z32) w5.heap.size (List.replicate 32 (cellOf 0)) 29 := by
    have h := (Cells.new w5 z32.toArray 29).setCells (cs := z32) (o := 0) (by simp [z32])
    rw [splice_all _ _ (by simp [z32])] at h
    exact h
  have hgo := hW.o4
  generalize (w5.alloc (.cells z32.toArray 29)).setCells w5.heap.size 0 z32 = w6 at *
  generalize w5.heap.size = go at *
  clear hW
  refine loop5 w w6 gk gh gm cm N go l ms _ _ HL8.out hgo ⟨0, Nat.zero_le _, ⟨rfl, rfl, rfl, rfl, rfl, rfl, rfl, rfl, rfl, rfl, trivial⟩, hW6, hO6⟩ ?_
  clear hW6 hO6
  rintro a7 w7 ⟨hF, hW, hO⟩
  obtain ⟨hs0, hd0, h25, h2, h3, h4, h5, -⟩ := hF
  obtain ⟨u, rfl⟩ := frame271 a7 hs0 hd0
  clear hs0 hd0
  change u 25 = _ at h25
  change u 2 = _ at h2
  change u 3 = _ at h3
  change u 4 = _ at h4
  change u 5 = _ at h5
  rw [h25, h2, h3, h4, h5]
  clear h25 h2 h3 h4 h5
  have HV : Hid (hashVal (shaSum bs) = .agg ((words4 l).map cellOf).toArray) := by show _ = _; rw [HX.out]; rfl
  have HW : Hid (((words4 l).map cellOf).length = 32) := by show _ = _; rw [List.length_map, words4_length, HL8.out]
  have HP : Hid (∀ v ∈ (words4 l).map cellOf, v.oneCell' = true) := cells8_one _
  generalize (words4 l).map cellOf = vs at *
  have HS : Hid (vs.toArray.size = 32) := by show _ = _; rw [List.size_toArray, HW.out]
  have hi : (Tryd.prog.info? 29).map (·.size) = some vs.toArray.size := by rw [HS.out]; exact size_r32
  have hT : w7.there w.heap.size 0 vs.toArray.size := by rw [HS.out]; exact hW.res.there 0 32 (by simp)
  go_wp2_with (first
    | (refine wpList_load_row rfl 29 _ rfl go rfl 29 _ (0, 0) _ hO Tryd.underlying29 rfl hi ?_)
    | (refine wpList_store_mid rfl 29 _ _ rfl w.heap.size 0 vs.toArray rfl rfl hT hi (all_oneCell_toArray HP.out) ?_))
  have hC := hW.res.setCells (cs := vs) (o := 0) (by simp [HW.out])
  rw [splice_all _ _ (by simp [HW.out])] at hC
  refine ret_block Tryd.results22 w.heap.size vs 29 rfl hC Tryd.underlying29 rfl (by simpa using hi) rfl ⟨by rw [HV.out], below_setCells hW.below (Nat.le_refl _) _ _⟩
end Go.Proofs.YtmhelmmonkgmmaaDoor
namespace Go.Proofs.YtmhelmmonkgmmaaDoor
open Go.RowKit
/-- A row of 64 bytes whose first k are padded, the others noughts. -/
def xTo (bs : List UInt8) (p : UInt8) (k : Nat) : List UInt8 := macPad (bs.take k) p ++ List.replicate (64 - k) 0
theorem xTo_length (bs : List UInt8) (p : UInt8) (k : Nat) (hl : bs.length = 64) (hk : k ≤ 64) : (xTo bs p k).length = 64 := by simp [xTo, macPad]; omega
theorem xTo_next (bs : List UInt8) (p : UInt8) (k : Nat) (hl : bs.length = 64) (hk : k < 64) : (xTo bs p k).set k (bs[k]'(by omega) ^^^ p) = xTo bs p (k + 1) := by
  rw [xTo, set_nextV _ k 64 _ 0 (by rw [macPad_length, List.length_take]; omega) hk, xTo, take_snoc bs k (by omega), macPad, macPad, List.map_append]
  rfl
def zrow : Array Value := rowCells (List.replicate 64 0)
theorem zrow_made (w : World) : Made (w.alloc (.cells zrow 5)) w.heap.size (List.replicate 64 0) := Made.new w _
theorem made_owns {w : World} {base g : Nat} {bs : List UInt8} (h : Made w g bs) (hb : base ≤ g) (hl : bs.length ≤ 1000000) : Owns w base (.slice (some ⟨g, 0, none⟩) bs.length bs.length) bs := by
  refine ⟨by simp, .inr ⟨g, bs.length, (bs.map cellOf).toArray, rfl, hb, h, Nat.le_refl _, by unfold maxLen; omega, by simp, by simp [List.take_of_length_le]⟩⟩
theorem two_rows (w : World) : Below w.heap.size w ((w.alloc (.cells zrow 5)).alloc (.cells zrow 5)).drew ∧ Made ((w.alloc (.cells zrow 5)).alloc (.cells zrow 5)).drew w.heap.size (List.replicate 64 0) ∧ Made ((w.alloc (.cells zrow 5)).alloc (.cells zrow 5)).drew (w.heap.size + 1) (List.replicate 64 0) := by
  have b1 := (Below.refl w.heap.size w).alloc (Nat.le_refl _) (.cells zrow 5)
  refine ⟨(b1.alloc b1.size (.cells zrow 5)).drew, ?_, ?_⟩
  · exact (zrow_made w).below (B := (w.alloc (.cells zrow 5)).heap.size) ((Below.refl (w.alloc (.cells zrow 5)).heap.size (w.alloc (.cells zrow 5))).alloc (Nat.le_refl _) _).drew (by rw [World.size_alloc]; omega)
  · have h := zrow_made (w.alloc (.cells zrow 5))
    rw [World.size_alloc] at h
    exact h
theorem Made.but {w w' : World} {g b : Nat} {bs : List UInt8} (h : Made w g bs) (hb : But b w w') (hg : g ≠ b) : Made w' g bs := (hb.block g h.lt hg).trans h
theorem Made.other {w : World} {g : Nat} {bs : List UInt8} (h : Made w g bs) {p : Addr} (hp : g ≠ p.block) (u : Value) : Made (w.setCell p u) g bs := (Below.heap_setCell _ _ _ _ hp).trans h
set_option maxRecDepth 100000 in
set_option maxHeartbeats 800000 in
theorem macRef_any (A B : Option Addr) (c n d m : Nat) (key b : List UInt8) (w : World) (hl : key.length = n) (hr : Row w w.heap.size A key) (hA : A = none → c = 0) (hn : n ≤ 900000)
    (hbl : b.length = m) (hb : Row w w.heap.size B b) (hB : B = none → d = 0) (hm : m ≤ 800000) :
    Calls Tryd.prog 10 #[.slice A n c, .slice B m d] w fun e w' => e = .returned (hashVal (macSum key b)) ∧ Below w.heap.size w w' := by
  have HL := Lib.hid hl
  have HBL := Lib.hid hbl
  clear hl hbl
  have hmk : ∀ w, _ := make_bytes 64 64 (Nat.le_refl _) (by omega)
  rw [show ((64 : Nat) : Int) = 64 from rfl, show rowCells (List.replicate 64 0) = zrow from rfl] at hmk
  go_enter Tryd.func10, Tryd.ntmps10
  go_upto_if 13 with (first
    | (refine zero_step rfl 29 rfl 32 zero_r32 ?_
       intro w0 hB0 hR0 hz0))
  go_cut [0, 5] (fun s0 _ wc => ∃ K k q ks, s0 = .slice K k q ∧ ks.length = k ∧ k ≤ 64 ∧ macFill ks = macKey key ∧ Row wc wc.heap.size K ks ∧ Below w.heap.size w wc ∧ Cells wc w.heap.size (List.replicate 32 (cellOf 0)) 29)
  case first =>
    by_cases hlong : 64 < n
    · have h1 : (64 : Int) < (n : Int) := by omega
      have HD := Lib.hid (shaSum_length key)
      go_wp2_with (first
        | (go_at_call 22
           refine (refSum_any A c n key w0 HL.out (hr.on hB0) hA hn).mono ?_
           rintro e w1 ⟨rfl, hb1⟩)
        | (refine put_step rfl rfl 29 (.tmp 5) (.tmp 15) rfl rfl 32 (shaSum key) rfl rfl zero_r32 size_r32 HD.out ?_
           intro w2 hb2 hC2 hz2))
      go_meet
      have hb3 := below_then hb1 hb2
      exact ⟨_, _, _, shaSum key, rfl, HD.out, by omega, (macKey_long key (by rw [HL.out]; exact hlong)).symm, hC2.all, below_then hB0 hb3, hR0.on hb3⟩
    · have h1 : ¬ (64 : Int) < (n : Int) := by omega
      go_wp2_with fail
      go_meet
      exact ⟨A, n, c, key, rfl, HL.out, by omega, (macKey_short key (by rw [HL.out]; omega)).symm, hr.on hB0, hB0, hR0⟩
  case rest =>
  obtain ⟨K, kn, q, ks, rfl, hkl, hk64, hfe, hRk, hBc, hRc⟩ := hcut
  have HKL := Lib.hid hkl
  have HFE := Lib.hid hfe
  have HFL := Lib.hid (macFill_length ks)
  have HFA := Lib.hid (show ∀ i, i < 64 → (macFill ks)[i]? = some (ks.getD i 0) from fun i hi => by rw [List.getElem?_eq_getElem (by rw [macFill_length]; exact hi), macFill_at ks (by rw [hkl]; exact hk64) i hi])
  clear hkl hfe hB0 hR0 hz0
  go_upto_region 4 with fail
  go_cut [6, 7] (fun s6 s7 wx => ∃ gx gy, s6 = .slice (some ⟨gx, 0, none⟩) 64 64 ∧ s7 = .slice (some ⟨gy, 0, none⟩) 64 64 ∧ gx ≠ gy ∧ wc.heap.size ≤ gx ∧ wc.heap.size ≤ gy ∧ gx < wx.heap.size ∧ gy < wx.heap.size ∧ Below wc.heap.size wc wx ∧ Made wx gx (List.replicate 64 0) ∧ Made wx gy (List.replicate 64 0))
  case first =>
    have ht := Lib.hid (two_rows wc)
    go_region
    · go_wp2_with fail
      go_meet
      obtain ⟨t1, t2, t3⟩ := ht.out
      exact ⟨_, _, rfl, rfl, by omega, by omega, by omega, t2.lt, t3.lt, t1, t2, t3⟩
    · go_wp2_with fail
      go_meet
      obtain ⟨t1, t2, t3⟩ := ht.out
      exact ⟨_, _, rfl, rfl, by omega, by omega, by omega, t3.lt, t2.lt, t1, t3, t2⟩
  case rest =>
  obtain ⟨gx, gy, rfl, rfl, n1, n2, n3, n4, n5, hb1, hX, hY⟩ := hcut
  rename World => w2
  have n6 : gy ≠ gx := fun e => n1 e.symm
  have HX0 := Lib.hid (show List.replicate 64 0 = xTo (macFill ks) 54 0 from rfl)
  have HY0 := Lib.hid (show List.replicate 64 0 = xTo (macFill ks) 92 0 from rfl)
  generalize hfill : macFill ks = fill at *
  replace hfill := Lib.hid hfill
  go_wp2_with fail
  go_loopw [8] (fun i wr => ∃ k : Nat, k ≤ 64 ∧ i = .int .i64 k ∧ Below wc.heap.size wc wr ∧ Made wr gx (xTo fill 54 k) ∧ Made wr gy (xTo fill 92 k)) (fun i _ => 64 - (intOf i).toNat)
  case atStart => exact ⟨0, Nat.zero_le _, rfl, hb1, by rw [← HX0.out]; exact hX, by rw [← HY0.out]; exact hY⟩
  case round =>
    clear hb1 hX hY
    obtain ⟨k, hk, rfl, hb1, hX, hY⟩ := hrel
    by_cases hlt : k < 64
    · have hlt2 : k < fill.length := by rw [HFL.out]; exact hlt
      have HNX := Lib.hid (xTo_next fill 54 k HFL.out hlt)
      have HNY := Lib.hid (xTo_next fill 92 k HFL.out hlt)
      have HFK := Lib.hid (show fill[k] = ks.getD k 0 by have h := HFA.out k hlt; rw [List.getElem?_eq_getElem hlt2] at h; exact Option.some.inj h)
      have f1 := hX.frozen k
      have f2 := hY.frozen k
      obtain ⟨v1, c1⟩ : ∃ v, wr.cell? ⟨gx, k, none⟩ = some v := ⟨_, hX.cell k (by rw [xTo_length _ _ _ HFL.out (by omega)]; exact hlt)⟩
      obtain ⟨v2, c2⟩ : ∃ v, wr.cell? ⟨gy, k, none⟩ = some v := ⟨_, hY.cell k (by rw [xTo_length _ _ _ HFL.out (by omega)]; exact hlt)⟩
      have HXR : Hid (∀ x : UInt8, fill[k] = x → Below wc.heap.size wc ((wr.setCell ⟨gx, k, none⟩ (cellOf (x ^^^ 54))).setCell ⟨gy, k, none⟩ (cellOf (x ^^^ 92))) ∧ Made ((wr.setCell ⟨gx, k, none⟩ (cellOf (x ^^^ 54))).setCell ⟨gy, k, none⟩ (cellOf (x ^^^ 92))) gx (xTo fill 54 (k + 1)) ∧ Made ((wr.setCell ⟨gx, k, none⟩ (cellOf (x ^^^ 54))).setCell ⟨gy, k, none⟩ (cellOf (x ^^^ 92))) gy (xTo fill 92 (k + 1))) := by
        intro x hx
        have h1 := HNX.out
        have h2 := HNY.out
        rw [hx] at h1 h2
        refine ⟨(hb1.setCell (p := ⟨gx, k, none⟩) n2 _).setCell (p := ⟨gy, k, none⟩) n3 _, ?_, ?_⟩
        · have h := (hX.set k (x ^^^ 54)).other (p := ⟨gy, k, none⟩) n1 (cellOf (x ^^^ 92))
          rw [h1] at h
          exact h
        · have h := (hY.other (p := ⟨gx, k, none⟩) n6 (cellOf (x ^^^ 54))).set k (x ^^^ 92)
          rw [h2] at h
          exact h
      by_cases hin : k < kn
      · have i1 : (k : Int) < (kn : Int) := by omega
        have hin2 : k < ks.length := by rw [HKL.out]; exact hin
        obtain ⟨b', off', rfl, hb', c3⟩ := (hRk.below hb1).at k hin2
        have HE := Lib.hid (HXR.out ks[k] (by rw [HFK.out, getD_lt ks k hin2]))
        have HZ1 := Lib.hid (xor8 ks[k] 54)
        have HZ2 := Lib.hid (xor8 ks[k] 92)
        generalize ks[k] = x at *
        go_wp2
        go_roundw
        case rel =>
          refine ⟨k + 1, by omega, by go_num, ?_⟩
          have h1 := HZ1.out
          have h2 := HZ2.out
          rw [show (((54 : UInt8).toNat : Nat) : Int) = 54 from rfl] at h1
          rw [show (((92 : UInt8).toNat : Nat) : Int) = 92 from rfl] at h2
          rw [h1, h2]
          exact HE.out
        case measure => simp [intOf]; omega
      · have i1 : ¬ (k : Int) < (kn : Int) := by omega
        have HE := Lib.hid (HXR.out 0 (by rw [HFK.out, List.getD, List.getElem?_eq_none (by rw [HKL.out]; omega)]; rfl))
        go_wp2
        go_roundw
        case rel => exact ⟨k + 1, by omega, by go_num, HE.out⟩
        case measure => simp [intOf]; omega
    · obtain rfl : k = 64 := by omega
      have e64 : ∀ p, xTo fill p 64 = macPad (macKey key) p := fun p => by
        rw [xTo, List.take_of_length_le (by rw [HFL.out]; omega), HFE.out]
        simp
      rw [e64] at hX hY
      clear e64
      have HPX : Hid ((macPad (macKey key) 54).length = 64) := by show _ = _; rw [macPad_length, macKey_length]
      have HPY : Hid ((macPad (macKey key) 92).length = 64) := by show _ = _; rw [macPad_length, macKey_length]
      have HIN : Hid (shaSum (macPad (macKey key) 54 ++ b) = macIn key b) := rfl
      have HOUT : Hid (shaSum (macPad (macKey key) 92 ++ macIn key b) = macSum key b) := rfl
      have HIL := Lib.hid (macIn_length key b)
      have HSL := Lib.hid (macSum_length key b)
      clear HX0 HY0 HFA HFL HFE hfill
      generalize macPad (macKey key) 54 = px at *
      generalize macPad (macKey key) 92 = py at *
      have hB2 : Below w.heap.size w wr := hBc.trans (hb1.mono hBc.size)
      have hR2 := hRc.below hb1 hRc.lt
      have hOx := made_owns (base := wc.heap.size) hX n2 (by rw [HPX.out]; omega)
      rw [HPX.out] at hOx
      have hsz := hb1.size
      have hgr := hRc.lt
      go_wp2_with (first
        | (at_builtin
           refine append_but rfl (.tmp 41) (.tmp 42) rfl wc.heap.size gx 64 64 px b wr.heap.size B d m rfl hOx rfl HBL.out hB (hb.on hB2) (by rw [HPX.out]; omega) hsz ?_
           intro v1 w3 hown1 hbut1))
      have hY3 := hY.but hbut1 n6
      have hR3 := hR2.but hbut1 (by omega)
      have hB3 := hB2.trans (hbut1.below (by omega) hB2.size)
      have hs3 : wc.heap.size ≤ w3.heap.size := Nat.le_trans hsz hbut1.size
      obtain ⟨A1, c1, hv1, _, hA1, hR1⟩ := hown1.form
      obtain ⟨L1, hL1⟩ : ∃ L1, (px ++ b).length = L1 := ⟨_, rfl⟩
      rw [hL1] at hv1
      have hLm : L1 ≤ 800064 := by rw [List.length_append, HPX.out, HBL.out] at hL1; omega
      replace hL1 := Lib.hid hL1
      subst hv1
      clear hX hY hB2 hR2 hOx hown1 hbut1 hb1 hRk
      refine (refSum_any A1 c1 L1 (px ++ b) w3 hL1.out hR1 hA1 (by omega)).mono ?_
      rintro e w4 ⟨rfl, hb4⟩
      rw [HIN.out]
      have hY4 := hY3.below hb4 hY3.lt
      have hR4 := hR3.on hb4
      have hB4 := below_then hB3 hb4
      have hs4 := Nat.le_trans hs3 hb4.size
      clear hY3 hR3 hB3 hb4 hR1 hs3
      generalize macIn key b = inn at *
      have hOy := made_owns (base := wc.heap.size) hY4 n3 (by rw [HPY.out]; omega)
      rw [HPY.out] at hOy
      go_wp2_with (first
        | (refine put_step rfl rfl 29 (.tmp 10) (.tmp 44) rfl rfl 32 inn rfl rfl zero_r32 size_r32 HIL.out ?_
           intro w5 hb5 hI5 _
           have hOy5 := hOy.on hb5
           have hR5 := hR4.on hb5
           have hB5 := below_then hB4 hb5
           have hs5 := Nat.le_trans hs4 hb5.size
           generalize w4.heap.size = gi at *
           clear hb5)
        | (at_builtin
           refine append_but rfl (.tmp 45) (.tmp 46) rfl wc.heap.size gy 64 64 py inn w5.heap.size (some ⟨gi, 0, none⟩) 32 32 rfl hOy5 rfl HIL.out (fun h => by cases h) hI5.all (by rw [HPY.out]; omega) hs5 ?_
           intro v6 w6 hown6 hbut6))
      have hR6 := hR5.but hbut6 (by omega)
      have hB6 := hB5.trans (hbut6.below (by omega) hB5.size)
      obtain ⟨A6, c6, hv6, _, hA6, hRy⟩ := hown6.form
      obtain ⟨L6, hL6⟩ : ∃ L6, (py ++ inn).length = L6 := ⟨_, rfl⟩
      rw [hL6] at hv6
      have hLm6 : L6 ≤ 96 := by rw [List.length_append, HPY.out, HIL.out] at hL6; omega
      replace hL6 := Lib.hid hL6
      subst hv6
      clear hR5 hB5 hown6 hbut6
      refine (refSum_any A6 c6 L6 (py ++ inn) w6 hL6.out hRy hA6 (by omega)).mono ?_
      rintro e w7 ⟨rfl, hb7⟩
      rw [HOUT.out]
      have hR7 := hR6.on hb7
      have hB7 := below_then hB6 hb7
      go_wp2_with (first
        | (refine set_step rfl 29 _ _ rfl w.heap.size 32 _ (macSum key b) rfl rfl hR7 (by simp) size_r32 HSL.out ?_
           intro w8 hb8 hR8 _))
      exact ret_hash Tryd.results10 w.heap.size _ rfl hR8 Tryd.underlying29 size_r32 HSL.out rfl ⟨rfl, hB7.trans (hb8.below (Nat.le_refl _) hB7.size)⟩
end Go.Proofs.YtmhelmmonkgmmaaDoor
namespace Go.Proofs.YtmhelmmonkgmmaaDoor
open Go.RowKit
/-- The parts of which a block is the code, as the statement lays them. -/
theorem chain_world (w : World) (a b : Value) (x y : List UInt8) (u : UInt8) (ha : Part w w.heap.size a x) (hb : Part w w.heap.size b y) :
    ∃ w', w' = (w.alloc (.cells #[cellOf u] 5)).alloc (.cells #[a, b, .slice (some ⟨w.heap.size, 0, none⟩) 1 1] 22) ∧ Below w.heap.size w w' ∧ Parts w' w'.heap.size (some ⟨w.heap.size + 1, 0, none⟩) [x, y, [u]] := by
  have b1 : Below w.heap.size w (w.alloc (.cells #[cellOf u] 5)) := (Below.refl _ _).alloc (Nat.le_refl _) _
  have z1 : (w.alloc (.cells #[cellOf u] 5)).heap.size = w.heap.size + 1 := by simp
  have r1 : Row (w.alloc (.cells #[cellOf u] 5)) (w.alloc (.cells #[cellOf u] 5)).heap.size (some ⟨w.heap.size, 0, none⟩) [u] := by rw [z1]; exact row_lit w [u] (0, 0)
  generalize w.alloc (.cells #[cellOf u] 5) = w1 at *
  have b2 : Below w1.heap.size w1 (w1.alloc (.cells #[a, b, .slice (some ⟨w.heap.size, 0, none⟩) 1 1] 22)) := (Below.refl _ _).alloc (Nat.le_refl _) _
  have p2 := parts_three w1 a b (.slice (some ⟨w.heap.size, 0, none⟩) 1 1) x y [u] (ha.on b1) (hb.on b1) (.mk rfl r1 (fun h => by cases h) (Nat.le_refl _) (by unfold maxLen; omega))
  rw [z1] at p2
  exact ⟨_, rfl, below_then b1 b2, p2⟩
set_option maxRecDepth 100000 in
set_option maxHeartbeats 800000 in
theorem chained_any (A B : Option Addr) (c n d m x : Nat) (key info : List UInt8) (w : World) (hK : Tabs w) (hg : 21 ≤ w.heap.size) (hl : key.length = n) (hr : Row w w.heap.size A key) (hA : A = none → c = 0) (hc : n ≤ c) (hc2 : c ≤ maxLen) (hn : n ≤ 900000)
    (hbl : info.length = m) (hb : Row w w.heap.size B info) (hB : B = none → d = 0) (hd : m ≤ d) (hd2 : d ≤ maxLen) (hm : m ≤ 700000) (hx : x ≤ 8160) :
    Calls Tryd.prog 20 #[.slice A n c, .slice B m d, .int .i64 (x : Int)] w (Gives w (hkdf key info x) x) := by
  have HL := Lib.hid hl
  have HBL := Lib.hid hbl
  clear hl hbl
  go_enter Tryd.func20, Tryd.ntmps20
  go_wp2
  refine wp_scope_once 0 (fun a' w' => ∃ (k g l cap n8 c8 : Nat) (A8 : Option Addr) (u10 u11 u12 u13 u14 u15 u16 u17 u18 u19 u20 u21 u22 u23 u24 u25 u26 u27 u28 u29 u30 u31 u32 u33 u34 u35 : Value), k ≤ 255 ∧ l = min x (32 * k) ∧ Below w.heap.size w w' ∧ g < w'.heap.size ∧ Owns w' w.heap.size (.slice (some ⟨g, 0, none⟩) l cap) (hkTo key info x k) ∧ Part w' w'.heap.size (.slice A8 n8 c8) (hkT key info k) ∧
      a' = { tmps := #[.slice A n c, .slice B m d, .int .i64 (x : Int), undef, undef, undef, .slice none 0 0, .slice (some ⟨g, 0, none⟩) l cap, .slice A8 n8 c8, .int .u8 (k : Int), u10, u11, u12, u13, u14, u15, u16, u17, u18, u19, u20, u21, u22, u23, u24, u25, u26, u27, u28, u29, u30, u31, u32, u33, u34, u35, undef], defers := [] })
    (fun a' _ => x - lenOf (a'.tmps.getD 7 undef)) rfl ?_ ?_
  · intro hp
    go_wp2_with (first
      | (refine make_step rfl _ _ rfl 0 x rfl rfl (Nat.zero_le _) (by omega) ?_
         intro w0 hB0 hM0 hz0))
    go_step3
    rename_i K hK
    refine hK _ _ (hp.out _ _ ⟨0, w.heap.size, 0, x, 0, 0, none, _, _, _, _, _, _, _, _, _, _, _, _, _, _, _, _, _, _, _, _, _, _, _, _, _, _, Nat.zero_le _, by omega, hB0, by omega, ?_, ?_, rfl⟩)
    · rw [hkTo_zero]
      have h := (made_owns (base := w.heap.size) hM0 (Nat.le_refl _) (by rw [List.length_replicate]; omega)).cutTo 0 (Nat.zero_le _)
      rw [List.length_replicate, List.take_zero] at h
      exact h
    · exact .mk rfl .nil (fun _ => rfl) (Nat.le_refl _) (Nat.zero_le _)
  · rintro a' w' ⟨k, g, l, cap, n8, c8, A8, u10, u11, u12, u13, u14, u15, u16, u17, u18, u19, u20, u21, u22, u23, u24, u25, u26, u27, u28, u29, u30, u31, u32, u33, u34, u35, hk, hl, hB1, hgl, hO1, hP1, rfl⟩
    by_cases hlt : 32 * k < x
    · have HLK : Hid (l = 32 * k) := by show _ = _; omega
      have i1 : (l : Int) < (x : Int) := by omega
      have HLT := Lib.hid hlt
      obtain ⟨w2, hw2, hB2, hP2⟩ := chain_world w' (.slice A8 n8 c8) (.slice B m d) (hkT key info k) info (UInt8.ofNat (k + 1)) hP1 (.mk HBL.out (hb.on hB1) hB hd hd2)
      have e1 : cellOf (UInt8.ofNat (k + 1)) = .int .u8 (((k : Int) + 1) % 256) := by
        show Value.int .u8 _ = _
        rw [UInt8.toNat_ofNat']
        congr 1
      rw [e1] at hw2
      have HW2 := Lib.hid hw2
      have HB2 := Lib.hid (below_then hB1 hB2)
      have HO2 := Lib.hid (hO1.on hB2)
      have HG2 : Hid (g < w2.heap.size) := Nat.lt_of_lt_of_le hgl hB2.size
      have HP2 := Lib.hid hP2
      have HFL : Hid ([hkT key info k, info, [UInt8.ofNat (k + 1)]].flatten.length ≤ 800000) := by
        show _ ≤ _
        have h1 := hkT_le key info k
        have h2 := HBL.out
        simp only [List.flatten_cons, List.flatten_nil, List.length_append, List.length_cons, List.length_nil]
        omega
      have HT : Hid (macSum key [hkT key info k, info, [UInt8.ofNat (k + 1)]].flatten = hkT key info (k + 1)) := by
        show _ = _
        rw [hkT_next]; simp
      have HTL := Lib.hid (hkT_length key info k)
      have HON := Lib.hid (hkTo_next key info x k hlt)
      have HOL := Lib.hid (hkTo_length key info x k)
      clear hl hlt e1 hw2 hB1 hB2 hgl hO1 hP1 hP2
      go_wp2_with fail
      rw [← HW2.out]
      clear HW2
      have hB2 := HB2.out
      refine (macSum_any A _ c n 3 3 key _ w2 (hK.below hB2) (by have := hB2.size; omega) HL.out (hr.on hB2) hA hc hc2 hn rfl HP2.out (by omega) HFL.out).mono ?_
      rintro e w3 ⟨rfl, hb3⟩
      rw [HT.out]
      have hB3 := below_then hB2 hb3
      have hO3 := HO2.out.on hb3
      have hg3 : g < w3.heap.size := Nat.lt_of_lt_of_le HG2.out hb3.size
      clear HB2 HO2 HG2 HP2 HFL HT hB2 hb3
      generalize htk : hkT key info (k + 1) = tk at *
      replace htk := Lib.hid htk
      obtain ⟨q, hq⟩ : ∃ q, min 32 (x - 32 * k) = q := ⟨_, rfl⟩
      have HQ := Lib.hid hq
      clear hq
      go_wp2_with (first
        | (refine put_step rfl rfl 30 (.tmp 10) (.tmp 25) rfl rfl 32 tk rfl rfl zero_h32 size_h32 HTL.out ?_
           intro w4 hb4 hC4 hz4
           have hB4 := below_then hB3 hb4
           have hO4 := hO3.on hb4
           clear hb4)
        | (refine min_step rfl _ (.tmp 32) rfl 32 _ q rfl rfl ?_ ?_
           · have := HQ.out; have := HLK.out; omega)
        | (refine cut_to rfl (.tmp 28) (.tmp 33) rfl (some ⟨w3.heap.size, 0, none⟩) 32 32 q _ rfl rfl rfl (by have := HQ.out; omega) ?_
           rw [cutA_zero])
        | (at_builtin
           refine append_but rfl (.tmp 27) (.tmp 34) rfl w.heap.size g l cap (hkTo key info x k) (tk.take q) w4.heap.size (some ⟨w3.heap.size, 0, none⟩) 32 q rfl hO4 rfl (by rw [List.length_take, HTL.out]; have := HQ.out; omega) (fun h => by cases h) (hC4.all.take q) (by rw [HOL.out]; have := HQ.out; omega) hB4.size ?_
           intro v5 w5 hO5 hbut5))
      have HE : Hid (hkTo key info x k ++ tk.take q = hkTo key info x (k + 1)) := by show _ = _; rw [HON.out, HQ.out]
      rw [HE.out] at hO5
      have hlt := HLT.out
      obtain ⟨g5, c5, hv5, hc5, hm5, hg5, hR5⟩ := hO5.form_pos (by rw [hkTo_length]; omega)
      rw [hkTo_length] at hv5
      subst hv5
      have hgb : w.heap.size ≤ g := hO4.far g rfl
      have e2 : ((k : Int) + 1) % 256 = ((k + 1 : Nat) : Int) := by omega
      rw [e2]
      go_step3
      have hl := HLK.out
      refine ⟨rfl, ⟨k + 1, g5, _, c5, 32, 32, some ⟨w3.heap.size, 0, none⟩, _, _, _, _, _, _, _, _, _, _, _, _, _, _, _, _, _, _, _, _, _, _, _, _, _, _, by omega, rfl, hB4.trans (hbut5.below hgb hB4.size), ?_, hO5, ?_, rfl⟩, ?_⟩
      · exact (World.ownsRow.lt hO5 g5 rfl).2
      · rw [htk.out]
        exact .mk HTL.out (hC4.all.but hbut5 (fun _ p hp => by cases hp; show w3.heap.size ≠ g; omega)) (fun h => by cases h) (Nat.le_refl _) (by unfold maxLen; omega)
      · show x - lenOf (Value.slice _ _ _) < x - lenOf (Value.slice _ _ _)
        simp only [lenOf]
        omega
    · obtain rfl : l = x := by omega
      have i1 : ¬ (l : Int) < (l : Int) := by omega
      rw [hkTo_end key info l k hk (by omega)] at hO1
      have HR := Lib.hid (hkdf_length key info l hx)
      clear hl hlt
      go_wp2
      simp only [Exit.jump]
      go_ret
      obtain ⟨A', c', hv, h1, h2, h3, h4⟩ := hO1.form2
      rw [HR.out] at hv h1
      exact ⟨A', c', by rw [← hv]; rfl, h3, h1, h2, h4, hB1⟩
end Go.Proofs.YtmhelmmonkgmmaaDoor
namespace Go.Proofs.YtmhelmmonkgmmaaDoor
open Go.RowKit
/-- What a call answers that makes a row of these bytes, and no error. -/
def GivesOk (w : World) (bs : List UInt8) (n : Nat) (e : Ending) (w' : World) : Prop :=
  ∃ A c, e = .returned (.tuple #[.slice A n c, .nilIface]) ∧ (A = none → c = 0) ∧ n ≤ c ∧ c ≤ maxLen ∧ Row w' w'.heap.size A bs ∧ Below w.heap.size w w'
set_option maxRecDepth 100000 in
theorem expand_any (A B : Option Addr) (c n d m x : Nat) (key info : List UInt8) (w : World) (hK : Tabs w) (hg : 21 ≤ w.heap.size) (hl : key.length = n) (hr : Row w w.heap.size A key) (hA : A = none → c = 0) (hc : n ≤ c) (hc2 : c ≤ maxLen) (hn : n ≤ 900000)
    (hbl : info.length = m) (hb : Row w w.heap.size B info) (hB : B = none → d = 0) (hd : m ≤ d) (hd2 : d ≤ maxLen) (hm : m ≤ 65536) (hx : x ≤ 8160) :
    Calls Tryd.prog 8 #[.slice A n c, .slice B m d, .int .i64 (x : Int)] w (GivesOk w (hkdf key info x) x) := by
  have i1 : ¬ (x : Int) < 0 := by omega
  have i2 : ¬ (8160 : Int) < (x : Int) := by omega
  have i3 : ¬ (65536 : Int) < (m : Int) := by omega
  have HL := Lib.hid hl
  have HBL := Lib.hid hbl
  clear hl hbl
  go_enter Tryd.func8, Tryd.ntmps8
  go_wp2_with fail
  refine (chained_any A B c n d m x key info w hK hg HL.out hr hA hc hc2 hn HBL.out hb hB hd hd2 (by omega) hx).mono ?_
  rintro e w1 ⟨A', c', rfl, h1, h2, h3, h4, h5⟩
  generalize hkdf key info x = bs at *
  go_wp2
  go_ret2
  exact ⟨A', c', rfl, h1, h2, h3, h4, h5⟩
set_option maxRecDepth 100000 in
theorem expand_out (A B : Option Addr) (c n d m : Nat) (x : Int) (E : Value) (w : World) (hx : x < 0 ∨ 8160 < x) (hE : w.cell? ⟨0, 0, none⟩ = some E) :
    Calls Tryd.prog 8 #[.slice A n c, .slice B m d, .int .i64 x] w fun e w' => e = .returned (.tuple #[.slice none 0 0, E]) ∧ ∃ n, w' = w.drewN n := by
  by_cases h : x < 0
  all_goals
    try have h2 : 8160 < x := by omega
    clear hx
    go_enter Tryd.func8, Tryd.ntmps8
    go_wp2
    go_quiet (fail)
    go_wp2
    go_ret2
    exact ⟨rfl, _, rfl⟩
set_option maxRecDepth 100000 in
set_option maxHeartbeats 800000 in
theorem extract_any (A B : Option Addr) (c n d m : Nat) (key b : List UInt8) (w : World) (hK : Tabs w) (hg : 21 ≤ w.heap.size) (hl : key.length = n) (hr : Row w w.heap.size A key) (hA : A = none → c = 0) (hc : n ≤ c) (hc2 : c ≤ maxLen) (hn : n ≤ 900000)
    (hbl : b.length = m) (hb : Row w w.heap.size B b) (hB : B = none → d = 0) (hd : m ≤ d) (hd2 : d ≤ maxLen) (hm : m ≤ 800000) :
    Calls Tryd.prog 9 #[.slice A n c, .slice B m d] w fun e w' => e = .returned (hashVal (macSum key b)) ∧ Below w.heap.size w w' := by
  have HL := Lib.hid hl
  have HBL := Lib.hid hbl
  clear hl hbl
  have HSL := Lib.hid (macSum_length key b)
  go_enter Tryd.func9, Tryd.ntmps9
  go_wp2_with (first
    | (refine zero_step rfl 30 rfl 32 zero_h32 ?_
       intro w0 hB0 hR0 hz0
       clear hz0
       have HP0 := Lib.hid (parts_one w0 B m d b HBL.out (hb.on hB0) hB hd hd2)
       have HB0 : Hid (Below w0.heap.size w0 (w0.alloc (.cells #[.slice B m d] 22))) := (Below.refl _ _).alloc (Nat.le_refl _) _))
  generalize w0.alloc (.cells #[.slice B m d] 22) = w1 at *
  have hB1 := below_then hB0 HB0.out
  have hR1 := hR0.on HB0.out
  refine (macSum_any A _ c n 1 1 key [b] w1 (hK.below hB1) (by have := hB1.size; omega) HL.out (hr.on hB1) hA hc hc2 hn rfl HP0.out (by omega) (by simp [HBL.out]; omega)).mono ?_
  rintro e w2 ⟨rfl, hb2⟩
  rw [show [b].flatten = b by simp]
  have hB2 := below_then hB1 hb2
  have hR2 := hR1.on hb2
  clear hB0 hR0 HP0 HB0 hB1 hR1 hb2
  go_wp2_with (first
    | (refine set_step rfl 30 _ _ rfl w.heap.size 32 _ (macSum key b) rfl rfl hR2 (by simp) size_h32 HSL.out ?_
       intro w3 hb3 hR3 _))
  exact ret_hash Tryd.results9 w.heap.size _ rfl hR3 Tryd.underlying30 size_h32 HSL.out rfl ⟨rfl, hB2.trans (hb3.below (Nat.le_refl _) hB2.size)⟩
end Go.Proofs.YtmhelmmonkgmmaaDoor
namespace Go.Proofs.YtmhelmmonkgmmaaDoor
open Go.RowKit
set_option maxRecDepth 100000 in
theorem twoBytes_any (n : Nat) (w : World) (hn : n ≤ 65535) :
    Calls Tryd.prog 25 #[.int .i64 (n : Int)] w fun e w' => e = .returned (.slice (some ⟨w.heap.size, 0, none⟩) 2 2) ∧ Below w.heap.size w w' ∧ Row w' w'.heap.size (some ⟨w.heap.size, 0, none⟩) (two8 n) := by
  go_enter Tryd.func25, Tryd.ntmps25
  go_wp2
  have e : (#[.int .u8 ((n : Int) / 256), .int .u8 ((n : Int) % 256)] : Array Value) = ((two8 n).map cellOf).toArray := by
    have h1 : cellOf (UInt8.ofNat (n / 256)) = .int .u8 ((n : Int) / 256) := by
      show Value.int .u8 _ = _
      rw [UInt8.toNat_ofNat']
      congr 1
      omega
    have h2 : cellOf (UInt8.ofNat n) = .int .u8 ((n : Int) % 256) := by
      show Value.int .u8 _ = _
      rw [UInt8.toNat_ofNat']
      congr 1
    rw [two8, List.map_cons, List.map_cons, List.map_nil, h1, h2]
  rw [e]
  go_ret
  exact ⟨rfl, (Below.refl _ _).alloc (Nat.le_refl _) _, by rw [World.size_alloc]; exact row_lit w (two8 n) (0, 0)⟩
set_option maxRecDepth 100000 in
set_option maxHeartbeats 800000 in
theorem info_any (B : Option Addr) (d m n x : Nat) (lb ctx : List UInt8) (w : World) (hl : lb.length = n) (hn : n ≤ 200) (hbl : ctx.length = m) (hb : Row w w.heap.size B ctx) (hB : B = none → d = 0) (hd : m ≤ d) (hd2 : d ≤ maxLen) (hm : m ≤ 16384) (hx : x ≤ 8160) :
    Calls Tryd.prog 14 #[.string (str lb), .slice B m d, .int .i64 (x : Int)] w (GivesOk w (infoL lb ctx x) (16 + n + m)) := by
  have i1 : ¬ (x : Int) < 0 := by omega
  have i2 : ¬ (8160 : Int) < (x : Int) := by omega
  have HL := Lib.hid hl
  have HBL := Lib.hid hbl
  have hsz : (str lb).size = n := by rw [str_size, hl]
  have i3 : ¬ (200 : Int) < (n : Int) := by omega
  have i4 : ¬ (16384 : Int) < (m : Int) := by omega
  clear hl hbl
  go_enter Tryd.func14, Tryd.ntmps14
  have HE : Hid (({ data := #[102, 101, 108, 108, 111, 119, 115, 104, 105, 112, 32] } : ByteArray) ++ str lb = str (labelPre ++ lb)) := str_append labelPre lb
  have HNL : Hid ((labelPre ++ lb).length = 11 + n) := by show _ = _; rw [List.length_append, HL.out]; rfl
  have HTL : Hid ([two8 x, [UInt8.ofNat (11 + n)], labelPre ++ lb, two8 m, ctx].flatten.length = 16 + n + m) := by
    show _ = _
    simp only [List.flatten_cons, List.flatten_nil, List.length_append, HL.out, HBL.out, two8, labelPre, List.length_cons, List.length_nil]
    omega
  have HIE : Hid ([two8 x, [UInt8.ofNat (11 + n)], labelPre ++ lb, two8 m, ctx].flatten = infoL lb ctx x) := by
    show _ = _
    rw [infoL, HL.out, HBL.out]
    simp
  go_wp2_with fail
  rw [HE.out]
  clear HE hsz
  refine (twoBytes_any x w (by omega)).mono ?_
  rintro e w1 ⟨rfl, hB1, hR1⟩
  generalize hnm : labelPre ++ lb = name at *
  replace hnm := Lib.hid hnm
  have hsz : (str name).size = 11 + n := by rw [str_size, HNL.out]
  have e8 : cellOf (UInt8.ofNat (11 + n)) = .int .u8 ((11 : Int) + (n : Int)) := by
    show Value.int .u8 _ = _
    rw [UInt8.toNat_ofNat']
    congr 1
    omega
  have HE8 := Lib.hid e8
  clear e8
  have hB2 : Below w1.heap.size w1 (w1.alloc (.cells #[.int .u8 ((11 : Int) + (n : Int))] 5)) := (Below.refl _ _).alloc (Nat.le_refl _) _
  have hR2 : Row (w1.alloc (.cells #[.int .u8 ((11 : Int) + (n : Int))] 5)) (w1.alloc (.cells #[.int .u8 ((11 : Int) + (n : Int))] 5)).heap.size (some ⟨w1.heap.size, 0, none⟩) [UInt8.ofNat (11 + n)] := by
    rw [World.size_alloc, ← HE8.out]
    exact row_lit w1 [UInt8.ofNat (11 + n)] (0, 0)
  have HB2 := Lib.hid hB2
  have HR2 := Lib.hid hR2
  clear hB2 hR2
  go_wp2_with (first
    | (generalize w1.alloc (.cells #[.int .u8 ((11 : Int) + (n : Int))] 5) = w2 at *
       refine bytes_step rfl (.tmp 33) rfl (11 + n) name HNL.out rfl (by omega) ?_
       intro w3 c3 hb3 hR3 hz3 hc3 hm3
       clear hz3
       have hb13 := below_then HB2.out hb3
       have HP1 := Lib.hid (Part.mk (c := 2) rfl (hR1.on hb13) (fun h => by cases h) (Nat.le_refl _) (by unfold maxLen; omega))
       have HP2 := Lib.hid (Part.mk (c := 1) rfl (HR2.out.on hb3) (fun h => by cases h) (Nat.le_refl _) (by unfold maxLen; omega))
       have HP3 := Lib.hid (Part.mk HNL.out hR3 (fun h => by cases h) hc3 hm3)
       have hB3 := below_then hB1 hb13
       clear hb13 HB2 HR2 hb3 hR3 hR1 hB1
       generalize w1.heap.size = g1 at *
       generalize w2.heap.size = g2 at *))
  refine (twoBytes_any m w3 (by omega)).mono ?_
  rintro e w4 ⟨rfl, hb4, hR4⟩
  have hB4 := below_then hB3 hb4
  have HP6 := Lib.hid (parts_five w4 _ _ _ _ (.slice B m d) _ _ _ _ _ (HP1.out.on hb4) (HP2.out.on hb4) (HP3.out.on hb4) (Part.mk (c := 2) rfl hR4 (fun h => by cases h) (Nat.le_refl _) (by unfold maxLen; omega)) (.mk HBL.out (hb.on hB4) hB hd hd2))
  have HB6 : Hid (Below w4.heap.size w4 (w4.alloc (.cells #[.slice (some ⟨w.heap.size, 0, none⟩) 2 2, .slice (some ⟨g1, 0, none⟩) 1 1, .slice (some ⟨g2, 0, none⟩) (11 + n) c3, .slice (some ⟨w3.heap.size, 0, none⟩) 2 2, .slice B m d] 22))) := (Below.refl _ _).alloc (Nat.le_refl _) _
  have e2 : (two8 x).length = 2 := rfl
  have e1 : [UInt8.ofNat (11 + n)].length = 1 := rfl
  have e3 : (two8 m).length = 2 := rfl
  rw [e2, e1, e3] at HP6
  clear HP1 HP2 HP3 hb4 hR4 hB3 hsz
  go_wp2_with fail
  generalize w4.alloc (.cells #[.slice (some ⟨w.heap.size, 0, none⟩) 2 2, .slice (some ⟨g1, 0, none⟩) 1 1, .slice (some ⟨g2, 0, none⟩) (11 + n) c3, .slice (some ⟨w3.heap.size, 0, none⟩) 2 2, .slice B m d] 22) = w5 at *
  have hB5 := below_then hB4 HB6.out
  refine (concat_any _ 5 5 (16 + n + m) _ w5 rfl HP6.out (by omega) HTL.out (by omega)).mono ?_
  rintro e w6 ⟨A', c', rfl, h1, h2, h3, h4, h5⟩
  rw [HIE.out] at h4
  have hB6 := below_then hB5 h5
  clear HTL HIE HP6 HB6 hB4 hB5 h5
  generalize infoL lb ctx x = bs at *
  go_wp2
  go_ret2
  exact ⟨A', c', rfl, h1, h2, h3, h4, hB6⟩
set_option maxRecDepth 100000 in
theorem info_out (B : Option Addr) (d m : Nat) (s : ByteArray) (x : Int) (E : Value) (w : World) (hx : x < 0 ∨ 8160 < x) (hE : w.cell? ⟨0, 0, none⟩ = some E) :
    Calls Tryd.prog 14 #[.string s, .slice B m d, .int .i64 x] w fun e w' => e = .returned (.tuple #[.slice none 0 0, E]) ∧ ∃ n, w' = w.drewN n := by
  by_cases h : x < 0
  all_goals
    try have h2 : 8160 < x := by omega
    clear hx
    go_enter Tryd.func14, Tryd.ntmps14
    go_wp2
    go_quiet (fail)
    go_wp2
    go_ret2
    exact ⟨rfl, _, rfl⟩
set_option maxRecDepth 100000 in
theorem info_long (B : Option Addr) (d m n x : Nat) (lb : List UInt8) (E : Value) (w : World) (hl : lb.length = n) (h : 200 < n ∨ 16384 < m) (hx : x ≤ 8160) (hE : w.cell? ⟨1, 0, none⟩ = some E) :
    Calls Tryd.prog 14 #[.string (str lb), .slice B m d, .int .i64 (x : Int)] w fun e w' => e = .returned (.tuple #[.slice none 0 0, E]) ∧ ∃ n, w' = w.drewN n := by
  have i1 : ¬ (x : Int) < 0 := by omega
  have i2 : ¬ (8160 : Int) < (x : Int) := by omega
  have hsz : (str lb).size = n := by rw [str_size, hl]
  by_cases h2 : (200 : Int) < (n : Int)
  all_goals
    try have h3 : (16384 : Int) < (m : Int) := by omega
    clear h hl
    go_enter Tryd.func14, Tryd.ntmps14
    go_wp2
    go_quiet (fail)
    go_wp2
    go_ret2
    exact ⟨rfl, _, rfl⟩
end Go.Proofs.YtmhelmmonkgmmaaDoor
