/- The document's own SHA-256: the digest of a message. -/
import Derived.Test.YtmhelmmonkgmmaaDoorRSha2
import Derived.Test.YtmhelmmonkgmmaaDoorRSha3
import Derived.Test.YtmhelmmonkgmmaaDoorRSha4
import Derived.Test.YtmhelmmonkgmmaaDoorRSha5
namespace Go.Proofs.YtmhelmmonkgmmaaDoor
open Go.RowKit
/-- At the outer loop's head: k blocks are done. -/
def I1 (w : World) (gk gh gm cm N : Nat) (ms : List UInt8) (a : Act) (wr : World) : Prop :=
  ∃ k : Nat, k ≤ N ∧ Fr 271 ([(6, .int .i64 ((64 * k : Nat) : Int))] ++ baseSlots w gk gh gm cm N) a ∧ RW w wr gk gh gm ((shaChain ms k).list.map wcell) ms
def mu1 (N : Nat) (a : Act) (_ : World) : Nat := 64 * N - (intOf (a.tmps.getD 6 undef)).toNat
set_option maxRecDepth 100000 in
set_option maxHeartbeats 4000000 in
theorem round1 (w wr : World) (gk gh gm cm N k : Nat) (ms : List UInt8) (a : Act) (Q0 : Exit → Act → World → Prop) (hN : N ≤ 20000) (hml : ms.length = 64 * N) (hk : k < N)
    (hF : Fr 271 ([(6, .int .i64 ((64 * k : Nat) : Int))] ++ baseSlots w gk gh gm cm N) a) (hW : RW w wr gk gh gm ((shaChain ms k).list.map wcell) ms) :
    Code.wp Tryd.prog (refBody 0) (Exit.then (fun a' w' => I1 w gk gh gm cm N ms a' w' ∧ mu1 N a' w' < mu1 N a wr) Q0) a wr := by
  have hmk := make_words 64 (by omega)
  have e64 : ((64 : Nat) : Int) = 64 := rfl
  rw [e64] at hmk
  clear e64
  have HC : Hid (shaChain ms (k + 1) = shaBlock (shaChain ms k) ((ms.drop (64 * k)).take 64)) := rfl
  have HML := Lib.hid hml
  have HP : Hid (64 * k + 64 ≤ 64 * N) := by show _ ≤ _; omega
  have hk2 : ((64 * k : Nat) : Int) < 64 * (N : Int) := by omega
  have hat : 64 * k ≤ 2000000 := by omega
  have HK := Lib.hid hk
  clear hml hk
  generalize hbk : (ms.drop (64 * k)).take 64 = bk at *
  replace hbk := Lib.hid hbk
  generalize shaChain ms k = oo at *
  generalize hpo : 64 * k = p0 at *
  replace hpo := Lib.hid hpo
  obtain ⟨hs0, hd0, h6, h2, h3, h4, h5, -⟩ := hF
  obtain ⟨u, rfl⟩ := frame271 a hs0 hd0
  clear hs0 hd0
  change u 6 = _ at h6
  change u 2 = _ at h2
  change u 3 = _ at h3
  change u 4 = _ at h4
  change u 5 = _ at h5
  rw [h6, h2, h3, h4, h5]
  clear h6 h2 h3 h4 h5
  conv => arg 2; whnf
  go_wp2_with fail
  have hW1 := hW.alloc (.cells (wzeros 64).toArray 61)
  have hS1 : Cells (wr.alloc (.cells (wzeros 64).toArray 61)) wr.heap.size (spreadTo bk 0) 61 := by
    have := Cells.new wr (wzeros 64).toArray 61
    simpa [spreadTo, shaSpread, wzeros] using this
  have hgw := hW.o4
  generalize wr.alloc (.cells (wzeros 64).toArray 61) = w4 at *
  generalize wr.heap.size = gw at *
  clear hW hmk
  refine loop2 w w4 gk gh gm cm N gw p0 (oo.list.map wcell) ms bk _ _ hN HML.out HP.out hgw (by rw [← hbk.out]) ⟨0, by omega, ⟨rfl, rfl, rfl, rfl, rfl, rfl, rfl, rfl, rfl, trivial⟩, hW1, hS1⟩ ?_
  clear hW1 hS1
  rintro a5 w5 ⟨hF, hW, hS⟩
  obtain ⟨hs0, hd0, h6, h7, h2, h3, h4, h5, -⟩ := hF
  obtain ⟨u, rfl⟩ := frame271 a5 hs0 hd0
  clear hs0 hd0
  change u 6 = _ at h6
  change u 7 = _ at h7
  change u 2 = _ at h2
  change u 3 = _ at h3
  change u 4 = _ at h4
  change u 5 = _ at h5
  rw [h6, h7, h2, h3, h4, h5]
  clear h6 h7 h2 h3 h4 h5
  have HWS : Hid (spreadTo bk 64 = (shaSpread bk 64).map wcell) := by show _ = _; simp [spreadTo]
  rw [HWS.out] at hS
  have HWL := Lib.hid (shaSpread_length bk 64)
  have HBL : Hid (shaBlock oo bk = oo.plus (shaRounds oo (shaSpread bk 64) 64)) := rfl
  generalize shaSpread bk 64 = ws at *
  have c0 := hW.ch.get (j := 0) (v := wcell oo.a) rfl
  have c1 := hW.ch.get (j := 1) (v := wcell oo.b) rfl
  have c2 := hW.ch.get (j := 2) (v := wcell oo.c) rfl
  have c3 := hW.ch.get (j := 3) (v := wcell oo.d) rfl
  have c4 := hW.ch.get (j := 4) (v := wcell oo.e) rfl
  have c5 := hW.ch.get (j := 5) (v := wcell oo.f) rfl
  have c6 := hW.ch.get (j := 6) (v := wcell oo.g) rfl
  have c7 := hW.ch.get (j := 7) (v := wcell oo.h) rfl
  go_wp2_with fail
  go_quiet (fail)
  have hW1 := hW.drewN nq
  have hS1 := hS.drewN nq
  clear hW hS c0 c1 c2 c3 c4 c5 c6 c7
  generalize w5.drewN nq = w6 at *
  go_wp2_with fail
  refine loop3 w w6 gk gh gm cm N gw p0 oo ws ms _ _ HWL.out ⟨0, by omega, ⟨rfl, rfl, rfl, rfl, rfl, rfl, rfl, rfl, rfl, rfl, rfl, rfl, rfl, rfl, rfl, rfl, rfl, trivial⟩, hW1, hS1⟩ ?_
  clear hW1 hS1
  generalize shaRounds oo ws 64 = q at *
  rintro a7 w7 ⟨hF, hW, hS⟩
  obtain ⟨hs0, hd0, h6, h7, h12, h13, h14, h15, h16, h17, h18, h19, h2, h3, h4, h5, -⟩ := hF
  obtain ⟨u, rfl⟩ := frame271 a7 hs0 hd0
  clear hs0 hd0
  change u 6 = _ at h6
  change u 7 = _ at h7
  change u 12 = _ at h12
  change u 13 = _ at h13
  change u 14 = _ at h14
  change u 15 = _ at h15
  change u 16 = _ at h16
  change u 17 = _ at h17
  change u 18 = _ at h18
  change u 19 = _ at h19
  change u 2 = _ at h2
  change u 3 = _ at h3
  change u 4 = _ at h4
  change u 5 = _ at h5
  rw [h6, h7, h12, h13, h14, h15, h16, h17, h18, h19, h2, h3, h4, h5]
  clear h6 h7 h12 h13 h14 h15 h16 h17 h18 h19 h2 h3 h4 h5
  go_wp2_with fail
  have hG1 : Cells (w7.alloc (.cells #[wcell q.a, wcell q.b, wcell q.c, wcell q.d, wcell q.e, wcell q.f, wcell q.g, wcell q.h] 61)) w7.heap.size (q.list.map wcell) 61 := Cells.new w7 (q.list.map wcell).toArray 61
  have hW1 := hW.alloc (.cells #[wcell q.a, wcell q.b, wcell q.c, wcell q.d, wcell q.e, wcell q.f, wcell q.g, wcell q.h] 61)
  have hgx := hW.o4
  generalize w7.alloc (.cells #[wcell q.a, wcell q.b, wcell q.c, wcell q.d, wcell q.e, wcell q.f, wcell q.g, wcell q.h] 61) = w8 at *
  generalize w7.heap.size = gx at *
  clear hW hS
  refine loop4 w w8 gk gh gm cm N gx p0 oo q ms _ _ hgx ⟨0, by omega, ⟨rfl, rfl, rfl, rfl, rfl, rfl, rfl, rfl, rfl, rfl, trivial⟩, hW1, hG1⟩ ?_
  clear hW1 hG1
  rintro a9 w9 ⟨hF, hW⟩
  obtain ⟨hs0, hd0, h6, h2, h3, h4, h5, -⟩ := hF
  obtain ⟨u, rfl⟩ := frame271 a9 hs0 hd0
  clear hs0 hd0
  change u 6 = _ at h6
  change u 2 = _ at h2
  change u 3 = _ at h3
  change u 4 = _ at h4
  change u 5 = _ at h5
  rw [h6, h2, h3, h4, h5]
  clear h6 h2 h3 h4 h5
  go_wp2_with fail
  rw [← HBL.out, ← HC.out] at hW
  have e1 := hpo.out
  have e2 := HK.out
  refine ⟨⟨k + 1, by omega, ⟨rfl, rfl, ?_, rfl, rfl, rfl, rfl, trivial⟩, hW⟩, ?_⟩
  · show Value.int .i64 ((p0 : Int) + 64) = Value.int .i64 ((64 * (k + 1) : Nat) : Int)
    rw [← e1]
    congr 1
  · show 64 * N - ((p0 : Int) + 64).toNat < 64 * N - ((p0 : Int)).toNat
    omega
/-- Behind the outer loop. -/
def X1 (w : World) (gk gh gm cm N : Nat) (ms : List UInt8) (a : Act) (wr : World) : Prop :=
  Fr 271 (baseSlots w gk gh gm cm N) a ∧ RW w wr gk gh gm ((shaChain ms N).list.map wcell) ms
set_option maxRecDepth 100000 in
set_option maxHeartbeats 4000000 in
theorem loop1 (w wr : World) (gk gh gm cm N : Nat) (ms : List UInt8) (a : Act) (Q0 : Exit → Act → World → Prop) (hN : N ≤ 20000) (hml : ms.length = 64 * N)
    (hI : I1 w gk gh gm cm N ms a wr) (hX : ∀ a wr, X1 w gk gh gm cm N ms a wr → Q0 (.exit 0) a wr) : Code.wp Tryd.prog (Code.loop (refBody 0)) Q0 a wr := by
  refine wp_loop (I1 w gk gh gm cm N ms) (mu1 N) hI ?_
  clear hI a wr
  rintro a wr ⟨k, hk, hF, hW⟩
  by_cases h1 : k < N
  · exact round1 w wr gk gh gm cm N k ms a Q0 hN hml h1 hF hW
  obtain rfl : k = N := by omega
  have HX := Lib.hid hX
  have h64 : ¬ ((64 * k : Nat) : Int) < 64 * (k : Int) := by omega
  clear hX hml h1
  obtain ⟨hs0, hd0, h6, h2, h3, h4, h5, -⟩ := hF
  obtain ⟨u, rfl⟩ := frame271 a hs0 hd0
  clear hs0 hd0
  change u 6 = _ at h6
  change u 2 = _ at h2
  change u 3 = _ at h3
  change u 4 = _ at h4
  change u 5 = _ at h5
  rw [h6, h2, h3, h4, h5]
  clear h6 h2 h3 h4 h5
  conv => arg 2; whnf
  go_wp2
  exact HX.out _ _ ⟨⟨rfl, rfl, rfl, rfl, rfl, rfl, trivial⟩, hW⟩
end Go.Proofs.YtmhelmmonkgmmaaDoor
