/- The document's own SHA-512: the digest of a message. -/
import Derived.Test.YtpbkjphdkdlhjaaDoorVR2
import Derived.Test.YtpbkjphdkdlhjaaDoorVR3
import Derived.Test.YtpbkjphdkdlhjaaDoorVR4
import Derived.Test.YtpbkjphdkdlhjaaDoorVR5
namespace Go.Proofs.YtpbkjphdkdlhjaaDoor
open Go.RowKit
/-- At the outer loop's head: k blocks are done. -/
def VI1 (w : World) (gk gh gm cm N : Nat) (ms : List UInt8) (a : Act) (wr : World) : Prop :=
  ∃ k : Nat, k ≤ N ∧ Fr 249 ([(6, .int .i64 ((128 * k : Nat) : Int))] ++ vSlots w gk gh gm cm N) a ∧ VW w wr gk gh gm ((widChain ms k).list.map vcell) ms
def vmu1 (N : Nat) (a : Act) (_ : World) : Nat := 128 * N - (intOf (a.tmps.getD 6 undef)).toNat
set_option maxRecDepth 100000 in
set_option maxHeartbeats 4000000 in
theorem vround1 (w wr : World) (gk gh gm cm N k : Nat) (ms : List UInt8) (a : Act) (Q0 : Exit → Act → World → Prop) (hN : N ≤ 10000) (hml : ms.length = 128 * N) (hk : k < N)
    (hF : Fr 249 ([(6, .int .i64 ((128 * k : Nat) : Int))] ++ vSlots w gk gh gm cm N) a) (hW : VW w wr gk gh gm ((widChain ms k).list.map vcell) ms) :
    Code.wp Tryd.prog (vBody 0) (Exit.then (fun a' w' => VI1 w gk gh gm cm N ms a' w' ∧ vmu1 N a' w' < vmu1 N a wr) Q0) a wr := by
  have hmk := make_words64 80 (by omega)
  have e64 : ((80 : Nat) : Int) = 80 := rfl
  rw [e64] at hmk
  clear e64
  have HC : Hid (widChain ms (k + 1) = widBlock (widChain ms k) ((ms.drop (128 * k)).take 128)) := rfl
  have HML := Lib.hid hml
  have HP : Hid (128 * k + 128 ≤ 128 * N) := by show _ ≤ _; omega
  have hk2 : ((128 * k : Nat) : Int) < 128 * (N : Int) := by omega
  have hat : 128 * k ≤ 2000000 := by omega
  have HK := Lib.hid hk
  clear hml hk
  generalize hbk : (ms.drop (128 * k)).take 128 = bk at *
  replace hbk := Lib.hid hbk
  generalize widChain ms k = oo at *
  generalize hpo : 128 * k = p0 at *
  replace hpo := Lib.hid hpo
  obtain ⟨hs0, hd0, h6, h2, h3, h4, h5, -⟩ := hF
  obtain ⟨u, rfl⟩ := frame249 a hs0 hd0
  clear hs0 hd0
  change u 6 = _ at h6
  change u 2 = _ at h2
  change u 3 = _ at h3
  change u 4 = _ at h4
  change u 5 = _ at h5
  rw [h6, h2, h3, h4, h5]
  clear h6 h2 h3 h4 h5
  conv => arg 2; whnf
  go_wp2_with fail
  have hW1 := hW.alloc (.cells (vzeros 80).toArray 40)
  have hS1 : Cells (wr.alloc (.cells (vzeros 80).toArray 40)) wr.heap.size (wideTo bk 0) 40 := by
    have := Cells.new wr (vzeros 80).toArray 40
    simpa [wideTo, widSpread, vzeros] using this
  have hgw := hW.o4
  generalize wr.alloc (.cells (vzeros 80).toArray 40) = w4 at *
  generalize wr.heap.size = gw at *
  clear hW hmk
  refine vloop2 w w4 gk gh gm cm N gw p0 (oo.list.map vcell) ms bk _ _ hN HML.out HP.out hgw (by rw [← hbk.out]) ⟨0, by omega, ⟨rfl, rfl, rfl, rfl, rfl, rfl, rfl, rfl, rfl, trivial⟩, hW1, hS1⟩ ?_
  clear hW1 hS1
  rintro a5 w5 ⟨hF, hW, hS⟩
  obtain ⟨hs0, hd0, h6, h7, h2, h3, h4, h5, -⟩ := hF
  obtain ⟨u, rfl⟩ := frame249 a5 hs0 hd0
  clear hs0 hd0
  change u 6 = _ at h6
  change u 7 = _ at h7
  change u 2 = _ at h2
  change u 3 = _ at h3
  change u 4 = _ at h4
  change u 5 = _ at h5
  rw [h6, h7, h2, h3, h4, h5]
  clear h6 h7 h2 h3 h4 h5
  have HWS : Hid (wideTo bk 80 = (widSpread bk 80).map vcell) := by show _ = _; simp [wideTo]
  rw [HWS.out] at hS
  have HWL := Lib.hid (widSpread_length bk 80)
  have HBL : Hid (widBlock oo bk = oo.plus (widRounds oo (widSpread bk 80) 80)) := rfl
  generalize widSpread bk 80 = ws at *
  have c0 := hW.ch.get (j := 0) (v := vcell oo.a) rfl
  have c1 := hW.ch.get (j := 1) (v := vcell oo.b) rfl
  have c2 := hW.ch.get (j := 2) (v := vcell oo.c) rfl
  have c3 := hW.ch.get (j := 3) (v := vcell oo.d) rfl
  have c4 := hW.ch.get (j := 4) (v := vcell oo.e) rfl
  have c5 := hW.ch.get (j := 5) (v := vcell oo.f) rfl
  have c6 := hW.ch.get (j := 6) (v := vcell oo.g) rfl
  have c7 := hW.ch.get (j := 7) (v := vcell oo.h) rfl
  go_wp2_with fail
  go_quiet (fail)
  have hW1 := hW.drewN nq
  have hS1 := hS.drewN nq
  clear hW hS c0 c1 c2 c3 c4 c5 c6 c7
  generalize w5.drewN nq = w6 at *
  go_wp2_with fail
  refine vloop3 w w6 gk gh gm cm N gw p0 oo ws ms _ _ HWL.out ⟨0, by omega, ⟨rfl, rfl, rfl, rfl, rfl, rfl, rfl, rfl, rfl, rfl, rfl, rfl, rfl, rfl, rfl, rfl, rfl, trivial⟩, hW1, hS1⟩ ?_
  clear hW1 hS1
  generalize widRounds oo ws 80 = q at *
  rintro a7 w7 ⟨hF, hW, hS⟩
  obtain ⟨hs0, hd0, h6, h7, h12, h13, h14, h15, h16, h17, h18, h19, h2, h3, h4, h5, -⟩ := hF
  obtain ⟨u, rfl⟩ := frame249 a7 hs0 hd0
  clear hs0 hd0
  change u 6 = _ at h6
  change u 7 = _ at h7
  change u 12 = _ at h12
  change u 13 = _ at h13
  change u 14 = _ at h14
  change u 15 = _ at h15
  change u 16 = _ at h16
  change u 17 = _ at h17
  change u 18 = _ at h18
  change u 19 = _ at h19
  change u 2 = _ at h2
  change u 3 = _ at h3
  change u 4 = _ at h4
  change u 5 = _ at h5
  rw [h6, h7, h12, h13, h14, h15, h16, h17, h18, h19, h2, h3, h4, h5]
  clear h6 h7 h12 h13 h14 h15 h16 h17 h18 h19 h2 h3 h4 h5
  go_wp2_with fail
  have hG1 : Cells (w7.alloc (.cells #[vcell q.a, vcell q.b, vcell q.c, vcell q.d, vcell q.e, vcell q.f, vcell q.g, vcell q.h] 40)) w7.heap.size (q.list.map vcell) 40 := Cells.new w7 (q.list.map vcell).toArray 40
  have hW1 := hW.alloc (.cells #[vcell q.a, vcell q.b, vcell q.c, vcell q.d, vcell q.e, vcell q.f, vcell q.g, vcell q.h] 40)
  have hgx := hW.o4
  generalize w7.alloc (.cells #[vcell q.a, vcell q.b, vcell q.c, vcell q.d, vcell q.e, vcell q.f, vcell q.g, vcell q.h] 40) = w8 at *
  generalize w7.heap.size = gx at *
  clear hW hS
  refine vloop4 w w8 gk gh gm cm N gx p0 oo q ms _ _ hgx ⟨0, by omega, ⟨rfl, rfl, rfl, rfl, rfl, rfl, rfl, rfl, rfl, rfl, trivial⟩, hW1, hG1⟩ ?_
  clear hW1 hG1
  rintro a9 w9 ⟨hF, hW⟩
  obtain ⟨hs0, hd0, h6, h2, h3, h4, h5, -⟩ := hF
  obtain ⟨u, rfl⟩ := frame249 a9 hs0 hd0
  clear hs0 hd0
  change u 6 = _ at h6
  change u 2 = _ at h2
  change u 3 = _ at h3
  change u 4 = _ at h4
  change u 5 = _ at h5
  rw [h6, h2, h3, h4, h5]
  clear h6 h2 h3 h4 h5
  go_wp2_with fail
  rw [← HBL.out, ← HC.out] at hW
  have e1 := hpo.out
  have e2 := HK.out
  refine ⟨⟨k + 1, by omega, ⟨rfl, rfl, ?_, rfl, rfl, rfl, rfl, trivial⟩, hW⟩, ?_⟩
  · show Value.int .i64 ((p0 : Int) + 128) = Value.int .i64 ((128 * (k + 1) : Nat) : Int)
    rw [← e1]
    congr 1
  · show 128 * N - ((p0 : Int) + 128).toNat < 128 * N - ((p0 : Int)).toNat
    omega
/-- Behind the outer loop. -/
def VX1 (w : World) (gk gh gm cm N : Nat) (ms : List UInt8) (a : Act) (wr : World) : Prop :=
  Fr 249 (vSlots w gk gh gm cm N) a ∧ VW w wr gk gh gm ((widChain ms N).list.map vcell) ms
set_option maxRecDepth 100000 in
set_option maxHeartbeats 4000000 in
theorem vloop1 (w wr : World) (gk gh gm cm N : Nat) (ms : List UInt8) (a : Act) (Q0 : Exit → Act → World → Prop) (hN : N ≤ 10000) (hml : ms.length = 128 * N)
    (hI : VI1 w gk gh gm cm N ms a wr) (hX : ∀ a wr, VX1 w gk gh gm cm N ms a wr → Q0 (.exit 0) a wr) : Code.wp Tryd.prog (Code.loop (vBody 0)) Q0 a wr := by
  refine wp_loop (VI1 w gk gh gm cm N ms) (vmu1 N) hI ?_
  clear hI a wr
  rintro a wr ⟨k, hk, hF, hW⟩
  by_cases h1 : k < N
  · exact vround1 w wr gk gh gm cm N k ms a Q0 hN hml h1 hF hW
  obtain rfl : k = N := by omega
  have HX := Lib.hid hX
  have h64 : ¬ ((128 * k : Nat) : Int) < 128 * (k : Int) := by omega
  clear hX hml h1
  obtain ⟨hs0, hd0, h6, h2, h3, h4, h5, -⟩ := hF
  obtain ⟨u, rfl⟩ := frame249 a hs0 hd0
  clear hs0 hd0
  change u 6 = _ at h6
  change u 2 = _ at h2
  change u 3 = _ at h3
  change u 4 = _ at h4
  change u 5 = _ at h5
  rw [h6, h2, h3, h4, h5]
  clear h6 h2 h3 h4 h5
  conv => arg 2; whnf
  go_wp2
  exact HX.out _ _ ⟨⟨rfl, rfl, rfl, rfl, rfl, rfl, trivial⟩, hW⟩
end Go.Proofs.YtpbkjphdkdlhjaaDoor
