/- The document's own SHA-512: its third loop, a block's 80 rounds. -/
import Derived.Test.YtpbkjphdkdlhjaaDoorVRW
namespace Go.Proofs.YtpbkjphdkdlhjaaDoor
open Go.RowKit
/-- At the third loop's head: k rounds are done. -/
def VI3 (w : World) (gk gh gm cm N gw p0 : Nat) (oo : Wct) (ws : List (BitVec 64)) (ms : List UInt8) (a : Act) (wr : World) : Prop :=
  ∃ k : Nat, k ≤ 80 ∧ Fr 249 ([(6, .int .i64 (p0 : Int)), (7, .slice (some ⟨gw, 0, none⟩) 80 80), (20, .int .i64 (k : Int)), (12, vcell (widRounds oo ws k).a), (13, vcell (widRounds oo ws k).b), (14, vcell (widRounds oo ws k).c), (15, vcell (widRounds oo ws k).d), (16, vcell (widRounds oo ws k).e), (17, vcell (widRounds oo ws k).f), (18, vcell (widRounds oo ws k).g), (19, vcell (widRounds oo ws k).h)] ++ vSlots w gk gh gm cm N) a ∧ VW w wr gk gh gm (oo.list.map vcell) ms ∧ Cells wr gw (ws.map vcell) 40
def vmu3 (a : Act) (_ : World) : Nat := 80 - (intOf (a.tmps.getD 20 undef)).toNat
set_option maxRecDepth 100000 in
set_option maxHeartbeats 4000000 in
theorem vround3 (w wr : World) (gk gh gm cm N gw p0 k : Nat) (oo : Wct) (ws : List (BitVec 64)) (ms : List UInt8) (a : Act) (Q0 : Exit → Act → World → Prop) (hws : ws.length = 80) (hk : k < 80)
    (hF : Fr 249 ([(6, .int .i64 (p0 : Int)), (7, .slice (some ⟨gw, 0, none⟩) 80 80), (20, .int .i64 (k : Int)), (12, vcell (widRounds oo ws k).a), (13, vcell (widRounds oo ws k).b), (14, vcell (widRounds oo ws k).c), (15, vcell (widRounds oo ws k).d), (16, vcell (widRounds oo ws k).e), (17, vcell (widRounds oo ws k).f), (18, vcell (widRounds oo ws k).g), (19, vcell (widRounds oo ws k).h)] ++ vSlots w gk gh gm cm N) a) (hW : VW w wr gk gh gm (oo.list.map vcell) ms) (hS : Cells wr gw (ws.map vcell) 40) :
    Code.wp Tryd.prog (vBody 3) (Exit.then (fun a' w' => VI3 w gk gh gm cm N gw p0 oo ws ms a' w' ∧ vmu3 a' w' < vmu3 a wr) Q0) a wr := by
  have cK := hW.ks.get (list64_at widK k hk)
  have cW := hS.get (list64_at ws k (by rw [hws]; exact hk))
  have HRD : Hid (widRounds oo ws (k + 1) = widRound (widRounds oo ws k) (widK.getD k 0) (ws.getD k 0)) := rfl
  clear hws
  generalize widRounds oo ws k = q at *
  generalize ws.getD k 0 = xw at *
  generalize widK.getD k 0 = xk at *
  have i1 : (0 : Int) ≤ (k : Int) := by omega
  have i2 : (k : Int) < 80 := by omega
  obtain ⟨hs0, hd0, h6, h7, h20, h12, h13, h14, h15, h16, h17, h18, h19, h2, h3, h4, h5, _⟩ := hF
  obtain ⟨u, rfl⟩ := frame249 a hs0 hd0
  clear hs0 hd0
  change u 6 = _ at h6
  change u 7 = _ at h7
  change u 20 = _ at h20
  change u 12 = _ at h12
  change u 13 = _ at h13
  change u 14 = _ at h14
  change u 15 = _ at h15
  change u 16 = _ at h16
  change u 17 = _ at h17
  change u 18 = _ at h18
  change u 19 = _ at h19
  change u 2 = _ at h2
  change u 3 = _ at h3
  change u 4 = _ at h4
  change u 5 = _ at h5
  rw [h6, h7, h20, h12, h13, h14, h15, h16, h17, h18, h19, h2, h3, h4, h5]
  clear h6 h7 h20 h12 h13 h14 h15 h16 h17 h18 h19 h2 h3 h4 h5
  conv => arg 2; whnf
  go_wp2_with fail
  go_quiet ((go_at_call 17; exact Calls.quiet_of_same (turn64_at _ _ _ (by omega) (by omega))))
  go_wp2_with (go_at_call 17; refine (turn64_in _ _ _ (by omega) (by omega)).mono ?_; rintro e w' ⟨rfl, rfl⟩)
  simp only [xor64, and64, not64m, wadd64]
  refine ⟨⟨k + 1, by omega, ⟨rfl, rfl, rfl, rfl, by show Value.int .i64 ((k : Int) + 1) = _; go_num, by rw [HRD.out]; rfl, by rw [HRD.out]; rfl, by rw [HRD.out]; rfl, by rw [HRD.out]; rfl, by rw [HRD.out]; rfl, by rw [HRD.out]; rfl, by rw [HRD.out]; rfl, by rw [HRD.out]; rfl, rfl, rfl, rfl, rfl, trivial⟩, hW.drewN nq, hS⟩, ?_⟩
  show 80 - ((k : Int) + 1).toNat < 80 - ((k : Int)).toNat
  omega
/-- Behind the third loop. -/
def VX3 (w : World) (gk gh gm cm N gw p0 : Nat) (oo q : Wct) (ws : List (BitVec 64)) (ms : List UInt8) (a : Act) (wr : World) : Prop :=
  Fr 249 ([(6, .int .i64 (p0 : Int)), (7, .slice (some ⟨gw, 0, none⟩) 80 80), (12, vcell q.a), (13, vcell q.b), (14, vcell q.c), (15, vcell q.d), (16, vcell q.e), (17, vcell q.f), (18, vcell q.g), (19, vcell q.h)] ++ vSlots w gk gh gm cm N) a ∧ VW w wr gk gh gm (oo.list.map vcell) ms ∧ Cells wr gw (ws.map vcell) 40
set_option maxRecDepth 100000 in
set_option maxHeartbeats 4000000 in
theorem vloop3 (w wr : World) (gk gh gm cm N gw p0 : Nat) (oo : Wct) (ws : List (BitVec 64)) (ms : List UInt8) (a : Act) (Q0 : Exit → Act → World → Prop) (hws : ws.length = 80)
    (hI : VI3 w gk gh gm cm N gw p0 oo ws ms a wr) (hX : ∀ a wr, VX3 w gk gh gm cm N gw p0 oo (widRounds oo ws 80) ws ms a wr → Q0 (.exit 6) a wr) : Code.wp Tryd.prog (Code.loop (vBody 3)) Q0 a wr := by
  refine wp_loop (VI3 w gk gh gm cm N gw p0 oo ws ms) vmu3 hI ?_
  clear hI a wr
  rintro a wr ⟨k, hk, hF, hW, hS⟩
  by_cases h1 : k < 80
  · exact vround3 w wr gk gh gm cm N gw p0 k oo ws ms a Q0 hws h1 hF hW hS
  obtain rfl : k = 80 := by omega
  have HX := Lib.hid hX
  clear hX hws
  generalize widRounds oo ws 80 = q at *
  obtain ⟨hs0, hd0, h6, h7, h20, h12, h13, h14, h15, h16, h17, h18, h19, h2, h3, h4, h5, _⟩ := hF
  obtain ⟨u, rfl⟩ := frame249 a hs0 hd0
  clear hs0 hd0
  change u 6 = _ at h6
  change u 7 = _ at h7
  change u 20 = _ at h20
  change u 12 = _ at h12
  change u 13 = _ at h13
  change u 14 = _ at h14
  change u 15 = _ at h15
  change u 16 = _ at h16
  change u 17 = _ at h17
  change u 18 = _ at h18
  change u 19 = _ at h19
  change u 2 = _ at h2
  change u 3 = _ at h3
  change u 4 = _ at h4
  change u 5 = _ at h5
  rw [h6, h7, h20, h12, h13, h14, h15, h16, h17, h18, h19, h2, h3, h4, h5]
  clear h6 h7 h20 h12 h13 h14 h15 h16 h17 h18 h19 h2 h3 h4 h5
  conv => arg 2; whnf
  go_wp2
  exact HX.out _ _ ⟨⟨rfl, rfl, rfl, rfl, rfl, rfl, rfl, rfl, rfl, rfl, rfl, rfl, rfl, rfl, rfl, rfl, trivial⟩, hW, hS⟩
end Go.Proofs.YtpbkjphdkdlhjaaDoor
