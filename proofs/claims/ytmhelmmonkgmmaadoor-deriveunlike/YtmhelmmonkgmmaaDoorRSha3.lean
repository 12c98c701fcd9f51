/- The document's own SHA-256: its third loop, a block's 64 rounds. -/
import Derived.Test.YtmhelmmonkgmmaaDoorRShaW
namespace Go.Proofs.YtmhelmmonkgmmaaDoor
open Go.RowKit
/-- At the third loop's head: k rounds are done. -/
def I3 (w : World) (gk gh gm cm N gw p0 : Nat) (oo : Oct) (ws : List (BitVec 32)) (ms : List UInt8) (a : Act) (wr : World) : Prop :=
  ∃ k : Nat, k ≤ 64 ∧ Fr 271 ([(6, .int .i64 (p0 : Int)), (7, .slice (some ⟨gw, 0, none⟩) 64 64), (20, .int .i64 (k : Int)), (12, wcell (shaRounds oo ws k).a), (13, wcell (shaRounds oo ws k).b), (14, wcell (shaRounds oo ws k).c), (15, wcell (shaRounds oo ws k).d), (16, wcell (shaRounds oo ws k).e), (17, wcell (shaRounds oo ws k).f), (18, wcell (shaRounds oo ws k).g), (19, wcell (shaRounds oo ws k).h)] ++ baseSlots w gk gh gm cm N) a ∧ RW w wr gk gh gm (oo.list.map wcell) ms ∧ Cells wr gw (ws.map wcell) 61
def mu3 (a : Act) (_ : World) : Nat := 64 - (intOf (a.tmps.getD 20 undef)).toNat
set_option maxRecDepth 100000 in
set_option maxHeartbeats 4000000 in
theorem round3 (w wr : World) (gk gh gm cm N gw p0 k : Nat) (oo : Oct) (ws : List (BitVec 32)) (ms : List UInt8) (a : Act) (Q0 : Exit → Act → World → Prop) (hws : ws.length = 64) (hk : k < 64)
    (hF : Fr 271 ([(6, .int .i64 (p0 : Int)), (7, .slice (some ⟨gw, 0, none⟩) 64 64), (20, .int .i64 (k : Int)), (12, wcell (shaRounds oo ws k).a), (13, wcell (shaRounds oo ws k).b), (14, wcell (shaRounds oo ws k).c), (15, wcell (shaRounds oo ws k).d), (16, wcell (shaRounds oo ws k).e), (17, wcell (shaRounds oo ws k).f), (18, wcell (shaRounds oo ws k).g), (19, wcell (shaRounds oo ws k).h)] ++ baseSlots w gk gh gm cm N) a) (hW : RW w wr gk gh gm (oo.list.map wcell) ms) (hS : Cells wr gw (ws.map wcell) 61) :
    Code.wp Tryd.prog (refBody 2) (Exit.then (fun a' w' => I3 w gk gh gm cm N gw p0 oo ws ms a' w' ∧ mu3 a' w' < mu3 a wr) Q0) a wr := by
  have cK := hW.ks.get (list_at shaK k hk)
  have cW := hS.get (list_at ws k (by rw [hws]; exact hk))
  have HRD : Hid (shaRounds oo ws (k + 1) = shaRound (shaRounds oo ws k) (shaK.getD k 0) (ws.getD k 0)) := rfl
  clear hws
  generalize shaRounds oo ws k = q at *
  generalize ws.getD k 0 = xw at *
  generalize shaK.getD k 0 = xk at *
  have i1 : (0 : Int) ≤ (k : Int) := by omega
  have i2 : (k : Int) < 64 := by omega
  obtain ⟨hs0, hd0, h6, h7, h20, h12, h13, h14, h15, h16, h17, h18, h19, h2, h3, h4, h5, _⟩ := hF
  obtain ⟨u, rfl⟩ := frame271 a hs0 hd0
  clear hs0 hd0
  change u 6 = _ at h6
  change u 7 = _ at h7
  change u 20 = _ at h20
  change u 12 = _ at h12
  change u 13 = _ at h13
  change u 14 = _ at h14
  change u 15 = _ at h15
  change u 16 = _ at h16
  change u 17 = _ at h17
  change u 18 = _ at h18
  change u 19 = _ at h19
  change u 2 = _ at h2
  change u 3 = _ at h3
  change u 4 = _ at h4
  change u 5 = _ at h5
  rw [h6, h7, h20, h12, h13, h14, h15, h16, h17, h18, h19, h2, h3, h4, h5]
  clear h6 h7 h20 h12 h13 h14 h15 h16 h17 h18 h19 h2 h3 h4 h5
  conv => arg 2; whnf
  go_wp2_with fail
  go_quiet ((go_at_call 33; exact Calls.quiet_of_same (turn_at _ _ _ (by omega) (by omega))))
  go_wp2_with (go_at_call 33; refine (turn_in _ _ _ (by omega) (by omega)).mono ?_; rintro e w' ⟨rfl, rfl⟩)
  rw [ref_a, ref_e]
  refine ⟨⟨k + 1, by omega, ⟨rfl, rfl, rfl, rfl, by show Value.int .i64 ((k : Int) + 1) = _; go_num, by rw [HRD.out]; rfl, by rw [HRD.out]; rfl, by rw [HRD.out]; rfl, by rw [HRD.out]; rfl, by rw [HRD.out]; rfl, by rw [HRD.out]; rfl, by rw [HRD.out]; rfl, by rw [HRD.out]; rfl, rfl, rfl, rfl, rfl, trivial⟩, hW.drewN nq, hS⟩, ?_⟩
  show 64 - ((k : Int) + 1).toNat < 64 - ((k : Int)).toNat
  omega
/-- Behind the third loop. -/
def X3 (w : World) (gk gh gm cm N gw p0 : Nat) (oo q : Oct) (ws : List (BitVec 32)) (ms : List UInt8) (a : Act) (wr : World) : Prop :=
  Fr 271 ([(6, .int .i64 (p0 : Int)), (7, .slice (some ⟨gw, 0, none⟩) 64 64), (12, wcell q.a), (13, wcell q.b), (14, wcell q.c), (15, wcell q.d), (16, wcell q.e), (17, wcell q.f), (18, wcell q.g), (19, wcell q.h)] ++ baseSlots w gk gh gm cm N) a ∧ RW w wr gk gh gm (oo.list.map wcell) ms ∧ Cells wr gw (ws.map wcell) 61
set_option maxRecDepth 100000 in
set_option maxHeartbeats 4000000 in
theorem loop3 (w wr : World) (gk gh gm cm N gw p0 : Nat) (oo : Oct) (ws : List (BitVec 32)) (ms : List UInt8) (a : Act) (Q0 : Exit → Act → World → Prop) (hws : ws.length = 64)
    (hI : I3 w gk gh gm cm N gw p0 oo ws ms a wr) (hX : ∀ a wr, X3 w gk gh gm cm N gw p0 oo (shaRounds oo ws 64) ws ms a wr → Q0 (.exit 4) a wr) : Code.wp Tryd.prog (Code.loop (refBody 2)) Q0 a wr := by
  refine wp_loop (I3 w gk gh gm cm N gw p0 oo ws ms) mu3 hI ?_
  clear hI a wr
  rintro a wr ⟨k, hk, hF, hW, hS⟩
  by_cases h1 : k < 64
  · exact round3 w wr gk gh gm cm N gw p0 k oo ws ms a Q0 hws h1 hF hW hS
  obtain rfl : k = 64 := by omega
  have HX := Lib.hid hX
  clear hX hws
  generalize shaRounds oo ws 64 = q at *
  obtain ⟨hs0, hd0, h6, h7, h20, h12, h13, h14, h15, h16, h17, h18, h19, h2, h3, h4, h5, _⟩ := hF
  obtain ⟨u, rfl⟩ := frame271 a hs0 hd0
  clear hs0 hd0
  change u 6 = _ at h6
  change u 7 = _ at h7
  change u 20 = _ at h20
  change u 12 = _ at h12
  change u 13 = _ at h13
  change u 14 = _ at h14
  change u 15 = _ at h15
  change u 16 = _ at h16
  change u 17 = _ at h17
  change u 18 = _ at h18
  change u 19 = _ at h19
  change u 2 = _ at h2
  change u 3 = _ at h3
  change u 4 = _ at h4
  change u 5 = _ at h5
  rw [h6, h7, h20, h12, h13, h14, h15, h16, h17, h18, h19, h2, h3, h4, h5]
  clear h6 h7 h20 h12 h13 h14 h15 h16 h17 h18 h19 h2 h3 h4 h5
  conv => arg 2; whnf
  go_wp2
  exact HX.out _ _ ⟨⟨rfl, rfl, rfl, rfl, rfl, rfl, rfl, rfl, rfl, rfl, rfl, rfl, rfl, rfl, rfl, rfl, trivial⟩, hW, hS⟩
end Go.Proofs.YtmhelmmonkgmmaaDoor
