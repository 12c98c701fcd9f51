/- The document's own SHA-512: its fourth loop, a block's words are added to the chain. -/
import Derived.Test.YtpbkjphdkdlhjaaDoorVRW
namespace Go.Proofs.YtpbkjphdkdlhjaaDoor
open Go.RowKit
/-- At the fourth loop's head: k words are added. -/
def VI4 (w : World) (gk gh gm cm N gx p0 : Nat) (oo q : Wct) (ms : List UInt8) (a : Act) (wr : World) : Prop :=
  ∃ k : Nat, k ≤ 8 ∧ Fr 249 ([(6, .int .i64 (p0 : Int)), (208, .slice (some ⟨gx, 0, none⟩) 8 8), (209, .int .i64 8), (210, .int .i64 (k : Int))] ++ vSlots w gk gh gm cm N) a ∧ VW w wr gk gh gm (sumToW oo q k) ms ∧ Cells wr gx (q.list.map vcell) 40
def vmu4 (a : Act) (_ : World) : Nat := 8 - (intOf (a.tmps.getD 210 undef)).toNat
set_option maxRecDepth 100000 in
set_option maxHeartbeats 4000000 in
theorem vround4 (w wr : World) (gk gh gm cm N gx p0 k : Nat) (oo q : Wct) (ms : List UInt8) (a : Act) (Q0 : Exit → Act → World → Prop) (hk : k < 8) (hgx : gm < gx)
    (hF : Fr 249 ([(6, .int .i64 (p0 : Int)), (208, .slice (some ⟨gx, 0, none⟩) 8 8), (209, .int .i64 8), (210, .int .i64 (k : Int))] ++ vSlots w gk gh gm cm N) a) (hW : VW w wr gk gh gm (sumToW oo q k) ms) (hG : Cells wr gx (q.list.map vcell) 40) :
    Code.wp Tryd.prog (vBody 4) (Exit.then (fun a' w' => VI4 w gk gh gm cm N gx p0 oo q ms a' w' ∧ vmu4 a' w' < vmu4 a wr) Q0) a wr := by
  have cG := hG.get (wct_at q k hk)
  have cH := hW.ch.get (sumToW_at oo q k hk)
  have fH := hW.ch.frozen k
  have HE : Hid ((sumToW oo q k).set k (vcell (oo.list.getD k 0 + q.list.getD k 0)) = sumToW oo q (k + 1)) := sumToW_next oo q k hk
  generalize oo.list.getD k 0 = x at *
  generalize q.list.getD k 0 = y at *
  have i1 : (0 : Int) ≤ (k : Int) := by omega
  have i2 : (k : Int) < 8 := by omega
  obtain ⟨hs0, hd0, h6, h208, h209, h210, h2, h3, h4, h5, _⟩ := hF
  obtain ⟨u, rfl⟩ := frame249 a hs0 hd0
  clear hs0 hd0
  change u 6 = _ at h6
  change u 208 = _ at h208
  change u 209 = _ at h209
  change u 210 = _ at h210
  change u 2 = _ at h2
  change u 3 = _ at h3
  change u 4 = _ at h4
  change u 5 = _ at h5
  rw [h6, h208, h209, h210, h2, h3, h4, h5]
  clear h6 h208 h209 h210 h2 h3 h4 h5
  conv => arg 2; whnf
  go_wp2
  rw [wadd64]
  have hc := hW.chain k (vcell (x + y))
  rw [HE.out] at hc
  have h1 := hW.o3
  refine ⟨⟨k + 1, by omega, ⟨rfl, rfl, rfl, rfl, rfl, by show Value.int .i64 ((k : Int) + 1) = _; go_num, rfl, rfl, rfl, rfl, trivial⟩, hc, hG.other (by show gx ≠ gh; omega) _⟩, ?_⟩
  show 8 - ((k : Int) + 1).toNat < 8 - ((k : Int)).toNat
  omega
/-- Behind the fourth loop. -/
def VX4 (w : World) (gk gh gm cm N p0 : Nat) (oo q : Wct) (ms : List UInt8) (a : Act) (wr : World) : Prop :=
  Fr 249 ([(6, .int .i64 (p0 : Int))] ++ vSlots w gk gh gm cm N) a ∧ VW w wr gk gh gm ((oo.plus q).list.map vcell) ms
set_option maxRecDepth 100000 in
set_option maxHeartbeats 4000000 in
theorem vloop4 (w wr : World) (gk gh gm cm N gx p0 : Nat) (oo q : Wct) (ms : List UInt8) (a : Act) (Q0 : Exit → Act → World → Prop) (hgx : gm < gx)
    (hI : VI4 w gk gh gm cm N gx p0 oo q ms a wr) (hX : ∀ a wr, VX4 w gk gh gm cm N p0 oo q ms a wr → Q0 (.exit 8) a wr) : Code.wp Tryd.prog (Code.loop (vBody 4)) Q0 a wr := by
  refine wp_loop (VI4 w gk gh gm cm N gx p0 oo q ms) vmu4 hI ?_
  clear hI a wr
  rintro a wr ⟨k, hk, hF, hW, hG⟩
  by_cases h1 : k < 8
  · exact vround4 w wr gk gh gm cm N gx p0 k oo q ms a Q0 h1 hgx hF hW hG
  obtain rfl : k = 8 := by omega
  have HX := Lib.hid hX
  clear hX
  obtain ⟨hs0, hd0, h6, h208, h209, h210, h2, h3, h4, h5, _⟩ := hF
  obtain ⟨u, rfl⟩ := frame249 a hs0 hd0
  clear hs0 hd0
  change u 6 = _ at h6
  change u 208 = _ at h208
  change u 209 = _ at h209
  change u 210 = _ at h210
  change u 2 = _ at h2
  change u 3 = _ at h3
  change u 4 = _ at h4
  change u 5 = _ at h5
  rw [h6, h208, h209, h210, h2, h3, h4, h5]
  clear h6 h208 h209 h210 h2 h3 h4 h5
  conv => arg 2; whnf
  go_wp2
  exact HX.out _ _ ⟨⟨rfl, rfl, rfl, rfl, rfl, rfl, rfl, trivial⟩, hW⟩
end Go.Proofs.YtpbkjphdkdlhjaaDoor
