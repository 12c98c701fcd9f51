/- The document's own SHA-256: its fourth loop, a block's words are added to the chain. -/
import Derived.Test.YtmhelmmonkgmmaaDoorRShaW
namespace Go.Proofs.YtmhelmmonkgmmaaDoor
open Go.RowKit
/-- At the fourth loop's head: k words are added. -/
def I4 (w : World) (gk gh gm cm N gx p0 : Nat) (oo q : Oct) (ms : List UInt8) (a : Act) (wr : World) : Prop :=
  ∃ k : Nat, k ≤ 8 ∧ Fr 271 ([(6, .int .i64 (p0 : Int)), (220, .slice (some ⟨gx, 0, none⟩) 8 8), (221, .int .i64 8), (222, .int .i64 (k : Int))] ++ baseSlots w gk gh gm cm N) a ∧ RW w wr gk gh gm (sumTo oo q k) ms ∧ Cells wr gx (q.list.map wcell) 61
def mu4 (a : Act) (_ : World) : Nat := 8 - (intOf (a.tmps.getD 222 undef)).toNat
set_option maxRecDepth 100000 in
set_option maxHeartbeats 4000000 in
theorem round4 (w wr : World) (gk gh gm cm N gx p0 k : Nat) (oo q : Oct) (ms : List UInt8) (a : Act) (Q0 : Exit → Act → World → Prop) (hk : k < 8) (hgx : gm < gx)
    (hF : Fr 271 ([(6, .int .i64 (p0 : Int)), (220, .slice (some ⟨gx, 0, none⟩) 8 8), (221, .int .i64 8), (222, .int .i64 (k : Int))] ++ baseSlots w gk gh gm cm N) a) (hW : RW w wr gk gh gm (sumTo oo q k) ms) (hG : Cells wr gx (q.list.map wcell) 61) :
    Code.wp Tryd.prog (refBody 3) (Exit.then (fun a' w' => I4 w gk gh gm cm N gx p0 oo q ms a' w' ∧ mu4 a' w' < mu4 a wr) Q0) a wr := by
  have cG := hG.get (oct_at q k hk)
  have cH := hW.ch.get (show (sumTo oo q k)[k]? = some (wcell (oo.list.getD k 0)) by simpa using sumTo_at oo q k hk [])
  have fH := hW.ch.frozen k
  have HE : Hid ((sumTo oo q k).set k (wcell (oo.list.getD k 0 + q.list.getD k 0)) = sumTo oo q (k + 1)) := by
    have e := sumTo_next oo q k hk []
    rw [List.append_nil, List.append_nil] at e
    exact e
  generalize oo.list.getD k 0 = x at *
  generalize q.list.getD k 0 = y at *
  have i1 : (0 : Int) ≤ (k : Int) := by omega
  have i2 : (k : Int) < 8 := by omega
  obtain ⟨hs0, hd0, h6, h220, h221, h222, h2, h3, h4, h5, _⟩ := hF
  obtain ⟨u, rfl⟩ := frame271 a hs0 hd0
  clear hs0 hd0
  change u 6 = _ at h6
  change u 220 = _ at h220
  change u 221 = _ at h221
  change u 222 = _ at h222
  change u 2 = _ at h2
  change u 3 = _ at h3
  change u 4 = _ at h4
  change u 5 = _ at h5
  rw [h6, h220, h221, h222, h2, h3, h4, h5]
  clear h6 h220 h221 h222 h2 h3 h4 h5
  conv => arg 2; whnf
  go_wp2
  rw [add32]
  have hc := hW.chain k (wcell (x + y))
  rw [HE.out] at hc
  have h1 := hW.o3
  refine ⟨⟨k + 1, by omega, ⟨rfl, rfl, rfl, rfl, rfl, by show Value.int .i64 ((k : Int) + 1) = _; go_num, rfl, rfl, rfl, rfl, trivial⟩, hc, hG.other (by show gx ≠ gh; omega) _⟩, ?_⟩
  show 8 - ((k : Int) + 1).toNat < 8 - ((k : Int)).toNat
  omega
/-- Behind the fourth loop. -/
def X4 (w : World) (gk gh gm cm N p0 : Nat) (oo q : Oct) (ms : List UInt8) (a : Act) (wr : World) : Prop :=
  Fr 271 ([(6, .int .i64 (p0 : Int))] ++ baseSlots w gk gh gm cm N) a ∧ RW w wr gk gh gm ((oo.plus q).list.map wcell) ms
set_option maxRecDepth 100000 in
set_option maxHeartbeats 4000000 in
theorem loop4 (w wr : World) (gk gh gm cm N gx p0 : Nat) (oo q : Oct) (ms : List UInt8) (a : Act) (Q0 : Exit → Act → World → Prop) (hgx : gm < gx)
    (hI : I4 w gk gh gm cm N gx p0 oo q ms a wr) (hX : ∀ a wr, X4 w gk gh gm cm N p0 oo q ms a wr → Q0 (.exit 6) a wr) : Code.wp Tryd.prog (Code.loop (refBody 3)) Q0 a wr := by
  refine wp_loop (I4 w gk gh gm cm N gx p0 oo q ms) mu4 hI ?_
  clear hI a wr
  rintro a wr ⟨k, hk, hF, hW, hG⟩
  by_cases h1 : k < 8
  · exact round4 w wr gk gh gm cm N gx p0 k oo q ms a Q0 h1 hgx hF hW hG
  obtain rfl : k = 8 := by omega
  have HX := Lib.hid hX
  clear hX
  obtain ⟨hs0, hd0, h6, h220, h221, h222, h2, h3, h4, h5, _⟩ := hF
  obtain ⟨u, rfl⟩ := frame271 a hs0 hd0
  clear hs0 hd0
  change u 6 = _ at h6
  change u 220 = _ at h220
  change u 221 = _ at h221
  change u 222 = _ at h222
  change u 2 = _ at h2
  change u 3 = _ at h3
  change u 4 = _ at h4
  change u 5 = _ at h5
  rw [h6, h220, h221, h222, h2, h3, h4, h5]
  clear h6 h220 h221 h222 h2 h3 h4 h5
  conv => arg 2; whnf
  go_wp2
  exact HX.out _ _ ⟨⟨rfl, rfl, rfl, rfl, rfl, rfl, rfl, trivial⟩, hW⟩
end Go.Proofs.YtmhelmmonkgmmaaDoor
