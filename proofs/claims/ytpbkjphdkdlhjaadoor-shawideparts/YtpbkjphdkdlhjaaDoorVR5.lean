/- The document's own SHA-512: its last loops, the digest's bytes. -/
import Derived.Test.YtpbkjphdkdlhjaaDoorVRW
namespace Go.Proofs.YtpbkjphdkdlhjaaDoor
open Go.RowKit
theorem splice_snoc (vs cs : List Value) (o : Nat) (u : Value) (h : o + cs.length < vs.length) : (splice vs o cs).set (o + cs.length) u = splice vs o (cs ++ [u]) := by
  unfold splice
  have hl : (vs.take o ++ cs).length = o + cs.length := by rw [List.length_append, List.length_take]; omega
  rw [List.set_append_right _ _ (by omega), hl, Nat.sub_self, List.drop_eq_getElem_cons h]
  simp only [List.set_cons_zero, List.length_append, List.length_cons, List.length_nil, List.append_assoc, List.cons_append, List.nil_append, Nat.add_assoc, Nat.zero_add]
/-- The digest so far: k words are laid out. -/
def outTo (l : List (BitVec 64)) (k : Nat) : List Value := (words8 (l.take k)).map cellOf ++ List.replicate (64 - 8 * k) (cellOf 0)
theorem outTo_length (l : List (BitVec 64)) (k : Nat) (hl : l.length = 8) (hk : k ≤ 8) : (outTo l k).length = 64 := by
  rw [outTo, List.length_append, List.length_map, words8_length, List.length_take, hl, List.length_replicate]; omega
/-- .. and j bytes of the next. -/
def byteTo (l : List (BitVec 64)) (k : Nat) (x : BitVec 64) (j : Nat) : List Value := splice (outTo l k) (8 * k) ((putB x.toNat 8 j).map cellOf)
theorem byteTo_zero (l : List (BitVec 64)) (k : Nat) (x : BitVec 64) : byteTo l k x 0 = outTo l k := by simp [byteTo, putB, splice]
theorem byteTo_next (l : List (BitVec 64)) (k : Nat) (x : BitVec 64) (j : Nat) (hl : l.length = 8) (hk : k < 8) (hj : j < 8) : (byteTo l k x j).set (8 * k + j) (cellOf (byteAt x.toNat (7 - j))) = byteTo l k x (j + 1) := by
  have h := splice_snoc (outTo l k) ((putB x.toNat 8 j).map cellOf) (8 * k) (cellOf (byteAt x.toNat (7 - j))) (by rw [outTo_length l k hl (by omega), List.length_map, putB_length]; omega)
  rw [List.length_map, putB_length] at h
  unfold byteTo
  rw [h, putB_succ, List.map_append]
  rfl
theorem byteTo_all (l : List (BitVec 64)) (k : Nat) (hk : k < l.length) (hl : l.length = 8) : byteTo l k l[k] 8 = outTo l (k + 1) := by
  unfold byteTo
  rw [putB_rev]
  exact digest64_next l k hk hl
theorem byteTo_length (l : List (BitVec 64)) (k : Nat) (x : BitVec 64) (j : Nat) (hl : l.length = 8) (hk : k < 8) (hj : j ≤ 8) : (byteTo l k x j).length = 64 := by
  rw [byteTo, splice_length _ _ _ (by rw [outTo_length l k hl (by omega), List.length_map, putB_length]; omega), outTo_length l k hl (by omega)]
/-- At the inner loop's head: j bytes are laid out. -/
def VIb (w : World) (gk gh gm cm N go k : Nat) (x : BitVec 64) (l : List (BitVec 64)) (ms : List UInt8) (a : Act) (wr : World) : Prop :=
  ∃ j : Nat, j ≤ 8 ∧ Fr 249 ([(25, .pointer (some ⟨go, 0, none⟩)), (224, .slice (some ⟨gh, 0, none⟩) 8 8), (225, .int .i64 8), (226, .int .i64 (k : Int)), (26, .int .i64 (k : Int)), (27, vcell x), (28, .int .i64 (j : Int))] ++ vSlots w gk gh gm cm N) a ∧ VW w wr gk gh gm (l.map vcell) ms ∧ Cells wr go (byteTo l k x j) 25
def vmub (a : Act) (_ : World) : Nat := 8 - (intOf (a.tmps.getD 28 undef)).toNat
set_option maxRecDepth 100000 in
set_option maxHeartbeats 4000000 in
theorem vroundb (w wr : World) (gk gh gm cm N go k j : Nat) (x : BitVec 64) (l : List (BitVec 64)) (ms : List UInt8) (a : Act) (Q0 : Exit → Act → World → Prop) (hl : l.length = 8) (hk : k < 8) (hj : j < 8) (hgo : gm < go)
    (hF : Fr 249 ([(25, .pointer (some ⟨go, 0, none⟩)), (224, .slice (some ⟨gh, 0, none⟩) 8 8), (225, .int .i64 8), (226, .int .i64 (k : Int)), (26, .int .i64 (k : Int)), (27, vcell x), (28, .int .i64 (j : Int))] ++ vSlots w gk gh gm cm N) a) (hW : VW w wr gk gh gm (l.map vcell) ms) (hO : Cells wr go (byteTo l k x j) 25) :
    Code.wp Tryd.prog (vBody 6) (Exit.then (fun a' w' => VIb w gk gh gm cm N go k x l ms a' w' ∧ vmub a' w' < vmub a wr) Q0) a wr := by
  have HE := Lib.hid (byteTo_next l k x j hl hk hj)
  have HB := Lib.hid (byte_shr x.toNat (7 - j))
  have hT := hO.there (8 * k + j) 1 (by rw [byteTo_length l k x j hl hk (by omega)]; omega)
  have fH := hO.frozen (8 * k + j)
  obtain ⟨v3, hc3⟩ : ∃ v, wr.cell? ⟨go, 8 * k + j, none⟩ = some v := ⟨_, hO.cell (8 * k + j) (by rw [byteTo_length l k x j hl hk (by omega)]; omega)⟩
  clear hl
  have i1 : (0 : Int) ≤ 8 * (k : Int) + (j : Int) := by omega
  have i2 : 8 * (k : Int) + (j : Int) < 64 := by omega
  have n1 : (8 * (k : Int) + (j : Int)).toNat = 8 * k + j := by omega
  have i3 : (j : Int) < 8 := by omega
  generalize hmm : 7 - j = m at *
  have f1 : (56 : Int) - 8 * (j : Int) = 8 * (m : Int) := by omega
  have hm7 : m ≤ 7 := by omega
  replace hmm := Lib.hid hmm
  obtain ⟨hs0, hd0, h25, h224, h225, h226, h26, h27, h28, h2, h3, h4, h5, _⟩ := hF
  obtain ⟨u, rfl⟩ := frame249 a hs0 hd0
  clear hs0 hd0
  change u 25 = _ at h25
  change u 224 = _ at h224
  change u 225 = _ at h225
  change u 226 = _ at h226
  change u 26 = _ at h26
  change u 27 = _ at h27
  change u 28 = _ at h28
  change u 2 = _ at h2
  change u 3 = _ at h3
  change u 4 = _ at h4
  change u 5 = _ at h5
  rw [h25, h224, h225, h226, h26, h27, h28, h2, h3, h4, h5]
  clear h25 h224 h225 h226 h26 h27 h28 h2 h3 h4 h5
  conv => arg 2; whnf
  go_wp2
  rw [HB.out]
  refine ⟨⟨j + 1, by omega, ⟨rfl, rfl, rfl, rfl, rfl, rfl, rfl, rfl, by show Value.int .i64 ((j : Int) + 1) = _; go_num, rfl, rfl, rfl, rfl, trivial⟩, hW.but ((But.refl go wr).setCell _ _) hgo, ?_⟩, ?_⟩
  · have h := hO.set (8 * k + j) (cellOf (byteAt x.toNat m))
    rw [HE.out] at h
    exact h
  · show 8 - ((j : Int) + 1).toNat < 8 - ((j : Int)).toNat
    omega
/-- Behind the inner loop. -/
def VXb (w : World) (gk gh gm cm N go k : Nat) (l : List (BitVec 64)) (ms : List UInt8) (a : Act) (wr : World) : Prop :=
  Fr 249 ([(25, .pointer (some ⟨go, 0, none⟩)), (224, .slice (some ⟨gh, 0, none⟩) 8 8), (225, .int .i64 8), (226, .int .i64 (k : Int))] ++ vSlots w gk gh gm cm N) a ∧ VW w wr gk gh gm (l.map vcell) ms ∧ Cells wr go (outTo l (k + 1)) 25
set_option maxRecDepth 100000 in
set_option maxHeartbeats 4000000 in
theorem vloopb (w wr : World) (gk gh gm cm N go k : Nat) (l : List (BitVec 64)) (ms : List UInt8) (a : Act) (Q0 : Exit → Act → World → Prop) (hl : l.length = 8) (hk : k < 8) (hk2 : k < l.length) (hgo : gm < go)
    (hI : VIb w gk gh gm cm N go k l[k] l ms a wr) (hX : ∀ a wr, VXb w gk gh gm cm N go k l ms a wr → Q0 (.exit 12) a wr) : Code.wp Tryd.prog (Code.loop (vBody 6)) Q0 a wr := by
  refine wp_loop (VIb w gk gh gm cm N go k l[k] l ms) vmub hI ?_
  clear hI a wr
  rintro a wr ⟨j, hj, hF, hW, hO⟩
  by_cases h1 : j < 8
  · exact vroundb w wr gk gh gm cm N go k j l[k] l ms a Q0 hl hk h1 hgo hF hW hO
  obtain rfl : j = 8 := by omega
  rw [byteTo_all l k hk2 hl] at hO
  have HX := Lib.hid hX
  clear hX hl
  generalize l[k] = x at *
  obtain ⟨hs0, hd0, h25, h224, h225, h226, h26, h27, h28, h2, h3, h4, h5, _⟩ := hF
  obtain ⟨u, rfl⟩ := frame249 a hs0 hd0
  clear hs0 hd0
  change u 25 = _ at h25
  change u 224 = _ at h224
  change u 225 = _ at h225
  change u 226 = _ at h226
  change u 26 = _ at h26
  change u 27 = _ at h27
  change u 28 = _ at h28
  change u 2 = _ at h2
  change u 3 = _ at h3
  change u 4 = _ at h4
  change u 5 = _ at h5
  rw [h25, h224, h225, h226, h26, h27, h28, h2, h3, h4, h5]
  clear h25 h224 h225 h226 h26 h27 h28 h2 h3 h4 h5
  conv => arg 2; whnf
  go_wp2
  exact HX.out _ _ ⟨⟨rfl, rfl, rfl, rfl, rfl, rfl, rfl, rfl, rfl, rfl, trivial⟩, hW, hO⟩
/-- At the last loop's head: k words are laid out. -/
def VI5 (w : World) (gk gh gm cm N go : Nat) (l : List (BitVec 64)) (ms : List UInt8) (a : Act) (wr : World) : Prop :=
  ∃ k : Nat, k ≤ 8 ∧ Fr 249 ([(25, .pointer (some ⟨go, 0, none⟩)), (224, .slice (some ⟨gh, 0, none⟩) 8 8), (225, .int .i64 8), (226, .int .i64 (k : Int))] ++ vSlots w gk gh gm cm N) a ∧ VW w wr gk gh gm (l.map vcell) ms ∧ Cells wr go (outTo l k) 25
def vmu5 (a : Act) (_ : World) : Nat := 8 - (intOf (a.tmps.getD 226 undef)).toNat
set_option maxRecDepth 100000 in
set_option maxHeartbeats 4000000 in
theorem vround5 (w wr : World) (gk gh gm cm N go k : Nat) (l : List (BitVec 64)) (ms : List UInt8) (a : Act) (Q0 : Exit → Act → World → Prop) (hl : l.length = 8) (hk : k < 8) (hgo : gm < go)
    (hF : Fr 249 ([(25, .pointer (some ⟨go, 0, none⟩)), (224, .slice (some ⟨gh, 0, none⟩) 8 8), (225, .int .i64 8), (226, .int .i64 (k : Int))] ++ vSlots w gk gh gm cm N) a) (hW : VW w wr gk gh gm (l.map vcell) ms) (hO : Cells wr go (outTo l k) 25) :
    Code.wp Tryd.prog (vBody 5) (Exit.then (fun a' w' => VI5 w gk gh gm cm N go l ms a' w' ∧ vmu5 a' w' < vmu5 a wr) Q0) a wr := by
  have hk2 : k < l.length := by omega
  have cH := hW.ch.get (show (l.map vcell)[k]? = some (vcell l[k]) by rw [List.getElem?_map, List.getElem?_eq_getElem hk2]; rfl)
  have HO : Hid (Cells wr go (byteTo l k l[k] 0) 25) := by rw [byteTo_zero]; exact hO
  have HL := Lib.hid hl
  have HX : Hid (∃ x, l[k] = x) := ⟨_, rfl⟩
  obtain ⟨x, hx⟩ := HX.out
  replace hx := Lib.hid hx
  rw [hx.out] at cH
  clear hl HX hO
  have i1 : (0 : Int) ≤ (k : Int) := by omega
  have i2 : (k : Int) < 8 := by omega
  obtain ⟨hs0, hd0, h25, h224, h225, h226, h2, h3, h4, h5, _⟩ := hF
  obtain ⟨u, rfl⟩ := frame249 a hs0 hd0
  clear hs0 hd0
  change u 25 = _ at h25
  change u 224 = _ at h224
  change u 225 = _ at h225
  change u 226 = _ at h226
  change u 2 = _ at h2
  change u 3 = _ at h3
  change u 4 = _ at h4
  change u 5 = _ at h5
  rw [h25, h224, h225, h226, h2, h3, h4, h5]
  clear h25 h224 h225 h226 h2 h3 h4 h5
  conv => arg 2; whnf
  go_wp2_with fail
  refine vloopb w wr gk gh gm cm N go k l ms _ _ HL.out hk hk2 hgo ⟨0, by omega, ⟨rfl, rfl, rfl, rfl, rfl, rfl, rfl, by rw [hx.out]; rfl, rfl, rfl, rfl, rfl, rfl, trivial⟩, hW, HO.out⟩ ?_
  clear hW HO cH
  rintro a5 w5 ⟨hF, hW, hO⟩
  obtain ⟨hs0, hd0, h25, h224, h225, h226, h2, h3, h4, h5, -⟩ := hF
  obtain ⟨u, rfl⟩ := frame249 a5 hs0 hd0
  clear hs0 hd0
  change u 25 = _ at h25
  change u 224 = _ at h224
  change u 225 = _ at h225
  change u 226 = _ at h226
  change u 2 = _ at h2
  change u 3 = _ at h3
  change u 4 = _ at h4
  change u 5 = _ at h5
  rw [h25, h224, h225, h226, h2, h3, h4, h5]
  clear h25 h224 h225 h226 h2 h3 h4 h5
  go_wp2_with fail
  refine ⟨⟨k + 1, by omega, ⟨rfl, rfl, rfl, rfl, rfl, by show Value.int .i64 ((k : Int) + 1) = _; go_num, rfl, rfl, rfl, rfl, trivial⟩, hW, hO⟩, ?_⟩
  show 8 - ((k : Int) + 1).toNat < 8 - ((k : Int)).toNat
  omega
/-- Behind the last loop. -/
def VX5 (w : World) (gk gh gm cm N go : Nat) (l : List (BitVec 64)) (ms : List UInt8) (a : Act) (wr : World) : Prop :=
  Fr 249 ([(25, .pointer (some ⟨go, 0, none⟩))] ++ vSlots w gk gh gm cm N) a ∧ VW w wr gk gh gm (l.map vcell) ms ∧ Cells wr go ((words8 l).map cellOf) 25
set_option maxRecDepth 100000 in
set_option maxHeartbeats 4000000 in
theorem vloop5 (w wr : World) (gk gh gm cm N go : Nat) (l : List (BitVec 64)) (ms : List UInt8) (a : Act) (Q0 : Exit → Act → World → Prop) (hl : l.length = 8) (hgo : gm < go)
    (hI : VI5 w gk gh gm cm N go l ms a wr) (hX : ∀ a wr, VX5 w gk gh gm cm N go l ms a wr → Q0 (.exit 10) a wr) : Code.wp Tryd.prog (Code.loop (vBody 5)) Q0 a wr := by
  refine wp_loop (VI5 w gk gh gm cm N go l ms) vmu5 hI ?_
  clear hI a wr
  rintro a wr ⟨k, hk, hF, hW, hO⟩
  by_cases h1 : k < 8
  · exact vround5 w wr gk gh gm cm N go k l ms a Q0 hl h1 hgo hF hW hO
  obtain rfl : k = 8 := by omega
  have HV : Hid (outTo l 8 = (words8 l).map cellOf) := by
    show _ = _
    rw [outTo, List.take_of_length_le (by rw [hl]; omega)]; simp
  rw [HV.out] at hO
  have HX := Lib.hid hX
  clear hX hl
  obtain ⟨hs0, hd0, h25, h224, h225, h226, h2, h3, h4, h5, _⟩ := hF
  obtain ⟨u, rfl⟩ := frame249 a hs0 hd0
  clear hs0 hd0
  change u 25 = _ at h25
  change u 224 = _ at h224
  change u 225 = _ at h225
  change u 226 = _ at h226
  change u 2 = _ at h2
  change u 3 = _ at h3
  change u 4 = _ at h4
  change u 5 = _ at h5
  rw [h25, h224, h225, h226, h2, h3, h4, h5]
  clear h25 h224 h225 h226 h2 h3 h4 h5
  conv => arg 2; whnf
  go_wp2
  exact HX.out _ _ ⟨⟨rfl, rfl, rfl, rfl, rfl, rfl, rfl, trivial⟩, hW, hO⟩
end Go.Proofs.YtpbkjphdkdlhjaaDoor
