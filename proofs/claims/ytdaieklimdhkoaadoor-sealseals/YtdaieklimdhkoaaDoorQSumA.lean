/- The document's Sum: its frame, the key's clamping. -/
import Derived.Test.YtdaieklimdhkoaaDoorQMod
import Derived.Test.YtdaieklimdhkoaaDoorPart7
import Derived.Test.YtdaieklimdhkoaaDoorPart2
import Derived.Test.YtdaieklimdhkoaaDoorPart6
namespace Go.Proofs.YtdaieklimdhkoaaDoor
open Go.RowKit
set_option maxRecDepth 100000 in
theorem frame105 (a : Act) (hs : a.tmps.size = 105) (hd : a.defers = []) : ∃ u : Nat → Value, a = ⟨(u 0 :: u 1 :: u 2 :: u 3 :: u 4 :: u 5 :: u 6 :: u 7 :: u 8 :: u 9 :: u 10 :: u 11 :: u 12 :: u 13 :: u 14 :: u 15 :: u 16 :: u 17 :: u 18 :: u 19 :: u 20 :: u 21 :: u 22 :: u 23 :: u 24 :: u 25 :: u 26 :: u 27 :: u 28 :: u 29 :: u 30 :: u 31 :: u 32 :: u 33 :: u 34 :: u 35 :: u 36 :: u 37 :: u 38 :: u 39 :: u 40 :: u 41 :: u 42 :: u 43 :: u 44 :: u 45 :: u 46 :: u 47 :: u 48 :: u 49 :: u 50 :: u 51 :: u 52 :: u 53 :: u 54 :: u 55 :: u 56 :: u 57 :: u 58 :: u 59 :: u 60 :: u 61 :: u 62 :: u 63 :: u 64 :: u 65 :: u 66 :: u 67 :: u 68 :: u 69 :: u 70 :: u 71 :: u 72 :: u 73 :: u 74 :: u 75 :: u 76 :: u 77 :: u 78 :: u 79 :: u 80 :: u 81 :: u 82 :: u 83 :: u 84 :: u 85 :: u 86 :: u 87 :: u 88 :: u 89 :: u 90 :: u 91 :: u 92 :: u 93 :: u 94 :: u 95 :: u 96 :: u 97 :: u 98 :: u 99 :: u 100 :: u 101 :: u 102 :: u 103 :: u 104 :: []).toArray, []⟩ := by
  obtain ⟨u, h⟩ := frame_of 105 a hs hd
  exact ⟨u, h⟩
/-- The body of the k-th loop of the document's Sum. -/
noncomputable def sumBody (k : Nat) : Code := ((Tryd.f35.body.map loopsOf).getD []).getD k .skip
/-- A row of bytes of the call's own, its block known whole. -/
theorem Owns.cells {w : World} {base : Nat} {v : Value} {l : List UInt8} (h : Owns w base v l) (hp : 0 < l.length) : ∃ g c rest, v = .slice (some ⟨g, 0, none⟩) l.length c ∧ base ≤ g ∧ l.length ≤ c ∧ c ≤ maxLen ∧ Cells w g (l.map cellOf ++ rest) 5 := by
  rcases h.2 with ⟨rfl, hn⟩ | ⟨g, cap, cur, rfl, hb, hg, hnc, hcm, hsz, htk⟩
  · omega
  · refine ⟨g, cap, cur.toList.drop l.length, rfl, hb, hnc, hcm, ?_⟩
    rw [Nat.mul_one] at htk
    unfold Cells
    rw [← htk, List.take_append_drop]
    exact hg
/-- The first k steps of the clamping, of the first and of the second kind. -/
def clampA (l : List UInt8) : Nat → List UInt8
  | 0 => l
  | k + 1 => (clampA l k).set (3 + 4 * k) ((clampA l k).getD (3 + 4 * k) 0 % 16)
def clampB (l : List UInt8) : Nat → List UInt8
  | 0 => l
  | k + 1 => (clampB l k).set (4 + 4 * k) ((clampB l k).getD (4 + 4 * k) 0 / 4 * 4)
theorem clampA_length (l : List UInt8) : ∀ k, (clampA l k).length = l.length
  | 0 => rfl
  | k + 1 => by rw [clampA, List.length_set, clampA_length]
theorem clampB_length (l : List UInt8) : ∀ k, (clampB l k).length = l.length
  | 0 => rfl
  | k + 1 => by rw [clampB, List.length_set, clampB_length]
theorem polyClamp_steps (l : List UInt8) : polyClamp l = clampB (clampA l 4) 3 := rfl
theorem bcell_at (l : List UInt8) (rest : List Value) (j : Nat) (hj : j < l.length) : (l.map cellOf ++ rest)[j]? = some (cellOf (l.getD j 0)) := by
  rw [List.getElem?_append_left (by rw [List.length_map]; exact hj), List.getElem?_map, List.getD_eq_getElem?_getD, List.getElem?_eq_getElem hj]
  rfl
theorem bcell_set (l : List UInt8) (rest : List Value) (j : Nat) (x : UInt8) (hj : j < l.length) : (l.map cellOf ++ rest).set j (cellOf x) = (l.set j x).map cellOf ++ rest := by
  rw [List.set_append_left _ _ (by rw [List.length_map]; exact hj), List.map_set]
theorem u8_rem16 (x : UInt8) : (x.toNat : Int) % 16 = ((x % 16 : UInt8).toNat : Int) := by
  rw [UInt8.toNat_mod]; simp
theorem u8_quo4 (x : UInt8) : (x.toNat : Int) / 4 * 4 = ((x / 4 * 4 : UInt8).toNat : Int) := by
  have h := x.toNat_lt
  have e : (x / 4 * 4 : UInt8).toNat = x.toNat / 4 * 4 := by
    rw [UInt8.toNat_mul, UInt8.toNat_div]
    show x.toNat / 4 * 4 % 256 = _
    omega
  rw [e]; omega
/-- What stands in every round: the key in a variable, the result's block. -/
structure PB (w wr : World) (key : List UInt8) : Prop where
  below : Below w.heap.size w wr
  key : Cells wr w.heap.size (key.map cellOf) 22
  res : Cells wr (w.heap.size + 1) (List.replicate 16 (cellOf 0)) 45
section
variable {w wr wr' : World} {key : List UInt8}
theorem PB.on (h : PB w wr key) (hb : Below wr.heap.size wr wr') : PB w wr' key := ⟨below_then h.below hb, h.key.on hb, h.res.on hb⟩
theorem PB.but (h : PB w wr key) {g : Nat} (hb : But g wr wr') (hg : w.heap.size + 2 ≤ g) : PB w wr' key :=
  ⟨h.below.trans (hb.below (by omega) h.below.size), h.key.but hb (by omega), h.res.but hb (by omega)⟩
end
def sumS (w : World) (A : Option Addr) (n c : Nat) : List (Nat × Value) := [(1, .slice A n c), (2, .pointer (some ⟨w.heap.size, 0, none⟩)), (4, .pointer (some ⟨w.heap.size + 1, 0, none⟩))]
/-- At the head of the loop that clamps, k steps done. -/
def IA (w : World) (A : Option Addr) (n c gk ck gl : Nat) (key l : List UInt8) (rest : List Value) (a : Act) (wr : World) : Prop :=
  ∃ k : Nat, k ≤ 4 ∧ Fr 105 ([(5, .slice (some ⟨gk, 0, none⟩) 16 ck), (20, .slice (some ⟨gl, 0, none⟩) 4 4), (21, .int .i64 4), (22, .int .i64 (k : Int))] ++ sumS w A n c) a ∧ PB w wr key ∧ Cells wr gk ((clampA l k).map cellOf ++ rest) 5 ∧ Cells wr gl ([3, 7, 11, 15].map icell) 3
def muA (a : Act) (_ : World) : Nat := 4 - (intOf (a.tmps.getD 22 undef)).toNat
theorem litA (k : Nat) (hk : k < 4) : ([3, 7, 11, 15].map icell)[k]? = some (icell (3 + 4 * k)) := by
  match k with
  | 0 => rfl
  | 1 => rfl
  | 2 => rfl
  | 3 => rfl
  | _ + 4 => omega
set_option maxRecDepth 100000 in
set_option maxHeartbeats 4000000 in
theorem roundA (w : World) (A : Option Addr) (n c gk ck gl : Nat) (key l : List UInt8) (rest : List Value) (k : Nat) (wr : World) (a : Act) (Q0 : Exit → Act → World → Prop) (hl : l.length = 16) (hk : k < 4) (hg : w.heap.size + 2 ≤ gk) (hgl : gk < gl)
    (hF : Fr 105 ([(5, .slice (some ⟨gk, 0, none⟩) 16 ck), (20, .slice (some ⟨gl, 0, none⟩) 4 4), (21, .int .i64 4), (22, .int .i64 (k : Int))] ++ sumS w A n c) a) (hW : PB w wr key) (hK : Cells wr gk ((clampA l k).map cellOf ++ rest) 5) (hL : Cells wr gl ([3, 7, 11, 15].map icell) 3) :
    Code.wp Tryd.prog (sumBody 0) (Exit.then (fun a' w' => IA w A n c gk ck gl key l rest a' w' ∧ muA a' w' < muA a wr) Q0) a wr := by
  have cL := hL.get (litA k hk)
  have HN : Hid (clampA l (k + 1) = (clampA l k).set (3 + 4 * k) ((clampA l k).getD (3 + 4 * k) 0 % 16)) := rfl
  have HLL : Hid ((clampA l k).length = 16) := by show _ = _; rw [clampA_length, hl]
  obtain ⟨n1, HN1⟩ : ∃ z, Hid (clampA l (k + 1) = z) := ⟨_, rfl⟩
  rw [HN1.out] at HN
  have hj : 3 + 4 * k < 16 := by omega
  have cK := hK.get (bcell_at (clampA l k) rest (3 + 4 * k) (by rw [HLL.out]; omega))
  have hf := hK.frozen (3 + 4 * k)
  clear hl
  generalize HC : clampA l k = lk at *
  replace HC := Lib.hid HC
  generalize hx : lk.getD (3 + 4 * k) 0 = x at *
  replace hx := Lib.hid hx
  generalize hjj : 3 + 4 * k = j at *
  replace hjj := Lib.hid hjj
  have i1 : (0 : Int) ≤ (k : Int) := by omega
  have i2 : (k : Int) < 4 := by omega
  have i3 : (j : Int) < 16 := by omega
  have i4 : (0 : Int) ≤ (j : Int) := by omega
  have hu8 := x.toNat_lt
  have MU := Lib.hid (u8_rem16 x)
  obtain ⟨hs0, hd0, h5, h20, h21, h22, h1, h2, h4, -⟩ := hF
  obtain ⟨u, rfl⟩ := frame105 a hs0 hd0
  clear hs0 hd0
  change u 5 = _ at h5
  change u 20 = _ at h20
  change u 21 = _ at h21
  change u 22 = _ at h22
  change u 1 = _ at h1
  change u 2 = _ at h2
  change u 4 = _ at h4
  rw [h5, h20, h21, h22, h1, h2, h4]
  clear h5 h20 h21 h22 h1 h2 h4
  conv => arg 2; whnf
  go_wp2_with fail
  rw [MU.out]
  refine ⟨⟨k + 1, by omega, ⟨rfl, rfl, rfl, rfl, rfl, by show Value.int .i64 ((k : Int) + 1) = _; go_num, rfl, rfl, rfl, trivial⟩, hW.but ((But.refl gk wr).setCell j _) hg, ?_, hL.other (p := ⟨gk, j, none⟩) (by show gl ≠ gk; omega) _⟩, ?_⟩
  · rw [HN1.out, HN.out, ← bcell_set _ _ _ _ (by rw [HLL.out]; omega)]
    exact hK.set j _
  · show 4 - ((k : Int) + 1).toNat < 4 - ((k : Int)).toNat
    omega
/-- Behind it. -/
def XA (w : World) (A : Option Addr) (n c gk ck : Nat) (key l : List UInt8) (rest : List Value) (a : Act) (wr : World) : Prop :=
  Fr 105 ([(5, .slice (some ⟨gk, 0, none⟩) 16 ck)] ++ sumS w A n c) a ∧ PB w wr key ∧ Cells wr gk ((clampA l 4).map cellOf ++ rest) 5
set_option maxRecDepth 100000 in
set_option maxHeartbeats 4000000 in
theorem loopA (w : World) (A : Option Addr) (n c gk ck gl : Nat) (key l : List UInt8) (rest : List Value) (wr : World) (a : Act) (Q0 : Exit → Act → World → Prop) (hl : l.length = 16) (hg : w.heap.size + 2 ≤ gk) (hgl : gk < gl)
    (hI : IA w A n c gk ck gl key l rest a wr) (hX : ∀ a wr, XA w A n c gk ck key l rest a wr → Q0 (.exit 0) a wr) : Code.wp Tryd.prog (Code.loop (sumBody 0)) Q0 a wr := by
  refine wp_loop (IA w A n c gk ck gl key l rest) muA hI ?_
  clear hI a wr
  rintro a wr ⟨k, hk, hF, hW, hK, hL⟩
  by_cases h1 : k < 4
  · exact roundA w A n c gk ck gl key l rest k wr a Q0 hl h1 hg hgl hF hW hK hL
  obtain rfl : k = 4 := by omega
  have HX := Lib.hid hX
  have HK := Lib.hid hK
  clear hX hL hK
  obtain ⟨hs0, hd0, h5, h20, h21, h22, h1, h2, h4, -⟩ := hF
  obtain ⟨u, rfl⟩ := frame105 a hs0 hd0
  clear hs0 hd0
  change u 5 = _ at h5
  change u 20 = _ at h20
  change u 21 = _ at h21
  change u 22 = _ at h22
  change u 1 = _ at h1
  change u 2 = _ at h2
  change u 4 = _ at h4
  rw [h5, h20, h21, h22, h1, h2, h4]
  clear h5 h20 h21 h22 h1 h2 h4
  conv => arg 2; whnf
  go_wp2
  exact HX.out _ _ ⟨⟨rfl, rfl, rfl, rfl, rfl, rfl, trivial⟩, hW, HK.out⟩
/-- At the head of the loop that clamps, k steps done. -/
def IB (w : World) (A : Option Addr) (n c gk ck gl : Nat) (key l : List UInt8) (rest : List Value) (a : Act) (wr : World) : Prop :=
  ∃ k : Nat, k ≤ 3 ∧ Fr 105 ([(5, .slice (some ⟨gk, 0, none⟩) 16 ck), (35, .slice (some ⟨gl, 0, none⟩) 3 3), (36, .int .i64 3), (37, .int .i64 (k : Int))] ++ sumS w A n c) a ∧ PB w wr key ∧ Cells wr gk ((clampB l k).map cellOf ++ rest) 5 ∧ Cells wr gl ([4, 8, 12].map icell) 3
def muB (a : Act) (_ : World) : Nat := 3 - (intOf (a.tmps.getD 37 undef)).toNat
theorem litB (k : Nat) (hk : k < 3) : ([4, 8, 12].map icell)[k]? = some (icell (4 + 4 * k)) := by
  match k with
  | 0 => rfl
  | 1 => rfl
  | 2 => rfl
  | _ + 3 => omega
set_option maxRecDepth 100000 in
set_option maxHeartbeats 4000000 in
theorem roundB (w : World) (A : Option Addr) (n c gk ck gl : Nat) (key l : List UInt8) (rest : List Value) (k : Nat) (wr : World) (a : Act) (Q0 : Exit → Act → World → Prop) (hl : l.length = 16) (hk : k < 3) (hg : w.heap.size + 2 ≤ gk) (hgl : gk < gl)
    (hF : Fr 105 ([(5, .slice (some ⟨gk, 0, none⟩) 16 ck), (35, .slice (some ⟨gl, 0, none⟩) 3 3), (36, .int .i64 3), (37, .int .i64 (k : Int))] ++ sumS w A n c) a) (hW : PB w wr key) (hK : Cells wr gk ((clampB l k).map cellOf ++ rest) 5) (hL : Cells wr gl ([4, 8, 12].map icell) 3) :
    Code.wp Tryd.prog (sumBody 1) (Exit.then (fun a' w' => IB w A n c gk ck gl key l rest a' w' ∧ muB a' w' < muB a wr) Q0) a wr := by
  have cL := hL.get (litB k hk)
  have HN : Hid (clampB l (k + 1) = (clampB l k).set (4 + 4 * k) ((clampB l k).getD (4 + 4 * k) 0 / 4 * 4)) := rfl
  have HLL : Hid ((clampB l k).length = 16) := by show _ = _; rw [clampB_length, hl]
  obtain ⟨n1, HN1⟩ : ∃ z, Hid (clampB l (k + 1) = z) := ⟨_, rfl⟩
  rw [HN1.out] at HN
  have hj : 4 + 4 * k < 16 := by omega
  have cK := hK.get (bcell_at (clampB l k) rest (4 + 4 * k) (by rw [HLL.out]; omega))
  have hf := hK.frozen (4 + 4 * k)
  clear hl
  generalize HC : clampB l k = lk at *
  replace HC := Lib.hid HC
  generalize hx : lk.getD (4 + 4 * k) 0 = x at *
  replace hx := Lib.hid hx
  generalize hjj : 4 + 4 * k = j at *
  replace hjj := Lib.hid hjj
  have i1 : (0 : Int) ≤ (k : Int) := by omega
  have i2 : (k : Int) < 3 := by omega
  have i3 : (j : Int) < 16 := by omega
  have i4 : (0 : Int) ≤ (j : Int) := by omega
  have hu8 := x.toNat_lt
  have MU := Lib.hid (u8_quo4 x)
  obtain ⟨hs0, hd0, h5, h35, h36, h37, h1, h2, h4, -⟩ := hF
  obtain ⟨u, rfl⟩ := frame105 a hs0 hd0
  clear hs0 hd0
  change u 5 = _ at h5
  change u 35 = _ at h35
  change u 36 = _ at h36
  change u 37 = _ at h37
  change u 1 = _ at h1
  change u 2 = _ at h2
  change u 4 = _ at h4
  rw [h5, h35, h36, h37, h1, h2, h4]
  clear h5 h35 h36 h37 h1 h2 h4
  conv => arg 2; whnf
  go_wp2_with fail
  rw [MU.out]
  refine ⟨⟨k + 1, by omega, ⟨rfl, rfl, rfl, rfl, rfl, by show Value.int .i64 ((k : Int) + 1) = _; go_num, rfl, rfl, rfl, trivial⟩, hW.but ((But.refl gk wr).setCell j _) hg, ?_, hL.other (p := ⟨gk, j, none⟩) (by show gl ≠ gk; omega) _⟩, ?_⟩
  · rw [HN1.out, HN.out, ← bcell_set _ _ _ _ (by rw [HLL.out]; omega)]
    exact hK.set j _
  · show 3 - ((k : Int) + 1).toNat < 3 - ((k : Int)).toNat
    omega
/-- Behind it. -/
def XB (w : World) (A : Option Addr) (n c gk ck : Nat) (key l : List UInt8) (rest : List Value) (a : Act) (wr : World) : Prop :=
  Fr 105 ([(5, .slice (some ⟨gk, 0, none⟩) 16 ck)] ++ sumS w A n c) a ∧ PB w wr key ∧ Cells wr gk ((clampB l 3).map cellOf ++ rest) 5
set_option maxRecDepth 100000 in
set_option maxHeartbeats 4000000 in
theorem loopB (w : World) (A : Option Addr) (n c gk ck gl : Nat) (key l : List UInt8) (rest : List Value) (wr : World) (a : Act) (Q0 : Exit → Act → World → Prop) (hl : l.length = 16) (hg : w.heap.size + 2 ≤ gk) (hgl : gk < gl)
    (hI : IB w A n c gk ck gl key l rest a wr) (hX : ∀ a wr, XB w A n c gk ck key l rest a wr → Q0 (.exit 2) a wr) : Code.wp Tryd.prog (Code.loop (sumBody 1)) Q0 a wr := by
  refine wp_loop (IB w A n c gk ck gl key l rest) muB hI ?_
  clear hI a wr
  rintro a wr ⟨k, hk, hF, hW, hK, hL⟩
  by_cases h1 : k < 3
  · exact roundB w A n c gk ck gl key l rest k wr a Q0 hl h1 hg hgl hF hW hK hL
  obtain rfl : k = 3 := by omega
  have HX := Lib.hid hX
  have HK := Lib.hid hK
  clear hX hL hK
  obtain ⟨hs0, hd0, h5, h35, h36, h37, h1, h2, h4, -⟩ := hF
  obtain ⟨u, rfl⟩ := frame105 a hs0 hd0
  clear hs0 hd0
  change u 5 = _ at h5
  change u 35 = _ at h35
  change u 36 = _ at h36
  change u 37 = _ at h37
  change u 1 = _ at h1
  change u 2 = _ at h2
  change u 4 = _ at h4
  rw [h5, h35, h36, h37, h1, h2, h4]
  clear h5 h35 h36 h37 h1 h2 h4
  conv => arg 2; whnf
  go_wp2
  exact HX.out _ _ ⟨⟨rfl, rfl, rfl, rfl, rfl, rfl, trivial⟩, hW, HK.out⟩
end Go.Proofs.YtdaieklimdhkoaaDoor
