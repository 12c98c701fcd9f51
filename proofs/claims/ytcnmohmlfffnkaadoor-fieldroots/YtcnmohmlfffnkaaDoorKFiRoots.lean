/- The walk of the law FieldRoots. (Made by tools/mklaws9.py.) -/
import Derived.Test.YtcnmohmlfffnkaaDoorPart14
import Derived.Test.YtcnmohmlfffnkaaDoorPart9
import Derived.Test.YtcnmohmlfffnkaaDoorWFlat3
import Derived.Deep.Cut
namespace Go.Proofs.YtcnmohmlfffnkaaDoor.fieldRoots
open Go.RowKit
def rtVs3 (ka : List UInt8) (kb : List UInt8) (yes : Bool) (g_base : Nat) (gkb : Nat) (x : List Nat) (y : List Nat) : List Value :=
  (hashVal ka) :: (hashVal kb) :: (.bool yes) :: (.pointer (some ⟨g_base, 0, none⟩)) :: (.pointer (some ⟨gkb, 0, none⟩)) :: undef :: (.bool false) :: undef :: undef :: undef :: undef :: undef :: undef :: undef :: undef :: undef :: undef :: undef :: (.bool true) :: (.bool false) :: (hashVal ka) :: (numVal x) :: (hashVal kb) :: (numVal y) :: undef :: undef :: undef :: undef :: undef :: undef :: undef :: undef :: undef :: undef :: undef :: undef :: undef :: undef :: undef :: undef :: undef :: undef :: undef :: undef :: undef :: undef :: undef :: undef :: undef :: undef :: undef :: undef :: undef :: undef :: undef :: undef :: undef :: undef :: undef :: undef :: undef :: undef :: undef :: undef :: undef :: undef :: undef :: undef :: undef :: undef :: undef :: undef :: undef :: undef :: undef :: undef :: undef :: undef :: undef :: undef :: undef :: undef :: undef :: undef :: undef :: undef :: undef :: undef :: undef :: undef :: undef :: undef :: undef :: undef :: undef :: undef :: undef :: undef :: undef :: undef :: undef :: undef :: undef :: undef :: undef :: undef :: undef :: undef :: undef :: undef :: undef :: undef :: undef :: undef :: undef :: undef :: undef :: undef :: undef :: undef :: undef :: undef :: undef :: undef :: undef :: undef :: []
def rtVs3N (ka : List UInt8) (kb : List UInt8) (yes : Bool) (g_base : Nat) (gkb : Nat) (x : List Nat) (y : List Nat) (n7 n8 : Nat) : List Value :=
  (hashVal ka) :: (hashVal kb) :: (.bool yes) :: (.pointer (some ⟨g_base, 0, none⟩)) :: (.pointer (some ⟨gkb, 0, none⟩)) :: undef :: (.bool false) :: (.pointer (some ⟨n7, 0, none⟩)) :: (.pointer (some ⟨n8, 0, none⟩)) :: undef :: undef :: undef :: undef :: undef :: undef :: undef :: undef :: undef :: (.bool true) :: (.bool false) :: (hashVal ka) :: (numVal x) :: (hashVal kb) :: (numVal y) :: undef :: undef :: undef :: undef :: undef :: undef :: undef :: undef :: undef :: undef :: undef :: undef :: undef :: undef :: undef :: undef :: undef :: undef :: undef :: undef :: undef :: undef :: undef :: undef :: undef :: undef :: undef :: undef :: undef :: undef :: undef :: undef :: undef :: undef :: undef :: undef :: undef :: undef :: undef :: undef :: undef :: undef :: undef :: undef :: undef :: undef :: undef :: undef :: undef :: undef :: undef :: undef :: undef :: undef :: undef :: undef :: undef :: undef :: undef :: undef :: undef :: undef :: undef :: undef :: undef :: undef :: undef :: undef :: undef :: undef :: undef :: undef :: undef :: undef :: undef :: undef :: undef :: undef :: undef :: undef :: undef :: undef :: undef :: undef :: undef :: undef :: undef :: undef :: undef :: undef :: undef :: undef :: undef :: undef :: undef :: undef :: undef :: undef :: undef :: undef :: undef :: undef :: []
def rtVs5_1 (ka : List UInt8) (kb : List UInt8) (yes : Bool) (g_base : Nat) (gkb : Nat) (gx : Nat) (gy : Nat) (gr : Nat) (x : List Nat) (y : List Nat) (r : List Nat) (sq : List Nat) (rr : List Nat) (b1 : Bool) (su : List Nat) : List Value :=
  (hashVal ka) :: (hashVal kb) :: (.bool yes) :: (.pointer (some ⟨g_base, 0, none⟩)) :: (.pointer (some ⟨gkb, 0, none⟩)) :: undef :: (.bool false) :: (.pointer (some ⟨gx, 0, none⟩)) :: (.pointer (some ⟨gy, 0, none⟩)) :: (.pointer (some ⟨gr, 0, none⟩)) :: (.bool true) :: undef :: undef :: undef :: undef :: undef :: undef :: undef :: (.bool true) :: (.bool false) :: (hashVal ka) :: (numVal x) :: (hashVal kb) :: (numVal y) :: (.tuple #[numVal r, .bool true]) :: (numVal x) :: (numVal sq) :: (.tuple #[numVal r, .bool true]) :: (numVal r) :: (.bool true) :: (.bool true) :: (.bool false) :: (.bool false) :: (numVal r) :: (numVal rr) :: (numVal x) :: (numVal sq) :: (.bool true) :: (.bool false) :: (.bool false) :: (.bool false) :: (numVal r) :: (.bool false) :: (.bool false) :: (.bool false) :: (numVal r) :: (numVal x) :: (bif b1 then (.bool true) else (.bool false)) :: (bif b1 then (.bool false) else (.bool true)) :: (bif b1 then (.bool false) else (.bool true)) :: (bif b1 then undef else (numVal r)) :: (bif b1 then undef else (numVal x)) :: (bif b1 then undef else (numVal su)) :: (bif b1 then undef else (.bool true)) :: (bif b1 then undef else (.bool false)) :: (.bool false) :: (.bool false) :: undef :: undef :: undef :: undef :: undef :: undef :: undef :: undef :: undef :: undef :: undef :: undef :: undef :: undef :: undef :: undef :: undef :: undef :: undef :: undef :: undef :: undef :: undef :: undef :: undef :: undef :: undef :: undef :: undef :: undef :: undef :: undef :: undef :: undef :: undef :: undef :: undef :: undef :: undef :: undef :: undef :: undef :: undef :: undef :: undef :: undef :: undef :: undef :: undef :: undef :: undef :: undef :: undef :: undef :: undef :: undef :: undef :: undef :: undef :: undef :: undef :: undef :: undef :: undef :: undef :: undef :: undef :: undef :: undef :: []
def rtVs10_2 (ka : List UInt8) (kb : List UInt8) (yes : Bool) (g_base : Nat) (gkb : Nat) (gx : Nat) (gy : Nat) (gr : Nat) (grx : Nat) (px : Bool) (gry : Nat) (py : Bool) (grb : Nat) (both : Bool) (x : List Nat) (y : List Nat) (r : List Nat) (sq : List Nat) (rr : List Nat) (b1 : Bool) (su : List Nat) (rx : List Nat) (ry : List Nat) (rxy : List Nat) (xy : List Nat) (zx : Bool) (zy : Bool) : List Value :=
  (hashVal ka) :: (hashVal kb) :: (.bool yes) :: (.pointer (some ⟨g_base, 0, none⟩)) :: (.pointer (some ⟨gkb, 0, none⟩)) :: undef :: (.bool false) :: (.pointer (some ⟨gx, 0, none⟩)) :: (.pointer (some ⟨gy, 0, none⟩)) :: (.pointer (some ⟨gr, 0, none⟩)) :: (.bool true) :: (.pointer (some ⟨grx, 0, none⟩)) :: (.bool px) :: (.pointer (some ⟨gry, 0, none⟩)) :: (.bool py) :: (.pointer (some ⟨grb, 0, none⟩)) :: (.bool both) :: undef :: (.bool true) :: (.bool false) :: (hashVal ka) :: (numVal x) :: (hashVal kb) :: (numVal y) :: (.tuple #[numVal r, .bool true]) :: (numVal x) :: (numVal sq) :: (.tuple #[numVal r, .bool true]) :: (numVal r) :: (.bool true) :: (.bool true) :: (.bool false) :: (.bool false) :: (numVal r) :: (numVal rr) :: (numVal x) :: (numVal sq) :: (.bool true) :: (.bool false) :: (.bool false) :: (.bool false) :: (numVal r) :: (.bool false) :: (.bool false) :: (.bool false) :: (numVal r) :: (numVal x) :: (bif b1 then (.bool true) else (.bool false)) :: (bif b1 then (.bool false) else (.bool true)) :: (bif b1 then (.bool false) else (.bool true)) :: (bif b1 then undef else (numVal r)) :: (bif b1 then undef else (numVal x)) :: (bif b1 then undef else (numVal su)) :: (bif b1 then undef else (.bool true)) :: (bif b1 then undef else (.bool false)) :: (.bool false) :: (.bool false) :: (.tuple #[numVal rx, .bool px]) :: (numVal x) :: (.tuple #[numVal rx, .bool px]) :: (numVal rx) :: (.bool px) :: (.tuple #[numVal ry, .bool py]) :: (numVal y) :: (.tuple #[numVal ry, .bool py]) :: (numVal ry) :: (.bool py) :: (.tuple #[numVal rxy, .bool both]) :: (numVal x) :: (numVal y) :: (numVal xy) :: (.tuple #[numVal rxy, .bool both]) :: (numVal rxy) :: (.bool both) :: (numVal x) :: (bif zx then (.bool true) else (.bool false)) :: (bif zx then (.bool false) else (.bool true)) :: (bif zx then (.bool false) else (.bool true)) :: (bif zx then undef else (numVal y)) :: (bif zx then undef else (bif zy then (.bool true) else (.bool false))) :: (bif zx then undef else (bif zy then (.bool false) else (.bool true))) :: (bif zx then (.bool false) else (bif zy then (.bool false) else (.bool true))) :: (bif zx then (.bool false) else (bif zy then (.bool false) else (.bool true))) :: (bif zx then undef else (bif zy then undef else (.bool both))) :: (bif zx then undef else (bif zy then undef else (.bool px))) :: (bif zx then undef else (bif zy then undef else (.bool py))) :: (bif zx then undef else (bif zy then undef else (.bool (px == py)))) :: (bif zx then undef else (bif zy then undef else (.bool false))) :: (.bool false) :: undef :: undef :: undef :: undef :: undef :: undef :: undef :: undef :: undef :: undef :: undef :: undef :: undef :: undef :: undef :: undef :: undef :: undef :: undef :: undef :: undef :: undef :: undef :: undef :: undef :: undef :: undef :: undef :: undef :: undef :: undef :: undef :: undef :: undef :: undef :: undef :: undef :: []
def rtVs13_3 (ka : List UInt8) (kb : List UInt8) (yes : Bool) (g_base : Nat) (gkb : Nat) (gx : Nat) (gy : Nat) (gr : Nat) (grx : Nat) (px : Bool) (gry : Nat) (py : Bool) (grb : Nat) (both : Bool) (gs : Nat) (x : List Nat) (y : List Nat) (r : List Nat) (sq : List Nat) (rr : List Nat) (b1 : Bool) (su : List Nat) (rx : List Nat) (ry : List Nat) (rxy : List Nat) (xy : List Nat) (zx : Bool) (zy : Bool) (pk : List Nat) : List Value :=
  (hashVal ka) :: (hashVal kb) :: (.bool yes) :: (.pointer (some ⟨g_base, 0, none⟩)) :: (.pointer (some ⟨gkb, 0, none⟩)) :: undef :: (.bool false) :: (.pointer (some ⟨gx, 0, none⟩)) :: (.pointer (some ⟨gy, 0, none⟩)) :: (.pointer (some ⟨gr, 0, none⟩)) :: (.bool true) :: (.pointer (some ⟨grx, 0, none⟩)) :: (.bool px) :: (.pointer (some ⟨gry, 0, none⟩)) :: (.bool py) :: (.pointer (some ⟨grb, 0, none⟩)) :: (.bool both) :: (.pointer (some ⟨gs, 0, none⟩)) :: (.bool true) :: (.bool false) :: (hashVal ka) :: (numVal x) :: (hashVal kb) :: (numVal y) :: (.tuple #[numVal r, .bool true]) :: (numVal x) :: (numVal sq) :: (.tuple #[numVal r, .bool true]) :: (numVal r) :: (.bool true) :: (.bool true) :: (.bool false) :: (.bool false) :: (numVal r) :: (numVal rr) :: (numVal x) :: (numVal sq) :: (.bool true) :: (.bool false) :: (.bool false) :: (.bool false) :: (numVal r) :: (.bool false) :: (.bool false) :: (.bool false) :: (numVal r) :: (numVal x) :: (bif b1 then (.bool true) else (.bool false)) :: (bif b1 then (.bool false) else (.bool true)) :: (bif b1 then (.bool false) else (.bool true)) :: (bif b1 then undef else (numVal r)) :: (bif b1 then undef else (numVal x)) :: (bif b1 then undef else (numVal su)) :: (bif b1 then undef else (.bool true)) :: (bif b1 then undef else (.bool false)) :: (.bool false) :: (.bool false) :: (.tuple #[numVal rx, .bool px]) :: (numVal x) :: (.tuple #[numVal rx, .bool px]) :: (numVal rx) :: (.bool px) :: (.tuple #[numVal ry, .bool py]) :: (numVal y) :: (.tuple #[numVal ry, .bool py]) :: (numVal ry) :: (.bool py) :: (.tuple #[numVal rxy, .bool both]) :: (numVal x) :: (numVal y) :: (numVal xy) :: (.tuple #[numVal rxy, .bool both]) :: (numVal rxy) :: (.bool both) :: (numVal x) :: (bif zx then (.bool true) else (.bool false)) :: (bif zx then (.bool false) else (.bool true)) :: (bif zx then (.bool false) else (.bool true)) :: (bif zx then undef else (numVal y)) :: (bif zx then undef else (bif zy then (.bool true) else (.bool false))) :: (bif zx then undef else (bif zy then (.bool false) else (.bool true))) :: (bif zx then (.bool false) else (bif zy then (.bool false) else (.bool true))) :: (bif zx then (.bool false) else (bif zy then (.bool false) else (.bool true))) :: (bif zx then undef else (bif zy then undef else (.bool both))) :: (bif zx then undef else (bif zy then undef else (.bool px))) :: (bif zx then undef else (bif zy then undef else (.bool py))) :: (bif zx then undef else (bif zy then undef else (.bool (px == py)))) :: (bif zx then undef else (bif zy then undef else (.bool false))) :: (.bool false) :: (.bool yes) :: (numVal x) :: (numVal y) :: (numVal pk) :: (bif yes then (.bool true) else (.bool false)) :: (bif yes then (.bool true) else (.bool false)) :: (bif yes then (numVal pk) else undef) :: (bif yes then (numVal x) else undef) :: (bif yes then (.bool true) else undef) :: (bif yes then (.bool false) else undef) :: (.bool false) :: (.bool false) :: (bif yes then (.bool true) else (.bool false)) :: (bif yes then (.bool false) else (.bool true)) :: (bif yes then (.bool false) else (.bool true)) :: (bif yes then undef else (numVal pk)) :: (bif yes then undef else (numVal y)) :: (bif yes then undef else (.bool true)) :: (bif yes then undef else (.bool false)) :: (.bool false) :: (.bool false) :: undef :: undef :: undef :: undef :: undef :: undef :: undef :: undef :: undef :: undef :: undef :: undef :: undef :: undef :: undef :: undef :: []
set_option maxRecDepth 100000 in
set_option maxHeartbeats 4000000 in
theorem walk_over (ka kb : List UInt8) (x y sq r rr su rx ry xy rxy pk cu dc bx dx b_y dy tl tcl txl tyl : List Nat) (b1 px py both zx zy yes : Bool) (w : World)
    (Hka : Hid (ka.length = 32))
    (Hkb : Hid (kb.length = 32))
    (Hx : Hid (x.length = 5))
    (Hy : Hid (y.length = 5))
    (Hr : Hid (r.length = 5))
    (Hrx : Hid (rx.length = 5))
    (Hry : Hid (ry.length = 5))
    (Hrxy : Hid (rxy.length = 5))
    (HPKL : Hid (pk.length = 5))
    (CX : Hid (∀ W, Calls Tryd.prog 10 #[hashVal ka] W fun e w' => e = .returned (numVal x) ∧ Below W.heap.size W w'))
    (CY : Hid (∀ W, Calls Tryd.prog 10 #[hashVal kb] W fun e w' => e = .returned (numVal y) ∧ Below W.heap.size W w'))
    (CSQ : Hid (∀ W, Calls Tryd.prog 25 #[numVal x] W fun e w' => e = .returned (numVal sq) ∧ Below W.heap.size W w'))
    (CR : Hid (∀ W, Tab W 19 (tl.map ncell) → Calls Tryd.prog 29 #[numVal sq] W fun e w' => e = .returned (.tuple #[numVal r, .bool true]) ∧ Below W.heap.size W w'))
    (CRR : Hid (∀ W, Calls Tryd.prog 25 #[numVal r] W fun e w' => e = .returned (numVal rr) ∧ Below W.heap.size W w'))
    (S1 : Hid (∀ W, Calls Tryd.prog 26 #[numVal rr, numVal sq] W fun e w' => e = .returned (.bool true) ∧ Below W.heap.size W w'))
    (CO : Hid (∀ W, Calls Tryd.prog 18 #[numVal r] W fun e w' => e = .returned (.bool false) ∧ Below W.heap.size W w'))
    (S2 : Hid (∀ W, Calls Tryd.prog 26 #[numVal r, numVal x] W fun e w' => e = .returned (.bool b1) ∧ Below W.heap.size W w'))
    (CSU : Hid (∀ W, Calls Tryd.prog 19 #[numVal r, numVal x] W fun e w' => e = .returned (numVal su) ∧ Below W.heap.size W w'))
    (CZ1 : Hid (b1 = false → ∀ W, Calls Tryd.prog 14 #[numVal su] W fun e w' => e = .returned (.bool true) ∧ Below W.heap.size W w'))
    (CRX : Hid (∀ W, Tab W 19 (tl.map ncell) → Calls Tryd.prog 29 #[numVal x] W fun e w' => e = .returned (.tuple #[numVal rx, .bool px]) ∧ Below W.heap.size W w'))
    (CRY : Hid (∀ W, Tab W 19 (tl.map ncell) → Calls Tryd.prog 29 #[numVal y] W fun e w' => e = .returned (.tuple #[numVal ry, .bool py]) ∧ Below W.heap.size W w'))
    (CXY : Hid (∀ W, Calls Tryd.prog 23 #[numVal x, numVal y] W fun e w' => e = .returned (numVal xy) ∧ Below W.heap.size W w'))
    (CRXY : Hid (∀ W, Tab W 19 (tl.map ncell) → Calls Tryd.prog 29 #[numVal xy] W fun e w' => e = .returned (.tuple #[numVal rxy, .bool both]) ∧ Below W.heap.size W w'))
    (CZX : Hid (∀ W, Calls Tryd.prog 14 #[numVal x] W fun e w' => e = .returned (.bool zx) ∧ Below W.heap.size W w'))
    (CZY : Hid (∀ W, Calls Tryd.prog 14 #[numVal y] W fun e w' => e = .returned (.bool zy) ∧ Below W.heap.size W w'))
    (HBO : Hid (zx = false → zy = false → both = (px == py)))
    (CPK : Hid (∀ W, Calls Tryd.prog 31 #[.bool yes, numVal x, numVal y] W fun e w' => e = .returned (numVal pk) ∧ Below W.heap.size W w'))
    (S3 : Hid (yes = true → ∀ W, Calls Tryd.prog 26 #[numVal pk, numVal x] W fun e w' => e = .returned (.bool true) ∧ Below W.heap.size W w'))
    (S4 : Hid (yes = false → ∀ W, Calls Tryd.prog 26 #[numVal pk, numVal y] W fun e w' => e = .returned (.bool true) ∧ Below W.heap.size W w'))
    (CC : Hid (∀ W, Calls Tryd.prog 32 #[] W fun e w' => e = .returned (.bool true) ∧ Below W.heap.size W w'))
    (CCU : Hid (∀ W, Tab W 20 (tcl.map ncell) → Calls Tryd.prog 33 #[] W fun e w' => e = .returned (numVal cu) ∧ Below W.heap.size W w'))
    (CBX : Hid (∀ W, Tab W 21 (txl.map ncell) → Calls Tryd.prog 35 #[] W fun e w' => e = .returned (numVal bx) ∧ Below W.heap.size W w'))
    (CBY : Hid (∀ W, Tab W 22 (tyl.map ncell) → Calls Tryd.prog 37 #[] W fun e w' => e = .returned (numVal b_y) ∧ Below W.heap.size W w'))
    (DCU : Hid (∀ W, Calls Tryd.prog 34 #[] W fun e w' => e = .returned (numD dc) ∧ Below W.heap.size W w'))
    (DBX : Hid (∀ W, Calls Tryd.prog 36 #[] W fun e w' => e = .returned (numD dx) ∧ Below W.heap.size W w'))
    (DBY : Hid (∀ W, Calls Tryd.prog 38 #[] W fun e w' => e = .returned (numD dy) ∧ Below W.heap.size W w'))
    (S5 : Hid (∀ W, Calls Tryd.prog 13 #[numVal cu, numD dc] W fun e w' => e = .returned (.bool true) ∧ Below W.heap.size W w'))
    (S6 : Hid (∀ W, Calls Tryd.prog 13 #[numVal bx, numD dx] W fun e w' => e = .returned (.bool true) ∧ Below W.heap.size W w'))
    (S7 : Hid (∀ W, Calls Tryd.prog 13 #[numVal b_y, numD dy] W fun e w' => e = .returned (.bool true) ∧ Below W.heap.size W w'))
    (hTB : Tab w 19 (tl.map ncell))
    (hTC : Tab w 20 (tcl.map ncell))
    (hTX : Tab w 21 (txl.map ncell))
    (hTY : Tab w 22 (tyl.map ncell)) :
    Calls Tryd.prog 7 #[hashVal ka, hashVal kb, .bool yes] w fun e w' => e = .returned (.bool true) ∧ Below w.heap.size w w' := by
  go_enter Tryd.func7, Tryd.ntmps7
  go_wp2_with (first
    | (refine take_step rfl 23 (.tmp 0) rfl ka rfl ?_
       intro w1 hb1 hvka1 hz
       clear hz
       have hB1 := hb1
       have hgeka : w.heap.size ≤ w.heap.size := Nat.le_refl _
       have hvtb1 := hTB.on hb1
       have hnetbka := Nat.ne_of_lt hTB.lt
       have hvtc1 := hTC.on hb1
       have hnetcka := Nat.ne_of_lt hTC.lt
       have hvtx1 := hTX.on hb1
       have hnetxka := Nat.ne_of_lt hTX.lt
       have hvty1 := hTY.on hb1
       have hnetyka := Nat.ne_of_lt hTY.lt
       clear hTB hTC hTX hTY hb1
       try simp only [Act.put, List.setIfInBounds_toArray, List.set_cons_zero, List.set_cons_succ]
       skip)
    | (refine take_step rfl 23 (.tmp 1) rfl kb rfl ?_
       intro w2 hb2 hvkb2 hz
       clear hz
       have hB2 := below_then hB1 hb2
       have hgekb : w.heap.size ≤ w1.heap.size := hB1.size
       have hvtb2 := hvtb1.on hb2
       have hnetbkb := Nat.ne_of_lt hvtb1.lt
       have hvtc2 := hvtc1.on hb2
       have hnetckb := Nat.ne_of_lt hvtc1.lt
       have hvtx2 := hvtx1.on hb2
       have hnetxkb := Nat.ne_of_lt hvtx1.lt
       have hvty2 := hvty1.on hb2
       have hnetykb := Nat.ne_of_lt hvty1.lt
       have hvka2 := hvka1.on hb2
       have hnekakb := Nat.ne_of_lt hvka1.lt
       clear hB1 hvtb1 hvtc1 hvtx1 hvty1 hvka1 hb2
       try simp only [Act.put, List.setIfInBounds_toArray, List.set_cons_zero, List.set_cons_succ]
       skip))
  generalize hqkb : w1.heap.size = gkb at *
  clear hqkb
  refine (alive9 w2).mono ?_
  rintro e w3 ⟨rfl, hb3⟩
  have hB3 := below_then hB2 hb3
  have hvtb3 := hvtb2.on hb3
  have hvtc3 := hvtc2.on hb3
  have hvtx3 := hvtx2.on hb3
  have hvty3 := hvty2.on hb3
  have hvka3 := hvka2.on hb3
  have hvkb3 := hvkb2.on hb3
  clear hB2 hvtb2 hvtc2 hvtx2 hvty2 hvka2 hvkb2 hb3
  go_wp2_with fail
  replace hvtb3 := hvtb3.drew
  replace hvtc3 := hvtc3.drew
  replace hvtx3 := hvtx3.drew
  replace hvty3 := hvty3.drew
  replace hvka3 := hvka3.drew
  replace hvkb3 := hvkb3.drew
  refine wp_region_any (by kernel_rfl) ?_
  refine wpAny_flatM (L := [0, 1, 2, 3, 4, 5]) (by kernel_rfl) _ _ (rtVs3 ka kb yes w.heap.size gkb x y) [(4, 7), (5, 8)] 33 (nzeros 5) [0, 1, 2, 3, 4, 5, 6, 9, 10, 11, 12, 13, 14, 15, 16, 17, 18, 19, 24, 25, 26, 27, 28, 29, 30, 31, 32, 33, 34, 35, 36, 37, 38, 39, 40, 41, 42, 43, 44, 45, 46, 47, 48, 49, 50, 51, 52, 53, 54, 55, 56, 57, 58, 59, 60, 61, 62, 63, 64, 65, 66, 67, 68, 69, 70, 71, 72, 73, 74, 75, 76, 77, 78, 79, 80, 81, 82, 83, 84, 85, 86, 87, 88, 89, 90, 91, 92, 93, 94, 95, 96, 97, 98, 99, 100, 101, 102, 103, 104, 105, 106, 107, 108, 109, 110, 111, 112, 113, 114, 115, 116, 117, 118, 119, 120, 121, 122, 123, 124, 125] (by kernel_rfl) (by kernel_rfl) ?_ zero_elem ?_ (by rfl) ?_ 2 (by kernel_rfl) ?_
  · intro p hp
    rcases List.mem_cons.1 hp with rfl | hp
    · exact ⟨⟨_, rfl, rfl, rfl, rfl, by kernel_rfl, by kernel_rfl⟩⟩
    rcases List.mem_cons.1 hp with rfl | hp
    · exact ⟨⟨_, rfl, rfl, rfl, rfl, by kernel_rfl, by kernel_rfl⟩⟩
    exact absurd hp List.not_mem_nil
  · exact all_cons rfl (all_cons rfl (all_cons rfl (all_cons rfl (all_cons rfl (all_cons rfl (all_cons rfl (all_cons rfl (all_cons rfl (all_cons rfl (all_cons rfl (all_cons rfl (all_cons rfl (all_cons rfl (all_cons rfl (all_cons rfl (all_cons rfl (all_cons rfl (all_cons rfl (all_cons rfl (all_cons rfl (all_cons rfl (all_cons rfl (all_cons rfl (all_cons rfl (all_cons rfl (all_cons rfl (all_cons rfl (all_cons rfl (all_cons rfl (all_cons rfl (all_cons rfl (all_cons rfl (all_cons rfl (all_cons rfl (all_cons rfl (all_cons rfl (all_cons rfl (all_cons rfl (all_cons rfl (all_cons rfl (all_cons rfl (all_cons rfl (all_cons rfl (all_cons rfl (all_cons rfl (all_cons rfl (all_cons rfl (all_cons rfl (all_cons rfl (all_cons rfl (all_cons rfl (all_cons rfl (all_cons rfl (all_cons rfl (all_cons rfl (all_cons rfl (all_cons rfl (all_cons rfl (all_cons rfl (all_cons rfl (all_cons rfl (all_cons rfl (all_cons rfl (all_cons rfl (all_cons rfl (all_cons rfl (all_cons rfl (all_cons rfl (all_cons rfl (all_cons rfl (all_cons rfl (all_cons rfl (all_cons rfl (all_cons rfl (all_cons rfl (all_cons rfl (all_cons rfl (all_cons rfl (all_cons rfl (all_cons rfl (all_cons rfl (all_cons rfl (all_cons rfl (all_cons rfl (all_cons rfl (all_cons rfl (all_cons rfl (all_cons rfl (all_cons rfl (all_cons rfl (all_cons rfl (all_cons rfl (all_cons rfl (all_cons rfl (all_cons rfl (all_cons rfl (all_cons rfl (all_cons rfl (all_cons rfl (all_cons rfl (all_cons rfl (all_cons rfl (all_cons rfl (all_cons rfl (all_cons rfl (all_cons rfl (all_cons rfl (all_cons rfl (all_cons rfl (all_cons rfl (all_cons rfl (all_cons rfl (all_cons rfl (all_cons rfl (all_cons rfl (all_cons rfl (all_cons rfl (all_cons rfl (all_cons rfl (all_nil))))))))))))))))))))))))))))))))))))))))))))))))))))))))))))))))))))))))))))))))))))))))))))))))))))))))))))))))))))))))
  · refine all_cons (.inr (mStep _ 20 rfl rfl rfl rfl (by kernel_rfl) (fun a hv => wanted_all rfl _) (fun a w K hb hv hK => mPure (hashVal ka) (exec_load _ _ _ _ rfl _ _ (hv 3 (by kernel_rfl) rfl) w (key_run (hvka3.on hb) Hka.out)) hK))) ?_
    refine all_cons (.inr (mStep _ 21 rfl rfl rfl rfl (by kernel_rfl) (fun a hv => wanted_all rfl _) (fun a w K hb hv hK => mCall (numVal x) 10 _ _ rfl [hashVal ka] (cons_eq (hv 20 (by kernel_rfl) rfl) (rfl)) (enters Tryd.func10 rfl rfl) (CX.out w) hK))) ?_
    refine all_cons (.inr (mStep _ 22 rfl rfl rfl rfl (by kernel_rfl) (fun a hv => wanted_all rfl _) (fun a w K hb hv hK => mPure (hashVal kb) (exec_load _ _ _ _ rfl _ _ (hv 4 (by kernel_rfl) rfl) w (key_run (hvkb3.on hb) Hkb.out)) hK))) ?_
    refine all_cons (.inr (mStep _ 23 rfl rfl rfl rfl (by kernel_rfl) (fun a hv => wanted_all rfl _) (fun a w K hb hv hK => mCall (numVal y) 10 _ _ rfl [hashVal kb] (cons_eq (hv 22 (by kernel_rfl) rfl) (rfl)) (enters Tryd.func10 rfl rfl) (CY.out w) hK))) ?_
    refine all_cons (.inl ⟨(4, 7), by simp, rfl⟩) ?_
    refine all_cons (.inl ⟨(5, 8), by simp, rfl⟩) ?_
    exact all_nil
  intro w4 g hb4 hN4 hap4
  obtain ⟨hgex, hvx4⟩ := hN4 (4, 7) (by simp)
  obtain ⟨hgey, hvy4⟩ := hN4 (5, 8) (by simp)
  have hnexy := hap4 (4, 7) (by simp) (5, 8) (by simp) (by decide)
  clear hN4 hap4
  have hB4 := below_then (show Below w.heap.size w w3.drew from hB3.drew) hb4
  have hlttb : 19 < w3.heap.size := hvtb3.lt
  have hlttc : 20 < w3.heap.size := hvtc3.lt
  have hlttx : 21 < w3.heap.size := hvtx3.lt
  have hltty : 22 < w3.heap.size := hvty3.lt
  have hltka : w.heap.size < w3.heap.size := hvka3.lt
  have hltkb : gkb < w3.heap.size := hvkb3.lt
  have hvtb4 := hvtb3.on hb4
  have hvtc4 := hvtc3.on hb4
  have hvtx4 := hvtx3.on hb4
  have hvty4 := hvty3.on hb4
  have hvka4 := hvka3.on hb4
  have hvkb4 := hvkb3.on hb4
  rw [show withNew g [(4, 7), (5, 8)] (rtVs3 ka kb yes w.heap.size gkb x y) = rtVs3N ka kb yes w.heap.size gkb x y (g 7) (g 8) from rfl]
  replace hgex : w3.heap.size ≤ g 7 := hgex
  replace hvx4 : Cells w4 (g 7) (nzeros 5) 33 := hvx4
  replace hgey : w3.heap.size ≤ g 8 := hgey
  replace hvy4 : Cells w4 (g 8) (nzeros 5) 33 := hvy4
  replace hnexy : g 7 ≠ g 8 := hnexy
  have hnetbx : 19 ≠ g 7 := Nat.ne_of_lt (Nat.lt_of_lt_of_le hlttb hgex)
  have hnetcx : 20 ≠ g 7 := Nat.ne_of_lt (Nat.lt_of_lt_of_le hlttc hgex)
  have hnetxx : 21 ≠ g 7 := Nat.ne_of_lt (Nat.lt_of_lt_of_le hlttx hgex)
  have hnetyx : 22 ≠ g 7 := Nat.ne_of_lt (Nat.lt_of_lt_of_le hltty hgex)
  have hnekax : w.heap.size ≠ g 7 := Nat.ne_of_lt (Nat.lt_of_lt_of_le hltka hgex)
  have hnekbx : gkb ≠ g 7 := Nat.ne_of_lt (Nat.lt_of_lt_of_le hltkb hgex)
  replace hgex : w.heap.size ≤ g 7 := Nat.le_trans (show w.heap.size ≤ w3.heap.size from hB3.size) hgex
  have hnetby : 19 ≠ g 8 := Nat.ne_of_lt (Nat.lt_of_lt_of_le hlttb hgey)
  have hnetcy : 20 ≠ g 8 := Nat.ne_of_lt (Nat.lt_of_lt_of_le hlttc hgey)
  have hnetxy : 21 ≠ g 8 := Nat.ne_of_lt (Nat.lt_of_lt_of_le hlttx hgey)
  have hnetyy : 22 ≠ g 8 := Nat.ne_of_lt (Nat.lt_of_lt_of_le hltty hgey)
  have hnekay : w.heap.size ≠ g 8 := Nat.ne_of_lt (Nat.lt_of_lt_of_le hltka hgey)
  have hnekby : gkb ≠ g 8 := Nat.ne_of_lt (Nat.lt_of_lt_of_le hltkb hgey)
  replace hgey : w.heap.size ≤ g 8 := Nat.le_trans (show w.heap.size ≤ w3.heap.size from hB3.size) hgey
  clear hlttb hlttc hlttx hltty hltka hltkb
  generalize g 7 = gx at *
  generalize g 8 = gy at *
  clear hB3 hvtb3 hvtc3 hvtx3 hvty3 hvka3 hvkb3 hb4
  refine wpAny_rest 6 rfl (by kernel_rfl) ?_
  refine vset_step rfl 33 (.tmp 7) (.tmp 21) rfl gx 5 (nzeros 5) (x.map ncell) rfl rfl hvx4 rfl size_elem (by rw [List.length_map, Hx.out]) (ncells_one _) ?_
  intro w5 hb5 hvx5 hz5
  have hB5 : Below w.heap.size w w5 := hB4.trans (hb5.below hgex hB4.size)
  have hvtb5 := hvtb4.but hb5 hnetbx
  have hvtc5 := hvtc4.but hb5 hnetcx
  have hvtx5 := hvtx4.but hb5 hnetxx
  have hvty5 := hvty4.but hb5 hnetyx
  have hvka5 := hvka4.but hb5 hnekax
  have hvkb5 := hvkb4.but hb5 hnekbx
  have hvy5 := hvy4.but hb5 (Ne.symm hnexy)
  clear hB4 hvx4 hb5 hz5 hvtb4 hvtc4 hvtx4 hvty4 hvka4 hvkb4 hvy4
  refine vset_step rfl 33 (.tmp 8) (.tmp 23) rfl gy 5 (nzeros 5) (y.map ncell) rfl rfl hvy5 rfl size_elem (by rw [List.length_map, Hy.out]) (ncells_one _) ?_
  intro w6 hb6 hvy6 hz6
  have hB6 : Below w.heap.size w w6 := hB5.trans (hb6.below hgey hB5.size)
  have hvtb6 := hvtb5.but hb6 hnetby
  have hvtc6 := hvtc5.but hb6 hnetcy
  have hvtx6 := hvtx5.but hb6 hnetxy
  have hvty6 := hvty5.but hb6 hnetyy
  have hvka6 := hvka5.but hb6 hnekay
  have hvkb6 := hvkb5.but hb6 hnekby
  have hvx6 := hvx5.but hb6 hnexy
  clear hB5 hvy5 hb6 hz6 hvtb5 hvtc5 hvtx5 hvty5 hvka5 hvkb5 hvx5
  rename_i K hKK
  show Exit.then K _ Exit.normal (⟨(rtVs3N ka kb yes w.heap.size gkb x y gx gy).toArray, []⟩ : Act) w6
  simp only [Exit.then]
  refine hKK _ _ ?_
  clear hKK K g
  simp only [rtVs3N]
  go_wp2_with (first
    | (refine sget_step rfl 33 (.tmp 7) rfl gx 5 (x.map ncell) rfl hvx6 Tryd.underlying33 rfl size_elem (by rw [List.length_map, Hx.out]) ?_
       try simp only [Act.put, List.setIfInBounds_toArray, List.set_cons_zero, List.set_cons_succ]
       skip))
  refine (CSQ.out w6).mono ?_
  rintro e w7 ⟨rfl, hb7⟩
  have hB7 := below_then hB6 hb7
  have hvtb7 := hvtb6.on hb7
  have hvtc7 := hvtc6.on hb7
  have hvtx7 := hvtx6.on hb7
  have hvty7 := hvty6.on hb7
  have hvka7 := hvka6.on hb7
  have hvkb7 := hvkb6.on hb7
  have hvx7 := hvx6.on hb7
  have hvy7 := hvy6.on hb7
  clear hB6 hvtb6 hvtc6 hvtx6 hvty6 hvka6 hvkb6 hvx6 hvy6 hb7
  go_wp2_with fail
  refine (CR.out w7 hvtb7).mono ?_
  rintro e w8 ⟨rfl, hb8⟩
  have hB8 := below_then hB7 hb8
  have hvtb8 := hvtb7.on hb8
  have hvtc8 := hvtc7.on hb8
  have hvtx8 := hvtx7.on hb8
  have hvty8 := hvty7.on hb8
  have hvka8 := hvka7.on hb8
  have hvkb8 := hvkb7.on hb8
  have hvx8 := hvx7.on hb8
  have hvy8 := hvy7.on hb8
  clear hB7 hvtb7 hvtc7 hvtx7 hvty7 hvka7 hvkb7 hvx7 hvy7 hb8
  go_wp2_with (first
    | (refine vput_step rfl rfl 33 (.tmp 9) (.tmp 28) rfl rfl 5 (nzeros 5) (r.map ncell) rfl rfl zero_elem rfl size_elem (by rw [List.length_map, Hr.out]) (ncells_one _) ?_
       intro w9 hb9 hvr9
       have hB9 := below_then hB8 hb9
       have hger : w.heap.size ≤ w8.heap.size := hB8.size
       have hvtb9 := hvtb8.on hb9
       have hnetbr := Nat.ne_of_lt hvtb8.lt
       have hvtc9 := hvtc8.on hb9
       have hnetcr := Nat.ne_of_lt hvtc8.lt
       have hvtx9 := hvtx8.on hb9
       have hnetxr := Nat.ne_of_lt hvtx8.lt
       have hvty9 := hvty8.on hb9
       have hnetyr := Nat.ne_of_lt hvty8.lt
       have hvka9 := hvka8.on hb9
       have hnekar := Nat.ne_of_lt hvka8.lt
       have hvkb9 := hvkb8.on hb9
       have hnekbr := Nat.ne_of_lt hvkb8.lt
       have hvx9 := hvx8.on hb9
       have hnexr := Nat.ne_of_lt hvx8.lt
       have hvy9 := hvy8.on hb9
       have hneyr := Nat.ne_of_lt hvy8.lt
       clear hB8 hvtb8 hvtc8 hvtx8 hvty8 hvka8 hvkb8 hvx8 hvy8 hb9
       try simp only [Act.put, List.setIfInBounds_toArray, List.set_cons_zero, List.set_cons_succ]
       skip))
  generalize hqr : w8.heap.size = gr at *
  clear hqr
  replace hvtb9 := hvtb9.drew
  replace hvtc9 := hvtc9.drew
  replace hvtx9 := hvtx9.drew
  replace hvty9 := hvty9.drew
  replace hvka9 := hvka9.drew
  replace hvkb9 := hvkb9.drew
  replace hvx9 := hvx9.drew
  replace hvy9 := hvy9.drew
  replace hvr9 := hvr9.drew
  refine wp_region_any (by kernel_rfl) ?_
  refine wpAny_flatM (L := [0, 1, 2, 3, 4, 5, 6, 7, 8, 9, 10, 11, 12, 13, 14, 15, 16, 17, 18, 19, 20, 21, 22, 23, 24, 25, 26]) (by kernel_rfl) _ _ (rtVs5_1 ka kb yes w.heap.size gkb gx gy gr x y r sq rr b1 su) [] 33 (nzeros 5) [0, 1, 2, 3, 4, 5, 6, 7, 8, 9, 10, 11, 12, 13, 14, 15, 16, 17, 18, 19, 20, 21, 22, 23, 24, 25, 26, 27, 28, 29, 57, 58, 59, 60, 61, 62, 63, 64, 65, 66, 67, 68, 69, 70, 71, 72, 73, 74, 75, 76, 77, 78, 79, 80, 81, 82, 83, 84, 85, 86, 87, 88, 89, 90, 91, 92, 93, 94, 95, 96, 97, 98, 99, 100, 101, 102, 103, 104, 105, 106, 107, 108, 109, 110, 111, 112, 113, 114, 115, 116, 117, 118, 119, 120, 121, 122, 123, 124, 125] (by kernel_rfl) (by kernel_rfl) ?_ zero_elem ?_ (by rfl) ?_ 0 (by kernel_rfl) ?_
  · intro p hp
    exact absurd hp List.not_mem_nil
  · exact all_cons rfl (all_cons rfl (all_cons rfl (all_cons rfl (all_cons rfl (all_cons rfl (all_cons rfl (all_cons rfl (all_cons rfl (all_cons rfl (all_cons rfl (all_cons rfl (all_cons rfl (all_cons rfl (all_cons rfl (all_cons rfl (all_cons rfl (all_cons rfl (all_cons rfl (all_cons rfl (all_cons rfl (all_cons rfl (all_cons rfl (all_cons rfl (all_cons rfl (all_cons rfl (all_cons rfl (all_cons rfl (all_cons rfl (all_cons rfl (all_cons rfl (all_cons rfl (all_cons rfl (all_cons rfl (all_cons rfl (all_cons rfl (all_cons rfl (all_cons rfl (all_cons rfl (all_cons rfl (all_cons rfl (all_cons rfl (all_cons rfl (all_cons rfl (all_cons rfl (all_cons rfl (all_cons rfl (all_cons rfl (all_cons rfl (all_cons rfl (all_cons rfl (all_cons rfl (all_cons rfl (all_cons rfl (all_cons rfl (all_cons rfl (all_cons rfl (all_cons rfl (all_cons rfl (all_cons rfl (all_cons rfl (all_cons rfl (all_cons rfl (all_cons rfl (all_cons rfl (all_cons rfl (all_cons rfl (all_cons rfl (all_cons rfl (all_cons rfl (all_cons rfl (all_cons rfl (all_cons rfl (all_cons rfl (all_cons rfl (all_cons rfl (all_cons rfl (all_cons rfl (all_cons rfl (all_cons rfl (all_cons rfl (all_cons rfl (all_cons rfl (all_cons rfl (all_cons rfl (all_cons rfl (all_cons rfl (all_cons rfl (all_cons rfl (all_cons rfl (all_cons rfl (all_cons rfl (all_cons rfl (all_cons rfl (all_cons rfl (all_cons rfl (all_cons rfl (all_cons rfl (all_cons rfl (all_nil)))))))))))))))))))))))))))))))))))))))))))))))))))))))))))))))))))))))))))))))))))))))))))))))))))
  · refine all_cons (.inr (mStep _ 30 rfl rfl rfl rfl (by kernel_rfl) (fun a hv => wanted_all rfl _) (fun a w K hb hv hK => mPure (.bool true) (exec_move _ _ _ (.inl rfl) _ (hv 10 (by kernel_rfl) rfl) w) hK))) ?_
    refine all_cons (.inr (mStep _ 31 rfl rfl rfl rfl (by kernel_rfl) (fun a hv => wanted_all rfl _) (fun a w K hb hv hK => mPure (.bool false) (exec_not _ _ _ _ rfl (true) (hv 30 (by kernel_rfl) rfl) w) hK))) ?_
    refine all_cons (.inr (mStep _ 32 rfl rfl rfl rfl (by kernel_rfl) (fun a hv => wanted_all rfl _) (fun a w K hb hv hK => mPure (.bool false) (exec_move _ _ _ (.inl rfl) _ (hv 31 (by kernel_rfl) rfl) w) hK))) ?_
    refine all_cons (.inr (mStep _ 33 rfl rfl rfl rfl (by kernel_rfl) (fun a hv => (wanted_is (j := 2) (b := false) (c := false) rfl rfl rfl (hv 32 (by kernel_rfl) rfl)).trans rfl) (fun a w K hb hv hK => mPure (numVal r) (exec_load _ _ _ _ rfl _ _ (hv 9 (by kernel_rfl) rfl) w (elem_run (hvr9.on hb) Hr.out)) hK))) ?_
    refine all_cons (.inr (mStep _ 34 rfl rfl rfl rfl (by kernel_rfl) (fun a hv => (wanted_is (j := 2) (b := false) (c := false) rfl rfl rfl (hv 32 (by kernel_rfl) rfl)).trans rfl) (fun a w K hb hv hK => mCall (numVal rr) 25 _ _ rfl [numVal r] (cons_eq (hv 33 (by kernel_rfl) rfl) (rfl)) (enters Tryd.func25 rfl rfl) (CRR.out w) hK))) ?_
    refine all_cons (.inr (mStep _ 35 rfl rfl rfl rfl (by kernel_rfl) (fun a hv => (wanted_is (j := 2) (b := false) (c := false) rfl rfl rfl (hv 32 (by kernel_rfl) rfl)).trans rfl) (fun a w K hb hv hK => mPure (numVal x) (exec_load _ _ _ _ rfl _ _ (hv 7 (by kernel_rfl) rfl) w (elem_run (hvx9.on hb) Hx.out)) hK))) ?_
    refine all_cons (.inr (mStep _ 36 rfl rfl rfl rfl (by kernel_rfl) (fun a hv => (wanted_is (j := 2) (b := false) (c := false) rfl rfl rfl (hv 32 (by kernel_rfl) rfl)).trans rfl) (fun a w K hb hv hK => mCall (numVal sq) 25 _ _ rfl [numVal x] (cons_eq (hv 35 (by kernel_rfl) rfl) (rfl)) (enters Tryd.func25 rfl rfl) (CSQ.out w) hK))) ?_
    refine all_cons (.inr (mStep _ 37 rfl rfl rfl rfl (by kernel_rfl) (fun a hv => (wanted_is (j := 2) (b := false) (c := false) rfl rfl rfl (hv 32 (by kernel_rfl) rfl)).trans rfl) (fun a w K hb hv hK => mCall (.bool true) 26 _ _ rfl [numVal rr, numVal sq] (cons_eq (hv 34 (by kernel_rfl) rfl) (cons_eq (hv 36 (by kernel_rfl) rfl) (rfl))) (enters Tryd.func26 rfl rfl) (S1.out w) hK))) ?_
    refine all_cons (.inr (mStep _ 38 rfl rfl rfl rfl (by kernel_rfl) (fun a hv => (wanted_is (j := 2) (b := false) (c := false) rfl rfl rfl (hv 32 (by kernel_rfl) rfl)).trans rfl) (fun a w K hb hv hK => mPure (.bool false) (exec_not _ _ _ _ rfl (true) (hv 37 (by kernel_rfl) rfl) w) hK))) ?_
    refine all_cons (.inr (mStep _ 39 rfl rfl rfl rfl (by kernel_rfl) (fun a hv => wanted_all rfl _) (fun a w K hb hv hK => mPure (.bool false) (pick_false _ _ _ _ _ rfl (hv 32 (by kernel_rfl) rfl) (.bool false) (hv 38 (by kernel_rfl) rfl) w) hK))) ?_
    refine all_cons (.inr (mStep _ 40 rfl rfl rfl rfl (by kernel_rfl) (fun a hv => wanted_all rfl _) (fun a w K hb hv hK => mPure (.bool false) (exec_move _ _ _ (.inl rfl) _ (hv 39 (by kernel_rfl) rfl) w) hK))) ?_
    refine all_cons (.inr (mStep _ 41 rfl rfl rfl rfl (by kernel_rfl) (fun a hv => (wanted_is (j := 10) (b := false) (c := false) rfl rfl rfl (hv 40 (by kernel_rfl) rfl)).trans rfl) (fun a w K hb hv hK => mPure (numVal r) (exec_load _ _ _ _ rfl _ _ (hv 9 (by kernel_rfl) rfl) w (elem_run (hvr9.on hb) Hr.out)) hK))) ?_
    refine all_cons (.inr (mStep _ 42 rfl rfl rfl rfl (by kernel_rfl) (fun a hv => (wanted_is (j := 10) (b := false) (c := false) rfl rfl rfl (hv 40 (by kernel_rfl) rfl)).trans rfl) (fun a w K hb hv hK => mCall (.bool false) 18 _ _ rfl [numVal r] (cons_eq (hv 41 (by kernel_rfl) rfl) (rfl)) (enters Tryd.func18 rfl rfl) (CO.out w) hK))) ?_
    refine all_cons (.inr (mStep _ 43 rfl rfl rfl rfl (by kernel_rfl) (fun a hv => wanted_all rfl _) (fun a w K hb hv hK => mPure (.bool false) (pick_false _ _ _ _ _ rfl (hv 40 (by kernel_rfl) rfl) (.bool false) (hv 42 (by kernel_rfl) rfl) w) hK))) ?_
    refine all_cons (.inr (mStep _ 44 rfl rfl rfl rfl (by kernel_rfl) (fun a hv => wanted_all rfl _) (fun a w K hb hv hK => mPure (.bool false) (exec_move _ _ _ (.inl rfl) _ (hv 43 (by kernel_rfl) rfl) w) hK))) ?_
    refine all_cons (.inr (mStep _ 45 rfl rfl rfl rfl (by kernel_rfl) (fun a hv => (wanted_is (j := 14) (b := false) (c := false) rfl rfl rfl (hv 44 (by kernel_rfl) rfl)).trans rfl) (fun a w K hb hv hK => mPure (numVal r) (exec_load _ _ _ _ rfl _ _ (hv 9 (by kernel_rfl) rfl) w (elem_run (hvr9.on hb) Hr.out)) hK))) ?_
    refine all_cons (.inr (mStep _ 46 rfl rfl rfl rfl (by kernel_rfl) (fun a hv => (wanted_is (j := 14) (b := false) (c := false) rfl rfl rfl (hv 44 (by kernel_rfl) rfl)).trans rfl) (fun a w K hb hv hK => mPure (numVal x) (exec_load _ _ _ _ rfl _ _ (hv 7 (by kernel_rfl) rfl) w (elem_run (hvx9.on hb) Hx.out)) hK))) ?_
    refine all_cons (by cases b1; (exact (.inr (mStep _ 47 rfl rfl rfl rfl (by kernel_rfl) (fun a hv => (wanted_is (j := 14) (b := false) (c := false) rfl rfl rfl (hv 44 (by kernel_rfl) rfl)).trans rfl) (fun a w K hb hv hK => mCall (.bool false) 26 _ _ rfl [numVal r, numVal x] (cons_eq (hv 45 (by kernel_rfl) rfl) (cons_eq (hv 46 (by kernel_rfl) rfl) (rfl))) (enters Tryd.func26 rfl rfl) (S2.out w) hK)))); (exact (.inr (mStep _ 47 rfl rfl rfl rfl (by kernel_rfl) (fun a hv => (wanted_is (j := 14) (b := false) (c := false) rfl rfl rfl (hv 44 (by kernel_rfl) rfl)).trans rfl) (fun a w K hb hv hK => mCall (.bool true) 26 _ _ rfl [numVal r, numVal x] (cons_eq (hv 45 (by kernel_rfl) rfl) (cons_eq (hv 46 (by kernel_rfl) rfl) (rfl))) (enters Tryd.func26 rfl rfl) (S2.out w) hK))))) ?_
    refine all_cons (by cases b1; (exact (.inr (mStep _ 48 rfl rfl rfl rfl (by kernel_rfl) (fun a hv => (wanted_is (j := 14) (b := false) (c := false) rfl rfl rfl (hv 44 (by kernel_rfl) rfl)).trans rfl) (fun a w K hb hv hK => mPure (.bool true) (exec_not _ _ _ _ rfl (false) (hv 47 (by kernel_rfl) rfl) w) hK)))); (exact (.inr (mStep _ 48 rfl rfl rfl rfl (by kernel_rfl) (fun a hv => (wanted_is (j := 14) (b := false) (c := false) rfl rfl rfl (hv 44 (by kernel_rfl) rfl)).trans rfl) (fun a w K hb hv hK => mPure (.bool false) (exec_not _ _ _ _ rfl (true) (hv 47 (by kernel_rfl) rfl) w) hK))))) ?_
    refine all_cons (by cases b1; (exact (.inr (mStep _ 49 rfl rfl rfl rfl (by kernel_rfl) (fun a hv => (wanted_is (j := 14) (b := false) (c := false) rfl rfl rfl (hv 44 (by kernel_rfl) rfl)).trans rfl) (fun a w K hb hv hK => mPure (.bool true) (exec_move _ _ _ (.inl rfl) _ (hv 48 (by kernel_rfl) rfl) w) hK)))); (exact (.inr (mStep _ 49 rfl rfl rfl rfl (by kernel_rfl) (fun a hv => (wanted_is (j := 14) (b := false) (c := false) rfl rfl rfl (hv 44 (by kernel_rfl) rfl)).trans rfl) (fun a w K hb hv hK => mPure (.bool false) (exec_move _ _ _ (.inl rfl) _ (hv 48 (by kernel_rfl) rfl) w) hK))))) ?_
    refine all_cons (by cases b1; (exact (.inr (mStep _ 50 rfl rfl rfl rfl (by kernel_rfl) (fun a hv => (wanted_is (j := 19) (b := true) (c := true) rfl rfl rfl (hv 49 (by kernel_rfl) rfl)).trans rfl) (fun a w K hb hv hK => mPure (numVal r) (exec_load _ _ _ _ rfl _ _ (hv 9 (by kernel_rfl) rfl) w (elem_run (hvr9.on hb) Hr.out)) hK)))); (exact (.inr (mSkip _ 50 rfl rfl rfl rfl (by kernel_rfl) (fun a hv => (wanted_is (j := 19) (b := true) (c := false) rfl rfl rfl (hv 49 (by kernel_rfl) rfl)).trans rfl) rfl)))) ?_
    refine all_cons (by cases b1; (exact (.inr (mStep _ 51 rfl rfl rfl rfl (by kernel_rfl) (fun a hv => (wanted_is (j := 19) (b := true) (c := true) rfl rfl rfl (hv 49 (by kernel_rfl) rfl)).trans rfl) (fun a w K hb hv hK => mPure (numVal x) (exec_load _ _ _ _ rfl _ _ (hv 7 (by kernel_rfl) rfl) w (elem_run (hvx9.on hb) Hx.out)) hK)))); (exact (.inr (mSkip _ 51 rfl rfl rfl rfl (by kernel_rfl) (fun a hv => (wanted_is (j := 19) (b := true) (c := false) rfl rfl rfl (hv 49 (by kernel_rfl) rfl)).trans rfl) rfl)))) ?_
    refine all_cons (by cases b1; (exact (.inr (mStep _ 52 rfl rfl rfl rfl (by kernel_rfl) (fun a hv => (wanted_is (j := 19) (b := true) (c := true) rfl rfl rfl (hv 49 (by kernel_rfl) rfl)).trans rfl) (fun a w K hb hv hK => mCall (numVal su) 19 _ _ rfl [numVal r, numVal x] (cons_eq (hv 50 (by kernel_rfl) rfl) (cons_eq (hv 51 (by kernel_rfl) rfl) (rfl))) (enters Tryd.func19 rfl rfl) (CSU.out w) hK)))); (exact (.inr (mSkip _ 52 rfl rfl rfl rfl (by kernel_rfl) (fun a hv => (wanted_is (j := 19) (b := true) (c := false) rfl rfl rfl (hv 49 (by kernel_rfl) rfl)).trans rfl) rfl)))) ?_
    refine all_cons (by cases b1; (exact (.inr (mStep _ 53 rfl rfl rfl rfl (by kernel_rfl) (fun a hv => (wanted_is (j := 19) (b := true) (c := true) rfl rfl rfl (hv 49 (by kernel_rfl) rfl)).trans rfl) (fun a w K hb hv hK => mCall (.bool true) 14 _ _ rfl [numVal su] (cons_eq (hv 52 (by kernel_rfl) rfl) (rfl)) (enters Tryd.func14 rfl rfl) ((CZ1.out (by simp)) w) hK)))); (exact (.inr (mSkip _ 53 rfl rfl rfl rfl (by kernel_rfl) (fun a hv => (wanted_is (j := 19) (b := true) (c := false) rfl rfl rfl (hv 49 (by kernel_rfl) rfl)).trans rfl) rfl)))) ?_
    refine all_cons (by cases b1; (exact (.inr (mStep _ 54 rfl rfl rfl rfl (by kernel_rfl) (fun a hv => (wanted_is (j := 19) (b := true) (c := true) rfl rfl rfl (hv 49 (by kernel_rfl) rfl)).trans rfl) (fun a w K hb hv hK => mPure (.bool false) (exec_not _ _ _ _ rfl (true) (hv 53 (by kernel_rfl) rfl) w) hK)))); (exact (.inr (mSkip _ 54 rfl rfl rfl rfl (by kernel_rfl) (fun a hv => (wanted_is (j := 19) (b := true) (c := false) rfl rfl rfl (hv 49 (by kernel_rfl) rfl)).trans rfl) rfl)))) ?_
    refine all_cons (by cases b1; (exact (.inr (mStep _ 55 rfl rfl rfl rfl (by kernel_rfl) (fun a hv => (wanted_is (j := 14) (b := false) (c := false) rfl rfl rfl (hv 44 (by kernel_rfl) rfl)).trans rfl) (fun a w K hb hv hK => mPure (.bool false) (pick_true _ _ _ _ _ rfl (hv 49 (by kernel_rfl) rfl) (.bool false) (hv 54 (by kernel_rfl) rfl) w) hK)))); (exact (.inr (mStep _ 55 rfl rfl rfl rfl (by kernel_rfl) (fun a hv => (wanted_is (j := 14) (b := false) (c := false) rfl rfl rfl (hv 44 (by kernel_rfl) rfl)).trans rfl) (fun a w K hb hv hK => mPure (.bool false) (pick_false _ _ _ _ _ rfl (hv 49 (by kernel_rfl) rfl) (.bool false) (by rfl) w) hK))))) ?_
    refine all_cons (.inr (mStep _ 56 rfl rfl rfl rfl (by kernel_rfl) (fun a hv => wanted_all rfl _) (fun a w K hb hv hK => mPure (.bool false) (pick_false _ _ _ _ _ rfl (hv 44 (by kernel_rfl) rfl) (.bool false) (hv 55 (by kernel_rfl) rfl) w) hK))) ?_
    exact all_nil
  intro w10 g hb10 hN10 hap10
  clear hN10 hap10
  have hB10 := below_then (show Below w.heap.size w w9.drew from hB9.drew) hb10
  have hvtb10 := hvtb9.on hb10
  have hvtc10 := hvtc9.on hb10
  have hvtx10 := hvtx9.on hb10
  have hvty10 := hvty9.on hb10
  have hvka10 := hvka9.on hb10
  have hvkb10 := hvkb9.on hb10
  have hvx10 := hvx9.on hb10
  have hvy10 := hvy9.on hb10
  have hvr10 := hvr9.on hb10
  clear hB9 hvtb9 hvtc9 hvtx9 hvty9 hvka9 hvkb9 hvx9 hvy9 hvr9 hb10
  refine ⟨by kernel_rfl, ?_⟩
  rename_i K hKK
  show Exit.then K _ Exit.normal (⟨(rtVs5_1 ka kb yes w.heap.size gkb gx gy gr x y r sq rr b1 su).toArray, []⟩ : Act) w10
  simp only [Exit.then]
  refine hKK _ _ ?_
  clear hKK K g
  simp only [rtVs5_1]
  go_wp2_with (first
    | (refine sget_step rfl 33 (.tmp 7) rfl gx 5 (x.map ncell) rfl hvx10 Tryd.underlying33 rfl size_elem (by rw [List.length_map, Hx.out]) ?_
       try simp only [Act.put, List.setIfInBounds_toArray, List.set_cons_zero, List.set_cons_succ]
       skip))
  refine (CRX.out w10 hvtb10).mono ?_
  rintro e w11 ⟨rfl, hb11⟩
  have hB11 := below_then hB10 hb11
  have hvtb11 := hvtb10.on hb11
  have hvtc11 := hvtc10.on hb11
  have hvtx11 := hvtx10.on hb11
  have hvty11 := hvty10.on hb11
  have hvka11 := hvka10.on hb11
  have hvkb11 := hvkb10.on hb11
  have hvx11 := hvx10.on hb11
  have hvy11 := hvy10.on hb11
  have hvr11 := hvr10.on hb11
  clear hB10 hvtb10 hvtc10 hvtx10 hvty10 hvka10 hvkb10 hvx10 hvy10 hvr10 hb11
  go_wp2_with (first
    | (refine vput_step rfl rfl 33 (.tmp 11) (.tmp 60) rfl rfl 5 (nzeros 5) (rx.map ncell) rfl rfl zero_elem rfl size_elem (by rw [List.length_map, Hrx.out]) (ncells_one _) ?_
       intro w12 hb12 hvrx12
       have hB12 := below_then hB11 hb12
       have hgerx : w.heap.size ≤ w11.heap.size := hB11.size
       have hvtb12 := hvtb11.on hb12
       have hnetbrx := Nat.ne_of_lt hvtb11.lt
       have hvtc12 := hvtc11.on hb12
       have hnetcrx := Nat.ne_of_lt hvtc11.lt
       have hvtx12 := hvtx11.on hb12
       have hnetxrx := Nat.ne_of_lt hvtx11.lt
       have hvty12 := hvty11.on hb12
       have hnetyrx := Nat.ne_of_lt hvty11.lt
       have hvka12 := hvka11.on hb12
       have hnekarx := Nat.ne_of_lt hvka11.lt
       have hvkb12 := hvkb11.on hb12
       have hnekbrx := Nat.ne_of_lt hvkb11.lt
       have hvx12 := hvx11.on hb12
       have hnexrx := Nat.ne_of_lt hvx11.lt
       have hvy12 := hvy11.on hb12
       have hneyrx := Nat.ne_of_lt hvy11.lt
       have hvr12 := hvr11.on hb12
       have hnerrx := Nat.ne_of_lt hvr11.lt
       clear hB11 hvtb11 hvtc11 hvtx11 hvty11 hvka11 hvkb11 hvx11 hvy11 hvr11 hb12
       try simp only [Act.put, List.setIfInBounds_toArray, List.set_cons_zero, List.set_cons_succ]
       skip)
    | (refine sget_step rfl 33 (.tmp 8) rfl gy 5 (y.map ncell) rfl hvy12 Tryd.underlying33 rfl size_elem (by rw [List.length_map, Hy.out]) ?_
       try simp only [Act.put, List.setIfInBounds_toArray, List.set_cons_zero, List.set_cons_succ]
       skip))
  generalize hqrx : w11.heap.size = grx at *
  clear hqrx
  refine (CRY.out w12 hvtb12).mono ?_
  rintro e w13 ⟨rfl, hb13⟩
  have hB13 := below_then hB12 hb13
  have hvtb13 := hvtb12.on hb13
  have hvtc13 := hvtc12.on hb13
  have hvtx13 := hvtx12.on hb13
  have hvty13 := hvty12.on hb13
  have hvka13 := hvka12.on hb13
  have hvkb13 := hvkb12.on hb13
  have hvx13 := hvx12.on hb13
  have hvy13 := hvy12.on hb13
  have hvr13 := hvr12.on hb13
  have hvrx13 := hvrx12.on hb13
  clear hB12 hvtb12 hvtc12 hvtx12 hvty12 hvka12 hvkb12 hvx12 hvy12 hvr12 hvrx12 hb13
  go_wp2_with (first
    | (refine vput_step rfl rfl 33 (.tmp 13) (.tmp 65) rfl rfl 5 (nzeros 5) (ry.map ncell) rfl rfl zero_elem rfl size_elem (by rw [List.length_map, Hry.out]) (ncells_one _) ?_
       intro w14 hb14 hvry14
       have hB14 := below_then hB13 hb14
       have hgery : w.heap.size ≤ w13.heap.size := hB13.size
       have hvtb14 := hvtb13.on hb14
       have hnetbry := Nat.ne_of_lt hvtb13.lt
       have hvtc14 := hvtc13.on hb14
       have hnetcry := Nat.ne_of_lt hvtc13.lt
       have hvtx14 := hvtx13.on hb14
       have hnetxry := Nat.ne_of_lt hvtx13.lt
       have hvty14 := hvty13.on hb14
       have hnetyry := Nat.ne_of_lt hvty13.lt
       have hvka14 := hvka13.on hb14
       have hnekary := Nat.ne_of_lt hvka13.lt
       have hvkb14 := hvkb13.on hb14
       have hnekbry := Nat.ne_of_lt hvkb13.lt
       have hvx14 := hvx13.on hb14
       have hnexry := Nat.ne_of_lt hvx13.lt
       have hvy14 := hvy13.on hb14
       have hneyry := Nat.ne_of_lt hvy13.lt
       have hvr14 := hvr13.on hb14
       have hnerry := Nat.ne_of_lt hvr13.lt
       have hvrx14 := hvrx13.on hb14
       have hnerxry := Nat.ne_of_lt hvrx13.lt
       clear hB13 hvtb13 hvtc13 hvtx13 hvty13 hvka13 hvkb13 hvx13 hvy13 hvr13 hvrx13 hb14
       try simp only [Act.put, List.setIfInBounds_toArray, List.set_cons_zero, List.set_cons_succ]
       skip)
    | (refine sget_step rfl 33 (.tmp 7) rfl gx 5 (x.map ncell) rfl hvx14 Tryd.underlying33 rfl size_elem (by rw [List.length_map, Hx.out]) ?_
       try simp only [Act.put, List.setIfInBounds_toArray, List.set_cons_zero, List.set_cons_succ]
       skip)
    | (refine sget_step rfl 33 (.tmp 8) rfl gy 5 (y.map ncell) rfl hvy14 Tryd.underlying33 rfl size_elem (by rw [List.length_map, Hy.out]) ?_
       try simp only [Act.put, List.setIfInBounds_toArray, List.set_cons_zero, List.set_cons_succ]
       skip))
  generalize hqry : w13.heap.size = gry at *
  clear hqry
  refine (CXY.out w14).mono ?_
  rintro e w15 ⟨rfl, hb15⟩
  have hB15 := below_then hB14 hb15
  have hvtb15 := hvtb14.on hb15
  have hvtc15 := hvtc14.on hb15
  have hvtx15 := hvtx14.on hb15
  have hvty15 := hvty14.on hb15
  have hvka15 := hvka14.on hb15
  have hvkb15 := hvkb14.on hb15
  have hvx15 := hvx14.on hb15
  have hvy15 := hvy14.on hb15
  have hvr15 := hvr14.on hb15
  have hvrx15 := hvrx14.on hb15
  have hvry15 := hvry14.on hb15
  clear hB14 hvtb14 hvtc14 hvtx14 hvty14 hvka14 hvkb14 hvx14 hvy14 hvr14 hvrx14 hvry14 hb15
  go_wp2_with fail
  refine (CRXY.out w15 hvtb15).mono ?_
  rintro e w16 ⟨rfl, hb16⟩
  have hB16 := below_then hB15 hb16
  have hvtb16 := hvtb15.on hb16
  have hvtc16 := hvtc15.on hb16
  have hvtx16 := hvtx15.on hb16
  have hvty16 := hvty15.on hb16
  have hvka16 := hvka15.on hb16
  have hvkb16 := hvkb15.on hb16
  have hvx16 := hvx15.on hb16
  have hvy16 := hvy15.on hb16
  have hvr16 := hvr15.on hb16
  have hvrx16 := hvrx15.on hb16
  have hvry16 := hvry15.on hb16
  clear hB15 hvtb15 hvtc15 hvtx15 hvty15 hvka15 hvkb15 hvx15 hvy15 hvr15 hvrx15 hvry15 hb16
  go_upto_region 10 with (first
    | (refine vput_step rfl rfl 33 (.tmp 15) (.tmp 72) rfl rfl 5 (nzeros 5) (rxy.map ncell) rfl rfl zero_elem rfl size_elem (by rw [List.length_map, Hrxy.out]) (ncells_one _) ?_
       intro w17 hb17 hvrb17
       have hB17 := below_then hB16 hb17
       have hgerb : w.heap.size ≤ w16.heap.size := hB16.size
       have hvtb17 := hvtb16.on hb17
       have hnetbrb := Nat.ne_of_lt hvtb16.lt
       have hvtc17 := hvtc16.on hb17
       have hnetcrb := Nat.ne_of_lt hvtc16.lt
       have hvtx17 := hvtx16.on hb17
       have hnetxrb := Nat.ne_of_lt hvtx16.lt
       have hvty17 := hvty16.on hb17
       have hnetyrb := Nat.ne_of_lt hvty16.lt
       have hvka17 := hvka16.on hb17
       have hnekarb := Nat.ne_of_lt hvka16.lt
       have hvkb17 := hvkb16.on hb17
       have hnekbrb := Nat.ne_of_lt hvkb16.lt
       have hvx17 := hvx16.on hb17
       have hnexrb := Nat.ne_of_lt hvx16.lt
       have hvy17 := hvy16.on hb17
       have hneyrb := Nat.ne_of_lt hvy16.lt
       have hvr17 := hvr16.on hb17
       have hnerrb := Nat.ne_of_lt hvr16.lt
       have hvrx17 := hvrx16.on hb17
       have hnerxrb := Nat.ne_of_lt hvrx16.lt
       have hvry17 := hvry16.on hb17
       have hneryrb := Nat.ne_of_lt hvry16.lt
       clear hB16 hvtb16 hvtc16 hvtx16 hvty16 hvka16 hvkb16 hvx16 hvy16 hvr16 hvrx16 hvry16 hb17
       try simp only [Act.put, List.setIfInBounds_toArray, List.set_cons_zero, List.set_cons_succ]
       skip))
  generalize hqrb : w16.heap.size = grb at *
  clear hqrb
  refine wp_region_flat (md := .any) (by kernel_rfl) ?_
  refine wpAny_flatM (L := [0, 1, 2, 3, 4, 5, 6, 7, 8, 9, 10, 11, 12, 13, 14]) (by kernel_rfl) _ _ (rtVs10_2 ka kb yes w.heap.size gkb gx gy gr grx px gry py grb both x y r sq rr b1 su rx ry rxy xy zx zy) [] 33 (nzeros 5) [0, 1, 2, 3, 4, 5, 6, 7, 8, 9, 10, 11, 12, 13, 14, 15, 16, 17, 18, 19, 20, 21, 22, 23, 24, 25, 26, 27, 28, 29, 30, 31, 32, 33, 34, 35, 36, 37, 38, 39, 40, 41, 42, 43, 44, 45, 46, 47, 48, 49, 50, 51, 52, 53, 54, 55, 56, 57, 58, 59, 60, 61, 62, 63, 64, 65, 66, 67, 68, 69, 70, 71, 72, 73, 89, 90, 91, 92, 93, 94, 95, 96, 97, 98, 99, 100, 101, 102, 103, 104, 105, 106, 107, 108, 109, 110, 111, 112, 113, 114, 115, 116, 117, 118, 119, 120, 121, 122, 123, 124, 125] (by kernel_rfl) (by kernel_rfl) ?_ zero_elem ?_ (by rfl) ?_ 0 (by kernel_rfl) ?_
  · intro p hp
    exact absurd hp List.not_mem_nil
  · exact all_cons rfl (all_cons rfl (all_cons rfl (all_cons rfl (all_cons rfl (all_cons rfl (all_cons rfl (all_cons rfl (all_cons rfl (all_cons rfl (all_cons rfl (all_cons rfl (all_cons rfl (all_cons rfl (all_cons rfl (all_cons rfl (all_cons rfl (all_cons rfl (all_cons rfl (all_cons rfl (all_cons rfl (all_cons rfl (all_cons rfl (all_cons rfl (all_cons rfl (all_cons rfl (all_cons rfl (all_cons rfl (all_cons rfl (all_cons rfl (all_cons rfl (all_cons rfl (all_cons rfl (all_cons rfl (all_cons rfl (all_cons rfl (all_cons rfl (all_cons rfl (all_cons rfl (all_cons rfl (all_cons rfl (all_cons rfl (all_cons rfl (all_cons rfl (all_cons rfl (all_cons rfl (all_cons rfl (all_cons rfl (all_cons rfl (all_cons rfl (all_cons rfl (all_cons rfl (all_cons rfl (all_cons rfl (all_cons rfl (all_cons rfl (all_cons rfl (all_cons rfl (all_cons rfl (all_cons rfl (all_cons rfl (all_cons rfl (all_cons rfl (all_cons rfl (all_cons rfl (all_cons rfl (all_cons rfl (all_cons rfl (all_cons rfl (all_cons rfl (all_cons rfl (all_cons rfl (all_cons rfl (all_cons rfl (all_cons rfl (all_cons rfl (all_cons rfl (all_cons rfl (all_cons rfl (all_cons rfl (all_cons rfl (all_cons rfl (all_cons rfl (all_cons rfl (all_cons rfl (all_cons rfl (all_cons rfl (all_cons rfl (all_cons rfl (all_cons rfl (all_cons rfl (all_cons rfl (all_cons rfl (all_cons rfl (all_cons rfl (all_cons rfl (all_cons rfl (all_cons rfl (all_cons rfl (all_cons rfl (all_cons rfl (all_cons rfl (all_cons rfl (all_cons rfl (all_cons rfl (all_cons rfl (all_cons rfl (all_cons rfl (all_cons rfl (all_cons rfl (all_cons rfl (all_nil)))))))))))))))))))))))))))))))))))))))))))))))))))))))))))))))))))))))))))))))))))))))))))))))))))))))))))))))
  · refine all_cons (.inr (mStep _ 74 rfl rfl rfl rfl (by kernel_rfl) (fun a hv => wanted_all rfl _) (fun a w K hb hv hK => mPure (numVal x) (exec_load _ _ _ _ rfl _ _ (hv 7 (by kernel_rfl) rfl) w (elem_run (hvx17.on hb) Hx.out)) hK))) ?_
    refine all_cons (by cases zx; (exact (.inr (mStep _ 75 rfl rfl rfl rfl (by kernel_rfl) (fun a hv => wanted_all rfl _) (fun a w K hb hv hK => mCall (.bool false) 14 _ _ rfl [numVal x] (cons_eq (hv 74 (by kernel_rfl) rfl) (rfl)) (enters Tryd.func14 rfl rfl) (CZX.out w) hK)))); (exact (.inr (mStep _ 75 rfl rfl rfl rfl (by kernel_rfl) (fun a hv => wanted_all rfl _) (fun a w K hb hv hK => mCall (.bool true) 14 _ _ rfl [numVal x] (cons_eq (hv 74 (by kernel_rfl) rfl) (rfl)) (enters Tryd.func14 rfl rfl) (CZX.out w) hK))))) ?_
    refine all_cons (by cases zx; (exact (.inr (mStep _ 76 rfl rfl rfl rfl (by kernel_rfl) (fun a hv => wanted_all rfl _) (fun a w K hb hv hK => mPure (.bool true) (exec_not _ _ _ _ rfl (false) (hv 75 (by kernel_rfl) rfl) w) hK)))); (exact (.inr (mStep _ 76 rfl rfl rfl rfl (by kernel_rfl) (fun a hv => wanted_all rfl _) (fun a w K hb hv hK => mPure (.bool false) (exec_not _ _ _ _ rfl (true) (hv 75 (by kernel_rfl) rfl) w) hK))))) ?_
    refine all_cons (by cases zx; (exact (.inr (mStep _ 77 rfl rfl rfl rfl (by kernel_rfl) (fun a hv => wanted_all rfl _) (fun a w K hb hv hK => mPure (.bool true) (exec_move _ _ _ (.inl rfl) _ (hv 76 (by kernel_rfl) rfl) w) hK)))); (exact (.inr (mStep _ 77 rfl rfl rfl rfl (by kernel_rfl) (fun a hv => wanted_all rfl _) (fun a w K hb hv hK => mPure (.bool false) (exec_move _ _ _ (.inl rfl) _ (hv 76 (by kernel_rfl) rfl) w) hK))))) ?_
    refine all_cons (by cases zx; (exact (.inr (mStep _ 78 rfl rfl rfl rfl (by kernel_rfl) (fun a hv => (wanted_is (j := 3) (b := true) (c := true) rfl rfl rfl (hv 77 (by kernel_rfl) rfl)).trans rfl) (fun a w K hb hv hK => mPure (numVal y) (exec_load _ _ _ _ rfl _ _ (hv 8 (by kernel_rfl) rfl) w (elem_run (hvy17.on hb) Hy.out)) hK)))); (exact (.inr (mSkip _ 78 rfl rfl rfl rfl (by kernel_rfl) (fun a hv => (wanted_is (j := 3) (b := true) (c := false) rfl rfl rfl (hv 77 (by kernel_rfl) rfl)).trans rfl) rfl)))) ?_
    refine all_cons (by cases zx; (cases zy; (exact (.inr (mStep _ 79 rfl rfl rfl rfl (by kernel_rfl) (fun a hv => (wanted_is (j := 3) (b := true) (c := true) rfl rfl rfl (hv 77 (by kernel_rfl) rfl)).trans rfl) (fun a w K hb hv hK => mCall (.bool false) 14 _ _ rfl [numVal y] (cons_eq (hv 78 (by kernel_rfl) rfl) (rfl)) (enters Tryd.func14 rfl rfl) (CZY.out w) hK)))); (exact (.inr (mStep _ 79 rfl rfl rfl rfl (by kernel_rfl) (fun a hv => (wanted_is (j := 3) (b := true) (c := true) rfl rfl rfl (hv 77 (by kernel_rfl) rfl)).trans rfl) (fun a w K hb hv hK => mCall (.bool true) 14 _ _ rfl [numVal y] (cons_eq (hv 78 (by kernel_rfl) rfl) (rfl)) (enters Tryd.func14 rfl rfl) (CZY.out w) hK))))); (exact (.inr (mSkip _ 79 rfl rfl rfl rfl (by kernel_rfl) (fun a hv => (wanted_is (j := 3) (b := true) (c := false) rfl rfl rfl (hv 77 (by kernel_rfl) rfl)).trans rfl) rfl)))) ?_
    refine all_cons (by cases zx; (cases zy; (exact (.inr (mStep _ 80 rfl rfl rfl rfl (by kernel_rfl) (fun a hv => (wanted_is (j := 3) (b := true) (c := true) rfl rfl rfl (hv 77 (by kernel_rfl) rfl)).trans rfl) (fun a w K hb hv hK => mPure (.bool true) (exec_not _ _ _ _ rfl (false) (hv 79 (by kernel_rfl) rfl) w) hK)))); (exact (.inr (mStep _ 80 rfl rfl rfl rfl (by kernel_rfl) (fun a hv => (wanted_is (j := 3) (b := true) (c := true) rfl rfl rfl (hv 77 (by kernel_rfl) rfl)).trans rfl) (fun a w K hb hv hK => mPure (.bool false) (exec_not _ _ _ _ rfl (true) (hv 79 (by kernel_rfl) rfl) w) hK))))); (exact (.inr (mSkip _ 80 rfl rfl rfl rfl (by kernel_rfl) (fun a hv => (wanted_is (j := 3) (b := true) (c := false) rfl rfl rfl (hv 77 (by kernel_rfl) rfl)).trans rfl) rfl)))) ?_
    refine all_cons (by cases zx; (cases zy; (exact (.inr (mStep _ 81 rfl rfl rfl rfl (by kernel_rfl) (fun a hv => wanted_all rfl _) (fun a w K hb hv hK => mPure (.bool true) (pick_true _ _ _ _ _ rfl (hv 77 (by kernel_rfl) rfl) (.bool true) (hv 80 (by kernel_rfl) rfl) w) hK)))); (exact (.inr (mStep _ 81 rfl rfl rfl rfl (by kernel_rfl) (fun a hv => wanted_all rfl _) (fun a w K hb hv hK => mPure (.bool false) (pick_true _ _ _ _ _ rfl (hv 77 (by kernel_rfl) rfl) (.bool false) (hv 80 (by kernel_rfl) rfl) w) hK))))); (exact (.inr (mStep _ 81 rfl rfl rfl rfl (by kernel_rfl) (fun a hv => wanted_all rfl _) (fun a w K hb hv hK => mPure (.bool false) (pick_false _ _ _ _ _ rfl (hv 77 (by kernel_rfl) rfl) (.bool false) (by rfl) w) hK))))) ?_
    refine all_cons (by cases zx; (cases zy; (exact (.inr (mStep _ 82 rfl rfl rfl rfl (by kernel_rfl) (fun a hv => wanted_all rfl _) (fun a w K hb hv hK => mPure (.bool true) (exec_move _ _ _ (.inl rfl) _ (hv 81 (by kernel_rfl) rfl) w) hK)))); (exact (.inr (mStep _ 82 rfl rfl rfl rfl (by kernel_rfl) (fun a hv => wanted_all rfl _) (fun a w K hb hv hK => mPure (.bool false) (exec_move _ _ _ (.inl rfl) _ (hv 81 (by kernel_rfl) rfl) w) hK))))); (exact (.inr (mStep _ 82 rfl rfl rfl rfl (by kernel_rfl) (fun a hv => wanted_all rfl _) (fun a w K hb hv hK => mPure (.bool false) (exec_move _ _ _ (.inl rfl) _ (hv 81 (by kernel_rfl) rfl) w) hK))))) ?_
    refine all_cons (by cases zx; (cases zy; (exact (.inr (mStep _ 83 rfl rfl rfl rfl (by kernel_rfl) (fun a hv => (wanted_is (j := 8) (b := true) (c := true) rfl rfl rfl (hv 82 (by kernel_rfl) rfl)).trans rfl) (fun a w K hb hv hK => mPure (.bool both) (exec_move _ _ _ (.inl rfl) _ (hv 16 (by kernel_rfl) rfl) w) hK)))); (exact (.inr (mSkip _ 83 rfl rfl rfl rfl (by kernel_rfl) (fun a hv => (wanted_is (j := 8) (b := true) (c := false) rfl rfl rfl (hv 82 (by kernel_rfl) rfl)).trans rfl) rfl)))); (exact (.inr (mSkip _ 83 rfl rfl rfl rfl (by kernel_rfl) (fun a hv => (wanted_is (j := 8) (b := true) (c := false) rfl rfl rfl (hv 82 (by kernel_rfl) rfl)).trans rfl) rfl)))) ?_
    refine all_cons (by cases zx; (cases zy; (exact (.inr (mStep _ 84 rfl rfl rfl rfl (by kernel_rfl) (fun a hv => (wanted_is (j := 8) (b := true) (c := true) rfl rfl rfl (hv 82 (by kernel_rfl) rfl)).trans rfl) (fun a w K hb hv hK => mPure (.bool px) (exec_move _ _ _ (.inl rfl) _ (hv 12 (by kernel_rfl) rfl) w) hK)))); (exact (.inr (mSkip _ 84 rfl rfl rfl rfl (by kernel_rfl) (fun a hv => (wanted_is (j := 8) (b := true) (c := false) rfl rfl rfl (hv 82 (by kernel_rfl) rfl)).trans rfl) rfl)))); (exact (.inr (mSkip _ 84 rfl rfl rfl rfl (by kernel_rfl) (fun a hv => (wanted_is (j := 8) (b := true) (c := false) rfl rfl rfl (hv 82 (by kernel_rfl) rfl)).trans rfl) rfl)))) ?_
    refine all_cons (by cases zx; (cases zy; (exact (.inr (mStep _ 85 rfl rfl rfl rfl (by kernel_rfl) (fun a hv => (wanted_is (j := 8) (b := true) (c := true) rfl rfl rfl (hv 82 (by kernel_rfl) rfl)).trans rfl) (fun a w K hb hv hK => mPure (.bool py) (exec_move _ _ _ (.inl rfl) _ (hv 14 (by kernel_rfl) rfl) w) hK)))); (exact (.inr (mSkip _ 85 rfl rfl rfl rfl (by kernel_rfl) (fun a hv => (wanted_is (j := 8) (b := true) (c := false) rfl rfl rfl (hv 82 (by kernel_rfl) rfl)).trans rfl) rfl)))); (exact (.inr (mSkip _ 85 rfl rfl rfl rfl (by kernel_rfl) (fun a hv => (wanted_is (j := 8) (b := true) (c := false) rfl rfl rfl (hv 82 (by kernel_rfl) rfl)).trans rfl) rfl)))) ?_
    refine all_cons (by cases zx; (cases zy; (exact (.inr (mStep _ 86 rfl rfl rfl rfl (by kernel_rfl) (fun a hv => (wanted_is (j := 8) (b := true) (c := true) rfl rfl rfl (hv 82 (by kernel_rfl) rfl)).trans rfl) (fun a w K hb hv hK => mPure (.bool (px == py)) (exec_bin _ _ _ _ _ _ _ rfl (.bool px) (.bool py) _ (hv 84 (by kernel_rfl) rfl) (hv 85 (by kernel_rfl) rfl) w ((fun w => by cases px <;> cases py <;> kernel_rfl) w) ((fun w => by cases px <;> cases py <;> kernel_rfl) w)) hK)))); (exact (.inr (mSkip _ 86 rfl rfl rfl rfl (by kernel_rfl) (fun a hv => (wanted_is (j := 8) (b := true) (c := false) rfl rfl rfl (hv 82 (by kernel_rfl) rfl)).trans rfl) rfl)))); (exact (.inr (mSkip _ 86 rfl rfl rfl rfl (by kernel_rfl) (fun a hv => (wanted_is (j := 8) (b := true) (c := false) rfl rfl rfl (hv 82 (by kernel_rfl) rfl)).trans rfl) rfl)))) ?_
    refine all_cons (by cases zx; (cases zy; (exact (.inr (mStep _ 87 rfl rfl rfl rfl (by kernel_rfl) (fun a hv => (wanted_is (j := 8) (b := true) (c := true) rfl rfl rfl (hv 82 (by kernel_rfl) rfl)).trans rfl) (fun a w K hb hv hK => mPure (.bool false) (exec_bin _ _ _ _ _ _ _ rfl (.bool both) (.bool (px == py)) _ (hv 83 (by kernel_rfl) rfl) (hv 86 (by kernel_rfl) rfl) w ((fun w => by cases px <;> cases py <;> cases both <;> kernel_rfl) w) ((fun w => by rw [HBO.out (by simp) (by simp)]; cases px <;> cases py <;> kernel_rfl) w)) hK)))); (exact (.inr (mSkip _ 87 rfl rfl rfl rfl (by kernel_rfl) (fun a hv => (wanted_is (j := 8) (b := true) (c := false) rfl rfl rfl (hv 82 (by kernel_rfl) rfl)).trans rfl) rfl)))); (exact (.inr (mSkip _ 87 rfl rfl rfl rfl (by kernel_rfl) (fun a hv => (wanted_is (j := 8) (b := true) (c := false) rfl rfl rfl (hv 82 (by kernel_rfl) rfl)).trans rfl) rfl)))) ?_
    refine all_cons (by cases zx; (cases zy; (exact (.inr (mStep _ 88 rfl rfl rfl rfl (by kernel_rfl) (fun a hv => wanted_all rfl _) (fun a w K hb hv hK => mPure (.bool false) (pick_true _ _ _ _ _ rfl (hv 82 (by kernel_rfl) rfl) (.bool false) (hv 87 (by kernel_rfl) rfl) w) hK)))); (exact (.inr (mStep _ 88 rfl rfl rfl rfl (by kernel_rfl) (fun a hv => wanted_all rfl _) (fun a w K hb hv hK => mPure (.bool false) (pick_false _ _ _ _ _ rfl (hv 82 (by kernel_rfl) rfl) (.bool false) (by rfl) w) hK))))); (exact (.inr (mStep _ 88 rfl rfl rfl rfl (by kernel_rfl) (fun a hv => wanted_all rfl _) (fun a w K hb hv hK => mPure (.bool false) (pick_false _ _ _ _ _ rfl (hv 82 (by kernel_rfl) rfl) (.bool false) (by rfl) w) hK))))) ?_
    exact all_nil
  intro w18 g hb18 hN18 hap18
  clear hN18 hap18
  have hB18 := below_then hB17 hb18
  have hvtb18 := hvtb17.on hb18
  have hvtc18 := hvtc17.on hb18
  have hvtx18 := hvtx17.on hb18
  have hvty18 := hvty17.on hb18
  have hvka18 := hvka17.on hb18
  have hvkb18 := hvkb17.on hb18
  have hvx18 := hvx17.on hb18
  have hvy18 := hvy17.on hb18
  have hvr18 := hvr17.on hb18
  have hvrx18 := hvrx17.on hb18
  have hvry18 := hvry17.on hb18
  have hvrb18 := hvrb17.on hb18
  clear hB17 hvtb17 hvtc17 hvtx17 hvty17 hvka17 hvkb17 hvx17 hvy17 hvr17 hvrx17 hvry17 hvrb17 hb18
  refine ⟨by kernel_rfl, ?_⟩
  rename_i K hKK
  show Exit.then K _ Exit.normal (⟨(rtVs10_2 ka kb yes w.heap.size gkb gx gy gr grx px gry py grb both x y r sq rr b1 su rx ry rxy xy zx zy).toArray, []⟩ : Act) w18
  simp only [Exit.then]
  refine hKK _ _ ?_
  clear hKK K g
  simp only [rtVs10_2]
  go_wp2_with (first
    | (refine sget_step rfl 33 (.tmp 7) rfl gx 5 (x.map ncell) rfl hvx18 Tryd.underlying33 rfl size_elem (by rw [List.length_map, Hx.out]) ?_
       try simp only [Act.put, List.setIfInBounds_toArray, List.set_cons_zero, List.set_cons_succ]
       skip)
    | (refine sget_step rfl 33 (.tmp 8) rfl gy 5 (y.map ncell) rfl hvy18 Tryd.underlying33 rfl size_elem (by rw [List.length_map, Hy.out]) ?_
       try simp only [Act.put, List.setIfInBounds_toArray, List.set_cons_zero, List.set_cons_succ]
       skip))
  refine (CPK.out w18).mono ?_
  rintro e w19 ⟨rfl, hb19⟩
  have hB19 := below_then hB18 hb19
  have hvtb19 := hvtb18.on hb19
  have hvtc19 := hvtc18.on hb19
  have hvtx19 := hvtx18.on hb19
  have hvty19 := hvty18.on hb19
  have hvka19 := hvka18.on hb19
  have hvkb19 := hvkb18.on hb19
  have hvx19 := hvx18.on hb19
  have hvy19 := hvy18.on hb19
  have hvr19 := hvr18.on hb19
  have hvrx19 := hvrx18.on hb19
  have hvry19 := hvry18.on hb19
  have hvrb19 := hvrb18.on hb19
  clear hB18 hvtb18 hvtc18 hvtx18 hvty18 hvka18 hvkb18 hvx18 hvy18 hvr18 hvrx18 hvry18 hvrb18 hb19
  go_upto_region 13 with (first
    | (refine vput_step rfl rfl 33 (.tmp 17) (.tmp 92) rfl rfl 5 (nzeros 5) (pk.map ncell) rfl rfl zero_elem rfl size_elem (by rw [List.length_map, HPKL.out]) (ncells_one _) ?_
       intro w20 hb20 hvs20
       have hB20 := below_then hB19 hb20
       have hges : w.heap.size ≤ w19.heap.size := hB19.size
       have hvtb20 := hvtb19.on hb20
       have hnetbs := Nat.ne_of_lt hvtb19.lt
       have hvtc20 := hvtc19.on hb20
       have hnetcs := Nat.ne_of_lt hvtc19.lt
       have hvtx20 := hvtx19.on hb20
       have hnetxs := Nat.ne_of_lt hvtx19.lt
       have hvty20 := hvty19.on hb20
       have hnetys := Nat.ne_of_lt hvty19.lt
       have hvka20 := hvka19.on hb20
       have hnekas := Nat.ne_of_lt hvka19.lt
       have hvkb20 := hvkb19.on hb20
       have hnekbs := Nat.ne_of_lt hvkb19.lt
       have hvx20 := hvx19.on hb20
       have hnexs := Nat.ne_of_lt hvx19.lt
       have hvy20 := hvy19.on hb20
       have hneys := Nat.ne_of_lt hvy19.lt
       have hvr20 := hvr19.on hb20
       have hners := Nat.ne_of_lt hvr19.lt
       have hvrx20 := hvrx19.on hb20
       have hnerxs := Nat.ne_of_lt hvrx19.lt
       have hvry20 := hvry19.on hb20
       have hnerys := Nat.ne_of_lt hvry19.lt
       have hvrb20 := hvrb19.on hb20
       have hnerbs := Nat.ne_of_lt hvrb19.lt
       clear hB19 hvtb19 hvtc19 hvtx19 hvty19 hvka19 hvkb19 hvx19 hvy19 hvr19 hvrx19 hvry19 hvrb19 hb20
       try simp only [Act.put, List.setIfInBounds_toArray, List.set_cons_zero, List.set_cons_succ]
       skip))
  generalize hqs : w19.heap.size = gs at *
  clear hqs
  refine wp_region_flat (md := .any) (by kernel_rfl) ?_
  refine wpAny_flatM (L := [0, 1, 2, 3, 4, 5, 6, 7, 8, 9, 10, 11, 12, 13, 14, 15, 16]) (by kernel_rfl) _ _ (rtVs13_3 ka kb yes w.heap.size gkb gx gy gr grx px gry py grb both gs x y r sq rr b1 su rx ry rxy xy zx zy pk) [] 33 (nzeros 5) [0, 1, 2, 3, 4, 5, 6, 7, 8, 9, 10, 11, 12, 13, 14, 15, 16, 17, 18, 19, 20, 21, 22, 23, 24, 25, 26, 27, 28, 29, 30, 31, 32, 33, 34, 35, 36, 37, 38, 39, 40, 41, 42, 43, 44, 45, 46, 47, 48, 49, 50, 51, 52, 53, 54, 55, 56, 57, 58, 59, 60, 61, 62, 63, 64, 65, 66, 67, 68, 69, 70, 71, 72, 73, 74, 75, 76, 77, 78, 79, 80, 81, 82, 83, 84, 85, 86, 87, 88, 89, 90, 91, 92, 110, 111, 112, 113, 114, 115, 116, 117, 118, 119, 120, 121, 122, 123, 124, 125] (by kernel_rfl) (by kernel_rfl) ?_ zero_elem ?_ (by rfl) ?_ 0 (by kernel_rfl) ?_
  · intro p hp
    exact absurd hp List.not_mem_nil
  · exact all_cons rfl (all_cons rfl (all_cons rfl (all_cons rfl (all_cons rfl (all_cons rfl (all_cons rfl (all_cons rfl (all_cons rfl (all_cons rfl (all_cons rfl (all_cons rfl (all_cons rfl (all_cons rfl (all_cons rfl (all_cons rfl (all_cons rfl (all_cons rfl (all_cons rfl (all_cons rfl (all_cons rfl (all_cons rfl (all_cons rfl (all_cons rfl (all_cons rfl (all_cons rfl (all_cons rfl (all_cons rfl (all_cons rfl (all_cons rfl (all_cons rfl (all_cons rfl (all_cons rfl (all_cons rfl (all_cons rfl (all_cons rfl (all_cons rfl (all_cons rfl (all_cons rfl (all_cons rfl (all_cons rfl (all_cons rfl (all_cons rfl (all_cons rfl (all_cons rfl (all_cons rfl (all_cons rfl (all_cons rfl (all_cons rfl (all_cons rfl (all_cons rfl (all_cons rfl (all_cons rfl (all_cons rfl (all_cons rfl (all_cons rfl (all_cons rfl (all_cons rfl (all_cons rfl (all_cons rfl (all_cons rfl (all_cons rfl (all_cons rfl (all_cons rfl (all_cons rfl (all_cons rfl (all_cons rfl (all_cons rfl (all_cons rfl (all_cons rfl (all_cons rfl (all_cons rfl (all_cons rfl (all_cons rfl (all_cons rfl (all_cons rfl (all_cons rfl (all_cons rfl (all_cons rfl (all_cons rfl (all_cons rfl (all_cons rfl (all_cons rfl (all_cons rfl (all_cons rfl (all_cons rfl (all_cons rfl (all_cons rfl (all_cons rfl (all_cons rfl (all_cons rfl (all_cons rfl (all_cons rfl (all_cons rfl (all_cons rfl (all_cons rfl (all_cons rfl (all_cons rfl (all_cons rfl (all_cons rfl (all_cons rfl (all_cons rfl (all_cons rfl (all_cons rfl (all_cons rfl (all_cons rfl (all_cons rfl (all_cons rfl (all_cons rfl (all_nil)))))))))))))))))))))))))))))))))))))))))))))))))))))))))))))))))))))))))))))))))))))))))))))))))))))))))))))
  · refine all_cons (by cases yes; (exact (.inr (mStep _ 93 rfl rfl rfl rfl (by kernel_rfl) (fun a hv => wanted_all rfl _) (fun a w K hb hv hK => mPure (.bool false) (exec_move _ _ _ (.inl rfl) _ (hv 2 (by kernel_rfl) rfl) w) hK)))); (exact (.inr (mStep _ 93 rfl rfl rfl rfl (by kernel_rfl) (fun a hv => wanted_all rfl _) (fun a w K hb hv hK => mPure (.bool true) (exec_move _ _ _ (.inl rfl) _ (hv 2 (by kernel_rfl) rfl) w) hK))))) ?_
    refine all_cons (by cases yes; (exact (.inr (mStep _ 94 rfl rfl rfl rfl (by kernel_rfl) (fun a hv => wanted_all rfl _) (fun a w K hb hv hK => mPure (.bool false) (exec_move _ _ _ (.inl rfl) _ (hv 93 (by kernel_rfl) rfl) w) hK)))); (exact (.inr (mStep _ 94 rfl rfl rfl rfl (by kernel_rfl) (fun a hv => wanted_all rfl _) (fun a w K hb hv hK => mPure (.bool true) (exec_move _ _ _ (.inl rfl) _ (hv 93 (by kernel_rfl) rfl) w) hK))))) ?_
    refine all_cons (by cases yes; (exact (.inr (mSkip _ 95 rfl rfl rfl rfl (by kernel_rfl) (fun a hv => (wanted_is (j := 1) (b := true) (c := false) rfl rfl rfl (hv 94 (by kernel_rfl) rfl)).trans rfl) rfl))); (exact (.inr (mStep _ 95 rfl rfl rfl rfl (by kernel_rfl) (fun a hv => (wanted_is (j := 1) (b := true) (c := true) rfl rfl rfl (hv 94 (by kernel_rfl) rfl)).trans rfl) (fun a w K hb hv hK => mPure (numVal pk) (exec_load _ _ _ _ rfl _ _ (hv 17 (by kernel_rfl) rfl) w (elem_run (hvs20.on hb) HPKL.out)) hK))))) ?_
    refine all_cons (by cases yes; (exact (.inr (mSkip _ 96 rfl rfl rfl rfl (by kernel_rfl) (fun a hv => (wanted_is (j := 1) (b := true) (c := false) rfl rfl rfl (hv 94 (by kernel_rfl) rfl)).trans rfl) rfl))); (exact (.inr (mStep _ 96 rfl rfl rfl rfl (by kernel_rfl) (fun a hv => (wanted_is (j := 1) (b := true) (c := true) rfl rfl rfl (hv 94 (by kernel_rfl) rfl)).trans rfl) (fun a w K hb hv hK => mPure (numVal x) (exec_load _ _ _ _ rfl _ _ (hv 7 (by kernel_rfl) rfl) w (elem_run (hvx20.on hb) Hx.out)) hK))))) ?_
    refine all_cons (by cases yes; (exact (.inr (mSkip _ 97 rfl rfl rfl rfl (by kernel_rfl) (fun a hv => (wanted_is (j := 1) (b := true) (c := false) rfl rfl rfl (hv 94 (by kernel_rfl) rfl)).trans rfl) rfl))); (exact (.inr (mStep _ 97 rfl rfl rfl rfl (by kernel_rfl) (fun a hv => (wanted_is (j := 1) (b := true) (c := true) rfl rfl rfl (hv 94 (by kernel_rfl) rfl)).trans rfl) (fun a w K hb hv hK => mCall (.bool true) 26 _ _ rfl [numVal pk, numVal x] (cons_eq (hv 95 (by kernel_rfl) rfl) (cons_eq (hv 96 (by kernel_rfl) rfl) (rfl))) (enters Tryd.func26 rfl rfl) ((S3.out (by simp)) w) hK))))) ?_
    refine all_cons (by cases yes; (exact (.inr (mSkip _ 98 rfl rfl rfl rfl (by kernel_rfl) (fun a hv => (wanted_is (j := 1) (b := true) (c := false) rfl rfl rfl (hv 94 (by kernel_rfl) rfl)).trans rfl) rfl))); (exact (.inr (mStep _ 98 rfl rfl rfl rfl (by kernel_rfl) (fun a hv => (wanted_is (j := 1) (b := true) (c := true) rfl rfl rfl (hv 94 (by kernel_rfl) rfl)).trans rfl) (fun a w K hb hv hK => mPure (.bool false) (exec_not _ _ _ _ rfl (true) (hv 97 (by kernel_rfl) rfl) w) hK))))) ?_
    refine all_cons (by cases yes; (exact (.inr (mStep _ 99 rfl rfl rfl rfl (by kernel_rfl) (fun a hv => wanted_all rfl _) (fun a w K hb hv hK => mPure (.bool false) (pick_false _ _ _ _ _ rfl (hv 94 (by kernel_rfl) rfl) (.bool false) (by rfl) w) hK)))); (exact (.inr (mStep _ 99 rfl rfl rfl rfl (by kernel_rfl) (fun a hv => wanted_all rfl _) (fun a w K hb hv hK => mPure (.bool false) (pick_true _ _ _ _ _ rfl (hv 94 (by kernel_rfl) rfl) (.bool false) (hv 98 (by kernel_rfl) rfl) w) hK))))) ?_
    refine all_cons (.inr (mStep _ 100 rfl rfl rfl rfl (by kernel_rfl) (fun a hv => wanted_all rfl _) (fun a w K hb hv hK => mPure (.bool false) (exec_move _ _ _ (.inl rfl) _ (hv 99 (by kernel_rfl) rfl) w) hK))) ?_
    refine all_cons (by cases yes; (exact (.inr (mStep _ 101 rfl rfl rfl rfl (by kernel_rfl) (fun a hv => (wanted_is (j := 7) (b := false) (c := false) rfl rfl rfl (hv 100 (by kernel_rfl) rfl)).trans rfl) (fun a w K hb hv hK => mPure (.bool false) (exec_move _ _ _ (.inl rfl) _ (hv 2 (by kernel_rfl) rfl) w) hK)))); (exact (.inr (mStep _ 101 rfl rfl rfl rfl (by kernel_rfl) (fun a hv => (wanted_is (j := 7) (b := false) (c := false) rfl rfl rfl (hv 100 (by kernel_rfl) rfl)).trans rfl) (fun a w K hb hv hK => mPure (.bool true) (exec_move _ _ _ (.inl rfl) _ (hv 2 (by kernel_rfl) rfl) w) hK))))) ?_
    refine all_cons (by cases yes; (exact (.inr (mStep _ 102 rfl rfl rfl rfl (by kernel_rfl) (fun a hv => (wanted_is (j := 7) (b := false) (c := false) rfl rfl rfl (hv 100 (by kernel_rfl) rfl)).trans rfl) (fun a w K hb hv hK => mPure (.bool true) (exec_not _ _ _ _ rfl (false) (hv 101 (by kernel_rfl) rfl) w) hK)))); (exact (.inr (mStep _ 102 rfl rfl rfl rfl (by kernel_rfl) (fun a hv => (wanted_is (j := 7) (b := false) (c := false) rfl rfl rfl (hv 100 (by kernel_rfl) rfl)).trans rfl) (fun a w K hb hv hK => mPure (.bool false) (exec_not _ _ _ _ rfl (true) (hv 101 (by kernel_rfl) rfl) w) hK))))) ?_
    refine all_cons (by cases yes; (exact (.inr (mStep _ 103 rfl rfl rfl rfl (by kernel_rfl) (fun a hv => (wanted_is (j := 7) (b := false) (c := false) rfl rfl rfl (hv 100 (by kernel_rfl) rfl)).trans rfl) (fun a w K hb hv hK => mPure (.bool true) (exec_move _ _ _ (.inl rfl) _ (hv 102 (by kernel_rfl) rfl) w) hK)))); (exact (.inr (mStep _ 103 rfl rfl rfl rfl (by kernel_rfl) (fun a hv => (wanted_is (j := 7) (b := false) (c := false) rfl rfl rfl (hv 100 (by kernel_rfl) rfl)).trans rfl) (fun a w K hb hv hK => mPure (.bool false) (exec_move _ _ _ (.inl rfl) _ (hv 102 (by kernel_rfl) rfl) w) hK))))) ?_
    refine all_cons (by cases yes; (exact (.inr (mStep _ 104 rfl rfl rfl rfl (by kernel_rfl) (fun a hv => (wanted_is (j := 10) (b := true) (c := true) rfl rfl rfl (hv 103 (by kernel_rfl) rfl)).trans rfl) (fun a w K hb hv hK => mPure (numVal pk) (exec_load _ _ _ _ rfl _ _ (hv 17 (by kernel_rfl) rfl) w (elem_run (hvs20.on hb) HPKL.out)) hK)))); (exact (.inr (mSkip _ 104 rfl rfl rfl rfl (by kernel_rfl) (fun a hv => (wanted_is (j := 10) (b := true) (c := false) rfl rfl rfl (hv 103 (by kernel_rfl) rfl)).trans rfl) rfl)))) ?_
    refine all_cons (by cases yes; (exact (.inr (mStep _ 105 rfl rfl rfl rfl (by kernel_rfl) (fun a hv => (wanted_is (j := 10) (b := true) (c := true) rfl rfl rfl (hv 103 (by kernel_rfl) rfl)).trans rfl) (fun a w K hb hv hK => mPure (numVal y) (exec_load _ _ _ _ rfl _ _ (hv 8 (by kernel_rfl) rfl) w (elem_run (hvy20.on hb) Hy.out)) hK)))); (exact (.inr (mSkip _ 105 rfl rfl rfl rfl (by kernel_rfl) (fun a hv => (wanted_is (j := 10) (b := true) (c := false) rfl rfl rfl (hv 103 (by kernel_rfl) rfl)).trans rfl) rfl)))) ?_
    refine all_cons (by cases yes; (exact (.inr (mStep _ 106 rfl rfl rfl rfl (by kernel_rfl) (fun a hv => (wanted_is (j := 10) (b := true) (c := true) rfl rfl rfl (hv 103 (by kernel_rfl) rfl)).trans rfl) (fun a w K hb hv hK => mCall (.bool true) 26 _ _ rfl [numVal pk, numVal y] (cons_eq (hv 104 (by kernel_rfl) rfl) (cons_eq (hv 105 (by kernel_rfl) rfl) (rfl))) (enters Tryd.func26 rfl rfl) ((S4.out (by simp)) w) hK)))); (exact (.inr (mSkip _ 106 rfl rfl rfl rfl (by kernel_rfl) (fun a hv => (wanted_is (j := 10) (b := true) (c := false) rfl rfl rfl (hv 103 (by kernel_rfl) rfl)).trans rfl) rfl)))) ?_
    refine all_cons (by cases yes; (exact (.inr (mStep _ 107 rfl rfl rfl rfl (by kernel_rfl) (fun a hv => (wanted_is (j := 10) (b := true) (c := true) rfl rfl rfl (hv 103 (by kernel_rfl) rfl)).trans rfl) (fun a w K hb hv hK => mPure (.bool false) (exec_not _ _ _ _ rfl (true) (hv 106 (by kernel_rfl) rfl) w) hK)))); (exact (.inr (mSkip _ 107 rfl rfl rfl rfl (by kernel_rfl) (fun a hv => (wanted_is (j := 10) (b := true) (c := false) rfl rfl rfl (hv 103 (by kernel_rfl) rfl)).trans rfl) rfl)))) ?_
    refine all_cons (by cases yes; (exact (.inr (mStep _ 108 rfl rfl rfl rfl (by kernel_rfl) (fun a hv => (wanted_is (j := 7) (b := false) (c := false) rfl rfl rfl (hv 100 (by kernel_rfl) rfl)).trans rfl) (fun a w K hb hv hK => mPure (.bool false) (pick_true _ _ _ _ _ rfl (hv 103 (by kernel_rfl) rfl) (.bool false) (hv 107 (by kernel_rfl) rfl) w) hK)))); (exact (.inr (mStep _ 108 rfl rfl rfl rfl (by kernel_rfl) (fun a hv => (wanted_is (j := 7) (b := false) (c := false) rfl rfl rfl (hv 100 (by kernel_rfl) rfl)).trans rfl) (fun a w K hb hv hK => mPure (.bool false) (pick_false _ _ _ _ _ rfl (hv 103 (by kernel_rfl) rfl) (.bool false) (by rfl) w) hK))))) ?_
    refine all_cons (.inr (mStep _ 109 rfl rfl rfl rfl (by kernel_rfl) (fun a hv => wanted_all rfl _) (fun a w K hb hv hK => mPure (.bool false) (pick_false _ _ _ _ _ rfl (hv 100 (by kernel_rfl) rfl) (.bool false) (hv 108 (by kernel_rfl) rfl) w) hK))) ?_
    exact all_nil
  intro w21 g hb21 hN21 hap21
  clear hN21 hap21
  have hB21 := below_then hB20 hb21
  have hvtb21 := hvtb20.on hb21
  have hvtc21 := hvtc20.on hb21
  have hvtx21 := hvtx20.on hb21
  have hvty21 := hvty20.on hb21
  have hvka21 := hvka20.on hb21
  have hvkb21 := hvkb20.on hb21
  have hvx21 := hvx20.on hb21
  have hvy21 := hvy20.on hb21
  have hvr21 := hvr20.on hb21
  have hvrx21 := hvrx20.on hb21
  have hvry21 := hvry20.on hb21
  have hvrb21 := hvrb20.on hb21
  have hvs21 := hvs20.on hb21
  clear hB20 hvtb20 hvtc20 hvtx20 hvty20 hvka20 hvkb20 hvx20 hvy20 hvr20 hvrx20 hvry20 hvrb20 hvs20 hb21
  refine ⟨by kernel_rfl, ?_⟩
  rename_i K hKK
  show Exit.then K _ Exit.normal (⟨(rtVs13_3 ka kb yes w.heap.size gkb gx gy gr grx px gry py grb both gs x y r sq rr b1 su rx ry rxy xy zx zy pk).toArray, []⟩ : Act) w21
  simp only [Exit.then]
  refine hKK _ _ ?_
  clear hKK K g
  simp only [rtVs13_3]
  go_wp2_with fail
  refine (CC.out w21).mono ?_
  rintro e w22 ⟨rfl, hb22⟩
  have hB22 := below_then hB21 hb22
  have hvtb22 := hvtb21.on hb22
  have hvtc22 := hvtc21.on hb22
  have hvtx22 := hvtx21.on hb22
  have hvty22 := hvty21.on hb22
  have hvka22 := hvka21.on hb22
  have hvkb22 := hvkb21.on hb22
  have hvx22 := hvx21.on hb22
  have hvy22 := hvy21.on hb22
  have hvr22 := hvr21.on hb22
  have hvrx22 := hvrx21.on hb22
  have hvry22 := hvry21.on hb22
  have hvrb22 := hvrb21.on hb22
  have hvs22 := hvs21.on hb22
  clear hB21 hvtb21 hvtc21 hvtx21 hvty21 hvka21 hvkb21 hvx21 hvy21 hvr21 hvrx21 hvry21 hvrb21 hvs21 hb22
  go_wp2_with fail
  refine (CCU.out w22 hvtc22).mono ?_
  rintro e w23 ⟨rfl, hb23⟩
  have hB23 := below_then hB22 hb23
  have hvtb23 := hvtb22.on hb23
  have hvtc23 := hvtc22.on hb23
  have hvtx23 := hvtx22.on hb23
  have hvty23 := hvty22.on hb23
  have hvka23 := hvka22.on hb23
  have hvkb23 := hvkb22.on hb23
  have hvx23 := hvx22.on hb23
  have hvy23 := hvy22.on hb23
  have hvr23 := hvr22.on hb23
  have hvrx23 := hvrx22.on hb23
  have hvry23 := hvry22.on hb23
  have hvrb23 := hvrb22.on hb23
  have hvs23 := hvs22.on hb23
  clear hB22 hvtb22 hvtc22 hvtx22 hvty22 hvka22 hvkb22 hvx22 hvy22 hvr22 hvrx22 hvry22 hvrb22 hvs22 hb23
  go_wp2_with fail
  refine (DCU.out w23).mono ?_
  rintro e w24 ⟨rfl, hb24⟩
  have hB24 := below_then hB23 hb24
  have hvtb24 := hvtb23.on hb24
  have hvtc24 := hvtc23.on hb24
  have hvtx24 := hvtx23.on hb24
  have hvty24 := hvty23.on hb24
  have hvka24 := hvka23.on hb24
  have hvkb24 := hvkb23.on hb24
  have hvx24 := hvx23.on hb24
  have hvy24 := hvy23.on hb24
  have hvr24 := hvr23.on hb24
  have hvrx24 := hvrx23.on hb24
  have hvry24 := hvry23.on hb24
  have hvrb24 := hvrb23.on hb24
  have hvs24 := hvs23.on hb24
  clear hB23 hvtb23 hvtc23 hvtx23 hvty23 hvka23 hvkb23 hvx23 hvy23 hvr23 hvrx23 hvry23 hvrb23 hvs23 hb24
  go_wp2_with fail
  refine (S5.out w24).mono ?_
  rintro e w25 ⟨rfl, hb25⟩
  have hB25 := below_then hB24 hb25
  have hvtb25 := hvtb24.on hb25
  have hvtc25 := hvtc24.on hb25
  have hvtx25 := hvtx24.on hb25
  have hvty25 := hvty24.on hb25
  have hvka25 := hvka24.on hb25
  have hvkb25 := hvkb24.on hb25
  have hvx25 := hvx24.on hb25
  have hvy25 := hvy24.on hb25
  have hvr25 := hvr24.on hb25
  have hvrx25 := hvrx24.on hb25
  have hvry25 := hvry24.on hb25
  have hvrb25 := hvrb24.on hb25
  have hvs25 := hvs24.on hb25
  clear hB24 hvtb24 hvtc24 hvtx24 hvty24 hvka24 hvkb24 hvx24 hvy24 hvr24 hvrx24 hvry24 hvrb24 hvs24 hb25
  go_wp2_with fail
  refine (CBX.out w25 hvtx25).mono ?_
  rintro e w26 ⟨rfl, hb26⟩
  have hB26 := below_then hB25 hb26
  have hvtb26 := hvtb25.on hb26
  have hvtc26 := hvtc25.on hb26
  have hvtx26 := hvtx25.on hb26
  have hvty26 := hvty25.on hb26
  have hvka26 := hvka25.on hb26
  have hvkb26 := hvkb25.on hb26
  have hvx26 := hvx25.on hb26
  have hvy26 := hvy25.on hb26
  have hvr26 := hvr25.on hb26
  have hvrx26 := hvrx25.on hb26
  have hvry26 := hvry25.on hb26
  have hvrb26 := hvrb25.on hb26
  have hvs26 := hvs25.on hb26
  clear hB25 hvtb25 hvtc25 hvtx25 hvty25 hvka25 hvkb25 hvx25 hvy25 hvr25 hvrx25 hvry25 hvrb25 hvs25 hb26
  go_wp2_with fail
  refine (DBX.out w26).mono ?_
  rintro e w27 ⟨rfl, hb27⟩
  have hB27 := below_then hB26 hb27
  have hvtb27 := hvtb26.on hb27
  have hvtc27 := hvtc26.on hb27
  have hvtx27 := hvtx26.on hb27
  have hvty27 := hvty26.on hb27
  have hvka27 := hvka26.on hb27
  have hvkb27 := hvkb26.on hb27
  have hvx27 := hvx26.on hb27
  have hvy27 := hvy26.on hb27
  have hvr27 := hvr26.on hb27
  have hvrx27 := hvrx26.on hb27
  have hvry27 := hvry26.on hb27
  have hvrb27 := hvrb26.on hb27
  have hvs27 := hvs26.on hb27
  clear hB26 hvtb26 hvtc26 hvtx26 hvty26 hvka26 hvkb26 hvx26 hvy26 hvr26 hvrx26 hvry26 hvrb26 hvs26 hb27
  go_wp2_with fail
  refine (S6.out w27).mono ?_
  rintro e w28 ⟨rfl, hb28⟩
  have hB28 := below_then hB27 hb28
  have hvtb28 := hvtb27.on hb28
  have hvtc28 := hvtc27.on hb28
  have hvtx28 := hvtx27.on hb28
  have hvty28 := hvty27.on hb28
  have hvka28 := hvka27.on hb28
  have hvkb28 := hvkb27.on hb28
  have hvx28 := hvx27.on hb28
  have hvy28 := hvy27.on hb28
  have hvr28 := hvr27.on hb28
  have hvrx28 := hvrx27.on hb28
  have hvry28 := hvry27.on hb28
  have hvrb28 := hvrb27.on hb28
  have hvs28 := hvs27.on hb28
  clear hB27 hvtb27 hvtc27 hvtx27 hvty27 hvka27 hvkb27 hvx27 hvy27 hvr27 hvrx27 hvry27 hvrb27 hvs27 hb28
  go_wp2_with fail
  refine (CBY.out w28 hvty28).mono ?_
  rintro e w29 ⟨rfl, hb29⟩
  have hB29 := below_then hB28 hb29
  have hvtb29 := hvtb28.on hb29
  have hvtc29 := hvtc28.on hb29
  have hvtx29 := hvtx28.on hb29
  have hvty29 := hvty28.on hb29
  have hvka29 := hvka28.on hb29
  have hvkb29 := hvkb28.on hb29
  have hvx29 := hvx28.on hb29
  have hvy29 := hvy28.on hb29
  have hvr29 := hvr28.on hb29
  have hvrx29 := hvrx28.on hb29
  have hvry29 := hvry28.on hb29
  have hvrb29 := hvrb28.on hb29
  have hvs29 := hvs28.on hb29
  clear hB28 hvtb28 hvtc28 hvtx28 hvty28 hvka28 hvkb28 hvx28 hvy28 hvr28 hvrx28 hvry28 hvrb28 hvs28 hb29
  go_wp2_with fail
  refine (DBY.out w29).mono ?_
  rintro e w30 ⟨rfl, hb30⟩
  have hB30 := below_then hB29 hb30
  have hvtb30 := hvtb29.on hb30
  have hvtc30 := hvtc29.on hb30
  have hvtx30 := hvtx29.on hb30
  have hvty30 := hvty29.on hb30
  have hvka30 := hvka29.on hb30
  have hvkb30 := hvkb29.on hb30
  have hvx30 := hvx29.on hb30
  have hvy30 := hvy29.on hb30
  have hvr30 := hvr29.on hb30
  have hvrx30 := hvrx29.on hb30
  have hvry30 := hvry29.on hb30
  have hvrb30 := hvrb29.on hb30
  have hvs30 := hvs29.on hb30
  clear hB29 hvtb29 hvtc29 hvtx29 hvty29 hvka29 hvkb29 hvx29 hvy29 hvr29 hvrx29 hvry29 hvrb29 hvs29 hb30
  go_wp2_with fail
  refine (S7.out w30).mono ?_
  rintro e w31 ⟨rfl, hb31⟩
  have hB31 := below_then hB30 hb31
  have hvtb31 := hvtb30.on hb31
  have hvtc31 := hvtc30.on hb31
  have hvtx31 := hvtx30.on hb31
  have hvty31 := hvty30.on hb31
  have hvka31 := hvka30.on hb31
  have hvkb31 := hvkb30.on hb31
  have hvx31 := hvx30.on hb31
  have hvy31 := hvy30.on hb31
  have hvr31 := hvr30.on hb31
  have hvrx31 := hvrx30.on hb31
  have hvry31 := hvry30.on hb31
  have hvrb31 := hvrb30.on hb31
  have hvs31 := hvs30.on hb31
  clear hB30 hvtb30 hvtc30 hvtx30 hvty30 hvka30 hvkb30 hvx30 hvy30 hvr30 hvrx30 hvry30 hvrb30 hvs30 hb31
  go_wp2
  go_ret
  exact ⟨rfl, hB31⟩
end Go.Proofs.YtcnmohmlfffnkaaDoor.fieldRoots
