/- Part 22 of what the laws of this seat share: BRead. -/
import Derived.Deep.Cut
import Derived.IntWalk
import Derived.Test.YtagjbdhelfickaaDoorPart21
namespace Go.Proofs.YtagjbdhelfickaaDoor
open Go.RowKit
def read12Vs4 (kb : List UInt8) (g_base : Nat) (gr : Nat) (gy : Nat) (q : UInt8) (v : UInt8) (kc : List UInt8) (y : List Nat) (yl : List Nat) (nq : Bool) : List Value :=
  (hashVal kb) :: (.pointer (some ⟨g_base, 0, none⟩)) :: (.pointer (some ⟨gr, 0, none⟩)) :: (.int .i64 0) :: (.bool false) :: (.pointer (some ⟨gy, 0, none⟩)) :: undef :: undef :: undef :: (.pointer (some ⟨g_base, 31, none⟩)) :: (cellOf q) :: (.bool false) :: (.pointer (some ⟨g_base, 31, none⟩)) :: (cellOf q) :: (.int .u8 (v.toNat : Int)) :: (.pointer (some ⟨g_base, 31, none⟩)) :: (hashVal kc) :: (numD y) :: (numD y) :: (numD yl) :: (numD y) :: (.bool nq) :: undef :: undef :: undef :: undef :: undef :: undef :: undef :: undef :: undef :: undef :: undef :: undef :: undef :: undef :: undef :: undef :: undef :: undef :: undef :: undef :: undef :: undef :: undef :: undef :: undef :: undef :: undef :: undef :: undef :: undef :: undef :: undef :: undef :: undef :: undef :: undef :: undef :: []
def read12Vs7_1 (kb : List UInt8) (g_base : Nat) (gr : Nat) (gy : Nat) (gv : Nat) (ok : Bool) (q : UInt8) (v : UInt8) (kc : List UInt8) (y : List Nat) (yl : List Nat) (yy : List Nat) (x : List Nat) (o : List Nat) (s1 : List Nat) (dd : List Nat) (t1 : List Nat) (a1 : List Nat) (iv : List Nat) (pr : List Nat) : List Value :=
  (hashVal kb) :: (.pointer (some ⟨g_base, 0, none⟩)) :: (.pointer (some ⟨gr, 0, none⟩)) :: (.int .i64 0) :: (.bool false) :: (.pointer (some ⟨gy, 0, none⟩)) :: (.pointer (some ⟨gv, 0, none⟩)) :: undef :: (.bool ok) :: (.pointer (some ⟨g_base, 31, none⟩)) :: (cellOf q) :: (.bool false) :: (.pointer (some ⟨g_base, 31, none⟩)) :: (cellOf q) :: (.int .u8 (v.toNat : Int)) :: (.pointer (some ⟨g_base, 31, none⟩)) :: (hashVal kc) :: (numD y) :: (numD y) :: (numD yl) :: (numD y) :: (.bool false) :: undef :: (numD y) :: (numD y) :: (numD yy) :: (.tuple #[numD x, .bool ok]) :: (numD yy) :: (numD o) :: (numD s1) :: (numD dd) :: (numD yy) :: (numD t1) :: (numD o) :: (numD a1) :: (numD iv) :: (numD pr) :: (.tuple #[numD x, .bool ok]) :: (numD x) :: (.bool ok) :: undef :: undef :: undef :: undef :: undef :: undef :: undef :: undef :: undef :: undef :: undef :: undef :: undef :: undef :: undef :: undef :: undef :: undef :: undef :: []
def read12Vs7_1N (kb : List UInt8) (g_base : Nat) (gr : Nat) (gy : Nat) (gv : Nat) (ok : Bool) (q : UInt8) (v : UInt8) (kc : List UInt8) (y : List Nat) (yl : List Nat) (yy : List Nat) (x : List Nat) (o : List Nat) (s1 : List Nat) (dd : List Nat) (t1 : List Nat) (a1 : List Nat) (iv : List Nat) (pr : List Nat) (n7 : Nat) : List Value :=
  (hashVal kb) :: (.pointer (some ⟨g_base, 0, none⟩)) :: (.pointer (some ⟨gr, 0, none⟩)) :: (.int .i64 0) :: (.bool false) :: (.pointer (some ⟨gy, 0, none⟩)) :: (.pointer (some ⟨gv, 0, none⟩)) :: (.pointer (some ⟨n7, 0, none⟩)) :: (.bool ok) :: (.pointer (some ⟨g_base, 31, none⟩)) :: (cellOf q) :: (.bool false) :: (.pointer (some ⟨g_base, 31, none⟩)) :: (cellOf q) :: (.int .u8 (v.toNat : Int)) :: (.pointer (some ⟨g_base, 31, none⟩)) :: (hashVal kc) :: (numD y) :: (numD y) :: (numD yl) :: (numD y) :: (.bool false) :: undef :: (numD y) :: (numD y) :: (numD yy) :: (.tuple #[numD x, .bool ok]) :: (numD yy) :: (numD o) :: (numD s1) :: (numD dd) :: (numD yy) :: (numD t1) :: (numD o) :: (numD a1) :: (numD iv) :: (numD pr) :: (.tuple #[numD x, .bool ok]) :: (numD x) :: (.bool ok) :: undef :: undef :: undef :: undef :: undef :: undef :: undef :: undef :: undef :: undef :: undef :: undef :: undef :: undef :: undef :: undef :: undef :: undef :: undef :: []
def read12Vs8_2 (kb : List UInt8) (g_base : Nat) (gr : Nat) (gy : Nat) (gv : Nat) (gx : Nat) (q : UInt8) (v : UInt8) (kc : List UInt8) (y : List Nat) (yl : List Nat) (yy : List Nat) (x : List Nat) (o : List Nat) (s1 : List Nat) (dd : List Nat) (t1 : List Nat) (a1 : List Nat) (iv : List Nat) (pr : List Nat) : List Value :=
  (hashVal kb) :: (.pointer (some ⟨g_base, 0, none⟩)) :: (.pointer (some ⟨gr, 0, none⟩)) :: (.int .i64 0) :: (.bool false) :: (.pointer (some ⟨gy, 0, none⟩)) :: (.pointer (some ⟨gv, 0, none⟩)) :: (.pointer (some ⟨gx, 0, none⟩)) :: (.bool false) :: (.pointer (some ⟨g_base, 31, none⟩)) :: (cellOf q) :: (.bool false) :: (.pointer (some ⟨g_base, 31, none⟩)) :: (cellOf q) :: (.int .u8 (v.toNat : Int)) :: (.pointer (some ⟨g_base, 31, none⟩)) :: (hashVal kc) :: (numD y) :: (numD y) :: (numD yl) :: (numD y) :: (.bool false) :: undef :: (numD y) :: (numD y) :: (numD yy) :: (.tuple #[numD x, .bool false]) :: (numD yy) :: (numD o) :: (numD s1) :: (numD dd) :: (numD yy) :: (numD t1) :: (numD o) :: (numD a1) :: (numD iv) :: (numD pr) :: (.tuple #[numD x, .bool false]) :: (numD x) :: (.bool false) :: (.bool false) :: (.bool true) :: (.bool true) :: undef :: undef :: undef :: undef :: undef :: undef :: (.bool true) :: undef :: undef :: undef :: undef :: undef :: undef :: undef :: undef :: undef :: []
def read12Vs8_3 (kb : List UInt8) (g_base : Nat) (gr : Nat) (gy : Nat) (gv : Nat) (gx : Nat) (q : UInt8) (v : UInt8) (kc : List UInt8) (y : List Nat) (yl : List Nat) (yy : List Nat) (x : List Nat) (o : List Nat) (s1 : List Nat) (dd : List Nat) (t1 : List Nat) (a1 : List Nat) (iv : List Nat) (pr : List Nat) : List Value :=
  (hashVal kb) :: (.pointer (some ⟨g_base, 0, none⟩)) :: (.pointer (some ⟨gr, 0, none⟩)) :: (.int .i64 0) :: (.bool false) :: (.pointer (some ⟨gy, 0, none⟩)) :: (.pointer (some ⟨gv, 0, none⟩)) :: (.pointer (some ⟨gx, 0, none⟩)) :: (.bool true) :: (.pointer (some ⟨g_base, 31, none⟩)) :: (cellOf q) :: (.bool false) :: (.pointer (some ⟨g_base, 31, none⟩)) :: (cellOf q) :: (.int .u8 (v.toNat : Int)) :: (.pointer (some ⟨g_base, 31, none⟩)) :: (hashVal kc) :: (numD y) :: (numD y) :: (numD yl) :: (numD y) :: (.bool false) :: undef :: (numD y) :: (numD y) :: (numD yy) :: (.tuple #[numD x, .bool true]) :: (numD yy) :: (numD o) :: (numD s1) :: (numD dd) :: (numD yy) :: (numD t1) :: (numD o) :: (numD a1) :: (numD iv) :: (numD pr) :: (.tuple #[numD x, .bool true]) :: (numD x) :: (.bool true) :: (.bool true) :: (.bool false) :: (.bool false) :: (.bool false) :: (.bool false) :: undef :: undef :: undef :: (.bool false) :: (.bool false) :: undef :: undef :: undef :: undef :: undef :: undef :: undef :: undef :: undef :: []
def read12Vs12_4 (kb : List UInt8) (g_base : Nat) (gr : Nat) (gy : Nat) (gv : Nat) (gx : Nat) (q : UInt8) (v : UInt8) (kc : List UInt8) (y : List Nat) (yl : List Nat) (yy : List Nat) (x : List Nat) (o : List Nat) (s1 : List Nat) (dd : List Nat) (t1 : List Nat) (a1 : List Nat) (iv : List Nat) (pr : List Nat) (r0 : List Nat) : List Value :=
  (hashVal kb) :: (.pointer (some ⟨g_base, 0, none⟩)) :: (.pointer (some ⟨gr, 0, none⟩)) :: (.int .i64 0) :: (.bool false) :: (.pointer (some ⟨gy, 0, none⟩)) :: (.pointer (some ⟨gv, 0, none⟩)) :: (.pointer (some ⟨gx, 0, none⟩)) :: (.bool true) :: (.pointer (some ⟨g_base, 31, none⟩)) :: (cellOf q) :: (.bool false) :: (.pointer (some ⟨g_base, 31, none⟩)) :: (cellOf q) :: (.int .u8 (v.toNat : Int)) :: (.pointer (some ⟨g_base, 31, none⟩)) :: (hashVal kc) :: (numD y) :: (numD y) :: (numD yl) :: (numD y) :: (.bool false) :: undef :: (numD y) :: (numD y) :: (numD yy) :: (.tuple #[numD x, .bool true]) :: (numD yy) :: (numD o) :: (numD s1) :: (numD dd) :: (numD yy) :: (numD t1) :: (numD o) :: (numD a1) :: (numD iv) :: (numD pr) :: (.tuple #[numD x, .bool true]) :: (numD x) :: (.bool true) :: (.bool true) :: (.bool false) :: (.bool false) :: (.bool false) :: (.bool false) :: undef :: undef :: undef :: (.bool false) :: (.bool false) :: undef :: (.bool false) :: undef :: undef :: undef :: (numD x) :: (numD y) :: (numD o) :: (numD r0) :: []
def read12Vs4_5 (kb : List UInt8) (g_base : Nat) (gr : Nat) (gy : Nat) (q : UInt8) (v : UInt8) (kc : List UInt8) (y : List Nat) (yl : List Nat) (nq : Bool) : List Value :=
  (hashVal kb) :: (.pointer (some ⟨g_base, 0, none⟩)) :: (.pointer (some ⟨gr, 0, none⟩)) :: (.int .i64 0) :: (.bool true) :: (.pointer (some ⟨gy, 0, none⟩)) :: undef :: undef :: undef :: (.pointer (some ⟨g_base, 31, none⟩)) :: (cellOf q) :: (.bool true) :: (.pointer (some ⟨g_base, 31, none⟩)) :: (cellOf q) :: (.int .u8 (v.toNat : Int)) :: (.pointer (some ⟨g_base, 31, none⟩)) :: (hashVal kc) :: (numD y) :: (numD y) :: (numD yl) :: (numD y) :: (.bool nq) :: undef :: undef :: undef :: undef :: undef :: undef :: undef :: undef :: undef :: undef :: undef :: undef :: undef :: undef :: undef :: undef :: undef :: undef :: undef :: undef :: undef :: undef :: undef :: undef :: undef :: undef :: undef :: undef :: undef :: undef :: undef :: undef :: undef :: undef :: undef :: undef :: undef :: []
def read12Vs7_6 (kb : List UInt8) (g_base : Nat) (gr : Nat) (gy : Nat) (gv : Nat) (ok : Bool) (q : UInt8) (v : UInt8) (kc : List UInt8) (y : List Nat) (yl : List Nat) (yy : List Nat) (x : List Nat) (o : List Nat) (s1 : List Nat) (dd : List Nat) (t1 : List Nat) (a1 : List Nat) (iv : List Nat) (pr : List Nat) : List Value :=
  (hashVal kb) :: (.pointer (some ⟨g_base, 0, none⟩)) :: (.pointer (some ⟨gr, 0, none⟩)) :: (.int .i64 0) :: (.bool true) :: (.pointer (some ⟨gy, 0, none⟩)) :: (.pointer (some ⟨gv, 0, none⟩)) :: undef :: (.bool ok) :: (.pointer (some ⟨g_base, 31, none⟩)) :: (cellOf q) :: (.bool true) :: (.pointer (some ⟨g_base, 31, none⟩)) :: (cellOf q) :: (.int .u8 (v.toNat : Int)) :: (.pointer (some ⟨g_base, 31, none⟩)) :: (hashVal kc) :: (numD y) :: (numD y) :: (numD yl) :: (numD y) :: (.bool false) :: undef :: (numD y) :: (numD y) :: (numD yy) :: (.tuple #[numD x, .bool ok]) :: (numD yy) :: (numD o) :: (numD s1) :: (numD dd) :: (numD yy) :: (numD t1) :: (numD o) :: (numD a1) :: (numD iv) :: (numD pr) :: (.tuple #[numD x, .bool ok]) :: (numD x) :: (.bool ok) :: undef :: undef :: undef :: undef :: undef :: undef :: undef :: undef :: undef :: undef :: undef :: undef :: undef :: undef :: undef :: undef :: undef :: undef :: undef :: []
def read12Vs7_6N (kb : List UInt8) (g_base : Nat) (gr : Nat) (gy : Nat) (gv : Nat) (ok : Bool) (q : UInt8) (v : UInt8) (kc : List UInt8) (y : List Nat) (yl : List Nat) (yy : List Nat) (x : List Nat) (o : List Nat) (s1 : List Nat) (dd : List Nat) (t1 : List Nat) (a1 : List Nat) (iv : List Nat) (pr : List Nat) (n7 : Nat) : List Value :=
  (hashVal kb) :: (.pointer (some ⟨g_base, 0, none⟩)) :: (.pointer (some ⟨gr, 0, none⟩)) :: (.int .i64 0) :: (.bool true) :: (.pointer (some ⟨gy, 0, none⟩)) :: (.pointer (some ⟨gv, 0, none⟩)) :: (.pointer (some ⟨n7, 0, none⟩)) :: (.bool ok) :: (.pointer (some ⟨g_base, 31, none⟩)) :: (cellOf q) :: (.bool true) :: (.pointer (some ⟨g_base, 31, none⟩)) :: (cellOf q) :: (.int .u8 (v.toNat : Int)) :: (.pointer (some ⟨g_base, 31, none⟩)) :: (hashVal kc) :: (numD y) :: (numD y) :: (numD yl) :: (numD y) :: (.bool false) :: undef :: (numD y) :: (numD y) :: (numD yy) :: (.tuple #[numD x, .bool ok]) :: (numD yy) :: (numD o) :: (numD s1) :: (numD dd) :: (numD yy) :: (numD t1) :: (numD o) :: (numD a1) :: (numD iv) :: (numD pr) :: (.tuple #[numD x, .bool ok]) :: (numD x) :: (.bool ok) :: undef :: undef :: undef :: undef :: undef :: undef :: undef :: undef :: undef :: undef :: undef :: undef :: undef :: undef :: undef :: undef :: undef :: undef :: undef :: []
def read12Vs8_7 (kb : List UInt8) (g_base : Nat) (gr : Nat) (gy : Nat) (gv : Nat) (gx : Nat) (q : UInt8) (v : UInt8) (kc : List UInt8) (y : List Nat) (yl : List Nat) (yy : List Nat) (x : List Nat) (o : List Nat) (s1 : List Nat) (dd : List Nat) (t1 : List Nat) (a1 : List Nat) (iv : List Nat) (pr : List Nat) : List Value :=
  (hashVal kb) :: (.pointer (some ⟨g_base, 0, none⟩)) :: (.pointer (some ⟨gr, 0, none⟩)) :: (.int .i64 0) :: (.bool true) :: (.pointer (some ⟨gy, 0, none⟩)) :: (.pointer (some ⟨gv, 0, none⟩)) :: (.pointer (some ⟨gx, 0, none⟩)) :: (.bool false) :: (.pointer (some ⟨g_base, 31, none⟩)) :: (cellOf q) :: (.bool true) :: (.pointer (some ⟨g_base, 31, none⟩)) :: (cellOf q) :: (.int .u8 (v.toNat : Int)) :: (.pointer (some ⟨g_base, 31, none⟩)) :: (hashVal kc) :: (numD y) :: (numD y) :: (numD yl) :: (numD y) :: (.bool false) :: undef :: (numD y) :: (numD y) :: (numD yy) :: (.tuple #[numD x, .bool false]) :: (numD yy) :: (numD o) :: (numD s1) :: (numD dd) :: (numD yy) :: (numD t1) :: (numD o) :: (numD a1) :: (numD iv) :: (numD pr) :: (.tuple #[numD x, .bool false]) :: (numD x) :: (.bool false) :: (.bool false) :: (.bool true) :: (.bool true) :: undef :: undef :: undef :: undef :: undef :: undef :: (.bool true) :: undef :: undef :: undef :: undef :: undef :: undef :: undef :: undef :: undef :: []
def read12Vs8_8 (kb : List UInt8) (g_base : Nat) (gr : Nat) (gy : Nat) (gv : Nat) (gx : Nat) (q : UInt8) (v : UInt8) (kc : List UInt8) (y : List Nat) (yl : List Nat) (yy : List Nat) (x : List Nat) (o : List Nat) (s1 : List Nat) (dd : List Nat) (t1 : List Nat) (a1 : List Nat) (iv : List Nat) (pr : List Nat) (zn : List Nat) : List Value :=
  (hashVal kb) :: (.pointer (some ⟨g_base, 0, none⟩)) :: (.pointer (some ⟨gr, 0, none⟩)) :: (.int .i64 0) :: (.bool true) :: (.pointer (some ⟨gy, 0, none⟩)) :: (.pointer (some ⟨gv, 0, none⟩)) :: (.pointer (some ⟨gx, 0, none⟩)) :: (.bool true) :: (.pointer (some ⟨g_base, 31, none⟩)) :: (cellOf q) :: (.bool true) :: (.pointer (some ⟨g_base, 31, none⟩)) :: (cellOf q) :: (.int .u8 (v.toNat : Int)) :: (.pointer (some ⟨g_base, 31, none⟩)) :: (hashVal kc) :: (numD y) :: (numD y) :: (numD yl) :: (numD y) :: (.bool false) :: undef :: (numD y) :: (numD y) :: (numD yy) :: (.tuple #[numD x, .bool true]) :: (numD yy) :: (numD o) :: (numD s1) :: (numD dd) :: (numD yy) :: (numD t1) :: (numD o) :: (numD a1) :: (numD iv) :: (numD pr) :: (.tuple #[numD x, .bool true]) :: (numD x) :: (.bool true) :: (.bool true) :: (.bool false) :: (.bool false) :: (.bool true) :: (.bool true) :: (numD x) :: (numD zn) :: (.bool false) :: (.bool false) :: (.bool false) :: undef :: undef :: undef :: undef :: undef :: undef :: undef :: undef :: undef :: []
def read12Vs12_9 (kb : List UInt8) (g_base : Nat) (gr : Nat) (gy : Nat) (gv : Nat) (gx : Nat) (q : UInt8) (v : UInt8) (kc : List UInt8) (y : List Nat) (yl : List Nat) (yy : List Nat) (x : List Nat) (o : List Nat) (s1 : List Nat) (dd : List Nat) (t1 : List Nat) (a1 : List Nat) (iv : List Nat) (pr : List Nat) (zn : List Nat) (xn : List Nat) (r1 : List Nat) : List Value :=
  (hashVal kb) :: (.pointer (some ⟨g_base, 0, none⟩)) :: (.pointer (some ⟨gr, 0, none⟩)) :: (.int .i64 0) :: (.bool true) :: (.pointer (some ⟨gy, 0, none⟩)) :: (.pointer (some ⟨gv, 0, none⟩)) :: (.pointer (some ⟨gx, 0, none⟩)) :: (.bool true) :: (.pointer (some ⟨g_base, 31, none⟩)) :: (cellOf q) :: (.bool true) :: (.pointer (some ⟨g_base, 31, none⟩)) :: (cellOf q) :: (.int .u8 (v.toNat : Int)) :: (.pointer (some ⟨g_base, 31, none⟩)) :: (hashVal kc) :: (numD y) :: (numD y) :: (numD yl) :: (numD y) :: (.bool false) :: undef :: (numD y) :: (numD y) :: (numD yy) :: (.tuple #[numD x, .bool true]) :: (numD yy) :: (numD o) :: (numD s1) :: (numD dd) :: (numD yy) :: (numD t1) :: (numD o) :: (numD a1) :: (numD iv) :: (numD pr) :: (.tuple #[numD x, .bool true]) :: (numD x) :: (.bool true) :: (.bool true) :: (.bool false) :: (.bool false) :: (.bool true) :: (.bool true) :: (numD x) :: (numD zn) :: (.bool false) :: (.bool false) :: (.bool false) :: undef :: (.bool true) :: (numD zn) :: (numD x) :: (numD xn) :: (numD xn) :: (numD y) :: (numD o) :: (numD r1) :: []
def read12Vs8_10 (kb : List UInt8) (g_base : Nat) (gr : Nat) (gy : Nat) (gv : Nat) (gx : Nat) (q : UInt8) (v : UInt8) (kc : List UInt8) (y : List Nat) (yl : List Nat) (yy : List Nat) (x : List Nat) (o : List Nat) (s1 : List Nat) (dd : List Nat) (t1 : List Nat) (a1 : List Nat) (iv : List Nat) (pr : List Nat) (zn : List Nat) : List Value :=
  (hashVal kb) :: (.pointer (some ⟨g_base, 0, none⟩)) :: (.pointer (some ⟨gr, 0, none⟩)) :: (.int .i64 0) :: (.bool true) :: (.pointer (some ⟨gy, 0, none⟩)) :: (.pointer (some ⟨gv, 0, none⟩)) :: (.pointer (some ⟨gx, 0, none⟩)) :: (.bool true) :: (.pointer (some ⟨g_base, 31, none⟩)) :: (cellOf q) :: (.bool true) :: (.pointer (some ⟨g_base, 31, none⟩)) :: (cellOf q) :: (.int .u8 (v.toNat : Int)) :: (.pointer (some ⟨g_base, 31, none⟩)) :: (hashVal kc) :: (numD y) :: (numD y) :: (numD yl) :: (numD y) :: (.bool false) :: undef :: (numD y) :: (numD y) :: (numD yy) :: (.tuple #[numD x, .bool true]) :: (numD yy) :: (numD o) :: (numD s1) :: (numD dd) :: (numD yy) :: (numD t1) :: (numD o) :: (numD a1) :: (numD iv) :: (numD pr) :: (.tuple #[numD x, .bool true]) :: (numD x) :: (.bool true) :: (.bool true) :: (.bool false) :: (.bool false) :: (.bool true) :: (.bool true) :: (numD x) :: (numD zn) :: (.bool true) :: (.bool true) :: (.bool true) :: undef :: undef :: undef :: undef :: undef :: undef :: undef :: undef :: undef :: []
set_option maxRecDepth 100000 in
set_option maxHeartbeats 4000000 in
theorem read12_over (y yl yy s1 dd t1 a1 iv pr x xn o zn zt r0 r1 : List Nat) (kb kc : List UInt8) (q v : UInt8) (od nq ok xz : Bool) (res : List Nat) (err : Int) (w : World)
    (Hy : Hid (y.length = 8))
    (Hyy : Hid (yy.length = 8))
    (Hx : Hid (x.length = 8))
    (Hxn : Hid (xn.length = 8))
    (Hzt : Hid (zt.length = 24))
    (Hr0 : Hid (r0.length = 24))
    (Hr1 : Hid (r1.length = 24))
    (Hkb : Hid (kb.length = 32))
    (Hkc : Hid (kc.length = 32))
    (D1 : Hid ((kb.map cellOf)[31]? = some (cellOf q)))
    (HO : Hid (decide (128 ≤ q.toNat) = od))
    (HV : Hid (v.toNat = q.toNat % 128))
    (HC : Hid (kc = kb.set 31 v))
    (CR : Hid (∀ W, Calls Tryd.prog 32 #[hashVal kc] W fun e w' => e = .returned (numD y) ∧ Below W.heap.size W w'))
    (CL : Hid (∀ W, Calls Tryd.prog 33 #[numD y] W fun e w' => e = .returned (numD yl) ∧ Below W.heap.size W w'))
    (CY : Hid (∀ W, Calls Tryd.prog 34 #[numD y, numD y] W fun e w' => e = .returned (numD yy) ∧ Below W.heap.size W w'))
    (C1 : Hid (∀ W, Calls Tryd.prog 37 #[] W fun e w' => e = .returned (numD o) ∧ Below W.heap.size W w'))
    (CS : Hid (∀ W, Calls Tryd.prog 36 #[numD yy, numD o] W fun e w' => e = .returned (numD s1) ∧ Below W.heap.size W w'))
    (CD : Hid (∀ W, Calls Tryd.prog 40 #[] W fun e w' => e = .returned (numD dd) ∧ Below W.heap.size W w'))
    (CT : Hid (∀ W, Calls Tryd.prog 34 #[numD dd, numD yy] W fun e w' => e = .returned (numD t1) ∧ Below W.heap.size W w'))
    (CA : Hid (∀ W, Calls Tryd.prog 39 #[numD t1, numD o] W fun e w' => e = .returned (numD a1) ∧ Below W.heap.size W w'))
    (CI : Hid (∀ W, Calls Tryd.prog 38 #[numD a1] W fun e w' => e = .returned (numD iv) ∧ Below W.heap.size W w'))
    (CP : Hid (∀ W, Calls Tryd.prog 34 #[numD s1, numD iv] W fun e w' => e = .returned (numD pr) ∧ Below W.heap.size W w'))
    (CO : Hid (∀ W, Calls Tryd.prog 35 #[numD pr] W fun e w' => e = .returned (.tuple #[numD x, .bool ok]) ∧ Below W.heap.size W w'))
    (CN : Hid (∀ W, Calls Tryd.prog 36 #[numD zn, numD x] W fun e w' => e = .returned (numD xn) ∧ Below W.heap.size W w'))
    (BZT : ∀ w, (Instr.build 40 #[]).run Tryd.prog w = .ok (numD zt) w)
    (BZN : ∀ w, (Instr.build 38 #[]).run Tryd.prog w = .ok (numD zn) w)
    (BR0 : ∀ w, (Instr.build 40 #[(0, numD x), (1, numD y), (2, numD o)]).run Tryd.prog w = .ok (numD r0) w)
    (BR1 : ∀ w, (Instr.build 40 #[(0, numD xn), (1, numD y), (2, numD o)]).run Tryd.prog w = .ok (numD r1) w)
    (hEQ : ∀ w, (binOp .neq 38 (numD yl) (numD y)).run Tryd.prog w = .ok (.bool nq) w)
    (hEZ : ∀ w, (binOp .eql 38 (numD x) (numD zn)).run Tryd.prog w = .ok (.bool xz) w)
    (HP0 : Hid (nq = true → res = zt ∧ err = 4))
    (HP1 : Hid (nq = false → ok = false → res = zt ∧ err = 4))
    (HP2 : Hid (nq = false → ok = true → od = false → res = r0 ∧ err = 0))
    (HP3 : Hid (nq = false → ok = true → od = true → xz = true → res = zt ∧ err = 4))
    (HP4 : Hid (nq = false → ok = true → od = true → xz = false → res = r1 ∧ err = 0)) :
    Calls Tryd.prog 10 #[hashVal kb] w fun e w' => e = .returned (.tuple #[numD res, .int .i64 err]) ∧ Below w.heap.size w w' := by
  go_enter Tryd.func10, Tryd.ntmps10
  cases od
  · have ho := HO.out
    have hq2 := q.toNat_lt
    have i2 : ¬ (128 : Int) ≤ (q.toNat : Int) := by have := of_decide_eq_false ho; omega
    have i3 : (q.toNat : Int).tmod 128 = (v.toNat : Int) := by rw [Int.tmod_eq_emod_of_nonneg (by omega), HV.out]; omega
    have i4 : IntKind.u8.wrap (v.toNat : Int) = (v.toNat : Int) := by have := v.toNat_lt; rw [IntKind.wrap_u8]; omega
    clear HO ho hq2 HV
    go_upto_region 1 with (first
      | (refine vtake_step rfl 22 (.tmp 0) rfl (kb.map cellOf) rfl ?_
         intro w1 hb1 hvb1
         have hB1 := hb1
         have hgeb : w.heap.size ≤ w.heap.size := Nat.le_refl _
         clear  hb1
         try simp only [Act.put, List.setIfInBounds_toArray, List.set_cons_zero, List.set_cons_succ]
         skip)
      | (refine vzero_step (o := ⟨some 2, _, _, _, _, _⟩) rfl 40 rfl (dzeros 24) zero_tri ?_
         intro w2 hb2 hvr2
         have hB2 := below_then hB1 hb2
         have hger : w.heap.size ≤ w1.heap.size := hB1.size
         have hvb2 := hvb1.on hb2
         have hnebr := Nat.ne_of_lt hvb1.lt
         clear hB1 hvb1 hb2
         try simp only [Act.put, List.setIfInBounds_toArray, List.set_cons_zero, List.set_cons_succ]
         skip))
    generalize hqr : w1.heap.size = gr at *
    clear hqr
    have dq := hvb2.get D1.out
    have hT := hvb2.there 31 1 (by rw [List.length_map, Hkb.out]; decide)
    have hE := Lib.hid (hvb2.set 31 (cellOf v))
    go_upto_region 3 with (first
      | (refine store_step rfl 5 _ _ rfl (w.heap.size) 31 .u8 (v.toNat : Int) rfl rfl size_u8 hT ?_
         intro w3 hw3
         have hB3 : Below w.heap.size w w3 := by rw [hw3]; exact hB2.setCell (p := ⟨w.heap.size, 31, none⟩) (Nat.le_refl _) _
         have hvb3 : Cells w3 (w.heap.size) (kc.map cellOf) 22 := by rw [hw3, HC.out, List.map_set]; exact hE.out
         have hvr3 : Cells w3 gr (dzeros 24) 40 := by rw [hw3]; exact hvr2.other (Ne.symm hnebr) _
         clear hw3 hT hE dq i2 i3 i4 hB2 hvb2 hvr2
         skip))
    go_wp2_with (first
      | (refine sget_step rfl 22 (.tmp 1) rfl w.heap.size 32 (kc.map cellOf) rfl hvb3 Tryd.underlying22 rfl size_b32 (by rw [List.length_map, Hkc.out]) ?_
         try simp only [Act.put, List.setIfInBounds_toArray, List.set_cons_zero, List.set_cons_succ]
         skip))
    refine (CR.out w3).mono ?_
    rintro e w4 ⟨rfl, hb4⟩
    have hB4 := below_then hB3 hb4
    have hvb4 := hvb3.on hb4
    have hvr4 := hvr3.on hb4
    clear hB3 hvb3 hvr3 hb4
    go_wp2_with (first
      | (refine vput_step rfl rfl 38 (.tmp 5) (.tmp 17) rfl rfl 8 (dzeros 8) (y.map dcell) rfl rfl zero_ND rfl size_ND (by rw [List.length_map, Hy.out]) (dcells_one _) ?_
         intro w5 hb5 hvy5
         have hB5 := below_then hB4 hb5
         have hgey : w.heap.size ≤ w4.heap.size := hB4.size
         have hvb5 := hvb4.on hb5
         have hneby := Nat.ne_of_lt hvb4.lt
         have hvr5 := hvr4.on hb5
         have hnery := Nat.ne_of_lt hvr4.lt
         clear hB4 hvb4 hvr4 hb5
         try simp only [Act.put, List.setIfInBounds_toArray, List.set_cons_zero, List.set_cons_succ]
         skip))
    generalize hqy : w4.heap.size = gy at *
    clear hqy
    replace hvb5 := hvb5.drew
    replace hvr5 := hvr5.drew
    replace hvy5 := hvy5.drew
    refine wp_region_any (by kernel_rfl) ?_
    refine wpAny_flatM (L := [0, 1, 2, 3]) (by kernel_rfl) _ _ (read12Vs4 kb w.heap.size gr gy q v kc y yl nq) [] 22 kzeros [0, 1, 2, 3, 4, 5, 6, 7, 8, 9, 10, 11, 12, 13, 14, 15, 16, 17, 22, 23, 24, 25, 26, 27, 28, 29, 30, 31, 32, 33, 34, 35, 36, 37, 38, 39, 40, 41, 42, 43, 44, 45, 46, 47, 48, 49, 50, 51, 52, 53, 54, 55, 56, 57, 58] (by kernel_rfl) (by kernel_rfl) ?_ zero_b32 ?_ (by rfl) ?_ 0 (by kernel_rfl) ?_
    · intro p hp
      exact absurd hp List.not_mem_nil
    · repeat refine all_cons rfl ?_
      exact all_nil
    · refine all_cons (.inr (mStep _ 18 rfl rfl rfl rfl (by kernel_rfl) (fun a hv => wanted_all rfl _) (fun a w K hb hv hK => mPure (numD y) (exec_load _ _ _ _ rfl _ _ (hv 5 (by kernel_rfl) rfl) w (num_run (hvy5.on hb) Hy.out)) hK))) ?_
      refine all_cons (.inr (mStep _ 19 rfl rfl rfl rfl (by kernel_rfl) (fun a hv => wanted_all rfl _) (fun a w K hb hv hK => mCall (numD yl) 33 _ _ rfl [numD y] (cons_eq (hv 18 (by kernel_rfl) rfl) (rfl)) (enters Tryd.func33 rfl rfl) (CL.out w) hK))) ?_
      refine all_cons (.inr (mStep _ 20 rfl rfl rfl rfl (by kernel_rfl) (fun a hv => wanted_all rfl _) (fun a w K hb hv hK => mPure (numD y) (exec_load _ _ _ _ rfl _ _ (hv 5 (by kernel_rfl) rfl) w (num_run (hvy5.on hb) Hy.out)) hK))) ?_
      refine all_cons (.inr (mStep _ 21 rfl rfl rfl rfl (by kernel_rfl) (fun a hv => wanted_all rfl _) (fun a w K hb hv hK => mPure (.bool nq) (exec_bin _ _ _ _ _ _ _ rfl (numD yl) (numD y) _ (hv 19 (by kernel_rfl) rfl) (hv 20 (by kernel_rfl) rfl) w ((fun w => num_guard _ _ _ _ _ w) w) ((hEQ) w)) hK))) ?_
      exact all_nil
    intro w6 g hb6 hN6 hap6
    clear hN6 hap6
    have hB6 := below_then (show Below w.heap.size w w5.drew from hB5.drew) hb6
    have hvb6 := hvb5.on hb6
    have hvr6 := hvr5.on hb6
    have hvy6 := hvy5.on hb6
    clear hB5 hvb5 hvr5 hvy5 hb6
    refine ⟨by kernel_rfl, ?_⟩
    rename_i K hKK
    show Exit.then K _ Exit.normal (⟨(read12Vs4 kb w.heap.size gr gy q v kc y yl nq).toArray, []⟩ : Act) w6
    simp only [Exit.then]
    refine hKK _ _ ?_
    clear hKK K g
    simp only [read12Vs4]
    cases nq
    · go_wp2_with (first
        | (refine sget_step rfl 38 (.tmp 5) rfl gy 8 (y.map dcell) rfl hvy6 Tryd.underlying38 rfl size_ND (by rw [List.length_map, Hy.out]) ?_
           try simp only [Act.put, List.setIfInBounds_toArray, List.set_cons_zero, List.set_cons_succ]
           skip)
        | (refine sget_step rfl 38 (.tmp 5) rfl gy 8 (y.map dcell) rfl hvy6 Tryd.underlying38 rfl size_ND (by rw [List.length_map, Hy.out]) ?_
           try simp only [Act.put, List.setIfInBounds_toArray, List.set_cons_zero, List.set_cons_succ]
           skip))
      refine (CY.out w6).mono ?_
      rintro e w7 ⟨rfl, hb7⟩
      have hB7 := below_then hB6 hb7
      have hvb7 := hvb6.on hb7
      have hvr7 := hvr6.on hb7
      have hvy7 := hvy6.on hb7
      clear hB6 hvb6 hvr6 hvy6 hb7
      go_wp2_with (first
        | (refine vput_step rfl rfl 38 (.tmp 6) (.tmp 25) rfl rfl 8 (dzeros 8) (yy.map dcell) rfl rfl zero_ND rfl size_ND (by rw [List.length_map, Hyy.out]) (dcells_one _) ?_
           intro w8 hb8 hvv8
           have hB8 := below_then hB7 hb8
           have hgev : w.heap.size ≤ w7.heap.size := hB7.size
           have hvb8 := hvb7.on hb8
           have hnebv := Nat.ne_of_lt hvb7.lt
           have hvr8 := hvr7.on hb8
           have hnerv := Nat.ne_of_lt hvr7.lt
           have hvy8 := hvy7.on hb8
           have hneyv := Nat.ne_of_lt hvy7.lt
           clear hB7 hvb7 hvr7 hvy7 hb8
           try simp only [Act.put, List.setIfInBounds_toArray, List.set_cons_zero, List.set_cons_succ]
           skip))
      generalize hqv : w7.heap.size = gv at *
      clear hqv
      replace hvb8 := hvb8.drew
      replace hvr8 := hvr8.drew
      replace hvy8 := hvy8.drew
      replace hvv8 := hvv8.drew
      refine wp_region_any (by kernel_rfl) ?_
      refine wpAny_flatS (L := [0, 1, 2, 3, 4, 5, 6, 7, 8, 9, 10, 11, 12, 13, 14, 15, 16]) (by kernel_rfl) _ _ (read12Vs7_1 kb w.heap.size gr gy gv ok q v kc y yl yy x o s1 dd t1 a1 iv pr) [(14, 7)] (fun _ => 38) (fun _ => (dzeros 8)) (fun _ => some (15, x.map dcell)) [0, 1, 2, 3, 4, 5, 6, 9, 10, 11, 12, 13, 14, 15, 16, 17, 18, 19, 20, 21, 22, 23, 24, 25, 40, 41, 42, 43, 44, 45, 46, 47, 48, 49, 50, 51, 52, 53, 54, 55, 56, 57, 58] (by kernel_rfl) (by kernel_rfl) ?_ (fun _ _ => zero_ND) ?_ ?_ ?_ (by rfl) ?_ 0 (by kernel_rfl) ?_
      · intro p hp
        rcases List.mem_cons.1 hp with rfl | hp
        · exact ⟨⟨_, rfl, rfl, rfl, rfl, by kernel_rfl, by kernel_rfl⟩⟩
        exact absurd hp List.not_mem_nil
      · intro p hp j l h
        rcases List.mem_cons.1 hp with rfl | hp
        · change some (15, x.map dcell) = some (j, l) at h
          cases h
          exact ⟨⟨_, 38, rfl, rfl, rfl, rfl, by kernel_rfl, by kernel_rfl, by kernel_rfl, rfl, by rw [List.length_map, Hx.out]; exact size_ND, by rw [List.length_map, Hx.out]; rfl, dcells_one _⟩, by decide⟩
        exact absurd hp List.not_mem_nil
      · intro p hp q hq j l l2 h1 h2
        rcases List.mem_cons.1 hp with rfl | hp
        · rcases List.mem_cons.1 hq with rfl | hq
          · rfl
          exact absurd hq List.not_mem_nil
        exact absurd hp List.not_mem_nil
      · repeat refine all_cons rfl ?_
        exact all_nil
      · refine all_cons (.inr (.inl (mStep _ 27 rfl rfl rfl rfl (by kernel_rfl) (fun a hv => wanted_all rfl _) (fun a w K hb hv hK => mPure (numD yy) (exec_load _ _ _ _ rfl _ _ (hv 6 (by kernel_rfl) rfl) w (num_run (hvv8.on hb) Hyy.out)) hK)))) ?_
        refine all_cons (.inr (.inl (mStep _ 28 rfl rfl rfl rfl (by kernel_rfl) (fun a hv => wanted_all rfl _) (fun a w K hb hv hK => mCall (numD o) 37 _ _ rfl [] (rfl) (enters Tryd.func37 rfl rfl) (C1.out w) hK)))) ?_
        refine all_cons (.inr (.inl (mStep _ 29 rfl rfl rfl rfl (by kernel_rfl) (fun a hv => wanted_all rfl _) (fun a w K hb hv hK => mCall (numD s1) 36 _ _ rfl [numD yy, numD o] (cons_eq (hv 27 (by kernel_rfl) rfl) (cons_eq (hv 28 (by kernel_rfl) rfl) (rfl))) (enters Tryd.func36 rfl rfl) (CS.out w) hK)))) ?_
        refine all_cons (.inr (.inl (mStep _ 30 rfl rfl rfl rfl (by kernel_rfl) (fun a hv => wanted_all rfl _) (fun a w K hb hv hK => mCall (numD dd) 40 _ _ rfl [] (rfl) (enters Tryd.func40 rfl rfl) (CD.out w) hK)))) ?_
        refine all_cons (.inr (.inl (mStep _ 31 rfl rfl rfl rfl (by kernel_rfl) (fun a hv => wanted_all rfl _) (fun a w K hb hv hK => mPure (numD yy) (exec_load _ _ _ _ rfl _ _ (hv 6 (by kernel_rfl) rfl) w (num_run (hvv8.on hb) Hyy.out)) hK)))) ?_
        refine all_cons (.inr (.inl (mStep _ 32 rfl rfl rfl rfl (by kernel_rfl) (fun a hv => wanted_all rfl _) (fun a w K hb hv hK => mCall (numD t1) 34 _ _ rfl [numD dd, numD yy] (cons_eq (hv 30 (by kernel_rfl) rfl) (cons_eq (hv 31 (by kernel_rfl) rfl) (rfl))) (enters Tryd.func34 rfl rfl) (CT.out w) hK)))) ?_
        refine all_cons (.inr (.inl (mStep _ 33 rfl rfl rfl rfl (by kernel_rfl) (fun a hv => wanted_all rfl _) (fun a w K hb hv hK => mCall (numD o) 37 _ _ rfl [] (rfl) (enters Tryd.func37 rfl rfl) (C1.out w) hK)))) ?_
        refine all_cons (.inr (.inl (mStep _ 34 rfl rfl rfl rfl (by kernel_rfl) (fun a hv => wanted_all rfl _) (fun a w K hb hv hK => mCall (numD a1) 39 _ _ rfl [numD t1, numD o] (cons_eq (hv 32 (by kernel_rfl) rfl) (cons_eq (hv 33 (by kernel_rfl) rfl) (rfl))) (enters Tryd.func39 rfl rfl) (CA.out w) hK)))) ?_
        refine all_cons (.inr (.inl (mStep _ 35 rfl rfl rfl rfl (by kernel_rfl) (fun a hv => wanted_all rfl _) (fun a w K hb hv hK => mCall (numD iv) 38 _ _ rfl [numD a1] (cons_eq (hv 34 (by kernel_rfl) rfl) (rfl)) (enters Tryd.func38 rfl rfl) (CI.out w) hK)))) ?_
        refine all_cons (.inr (.inl (mStep _ 36 rfl rfl rfl rfl (by kernel_rfl) (fun a hv => wanted_all rfl _) (fun a w K hb hv hK => mCall (numD pr) 34 _ _ rfl [numD s1, numD iv] (cons_eq (hv 29 (by kernel_rfl) rfl) (cons_eq (hv 35 (by kernel_rfl) rfl) (rfl))) (enters Tryd.func34 rfl rfl) (CP.out w) hK)))) ?_
        refine all_cons (.inr (.inl (mStep _ 37 rfl rfl rfl rfl (by kernel_rfl) (fun a hv => wanted_all rfl _) (fun a w K hb hv hK => mCall (.tuple #[numD x, .bool ok]) 35 _ _ rfl [numD pr] (cons_eq (hv 36 (by kernel_rfl) rfl) (rfl)) (enters Tryd.func35 rfl rfl) (CO.out w) hK)))) ?_
        refine all_cons (.inr (.inl (mStep _ 26 rfl rfl rfl rfl (by kernel_rfl) (fun a hv => wanted_all rfl _) (fun a w K hb hv hK => mPure (.tuple #[numD x, .bool ok]) (exec_move _ _ _ (.inl rfl) _ (hv 37 (by kernel_rfl) rfl) w) hK)))) ?_
        refine all_cons (.inr (.inl (mStep _ 38 rfl rfl rfl rfl (by kernel_rfl) (fun a hv => wanted_all rfl _) (fun a w K hb hv hK => mPure (numD x) (exec_extract _ _ _ _ rfl _ (hv 26 (by kernel_rfl) rfl) _ rfl w) hK)))) ?_
        refine all_cons (.inr (.inl (mStep _ 39 rfl rfl rfl rfl (by kernel_rfl) (fun a hv => wanted_all rfl _) (fun a w K hb hv hK => mPure (.bool ok) (exec_extract _ _ _ _ rfl _ (hv 26 (by kernel_rfl) rfl) _ rfl w) hK)))) ?_
        refine all_cons (.inl ⟨(14, 7), by simp, rfl⟩) ?_
        refine all_cons (.inr (.inr ⟨(14, 7), by simp, _, rfl⟩)) ?_
        refine all_cons (.inr (.inl (mStep _ 8 rfl rfl rfl rfl (by kernel_rfl) (fun a hv => wanted_all rfl _) (fun a w K hb hv hK => mPure (.bool ok) (exec_move _ _ _ (.inr rfl) _ (hv 39 (by kernel_rfl) rfl) w) hK)))) ?_
        exact all_nil
      intro w9 g hb9 hN9 hap9
      obtain ⟨hgex, hvx9⟩ := hN9 (14, 7) (by simp)
      clear hN9 hap9
      have hB9 := below_then (show Below w.heap.size w w8.drew from hB8.drew) hb9
      have hltb : w.heap.size < w8.heap.size := hvb8.lt
      have hltr : gr < w8.heap.size := hvr8.lt
      have hlty : gy < w8.heap.size := hvy8.lt
      have hltv : gv < w8.heap.size := hvv8.lt
      have hvb9 := hvb8.on hb9
      have hvr9 := hvr8.on hb9
      have hvy9 := hvy8.on hb9
      have hvv9 := hvv8.on hb9
      rw [show withNew g [(14, 7)] (read12Vs7_1 kb w.heap.size gr gy gv ok q v kc y yl yy x o s1 dd t1 a1 iv pr) = read12Vs7_1N kb w.heap.size gr gy gv ok q v kc y yl yy x o s1 dd t1 a1 iv pr (g 7) from rfl]
      replace hgex : w8.heap.size ≤ g 7 := hgex
      replace hvx9 : Cells w9 (g 7) (x.map dcell) 38 := hvx9
      have hnebx : w.heap.size ≠ g 7 := Nat.ne_of_lt (Nat.lt_of_lt_of_le hltb hgex)
      have hnerx : gr ≠ g 7 := Nat.ne_of_lt (Nat.lt_of_lt_of_le hltr hgex)
      have hneyx : gy ≠ g 7 := Nat.ne_of_lt (Nat.lt_of_lt_of_le hlty hgex)
      have hnevx : gv ≠ g 7 := Nat.ne_of_lt (Nat.lt_of_lt_of_le hltv hgex)
      replace hgex : w.heap.size ≤ g 7 := Nat.le_trans (show w.heap.size ≤ w8.heap.size from hB8.size) hgex
      clear hltb hltr hlty hltv
      generalize g 7 = gx at *
      clear hB8 hvb8 hvr8 hvy8 hvv8 hb9
      refine ⟨by kernel_rfl, ?_⟩
      rename_i K hKK
      show Exit.then K _ Exit.normal (⟨(read12Vs7_1N kb w.heap.size gr gy gv ok q v kc y yl yy x o s1 dd t1 a1 iv pr gx).toArray, []⟩ : Act) w9
      simp only [Exit.then]
      refine hKK _ _ ?_
      clear hKK K g
      simp only [read12Vs7_1N]
      cases ok
      · go_upto_region 8 with fail
        refine wp_region_flat (md := .any) (by kernel_rfl) ?_
        refine wpAny_flatM (L := [0, 1, 2, 3, 4, 5, 6, 7, 8, 9]) (by kernel_rfl) _ _ (read12Vs8_2 kb w.heap.size gr gy gv gx q v kc y yl yy x o s1 dd t1 a1 iv pr) [] 22 kzeros [0, 1, 2, 3, 4, 5, 6, 7, 8, 9, 10, 11, 12, 13, 14, 15, 16, 17, 18, 19, 20, 21, 22, 23, 24, 25, 26, 27, 28, 29, 30, 31, 32, 33, 34, 35, 36, 37, 38, 39, 50, 51, 52, 53, 54, 55, 56, 57, 58] (by kernel_rfl) (by kernel_rfl) ?_ zero_b32 ?_ (by rfl) ?_ 0 (by kernel_rfl) ?_
        · intro p hp
          exact absurd hp List.not_mem_nil
        · repeat refine all_cons rfl ?_
          exact all_nil
        · refine all_cons (.inr (mStep _ 40 rfl rfl rfl rfl (by kernel_rfl) (fun a hv => wanted_all rfl _) (fun a w K hb hv hK => mPure (.bool false) (exec_move _ _ _ (.inl rfl) _ (hv 8 (by kernel_rfl) rfl) w) hK))) ?_
          refine all_cons (.inr (mStep _ 41 rfl rfl rfl rfl (by kernel_rfl) (fun a hv => wanted_all rfl _) (fun a w K hb hv hK => mPure (.bool true) (exec_not _ _ _ _ rfl (false) (hv 40 (by kernel_rfl) rfl) w) hK))) ?_
          refine all_cons (.inr (mStep _ 42 rfl rfl rfl rfl (by kernel_rfl) (fun a hv => wanted_all rfl _) (fun a w K hb hv hK => mPure (.bool true) (exec_move _ _ _ (.inl rfl) _ (hv 41 (by kernel_rfl) rfl) w) hK))) ?_
          refine all_cons (.inr (mSkip _ 43 rfl rfl rfl rfl (by kernel_rfl) (fun a hv => (wanted_is (j := 2) (b := false) (c := true) rfl rfl rfl (hv 42 (by kernel_rfl) rfl)).trans rfl) rfl)) ?_
          refine all_cons (.inr (mSkip _ 44 rfl rfl rfl rfl (by kernel_rfl) (fun a hv => (wanted_is (j := 2) (b := false) (c := true) rfl rfl rfl (hv 42 (by kernel_rfl) rfl)).trans rfl) rfl)) ?_
          refine all_cons (.inr (mSkip _ 45 rfl rfl rfl rfl (by kernel_rfl) (fun a hv => wanted_none (j := 4) rfl rfl rfl (hv 44 (by kernel_rfl) rfl)) rfl)) ?_
          refine all_cons (.inr (mSkip _ 46 rfl rfl rfl rfl (by kernel_rfl) (fun a hv => wanted_none (j := 4) rfl rfl rfl (hv 44 (by kernel_rfl) rfl)) rfl)) ?_
          refine all_cons (.inr (mSkip _ 47 rfl rfl rfl rfl (by kernel_rfl) (fun a hv => wanted_none (j := 4) rfl rfl rfl (hv 44 (by kernel_rfl) rfl)) rfl)) ?_
          refine all_cons (.inr (mSkip _ 48 rfl rfl rfl rfl (by kernel_rfl) (fun a hv => (wanted_is (j := 2) (b := false) (c := true) rfl rfl rfl (hv 42 (by kernel_rfl) rfl)).trans rfl) rfl)) ?_
          refine all_cons (.inr (mStep _ 49 rfl rfl rfl rfl (by kernel_rfl) (fun a hv => wanted_all rfl _) (fun a w K hb hv hK => mPure (.bool true) (pick_true _ _ _ _ _ rfl (hv 42 (by kernel_rfl) rfl) (.bool true) (by rfl) w) hK))) ?_
          exact all_nil
        intro w10 g hb10 hN10 hap10
        clear hN10 hap10
        have hB10 := below_then hB9 hb10
        have hvb10 := hvb9.on hb10
        have hvr10 := hvr9.on hb10
        have hvy10 := hvy9.on hb10
        have hvv10 := hvv9.on hb10
        have hvx10 := hvx9.on hb10
        clear hB9 hvb9 hvr9 hvy9 hvv9 hvx9 hb10
        refine ⟨by kernel_rfl, ?_⟩
        rename_i K hKK
        show Exit.then K _ Exit.normal (⟨(read12Vs8_2 kb w.heap.size gr gy gv gx q v kc y yl yy x o s1 dd t1 a1 iv pr).toArray, []⟩ : Act) w10
        simp only [Exit.then]
        refine hKK _ _ ?_
        clear hKK K g
        simp only [read12Vs8_2]
        go_wp2_with (first
          | (refine build_step rfl 40 [] rfl [] rfl _ BZT ?_
             try simp only [Act.put, List.setIfInBounds_toArray, List.set_cons_zero, List.set_cons_succ]
             skip)
          | (refine vset_step rfl 40 (.tmp 2) (.tmp 50) rfl gr 24 (dzeros 24) (zt.map dcell) rfl rfl hvr10 rfl size_tri (by rw [List.length_map, Hzt.out]) (dcells_one _) ?_
             intro w11 hb11 hvr11 hz11
             have hB11 : Below w.heap.size w w11 := hB10.trans (hb11.below hger hB10.size)
             have hvb11 := hvb10.but hb11 hnebr
             have hvy11 := hvy10.but hb11 (Ne.symm hnery)
             have hvv11 := hvv10.but hb11 (Ne.symm hnerv)
             have hvx11 := hvx10.but hb11 (Ne.symm hnerx)
             clear hB10 hvr10 hb11 hz11 hvb10 hvy10 hvv10 hvx10
             skip))
        obtain ⟨hr1, hr2⟩ := HP1.out (by simp) (by simp) 
        exact sret2 Tryd.results10 gr (zt.map dcell) _ rfl rfl hvr11 Tryd.underlying40 rfl size_tri (by rw [List.length_map, Hzt.out]) rfl ⟨by subst hr1; subst hr2; rfl, hB11⟩
      · go_upto_region 8 with fail
        refine wp_region_flat (md := .any) (by kernel_rfl) ?_
        refine wpAny_flatM (L := [0, 1, 2, 3, 4, 5, 6, 7, 8, 9]) (by kernel_rfl) _ _ (read12Vs8_3 kb w.heap.size gr gy gv gx q v kc y yl yy x o s1 dd t1 a1 iv pr) [] 22 kzeros [0, 1, 2, 3, 4, 5, 6, 7, 8, 9, 10, 11, 12, 13, 14, 15, 16, 17, 18, 19, 20, 21, 22, 23, 24, 25, 26, 27, 28, 29, 30, 31, 32, 33, 34, 35, 36, 37, 38, 39, 50, 51, 52, 53, 54, 55, 56, 57, 58] (by kernel_rfl) (by kernel_rfl) ?_ zero_b32 ?_ (by rfl) ?_ 0 (by kernel_rfl) ?_
        · intro p hp
          exact absurd hp List.not_mem_nil
        · repeat refine all_cons rfl ?_
          exact all_nil
        · refine all_cons (.inr (mStep _ 40 rfl rfl rfl rfl (by kernel_rfl) (fun a hv => wanted_all rfl _) (fun a w K hb hv hK => mPure (.bool true) (exec_move _ _ _ (.inl rfl) _ (hv 8 (by kernel_rfl) rfl) w) hK))) ?_
          refine all_cons (.inr (mStep _ 41 rfl rfl rfl rfl (by kernel_rfl) (fun a hv => wanted_all rfl _) (fun a w K hb hv hK => mPure (.bool false) (exec_not _ _ _ _ rfl (true) (hv 40 (by kernel_rfl) rfl) w) hK))) ?_
          refine all_cons (.inr (mStep _ 42 rfl rfl rfl rfl (by kernel_rfl) (fun a hv => wanted_all rfl _) (fun a w K hb hv hK => mPure (.bool false) (exec_move _ _ _ (.inl rfl) _ (hv 41 (by kernel_rfl) rfl) w) hK))) ?_
          refine all_cons (.inr (mStep _ 43 rfl rfl rfl rfl (by kernel_rfl) (fun a hv => (wanted_is (j := 2) (b := false) (c := false) rfl rfl rfl (hv 42 (by kernel_rfl) rfl)).trans rfl) (fun a w K hb hv hK => mPure (.bool false) (exec_move _ _ _ (.inl rfl) _ (hv 4 (by kernel_rfl) rfl) w) hK))) ?_
          refine all_cons (.inr (mStep _ 44 rfl rfl rfl rfl (by kernel_rfl) (fun a hv => (wanted_is (j := 2) (b := false) (c := false) rfl rfl rfl (hv 42 (by kernel_rfl) rfl)).trans rfl) (fun a w K hb hv hK => mPure (.bool false) (exec_move _ _ _ (.inl rfl) _ (hv 43 (by kernel_rfl) rfl) w) hK))) ?_
          refine all_cons (.inr (mSkip _ 45 rfl rfl rfl rfl (by kernel_rfl) (fun a hv => (wanted_is (j := 4) (b := true) (c := false) rfl rfl rfl (hv 44 (by kernel_rfl) rfl)).trans rfl) rfl)) ?_
          refine all_cons (.inr (mSkip _ 46 rfl rfl rfl rfl (by kernel_rfl) (fun a hv => (wanted_is (j := 4) (b := true) (c := false) rfl rfl rfl (hv 44 (by kernel_rfl) rfl)).trans rfl) rfl)) ?_
          refine all_cons (.inr (mSkip _ 47 rfl rfl rfl rfl (by kernel_rfl) (fun a hv => (wanted_is (j := 4) (b := true) (c := false) rfl rfl rfl (hv 44 (by kernel_rfl) rfl)).trans rfl) rfl)) ?_
          refine all_cons (.inr (mStep _ 48 rfl rfl rfl rfl (by kernel_rfl) (fun a hv => (wanted_is (j := 2) (b := false) (c := false) rfl rfl rfl (hv 42 (by kernel_rfl) rfl)).trans rfl) (fun a w K hb hv hK => mPure (.bool false) (pick_false _ _ _ _ _ rfl (hv 44 (by kernel_rfl) rfl) (.bool false) (by rfl) w) hK))) ?_
          refine all_cons (.inr (mStep _ 49 rfl rfl rfl rfl (by kernel_rfl) (fun a hv => wanted_all rfl _) (fun a w K hb hv hK => mPure (.bool false) (pick_false _ _ _ _ _ rfl (hv 42 (by kernel_rfl) rfl) (.bool false) (hv 48 (by kernel_rfl) rfl) w) hK))) ?_
          exact all_nil
        intro w12 g hb12 hN12 hap12
        clear hN12 hap12
        have hB12 := below_then hB9 hb12
        have hvb12 := hvb9.on hb12
        have hvr12 := hvr9.on hb12
        have hvy12 := hvy9.on hb12
        have hvv12 := hvv9.on hb12
        have hvx12 := hvx9.on hb12
        clear hB9 hvb9 hvr9 hvy9 hvv9 hvx9 hb12
        refine ⟨by kernel_rfl, ?_⟩
        rename_i K hKK
        show Exit.then K _ Exit.normal (⟨(read12Vs8_3 kb w.heap.size gr gy gv gx q v kc y yl yy x o s1 dd t1 a1 iv pr).toArray, []⟩ : Act) w12
        simp only [Exit.then]
        refine hKK _ _ ?_
        clear hKK K g
        simp only [read12Vs8_3]
        go_wp2_with fail
        replace hvb12 := hvb12.drew
        replace hvr12 := hvr12.drew
        replace hvy12 := hvy12.drew
        replace hvv12 := hvv12.drew
        replace hvx12 := hvx12.drew
        refine wp_region_any (by kernel_rfl) ?_
        refine wpAny_flatM (L := [0, 1, 2, 3]) (by kernel_rfl) _ _ (read12Vs12_4 kb w.heap.size gr gy gv gx q v kc y yl yy x o s1 dd t1 a1 iv pr r0) [] 22 kzeros [0, 1, 2, 3, 4, 5, 6, 7, 8, 9, 10, 11, 12, 13, 14, 15, 16, 17, 18, 19, 20, 21, 22, 23, 24, 25, 26, 27, 28, 29, 30, 31, 32, 33, 34, 35, 36, 37, 38, 39, 40, 41, 42, 43, 44, 45, 46, 47, 48, 49, 50, 51, 52, 53, 54] (by kernel_rfl) (by kernel_rfl) ?_ zero_b32 ?_ (by rfl) ?_ 2 (by kernel_rfl) ?_
        · intro p hp
          exact absurd hp List.not_mem_nil
        · repeat refine all_cons rfl ?_
          exact all_nil
        · refine all_cons (.inr (mStep _ 55 rfl rfl rfl rfl (by kernel_rfl) (fun a hv => wanted_all rfl _) (fun a w K hb hv hK => mPure (numD x) (exec_load _ _ _ _ rfl _ _ (hv 7 (by kernel_rfl) rfl) w (num_run (hvx12.on hb) Hx.out)) hK))) ?_
          refine all_cons (.inr (mStep _ 56 rfl rfl rfl rfl (by kernel_rfl) (fun a hv => wanted_all rfl _) (fun a w K hb hv hK => mPure (numD y) (exec_load _ _ _ _ rfl _ _ (hv 5 (by kernel_rfl) rfl) w (num_run (hvy12.on hb) Hy.out)) hK))) ?_
          refine all_cons (.inr (mStep _ 57 rfl rfl rfl rfl (by kernel_rfl) (fun a hv => wanted_all rfl _) (fun a w K hb hv hK => mCall (numD o) 37 _ _ rfl [] (rfl) (enters Tryd.func37 rfl rfl) (C1.out w) hK))) ?_
          refine all_cons (.inr (mStep _ 58 rfl rfl rfl rfl (by kernel_rfl) (fun a hv => wanted_all rfl _) (fun a w K hb hv hK => mPure (numD r0) (exec_build _ _ _ [(0, .tmp 55), (1, .tmp 56), (2, .tmp 57)] rfl [(0, numD x), (1, numD y), (2, numD o)] (cons_eq (congrArg (Prod.mk 0) (hv 55 (by kernel_rfl) rfl)) (cons_eq (congrArg (Prod.mk 1) (hv 56 (by kernel_rfl) rfl)) (cons_eq (congrArg (Prod.mk 2) (hv 57 (by kernel_rfl) rfl)) (rfl)))) _ w (BR0 w)) hK))) ?_
          exact all_nil
        intro w13 g hb13 hN13 hap13
        clear hN13 hap13
        have hB13 := below_then (show Below w.heap.size w w12.drew from hB12.drew) hb13
        have hvb13 := hvb12.on hb13
        have hvr13 := hvr12.on hb13
        have hvy13 := hvy12.on hb13
        have hvv13 := hvv12.on hb13
        have hvx13 := hvx12.on hb13
        clear hB12 hvb12 hvr12 hvy12 hvv12 hvx12 hb13
        refine wpAny_rest 4 rfl (by kernel_rfl) ?_
        refine vset_step rfl 40 (.tmp 2) (.tmp 58) rfl gr 24 (dzeros 24) (r0.map dcell) rfl rfl hvr13 rfl size_tri (by rw [List.length_map, Hr0.out]) (dcells_one _) ?_
        intro w14 hb14 hvr14 hz14
        have hB14 : Below w.heap.size w w14 := hB13.trans (hb14.below hger hB13.size)
        have hvb14 := hvb13.but hb14 hnebr
        have hvy14 := hvy13.but hb14 (Ne.symm hnery)
        have hvv14 := hvv13.but hb14 (Ne.symm hnerv)
        have hvx14 := hvx13.but hb14 (Ne.symm hnerx)
        clear hB13 hvr13 hb14 hz14 hvb13 hvy13 hvv13 hvx13
        refine wpList_move rfl (.inr rfl) (.int .i64 0) (by rfl) ?_
        rename_i K hKK
        show Exit.then K _ Exit.normal (⟨((read12Vs12_4 kb w.heap.size gr gy gv gx q v kc y yl yy x o s1 dd t1 a1 iv pr r0).set 3 (.int .i64 0)).toArray, []⟩ : Act) w14
        simp only [Exit.then]
        refine hKK _ _ ?_
        clear hKK K g
        simp only [read12Vs12_4, List.set_cons_zero, List.set_cons_succ]
        go_wp2
        obtain ⟨hr1, hr2⟩ := HP2.out (by simp) (by simp) (by simp) 
        exact sret2 Tryd.results10 gr (r0.map dcell) _ rfl rfl hvr14 Tryd.underlying40 rfl size_tri (by rw [List.length_map, Hr0.out]) rfl ⟨by subst hr1; subst hr2; rfl, hB14⟩
    · go_wp2_with (first
        | (refine build_step rfl 40 [] rfl [] rfl _ BZT ?_
           try simp only [Act.put, List.setIfInBounds_toArray, List.set_cons_zero, List.set_cons_succ]
           skip)
        | (refine vset_step rfl 40 (.tmp 2) (.tmp 22) rfl gr 24 (dzeros 24) (zt.map dcell) rfl rfl hvr6 rfl size_tri (by rw [List.length_map, Hzt.out]) (dcells_one _) ?_
           intro w15 hb15 hvr15 hz15
           have hB15 : Below w.heap.size w w15 := hB6.trans (hb15.below hger hB6.size)
           have hvb15 := hvb6.but hb15 hnebr
           have hvy15 := hvy6.but hb15 (Ne.symm hnery)
           clear hB6 hvr6 hb15 hz15 hvb6 hvy6
           skip))
      obtain ⟨hr1, hr2⟩ := HP0.out (by simp) 
      exact sret2 Tryd.results10 gr (zt.map dcell) _ rfl rfl hvr15 Tryd.underlying40 rfl size_tri (by rw [List.length_map, Hzt.out]) rfl ⟨by subst hr1; subst hr2; rfl, hB15⟩
  · have ho := HO.out
    have hq2 := q.toNat_lt
    have i2 : (128 : Int) ≤ (q.toNat : Int) := by have := of_decide_eq_true ho; omega
    have i3 : (q.toNat : Int).tmod 128 = (v.toNat : Int) := by rw [Int.tmod_eq_emod_of_nonneg (by omega), HV.out]; omega
    have i4 : IntKind.u8.wrap (v.toNat : Int) = (v.toNat : Int) := by have := v.toNat_lt; rw [IntKind.wrap_u8]; omega
    clear HO ho hq2 HV
    go_upto_region 1 with (first
      | (refine vtake_step rfl 22 (.tmp 0) rfl (kb.map cellOf) rfl ?_
         intro w16 hb16 hvb16
         have hB16 := hb16
         have hgeb : w.heap.size ≤ w.heap.size := Nat.le_refl _
         clear  hb16
         try simp only [Act.put, List.setIfInBounds_toArray, List.set_cons_zero, List.set_cons_succ]
         skip)
      | (refine vzero_step (o := ⟨some 2, _, _, _, _, _⟩) rfl 40 rfl (dzeros 24) zero_tri ?_
         intro w17 hb17 hvr17
         have hB17 := below_then hB16 hb17
         have hger : w.heap.size ≤ w16.heap.size := hB16.size
         have hvb17 := hvb16.on hb17
         have hnebr := Nat.ne_of_lt hvb16.lt
         clear hB16 hvb16 hb17
         try simp only [Act.put, List.setIfInBounds_toArray, List.set_cons_zero, List.set_cons_succ]
         skip))
    generalize hqr : w16.heap.size = gr at *
    clear hqr
    have dq := hvb17.get D1.out
    have hT := hvb17.there 31 1 (by rw [List.length_map, Hkb.out]; decide)
    have hE := Lib.hid (hvb17.set 31 (cellOf v))
    go_upto_region 3 with (first
      | (refine store_step rfl 5 _ _ rfl (w.heap.size) 31 .u8 (v.toNat : Int) rfl rfl size_u8 hT ?_
         intro w18 hw18
         have hB18 : Below w.heap.size w w18 := by rw [hw18]; exact hB17.setCell (p := ⟨w.heap.size, 31, none⟩) (Nat.le_refl _) _
         have hvb18 : Cells w18 (w.heap.size) (kc.map cellOf) 22 := by rw [hw18, HC.out, List.map_set]; exact hE.out
         have hvr18 : Cells w18 gr (dzeros 24) 40 := by rw [hw18]; exact hvr17.other (Ne.symm hnebr) _
         clear hw18 hT hE dq i2 i3 i4 hB17 hvb17 hvr17
         skip))
    go_wp2_with (first
      | (refine sget_step rfl 22 (.tmp 1) rfl w.heap.size 32 (kc.map cellOf) rfl hvb18 Tryd.underlying22 rfl size_b32 (by rw [List.length_map, Hkc.out]) ?_
         try simp only [Act.put, List.setIfInBounds_toArray, List.set_cons_zero, List.set_cons_succ]
         skip))
    refine (CR.out w18).mono ?_
    rintro e w19 ⟨rfl, hb19⟩
    have hB19 := below_then hB18 hb19
    have hvb19 := hvb18.on hb19
    have hvr19 := hvr18.on hb19
    clear hB18 hvb18 hvr18 hb19
    go_wp2_with (first
      | (refine vput_step rfl rfl 38 (.tmp 5) (.tmp 17) rfl rfl 8 (dzeros 8) (y.map dcell) rfl rfl zero_ND rfl size_ND (by rw [List.length_map, Hy.out]) (dcells_one _) ?_
         intro w20 hb20 hvy20
         have hB20 := below_then hB19 hb20
         have hgey : w.heap.size ≤ w19.heap.size := hB19.size
         have hvb20 := hvb19.on hb20
         have hneby := Nat.ne_of_lt hvb19.lt
         have hvr20 := hvr19.on hb20
         have hnery := Nat.ne_of_lt hvr19.lt
         clear hB19 hvb19 hvr19 hb20
         try simp only [Act.put, List.setIfInBounds_toArray, List.set_cons_zero, List.set_cons_succ]
         skip))
    generalize hqy : w19.heap.size = gy at *
    clear hqy
    replace hvb20 := hvb20.drew
    replace hvr20 := hvr20.drew
    replace hvy20 := hvy20.drew
    refine wp_region_any (by kernel_rfl) ?_
    refine wpAny_flatM (L := [0, 1, 2, 3]) (by kernel_rfl) _ _ (read12Vs4_5 kb w.heap.size gr gy q v kc y yl nq) [] 22 kzeros [0, 1, 2, 3, 4, 5, 6, 7, 8, 9, 10, 11, 12, 13, 14, 15, 16, 17, 22, 23, 24, 25, 26, 27, 28, 29, 30, 31, 32, 33, 34, 35, 36, 37, 38, 39, 40, 41, 42, 43, 44, 45, 46, 47, 48, 49, 50, 51, 52, 53, 54, 55, 56, 57, 58] (by kernel_rfl) (by kernel_rfl) ?_ zero_b32 ?_ (by rfl) ?_ 0 (by kernel_rfl) ?_
    · intro p hp
      exact absurd hp List.not_mem_nil
    · repeat refine all_cons rfl ?_
      exact all_nil
    · refine all_cons (.inr (mStep _ 18 rfl rfl rfl rfl (by kernel_rfl) (fun a hv => wanted_all rfl _) (fun a w K hb hv hK => mPure (numD y) (exec_load _ _ _ _ rfl _ _ (hv 5 (by kernel_rfl) rfl) w (num_run (hvy20.on hb) Hy.out)) hK))) ?_
      refine all_cons (.inr (mStep _ 19 rfl rfl rfl rfl (by kernel_rfl) (fun a hv => wanted_all rfl _) (fun a w K hb hv hK => mCall (numD yl) 33 _ _ rfl [numD y] (cons_eq (hv 18 (by kernel_rfl) rfl) (rfl)) (enters Tryd.func33 rfl rfl) (CL.out w) hK))) ?_
      refine all_cons (.inr (mStep _ 20 rfl rfl rfl rfl (by kernel_rfl) (fun a hv => wanted_all rfl _) (fun a w K hb hv hK => mPure (numD y) (exec_load _ _ _ _ rfl _ _ (hv 5 (by kernel_rfl) rfl) w (num_run (hvy20.on hb) Hy.out)) hK))) ?_
      refine all_cons (.inr (mStep _ 21 rfl rfl rfl rfl (by kernel_rfl) (fun a hv => wanted_all rfl _) (fun a w K hb hv hK => mPure (.bool nq) (exec_bin _ _ _ _ _ _ _ rfl (numD yl) (numD y) _ (hv 19 (by kernel_rfl) rfl) (hv 20 (by kernel_rfl) rfl) w ((fun w => num_guard _ _ _ _ _ w) w) ((hEQ) w)) hK))) ?_
      exact all_nil
    intro w21 g hb21 hN21 hap21
    clear hN21 hap21
    have hB21 := below_then (show Below w.heap.size w w20.drew from hB20.drew) hb21
    have hvb21 := hvb20.on hb21
    have hvr21 := hvr20.on hb21
    have hvy21 := hvy20.on hb21
    clear hB20 hvb20 hvr20 hvy20 hb21
    refine ⟨by kernel_rfl, ?_⟩
    rename_i K hKK
    show Exit.then K _ Exit.normal (⟨(read12Vs4_5 kb w.heap.size gr gy q v kc y yl nq).toArray, []⟩ : Act) w21
    simp only [Exit.then]
    refine hKK _ _ ?_
    clear hKK K g
    simp only [read12Vs4_5]
    cases nq
    · go_wp2_with (first
        | (refine sget_step rfl 38 (.tmp 5) rfl gy 8 (y.map dcell) rfl hvy21 Tryd.underlying38 rfl size_ND (by rw [List.length_map, Hy.out]) ?_
           try simp only [Act.put, List.setIfInBounds_toArray, List.set_cons_zero, List.set_cons_succ]
           skip)
        | (refine sget_step rfl 38 (.tmp 5) rfl gy 8 (y.map dcell) rfl hvy21 Tryd.underlying38 rfl size_ND (by rw [List.length_map, Hy.out]) ?_
           try simp only [Act.put, List.setIfInBounds_toArray, List.set_cons_zero, List.set_cons_succ]
           skip))
      refine (CY.out w21).mono ?_
      rintro e w22 ⟨rfl, hb22⟩
      have hB22 := below_then hB21 hb22
      have hvb22 := hvb21.on hb22
      have hvr22 := hvr21.on hb22
      have hvy22 := hvy21.on hb22
      clear hB21 hvb21 hvr21 hvy21 hb22
      go_wp2_with (first
        | (refine vput_step rfl rfl 38 (.tmp 6) (.tmp 25) rfl rfl 8 (dzeros 8) (yy.map dcell) rfl rfl zero_ND rfl size_ND (by rw [List.length_map, Hyy.out]) (dcells_one _) ?_
           intro w23 hb23 hvv23
           have hB23 := below_then hB22 hb23
           have hgev : w.heap.size ≤ w22.heap.size := hB22.size
           have hvb23 := hvb22.on hb23
           have hnebv := Nat.ne_of_lt hvb22.lt
           have hvr23 := hvr22.on hb23
           have hnerv := Nat.ne_of_lt hvr22.lt
           have hvy23 := hvy22.on hb23
           have hneyv := Nat.ne_of_lt hvy22.lt
           clear hB22 hvb22 hvr22 hvy22 hb23
           try simp only [Act.put, List.setIfInBounds_toArray, List.set_cons_zero, List.set_cons_succ]
           skip))
      generalize hqv : w22.heap.size = gv at *
      clear hqv
      replace hvb23 := hvb23.drew
      replace hvr23 := hvr23.drew
      replace hvy23 := hvy23.drew
      replace hvv23 := hvv23.drew
      refine wp_region_any (by kernel_rfl) ?_
      refine wpAny_flatS (L := [0, 1, 2, 3, 4, 5, 6, 7, 8, 9, 10, 11, 12, 13, 14, 15, 16]) (by kernel_rfl) _ _ (read12Vs7_6 kb w.heap.size gr gy gv ok q v kc y yl yy x o s1 dd t1 a1 iv pr) [(14, 7)] (fun _ => 38) (fun _ => (dzeros 8)) (fun _ => some (15, x.map dcell)) [0, 1, 2, 3, 4, 5, 6, 9, 10, 11, 12, 13, 14, 15, 16, 17, 18, 19, 20, 21, 22, 23, 24, 25, 40, 41, 42, 43, 44, 45, 46, 47, 48, 49, 50, 51, 52, 53, 54, 55, 56, 57, 58] (by kernel_rfl) (by kernel_rfl) ?_ (fun _ _ => zero_ND) ?_ ?_ ?_ (by rfl) ?_ 0 (by kernel_rfl) ?_
      · intro p hp
        rcases List.mem_cons.1 hp with rfl | hp
        · exact ⟨⟨_, rfl, rfl, rfl, rfl, by kernel_rfl, by kernel_rfl⟩⟩
        exact absurd hp List.not_mem_nil
      · intro p hp j l h
        rcases List.mem_cons.1 hp with rfl | hp
        · change some (15, x.map dcell) = some (j, l) at h
          cases h
          exact ⟨⟨_, 38, rfl, rfl, rfl, rfl, by kernel_rfl, by kernel_rfl, by kernel_rfl, rfl, by rw [List.length_map, Hx.out]; exact size_ND, by rw [List.length_map, Hx.out]; rfl, dcells_one _⟩, by decide⟩
        exact absurd hp List.not_mem_nil
      · intro p hp q hq j l l2 h1 h2
        rcases List.mem_cons.1 hp with rfl | hp
        · rcases List.mem_cons.1 hq with rfl | hq
          · rfl
          exact absurd hq List.not_mem_nil
        exact absurd hp List.not_mem_nil
      · repeat refine all_cons rfl ?_
        exact all_nil
      · refine all_cons (.inr (.inl (mStep _ 27 rfl rfl rfl rfl (by kernel_rfl) (fun a hv => wanted_all rfl _) (fun a w K hb hv hK => mPure (numD yy) (exec_load _ _ _ _ rfl _ _ (hv 6 (by kernel_rfl) rfl) w (num_run (hvv23.on hb) Hyy.out)) hK)))) ?_
        refine all_cons (.inr (.inl (mStep _ 28 rfl rfl rfl rfl (by kernel_rfl) (fun a hv => wanted_all rfl _) (fun a w K hb hv hK => mCall (numD o) 37 _ _ rfl [] (rfl) (enters Tryd.func37 rfl rfl) (C1.out w) hK)))) ?_
        refine all_cons (.inr (.inl (mStep _ 29 rfl rfl rfl rfl (by kernel_rfl) (fun a hv => wanted_all rfl _) (fun a w K hb hv hK => mCall (numD s1) 36 _ _ rfl [numD yy, numD o] (cons_eq (hv 27 (by kernel_rfl) rfl) (cons_eq (hv 28 (by kernel_rfl) rfl) (rfl))) (enters Tryd.func36 rfl rfl) (CS.out w) hK)))) ?_
        refine all_cons (.inr (.inl (mStep _ 30 rfl rfl rfl rfl (by kernel_rfl) (fun a hv => wanted_all rfl _) (fun a w K hb hv hK => mCall (numD dd) 40 _ _ rfl [] (rfl) (enters Tryd.func40 rfl rfl) (CD.out w) hK)))) ?_
        refine all_cons (.inr (.inl (mStep _ 31 rfl rfl rfl rfl (by kernel_rfl) (fun a hv => wanted_all rfl _) (fun a w K hb hv hK => mPure (numD yy) (exec_load _ _ _ _ rfl _ _ (hv 6 (by kernel_rfl) rfl) w (num_run (hvv23.on hb) Hyy.out)) hK)))) ?_
        refine all_cons (.inr (.inl (mStep _ 32 rfl rfl rfl rfl (by kernel_rfl) (fun a hv => wanted_all rfl _) (fun a w K hb hv hK => mCall (numD t1) 34 _ _ rfl [numD dd, numD yy] (cons_eq (hv 30 (by kernel_rfl) rfl) (cons_eq (hv 31 (by kernel_rfl) rfl) (rfl))) (enters Tryd.func34 rfl rfl) (CT.out w) hK)))) ?_
        refine all_cons (.inr (.inl (mStep _ 33 rfl rfl rfl rfl (by kernel_rfl) (fun a hv => wanted_all rfl _) (fun a w K hb hv hK => mCall (numD o) 37 _ _ rfl [] (rfl) (enters Tryd.func37 rfl rfl) (C1.out w) hK)))) ?_
        refine all_cons (.inr (.inl (mStep _ 34 rfl rfl rfl rfl (by kernel_rfl) (fun a hv => wanted_all rfl _) (fun a w K hb hv hK => mCall (numD a1) 39 _ _ rfl [numD t1, numD o] (cons_eq (hv 32 (by kernel_rfl) rfl) (cons_eq (hv 33 (by kernel_rfl) rfl) (rfl))) (enters Tryd.func39 rfl rfl) (CA.out w) hK)))) ?_
        refine all_cons (.inr (.inl (mStep _ 35 rfl rfl rfl rfl (by kernel_rfl) (fun a hv => wanted_all rfl _) (fun a w K hb hv hK => mCall (numD iv) 38 _ _ rfl [numD a1] (cons_eq (hv 34 (by kernel_rfl) rfl) (rfl)) (enters Tryd.func38 rfl rfl) (CI.out w) hK)))) ?_
        refine all_cons (.inr (.inl (mStep _ 36 rfl rfl rfl rfl (by kernel_rfl) (fun a hv => wanted_all rfl _) (fun a w K hb hv hK => mCall (numD pr) 34 _ _ rfl [numD s1, numD iv] (cons_eq (hv 29 (by kernel_rfl) rfl) (cons_eq (hv 35 (by kernel_rfl) rfl) (rfl))) (enters Tryd.func34 rfl rfl) (CP.out w) hK)))) ?_
        refine all_cons (.inr (.inl (mStep _ 37 rfl rfl rfl rfl (by kernel_rfl) (fun a hv => wanted_all rfl _) (fun a w K hb hv hK => mCall (.tuple #[numD x, .bool ok]) 35 _ _ rfl [numD pr] (cons_eq (hv 36 (by kernel_rfl) rfl) (rfl)) (enters Tryd.func35 rfl rfl) (CO.out w) hK)))) ?_
        refine all_cons (.inr (.inl (mStep _ 26 rfl rfl rfl rfl (by kernel_rfl) (fun a hv => wanted_all rfl _) (fun a w K hb hv hK => mPure (.tuple #[numD x, .bool ok]) (exec_move _ _ _ (.inl rfl) _ (hv 37 (by kernel_rfl) rfl) w) hK)))) ?_
        refine all_cons (.inr (.inl (mStep _ 38 rfl rfl rfl rfl (by kernel_rfl) (fun a hv => wanted_all rfl _) (fun a w K hb hv hK => mPure (numD x) (exec_extract _ _ _ _ rfl _ (hv 26 (by kernel_rfl) rfl) _ rfl w) hK)))) ?_
        refine all_cons (.inr (.inl (mStep _ 39 rfl rfl rfl rfl (by kernel_rfl) (fun a hv => wanted_all rfl _) (fun a w K hb hv hK => mPure (.bool ok) (exec_extract _ _ _ _ rfl _ (hv 26 (by kernel_rfl) rfl) _ rfl w) hK)))) ?_
        refine all_cons (.inl ⟨(14, 7), by simp, rfl⟩) ?_
        refine all_cons (.inr (.inr ⟨(14, 7), by simp, _, rfl⟩)) ?_
        refine all_cons (.inr (.inl (mStep _ 8 rfl rfl rfl rfl (by kernel_rfl) (fun a hv => wanted_all rfl _) (fun a w K hb hv hK => mPure (.bool ok) (exec_move _ _ _ (.inr rfl) _ (hv 39 (by kernel_rfl) rfl) w) hK)))) ?_
        exact all_nil
      intro w24 g hb24 hN24 hap24
      obtain ⟨hgex, hvx24⟩ := hN24 (14, 7) (by simp)
      clear hN24 hap24
      have hB24 := below_then (show Below w.heap.size w w23.drew from hB23.drew) hb24
      have hltb : w.heap.size < w23.heap.size := hvb23.lt
      have hltr : gr < w23.heap.size := hvr23.lt
      have hlty : gy < w23.heap.size := hvy23.lt
      have hltv : gv < w23.heap.size := hvv23.lt
      have hvb24 := hvb23.on hb24
      have hvr24 := hvr23.on hb24
      have hvy24 := hvy23.on hb24
      have hvv24 := hvv23.on hb24
      rw [show withNew g [(14, 7)] (read12Vs7_6 kb w.heap.size gr gy gv ok q v kc y yl yy x o s1 dd t1 a1 iv pr) = read12Vs7_6N kb w.heap.size gr gy gv ok q v kc y yl yy x o s1 dd t1 a1 iv pr (g 7) from rfl]
      replace hgex : w23.heap.size ≤ g 7 := hgex
      replace hvx24 : Cells w24 (g 7) (x.map dcell) 38 := hvx24
      have hnebx : w.heap.size ≠ g 7 := Nat.ne_of_lt (Nat.lt_of_lt_of_le hltb hgex)
      have hnerx : gr ≠ g 7 := Nat.ne_of_lt (Nat.lt_of_lt_of_le hltr hgex)
      have hneyx : gy ≠ g 7 := Nat.ne_of_lt (Nat.lt_of_lt_of_le hlty hgex)
      have hnevx : gv ≠ g 7 := Nat.ne_of_lt (Nat.lt_of_lt_of_le hltv hgex)
      replace hgex : w.heap.size ≤ g 7 := Nat.le_trans (show w.heap.size ≤ w23.heap.size from hB23.size) hgex
      clear hltb hltr hlty hltv
      generalize g 7 = gx at *
      clear hB23 hvb23 hvr23 hvy23 hvv23 hb24
      refine ⟨by kernel_rfl, ?_⟩
      rename_i K hKK
      show Exit.then K _ Exit.normal (⟨(read12Vs7_6N kb w.heap.size gr gy gv ok q v kc y yl yy x o s1 dd t1 a1 iv pr gx).toArray, []⟩ : Act) w24
      simp only [Exit.then]
      refine hKK _ _ ?_
      clear hKK K g
      simp only [read12Vs7_6N]
      cases ok
      · go_upto_region 8 with fail
        refine wp_region_flat (md := .any) (by kernel_rfl) ?_
        refine wpAny_flatM (L := [0, 1, 2, 3, 4, 5, 6, 7, 8, 9]) (by kernel_rfl) _ _ (read12Vs8_7 kb w.heap.size gr gy gv gx q v kc y yl yy x o s1 dd t1 a1 iv pr) [] 22 kzeros [0, 1, 2, 3, 4, 5, 6, 7, 8, 9, 10, 11, 12, 13, 14, 15, 16, 17, 18, 19, 20, 21, 22, 23, 24, 25, 26, 27, 28, 29, 30, 31, 32, 33, 34, 35, 36, 37, 38, 39, 50, 51, 52, 53, 54, 55, 56, 57, 58] (by kernel_rfl) (by kernel_rfl) ?_ zero_b32 ?_ (by rfl) ?_ 0 (by kernel_rfl) ?_
        · intro p hp
          exact absurd hp List.not_mem_nil
        · repeat refine all_cons rfl ?_
          exact all_nil
        · refine all_cons (.inr (mStep _ 40 rfl rfl rfl rfl (by kernel_rfl) (fun a hv => wanted_all rfl _) (fun a w K hb hv hK => mPure (.bool false) (exec_move _ _ _ (.inl rfl) _ (hv 8 (by kernel_rfl) rfl) w) hK))) ?_
          refine all_cons (.inr (mStep _ 41 rfl rfl rfl rfl (by kernel_rfl) (fun a hv => wanted_all rfl _) (fun a w K hb hv hK => mPure (.bool true) (exec_not _ _ _ _ rfl (false) (hv 40 (by kernel_rfl) rfl) w) hK))) ?_
          refine all_cons (.inr (mStep _ 42 rfl rfl rfl rfl (by kernel_rfl) (fun a hv => wanted_all rfl _) (fun a w K hb hv hK => mPure (.bool true) (exec_move _ _ _ (.inl rfl) _ (hv 41 (by kernel_rfl) rfl) w) hK))) ?_
          refine all_cons (.inr (mSkip _ 43 rfl rfl rfl rfl (by kernel_rfl) (fun a hv => (wanted_is (j := 2) (b := false) (c := true) rfl rfl rfl (hv 42 (by kernel_rfl) rfl)).trans rfl) rfl)) ?_
          refine all_cons (.inr (mSkip _ 44 rfl rfl rfl rfl (by kernel_rfl) (fun a hv => (wanted_is (j := 2) (b := false) (c := true) rfl rfl rfl (hv 42 (by kernel_rfl) rfl)).trans rfl) rfl)) ?_
          refine all_cons (.inr (mSkip _ 45 rfl rfl rfl rfl (by kernel_rfl) (fun a hv => wanted_none (j := 4) rfl rfl rfl (hv 44 (by kernel_rfl) rfl)) rfl)) ?_
          refine all_cons (.inr (mSkip _ 46 rfl rfl rfl rfl (by kernel_rfl) (fun a hv => wanted_none (j := 4) rfl rfl rfl (hv 44 (by kernel_rfl) rfl)) rfl)) ?_
          refine all_cons (.inr (mSkip _ 47 rfl rfl rfl rfl (by kernel_rfl) (fun a hv => wanted_none (j := 4) rfl rfl rfl (hv 44 (by kernel_rfl) rfl)) rfl)) ?_
          refine all_cons (.inr (mSkip _ 48 rfl rfl rfl rfl (by kernel_rfl) (fun a hv => (wanted_is (j := 2) (b := false) (c := true) rfl rfl rfl (hv 42 (by kernel_rfl) rfl)).trans rfl) rfl)) ?_
          refine all_cons (.inr (mStep _ 49 rfl rfl rfl rfl (by kernel_rfl) (fun a hv => wanted_all rfl _) (fun a w K hb hv hK => mPure (.bool true) (pick_true _ _ _ _ _ rfl (hv 42 (by kernel_rfl) rfl) (.bool true) (by rfl) w) hK))) ?_
          exact all_nil
        intro w25 g hb25 hN25 hap25
        clear hN25 hap25
        have hB25 := below_then hB24 hb25
        have hvb25 := hvb24.on hb25
        have hvr25 := hvr24.on hb25
        have hvy25 := hvy24.on hb25
        have hvv25 := hvv24.on hb25
        have hvx25 := hvx24.on hb25
        clear hB24 hvb24 hvr24 hvy24 hvv24 hvx24 hb25
        refine ⟨by kernel_rfl, ?_⟩
        rename_i K hKK
        show Exit.then K _ Exit.normal (⟨(read12Vs8_7 kb w.heap.size gr gy gv gx q v kc y yl yy x o s1 dd t1 a1 iv pr).toArray, []⟩ : Act) w25
        simp only [Exit.then]
        refine hKK _ _ ?_
        clear hKK K g
        simp only [read12Vs8_7]
        go_wp2_with (first
          | (refine build_step rfl 40 [] rfl [] rfl _ BZT ?_
             try simp only [Act.put, List.setIfInBounds_toArray, List.set_cons_zero, List.set_cons_succ]
             skip)
          | (refine vset_step rfl 40 (.tmp 2) (.tmp 50) rfl gr 24 (dzeros 24) (zt.map dcell) rfl rfl hvr25 rfl size_tri (by rw [List.length_map, Hzt.out]) (dcells_one _) ?_
             intro w26 hb26 hvr26 hz26
             have hB26 : Below w.heap.size w w26 := hB25.trans (hb26.below hger hB25.size)
             have hvb26 := hvb25.but hb26 hnebr
             have hvy26 := hvy25.but hb26 (Ne.symm hnery)
             have hvv26 := hvv25.but hb26 (Ne.symm hnerv)
             have hvx26 := hvx25.but hb26 (Ne.symm hnerx)
             clear hB25 hvr25 hb26 hz26 hvb25 hvy25 hvv25 hvx25
             skip))
        obtain ⟨hr1, hr2⟩ := HP1.out (by simp) (by simp) 
        exact sret2 Tryd.results10 gr (zt.map dcell) _ rfl rfl hvr26 Tryd.underlying40 rfl size_tri (by rw [List.length_map, Hzt.out]) rfl ⟨by subst hr1; subst hr2; rfl, hB26⟩
      · cases xz
        · go_upto_region 8 with fail
          refine wp_region_flat (md := .any) (by kernel_rfl) ?_
          refine wpAny_flatM (L := [0, 1, 2, 3, 4, 5, 6, 7, 8, 9]) (by kernel_rfl) _ _ (read12Vs8_8 kb w.heap.size gr gy gv gx q v kc y yl yy x o s1 dd t1 a1 iv pr zn) [] 22 kzeros [0, 1, 2, 3, 4, 5, 6, 7, 8, 9, 10, 11, 12, 13, 14, 15, 16, 17, 18, 19, 20, 21, 22, 23, 24, 25, 26, 27, 28, 29, 30, 31, 32, 33, 34, 35, 36, 37, 38, 39, 50, 51, 52, 53, 54, 55, 56, 57, 58] (by kernel_rfl) (by kernel_rfl) ?_ zero_b32 ?_ (by rfl) ?_ 0 (by kernel_rfl) ?_
          · intro p hp
            exact absurd hp List.not_mem_nil
          · repeat refine all_cons rfl ?_
            exact all_nil
          · refine all_cons (.inr (mStep _ 40 rfl rfl rfl rfl (by kernel_rfl) (fun a hv => wanted_all rfl _) (fun a w K hb hv hK => mPure (.bool true) (exec_move _ _ _ (.inl rfl) _ (hv 8 (by kernel_rfl) rfl) w) hK))) ?_
            refine all_cons (.inr (mStep _ 41 rfl rfl rfl rfl (by kernel_rfl) (fun a hv => wanted_all rfl _) (fun a w K hb hv hK => mPure (.bool false) (exec_not _ _ _ _ rfl (true) (hv 40 (by kernel_rfl) rfl) w) hK))) ?_
            refine all_cons (.inr (mStep _ 42 rfl rfl rfl rfl (by kernel_rfl) (fun a hv => wanted_all rfl _) (fun a w K hb hv hK => mPure (.bool false) (exec_move _ _ _ (.inl rfl) _ (hv 41 (by kernel_rfl) rfl) w) hK))) ?_
            refine all_cons (.inr (mStep _ 43 rfl rfl rfl rfl (by kernel_rfl) (fun a hv => (wanted_is (j := 2) (b := false) (c := false) rfl rfl rfl (hv 42 (by kernel_rfl) rfl)).trans rfl) (fun a w K hb hv hK => mPure (.bool true) (exec_move _ _ _ (.inl rfl) _ (hv 4 (by kernel_rfl) rfl) w) hK))) ?_
            refine all_cons (.inr (mStep _ 44 rfl rfl rfl rfl (by kernel_rfl) (fun a hv => (wanted_is (j := 2) (b := false) (c := false) rfl rfl rfl (hv 42 (by kernel_rfl) rfl)).trans rfl) (fun a w K hb hv hK => mPure (.bool true) (exec_move _ _ _ (.inl rfl) _ (hv 43 (by kernel_rfl) rfl) w) hK))) ?_
            refine all_cons (.inr (mStep _ 45 rfl rfl rfl rfl (by kernel_rfl) (fun a hv => (wanted_is (j := 4) (b := true) (c := true) rfl rfl rfl (hv 44 (by kernel_rfl) rfl)).trans rfl) (fun a w K hb hv hK => mPure (numD x) (exec_load _ _ _ _ rfl _ _ (hv 7 (by kernel_rfl) rfl) w (num_run (hvx24.on hb) Hx.out)) hK))) ?_
            refine all_cons (.inr (mStep _ 46 rfl rfl rfl rfl (by kernel_rfl) (fun a hv => (wanted_is (j := 4) (b := true) (c := true) rfl rfl rfl (hv 44 (by kernel_rfl) rfl)).trans rfl) (fun a w K hb hv hK => mPure (numD zn) (exec_build _ _ _ [] rfl [] rfl _ w (BZN w)) hK))) ?_
            refine all_cons (.inr (mStep _ 47 rfl rfl rfl rfl (by kernel_rfl) (fun a hv => (wanted_is (j := 4) (b := true) (c := true) rfl rfl rfl (hv 44 (by kernel_rfl) rfl)).trans rfl) (fun a w K hb hv hK => mPure (.bool false) (exec_bin _ _ _ _ _ _ _ rfl (numD x) (numD zn) _ (hv 45 (by kernel_rfl) rfl) (hv 46 (by kernel_rfl) rfl) w ((fun w => num_guard _ _ _ _ _ w) w) ((hEZ) w)) hK))) ?_
            refine all_cons (.inr (mStep _ 48 rfl rfl rfl rfl (by kernel_rfl) (fun a hv => (wanted_is (j := 2) (b := false) (c := false) rfl rfl rfl (hv 42 (by kernel_rfl) rfl)).trans rfl) (fun a w K hb hv hK => mPure (.bool false) (pick_true _ _ _ _ _ rfl (hv 44 (by kernel_rfl) rfl) (.bool false) (hv 47 (by kernel_rfl) rfl) w) hK))) ?_
            refine all_cons (.inr (mStep _ 49 rfl rfl rfl rfl (by kernel_rfl) (fun a hv => wanted_all rfl _) (fun a w K hb hv hK => mPure (.bool false) (pick_false _ _ _ _ _ rfl (hv 42 (by kernel_rfl) rfl) (.bool false) (hv 48 (by kernel_rfl) rfl) w) hK))) ?_
            exact all_nil
          intro w27 g hb27 hN27 hap27
          clear hN27 hap27
          have hB27 := below_then hB24 hb27
          have hvb27 := hvb24.on hb27
          have hvr27 := hvr24.on hb27
          have hvy27 := hvy24.on hb27
          have hvv27 := hvv24.on hb27
          have hvx27 := hvx24.on hb27
          clear hB24 hvb24 hvr24 hvy24 hvv24 hvx24 hb27
          refine ⟨by kernel_rfl, ?_⟩
          rename_i K hKK
          show Exit.then K _ Exit.normal (⟨(read12Vs8_8 kb w.heap.size gr gy gv gx q v kc y yl yy x o s1 dd t1 a1 iv pr zn).toArray, []⟩ : Act) w27
          simp only [Exit.then]
          refine hKK _ _ ?_
          clear hKK K g
          simp only [read12Vs8_8]
          go_wp2_with (first
            | (refine build_step rfl 38 [] rfl [] rfl _ BZN ?_
               try simp only [Act.put, List.setIfInBounds_toArray, List.set_cons_zero, List.set_cons_succ]
               skip)
            | (refine sget_step rfl 38 (.tmp 7) rfl gx 8 (x.map dcell) rfl hvx27 Tryd.underlying38 rfl size_ND (by rw [List.length_map, Hx.out]) ?_
               try simp only [Act.put, List.setIfInBounds_toArray, List.set_cons_zero, List.set_cons_succ]
               skip))
          refine (CN.out w27).mono ?_
          rintro e w28 ⟨rfl, hb28⟩
          have hB28 := below_then hB27 hb28
          have hvb28 := hvb27.on hb28
          have hvr28 := hvr27.on hb28
          have hvy28 := hvy27.on hb28
          have hvv28 := hvv27.on hb28
          have hvx28 := hvx27.on hb28
          clear hB27 hvb27 hvr27 hvy27 hvv27 hvx27 hb28
          go_wp2_with (first
            | (refine vset_step rfl 38 (.tmp 7) (.tmp 54) rfl gx 8 (x.map dcell) (xn.map dcell) rfl rfl hvx28 (by rw [List.length_map, Hx.out]) size_ND (by rw [List.length_map, Hxn.out]) (dcells_one _) ?_
               intro w29 hb29 hvx29 hz29
               have hB29 : Below w.heap.size w w29 := hB28.trans (hb29.below hgex hB28.size)
               have hvb29 := hvb28.but hb29 hnebx
               have hvr29 := hvr28.but hb29 hnerx
               have hvy29 := hvy28.but hb29 hneyx
               have hvv29 := hvv28.but hb29 hnevx
               clear hB28 hvx28 hb29 hz29 hvb28 hvr28 hvy28 hvv28
               skip))
          replace hvb29 := hvb29.drew
          replace hvr29 := hvr29.drew
          replace hvy29 := hvy29.drew
          replace hvv29 := hvv29.drew
          replace hvx29 := hvx29.drew
          refine wp_region_any (by kernel_rfl) ?_
          refine wpAny_flatM (L := [0, 1, 2, 3]) (by kernel_rfl) _ _ (read12Vs12_9 kb w.heap.size gr gy gv gx q v kc y yl yy x o s1 dd t1 a1 iv pr zn xn r1) [] 22 kzeros [0, 1, 2, 3, 4, 5, 6, 7, 8, 9, 10, 11, 12, 13, 14, 15, 16, 17, 18, 19, 20, 21, 22, 23, 24, 25, 26, 27, 28, 29, 30, 31, 32, 33, 34, 35, 36, 37, 38, 39, 40, 41, 42, 43, 44, 45, 46, 47, 48, 49, 50, 51, 52, 53, 54] (by kernel_rfl) (by kernel_rfl) ?_ zero_b32 ?_ (by rfl) ?_ 2 (by kernel_rfl) ?_
          · intro p hp
            exact absurd hp List.not_mem_nil
          · repeat refine all_cons rfl ?_
            exact all_nil
          · refine all_cons (.inr (mStep _ 55 rfl rfl rfl rfl (by kernel_rfl) (fun a hv => wanted_all rfl _) (fun a w K hb hv hK => mPure (numD xn) (exec_load _ _ _ _ rfl _ _ (hv 7 (by kernel_rfl) rfl) w (num_run (hvx29.on hb) Hxn.out)) hK))) ?_
            refine all_cons (.inr (mStep _ 56 rfl rfl rfl rfl (by kernel_rfl) (fun a hv => wanted_all rfl _) (fun a w K hb hv hK => mPure (numD y) (exec_load _ _ _ _ rfl _ _ (hv 5 (by kernel_rfl) rfl) w (num_run (hvy29.on hb) Hy.out)) hK))) ?_
            refine all_cons (.inr (mStep _ 57 rfl rfl rfl rfl (by kernel_rfl) (fun a hv => wanted_all rfl _) (fun a w K hb hv hK => mCall (numD o) 37 _ _ rfl [] (rfl) (enters Tryd.func37 rfl rfl) (C1.out w) hK))) ?_
            refine all_cons (.inr (mStep _ 58 rfl rfl rfl rfl (by kernel_rfl) (fun a hv => wanted_all rfl _) (fun a w K hb hv hK => mPure (numD r1) (exec_build _ _ _ [(0, .tmp 55), (1, .tmp 56), (2, .tmp 57)] rfl [(0, numD xn), (1, numD y), (2, numD o)] (cons_eq (congrArg (Prod.mk 0) (hv 55 (by kernel_rfl) rfl)) (cons_eq (congrArg (Prod.mk 1) (hv 56 (by kernel_rfl) rfl)) (cons_eq (congrArg (Prod.mk 2) (hv 57 (by kernel_rfl) rfl)) (rfl)))) _ w (BR1 w)) hK))) ?_
            exact all_nil
          intro w30 g hb30 hN30 hap30
          clear hN30 hap30
          have hB30 := below_then (show Below w.heap.size w w29.drew from hB29.drew) hb30
          have hvb30 := hvb29.on hb30
          have hvr30 := hvr29.on hb30
          have hvy30 := hvy29.on hb30
          have hvv30 := hvv29.on hb30
          have hvx30 := hvx29.on hb30
          clear hB29 hvb29 hvr29 hvy29 hvv29 hvx29 hb30
          refine wpAny_rest 4 rfl (by kernel_rfl) ?_
          refine vset_step rfl 40 (.tmp 2) (.tmp 58) rfl gr 24 (dzeros 24) (r1.map dcell) rfl rfl hvr30 rfl size_tri (by rw [List.length_map, Hr1.out]) (dcells_one _) ?_
          intro w31 hb31 hvr31 hz31
          have hB31 : Below w.heap.size w w31 := hB30.trans (hb31.below hger hB30.size)
          have hvb31 := hvb30.but hb31 hnebr
          have hvy31 := hvy30.but hb31 (Ne.symm hnery)
          have hvv31 := hvv30.but hb31 (Ne.symm hnerv)
          have hvx31 := hvx30.but hb31 (Ne.symm hnerx)
          clear hB30 hvr30 hb31 hz31 hvb30 hvy30 hvv30 hvx30
          refine wpList_move rfl (.inr rfl) (.int .i64 0) (by rfl) ?_
          rename_i K hKK
          show Exit.then K _ Exit.normal (⟨((read12Vs12_9 kb w.heap.size gr gy gv gx q v kc y yl yy x o s1 dd t1 a1 iv pr zn xn r1).set 3 (.int .i64 0)).toArray, []⟩ : Act) w31
          simp only [Exit.then]
          refine hKK _ _ ?_
          clear hKK K g
          simp only [read12Vs12_9, List.set_cons_zero, List.set_cons_succ]
          go_wp2
          obtain ⟨hr1, hr2⟩ := HP4.out (by simp) (by simp) (by simp) (by simp) 
          exact sret2 Tryd.results10 gr (r1.map dcell) _ rfl rfl hvr31 Tryd.underlying40 rfl size_tri (by rw [List.length_map, Hr1.out]) rfl ⟨by subst hr1; subst hr2; rfl, hB31⟩
        · go_upto_region 8 with fail
          refine wp_region_flat (md := .any) (by kernel_rfl) ?_
          refine wpAny_flatM (L := [0, 1, 2, 3, 4, 5, 6, 7, 8, 9]) (by kernel_rfl) _ _ (read12Vs8_10 kb w.heap.size gr gy gv gx q v kc y yl yy x o s1 dd t1 a1 iv pr zn) [] 22 kzeros [0, 1, 2, 3, 4, 5, 6, 7, 8, 9, 10, 11, 12, 13, 14, 15, 16, 17, 18, 19, 20, 21, 22, 23, 24, 25, 26, 27, 28, 29, 30, 31, 32, 33, 34, 35, 36, 37, 38, 39, 50, 51, 52, 53, 54, 55, 56, 57, 58] (by kernel_rfl) (by kernel_rfl) ?_ zero_b32 ?_ (by rfl) ?_ 0 (by kernel_rfl) ?_
          · intro p hp
            exact absurd hp List.not_mem_nil
          · repeat refine all_cons rfl ?_
            exact all_nil
          · refine all_cons (.inr (mStep _ 40 rfl rfl rfl rfl (by kernel_rfl) (fun a hv => wanted_all rfl _) (fun a w K hb hv hK => mPure (.bool true) (exec_move _ _ _ (.inl rfl) _ (hv 8 (by kernel_rfl) rfl) w) hK))) ?_
            refine all_cons (.inr (mStep _ 41 rfl rfl rfl rfl (by kernel_rfl) (fun a hv => wanted_all rfl _) (fun a w K hb hv hK => mPure (.bool false) (exec_not _ _ _ _ rfl (true) (hv 40 (by kernel_rfl) rfl) w) hK))) ?_
            refine all_cons (.inr (mStep _ 42 rfl rfl rfl rfl (by kernel_rfl) (fun a hv => wanted_all rfl _) (fun a w K hb hv hK => mPure (.bool false) (exec_move _ _ _ (.inl rfl) _ (hv 41 (by kernel_rfl) rfl) w) hK))) ?_
            refine all_cons (.inr (mStep _ 43 rfl rfl rfl rfl (by kernel_rfl) (fun a hv => (wanted_is (j := 2) (b := false) (c := false) rfl rfl rfl (hv 42 (by kernel_rfl) rfl)).trans rfl) (fun a w K hb hv hK => mPure (.bool true) (exec_move _ _ _ (.inl rfl) _ (hv 4 (by kernel_rfl) rfl) w) hK))) ?_
            refine all_cons (.inr (mStep _ 44 rfl rfl rfl rfl (by kernel_rfl) (fun a hv => (wanted_is (j := 2) (b := false) (c := false) rfl rfl rfl (hv 42 (by kernel_rfl) rfl)).trans rfl) (fun a w K hb hv hK => mPure (.bool true) (exec_move _ _ _ (.inl rfl) _ (hv 43 (by kernel_rfl) rfl) w) hK))) ?_
            refine all_cons (.inr (mStep _ 45 rfl rfl rfl rfl (by kernel_rfl) (fun a hv => (wanted_is (j := 4) (b := true) (c := true) rfl rfl rfl (hv 44 (by kernel_rfl) rfl)).trans rfl) (fun a w K hb hv hK => mPure (numD x) (exec_load _ _ _ _ rfl _ _ (hv 7 (by kernel_rfl) rfl) w (num_run (hvx24.on hb) Hx.out)) hK))) ?_
            refine all_cons (.inr (mStep _ 46 rfl rfl rfl rfl (by kernel_rfl) (fun a hv => (wanted_is (j := 4) (b := true) (c := true) rfl rfl rfl (hv 44 (by kernel_rfl) rfl)).trans rfl) (fun a w K hb hv hK => mPure (numD zn) (exec_build _ _ _ [] rfl [] rfl _ w (BZN w)) hK))) ?_
            refine all_cons (.inr (mStep _ 47 rfl rfl rfl rfl (by kernel_rfl) (fun a hv => (wanted_is (j := 4) (b := true) (c := true) rfl rfl rfl (hv 44 (by kernel_rfl) rfl)).trans rfl) (fun a w K hb hv hK => mPure (.bool true) (exec_bin _ _ _ _ _ _ _ rfl (numD x) (numD zn) _ (hv 45 (by kernel_rfl) rfl) (hv 46 (by kernel_rfl) rfl) w ((fun w => num_guard _ _ _ _ _ w) w) ((hEZ) w)) hK))) ?_
            refine all_cons (.inr (mStep _ 48 rfl rfl rfl rfl (by kernel_rfl) (fun a hv => (wanted_is (j := 2) (b := false) (c := false) rfl rfl rfl (hv 42 (by kernel_rfl) rfl)).trans rfl) (fun a w K hb hv hK => mPure (.bool true) (pick_true _ _ _ _ _ rfl (hv 44 (by kernel_rfl) rfl) (.bool true) (hv 47 (by kernel_rfl) rfl) w) hK))) ?_
            refine all_cons (.inr (mStep _ 49 rfl rfl rfl rfl (by kernel_rfl) (fun a hv => wanted_all rfl _) (fun a w K hb hv hK => mPure (.bool true) (pick_false _ _ _ _ _ rfl (hv 42 (by kernel_rfl) rfl) (.bool true) (hv 48 (by kernel_rfl) rfl) w) hK))) ?_
            exact all_nil
          intro w32 g hb32 hN32 hap32
          clear hN32 hap32
          have hB32 := below_then hB24 hb32
          have hvb32 := hvb24.on hb32
          have hvr32 := hvr24.on hb32
          have hvy32 := hvy24.on hb32
          have hvv32 := hvv24.on hb32
          have hvx32 := hvx24.on hb32
          clear hB24 hvb24 hvr24 hvy24 hvv24 hvx24 hb32
          refine ⟨by kernel_rfl, ?_⟩
          rename_i K hKK
          show Exit.then K _ Exit.normal (⟨(read12Vs8_10 kb w.heap.size gr gy gv gx q v kc y yl yy x o s1 dd t1 a1 iv pr zn).toArray, []⟩ : Act) w32
          simp only [Exit.then]
          refine hKK _ _ ?_
          clear hKK K g
          simp only [read12Vs8_10]
          go_wp2_with (first
            | (refine build_step rfl 40 [] rfl [] rfl _ BZT ?_
               try simp only [Act.put, List.setIfInBounds_toArray, List.set_cons_zero, List.set_cons_succ]
               skip)
            | (refine vset_step rfl 40 (.tmp 2) (.tmp 50) rfl gr 24 (dzeros 24) (zt.map dcell) rfl rfl hvr32 rfl size_tri (by rw [List.length_map, Hzt.out]) (dcells_one _) ?_
               intro w33 hb33 hvr33 hz33
               have hB33 : Below w.heap.size w w33 := hB32.trans (hb33.below hger hB32.size)
               have hvb33 := hvb32.but hb33 hnebr
               have hvy33 := hvy32.but hb33 (Ne.symm hnery)
               have hvv33 := hvv32.but hb33 (Ne.symm hnerv)
               have hvx33 := hvx32.but hb33 (Ne.symm hnerx)
               clear hB32 hvr32 hb33 hz33 hvb32 hvy32 hvv32 hvx32
               skip))
          obtain ⟨hr1, hr2⟩ := HP3.out (by simp) (by simp) (by simp) (by simp) 
          exact sret2 Tryd.results10 gr (zt.map dcell) _ rfl rfl hvr33 Tryd.underlying40 rfl size_tri (by rw [List.length_map, Hzt.out]) rfl ⟨by subst hr1; subst hr2; rfl, hB33⟩
    · go_wp2_with (first
        | (refine build_step rfl 40 [] rfl [] rfl _ BZT ?_
           try simp only [Act.put, List.setIfInBounds_toArray, List.set_cons_zero, List.set_cons_succ]
           skip)
        | (refine vset_step rfl 40 (.tmp 2) (.tmp 22) rfl gr 24 (dzeros 24) (zt.map dcell) rfl rfl hvr21 rfl size_tri (by rw [List.length_map, Hzt.out]) (dcells_one _) ?_
           intro w34 hb34 hvr34 hz34
           have hB34 : Below w.heap.size w w34 := hB21.trans (hb34.below hger hB21.size)
           have hvb34 := hvb21.but hb34 hnebr
           have hvy34 := hvy21.but hb34 (Ne.symm hnery)
           clear hB21 hvr21 hb34 hz34 hvb21 hvy21
           skip))
      obtain ⟨hr1, hr2⟩ := HP0.out (by simp) 
      exact sret2 Tryd.results10 gr (zt.map dcell) _ rfl rfl hvr34 Tryd.underlying40 rfl size_tri (by rw [List.length_map, Hzt.out]) rfl ⟨by subst hr1; subst hr2; rfl, hB34⟩
end Go.Proofs.YtagjbdhelfickaaDoor
