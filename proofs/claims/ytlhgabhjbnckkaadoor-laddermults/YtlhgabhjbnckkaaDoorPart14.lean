/- Part 14 of what the laws of this seat share: XMult. -/
import Derived.Deep.Cut
import Derived.IntWalk
import Derived.Test.YtlhgabhjbnckkaaDoorPart13
namespace Go.Proofs.YtlhgabhjbnckkaaDoor
open Go.RowKit
def rMultVs4 (key : List UInt8) (ub : List UInt8) (g_base : Nat) (gu : Nat) (gr : Nat) (gx : Nat) (go : Nat) (kc : List UInt8) (xx : List Nat) (one : List Nat) (zz : List Nat) : List Value :=
  (hashVal key) :: (hashVal ub) :: (.pointer (some ⟨g_base, 0, none⟩)) :: (.pointer (some ⟨gu, 0, none⟩)) :: (.pointer (some ⟨gr, 0, none⟩)) :: (.pointer (some ⟨gx, 0, none⟩)) :: (.pointer (some ⟨go, 0, none⟩)) :: undef :: undef :: undef :: undef :: undef :: undef :: undef :: undef :: undef :: undef :: undef :: undef :: undef :: undef :: undef :: undef :: undef :: undef :: (hashVal key) :: (hashVal kc) :: (hashVal ub) :: (numD xx) :: (numD one) :: (numD one) :: (numD zz) :: (numD xx) :: (numD one) :: undef :: undef :: undef :: undef :: undef :: undef :: undef :: undef :: undef :: undef :: undef :: undef :: undef :: undef :: undef :: undef :: undef :: undef :: undef :: undef :: undef :: undef :: undef :: undef :: undef :: undef :: undef :: undef :: undef :: undef :: undef :: undef :: undef :: undef :: undef :: undef :: undef :: undef :: undef :: undef :: undef :: undef :: undef :: undef :: undef :: undef :: undef :: undef :: undef :: undef :: undef :: undef :: undef :: undef :: undef :: undef :: undef :: undef :: undef :: undef :: undef :: undef :: undef :: undef :: undef :: undef :: undef :: undef :: undef :: undef :: undef :: undef :: undef :: undef :: undef :: undef :: undef :: undef :: undef :: undef :: undef :: []
def rMultVs4N (key : List UInt8) (ub : List UInt8) (g_base : Nat) (gu : Nat) (gr : Nat) (gx : Nat) (go : Nat) (kc : List UInt8) (xx : List Nat) (one : List Nat) (zz : List Nat) (n7 n8 n9 n10 : Nat) : List Value :=
  (hashVal key) :: (hashVal ub) :: (.pointer (some ⟨g_base, 0, none⟩)) :: (.pointer (some ⟨gu, 0, none⟩)) :: (.pointer (some ⟨gr, 0, none⟩)) :: (.pointer (some ⟨gx, 0, none⟩)) :: (.pointer (some ⟨go, 0, none⟩)) :: (.pointer (some ⟨n7, 0, none⟩)) :: (.pointer (some ⟨n8, 0, none⟩)) :: (.pointer (some ⟨n9, 0, none⟩)) :: (.pointer (some ⟨n10, 0, none⟩)) :: undef :: undef :: undef :: undef :: undef :: undef :: undef :: undef :: undef :: undef :: undef :: undef :: undef :: undef :: (hashVal key) :: (hashVal kc) :: (hashVal ub) :: (numD xx) :: (numD one) :: (numD one) :: (numD zz) :: (numD xx) :: (numD one) :: undef :: undef :: undef :: undef :: undef :: undef :: undef :: undef :: undef :: undef :: undef :: undef :: undef :: undef :: undef :: undef :: undef :: undef :: undef :: undef :: undef :: undef :: undef :: undef :: undef :: undef :: undef :: undef :: undef :: undef :: undef :: undef :: undef :: undef :: undef :: undef :: undef :: undef :: undef :: undef :: undef :: undef :: undef :: undef :: undef :: undef :: undef :: undef :: undef :: undef :: undef :: undef :: undef :: undef :: undef :: undef :: undef :: undef :: undef :: undef :: undef :: undef :: undef :: undef :: undef :: undef :: undef :: undef :: undef :: undef :: undef :: undef :: undef :: undef :: undef :: undef :: undef :: undef :: undef :: undef :: undef :: []
def rMultVs26_1 (key : List UInt8) (ub : List UInt8) (g_base : Nat) (gu : Nat) (gr : Nat) (gx : Nat) (go : Nat) (gi : Nat) (gj : Nat) (gm : Nat) (gn : Nat) (sv : Int) (k : Nat) (gva : Nat) (gvaa : Nat) (gvb : Nat) (gvbb : Nat) (gve : Nat) (gvc : Nat) (gvd : Nat) (gvda : Nat) (gvcb : Nat) (gvsu : Nat) (gvdi : Nat) (kc : List UInt8) (xx : List Nat) (one : List Nat) (zz : List Nat) (u36 : Value) (u37 : Value) (q : UInt8) (u50 : Value) (u51 : Value) (u52 : Value) (u53 : Value) (p2 : List Nat) (q2 : List Nat) (a1 : List Nat) (aa : List Nat) (b1 : List Nat) (bb : List Nat) (e1 : List Nat) (p3 : List Nat) (q3 : List Nat) (c1 : List Nat) (d1 : List Nat) (da : List Nat) (cb : List Nat) (su : List Nat) (di : List Nat) (n3 : List Nat) (dd : List Nat) (m3 : List Nat) (u96 : Value) (u97 : Value) (u98 : Value) (u99 : Value) (u100 : Value) (u101 : Value) (u102 : Value) (u103 : Value) (u104 : Value) (u105 : Value) : List Value :=
  (hashVal key) :: (hashVal ub) :: (.pointer (some ⟨g_base, 0, none⟩)) :: (.pointer (some ⟨gu, 0, none⟩)) :: (.pointer (some ⟨gr, 0, none⟩)) :: (.pointer (some ⟨gx, 0, none⟩)) :: (.pointer (some ⟨go, 0, none⟩)) :: (.pointer (some ⟨gi, 0, none⟩)) :: (.pointer (some ⟨gj, 0, none⟩)) :: (.pointer (some ⟨gm, 0, none⟩)) :: (.pointer (some ⟨gn, 0, none⟩)) :: (.int .u8 sv) :: (.int .i64 (k : Int)) :: (.int .u8 sv) :: (.pointer (some ⟨gva, 0, none⟩)) :: (.pointer (some ⟨gvaa, 0, none⟩)) :: (.pointer (some ⟨gvb, 0, none⟩)) :: (.pointer (some ⟨gvbb, 0, none⟩)) :: (.pointer (some ⟨gve, 0, none⟩)) :: (.pointer (some ⟨gvc, 0, none⟩)) :: (.pointer (some ⟨gvd, 0, none⟩)) :: (.pointer (some ⟨gvda, 0, none⟩)) :: (.pointer (some ⟨gvcb, 0, none⟩)) :: (.pointer (some ⟨gvsu, 0, none⟩)) :: (.pointer (some ⟨gvdi, 0, none⟩)) :: (hashVal key) :: (hashVal kc) :: (hashVal ub) :: (numD xx) :: (numD one) :: (numD one) :: (numD zz) :: (numD xx) :: (numD one) :: (.int .i64 (k : Int)) :: (.bool true) :: (u36) :: (u37) :: (.int .i64 (k : Int)) :: (.int .i64 ((k : Int) / 8)) :: (.pointer (some ⟨g_base, k / 8, none⟩)) :: (cellOf q) :: (.int .i64 (k : Int)) :: (.int .i64 ((k : Int) % 8)) :: (.int .u64 ((k : Int) % 8)) :: (.int .u8 ((q.toNat : Int) / 2 ^ (k % 8))) :: (.int .u8 sv) :: (.int .u8 sv) :: (.int .u8 sv) :: (.bool false) :: (u50) :: (u51) :: (u52) :: (u53) :: (.int .u8 sv) :: (numD p2) :: (numD q2) :: (numD a1) :: (numD a1) :: (numD a1) :: (numD aa) :: (numD p2) :: (numD q2) :: (numD b1) :: (numD b1) :: (numD b1) :: (numD bb) :: (numD aa) :: (numD bb) :: (numD e1) :: (numD p3) :: (numD q3) :: (numD c1) :: (numD p3) :: (numD q3) :: (numD d1) :: (numD d1) :: (numD a1) :: (numD da) :: (numD c1) :: (numD b1) :: (numD cb) :: (numD da) :: (numD cb) :: (numD su) :: (numD da) :: (numD cb) :: (numD di) :: (numD su) :: (numD su) :: (numD n3) :: (numD xx) :: (numD di) :: (numD di) :: (numD dd) :: (numD m3) :: (u96) :: (u97) :: (u98) :: (u99) :: (u100) :: (u101) :: (u102) :: (u103) :: (u104) :: (u105) :: undef :: undef :: undef :: undef :: undef :: undef :: undef :: undef :: undef :: []
def rMultVs28_2 (key : List UInt8) (ub : List UInt8) (g_base : Nat) (gu : Nat) (gr : Nat) (gx : Nat) (go : Nat) (gi : Nat) (gj : Nat) (gm : Nat) (gn : Nat) (sv : Int) (k : Nat) (gva : Nat) (gvaa : Nat) (gvb : Nat) (gvbb : Nat) (gve : Nat) (gvc : Nat) (gvd : Nat) (gvda : Nat) (gvcb : Nat) (gvsu : Nat) (gvdi : Nat) (kc : List UInt8) (xx : List Nat) (one : List Nat) (zz : List Nat) (u36 : Value) (u37 : Value) (q : UInt8) (u50 : Value) (u51 : Value) (u52 : Value) (u53 : Value) (p2 : List Nat) (q2 : List Nat) (a1 : List Nat) (aa : List Nat) (b1 : List Nat) (bb : List Nat) (e1 : List Nat) (p3 : List Nat) (q3 : List Nat) (c1 : List Nat) (d1 : List Nat) (da : List Nat) (cb : List Nat) (su : List Nat) (di : List Nat) (n3 : List Nat) (dd : List Nat) (m3 : List Nat) (n2 : List Nat) (qq : List Nat) (qe : List Nat) (ae : List Nat) (m2 : List Nat) : List Value :=
  (hashVal key) :: (hashVal ub) :: (.pointer (some ⟨g_base, 0, none⟩)) :: (.pointer (some ⟨gu, 0, none⟩)) :: (.pointer (some ⟨gr, 0, none⟩)) :: (.pointer (some ⟨gx, 0, none⟩)) :: (.pointer (some ⟨go, 0, none⟩)) :: (.pointer (some ⟨gi, 0, none⟩)) :: (.pointer (some ⟨gj, 0, none⟩)) :: (.pointer (some ⟨gm, 0, none⟩)) :: (.pointer (some ⟨gn, 0, none⟩)) :: (.int .u8 sv) :: (.int .i64 (k : Int)) :: (.int .u8 sv) :: (.pointer (some ⟨gva, 0, none⟩)) :: (.pointer (some ⟨gvaa, 0, none⟩)) :: (.pointer (some ⟨gvb, 0, none⟩)) :: (.pointer (some ⟨gvbb, 0, none⟩)) :: (.pointer (some ⟨gve, 0, none⟩)) :: (.pointer (some ⟨gvc, 0, none⟩)) :: (.pointer (some ⟨gvd, 0, none⟩)) :: (.pointer (some ⟨gvda, 0, none⟩)) :: (.pointer (some ⟨gvcb, 0, none⟩)) :: (.pointer (some ⟨gvsu, 0, none⟩)) :: (.pointer (some ⟨gvdi, 0, none⟩)) :: (hashVal key) :: (hashVal kc) :: (hashVal ub) :: (numD xx) :: (numD one) :: (numD one) :: (numD zz) :: (numD xx) :: (numD one) :: (.int .i64 (k : Int)) :: (.bool true) :: (u36) :: (u37) :: (.int .i64 (k : Int)) :: (.int .i64 ((k : Int) / 8)) :: (.pointer (some ⟨g_base, k / 8, none⟩)) :: (cellOf q) :: (.int .i64 (k : Int)) :: (.int .i64 ((k : Int) % 8)) :: (.int .u64 ((k : Int) % 8)) :: (.int .u8 ((q.toNat : Int) / 2 ^ (k % 8))) :: (.int .u8 sv) :: (.int .u8 sv) :: (.int .u8 sv) :: (.bool false) :: (u50) :: (u51) :: (u52) :: (u53) :: (.int .u8 sv) :: (numD p2) :: (numD q2) :: (numD a1) :: (numD a1) :: (numD a1) :: (numD aa) :: (numD p2) :: (numD q2) :: (numD b1) :: (numD b1) :: (numD b1) :: (numD bb) :: (numD aa) :: (numD bb) :: (numD e1) :: (numD p3) :: (numD q3) :: (numD c1) :: (numD p3) :: (numD q3) :: (numD d1) :: (numD d1) :: (numD a1) :: (numD da) :: (numD c1) :: (numD b1) :: (numD cb) :: (numD da) :: (numD cb) :: (numD su) :: (numD da) :: (numD cb) :: (numD di) :: (numD su) :: (numD su) :: (numD n3) :: (numD xx) :: (numD di) :: (numD di) :: (numD dd) :: (numD m3) :: (numD aa) :: (numD bb) :: (numD n2) :: (numD e1) :: (numD aa) :: (numD qq) :: (numD e1) :: (numD qe) :: (numD ae) :: (numD m2) :: undef :: undef :: undef :: undef :: undef :: undef :: undef :: undef :: undef :: []
def rMultVs26_3 (key : List UInt8) (ub : List UInt8) (g_base : Nat) (gu : Nat) (gr : Nat) (gx : Nat) (go : Nat) (gi : Nat) (gj : Nat) (gm : Nat) (gn : Nat) (bv : Int) (k : Nat) (gva : Nat) (gvaa : Nat) (gvb : Nat) (gvbb : Nat) (gve : Nat) (gvc : Nat) (gvd : Nat) (gvda : Nat) (gvcb : Nat) (gvsu : Nat) (gvdi : Nat) (kc : List UInt8) (xx : List Nat) (one : List Nat) (zz : List Nat) (u36 : Value) (u37 : Value) (q : UInt8) (sv : Int) (p2 : List Nat) (p3 : List Nat) (q2 : List Nat) (q3 : List Nat) (a1 : List Nat) (aa : List Nat) (b1 : List Nat) (bb : List Nat) (e1 : List Nat) (c1 : List Nat) (d1 : List Nat) (da : List Nat) (cb : List Nat) (su : List Nat) (di : List Nat) (n3 : List Nat) (dd : List Nat) (m3 : List Nat) (u96 : Value) (u97 : Value) (u98 : Value) (u99 : Value) (u100 : Value) (u101 : Value) (u102 : Value) (u103 : Value) (u104 : Value) (u105 : Value) : List Value :=
  (hashVal key) :: (hashVal ub) :: (.pointer (some ⟨g_base, 0, none⟩)) :: (.pointer (some ⟨gu, 0, none⟩)) :: (.pointer (some ⟨gr, 0, none⟩)) :: (.pointer (some ⟨gx, 0, none⟩)) :: (.pointer (some ⟨go, 0, none⟩)) :: (.pointer (some ⟨gi, 0, none⟩)) :: (.pointer (some ⟨gj, 0, none⟩)) :: (.pointer (some ⟨gm, 0, none⟩)) :: (.pointer (some ⟨gn, 0, none⟩)) :: (.int .u8 bv) :: (.int .i64 (k : Int)) :: (.int .u8 bv) :: (.pointer (some ⟨gva, 0, none⟩)) :: (.pointer (some ⟨gvaa, 0, none⟩)) :: (.pointer (some ⟨gvb, 0, none⟩)) :: (.pointer (some ⟨gvbb, 0, none⟩)) :: (.pointer (some ⟨gve, 0, none⟩)) :: (.pointer (some ⟨gvc, 0, none⟩)) :: (.pointer (some ⟨gvd, 0, none⟩)) :: (.pointer (some ⟨gvda, 0, none⟩)) :: (.pointer (some ⟨gvcb, 0, none⟩)) :: (.pointer (some ⟨gvsu, 0, none⟩)) :: (.pointer (some ⟨gvdi, 0, none⟩)) :: (hashVal key) :: (hashVal kc) :: (hashVal ub) :: (numD xx) :: (numD one) :: (numD one) :: (numD zz) :: (numD xx) :: (numD one) :: (.int .i64 (k : Int)) :: (.bool true) :: (u36) :: (u37) :: (.int .i64 (k : Int)) :: (.int .i64 ((k : Int) / 8)) :: (.pointer (some ⟨g_base, k / 8, none⟩)) :: (cellOf q) :: (.int .i64 (k : Int)) :: (.int .i64 ((k : Int) % 8)) :: (.int .u64 ((k : Int) % 8)) :: (.int .u8 ((q.toNat : Int) / 2 ^ (k % 8))) :: (.int .u8 bv) :: (.int .u8 sv) :: (.int .u8 bv) :: (.bool true) :: (numD p2) :: (numD p3) :: (numD q2) :: (numD q3) :: (.int .u8 bv) :: (numD p2) :: (numD q2) :: (numD a1) :: (numD a1) :: (numD a1) :: (numD aa) :: (numD p2) :: (numD q2) :: (numD b1) :: (numD b1) :: (numD b1) :: (numD bb) :: (numD aa) :: (numD bb) :: (numD e1) :: (numD p3) :: (numD q3) :: (numD c1) :: (numD p3) :: (numD q3) :: (numD d1) :: (numD d1) :: (numD a1) :: (numD da) :: (numD c1) :: (numD b1) :: (numD cb) :: (numD da) :: (numD cb) :: (numD su) :: (numD da) :: (numD cb) :: (numD di) :: (numD su) :: (numD su) :: (numD n3) :: (numD xx) :: (numD di) :: (numD di) :: (numD dd) :: (numD m3) :: (u96) :: (u97) :: (u98) :: (u99) :: (u100) :: (u101) :: (u102) :: (u103) :: (u104) :: (u105) :: undef :: undef :: undef :: undef :: undef :: undef :: undef :: undef :: undef :: []
def rMultVs28_4 (key : List UInt8) (ub : List UInt8) (g_base : Nat) (gu : Nat) (gr : Nat) (gx : Nat) (go : Nat) (gi : Nat) (gj : Nat) (gm : Nat) (gn : Nat) (bv : Int) (k : Nat) (gva : Nat) (gvaa : Nat) (gvb : Nat) (gvbb : Nat) (gve : Nat) (gvc : Nat) (gvd : Nat) (gvda : Nat) (gvcb : Nat) (gvsu : Nat) (gvdi : Nat) (kc : List UInt8) (xx : List Nat) (one : List Nat) (zz : List Nat) (u36 : Value) (u37 : Value) (q : UInt8) (sv : Int) (p2 : List Nat) (p3 : List Nat) (q2 : List Nat) (q3 : List Nat) (a1 : List Nat) (aa : List Nat) (b1 : List Nat) (bb : List Nat) (e1 : List Nat) (c1 : List Nat) (d1 : List Nat) (da : List Nat) (cb : List Nat) (su : List Nat) (di : List Nat) (n3 : List Nat) (dd : List Nat) (m3 : List Nat) (n2 : List Nat) (qq : List Nat) (qe : List Nat) (ae : List Nat) (m2 : List Nat) : List Value :=
  (hashVal key) :: (hashVal ub) :: (.pointer (some ⟨g_base, 0, none⟩)) :: (.pointer (some ⟨gu, 0, none⟩)) :: (.pointer (some ⟨gr, 0, none⟩)) :: (.pointer (some ⟨gx, 0, none⟩)) :: (.pointer (some ⟨go, 0, none⟩)) :: (.pointer (some ⟨gi, 0, none⟩)) :: (.pointer (some ⟨gj, 0, none⟩)) :: (.pointer (some ⟨gm, 0, none⟩)) :: (.pointer (some ⟨gn, 0, none⟩)) :: (.int .u8 bv) :: (.int .i64 (k : Int)) :: (.int .u8 bv) :: (.pointer (some ⟨gva, 0, none⟩)) :: (.pointer (some ⟨gvaa, 0, none⟩)) :: (.pointer (some ⟨gvb, 0, none⟩)) :: (.pointer (some ⟨gvbb, 0, none⟩)) :: (.pointer (some ⟨gve, 0, none⟩)) :: (.pointer (some ⟨gvc, 0, none⟩)) :: (.pointer (some ⟨gvd, 0, none⟩)) :: (.pointer (some ⟨gvda, 0, none⟩)) :: (.pointer (some ⟨gvcb, 0, none⟩)) :: (.pointer (some ⟨gvsu, 0, none⟩)) :: (.pointer (some ⟨gvdi, 0, none⟩)) :: (hashVal key) :: (hashVal kc) :: (hashVal ub) :: (numD xx) :: (numD one) :: (numD one) :: (numD zz) :: (numD xx) :: (numD one) :: (.int .i64 (k : Int)) :: (.bool true) :: (u36) :: (u37) :: (.int .i64 (k : Int)) :: (.int .i64 ((k : Int) / 8)) :: (.pointer (some ⟨g_base, k / 8, none⟩)) :: (cellOf q) :: (.int .i64 (k : Int)) :: (.int .i64 ((k : Int) % 8)) :: (.int .u64 ((k : Int) % 8)) :: (.int .u8 ((q.toNat : Int) / 2 ^ (k % 8))) :: (.int .u8 bv) :: (.int .u8 sv) :: (.int .u8 bv) :: (.bool true) :: (numD p2) :: (numD p3) :: (numD q2) :: (numD q3) :: (.int .u8 bv) :: (numD p2) :: (numD q2) :: (numD a1) :: (numD a1) :: (numD a1) :: (numD aa) :: (numD p2) :: (numD q2) :: (numD b1) :: (numD b1) :: (numD b1) :: (numD bb) :: (numD aa) :: (numD bb) :: (numD e1) :: (numD p3) :: (numD q3) :: (numD c1) :: (numD p3) :: (numD q3) :: (numD d1) :: (numD d1) :: (numD a1) :: (numD da) :: (numD c1) :: (numD b1) :: (numD cb) :: (numD da) :: (numD cb) :: (numD su) :: (numD da) :: (numD cb) :: (numD di) :: (numD su) :: (numD su) :: (numD n3) :: (numD xx) :: (numD di) :: (numD di) :: (numD dd) :: (numD m3) :: (numD aa) :: (numD bb) :: (numD n2) :: (numD e1) :: (numD aa) :: (numD qq) :: (numD e1) :: (numD qe) :: (numD ae) :: (numD m2) :: undef :: undef :: undef :: undef :: undef :: undef :: undef :: undef :: undef :: []
def rMultVs31_5 (key : List UInt8) (ub : List UInt8) (g_base : Nat) (gu : Nat) (gr : Nat) (gx : Nat) (go : Nat) (gi : Nat) (gj : Nat) (gm : Nat) (gn : Nat) (u13 : Value) (u14 : Value) (u15 : Value) (u16 : Value) (u17 : Value) (u18 : Value) (u19 : Value) (u20 : Value) (u21 : Value) (u22 : Value) (u23 : Value) (u24 : Value) (kc : List UInt8) (xx : List Nat) (one : List Nat) (zz : List Nat) (u36 : Value) (u37 : Value) (u38 : Value) (u39 : Value) (u40 : Value) (u41 : Value) (u42 : Value) (u43 : Value) (u44 : Value) (u45 : Value) (u46 : Value) (u47 : Value) (u48 : Value) (u49 : Value) (u50 : Value) (u51 : Value) (u52 : Value) (u53 : Value) (u54 : Value) (u55 : Value) (u56 : Value) (u57 : Value) (u58 : Value) (u59 : Value) (u60 : Value) (u61 : Value) (u62 : Value) (u63 : Value) (u64 : Value) (u65 : Value) (u66 : Value) (u67 : Value) (u68 : Value) (u69 : Value) (u70 : Value) (u71 : Value) (u72 : Value) (u73 : Value) (u74 : Value) (u75 : Value) (u76 : Value) (u77 : Value) (u78 : Value) (u79 : Value) (u80 : Value) (u81 : Value) (u82 : Value) (u83 : Value) (u84 : Value) (u85 : Value) (u86 : Value) (u87 : Value) (u88 : Value) (u89 : Value) (u90 : Value) (u91 : Value) (u92 : Value) (u93 : Value) (u94 : Value) (u95 : Value) (u96 : Value) (u97 : Value) (u98 : Value) (u99 : Value) (u100 : Value) (u101 : Value) (u102 : Value) (u103 : Value) (u104 : Value) (u105 : Value) (fx : List Nat) (fz : List Nat) (iv : List Nat) (pr : List Nat) (kb : List UInt8) : List Value :=
  (hashVal key) :: (hashVal ub) :: (.pointer (some ⟨g_base, 0, none⟩)) :: (.pointer (some ⟨gu, 0, none⟩)) :: (.pointer (some ⟨gr, 0, none⟩)) :: (.pointer (some ⟨gx, 0, none⟩)) :: (.pointer (some ⟨go, 0, none⟩)) :: (.pointer (some ⟨gi, 0, none⟩)) :: (.pointer (some ⟨gj, 0, none⟩)) :: (.pointer (some ⟨gm, 0, none⟩)) :: (.pointer (some ⟨gn, 0, none⟩)) :: (.int .u8 0) :: (.int .i64 (-1)) :: (u13) :: (u14) :: (u15) :: (u16) :: (u17) :: (u18) :: (u19) :: (u20) :: (u21) :: (u22) :: (u23) :: (u24) :: (hashVal key) :: (hashVal kc) :: (hashVal ub) :: (numD xx) :: (numD one) :: (numD one) :: (numD zz) :: (numD xx) :: (numD one) :: (.int .i64 (-1)) :: (.bool false) :: (u36) :: (u37) :: (u38) :: (u39) :: (u40) :: (u41) :: (u42) :: (u43) :: (u44) :: (u45) :: (u46) :: (u47) :: (u48) :: (u49) :: (u50) :: (u51) :: (u52) :: (u53) :: (u54) :: (u55) :: (u56) :: (u57) :: (u58) :: (u59) :: (u60) :: (u61) :: (u62) :: (u63) :: (u64) :: (u65) :: (u66) :: (u67) :: (u68) :: (u69) :: (u70) :: (u71) :: (u72) :: (u73) :: (u74) :: (u75) :: (u76) :: (u77) :: (u78) :: (u79) :: (u80) :: (u81) :: (u82) :: (u83) :: (u84) :: (u85) :: (u86) :: (u87) :: (u88) :: (u89) :: (u90) :: (u91) :: (u92) :: (u93) :: (u94) :: (u95) :: (u96) :: (u97) :: (u98) :: (u99) :: (u100) :: (u101) :: (u102) :: (u103) :: (u104) :: (u105) :: (.int .u8 0) :: (.bool false) :: undef :: undef :: (numD fx) :: (numD fz) :: (numD iv) :: (numD pr) :: (hashVal kb) :: []
def rMultVs31_6 (key : List UInt8) (ub : List UInt8) (g_base : Nat) (gu : Nat) (gr : Nat) (gx : Nat) (go : Nat) (gi : Nat) (gj : Nat) (gm : Nat) (gn : Nat) (u13 : Value) (u14 : Value) (u15 : Value) (u16 : Value) (u17 : Value) (u18 : Value) (u19 : Value) (u20 : Value) (u21 : Value) (u22 : Value) (u23 : Value) (u24 : Value) (kc : List UInt8) (xx : List Nat) (one : List Nat) (zz : List Nat) (u36 : Value) (u37 : Value) (u38 : Value) (u39 : Value) (u40 : Value) (u41 : Value) (u42 : Value) (u43 : Value) (u44 : Value) (u45 : Value) (u46 : Value) (u47 : Value) (u48 : Value) (u49 : Value) (u50 : Value) (u51 : Value) (u52 : Value) (u53 : Value) (u54 : Value) (u55 : Value) (u56 : Value) (u57 : Value) (u58 : Value) (u59 : Value) (u60 : Value) (u61 : Value) (u62 : Value) (u63 : Value) (u64 : Value) (u65 : Value) (u66 : Value) (u67 : Value) (u68 : Value) (u69 : Value) (u70 : Value) (u71 : Value) (u72 : Value) (u73 : Value) (u74 : Value) (u75 : Value) (u76 : Value) (u77 : Value) (u78 : Value) (u79 : Value) (u80 : Value) (u81 : Value) (u82 : Value) (u83 : Value) (u84 : Value) (u85 : Value) (u86 : Value) (u87 : Value) (u88 : Value) (u89 : Value) (u90 : Value) (u91 : Value) (u92 : Value) (u93 : Value) (u94 : Value) (u95 : Value) (u96 : Value) (u97 : Value) (u98 : Value) (u99 : Value) (u100 : Value) (u101 : Value) (u102 : Value) (u103 : Value) (u104 : Value) (u105 : Value) (fx : List Nat) (fz : List Nat) (iv : List Nat) (pr : List Nat) (kb : List UInt8) : List Value :=
  (hashVal key) :: (hashVal ub) :: (.pointer (some ⟨g_base, 0, none⟩)) :: (.pointer (some ⟨gu, 0, none⟩)) :: (.pointer (some ⟨gr, 0, none⟩)) :: (.pointer (some ⟨gx, 0, none⟩)) :: (.pointer (some ⟨go, 0, none⟩)) :: (.pointer (some ⟨gi, 0, none⟩)) :: (.pointer (some ⟨gj, 0, none⟩)) :: (.pointer (some ⟨gm, 0, none⟩)) :: (.pointer (some ⟨gn, 0, none⟩)) :: (.int .u8 1) :: (.int .i64 (-1)) :: (u13) :: (u14) :: (u15) :: (u16) :: (u17) :: (u18) :: (u19) :: (u20) :: (u21) :: (u22) :: (u23) :: (u24) :: (hashVal key) :: (hashVal kc) :: (hashVal ub) :: (numD xx) :: (numD one) :: (numD one) :: (numD zz) :: (numD xx) :: (numD one) :: (.int .i64 (-1)) :: (.bool false) :: (u36) :: (u37) :: (u38) :: (u39) :: (u40) :: (u41) :: (u42) :: (u43) :: (u44) :: (u45) :: (u46) :: (u47) :: (u48) :: (u49) :: (u50) :: (u51) :: (u52) :: (u53) :: (u54) :: (u55) :: (u56) :: (u57) :: (u58) :: (u59) :: (u60) :: (u61) :: (u62) :: (u63) :: (u64) :: (u65) :: (u66) :: (u67) :: (u68) :: (u69) :: (u70) :: (u71) :: (u72) :: (u73) :: (u74) :: (u75) :: (u76) :: (u77) :: (u78) :: (u79) :: (u80) :: (u81) :: (u82) :: (u83) :: (u84) :: (u85) :: (u86) :: (u87) :: (u88) :: (u89) :: (u90) :: (u91) :: (u92) :: (u93) :: (u94) :: (u95) :: (u96) :: (u97) :: (u98) :: (u99) :: (u100) :: (u101) :: (u102) :: (u103) :: (u104) :: (u105) :: (.int .u8 1) :: (.bool true) :: (numD fx) :: (numD fz) :: (numD fx) :: (numD fz) :: (numD iv) :: (numD pr) :: (hashVal kb) :: []
set_option maxRecDepth 100000 in
set_option maxHeartbeats 8000000 in
theorem refMult_over (key ub kc kb : List UInt8) (xx one zz qq fx fz x3 z3 iv pr : List Nat) (X Z Y V : Nat → List Nat) (S : Nat → Int) (w : World)
    (Hkey : Hid (key.length = 32))
    (Hub : Hid (ub.length = 32))
    (Hkc : Hid (kc.length = 32))
    (Hkb : Hid (kb.length = 32))
    (Hxx : Hid (xx.length = 8))
    (Hone : Hid (one.length = 8))
    (Hzz : Hid (zz.length = 8))
    (HS : Hid (S 255 = 0))
    (HX : Hid (X 255 = one))
    (HZ : Hid (Z 255 = zz))
    (HY : Hid (Y 255 = xx))
    (HV : Hid (V 255 = one))
    (HR : Hid (∀ k : Nat, k < 255 → ∃ (p2 q2 p3 q3 a1 aa b1 bb e1 c1 d1 da cb su di n3 dd m3 n2 qe ae m2 : List Nat) (c : Bool), (p2.length = 8 ∧ q2.length = 8 ∧ p3.length = 8 ∧ q3.length = 8 ∧ a1.length = 8 ∧ aa.length = 8 ∧ b1.length = 8 ∧ bb.length = 8 ∧ e1.length = 8 ∧ c1.length = 8 ∧ d1.length = 8 ∧ da.length = 8 ∧ cb.length = 8 ∧ su.length = 8 ∧ di.length = 8 ∧ n3.length = 8 ∧ dd.length = 8 ∧ m3.length = 8 ∧ n2.length = 8 ∧ qe.length = 8 ∧ ae.length = 8 ∧ m2.length = 8) ∧ (c = false → S (k + 1) = S k ∧ X (k + 1) = p2 ∧ Z (k + 1) = q2 ∧ Y (k + 1) = p3 ∧ V (k + 1) = q3) ∧ (c = true → ¬ S (k + 1) = S k ∧ X (k + 1) = p3 ∧ Z (k + 1) = q3 ∧ Y (k + 1) = p2 ∧ V (k + 1) = q2) ∧ (∀ W, Calls Tryd.prog 16 #[numD p2, numD q2] W fun e w' => e = .returned (numD a1) ∧ Below W.heap.size W w') ∧ (∀ W, Calls Tryd.prog 17 #[numD a1, numD a1] W fun e w' => e = .returned (numD aa) ∧ Below W.heap.size W w') ∧ (∀ W, Calls Tryd.prog 18 #[numD p2, numD q2] W fun e w' => e = .returned (numD b1) ∧ Below W.heap.size W w') ∧ (∀ W, Calls Tryd.prog 17 #[numD b1, numD b1] W fun e w' => e = .returned (numD bb) ∧ Below W.heap.size W w') ∧ (∀ W, Calls Tryd.prog 18 #[numD aa, numD bb] W fun e w' => e = .returned (numD e1) ∧ Below W.heap.size W w') ∧ (∀ W, Calls Tryd.prog 16 #[numD p3, numD q3] W fun e w' => e = .returned (numD c1) ∧ Below W.heap.size W w') ∧ (∀ W, Calls Tryd.prog 18 #[numD p3, numD q3] W fun e w' => e = .returned (numD d1) ∧ Below W.heap.size W w') ∧ (∀ W, Calls Tryd.prog 17 #[numD d1, numD a1] W fun e w' => e = .returned (numD da) ∧ Below W.heap.size W w') ∧ (∀ W, Calls Tryd.prog 17 #[numD c1, numD b1] W fun e w' => e = .returned (numD cb) ∧ Below W.heap.size W w') ∧ (∀ W, Calls Tryd.prog 16 #[numD da, numD cb] W fun e w' => e = .returned (numD su) ∧ Below W.heap.size W w') ∧ (∀ W, Calls Tryd.prog 18 #[numD da, numD cb] W fun e w' => e = .returned (numD di) ∧ Below W.heap.size W w') ∧ (∀ W, Calls Tryd.prog 17 #[numD su, numD su] W fun e w' => e = .returned (numD n3) ∧ Below W.heap.size W w') ∧ (∀ W, Calls Tryd.prog 17 #[numD di, numD di] W fun e w' => e = .returned (numD dd) ∧ Below W.heap.size W w') ∧ (∀ W, Calls Tryd.prog 17 #[numD xx, numD dd] W fun e w' => e = .returned (numD m3) ∧ Below W.heap.size W w') ∧ (∀ W, Calls Tryd.prog 17 #[numD aa, numD bb] W fun e w' => e = .returned (numD n2) ∧ Below W.heap.size W w') ∧ (∀ W, Calls Tryd.prog 17 #[numD qq, numD e1] W fun e w' => e = .returned (numD qe) ∧ Below W.heap.size W w') ∧ (∀ W, Calls Tryd.prog 16 #[numD aa, numD qe] W fun e w' => e = .returned (numD ae) ∧ Below W.heap.size W w') ∧ (∀ W, Calls Tryd.prog 17 #[numD e1, numD ae] W fun e w' => e = .returned (numD m2) ∧ Below W.heap.size W w') ∧ X k = n2 ∧ Z k = m2 ∧ Y k = n3 ∧ V k = m3 ∧ ∃ q : UInt8, (kc.map cellOf)[k / 8]? = some (cellOf q) ∧ bits .and .u8 ((q.toNat : Int) / 2 ^ (k % 8)) 1 = S k))
    (HE : Hid (∃ c : Bool, (fx.length = 8 ∧ fz.length = 8 ∧ x3.length = 8 ∧ z3.length = 8) ∧ (c = false → S 0 = 0 ∧ X 0 = fx ∧ Z 0 = fz ∧ Y 0 = x3 ∧ V 0 = z3) ∧ (c = true → S 0 = 1 ∧ X 0 = x3 ∧ Z 0 = z3 ∧ Y 0 = fx ∧ V 0 = fz)))
    (CC : Hid (∀ W, Calls Tryd.prog 11 #[hashVal key] W fun e w' => e = .returned (hashVal kc) ∧ Below W.heap.size W w'))
    (CX : Hid (∀ W, Calls Tryd.prog 15 #[hashVal ub] W fun e w' => e = .returned (numD xx) ∧ Below W.heap.size W w'))
    (B1 : ∀ w, (Instr.build 38 #[(0, dcell 1)]).run Tryd.prog w = .ok (numD one) w)
    (B0 : ∀ w, (Instr.build 38 #[]).run Tryd.prog w = .ok (numD zz) w)
    (BQ : ∀ w, (Instr.build 38 #[(0, dcell 121665)]).run Tryd.prog w = .ok (numD qq) w)
    (CI : Hid (∀ W, Calls Tryd.prog 20 #[numD fz] W fun e w' => e = .returned (numD iv) ∧ Below W.heap.size W w'))
    (CT : Hid (∀ W, Calls Tryd.prog 17 #[numD fx, numD iv] W fun e w' => e = .returned (numD pr) ∧ Below W.heap.size W w'))
    (CE : Hid (∀ W, Calls Tryd.prog 19 #[numD pr] W fun e w' => e = .returned (hashVal kb) ∧ Below W.heap.size W w')) :
    Calls Tryd.prog 7 #[hashVal key, hashVal ub] w fun e w' => e = .returned (hashVal kb) ∧ Below w.heap.size w w' := by
  go_enter Tryd.func7, Tryd.ntmps7
  go_wp2_with (first
    | (refine vtake_step rfl 22 (.tmp 0) rfl (key.map cellOf) rfl ?_
       intro w1 hb1 hvk1
       have hB1 := hb1
       have hgek : w.heap.size ≤ w.heap.size := Nat.le_refl _
       clear  hb1
       try simp only [Act.put, List.setIfInBounds_toArray, List.set_cons_zero, List.set_cons_succ]
       skip)
    | (refine vtake_step rfl 22 (.tmp 1) rfl (ub.map cellOf) rfl ?_
       intro w2 hb2 hvu2
       have hB2 := below_then hB1 hb2
       have hgeu : w.heap.size ≤ w1.heap.size := hB1.size
       have hvk2 := hvk1.on hb2
       have hneku := Nat.ne_of_lt hvk1.lt
       clear hB1 hvk1 hb2
       try simp only [Act.put, List.setIfInBounds_toArray, List.set_cons_zero, List.set_cons_succ]
       skip)
    | (refine vzero_step (o := ⟨some 4, _, _, _, _, _⟩) rfl 22 rfl kzeros zero_b32 ?_
       intro w3 hb3 hvr3
       have hB3 := below_then hB2 hb3
       have hger : w.heap.size ≤ w2.heap.size := hB2.size
       have hvk3 := hvk2.on hb3
       have hnekr := Nat.ne_of_lt hvk2.lt
       have hvu3 := hvu2.on hb3
       have hneur := Nat.ne_of_lt hvu2.lt
       clear hB2 hvk2 hvu2 hb3
       try simp only [Act.put, List.setIfInBounds_toArray, List.set_cons_zero, List.set_cons_succ]
       skip)
    | (refine sget_step rfl 22 (.tmp 2) rfl w.heap.size 32 (key.map cellOf) rfl hvk3 Tryd.underlying22 rfl size_b32 (by rw [List.length_map, Hkey.out]) ?_
       try simp only [Act.put, List.setIfInBounds_toArray, List.set_cons_zero, List.set_cons_succ]
       skip))
  generalize hqu : w1.heap.size = gu at *
  clear hqu
  generalize hqr : w2.heap.size = gr at *
  clear hqr
  refine (CC.out w3).mono ?_
  rintro e w4 ⟨rfl, hb4⟩
  have hB4 := below_then hB3 hb4
  have hvk4 := hvk3.on hb4
  have hvu4 := hvu3.on hb4
  have hvr4 := hvr3.on hb4
  clear hB3 hvk3 hvu3 hvr3 hb4
  go_wp2_with (first
    | (refine vset_step rfl 22 (.tmp 2) (.tmp 26) rfl w.heap.size 32 (key.map cellOf) (kc.map cellOf) rfl rfl hvk4 (by rw [List.length_map, Hkey.out]) size_b32 (by rw [List.length_map, Hkc.out]) (kcells_one _) ?_
       intro w5 hb5 hvk5 hz5
       have hB5 : Below w.heap.size w w5 := hB4.trans (hb5.below hgek hB4.size)
       have hvu5 := hvu4.but hb5 (Ne.symm hneku)
       have hvr5 := hvr4.but hb5 (Ne.symm hnekr)
       clear hB4 hvk4 hb5 hz5 hvu4 hvr4
       skip)
    | (refine sget_step rfl 22 (.tmp 3) rfl gu 32 (ub.map cellOf) rfl hvu5 Tryd.underlying22 rfl size_b32 (by rw [List.length_map, Hub.out]) ?_
       try simp only [Act.put, List.setIfInBounds_toArray, List.set_cons_zero, List.set_cons_succ]
       skip))
  refine (CX.out w5).mono ?_
  rintro e w6 ⟨rfl, hb6⟩
  have hB6 := below_then hB5 hb6
  have hvk6 := hvk5.on hb6
  have hvu6 := hvu5.on hb6
  have hvr6 := hvr5.on hb6
  clear hB5 hvk5 hvu5 hvr5 hb6
  go_wp2_with (first
    | (refine vput_step rfl rfl 38 (.tmp 5) (.tmp 28) rfl rfl 8 (dzeros 8) (xx.map dcell) rfl rfl zero_ND rfl size_ND (by rw [List.length_map, Hxx.out]) (dcells_one _) ?_
       intro w7 hb7 hvx7
       have hB7 := below_then hB6 hb7
       have hgex : w.heap.size ≤ w6.heap.size := hB6.size
       have hvk7 := hvk6.on hb7
       have hnekx := Nat.ne_of_lt hvk6.lt
       have hvu7 := hvu6.on hb7
       have hneux := Nat.ne_of_lt hvu6.lt
       have hvr7 := hvr6.on hb7
       have hnerx := Nat.ne_of_lt hvr6.lt
       clear hB6 hvk6 hvu6 hvr6 hb7
       try simp only [Act.put, List.setIfInBounds_toArray, List.set_cons_zero, List.set_cons_succ]
       skip)
    | (refine build_step rfl 38 _ rfl [(0, dcell 1)] rfl _ B1 ?_
       try simp only [Act.put, List.setIfInBounds_toArray, List.set_cons_zero, List.set_cons_succ]
       skip)
    | (refine vput_step rfl rfl 38 (.tmp 6) (.tmp 29) rfl rfl 8 (dzeros 8) (one.map dcell) rfl rfl zero_ND rfl size_ND (by rw [List.length_map, Hone.out]) (dcells_one _) ?_
       intro w8 hb8 hvo8
       have hB8 := below_then hB7 hb8
       have hgeo : w.heap.size ≤ w7.heap.size := hB7.size
       have hvk8 := hvk7.on hb8
       have hneko := Nat.ne_of_lt hvk7.lt
       have hvu8 := hvu7.on hb8
       have hneuo := Nat.ne_of_lt hvu7.lt
       have hvr8 := hvr7.on hb8
       have hnero := Nat.ne_of_lt hvr7.lt
       have hvx8 := hvx7.on hb8
       have hnexo := Nat.ne_of_lt hvx7.lt
       clear hB7 hvk7 hvu7 hvr7 hvx7 hb8
       try simp only [Act.put, List.setIfInBounds_toArray, List.set_cons_zero, List.set_cons_succ]
       skip))
  generalize hqx : w6.heap.size = gx at *
  clear hqx
  generalize hqo : w7.heap.size = go at *
  clear hqo
  replace hvk8 := hvk8.drew
  replace hvu8 := hvu8.drew
  replace hvr8 := hvr8.drew
  replace hvx8 := hvx8.drew
  replace hvo8 := hvo8.drew
  refine wp_region_any (by kernel_rfl) ?_
  refine wpAny_flatS (L := [0, 1, 2, 3, 4, 5, 6, 7, 8, 9, 10, 11]) (by kernel_rfl) _ _ (rMultVs4 key ub w.heap.size gu gr gx go kc xx one zz) [(4, 7), (5, 8), (6, 9), (7, 10)] (fun _ => 38) (fun _ => (dzeros 8)) (fun s => bif s == 7 then some (8, one.map dcell) else bif s == 8 then some (9, zz.map dcell) else bif s == 9 then some (10, xx.map dcell) else bif s == 10 then some (11, one.map dcell) else none) [0, 1, 2, 3, 4, 5, 6, 11, 12, 13, 14, 15, 16, 17, 18, 19, 20, 21, 22, 23, 24, 25, 26, 27, 28, 29, 34, 35, 36, 37, 38, 39, 40, 41, 42, 43, 44, 45, 46, 47, 48, 49, 50, 51, 52, 53, 54, 55, 56, 57, 58, 59, 60, 61, 62, 63, 64, 65, 66, 67, 68, 69, 70, 71, 72, 73, 74, 75, 76, 77, 78, 79, 80, 81, 82, 83, 84, 85, 86, 87, 88, 89, 90, 91, 92, 93, 94, 95, 96, 97, 98, 99, 100, 101, 102, 103, 104, 105, 106, 107, 108, 109, 110, 111, 112, 113, 114] (by kernel_rfl) (by kernel_rfl) ?_ (fun _ _ => zero_ND) ?_ ?_ ?_ (by rfl) ?_ 0 (by kernel_rfl) ?_
  · intro p hp
    rcases List.mem_cons.1 hp with rfl | hp
    · exact ⟨⟨_, rfl, rfl, rfl, rfl, by kernel_rfl, by kernel_rfl⟩⟩
    rcases List.mem_cons.1 hp with rfl | hp
    · exact ⟨⟨_, rfl, rfl, rfl, rfl, by kernel_rfl, by kernel_rfl⟩⟩
    rcases List.mem_cons.1 hp with rfl | hp
    · exact ⟨⟨_, rfl, rfl, rfl, rfl, by kernel_rfl, by kernel_rfl⟩⟩
    rcases List.mem_cons.1 hp with rfl | hp
    · exact ⟨⟨_, rfl, rfl, rfl, rfl, by kernel_rfl, by kernel_rfl⟩⟩
    exact absurd hp List.not_mem_nil
  · intro p hp j l h
    rcases List.mem_cons.1 hp with rfl | hp
    · change some (8, one.map dcell) = some (j, l) at h
      cases h
      exact ⟨⟨_, 30, rfl, rfl, rfl, rfl, by kernel_rfl, by kernel_rfl, by kernel_rfl, rfl, by rw [List.length_map, Hone.out]; exact size_ND, by rw [List.length_map, Hone.out]; rfl, dcells_one _⟩, by decide⟩
    rcases List.mem_cons.1 hp with rfl | hp
    · change some (9, zz.map dcell) = some (j, l) at h
      cases h
      exact ⟨⟨_, 31, rfl, rfl, rfl, rfl, by kernel_rfl, by kernel_rfl, by kernel_rfl, rfl, by rw [List.length_map, Hzz.out]; exact size_ND, by rw [List.length_map, Hzz.out]; rfl, dcells_one _⟩, by decide⟩
    rcases List.mem_cons.1 hp with rfl | hp
    · change some (10, xx.map dcell) = some (j, l) at h
      cases h
      exact ⟨⟨_, 32, rfl, rfl, rfl, rfl, by kernel_rfl, by kernel_rfl, by kernel_rfl, rfl, by rw [List.length_map, Hxx.out]; exact size_ND, by rw [List.length_map, Hxx.out]; rfl, dcells_one _⟩, by decide⟩
    rcases List.mem_cons.1 hp with rfl | hp
    · change some (11, one.map dcell) = some (j, l) at h
      cases h
      exact ⟨⟨_, 33, rfl, rfl, rfl, rfl, by kernel_rfl, by kernel_rfl, by kernel_rfl, rfl, by rw [List.length_map, Hone.out]; exact size_ND, by rw [List.length_map, Hone.out]; rfl, dcells_one _⟩, by decide⟩
    exact absurd hp List.not_mem_nil
  · intro p hp q hq j l l2 h1 h2
    rcases List.mem_cons.1 hp with rfl | hp
    · rcases List.mem_cons.1 hq with rfl | hq
      · rfl
      rcases List.mem_cons.1 hq with rfl | hq
      · change some (8, _) = some (j, l) at h1
        change some (9, _) = some (j, l2) at h2
        exact absurd ((Prod.mk.inj (Option.some.inj h1)).1.trans (Prod.mk.inj (Option.some.inj h2)).1.symm) (by decide)
      rcases List.mem_cons.1 hq with rfl | hq
      · change some (8, _) = some (j, l) at h1
        change some (10, _) = some (j, l2) at h2
        exact absurd ((Prod.mk.inj (Option.some.inj h1)).1.trans (Prod.mk.inj (Option.some.inj h2)).1.symm) (by decide)
      rcases List.mem_cons.1 hq with rfl | hq
      · change some (8, _) = some (j, l) at h1
        change some (11, _) = some (j, l2) at h2
        exact absurd ((Prod.mk.inj (Option.some.inj h1)).1.trans (Prod.mk.inj (Option.some.inj h2)).1.symm) (by decide)
      exact absurd hq List.not_mem_nil
    rcases List.mem_cons.1 hp with rfl | hp
    · rcases List.mem_cons.1 hq with rfl | hq
      · change some (9, _) = some (j, l) at h1
        change some (8, _) = some (j, l2) at h2
        exact absurd ((Prod.mk.inj (Option.some.inj h1)).1.trans (Prod.mk.inj (Option.some.inj h2)).1.symm) (by decide)
      rcases List.mem_cons.1 hq with rfl | hq
      · rfl
      rcases List.mem_cons.1 hq with rfl | hq
      · change some (9, _) = some (j, l) at h1
        change some (10, _) = some (j, l2) at h2
        exact absurd ((Prod.mk.inj (Option.some.inj h1)).1.trans (Prod.mk.inj (Option.some.inj h2)).1.symm) (by decide)
      rcases List.mem_cons.1 hq with rfl | hq
      · change some (9, _) = some (j, l) at h1
        change some (11, _) = some (j, l2) at h2
        exact absurd ((Prod.mk.inj (Option.some.inj h1)).1.trans (Prod.mk.inj (Option.some.inj h2)).1.symm) (by decide)
      exact absurd hq List.not_mem_nil
    rcases List.mem_cons.1 hp with rfl | hp
    · rcases List.mem_cons.1 hq with rfl | hq
      · change some (10, _) = some (j, l) at h1
        change some (8, _) = some (j, l2) at h2
        exact absurd ((Prod.mk.inj (Option.some.inj h1)).1.trans (Prod.mk.inj (Option.some.inj h2)).1.symm) (by decide)
      rcases List.mem_cons.1 hq with rfl | hq
      · change some (10, _) = some (j, l) at h1
        change some (9, _) = some (j, l2) at h2
        exact absurd ((Prod.mk.inj (Option.some.inj h1)).1.trans (Prod.mk.inj (Option.some.inj h2)).1.symm) (by decide)
      rcases List.mem_cons.1 hq with rfl | hq
      · rfl
      rcases List.mem_cons.1 hq with rfl | hq
      · change some (10, _) = some (j, l) at h1
        change some (11, _) = some (j, l2) at h2
        exact absurd ((Prod.mk.inj (Option.some.inj h1)).1.trans (Prod.mk.inj (Option.some.inj h2)).1.symm) (by decide)
      exact absurd hq List.not_mem_nil
    rcases List.mem_cons.1 hp with rfl | hp
    · rcases List.mem_cons.1 hq with rfl | hq
      · change some (11, _) = some (j, l) at h1
        change some (8, _) = some (j, l2) at h2
        exact absurd ((Prod.mk.inj (Option.some.inj h1)).1.trans (Prod.mk.inj (Option.some.inj h2)).1.symm) (by decide)
      rcases List.mem_cons.1 hq with rfl | hq
      · change some (11, _) = some (j, l) at h1
        change some (9, _) = some (j, l2) at h2
        exact absurd ((Prod.mk.inj (Option.some.inj h1)).1.trans (Prod.mk.inj (Option.some.inj h2)).1.symm) (by decide)
      rcases List.mem_cons.1 hq with rfl | hq
      · change some (11, _) = some (j, l) at h1
        change some (10, _) = some (j, l2) at h2
        exact absurd ((Prod.mk.inj (Option.some.inj h1)).1.trans (Prod.mk.inj (Option.some.inj h2)).1.symm) (by decide)
      rcases List.mem_cons.1 hq with rfl | hq
      · rfl
      exact absurd hq List.not_mem_nil
    exact absurd hp List.not_mem_nil
  · exact all_cons rfl (all_cons rfl (all_cons rfl (all_cons rfl (all_cons rfl (all_cons rfl (all_cons rfl (all_cons rfl (all_cons rfl (all_cons rfl (all_cons rfl (all_cons rfl (all_cons rfl (all_cons rfl (all_cons rfl (all_cons rfl (all_cons rfl (all_cons rfl (all_cons rfl (all_cons rfl (all_cons rfl (all_cons rfl (all_cons rfl (all_cons rfl (all_cons rfl (all_cons rfl (all_cons rfl (all_cons rfl (all_cons rfl (all_cons rfl (all_cons rfl (all_cons rfl (all_cons rfl (all_cons rfl (all_cons rfl (all_cons rfl (all_cons rfl (all_cons rfl (all_cons rfl (all_cons rfl (all_cons rfl (all_cons rfl (all_cons rfl (all_cons rfl (all_cons rfl (all_cons rfl (all_cons rfl (all_cons rfl (all_cons rfl (all_cons rfl (all_cons rfl (all_cons rfl (all_cons rfl (all_cons rfl (all_cons rfl (all_cons rfl (all_cons rfl (all_cons rfl (all_cons rfl (all_cons rfl (all_cons rfl (all_cons rfl (all_cons rfl (all_cons rfl (all_cons rfl (all_cons rfl (all_cons rfl (all_cons rfl (all_cons rfl (all_cons rfl (all_cons rfl (all_cons rfl (all_cons rfl (all_cons rfl (all_cons rfl (all_cons rfl (all_cons rfl (all_cons rfl (all_cons rfl (all_cons rfl (all_cons rfl (all_cons rfl (all_cons rfl (all_cons rfl (all_cons rfl (all_cons rfl (all_cons rfl (all_cons rfl (all_cons rfl (all_cons rfl (all_cons rfl (all_cons rfl (all_cons rfl (all_cons rfl (all_cons rfl (all_cons rfl (all_cons rfl (all_cons rfl (all_cons rfl (all_cons rfl (all_cons rfl (all_cons rfl (all_cons rfl (all_cons rfl (all_cons rfl (all_cons rfl (all_cons rfl (all_nil)))))))))))))))))))))))))))))))))))))))))))))))))))))))))))))))))))))))))))))))))))))))))))))))))))))))))))
  · refine all_cons (.inr (.inl (mStep _ 30 rfl rfl rfl rfl (by kernel_rfl) (fun a hv => wanted_all rfl _) (fun a w K hb hv hK => mPure (numD one) (exec_load _ _ _ _ rfl _ _ (hv 6 (by kernel_rfl) rfl) w (num_run (hvo8.on hb) Hone.out)) hK)))) ?_
    refine all_cons (.inr (.inl (mStep _ 31 rfl rfl rfl rfl (by kernel_rfl) (fun a hv => wanted_all rfl _) (fun a w K hb hv hK => mPure (numD zz) (exec_build _ _ _ [] rfl [] rfl _ w (B0 w)) hK)))) ?_
    refine all_cons (.inr (.inl (mStep _ 32 rfl rfl rfl rfl (by kernel_rfl) (fun a hv => wanted_all rfl _) (fun a w K hb hv hK => mPure (numD xx) (exec_load _ _ _ _ rfl _ _ (hv 5 (by kernel_rfl) rfl) w (num_run (hvx8.on hb) Hxx.out)) hK)))) ?_
    refine all_cons (.inr (.inl (mStep _ 33 rfl rfl rfl rfl (by kernel_rfl) (fun a hv => wanted_all rfl _) (fun a w K hb hv hK => mPure (numD one) (exec_load _ _ _ _ rfl _ _ (hv 6 (by kernel_rfl) rfl) w (num_run (hvo8.on hb) Hone.out)) hK)))) ?_
    refine all_cons (.inl ⟨(4, 7), by simp, rfl⟩) ?_
    refine all_cons (.inl ⟨(5, 8), by simp, rfl⟩) ?_
    refine all_cons (.inl ⟨(6, 9), by simp, rfl⟩) ?_
    refine all_cons (.inl ⟨(7, 10), by simp, rfl⟩) ?_
    refine all_cons (.inr (.inr ⟨(4, 7), by simp, _, rfl⟩)) ?_
    refine all_cons (.inr (.inr ⟨(5, 8), by simp, _, rfl⟩)) ?_
    refine all_cons (.inr (.inr ⟨(6, 9), by simp, _, rfl⟩)) ?_
    refine all_cons (.inr (.inr ⟨(7, 10), by simp, _, rfl⟩)) ?_
    exact all_nil
  intro w9 g hb9 hN9 hap9
  obtain ⟨hgei, hvi9⟩ := hN9 (4, 7) (by simp)
  obtain ⟨hgej, hvj9⟩ := hN9 (5, 8) (by simp)
  obtain ⟨hgem, hvm9⟩ := hN9 (6, 9) (by simp)
  obtain ⟨hgen, hvn9⟩ := hN9 (7, 10) (by simp)
  have hneij := hap9 (4, 7) (by simp) (5, 8) (by simp) (by decide)
  have hneim := hap9 (4, 7) (by simp) (6, 9) (by simp) (by decide)
  have hnein := hap9 (4, 7) (by simp) (7, 10) (by simp) (by decide)
  have hnejm := hap9 (5, 8) (by simp) (6, 9) (by simp) (by decide)
  have hnejn := hap9 (5, 8) (by simp) (7, 10) (by simp) (by decide)
  have hnemn := hap9 (6, 9) (by simp) (7, 10) (by simp) (by decide)
  clear hN9 hap9
  have hB9 := below_then (show Below w.heap.size w w8.drew from hB8.drew) hb9
  have hltk : w.heap.size < w8.heap.size := hvk8.lt
  have hltu : gu < w8.heap.size := hvu8.lt
  have hltr : gr < w8.heap.size := hvr8.lt
  have hltx : gx < w8.heap.size := hvx8.lt
  have hlto : go < w8.heap.size := hvo8.lt
  have hvk9 := hvk8.on hb9
  have hvu9 := hvu8.on hb9
  have hvr9 := hvr8.on hb9
  have hvx9 := hvx8.on hb9
  have hvo9 := hvo8.on hb9
  rw [show withNew g [(4, 7), (5, 8), (6, 9), (7, 10)] (rMultVs4 key ub w.heap.size gu gr gx go kc xx one zz) = rMultVs4N key ub w.heap.size gu gr gx go kc xx one zz (g 7) (g 8) (g 9) (g 10) from rfl]
  replace hgei : w8.heap.size ≤ g 7 := hgei
  replace hvi9 : Cells w9 (g 7) (one.map dcell) 38 := hvi9
  replace hgej : w8.heap.size ≤ g 8 := hgej
  replace hvj9 : Cells w9 (g 8) (zz.map dcell) 38 := hvj9
  replace hgem : w8.heap.size ≤ g 9 := hgem
  replace hvm9 : Cells w9 (g 9) (xx.map dcell) 38 := hvm9
  replace hgen : w8.heap.size ≤ g 10 := hgen
  replace hvn9 : Cells w9 (g 10) (one.map dcell) 38 := hvn9
  replace hneij : g 7 ≠ g 8 := hneij
  replace hneim : g 7 ≠ g 9 := hneim
  replace hnein : g 7 ≠ g 10 := hnein
  replace hnejm : g 8 ≠ g 9 := hnejm
  replace hnejn : g 8 ≠ g 10 := hnejn
  replace hnemn : g 9 ≠ g 10 := hnemn
  have hneki : w.heap.size ≠ g 7 := Nat.ne_of_lt (Nat.lt_of_lt_of_le hltk hgei)
  have hneui : gu ≠ g 7 := Nat.ne_of_lt (Nat.lt_of_lt_of_le hltu hgei)
  have hneri : gr ≠ g 7 := Nat.ne_of_lt (Nat.lt_of_lt_of_le hltr hgei)
  have hnexi : gx ≠ g 7 := Nat.ne_of_lt (Nat.lt_of_lt_of_le hltx hgei)
  have hneoi : go ≠ g 7 := Nat.ne_of_lt (Nat.lt_of_lt_of_le hlto hgei)
  replace hgei : w.heap.size ≤ g 7 := Nat.le_trans (show w.heap.size ≤ w8.heap.size from hB8.size) hgei
  have hnekj : w.heap.size ≠ g 8 := Nat.ne_of_lt (Nat.lt_of_lt_of_le hltk hgej)
  have hneuj : gu ≠ g 8 := Nat.ne_of_lt (Nat.lt_of_lt_of_le hltu hgej)
  have hnerj : gr ≠ g 8 := Nat.ne_of_lt (Nat.lt_of_lt_of_le hltr hgej)
  have hnexj : gx ≠ g 8 := Nat.ne_of_lt (Nat.lt_of_lt_of_le hltx hgej)
  have hneoj : go ≠ g 8 := Nat.ne_of_lt (Nat.lt_of_lt_of_le hlto hgej)
  replace hgej : w.heap.size ≤ g 8 := Nat.le_trans (show w.heap.size ≤ w8.heap.size from hB8.size) hgej
  have hnekm : w.heap.size ≠ g 9 := Nat.ne_of_lt (Nat.lt_of_lt_of_le hltk hgem)
  have hneum : gu ≠ g 9 := Nat.ne_of_lt (Nat.lt_of_lt_of_le hltu hgem)
  have hnerm : gr ≠ g 9 := Nat.ne_of_lt (Nat.lt_of_lt_of_le hltr hgem)
  have hnexm : gx ≠ g 9 := Nat.ne_of_lt (Nat.lt_of_lt_of_le hltx hgem)
  have hneom : go ≠ g 9 := Nat.ne_of_lt (Nat.lt_of_lt_of_le hlto hgem)
  replace hgem : w.heap.size ≤ g 9 := Nat.le_trans (show w.heap.size ≤ w8.heap.size from hB8.size) hgem
  have hnekn : w.heap.size ≠ g 10 := Nat.ne_of_lt (Nat.lt_of_lt_of_le hltk hgen)
  have hneun : gu ≠ g 10 := Nat.ne_of_lt (Nat.lt_of_lt_of_le hltu hgen)
  have hnern : gr ≠ g 10 := Nat.ne_of_lt (Nat.lt_of_lt_of_le hltr hgen)
  have hnexn : gx ≠ g 10 := Nat.ne_of_lt (Nat.lt_of_lt_of_le hltx hgen)
  have hneon : go ≠ g 10 := Nat.ne_of_lt (Nat.lt_of_lt_of_le hlto hgen)
  replace hgen : w.heap.size ≤ g 10 := Nat.le_trans (show w.heap.size ≤ w8.heap.size from hB8.size) hgen
  clear hltk hltu hltr hltx hlto
  generalize g 7 = gi at *
  generalize g 8 = gj at *
  generalize g 9 = gm at *
  generalize g 10 = gn at *
  clear hB8 hvk8 hvu8 hvr8 hvx8 hvo8 hb9
  refine ⟨by kernel_rfl, ?_⟩
  rename_i K hKK
  show Exit.then K _ Exit.normal (⟨(rMultVs4N key ub w.heap.size gu gr gx go kc xx one zz gi gj gm gn).toArray, []⟩ : Act) w9
  simp only [Exit.then]
  refine hKK _ _ ?_
  clear hKK K g
  simp only [rMultVs4N]
  go_wp2_with fail
  replace hnekr := Lib.hid hnekr
  replace hnekx := Lib.hid hnekx
  replace hnerx := Lib.hid hnerx
  replace hneij := Lib.hid hneij
  replace hneim := Lib.hid hneim
  replace hnein := Lib.hid hnein
  replace hnejm := Lib.hid hnejm
  replace hnejn := Lib.hid hnejn
  replace hnemn := Lib.hid hnemn
  replace hneki := Lib.hid hneki
  replace hneri := Lib.hid hneri
  replace hnexi := Lib.hid hnexi
  replace hnekj := Lib.hid hnekj
  replace hnerj := Lib.hid hnerj
  replace hnexj := Lib.hid hnexj
  replace hnekm := Lib.hid hnekm
  replace hnerm := Lib.hid hnerm
  replace hnexm := Lib.hid hnexm
  replace hnekn := Lib.hid hnekn
  replace hnern := Lib.hid hnern
  replace hnexn := Lib.hid hnexn
  clear hvu9 hvo9
  go_loopw [11, 12] (fun s t wr => ∃ j : Nat, j ≤ 255 ∧ s = .int .u8 (S j) ∧ t = .int .i64 ((j : Int) - 1) ∧ Below w.heap.size w wr ∧ Cells wr (w.heap.size) (kc.map cellOf) 22 ∧ Cells wr gr kzeros 22 ∧ Cells wr gx (xx.map dcell) 38 ∧ Cells wr gi ((X j).map dcell) 38 ∧ Cells wr gj ((Z j).map dcell) 38 ∧ Cells wr gm ((Y j).map dcell) 38 ∧ Cells wr gn ((V j).map dcell) 38) (fun _ t _ => ((intOf t) + 1).toNat)
  case atStart => exact ⟨255, Nat.le_refl _, by rw [HS.out], rfl, hB9, hvk9, hvr9, hvx9, by rw [HX.out]; exact hvi9, by rw [HZ.out]; exact hvj9, by rw [HY.out]; exact hvm9, by rw [HV.out]; exact hvn9⟩
  case round =>
    clear hB9 hvk9 hvr9 hvx9 hvi9 hvj9 hvm9 hvn9
    obtain ⟨j, hj, rfl, rfl, hBl, hvkl, hvrl, hvxl, hvil, hvjl, hvml, hvnl⟩ := hrel
    by_cases h0 : 0 < j
    · obtain ⟨k, rfl⟩ : ∃ k, j = k + 1 := ⟨j - 1, by omega⟩
      have hk : k < 255 := by omega
      have e1' : (((k + 1 : Nat) : Int) - 1) = (k : Int) := by omega
      have i1 : (0 : Int) ≤ (k : Int) := by omega
      have i2 : (k : Int) < 255 := by omega
      have i3 : IntKind.i64.wrap ((k : Int) - 1) = (k : Int) - 1 := IntWalk.i64_in _ (by omega)
      have i4 : IntKind.u64.wrap ((k : Int) % 8) = (k : Int) % 8 := by rw [IntKind.wrap_u64]; omega
      rw [e1']
      obtain ⟨p2, q2, p3, q3, a1, aa, b1, bb, e1, c1, d1, da, cb, su, di, n3, dd, m3, n2, qe, ae, m2, c, hll, hc0, hc1, C1, C2, C3, C4, C5, C6, C7, C8, C9, C10, C11, C12, C13, C14, C15, C16, C17, C18, hX, hZ, hY, hV, q, hq, hbv⟩ := HR.out k hk
      have dq0 := Lib.hid hq
      obtain ⟨Hp2, Hq2, Hp3, Hq3, Ha1, Haa, Hb1, Hbb, He1, Hc1, Hd1, Hda, Hcb, Hsu, Hdi, Hn3, Hdd, Hm3, Hn2, Hqe, Hae, Hm2⟩ := hll
      replace Hp2 := Lib.hid Hp2
      replace Hq2 := Lib.hid Hq2
      replace Hp3 := Lib.hid Hp3
      replace Hq3 := Lib.hid Hq3
      replace Ha1 := Lib.hid Ha1
      replace Haa := Lib.hid Haa
      replace Hb1 := Lib.hid Hb1
      replace Hbb := Lib.hid Hbb
      replace He1 := Lib.hid He1
      replace Hc1 := Lib.hid Hc1
      replace Hd1 := Lib.hid Hd1
      replace Hda := Lib.hid Hda
      replace Hcb := Lib.hid Hcb
      replace Hsu := Lib.hid Hsu
      replace Hdi := Lib.hid Hdi
      replace Hn3 := Lib.hid Hn3
      replace Hdd := Lib.hid Hdd
      replace Hm3 := Lib.hid Hm3
      replace Hn2 := Lib.hid Hn2
      replace Hqe := Lib.hid Hqe
      replace Hae := Lib.hid Hae
      replace Hm2 := Lib.hid Hm2
      replace C1 := Lib.hid C1
      replace C2 := Lib.hid C2
      replace C3 := Lib.hid C3
      replace C4 := Lib.hid C4
      replace C5 := Lib.hid C5
      replace C6 := Lib.hid C6
      replace C7 := Lib.hid C7
      replace C8 := Lib.hid C8
      replace C9 := Lib.hid C9
      replace C10 := Lib.hid C10
      replace C11 := Lib.hid C11
      replace C12 := Lib.hid C12
      replace C13 := Lib.hid C13
      replace C14 := Lib.hid C14
      replace C15 := Lib.hid C15
      replace C16 := Lib.hid C16
      replace C17 := Lib.hid C17
      replace C18 := Lib.hid C18
      replace hX := Lib.hid hX
      replace hZ := Lib.hid hZ
      replace hY := Lib.hid hY
      replace hV := Lib.hid hV
      obtain ⟨sv, HXs⟩ := namedF (S (k + 1))
      obtain ⟨bv, HXb⟩ := namedF (S k)
      rw [HXs.out, HXb.out] at hc0 hc1
      rw [HXb.out] at hbv
      rw [HXs.out]
      clear HR HS HX HZ HY HV hq
      have dq1 := hvkl.get dq0.out
      cases c
      · have hc2 := hc0 rfl
        clear hc0 hc1
        obtain ⟨hcs, hcx, hcz, hcy, hcv⟩ := hc2
        rw [hcx] at hvil
        rw [hcz] at hvjl
        rw [hcy] at hvml
        rw [hcv] at hvnl
        clear hcx hcz hcy hcv
        subst hcs
        go_wp2_with (first
          | (refine sget_step rfl 38 (.tmp 7) rfl gi 8 (p2.map dcell) rfl hvil Tryd.underlying38 rfl size_ND (by rw [List.length_map, Hp2.out]) ?_
             try simp only [Act.put, List.setIfInBounds_toArray, List.set_cons_zero, List.set_cons_succ]
             skip)
          | (refine sget_step rfl 38 (.tmp 8) rfl gj 8 (q2.map dcell) rfl hvjl Tryd.underlying38 rfl size_ND (by rw [List.length_map, Hq2.out]) ?_
             try simp only [Act.put, List.setIfInBounds_toArray, List.set_cons_zero, List.set_cons_succ]
             skip))
        refine (C1.out wr).mono ?_
        rintro e w10 ⟨rfl, hb10⟩
        have hB10 := below_then hBl hb10
        have hvk10 := hvkl.on hb10
        have hvr10 := hvrl.on hb10
        have hvx10 := hvxl.on hb10
        have hvi10 := hvil.on hb10
        have hvj10 := hvjl.on hb10
        have hvm10 := hvml.on hb10
        have hvn10 := hvnl.on hb10
        clear hBl hvkl hvrl hvxl hvil hvjl hvml hvnl hb10
        go_wp2_with (first
          | (refine vput_step rfl rfl 38 (.tmp 14) (.tmp 57) rfl rfl 8 (dzeros 8) (a1.map dcell) rfl rfl zero_ND rfl size_ND (by rw [List.length_map, Ha1.out]) (dcells_one _) ?_
             intro w11 hb11 hvva11
             have hB11 := below_then hB10 hb11
             have hvk11 := hvk10.on hb11
             have hvr11 := hvr10.on hb11
             have hvx11 := hvx10.on hb11
             have hvi11 := hvi10.on hb11
             have hneiva := Lib.hid (Nat.ne_of_lt hvi10.lt)
             have hvj11 := hvj10.on hb11
             have hnejva := Lib.hid (Nat.ne_of_lt hvj10.lt)
             have hvm11 := hvm10.on hb11
             have hnemva := Lib.hid (Nat.ne_of_lt hvm10.lt)
             have hvn11 := hvn10.on hb11
             have hnenva := Lib.hid (Nat.ne_of_lt hvn10.lt)
             clear hB10 hvk10 hvr10 hvx10 hvi10 hvj10 hvm10 hvn10 hb11
             try simp only [Act.put, List.setIfInBounds_toArray, List.set_cons_zero, List.set_cons_succ]
             skip)
          | (refine sget_step rfl 38 (.tmp 14) rfl w10.heap.size 8 (a1.map dcell) rfl hvva11 Tryd.underlying38 rfl size_ND (by rw [List.length_map, Ha1.out]) ?_
             try simp only [Act.put, List.setIfInBounds_toArray, List.set_cons_zero, List.set_cons_succ]
             skip)
          | (refine sget_step rfl 38 (.tmp 14) rfl w10.heap.size 8 (a1.map dcell) rfl hvva11 Tryd.underlying38 rfl size_ND (by rw [List.length_map, Ha1.out]) ?_
             try simp only [Act.put, List.setIfInBounds_toArray, List.set_cons_zero, List.set_cons_succ]
             skip))
        generalize hqva : w10.heap.size = gva at *
        clear hqva
        refine (C2.out w11).mono ?_
        rintro e w12 ⟨rfl, hb12⟩
        have hB12 := below_then hB11 hb12
        have hvk12 := hvk11.on hb12
        have hvr12 := hvr11.on hb12
        have hvx12 := hvx11.on hb12
        have hvi12 := hvi11.on hb12
        have hvj12 := hvj11.on hb12
        have hvm12 := hvm11.on hb12
        have hvn12 := hvn11.on hb12
        have hvva12 := hvva11.on hb12
        clear hB11 hvk11 hvr11 hvx11 hvi11 hvj11 hvm11 hvn11 hvva11 hb12
        go_wp2_with (first
          | (refine vput_step rfl rfl 38 (.tmp 15) (.tmp 60) rfl rfl 8 (dzeros 8) (aa.map dcell) rfl rfl zero_ND rfl size_ND (by rw [List.length_map, Haa.out]) (dcells_one _) ?_
             intro w13 hb13 hvvaa13
             have hB13 := below_then hB12 hb13
             have hvk13 := hvk12.on hb13
             have hvr13 := hvr12.on hb13
             have hvx13 := hvx12.on hb13
             have hvi13 := hvi12.on hb13
             have hneivaa := Lib.hid (Nat.ne_of_lt hvi12.lt)
             have hvj13 := hvj12.on hb13
             have hnejvaa := Lib.hid (Nat.ne_of_lt hvj12.lt)
             have hvm13 := hvm12.on hb13
             have hnemvaa := Lib.hid (Nat.ne_of_lt hvm12.lt)
             have hvn13 := hvn12.on hb13
             have hnenvaa := Lib.hid (Nat.ne_of_lt hvn12.lt)
             have hvva13 := hvva12.on hb13
             clear hB12 hvk12 hvr12 hvx12 hvi12 hvj12 hvm12 hvn12 hvva12 hb13
             try simp only [Act.put, List.setIfInBounds_toArray, List.set_cons_zero, List.set_cons_succ]
             skip)
          | (refine sget_step rfl 38 (.tmp 7) rfl gi 8 (p2.map dcell) rfl hvi13 Tryd.underlying38 rfl size_ND (by rw [List.length_map, Hp2.out]) ?_
             try simp only [Act.put, List.setIfInBounds_toArray, List.set_cons_zero, List.set_cons_succ]
             skip)
          | (refine sget_step rfl 38 (.tmp 8) rfl gj 8 (q2.map dcell) rfl hvj13 Tryd.underlying38 rfl size_ND (by rw [List.length_map, Hq2.out]) ?_
             try simp only [Act.put, List.setIfInBounds_toArray, List.set_cons_zero, List.set_cons_succ]
             skip))
        generalize hqvaa : w12.heap.size = gvaa at *
        clear hqvaa
        refine (C3.out w13).mono ?_
        rintro e w14 ⟨rfl, hb14⟩
        have hB14 := below_then hB13 hb14
        have hvk14 := hvk13.on hb14
        have hvr14 := hvr13.on hb14
        have hvx14 := hvx13.on hb14
        have hvi14 := hvi13.on hb14
        have hvj14 := hvj13.on hb14
        have hvm14 := hvm13.on hb14
        have hvn14 := hvn13.on hb14
        have hvva14 := hvva13.on hb14
        have hvvaa14 := hvvaa13.on hb14
        clear hB13 hvk13 hvr13 hvx13 hvi13 hvj13 hvm13 hvn13 hvva13 hvvaa13 hb14
        go_wp2_with (first
          | (refine vput_step rfl rfl 38 (.tmp 16) (.tmp 63) rfl rfl 8 (dzeros 8) (b1.map dcell) rfl rfl zero_ND rfl size_ND (by rw [List.length_map, Hb1.out]) (dcells_one _) ?_
             intro w15 hb15 hvvb15
             have hB15 := below_then hB14 hb15
             have hvk15 := hvk14.on hb15
             have hvr15 := hvr14.on hb15
             have hvx15 := hvx14.on hb15
             have hvi15 := hvi14.on hb15
             have hneivb := Lib.hid (Nat.ne_of_lt hvi14.lt)
             have hvj15 := hvj14.on hb15
             have hnejvb := Lib.hid (Nat.ne_of_lt hvj14.lt)
             have hvm15 := hvm14.on hb15
             have hnemvb := Lib.hid (Nat.ne_of_lt hvm14.lt)
             have hvn15 := hvn14.on hb15
             have hnenvb := Lib.hid (Nat.ne_of_lt hvn14.lt)
             have hvva15 := hvva14.on hb15
             have hvvaa15 := hvvaa14.on hb15
             clear hB14 hvk14 hvr14 hvx14 hvi14 hvj14 hvm14 hvn14 hvva14 hvvaa14 hb15
             try simp only [Act.put, List.setIfInBounds_toArray, List.set_cons_zero, List.set_cons_succ]
             skip)
          | (refine sget_step rfl 38 (.tmp 16) rfl w14.heap.size 8 (b1.map dcell) rfl hvvb15 Tryd.underlying38 rfl size_ND (by rw [List.length_map, Hb1.out]) ?_
             try simp only [Act.put, List.setIfInBounds_toArray, List.set_cons_zero, List.set_cons_succ]
             skip)
          | (refine sget_step rfl 38 (.tmp 16) rfl w14.heap.size 8 (b1.map dcell) rfl hvvb15 Tryd.underlying38 rfl size_ND (by rw [List.length_map, Hb1.out]) ?_
             try simp only [Act.put, List.setIfInBounds_toArray, List.set_cons_zero, List.set_cons_succ]
             skip))
        generalize hqvb : w14.heap.size = gvb at *
        clear hqvb
        refine (C4.out w15).mono ?_
        rintro e w16 ⟨rfl, hb16⟩
        have hB16 := below_then hB15 hb16
        have hvk16 := hvk15.on hb16
        have hvr16 := hvr15.on hb16
        have hvx16 := hvx15.on hb16
        have hvi16 := hvi15.on hb16
        have hvj16 := hvj15.on hb16
        have hvm16 := hvm15.on hb16
        have hvn16 := hvn15.on hb16
        have hvva16 := hvva15.on hb16
        have hvvaa16 := hvvaa15.on hb16
        have hvvb16 := hvvb15.on hb16
        clear hB15 hvk15 hvr15 hvx15 hvi15 hvj15 hvm15 hvn15 hvva15 hvvaa15 hvvb15 hb16
        go_wp2_with (first
          | (refine vput_step rfl rfl 38 (.tmp 17) (.tmp 66) rfl rfl 8 (dzeros 8) (bb.map dcell) rfl rfl zero_ND rfl size_ND (by rw [List.length_map, Hbb.out]) (dcells_one _) ?_
             intro w17 hb17 hvvbb17
             have hB17 := below_then hB16 hb17
             have hvk17 := hvk16.on hb17
             have hvr17 := hvr16.on hb17
             have hvx17 := hvx16.on hb17
             have hvi17 := hvi16.on hb17
             have hneivbb := Lib.hid (Nat.ne_of_lt hvi16.lt)
             have hvj17 := hvj16.on hb17
             have hnejvbb := Lib.hid (Nat.ne_of_lt hvj16.lt)
             have hvm17 := hvm16.on hb17
             have hnemvbb := Lib.hid (Nat.ne_of_lt hvm16.lt)
             have hvn17 := hvn16.on hb17
             have hnenvbb := Lib.hid (Nat.ne_of_lt hvn16.lt)
             have hvva17 := hvva16.on hb17
             have hvvaa17 := hvvaa16.on hb17
             have hvvb17 := hvvb16.on hb17
             clear hB16 hvk16 hvr16 hvx16 hvi16 hvj16 hvm16 hvn16 hvva16 hvvaa16 hvvb16 hb17
             try simp only [Act.put, List.setIfInBounds_toArray, List.set_cons_zero, List.set_cons_succ]
             skip)
          | (refine sget_step rfl 38 (.tmp 15) rfl gvaa 8 (aa.map dcell) rfl hvvaa17 Tryd.underlying38 rfl size_ND (by rw [List.length_map, Haa.out]) ?_
             try simp only [Act.put, List.setIfInBounds_toArray, List.set_cons_zero, List.set_cons_succ]
             skip)
          | (refine sget_step rfl 38 (.tmp 17) rfl w16.heap.size 8 (bb.map dcell) rfl hvvbb17 Tryd.underlying38 rfl size_ND (by rw [List.length_map, Hbb.out]) ?_
             try simp only [Act.put, List.setIfInBounds_toArray, List.set_cons_zero, List.set_cons_succ]
             skip))
        generalize hqvbb : w16.heap.size = gvbb at *
        clear hqvbb
        refine (C5.out w17).mono ?_
        rintro e w18 ⟨rfl, hb18⟩
        have hB18 := below_then hB17 hb18
        have hvk18 := hvk17.on hb18
        have hvr18 := hvr17.on hb18
        have hvx18 := hvx17.on hb18
        have hvi18 := hvi17.on hb18
        have hvj18 := hvj17.on hb18
        have hvm18 := hvm17.on hb18
        have hvn18 := hvn17.on hb18
        have hvva18 := hvva17.on hb18
        have hvvaa18 := hvvaa17.on hb18
        have hvvb18 := hvvb17.on hb18
        have hvvbb18 := hvvbb17.on hb18
        clear hB17 hvk17 hvr17 hvx17 hvi17 hvj17 hvm17 hvn17 hvva17 hvvaa17 hvvb17 hvvbb17 hb18
        go_wp2_with (first
          | (refine vput_step rfl rfl 38 (.tmp 18) (.tmp 69) rfl rfl 8 (dzeros 8) (e1.map dcell) rfl rfl zero_ND rfl size_ND (by rw [List.length_map, He1.out]) (dcells_one _) ?_
             intro w19 hb19 hvve19
             have hB19 := below_then hB18 hb19
             have hvk19 := hvk18.on hb19
             have hvr19 := hvr18.on hb19
             have hvx19 := hvx18.on hb19
             have hvi19 := hvi18.on hb19
             have hneive := Lib.hid (Nat.ne_of_lt hvi18.lt)
             have hvj19 := hvj18.on hb19
             have hnejve := Lib.hid (Nat.ne_of_lt hvj18.lt)
             have hvm19 := hvm18.on hb19
             have hnemve := Lib.hid (Nat.ne_of_lt hvm18.lt)
             have hvn19 := hvn18.on hb19
             have hnenve := Lib.hid (Nat.ne_of_lt hvn18.lt)
             have hvva19 := hvva18.on hb19
             have hvvaa19 := hvvaa18.on hb19
             have hvvb19 := hvvb18.on hb19
             have hvvbb19 := hvvbb18.on hb19
             clear hB18 hvk18 hvr18 hvx18 hvi18 hvj18 hvm18 hvn18 hvva18 hvvaa18 hvvb18 hvvbb18 hb19
             try simp only [Act.put, List.setIfInBounds_toArray, List.set_cons_zero, List.set_cons_succ]
             skip)
          | (refine sget_step rfl 38 (.tmp 9) rfl gm 8 (p3.map dcell) rfl hvm19 Tryd.underlying38 rfl size_ND (by rw [List.length_map, Hp3.out]) ?_
             try simp only [Act.put, List.setIfInBounds_toArray, List.set_cons_zero, List.set_cons_succ]
             skip)
          | (refine sget_step rfl 38 (.tmp 10) rfl gn 8 (q3.map dcell) rfl hvn19 Tryd.underlying38 rfl size_ND (by rw [List.length_map, Hq3.out]) ?_
             try simp only [Act.put, List.setIfInBounds_toArray, List.set_cons_zero, List.set_cons_succ]
             skip))
        generalize hqve : w18.heap.size = gve at *
        clear hqve
        refine (C6.out w19).mono ?_
        rintro e w20 ⟨rfl, hb20⟩
        have hB20 := below_then hB19 hb20
        have hvk20 := hvk19.on hb20
        have hvr20 := hvr19.on hb20
        have hvx20 := hvx19.on hb20
        have hvi20 := hvi19.on hb20
        have hvj20 := hvj19.on hb20
        have hvm20 := hvm19.on hb20
        have hvn20 := hvn19.on hb20
        have hvva20 := hvva19.on hb20
        have hvvaa20 := hvvaa19.on hb20
        have hvvb20 := hvvb19.on hb20
        have hvvbb20 := hvvbb19.on hb20
        have hvve20 := hvve19.on hb20
        clear hB19 hvk19 hvr19 hvx19 hvi19 hvj19 hvm19 hvn19 hvva19 hvvaa19 hvvb19 hvvbb19 hvve19 hb20
        go_wp2_with (first
          | (refine vput_step rfl rfl 38 (.tmp 19) (.tmp 72) rfl rfl 8 (dzeros 8) (c1.map dcell) rfl rfl zero_ND rfl size_ND (by rw [List.length_map, Hc1.out]) (dcells_one _) ?_
             intro w21 hb21 hvvc21
             have hB21 := below_then hB20 hb21
             have hvk21 := hvk20.on hb21
             have hvr21 := hvr20.on hb21
             have hvx21 := hvx20.on hb21
             have hvi21 := hvi20.on hb21
             have hneivc := Lib.hid (Nat.ne_of_lt hvi20.lt)
             have hvj21 := hvj20.on hb21
             have hnejvc := Lib.hid (Nat.ne_of_lt hvj20.lt)
             have hvm21 := hvm20.on hb21
             have hnemvc := Lib.hid (Nat.ne_of_lt hvm20.lt)
             have hvn21 := hvn20.on hb21
             have hnenvc := Lib.hid (Nat.ne_of_lt hvn20.lt)
             have hvva21 := hvva20.on hb21
             have hvvaa21 := hvvaa20.on hb21
             have hvvb21 := hvvb20.on hb21
             have hvvbb21 := hvvbb20.on hb21
             have hvve21 := hvve20.on hb21
             clear hB20 hvk20 hvr20 hvx20 hvi20 hvj20 hvm20 hvn20 hvva20 hvvaa20 hvvb20 hvvbb20 hvve20 hb21
             try simp only [Act.put, List.setIfInBounds_toArray, List.set_cons_zero, List.set_cons_succ]
             skip)
          | (refine sget_step rfl 38 (.tmp 9) rfl gm 8 (p3.map dcell) rfl hvm21 Tryd.underlying38 rfl size_ND (by rw [List.length_map, Hp3.out]) ?_
             try simp only [Act.put, List.setIfInBounds_toArray, List.set_cons_zero, List.set_cons_succ]
             skip)
          | (refine sget_step rfl 38 (.tmp 10) rfl gn 8 (q3.map dcell) rfl hvn21 Tryd.underlying38 rfl size_ND (by rw [List.length_map, Hq3.out]) ?_
             try simp only [Act.put, List.setIfInBounds_toArray, List.set_cons_zero, List.set_cons_succ]
             skip))
        generalize hqvc : w20.heap.size = gvc at *
        clear hqvc
        refine (C7.out w21).mono ?_
        rintro e w22 ⟨rfl, hb22⟩
        have hB22 := below_then hB21 hb22
        have hvk22 := hvk21.on hb22
        have hvr22 := hvr21.on hb22
        have hvx22 := hvx21.on hb22
        have hvi22 := hvi21.on hb22
        have hvj22 := hvj21.on hb22
        have hvm22 := hvm21.on hb22
        have hvn22 := hvn21.on hb22
        have hvva22 := hvva21.on hb22
        have hvvaa22 := hvvaa21.on hb22
        have hvvb22 := hvvb21.on hb22
        have hvvbb22 := hvvbb21.on hb22
        have hvve22 := hvve21.on hb22
        have hvvc22 := hvvc21.on hb22
        clear hB21 hvk21 hvr21 hvx21 hvi21 hvj21 hvm21 hvn21 hvva21 hvvaa21 hvvb21 hvvbb21 hvve21 hvvc21 hb22
        go_wp2_with (first
          | (refine vput_step rfl rfl 38 (.tmp 20) (.tmp 75) rfl rfl 8 (dzeros 8) (d1.map dcell) rfl rfl zero_ND rfl size_ND (by rw [List.length_map, Hd1.out]) (dcells_one _) ?_
             intro w23 hb23 hvvd23
             have hB23 := below_then hB22 hb23
             have hvk23 := hvk22.on hb23
             have hvr23 := hvr22.on hb23
             have hvx23 := hvx22.on hb23
             have hvi23 := hvi22.on hb23
             have hneivd := Lib.hid (Nat.ne_of_lt hvi22.lt)
             have hvj23 := hvj22.on hb23
             have hnejvd := Lib.hid (Nat.ne_of_lt hvj22.lt)
             have hvm23 := hvm22.on hb23
             have hnemvd := Lib.hid (Nat.ne_of_lt hvm22.lt)
             have hvn23 := hvn22.on hb23
             have hnenvd := Lib.hid (Nat.ne_of_lt hvn22.lt)
             have hvva23 := hvva22.on hb23
             have hvvaa23 := hvvaa22.on hb23
             have hvvb23 := hvvb22.on hb23
             have hvvbb23 := hvvbb22.on hb23
             have hvve23 := hvve22.on hb23
             have hvvc23 := hvvc22.on hb23
             clear hB22 hvk22 hvr22 hvx22 hvi22 hvj22 hvm22 hvn22 hvva22 hvvaa22 hvvb22 hvvbb22 hvve22 hvvc22 hb23
             try simp only [Act.put, List.setIfInBounds_toArray, List.set_cons_zero, List.set_cons_succ]
             skip)
          | (refine sget_step rfl 38 (.tmp 20) rfl w22.heap.size 8 (d1.map dcell) rfl hvvd23 Tryd.underlying38 rfl size_ND (by rw [List.length_map, Hd1.out]) ?_
             try simp only [Act.put, List.setIfInBounds_toArray, List.set_cons_zero, List.set_cons_succ]
             skip)
          | (refine sget_step rfl 38 (.tmp 14) rfl gva 8 (a1.map dcell) rfl hvva23 Tryd.underlying38 rfl size_ND (by rw [List.length_map, Ha1.out]) ?_
             try simp only [Act.put, List.setIfInBounds_toArray, List.set_cons_zero, List.set_cons_succ]
             skip))
        generalize hqvd : w22.heap.size = gvd at *
        clear hqvd
        refine (C8.out w23).mono ?_
        rintro e w24 ⟨rfl, hb24⟩
        have hB24 := below_then hB23 hb24
        have hvk24 := hvk23.on hb24
        have hvr24 := hvr23.on hb24
        have hvx24 := hvx23.on hb24
        have hvi24 := hvi23.on hb24
        have hvj24 := hvj23.on hb24
        have hvm24 := hvm23.on hb24
        have hvn24 := hvn23.on hb24
        have hvva24 := hvva23.on hb24
        have hvvaa24 := hvvaa23.on hb24
        have hvvb24 := hvvb23.on hb24
        have hvvbb24 := hvvbb23.on hb24
        have hvve24 := hvve23.on hb24
        have hvvc24 := hvvc23.on hb24
        have hvvd24 := hvvd23.on hb24
        clear hB23 hvk23 hvr23 hvx23 hvi23 hvj23 hvm23 hvn23 hvva23 hvvaa23 hvvb23 hvvbb23 hvve23 hvvc23 hvvd23 hb24
        go_upto_region 22 with (first
          | (refine vput_step rfl rfl 38 (.tmp 21) (.tmp 78) rfl rfl 8 (dzeros 8) (da.map dcell) rfl rfl zero_ND rfl size_ND (by rw [List.length_map, Hda.out]) (dcells_one _) ?_
             intro w25 hb25 hvvda25
             have hB25 := below_then hB24 hb25
             have hvk25 := hvk24.on hb25
             have hvr25 := hvr24.on hb25
             have hvx25 := hvx24.on hb25
             have hvi25 := hvi24.on hb25
             have hneivda := Lib.hid (Nat.ne_of_lt hvi24.lt)
             have hvj25 := hvj24.on hb25
             have hnejvda := Lib.hid (Nat.ne_of_lt hvj24.lt)
             have hvm25 := hvm24.on hb25
             have hnemvda := Lib.hid (Nat.ne_of_lt hvm24.lt)
             have hvn25 := hvn24.on hb25
             have hnenvda := Lib.hid (Nat.ne_of_lt hvn24.lt)
             have hvva25 := hvva24.on hb25
             have hvvaa25 := hvvaa24.on hb25
             have hvvb25 := hvvb24.on hb25
             have hvvbb25 := hvvbb24.on hb25
             have hvve25 := hvve24.on hb25
             have hvvc25 := hvvc24.on hb25
             have hvvd25 := hvvd24.on hb25
             clear hB24 hvk24 hvr24 hvx24 hvi24 hvj24 hvm24 hvn24 hvva24 hvvaa24 hvvb24 hvvbb24 hvve24 hvvc24 hvvd24 hb25
             try simp only [Act.put, List.setIfInBounds_toArray, List.set_cons_zero, List.set_cons_succ]
             skip))
        generalize hqvda : w24.heap.size = gvda at *
        clear hqvda
        clear hvva25 hvvd25
        go_wp2_with (first
          | (refine sget_step rfl 38 (.tmp 19) rfl gvc 8 (c1.map dcell) rfl hvvc25 Tryd.underlying38 rfl size_ND (by rw [List.length_map, Hc1.out]) ?_
             try simp only [Act.put, List.setIfInBounds_toArray, List.set_cons_zero, List.set_cons_succ]
             skip)
          | (refine sget_step rfl 38 (.tmp 16) rfl gvb 8 (b1.map dcell) rfl hvvb25 Tryd.underlying38 rfl size_ND (by rw [List.length_map, Hb1.out]) ?_
             try simp only [Act.put, List.setIfInBounds_toArray, List.set_cons_zero, List.set_cons_succ]
             skip))
        refine (C9.out w25).mono ?_
        rintro e w26 ⟨rfl, hb26⟩
        have hB26 := below_then hB25 hb26
        have hvk26 := hvk25.on hb26
        have hvr26 := hvr25.on hb26
        have hvx26 := hvx25.on hb26
        have hvi26 := hvi25.on hb26
        have hvj26 := hvj25.on hb26
        have hvm26 := hvm25.on hb26
        have hvn26 := hvn25.on hb26
        have hvvaa26 := hvvaa25.on hb26
        have hvvb26 := hvvb25.on hb26
        have hvvbb26 := hvvbb25.on hb26
        have hvve26 := hvve25.on hb26
        have hvvc26 := hvvc25.on hb26
        have hvvda26 := hvvda25.on hb26
        clear hB25 hvk25 hvr25 hvx25 hvi25 hvj25 hvm25 hvn25 hvvaa25 hvvb25 hvvbb25 hvve25 hvvc25 hvvda25 hb26
        go_upto_region 23 with (first
          | (refine vput_step rfl rfl 38 (.tmp 22) (.tmp 81) rfl rfl 8 (dzeros 8) (cb.map dcell) rfl rfl zero_ND rfl size_ND (by rw [List.length_map, Hcb.out]) (dcells_one _) ?_
             intro w27 hb27 hvvcb27
             have hB27 := below_then hB26 hb27
             have hvk27 := hvk26.on hb27
             have hvr27 := hvr26.on hb27
             have hvx27 := hvx26.on hb27
             have hvi27 := hvi26.on hb27
             have hneivcb := Lib.hid (Nat.ne_of_lt hvi26.lt)
             have hvj27 := hvj26.on hb27
             have hnejvcb := Lib.hid (Nat.ne_of_lt hvj26.lt)
             have hvm27 := hvm26.on hb27
             have hnemvcb := Lib.hid (Nat.ne_of_lt hvm26.lt)
             have hvn27 := hvn26.on hb27
             have hnenvcb := Lib.hid (Nat.ne_of_lt hvn26.lt)
             have hvvaa27 := hvvaa26.on hb27
             have hvvb27 := hvvb26.on hb27
             have hvvbb27 := hvvbb26.on hb27
             have hvve27 := hvve26.on hb27
             have hvvc27 := hvvc26.on hb27
             have hvvda27 := hvvda26.on hb27
             clear hB26 hvk26 hvr26 hvx26 hvi26 hvj26 hvm26 hvn26 hvvaa26 hvvb26 hvvbb26 hvve26 hvvc26 hvvda26 hb27
             try simp only [Act.put, List.setIfInBounds_toArray, List.set_cons_zero, List.set_cons_succ]
             skip))
        generalize hqvcb : w26.heap.size = gvcb at *
        clear hqvcb
        clear hvvb27 hvvc27
        go_wp2_with (first
          | (refine sget_step rfl 38 (.tmp 21) rfl gvda 8 (da.map dcell) rfl hvvda27 Tryd.underlying38 rfl size_ND (by rw [List.length_map, Hda.out]) ?_
             try simp only [Act.put, List.setIfInBounds_toArray, List.set_cons_zero, List.set_cons_succ]
             skip)
          | (refine sget_step rfl 38 (.tmp 22) rfl gvcb 8 (cb.map dcell) rfl hvvcb27 Tryd.underlying38 rfl size_ND (by rw [List.length_map, Hcb.out]) ?_
             try simp only [Act.put, List.setIfInBounds_toArray, List.set_cons_zero, List.set_cons_succ]
             skip))
        refine (C10.out w27).mono ?_
        rintro e w28 ⟨rfl, hb28⟩
        have hB28 := below_then hB27 hb28
        have hvk28 := hvk27.on hb28
        have hvr28 := hvr27.on hb28
        have hvx28 := hvx27.on hb28
        have hvi28 := hvi27.on hb28
        have hvj28 := hvj27.on hb28
        have hvm28 := hvm27.on hb28
        have hvn28 := hvn27.on hb28
        have hvvaa28 := hvvaa27.on hb28
        have hvvbb28 := hvvbb27.on hb28
        have hvve28 := hvve27.on hb28
        have hvvda28 := hvvda27.on hb28
        have hvvcb28 := hvvcb27.on hb28
        clear hB27 hvk27 hvr27 hvx27 hvi27 hvj27 hvm27 hvn27 hvvaa27 hvvbb27 hvve27 hvvda27 hvvcb27 hb28
        go_wp2_with (first
          | (refine vput_step rfl rfl 38 (.tmp 23) (.tmp 84) rfl rfl 8 (dzeros 8) (su.map dcell) rfl rfl zero_ND rfl size_ND (by rw [List.length_map, Hsu.out]) (dcells_one _) ?_
             intro w29 hb29 hvvsu29
             have hB29 := below_then hB28 hb29
             have hvk29 := hvk28.on hb29
             have hvr29 := hvr28.on hb29
             have hvx29 := hvx28.on hb29
             have hvi29 := hvi28.on hb29
             have hneivsu := Lib.hid (Nat.ne_of_lt hvi28.lt)
             have hvj29 := hvj28.on hb29
             have hnejvsu := Lib.hid (Nat.ne_of_lt hvj28.lt)
             have hvm29 := hvm28.on hb29
             have hnemvsu := Lib.hid (Nat.ne_of_lt hvm28.lt)
             have hvn29 := hvn28.on hb29
             have hnenvsu := Lib.hid (Nat.ne_of_lt hvn28.lt)
             have hvvaa29 := hvvaa28.on hb29
             have hvvbb29 := hvvbb28.on hb29
             have hvve29 := hvve28.on hb29
             have hvvda29 := hvvda28.on hb29
             have hvvcb29 := hvvcb28.on hb29
             clear hB28 hvk28 hvr28 hvx28 hvi28 hvj28 hvm28 hvn28 hvvaa28 hvvbb28 hvve28 hvvda28 hvvcb28 hb29
             try simp only [Act.put, List.setIfInBounds_toArray, List.set_cons_zero, List.set_cons_succ]
             skip)
          | (refine sget_step rfl 38 (.tmp 21) rfl gvda 8 (da.map dcell) rfl hvvda29 Tryd.underlying38 rfl size_ND (by rw [List.length_map, Hda.out]) ?_
             try simp only [Act.put, List.setIfInBounds_toArray, List.set_cons_zero, List.set_cons_succ]
             skip)
          | (refine sget_step rfl 38 (.tmp 22) rfl gvcb 8 (cb.map dcell) rfl hvvcb29 Tryd.underlying38 rfl size_ND (by rw [List.length_map, Hcb.out]) ?_
             try simp only [Act.put, List.setIfInBounds_toArray, List.set_cons_zero, List.set_cons_succ]
             skip))
        generalize hqvsu : w28.heap.size = gvsu at *
        clear hqvsu
        refine (C11.out w29).mono ?_
        rintro e w30 ⟨rfl, hb30⟩
        have hB30 := below_then hB29 hb30
        have hvk30 := hvk29.on hb30
        have hvr30 := hvr29.on hb30
        have hvx30 := hvx29.on hb30
        have hvi30 := hvi29.on hb30
        have hvj30 := hvj29.on hb30
        have hvm30 := hvm29.on hb30
        have hvn30 := hvn29.on hb30
        have hvvaa30 := hvvaa29.on hb30
        have hvvbb30 := hvvbb29.on hb30
        have hvve30 := hvve29.on hb30
        have hvvda30 := hvvda29.on hb30
        have hvvcb30 := hvvcb29.on hb30
        have hvvsu30 := hvvsu29.on hb30
        clear hB29 hvk29 hvr29 hvx29 hvi29 hvj29 hvm29 hvn29 hvvaa29 hvvbb29 hvve29 hvvda29 hvvcb29 hvvsu29 hb30
        go_upto_region 25 with (first
          | (refine vput_step rfl rfl 38 (.tmp 24) (.tmp 87) rfl rfl 8 (dzeros 8) (di.map dcell) rfl rfl zero_ND rfl size_ND (by rw [List.length_map, Hdi.out]) (dcells_one _) ?_
             intro w31 hb31 hvvdi31
             have hB31 := below_then hB30 hb31
             have hvk31 := hvk30.on hb31
             have hvr31 := hvr30.on hb31
             have hvx31 := hvx30.on hb31
             have hvi31 := hvi30.on hb31
             have hneivdi := Lib.hid (Nat.ne_of_lt hvi30.lt)
             have hvj31 := hvj30.on hb31
             have hnejvdi := Lib.hid (Nat.ne_of_lt hvj30.lt)
             have hvm31 := hvm30.on hb31
             have hnemvdi := Lib.hid (Nat.ne_of_lt hvm30.lt)
             have hvn31 := hvn30.on hb31
             have hnenvdi := Lib.hid (Nat.ne_of_lt hvn30.lt)
             have hvvaa31 := hvvaa30.on hb31
             have hvvbb31 := hvvbb30.on hb31
             have hvve31 := hvve30.on hb31
             have hvvda31 := hvvda30.on hb31
             have hvvcb31 := hvvcb30.on hb31
             have hvvsu31 := hvvsu30.on hb31
             clear hB30 hvk30 hvr30 hvx30 hvi30 hvj30 hvm30 hvn30 hvvaa30 hvvbb30 hvve30 hvvda30 hvvcb30 hvvsu30 hb31
             try simp only [Act.put, List.setIfInBounds_toArray, List.set_cons_zero, List.set_cons_succ]
             skip))
        generalize hqvdi : w30.heap.size = gvdi at *
        clear hqvdi
        clear hvvda31 hvvcb31
        go_wp2_with (first
          | (refine sget_step rfl 38 (.tmp 23) rfl gvsu 8 (su.map dcell) rfl hvvsu31 Tryd.underlying38 rfl size_ND (by rw [List.length_map, Hsu.out]) ?_
             try simp only [Act.put, List.setIfInBounds_toArray, List.set_cons_zero, List.set_cons_succ]
             skip)
          | (refine sget_step rfl 38 (.tmp 23) rfl gvsu 8 (su.map dcell) rfl hvvsu31 Tryd.underlying38 rfl size_ND (by rw [List.length_map, Hsu.out]) ?_
             try simp only [Act.put, List.setIfInBounds_toArray, List.set_cons_zero, List.set_cons_succ]
             skip))
        refine (C12.out w31).mono ?_
        rintro e w32 ⟨rfl, hb32⟩
        have hB32 := below_then hB31 hb32
        have hvk32 := hvk31.on hb32
        have hvr32 := hvr31.on hb32
        have hvx32 := hvx31.on hb32
        have hvi32 := hvi31.on hb32
        have hvj32 := hvj31.on hb32
        have hvm32 := hvm31.on hb32
        have hvn32 := hvn31.on hb32
        have hvvaa32 := hvvaa31.on hb32
        have hvvbb32 := hvvbb31.on hb32
        have hvve32 := hvve31.on hb32
        have hvvsu32 := hvvsu31.on hb32
        have hvvdi32 := hvvdi31.on hb32
        clear hB31 hvk31 hvr31 hvx31 hvi31 hvj31 hvm31 hvn31 hvvaa31 hvvbb31 hvve31 hvvsu31 hvvdi31 hb32
        go_upto_region 26 with (first
          | (refine vset_step rfl 38 (.tmp 9) (.tmp 90) rfl gm 8 (p3.map dcell) (n3.map dcell) rfl rfl hvm32 (by rw [List.length_map, Hp3.out]) size_ND (by rw [List.length_map, Hn3.out]) (dcells_one _) ?_
             intro w33 hb33 hvm33 hz33
             have hB33 : Below w.heap.size w w33 := hB32.trans (hb33.below hgem hB32.size)
             have hvk33 := hvk32.but hb33 hnekm.out
             have hvr33 := hvr32.but hb33 hnerm.out
             have hvx33 := hvx32.but hb33 hnexm.out
             have hvi33 := hvi32.but hb33 hneim.out
             have hvj33 := hvj32.but hb33 hnejm.out
             have hvn33 := hvn32.but hb33 (Ne.symm hnemn.out)
             have hvvaa33 := hvvaa32.but hb33 (Ne.symm hnemvaa.out)
             have hvvbb33 := hvvbb32.but hb33 (Ne.symm hnemvbb.out)
             have hvve33 := hvve32.but hb33 (Ne.symm hnemve.out)
             have hvvsu33 := hvvsu32.but hb33 (Ne.symm hnemvsu.out)
             have hvvdi33 := hvvdi32.but hb33 (Ne.symm hnemvdi.out)
             clear hB32 hvm32 hb33 hz33 hvk32 hvr32 hvx32 hvi32 hvj32 hvn32 hvvaa32 hvvbb32 hvve32 hvvsu32 hvvdi32
             skip))
        clear hvvsu33
        go_wp2_with fail
        replace hvk33 := hvk33.drew
        replace hvr33 := hvr33.drew
        replace hvx33 := hvx33.drew
        replace hvi33 := hvi33.drew
        replace hvj33 := hvj33.drew
        replace hvm33 := hvm33.drew
        replace hvn33 := hvn33.drew
        replace hvvaa33 := hvvaa33.drew
        replace hvvbb33 := hvvbb33.drew
        replace hvve33 := hvve33.drew
        replace hvvdi33 := hvvdi33.drew
        refine wp_region_any (by kernel_rfl) ?_
        refine wpAny_flatM (L := [0, 1, 2, 3, 4]) (by kernel_rfl) _ _ (rMultVs26_1 key ub w.heap.size gu gr gx go gi gj gm gn sv k gva gvaa gvb gvbb gve gvc gvd gvda gvcb gvsu gvdi kc xx one zz u36 u37 q u50 u51 u52 u53 p2 q2 a1 aa b1 bb e1 p3 q3 c1 d1 da cb su di n3 dd m3 u96 u97 u98 u99 u100 u101 u102 u103 u104 u105) [] 48 (nzeros 5) [0, 1, 2, 3, 4, 5, 6, 7, 8, 9, 10, 11, 12, 13, 14, 15, 16, 17, 18, 19, 20, 21, 22, 23, 24, 25, 26, 27, 28, 29, 30, 31, 32, 33, 34, 35, 36, 37, 38, 39, 40, 41, 42, 43, 44, 45, 46, 47, 48, 49, 50, 51, 52, 53, 54, 55, 56, 57, 58, 59, 60, 61, 62, 63, 64, 65, 66, 67, 68, 69, 70, 71, 72, 73, 74, 75, 76, 77, 78, 79, 80, 81, 82, 83, 84, 85, 86, 87, 88, 89, 90, 96, 97, 98, 99, 100, 101, 102, 103, 104, 105, 106, 107, 108, 109, 110, 111, 112, 113, 114] (by kernel_rfl) (by kernel_rfl) ?_ zero_elem ?_ (by rfl) ?_ 1 (by kernel_rfl) ?_
        · intro p hp
          exact absurd hp List.not_mem_nil
        · exact all_cons rfl (all_cons rfl (all_cons rfl (all_cons rfl (all_cons rfl (all_cons rfl (all_cons rfl (all_cons rfl (all_cons rfl (all_cons rfl (all_cons rfl (all_cons rfl (all_cons rfl (all_cons rfl (all_cons rfl (all_cons rfl (all_cons rfl (all_cons rfl (all_cons rfl (all_cons rfl (all_cons rfl (all_cons rfl (all_cons rfl (all_cons rfl (all_cons rfl (all_cons rfl (all_cons rfl (all_cons rfl (all_cons rfl (all_cons rfl (all_cons rfl (all_cons rfl (all_cons rfl (all_cons rfl (all_cons rfl (all_cons rfl (all_cons rfl (all_cons rfl (all_cons rfl (all_cons rfl (all_cons rfl (all_cons rfl (all_cons rfl (all_cons rfl (all_cons rfl (all_cons rfl (all_cons rfl (all_cons rfl (all_cons rfl (all_cons rfl (all_cons rfl (all_cons rfl (all_cons rfl (all_cons rfl (all_cons rfl (all_cons rfl (all_cons rfl (all_cons rfl (all_cons rfl (all_cons rfl (all_cons rfl (all_cons rfl (all_cons rfl (all_cons rfl (all_cons rfl (all_cons rfl (all_cons rfl (all_cons rfl (all_cons rfl (all_cons rfl (all_cons rfl (all_cons rfl (all_cons rfl (all_cons rfl (all_cons rfl (all_cons rfl (all_cons rfl (all_cons rfl (all_cons rfl (all_cons rfl (all_cons rfl (all_cons rfl (all_cons rfl (all_cons rfl (all_cons rfl (all_cons rfl (all_cons rfl (all_cons rfl (all_cons rfl (all_cons rfl (all_cons rfl (all_cons rfl (all_cons rfl (all_cons rfl (all_cons rfl (all_cons rfl (all_cons rfl (all_cons rfl (all_cons rfl (all_cons rfl (all_cons rfl (all_cons rfl (all_cons rfl (all_cons rfl (all_cons rfl (all_cons rfl (all_cons rfl (all_cons rfl (all_cons rfl (all_cons rfl (all_nil))))))))))))))))))))))))))))))))))))))))))))))))))))))))))))))))))))))))))))))))))))))))))))))))))))))))))))))
        · refine all_cons (.inr (mStep _ 91 rfl rfl rfl rfl (by kernel_rfl) (fun a hv => wanted_all rfl _) (fun a w K hb hv hK => mPure (numD xx) (exec_load _ _ _ _ rfl _ _ (hv 5 (by kernel_rfl) rfl) w (num_run (hvx33.on hb) Hxx.out)) hK))) ?_
          refine all_cons (.inr (mStep _ 92 rfl rfl rfl rfl (by kernel_rfl) (fun a hv => wanted_all rfl _) (fun a w K hb hv hK => mPure (numD di) (exec_load _ _ _ _ rfl _ _ (hv 24 (by kernel_rfl) rfl) w (num_run (hvvdi33.on hb) Hdi.out)) hK))) ?_
          refine all_cons (.inr (mStep _ 93 rfl rfl rfl rfl (by kernel_rfl) (fun a hv => wanted_all rfl _) (fun a w K hb hv hK => mPure (numD di) (exec_load _ _ _ _ rfl _ _ (hv 24 (by kernel_rfl) rfl) w (num_run (hvvdi33.on hb) Hdi.out)) hK))) ?_
          refine all_cons (.inr (mStep _ 94 rfl rfl rfl rfl (by kernel_rfl) (fun a hv => wanted_all rfl _) (fun a w K hb hv hK => mCall (numD dd) 17 _ _ rfl [numD di, numD di] (cons_eq (hv 92 (by kernel_rfl) rfl) (cons_eq (hv 93 (by kernel_rfl) rfl) (rfl))) (enters Tryd.func17 rfl rfl) (C13.out w) hK))) ?_
          refine all_cons (.inr (mStep _ 95 rfl rfl rfl rfl (by kernel_rfl) (fun a hv => wanted_all rfl _) (fun a w K hb hv hK => mCall (numD m3) 17 _ _ rfl [numD xx, numD dd] (cons_eq (hv 91 (by kernel_rfl) rfl) (cons_eq (hv 94 (by kernel_rfl) rfl) (rfl))) (enters Tryd.func17 rfl rfl) (C14.out w) hK))) ?_
          exact all_nil
        intro w34 g hb34 hN34 hap34
        clear hN34 hap34
        have hB34 := below_then (show Below w.heap.size w w33.drew from hB33.drew) hb34
        have hvk34 := hvk33.on hb34
        have hvr34 := hvr33.on hb34
        have hvx34 := hvx33.on hb34
        have hvi34 := hvi33.on hb34
        have hvj34 := hvj33.on hb34
        have hvm34 := hvm33.on hb34
        have hvn34 := hvn33.on hb34
        have hvvaa34 := hvvaa33.on hb34
        have hvvbb34 := hvvbb33.on hb34
        have hvve34 := hvve33.on hb34
        have hvvdi34 := hvvdi33.on hb34
        clear hB33 hvk33 hvr33 hvx33 hvi33 hvj33 hvm33 hvn33 hvvaa33 hvvbb33 hvve33 hvvdi33 hb34
        refine wpAny_rest 5 rfl (by kernel_rfl) ?_
        refine vset_step rfl 38 (.tmp 10) (.tmp 95) rfl gn 8 (q3.map dcell) (m3.map dcell) rfl rfl hvn34 (by rw [List.length_map, Hq3.out]) size_ND (by rw [List.length_map, Hm3.out]) (dcells_one _) ?_
        intro w35 hb35 hvn35 hz35
        have hB35 : Below w.heap.size w w35 := hB34.trans (hb35.below hgen hB34.size)
        have hvk35 := hvk34.but hb35 hnekn.out
        have hvr35 := hvr34.but hb35 hnern.out
        have hvx35 := hvx34.but hb35 hnexn.out
        have hvi35 := hvi34.but hb35 hnein.out
        have hvj35 := hvj34.but hb35 hnejn.out
        have hvm35 := hvm34.but hb35 hnemn.out
        have hvvaa35 := hvvaa34.but hb35 (Ne.symm hnenvaa.out)
        have hvvbb35 := hvvbb34.but hb35 (Ne.symm hnenvbb.out)
        have hvve35 := hvve34.but hb35 (Ne.symm hnenve.out)
        have hvvdi35 := hvvdi34.but hb35 (Ne.symm hnenvdi.out)
        clear hB34 hvn34 hb35 hz35 hvk34 hvr34 hvx34 hvi34 hvj34 hvm34 hvvaa34 hvvbb34 hvve34 hvvdi34
        rename_i K hKK
        show Exit.then K _ Exit.normal (⟨(rMultVs26_1 key ub w.heap.size gu gr gx go gi gj gm gn sv k gva gvaa gvb gvbb gve gvc gvd gvda gvcb gvsu gvdi kc xx one zz u36 u37 q u50 u51 u52 u53 p2 q2 a1 aa b1 bb e1 p3 q3 c1 d1 da cb su di n3 dd m3 u96 u97 u98 u99 u100 u101 u102 u103 u104 u105).toArray, []⟩ : Act) w35
        simp only [Exit.then]
        refine hKK _ _ ?_
        clear hKK K g
        simp only [rMultVs26_1]
        go_upto_region 27 with fail
        clear hvvdi35
        go_wp2_with (first
          | (refine sget_step rfl 38 (.tmp 15) rfl gvaa 8 (aa.map dcell) rfl hvvaa35 Tryd.underlying38 rfl size_ND (by rw [List.length_map, Haa.out]) ?_
             try simp only [Act.put, List.setIfInBounds_toArray, List.set_cons_zero, List.set_cons_succ]
             skip)
          | (refine sget_step rfl 38 (.tmp 17) rfl gvbb 8 (bb.map dcell) rfl hvvbb35 Tryd.underlying38 rfl size_ND (by rw [List.length_map, Hbb.out]) ?_
             try simp only [Act.put, List.setIfInBounds_toArray, List.set_cons_zero, List.set_cons_succ]
             skip))
        refine (C15.out w35).mono ?_
        rintro e w36 ⟨rfl, hb36⟩
        have hB36 := below_then hB35 hb36
        have hvk36 := hvk35.on hb36
        have hvr36 := hvr35.on hb36
        have hvx36 := hvx35.on hb36
        have hvi36 := hvi35.on hb36
        have hvj36 := hvj35.on hb36
        have hvm36 := hvm35.on hb36
        have hvn36 := hvn35.on hb36
        have hvvaa36 := hvvaa35.on hb36
        have hvvbb36 := hvvbb35.on hb36
        have hvve36 := hvve35.on hb36
        clear hB35 hvk35 hvr35 hvx35 hvi35 hvj35 hvm35 hvn35 hvvaa35 hvvbb35 hvve35 hb36
        go_upto_region 28 with (first
          | (refine vset_step rfl 38 (.tmp 7) (.tmp 98) rfl gi 8 (p2.map dcell) (n2.map dcell) rfl rfl hvi36 (by rw [List.length_map, Hp2.out]) size_ND (by rw [List.length_map, Hn2.out]) (dcells_one _) ?_
             intro w37 hb37 hvi37 hz37
             have hB37 : Below w.heap.size w w37 := hB36.trans (hb37.below hgei hB36.size)
             have hvk37 := hvk36.but hb37 hneki.out
             have hvr37 := hvr36.but hb37 hneri.out
             have hvx37 := hvx36.but hb37 hnexi.out
             have hvj37 := hvj36.but hb37 (Ne.symm hneij.out)
             have hvm37 := hvm36.but hb37 (Ne.symm hneim.out)
             have hvn37 := hvn36.but hb37 (Ne.symm hnein.out)
             have hvvaa37 := hvvaa36.but hb37 (Ne.symm hneivaa.out)
             have hvvbb37 := hvvbb36.but hb37 (Ne.symm hneivbb.out)
             have hvve37 := hvve36.but hb37 (Ne.symm hneive.out)
             clear hB36 hvi36 hb37 hz37 hvk36 hvr36 hvx36 hvj36 hvm36 hvn36 hvvaa36 hvvbb36 hvve36
             skip))
        clear hvvbb37
        go_wp2_with fail
        replace hvk37 := hvk37.drew
        replace hvr37 := hvr37.drew
        replace hvx37 := hvx37.drew
        replace hvi37 := hvi37.drew
        replace hvj37 := hvj37.drew
        replace hvm37 := hvm37.drew
        replace hvn37 := hvn37.drew
        replace hvvaa37 := hvvaa37.drew
        replace hvve37 := hvve37.drew
        refine wp_region_any (by kernel_rfl) ?_
        refine wpAny_flatM (L := [0, 1, 2, 3, 4, 5, 6]) (by kernel_rfl) _ _ (rMultVs28_2 key ub w.heap.size gu gr gx go gi gj gm gn sv k gva gvaa gvb gvbb gve gvc gvd gvda gvcb gvsu gvdi kc xx one zz u36 u37 q u50 u51 u52 u53 p2 q2 a1 aa b1 bb e1 p3 q3 c1 d1 da cb su di n3 dd m3 n2 qq qe ae m2) [] 48 (nzeros 5) [0, 1, 2, 3, 4, 5, 6, 7, 8, 9, 10, 11, 12, 13, 14, 15, 16, 17, 18, 19, 20, 21, 22, 23, 24, 25, 26, 27, 28, 29, 30, 31, 32, 33, 34, 35, 36, 37, 38, 39, 40, 41, 42, 43, 44, 45, 46, 47, 48, 49, 50, 51, 52, 53, 54, 55, 56, 57, 58, 59, 60, 61, 62, 63, 64, 65, 66, 67, 68, 69, 70, 71, 72, 73, 74, 75, 76, 77, 78, 79, 80, 81, 82, 83, 84, 85, 86, 87, 88, 89, 90, 91, 92, 93, 94, 95, 96, 97, 98, 106, 107, 108, 109, 110, 111, 112, 113, 114] (by kernel_rfl) (by kernel_rfl) ?_ zero_elem ?_ (by rfl) ?_ 1 (by kernel_rfl) ?_
        · intro p hp
          exact absurd hp List.not_mem_nil
        · exact all_cons rfl (all_cons rfl (all_cons rfl (all_cons rfl (all_cons rfl (all_cons rfl (all_cons rfl (all_cons rfl (all_cons rfl (all_cons rfl (all_cons rfl (all_cons rfl (all_cons rfl (all_cons rfl (all_cons rfl (all_cons rfl (all_cons rfl (all_cons rfl (all_cons rfl (all_cons rfl (all_cons rfl (all_cons rfl (all_cons rfl (all_cons rfl (all_cons rfl (all_cons rfl (all_cons rfl (all_cons rfl (all_cons rfl (all_cons rfl (all_cons rfl (all_cons rfl (all_cons rfl (all_cons rfl (all_cons rfl (all_cons rfl (all_cons rfl (all_cons rfl (all_cons rfl (all_cons rfl (all_cons rfl (all_cons rfl (all_cons rfl (all_cons rfl (all_cons rfl (all_cons rfl (all_cons rfl (all_cons rfl (all_cons rfl (all_cons rfl (all_cons rfl (all_cons rfl (all_cons rfl (all_cons rfl (all_cons rfl (all_cons rfl (all_cons rfl (all_cons rfl (all_cons rfl (all_cons rfl (all_cons rfl (all_cons rfl (all_cons rfl (all_cons rfl (all_cons rfl (all_cons rfl (all_cons rfl (all_cons rfl (all_cons rfl (all_cons rfl (all_cons rfl (all_cons rfl (all_cons rfl (all_cons rfl (all_cons rfl (all_cons rfl (all_cons rfl (all_cons rfl (all_cons rfl (all_cons rfl (all_cons rfl (all_cons rfl (all_cons rfl (all_cons rfl (all_cons rfl (all_cons rfl (all_cons rfl (all_cons rfl (all_cons rfl (all_cons rfl (all_cons rfl (all_cons rfl (all_cons rfl (all_cons rfl (all_cons rfl (all_cons rfl (all_cons rfl (all_cons rfl (all_cons rfl (all_cons rfl (all_cons rfl (all_cons rfl (all_cons rfl (all_cons rfl (all_cons rfl (all_cons rfl (all_cons rfl (all_cons rfl (all_nil))))))))))))))))))))))))))))))))))))))))))))))))))))))))))))))))))))))))))))))))))))))))))))))))))))))))))))
        · refine all_cons (.inr (mStep _ 99 rfl rfl rfl rfl (by kernel_rfl) (fun a hv => wanted_all rfl _) (fun a w K hb hv hK => mPure (numD e1) (exec_load _ _ _ _ rfl _ _ (hv 18 (by kernel_rfl) rfl) w (num_run (hvve37.on hb) He1.out)) hK))) ?_
          refine all_cons (.inr (mStep _ 100 rfl rfl rfl rfl (by kernel_rfl) (fun a hv => wanted_all rfl _) (fun a w K hb hv hK => mPure (numD aa) (exec_load _ _ _ _ rfl _ _ (hv 15 (by kernel_rfl) rfl) w (num_run (hvvaa37.on hb) Haa.out)) hK))) ?_
          refine all_cons (.inr (mStep _ 101 rfl rfl rfl rfl (by kernel_rfl) (fun a hv => wanted_all rfl _) (fun a w K hb hv hK => mPure (numD qq) (exec_build _ _ _ [(0, .const (.int .u32 121665))] rfl [(0, dcell 121665)] rfl _ w (BQ w)) hK))) ?_
          refine all_cons (.inr (mStep _ 102 rfl rfl rfl rfl (by kernel_rfl) (fun a hv => wanted_all rfl _) (fun a w K hb hv hK => mPure (numD e1) (exec_load _ _ _ _ rfl _ _ (hv 18 (by kernel_rfl) rfl) w (num_run (hvve37.on hb) He1.out)) hK))) ?_
          refine all_cons (.inr (mStep _ 103 rfl rfl rfl rfl (by kernel_rfl) (fun a hv => wanted_all rfl _) (fun a w K hb hv hK => mCall (numD qe) 17 _ _ rfl [numD qq, numD e1] (cons_eq (hv 101 (by kernel_rfl) rfl) (cons_eq (hv 102 (by kernel_rfl) rfl) (rfl))) (enters Tryd.func17 rfl rfl) (C16.out w) hK))) ?_
          refine all_cons (.inr (mStep _ 104 rfl rfl rfl rfl (by kernel_rfl) (fun a hv => wanted_all rfl _) (fun a w K hb hv hK => mCall (numD ae) 16 _ _ rfl [numD aa, numD qe] (cons_eq (hv 100 (by kernel_rfl) rfl) (cons_eq (hv 103 (by kernel_rfl) rfl) (rfl))) (enters Tryd.func16 rfl rfl) (C17.out w) hK))) ?_
          refine all_cons (.inr (mStep _ 105 rfl rfl rfl rfl (by kernel_rfl) (fun a hv => wanted_all rfl _) (fun a w K hb hv hK => mCall (numD m2) 17 _ _ rfl [numD e1, numD ae] (cons_eq (hv 99 (by kernel_rfl) rfl) (cons_eq (hv 104 (by kernel_rfl) rfl) (rfl))) (enters Tryd.func17 rfl rfl) (C18.out w) hK))) ?_
          exact all_nil
        intro w38 g hb38 hN38 hap38
        clear hN38 hap38
        have hB38 := below_then (show Below w.heap.size w w37.drew from hB37.drew) hb38
        have hvk38 := hvk37.on hb38
        have hvr38 := hvr37.on hb38
        have hvx38 := hvx37.on hb38
        have hvi38 := hvi37.on hb38
        have hvj38 := hvj37.on hb38
        have hvm38 := hvm37.on hb38
        have hvn38 := hvn37.on hb38
        have hvvaa38 := hvvaa37.on hb38
        have hvve38 := hvve37.on hb38
        clear hB37 hvk37 hvr37 hvx37 hvi37 hvj37 hvm37 hvn37 hvvaa37 hvve37 hb38
        refine wpAny_rest 7 rfl (by kernel_rfl) ?_
        refine vset_step rfl 38 (.tmp 8) (.tmp 105) rfl gj 8 (q2.map dcell) (m2.map dcell) rfl rfl hvj38 (by rw [List.length_map, Hq2.out]) size_ND (by rw [List.length_map, Hm2.out]) (dcells_one _) ?_
        intro w39 hb39 hvj39 hz39
        have hB39 : Below w.heap.size w w39 := hB38.trans (hb39.below hgej hB38.size)
        have hvk39 := hvk38.but hb39 hnekj.out
        have hvr39 := hvr38.but hb39 hnerj.out
        have hvx39 := hvx38.but hb39 hnexj.out
        have hvi39 := hvi38.but hb39 hneij.out
        have hvm39 := hvm38.but hb39 (Ne.symm hnejm.out)
        have hvn39 := hvn38.but hb39 (Ne.symm hnejn.out)
        have hvvaa39 := hvvaa38.but hb39 (Ne.symm hnejvaa.out)
        have hvve39 := hvve38.but hb39 (Ne.symm hnejve.out)
        clear hB38 hvj38 hb39 hz39 hvk38 hvr38 hvx38 hvi38 hvm38 hvn38 hvvaa38 hvve38
        rename_i K hKK
        show Exit.inBlock _ (Exit.then K _) Exit.normal (⟨(rMultVs28_2 key ub w.heap.size gu gr gx go gi gj gm gn sv k gva gvaa gvb gvbb gve gvc gvd gvda gvcb gvsu gvdi kc xx one zz u36 u37 q u50 u51 u52 u53 p2 q2 a1 aa b1 bb e1 p3 q3 c1 d1 da cb su di n3 dd m3 n2 qq qe ae m2).toArray, []⟩ : Act) w39
        simp only [Exit.inBlock, Exit.then]
        refine hKK _ _ ?_
        clear hKK K g
        simp only [rMultVs28_2]
        go_wp2_with fail
        go_roundw
        case rel => first | exact ⟨k, by omega, by rw [HXb.out], by go_num, hB39, hvk39, hvr39, hvx39, by rw [hX.out]; exact hvi39, by rw [hZ.out]; exact hvj39, by rw [hY.out]; exact hvm39, by rw [hV.out]; exact hvn39⟩ | trace_state
        case measure => simp [intOf] <;> omega
      · have hc2 := hc1 rfl
        clear hc0 hc1
        obtain ⟨hcs, hcx, hcz, hcy, hcv⟩ := hc2
        rw [hcx] at hvil
        rw [hcz] at hvjl
        rw [hcy] at hvml
        rw [hcv] at hvnl
        clear hcx hcz hcy hcv
        have hcs2 : (sv != bv) = true := by simp [hcs]
        clear hcs
        go_wp2_with (first
          | (refine sget_step rfl 38 (.tmp 9) rfl gm 8 (p2.map dcell) rfl hvml Tryd.underlying38 rfl size_ND (by rw [List.length_map, Hp2.out]) ?_
             try simp only [Act.put, List.setIfInBounds_toArray, List.set_cons_zero, List.set_cons_succ]
             skip)
          | (refine sget_step rfl 38 (.tmp 7) rfl gi 8 (p3.map dcell) rfl hvil Tryd.underlying38 rfl size_ND (by rw [List.length_map, Hp3.out]) ?_
             try simp only [Act.put, List.setIfInBounds_toArray, List.set_cons_zero, List.set_cons_succ]
             skip)
          | (refine vset_step rfl 38 (.tmp 7) (.tmp 50) rfl gi 8 (p3.map dcell) (p2.map dcell) rfl rfl hvil (by rw [List.length_map, Hp3.out]) size_ND (by rw [List.length_map, Hp2.out]) (dcells_one _) ?_
             intro w40 hb40 hvi40 hz40
             have hB40 : Below w.heap.size w w40 := hBl.trans (hb40.below hgei hBl.size)
             have hvk40 := hvkl.but hb40 hneki.out
             have hvr40 := hvrl.but hb40 hneri.out
             have hvx40 := hvxl.but hb40 hnexi.out
             have hvj40 := hvjl.but hb40 (Ne.symm hneij.out)
             have hvm40 := hvml.but hb40 (Ne.symm hneim.out)
             have hvn40 := hvnl.but hb40 (Ne.symm hnein.out)
             clear hBl hvil hb40 hz40 hvkl hvrl hvxl hvjl hvml hvnl
             skip)
          | (refine vset_step rfl 38 (.tmp 9) (.tmp 51) rfl gm 8 (p2.map dcell) (p3.map dcell) rfl rfl hvm40 (by rw [List.length_map, Hp2.out]) size_ND (by rw [List.length_map, Hp3.out]) (dcells_one _) ?_
             intro w41 hb41 hvm41 hz41
             have hB41 : Below w.heap.size w w41 := hB40.trans (hb41.below hgem hB40.size)
             have hvk41 := hvk40.but hb41 hnekm.out
             have hvr41 := hvr40.but hb41 hnerm.out
             have hvx41 := hvx40.but hb41 hnexm.out
             have hvi41 := hvi40.but hb41 hneim.out
             have hvj41 := hvj40.but hb41 hnejm.out
             have hvn41 := hvn40.but hb41 (Ne.symm hnemn.out)
             clear hB40 hvm40 hb41 hz41 hvk40 hvr40 hvx40 hvi40 hvj40 hvn40
             skip)
          | (refine sget_step rfl 38 (.tmp 10) rfl gn 8 (q2.map dcell) rfl hvn41 Tryd.underlying38 rfl size_ND (by rw [List.length_map, Hq2.out]) ?_
             try simp only [Act.put, List.setIfInBounds_toArray, List.set_cons_zero, List.set_cons_succ]
             skip)
          | (refine sget_step rfl 38 (.tmp 8) rfl gj 8 (q3.map dcell) rfl hvj41 Tryd.underlying38 rfl size_ND (by rw [List.length_map, Hq3.out]) ?_
             try simp only [Act.put, List.setIfInBounds_toArray, List.set_cons_zero, List.set_cons_succ]
             skip)
          | (refine vset_step rfl 38 (.tmp 8) (.tmp 52) rfl gj 8 (q3.map dcell) (q2.map dcell) rfl rfl hvj41 (by rw [List.length_map, Hq3.out]) size_ND (by rw [List.length_map, Hq2.out]) (dcells_one _) ?_
             intro w42 hb42 hvj42 hz42
             have hB42 : Below w.heap.size w w42 := hB41.trans (hb42.below hgej hB41.size)
             have hvk42 := hvk41.but hb42 hnekj.out
             have hvr42 := hvr41.but hb42 hnerj.out
             have hvx42 := hvx41.but hb42 hnexj.out
             have hvi42 := hvi41.but hb42 hneij.out
             have hvm42 := hvm41.but hb42 (Ne.symm hnejm.out)
             have hvn42 := hvn41.but hb42 (Ne.symm hnejn.out)
             clear hB41 hvj41 hb42 hz42 hvk41 hvr41 hvx41 hvi41 hvm41 hvn41
             skip)
          | (refine vset_step rfl 38 (.tmp 10) (.tmp 53) rfl gn 8 (q2.map dcell) (q3.map dcell) rfl rfl hvn42 (by rw [List.length_map, Hq2.out]) size_ND (by rw [List.length_map, Hq3.out]) (dcells_one _) ?_
             intro w43 hb43 hvn43 hz43
             have hB43 : Below w.heap.size w w43 := hB42.trans (hb43.below hgen hB42.size)
             have hvk43 := hvk42.but hb43 hnekn.out
             have hvr43 := hvr42.but hb43 hnern.out
             have hvx43 := hvx42.but hb43 hnexn.out
             have hvi43 := hvi42.but hb43 hnein.out
             have hvj43 := hvj42.but hb43 hnejn.out
             have hvm43 := hvm42.but hb43 hnemn.out
             clear hB42 hvn42 hb43 hz43 hvk42 hvr42 hvx42 hvi42 hvj42 hvm42
             skip)
          | (refine sget_step rfl 38 (.tmp 7) rfl gi 8 (p2.map dcell) rfl hvi43 Tryd.underlying38 rfl size_ND (by rw [List.length_map, Hp2.out]) ?_
             try simp only [Act.put, List.setIfInBounds_toArray, List.set_cons_zero, List.set_cons_succ]
             skip)
          | (refine sget_step rfl 38 (.tmp 8) rfl gj 8 (q2.map dcell) rfl hvj43 Tryd.underlying38 rfl size_ND (by rw [List.length_map, Hq2.out]) ?_
             try simp only [Act.put, List.setIfInBounds_toArray, List.set_cons_zero, List.set_cons_succ]
             skip))
        refine (C1.out w43).mono ?_
        rintro e w44 ⟨rfl, hb44⟩
        have hB44 := below_then hB43 hb44
        have hvk44 := hvk43.on hb44
        have hvr44 := hvr43.on hb44
        have hvx44 := hvx43.on hb44
        have hvi44 := hvi43.on hb44
        have hvj44 := hvj43.on hb44
        have hvm44 := hvm43.on hb44
        have hvn44 := hvn43.on hb44
        clear hB43 hvk43 hvr43 hvx43 hvi43 hvj43 hvm43 hvn43 hb44
        go_wp2_with (first
          | (refine vput_step rfl rfl 38 (.tmp 14) (.tmp 57) rfl rfl 8 (dzeros 8) (a1.map dcell) rfl rfl zero_ND rfl size_ND (by rw [List.length_map, Ha1.out]) (dcells_one _) ?_
             intro w45 hb45 hvva45
             have hB45 := below_then hB44 hb45
             have hvk45 := hvk44.on hb45
             have hvr45 := hvr44.on hb45
             have hvx45 := hvx44.on hb45
             have hvi45 := hvi44.on hb45
             have hneiva := Lib.hid (Nat.ne_of_lt hvi44.lt)
             have hvj45 := hvj44.on hb45
             have hnejva := Lib.hid (Nat.ne_of_lt hvj44.lt)
             have hvm45 := hvm44.on hb45
             have hnemva := Lib.hid (Nat.ne_of_lt hvm44.lt)
             have hvn45 := hvn44.on hb45
             have hnenva := Lib.hid (Nat.ne_of_lt hvn44.lt)
             clear hB44 hvk44 hvr44 hvx44 hvi44 hvj44 hvm44 hvn44 hb45
             try simp only [Act.put, List.setIfInBounds_toArray, List.set_cons_zero, List.set_cons_succ]
             skip)
          | (refine sget_step rfl 38 (.tmp 14) rfl w44.heap.size 8 (a1.map dcell) rfl hvva45 Tryd.underlying38 rfl size_ND (by rw [List.length_map, Ha1.out]) ?_
             try simp only [Act.put, List.setIfInBounds_toArray, List.set_cons_zero, List.set_cons_succ]
             skip)
          | (refine sget_step rfl 38 (.tmp 14) rfl w44.heap.size 8 (a1.map dcell) rfl hvva45 Tryd.underlying38 rfl size_ND (by rw [List.length_map, Ha1.out]) ?_
             try simp only [Act.put, List.setIfInBounds_toArray, List.set_cons_zero, List.set_cons_succ]
             skip))
        generalize hqva : w44.heap.size = gva at *
        clear hqva
        refine (C2.out w45).mono ?_
        rintro e w46 ⟨rfl, hb46⟩
        have hB46 := below_then hB45 hb46
        have hvk46 := hvk45.on hb46
        have hvr46 := hvr45.on hb46
        have hvx46 := hvx45.on hb46
        have hvi46 := hvi45.on hb46
        have hvj46 := hvj45.on hb46
        have hvm46 := hvm45.on hb46
        have hvn46 := hvn45.on hb46
        have hvva46 := hvva45.on hb46
        clear hB45 hvk45 hvr45 hvx45 hvi45 hvj45 hvm45 hvn45 hvva45 hb46
        go_wp2_with (first
          | (refine vput_step rfl rfl 38 (.tmp 15) (.tmp 60) rfl rfl 8 (dzeros 8) (aa.map dcell) rfl rfl zero_ND rfl size_ND (by rw [List.length_map, Haa.out]) (dcells_one _) ?_
             intro w47 hb47 hvvaa47
             have hB47 := below_then hB46 hb47
             have hvk47 := hvk46.on hb47
             have hvr47 := hvr46.on hb47
             have hvx47 := hvx46.on hb47
             have hvi47 := hvi46.on hb47
             have hneivaa := Lib.hid (Nat.ne_of_lt hvi46.lt)
             have hvj47 := hvj46.on hb47
             have hnejvaa := Lib.hid (Nat.ne_of_lt hvj46.lt)
             have hvm47 := hvm46.on hb47
             have hnemvaa := Lib.hid (Nat.ne_of_lt hvm46.lt)
             have hvn47 := hvn46.on hb47
             have hnenvaa := Lib.hid (Nat.ne_of_lt hvn46.lt)
             have hvva47 := hvva46.on hb47
             clear hB46 hvk46 hvr46 hvx46 hvi46 hvj46 hvm46 hvn46 hvva46 hb47
             try simp only [Act.put, List.setIfInBounds_toArray, List.set_cons_zero, List.set_cons_succ]
             skip)
          | (refine sget_step rfl 38 (.tmp 7) rfl gi 8 (p2.map dcell) rfl hvi47 Tryd.underlying38 rfl size_ND (by rw [List.length_map, Hp2.out]) ?_
             try simp only [Act.put, List.setIfInBounds_toArray, List.set_cons_zero, List.set_cons_succ]
             skip)
          | (refine sget_step rfl 38 (.tmp 8) rfl gj 8 (q2.map dcell) rfl hvj47 Tryd.underlying38 rfl size_ND (by rw [List.length_map, Hq2.out]) ?_
             try simp only [Act.put, List.setIfInBounds_toArray, List.set_cons_zero, List.set_cons_succ]
             skip))
        generalize hqvaa : w46.heap.size = gvaa at *
        clear hqvaa
        refine (C3.out w47).mono ?_
        rintro e w48 ⟨rfl, hb48⟩
        have hB48 := below_then hB47 hb48
        have hvk48 := hvk47.on hb48
        have hvr48 := hvr47.on hb48
        have hvx48 := hvx47.on hb48
        have hvi48 := hvi47.on hb48
        have hvj48 := hvj47.on hb48
        have hvm48 := hvm47.on hb48
        have hvn48 := hvn47.on hb48
        have hvva48 := hvva47.on hb48
        have hvvaa48 := hvvaa47.on hb48
        clear hB47 hvk47 hvr47 hvx47 hvi47 hvj47 hvm47 hvn47 hvva47 hvvaa47 hb48
        go_wp2_with (first
          | (refine vput_step rfl rfl 38 (.tmp 16) (.tmp 63) rfl rfl 8 (dzeros 8) (b1.map dcell) rfl rfl zero_ND rfl size_ND (by rw [List.length_map, Hb1.out]) (dcells_one _) ?_
             intro w49 hb49 hvvb49
             have hB49 := below_then hB48 hb49
             have hvk49 := hvk48.on hb49
             have hvr49 := hvr48.on hb49
             have hvx49 := hvx48.on hb49
             have hvi49 := hvi48.on hb49
             have hneivb := Lib.hid (Nat.ne_of_lt hvi48.lt)
             have hvj49 := hvj48.on hb49
             have hnejvb := Lib.hid (Nat.ne_of_lt hvj48.lt)
             have hvm49 := hvm48.on hb49
             have hnemvb := Lib.hid (Nat.ne_of_lt hvm48.lt)
             have hvn49 := hvn48.on hb49
             have hnenvb := Lib.hid (Nat.ne_of_lt hvn48.lt)
             have hvva49 := hvva48.on hb49
             have hvvaa49 := hvvaa48.on hb49
             clear hB48 hvk48 hvr48 hvx48 hvi48 hvj48 hvm48 hvn48 hvva48 hvvaa48 hb49
             try simp only [Act.put, List.setIfInBounds_toArray, List.set_cons_zero, List.set_cons_succ]
             skip)
          | (refine sget_step rfl 38 (.tmp 16) rfl w48.heap.size 8 (b1.map dcell) rfl hvvb49 Tryd.underlying38 rfl size_ND (by rw [List.length_map, Hb1.out]) ?_
             try simp only [Act.put, List.setIfInBounds_toArray, List.set_cons_zero, List.set_cons_succ]
             skip)
          | (refine sget_step rfl 38 (.tmp 16) rfl w48.heap.size 8 (b1.map dcell) rfl hvvb49 Tryd.underlying38 rfl size_ND (by rw [List.length_map, Hb1.out]) ?_
             try simp only [Act.put, List.setIfInBounds_toArray, List.set_cons_zero, List.set_cons_succ]
             skip))
        generalize hqvb : w48.heap.size = gvb at *
        clear hqvb
        refine (C4.out w49).mono ?_
        rintro e w50 ⟨rfl, hb50⟩
        have hB50 := below_then hB49 hb50
        have hvk50 := hvk49.on hb50
        have hvr50 := hvr49.on hb50
        have hvx50 := hvx49.on hb50
        have hvi50 := hvi49.on hb50
        have hvj50 := hvj49.on hb50
        have hvm50 := hvm49.on hb50
        have hvn50 := hvn49.on hb50
        have hvva50 := hvva49.on hb50
        have hvvaa50 := hvvaa49.on hb50
        have hvvb50 := hvvb49.on hb50
        clear hB49 hvk49 hvr49 hvx49 hvi49 hvj49 hvm49 hvn49 hvva49 hvvaa49 hvvb49 hb50
        go_wp2_with (first
          | (refine vput_step rfl rfl 38 (.tmp 17) (.tmp 66) rfl rfl 8 (dzeros 8) (bb.map dcell) rfl rfl zero_ND rfl size_ND (by rw [List.length_map, Hbb.out]) (dcells_one _) ?_
             intro w51 hb51 hvvbb51
             have hB51 := below_then hB50 hb51
             have hvk51 := hvk50.on hb51
             have hvr51 := hvr50.on hb51
             have hvx51 := hvx50.on hb51
             have hvi51 := hvi50.on hb51
             have hneivbb := Lib.hid (Nat.ne_of_lt hvi50.lt)
             have hvj51 := hvj50.on hb51
             have hnejvbb := Lib.hid (Nat.ne_of_lt hvj50.lt)
             have hvm51 := hvm50.on hb51
             have hnemvbb := Lib.hid (Nat.ne_of_lt hvm50.lt)
             have hvn51 := hvn50.on hb51
             have hnenvbb := Lib.hid (Nat.ne_of_lt hvn50.lt)
             have hvva51 := hvva50.on hb51
             have hvvaa51 := hvvaa50.on hb51
             have hvvb51 := hvvb50.on hb51
             clear hB50 hvk50 hvr50 hvx50 hvi50 hvj50 hvm50 hvn50 hvva50 hvvaa50 hvvb50 hb51
             try simp only [Act.put, List.setIfInBounds_toArray, List.set_cons_zero, List.set_cons_succ]
             skip)
          | (refine sget_step rfl 38 (.tmp 15) rfl gvaa 8 (aa.map dcell) rfl hvvaa51 Tryd.underlying38 rfl size_ND (by rw [List.length_map, Haa.out]) ?_
             try simp only [Act.put, List.setIfInBounds_toArray, List.set_cons_zero, List.set_cons_succ]
             skip)
          | (refine sget_step rfl 38 (.tmp 17) rfl w50.heap.size 8 (bb.map dcell) rfl hvvbb51 Tryd.underlying38 rfl size_ND (by rw [List.length_map, Hbb.out]) ?_
             try simp only [Act.put, List.setIfInBounds_toArray, List.set_cons_zero, List.set_cons_succ]
             skip))
        generalize hqvbb : w50.heap.size = gvbb at *
        clear hqvbb
        refine (C5.out w51).mono ?_
        rintro e w52 ⟨rfl, hb52⟩
        have hB52 := below_then hB51 hb52
        have hvk52 := hvk51.on hb52
        have hvr52 := hvr51.on hb52
        have hvx52 := hvx51.on hb52
        have hvi52 := hvi51.on hb52
        have hvj52 := hvj51.on hb52
        have hvm52 := hvm51.on hb52
        have hvn52 := hvn51.on hb52
        have hvva52 := hvva51.on hb52
        have hvvaa52 := hvvaa51.on hb52
        have hvvb52 := hvvb51.on hb52
        have hvvbb52 := hvvbb51.on hb52
        clear hB51 hvk51 hvr51 hvx51 hvi51 hvj51 hvm51 hvn51 hvva51 hvvaa51 hvvb51 hvvbb51 hb52
        go_wp2_with (first
          | (refine vput_step rfl rfl 38 (.tmp 18) (.tmp 69) rfl rfl 8 (dzeros 8) (e1.map dcell) rfl rfl zero_ND rfl size_ND (by rw [List.length_map, He1.out]) (dcells_one _) ?_
             intro w53 hb53 hvve53
             have hB53 := below_then hB52 hb53
             have hvk53 := hvk52.on hb53
             have hvr53 := hvr52.on hb53
             have hvx53 := hvx52.on hb53
             have hvi53 := hvi52.on hb53
             have hneive := Lib.hid (Nat.ne_of_lt hvi52.lt)
             have hvj53 := hvj52.on hb53
             have hnejve := Lib.hid (Nat.ne_of_lt hvj52.lt)
             have hvm53 := hvm52.on hb53
             have hnemve := Lib.hid (Nat.ne_of_lt hvm52.lt)
             have hvn53 := hvn52.on hb53
             have hnenve := Lib.hid (Nat.ne_of_lt hvn52.lt)
             have hvva53 := hvva52.on hb53
             have hvvaa53 := hvvaa52.on hb53
             have hvvb53 := hvvb52.on hb53
             have hvvbb53 := hvvbb52.on hb53
             clear hB52 hvk52 hvr52 hvx52 hvi52 hvj52 hvm52 hvn52 hvva52 hvvaa52 hvvb52 hvvbb52 hb53
             try simp only [Act.put, List.setIfInBounds_toArray, List.set_cons_zero, List.set_cons_succ]
             skip)
          | (refine sget_step rfl 38 (.tmp 9) rfl gm 8 (p3.map dcell) rfl hvm53 Tryd.underlying38 rfl size_ND (by rw [List.length_map, Hp3.out]) ?_
             try simp only [Act.put, List.setIfInBounds_toArray, List.set_cons_zero, List.set_cons_succ]
             skip)
          | (refine sget_step rfl 38 (.tmp 10) rfl gn 8 (q3.map dcell) rfl hvn53 Tryd.underlying38 rfl size_ND (by rw [List.length_map, Hq3.out]) ?_
             try simp only [Act.put, List.setIfInBounds_toArray, List.set_cons_zero, List.set_cons_succ]
             skip))
        generalize hqve : w52.heap.size = gve at *
        clear hqve
        refine (C6.out w53).mono ?_
        rintro e w54 ⟨rfl, hb54⟩
        have hB54 := below_then hB53 hb54
        have hvk54 := hvk53.on hb54
        have hvr54 := hvr53.on hb54
        have hvx54 := hvx53.on hb54
        have hvi54 := hvi53.on hb54
        have hvj54 := hvj53.on hb54
        have hvm54 := hvm53.on hb54
        have hvn54 := hvn53.on hb54
        have hvva54 := hvva53.on hb54
        have hvvaa54 := hvvaa53.on hb54
        have hvvb54 := hvvb53.on hb54
        have hvvbb54 := hvvbb53.on hb54
        have hvve54 := hvve53.on hb54
        clear hB53 hvk53 hvr53 hvx53 hvi53 hvj53 hvm53 hvn53 hvva53 hvvaa53 hvvb53 hvvbb53 hvve53 hb54
        go_wp2_with (first
          | (refine vput_step rfl rfl 38 (.tmp 19) (.tmp 72) rfl rfl 8 (dzeros 8) (c1.map dcell) rfl rfl zero_ND rfl size_ND (by rw [List.length_map, Hc1.out]) (dcells_one _) ?_
             intro w55 hb55 hvvc55
             have hB55 := below_then hB54 hb55
             have hvk55 := hvk54.on hb55
             have hvr55 := hvr54.on hb55
             have hvx55 := hvx54.on hb55
             have hvi55 := hvi54.on hb55
             have hneivc := Lib.hid (Nat.ne_of_lt hvi54.lt)
             have hvj55 := hvj54.on hb55
             have hnejvc := Lib.hid (Nat.ne_of_lt hvj54.lt)
             have hvm55 := hvm54.on hb55
             have hnemvc := Lib.hid (Nat.ne_of_lt hvm54.lt)
             have hvn55 := hvn54.on hb55
             have hnenvc := Lib.hid (Nat.ne_of_lt hvn54.lt)
             have hvva55 := hvva54.on hb55
             have hvvaa55 := hvvaa54.on hb55
             have hvvb55 := hvvb54.on hb55
             have hvvbb55 := hvvbb54.on hb55
             have hvve55 := hvve54.on hb55
             clear hB54 hvk54 hvr54 hvx54 hvi54 hvj54 hvm54 hvn54 hvva54 hvvaa54 hvvb54 hvvbb54 hvve54 hb55
             try simp only [Act.put, List.setIfInBounds_toArray, List.set_cons_zero, List.set_cons_succ]
             skip)
          | (refine sget_step rfl 38 (.tmp 9) rfl gm 8 (p3.map dcell) rfl hvm55 Tryd.underlying38 rfl size_ND (by rw [List.length_map, Hp3.out]) ?_
             try simp only [Act.put, List.setIfInBounds_toArray, List.set_cons_zero, List.set_cons_succ]
             skip)
          | (refine sget_step rfl 38 (.tmp 10) rfl gn 8 (q3.map dcell) rfl hvn55 Tryd.underlying38 rfl size_ND (by rw [List.length_map, Hq3.out]) ?_
             try simp only [Act.put, List.setIfInBounds_toArray, List.set_cons_zero, List.set_cons_succ]
             skip))
        generalize hqvc : w54.heap.size = gvc at *
        clear hqvc
        refine (C7.out w55).mono ?_
        rintro e w56 ⟨rfl, hb56⟩
        have hB56 := below_then hB55 hb56
        have hvk56 := hvk55.on hb56
        have hvr56 := hvr55.on hb56
        have hvx56 := hvx55.on hb56
        have hvi56 := hvi55.on hb56
        have hvj56 := hvj55.on hb56
        have hvm56 := hvm55.on hb56
        have hvn56 := hvn55.on hb56
        have hvva56 := hvva55.on hb56
        have hvvaa56 := hvvaa55.on hb56
        have hvvb56 := hvvb55.on hb56
        have hvvbb56 := hvvbb55.on hb56
        have hvve56 := hvve55.on hb56
        have hvvc56 := hvvc55.on hb56
        clear hB55 hvk55 hvr55 hvx55 hvi55 hvj55 hvm55 hvn55 hvva55 hvvaa55 hvvb55 hvvbb55 hvve55 hvvc55 hb56
        go_wp2_with (first
          | (refine vput_step rfl rfl 38 (.tmp 20) (.tmp 75) rfl rfl 8 (dzeros 8) (d1.map dcell) rfl rfl zero_ND rfl size_ND (by rw [List.length_map, Hd1.out]) (dcells_one _) ?_
             intro w57 hb57 hvvd57
             have hB57 := below_then hB56 hb57
             have hvk57 := hvk56.on hb57
             have hvr57 := hvr56.on hb57
             have hvx57 := hvx56.on hb57
             have hvi57 := hvi56.on hb57
             have hneivd := Lib.hid (Nat.ne_of_lt hvi56.lt)
             have hvj57 := hvj56.on hb57
             have hnejvd := Lib.hid (Nat.ne_of_lt hvj56.lt)
             have hvm57 := hvm56.on hb57
             have hnemvd := Lib.hid (Nat.ne_of_lt hvm56.lt)
             have hvn57 := hvn56.on hb57
             have hnenvd := Lib.hid (Nat.ne_of_lt hvn56.lt)
             have hvva57 := hvva56.on hb57
             have hvvaa57 := hvvaa56.on hb57
             have hvvb57 := hvvb56.on hb57
             have hvvbb57 := hvvbb56.on hb57
             have hvve57 := hvve56.on hb57
             have hvvc57 := hvvc56.on hb57
             clear hB56 hvk56 hvr56 hvx56 hvi56 hvj56 hvm56 hvn56 hvva56 hvvaa56 hvvb56 hvvbb56 hvve56 hvvc56 hb57
             try simp only [Act.put, List.setIfInBounds_toArray, List.set_cons_zero, List.set_cons_succ]
             skip)
          | (refine sget_step rfl 38 (.tmp 20) rfl w56.heap.size 8 (d1.map dcell) rfl hvvd57 Tryd.underlying38 rfl size_ND (by rw [List.length_map, Hd1.out]) ?_
             try simp only [Act.put, List.setIfInBounds_toArray, List.set_cons_zero, List.set_cons_succ]
             skip)
          | (refine sget_step rfl 38 (.tmp 14) rfl gva 8 (a1.map dcell) rfl hvva57 Tryd.underlying38 rfl size_ND (by rw [List.length_map, Ha1.out]) ?_
             try simp only [Act.put, List.setIfInBounds_toArray, List.set_cons_zero, List.set_cons_succ]
             skip))
        generalize hqvd : w56.heap.size = gvd at *
        clear hqvd
        refine (C8.out w57).mono ?_
        rintro e w58 ⟨rfl, hb58⟩
        have hB58 := below_then hB57 hb58
        have hvk58 := hvk57.on hb58
        have hvr58 := hvr57.on hb58
        have hvx58 := hvx57.on hb58
        have hvi58 := hvi57.on hb58
        have hvj58 := hvj57.on hb58
        have hvm58 := hvm57.on hb58
        have hvn58 := hvn57.on hb58
        have hvva58 := hvva57.on hb58
        have hvvaa58 := hvvaa57.on hb58
        have hvvb58 := hvvb57.on hb58
        have hvvbb58 := hvvbb57.on hb58
        have hvve58 := hvve57.on hb58
        have hvvc58 := hvvc57.on hb58
        have hvvd58 := hvvd57.on hb58
        clear hB57 hvk57 hvr57 hvx57 hvi57 hvj57 hvm57 hvn57 hvva57 hvvaa57 hvvb57 hvvbb57 hvve57 hvvc57 hvvd57 hb58
        go_upto_region 22 with (first
          | (refine vput_step rfl rfl 38 (.tmp 21) (.tmp 78) rfl rfl 8 (dzeros 8) (da.map dcell) rfl rfl zero_ND rfl size_ND (by rw [List.length_map, Hda.out]) (dcells_one _) ?_
             intro w59 hb59 hvvda59
             have hB59 := below_then hB58 hb59
             have hvk59 := hvk58.on hb59
             have hvr59 := hvr58.on hb59
             have hvx59 := hvx58.on hb59
             have hvi59 := hvi58.on hb59
             have hneivda := Lib.hid (Nat.ne_of_lt hvi58.lt)
             have hvj59 := hvj58.on hb59
             have hnejvda := Lib.hid (Nat.ne_of_lt hvj58.lt)
             have hvm59 := hvm58.on hb59
             have hnemvda := Lib.hid (Nat.ne_of_lt hvm58.lt)
             have hvn59 := hvn58.on hb59
             have hnenvda := Lib.hid (Nat.ne_of_lt hvn58.lt)
             have hvva59 := hvva58.on hb59
             have hvvaa59 := hvvaa58.on hb59
             have hvvb59 := hvvb58.on hb59
             have hvvbb59 := hvvbb58.on hb59
             have hvve59 := hvve58.on hb59
             have hvvc59 := hvvc58.on hb59
             have hvvd59 := hvvd58.on hb59
             clear hB58 hvk58 hvr58 hvx58 hvi58 hvj58 hvm58 hvn58 hvva58 hvvaa58 hvvb58 hvvbb58 hvve58 hvvc58 hvvd58 hb59
             try simp only [Act.put, List.setIfInBounds_toArray, List.set_cons_zero, List.set_cons_succ]
             skip))
        generalize hqvda : w58.heap.size = gvda at *
        clear hqvda
        clear hvva59 hvvd59
        go_wp2_with (first
          | (refine sget_step rfl 38 (.tmp 19) rfl gvc 8 (c1.map dcell) rfl hvvc59 Tryd.underlying38 rfl size_ND (by rw [List.length_map, Hc1.out]) ?_
             try simp only [Act.put, List.setIfInBounds_toArray, List.set_cons_zero, List.set_cons_succ]
             skip)
          | (refine sget_step rfl 38 (.tmp 16) rfl gvb 8 (b1.map dcell) rfl hvvb59 Tryd.underlying38 rfl size_ND (by rw [List.length_map, Hb1.out]) ?_
             try simp only [Act.put, List.setIfInBounds_toArray, List.set_cons_zero, List.set_cons_succ]
             skip))
        refine (C9.out w59).mono ?_
        rintro e w60 ⟨rfl, hb60⟩
        have hB60 := below_then hB59 hb60
        have hvk60 := hvk59.on hb60
        have hvr60 := hvr59.on hb60
        have hvx60 := hvx59.on hb60
        have hvi60 := hvi59.on hb60
        have hvj60 := hvj59.on hb60
        have hvm60 := hvm59.on hb60
        have hvn60 := hvn59.on hb60
        have hvvaa60 := hvvaa59.on hb60
        have hvvb60 := hvvb59.on hb60
        have hvvbb60 := hvvbb59.on hb60
        have hvve60 := hvve59.on hb60
        have hvvc60 := hvvc59.on hb60
        have hvvda60 := hvvda59.on hb60
        clear hB59 hvk59 hvr59 hvx59 hvi59 hvj59 hvm59 hvn59 hvvaa59 hvvb59 hvvbb59 hvve59 hvvc59 hvvda59 hb60
        go_upto_region 23 with (first
          | (refine vput_step rfl rfl 38 (.tmp 22) (.tmp 81) rfl rfl 8 (dzeros 8) (cb.map dcell) rfl rfl zero_ND rfl size_ND (by rw [List.length_map, Hcb.out]) (dcells_one _) ?_
             intro w61 hb61 hvvcb61
             have hB61 := below_then hB60 hb61
             have hvk61 := hvk60.on hb61
             have hvr61 := hvr60.on hb61
             have hvx61 := hvx60.on hb61
             have hvi61 := hvi60.on hb61
             have hneivcb := Lib.hid (Nat.ne_of_lt hvi60.lt)
             have hvj61 := hvj60.on hb61
             have hnejvcb := Lib.hid (Nat.ne_of_lt hvj60.lt)
             have hvm61 := hvm60.on hb61
             have hnemvcb := Lib.hid (Nat.ne_of_lt hvm60.lt)
             have hvn61 := hvn60.on hb61
             have hnenvcb := Lib.hid (Nat.ne_of_lt hvn60.lt)
             have hvvaa61 := hvvaa60.on hb61
             have hvvb61 := hvvb60.on hb61
             have hvvbb61 := hvvbb60.on hb61
             have hvve61 := hvve60.on hb61
             have hvvc61 := hvvc60.on hb61
             have hvvda61 := hvvda60.on hb61
             clear hB60 hvk60 hvr60 hvx60 hvi60 hvj60 hvm60 hvn60 hvvaa60 hvvb60 hvvbb60 hvve60 hvvc60 hvvda60 hb61
             try simp only [Act.put, List.setIfInBounds_toArray, List.set_cons_zero, List.set_cons_succ]
             skip))
        generalize hqvcb : w60.heap.size = gvcb at *
        clear hqvcb
        clear hvvb61 hvvc61
        go_wp2_with (first
          | (refine sget_step rfl 38 (.tmp 21) rfl gvda 8 (da.map dcell) rfl hvvda61 Tryd.underlying38 rfl size_ND (by rw [List.length_map, Hda.out]) ?_
             try simp only [Act.put, List.setIfInBounds_toArray, List.set_cons_zero, List.set_cons_succ]
             skip)
          | (refine sget_step rfl 38 (.tmp 22) rfl gvcb 8 (cb.map dcell) rfl hvvcb61 Tryd.underlying38 rfl size_ND (by rw [List.length_map, Hcb.out]) ?_
             try simp only [Act.put, List.setIfInBounds_toArray, List.set_cons_zero, List.set_cons_succ]
             skip))
        refine (C10.out w61).mono ?_
        rintro e w62 ⟨rfl, hb62⟩
        have hB62 := below_then hB61 hb62
        have hvk62 := hvk61.on hb62
        have hvr62 := hvr61.on hb62
        have hvx62 := hvx61.on hb62
        have hvi62 := hvi61.on hb62
        have hvj62 := hvj61.on hb62
        have hvm62 := hvm61.on hb62
        have hvn62 := hvn61.on hb62
        have hvvaa62 := hvvaa61.on hb62
        have hvvbb62 := hvvbb61.on hb62
        have hvve62 := hvve61.on hb62
        have hvvda62 := hvvda61.on hb62
        have hvvcb62 := hvvcb61.on hb62
        clear hB61 hvk61 hvr61 hvx61 hvi61 hvj61 hvm61 hvn61 hvvaa61 hvvbb61 hvve61 hvvda61 hvvcb61 hb62
        go_wp2_with (first
          | (refine vput_step rfl rfl 38 (.tmp 23) (.tmp 84) rfl rfl 8 (dzeros 8) (su.map dcell) rfl rfl zero_ND rfl size_ND (by rw [List.length_map, Hsu.out]) (dcells_one _) ?_
             intro w63 hb63 hvvsu63
             have hB63 := below_then hB62 hb63
             have hvk63 := hvk62.on hb63
             have hvr63 := hvr62.on hb63
             have hvx63 := hvx62.on hb63
             have hvi63 := hvi62.on hb63
             have hneivsu := Lib.hid (Nat.ne_of_lt hvi62.lt)
             have hvj63 := hvj62.on hb63
             have hnejvsu := Lib.hid (Nat.ne_of_lt hvj62.lt)
             have hvm63 := hvm62.on hb63
             have hnemvsu := Lib.hid (Nat.ne_of_lt hvm62.lt)
             have hvn63 := hvn62.on hb63
             have hnenvsu := Lib.hid (Nat.ne_of_lt hvn62.lt)
             have hvvaa63 := hvvaa62.on hb63
             have hvvbb63 := hvvbb62.on hb63
             have hvve63 := hvve62.on hb63
             have hvvda63 := hvvda62.on hb63
             have hvvcb63 := hvvcb62.on hb63
             clear hB62 hvk62 hvr62 hvx62 hvi62 hvj62 hvm62 hvn62 hvvaa62 hvvbb62 hvve62 hvvda62 hvvcb62 hb63
             try simp only [Act.put, List.setIfInBounds_toArray, List.set_cons_zero, List.set_cons_succ]
             skip)
          | (refine sget_step rfl 38 (.tmp 21) rfl gvda 8 (da.map dcell) rfl hvvda63 Tryd.underlying38 rfl size_ND (by rw [List.length_map, Hda.out]) ?_
             try simp only [Act.put, List.setIfInBounds_toArray, List.set_cons_zero, List.set_cons_succ]
             skip)
          | (refine sget_step rfl 38 (.tmp 22) rfl gvcb 8 (cb.map dcell) rfl hvvcb63 Tryd.underlying38 rfl size_ND (by rw [List.length_map, Hcb.out]) ?_
             try simp only [Act.put, List.setIfInBounds_toArray, List.set_cons_zero, List.set_cons_succ]
             skip))
        generalize hqvsu : w62.heap.size = gvsu at *
        clear hqvsu
        refine (C11.out w63).mono ?_
        rintro e w64 ⟨rfl, hb64⟩
        have hB64 := below_then hB63 hb64
        have hvk64 := hvk63.on hb64
        have hvr64 := hvr63.on hb64
        have hvx64 := hvx63.on hb64
        have hvi64 := hvi63.on hb64
        have hvj64 := hvj63.on hb64
        have hvm64 := hvm63.on hb64
        have hvn64 := hvn63.on hb64
        have hvvaa64 := hvvaa63.on hb64
        have hvvbb64 := hvvbb63.on hb64
        have hvve64 := hvve63.on hb64
        have hvvda64 := hvvda63.on hb64
        have hvvcb64 := hvvcb63.on hb64
        have hvvsu64 := hvvsu63.on hb64
        clear hB63 hvk63 hvr63 hvx63 hvi63 hvj63 hvm63 hvn63 hvvaa63 hvvbb63 hvve63 hvvda63 hvvcb63 hvvsu63 hb64
        go_upto_region 25 with (first
          | (refine vput_step rfl rfl 38 (.tmp 24) (.tmp 87) rfl rfl 8 (dzeros 8) (di.map dcell) rfl rfl zero_ND rfl size_ND (by rw [List.length_map, Hdi.out]) (dcells_one _) ?_
             intro w65 hb65 hvvdi65
             have hB65 := below_then hB64 hb65
             have hvk65 := hvk64.on hb65
             have hvr65 := hvr64.on hb65
             have hvx65 := hvx64.on hb65
             have hvi65 := hvi64.on hb65
             have hneivdi := Lib.hid (Nat.ne_of_lt hvi64.lt)
             have hvj65 := hvj64.on hb65
             have hnejvdi := Lib.hid (Nat.ne_of_lt hvj64.lt)
             have hvm65 := hvm64.on hb65
             have hnemvdi := Lib.hid (Nat.ne_of_lt hvm64.lt)
             have hvn65 := hvn64.on hb65
             have hnenvdi := Lib.hid (Nat.ne_of_lt hvn64.lt)
             have hvvaa65 := hvvaa64.on hb65
             have hvvbb65 := hvvbb64.on hb65
             have hvve65 := hvve64.on hb65
             have hvvda65 := hvvda64.on hb65
             have hvvcb65 := hvvcb64.on hb65
             have hvvsu65 := hvvsu64.on hb65
             clear hB64 hvk64 hvr64 hvx64 hvi64 hvj64 hvm64 hvn64 hvvaa64 hvvbb64 hvve64 hvvda64 hvvcb64 hvvsu64 hb65
             try simp only [Act.put, List.setIfInBounds_toArray, List.set_cons_zero, List.set_cons_succ]
             skip))
        generalize hqvdi : w64.heap.size = gvdi at *
        clear hqvdi
        clear hvvda65 hvvcb65
        go_wp2_with (first
          | (refine sget_step rfl 38 (.tmp 23) rfl gvsu 8 (su.map dcell) rfl hvvsu65 Tryd.underlying38 rfl size_ND (by rw [List.length_map, Hsu.out]) ?_
             try simp only [Act.put, List.setIfInBounds_toArray, List.set_cons_zero, List.set_cons_succ]
             skip)
          | (refine sget_step rfl 38 (.tmp 23) rfl gvsu 8 (su.map dcell) rfl hvvsu65 Tryd.underlying38 rfl size_ND (by rw [List.length_map, Hsu.out]) ?_
             try simp only [Act.put, List.setIfInBounds_toArray, List.set_cons_zero, List.set_cons_succ]
             skip))
        refine (C12.out w65).mono ?_
        rintro e w66 ⟨rfl, hb66⟩
        have hB66 := below_then hB65 hb66
        have hvk66 := hvk65.on hb66
        have hvr66 := hvr65.on hb66
        have hvx66 := hvx65.on hb66
        have hvi66 := hvi65.on hb66
        have hvj66 := hvj65.on hb66
        have hvm66 := hvm65.on hb66
        have hvn66 := hvn65.on hb66
        have hvvaa66 := hvvaa65.on hb66
        have hvvbb66 := hvvbb65.on hb66
        have hvve66 := hvve65.on hb66
        have hvvsu66 := hvvsu65.on hb66
        have hvvdi66 := hvvdi65.on hb66
        clear hB65 hvk65 hvr65 hvx65 hvi65 hvj65 hvm65 hvn65 hvvaa65 hvvbb65 hvve65 hvvsu65 hvvdi65 hb66
        go_upto_region 26 with (first
          | (refine vset_step rfl 38 (.tmp 9) (.tmp 90) rfl gm 8 (p3.map dcell) (n3.map dcell) rfl rfl hvm66 (by rw [List.length_map, Hp3.out]) size_ND (by rw [List.length_map, Hn3.out]) (dcells_one _) ?_
             intro w67 hb67 hvm67 hz67
             have hB67 : Below w.heap.size w w67 := hB66.trans (hb67.below hgem hB66.size)
             have hvk67 := hvk66.but hb67 hnekm.out
             have hvr67 := hvr66.but hb67 hnerm.out
             have hvx67 := hvx66.but hb67 hnexm.out
             have hvi67 := hvi66.but hb67 hneim.out
             have hvj67 := hvj66.but hb67 hnejm.out
             have hvn67 := hvn66.but hb67 (Ne.symm hnemn.out)
             have hvvaa67 := hvvaa66.but hb67 (Ne.symm hnemvaa.out)
             have hvvbb67 := hvvbb66.but hb67 (Ne.symm hnemvbb.out)
             have hvve67 := hvve66.but hb67 (Ne.symm hnemve.out)
             have hvvsu67 := hvvsu66.but hb67 (Ne.symm hnemvsu.out)
             have hvvdi67 := hvvdi66.but hb67 (Ne.symm hnemvdi.out)
             clear hB66 hvm66 hb67 hz67 hvk66 hvr66 hvx66 hvi66 hvj66 hvn66 hvvaa66 hvvbb66 hvve66 hvvsu66 hvvdi66
             skip))
        clear hvvsu67
        go_wp2_with fail
        replace hvk67 := hvk67.drew
        replace hvr67 := hvr67.drew
        replace hvx67 := hvx67.drew
        replace hvi67 := hvi67.drew
        replace hvj67 := hvj67.drew
        replace hvm67 := hvm67.drew
        replace hvn67 := hvn67.drew
        replace hvvaa67 := hvvaa67.drew
        replace hvvbb67 := hvvbb67.drew
        replace hvve67 := hvve67.drew
        replace hvvdi67 := hvvdi67.drew
        refine wp_region_any (by kernel_rfl) ?_
        refine wpAny_flatM (L := [0, 1, 2, 3, 4]) (by kernel_rfl) _ _ (rMultVs26_3 key ub w.heap.size gu gr gx go gi gj gm gn bv k gva gvaa gvb gvbb gve gvc gvd gvda gvcb gvsu gvdi kc xx one zz u36 u37 q sv p2 p3 q2 q3 a1 aa b1 bb e1 c1 d1 da cb su di n3 dd m3 u96 u97 u98 u99 u100 u101 u102 u103 u104 u105) [] 48 (nzeros 5) [0, 1, 2, 3, 4, 5, 6, 7, 8, 9, 10, 11, 12, 13, 14, 15, 16, 17, 18, 19, 20, 21, 22, 23, 24, 25, 26, 27, 28, 29, 30, 31, 32, 33, 34, 35, 36, 37, 38, 39, 40, 41, 42, 43, 44, 45, 46, 47, 48, 49, 50, 51, 52, 53, 54, 55, 56, 57, 58, 59, 60, 61, 62, 63, 64, 65, 66, 67, 68, 69, 70, 71, 72, 73, 74, 75, 76, 77, 78, 79, 80, 81, 82, 83, 84, 85, 86, 87, 88, 89, 90, 96, 97, 98, 99, 100, 101, 102, 103, 104, 105, 106, 107, 108, 109, 110, 111, 112, 113, 114] (by kernel_rfl) (by kernel_rfl) ?_ zero_elem ?_ (by rfl) ?_ 1 (by kernel_rfl) ?_
        · intro p hp
          exact absurd hp List.not_mem_nil
        · exact all_cons rfl (all_cons rfl (all_cons rfl (all_cons rfl (all_cons rfl (all_cons rfl (all_cons rfl (all_cons rfl (all_cons rfl (all_cons rfl (all_cons rfl (all_cons rfl (all_cons rfl (all_cons rfl (all_cons rfl (all_cons rfl (all_cons rfl (all_cons rfl (all_cons rfl (all_cons rfl (all_cons rfl (all_cons rfl (all_cons rfl (all_cons rfl (all_cons rfl (all_cons rfl (all_cons rfl (all_cons rfl (all_cons rfl (all_cons rfl (all_cons rfl (all_cons rfl (all_cons rfl (all_cons rfl (all_cons rfl (all_cons rfl (all_cons rfl (all_cons rfl (all_cons rfl (all_cons rfl (all_cons rfl (all_cons rfl (all_cons rfl (all_cons rfl (all_cons rfl (all_cons rfl (all_cons rfl (all_cons rfl (all_cons rfl (all_cons rfl (all_cons rfl (all_cons rfl (all_cons rfl (all_cons rfl (all_cons rfl (all_cons rfl (all_cons rfl (all_cons rfl (all_cons rfl (all_cons rfl (all_cons rfl (all_cons rfl (all_cons rfl (all_cons rfl (all_cons rfl (all_cons rfl (all_cons rfl (all_cons rfl (all_cons rfl (all_cons rfl (all_cons rfl (all_cons rfl (all_cons rfl (all_cons rfl (all_cons rfl (all_cons rfl (all_cons rfl (all_cons rfl (all_cons rfl (all_cons rfl (all_cons rfl (all_cons rfl (all_cons rfl (all_cons rfl (all_cons rfl (all_cons rfl (all_cons rfl (all_cons rfl (all_cons rfl (all_cons rfl (all_cons rfl (all_cons rfl (all_cons rfl (all_cons rfl (all_cons rfl (all_cons rfl (all_cons rfl (all_cons rfl (all_cons rfl (all_cons rfl (all_cons rfl (all_cons rfl (all_cons rfl (all_cons rfl (all_cons rfl (all_cons rfl (all_cons rfl (all_cons rfl (all_cons rfl (all_cons rfl (all_nil))))))))))))))))))))))))))))))))))))))))))))))))))))))))))))))))))))))))))))))))))))))))))))))))))))))))))))))
        · refine all_cons (.inr (mStep _ 91 rfl rfl rfl rfl (by kernel_rfl) (fun a hv => wanted_all rfl _) (fun a w K hb hv hK => mPure (numD xx) (exec_load _ _ _ _ rfl _ _ (hv 5 (by kernel_rfl) rfl) w (num_run (hvx67.on hb) Hxx.out)) hK))) ?_
          refine all_cons (.inr (mStep _ 92 rfl rfl rfl rfl (by kernel_rfl) (fun a hv => wanted_all rfl _) (fun a w K hb hv hK => mPure (numD di) (exec_load _ _ _ _ rfl _ _ (hv 24 (by kernel_rfl) rfl) w (num_run (hvvdi67.on hb) Hdi.out)) hK))) ?_
          refine all_cons (.inr (mStep _ 93 rfl rfl rfl rfl (by kernel_rfl) (fun a hv => wanted_all rfl _) (fun a w K hb hv hK => mPure (numD di) (exec_load _ _ _ _ rfl _ _ (hv 24 (by kernel_rfl) rfl) w (num_run (hvvdi67.on hb) Hdi.out)) hK))) ?_
          refine all_cons (.inr (mStep _ 94 rfl rfl rfl rfl (by kernel_rfl) (fun a hv => wanted_all rfl _) (fun a w K hb hv hK => mCall (numD dd) 17 _ _ rfl [numD di, numD di] (cons_eq (hv 92 (by kernel_rfl) rfl) (cons_eq (hv 93 (by kernel_rfl) rfl) (rfl))) (enters Tryd.func17 rfl rfl) (C13.out w) hK))) ?_
          refine all_cons (.inr (mStep _ 95 rfl rfl rfl rfl (by kernel_rfl) (fun a hv => wanted_all rfl _) (fun a w K hb hv hK => mCall (numD m3) 17 _ _ rfl [numD xx, numD dd] (cons_eq (hv 91 (by kernel_rfl) rfl) (cons_eq (hv 94 (by kernel_rfl) rfl) (rfl))) (enters Tryd.func17 rfl rfl) (C14.out w) hK))) ?_
          exact all_nil
        intro w68 g hb68 hN68 hap68
        clear hN68 hap68
        have hB68 := below_then (show Below w.heap.size w w67.drew from hB67.drew) hb68
        have hvk68 := hvk67.on hb68
        have hvr68 := hvr67.on hb68
        have hvx68 := hvx67.on hb68
        have hvi68 := hvi67.on hb68
        have hvj68 := hvj67.on hb68
        have hvm68 := hvm67.on hb68
        have hvn68 := hvn67.on hb68
        have hvvaa68 := hvvaa67.on hb68
        have hvvbb68 := hvvbb67.on hb68
        have hvve68 := hvve67.on hb68
        have hvvdi68 := hvvdi67.on hb68
        clear hB67 hvk67 hvr67 hvx67 hvi67 hvj67 hvm67 hvn67 hvvaa67 hvvbb67 hvve67 hvvdi67 hb68
        refine wpAny_rest 5 rfl (by kernel_rfl) ?_
        refine vset_step rfl 38 (.tmp 10) (.tmp 95) rfl gn 8 (q3.map dcell) (m3.map dcell) rfl rfl hvn68 (by rw [List.length_map, Hq3.out]) size_ND (by rw [List.length_map, Hm3.out]) (dcells_one _) ?_
        intro w69 hb69 hvn69 hz69
        have hB69 : Below w.heap.size w w69 := hB68.trans (hb69.below hgen hB68.size)
        have hvk69 := hvk68.but hb69 hnekn.out
        have hvr69 := hvr68.but hb69 hnern.out
        have hvx69 := hvx68.but hb69 hnexn.out
        have hvi69 := hvi68.but hb69 hnein.out
        have hvj69 := hvj68.but hb69 hnejn.out
        have hvm69 := hvm68.but hb69 hnemn.out
        have hvvaa69 := hvvaa68.but hb69 (Ne.symm hnenvaa.out)
        have hvvbb69 := hvvbb68.but hb69 (Ne.symm hnenvbb.out)
        have hvve69 := hvve68.but hb69 (Ne.symm hnenve.out)
        have hvvdi69 := hvvdi68.but hb69 (Ne.symm hnenvdi.out)
        clear hB68 hvn68 hb69 hz69 hvk68 hvr68 hvx68 hvi68 hvj68 hvm68 hvvaa68 hvvbb68 hvve68 hvvdi68
        rename_i K hKK
        show Exit.then K _ Exit.normal (⟨(rMultVs26_3 key ub w.heap.size gu gr gx go gi gj gm gn bv k gva gvaa gvb gvbb gve gvc gvd gvda gvcb gvsu gvdi kc xx one zz u36 u37 q sv p2 p3 q2 q3 a1 aa b1 bb e1 c1 d1 da cb su di n3 dd m3 u96 u97 u98 u99 u100 u101 u102 u103 u104 u105).toArray, []⟩ : Act) w69
        simp only [Exit.then]
        refine hKK _ _ ?_
        clear hKK K g
        simp only [rMultVs26_3]
        go_upto_region 27 with fail
        clear hvvdi69
        go_wp2_with (first
          | (refine sget_step rfl 38 (.tmp 15) rfl gvaa 8 (aa.map dcell) rfl hvvaa69 Tryd.underlying38 rfl size_ND (by rw [List.length_map, Haa.out]) ?_
             try simp only [Act.put, List.setIfInBounds_toArray, List.set_cons_zero, List.set_cons_succ]
             skip)
          | (refine sget_step rfl 38 (.tmp 17) rfl gvbb 8 (bb.map dcell) rfl hvvbb69 Tryd.underlying38 rfl size_ND (by rw [List.length_map, Hbb.out]) ?_
             try simp only [Act.put, List.setIfInBounds_toArray, List.set_cons_zero, List.set_cons_succ]
             skip))
        refine (C15.out w69).mono ?_
        rintro e w70 ⟨rfl, hb70⟩
        have hB70 := below_then hB69 hb70
        have hvk70 := hvk69.on hb70
        have hvr70 := hvr69.on hb70
        have hvx70 := hvx69.on hb70
        have hvi70 := hvi69.on hb70
        have hvj70 := hvj69.on hb70
        have hvm70 := hvm69.on hb70
        have hvn70 := hvn69.on hb70
        have hvvaa70 := hvvaa69.on hb70
        have hvvbb70 := hvvbb69.on hb70
        have hvve70 := hvve69.on hb70
        clear hB69 hvk69 hvr69 hvx69 hvi69 hvj69 hvm69 hvn69 hvvaa69 hvvbb69 hvve69 hb70
        go_upto_region 28 with (first
          | (refine vset_step rfl 38 (.tmp 7) (.tmp 98) rfl gi 8 (p2.map dcell) (n2.map dcell) rfl rfl hvi70 (by rw [List.length_map, Hp2.out]) size_ND (by rw [List.length_map, Hn2.out]) (dcells_one _) ?_
             intro w71 hb71 hvi71 hz71
             have hB71 : Below w.heap.size w w71 := hB70.trans (hb71.below hgei hB70.size)
             have hvk71 := hvk70.but hb71 hneki.out
             have hvr71 := hvr70.but hb71 hneri.out
             have hvx71 := hvx70.but hb71 hnexi.out
             have hvj71 := hvj70.but hb71 (Ne.symm hneij.out)
             have hvm71 := hvm70.but hb71 (Ne.symm hneim.out)
             have hvn71 := hvn70.but hb71 (Ne.symm hnein.out)
             have hvvaa71 := hvvaa70.but hb71 (Ne.symm hneivaa.out)
             have hvvbb71 := hvvbb70.but hb71 (Ne.symm hneivbb.out)
             have hvve71 := hvve70.but hb71 (Ne.symm hneive.out)
             clear hB70 hvi70 hb71 hz71 hvk70 hvr70 hvx70 hvj70 hvm70 hvn70 hvvaa70 hvvbb70 hvve70
             skip))
        clear hvvbb71
        go_wp2_with fail
        replace hvk71 := hvk71.drew
        replace hvr71 := hvr71.drew
        replace hvx71 := hvx71.drew
        replace hvi71 := hvi71.drew
        replace hvj71 := hvj71.drew
        replace hvm71 := hvm71.drew
        replace hvn71 := hvn71.drew
        replace hvvaa71 := hvvaa71.drew
        replace hvve71 := hvve71.drew
        refine wp_region_any (by kernel_rfl) ?_
        refine wpAny_flatM (L := [0, 1, 2, 3, 4, 5, 6]) (by kernel_rfl) _ _ (rMultVs28_4 key ub w.heap.size gu gr gx go gi gj gm gn bv k gva gvaa gvb gvbb gve gvc gvd gvda gvcb gvsu gvdi kc xx one zz u36 u37 q sv p2 p3 q2 q3 a1 aa b1 bb e1 c1 d1 da cb su di n3 dd m3 n2 qq qe ae m2) [] 48 (nzeros 5) [0, 1, 2, 3, 4, 5, 6, 7, 8, 9, 10, 11, 12, 13, 14, 15, 16, 17, 18, 19, 20, 21, 22, 23, 24, 25, 26, 27, 28, 29, 30, 31, 32, 33, 34, 35, 36, 37, 38, 39, 40, 41, 42, 43, 44, 45, 46, 47, 48, 49, 50, 51, 52, 53, 54, 55, 56, 57, 58, 59, 60, 61, 62, 63, 64, 65, 66, 67, 68, 69, 70, 71, 72, 73, 74, 75, 76, 77, 78, 79, 80, 81, 82, 83, 84, 85, 86, 87, 88, 89, 90, 91, 92, 93, 94, 95, 96, 97, 98, 106, 107, 108, 109, 110, 111, 112, 113, 114] (by kernel_rfl) (by kernel_rfl) ?_ zero_elem ?_ (by rfl) ?_ 1 (by kernel_rfl) ?_
        · intro p hp
          exact absurd hp List.not_mem_nil
        · exact all_cons rfl (all_cons rfl (all_cons rfl (all_cons rfl (all_cons rfl (all_cons rfl (all_cons rfl (all_cons rfl (all_cons rfl (all_cons rfl (all_cons rfl (all_cons rfl (all_cons rfl (all_cons rfl (all_cons rfl (all_cons rfl (all_cons rfl (all_cons rfl (all_cons rfl (all_cons rfl (all_cons rfl (all_cons rfl (all_cons rfl (all_cons rfl (all_cons rfl (all_cons rfl (all_cons rfl (all_cons rfl (all_cons rfl (all_cons rfl (all_cons rfl (all_cons rfl (all_cons rfl (all_cons rfl (all_cons rfl (all_cons rfl (all_cons rfl (all_cons rfl (all_cons rfl (all_cons rfl (all_cons rfl (all_cons rfl (all_cons rfl (all_cons rfl (all_cons rfl (all_cons rfl (all_cons rfl (all_cons rfl (all_cons rfl (all_cons rfl (all_cons rfl (all_cons rfl (all_cons rfl (all_cons rfl (all_cons rfl (all_cons rfl (all_cons rfl (all_cons rfl (all_cons rfl (all_cons rfl (all_cons rfl (all_cons rfl (all_cons rfl (all_cons rfl (all_cons rfl (all_cons rfl (all_cons rfl (all_cons rfl (all_cons rfl (all_cons rfl (all_cons rfl (all_cons rfl (all_cons rfl (all_cons rfl (all_cons rfl (all_cons rfl (all_cons rfl (all_cons rfl (all_cons rfl (all_cons rfl (all_cons rfl (all_cons rfl (all_cons rfl (all_cons rfl (all_cons rfl (all_cons rfl (all_cons rfl (all_cons rfl (all_cons rfl (all_cons rfl (all_cons rfl (all_cons rfl (all_cons rfl (all_cons rfl (all_cons rfl (all_cons rfl (all_cons rfl (all_cons rfl (all_cons rfl (all_cons rfl (all_cons rfl (all_cons rfl (all_cons rfl (all_cons rfl (all_cons rfl (all_cons rfl (all_cons rfl (all_cons rfl (all_nil))))))))))))))))))))))))))))))))))))))))))))))))))))))))))))))))))))))))))))))))))))))))))))))))))))))))))))
        · refine all_cons (.inr (mStep _ 99 rfl rfl rfl rfl (by kernel_rfl) (fun a hv => wanted_all rfl _) (fun a w K hb hv hK => mPure (numD e1) (exec_load _ _ _ _ rfl _ _ (hv 18 (by kernel_rfl) rfl) w (num_run (hvve71.on hb) He1.out)) hK))) ?_
          refine all_cons (.inr (mStep _ 100 rfl rfl rfl rfl (by kernel_rfl) (fun a hv => wanted_all rfl _) (fun a w K hb hv hK => mPure (numD aa) (exec_load _ _ _ _ rfl _ _ (hv 15 (by kernel_rfl) rfl) w (num_run (hvvaa71.on hb) Haa.out)) hK))) ?_
          refine all_cons (.inr (mStep _ 101 rfl rfl rfl rfl (by kernel_rfl) (fun a hv => wanted_all rfl _) (fun a w K hb hv hK => mPure (numD qq) (exec_build _ _ _ [(0, .const (.int .u32 121665))] rfl [(0, dcell 121665)] rfl _ w (BQ w)) hK))) ?_
          refine all_cons (.inr (mStep _ 102 rfl rfl rfl rfl (by kernel_rfl) (fun a hv => wanted_all rfl _) (fun a w K hb hv hK => mPure (numD e1) (exec_load _ _ _ _ rfl _ _ (hv 18 (by kernel_rfl) rfl) w (num_run (hvve71.on hb) He1.out)) hK))) ?_
          refine all_cons (.inr (mStep _ 103 rfl rfl rfl rfl (by kernel_rfl) (fun a hv => wanted_all rfl _) (fun a w K hb hv hK => mCall (numD qe) 17 _ _ rfl [numD qq, numD e1] (cons_eq (hv 101 (by kernel_rfl) rfl) (cons_eq (hv 102 (by kernel_rfl) rfl) (rfl))) (enters Tryd.func17 rfl rfl) (C16.out w) hK))) ?_
          refine all_cons (.inr (mStep _ 104 rfl rfl rfl rfl (by kernel_rfl) (fun a hv => wanted_all rfl _) (fun a w K hb hv hK => mCall (numD ae) 16 _ _ rfl [numD aa, numD qe] (cons_eq (hv 100 (by kernel_rfl) rfl) (cons_eq (hv 103 (by kernel_rfl) rfl) (rfl))) (enters Tryd.func16 rfl rfl) (C17.out w) hK))) ?_
          refine all_cons (.inr (mStep _ 105 rfl rfl rfl rfl (by kernel_rfl) (fun a hv => wanted_all rfl _) (fun a w K hb hv hK => mCall (numD m2) 17 _ _ rfl [numD e1, numD ae] (cons_eq (hv 99 (by kernel_rfl) rfl) (cons_eq (hv 104 (by kernel_rfl) rfl) (rfl))) (enters Tryd.func17 rfl rfl) (C18.out w) hK))) ?_
          exact all_nil
        intro w72 g hb72 hN72 hap72
        clear hN72 hap72
        have hB72 := below_then (show Below w.heap.size w w71.drew from hB71.drew) hb72
        have hvk72 := hvk71.on hb72
        have hvr72 := hvr71.on hb72
        have hvx72 := hvx71.on hb72
        have hvi72 := hvi71.on hb72
        have hvj72 := hvj71.on hb72
        have hvm72 := hvm71.on hb72
        have hvn72 := hvn71.on hb72
        have hvvaa72 := hvvaa71.on hb72
        have hvve72 := hvve71.on hb72
        clear hB71 hvk71 hvr71 hvx71 hvi71 hvj71 hvm71 hvn71 hvvaa71 hvve71 hb72
        refine wpAny_rest 7 rfl (by kernel_rfl) ?_
        refine vset_step rfl 38 (.tmp 8) (.tmp 105) rfl gj 8 (q2.map dcell) (m2.map dcell) rfl rfl hvj72 (by rw [List.length_map, Hq2.out]) size_ND (by rw [List.length_map, Hm2.out]) (dcells_one _) ?_
        intro w73 hb73 hvj73 hz73
        have hB73 : Below w.heap.size w w73 := hB72.trans (hb73.below hgej hB72.size)
        have hvk73 := hvk72.but hb73 hnekj.out
        have hvr73 := hvr72.but hb73 hnerj.out
        have hvx73 := hvx72.but hb73 hnexj.out
        have hvi73 := hvi72.but hb73 hneij.out
        have hvm73 := hvm72.but hb73 (Ne.symm hnejm.out)
        have hvn73 := hvn72.but hb73 (Ne.symm hnejn.out)
        have hvvaa73 := hvvaa72.but hb73 (Ne.symm hnejvaa.out)
        have hvve73 := hvve72.but hb73 (Ne.symm hnejve.out)
        clear hB72 hvj72 hb73 hz73 hvk72 hvr72 hvx72 hvi72 hvm72 hvn72 hvvaa72 hvve72
        rename_i K hKK
        show Exit.inBlock _ (Exit.then K _) Exit.normal (⟨(rMultVs28_4 key ub w.heap.size gu gr gx go gi gj gm gn bv k gva gvaa gvb gvbb gve gvc gvd gvda gvcb gvsu gvdi kc xx one zz u36 u37 q sv p2 p3 q2 q3 a1 aa b1 bb e1 c1 d1 da cb su di n3 dd m3 n2 qq qe ae m2).toArray, []⟩ : Act) w73
        simp only [Exit.inBlock, Exit.then]
        refine hKK _ _ ?_
        clear hKK K g
        simp only [rMultVs28_4]
        go_wp2_with fail
        go_roundw
        case rel => first | exact ⟨k, by omega, by rw [HXb.out], by go_num, hB73, hvk73, hvr73, hvx73, by rw [hX.out]; exact hvi73, by rw [hZ.out]; exact hvj73, by rw [hY.out]; exact hvm73, by rw [hV.out]; exact hvn73⟩ | trace_state
        case measure => simp [intOf] <;> omega
    · obtain rfl : j = 0 := by omega
      rw [show (((0 : Nat) : Int) - 1) = -1 from rfl]
      obtain ⟨c, hll, hc0, hc1⟩ := HE.out
      obtain ⟨Hfx, Hfz, Hx3, Hz3⟩ := hll
      replace Hfx := Lib.hid Hfx
      replace Hfz := Lib.hid Hfz
      replace Hx3 := Lib.hid Hx3
      replace Hz3 := Lib.hid Hz3
      clear HR HS HX HZ HY HV HE
      cases c
      · have hc2 := hc0 rfl
        clear hc0 hc1
        obtain ⟨hcs, hcx, hcz, hcy, hcv⟩ := hc2
        rw [hcs]
        rw [hcx] at hvil
        rw [hcz] at hvjl
        rw [hcy] at hvml
        rw [hcv] at hvnl
        clear hcx hcz hcy hcv hcs
        go_wp2_with fail
        replace hvkl := hvkl.drew
        replace hvrl := hvrl.drew
        replace hvxl := hvxl.drew
        replace hvil := hvil.drew
        replace hvjl := hvjl.drew
        replace hvml := hvml.drew
        replace hvnl := hvnl.drew
        refine wp_region_any (by kernel_rfl) ?_
        refine wpAny_flatM (L := [0, 1, 2, 3, 4]) (by kernel_rfl) _ _ (rMultVs31_5 key ub w.heap.size gu gr gx go gi gj gm gn u13 u14 u15 u16 u17 u18 u19 u20 u21 u22 u23 u24 kc xx one zz u36 u37 u38 u39 u40 u41 u42 u43 u44 u45 u46 u47 u48 u49 u50 u51 u52 u53 u54 u55 u56 u57 u58 u59 u60 u61 u62 u63 u64 u65 u66 u67 u68 u69 u70 u71 u72 u73 u74 u75 u76 u77 u78 u79 u80 u81 u82 u83 u84 u85 u86 u87 u88 u89 u90 u91 u92 u93 u94 u95 u96 u97 u98 u99 u100 u101 u102 u103 u104 u105 fx fz iv pr kb) [] 48 (nzeros 5) [0, 1, 2, 3, 4, 5, 6, 7, 8, 9, 10, 11, 12, 13, 14, 15, 16, 17, 18, 19, 20, 21, 22, 23, 24, 25, 26, 27, 28, 29, 30, 31, 32, 33, 34, 35, 36, 37, 38, 39, 40, 41, 42, 43, 44, 45, 46, 47, 48, 49, 50, 51, 52, 53, 54, 55, 56, 57, 58, 59, 60, 61, 62, 63, 64, 65, 66, 67, 68, 69, 70, 71, 72, 73, 74, 75, 76, 77, 78, 79, 80, 81, 82, 83, 84, 85, 86, 87, 88, 89, 90, 91, 92, 93, 94, 95, 96, 97, 98, 99, 100, 101, 102, 103, 104, 105, 106, 107, 108, 109] (by kernel_rfl) (by kernel_rfl) ?_ zero_elem ?_ (by rfl) ?_ 1 (by kernel_rfl) ?_
        · intro p hp
          exact absurd hp List.not_mem_nil
        · exact all_cons rfl (all_cons rfl (all_cons rfl (all_cons rfl (all_cons rfl (all_cons rfl (all_cons rfl (all_cons rfl (all_cons rfl (all_cons rfl (all_cons rfl (all_cons rfl (all_cons rfl (all_cons rfl (all_cons rfl (all_cons rfl (all_cons rfl (all_cons rfl (all_cons rfl (all_cons rfl (all_cons rfl (all_cons rfl (all_cons rfl (all_cons rfl (all_cons rfl (all_cons rfl (all_cons rfl (all_cons rfl (all_cons rfl (all_cons rfl (all_cons rfl (all_cons rfl (all_cons rfl (all_cons rfl (all_cons rfl (all_cons rfl (all_cons rfl (all_cons rfl (all_cons rfl (all_cons rfl (all_cons rfl (all_cons rfl (all_cons rfl (all_cons rfl (all_cons rfl (all_cons rfl (all_cons rfl (all_cons rfl (all_cons rfl (all_cons rfl (all_cons rfl (all_cons rfl (all_cons rfl (all_cons rfl (all_cons rfl (all_cons rfl (all_cons rfl (all_cons rfl (all_cons rfl (all_cons rfl (all_cons rfl (all_cons rfl (all_cons rfl (all_cons rfl (all_cons rfl (all_cons rfl (all_cons rfl (all_cons rfl (all_cons rfl (all_cons rfl (all_cons rfl (all_cons rfl (all_cons rfl (all_cons rfl (all_cons rfl (all_cons rfl (all_cons rfl (all_cons rfl (all_cons rfl (all_cons rfl (all_cons rfl (all_cons rfl (all_cons rfl (all_cons rfl (all_cons rfl (all_cons rfl (all_cons rfl (all_cons rfl (all_cons rfl (all_cons rfl (all_cons rfl (all_cons rfl (all_cons rfl (all_cons rfl (all_cons rfl (all_cons rfl (all_cons rfl (all_cons rfl (all_cons rfl (all_cons rfl (all_cons rfl (all_cons rfl (all_cons rfl (all_cons rfl (all_cons rfl (all_cons rfl (all_cons rfl (all_cons rfl (all_cons rfl (all_cons rfl (all_nil))))))))))))))))))))))))))))))))))))))))))))))))))))))))))))))))))))))))))))))))))))))))))))))))))))))))))))))
        · refine all_cons (.inr (mStep _ 110 rfl rfl rfl rfl (by kernel_rfl) (fun a hv => wanted_all rfl _) (fun a w K hb hv hK => mPure (numD fx) (exec_load _ _ _ _ rfl _ _ (hv 7 (by kernel_rfl) rfl) w (num_run (hvil.on hb) Hfx.out)) hK))) ?_
          refine all_cons (.inr (mStep _ 111 rfl rfl rfl rfl (by kernel_rfl) (fun a hv => wanted_all rfl _) (fun a w K hb hv hK => mPure (numD fz) (exec_load _ _ _ _ rfl _ _ (hv 8 (by kernel_rfl) rfl) w (num_run (hvjl.on hb) Hfz.out)) hK))) ?_
          refine all_cons (.inr (mStep _ 112 rfl rfl rfl rfl (by kernel_rfl) (fun a hv => wanted_all rfl _) (fun a w K hb hv hK => mCall (numD iv) 20 _ _ rfl [numD fz] (cons_eq (hv 111 (by kernel_rfl) rfl) (rfl)) (enters Tryd.func20 rfl rfl) (CI.out w) hK))) ?_
          refine all_cons (.inr (mStep _ 113 rfl rfl rfl rfl (by kernel_rfl) (fun a hv => wanted_all rfl _) (fun a w K hb hv hK => mCall (numD pr) 17 _ _ rfl [numD fx, numD iv] (cons_eq (hv 110 (by kernel_rfl) rfl) (cons_eq (hv 112 (by kernel_rfl) rfl) (rfl))) (enters Tryd.func17 rfl rfl) (CT.out w) hK))) ?_
          refine all_cons (.inr (mStep _ 114 rfl rfl rfl rfl (by kernel_rfl) (fun a hv => wanted_all rfl _) (fun a w K hb hv hK => mCall (hashVal kb) 19 _ _ rfl [numD pr] (cons_eq (hv 113 (by kernel_rfl) rfl) (rfl)) (enters Tryd.func19 rfl rfl) (CE.out w) hK))) ?_
          exact all_nil
        intro w74 g hb74 hN74 hap74
        clear hN74 hap74
        have hB74 := below_then (show Below w.heap.size w wr.drew from hBl.drew) hb74
        have hvk74 := hvkl.on hb74
        have hvr74 := hvrl.on hb74
        have hvx74 := hvxl.on hb74
        have hvi74 := hvil.on hb74
        have hvj74 := hvjl.on hb74
        have hvm74 := hvml.on hb74
        have hvn74 := hvnl.on hb74
        clear hBl hvkl hvrl hvxl hvil hvjl hvml hvnl hb74
        refine wpAny_rest 5 rfl (by kernel_rfl) ?_
        refine vset_step rfl 22 (.tmp 4) (.tmp 114) rfl gr 32 kzeros (kb.map cellOf) rfl rfl hvr74 rfl size_b32 (by rw [List.length_map, Hkb.out]) (kcells_one _) ?_
        intro w75 hb75 hvr75 hz75
        have hB75 : Below w.heap.size w w75 := hB74.trans (hb75.below hger hB74.size)
        have hvk75 := hvk74.but hb75 hnekr.out
        have hvx75 := hvx74.but hb75 (Ne.symm hnerx.out)
        have hvi75 := hvi74.but hb75 (Ne.symm hneri.out)
        have hvj75 := hvj74.but hb75 (Ne.symm hnerj.out)
        have hvm75 := hvm74.but hb75 (Ne.symm hnerm.out)
        have hvn75 := hvn74.but hb75 (Ne.symm hnern.out)
        clear hB74 hvr74 hb75 hz75 hvk74 hvx74 hvi74 hvj74 hvm74 hvn74
        rename_i K hKK
        show Exit.then K _ Exit.normal (⟨(rMultVs31_5 key ub w.heap.size gu gr gx go gi gj gm gn u13 u14 u15 u16 u17 u18 u19 u20 u21 u22 u23 u24 kc xx one zz u36 u37 u38 u39 u40 u41 u42 u43 u44 u45 u46 u47 u48 u49 u50 u51 u52 u53 u54 u55 u56 u57 u58 u59 u60 u61 u62 u63 u64 u65 u66 u67 u68 u69 u70 u71 u72 u73 u74 u75 u76 u77 u78 u79 u80 u81 u82 u83 u84 u85 u86 u87 u88 u89 u90 u91 u92 u93 u94 u95 u96 u97 u98 u99 u100 u101 u102 u103 u104 u105 fx fz iv pr kb).toArray, []⟩ : Act) w75
        simp only [Exit.then]
        refine hKK _ _ ?_
        clear hKK K g
        simp only [rMultVs31_5]
        go_wp2
        exact sret Tryd.results7 gr (kb.map cellOf) rfl hvr75 Tryd.underlying22 rfl size_b32 (by rw [List.length_map, Hkb.out]) rfl ⟨rfl, hB75⟩
      · have hc2 := hc1 rfl
        clear hc0 hc1
        obtain ⟨hcs, hcx, hcz, hcy, hcv⟩ := hc2
        rw [hcs]
        rw [hcx] at hvil
        rw [hcz] at hvjl
        rw [hcy] at hvml
        rw [hcv] at hvnl
        clear hcx hcz hcy hcv hcs
        go_wp2_with fail
        replace hvkl := hvkl.drew
        replace hvrl := hvrl.drew
        replace hvxl := hvxl.drew
        replace hvil := hvil.drew
        replace hvjl := hvjl.drew
        replace hvml := hvml.drew
        replace hvnl := hvnl.drew
        rename_i K hKK
        have hB76 := (show Below w.heap.size w wr.drew from hBl.drew)
        clear hBl
        refine wp_region_any (by kernel_rfl) ?_
        refine wpAny_of_held (S := fun w' => Cells w' gn (fz.map dcell) 38) _ _ _ _ ?_
        show wpAnyH _ _ _ _ _ _ _ _ wr.drew
        simp only [List.size_toArray, List.length_cons, List.length_nil, Nat.reduceAdd, Array.replicate_succ, Array.replicate_zero, List.push_toArray, List.nil_append, List.cons_append]
        generalize wr.drew = w76 at *
        refine wpAnyH_take (i := 1) (oi := ⟨some 109, _, _, _, _, _⟩) (v := numD fz) rfl (by kernel_rfl) (by kernel_rfl) (by kernel_rfl) (fun _ _ _ h => h) (Or.inl ⟨by rfl, ?_⟩) hvnl ?_
        · intro w8 h8
          exact exec_load _ _ _ _ rfl _ _ rfl _ (num_run h8 Hfz.out)
        refine wpAnyH_all (rs := [0]) (by kernel_rfl) (by decide) fun i hi => ?_
        obtain rfl := List.mem_singleton.1 hi
        clear hi
        refine wpOp_step rfl fun K1 hK1 => ?_
        rw [if_pos (by rfl)]
        refine flat_pure (numD fx) (exec_load _ _ _ _ rfl _ _ rfl _ (num_run hvml Hfx.out)) (hK1 _ _ ⟨hvnl, ?_⟩)
        clear hK1 K1
        refine wpAnyH_all (rs := [2]) (by kernel_rfl) (by decide) fun i hi => ?_
        obtain rfl := List.mem_singleton.1 hi
        clear hi
        refine wpOp_step rfl fun K1 hK1 => ?_
        rw [if_pos (by rfl)]
        refine wp_store_mid 38 (.tmp 7) (.tmp 108) rfl gi 0 (fx.map dcell).toArray rfl rfl (by rw [List.size_toArray, List.length_map, Hfx.out]; exact hvil.there 0 8 (by rw [List.length_map, Hx3.out]; decide)) (by rw [List.size_toArray, List.length_map, Hfx.out]; exact size_ND) (dcells_one _) (hK1 _ _ ?_)
        have hC2 := hvil.setCells (cs := fx.map dcell) (o := 0) (by rw [List.length_map, List.length_map, Hfx.out, Hx3.out]; decide)
        rw [splice_all _ _ (by rw [List.length_map, List.length_map, Hfx.out, Hx3.out])] at hC2
        have hb77 : But gi w76 (w76.setCells gi 0 (fx.map dcell)) := (But.refl _ _).setCells _ _
        have hB77 : Below w.heap.size w (w76.setCells gi 0 (fx.map dcell)) := hB76.trans (hb77.below hgei hB76.size)
        change Cells (w76.setCells gi 0 (fx.map dcell)) gn (fz.map dcell) 38 ∧ wpAnyH _ _ _ _ _ _ _ _ (w76.setCells gi 0 (fx.map dcell))
        have hvk77 := hvkl.but hb77 hneki.out
        have hvr77 := hvrl.but hb77 hneri.out
        have hvx77 := hvxl.but hb77 hnexi.out
        have hvj77 := hvjl.but hb77 (Ne.symm hneij.out)
        have hvm77 := hvml.but hb77 (Ne.symm hneim.out)
        have hvn77 := hvnl.but hb77 (Ne.symm hnein.out)
        have hvi77 := hC2
        clear hC2 hb77 hK1 K1 hB76 hvil hvkl hvrl hvxl hvjl hvml hvnl
        generalize w76.setCells gi 0 (fx.map dcell) = w77 at *
        refine ⟨hvn77, ?_⟩
        refine wpAnyH_all (rs := [3]) (by kernel_rfl) (by decide) fun i hi => ?_
        obtain rfl := List.mem_singleton.1 hi
        clear hi
        refine wpOp_step rfl fun K1 hK1 => ?_
        rw [if_pos (by rfl)]
        refine wp_store_mid 38 (.tmp 8) (.tmp 109) rfl gj 0 (fz.map dcell).toArray rfl rfl (by rw [List.size_toArray, List.length_map, Hfz.out]; exact hvj77.there 0 8 (by rw [List.length_map, Hz3.out]; decide)) (by rw [List.size_toArray, List.length_map, Hfz.out]; exact size_ND) (dcells_one _) (hK1 _ _ ?_)
        have hC2 := hvj77.setCells (cs := fz.map dcell) (o := 0) (by rw [List.length_map, List.length_map, Hfz.out, Hz3.out]; decide)
        rw [splice_all _ _ (by rw [List.length_map, List.length_map, Hfz.out, Hz3.out])] at hC2
        have hb78 : But gj w77 (w77.setCells gj 0 (fz.map dcell)) := (But.refl _ _).setCells _ _
        have hB78 : Below w.heap.size w (w77.setCells gj 0 (fz.map dcell)) := hB77.trans (hb78.below hgej hB77.size)
        change Cells (w77.setCells gj 0 (fz.map dcell)) gn (fz.map dcell) 38 ∧ wpAnyH _ _ _ _ _ _ _ _ (w77.setCells gj 0 (fz.map dcell))
        have hvk78 := hvk77.but hb78 hnekj.out
        have hvr78 := hvr77.but hb78 hnerj.out
        have hvx78 := hvx77.but hb78 hnexj.out
        have hvi78 := hvi77.but hb78 hneij.out
        have hvm78 := hvm77.but hb78 (Ne.symm hnejm.out)
        have hvn78 := hvn77.but hb78 (Ne.symm hnejn.out)
        have hvj78 := hC2
        clear hC2 hb78 hK1 K1 hB77 hvj77 hvk77 hvr77 hvx77 hvi77 hvm77 hvn77
        generalize w77.setCells gj 0 (fz.map dcell) = w78 at *
        refine ⟨hvn78, ?_⟩
        refine wpAnyH_done (by kernel_rfl) ?_ _
        show Exit.then K _ Exit.normal (⟨((hashVal key) :: (hashVal ub) :: (.pointer (some ⟨w.heap.size, 0, none⟩)) :: (.pointer (some ⟨gu, 0, none⟩)) :: (.pointer (some ⟨gr, 0, none⟩)) :: (.pointer (some ⟨gx, 0, none⟩)) :: (.pointer (some ⟨go, 0, none⟩)) :: (.pointer (some ⟨gi, 0, none⟩)) :: (.pointer (some ⟨gj, 0, none⟩)) :: (.pointer (some ⟨gm, 0, none⟩)) :: (.pointer (some ⟨gn, 0, none⟩)) :: (.int .u8 1) :: (.int .i64 (-1)) :: (u13) :: (u14) :: (u15) :: (u16) :: (u17) :: (u18) :: (u19) :: (u20) :: (u21) :: (u22) :: (u23) :: (u24) :: (hashVal key) :: (hashVal kc) :: (hashVal ub) :: (numD xx) :: (numD one) :: (numD one) :: (numD zz) :: (numD xx) :: (numD one) :: (.int .i64 (-1)) :: (.bool false) :: (u36) :: (u37) :: (u38) :: (u39) :: (u40) :: (u41) :: (u42) :: (u43) :: (u44) :: (u45) :: (u46) :: (u47) :: (u48) :: (u49) :: (u50) :: (u51) :: (u52) :: (u53) :: (u54) :: (u55) :: (u56) :: (u57) :: (u58) :: (u59) :: (u60) :: (u61) :: (u62) :: (u63) :: (u64) :: (u65) :: (u66) :: (u67) :: (u68) :: (u69) :: (u70) :: (u71) :: (u72) :: (u73) :: (u74) :: (u75) :: (u76) :: (u77) :: (u78) :: (u79) :: (u80) :: (u81) :: (u82) :: (u83) :: (u84) :: (u85) :: (u86) :: (u87) :: (u88) :: (u89) :: (u90) :: (u91) :: (u92) :: (u93) :: (u94) :: (u95) :: (u96) :: (u97) :: (u98) :: (u99) :: (u100) :: (u101) :: (u102) :: (u103) :: (u104) :: (u105) :: (.int .u8 1) :: (.bool true) :: (numD fx) :: (numD fz) :: undef :: undef :: undef :: undef :: undef :: []).toArray, []⟩ : Act) w78
        simp only [Exit.then]
        refine hKK _ _ ?_
        clear hKK K
        go_wp2_with fail
        replace hvk78 := hvk78.drew
        replace hvr78 := hvr78.drew
        replace hvx78 := hvx78.drew
        replace hvi78 := hvi78.drew
        replace hvj78 := hvj78.drew
        replace hvm78 := hvm78.drew
        replace hvn78 := hvn78.drew
        refine wp_region_any (by kernel_rfl) ?_
        refine wpAny_flatM (L := [0, 1, 2, 3, 4]) (by kernel_rfl) _ _ (rMultVs31_6 key ub w.heap.size gu gr gx go gi gj gm gn u13 u14 u15 u16 u17 u18 u19 u20 u21 u22 u23 u24 kc xx one zz u36 u37 u38 u39 u40 u41 u42 u43 u44 u45 u46 u47 u48 u49 u50 u51 u52 u53 u54 u55 u56 u57 u58 u59 u60 u61 u62 u63 u64 u65 u66 u67 u68 u69 u70 u71 u72 u73 u74 u75 u76 u77 u78 u79 u80 u81 u82 u83 u84 u85 u86 u87 u88 u89 u90 u91 u92 u93 u94 u95 u96 u97 u98 u99 u100 u101 u102 u103 u104 u105 fx fz iv pr kb) [] 48 (nzeros 5) [0, 1, 2, 3, 4, 5, 6, 7, 8, 9, 10, 11, 12, 13, 14, 15, 16, 17, 18, 19, 20, 21, 22, 23, 24, 25, 26, 27, 28, 29, 30, 31, 32, 33, 34, 35, 36, 37, 38, 39, 40, 41, 42, 43, 44, 45, 46, 47, 48, 49, 50, 51, 52, 53, 54, 55, 56, 57, 58, 59, 60, 61, 62, 63, 64, 65, 66, 67, 68, 69, 70, 71, 72, 73, 74, 75, 76, 77, 78, 79, 80, 81, 82, 83, 84, 85, 86, 87, 88, 89, 90, 91, 92, 93, 94, 95, 96, 97, 98, 99, 100, 101, 102, 103, 104, 105, 106, 107, 108, 109] (by kernel_rfl) (by kernel_rfl) ?_ zero_elem ?_ (by rfl) ?_ 1 (by kernel_rfl) ?_
        · intro p hp
          exact absurd hp List.not_mem_nil
        · exact all_cons rfl (all_cons rfl (all_cons rfl (all_cons rfl (all_cons rfl (all_cons rfl (all_cons rfl (all_cons rfl (all_cons rfl (all_cons rfl (all_cons rfl (all_cons rfl (all_cons rfl (all_cons rfl (all_cons rfl (all_cons rfl (all_cons rfl (all_cons rfl (all_cons rfl (all_cons rfl (all_cons rfl (all_cons rfl (all_cons rfl (all_cons rfl (all_cons rfl (all_cons rfl (all_cons rfl (all_cons rfl (all_cons rfl (all_cons rfl (all_cons rfl (all_cons rfl (all_cons rfl (all_cons rfl (all_cons rfl (all_cons rfl (all_cons rfl (all_cons rfl (all_cons rfl (all_cons rfl (all_cons rfl (all_cons rfl (all_cons rfl (all_cons rfl (all_cons rfl (all_cons rfl (all_cons rfl (all_cons rfl (all_cons rfl (all_cons rfl (all_cons rfl (all_cons rfl (all_cons rfl (all_cons rfl (all_cons rfl (all_cons rfl (all_cons rfl (all_cons rfl (all_cons rfl (all_cons rfl (all_cons rfl (all_cons rfl (all_cons rfl (all_cons rfl (all_cons rfl (all_cons rfl (all_cons rfl (all_cons rfl (all_cons rfl (all_cons rfl (all_cons rfl (all_cons rfl (all_cons rfl (all_cons rfl (all_cons rfl (all_cons rfl (all_cons rfl (all_cons rfl (all_cons rfl (all_cons rfl (all_cons rfl (all_cons rfl (all_cons rfl (all_cons rfl (all_cons rfl (all_cons rfl (all_cons rfl (all_cons rfl (all_cons rfl (all_cons rfl (all_cons rfl (all_cons rfl (all_cons rfl (all_cons rfl (all_cons rfl (all_cons rfl (all_cons rfl (all_cons rfl (all_cons rfl (all_cons rfl (all_cons rfl (all_cons rfl (all_cons rfl (all_cons rfl (all_cons rfl (all_cons rfl (all_cons rfl (all_cons rfl (all_cons rfl (all_cons rfl (all_nil))))))))))))))))))))))))))))))))))))))))))))))))))))))))))))))))))))))))))))))))))))))))))))))))))))))))))))))
        · refine all_cons (.inr (mStep _ 110 rfl rfl rfl rfl (by kernel_rfl) (fun a hv => wanted_all rfl _) (fun a w K hb hv hK => mPure (numD fx) (exec_load _ _ _ _ rfl _ _ (hv 7 (by kernel_rfl) rfl) w (num_run (hvi78.on hb) Hfx.out)) hK))) ?_
          refine all_cons (.inr (mStep _ 111 rfl rfl rfl rfl (by kernel_rfl) (fun a hv => wanted_all rfl _) (fun a w K hb hv hK => mPure (numD fz) (exec_load _ _ _ _ rfl _ _ (hv 8 (by kernel_rfl) rfl) w (num_run (hvj78.on hb) Hfz.out)) hK))) ?_
          refine all_cons (.inr (mStep _ 112 rfl rfl rfl rfl (by kernel_rfl) (fun a hv => wanted_all rfl _) (fun a w K hb hv hK => mCall (numD iv) 20 _ _ rfl [numD fz] (cons_eq (hv 111 (by kernel_rfl) rfl) (rfl)) (enters Tryd.func20 rfl rfl) (CI.out w) hK))) ?_
          refine all_cons (.inr (mStep _ 113 rfl rfl rfl rfl (by kernel_rfl) (fun a hv => wanted_all rfl _) (fun a w K hb hv hK => mCall (numD pr) 17 _ _ rfl [numD fx, numD iv] (cons_eq (hv 110 (by kernel_rfl) rfl) (cons_eq (hv 112 (by kernel_rfl) rfl) (rfl))) (enters Tryd.func17 rfl rfl) (CT.out w) hK))) ?_
          refine all_cons (.inr (mStep _ 114 rfl rfl rfl rfl (by kernel_rfl) (fun a hv => wanted_all rfl _) (fun a w K hb hv hK => mCall (hashVal kb) 19 _ _ rfl [numD pr] (cons_eq (hv 113 (by kernel_rfl) rfl) (rfl)) (enters Tryd.func19 rfl rfl) (CE.out w) hK))) ?_
          exact all_nil
        intro w79 g hb79 hN79 hap79
        clear hN79 hap79
        have hB79 := below_then (show Below w.heap.size w w78.drew from hB78.drew) hb79
        have hvk79 := hvk78.on hb79
        have hvr79 := hvr78.on hb79
        have hvx79 := hvx78.on hb79
        have hvi79 := hvi78.on hb79
        have hvj79 := hvj78.on hb79
        have hvm79 := hvm78.on hb79
        have hvn79 := hvn78.on hb79
        clear hB78 hvk78 hvr78 hvx78 hvi78 hvj78 hvm78 hvn78 hb79
        refine wpAny_rest 5 rfl (by kernel_rfl) ?_
        refine vset_step rfl 22 (.tmp 4) (.tmp 114) rfl gr 32 kzeros (kb.map cellOf) rfl rfl hvr79 rfl size_b32 (by rw [List.length_map, Hkb.out]) (kcells_one _) ?_
        intro w80 hb80 hvr80 hz80
        have hB80 : Below w.heap.size w w80 := hB79.trans (hb80.below hger hB79.size)
        have hvk80 := hvk79.but hb80 hnekr.out
        have hvx80 := hvx79.but hb80 (Ne.symm hnerx.out)
        have hvi80 := hvi79.but hb80 (Ne.symm hneri.out)
        have hvj80 := hvj79.but hb80 (Ne.symm hnerj.out)
        have hvm80 := hvm79.but hb80 (Ne.symm hnerm.out)
        have hvn80 := hvn79.but hb80 (Ne.symm hnern.out)
        clear hB79 hvr79 hb80 hz80 hvk79 hvx79 hvi79 hvj79 hvm79 hvn79
        rename_i K hKK
        show Exit.then K _ Exit.normal (⟨(rMultVs31_6 key ub w.heap.size gu gr gx go gi gj gm gn u13 u14 u15 u16 u17 u18 u19 u20 u21 u22 u23 u24 kc xx one zz u36 u37 u38 u39 u40 u41 u42 u43 u44 u45 u46 u47 u48 u49 u50 u51 u52 u53 u54 u55 u56 u57 u58 u59 u60 u61 u62 u63 u64 u65 u66 u67 u68 u69 u70 u71 u72 u73 u74 u75 u76 u77 u78 u79 u80 u81 u82 u83 u84 u85 u86 u87 u88 u89 u90 u91 u92 u93 u94 u95 u96 u97 u98 u99 u100 u101 u102 u103 u104 u105 fx fz iv pr kb).toArray, []⟩ : Act) w80
        simp only [Exit.then]
        refine hKK _ _ ?_
        clear hKK K g
        simp only [rMultVs31_6]
        go_wp2
        exact sret Tryd.results7 gr (kb.map cellOf) rfl hvr80 Tryd.underlying22 rfl size_b32 (by rw [List.length_map, Hkb.out]) rfl ⟨rfl, hB80⟩
end Go.Proofs.YtlhgabhjbnckkaaDoor
