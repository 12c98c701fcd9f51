/- Part 19 of what the laws of this seat share: BRead, BReadN, UTold. -/
import Derived.Deep.Cut
import Derived.IntWalk
import Derived.Test.YtoggkhjaghkpnaaGreatDoorPart18
set_option maxRecDepth 100000
set_option maxHeartbeats 8000000
namespace Go.Proofs.YtoggkhjaghkpnaaGreatDoor
open Go.RowKit
def Ax (kb:List UInt8) (g_base:Nat) (gr:Nat) (gy:Nat) (q:UInt8) (v:UInt8) (kc:List UInt8) (y:List Nat) (yl:List Nat) (nq:Bool):List Value:=
 (Ca kb)::ptr g_base::ptr gr::(.int .i64 0)::(.bool false)::ptr gy::ud 3 ((.pointer (some ⟨g_base,31,none⟩))::(Fa q)::(.bool false)::(.pointer (some ⟨g_base,31,none⟩))::(Fa q)::(.int .u8 (v.toNat:Int))::(.pointer (some ⟨g_base,31,none⟩))::(Ca kc)::(Da y)::(Da y)::(Da yl)::(Da y)::(.bool nq)::ud 37 [])
def Ny (kb:List UInt8) (g_base:Nat) (gr:Nat) (gy:Nat) (gv:Nat) (ok:Bool) (q:UInt8) (v:UInt8) (kc:List UInt8) (y:List Nat) (yl:List Nat) (yy:List Nat) (x:List Nat) (o:List Nat) (s1:List Nat) (dd:List Nat) (t1:List Nat) (a1:List Nat) (iv:List Nat) (pr:List Nat):List Value:=
 (Ca kb)::ptr g_base::ptr gr::(.int .i64 0)::(.bool false)::ptr gy::ptr gv::undef::(.bool ok)::(.pointer (some ⟨g_base,31,none⟩))::(Fa q)::(.bool false)::(.pointer (some ⟨g_base,31,none⟩))::(Fa q)::(.int .u8 (v.toNat:Int))::(.pointer (some ⟨g_base,31,none⟩))::(Ca kc)::(Da y)::(Da y)::(Da yl)::(Da y)::(.bool false)::undef::(Da y)::(Da y)::(Da yy)::(.tuple #[Da x,.bool ok])::(Da yy)::(Da o)::(Da s1)::(Da dd)::(Da yy)::(Da t1)::(Da o)::(Da a1)::(Da iv)::(Da pr)::(.tuple #[Da x,.bool ok])::(Da x)::(.bool ok)::ud 19 []
def qn (kb:List UInt8) (g_base:Nat) (gr:Nat) (gy:Nat) (gv:Nat) (ok:Bool) (q:UInt8) (v:UInt8) (kc:List UInt8) (y:List Nat) (yl:List Nat) (yy:List Nat) (x:List Nat) (o:List Nat) (s1:List Nat) (dd:List Nat) (t1:List Nat) (a1:List Nat) (iv:List Nat) (pr:List Nat) (n7:Nat):List Value:=
 (Ca kb)::ptr g_base::ptr gr::(.int .i64 0)::(.bool false)::ptr gy::ptr gv::ptr n7::(.bool ok)::(.pointer (some ⟨g_base,31,none⟩))::(Fa q)::(.bool false)::(.pointer (some ⟨g_base,31,none⟩))::(Fa q)::(.int .u8 (v.toNat:Int))::(.pointer (some ⟨g_base,31,none⟩))::(Ca kc)::(Da y)::(Da y)::(Da yl)::(Da y)::(.bool false)::undef::(Da y)::(Da y)::(Da yy)::(.tuple #[Da x,.bool ok])::(Da yy)::(Da o)::(Da s1)::(Da dd)::(Da yy)::(Da t1)::(Da o)::(Da a1)::(Da iv)::(Da pr)::(.tuple #[Da x,.bool ok])::(Da x)::(.bool ok)::ud 19 []
def qp (kb:List UInt8) (g_base:Nat) (gr:Nat) (gy:Nat) (gv:Nat) (gx:Nat) (q:UInt8) (v:UInt8) (kc:List UInt8) (y:List Nat) (yl:List Nat) (yy:List Nat) (x:List Nat) (o:List Nat) (s1:List Nat) (dd:List Nat) (t1:List Nat) (a1:List Nat) (iv:List Nat) (pr:List Nat):List Value:=
 (Ca kb)::ptr g_base::ptr gr::(.int .i64 0)::(.bool false)::ptr gy::ptr gv::ptr gx::(.bool false)::(.pointer (some ⟨g_base,31,none⟩))::(Fa q)::(.bool false)::(.pointer (some ⟨g_base,31,none⟩))::(Fa q)::(.int .u8 (v.toNat:Int))::(.pointer (some ⟨g_base,31,none⟩))::(Ca kc)::(Da y)::(Da y)::(Da yl)::(Da y)::(.bool false)::undef::(Da y)::(Da y)::(Da yy)::(.tuple #[Da x,.bool false])::(Da yy)::(Da o)::(Da s1)::(Da dd)::(Da yy)::(Da t1)::(Da o)::(Da a1)::(Da iv)::(Da pr)::(.tuple #[Da x,.bool false])::(Da x)::(.bool false)::(.bool false)::(.bool true)::(.bool true)::ud 6 ((.bool true)::ud 9 [])
def Aq (kb:List UInt8) (g_base:Nat) (gr:Nat) (gy:Nat) (gv:Nat) (gx:Nat) (q:UInt8) (v:UInt8) (kc:List UInt8) (y:List Nat) (yl:List Nat) (yy:List Nat) (x:List Nat) (o:List Nat) (s1:List Nat) (dd:List Nat) (t1:List Nat) (a1:List Nat) (iv:List Nat) (pr:List Nat):List Value:=
 (Ca kb)::ptr g_base::ptr gr::(.int .i64 0)::(.bool false)::ptr gy::ptr gv::ptr gx::(.bool true)::(.pointer (some ⟨g_base,31,none⟩))::(Fa q)::(.bool false)::(.pointer (some ⟨g_base,31,none⟩))::(Fa q)::(.int .u8 (v.toNat:Int))::(.pointer (some ⟨g_base,31,none⟩))::(Ca kc)::(Da y)::(Da y)::(Da yl)::(Da y)::(.bool false)::undef::(Da y)::(Da y)::(Da yy)::(.tuple #[Da x,.bool true])::(Da yy)::(Da o)::(Da s1)::(Da dd)::(Da yy)::(Da t1)::(Da o)::(Da a1)::(Da iv)::(Da pr)::(.tuple #[Da x,.bool true])::(Da x)::(.bool true)::(.bool true)::(.bool false)::(.bool false)::(.bool false)::(.bool false)::ud 3 ((.bool false)::(.bool false)::ud 9 [])
def Ao (kb:List UInt8) (g_base:Nat) (gr:Nat) (gy:Nat) (gv:Nat) (gx:Nat) (q:UInt8) (v:UInt8) (kc:List UInt8) (y:List Nat) (yl:List Nat) (yy:List Nat) (x:List Nat) (o:List Nat) (s1:List Nat) (dd:List Nat) (t1:List Nat) (a1:List Nat) (iv:List Nat) (pr:List Nat) (r0:List Nat):List Value:=
 (Ca kb)::ptr g_base::ptr gr::(.int .i64 0)::(.bool false)::ptr gy::ptr gv::ptr gx::(.bool true)::(.pointer (some ⟨g_base,31,none⟩))::(Fa q)::(.bool false)::(.pointer (some ⟨g_base,31,none⟩))::(Fa q)::(.int .u8 (v.toNat:Int))::(.pointer (some ⟨g_base,31,none⟩))::(Ca kc)::(Da y)::(Da y)::(Da yl)::(Da y)::(.bool false)::undef::(Da y)::(Da y)::(Da yy)::(.tuple #[Da x,.bool true])::(Da yy)::(Da o)::(Da s1)::(Da dd)::(Da yy)::(Da t1)::(Da o)::(Da a1)::(Da iv)::(Da pr)::(.tuple #[Da x,.bool true])::(Da x)::(.bool true)::(.bool true)::(.bool false)::(.bool false)::(.bool false)::(.bool false)::ud 3 ((.bool false)::(.bool false)::undef::(.bool false)::ud 3 ((Da x)::(Da y)::(Da o)::(Da r0)::[]))
def Bq (kb:List UInt8) (g_base:Nat) (gr:Nat) (gy:Nat) (q:UInt8) (v:UInt8) (kc:List UInt8) (y:List Nat) (yl:List Nat) (nq:Bool):List Value:=
 (Ca kb)::ptr g_base::ptr gr::(.int .i64 0)::(.bool true)::ptr gy::ud 3 ((.pointer (some ⟨g_base,31,none⟩))::(Fa q)::(.bool true)::(.pointer (some ⟨g_base,31,none⟩))::(Fa q)::(.int .u8 (v.toNat:Int))::(.pointer (some ⟨g_base,31,none⟩))::(Ca kc)::(Da y)::(Da y)::(Da yl)::(Da y)::(.bool nq)::ud 37 [])
def Oy (kb:List UInt8) (g_base:Nat) (gr:Nat) (gy:Nat) (gv:Nat) (ok:Bool) (q:UInt8) (v:UInt8) (kc:List UInt8) (y:List Nat) (yl:List Nat) (yy:List Nat) (x:List Nat) (o:List Nat) (s1:List Nat) (dd:List Nat) (t1:List Nat) (a1:List Nat) (iv:List Nat) (pr:List Nat):List Value:=
 (Ca kb)::ptr g_base::ptr gr::(.int .i64 0)::(.bool true)::ptr gy::ptr gv::undef::(.bool ok)::(.pointer (some ⟨g_base,31,none⟩))::(Fa q)::(.bool true)::(.pointer (some ⟨g_base,31,none⟩))::(Fa q)::(.int .u8 (v.toNat:Int))::(.pointer (some ⟨g_base,31,none⟩))::(Ca kc)::(Da y)::(Da y)::(Da yl)::(Da y)::(.bool false)::undef::(Da y)::(Da y)::(Da yy)::(.tuple #[Da x,.bool ok])::(Da yy)::(Da o)::(Da s1)::(Da dd)::(Da yy)::(Da t1)::(Da o)::(Da a1)::(Da iv)::(Da pr)::(.tuple #[Da x,.bool ok])::(Da x)::(.bool ok)::ud 19 []
def Bo (kb:List UInt8) (g_base:Nat) (gr:Nat) (gy:Nat) (gv:Nat) (ok:Bool) (q:UInt8) (v:UInt8) (kc:List UInt8) (y:List Nat) (yl:List Nat) (yy:List Nat) (x:List Nat) (o:List Nat) (s1:List Nat) (dd:List Nat) (t1:List Nat) (a1:List Nat) (iv:List Nat) (pr:List Nat) (n7:Nat):List Value:=
 (Ca kb)::ptr g_base::ptr gr::(.int .i64 0)::(.bool true)::ptr gy::ptr gv::ptr n7::(.bool ok)::(.pointer (some ⟨g_base,31,none⟩))::(Fa q)::(.bool true)::(.pointer (some ⟨g_base,31,none⟩))::(Fa q)::(.int .u8 (v.toNat:Int))::(.pointer (some ⟨g_base,31,none⟩))::(Ca kc)::(Da y)::(Da y)::(Da yl)::(Da y)::(.bool false)::undef::(Da y)::(Da y)::(Da yy)::(.tuple #[Da x,.bool ok])::(Da yy)::(Da o)::(Da s1)::(Da dd)::(Da yy)::(Da t1)::(Da o)::(Da a1)::(Da iv)::(Da pr)::(.tuple #[Da x,.bool ok])::(Da x)::(.bool ok)::ud 19 []
def Cq (kb:List UInt8) (g_base:Nat) (gr:Nat) (gy:Nat) (gv:Nat) (gx:Nat) (q:UInt8) (v:UInt8) (kc:List UInt8) (y:List Nat) (yl:List Nat) (yy:List Nat) (x:List Nat) (o:List Nat) (s1:List Nat) (dd:List Nat) (t1:List Nat) (a1:List Nat) (iv:List Nat) (pr:List Nat):List Value:=
 (Ca kb)::ptr g_base::ptr gr::(.int .i64 0)::(.bool true)::ptr gy::ptr gv::ptr gx::(.bool false)::(.pointer (some ⟨g_base,31,none⟩))::(Fa q)::(.bool true)::(.pointer (some ⟨g_base,31,none⟩))::(Fa q)::(.int .u8 (v.toNat:Int))::(.pointer (some ⟨g_base,31,none⟩))::(Ca kc)::(Da y)::(Da y)::(Da yl)::(Da y)::(.bool false)::undef::(Da y)::(Da y)::(Da yy)::(.tuple #[Da x,.bool false])::(Da yy)::(Da o)::(Da s1)::(Da dd)::(Da yy)::(Da t1)::(Da o)::(Da a1)::(Da iv)::(Da pr)::(.tuple #[Da x,.bool false])::(Da x)::(.bool false)::(.bool false)::(.bool true)::(.bool true)::ud 6 ((.bool true)::ud 9 [])
def Dq (kb:List UInt8) (g_base:Nat) (gr:Nat) (gy:Nat) (gv:Nat) (gx:Nat) (q:UInt8) (v:UInt8) (kc:List UInt8) (y:List Nat) (yl:List Nat) (yy:List Nat) (x:List Nat) (o:List Nat) (s1:List Nat) (dd:List Nat) (t1:List Nat) (a1:List Nat) (iv:List Nat) (pr:List Nat) (zn:List Nat):List Value:=
 (Ca kb)::ptr g_base::ptr gr::(.int .i64 0)::(.bool true)::ptr gy::ptr gv::ptr gx::(.bool true)::(.pointer (some ⟨g_base,31,none⟩))::(Fa q)::(.bool true)::(.pointer (some ⟨g_base,31,none⟩))::(Fa q)::(.int .u8 (v.toNat:Int))::(.pointer (some ⟨g_base,31,none⟩))::(Ca kc)::(Da y)::(Da y)::(Da yl)::(Da y)::(.bool false)::undef::(Da y)::(Da y)::(Da yy)::(.tuple #[Da x,.bool true])::(Da yy)::(Da o)::(Da s1)::(Da dd)::(Da yy)::(Da t1)::(Da o)::(Da a1)::(Da iv)::(Da pr)::(.tuple #[Da x,.bool true])::(Da x)::(.bool true)::(.bool true)::(.bool false)::(.bool false)::(.bool true)::(.bool true)::(Da x)::(Da zn)::(.bool false)::(.bool false)::(.bool false)::ud 9 []
def Co (kb:List UInt8) (g_base:Nat) (gr:Nat) (gy:Nat) (gv:Nat) (gx:Nat) (q:UInt8) (v:UInt8) (kc:List UInt8) (y:List Nat) (yl:List Nat) (yy:List Nat) (x:List Nat) (o:List Nat) (s1:List Nat) (dd:List Nat) (t1:List Nat) (a1:List Nat) (iv:List Nat) (pr:List Nat) (zn:List Nat) (xn:List Nat) (r1:List Nat):List Value:=
 (Ca kb)::ptr g_base::ptr gr::(.int .i64 0)::(.bool true)::ptr gy::ptr gv::ptr gx::(.bool true)::(.pointer (some ⟨g_base,31,none⟩))::(Fa q)::(.bool true)::(.pointer (some ⟨g_base,31,none⟩))::(Fa q)::(.int .u8 (v.toNat:Int))::(.pointer (some ⟨g_base,31,none⟩))::(Ca kc)::(Da y)::(Da y)::(Da yl)::(Da y)::(.bool false)::undef::(Da y)::(Da y)::(Da yy)::(.tuple #[Da x,.bool true])::(Da yy)::(Da o)::(Da s1)::(Da dd)::(Da yy)::(Da t1)::(Da o)::(Da a1)::(Da iv)::(Da pr)::(.tuple #[Da x,.bool true])::(Da x)::(.bool true)::(.bool true)::(.bool false)::(.bool false)::(.bool true)::(.bool true)::(Da x)::(Da zn)::(.bool false)::(.bool false)::(.bool false)::undef::(.bool true)::(Da zn)::(Da x)::(Da xn)::(Da xn)::(Da y)::(Da o)::(Da r1)::[]
def Do (kb:List UInt8) (g_base:Nat) (gr:Nat) (gy:Nat) (gv:Nat) (gx:Nat) (q:UInt8) (v:UInt8) (kc:List UInt8) (y:List Nat) (yl:List Nat) (yy:List Nat) (x:List Nat) (o:List Nat) (s1:List Nat) (dd:List Nat) (t1:List Nat) (a1:List Nat) (iv:List Nat) (pr:List Nat) (zn:List Nat):List Value:=
 (Ca kb)::ptr g_base::ptr gr::(.int .i64 0)::(.bool true)::ptr gy::ptr gv::ptr gx::(.bool true)::(.pointer (some ⟨g_base,31,none⟩))::(Fa q)::(.bool true)::(.pointer (some ⟨g_base,31,none⟩))::(Fa q)::(.int .u8 (v.toNat:Int))::(.pointer (some ⟨g_base,31,none⟩))::(Ca kc)::(Da y)::(Da y)::(Da yl)::(Da y)::(.bool false)::undef::(Da y)::(Da y)::(Da yy)::(.tuple #[Da x,.bool true])::(Da yy)::(Da o)::(Da s1)::(Da dd)::(Da yy)::(Da t1)::(Da o)::(Da a1)::(Da iv)::(Da pr)::(.tuple #[Da x,.bool true])::(Da x)::(.bool true)::(.bool true)::(.bool false)::(.bool false)::(.bool true)::(.bool true)::(Da x)::(Da zn)::(.bool true)::(.bool true)::(.bool true)::ud 9 []
theorem EO (y yl yy s1 dd t1 a1 iv pr x xn o zn zt r0 r1:List Nat) (kb kc:List UInt8) (q v:UInt8) (od nq ok xz:Bool) (res:List Nat) (err:Int) (w:World)
 (Hy:Hid (y.length=8))
 (Hyy:Hid (yy.length=8))
 (Hx:Hid (x.length=8))
 (Hxn:Hid (xn.length=8))
 (Hzt:Hid (zt.length=24))
 (Hr0:Hid (r0.length=24))
 (Hr1:Hid (r1.length=24))
 (Hkb:Hid (kb.length=32))
 (Hkc:Hid (kc.length=32))
 (D1:Hid ((kb.map Fa)[31]? =some (Fa q)))
 (HO:Hid (decide (128≤q.toNat)=od))
 (HV:Hid (v.toNat=q.toNat%128))
 (HC:Hid (kc=kb.set 31 v))
 (CR:Hid (∀W,Calls Tryz.prog 66 #[Ca kc] W (gvn (Da y) W)))
 (CL:Hid (∀W,Calls Tryz.prog 67 #[Da y] W (gvn (Da yl) W)))
 (CY:Hid (∀W,Calls Tryz.prog 68 #[Da y,Da y] W (gvn (Da yy) W)))
 (C1:Hid (∀W,Calls Tryz.prog 71 #[] W (gvn (Da o) W)))
 (CS:Hid (∀W,Calls Tryz.prog 70 #[Da yy,Da o] W (gvn (Da s1) W)))
 (CD:Hid (∀W,Calls Tryz.prog 74 #[] W (gvn (Da dd) W)))
 (CT:Hid (∀W,Calls Tryz.prog 68 #[Da dd,Da yy] W (gvn (Da t1) W)))
 (CA:Hid (∀W,Calls Tryz.prog 73 #[Da t1,Da o] W (gvn (Da a1) W)))
 (CI:Hid (∀W,Calls Tryz.prog 72 #[Da a1] W (gvn (Da iv) W)))
 (CP:Hid (∀W,Calls Tryz.prog 68 #[Da s1,Da iv] W (gvn (Da pr) W)))
 (CO:Hid (∀W,Calls Tryz.prog 69 #[Da pr] W (gvn (.tuple #[Da x,.bool ok]) W)))
 (CN:Hid (∀W,Calls Tryz.prog 70 #[Da zn,Da x] W (gvn (Da xn) W)))
 (BZT:∀w,(Instr.build 68 #[]).run Tryz.prog w=.ok (Da zt) w)
 (BZN:∀w,(Instr.build 66 #[]).run Tryz.prog w=.ok (Da zn) w)
 (BR0:∀w,(Instr.build 68 #[(0,Da x),(1,Da y),(2,Da o)]).run Tryz.prog w=.ok (Da r0) w)
 (BR1:∀w,(Instr.build 68 #[(0,Da xn),(1,Da y),(2,Da o)]).run Tryz.prog w=.ok (Da r1) w)
 (hEQ:∀w,(binOp .neq 66 (Da yl) (Da y)).run Tryz.prog w=.ok (.bool nq) w)
 (hEZ:∀w,(binOp .eql 66 (Da x) (Da zn)).run Tryz.prog w=.ok (.bool xz) w)
 (HP0:Hid (nq=true→res=zt∧err=4))
 (HP1:Hid (nq=false→ok=false→res=zt∧err=4))
 (HP2:Hid (nq=false→ok=true→od=false→res=r0∧err=0))
 (HP3:Hid (nq=false→ok=true→od=true→xz=true→res=zt∧err=4))
 (HP4:Hid (nq=false→ok=true→od=true→xz=false→res=r1∧err=0)):
 Calls Tryz.prog 31 #[Ca kb] w (gvn (.tuple #[Da res,.int .i64 err]) w):=by
 go_enter Tryz.func31,Tryz.ntmps31;cases od
 ·have ho:=HO.out;have hq2:=q.toNat_lt;have i2:¬(128:Int)≤(q.toNat:Int):=by have :=of_decide_eq_false ho;omega
  have i3:(q.toNat:Int).tmod 128=(v.toNat:Int):=by rw [Int.tmod_eq_emod_of_nonneg (by omega),HV.out];omega
  have i4:IntKind.u8.wrap (v.toNat:Int)=(v.toNat:Int):=by have :=v.toNat_lt;rw [IntKind.wrap_u8];omega
  clear HO ho hq2 HV
  go_upto_region 1 with (first
   |(refine Ra rfl 22 (.tmp 0) rfl (kb.map Fa) rfl ?_
     intro w1 hb1 hvb1;have hB1:=hb1;have hgeb:w.heap.size≤w.heap.size:=Xaj _;clear hb1;try simp only [La]
     skip)
   |(refine Ma (o:=⟨some 2,_,_,_,_,_⟩) rfl 68 rfl (Wa 24) He ?_
     intro w2 hb2 hvr2;have hB2:=Ba hB1 hb2;have hger:w.heap.size≤w1.heap.size:=hB1.size;have hvb2:=hvb1.on hb2;have hnebr:=Vaj hvb1.lt;clear hB1 hvb1 hb2;try simp only [La]
     skip))
  generalize hqr:w1.heap.size=gr at *;clear hqr;have dq:=hvb2.get D1.out;have hT:=hvb2.there 31 1 (by rw [Uaj,Hkb.out];decide);have hE:=Lib.hid (hvb2.set 31 (Fa v))
  go_upto_region 3 with (first
   |(refine Qb rfl 5 _ _ rfl (w.heap.size) 31 .u8 (v.toNat:Int) rfl rfl Qc hT ?_
     intro w3 hw3;have hB3:Below w.heap.size w w3:=by rw [hw3];exact hB2.setCell (p:=⟨w.heap.size,31,none⟩) (Xaj _) _
     have hvb3:Ia w3 (w.heap.size) (kc.map Fa) 22:=by rw [hw3,HC.out,List.map_set];exact hE.out
     have hvr3:Ia w3 gr (Wa 24) 68:=by rw [hw3];exact hvr2.other (Ne.symm hnebr) _
     clear hw3 hT hE dq i2 i3 i4 hB2 hvb2 hvr2;skip))
  go_wp2_with (first
   |(refine Pa rfl 22 (.tmp 1) rfl w.heap.size 32 (kc.map Fa) rfl hvb3 Tryz.underlying22 rfl Kb (by rw [Uaj,Hkc.out]) ?_
     try simp only [La]
     skip))
  refine (CR.out w3).mono ?_;rintro e w4 ⟨rfl,hb4⟩;have hB4:=Ba hB3 hb4;have hvb4:=hvb3.on hb4;have hvr4:=hvr3.on hb4;clear hB3 hvb3 hvr3 hb4;go_wp2_with (first
   |(refine Db rfl rfl 66 (.tmp 5) (.tmp 17) rfl rfl 8 (Wa 8) (y.map Ja) rfl rfl Ac rfl Za (by rw [Uaj,Hy.out]) (Ua _) ?_
     intro w5 hb5 hvy5;have hB5:=Ba hB4 hb5;have hgey:w.heap.size≤w4.heap.size:=hB4.size;have hvb5:=hvb4.on hb5;have hneby:=Vaj hvb4.lt;have hvr5:=hvr4.on hb5;have hnery:=Vaj hvr4.lt;clear hB4 hvb4 hvr4 hb5;try simp only [La]
     skip))
  generalize hqy:w4.heap.size=gy at *;clear hqy;replace hvb5:=hvb5.drew;replace hvr5:=hvr5.drew;replace hvy5:=hvy5.drew;refine wp_region_any (by kernel_rfl) ?_;refine Ya (L:=[0,1,2,3]) (by kernel_rfl) _ _ (Ax kb w.heap.size gr gy q v kc y yl nq) [] 22 Xa [0,1,2,3,4,5,6,7,8,9,10,11,12,13,14,15,16,17,22,23,24,25,26,27,28,29,30,31,32,33,34,35,36,37,38,39,40,41,42,43,44,45,46,47,48,49,50,51,52,53,54,55,56,57,58] (by kernel_rfl) (by kernel_rfl) ?_ Dc ?_ (by rfl) ?_ 0 (by kernel_rfl) ?_
  ·intro p hp;exact absurd hp List.not_mem_nil
  ·repeat refine Aak rfl ?_
   exact Qa
  ·refine Aak (.inr (mL 18 rfl fun w hb=>Sb (hvy5.on hb) Hy.out)) ?_;refine Aak (.inr (mC 19 rfl Tryz.func67 fun w hb=>CL.out w)) ?_;refine Aak (.inr (mL 20 rfl fun w hb=>Sb (hvy5.on hb) Hy.out)) ?_;refine Aak (.inr (mB 21 rfl (fun w=>Hi _ _ _ _ _ w) (hEQ))) ?_;exact Qa
  intro w6 g hb6 hN6 hap6;clear hN6 hap6;have hB6:=Ba (show Below w.heap.size w w5.drew from hB5.drew) hb6;have hvb6:=hvb5.on hb6;have hvr6:=hvr5.on hb6;have hvy6:=hvy5.on hb6;clear hB5 hvb5 hvr5 hvy5 hb6;refine ⟨by kernel_rfl,?_⟩;rename_i K hKK;show Exit.then K _ Exit.normal (⟨(Ax kb w.heap.size gr gy q v kc y yl nq).toArray,[]⟩:Act) w6;simp only [Exit.then];refine hKK _ _ ?_;clear hKK K g;simp only [Ax,ptr,ud];cases nq
  ·go_wp2_with (first
    |(refine Pa rfl 66 (.tmp 5) rfl gy 8 (y.map Ja) rfl hvy6 Tryz.underlying66 rfl Za (by rw [Uaj,Hy.out]) ?_
      try simp only [La]
      skip)
    |(refine Pa rfl 66 (.tmp 5) rfl gy 8 (y.map Ja) rfl hvy6 Tryz.underlying66 rfl Za (by rw [Uaj,Hy.out]) ?_
      try simp only [La]
      skip))
   refine (CY.out w6).mono ?_;rintro e w7 ⟨rfl,hb7⟩;have hB7:=Ba hB6 hb7;have hvb7:=hvb6.on hb7;have hvr7:=hvr6.on hb7;have hvy7:=hvy6.on hb7;clear hB6 hvb6 hvr6 hvy6 hb7;go_wp2_with (first
    |(refine Db rfl rfl 66 (.tmp 6) (.tmp 25) rfl rfl 8 (Wa 8) (yy.map Ja) rfl rfl Ac rfl Za (by rw [Uaj,Hyy.out]) (Ua _) ?_
      intro w8 hb8 hvv8;have hB8:=Ba hB7 hb8;have hgev:w.heap.size≤w7.heap.size:=hB7.size;have hvb8:=hvb7.on hb8;have hnebv:=Vaj hvb7.lt;have hvr8:=hvr7.on hb8;have hnerv:=Vaj hvr7.lt;have hvy8:=hvy7.on hb8;have hneyv:=Vaj hvy7.lt;clear hB7 hvb7 hvr7 hvy7 hb8;try simp only [La]
      skip))
   generalize hqv:w7.heap.size=gv at *;clear hqv;replace hvb8:=hvb8.drew;replace hvr8:=hvr8.drew;replace hvy8:=hvy8.drew;replace hvv8:=hvv8.drew;refine wp_region_any (by kernel_rfl) ?_;refine Qf (L:=[0,1,2,3,4,5,6,7,8,9,10,11,12,13,14,15,16]) (by kernel_rfl) _ _ (Ny kb w.heap.size gr gy gv ok q v kc y yl yy x o s1 dd t1 a1 iv pr) [(14,7)] (fun _=>66) (fun _=>(Wa 8)) (fun _=>some (15,x.map Ja)) [0,1,2,3,4,5,6,9,10,11,12,13,14,15,16,17,18,19,20,21,22,23,24,25,40,41,42,43,44,45,46,47,48,49,50,51,52,53,54,55,56,57,58] (by kernel_rfl) (by kernel_rfl) ?_ (fun _ _=>Ac) ?_ ?_ ?_ (by rfl) ?_ 0 (by kernel_rfl) ?_
   ·intro p hp;rcases List.mem_cons.1 hp with rfl|hp
    ·exact ⟨⟨_,rfl,rfl,rfl,rfl,by kernel_rfl,by kernel_rfl⟩⟩
    exact absurd hp List.not_mem_nil
   ·intro p hp j l h;rcases List.mem_cons.1 hp with rfl|hp
    ·change some (15,x.map Ja)=some (j,l) at h;cases h
     exact ⟨⟨_,38,rfl,rfl,rfl,rfl,by kernel_rfl,by kernel_rfl,by kernel_rfl,rfl,by rw [Uaj,Hx.out];exact Za,by rw [Uaj,Hx.out];rfl,Ua _⟩,by decide⟩
    exact absurd hp List.not_mem_nil
   ·intro p hp q hq j l l2 h1 h2;rcases List.mem_cons.1 hp with rfl|hp
    ·rcases List.mem_cons.1 hq with rfl|hq
     ·rfl
     exact absurd hq List.not_mem_nil
    exact absurd hp List.not_mem_nil
   ·repeat refine Aak rfl ?_
    exact Qa
   ·refine Aak (.inr (.inl (mL 27 rfl fun w hb=>Sb (hvv8.on hb) Hyy.out))) ?_;refine Aak (.inr (.inl (mC 28 rfl Tryz.func71 fun w hb=>C1.out w))) ?_;refine Aak (.inr (.inl (mC 29 rfl Tryz.func70 fun w hb=>CS.out w))) ?_;refine Aak (.inr (.inl (mC 30 rfl Tryz.func74 fun w hb=>CD.out w))) ?_;refine Aak (.inr (.inl (mL 31 rfl fun w hb=>Sb (hvv8.on hb) Hyy.out))) ?_;refine Aak (.inr (.inl (mC 32 rfl Tryz.func68 fun w hb=>CT.out w))) ?_;refine Aak (.inr (.inl (mC 33 rfl Tryz.func71 fun w hb=>C1.out w))) ?_;refine Aak (.inr (.inl (mC 34 rfl Tryz.func73 fun w hb=>CA.out w))) ?_;refine Aak (.inr (.inl (mC 35 rfl Tryz.func72 fun w hb=>CI.out w))) ?_;refine Aak (.inr (.inl (mC 36 rfl Tryz.func68 fun w hb=>CP.out w))) ?_;refine Aak (.inr (.inl (mC 37 rfl Tryz.func69 fun w hb=>CO.out w))) ?_;refine Aak (.inr (.inl (mV 26 rfl (.inl rfl) rfl))) ?_;refine Aak (.inr (.inl (mE 38 rfl rfl rfl))) ?_;refine Aak (.inr (.inl (mE 39 rfl rfl rfl))) ?_;refine Aak (.inl ⟨(14,7),by simp,rfl⟩) ?_;refine Aak (.inr (.inr ⟨(14,7),by simp,_,rfl⟩)) ?_;refine Aak (.inr (.inl (mV 8 rfl (.inr rfl) rfl))) ?_;exact Qa
   intro w9 g hb9 hN9 hap9;obtain ⟨hgex,hvx9⟩:=hN9 (14,7) (by simp);clear hN9 hap9;have hB9:=Ba (show Below w.heap.size w w8.drew from hB8.drew) hb9;have hltb:w.heap.size<w8.heap.size:=hvb8.lt;have hltr:gr<w8.heap.size:=hvr8.lt;have hlty:gy<w8.heap.size:=hvy8.lt;have hltv:gv<w8.heap.size:=hvv8.lt;have hvb9:=hvb8.on hb9;have hvr9:=hvr8.on hb9;have hvy9:=hvy8.on hb9;have hvv9:=hvv8.on hb9;rw [show Oc g [(14,7)] (Ny kb w.heap.size gr gy gv ok q v kc y yl yy x o s1 dd t1 a1 iv pr)=qn kb w.heap.size gr gy gv ok q v kc y yl yy x o s1 dd t1 a1 iv pr (g 7) from rfl];replace hgex:w8.heap.size≤g 7:=hgex;replace hvx9:Ia w9 (g 7) (x.map Ja) 66:=hvx9;have hnebx:w.heap.size≠g 7:=Vaj (Waj hltb hgex);have hnerx:gr≠g 7:=Vaj (Waj hltr hgex);have hneyx:gy≠g 7:=Vaj (Waj hlty hgex);have hnevx:gv≠g 7:=Vaj (Waj hltv hgex);replace hgex:w.heap.size≤g 7:=Nat.le_trans (show w.heap.size≤w8.heap.size from hB8.size) hgex;clear hltb hltr hlty hltv;generalize g 7=gx at *;clear hB8 hvb8 hvr8 hvy8 hvv8 hb9;refine ⟨by kernel_rfl,?_⟩;rename_i K hKK;show Exit.then K _ Exit.normal (⟨(qn kb w.heap.size gr gy gv ok q v kc y yl yy x o s1 dd t1 a1 iv pr gx).toArray,[]⟩:Act) w9;simp only [Exit.then];refine hKK _ _ ?_;clear hKK K g;simp only [qn,ptr,ud];cases ok
   ·go_upto_region 8 with fail
    refine Mb (md:=.any) (by kernel_rfl) ?_;refine Ya (L:=[0,1,2,3,4,5,6,7,8,9]) (by kernel_rfl) _ _ (qp kb w.heap.size gr gy gv gx q v kc y yl yy x o s1 dd t1 a1 iv pr) [] 22 Xa [0,1,2,3,4,5,6,7,8,9,10,11,12,13,14,15,16,17,18,19,20,21,22,23,24,25,26,27,28,29,30,31,32,33,34,35,36,37,38,39,50,51,52,53,54,55,56,57,58] (by kernel_rfl) (by kernel_rfl) ?_ Dc ?_ (by rfl) ?_ 0 (by kernel_rfl) ?_
    ·intro p hp;exact absurd hp List.not_mem_nil
    ·repeat refine Aak rfl ?_
     exact Qa
    ·refine Aak (.inr (mV 40 rfl (.inl rfl) rfl)) ?_;refine Aak (.inr (mN 41 rfl rfl rfl)) ?_;refine Aak (.inr (mV 42 rfl (.inl rfl) rfl)) ?_;refine Aak (.inr (mK 43 rfl)) ?_;refine Aak (.inr (mK 44 rfl)) ?_;refine Aak (.inr (Ap _ 45 rfl rfl rfl rfl (by kernel_rfl) (fun a hv=>ye (j:=4) rfl rfl rfl (hv 44 (by kernel_rfl) rfl)) rfl)) ?_;refine Aak (.inr (Ap _ 46 rfl rfl rfl rfl (by kernel_rfl) (fun a hv=>ye (j:=4) rfl rfl rfl (hv 44 (by kernel_rfl) rfl)) rfl)) ?_;refine Aak (.inr (Ap _ 47 rfl rfl rfl rfl (by kernel_rfl) (fun a hv=>ye (j:=4) rfl rfl rfl (hv 44 (by kernel_rfl) rfl)) rfl)) ?_;refine Aak (.inr (mK 48 rfl)) ?_;refine Aak (.inr (mQ 49 rfl rfl rfl)) ?_;exact Qa
    intro w10 g hb10 hN10 hap10;clear hN10 hap10;have hB10:=Ba hB9 hb10;have hvb10:=hvb9.on hb10;have hvr10:=hvr9.on hb10;have hvy10:=hvy9.on hb10;have hvv10:=hvv9.on hb10;have hvx10:=hvx9.on hb10;clear hB9 hvb9 hvr9 hvy9 hvv9 hvx9 hb10;refine ⟨by kernel_rfl,?_⟩;rename_i K hKK;show Exit.then K _ Exit.normal (⟨(qp kb w.heap.size gr gy gv gx q v kc y yl yy x o s1 dd t1 a1 iv pr).toArray,[]⟩:Act) w10;simp only [Exit.then];refine hKK _ _ ?_;clear hKK K g;simp only [qp,ptr,ud];go_wp2_with (first
     |(refine Eb rfl 68 [] rfl [] rfl _ BZT ?_
       try simp only [La]
       skip)
     |(refine Ka rfl 68 (.tmp 2) (.tmp 50) rfl gr 24 (Wa 24) (zt.map Ja) rfl rfl hvr10 rfl Jb (by rw [Uaj,Hzt.out]) (Ua _) ?_
       intro w11 hb11 hvr11 hz11;have hB11:Below w.heap.size w w11:=hB10.trans (hb11.below hger hB10.size);have hvb11:=hvb10.but hb11 hnebr;have hvy11:=hvy10.but hb11 (Ne.symm hnery);have hvv11:=hvv10.but hb11 (Ne.symm hnerv);have hvx11:=hvx10.but hb11 (Ne.symm hnerx);clear hB10 hvr10 hb11 hz11 hvb10 hvy10 hvv10 hvx10;skip))
    obtain ⟨hr1,hr2⟩:=HP1.out (by simp) (by simp);exact Xf Tryz.results31 gr (zt.map Ja) _ rfl rfl hvr11 Tryz.underlying68 rfl Jb (by rw [Uaj,Hzt.out]) rfl ⟨by subst hr1;subst hr2;rfl,hB11⟩
   ·go_upto_region 8 with fail
    refine Mb (md:=.any) (by kernel_rfl) ?_;refine Ya (L:=[0,1,2,3,4,5,6,7,8,9]) (by kernel_rfl) _ _ (Aq kb w.heap.size gr gy gv gx q v kc y yl yy x o s1 dd t1 a1 iv pr) [] 22 Xa [0,1,2,3,4,5,6,7,8,9,10,11,12,13,14,15,16,17,18,19,20,21,22,23,24,25,26,27,28,29,30,31,32,33,34,35,36,37,38,39,50,51,52,53,54,55,56,57,58] (by kernel_rfl) (by kernel_rfl) ?_ Dc ?_ (by rfl) ?_ 0 (by kernel_rfl) ?_
    ·intro p hp;exact absurd hp List.not_mem_nil
    ·repeat refine Aak rfl ?_
     exact Qa
    ·refine Aak (.inr (mV 40 rfl (.inl rfl) rfl)) ?_;refine Aak (.inr (mN 41 rfl rfl rfl)) ?_;refine Aak (.inr (mV 42 rfl (.inl rfl) rfl)) ?_;refine Aak (.inr (mV 43 rfl (.inl rfl) rfl)) ?_;refine Aak (.inr (mV 44 rfl (.inl rfl) rfl)) ?_;refine Aak (.inr (mK 45 rfl)) ?_;refine Aak (.inr (mK 46 rfl)) ?_;refine Aak (.inr (mK 47 rfl)) ?_;refine Aak (.inr (mQ 48 rfl rfl rfl)) ?_;refine Aak (.inr (mQ 49 rfl rfl rfl)) ?_;exact Qa
    intro w12 g hb12 hN12 hap12;clear hN12 hap12;have hB12:=Ba hB9 hb12;have hvb12:=hvb9.on hb12;have hvr12:=hvr9.on hb12;have hvy12:=hvy9.on hb12;have hvv12:=hvv9.on hb12;have hvx12:=hvx9.on hb12;clear hB9 hvb9 hvr9 hvy9 hvv9 hvx9 hb12;refine ⟨by kernel_rfl,?_⟩;rename_i K hKK;show Exit.then K _ Exit.normal (⟨(Aq kb w.heap.size gr gy gv gx q v kc y yl yy x o s1 dd t1 a1 iv pr).toArray,[]⟩:Act) w12;simp only [Exit.then];refine hKK _ _ ?_;clear hKK K g;simp only [Aq,ptr,ud];go_wp2_with fail
    replace hvb12:=hvb12.drew;replace hvr12:=hvr12.drew;replace hvy12:=hvy12.drew;replace hvv12:=hvv12.drew;replace hvx12:=hvx12.drew;refine wp_region_any (by kernel_rfl) ?_;refine Ya (L:=[0,1,2,3]) (by kernel_rfl) _ _ (Ao kb w.heap.size gr gy gv gx q v kc y yl yy x o s1 dd t1 a1 iv pr r0) [] 22 Xa [0,1,2,3,4,5,6,7,8,9,10,11,12,13,14,15,16,17,18,19,20,21,22,23,24,25,26,27,28,29,30,31,32,33,34,35,36,37,38,39,40,41,42,43,44,45,46,47,48,49,50,51,52,53,54] (by kernel_rfl) (by kernel_rfl) ?_ Dc ?_ (by rfl) ?_ 2 (by kernel_rfl) ?_
    ·intro p hp;exact absurd hp List.not_mem_nil
    ·repeat refine Aak rfl ?_
     exact Qa
    ·refine Aak (.inr (mL 55 rfl fun w hb=>Sb (hvx12.on hb) Hx.out)) ?_;refine Aak (.inr (mL 56 rfl fun w hb=>Sb (hvy12.on hb) Hy.out)) ?_;refine Aak (.inr (mC 57 rfl Tryz.func71 fun w hb=>C1.out w)) ?_;refine Aak (.inr (mU 58 rfl BR0)) ?_;exact Qa
    intro w13 g hb13 hN13 hap13;clear hN13 hap13;have hB13:=Ba (show Below w.heap.size w w12.drew from hB12.drew) hb13;have hvb13:=hvb12.on hb13;have hvr13:=hvr12.on hb13;have hvy13:=hvy12.on hb13;have hvv13:=hvv12.on hb13;have hvx13:=hvx12.on hb13;clear hB12 hvb12 hvr12 hvy12 hvv12 hvx12 hb13;refine Bb 4 rfl (by kernel_rfl) ?_;refine Ka rfl 68 (.tmp 2) (.tmp 58) rfl gr 24 (Wa 24) (r0.map Ja) rfl rfl hvr13 rfl Jb (by rw [Uaj,Hr0.out]) (Ua _) ?_;intro w14 hb14 hvr14 hz14;have hB14:Below w.heap.size w w14:=hB13.trans (hb14.below hger hB13.size);have hvb14:=hvb13.but hb14 hnebr;have hvy14:=hvy13.but hb14 (Ne.symm hnery);have hvv14:=hvv13.but hb14 (Ne.symm hnerv);have hvx14:=hvx13.but hb14 (Ne.symm hnerx);clear hB13 hvr13 hb14 hz14 hvb13 hvy13 hvv13 hvx13;refine Yj rfl (.inr rfl) (.int .i64 0) (by rfl) ?_;rename_i K hKK;show Exit.then K _ Exit.normal (⟨((Ao kb w.heap.size gr gy gv gx q v kc y yl yy x o s1 dd t1 a1 iv pr r0).set 3 (.int .i64 0)).toArray,[]⟩:Act) w14;simp only [Exit.then];refine hKK _ _ ?_;clear hKK K g;simp only [Ao,ptr,ud,List.set_cons_zero,List.set_cons_succ]
    go_wp2
    obtain ⟨hr1,hr2⟩:=HP2.out (by simp) (by simp) (by simp);exact Xf Tryz.results31 gr (r0.map Ja) _ rfl rfl hvr14 Tryz.underlying68 rfl Jb (by rw [Uaj,Hr0.out]) rfl ⟨by subst hr1;subst hr2;rfl,hB14⟩
  ·go_wp2_with (first
    |(refine Eb rfl 68 [] rfl [] rfl _ BZT ?_
      try simp only [La]
      skip)
    |(refine Ka rfl 68 (.tmp 2) (.tmp 22) rfl gr 24 (Wa 24) (zt.map Ja) rfl rfl hvr6 rfl Jb (by rw [Uaj,Hzt.out]) (Ua _) ?_
      intro w15 hb15 hvr15 hz15;have hB15:Below w.heap.size w w15:=hB6.trans (hb15.below hger hB6.size);have hvb15:=hvb6.but hb15 hnebr;have hvy15:=hvy6.but hb15 (Ne.symm hnery);clear hB6 hvr6 hb15 hz15 hvb6 hvy6;skip))
   obtain ⟨hr1,hr2⟩:=HP0.out (by simp);exact Xf Tryz.results31 gr (zt.map Ja) _ rfl rfl hvr15 Tryz.underlying68 rfl Jb (by rw [Uaj,Hzt.out]) rfl ⟨by subst hr1;subst hr2;rfl,hB15⟩
 ·have ho:=HO.out;have hq2:=q.toNat_lt;have i2:(128:Int)≤(q.toNat:Int):=by have :=of_decide_eq_true ho;omega
  have i3:(q.toNat:Int).tmod 128=(v.toNat:Int):=by rw [Int.tmod_eq_emod_of_nonneg (by omega),HV.out];omega
  have i4:IntKind.u8.wrap (v.toNat:Int)=(v.toNat:Int):=by have :=v.toNat_lt;rw [IntKind.wrap_u8];omega
  clear HO ho hq2 HV
  go_upto_region 1 with (first
   |(refine Ra rfl 22 (.tmp 0) rfl (kb.map Fa) rfl ?_
     intro w16 hb16 hvb16;have hB16:=hb16;have hgeb:w.heap.size≤w.heap.size:=Xaj _;clear hb16;try simp only [La]
     skip)
   |(refine Ma (o:=⟨some 2,_,_,_,_,_⟩) rfl 68 rfl (Wa 24) He ?_
     intro w17 hb17 hvr17;have hB17:=Ba hB16 hb17;have hger:w.heap.size≤w16.heap.size:=hB16.size;have hvb17:=hvb16.on hb17;have hnebr:=Vaj hvb16.lt;clear hB16 hvb16 hb17;try simp only [La]
     skip))
  generalize hqr:w16.heap.size=gr at *;clear hqr;have dq:=hvb17.get D1.out;have hT:=hvb17.there 31 1 (by rw [Uaj,Hkb.out];decide);have hE:=Lib.hid (hvb17.set 31 (Fa v))
  go_upto_region 3 with (first
   |(refine Qb rfl 5 _ _ rfl (w.heap.size) 31 .u8 (v.toNat:Int) rfl rfl Qc hT ?_
     intro w18 hw18;have hB18:Below w.heap.size w w18:=by rw [hw18];exact hB17.setCell (p:=⟨w.heap.size,31,none⟩) (Xaj _) _
     have hvb18:Ia w18 (w.heap.size) (kc.map Fa) 22:=by rw [hw18,HC.out,List.map_set];exact hE.out
     have hvr18:Ia w18 gr (Wa 24) 68:=by rw [hw18];exact hvr17.other (Ne.symm hnebr) _
     clear hw18 hT hE dq i2 i3 i4 hB17 hvb17 hvr17;skip))
  go_wp2_with (first
   |(refine Pa rfl 22 (.tmp 1) rfl w.heap.size 32 (kc.map Fa) rfl hvb18 Tryz.underlying22 rfl Kb (by rw [Uaj,Hkc.out]) ?_
     try simp only [La]
     skip))
  refine (CR.out w18).mono ?_;rintro e w19 ⟨rfl,hb19⟩;have hB19:=Ba hB18 hb19;have hvb19:=hvb18.on hb19;have hvr19:=hvr18.on hb19;clear hB18 hvb18 hvr18 hb19;go_wp2_with (first
   |(refine Db rfl rfl 66 (.tmp 5) (.tmp 17) rfl rfl 8 (Wa 8) (y.map Ja) rfl rfl Ac rfl Za (by rw [Uaj,Hy.out]) (Ua _) ?_
     intro w20 hb20 hvy20;have hB20:=Ba hB19 hb20;have hgey:w.heap.size≤w19.heap.size:=hB19.size;have hvb20:=hvb19.on hb20;have hneby:=Vaj hvb19.lt;have hvr20:=hvr19.on hb20;have hnery:=Vaj hvr19.lt;clear hB19 hvb19 hvr19 hb20;try simp only [La]
     skip))
  generalize hqy:w19.heap.size=gy at *;clear hqy;replace hvb20:=hvb20.drew;replace hvr20:=hvr20.drew;replace hvy20:=hvy20.drew;refine wp_region_any (by kernel_rfl) ?_;refine Ya (L:=[0,1,2,3]) (by kernel_rfl) _ _ (Bq kb w.heap.size gr gy q v kc y yl nq) [] 22 Xa [0,1,2,3,4,5,6,7,8,9,10,11,12,13,14,15,16,17,22,23,24,25,26,27,28,29,30,31,32,33,34,35,36,37,38,39,40,41,42,43,44,45,46,47,48,49,50,51,52,53,54,55,56,57,58] (by kernel_rfl) (by kernel_rfl) ?_ Dc ?_ (by rfl) ?_ 0 (by kernel_rfl) ?_
  ·intro p hp;exact absurd hp List.not_mem_nil
  ·repeat refine Aak rfl ?_
   exact Qa
  ·refine Aak (.inr (mL 18 rfl fun w hb=>Sb (hvy20.on hb) Hy.out)) ?_;refine Aak (.inr (mC 19 rfl Tryz.func67 fun w hb=>CL.out w)) ?_;refine Aak (.inr (mL 20 rfl fun w hb=>Sb (hvy20.on hb) Hy.out)) ?_;refine Aak (.inr (mB 21 rfl (fun w=>Hi _ _ _ _ _ w) (hEQ))) ?_;exact Qa
  intro w21 g hb21 hN21 hap21;clear hN21 hap21;have hB21:=Ba (show Below w.heap.size w w20.drew from hB20.drew) hb21;have hvb21:=hvb20.on hb21;have hvr21:=hvr20.on hb21;have hvy21:=hvy20.on hb21;clear hB20 hvb20 hvr20 hvy20 hb21;refine ⟨by kernel_rfl,?_⟩;rename_i K hKK;show Exit.then K _ Exit.normal (⟨(Bq kb w.heap.size gr gy q v kc y yl nq).toArray,[]⟩:Act) w21;simp only [Exit.then];refine hKK _ _ ?_;clear hKK K g;simp only [Bq,ptr,ud];cases nq
  ·go_wp2_with (first
    |(refine Pa rfl 66 (.tmp 5) rfl gy 8 (y.map Ja) rfl hvy21 Tryz.underlying66 rfl Za (by rw [Uaj,Hy.out]) ?_
      try simp only [La]
      skip)
    |(refine Pa rfl 66 (.tmp 5) rfl gy 8 (y.map Ja) rfl hvy21 Tryz.underlying66 rfl Za (by rw [Uaj,Hy.out]) ?_
      try simp only [La]
      skip))
   refine (CY.out w21).mono ?_;rintro e w22 ⟨rfl,hb22⟩;have hB22:=Ba hB21 hb22;have hvb22:=hvb21.on hb22;have hvr22:=hvr21.on hb22;have hvy22:=hvy21.on hb22;clear hB21 hvb21 hvr21 hvy21 hb22;go_wp2_with (first
    |(refine Db rfl rfl 66 (.tmp 6) (.tmp 25) rfl rfl 8 (Wa 8) (yy.map Ja) rfl rfl Ac rfl Za (by rw [Uaj,Hyy.out]) (Ua _) ?_
      intro w23 hb23 hvv23;have hB23:=Ba hB22 hb23;have hgev:w.heap.size≤w22.heap.size:=hB22.size;have hvb23:=hvb22.on hb23;have hnebv:=Vaj hvb22.lt;have hvr23:=hvr22.on hb23;have hnerv:=Vaj hvr22.lt;have hvy23:=hvy22.on hb23;have hneyv:=Vaj hvy22.lt;clear hB22 hvb22 hvr22 hvy22 hb23;try simp only [La]
      skip))
   generalize hqv:w22.heap.size=gv at *;clear hqv;replace hvb23:=hvb23.drew;replace hvr23:=hvr23.drew;replace hvy23:=hvy23.drew;replace hvv23:=hvv23.drew;refine wp_region_any (by kernel_rfl) ?_;refine Qf (L:=[0,1,2,3,4,5,6,7,8,9,10,11,12,13,14,15,16]) (by kernel_rfl) _ _ (Oy kb w.heap.size gr gy gv ok q v kc y yl yy x o s1 dd t1 a1 iv pr) [(14,7)] (fun _=>66) (fun _=>(Wa 8)) (fun _=>some (15,x.map Ja)) [0,1,2,3,4,5,6,9,10,11,12,13,14,15,16,17,18,19,20,21,22,23,24,25,40,41,42,43,44,45,46,47,48,49,50,51,52,53,54,55,56,57,58] (by kernel_rfl) (by kernel_rfl) ?_ (fun _ _=>Ac) ?_ ?_ ?_ (by rfl) ?_ 0 (by kernel_rfl) ?_
   ·intro p hp;rcases List.mem_cons.1 hp with rfl|hp
    ·exact ⟨⟨_,rfl,rfl,rfl,rfl,by kernel_rfl,by kernel_rfl⟩⟩
    exact absurd hp List.not_mem_nil
   ·intro p hp j l h;rcases List.mem_cons.1 hp with rfl|hp
    ·change some (15,x.map Ja)=some (j,l) at h;cases h
     exact ⟨⟨_,38,rfl,rfl,rfl,rfl,by kernel_rfl,by kernel_rfl,by kernel_rfl,rfl,by rw [Uaj,Hx.out];exact Za,by rw [Uaj,Hx.out];rfl,Ua _⟩,by decide⟩
    exact absurd hp List.not_mem_nil
   ·intro p hp q hq j l l2 h1 h2;rcases List.mem_cons.1 hp with rfl|hp
    ·rcases List.mem_cons.1 hq with rfl|hq
     ·rfl
     exact absurd hq List.not_mem_nil
    exact absurd hp List.not_mem_nil
   ·repeat refine Aak rfl ?_
    exact Qa
   ·refine Aak (.inr (.inl (mL 27 rfl fun w hb=>Sb (hvv23.on hb) Hyy.out))) ?_;refine Aak (.inr (.inl (mC 28 rfl Tryz.func71 fun w hb=>C1.out w))) ?_;refine Aak (.inr (.inl (mC 29 rfl Tryz.func70 fun w hb=>CS.out w))) ?_;refine Aak (.inr (.inl (mC 30 rfl Tryz.func74 fun w hb=>CD.out w))) ?_;refine Aak (.inr (.inl (mL 31 rfl fun w hb=>Sb (hvv23.on hb) Hyy.out))) ?_;refine Aak (.inr (.inl (mC 32 rfl Tryz.func68 fun w hb=>CT.out w))) ?_;refine Aak (.inr (.inl (mC 33 rfl Tryz.func71 fun w hb=>C1.out w))) ?_;refine Aak (.inr (.inl (mC 34 rfl Tryz.func73 fun w hb=>CA.out w))) ?_;refine Aak (.inr (.inl (mC 35 rfl Tryz.func72 fun w hb=>CI.out w))) ?_;refine Aak (.inr (.inl (mC 36 rfl Tryz.func68 fun w hb=>CP.out w))) ?_;refine Aak (.inr (.inl (mC 37 rfl Tryz.func69 fun w hb=>CO.out w))) ?_;refine Aak (.inr (.inl (mV 26 rfl (.inl rfl) rfl))) ?_;refine Aak (.inr (.inl (mE 38 rfl rfl rfl))) ?_;refine Aak (.inr (.inl (mE 39 rfl rfl rfl))) ?_;refine Aak (.inl ⟨(14,7),by simp,rfl⟩) ?_;refine Aak (.inr (.inr ⟨(14,7),by simp,_,rfl⟩)) ?_;refine Aak (.inr (.inl (mV 8 rfl (.inr rfl) rfl))) ?_;exact Qa
   intro w24 g hb24 hN24 hap24;obtain ⟨hgex,hvx24⟩:=hN24 (14,7) (by simp);clear hN24 hap24;have hB24:=Ba (show Below w.heap.size w w23.drew from hB23.drew) hb24;have hltb:w.heap.size<w23.heap.size:=hvb23.lt;have hltr:gr<w23.heap.size:=hvr23.lt;have hlty:gy<w23.heap.size:=hvy23.lt;have hltv:gv<w23.heap.size:=hvv23.lt;have hvb24:=hvb23.on hb24;have hvr24:=hvr23.on hb24;have hvy24:=hvy23.on hb24;have hvv24:=hvv23.on hb24;rw [show Oc g [(14,7)] (Oy kb w.heap.size gr gy gv ok q v kc y yl yy x o s1 dd t1 a1 iv pr)=Bo kb w.heap.size gr gy gv ok q v kc y yl yy x o s1 dd t1 a1 iv pr (g 7) from rfl];replace hgex:w23.heap.size≤g 7:=hgex;replace hvx24:Ia w24 (g 7) (x.map Ja) 66:=hvx24;have hnebx:w.heap.size≠g 7:=Vaj (Waj hltb hgex);have hnerx:gr≠g 7:=Vaj (Waj hltr hgex);have hneyx:gy≠g 7:=Vaj (Waj hlty hgex);have hnevx:gv≠g 7:=Vaj (Waj hltv hgex);replace hgex:w.heap.size≤g 7:=Nat.le_trans (show w.heap.size≤w23.heap.size from hB23.size) hgex;clear hltb hltr hlty hltv;generalize g 7=gx at *;clear hB23 hvb23 hvr23 hvy23 hvv23 hb24;refine ⟨by kernel_rfl,?_⟩;rename_i K hKK;show Exit.then K _ Exit.normal (⟨(Bo kb w.heap.size gr gy gv ok q v kc y yl yy x o s1 dd t1 a1 iv pr gx).toArray,[]⟩:Act) w24;simp only [Exit.then];refine hKK _ _ ?_;clear hKK K g;simp only [Bo,ptr,ud];cases ok
   ·go_upto_region 8 with fail
    refine Mb (md:=.any) (by kernel_rfl) ?_;refine Ya (L:=[0,1,2,3,4,5,6,7,8,9]) (by kernel_rfl) _ _ (Cq kb w.heap.size gr gy gv gx q v kc y yl yy x o s1 dd t1 a1 iv pr) [] 22 Xa [0,1,2,3,4,5,6,7,8,9,10,11,12,13,14,15,16,17,18,19,20,21,22,23,24,25,26,27,28,29,30,31,32,33,34,35,36,37,38,39,50,51,52,53,54,55,56,57,58] (by kernel_rfl) (by kernel_rfl) ?_ Dc ?_ (by rfl) ?_ 0 (by kernel_rfl) ?_
    ·intro p hp;exact absurd hp List.not_mem_nil
    ·repeat refine Aak rfl ?_
     exact Qa
    ·refine Aak (.inr (mV 40 rfl (.inl rfl) rfl)) ?_;refine Aak (.inr (mN 41 rfl rfl rfl)) ?_;refine Aak (.inr (mV 42 rfl (.inl rfl) rfl)) ?_;refine Aak (.inr (mK 43 rfl)) ?_;refine Aak (.inr (mK 44 rfl)) ?_;refine Aak (.inr (Ap _ 45 rfl rfl rfl rfl (by kernel_rfl) (fun a hv=>ye (j:=4) rfl rfl rfl (hv 44 (by kernel_rfl) rfl)) rfl)) ?_;refine Aak (.inr (Ap _ 46 rfl rfl rfl rfl (by kernel_rfl) (fun a hv=>ye (j:=4) rfl rfl rfl (hv 44 (by kernel_rfl) rfl)) rfl)) ?_;refine Aak (.inr (Ap _ 47 rfl rfl rfl rfl (by kernel_rfl) (fun a hv=>ye (j:=4) rfl rfl rfl (hv 44 (by kernel_rfl) rfl)) rfl)) ?_;refine Aak (.inr (mK 48 rfl)) ?_;refine Aak (.inr (mQ 49 rfl rfl rfl)) ?_;exact Qa
    intro w25 g hb25 hN25 hap25;clear hN25 hap25;have hB25:=Ba hB24 hb25;have hvb25:=hvb24.on hb25;have hvr25:=hvr24.on hb25;have hvy25:=hvy24.on hb25;have hvv25:=hvv24.on hb25;have hvx25:=hvx24.on hb25;clear hB24 hvb24 hvr24 hvy24 hvv24 hvx24 hb25;refine ⟨by kernel_rfl,?_⟩;rename_i K hKK;show Exit.then K _ Exit.normal (⟨(Cq kb w.heap.size gr gy gv gx q v kc y yl yy x o s1 dd t1 a1 iv pr).toArray,[]⟩:Act) w25;simp only [Exit.then];refine hKK _ _ ?_;clear hKK K g;simp only [Cq,ptr,ud];go_wp2_with (first
     |(refine Eb rfl 68 [] rfl [] rfl _ BZT ?_
       try simp only [La]
       skip)
     |(refine Ka rfl 68 (.tmp 2) (.tmp 50) rfl gr 24 (Wa 24) (zt.map Ja) rfl rfl hvr25 rfl Jb (by rw [Uaj,Hzt.out]) (Ua _) ?_
       intro w26 hb26 hvr26 hz26;have hB26:Below w.heap.size w w26:=hB25.trans (hb26.below hger hB25.size);have hvb26:=hvb25.but hb26 hnebr;have hvy26:=hvy25.but hb26 (Ne.symm hnery);have hvv26:=hvv25.but hb26 (Ne.symm hnerv);have hvx26:=hvx25.but hb26 (Ne.symm hnerx);clear hB25 hvr25 hb26 hz26 hvb25 hvy25 hvv25 hvx25;skip))
    obtain ⟨hr1,hr2⟩:=HP1.out (by simp) (by simp);exact Xf Tryz.results31 gr (zt.map Ja) _ rfl rfl hvr26 Tryz.underlying68 rfl Jb (by rw [Uaj,Hzt.out]) rfl ⟨by subst hr1;subst hr2;rfl,hB26⟩
   ·cases xz
    ·go_upto_region 8 with fail
     refine Mb (md:=.any) (by kernel_rfl) ?_;refine Ya (L:=[0,1,2,3,4,5,6,7,8,9]) (by kernel_rfl) _ _ (Dq kb w.heap.size gr gy gv gx q v kc y yl yy x o s1 dd t1 a1 iv pr zn) [] 22 Xa [0,1,2,3,4,5,6,7,8,9,10,11,12,13,14,15,16,17,18,19,20,21,22,23,24,25,26,27,28,29,30,31,32,33,34,35,36,37,38,39,50,51,52,53,54,55,56,57,58] (by kernel_rfl) (by kernel_rfl) ?_ Dc ?_ (by rfl) ?_ 0 (by kernel_rfl) ?_
     ·intro p hp;exact absurd hp List.not_mem_nil
     ·repeat refine Aak rfl ?_
      exact Qa
     ·refine Aak (.inr (mV 40 rfl (.inl rfl) rfl)) ?_;refine Aak (.inr (mN 41 rfl rfl rfl)) ?_;refine Aak (.inr (mV 42 rfl (.inl rfl) rfl)) ?_;refine Aak (.inr (mV 43 rfl (.inl rfl) rfl)) ?_;refine Aak (.inr (mV 44 rfl (.inl rfl) rfl)) ?_;refine Aak (.inr (mL 45 rfl fun w hb=>Sb (hvx24.on hb) Hx.out)) ?_;refine Aak (.inr (mU 46 rfl BZN)) ?_;refine Aak (.inr (mB 47 rfl (fun w=>Hi _ _ _ _ _ w) (hEZ))) ?_;refine Aak (.inr (mQ 48 rfl rfl rfl)) ?_;refine Aak (.inr (mQ 49 rfl rfl rfl)) ?_;exact Qa
     intro w27 g hb27 hN27 hap27;clear hN27 hap27;have hB27:=Ba hB24 hb27;have hvb27:=hvb24.on hb27;have hvr27:=hvr24.on hb27;have hvy27:=hvy24.on hb27;have hvv27:=hvv24.on hb27;have hvx27:=hvx24.on hb27;clear hB24 hvb24 hvr24 hvy24 hvv24 hvx24 hb27;refine ⟨by kernel_rfl,?_⟩;rename_i K hKK;show Exit.then K _ Exit.normal (⟨(Dq kb w.heap.size gr gy gv gx q v kc y yl yy x o s1 dd t1 a1 iv pr zn).toArray,[]⟩:Act) w27;simp only [Exit.then];refine hKK _ _ ?_;clear hKK K g;simp only [Dq,ptr,ud];go_wp2_with (first
      |(refine Eb rfl 66 [] rfl [] rfl _ BZN ?_
        try simp only [La]
        skip)
      |(refine Pa rfl 66 (.tmp 7) rfl gx 8 (x.map Ja) rfl hvx27 Tryz.underlying66 rfl Za (by rw [Uaj,Hx.out]) ?_
        try simp only [La]
        skip))
     refine (CN.out w27).mono ?_;rintro e w28 ⟨rfl,hb28⟩;have hB28:=Ba hB27 hb28;have hvb28:=hvb27.on hb28;have hvr28:=hvr27.on hb28;have hvy28:=hvy27.on hb28;have hvv28:=hvv27.on hb28;have hvx28:=hvx27.on hb28;clear hB27 hvb27 hvr27 hvy27 hvv27 hvx27 hb28;go_wp2_with (first
      |(refine Ka rfl 66 (.tmp 7) (.tmp 54) rfl gx 8 (x.map Ja) (xn.map Ja) rfl rfl hvx28 (by rw [Uaj,Hx.out]) Za (by rw [Uaj,Hxn.out]) (Ua _) ?_
        intro w29 hb29 hvx29 hz29;have hB29:Below w.heap.size w w29:=hB28.trans (hb29.below hgex hB28.size);have hvb29:=hvb28.but hb29 hnebx;have hvr29:=hvr28.but hb29 hnerx;have hvy29:=hvy28.but hb29 hneyx;have hvv29:=hvv28.but hb29 hnevx;clear hB28 hvx28 hb29 hz29 hvb28 hvr28 hvy28 hvv28;skip))
     replace hvb29:=hvb29.drew;replace hvr29:=hvr29.drew;replace hvy29:=hvy29.drew;replace hvv29:=hvv29.drew;replace hvx29:=hvx29.drew;refine wp_region_any (by kernel_rfl) ?_;refine Ya (L:=[0,1,2,3]) (by kernel_rfl) _ _ (Co kb w.heap.size gr gy gv gx q v kc y yl yy x o s1 dd t1 a1 iv pr zn xn r1) [] 22 Xa [0,1,2,3,4,5,6,7,8,9,10,11,12,13,14,15,16,17,18,19,20,21,22,23,24,25,26,27,28,29,30,31,32,33,34,35,36,37,38,39,40,41,42,43,44,45,46,47,48,49,50,51,52,53,54] (by kernel_rfl) (by kernel_rfl) ?_ Dc ?_ (by rfl) ?_ 2 (by kernel_rfl) ?_
     ·intro p hp;exact absurd hp List.not_mem_nil
     ·repeat refine Aak rfl ?_
      exact Qa
     ·refine Aak (.inr (mL 55 rfl fun w hb=>Sb (hvx29.on hb) Hxn.out)) ?_;refine Aak (.inr (mL 56 rfl fun w hb=>Sb (hvy29.on hb) Hy.out)) ?_;refine Aak (.inr (mC 57 rfl Tryz.func71 fun w hb=>C1.out w)) ?_;refine Aak (.inr (mU 58 rfl BR1)) ?_;exact Qa
     intro w30 g hb30 hN30 hap30;clear hN30 hap30;have hB30:=Ba (show Below w.heap.size w w29.drew from hB29.drew) hb30;have hvb30:=hvb29.on hb30;have hvr30:=hvr29.on hb30;have hvy30:=hvy29.on hb30;have hvv30:=hvv29.on hb30;have hvx30:=hvx29.on hb30;clear hB29 hvb29 hvr29 hvy29 hvv29 hvx29 hb30;refine Bb 4 rfl (by kernel_rfl) ?_;refine Ka rfl 68 (.tmp 2) (.tmp 58) rfl gr 24 (Wa 24) (r1.map Ja) rfl rfl hvr30 rfl Jb (by rw [Uaj,Hr1.out]) (Ua _) ?_;intro w31 hb31 hvr31 hz31;have hB31:Below w.heap.size w w31:=hB30.trans (hb31.below hger hB30.size);have hvb31:=hvb30.but hb31 hnebr;have hvy31:=hvy30.but hb31 (Ne.symm hnery);have hvv31:=hvv30.but hb31 (Ne.symm hnerv);have hvx31:=hvx30.but hb31 (Ne.symm hnerx);clear hB30 hvr30 hb31 hz31 hvb30 hvy30 hvv30 hvx30;refine Yj rfl (.inr rfl) (.int .i64 0) (by rfl) ?_;rename_i K hKK;show Exit.then K _ Exit.normal (⟨((Co kb w.heap.size gr gy gv gx q v kc y yl yy x o s1 dd t1 a1 iv pr zn xn r1).set 3 (.int .i64 0)).toArray,[]⟩:Act) w31;simp only [Exit.then];refine hKK _ _ ?_;clear hKK K g;simp only [Co,ptr,List.set_cons_zero,List.set_cons_succ]
     go_wp2
     obtain ⟨hr1,hr2⟩:=HP4.out (by simp) (by simp) (by simp) (by simp);exact Xf Tryz.results31 gr (r1.map Ja) _ rfl rfl hvr31 Tryz.underlying68 rfl Jb (by rw [Uaj,Hr1.out]) rfl ⟨by subst hr1;subst hr2;rfl,hB31⟩
    ·go_upto_region 8 with fail
     refine Mb (md:=.any) (by kernel_rfl) ?_;refine Ya (L:=[0,1,2,3,4,5,6,7,8,9]) (by kernel_rfl) _ _ (Do kb w.heap.size gr gy gv gx q v kc y yl yy x o s1 dd t1 a1 iv pr zn) [] 22 Xa [0,1,2,3,4,5,6,7,8,9,10,11,12,13,14,15,16,17,18,19,20,21,22,23,24,25,26,27,28,29,30,31,32,33,34,35,36,37,38,39,50,51,52,53,54,55,56,57,58] (by kernel_rfl) (by kernel_rfl) ?_ Dc ?_ (by rfl) ?_ 0 (by kernel_rfl) ?_
     ·intro p hp;exact absurd hp List.not_mem_nil
     ·repeat refine Aak rfl ?_
      exact Qa
     ·refine Aak (.inr (mV 40 rfl (.inl rfl) rfl)) ?_;refine Aak (.inr (mN 41 rfl rfl rfl)) ?_;refine Aak (.inr (mV 42 rfl (.inl rfl) rfl)) ?_;refine Aak (.inr (mV 43 rfl (.inl rfl) rfl)) ?_;refine Aak (.inr (mV 44 rfl (.inl rfl) rfl)) ?_;refine Aak (.inr (mL 45 rfl fun w hb=>Sb (hvx24.on hb) Hx.out)) ?_;refine Aak (.inr (mU 46 rfl BZN)) ?_;refine Aak (.inr (mB 47 rfl (fun w=>Hi _ _ _ _ _ w) (hEZ))) ?_;refine Aak (.inr (mQ 48 rfl rfl rfl)) ?_;refine Aak (.inr (mQ 49 rfl rfl rfl)) ?_;exact Qa
     intro w32 g hb32 hN32 hap32;clear hN32 hap32;have hB32:=Ba hB24 hb32;have hvb32:=hvb24.on hb32;have hvr32:=hvr24.on hb32;have hvy32:=hvy24.on hb32;have hvv32:=hvv24.on hb32;have hvx32:=hvx24.on hb32;clear hB24 hvb24 hvr24 hvy24 hvv24 hvx24 hb32;refine ⟨by kernel_rfl,?_⟩;rename_i K hKK;show Exit.then K _ Exit.normal (⟨(Do kb w.heap.size gr gy gv gx q v kc y yl yy x o s1 dd t1 a1 iv pr zn).toArray,[]⟩:Act) w32;simp only [Exit.then];refine hKK _ _ ?_;clear hKK K g;simp only [Do,ptr,ud];go_wp2_with (first
      |(refine Eb rfl 68 [] rfl [] rfl _ BZT ?_
        try simp only [La]
        skip)
      |(refine Ka rfl 68 (.tmp 2) (.tmp 50) rfl gr 24 (Wa 24) (zt.map Ja) rfl rfl hvr32 rfl Jb (by rw [Uaj,Hzt.out]) (Ua _) ?_
        intro w33 hb33 hvr33 hz33;have hB33:Below w.heap.size w w33:=hB32.trans (hb33.below hger hB32.size);have hvb33:=hvb32.but hb33 hnebr;have hvy33:=hvy32.but hb33 (Ne.symm hnery);have hvv33:=hvv32.but hb33 (Ne.symm hnerv);have hvx33:=hvx32.but hb33 (Ne.symm hnerx);clear hB32 hvr32 hb33 hz33 hvb32 hvy32 hvv32 hvx32;skip))
     obtain ⟨hr1,hr2⟩:=HP3.out (by simp) (by simp) (by simp) (by simp);exact Xf Tryz.results31 gr (zt.map Ja) _ rfl rfl hvr33 Tryz.underlying68 rfl Jb (by rw [Uaj,Hzt.out]) rfl ⟨by subst hr1;subst hr2;rfl,hB33⟩
  ·go_wp2_with (first
    |(refine Eb rfl 68 [] rfl [] rfl _ BZT ?_
      try simp only [La]
      skip)
    |(refine Ka rfl 68 (.tmp 2) (.tmp 22) rfl gr 24 (Wa 24) (zt.map Ja) rfl rfl hvr21 rfl Jb (by rw [Uaj,Hzt.out]) (Ua _) ?_
      intro w34 hb34 hvr34 hz34;have hB34:Below w.heap.size w w34:=hB21.trans (hb34.below hger hB21.size);have hvb34:=hvb21.but hb34 hnebr;have hvy34:=hvy21.but hb34 (Ne.symm hnery);clear hB21 hvr21 hb34 hz34 hvb21 hvy21;skip))
   obtain ⟨hr1,hr2⟩:=HP0.out (by simp);exact Xf Tryz.results31 gr (zt.map Ja) _ rfl rfl hvr34 Tryz.underlying68 rfl Jb (by rw [Uaj,Hzt.out]) rfl ⟨by subst hr1;subst hr2;rfl,hB34⟩
def Fd (b:List UInt8):Nat:=lev (b.set 31 (b.getD 31 0%128))
def Ii (b:List UInt8):Bool:=decide (128≤(b.getD 31 0).toNat)
def xj (y:Nat):Nat:=fM (fS (fM y y) 1) (ivN (fA (fM Ag (fM y y)) 1))
def Hg (b:List UInt8):Nat:=xg (xj (Fd b))
def Uc (b:List UInt8):Bool:=(decide (Fd b<pp)&&Fj (xj (Fd b)))&& !(Ii b&&decide (Hg b=0))
def Rf (b:List UInt8):Tri:=bif Uc b then (bif Ii b then fS 0 (Hg b) else Hg b,Fd b,1) else (0,0,0)
theorem VS (b:List UInt8) (y yy s1 t1 a1 iv pr x xn:Nat) (ok:Bool) (res:List Nat) (err:Int) (w:World) (hb:b.length=32) (Ey:Fd b=y) (Eyy:fM y y=yy) (Es:fS yy 1=s1) (Et:fM Ag yy=t1) (Ea:fA t1 1=a1) (Ei:ivN a1=iv) (Ep:fM s1 iv=pr) (Ex:xg pr=x) (Eo:Fj pr=ok) (En:fS 0 x=xn)
 (H0:(!decide (y%pp=y))=true→res=Pd (0,0,0)∧err=4) (H1:(!decide (y%pp=y))=false→ok=false→res=Pd (0,0,0)∧err=4) (H2:(!decide (y%pp=y))=false→ok=true→Ii b=false→res=Pd (x,y,1)∧err=0)
 (H3:(!decide (y%pp=y))=false→ok=true→Ii b=true→decide (x=0)=true→res=Pd (0,0,0)∧err=4) (H4:(!decide (y%pp=y))=false→ok=true→Ii b=true→decide (x=0)=false→res=Pd (xn,y,1)∧err=0):
 Calls Tryz.prog 31 #[Ca b] w (gvn (.tuple #[Da res,.int .i64 err]) w):=by
 have hl:(b.set 31 (b.getD 31 0%128)).length=32:=by rw [List.length_set];exact hb
 have hy:y<mm:=by rw [←Ey];exact Gu _ hl
 have hyy:yy<pp:=by rw [←Eyy];exact Lc _ _
 have hs:s1<pp:=by rw [←Es];exact Tp _ _
 have ht:t1<pp:=by rw [←Et];exact Lc _ _
 have ha:a1<pp:=by rw [←Ea];exact So _ _
 have hi:iv<pp:=by rw [←Ei];exact Nat.mod_lt _ (by decide)
 have hp:pr<pp:=by rw [←Ep];exact Lc _ _
 have hx:x<pp:=by rw [←Ex];exact xu _
 have h1:1<pp:=by decide
 have hd:Ag<pp:=by decide
 have h0:0<pp:=by decide
 have C1:∀W,Calls Tryz.prog 66 #[Ca (b.set 31 (b.getD 31 0%128))] W (gvn (Da (nD y)) W):=fun W=>by rw [←Ey];exact GM _ W hl
 have C2:∀W,Calls Tryz.prog 68 #[Da (nD y),Da (nD y)] W (gvn (Da (nD yy)) W):=fun W=>by rw [←Eyy];exact Mg y y W hy hy
 have C3:∀W,Calls Tryz.prog 70 #[Da (nD yy),Da (nD 1)] W (gvn (Da (nD s1)) W):=fun W=>by rw [←Es];exact RJ yy 1 W hyy h1
 have C4:∀W,Calls Tryz.prog 68 #[Da (nD Ag),Da (nD yy)] W (gvn (Da (nD t1)) W):=fun W=>by rw [←Et];exact Jh Ag yy W hd hyy
 have C5:∀W,Calls Tryz.prog 73 #[Da (nD t1),Da (nD 1)] W (gvn (Da (nD a1)) W):=fun W=>by rw [←Ea];exact QJ t1 1 W ht h1
 have C6:∀W,Calls Tryz.prog 72 #[Da (nD a1)] W (gvn (Da (nD iv)) W):=fun W=>by rw [←Ei];exact Cm a1 W (Bs ha)
 have C7:∀W,Calls Tryz.prog 68 #[Da (nD s1),Da (nD iv)] W (gvn (Da (nD pr)) W):=fun W=>by rw [←Ep];exact Jh s1 iv W hs hi
 have C8:∀W,Calls Tryz.prog 69 #[Da (nD pr)] W (gvn (.tuple #[Da (nD x),.bool ok]) W):=fun W=>by rw [←Ex,←Eo];exact DN pr W hp
 have C9:∀W,Calls Tryz.prog 70 #[Da (nD 0),Da (nD x)] W (gvn (Da (nD xn)) W):=fun W=>by rw [←En];exact RJ 0 x W h0 hx
 have hyp:y%pp<mm:=Bs (Nat.mod_lt _ h0);clear Eyy Es Et Ea Ei Ep Ex Eo En;refine EO (nD y) (nD (y%pp)) (nD yy) (nD s1) (nD Ag) (nD t1) (nD a1) (nD iv) (nD pr) (nD x) (nD xn) (nD 1) (nD 0) (Pd (0,0,0)) (Pd (x,y,1)) (Pd (xn,y,1)) b (b.set 31 (b.getD 31 0%128)) (b.getD 31 0) (b.getD 31 0%128) (Ii b) (!decide (y%pp=y)) ok (decide (x=0)) res err w
  rfl rfl rfl rfl rfl rfl rfl hb hl ?_ rfl ?_ rfl C1 (fun W=>Jk y W hy) C2 qw C3 Vn C4 C5 C6 C7 C8 C9 (fun w=>by kernel_rfl) NG (qm (nD x) (nD y) (nD 1) rfl rfl rfl) (qm (nD xn) (nD y) (nD 1) rfl rfl rfl) (FJ (y%pp) y hyp hy) (YU x 0 (Bs hx) (by decide)) H0 H1 H2 H3 H4
 ·show _=_;rw [List.getElem?_map,Yaj,xaj (by omega)];rfl
 ·show _=_;rw [UInt8.toNat_mod];rfl
theorem WS (nq ok od xz:Bool) (x xn y:Nat) (g:Bool) (hg:g=((!nq&&ok)&& !(od&&xz))) (T:Tri) (hT:T=bif g then (bif od then xn else x,y,1) else (0,0,0)):
 (nq=true→Pd T=Pd (0,0,0)∧(bif g then (0:Int) else 4)=4)∧(nq=false→ok=false→Pd T=Pd (0,0,0)∧(bif g then (0:Int) else 4)=4)∧(nq=false→ok=true→od=false→Pd T=Pd (x,y,1)∧(bif g then (0:Int) else 4)=0)∧
 (nq=false→ok=true→od=true→xz=true→Pd T=Pd (0,0,0)∧(bif g then (0:Int) else 4)=4)∧(nq=false→ok=true→od=true→xz=false→Pd T=Pd (xn,y,1)∧(bif g then (0:Int) else 4)=0):=by
 subst hT;cases nq<;>cases ok<;>cases od<;>cases xz<;>subst hg<;>refine ⟨?_,?_,?_,?_,?_⟩<;>intros<;>first|contradiction|exact ⟨rfl,rfl⟩
theorem XS (b:List UInt8) (w:World) (hb:b.length=32):Calls Tryz.prog 31 #[Ca b] w (gvn (.tuple #[Da (Pd (Rf b)),.int .i64 (bif Uc b then 0 else 4)]) w):=by
 have hnq:decide (Fd b<pp)= !(!decide (Fd b%pp=Fd b)):=by
  by_cases h:Fd b<pp
  ·rw [decide_eq_true h,decide_eq_true (yaj h)];rfl
  ·rw [decide_eq_false h,decide_eq_false (fun e=>h (by rw [←e];exact Nat.mod_lt _ (by decide)))];rfl
 have hG:Uc b=((!(!decide (Fd b%pp=Fd b))&&Fj (xj (Fd b)))&& !(Ii b&&decide (Hg b=0))):=by rw [Uc,hnq]
 have hT:Rf b=bif Uc b then (bif Ii b then fS 0 (Hg b) else Hg b,Fd b,1) else (0,0,0):=rfl
 obtain ⟨h0,h1,h2,h3,h4⟩:=WS (!decide (Fd b%pp=Fd b)) (Fj (xj (Fd b))) (Ii b) (decide (Hg b=0)) (Hg b) (fS 0 (Hg b)) (Fd b) (Uc b) hG (Rf b) hT;exact VS b (Fd b) (fM (Fd b) (Fd b)) _ _ _ _ (xj (Fd b)) (Hg b) (fS 0 (Hg b)) (Fj (xj (Fd b))) _ _ w hb rfl rfl rfl rfl rfl rfl rfl rfl rfl rfl h0 h1 h2 h3 h4
theorem Kh (n m:Nat) (W:World) (hn:n<pp) (hm:m<pp):Calls Tryz.prog 63 #[Aa (Va n),Aa (Va m)] W (gvn (Aa (Va (fM n m))) W):=zk n m W hn hm
theorem qs (n m:Nat) (W:World) (hn:n<pp) (hm:m<pp):Calls Tryz.prog 101 #[Aa (Va n),Aa (Va m)] W (gvn (Aa (Va (fA n m))) W):=P1 n m W hn hm
theorem XC (n m:Nat) (W:World) (hn:n<pp) (hm:m<pp):Calls Tryz.prog 59 #[Aa (Va n),Aa (Va m)] W (gvn (Aa (Va (fS n m))) W):=AB n m W hn hm
theorem YC (n:Nat) (W:World) (hn:n<pp):Calls Tryz.prog 99 #[Aa (Va n)] W (gvn (Aa (Va (fM n n))) W):=Uj n W hn
theorem Vad (n:Nat):ivN n=pwN n 57896044618658097711785492504343953926634992332820282019728792003956564819947:=by
 have h:pp-2=57896044618658097711785492504343953926634992332820282019728792003956564819947:=by decide
 unfold ivN pwN;rw [h]
theorem YS (n:Nat):ivN n<pp:=Nat.mod_lt _ (by decide)
theorem E5 (n:Nat) (W:World) (hn:n<pp):Calls Tryz.prog 62 #[Aa (Va n)] W (gvn (Aa (Va (ivN n))) W):=by
 rw [Vad];exact xQ n W hn
theorem UJ (x y:Nat) (w:World):Calls Tryz.prog 58 #[Aa (Va x),Aa (Va y)] w (gvn (Aa (Zc (x,y,1))) w):=
 V4 (Va x) (Va y) (Va 1) (Zc (x,y,1)) w rfl rfl rfl KC (zM _ _ _ rfl rfl rfl)
theorem TG (w:World):Calls Tryz.prog 105 #[] w (gvn (Aa (Zc (0,1,1))) w):=
 KS (Va 0) (Va 1) (Zc (0,1,1)) w rfl KC (UJ 0 1) Dj
theorem UG (E:Value) (w:World) (hS:Md E w):Calls Tryz.prog 40 #[] w (gvn (Aa (Zc Ic)) w):=
 LS (Va Dk) (Va Ck) (Zc Ic) E w rfl (GS E) (IS E) (UJ Dk Ck) hS
theorem FO (a b c d:Nat) (w:World) (ha:a<pp) (hb:b<pp) (hc:c<pp) (hd:d<pp):Calls Tryz.prog 132 #[Aa (Va a),Aa (Va b),Aa (Va c),Aa (Va d)] w (gvn (Aa (Zc (X4 a b c d))) w):=
 AY (Va a) (Va b) (Va c) (Va d) (Va (fM a d)) (Va (fM c b)) (Va (fM b d)) (Zc (X4 a b c d)) w rfl rfl rfl rfl rfl (fun W=>Kh a d W ha hd) (fun W=>Kh c b W hc hb) (fun W=>Kh b d W hb hd) (zM _ _ _ rfl rfl rfl)
theorem U9 (t:Tri) (w:World) (h:qd t):Calls Tryz.prog 131 #[Aa (Zc t)] w (gvn (Aa (Zc (twT t))) w):=by
 refine IN (Zc t) (Va t.1) (Va t.2.1) (Va t.2.2) (Va (LN t)) (Va (MN t)) (Va (Qw t)) (Va (MJ t)) (Va (xp t)) (Va (fA (MJ t) (MJ t))) (Va (fA (MN t) (LN t))) (Va (fA (Qw t) (Qw t))) (Va (fS (fA (Qw t) (Qw t)) (xp t))) (Zc (twT t)) w rfl rfl rfl rfl rfl rfl rfl rfl rfl rfl
  ?_ ?_ ?_ ?_ ?_ ?_ ?_ ?_ ?_ ?_
 ·exact fun W=>YC t.1 W h.1
 ·exact fun W=>YC t.2.1 W h.2.1
 ·exact fun W=>YC t.2.2 W h.2.2
 ·exact fun W=>Kh t.1 t.2.1 W h.1 h.2.1
 ·exact fun W=>XC (MN t) (LN t) W (Lc _ _) (Lc _ _)
 ·exact fun W=>qs (MJ t) (MJ t) W (Lc _ _) (Lc _ _)
 ·exact fun W=>qs (MN t) (LN t) W (Lc _ _) (Lc _ _)
 ·exact fun W=>qs (Qw t) (Qw t) W (Lc _ _) (Lc _ _)
 ·exact fun W=>XC _ (xp t) W (So _ _) (Tp _ _)
 ·exact fun W=>FO _ (xp t) _ _ W (So _ _) (Tp _ _) (So _ _) (Tp _ _)
theorem GO (E:Value) (s t:Tri) (w:World) (h1:qd s) (h2:qd t) (hS:Md E w):Calls Tryz.prog 107 #[Aa (Zc s),Aa (Zc t)] w (gvn (Aa (Zc (KJ s t))) w):=by
 refine BY (Zc s) (Va s.1) (Va s.2.1) (Va s.2.2) (Zc t) (Va t.1) (Va t.2.1) (Va t.2.2) (Va (IE s t)) (Va (NS s t)) (Va (yu s t)) (Va (fM s.1 t.2.1)) (Va (fM s.2.1 t.1)) (Va (Yp s t)) (Va (Zp s t)) (Va (Mk s t)) (Va Ag) (Va (fM Ag (IE s t))) (Va (Nk s t)) (Va (fM (Yp s t) (yu s t))) (Va (fA (Mk s t) (Nk s t))) (Va (fM (Zp s t) (yu s t))) (Va (fS (Mk s t) (Nk s t))) (Zc (KJ s t)) E w rfl rfl rfl rfl rfl rfl rfl rfl rfl rfl rfl rfl rfl rfl rfl rfl
  (fun W=>Kh s.1 t.1 W h1.1 h2.1) (fun W=>Kh s.2.1 t.2.1 W h1.2.1 h2.2.1) (fun W=>Kh s.2.2 t.2.2 W h1.2.2 h2.2.2) (fun W=>Kh s.1 t.2.1 W h1.1 h2.2.1) (fun W=>Kh s.2.1 t.1 W h1.2.1 h2.1)
  (fun W=>qs (fM s.1 t.2.1) (fM s.2.1 t.1) W (Lc _ _) (Lc _ _)) (fun W=>qs (NS s t) (IE s t) W (Lc _ _) (Lc _ _)) (fun W=>YC (yu s t) W (Lc _ _)) (fun W=>Kh Ag (IE s t) W (by decide) (Lc _ _)) (fun W=>Kh (fM Ag (IE s t)) (NS s t) W (Lc _ _) (Lc _ _))
  (fun W=>Kh (Yp s t) (yu s t) W (So _ _) (Lc _ _)) (fun W=>qs (Mk s t) (Nk s t) W (Lc _ _) (Lc _ _)) (fun W=>Kh (Zp s t) (yu s t) W (So _ _) (Lc _ _)) (fun W=>XC (Mk s t) (Nk s t) W (Lc _ _) (Lc _ _))
  (JC E) (fun W=>FO _ _ _ _ W (Lc _ _) (So _ _) (Lc _ _) (Tp _ _)) hS
theorem Eak (t:Tri) (w:World) (h:qd t):Calls Tryz.prog 27 #[Aa (Zc t)] w (gvn (Aa (Zc (qu t))) w):=by
 refine DY (Zc t) (Va t.1) (Va t.2.1) (Va t.2.2) (Va 0) (Va (fS 0 t.1)) (Zc (qu t)) w rfl rfl rfl rfl rfl (DJ (Va (fS 0 t.1)) (Va t.1) (Va t.2.1) (Va t.2.2) rfl) Dj ?_;exact fun W=>XC 0 t.1 W (by decide) h.1
theorem V9 (q:UInt8) (h:q.toNat<128):bits .or .u8 (q.toNat:Int) 128=((q+128).toNat:Int):=by
 have key:∀n:Fin 128,bits .or .u8 ((n.val:Nat):Int) 128=((n.val+128:Nat):Int):=by decide+kernel
 have h2:=key ⟨q.toNat,h⟩;have e:(q+128).toNat=q.toNat+128:=by
  rw [UInt8.toNat_add];show (q.toNat+128)%256=_;omega
 rw [e];exact h2
theorem ZS (t:Tri) (w:World) (h:qd t):Calls Tryz.prog 29 #[Aa (Zc t)] w (gvn (Ca (ptB (fM t.1 (ivN t.2.2)) (fM t.2.1 (ivN t.2.2)))) w):=by
 have hy:=Lc t.2.1 (ivN t.2.2);have H:=JN (Zc t) (Va t.1) (Va t.2.1) (Va t.2.2) (Va (ivN t.2.2)) (Va (fM t.2.1 (ivN t.2.2))) (Va (fM t.1 (ivN t.2.2))) (Ob (fM t.2.1 (ivN t.2.2)) 32) ((Ob (fM t.2.1 (ivN t.2.2)) 32).set 31 (Ec (fM t.2.1 (ivN t.2.2)) 31+128)) (Ec (fM t.2.1 (ivN t.2.2)) 31) (Ec (fM t.2.1 (ivN t.2.2)) 31+128) (decide (fM t.1 (ivN t.2.2)%2=1)) w
  rfl rfl rfl rfl (Ta _ _) (by show _=_;rw [List.length_set];exact Ta _ _) rfl (by show _=_;rw [List.getElem?_map,Bv _ _ _ (by decide)];rfl) (V9 _ (SG _ hy)) rfl (fun W=>E5 _ W h.2.2) (fun W=>Kh _ _ W h.1 (YS _)) (fun W=>Kh _ _ W h.2.1 (YS _)) (fun W=>KB _ W hy) (fun W=>TU _ W)
 have e:(bif decide (fM t.1 (ivN t.2.2)%2=1) then (Ob (fM t.2.1 (ivN t.2.2)) 32).set 31 (Ec (fM t.2.1 (ivN t.2.2)) 31+128) else Ob (fM t.2.1 (ivN t.2.2)) 32)=ptB (fM t.1 (ivN t.2.2)) (fM t.2.1 (ivN t.2.2)):=by
  rcases Nat.mod_two_eq_zero_or_one (fM t.1 (ivN t.2.2)) with e|e
  ·rw [decide_eq_false (by omega),cond_false,WC _ _ e]
  ·rw [decide_eq_true e,cond_true,JV _ _ e]
 rw [e] at H;exact H
theorem GY (E:Value) (y:Nat) (w:World) (hy:y<pp) (hS:Md E w):Calls Tryz.prog 56 #[Aa (Va y)] w (gvn (.tuple #[Aa (Va (xg (xj y))),.bool (Fj (xj y))]) w):=by
 refine MS (Va y) (Va 1) (Va (fM y y)) (Va Ag) (Va (fM Ag (fM y y))) (Va (fA (fM Ag (fM y y)) 1)) (Va (ivN (fA (fM Ag (fM y y)) 1))) (Va (fS (fM y y) 1)) (Va (xj y)) (Va (xg (xj y))) (Fj (xj y)) E w rfl rfl rfl rfl rfl KC (fun W=>YC y W hy) (JC E) (fun W=>Kh Ag (fM y y) W (by decide) (Lc _ _)) (fun W=>qs (fM Ag (fM y y)) 1 W (Lc _ _) (by decide)) (fun W=>E5 _ W (So _ _)) (fun W=>XC (fM y y) 1 W (Lc _ _) (by decide)) (fun W=>Kh (fS (fM y y) 1) (ivN (fA (fM Ag (fM y y)) 1)) W (Tp _ _) (YS _)) (fun W hW=>qX (xj y) W (Lc _ _) hW.2.2.2.1) hS
end Go.Proofs.YtoggkhjaghkpnaaGreatDoor
