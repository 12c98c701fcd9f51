/- Part 23 of what the laws of this seat share: URead, UReadBad, KPoAlive, KPoSome, KPoPlus, Frame, WOpen, WOpen2, WOpen3, WKey. -/
import Derived.Deep.Cut
import Derived.IntWalk
import Derived.Test.YtoggkhjaghkpnaaGreatDoorCards
import Derived.Test.YtoggkhjaghkpnaaGreatDoorTie
import Derived.WalkKit
import Derived.ProofKit
import Derived.OpenShut
import Derived.ShutString
import Derived.LaidMore
import Derived.Deep.DeepHandedRow
import Derived.Deep.DeepWitnessRowRef
import Derived.Deep.Matrix
import Derived.Deep.Strs
import Derived.Deep.WholeRow
import Derived.Test.YtoggkhjaghkpnaaGreatDoorPart22
set_option maxRecDepth 100000
set_option maxHeartbeats 8000000
namespace Go.Proofs.YtoggkhjaghkpnaaGreatDoor
open Go.RowKit
def Jx (kb:List UInt8) (g_base:Nat) (gr:Nat) (gy:Nat) (gx:Nat) (q:UInt8) (v:UInt8) (y:List Nat) (kc:List UInt8) (x:List Nat):List Value:=
 (Ca kb)::ptr g_base::ptr gr::(.nilIface)::(.bool false)::ptr gy::(.nilIface)::ptr gx::(.bool false)::undef::(.pointer (some ⟨g_base,31,none⟩))::(Fa q)::(.int .u8 0)::(.bool false)::(.pointer (some ⟨g_base,31,none⟩))::(Fa q)::(.int .u8 (v.toNat:Int))::(.pointer (some ⟨g_base,31,none⟩))::(.tuple #[Aa y,.nilIface])::(Ca kc)::(.tuple #[Aa y,.nilIface])::(Aa y)::(.nilIface)::(.nilIface)::(.bool false)::undef::undef::(.tuple #[Aa x,.bool false])::(Aa y)::(.tuple #[Aa x,.bool false])::(Aa x)::(.bool false)::(.bool false)::(.bool true)::(.bool true)::ud 5 ((.bool true)::ud 9 [])
def Mq (kb:List UInt8) (g_base:Nat) (gr:Nat) (gy:Nat) (gx:Nat) (q:UInt8) (v:UInt8) (y:List Nat) (kc:List UInt8) (x:List Nat):List Value:=
 (Ca kb)::ptr g_base::ptr gr::(.nilIface)::(.bool false)::ptr gy::(.nilIface)::ptr gx::(.bool true)::undef::(.pointer (some ⟨g_base,31,none⟩))::(Fa q)::(.int .u8 0)::(.bool false)::(.pointer (some ⟨g_base,31,none⟩))::(Fa q)::(.int .u8 (v.toNat:Int))::(.pointer (some ⟨g_base,31,none⟩))::(.tuple #[Aa y,.nilIface])::(Ca kc)::(.tuple #[Aa y,.nilIface])::(Aa y)::(.nilIface)::(.nilIface)::(.bool false)::undef::undef::(.tuple #[Aa x,.bool true])::(Aa y)::(.tuple #[Aa x,.bool true])::(Aa x)::(.bool true)::(.bool true)::(.bool false)::(.bool false)::(.bool false)::(.bool false)::undef::undef::(.bool false)::(.bool false)::ud 9 []
def Nq (kb:List UInt8) (g_base:Nat) (gr:Nat) (gy:Nat) (gx:Nat) (q:UInt8) (v:UInt8) (y:List Nat) (kc:List UInt8) (x:List Nat):List Value:=
 (Ca kb)::ptr g_base::ptr gr::(.nilIface)::(.bool true)::ptr gy::(.nilIface)::ptr gx::(.bool false)::undef::(.pointer (some ⟨g_base,31,none⟩))::(Fa q)::(.int .u8 128)::(.bool true)::(.pointer (some ⟨g_base,31,none⟩))::(Fa q)::(.int .u8 (v.toNat:Int))::(.pointer (some ⟨g_base,31,none⟩))::(.tuple #[Aa y,.nilIface])::(Ca kc)::(.tuple #[Aa y,.nilIface])::(Aa y)::(.nilIface)::(.nilIface)::(.bool false)::undef::undef::(.tuple #[Aa x,.bool false])::(Aa y)::(.tuple #[Aa x,.bool false])::(Aa x)::(.bool false)::(.bool false)::(.bool true)::(.bool true)::ud 5 ((.bool true)::ud 9 [])
def Oq (kb:List UInt8) (g_base:Nat) (gr:Nat) (gy:Nat) (gx:Nat) (q:UInt8) (v:UInt8) (y:List Nat) (kc:List UInt8) (x:List Nat):List Value:=
 (Ca kb)::ptr g_base::ptr gr::(.nilIface)::(.bool true)::ptr gy::(.nilIface)::ptr gx::(.bool true)::undef::(.pointer (some ⟨g_base,31,none⟩))::(Fa q)::(.int .u8 128)::(.bool true)::(.pointer (some ⟨g_base,31,none⟩))::(Fa q)::(.int .u8 (v.toNat:Int))::(.pointer (some ⟨g_base,31,none⟩))::(.tuple #[Aa y,.nilIface])::(Ca kc)::(.tuple #[Aa y,.nilIface])::(Aa y)::(.nilIface)::(.nilIface)::(.bool false)::undef::undef::(.tuple #[Aa x,.bool true])::(Aa y)::(.tuple #[Aa x,.bool true])::(Aa x)::(.bool true)::(.bool true)::(.bool false)::(.bool false)::(.bool true)::(.bool true)::(Aa x)::(.bool false)::(.bool false)::(.bool false)::ud 9 []
def Pq (kb:List UInt8) (g_base:Nat) (gr:Nat) (gy:Nat) (gx:Nat) (q:UInt8) (v:UInt8) (y:List Nat) (kc:List UInt8) (x:List Nat):List Value:=
 (Ca kb)::ptr g_base::ptr gr::(.nilIface)::(.bool true)::ptr gy::(.nilIface)::ptr gx::(.bool true)::undef::(.pointer (some ⟨g_base,31,none⟩))::(Fa q)::(.int .u8 128)::(.bool true)::(.pointer (some ⟨g_base,31,none⟩))::(Fa q)::(.int .u8 (v.toNat:Int))::(.pointer (some ⟨g_base,31,none⟩))::(.tuple #[Aa y,.nilIface])::(Ca kc)::(.tuple #[Aa y,.nilIface])::(Aa y)::(.nilIface)::(.nilIface)::(.bool false)::undef::undef::(.tuple #[Aa x,.bool true])::(Aa y)::(.tuple #[Aa x,.bool true])::(Aa x)::(.bool true)::(.bool true)::(.bool false)::(.bool false)::(.bool true)::(.bool true)::(Aa x)::(.bool true)::(.bool true)::(.bool true)::ud 9 []
theorem MT (y zt x p n:List Nat) (kb kc:List UInt8) (q v:UInt8) (od ok xz:Bool) (ae:Addr) (res:List Nat) (err:Value) (w:World)
 (Hy:Hid (y.length=5))
 (Hx:Hid (x.length=5))
 (Hzt:Hid (zt.length=15))
 (Hp:Hid (p.length=15))
 (Hn:Hid (n.length=15))
 (Hkb:Hid (kb.length=32))
 (Hkc:Hid (kc.length=32))
 (D1:Hid ((kb.map Fa)[31]? =some (Fa q)))
 (HO:Hid (bits .and .u8 (q.toNat:Int) 128=bif od then 128 else 0))
 (HV:Hid (bits .andNot .u8 (q.toNat:Int) 128=(v.toNat:Int)))
 (HC:Hid (kc=kb.set 31 v))
 (CS:Hid (∀W,Md (Ib ae) W→Calls Tryz.prog 55 #[Ca kc] W (gvn (.tuple #[Aa y,.nilIface]) W)))
 (BZ:∀w,(Instr.build 55 #[]).run Tryz.prog w=.ok (Aa zt) w)
 (CX:Hid (∀W,Md (Ib ae) W→Calls Tryz.prog 56 #[Aa y] W (gvn (.tuple #[Aa x,.bool ok]) W)))
 (CZ:Hid (∀W,Calls Tryz.prog 57 #[Aa x] W (gvn (.bool xz) W)))
 (CA:Hid (∀W,Calls Tryz.prog 58 #[Aa x,Aa y] W (gvn (Aa p) W)))
 (CN:Hid (∀W,Calls Tryz.prog 27 #[Aa p] W (gvn (Aa n) W)))
 (HP1:Hid (ok=false→res=zt∧err=Ib ae))
 (HP2:Hid (ok=true→od=false→res=p∧err=.nilIface))
 (HP3:Hid (ok=true→od=true→xz=true→res=zt∧err=Ib ae))
 (HP4:Hid (ok=true→od=true→xz=false→res=n∧err=.nilIface))
 (hS:Md (Ib ae) w)
 (hE:w.cell? ⟨1,0,none⟩=some (Ib ae)):
 Calls Tryz.prog 26 #[Ca kb] w (gvn (.tuple #[Aa res,err]) w):=by
 go_enter Tryz.func26,Tryz.ntmps26;cases od
 ·have ho:=HO.out;have hv:=HV.out;clear HO HV
  go_upto_region 1 with (first
   |(refine Rb rfl 23 (.tmp 0) rfl kb rfl ?_
     intro w1 hb1 hvb1 hz;clear hz;have hB1:=hb1;have hgeb:w.heap.size≤w.heap.size:=Xaj _;clear hb1;try simp only [La]
     skip)
   |(refine Ma (o:=⟨some 2,_,_,_,_,_⟩) rfl 55 rfl (Na 15) Id ?_
     intro w2 hb2 hvr2;have hB2:=Ba hB1 hb2;have hger:w.heap.size≤w1.heap.size:=hB1.size;have hvb2:=hvb1.on hb2;have hnebr:=Vaj hvb1.lt;clear hB1 hvb1 hb2;try simp only [La]
     skip))
  generalize hqr:w1.heap.size=gr at *;clear hqr;have dq:=hvb2.get D1.out;have hT:=hvb2.there 31 1 (by rw [Uaj,Hkb.out];decide);have hE1:=Lib.hid (hvb2.set 31 (Fa v))
  go_upto_region 3 with (first
   |(refine Qb rfl 5 _ _ rfl (w.heap.size) 31 .u8 (v.toNat:Int) rfl rfl Qc hT ?_
     intro w3 hw3;have hB3:Below w.heap.size w w3:=by rw [hw3];exact hB2.setCell (p:=⟨w.heap.size,31,none⟩) (Xaj _) _
     have hvb3:Ia w3 (w.heap.size) (kc.map Fa) 23:=by rw [hw3,HC.out,List.map_set];exact hE1.out
     have hvr3:Ia w3 gr (Na 15) 55:=by rw [hw3];exact hvr2.other (Ne.symm hnebr) _
     clear hw3 hT hE1 dq ho hv hB2 hvb2 hvr2;skip))
  go_wp2_with (first
   |(refine Tc rfl 23 (.tmp 1) rfl w.heap.size 32 kc 5 rfl hvb3 Tryz.underlying23 za Hkc.out ?_
     try simp only [La]
     skip))
  refine (CS.out w3 (hS.below hB3)).mono ?_;rintro e w4 ⟨rfl,hb4⟩;have hB4:=Ba hB3 hb4;have hvb4:=hvb3.on hb4;have hvr4:=hvr3.on hb4;clear hB3 hvb3 hvr3 hb4;go_wp2_with (first
   |(refine Db rfl rfl 53 (.tmp 5) (.tmp 21) rfl rfl 5 (Na 5) (y.map Ga) rfl rfl Fb rfl Sa (by rw [Uaj,Hy.out]) (Oa _) ?_
     intro w5 hb5 hvy5;have hB5:=Ba hB4 hb5;have hgey:w.heap.size≤w4.heap.size:=hB4.size;have hvb5:=hvb4.on hb5;have hneby:=Vaj hvb4.lt;have hvr5:=hvr4.on hb5;have hnery:=Vaj hvr4.lt;clear hB4 hvb4 hvr4 hb5;try simp only [La]
     skip)
   |(refine Pa rfl 53 (.tmp 5) rfl w4.heap.size 5 (y.map Ga) rfl hvy5 Tryz.underlying53 rfl Sa (by rw [Uaj,Hy.out]) ?_
     try simp only [La]
     skip))
  generalize hqy:w4.heap.size=gy at *;clear hqy;refine (CX.out w5 (hS.below hB5)).mono ?_;rintro e w6 ⟨rfl,hb6⟩;have hB6:=Ba hB5 hb6;have hvb6:=hvb5.on hb6;have hvr6:=hvr5.on hb6;have hvy6:=hvy5.on hb6;clear hB5 hvb5 hvr5 hvy5 hb6;cases ok
  ·go_upto_region 7 with (first
    |(refine Db rfl rfl 53 (.tmp 7) (.tmp 30) rfl rfl 5 (Na 5) (x.map Ga) rfl rfl Fb rfl Sa (by rw [Uaj,Hx.out]) (Oa _) ?_
      intro w7 hb7 hvx7;have hB7:=Ba hB6 hb7;have hgex:w.heap.size≤w6.heap.size:=hB6.size;have hvb7:=hvb6.on hb7;have hnebx:=Vaj hvb6.lt;have hvr7:=hvr6.on hb7;have hnerx:=Vaj hvr6.lt;have hvy7:=hvy6.on hb7;have hneyx:=Vaj hvy6.lt;clear hB6 hvb6 hvr6 hvy6 hb7;try simp only [La]
      skip))
   generalize hqx:w6.heap.size=gx at *;clear hqx;refine Mb (md:=.any) (by kernel_rfl) ?_;refine Ya (L:=[0,1,2,3,4,5,6,7,8]) (by kernel_rfl) _ _ (Jx kb w.heap.size gr gy gx q v y kc x) [] 23 Xa [0,1,2,3,4,5,6,7,8,9,10,11,12,13,14,15,16,17,18,19,20,21,22,23,24,25,26,27,28,29,30,31,41,42,43,44,45,46,47,48,49] (by kernel_rfl) (by kernel_rfl) ?_ Zb ?_ (by rfl) ?_ 0 (by kernel_rfl) ?_
   ·intro p hp;exact absurd hp List.not_mem_nil
   ·repeat refine Aak rfl ?_
    exact Qa
   ·refine Aak (.inr (mV 32 rfl (.inl rfl) rfl)) ?_;refine Aak (.inr (mN 33 rfl rfl rfl)) ?_;refine Aak (.inr (mV 34 rfl (.inl rfl) rfl)) ?_;refine Aak (.inr (mK 35 rfl)) ?_;refine Aak (.inr (mK 36 rfl)) ?_;refine Aak (.inr (Ap _ 37 rfl rfl rfl rfl (by kernel_rfl) (fun a hv=>ye (j:=4) rfl rfl rfl (hv 36 (by kernel_rfl) rfl)) rfl)) ?_;refine Aak (.inr (Ap _ 38 rfl rfl rfl rfl (by kernel_rfl) (fun a hv=>ye (j:=4) rfl rfl rfl (hv 36 (by kernel_rfl) rfl)) rfl)) ?_;refine Aak (.inr (mK 39 rfl)) ?_;refine Aak (.inr (mQ 40 rfl rfl rfl)) ?_;exact Qa
   intro w8 g hb8 hN8 hap8;clear hN8 hap8;have hB8:=Ba hB7 hb8;have hvb8:=hvb7.on hb8;have hvr8:=hvr7.on hb8;have hvy8:=hvy7.on hb8;have hvx8:=hvx7.on hb8;clear hB7 hvb7 hvr7 hvy7 hvx7 hb8;refine ⟨by kernel_rfl,?_⟩;rename_i K hKK;show Exit.then K _ Exit.normal (⟨(Jx kb w.heap.size gr gy gx q v y kc x).toArray,[]⟩:Act) w8;simp only [Exit.then];refine hKK _ _ ?_;clear hKK K g;simp only [Jx,ptr,ud];go_wp2_with fail
   go_wp2_with fail
   replace hvb8:=hvb8.drew;replace hvr8:=hvr8.drew;replace hvy8:=hvy8.drew;replace hvx8:=hvx8.drew;rename_i K hKK;have hltE:=block_lt_of_cell hE;have de9:w8.drew.cell? ⟨1,0,none⟩=some (Ib ae):=(hB8.cell hltE).trans hE;have hB9:=(show Below w.heap.size w w8.drew from hB8.drew);clear hB8;refine wp_region_any (by kernel_rfl) ?_;refine wpAny_of_held (S:=fun w'=>w'.cell? ⟨1,0,none⟩=some (Ib ae)) _ _ _ _ ?_;show wpAnyH _ _ _ _ _ _ _ _ w8.drew;simp only [List.size_toArray,List.length_cons,List.length_nil,Nat.reduceAdd,Array.replicate_succ,Array.replicate_zero,List.push_toArray,List.nil_append,List.cons_append];generalize w8.drew=w9 at *;refine wpAnyH_take (i:=1) (oi:=⟨some 42,_,_,_,_,_⟩) (v:=(Ib ae)) rfl (by kernel_rfl) (by kernel_rfl) (by kernel_rfl) (fun _ _ _ h=>h) (Or.inl ⟨by rfl,?_⟩) de9 ?_
   ·intro w8 h8;exact Yc _ _ _ _ rfl _ _ rfl _ (Gn h8)
   refine wpAnyH_all (rs:=[0]) (by kernel_rfl) (by decide) fun i hi=>?_;obtain rfl:=List.mem_singleton.1 hi;clear hi;refine wpOp_step rfl fun K1 hK1=>?_;rw [if_pos (by rfl)];refine Mc (Aa zt) (Vd _ _ _ [] rfl [] rfl _ w9 (BZ w9)) (hK1 _ _ ⟨de9,?_⟩);clear hK1 K1;refine wpAnyH_all (rs:=[2]) (by kernel_rfl) (by decide) fun i hi=>?_;obtain rfl:=List.mem_singleton.1 hi;clear hi;refine wpOp_step rfl fun K1 hK1=>?_;rw [if_pos (by rfl)];refine wp_store_mid 55 (.tmp 2) (.tmp 41) rfl gr 0 (zt.map Ga).toArray rfl rfl (by rw [List.size_toArray,Uaj,Hzt.out];exact hvr8.there 0 15 (by rw [show ((Na 15)).length=15 from rfl];decide)) (by rw [List.size_toArray,Uaj,Hzt.out];exact Pb) (Oa _) (hK1 _ _ ?_);have hC2:=hvr8.setCells (cs:=zt.map Ga) (o:=0) (by rw [Uaj,Hzt.out,show ((Na 15)).length=15 from rfl];decide);rw [Xb _ _ (by rw [Uaj,Hzt.out,show ((Na 15)).length=15 from rfl])] at hC2;have hb10:But gr w9 (w9.setCells gr 0 (zt.map Ga)):=(But.refl _ _).setCells _ _;have hB10:Below w.heap.size w (w9.setCells gr 0 (zt.map Ga)):=hB9.trans (hb10.below hger hB9.size);have de10:(w9.setCells gr 0 (zt.map Ga)).cell? ⟨1,0,none⟩=some (Ib ae):=(World.cell?_of_block (hb10.block _ (block_lt_of_cell de9) (Vaj (Waj hltE hger)))).trans de9;change (w9.setCells gr 0 (zt.map Ga)).cell? ⟨1,0,none⟩=some (Ib ae)∧wpAnyH _ _ _ _ _ _ _ _ (w9.setCells gr 0 (zt.map Ga));have hvb10:=hvb8.but hb10 hnebr;have hvy10:=hvy8.but hb10 (Ne.symm hnery);have hvx10:=hvx8.but hb10 (Ne.symm hnerx);have hvr10:=hC2;clear hC2 hb10 hK1 K1 hB9 hvr8 de9 hvb8 hvy8 hvx8;generalize w9.setCells gr 0 (zt.map Ga)=w10 at *;refine ⟨de10,?_⟩;refine wpAnyH_all (rs:=[3]) (by kernel_rfl) (by decide) fun i hi=>?_;obtain rfl:=List.mem_singleton.1 hi;clear hi;refine wpOp_step rfl fun K1 hK1=>?_;rw [if_pos (by rfl)];refine Mc ((Ib ae)) (Lb _ _ _ (.inr rfl) ((Ib ae)) (by rfl) w10) (hK1 _ _ ⟨de10,?_⟩);clear hK1 K1;refine wpAnyH_done (by kernel_rfl) ?_ _;show Exit.then K _ Exit.normal (⟨((Ca kb)::(.pointer (some ⟨w.heap.size,0,none⟩))::(.pointer (some ⟨gr,0,none⟩))::((Ib ae))::(.bool false)::(.pointer (some ⟨gy,0,none⟩))::(.nilIface)::(.pointer (some ⟨gx,0,none⟩))::(.bool false)::undef::(.pointer (some ⟨w.heap.size,31,none⟩))::(Fa q)::(.int .u8 0)::(.bool false)::(.pointer (some ⟨w.heap.size,31,none⟩))::(Fa q)::(.int .u8 (v.toNat:Int))::(.pointer (some ⟨w.heap.size,31,none⟩))::(.tuple #[Aa y,.nilIface])::(Ca kc)::(.tuple #[Aa y,.nilIface])::(Aa y)::(.nilIface)::(.nilIface)::(.bool false)::undef::undef::(.tuple #[Aa x,.bool false])::(Aa y)::(.tuple #[Aa x,.bool false])::(Aa x)::(.bool false)::(.bool false)::(.bool true)::(.bool true)::undef::undef::undef::undef::undef::(.bool true)::(Aa zt)::((Ib ae))::undef::undef::undef::undef::undef::undef::undef::[]).toArray,[]⟩:Act) w10;simp only [Exit.then];refine hKK _ _ ?_;clear hKK K
   go_wp2
   obtain ⟨hr1,hr2⟩:=HP1.out (by simp);exact Xf Tryz.results26 gr (zt.map Ga) _ rfl rfl hvr10 Tryz.underlying55 rfl Pb (by rw [Uaj,Hzt.out]) rfl ⟨by subst hr1;subst hr2;rfl,hB10⟩
  ·go_upto_region 7 with (first
    |(refine Db rfl rfl 53 (.tmp 7) (.tmp 30) rfl rfl 5 (Na 5) (x.map Ga) rfl rfl Fb rfl Sa (by rw [Uaj,Hx.out]) (Oa _) ?_
      intro w7 hb7 hvx7;have hB7:=Ba hB6 hb7;have hgex:w.heap.size≤w6.heap.size:=hB6.size;have hvb7:=hvb6.on hb7;have hnebx:=Vaj hvb6.lt;have hvr7:=hvr6.on hb7;have hnerx:=Vaj hvr6.lt;have hvy7:=hvy6.on hb7;have hneyx:=Vaj hvy6.lt;clear hB6 hvb6 hvr6 hvy6 hb7;try simp only [La]
      skip))
   generalize hqx:w6.heap.size=gx at *;clear hqx;refine Mb (md:=.any) (by kernel_rfl) ?_;refine Ya (L:=[0,1,2,3,4,5,6,7,8]) (by kernel_rfl) _ _ (Mq kb w.heap.size gr gy gx q v y kc x) [] 23 Xa [0,1,2,3,4,5,6,7,8,9,10,11,12,13,14,15,16,17,18,19,20,21,22,23,24,25,26,27,28,29,30,31,41,42,43,44,45,46,47,48,49] (by kernel_rfl) (by kernel_rfl) ?_ Zb ?_ (by rfl) ?_ 0 (by kernel_rfl) ?_
   ·intro p hp;exact absurd hp List.not_mem_nil
   ·repeat refine Aak rfl ?_
    exact Qa
   ·refine Aak (.inr (mV 32 rfl (.inl rfl) rfl)) ?_;refine Aak (.inr (mN 33 rfl rfl rfl)) ?_;refine Aak (.inr (mV 34 rfl (.inl rfl) rfl)) ?_;refine Aak (.inr (mV 35 rfl (.inl rfl) rfl)) ?_;refine Aak (.inr (mV 36 rfl (.inl rfl) rfl)) ?_;refine Aak (.inr (mK 37 rfl)) ?_;refine Aak (.inr (mK 38 rfl)) ?_;refine Aak (.inr (mQ 39 rfl rfl rfl)) ?_;refine Aak (.inr (mQ 40 rfl rfl rfl)) ?_;exact Qa
   intro w11 g hb11 hN11 hap11;clear hN11 hap11;have hB11:=Ba hB7 hb11;have hvb11:=hvb7.on hb11;have hvr11:=hvr7.on hb11;have hvy11:=hvy7.on hb11;have hvx11:=hvx7.on hb11;clear hB7 hvb7 hvr7 hvy7 hvx7 hb11;refine ⟨by kernel_rfl,?_⟩;rename_i K hKK;show Exit.then K _ Exit.normal (⟨(Mq kb w.heap.size gr gy gx q v y kc x).toArray,[]⟩:Act) w11;simp only [Exit.then];refine hKK _ _ ?_;clear hKK K g;simp only [Mq,ptr,ud];go_wp2_with (first
    |(refine Pa rfl 53 (.tmp 7) rfl gx 5 (x.map Ga) rfl hvx11 Tryz.underlying53 rfl Sa (by rw [Uaj,Hx.out]) ?_
      try simp only [La]
      skip)
    |(refine Pa rfl 53 (.tmp 5) rfl gy 5 (y.map Ga) rfl hvy11 Tryz.underlying53 rfl Sa (by rw [Uaj,Hy.out]) ?_
      try simp only [La]
      skip))
   refine (CA.out w11).mono ?_;rintro e w12 ⟨rfl,hb12⟩;have hB12:=Ba hB11 hb12;have hvb12:=hvb11.on hb12;have hvr12:=hvr11.on hb12;have hvy12:=hvy11.on hb12;have hvx12:=hvx11.on hb12;clear hB11 hvb11 hvr11 hvy11 hvx11 hb12;go_wp2_with (first
    |(refine Db rfl rfl 55 (.tmp 9) (.tmp 45) rfl rfl 15 (Na 15) (p.map Ga) rfl rfl Id rfl Pb (by rw [Uaj,Hp.out]) (Oa _) ?_
      intro w13 hb13 hvp13;have hB13:=Ba hB12 hb13;have hgep:w.heap.size≤w12.heap.size:=hB12.size;have hvb13:=hvb12.on hb13;have hnebp:=Vaj hvb12.lt;have hvr13:=hvr12.on hb13;have hnerp:=Vaj hvr12.lt;have hvy13:=hvy12.on hb13;have hneyp:=Vaj hvy12.lt;have hvx13:=hvx12.on hb13;have hnexp:=Vaj hvx12.lt;clear hB12 hvb12 hvr12 hvy12 hvx12 hb13;try simp only [La]
      skip)
    |(refine Pa rfl 55 (.tmp 9) rfl w12.heap.size 15 (p.map Ga) rfl hvp13 Tryz.underlying55 rfl Pb (by rw [Uaj,Hp.out]) ?_
      try simp only [La]
      skip)
    |(refine Ka rfl 55 (.tmp 2) (.tmp 49) rfl gr 15 (Na 15) (p.map Ga) rfl rfl hvr13 rfl Pb (by rw [Uaj,Hp.out]) (Oa _) ?_
      intro w14 hb14 hvr14 hz14;have hB14:Below w.heap.size w w14:=hB13.trans (hb14.below hger hB13.size);have hvb14:=hvb13.but hb14 hnebr;have hvy14:=hvy13.but hb14 (Ne.symm hnery);have hvx14:=hvx13.but hb14 (Ne.symm hnerx);have hvp14:=hvp13.but hb14 (Ne.symm hnerp);clear hB13 hvr13 hb14 hz14 hvb13 hvy13 hvx13 hvp13;skip))
   generalize hqp:w12.heap.size=gp at *;clear hqp;obtain ⟨hr1,hr2⟩:=HP2.out (by simp) (by simp);exact Xf Tryz.results26 gr (p.map Ga) _ rfl rfl hvr14 Tryz.underlying55 rfl Pb (by rw [Uaj,Hp.out]) rfl ⟨by subst hr1;subst hr2;rfl,hB14⟩
 ·have ho:=HO.out;have hv:=HV.out;clear HO HV
  go_upto_region 1 with (first
   |(refine Rb rfl 23 (.tmp 0) rfl kb rfl ?_
     intro w15 hb15 hvb15 hz;clear hz;have hB15:=hb15;have hgeb:w.heap.size≤w.heap.size:=Xaj _;clear hb15;try simp only [La]
     skip)
   |(refine Ma (o:=⟨some 2,_,_,_,_,_⟩) rfl 55 rfl (Na 15) Id ?_
     intro w16 hb16 hvr16;have hB16:=Ba hB15 hb16;have hger:w.heap.size≤w15.heap.size:=hB15.size;have hvb16:=hvb15.on hb16;have hnebr:=Vaj hvb15.lt;clear hB15 hvb15 hb16;try simp only [La]
     skip))
  generalize hqr:w15.heap.size=gr at *;clear hqr;have dq:=hvb16.get D1.out;have hT:=hvb16.there 31 1 (by rw [Uaj,Hkb.out];decide);have hE1:=Lib.hid (hvb16.set 31 (Fa v))
  go_upto_region 3 with (first
   |(refine Qb rfl 5 _ _ rfl (w.heap.size) 31 .u8 (v.toNat:Int) rfl rfl Qc hT ?_
     intro w17 hw17;have hB17:Below w.heap.size w w17:=by rw [hw17];exact hB16.setCell (p:=⟨w.heap.size,31,none⟩) (Xaj _) _
     have hvb17:Ia w17 (w.heap.size) (kc.map Fa) 23:=by rw [hw17,HC.out,List.map_set];exact hE1.out
     have hvr17:Ia w17 gr (Na 15) 55:=by rw [hw17];exact hvr16.other (Ne.symm hnebr) _
     clear hw17 hT hE1 dq ho hv hB16 hvb16 hvr16;skip))
  go_wp2_with (first
   |(refine Tc rfl 23 (.tmp 1) rfl w.heap.size 32 kc 5 rfl hvb17 Tryz.underlying23 za Hkc.out ?_
     try simp only [La]
     skip))
  refine (CS.out w17 (hS.below hB17)).mono ?_;rintro e w18 ⟨rfl,hb18⟩;have hB18:=Ba hB17 hb18;have hvb18:=hvb17.on hb18;have hvr18:=hvr17.on hb18;clear hB17 hvb17 hvr17 hb18;go_wp2_with (first
   |(refine Db rfl rfl 53 (.tmp 5) (.tmp 21) rfl rfl 5 (Na 5) (y.map Ga) rfl rfl Fb rfl Sa (by rw [Uaj,Hy.out]) (Oa _) ?_
     intro w19 hb19 hvy19;have hB19:=Ba hB18 hb19;have hgey:w.heap.size≤w18.heap.size:=hB18.size;have hvb19:=hvb18.on hb19;have hneby:=Vaj hvb18.lt;have hvr19:=hvr18.on hb19;have hnery:=Vaj hvr18.lt;clear hB18 hvb18 hvr18 hb19;try simp only [La]
     skip)
   |(refine Pa rfl 53 (.tmp 5) rfl w18.heap.size 5 (y.map Ga) rfl hvy19 Tryz.underlying53 rfl Sa (by rw [Uaj,Hy.out]) ?_
     try simp only [La]
     skip))
  generalize hqy:w18.heap.size=gy at *;clear hqy;refine (CX.out w19 (hS.below hB19)).mono ?_;rintro e w20 ⟨rfl,hb20⟩;have hB20:=Ba hB19 hb20;have hvb20:=hvb19.on hb20;have hvr20:=hvr19.on hb20;have hvy20:=hvy19.on hb20;clear hB19 hvb19 hvr19 hvy19 hb20;cases ok
  ·go_upto_region 7 with (first
    |(refine Db rfl rfl 53 (.tmp 7) (.tmp 30) rfl rfl 5 (Na 5) (x.map Ga) rfl rfl Fb rfl Sa (by rw [Uaj,Hx.out]) (Oa _) ?_
      intro w21 hb21 hvx21;have hB21:=Ba hB20 hb21;have hgex:w.heap.size≤w20.heap.size:=hB20.size;have hvb21:=hvb20.on hb21;have hnebx:=Vaj hvb20.lt;have hvr21:=hvr20.on hb21;have hnerx:=Vaj hvr20.lt;have hvy21:=hvy20.on hb21;have hneyx:=Vaj hvy20.lt;clear hB20 hvb20 hvr20 hvy20 hb21;try simp only [La]
      skip))
   generalize hqx:w20.heap.size=gx at *;clear hqx;refine Mb (md:=.any) (by kernel_rfl) ?_;refine Ya (L:=[0,1,2,3,4,5,6,7,8]) (by kernel_rfl) _ _ (Nq kb w.heap.size gr gy gx q v y kc x) [] 23 Xa [0,1,2,3,4,5,6,7,8,9,10,11,12,13,14,15,16,17,18,19,20,21,22,23,24,25,26,27,28,29,30,31,41,42,43,44,45,46,47,48,49] (by kernel_rfl) (by kernel_rfl) ?_ Zb ?_ (by rfl) ?_ 0 (by kernel_rfl) ?_
   ·intro p hp;exact absurd hp List.not_mem_nil
   ·repeat refine Aak rfl ?_
    exact Qa
   ·refine Aak (.inr (mV 32 rfl (.inl rfl) rfl)) ?_;refine Aak (.inr (mN 33 rfl rfl rfl)) ?_;refine Aak (.inr (mV 34 rfl (.inl rfl) rfl)) ?_;refine Aak (.inr (mK 35 rfl)) ?_;refine Aak (.inr (mK 36 rfl)) ?_;refine Aak (.inr (Ap _ 37 rfl rfl rfl rfl (by kernel_rfl) (fun a hv=>ye (j:=4) rfl rfl rfl (hv 36 (by kernel_rfl) rfl)) rfl)) ?_;refine Aak (.inr (Ap _ 38 rfl rfl rfl rfl (by kernel_rfl) (fun a hv=>ye (j:=4) rfl rfl rfl (hv 36 (by kernel_rfl) rfl)) rfl)) ?_;refine Aak (.inr (mK 39 rfl)) ?_;refine Aak (.inr (mQ 40 rfl rfl rfl)) ?_;exact Qa
   intro w22 g hb22 hN22 hap22;clear hN22 hap22;have hB22:=Ba hB21 hb22;have hvb22:=hvb21.on hb22;have hvr22:=hvr21.on hb22;have hvy22:=hvy21.on hb22;have hvx22:=hvx21.on hb22;clear hB21 hvb21 hvr21 hvy21 hvx21 hb22;refine ⟨by kernel_rfl,?_⟩;rename_i K hKK;show Exit.then K _ Exit.normal (⟨(Nq kb w.heap.size gr gy gx q v y kc x).toArray,[]⟩:Act) w22;simp only [Exit.then];refine hKK _ _ ?_;clear hKK K g;simp only [Nq,ptr,ud];go_wp2_with fail
   go_wp2_with fail
   replace hvb22:=hvb22.drew;replace hvr22:=hvr22.drew;replace hvy22:=hvy22.drew;replace hvx22:=hvx22.drew;rename_i K hKK;have hltE:=block_lt_of_cell hE;have de23:w22.drew.cell? ⟨1,0,none⟩=some (Ib ae):=(hB22.cell hltE).trans hE;have hB23:=(show Below w.heap.size w w22.drew from hB22.drew);clear hB22;refine wp_region_any (by kernel_rfl) ?_;refine wpAny_of_held (S:=fun w'=>w'.cell? ⟨1,0,none⟩=some (Ib ae)) _ _ _ _ ?_;show wpAnyH _ _ _ _ _ _ _ _ w22.drew;simp only [List.size_toArray,List.length_cons,List.length_nil,Nat.reduceAdd,Array.replicate_succ,Array.replicate_zero,List.push_toArray,List.nil_append,List.cons_append];generalize w22.drew=w23 at *;refine wpAnyH_take (i:=1) (oi:=⟨some 42,_,_,_,_,_⟩) (v:=(Ib ae)) rfl (by kernel_rfl) (by kernel_rfl) (by kernel_rfl) (fun _ _ _ h=>h) (Or.inl ⟨by rfl,?_⟩) de23 ?_
   ·intro w8 h8;exact Yc _ _ _ _ rfl _ _ rfl _ (Gn h8)
   refine wpAnyH_all (rs:=[0]) (by kernel_rfl) (by decide) fun i hi=>?_;obtain rfl:=List.mem_singleton.1 hi;clear hi;refine wpOp_step rfl fun K1 hK1=>?_;rw [if_pos (by rfl)];refine Mc (Aa zt) (Vd _ _ _ [] rfl [] rfl _ w23 (BZ w23)) (hK1 _ _ ⟨de23,?_⟩);clear hK1 K1;refine wpAnyH_all (rs:=[2]) (by kernel_rfl) (by decide) fun i hi=>?_;obtain rfl:=List.mem_singleton.1 hi;clear hi;refine wpOp_step rfl fun K1 hK1=>?_;rw [if_pos (by rfl)];refine wp_store_mid 55 (.tmp 2) (.tmp 41) rfl gr 0 (zt.map Ga).toArray rfl rfl (by rw [List.size_toArray,Uaj,Hzt.out];exact hvr22.there 0 15 (by rw [show ((Na 15)).length=15 from rfl];decide)) (by rw [List.size_toArray,Uaj,Hzt.out];exact Pb) (Oa _) (hK1 _ _ ?_);have hC2:=hvr22.setCells (cs:=zt.map Ga) (o:=0) (by rw [Uaj,Hzt.out,show ((Na 15)).length=15 from rfl];decide);rw [Xb _ _ (by rw [Uaj,Hzt.out,show ((Na 15)).length=15 from rfl])] at hC2;have hb24:But gr w23 (w23.setCells gr 0 (zt.map Ga)):=(But.refl _ _).setCells _ _;have hB24:Below w.heap.size w (w23.setCells gr 0 (zt.map Ga)):=hB23.trans (hb24.below hger hB23.size);have de24:(w23.setCells gr 0 (zt.map Ga)).cell? ⟨1,0,none⟩=some (Ib ae):=(World.cell?_of_block (hb24.block _ (block_lt_of_cell de23) (Vaj (Waj hltE hger)))).trans de23;change (w23.setCells gr 0 (zt.map Ga)).cell? ⟨1,0,none⟩=some (Ib ae)∧wpAnyH _ _ _ _ _ _ _ _ (w23.setCells gr 0 (zt.map Ga));have hvb24:=hvb22.but hb24 hnebr;have hvy24:=hvy22.but hb24 (Ne.symm hnery);have hvx24:=hvx22.but hb24 (Ne.symm hnerx);have hvr24:=hC2;clear hC2 hb24 hK1 K1 hB23 hvr22 de23 hvb22 hvy22 hvx22;generalize w23.setCells gr 0 (zt.map Ga)=w24 at *;refine ⟨de24,?_⟩;refine wpAnyH_all (rs:=[3]) (by kernel_rfl) (by decide) fun i hi=>?_;obtain rfl:=List.mem_singleton.1 hi;clear hi;refine wpOp_step rfl fun K1 hK1=>?_;rw [if_pos (by rfl)];refine Mc ((Ib ae)) (Lb _ _ _ (.inr rfl) ((Ib ae)) (by rfl) w24) (hK1 _ _ ⟨de24,?_⟩);clear hK1 K1;refine wpAnyH_done (by kernel_rfl) ?_ _;show Exit.then K _ Exit.normal (⟨((Ca kb)::(.pointer (some ⟨w.heap.size,0,none⟩))::(.pointer (some ⟨gr,0,none⟩))::((Ib ae))::(.bool true)::(.pointer (some ⟨gy,0,none⟩))::(.nilIface)::(.pointer (some ⟨gx,0,none⟩))::(.bool false)::undef::(.pointer (some ⟨w.heap.size,31,none⟩))::(Fa q)::(.int .u8 128)::(.bool true)::(.pointer (some ⟨w.heap.size,31,none⟩))::(Fa q)::(.int .u8 (v.toNat:Int))::(.pointer (some ⟨w.heap.size,31,none⟩))::(.tuple #[Aa y,.nilIface])::(Ca kc)::(.tuple #[Aa y,.nilIface])::(Aa y)::(.nilIface)::(.nilIface)::(.bool false)::undef::undef::(.tuple #[Aa x,.bool false])::(Aa y)::(.tuple #[Aa x,.bool false])::(Aa x)::(.bool false)::(.bool false)::(.bool true)::(.bool true)::undef::undef::undef::undef::undef::(.bool true)::(Aa zt)::((Ib ae))::undef::undef::undef::undef::undef::undef::undef::[]).toArray,[]⟩:Act) w24;simp only [Exit.then];refine hKK _ _ ?_;clear hKK K
   go_wp2
   obtain ⟨hr1,hr2⟩:=HP1.out (by simp);exact Xf Tryz.results26 gr (zt.map Ga) _ rfl rfl hvr24 Tryz.underlying55 rfl Pb (by rw [Uaj,Hzt.out]) rfl ⟨by subst hr1;subst hr2;rfl,hB24⟩
  ·cases xz
   ·go_upto_region 7 with (first
     |(refine Db rfl rfl 53 (.tmp 7) (.tmp 30) rfl rfl 5 (Na 5) (x.map Ga) rfl rfl Fb rfl Sa (by rw [Uaj,Hx.out]) (Oa _) ?_
       intro w21 hb21 hvx21;have hB21:=Ba hB20 hb21;have hgex:w.heap.size≤w20.heap.size:=hB20.size;have hvb21:=hvb20.on hb21;have hnebx:=Vaj hvb20.lt;have hvr21:=hvr20.on hb21;have hnerx:=Vaj hvr20.lt;have hvy21:=hvy20.on hb21;have hneyx:=Vaj hvy20.lt;clear hB20 hvb20 hvr20 hvy20 hb21;try simp only [La]
       skip))
    generalize hqx:w20.heap.size=gx at *;clear hqx;refine Mb (md:=.any) (by kernel_rfl) ?_;refine Ya (L:=[0,1,2,3,4,5,6,7,8]) (by kernel_rfl) _ _ (Oq kb w.heap.size gr gy gx q v y kc x) [] 23 Xa [0,1,2,3,4,5,6,7,8,9,10,11,12,13,14,15,16,17,18,19,20,21,22,23,24,25,26,27,28,29,30,31,41,42,43,44,45,46,47,48,49] (by kernel_rfl) (by kernel_rfl) ?_ Zb ?_ (by rfl) ?_ 0 (by kernel_rfl) ?_
    ·intro p hp;exact absurd hp List.not_mem_nil
    ·repeat refine Aak rfl ?_
     exact Qa
    ·refine Aak (.inr (mV 32 rfl (.inl rfl) rfl)) ?_;refine Aak (.inr (mN 33 rfl rfl rfl)) ?_;refine Aak (.inr (mV 34 rfl (.inl rfl) rfl)) ?_;refine Aak (.inr (mV 35 rfl (.inl rfl) rfl)) ?_;refine Aak (.inr (mV 36 rfl (.inl rfl) rfl)) ?_;refine Aak (.inr (mL 37 rfl fun w hb=>Gb (hvx21.on hb) Hx.out)) ?_;refine Aak (.inr (mC 38 rfl Tryz.func57 fun w hb=>CZ.out w)) ?_;refine Aak (.inr (mQ 39 rfl rfl rfl)) ?_;refine Aak (.inr (mQ 40 rfl rfl rfl)) ?_;exact Qa
    intro w25 g hb25 hN25 hap25;clear hN25 hap25;have hB25:=Ba hB21 hb25;have hvb25:=hvb21.on hb25;have hvr25:=hvr21.on hb25;have hvy25:=hvy21.on hb25;have hvx25:=hvx21.on hb25;clear hB21 hvb21 hvr21 hvy21 hvx21 hb25;refine ⟨by kernel_rfl,?_⟩;rename_i K hKK;show Exit.then K _ Exit.normal (⟨(Oq kb w.heap.size gr gy gx q v y kc x).toArray,[]⟩:Act) w25;simp only [Exit.then];refine hKK _ _ ?_;clear hKK K g;simp only [Oq,ptr,ud];go_wp2_with (first
     |(refine Pa rfl 53 (.tmp 7) rfl gx 5 (x.map Ga) rfl hvx25 Tryz.underlying53 rfl Sa (by rw [Uaj,Hx.out]) ?_
       try simp only [La]
       skip)
     |(refine Pa rfl 53 (.tmp 5) rfl gy 5 (y.map Ga) rfl hvy25 Tryz.underlying53 rfl Sa (by rw [Uaj,Hy.out]) ?_
       try simp only [La]
       skip))
    refine (CA.out w25).mono ?_;rintro e w26 ⟨rfl,hb26⟩;have hB26:=Ba hB25 hb26;have hvb26:=hvb25.on hb26;have hvr26:=hvr25.on hb26;have hvy26:=hvy25.on hb26;have hvx26:=hvx25.on hb26;clear hB25 hvb25 hvr25 hvy25 hvx25 hb26;go_wp2_with (first
     |(refine Db rfl rfl 55 (.tmp 9) (.tmp 45) rfl rfl 15 (Na 15) (p.map Ga) rfl rfl Id rfl Pb (by rw [Uaj,Hp.out]) (Oa _) ?_
       intro w27 hb27 hvp27;have hB27:=Ba hB26 hb27;have hgep:w.heap.size≤w26.heap.size:=hB26.size;have hvb27:=hvb26.on hb27;have hnebp:=Vaj hvb26.lt;have hvr27:=hvr26.on hb27;have hnerp:=Vaj hvr26.lt;have hvy27:=hvy26.on hb27;have hneyp:=Vaj hvy26.lt;have hvx27:=hvx26.on hb27;have hnexp:=Vaj hvx26.lt;clear hB26 hvb26 hvr26 hvy26 hvx26 hb27;try simp only [La]
       skip)
     |(refine Pa rfl 55 (.tmp 9) rfl w26.heap.size 15 (p.map Ga) rfl hvp27 Tryz.underlying55 rfl Pb (by rw [Uaj,Hp.out]) ?_
       try simp only [La]
       skip))
    generalize hqp:w26.heap.size=gp at *;clear hqp;refine (CN.out w27).mono ?_;rintro e w28 ⟨rfl,hb28⟩;have hB28:=Ba hB27 hb28;have hvb28:=hvb27.on hb28;have hvr28:=hvr27.on hb28;have hvy28:=hvy27.on hb28;have hvx28:=hvx27.on hb28;have hvp28:=hvp27.on hb28;clear hB27 hvb27 hvr27 hvy27 hvx27 hvp27 hb28;go_wp2_with (first
     |(refine Ka rfl 55 (.tmp 2) (.tmp 48) rfl gr 15 (Na 15) (n.map Ga) rfl rfl hvr28 rfl Pb (by rw [Uaj,Hn.out]) (Oa _) ?_
       intro w29 hb29 hvr29 hz29;have hB29:Below w.heap.size w w29:=hB28.trans (hb29.below hger hB28.size);have hvb29:=hvb28.but hb29 hnebr;have hvy29:=hvy28.but hb29 (Ne.symm hnery);have hvx29:=hvx28.but hb29 (Ne.symm hnerx);have hvp29:=hvp28.but hb29 (Ne.symm hnerp);clear hB28 hvr28 hb29 hz29 hvb28 hvy28 hvx28 hvp28;skip))
    obtain ⟨hr1,hr2⟩:=HP4.out (by simp) (by simp) (by simp);exact Xf Tryz.results26 gr (n.map Ga) _ rfl rfl hvr29 Tryz.underlying55 rfl Pb (by rw [Uaj,Hn.out]) rfl ⟨by subst hr1;subst hr2;rfl,hB29⟩
   ·go_upto_region 7 with (first
     |(refine Db rfl rfl 53 (.tmp 7) (.tmp 30) rfl rfl 5 (Na 5) (x.map Ga) rfl rfl Fb rfl Sa (by rw [Uaj,Hx.out]) (Oa _) ?_
       intro w21 hb21 hvx21;have hB21:=Ba hB20 hb21;have hgex:w.heap.size≤w20.heap.size:=hB20.size;have hvb21:=hvb20.on hb21;have hnebx:=Vaj hvb20.lt;have hvr21:=hvr20.on hb21;have hnerx:=Vaj hvr20.lt;have hvy21:=hvy20.on hb21;have hneyx:=Vaj hvy20.lt;clear hB20 hvb20 hvr20 hvy20 hb21;try simp only [La]
       skip))
    generalize hqx:w20.heap.size=gx at *;clear hqx;refine Mb (md:=.any) (by kernel_rfl) ?_;refine Ya (L:=[0,1,2,3,4,5,6,7,8]) (by kernel_rfl) _ _ (Pq kb w.heap.size gr gy gx q v y kc x) [] 23 Xa [0,1,2,3,4,5,6,7,8,9,10,11,12,13,14,15,16,17,18,19,20,21,22,23,24,25,26,27,28,29,30,31,41,42,43,44,45,46,47,48,49] (by kernel_rfl) (by kernel_rfl) ?_ Zb ?_ (by rfl) ?_ 0 (by kernel_rfl) ?_
    ·intro p hp;exact absurd hp List.not_mem_nil
    ·repeat refine Aak rfl ?_
     exact Qa
    ·refine Aak (.inr (mV 32 rfl (.inl rfl) rfl)) ?_;refine Aak (.inr (mN 33 rfl rfl rfl)) ?_;refine Aak (.inr (mV 34 rfl (.inl rfl) rfl)) ?_;refine Aak (.inr (mV 35 rfl (.inl rfl) rfl)) ?_;refine Aak (.inr (mV 36 rfl (.inl rfl) rfl)) ?_;refine Aak (.inr (mL 37 rfl fun w hb=>Gb (hvx21.on hb) Hx.out)) ?_;refine Aak (.inr (mC 38 rfl Tryz.func57 fun w hb=>CZ.out w)) ?_;refine Aak (.inr (mQ 39 rfl rfl rfl)) ?_;refine Aak (.inr (mQ 40 rfl rfl rfl)) ?_;exact Qa
    intro w30 g hb30 hN30 hap30;clear hN30 hap30;have hB30:=Ba hB21 hb30;have hvb30:=hvb21.on hb30;have hvr30:=hvr21.on hb30;have hvy30:=hvy21.on hb30;have hvx30:=hvx21.on hb30;clear hB21 hvb21 hvr21 hvy21 hvx21 hb30;refine ⟨by kernel_rfl,?_⟩;rename_i K hKK;show Exit.then K _ Exit.normal (⟨(Pq kb w.heap.size gr gy gx q v y kc x).toArray,[]⟩:Act) w30;simp only [Exit.then];refine hKK _ _ ?_;clear hKK K g;simp only [Pq,ptr,ud];go_wp2_with fail
    go_wp2_with fail
    replace hvb30:=hvb30.drew;replace hvr30:=hvr30.drew;replace hvy30:=hvy30.drew;replace hvx30:=hvx30.drew;rename_i K hKK;have hltE:=block_lt_of_cell hE;have de31:w30.drew.cell? ⟨1,0,none⟩=some (Ib ae):=(hB30.cell hltE).trans hE;have hB31:=(show Below w.heap.size w w30.drew from hB30.drew);clear hB30;refine wp_region_any (by kernel_rfl) ?_;refine wpAny_of_held (S:=fun w'=>w'.cell? ⟨1,0,none⟩=some (Ib ae)) _ _ _ _ ?_;show wpAnyH _ _ _ _ _ _ _ _ w30.drew;simp only [List.size_toArray,List.length_cons,List.length_nil,Nat.reduceAdd,Array.replicate_succ,Array.replicate_zero,List.push_toArray,List.nil_append,List.cons_append];generalize w30.drew=w31 at *;refine wpAnyH_take (i:=1) (oi:=⟨some 42,_,_,_,_,_⟩) (v:=(Ib ae)) rfl (by kernel_rfl) (by kernel_rfl) (by kernel_rfl) (fun _ _ _ h=>h) (Or.inl ⟨by rfl,?_⟩) de31 ?_
    ·intro w8 h8;exact Yc _ _ _ _ rfl _ _ rfl _ (Gn h8)
    refine wpAnyH_all (rs:=[0]) (by kernel_rfl) (by decide) fun i hi=>?_;obtain rfl:=List.mem_singleton.1 hi;clear hi;refine wpOp_step rfl fun K1 hK1=>?_;rw [if_pos (by rfl)];refine Mc (Aa zt) (Vd _ _ _ [] rfl [] rfl _ w31 (BZ w31)) (hK1 _ _ ⟨de31,?_⟩);clear hK1 K1;refine wpAnyH_all (rs:=[2]) (by kernel_rfl) (by decide) fun i hi=>?_;obtain rfl:=List.mem_singleton.1 hi;clear hi;refine wpOp_step rfl fun K1 hK1=>?_;rw [if_pos (by rfl)];refine wp_store_mid 55 (.tmp 2) (.tmp 41) rfl gr 0 (zt.map Ga).toArray rfl rfl (by rw [List.size_toArray,Uaj,Hzt.out];exact hvr30.there 0 15 (by rw [show ((Na 15)).length=15 from rfl];decide)) (by rw [List.size_toArray,Uaj,Hzt.out];exact Pb) (Oa _) (hK1 _ _ ?_);have hC2:=hvr30.setCells (cs:=zt.map Ga) (o:=0) (by rw [Uaj,Hzt.out,show ((Na 15)).length=15 from rfl];decide);rw [Xb _ _ (by rw [Uaj,Hzt.out,show ((Na 15)).length=15 from rfl])] at hC2;have hb32:But gr w31 (w31.setCells gr 0 (zt.map Ga)):=(But.refl _ _).setCells _ _;have hB32:Below w.heap.size w (w31.setCells gr 0 (zt.map Ga)):=hB31.trans (hb32.below hger hB31.size);have de32:(w31.setCells gr 0 (zt.map Ga)).cell? ⟨1,0,none⟩=some (Ib ae):=(World.cell?_of_block (hb32.block _ (block_lt_of_cell de31) (Vaj (Waj hltE hger)))).trans de31;change (w31.setCells gr 0 (zt.map Ga)).cell? ⟨1,0,none⟩=some (Ib ae)∧wpAnyH _ _ _ _ _ _ _ _ (w31.setCells gr 0 (zt.map Ga));have hvb32:=hvb30.but hb32 hnebr;have hvy32:=hvy30.but hb32 (Ne.symm hnery);have hvx32:=hvx30.but hb32 (Ne.symm hnerx);have hvr32:=hC2;clear hC2 hb32 hK1 K1 hB31 hvr30 de31 hvb30 hvy30 hvx30;generalize w31.setCells gr 0 (zt.map Ga)=w32 at *;refine ⟨de32,?_⟩;refine wpAnyH_all (rs:=[3]) (by kernel_rfl) (by decide) fun i hi=>?_;obtain rfl:=List.mem_singleton.1 hi;clear hi;refine wpOp_step rfl fun K1 hK1=>?_;rw [if_pos (by rfl)];refine Mc ((Ib ae)) (Lb _ _ _ (.inr rfl) ((Ib ae)) (by rfl) w32) (hK1 _ _ ⟨de32,?_⟩);clear hK1 K1;refine wpAnyH_done (by kernel_rfl) ?_ _;show Exit.then K _ Exit.normal (⟨((Ca kb)::(.pointer (some ⟨w.heap.size,0,none⟩))::(.pointer (some ⟨gr,0,none⟩))::((Ib ae))::(.bool true)::(.pointer (some ⟨gy,0,none⟩))::(.nilIface)::(.pointer (some ⟨gx,0,none⟩))::(.bool true)::undef::(.pointer (some ⟨w.heap.size,31,none⟩))::(Fa q)::(.int .u8 128)::(.bool true)::(.pointer (some ⟨w.heap.size,31,none⟩))::(Fa q)::(.int .u8 (v.toNat:Int))::(.pointer (some ⟨w.heap.size,31,none⟩))::(.tuple #[Aa y,.nilIface])::(Ca kc)::(.tuple #[Aa y,.nilIface])::(Aa y)::(.nilIface)::(.nilIface)::(.bool false)::undef::undef::(.tuple #[Aa x,.bool true])::(Aa y)::(.tuple #[Aa x,.bool true])::(Aa x)::(.bool true)::(.bool true)::(.bool false)::(.bool false)::(.bool true)::(.bool true)::(Aa x)::(.bool true)::(.bool true)::(.bool true)::(Aa zt)::((Ib ae))::undef::undef::undef::undef::undef::undef::undef::[]).toArray,[]⟩:Act) w32;simp only [Exit.then];refine hKK _ _ ?_;clear hKK K
    go_wp2
    obtain ⟨hr1,hr2⟩:=HP3.out (by simp) (by simp) (by simp);exact Xf Tryz.results26 gr (zt.map Ga) _ rfl rfl hvr32 Tryz.underlying55 rfl Pb (by rw [Uaj,Hzt.out]) rfl ⟨by subst hr1;subst hr2;rfl,hB32⟩
theorem UE (y zt:List Nat) (kb kc:List UInt8) (q v:UInt8) (od:Bool) (ae:Addr) (w:World)
 (Hy:Hid (y.length=5))
 (Hzt:Hid (zt.length=15))
 (Hkb:Hid (kb.length=32))
 (Hkc:Hid (kc.length=32))
 (D1:Hid ((kb.map Fa)[31]? =some (Fa q)))
 (HO:Hid (bits .and .u8 (q.toNat:Int) 128=bif od then 128 else 0))
 (HV:Hid (bits .andNot .u8 (q.toNat:Int) 128=(v.toNat:Int)))
 (HC:Hid (kc=kb.set 31 v))
 (CS:Hid (∀W,Md (Ib ae) W→Calls Tryz.prog 55 #[Ca kc] W (gvn (.tuple #[Aa y,Ib ae]) W)))
 (BZ:∀w,(Instr.build 55 #[]).run Tryz.prog w=.ok (Aa zt) w)
 (hS:Md (Ib ae) w)
 (hE:w.cell? ⟨1,0,none⟩=some (Ib ae)):
 Calls Tryz.prog 26 #[Ca kb] w (gvn (.tuple #[Aa zt,Ib ae]) w):=by
 go_enter Tryz.func26,Tryz.ntmps26;cases od
 ·have ho:=HO.out;have hv:=HV.out;clear HO HV
  go_upto_region 1 with (first
   |(refine Rb rfl 23 (.tmp 0) rfl kb rfl ?_
     intro w1 hb1 hvb1 hz;clear hz;have hB1:=hb1;have hgeb:w.heap.size≤w.heap.size:=Xaj _;clear hb1;try simp only [La]
     skip)
   |(refine Ma (o:=⟨some 2,_,_,_,_,_⟩) rfl 55 rfl (Na 15) Id ?_
     intro w2 hb2 hvr2;have hB2:=Ba hB1 hb2;have hger:w.heap.size≤w1.heap.size:=hB1.size;have hvb2:=hvb1.on hb2;have hnebr:=Vaj hvb1.lt;clear hB1 hvb1 hb2;try simp only [La]
     skip))
  generalize hqr:w1.heap.size=gr at *;clear hqr;have dq:=hvb2.get D1.out;have hT:=hvb2.there 31 1 (by rw [Uaj,Hkb.out];decide);have hE1:=Lib.hid (hvb2.set 31 (Fa v))
  go_upto_region 3 with (first
   |(refine Qb rfl 5 _ _ rfl (w.heap.size) 31 .u8 (v.toNat:Int) rfl rfl Qc hT ?_
     intro w3 hw3;have hB3:Below w.heap.size w w3:=by rw [hw3];exact hB2.setCell (p:=⟨w.heap.size,31,none⟩) (Xaj _) _
     have hvb3:Ia w3 (w.heap.size) (kc.map Fa) 23:=by rw [hw3,HC.out,List.map_set];exact hE1.out
     have hvr3:Ia w3 gr (Na 15) 55:=by rw [hw3];exact hvr2.other (Ne.symm hnebr) _
     clear hw3 hT hE1 dq ho hv hB2 hvb2 hvr2;skip))
  go_wp2_with (first
   |(refine Tc rfl 23 (.tmp 1) rfl w.heap.size 32 kc 5 rfl hvb3 Tryz.underlying23 za Hkc.out ?_
     try simp only [La]
     skip))
  refine (CS.out w3 (hS.below hB3)).mono ?_;rintro e w4 ⟨rfl,hb4⟩;have hB4:=Ba hB3 hb4;have hvb4:=hvb3.on hb4;have hvr4:=hvr3.on hb4;clear hB3 hvb3 hvr3 hb4;go_wp2_with (first
   |(refine Db rfl rfl 53 (.tmp 5) (.tmp 21) rfl rfl 5 (Na 5) (y.map Ga) rfl rfl Fb rfl Sa (by rw [Uaj,Hy.out]) (Oa _) ?_
     intro w5 hb5 hvy5;have hB5:=Ba hB4 hb5;have hgey:w.heap.size≤w4.heap.size:=hB4.size;have hvb5:=hvb4.on hb5;have hneby:=Vaj hvb4.lt;have hvr5:=hvr4.on hb5;have hnery:=Vaj hvr4.lt;clear hB4 hvb4 hvr4 hb5;try simp only [La]
     skip))
  generalize hqy:w4.heap.size=gy at *;clear hqy;go_wp2_with fail
  replace hvb5:=hvb5.drew;replace hvr5:=hvr5.drew;replace hvy5:=hvy5.drew;rename_i K hKK;have hltE:=block_lt_of_cell hE;have de6:w5.drew.cell? ⟨1,0,none⟩=some (Ib ae):=(hB5.cell hltE).trans hE;have hB6:=(show Below w.heap.size w w5.drew from hB5.drew);clear hB5;refine wp_region_any (by kernel_rfl) ?_;refine wpAny_of_held (S:=fun w'=>w'.cell? ⟨1,0,none⟩=some (Ib ae)) _ _ _ _ ?_;show wpAnyH _ _ _ _ _ _ _ _ w5.drew;simp only [List.size_toArray,List.length_cons,List.length_nil,Nat.reduceAdd,Array.replicate_succ,Array.replicate_zero,List.push_toArray,List.nil_append,List.cons_append];generalize w5.drew=w6 at *;refine wpAnyH_take (i:=1) (oi:=⟨some 26,_,_,_,_,_⟩) (v:=(Ib ae)) rfl (by kernel_rfl) (by kernel_rfl) (by kernel_rfl) (fun _ _ _ h=>h) (Or.inl ⟨by rfl,?_⟩) de6 ?_
  ·intro w8 h8;exact Yc _ _ _ _ rfl _ _ rfl _ (Gn h8)
  refine wpAnyH_all (rs:=[0]) (by kernel_rfl) (by decide) fun i hi=>?_;obtain rfl:=List.mem_singleton.1 hi;clear hi;refine wpOp_step rfl fun K1 hK1=>?_;rw [if_pos (by rfl)];refine Mc (Aa zt) (Vd _ _ _ [] rfl [] rfl _ w6 (BZ w6)) (hK1 _ _ ⟨de6,?_⟩);clear hK1 K1;refine wpAnyH_all (rs:=[2]) (by kernel_rfl) (by decide) fun i hi=>?_;obtain rfl:=List.mem_singleton.1 hi;clear hi;refine wpOp_step rfl fun K1 hK1=>?_;rw [if_pos (by rfl)];refine wp_store_mid 55 (.tmp 2) (.tmp 25) rfl gr 0 (zt.map Ga).toArray rfl rfl (by rw [List.size_toArray,Uaj,Hzt.out];exact hvr5.there 0 15 (by rw [show ((Na 15)).length=15 from rfl];decide)) (by rw [List.size_toArray,Uaj,Hzt.out];exact Pb) (Oa _) (hK1 _ _ ?_);have hC2:=hvr5.setCells (cs:=zt.map Ga) (o:=0) (by rw [Uaj,Hzt.out,show ((Na 15)).length=15 from rfl];decide);rw [Xb _ _ (by rw [Uaj,Hzt.out,show ((Na 15)).length=15 from rfl])] at hC2;have hb7:But gr w6 (w6.setCells gr 0 (zt.map Ga)):=(But.refl _ _).setCells _ _;have hB7:Below w.heap.size w (w6.setCells gr 0 (zt.map Ga)):=hB6.trans (hb7.below hger hB6.size);have de7:(w6.setCells gr 0 (zt.map Ga)).cell? ⟨1,0,none⟩=some (Ib ae):=(World.cell?_of_block (hb7.block _ (block_lt_of_cell de6) (Vaj (Waj hltE hger)))).trans de6;change (w6.setCells gr 0 (zt.map Ga)).cell? ⟨1,0,none⟩=some (Ib ae)∧wpAnyH _ _ _ _ _ _ _ _ (w6.setCells gr 0 (zt.map Ga));have hvb7:=hvb5.but hb7 hnebr;have hvy7:=hvy5.but hb7 (Ne.symm hnery);have hvr7:=hC2;clear hC2 hb7 hK1 K1 hB6 hvr5 de6 hvb5 hvy5;generalize w6.setCells gr 0 (zt.map Ga)=w7 at *;refine ⟨de7,?_⟩;refine wpAnyH_all (rs:=[3]) (by kernel_rfl) (by decide) fun i hi=>?_;obtain rfl:=List.mem_singleton.1 hi;clear hi;refine wpOp_step rfl fun K1 hK1=>?_;rw [if_pos (by rfl)];refine Mc ((Ib ae)) (Lb _ _ _ (.inr rfl) ((Ib ae)) (by rfl) w7) (hK1 _ _ ⟨de7,?_⟩);clear hK1 K1;refine wpAnyH_done (by kernel_rfl) ?_ _;show Exit.then K _ Exit.normal (⟨((Ca kb)::(.pointer (some ⟨w.heap.size,0,none⟩))::(.pointer (some ⟨gr,0,none⟩))::((Ib ae))::(.bool false)::(.pointer (some ⟨gy,0,none⟩))::(Ib ae)::undef::undef::undef::(.pointer (some ⟨w.heap.size,31,none⟩))::(Fa q)::(.int .u8 0)::(.bool false)::(.pointer (some ⟨w.heap.size,31,none⟩))::(Fa q)::(.int .u8 (v.toNat:Int))::(.pointer (some ⟨w.heap.size,31,none⟩))::(.tuple #[Aa y,Ib ae])::(Ca kc)::(.tuple #[Aa y,Ib ae])::(Aa y)::(Ib ae)::(Ib ae)::(.bool true)::(Aa zt)::((Ib ae))::undef::undef::undef::undef::undef::undef::undef::undef::undef::undef::undef::undef::undef::undef::undef::undef::undef::undef::undef::undef::undef::undef::undef::[]).toArray,[]⟩:Act) w7;simp only [Exit.then];refine hKK _ _ ?_;clear hKK K
  go_wp2
  exact Xf Tryz.results26 gr (zt.map Ga) _ rfl rfl hvr7 Tryz.underlying55 rfl Pb (by rw [Uaj,Hzt.out]) rfl ⟨rfl,hB7⟩
 ·have ho:=HO.out;have hv:=HV.out;clear HO HV
  go_upto_region 1 with (first
   |(refine Rb rfl 23 (.tmp 0) rfl kb rfl ?_
     intro w8 hb8 hvb8 hz;clear hz;have hB8:=hb8;have hgeb:w.heap.size≤w.heap.size:=Xaj _;clear hb8;try simp only [La]
     skip)
   |(refine Ma (o:=⟨some 2,_,_,_,_,_⟩) rfl 55 rfl (Na 15) Id ?_
     intro w9 hb9 hvr9;have hB9:=Ba hB8 hb9;have hger:w.heap.size≤w8.heap.size:=hB8.size;have hvb9:=hvb8.on hb9;have hnebr:=Vaj hvb8.lt;clear hB8 hvb8 hb9;try simp only [La]
     skip))
  generalize hqr:w8.heap.size=gr at *;clear hqr;have dq:=hvb9.get D1.out;have hT:=hvb9.there 31 1 (by rw [Uaj,Hkb.out];decide);have hE1:=Lib.hid (hvb9.set 31 (Fa v))
  go_upto_region 3 with (first
   |(refine Qb rfl 5 _ _ rfl (w.heap.size) 31 .u8 (v.toNat:Int) rfl rfl Qc hT ?_
     intro w10 hw10;have hB10:Below w.heap.size w w10:=by rw [hw10];exact hB9.setCell (p:=⟨w.heap.size,31,none⟩) (Xaj _) _
     have hvb10:Ia w10 (w.heap.size) (kc.map Fa) 23:=by rw [hw10,HC.out,List.map_set];exact hE1.out
     have hvr10:Ia w10 gr (Na 15) 55:=by rw [hw10];exact hvr9.other (Ne.symm hnebr) _
     clear hw10 hT hE1 dq ho hv hB9 hvb9 hvr9;skip))
  go_wp2_with (first
   |(refine Tc rfl 23 (.tmp 1) rfl w.heap.size 32 kc 5 rfl hvb10 Tryz.underlying23 za Hkc.out ?_
     try simp only [La]
     skip))
  refine (CS.out w10 (hS.below hB10)).mono ?_;rintro e w11 ⟨rfl,hb11⟩;have hB11:=Ba hB10 hb11;have hvb11:=hvb10.on hb11;have hvr11:=hvr10.on hb11;clear hB10 hvb10 hvr10 hb11;go_wp2_with (first
   |(refine Db rfl rfl 53 (.tmp 5) (.tmp 21) rfl rfl 5 (Na 5) (y.map Ga) rfl rfl Fb rfl Sa (by rw [Uaj,Hy.out]) (Oa _) ?_
     intro w12 hb12 hvy12;have hB12:=Ba hB11 hb12;have hgey:w.heap.size≤w11.heap.size:=hB11.size;have hvb12:=hvb11.on hb12;have hneby:=Vaj hvb11.lt;have hvr12:=hvr11.on hb12;have hnery:=Vaj hvr11.lt;clear hB11 hvb11 hvr11 hb12;try simp only [La]
     skip))
  generalize hqy:w11.heap.size=gy at *;clear hqy;go_wp2_with fail
  replace hvb12:=hvb12.drew;replace hvr12:=hvr12.drew;replace hvy12:=hvy12.drew;rename_i K hKK;have hltE:=block_lt_of_cell hE;have de13:w12.drew.cell? ⟨1,0,none⟩=some (Ib ae):=(hB12.cell hltE).trans hE;have hB13:=(show Below w.heap.size w w12.drew from hB12.drew);clear hB12;refine wp_region_any (by kernel_rfl) ?_;refine wpAny_of_held (S:=fun w'=>w'.cell? ⟨1,0,none⟩=some (Ib ae)) _ _ _ _ ?_;show wpAnyH _ _ _ _ _ _ _ _ w12.drew;simp only [List.size_toArray,List.length_cons,List.length_nil,Nat.reduceAdd,Array.replicate_succ,Array.replicate_zero,List.push_toArray,List.nil_append,List.cons_append];generalize w12.drew=w13 at *;refine wpAnyH_take (i:=1) (oi:=⟨some 26,_,_,_,_,_⟩) (v:=(Ib ae)) rfl (by kernel_rfl) (by kernel_rfl) (by kernel_rfl) (fun _ _ _ h=>h) (Or.inl ⟨by rfl,?_⟩) de13 ?_
  ·intro w8 h8;exact Yc _ _ _ _ rfl _ _ rfl _ (Gn h8)
  refine wpAnyH_all (rs:=[0]) (by kernel_rfl) (by decide) fun i hi=>?_;obtain rfl:=List.mem_singleton.1 hi;clear hi;refine wpOp_step rfl fun K1 hK1=>?_;rw [if_pos (by rfl)];refine Mc (Aa zt) (Vd _ _ _ [] rfl [] rfl _ w13 (BZ w13)) (hK1 _ _ ⟨de13,?_⟩);clear hK1 K1;refine wpAnyH_all (rs:=[2]) (by kernel_rfl) (by decide) fun i hi=>?_;obtain rfl:=List.mem_singleton.1 hi;clear hi;refine wpOp_step rfl fun K1 hK1=>?_;rw [if_pos (by rfl)];refine wp_store_mid 55 (.tmp 2) (.tmp 25) rfl gr 0 (zt.map Ga).toArray rfl rfl (by rw [List.size_toArray,Uaj,Hzt.out];exact hvr12.there 0 15 (by rw [show ((Na 15)).length=15 from rfl];decide)) (by rw [List.size_toArray,Uaj,Hzt.out];exact Pb) (Oa _) (hK1 _ _ ?_);have hC2:=hvr12.setCells (cs:=zt.map Ga) (o:=0) (by rw [Uaj,Hzt.out,show ((Na 15)).length=15 from rfl];decide);rw [Xb _ _ (by rw [Uaj,Hzt.out,show ((Na 15)).length=15 from rfl])] at hC2;have hb14:But gr w13 (w13.setCells gr 0 (zt.map Ga)):=(But.refl _ _).setCells _ _;have hB14:Below w.heap.size w (w13.setCells gr 0 (zt.map Ga)):=hB13.trans (hb14.below hger hB13.size);have de14:(w13.setCells gr 0 (zt.map Ga)).cell? ⟨1,0,none⟩=some (Ib ae):=(World.cell?_of_block (hb14.block _ (block_lt_of_cell de13) (Vaj (Waj hltE hger)))).trans de13;change (w13.setCells gr 0 (zt.map Ga)).cell? ⟨1,0,none⟩=some (Ib ae)∧wpAnyH _ _ _ _ _ _ _ _ (w13.setCells gr 0 (zt.map Ga));have hvb14:=hvb12.but hb14 hnebr;have hvy14:=hvy12.but hb14 (Ne.symm hnery);have hvr14:=hC2;clear hC2 hb14 hK1 K1 hB13 hvr12 de13 hvb12 hvy12;generalize w13.setCells gr 0 (zt.map Ga)=w14 at *;refine ⟨de14,?_⟩;refine wpAnyH_all (rs:=[3]) (by kernel_rfl) (by decide) fun i hi=>?_;obtain rfl:=List.mem_singleton.1 hi;clear hi;refine wpOp_step rfl fun K1 hK1=>?_;rw [if_pos (by rfl)];refine Mc ((Ib ae)) (Lb _ _ _ (.inr rfl) ((Ib ae)) (by rfl) w14) (hK1 _ _ ⟨de14,?_⟩);clear hK1 K1;refine wpAnyH_done (by kernel_rfl) ?_ _;show Exit.then K _ Exit.normal (⟨((Ca kb)::(.pointer (some ⟨w.heap.size,0,none⟩))::(.pointer (some ⟨gr,0,none⟩))::((Ib ae))::(.bool true)::(.pointer (some ⟨gy,0,none⟩))::(Ib ae)::undef::undef::undef::(.pointer (some ⟨w.heap.size,31,none⟩))::(Fa q)::(.int .u8 128)::(.bool true)::(.pointer (some ⟨w.heap.size,31,none⟩))::(Fa q)::(.int .u8 (v.toNat:Int))::(.pointer (some ⟨w.heap.size,31,none⟩))::(.tuple #[Aa y,Ib ae])::(Ca kc)::(.tuple #[Aa y,Ib ae])::(Aa y)::(Ib ae)::(Ib ae)::(.bool true)::(Aa zt)::((Ib ae))::undef::undef::undef::undef::undef::undef::undef::undef::undef::undef::undef::undef::undef::undef::undef::undef::undef::undef::undef::undef::undef::undef::undef::[]).toArray,[]⟩:Act) w14;simp only [Exit.then];refine hKK _ _ ?_;clear hKK K
  go_wp2
  exact Xf Tryz.results26 gr (zt.map Ga) _ rfl rfl hvr14 Tryz.underlying55 rfl Pb (by rw [Uaj,Hzt.out]) rfl ⟨rfl,hB14⟩
end Go.Proofs.YtoggkhjaghkpnaaGreatDoor
namespace Go.Proofs.YtoggkhjaghkpnaaGreatDoor
open Go.RowKit
end Go.Proofs.YtoggkhjaghkpnaaGreatDoor
namespace Go.Proofs.YtoggkhjaghkpnaaGreatDoor
open Go.ChangeShapes Go.WideShapes Go.ChangeAt Go.RowKit
theorem own:ownKnob Tryz.prog.godebug=none:=by kernel_rfl
theorem QV:laidOutB Tryz.prog=true:=by kernel_rfl
theorem Cs {H:Type} {enc:TypeId×Value→H} {P:Program} (hl:laidOutB P=true) {W W':World} (hb:Below W.heap.size W W'):
 ∀(ts:List TypeId) (vs:List Value) (ds:List (DataW H)) (ps:List MemPlace),(ts.all fun t=>P.readableRec t&&decide (t<P.types.size))=true→(∀x∈ps,x.block<W.heap.size)→
  DataW.TrodAll enc P W 0 (fun _=>true) true ts vs ds ps→DataW.TrodAll enc P W' 0 (fun b=>decide (b<W.heap.size)) true ts vs ds ps
 | [],[],[],ps,_,_,h=>h
 |t::ts,v::vs,d::ds,ps,hr,hlt,⟨p,q,h1,h2,h3⟩=>by
  subst h3;rw [List.all_cons,Bool.and_eq_true,Bool.and_eq_true] at hr;exact ⟨p,q,Below.trod hl hr.1.1 (of_decide_eq_true hr.1.2) h1 hb (fun x hx=>hlt x (List.mem_append_left _ hx)),
   Cs hl hb ts vs ds q hr.2 (fun x hx=>hlt x (List.mem_append_right _ hx)) h2,rfl⟩
theorem XO {H:Type} {enc:TypeId×Value→H} {P:Program} {f:Func} {s:ChangeSpec} {tb:TypeId} {W W':World} {args:Array Value} {ds gs:List (DataW H)} {before:List MemPlace}
 (hl:laidOutB P=true) (hbool:P.underlying tb=some .bool) (hres:f.resultTypes=#[tb]) (hts:(f.params.toList.all fun t=>P.readableRec t&&decide (t<P.types.size))=true) (hvars:s.vars= [])
 (hfn:(s.fn H ds).results= [.lit (.bool true)]∧(s.fn H ds).args=ds∧(s.fn H ds).vars= [])
 (hW:DataW.Whole enc P f.params.toList s.vars false W args.toList ds gs before) (hb:Below W.heap.size W W'):
 s.post enc P f false true false false W args (.bool true) W':=by
 have hlt:∀p∈before,p.block<W.heap.size:=fun p hp=>hW.lt p hp;have hW':=hW;obtain ⟨p,q,hA,hV,rfl,hfz,hnd⟩:=hW;rw [hvars] at hV;obtain ⟨rfl,rfl⟩:=trodVars_none hV;have e:ds++[]=ds:=List.append_nil _;refine ⟨ds,[],_,[],p,[],hW',?_,?_,?_,hb.frame _ |> World.keptBut_mono (fun x hx=>⟨hx,.inr (.inl (by simpa using hx))⟩),fun h=>by cases h⟩
 ·rw [e,hfn.1,hres];exact trodAll_mk1 (shut_bool hbool _)
 ·rw [e,hfn.2.1];exact Cs hl hb _ _ _ _ hts (fun x hx=>hlt x (by simpa using hx)) hA
 ·rw [e,hfn.2.2,hvars];rfl
theorem Sy {H:Type} {enc:TypeId×Value→H} {P:Program} {W:World} {r:Reach} {b0 base:Nat} {spare:Nat→Bool} {held:Bool} {t e:TypeId} {n:Nat} {k:IntKind} {v:Value} {d:DataW H} {p:List MemPlace}
 (ht:P.underlying t=some (.array n e)) (he:P.underlying e=some (.int k)) (hc:P.cellsOf e=1) (hC:P.cellsOf t=n)
 (hv:Value.okWide P W r b0 t v) (h:DataW.Trod enc P W base spare held t v d p):
 ∃zs:List Int,v=.agg (zs.map (Value.int k)).toArray∧zs.length=n∧∀z∈zs,(Lit.int k z).wf=true:=by
 simp only [Value.okWide,ht] at hv;obtain ⟨⟨cs⟩,rfl,hsz,_⟩:=hv;obtain ⟨fuel,hf⟩:=h;obtain ⟨xs,m,rfl,hx,hl,hn,hel⟩:=DataW.trod_array ht hf;simp only [Value.cells] at hl hel;rw [hC] at hl;have hi:∀i,i<n→∃z,cs[i]? =some (.int k z)∧(Lit.int k z).wf=true:=by
  intro i hi;have h1:=hel i hi;rw [hc,Nat.mul_one,xaj (by omega)] at h1;obtain ⟨z,e1,_,e3⟩:=DataW.trod_int he h1;refine ⟨z,?_,e3⟩;have e4:((cs.drop i).take 1)[0]? =some (.int k z):=by rw [e1];rfl
  simpa using e4
 refine ⟨cs.map fun c=>intOf c,?_,by simpa using hl,?_⟩
 ·congr 1
  simp only [List.map_map];congr 1
  refine List.ext_getElem? fun i=>?_;rw [List.getElem?_map];by_cases h:i<n
  ·obtain ⟨z,hz,_⟩:=hi i h;rw [hz];rfl
  ·rw [List.getElem?_eq_none (by omega)];rfl
 ·intro z hz;obtain ⟨c,hc1,rfl⟩:=List.mem_map.1 hz;obtain ⟨i,hi1,hi2⟩:=List.getElem_of_mem hc1;obtain ⟨z,hz1,hz2⟩:=hi i (by omega);rw [xaj hi1,hi2] at hz1;cases hz1
  exact hz2
theorem Qq:Tryz.prog.cellsOf 5=1:=by kernel_rfl
theorem Ft {H:Type} {enc:TypeId×Value→H} {W:World} {r:Reach} {b0:Nat} {v:Value} {d:DataW H} {p:List MemPlace} (hv:Value.okWide Tryz.prog W r b0 24 v) (h:DataW.Trod enc Tryz.prog W 0 (fun _=>true) true 24 v d p):
 ∃A c bs,v=.slice A bs.length c∧(A=none→c=0)∧Row W W.heap.size A bs∧bs.length≤c∧c≤maxLen:=by
 obtain ⟨a0,len,cap,rfl⟩:=okWide_slice Tryz.underlying24 hv;obtain ⟨fuel,hf⟩:=h;rcases open_ints Tryz.underlying24 Tryz.underlying5 Qq hf with ⟨hcs,_⟩|⟨x,l,c,zs,hcs,_,hl,hm,hz,_,hcell,hwz⟩
 ·simp [Value.cells] at hcs;obtain ⟨rfl,rfl,rfl⟩:=hcs;exact ⟨none,0,[],rfl,fun _=>rfl,.inl rfl,Xaj _,Nat.zero_le _⟩
 ·simp [Value.cells] at hcs;obtain ⟨rfl,rfl,rfl⟩:=hcs;simp only [if_true] at hz;refine ⟨some x,cap,(zs.take len).map fun z=>UInt8.ofNat z.toNat,?_,(fun h=>by cases h),?_,?_,hm⟩
  ·simp;omega
  ·by_cases h0:len=0
   ·subst h0;exact .inl (by simp)
   ·obtain ⟨b,off,rfl,hc⟩:=ints_at hcell (by omega);have hlt:=block_lt_of_cell (hc 0 (by omega));refine .inr ⟨b,off,rfl,hlt,fun j u hu=>?_⟩;rw [List.getElem?_map] at hu;have hj:j<len:=by
     rcases Nat.lt_or_ge j len with h|h
     ·exact h
     ·rw [List.getElem?_eq_none (by rw [zaj];omega)] at hu;cases hu
    have hjz:j<zs.length:=by omega
    rw [List.getElem?_take_of_lt hj,xaj hjz] at hu;simp only [Option.map_some,Option.some.injEq] at hu;have hb:=bounds_u8 (hwz zs[j] (List.getElem_mem _));rw [hc j hjz,←hu];simp only [Fa,UInt8.toNat_ofNat'];simp [List.getD,hjz];omega
  ·simp;omega
def Rg:List (String×List UInt8):=[("fellowship/api.ErrRange",[102,101,108,108,111,119,115,104,105,112,58,32,114,97,110,103,101]),("fellowship/api.ErrShort",[102,101,108,108,111,119,115,104,105,112,58,32,115,104,111,114,116]),("fellowship/api.ErrLong",[102,101,108,108,111,119,115,104,105,112,58,32,108,111,110,103]),("fellowship/api.ErrForm",[102,101,108,108,111,119,115,104,105,112,58,32,102,111,114,109]),("fellowship/api.ErrKey",[102,101,108,108,111,119,115,104,105,112,58,32,107,101,121]),("fellowship/api.ErrSign",[102,101,108,108,111,119,115,104,105,112,58,32,115,105,103,110]),("fellowship/api.ErrSeal",[102,101,108,108,111,119,115,104,105,112,58,32,115,101,97,108]),("fellowship/api.ErrEpoch",[102,101,108,108,111,119,115,104,105,112,58,32,101,112,111,99,104]),("fellowship/api.ErrGroup",[102,101,108,108,111,119,115,104,105,112,58,32,103,114,111,117,112]),("fellowship/api.ErrSender",[102,101,108,108,111,119,115,104,105,112,58,32,115,101,110,100,101,114]),("fellowship/api.ErrLeaf",[102,101,108,108,111,119,115,104,105,112,58,32,108,101,97,102]),("fellowship/api.ErrOffer",[102,101,108,108,111,119,115,104,105,112,58,32,111,102,102,101,114]),("fellowship/api.ErrPath",[102,101,108,108,111,119,115,104,105,112,58,32,112,97,116,104]),("fellowship/api.ErrTag",[102,101,108,108,111,119,115,104,105,112,58,32,116,97,103]),("fellowship/api.ErrNone",[102,101,108,108,111,119,115,104,105,112,58,32,110,111,110,101]),("fellowship/api.ErrRemoved",[102,101,108,108,111,119,115,104,105,112,58,32,114,101,109,111,118,101,100]),("fellowship/api.ErrFull",[102,101,108,108,111,119,115,104,105,112,58,32,102,117,108,108]),("fellowship/api.ErrState",[102,101,108,108,111,119,115,104,105,112,58,32,115,116,97,116,101]),("fellowship/api.ErrTwice",[102,101,108,108,111,119,115,104,105,112,58,32,116,119,105,99,101])]
theorem Hl {W:World}:∀(l1 l2:List (String×DataW Unit)) (ps:List MemPlace),DataW.LaidVars Tryz.prog W (l1++l2) ps→∃p1 p2,ps=p1++p2∧DataW.LaidVars Tryz.prog W l1 p1∧DataW.LaidVars Tryz.prog W l2 p2
 | [],l2,ps,h=>⟨[],ps,rfl,rfl,h⟩
 |x::l1,l2,ps,h=>by
  obtain ⟨g,t,cs,f,p,q,h1,h2,h3,h4,h5,rfl⟩:=h;obtain ⟨p1,p2,rfl,h6,h7⟩:=Hl l1 l2 q h5;exact ⟨_,p2,by simp only [List.append_assoc],⟨g,t,cs,f,p,p1,h1,h2,h3,h4,h6,rfl⟩,h7⟩
theorem Ds (zs:List Int) (hw:∀z∈zs,(Lit.int .u8 z).wf=true):∃bs:List UInt8,zs.map (Value.int .u8)=bs.map Fa∧bs.length=zs.length:=by
 refine ⟨zs.map fun z=>UInt8.ofNat z.toNat,?_,by simp⟩;rw [List.map_map];refine List.map_congr_left fun z hm=>?_;have hb:=bounds_u8 (hw z hm);show Value.int .u8 z=Fa (UInt8.ofNat z.toNat);unfold Fa;rw [UInt8.toNat_ofNat'];congr 1
 omega
theorem open_key {H:Type} {enc:TypeId×Value→H} {W:World} {r:Reach} {b0:Nat} {v:Value} {d:DataW H} {p:List MemPlace} (hv:Value.okWide Tryz.prog W r b0 23 v) (h:DataW.Trod enc Tryz.prog W 0 (fun _=>true) true 23 v d p):∃s:List UInt8,v=Ca s∧s.length=32:=by
 obtain ⟨zs,rfl,hz,hw⟩:=Sy Tryz.underlying23 Tryz.underlying5 Qq (by kernel_rfl) hv h;obtain ⟨bs,h1,h2⟩:=Ds zs hw;exact ⟨bs,by unfold Ca;rw [h1],by omega⟩
end Go.Proofs.YtoggkhjaghkpnaaGreatDoor
