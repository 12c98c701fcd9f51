/- Part 16 of what the laws of this seat share: UEven, UMath, BPoint. -/
import Derived.Deep.Cut
import Derived.Deep.MidRow
import Derived.Test.YtoggkhjaghkpnaaGreatDoorPart15
set_option maxRecDepth 100000
set_option maxHeartbeats 8000000
namespace Go.Proofs.YtoggkhjaghkpnaaGreatDoor
open Go.RowKit
def KN (y:List Nat) (g_base:Nat) (gr:Nat) (o:List Nat) (yy:List Nat):List Value:=
 (Aa y)::ptr g_base::ptr gr::(.bool false)::ud 3 ((Aa o)::(Aa y)::(Aa yy)::ud 14 [])
def Pw (y:List Nat) (g_base:Nat) (gr:Nat) (o:List Nat) (yy:List Nat) (n4 n5:Nat):List Value:=
 (Aa y)::ptr g_base::ptr gr::(.bool false)::ptr n4::ptr n5::undef::(Aa o)::(Aa y)::(Aa yy)::ud 14 []
def PC (y:List Nat) (g_base:Nat) (gr:Nat) (go:Nat) (gs:Nat) (o:List Nat) (yy:List Nat) (cv:List Nat) (dy:List Nat) (d1:List Nat) (iv:List Nat):List Value:=
 (Aa y)::ptr g_base::ptr gr::(.bool false)::ptr go::ptr gs::undef::(Aa o)::(Aa y)::(Aa yy)::(Aa cv)::(Aa yy)::(Aa dy)::(Aa o)::(Aa d1)::(Aa iv)::ud 8 []
def Xp (y:List Nat) (g_base:Nat) (gr:Nat) (go:Nat) (gs:Nat) (o:List Nat) (yy:List Nat) (cv:List Nat) (dy:List Nat) (d1:List Nat) (iv:List Nat) (n6:Nat):List Value:=
 (Aa y)::ptr g_base::ptr gr::(.bool false)::ptr go::ptr gs::ptr n6::(Aa o)::(Aa y)::(Aa yy)::(Aa cv)::(Aa yy)::(Aa dy)::(Aa o)::(Aa d1)::(Aa iv)::ud 8 []
def Ys (y:List Nat) (g_base:Nat) (gr:Nat) (go:Nat) (gs:Nat) (gv:Nat) (o:List Nat) (yy:List Nat) (cv:List Nat) (dy:List Nat) (d1:List Nat) (iv:List Nat) (s1:List Nat) (pr:List Nat) (x:List Nat) (c:Bool):List Value:=
 (Aa y)::ptr g_base::ptr gr::(.bool false)::ptr go::ptr gs::ptr gv::(Aa o)::(Aa y)::(Aa yy)::(Aa cv)::(Aa yy)::(Aa dy)::(Aa o)::(Aa d1)::(Aa iv)::(Aa yy)::(Aa o)::(Aa s1)::(Aa iv)::(Aa pr)::(.tuple #[Aa x,.bool c])::(Aa x)::(.bool c)::[]
theorem MS (y o yy cv dy d1 iv s1 pr x:List Nat) (c:Bool) (E:Value) (w:World)
 (Hy:Hid (y.length=5))
 (Ho:Hid (o.length=5))
 (Hyy:Hid (yy.length=5))
 (Hiv:Hid (iv.length=5))
 (Hx:Hid (x.length=5))
 (C1:Hid (∀W,Calls Tryz.prog 98 #[.int .i64 1] W (gvn (Aa o) W)))
 (C2:Hid (∀W,Calls Tryz.prog 99 #[Aa y] W (gvn (Aa yy) W)))
 (C3:Hid (∀W,Md E W→Calls Tryz.prog 100 #[] W (gvn (Aa cv) W)))
 (C4:Hid (∀W,Calls Tryz.prog 63 #[Aa cv,Aa yy] W (gvn (Aa dy) W)))
 (C5:Hid (∀W,Calls Tryz.prog 101 #[Aa dy,Aa o] W (gvn (Aa d1) W)))
 (C6:Hid (∀W,Calls Tryz.prog 62 #[Aa d1] W (gvn (Aa iv) W)))
 (C7:Hid (∀W,Calls Tryz.prog 59 #[Aa yy,Aa o] W (gvn (Aa s1) W)))
 (C8:Hid (∀W,Calls Tryz.prog 63 #[Aa s1,Aa iv] W (gvn (Aa pr) W)))
 (C9:Hid (∀W,Md E W→Calls Tryz.prog 102 #[Aa pr] W (gvn (.tuple #[Aa x,.bool c]) W)))
 (hS:Md E w):
 Calls Tryz.prog 56 #[Aa y] w (gvn (.tuple #[Aa x,.bool c]) w):=by
 go_enter Tryz.func56,Tryz.ntmps56;go_wp2_with (first
  |(refine Ra rfl 53 (.tmp 0) rfl (y.map Ga) rfl ?_
    intro w1 hb1 hvy1;have hB1:=hb1;have hgey:w.heap.size≤w.heap.size:=Xaj _;clear hb1;try simp only [La]
    skip)
  |(refine Ma (o:=⟨some 2,_,_,_,_,_⟩) rfl 53 rfl (Na 5) Fb ?_
    intro w2 hb2 hvr2;have hB2:=Ba hB1 hb2;have hger:w.heap.size≤w1.heap.size:=hB1.size;have hvy2:=hvy1.on hb2;have hneyr:=Vaj hvy1.lt;clear hB1 hvy1 hb2;try simp only [La]
    skip))
 generalize hqr:w1.heap.size=gr at *;clear hqr;replace hvy2:=hvy2.drew;replace hvr2:=hvr2.drew;refine wp_region_any (by kernel_rfl) ?_;refine Qf (L:=[0,1,2,3,4,5,6]) (by kernel_rfl) _ _ (KN y w.heap.size gr o yy) [(3,4),(4,5)] (fun _=>53) (fun _=>(Na 5)) (fun s=>bif s==4 then some (5,o.map Ga) else bif s==5 then some (6,yy.map Ga) else none) [0,1,2,3,6,10,11,12,13,14,15,16,17,18,19,20,21,22,23] (by kernel_rfl) (by kernel_rfl) ?_ (fun _ _=>Fb) ?_ ?_ ?_ (by rfl) ?_ 0 (by kernel_rfl) ?_
 ·intro p hp;rcases List.mem_cons.1 hp with rfl|hp
  ·exact ⟨⟨_,rfl,rfl,rfl,rfl,by kernel_rfl,by kernel_rfl⟩⟩
  rcases List.mem_cons.1 hp with rfl|hp
  ·exact ⟨⟨_,rfl,rfl,rfl,rfl,by kernel_rfl,by kernel_rfl⟩⟩
  exact absurd hp List.not_mem_nil
 ·intro p hp j l h;rcases List.mem_cons.1 hp with rfl|hp
  ·change some (5,o.map Ga)=some (j,l) at h;cases h
   exact ⟨⟨_,7,rfl,rfl,rfl,rfl,by kernel_rfl,by kernel_rfl,by kernel_rfl,rfl,by rw [Uaj,Ho.out];exact Sa,by rw [Uaj,Ho.out];rfl,Oa _⟩,by decide⟩
  rcases List.mem_cons.1 hp with rfl|hp
  ·change some (6,yy.map Ga)=some (j,l) at h;cases h
   exact ⟨⟨_,9,rfl,rfl,rfl,rfl,by kernel_rfl,by kernel_rfl,by kernel_rfl,rfl,by rw [Uaj,Hyy.out];exact Sa,by rw [Uaj,Hyy.out];rfl,Oa _⟩,by decide⟩
  exact absurd hp List.not_mem_nil
 ·intro p hp q hq j l l2 h1 h2;rcases List.mem_cons.1 hp with rfl|hp
  ·rcases List.mem_cons.1 hq with rfl|hq
   ·rfl
   rcases List.mem_cons.1 hq with rfl|hq
   ·change some (5,_)=some (j,l) at h1;change some (6,_)=some (j,l2) at h2;exact absurd ((Prod.mk.inj (Option.some.inj h1)).1.trans (Prod.mk.inj (Option.some.inj h2)).1.symm) (by decide)
   exact absurd hq List.not_mem_nil
  rcases List.mem_cons.1 hp with rfl|hp
  ·rcases List.mem_cons.1 hq with rfl|hq
   ·change some (6,_)=some (j,l) at h1;change some (5,_)=some (j,l2) at h2;exact absurd ((Prod.mk.inj (Option.some.inj h1)).1.trans (Prod.mk.inj (Option.some.inj h2)).1.symm) (by decide)
   rcases List.mem_cons.1 hq with rfl|hq
   ·rfl
   exact absurd hq List.not_mem_nil
  exact absurd hp List.not_mem_nil
 ·repeat refine Aak rfl ?_
  exact Qa
 ·refine Aak (.inr (.inl (mC 7 rfl Tryz.func98 fun w hb=>C1.out w))) ?_;refine Aak (.inr (.inl (mL 8 rfl fun w hb=>Gb (hvy2.on hb) Hy.out))) ?_;refine Aak (.inr (.inl (mC 9 rfl Tryz.func99 fun w hb=>C2.out w))) ?_;refine Aak (.inl ⟨(3,4),by simp,rfl⟩) ?_;refine Aak (.inl ⟨(4,5),by simp,rfl⟩) ?_;refine Aak (.inr (.inr ⟨(3,4),by simp,_,rfl⟩)) ?_;refine Aak (.inr (.inr ⟨(4,5),by simp,_,rfl⟩)) ?_;exact Qa
 intro w3 g hb3 hN3 hap3;obtain ⟨hgeo,hvo3⟩:=hN3 (3,4) (by simp);obtain ⟨hges,hvs3⟩:=hN3 (4,5) (by simp);have hneos:=hap3 (3,4) (by simp) (4,5) (by simp) (by decide);clear hN3 hap3;have hB3:=Ba (show Below w.heap.size w w2.drew from hB2.drew) hb3;have hlty:w.heap.size<w2.heap.size:=hvy2.lt;have hltr:gr<w2.heap.size:=hvr2.lt;have hvy3:=hvy2.on hb3;have hvr3:=hvr2.on hb3;rw [show Oc g [(3,4),(4,5)] (KN y w.heap.size gr o yy)=Pw y w.heap.size gr o yy (g 4) (g 5) from rfl];replace hgeo:w2.heap.size≤g 4:=hgeo;replace hvo3:Ia w3 (g 4) (o.map Ga) 53:=hvo3;replace hges:w2.heap.size≤g 5:=hges;replace hvs3:Ia w3 (g 5) (yy.map Ga) 53:=hvs3;replace hneos:g 4≠g 5:=hneos;have hneyo:w.heap.size≠g 4:=Vaj (Waj hlty hgeo);have hnero:gr≠g 4:=Vaj (Waj hltr hgeo);replace hgeo:w.heap.size≤g 4:=Nat.le_trans (show w.heap.size≤w2.heap.size from hB2.size) hgeo;have hneys:w.heap.size≠g 5:=Vaj (Waj hlty hges);have hners:gr≠g 5:=Vaj (Waj hltr hges);replace hges:w.heap.size≤g 5:=Nat.le_trans (show w.heap.size≤w2.heap.size from hB2.size) hges;clear hlty hltr;generalize g 4=go at *;generalize g 5=gs at *;clear hB2 hvy2 hvr2 hb3;refine ⟨by kernel_rfl,?_⟩;rename_i K hKK;show Exit.then K _ Exit.normal (⟨(Pw y w.heap.size gr o yy go gs).toArray,[]⟩:Act) w3;simp only [Exit.then];refine hKK _ _ ?_;clear hKK K g;simp only [Pw,ptr,ud];go_wp2_with fail
 replace hvy3:=hvy3.drew;replace hvr3:=hvr3.drew;replace hvo3:=hvo3.drew;replace hvs3:=hvs3.drew;have hBq:=(show Below w.heap.size w w3.drew from hB3.drew);refine wp_region_any (by kernel_rfl) ?_;refine Ya (L:=[0,1,2,3,4,5,6]) (by kernel_rfl) _ _ (PC y w.heap.size gr go gs o yy cv dy d1 iv) [(6,6)] 53 (Na 5) [0,1,2,3,4,5,7,8,9,16,17,18,19,20,21,22,23] (by kernel_rfl) (by kernel_rfl) ?_ Fb ?_ (by rfl) ?_ 1 (by kernel_rfl) ?_
 ·intro p hp;rcases List.mem_cons.1 hp with rfl|hp
  ·exact ⟨⟨_,rfl,rfl,rfl,rfl,by kernel_rfl,by kernel_rfl⟩⟩
  exact absurd hp List.not_mem_nil
 ·repeat refine Aak rfl ?_
  exact Qa
 ·refine Aak (.inr (mC 10 rfl Tryz.func100 fun w hb=>C3.out w (hS.below (Ba hBq hb)))) ?_;refine Aak (.inr (mL 11 rfl fun w hb=>Gb (hvs3.on hb) Hyy.out)) ?_;refine Aak (.inr (mC 12 rfl Tryz.func63 fun w hb=>C4.out w)) ?_;refine Aak (.inr (mL 13 rfl fun w hb=>Gb (hvo3.on hb) Ho.out)) ?_;refine Aak (.inr (mC 14 rfl Tryz.func101 fun w hb=>C5.out w)) ?_;refine Aak (.inr (mC 15 rfl Tryz.func62 fun w hb=>C6.out w)) ?_;refine Aak (.inl ⟨(6,6),by simp,rfl⟩) ?_;exact Qa
 intro w4 g hb4 hN4 hap4;obtain ⟨hgev,hvv4⟩:=hN4 (6,6) (by simp);clear hN4 hap4;have hB4:=Ba (show Below w.heap.size w w3.drew from hB3.drew) hb4;have hlty:w.heap.size<w3.heap.size:=hvy3.lt;have hltr:gr<w3.heap.size:=hvr3.lt;have hlto:go<w3.heap.size:=hvo3.lt;have hlts:gs<w3.heap.size:=hvs3.lt;have hvy4:=hvy3.on hb4;have hvr4:=hvr3.on hb4;have hvo4:=hvo3.on hb4;have hvs4:=hvs3.on hb4;rw [show Oc g [(6,6)] (PC y w.heap.size gr go gs o yy cv dy d1 iv)=Xp y w.heap.size gr go gs o yy cv dy d1 iv (g 6) from rfl];replace hgev:w3.heap.size≤g 6:=hgev;replace hvv4:Ia w4 (g 6) (Na 5) 53:=hvv4;have hneyv:w.heap.size≠g 6:=Vaj (Waj hlty hgev);have hnerv:gr≠g 6:=Vaj (Waj hltr hgev);have hneov:go≠g 6:=Vaj (Waj hlto hgev);have hnesv:gs≠g 6:=Vaj (Waj hlts hgev);replace hgev:w.heap.size≤g 6:=Nat.le_trans (show w.heap.size≤w3.heap.size from hB3.size) hgev;clear hlty hltr hlto hlts;generalize g 6=gv at *;clear hB3 hvy3 hvr3 hvo3 hvs3 hb4 hBq;refine Bb 7 rfl (by kernel_rfl) ?_;refine Ka rfl 53 (.tmp 6) (.tmp 15) rfl gv 5 (Na 5) (iv.map Ga) rfl rfl hvv4 rfl Sa (by rw [Uaj,Hiv.out]) (Oa _) ?_;intro w5 hb5 hvv5 hz5;have hB5:Below w.heap.size w w5:=hB4.trans (hb5.below hgev hB4.size);have hvy5:=hvy4.but hb5 hneyv;have hvr5:=hvr4.but hb5 hnerv;have hvo5:=hvo4.but hb5 hneov;have hvs5:=hvs4.but hb5 hnesv;clear hB4 hvv4 hb5 hz5 hvy4 hvr4 hvo4 hvs4;rename_i K hKK;show Exit.then K _ Exit.normal (⟨(Xp y w.heap.size gr go gs o yy cv dy d1 iv gv).toArray,[]⟩:Act) w5;simp only [Exit.then];refine hKK _ _ ?_;clear hKK K g;simp only [Xp,ptr,ud];go_wp2_with fail
 replace hvy5:=hvy5.drew;replace hvr5:=hvr5.drew;replace hvo5:=hvo5.drew;replace hvs5:=hvs5.drew;replace hvv5:=hvv5.drew;have hBq:=(show Below w.heap.size w w5.drew from hB5.drew);refine wp_region_any (by kernel_rfl) ?_;refine Ya (L:=[0,1,2,3,4,5,6,7]) (by kernel_rfl) _ _ (Ys y w.heap.size gr go gs gv o yy cv dy d1 iv s1 pr x c) [] 53 (Na 5) [0,1,2,3,4,5,6,7,8,9,10,11,12,13,14,15] (by kernel_rfl) (by kernel_rfl) ?_ Fb ?_ (by rfl) ?_ 2 (by kernel_rfl) ?_
 ·intro p hp;exact absurd hp List.not_mem_nil
 ·repeat refine Aak rfl ?_
  exact Qa
 ·refine Aak (.inr (mL 16 rfl fun w hb=>Gb (hvs5.on hb) Hyy.out)) ?_;refine Aak (.inr (mL 17 rfl fun w hb=>Gb (hvo5.on hb) Ho.out)) ?_;refine Aak (.inr (mC 18 rfl Tryz.func59 fun w hb=>C7.out w)) ?_;refine Aak (.inr (mL 19 rfl fun w hb=>Gb (hvv5.on hb) Hiv.out)) ?_;refine Aak (.inr (mC 20 rfl Tryz.func63 fun w hb=>C8.out w)) ?_;refine Aak (.inr (mC 21 rfl Tryz.func102 fun w hb=>C9.out w (hS.below (Ba hBq hb)))) ?_;refine Aak (.inr (mE 22 rfl rfl rfl)) ?_;refine Aak (.inr (mE 23 rfl rfl rfl)) ?_;exact Qa
 intro w6 g hb6 hN6 hap6;clear hN6 hap6;have hB6:=Ba (show Below w.heap.size w w5.drew from hB5.drew) hb6;have hvy6:=hvy5.on hb6;have hvr6:=hvr5.on hb6;have hvo6:=hvo5.on hb6;have hvs6:=hvs5.on hb6;have hvv6:=hvv5.on hb6;clear hB5 hvy5 hvr5 hvo5 hvs5 hvv5 hb6 hBq;refine Bb 8 rfl (by kernel_rfl) ?_;refine Ka rfl 53 (.tmp 2) (.tmp 22) rfl gr 5 (Na 5) (x.map Ga) rfl rfl hvr6 rfl Sa (by rw [Uaj,Hx.out]) (Oa _) ?_;intro w7 hb7 hvr7 hz7;have hB7:Below w.heap.size w w7:=hB6.trans (hb7.below hger hB6.size);have hvy7:=hvy6.but hb7 hneyr;have hvo7:=hvo6.but hb7 (Ne.symm hnero);have hvs7:=hvs6.but hb7 (Ne.symm hners);have hvv7:=hvv6.but hb7 (Ne.symm hnerv);clear hB6 hvr6 hb7 hz7 hvy6 hvo6 hvs6 hvv6;refine Yj rfl (.inr rfl) (.bool c) (by rfl) ?_;rename_i K hKK;show Exit.then K _ Exit.normal (⟨((Ys y w.heap.size gr go gs gv o yy cv dy d1 iv s1 pr x c).set 3 (.bool c)).toArray,[]⟩:Act) w7;simp only [Exit.then];refine hKK _ _ ?_;clear hKK K g;simp only [Ys,ptr,List.set_cons_zero,List.set_cons_succ]
 go_wp2
 exact Xf Tryz.results56 gr (x.map Ga) _ rfl rfl hvr7 Tryz.underlying53 rfl Sa (by rw [Uaj,Hx.out]) rfl ⟨rfl,hB7⟩
def X4 (a b c d:Nat):Tri:=(fM a d,fM c b,fM b d)
theorem DV (a b c d:Nat):qd (X4 a b c d):=⟨Lc _ _,Lc _ _,Lc _ _⟩
def IE (p q:Tri):Nat:=fM p.1 q.1
def NS (p q:Tri):Nat:=fM p.2.1 q.2.1
def yu (p q:Tri):Nat:=fM p.2.2 q.2.2
def Yp (p q:Tri):Nat:=fA (fM p.1 q.2.1) (fM p.2.1 q.1)
def Zp (p q:Tri):Nat:=fA (NS p q) (IE p q)
def Mk (p q:Tri):Nat:=fM (yu p q) (yu p q)
def Nk (p q:Tri):Nat:=fM (fM Ag (IE p q)) (NS p q)
def KJ (p q:Tri):Tri:=X4 (fM (Yp p q) (yu p q)) (fA (Mk p q) (Nk p q)) (fM (Zp p q) (yu p q)) (fS (Mk p q) (Nk p q))
theorem LJ (p q:Tri):qd (KJ p q):=DV _ _ _ _
def LN (p:Tri):Nat:=fM p.1 p.1
def MN (p:Tri):Nat:=fM p.2.1 p.2.1
def Qw (p:Tri):Nat:=fM p.2.2 p.2.2
def MJ (p:Tri):Nat:=fM p.1 p.2.1
def xp (p:Tri):Nat:=fS (MN p) (LN p)
def twT (p:Tri):Tri:=X4 (fA (MJ p) (MJ p)) (xp p) (fA (MN p) (LN p)) (fS (fA (Qw p) (Qw p)) (xp p))
theorem OS (p:Tri):qd (twT p):=DV _ _ _ _
def NN (p:Tri):Tri:=twT (twT (twT (twT p)))
theorem EV (p:Tri):qd (NN p):=OS _
def Zj (p:Tri):Nat→Tri
 |0=>(0,1,1)
 |i+1=>KJ (Zj p i) p
theorem FV:qd (0,1,1):=⟨by show 0<pp;decide,by show 1<pp;decide,by show 1<pp;decide⟩
theorem QC (p:Tri):∀i,qd (Zj p i)
 |0=>FV
 |_+1=>LJ _ _
def dig (k:List UInt8) (i:Nat):Nat:=(k.getD (i/2) 0).toNat/16^(i%2)%16
theorem Y4 (k:List UInt8) (i:Nat):dig k i<16:=Nat.mod_lt _ (by decide)
theorem GV:∀(k:List UInt8) (i:Nat),lev k/16^i%16=dig k i
 | [],i=>by rw [show lev []=0 from rfl,Nat.zero_div];simp [dig]
 |b::t,i=>by
  rw [Tj];have hb:=b.toNat_lt;rcases Nat.lt_or_ge i 2 with h|h
  ·obtain rfl|rfl:i=0∨i=1:=by omega
   ·show (b.toNat+256*lev t)/1%16=b.toNat/1%16;omega
   ·show (b.toNat+256*lev t)/16%16=b.toNat/16%16;omega
  ·obtain ⟨j,rfl⟩:∃j,i=j+2:=⟨i-2,by omega⟩;have ih:=GV t j;rw [dig,show (j+2)/2=j/2+1 by omega,Nat.add_mod_right,List.getD_cons_succ];rw [dig] at ih;rw [←ih,Nat.add_comm j 2,Nat.pow_add,←Nat.div_div_eq_div_mul,show (16:Nat)^2=256 from rfl];congr 2
   omega
def ON (k:List UInt8):Nat→Nat
 |0=>0
 |j+1=>16*ON k j+dig k (63-j)
theorem Yz {k:List UInt8} (hk:lev k<115792089237316195423570985008687907853269984665640564039457584007913129639936):∀j m,j+m=64→ON k j=lev k/16^m
 |0,m,h=>by
  obtain rfl:m=64:=by omega
  exact (Nat.div_eq_of_lt (by rw [show (16:Nat)^64=115792089237316195423570985008687907853269984665640564039457584007913129639936 from by decide+kernel];exact hk)).symm
 |j+1,m,h=>by
  have ih:=Yz hk j (m+1) (by omega);rw [Nat.pow_succ,←Nat.div_div_eq_div_mul] at ih;show 16*ON k j+dig k (63-j)=_;rw [ih,show 63-j=m by omega,←GV];generalize lev k/16^m=q;omega
def Z4 (f:Nat→Tri) (a:Tri):Nat→Tri
 |0=>a
 |j+1=>KJ (Z4 f a j) (f j)
def Zs (m:Nat) (f:Nat→Nat→Tri):Nat→Tri
 |0=>(0,1,1)
 |k+1=>Z4 (f (63-k)) (NN (Zs m f k)) m
theorem IV (f:Nat→Tri) (a:Tri) (h:qd a):∀j,qd (Z4 f a j)
 |0=>h
 |_+1=>LJ _ _
theorem NJ (m:Nat) (f:Nat→Nat→Tri):∀k,qd (Zs m f k)
 |0=>FV
 |_+1=>IV _ _ (EV _) _
namespace NP
theorem Rep.quot {P:Nat} {d i:Int} (h:Edw P d i) {p q:Pt P d} {W A B C D:Int} (nW:¬(P:Int)∣W) (cA:Cg P A (W*(p.x*q.y+q.x*p.y))) (cB:Cg P B (W*(1+d*p.x*q.x*p.y*q.y))) (cC:Cg P C (W*(p.y*q.y+p.x*q.x))) (cD:Cg P D (W*(1-d*p.x*q.x*p.y*q.y))):Rep (h.add p q) (A*D) (C*B) (B*D):=by
 obtain ⟨⟨a,ha⟩,⟨b,hb⟩⟩:=h.add_is p q;have hp:=h.plus p.on q.on;have hm:=h.less p.on q.on;have cX:=cA.mul cD;have cY:=cC.mul cB;have cZ:=cB.mul cD;obtain ⟨s,hs⟩:∃s,(h.add p q).x=s:=⟨_,rfl⟩;obtain ⟨t,ht⟩:∃t,(h.add p q).y=t:=⟨_,rfl⟩;rw [hs] at ha;rw [ht] at hb;generalize p.x=x1 at *;generalize p.y=y1 at *;generalize q.x=x2 at *;generalize q.y=y2 at *;have two:∀{x y:Int},¬(P:Int)∣x→¬(P:Int)∣y→¬(P:Int)∣x*y:=fun hx hy hd=>by
  rcases h.prime.int hd with h8|h8
  ·exact hx h8
  ·exact hy h8
 refine ⟨fun hd=>two (two nW hp) (two nW hm) (cZ.dvd hd),?_,?_⟩
 ·rw [hs];refine (cX.trans ?_).trans ((Cg.refl s).mul cZ.swap);generalize 1+d*x1*x2*y1*y2=e1 at *;generalize 1-d*x1*x2*y1*y2=e2 at *;generalize x1*y2+x2*y1=n at *;exact ⟨-(a*W*W*e2),by grind⟩
 ·rw [ht];refine (cY.trans ?_).trans ((Cg.refl t).mul cZ.swap);generalize 1+d*x1*x2*y1*y2=e1 at *;generalize 1-d*x1*x2*y1*y2=e2 at *;generalize y1*y2+x1*x2=n at *;exact ⟨-(b*W*W*e1),by grind⟩
theorem not_two {x y:Int} (hx:¬((PP:Nat):Int)∣x) (hy:¬((PP:Nat):Int)∣y):¬((PP:Nat):Int)∣x*y:=fun hd=>by
 rcases pr_P.int hd with h|h
 ·exact hx h
 ·exact hy h
theorem addT_rep {p q:Pt PP dE} {s t:Tri} (r1:RepN p s) (r2:RepN q t):RepN (edw.add p q) (KJ s t):=by
 refine ⟨?_,LJ _ _⟩;obtain ⟨⟨n1,cx1,cy1⟩,-⟩:=r1;obtain ⟨⟨n2,cx2,cy2⟩,-⟩:=r2;have hz:=cg_M s.2.2 t.2.2;have hxx:=(cg_M s.1 t.1).trans (cx1.mul cx2);have hyy:=(cg_M s.2.1 t.2.1).trans (cy1.mul cy2);have hov:=(cg_M (yu s t) (yu s t)).trans (hz.mul hz);have hbe:=(cg_M (fM Ag (IE s t)) (NS s t)).trans (((cg_M Ag (IE s t)).trans ((Cg.refl (Ag:Int)).mul hxx)).mul hyy);rw [dNat_is] at hbe;have hcr:=(cg_A (fM s.1 t.2.1) (fM s.2.1 t.1)).trans (((cg_M s.1 t.2.1).trans (cx1.mul cy2)).add ((cg_M s.2.1 t.1).trans (cy1.mul cx2)));have hal:=(cg_A (NS s t) (IE s t)).trans (hyy.add hxx);have hA:=(cg_M (Yp s t) (yu s t)).trans (hcr.mul hz);have hB:=(cg_A (Mk s t) (Nk s t)).trans (hov.add hbe);have hC:=(cg_M (Zp s t) (yu s t)).trans (hal.mul hz);have hD:=(cg_S (Mk s t) (Nk s t) (Lc _ _)).trans (hov.sub hbe);have nW:¬((PP:Nat):Int)∣((s.2.2:Int)*t.2.2)*((s.2.2:Int)*t.2.2):=not_two (not_two n1 n2) (not_two n1 n2);have h:=Rep.quot edw (p:=p) (q:=q) (W:=((s.2.2:Int)*t.2.2)*((s.2.2:Int)*t.2.2)) nW
  (hA.trans (by rw [show p.x*(s.2.2:Int)*(q.y*(t.2.2:Int))+p.y*(s.2.2:Int)*(q.x*(t.2.2:Int))=(s.2.2:Int)*t.2.2*(p.x*q.y+q.x*p.y) by grind,Int.mul_right_comm];exact Cg.refl _))
  (hB.trans (by rw [show (s.2.2:Int)*t.2.2*((s.2.2:Int)*t.2.2)+(dE:Int)*(p.x*(s.2.2:Int)*(q.x*(t.2.2:Int)))*(p.y*(s.2.2:Int)*(q.y*(t.2.2:Int)))=(s.2.2:Int)*t.2.2*((s.2.2:Int)*t.2.2)*(1+(dE:Int)*p.x*q.x*p.y*q.y) by grind];exact Cg.refl _))
  (hC.trans (by rw [show p.y*(s.2.2:Int)*(q.y*(t.2.2:Int))+p.x*(s.2.2:Int)*(q.x*(t.2.2:Int))=(s.2.2:Int)*t.2.2*(p.y*q.y+p.x*q.x) by grind,Int.mul_right_comm];exact Cg.refl _))
  (hD.trans (by rw [show (s.2.2:Int)*t.2.2*((s.2.2:Int)*t.2.2)-(dE:Int)*(p.x*(s.2.2:Int)*(q.x*(t.2.2:Int)))*(p.y*(s.2.2:Int)*(q.y*(t.2.2:Int)))=(s.2.2:Int)*t.2.2*((s.2.2:Int)*t.2.2)*(1-(dE:Int)*p.x*q.x*p.y*q.y) by grind];exact Cg.refl _))
 exact h.of (cg_M _ _) (cg_M _ _) (cg_M _ _)
theorem twT_rep {p:Pt PP dE} {t:Tri} (r:RepN p t):RepN (edw.add p p) (twT t):=by
 refine ⟨?_,OS _⟩;obtain ⟨⟨n1,cx,cy⟩,-⟩:=r;obtain ⟨u,hu⟩:=p.on;have hxx:=(cg_M t.1 t.1).trans (cx.mul cx);have hyy:=(cg_M t.2.1 t.2.1).trans (cy.mul cy);have hzz:=cg_M t.2.2 t.2.2;have hxy:=(cg_M t.1 t.2.1).trans (cx.mul cy);have hA:=(cg_A (MJ t) (MJ t)).trans (hxy.add hxy);have hB:=(cg_S (MN t) (LN t) (Lc _ _)).trans (hyy.sub hxx);have hC:=(cg_A (MN t) (LN t)).trans (hyy.add hxx);have hB2:Cg ((PP:Nat):Int) ((xp t:Nat):Int) ((t.2.2:Int)*t.2.2*(1+(dE:Int)*p.x*p.x*p.y*p.y)):=hB.trans ⟨(t.2.2:Int)*t.2.2*u,by
  generalize p.x=x at *;generalize p.y=y at *
  grind⟩
 have hD:=(cg_S (fA (Qw t) (Qw t)) (xp t) (Tp _ _)).trans (((cg_A (Qw t) (Qw t)).trans (hzz.add hzz)).sub hB2);have h:=Rep.quot edw (p:=p) (q:=p) (W:=(t.2.2:Int)*t.2.2) (not_two n1 n1)
  (hA.trans (by rw [show p.x*(t.2.2:Int)*(p.y*(t.2.2:Int))+p.x*(t.2.2:Int)*(p.y*(t.2.2:Int))=(t.2.2:Int)*t.2.2*(p.x*p.y+p.x*p.y) by grind];exact Cg.refl _))
  hB2
  (hC.trans (by rw [show p.y*(t.2.2:Int)*(p.y*(t.2.2:Int))+p.x*(t.2.2:Int)*(p.x*(t.2.2:Int))=(t.2.2:Int)*t.2.2*(p.y*p.y+p.x*p.x) by grind];exact Cg.refl _))
  (hD.trans (by rw [show (t.2.2:Int)*t.2.2+(t.2.2:Int)*t.2.2-(t.2.2:Int)*t.2.2*(1+(dE:Int)*p.x*p.x*p.y*p.y)=(t.2.2:Int)*t.2.2*(1-(dE:Int)*p.x*p.x*p.y*p.y) by grind];exact Cg.refl _))
 exact h.of (cg_M _ _) (cg_M _ _) (cg_M _ _)
theorem radT_rep {p q:Pt PP dE} {t:Tri} {a b:Nat} (r:RepN (edw.add (edw.mul p a) (edw.mul q b)) t):RepN (edw.add (edw.mul p (16*a)) (edw.mul q (16*b))) (NN t):=by
 have one:∀{a b:Nat} {t:Tri},RepN (edw.add (edw.mul p a) (edw.mul q b)) t→RepN (edw.add (edw.mul p (2*a)) (edw.mul q (2*b))) (twT t):=fun r=>by
  have h:=twT_rep r;rw [four_sum,mul_two,mul_two] at h;exact h
 have h:=one (one (one (one r)));rw [show 2*(2*(2*(2*a)))=16*a by omega,show 2*(2*(2*(2*b)))=16*b by omega] at h;exact h
theorem manyT_rep {p:Pt PP dE} {t:Tri} (r:RepN p t):∀i,RepN (edw.mul p i) (Zj t i)
 |0=>zeroT_rep
 |i+1=>addT_rep (manyT_rep r i) r
theorem two_rep {p q:Pt PP dE} {t u:Tri} (r1:RepN p t) (r2:RepN q u) (h s:List UInt8) (f:Nat→Nat→Tri) (f0:∀i,f i 0=Zj t (dig h i)) (f1:∀i,f i 1=Zj u (dig s i)):∀k,RepN (edw.add (edw.mul p (ON h k)) (edw.mul q (ON s k))) (Zs 2 f k)
 |0=>by
  show RepN (edw.add edw.zero edw.zero) _;rw [edw.zero_add];exact zeroT_rep
 |k+1=>by
  have ih:=radT_rep (two_rep r1 r2 h s f f0 f1 k);have h1:=addT_rep ih (manyT_rep r1 (dig h (63-k)));have h2:=addT_rep h1 (manyT_rep r2 (dig s (63-k)));rw [edw.add_assoc (edw.mul p _),edw.add_comm (edw.mul q _) (edw.mul p _),←edw.add_assoc (edw.mul p _),←edw.mul_add,edw.add_assoc,←edw.mul_add] at h2;show RepN _ (KJ (KJ (NN (Zs 2 f k)) (f (63-k) 0)) (f (63-k) 1));rw [f0,f1];exact h2
theorem one_rep {p:Pt PP dE} {t:Tri} (r1:RepN p t) (h:List UInt8) (f:Nat→Nat→Tri) (f0:∀i,f i 0=Zj t (dig h i)):∀k,RepN (edw.mul p (ON h k)) (Zs 1 f k)
 |0=>zeroT_rep
 |k+1=>by
  have ih:=one_rep r1 h f f0 k;have e:edw.add (edw.mul p (ON h k)) (edw.mul p 0)=edw.mul p (ON h k):=edw.add_zero _;rw [←e] at ih;have i2:=radT_rep ih;rw [show edw.mul p (16*0)=edw.zero from rfl,edw.add_zero] at i2;have h1:=addT_rep i2 (manyT_rep r1 (dig h (63-k)));rw [←edw.mul_add] at h1;show RepN _ (KJ (NN (Zs 1 f k)) (f (63-k) 0));rw [f0];exact h1
end NP
theorem He:∀w,(zeroValue 68).run Tryz.prog w=.ok (.agg (Wa 24).toArray) w:=(zero_of_info (P:=Tryz.prog) (t:=68) (v:=.agg (Wa 24).toArray) (n:=24) (by kernel_rfl)).1
theorem Jb:(Tryz.prog.info? 68).map (·.size)=some 24:=by kernel_rfl
theorem PN {l:List Nat} (h:l.length=8):∃a b c d e f g i,l= [a,b,c,d,e,f,g,i]:=by
 match l,h with
 | [a,b,c,d,e,f,g,i],_=>exact ⟨a,b,c,d,e,f,g,i,rfl⟩
theorem qm (a b c:List Nat) (ha:a.length=8) (hb:b.length=8) (hc:c.length=8) (w:World):(Instr.build 68 #[(0,Da a),(1,Da b),(2,Da c)]).run Tryz.prog w=.ok (Da (a++b++c)) w:=by
 obtain ⟨a0,a1,a2,a3,a4,a5,a6,a7,rfl⟩:=PN ha;obtain ⟨b0,b1,b2,b3,b4,b5,b6,b7,rfl⟩:=PN hb;obtain ⟨c0,c1,c2,c3,c4,c5,c6,c7,rfl⟩:=PN hc
 kernel_rfl
theorem QN (b c:List Nat) (hb:b.length=8) (hc:c.length=8) (w:World):(Instr.build 68 #[(1,Da b),(2,Da c)]).run Tryz.prog w=.ok (Da (nD 0++b++c)) w:=by
 obtain ⟨b0,b1,b2,b3,b4,b5,b6,b7,rfl⟩:=PN hb;obtain ⟨c0,c1,c2,c3,c4,c5,c6,c7,rfl⟩:=PN hc
 kernel_rfl
theorem An (g:Nat) (w:World):(Instr.fieldAt 68 (.pointer (some ⟨g,0,none⟩)) 0).run Tryz.prog w=.ok (.pointer (some ⟨g,0,none⟩)) w:=by kernel_rfl
theorem Bn (g:Nat) (w:World):(Instr.fieldAt 68 (.pointer (some ⟨g,0,none⟩)) 1).run Tryz.prog w=.ok (.pointer (some ⟨g,8,none⟩)) w:=by kernel_rfl
theorem zu (g:Nat) (w:World):(Instr.fieldAt 68 (.pointer (some ⟨g,0,none⟩)) 2).run Tryz.prog w=.ok (.pointer (some ⟨g,16,none⟩)) w:=by kernel_rfl
theorem R9 {w:World} {g:Nat} {l:List Nat} {t':TypeId} (hC:Ia w g (l.map Ja) t') (hl:l.length=24):(Instr.loadAt 68 (.pointer (some ⟨g,0,none⟩))).run Tryz.prog w=.ok (Da l) w:=by
 have h:=run_loadVar_row (P:=Tryz.prog) w g t' 68 (l.map Ja).toArray (0,0) _ hC Tryz.underlying68 rfl (by rw [List.size_toArray,Uaj,hl];exact Jb);simp only [Instr.loadAt,Instr.sureAddr,Sem.run_bind,Sem.run_pure,Result.andThen_ok];exact h
theorem RC {w:World} {g:Nat} {p:List Nat} {t':TypeId} (hC:Ia w g (p.map Ja) t') (o:Nat) (x:List Nat) (hp:(p.drop o).take 8=x) (hx:x.length=8):(Instr.loadAt 66 (.pointer (some ⟨g,o,none⟩))).run Tryz.prog w=.ok (Da x) w:=by
 have hr:=hC.range o 8;rw [←List.map_drop,←List.map_take,hp] at hr;exact run_loadAt_mid w g o 66 (x.map Ja) _ hr Tryz.underlying66 rfl (by rw [Uaj,hx];exact Za)
theorem Gr {w:World} {g:Nat} {p x y z:List Nat} {t':TypeId} (hC:Ia w g (p.map Ja) t') (hp:p=x++y++z) (hx:x.length=8):(Instr.loadAt 66 (.pointer (some ⟨g,0,none⟩))).run Tryz.prog w=.ok (Da x) w:=
 RC hC 0 x (by rw [hp,List.drop_zero,List.append_assoc,List.take_append_of_le_length (by omega),Zaj (by omega)]) hx
theorem Ir {w:World} {g:Nat} {p x y z:List Nat} {t':TypeId} (hC:Ia w g (p.map Ja) t') (hp:p=x++y++z) (hx:x.length=8) (hy:y.length=8):(Instr.loadAt 66 (.pointer (some ⟨g,8,none⟩))).run Tryz.prog w=.ok (Da y) w:=
 RC hC 8 y (by rw [hp,List.append_assoc,List.drop_append_of_le_length (by omega),List.drop_of_length_le (by omega),List.nil_append,List.take_append_of_le_length (by omega),Zaj (by omega)]) hy
theorem Zz {w:World} {g:Nat} {p x y z:List Nat} {t':TypeId} (hC:Ia w g (p.map Ja) t') (hp:p=x++y++z) (hx:x.length=8) (hy:y.length=8) (hz:z.length=8):(Instr.loadAt 66 (.pointer (some ⟨g,16,none⟩))).run Tryz.prog w=.ok (Da z) w:=
 RC hC 16 z (by rw [hp,List.drop_append_of_le_length (by rw [qaj];omega),List.drop_of_length_le (by rw [qaj];omega),List.nil_append,Zaj (by omega)]) hz
def Pd (t:Tri):List Nat:=nD t.1++nD t.2.1++nD t.2.2
theorem OJ {P:Program} {fn:Func} {R:Ending→World→Prop} {a:Act} {w:World} {p u:Tmp} {ty ty2:TypeId} {d d2:TypeDesc} {n n2:Nat} (hres:fn.results=#[.cell p ty,.cell u ty2]) (g g2:Nat) (vs vs2:List Value)
 (hp:a.tmps.getD p undef=.pointer (some ⟨g,0,none⟩)) (hv:a.tmps.getD u undef=.pointer (some ⟨g2,0,none⟩)) (hg:Ia w g vs ty) (hg2:Ia w g2 vs2 ty2) (hu:P.underlying ty=some d) (hd:(match d with |.struct _|.array _ _=>true|_=>false)=true) (hi:(P.info? ty).map (·.size)=some n) (hl:vs.length=n)
 (hu2:P.underlying ty2=some d2) (hd2:(match d2 with |.struct _|.array _ _=>true|_=>false)=true) (hi2:(P.info? ty2).map (·.size)=some n2) (hl2:vs2.length=n2)
 (hdf:a.defers= []) (hR:R (.returned (.tuple #[.agg vs.toArray,.agg vs2.toArray])) w):bodyPost P fn R .ret a w:=by
 have hp':a.tmps[p]?.getD undef=.pointer (some ⟨g,0,none⟩):=by simpa using hp
 have hv':a.tmps[u]?.getD undef=.pointer (some ⟨g2,0,none⟩):=by simpa using hv
 have hrun:(results fn a.tmps).run P w=.ok (.tuple #[.agg vs.toArray,.agg vs2.toArray]) w:=by
  simp [results,hres,hp',hv',asAddr,run_loadVar_row w g ty ty vs.toArray (0,0) _ hg hu hd (by rw [List.size_toArray,hl];exact hi),run_loadVar_row w g2 ty2 ty2 vs2.toArray (0,0) _ hg2 hu2 hd2 (by rw [List.size_toArray,hl2];exact hi2)]
 exact bodyPost_ret hrun hdf hR
end Go.Proofs.YtoggkhjaghkpnaaGreatDoor
