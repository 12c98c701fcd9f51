/- Part 15 of what the laws of this seat share: UTwice, UAdd, USame, UNegate, UBytes. -/
import Derived.Deep.Cut
import Derived.IntWalk
import Derived.Test.YtoggkhjaghkpnaaGreatDoorPart14
set_option maxRecDepth 100000
set_option maxHeartbeats 8000000
namespace Go.Proofs.YtoggkhjaghkpnaaGreatDoor
open Go.RowKit
def W4 (p:List Nat) (g_base:Nat) (gr:Nat) (px:List Nat) (xx:List Nat) (py:List Nat) (yy:List Nat) (pz:List Nat) (zz:List Nat):List Value:=
 (Aa p)::ptr g_base::ptr gr::ud 5 (ptr g_base::(Aa px)::(Aa xx)::(.pointer (some ⟨g_base,5,none⟩))::(Aa py)::(Aa yy)::(.pointer (some ⟨g_base,10,none⟩))::(Aa pz)::(Aa zz)::ud 21 [])
def IJ (p:List Nat) (g_base:Nat) (gr:Nat) (px:List Nat) (xx:List Nat) (py:List Nat) (yy:List Nat) (pz:List Nat) (zz:List Nat) (n3 n4 n5:Nat):List Value:=
 (Aa p)::ptr g_base::ptr gr::ptr n3::ptr n4::ptr n5::undef::undef::ptr g_base::(Aa px)::(Aa xx)::(.pointer (some ⟨g_base,5,none⟩))::(Aa py)::(Aa yy)::(.pointer (some ⟨g_base,10,none⟩))::(Aa pz)::(Aa zz)::ud 21 []
def GN (p:List Nat) (g_base:Nat) (gr:Nat) (gx:Nat) (gy:Nat) (gz:Nat) (px:List Nat) (xx:List Nat) (py:List Nat) (yy:List Nat) (pz:List Nat) (zz:List Nat) (xy:List Nat):List Value:=
 (Aa p)::ptr g_base::ptr gr::ptr gx::ptr gy::ptr gz::undef::undef::ptr g_base::(Aa px)::(Aa xx)::(.pointer (some ⟨g_base,5,none⟩))::(Aa py)::(Aa yy)::(.pointer (some ⟨g_base,10,none⟩))::(Aa pz)::(Aa zz)::ptr g_base::(Aa px)::(.pointer (some ⟨g_base,5,none⟩))::(Aa py)::(Aa xy)::ud 16 []
def Nw (p:List Nat) (g_base:Nat) (gr:Nat) (gx:Nat) (gy:Nat) (gz:Nat) (px:List Nat) (xx:List Nat) (py:List Nat) (yy:List Nat) (pz:List Nat) (zz:List Nat) (xy:List Nat) (n6:Nat):List Value:=
 (Aa p)::ptr g_base::ptr gr::ptr gx::ptr gy::ptr gz::ptr n6::undef::ptr g_base::(Aa px)::(Aa xx)::(.pointer (some ⟨g_base,5,none⟩))::(Aa py)::(Aa yy)::(.pointer (some ⟨g_base,10,none⟩))::(Aa pz)::(Aa zz)::ptr g_base::(Aa px)::(.pointer (some ⟨g_base,5,none⟩))::(Aa py)::(Aa xy)::ud 16 []
def NC (p:List Nat) (g_base:Nat) (gr:Nat) (gx:Nat) (gy:Nat) (gz:Nat) (gm:Nat) (gl:Nat) (px:List Nat) (xx:List Nat) (py:List Nat) (yy:List Nat) (pz:List Nat) (zz:List Nat) (xy:List Nat) (le:List Nat) (t2:List Nat) (al:List Nat) (z2:List Nat) (dd:List Nat) (r:List Nat):List Value:=
 (Aa p)::ptr g_base::ptr gr::ptr gx::ptr gy::ptr gz::ptr gm::ptr gl::ptr g_base::(Aa px)::(Aa xx)::(.pointer (some ⟨g_base,5,none⟩))::(Aa py)::(Aa yy)::(.pointer (some ⟨g_base,10,none⟩))::(Aa pz)::(Aa zz)::ptr g_base::(Aa px)::(.pointer (some ⟨g_base,5,none⟩))::(Aa py)::(Aa xy)::(Aa yy)::(Aa xx)::(Aa le)::(Aa xy)::(Aa xy)::(Aa t2)::(Aa le)::(Aa yy)::(Aa xx)::(Aa al)::(Aa zz)::(Aa zz)::(Aa z2)::(Aa le)::(Aa dd)::(Aa r)::[]
theorem IN (p px py pz xx yy zz xy le t2 al z2 dd r:List Nat) (w:World)
 (Hpx:Hid (px.length=5))
 (Hpy:Hid (py.length=5))
 (Hpz:Hid (pz.length=5))
 (Hxx:Hid (xx.length=5))
 (Hyy:Hid (yy.length=5))
 (Hzz:Hid (zz.length=5))
 (Hxy:Hid (xy.length=5))
 (Hle:Hid (le.length=5))
 (Hr:Hid (r.length=15))
 (Fp:Hid (p=px++py++pz))
 (C1:Hid (∀W,Calls Tryz.prog 99 #[Aa px] W (gvn (Aa xx) W)))
 (C2:Hid (∀W,Calls Tryz.prog 99 #[Aa py] W (gvn (Aa yy) W)))
 (C3:Hid (∀W,Calls Tryz.prog 99 #[Aa pz] W (gvn (Aa zz) W)))
 (C4:Hid (∀W,Calls Tryz.prog 63 #[Aa px,Aa py] W (gvn (Aa xy) W)))
 (C5:Hid (∀W,Calls Tryz.prog 59 #[Aa yy,Aa xx] W (gvn (Aa le) W)))
 (C6:Hid (∀W,Calls Tryz.prog 101 #[Aa xy,Aa xy] W (gvn (Aa t2) W)))
 (C7:Hid (∀W,Calls Tryz.prog 101 #[Aa yy,Aa xx] W (gvn (Aa al) W)))
 (C8:Hid (∀W,Calls Tryz.prog 101 #[Aa zz,Aa zz] W (gvn (Aa z2) W)))
 (C9:Hid (∀W,Calls Tryz.prog 59 #[Aa z2,Aa le] W (gvn (Aa dd) W)))
 (C10:Hid (∀W,Calls Tryz.prog 132 #[Aa t2,Aa le,Aa al,Aa dd] W (gvn (Aa r) W))):
 Calls Tryz.prog 131 #[Aa p] w (gvn (Aa r) w):=by
 go_enter Tryz.func131,Tryz.ntmps131;go_wp2_with (first
  |(refine Ra rfl 55 (.tmp 0) rfl (p.map Ga) rfl ?_
    intro w1 hb1 hvp1;have hB1:=hb1;have hgep:w.heap.size≤w.heap.size:=Xaj _;clear hb1;try simp only [La]
    skip)
  |(refine Ma (o:=⟨some 2,_,_,_,_,_⟩) rfl 55 rfl (Na 15) Id ?_
    intro w2 hb2 hvr2;have hB2:=Ba hB1 hb2;have hger:w.heap.size≤w1.heap.size:=hB1.size;have hvp2:=hvp1.on hb2;have hnepr:=Vaj hvp1.lt;clear hB1 hvp1 hb2;try simp only [La]
    skip))
 generalize hqr:w1.heap.size=gr at *;clear hqr;replace hvp2:=hvp2.drew;replace hvr2:=hvr2.drew;refine wp_region_any (by kernel_rfl) ?_;refine Qf (L:=[0,1,2,3,4,5,6,7,8,9,10,11,12,13,14]) (by kernel_rfl) _ _ (W4 p w.heap.size gr px xx py yy pz zz) [(9,3),(10,4),(11,5)] (fun _=>53) (fun _=>(Na 5)) (fun s=>bif s==3 then some (12,xx.map Ga) else bif s==4 then some (13,yy.map Ga) else bif s==5 then some (14,zz.map Ga) else none) [0,1,2,6,7,17,18,19,20,21,22,23,24,25,26,27,28,29,30,31,32,33,34,35,36,37] (by kernel_rfl) (by kernel_rfl) ?_ (fun _ _=>Fb) ?_ ?_ ?_ (by rfl) ?_ 0 (by kernel_rfl) ?_
 ·intro p hp;rcases List.mem_cons.1 hp with rfl|hp
  ·exact ⟨⟨_,rfl,rfl,rfl,rfl,by kernel_rfl,by kernel_rfl⟩⟩
  rcases List.mem_cons.1 hp with rfl|hp
  ·exact ⟨⟨_,rfl,rfl,rfl,rfl,by kernel_rfl,by kernel_rfl⟩⟩
  rcases List.mem_cons.1 hp with rfl|hp
  ·exact ⟨⟨_,rfl,rfl,rfl,rfl,by kernel_rfl,by kernel_rfl⟩⟩
  exact absurd hp List.not_mem_nil
 ·intro p hp j l h;rcases List.mem_cons.1 hp with rfl|hp
  ·change some (12,xx.map Ga)=some (j,l) at h;cases h
   exact ⟨⟨_,10,rfl,rfl,rfl,rfl,by kernel_rfl,by kernel_rfl,by kernel_rfl,rfl,by rw [Uaj,Hxx.out];exact Sa,by rw [Uaj,Hxx.out];rfl,Oa _⟩,by decide⟩
  rcases List.mem_cons.1 hp with rfl|hp
  ·change some (13,yy.map Ga)=some (j,l) at h;cases h
   exact ⟨⟨_,13,rfl,rfl,rfl,rfl,by kernel_rfl,by kernel_rfl,by kernel_rfl,rfl,by rw [Uaj,Hyy.out];exact Sa,by rw [Uaj,Hyy.out];rfl,Oa _⟩,by decide⟩
  rcases List.mem_cons.1 hp with rfl|hp
  ·change some (14,zz.map Ga)=some (j,l) at h;cases h
   exact ⟨⟨_,16,rfl,rfl,rfl,rfl,by kernel_rfl,by kernel_rfl,by kernel_rfl,rfl,by rw [Uaj,Hzz.out];exact Sa,by rw [Uaj,Hzz.out];rfl,Oa _⟩,by decide⟩
  exact absurd hp List.not_mem_nil
 ·intro p hp q hq j l l2 h1 h2;rcases List.mem_cons.1 hp with rfl|hp
  ·rcases List.mem_cons.1 hq with rfl|hq
   ·rfl
   rcases List.mem_cons.1 hq with rfl|hq
   ·change some (12,_)=some (j,l) at h1;change some (13,_)=some (j,l2) at h2;exact absurd ((Prod.mk.inj (Option.some.inj h1)).1.trans (Prod.mk.inj (Option.some.inj h2)).1.symm) (by decide)
   rcases List.mem_cons.1 hq with rfl|hq
   ·change some (12,_)=some (j,l) at h1;change some (14,_)=some (j,l2) at h2;exact absurd ((Prod.mk.inj (Option.some.inj h1)).1.trans (Prod.mk.inj (Option.some.inj h2)).1.symm) (by decide)
   exact absurd hq List.not_mem_nil
  rcases List.mem_cons.1 hp with rfl|hp
  ·rcases List.mem_cons.1 hq with rfl|hq
   ·change some (13,_)=some (j,l) at h1;change some (12,_)=some (j,l2) at h2;exact absurd ((Prod.mk.inj (Option.some.inj h1)).1.trans (Prod.mk.inj (Option.some.inj h2)).1.symm) (by decide)
   rcases List.mem_cons.1 hq with rfl|hq
   ·rfl
   rcases List.mem_cons.1 hq with rfl|hq
   ·change some (13,_)=some (j,l) at h1;change some (14,_)=some (j,l2) at h2;exact absurd ((Prod.mk.inj (Option.some.inj h1)).1.trans (Prod.mk.inj (Option.some.inj h2)).1.symm) (by decide)
   exact absurd hq List.not_mem_nil
  rcases List.mem_cons.1 hp with rfl|hp
  ·rcases List.mem_cons.1 hq with rfl|hq
   ·change some (14,_)=some (j,l) at h1;change some (12,_)=some (j,l2) at h2;exact absurd ((Prod.mk.inj (Option.some.inj h1)).1.trans (Prod.mk.inj (Option.some.inj h2)).1.symm) (by decide)
   rcases List.mem_cons.1 hq with rfl|hq
   ·change some (14,_)=some (j,l) at h1;change some (13,_)=some (j,l2) at h2;exact absurd ((Prod.mk.inj (Option.some.inj h1)).1.trans (Prod.mk.inj (Option.some.inj h2)).1.symm) (by decide)
   rcases List.mem_cons.1 hq with rfl|hq
   ·rfl
   exact absurd hq List.not_mem_nil
  exact absurd hp List.not_mem_nil
 ·repeat refine Aak rfl ?_
  exact Qa
 ·refine Aak (.inr (.inl (mF 8 rfl (Qi _)))) ?_;refine Aak (.inr (.inl (mL 9 rfl fun w hb=>Vl (hvp2.on hb) Fp.out Hpx.out))) ?_;refine Aak (.inr (.inl (mC 10 rfl Tryz.func99 fun w hb=>C1.out w))) ?_;refine Aak (.inr (.inl (mF 11 rfl (Cl _)))) ?_;refine Aak (.inr (.inl (mL 12 rfl fun w hb=>Zn (hvp2.on hb) Fp.out Hpx.out Hpy.out))) ?_;refine Aak (.inr (.inl (mC 13 rfl Tryz.func99 fun w hb=>C2.out w))) ?_;refine Aak (.inr (.inl (mF 14 rfl (Yu _)))) ?_;refine Aak (.inr (.inl (mL 15 rfl fun w hb=>Wz (hvp2.on hb) Fp.out Hpx.out Hpy.out Hpz.out))) ?_;refine Aak (.inr (.inl (mC 16 rfl Tryz.func99 fun w hb=>C3.out w))) ?_;refine Aak (.inl ⟨(9,3),by simp,rfl⟩) ?_;refine Aak (.inl ⟨(10,4),by simp,rfl⟩) ?_;refine Aak (.inl ⟨(11,5),by simp,rfl⟩) ?_;refine Aak (.inr (.inr ⟨(9,3),by simp,_,rfl⟩)) ?_;refine Aak (.inr (.inr ⟨(10,4),by simp,_,rfl⟩)) ?_;refine Aak (.inr (.inr ⟨(11,5),by simp,_,rfl⟩)) ?_;exact Qa
 intro w3 g hb3 hN3 hap3;obtain ⟨hgex,hvx3⟩:=hN3 (9,3) (by simp);obtain ⟨hgey,hvy3⟩:=hN3 (10,4) (by simp);obtain ⟨hgez,hvz3⟩:=hN3 (11,5) (by simp);have hnexy:=hap3 (9,3) (by simp) (10,4) (by simp) (by decide);have hnexz:=hap3 (9,3) (by simp) (11,5) (by simp) (by decide);have hneyz:=hap3 (10,4) (by simp) (11,5) (by simp) (by decide);clear hN3 hap3;have hB3:=Ba (show Below w.heap.size w w2.drew from hB2.drew) hb3;have hltp:w.heap.size<w2.heap.size:=hvp2.lt;have hltr:gr<w2.heap.size:=hvr2.lt;have hvp3:=hvp2.on hb3;have hvr3:=hvr2.on hb3;rw [show Oc g [(9,3),(10,4),(11,5)] (W4 p w.heap.size gr px xx py yy pz zz)=IJ p w.heap.size gr px xx py yy pz zz (g 3) (g 4) (g 5) from rfl];replace hgex:w2.heap.size≤g 3:=hgex;replace hvx3:Ia w3 (g 3) (xx.map Ga) 53:=hvx3;replace hgey:w2.heap.size≤g 4:=hgey;replace hvy3:Ia w3 (g 4) (yy.map Ga) 53:=hvy3;replace hgez:w2.heap.size≤g 5:=hgez;replace hvz3:Ia w3 (g 5) (zz.map Ga) 53:=hvz3;replace hnexy:g 3≠g 4:=hnexy;replace hnexz:g 3≠g 5:=hnexz;replace hneyz:g 4≠g 5:=hneyz;have hnepx:w.heap.size≠g 3:=Vaj (Waj hltp hgex);have hnerx:gr≠g 3:=Vaj (Waj hltr hgex);replace hgex:w.heap.size≤g 3:=Nat.le_trans (show w.heap.size≤w2.heap.size from hB2.size) hgex;have hnepy:w.heap.size≠g 4:=Vaj (Waj hltp hgey);have hnery:gr≠g 4:=Vaj (Waj hltr hgey);replace hgey:w.heap.size≤g 4:=Nat.le_trans (show w.heap.size≤w2.heap.size from hB2.size) hgey;have hnepz:w.heap.size≠g 5:=Vaj (Waj hltp hgez);have hnerz:gr≠g 5:=Vaj (Waj hltr hgez);replace hgez:w.heap.size≤g 5:=Nat.le_trans (show w.heap.size≤w2.heap.size from hB2.size) hgez;clear hltp hltr;generalize g 3=gx at *;generalize g 4=gy at *;generalize g 5=gz at *;clear hB2 hvp2 hvr2 hb3;refine ⟨by kernel_rfl,?_⟩;rename_i K hKK;show Exit.then K _ Exit.normal (⟨(IJ p w.heap.size gr px xx py yy pz zz gx gy gz).toArray,[]⟩:Act) w3;simp only [Exit.then];refine hKK _ _ ?_;clear hKK K g;simp only [IJ,ptr,ud]
 go_upto_region 2 with fail
 refine Mb (md:=.any) (by kernel_rfl) ?_;refine Ya (L:=[0,1,2,3,4,5]) (by kernel_rfl) _ _ (GN p w.heap.size gr gx gy gz px xx py yy pz zz xy) [(5,6)] 53 (Na 5) [0,1,2,3,4,5,7,8,9,10,11,12,13,14,15,16,22,23,24,25,26,27,28,29,30,31,32,33,34,35,36,37] (by kernel_rfl) (by kernel_rfl) ?_ Fb ?_ (by rfl) ?_ 1 (by kernel_rfl) ?_
 ·intro p hp;rcases List.mem_cons.1 hp with rfl|hp
  ·exact ⟨⟨_,rfl,rfl,rfl,rfl,by kernel_rfl,by kernel_rfl⟩⟩
  exact absurd hp List.not_mem_nil
 ·repeat refine Aak rfl ?_
  exact Qa
 ·refine Aak (.inr (mF 17 rfl (Qi _))) ?_;refine Aak (.inr (mL 18 rfl fun w hb=>Vl (hvp3.on hb) Fp.out Hpx.out)) ?_;refine Aak (.inr (mF 19 rfl (Cl _))) ?_;refine Aak (.inr (mL 20 rfl fun w hb=>Zn (hvp3.on hb) Fp.out Hpx.out Hpy.out)) ?_;refine Aak (.inr (mC 21 rfl Tryz.func63 fun w hb=>C4.out w)) ?_;refine Aak (.inl ⟨(5,6),by simp,rfl⟩) ?_;exact Qa
 intro w4 g hb4 hN4 hap4;obtain ⟨hgem,hvm4⟩:=hN4 (5,6) (by simp);clear hN4 hap4;have hB4:=Ba hB3 hb4;have hltp:w.heap.size<w3.heap.size:=hvp3.lt;have hltr:gr<w3.heap.size:=hvr3.lt;have hltx:gx<w3.heap.size:=hvx3.lt;have hlty:gy<w3.heap.size:=hvy3.lt;have hltz:gz<w3.heap.size:=hvz3.lt;have hvp4:=hvp3.on hb4;have hvr4:=hvr3.on hb4;have hvx4:=hvx3.on hb4;have hvy4:=hvy3.on hb4;have hvz4:=hvz3.on hb4;rw [show Oc g [(5,6)] (GN p w.heap.size gr gx gy gz px xx py yy pz zz xy)=Nw p w.heap.size gr gx gy gz px xx py yy pz zz xy (g 6) from rfl];replace hgem:w3.heap.size≤g 6:=hgem;replace hvm4:Ia w4 (g 6) (Na 5) 53:=hvm4;have hnepm:w.heap.size≠g 6:=Vaj (Waj hltp hgem);have hnerm:gr≠g 6:=Vaj (Waj hltr hgem);have hnexm:gx≠g 6:=Vaj (Waj hltx hgem);have hneym:gy≠g 6:=Vaj (Waj hlty hgem);have hnezm:gz≠g 6:=Vaj (Waj hltz hgem);replace hgem:w.heap.size≤g 6:=Nat.le_trans (show w.heap.size≤w3.heap.size from hB3.size) hgem;clear hltp hltr hltx hlty hltz;generalize g 6=gm at *;clear hB3 hvp3 hvr3 hvx3 hvy3 hvz3 hb4;refine Bb 6 rfl (by kernel_rfl) ?_;refine Ka rfl 53 (.tmp 6) (.tmp 21) rfl gm 5 (Na 5) (xy.map Ga) rfl rfl hvm4 rfl Sa (by rw [Uaj,Hxy.out]) (Oa _) ?_;intro w5 hb5 hvm5 hz5;have hB5:Below w.heap.size w w5:=hB4.trans (hb5.below hgem hB4.size);have hvp5:=hvp4.but hb5 hnepm;have hvr5:=hvr4.but hb5 hnerm;have hvx5:=hvx4.but hb5 hnexm;have hvy5:=hvy4.but hb5 hneym;have hvz5:=hvz4.but hb5 hnezm;clear hB4 hvm4 hb5 hz5 hvp4 hvr4 hvx4 hvy4 hvz4;rename_i K hKK;show Exit.then K _ Exit.normal (⟨(Nw p w.heap.size gr gx gy gz px xx py yy pz zz xy gm).toArray,[]⟩:Act) w5;simp only [Exit.then];refine hKK _ _ ?_;clear hKK K g;simp only [Nw,ptr,ud];go_wp2_with (first
  |(refine Pa rfl 53 (.tmp 4) rfl gy 5 (yy.map Ga) rfl hvy5 Tryz.underlying53 rfl Sa (by rw [Uaj,Hyy.out]) ?_
    try simp only [La]
    skip)
  |(refine Pa rfl 53 (.tmp 3) rfl gx 5 (xx.map Ga) rfl hvx5 Tryz.underlying53 rfl Sa (by rw [Uaj,Hxx.out]) ?_
    try simp only [La]
    skip))
 refine (C5.out w5).mono ?_;rintro e w6 ⟨rfl,hb6⟩;have hB6:=Ba hB5 hb6;have hvp6:=hvp5.on hb6;have hvr6:=hvr5.on hb6;have hvx6:=hvx5.on hb6;have hvy6:=hvy5.on hb6;have hvz6:=hvz5.on hb6;have hvm6:=hvm5.on hb6;clear hB5 hvp5 hvr5 hvx5 hvy5 hvz5 hvm5 hb6;go_wp2_with (first
  |(refine Db rfl rfl 53 (.tmp 7) (.tmp 24) rfl rfl 5 (Na 5) (le.map Ga) rfl rfl Fb rfl Sa (by rw [Uaj,Hle.out]) (Oa _) ?_
    intro w7 hb7 hvl7;have hB7:=Ba hB6 hb7;have hgel:w.heap.size≤w6.heap.size:=hB6.size;have hvp7:=hvp6.on hb7;have hnepl:=Vaj hvp6.lt;have hvr7:=hvr6.on hb7;have hnerl:=Vaj hvr6.lt;have hvx7:=hvx6.on hb7;have hnexl:=Vaj hvx6.lt;have hvy7:=hvy6.on hb7;have hneyl:=Vaj hvy6.lt;have hvz7:=hvz6.on hb7;have hnezl:=Vaj hvz6.lt;have hvm7:=hvm6.on hb7;have hneml:=Vaj hvm6.lt;clear hB6 hvp6 hvr6 hvx6 hvy6 hvz6 hvm6 hb7;try simp only [La]
    skip))
 generalize hql:w6.heap.size=gl at *;clear hql;replace hvp7:=hvp7.drew;replace hvr7:=hvr7.drew;replace hvx7:=hvx7.drew;replace hvy7:=hvy7.drew;replace hvz7:=hvz7.drew;replace hvm7:=hvm7.drew;replace hvl7:=hvl7.drew;refine wp_region_any (by kernel_rfl) ?_;refine Ya (L:=[0,1,2,3,4,5,6,7,8,9,10,11,12]) (by kernel_rfl) _ _ (NC p w.heap.size gr gx gy gz gm gl px xx py yy pz zz xy le t2 al z2 dd r) [] 55 (Na 15) [0,1,2,3,4,5,6,7,8,9,10,11,12,13,14,15,16,17,18,19,20,21,22,23,24] (by kernel_rfl) (by kernel_rfl) ?_ Id ?_ (by rfl) ?_ 1 (by kernel_rfl) ?_
 ·intro p hp;exact absurd hp List.not_mem_nil
 ·repeat refine Aak rfl ?_
  exact Qa
 ·refine Aak (.inr (mL 25 rfl fun w hb=>Gb (hvm7.on hb) Hxy.out)) ?_;refine Aak (.inr (mL 26 rfl fun w hb=>Gb (hvm7.on hb) Hxy.out)) ?_;refine Aak (.inr (mC 27 rfl Tryz.func101 fun w hb=>C6.out w)) ?_;refine Aak (.inr (mL 28 rfl fun w hb=>Gb (hvl7.on hb) Hle.out)) ?_;refine Aak (.inr (mL 29 rfl fun w hb=>Gb (hvy7.on hb) Hyy.out)) ?_;refine Aak (.inr (mL 30 rfl fun w hb=>Gb (hvx7.on hb) Hxx.out)) ?_;refine Aak (.inr (mC 31 rfl Tryz.func101 fun w hb=>C7.out w)) ?_;refine Aak (.inr (mL 32 rfl fun w hb=>Gb (hvz7.on hb) Hzz.out)) ?_;refine Aak (.inr (mL 33 rfl fun w hb=>Gb (hvz7.on hb) Hzz.out)) ?_;refine Aak (.inr (mC 34 rfl Tryz.func101 fun w hb=>C8.out w)) ?_;refine Aak (.inr (mL 35 rfl fun w hb=>Gb (hvl7.on hb) Hle.out)) ?_;refine Aak (.inr (mC 36 rfl Tryz.func59 fun w hb=>C9.out w)) ?_;refine Aak (.inr (mC 37 rfl Tryz.func132 fun w hb=>C10.out w)) ?_;exact Qa
 intro w8 g hb8 hN8 hap8;clear hN8 hap8;have hB8:=Ba (show Below w.heap.size w w7.drew from hB7.drew) hb8;have hvp8:=hvp7.on hb8;have hvr8:=hvr7.on hb8;have hvx8:=hvx7.on hb8;have hvy8:=hvy7.on hb8;have hvz8:=hvz7.on hb8;have hvm8:=hvm7.on hb8;have hvl8:=hvl7.on hb8;clear hB7 hvp7 hvr7 hvx7 hvy7 hvz7 hvm7 hvl7 hb8;refine Bb 13 rfl (by kernel_rfl) ?_;refine Ka rfl 55 (.tmp 2) (.tmp 37) rfl gr 15 (Na 15) (r.map Ga) rfl rfl hvr8 rfl Pb (by rw [Uaj,Hr.out]) (Oa _) ?_;intro w9 hb9 hvr9 hz9;have hB9:Below w.heap.size w w9:=hB8.trans (hb9.below hger hB8.size);have hvp9:=hvp8.but hb9 hnepr;have hvx9:=hvx8.but hb9 (Ne.symm hnerx);have hvy9:=hvy8.but hb9 (Ne.symm hnery);have hvz9:=hvz8.but hb9 (Ne.symm hnerz);have hvm9:=hvm8.but hb9 (Ne.symm hnerm);have hvl9:=hvl8.but hb9 (Ne.symm hnerl);clear hB8 hvr8 hb9 hz9 hvp8 hvx8 hvy8 hvz8 hvm8 hvl8;rename_i K hKK;show Exit.then K _ Exit.normal (⟨(NC p w.heap.size gr gx gy gz gm gl px xx py yy pz zz xy le t2 al z2 dd r).toArray,[]⟩:Act) w9;simp only [Exit.then];refine hKK _ _ ?_;clear hKK K g;simp only [NC,ptr]
 go_wp2
 exact qc Tryz.results131 gr (r.map Ga) rfl hvr9 Tryz.underlying55 rfl Pb (by rw [Uaj,Hr.out]) rfl ⟨rfl,hB9⟩
def BV (p:List Nat) (q:List Nat) (g_base:Nat) (gq:Nat) (gr:Nat) (px:List Nat) (qx:List Nat) (xx:List Nat) (py:List Nat) (qy:List Nat) (yy:List Nat):List Value:=
 (Aa p)::(Aa q)::ptr g_base::ptr gq::ptr gr::ud 7 (ptr g_base::(Aa px)::ptr gq::(Aa qx)::(Aa xx)::(.pointer (some ⟨g_base,5,none⟩))::(Aa py)::(.pointer (some ⟨gq,5,none⟩))::(Aa qy)::(Aa yy)::ud 39 [])
def OC (p:List Nat) (q:List Nat) (g_base:Nat) (gq:Nat) (gr:Nat) (px:List Nat) (qx:List Nat) (xx:List Nat) (py:List Nat) (qy:List Nat) (yy:List Nat) (n5 n6:Nat):List Value:=
 (Aa p)::(Aa q)::ptr g_base::ptr gq::ptr gr::ptr n5::ptr n6::ud 5 (ptr g_base::(Aa px)::ptr gq::(Aa qx)::(Aa xx)::(.pointer (some ⟨g_base,5,none⟩))::(Aa py)::(.pointer (some ⟨gq,5,none⟩))::(Aa qy)::(Aa yy)::ud 39 [])
def OG (p:List Nat) (q:List Nat) (g_base:Nat) (gq:Nat) (gr:Nat) (gx:Nat) (gy:Nat) (px:List Nat) (qx:List Nat) (xx:List Nat) (py:List Nat) (qy:List Nat) (yy:List Nat) (pz:List Nat) (qz:List Nat) (zz:List Nat):List Value:=
 (Aa p)::(Aa q)::ptr g_base::ptr gq::ptr gr::ptr gx::ptr gy::ud 5 (ptr g_base::(Aa px)::ptr gq::(Aa qx)::(Aa xx)::(.pointer (some ⟨g_base,5,none⟩))::(Aa py)::(.pointer (some ⟨gq,5,none⟩))::(Aa qy)::(Aa yy)::(.pointer (some ⟨g_base,10,none⟩))::(Aa pz)::(.pointer (some ⟨gq,10,none⟩))::(Aa qz)::(Aa zz)::ud 34 [])
def Us (p:List Nat) (q:List Nat) (g_base:Nat) (gq:Nat) (gr:Nat) (gx:Nat) (gy:Nat) (px:List Nat) (qx:List Nat) (xx:List Nat) (py:List Nat) (qy:List Nat) (yy:List Nat) (pz:List Nat) (qz:List Nat) (zz:List Nat) (n7:Nat):List Value:=
 (Aa p)::(Aa q)::ptr g_base::ptr gq::ptr gr::ptr gx::ptr gy::ptr n7::ud 4 (ptr g_base::(Aa px)::ptr gq::(Aa qx)::(Aa xx)::(.pointer (some ⟨g_base,5,none⟩))::(Aa py)::(.pointer (some ⟨gq,5,none⟩))::(Aa qy)::(Aa yy)::(.pointer (some ⟨g_base,10,none⟩))::(Aa pz)::(.pointer (some ⟨gq,10,none⟩))::(Aa qz)::(Aa zz)::ud 34 [])
def PG (p:List Nat) (q:List Nat) (g_base:Nat) (gq:Nat) (gr:Nat) (gx:Nat) (gy:Nat) (gz:Nat) (px:List Nat) (qx:List Nat) (xx:List Nat) (py:List Nat) (qy:List Nat) (yy:List Nat) (pz:List Nat) (qz:List Nat) (zz:List Nat) (c1:List Nat) (c2:List Nat) (cr:List Nat):List Value:=
 (Aa p)::(Aa q)::ptr g_base::ptr gq::ptr gr::ptr gx::ptr gy::ptr gz::ud 4 (ptr g_base::(Aa px)::ptr gq::(Aa qx)::(Aa xx)::(.pointer (some ⟨g_base,5,none⟩))::(Aa py)::(.pointer (some ⟨gq,5,none⟩))::(Aa qy)::(Aa yy)::(.pointer (some ⟨g_base,10,none⟩))::(Aa pz)::(.pointer (some ⟨gq,10,none⟩))::(Aa qz)::(Aa zz)::ptr g_base::(Aa px)::(.pointer (some ⟨gq,5,none⟩))::(Aa qy)::(Aa c1)::(.pointer (some ⟨g_base,5,none⟩))::(Aa py)::ptr gq::(Aa qx)::(Aa c2)::(Aa cr)::ud 23 [])
def Vs (p:List Nat) (q:List Nat) (g_base:Nat) (gq:Nat) (gr:Nat) (gx:Nat) (gy:Nat) (gz:Nat) (px:List Nat) (qx:List Nat) (xx:List Nat) (py:List Nat) (qy:List Nat) (yy:List Nat) (pz:List Nat) (qz:List Nat) (zz:List Nat) (c1:List Nat) (c2:List Nat) (cr:List Nat) (n8:Nat):List Value:=
 (Aa p)::(Aa q)::ptr g_base::ptr gq::ptr gr::ptr gx::ptr gy::ptr gz::ptr n8::ud 3 (ptr g_base::(Aa px)::ptr gq::(Aa qx)::(Aa xx)::(.pointer (some ⟨g_base,5,none⟩))::(Aa py)::(.pointer (some ⟨gq,5,none⟩))::(Aa qy)::(Aa yy)::(.pointer (some ⟨g_base,10,none⟩))::(Aa pz)::(.pointer (some ⟨gq,10,none⟩))::(Aa qz)::(Aa zz)::ptr g_base::(Aa px)::(.pointer (some ⟨gq,5,none⟩))::(Aa qy)::(Aa c1)::(.pointer (some ⟨g_base,5,none⟩))::(Aa py)::ptr gq::(Aa qx)::(Aa c2)::(Aa cr)::ud 23 [])
def QG (p:List Nat) (q:List Nat) (g_base:Nat) (gq:Nat) (gr:Nat) (gx:Nat) (gy:Nat) (gz:Nat) (gc:Nat) (gl:Nat) (go:Nat) (px:List Nat) (qx:List Nat) (xx:List Nat) (py:List Nat) (qy:List Nat) (yy:List Nat) (pz:List Nat) (qz:List Nat) (zz:List Nat) (c1:List Nat) (c2:List Nat) (cr:List Nat) (al:List Nat) (ov:List Nat) (cv:List Nat) (dx:List Nat) (be:List Nat):List Value:=
 (Aa p)::(Aa q)::ptr g_base::ptr gq::ptr gr::ptr gx::ptr gy::ptr gz::ptr gc::ptr gl::ptr go::undef::ptr g_base::(Aa px)::ptr gq::(Aa qx)::(Aa xx)::(.pointer (some ⟨g_base,5,none⟩))::(Aa py)::(.pointer (some ⟨gq,5,none⟩))::(Aa qy)::(Aa yy)::(.pointer (some ⟨g_base,10,none⟩))::(Aa pz)::(.pointer (some ⟨gq,10,none⟩))::(Aa qz)::(Aa zz)::ptr g_base::(Aa px)::(.pointer (some ⟨gq,5,none⟩))::(Aa qy)::(Aa c1)::(.pointer (some ⟨g_base,5,none⟩))::(Aa py)::ptr gq::(Aa qx)::(Aa c2)::(Aa cr)::(Aa yy)::(Aa xx)::(Aa al)::(Aa zz)::(Aa ov)::(Aa cv)::(Aa xx)::(Aa dx)::(Aa yy)::(Aa be)::ud 13 []
def Ws (p:List Nat) (q:List Nat) (g_base:Nat) (gq:Nat) (gr:Nat) (gx:Nat) (gy:Nat) (gz:Nat) (gc:Nat) (gl:Nat) (go:Nat) (px:List Nat) (qx:List Nat) (xx:List Nat) (py:List Nat) (qy:List Nat) (yy:List Nat) (pz:List Nat) (qz:List Nat) (zz:List Nat) (c1:List Nat) (c2:List Nat) (cr:List Nat) (al:List Nat) (ov:List Nat) (cv:List Nat) (dx:List Nat) (be:List Nat) (n11:Nat):List Value:=
 (Aa p)::(Aa q)::ptr g_base::ptr gq::ptr gr::ptr gx::ptr gy::ptr gz::ptr gc::ptr gl::ptr go::ptr n11::ptr g_base::(Aa px)::ptr gq::(Aa qx)::(Aa xx)::(.pointer (some ⟨g_base,5,none⟩))::(Aa py)::(.pointer (some ⟨gq,5,none⟩))::(Aa qy)::(Aa yy)::(.pointer (some ⟨g_base,10,none⟩))::(Aa pz)::(.pointer (some ⟨gq,10,none⟩))::(Aa qz)::(Aa zz)::ptr g_base::(Aa px)::(.pointer (some ⟨gq,5,none⟩))::(Aa qy)::(Aa c1)::(.pointer (some ⟨g_base,5,none⟩))::(Aa py)::ptr gq::(Aa qx)::(Aa c2)::(Aa cr)::(Aa yy)::(Aa xx)::(Aa al)::(Aa zz)::(Aa ov)::(Aa cv)::(Aa xx)::(Aa dx)::(Aa yy)::(Aa be)::ud 13 []
def Ow (p:List Nat) (q:List Nat) (g_base:Nat) (gq:Nat) (gr:Nat) (gx:Nat) (gy:Nat) (gz:Nat) (gc:Nat) (gl:Nat) (go:Nat) (gb:Nat) (px:List Nat) (qx:List Nat) (xx:List Nat) (py:List Nat) (qy:List Nat) (yy:List Nat) (pz:List Nat) (qz:List Nat) (zz:List Nat) (c1:List Nat) (c2:List Nat) (cr:List Nat) (al:List Nat) (ov:List Nat) (cv:List Nat) (dx:List Nat) (be:List Nat) (aa:List Nat) (bb:List Nat) (cc:List Nat) (dd:List Nat) (r:List Nat):List Value:=
 (Aa p)::(Aa q)::ptr g_base::ptr gq::ptr gr::ptr gx::ptr gy::ptr gz::ptr gc::ptr gl::ptr go::ptr gb::ptr g_base::(Aa px)::ptr gq::(Aa qx)::(Aa xx)::(.pointer (some ⟨g_base,5,none⟩))::(Aa py)::(.pointer (some ⟨gq,5,none⟩))::(Aa qy)::(Aa yy)::(.pointer (some ⟨g_base,10,none⟩))::(Aa pz)::(.pointer (some ⟨gq,10,none⟩))::(Aa qz)::(Aa zz)::ptr g_base::(Aa px)::(.pointer (some ⟨gq,5,none⟩))::(Aa qy)::(Aa c1)::(.pointer (some ⟨g_base,5,none⟩))::(Aa py)::ptr gq::(Aa qx)::(Aa c2)::(Aa cr)::(Aa yy)::(Aa xx)::(Aa al)::(Aa zz)::(Aa ov)::(Aa cv)::(Aa xx)::(Aa dx)::(Aa yy)::(Aa be)::(Aa cr)::(Aa zz)::(Aa aa)::(Aa ov)::(Aa be)::(Aa bb)::(Aa al)::(Aa zz)::(Aa cc)::(Aa ov)::(Aa be)::(Aa dd)::(Aa r)::[]
theorem BY (p px py pz q qx qy qz xx yy zz c1 c2 cr al ov cv dx be aa bb cc dd r:List Nat) (E:Value) (w:World)
 (Hpx:Hid (px.length=5))
 (Hpy:Hid (py.length=5))
 (Hpz:Hid (pz.length=5))
 (Hqx:Hid (qx.length=5))
 (Hqy:Hid (qy.length=5))
 (Hqz:Hid (qz.length=5))
 (Hxx:Hid (xx.length=5))
 (Hyy:Hid (yy.length=5))
 (Hzz:Hid (zz.length=5))
 (Hcr:Hid (cr.length=5))
 (Hal:Hid (al.length=5))
 (Hov:Hid (ov.length=5))
 (Hbe:Hid (be.length=5))
 (Hr:Hid (r.length=15))
 (Fp:Hid (p=px++py++pz))
 (Fq:Hid (q=qx++qy++qz))
 (C1:Hid (∀W,Calls Tryz.prog 63 #[Aa px,Aa qx] W (gvn (Aa xx) W)))
 (C2:Hid (∀W,Calls Tryz.prog 63 #[Aa py,Aa qy] W (gvn (Aa yy) W)))
 (C3:Hid (∀W,Calls Tryz.prog 63 #[Aa pz,Aa qz] W (gvn (Aa zz) W)))
 (C4:Hid (∀W,Calls Tryz.prog 63 #[Aa px,Aa qy] W (gvn (Aa c1) W)))
 (C5:Hid (∀W,Calls Tryz.prog 63 #[Aa py,Aa qx] W (gvn (Aa c2) W)))
 (C6:Hid (∀W,Calls Tryz.prog 101 #[Aa c1,Aa c2] W (gvn (Aa cr) W)))
 (C7:Hid (∀W,Calls Tryz.prog 101 #[Aa yy,Aa xx] W (gvn (Aa al) W)))
 (C8:Hid (∀W,Calls Tryz.prog 99 #[Aa zz] W (gvn (Aa ov) W)))
 (C10:Hid (∀W,Calls Tryz.prog 63 #[Aa cv,Aa xx] W (gvn (Aa dx) W)))
 (C11:Hid (∀W,Calls Tryz.prog 63 #[Aa dx,Aa yy] W (gvn (Aa be) W)))
 (C12:Hid (∀W,Calls Tryz.prog 63 #[Aa cr,Aa zz] W (gvn (Aa aa) W)))
 (C13:Hid (∀W,Calls Tryz.prog 101 #[Aa ov,Aa be] W (gvn (Aa bb) W)))
 (C14:Hid (∀W,Calls Tryz.prog 63 #[Aa al,Aa zz] W (gvn (Aa cc) W)))
 (C15:Hid (∀W,Calls Tryz.prog 59 #[Aa ov,Aa be] W (gvn (Aa dd) W)))
 (C9:Hid (∀W,Md E W→Calls Tryz.prog 100 #[] W (gvn (Aa cv) W)))
 (C16:Hid (∀W,Calls Tryz.prog 132 #[Aa aa,Aa bb,Aa cc,Aa dd] W (gvn (Aa r) W)))
 (hS:Md E w):
 Calls Tryz.prog 107 #[Aa p,Aa q] w (gvn (Aa r) w):=by
 go_enter Tryz.func107,Tryz.ntmps107;go_wp2_with (first
  |(refine Ra rfl 55 (.tmp 0) rfl (p.map Ga) rfl ?_
    intro w1 hb1 hvp1;have hB1:=hb1;have hgep:w.heap.size≤w.heap.size:=Xaj _;clear hb1;try simp only [La]
    skip)
  |(refine Ra rfl 55 (.tmp 1) rfl (q.map Ga) rfl ?_
    intro w2 hb2 hvq2;have hB2:=Ba hB1 hb2;have hgeq:w.heap.size≤w1.heap.size:=hB1.size;have hvp2:=hvp1.on hb2;have hnepq:=Vaj hvp1.lt;clear hB1 hvp1 hb2;try simp only [La]
    skip)
  |(refine Ma (o:=⟨some 4,_,_,_,_,_⟩) rfl 55 rfl (Na 15) Id ?_
    intro w3 hb3 hvr3;have hB3:=Ba hB2 hb3;have hger:w.heap.size≤w2.heap.size:=hB2.size;have hvp3:=hvp2.on hb3;have hnepr:=Vaj hvp2.lt;have hvq3:=hvq2.on hb3;have hneqr:=Vaj hvq2.lt;clear hB2 hvp2 hvq2 hb3;try simp only [La]
    skip))
 generalize hqq:w1.heap.size=gq at *;clear hqq;generalize hqr:w2.heap.size=gr at *;clear hqr;replace hvp3:=hvp3.drew;replace hvq3:=hvq3.drew;replace hvr3:=hvr3.drew;refine wp_region_any (by kernel_rfl) ?_;refine Qf (L:=[0,1,2,3,4,5,6,7,8,9,10,11,12,13]) (by kernel_rfl) _ _ (BV p q w.heap.size gq gr px qx xx py qy yy) [(10,5),(11,6)] (fun _=>53) (fun _=>(Na 5)) (fun s=>bif s==5 then some (12,xx.map Ga) else bif s==6 then some (13,yy.map Ga) else none) [0,1,2,3,4,7,8,9,10,11,22,23,24,25,26,27,28,29,30,31,32,33,34,35,36,37,38,39,40,41,42,43,44,45,46,47,48,49,50,51,52,53,54,55,56,57,58,59,60] (by kernel_rfl) (by kernel_rfl) ?_ (fun _ _=>Fb) ?_ ?_ ?_ (by rfl) ?_ 0 (by kernel_rfl) ?_
 ·intro p hp;rcases List.mem_cons.1 hp with rfl|hp
  ·exact ⟨⟨_,rfl,rfl,rfl,rfl,by kernel_rfl,by kernel_rfl⟩⟩
  rcases List.mem_cons.1 hp with rfl|hp
  ·exact ⟨⟨_,rfl,rfl,rfl,rfl,by kernel_rfl,by kernel_rfl⟩⟩
  exact absurd hp List.not_mem_nil
 ·intro p hp j l h;rcases List.mem_cons.1 hp with rfl|hp
  ·change some (12,xx.map Ga)=some (j,l) at h;cases h
   exact ⟨⟨_,16,rfl,rfl,rfl,rfl,by kernel_rfl,by kernel_rfl,by kernel_rfl,rfl,by rw [Uaj,Hxx.out];exact Sa,by rw [Uaj,Hxx.out];rfl,Oa _⟩,by decide⟩
  rcases List.mem_cons.1 hp with rfl|hp
  ·change some (13,yy.map Ga)=some (j,l) at h;cases h
   exact ⟨⟨_,21,rfl,rfl,rfl,rfl,by kernel_rfl,by kernel_rfl,by kernel_rfl,rfl,by rw [Uaj,Hyy.out];exact Sa,by rw [Uaj,Hyy.out];rfl,Oa _⟩,by decide⟩
  exact absurd hp List.not_mem_nil
 ·intro p hp q hq j l l2 h1 h2;rcases List.mem_cons.1 hp with rfl|hp
  ·rcases List.mem_cons.1 hq with rfl|hq
   ·rfl
   rcases List.mem_cons.1 hq with rfl|hq
   ·change some (12,_)=some (j,l) at h1;change some (13,_)=some (j,l2) at h2;exact absurd ((Prod.mk.inj (Option.some.inj h1)).1.trans (Prod.mk.inj (Option.some.inj h2)).1.symm) (by decide)
   exact absurd hq List.not_mem_nil
  rcases List.mem_cons.1 hp with rfl|hp
  ·rcases List.mem_cons.1 hq with rfl|hq
   ·change some (13,_)=some (j,l) at h1;change some (12,_)=some (j,l2) at h2;exact absurd ((Prod.mk.inj (Option.some.inj h1)).1.trans (Prod.mk.inj (Option.some.inj h2)).1.symm) (by decide)
   rcases List.mem_cons.1 hq with rfl|hq
   ·rfl
   exact absurd hq List.not_mem_nil
  exact absurd hp List.not_mem_nil
 ·repeat refine Aak rfl ?_
  exact Qa
 ·refine Aak (.inr (.inl (mF 12 rfl (Qi _)))) ?_;refine Aak (.inr (.inl (mL 13 rfl fun w hb=>Vl (hvp3.on hb) Fp.out Hpx.out))) ?_;refine Aak (.inr (.inl (mF 14 rfl (Qi _)))) ?_;refine Aak (.inr (.inl (mL 15 rfl fun w hb=>Vl (hvq3.on hb) Fq.out Hqx.out))) ?_;refine Aak (.inr (.inl (mC 16 rfl Tryz.func63 fun w hb=>C1.out w))) ?_;refine Aak (.inr (.inl (mF 17 rfl (Cl _)))) ?_;refine Aak (.inr (.inl (mL 18 rfl fun w hb=>Zn (hvp3.on hb) Fp.out Hpx.out Hpy.out))) ?_;refine Aak (.inr (.inl (mF 19 rfl (Cl _)))) ?_;refine Aak (.inr (.inl (mL 20 rfl fun w hb=>Zn (hvq3.on hb) Fq.out Hqx.out Hqy.out))) ?_;refine Aak (.inr (.inl (mC 21 rfl Tryz.func63 fun w hb=>C2.out w))) ?_;refine Aak (.inl ⟨(10,5),by simp,rfl⟩) ?_;refine Aak (.inl ⟨(11,6),by simp,rfl⟩) ?_;refine Aak (.inr (.inr ⟨(10,5),by simp,_,rfl⟩)) ?_;refine Aak (.inr (.inr ⟨(11,6),by simp,_,rfl⟩)) ?_;exact Qa
 intro w4 g hb4 hN4 hap4;obtain ⟨hgex,hvx4⟩:=hN4 (10,5) (by simp);obtain ⟨hgey,hvy4⟩:=hN4 (11,6) (by simp);have hnexy:=hap4 (10,5) (by simp) (11,6) (by simp) (by decide);clear hN4 hap4;have hB4:=Ba (show Below w.heap.size w w3.drew from hB3.drew) hb4;have hltp:w.heap.size<w3.heap.size:=hvp3.lt;have hltq:gq<w3.heap.size:=hvq3.lt;have hltr:gr<w3.heap.size:=hvr3.lt;have hvp4:=hvp3.on hb4;have hvq4:=hvq3.on hb4;have hvr4:=hvr3.on hb4;rw [show Oc g [(10,5),(11,6)] (BV p q w.heap.size gq gr px qx xx py qy yy)=OC p q w.heap.size gq gr px qx xx py qy yy (g 5) (g 6) from rfl];replace hgex:w3.heap.size≤g 5:=hgex;replace hvx4:Ia w4 (g 5) (xx.map Ga) 53:=hvx4;replace hgey:w3.heap.size≤g 6:=hgey;replace hvy4:Ia w4 (g 6) (yy.map Ga) 53:=hvy4;replace hnexy:g 5≠g 6:=hnexy;have hnepx:w.heap.size≠g 5:=Vaj (Waj hltp hgex);have hneqx:gq≠g 5:=Vaj (Waj hltq hgex);have hnerx:gr≠g 5:=Vaj (Waj hltr hgex);replace hgex:w.heap.size≤g 5:=Nat.le_trans (show w.heap.size≤w3.heap.size from hB3.size) hgex;have hnepy:w.heap.size≠g 6:=Vaj (Waj hltp hgey);have hneqy:gq≠g 6:=Vaj (Waj hltq hgey);have hnery:gr≠g 6:=Vaj (Waj hltr hgey);replace hgey:w.heap.size≤g 6:=Nat.le_trans (show w.heap.size≤w3.heap.size from hB3.size) hgey;clear hltp hltq hltr;generalize g 5=gx at *;generalize g 6=gy at *;clear hB3 hvp3 hvq3 hvr3 hb4;refine ⟨by kernel_rfl,?_⟩;rename_i K hKK;show Exit.then K _ Exit.normal (⟨(OC p q w.heap.size gq gr px qx xx py qy yy gx gy).toArray,[]⟩:Act) w4;simp only [Exit.then];refine hKK _ _ ?_;clear hKK K g;simp only [OC,ptr,ud]
 go_upto_region 2 with fail
 refine Mb (md:=.any) (by kernel_rfl) ?_;refine Ya (L:=[0,1,2,3,4,5]) (by kernel_rfl) _ _ (OG p q w.heap.size gq gr gx gy px qx xx py qy yy pz qz zz) [(5,7)] 53 (Na 5) [0,1,2,3,4,5,6,8,9,10,11,12,13,14,15,16,17,18,19,20,21,27,28,29,30,31,32,33,34,35,36,37,38,39,40,41,42,43,44,45,46,47,48,49,50,51,52,53,54,55,56,57,58,59,60] (by kernel_rfl) (by kernel_rfl) ?_ Fb ?_ (by rfl) ?_ 1 (by kernel_rfl) ?_
 ·intro p hp;rcases List.mem_cons.1 hp with rfl|hp
  ·exact ⟨⟨_,rfl,rfl,rfl,rfl,by kernel_rfl,by kernel_rfl⟩⟩
  exact absurd hp List.not_mem_nil
 ·repeat refine Aak rfl ?_
  exact Qa
 ·refine Aak (.inr (mF 22 rfl (Yu _))) ?_;refine Aak (.inr (mL 23 rfl fun w hb=>Wz (hvp4.on hb) Fp.out Hpx.out Hpy.out Hpz.out)) ?_;refine Aak (.inr (mF 24 rfl (Yu _))) ?_;refine Aak (.inr (mL 25 rfl fun w hb=>Wz (hvq4.on hb) Fq.out Hqx.out Hqy.out Hqz.out)) ?_;refine Aak (.inr (mC 26 rfl Tryz.func63 fun w hb=>C3.out w)) ?_;refine Aak (.inl ⟨(5,7),by simp,rfl⟩) ?_;exact Qa
 intro w5 g hb5 hN5 hap5;obtain ⟨hgez,hvz5⟩:=hN5 (5,7) (by simp);clear hN5 hap5;have hB5:=Ba hB4 hb5;have hltp:w.heap.size<w4.heap.size:=hvp4.lt;have hltq:gq<w4.heap.size:=hvq4.lt;have hltr:gr<w4.heap.size:=hvr4.lt;have hltx:gx<w4.heap.size:=hvx4.lt;have hlty:gy<w4.heap.size:=hvy4.lt;have hvp5:=hvp4.on hb5;have hvq5:=hvq4.on hb5;have hvr5:=hvr4.on hb5;have hvx5:=hvx4.on hb5;have hvy5:=hvy4.on hb5;rw [show Oc g [(5,7)] (OG p q w.heap.size gq gr gx gy px qx xx py qy yy pz qz zz)=Us p q w.heap.size gq gr gx gy px qx xx py qy yy pz qz zz (g 7) from rfl];replace hgez:w4.heap.size≤g 7:=hgez;replace hvz5:Ia w5 (g 7) (Na 5) 53:=hvz5;have hnepz:w.heap.size≠g 7:=Vaj (Waj hltp hgez);have hneqz:gq≠g 7:=Vaj (Waj hltq hgez);have hnerz:gr≠g 7:=Vaj (Waj hltr hgez);have hnexz:gx≠g 7:=Vaj (Waj hltx hgez);have hneyz:gy≠g 7:=Vaj (Waj hlty hgez);replace hgez:w.heap.size≤g 7:=Nat.le_trans (show w.heap.size≤w4.heap.size from hB4.size) hgez;clear hltp hltq hltr hltx hlty;generalize g 7=gz at *;clear hB4 hvp4 hvq4 hvr4 hvx4 hvy4 hb5;refine Bb 6 rfl (by kernel_rfl) ?_;refine Ka rfl 53 (.tmp 7) (.tmp 26) rfl gz 5 (Na 5) (zz.map Ga) rfl rfl hvz5 rfl Sa (by rw [Uaj,Hzz.out]) (Oa _) ?_;intro w6 hb6 hvz6 hz6;have hB6:Below w.heap.size w w6:=hB5.trans (hb6.below hgez hB5.size);have hvp6:=hvp5.but hb6 hnepz;have hvq6:=hvq5.but hb6 hneqz;have hvr6:=hvr5.but hb6 hnerz;have hvx6:=hvx5.but hb6 hnexz;have hvy6:=hvy5.but hb6 hneyz;clear hB5 hvz5 hb6 hz6 hvp5 hvq5 hvr5 hvx5 hvy5;rename_i K hKK;show Exit.then K _ Exit.normal (⟨(Us p q w.heap.size gq gr gx gy px qx xx py qy yy pz qz zz gz).toArray,[]⟩:Act) w6;simp only [Exit.then];refine hKK _ _ ?_;clear hKK K g;simp only [Us,ptr,ud];go_wp2_with fail
 replace hvp6:=hvp6.drew;replace hvq6:=hvq6.drew;replace hvr6:=hvr6.drew;replace hvx6:=hvx6.drew;replace hvy6:=hvy6.drew;replace hvz6:=hvz6.drew;refine wp_region_any (by kernel_rfl) ?_;refine Ya (L:=[0,1,2,3,4,5,6,7,8,9,10,11]) (by kernel_rfl) _ _ (PG p q w.heap.size gq gr gx gy gz px qx xx py qy yy pz qz zz c1 c2 cr) [(11,8)] 53 (Na 5) [0,1,2,3,4,5,6,7,9,10,11,12,13,14,15,16,17,18,19,20,21,22,23,24,25,26,38,39,40,41,42,43,44,45,46,47,48,49,50,51,52,53,54,55,56,57,58,59,60] (by kernel_rfl) (by kernel_rfl) ?_ Fb ?_ (by rfl) ?_ 1 (by kernel_rfl) ?_
 ·intro p hp;rcases List.mem_cons.1 hp with rfl|hp
  ·exact ⟨⟨_,rfl,rfl,rfl,rfl,by kernel_rfl,by kernel_rfl⟩⟩
  exact absurd hp List.not_mem_nil
 ·repeat refine Aak rfl ?_
  exact Qa
 ·refine Aak (.inr (mF 27 rfl (Qi _))) ?_;refine Aak (.inr (mL 28 rfl fun w hb=>Vl (hvp6.on hb) Fp.out Hpx.out)) ?_;refine Aak (.inr (mF 29 rfl (Cl _))) ?_;refine Aak (.inr (mL 30 rfl fun w hb=>Zn (hvq6.on hb) Fq.out Hqx.out Hqy.out)) ?_;refine Aak (.inr (mC 31 rfl Tryz.func63 fun w hb=>C4.out w)) ?_;refine Aak (.inr (mF 32 rfl (Cl _))) ?_;refine Aak (.inr (mL 33 rfl fun w hb=>Zn (hvp6.on hb) Fp.out Hpx.out Hpy.out)) ?_;refine Aak (.inr (mF 34 rfl (Qi _))) ?_;refine Aak (.inr (mL 35 rfl fun w hb=>Vl (hvq6.on hb) Fq.out Hqx.out)) ?_;refine Aak (.inr (mC 36 rfl Tryz.func63 fun w hb=>C5.out w)) ?_;refine Aak (.inr (mC 37 rfl Tryz.func101 fun w hb=>C6.out w)) ?_;refine Aak (.inl ⟨(11,8),by simp,rfl⟩) ?_;exact Qa
 intro w7 g hb7 hN7 hap7;obtain ⟨hgec,hvc7⟩:=hN7 (11,8) (by simp);clear hN7 hap7;have hB7:=Ba (show Below w.heap.size w w6.drew from hB6.drew) hb7;have hltp:w.heap.size<w6.heap.size:=hvp6.lt;have hltq:gq<w6.heap.size:=hvq6.lt;have hltr:gr<w6.heap.size:=hvr6.lt;have hltx:gx<w6.heap.size:=hvx6.lt;have hlty:gy<w6.heap.size:=hvy6.lt;have hltz:gz<w6.heap.size:=hvz6.lt;have hvp7:=hvp6.on hb7;have hvq7:=hvq6.on hb7;have hvr7:=hvr6.on hb7;have hvx7:=hvx6.on hb7;have hvy7:=hvy6.on hb7;have hvz7:=hvz6.on hb7;rw [show Oc g [(11,8)] (PG p q w.heap.size gq gr gx gy gz px qx xx py qy yy pz qz zz c1 c2 cr)=Vs p q w.heap.size gq gr gx gy gz px qx xx py qy yy pz qz zz c1 c2 cr (g 8) from rfl];replace hgec:w6.heap.size≤g 8:=hgec;replace hvc7:Ia w7 (g 8) (Na 5) 53:=hvc7;have hnepc:w.heap.size≠g 8:=Vaj (Waj hltp hgec);have hneqc:gq≠g 8:=Vaj (Waj hltq hgec);have hnerc:gr≠g 8:=Vaj (Waj hltr hgec);have hnexc:gx≠g 8:=Vaj (Waj hltx hgec);have hneyc:gy≠g 8:=Vaj (Waj hlty hgec);have hnezc:gz≠g 8:=Vaj (Waj hltz hgec);replace hgec:w.heap.size≤g 8:=Nat.le_trans (show w.heap.size≤w6.heap.size from hB6.size) hgec;clear hltp hltq hltr hltx hlty hltz;generalize g 8=gc at *;clear hB6 hvp6 hvq6 hvr6 hvx6 hvy6 hvz6 hb7;refine Bb 12 rfl (by kernel_rfl) ?_;refine Ka rfl 53 (.tmp 8) (.tmp 37) rfl gc 5 (Na 5) (cr.map Ga) rfl rfl hvc7 rfl Sa (by rw [Uaj,Hcr.out]) (Oa _) ?_;intro w8 hb8 hvc8 hz8;have hB8:Below w.heap.size w w8:=hB7.trans (hb8.below hgec hB7.size);have hvp8:=hvp7.but hb8 hnepc;have hvq8:=hvq7.but hb8 hneqc;have hvr8:=hvr7.but hb8 hnerc;have hvx8:=hvx7.but hb8 hnexc;have hvy8:=hvy7.but hb8 hneyc;have hvz8:=hvz7.but hb8 hnezc;clear hB7 hvc7 hb8 hz8 hvp7 hvq7 hvr7 hvx7 hvy7 hvz7;rename_i K hKK;show Exit.then K _ Exit.normal (⟨(Vs p q w.heap.size gq gr gx gy gz px qx xx py qy yy pz qz zz c1 c2 cr gc).toArray,[]⟩:Act) w8;simp only [Exit.then];refine hKK _ _ ?_;clear hKK K g;simp only [Vs,ptr,ud];go_wp2_with (first
  |(refine Pa rfl 53 (.tmp 6) rfl gy 5 (yy.map Ga) rfl hvy8 Tryz.underlying53 rfl Sa (by rw [Uaj,Hyy.out]) ?_
    try simp only [La]
    skip)
  |(refine Pa rfl 53 (.tmp 5) rfl gx 5 (xx.map Ga) rfl hvx8 Tryz.underlying53 rfl Sa (by rw [Uaj,Hxx.out]) ?_
    try simp only [La]
    skip))
 refine (C7.out w8).mono ?_;rintro e w9 ⟨rfl,hb9⟩;have hB9:=Ba hB8 hb9;have hvp9:=hvp8.on hb9;have hvq9:=hvq8.on hb9;have hvr9:=hvr8.on hb9;have hvx9:=hvx8.on hb9;have hvy9:=hvy8.on hb9;have hvz9:=hvz8.on hb9;have hvc9:=hvc8.on hb9;clear hB8 hvp8 hvq8 hvr8 hvx8 hvy8 hvz8 hvc8 hb9;go_wp2_with (first
  |(refine Db rfl rfl 53 (.tmp 9) (.tmp 40) rfl rfl 5 (Na 5) (al.map Ga) rfl rfl Fb rfl Sa (by rw [Uaj,Hal.out]) (Oa _) ?_
    intro w10 hb10 hvl10;have hB10:=Ba hB9 hb10;have hgel:w.heap.size≤w9.heap.size:=hB9.size;have hvp10:=hvp9.on hb10;have hnepl:=Vaj hvp9.lt;have hvq10:=hvq9.on hb10;have hneql:=Vaj hvq9.lt;have hvr10:=hvr9.on hb10;have hnerl:=Vaj hvr9.lt;have hvx10:=hvx9.on hb10;have hnexl:=Vaj hvx9.lt;have hvy10:=hvy9.on hb10;have hneyl:=Vaj hvy9.lt;have hvz10:=hvz9.on hb10;have hnezl:=Vaj hvz9.lt;have hvc10:=hvc9.on hb10;have hnecl:=Vaj hvc9.lt;clear hB9 hvp9 hvq9 hvr9 hvx9 hvy9 hvz9 hvc9 hb10;try simp only [La]
    skip)
  |(refine Pa rfl 53 (.tmp 7) rfl gz 5 (zz.map Ga) rfl hvz10 Tryz.underlying53 rfl Sa (by rw [Uaj,Hzz.out]) ?_
    try simp only [La]
    skip))
 generalize hql:w9.heap.size=gl at *;clear hql;refine (C8.out w10).mono ?_;rintro e w11 ⟨rfl,hb11⟩;have hB11:=Ba hB10 hb11;have hvp11:=hvp10.on hb11;have hvq11:=hvq10.on hb11;have hvr11:=hvr10.on hb11;have hvx11:=hvx10.on hb11;have hvy11:=hvy10.on hb11;have hvz11:=hvz10.on hb11;have hvc11:=hvc10.on hb11;have hvl11:=hvl10.on hb11;clear hB10 hvp10 hvq10 hvr10 hvx10 hvy10 hvz10 hvc10 hvl10 hb11;go_wp2_with (first
  |(refine Db rfl rfl 53 (.tmp 10) (.tmp 42) rfl rfl 5 (Na 5) (ov.map Ga) rfl rfl Fb rfl Sa (by rw [Uaj,Hov.out]) (Oa _) ?_
    intro w12 hb12 hvo12;have hB12:=Ba hB11 hb12;have hgeo:w.heap.size≤w11.heap.size:=hB11.size;have hvp12:=hvp11.on hb12;have hnepo:=Vaj hvp11.lt;have hvq12:=hvq11.on hb12;have hneqo:=Vaj hvq11.lt;have hvr12:=hvr11.on hb12;have hnero:=Vaj hvr11.lt;have hvx12:=hvx11.on hb12;have hnexo:=Vaj hvx11.lt;have hvy12:=hvy11.on hb12;have hneyo:=Vaj hvy11.lt;have hvz12:=hvz11.on hb12;have hnezo:=Vaj hvz11.lt;have hvc12:=hvc11.on hb12;have hneco:=Vaj hvc11.lt;have hvl12:=hvl11.on hb12;have hnelo:=Vaj hvl11.lt;clear hB11 hvp11 hvq11 hvr11 hvx11 hvy11 hvz11 hvc11 hvl11 hb12;try simp only [La]
    skip))
 generalize hqo:w11.heap.size=go at *;clear hqo;replace hvp12:=hvp12.drew;replace hvq12:=hvq12.drew;replace hvr12:=hvr12.drew;replace hvx12:=hvx12.drew;replace hvy12:=hvy12.drew;replace hvz12:=hvz12.drew;replace hvc12:=hvc12.drew;replace hvl12:=hvl12.drew;replace hvo12:=hvo12.drew;have hBq:=(show Below w.heap.size w w12.drew from hB12.drew);refine wp_region_any (by kernel_rfl) ?_;refine Ya (L:=[0,1,2,3,4,5]) (by kernel_rfl) _ _ (QG p q w.heap.size gq gr gx gy gz gc gl go px qx xx py qy yy pz qz zz c1 c2 cr al ov cv dx be) [(5,11)] 53 (Na 5) [0,1,2,3,4,5,6,7,8,9,10,12,13,14,15,16,17,18,19,20,21,22,23,24,25,26,27,28,29,30,31,32,33,34,35,36,37,38,39,40,41,42,48,49,50,51,52,53,54,55,56,57,58,59,60] (by kernel_rfl) (by kernel_rfl) ?_ Fb ?_ (by rfl) ?_ 1 (by kernel_rfl) ?_
 ·intro p hp;rcases List.mem_cons.1 hp with rfl|hp
  ·exact ⟨⟨_,rfl,rfl,rfl,rfl,by kernel_rfl,by kernel_rfl⟩⟩
  exact absurd hp List.not_mem_nil
 ·repeat refine Aak rfl ?_
  exact Qa
 ·refine Aak (.inr (mC 43 rfl Tryz.func100 fun w hb=>C9.out w (hS.below (Ba hBq hb)))) ?_;refine Aak (.inr (mL 44 rfl fun w hb=>Gb (hvx12.on hb) Hxx.out)) ?_;refine Aak (.inr (mC 45 rfl Tryz.func63 fun w hb=>C10.out w)) ?_;refine Aak (.inr (mL 46 rfl fun w hb=>Gb (hvy12.on hb) Hyy.out)) ?_;refine Aak (.inr (mC 47 rfl Tryz.func63 fun w hb=>C11.out w)) ?_;refine Aak (.inl ⟨(5,11),by simp,rfl⟩) ?_;exact Qa
 intro w13 g hb13 hN13 hap13;obtain ⟨hgeb,hvb13⟩:=hN13 (5,11) (by simp);clear hN13 hap13;have hB13:=Ba (show Below w.heap.size w w12.drew from hB12.drew) hb13;have hltp:w.heap.size<w12.heap.size:=hvp12.lt;have hltq:gq<w12.heap.size:=hvq12.lt;have hltr:gr<w12.heap.size:=hvr12.lt;have hltx:gx<w12.heap.size:=hvx12.lt;have hlty:gy<w12.heap.size:=hvy12.lt;have hltz:gz<w12.heap.size:=hvz12.lt;have hltc:gc<w12.heap.size:=hvc12.lt;have hltl:gl<w12.heap.size:=hvl12.lt;have hlto:go<w12.heap.size:=hvo12.lt;have hvp13:=hvp12.on hb13;have hvq13:=hvq12.on hb13;have hvr13:=hvr12.on hb13;have hvx13:=hvx12.on hb13;have hvy13:=hvy12.on hb13;have hvz13:=hvz12.on hb13;have hvc13:=hvc12.on hb13;have hvl13:=hvl12.on hb13;have hvo13:=hvo12.on hb13;rw [show Oc g [(5,11)] (QG p q w.heap.size gq gr gx gy gz gc gl go px qx xx py qy yy pz qz zz c1 c2 cr al ov cv dx be)=Ws p q w.heap.size gq gr gx gy gz gc gl go px qx xx py qy yy pz qz zz c1 c2 cr al ov cv dx be (g 11) from rfl];replace hgeb:w12.heap.size≤g 11:=hgeb;replace hvb13:Ia w13 (g 11) (Na 5) 53:=hvb13;have hnepb:w.heap.size≠g 11:=Vaj (Waj hltp hgeb);have hneqb:gq≠g 11:=Vaj (Waj hltq hgeb);have hnerb:gr≠g 11:=Vaj (Waj hltr hgeb);have hnexb:gx≠g 11:=Vaj (Waj hltx hgeb);have hneyb:gy≠g 11:=Vaj (Waj hlty hgeb);have hnezb:gz≠g 11:=Vaj (Waj hltz hgeb);have hnecb:gc≠g 11:=Vaj (Waj hltc hgeb);have hnelb:gl≠g 11:=Vaj (Waj hltl hgeb);have hneob:go≠g 11:=Vaj (Waj hlto hgeb);replace hgeb:w.heap.size≤g 11:=Nat.le_trans (show w.heap.size≤w12.heap.size from hB12.size) hgeb;clear hltp hltq hltr hltx hlty hltz hltc hltl hlto;generalize g 11=gb at *;clear hB12 hvp12 hvq12 hvr12 hvx12 hvy12 hvz12 hvc12 hvl12 hvo12 hb13 hBq;refine Bb 6 rfl (by kernel_rfl) ?_;refine Ka rfl 53 (.tmp 11) (.tmp 47) rfl gb 5 (Na 5) (be.map Ga) rfl rfl hvb13 rfl Sa (by rw [Uaj,Hbe.out]) (Oa _) ?_;intro w14 hb14 hvb14 hz14;have hB14:Below w.heap.size w w14:=hB13.trans (hb14.below hgeb hB13.size);have hvp14:=hvp13.but hb14 hnepb;have hvq14:=hvq13.but hb14 hneqb;have hvr14:=hvr13.but hb14 hnerb;have hvx14:=hvx13.but hb14 hnexb;have hvy14:=hvy13.but hb14 hneyb;have hvz14:=hvz13.but hb14 hnezb;have hvc14:=hvc13.but hb14 hnecb;have hvl14:=hvl13.but hb14 hnelb;have hvo14:=hvo13.but hb14 hneob;clear hB13 hvb13 hb14 hz14 hvp13 hvq13 hvr13 hvx13 hvy13 hvz13 hvc13 hvl13 hvo13;rename_i K hKK;show Exit.then K _ Exit.normal (⟨(Ws p q w.heap.size gq gr gx gy gz gc gl go px qx xx py qy yy pz qz zz c1 c2 cr al ov cv dx be gb).toArray,[]⟩:Act) w14;simp only [Exit.then];refine hKK _ _ ?_;clear hKK K g;simp only [Ws,ptr,ud];go_wp2_with fail
 replace hvp14:=hvp14.drew;replace hvq14:=hvq14.drew;replace hvr14:=hvr14.drew;replace hvx14:=hvx14.drew;replace hvy14:=hvy14.drew;replace hvz14:=hvz14.drew;replace hvc14:=hvc14.drew;replace hvl14:=hvl14.drew;replace hvo14:=hvo14.drew;replace hvb14:=hvb14.drew;refine wp_region_any (by kernel_rfl) ?_;refine Ya (L:=[0,1,2,3,4,5,6,7,8,9,10,11,12]) (by kernel_rfl) _ _ (Ow p q w.heap.size gq gr gx gy gz gc gl go gb px qx xx py qy yy pz qz zz c1 c2 cr al ov cv dx be aa bb cc dd r) [] 55 (Na 15) [0,1,2,3,4,5,6,7,8,9,10,11,12,13,14,15,16,17,18,19,20,21,22,23,24,25,26,27,28,29,30,31,32,33,34,35,36,37,38,39,40,41,42,43,44,45,46,47] (by kernel_rfl) (by kernel_rfl) ?_ Id ?_ (by rfl) ?_ 1 (by kernel_rfl) ?_
 ·intro p hp;exact absurd hp List.not_mem_nil
 ·repeat refine Aak rfl ?_
  exact Qa
 ·refine Aak (.inr (mL 48 rfl fun w hb=>Gb (hvc14.on hb) Hcr.out)) ?_;refine Aak (.inr (mL 49 rfl fun w hb=>Gb (hvz14.on hb) Hzz.out)) ?_;refine Aak (.inr (mC 50 rfl Tryz.func63 fun w hb=>C12.out w)) ?_;refine Aak (.inr (mL 51 rfl fun w hb=>Gb (hvo14.on hb) Hov.out)) ?_;refine Aak (.inr (mL 52 rfl fun w hb=>Gb (hvb14.on hb) Hbe.out)) ?_;refine Aak (.inr (mC 53 rfl Tryz.func101 fun w hb=>C13.out w)) ?_;refine Aak (.inr (mL 54 rfl fun w hb=>Gb (hvl14.on hb) Hal.out)) ?_;refine Aak (.inr (mL 55 rfl fun w hb=>Gb (hvz14.on hb) Hzz.out)) ?_;refine Aak (.inr (mC 56 rfl Tryz.func63 fun w hb=>C14.out w)) ?_;refine Aak (.inr (mL 57 rfl fun w hb=>Gb (hvo14.on hb) Hov.out)) ?_;refine Aak (.inr (mL 58 rfl fun w hb=>Gb (hvb14.on hb) Hbe.out)) ?_;refine Aak (.inr (mC 59 rfl Tryz.func59 fun w hb=>C15.out w)) ?_;refine Aak (.inr (mC 60 rfl Tryz.func132 fun w hb=>C16.out w)) ?_;exact Qa
 intro w15 g hb15 hN15 hap15;clear hN15 hap15;have hB15:=Ba (show Below w.heap.size w w14.drew from hB14.drew) hb15;have hvp15:=hvp14.on hb15;have hvq15:=hvq14.on hb15;have hvr15:=hvr14.on hb15;have hvx15:=hvx14.on hb15;have hvy15:=hvy14.on hb15;have hvz15:=hvz14.on hb15;have hvc15:=hvc14.on hb15;have hvl15:=hvl14.on hb15;have hvo15:=hvo14.on hb15;have hvb15:=hvb14.on hb15;clear hB14 hvp14 hvq14 hvr14 hvx14 hvy14 hvz14 hvc14 hvl14 hvo14 hvb14 hb15;refine Bb 13 rfl (by kernel_rfl) ?_;refine Ka rfl 55 (.tmp 4) (.tmp 60) rfl gr 15 (Na 15) (r.map Ga) rfl rfl hvr15 rfl Pb (by rw [Uaj,Hr.out]) (Oa _) ?_;intro w16 hb16 hvr16 hz16;have hB16:Below w.heap.size w w16:=hB15.trans (hb16.below hger hB15.size);have hvp16:=hvp15.but hb16 hnepr;have hvq16:=hvq15.but hb16 hneqr;have hvx16:=hvx15.but hb16 (Ne.symm hnerx);have hvy16:=hvy15.but hb16 (Ne.symm hnery);have hvz16:=hvz15.but hb16 (Ne.symm hnerz);have hvc16:=hvc15.but hb16 (Ne.symm hnerc);have hvl16:=hvl15.but hb16 (Ne.symm hnerl);have hvo16:=hvo15.but hb16 (Ne.symm hnero);have hvb16:=hvb15.but hb16 (Ne.symm hnerb);clear hB15 hvr15 hb16 hz16 hvp15 hvq15 hvx15 hvy15 hvz15 hvc15 hvl15 hvo15 hvb15;rename_i K hKK;show Exit.then K _ Exit.normal (⟨(Ow p q w.heap.size gq gr gx gy gz gc gl go gb px qx xx py qy yy pz qz zz c1 c2 cr al ov cv dx be aa bb cc dd r).toArray,[]⟩:Act) w16;simp only [Exit.then];refine hKK _ _ ?_;clear hKK K g;simp only [Ow,ptr]
 go_wp2
 exact qc Tryz.results107 gr (r.map Ga) rfl hvr16 Tryz.underlying55 rfl Pb (by rw [Uaj,Hr.out]) rfl ⟨rfl,hB16⟩
end Go.Proofs.YtoggkhjaghkpnaaGreatDoor
namespace Go.Proofs.YtoggkhjaghkpnaaGreatDoor
open Go.RowKit
def JJ (p:List Nat) (g_base:Nat) (gr:Nat) (z:List Nat) (px:List Nat) (nx:List Nat):List Value:=
 (Aa p)::ptr g_base::ptr gr::(Aa z)::ptr g_base::(Aa px)::(Aa nx)::ptr g_base::undef::[]
theorem DY (p px py pz z nx n:List Nat) (w:World)
 (Hpx:Hid (px.length=5))
 (Hnx:Hid (nx.length=5))
 (Hp:Hid (p.length=15))
 (Hn:Hid (n.length=15))
 (Fp:Hid (p=px++py++pz))
 (HN:Hid (Ub (p.map Ga) 0 (nx.map Ga)=n.map Ga))
 (BZ:∀w,(Instr.build 53 #[]).run Tryz.prog w=.ok (Aa z) w)
 (CS:Hid (∀W,Calls Tryz.prog 59 #[Aa z,Aa px] W (gvn (Aa nx) W))):
 Calls Tryz.prog 27 #[Aa p] w (gvn (Aa n) w):=by
 go_enter Tryz.func27,Tryz.ntmps27
 go_upto_region 1 with (first
  |(refine Ra rfl 55 (.tmp 0) rfl (p.map Ga) rfl ?_
    intro w1 hb1 hvp1;have hB1:=hb1;have hgep:w.heap.size≤w.heap.size:=Xaj _;clear hb1;try simp only [La]
    skip)
  |(refine Ma (o:=⟨some 2,_,_,_,_,_⟩) rfl 55 rfl (Na 15) Id ?_
    intro w2 hb2 hvr2;have hB2:=Ba hB1 hb2;have hger:w.heap.size≤w1.heap.size:=hB1.size;have hvp2:=hvp1.on hb2;have hnepr:=Vaj hvp1.lt;clear hB1 hvp1 hb2;try simp only [La]
    skip))
 generalize hqr:w1.heap.size=gr at *;clear hqr;refine Mb (md:=.any) (by kernel_rfl) ?_;refine Ya (L:=[0,1,2,3,4]) (by kernel_rfl) _ _ (JJ p w.heap.size gr z px nx) [] 55 (Na 15) [0,1,2,8] (by kernel_rfl) (by kernel_rfl) ?_ Id ?_ (by rfl) ?_ 1 (by kernel_rfl) ?_
 ·intro p hp;exact absurd hp List.not_mem_nil
 ·repeat refine Aak rfl ?_
  exact Qa
 ·refine Aak (.inr (mU 3 rfl BZ)) ?_;refine Aak (.inr (mF 4 rfl (Qi _))) ?_;refine Aak (.inr (mL 5 rfl fun w hb=>Vl (hvp2.on hb) Fp.out Hpx.out)) ?_;refine Aak (.inr (mC 6 rfl Tryz.func59 fun w hb=>CS.out w)) ?_;refine Aak (.inr (mF 7 rfl (Qi _))) ?_;exact Qa
 intro w3 g hb3 hN3 hap3;clear hN3 hap3;have hB3:=Ba hB2 hb3;have hvp3:=hvp2.on hb3;have hvr3:=hvr2.on hb3;clear hB2 hvp2 hvr2 hb3;refine Bb 5 rfl (by kernel_rfl) ?_;refine Iw rfl 53 (.tmp 7) (.tmp 6) rfl (w.heap.size) (0) 5 (p.map Ga) (nx.map Ga) (n.map Ga) rfl rfl hvp3 (by rw [Uaj,Hp.out];decide) Sa (by rw [Uaj,Hnx.out]) (Oa _) HN.out ?_;intro w4 hb4 hvp4 hz4;have hB4:Below w.heap.size w w4:=hB3.trans (hb4.below hgep hB3.size);have hvr4:=hvr3.but hb4 (Ne.symm hnepr);clear hB3 hvp3 hb4 hz4 hvr3;rename_i K hKK;show Exit.then K _ Exit.normal (⟨(JJ p w.heap.size gr z px nx).toArray,[]⟩:Act) w4;simp only [Exit.then];refine hKK _ _ ?_;clear hKK K g;simp only [JJ,ptr];go_wp2_with (first
  |(refine Pa rfl 55 (.tmp 1) rfl w.heap.size 15 (n.map Ga) rfl hvp4 Tryz.underlying55 rfl Pb (by rw [Uaj,Hn.out]) ?_
    try simp only [La]
    skip)
  |(refine Ka rfl 55 (.tmp 2) (.tmp 8) rfl gr 15 (Na 15) (n.map Ga) rfl rfl hvr4 rfl Pb (by rw [Uaj,Hn.out]) (Oa _) ?_
    intro w5 hb5 hvr5 hz5;have hB5:Below w.heap.size w w5:=hB4.trans (hb5.below hger hB4.size);have hvp5:=hvp4.but hb5 hnepr;clear hB4 hvr4 hb5 hz5 hvp4;skip))
 exact qc Tryz.results27 gr (n.map Ga) rfl hvr5 Tryz.underlying55 rfl Pb (by rw [Uaj,Hn.out]) rfl ⟨rfl,hB5⟩
def RG (p:List Nat) (g_base:Nat) (gr:Nat) (pz:List Nat) (iv:List Nat):List Value:=
 (Aa p)::ptr g_base::ptr gr::undef::undef::(.pointer (some ⟨g_base,10,none⟩))::(Aa pz)::(Aa iv)::ud 15 []
def Xs (p:List Nat) (g_base:Nat) (gr:Nat) (pz:List Nat) (iv:List Nat) (n3:Nat):List Value:=
 (Aa p)::ptr g_base::ptr gr::ptr n3::undef::(.pointer (some ⟨g_base,10,none⟩))::(Aa pz)::(Aa iv)::ud 15 []
def Ly (p:List Nat) (g_base:Nat) (gr:Nat) (gv:Nat) (pz:List Nat) (iv:List Nat) (py:List Nat) (yy:List Nat) (kb:List UInt8):List Value:=
 (Aa p)::ptr g_base::ptr gr::ptr gv::undef::(.pointer (some ⟨g_base,10,none⟩))::(Aa pz)::(Aa iv)::(.pointer (some ⟨g_base,5,none⟩))::(Aa py)::(Aa iv)::(Aa yy)::(Ca kb)::ud 10 []
def yn (p:List Nat) (g_base:Nat) (gr:Nat) (gv:Nat) (pz:List Nat) (iv:List Nat) (py:List Nat) (yy:List Nat) (kb:List UInt8) (n4:Nat):List Value:=
 (Aa p)::ptr g_base::ptr gr::ptr gv::ptr n4::(.pointer (some ⟨g_base,10,none⟩))::(Aa pz)::(Aa iv)::(.pointer (some ⟨g_base,5,none⟩))::(Aa py)::(Aa iv)::(Aa yy)::(Ca kb)::ud 10 []
def Wp (p:List Nat) (g_base:Nat) (gr:Nat) (gv:Nat) (go:Nat) (pz:List Nat) (iv:List Nat) (py:List Nat) (yy:List Nat) (kb:List UInt8) (px:List Nat) (xx:List Nat) (c:Bool):List Value:=
 (Aa p)::ptr g_base::ptr gr::ptr gv::ptr go::(.pointer (some ⟨g_base,10,none⟩))::(Aa pz)::(Aa iv)::(.pointer (some ⟨g_base,5,none⟩))::(Aa py)::(Aa iv)::(Aa yy)::(Ca kb)::ptr g_base::(Aa px)::(Aa iv)::(Aa xx)::(.bool c)::ud 5 []
theorem JN (p px py pz iv yy xx:List Nat) (kb kc:List UInt8) (q v:UInt8) (c:Bool) (w:World)
 (Hpx:Hid (px.length=5))
 (Hpy:Hid (py.length=5))
 (Hpz:Hid (pz.length=5))
 (Hiv:Hid (iv.length=5))
 (Hkb:Hid (kb.length=32))
 (Hkc:Hid (kc.length=32))
 (Fp:Hid (p=px++py++pz))
 (D1:Hid ((kb.map Fa)[31]? =some (Fa q)))
 (HV:Hid (bits .or .u8 (q.toNat:Int) 128=(v.toNat:Int)))
 (HC:Hid (kc=kb.set 31 v))
 (CI:Hid (∀W,Calls Tryz.prog 62 #[Aa pz] W (gvn (Aa iv) W)))
 (CX:Hid (∀W,Calls Tryz.prog 63 #[Aa px,Aa iv] W (gvn (Aa xx) W)))
 (CY:Hid (∀W,Calls Tryz.prog 63 #[Aa py,Aa iv] W (gvn (Aa yy) W)))
 (CB:Hid (∀W,Calls Tryz.prog 64 #[Aa yy] W (gvn (Ca kb) W)))
 (CO:Hid (∀W,Calls Tryz.prog 65 #[Aa xx] W (gvn (.bool c) W))):
 Calls Tryz.prog 29 #[Aa p] w (gvn (Ca (bif c then kc else kb)) w):=by
 go_enter Tryz.func29,Tryz.ntmps29
 go_upto_region 1 with (first
  |(refine Ra rfl 55 (.tmp 0) rfl (p.map Ga) rfl ?_
    intro w1 hb1 hvp1;have hB1:=hb1;have hgep:w.heap.size≤w.heap.size:=Xaj _;clear hb1;try simp only [La]
    skip)
  |(refine Ma (o:=⟨some 2,_,_,_,_,_⟩) rfl 23 rfl Xa Zb ?_
    intro w2 hb2 hvr2;have hB2:=Ba hB1 hb2;have hger:w.heap.size≤w1.heap.size:=hB1.size;have hvp2:=hvp1.on hb2;have hnepr:=Vaj hvp1.lt;clear hB1 hvp1 hb2;try simp only [La]
    skip))
 generalize hqr:w1.heap.size=gr at *;clear hqr;refine Mb (md:=.any) (by kernel_rfl) ?_;refine Ya (L:=[0,1,2,3]) (by kernel_rfl) _ _ (RG p w.heap.size gr pz iv) [(3,3)] 53 (Na 5) [0,1,2,4,8,9,10,11,12,13,14,15,16,17,18,19,20,21,22] (by kernel_rfl) (by kernel_rfl) ?_ Fb ?_ (by rfl) ?_ 1 (by kernel_rfl) ?_
 ·intro p hp;rcases List.mem_cons.1 hp with rfl|hp
  ·exact ⟨⟨_,rfl,rfl,rfl,rfl,by kernel_rfl,by kernel_rfl⟩⟩
  exact absurd hp List.not_mem_nil
 ·repeat refine Aak rfl ?_
  exact Qa
 ·refine Aak (.inr (mF 5 rfl (Yu _))) ?_;refine Aak (.inr (mL 6 rfl fun w hb=>Wz (hvp2.on hb) Fp.out Hpx.out Hpy.out Hpz.out)) ?_;refine Aak (.inr (mC 7 rfl Tryz.func62 fun w hb=>CI.out w)) ?_;refine Aak (.inl ⟨(3,3),by simp,rfl⟩) ?_;exact Qa
 intro w3 g hb3 hN3 hap3;obtain ⟨hgev,hvv3⟩:=hN3 (3,3) (by simp);clear hN3 hap3;have hB3:=Ba hB2 hb3;have hltp:w.heap.size<w2.heap.size:=hvp2.lt;have hltr:gr<w2.heap.size:=hvr2.lt;have hvp3:=hvp2.on hb3;have hvr3:=hvr2.on hb3;rw [show Oc g [(3,3)] (RG p w.heap.size gr pz iv)=Xs p w.heap.size gr pz iv (g 3) from rfl];replace hgev:w2.heap.size≤g 3:=hgev;replace hvv3:Ia w3 (g 3) (Na 5) 53:=hvv3;have hnepv:w.heap.size≠g 3:=Vaj (Waj hltp hgev);have hnerv:gr≠g 3:=Vaj (Waj hltr hgev);replace hgev:w.heap.size≤g 3:=Nat.le_trans (show w.heap.size≤w2.heap.size from hB2.size) hgev;clear hltp hltr;generalize g 3=gv at *;clear hB2 hvp2 hvr2 hb3;refine Bb 4 rfl (by kernel_rfl) ?_;refine Ka rfl 53 (.tmp 3) (.tmp 7) rfl gv 5 (Na 5) (iv.map Ga) rfl rfl hvv3 rfl Sa (by rw [Uaj,Hiv.out]) (Oa _) ?_;intro w4 hb4 hvv4 hz4;have hB4:Below w.heap.size w w4:=hB3.trans (hb4.below hgev hB3.size);have hvp4:=hvp3.but hb4 hnepv;have hvr4:=hvr3.but hb4 hnerv;clear hB3 hvv3 hb4 hz4 hvp3 hvr3;rename_i K hKK;show Exit.then K _ Exit.normal (⟨(Xs p w.heap.size gr pz iv gv).toArray,[]⟩:Act) w4;simp only [Exit.then];refine hKK _ _ ?_;clear hKK K g;simp only [Xs,ptr,ud]
 go_upto_region 2 with fail
 refine Mb (md:=.any) (by kernel_rfl) ?_;refine Ya (L:=[0,1,2,3,4,5]) (by kernel_rfl) _ _ (Ly p w.heap.size gr gv pz iv py yy kb) [(5,4)] 23 Xa [0,1,2,3,5,6,7,13,14,15,16,17,18,19,20,21,22] (by kernel_rfl) (by kernel_rfl) ?_ Zb ?_ (by rfl) ?_ 1 (by kernel_rfl) ?_
 ·intro p hp;rcases List.mem_cons.1 hp with rfl|hp
  ·exact ⟨⟨_,rfl,rfl,rfl,rfl,by kernel_rfl,by kernel_rfl⟩⟩
  exact absurd hp List.not_mem_nil
 ·repeat refine Aak rfl ?_
  exact Qa
 ·refine Aak (.inr (mF 8 rfl (Cl _))) ?_;refine Aak (.inr (mL 9 rfl fun w hb=>Zn (hvp4.on hb) Fp.out Hpx.out Hpy.out)) ?_;refine Aak (.inr (mL 10 rfl fun w hb=>Gb (hvv4.on hb) Hiv.out)) ?_;refine Aak (.inr (mC 11 rfl Tryz.func63 fun w hb=>CY.out w)) ?_;refine Aak (.inr (mC 12 rfl Tryz.func64 fun w hb=>CB.out w)) ?_;refine Aak (.inl ⟨(5,4),by simp,rfl⟩) ?_;exact Qa
 intro w5 g hb5 hN5 hap5;obtain ⟨hgeo,hvo5⟩:=hN5 (5,4) (by simp);clear hN5 hap5;have hB5:=Ba hB4 hb5;have hltp:w.heap.size<w4.heap.size:=hvp4.lt;have hltr:gr<w4.heap.size:=hvr4.lt;have hltv:gv<w4.heap.size:=hvv4.lt;have hvp5:=hvp4.on hb5;have hvr5:=hvr4.on hb5;have hvv5:=hvv4.on hb5;rw [show Oc g [(5,4)] (Ly p w.heap.size gr gv pz iv py yy kb)=yn p w.heap.size gr gv pz iv py yy kb (g 4) from rfl];replace hgeo:w4.heap.size≤g 4:=hgeo;replace hvo5:Ia w5 (g 4) Xa 23:=hvo5;have hnepo:w.heap.size≠g 4:=Vaj (Waj hltp hgeo);have hnero:gr≠g 4:=Vaj (Waj hltr hgeo);have hnevo:gv≠g 4:=Vaj (Waj hltv hgeo);replace hgeo:w.heap.size≤g 4:=Nat.le_trans (show w.heap.size≤w4.heap.size from hB4.size) hgeo;clear hltp hltr hltv;generalize g 4=go at *;clear hB4 hvp4 hvr4 hvv4 hb5;refine Bb 6 rfl (by kernel_rfl) ?_;refine Ka rfl 23 (.tmp 4) (.tmp 12) rfl go 32 Xa (kb.map Fa) rfl rfl hvo5 rfl za (by rw [Uaj,Hkb.out]) (Ab _) ?_;intro w6 hb6 hvo6 hz6;have hB6:Below w.heap.size w w6:=hB5.trans (hb6.below hgeo hB5.size);have hvp6:=hvp5.but hb6 hnepo;have hvr6:=hvr5.but hb6 hnero;have hvv6:=hvv5.but hb6 hnevo;clear hB5 hvo5 hb6 hz6 hvp5 hvr5 hvv5;rename_i K hKK;show Exit.then K _ Exit.normal (⟨(yn p w.heap.size gr gv pz iv py yy kb go).toArray,[]⟩:Act) w6;simp only [Exit.then];refine hKK _ _ ?_;clear hKK K g;simp only [yn,ptr,ud]
 go_upto_region 3 with fail
 refine Mb (md:=.any) (by kernel_rfl) ?_;refine Ya (L:=[0,1,2,3,4]) (by kernel_rfl) _ _ (Wp p w.heap.size gr gv go pz iv py yy kb px xx c) [] 55 (Na 15) [0,1,2,3,4,5,6,7,8,9,10,11,12,18,19,20,21,22] (by kernel_rfl) (by kernel_rfl) ?_ Id ?_ (by rfl) ?_ 0 (by kernel_rfl) ?_
 ·intro p hp;exact absurd hp List.not_mem_nil
 ·repeat refine Aak rfl ?_
  exact Qa
 ·refine Aak (.inr (mF 13 rfl (Qi _))) ?_;refine Aak (.inr (mL 14 rfl fun w hb=>Vl (hvp6.on hb) Fp.out Hpx.out)) ?_;refine Aak (.inr (mL 15 rfl fun w hb=>Gb (hvv6.on hb) Hiv.out)) ?_;refine Aak (.inr (mC 16 rfl Tryz.func63 fun w hb=>CX.out w)) ?_;refine Aak (.inr (mC 17 rfl Tryz.func65 fun w hb=>CO.out w)) ?_;exact Qa
 intro w7 g hb7 hN7 hap7;clear hN7 hap7;have hB7:=Ba hB6 hb7;have hvp7:=hvp6.on hb7;have hvr7:=hvr6.on hb7;have hvv7:=hvv6.on hb7;have hvo7:=hvo6.on hb7;clear hB6 hvp6 hvr6 hvv6 hvo6 hb7;refine ⟨by kernel_rfl,?_⟩;rename_i K hKK;show Exit.then K _ Exit.normal (⟨(Wp p w.heap.size gr gv go pz iv py yy kb px xx c).toArray,[]⟩:Act) w7;simp only [Exit.then];refine hKK _ _ ?_;clear hKK K g;simp only [Wp,ptr,ud];cases c
 ·go_wp2_with (first
   |(refine Tc rfl 23 (.tmp 4) rfl go 32 kb 5 rfl hvo7 Tryz.underlying23 za Hkb.out ?_
     try simp only [La]
     skip)
   |(refine Ka rfl 23 (.tmp 2) (.tmp 22) rfl gr 32 Xa (kb.map Fa) rfl rfl hvr7 rfl za (by rw [Uaj,Hkb.out]) (Ab _) ?_
     intro w8 hb8 hvr8 hz8;have hB8:Below w.heap.size w w8:=hB7.trans (hb8.below hger hB7.size);have hvp8:=hvp7.but hb8 hnepr;have hvv8:=hvv7.but hb8 (Ne.symm hnerv);have hvo8:=hvo7.but hb8 (Ne.symm hnero);clear hB7 hvr7 hb8 hz8 hvp7 hvv7 hvo7;skip))
  exact qc Tryz.results29 gr (kb.map Fa) rfl hvr8 Tryz.underlying23 rfl za (by rw [Uaj,Hkb.out]) rfl ⟨rfl,hB8⟩
 ·go_upto_region 4 with fail
  have dq:=hvo7.get D1.out;have hT:=hvo7.there 31 1 (by rw [Uaj,Hkb.out];decide);have hE:=Lib.hid (hvo7.set 31 (Fa v));have hq:=HV.out
  go_upto_region 5 with (first
   |(refine Qb rfl 5 _ _ rfl go 31 .u8 (v.toNat:Int) rfl rfl Qc hT ?_
     intro w9 hw9;have hB9:Below w.heap.size w w9:=by rw [hw9];exact hB7.setCell (p:=⟨go,31,none⟩) hgeo _
     have hvo9:Ia w9 go (kc.map Fa) 23:=by rw [hw9,HC.out,List.map_set];exact hE.out
     have hvr9:Ia w9 gr Xa 23:=by rw [hw9];exact hvr7.other hnero _
     clear hw9 hT hE dq hB7 hvp7 hvr7 hvv7 hvo7;skip))
  go_wp2_with (first
   |(refine Tc rfl 23 (.tmp 4) rfl go 32 kc 5 rfl hvo9 Tryz.underlying23 za Hkc.out ?_
     try simp only [La]
     skip)
   |(refine Ka rfl 23 (.tmp 2) (.tmp 22) rfl gr 32 Xa (kc.map Fa) rfl rfl hvr9 rfl za (by rw [Uaj,Hkc.out]) (Ab _) ?_
     intro w10 hb10 hvr10 hz10;have hB10:Below w.heap.size w w10:=hB9.trans (hb10.below hger hB9.size);have hvo10:=hvo9.but hb10 (Ne.symm hnero);clear hB9 hvr9 hb10 hz10 hvo9;skip))
  exact qc Tryz.results29 gr (kc.map Fa) rfl hvr10 Tryz.underlying23 rfl za (by rw [Uaj,Hkc.out]) rfl ⟨rfl,hB10⟩
end Go.Proofs.YtoggkhjaghkpnaaGreatDoor
