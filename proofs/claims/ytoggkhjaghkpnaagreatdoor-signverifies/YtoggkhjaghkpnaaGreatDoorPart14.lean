/- Part 14 of what the laws of this seat share: GRoot, GRooted, UTabs, USmall. -/
import Derived.Deep.Cut
import Derived.Test.YtoggkhjaghkpnaaGreatDoorPart13
set_option maxRecDepth 100000
set_option maxHeartbeats 8000000
namespace Go.Proofs.YtoggkhjaghkpnaaGreatDoor
open Go.RowKit
def DS (aa:List Nat) (g_base:Nat) (gz:Nat) (go:Nat) (zz:List Nat) (one:List Nat) (p:List Nat) (m1:List Nat) (h1:List Nat) (pw:List Nat) (n1:Bool):List Value:=
 (Da aa)::ptr g_base::ptr gz::(.bool false)::ptr go::undef::undef::(Da aa)::(Da aa)::(Da aa)::(Da zz)::(.bool false)::undef::(Da one)::(Da aa)::(Da p)::(Da one)::(Da m1)::(Da h1)::(Da pw)::(Da one)::(.bool n1)::ud 34 []
def qM (aa:List Nat) (g_base:Nat) (gz:Nat) (go:Nat) (ge:Nat) (zz:List Nat) (one:List Nat) (p:List Nat) (m1:List Nat) (h1:List Nat) (pw:List Nat) (five:List Nat) (m5:List Nat) (e1:List Nat) (e2:List Nat) (e3:List Nat) (q:List Nat) (r0:List Nat):List Value:=
 (Da aa)::ptr g_base::ptr gz::(.bool false)::ptr go::ptr ge::undef::(Da aa)::(Da aa)::(Da aa)::(Da zz)::(.bool false)::undef::(Da one)::(Da aa)::(Da p)::(Da one)::(Da m1)::(Da h1)::(Da pw)::(Da one)::(.bool false)::undef::(Da p)::(Da five)::(Da m5)::(Da e1)::(Da e2)::(Da e3)::(Da aa)::(Da e3)::(Da q)::(Da aa)::(Da r0)::ud 22 []
def Jw (aa:List Nat) (g_base:Nat) (gz:Nat) (go:Nat) (ge:Nat) (zz:List Nat) (one:List Nat) (p:List Nat) (m1:List Nat) (h1:List Nat) (pw:List Nat) (five:List Nat) (m5:List Nat) (e1:List Nat) (e2:List Nat) (e3:List Nat) (q:List Nat) (r0:List Nat) (n6:Nat):List Value:=
 (Da aa)::ptr g_base::ptr gz::(.bool false)::ptr go::ptr ge::ptr n6::(Da aa)::(Da aa)::(Da aa)::(Da zz)::(.bool false)::undef::(Da one)::(Da aa)::(Da p)::(Da one)::(Da m1)::(Da h1)::(Da pw)::(Da one)::(.bool false)::undef::(Da p)::(Da five)::(Da m5)::(Da e1)::(Da e2)::(Da e3)::(Da aa)::(Da e3)::(Da q)::(Da aa)::(Da r0)::ud 22 []
def IC (aa:List Nat) (g_base:Nat) (gz:Nat) (go:Nat) (ge:Nat) (gr:Nat) (zz:List Nat) (one:List Nat) (p:List Nat) (m1:List Nat) (h1:List Nat) (pw:List Nat) (five:List Nat) (m5:List Nat) (e1:List Nat) (e2:List Nat) (e3:List Nat) (q:List Nat) (r0:List Nat) (s:List Nat) (n2:Bool):List Value:=
 (Da aa)::ptr g_base::ptr gz::(.bool false)::ptr go::ptr ge::ptr gr::(Da aa)::(Da aa)::(Da aa)::(Da zz)::(.bool false)::undef::(Da one)::(Da aa)::(Da p)::(Da one)::(Da m1)::(Da h1)::(Da pw)::(Da one)::(.bool false)::undef::(Da p)::(Da five)::(Da m5)::(Da e1)::(Da e2)::(Da e3)::(Da aa)::(Da e3)::(Da q)::(Da aa)::(Da r0)::(Da r0)::(Da r0)::(Da s)::(Da aa)::(.bool n2)::ud 17 []
def Kw (aa:List Nat) (g_base:Nat) (gz:Nat) (go:Nat) (ge:Nat) (gr:Nat) (zz:List Nat) (one:List Nat) (p:List Nat) (m1:List Nat) (h1:List Nat) (pw:List Nat) (five:List Nat) (m5:List Nat) (e1:List Nat) (e2:List Nat) (e3:List Nat) (q:List Nat) (r0:List Nat) (s:List Nat) (x0:Nat) (ng0:List Nat):List Value:=
 (Da aa)::ptr g_base::ptr gz::(.bool false)::ptr go::ptr ge::ptr gr::(Da aa)::(Da aa)::(Da aa)::(Da zz)::(.bool false)::undef::(Da one)::(Da aa)::(Da p)::(Da one)::(Da m1)::(Da h1)::(Da pw)::(Da one)::(.bool false)::undef::(Da p)::(Da five)::(Da m5)::(Da e1)::(Da e2)::(Da e3)::(Da aa)::(Da e3)::(Da q)::(Da aa)::(Da r0)::(Da r0)::(Da r0)::(Da s)::(Da aa)::(.bool false)::ud 9 (ptr gr::(Ja x0)::(Ja 1)::(.bool true)::(Da p)::(Da r0)::(Da ng0)::undef::[])
def Lw (aa:List Nat) (g_base:Nat) (gz:Nat) (go:Nat) (ge:Nat) (gr:Nat) (zz:List Nat) (one:List Nat) (p:List Nat) (m1:List Nat) (h1:List Nat) (pw:List Nat) (five:List Nat) (m5:List Nat) (e1:List Nat) (e2:List Nat) (e3:List Nat) (q:List Nat) (r0:List Nat) (s:List Nat) (two:List Nat) (h2:List Nat) (tt:List Nat) (r1:List Nat):List Value:=
 (Da aa)::ptr g_base::ptr gz::(.bool false)::ptr go::ptr ge::ptr gr::(Da aa)::(Da aa)::(Da aa)::(Da zz)::(.bool false)::undef::(Da one)::(Da aa)::(Da p)::(Da one)::(Da m1)::(Da h1)::(Da pw)::(Da one)::(.bool false)::undef::(Da p)::(Da five)::(Da m5)::(Da e1)::(Da e2)::(Da e3)::(Da aa)::(Da e3)::(Da q)::(Da aa)::(Da r0)::(Da r0)::(Da r0)::(Da s)::(Da aa)::(.bool true)::(Da r0)::(Da two)::(Da p)::(Da one)::(Da m1)::(Da h1)::(Da h2)::(Da tt)::(Da r1)::ud 8 []
def Mw (aa:List Nat) (g_base:Nat) (gz:Nat) (go:Nat) (ge:Nat) (gr:Nat) (zz:List Nat) (one:List Nat) (p:List Nat) (m1:List Nat) (h1:List Nat) (pw:List Nat) (five:List Nat) (m5:List Nat) (e1:List Nat) (e2:List Nat) (e3:List Nat) (q:List Nat) (r0:List Nat) (s:List Nat) (two:List Nat) (h2:List Nat) (tt:List Nat) (r1:List Nat) (x1:Nat) (ng1:List Nat):List Value:=
 (Da aa)::ptr g_base::ptr gz::(.bool false)::ptr go::ptr ge::ptr gr::(Da aa)::(Da aa)::(Da aa)::(Da zz)::(.bool false)::undef::(Da one)::(Da aa)::(Da p)::(Da one)::(Da m1)::(Da h1)::(Da pw)::(Da one)::(.bool false)::undef::(Da p)::(Da five)::(Da m5)::(Da e1)::(Da e2)::(Da e3)::(Da aa)::(Da e3)::(Da q)::(Da aa)::(Da r0)::(Da r0)::(Da r0)::(Da s)::(Da aa)::(.bool true)::(Da r0)::(Da two)::(Da p)::(Da one)::(Da m1)::(Da h1)::(Da h2)::(Da tt)::(Da r1)::ptr gr::(Ja x1)::(Ja 1)::(.bool true)::(Da p)::(Da r1)::(Da ng1)::undef::[]
theorem EJ (aa zz one p m1 h1 pw five m5 e1 e2 e3 q r0 s two h2 tt r1 ng0 ng1 res:List Nat) (x0 x1:Nat) (z0 n1 n2 od0 od1 ok:Bool) (w:World)
 (Haa:Hid (aa.length=8))
 (Hzz:Hid (zz.length=8))
 (Hone:Hid (one.length=8))
 (He3:Hid (e3.length=8))
 (Hr0:Hid (r0.length=8))
 (Hr1:Hid (r1.length=8))
 (Hng0:Hid (ng0.length=8))
 (Hng1:Hid (ng1.length=8))
 (CL:Hid (∀W,Calls Tryz.prog 67 #[Da aa] W (gvn (Da aa) W)))
 (CP:Hid (∀W,Calls Tryz.prog 114 #[] W (gvn (Da p) W)))
 (CM1:Hid (∀W,Calls Tryz.prog 115 #[Da p,Da one] W (gvn (Da m1) W)))
 (CH1:Hid (∀W,Calls Tryz.prog 118 #[Da m1] W (gvn (Da h1) W)))
 (CPW:Hid (∀W,Calls Tryz.prog 117 #[Da aa,Da h1] W (gvn (Da pw) W)))
 (CM5:Hid (∀W,Calls Tryz.prog 115 #[Da p,Da five] W (gvn (Da m5) W)))
 (CE1:Hid (∀W,Calls Tryz.prog 118 #[Da m5] W (gvn (Da e1) W)))
 (CE2:Hid (∀W,Calls Tryz.prog 118 #[Da e1] W (gvn (Da e2) W)))
 (CE3:Hid (∀W,Calls Tryz.prog 118 #[Da e2] W (gvn (Da e3) W)))
 (CQ:Hid (∀W,Calls Tryz.prog 117 #[Da aa,Da e3] W (gvn (Da q) W)))
 (CR0:Hid (∀W,Calls Tryz.prog 68 #[Da q,Da aa] W (gvn (Da r0) W)))
 (CS:Hid (∀W,Calls Tryz.prog 68 #[Da r0,Da r0] W (gvn (Da s) W)))
 (CH2:Hid (∀W,Calls Tryz.prog 118 #[Da h1] W (gvn (Da h2) W)))
 (CTT:Hid (∀W,Calls Tryz.prog 117 #[Da two,Da h2] W (gvn (Da tt) W)))
 (CR1:Hid (∀W,Calls Tryz.prog 68 #[Da r0,Da tt] W (gvn (Da r1) W)))
 (CNG0:Hid (∀W,Calls Tryz.prog 115 #[Da p,Da r0] W (gvn (Da ng0) W)))
 (CNG1:Hid (∀W,Calls Tryz.prog 115 #[Da p,Da r1] W (gvn (Da ng1) W)))
 (B0:∀w,(Instr.build 66 #[]).run Tryz.prog w=.ok (Da zz) w)
 (B1:∀w,(Instr.build 66 #[(0,Ja 1)]).run Tryz.prog w=.ok (Da one) w)
 (B5:∀w,(Instr.build 66 #[(0,Ja 5)]).run Tryz.prog w=.ok (Da five) w)
 (B2:∀w,(Instr.build 66 #[(0,Ja 2)]).run Tryz.prog w=.ok (Da two) w)
 (E0:∀w,(binOp .eql 66 (Da aa) (Da zz)).run Tryz.prog w=.ok (.bool z0) w)
 (E1:∀w,(binOp .neq 66 (Da pw) (Da one)).run Tryz.prog w=.ok (.bool n1) w)
 (E2:∀w,(binOp .neq 66 (Da s) (Da aa)).run Tryz.prog w=.ok (.bool n2) w)
 (HX0:Hid (r0.getD 0 0=x0))
 (HX1:Hid (r1.getD 0 0=x1))
 (HO00:Hid (od0=false→x0%2=0))
 (HO01:Hid (od0=true→x0%2=1))
 (HO10:Hid (od1=false→x1%2=0))
 (HO11:Hid (od1=true→x1%2=1))
 (HPZ:Hid (z0=true→res=aa∧ok=true))
 (HPN:Hid (z0=false→n1=true→res=zz∧ok=false))
 (HP00:Hid (z0=false→n1=false→n2=false→od0=false→res=r0∧ok=true))
 (HP01:Hid (z0=false→n1=false→n2=false→od0=true→res=ng0∧ok=true))
 (HP10:Hid (z0=false→n1=false→n2=true→od1=false→res=r1∧ok=true))
 (HP11:Hid (z0=false→n1=false→n2=true→od1=true→res=ng1∧ok=true)):
 Calls Tryz.prog 69 #[Da aa] w (gvn (.tuple #[Da res,.bool ok]) w):=by
 go_enter Tryz.func69,Tryz.ntmps69;go_wp2_with (first
  |(refine Ra rfl 66 (.tmp 0) rfl (aa.map Ja) rfl ?_
    intro w1 hb1 hva1;have hB1:=hb1;have hgea:w.heap.size≤w.heap.size:=Xaj _;clear hb1;try simp only [La]
    skip)
  |(refine Ma (o:=⟨some 2,_,_,_,_,_⟩) rfl 66 rfl (Wa 8) Ac ?_
    intro w2 hb2 hvz2;have hB2:=Ba hB1 hb2;have hgez:w.heap.size≤w1.heap.size:=hB1.size;have hva2:=hva1.on hb2;have hneaz:=Vaj hva1.lt;clear hB1 hva1 hb2;try simp only [La]
    skip)
  |(refine Pa rfl 66 (.tmp 1) rfl w.heap.size 8 (aa.map Ja) rfl hva2 Tryz.underlying66 rfl Za (by rw [Uaj,Haa.out]) ?_
    try simp only [La]
    skip))
 generalize hqz:w1.heap.size=gz at *;clear hqz;refine (CL.out w2).mono ?_;rintro e w3 ⟨rfl,hb3⟩;have hB3:=Ba hB2 hb3;have hva3:=hva2.on hb3;have hvz3:=hvz2.on hb3;clear hB2 hva2 hvz2 hb3;cases z0
 ·have hG11:∀w,(eqGuard .eql 66 (.tmp 9) (.tmp 10) (.agg (aa.map Ja).toArray) (Da zz)).run Tryz.prog w=.ok () w:=fun w=>Hi _ _ _ _ _ w;have hQ11:∀w,(binOp .eql 66 (.agg (aa.map Ja).toArray) (Da zz)).run Tryz.prog w=.ok (.bool false) w:=E0;go_wp2_with (first
   |(refine Ka rfl 66 (.tmp 1) (.tmp 8) rfl w.heap.size 8 (aa.map Ja) (aa.map Ja) rfl rfl hva3 (by rw [Uaj,Haa.out]) Za (by rw [Uaj,Haa.out]) (Ua _) ?_
     intro w4 hb4 hva4 hz4;have hB4:Below w.heap.size w w4:=hB3.trans (hb4.below hgea hB3.size);have hvz4:=hvz3.but hb4 (Ne.symm hneaz);clear hB3 hva3 hb4 hz4 hvz3;skip)
   |(refine Pa rfl 66 (.tmp 1) rfl w.heap.size 8 (aa.map Ja) rfl hva4 Tryz.underlying66 rfl Za (by rw [Uaj,Haa.out]) ?_
     try simp only [La]
     skip)
   |(refine Eb rfl 66 [] rfl [] rfl _ B0 ?_
     try simp only [La]
     skip)
   |(refine Eb rfl 66 _ rfl [(0,Ja 1)] rfl _ B1 ?_
     try simp only [La]
     skip)
   |(refine Db rfl rfl 66 (.tmp 4) (.tmp 13) rfl rfl 8 (Wa 8) (one.map Ja) rfl rfl Ac rfl Za (by rw [Uaj,Hone.out]) (Ua _) ?_
     intro w5 hb5 hvo5;have hB5:=Ba hB4 hb5;have hgeo:w.heap.size≤w4.heap.size:=hB4.size;have hva5:=hva4.on hb5;have hneao:=Vaj hva4.lt;have hvz5:=hvz4.on hb5;have hnezo:=Vaj hvz4.lt;clear hB4 hva4 hvz4 hb5;try simp only [La]
     skip))
  generalize hqo:w4.heap.size=go at *;clear hqo;replace hva5:=hva5.drew;replace hvz5:=hvz5.drew;replace hvo5:=hvo5.drew;refine wp_region_any (by kernel_rfl) ?_;refine Ya (L:=[0,1,2,3,4,5,6,7]) (by kernel_rfl) _ _ (DS aa w.heap.size gz go zz one p m1 h1 pw n1) [] 66 (Wa 8) [0,1,2,3,4,5,6,7,8,9,10,11,12,13,22,23,24,25,26,27,28,29,30,31,32,33,34,35,36,37,38,39,40,41,42,43,44,45,46,47,48,49,50,51,52,53,54,55] (by kernel_rfl) (by kernel_rfl) ?_ Ac ?_ (by rfl) ?_ 0 (by kernel_rfl) ?_
  ·intro p hp;exact absurd hp List.not_mem_nil
  ·repeat refine Aak rfl ?_
   exact Qa
  ·refine Aak (.inr (mL 14 rfl fun w hb=>Sb (hva5.on hb) Haa.out)) ?_;refine Aak (.inr (mC 15 rfl Tryz.func114 fun w hb=>CP.out w)) ?_;refine Aak (.inr (mL 16 rfl fun w hb=>Sb (hvo5.on hb) Hone.out)) ?_;refine Aak (.inr (mC 17 rfl Tryz.func115 fun w hb=>CM1.out w)) ?_;refine Aak (.inr (mC 18 rfl Tryz.func118 fun w hb=>CH1.out w)) ?_;refine Aak (.inr (mC 19 rfl Tryz.func117 fun w hb=>CPW.out w)) ?_;refine Aak (.inr (mL 20 rfl fun w hb=>Sb (hvo5.on hb) Hone.out)) ?_;refine Aak (.inr (mB 21 rfl (fun w=>Hi _ _ _ _ _ w) (E1))) ?_;exact Qa
  intro w6 g hb6 hN6 hap6;clear hN6 hap6;have hB6:=Ba (show Below w.heap.size w w5.drew from hB5.drew) hb6;have hva6:=hva5.on hb6;have hvz6:=hvz5.on hb6;have hvo6:=hvo5.on hb6;clear hB5 hva5 hvz5 hvo5 hb6;refine ⟨by kernel_rfl,?_⟩;rename_i K hKK;show Exit.then K _ Exit.normal (⟨(DS aa w.heap.size gz go zz one p m1 h1 pw n1).toArray,[]⟩:Act) w6;simp only [Exit.then];refine hKK _ _ ?_;clear hKK K g;simp only [DS,ptr,ud];cases n1
  ·go_wp2_with fail
   refine (CP.out w6).mono ?_;rintro e w7 ⟨rfl,hb7⟩;have hB7:=Ba hB6 hb7;have hva7:=hva6.on hb7;have hvz7:=hvz6.on hb7;have hvo7:=hvo6.on hb7;clear hB6 hva6 hvz6 hvo6 hb7;go_wp2_with (first
    |(refine Eb rfl 66 _ rfl [(0,Ja 5)] rfl _ B5 ?_
      try simp only [La]
      skip))
   refine (CM5.out w7).mono ?_;rintro e w8 ⟨rfl,hb8⟩;have hB8:=Ba hB7 hb8;have hva8:=hva7.on hb8;have hvz8:=hvz7.on hb8;have hvo8:=hvo7.on hb8;clear hB7 hva7 hvz7 hvo7 hb8;go_wp2_with fail
   refine (CE1.out w8).mono ?_;rintro e w9 ⟨rfl,hb9⟩;have hB9:=Ba hB8 hb9;have hva9:=hva8.on hb9;have hvz9:=hvz8.on hb9;have hvo9:=hvo8.on hb9;clear hB8 hva8 hvz8 hvo8 hb9;go_wp2_with fail
   refine (CE2.out w9).mono ?_;rintro e w10 ⟨rfl,hb10⟩;have hB10:=Ba hB9 hb10;have hva10:=hva9.on hb10;have hvz10:=hvz9.on hb10;have hvo10:=hvo9.on hb10;clear hB9 hva9 hvz9 hvo9 hb10;go_wp2_with fail
   refine (CE3.out w10).mono ?_;rintro e w11 ⟨rfl,hb11⟩;have hB11:=Ba hB10 hb11;have hva11:=hva10.on hb11;have hvz11:=hvz10.on hb11;have hvo11:=hvo10.on hb11;clear hB10 hva10 hvz10 hvo10 hb11;go_wp2_with (first
    |(refine Db rfl rfl 66 (.tmp 5) (.tmp 28) rfl rfl 8 (Wa 8) (e3.map Ja) rfl rfl Ac rfl Za (by rw [Uaj,He3.out]) (Ua _) ?_
      intro w12 hb12 hve12;have hB12:=Ba hB11 hb12;have hgee:w.heap.size≤w11.heap.size:=hB11.size;have hva12:=hva11.on hb12;have hneae:=Vaj hva11.lt;have hvz12:=hvz11.on hb12;have hneze:=Vaj hvz11.lt;have hvo12:=hvo11.on hb12;have hneoe:=Vaj hvo11.lt;clear hB11 hva11 hvz11 hvo11 hb12;try simp only [La]
      skip))
   generalize hqe:w11.heap.size=ge at *;clear hqe;replace hva12:=hva12.drew;replace hvz12:=hvz12.drew;replace hvo12:=hvo12.drew;replace hve12:=hve12.drew;refine wp_region_any (by kernel_rfl) ?_;refine Ya (L:=[0,1,2,3,4,5]) (by kernel_rfl) _ _ (qM aa w.heap.size gz go ge zz one p m1 h1 pw five m5 e1 e2 e3 q r0) [(5,6)] 66 (Wa 8) [0,1,2,3,4,5,7,8,9,10,11,12,13,14,15,16,17,18,19,20,21,22,23,24,25,26,27,28,34,35,36,37,38,39,40,41,42,43,44,45,46,47,48,49,50,51,52,53,54,55] (by kernel_rfl) (by kernel_rfl) ?_ Ac ?_ (by rfl) ?_ 1 (by kernel_rfl) ?_
   ·intro p hp;rcases List.mem_cons.1 hp with rfl|hp
    ·exact ⟨⟨_,rfl,rfl,rfl,rfl,by kernel_rfl,by kernel_rfl⟩⟩
    exact absurd hp List.not_mem_nil
   ·repeat refine Aak rfl ?_
    exact Qa
   ·refine Aak (.inr (mL 29 rfl fun w hb=>Sb (hva12.on hb) Haa.out)) ?_;refine Aak (.inr (mL 30 rfl fun w hb=>Sb (hve12.on hb) He3.out)) ?_;refine Aak (.inr (mC 31 rfl Tryz.func117 fun w hb=>CQ.out w)) ?_;refine Aak (.inr (mL 32 rfl fun w hb=>Sb (hva12.on hb) Haa.out)) ?_;refine Aak (.inr (mC 33 rfl Tryz.func68 fun w hb=>CR0.out w)) ?_;refine Aak (.inl ⟨(5,6),by simp,rfl⟩) ?_;exact Qa
   intro w13 g hb13 hN13 hap13;obtain ⟨hger,hvr13⟩:=hN13 (5,6) (by simp);clear hN13 hap13;have hB13:=Ba (show Below w.heap.size w w12.drew from hB12.drew) hb13;have hlta:w.heap.size<w12.heap.size:=hva12.lt;have hltz:gz<w12.heap.size:=hvz12.lt;have hlto:go<w12.heap.size:=hvo12.lt;have hlte:ge<w12.heap.size:=hve12.lt;have hva13:=hva12.on hb13;have hvz13:=hvz12.on hb13;have hvo13:=hvo12.on hb13;have hve13:=hve12.on hb13;rw [show Oc g [(5,6)] (qM aa w.heap.size gz go ge zz one p m1 h1 pw five m5 e1 e2 e3 q r0)=Jw aa w.heap.size gz go ge zz one p m1 h1 pw five m5 e1 e2 e3 q r0 (g 6) from rfl];replace hger:w12.heap.size≤g 6:=hger;replace hvr13:Ia w13 (g 6) (Wa 8) 66:=hvr13;have hnear:w.heap.size≠g 6:=Vaj (Waj hlta hger);have hnezr:gz≠g 6:=Vaj (Waj hltz hger);have hneor:go≠g 6:=Vaj (Waj hlto hger);have hneer:ge≠g 6:=Vaj (Waj hlte hger);replace hger:w.heap.size≤g 6:=Nat.le_trans (show w.heap.size≤w12.heap.size from hB12.size) hger;clear hlta hltz hlto hlte;generalize g 6=gr at *;clear hB12 hva12 hvz12 hvo12 hve12 hb13;refine Bb 6 rfl (by kernel_rfl) ?_;refine Ka rfl 66 (.tmp 6) (.tmp 33) rfl gr 8 (Wa 8) (r0.map Ja) rfl rfl hvr13 rfl Za (by rw [Uaj,Hr0.out]) (Ua _) ?_;intro w14 hb14 hvr14 hz14;have hB14:Below w.heap.size w w14:=hB13.trans (hb14.below hger hB13.size);have hva14:=hva13.but hb14 hnear;have hvz14:=hvz13.but hb14 hnezr;have hvo14:=hvo13.but hb14 hneor;have hve14:=hve13.but hb14 hneer;clear hB13 hvr13 hb14 hz14 hva13 hvz13 hvo13 hve13;rename_i K hKK;show Exit.then K _ Exit.normal (⟨(Jw aa w.heap.size gz go ge zz one p m1 h1 pw five m5 e1 e2 e3 q r0 gr).toArray,[]⟩:Act) w14;simp only [Exit.then];refine hKK _ _ ?_;clear hKK K g;simp only [Jw,ptr,ud];go_wp2_with fail
   replace hva14:=hva14.drew;replace hvz14:=hvz14.drew;replace hvo14:=hvo14.drew;replace hve14:=hve14.drew;replace hvr14:=hvr14.drew;refine wp_region_any (by kernel_rfl) ?_;refine Ya (L:=[0,1,2,3,4]) (by kernel_rfl) _ _ (IC aa w.heap.size gz go ge gr zz one p m1 h1 pw five m5 e1 e2 e3 q r0 s n2) [] 66 (Wa 8) [0,1,2,3,4,5,6,7,8,9,10,11,12,13,14,15,16,17,18,19,20,21,22,23,24,25,26,27,28,29,30,31,32,33,39,40,41,42,43,44,45,46,47,48,49,50,51,52,53,54,55] (by kernel_rfl) (by kernel_rfl) ?_ Ac ?_ (by rfl) ?_ 0 (by kernel_rfl) ?_
   ·intro p hp;exact absurd hp List.not_mem_nil
   ·repeat refine Aak rfl ?_
    exact Qa
   ·refine Aak (.inr (mL 34 rfl fun w hb=>Sb (hvr14.on hb) Hr0.out)) ?_;refine Aak (.inr (mL 35 rfl fun w hb=>Sb (hvr14.on hb) Hr0.out)) ?_;refine Aak (.inr (mC 36 rfl Tryz.func68 fun w hb=>CS.out w)) ?_;refine Aak (.inr (mL 37 rfl fun w hb=>Sb (hva14.on hb) Haa.out)) ?_;refine Aak (.inr (mB 38 rfl (fun w=>Hi _ _ _ _ _ w) (E2))) ?_;exact Qa
   intro w15 g hb15 hN15 hap15;clear hN15 hap15;have hB15:=Ba (show Below w.heap.size w w14.drew from hB14.drew) hb15;have hva15:=hva14.on hb15;have hvz15:=hvz14.on hb15;have hvo15:=hvo14.on hb15;have hve15:=hve14.on hb15;have hvr15:=hvr14.on hb15;clear hB14 hva14 hvz14 hvo14 hve14 hvr14 hb15;refine ⟨by kernel_rfl,?_⟩;rename_i K hKK;show Exit.then K _ Exit.normal (⟨(IC aa w.heap.size gz go ge gr zz one p m1 h1 pw five m5 e1 e2 e3 q r0 s n2).toArray,[]⟩:Act) w15;simp only [Exit.then];refine hKK _ _ ?_;clear hKK K g;simp only [IC,ptr,ud];cases n2
   ·cases od0
    ·have d0:=hvr15.get (dat r0 0 (by rw [Hr0.out];decide));rw [HX0.out] at d0;have c1:(x0:Int).tmod 2=0:=by rw [Int.tmod_eq_emod_of_nonneg (by omega)];have :=HO00.out (by simp);omega
     have c2:IntKind.u32.wrap (0:Int)=0:=by rw [IntKind.wrap_u32];omega
     obtain ⟨hr1,hr2⟩:=HP00.out (by simp) (by simp) (by simp) (by simp);go_wp2_with (first
      |(refine Pa rfl 66 (.tmp 6) rfl gr 8 (r0.map Ja) rfl hvr15 Tryz.underlying66 rfl Za (by rw [Uaj,Hr0.out]) ?_
        try simp only [La]
        skip)
      |(refine Ka rfl 66 (.tmp 2) (.tmp 55) rfl gz 8 (Wa 8) (r0.map Ja) rfl rfl hvz15 rfl Za (by rw [Uaj,Hr0.out]) (Ua _) ?_
        intro w16 hb16 hvz16 hz16;have hB16:Below w.heap.size w w16:=hB15.trans (hb16.below hgez hB15.size);have hva16:=hva15.but hb16 hneaz;have hvo16:=hvo15.but hb16 (Ne.symm hnezo);have hve16:=hve15.but hb16 (Ne.symm hneze);have hvr16:=hvr15.but hb16 (Ne.symm hnezr);clear hB15 hvz15 hb16 hz16 hva15 hvo15 hve15 hvr15;skip))
     exact Xf Tryz.results69 gz (r0.map Ja) _ rfl rfl hvz16 Tryz.underlying66 rfl Za (by rw [Uaj,Hr0.out]) rfl ⟨by subst hr1;subst hr2;rfl,hB16⟩
    ·have d0:=hvr15.get (dat r0 0 (by rw [Hr0.out];decide));rw [HX0.out] at d0;have c1:(x0:Int).tmod 2=1:=by rw [Int.tmod_eq_emod_of_nonneg (by omega)];have :=HO01.out (by simp);omega
     have c2:IntKind.u32.wrap (1:Int)=1:=by rw [IntKind.wrap_u32];omega
     go_wp2_with fail
     clear d0 c1 c2;go_wp2_with fail
     replace hva15:=hva15.drew;replace hvz15:=hvz15.drew;replace hvo15:=hvo15.drew;replace hve15:=hve15.drew;replace hvr15:=hvr15.drew;refine wp_region_any (by kernel_rfl) ?_;refine Ya (L:=[0,1,2]) (by kernel_rfl) _ _ (Kw aa w.heap.size gz go ge gr zz one p m1 h1 pw five m5 e1 e2 e3 q r0 s x0 ng0) [] 66 (Wa 8) [0,1,2,3,4,5,6,7,8,9,10,11,12,13,14,15,16,17,18,19,20,21,22,23,24,25,26,27,28,29,30,31,32,33,34,35,36,37,38,39,40,41,42,43,44,45,46,47,48,49,50,51,55] (by kernel_rfl) (by kernel_rfl) ?_ Ac ?_ (by rfl) ?_ 1 (by kernel_rfl) ?_
     ·intro p hp;exact absurd hp List.not_mem_nil
     ·repeat refine Aak rfl ?_
      exact Qa
     ·refine Aak (.inr (mC 52 rfl Tryz.func114 fun w hb=>CP.out w)) ?_;refine Aak (.inr (mL 53 rfl fun w hb=>Sb (hvr15.on hb) Hr0.out)) ?_;refine Aak (.inr (mC 54 rfl Tryz.func115 fun w hb=>CNG0.out w)) ?_;exact Qa
     intro w17 g hb17 hN17 hap17;clear hN17 hap17;have hB17:=Ba (show Below w.heap.size w w15.drew from hB15.drew) hb17;have hva17:=hva15.on hb17;have hvz17:=hvz15.on hb17;have hvo17:=hvo15.on hb17;have hve17:=hve15.on hb17;have hvr17:=hvr15.on hb17;clear hB15 hva15 hvz15 hvo15 hve15 hvr15 hb17;refine Bb 3 rfl (by kernel_rfl) ?_;refine Ka rfl 66 (.tmp 6) (.tmp 54) rfl gr 8 (r0.map Ja) (ng0.map Ja) rfl rfl hvr17 (by rw [Uaj,Hr0.out]) Za (by rw [Uaj,Hng0.out]) (Ua _) ?_;intro w18 hb18 hvr18 hz18;have hB18:Below w.heap.size w w18:=hB17.trans (hb18.below hger hB17.size);have hva18:=hva17.but hb18 hnear;have hvz18:=hvz17.but hb18 hnezr;have hvo18:=hvo17.but hb18 hneor;have hve18:=hve17.but hb18 hneer;clear hB17 hvr17 hb18 hz18 hva17 hvz17 hvo17 hve17;rename_i K hKK;show Exit.then K _ Exit.normal (⟨(Kw aa w.heap.size gz go ge gr zz one p m1 h1 pw five m5 e1 e2 e3 q r0 s x0 ng0).toArray,[]⟩:Act) w18;simp only [Exit.then];refine hKK _ _ ?_;clear hKK K g;simp only [Kw,ptr,ud];obtain ⟨hr1,hr2⟩:=HP01.out (by simp) (by simp) (by simp) (by simp);go_wp2_with (first
      |(refine Pa rfl 66 (.tmp 6) rfl gr 8 (ng0.map Ja) rfl hvr18 Tryz.underlying66 rfl Za (by rw [Uaj,Hng0.out]) ?_
        try simp only [La]
        skip)
      |(refine Ka rfl 66 (.tmp 2) (.tmp 55) rfl gz 8 (Wa 8) (ng0.map Ja) rfl rfl hvz18 rfl Za (by rw [Uaj,Hng0.out]) (Ua _) ?_
        intro w19 hb19 hvz19 hz19;have hB19:Below w.heap.size w w19:=hB18.trans (hb19.below hgez hB18.size);have hva19:=hva18.but hb19 hneaz;have hvo19:=hvo18.but hb19 (Ne.symm hnezo);have hve19:=hve18.but hb19 (Ne.symm hneze);have hvr19:=hvr18.but hb19 (Ne.symm hnezr);clear hB18 hvz18 hb19 hz19 hva18 hvo18 hve18 hvr18;skip))
     exact Xf Tryz.results69 gz (ng0.map Ja) _ rfl rfl hvz19 Tryz.underlying66 rfl Za (by rw [Uaj,Hng0.out]) rfl ⟨by subst hr1;subst hr2;rfl,hB19⟩
   ·go_wp2_with fail
    replace hva15:=hva15.drew;replace hvz15:=hvz15.drew;replace hvo15:=hvo15.drew;replace hve15:=hve15.drew;replace hvr15:=hvr15.drew;refine wp_region_any (by kernel_rfl) ?_;refine Ya (L:=[0,1,2,3,4,5,6,7,8]) (by kernel_rfl) _ _ (Lw aa w.heap.size gz go ge gr zz one p m1 h1 pw five m5 e1 e2 e3 q r0 s two h2 tt r1) [] 66 (Wa 8) [0,1,2,3,4,5,6,7,8,9,10,11,12,13,14,15,16,17,18,19,20,21,22,23,24,25,26,27,28,29,30,31,32,33,34,35,36,37,38,48,49,50,51,52,53,54,55] (by kernel_rfl) (by kernel_rfl) ?_ Ac ?_ (by rfl) ?_ 1 (by kernel_rfl) ?_
    ·intro p hp;exact absurd hp List.not_mem_nil
    ·repeat refine Aak rfl ?_
     exact Qa
    ·refine Aak (.inr (mL 39 rfl fun w hb=>Sb (hvr15.on hb) Hr0.out)) ?_;refine Aak (.inr (mU 40 rfl B2)) ?_;refine Aak (.inr (mC 41 rfl Tryz.func114 fun w hb=>CP.out w)) ?_;refine Aak (.inr (mL 42 rfl fun w hb=>Sb (hvo15.on hb) Hone.out)) ?_;refine Aak (.inr (mC 43 rfl Tryz.func115 fun w hb=>CM1.out w)) ?_;refine Aak (.inr (mC 44 rfl Tryz.func118 fun w hb=>CH1.out w)) ?_;refine Aak (.inr (mC 45 rfl Tryz.func118 fun w hb=>CH2.out w)) ?_;refine Aak (.inr (mC 46 rfl Tryz.func117 fun w hb=>CTT.out w)) ?_;refine Aak (.inr (mC 47 rfl Tryz.func68 fun w hb=>CR1.out w)) ?_;exact Qa
    intro w20 g hb20 hN20 hap20;clear hN20 hap20;have hB20:=Ba (show Below w.heap.size w w15.drew from hB15.drew) hb20;have hva20:=hva15.on hb20;have hvz20:=hvz15.on hb20;have hvo20:=hvo15.on hb20;have hve20:=hve15.on hb20;have hvr20:=hvr15.on hb20;clear hB15 hva15 hvz15 hvo15 hve15 hvr15 hb20;refine Bb 9 rfl (by kernel_rfl) ?_;refine Ka rfl 66 (.tmp 6) (.tmp 47) rfl gr 8 (r0.map Ja) (r1.map Ja) rfl rfl hvr20 (by rw [Uaj,Hr0.out]) Za (by rw [Uaj,Hr1.out]) (Ua _) ?_;intro w21 hb21 hvr21 hz21;have hB21:Below w.heap.size w w21:=hB20.trans (hb21.below hger hB20.size);have hva21:=hva20.but hb21 hnear;have hvz21:=hvz20.but hb21 hnezr;have hvo21:=hvo20.but hb21 hneor;have hve21:=hve20.but hb21 hneer;clear hB20 hvr20 hb21 hz21 hva20 hvz20 hvo20 hve20;rename_i K hKK;show Exit.then K _ Exit.normal (⟨(Lw aa w.heap.size gz go ge gr zz one p m1 h1 pw five m5 e1 e2 e3 q r0 s two h2 tt r1).toArray,[]⟩:Act) w21;simp only [Exit.then];refine hKK _ _ ?_;clear hKK K g;simp only [Lw,ptr,ud];cases od1
    ·have d0:=hvr21.get (dat r1 0 (by rw [Hr1.out];decide));rw [HX1.out] at d0;have c1:(x1:Int).tmod 2=0:=by rw [Int.tmod_eq_emod_of_nonneg (by omega)];have :=HO10.out (by simp);omega
     have c2:IntKind.u32.wrap (0:Int)=0:=by rw [IntKind.wrap_u32];omega
     obtain ⟨hr1,hr2⟩:=HP10.out (by simp) (by simp) (by simp) (by simp);go_wp2_with (first
      |(refine Pa rfl 66 (.tmp 6) rfl gr 8 (r1.map Ja) rfl hvr21 Tryz.underlying66 rfl Za (by rw [Uaj,Hr1.out]) ?_
        try simp only [La]
        skip)
      |(refine Ka rfl 66 (.tmp 2) (.tmp 55) rfl gz 8 (Wa 8) (r1.map Ja) rfl rfl hvz21 rfl Za (by rw [Uaj,Hr1.out]) (Ua _) ?_
        intro w22 hb22 hvz22 hz22;have hB22:Below w.heap.size w w22:=hB21.trans (hb22.below hgez hB21.size);have hva22:=hva21.but hb22 hneaz;have hvo22:=hvo21.but hb22 (Ne.symm hnezo);have hve22:=hve21.but hb22 (Ne.symm hneze);have hvr22:=hvr21.but hb22 (Ne.symm hnezr);clear hB21 hvz21 hb22 hz22 hva21 hvo21 hve21 hvr21;skip))
     exact Xf Tryz.results69 gz (r1.map Ja) _ rfl rfl hvz22 Tryz.underlying66 rfl Za (by rw [Uaj,Hr1.out]) rfl ⟨by subst hr1;subst hr2;rfl,hB22⟩
    ·have d0:=hvr21.get (dat r1 0 (by rw [Hr1.out];decide));rw [HX1.out] at d0;have c1:(x1:Int).tmod 2=1:=by rw [Int.tmod_eq_emod_of_nonneg (by omega)];have :=HO11.out (by simp);omega
     have c2:IntKind.u32.wrap (1:Int)=1:=by rw [IntKind.wrap_u32];omega
     go_wp2_with fail
     clear d0 c1 c2;go_wp2_with fail
     replace hva21:=hva21.drew;replace hvz21:=hvz21.drew;replace hvo21:=hvo21.drew;replace hve21:=hve21.drew;replace hvr21:=hvr21.drew;refine wp_region_any (by kernel_rfl) ?_;refine Ya (L:=[0,1,2]) (by kernel_rfl) _ _ (Mw aa w.heap.size gz go ge gr zz one p m1 h1 pw five m5 e1 e2 e3 q r0 s two h2 tt r1 x1 ng1) [] 66 (Wa 8) [0,1,2,3,4,5,6,7,8,9,10,11,12,13,14,15,16,17,18,19,20,21,22,23,24,25,26,27,28,29,30,31,32,33,34,35,36,37,38,39,40,41,42,43,44,45,46,47,48,49,50,51,55] (by kernel_rfl) (by kernel_rfl) ?_ Ac ?_ (by rfl) ?_ 1 (by kernel_rfl) ?_
     ·intro p hp;exact absurd hp List.not_mem_nil
     ·repeat refine Aak rfl ?_
      exact Qa
     ·refine Aak (.inr (mC 52 rfl Tryz.func114 fun w hb=>CP.out w)) ?_;refine Aak (.inr (mL 53 rfl fun w hb=>Sb (hvr21.on hb) Hr1.out)) ?_;refine Aak (.inr (mC 54 rfl Tryz.func115 fun w hb=>CNG1.out w)) ?_;exact Qa
     intro w23 g hb23 hN23 hap23;clear hN23 hap23;have hB23:=Ba (show Below w.heap.size w w21.drew from hB21.drew) hb23;have hva23:=hva21.on hb23;have hvz23:=hvz21.on hb23;have hvo23:=hvo21.on hb23;have hve23:=hve21.on hb23;have hvr23:=hvr21.on hb23;clear hB21 hva21 hvz21 hvo21 hve21 hvr21 hb23;refine Bb 3 rfl (by kernel_rfl) ?_;refine Ka rfl 66 (.tmp 6) (.tmp 54) rfl gr 8 (r1.map Ja) (ng1.map Ja) rfl rfl hvr23 (by rw [Uaj,Hr1.out]) Za (by rw [Uaj,Hng1.out]) (Ua _) ?_;intro w24 hb24 hvr24 hz24;have hB24:Below w.heap.size w w24:=hB23.trans (hb24.below hger hB23.size);have hva24:=hva23.but hb24 hnear;have hvz24:=hvz23.but hb24 hnezr;have hvo24:=hvo23.but hb24 hneor;have hve24:=hve23.but hb24 hneer;clear hB23 hvr23 hb24 hz24 hva23 hvz23 hvo23 hve23;rename_i K hKK;show Exit.then K _ Exit.normal (⟨(Mw aa w.heap.size gz go ge gr zz one p m1 h1 pw five m5 e1 e2 e3 q r0 s two h2 tt r1 x1 ng1).toArray,[]⟩:Act) w24;simp only [Exit.then];refine hKK _ _ ?_;clear hKK K g;simp only [Mw,ptr];obtain ⟨hr1,hr2⟩:=HP11.out (by simp) (by simp) (by simp) (by simp);go_wp2_with (first
      |(refine Pa rfl 66 (.tmp 6) rfl gr 8 (ng1.map Ja) rfl hvr24 Tryz.underlying66 rfl Za (by rw [Uaj,Hng1.out]) ?_
        try simp only [La]
        skip)
      |(refine Ka rfl 66 (.tmp 2) (.tmp 55) rfl gz 8 (Wa 8) (ng1.map Ja) rfl rfl hvz24 rfl Za (by rw [Uaj,Hng1.out]) (Ua _) ?_
        intro w25 hb25 hvz25 hz25;have hB25:Below w.heap.size w w25:=hB24.trans (hb25.below hgez hB24.size);have hva25:=hva24.but hb25 hneaz;have hvo25:=hvo24.but hb25 (Ne.symm hnezo);have hve25:=hve24.but hb25 (Ne.symm hneze);have hvr25:=hvr24.but hb25 (Ne.symm hnezr);clear hB24 hvz24 hb25 hz25 hva24 hvo24 hve24 hvr24;skip))
     exact Xf Tryz.results69 gz (ng1.map Ja) _ rfl rfl hvz25 Tryz.underlying66 rfl Za (by rw [Uaj,Hng1.out]) rfl ⟨by subst hr1;subst hr2;rfl,hB25⟩
  ·obtain ⟨hr1,hr2⟩:=HPN.out (by simp) (by simp);go_wp2_with (first
    |(refine Eb rfl 66 [] rfl [] rfl _ B0 ?_
      try simp only [La]
      skip)
    |(refine Ka rfl 66 (.tmp 2) (.tmp 22) rfl gz 8 (Wa 8) (zz.map Ja) rfl rfl hvz6 rfl Za (by rw [Uaj,Hzz.out]) (Ua _) ?_
      intro w26 hb26 hvz26 hz26;have hB26:Below w.heap.size w w26:=hB6.trans (hb26.below hgez hB6.size);have hva26:=hva6.but hb26 hneaz;have hvo26:=hvo6.but hb26 (Ne.symm hnezo);clear hB6 hvz6 hb26 hz26 hva6 hvo6;skip))
   exact Xf Tryz.results69 gz (zz.map Ja) _ rfl rfl hvz26 Tryz.underlying66 rfl Za (by rw [Uaj,Hzz.out]) rfl ⟨by subst hr1;subst hr2;rfl,hB26⟩
 ·obtain ⟨hr1,hr2⟩:=HPZ.out (by simp);have hG11:∀w,(eqGuard .eql 66 (.tmp 9) (.tmp 10) (.agg (aa.map Ja).toArray) (Da zz)).run Tryz.prog w=.ok () w:=fun w=>Hi _ _ _ _ _ w;have hQ11:∀w,(binOp .eql 66 (.agg (aa.map Ja).toArray) (Da zz)).run Tryz.prog w=.ok (.bool true) w:=E0;go_wp2_with (first
   |(refine Ka rfl 66 (.tmp 1) (.tmp 8) rfl w.heap.size 8 (aa.map Ja) (aa.map Ja) rfl rfl hva3 (by rw [Uaj,Haa.out]) Za (by rw [Uaj,Haa.out]) (Ua _) ?_
     intro w4 hb4 hva4 hz4;have hB4:Below w.heap.size w w4:=hB3.trans (hb4.below hgea hB3.size);have hvz4:=hvz3.but hb4 (Ne.symm hneaz);clear hB3 hva3 hb4 hz4 hvz3;skip)
   |(refine Pa rfl 66 (.tmp 1) rfl w.heap.size 8 (aa.map Ja) rfl hva4 Tryz.underlying66 rfl Za (by rw [Uaj,Haa.out]) ?_
     try simp only [La]
     skip)
   |(refine Eb rfl 66 [] rfl [] rfl _ B0 ?_
     try simp only [La]
     skip)
   |(refine Pa rfl 66 (.tmp 1) rfl w.heap.size 8 (aa.map Ja) rfl hva4 Tryz.underlying66 rfl Za (by rw [Uaj,Haa.out]) ?_
     try simp only [La]
     skip)
   |(refine Ka rfl 66 (.tmp 2) (.tmp 12) rfl gz 8 (Wa 8) (aa.map Ja) rfl rfl hvz4 rfl Za (by rw [Uaj,Haa.out]) (Ua _) ?_
     intro w27 hb27 hvz27 hz27;have hB27:Below w.heap.size w w27:=hB4.trans (hb27.below hgez hB4.size);have hva27:=hva4.but hb27 hneaz;clear hB4 hvz4 hb27 hz27 hva4;skip))
  exact Xf Tryz.results69 gz (aa.map Ja) _ rfl rfl hvz27 Tryz.underlying66 rfl Za (by rw [Uaj,Haa.out]) rfl ⟨by subst hr1;subst hr2;rfl,hB27⟩
theorem FJ (n m:Nat) (hn:n<mm) (hm:m<mm) (w:World):(binOp .neq 66 (Da (nD n)) (Da (nD m))).run Tryz.prog w=.ok (.bool (!decide (n=m))) w:=by
 have h:=Ej (P:=Tryz.prog) w .u32 9998 66 64 8 Tryz.underlying66 Tryz.underlying64 (fun w=>by
  obtain ⟨i0,hi0,hs0⟩:=Option.map_eq_some_iff.1 qf;simp [sizeOf,typeInfo,hi0,hs0]) (nD n) (nD m) rfl rfl
 have e:(nD n==nD m)=decide (n=m):=by
  by_cases h:n=m
  ·rw [h,beq_self_eq_true];simp
  ·rw [decide_eq_false h,beq_eq_false_iff_ne];intro h2;exact h (by rw [←Ce n hn,←Ce m hm,h2])
 rw [e] at h;have h2:=run_neq_struct (P:=Tryz.prog) w 66 ((nD n).map Ja).toArray ((nD m).map Ja).toArray;unfold Da;rw [h2];have h3:(Op.equalIn 10000 66 (.agg ((nD n).map Ja).toArray) (.agg ((nD m).map Ja).toArray)).run Tryz.prog w=.ok (decide (n=m)) w:=h;rw [h3];rfl
theorem yX (w:World):(Instr.build 66 #[(0,Ja 1)]).run Tryz.prog w=.ok (Da (nD 1)) w:=by kernel_rfl
theorem zX (w:World):(Instr.build 66 #[(0,Ja 5)]).run Tryz.prog w=.ok (Da (nD 5)) w:=by kernel_rfl
theorem NG (w:World):(Instr.build 66 #[]).run Tryz.prog w=.ok (Da (nD 0)) w:=by kernel_rfl
theorem T4 (k:Nat) (hk:k+1=7237005577332262213973186563042994240829374041602535252466099000494570602494) (n:Nat):rtN n=NP.rt pp k ttN n:=by
 have e:∀q,pwN n q=n^q%pp:=fun _=>rfl;rw [NP.rt,hk,rtN,e]
theorem AV (k:Nat) (hk:k+1=7237005577332262213973186563042994240829374041602535252466099000494570602494) (n:Nat):Fj n=NP.isS pp k ttN n:=by
 rw [Fj,NP.isS,T4 k hk]
theorem ES (e:Nat) (he:e=14474011154664524427946373126085988481658748083205070504932198000989141204987):2^e%pp=ttN:=by
 have h:=NP.pw_eq pp 256 2 e (by rw [he];decide+kernel);rw [←h,he];decide+kernel
theorem Zu:((pp:Nat):Int)∣((ttN:Nat):Int)*ttN+1:=by decide+kernel
theorem P9 (n:Nat):n%4294967296%2=n%2:=by omega
theorem U4 (n:Nat):(nD n).getD 0 0=n%4294967296:=rfl
def xg (n:Nat):Nat:=if Fj n=true then Ym (rtN n) else 0
theorem xu (n:Nat):xg n<pp:=by
 rw [xg]
 split
 ·rw [Ym]
  split
  ·exact Nat.mod_lt _ (by decide)
  ·exact OI n
 ·decide
theorem Xz (r b:Nat) (hr:r<pp) (h:r%4294967296%2=b):Ym r=if b=1 then pp-r else r:=by
 rw [P9] at h;rw [Ym,h]
 split
 ·rename_i hb;rw [yaj];simp only [pp] at *;omega
 ·rfl
theorem AN (x:Nat) (h:decide (x%2=1)=false):x%2=0:=by
 have :=of_decide_eq_false h;omega
theorem FS (P k:Nat) (h:P=8*k+5):(P-1)/2=4*k+2∧(P-5)/2=4*k∧4*k/2=2*k∧2*k/2=k∧(4*k+2)/2=2*k+1∧4*k+2<P∧4*k<P∧2*k<P∧k<P∧2*k+1<P∧5≤P∧1≤P:=by omega
theorem DN (n:Nat) (w:World) (hn:n<pp):Calls Tryz.prog 69 #[Da (nD n)] w (gvn (.tuple #[Da (nD (xg n)),.bool (Fj n)]) w):=by
 obtain ⟨k,hk⟩:∃k,k+1=7237005577332262213973186563042994240829374041602535252466099000494570602494:=⟨7237005577332262213973186563042994240829374041602535252466099000494570602493,by decide⟩;have hp:pp=8*k+5:=by simp only [pp];omega
 have hm:∀x:Nat,x%pp<pp:=fun x=>Nat.mod_lt _ (by decide);have hpm:pp<mm:=by decide
 have lm:∀x:Nat,x<pp→x<mm:=fun x h=>Nat.lt_trans h hpm;have e0:=AV k hk n;have e1:=T4 k hk n;have iff:=NP.isS_iff (k:=k) (t:=ttN) NP.pr_P Zu hn;have pe:NP.PP=pp:=rfl;rw [pe,←e0] at iff;obtain ⟨a1,a2,a3,a4,a5,l1,l2,l3,l4,l5,l6,l7⟩:=FS pp k hp;have kl:k<mm:=lm k l4;have hl2:4*k+2<mm:=lm _ l1;have hl3:4*k<mm:=lm _ l2;have hl4:2*k<mm:=lm _ l3;have hl5:2*k+1<mm:=lm _ l5;have lp1:pp-1<mm:=Nat.lt_of_le_of_lt (Nat.sub_le _ _) hpm;have lp5:pp-5<mm:=Nat.lt_of_le_of_lt (Nat.sub_le _ _) hpm;have m0:0<mm:=by decide
 have m1:1<mm:=by decide
 have hr0:n^k%pp*n%pp=n^(k+1)%pp:=by rw [Nat.mod_mul_mod,←Nat.pow_succ]
 have htt:=ES (2*k+1) (by omega);have rtv:rtN n=if n^k%pp*n%pp*(n^k%pp*n%pp)%pp=n then n^k%pp*n%pp else n^k%pp*n%pp*ttN%pp:=by rw [e1,NP.rt,hr0]
 generalize hA:n^k%pp=A at *;have hAl:A<pp:=by rw [←hA];exact hm _
 generalize hE:n^(4*k+2)%pp=E at *;have hEl:E<pp:=by rw [←hE];exact hm _
 have hPow:∀W,Calls Tryz.prog 117 #[Da (nD n),Da (nD k)] W (gvn (Da (nD A)) W):=fun W=>by rw [←hA];exact Lk n k W (lm n hn) kl
 have hEul:∀W,Calls Tryz.prog 117 #[Da (nD n),Da (nD (4*k+2))] W (gvn (Da (nD E)) W):=fun W=>by rw [←hE];exact Lk n (4*k+2) W (lm n hn) hl2
 have hTurn:∀W,Calls Tryz.prog 117 #[Da (nD 2),Da (nD (2*k+1))] W (gvn (Da (nD ttN)) W):=fun W=>by rw [←htt];exact Lk 2 (2*k+1) W (by decide) hl5
 have hmin:∀a b:Nat,a<mm→b≤a→∀W,Calls Tryz.prog 115 #[Da (nD a),Da (nD b)] W (gvn (Da (nD (a-b))) W):=fun a b ha hb W=>Ik a b W ha hb;have hhalf:∀a b:Nat,a<mm→a/2=b→∀W,Calls Tryz.prog 118 #[Da (nD a)] W (gvn (Da (nD b)) W):=fun a b ha hb W=>by rw [←hb];exact OM a W ha
 have hleast:∀W,Calls Tryz.prog 67 #[Da (nD n)] W (gvn (Da (nD n)) W):=fun W=>by have h:=Jk n W (lm n hn);rw [yaj hn] at h;exact h
 clear hA hE htt e0 e1;generalize hR:A*n%pp=R at *;have hRl:R<pp:=by rw [←hR];exact hm _
 generalize hT:R*ttN%pp=T at *;have hTl:T<pp:=by rw [←hT];exact hm _
 have hRm:∀W,Calls Tryz.prog 68 #[Da (nD A),Da (nD n)] W (gvn (Da (nD R)) W):=fun W=>by rw [←hR];exact Mg A n W (lm A hAl) (lm n hn)
 have hTm:∀W,Calls Tryz.prog 68 #[Da (nD R),Da (nD ttN)] W (gvn (Da (nD T)) W):=fun W=>by rw [←hT];exact Mg R ttN W (lm R hRl) (by decide)
 refine EJ (nD n) (nD 0) (nD 1) (nD pp) (nD (pp-1)) (nD (4*k+2)) (nD E) (nD 5) (nD (pp-5)) (nD (4*k)) (nD (2*k)) (nD k) (nD A) (nD R) (nD (R*R%pp)) (nD 2) (nD (2*k+1)) (nD ttN) (nD T) (nD (pp-R)) (nD (pp-T)) (nD (xg n)) (R%4294967296) (T%4294967296)
  (decide (n=0)) (!decide (E=1)) (!decide (R*R%pp=n)) (decide (R%4294967296%2=1)) (decide (T%4294967296%2=1)) (Fj n) w rfl rfl rfl rfl rfl rfl rfl rfl
  hleast Ju (hmin pp 1 hpm l7) (hhalf (pp-1) (4*k+2) lp1 a1) hEul (hmin pp 5 hpm l6) (hhalf (pp-5) (4*k) lp5 a2) (hhalf (4*k) (2*k) hl3 a3) (hhalf (2*k) k hl4 a4)
  hPow hRm (fun W=>Mg R R W (lm R hRl) (lm R hRl)) (hhalf (4*k+2) (2*k+1) hl2 a5) hTurn hTm (hmin pp R hpm (Nat.le_of_lt hRl)) (hmin pp T hpm (Nat.le_of_lt hTl))
  NG yX zX GG (YU n 0 (lm n hn) m0) (FJ E 1 (lm E hEl) m1) (FJ (R*R%pp) n (lm _ (hm _)) (lm n hn)) (U4 R) (U4 T)
  (AN _) (fun h=>of_decide_eq_true h) (AN _) (fun h=>of_decide_eq_true h)
  (fun h=>?_) (fun h1 h2=>?_) (fun h1 h2 h3 h4=>?_) (fun h1 h2 h3 h4=>?_) (fun h1 h2 h3 h4=>?_) (fun h1 h2 h3 h4=>?_)
 ·have h0:=of_decide_eq_true h;have hs:Fj n=true:=iff.2 (.inl h0);refine ⟨?_,hs⟩;have hR0:R=0:=by rw [←hR,h0,Nat.mul_zero,Nat.zero_mod]
  have h6:rtN n=0:=by
   rw [rtv]
   split
   ·exact hR0
   ·rw [←hT,hR0,Nat.zero_mul,Nat.zero_mod]
  rw [xg,if_pos hs,h6,h0];rfl
 all_goals have hz:=of_decide_eq_false h1
 all_goals simp only [Bool.not_eq_true',Bool.not_eq_false',decide_eq_false_iff_not,decide_eq_true_eq] at *
 ·have hs:Fj n=false:=by
   rw [Bool.eq_false_iff];intro hs;rcases iff.1 hs with h|h
   ·exact hz h
   ·exact h2 h
  refine ⟨?_,hs⟩;rw [xg,if_neg (by rw [hs];decide)]
 all_goals
  have hs:Fj n=true:=iff.2 (.inr h2);refine ⟨?_,hs⟩;rw [xg,if_pos hs]
 ·rw [rtv,if_pos h3,Xz R 0 hRl (by omega),if_neg (by decide)]
 ·rw [rtv,if_pos h3,Xz R 1 hRl h4,if_pos rfl]
 ·rw [rtv,if_neg h3,Xz T 0 hTl (by omega),if_neg (by decide)]
 ·rw [rtv,if_neg h3,Xz T 1 hTl h4,if_pos rfl]
theorem qX (n:Nat) (w:World) (hn:n<pp) (hU:Tab w 10 ((Va ttN).map Ga)):
 Calls Tryz.prog 102 #[elV n] w (gvn (.tuple #[elV (xg n),.bool (Fj n)]) w):=by
 refine (J2 n w hn hU).mono fun e w' ⟨h1,h2⟩=>?_;cases h:Fj n
 ·rw [xg,if_neg (by rw [h];decide)];exact h2 h
 ·rw [xg,if_pos h];exact h1 h
def Md (E:Value) (w:World):Prop:=Tab w 9 ((Va Ag).map Ga)∧Tab w 4 ((Va Dk).map Ga)∧Tab w 5 ((Va Ck).map Ga)∧Tab w 10 ((Va ttN).map Ga)∧w.cell? ⟨1,0,none⟩=some E
theorem Md.below {E:Value} {w w':World} (h:Md E w) (hb:Below w.heap.size w w'):Md E w':=
 ⟨h.1.on hb,h.2.1.on hb,h.2.2.1.on hb,h.2.2.2.1.on hb,(hb.cell (block_lt_of_cell h.2.2.2.2)).trans h.2.2.2.2⟩
theorem JC (E:Value) (w:World) (h:Md E w):Calls Tryz.prog 100 #[] w (gvn (Aa (Va Ag)) w):=LR _ w rfl h.1 (Vm Ag)
theorem GS (E:Value) (w:World) (h:Md E w):Calls Tryz.prog 86 #[] w (gvn (Aa (Va Dk)) w):=MR _ w rfl h.2.1 (Vm Dk)
theorem IS (E:Value) (w:World) (h:Md E w):Calls Tryz.prog 87 #[] w (gvn (Aa (Va Ck)) w):=NR _ w rfl h.2.2.1 (Vm Ck)
theorem KC (w:World):Calls Tryz.prog 98 #[.int .i64 1] w (gvn (Aa (Va 1)) w):=by
 have h:=KR 1 w (by decide) (by decide);rw [show Tn 1=1 by decide+kernel] at h;exact h
def JS (x:List Nat) (y:List Nat) (g_base:Nat) (gy:Nat) (gr:Nat) (o:List Nat) (n:List Nat):List Value:=
 (Aa x)::(Aa y)::ptr g_base::ptr gy::ptr gr::(Aa x)::(Aa y)::(Aa o)::(Aa n)::[]
theorem V4 (x y o n:List Nat) (w:World)
 (Hx:Hid (x.length=5))
 (Hy:Hid (y.length=5))
 (Hn:Hid (n.length=15))
 (CS:Hid (∀W,Calls Tryz.prog 98 #[.int .i64 1] W (gvn (Aa o) W)))
 (BN:∀w,(Instr.build 55 #[(0,Aa x),(1,Aa y),(2,Aa o)]).run Tryz.prog w=.ok (Aa n) w):
 Calls Tryz.prog 58 #[Aa x,Aa y] w (gvn (Aa n) w):=by
 go_enter Tryz.func58,Tryz.ntmps58;go_wp2_with (first
  |(refine Ra rfl 53 (.tmp 0) rfl (x.map Ga) rfl ?_
    intro w1 hb1 hvx1;have hB1:=hb1;have hgex:w.heap.size≤w.heap.size:=Xaj _;clear hb1;try simp only [La]
    skip)
  |(refine Ra rfl 53 (.tmp 1) rfl (y.map Ga) rfl ?_
    intro w2 hb2 hvy2;have hB2:=Ba hB1 hb2;have hgey:w.heap.size≤w1.heap.size:=hB1.size;have hvx2:=hvx1.on hb2;have hnexy:=Vaj hvx1.lt;clear hB1 hvx1 hb2;try simp only [La]
    skip)
  |(refine Ma (o:=⟨some 4,_,_,_,_,_⟩) rfl 55 rfl (Na 15) Id ?_
    intro w3 hb3 hvr3;have hB3:=Ba hB2 hb3;have hger:w.heap.size≤w2.heap.size:=hB2.size;have hvx3:=hvx2.on hb3;have hnexr:=Vaj hvx2.lt;have hvy3:=hvy2.on hb3;have hneyr:=Vaj hvy2.lt;clear hB2 hvx2 hvy2 hb3;try simp only [La]
    skip))
 generalize hqy:w1.heap.size=gy at *;clear hqy;generalize hqr:w2.heap.size=gr at *;clear hqr;replace hvx3:=hvx3.drew;replace hvy3:=hvy3.drew;replace hvr3:=hvr3.drew;refine wp_region_any (by kernel_rfl) ?_;refine Ya (L:=[0,1,2,3]) (by kernel_rfl) _ _ (JS x y w.heap.size gy gr o n) [] 53 (Na 5) [0,1,2,3,4] (by kernel_rfl) (by kernel_rfl) ?_ Fb ?_ (by rfl) ?_ 1 (by kernel_rfl) ?_
 ·intro p hp;exact absurd hp List.not_mem_nil
 ·repeat refine Aak rfl ?_
  exact Qa
 ·refine Aak (.inr (mL 5 rfl fun w hb=>Gb (hvx3.on hb) Hx.out)) ?_;refine Aak (.inr (mL 6 rfl fun w hb=>Gb (hvy3.on hb) Hy.out)) ?_;refine Aak (.inr (mC 7 rfl Tryz.func98 fun w hb=>CS.out w)) ?_;refine Aak (.inr (mU 8 rfl BN)) ?_;exact Qa
 intro w4 g hb4 hN4 hap4;clear hN4 hap4;have hB4:=Ba (show Below w.heap.size w w3.drew from hB3.drew) hb4;have hvx4:=hvx3.on hb4;have hvy4:=hvy3.on hb4;have hvr4:=hvr3.on hb4;clear hB3 hvx3 hvy3 hvr3 hb4;refine Bb 4 rfl (by kernel_rfl) ?_;refine Ka rfl 55 (.tmp 4) (.tmp 8) rfl gr 15 (Na 15) (n.map Ga) rfl rfl hvr4 rfl Pb (by rw [Uaj,Hn.out]) (Oa _) ?_;intro w5 hb5 hvr5 hz5;have hB5:Below w.heap.size w w5:=hB4.trans (hb5.below hger hB4.size);have hvx5:=hvx4.but hb5 hnexr;have hvy5:=hvy4.but hb5 hneyr;clear hB4 hvr4 hb5 hz5 hvx4 hvy4;rename_i K hKK;show Exit.then K _ Exit.normal (⟨(JS x y w.heap.size gy gr o n).toArray,[]⟩:Act) w5;simp only [Exit.then];refine hKK _ _ ?_;clear hKK K g;simp only [JS,ptr]
 go_wp2
 exact qc Tryz.results58 gr (n.map Ga) rfl hvr5 Tryz.underlying55 rfl Pb (by rw [Uaj,Hn.out]) rfl ⟨rfl,hB5⟩
def LC (g_base:Nat) (z:List Nat) (o:List Nat) (r:List Nat):List Value:=
 ptr g_base::(Aa z)::(Aa o)::(Aa r)::[]
theorem KS (z o r:List Nat) (w:World)
 (Hr:Hid (r.length=15))
 (CS:Hid (∀W,Calls Tryz.prog 98 #[.int .i64 1] W (gvn (Aa o) W)))
 (CA:Hid (∀W,Calls Tryz.prog 58 #[Aa z,Aa o] W (gvn (Aa r) W)))
 (BZ:∀w,(Instr.build 53 #[]).run Tryz.prog w=.ok (Aa z) w):
 Calls Tryz.prog 105 #[] w (gvn (Aa r) w):=by
 go_enter Tryz.func105,Tryz.ntmps105
 go_upto_region 1 with (first
  |(refine Ma (o:=⟨some 0,_,_,_,_,_⟩) rfl 55 rfl (Na 15) Id ?_
    intro w1 hb1 hvr1;have hB1:=hb1;have hger:w.heap.size≤w.heap.size:=Xaj _;clear hb1;try simp only [Act.put,List.setIfInBounds_toArray,List.set_cons_zero]
    skip))
 refine Mb (md:=.any) (by kernel_rfl) ?_;refine Ya (L:=[0,1,2]) (by kernel_rfl) _ _ (LC w.heap.size z o r) [] 55 (Na 15) [0] (by kernel_rfl) (by kernel_rfl) ?_ Id ?_ (by rfl) ?_ 1 (by kernel_rfl) ?_
 ·intro p hp;exact absurd hp List.not_mem_nil
 ·exact Aak rfl (Qa)
 ·refine Aak (.inr (mU 1 rfl BZ)) ?_;refine Aak (.inr (mC 2 rfl Tryz.func98 fun w hb=>CS.out w)) ?_;refine Aak (.inr (mC 3 rfl Tryz.func58 fun w hb=>CA.out w)) ?_;exact Qa
 intro w2 g hb2 hN2 hap2;clear hN2 hap2;have hB2:=Ba hB1 hb2;have hvr2:=hvr1.on hb2;clear hB1 hvr1 hb2;refine Bb 3 rfl (by kernel_rfl) ?_;refine Ka rfl 55 (.tmp 0) (.tmp 3) rfl w.heap.size 15 (Na 15) (r.map Ga) rfl rfl hvr2 rfl Pb (by rw [Uaj,Hr.out]) (Oa _) ?_;intro w3 hb3 hvr3 hz3;have hB3:Below w.heap.size w w3:=hB2.trans (hb3.below hger hB2.size);clear hB2 hvr2 hb3 hz3;rename_i K hKK;show Exit.then K _ Exit.normal (⟨(LC w.heap.size z o r).toArray,[]⟩:Act) w3;simp only [Exit.then];refine hKK _ _ ?_;clear hKK K g;simp only [LC,ptr]
 go_wp2
 exact qc Tryz.results105 (w.heap.size) (r.map Ga) rfl hvr3 Tryz.underlying55 rfl Pb (by rw [Uaj,Hr.out]) rfl ⟨rfl,hB3⟩
theorem LS (x y r:List Nat) (E:Value) (w:World)
 (Hr:Hid (r.length=15))
 (CX:Hid (∀W,Md E W→Calls Tryz.prog 86 #[] W (gvn (Aa x) W)))
 (CY:Hid (∀W,Md E W→Calls Tryz.prog 87 #[] W (gvn (Aa y) W)))
 (CA:Hid (∀W,Calls Tryz.prog 58 #[Aa x,Aa y] W (gvn (Aa r) W)))
 (hS:Md E w):
 Calls Tryz.prog 40 #[] w (gvn (Aa r) w):=by
 go_enter Tryz.func40,Tryz.ntmps40;go_wp2_with (first
  |(refine Ma (o:=⟨some 0,_,_,_,_,_⟩) rfl 55 rfl (Na 15) Id ?_
    intro w1 hb1 hvr1;have hB1:=hb1;have hger:w.heap.size≤w.heap.size:=Xaj _;clear hb1;try simp only [Act.put,List.setIfInBounds_toArray,List.set_cons_zero]
    skip))
 refine (CX.out w1 (hS.below hB1)).mono ?_;rintro e w2 ⟨rfl,hb2⟩;have hB2:=Ba hB1 hb2;have hvr2:=hvr1.on hb2;clear hB1 hvr1 hb2;go_wp2_with fail
 refine (CY.out w2 (hS.below hB2)).mono ?_;rintro e w3 ⟨rfl,hb3⟩;have hB3:=Ba hB2 hb3;have hvr3:=hvr2.on hb3;clear hB2 hvr2 hb3;go_wp2_with fail
 refine (CA.out w3).mono ?_;rintro e w4 ⟨rfl,hb4⟩;have hB4:=Ba hB3 hb4;have hvr4:=hvr3.on hb4;clear hB3 hvr3 hb4;go_wp2_with (first
  |(refine Ka rfl 55 (.tmp 0) (.tmp 3) rfl w.heap.size 15 (Na 15) (r.map Ga) rfl rfl hvr4 rfl Pb (by rw [Uaj,Hr.out]) (Oa _) ?_
    intro w5 hb5 hvr5 hz5;have hB5:Below w.heap.size w w5:=hB4.trans (hb5.below hger hB4.size);clear hB4 hvr4 hb5 hz5;skip))
 exact qc Tryz.results40 (w.heap.size) (r.map Ga) rfl hvr5 Tryz.underlying55 rfl Pb (by rw [Uaj,Hr.out]) rfl ⟨rfl,hB5⟩
def GJ (la:List Nat) (lb:List Nat) (lc:List Nat) (ld:List Nat) (g_base:Nat) (gb:Nat) (gc:Nat) (gd:Nat) (gr:Nat) (ad:List Nat) (cb:List Nat) (bd:List Nat) (r:List Nat):List Value:=
 (Aa la)::(Aa lb)::(Aa lc)::(Aa ld)::ptr g_base::ptr gb::ptr gc::ptr gd::ptr gr::(Aa la)::(Aa ld)::(Aa ad)::(Aa lc)::(Aa lb)::(Aa cb)::(Aa lb)::(Aa ld)::(Aa bd)::(Aa r)::[]
theorem AY (la lb lc ld ad cb bd r:List Nat) (w:World)
 (Hla:Hid (la.length=5))
 (Hlb:Hid (lb.length=5))
 (Hlc:Hid (lc.length=5))
 (Hld:Hid (ld.length=5))
 (Hr:Hid (r.length=15))
 (C1:Hid (∀W,Calls Tryz.prog 63 #[Aa la,Aa ld] W (gvn (Aa ad) W)))
 (C2:Hid (∀W,Calls Tryz.prog 63 #[Aa lc,Aa lb] W (gvn (Aa cb) W)))
 (C3:Hid (∀W,Calls Tryz.prog 63 #[Aa lb,Aa ld] W (gvn (Aa bd) W)))
 (BR:∀w,(Instr.build 55 #[(0,Aa ad),(1,Aa cb),(2,Aa bd)]).run Tryz.prog w=.ok (Aa r) w):
 Calls Tryz.prog 132 #[Aa la,Aa lb,Aa lc,Aa ld] w (gvn (Aa r) w):=by
 go_enter Tryz.func132,Tryz.ntmps132;go_wp2_with (first
  |(refine Ra rfl 53 (.tmp 0) rfl (la.map Ga) rfl ?_
    intro w1 hb1 hva1;have hB1:=hb1;have hgea:w.heap.size≤w.heap.size:=Xaj _;clear hb1;try simp only [La]
    skip)
  |(refine Ra rfl 53 (.tmp 1) rfl (lb.map Ga) rfl ?_
    intro w2 hb2 hvb2;have hB2:=Ba hB1 hb2;have hgeb:w.heap.size≤w1.heap.size:=hB1.size;have hva2:=hva1.on hb2;have hneab:=Vaj hva1.lt;clear hB1 hva1 hb2;try simp only [La]
    skip)
  |(refine Ra rfl 53 (.tmp 2) rfl (lc.map Ga) rfl ?_
    intro w3 hb3 hvc3;have hB3:=Ba hB2 hb3;have hgec:w.heap.size≤w2.heap.size:=hB2.size;have hva3:=hva2.on hb3;have hneac:=Vaj hva2.lt;have hvb3:=hvb2.on hb3;have hnebc:=Vaj hvb2.lt;clear hB2 hva2 hvb2 hb3;try simp only [La]
    skip)
  |(refine Ra rfl 53 (.tmp 3) rfl (ld.map Ga) rfl ?_
    intro w4 hb4 hvd4;have hB4:=Ba hB3 hb4;have hged:w.heap.size≤w3.heap.size:=hB3.size;have hva4:=hva3.on hb4;have hnead:=Vaj hva3.lt;have hvb4:=hvb3.on hb4;have hnebd:=Vaj hvb3.lt;have hvc4:=hvc3.on hb4;have hnecd:=Vaj hvc3.lt;clear hB3 hva3 hvb3 hvc3 hb4;try simp only [La]
    skip)
  |(refine Ma (o:=⟨some 8,_,_,_,_,_⟩) rfl 55 rfl (Na 15) Id ?_
    intro w5 hb5 hvr5;have hB5:=Ba hB4 hb5;have hger:w.heap.size≤w4.heap.size:=hB4.size;have hva5:=hva4.on hb5;have hnear:=Vaj hva4.lt;have hvb5:=hvb4.on hb5;have hnebr:=Vaj hvb4.lt;have hvc5:=hvc4.on hb5;have hnecr:=Vaj hvc4.lt;have hvd5:=hvd4.on hb5;have hnedr:=Vaj hvd4.lt;clear hB4 hva4 hvb4 hvc4 hvd4 hb5;try simp only [La]
    skip))
 generalize hqb:w1.heap.size=gb at *;clear hqb;generalize hqc:w2.heap.size=gc at *;clear hqc;generalize hqd:w3.heap.size=gd at *;clear hqd;generalize hqr:w4.heap.size=gr at *;clear hqr;replace hva5:=hva5.drew;replace hvb5:=hvb5.drew;replace hvc5:=hvc5.drew;replace hvd5:=hvd5.drew;replace hvr5:=hvr5.drew;refine wp_region_any (by kernel_rfl) ?_;refine Ya (L:=[0,1,2,3,4,5,6,7,8,9]) (by kernel_rfl) _ _ (GJ la lb lc ld w.heap.size gb gc gd gr ad cb bd r) [] 53 (Na 5) [0,1,2,3,4,5,6,7,8] (by kernel_rfl) (by kernel_rfl) ?_ Fb ?_ (by rfl) ?_ 1 (by kernel_rfl) ?_
 ·intro p hp;exact absurd hp List.not_mem_nil
 ·repeat refine Aak rfl ?_
  exact Qa
 ·refine Aak (.inr (mL 9 rfl fun w hb=>Gb (hva5.on hb) Hla.out)) ?_;refine Aak (.inr (mL 10 rfl fun w hb=>Gb (hvd5.on hb) Hld.out)) ?_;refine Aak (.inr (mC 11 rfl Tryz.func63 fun w hb=>C1.out w)) ?_;refine Aak (.inr (mL 12 rfl fun w hb=>Gb (hvc5.on hb) Hlc.out)) ?_;refine Aak (.inr (mL 13 rfl fun w hb=>Gb (hvb5.on hb) Hlb.out)) ?_;refine Aak (.inr (mC 14 rfl Tryz.func63 fun w hb=>C2.out w)) ?_;refine Aak (.inr (mL 15 rfl fun w hb=>Gb (hvb5.on hb) Hlb.out)) ?_;refine Aak (.inr (mL 16 rfl fun w hb=>Gb (hvd5.on hb) Hld.out)) ?_;refine Aak (.inr (mC 17 rfl Tryz.func63 fun w hb=>C3.out w)) ?_;refine Aak (.inr (mU 18 rfl BR)) ?_;exact Qa
 intro w6 g hb6 hN6 hap6;clear hN6 hap6;have hB6:=Ba (show Below w.heap.size w w5.drew from hB5.drew) hb6;have hva6:=hva5.on hb6;have hvb6:=hvb5.on hb6;have hvc6:=hvc5.on hb6;have hvd6:=hvd5.on hb6;have hvr6:=hvr5.on hb6;clear hB5 hva5 hvb5 hvc5 hvd5 hvr5 hb6;refine Bb 10 rfl (by kernel_rfl) ?_;refine Ka rfl 55 (.tmp 8) (.tmp 18) rfl gr 15 (Na 15) (r.map Ga) rfl rfl hvr6 rfl Pb (by rw [Uaj,Hr.out]) (Oa _) ?_;intro w7 hb7 hvr7 hz7;have hB7:Below w.heap.size w w7:=hB6.trans (hb7.below hger hB6.size);have hva7:=hva6.but hb7 hnear;have hvb7:=hvb6.but hb7 hnebr;have hvc7:=hvc6.but hb7 hnecr;have hvd7:=hvd6.but hb7 hnedr;clear hB6 hvr6 hb7 hz7 hva6 hvb6 hvc6 hvd6;rename_i K hKK;show Exit.then K _ Exit.normal (⟨(GJ la lb lc ld w.heap.size gb gc gd gr ad cb bd r).toArray,[]⟩:Act) w7;simp only [Exit.then];refine hKK _ _ ?_;clear hKK K g;simp only [GJ,ptr]
 go_wp2
 exact qc Tryz.results132 gr (r.map Ga) rfl hvr7 Tryz.underlying55 rfl Pb (by rw [Uaj,Hr.out]) rfl ⟨rfl,hB7⟩
end Go.Proofs.YtoggkhjaghkpnaaGreatDoor
