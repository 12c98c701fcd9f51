/- Part 17 of what the laws of this seat share: BSmall, BTimes, BWith, BBytes, BOver, BRead, BReadN, UTold, UShare, URadix, UOf. -/
import Derived.Deep.Cut
import Derived.IntWalk
import Derived.Deep.QuietTactic
import Derived.BigQuiet
import Derived.Great.BuildSlice
import Derived.Test.YtoggkhjaghkpnaaGreatDoorPart16
set_option maxRecDepth 100000
set_option maxHeartbeats 8000000
namespace Go.Proofs.YtoggkhjaghkpnaaGreatDoor
open Go.RowKit
def PS (g_base:Nat) (o:List Nat):List Value:=
 (.pointer (some ⟨g_base,0,none⟩))::(Da o)::[]
theorem QS (o:List Nat) (w:World)
 (Ho:Hid (o.length=8))
 (BO:∀w,(Instr.build 66 #[(0,Ja 1)]).run Tryz.prog w=.ok (Da o) w):
 Calls Tryz.prog 71 #[] w (gvn (Da o) w):=by
 go_enter Tryz.func71,Tryz.ntmps71
 go_upto_region 1 with (first
  |(refine Ma (o:=⟨some 0,_,_,_,_,_⟩) rfl 66 rfl (Wa 8) Ac ?_
    intro w1 hb1 hvr1;have hB1:=hb1;have hger:w.heap.size≤w.heap.size:=Xaj _;clear hb1;try simp only [Act.put,List.setIfInBounds_toArray,List.set_cons_zero]
    skip))
 refine Mb (md:=.any) (by kernel_rfl) ?_;refine Ya (L:=[0]) (by kernel_rfl) _ _ (PS w.heap.size o) [] 66 (Wa 8) [0] (by kernel_rfl) (by kernel_rfl) ?_ Ac ?_ (by rfl) ?_ 1 (by kernel_rfl) ?_
 ·intro p hp;exact absurd hp List.not_mem_nil
 ·exact Aak rfl (Qa)
 ·refine Aak (.inr (mU 1 rfl BO)) ?_;exact Qa
 intro w2 g hb2 hN2 hap2;clear hN2 hap2;have hB2:=Ba hB1 hb2;have hvr2:=hvr1.on hb2;clear hB1 hvr1 hb2;refine Bb 1 rfl (by kernel_rfl) ?_;refine Ka rfl 66 (.tmp 0) (.tmp 1) rfl w.heap.size 8 (Wa 8) (o.map Ja) rfl rfl hvr2 rfl Za (by rw [Uaj,Ho.out]) (Ua _) ?_;intro w3 hb3 hvr3 hz3;have hB3:Below w.heap.size w w3:=hB2.trans (hb3.below hger hB2.size);clear hB2 hvr2 hb3 hz3;rename_i K hKK;show Exit.then K _ Exit.normal (⟨(PS w.heap.size o).toArray,[]⟩:Act) w3;simp only [Exit.then];refine hKK _ _ ?_;clear hKK K g;simp only [PS]
 go_wp2
 exact qc Tryz.results71 (w.heap.size) (o.map Ja) rfl hvr3 Tryz.underlying66 rfl Za (by rw [Uaj,Ho.out]) rfl ⟨rfl,hB3⟩
def yw (g_base:Nat) (o:List Nat) (r:List Nat):List Value:=
 ptr g_base::(Da o)::(Da o)::(Da r)::[]
theorem xN (o r:List Nat) (w:World)
 (Hr:Hid (r.length=24))
 (C1:Hid (∀W,Calls Tryz.prog 71 #[] W (gvn (Da o) W)))
 (BR:∀w,(Instr.build 68 #[(1,Da o),(2,Da o)]).run Tryz.prog w=.ok (Da r) w):
 Calls Tryz.prog 79 #[] w (gvn (Da r) w):=by
 go_enter Tryz.func79,Tryz.ntmps79
 go_upto_region 1 with (first
  |(refine Ma (o:=⟨some 0,_,_,_,_,_⟩) rfl 68 rfl (Wa 24) He ?_
    intro w1 hb1 hvr1;have hB1:=hb1;have hger:w.heap.size≤w.heap.size:=Xaj _;clear hb1;try simp only [Act.put,List.setIfInBounds_toArray,List.set_cons_zero]
    skip))
 refine Mb (md:=.any) (by kernel_rfl) ?_;refine Ya (L:=[0,1,2]) (by kernel_rfl) _ _ (yw w.heap.size o r) [] 68 (Wa 24) [0] (by kernel_rfl) (by kernel_rfl) ?_ He ?_ (by rfl) ?_ 1 (by kernel_rfl) ?_
 ·intro p hp;exact absurd hp List.not_mem_nil
 ·exact Aak rfl (Qa)
 ·refine Aak (.inr (mC 1 rfl Tryz.func71 fun w hb=>C1.out w)) ?_;refine Aak (.inr (mC 2 rfl Tryz.func71 fun w hb=>C1.out w)) ?_;refine Aak (.inr (mU 3 rfl BR)) ?_;exact Qa
 intro w2 g hb2 hN2 hap2;clear hN2 hap2;have hB2:=Ba hB1 hb2;have hvr2:=hvr1.on hb2;clear hB1 hvr1 hb2;refine Bb 3 rfl (by kernel_rfl) ?_;refine Ka rfl 68 (.tmp 0) (.tmp 3) rfl w.heap.size 24 (Wa 24) (r.map Ja) rfl rfl hvr2 rfl Jb (by rw [Uaj,Hr.out]) (Ua _) ?_;intro w3 hb3 hvr3 hz3;have hB3:Below w.heap.size w w3:=hB2.trans (hb3.below hger hB2.size);clear hB2 hvr2 hb3 hz3;rename_i K hKK;show Exit.then K _ Exit.normal (⟨(yw w.heap.size o r).toArray,[]⟩:Act) w3;simp only [Exit.then];refine hKK _ _ ?_;clear hKK K g;simp only [yw,ptr]
 go_wp2
 exact qc Tryz.results79 (w.heap.size) (r.map Ja) rfl hvr3 Tryz.underlying68 rfl Jb (by rw [Uaj,Hr.out]) rfl ⟨rfl,hB3⟩
def zw (g_base:Nat) (x:List Nat) (y:List Nat) (o:List Nat) (r:List Nat):List Value:=
 ptr g_base::(Da x)::(Da y)::(Da o)::(Da r)::[]
theorem yN (x y o r:List Nat) (w:World)
 (Hr:Hid (r.length=24))
 (C1:Hid (∀W,Calls Tryz.prog 95 #[] W (gvn (Da x) W)))
 (C2:Hid (∀W,Calls Tryz.prog 96 #[] W (gvn (Da y) W)))
 (C3:Hid (∀W,Calls Tryz.prog 71 #[] W (gvn (Da o) W)))
 (BR:∀w,(Instr.build 68 #[(0,Da x),(1,Da y),(2,Da o)]).run Tryz.prog w=.ok (Da r) w):
 Calls Tryz.prog 53 #[] w (gvn (Da r) w):=by
 go_enter Tryz.func53,Tryz.ntmps53
 go_upto_region 1 with (first
  |(refine Ma (o:=⟨some 0,_,_,_,_,_⟩) rfl 68 rfl (Wa 24) He ?_
    intro w1 hb1 hvr1;have hB1:=hb1;have hger:w.heap.size≤w.heap.size:=Xaj _;clear hb1;try simp only [Act.put,List.setIfInBounds_toArray,List.set_cons_zero]
    skip))
 refine Mb (md:=.any) (by kernel_rfl) ?_;refine Ya (L:=[0,1,2,3]) (by kernel_rfl) _ _ (zw w.heap.size x y o r) [] 68 (Wa 24) [0] (by kernel_rfl) (by kernel_rfl) ?_ He ?_ (by rfl) ?_ 1 (by kernel_rfl) ?_
 ·intro p hp;exact absurd hp List.not_mem_nil
 ·exact Aak rfl (Qa)
 ·refine Aak (.inr (mC 1 rfl Tryz.func95 fun w hb=>C1.out w)) ?_;refine Aak (.inr (mC 2 rfl Tryz.func96 fun w hb=>C2.out w)) ?_;refine Aak (.inr (mC 3 rfl Tryz.func71 fun w hb=>C3.out w)) ?_;refine Aak (.inr (mU 4 rfl BR)) ?_;exact Qa
 intro w2 g hb2 hN2 hap2;clear hN2 hap2;have hB2:=Ba hB1 hb2;have hvr2:=hvr1.on hb2;clear hB1 hvr1 hb2;refine Bb 4 rfl (by kernel_rfl) ?_;refine Ka rfl 68 (.tmp 0) (.tmp 4) rfl w.heap.size 24 (Wa 24) (r.map Ja) rfl rfl hvr2 rfl Jb (by rw [Uaj,Hr.out]) (Ua _) ?_;intro w3 hb3 hvr3 hz3;have hB3:Below w.heap.size w w3:=hB2.trans (hb3.below hger hB2.size);clear hB2 hvr2 hb3 hz3;rename_i K hKK;show Exit.then K _ Exit.normal (⟨(zw w.heap.size x y o r).toArray,[]⟩:Act) w3;simp only [Exit.then];refine hKK _ _ ?_;clear hKK K g;simp only [zw,ptr]
 go_wp2
 exact qc Tryz.results53 (w.heap.size) (r.map Ja) rfl hvr3 Tryz.underlying68 rfl Jb (by rw [Uaj,Hr.out]) rfl ⟨rfl,hB3⟩
theorem Bs {n:Nat} (h:n<pp):n<mm:=Nat.lt_trans h (by decide)
theorem Jh (n m:Nat) (W:World) (hn:n<pp) (hm:m<pp):Calls Tryz.prog 68 #[Da (nD n),Da (nD m)] W (gvn (Da (nD (fM n m))) W):=Mg n m W (Bs hn) (Bs hm)
theorem QJ (n m:Nat) (W:World) (hn:n<pp) (hm:m<pp):Calls Tryz.prog 73 #[Da (nD n),Da (nD m)] W (gvn (Da (nD (fA n m))) W):=TB n m W (Bs hn) (Bs hm)
theorem RJ (n m:Nat) (W:World) (hn:n<pp) (hm:m<pp):Calls Tryz.prog 70 #[Da (nD n),Da (nD m)] W (gvn (Da (nD (fS n m))) W):=by
 have h:=RR n m W (Bs hn) (Bs hm);rw [yaj hm] at h;exact h
theorem qw (w:World):Calls Tryz.prog 71 #[] w (gvn (Da (nD 1)) w):=
 QS (nD 1) w rfl (fun w=>by kernel_rfl)
theorem TC (w:World):Calls Tryz.prog 79 #[] w (gvn (Da (Pd (0,1,1))) w):=
 xN (nD 1) (Pd (0,1,1)) w rfl qw (QN (nD 1) (nD 1) rfl rfl)
def Ic:Tri:=(15112221349535400772501151409588531511454012693041857206046113283949847762202,46316835694926478169428394003475163141307993866256225615783033603165251855960,1)
theorem UC (w:World):Calls Tryz.prog 53 #[] w (gvn (Da (Pd Ic)) w):=
 yN (nD Dk) (nD Ck) (nD 1) (Pd Ic) w rfl TI SI qw (qm (nD Dk) (nD Ck) (nD 1) rfl rfl rfl)
def qu (t:Tri):Tri:=(fS 0 t.1,t.2.1,t.2.2)
theorem Ij (s t:Tri) (w:World) (h1:qd s) (h2:qd t):Calls Tryz.prog 78 #[Da (Pd s),Da (Pd t),Da (nD Ag)] w (gvn (Da (Pd (Oe s t))) w):=
 ZN (Pd s) (nD s.1) (nD s.2.1) (nD s.2.2) (Pd t) (nD t.1) (nD t.2.1) (nD t.2.2) (nD Ag) (nD (Hw s t)) (nD (yM s t)) (nD (qr s t)) (nD (As s t)) (nD (fM (qr s t) (As s t))) (nD (S4 s t)) (nD (Wu s t)) (nD (Xu s t)) (nD (fM s.1 t.2.1)) (nD (fM t.1 s.2.1)) (nD (Up s t)) (nD (fM (Hw s t) (Up s t)))
  (nD (Oe s t).1) (nD (fA (As s t) (qr s t))) (nD (fM (Hw s t) (fA (As s t) (qr s t)))) (nD (Oe s t).2.1) (nD (Oe s t).2.2) (Pd (Oe s t)) w rfl rfl rfl rfl rfl rfl rfl rfl rfl rfl rfl rfl rfl rfl rfl rfl rfl rfl rfl rfl
  (fun W=>Jh _ _ W h1.2.2 h2.2.2) (fun W=>Jh _ _ W (Lc _ _) (Lc _ _)) (fun W=>Jh _ _ W h1.1 h2.1) (fun W=>Jh _ _ W h1.2.1 h2.2.1) (fun W=>Jh _ _ W (Lc _ _) (Lc _ _)) (fun W=>Jh _ _ W (by decide) (Lc _ _))
  (fun W=>QJ _ _ W (Lc _ _) (Lc _ _)) (fun W=>RJ _ _ W (Lc _ _) (Lc _ _)) (fun W=>Jh _ _ W h1.1 h2.2.1) (fun W=>Jh _ _ W h2.1 h1.2.1) (fun W=>QJ _ _ W (Lc _ _) (Lc _ _)) (fun W=>Jh _ _ W (Lc _ _) (So _ _)) (fun W=>Jh _ _ W (Lc _ _) (Tp _ _))
  (fun W=>QJ _ _ W (Lc _ _) (Lc _ _)) (fun W=>Jh _ _ W (Lc _ _) (So _ _)) (fun W=>Jh _ _ W (Lc _ _) (So _ _)) (fun W=>Jh _ _ W (So _ _) (Tp _ _)) (qm _ _ _ rfl rfl rfl)
theorem SJ (key:List UInt8) (p dd z:List Nat) (X:Nat→List Nat) (w:World)
 (Hp:Hid (p.length=24))
 (Hz:Hid (z.length=24))
 (Hdd:Hid (dd.length=8))
 (HZ:Hid (X 256=z))
 (HL:Hid (∀j,(X j).length=24))
 (HR:Hid (∀k:Nat,k<256→∃(m:List Nat) (c:Bool) (q:UInt8),(∀W,Calls Tryz.prog 78 #[Da (X (k+1)),Da (X (k+1)),Da dd] W (gvn (Da m) W))∧m.length=24∧(c=false→X k=m)∧(c=true→∀W,Calls Tryz.prog 78 #[Da m,Da p,Da dd] W (gvn (Da (X k)) W))∧(key.map Fa)[k/8]? =some (Fa q)∧bits .and .u8 ((q.toNat:Int)/2^(k%8)) 1=if c then 1 else 0))
 (CC:Hid (∀W,Calls Tryz.prog 74 #[] W (gvn (Da dd) W)))
 (CZ:Hid (∀W,Calls Tryz.prog 79 #[] W (gvn (Da z) W))):
 Calls Tryz.prog 52 #[Da p,Ca key] w (gvn (Da (X 0)) w):=by
 go_enter Tryz.func52,Tryz.ntmps52;go_wp2_with (first
  |(refine Ra rfl 68 (.tmp 0) rfl (p.map Ja) rfl ?_
    intro w1 hb1 hvp1;have hB1:=hb1;have hgep:w.heap.size≤w.heap.size:=Xaj _;clear hb1;try simp only [La]
    skip)
  |(refine Ra rfl 22 (.tmp 1) rfl (key.map Fa) rfl ?_
    intro w2 hb2 hvk2;have hB2:=Ba hB1 hb2;have hgek:w.heap.size≤w1.heap.size:=hB1.size;have hvp2:=hvp1.on hb2;have hnepk:=Vaj hvp1.lt;clear hB1 hvp1 hb2;try simp only [La]
    skip)
  |(refine Ma (o:=⟨some 4,_,_,_,_,_⟩) rfl 68 rfl (Wa 24) He ?_
    intro w3 hb3 hvr3;have hB3:=Ba hB2 hb3;have hger:w.heap.size≤w2.heap.size:=hB2.size;have hvp3:=hvp2.on hb3;have hnepr:=Vaj hvp2.lt;have hvk3:=hvk2.on hb3;have hnekr:=Vaj hvk2.lt;clear hB2 hvp2 hvk2 hb3;try simp only [La]
    skip))
 generalize hqk:w1.heap.size=gk at *;clear hqk;generalize hqr:w2.heap.size=gr at *;clear hqr;refine (CC.out w3).mono ?_;rintro e w4 ⟨rfl,hb4⟩;have hB4:=Ba hB3 hb4;have hvp4:=hvp3.on hb4;have hvk4:=hvk3.on hb4;have hvr4:=hvr3.on hb4;clear hB3 hvp3 hvk3 hvr3 hb4;go_wp2_with (first
  |(refine Db rfl rfl 66 (.tmp 5) (.tmp 8) rfl rfl 8 (Wa 8) (dd.map Ja) rfl rfl Ac rfl Za (by rw [Uaj,Hdd.out]) (Ua _) ?_
    intro w5 hb5 hvd5;have hB5:=Ba hB4 hb5;have hged:w.heap.size≤w4.heap.size:=hB4.size;have hvp5:=hvp4.on hb5;have hnepd:=Vaj hvp4.lt;have hvk5:=hvk4.on hb5;have hnekd:=Vaj hvk4.lt;have hvr5:=hvr4.on hb5;have hnerd:=Vaj hvr4.lt;clear hB4 hvp4 hvk4 hvr4 hb5;try simp only [La]
    skip))
 generalize hqd:w4.heap.size=gd at *;clear hqd;refine (CZ.out w5).mono ?_;rintro e w6 ⟨rfl,hb6⟩;have hB6:=Ba hB5 hb6;have hvp6:=hvp5.on hb6;have hvk6:=hvk5.on hb6;have hvr6:=hvr5.on hb6;have hvd6:=hvd5.on hb6;clear hB5 hvp5 hvk5 hvr5 hvd5 hb6;go_wp2_with (first
  |(refine Db rfl rfl 68 (.tmp 6) (.tmp 9) rfl rfl 24 (Wa 24) (z.map Ja) rfl rfl He rfl Jb (by rw [Uaj,Hz.out]) (Ua _) ?_
    intro w7 hb7 hvo7;have hB7:=Ba hB6 hb7;have hgeo:w.heap.size≤w6.heap.size:=hB6.size;have hvp7:=hvp6.on hb7;have hnepo:=Vaj hvp6.lt;have hvk7:=hvk6.on hb7;have hneko:=Vaj hvk6.lt;have hvr7:=hvr6.on hb7;have hnero:=Vaj hvr6.lt;have hvd7:=hvd6.on hb7;have hnedo:=Vaj hvd6.lt;clear hB6 hvp6 hvk6 hvr6 hvd6 hb7;try simp only [La]
    skip))
 generalize hqo:w6.heap.size=go at *;clear hqo;replace hnepk:=Lib.hid hnepk;replace hnepr:=Lib.hid hnepr;replace hnekr:=Lib.hid hnekr;replace hnepd:=Lib.hid hnepd;replace hnekd:=Lib.hid hnekd;replace hnerd:=Lib.hid hnerd;replace hnepo:=Lib.hid hnepo;replace hneko:=Lib.hid hneko;replace hnero:=Lib.hid hnero;replace hnedo:=Lib.hid hnedo
 go_loopw [7] (fun t wr=>∃j:Nat,j≤256∧t=.int .i64 ((j:Int)-1)∧Below w.heap.size w wr∧Ia wr (w.heap.size) (p.map Ja) 68∧Ia wr gk (key.map Fa) 22∧Ia wr gr (Wa 24) 68∧Ia wr gd (dd.map Ja) 66∧Ia wr go ((X j).map Ja) 68) (fun t _=>((intOf t)+1).toNat)
 case atStart=>exact ⟨256,Xaj _,rfl,hB7,hvp7,hvk7,hvr7,hvd7,by rw [HZ.out];exact hvo7⟩
 case round=>
  clear hB7 hvp7 hvk7 hvr7 hvd7 hvo7;obtain ⟨j,hj,rfl,hBl,hvpl,hvkl,hvrl,hvdl,hvol⟩:=hrel;by_cases h0:0<j
  ·obtain ⟨k,rfl⟩:∃k,j=k+1:=⟨j-1,by omega⟩;have hk:k<256:=by omega
   have e1':(((k+1:Nat):Int)-1)=(k:Int):=by omega
   have i1:(0:Int)≤(k:Int):=by omega
   have i2:(k:Int)<256:=by omega
   have i3:IntKind.i64.wrap ((k:Int)-1)=(k:Int)-1:=IntWalk.i64_in _ (by omega);have i4:IntKind.u64.wrap ((k:Int)%8)=(k:Int)%8:=by rw [IntKind.wrap_u64];omega
   rw [e1'];obtain ⟨m,c,q,C1,Hm,hc0,hc1,hq,hbv⟩:=HR.out k hk;replace C1:=Lib.hid C1;have dq0:=Lib.hid hq;replace Hm:=Lib.hid Hm;have Hx:=Lib.hid (HL.out (k+1));have Hy:=Lib.hid (HL.out k);clear HR HL HZ CZ hq;obtain ⟨x,HXx⟩:=Nb (X (k+1));obtain ⟨y,HXy⟩:=Nb (X k);rw [HXx.out] at C1 Hx hvol;rw [HXy.out] at hc0 hc1 Hy;cases c
   ·have C2:=Lib.hid (hc0 rfl);clear hc0 hc1;go_wp2_with (first
     |(refine Pa rfl 68 (.tmp 6) rfl go 24 (x.map Ja) rfl hvol Tryz.underlying68 rfl Jb (by rw [Uaj,Hx.out]) ?_
       try simp only [La]
       skip)
     |(refine Pa rfl 68 (.tmp 6) rfl go 24 (x.map Ja) rfl hvol Tryz.underlying68 rfl Jb (by rw [Uaj,Hx.out]) ?_
       try simp only [La]
       skip)
     |(refine Pa rfl 66 (.tmp 5) rfl gd 8 (dd.map Ja) rfl hvdl Tryz.underlying66 rfl Za (by rw [Uaj,Hdd.out]) ?_
       try simp only [La]
       skip))
    refine (C1.out wr).mono ?_;rintro e w8 ⟨rfl,hb8⟩;have hB8:=Ba hBl hb8;have hvp8:=hvpl.on hb8;have hvk8:=hvkl.on hb8;have hvr8:=hvrl.on hb8;have hvd8:=hvdl.on hb8;have hvo8:=hvol.on hb8;clear hBl hvpl hvkl hvrl hvdl hvol hb8
    go_upto_region 7 with (first
     |(refine Ka rfl 68 (.tmp 6) (.tmp 17) rfl go 24 (x.map Ja) (m.map Ja) rfl rfl hvo8 (by rw [Uaj,Hx.out]) Jb (by rw [Uaj,Hm.out]) (Ua _) ?_
       intro w9 hb9 hvo9 hz9;have hB9:Below w.heap.size w w9:=hB8.trans (hb9.below hgeo hB8.size);have hvp9:=hvp8.but hb9 hnepo.out;have hvk9:=hvk8.but hb9 hneko.out;have hvr9:=hvr8.but hb9 hnero.out;have hvd9:=hvd8.but hb9 hnedo.out;clear hB8 hvo8 hb9 hz9 hvp8 hvk8 hvr8 hvd8;skip))
    have dq1:=hvk9.get dq0.out;go_wp2_with fail
    go_roundw
    case rel=>exact ⟨k,by omega,by go_num,hB9,hvp9,hvk9,hvr9,hvd9,by rw [HXy.out,C2.out];exact hvo9⟩
    case measure=>simp [intOf]<;>omega
   ·have C2:=Lib.hid (hc1 rfl);clear hc0 hc1;go_wp2_with (first
     |(refine Pa rfl 68 (.tmp 6) rfl go 24 (x.map Ja) rfl hvol Tryz.underlying68 rfl Jb (by rw [Uaj,Hx.out]) ?_
       try simp only [La]
       skip)
     |(refine Pa rfl 68 (.tmp 6) rfl go 24 (x.map Ja) rfl hvol Tryz.underlying68 rfl Jb (by rw [Uaj,Hx.out]) ?_
       try simp only [La]
       skip)
     |(refine Pa rfl 66 (.tmp 5) rfl gd 8 (dd.map Ja) rfl hvdl Tryz.underlying66 rfl Za (by rw [Uaj,Hdd.out]) ?_
       try simp only [La]
       skip))
    refine (C1.out wr).mono ?_;rintro e w10 ⟨rfl,hb10⟩;have hB10:=Ba hBl hb10;have hvp10:=hvpl.on hb10;have hvk10:=hvkl.on hb10;have hvr10:=hvrl.on hb10;have hvd10:=hvdl.on hb10;have hvo10:=hvol.on hb10;clear hBl hvpl hvkl hvrl hvdl hvol hb10
    go_upto_region 7 with (first
     |(refine Ka rfl 68 (.tmp 6) (.tmp 17) rfl go 24 (x.map Ja) (m.map Ja) rfl rfl hvo10 (by rw [Uaj,Hx.out]) Jb (by rw [Uaj,Hm.out]) (Ua _) ?_
       intro w11 hb11 hvo11 hz11;have hB11:Below w.heap.size w w11:=hB10.trans (hb11.below hgeo hB10.size);have hvp11:=hvp10.but hb11 hnepo.out;have hvk11:=hvk10.but hb11 hneko.out;have hvr11:=hvr10.but hb11 hnero.out;have hvd11:=hvd10.but hb11 hnedo.out;clear hB10 hvo10 hb11 hz11 hvp10 hvk10 hvr10 hvd10;skip))
    have dq1:=hvk11.get dq0.out;go_wp2_with (first
     |(refine Pa rfl 68 (.tmp 6) rfl go 24 (m.map Ja) rfl hvo11 Tryz.underlying68 rfl Jb (by rw [Uaj,Hm.out]) ?_
       try simp only [La]
       skip)
     |(refine Pa rfl 68 (.tmp 2) rfl w.heap.size 24 (p.map Ja) rfl hvp11 Tryz.underlying68 rfl Jb (by rw [Uaj,Hp.out]) ?_
       try simp only [La]
       skip)
     |(refine Pa rfl 66 (.tmp 5) rfl gd 8 (dd.map Ja) rfl hvd11 Tryz.underlying66 rfl Za (by rw [Uaj,Hdd.out]) ?_
       try simp only [La]
       skip))
    refine (C2.out w11).mono ?_;rintro e w12 ⟨rfl,hb12⟩;have hB12:=Ba hB11 hb12;have hvp12:=hvp11.on hb12;have hvk12:=hvk11.on hb12;have hvr12:=hvr11.on hb12;have hvd12:=hvd11.on hb12;have hvo12:=hvo11.on hb12;clear hB11 hvp11 hvk11 hvr11 hvd11 hvo11 hb12;go_wp2_with (first
     |(refine Ka rfl 68 (.tmp 6) (.tmp 31) rfl go 24 (m.map Ja) (y.map Ja) rfl rfl hvo12 (by rw [Uaj,Hm.out]) Jb (by rw [Uaj,Hy.out]) (Ua _) ?_
       intro w13 hb13 hvo13 hz13;have hB13:Below w.heap.size w w13:=hB12.trans (hb13.below hgeo hB12.size);have hvp13:=hvp12.but hb13 hnepo.out;have hvk13:=hvk12.but hb13 hneko.out;have hvr13:=hvr12.but hb13 hnero.out;have hvd13:=hvd12.but hb13 hnedo.out;clear hB12 hvo12 hb13 hz13 hvp12 hvk12 hvr12 hvd12;skip))
    go_roundw
    case rel=>exact ⟨k,by omega,by go_num,hB13,hvp13,hvk13,hvr13,hvd13,by rw [HXy.out];exact hvo13⟩
    case measure=>simp [intOf]<;>omega
  ·obtain rfl:j=0:=by omega
   rw [show (((0:Nat):Int)-1)= -1 from rfl];have Hx:=Lib.hid (HL.out 0);clear HR HL HZ CZ;go_wp2_with (first
    |(refine Pa rfl 68 (.tmp 6) rfl go 24 ((X 0).map Ja) rfl hvol Tryz.underlying68 rfl Jb (by rw [Uaj,Hx.out]) ?_
      try simp only [La]
      skip)
    |(refine Ka rfl 68 (.tmp 4) (.tmp 32) rfl gr 24 (Wa 24) ((X 0).map Ja) rfl rfl hvrl rfl Jb (by rw [Uaj,Hx.out]) (Ua _) ?_
      intro w14 hb14 hvr14 hz14;have hB14:Below w.heap.size w w14:=hBl.trans (hb14.below hger hBl.size);have hvp14:=hvpl.but hb14 hnepr.out;have hvk14:=hvkl.but hb14 hnekr.out;have hvd14:=hvdl.but hb14 (Ne.symm hnerd.out);have hvo14:=hvol.but hb14 (Ne.symm hnero.out);clear hBl hvrl hb14 hz14 hvpl hvkl hvdl hvol;skip))
   exact qc Tryz.results52 gr ((X 0).map Ja) rfl hvr14 Tryz.underlying68 rfl Jb (by rw [Uaj,Hx.out]) rfl ⟨rfl,hB14⟩
end Go.Proofs.YtoggkhjaghkpnaaGreatDoor
namespace Go.Proofs.YtoggkhjaghkpnaaGreatDoor
open Go.RowKit
def VC (p:List Nat) (g_base:Nat) (gr:Nat) (pz:List Nat) (iv:List Nat):List Value:=
 (Da p)::ptr g_base::ptr gr::ud 4 ((.pointer (some ⟨g_base,16,none⟩))::(Da pz)::(Da iv)::ud 19 [])
def yp (p:List Nat) (g_base:Nat) (gr:Nat) (pz:List Nat) (iv:List Nat) (n3:Nat):List Value:=
 (Da p)::ptr g_base::ptr gr::ptr n3::ud 3 ((.pointer (some ⟨g_base,16,none⟩))::(Da pz)::(Da iv)::ud 19 [])
def Av (p:List Nat) (g_base:Nat) (gr:Nat) (gv:Nat) (pz:List Nat) (iv:List Nat) (px:List Nat) (xx:List Nat) (py:List Nat) (yy:List Nat):List Value:=
 (Da p)::ptr g_base::ptr gr::ptr gv::ud 3 ((.pointer (some ⟨g_base,16,none⟩))::(Da pz)::(Da iv)::ptr g_base::(Da px)::(Da iv)::(Da xx)::(.pointer (some ⟨g_base,8,none⟩))::(Da py)::(Da iv)::(Da yy)::ud 11 [])
def Em (p:List Nat) (g_base:Nat) (gr:Nat) (gv:Nat) (pz:List Nat) (iv:List Nat) (px:List Nat) (xx:List Nat) (py:List Nat) (yy:List Nat) (n4 n5:Nat):List Value:=
 (Da p)::ptr g_base::ptr gr::ptr gv::ptr n4::ptr n5::undef::(.pointer (some ⟨g_base,16,none⟩))::(Da pz)::(Da iv)::ptr g_base::(Da px)::(Da iv)::(Da xx)::(.pointer (some ⟨g_base,8,none⟩))::(Da py)::(Da iv)::(Da yy)::ud 11 []
theorem TJ (p px py pz iv xx yy:List Nat) (kb kc:List UInt8) (x0:Nat) (q v:UInt8) (c:Bool) (w:World)
 (Hpx:Hid (px.length=8))
 (Hpy:Hid (py.length=8))
 (Hpz:Hid (pz.length=8))
 (Hiv:Hid (iv.length=8))
 (Hxx:Hid (xx.length=8))
 (Hyy:Hid (yy.length=8))
 (Hkb:Hid (kb.length=32))
 (Hkc:Hid (kc.length=32))
 (Fp:Hid (p=px++py++pz))
 (D0:Hid ((xx.map Ja)[0]? =some (Ja x0)))
 (HP:Hid (x0%2=bif c then 1 else 0))
 (D1:Hid ((kb.map Fa)[31]? =some (Fa q)))
 (HV:Hid (IntKind.u8.wrap ((q.toNat:Int)+128)=(v.toNat:Int)))
 (HC:Hid (kc=kb.set 31 v))
 (CI:Hid (∀W,Calls Tryz.prog 72 #[Da pz] W (gvn (Da iv) W)))
 (CX:Hid (∀W,Calls Tryz.prog 68 #[Da px,Da iv] W (gvn (Da xx) W)))
 (CY:Hid (∀W,Calls Tryz.prog 68 #[Da py,Da iv] W (gvn (Da yy) W)))
 (CE:Hid (∀W,Calls Tryz.prog 77 #[Da yy] W (gvn (Ca kb) W))):
 Calls Tryz.prog 33 #[Da p] w (gvn (Ca (bif c then kc else kb)) w):=by
 go_enter Tryz.func33,Tryz.ntmps33
 go_upto_region 1 with (first
  |(refine Ra rfl 68 (.tmp 0) rfl (p.map Ja) rfl ?_
    intro w1 hb1 hvp1;have hB1:=hb1;have hgep:w.heap.size≤w.heap.size:=Xaj _;clear hb1;try simp only [La]
    skip)
  |(refine Ma (o:=⟨some 2,_,_,_,_,_⟩) rfl 22 rfl Xa Dc ?_
    intro w2 hb2 hvr2;have hB2:=Ba hB1 hb2;have hger:w.heap.size≤w1.heap.size:=hB1.size;have hvp2:=hvp1.on hb2;have hnepr:=Vaj hvp1.lt;clear hB1 hvp1 hb2;try simp only [La]
    skip))
 generalize hqr:w1.heap.size=gr at *;clear hqr;refine Mb (md:=.any) (by kernel_rfl) ?_;refine Ya (L:=[0,1,2,3]) (by kernel_rfl) _ _ (VC p w.heap.size gr pz iv) [(3,3)] 66 (Wa 8) [0,1,2,4,5,6,10,11,12,13,14,15,16,17,18,19,20,21,22,23,24,25,26,27,28] (by kernel_rfl) (by kernel_rfl) ?_ Ac ?_ (by rfl) ?_ 1 (by kernel_rfl) ?_
 ·intro p hp;rcases List.mem_cons.1 hp with rfl|hp
  ·exact ⟨⟨_,rfl,rfl,rfl,rfl,by kernel_rfl,by kernel_rfl⟩⟩
  exact absurd hp List.not_mem_nil
 ·repeat refine Aak rfl ?_
  exact Qa
 ·refine Aak (.inr (mF 7 rfl (zu _))) ?_;refine Aak (.inr (mL 8 rfl fun w hb=>Zz (hvp2.on hb) Fp.out Hpx.out Hpy.out Hpz.out)) ?_;refine Aak (.inr (mC 9 rfl Tryz.func72 fun w hb=>CI.out w)) ?_;refine Aak (.inl ⟨(3,3),by simp,rfl⟩) ?_;exact Qa
 intro w3 g hb3 hN3 hap3;obtain ⟨hgev,hvv3⟩:=hN3 (3,3) (by simp);clear hN3 hap3;have hB3:=Ba hB2 hb3;have hltp:w.heap.size<w2.heap.size:=hvp2.lt;have hltr:gr<w2.heap.size:=hvr2.lt;have hvp3:=hvp2.on hb3;have hvr3:=hvr2.on hb3;rw [show Oc g [(3,3)] (VC p w.heap.size gr pz iv)=yp p w.heap.size gr pz iv (g 3) from rfl];replace hgev:w2.heap.size≤g 3:=hgev;replace hvv3:Ia w3 (g 3) (Wa 8) 66:=hvv3;have hnepv:w.heap.size≠g 3:=Vaj (Waj hltp hgev);have hnerv:gr≠g 3:=Vaj (Waj hltr hgev);replace hgev:w.heap.size≤g 3:=Nat.le_trans (show w.heap.size≤w2.heap.size from hB2.size) hgev;clear hltp hltr;generalize g 3=gv at *;clear hB2 hvp2 hvr2 hb3;refine Bb 4 rfl (by kernel_rfl) ?_;refine Ka rfl 66 (.tmp 3) (.tmp 9) rfl gv 8 (Wa 8) (iv.map Ja) rfl rfl hvv3 rfl Za (by rw [Uaj,Hiv.out]) (Ua _) ?_;intro w4 hb4 hvv4 hz4;have hB4:Below w.heap.size w w4:=hB3.trans (hb4.below hgev hB3.size);have hvp4:=hvp3.but hb4 hnepv;have hvr4:=hvr3.but hb4 hnerv;clear hB3 hvv3 hb4 hz4 hvp3 hvr3;rename_i K hKK;show Exit.then K _ Exit.normal (⟨(yp p w.heap.size gr pz iv gv).toArray,[]⟩:Act) w4;simp only [Exit.then];refine hKK _ _ ?_;clear hKK K g;simp only [yp,ptr,ud];go_wp2_with fail
 replace hvp4:=hvp4.drew;replace hvr4:=hvr4.drew;replace hvv4:=hvv4.drew;refine wp_region_any (by kernel_rfl) ?_;refine Qf (L:=[0,1,2,3,4,5,6,7,8,9,10,11]) (by kernel_rfl) _ _ (Av p w.heap.size gr gv pz iv px xx py yy) [(8,4),(9,5)] (fun _=>66) (fun _=>(Wa 8)) (fun s=>bif s==4 then some (10,xx.map Ja) else bif s==5 then some (11,yy.map Ja) else none) [0,1,2,3,6,7,8,9,18,19,20,21,22,23,24,25,26,27,28] (by kernel_rfl) (by kernel_rfl) ?_ (fun _ _=>Ac) ?_ ?_ ?_ (by rfl) ?_ 0 (by kernel_rfl) ?_
 ·intro p hp;rcases List.mem_cons.1 hp with rfl|hp
  ·exact ⟨⟨_,rfl,rfl,rfl,rfl,by kernel_rfl,by kernel_rfl⟩⟩
  rcases List.mem_cons.1 hp with rfl|hp
  ·exact ⟨⟨_,rfl,rfl,rfl,rfl,by kernel_rfl,by kernel_rfl⟩⟩
  exact absurd hp List.not_mem_nil
 ·intro p hp j l h;rcases List.mem_cons.1 hp with rfl|hp
  ·change some (10,xx.map Ja)=some (j,l) at h;cases h
   exact ⟨⟨_,13,rfl,rfl,rfl,rfl,by kernel_rfl,by kernel_rfl,by kernel_rfl,rfl,by rw [Uaj,Hxx.out];exact Za,by rw [Uaj,Hxx.out];rfl,Ua _⟩,by decide⟩
  rcases List.mem_cons.1 hp with rfl|hp
  ·change some (11,yy.map Ja)=some (j,l) at h;cases h
   exact ⟨⟨_,17,rfl,rfl,rfl,rfl,by kernel_rfl,by kernel_rfl,by kernel_rfl,rfl,by rw [Uaj,Hyy.out];exact Za,by rw [Uaj,Hyy.out];rfl,Ua _⟩,by decide⟩
  exact absurd hp List.not_mem_nil
 ·intro p hp q hq j l l2 h1 h2;rcases List.mem_cons.1 hp with rfl|hp
  ·rcases List.mem_cons.1 hq with rfl|hq
   ·rfl
   rcases List.mem_cons.1 hq with rfl|hq
   ·change some (10,_)=some (j,l) at h1;change some (11,_)=some (j,l2) at h2;exact absurd ((Prod.mk.inj (Option.some.inj h1)).1.trans (Prod.mk.inj (Option.some.inj h2)).1.symm) (by decide)
   exact absurd hq List.not_mem_nil
  rcases List.mem_cons.1 hp with rfl|hp
  ·rcases List.mem_cons.1 hq with rfl|hq
   ·change some (11,_)=some (j,l) at h1;change some (10,_)=some (j,l2) at h2;exact absurd ((Prod.mk.inj (Option.some.inj h1)).1.trans (Prod.mk.inj (Option.some.inj h2)).1.symm) (by decide)
   rcases List.mem_cons.1 hq with rfl|hq
   ·rfl
   exact absurd hq List.not_mem_nil
  exact absurd hp List.not_mem_nil
 ·repeat refine Aak rfl ?_
  exact Qa
 ·refine Aak (.inr (.inl (mF 10 rfl (An _)))) ?_;refine Aak (.inr (.inl (mL 11 rfl fun w hb=>Gr (hvp4.on hb) Fp.out Hpx.out))) ?_;refine Aak (.inr (.inl (mL 12 rfl fun w hb=>Sb (hvv4.on hb) Hiv.out))) ?_;refine Aak (.inr (.inl (mC 13 rfl Tryz.func68 fun w hb=>CX.out w))) ?_;refine Aak (.inr (.inl (mF 14 rfl (Bn _)))) ?_;refine Aak (.inr (.inl (mL 15 rfl fun w hb=>Ir (hvp4.on hb) Fp.out Hpx.out Hpy.out))) ?_;refine Aak (.inr (.inl (mL 16 rfl fun w hb=>Sb (hvv4.on hb) Hiv.out))) ?_;refine Aak (.inr (.inl (mC 17 rfl Tryz.func68 fun w hb=>CY.out w))) ?_;refine Aak (.inl ⟨(8,4),by simp,rfl⟩) ?_;refine Aak (.inl ⟨(9,5),by simp,rfl⟩) ?_;refine Aak (.inr (.inr ⟨(8,4),by simp,_,rfl⟩)) ?_;refine Aak (.inr (.inr ⟨(9,5),by simp,_,rfl⟩)) ?_;exact Qa
 intro w5 g hb5 hN5 hap5;obtain ⟨hgex,hvx5⟩:=hN5 (8,4) (by simp);obtain ⟨hgey,hvy5⟩:=hN5 (9,5) (by simp);have hnexy:=hap5 (8,4) (by simp) (9,5) (by simp) (by decide);clear hN5 hap5;have hB5:=Ba (show Below w.heap.size w w4.drew from hB4.drew) hb5;have hltp:w.heap.size<w4.heap.size:=hvp4.lt;have hltr:gr<w4.heap.size:=hvr4.lt;have hltv:gv<w4.heap.size:=hvv4.lt;have hvp5:=hvp4.on hb5;have hvr5:=hvr4.on hb5;have hvv5:=hvv4.on hb5;rw [show Oc g [(8,4),(9,5)] (Av p w.heap.size gr gv pz iv px xx py yy)=Em p w.heap.size gr gv pz iv px xx py yy (g 4) (g 5) from rfl];replace hgex:w4.heap.size≤g 4:=hgex;replace hvx5:Ia w5 (g 4) (xx.map Ja) 66:=hvx5;replace hgey:w4.heap.size≤g 5:=hgey;replace hvy5:Ia w5 (g 5) (yy.map Ja) 66:=hvy5;replace hnexy:g 4≠g 5:=hnexy;have hnepx:w.heap.size≠g 4:=Vaj (Waj hltp hgex);have hnerx:gr≠g 4:=Vaj (Waj hltr hgex);have hnevx:gv≠g 4:=Vaj (Waj hltv hgex);replace hgex:w.heap.size≤g 4:=Nat.le_trans (show w.heap.size≤w4.heap.size from hB4.size) hgex;have hnepy:w.heap.size≠g 5:=Vaj (Waj hltp hgey);have hnery:gr≠g 5:=Vaj (Waj hltr hgey);have hnevy:gv≠g 5:=Vaj (Waj hltv hgey);replace hgey:w.heap.size≤g 5:=Nat.le_trans (show w.heap.size≤w4.heap.size from hB4.size) hgey;clear hltp hltr hltv;generalize g 4=gx at *;generalize g 5=gy at *;clear hB4 hvp4 hvr4 hvv4 hb5;refine ⟨by kernel_rfl,?_⟩;rename_i K hKK;show Exit.then K _ Exit.normal (⟨(Em p w.heap.size gr gv pz iv px xx py yy gx gy).toArray,[]⟩:Act) w5;simp only [Exit.then];refine hKK _ _ ?_;clear hKK K g;simp only [Em,ptr,ud];go_wp2_with (first
  |(refine Pa rfl 66 (.tmp 5) rfl gy 8 (yy.map Ja) rfl hvy5 Tryz.underlying66 rfl Za (by rw [Uaj,Hyy.out]) ?_
    try simp only [La]
    skip))
 refine (CE.out w5).mono ?_;rintro e w6 ⟨rfl,hb6⟩;have hB6:=Ba hB5 hb6;have hvp6:=hvp5.on hb6;have hvr6:=hvr5.on hb6;have hvv6:=hvv5.on hb6;have hvx6:=hvx5.on hb6;have hvy6:=hvy5.on hb6;clear hB5 hvp5 hvr5 hvv5 hvx5 hvy5 hb6
 go_upto_region 4 with (first
  |(refine Db rfl rfl 22 (.tmp 6) (.tmp 19) rfl rfl 32 Xa (kb.map Fa) rfl rfl Dc rfl Kb (by rw [Uaj,Hkb.out]) (Ab _) ?_
    intro w7 hb7 hvo7;have hB7:=Ba hB6 hb7;have hgeo:w.heap.size≤w6.heap.size:=hB6.size;have hvp7:=hvp6.on hb7;have hnepo:=Vaj hvp6.lt;have hvr7:=hvr6.on hb7;have hnero:=Vaj hvr6.lt;have hvv7:=hvv6.on hb7;have hnevo:=Vaj hvv6.lt;have hvx7:=hvx6.on hb7;have hnexo:=Vaj hvx6.lt;have hvy7:=hvy6.on hb7;have hneyo:=Vaj hvy6.lt;clear hB6 hvp6 hvr6 hvv6 hvx6 hvy6 hb7;try simp only [La]
    skip))
 generalize hqo:w6.heap.size=go at *;clear hqo;have dx:=hvx7.get D0.out;have i1:(0:Int)≤(x0:Int):=by omega
 cases c
 ·have hq:=HV.out;have i2:x0%2=0:=HP.out;have i3:(x0:Int).tmod 2=0:=by rw [Int.tmod_eq_emod_of_nonneg i1];omega
  have i4:(x0:Int)%2=0:=by omega
  clear HP i2
  go_upto_region 6 with fail
  clear dx i1 i3 i4;go_wp2_with (first
   |(refine Pa rfl 22 (.tmp 6) rfl go 32 (kb.map Fa) rfl hvo7 Tryz.underlying22 rfl Kb (by rw [Uaj,Hkb.out]) ?_
     try simp only [La]
     skip)
   |(refine Ka rfl 22 (.tmp 2) (.tmp 28) rfl gr 32 Xa (kb.map Fa) rfl rfl hvr7 rfl Kb (by rw [Uaj,Hkb.out]) (Ab _) ?_
     intro w8 hb8 hvr8 hz8;have hB8:Below w.heap.size w w8:=hB7.trans (hb8.below hger hB7.size);have hvp8:=hvp7.but hb8 hnepr;have hvv8:=hvv7.but hb8 (Ne.symm hnerv);have hvx8:=hvx7.but hb8 (Ne.symm hnerx);have hvy8:=hvy7.but hb8 (Ne.symm hnery);have hvo8:=hvo7.but hb8 (Ne.symm hnero);clear hB7 hvr7 hb8 hz8 hvp7 hvv7 hvx7 hvy7 hvo7;skip))
  exact qc Tryz.results33 gr (kb.map Fa) rfl hvr8 Tryz.underlying22 rfl Kb (by rw [Uaj,Hkb.out]) rfl ⟨rfl,hB8⟩
 ·have hq:=HV.out;have i2:x0%2=1:=HP.out;have i3:(x0:Int).tmod 2=1:=by rw [Int.tmod_eq_emod_of_nonneg i1];omega
  have i4:(x0:Int)%2=1:=by omega
  clear HP i2
  go_upto_region 5 with fail
  clear dx i1 i3 i4;have dq:=hvo7.get D1.out;have hT:=hvo7.there 31 1 (by rw [Uaj,Hkb.out];decide);have hE:=Lib.hid (hvo7.set 31 (Fa v))
  go_upto_region 6 with (first
   |(refine Qb rfl 5 _ _ rfl go 31 .u8 (v.toNat:Int) rfl rfl Qc hT ?_
     intro w9 hw9;have hB9:Below w.heap.size w w9:=by rw [hw9];exact hB7.setCell (p:=⟨go,31,none⟩) hgeo _
     have hvo9:Ia w9 go (kc.map Fa) 22:=by rw [hw9,HC.out,List.map_set];exact hE.out
     have hvr9:Ia w9 gr Xa 22:=by rw [hw9];exact hvr7.other hnero _
     clear hw9 hT hE dq hB7 hvp7 hvr7 hvv7 hvx7 hvy7 hvo7;skip))
  go_wp2_with (first
   |(refine Pa rfl 22 (.tmp 6) rfl go 32 (kc.map Fa) rfl hvo9 Tryz.underlying22 rfl Kb (by rw [Uaj,Hkc.out]) ?_
     try simp only [La]
     skip)
   |(refine Ka rfl 22 (.tmp 2) (.tmp 28) rfl gr 32 Xa (kc.map Fa) rfl rfl hvr9 rfl Kb (by rw [Uaj,Hkc.out]) (Ab _) ?_
     intro w10 hb10 hvr10 hz10;have hB10:Below w.heap.size w w10:=hB9.trans (hb10.below hger hB9.size);have hvo10:=hvo9.but hb10 (Ne.symm hnero);clear hB9 hvr9 hb10 hz10 hvo9;skip))
  exact qc Tryz.results33 gr (kc.map Fa) rfl hvr10 Tryz.underlying22 rfl Kb (by rw [Uaj,Hkc.out]) rfl ⟨rfl,hB10⟩
theorem qN:qd (0,1,1):=⟨by show 0<pp;decide,by show 1<pp;decide,by show 1<pp;decide⟩
theorem zp:qd Ic:=⟨by show _<pp;decide,by show _<pp;decide,by show 1<pp;decide⟩
theorem T9 (b:Nat→Bool) (t:Tri):∀j,qd (Vp b t j)
 |0=>qN
 |j+1=>by
  show qd (bif b (255-j) then _ else _);cases b (255-j)<;>exact Ul _ _
theorem SS (key:List UInt8) (hk:key.length=32) (k:Nat) (h:k<256):(key.map Fa)[k/8]? =some (Fa (key.getD (k/8) 0))∧bits .and .u8 (((key.getD (k/8) 0).toNat:Int)/2^(k%8)) 1=if Ld key k then 1 else 0:=
 ⟨by rw [List.getElem?_map,Yaj,xaj (by omega)];rfl,M9 _ _ _ (UInt8.toNat_lt _) (Nat.mod_lt _ (by decide)) rfl⟩
theorem DO (t:Tri) (key:List UInt8) (w:World) (hk:key.length=32) (h:qd t):Calls Tryz.prog 52 #[Da (Pd t),Ca key] w (gvn (Da (Pd (Vp (Ld key) t 256))) w):=by
 refine SJ key (Pd t) (nD Ag) (Pd (0,1,1)) (fun j=>Pd (Vp (Ld key) t (256-j))) w rfl rfl rfl rfl (fun _=>rfl) ?_ Vn TC;intro k hk2;have e1:256-k=(255-k)+1:=by omega
 have e2:256-(k+1)=255-k:=by omega
 have e3:255-(255-k)=k:=by omega
 have L:=T9 (Ld key) t (255-k);refine ⟨Pd (Oe (Vp (Ld key) t (255-k)) (Vp (Ld key) t (255-k))),Ld key k,_,?_,rfl,?_,?_,SS key hk k hk2⟩
 ·intro W;show Calls Tryz.prog 78 #[Da (Pd (Vp (Ld key) t (256-(k+1)))),Da (Pd (Vp (Ld key) t (256-(k+1)))),Da (nD Ag)] W _;rw [e2];exact Ij _ _ W L L
 ·intro hc;show Pd (Vp (Ld key) t (256-k))=_;rw [e1];show Pd (bif Ld key (255-(255-k)) then _ else _)=_;rw [e3,hc];rfl
 ·intro hc W;show Calls Tryz.prog 78 _ W (gvn (Da (Pd (Vp (Ld key) t (256-k)))) W);rw [e1];show Calls Tryz.prog 78 _ W (gvn (Da (Pd (bif Ld key (255-(255-k)) then _ else _))) W);rw [e3,hc];exact Ij _ _ W (Ul _ _) h
def ptB (x y:Nat):List UInt8:=Ob (y+x%2*57896044618658097711785492504343953926634992332820282019728792003956564819968) 32
theorem US (y i:Nat) (h:i<31):Ec (y+57896044618658097711785492504343953926634992332820282019728792003956564819968) i=Ec y i:=by
 have e:(57896044618658097711785492504343953926634992332820282019728792003956564819968:Nat)=256^i*(256*(128*256^(30-i))):=by
  have e2:256^i*(256*(128*256^(30-i)))=128*(256^i*256*256^(30-i)):=by
   generalize 256^i=a;generalize 256^(30-i)=b
   grind
  rw [e2,←Nat.pow_succ,←Nat.pow_add,show i.succ+(30-i)=31 by omega]
 unfold Ec;rw [e,Nat.add_mul_div_left _ _ (Nat.pow_pos (by decide))];generalize 128*256^(30-i)=r;generalize y/256^i=s;apply UInt8.toNat_inj.1;rw [UInt8.toNat_ofNat',UInt8.toNat_ofNat'];omega
theorem FY (y:Nat):Ec (y+57896044618658097711785492504343953926634992332820282019728792003956564819968) 31=Ec y 31+128:=by
 have e:(57896044618658097711785492504343953926634992332820282019728792003956564819968:Nat)=256^31*128:=by decide+kernel
 unfold Ec;rw [e,Nat.add_mul_div_left _ _ (Nat.pow_pos (by decide))];generalize y/256^31=s;apply UInt8.toNat_inj.1;rw [UInt8.toNat_add,UInt8.toNat_ofNat',UInt8.toNat_ofNat'];show _=(s%256+128)%256;omega
theorem Bv (x k i:Nat) (h:i<k):(Ob x k)[i]? =some (Ec x i):=by
 rw [Ob,List.getElem?_map,List.getElem?_range h];rfl
theorem JV (x y:Nat) (h:x%2=1):ptB x y=(Ob y 32).set 31 (Ec y 31+128):=by
 rw [ptB,h,Nat.one_mul];apply List.ext_getElem?;intro i;by_cases h1:i<32
 ·by_cases h2:i=31
  ·subst h2;rw [Bv _ _ _ h1,List.getElem?_set_self (by rw [Ta];exact h1),FY]
  ·rw [Bv _ _ _ h1,List.getElem?_set_ne (Ne.symm h2),Bv _ _ _ h1,US y i (by omega)]
 ·rw [List.getElem?_eq_none (by rw [Ta];omega),List.getElem?_eq_none (by rw [List.length_set,Ta];omega)]
theorem WC (x y:Nat) (h:x%2=0):ptB x y=Ob y 32:=by
 rw [ptB,h,Nat.zero_mul,Nat.add_zero]
theorem Dl (x y:Nat):(ptB x y).length=32:=Ta _ _
theorem SG (y:Nat) (h:y<pp):(Ec y 31).toNat<128:=by
 unfold Ec;rw [UInt8.toNat_ofNat'];have:y/256^31<128:=by
  rw [Nat.div_lt_iff_lt_mul (Nat.pow_pos (by decide))];exact Nat.lt_trans h (by decide+kernel)
 omega
theorem My (t:Tri) (w:World) (h:qd t):Calls Tryz.prog 33 #[Da (Pd t)] w (gvn (Ca (ptB (fM t.1 (ivN t.2.2)) (fM t.2.1 (ivN t.2.2)))) w):=by
 have hi:ivN t.2.2<pp:=Nat.mod_lt _ (by decide);have hy:=Lc t.2.1 (ivN t.2.2);have H:=TJ (Pd t) (nD t.1) (nD t.2.1) (nD t.2.2) (nD (ivN t.2.2)) (nD (fM t.1 (ivN t.2.2))) (nD (fM t.2.1 (ivN t.2.2))) (Ob (fM t.2.1 (ivN t.2.2)) 32) ((Ob (fM t.2.1 (ivN t.2.2)) 32).set 31 (Ec (fM t.2.1 (ivN t.2.2)) 31+128)) (fM t.1 (ivN t.2.2)%4294967296) (Ec (fM t.2.1 (ivN t.2.2)) 31) (Ec (fM t.2.1 (ivN t.2.2)) 31+128) (decide (fM t.1 (ivN t.2.2)%2=1)) w
  rfl rfl rfl rfl rfl rfl (Ta _ _) (by show _=_;rw [List.length_set,Ta]) rfl rfl ?_ ?_ ?_ rfl (fun W=>Cm t.2.2 W (Bs h.2.2)) (fun W=>Jh _ _ W h.1 hi) (fun W=>Jh _ _ W h.2.1 hi) (fun W=>VI _ W)
 ·rcases Nat.mod_two_eq_zero_or_one (fM t.1 (ivN t.2.2)) with e|e
  ·rw [show decide (fM t.1 (ivN t.2.2)%2=1)=false from decide_eq_false (by omega)] at H;rw [WC _ _ e];exact H
  ·rw [show decide (fM t.1 (ivN t.2.2)%2=1)=true from decide_eq_true e] at H;rw [JV _ _ e];exact H
 ·show _=_;generalize fM t.1 (ivN t.2.2)=n;by_cases e:n%2=1
  ·rw [decide_eq_true e];show _=1;omega
  ·rw [decide_eq_false e];show _=0;omega
 ·show _=_;rw [List.getElem?_map,Bv _ _ _ (by decide)];rfl
 ·show _=_;have hb:=SG _ hy;generalize Ec (fM t.2.1 (ivN t.2.2)) 31=q at *;rw [IntKind.wrap_u8,UInt8.toNat_add];show _=(((q.toNat+128)%256:Nat):Int);omega
end Go.Proofs.YtoggkhjaghkpnaaGreatDoor
namespace Go.Proofs.YtoggkhjaghkpnaaGreatDoor
open Go.RowKit
def Fd (b:List UInt8):Nat:=lev (b.set 31 (b.getD 31 0%128))
def Ii (b:List UInt8):Bool:=decide (128≤(b.getD 31 0).toNat)
def xj (y:Nat):Nat:=fM (fS (fM y y) 1) (ivN (fA (fM Ag (fM y y)) 1))
def Hg (b:List UInt8):Nat:=xg (xj (Fd b))
def Uc (b:List UInt8):Bool:=(decide (Fd b<pp)&&Fj (xj (Fd b)))&& !(Ii b&&decide (Hg b=0))
def Rf (b:List UInt8):Tri:=bif Uc b then (bif Ii b then fS 0 (Hg b) else Hg b,Fd b,1) else (0,0,0)
theorem Kh (n m:Nat) (W:World) (hn:n<pp) (hm:m<pp):Calls Tryz.prog 63 #[Aa (Va n),Aa (Va m)] W (gvn (Aa (Va (fM n m))) W):=zk n m W hn hm
theorem qs (n m:Nat) (W:World) (hn:n<pp) (hm:m<pp):Calls Tryz.prog 101 #[Aa (Va n),Aa (Va m)] W (gvn (Aa (Va (fA n m))) W):=P1 n m W hn hm
theorem XC (n m:Nat) (W:World) (hn:n<pp) (hm:m<pp):Calls Tryz.prog 59 #[Aa (Va n),Aa (Va m)] W (gvn (Aa (Va (fS n m))) W):=AB n m W hn hm
theorem YC (n:Nat) (W:World) (hn:n<pp):Calls Tryz.prog 99 #[Aa (Va n)] W (gvn (Aa (Va (fM n n))) W):=Uj n W hn
theorem Vad (n:Nat):ivN n=pwN n 57896044618658097711785492504343953926634992332820282019728792003956564819947:=by
 have h:pp-2=57896044618658097711785492504343953926634992332820282019728792003956564819947:=by decide
 unfold ivN pwN;rw [h]
theorem YS (n:Nat):ivN n<pp:=Nat.mod_lt _ (by decide)
theorem E5 (n:Nat) (W:World) (hn:n<pp):Calls Tryz.prog 62 #[Aa (Va n)] W (gvn (Aa (Va (ivN n))) W):=by
 rw [Vad];exact xQ n W hn
theorem UJ (x y:Nat) (w:World):Calls Tryz.prog 58 #[Aa (Va x),Aa (Va y)] w (gvn (Aa (Zc (x,y,1))) w):=
 V4 (Va x) (Va y) (Va 1) (Zc (x,y,1)) w rfl rfl rfl KC (zM _ _ _ rfl rfl rfl)
theorem TG (w:World):Calls Tryz.prog 105 #[] w (gvn (Aa (Zc (0,1,1))) w):=
 KS (Va 0) (Va 1) (Zc (0,1,1)) w rfl KC (UJ 0 1) Dj
theorem UG (E:Value) (w:World) (hS:Md E w):Calls Tryz.prog 40 #[] w (gvn (Aa (Zc Ic)) w):=
 LS (Va Dk) (Va Ck) (Zc Ic) E w rfl (GS E) (IS E) (UJ Dk Ck) hS
theorem FO (a b c d:Nat) (w:World) (ha:a<pp) (hb:b<pp) (hc:c<pp) (hd:d<pp):Calls Tryz.prog 132 #[Aa (Va a),Aa (Va b),Aa (Va c),Aa (Va d)] w (gvn (Aa (Zc (X4 a b c d))) w):=
 AY (Va a) (Va b) (Va c) (Va d) (Va (fM a d)) (Va (fM c b)) (Va (fM b d)) (Zc (X4 a b c d)) w rfl rfl rfl rfl rfl (fun W=>Kh a d W ha hd) (fun W=>Kh c b W hc hb) (fun W=>Kh b d W hb hd) (zM _ _ _ rfl rfl rfl)
theorem U9 (t:Tri) (w:World) (h:qd t):Calls Tryz.prog 131 #[Aa (Zc t)] w (gvn (Aa (Zc (twT t))) w):=by
 refine IN (Zc t) (Va t.1) (Va t.2.1) (Va t.2.2) (Va (LN t)) (Va (MN t)) (Va (Qw t)) (Va (MJ t)) (Va (xp t)) (Va (fA (MJ t) (MJ t))) (Va (fA (MN t) (LN t))) (Va (fA (Qw t) (Qw t))) (Va (fS (fA (Qw t) (Qw t)) (xp t))) (Zc (twT t)) w rfl rfl rfl rfl rfl rfl rfl rfl rfl rfl
  ?_ ?_ ?_ ?_ ?_ ?_ ?_ ?_ ?_ ?_
 ·exact fun W=>YC t.1 W h.1
 ·exact fun W=>YC t.2.1 W h.2.1
 ·exact fun W=>YC t.2.2 W h.2.2
 ·exact fun W=>Kh t.1 t.2.1 W h.1 h.2.1
 ·exact fun W=>XC (MN t) (LN t) W (Lc _ _) (Lc _ _)
 ·exact fun W=>qs (MJ t) (MJ t) W (Lc _ _) (Lc _ _)
 ·exact fun W=>qs (MN t) (LN t) W (Lc _ _) (Lc _ _)
 ·exact fun W=>qs (Qw t) (Qw t) W (Lc _ _) (Lc _ _)
 ·exact fun W=>XC _ (xp t) W (So _ _) (Tp _ _)
 ·exact fun W=>FO _ (xp t) _ _ W (So _ _) (Tp _ _) (So _ _) (Tp _ _)
theorem GO (E:Value) (s t:Tri) (w:World) (h1:qd s) (h2:qd t) (hS:Md E w):Calls Tryz.prog 107 #[Aa (Zc s),Aa (Zc t)] w (gvn (Aa (Zc (KJ s t))) w):=by
 refine BY (Zc s) (Va s.1) (Va s.2.1) (Va s.2.2) (Zc t) (Va t.1) (Va t.2.1) (Va t.2.2) (Va (IE s t)) (Va (NS s t)) (Va (yu s t)) (Va (fM s.1 t.2.1)) (Va (fM s.2.1 t.1)) (Va (Yp s t)) (Va (Zp s t)) (Va (Mk s t)) (Va Ag) (Va (fM Ag (IE s t))) (Va (Nk s t)) (Va (fM (Yp s t) (yu s t))) (Va (fA (Mk s t) (Nk s t))) (Va (fM (Zp s t) (yu s t))) (Va (fS (Mk s t) (Nk s t))) (Zc (KJ s t)) E w rfl rfl rfl rfl rfl rfl rfl rfl rfl rfl rfl rfl rfl rfl rfl rfl
  (fun W=>Kh s.1 t.1 W h1.1 h2.1) (fun W=>Kh s.2.1 t.2.1 W h1.2.1 h2.2.1) (fun W=>Kh s.2.2 t.2.2 W h1.2.2 h2.2.2) (fun W=>Kh s.1 t.2.1 W h1.1 h2.2.1) (fun W=>Kh s.2.1 t.1 W h1.2.1 h2.1)
  (fun W=>qs (fM s.1 t.2.1) (fM s.2.1 t.1) W (Lc _ _) (Lc _ _)) (fun W=>qs (NS s t) (IE s t) W (Lc _ _) (Lc _ _)) (fun W=>YC (yu s t) W (Lc _ _)) (fun W=>Kh Ag (IE s t) W (by decide) (Lc _ _)) (fun W=>Kh (fM Ag (IE s t)) (NS s t) W (Lc _ _) (Lc _ _))
  (fun W=>Kh (Yp s t) (yu s t) W (So _ _) (Lc _ _)) (fun W=>qs (Mk s t) (Nk s t) W (Lc _ _) (Lc _ _)) (fun W=>Kh (Zp s t) (yu s t) W (So _ _) (Lc _ _)) (fun W=>XC (Mk s t) (Nk s t) W (Lc _ _) (Lc _ _))
  (JC E) (fun W=>FO _ _ _ _ W (Lc _ _) (So _ _) (Lc _ _) (Tp _ _)) hS
theorem Eak (t:Tri) (w:World) (h:qd t):Calls Tryz.prog 27 #[Aa (Zc t)] w (gvn (Aa (Zc (qu t))) w):=by
 refine DY (Zc t) (Va t.1) (Va t.2.1) (Va t.2.2) (Va 0) (Va (fS 0 t.1)) (Zc (qu t)) w rfl rfl rfl rfl rfl (DJ (Va (fS 0 t.1)) (Va t.1) (Va t.2.1) (Va t.2.2) rfl) Dj ?_;exact fun W=>XC 0 t.1 W (by decide) h.1
theorem V9 (q:UInt8) (h:q.toNat<128):bits .or .u8 (q.toNat:Int) 128=((q+128).toNat:Int):=by
 have key:∀n:Fin 128,bits .or .u8 ((n.val:Nat):Int) 128=((n.val+128:Nat):Int):=by decide+kernel
 have h2:=key ⟨q.toNat,h⟩;have e:(q+128).toNat=q.toNat+128:=by
  rw [UInt8.toNat_add];show (q.toNat+128)%256=_;omega
 rw [e];exact h2
theorem ZS (t:Tri) (w:World) (h:qd t):Calls Tryz.prog 29 #[Aa (Zc t)] w (gvn (Ca (ptB (fM t.1 (ivN t.2.2)) (fM t.2.1 (ivN t.2.2)))) w):=by
 have hy:=Lc t.2.1 (ivN t.2.2);have H:=JN (Zc t) (Va t.1) (Va t.2.1) (Va t.2.2) (Va (ivN t.2.2)) (Va (fM t.2.1 (ivN t.2.2))) (Va (fM t.1 (ivN t.2.2))) (Ob (fM t.2.1 (ivN t.2.2)) 32) ((Ob (fM t.2.1 (ivN t.2.2)) 32).set 31 (Ec (fM t.2.1 (ivN t.2.2)) 31+128)) (Ec (fM t.2.1 (ivN t.2.2)) 31) (Ec (fM t.2.1 (ivN t.2.2)) 31+128) (decide (fM t.1 (ivN t.2.2)%2=1)) w
  rfl rfl rfl rfl (Ta _ _) (by show _=_;rw [List.length_set];exact Ta _ _) rfl (by show _=_;rw [List.getElem?_map,Bv _ _ _ (by decide)];rfl) (V9 _ (SG _ hy)) rfl (fun W=>E5 _ W h.2.2) (fun W=>Kh _ _ W h.1 (YS _)) (fun W=>Kh _ _ W h.2.1 (YS _)) (fun W=>KB _ W hy) (fun W=>TU _ W)
 have e:(bif decide (fM t.1 (ivN t.2.2)%2=1) then (Ob (fM t.2.1 (ivN t.2.2)) 32).set 31 (Ec (fM t.2.1 (ivN t.2.2)) 31+128) else Ob (fM t.2.1 (ivN t.2.2)) 32)=ptB (fM t.1 (ivN t.2.2)) (fM t.2.1 (ivN t.2.2)):=by
  rcases Nat.mod_two_eq_zero_or_one (fM t.1 (ivN t.2.2)) with e|e
  ·rw [decide_eq_false (by omega),cond_false,WC _ _ e]
  ·rw [decide_eq_true e,cond_true,JV _ _ e]
 rw [e] at H;exact H
theorem GY (E:Value) (y:Nat) (w:World) (hy:y<pp) (hS:Md E w):Calls Tryz.prog 56 #[Aa (Va y)] w (gvn (.tuple #[Aa (Va (xg (xj y))),.bool (Fj (xj y))]) w):=by
 refine MS (Va y) (Va 1) (Va (fM y y)) (Va Ag) (Va (fM Ag (fM y y))) (Va (fA (fM Ag (fM y y)) 1)) (Va (ivN (fA (fM Ag (fM y y)) 1))) (Va (fS (fM y y) 1)) (Va (xj y)) (Va (xg (xj y))) (Fj (xj y)) E w rfl rfl rfl rfl rfl KC (fun W=>YC y W hy) (JC E) (fun W=>Kh Ag (fM y y) W (by decide) (Lc _ _)) (fun W=>qs (fM Ag (fM y y)) 1 W (Lc _ _) (by decide)) (fun W=>E5 _ W (So _ _)) (fun W=>XC (fM y y) 1 W (Lc _ _) (by decide)) (fun W=>Kh (fS (fM y y) 1) (ivN (fA (fM Ag (fM y y)) 1)) W (Tp _ _) (YS _)) (fun W hW=>qX (xj y) W (Lc _ _) hW.2.2.2.1) hS
abbrev Af (v:Value):Value:=v
def Th (l:List Value):Value:=.agg (l.map Af).toArray
abbrev Jj:List Value:=Na 240++Xa
theorem At:∀w,(zeroValue 105).run Tryz.prog w=.ok (.agg Jj.toArray) w:=(zero_of_info (P:=Tryz.prog) (t:=105) (v:=.agg Jj.toArray) (n:=272) (by kernel_rfl)).1
theorem El:(Tryz.prog.info? 105).map (·.size)=some 272:=by kernel_rfl
theorem Wad {l:List UInt8} (h:l.length=32):∃a0 a1 a2 a3 a4 a5 a6 a7 a8 a9 a10 a11 a12 a13 a14 a15 a16 a17 a18 a19 a20 a21 a22 a23 a24 a25 a26 a27 a28 a29 a30 a31,l= [a0,a1,a2,a3,a4,a5,a6,a7,a8,a9,a10,a11,a12,a13,a14,a15,a16,a17,a18,a19,a20,a21,a22,a23,a24,a25,a26,a27,a28,a29,a30,a31]:=by
 match l,h with
 | [a0,a1,a2,a3,a4,a5,a6,a7,a8,a9,a10,a11,a12,a13,a14,a15,a16,a17,a18,a19,a20,a21,a22,a23,a24,a25,a26,a27,a28,a29,a30,a31],_=>exact ⟨a0,a1,a2,a3,a4,a5,a6,a7,a8,a9,a10,a11,a12,a13,a14,a15,a16,a17,a18,a19,a20,a21,a22,a23,a24,a25,a26,a27,a28,a29,a30,a31,rfl⟩
theorem JO (key:List UInt8) (hk:key.length=32) (w:World):(Instr.build 105 #[(1,Ca key)]).run Tryz.prog w=.ok (Th (Na 240++key.map Fa)) w:=by
 obtain ⟨a0,a1,a2,a3,a4,a5,a6,a7,a8,a9,a10,a11,a12,a13,a14,a15,a16,a17,a18,a19,a20,a21,a22,a23,a24,a25,a26,a27,a28,a29,a30,a31,rfl⟩:=Wad hk
 kernel_rfl
theorem G5 (g o:Nat) (w:World):(Instr.fieldAt 105 (.pointer (some ⟨g,o,none⟩)) 0).run Tryz.prog w=.ok (.pointer (some ⟨g,o,none⟩)) w:=by kernel_rfl
theorem ZC (g:Nat) (w:World):(Instr.fieldAt 105 (.pointer (some ⟨g,0,none⟩)) 0).run Tryz.prog w=.ok (.pointer (some ⟨g,0,none⟩)) w:=G5 g 0 w
theorem VJ (g o k:Nat) (ik:IntKind) (hk:k<16) (w:World):(Instr.indexAt 103 (.pointer (some ⟨g,o,none⟩)) (.int ik (k:Int))).run Tryz.prog w=.ok (.pointer (some ⟨g,o+k*15,none⟩)) w:=
 MG (by kernel_rfl) Pb g o k hk w
theorem I5 (g o m k:Nat) (ik:IntKind) (hk:k<m) (w:World):(Instr.indexAt 145 (.slice (some ⟨g,o,none⟩) m m) (.int ik (k:Int))).run Tryz.prog w=.ok (.pointer (some ⟨g,o+k*272,none⟩)) w:=
 Ky (by kernel_rfl) El g o k hk w
theorem J5 {w:World} {g:Nat} {vs:List Value} {t':TypeId} (hC:Ia w g vs t') (o:Nat) (x:List Nat) (hx:x.length=15) (hv:(vs.drop o).take 15=x.map Ga):(Instr.loadAt 55 (.pointer (some ⟨g,o,none⟩))).run Tryz.prog w=.ok (Aa x) w:=by
 have hr:=hC.range o 15;rw [hv] at hr;exact run_loadAt_mid w g o 55 (x.map Ga) _ hr Tryz.underlying55 rfl (by rw [Uaj,hx];exact Pb)
theorem xC:∀(cs:List Value) (k off:Nat) (A:List Value),off+k+cs.length≤A.length→
 (cs.zipIdx k).foldl (fun a (p:Value×Nat)=>a.setIfInBounds (off+p.2) p.1) A.toArray=(Ub A (off+k) cs).toArray
 | [],k,off,A,_=>by simp [Ub]
 |c::cs,k,off,A,h=>by
  rw [List.length_cons] at h;rw [List.zipIdx_cons,List.foldl_cons];simp only [List.setIfInBounds_toArray];rw [xC cs (k+1) off (A.set (off+k) c) (by rw [List.length_set];omega)];rw [show off+(k+1)=off+k+1 by omega,DA _ _ _ _ (by omega)]
theorem Cn (l:List Value) (off:Nat) (A:List Value) (h:off+l.length≤A.length):
 (l.toArray.zipIdx).foldl (fun a (p:Value×Nat)=>a.setIfInBounds (off+p.2) p.1) A.toArray=(Ub A off l).toArray:=by
 have e:=xC l 0 off A (by omega);simpa using e
theorem Py (l:List Value):(Th l).cells=l.toArray:=by
 show (l.map Af).toArray=l.toArray;rw [show l.map Af=l from List.map_id l]
theorem yC:∃i0,Tryz.prog.info? 105=some i0∧i0.size=272∧i0.zero=some (.agg Jj.toArray):=by
 have h:(Tryz.prog.info? 105).map (fun i=>(i.size,i.zero))=some (272,some (.agg Jj.toArray)):=by kernel_rfl
 obtain ⟨i0,h1,h2⟩:=Option.map_eq_some_iff.1 h;exact ⟨i0,h1,(Prod.mk.inj h2).1,(Prod.mk.inj h2).2⟩
theorem KO (n:Nat):∃A:List Value,A.length=n∧A.toArray=(Array.range n).map (fun x=>(Value.cells (.agg Jj.toArray))[x%(Value.cells (.agg Jj.toArray)).size]!):=
 ⟨((Array.range n).map (fun x=>(Value.cells (.agg Jj.toArray))[x%(Value.cells (.agg Jj.toArray)).size]!)).toList,by simp,Array.toArray_toList⟩
theorem IY (s:List Value) (hs:s.length=272) (w:World):(Instr.buildSlice 145 1 #[(0,Th s)]).run Tryz.prog w=.ok (.slice (some ⟨w.heap.size,0,none⟩) 1 1) (w.alloc (.cells (s.map Af).toArray 105)):=by
 obtain ⟨i0,hi0,hs0,hz0⟩:=yC;refine run_buildSlice w _ _ 1 _ _ i0 _ (by kernel_rfl) hi0 hz0 (by rw [hs0];decide) (by rw [hs0];decide) ?_;rw [hs0];obtain ⟨A,hl,hA⟩:=KO (1*272);rw [←hA];simp only [Instr.fill,Py];rw [if_neg (by simp [hs,hl])];rw [Nat.zero_mul,Cn s 0 A (by omega),Xb _ _ (by omega),show s.map Af=s from List.map_id s]
theorem JY (s t:List Value) (hs:s.length=272) (ht:t.length=272) (w:World):(Instr.buildSlice 145 2 #[(0,Th s),(1,Th t)]).run Tryz.prog w=.ok (.slice (some ⟨w.heap.size,0,none⟩) 2 2) (w.alloc (.cells ((s++t).map Af).toArray 105)):=by
 obtain ⟨i0,hi0,hs0,hz0⟩:=yC;refine run_buildSlice w _ _ 2 _ _ i0 _ (by kernel_rfl) hi0 hz0 (by rw [hs0];decide) (by rw [hs0];decide) ?_;rw [hs0];obtain ⟨A,hl,hA⟩:=KO (2*272);rw [←hA];simp only [Instr.fill,Py];rw [if_neg (by simp [hs,hl])];rw [Nat.zero_mul,Cn s 0 A (by omega)];have l1:(Ub A 0 s).length=544:=by rw [Lj _ _ _ (by omega)];omega
 rw [if_neg (by simp [ht,l1])];rw [Cn t _ _ (by omega),show (s++t).map Af=s++t from List.map_id _];have e:Ub (Ub A 0 s) (1*272) t=s++t:=by
  have e1:Ub A 0 s=s++A.drop 272:=by rw [Ub,List.take_zero,List.nil_append,Nat.zero_add,hs]
  rw [e1] at l1 ⊢;rw [Ub,show List.drop (1*272+t.length) (s++List.drop 272 A)= [] from List.drop_eq_nil_of_le (by omega),List.append_nil,List.take_append_of_le_length (by omega),Zaj (by omega)]
 rw [e]
section
variable {P:Program} {w:World} {ops:Array Oper} {rest:List Oper} {o:Oper} {a:Act} {Q:Exit→Act→World→Prop}
theorem Ji (hgd:o.guard=none) (t:TypeId) (n:Nat) (parts:List (Nat×Operand)) (ho:o.op=.buildSlice t n parts.toArray) (ps:List (Nat×Value)) (hp:(parts.map fun (i,x)=>(i,a.eval x))=ps) (e:TypeId) (vs:List Value)
 (hr:∀w,(Instr.buildSlice t n ps.toArray).run P w=.ok (.slice (some ⟨w.heap.size,0,none⟩) n n) (w.alloc (.cells vs.toArray e)))
 (h:∀w',Below w.heap.size w w'→Ia w' w.heap.size vs e→wpList P ops Q rest (a.put o.dst (.slice (some ⟨w.heap.size,0,none⟩) n n)) w'):wpList P ops Q (o::rest) a w:=
 Vk hgd t n parts ho ps hp e _ hr fun w' hw=>h w' (by rw [hw];exact (Below.refl _ _).alloc (Xaj _) _) (by rw [hw];exact Ia.new w _ _)
end
theorem KY (p:List Nat) (X:Nat→List Nat) (w:World)
 (HX0:Hid (X 0=p))
 (HL:Hid (∀j,(X j).length=15))
 (HT:Hid (∀j:Nat,j<4→∀W,Calls Tryz.prog 131 #[Aa (X j)] W (gvn (Aa (X (j+1))) W))):
 Calls Tryz.prog 106 #[Aa p] w (gvn (Aa (X 4)) w):=by
 go_enter Tryz.func106,Tryz.ntmps106;go_wp2_with (first
  |(refine Ra rfl 55 (.tmp 0) rfl (p.map Ga) rfl ?_
    intro w1 hb1 hvp1;have hB1:=hb1;have hgep:w.heap.size≤w.heap.size:=Xaj _;clear hb1;try simp only [La]
    skip)
  |(refine Ma (o:=⟨some 2,_,_,_,_,_⟩) rfl 55 rfl (Na 15) Id ?_
    intro w2 hb2 hvr2;have hB2:=Ba hB1 hb2;have hger:w.heap.size≤w1.heap.size:=hB1.size;have hvp2:=hvp1.on hb2;have hnepr:=Vaj hvp1.lt;clear hB1 hvp1 hb2;try simp only [La]
    skip))
 generalize hqr:w1.heap.size=gr at *;clear hqr
 go_loopw [3] (fun t wr=>∃j:Nat,j≤4∧t=.int .i64 (j:Int)∧Below w.heap.size w wr∧Ia wr (w.heap.size) ((X j).map Ga) 55∧Ia wr gr (Na 15) 55) (fun t _=>(4-intOf t).toNat)
 case atStart=>exact ⟨0,by decide,rfl,hB2,by rw [HX0.out];exact hvp2,hvr2⟩
 case round=>
  clear hB2 hvp2 hvr2;obtain ⟨j,hj,rfl,hBl,hvpl,hvrl⟩:=hrel;by_cases h0:j<4
  ·have i1:(0:Int)≤(j:Int):=by omega
   have i2:(j:Int)<4:=by omega
   have i3:IntKind.i64.wrap ((j:Int)+1)=(j:Int)+1:=IntWalk.i64_in _ (by omega);have CT:=Lib.hid (HT.out j h0);have Hx:=Lib.hid (HL.out j);have Hy:=Lib.hid (HL.out (j+1));clear HT HL HX0;obtain ⟨x,HXx⟩:=Nb (X j);obtain ⟨y,HXy⟩:=Nb (X (j+1));rw [HXx.out] at CT Hx hvpl;rw [HXy.out] at CT Hy;go_wp2_with (first
    |(refine Pa rfl 55 (.tmp 1) rfl w.heap.size 15 (x.map Ga) rfl hvpl Tryz.underlying55 rfl Pb (by rw [Uaj,Hx.out]) ?_
      try simp only [La]
      skip))
   refine (CT.out wr).mono ?_;rintro e w3 ⟨rfl,hb3⟩;have hB3:=Ba hBl hb3;have hvp3:=hvpl.on hb3;have hvr3:=hvrl.on hb3;clear hBl hvpl hvrl hb3;go_wp2_with (first
    |(refine Ka rfl 55 (.tmp 1) (.tmp 6) rfl w.heap.size 15 (x.map Ga) (y.map Ga) rfl rfl hvp3 (by rw [Uaj,Hx.out]) Pb (by rw [Uaj,Hy.out]) (Oa _) ?_
      intro w4 hb4 hvp4 hz4;have hB4:Below w.heap.size w w4:=hB3.trans (hb4.below hgep hB3.size);have hvr4:=hvr3.but hb4 (Ne.symm hnepr);clear hB3 hvp3 hb4 hz4 hvr3;skip))
   go_roundw
   case rel=>exact ⟨j+1,by omega,rfl,hB4,by rw [HXy.out];exact hvp4,hvr4⟩
   case measure=>simp [intOf]<;>omega
  ·obtain rfl:j=4:=by omega
   rw [show (((4:Nat)):Int)=4 from rfl];have Hx:=Lib.hid (HL.out 4);clear HT HL HX0;go_wp2_with (first
    |(refine Pa rfl 55 (.tmp 1) rfl w.heap.size 15 ((X 4).map Ga) rfl hvpl Tryz.underlying55 rfl Pb (by rw [Uaj,Hx.out]) ?_
      try simp only [La]
      skip)
    |(refine Ka rfl 55 (.tmp 2) (.tmp 8) rfl gr 15 (Na 15) ((X 4).map Ga) rfl rfl hvrl rfl Pb (by rw [Uaj,Hx.out]) (Oa _) ?_
      intro w5 hb5 hvr5 hz5;have hB5:Below w.heap.size w w5:=hBl.trans (hb5.below hger hBl.size);have hvp5:=hvpl.but hb5 hnepr;clear hBl hvrl hb5 hz5 hvpl;skip))
   exact qc Tryz.results106 gr ((X 4).map Ga) rfl hvr5 Tryz.underlying55 rfl Pb (by rw [Uaj,Hx.out]) rfl ⟨rfl,hB5⟩
theorem L5 (g o i d:Nat) (vs:List Value) (q:UInt8) (m:List Nat) (t':TypeId) (w:World) (hi:i<64) (hd:d<16) (hC:Ia w g vs t')
 (HQ:Hid (vs[o+240+i/2]? =some (Fa q)))
 (HD:Hid ((q.toNat:Int)/2^(i%2*4)%16=(d:Int)))
 (Hm:Hid (m.length=15))
 (HM:Hid ((vs.drop (o+d*15)).take 15=m.map Ga)):
 Calls Tryz.prog 108 #[.pointer (some ⟨g,o,none⟩),.int .i64 (i:Int)] w (gvn (Aa m) w):=by
 go_enter Tryz.func108,Tryz.ntmps108
 go_upto_region 1 with (first
  |(refine Ma (o:=⟨some 4,_,_,_,_,_⟩) rfl 55 rfl (Na 15) Id ?_
    intro w1 hb1 hvr1;have hB1:=hb1;have hger:w.heap.size≤w.heap.size:=Xaj _;clear hb1;try simp only [La]
    skip))
 have hC1:=hC.on hB1;have dq:=hC1.get HQ.out;have hD:=HD.out;have i1:(0:Int)≤(i:Int):=by omega
 have i2:(i:Int)<64:=by omega
 have i3:(i:Int).tdiv 2=(i:Int)/2:=Int.tdiv_eq_ediv_of_nonneg i1;have i4:(i:Int).tmod 2=(i:Int)%2:=Int.tmod_eq_emod_of_nonneg i1;have i5:IntKind.i64.wrap ((i:Int)/2)=(i:Int)/2:=IntWalk.i64_in _ (by omega);have i6:IntKind.i64.wrap ((i:Int)%2)=(i:Int)%2:=IntWalk.i64_in _ (by omega);have i7:IntKind.i64.wrap ((i:Int)%2*4)=(i:Int)%2*4:=IntWalk.i64_in _ (by omega);have i8:(0:Int)≤(i:Int)/2:=by omega
 have i9:(i:Int)/2<32:=by omega
 have i10:((i:Int)/2).toNat=i/2:=by omega
 have i11:(0:Int)≤(i:Int)%2*4:=by omega
 have i12:((i:Int)%2*4).toNat=i%2*4:=by omega
 have i13:(0:Int)≤(q.toNat:Int)/2^(i%2*4):=Int.ediv_nonneg (by omega) (Int.pow_nonneg (by decide));have i14:((q.toNat:Int)/2^(i%2*4)).tmod 16=(d:Int):=by rw [Int.tmod_eq_emod_of_nonneg i13];exact hD
 have i15:(0:Int)≤(d:Int):=by omega
 have i16:(d:Int)<16:=by omega
 have hR:w1.rangeAt g (o+d*15) (m.map Ga):=by rw [←HM.out];exact hC1.range (o+d*15) 15
 clear hD i13;go_wp2_with (first
  |(refine wpList_load_mid rfl 55 (.tmp 22) rfl g (o+d*15) rfl (m.map Ga) _ hR Tryz.underlying55 rfl (by rw [Uaj,Hm.out];exact Pb) ?_
    try simp only [La]
    skip)
  |(refine Ka rfl 55 (.tmp 4) (.tmp 23) rfl (w.heap.size) 15 (Na 15) (m.map Ga) rfl rfl hvr1 rfl Pb (by rw [Uaj,Hm.out]) (Oa _) ?_
    intro w2 hb2 hvr2 hz2;have hB2:Below w.heap.size w w2:=hB1.trans (hb2.below hger hB1.size);clear hB1 hvr1 hb2 hz2;skip))
 exact qc Tryz.results108 (w.heap.size) (m.map Ga) rfl hvr2 Tryz.underlying55 rfl Pb (by rw [Uaj,Hm.out]) rfl ⟨rfl,hB2⟩
end Go.Proofs.YtoggkhjaghkpnaaGreatDoor
