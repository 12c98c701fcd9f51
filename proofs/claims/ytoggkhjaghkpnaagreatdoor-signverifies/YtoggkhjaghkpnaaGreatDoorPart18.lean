/- Part 18 of what the laws of this seat share: BSmall, BTimes, BWith, BBytes, BOver. -/
import Derived.Deep.Cut
import Derived.IntWalk
import Derived.Deep.QuietTactic
import Derived.BigQuiet
import Derived.Test.YtoggkhjaghkpnaaGreatDoorPart17
set_option maxRecDepth 100000
set_option maxHeartbeats 8000000
namespace Go.Proofs.YtoggkhjaghkpnaaGreatDoor
open Go.RowKit
def PS (g_base:Nat) (o:List Nat):List Value:=
 (.pointer (some ⟨g_base,0,none⟩))::(Da o)::[]
theorem QS (o:List Nat) (w:World)
 (Ho:Hid (o.length=8))
 (BO:∀w,(Instr.build 66 #[(0,Ja 1)]).run Tryz.prog w=.ok (Da o) w):
 Calls Tryz.prog 71 #[] w (gvn (Da o) w):=by
 go_enter Tryz.func71,Tryz.ntmps71
 go_upto_region 1 with (first
  |(refine Ma (o:=⟨some 0,_,_,_,_,_⟩) rfl 66 rfl (Wa 8) Ac ?_
    intro w1 hb1 hvr1;have hB1:=hb1;have hger:w.heap.size≤w.heap.size:=Xaj _;clear hb1;try simp only [Act.put,List.setIfInBounds_toArray,List.set_cons_zero]
    skip))
 refine Mb (md:=.any) (by kernel_rfl) ?_;refine Ya (L:=[0]) (by kernel_rfl) _ _ (PS w.heap.size o) [] 66 (Wa 8) [0] (by kernel_rfl) (by kernel_rfl) ?_ Ac ?_ (by rfl) ?_ 1 (by kernel_rfl) ?_
 ·intro p hp;exact absurd hp List.not_mem_nil
 ·exact Aak rfl (Qa)
 ·refine Aak (.inr (mU 1 rfl BO)) ?_;exact Qa
 intro w2 g hb2 hN2 hap2;clear hN2 hap2;have hB2:=Ba hB1 hb2;have hvr2:=hvr1.on hb2;clear hB1 hvr1 hb2;refine Bb 1 rfl (by kernel_rfl) ?_;refine Ka rfl 66 (.tmp 0) (.tmp 1) rfl w.heap.size 8 (Wa 8) (o.map Ja) rfl rfl hvr2 rfl Za (by rw [Uaj,Ho.out]) (Ua _) ?_;intro w3 hb3 hvr3 hz3;have hB3:Below w.heap.size w w3:=hB2.trans (hb3.below hger hB2.size);clear hB2 hvr2 hb3 hz3;rename_i K hKK;show Exit.then K _ Exit.normal (⟨(PS w.heap.size o).toArray,[]⟩:Act) w3;simp only [Exit.then];refine hKK _ _ ?_;clear hKK K g;simp only [PS]
 go_wp2
 exact qc Tryz.results71 (w.heap.size) (o.map Ja) rfl hvr3 Tryz.underlying66 rfl Za (by rw [Uaj,Ho.out]) rfl ⟨rfl,hB3⟩
def yw (g_base:Nat) (o:List Nat) (r:List Nat):List Value:=
 ptr g_base::(Da o)::(Da o)::(Da r)::[]
theorem xN (o r:List Nat) (w:World)
 (Hr:Hid (r.length=24))
 (C1:Hid (∀W,Calls Tryz.prog 71 #[] W (gvn (Da o) W)))
 (BR:∀w,(Instr.build 68 #[(1,Da o),(2,Da o)]).run Tryz.prog w=.ok (Da r) w):
 Calls Tryz.prog 79 #[] w (gvn (Da r) w):=by
 go_enter Tryz.func79,Tryz.ntmps79
 go_upto_region 1 with (first
  |(refine Ma (o:=⟨some 0,_,_,_,_,_⟩) rfl 68 rfl (Wa 24) He ?_
    intro w1 hb1 hvr1;have hB1:=hb1;have hger:w.heap.size≤w.heap.size:=Xaj _;clear hb1;try simp only [Act.put,List.setIfInBounds_toArray,List.set_cons_zero]
    skip))
 refine Mb (md:=.any) (by kernel_rfl) ?_;refine Ya (L:=[0,1,2]) (by kernel_rfl) _ _ (yw w.heap.size o r) [] 68 (Wa 24) [0] (by kernel_rfl) (by kernel_rfl) ?_ He ?_ (by rfl) ?_ 1 (by kernel_rfl) ?_
 ·intro p hp;exact absurd hp List.not_mem_nil
 ·exact Aak rfl (Qa)
 ·refine Aak (.inr (mC 1 rfl Tryz.func71 fun w hb=>C1.out w)) ?_;refine Aak (.inr (mC 2 rfl Tryz.func71 fun w hb=>C1.out w)) ?_;refine Aak (.inr (mU 3 rfl BR)) ?_;exact Qa
 intro w2 g hb2 hN2 hap2;clear hN2 hap2;have hB2:=Ba hB1 hb2;have hvr2:=hvr1.on hb2;clear hB1 hvr1 hb2;refine Bb 3 rfl (by kernel_rfl) ?_;refine Ka rfl 68 (.tmp 0) (.tmp 3) rfl w.heap.size 24 (Wa 24) (r.map Ja) rfl rfl hvr2 rfl Jb (by rw [Uaj,Hr.out]) (Ua _) ?_;intro w3 hb3 hvr3 hz3;have hB3:Below w.heap.size w w3:=hB2.trans (hb3.below hger hB2.size);clear hB2 hvr2 hb3 hz3;rename_i K hKK;show Exit.then K _ Exit.normal (⟨(yw w.heap.size o r).toArray,[]⟩:Act) w3;simp only [Exit.then];refine hKK _ _ ?_;clear hKK K g;simp only [yw,ptr]
 go_wp2
 exact qc Tryz.results79 (w.heap.size) (r.map Ja) rfl hvr3 Tryz.underlying68 rfl Jb (by rw [Uaj,Hr.out]) rfl ⟨rfl,hB3⟩
def zw (g_base:Nat) (x:List Nat) (y:List Nat) (o:List Nat) (r:List Nat):List Value:=
 ptr g_base::(Da x)::(Da y)::(Da o)::(Da r)::[]
theorem yN (x y o r:List Nat) (w:World)
 (Hr:Hid (r.length=24))
 (C1:Hid (∀W,Calls Tryz.prog 95 #[] W (gvn (Da x) W)))
 (C2:Hid (∀W,Calls Tryz.prog 96 #[] W (gvn (Da y) W)))
 (C3:Hid (∀W,Calls Tryz.prog 71 #[] W (gvn (Da o) W)))
 (BR:∀w,(Instr.build 68 #[(0,Da x),(1,Da y),(2,Da o)]).run Tryz.prog w=.ok (Da r) w):
 Calls Tryz.prog 53 #[] w (gvn (Da r) w):=by
 go_enter Tryz.func53,Tryz.ntmps53
 go_upto_region 1 with (first
  |(refine Ma (o:=⟨some 0,_,_,_,_,_⟩) rfl 68 rfl (Wa 24) He ?_
    intro w1 hb1 hvr1;have hB1:=hb1;have hger:w.heap.size≤w.heap.size:=Xaj _;clear hb1;try simp only [Act.put,List.setIfInBounds_toArray,List.set_cons_zero]
    skip))
 refine Mb (md:=.any) (by kernel_rfl) ?_;refine Ya (L:=[0,1,2,3]) (by kernel_rfl) _ _ (zw w.heap.size x y o r) [] 68 (Wa 24) [0] (by kernel_rfl) (by kernel_rfl) ?_ He ?_ (by rfl) ?_ 1 (by kernel_rfl) ?_
 ·intro p hp;exact absurd hp List.not_mem_nil
 ·exact Aak rfl (Qa)
 ·refine Aak (.inr (mC 1 rfl Tryz.func95 fun w hb=>C1.out w)) ?_;refine Aak (.inr (mC 2 rfl Tryz.func96 fun w hb=>C2.out w)) ?_;refine Aak (.inr (mC 3 rfl Tryz.func71 fun w hb=>C3.out w)) ?_;refine Aak (.inr (mU 4 rfl BR)) ?_;exact Qa
 intro w2 g hb2 hN2 hap2;clear hN2 hap2;have hB2:=Ba hB1 hb2;have hvr2:=hvr1.on hb2;clear hB1 hvr1 hb2;refine Bb 4 rfl (by kernel_rfl) ?_;refine Ka rfl 68 (.tmp 0) (.tmp 4) rfl w.heap.size 24 (Wa 24) (r.map Ja) rfl rfl hvr2 rfl Jb (by rw [Uaj,Hr.out]) (Ua _) ?_;intro w3 hb3 hvr3 hz3;have hB3:Below w.heap.size w w3:=hB2.trans (hb3.below hger hB2.size);clear hB2 hvr2 hb3 hz3;rename_i K hKK;show Exit.then K _ Exit.normal (⟨(zw w.heap.size x y o r).toArray,[]⟩:Act) w3;simp only [Exit.then];refine hKK _ _ ?_;clear hKK K g;simp only [zw,ptr]
 go_wp2
 exact qc Tryz.results53 (w.heap.size) (r.map Ja) rfl hvr3 Tryz.underlying68 rfl Jb (by rw [Uaj,Hr.out]) rfl ⟨rfl,hB3⟩
def SC (p:List Nat) (g_base:Nat) (gr:Nat) (o:List Nat) (x:List Nat) (n:List Nat) (y:List Nat) (z:List Nat) (r:List Nat):List Value:=
 (Da p)::ptr g_base::ptr gr::(Da o)::ptr g_base::(Da x)::(Da n)::(.pointer (some ⟨g_base,8,none⟩))::(Da y)::(.pointer (some ⟨g_base,16,none⟩))::(Da z)::(Da r)::[]
theorem RS (p x y z o n r:List Nat) (w:World)
 (Hx:Hid (x.length=8))
 (Hy:Hid (y.length=8))
 (Hz:Hid (z.length=8))
 (Hr:Hid (r.length=24))
 (Fp:Hid (p=x++y++z))
 (C1:Hid (∀W,Calls Tryz.prog 70 #[Da o,Da x] W (gvn (Da n) W)))
 (BO:∀w,(Instr.build 66 #[]).run Tryz.prog w=.ok (Da o) w)
 (BR:∀w,(Instr.build 68 #[(0,Da n),(1,Da y),(2,Da z)]).run Tryz.prog w=.ok (Da r) w):
 Calls Tryz.prog 35 #[Da p] w (gvn (Da r) w):=by
 go_enter Tryz.func35,Tryz.ntmps35;go_wp2_with (first
  |(refine Ra rfl 68 (.tmp 0) rfl (p.map Ja) rfl ?_
    intro w1 hb1 hvp1;have hB1:=hb1;have hgep:w.heap.size≤w.heap.size:=Xaj _;clear hb1;try simp only [La]
    skip)
  |(refine Ma (o:=⟨some 2,_,_,_,_,_⟩) rfl 68 rfl (Wa 24) He ?_
    intro w2 hb2 hvr2;have hB2:=Ba hB1 hb2;have hger:w.heap.size≤w1.heap.size:=hB1.size;have hvp2:=hvp1.on hb2;have hnepr:=Vaj hvp1.lt;clear hB1 hvp1 hb2;try simp only [La]
    skip))
 generalize hqr:w1.heap.size=gr at *;clear hqr;replace hvp2:=hvp2.drew;replace hvr2:=hvr2.drew;refine wp_region_any (by kernel_rfl) ?_;refine Ya (L:=[0,1,2,3,4,5,6,7,8]) (by kernel_rfl) _ _ (SC p w.heap.size gr o x n y z r) [] 68 (Wa 24) [0,1,2] (by kernel_rfl) (by kernel_rfl) ?_ He ?_ (by rfl) ?_ 1 (by kernel_rfl) ?_
 ·intro p hp;exact absurd hp List.not_mem_nil
 ·exact Aak rfl (Aak rfl (Aak rfl (Qa)))
 ·refine Aak (.inr (mU 3 rfl BO)) ?_;refine Aak (.inr (mF 4 rfl (An _))) ?_;refine Aak (.inr (mL 5 rfl fun w hb=>Gr (hvp2.on hb) Fp.out Hx.out)) ?_;refine Aak (.inr (mC 6 rfl Tryz.func70 fun w hb=>C1.out w)) ?_;refine Aak (.inr (mF 7 rfl (Bn _))) ?_;refine Aak (.inr (mL 8 rfl fun w hb=>Ir (hvp2.on hb) Fp.out Hx.out Hy.out)) ?_;refine Aak (.inr (mF 9 rfl (zu _))) ?_;refine Aak (.inr (mL 10 rfl fun w hb=>Zz (hvp2.on hb) Fp.out Hx.out Hy.out Hz.out)) ?_;refine Aak (.inr (mU 11 rfl BR)) ?_;exact Qa
 intro w3 g hb3 hN3 hap3;clear hN3 hap3;have hB3:=Ba (show Below w.heap.size w w2.drew from hB2.drew) hb3;have hvp3:=hvp2.on hb3;have hvr3:=hvr2.on hb3;clear hB2 hvp2 hvr2 hb3;refine Bb 9 rfl (by kernel_rfl) ?_;refine Ka rfl 68 (.tmp 2) (.tmp 11) rfl gr 24 (Wa 24) (r.map Ja) rfl rfl hvr3 rfl Jb (by rw [Uaj,Hr.out]) (Ua _) ?_;intro w4 hb4 hvr4 hz4;have hB4:Below w.heap.size w w4:=hB3.trans (hb4.below hger hB3.size);have hvp4:=hvp3.but hb4 hnepr;clear hB3 hvr3 hb4 hz4 hvp3;rename_i K hKK;show Exit.then K _ Exit.normal (⟨(SC p w.heap.size gr o x n y z r).toArray,[]⟩:Act) w4;simp only [Exit.then];refine hKK _ _ ?_;clear hKK K g;simp only [SC,ptr]
 go_wp2
 exact qc Tryz.results35 gr (r.map Ja) rfl hvr4 Tryz.underlying68 rfl Jb (by rw [Uaj,Hr.out]) rfl ⟨rfl,hB4⟩
theorem Bs {n:Nat} (h:n<pp):n<mm:=Nat.lt_trans h (by decide)
theorem Jh (n m:Nat) (W:World) (hn:n<pp) (hm:m<pp):Calls Tryz.prog 68 #[Da (nD n),Da (nD m)] W (gvn (Da (nD (fM n m))) W):=Mg n m W (Bs hn) (Bs hm)
theorem QJ (n m:Nat) (W:World) (hn:n<pp) (hm:m<pp):Calls Tryz.prog 73 #[Da (nD n),Da (nD m)] W (gvn (Da (nD (fA n m))) W):=TB n m W (Bs hn) (Bs hm)
theorem RJ (n m:Nat) (W:World) (hn:n<pp) (hm:m<pp):Calls Tryz.prog 70 #[Da (nD n),Da (nD m)] W (gvn (Da (nD (fS n m))) W):=by
 have h:=RR n m W (Bs hn) (Bs hm);rw [yaj hm] at h;exact h
theorem qw (w:World):Calls Tryz.prog 71 #[] w (gvn (Da (nD 1)) w):=
 QS (nD 1) w rfl (fun w=>by kernel_rfl)
theorem TC (w:World):Calls Tryz.prog 79 #[] w (gvn (Da (Pd (0,1,1))) w):=
 xN (nD 1) (Pd (0,1,1)) w rfl qw (QN (nD 1) (nD 1) rfl rfl)
def Ic:Tri:=(15112221349535400772501151409588531511454012693041857206046113283949847762202,46316835694926478169428394003475163141307993866256225615783033603165251855960,1)
theorem UC (w:World):Calls Tryz.prog 53 #[] w (gvn (Da (Pd Ic)) w):=
 yN (nD Dk) (nD Ck) (nD 1) (Pd Ic) w rfl TI SI qw (qm (nD Dk) (nD Ck) (nD 1) rfl rfl rfl)
def qu (t:Tri):Tri:=(fS 0 t.1,t.2.1,t.2.2)
theorem EY (t:Tri) (w:World) (h:qd t):Calls Tryz.prog 35 #[Da (Pd t)] w (gvn (Da (Pd (qu t))) w):=
 RS (Pd t) (nD t.1) (nD t.2.1) (nD t.2.2) (nD 0) (nD (fS 0 t.1)) (Pd (qu t)) w rfl rfl rfl rfl rfl (fun W=>RJ 0 t.1 W (by decide) h.1) (fun w=>by kernel_rfl) (qm (nD (fS 0 t.1)) (nD t.2.1) (nD t.2.2) rfl rfl rfl)
theorem Ij (s t:Tri) (w:World) (h1:qd s) (h2:qd t):Calls Tryz.prog 78 #[Da (Pd s),Da (Pd t),Da (nD Ag)] w (gvn (Da (Pd (Oe s t))) w):=
 ZN (Pd s) (nD s.1) (nD s.2.1) (nD s.2.2) (Pd t) (nD t.1) (nD t.2.1) (nD t.2.2) (nD Ag) (nD (Hw s t)) (nD (yM s t)) (nD (qr s t)) (nD (As s t)) (nD (fM (qr s t) (As s t))) (nD (S4 s t)) (nD (Wu s t)) (nD (Xu s t)) (nD (fM s.1 t.2.1)) (nD (fM t.1 s.2.1)) (nD (Up s t)) (nD (fM (Hw s t) (Up s t)))
  (nD (Oe s t).1) (nD (fA (As s t) (qr s t))) (nD (fM (Hw s t) (fA (As s t) (qr s t)))) (nD (Oe s t).2.1) (nD (Oe s t).2.2) (Pd (Oe s t)) w rfl rfl rfl rfl rfl rfl rfl rfl rfl rfl rfl rfl rfl rfl rfl rfl rfl rfl rfl rfl
  (fun W=>Jh _ _ W h1.2.2 h2.2.2) (fun W=>Jh _ _ W (Lc _ _) (Lc _ _)) (fun W=>Jh _ _ W h1.1 h2.1) (fun W=>Jh _ _ W h1.2.1 h2.2.1) (fun W=>Jh _ _ W (Lc _ _) (Lc _ _)) (fun W=>Jh _ _ W (by decide) (Lc _ _))
  (fun W=>QJ _ _ W (Lc _ _) (Lc _ _)) (fun W=>RJ _ _ W (Lc _ _) (Lc _ _)) (fun W=>Jh _ _ W h1.1 h2.2.1) (fun W=>Jh _ _ W h2.1 h1.2.1) (fun W=>QJ _ _ W (Lc _ _) (Lc _ _)) (fun W=>Jh _ _ W (Lc _ _) (So _ _)) (fun W=>Jh _ _ W (Lc _ _) (Tp _ _))
  (fun W=>QJ _ _ W (Lc _ _) (Lc _ _)) (fun W=>Jh _ _ W (Lc _ _) (So _ _)) (fun W=>Jh _ _ W (Lc _ _) (So _ _)) (fun W=>Jh _ _ W (So _ _) (Tp _ _)) (qm _ _ _ rfl rfl rfl)
end Go.Proofs.YtoggkhjaghkpnaaGreatDoor
namespace Go.Proofs.YtoggkhjaghkpnaaGreatDoor
open Go.RowKit
theorem zN (kh ks:List UInt8) (p dd z bs bo:List Nat) (X:Nat→List Nat) (w:World)
 (Hp:Hid (p.length=24))
 (Hz:Hid (z.length=24))
 (Hbs:Hid (bs.length=24))
 (Hbo:Hid (bo.length=24))
 (Hdd:Hid (dd.length=8))
 (HZ:Hid (X 256=z))
 (HL:Hid (∀j,(X j).length=24))
 (HR:Hid (∀k:Nat,k<256→∃(m:List Nat) (c b:Bool) (q1 q2:UInt8),(∀W,Calls Tryz.prog 78 #[Da (X (k+1)),Da (X (k+1)),Da dd] W (gvn (Da m) W))∧m.length=24∧(c=false→b=false→X k=m)∧(c=false→b=true→(∀W,Calls Tryz.prog 78 #[Da m,Da bs,Da dd] W (gvn (Da (X k)) W)))∧(c=true→b=false→(∀W,Calls Tryz.prog 78 #[Da m,Da p,Da dd] W (gvn (Da (X k)) W)))∧(c=true→b=true→(∀W,Calls Tryz.prog 78 #[Da m,Da bo,Da dd] W (gvn (Da (X k)) W)))∧(kh.map Fa)[k/8]? =some (Fa q1)∧(bits .and .u8 ((q1.toNat:Int)/2^(k%8)) 1=if c then 1 else 0)∧(ks.map Fa)[k/8]? =some (Fa q2)∧(bits .and .u8 ((q2.toNat:Int)/2^(k%8)) 1=if b then 1 else 0)))
 (CC:Hid (∀W,Calls Tryz.prog 74 #[] W (gvn (Da dd) W)))
 (CB:Hid (∀W,Calls Tryz.prog 53 #[] W (gvn (Da bs) W)))
 (CO:Hid (∀W,Calls Tryz.prog 78 #[Da p,Da bs,Da dd] W (gvn (Da bo) W)))
 (CZ:Hid (∀W,Calls Tryz.prog 79 #[] W (gvn (Da z) W))):
 Calls Tryz.prog 34 #[Da p,Ca kh,Ca ks] w (gvn (Da (X 0)) w):=by
 go_enter Tryz.func34,Tryz.ntmps34;go_wp2_with (first
  |(refine Ra rfl 68 (.tmp 0) rfl (p.map Ja) rfl ?_
    intro w1 hb1 hvp1;have hB1:=hb1;have hgep:w.heap.size≤w.heap.size:=Xaj _;clear hb1;try simp only [La]
    skip)
  |(refine Ra rfl 22 (.tmp 1) rfl (kh.map Fa) rfl ?_
    intro w2 hb2 hvh2;have hB2:=Ba hB1 hb2;have hgeh:w.heap.size≤w1.heap.size:=hB1.size;have hvp2:=hvp1.on hb2;have hneph:=Vaj hvp1.lt;clear hB1 hvp1 hb2;try simp only [La]
    skip)
  |(refine Ra rfl 22 (.tmp 2) rfl (ks.map Fa) rfl ?_
    intro w3 hb3 hvs3;have hB3:=Ba hB2 hb3;have hges:w.heap.size≤w2.heap.size:=hB2.size;have hvp3:=hvp2.on hb3;have hneps:=Vaj hvp2.lt;have hvh3:=hvh2.on hb3;have hnehs:=Vaj hvh2.lt;clear hB2 hvp2 hvh2 hb3;try simp only [La]
    skip)
  |(refine Ma (o:=⟨some 6,_,_,_,_,_⟩) rfl 68 rfl (Wa 24) He ?_
    intro w4 hb4 hvr4;have hB4:=Ba hB3 hb4;have hger:w.heap.size≤w3.heap.size:=hB3.size;have hvp4:=hvp3.on hb4;have hnepr:=Vaj hvp3.lt;have hvh4:=hvh3.on hb4;have hnehr:=Vaj hvh3.lt;have hvs4:=hvs3.on hb4;have hnesr:=Vaj hvs3.lt;clear hB3 hvp3 hvh3 hvs3 hb4;try simp only [La]
    skip))
 generalize hqh:w1.heap.size=gh at *;clear hqh;generalize hqs:w2.heap.size=gs at *;clear hqs;generalize hqr:w3.heap.size=gr at *;clear hqr;refine (CC.out w4).mono ?_;rintro e w5 ⟨rfl,hb5⟩;have hB5:=Ba hB4 hb5;have hvp5:=hvp4.on hb5;have hvh5:=hvh4.on hb5;have hvs5:=hvs4.on hb5;have hvr5:=hvr4.on hb5;clear hB4 hvp4 hvh4 hvs4 hvr4 hb5;go_wp2_with (first
  |(refine Db rfl rfl 66 (.tmp 7) (.tmp 14) rfl rfl 8 (Wa 8) (dd.map Ja) rfl rfl Ac rfl Za (by rw [Uaj,Hdd.out]) (Ua _) ?_
    intro w6 hb6 hvd6;have hB6:=Ba hB5 hb6;have hged:w.heap.size≤w5.heap.size:=hB5.size;have hvp6:=hvp5.on hb6;have hnepd:=Vaj hvp5.lt;have hvh6:=hvh5.on hb6;have hnehd:=Vaj hvh5.lt;have hvs6:=hvs5.on hb6;have hnesd:=Vaj hvs5.lt;have hvr6:=hvr5.on hb6;have hnerd:=Vaj hvr5.lt;clear hB5 hvp5 hvh5 hvs5 hvr5 hb6;try simp only [La]
    skip))
 generalize hqd:w5.heap.size=gd at *;clear hqd;refine (CB.out w6).mono ?_;rintro e w7 ⟨rfl,hb7⟩;have hB7:=Ba hB6 hb7;have hvp7:=hvp6.on hb7;have hvh7:=hvh6.on hb7;have hvs7:=hvs6.on hb7;have hvr7:=hvr6.on hb7;have hvd7:=hvd6.on hb7;clear hB6 hvp6 hvh6 hvs6 hvr6 hvd6 hb7;go_wp2_with (first
  |(refine Db rfl rfl 68 (.tmp 8) (.tmp 15) rfl rfl 24 (Wa 24) (bs.map Ja) rfl rfl He rfl Jb (by rw [Uaj,Hbs.out]) (Ua _) ?_
    intro w8 hb8 hvb8;have hB8:=Ba hB7 hb8;have hgeb:w.heap.size≤w7.heap.size:=hB7.size;have hvp8:=hvp7.on hb8;have hnepb:=Vaj hvp7.lt;have hvh8:=hvh7.on hb8;have hnehb:=Vaj hvh7.lt;have hvs8:=hvs7.on hb8;have hnesb:=Vaj hvs7.lt;have hvr8:=hvr7.on hb8;have hnerb:=Vaj hvr7.lt;have hvd8:=hvd7.on hb8;have hnedb:=Vaj hvd7.lt;clear hB7 hvp7 hvh7 hvs7 hvr7 hvd7 hb8;try simp only [La]
    skip)
  |(refine Pa rfl 68 (.tmp 3) rfl w.heap.size 24 (p.map Ja) rfl hvp8 Tryz.underlying68 rfl Jb (by rw [Uaj,Hp.out]) ?_
    try simp only [La]
    skip)
  |(refine Pa rfl 68 (.tmp 8) rfl w7.heap.size 24 (bs.map Ja) rfl hvb8 Tryz.underlying68 rfl Jb (by rw [Uaj,Hbs.out]) ?_
    try simp only [La]
    skip)
  |(refine Pa rfl 66 (.tmp 7) rfl gd 8 (dd.map Ja) rfl hvd8 Tryz.underlying66 rfl Za (by rw [Uaj,Hdd.out]) ?_
    try simp only [La]
    skip))
 generalize hqb:w7.heap.size=gb at *;clear hqb;refine (CO.out w8).mono ?_;rintro e w9 ⟨rfl,hb9⟩;have hB9:=Ba hB8 hb9;have hvp9:=hvp8.on hb9;have hvh9:=hvh8.on hb9;have hvs9:=hvs8.on hb9;have hvr9:=hvr8.on hb9;have hvd9:=hvd8.on hb9;have hvb9:=hvb8.on hb9;clear hB8 hvp8 hvh8 hvs8 hvr8 hvd8 hvb8 hb9;go_wp2_with (first
  |(refine Db rfl rfl 68 (.tmp 9) (.tmp 19) rfl rfl 24 (Wa 24) (bo.map Ja) rfl rfl He rfl Jb (by rw [Uaj,Hbo.out]) (Ua _) ?_
    intro w10 hb10 hvt10;have hB10:=Ba hB9 hb10;have hget:w.heap.size≤w9.heap.size:=hB9.size;have hvp10:=hvp9.on hb10;have hnept:=Vaj hvp9.lt;have hvh10:=hvh9.on hb10;have hneht:=Vaj hvh9.lt;have hvs10:=hvs9.on hb10;have hnest:=Vaj hvs9.lt;have hvr10:=hvr9.on hb10;have hnert:=Vaj hvr9.lt;have hvd10:=hvd9.on hb10;have hnedt:=Vaj hvd9.lt;have hvb10:=hvb9.on hb10;have hnebt:=Vaj hvb9.lt;clear hB9 hvp9 hvh9 hvs9 hvr9 hvd9 hvb9 hb10;try simp only [La]
    skip))
 generalize hqt:w9.heap.size=gt at *;clear hqt;refine (CZ.out w10).mono ?_;rintro e w11 ⟨rfl,hb11⟩;have hB11:=Ba hB10 hb11;have hvp11:=hvp10.on hb11;have hvh11:=hvh10.on hb11;have hvs11:=hvs10.on hb11;have hvr11:=hvr10.on hb11;have hvd11:=hvd10.on hb11;have hvb11:=hvb10.on hb11;have hvt11:=hvt10.on hb11;clear hB10 hvp10 hvh10 hvs10 hvr10 hvd10 hvb10 hvt10 hb11;go_wp2_with (first
  |(refine Db rfl rfl 68 (.tmp 10) (.tmp 20) rfl rfl 24 (Wa 24) (z.map Ja) rfl rfl He rfl Jb (by rw [Uaj,Hz.out]) (Ua _) ?_
    intro w12 hb12 hvo12;have hB12:=Ba hB11 hb12;have hgeo:w.heap.size≤w11.heap.size:=hB11.size;have hvp12:=hvp11.on hb12;have hnepo:=Vaj hvp11.lt;have hvh12:=hvh11.on hb12;have hneho:=Vaj hvh11.lt;have hvs12:=hvs11.on hb12;have hneso:=Vaj hvs11.lt;have hvr12:=hvr11.on hb12;have hnero:=Vaj hvr11.lt;have hvd12:=hvd11.on hb12;have hnedo:=Vaj hvd11.lt;have hvb12:=hvb11.on hb12;have hnebo:=Vaj hvb11.lt;have hvt12:=hvt11.on hb12;have hneto:=Vaj hvt11.lt;clear hB11 hvp11 hvh11 hvs11 hvr11 hvd11 hvb11 hvt11 hb12;try simp only [La]
    skip))
 generalize hqo:w11.heap.size=go at *;clear hqo;replace hneph:=Lib.hid hneph;replace hneps:=Lib.hid hneps;replace hnehs:=Lib.hid hnehs;replace hnepr:=Lib.hid hnepr;replace hnehr:=Lib.hid hnehr;replace hnesr:=Lib.hid hnesr;replace hnepd:=Lib.hid hnepd;replace hnehd:=Lib.hid hnehd;replace hnesd:=Lib.hid hnesd;replace hnerd:=Lib.hid hnerd;replace hnepb:=Lib.hid hnepb;replace hnehb:=Lib.hid hnehb;replace hnesb:=Lib.hid hnesb;replace hnerb:=Lib.hid hnerb;replace hnedb:=Lib.hid hnedb;replace hnept:=Lib.hid hnept;replace hneht:=Lib.hid hneht;replace hnest:=Lib.hid hnest;replace hnert:=Lib.hid hnert;replace hnedt:=Lib.hid hnedt;replace hnebt:=Lib.hid hnebt;replace hnepo:=Lib.hid hnepo;replace hneho:=Lib.hid hneho;replace hneso:=Lib.hid hneso;replace hnero:=Lib.hid hnero;replace hnedo:=Lib.hid hnedo;replace hnebo:=Lib.hid hnebo;replace hneto:=Lib.hid hneto
 go_loopw [11] (fun t wr=>∃j:Nat,j≤256∧t=.int .i64 ((j:Int)-1)∧Below w.heap.size w wr∧Ia wr (w.heap.size) (p.map Ja) 68∧Ia wr gh (kh.map Fa) 22∧Ia wr gs (ks.map Fa) 22∧Ia wr gr (Wa 24) 68∧Ia wr gd (dd.map Ja) 66∧Ia wr gb (bs.map Ja) 68∧Ia wr gt (bo.map Ja) 68∧Ia wr go ((X j).map Ja) 68) (fun t _=>((intOf t)+1).toNat)
 case atStart=>exact ⟨256,Xaj _,rfl,hB12,hvp12,hvh12,hvs12,hvr12,hvd12,hvb12,hvt12,by rw [HZ.out];exact hvo12⟩
 case round=>
  clear hB12 hvp12 hvh12 hvs12 hvr12 hvd12 hvb12 hvt12 hvo12;obtain ⟨j,hj,rfl,hBl,hvpl,hvhl,hvsl,hvrl,hvdl,hvbl,hvtl,hvol⟩:=hrel;by_cases h0:0<j
  ·obtain ⟨k,rfl⟩:∃k,j=k+1:=⟨j-1,by omega⟩;have hk:k<256:=by omega
   have e1':(((k+1:Nat):Int)-1)=(k:Int):=by omega
   have i1:(0:Int)≤(k:Int):=by omega
   have i2:(k:Int)<256:=by omega
   have i3:IntKind.i64.wrap ((k:Int)-1)=(k:Int)-1:=IntWalk.i64_in _ (by omega);have i4:IntKind.u64.wrap ((k:Int)%8)=(k:Int)%8:=by rw [IntKind.wrap_u64];omega
   have i5:(0:Int)≤(k:Int)/8:=by omega
   have i6:(k:Int)/8<32:=by omega
   have i7:((k:Int)/8).toNat=k/8:=by omega
   have i8:(k:Int).tmod 8=(k:Int)%8:=Int.tmod_eq_emod_of_nonneg i1;have i9:(k:Int).tdiv 8=(k:Int)/8:=Int.tdiv_eq_ediv_of_nonneg i1;have i10:IntKind.i64.wrap ((k:Int)/8)=(k:Int)/8:=IntWalk.i64_in _ (by omega);have i11:((k:Int)%8).toNat=k%8:=by omega
   rw [e1'];obtain ⟨m,c,b,q1,q2,C1,Hm,hc0,hc1,hc2,hc3,hq1,hbv1,hq2,hbv2⟩:=HR.out k hk;replace C1:=Lib.hid C1;replace Hm:=Lib.hid Hm;have dq1:=Lib.hid hq1;have dq2:=Lib.hid hq2;have Hx:=Lib.hid (HL.out (k+1));have Hy:=Lib.hid (HL.out k);clear HR HL HZ CZ CB CO hq1 hq2;obtain ⟨x,HXx⟩:=Nb (X (k+1));obtain ⟨y,HXy⟩:=Nb (X k);rw [HXx.out] at C1 Hx hvol;rw [HXy.out] at hc0 hc1 hc2 hc3 Hy;go_wp2_with (first
    |(refine Pa rfl 68 (.tmp 10) rfl go 24 (x.map Ja) rfl hvol Tryz.underlying68 rfl Jb (by rw [Uaj,Hx.out]) ?_
      try simp only [La]
      skip)
    |(refine Pa rfl 68 (.tmp 10) rfl go 24 (x.map Ja) rfl hvol Tryz.underlying68 rfl Jb (by rw [Uaj,Hx.out]) ?_
      try simp only [La]
      skip)
    |(refine Pa rfl 66 (.tmp 7) rfl gd 8 (dd.map Ja) rfl hvdl Tryz.underlying66 rfl Za (by rw [Uaj,Hdd.out]) ?_
      try simp only [La]
      skip))
   refine (C1.out wr).mono ?_;rintro e w13 ⟨rfl,hb13⟩;have hB13:=Ba hBl hb13;have hvp13:=hvpl.on hb13;have hvh13:=hvhl.on hb13;have hvs13:=hvsl.on hb13;have hvr13:=hvrl.on hb13;have hvd13:=hvdl.on hb13;have hvb13:=hvbl.on hb13;have hvt13:=hvtl.on hb13;have hvo13:=hvol.on hb13;clear hBl hvpl hvhl hvsl hvrl hvdl hvbl hvtl hvol hb13
   go_upto_region 9 with (first
    |(refine Ka rfl 68 (.tmp 10) (.tmp 28) rfl go 24 (x.map Ja) (m.map Ja) rfl rfl hvo13 (by rw [Uaj,Hx.out]) Jb (by rw [Uaj,Hm.out]) (Ua _) ?_
      intro w14 hb14 hvo14 hz14;have hB14:Below w.heap.size w w14:=hB13.trans (hb14.below hgeo hB13.size);have hvp14:=hvp13.but hb14 hnepo.out;have hvh14:=hvh13.but hb14 hneho.out;have hvs14:=hvs13.but hb14 hneso.out;have hvr14:=hvr13.but hb14 hnero.out;have hvd14:=hvd13.but hb14 hnedo.out;have hvb14:=hvb13.but hb14 hnebo.out;have hvt14:=hvt13.but hb14 hneto.out;clear hB13 hvo13 hb14 hz14 hvp13 hvh13 hvs13 hvr13 hvd13 hvb13 hvt13;skip))
   have dr1:=hvh14.get dq1.out;have dr2:=hvs14.get dq2.out;cases c
   ·cases b
    ·have C2:=Lib.hid (hc0 rfl rfl);clear hc0 hc1 hc2 hc3;have hw1:bits .and .u8 ((q1.toNat:Int)/2^(k%8)) 1=0:=hbv1;have hw2:bits .and .u8 ((q2.toNat:Int)/2^(k%8)) 1=0:=hbv2;clear hbv1 hbv2
     go_quiet (fail)
     try simp only [i11,hw1,hw2,show ((0:Int)==1)=false from rfl,show ((1:Int)==1)=true from rfl]
     clear dr1 dr2;have hBq:=below_drewN hB14 nq;have hvpq:=hvp14.drewN nq;have hvhq:=hvh14.drewN nq;have hvsq:=hvs14.drewN nq;have hvrq:=hvr14.drewN nq;have hvdq:=hvd14.drewN nq;have hvbq:=hvb14.drewN nq;have hvtq:=hvt14.drewN nq;have hvoq:=hvo14.drewN nq;clear hB14 hvp14 hvh14 hvs14 hvr14 hvd14 hvb14 hvt14 hvo14;generalize w14.drewN nq=wq at *;go_wp2_with fail
     go_roundw
     case rel=>exact ⟨k,by omega,by go_num,hBq,hvpq,hvhq,hvsq,hvrq,hvdq,hvbq,hvtq,by rw [HXy.out,C2.out];exact hvoq⟩
     case measure=>simp [intOf]<;>omega
    ·have C2:=Lib.hid (hc1 rfl rfl);clear hc0 hc1 hc2 hc3;have hw1:bits .and .u8 ((q1.toNat:Int)/2^(k%8)) 1=0:=hbv1;have hw2:bits .and .u8 ((q2.toNat:Int)/2^(k%8)) 1=1:=hbv2;clear hbv1 hbv2
     go_quiet (fail)
     try simp only [i11,hw1,hw2,show ((0:Int)==1)=false from rfl,show ((1:Int)==1)=true from rfl]
     clear dr1 dr2;have hBq:=below_drewN hB14 nq;have hvpq:=hvp14.drewN nq;have hvhq:=hvh14.drewN nq;have hvsq:=hvs14.drewN nq;have hvrq:=hvr14.drewN nq;have hvdq:=hvd14.drewN nq;have hvbq:=hvb14.drewN nq;have hvtq:=hvt14.drewN nq;have hvoq:=hvo14.drewN nq;clear hB14 hvp14 hvh14 hvs14 hvr14 hvd14 hvb14 hvt14 hvo14;generalize w14.drewN nq=wq at *;go_wp2_with (first
      |(refine Pa rfl 68 (.tmp 10) rfl go 24 (m.map Ja) rfl hvoq Tryz.underlying68 rfl Jb (by rw [Uaj,Hm.out]) ?_
        try simp only [La]
        skip)
      |(refine Pa rfl 68 (.tmp 8) rfl gb 24 (bs.map Ja) rfl hvbq Tryz.underlying68 rfl Jb (by rw [Uaj,Hbs.out]) ?_
        try simp only [La]
        skip)
      |(refine Pa rfl 66 (.tmp 7) rfl gd 8 (dd.map Ja) rfl hvdq Tryz.underlying66 rfl Za (by rw [Uaj,Hdd.out]) ?_
        try simp only [La]
        skip))
     refine (C2.out wq).mono ?_;rintro e w15 ⟨rfl,hb15⟩;have hB15:=Ba hBq hb15;have hvp15:=hvpq.on hb15;have hvh15:=hvhq.on hb15;have hvs15:=hvsq.on hb15;have hvr15:=hvrq.on hb15;have hvd15:=hvdq.on hb15;have hvb15:=hvbq.on hb15;have hvt15:=hvtq.on hb15;have hvo15:=hvoq.on hb15;clear hBq hvpq hvhq hvsq hvrq hvdq hvbq hvtq hvoq hb15;go_wp2_with (first
      |(refine Ka rfl 68 (.tmp 10) (.tmp 69) rfl go 24 (m.map Ja) (y.map Ja) rfl rfl hvo15 (by rw [Uaj,Hm.out]) Jb (by rw [Uaj,Hy.out]) (Ua _) ?_
        intro w16 hb16 hvo16 hz16;have hB16:Below w.heap.size w w16:=hB15.trans (hb16.below hgeo hB15.size);have hvp16:=hvp15.but hb16 hnepo.out;have hvh16:=hvh15.but hb16 hneho.out;have hvs16:=hvs15.but hb16 hneso.out;have hvr16:=hvr15.but hb16 hnero.out;have hvd16:=hvd15.but hb16 hnedo.out;have hvb16:=hvb15.but hb16 hnebo.out;have hvt16:=hvt15.but hb16 hneto.out;clear hB15 hvo15 hb16 hz16 hvp15 hvh15 hvs15 hvr15 hvd15 hvb15 hvt15;skip))
     go_roundw
     case rel=>exact ⟨k,by omega,by go_num,hB16,hvp16,hvh16,hvs16,hvr16,hvd16,hvb16,hvt16,by rw [HXy.out];exact hvo16⟩
     case measure=>simp [intOf]<;>omega
   ·cases b
    ·have C2:=Lib.hid (hc2 rfl rfl);clear hc0 hc1 hc2 hc3;have hw1:bits .and .u8 ((q1.toNat:Int)/2^(k%8)) 1=1:=hbv1;have hw2:bits .and .u8 ((q2.toNat:Int)/2^(k%8)) 1=0:=hbv2;clear hbv1 hbv2
     go_quiet (fail)
     try simp only [i11,hw1,hw2,show ((0:Int)==1)=false from rfl,show ((1:Int)==1)=true from rfl]
     clear dr1 dr2;have hBq:=below_drewN hB14 nq;have hvpq:=hvp14.drewN nq;have hvhq:=hvh14.drewN nq;have hvsq:=hvs14.drewN nq;have hvrq:=hvr14.drewN nq;have hvdq:=hvd14.drewN nq;have hvbq:=hvb14.drewN nq;have hvtq:=hvt14.drewN nq;have hvoq:=hvo14.drewN nq;clear hB14 hvp14 hvh14 hvs14 hvr14 hvd14 hvb14 hvt14 hvo14;generalize w14.drewN nq=wq at *;go_wp2_with (first
      |(refine Pa rfl 68 (.tmp 10) rfl go 24 (m.map Ja) rfl hvoq Tryz.underlying68 rfl Jb (by rw [Uaj,Hm.out]) ?_
        try simp only [La]
        skip)
      |(refine Pa rfl 68 (.tmp 3) rfl w.heap.size 24 (p.map Ja) rfl hvpq Tryz.underlying68 rfl Jb (by rw [Uaj,Hp.out]) ?_
        try simp only [La]
        skip)
      |(refine Pa rfl 66 (.tmp 7) rfl gd 8 (dd.map Ja) rfl hvdq Tryz.underlying66 rfl Za (by rw [Uaj,Hdd.out]) ?_
        try simp only [La]
        skip))
     refine (C2.out wq).mono ?_;rintro e w17 ⟨rfl,hb17⟩;have hB17:=Ba hBq hb17;have hvp17:=hvpq.on hb17;have hvh17:=hvhq.on hb17;have hvs17:=hvsq.on hb17;have hvr17:=hvrq.on hb17;have hvd17:=hvdq.on hb17;have hvb17:=hvbq.on hb17;have hvt17:=hvtq.on hb17;have hvo17:=hvoq.on hb17;clear hBq hvpq hvhq hvsq hvrq hvdq hvbq hvtq hvoq hb17;go_wp2_with (first
      |(refine Ka rfl 68 (.tmp 10) (.tmp 63) rfl go 24 (m.map Ja) (y.map Ja) rfl rfl hvo17 (by rw [Uaj,Hm.out]) Jb (by rw [Uaj,Hy.out]) (Ua _) ?_
        intro w18 hb18 hvo18 hz18;have hB18:Below w.heap.size w w18:=hB17.trans (hb18.below hgeo hB17.size);have hvp18:=hvp17.but hb18 hnepo.out;have hvh18:=hvh17.but hb18 hneho.out;have hvs18:=hvs17.but hb18 hneso.out;have hvr18:=hvr17.but hb18 hnero.out;have hvd18:=hvd17.but hb18 hnedo.out;have hvb18:=hvb17.but hb18 hnebo.out;have hvt18:=hvt17.but hb18 hneto.out;clear hB17 hvo17 hb18 hz18 hvp17 hvh17 hvs17 hvr17 hvd17 hvb17 hvt17;skip))
     go_roundw
     case rel=>exact ⟨k,by omega,by go_num,hB18,hvp18,hvh18,hvs18,hvr18,hvd18,hvb18,hvt18,by rw [HXy.out];exact hvo18⟩
     case measure=>simp [intOf]<;>omega
    ·have C2:=Lib.hid (hc3 rfl rfl);clear hc0 hc1 hc2 hc3;have hw1:bits .and .u8 ((q1.toNat:Int)/2^(k%8)) 1=1:=hbv1;have hw2:bits .and .u8 ((q2.toNat:Int)/2^(k%8)) 1=1:=hbv2;clear hbv1 hbv2
     go_quiet (fail)
     try simp only [i11,hw1,hw2,show ((0:Int)==1)=false from rfl,show ((1:Int)==1)=true from rfl]
     clear dr1 dr2;have hBq:=below_drewN hB14 nq;have hvpq:=hvp14.drewN nq;have hvhq:=hvh14.drewN nq;have hvsq:=hvs14.drewN nq;have hvrq:=hvr14.drewN nq;have hvdq:=hvd14.drewN nq;have hvbq:=hvb14.drewN nq;have hvtq:=hvt14.drewN nq;have hvoq:=hvo14.drewN nq;clear hB14 hvp14 hvh14 hvs14 hvr14 hvd14 hvb14 hvt14 hvo14;generalize w14.drewN nq=wq at *;go_wp2_with (first
      |(refine Pa rfl 68 (.tmp 10) rfl go 24 (m.map Ja) rfl hvoq Tryz.underlying68 rfl Jb (by rw [Uaj,Hm.out]) ?_
        try simp only [La]
        skip)
      |(refine Pa rfl 68 (.tmp 9) rfl gt 24 (bo.map Ja) rfl hvtq Tryz.underlying68 rfl Jb (by rw [Uaj,Hbo.out]) ?_
        try simp only [La]
        skip)
      |(refine Pa rfl 66 (.tmp 7) rfl gd 8 (dd.map Ja) rfl hvdq Tryz.underlying66 rfl Za (by rw [Uaj,Hdd.out]) ?_
        try simp only [La]
        skip))
     refine (C2.out wq).mono ?_;rintro e w19 ⟨rfl,hb19⟩;have hB19:=Ba hBq hb19;have hvp19:=hvpq.on hb19;have hvh19:=hvhq.on hb19;have hvs19:=hvsq.on hb19;have hvr19:=hvrq.on hb19;have hvd19:=hvdq.on hb19;have hvb19:=hvbq.on hb19;have hvt19:=hvtq.on hb19;have hvo19:=hvoq.on hb19;clear hBq hvpq hvhq hvsq hvrq hvdq hvbq hvtq hvoq hb19;go_wp2_with (first
      |(refine Ka rfl 68 (.tmp 10) (.tmp 57) rfl go 24 (m.map Ja) (y.map Ja) rfl rfl hvo19 (by rw [Uaj,Hm.out]) Jb (by rw [Uaj,Hy.out]) (Ua _) ?_
        intro w20 hb20 hvo20 hz20;have hB20:Below w.heap.size w w20:=hB19.trans (hb20.below hgeo hB19.size);have hvp20:=hvp19.but hb20 hnepo.out;have hvh20:=hvh19.but hb20 hneho.out;have hvs20:=hvs19.but hb20 hneso.out;have hvr20:=hvr19.but hb20 hnero.out;have hvd20:=hvd19.but hb20 hnedo.out;have hvb20:=hvb19.but hb20 hnebo.out;have hvt20:=hvt19.but hb20 hneto.out;clear hB19 hvo19 hb20 hz20 hvp19 hvh19 hvs19 hvr19 hvd19 hvb19 hvt19;skip))
     go_roundw
     case rel=>exact ⟨k,by omega,by go_num,hB20,hvp20,hvh20,hvs20,hvr20,hvd20,hvb20,hvt20,by rw [HXy.out];exact hvo20⟩
     case measure=>simp [intOf]<;>omega
  ·obtain rfl:j=0:=by omega
   rw [show (((0:Nat):Int)-1)= -1 from rfl];have Hx:=Lib.hid (HL.out 0);clear HR HL HZ CZ CB CO;go_wp2_with (first
    |(refine Pa rfl 68 (.tmp 10) rfl go 24 ((X 0).map Ja) rfl hvol Tryz.underlying68 rfl Jb (by rw [Uaj,Hx.out]) ?_
      try simp only [La]
      skip)
    |(refine Ka rfl 68 (.tmp 6) (.tmp 70) rfl gr 24 (Wa 24) ((X 0).map Ja) rfl rfl hvrl rfl Jb (by rw [Uaj,Hx.out]) (Ua _) ?_
      intro w21 hb21 hvr21 hz21;have hB21:Below w.heap.size w w21:=hBl.trans (hb21.below hger hBl.size);have hvp21:=hvpl.but hb21 hnepr.out;have hvh21:=hvhl.but hb21 hnehr.out;have hvs21:=hvsl.but hb21 hnesr.out;have hvd21:=hvdl.but hb21 (Ne.symm hnerd.out);have hvb21:=hvbl.but hb21 (Ne.symm hnerb.out);have hvt21:=hvtl.but hb21 (Ne.symm hnert.out);have hvo21:=hvol.but hb21 (Ne.symm hnero.out);clear hBl hvrl hb21 hz21 hvpl hvhl hvsl hvdl hvbl hvtl hvol;skip))
   exact qc Tryz.results34 gr ((X 0).map Ja) rfl hvr21 Tryz.underlying68 rfl Jb (by rw [Uaj,Hx.out]) rfl ⟨rfl,hB21⟩
def VC (p:List Nat) (g_base:Nat) (gr:Nat) (pz:List Nat) (iv:List Nat):List Value:=
 (Da p)::ptr g_base::ptr gr::ud 4 ((.pointer (some ⟨g_base,16,none⟩))::(Da pz)::(Da iv)::ud 19 [])
def yp (p:List Nat) (g_base:Nat) (gr:Nat) (pz:List Nat) (iv:List Nat) (n3:Nat):List Value:=
 (Da p)::ptr g_base::ptr gr::ptr n3::ud 3 ((.pointer (some ⟨g_base,16,none⟩))::(Da pz)::(Da iv)::ud 19 [])
def Av (p:List Nat) (g_base:Nat) (gr:Nat) (gv:Nat) (pz:List Nat) (iv:List Nat) (px:List Nat) (xx:List Nat) (py:List Nat) (yy:List Nat):List Value:=
 (Da p)::ptr g_base::ptr gr::ptr gv::ud 3 ((.pointer (some ⟨g_base,16,none⟩))::(Da pz)::(Da iv)::ptr g_base::(Da px)::(Da iv)::(Da xx)::(.pointer (some ⟨g_base,8,none⟩))::(Da py)::(Da iv)::(Da yy)::ud 11 [])
def Em (p:List Nat) (g_base:Nat) (gr:Nat) (gv:Nat) (pz:List Nat) (iv:List Nat) (px:List Nat) (xx:List Nat) (py:List Nat) (yy:List Nat) (n4 n5:Nat):List Value:=
 (Da p)::ptr g_base::ptr gr::ptr gv::ptr n4::ptr n5::undef::(.pointer (some ⟨g_base,16,none⟩))::(Da pz)::(Da iv)::ptr g_base::(Da px)::(Da iv)::(Da xx)::(.pointer (some ⟨g_base,8,none⟩))::(Da py)::(Da iv)::(Da yy)::ud 11 []
theorem TJ (p px py pz iv xx yy:List Nat) (kb kc:List UInt8) (x0:Nat) (q v:UInt8) (c:Bool) (w:World)
 (Hpx:Hid (px.length=8))
 (Hpy:Hid (py.length=8))
 (Hpz:Hid (pz.length=8))
 (Hiv:Hid (iv.length=8))
 (Hxx:Hid (xx.length=8))
 (Hyy:Hid (yy.length=8))
 (Hkb:Hid (kb.length=32))
 (Hkc:Hid (kc.length=32))
 (Fp:Hid (p=px++py++pz))
 (D0:Hid ((xx.map Ja)[0]? =some (Ja x0)))
 (HP:Hid (x0%2=bif c then 1 else 0))
 (D1:Hid ((kb.map Fa)[31]? =some (Fa q)))
 (HV:Hid (IntKind.u8.wrap ((q.toNat:Int)+128)=(v.toNat:Int)))
 (HC:Hid (kc=kb.set 31 v))
 (CI:Hid (∀W,Calls Tryz.prog 72 #[Da pz] W (gvn (Da iv) W)))
 (CX:Hid (∀W,Calls Tryz.prog 68 #[Da px,Da iv] W (gvn (Da xx) W)))
 (CY:Hid (∀W,Calls Tryz.prog 68 #[Da py,Da iv] W (gvn (Da yy) W)))
 (CE:Hid (∀W,Calls Tryz.prog 77 #[Da yy] W (gvn (Ca kb) W))):
 Calls Tryz.prog 33 #[Da p] w (gvn (Ca (bif c then kc else kb)) w):=by
 go_enter Tryz.func33,Tryz.ntmps33
 go_upto_region 1 with (first
  |(refine Ra rfl 68 (.tmp 0) rfl (p.map Ja) rfl ?_
    intro w1 hb1 hvp1;have hB1:=hb1;have hgep:w.heap.size≤w.heap.size:=Xaj _;clear hb1;try simp only [La]
    skip)
  |(refine Ma (o:=⟨some 2,_,_,_,_,_⟩) rfl 22 rfl Xa Dc ?_
    intro w2 hb2 hvr2;have hB2:=Ba hB1 hb2;have hger:w.heap.size≤w1.heap.size:=hB1.size;have hvp2:=hvp1.on hb2;have hnepr:=Vaj hvp1.lt;clear hB1 hvp1 hb2;try simp only [La]
    skip))
 generalize hqr:w1.heap.size=gr at *;clear hqr;refine Mb (md:=.any) (by kernel_rfl) ?_;refine Ya (L:=[0,1,2,3]) (by kernel_rfl) _ _ (VC p w.heap.size gr pz iv) [(3,3)] 66 (Wa 8) [0,1,2,4,5,6,10,11,12,13,14,15,16,17,18,19,20,21,22,23,24,25,26,27,28] (by kernel_rfl) (by kernel_rfl) ?_ Ac ?_ (by rfl) ?_ 1 (by kernel_rfl) ?_
 ·intro p hp;rcases List.mem_cons.1 hp with rfl|hp
  ·exact ⟨⟨_,rfl,rfl,rfl,rfl,by kernel_rfl,by kernel_rfl⟩⟩
  exact absurd hp List.not_mem_nil
 ·repeat refine Aak rfl ?_
  exact Qa
 ·refine Aak (.inr (mF 7 rfl (zu _))) ?_;refine Aak (.inr (mL 8 rfl fun w hb=>Zz (hvp2.on hb) Fp.out Hpx.out Hpy.out Hpz.out)) ?_;refine Aak (.inr (mC 9 rfl Tryz.func72 fun w hb=>CI.out w)) ?_;refine Aak (.inl ⟨(3,3),by simp,rfl⟩) ?_;exact Qa
 intro w3 g hb3 hN3 hap3;obtain ⟨hgev,hvv3⟩:=hN3 (3,3) (by simp);clear hN3 hap3;have hB3:=Ba hB2 hb3;have hltp:w.heap.size<w2.heap.size:=hvp2.lt;have hltr:gr<w2.heap.size:=hvr2.lt;have hvp3:=hvp2.on hb3;have hvr3:=hvr2.on hb3;rw [show Oc g [(3,3)] (VC p w.heap.size gr pz iv)=yp p w.heap.size gr pz iv (g 3) from rfl];replace hgev:w2.heap.size≤g 3:=hgev;replace hvv3:Ia w3 (g 3) (Wa 8) 66:=hvv3;have hnepv:w.heap.size≠g 3:=Vaj (Waj hltp hgev);have hnerv:gr≠g 3:=Vaj (Waj hltr hgev);replace hgev:w.heap.size≤g 3:=Nat.le_trans (show w.heap.size≤w2.heap.size from hB2.size) hgev;clear hltp hltr;generalize g 3=gv at *;clear hB2 hvp2 hvr2 hb3;refine Bb 4 rfl (by kernel_rfl) ?_;refine Ka rfl 66 (.tmp 3) (.tmp 9) rfl gv 8 (Wa 8) (iv.map Ja) rfl rfl hvv3 rfl Za (by rw [Uaj,Hiv.out]) (Ua _) ?_;intro w4 hb4 hvv4 hz4;have hB4:Below w.heap.size w w4:=hB3.trans (hb4.below hgev hB3.size);have hvp4:=hvp3.but hb4 hnepv;have hvr4:=hvr3.but hb4 hnerv;clear hB3 hvv3 hb4 hz4 hvp3 hvr3;rename_i K hKK;show Exit.then K _ Exit.normal (⟨(yp p w.heap.size gr pz iv gv).toArray,[]⟩:Act) w4;simp only [Exit.then];refine hKK _ _ ?_;clear hKK K g;simp only [yp,ptr,ud];go_wp2_with fail
 replace hvp4:=hvp4.drew;replace hvr4:=hvr4.drew;replace hvv4:=hvv4.drew;refine wp_region_any (by kernel_rfl) ?_;refine Qf (L:=[0,1,2,3,4,5,6,7,8,9,10,11]) (by kernel_rfl) _ _ (Av p w.heap.size gr gv pz iv px xx py yy) [(8,4),(9,5)] (fun _=>66) (fun _=>(Wa 8)) (fun s=>bif s==4 then some (10,xx.map Ja) else bif s==5 then some (11,yy.map Ja) else none) [0,1,2,3,6,7,8,9,18,19,20,21,22,23,24,25,26,27,28] (by kernel_rfl) (by kernel_rfl) ?_ (fun _ _=>Ac) ?_ ?_ ?_ (by rfl) ?_ 0 (by kernel_rfl) ?_
 ·intro p hp;rcases List.mem_cons.1 hp with rfl|hp
  ·exact ⟨⟨_,rfl,rfl,rfl,rfl,by kernel_rfl,by kernel_rfl⟩⟩
  rcases List.mem_cons.1 hp with rfl|hp
  ·exact ⟨⟨_,rfl,rfl,rfl,rfl,by kernel_rfl,by kernel_rfl⟩⟩
  exact absurd hp List.not_mem_nil
 ·intro p hp j l h;rcases List.mem_cons.1 hp with rfl|hp
  ·change some (10,xx.map Ja)=some (j,l) at h;cases h
   exact ⟨⟨_,13,rfl,rfl,rfl,rfl,by kernel_rfl,by kernel_rfl,by kernel_rfl,rfl,by rw [Uaj,Hxx.out];exact Za,by rw [Uaj,Hxx.out];rfl,Ua _⟩,by decide⟩
  rcases List.mem_cons.1 hp with rfl|hp
  ·change some (11,yy.map Ja)=some (j,l) at h;cases h
   exact ⟨⟨_,17,rfl,rfl,rfl,rfl,by kernel_rfl,by kernel_rfl,by kernel_rfl,rfl,by rw [Uaj,Hyy.out];exact Za,by rw [Uaj,Hyy.out];rfl,Ua _⟩,by decide⟩
  exact absurd hp List.not_mem_nil
 ·intro p hp q hq j l l2 h1 h2;rcases List.mem_cons.1 hp with rfl|hp
  ·rcases List.mem_cons.1 hq with rfl|hq
   ·rfl
   rcases List.mem_cons.1 hq with rfl|hq
   ·change some (10,_)=some (j,l) at h1;change some (11,_)=some (j,l2) at h2;exact absurd ((Prod.mk.inj (Option.some.inj h1)).1.trans (Prod.mk.inj (Option.some.inj h2)).1.symm) (by decide)
   exact absurd hq List.not_mem_nil
  rcases List.mem_cons.1 hp with rfl|hp
  ·rcases List.mem_cons.1 hq with rfl|hq
   ·change some (11,_)=some (j,l) at h1;change some (10,_)=some (j,l2) at h2;exact absurd ((Prod.mk.inj (Option.some.inj h1)).1.trans (Prod.mk.inj (Option.some.inj h2)).1.symm) (by decide)
   rcases List.mem_cons.1 hq with rfl|hq
   ·rfl
   exact absurd hq List.not_mem_nil
  exact absurd hp List.not_mem_nil
 ·repeat refine Aak rfl ?_
  exact Qa
 ·refine Aak (.inr (.inl (mF 10 rfl (An _)))) ?_;refine Aak (.inr (.inl (mL 11 rfl fun w hb=>Gr (hvp4.on hb) Fp.out Hpx.out))) ?_;refine Aak (.inr (.inl (mL 12 rfl fun w hb=>Sb (hvv4.on hb) Hiv.out))) ?_;refine Aak (.inr (.inl (mC 13 rfl Tryz.func68 fun w hb=>CX.out w))) ?_;refine Aak (.inr (.inl (mF 14 rfl (Bn _)))) ?_;refine Aak (.inr (.inl (mL 15 rfl fun w hb=>Ir (hvp4.on hb) Fp.out Hpx.out Hpy.out))) ?_;refine Aak (.inr (.inl (mL 16 rfl fun w hb=>Sb (hvv4.on hb) Hiv.out))) ?_;refine Aak (.inr (.inl (mC 17 rfl Tryz.func68 fun w hb=>CY.out w))) ?_;refine Aak (.inl ⟨(8,4),by simp,rfl⟩) ?_;refine Aak (.inl ⟨(9,5),by simp,rfl⟩) ?_;refine Aak (.inr (.inr ⟨(8,4),by simp,_,rfl⟩)) ?_;refine Aak (.inr (.inr ⟨(9,5),by simp,_,rfl⟩)) ?_;exact Qa
 intro w5 g hb5 hN5 hap5;obtain ⟨hgex,hvx5⟩:=hN5 (8,4) (by simp);obtain ⟨hgey,hvy5⟩:=hN5 (9,5) (by simp);have hnexy:=hap5 (8,4) (by simp) (9,5) (by simp) (by decide);clear hN5 hap5;have hB5:=Ba (show Below w.heap.size w w4.drew from hB4.drew) hb5;have hltp:w.heap.size<w4.heap.size:=hvp4.lt;have hltr:gr<w4.heap.size:=hvr4.lt;have hltv:gv<w4.heap.size:=hvv4.lt;have hvp5:=hvp4.on hb5;have hvr5:=hvr4.on hb5;have hvv5:=hvv4.on hb5;rw [show Oc g [(8,4),(9,5)] (Av p w.heap.size gr gv pz iv px xx py yy)=Em p w.heap.size gr gv pz iv px xx py yy (g 4) (g 5) from rfl];replace hgex:w4.heap.size≤g 4:=hgex;replace hvx5:Ia w5 (g 4) (xx.map Ja) 66:=hvx5;replace hgey:w4.heap.size≤g 5:=hgey;replace hvy5:Ia w5 (g 5) (yy.map Ja) 66:=hvy5;replace hnexy:g 4≠g 5:=hnexy;have hnepx:w.heap.size≠g 4:=Vaj (Waj hltp hgex);have hnerx:gr≠g 4:=Vaj (Waj hltr hgex);have hnevx:gv≠g 4:=Vaj (Waj hltv hgex);replace hgex:w.heap.size≤g 4:=Nat.le_trans (show w.heap.size≤w4.heap.size from hB4.size) hgex;have hnepy:w.heap.size≠g 5:=Vaj (Waj hltp hgey);have hnery:gr≠g 5:=Vaj (Waj hltr hgey);have hnevy:gv≠g 5:=Vaj (Waj hltv hgey);replace hgey:w.heap.size≤g 5:=Nat.le_trans (show w.heap.size≤w4.heap.size from hB4.size) hgey;clear hltp hltr hltv;generalize g 4=gx at *;generalize g 5=gy at *;clear hB4 hvp4 hvr4 hvv4 hb5;refine ⟨by kernel_rfl,?_⟩;rename_i K hKK;show Exit.then K _ Exit.normal (⟨(Em p w.heap.size gr gv pz iv px xx py yy gx gy).toArray,[]⟩:Act) w5;simp only [Exit.then];refine hKK _ _ ?_;clear hKK K g;simp only [Em,ptr,ud];go_wp2_with (first
  |(refine Pa rfl 66 (.tmp 5) rfl gy 8 (yy.map Ja) rfl hvy5 Tryz.underlying66 rfl Za (by rw [Uaj,Hyy.out]) ?_
    try simp only [La]
    skip))
 refine (CE.out w5).mono ?_;rintro e w6 ⟨rfl,hb6⟩;have hB6:=Ba hB5 hb6;have hvp6:=hvp5.on hb6;have hvr6:=hvr5.on hb6;have hvv6:=hvv5.on hb6;have hvx6:=hvx5.on hb6;have hvy6:=hvy5.on hb6;clear hB5 hvp5 hvr5 hvv5 hvx5 hvy5 hb6
 go_upto_region 4 with (first
  |(refine Db rfl rfl 22 (.tmp 6) (.tmp 19) rfl rfl 32 Xa (kb.map Fa) rfl rfl Dc rfl Kb (by rw [Uaj,Hkb.out]) (Ab _) ?_
    intro w7 hb7 hvo7;have hB7:=Ba hB6 hb7;have hgeo:w.heap.size≤w6.heap.size:=hB6.size;have hvp7:=hvp6.on hb7;have hnepo:=Vaj hvp6.lt;have hvr7:=hvr6.on hb7;have hnero:=Vaj hvr6.lt;have hvv7:=hvv6.on hb7;have hnevo:=Vaj hvv6.lt;have hvx7:=hvx6.on hb7;have hnexo:=Vaj hvx6.lt;have hvy7:=hvy6.on hb7;have hneyo:=Vaj hvy6.lt;clear hB6 hvp6 hvr6 hvv6 hvx6 hvy6 hb7;try simp only [La]
    skip))
 generalize hqo:w6.heap.size=go at *;clear hqo;have dx:=hvx7.get D0.out;have i1:(0:Int)≤(x0:Int):=by omega
 cases c
 ·have hq:=HV.out;have i2:x0%2=0:=HP.out;have i3:(x0:Int).tmod 2=0:=by rw [Int.tmod_eq_emod_of_nonneg i1];omega
  have i4:(x0:Int)%2=0:=by omega
  clear HP i2
  go_upto_region 6 with fail
  clear dx i1 i3 i4;go_wp2_with (first
   |(refine Pa rfl 22 (.tmp 6) rfl go 32 (kb.map Fa) rfl hvo7 Tryz.underlying22 rfl Kb (by rw [Uaj,Hkb.out]) ?_
     try simp only [La]
     skip)
   |(refine Ka rfl 22 (.tmp 2) (.tmp 28) rfl gr 32 Xa (kb.map Fa) rfl rfl hvr7 rfl Kb (by rw [Uaj,Hkb.out]) (Ab _) ?_
     intro w8 hb8 hvr8 hz8;have hB8:Below w.heap.size w w8:=hB7.trans (hb8.below hger hB7.size);have hvp8:=hvp7.but hb8 hnepr;have hvv8:=hvv7.but hb8 (Ne.symm hnerv);have hvx8:=hvx7.but hb8 (Ne.symm hnerx);have hvy8:=hvy7.but hb8 (Ne.symm hnery);have hvo8:=hvo7.but hb8 (Ne.symm hnero);clear hB7 hvr7 hb8 hz8 hvp7 hvv7 hvx7 hvy7 hvo7;skip))
  exact qc Tryz.results33 gr (kb.map Fa) rfl hvr8 Tryz.underlying22 rfl Kb (by rw [Uaj,Hkb.out]) rfl ⟨rfl,hB8⟩
 ·have hq:=HV.out;have i2:x0%2=1:=HP.out;have i3:(x0:Int).tmod 2=1:=by rw [Int.tmod_eq_emod_of_nonneg i1];omega
  have i4:(x0:Int)%2=1:=by omega
  clear HP i2
  go_upto_region 5 with fail
  clear dx i1 i3 i4;have dq:=hvo7.get D1.out;have hT:=hvo7.there 31 1 (by rw [Uaj,Hkb.out];decide);have hE:=Lib.hid (hvo7.set 31 (Fa v))
  go_upto_region 6 with (first
   |(refine Qb rfl 5 _ _ rfl go 31 .u8 (v.toNat:Int) rfl rfl Qc hT ?_
     intro w9 hw9;have hB9:Below w.heap.size w w9:=by rw [hw9];exact hB7.setCell (p:=⟨go,31,none⟩) hgeo _
     have hvo9:Ia w9 go (kc.map Fa) 22:=by rw [hw9,HC.out,List.map_set];exact hE.out
     have hvr9:Ia w9 gr Xa 22:=by rw [hw9];exact hvr7.other hnero _
     clear hw9 hT hE dq hB7 hvp7 hvr7 hvv7 hvx7 hvy7 hvo7;skip))
  go_wp2_with (first
   |(refine Pa rfl 22 (.tmp 6) rfl go 32 (kc.map Fa) rfl hvo9 Tryz.underlying22 rfl Kb (by rw [Uaj,Hkc.out]) ?_
     try simp only [La]
     skip)
   |(refine Ka rfl 22 (.tmp 2) (.tmp 28) rfl gr 32 Xa (kc.map Fa) rfl rfl hvr9 rfl Kb (by rw [Uaj,Hkc.out]) (Ab _) ?_
     intro w10 hb10 hvr10 hz10;have hB10:Below w.heap.size w w10:=hB9.trans (hb10.below hger hB9.size);have hvo10:=hvo9.but hb10 (Ne.symm hnero);clear hB9 hvr9 hb10 hz10 hvo9;skip))
  exact qc Tryz.results33 gr (kc.map Fa) rfl hvr10 Tryz.underlying22 rfl Kb (by rw [Uaj,Hkc.out]) rfl ⟨rfl,hB10⟩
theorem qN:qd (0,1,1):=⟨by show 0<pp;decide,by show 1<pp;decide,by show 1<pp;decide⟩
theorem zp:qd Ic:=⟨by show _<pp;decide,by show _<pp;decide,by show 1<pp;decide⟩
theorem S9 {t:Tri} (h:qd t):qd (qu t):=⟨Tp _ _,h.2⟩
theorem AO (h s:Nat→Bool) (p q both:Tri):∀j,qd (Te h s p q both j)
 |0=>qN
 |j+1=>by
  show qd (bif h (255-j) then (bif s (255-j) then _ else _) else (bif s (255-j) then _ else _));cases h (255-j)<;>cases s (255-j)<;>exact Ul _ _
theorem SS (key:List UInt8) (hk:key.length=32) (k:Nat) (h:k<256):(key.map Fa)[k/8]? =some (Fa (key.getD (k/8) 0))∧bits .and .u8 (((key.getD (k/8) 0).toNat:Int)/2^(k%8)) 1=if Ld key k then 1 else 0:=
 ⟨by rw [List.getElem?_map,Yaj,xaj (by omega)];rfl,M9 _ _ _ (UInt8.toNat_lt _) (Nat.mod_lt _ (by decide)) rfl⟩
theorem TS (t:Tri) (kh ks:List UInt8) (w:World) (hh:kh.length=32) (hs:ks.length=32) (h:qd t):Calls Tryz.prog 34 #[Da (Pd t),Ca kh,Ca ks] w (gvn (Da (Pd (Te (Ld kh) (Ld ks) t Ic (Oe t Ic) 256))) w):=by
 refine zN kh ks (Pd t) (nD Ag) (Pd (0,1,1)) (Pd Ic) (Pd (Oe t Ic)) (fun j=>Pd (Te (Ld kh) (Ld ks) t Ic (Oe t Ic) (256-j))) w rfl rfl rfl rfl rfl rfl (fun _=>rfl) ?_ Vn UC (fun W=>Ij t Ic W h zp) TC;intro k hk2;have e1:256-k=(255-k)+1:=by omega
 have e2:256-(k+1)=255-k:=by omega
 have e3:255-(255-k)=k:=by omega
 have L:=AO (Ld kh) (Ld ks) t Ic (Oe t Ic) (255-k);have E:∀c b,Ld kh k=c→Ld ks k=b→Te (Ld kh) (Ld ks) t Ic (Oe t Ic) (256-k)=bif c then (bif b then Oe (Oe (Te (Ld kh) (Ld ks) t Ic (Oe t Ic) (255-k)) (Te (Ld kh) (Ld ks) t Ic (Oe t Ic) (255-k))) (Oe t Ic) else Oe (Oe (Te (Ld kh) (Ld ks) t Ic (Oe t Ic) (255-k)) (Te (Ld kh) (Ld ks) t Ic (Oe t Ic) (255-k))) t)
  else (bif b then Oe (Oe (Te (Ld kh) (Ld ks) t Ic (Oe t Ic) (255-k)) (Te (Ld kh) (Ld ks) t Ic (Oe t Ic) (255-k))) Ic else Oe (Te (Ld kh) (Ld ks) t Ic (Oe t Ic) (255-k)) (Te (Ld kh) (Ld ks) t Ic (Oe t Ic) (255-k))):=by
  intro c b h1 h2;rw [e1];show (bif Ld kh (255-(255-k)) then (bif Ld ks (255-(255-k)) then _ else _) else (bif Ld ks (255-(255-k)) then _ else _))=_;rw [e3,h1,h2]
 have Q1:=SS kh hh k hk2;have Q2:=SS ks hs k hk2;refine ⟨Pd (Oe (Te (Ld kh) (Ld ks) t Ic (Oe t Ic) (255-k)) (Te (Ld kh) (Ld ks) t Ic (Oe t Ic) (255-k))),Ld kh k,Ld ks k,_,_,?_,rfl,?_,?_,?_,?_,Q1.1,Q1.2,Q2.1,Q2.2⟩
 ·intro W;show Calls Tryz.prog 78 #[Da (Pd (Te (Ld kh) (Ld ks) t Ic (Oe t Ic) (256-(k+1)))),Da (Pd (Te (Ld kh) (Ld ks) t Ic (Oe t Ic) (256-(k+1)))),Da (nD Ag)] W _;rw [e2];exact Ij _ _ W L L
 ·intro h1 h2;show Pd (Te (Ld kh) (Ld ks) t Ic (Oe t Ic) (256-k))=_;rw [E _ _ h1 h2];rfl
 ·intro h1 h2 W;show Calls Tryz.prog 78 _ W (gvn (Da (Pd (Te (Ld kh) (Ld ks) t Ic (Oe t Ic) (256-k)))) W);rw [E _ _ h1 h2];exact Ij _ _ W (Ul _ _) zp
 ·intro h1 h2 W;show Calls Tryz.prog 78 _ W (gvn (Da (Pd (Te (Ld kh) (Ld ks) t Ic (Oe t Ic) (256-k)))) W);rw [E _ _ h1 h2];exact Ij _ _ W (Ul _ _) h
 ·intro h1 h2 W;show Calls Tryz.prog 78 _ W (gvn (Da (Pd (Te (Ld kh) (Ld ks) t Ic (Oe t Ic) (256-k)))) W);rw [E _ _ h1 h2];exact Ij _ _ W (Ul _ _) (Ul _ _)
def ptB (x y:Nat):List UInt8:=Ob (y+x%2*57896044618658097711785492504343953926634992332820282019728792003956564819968) 32
theorem US (y i:Nat) (h:i<31):Ec (y+57896044618658097711785492504343953926634992332820282019728792003956564819968) i=Ec y i:=by
 have e:(57896044618658097711785492504343953926634992332820282019728792003956564819968:Nat)=256^i*(256*(128*256^(30-i))):=by
  have e2:256^i*(256*(128*256^(30-i)))=128*(256^i*256*256^(30-i)):=by
   generalize 256^i=a;generalize 256^(30-i)=b
   grind
  rw [e2,←Nat.pow_succ,←Nat.pow_add,show i.succ+(30-i)=31 by omega]
 unfold Ec;rw [e,Nat.add_mul_div_left _ _ (Nat.pow_pos (by decide))];generalize 128*256^(30-i)=r;generalize y/256^i=s;apply UInt8.toNat_inj.1;rw [UInt8.toNat_ofNat',UInt8.toNat_ofNat'];omega
theorem FY (y:Nat):Ec (y+57896044618658097711785492504343953926634992332820282019728792003956564819968) 31=Ec y 31+128:=by
 have e:(57896044618658097711785492504343953926634992332820282019728792003956564819968:Nat)=256^31*128:=by decide+kernel
 unfold Ec;rw [e,Nat.add_mul_div_left _ _ (Nat.pow_pos (by decide))];generalize y/256^31=s;apply UInt8.toNat_inj.1;rw [UInt8.toNat_add,UInt8.toNat_ofNat',UInt8.toNat_ofNat'];show _=(s%256+128)%256;omega
theorem Bv (x k i:Nat) (h:i<k):(Ob x k)[i]? =some (Ec x i):=by
 rw [Ob,List.getElem?_map,List.getElem?_range h];rfl
theorem JV (x y:Nat) (h:x%2=1):ptB x y=(Ob y 32).set 31 (Ec y 31+128):=by
 rw [ptB,h,Nat.one_mul];apply List.ext_getElem?;intro i;by_cases h1:i<32
 ·by_cases h2:i=31
  ·subst h2;rw [Bv _ _ _ h1,List.getElem?_set_self (by rw [Ta];exact h1),FY]
  ·rw [Bv _ _ _ h1,List.getElem?_set_ne (Ne.symm h2),Bv _ _ _ h1,US y i (by omega)]
 ·rw [List.getElem?_eq_none (by rw [Ta];omega),List.getElem?_eq_none (by rw [List.length_set,Ta];omega)]
theorem WC (x y:Nat) (h:x%2=0):ptB x y=Ob y 32:=by
 rw [ptB,h,Nat.zero_mul,Nat.add_zero]
theorem Dl (x y:Nat):(ptB x y).length=32:=Ta _ _
theorem SG (y:Nat) (h:y<pp):(Ec y 31).toNat<128:=by
 unfold Ec;rw [UInt8.toNat_ofNat'];have:y/256^31<128:=by
  rw [Nat.div_lt_iff_lt_mul (Nat.pow_pos (by decide))];exact Nat.lt_trans h (by decide+kernel)
 omega
theorem My (t:Tri) (w:World) (h:qd t):Calls Tryz.prog 33 #[Da (Pd t)] w (gvn (Ca (ptB (fM t.1 (ivN t.2.2)) (fM t.2.1 (ivN t.2.2)))) w):=by
 have hi:ivN t.2.2<pp:=Nat.mod_lt _ (by decide);have hy:=Lc t.2.1 (ivN t.2.2);have H:=TJ (Pd t) (nD t.1) (nD t.2.1) (nD t.2.2) (nD (ivN t.2.2)) (nD (fM t.1 (ivN t.2.2))) (nD (fM t.2.1 (ivN t.2.2))) (Ob (fM t.2.1 (ivN t.2.2)) 32) ((Ob (fM t.2.1 (ivN t.2.2)) 32).set 31 (Ec (fM t.2.1 (ivN t.2.2)) 31+128)) (fM t.1 (ivN t.2.2)%4294967296) (Ec (fM t.2.1 (ivN t.2.2)) 31) (Ec (fM t.2.1 (ivN t.2.2)) 31+128) (decide (fM t.1 (ivN t.2.2)%2=1)) w
  rfl rfl rfl rfl rfl rfl (Ta _ _) (by show _=_;rw [List.length_set,Ta]) rfl rfl ?_ ?_ ?_ rfl (fun W=>Cm t.2.2 W (Bs h.2.2)) (fun W=>Jh _ _ W h.1 hi) (fun W=>Jh _ _ W h.2.1 hi) (fun W=>VI _ W)
 ·rcases Nat.mod_two_eq_zero_or_one (fM t.1 (ivN t.2.2)) with e|e
  ·rw [show decide (fM t.1 (ivN t.2.2)%2=1)=false from decide_eq_false (by omega)] at H;rw [WC _ _ e];exact H
  ·rw [show decide (fM t.1 (ivN t.2.2)%2=1)=true from decide_eq_true e] at H;rw [JV _ _ e];exact H
 ·show _=_;generalize fM t.1 (ivN t.2.2)=n;by_cases e:n%2=1
  ·rw [decide_eq_true e];show _=1;omega
  ·rw [decide_eq_false e];show _=0;omega
 ·show _=_;rw [List.getElem?_map,Bv _ _ _ (by decide)];rfl
 ·show _=_;have hb:=SG _ hy;generalize Ec (fM t.2.1 (ivN t.2.2)) 31=q at *;rw [IntKind.wrap_u8,UInt8.toNat_add];show _=(((q.toNat+128)%256:Nat):Int);omega
end Go.Proofs.YtoggkhjaghkpnaaGreatDoor
