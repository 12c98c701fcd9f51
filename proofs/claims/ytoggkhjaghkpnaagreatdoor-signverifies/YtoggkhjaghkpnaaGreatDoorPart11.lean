/- Part 11 of what the laws of this seat share: TPlus, TMinus, WFlat3, TLess, TNext, TModulo, TRead. -/
import Derived.IntWalk
import Derived.Deep.Cut
import Derived.Test.YtoggkhjaghkpnaaGreatDoorPart10
set_option maxRecDepth 100000
set_option maxHeartbeats 8000000
namespace Go.Proofs.YtoggkhjaghkpnaaGreatDoor
open Go.RowKit
theorem PM (a b r:List Nat) (S:Nat→List Nat) (O:Nat→Nat) (w:World) (HA:Hid (∀k,a.getD k 0<4294967296)) (HB:Hid (b.length=8∧∀k,b.getD k 0<4294967296)) (HL:Hid (∀k,(S k).length=8)) (H0:Hid (S 0=a∧O 0=0)) (HG:Hid (∀k,(S k).getD k 0=a.getD k 0))
 (HS:Hid (∀k,S (k+1)=(S k).set k ((a.getD k 0+b.getD k 0+O k)%4294967296)∧O (k+1)=(a.getD k 0+b.getD k 0+O k)/4294967296)) (HO:Hid (∀k,O k≤1)) (HR:Hid (S 8=r)):
 Calls Tryz.prog 45 #[Aa a,Aa b] w (gvn (Aa r) w):=by
 go_enter Tryz.func45,Tryz.ntmps45;go_wp2_with (first
  |(refine Ra rfl 83 (.tmp 0) rfl (a.map Ga) rfl ?_
    intro w1 hB1 hA1;try simp only [La]
    skip)
  |(refine Ra rfl 83 (.tmp 1) rfl (b.map Ga) rfl ?_
    intro w2 hb2 hC2;have hB2:=Ba hB1 hb2;have hA2:=hA1.on hb2;have hg1:=hA1.lt;clear hB1 hA1 hb2;try simp only [La]
    skip)
  |(refine Ma (o:=⟨some 4,_,_,_,_,_⟩) rfl 83 rfl (Na 8) We ?_
    intro w3 hb3 hZ3;have hB3:=Ba hB2 hb3;have hA3:=hA2.on hb3;have hC3:=hC2.on hb3;have hg2:=hC2.lt;clear hB2 hA2 hC2 hb3;try simp only [La]
    skip))
 generalize hg:w1.heap.size=gb at *;generalize hh:w2.heap.size=gz at *;clear hg hh
 go_loopw [5,8] (fun v i wr=>∃k:Nat,k≤8∧i=.int .i64 k∧v=.int .u64 (O k:Int)∧Below w.heap.size w wr∧Ia wr w.heap.size ((S k).map Ga) 83∧Ia wr gb (b.map Ga) 83∧Ia wr gz (Na 8) 83) (fun _ i _=>8-(intOf i).toNat)
 case atStart=>exact ⟨0,Nat.zero_le _,rfl,by rw [H0.out.2];rfl,hB3,by rw [H0.out.1];exact hA3,hC3,hZ3⟩
 case round=>
  clear hB3 hA3 hC3 hZ3;obtain ⟨k,hk,rfl,rfl,hB,hS,hC,hZ⟩:=hrel;have HLk:=Lib.hid (HL.out k);by_cases hlt:k<8
  ·have HN:=Lib.hid (HS.out k);have ho:=HO.out k;have hp:=HA.out k;have hq:=HB.out.2 k;have HGk:=Lib.hid (HG.out k);have d1:=hS.get (Yg (S k) k (by rw [HLk.out];omega));have d2:=hC.get (Yg b k (by rw [HB.out.1];omega));rw [HGk.out] at d1;obtain ⟨z,HZ⟩:=Nb (S (k+1));obtain ⟨o2,HO2⟩:=Nb (O (k+1));rw [HZ.out,HO2.out] at HN;generalize S k=s at *;generalize O k=o at *;generalize a.getD k 0=p at *;generalize b.getD k 0=y at *;clear HA HB HL H0 HS HO HR HG HGk;obtain ⟨x2,hx2⟩:∃x2,x2=p+y:=⟨_,rfl⟩;have c4:IntKind.u64.wrap ((p:Int)+(y:Int))=(x2:Int):=by rw [hx2];exact Si p y (by omega)
   obtain ⟨x,hx⟩:∃x,x=x2+o:=⟨_,rfl⟩;have c5:IntKind.u64.wrap ((x2:Int)+(o:Int))=(x:Int):=by rw [hx];exact Si x2 o (by omega)
   have c6:=ZI x (by omega);have c7:(x:Int)/4294967296=(o2:Int):=by rw [HN.out.2,←hx2,←hx];rfl
   rw [←hx2,←hx] at HN;obtain ⟨v,HV⟩:=Nb (x%4294967296);rw [HV.out] at HN c6;clear hx2 hx HV hp hq;have i1:(0:Int)≤(k:Int):=by omega
   have i2:(k:Int)<8:=by omega
   go_wp2_with fail
   go_quiet (fail)
   have hB4:Below w.heap.size w (wr.drewN nq):=⟨hB.os,hB.tape,hB.output,hB.size,hB.block⟩;have hC4:=hC.drewN nq;have hZ4:=hZ.drewN nq;have hS4:=hS.drewN nq;generalize wr.drewN nq=w4 at *;clear hB hC hZ hS d1 d2;have hT:=hS4.there k 1 (by rw [Uaj,HLk.out];omega);have hE:=Lib.hid (hS4.set k (Ga v));go_wp2_with (first
    |(refine Qb rfl 49 _ _ rfl w.heap.size k .u64 (v:Int) rfl rfl Gf hT ?_
      intro w5 hw5;have hB5:Below w.heap.size w w5:=by rw [hw5];exact hB4.setCell (p:=⟨w.heap.size,k,none⟩) (Xaj _) _
      have hC5:Ia w5 gb (b.map Ga) 83:=by rw [hw5];exact hC4.other (by show gb≠w.heap.size;omega) _
      have hZ5:Ia w5 gz (Na 8) 83:=by rw [hw5];exact hZ4.other (by show gz≠w.heap.size;omega) _
      have hS5:Ia w5 w.heap.size (z.map Ga) 83:=by rw [hw5,HN.out.1,←Se];exact hE.out
      clear hw5 hT hE hB4 hC4 hZ4 hS4))
   go_roundw
   case rel=>exact ⟨k+1,by omega,by go_num,by rw [HO2.out],hB5,by rw [HZ.out];exact hS5,hC5,hZ5⟩
   case measure=>simp [intOf];omega
  ·obtain rfl:k=8:=by omega
   rw [HR.out] at hS HLk;go_wp2_with (first
    |(refine Pa rfl 83 _ rfl w.heap.size 8 (r.map Ga) rfl hS Tryz.underlying83 rfl Kc (by rw [Uaj,HLk.out]) ?_)
    |(refine Ka rfl 83 _ _ rfl gz 8 (Na 8) (r.map Ga) rfl rfl hZ rfl Kc (by rw [Uaj,HLk.out]) (Oa r) ?_
      intro w7 hb7 hC7 _))
   exact qc Tryz.results45 gz (r.map Ga) rfl hC7 Tryz.underlying83 rfl Kc (by rw [Uaj,HLk.out]) rfl ⟨rfl,hB.trans (hb7.below (by omega) hB.size)⟩
theorem qB (n m:Nat) (w:World) (hn:n<mm) (hm:m<mm):Calls Tryz.prog 45 #[Aa (nD n),Aa (nD m)] w (gvn (Aa (nD ((n+m)%mm))) w):=by
 have h:=z8 (b:=nD m) (Td n);rw [Ce n hn,Ce m hm] at h;refine PM (nD n) (nD m) _ (fun k=>(plS (nD n) (nD m) k).1) (fun k=>(plS (nD n) (nD m) k).2) w (Td n).2 (Td m) (fun k=>xe _ _ _ k) ⟨rfl,rfl⟩ (fun k=>Al _ _ _ k k (Xaj _)) (fun k=>?_) (fun k=>?_) h
 ·rw [T3];exact ⟨rfl,rfl⟩
 ·refine Cr _ _ 0 1 (by decide) (fun j=>?_) k;have h1:=(Td n).2 j;have h2:=(Td m).2 j;omega
theorem AE (a r:List Nat) (t:Nat) (S:Nat→List Nat) (O:Nat→Nat) (w:World) (ht:t≤4294967296) (HA:Hid (∀k,a.getD k 0<4294967296)) (HL:Hid (∀k,(S k).length=8)) (H0:Hid (S 0=a∧O 0=0)) (HG:Hid (∀k,(S k).getD k 0=a.getD k 0))
 (HS:Hid (∀k,S (k+1)=(S k).set k ((a.getD k 0*t+O k)%4294967296)∧O (k+1)=(a.getD k 0*t+O k)/4294967296)) (HO:Hid (∀k,O k≤4294967295)) (HR:Hid (S 8=r)):
 Calls Tryz.prog 124 #[Aa a,Ga t] w (gvn (Aa r) w):=by
 go_enter Tryz.func124,Tryz.ntmps124;go_wp2_with (first
  |(refine Ra rfl 83 (.tmp 0) rfl (a.map Ga) rfl ?_
    intro w1 hB1 hA1;try simp only [La]
    skip)
  |(refine Ma (o:=⟨some 4,_,_,_,_,_⟩) rfl 83 rfl (Na 8) We ?_
    intro w3 hb3 hZ3;have hB3:=Ba hB1 hb3;have hA3:=hA1.on hb3;have hg2:=hA1.lt;clear hB1 hA1 hb3;try simp only [La]
    skip))
 generalize hh:w1.heap.size=gz at *;clear hh
 go_loopw [5,8] (fun v i wr=>∃k:Nat,k≤8∧i=.int .i64 k∧v=.int .u64 (O k:Int)∧Below w.heap.size w wr∧Ia wr w.heap.size ((S k).map Ga) 83∧Ia wr gz (Na 8) 83) (fun _ i _=>8-(intOf i).toNat)
 case atStart=>exact ⟨0,Nat.zero_le _,rfl,by rw [H0.out.2];rfl,hB3,by rw [H0.out.1];exact hA3,hZ3⟩
 case round=>
  clear hB3 hA3 hZ3;obtain ⟨k,hk,rfl,rfl,hB,hS,hZ⟩:=hrel;have HLk:=Lib.hid (HL.out k);by_cases hlt:k<8
  ·have HN:=Lib.hid (HS.out k);have ho:=HO.out k;have hp:=HA.out k;have HGk:=Lib.hid (HG.out k);have d1:=hS.get (Yg (S k) k (by rw [HLk.out];omega));rw [HGk.out] at d1;obtain ⟨z,HZ⟩:=Nb (S (k+1));obtain ⟨o2,HO2⟩:=Nb (O (k+1));rw [HZ.out,HO2.out] at HN;generalize S k=s at *;generalize O k=o at *;generalize a.getD k 0=p at *;clear HA HL H0 HS HO HR HG HGk;have hpt:p*t≤4294967295*4294967296:=Nat.mul_le_mul (by omega) ht;obtain ⟨x2,hx2⟩:∃x2,x2=p*t:=⟨_,rfl⟩;have c4:IntKind.u64.wrap ((p:Int)*(t:Int))=(x2:Int):=by rw [hx2];exact Cu p t (by omega)
   rw [←hx2] at hpt HN;obtain ⟨x,hx⟩:∃x,x=x2+o:=⟨_,rfl⟩;have c5:IntKind.u64.wrap ((x2:Int)+(o:Int))=(x:Int):=by rw [hx];exact Si x2 o (by omega)
   have c6:=ZI x (by omega);have c7:(x:Int)/4294967296=(o2:Int):=by rw [HN.out.2,←hx];rfl
   rw [←hx] at HN;obtain ⟨v,HV⟩:=Nb (x%4294967296);rw [HV.out] at HN c6;clear hx2 hx HV hp hpt;have i1:(0:Int)≤(k:Int):=by omega
   have i2:(k:Int)<8:=by omega
   have hT:=hS.there k 1 (by rw [Uaj,HLk.out];omega);have hE:=Lib.hid (hS.set k (Ga v));go_wp2_with (first
    |(refine Qb rfl 49 _ _ rfl w.heap.size k .u64 (v:Int) rfl rfl Gf hT ?_
      intro w5 hw5;have hB5:Below w.heap.size w w5:=by rw [hw5];exact hB.setCell (p:=⟨w.heap.size,k,none⟩) (Xaj _) _
      have hZ5:Ia w5 gz (Na 8) 83:=by rw [hw5];exact hZ.other (by show gz≠w.heap.size;omega) _
      have hS5:Ia w5 w.heap.size (z.map Ga) 83:=by rw [hw5,HN.out.1,←Se];exact hE.out
      clear hw5 hT hE hB hZ hS d1))
   go_roundw
   case rel=>exact ⟨k+1,by omega,by go_num,by rw [HO2.out],hB5,by rw [HZ.out];exact hS5,hZ5⟩
   case measure=>simp [intOf];omega
  ·obtain rfl:k=8:=by omega
   rw [HR.out] at hS HLk;go_wp2_with (first
    |(refine Pa rfl 83 _ rfl w.heap.size 8 (r.map Ga) rfl hS Tryz.underlying83 rfl Kc (by rw [Uaj,HLk.out]) ?_)
    |(refine Ka rfl 83 _ _ rfl gz 8 (Na 8) (r.map Ga) rfl rfl hZ rfl Kc (by rw [Uaj,HLk.out]) (Oa r) ?_
      intro w7 hb7 hC7 _))
   exact qc Tryz.results124 gz (r.map Ga) rfl hC7 Tryz.underlying83 rfl Kc (by rw [Uaj,HLk.out]) rfl ⟨rfl,hB.trans (hb7.below (by omega) hB.size)⟩
theorem xI (n t:Nat) (w:World) (hn:n<mm) (ht:t≤4294967296):Calls Tryz.prog 124 #[Aa (nD n),Ga t] w (gvn (Aa (nD (n*t%mm))) w):=by
 have h:=q8 (Td n) t;rw [Ce n hn] at h;refine AE (nD n) _ t (fun k=>(scS (nD n) t k).1) (fun k=>(scS (nD n) t k).2) w ht (Td n).2 (fun k=>xe _ _ _ k) ⟨rfl,rfl⟩ (fun k=>Al _ _ _ k k (Xaj _)) (fun k=>?_) (fun k=>Jad (Td n) ht k) h;rw [U3];exact ⟨rfl,rfl⟩
def TX (p y o:Nat):Nat:=(p+18446744073709551616-y-o)%18446744073709551616
theorem I9 (p y o:Nat) (hp:p<4294967296) (hy:y<4294967296) (ho:o≤1):IntKind.u64.wrap (IntKind.u64.wrap ((p:Int)-(y:Int))-(o:Int))=(TX p y o:Int)∧TX p y o%4294967296=(p+4294967296-y-o)%4294967296∧TX p y o/4294967296%2=1-(p+4294967296-y-o)/4294967296:=by
 rw [IntKind.wrap_u64,IntKind.wrap_u64,TX];refine ⟨by omega,by omega,?_⟩;rcases Nat.lt_or_ge p (y+o) with h|h
 ·rw [show (p+4294967296-y-o)/4294967296=0 by omega,show (p+18446744073709551616-y-o)%18446744073709551616=p+18446744073709551616-y-o by omega,show (p+18446744073709551616-y-o)/4294967296=4294967295 by omega]
 ·rw [show (p+4294967296-y-o)/4294967296=1 by omega,show (p+18446744073709551616-y-o)%18446744073709551616=p-y-o by omega,show (p-y-o)/4294967296=0 by omega]
theorem yI (a b r:List Nat) (c:Bool) (S:Nat→List Nat) (O:Nat→Nat) (w:World) (HA:Hid (∀k,a.getD k 0<4294967296)) (HB:Hid (b.length=8∧∀k,b.getD k 0<4294967296)) (HL:Hid (∀k,(S k).length=8)) (H0:Hid (S 0=a∧O 0=0)) (HG:Hid (∀k,(S k).getD k 0=a.getD k 0))
 (HS:Hid (∀k,S (k+1)=(S k).set k ((a.getD k 0+4294967296-b.getD k 0-O k)%4294967296)∧O (k+1)=1-(a.getD k 0+4294967296-b.getD k 0-O k)/4294967296)) (HO:Hid (∀k,O k≤1)) (HR:Hid (S 8=r)) (HC:Hid (((O 8:Int)==1)=c)):
 Calls Tryz.prog 54 #[Aa a,Aa b] w (gvn (.tuple #[Aa r,.bool c]) w):=by
 go_enter Tryz.func54,Tryz.ntmps54;go_wp2_with (first
  |(refine Ra rfl 83 (.tmp 0) rfl (a.map Ga) rfl ?_
    intro w1 hB1 hA1;try simp only [La]
    skip)
  |(refine Ra rfl 83 (.tmp 1) rfl (b.map Ga) rfl ?_
    intro w2 hb2 hC2;have hB2:=Ba hB1 hb2;have hA2:=hA1.on hb2;have hg1:=hA1.lt;clear hB1 hA1 hb2;try simp only [La]
    skip)
  |(refine Ma (o:=⟨some 4,_,_,_,_,_⟩) rfl 83 rfl (Na 8) We ?_
    intro w3 hb3 hZ3;have hB3:=Ba hB2 hb3;have hA3:=hA2.on hb3;have hC3:=hC2.on hb3;have hg2:=hC2.lt;clear hB2 hA2 hC2 hb3;try simp only [La]
    skip))
 generalize hg:w1.heap.size=gb at *;generalize hh:w2.heap.size=gz at *;clear hg hh
 go_loopw [6,9] (fun v i wr=>∃k:Nat,k≤8∧i=.int .i64 k∧v=.int .u64 (O k:Int)∧Below w.heap.size w wr∧Ia wr w.heap.size ((S k).map Ga) 83∧Ia wr gb (b.map Ga) 83∧Ia wr gz (Na 8) 83) (fun _ i _=>8-(intOf i).toNat)
 case atStart=>exact ⟨0,Nat.zero_le _,rfl,by rw [H0.out.2];rfl,hB3,by rw [H0.out.1];exact hA3,hC3,hZ3⟩
 case round=>
  clear hB3 hA3 hC3 hZ3;obtain ⟨k,hk,rfl,rfl,hB,hS,hC,hZ⟩:=hrel;have HLk:=Lib.hid (HL.out k);by_cases hlt:k<8
  ·have HN:=Lib.hid (HS.out k);have ho:=HO.out k;have hp:=HA.out k;have hq:=HB.out.2 k;have HGk:=Lib.hid (HG.out k);have d1:=hS.get (Yg (S k) k (by rw [HLk.out];omega));have d2:=hC.get (Yg b k (by rw [HB.out.1];omega));rw [HGk.out] at d1;obtain ⟨z,HZ⟩:=Nb (S (k+1));obtain ⟨o2,HO2⟩:=Nb (O (k+1));rw [HZ.out,HO2.out] at HN;generalize S k=s at *;generalize O k=o at *;generalize a.getD k 0=p at *;generalize b.getD k 0=y at *;clear HA HB HL H0 HS HO HR HG HGk HC;have hlow:=I9 p y o hp hq ho;have hlt2:TX p y o<18446744073709551616:=Nat.mod_lt _ (by decide);generalize TX p y o=x at *;obtain ⟨c5,hv,hu⟩:=hlow;rw [←hv,←hu] at HN;have c6:=ZI x hlt2;have c7:bits .and .u64 ((x:Int)/4294967296) 1=(o2:Int):=by rw [HN.out.2];exact Bah (x/4294967296) (by omega)
   obtain ⟨v,HV⟩:=Nb (x%4294967296);rw [HV.out] at HN c6;clear HV hp hq hv hu hlt2 ho;have i1:(0:Int)≤(k:Int):=by omega
   have i2:(k:Int)<8:=by omega
   go_wp2_with fail
   go_quiet (fail)
   have hB4:Below w.heap.size w (wr.drewN nq):=⟨hB.os,hB.tape,hB.output,hB.size,hB.block⟩;have hC4:=hC.drewN nq;have hZ4:=hZ.drewN nq;have hS4:=hS.drewN nq;generalize wr.drewN nq=w4 at *;clear hB hC hZ hS d1 d2;have hT:=hS4.there k 1 (by rw [Uaj,HLk.out];omega);have hE:=Lib.hid (hS4.set k (Ga v));go_wp2_with (first
    |(refine Qb rfl 49 _ _ rfl w.heap.size k .u64 (v:Int) rfl rfl Gf hT ?_
      intro w5 hw5;have hB5:Below w.heap.size w w5:=by rw [hw5];exact hB4.setCell (p:=⟨w.heap.size,k,none⟩) (Xaj _) _
      have hC5:Ia w5 gb (b.map Ga) 83:=by rw [hw5];exact hC4.other (by show gb≠w.heap.size;omega) _
      have hZ5:Ia w5 gz (Na 8) 83:=by rw [hw5];exact hZ4.other (by show gz≠w.heap.size;omega) _
      have hS5:Ia w5 w.heap.size (z.map Ga) 83:=by rw [hw5,HN.out.1,←Se];exact hE.out
      clear hw5 hT hE hB4 hC4 hZ4 hS4))
   go_roundw
   case rel=>exact ⟨k+1,by omega,by go_num,by rw [HO2.out],hB5,by rw [HZ.out];exact hS5,hC5,hZ5⟩
   case measure=>simp [intOf];omega
  ·obtain rfl:k=8:=by omega
   rw [HR.out] at hS HLk;generalize O 8=o at *;go_wp2_with (first
    |(refine Pa rfl 83 _ rfl w.heap.size 8 (r.map Ga) rfl hS Tryz.underlying83 rfl Kc (by rw [Uaj,HLk.out]) ?_)
    |(refine Ka rfl 83 _ _ rfl gz 8 (Na 8) (r.map Ga) rfl rfl hZ rfl Kc (by rw [Uaj,HLk.out]) (Oa r) ?_
      intro w7 hb7 hC7 _))
   rw [HC.out];exact Uag Tryz.results54 gz (r.map Ga) (.bool c) rfl rfl hC7 Tryz.underlying83 Kc (by rw [Uaj,HLk.out]) rfl ⟨rfl,hB.trans (hb7.below (by omega) hB.size)⟩
theorem Cy (n m:Nat) (w:World) (hn:n<mm) (hm:m<mm):Calls Tryz.prog 54 #[Aa (nD n),Aa (nD m)] w (gvn (.tuple #[Aa (nD ((n+mm-m)%mm)),.bool (decide (n<m))]) w):=by
 have h:=A9 (Td n) (Td m);rw [Ce n hn,Ce m hm] at h;refine yI (nD n) (nD m) _ _ (fun k=>(mnS (nD n) (nD m) k).1) (fun k=>(mnS (nD n) (nD m) k).2) w (Td n).2 (Td m) (fun k=>(yB (Td n) k).1) ⟨rfl,rfl⟩ (fun k=>JG _ _ k k (Xaj _)) (fun k=>?_) (fun k=>WI _ _ k) h.1 ?_
 ·rw [mnS];exact ⟨rfl,rfl⟩
 ·show _=_;rw [h.2];by_cases hc:n<m
  ·rw [if_pos hc,decide_eq_true hc];rfl
  ·rw [if_neg hc,decide_eq_false hc];rfl
section
variable {P:Program} {ops:Array Oper} {Q:Exit→Act→World→Prop} {md:Region.Mode}
def XR (md:Region.Mode) (ops:Array Oper):Bool:=(List.range ops.size).all fun i=>match ops[i]? with
 |some o=>o.after.all fun e=> !Region.binds md e||Nat.blt e.on i
 |none=>true
def Ew (n k:Nat):Array Bool:=((List.range n).map fun i=>Nat.blt i k).toArray
theorem QM (n k i:Nat) (d:Bool) (h:i<n):(Ew n k).getD i d=Nat.blt i k:=by simp [Ew,h]
theorem UX (n:Nat):Ew n 0=Array.replicate n false:=by
 apply Array.ext_getElem?;intro i;by_cases h:i<n
 ·simp [Ew,h,show Nat.blt i 0=false from Bool.eq_false_iff.2 (by rw [Ne,Nat.blt_eq];omega)]
 ·simp [Ew,h]
theorem E4 (n k:Nat):(Ew n k).setIfInBounds k true=Ew n (k+1):=by
 apply Array.ext_getElem?;intro i;rw [Array.getElem?_setIfInBounds];by_cases h:i<n
 ·by_cases e:k=i
  ·subst e;simp [Ew,h,Nat.blt_eq]
  ·have:Nat.blt i k=Nat.blt i (k+1):=by
    rw [Bool.eq_iff_iff,Nat.blt_eq,Nat.blt_eq];omega
   simp [Ew,h,e,this]
 ·by_cases e:k=i
  ·subst e;simp [Ew,h]
  ·simp [Ew,h,e]
theorem Su (hE:XR md ops=true):∀(n k:Nat) (a:Act) (w:World),k+n=ops.size→wpAny P md ops Q n (Ew ops.size k) a w→wpOps P ops Q (List.range' k n) a w
 |0,_,_,_,_,h=>h.2
 |n+1,k,a,w,hk,h=>by
  rw [List.range'_succ,wpOps_cons];have hr:k∈Region.ready md ops (Ew ops.size k):=by
   have hlt:k<ops.size:=by omega
   refine mem_ready.2 ⟨by rw [QM _ _ _ _ hlt];exact Bool.eq_false_iff.2 (by rw [Ne,Nat.blt_eq];omega),ops[k],by simp [hlt],fun e he hb=>?_⟩;rw [XR,List.all_eq_true] at hE;have h1:=hE k (List.mem_range.2 hlt);rw [Array.getElem?_eq_getElem hlt] at h1;have h2:=(Array.all_eq_true'.1 h1) e he;rw [hb] at h2;have h3:Nat.blt e.on k=true:=by simpa using h2
   rw [QM _ _ _ _ (Nat.lt_trans (by simpa [Nat.blt_eq] using h3) hlt)];exact h3
  refine wpOp_mono (fun a w hh=>Su hE n (k+1) a w (by omega) ?_) (h.2 k hr)
  rwa [E4] at hh
theorem Mb {id:Nat} {a:Act} {w:World} (hE:XR md ops=true) (h:wpAny P md ops Q ops.size (Array.replicate ops.size false) a w):(Code.region id ops false).wp P Q a w:=by
 refine wp_region ?_;rw [List.range_eq_range'];refine Su hE ops.size 0 a w (by omega) ?_;rw [UX];exact h
end
end Go.Proofs.YtoggkhjaghkpnaaGreatDoor
namespace Go.Proofs.YtoggkhjaghkpnaaGreatDoor
open Go.RowKit
theorem RM (a b d s ol:List Nat) (c:Bool) (w:World)
 (Ha:Hid (a.length=8))
 (Hb:Hid (b.length=8))
 (Hd:Hid (d.length=8))
 (Hs:Hid (s.length=8))
 (Hol:Hid (ol.length=8))
 (CM:Hid (∀W,Calls Tryz.prog 54 #[Aa a,Aa b] W (gvn (.tuple #[Aa d,.bool c]) W)))
 (CP:Hid (c=true→∀W,Calls Tryz.prog 45 #[Aa d,Aa ol] W (gvn (Aa s) W)))
 (hO:Tab w 0 (ol.map Ga)):
 Calls Tryz.prog 44 #[Aa a,Aa b] w (gvn (Aa (bif c then s else d)) w):=by
 go_enter Tryz.func44,Tryz.ntmps44;go_wp2_with (first
  |(refine Ra rfl 83 (.tmp 0) rfl (a.map Ga) rfl ?_
    intro w1 hb1 hva1;have hB1:=hb1;have hgea:w.heap.size≤w.heap.size:=Xaj _;have hvo1:=hO.on hb1;have hneoa:=Vaj hO.lt;clear hO hb1;try simp only [La]
    skip)
  |(refine Ra rfl 83 (.tmp 1) rfl (b.map Ga) rfl ?_
    intro w2 hb2 hvb2;have hB2:=Ba hB1 hb2;have hgeb:w.heap.size≤w1.heap.size:=hB1.size;have hvo2:=hvo1.on hb2;have hneob:=Vaj hvo1.lt;have hva2:=hva1.on hb2;have hneab:=Vaj hva1.lt;clear hB1 hvo1 hva1 hb2;try simp only [La]
    skip)
  |(refine Ma (o:=⟨some 4,_,_,_,_,_⟩) rfl 83 rfl (Na 8) We ?_
    intro w3 hb3 hvr3;have hB3:=Ba hB2 hb3;have hger:w.heap.size≤w2.heap.size:=hB2.size;have hvo3:=hvo2.on hb3;have hneor:=Vaj hvo2.lt;have hva3:=hva2.on hb3;have hnear:=Vaj hva2.lt;have hvb3:=hvb2.on hb3;have hnebr:=Vaj hvb2.lt;clear hB2 hvo2 hva2 hvb2 hb3;try simp only [La]
    skip)
  |(refine Pa rfl 83 (.tmp 2) rfl w.heap.size 8 (a.map Ga) rfl hva3 Tryz.underlying83 rfl Kc (by rw [Uaj,Ha.out]) ?_
    try simp only [La]
    skip)
  |(refine Pa rfl 83 (.tmp 3) rfl w1.heap.size 8 (b.map Ga) rfl hvb3 Tryz.underlying83 rfl Kc (by rw [Uaj,Hb.out]) ?_
    try simp only [La]
    skip))
 generalize hqb:w1.heap.size=gb at *;clear hqb;generalize hqr:w2.heap.size=gr at *;clear hqr;refine (CM.out w3).mono ?_;rintro e w4 ⟨rfl,hb4⟩;have hB4:=Ba hB3 hb4;have hvo4:=hvo3.on hb4;have hva4:=hva3.on hb4;have hvb4:=hvb3.on hb4;have hvr4:=hvr3.on hb4;clear hB3 hvo3 hva3 hvb3 hvr3 hb4;cases c
 ·go_wp2_with (first
   |(refine Db rfl rfl 83 (.tmp 5) (.tmp 11) rfl rfl 8 (Na 8) (d.map Ga) rfl rfl We rfl Kc (by rw [Uaj,Hd.out]) (Oa _) ?_
     intro w5 hb5 hvd5;have hB5:=Ba hB4 hb5;have hged:w.heap.size≤w4.heap.size:=hB4.size;have hvo5:=hvo4.on hb5;have hneod:=Vaj hvo4.lt;have hva5:=hva4.on hb5;have hnead:=Vaj hva4.lt;have hvb5:=hvb4.on hb5;have hnebd:=Vaj hvb4.lt;have hvr5:=hvr4.on hb5;have hnerd:=Vaj hvr4.lt;clear hB4 hvo4 hva4 hvb4 hvr4 hb5;try simp only [La]
     skip)
   |(refine Pa rfl 83 (.tmp 5) rfl w4.heap.size 8 (d.map Ga) rfl hvd5 Tryz.underlying83 rfl Kc (by rw [Uaj,Hd.out]) ?_
     try simp only [La]
     skip)
   |(refine Ka rfl 83 (.tmp 4) (.tmp 17) rfl gr 8 (Na 8) (d.map Ga) rfl rfl hvr5 rfl Kc (by rw [Uaj,Hd.out]) (Oa _) ?_
     intro w6 hb6 hvr6 hz6;have hB6:Below w.heap.size w w6:=hB5.trans (hb6.below hger hB5.size);have hvo6:=hvo5.but hb6 hneor;have hva6:=hva5.but hb6 hnear;have hvb6:=hvb5.but hb6 hnebr;have hvd6:=hvd5.but hb6 (Ne.symm hnerd);clear hB5 hvr5 hb6 hz6 hvo5 hva5 hvb5 hvd5;skip))
  generalize hqd:w4.heap.size=gd at *;clear hqd;exact qc Tryz.results44 gr (d.map Ga) rfl hvr6 Tryz.underlying83 rfl Kc (by rw [Uaj,Hd.out]) rfl ⟨rfl,hB6⟩
 ·go_wp2_with (first
   |(refine Db rfl rfl 83 (.tmp 5) (.tmp 11) rfl rfl 8 (Na 8) (d.map Ga) rfl rfl We rfl Kc (by rw [Uaj,Hd.out]) (Oa _) ?_
     intro w5 hb5 hvd5;have hB5:=Ba hB4 hb5;have hged:w.heap.size≤w4.heap.size:=hB4.size;have hvo5:=hvo4.on hb5;have hneod:=Vaj hvo4.lt;have hva5:=hva4.on hb5;have hnead:=Vaj hva4.lt;have hvb5:=hvb4.on hb5;have hnebd:=Vaj hvb4.lt;have hvr5:=hvr4.on hb5;have hnerd:=Vaj hvr4.lt;clear hB4 hvo4 hva4 hvb4 hvr4 hb5;try simp only [La]
     skip)
   |(refine Pa rfl 83 (.tmp 5) rfl w4.heap.size 8 (d.map Ga) rfl hvd5 Tryz.underlying83 rfl Kc (by rw [Uaj,Hd.out]) ?_
     try simp only [La]
     skip)
   |(refine Xm rfl 83 (.global 0) rfl 0 8 (ol.map Ga) rfl hvo5 Tryz.underlying83 rfl Kc (by rw [Uaj,Hol.out]) ?_
     try simp only [La]
     skip))
  generalize hqd:w4.heap.size=gd at *;clear hqd;refine ((CP.out (by simp)) w5).mono ?_;rintro e w7 ⟨rfl,hb7⟩;have hB7:=Ba hB5 hb7;have hvo7:=hvo5.on hb7;have hva7:=hva5.on hb7;have hvb7:=hvb5.on hb7;have hvr7:=hvr5.on hb7;have hvd7:=hvd5.on hb7;clear hB5 hvo5 hva5 hvb5 hvr5 hvd5 hb7;go_wp2_with (first
   |(refine Ka rfl 83 (.tmp 4) (.tmp 16) rfl gr 8 (Na 8) (s.map Ga) rfl rfl hvr7 rfl Kc (by rw [Uaj,Hs.out]) (Oa _) ?_
     intro w8 hb8 hvr8 hz8;have hB8:Below w.heap.size w w8:=hB7.trans (hb8.below hger hB7.size);have hvo8:=hvo7.but hb8 hneor;have hva8:=hva7.but hb8 hnear;have hvb8:=hvb7.but hb8 hnebr;have hvd8:=hvd7.but hb8 (Ne.symm hnerd);clear hB7 hvr7 hb8 hz8 hvo7 hva7 hvb7 hvd7;skip))
  exact qc Tryz.results44 gr (s.map Ga) rfl hvr8 Tryz.underlying83 rfl Kc (by rw [Uaj,Hs.out]) rfl ⟨rfl,hB8⟩
theorem AC (n m:Nat) (w:World) (hn:n<mm) (hm:m<mm) (h:m≤n+NP.LL) (hO:Tab w 0 ((nD NP.LL).map Ga)):Calls Tryz.prog 44 #[Aa (nD n),Aa (nD m)] w (gvn (Aa (nD (if n<m then n+NP.LL-m else n-m))) w):=by
 have hL:NP.LL<mm:=by decide
 have e2:mm=115792089237316195423570985008687907853269984665640564039457584007913129639936:=rfl;have hL2:NP.LL=7237005577332262213973186563042994240857116359379907606001950938285454250989:=rfl;have h1:=RM (nD n) (nD m) (nD ((n+mm-m)%mm)) (nD (((n+mm-m)%mm+NP.LL)%mm)) (nD NP.LL) (decide (n<m)) w rfl rfl rfl rfl rfl (fun W=>Cy n m W hn hm) (fun _ W=>qB _ NP.LL W (Nat.mod_lt _ (by decide)) hL) hO;have e:(bif decide (n<m) then nD (((n+mm-m)%mm+NP.LL)%mm) else nD ((n+mm-m)%mm))=nD (if n<m then n+NP.LL-m else n-m):=by
  generalize mm=M at *;generalize NP.LL=L at *;by_cases hc:n<m
  ·rw [decide_eq_true hc,if_pos hc,cond_true,yaj (a:=n+M-m) (by omega)];congr 1
   rw [show n+M-m+L=n+L-m+M by omega,Nat.add_mod_right,yaj (by omega)]
  ·rw [decide_eq_false hc,if_neg hc,cond_false,show n+M-m=n-m+M by omega,Nat.add_mod_right,yaj (by omega)]
 rw [e] at h1;exact h1
theorem VX (s n:List Nat) (hs:s.length=8) (hn:n.length=8):Ub (s.map Ga) 1 ((n.take 7).map Ga)=(s.take 1++n.take 7).map Ga:=by
 rw [Ub,Uaj,zaj,hn,List.drop_of_length_le (by rw [Uaj,hs];decide),List.append_nil,←List.map_take,List.map_append]
def Fw (n:List Nat) (limb:Nat) (g_base:Nat) (gr:Nat) (top:Nat) (gs:Nat) (q:Nat) (p:Nat) (s0:List Nat) (z:Nat) (v:List Nat) (tl:List Nat) (m:List Nat) (r:List Nat):List Value:=
 (Aa n)::(Ga limb)::ptr g_base::undef::ptr gr::(Ga top)::ptr gs::(.pointer (some ⟨g_base,7,none⟩))::(Ga q)::(.int .u64 (IntKind.u64.wrap ((q:Int)*16)))::(.pointer (some ⟨g_base,6,none⟩))::(Ga p)::(.int .u64 ((p:Int)/268435456))::(Ga top)::(Ga limb)::(Aa s0)::(.slice (some ⟨gs,1,none⟩) 7 7)::(.slice (some ⟨g_base,0,none⟩) 8 8)::(.int .i64 7)::(.pointer (some ⟨gs,7,none⟩))::(Ga p)::(Ga z)::(.pointer (some ⟨gs,7,none⟩))::(Aa v)::(Aa tl)::(Ga top)::(Aa m)::(Aa r)::[]
theorem SM (n s0 u v m r ol tl:List Nat) (limb p q top z:Nat) (w:World)
 (Hn:Hid (n.length=8))
 (Hs0:Hid (s0.length=8))
 (Hu:Hid (u.length=8))
 (Hv:Hid (v.length=8))
 (Hr:Hid (r.length=8))
 (Htl:Hid (tl.length=8))
 (HP:Hid ((n.map Ga)[6]? =some (Ga p)))
 (HQ:Hid ((n.map Ga)[7]? =some (Ga q)))
 (HTOP:Hid (bits .or .u64 (IntKind.u64.wrap ((q:Int)*16)) ((p:Int)/268435456)=(top:Int)))
 (HU:Hid (s0.take 1++n.take 7=u))
 (HU7:Hid ((u.map Ga)[7]? =some (Ga p)))
 (hc8:bits .and .u64 (p:Int) 268435455=(z:Int))
 (HV:Hid (u.set 7 z=v))
 (BS:∀w,(Instr.build 83 #[(0,Ga limb)]).run Tryz.prog w=.ok (Aa s0) w)
 (CS:Hid (∀W,Calls Tryz.prog 124 #[Aa tl,Ga top] W (gvn (Aa m) W)))
 (CL:Hid (∀W,Tab W 0 (ol.map Ga)→Calls Tryz.prog 44 #[Aa v,Aa m] W (gvn (Aa r) W)))
 (hO:Tab w 0 (ol.map Ga))
 (hT:Tab w 7 (tl.map Ga)):
 Calls Tryz.prog 90 #[Aa n,Ga limb] w (gvn (Aa r) w):=by
 have c8:=hc8;clear hc8;go_enter Tryz.func90,Tryz.ntmps90
 go_upto_region 1 with (first
  |(refine Ra rfl 83 (.tmp 0) rfl (n.map Ga) rfl ?_
    intro w1 hb1 hvn1;have hB1:=hb1;have hgen:w.heap.size≤w.heap.size:=Xaj _;have hvo1:=hO.on hb1;have hneon:=Vaj hO.lt;have hvt1:=hT.on hb1;have hnetn:=Vaj hT.lt;clear hO hT hb1;try simp only [La]
    skip)
  |(refine Ma (o:=⟨some 4,_,_,_,_,_⟩) rfl 83 rfl (Na 8) We ?_
    intro w2 hb2 hvr2;have hB2:=Ba hB1 hb2;have hger:w.heap.size≤w1.heap.size:=hB1.size;have hvo2:=hvo1.on hb2;have hneor:=Vaj hvo1.lt;have hvt2:=hvt1.on hb2;have hnetr:=Vaj hvt1.lt;have hvn2:=hvn1.on hb2;have hnenr:=Vaj hvn1.lt;clear hB1 hvo1 hvt1 hvn1 hb2;try simp only [La]
    skip))
 generalize hqr:w1.heap.size=gr at *;clear hqr;have d6:=hvn2.get HP.out;have d7:=hvn2.get HQ.out;have c1:=HTOP.out;go_wp2_with (first
  |(refine Eb rfl 83 _ rfl [(0,Ga limb)] rfl _ BS ?_
    try simp only [La]
    skip)
  |(refine Db rfl rfl 83 (.tmp 6) (.tmp 15) rfl rfl 8 (Na 8) (s0.map Ga) rfl rfl We rfl Kc (by rw [Uaj,Hs0.out]) (Oa _) ?_
    intro w3 hb3 hvs3;have hB3:=Ba hB2 hb3;have hges:w.heap.size≤w2.heap.size:=hB2.size;have hvo3:=hvo2.on hb3;have hneos:=Vaj hvo2.lt;have hvt3:=hvt2.on hb3;have hnets:=Vaj hvt2.lt;have hvn3:=hvn2.on hb3;have hnens:=Vaj hvn2.lt;have hvr3:=hvr2.on hb3;have hners:=Vaj hvr2.lt;clear hB2 hvo2 hvt2 hvn2 hvr2 hb3;try simp only [La]
    skip))
 generalize hqs:w2.heap.size=gs at *;clear hqs;refine Ad 2 (by kernel_rfl) (by kernel_rfl) ?_;intro w50 hw50;have hB50:Below w.heap.size w w50:=by rw [hw50];exact hB3.drew
 have hvo50:=hvo3.drew;rw [←hw50] at hvo50;have hvt50:=hvt3.drew;rw [←hw50] at hvt50;have hvn50:=hvn3.drew;rw [←hw50] at hvn50;have hvr50:=hvr3.drew;rw [←hw50] at hvr50;have hvs50:=hvs3.drew;rw [←hw50] at hvs50;clear hw50 hB3 hvo3 hvt3 hvn3 hvr3 hvs3;simp only [List.take_succ_cons,List.take_zero,List.drop_succ_cons,List.drop_zero];repeat still_step
 refine wpStill_nil ?_;go_wp2_with (first
  |(refine Ss rfl (.tmp 16) (.tmp 17) 136 49 Tryz.underlying136 Gf rfl gs 1 _ _ w.heap.size 0 _ _ 7 ((n.take 7).map Ga) rfl rfl rfl (by rw [Uaj,zaj,Hn.out];rfl) (by rw [List.map_take];exact hvn50.range 0 7) (hvs50.there 1 7 (by rw [Uaj,Hs0.out];decide)) (by intro x hx;obtain ⟨y,_,rfl⟩:=List.mem_map.1 hx;rfl) ?_
    intro w51 hw51;have hb51:But gs w50 w51:=by rw [hw51];exact (But.refl gs w50).setCells _ _
    have hvs51:Ia w51 gs (u.map Ga) 83:=by
     rw [hw51,←HU.out,←VX s0 n Hs0.out Hn.out];exact hvs50.setCells (by rw [Uaj,Uaj,zaj,Hn.out,Hs0.out];decide)
    have hB51:=hB50.trans (hb51.below hges hB50.size);have hvn51:=hvn50.but hb51 hnens;have hvr51:=hvr50.but hb51 hners;have hvo51:=hvo50.but hb51 hneos;have hvt51:=hvt50.but hb51 hnets;have d8:=hvs51.get HU7.out;have hTT:=hvs51.there 7 1 (by rw [Uaj,Hu.out];decide);clear hw51 hb51 hB50 hvn50 hvr50 hvs50 hvo50 hvt50;try simp only [La]
    skip)
  |(refine Qb rfl 49 _ _ rfl gs 7 .u64 (z:Int) rfl rfl Gf hTT ?_
    intro w52 hw52;have hb52:But gs w51 w52:=by rw [hw52];exact (But.refl gs w51).setCells 7 [Ga z]
    have hvs52:Ia w52 gs (v.map Ga) 83:=by rw [hw52,←HV.out,←Se];exact hvs51.set 7 _
    have hB52:=hB51.trans (hb52.below hges hB51.size);have hvn52:=hvn51.but hb52 hnens;have hvr52:=hvr51.but hb52 hners;have hvo52:=hvo51.but hb52 hneos;have hvt52:=hvt51.but hb52 hnets;clear hw52 hb52 hB51 hvn51 hvr51 hvs51 hvo51 hvt51 d8 hTT))
 go_wp2_with fail
 replace hvo52:=hvo52.drew;replace hvt52:=hvt52.drew;replace hvn52:=hvn52.drew;replace hvr52:=hvr52.drew;replace hvs52:=hvs52.drew;refine wp_region_any (by kernel_rfl) ?_;refine Ya (L:=[0,1,2,3,4]) (by kernel_rfl) _ _ (Fw n limb w.heap.size gr top gs q p s0 z v tl m r) [] 83 (Na 8) [0,1,2,3,4,5,6,7,8,9,10,11,12,13,14,15,16,17,18,19,20,21,22] (by kernel_rfl) (by kernel_rfl) ?_ We ?_ (by rfl) ?_ 1 (by kernel_rfl) ?_
 ·intro p hp;exact absurd hp List.not_mem_nil
 ·repeat refine Aak rfl ?_
  exact Qa
 ·refine Aak (.inr (mL 23 rfl fun w hb=>D4 (hvs52.on hb) Hv.out)) ?_;refine Aak (.inr (mL 24 rfl fun w hb=>Dw (hvt52.on hb) Htl.out)) ?_;refine Aak (.inr (mV 25 rfl (.inl rfl) rfl)) ?_;refine Aak (.inr (mC 26 rfl Tryz.func124 fun w hb=>CS.out w)) ?_;refine Aak (.inr (mC 27 rfl Tryz.func44 fun w hb=>CL.out w (hvo52.on hb))) ?_;exact Qa
 intro w4 g hb4 hN4 hap4;clear hN4 hap4;have hB4:=Ba (show Below w.heap.size w w52.drew from hB52.drew) hb4;have hvo4:=hvo52.on hb4;have hvt4:=hvt52.on hb4;have hvn4:=hvn52.on hb4;have hvr4:=hvr52.on hb4;have hvs4:=hvs52.on hb4;clear hB52 hvo52 hvt52 hvn52 hvr52 hvs52 hb4;refine Bb 5 rfl (by kernel_rfl) ?_;refine Ka rfl 83 (.tmp 4) (.tmp 27) rfl gr 8 (Na 8) (r.map Ga) rfl rfl hvr4 rfl Kc (by rw [Uaj,Hr.out]) (Oa _) ?_;intro w5 hb5 hvr5 hz5;have hB5:Below w.heap.size w w5:=hB4.trans (hb5.below hger hB4.size);have hvo5:=hvo4.but hb5 hneor;have hvt5:=hvt4.but hb5 hnetr;have hvn5:=hvn4.but hb5 hnenr;have hvs5:=hvs4.but hb5 (Ne.symm hners);clear hB4 hvr4 hb5 hz5 hvo4 hvt4 hvn4 hvs4;rename_i K hKK;show Exit.then K _ Exit.normal (⟨(Fw n limb w.heap.size gr top gs q p s0 z v tl m r).toArray,[]⟩:Act) w5;simp only [Exit.then];refine hKK _ _ ?_;clear hKK K g;simp only [Fw,ptr]
 go_wp2
 exact qc Tryz.results90 gr (r.map Ga) rfl hvr5 Tryz.underlying83 rfl Kc (by rw [Uaj,Hr.out]) rfl ⟨rfl,hB5⟩
theorem Qad (p q:Nat) (hp:p<4294967296) (hq:q<4294967296):bits .or .u64 (IntKind.u64.wrap ((q:Int)*16)) ((p:Int)/268435456)=((q*16+p/268435456:Nat):Int):=by
 have e:=Cu q 16 (by omega);rw [show ((16:Nat):Int)=16 from rfl] at e;rw [e,show (p:Int)/268435456=((p/268435456:Nat):Int) from rfl,u64_or_nat _ _ (by omega) (by omega),nat_join 4 _ _ (by omega) (by omega)]
theorem WX (x m t:Nat) (h:x/m=t):x=t*m+x%m:=by
 rw [←h,Nat.mul_comm];exact (Nat.div_add_mod x m).symm
theorem YR (n limb:Nat) (w:World) (hn:n<NP.LL) (hl:limb<4294967296) (hO:Tab w 0 ((nD NP.LL).map Ga)) (hT:Tab w 7 ((nD Sh).map Ga)):
 Calls Tryz.prog 90 #[Aa (nD n),Ga limb] w (gvn (Aa (nD ((n*4294967296+limb)%NP.LL))) w):=by
 have hnm:n<mm:=Nat.lt_trans hn (by decide);have hD:=Td n;obtain ⟨h1,h2,h3⟩:=G9 (nD n) limb hD hl;rw [Ce n hnm] at h2 h3;have ht:=NM n hn;have hs:=zB _ ht;have hsm:=Nat.lt_trans hs (show NP.LL<mm by decide);have hr:=QX (n*4294967296+limb) ((n*4294967296+limb)%7237005577332262213973186563042994240829374041602535252466099000494570602496) (n/1684996666696914987166688442938726917102321526408785780068975640576) (Nat.mod_lt _ (by decide)) ht (WX _ _ _ (Y3 n limb hl));have hv:=h1.is;rw [h2] at hv;have hlt:=h1.lt;rw [h2] at hlt;have hp:=hD.2 6;have hq:=hD.2 7;have h6:=Yg (nD n) 6 (by rw [qe];decide);have h7:=Yg (nD n) 7 (by rw [qe];decide);have hu7:((upL (nD n) limb).map Ga)[7]? =some (Ga ((nD n).getD 6 0)):=rfl;have hor:=Qad ((nD n).getD 6 0) ((nD n).getD 7 0) hp hq;rw [h3] at hor;generalize (nD n).getD 6 0=p at *;generalize (nD n).getD 7 0=q at *;generalize n/1684996666696914987166688442938726917102321526408785780068975640576=t at *;generalize (n*4294967296+limb)%7237005577332262213973186563042994240829374041602535252466099000494570602496=x at *;refine SM (nD n) [limb,0,0,0,0,0,0,0] (upL (nD n) limb) ((upL (nD n) limb).set 7 (p%268435456)) (nD (Sh*t)) (nD ((n*4294967296+limb)%NP.LL)) (nD NP.LL) (nD Sh) limb p q t (p%268435456) w rfl rfl rfl rfl rfl rfl h6 h7 hor rfl hu7 (Pad p (by omega)) rfl (SX limb) (fun W=>?_) (fun W hW=>?_) hO hT
 ·have h:=xI Sh t W (by decide) ht;rw [yaj hsm] at h;exact h
 ·have h:=AC x (Sh*t) W hlt hsm (Nat.le_trans (Nat.le_of_lt hs) (Nat.le_add_left _ _)) hW;rw [hr,←hv] at h;exact h
theorem Cah (g k:Nat) (hk:k<16) (w:World):(Instr.indexAt 88 (.pointer (some ⟨g,0,none⟩)) (.int .i64 (k:Int))).run Tryz.prog w=.ok (.pointer (some ⟨g,k,none⟩)) w:=by
 have i2:(k:Int)<16:=by omega
 go_simp
theorem G4 {w:World} {g j v:Nat} (h:w.cell? ⟨g,j,none⟩=some (Ga v)):(Instr.loadAt 49 (.pointer (some ⟨g,j,none⟩))).run Tryz.prog w=.ok (Ga v) w:=by
 go_simp
def Qp (q:List Nat) (g_base:Nat) (gr:Nat) (gn:Nat) (k:Nat) (l:List Nat) (x:Nat) (nx:List Nat):List Value:=
 (Aa q)::ptr g_base::ptr gr::ptr gn::(.int .i64 (k:Int))::(.int .i64 ((k:Int)+1))::(.bool true)::(.int .i64 ((k:Int)+1))::(.int .i64 (k:Int))::(Aa l)::(.int .i64 (k:Int))::(.pointer (some ⟨g_base,k,none⟩))::(Ga x)::(Aa nx)::undef::[]
theorem DE (q ol tl:List Nat) (X:Nat→List Nat) (w:World)
 (Hq:Hid (q.length=16))
 (HL:Hid (∀j,(X j).length=8))
 (HX16:Hid (X 16= [0,0,0,0,0,0,0,0]))
 (CN:Hid (∀k:Nat,k<16→∀W,Tab W 0 (ol.map Ga)→Tab W 7 (tl.map Ga)→Calls Tryz.prog 90 #[Aa (X (k+1)),Ga (q.getD k 0)] W (gvn (Aa (X k)) W)))
 (hO:Tab w 0 (ol.map Ga))
 (hT:Tab w 7 (tl.map Ga)):
 Calls Tryz.prog 47 #[Aa q] w (gvn (Aa (X 0)) w):=by
 go_enter Tryz.func47,Tryz.ntmps47;go_wp2_with (first
  |(refine Ra rfl 88 (.tmp 0) rfl (q.map Ga) rfl ?_
    intro w1 hb1 hvq1;have hB1:=hb1;have hgeq:w.heap.size≤w.heap.size:=Xaj _;have hvo1:=hO.on hb1;have hneoq:=Vaj hO.lt;have hvt1:=hT.on hb1;have hnetq:=Vaj hT.lt;clear hO hT hb1;try simp only [La]
    skip)
  |(refine Ma (o:=⟨some 2,_,_,_,_,_⟩) rfl 83 rfl (Na 8) We ?_
    intro w2 hb2 hvr2;have hB2:=Ba hB1 hb2;have hger:w.heap.size≤w1.heap.size:=hB1.size;have hvo2:=hvo1.on hb2;have hneor:=Vaj hvo1.lt;have hvt2:=hvt1.on hb2;have hnetr:=Vaj hvt1.lt;have hvq2:=hvq1.on hb2;have hneqr:=Vaj hvq1.lt;clear hB1 hvo1 hvt1 hvq1 hb2;try simp only [La]
    skip))
 generalize hqr:w1.heap.size=gr at *;clear hqr;refine Yl 0 (fun a' w'=>∃(j gn:Nat) (u5 u6 u7 u8 u9 u10 u11 u12 u13:Value),j≤16∧Below w.heap.size w w'∧w.heap.size≤gn∧w.heap.size≠gn∧gr≠gn∧0≠gn∧7≠gn∧Ia w' (w.heap.size) (q.map Ga) 88∧Ia w' gr (Na 8) 83∧Ia w' gn ((X j).map Ga) 83∧Tab w' 0 (ol.map Ga)∧Tab w' 7 (tl.map Ga)∧
  a'= {tmps:=#[Aa q,.pointer (some ⟨w.heap.size,0,none⟩),.pointer (some ⟨gr,0,none⟩),.pointer (some ⟨gn,0,none⟩),.int .i64 (j:Int),u5,u6,u7,u8,u9,u10,u11,u12,u13,undef],defers:=[]})
  (fun a' _=>(intOf (a'.tmps.getD 4 undef)).toNat) rfl ?_ ?_
 ·intro hp;go_wp2_with (first
   |(refine Ma (o:=⟨some 3,_,_,_,_,_⟩) rfl 83 rfl (Na 8) We ?_
     intro w3 hb3 hvn3;have hB3:=Ba hB2 hb3;have hgen:w.heap.size≤w2.heap.size:=hB2.size;have hvo3:=hvo2.on hb3;have hneon:=Vaj hvo2.lt;have hvt3:=hvt2.on hb3;have hnetn:=Vaj hvt2.lt;have hvq3:=hvq2.on hb3;have hneqn:=Vaj hvq2.lt;have hvr3:=hvr2.on hb3;have hnern:=Vaj hvr2.lt;clear hB2 hvo2 hvt2 hvq2 hvr2 hb3;try simp only [La]
     skip))
  generalize hqn:w2.heap.size=gn at *;clear hqn
  go_step3
  rename_i K hK;exact hK _ _ (hp.out _ _ ⟨16,_,_,_,_,_,_,_,_,_,_,Xaj _,hB3,hgen,hneqn,hnern,hneon,hnetn,hvq3,hvr3,by rw [HX16.out];exact hvn3,hvo3,hvt3,rfl⟩)
 ·clear hB2 hvo2 hvt2 hvq2 hvr2;rintro a' wl ⟨j,gn,u5,u6,u7,u8,u9,u10,u11,u12,u13,hj,hBl,hgen,hneqn,hnern,hneon,hnetn,hvql,hvrl,hvnl,hvol,hvtl,rfl⟩;by_cases h0:0<j
  ·obtain ⟨k,rfl⟩:∃k,j=k+1:=⟨j-1,by omega⟩;have hk:k<16:=by omega
   have e1:(((k+1:Nat):Int))=(k:Int)+1:=by omega
   have e2:(k:Int)+1-1=(k:Int):=by omega
   have i0:(0:Int)<(k:Int)+1:=by omega
   have i3:IntKind.i64.wrap (k:Int)=(k:Int):=IntWalk.i64_in _ (by omega);rw [e1];have HLl:=Lib.hid (HL.out (k+1));have HLn:=Lib.hid (HL.out k);have HXk:=Lib.hid (Yg q k (by rw [Hq.out];exact hk));have CNk:=Lib.hid (CN.out k hk);obtain ⟨l,HXl⟩:=Nb (X (k+1));obtain ⟨nx,HXn⟩:=Nb (X k);rw [HXl.out] at HLl CNk hvnl;rw [HXn.out] at HLn CNk;generalize q.getD k 0=x at *;clear HL CN HX16 HXl hj;go_wp2_with fail
   replace hvol:=hvol.drew;replace hvtl:=hvtl.drew;replace hvql:=hvql.drew;replace hvrl:=hvrl.drew;replace hvnl:=hvnl.drew;refine wp_region_any (by kernel_rfl) ?_;refine Ya (L:=[0,1,2,3,4]) (by kernel_rfl) _ _ (Qp q w.heap.size gr gn k l x nx) [] 83 (Na 8) [0,1,2,3,4,5,6,7,8,14] (by kernel_rfl) (by kernel_rfl) ?_ We ?_ (by rfl) ?_ 1 (by kernel_rfl) ?_
   ·intro p hp;exact absurd hp List.not_mem_nil
   ·repeat refine Aak rfl ?_
    exact Qa
   ·refine Aak (.inr (mL 9 rfl fun w hb=>D4 (hvnl.on hb) HLl.out)) ?_;refine Aak (.inr (mV 10 rfl (.inl rfl) rfl)) ?_;refine Aak (.inr (mI 11 rfl fun w=>Cah _ k hk w)) ?_;refine Aak (.inr (mL 12 rfl fun w hb=>G4 ((hvql.on hb).get HXk.out))) ?_;refine Aak (.inr (mC 13 rfl Tryz.func90 fun w hb=>CNk.out w (hvol.on hb) (hvtl.on hb))) ?_;exact Qa
   intro w4 g hb4 hN4 hap4;clear hN4 hap4;have hB4:=Ba (show Below w.heap.size w wl.drew from hBl.drew) hb4;have hvo4:=hvol.on hb4;have hvt4:=hvtl.on hb4;have hvq4:=hvql.on hb4;have hvr4:=hvrl.on hb4;have hvn4:=hvnl.on hb4;clear hBl hvol hvtl hvql hvrl hvnl hb4;refine Bb 5 rfl (by kernel_rfl) ?_;refine Ka rfl 83 (.tmp 3) (.tmp 13) rfl gn 8 (l.map Ga) (nx.map Ga) rfl rfl hvn4 (by rw [Uaj,HLl.out]) Kc (by rw [Uaj,HLn.out]) (Oa _) ?_;intro w5 hb5 hvn5 hz5;have hB5:Below w.heap.size w w5:=hB4.trans (hb5.below hgen hB4.size);have hvo5:=hvo4.but hb5 hneon;have hvt5:=hvt4.but hb5 hnetn;have hvq5:=hvq4.but hb5 hneqn;have hvr5:=hvr4.but hb5 hnern;clear hB4 hvn4 hb5 hz5 hvo4 hvt4 hvq4 hvr4;rename_i K hKK;show Exit.then K _ Exit.normal (⟨(Qp q w.heap.size gr gn k l x nx).toArray,[]⟩:Act) w5;simp only [Exit.then];refine hKK _ _ ?_;clear hKK K g;simp only [Qp,ptr];go_wp2_with fail
   go_step3
   exact ⟨rfl,⟨k,gn,_,_,_,_,_,_,_,_,_,by omega,hB5,hgen,hneqn,hnern,hneon,hnetn,hvq5,hvr5,by rw [HXn.out];exact hvn5,hvo5,hvt5,rfl⟩,by simp [intOf]<;>omega⟩
  ·obtain rfl:j=0:=by omega
   have HL0:=Lib.hid (HL.out 0);rw [show (((0:Nat):Int))=0 from rfl];go_wp2_with (first
    |(refine Pa rfl 83 (.tmp 3) rfl gn 8 ((X 0).map Ga) rfl hvnl Tryz.underlying83 rfl Kc (by rw [Uaj,HL0.out]) ?_
      try simp only [La]
      skip)
    |(refine Ka rfl 83 (.tmp 2) (.tmp 14) rfl gr 8 (Na 8) ((X 0).map Ga) rfl rfl hvrl rfl Kc (by rw [Uaj,HL0.out]) (Oa _) ?_
      intro w6 hb6 hvr6 hz6;have hB6:Below w.heap.size w w6:=hBl.trans (hb6.below hger hBl.size);have hvo6:=hvol.but hb6 hneor;have hvt6:=hvtl.but hb6 hnetr;have hvq6:=hvql.but hb6 hneqr;have hvn6:=hvnl.but hb6 (Ne.symm hnern);clear hBl hvrl hb6 hz6 hvol hvtl hvql hvnl;skip))
   simp only [Exit.jump];exact qc Tryz.results47 gr ((X 0).map Ga) rfl hvr6 Tryz.underlying83 rfl Kc (by rw [Uaj,HL0.out]) rfl ⟨rfl,hB6⟩
theorem TM (b:List UInt8) (r:List Nat) (S:Nat→List Nat) (w:World) (HB:Hid (b.length=32)) (HL:Hid (∀k,(S k).length=8)) (H0:Hid (S 0= [0,0,0,0,0,0,0,0])) (HS:Hid (∀k,S (k+1)=(S k).set k (Zf ((b.drop (4*k)).take 4).reverse))) (HR:Hid (S 8=r)):
 Calls Tryz.prog 49 #[Ca b] w (gvn (Aa r) w):=by
 go_enter Tryz.func49,Tryz.ntmps49;go_wp2_with (first
  |(refine Rb rfl 23 (.tmp 0) rfl b rfl ?_
    intro w1 hB1 hA1 hz;clear hz;try simp only [La]
    skip)
  |(refine Ma (o:=⟨some 2,_,_,_,_,_⟩) rfl 83 rfl (Na 8) We ?_
    intro w2 hb2 hZ2;have hB2:=Ba hB1 hb2;have hA2:=hA1.on hb2;have hg1:=hA1.lt;clear hB1 hA1 hb2;try simp only [La]
    skip)
  |(refine Ma (o:=⟨some 3,_,_,_,_,_⟩) rfl 83 rfl (Na 8) We ?_
    intro w3 hb3 hS3;have hB3:=Ba hB2 hb3;have hA3:=hA2.on hb3;have hZ3:=hZ2.on hb3;have hg2:=hZ2.lt;clear hB2 hA2 hZ2 hb3;try simp only [La]
    skip))
 generalize hg:w1.heap.size=gz at *;generalize hh:w2.heap.size=gs at *;clear hg hh
 go_loopw [5] (fun i wr=>∃k:Nat,k≤8∧i=.int .i64 k∧Below w.heap.size w wr∧Ia wr w.heap.size (b.map Fa) 23∧Ia wr gz (Na 8) 83∧Ia wr gs ((S k).map Ga) 83) (fun i _=>8-(intOf i).toNat)
 case atStart=>exact ⟨0,Nat.zero_le _,rfl,hB3,hA3,hZ3,by rw [H0.out];exact hS3⟩
 case round=>
  clear hB3 hA3 hZ3 hS3;obtain ⟨k,hk,rfl,hB,hA,hZ,hS⟩:=hrel;have HLk:=Lib.hid (HL.out k);by_cases hlt:k<8
  ·have HN:=Lib.hid (HS.out k);obtain ⟨z,HZ⟩:=Nb (S (k+1));rw [HZ.out] at HN;generalize S k=s at *;have hR:Row wr wr.heap.size (some ⟨w.heap.size,4*k,none⟩) ((b.drop (4*k)).take 4):=by
    have h:=hA.all.piece (4*k) 4;rw [Nat.zero_add] at h;exact h
   have HC:=Lib.hid (GA (some ⟨w.heap.size,4*k,none⟩) (32-4*k) 4 _ wr (by rw [zaj,List.length_drop,HB.out];omega) hR (by omega));generalize Zf ((b.drop (4*k)).take 4).reverse=x at *;clear hR HS HL H0 HR;have hT:=hS.there k 1 (by rw [Uaj,HLk.out];omega);have hE:=Lib.hid (hS.set k (Ga x));rcases (show k=0∨k=1∨k=2∨k=3∨k=4∨k=5∨k=6∨k=7 by omega) with rfl|rfl|rfl|rfl|rfl|rfl|rfl|rfl;all_goals
    simp only [Nat.mul_zero,Nat.reduceMul,Nat.reduceSub,Nat.reduceAdd,Nat.sub_zero] at HC HN HZ;go_wp2_with fail
    refine HC.out.mono ?_;rintro e w4 ⟨rfl,rfl⟩;clear HC;go_wp2_with (first
     |(refine Qb rfl 49 _ _ rfl gs _ .u64 _ rfl rfl Gf hT ?_
       intro w5 hw5;have hB5:Below w.heap.size w w5:=by rw [hw5];exact hB.setCell (p:=⟨gs,_,none⟩) (by show w.heap.size≤gs;omega) _
       have hA5:Ia w5 w.heap.size (b.map Fa) 23:=by rw [hw5];exact hA.other (by show w.heap.size≠gs;omega) _
       have hZ5:Ia w5 gz (Na 8) 83:=by rw [hw5];exact hZ.other (by show gz≠gs;omega) _
       have hS5:Ia w5 gs (z.map Ga) 83:=by rw [hw5,HN.out,←Se];exact hE.out
       clear hw5))
    go_roundw
    case rel=>
     rw [←HZ.out] at hS5;first|exact ⟨1,by omega,rfl,hB5,hA5,hZ5,hS5⟩|exact ⟨2,by omega,rfl,hB5,hA5,hZ5,hS5⟩|exact ⟨3,by omega,rfl,hB5,hA5,hZ5,hS5⟩|exact ⟨4,by omega,rfl,hB5,hA5,hZ5,hS5⟩|exact ⟨5,by omega,rfl,hB5,hA5,hZ5,hS5⟩|exact ⟨6,by omega,rfl,hB5,hA5,hZ5,hS5⟩|exact ⟨7,by omega,rfl,hB5,hA5,hZ5,hS5⟩|exact ⟨8,by omega,rfl,hB5,hA5,hZ5,hS5⟩
    case measure=>simp [intOf]
  ·obtain rfl:k=8:=by omega
   rw [HR.out] at hS HLk;clear HL H0 HS hA;go_wp2_with (first
    |(refine Pa rfl 83 _ rfl gs 8 (r.map Ga) rfl hS Tryz.underlying83 rfl Kc (by rw [Uaj,HLk.out]) ?_)
    |(refine Ka rfl 83 _ _ rfl gz 8 (Na 8) (r.map Ga) rfl rfl hZ rfl Kc (by rw [Uaj,HLk.out]) (Oa r) ?_
      intro w7 hb7 hC7 _))
   exact qc Tryz.results49 gz (r.map Ga) rfl hC7 Tryz.underlying83 rfl Kc (by rw [Uaj,HLk.out]) rfl ⟨rfl,hB.trans (hb7.below (by omega) hB.size)⟩
theorem Hj (b:List UInt8) (w:World) (hb:b.length=32):Calls Tryz.prog 49 #[Ca b] w (gvn (Aa (nD (lev b))) w):=
 TM b _ (rdS b) w hb (fun k=>(XI b k).1) rfl (fun k=>by show _=_;rw [rdS,rdW,AI]) (B9 b hb)
theorem UM (s p:List UInt8) (o:Nat) (hp:p.length=4):Ub (s.map Fa) o (p.map Fa)=(s.take o++p++s.drop (o+4)).map Fa:=by
 simp [Ub,hp,List.map_take,List.map_drop]
theorem BC (n:List Nat) (r:List UInt8) (P:Nat→List UInt8) (w:World) (HN:Hid (n.length=8∧∀k,n.getD k 0<4294967296)) (H0:Hid (P 0=List.replicate 32 0)) (HL:Hid (∀k,(P k).length=32)) (HP:Hid (∀k,k<8→P (k+1)=(P k).take (4*k)++Ob (n.getD k 0) 4++(P k).drop (4*k+4))) (HR:Hid (P 8=r)):
 Calls Tryz.prog 43 #[Aa n] w (gvn (Ca r) w):=by
 have HRL:Hid (r.length=32):=by show _=_;rw [←HR.out];exact HL.out 8
 go_enter Tryz.func43,Tryz.ntmps43;go_wp2_with (first
  |(refine Ra rfl 83 (.tmp 0) rfl (n.map Ga) rfl ?_
    intro w1 hB1 hA1;try simp only [La]
    skip)
  |(refine Rk (o:=⟨some 2,_,_,_,_,_⟩) rfl 23 rfl 32 Zb ?_
    intro w2 hb2 hZ2 hz;have hB2:=Ba hB1 hb2;have hA2:=hA1.on hb2;have hg1:=hA1.lt;clear hB1 hA1 hb2 hz;try simp only [La]
    skip)
  |(refine Rk (o:=⟨some 3,_,_,_,_,_⟩) rfl 23 rfl 32 Zb ?_
    intro w3 hb3 hS3 hz;have hB3:=Ba hB2 hb3;have hA3:=hA2.on hb3;have hZ3:=hZ2.on hb3;have hg2:=hZ2.lt;clear hB2 hA2 hZ2 hb3 hz;try simp only [La]
    skip)
  |(refine Pa rfl 83 (.tmp 1) rfl w.heap.size 8 (n.map Ga) rfl hA3 Tryz.underlying83 rfl Kc (by rw [Uaj,HN.out.1]) ?_
    try simp only [La]
    skip))
 generalize hg:w1.heap.size=gz at *;generalize hh:w2.heap.size=gs at *;clear hg hh hA3
 go_loopw [9] (fun i wr=>∃k:Nat,k≤8∧i=.int .i64 k∧Below w.heap.size w wr∧Ia wr gz (List.replicate 32 (Fa 0)) 23∧Ia wr gs ((P k).map Fa) 23) (fun i _=>8-(intOf i).toNat)
 case atStart=>exact ⟨0,Nat.zero_le _,rfl,hB3,hZ3,by rw [H0.out,List.map_replicate];exact hS3⟩
 case round=>
  clear hB3 hZ3 hS3;obtain ⟨k,hk,rfl,hB,hZ,hS⟩:=hrel;have HLk:=Lib.hid (HL.out k);by_cases hlt:k<8
  ·have HPk:=Lib.hid (HP.out k hlt);have hx:=HN.out.2 k;have HIX:=Lib.hid (Yg n k (by rw [HN.out.1];exact hlt));obtain ⟨z,HZ⟩:=Nb (P (k+1));rw [HZ.out] at HPk;generalize n.getD k 0=x at *;have CP:=Lib.hid (fun W=>Vt x 4 W (by omega) (by decide));have HRUN:∀W,(Instr.index 83 (.agg (n.map Ga).toArray) (.int .i64 (k:Int))).run Tryz.prog W=.ok (Ga x) W:=fun W=>
    Mj (P:=Tryz.prog) (t:=83) (n.map Ga) k (Ga x) W Tryz.underlying83 Tryz.underlying49 Gf hlt HIX.out
   generalize P k=s at *;clear H0 HL HP HR HRL hx;rcases (show k=0∨k=1∨k=2∨k=3∨k=4∨k=5∨k=6∨k=7 by omega) with rfl|rfl|rfl|rfl|rfl|rfl|rfl|rfl;all_goals
    simp only [Nat.mul_zero,Nat.reduceMul,Nat.reduceAdd,Nat.zero_add] at HPk HZ;have hLs:(s.map Fa).length=32:=by rw [Uaj,HLk.out]
    push_cast at HRUN
    go_wp2_with fail
    refine (CP.out wr).mono ?_;rintro e w5 ⟨rfl,hb5,hM5⟩;have hB5:=Ba hB hb5;have hZ5:=hZ.on hb5;have hS5:=hS.on hb5;clear CP hB hZ hS hb5;go_wp2_with (first
     |(refine Yo rfl (.tmp 20) (.tmp 21) rfl gs _ _ _ 4 4 w5.heap.size 4 (some ⟨wr.heap.size,0,none⟩) _ rfl rfl (Ta _ _) (by decide) (hM5.row hM5.lt) (hS5.there _ 4 (by rw [hLs];decide)) ?_
       intro w6 hw6;rw [Zaj (by rw [Ta];decide)] at hw6;have hb6:But gs w5 w6:=by rw [hw6];exact (But.refl gs w5).setCells _ _
       have hS6:Ia w6 gs (z.map Fa) 23:=by
        rw [hw6,HPk.out,←UM _ _ _ (Ta _ 4)];exact hS5.setCells (by rw [Uaj,Ta,hLs];decide)
       have hB6:=hB5.trans (hb6.below (by omega) hB5.size);have hZ6:=hZ5.but hb6 (by omega);clear hw6 hb6 hB5 hZ5 hS5 hM5))
    go_roundw
    case rel=>
     rw [←HZ.out] at hS6;first|exact ⟨1,by omega,rfl,hB6,hZ6,hS6⟩|exact ⟨2,by omega,rfl,hB6,hZ6,hS6⟩|exact ⟨3,by omega,rfl,hB6,hZ6,hS6⟩|exact ⟨4,by omega,rfl,hB6,hZ6,hS6⟩|exact ⟨5,by omega,rfl,hB6,hZ6,hS6⟩|exact ⟨6,by omega,rfl,hB6,hZ6,hS6⟩|exact ⟨7,by omega,rfl,hB6,hZ6,hS6⟩|exact ⟨8,by omega,rfl,hB6,hZ6,hS6⟩
    case measure=>simp [intOf]
  ·obtain rfl:k=8:=by omega
   rw [HR.out] at hS;go_wp2_with (first
    |(refine Tc rfl 23 _ rfl gs 32 r _ rfl hS Tryz.underlying23 za HRL.out ?_)
    |(refine Li rfl 23 _ _ rfl gz 32 (List.replicate 32 (Fa 0)) r rfl rfl hZ List.length_replicate za HRL.out ?_
      intro w7 hb7 hC7 _))
   exact Mi Tryz.results43 gz r rfl hC7 Tryz.underlying23 za HRL.out rfl ⟨rfl,hB.trans (hb7.below (by omega) hB.size)⟩
theorem Dm (n:Nat) (w:World):Calls Tryz.prog 43 #[Aa (nD n)] w (gvn (Ca (Ob n 32)) w):=
 BC (nD n) _ (wtS n) w (Td n) (W3 n) (UR n) (V3 n) (D9 n)
end Go.Proofs.YtoggkhjaghkpnaaGreatDoor
