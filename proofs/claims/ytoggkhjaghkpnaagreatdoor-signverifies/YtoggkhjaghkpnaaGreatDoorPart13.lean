/- Part 13 of what the laws of this seat share: TTold, NCurve, NAssoc, NGroup, NEdw, NPoints, NRep, NBase, NLadder, NMeet, JMath, BMath, UPoint. -/
import Derived.Deep.MidRow
import Derived.Test.YtoggkhjaghkpnaaGreatDoorPart12
set_option maxRecDepth 100000
set_option maxHeartbeats 8000000
namespace Go.Proofs.YtoggkhjaghkpnaaGreatDoor
open Go.RowKit
def Bl (w:World):Prop:=Tab w 0 ((nD NP.LL).map Ga)∧Tab w 7 ((nD Sh).map Ga)
theorem Bl.on {w w':World} (h:Bl w) (hb:Below w.heap.size w w'):Bl w':=⟨h.1.on hb,h.2.on hb⟩
theorem Bl.below {w w':World} (h:Bl w) (hb:Below w.heap.size w w'):Bl w':=h.on hb
theorem yU (q:List Nat):∀k,k≤16→hiW q k*4294967296^(16-k)+pre q (16-k)=pre q 16
 |0,_=>by rw [hiW,Nat.zero_mul,Nat.zero_add]
 |k+1,h=>by
  have ih:=yU q k (by omega);obtain ⟨m,hm⟩:∃m,16-k=m+1:=⟨15-k,by omega⟩;rw [hm,pre,Nat.pow_succ] at ih;rw [show 16-(k+1)=m by omega,hiW,show 15-k=m by omega,Nat.add_mul,Nat.mul_assoc,Nat.mul_comm 4294967296];omega
theorem N9 (q:List Nat):hiW q 16=pre q 16:=by
 have h:=yU q 16 (Xaj _);rw [show 16-16=0 from rfl,pre,Nat.pow_zero,Nat.mul_one,Nat.add_zero] at h;exact h
theorem N4 (a x m:Nat):(a%m*4294967296+x)%m=(a*4294967296+x)%m:=by
 rw [Nat.add_mod,Nat.mod_mul_mod,←Nat.add_mod]
theorem zU:nD 0= [0,0,0,0,0,0,0,0]:=by decide+kernel
theorem Yn (q:List Nat) (w:World) (hq:q.length=16) (hl:∀k,q.getD k 0<4294967296) (hT:Bl w):
 Calls Tryz.prog 47 #[Aa q] w (gvn (Aa (nD (pre q 16%NP.LL))) w):=by
 have h:=DE q (nD NP.LL) (nD Sh) (fun j=>nD (hiW q (16-j)%NP.LL)) w hq (fun j=>rfl) (by
  show nD (hiW q (16-16)%NP.LL)=_;rw [show 16-16=0 from rfl,hiW,Nat.zero_mod,zU]) (fun k hk W hO hT2=>by
  have h2:=YR (hiW q (16-(k+1))%NP.LL) (q.getD k 0) W (Nat.mod_lt _ (by decide)) (hl k) hO hT2;obtain ⟨m,hm⟩:∃m,16-k=m+1:=⟨15-k,by omega⟩;rw [N4,show 16-(k+1)=m by omega] at h2;show Calls Tryz.prog 90 #[Aa (nD (hiW q (16-(k+1))%NP.LL)),Ga (q.getD k 0)] W fun e w'=>e=.returned (Aa (nD (hiW q (16-k)%NP.LL)))∧_;rw [hm,hiW,show 15-m=k by omega,show 16-(k+1)=m by omega];exact h2) hT.1 hT.2
 rw [show 16-0=16 from rfl,N9] at h;exact h
theorem XM (a b:List Nat) (ha:a.length=8):∀k,pre (a++b) (8+k)=pre a 8+mm*pre b k
 |0=>by
  rw [Nat.add_zero,show pre b 0=0 from rfl,Nat.mul_zero,Nat.add_zero];refine qv _ _ 8 fun i hi=>?_;rw [Yaj,List.getElem?_append_left (by omega),←Yaj]
 |k+1=>by
  have e:(a++b).getD (8+k) 0=b.getD k 0:=by
   rw [Yaj,List.getElem?_append_right (by omega),ha,Nat.add_sub_cancel_left,←Yaj]
  rw [←Nat.add_assoc,UB (a++b) (8+k),XM a b ha k,UB b k,e,Nat.pow_add,TR,Nat.mul_add,Nat.mul_left_comm,Nat.add_assoc]
theorem qU (n m:Nat) (k:Nat):(nD n++nD m).getD k 0<4294967296:=by
 rcases Nat.lt_or_ge k 8 with h|h
 ·rw [Yaj,List.getElem?_append_left (by rw [qe];exact h),←Yaj];exact (Td n).2 k
 ·rw [Yaj,List.getElem?_append_right (by rw [qe];exact h),←Yaj];exact (Td m).2 _
theorem YM (n m:Nat) (hn:n<mm) (hm:m<mm):pre (nD n++nD m) 16=n+mm*m:=by
 have h:=XM (nD n) (nD m) (qe n) 8;rw [Ce n hn,Ce m hm] at h;exact h
theorem Gw (b:List UInt8) (hb:b.length=32):lev b<mm:=Gu b hb
theorem ZM {n:Nat} (h:n<NP.LL):n<mm:=Nat.lt_trans h (by decide)
theorem O4 (n:Nat):n%NP.LL<NP.LL:=Nat.mod_lt _ (by decide)
theorem Fy (b:List UInt8) (w:World) (hb:b.length=32) (hT:Bl w):Calls Tryz.prog 46 #[Ca b] w (gvn (Aa (nD (lev b%NP.LL))) w):=by
 have hp:=YM (lev b) 0 (Gw b hb) (by decide);rw [Nat.mul_zero,Nat.add_zero] at hp;refine zI b (nD (lev b)) (nD 0) (nD (lev b)++nD 0) (nD (lev b%NP.LL)) (nD NP.LL) (nD Sh) w hb rfl (fun W=>Hj b W hb) (by rw [zU];exact RX) (fun W=>Tu _ _ W rfl rfl) (fun W hO hT2=>?_) hT.1 hT.2;have h:=Yn (nD (lev b)++nD 0) W rfl (qU _ _) ⟨hO,hT2⟩;rw [hp] at h;exact h
theorem XX (a b:List UInt8) (w:World) (ha:a.length=32) (hb:b.length=32) (hT:Bl w):Calls Tryz.prog 16 #[Ca a,Ca b] w (gvn (Ca (Ob ((lev a+lev b)%NP.LL) 32)) w):=by
 have h1:=O4 (lev a);have h2:=O4 (lev b);have hs:lev a%NP.LL+lev b%NP.LL<mm:=Nat.lt_trans (Nat.add_lt_add h1 h2) (by decide);refine xR a b _ (nD (lev a%NP.LL)) (nD (lev b%NP.LL)) (nD (lev a%NP.LL+lev b%NP.LL)) (nD ((lev a+lev b)%NP.LL)) (nD NP.LL) (nD Sh) w ha hb (Ta _ _) rfl (fun W hO hT2=>Fy a W ha ⟨hO,hT2⟩) (fun W hO hT2=>Fy b W hb ⟨hO,hT2⟩) (fun W=>?_) (fun W hO=>?_) (fun W=>Dm _ W) hT.1 hT.2
 ·have h:=qB (lev a%NP.LL) (lev b%NP.LL) W (ZM h1) (ZM h2);rw [yaj hs] at h;exact h
 ·have h:=AC (lev a%NP.LL+lev b%NP.LL) NP.LL W hs (by decide) (Nat.le_add_left _ _) hO;have e:(if lev a%NP.LL+lev b%NP.LL<NP.LL then lev a%NP.LL+lev b%NP.LL+NP.LL-NP.LL else lev a%NP.LL+lev b%NP.LL-NP.LL)=(lev a+lev b)%NP.LL:=by
   rw [Nat.add_mod];generalize lev a%NP.LL=x at *;generalize lev b%NP.LL=y at *;generalize NP.LL=L at *
   split
   ·rename_i hl;rw [Nat.add_sub_cancel,yaj hl]
   ·rename_i hl;rw [Nat.mod_eq_sub_mod (by omega),yaj (by omega)]
  rw [e] at h;exact h
theorem xM (a b:List UInt8) (w:World) (ha:a.length=32) (hb:b.length=32) (hT:Bl w):Calls Tryz.prog 17 #[Ca a,Ca b] w (gvn (Ca (Ob (lev a*lev b%NP.LL) 32)) w):=by
 refine qI a b _ (nD (lev a)) (nD (lev b)) (prR (lev a) (lev b)) (nD (lev a*lev b%NP.LL)) (nD NP.LL) (nD Sh) w ha hb (Ta _ _) (fun W=>Hj a W ha) (fun W=>Hj b W hb) (fun W=>FE _ _ W) (fun W hO hT2=>?_) (fun W=>Dm _ W) hT.1 hT.2;have h:=Yn (prR (lev a) (lev b)) W (EC _ _) (Rad _ _) ⟨hO,hT2⟩;rw [J9 _ _ (Gw a ha) (Gw b hb)] at h;exact h
theorem Gy (b:List UInt8) (w:World) (hb:b.length=32) (hT:Bl w):Calls Tryz.prog 25 #[Ca b] w (gvn (.bool (decide (lev b<NP.LL))) w):=
 AJ b (nD (lev b)) (nD ((lev b+mm-NP.LL)%mm)) (nD NP.LL) _ w hb rfl rfl (fun W=>Hj b W hb) (fun W=>Cy _ _ W (Gw b hb) (by decide)) hT.1
theorem yR (b:List UInt8) (hb:b.length=64):lev b=lev ((b.drop 0).take 32)+mm*lev ((b.drop 32).take 32):=by
 have h:=Aj (b.take 32) (b.drop 32);rw [List.take_append_drop,zaj,Nat.min_eq_left (by omega),show (256:Nat)^32=mm from by decide+kernel] at h;rw [List.drop_zero,Zaj (l:=b.drop 32) (by rw [List.length_drop];omega)];exact h
theorem BJ (b:List UInt8) (w:World) (hb:b.length=64) (hT:Bl w):Calls Tryz.prog 38 #[Ca b] w (gvn (Ca (Ob (lev b%NP.LL) 32)) w):=by
 have l1:((b.drop 0).take 32).length=32:=by rw [zaj,List.length_drop];omega
 have l2:((b.drop 32).take 32).length=32:=by rw [zaj,List.length_drop];omega
 refine GE b ((b.drop 0).take 32) ((b.drop 32).take 32) _ (nD (lev ((b.drop 0).take 32))) (nD (lev ((b.drop 32).take 32))) (nD (lev ((b.drop 0).take 32))++nD (lev ((b.drop 32).take 32))) (nD (lev b%NP.LL)) (nD NP.LL) (nD Sh) w l1 l2 (Ta _ _) rfl rfl rfl rfl (fun W=>Hj _ W l1) (fun W=>Hj _ W l2) (fun W=>Tu _ _ W rfl rfl) (fun W hO hT2=>?_) (fun W=>Dm _ W) hT.1 hT.2;have h:=Yn (nD (lev ((b.drop 0).take 32))++nD (lev ((b.drop 32).take 32))) W rfl (qU _ _) ⟨hO,hT2⟩;rw [YM _ _ (Gw _ l1) (Gw _ l2),←yR b hb] at h;exact h
end Go.Proofs.YtoggkhjaghkpnaaGreatDoor
namespace Go.Proofs.YtoggkhjaghkpnaaGreatDoor.NP
structure Edw (P:Nat) (d i:Int):Prop where
 prime:Pr P
 odd:¬(P:Int)∣2
 root:(P:Int)∣i*i+1
 non:∀s t:Int,(P:Int)∣s*s-d*(t*t)→(P:Int)∣t
def On (P:Nat) (d x y:Int):Prop:=(P:Int)∣y*y-x*x-1-d*x*x*y*y
theorem Pr.not_one {P:Nat} (h:Pr P):¬(P:Int)∣1:=fun hd=>by
 have h1:=Int.natCast_dvd_natCast.1 (show ((P:Nat):Int)∣((1:Nat):Int) from hd);have h2:=Nat.le_of_dvd (by decide) h1;have :=h.1;omega
theorem Edw.part {P:Nat} {d i:Int} (h:Edw P d i) {x1 y1 x2 y2 e f:Int} (he:e*e=1) (hf:f*f=1) (h1:On P d x1 y1) (h2:On P d x2 y2) (hk:(P:Int)∣e-d*x1*x2*y1*y2):(P:Int)∣x1*y1*(i*x2+f*y2):=by
 obtain ⟨u1,hu1⟩:=h1;obtain ⟨u2,hu2⟩:=h2;obtain ⟨v,hv⟩:=hk;obtain ⟨j,hj⟩:=h.root;refine h.non (i*x1+e*f*y1) _ ⟨u1-d*x1*x1*y1*y1*u2+v*(e+d*x1*x2*y1*y2)+2*i*x1*y1*f*v+j*x1*x1-d*x1*x1*y1*y1*j*x2*x2,?_⟩
 grind
theorem Edw.apart {P:Nat} {d i:Int} (h:Edw P d i) {x1 y1 x2 y2 e:Int} (he:e*e=1) (h1:On P d x1 y1) (h2:On P d x2 y2):¬(P:Int)∣e-d*x1*x2*y1*y2:=fun hk=>by
 obtain ⟨a,ha⟩:=h.part (f:=1) he rfl h1 h2 hk;obtain ⟨b,hb⟩:=h.part (f:= -1) he rfl h1 h2 hk;obtain ⟨v,hv⟩:=hk;obtain ⟨j,hj⟩:=h.root;have h3:(P:Int)∣2*(i*(d*x1*x2*y1*y2)):=⟨(a+b)*(d*y2),by grind⟩;rcases h.prime.int h3 with h4|h4
 ·exact h.odd h4
 ·rcases h.prime.int h4 with ⟨c,hc⟩|⟨c,hc⟩
  ·exact h.prime.not_one ⟨j-c*i,by rw [Int.mul_sub,←Int.mul_assoc,←hc,←hj];omega⟩
  ·have h5:e=(P:Int)*(v+c):=by rw [Int.mul_add,←hv,←hc];omega
   exact h.prime.not_one ⟨e*(v+c),by rw [Int.mul_left_comm,←h5,he]⟩
theorem Edw.plus {P:Nat} {d i:Int} (h:Edw P d i) {x1 y1 x2 y2:Int} (h1:On P d x1 y1) (h2:On P d x2 y2):¬(P:Int)∣1+d*x1*x2*y1*y2:=fun ⟨c,hc⟩=>
 h.apart (e:= -1) rfl h1 h2 ⟨-c,by grind⟩
theorem Edw.less {P:Nat} {d i:Int} (h:Edw P d i) {x1 y1 x2 y2:Int} (h1:On P d x1 y1) (h2:On P d x2 y2):¬(P:Int)∣1-d*x1*x2*y1*y2:=h.apart (e:=1) rfl h1 h2
def Sum (P:Nat) (d x1 y1 x2 y2 x3 y3:Int):Prop:=(P:Int)∣x3*(1+d*x1*x2*y1*y2)-(x1*y2+x2*y1)∧(P:Int)∣y3*(1-d*x1*x2*y1*y2)-(y1*y2+x1*x2)
theorem cancel {P:Nat} (hP:Pr P) {a b c:Int} (hc:¬(P:Int)∣c) (h:(P:Int)∣a*c-b*c):(P:Int)∣a-b:=by
 rw [←Int.sub_mul] at h;exact (hP.int h).resolve_right hc
theorem Edw.one {P:Nat} {d i:Int} (h:Edw P d i) {x1 y1 x2 y2 x3 y3 x4 y4:Int} (h1:On P d x1 y1) (h2:On P d x2 y2) (h3:Sum P d x1 y1 x2 y2 x3 y3) (h4:Sum P d x1 y1 x2 y2 x4 y4):(P:Int)∣x3-x4∧(P:Int)∣y3-y4:=by
 obtain ⟨⟨a,ha⟩,⟨b,hb⟩⟩:=h3;obtain ⟨⟨a',ha'⟩,⟨b',hb'⟩⟩:=h4;exact ⟨cancel h.prime (h.plus h1 h2) ⟨a-a',by grind⟩,cancel h.prime (h.less h1 h2) ⟨b-b',by grind⟩⟩
theorem Sum.swap {P:Nat} {d x1 y1 x2 y2 x3 y3:Int} (h:Sum P d x1 y1 x2 y2 x3 y3):Sum P d x2 y2 x1 y1 x3 y3:=by
 obtain ⟨⟨a,ha⟩,⟨b,hb⟩⟩:=h;exact ⟨⟨a,by grind⟩,⟨b,by grind⟩⟩
theorem assoc_x (d x1 y1 x2 y2 x3 y3:Int):((x1*y2+x2*y1)*(1-d*x1*x2*y1*y2)*y3+(y1*y2+x1*x2)*(1+d*x1*x2*y1*y2)*x3)*((1+d*x2*x3*y2*y3)*(1-d*x2*x3*y2*y3)+d*(x2*y3+x3*y2)*(y2*y3+x2*x3)*x1*y1)-((x2*y3+x3*y2)*(1-d*x2*x3*y2*y3)*y1+(y2*y3+x2*x3)*(1+d*x2*x3*y2*y3)*x1)*((1+d*x1*x2*y1*y2)*(1-d*x1*x2*y1*y2)+d*(x1*y2+x2*y1)*(y1*y2+x1*x2)*x3*y3)=((-1)*d*y1*x2*y2^4*x3^2*y3+(-1)*d*y1*x2^2*y2^3*x3+(-1)*d*y1*x2^2*y2^3*x3^3+(-1)*d*y1*x2^3*y2^2*y3+(1)*d*y1*x2^3*y2^2*y3^3+(1)*d*y1*x2^4*y2*x3*y3^2+(1)*d*x1*x2*y2^4*x3*y3^2+(-1)*d*x1*x2^2*y2^3*y3+(1)*d*x1*x2^2*y2^3*y3^3+(-1)*d*x1*x2^3*y2^2*x3+(-1)*d*x1*x2^3*y2^2*x3^3+(-1)*d*x1*x2^4*y2*x3^2*y3+(1)*d^2*y1*x2^3*y2^4*x3^2*y3+(1)*d^2*y1*x2^4*y2^3*x3*y3^2+(-1)*d^2*x1*x2^3*y2^4*x3*y3^2+(-1)*d^2*x1*x2^4*y2^3*x3^2*y3)*(y1*y1-x1*x1-1-d*x1*x1*y1*y1)+((1)*y1*y2*x3+(-1)*y1*y2*x3*y3^2+(1)*y1*y2*x3^3+(1)*y1*x2*y3+(-1)*y1*x2*y3^3+(1)*y1*x2*x3^2*y3+(-1)*y1^3*y2*x3+(1)*y1^3*y2*x3*y3^2+(-1)*y1^3*y2*x3^3+(-1)*y1^3*x2*y3+(1)*y1^3*x2*y3^3+(-1)*y1^3*x2*x3^2*y3+(1)*x1*y2*y3+(-1)*x1*y2*y3^3+(1)*x1*y2*x3^2*y3+(1)*x1*x2*x3+(-1)*x1*x2*x3*y3^2+(1)*x1*x2*x3^3+(-1)*x1*y1^2*y2*y3+(1)*x1*y1^2*y2*y3^3+(-1)*x1*y1^2*y2*x3^2*y3+(-1)*x1*y1^2*x2*x3+(1)*x1*y1^2*x2*x3*y3^2+(-1)*x1*y1^2*x2*x3^3+(1)*x1^2*y1*y2*x3+(-1)*x1^2*y1*y2*x3*y3^2+(1)*x1^2*y1*y2*x3^3+(1)*x1^2*y1*x2*y3+(-1)*x1^2*y1*x2*y3^3+(1)*x1^2*y1*x2*x3^2*y3+(1)*x1^3*y2*y3+(-1)*x1^3*y2*y3^3+(1)*x1^3*y2*x3^2*y3+(1)*x1^3*x2*x3+(-1)*x1^3*x2*x3*y3^2+(1)*x1^3*x2*x3^3+(1)*d*y1*y2*x3^3*y3^2+(1)*d*y1*x2*x3^2*y3^3+(-1)*d*y1*x2*y2^2*x3^2*y3+(-1)*d*y1*x2^2*y2*x3*y3^2+(-1)*d*y1^3*y2*x3^3*y3^2+(-1)*d*y1^3*x2*x3^2*y3^3+(1)*d*y1^3*x2*y2^2*x3^2*y3+(1)*d*y1^3*x2^2*y2*x3*y3^2+(1)*d*x1*y2*x3^2*y3^3+(1)*d*x1*x2*x3^3*y3^2+(1)*d*x1*x2*y2^2*x3*y3^2+(1)*d*x1*x2^2*y2*x3^2*y3+(-1)*d*x1*y1^2*y2*x3^2*y3^3+(-1)*d*x1*y1^2*x2*x3^3*y3^2+(-1)*d*x1*y1^2*x2*y2^2*x3*y3^2+(-1)*d*x1*y1^2*x2^2*y2*x3^2*y3+(1)*d*x1^2*y1*y2*x3^3*y3^2+(1)*d*x1^2*y1*x2*x3^2*y3^3+(-1)*d*x1^2*y1*x2*y2^2*x3^2*y3+(-1)*d*x1^2*y1*x2^2*y2*x3*y3^2+(1)*d*x1^3*y2*x3^2*y3^3+(1)*d*x1^3*x2*x3^3*y3^2+(1)*d*x1^3*x2*y2^2*x3*y3^2+(1)*d*x1^3*x2^2*y2*x3^2*y3+(1)*d^2*x1*y1^2*x2*y2^2*x3^3*y3^2+(-1)*d^2*x1*y1^2*x2^2*y2*x3^2*y3^3+(-1)*d^2*x1^2*y1*x2*y2^2*x3^2*y3^3+(1)*d^2*x1^2*y1*x2^2*y2*x3^3*y3^2)*(y2*y2-x2*x2-1-d*x2*x2*y2*y2)+((-1)*y1*y2*x3+(1)*y1*y2^3*x3+(-1)*y1*x2*y3+(1)*y1*x2*y2^2*y3+(-1)*y1*x2^2*y2*x3+(-1)*y1*x2^3*y3+(1)*y1^3*y2*x3+(-1)*y1^3*y2^3*x3+(1)*y1^3*x2*y3+(-1)*y1^3*x2*y2^2*y3+(1)*y1^3*x2^2*y2*x3+(1)*y1^3*x2^3*y3+(-1)*x1*y2*y3+(1)*x1*y2^3*y3+(-1)*x1*x2*x3+(1)*x1*x2*y2^2*x3+(-1)*x1*x2^2*y2*y3+(-1)*x1*x2^3*x3+(1)*x1*y1^2*y2*y3+(-1)*x1*y1^2*y2^3*y3+(1)*x1*y1^2*x2*x3+(-1)*x1*y1^2*x2*y2^2*x3+(1)*x1*y1^2*x2^2*y2*y3+(1)*x1*y1^2*x2^3*x3+(-1)*x1^2*y1*y2*x3+(1)*x1^2*y1*y2^3*x3+(-1)*x1^2*y1*x2*y3+(1)*x1^2*y1*x2*y2^2*y3+(-1)*x1^2*y1*x2^2*y2*x3+(-1)*x1^2*y1*x2^3*y3+(-1)*x1^3*y2*y3+(1)*x1^3*y2^3*y3+(-1)*x1^3*x2*x3+(1)*x1^3*x2*y2^2*x3+(-1)*x1^3*x2^2*y2*y3+(-1)*x1^3*x2^3*x3+(-1)*d*x1*y1^2*x2*y2^2*x3+(1)*d*x1*y1^2*x2^2*y2*y3+(1)*d*x1^2*y1*x2*y2^2*y3+(-1)*d*x1^2*y1*x2^2*y2*x3)*(y3*y3-x3*x3-1-d*x3*x3*y3*y3):=by grind
theorem assoc_y (d x1 y1 x2 y2 x3 y3:Int):((y1*y2+x1*x2)*(1+d*x1*x2*y1*y2)*y3+(x1*y2+x2*y1)*(1-d*x1*x2*y1*y2)*x3)*((1+d*x2*x3*y2*y3)*(1-d*x2*x3*y2*y3)-d*(x2*y3+x3*y2)*(y2*y3+x2*x3)*x1*y1)-((y2*y3+x2*x3)*(1+d*x2*x3*y2*y3)*y1+(x2*y3+x3*y2)*(1-d*x2*x3*y2*y3)*x1)*((1+d*x1*x2*y1*y2)*(1-d*x1*x2*y1*y2)-d*(x1*y2+x2*y1)*(y1*y2+x1*x2)*x3*y3)=((1)*d*y1*x2*y2^4*x3*y3^2+(-1)*d*y1*x2^2*y2^3*y3+(1)*d*y1*x2^2*y2^3*y3^3+(-1)*d*y1*x2^3*y2^2*x3+(-1)*d*y1*x2^3*y2^2*x3^3+(-1)*d*y1*x2^4*y2*x3^2*y3+(-1)*d*x1*x2*y2^4*x3^2*y3+(-1)*d*x1*x2^2*y2^3*x3+(-1)*d*x1*x2^2*y2^3*x3^3+(-1)*d*x1*x2^3*y2^2*y3+(1)*d*x1*x2^3*y2^2*y3^3+(1)*d*x1*x2^4*y2*x3*y3^2+(-1)*d^2*y1*x2^3*y2^4*x3*y3^2+(-1)*d^2*y1*x2^4*y2^3*x3^2*y3+(1)*d^2*x1*x2^3*y2^4*x3^2*y3+(1)*d^2*x1*x2^4*y2^3*x3*y3^2)*(y1*y1-x1*x1-1-d*x1*x1*y1*y1)+((1)*y1*y2*y3+(-1)*y1*y2*y3^3+(1)*y1*y2*x3^2*y3+(1)*y1*x2*x3+(-1)*y1*x2*x3*y3^2+(1)*y1*x2*x3^3+(-1)*y1^3*y2*y3+(1)*y1^3*y2*y3^3+(-1)*y1^3*y2*x3^2*y3+(-1)*y1^3*x2*x3+(1)*y1^3*x2*x3*y3^2+(-1)*y1^3*x2*x3^3+(1)*x1*y2*x3+(-1)*x1*y2*x3*y3^2+(1)*x1*y2*x3^3+(1)*x1*x2*y3+(-1)*x1*x2*y3^3+(1)*x1*x2*x3^2*y3+(-1)*x1*y1^2*y2*x3+(1)*x1*y1^2*y2*x3*y3^2+(-1)*x1*y1^2*y2*x3^3+(-1)*x1*y1^2*x2*y3+(1)*x1*y1^2*x2*y3^3+(-1)*x1*y1^2*x2*x3^2*y3+(1)*x1^2*y1*y2*y3+(-1)*x1^2*y1*y2*y3^3+(1)*x1^2*y1*y2*x3^2*y3+(1)*x1^2*y1*x2*x3+(-1)*x1^2*y1*x2*x3*y3^2+(1)*x1^2*y1*x2*x3^3+(1)*x1^3*y2*x3+(-1)*x1^3*y2*x3*y3^2+(1)*x1^3*y2*x3^3+(1)*x1^3*x2*y3+(-1)*x1^3*x2*y3^3+(1)*x1^3*x2*x3^2*y3+(1)*d*y1*y2*x3^2*y3^3+(1)*d*y1*x2*x3^3*y3^2+(1)*d*y1*x2*y2^2*x3*y3^2+(1)*d*y1*x2^2*y2*x3^2*y3+(-1)*d*y1^3*y2*x3^2*y3^3+(-1)*d*y1^3*x2*x3^3*y3^2+(-1)*d*y1^3*x2*y2^2*x3*y3^2+(-1)*d*y1^3*x2^2*y2*x3^2*y3+(1)*d*x1*y2*x3^3*y3^2+(1)*d*x1*x2*x3^2*y3^3+(-1)*d*x1*x2*y2^2*x3^2*y3+(-1)*d*x1*x2^2*y2*x3*y3^2+(-1)*d*x1*y1^2*y2*x3^3*y3^2+(-1)*d*x1*y1^2*x2*x3^2*y3^3+(1)*d*x1*y1^2*x2*y2^2*x3^2*y3+(1)*d*x1*y1^2*x2^2*y2*x3*y3^2+(1)*d*x1^2*y1*y2*x3^2*y3^3+(1)*d*x1^2*y1*x2*x3^3*y3^2+(1)*d*x1^2*y1*x2*y2^2*x3*y3^2+(1)*d*x1^2*y1*x2^2*y2*x3^2*y3+(1)*d*x1^3*y2*x3^3*y3^2+(1)*d*x1^3*x2*x3^2*y3^3+(-1)*d*x1^3*x2*y2^2*x3^2*y3+(-1)*d*x1^3*x2^2*y2*x3*y3^2+(1)*d^2*x1*y1^2*x2*y2^2*x3^2*y3^3+(-1)*d^2*x1*y1^2*x2^2*y2*x3^3*y3^2+(-1)*d^2*x1^2*y1*x2*y2^2*x3^3*y3^2+(1)*d^2*x1^2*y1*x2^2*y2*x3^2*y3^3)*(y2*y2-x2*x2-1-d*x2*x2*y2*y2)+((-1)*y1*y2*y3+(1)*y1*y2^3*y3+(-1)*y1*x2*x3+(1)*y1*x2*y2^2*x3+(-1)*y1*x2^2*y2*y3+(-1)*y1*x2^3*x3+(1)*y1^3*y2*y3+(-1)*y1^3*y2^3*y3+(1)*y1^3*x2*x3+(-1)*y1^3*x2*y2^2*x3+(1)*y1^3*x2^2*y2*y3+(1)*y1^3*x2^3*x3+(-1)*x1*y2*x3+(1)*x1*y2^3*x3+(-1)*x1*x2*y3+(1)*x1*x2*y2^2*y3+(-1)*x1*x2^2*y2*x3+(-1)*x1*x2^3*y3+(1)*x1*y1^2*y2*x3+(-1)*x1*y1^2*y2^3*x3+(1)*x1*y1^2*x2*y3+(-1)*x1*y1^2*x2*y2^2*y3+(1)*x1*y1^2*x2^2*y2*x3+(1)*x1*y1^2*x2^3*y3+(-1)*x1^2*y1*y2*y3+(1)*x1^2*y1*y2^3*y3+(-1)*x1^2*y1*x2*x3+(1)*x1^2*y1*x2*y2^2*x3+(-1)*x1^2*y1*x2^2*y2*y3+(-1)*x1^2*y1*x2^3*x3+(-1)*x1^3*y2*x3+(1)*x1^3*y2^3*x3+(-1)*x1^3*x2*y3+(1)*x1^3*x2*y2^2*y3+(-1)*x1^3*x2^2*y2*x3+(-1)*x1^3*x2^3*y3+(-1)*d*x1*y1^2*x2*y2^2*y3+(1)*d*x1*y1^2*x2^2*y2*x3+(1)*d*x1^2*y1*x2*y2^2*x3+(-1)*d*x1^2*y1*x2^2*y2*y3)*(y3*y3-x3*x3-1-d*x3*x3*y3*y3):=by grind
theorem sum_on (d x1 y1 x2 y2:Int):(y1*y2+x1*x2)*(y1*y2+x1*x2)*((1+d*x1*x2*y1*y2)*(1+d*x1*x2*y1*y2))-(x1*y2+x2*y1)*(x1*y2+x2*y1)*((1-d*x1*x2*y1*y2)*(1-d*x1*x2*y1*y2))-(1+d*x1*x2*y1*y2)*(1+d*x1*x2*y1*y2)*((1-d*x1*x2*y1*y2)*(1-d*x1*x2*y1*y2))-d*((x1*y2+x2*y1)*(x1*y2+x2*y1))*((y1*y2+x1*x2)*(y1*y2+x1*x2))=((1)*y2^4+(-4)*x2^2*y2^2+(2)*x2^2*y2^4+(1)*x2^4+(-2)*x2^4*y2^2+(-2)*d*x2^2*y2^2+(-2)*d*x2^4*y2^4+(-1)*d*y1^2*x2^2*y2^4+(1)*d*y1^2*x2^4*y2^2+(1)*d*x1^2*x2^2*y2^4+(-1)*d*x1^2*x2^4*y2^2+(-1)*d^2*x2^4*y2^4+(1)*d^2*y1^2*x2^4*y2^4+(-1)*d^2*x1^2*x2^4*y2^4+(1)*d^3*x1^2*y1^2*x2^4*y2^4)*(y1*y1-x1*x1-1-d*x1*x1*y1*y1)+((1)+(1)*y2^2+(-1)*x2^2+(2)*x2^2*y2^2+(-1)*y1^2*y2^2+(1)*y1^2*x2^2+(-2)*y1^2*x2^2*y2^2+(1)*x1^2*y2^2+(-1)*x1^2*x2^2+(2)*x1^2*x2^2*y2^2+(1)*d*x2^2*y2^2+(-2)*d*y1^2*x2^2*y2^2+(1)*d*y1^4*x2^2*y2^2+(2)*d*x1^2*x2^2*y2^2+(1)*d*x1^4*x2^2*y2^2)*(y2*y2-x2*x2-1-d*x2*x2*y2*y2):=by grind
theorem sum_letters {P d nx ny dp dm x3 y3 a b w:Int} (hx:x3*dp-nx=P*a) (hy:y3*dm-ny=P*b) (hs:ny*ny*(dp*dp)-nx*nx*(dm*dm)-dp*dp*(dm*dm)-d*(nx*nx)*(ny*ny)=P*w):
 (y3*y3-x3*x3-1-d*x3*x3*y3*y3)*(dp*dp*(dm*dm))=P*(w+dp*dp*b*(ny+y3*dm)-dm*dm*a*(nx+x3*dp)-d*(a*(nx+x3*dp)*(y3*dm)*(y3*dm)+nx*nx*b*(ny+y3*dm))):=by
 obtain rfl:nx=x3*dp-P*a:=by omega
 obtain rfl:ny=y3*dm-P*b:=by omega
 grind
theorem Edw.on {P:Nat} {d i:Int} (h:Edw P d i) {x1 y1 x2 y2 x3 y3:Int} (h1:On P d x1 y1) (h2:On P d x2 y2) (h3:Sum P d x1 y1 x2 y2 x3 y3):On P d x3 y3:=by
 have hp:=h.plus h1 h2;have hm:=h.less h1 h2;obtain ⟨⟨a,ha⟩,⟨b,hb⟩⟩:=h3;have hs:=sum_on d x1 y1 x2 y2;have hw:∃w,(y1*y2+x1*x2)*(y1*y2+x1*x2)*((1+d*x1*x2*y1*y2)*(1+d*x1*x2*y1*y2))-(x1*y2+x2*y1)*(x1*y2+x2*y1)*((1-d*x1*x2*y1*y2)*(1-d*x1*x2*y1*y2))-(1+d*x1*x2*y1*y2)*(1+d*x1*x2*y1*y2)*((1-d*x1*x2*y1*y2)*(1-d*x1*x2*y1*y2))-d*((x1*y2+x2*y1)*(x1*y2+x2*y1))*((y1*y2+x1*x2)*(y1*y2+x1*x2))=(P:Int)*w:=by
  rw [hs];exact Int.dvd_add (Int.dvd_mul_of_dvd_right h1) (Int.dvd_mul_of_dvd_right h2)
 obtain ⟨w,hw⟩:=hw;have h4:=sum_letters ha hb hw;rcases h.prime.int (show (P:Int)∣_ from ⟨_,h4⟩) with h5|h5
 ·exact h5
 ·rcases h.prime.int h5 with h6|h6
  ·rcases h.prime.int h6 with h7|h7<;>exact absurd h7 hp
  ·rcases h.prime.int h6 with h7|h7<;>exact absurd h7 hm
theorem twice_letters {P d nx ny dp dm x3 y3 x4 y4 x5 a b c:Int} (hx:x4*dp-nx=P*a) (hy:y4*dm-ny=P*b) (h5:x5*(1+d*x4*x3*y4*y3)-(x4*y3+x3*y4)=P*c):
 x5*(dp*dm+d*nx*ny*x3*y3)-(nx*dm*y3+ny*dp*x3)=P*(c*dp*dm-x5*d*x3*y3*(a*(y4*dm)+nx*b)+a*dm*y3+b*dp*x3):=by
 obtain rfl:nx=x4*dp-P*a:=by omega
 obtain rfl:ny=y4*dm-P*b:=by omega
 grind
theorem twice_letters' {P d nx ny dp dm x3 y3 x4 y4 y5 a b c:Int} (hx:x4*dp-nx=P*a) (hy:y4*dm-ny=P*b) (h5:y5*(1-d*x4*x3*y4*y3)-(y4*y3+x4*x3)=P*c):
 y5*(dp*dm-d*nx*ny*x3*y3)-(ny*dp*y3+nx*dm*x3)=P*(c*dp*dm+y5*d*x3*y3*(a*(y4*dm)+nx*b)+b*dp*y3+a*dm*x3):=by
 obtain rfl:nx=x4*dp-P*a:=by omega
 obtain rfl:ny=y4*dm-P*b:=by omega
 grind
theorem den_letters {P d nx ny dp dm x3 y3 x4 y4 a b:Int} (hx:x4*dp-nx=P*a) (hy:y4*dm-ny=P*b):
 dp*dm*(1+d*x4*x3*y4*y3)=(dp*dm+d*nx*ny*x3*y3)+P*(d*x3*y3*(a*(y4*dm)+nx*b)):=by
 obtain rfl:nx=x4*dp-P*a:=by omega
 obtain rfl:ny=y4*dm-P*b:=by omega
 grind
theorem den_letters' {P d nx ny dp dm x3 y3 x4 y4 a b:Int} (hx:x4*dp-nx=P*a) (hy:y4*dm-ny=P*b):
 dp*dm*(1-d*x4*x3*y4*y3)=(dp*dm-d*nx*ny*x3*y3)-P*(d*x3*y3*(a*(y4*dm)+nx*b)):=by
 obtain rfl:nx=x4*dp-P*a:=by omega
 obtain rfl:ny=y4*dm-P*b:=by omega
 grind
theorem meet_letters {P s t na da nb db u v w:Int} (h1:s*da-na=P*u) (h2:t*db-nb=P*v) (h3:na*db-nb*da=P*w):(s-t)*(da*db)=P*(u*db-v*da+w):=by
 obtain rfl:na=s*da-P*u:=by omega
 obtain rfl:nb=t*db-P*v:=by omega
 grind
theorem three {P l c1 e1 c2 e2 c3 e3:Int} (h:l=c1*e1+c2*e2+c3*e3) (h1:P∣e1) (h2:P∣e2) (h3:P∣e3):∃w,l=P*w:=by
 rw [h];exact Int.dvd_add (Int.dvd_add (Int.dvd_mul_of_dvd_right h1) (Int.dvd_mul_of_dvd_right h2)) (Int.dvd_mul_of_dvd_right h3)
theorem Edw.goes {P:Nat} {d i:Int} (h:Edw P d i) {x1 y1 x2 y2 x3 y3 x4 y4 x5 y5 x6 y6 x7 y7:Int} (h1:On P d x1 y1) (h2:On P d x2 y2) (h3:On P d x3 y3)
 (s4:Sum P d x1 y1 x2 y2 x4 y4) (s5:Sum P d x4 y4 x3 y3 x5 y5) (s6:Sum P d x2 y2 x3 y3 x6 y6) (s7:Sum P d x6 y6 x1 y1 x7 y7):(P:Int)∣x5-x7∧(P:Int)∣y5-y7:=by
 have h4:=h.on h1 h2 s4;have h6:=h.on h2 h3 s6;have p12:=h.plus h1 h2;have m12:=h.less h1 h2;have p23:=h.plus h2 h3;have m23:=h.less h2 h3;have p43:=h.plus h4 h3;have m43:=h.less h4 h3;have p61:=h.plus h6 h1;have m61:=h.less h6 h1;obtain ⟨⟨a,ha⟩,⟨b,hb⟩⟩:=s4;obtain ⟨⟨a',ha'⟩,⟨b',hb'⟩⟩:=s6;obtain ⟨⟨c,hc⟩,⟨e,he⟩⟩:=s5;obtain ⟨⟨c',hc'⟩,⟨e',he'⟩⟩:=s7;have two:∀{x y z:Int},¬(P:Int)∣x→¬(P:Int)∣y→¬(P:Int)∣z→¬(P:Int)∣x*y*z:=fun hx hy hz hd=>by
  rcases h.prime.int hd with h8|h8
  ·rcases h.prime.int h8 with h9|h9
   ·exact hx h9
   ·exact hy h9
  ·exact hz h8
 have nz:∀{x y z:Int},¬(P:Int)∣x→x=y+P*z→¬(P:Int)∣y:=fun hx e hd=>hx (e▸Int.dvd_add hd ⟨_,rfl⟩);have nz':∀{x y z:Int},¬(P:Int)∣x→x=y-P*z→¬(P:Int)∣y:=fun hx e hd=>hx (e▸Int.dvd_sub hd ⟨_,rfl⟩);have fin:∀{s t x y z:Int},¬(P:Int)∣x→¬(P:Int)∣y→(s-t)*(x*y)=P*z→(P:Int)∣s-t:=fun hx hy e=>by
  rcases h.prime.int (show (P:Int)∣_ from ⟨_,e⟩) with h8|h8
  ·exact h8
  ·rcases h.prime.int h8 with h9|h9
   ·exact absurd h9 hx
   ·exact absurd h9 hy
 obtain ⟨wx,hwx⟩:=three (assoc_x d x1 y1 x2 y2 x3 y3) h1 h2 h3;obtain ⟨wy,hwy⟩:=three (assoc_y d x1 y1 x2 y2 x3 y3) h1 h2 h3;exact ⟨fin (nz (two p12 m12 p43) (den_letters ha hb)) (nz (two p23 m23 p61) (den_letters ha' hb')) (meet_letters (twice_letters ha hb hc) (twice_letters ha' hb' hc') hwx),
  fin (nz' (two p12 m12 m43) (den_letters' ha hb)) (nz' (two p23 m23 m61) (den_letters' ha' hb')) (meet_letters (twice_letters' ha hb he) (twice_letters' ha' hb' he') hwy)⟩
def dE:Nat:=37095705934669439343138083508754565189542113879843219016388785533085940283555
def iE:Nat:=19681161376707505956807079304988542015446066515923890162744021073123829784752
theorem euler_not {P k D:Nat} (hP:Pr P) (hk:P=2*k+1) (h2:¬(P:Int)∣2) (hD:(D^k+1)%P=0) {a b:Nat} (h:a*a%P=D*(b*b)%P) (hb:¬P∣b):False:=by
 have hb1:=hP.little hb;rw [show P-1=2*k by omega] at hb1;have e1:a^(2*k)%P=D^k*b^(2*k)%P:=by
  rw [Nat.pow_mul,Nat.pow_two,Nat.pow_mod,h,←Nat.pow_mod,Nat.mul_pow,Nat.pow_mul,Nat.pow_two]
 rw [Nat.mul_mod,hb1,Nat.mul_one,Nat.mod_mod] at e1;by_cases ha:P∣a
 ·by_cases hk0:k=0
  ·have :=hP.1;omega
  ·have h4:P∣a^(2*k):=Nat.dvd_trans ha (dvd_pow_self a (by omega));rw [Nat.mod_eq_zero_of_dvd h4] at e1;rw [Nat.add_mod,←e1,Nat.zero_add,Nat.mod_mod] at hD;have :=hP.1;rw [yaj (by omega)] at hD;omega
 ·have ha1:=hP.little ha;rw [show P-1=2*k by omega,e1] at ha1;rw [Nat.add_mod,ha1] at hD;refine h2 ?_;have :=hP.1;have h5:P∣1+1:=by
   have h6:(1+1%P)%P=0:=hD;rw [yaj (show 1<P by omega)] at h6;exact Nat.dvd_of_mod_eq_zero h6
  exact Int.natCast_dvd_natCast.2 h5
theorem no_square {P k D:Nat} (hP:Pr P) (hk:P=2*k+1) (h2:¬(P:Int)∣2) (hD:(D^k+1)%P=0) (s t:Int) (h:(P:Int)∣s*s-(D:Int)*(t*t)):(P:Int)∣t:=by
 refine Classical.byContradiction fun ht=>?_;have e:((s.natAbs*s.natAbs:Nat):Int)=s*s:=Int.natAbs_mul_self;have e2:((t.natAbs*t.natAbs:Nat):Int)=t*t:=Int.natAbs_mul_self;refine euler_not hP hk h2 hD (a:=s.natAbs) (b:=t.natAbs) ?_ (fun hb=>ht ?_)
 ·rw [cg,e,Int.natCast_mul,e2];exact h
 ·exact Int.natAbs_dvd_natAbs.1 (by simpa using hb)
theorem d_power (k:Nat) (hk:2*k+1=PP):(dE^k+1)%PP=0:=by
 have hl:k<2^256:=by simp only [PP] at hk;omega
 have h:=pw_eq PP 256 dE k hl;rw [Nat.add_mod,←h];obtain rfl:k=28948022309329048855892746252171976963317496166410141009864396001978282409974:=by simp only [PP] at hk;omega
 decide+kernel
theorem odd_P:¬((PP:Nat):Int)∣2:=by decide+kernel
theorem edw:Edw PP dE iE where
 prime:=pr_P
 odd:=odd_P
 root:=by decide+kernel
 non:=fun s t h=>by
  obtain ⟨k,hk⟩:∃k,2*k+1=PP:=⟨28948022309329048855892746252171976963317496166410141009864396001978282409974,by decide⟩;exact no_square pr_P hk.symm odd_P (d_power k hk) s t h
theorem inv_int {P:Nat} (hP:Pr P) (x:Int) (hx:¬(P:Int)∣x):∃y:Int,(P:Int)∣x*y-1:=by
 have hn:¬P∣x.natAbs:=fun h=>hx (Int.natAbs_dvd_natAbs.1 (by simpa using h));have h:=hP.little hn;have h2:=hP.1;obtain ⟨q,hq⟩:∃q,P-1=q+1:=⟨P-2,by omega⟩;rw [hq,Nat.pow_succ] at h;have h3:=(cg (x.natAbs^q*x.natAbs) 1 P).1 (by rw [h,yaj (by omega)]);rw [Int.natCast_mul] at h3;rcases Int.natAbs_eq x with e|e
 ·refine ⟨((x.natAbs^q:Nat):Int),?_⟩;rw [←e,Int.mul_comm] at h3;exact h3
 ·refine ⟨-((x.natAbs^q:Nat):Int),?_⟩;have e2:((x.natAbs:Nat):Int)= -x:=by omega
  rw [e2,Int.mul_neg,Int.mul_comm,←Int.mul_neg] at h3;exact h3
theorem Edw.there {P:Nat} {d i:Int} (h:Edw P d i) {x1 y1 x2 y2:Int} (h1:On P d x1 y1) (h2:On P d x2 y2):∃x3 y3,Sum P d x1 y1 x2 y2 x3 y3:=by
 obtain ⟨u,v,hu⟩:=inv_int h.prime _ (h.plus h1 h2);obtain ⟨u',v',hu'⟩:=inv_int h.prime _ (h.less h1 h2);refine ⟨(x1*y2+x2*y1)*u,(y1*y2+x1*x2)*u',⟨(x1*y2+x2*y1)*v,?_⟩,⟨(y1*y2+x1*x2)*v',?_⟩⟩
 ·generalize 1+d*x1*x2*y1*y2=q at *;generalize x1*y2+x2*y1=r at *
  grind
 ·generalize 1-d*x1*x2*y1*y2=q at *;generalize y1*y2+x1*x2=r at *
  grind
structure Pt (P:Nat) (d:Int) where
 x:Int
 y:Int
 on:On P d x y
 xl:x%(P:Int)=x
 yl:y%(P:Int)=y
theorem Pt.same {P:Nat} {d:Int} {p q:Pt P d} (hx:(P:Int)∣p.x-q.x) (hy:(P:Int)∣p.y-q.y):p=q:=by
 have h1:=Int.emod_emod_of_dvd;have ex:p.x=q.x:=by rw [←p.xl,←q.xl];exact Int.emod_eq_emod_iff_emod_sub_eq_zero.2 (Int.emod_eq_zero_of_dvd hx)
 have ey:p.y=q.y:=by rw [←p.yl,←q.yl];exact Int.emod_eq_emod_iff_emod_sub_eq_zero.2 (Int.emod_eq_zero_of_dvd hy)
 cases p
 cases q
 cases ex
 cases ey
 rfl
theorem Sum.least {P:Nat} {d x1 y1 x2 y2 x3 y3:Int} (h:Sum P d x1 y1 x2 y2 x3 y3):Sum P d x1 y1 x2 y2 (x3%P) (y3%P):=by
 obtain ⟨⟨a,ha⟩,⟨b,hb⟩⟩:=h;have e1:x3=x3%(P:Int)+(P:Int)*(x3/P):=by rw [Int.add_comm];exact (Int.mul_ediv_add_emod x3 P).symm
 have e2:y3=y3%(P:Int)+(P:Int)*(y3/P):=by rw [Int.add_comm];exact (Int.mul_ediv_add_emod y3 P).symm
 generalize x3%(P:Int)=x at *;generalize y3%(P:Int)=y at *;generalize x3/(P:Int)=u at *;generalize y3/(P:Int)=v at *;subst e1;subst e2;exact ⟨⟨a-u*(1+d*x1*x2*y1*y2),by grind⟩,⟨b-v*(1-d*x1*x2*y1*y2),by grind⟩⟩
theorem Edw.pt {P:Nat} {d i:Int} (h:Edw P d i) (p q:Pt P d):∃r:Pt P d,Sum P d p.x p.y q.x q.y r.x r.y:=by
 obtain ⟨x,y,hs⟩:=h.there p.on q.on;have hs2:=hs.least;exact ⟨⟨_,_,h.on p.on q.on hs2,Int.emod_emod _ _,Int.emod_emod _ _⟩,hs2⟩
noncomputable def Edw.add {P:Nat} {d i:Int} (h:Edw P d i) (p q:Pt P d):Pt P d:=Classical.choose (h.pt p q)
theorem Edw.add_is {P:Nat} {d i:Int} (h:Edw P d i) (p q:Pt P d):Sum P d p.x p.y q.x q.y (h.add p q).x (h.add p q).y:=Classical.choose_spec (h.pt p q)
theorem Edw.add_of {P:Nat} {d i:Int} (h:Edw P d i) {p q r:Pt P d} (hs:Sum P d p.x p.y q.x q.y r.x r.y):h.add p q=r:=by
 obtain ⟨hx,hy⟩:=h.one p.on q.on (h.add_is p q) hs;exact Pt.same hx hy
theorem Edw.add_comm {P:Nat} {d i:Int} (h:Edw P d i) (p q:Pt P d):h.add p q=h.add q p:=h.add_of (h.add_is q p).swap
theorem Edw.add_assoc {P:Nat} {d i:Int} (h:Edw P d i) (p q r:Pt P d):h.add (h.add p q) r=h.add p (h.add q r):=by
 rw [h.add_comm p (h.add q r)];obtain ⟨hx,hy⟩:=h.goes p.on q.on r.on (h.add_is p q) (h.add_is (h.add p q) r) (h.add_is q r) (h.add_is (h.add q r) p);exact Pt.same hx hy
def Edw.zero {P:Nat} {d i:Int} (h:Edw P d i):Pt P d where
 x:=0
 y:=1
 on:=⟨0,by grind⟩
 xl:=Int.zero_emod _
 yl:=by
  have :=h.prime.1;exact Int.emod_eq_of_lt (by omega) (by omega)
theorem Edw.zero_add {P:Nat} {d i:Int} (h:Edw P d i) (p:Pt P d):h.add h.zero p=p:=h.add_of ⟨⟨0,by show p.x*(1+d*0*p.x*1*p.y)-(0*p.y+p.x*1)=_;grind⟩,⟨0,by show p.y*(1-d*0*p.x*1*p.y)-(1*p.y+0*p.x)=_;grind⟩⟩
theorem Edw.add_zero {P:Nat} {d i:Int} (h:Edw P d i) (p:Pt P d):h.add p h.zero=p:=by rw [h.add_comm,h.zero_add]
def Pt.neg {P:Nat} {d:Int} (p:Pt P d):Pt P d where
 x:=(-p.x)%P
 y:=p.y
 on:=by
  obtain ⟨a,ha⟩:=p.on;have e: -p.x=(-p.x)%(P:Int)+(P:Int)*((-p.x)/P):=by rw [Int.add_comm];exact (Int.mul_ediv_add_emod _ _).symm
  generalize (-p.x)%(P:Int)=x at *;generalize (-p.x)/(P:Int)=u at *;have e2:p.x= -(x+(P:Int)*u):=by omega
  rw [e2] at ha;exact ⟨a+u*(2*x+(P:Int)*u)*(1+d*p.y*p.y),by grind⟩
 xl:=Int.emod_emod _ _
 yl:=p.yl
theorem Edw.neg_add {P:Nat} {d i:Int} (h:Edw P d i) (p:Pt P d):h.add p.neg p=h.zero:=by
 obtain ⟨a,ha⟩:=p.on;have e: -p.x=(-p.x)%(P:Int)+(P:Int)*((-p.x)/P):=by rw [Int.add_comm];exact (Int.mul_ediv_add_emod _ _).symm
 refine h.add_of ⟨?_,?_⟩
 ·show (P:Int)∣0*(1+d*((-p.x)%P)*p.x*p.y*p.y)-(((-p.x)%P)*p.y+p.x*p.y);generalize (-p.x)%(P:Int)=x at *;generalize (-p.x)/(P:Int)=u at *;obtain rfl:x= -p.x-(P:Int)*u:=by omega
  exact ⟨u*p.y,by grind⟩
 ·show (P:Int)∣1*(1-d*((-p.x)%P)*p.x*p.y*p.y)-(p.y*p.y+((-p.x)%P)*p.x);generalize (-p.x)%(P:Int)=x at *;generalize (-p.x)/(P:Int)=u at *;obtain rfl:x= -p.x-(P:Int)*u:=by omega
  exact ⟨u*p.x*(1+d*p.y*p.y)-a,by grind⟩
noncomputable def Edw.mul {P:Nat} {d i:Int} (h:Edw P d i) (p:Pt P d):Nat→Pt P d
 |0=>h.zero
 |n+1=>h.add (h.mul p n) p
theorem Edw.mul_one {P:Nat} {d i:Int} (h:Edw P d i) (p:Pt P d):h.mul p 1=p:=h.zero_add p
theorem Edw.mul_add {P:Nat} {d i:Int} (h:Edw P d i) (p:Pt P d) (m:Nat):∀n,h.mul p (m+n)=h.add (h.mul p m) (h.mul p n)
 |0=>(h.add_zero _).symm
 |n+1=>by
  show h.add (h.mul p (m+n)) p=h.add (h.mul p m) (h.add (h.mul p n) p);rw [h.mul_add p m n,h.add_assoc]
theorem Edw.mul_mul {P:Nat} {d i:Int} (h:Edw P d i) (p:Pt P d) (m:Nat):∀n,h.mul (h.mul p m) n=h.mul p (m*n)
 |0=>rfl
 |n+1=>by
  show h.add (h.mul (h.mul p m) n) (h.mul p m)=h.mul p (m*n+m);rw [h.mul_mul p m n,h.mul_add]
def Cg (P a b:Int):Prop:=P∣a-b
theorem Cg.refl {P:Int} (a:Int):Cg P a a:=⟨0,by omega⟩
theorem Cg.add {P a b a' b':Int} (h:Cg P a a') (k:Cg P b b'):Cg P (a+b) (a'+b'):=by
 obtain ⟨u,hu⟩:=h;obtain ⟨v,hv⟩:=k;exact ⟨u+v,by rw [Int.mul_add,←hu,←hv];omega⟩
theorem Cg.sub {P a b a' b':Int} (h:Cg P a a') (k:Cg P b b'):Cg P (a-b) (a'-b'):=by
 obtain ⟨u,hu⟩:=h;obtain ⟨v,hv⟩:=k;exact ⟨u-v,by rw [Int.mul_sub,←hu,←hv];omega⟩
theorem Cg.mul {P a b a' b':Int} (h:Cg P a a') (k:Cg P b b'):Cg P (a*b) (a'*b'):=by
 obtain ⟨u,hu⟩:=h;obtain ⟨v,hv⟩:=k;exact ⟨u*b+a'*v,by grind⟩
theorem Cg.trans {P a b c:Int} (h:Cg P a b) (k:Cg P b c):Cg P a c:=by
 have :=Int.dvd_add h k
 rwa [show a-b+(b-c)=a-c by omega] at this
theorem Cg.dvd {P a b:Int} (h:Cg P a b) (hd:P∣a):P∣b:=by
 have :=Int.dvd_sub hd h
 rwa [show a-(a-b)=b by omega] at this
theorem Cg.least (P a:Int):Cg P (a%P) a:=⟨-(a/P),by have :=Int.mul_ediv_add_emod a P;rw [Int.mul_neg];omega⟩
theorem Cg.swap {P a b:Int} (h:Cg P a b):Cg P b a:=by
 obtain ⟨u,hu⟩:=h;exact ⟨-u,by rw [Int.mul_neg,←hu];omega⟩
structure Rep {P:Nat} {d:Int} (p:Pt P d) (X Y Z:Int):Prop where
 nz:¬(P:Int)∣Z
 hx:Cg P X (p.x*Z)
 hy:Cg P Y (p.y*Z)
theorem Rep.of {P:Nat} {d:Int} {p:Pt P d} {X Y Z X' Y' Z':Int} (h:Rep p X Y Z) (hX:Cg P X' X) (hY:Cg P Y' Y) (hZ:Cg P Z' Z):Rep p X' Y' Z':=
 ⟨fun hd=>h.nz (hZ.dvd hd),(hX.trans h.hx).trans ((Cg.refl _).mul hZ.swap),(hY.trans h.hy).trans ((Cg.refl _).mul hZ.swap)⟩
def sumX (d X1 Y1 Z1 X2 Y2 Z2:Int):Int:=Z1*Z2*(Z1*Z2*(Z1*Z2)-d*(X1*X2)*(Y1*Y2))*((X1+Y1)*(X2+Y2)-X1*X2-Y1*Y2)
def sumY (d X1 Y1 Z1 X2 Y2 Z2:Int):Int:=Z1*Z2*(Z1*Z2*(Z1*Z2)+d*(X1*X2)*(Y1*Y2))*(Y1*Y2+X1*X2)
def sumZ (d X1 Y1 Z1 X2 Y2 Z2:Int):Int:=(Z1*Z2*(Z1*Z2)-d*(X1*X2)*(Y1*Y2))*(Z1*Z2*(Z1*Z2)+d*(X1*X2)*(Y1*Y2))
theorem Rep.add {P:Nat} {d i:Int} (h:Edw P d i) {p q:Pt P d} {X1 Y1 Z1 X2 Y2 Z2:Int} (r1:Rep p X1 Y1 Z1) (r2:Rep q X2 Y2 Z2):Rep (h.add p q) (sumX d X1 Y1 Z1 X2 Y2 Z2) (sumY d X1 Y1 Z1 X2 Y2 Z2) (sumZ d X1 Y1 Z1 X2 Y2 Z2):=by
 obtain ⟨⟨a,ha⟩,⟨b,hb⟩⟩:=h.add_is p q;have hp:=h.plus p.on q.on;have hm:=h.less p.on q.on;obtain ⟨n1,cx1,cy1⟩:=r1;obtain ⟨n2,cx2,cy2⟩:=r2;have cC:=cx1.mul cx2;have cD:=cy1.mul cy2;have cE:=((Cg.refl (P:=P) d).mul cC).mul cD;have cF:=(Cg.refl (P:=P) (Z1*Z2*(Z1*Z2))).sub cE;have cG:=(Cg.refl (P:=P) (Z1*Z2*(Z1*Z2))).add cE;have cS:=(((cx1.add cy1).mul (cx2.add cy2)).sub cC).sub cD;have cW:=Cg.refl (P:=P) (Z1*Z2);have cX:=(cW.mul cF).mul cS;have cY:=(cW.mul cG).mul (cD.add cC);have cZ:=cF.mul cG;obtain ⟨s,hs⟩:∃s,(h.add p q).x=s:=⟨_,rfl⟩;obtain ⟨t,ht⟩:∃t,(h.add p q).y=t:=⟨_,rfl⟩;rw [hs] at ha;rw [ht] at hb;generalize p.x=x1 at *;generalize p.y=y1 at *;generalize q.x=x2 at *;generalize q.y=y2 at *;have eZ:(Z1*Z2*(Z1*Z2)-d*(x1*Z1*(x2*Z2))*(y1*Z1*(y2*Z2)))*(Z1*Z2*(Z1*Z2)+d*(x1*Z1*(x2*Z2))*(y1*Z1*(y2*Z2)))=Z1*Z2*(Z1*Z2)*(Z1*Z2*(Z1*Z2))*((1+d*x1*x2*y1*y2)*(1-d*x1*x2*y1*y2)):=by grind
 have two:∀{x y:Int},¬(P:Int)∣x→¬(P:Int)∣y→¬(P:Int)∣x*y:=fun hx hy hd=>by
  rcases h.prime.int hd with h8|h8
  ·exact hx h8
  ·exact hy h8
 have hW:=two n1 n2;refine ⟨fun hd=>?_,?_,?_⟩
 ·have h9:=cZ.dvd hd;rw [eZ] at h9;exact two (two (two hW hW) (two hW hW)) (two hp hm) h9
 ·rw [hs];refine (cX.trans ?_).trans ((Cg.refl s).mul cZ.swap);exact ⟨-(a*(Z1*Z2*(Z1*Z2))*(Z1*Z2*(Z1*Z2))*(1-d*x1*x2*y1*y2)),by grind⟩
 ·rw [ht];refine (cY.trans ?_).trans ((Cg.refl t).mul cZ.swap);exact ⟨-(b*(Z1*Z2*(Z1*Z2))*(Z1*Z2*(Z1*Z2))*(1+d*x1*x2*y1*y2)),by grind⟩
def addR (P d:Int) (p q:Int×Int×Int):Int×Int×Int:=(sumX d p.1 p.2.1 p.2.2 q.1 q.2.1 q.2.2%P,sumY d p.1 p.2.1 p.2.2 q.1 q.2.1 q.2.2%P,sumZ d p.1 p.2.1 p.2.2 q.1 q.2.1 q.2.2%P)
def mulR (P d:Int) (b:Int×Int×Int):Nat→Nat→Int×Int×Int
 |0,_=>(0,1,1)
 |f+1,n=>bif Nat.beq n 0 then (0,1,1) else bif Nat.beq (n%2) 1 then addR P d (addR P d (mulR P d b f (n/2)) (mulR P d b f (n/2))) b else addR P d (mulR P d b f (n/2)) (mulR P d b f (n/2))
theorem Rep.addR {P:Nat} {d i:Int} (h:Edw P d i) {p q:Pt P d} {u v:Int×Int×Int} (r1:Rep p u.1 u.2.1 u.2.2) (r2:Rep q v.1 v.2.1 v.2.2):Rep (h.add p q) (addR P d u v).1 (addR P d u v).2.1 (addR P d u v).2.2:=
 (Rep.add h r1 r2).of (Cg.least _ _) (Cg.least _ _) (Cg.least _ _)
theorem Rep.zero {P:Nat} {d i:Int} (h:Edw P d i):Rep h.zero 0 1 1:=⟨h.prime.not_one,by show Cg P 0 (0*1);exact Cg.refl _,by show Cg P 1 (1*1);exact Cg.refl _⟩
theorem Rep.mulR {P:Nat} {d i:Int} (h:Edw P d i) {p:Pt P d} {b:Int×Int×Int} (r:Rep p b.1 b.2.1 b.2.2):∀f n,n<2^f→Rep (h.mul p n) (mulR P d b f n).1 (mulR P d b f n).2.1 (mulR P d b f n).2.2
 |0,n,hn=>by
  obtain rfl:n=0:=by simpa using hn
  exact Rep.zero h
 |f+1,n,hn=>by
  rw [Nat.pow_succ] at hn;have ih:=Rep.mulR h r f (n/2) (by omega);have i2:=Rep.addR h ih ih;rw [←h.mul_add] at i2;unfold NP.mulR;by_cases h0:n=0
  ·subst h0;exact Rep.zero h
  ·rw [show Nat.beq n 0=false from Bool.eq_false_iff.2 (fun c=>h0 (Nat.eq_of_beq_eq_true c))];rcases Nat.mod_two_eq_zero_or_one n with h3|h3
   ·rw [h3,cond_false,show Nat.beq 0 1=false from rfl,cond_false];rw [show n/2+n/2=n by omega] at i2;exact i2
   ·rw [h3,cond_false,show Nat.beq 1 1=true from rfl,cond_true];have i3:=Rep.addR h i2 r;have e:h.add (h.mul p (n/2+n/2)) p=h.mul p n:=by
     show h.mul p (n/2+n/2+1)=h.mul p n;rw [show n/2+n/2+1=n by omega]
    rw [e] at i3;exact i3
def bxE:Int:=15112221349535400772501151409588531511454012693041857206046113283949847762202
def byE:Int:=46316835694926478169428394003475163141307993866256225615783033603165251855960
def bE:Pt PP dE where
 x:=bxE
 y:=byE
 on:=by unfold On;decide+kernel
 xl:=by decide+kernel
 yl:=by decide+kernel
theorem bE_rep:Rep bE bxE byE 1:=⟨pr_P.not_one,by show Cg _ bxE (bxE*1);rw [Int.mul_one];exact Cg.refl _,by show Cg _ byE (byE*1);rw [Int.mul_one];exact Cg.refl _⟩
theorem order_run:(mulR PP dE (bxE,byE,1) 253 LL).1=0∧(mulR PP dE (bxE,byE,1) 253 LL).2.1=(mulR PP dE (bxE,byE,1) 253 LL).2.2:=by decide+kernel
theorem order_zero:edw.mul bE LL=edw.zero:=by
 have r:=Rep.mulR edw (b:=(bxE,byE,1)) bE_rep 253 LL (by decide+kernel);obtain ⟨h1,h2⟩:=order_run;rw [h1,h2] at r;generalize (mulR PP dE (bxE,byE,1) 253 LL).2.2=Z at *;generalize edw.mul bE LL=q at *;obtain ⟨nz,⟨a,ha⟩,⟨b,hb⟩⟩:=r;refine Pt.same ?_ ?_
 ·show ((PP:Nat):Int)∣q.x-0;refine (edw.prime.int (show ((PP:Nat):Int)∣(q.x-0)*Z from ⟨-a,?_⟩)).resolve_right nz;rw [Int.mul_neg,←ha,Int.sub_zero];omega
 ·show ((PP:Nat):Int)∣q.y-1;refine (edw.prime.int (show ((PP:Nat):Int)∣(q.y-1)*Z from ⟨-b,?_⟩)).resolve_right nz;rw [Int.mul_neg,←hb,Int.sub_mul];omega
theorem Edw.mul_zero {P:Nat} {d i:Int} (h:Edw P d i):∀n,h.mul h.zero n=h.zero
 |0=>rfl
 |n+1=>by
  show h.add (h.mul h.zero n) h.zero=h.zero;rw [h.mul_zero n,h.zero_add]
theorem base_not_zero:bE≠edw.zero:=fun h=>by
 have h2:bE.x=edw.zero.x:=by rw [h]
 exact absurd (show bxE=0 from h2) (by decide)
theorem mul_over {P:Nat} {d i:Int} (h:Edw P d i) (b:Pt P d) (L n:Nat) (hL:Pr L) (ho:h.mul b L=h.zero) (hb:b≠h.zero) (hn:¬L∣n):h.mul b n≠h.zero:=fun hz=>by
 have h1:=hL.little hn;have h2:=hL.1;obtain ⟨q,hq⟩:∃q,L-1=q+1:=⟨L-2,by omega⟩;rw [hq,Nat.pow_succ,Nat.mul_comm] at h1;have e1:h.mul b (n*n^q)=h.zero:=by rw [←h.mul_mul,hz,h.mul_zero]
 have e2:=Nat.div_add_mod (n*n^q) L;rw [h1] at e2;rw [←e2,h.mul_add,←h.mul_mul,ho,h.mul_zero,h.mul_one,h.zero_add] at e1;exact hb e1
theorem base_mul (n:Nat) (hn:¬LL∣n):edw.mul bE n≠edw.zero:=mul_over edw bE LL n pr_L order_zero base_not_zero hn
structure RepU {P:Nat} {d:Int} (p:Pt P d) (X Z:Int):Prop where
 nz:¬(P:Int)∣X+Z
 hu:Cg P (X-Z) (p.y*(X+Z))
end Go.Proofs.YtoggkhjaghkpnaaGreatDoor.NP
namespace Go.Proofs.YtoggkhjaghkpnaaGreatDoor
open Go.RowKit
def fA (n m:Nat):Nat:=(n+m)%pp
def fS (n m:Nat):Nat:=(n+(pp-m))%pp
def fM (n m:Nat):Nat:=n*m%pp
theorem So (n m:Nat):fA n m<pp:=Nat.mod_lt _ (by decide)
theorem Tp (n m:Nat):fS n m<pp:=Nat.mod_lt _ (by decide)
theorem Lc (n m:Nat):fM n m<pp:=Nat.mod_lt _ (by decide)
def ivN (n:Nat):Nat:=n^(pp-2)%pp
namespace NP
theorem cgA (P n m:Nat):Cg (P:Int) (((n+m)%P:Nat):Int) ((n:Int)+m):=by rw [Int.natCast_emod,Int.natCast_add];exact Cg.least _ _
theorem cgM (P n m:Nat):Cg (P:Int) ((n*m%P:Nat):Int) ((n:Int)*m):=by rw [Int.natCast_emod,Int.natCast_mul];exact Cg.least _ _
theorem cgS (P n m:Nat) (hm:m<P):Cg (P:Int) (((n+(P-m))%P:Nat):Int) ((n:Int)-m):=by
 rw [Int.natCast_emod];refine (Cg.least _ _).trans ⟨1,?_⟩;omega
theorem RepU.of {P:Nat} {d:Int} {p:Pt P d} {X Z X' Z':Int} (r:RepU p X Z) (hX:Cg P X' X) (hZ:Cg P Z' Z):RepU p X' Z':=
 ⟨fun h=>r.nz ((hX.add hZ).dvd h),((hX.sub hZ).trans r.hu).trans ((Cg.refl _).mul (hX.add hZ).swap)⟩
theorem cg_A (n m:Nat):Cg ((PP:Nat):Int) ((fA n m:Nat):Int) ((n:Int)+m):=cgA PP n m
theorem cg_M (n m:Nat):Cg ((PP:Nat):Int) ((fM n m:Nat):Int) ((n:Int)*m):=cgM PP n m
theorem cg_S (n m:Nat) (hm:m<pp):Cg ((PP:Nat):Int) ((fS n m:Nat):Int) ((n:Int)-m):=cgS PP n m hm
end NP
def Ag:Nat:=37095705934669439343138083508754565189542113879843219016388785533085940283555
abbrev Tri:=Nat×Nat×Nat
def Hw (p q:Tri):Nat:=fM p.2.2 q.2.2
def yM (p q:Tri):Nat:=fM (Hw p q) (Hw p q)
def qr (p q:Tri):Nat:=fM p.1 q.1
def As (p q:Tri):Nat:=fM p.2.1 q.2.1
def S4 (p q:Tri):Nat:=fM Ag (fM (qr p q) (As p q))
def Wu (p q:Tri):Nat:=fA (yM p q) (S4 p q)
def Xu (p q:Tri):Nat:=fS (yM p q) (S4 p q)
def Up (p q:Tri):Nat:=fA (fM p.1 q.2.1) (fM q.1 p.2.1)
def Oe (p q:Tri):Tri:=(fM (fM (Hw p q) (Up p q)) (Xu p q),fM (fM (Hw p q) (fA (As p q) (qr p q))) (Wu p q),fM (Wu p q) (Xu p q))
def qd (t:Tri):Prop:=t.1<pp∧t.2.1<pp∧t.2.2<pp
theorem Ul (p q:Tri):qd (Oe p q):=⟨Lc _ _,Lc _ _,Lc _ _⟩
namespace NP
theorem dNat_is:(Ag:Int)=dE:=by decide+kernel
structure RepN (p:Pt PP dE) (t:Tri):Prop where
 rep:Rep p t.1 t.2.1 t.2.2
 lt:qd t
theorem ring_x (X1 Y1 Z1 X2 Y2 Z2 d:Int):Z1*Z2*(X1*Y2+X2*Y1)*(Z1*Z2*(Z1*Z2)-d*(X1*X2*(Y1*Y2)))=sumX d X1 Y1 Z1 X2 Y2 Z2:=by
 unfold sumX
 grind
theorem ring_y (X1 Y1 Z1 X2 Y2 Z2 d:Int):Z1*Z2*(Y1*Y2+X1*X2)*(Z1*Z2*(Z1*Z2)+d*(X1*X2*(Y1*Y2)))=sumY d X1 Y1 Z1 X2 Y2 Z2:=by
 unfold sumY
 grind
theorem ring_z (X1 Y1 Z1 X2 Y2 Z2 d:Int):(Z1*Z2*(Z1*Z2)+d*(X1*X2*(Y1*Y2)))*(Z1*Z2*(Z1*Z2)-d*(X1*X2*(Y1*Y2)))=sumZ d X1 Y1 Z1 X2 Y2 Z2:=by
 unfold sumZ
 grind
theorem sumT_rep {p q:Pt PP dE} {s t:Tri} (r1:RepN p s) (r2:RepN q t):RepN (edw.add p q) (Oe s t):=by
 refine ⟨?_,Ul _ _⟩;have h:=Rep.add edw r1.rep r2.rep;have hz:=cg_M s.2.2 t.2.2;have hzz:=(cg_M (Hw s t) (Hw s t)).trans (hz.mul hz);have hxx:=cg_M s.1 t.1;have hyy:=cg_M s.2.1 t.2.1;have he:=(cg_M Ag _).trans ((Cg.refl (Ag:Int)).mul ((cg_M (qr s t) (As s t)).trans (hxx.mul hyy)));rw [dNat_is] at he;have hm:=(cg_A (yM s t) (S4 s t)).trans (hzz.add he);have hl:=(cg_S (yM s t) (S4 s t) (Lc _ _)).trans (hzz.sub he);have hc:=(cg_A (fM s.1 t.2.1) (fM t.1 s.2.1)).trans ((cg_M s.1 t.2.1).add (cg_M t.1 s.2.1));have hx:=(cg_M (fM (Hw s t) (Up s t)) (Xu s t)).trans (((cg_M (Hw s t) (Up s t)).trans (hz.mul hc)).mul hl);have hy:=(cg_M (fM (Hw s t) (fA (As s t) (qr s t))) (Wu s t)).trans (((cg_M (Hw s t) (fA (As s t) (qr s t))).trans (hz.mul ((cg_A (As s t) (qr s t)).trans (hyy.add hxx)))).mul hm);have hw:=(cg_M (Wu s t) (Xu s t)).trans (hm.mul hl);rw [ring_x] at hx;rw [ring_y] at hy;rw [ring_z] at hw;exact h.of hx hy hw
theorem zeroT_rep:RepN edw.zero (0,1,1):=⟨Rep.zero edw,by show 0<pp;decide,by show 1<pp;decide,by show 1<pp;decide⟩
theorem baseT_rep:RepN bE (15112221349535400772501151409588531511454012693041857206046113283949847762202,46316835694926478169428394003475163141307993866256225615783033603165251855960,1):=⟨bE_rep,by show _<pp;decide,by show _<pp;decide,by show 1<pp;decide⟩
theorem negT_rep {p:Pt PP dE} {t:Tri} (r:RepN p t):RepN p.neg (fS 0 t.1,t.2.1,t.2.2):=by
 obtain ⟨⟨nz,hx,hy⟩,h1,h2,h3⟩:=r;refine ⟨⟨nz,?_,hy⟩,Tp _ _,h2,h3⟩;have h:=(cg_S 0 t.1 h1).trans ((Cg.refl ((0:Nat):Int)).sub hx);refine h.trans ?_;have e:Cg ((PP:Nat):Int) p.neg.x (-p.x):=Cg.least _ _;refine Cg.trans ?_ (e.swap.mul (Cg.refl _));rw [show ((0:Nat):Int)-p.x*(t.2.2:Int)= -p.x*(t.2.2:Int) by rw [Int.neg_mul];omega];exact Cg.refl _
def Pt.X (p:Pt PP dE):Nat:=p.x.toNat
def Pt.Y (p:Pt PP dE):Nat:=p.y.toNat
theorem least_nat {P:Nat} (hP:0<P) {x:Int} (h:x%(P:Int)=x):0≤x∧x<P:=by
 have h1:=Int.emod_nonneg x (show (P:Int)≠0 by omega);have h2:=Int.emod_lt_of_pos x (show (0:Int)<P by omega);omega
theorem Pt.X_is (p:Pt PP dE):((Pt.X p:Nat):Int)=p.x∧Pt.X p<pp:=by
 have h:=least_nat (show 0<PP by decide) p.xl;have h2:p.x<((pp:Nat):Int):=h.2;unfold Pt.X;omega
theorem Pt.Y_is (p:Pt PP dE):((Pt.Y p:Nat):Int)=p.y∧Pt.Y p<pp:=by
 have h:=least_nat (show 0<PP by decide) p.yl;have h2:p.y<((pp:Nat):Int):=h.2;unfold Pt.Y;omega
theorem over_is {P:Nat} (hP:Pr P) {x z k iv u:Nat} (hk:k+2=P) (hi:iv=z^k%P) (hz:¬(P:Int)∣(z:Int)) (hx:Cg P (x:Int) ((u:Int)*z)) (hu:u<P):x*iv%P=u:=by
 have hn:¬P∣z:=fun h=>hz (Int.natCast_dvd_natCast.2 h);have hl:=hP.little hn;rw [show P-1=k+1 by omega,Nat.pow_succ] at hl;have h3:(iv*z)%P=1:=by rw [hi,Nat.mod_mul_mod];exact hl
 have h4:=(cgM P iv z).swap;rw [h3,Int.mul_comm] at h4;have h5:=(cgM P x iv).trans (hx.mul (Cg.refl (iv:Int)));rw [Int.mul_assoc] at h5;have h6:=h5.trans ((Cg.refl (u:Int)).mul h4);have h7:Cg (P:Int) ((x*iv%P:Nat):Int) (u:Int):=by
  have:((1:Nat):Int)=1:=rfl;rw [this,Int.mul_one] at h6;exact h6
 obtain ⟨q,hq⟩:=h7;have hlt:=Nat.mod_lt (x*iv) (show 0<P by have :=hP.1;omega);generalize x*iv%P=v at *;have h2:q=0:=by
  rcases Int.lt_trichotomy q 0 with h|h|h
  ·have :=Int.mul_le_mul_of_nonneg_left (show q≤ -1 by omega) (show (0:Int)≤P by omega);omega
  ·exact h
  ·have :=Int.mul_le_mul_of_nonneg_left (show 1≤q by omega) (show (0:Int)≤P by omega);omega
 subst h2;omega
theorem RepN.over {p:Pt PP dE} {t:Tri} (r:RepN p t):fM t.1 (ivN t.2.2)=Pt.X p∧fM t.2.1 (ivN t.2.2)=Pt.Y p:=by
 obtain ⟨⟨nz,hx,hy⟩,-,-,-⟩:=r;have hk:pp-2+2=PP:=by decide
 rw [←(Pt.X_is p).1] at hx;rw [←(Pt.Y_is p).1] at hy;exact ⟨over_is pr_P hk rfl nz hx (Pt.X_is p).2,over_is pr_P hk rfl nz hy (Pt.Y_is p).2⟩
theorem Pt.eq_of {p q:Pt PP dE} (hx:Pt.X p=Pt.X q) (hy:Pt.Y p=Pt.Y q):p=q:=by
 refine Pt.same ?_ ?_
 ·rw [←(Pt.X_is p).1,←(Pt.X_is q).1,hx,Int.sub_self];exact ⟨0,(Int.mul_zero _).symm⟩
 ·rw [←(Pt.Y_is p).1,←(Pt.Y_is q).1,hy,Int.sub_self];exact ⟨0,(Int.mul_zero _).symm⟩
end NP
def Te (h s:Nat→Bool) (p q both:Tri):Nat→Tri
 |0=>(0,1,1)
 |j+1=>bif h (255-j) then (bif s (255-j) then Oe (Oe (Te h s p q both j) (Te h s p q both j)) both else Oe (Oe (Te h s p q both j) (Te h s p q both j)) p)
  else (bif s (255-j) then Oe (Oe (Te h s p q both j) (Te h s p q both j)) q else Oe (Te h s p q both j) (Te h s p q both j))
namespace NP
def topN (b:Nat→Bool):Nat→Nat
 |0=>0
 |j+1=>2*topN b j+(b (255-j)).toNat
theorem topN_is {A:Nat} (hA:A<115792089237316195423570985008687907853269984665640564039457584007913129639936) {b:Nat→Bool} (hb:∀i,i<256→b i=decide (A/2^i%2=1)):∀j k,j+k=256→topN b j=A/2^k
 |0,k,h=>by
  obtain rfl:k=256:=by omega
  exact (Nat.div_eq_of_lt (by rw [show (2:Nat)^256=115792089237316195423570985008687907853269984665640564039457584007913129639936 from by decide+kernel];exact hA)).symm
 |j+1,k,h=>by
  have ih:=topN_is hA hb j (k+1) (by omega);rw [Nat.pow_succ,←Nat.div_div_eq_div_mul] at ih;show 2*topN b j+(b (255-j)).toNat=_;rw [ih,show 255-j=k by omega,hb k (by omega)];generalize A/2^k=q;by_cases h1:q%2=1
  ·rw [decide_eq_true h1,Bool.toNat_true];omega
  ·rw [decide_eq_false h1,Bool.toNat_false];omega
theorem mul_two {p:Pt PP dE} (n:Nat):edw.add (edw.mul p n) (edw.mul p n)=edw.mul p (2*n):=by
 rw [←edw.mul_add];congr 1
 omega
theorem four_sum (a b c d:Pt PP dE):edw.add (edw.add a b) (edw.add c d)=edw.add (edw.add a c) (edw.add b d):=by
 rw [edw.add_assoc,←edw.add_assoc b c d,edw.add_comm b c,edw.add_assoc c b d,←edw.add_assoc]
theorem withT_rep {p q:Pt PP dE} {t u v:Tri} (r1:RepN p t) (r2:RepN q u) (r3:RepN (edw.add p q) v) (h s:Nat→Bool):∀j,RepN (edw.add (edw.mul p (topN h j)) (edw.mul q (topN s j))) (Te h s t u v j)
 |0=>by
  show RepN (edw.add edw.zero edw.zero) _;rw [edw.zero_add];exact zeroT_rep
 |j+1=>by
  have ih:=withT_rep r1 r2 r3 h s j;have h2:=sumT_rep ih ih;rw [four_sum,mul_two,mul_two] at h2;show RepN (edw.add (edw.mul p (2*topN h j+(h (255-j)).toNat)) (edw.mul q (2*topN s j+(s (255-j)).toNat))) (bif h (255-j) then (bif s (255-j) then _ else _) else (bif s (255-j) then _ else _));generalize topN h j=m at *;generalize topN s j=n at *;cases h (255-j)<;>cases s (255-j)
  ·exact h2
  ·have h3:=sumT_rep h2 r2;rw [edw.add_assoc] at h3;exact h3
  ·have h3:=sumT_rep h2 r1;rw [edw.add_assoc,edw.add_comm (edw.mul q (2*n)) p,←edw.add_assoc] at h3;exact h3
  ·have h3:=sumT_rep h2 r3;rw [four_sum] at h3;exact h3
theorem withT_all {p q:Pt PP dE} {t u v:Tri} (r1:RepN p t) (r2:RepN q u) (r3:RepN (edw.add p q) v) {A B:Nat} (hA:A<115792089237316195423570985008687907853269984665640564039457584007913129639936) (hB:B<115792089237316195423570985008687907853269984665640564039457584007913129639936) {a b:Nat→Bool} (ha:∀i,i<256→a i=decide (A/2^i%2=1)) (hb:∀i,i<256→b i=decide (B/2^i%2=1)):
 RepN (edw.add (edw.mul p A) (edw.mul q B)) (Te a b t u v 256):=by
 have h:=withT_rep r1 r2 r3 a b 256;rw [topN_is hA ha 256 0 rfl,topN_is hB hb 256 0 rfl,Nat.pow_zero,Nat.div_one,Nat.div_one] at h;exact h
end NP
theorem Id:∀w,(zeroValue 55).run Tryz.prog w=.ok (.agg (Na 15).toArray) w:=(zero_of_info (P:=Tryz.prog) (t:=55) (v:=.agg (Na 15).toArray) (n:=15) (by kernel_rfl)).1
theorem Pb:(Tryz.prog.info? 55).map (·.size)=some 15:=by kernel_rfl
theorem zM (a b c:List Nat) (ha:a.length=5) (hb:b.length=5) (hc:c.length=5) (w:World):(Instr.build 55 #[(0,Aa a),(1,Aa b),(2,Aa c)]).run Tryz.prog w=.ok (Aa (a++b++c)) w:=by
 obtain ⟨a0,a1,a2,a3,a4,rfl⟩:=B4 ha;obtain ⟨b0,b1,b2,b3,b4,rfl⟩:=B4 hb;obtain ⟨c0,c1,c2,c3,c4,rfl⟩:=B4 hc
 kernel_rfl
theorem Qi (g:Nat) (w:World):(Instr.fieldAt 55 (.pointer (some ⟨g,0,none⟩)) 0).run Tryz.prog w=.ok (.pointer (some ⟨g,0,none⟩)) w:=by kernel_rfl
theorem Cl (g:Nat) (w:World):(Instr.fieldAt 55 (.pointer (some ⟨g,0,none⟩)) 1).run Tryz.prog w=.ok (.pointer (some ⟨g,5,none⟩)) w:=by kernel_rfl
theorem Yu (g:Nat) (w:World):(Instr.fieldAt 55 (.pointer (some ⟨g,0,none⟩)) 2).run Tryz.prog w=.ok (.pointer (some ⟨g,10,none⟩)) w:=by kernel_rfl
theorem AS {w:World} {g:Nat} {l:List Nat} {t':TypeId} (hC:Ia w g (l.map Ga) t') (hl:l.length=15):(Instr.loadAt 55 (.pointer (some ⟨g,0,none⟩))).run Tryz.prog w=.ok (Aa l) w:=by
 have h:=run_loadVar_row (P:=Tryz.prog) w g t' 55 (l.map Ga).toArray (0,0) _ hC Tryz.underlying55 rfl (by rw [List.size_toArray,Uaj,hl];exact Pb);simp only [Instr.loadAt,Instr.sureAddr,Sem.run_bind,Sem.run_pure,Result.andThen_ok];exact h
theorem Vl {w:World} {g:Nat} {p x y z:List Nat} {t':TypeId} (hC:Ia w g (p.map Ga) t') (hp:p=x++y++z) (hx:x.length=5):(Instr.loadAt 53 (.pointer (some ⟨g,0,none⟩))).run Tryz.prog w=.ok (Aa x) w:=
 zm hC 0 x (by rw [hp,List.drop_zero,List.append_assoc,List.take_append_of_le_length (by omega),Zaj (by omega)]) hx
theorem Zn {w:World} {g:Nat} {p x y z:List Nat} {t':TypeId} (hC:Ia w g (p.map Ga) t') (hp:p=x++y++z) (hx:x.length=5) (hy:y.length=5):(Instr.loadAt 53 (.pointer (some ⟨g,5,none⟩))).run Tryz.prog w=.ok (Aa y) w:=
 zm hC 5 y (by rw [hp,List.append_assoc,List.drop_append_of_le_length (by omega),List.drop_of_length_le (by omega),List.nil_append,List.take_append_of_le_length (by omega),Zaj (by omega)]) hy
theorem Wz {w:World} {g:Nat} {p x y z:List Nat} {t':TypeId} (hC:Ia w g (p.map Ga) t') (hp:p=x++y++z) (hx:x.length=5) (hy:y.length=5) (hz:z.length=5):(Instr.loadAt 53 (.pointer (some ⟨g,10,none⟩))).run Tryz.prog w=.ok (Aa z) w:=
 zm hC 10 z (by rw [hp,List.drop_append_of_le_length (by rw [qaj];omega),List.drop_of_length_le (by rw [qaj];omega),List.nil_append,Zaj (by omega)]) hz
def Zc (t:Tri):List Nat:=Va t.1++Va t.2.1++Va t.2.2
theorem Jy (t:Tri):(Zc t).length=15:=rfl
theorem LG (w:World):(Instr.build 55 #[]).run Tryz.prog w=.ok (Aa (Zc (0,0,0))) w:=by kernel_rfl
section
variable {P:Program} {w:World} {ops:Array Oper} {rest:List Oper} {o:Oper} {a:Act} {Q:Exit→Act→World→Prop}
theorem Iw (hgd:o.guard=none) (t:TypeId) (x y:Operand) (ho:o.op=.store t x y) (g off n:Nat) (us vs new:List Value) {t':TypeId} (hx:a.eval x=.pointer (some ⟨g,off,none⟩)) (hy:a.eval y=.agg vs.toArray) (hC:Ia w g us t') (hv:off+n≤us.length)
 (hs:(P.info? t).map (·.size)=some n) (hl:vs.length=n) (h1c:vs.toArray.all (·.oneCell')=true) (hnew:Ub us off vs=new) (h:∀w',But g w w'→Ia w' g new t'→w'.heap.size=w.heap.size→wpList P ops Q rest (a.put o.dst undef) w'):wpList P ops Q (o::rest) a w:=by
 have hsz:vs.toArray.size=n:=by rw [List.size_toArray,hl]
 refine wpList_store_mid hgd t x y ho g off vs.toArray hx hy (by rw [hsz];exact hC.there off n hv) (by rw [hsz];exact hs) h1c ?_;have hC2:=hC.setCells (cs:=vs) (o:=off) (by omega);rw [hnew] at hC2;exact h _ ((But.refl g w).setCells _ _) hC2 (Ae _ _ _ _).2.2.2.1
end
theorem DJ (n x y z:List Nat) (h:n.length=x.length):Ub ((x++y++z).map Ga) 0 (n.map Ga)=(n++y++z).map Ga:=by
 rw [Ub,List.take_zero,List.nil_append,Uaj,h,Nat.zero_add,List.append_assoc,List.map_append,List.drop_left' (Uaj _),←List.map_append,List.append_assoc]
theorem MG {P:Program} {t e:TypeId} {n s:Nat} {ik:IntKind} (hu:P.underlying t=some (.array n e)) (hs:(P.info? e).map (·.size)=some s) (g o k:Nat) (hk:k<n) (w:World):
 (Instr.indexAt t (.pointer (some ⟨g,o,none⟩)) (.int ik (k:Int))).run P w=.ok (.pointer (some ⟨g,o+k*s,none⟩)) w:=by
 obtain ⟨i0,hi0,hs0⟩:=Option.map_eq_some_iff.1 hs;have h2:(0:Int)≤(k:Int):=by omega
 simp [Instr.indexAt,asIntOf,underlying,Instr.sureAddr,sizeOf,typeInfo,hu,hi0,hs0,h2,hk,Addr.add,Result.andThen]
theorem Ky {P:Program} {t e:TypeId} {n c s:Nat} {ik:IntKind} (hu:P.underlying t=some (.slice e)) (hs:(P.info? e).map (·.size)=some s) (g o k:Nat) (hk:k<n) (w:World):
 (Instr.indexAt t (.slice (some ⟨g,o,none⟩) n c) (.int ik (k:Int))).run P w=.ok (.pointer (some ⟨g,o+k*s,none⟩)) w:=by
 obtain ⟨i0,hi0,hs0⟩:=Option.map_eq_some_iff.1 hs;have h2:(0:Int)≤(k:Int):=by omega
 simp [Instr.indexAt,asIntOf,underlying,sizeOf,typeInfo,hu,hi0,hs0,h2,hk,Addr.add,Result.andThen]
end Go.Proofs.YtoggkhjaghkpnaaGreatDoor
