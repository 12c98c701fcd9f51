/- Part 13 of what the laws of this seat share: NRep, NBase, NLadder, NMeet, JMath, BMath, UPoint, GRoot, GRooted, UTabs, USmall, UTwice. -/
import Derived.Deep.MidRow
import Derived.Deep.Cut
import Derived.Test.YtoggkhjaghkpnaaGreatDoorPart12
set_option maxRecDepth 100000
set_option maxHeartbeats 8000000
namespace Go.Proofs.YtoggkhjaghkpnaaGreatDoor.NP
def Cg (P a b:Int):Prop:=P∣a-b
theorem Cg.refl {P:Int} (a:Int):Cg P a a:=⟨0,by omega⟩
theorem Cg.add {P a b a' b':Int} (h:Cg P a a') (k:Cg P b b'):Cg P (a+b) (a'+b'):=by
 obtain ⟨u,hu⟩:=h;obtain ⟨v,hv⟩:=k;exact ⟨u+v,by rw [Int.mul_add,←hu,←hv];omega⟩
theorem Cg.sub {P a b a' b':Int} (h:Cg P a a') (k:Cg P b b'):Cg P (a-b) (a'-b'):=by
 obtain ⟨u,hu⟩:=h;obtain ⟨v,hv⟩:=k;exact ⟨u-v,by rw [Int.mul_sub,←hu,←hv];omega⟩
theorem Cg.mul {P a b a' b':Int} (h:Cg P a a') (k:Cg P b b'):Cg P (a*b) (a'*b'):=by
 obtain ⟨u,hu⟩:=h;obtain ⟨v,hv⟩:=k;exact ⟨u*b+a'*v,by grind⟩
theorem Cg.trans {P a b c:Int} (h:Cg P a b) (k:Cg P b c):Cg P a c:=by
 have :=Int.dvd_add h k
 rwa [show a-b+(b-c)=a-c by omega] at this
theorem Cg.dvd {P a b:Int} (h:Cg P a b) (hd:P∣a):P∣b:=by
 have :=Int.dvd_sub hd h
 rwa [show a-(a-b)=b by omega] at this
theorem Cg.least (P a:Int):Cg P (a%P) a:=⟨-(a/P),by have :=Int.mul_ediv_add_emod a P;rw [Int.mul_neg];omega⟩
theorem Cg.swap {P a b:Int} (h:Cg P a b):Cg P b a:=by
 obtain ⟨u,hu⟩:=h;exact ⟨-u,by rw [Int.mul_neg,←hu];omega⟩
structure Rep {P:Nat} {d:Int} (p:Pt P d) (X Y Z:Int):Prop where
 nz:¬(P:Int)∣Z
 hx:Cg P X (p.x*Z)
 hy:Cg P Y (p.y*Z)
theorem Rep.of {P:Nat} {d:Int} {p:Pt P d} {X Y Z X' Y' Z':Int} (h:Rep p X Y Z) (hX:Cg P X' X) (hY:Cg P Y' Y) (hZ:Cg P Z' Z):Rep p X' Y' Z':=
 ⟨fun hd=>h.nz (hZ.dvd hd),(hX.trans h.hx).trans ((Cg.refl _).mul hZ.swap),(hY.trans h.hy).trans ((Cg.refl _).mul hZ.swap)⟩
def sumX (d X1 Y1 Z1 X2 Y2 Z2:Int):Int:=Z1*Z2*(Z1*Z2*(Z1*Z2)-d*(X1*X2)*(Y1*Y2))*((X1+Y1)*(X2+Y2)-X1*X2-Y1*Y2)
def sumY (d X1 Y1 Z1 X2 Y2 Z2:Int):Int:=Z1*Z2*(Z1*Z2*(Z1*Z2)+d*(X1*X2)*(Y1*Y2))*(Y1*Y2+X1*X2)
def sumZ (d X1 Y1 Z1 X2 Y2 Z2:Int):Int:=(Z1*Z2*(Z1*Z2)-d*(X1*X2)*(Y1*Y2))*(Z1*Z2*(Z1*Z2)+d*(X1*X2)*(Y1*Y2))
theorem Rep.add {P:Nat} {d i:Int} (h:Edw P d i) {p q:Pt P d} {X1 Y1 Z1 X2 Y2 Z2:Int} (r1:Rep p X1 Y1 Z1) (r2:Rep q X2 Y2 Z2):Rep (h.add p q) (sumX d X1 Y1 Z1 X2 Y2 Z2) (sumY d X1 Y1 Z1 X2 Y2 Z2) (sumZ d X1 Y1 Z1 X2 Y2 Z2):=by
 obtain ⟨⟨a,ha⟩,⟨b,hb⟩⟩:=h.add_is p q;have hp:=h.plus p.on q.on;have hm:=h.less p.on q.on;obtain ⟨n1,cx1,cy1⟩:=r1;obtain ⟨n2,cx2,cy2⟩:=r2;have cC:=cx1.mul cx2;have cD:=cy1.mul cy2;have cE:=((Cg.refl (P:=P) d).mul cC).mul cD;have cF:=(Cg.refl (P:=P) (Z1*Z2*(Z1*Z2))).sub cE;have cG:=(Cg.refl (P:=P) (Z1*Z2*(Z1*Z2))).add cE;have cS:=(((cx1.add cy1).mul (cx2.add cy2)).sub cC).sub cD;have cW:=Cg.refl (P:=P) (Z1*Z2);have cX:=(cW.mul cF).mul cS;have cY:=(cW.mul cG).mul (cD.add cC);have cZ:=cF.mul cG;obtain ⟨s,hs⟩:∃s,(h.add p q).x=s:=⟨_,rfl⟩;obtain ⟨t,ht⟩:∃t,(h.add p q).y=t:=⟨_,rfl⟩;rw [hs] at ha;rw [ht] at hb;generalize p.x=x1 at *;generalize p.y=y1 at *;generalize q.x=x2 at *;generalize q.y=y2 at *;have eZ:(Z1*Z2*(Z1*Z2)-d*(x1*Z1*(x2*Z2))*(y1*Z1*(y2*Z2)))*(Z1*Z2*(Z1*Z2)+d*(x1*Z1*(x2*Z2))*(y1*Z1*(y2*Z2)))=Z1*Z2*(Z1*Z2)*(Z1*Z2*(Z1*Z2))*((1+d*x1*x2*y1*y2)*(1-d*x1*x2*y1*y2)):=by grind
 have two:∀{x y:Int},¬(P:Int)∣x→¬(P:Int)∣y→¬(P:Int)∣x*y:=fun hx hy hd=>by
  rcases h.prime.int hd with h8|h8
  ·exact hx h8
  ·exact hy h8
 have hW:=two n1 n2;refine ⟨fun hd=>?_,?_,?_⟩
 ·have h9:=cZ.dvd hd;rw [eZ] at h9;exact two (two (two hW hW) (two hW hW)) (two hp hm) h9
 ·rw [hs];refine (cX.trans ?_).trans ((Cg.refl s).mul cZ.swap);exact ⟨-(a*(Z1*Z2*(Z1*Z2))*(Z1*Z2*(Z1*Z2))*(1-d*x1*x2*y1*y2)),by grind⟩
 ·rw [ht];refine (cY.trans ?_).trans ((Cg.refl t).mul cZ.swap);exact ⟨-(b*(Z1*Z2*(Z1*Z2))*(Z1*Z2*(Z1*Z2))*(1+d*x1*x2*y1*y2)),by grind⟩
def addR (P d:Int) (p q:Int×Int×Int):Int×Int×Int:=(sumX d p.1 p.2.1 p.2.2 q.1 q.2.1 q.2.2%P,sumY d p.1 p.2.1 p.2.2 q.1 q.2.1 q.2.2%P,sumZ d p.1 p.2.1 p.2.2 q.1 q.2.1 q.2.2%P)
def mulR (P d:Int) (b:Int×Int×Int):Nat→Nat→Int×Int×Int
 |0,_=>(0,1,1)
 |f+1,n=>bif Nat.beq n 0 then (0,1,1) else bif Nat.beq (n%2) 1 then addR P d (addR P d (mulR P d b f (n/2)) (mulR P d b f (n/2))) b else addR P d (mulR P d b f (n/2)) (mulR P d b f (n/2))
theorem Rep.addR {P:Nat} {d i:Int} (h:Edw P d i) {p q:Pt P d} {u v:Int×Int×Int} (r1:Rep p u.1 u.2.1 u.2.2) (r2:Rep q v.1 v.2.1 v.2.2):Rep (h.add p q) (addR P d u v).1 (addR P d u v).2.1 (addR P d u v).2.2:=
 (Rep.add h r1 r2).of (Cg.least _ _) (Cg.least _ _) (Cg.least _ _)
theorem Rep.zero {P:Nat} {d i:Int} (h:Edw P d i):Rep h.zero 0 1 1:=⟨h.prime.not_one,by show Cg P 0 (0*1);exact Cg.refl _,by show Cg P 1 (1*1);exact Cg.refl _⟩
theorem Rep.mulR {P:Nat} {d i:Int} (h:Edw P d i) {p:Pt P d} {b:Int×Int×Int} (r:Rep p b.1 b.2.1 b.2.2):∀f n,n<2^f→Rep (h.mul p n) (mulR P d b f n).1 (mulR P d b f n).2.1 (mulR P d b f n).2.2
 |0,n,hn=>by
  obtain rfl:n=0:=by simpa using hn
  exact Rep.zero h
 |f+1,n,hn=>by
  rw [Nat.pow_succ] at hn;have ih:=Rep.mulR h r f (n/2) (by omega);have i2:=Rep.addR h ih ih;rw [←h.mul_add] at i2;unfold NP.mulR;by_cases h0:n=0
  ·subst h0;exact Rep.zero h
  ·rw [show Nat.beq n 0=false from Bool.eq_false_iff.2 (fun c=>h0 (Nat.eq_of_beq_eq_true c))];rcases Nat.mod_two_eq_zero_or_one n with h3|h3
   ·rw [h3,cond_false,show Nat.beq 0 1=false from rfl,cond_false];rw [show n/2+n/2=n by omega] at i2;exact i2
   ·rw [h3,cond_false,show Nat.beq 1 1=true from rfl,cond_true];have i3:=Rep.addR h i2 r;have e:h.add (h.mul p (n/2+n/2)) p=h.mul p n:=by
     show h.mul p (n/2+n/2+1)=h.mul p n;rw [show n/2+n/2+1=n by omega]
    rw [e] at i3;exact i3
def bxE:Int:=15112221349535400772501151409588531511454012693041857206046113283949847762202
def byE:Int:=46316835694926478169428394003475163141307993866256225615783033603165251855960
def bE:Pt PP dE where
 x:=bxE
 y:=byE
 on:=by unfold On;decide+kernel
 xl:=by decide+kernel
 yl:=by decide+kernel
theorem bE_rep:Rep bE bxE byE 1:=⟨pr_P.not_one,by show Cg _ bxE (bxE*1);rw [Int.mul_one];exact Cg.refl _,by show Cg _ byE (byE*1);rw [Int.mul_one];exact Cg.refl _⟩
theorem order_run:(mulR PP dE (bxE,byE,1) 253 LL).1=0∧(mulR PP dE (bxE,byE,1) 253 LL).2.1=(mulR PP dE (bxE,byE,1) 253 LL).2.2:=by decide+kernel
theorem order_zero:edw.mul bE LL=edw.zero:=by
 have r:=Rep.mulR edw (b:=(bxE,byE,1)) bE_rep 253 LL (by decide+kernel);obtain ⟨h1,h2⟩:=order_run;rw [h1,h2] at r;generalize (mulR PP dE (bxE,byE,1) 253 LL).2.2=Z at *;generalize edw.mul bE LL=q at *;obtain ⟨nz,⟨a,ha⟩,⟨b,hb⟩⟩:=r;refine Pt.same ?_ ?_
 ·show ((PP:Nat):Int)∣q.x-0;refine (edw.prime.int (show ((PP:Nat):Int)∣(q.x-0)*Z from ⟨-a,?_⟩)).resolve_right nz;rw [Int.mul_neg,←ha,Int.sub_zero];omega
 ·show ((PP:Nat):Int)∣q.y-1;refine (edw.prime.int (show ((PP:Nat):Int)∣(q.y-1)*Z from ⟨-b,?_⟩)).resolve_right nz;rw [Int.mul_neg,←hb,Int.sub_mul];omega
theorem Edw.mul_zero {P:Nat} {d i:Int} (h:Edw P d i):∀n,h.mul h.zero n=h.zero
 |0=>rfl
 |n+1=>by
  show h.add (h.mul h.zero n) h.zero=h.zero;rw [h.mul_zero n,h.zero_add]
theorem base_not_zero:bE≠edw.zero:=fun h=>by
 have h2:bE.x=edw.zero.x:=by rw [h]
 exact absurd (show bxE=0 from h2) (by decide)
theorem mul_over {P:Nat} {d i:Int} (h:Edw P d i) (b:Pt P d) (L n:Nat) (hL:Pr L) (ho:h.mul b L=h.zero) (hb:b≠h.zero) (hn:¬L∣n):h.mul b n≠h.zero:=fun hz=>by
 have h1:=hL.little hn;have h2:=hL.1;obtain ⟨q,hq⟩:∃q,L-1=q+1:=⟨L-2,by omega⟩;rw [hq,Nat.pow_succ,Nat.mul_comm] at h1;have e1:h.mul b (n*n^q)=h.zero:=by rw [←h.mul_mul,hz,h.mul_zero]
 have e2:=Nat.div_add_mod (n*n^q) L;rw [h1] at e2;rw [←e2,h.mul_add,←h.mul_mul,ho,h.mul_zero,h.mul_one,h.zero_add] at e1;exact hb e1
theorem base_mul (n:Nat) (hn:¬LL∣n):edw.mul bE n≠edw.zero:=mul_over edw bE LL n pr_L order_zero base_not_zero hn
structure RepU {P:Nat} {d:Int} (p:Pt P d) (X Z:Int):Prop where
 nz:¬(P:Int)∣X+Z
 hu:Cg P (X-Z) (p.y*(X+Z))
end Go.Proofs.YtoggkhjaghkpnaaGreatDoor.NP
namespace Go.Proofs.YtoggkhjaghkpnaaGreatDoor
open Go.RowKit
def fA (n m:Nat):Nat:=(n+m)%pp
def fS (n m:Nat):Nat:=(n+(pp-m))%pp
def fM (n m:Nat):Nat:=n*m%pp
theorem So (n m:Nat):fA n m<pp:=Nat.mod_lt _ (by decide)
theorem Tp (n m:Nat):fS n m<pp:=Nat.mod_lt _ (by decide)
theorem Lc (n m:Nat):fM n m<pp:=Nat.mod_lt _ (by decide)
def ivN (n:Nat):Nat:=n^(pp-2)%pp
namespace NP
theorem cgA (P n m:Nat):Cg (P:Int) (((n+m)%P:Nat):Int) ((n:Int)+m):=by rw [Int.natCast_emod,Int.natCast_add];exact Cg.least _ _
theorem cgM (P n m:Nat):Cg (P:Int) ((n*m%P:Nat):Int) ((n:Int)*m):=by rw [Int.natCast_emod,Int.natCast_mul];exact Cg.least _ _
theorem cgS (P n m:Nat) (hm:m<P):Cg (P:Int) (((n+(P-m))%P:Nat):Int) ((n:Int)-m):=by
 rw [Int.natCast_emod];refine (Cg.least _ _).trans ⟨1,?_⟩;omega
theorem RepU.of {P:Nat} {d:Int} {p:Pt P d} {X Z X' Z':Int} (r:RepU p X Z) (hX:Cg P X' X) (hZ:Cg P Z' Z):RepU p X' Z':=
 ⟨fun h=>r.nz ((hX.add hZ).dvd h),((hX.sub hZ).trans r.hu).trans ((Cg.refl _).mul (hX.add hZ).swap)⟩
theorem cg_A (n m:Nat):Cg ((PP:Nat):Int) ((fA n m:Nat):Int) ((n:Int)+m):=cgA PP n m
theorem cg_M (n m:Nat):Cg ((PP:Nat):Int) ((fM n m:Nat):Int) ((n:Int)*m):=cgM PP n m
theorem cg_S (n m:Nat) (hm:m<pp):Cg ((PP:Nat):Int) ((fS n m:Nat):Int) ((n:Int)-m):=cgS PP n m hm
end NP
def Ag:Nat:=37095705934669439343138083508754565189542113879843219016388785533085940283555
abbrev Tri:=Nat×Nat×Nat
def Hw (p q:Tri):Nat:=fM p.2.2 q.2.2
def yM (p q:Tri):Nat:=fM (Hw p q) (Hw p q)
def qr (p q:Tri):Nat:=fM p.1 q.1
def As (p q:Tri):Nat:=fM p.2.1 q.2.1
def S4 (p q:Tri):Nat:=fM Ag (fM (qr p q) (As p q))
def Wu (p q:Tri):Nat:=fA (yM p q) (S4 p q)
def Xu (p q:Tri):Nat:=fS (yM p q) (S4 p q)
def Up (p q:Tri):Nat:=fA (fM p.1 q.2.1) (fM q.1 p.2.1)
def Oe (p q:Tri):Tri:=(fM (fM (Hw p q) (Up p q)) (Xu p q),fM (fM (Hw p q) (fA (As p q) (qr p q))) (Wu p q),fM (Wu p q) (Xu p q))
def qd (t:Tri):Prop:=t.1<pp∧t.2.1<pp∧t.2.2<pp
theorem Ul (p q:Tri):qd (Oe p q):=⟨Lc _ _,Lc _ _,Lc _ _⟩
namespace NP
theorem dNat_is:(Ag:Int)=dE:=by decide+kernel
structure RepN (p:Pt PP dE) (t:Tri):Prop where
 rep:Rep p t.1 t.2.1 t.2.2
 lt:qd t
theorem ring_x (X1 Y1 Z1 X2 Y2 Z2 d:Int):Z1*Z2*(X1*Y2+X2*Y1)*(Z1*Z2*(Z1*Z2)-d*(X1*X2*(Y1*Y2)))=sumX d X1 Y1 Z1 X2 Y2 Z2:=by
 unfold sumX
 grind
theorem ring_y (X1 Y1 Z1 X2 Y2 Z2 d:Int):Z1*Z2*(Y1*Y2+X1*X2)*(Z1*Z2*(Z1*Z2)+d*(X1*X2*(Y1*Y2)))=sumY d X1 Y1 Z1 X2 Y2 Z2:=by
 unfold sumY
 grind
theorem ring_z (X1 Y1 Z1 X2 Y2 Z2 d:Int):(Z1*Z2*(Z1*Z2)+d*(X1*X2*(Y1*Y2)))*(Z1*Z2*(Z1*Z2)-d*(X1*X2*(Y1*Y2)))=sumZ d X1 Y1 Z1 X2 Y2 Z2:=by
 unfold sumZ
 grind
theorem sumT_rep {p q:Pt PP dE} {s t:Tri} (r1:RepN p s) (r2:RepN q t):RepN (edw.add p q) (Oe s t):=by
 refine ⟨?_,Ul _ _⟩;have h:=Rep.add edw r1.rep r2.rep;have hz:=cg_M s.2.2 t.2.2;have hzz:=(cg_M (Hw s t) (Hw s t)).trans (hz.mul hz);have hxx:=cg_M s.1 t.1;have hyy:=cg_M s.2.1 t.2.1;have he:=(cg_M Ag _).trans ((Cg.refl (Ag:Int)).mul ((cg_M (qr s t) (As s t)).trans (hxx.mul hyy)));rw [dNat_is] at he;have hm:=(cg_A (yM s t) (S4 s t)).trans (hzz.add he);have hl:=(cg_S (yM s t) (S4 s t) (Lc _ _)).trans (hzz.sub he);have hc:=(cg_A (fM s.1 t.2.1) (fM t.1 s.2.1)).trans ((cg_M s.1 t.2.1).add (cg_M t.1 s.2.1));have hx:=(cg_M (fM (Hw s t) (Up s t)) (Xu s t)).trans (((cg_M (Hw s t) (Up s t)).trans (hz.mul hc)).mul hl);have hy:=(cg_M (fM (Hw s t) (fA (As s t) (qr s t))) (Wu s t)).trans (((cg_M (Hw s t) (fA (As s t) (qr s t))).trans (hz.mul ((cg_A (As s t) (qr s t)).trans (hyy.add hxx)))).mul hm);have hw:=(cg_M (Wu s t) (Xu s t)).trans (hm.mul hl);rw [ring_x] at hx;rw [ring_y] at hy;rw [ring_z] at hw;exact h.of hx hy hw
theorem zeroT_rep:RepN edw.zero (0,1,1):=⟨Rep.zero edw,by show 0<pp;decide,by show 1<pp;decide,by show 1<pp;decide⟩
theorem baseT_rep:RepN bE (15112221349535400772501151409588531511454012693041857206046113283949847762202,46316835694926478169428394003475163141307993866256225615783033603165251855960,1):=⟨bE_rep,by show _<pp;decide,by show _<pp;decide,by show 1<pp;decide⟩
theorem negT_rep {p:Pt PP dE} {t:Tri} (r:RepN p t):RepN p.neg (fS 0 t.1,t.2.1,t.2.2):=by
 obtain ⟨⟨nz,hx,hy⟩,h1,h2,h3⟩:=r;refine ⟨⟨nz,?_,hy⟩,Tp _ _,h2,h3⟩;have h:=(cg_S 0 t.1 h1).trans ((Cg.refl ((0:Nat):Int)).sub hx);refine h.trans ?_;have e:Cg ((PP:Nat):Int) p.neg.x (-p.x):=Cg.least _ _;refine Cg.trans ?_ (e.swap.mul (Cg.refl _));rw [show ((0:Nat):Int)-p.x*(t.2.2:Int)= -p.x*(t.2.2:Int) by rw [Int.neg_mul];omega];exact Cg.refl _
def Pt.X (p:Pt PP dE):Nat:=p.x.toNat
def Pt.Y (p:Pt PP dE):Nat:=p.y.toNat
theorem least_nat {P:Nat} (hP:0<P) {x:Int} (h:x%(P:Int)=x):0≤x∧x<P:=by
 have h1:=Int.emod_nonneg x (show (P:Int)≠0 by omega);have h2:=Int.emod_lt_of_pos x (show (0:Int)<P by omega);omega
theorem Pt.X_is (p:Pt PP dE):((Pt.X p:Nat):Int)=p.x∧Pt.X p<pp:=by
 have h:=least_nat (show 0<PP by decide) p.xl;have h2:p.x<((pp:Nat):Int):=h.2;unfold Pt.X;omega
theorem Pt.Y_is (p:Pt PP dE):((Pt.Y p:Nat):Int)=p.y∧Pt.Y p<pp:=by
 have h:=least_nat (show 0<PP by decide) p.yl;have h2:p.y<((pp:Nat):Int):=h.2;unfold Pt.Y;omega
theorem over_is {P:Nat} (hP:Pr P) {x z k iv u:Nat} (hk:k+2=P) (hi:iv=z^k%P) (hz:¬(P:Int)∣(z:Int)) (hx:Cg P (x:Int) ((u:Int)*z)) (hu:u<P):x*iv%P=u:=by
 have hn:¬P∣z:=fun h=>hz (Int.natCast_dvd_natCast.2 h);have hl:=hP.little hn;rw [show P-1=k+1 by omega,Nat.pow_succ] at hl;have h3:(iv*z)%P=1:=by rw [hi,Nat.mod_mul_mod];exact hl
 have h4:=(cgM P iv z).swap;rw [h3,Int.mul_comm] at h4;have h5:=(cgM P x iv).trans (hx.mul (Cg.refl (iv:Int)));rw [Int.mul_assoc] at h5;have h6:=h5.trans ((Cg.refl (u:Int)).mul h4);have h7:Cg (P:Int) ((x*iv%P:Nat):Int) (u:Int):=by
  have:((1:Nat):Int)=1:=rfl;rw [this,Int.mul_one] at h6;exact h6
 obtain ⟨q,hq⟩:=h7;have hlt:=Nat.mod_lt (x*iv) (show 0<P by have :=hP.1;omega);generalize x*iv%P=v at *;have h2:q=0:=by
  rcases Int.lt_trichotomy q 0 with h|h|h
  ·have :=Int.mul_le_mul_of_nonneg_left (show q≤ -1 by omega) (show (0:Int)≤P by omega);omega
  ·exact h
  ·have :=Int.mul_le_mul_of_nonneg_left (show 1≤q by omega) (show (0:Int)≤P by omega);omega
 subst h2;omega
theorem RepN.over {p:Pt PP dE} {t:Tri} (r:RepN p t):fM t.1 (ivN t.2.2)=Pt.X p∧fM t.2.1 (ivN t.2.2)=Pt.Y p:=by
 obtain ⟨⟨nz,hx,hy⟩,-,-,-⟩:=r;have hk:pp-2+2=PP:=by decide
 rw [←(Pt.X_is p).1] at hx;rw [←(Pt.Y_is p).1] at hy;exact ⟨over_is pr_P hk rfl nz hx (Pt.X_is p).2,over_is pr_P hk rfl nz hy (Pt.Y_is p).2⟩
theorem Pt.eq_of {p q:Pt PP dE} (hx:Pt.X p=Pt.X q) (hy:Pt.Y p=Pt.Y q):p=q:=by
 refine Pt.same ?_ ?_
 ·rw [←(Pt.X_is p).1,←(Pt.X_is q).1,hx,Int.sub_self];exact ⟨0,(Int.mul_zero _).symm⟩
 ·rw [←(Pt.Y_is p).1,←(Pt.Y_is q).1,hy,Int.sub_self];exact ⟨0,(Int.mul_zero _).symm⟩
end NP
def Vp (b:Nat→Bool) (p:Tri):Nat→Tri
 |0=>(0,1,1)
 |j+1=>bif b (255-j) then Oe (Oe (Vp b p j) (Vp b p j)) p else Oe (Vp b p j) (Vp b p j)
namespace NP
def topN (b:Nat→Bool):Nat→Nat
 |0=>0
 |j+1=>2*topN b j+(b (255-j)).toNat
theorem topN_is {A:Nat} (hA:A<115792089237316195423570985008687907853269984665640564039457584007913129639936) {b:Nat→Bool} (hb:∀i,i<256→b i=decide (A/2^i%2=1)):∀j k,j+k=256→topN b j=A/2^k
 |0,k,h=>by
  obtain rfl:k=256:=by omega
  exact (Nat.div_eq_of_lt (by rw [show (2:Nat)^256=115792089237316195423570985008687907853269984665640564039457584007913129639936 from by decide+kernel];exact hA)).symm
 |j+1,k,h=>by
  have ih:=topN_is hA hb j (k+1) (by omega);rw [Nat.pow_succ,←Nat.div_div_eq_div_mul] at ih;show 2*topN b j+(b (255-j)).toNat=_;rw [ih,show 255-j=k by omega,hb k (by omega)];generalize A/2^k=q;by_cases h1:q%2=1
  ·rw [decide_eq_true h1,Bool.toNat_true];omega
  ·rw [decide_eq_false h1,Bool.toNat_false];omega
theorem mul_two {p:Pt PP dE} (n:Nat):edw.add (edw.mul p n) (edw.mul p n)=edw.mul p (2*n):=by
 rw [←edw.mul_add];congr 1
 omega
theorem mulT_rep {p:Pt PP dE} {t:Tri} (r:RepN p t) (b:Nat→Bool):∀j,RepN (edw.mul p (topN b j)) (Vp b t j)
 |0=>zeroT_rep
 |j+1=>by
  have ih:=mulT_rep r b j;have h2:=sumT_rep ih ih;rw [mul_two] at h2;show RepN (edw.mul p (2*topN b j+(b (255-j)).toNat)) (bif b (255-j) then _ else _);cases b (255-j)
  ·exact h2
  ·exact sumT_rep h2 r
theorem four_sum (a b c d:Pt PP dE):edw.add (edw.add a b) (edw.add c d)=edw.add (edw.add a c) (edw.add b d):=by
 rw [edw.add_assoc,←edw.add_assoc b c d,edw.add_comm b c,edw.add_assoc c b d,←edw.add_assoc]
theorem mulT_all {p:Pt PP dE} {t:Tri} (r:RepN p t) {A:Nat} (hA:A<115792089237316195423570985008687907853269984665640564039457584007913129639936) {b:Nat→Bool} (hb:∀i,i<256→b i=decide (A/2^i%2=1)):RepN (edw.mul p A) (Vp b t 256):=by
 have h:=mulT_rep r b 256;rw [topN_is hA hb 256 0 rfl,Nat.pow_zero,Nat.div_one] at h;exact h
end NP
theorem Id:∀w,(zeroValue 55).run Tryz.prog w=.ok (.agg (Na 15).toArray) w:=(zero_of_info (P:=Tryz.prog) (t:=55) (v:=.agg (Na 15).toArray) (n:=15) (by kernel_rfl)).1
theorem Pb:(Tryz.prog.info? 55).map (·.size)=some 15:=by kernel_rfl
theorem zM (a b c:List Nat) (ha:a.length=5) (hb:b.length=5) (hc:c.length=5) (w:World):(Instr.build 55 #[(0,Aa a),(1,Aa b),(2,Aa c)]).run Tryz.prog w=.ok (Aa (a++b++c)) w:=by
 obtain ⟨a0,a1,a2,a3,a4,rfl⟩:=B4 ha;obtain ⟨b0,b1,b2,b3,b4,rfl⟩:=B4 hb;obtain ⟨c0,c1,c2,c3,c4,rfl⟩:=B4 hc
 kernel_rfl
theorem Qi (g:Nat) (w:World):(Instr.fieldAt 55 (.pointer (some ⟨g,0,none⟩)) 0).run Tryz.prog w=.ok (.pointer (some ⟨g,0,none⟩)) w:=by kernel_rfl
theorem Cl (g:Nat) (w:World):(Instr.fieldAt 55 (.pointer (some ⟨g,0,none⟩)) 1).run Tryz.prog w=.ok (.pointer (some ⟨g,5,none⟩)) w:=by kernel_rfl
theorem Yu (g:Nat) (w:World):(Instr.fieldAt 55 (.pointer (some ⟨g,0,none⟩)) 2).run Tryz.prog w=.ok (.pointer (some ⟨g,10,none⟩)) w:=by kernel_rfl
theorem AS {w:World} {g:Nat} {l:List Nat} {t':TypeId} (hC:Ia w g (l.map Ga) t') (hl:l.length=15):(Instr.loadAt 55 (.pointer (some ⟨g,0,none⟩))).run Tryz.prog w=.ok (Aa l) w:=by
 have h:=run_loadVar_row (P:=Tryz.prog) w g t' 55 (l.map Ga).toArray (0,0) _ hC Tryz.underlying55 rfl (by rw [List.size_toArray,Uaj,hl];exact Pb);simp only [Instr.loadAt,Instr.sureAddr,Sem.run_bind,Sem.run_pure,Result.andThen_ok];exact h
theorem Vl {w:World} {g:Nat} {p x y z:List Nat} {t':TypeId} (hC:Ia w g (p.map Ga) t') (hp:p=x++y++z) (hx:x.length=5):(Instr.loadAt 53 (.pointer (some ⟨g,0,none⟩))).run Tryz.prog w=.ok (Aa x) w:=
 zm hC 0 x (by rw [hp,List.drop_zero,List.append_assoc,List.take_append_of_le_length (by omega),Zaj (by omega)]) hx
theorem Zn {w:World} {g:Nat} {p x y z:List Nat} {t':TypeId} (hC:Ia w g (p.map Ga) t') (hp:p=x++y++z) (hx:x.length=5) (hy:y.length=5):(Instr.loadAt 53 (.pointer (some ⟨g,5,none⟩))).run Tryz.prog w=.ok (Aa y) w:=
 zm hC 5 y (by rw [hp,List.append_assoc,List.drop_append_of_le_length (by omega),List.drop_of_length_le (by omega),List.nil_append,List.take_append_of_le_length (by omega),Zaj (by omega)]) hy
theorem Wz {w:World} {g:Nat} {p x y z:List Nat} {t':TypeId} (hC:Ia w g (p.map Ga) t') (hp:p=x++y++z) (hx:x.length=5) (hy:y.length=5) (hz:z.length=5):(Instr.loadAt 53 (.pointer (some ⟨g,10,none⟩))).run Tryz.prog w=.ok (Aa z) w:=
 zm hC 10 z (by rw [hp,List.drop_append_of_le_length (by rw [qaj];omega),List.drop_of_length_le (by rw [qaj];omega),List.nil_append,Zaj (by omega)]) hz
def Zc (t:Tri):List Nat:=Va t.1++Va t.2.1++Va t.2.2
theorem Jy (t:Tri):(Zc t).length=15:=rfl
theorem LG (w:World):(Instr.build 55 #[]).run Tryz.prog w=.ok (Aa (Zc (0,0,0))) w:=by kernel_rfl
section
variable {P:Program} {w:World} {ops:Array Oper} {rest:List Oper} {o:Oper} {a:Act} {Q:Exit→Act→World→Prop}
theorem Iw (hgd:o.guard=none) (t:TypeId) (x y:Operand) (ho:o.op=.store t x y) (g off n:Nat) (us vs new:List Value) {t':TypeId} (hx:a.eval x=.pointer (some ⟨g,off,none⟩)) (hy:a.eval y=.agg vs.toArray) (hC:Ia w g us t') (hv:off+n≤us.length)
 (hs:(P.info? t).map (·.size)=some n) (hl:vs.length=n) (h1c:vs.toArray.all (·.oneCell')=true) (hnew:Ub us off vs=new) (h:∀w',But g w w'→Ia w' g new t'→w'.heap.size=w.heap.size→wpList P ops Q rest (a.put o.dst undef) w'):wpList P ops Q (o::rest) a w:=by
 have hsz:vs.toArray.size=n:=by rw [List.size_toArray,hl]
 refine wpList_store_mid hgd t x y ho g off vs.toArray hx hy (by rw [hsz];exact hC.there off n hv) (by rw [hsz];exact hs) h1c ?_;have hC2:=hC.setCells (cs:=vs) (o:=off) (by omega);rw [hnew] at hC2;exact h _ ((But.refl g w).setCells _ _) hC2 (Ae _ _ _ _).2.2.2.1
end
theorem DJ (n x y z:List Nat) (h:n.length=x.length):Ub ((x++y++z).map Ga) 0 (n.map Ga)=(n++y++z).map Ga:=by
 rw [Ub,List.take_zero,List.nil_append,Uaj,h,Nat.zero_add,List.append_assoc,List.map_append,List.drop_left' (Uaj _),←List.map_append,List.append_assoc]
theorem MG {P:Program} {t e:TypeId} {n s:Nat} {ik:IntKind} (hu:P.underlying t=some (.array n e)) (hs:(P.info? e).map (·.size)=some s) (g o k:Nat) (hk:k<n) (w:World):
 (Instr.indexAt t (.pointer (some ⟨g,o,none⟩)) (.int ik (k:Int))).run P w=.ok (.pointer (some ⟨g,o+k*s,none⟩)) w:=by
 obtain ⟨i0,hi0,hs0⟩:=Option.map_eq_some_iff.1 hs;have h2:(0:Int)≤(k:Int):=by omega
 simp [Instr.indexAt,asIntOf,underlying,Instr.sureAddr,sizeOf,typeInfo,hu,hi0,hs0,h2,hk,Addr.add,Result.andThen]
theorem Ky {P:Program} {t e:TypeId} {n c s:Nat} {ik:IntKind} (hu:P.underlying t=some (.slice e)) (hs:(P.info? e).map (·.size)=some s) (g o k:Nat) (hk:k<n) (w:World):
 (Instr.indexAt t (.slice (some ⟨g,o,none⟩) n c) (.int ik (k:Int))).run P w=.ok (.pointer (some ⟨g,o+k*s,none⟩)) w:=by
 obtain ⟨i0,hi0,hs0⟩:=Option.map_eq_some_iff.1 hs;have h2:(0:Int)≤(k:Int):=by omega
 simp [Instr.indexAt,asIntOf,underlying,sizeOf,typeInfo,hu,hi0,hs0,h2,hk,Addr.add,Result.andThen]
end Go.Proofs.YtoggkhjaghkpnaaGreatDoor
namespace Go.Proofs.YtoggkhjaghkpnaaGreatDoor
open Go.RowKit
theorem T4 (k:Nat) (hk:k+1=7237005577332262213973186563042994240829374041602535252466099000494570602494) (n:Nat):rtN n=NP.rt pp k ttN n:=by
 have e:∀q,pwN n q=n^q%pp:=fun _=>rfl;rw [NP.rt,hk,rtN,e]
theorem AV (k:Nat) (hk:k+1=7237005577332262213973186563042994240829374041602535252466099000494570602494) (n:Nat):Fj n=NP.isS pp k ttN n:=by
 rw [Fj,NP.isS,T4 k hk]
theorem Zu:((pp:Nat):Int)∣((ttN:Nat):Int)*ttN+1:=by decide+kernel
def xg (n:Nat):Nat:=if Fj n=true then Ym (rtN n) else 0
theorem xu (n:Nat):xg n<pp:=by
 rw [xg]
 split
 ·rw [Ym]
  split
  ·exact Nat.mod_lt _ (by decide)
  ·exact OI n
 ·decide
theorem qX (n:Nat) (w:World) (hn:n<pp) (hU:Tab w 10 ((Va ttN).map Ga)):
 Calls Tryz.prog 102 #[elV n] w (gvn (.tuple #[elV (xg n),.bool (Fj n)]) w):=by
 refine (J2 n w hn hU).mono fun e w' ⟨h1,h2⟩=>?_;cases h:Fj n
 ·rw [xg,if_neg (by rw [h];decide)];exact h2 h
 ·rw [xg,if_pos h];exact h1 h
def Md (E:Value) (w:World):Prop:=Tab w 9 ((Va Ag).map Ga)∧Tab w 4 ((Va Dk).map Ga)∧Tab w 5 ((Va Ck).map Ga)∧Tab w 10 ((Va ttN).map Ga)∧w.cell? ⟨1,0,none⟩=some E
theorem Md.below {E:Value} {w w':World} (h:Md E w) (hb:Below w.heap.size w w'):Md E w':=
 ⟨h.1.on hb,h.2.1.on hb,h.2.2.1.on hb,h.2.2.2.1.on hb,(hb.cell (block_lt_of_cell h.2.2.2.2)).trans h.2.2.2.2⟩
theorem JC (E:Value) (w:World) (h:Md E w):Calls Tryz.prog 100 #[] w (gvn (Aa (Va Ag)) w):=LR _ w rfl h.1 (Vm Ag)
theorem GS (E:Value) (w:World) (h:Md E w):Calls Tryz.prog 86 #[] w (gvn (Aa (Va Dk)) w):=MR _ w rfl h.2.1 (Vm Dk)
theorem IS (E:Value) (w:World) (h:Md E w):Calls Tryz.prog 87 #[] w (gvn (Aa (Va Ck)) w):=NR _ w rfl h.2.2.1 (Vm Ck)
theorem KC (w:World):Calls Tryz.prog 98 #[.int .i64 1] w (gvn (Aa (Va 1)) w):=by
 have h:=KR 1 w (by decide) (by decide);rw [show Tn 1=1 by decide+kernel] at h;exact h
def JS (x:List Nat) (y:List Nat) (g_base:Nat) (gy:Nat) (gr:Nat) (o:List Nat) (n:List Nat):List Value:=
 (Aa x)::(Aa y)::ptr g_base::ptr gy::ptr gr::(Aa x)::(Aa y)::(Aa o)::(Aa n)::[]
theorem V4 (x y o n:List Nat) (w:World)
 (Hx:Hid (x.length=5))
 (Hy:Hid (y.length=5))
 (Hn:Hid (n.length=15))
 (CS:Hid (∀W,Calls Tryz.prog 98 #[.int .i64 1] W (gvn (Aa o) W)))
 (BN:∀w,(Instr.build 55 #[(0,Aa x),(1,Aa y),(2,Aa o)]).run Tryz.prog w=.ok (Aa n) w):
 Calls Tryz.prog 58 #[Aa x,Aa y] w (gvn (Aa n) w):=by
 go_enter Tryz.func58,Tryz.ntmps58;go_wp2_with (first
  |(refine Ra rfl 53 (.tmp 0) rfl (x.map Ga) rfl ?_
    intro w1 hb1 hvx1;have hB1:=hb1;have hgex:w.heap.size≤w.heap.size:=Xaj _;clear hb1;try simp only [La]
    skip)
  |(refine Ra rfl 53 (.tmp 1) rfl (y.map Ga) rfl ?_
    intro w2 hb2 hvy2;have hB2:=Ba hB1 hb2;have hgey:w.heap.size≤w1.heap.size:=hB1.size;have hvx2:=hvx1.on hb2;have hnexy:=Vaj hvx1.lt;clear hB1 hvx1 hb2;try simp only [La]
    skip)
  |(refine Ma (o:=⟨some 4,_,_,_,_,_⟩) rfl 55 rfl (Na 15) Id ?_
    intro w3 hb3 hvr3;have hB3:=Ba hB2 hb3;have hger:w.heap.size≤w2.heap.size:=hB2.size;have hvx3:=hvx2.on hb3;have hnexr:=Vaj hvx2.lt;have hvy3:=hvy2.on hb3;have hneyr:=Vaj hvy2.lt;clear hB2 hvx2 hvy2 hb3;try simp only [La]
    skip))
 generalize hqy:w1.heap.size=gy at *;clear hqy;generalize hqr:w2.heap.size=gr at *;clear hqr;replace hvx3:=hvx3.drew;replace hvy3:=hvy3.drew;replace hvr3:=hvr3.drew;refine wp_region_any (by kernel_rfl) ?_;refine Ya (L:=[0,1,2,3]) (by kernel_rfl) _ _ (JS x y w.heap.size gy gr o n) [] 53 (Na 5) [0,1,2,3,4] (by kernel_rfl) (by kernel_rfl) ?_ Fb ?_ (by rfl) ?_ 1 (by kernel_rfl) ?_
 ·intro p hp;exact absurd hp List.not_mem_nil
 ·repeat refine Aak rfl ?_
  exact Qa
 ·refine Aak (.inr (mL 5 rfl fun w hb=>Gb (hvx3.on hb) Hx.out)) ?_;refine Aak (.inr (mL 6 rfl fun w hb=>Gb (hvy3.on hb) Hy.out)) ?_;refine Aak (.inr (mC 7 rfl Tryz.func98 fun w hb=>CS.out w)) ?_;refine Aak (.inr (mU 8 rfl BN)) ?_;exact Qa
 intro w4 g hb4 hN4 hap4;clear hN4 hap4;have hB4:=Ba (show Below w.heap.size w w3.drew from hB3.drew) hb4;have hvx4:=hvx3.on hb4;have hvy4:=hvy3.on hb4;have hvr4:=hvr3.on hb4;clear hB3 hvx3 hvy3 hvr3 hb4;refine Bb 4 rfl (by kernel_rfl) ?_;refine Ka rfl 55 (.tmp 4) (.tmp 8) rfl gr 15 (Na 15) (n.map Ga) rfl rfl hvr4 rfl Pb (by rw [Uaj,Hn.out]) (Oa _) ?_;intro w5 hb5 hvr5 hz5;have hB5:Below w.heap.size w w5:=hB4.trans (hb5.below hger hB4.size);have hvx5:=hvx4.but hb5 hnexr;have hvy5:=hvy4.but hb5 hneyr;clear hB4 hvr4 hb5 hz5 hvx4 hvy4;rename_i K hKK;show Exit.then K _ Exit.normal (⟨(JS x y w.heap.size gy gr o n).toArray,[]⟩:Act) w5;simp only [Exit.then];refine hKK _ _ ?_;clear hKK K g;simp only [JS,ptr]
 go_wp2
 exact qc Tryz.results58 gr (n.map Ga) rfl hvr5 Tryz.underlying55 rfl Pb (by rw [Uaj,Hn.out]) rfl ⟨rfl,hB5⟩
def LC (g_base:Nat) (z:List Nat) (o:List Nat) (r:List Nat):List Value:=
 ptr g_base::(Aa z)::(Aa o)::(Aa r)::[]
theorem KS (z o r:List Nat) (w:World)
 (Hr:Hid (r.length=15))
 (CS:Hid (∀W,Calls Tryz.prog 98 #[.int .i64 1] W (gvn (Aa o) W)))
 (CA:Hid (∀W,Calls Tryz.prog 58 #[Aa z,Aa o] W (gvn (Aa r) W)))
 (BZ:∀w,(Instr.build 53 #[]).run Tryz.prog w=.ok (Aa z) w):
 Calls Tryz.prog 105 #[] w (gvn (Aa r) w):=by
 go_enter Tryz.func105,Tryz.ntmps105
 go_upto_region 1 with (first
  |(refine Ma (o:=⟨some 0,_,_,_,_,_⟩) rfl 55 rfl (Na 15) Id ?_
    intro w1 hb1 hvr1;have hB1:=hb1;have hger:w.heap.size≤w.heap.size:=Xaj _;clear hb1;try simp only [Act.put,List.setIfInBounds_toArray,List.set_cons_zero]
    skip))
 refine Mb (md:=.any) (by kernel_rfl) ?_;refine Ya (L:=[0,1,2]) (by kernel_rfl) _ _ (LC w.heap.size z o r) [] 55 (Na 15) [0] (by kernel_rfl) (by kernel_rfl) ?_ Id ?_ (by rfl) ?_ 1 (by kernel_rfl) ?_
 ·intro p hp;exact absurd hp List.not_mem_nil
 ·exact Aak rfl (Qa)
 ·refine Aak (.inr (mU 1 rfl BZ)) ?_;refine Aak (.inr (mC 2 rfl Tryz.func98 fun w hb=>CS.out w)) ?_;refine Aak (.inr (mC 3 rfl Tryz.func58 fun w hb=>CA.out w)) ?_;exact Qa
 intro w2 g hb2 hN2 hap2;clear hN2 hap2;have hB2:=Ba hB1 hb2;have hvr2:=hvr1.on hb2;clear hB1 hvr1 hb2;refine Bb 3 rfl (by kernel_rfl) ?_;refine Ka rfl 55 (.tmp 0) (.tmp 3) rfl w.heap.size 15 (Na 15) (r.map Ga) rfl rfl hvr2 rfl Pb (by rw [Uaj,Hr.out]) (Oa _) ?_;intro w3 hb3 hvr3 hz3;have hB3:Below w.heap.size w w3:=hB2.trans (hb3.below hger hB2.size);clear hB2 hvr2 hb3 hz3;rename_i K hKK;show Exit.then K _ Exit.normal (⟨(LC w.heap.size z o r).toArray,[]⟩:Act) w3;simp only [Exit.then];refine hKK _ _ ?_;clear hKK K g;simp only [LC,ptr]
 go_wp2
 exact qc Tryz.results105 (w.heap.size) (r.map Ga) rfl hvr3 Tryz.underlying55 rfl Pb (by rw [Uaj,Hr.out]) rfl ⟨rfl,hB3⟩
theorem LS (x y r:List Nat) (E:Value) (w:World)
 (Hr:Hid (r.length=15))
 (CX:Hid (∀W,Md E W→Calls Tryz.prog 86 #[] W (gvn (Aa x) W)))
 (CY:Hid (∀W,Md E W→Calls Tryz.prog 87 #[] W (gvn (Aa y) W)))
 (CA:Hid (∀W,Calls Tryz.prog 58 #[Aa x,Aa y] W (gvn (Aa r) W)))
 (hS:Md E w):
 Calls Tryz.prog 40 #[] w (gvn (Aa r) w):=by
 go_enter Tryz.func40,Tryz.ntmps40;go_wp2_with (first
  |(refine Ma (o:=⟨some 0,_,_,_,_,_⟩) rfl 55 rfl (Na 15) Id ?_
    intro w1 hb1 hvr1;have hB1:=hb1;have hger:w.heap.size≤w.heap.size:=Xaj _;clear hb1;try simp only [Act.put,List.setIfInBounds_toArray,List.set_cons_zero]
    skip))
 refine (CX.out w1 (hS.below hB1)).mono ?_;rintro e w2 ⟨rfl,hb2⟩;have hB2:=Ba hB1 hb2;have hvr2:=hvr1.on hb2;clear hB1 hvr1 hb2;go_wp2_with fail
 refine (CY.out w2 (hS.below hB2)).mono ?_;rintro e w3 ⟨rfl,hb3⟩;have hB3:=Ba hB2 hb3;have hvr3:=hvr2.on hb3;clear hB2 hvr2 hb3;go_wp2_with fail
 refine (CA.out w3).mono ?_;rintro e w4 ⟨rfl,hb4⟩;have hB4:=Ba hB3 hb4;have hvr4:=hvr3.on hb4;clear hB3 hvr3 hb4;go_wp2_with (first
  |(refine Ka rfl 55 (.tmp 0) (.tmp 3) rfl w.heap.size 15 (Na 15) (r.map Ga) rfl rfl hvr4 rfl Pb (by rw [Uaj,Hr.out]) (Oa _) ?_
    intro w5 hb5 hvr5 hz5;have hB5:Below w.heap.size w w5:=hB4.trans (hb5.below hger hB4.size);clear hB4 hvr4 hb5 hz5;skip))
 exact qc Tryz.results40 (w.heap.size) (r.map Ga) rfl hvr5 Tryz.underlying55 rfl Pb (by rw [Uaj,Hr.out]) rfl ⟨rfl,hB5⟩
def GJ (la:List Nat) (lb:List Nat) (lc:List Nat) (ld:List Nat) (g_base:Nat) (gb:Nat) (gc:Nat) (gd:Nat) (gr:Nat) (ad:List Nat) (cb:List Nat) (bd:List Nat) (r:List Nat):List Value:=
 (Aa la)::(Aa lb)::(Aa lc)::(Aa ld)::ptr g_base::ptr gb::ptr gc::ptr gd::ptr gr::(Aa la)::(Aa ld)::(Aa ad)::(Aa lc)::(Aa lb)::(Aa cb)::(Aa lb)::(Aa ld)::(Aa bd)::(Aa r)::[]
theorem AY (la lb lc ld ad cb bd r:List Nat) (w:World)
 (Hla:Hid (la.length=5))
 (Hlb:Hid (lb.length=5))
 (Hlc:Hid (lc.length=5))
 (Hld:Hid (ld.length=5))
 (Hr:Hid (r.length=15))
 (C1:Hid (∀W,Calls Tryz.prog 63 #[Aa la,Aa ld] W (gvn (Aa ad) W)))
 (C2:Hid (∀W,Calls Tryz.prog 63 #[Aa lc,Aa lb] W (gvn (Aa cb) W)))
 (C3:Hid (∀W,Calls Tryz.prog 63 #[Aa lb,Aa ld] W (gvn (Aa bd) W)))
 (BR:∀w,(Instr.build 55 #[(0,Aa ad),(1,Aa cb),(2,Aa bd)]).run Tryz.prog w=.ok (Aa r) w):
 Calls Tryz.prog 132 #[Aa la,Aa lb,Aa lc,Aa ld] w (gvn (Aa r) w):=by
 go_enter Tryz.func132,Tryz.ntmps132;go_wp2_with (first
  |(refine Ra rfl 53 (.tmp 0) rfl (la.map Ga) rfl ?_
    intro w1 hb1 hva1;have hB1:=hb1;have hgea:w.heap.size≤w.heap.size:=Xaj _;clear hb1;try simp only [La]
    skip)
  |(refine Ra rfl 53 (.tmp 1) rfl (lb.map Ga) rfl ?_
    intro w2 hb2 hvb2;have hB2:=Ba hB1 hb2;have hgeb:w.heap.size≤w1.heap.size:=hB1.size;have hva2:=hva1.on hb2;have hneab:=Vaj hva1.lt;clear hB1 hva1 hb2;try simp only [La]
    skip)
  |(refine Ra rfl 53 (.tmp 2) rfl (lc.map Ga) rfl ?_
    intro w3 hb3 hvc3;have hB3:=Ba hB2 hb3;have hgec:w.heap.size≤w2.heap.size:=hB2.size;have hva3:=hva2.on hb3;have hneac:=Vaj hva2.lt;have hvb3:=hvb2.on hb3;have hnebc:=Vaj hvb2.lt;clear hB2 hva2 hvb2 hb3;try simp only [La]
    skip)
  |(refine Ra rfl 53 (.tmp 3) rfl (ld.map Ga) rfl ?_
    intro w4 hb4 hvd4;have hB4:=Ba hB3 hb4;have hged:w.heap.size≤w3.heap.size:=hB3.size;have hva4:=hva3.on hb4;have hnead:=Vaj hva3.lt;have hvb4:=hvb3.on hb4;have hnebd:=Vaj hvb3.lt;have hvc4:=hvc3.on hb4;have hnecd:=Vaj hvc3.lt;clear hB3 hva3 hvb3 hvc3 hb4;try simp only [La]
    skip)
  |(refine Ma (o:=⟨some 8,_,_,_,_,_⟩) rfl 55 rfl (Na 15) Id ?_
    intro w5 hb5 hvr5;have hB5:=Ba hB4 hb5;have hger:w.heap.size≤w4.heap.size:=hB4.size;have hva5:=hva4.on hb5;have hnear:=Vaj hva4.lt;have hvb5:=hvb4.on hb5;have hnebr:=Vaj hvb4.lt;have hvc5:=hvc4.on hb5;have hnecr:=Vaj hvc4.lt;have hvd5:=hvd4.on hb5;have hnedr:=Vaj hvd4.lt;clear hB4 hva4 hvb4 hvc4 hvd4 hb5;try simp only [La]
    skip))
 generalize hqb:w1.heap.size=gb at *;clear hqb;generalize hqc:w2.heap.size=gc at *;clear hqc;generalize hqd:w3.heap.size=gd at *;clear hqd;generalize hqr:w4.heap.size=gr at *;clear hqr;replace hva5:=hva5.drew;replace hvb5:=hvb5.drew;replace hvc5:=hvc5.drew;replace hvd5:=hvd5.drew;replace hvr5:=hvr5.drew;refine wp_region_any (by kernel_rfl) ?_;refine Ya (L:=[0,1,2,3,4,5,6,7,8,9]) (by kernel_rfl) _ _ (GJ la lb lc ld w.heap.size gb gc gd gr ad cb bd r) [] 53 (Na 5) [0,1,2,3,4,5,6,7,8] (by kernel_rfl) (by kernel_rfl) ?_ Fb ?_ (by rfl) ?_ 1 (by kernel_rfl) ?_
 ·intro p hp;exact absurd hp List.not_mem_nil
 ·repeat refine Aak rfl ?_
  exact Qa
 ·refine Aak (.inr (mL 9 rfl fun w hb=>Gb (hva5.on hb) Hla.out)) ?_;refine Aak (.inr (mL 10 rfl fun w hb=>Gb (hvd5.on hb) Hld.out)) ?_;refine Aak (.inr (mC 11 rfl Tryz.func63 fun w hb=>C1.out w)) ?_;refine Aak (.inr (mL 12 rfl fun w hb=>Gb (hvc5.on hb) Hlc.out)) ?_;refine Aak (.inr (mL 13 rfl fun w hb=>Gb (hvb5.on hb) Hlb.out)) ?_;refine Aak (.inr (mC 14 rfl Tryz.func63 fun w hb=>C2.out w)) ?_;refine Aak (.inr (mL 15 rfl fun w hb=>Gb (hvb5.on hb) Hlb.out)) ?_;refine Aak (.inr (mL 16 rfl fun w hb=>Gb (hvd5.on hb) Hld.out)) ?_;refine Aak (.inr (mC 17 rfl Tryz.func63 fun w hb=>C3.out w)) ?_;refine Aak (.inr (mU 18 rfl BR)) ?_;exact Qa
 intro w6 g hb6 hN6 hap6;clear hN6 hap6;have hB6:=Ba (show Below w.heap.size w w5.drew from hB5.drew) hb6;have hva6:=hva5.on hb6;have hvb6:=hvb5.on hb6;have hvc6:=hvc5.on hb6;have hvd6:=hvd5.on hb6;have hvr6:=hvr5.on hb6;clear hB5 hva5 hvb5 hvc5 hvd5 hvr5 hb6;refine Bb 10 rfl (by kernel_rfl) ?_;refine Ka rfl 55 (.tmp 8) (.tmp 18) rfl gr 15 (Na 15) (r.map Ga) rfl rfl hvr6 rfl Pb (by rw [Uaj,Hr.out]) (Oa _) ?_;intro w7 hb7 hvr7 hz7;have hB7:Below w.heap.size w w7:=hB6.trans (hb7.below hger hB6.size);have hva7:=hva6.but hb7 hnear;have hvb7:=hvb6.but hb7 hnebr;have hvc7:=hvc6.but hb7 hnecr;have hvd7:=hvd6.but hb7 hnedr;clear hB6 hvr6 hb7 hz7 hva6 hvb6 hvc6 hvd6;rename_i K hKK;show Exit.then K _ Exit.normal (⟨(GJ la lb lc ld w.heap.size gb gc gd gr ad cb bd r).toArray,[]⟩:Act) w7;simp only [Exit.then];refine hKK _ _ ?_;clear hKK K g;simp only [GJ,ptr]
 go_wp2
 exact qc Tryz.results132 gr (r.map Ga) rfl hvr7 Tryz.underlying55 rfl Pb (by rw [Uaj,Hr.out]) rfl ⟨rfl,hB7⟩
def W4 (p:List Nat) (g_base:Nat) (gr:Nat) (px:List Nat) (xx:List Nat) (py:List Nat) (yy:List Nat) (pz:List Nat) (zz:List Nat):List Value:=
 (Aa p)::ptr g_base::ptr gr::ud 5 (ptr g_base::(Aa px)::(Aa xx)::(.pointer (some ⟨g_base,5,none⟩))::(Aa py)::(Aa yy)::(.pointer (some ⟨g_base,10,none⟩))::(Aa pz)::(Aa zz)::ud 21 [])
def IJ (p:List Nat) (g_base:Nat) (gr:Nat) (px:List Nat) (xx:List Nat) (py:List Nat) (yy:List Nat) (pz:List Nat) (zz:List Nat) (n3 n4 n5:Nat):List Value:=
 (Aa p)::ptr g_base::ptr gr::ptr n3::ptr n4::ptr n5::undef::undef::ptr g_base::(Aa px)::(Aa xx)::(.pointer (some ⟨g_base,5,none⟩))::(Aa py)::(Aa yy)::(.pointer (some ⟨g_base,10,none⟩))::(Aa pz)::(Aa zz)::ud 21 []
def GN (p:List Nat) (g_base:Nat) (gr:Nat) (gx:Nat) (gy:Nat) (gz:Nat) (px:List Nat) (xx:List Nat) (py:List Nat) (yy:List Nat) (pz:List Nat) (zz:List Nat) (xy:List Nat):List Value:=
 (Aa p)::ptr g_base::ptr gr::ptr gx::ptr gy::ptr gz::undef::undef::ptr g_base::(Aa px)::(Aa xx)::(.pointer (some ⟨g_base,5,none⟩))::(Aa py)::(Aa yy)::(.pointer (some ⟨g_base,10,none⟩))::(Aa pz)::(Aa zz)::ptr g_base::(Aa px)::(.pointer (some ⟨g_base,5,none⟩))::(Aa py)::(Aa xy)::ud 16 []
def Nw (p:List Nat) (g_base:Nat) (gr:Nat) (gx:Nat) (gy:Nat) (gz:Nat) (px:List Nat) (xx:List Nat) (py:List Nat) (yy:List Nat) (pz:List Nat) (zz:List Nat) (xy:List Nat) (n6:Nat):List Value:=
 (Aa p)::ptr g_base::ptr gr::ptr gx::ptr gy::ptr gz::ptr n6::undef::ptr g_base::(Aa px)::(Aa xx)::(.pointer (some ⟨g_base,5,none⟩))::(Aa py)::(Aa yy)::(.pointer (some ⟨g_base,10,none⟩))::(Aa pz)::(Aa zz)::ptr g_base::(Aa px)::(.pointer (some ⟨g_base,5,none⟩))::(Aa py)::(Aa xy)::ud 16 []
def NC (p:List Nat) (g_base:Nat) (gr:Nat) (gx:Nat) (gy:Nat) (gz:Nat) (gm:Nat) (gl:Nat) (px:List Nat) (xx:List Nat) (py:List Nat) (yy:List Nat) (pz:List Nat) (zz:List Nat) (xy:List Nat) (le:List Nat) (t2:List Nat) (al:List Nat) (z2:List Nat) (dd:List Nat) (r:List Nat):List Value:=
 (Aa p)::ptr g_base::ptr gr::ptr gx::ptr gy::ptr gz::ptr gm::ptr gl::ptr g_base::(Aa px)::(Aa xx)::(.pointer (some ⟨g_base,5,none⟩))::(Aa py)::(Aa yy)::(.pointer (some ⟨g_base,10,none⟩))::(Aa pz)::(Aa zz)::ptr g_base::(Aa px)::(.pointer (some ⟨g_base,5,none⟩))::(Aa py)::(Aa xy)::(Aa yy)::(Aa xx)::(Aa le)::(Aa xy)::(Aa xy)::(Aa t2)::(Aa le)::(Aa yy)::(Aa xx)::(Aa al)::(Aa zz)::(Aa zz)::(Aa z2)::(Aa le)::(Aa dd)::(Aa r)::[]
theorem IN (p px py pz xx yy zz xy le t2 al z2 dd r:List Nat) (w:World)
 (Hpx:Hid (px.length=5))
 (Hpy:Hid (py.length=5))
 (Hpz:Hid (pz.length=5))
 (Hxx:Hid (xx.length=5))
 (Hyy:Hid (yy.length=5))
 (Hzz:Hid (zz.length=5))
 (Hxy:Hid (xy.length=5))
 (Hle:Hid (le.length=5))
 (Hr:Hid (r.length=15))
 (Fp:Hid (p=px++py++pz))
 (C1:Hid (∀W,Calls Tryz.prog 99 #[Aa px] W (gvn (Aa xx) W)))
 (C2:Hid (∀W,Calls Tryz.prog 99 #[Aa py] W (gvn (Aa yy) W)))
 (C3:Hid (∀W,Calls Tryz.prog 99 #[Aa pz] W (gvn (Aa zz) W)))
 (C4:Hid (∀W,Calls Tryz.prog 63 #[Aa px,Aa py] W (gvn (Aa xy) W)))
 (C5:Hid (∀W,Calls Tryz.prog 59 #[Aa yy,Aa xx] W (gvn (Aa le) W)))
 (C6:Hid (∀W,Calls Tryz.prog 101 #[Aa xy,Aa xy] W (gvn (Aa t2) W)))
 (C7:Hid (∀W,Calls Tryz.prog 101 #[Aa yy,Aa xx] W (gvn (Aa al) W)))
 (C8:Hid (∀W,Calls Tryz.prog 101 #[Aa zz,Aa zz] W (gvn (Aa z2) W)))
 (C9:Hid (∀W,Calls Tryz.prog 59 #[Aa z2,Aa le] W (gvn (Aa dd) W)))
 (C10:Hid (∀W,Calls Tryz.prog 132 #[Aa t2,Aa le,Aa al,Aa dd] W (gvn (Aa r) W))):
 Calls Tryz.prog 131 #[Aa p] w (gvn (Aa r) w):=by
 go_enter Tryz.func131,Tryz.ntmps131;go_wp2_with (first
  |(refine Ra rfl 55 (.tmp 0) rfl (p.map Ga) rfl ?_
    intro w1 hb1 hvp1;have hB1:=hb1;have hgep:w.heap.size≤w.heap.size:=Xaj _;clear hb1;try simp only [La]
    skip)
  |(refine Ma (o:=⟨some 2,_,_,_,_,_⟩) rfl 55 rfl (Na 15) Id ?_
    intro w2 hb2 hvr2;have hB2:=Ba hB1 hb2;have hger:w.heap.size≤w1.heap.size:=hB1.size;have hvp2:=hvp1.on hb2;have hnepr:=Vaj hvp1.lt;clear hB1 hvp1 hb2;try simp only [La]
    skip))
 generalize hqr:w1.heap.size=gr at *;clear hqr;replace hvp2:=hvp2.drew;replace hvr2:=hvr2.drew;refine wp_region_any (by kernel_rfl) ?_;refine Qf (L:=[0,1,2,3,4,5,6,7,8,9,10,11,12,13,14]) (by kernel_rfl) _ _ (W4 p w.heap.size gr px xx py yy pz zz) [(9,3),(10,4),(11,5)] (fun _=>53) (fun _=>(Na 5)) (fun s=>bif s==3 then some (12,xx.map Ga) else bif s==4 then some (13,yy.map Ga) else bif s==5 then some (14,zz.map Ga) else none) [0,1,2,6,7,17,18,19,20,21,22,23,24,25,26,27,28,29,30,31,32,33,34,35,36,37] (by kernel_rfl) (by kernel_rfl) ?_ (fun _ _=>Fb) ?_ ?_ ?_ (by rfl) ?_ 0 (by kernel_rfl) ?_
 ·intro p hp;rcases List.mem_cons.1 hp with rfl|hp
  ·exact ⟨⟨_,rfl,rfl,rfl,rfl,by kernel_rfl,by kernel_rfl⟩⟩
  rcases List.mem_cons.1 hp with rfl|hp
  ·exact ⟨⟨_,rfl,rfl,rfl,rfl,by kernel_rfl,by kernel_rfl⟩⟩
  rcases List.mem_cons.1 hp with rfl|hp
  ·exact ⟨⟨_,rfl,rfl,rfl,rfl,by kernel_rfl,by kernel_rfl⟩⟩
  exact absurd hp List.not_mem_nil
 ·intro p hp j l h;rcases List.mem_cons.1 hp with rfl|hp
  ·change some (12,xx.map Ga)=some (j,l) at h;cases h
   exact ⟨⟨_,10,rfl,rfl,rfl,rfl,by kernel_rfl,by kernel_rfl,by kernel_rfl,rfl,by rw [Uaj,Hxx.out];exact Sa,by rw [Uaj,Hxx.out];rfl,Oa _⟩,by decide⟩
  rcases List.mem_cons.1 hp with rfl|hp
  ·change some (13,yy.map Ga)=some (j,l) at h;cases h
   exact ⟨⟨_,13,rfl,rfl,rfl,rfl,by kernel_rfl,by kernel_rfl,by kernel_rfl,rfl,by rw [Uaj,Hyy.out];exact Sa,by rw [Uaj,Hyy.out];rfl,Oa _⟩,by decide⟩
  rcases List.mem_cons.1 hp with rfl|hp
  ·change some (14,zz.map Ga)=some (j,l) at h;cases h
   exact ⟨⟨_,16,rfl,rfl,rfl,rfl,by kernel_rfl,by kernel_rfl,by kernel_rfl,rfl,by rw [Uaj,Hzz.out];exact Sa,by rw [Uaj,Hzz.out];rfl,Oa _⟩,by decide⟩
  exact absurd hp List.not_mem_nil
 ·intro p hp q hq j l l2 h1 h2;rcases List.mem_cons.1 hp with rfl|hp
  ·rcases List.mem_cons.1 hq with rfl|hq
   ·rfl
   rcases List.mem_cons.1 hq with rfl|hq
   ·change some (12,_)=some (j,l) at h1;change some (13,_)=some (j,l2) at h2;exact absurd ((Prod.mk.inj (Option.some.inj h1)).1.trans (Prod.mk.inj (Option.some.inj h2)).1.symm) (by decide)
   rcases List.mem_cons.1 hq with rfl|hq
   ·change some (12,_)=some (j,l) at h1;change some (14,_)=some (j,l2) at h2;exact absurd ((Prod.mk.inj (Option.some.inj h1)).1.trans (Prod.mk.inj (Option.some.inj h2)).1.symm) (by decide)
   exact absurd hq List.not_mem_nil
  rcases List.mem_cons.1 hp with rfl|hp
  ·rcases List.mem_cons.1 hq with rfl|hq
   ·change some (13,_)=some (j,l) at h1;change some (12,_)=some (j,l2) at h2;exact absurd ((Prod.mk.inj (Option.some.inj h1)).1.trans (Prod.mk.inj (Option.some.inj h2)).1.symm) (by decide)
   rcases List.mem_cons.1 hq with rfl|hq
   ·rfl
   rcases List.mem_cons.1 hq with rfl|hq
   ·change some (13,_)=some (j,l) at h1;change some (14,_)=some (j,l2) at h2;exact absurd ((Prod.mk.inj (Option.some.inj h1)).1.trans (Prod.mk.inj (Option.some.inj h2)).1.symm) (by decide)
   exact absurd hq List.not_mem_nil
  rcases List.mem_cons.1 hp with rfl|hp
  ·rcases List.mem_cons.1 hq with rfl|hq
   ·change some (14,_)=some (j,l) at h1;change some (12,_)=some (j,l2) at h2;exact absurd ((Prod.mk.inj (Option.some.inj h1)).1.trans (Prod.mk.inj (Option.some.inj h2)).1.symm) (by decide)
   rcases List.mem_cons.1 hq with rfl|hq
   ·change some (14,_)=some (j,l) at h1;change some (13,_)=some (j,l2) at h2;exact absurd ((Prod.mk.inj (Option.some.inj h1)).1.trans (Prod.mk.inj (Option.some.inj h2)).1.symm) (by decide)
   rcases List.mem_cons.1 hq with rfl|hq
   ·rfl
   exact absurd hq List.not_mem_nil
  exact absurd hp List.not_mem_nil
 ·repeat refine Aak rfl ?_
  exact Qa
 ·refine Aak (.inr (.inl (mF 8 rfl (Qi _)))) ?_;refine Aak (.inr (.inl (mL 9 rfl fun w hb=>Vl (hvp2.on hb) Fp.out Hpx.out))) ?_;refine Aak (.inr (.inl (mC 10 rfl Tryz.func99 fun w hb=>C1.out w))) ?_;refine Aak (.inr (.inl (mF 11 rfl (Cl _)))) ?_;refine Aak (.inr (.inl (mL 12 rfl fun w hb=>Zn (hvp2.on hb) Fp.out Hpx.out Hpy.out))) ?_;refine Aak (.inr (.inl (mC 13 rfl Tryz.func99 fun w hb=>C2.out w))) ?_;refine Aak (.inr (.inl (mF 14 rfl (Yu _)))) ?_;refine Aak (.inr (.inl (mL 15 rfl fun w hb=>Wz (hvp2.on hb) Fp.out Hpx.out Hpy.out Hpz.out))) ?_;refine Aak (.inr (.inl (mC 16 rfl Tryz.func99 fun w hb=>C3.out w))) ?_;refine Aak (.inl ⟨(9,3),by simp,rfl⟩) ?_;refine Aak (.inl ⟨(10,4),by simp,rfl⟩) ?_;refine Aak (.inl ⟨(11,5),by simp,rfl⟩) ?_;refine Aak (.inr (.inr ⟨(9,3),by simp,_,rfl⟩)) ?_;refine Aak (.inr (.inr ⟨(10,4),by simp,_,rfl⟩)) ?_;refine Aak (.inr (.inr ⟨(11,5),by simp,_,rfl⟩)) ?_;exact Qa
 intro w3 g hb3 hN3 hap3;obtain ⟨hgex,hvx3⟩:=hN3 (9,3) (by simp);obtain ⟨hgey,hvy3⟩:=hN3 (10,4) (by simp);obtain ⟨hgez,hvz3⟩:=hN3 (11,5) (by simp);have hnexy:=hap3 (9,3) (by simp) (10,4) (by simp) (by decide);have hnexz:=hap3 (9,3) (by simp) (11,5) (by simp) (by decide);have hneyz:=hap3 (10,4) (by simp) (11,5) (by simp) (by decide);clear hN3 hap3;have hB3:=Ba (show Below w.heap.size w w2.drew from hB2.drew) hb3;have hltp:w.heap.size<w2.heap.size:=hvp2.lt;have hltr:gr<w2.heap.size:=hvr2.lt;have hvp3:=hvp2.on hb3;have hvr3:=hvr2.on hb3;rw [show Oc g [(9,3),(10,4),(11,5)] (W4 p w.heap.size gr px xx py yy pz zz)=IJ p w.heap.size gr px xx py yy pz zz (g 3) (g 4) (g 5) from rfl];replace hgex:w2.heap.size≤g 3:=hgex;replace hvx3:Ia w3 (g 3) (xx.map Ga) 53:=hvx3;replace hgey:w2.heap.size≤g 4:=hgey;replace hvy3:Ia w3 (g 4) (yy.map Ga) 53:=hvy3;replace hgez:w2.heap.size≤g 5:=hgez;replace hvz3:Ia w3 (g 5) (zz.map Ga) 53:=hvz3;replace hnexy:g 3≠g 4:=hnexy;replace hnexz:g 3≠g 5:=hnexz;replace hneyz:g 4≠g 5:=hneyz;have hnepx:w.heap.size≠g 3:=Vaj (Waj hltp hgex);have hnerx:gr≠g 3:=Vaj (Waj hltr hgex);replace hgex:w.heap.size≤g 3:=Nat.le_trans (show w.heap.size≤w2.heap.size from hB2.size) hgex;have hnepy:w.heap.size≠g 4:=Vaj (Waj hltp hgey);have hnery:gr≠g 4:=Vaj (Waj hltr hgey);replace hgey:w.heap.size≤g 4:=Nat.le_trans (show w.heap.size≤w2.heap.size from hB2.size) hgey;have hnepz:w.heap.size≠g 5:=Vaj (Waj hltp hgez);have hnerz:gr≠g 5:=Vaj (Waj hltr hgez);replace hgez:w.heap.size≤g 5:=Nat.le_trans (show w.heap.size≤w2.heap.size from hB2.size) hgez;clear hltp hltr;generalize g 3=gx at *;generalize g 4=gy at *;generalize g 5=gz at *;clear hB2 hvp2 hvr2 hb3;refine ⟨by kernel_rfl,?_⟩;rename_i K hKK;show Exit.then K _ Exit.normal (⟨(IJ p w.heap.size gr px xx py yy pz zz gx gy gz).toArray,[]⟩:Act) w3;simp only [Exit.then];refine hKK _ _ ?_;clear hKK K g;simp only [IJ,ptr,ud]
 go_upto_region 2 with fail
 refine Mb (md:=.any) (by kernel_rfl) ?_;refine Ya (L:=[0,1,2,3,4,5]) (by kernel_rfl) _ _ (GN p w.heap.size gr gx gy gz px xx py yy pz zz xy) [(5,6)] 53 (Na 5) [0,1,2,3,4,5,7,8,9,10,11,12,13,14,15,16,22,23,24,25,26,27,28,29,30,31,32,33,34,35,36,37] (by kernel_rfl) (by kernel_rfl) ?_ Fb ?_ (by rfl) ?_ 1 (by kernel_rfl) ?_
 ·intro p hp;rcases List.mem_cons.1 hp with rfl|hp
  ·exact ⟨⟨_,rfl,rfl,rfl,rfl,by kernel_rfl,by kernel_rfl⟩⟩
  exact absurd hp List.not_mem_nil
 ·repeat refine Aak rfl ?_
  exact Qa
 ·refine Aak (.inr (mF 17 rfl (Qi _))) ?_;refine Aak (.inr (mL 18 rfl fun w hb=>Vl (hvp3.on hb) Fp.out Hpx.out)) ?_;refine Aak (.inr (mF 19 rfl (Cl _))) ?_;refine Aak (.inr (mL 20 rfl fun w hb=>Zn (hvp3.on hb) Fp.out Hpx.out Hpy.out)) ?_;refine Aak (.inr (mC 21 rfl Tryz.func63 fun w hb=>C4.out w)) ?_;refine Aak (.inl ⟨(5,6),by simp,rfl⟩) ?_;exact Qa
 intro w4 g hb4 hN4 hap4;obtain ⟨hgem,hvm4⟩:=hN4 (5,6) (by simp);clear hN4 hap4;have hB4:=Ba hB3 hb4;have hltp:w.heap.size<w3.heap.size:=hvp3.lt;have hltr:gr<w3.heap.size:=hvr3.lt;have hltx:gx<w3.heap.size:=hvx3.lt;have hlty:gy<w3.heap.size:=hvy3.lt;have hltz:gz<w3.heap.size:=hvz3.lt;have hvp4:=hvp3.on hb4;have hvr4:=hvr3.on hb4;have hvx4:=hvx3.on hb4;have hvy4:=hvy3.on hb4;have hvz4:=hvz3.on hb4;rw [show Oc g [(5,6)] (GN p w.heap.size gr gx gy gz px xx py yy pz zz xy)=Nw p w.heap.size gr gx gy gz px xx py yy pz zz xy (g 6) from rfl];replace hgem:w3.heap.size≤g 6:=hgem;replace hvm4:Ia w4 (g 6) (Na 5) 53:=hvm4;have hnepm:w.heap.size≠g 6:=Vaj (Waj hltp hgem);have hnerm:gr≠g 6:=Vaj (Waj hltr hgem);have hnexm:gx≠g 6:=Vaj (Waj hltx hgem);have hneym:gy≠g 6:=Vaj (Waj hlty hgem);have hnezm:gz≠g 6:=Vaj (Waj hltz hgem);replace hgem:w.heap.size≤g 6:=Nat.le_trans (show w.heap.size≤w3.heap.size from hB3.size) hgem;clear hltp hltr hltx hlty hltz;generalize g 6=gm at *;clear hB3 hvp3 hvr3 hvx3 hvy3 hvz3 hb4;refine Bb 6 rfl (by kernel_rfl) ?_;refine Ka rfl 53 (.tmp 6) (.tmp 21) rfl gm 5 (Na 5) (xy.map Ga) rfl rfl hvm4 rfl Sa (by rw [Uaj,Hxy.out]) (Oa _) ?_;intro w5 hb5 hvm5 hz5;have hB5:Below w.heap.size w w5:=hB4.trans (hb5.below hgem hB4.size);have hvp5:=hvp4.but hb5 hnepm;have hvr5:=hvr4.but hb5 hnerm;have hvx5:=hvx4.but hb5 hnexm;have hvy5:=hvy4.but hb5 hneym;have hvz5:=hvz4.but hb5 hnezm;clear hB4 hvm4 hb5 hz5 hvp4 hvr4 hvx4 hvy4 hvz4;rename_i K hKK;show Exit.then K _ Exit.normal (⟨(Nw p w.heap.size gr gx gy gz px xx py yy pz zz xy gm).toArray,[]⟩:Act) w5;simp only [Exit.then];refine hKK _ _ ?_;clear hKK K g;simp only [Nw,ptr,ud];go_wp2_with (first
  |(refine Pa rfl 53 (.tmp 4) rfl gy 5 (yy.map Ga) rfl hvy5 Tryz.underlying53 rfl Sa (by rw [Uaj,Hyy.out]) ?_
    try simp only [La]
    skip)
  |(refine Pa rfl 53 (.tmp 3) rfl gx 5 (xx.map Ga) rfl hvx5 Tryz.underlying53 rfl Sa (by rw [Uaj,Hxx.out]) ?_
    try simp only [La]
    skip))
 refine (C5.out w5).mono ?_;rintro e w6 ⟨rfl,hb6⟩;have hB6:=Ba hB5 hb6;have hvp6:=hvp5.on hb6;have hvr6:=hvr5.on hb6;have hvx6:=hvx5.on hb6;have hvy6:=hvy5.on hb6;have hvz6:=hvz5.on hb6;have hvm6:=hvm5.on hb6;clear hB5 hvp5 hvr5 hvx5 hvy5 hvz5 hvm5 hb6;go_wp2_with (first
  |(refine Db rfl rfl 53 (.tmp 7) (.tmp 24) rfl rfl 5 (Na 5) (le.map Ga) rfl rfl Fb rfl Sa (by rw [Uaj,Hle.out]) (Oa _) ?_
    intro w7 hb7 hvl7;have hB7:=Ba hB6 hb7;have hgel:w.heap.size≤w6.heap.size:=hB6.size;have hvp7:=hvp6.on hb7;have hnepl:=Vaj hvp6.lt;have hvr7:=hvr6.on hb7;have hnerl:=Vaj hvr6.lt;have hvx7:=hvx6.on hb7;have hnexl:=Vaj hvx6.lt;have hvy7:=hvy6.on hb7;have hneyl:=Vaj hvy6.lt;have hvz7:=hvz6.on hb7;have hnezl:=Vaj hvz6.lt;have hvm7:=hvm6.on hb7;have hneml:=Vaj hvm6.lt;clear hB6 hvp6 hvr6 hvx6 hvy6 hvz6 hvm6 hb7;try simp only [La]
    skip))
 generalize hql:w6.heap.size=gl at *;clear hql;replace hvp7:=hvp7.drew;replace hvr7:=hvr7.drew;replace hvx7:=hvx7.drew;replace hvy7:=hvy7.drew;replace hvz7:=hvz7.drew;replace hvm7:=hvm7.drew;replace hvl7:=hvl7.drew;refine wp_region_any (by kernel_rfl) ?_;refine Ya (L:=[0,1,2,3,4,5,6,7,8,9,10,11,12]) (by kernel_rfl) _ _ (NC p w.heap.size gr gx gy gz gm gl px xx py yy pz zz xy le t2 al z2 dd r) [] 55 (Na 15) [0,1,2,3,4,5,6,7,8,9,10,11,12,13,14,15,16,17,18,19,20,21,22,23,24] (by kernel_rfl) (by kernel_rfl) ?_ Id ?_ (by rfl) ?_ 1 (by kernel_rfl) ?_
 ·intro p hp;exact absurd hp List.not_mem_nil
 ·repeat refine Aak rfl ?_
  exact Qa
 ·refine Aak (.inr (mL 25 rfl fun w hb=>Gb (hvm7.on hb) Hxy.out)) ?_;refine Aak (.inr (mL 26 rfl fun w hb=>Gb (hvm7.on hb) Hxy.out)) ?_;refine Aak (.inr (mC 27 rfl Tryz.func101 fun w hb=>C6.out w)) ?_;refine Aak (.inr (mL 28 rfl fun w hb=>Gb (hvl7.on hb) Hle.out)) ?_;refine Aak (.inr (mL 29 rfl fun w hb=>Gb (hvy7.on hb) Hyy.out)) ?_;refine Aak (.inr (mL 30 rfl fun w hb=>Gb (hvx7.on hb) Hxx.out)) ?_;refine Aak (.inr (mC 31 rfl Tryz.func101 fun w hb=>C7.out w)) ?_;refine Aak (.inr (mL 32 rfl fun w hb=>Gb (hvz7.on hb) Hzz.out)) ?_;refine Aak (.inr (mL 33 rfl fun w hb=>Gb (hvz7.on hb) Hzz.out)) ?_;refine Aak (.inr (mC 34 rfl Tryz.func101 fun w hb=>C8.out w)) ?_;refine Aak (.inr (mL 35 rfl fun w hb=>Gb (hvl7.on hb) Hle.out)) ?_;refine Aak (.inr (mC 36 rfl Tryz.func59 fun w hb=>C9.out w)) ?_;refine Aak (.inr (mC 37 rfl Tryz.func132 fun w hb=>C10.out w)) ?_;exact Qa
 intro w8 g hb8 hN8 hap8;clear hN8 hap8;have hB8:=Ba (show Below w.heap.size w w7.drew from hB7.drew) hb8;have hvp8:=hvp7.on hb8;have hvr8:=hvr7.on hb8;have hvx8:=hvx7.on hb8;have hvy8:=hvy7.on hb8;have hvz8:=hvz7.on hb8;have hvm8:=hvm7.on hb8;have hvl8:=hvl7.on hb8;clear hB7 hvp7 hvr7 hvx7 hvy7 hvz7 hvm7 hvl7 hb8;refine Bb 13 rfl (by kernel_rfl) ?_;refine Ka rfl 55 (.tmp 2) (.tmp 37) rfl gr 15 (Na 15) (r.map Ga) rfl rfl hvr8 rfl Pb (by rw [Uaj,Hr.out]) (Oa _) ?_;intro w9 hb9 hvr9 hz9;have hB9:Below w.heap.size w w9:=hB8.trans (hb9.below hger hB8.size);have hvp9:=hvp8.but hb9 hnepr;have hvx9:=hvx8.but hb9 (Ne.symm hnerx);have hvy9:=hvy8.but hb9 (Ne.symm hnery);have hvz9:=hvz8.but hb9 (Ne.symm hnerz);have hvm9:=hvm8.but hb9 (Ne.symm hnerm);have hvl9:=hvl8.but hb9 (Ne.symm hnerl);clear hB8 hvr8 hb9 hz9 hvp8 hvx8 hvy8 hvz8 hvm8 hvl8;rename_i K hKK;show Exit.then K _ Exit.normal (⟨(NC p w.heap.size gr gx gy gz gm gl px xx py yy pz zz xy le t2 al z2 dd r).toArray,[]⟩:Act) w9;simp only [Exit.then];refine hKK _ _ ?_;clear hKK K g;simp only [NC,ptr]
 go_wp2
 exact qc Tryz.results131 gr (r.map Ga) rfl hvr9 Tryz.underlying55 rfl Pb (by rw [Uaj,Hr.out]) rfl ⟨rfl,hB9⟩
end Go.Proofs.YtoggkhjaghkpnaaGreatDoor
