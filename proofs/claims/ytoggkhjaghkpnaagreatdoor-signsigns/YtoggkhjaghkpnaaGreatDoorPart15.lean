/- Part 15 of what the laws of this seat share: UMath, BPoint. -/
import Derived.Deep.MidRow
import Derived.Test.YtoggkhjaghkpnaaGreatDoorPart14
namespace Go.Proofs.YtoggkhjaghkpnaaGreatDoor
open Go.RowKit
def X4 (a b c d:Nat):Tri:=(fM a d,fM c b,fM b d)
theorem DV (a b c d:Nat):qd (X4 a b c d):=⟨Lc _ _,Lc _ _,Lc _ _⟩
def IE (p q:Tri):Nat:=fM p.1 q.1
def NS (p q:Tri):Nat:=fM p.2.1 q.2.1
def yu (p q:Tri):Nat:=fM p.2.2 q.2.2
def Yp (p q:Tri):Nat:=fA (fM p.1 q.2.1) (fM p.2.1 q.1)
def Zp (p q:Tri):Nat:=fA (NS p q) (IE p q)
def Mk (p q:Tri):Nat:=fM (yu p q) (yu p q)
def Nk (p q:Tri):Nat:=fM (fM Ag (IE p q)) (NS p q)
def KJ (p q:Tri):Tri:=X4 (fM (Yp p q) (yu p q)) (fA (Mk p q) (Nk p q)) (fM (Zp p q) (yu p q)) (fS (Mk p q) (Nk p q))
theorem LJ (p q:Tri):qd (KJ p q):=DV _ _ _ _
def LN (p:Tri):Nat:=fM p.1 p.1
def MN (p:Tri):Nat:=fM p.2.1 p.2.1
def Qw (p:Tri):Nat:=fM p.2.2 p.2.2
def MJ (p:Tri):Nat:=fM p.1 p.2.1
def xp (p:Tri):Nat:=fS (MN p) (LN p)
def twT (p:Tri):Tri:=X4 (fA (MJ p) (MJ p)) (xp p) (fA (MN p) (LN p)) (fS (fA (Qw p) (Qw p)) (xp p))
theorem OS (p:Tri):qd (twT p):=DV _ _ _ _
def NN (p:Tri):Tri:=twT (twT (twT (twT p)))
theorem EV (p:Tri):qd (NN p):=OS _
def Zj (p:Tri):Nat→Tri
 |0=>(0,1,1)
 |i+1=>KJ (Zj p i) p
theorem FV:qd (0,1,1):=⟨by show 0<pp;decide,by show 1<pp;decide,by show 1<pp;decide⟩
theorem QC (p:Tri):∀i,qd (Zj p i)
 |0=>FV
 |_+1=>LJ _ _
def dig (k:List UInt8) (i:Nat):Nat:=(k.getD (i/2) 0).toNat/16^(i%2)%16
theorem Y4 (k:List UInt8) (i:Nat):dig k i<16:=Nat.mod_lt _ (by decide)
theorem GV:∀(k:List UInt8) (i:Nat),lev k/16^i%16=dig k i
 | [],i=>by rw [show lev []=0 from rfl,Nat.zero_div];simp [dig]
 |b::t,i=>by
  rw [Tj];have hb:=b.toNat_lt;rcases Nat.lt_or_ge i 2 with h|h
  ·obtain rfl|rfl:i=0∨i=1:=by omega
   ·show (b.toNat+256*lev t)/1%16=b.toNat/1%16;omega
   ·show (b.toNat+256*lev t)/16%16=b.toNat/16%16;omega
  ·obtain ⟨j,rfl⟩:∃j,i=j+2:=⟨i-2,by omega⟩;have ih:=GV t j;rw [dig,show (j+2)/2=j/2+1 by omega,Nat.add_mod_right,List.getD_cons_succ];rw [dig] at ih;rw [←ih,Nat.add_comm j 2,Nat.pow_add,←Nat.div_div_eq_div_mul,show (16:Nat)^2=256 from rfl];congr 2
   omega
def ON (k:List UInt8):Nat→Nat
 |0=>0
 |j+1=>16*ON k j+dig k (63-j)
theorem Yz {k:List UInt8} (hk:lev k<115792089237316195423570985008687907853269984665640564039457584007913129639936):∀j m,j+m=64→ON k j=lev k/16^m
 |0,m,h=>by
  obtain rfl:m=64:=by omega
  exact (Nat.div_eq_of_lt (by rw [show (16:Nat)^64=115792089237316195423570985008687907853269984665640564039457584007913129639936 from by decide+kernel];exact hk)).symm
 |j+1,m,h=>by
  have ih:=Yz hk j (m+1) (by omega);rw [Nat.pow_succ,←Nat.div_div_eq_div_mul] at ih;show 16*ON k j+dig k (63-j)=_;rw [ih,show 63-j=m by omega,←GV];generalize lev k/16^m=q;omega
def Z4 (f:Nat→Tri) (a:Tri):Nat→Tri
 |0=>a
 |j+1=>KJ (Z4 f a j) (f j)
def Zs (m:Nat) (f:Nat→Nat→Tri):Nat→Tri
 |0=>(0,1,1)
 |k+1=>Z4 (f (63-k)) (NN (Zs m f k)) m
theorem IV (f:Nat→Tri) (a:Tri) (h:qd a):∀j,qd (Z4 f a j)
 |0=>h
 |_+1=>LJ _ _
theorem NJ (m:Nat) (f:Nat→Nat→Tri):∀k,qd (Zs m f k)
 |0=>FV
 |_+1=>IV _ _ (EV _) _
namespace NP
theorem Rep.quot {P:Nat} {d i:Int} (h:Edw P d i) {p q:Pt P d} {W A B C D:Int} (nW:¬(P:Int)∣W) (cA:Cg P A (W*(p.x*q.y+q.x*p.y))) (cB:Cg P B (W*(1+d*p.x*q.x*p.y*q.y))) (cC:Cg P C (W*(p.y*q.y+p.x*q.x))) (cD:Cg P D (W*(1-d*p.x*q.x*p.y*q.y))):Rep (h.add p q) (A*D) (C*B) (B*D):=by
 obtain ⟨⟨a,ha⟩,⟨b,hb⟩⟩:=h.add_is p q;have hp:=h.plus p.on q.on;have hm:=h.less p.on q.on;have cX:=cA.mul cD;have cY:=cC.mul cB;have cZ:=cB.mul cD;obtain ⟨s,hs⟩:∃s,(h.add p q).x=s:=⟨_,rfl⟩;obtain ⟨t,ht⟩:∃t,(h.add p q).y=t:=⟨_,rfl⟩;rw [hs] at ha;rw [ht] at hb;generalize p.x=x1 at *;generalize p.y=y1 at *;generalize q.x=x2 at *;generalize q.y=y2 at *;have two:∀{x y:Int},¬(P:Int)∣x→¬(P:Int)∣y→¬(P:Int)∣x*y:=fun hx hy hd=>by
  rcases h.prime.int hd with h8|h8
  ·exact hx h8
  ·exact hy h8
 refine ⟨fun hd=>two (two nW hp) (two nW hm) (cZ.dvd hd),?_,?_⟩
 ·rw [hs];refine (cX.trans ?_).trans ((Cg.refl s).mul cZ.swap);generalize 1+d*x1*x2*y1*y2=e1 at *;generalize 1-d*x1*x2*y1*y2=e2 at *;generalize x1*y2+x2*y1=n at *;exact ⟨-(a*W*W*e2),by grind⟩
 ·rw [ht];refine (cY.trans ?_).trans ((Cg.refl t).mul cZ.swap);generalize 1+d*x1*x2*y1*y2=e1 at *;generalize 1-d*x1*x2*y1*y2=e2 at *;generalize y1*y2+x1*x2=n at *;exact ⟨-(b*W*W*e1),by grind⟩
theorem not_two {x y:Int} (hx:¬((PP:Nat):Int)∣x) (hy:¬((PP:Nat):Int)∣y):¬((PP:Nat):Int)∣x*y:=fun hd=>by
 rcases pr_P.int hd with h|h
 ·exact hx h
 ·exact hy h
theorem addT_rep {p q:Pt PP dE} {s t:Tri} (r1:RepN p s) (r2:RepN q t):RepN (edw.add p q) (KJ s t):=by
 refine ⟨?_,LJ _ _⟩;obtain ⟨⟨n1,cx1,cy1⟩,-⟩:=r1;obtain ⟨⟨n2,cx2,cy2⟩,-⟩:=r2;have hz:=cg_M s.2.2 t.2.2;have hxx:=(cg_M s.1 t.1).trans (cx1.mul cx2);have hyy:=(cg_M s.2.1 t.2.1).trans (cy1.mul cy2);have hov:=(cg_M (yu s t) (yu s t)).trans (hz.mul hz);have hbe:=(cg_M (fM Ag (IE s t)) (NS s t)).trans (((cg_M Ag (IE s t)).trans ((Cg.refl (Ag:Int)).mul hxx)).mul hyy);rw [dNat_is] at hbe;have hcr:=(cg_A (fM s.1 t.2.1) (fM s.2.1 t.1)).trans (((cg_M s.1 t.2.1).trans (cx1.mul cy2)).add ((cg_M s.2.1 t.1).trans (cy1.mul cx2)));have hal:=(cg_A (NS s t) (IE s t)).trans (hyy.add hxx);have hA:=(cg_M (Yp s t) (yu s t)).trans (hcr.mul hz);have hB:=(cg_A (Mk s t) (Nk s t)).trans (hov.add hbe);have hC:=(cg_M (Zp s t) (yu s t)).trans (hal.mul hz);have hD:=(cg_S (Mk s t) (Nk s t) (Lc _ _)).trans (hov.sub hbe);have nW:¬((PP:Nat):Int)∣((s.2.2:Int)*t.2.2)*((s.2.2:Int)*t.2.2):=not_two (not_two n1 n2) (not_two n1 n2);have h:=Rep.quot edw (p:=p) (q:=q) (W:=((s.2.2:Int)*t.2.2)*((s.2.2:Int)*t.2.2)) nW
  (hA.trans (by rw [show p.x*(s.2.2:Int)*(q.y*(t.2.2:Int))+p.y*(s.2.2:Int)*(q.x*(t.2.2:Int))=(s.2.2:Int)*t.2.2*(p.x*q.y+q.x*p.y) by grind,Int.mul_right_comm];exact Cg.refl _))
  (hB.trans (by rw [show (s.2.2:Int)*t.2.2*((s.2.2:Int)*t.2.2)+(dE:Int)*(p.x*(s.2.2:Int)*(q.x*(t.2.2:Int)))*(p.y*(s.2.2:Int)*(q.y*(t.2.2:Int)))=(s.2.2:Int)*t.2.2*((s.2.2:Int)*t.2.2)*(1+(dE:Int)*p.x*q.x*p.y*q.y) by grind];exact Cg.refl _))
  (hC.trans (by rw [show p.y*(s.2.2:Int)*(q.y*(t.2.2:Int))+p.x*(s.2.2:Int)*(q.x*(t.2.2:Int))=(s.2.2:Int)*t.2.2*(p.y*q.y+p.x*q.x) by grind,Int.mul_right_comm];exact Cg.refl _))
  (hD.trans (by rw [show (s.2.2:Int)*t.2.2*((s.2.2:Int)*t.2.2)-(dE:Int)*(p.x*(s.2.2:Int)*(q.x*(t.2.2:Int)))*(p.y*(s.2.2:Int)*(q.y*(t.2.2:Int)))=(s.2.2:Int)*t.2.2*((s.2.2:Int)*t.2.2)*(1-(dE:Int)*p.x*q.x*p.y*q.y) by grind];exact Cg.refl _))
 exact h.of (cg_M _ _) (cg_M _ _) (cg_M _ _)
theorem twT_rep {p:Pt PP dE} {t:Tri} (r:RepN p t):RepN (edw.add p p) (twT t):=by
 refine ⟨?_,OS _⟩;obtain ⟨⟨n1,cx,cy⟩,-⟩:=r;obtain ⟨u,hu⟩:=p.on;have hxx:=(cg_M t.1 t.1).trans (cx.mul cx);have hyy:=(cg_M t.2.1 t.2.1).trans (cy.mul cy);have hzz:=cg_M t.2.2 t.2.2;have hxy:=(cg_M t.1 t.2.1).trans (cx.mul cy);have hA:=(cg_A (MJ t) (MJ t)).trans (hxy.add hxy);have hB:=(cg_S (MN t) (LN t) (Lc _ _)).trans (hyy.sub hxx);have hC:=(cg_A (MN t) (LN t)).trans (hyy.add hxx);have hB2:Cg ((PP:Nat):Int) ((xp t:Nat):Int) ((t.2.2:Int)*t.2.2*(1+(dE:Int)*p.x*p.x*p.y*p.y)):=hB.trans ⟨(t.2.2:Int)*t.2.2*u,by
  generalize p.x=x at *;generalize p.y=y at *
  grind⟩
 have hD:=(cg_S (fA (Qw t) (Qw t)) (xp t) (Tp _ _)).trans (((cg_A (Qw t) (Qw t)).trans (hzz.add hzz)).sub hB2);have h:=Rep.quot edw (p:=p) (q:=p) (W:=(t.2.2:Int)*t.2.2) (not_two n1 n1)
  (hA.trans (by rw [show p.x*(t.2.2:Int)*(p.y*(t.2.2:Int))+p.x*(t.2.2:Int)*(p.y*(t.2.2:Int))=(t.2.2:Int)*t.2.2*(p.x*p.y+p.x*p.y) by grind];exact Cg.refl _))
  hB2
  (hC.trans (by rw [show p.y*(t.2.2:Int)*(p.y*(t.2.2:Int))+p.x*(t.2.2:Int)*(p.x*(t.2.2:Int))=(t.2.2:Int)*t.2.2*(p.y*p.y+p.x*p.x) by grind];exact Cg.refl _))
  (hD.trans (by rw [show (t.2.2:Int)*t.2.2+(t.2.2:Int)*t.2.2-(t.2.2:Int)*t.2.2*(1+(dE:Int)*p.x*p.x*p.y*p.y)=(t.2.2:Int)*t.2.2*(1-(dE:Int)*p.x*p.x*p.y*p.y) by grind];exact Cg.refl _))
 exact h.of (cg_M _ _) (cg_M _ _) (cg_M _ _)
theorem radT_rep {p q:Pt PP dE} {t:Tri} {a b:Nat} (r:RepN (edw.add (edw.mul p a) (edw.mul q b)) t):RepN (edw.add (edw.mul p (16*a)) (edw.mul q (16*b))) (NN t):=by
 have one:∀{a b:Nat} {t:Tri},RepN (edw.add (edw.mul p a) (edw.mul q b)) t→RepN (edw.add (edw.mul p (2*a)) (edw.mul q (2*b))) (twT t):=fun r=>by
  have h:=twT_rep r;rw [four_sum,mul_two,mul_two] at h;exact h
 have h:=one (one (one (one r)));rw [show 2*(2*(2*(2*a)))=16*a by omega,show 2*(2*(2*(2*b)))=16*b by omega] at h;exact h
theorem manyT_rep {p:Pt PP dE} {t:Tri} (r:RepN p t):∀i,RepN (edw.mul p i) (Zj t i)
 |0=>zeroT_rep
 |i+1=>addT_rep (manyT_rep r i) r
theorem two_rep {p q:Pt PP dE} {t u:Tri} (r1:RepN p t) (r2:RepN q u) (h s:List UInt8) (f:Nat→Nat→Tri) (f0:∀i,f i 0=Zj t (dig h i)) (f1:∀i,f i 1=Zj u (dig s i)):∀k,RepN (edw.add (edw.mul p (ON h k)) (edw.mul q (ON s k))) (Zs 2 f k)
 |0=>by
  show RepN (edw.add edw.zero edw.zero) _;rw [edw.zero_add];exact zeroT_rep
 |k+1=>by
  have ih:=radT_rep (two_rep r1 r2 h s f f0 f1 k);have h1:=addT_rep ih (manyT_rep r1 (dig h (63-k)));have h2:=addT_rep h1 (manyT_rep r2 (dig s (63-k)));rw [edw.add_assoc (edw.mul p _),edw.add_comm (edw.mul q _) (edw.mul p _),←edw.add_assoc (edw.mul p _),←edw.mul_add,edw.add_assoc,←edw.mul_add] at h2;show RepN _ (KJ (KJ (NN (Zs 2 f k)) (f (63-k) 0)) (f (63-k) 1));rw [f0,f1];exact h2
theorem one_rep {p:Pt PP dE} {t:Tri} (r1:RepN p t) (h:List UInt8) (f:Nat→Nat→Tri) (f0:∀i,f i 0=Zj t (dig h i)):∀k,RepN (edw.mul p (ON h k)) (Zs 1 f k)
 |0=>zeroT_rep
 |k+1=>by
  have ih:=one_rep r1 h f f0 k;have e:edw.add (edw.mul p (ON h k)) (edw.mul p 0)=edw.mul p (ON h k):=edw.add_zero _;rw [←e] at ih;have i2:=radT_rep ih;rw [show edw.mul p (16*0)=edw.zero from rfl,edw.add_zero] at i2;have h1:=addT_rep i2 (manyT_rep r1 (dig h (63-k)));rw [←edw.mul_add] at h1;show RepN _ (KJ (NN (Zs 1 f k)) (f (63-k) 0));rw [f0];exact h1
end NP
theorem He:∀w,(zeroValue 68).run Tryz.prog w=.ok (.agg (Wa 24).toArray) w:=(zero_of_info (P:=Tryz.prog) (t:=68) (v:=.agg (Wa 24).toArray) (n:=24) (by kernel_rfl)).1
theorem Jb:(Tryz.prog.info? 68).map (·.size)=some 24:=by kernel_rfl
theorem PN {l:List Nat} (h:l.length=8):∃a b c d e f g i,l= [a,b,c,d,e,f,g,i]:=by
 match l,h with
 | [a,b,c,d,e,f,g,i],_=>exact ⟨a,b,c,d,e,f,g,i,rfl⟩
theorem qm (a b c:List Nat) (ha:a.length=8) (hb:b.length=8) (hc:c.length=8) (w:World):(Instr.build 68 #[(0,Da a),(1,Da b),(2,Da c)]).run Tryz.prog w=.ok (Da (a++b++c)) w:=by
 obtain ⟨a0,a1,a2,a3,a4,a5,a6,a7,rfl⟩:=PN ha;obtain ⟨b0,b1,b2,b3,b4,b5,b6,b7,rfl⟩:=PN hb;obtain ⟨c0,c1,c2,c3,c4,c5,c6,c7,rfl⟩:=PN hc
 kernel_rfl
theorem QN (b c:List Nat) (hb:b.length=8) (hc:c.length=8) (w:World):(Instr.build 68 #[(1,Da b),(2,Da c)]).run Tryz.prog w=.ok (Da (nD 0++b++c)) w:=by
 obtain ⟨b0,b1,b2,b3,b4,b5,b6,b7,rfl⟩:=PN hb;obtain ⟨c0,c1,c2,c3,c4,c5,c6,c7,rfl⟩:=PN hc
 kernel_rfl
theorem An (g:Nat) (w:World):(Instr.fieldAt 68 (.pointer (some ⟨g,0,none⟩)) 0).run Tryz.prog w=.ok (.pointer (some ⟨g,0,none⟩)) w:=by kernel_rfl
theorem Bn (g:Nat) (w:World):(Instr.fieldAt 68 (.pointer (some ⟨g,0,none⟩)) 1).run Tryz.prog w=.ok (.pointer (some ⟨g,8,none⟩)) w:=by kernel_rfl
theorem zu (g:Nat) (w:World):(Instr.fieldAt 68 (.pointer (some ⟨g,0,none⟩)) 2).run Tryz.prog w=.ok (.pointer (some ⟨g,16,none⟩)) w:=by kernel_rfl
theorem RC {w:World} {g:Nat} {p:List Nat} {t':TypeId} (hC:Ia w g (p.map Ja) t') (o:Nat) (x:List Nat) (hp:(p.drop o).take 8=x) (hx:x.length=8):(Instr.loadAt 66 (.pointer (some ⟨g,o,none⟩))).run Tryz.prog w=.ok (Da x) w:=by
 have hr:=hC.range o 8;rw [←List.map_drop,←List.map_take,hp] at hr;exact run_loadAt_mid w g o 66 (x.map Ja) _ hr Tryz.underlying66 rfl (by rw [Uaj,hx];exact Za)
theorem Gr {w:World} {g:Nat} {p x y z:List Nat} {t':TypeId} (hC:Ia w g (p.map Ja) t') (hp:p=x++y++z) (hx:x.length=8):(Instr.loadAt 66 (.pointer (some ⟨g,0,none⟩))).run Tryz.prog w=.ok (Da x) w:=
 RC hC 0 x (by rw [hp,List.drop_zero,List.append_assoc,List.take_append_of_le_length (by omega),Zaj (by omega)]) hx
theorem Ir {w:World} {g:Nat} {p x y z:List Nat} {t':TypeId} (hC:Ia w g (p.map Ja) t') (hp:p=x++y++z) (hx:x.length=8) (hy:y.length=8):(Instr.loadAt 66 (.pointer (some ⟨g,8,none⟩))).run Tryz.prog w=.ok (Da y) w:=
 RC hC 8 y (by rw [hp,List.append_assoc,List.drop_append_of_le_length (by omega),List.drop_of_length_le (by omega),List.nil_append,List.take_append_of_le_length (by omega),Zaj (by omega)]) hy
theorem Zz {w:World} {g:Nat} {p x y z:List Nat} {t':TypeId} (hC:Ia w g (p.map Ja) t') (hp:p=x++y++z) (hx:x.length=8) (hy:y.length=8) (hz:z.length=8):(Instr.loadAt 66 (.pointer (some ⟨g,16,none⟩))).run Tryz.prog w=.ok (Da z) w:=
 RC hC 16 z (by rw [hp,List.drop_append_of_le_length (by rw [qaj];omega),List.drop_of_length_le (by rw [qaj];omega),List.nil_append,Zaj (by omega)]) hz
def Pd (t:Tri):List Nat:=nD t.1++nD t.2.1++nD t.2.2
theorem OJ {P:Program} {fn:Func} {R:Ending→World→Prop} {a:Act} {w:World} {p u:Tmp} {ty ty2:TypeId} {d d2:TypeDesc} {n n2:Nat} (hres:fn.results=#[.cell p ty,.cell u ty2]) (g g2:Nat) (vs vs2:List Value)
 (hp:a.tmps.getD p undef=.pointer (some ⟨g,0,none⟩)) (hv:a.tmps.getD u undef=.pointer (some ⟨g2,0,none⟩)) (hg:Ia w g vs ty) (hg2:Ia w g2 vs2 ty2) (hu:P.underlying ty=some d) (hd:(match d with |.struct _|.array _ _=>true|_=>false)=true) (hi:(P.info? ty).map (·.size)=some n) (hl:vs.length=n)
 (hu2:P.underlying ty2=some d2) (hd2:(match d2 with |.struct _|.array _ _=>true|_=>false)=true) (hi2:(P.info? ty2).map (·.size)=some n2) (hl2:vs2.length=n2)
 (hdf:a.defers= []) (hR:R (.returned (.tuple #[.agg vs.toArray,.agg vs2.toArray])) w):bodyPost P fn R .ret a w:=by
 have hp':a.tmps[p]?.getD undef=.pointer (some ⟨g,0,none⟩):=by simpa using hp
 have hv':a.tmps[u]?.getD undef=.pointer (some ⟨g2,0,none⟩):=by simpa using hv
 have hrun:(results fn a.tmps).run P w=.ok (.tuple #[.agg vs.toArray,.agg vs2.toArray]) w:=by
  simp [results,hres,hp',hv',asAddr,run_loadVar_row w g ty ty vs.toArray (0,0) _ hg hu hd (by rw [List.size_toArray,hl];exact hi),run_loadVar_row w g2 ty2 ty2 vs2.toArray (0,0) _ hg2 hu2 hd2 (by rw [List.size_toArray,hl2];exact hi2)]
 exact bodyPost_ret hrun hdf hR
end Go.Proofs.YtoggkhjaghkpnaaGreatDoor
