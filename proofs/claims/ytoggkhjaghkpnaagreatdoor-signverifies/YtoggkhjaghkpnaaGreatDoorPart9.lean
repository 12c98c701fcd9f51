/- Part 9 of what the laws of this seat share: GLeast, GCarry, GFold, GAdd, GTimes, GTimes2, GSub, GPower, GPowered. -/
import Derived.Test.YtoggkhjaghkpnaaGreatDoorPart8
set_option maxRecDepth 100000
set_option maxHeartbeats 8000000
namespace Go.Proofs.YtoggkhjaghkpnaaGreatDoor
open Go.RowKit
theorem Sb {w:World} {g:Nat} {l:List Nat} {t':TypeId} (hC:Ia w g (l.map Ja) t') (hl:l.length=8):(Instr.loadAt 66 (.pointer (some ⟨g,0,none⟩))).run Tryz.prog w=.ok (Da l) w:=by
 have h:=run_loadVar_row (P:=Tryz.prog) w g t' 66 (l.map Ja).toArray (0,0) _ hC Tryz.underlying66 rfl (by rw [List.size_toArray,Uaj,hl];exact Za);simp only [Instr.loadAt,Instr.sureAddr,Sem.run_bind,Sem.run_pure,Result.andThen_ok];exact h
def Lu (w:World) (g:Nat):Nat:=pre ((List.range 8).map fun j=>match w.cell? ⟨g,j,none⟩ with |some (.int _ i)=>i.toNat|_=>0) 8
theorem Mu {w:World} {g:Nat} {l:List Nat} {t:TypeId} (hC:Ia w g (l.map Ja) t) (hl:l.length=8):Lu w g=pre l 8:=by
 rw [Lu];congr 1
 apply List.ext_getElem
 ·simp [hl]
 ·intro i h1 h2;have h3:=hC.get (dat l i h2);simp only [List.getElem_map,List.getElem_range,h3];simp [h2]
def QB (a y p:List Nat) (b:Bool) (ga gz:Nat) (u7 u8 u9:Value):List Value:=
 (Da a)::ptr ga::ptr gz::(Da y)::(Da p)::(.bool b)::(.bool (!b))::(u7)::(u8)::(u9)::undef::[]
def yL (a y p z:List Nat) (ga gz:Nat):List Value:=
 (Da a)::ptr ga::ptr gz::(Da y)::(Da p)::(.bool false)::(.bool true)::(Da y)::(Da p)::(Da z)::undef::[]
theorem ZD (a r:List Nat) (n:Nat) (Y:Nat→List Nat) (w:World) (HA:Hid (a=Y n∧n<mm)) (HYL:Hid (∀y,(Y y).length=8)) (HN:Hid (∀y,y<mm→pre (Y y) 8=y)) (HR:Hid (∀y,y<mm→y<pp→y%pp=n%pp→Y y=r))
 (p:List Nat) (CP:Hid (∀W,Calls Tryz.prog 114 #[] W (gvn (Da p) W))) (CL:Hid (∀y,y<mm→∀W,Calls Tryz.prog 113 #[Da (Y y),Da p] W (gvn (.bool (decide (y<pp))) W))) (CM:Hid (∀y,y<mm→pp≤y→∀W,Calls Tryz.prog 115 #[Da (Y y),Da p] W (gvn (Da (Y (y-pp))) W))):
 Calls Tryz.prog 67 #[Da a] w (gvn (Da r) w):=by
 go_enter Tryz.func67,Tryz.ntmps67;go_wp2_with (first
  |(refine Ra rfl 66 (.tmp 0) rfl (a.map Ja) rfl ?_
    intro w1 hB1 hA1;try simp only [La]
    skip)
  |(refine Ma rfl 66 rfl (Wa 8) Ac ?_
    intro w3 hb3 hZ3;have hB3:=Ba hB1 hb3;have hA3:=hA1.on hb3;have hlt:=hA1.lt;clear hB1 hA1 hb3;try simp only [La]
    skip))
 generalize hg:w1.heap.size=gz at *;clear hg
 go_loopw [3] (fun _ wr=>∃y:Nat,Hid (y<mm)∧Hid (y%pp=n%pp)∧Below w.heap.size w wr∧Ia wr w.heap.size ((Y y).map Ja) 66∧Ia wr gz (Wa 8) 66) (fun _ wr=>Lu wr w.heap.size)
 case atStart=>exact ⟨n,HA.out.2,rfl,hB3,by rw [←HA.out.1];exact hA3,hZ3⟩
 case round=>
  clear hB3 hA3 hZ3;obtain ⟨v,HV,HVM,hB,hY,hZ⟩:=hrel;have HNA:Hid (Lu wr w.heap.size=v):=by show _=_;rw [Mu hY (HYL.out v),HN.out v HV.out]
  replace CL:=Lib.hid (CL.out v HV.out);replace CM:=Lib.hid (CM.out v HV.out);have HYM:=Lib.hid (HYL.out (v-pp));have HSM:Hid (∀W:World,Ia W w.heap.size ((Y (v-pp)).map Ja) 66→pp≤v→Lu W w.heap.size<v):=fun W hW hv=>by
   rw [Mu hW (HYL.out _),HN.out _ (by have :=HV.out;omega)];have:0<pp:=by decide
   omega
  have HRv:=Lib.hid (HR.out v HV.out);replace HYL:=Lib.hid (HYL.out v);obtain ⟨z,HZ⟩:=Nb (Y (v-pp));obtain ⟨y,HY⟩:=Nb (Y v);rw [HZ.out] at CM HYM HSM;rw [HY.out] at CL CM HYL hY HRv;obtain ⟨b,HBB⟩:=Nb (decide (v<pp));rw [HBB.out] at CL;clear HN HA HR;go_wp2_with fail
  refine wp_region_any (by kernel_rfl) ?_;refine Dd (L:=[0,1,2,3]) (by kernel_rfl) _ _ (QB a y p b w.heap.size gz u7 u8 u9) [0,1,2,7,8,9,10] (by kernel_rfl) ?_ (by rfl) ?_ 0 (by kernel_rfl) ?_
  ·repeat refine Aak rfl ?_
   exact Qa
  ·change ∀i∈_,Le _ _ _ _ _ wr.drew _ i;refine Aak (sL 3 rfl fun w hb=>Sb (hY.drew.on hb) HYL.out) ?_;refine Aak (sC 4 rfl Tryz.func114 fun w hb=>CP.out w) ?_;refine Aak (sC 5 rfl Tryz.func113 fun w hb=>CL.out w) ?_;refine Aak (Pc _ 6 rfl rfl rfl (by kernel_rfl) (by kernel_rfl) fun a w hb hv=>Om _ _ _ _ rfl _ (hv 5 (by kernel_rfl)) w) ?_;exact Qa
  intro w4 hb4;have hB4:=Ba (show Below w.heap.size w wr.drew from hB.drew) hb4;have hY4:=hY.drew.on hb4;have hZ4:=hZ.drew.on hb4;clear hb4 hB hY hZ CL;refine ⟨by kernel_rfl,?_⟩;rename_i K hKK;show Exit.then K _ Exit.normal (⟨(QB a y p b w.heap.size gz u7 u8 u9).toArray,[]⟩:Act) w4;simp only [Exit.then];refine hKK _ _ ?_;clear hKK K;simp only [QB,ptr];cases b with
  |true=>
   obtain rfl:y=r:=HRv.out (by simpa using HBB.out) HVM.out;go_wp2_with (first
    |(refine Pa rfl 66 (.tmp 1) rfl w.heap.size 8 (y.map Ja) rfl hY4 Tryz.underlying66 rfl Za (by rw [Uaj,HYL.out]) ?_)
    |(refine Ka rfl 66 _ _ rfl gz 8 (Wa 8) (y.map Ja) rfl rfl hZ4 rfl Za (by rw [Uaj,HYL.out]) (Ua _) ?_
      intro w7 hb7 hC7 _))
   exact qc Tryz.results67 gz (y.map Ja) rfl hC7 Tryz.underlying66 rfl Za (by rw [Uaj,HYL.out]) rfl ⟨rfl,hB4.trans (hb7.below (by omega) hB4.size)⟩
  |false=>
   have hge:pp≤v:=by have :=HBB.out;simp only [decide_eq_false_iff_not] at this;omega
   replace CM:=Lib.hid (CM.out hge);clear HRv HBB;go_wp2_with fail
   refine wp_region_any (by kernel_rfl) ?_;refine Dd (L:=[0,1,2]) (by kernel_rfl) _ _ (yL a y p z w.heap.size gz) [0,1,2,3,4,5,6,10] (by kernel_rfl) ?_ (by rfl) ?_ 1 (by kernel_rfl) ?_
   ·repeat refine Aak rfl ?_
    exact Qa
   ·change ∀i∈_,Le _ _ _ _ _ w4.drew _ i;refine Aak (sL 7 rfl fun w hb=>Sb (hY4.drew.on hb) HYL.out) ?_;refine Aak (sC 8 rfl Tryz.func114 fun w hb=>CP.out w) ?_;refine Aak (sC 9 rfl Tryz.func115 fun w hb=>CM.out w) ?_;exact Qa
   intro w5 hb5;have hB5:=Ba (show Below w.heap.size w w4.drew from hB4.drew) hb5;have hY5:=hY4.drew.on hb5;have hZ5:=hZ4.drew.on hb5;clear hb5 hB4 hY4 hZ4 CM CP;refine Bb 3 rfl (by kernel_rfl) ?_;refine Ka rfl 66 (.tmp 1) (.tmp 9) rfl w.heap.size 8 (y.map Ja) (z.map Ja) rfl rfl hY5 (by rw [Uaj,HYL.out]) Za (by rw [Uaj,HYM.out]) (Ua _) ?_;intro w6 hb6 hY6 hz6;have hB6:=hB5.trans (hb6.below (Xaj _) hB5.size);have hZ6:=hZ5.but hb6 (by omega);clear hb6 hB5 hY5 hZ5;simp only [yL,ptr]
   go_wp2
   go_roundw
   case rel=>exact ⟨_,_,_,_,_,_,_,⟨v-pp,by have :=HV.out;show _<_;omega,by show _=_;rw [←HVM.out];exact (Nat.mod_eq_sub_mod hge).symm,hB6,by rw [HZ.out];exact hY6,hZ6⟩,rfl⟩
   case measure=>rw [HNA.out];exact HSM.out _ (by assumption) hge
theorem Jk (n:Nat) (w:World) (hn:n<mm):Calls Tryz.prog 67 #[Da (nD n)] w (gvn (Da (nD (n%pp))) w):=
 ZD (nD n) (nD (n%pp)) n nD w ⟨rfl,hn⟩ (fun _=>rfl) (fun y hy=>Ce y hy) (fun y _ h1 h2=>by rw [←h2,yaj h1]) (nD pp) Ju (fun y hy W=>xL y pp W hy (by decide)) (fun y hy h W=>Ik y pp W hy h)
def Bi (f:Nat→Nat):Nat→Nat
 |0=>0
 |k+1=>Bi f k+f k*4294967296^k
theorem Vj (l:List Nat):∀k,pre l k=Bi (fun j=>l.getD j 0) k
 |0=>rfl
 |k+1=>by rw [pre,Bi,Vj l k]
theorem Nu (f g:Nat→Nat):∀k,Bi (fun j=>f j+g j) k=Bi f k+Bi g k
 |0=>rfl
 |k+1=>by rw [Bi,Bi,Bi,Nu f g k,Nat.add_mul];omega
theorem RB (c:Nat) (f:Nat→Nat):∀k,Bi (fun j=>c*f j) k=c*Bi f k
 |0=>rfl
 |k+1=>by rw [Bi,Bi,RB c f k,Nat.mul_add,Nat.mul_assoc]
theorem SB (f g:Nat→Nat):∀k,(∀j,j<k→f j=g j)→Bi f k=Bi g k
 |0,_=>rfl
 |k+1,h=>by rw [Bi,Bi,SB f g k fun j hj=>h j (by omega),h k (by omega)]
def zg (f:Nat→Nat) (l0:List Nat) (c0:Nat):Nat→List Nat×Nat
 |0=>(l0,c0)
 |k+1=>((zg f l0 c0 k).1.set k ((f k+(zg f l0 c0 k).2)%4294967296),(f k+(zg f l0 c0 k).2)/4294967296)
theorem xe (f:Nat→Nat) (l0:List Nat) (c0:Nat):∀k,(zg f l0 c0 k).1.length=l0.length
 |0=>rfl
 |k+1=>by rw [zg,List.length_set,xe]
theorem Ou (f:Nat→Nat) {l0:List Nat} (c0:Nat) (h:∀k,l0.getD k 0<4294967296):∀k j,(zg f l0 c0 k).1.getD j 0<4294967296
 |0=>h
 |k+1=>by rw [zg];exact OB (Ou f c0 h k) k _ (Nat.mod_lt _ (by decide))
theorem Al (f:Nat→Nat) (l0:List Nat) (c0:Nat):∀k j,k≤j→(zg f l0 c0 k).1.getD j 0=l0.getD j 0
 |0,_,_=>rfl
 |k+1,j,h=>by rw [zg,Lg _ _ _ _ (by omega),Al f l0 c0 k j (by omega)]
theorem Kp (f:Nat→Nat) (l0:List Nat) (c0:Nat):∀k,k≤l0.length→pre (zg f l0 c0 k).1 k+(zg f l0 c0 k).2*4294967296^k=Bi f k+c0
 |0,_=>by simp [zg,pre,Bi]
 |k+1,h=>by
  have ih:=Kp f l0 c0 k (by omega);have hl:=xe f l0 c0 k;rw [zg];show pre ((zg f l0 c0 k).1.set k ((f k+(zg f l0 c0 k).2)%4294967296)) (k+1)+(f k+(zg f l0 c0 k).2)/4294967296*_=_;rw [Ar _ _ _ (by omega),Bi,Nat.pow_succ];generalize (zg f l0 c0 k).2=o at *;have e:=Nat.div_add_mod (f k+o) 4294967296;generalize (f k+o)%4294967296=r at *;generalize (f k+o)/4294967296=q at *;have e2:(4294967296*q+r)*4294967296^k=(f k+o)*4294967296^k:=by rw [e]
  rw [Nat.add_mul,Nat.add_mul,Nat.mul_assoc,Nat.mul_left_comm] at e2;rw [Nat.mul_comm (4294967296^k)];omega
theorem Cr (f:Nat→Nat) (l0:List Nat) (c0 m:Nat) (hc:c0≤m) (hf:∀k,f k+m<(m+1)*4294967296):∀k,(zg f l0 c0 k).2≤m
 |0=>hc
 |k+1=>by
  have ih:=Cr f l0 c0 m hc hf k;have h:=hf k;rw [zg];show (f k+(zg f l0 c0 k).2)/4294967296≤m;have:(f k+(zg f l0 c0 k).2)/4294967296<m+1:=Nat.div_lt_of_lt_mul (by rw [Nat.mul_comm];omega);omega
theorem zL:∀w,(zeroValue 150).run Tryz.prog w=.ok (.agg (Wa 16).toArray) w:=(zero_of_info (P:=Tryz.prog) (t:=150) (v:=.agg (Wa 16).toArray) (n:=16) (by kernel_rfl)).1
theorem Pu:(Tryz.prog.info? 150).map (·.size)=some 16:=by kernel_rfl
theorem BG (w:World):(Instr.build 150 #[]).run Tryz.prog w=.ok (.agg (Wa 16).toArray) w:=by kernel_rfl
def DG (u o:Nat):Nat:=if o=0 then 0 else if u+38*o<mm then 1 else 2
theorem QI (a r:List Nat) (S:Nat→List Nat) (O:Nat→Nat) (n:Nat) (V:Nat→Nat→Nat→List Nat×Nat) (w:World) (HA:Hid (a.length=16∧∀k,a.getD k 0<4294967296)) (HL:Hid (∀k,(S k).length=8)) (H0:Hid (S 0= [0,0,0,0,0,0,0,0]∧O 0=0)) (HS:Hid (∀k,S (k+1)=(S k).set k ((a.getD k 0+38*a.getD (8+k) 0+O k)%4294967296)∧O (k+1)=(a.getD k 0+38*a.getD (8+k) 0+O k)/4294967296)) (HO:Hid (∀k,O k≤38))
 (HU:Hid (∃u,u<mm∧S 8=nD u∧(u+mm*O 8)%pp=n%pp)) (HV:Hid (∀u o,V u o 0=(nD u,38*o)∧(∀k,(V u o k).1.length=8)∧(∀k,V u o (k+1)=((V u o k).1.set k (((nD u).getD k 0+(V u o k).2)%4294967296),((nD u).getD k 0+(V u o k).2)/4294967296))∧∀k,(V u o k).1.getD k 0=(nD u).getD k 0))
 (HC:Hid (∀u o,u<mm→o≤38→(∀k,(V u o k).2≤1500)∧(V u o 8).1=nD ((u+38*o)%mm)∧(V u o 8).2=(u+38*o)/mm))
 (CL:Hid (∀u,u<mm→u%pp=n%pp→∀W,Calls Tryz.prog 67 #[Da (nD u)] W (gvn (Da r) W))) (HRL:Hid (r.length=8)):
 Calls Tryz.prog 116 #[Da a] w (gvn (Da r) w):=by
 go_enter Tryz.func116,Tryz.ntmps116;go_wp2_with (first
  |(refine Ra rfl 150 (.tmp 0) rfl (a.map Ja) rfl ?_
    intro w1 hB1 hA1;try simp only [La]
    skip)
  |(refine Ma (o:=⟨some 2,_,_,_,_,_⟩) rfl 66 rfl (Wa 8) Ac ?_
    intro w3 hb3 hZ3;have hB3:=Ba hB1 hb3;have hA3:=hA1.on hb3;have hg2:=hA1.lt;clear hB1 hA1 hb3;try simp only [La]
    skip)
  |(refine Eb rfl 66 [] rfl [] rfl _ Br ?_
    try simp only [La]
    skip)
  |(refine Db rfl rfl 66 (.tmp 3) (.tmp 9) rfl rfl 8 (Wa 8) (Wa 8) rfl rfl Ac rfl Za rfl (by rw [Gj];exact Ua _) ?_
    intro w4 hb4 hS4;have hB4:=Ba hB3 hb4;have hA4:=hA3.on hb4;have hZ4:=hZ3.on hb4;have hg3:=hZ3.lt;clear hB3 hA3 hZ3 hb4;try simp only [La]
    skip))
 generalize hh:w1.heap.size=gz at *;generalize hi:w3.heap.size=gs at *;clear hh hi
 go_loopw [4,5] (fun v i wr=>∃k:Nat,k≤8∧i=.int .i64 k∧v=.int .u64 (O k:Int)∧Below w.heap.size w wr∧Ia wr w.heap.size (a.map Ja) 150∧Ia wr gz (Wa 8) 66∧Ia wr gs ((S k).map Ja) 66) (fun _ i _=>8-(intOf i).toNat)
 case atStart=>exact ⟨0,Nat.zero_le _,rfl,by rw [H0.out.2];rfl,hB4,hA4,hZ4,by rw [H0.out.1,←Oz];exact hS4⟩
 case round=>
  clear hB4 hA4 hZ4 hS4;obtain ⟨k,hk,rfl,rfl,hB,hA,hZ,hS⟩:=hrel;have HLk:=Lib.hid (HL.out k);by_cases hlt:k<8
  ·have HN:=Lib.hid (HS.out k);have ho:=HO.out k;have hp:=HA.out.2 k;have hq:=HA.out.2 (8+k);have d1:=hA.get (dat a k (by rw [HA.out.1];omega));have d2:=hA.get (dat a (8+k) (by rw [HA.out.1];omega));obtain ⟨z,HZ⟩:=Nb (S (k+1));obtain ⟨o2,HO2⟩:=Nb (O (k+1));rw [HZ.out,HO2.out] at HN;generalize S k=s at *;generalize O k=o at *;generalize a.getD k 0=p at *;generalize a.getD (8+k) 0=q at *;clear HA HL H0 HS HO HU HV HC CL HRL;have c1:=Am p (by omega);have c3:=Am q (by omega);obtain ⟨x1,hx1⟩:∃x1,x1=38*q:=⟨_,rfl⟩;have c2:IntKind.u64.wrap (38*(q:Int))=(x1:Int):=by rw [hx1];exact Cu 38 q (by omega)
   obtain ⟨x2,hx2⟩:∃x2,x2=p+x1:=⟨_,rfl⟩;have c4:IntKind.u64.wrap ((p:Int)+(x1:Int))=(x2:Int):=by rw [hx2];exact Si p x1 (by omega)
   obtain ⟨x,hx⟩:∃x,x=x2+o:=⟨_,rfl⟩;have c5:IntKind.u64.wrap ((x2:Int)+(o:Int))=(x:Int):=by rw [hx];exact Si x2 o (by omega)
   have c6:=Un x;have c7:(x:Int)/4294967296=(o2:Int):=by rw [HN.out.2,←hx1,←hx2,←hx];rfl
   have c8:IntKind.i64.wrap (8+(k:Int))=8+(k:Int):=IntWalk.i64_in _ (by omega);have e9:(8+(k:Int))=((8+k:Nat):Int):=by omega
   have i1:(0:Int)≤(k:Int):=by omega
   have i2:(k:Int)<8:=by omega
   have i3:(0:Int)≤8+(k:Int):=by omega
   have i4:8+(k:Int)<16:=by omega
   have i5:(k:Int)<16:=by omega
   have i6:(8+(k:Int)).toNat=8+k:=by omega
   rw [←hx1,←hx2,←hx] at HN;obtain ⟨v,HV⟩:=Nb (x%4294967296);rw [HV.out] at HN c6;clear hx1 hx2 hx HV hp hq e9;go_wp2_with fail
   go_quiet (fail)
   have hB4:Below w.heap.size w (wr.drewN nq):=⟨hB.os,hB.tape,hB.output,hB.size,hB.block⟩;have hA4:=hA.drewN nq;have hZ4:=hZ.drewN nq;have hS4:=hS.drewN nq;generalize wr.drewN nq=w4 at *;clear hB hA hZ hS d1 d2;have hT:=hS4.there k 1 (by rw [Uaj,HLk.out];omega);have hE:=Lib.hid (hS4.set k (Ja v));go_wp2_with (first
    |(refine Qb rfl 64 _ _ rfl gs k .u32 (v:Int) rfl rfl qf hT ?_
      intro w5 hw5;have hB5:Below w.heap.size w w5:=by rw [hw5];exact hB4.setCell (p:=⟨gs,k,none⟩) (by show w.heap.size≤gs;omega) _
      have hA5:Ia w5 w.heap.size (a.map Ja) 150:=by rw [hw5];exact hA4.other (by show w.heap.size≠gs;omega) _
      have hZ5:Ia w5 gz (Wa 8) 66:=by rw [hw5];exact hZ4.other (by show gz≠gs;omega) _
      have hS5:Ia w5 gs (z.map Ja) 66:=by rw [hw5,HN.out.1,←Ih];exact hE.out
      clear hw5 hT hE hB4 hA4 hZ4 hS4))
   go_roundw
   case rel=>exact ⟨k+1,by omega,by go_num,by rw [HO2.out],hB5,hA5,hZ5,by rw [HZ.out];exact hS5⟩
   case measure=>simp [intOf];omega
  ·obtain rfl:k=8:=by omega
   obtain ⟨u0,hu0,hs0,hm0⟩:=HU.out;have ho0:=HO.out 8;rw [hs0] at hS;generalize O 8=o0 at *;clear HL H0 HS HO HU HLk hA HA hs0;go_wp2_with fail
   go_loopw [4] (fun v wr=>∃u o:Nat,Hid (u<mm∧o≤38∧(u+mm*o)%pp=n%pp)∧v=.int .u64 (o:Int)∧Below w.heap.size w wr∧Ia wr gz (Wa 8) 66∧Ia wr gs ((nD u).map Ja) 66) (fun v wr=>DG (Lu wr gs) (intOf v).toNat)
   case atStart=>exact ⟨u0,o0,⟨hu0,ho0,hm0⟩,rfl,hB,hZ,hS⟩
   case round=>
    clear hB hZ hS hu0 hm0 ho0;obtain ⟨u,o,HUO,rfl,hB,hZ,hS⟩:=hrel;by_cases h0:0<o
    ·have HVu:=HV.out u o;have HCu:=HC.out u o HUO.out.1 HUO.out.2.1;have HMS:Hid (DG (Lu wr gs) o=DG u o):=by show _=_;rw [Mu hS rfl,Ce u HUO.out.1]
     have HDS:=Lib.hid (fun k=>(Td u).2 k);generalize V u o=vv at *;obtain ⟨q,HQ⟩:=Nb (nD u);rw [HQ.out] at hS HVu HDS;obtain ⟨hv0,hvl,hvs,hvr⟩:=HVu;obtain ⟨hcl,hc1,hc2⟩:=HCu;have HV0:=Lib.hid hv0;have HVL:=Lib.hid hvl;have HVS:=Lib.hid hvs;have HVR:=Lib.hid hvr;have HCL:=Lib.hid hcl;have HC1:=Lib.hid hc1;have HC2:=Lib.hid hc2;have c1:IntKind.u64.wrap ((o:Int)*38)=((38*o:Nat):Int):=by
      have :=HUO.out.2.1;rw [Int.mul_comm];exact Cu 38 o (by omega)
     have i0:(0:Int)<(o:Int):=by omega
     clear hv0 hvl hvs hvr hcl hc1 hc2 HV HC CL HRL;go_wp2_with fail
     go_loopw [7,8] (fun x i wr=>∃k:Nat,k≤8∧i=.int .i64 k∧x=.int .u64 ((vv k).2:Int)∧Below w.heap.size w wr∧Ia wr gz (Wa 8) 66∧Ia wr gs ((vv k).1.map Ja) 66) (fun _ i _=>8-(intOf i).toNat)
     case atStart=>exact ⟨0,Nat.zero_le _,rfl,by rw [HV0.out];rfl,hB,hZ,by rw [HV0.out];exact hS⟩
     case round=>
      clear hB hZ hS;obtain ⟨k,hk,rfl,rfl,hB,hZ,hS⟩:=hrel;have HLk:=Lib.hid (HVL.out k);by_cases hlt:k<8
      ·have HN:=Lib.hid (HVS.out k);have hc:=HCL.out k;have hp:=HDS.out k;have d1:=hS.get (dat (vv k).1 k (by rw [HLk.out];omega));rw [HVR.out k] at d1;have hT:=hS.there k 1 (by rw [Uaj,HLk.out];omega);obtain ⟨z,HZ⟩:=Nb (vv (k+1));rw [HZ.out] at HN;generalize (vv k).2=c at *;generalize (vv k).1=s at *;generalize q.getD k 0=p at *;have c3:=Am p (by omega);obtain ⟨x,hx⟩:∃x,x=c+p:=⟨_,rfl⟩;have c5:IntKind.u64.wrap ((c:Int)+(p:Int))=(x:Int):=by rw [hx];exact Si c p (by omega)
       rw [Nat.add_comm p c,←hx] at HN;have c6:=Un x;obtain ⟨x3,hx3⟩:∃x3,x3=x/4294967296:=⟨_,rfl⟩;have c7:(x:Int)/4294967296=(x3:Int):=by rw [hx3];rfl
       rw [←hx3] at HN;obtain ⟨v,HV⟩:=Nb (x%4294967296);rw [HV.out] at HN c6;have hE:=Lib.hid (hS.set k (Ja v));have i1:(0:Int)≤(k:Int):=by omega
       have i2:(k:Int)<8:=by omega
       clear hx hx3 HV hp hc HV0 HVL HVS HVR HCL HC1 HC2 HDS;go_wp2_with (first
        |(refine Qb rfl 64 _ _ rfl gs k .u32 (v:Int) rfl rfl qf hT ?_
          intro w5 hw5;have hB5:Below w.heap.size w w5:=by rw [hw5];exact hB.setCell (p:=⟨gs,k,none⟩) (by show w.heap.size≤gs;omega) _
          have hZ5:Ia w5 gz (Wa 8) 66:=by rw [hw5];exact hZ.other (by show gz≠gs;omega) _
          have hS5:Ia w5 gs (z.1.map Ja) 66:=by rw [hw5,HN.out,←Ih];exact hE.out
          clear hw5 hT hE hB hZ hS))
       go_roundw
       case rel=>exact ⟨_,_,_,_,_,_,_,_,_,_,_,_,_,_,_,_,_,_,⟨k+1,by omega,by go_num,by rw [HZ.out,HN.out],hB5,hZ5,by rw [HZ.out];exact hS5⟩,rfl⟩
       case measure=>simp [intOf];omega
      ·obtain rfl:k=8:=by omega
       rw [HC1.out] at hS;rw [HC2.out];clear HV0 HVL HVS HVR HCL HC1 HC2 HDS HLk
       go_wp2
       go_roundw
       case rel=>
        refine ⟨(u+38*o)%mm,(u+38*o)/mm,⟨Nat.mod_lt _ (by decide),?_,?_⟩,rfl,hB,hZ,hS⟩
        ·have :=HUO.out;simp only [mm] at *;omega
        ·have h1:=HUO.out.2.2;have h2:=Nat.div_add_mod (u+38*o) mm;have h3:(u+38*o)%mm+mm*((u+38*o)/mm)=u+38*o:=by omega
         rw [h3,←h1,show u+mm*o=(u+38*o)+pp*(2*o) by simp only [mm,pp];omega,Nat.add_mul_mod_self_left]
       case measure=>
        have h1:=HUO.out;have h2:Lu wr gs=(u+38*o)%mm:=by rw [Mu hS rfl,Ce _ (Nat.mod_lt _ (by decide))]
        show DG (Lu wr gs) ((((u+38*o)/mm:Nat):Int)).toNat<DG _ ((o:Int)).toNat;rw [Int.toNat_natCast,Int.toNat_natCast,HMS.out,h2];simp only [DG,mm] at *
        (repeat' split)<;>omega
    ·obtain rfl:o=0:=by omega
     have HCL:=Lib.hid (CL.out u HUO.out.1 (by have :=HUO.out.2.2;rwa [Nat.mul_zero,Nat.add_zero] at this));obtain ⟨q,HQ⟩:=Nb (nD u);have HQL:Hid (q.length=8):=by show _=_;rw [←HQ.out];rfl
     rw [HQ.out] at hS HCL;clear HV HC CL HUO;go_wp2_with (first
      |(refine Pa rfl 66 (.tmp 3) rfl gs 8 (q.map Ja) rfl hS Tryz.underlying66 rfl Za (by rw [Uaj,HQL.out]) ?_))
     refine (HCL.out wr).mono ?_;rintro e w6 ⟨rfl,hb6⟩;have hB6:=Ba hB hb6;have hZ6:=hZ.on hb6;clear HCL hB hZ hS hb6;go_wp2_with (first
      |(refine Ka rfl 66 _ _ rfl gz 8 (Wa 8) (r.map Ja) rfl rfl hZ6 rfl Za (by rw [Uaj,HRL.out]) (Ua r) ?_
        intro w7 hb7 hC7 _))
     exact qc Tryz.results116 gz (r.map Ja) rfl hC7 Tryz.underlying66 rfl Za (by rw [Uaj,HRL.out]) rfl ⟨rfl,hB6.trans (hb7.below (by omega) hB6.size)⟩
def yx (a:List Nat) (k:Nat):Nat:=a.getD k 0+38*a.getD (8+k) 0
def Rh (a:List Nat) (k:Nat):List Nat×Nat:=zg (yx a) [0,0,0,0,0,0,0,0] 0 k
def Zg (u o k:Nat):List Nat×Nat:=zg (fun j=>(nD u).getD j 0) (nD u) (38*o) k
theorem OR (a:List Nat) (k:Nat):(Rh a (k+1)).1=(Rh a k).1.set k ((a.getD k 0+38*a.getD (8+k) 0+(Rh a k).2)%4294967296)∧(Rh a (k+1)).2=(a.getD k 0+38*a.getD (8+k) 0+(Rh a k).2)/4294967296:=by
 rw [Rh,zg,yx,←Rh];exact ⟨rfl,rfl⟩
theorem PR (u o k:Nat):Zg u o (k+1)=((Zg u o k).1.set k (((nD u).getD k 0+(Zg u o k).2)%4294967296),((nD u).getD k 0+(Zg u o k).2)/4294967296):=by
 rw [Zg,zg,←Zg]
theorem Cad (a:List Nat):∃u,u<mm∧(Rh a 8).1=nD u∧(u+mm*(Rh a 8).2)%pp=pre a 16%pp:=by
 have hd:D8 (Rh a 8).1:=⟨xe _ _ _ 8,Ou _ _ D8.zeros.2 8⟩;refine ⟨pre (Rh a 8).1 8,hd.lt,hd.is,?_⟩;have h:pre (Rh a 8).1 8+(Rh a 8).2*4294967296^8=Bi (yx a) 8+0:=Kp (yx a) [0,0,0,0,0,0,0,0] 0 8 (Xaj _);have hF:Bi (yx a) 8=pre a 8+38*Bi (fun j=>a.getD (8+j) 0) 8:=by
  rw [show yx a=fun k=>a.getD k 0+38*a.getD (8+k) 0 from rfl,Nu,RB,←Vj]
 have key:∀n,pre a (8+n)=pre a 8+4294967296^8*Bi (fun j=>a.getD (8+j) 0) n:=by
  intro n
  induction n with
  |zero=>rw [Bi,Nat.mul_zero,Nat.add_zero,Nat.add_zero]
  |succ n ih=>rw [←Nat.add_assoc,pre,ih,Bi,Nat.mul_add,Nat.pow_add,Nat.mul_left_comm,Nat.add_assoc]
 have e:=key 8;rw [hF] at h;generalize Bi (fun j=>a.getD (8+j) 0) 8=q at *;rw [show (8+8:Nat)=16 from rfl] at e;generalize pre a 16=x at *;generalize pre a 8=y at *;generalize pre (Rh a 8).1 8=u at *;generalize (Rh a 8).2=o at *;rw [show (4294967296:Nat)^8=mm from by decide] at *;have e2:x=(u+mm*o)+pp*(2*q):=by simp only [mm,pp] at *;omega
 rw [e2,Nat.add_mul_mod_self_left]
theorem Dad (u o:Nat) (hu:u<mm) (ho:o≤38):(∀k,(Zg u o k).2≤1500)∧(Zg u o 8).1=nD ((u+38*o)%mm)∧(Zg u o 8).2=(u+38*o)/mm:=by
 have hd:D8 (Zg u o 8).1:=⟨xe _ _ _ 8,Ou _ _ (Td u).2 8⟩;have h:pre (Zg u o 8).1 8+(Zg u o 8).2*4294967296^8=Bi (fun j=>(nD u).getD j 0) 8+38*o:=Kp (fun k=>(nD u).getD k 0) (nD u) (38*o) 8 (Nat.le_of_eq (qe u).symm);rw [←Vj,Ce u hu] at h;have hlt:=hd.lt;have his:=hd.is;have hle:∀k,(Zg u o k).2≤1500:=Cr (fun k=>(nD u).getD k 0) (nD u) (38*o) 1500 (by omega) (fun k=>by have :=(Td u).2 k;omega);rw [his];generalize pre (Zg u o 8).1 8=x at *;generalize (Zg u o 8).2=c at *;rw [show (4294967296:Nat)^8=mm from by decide] at h;have e1:x=(u+38*o)%mm∧c=(u+38*o)/mm:=by simp only [mm] at *;omega
 exact ⟨hle,by rw [e1.1],e1.2⟩
theorem N3 (a:List Nat) (ha:∀k,a.getD k 0<4294967296) (k:Nat):(Rh a k).2≤38:=
 Cr (yx a) [0,0,0,0,0,0,0,0] 0 38 (Nat.zero_le _) (fun k=>by have :=ha k;have :=ha (8+k);rw [yx];omega) k
theorem RI (a:List Nat) (k:Nat):(Rh a k).1.length=8:=xe _ _ _ k
theorem QR (a:List Nat):(Rh a 0).1= [0,0,0,0,0,0,0,0]∧(Rh a 0).2=0:=by rw [Rh,zg];exact ⟨rfl,rfl⟩
theorem JX (u o:Nat):Zg u o 0=(nD u,38*o)∧(∀k,(Zg u o k).1.length=8)∧(∀k,Zg u o (k+1)=((Zg u o k).1.set k (((nD u).getD k 0+(Zg u o k).2)%4294967296),((nD u).getD k 0+(Zg u o k).2)/4294967296))∧∀k,(Zg u o k).1.getD k 0=(nD u).getD k 0:=
 ⟨by rw [Zg,zg],fun k=>xe _ _ _ k,PR u o,fun k=>Al _ _ _ k k (Xaj _)⟩
theorem zx (a:List Nat) (w:World) (hl:a.length=16) (ha:∀k,a.getD k 0<4294967296):Calls Tryz.prog 116 #[Da a] w (gvn (Da (nD (pre a 16%pp))) w):=
 QI a (nD (pre a 16%pp)) (fun k=>(Rh a k).1) (fun k=>(Rh a k).2) (pre a 16) Zg w ⟨hl,ha⟩ (RI a) (QR a) (OR a) (N3 a ha) (Cad a) JX Dad
  (fun u hu hm W=>by rw [←hm];exact Jk u W hu) (qe _)
def z16:List Nat:=[0,0,0,0,0,0,0,0,0,0,0,0,0,0,0,0]
theorem qL:Wa 16=z16.map Ja:=rfl
theorem Lp (k:Nat):z16.getD k 0=0:=by
 rcases Nat.lt_or_ge k 16 with h|h
 ·rw [show z16=List.replicate 16 0 from rfl,Yaj,List.getElem?_replicate];simp [h]
 ·rw [Yaj,List.getElem?_eq_none (show z16.length≤k from h)];rfl
theorem AM (l:List Nat) (m:Nat) (h:∀j,m≤j→l.getD j 0=0):∀n,pre l (m+n)=pre l m
 |0=>rfl
 |n+1=>by rw [←Nat.add_assoc,pre,AM l m h n,h (m+n) (by omega),Nat.zero_mul,Nat.add_zero]
theorem BM (a b r q:List Nat) (S:Nat→List Nat) (O:Nat→Nat) (w:World) (HA:Hid (a.length=8∧∀k,a.getD k 0<4294967296)) (HB:Hid (b.length=8∧∀k,b.getD k 0<4294967296)) (HL:Hid (∀k,(S k).length=16)) (H0:Hid (S 0=z16∧O 0=0)) (HS:Hid (∀k,S (k+1)=(S k).set k ((a.getD k 0+b.getD k 0+O k)%4294967296)∧O (k+1)=(a.getD k 0+b.getD k 0+O k)/4294967296)) (HO:Hid (∀k,O k≤1)) (HQ:Hid (q=(S 8).set 8 (O 8))) (HQL:Hid (q.length=16))
 (CF:Hid (∀W,Calls Tryz.prog 116 #[Da q] W (gvn (Da r) W))) (HRL:Hid (r.length=8)):
 Calls Tryz.prog 73 #[Da a,Da b] w (gvn (Da r) w):=by
 go_enter Tryz.func73,Tryz.ntmps73;go_wp2_with (first
  |(refine Ra rfl 66 (.tmp 0) rfl (a.map Ja) rfl ?_
    intro w1 hB1 hA1;try simp only [La]
    skip)
  |(refine Ra rfl 66 (.tmp 1) rfl (b.map Ja) rfl ?_
    intro w2 hb2 hC2;have hB2:=Ba hB1 hb2;have hA2:=hA1.on hb2;have hg1:=hA1.lt;clear hB1 hA1 hb2;try simp only [La]
    skip)
  |(refine Ma (o:=⟨some 4,_,_,_,_,_⟩) rfl 66 rfl (Wa 8) Ac ?_
    intro w3 hb3 hZ3;have hB3:=Ba hB2 hb3;have hA3:=hA2.on hb3;have hC3:=hC2.on hb3;have hg2:=hC2.lt;clear hB2 hA2 hC2 hb3;try simp only [La]
    skip)
  |(refine Eb rfl 150 [] rfl [] rfl _ BG ?_
    try simp only [La]
    skip)
  |(refine Db rfl rfl 150 (.tmp 5) (.tmp 9) rfl rfl 16 (Wa 16) (Wa 16) rfl rfl zL rfl Pu rfl (by rw [Gj];exact Ua _) ?_
    intro w4 hb4 hS4;have hB4:=Ba hB3 hb4;have hA4:=hA3.on hb4;have hC4:=hC3.on hb4;have hZ4:=hZ3.on hb4;have hg3:=hZ3.lt;clear hB3 hA3 hC3 hZ3 hb4;try simp only [La]
    skip))
 generalize hg:w1.heap.size=gb at *;generalize hh:w2.heap.size=gz at *;generalize hi:w3.heap.size=gs at *;clear hg hh hi
 go_loopw [6,7] (fun v i wr=>∃k:Nat,k≤8∧i=.int .i64 k∧v=.int .u64 (O k:Int)∧Below w.heap.size w wr∧Ia wr w.heap.size (a.map Ja) 66∧Ia wr gb (b.map Ja) 66∧Ia wr gz (Wa 8) 66∧Ia wr gs ((S k).map Ja) 150) (fun _ i _=>8-(intOf i).toNat)
 case atStart=>exact ⟨0,Nat.zero_le _,rfl,by rw [H0.out.2];rfl,hB4,hA4,hC4,hZ4,by rw [H0.out.1,←qL];exact hS4⟩
 case round=>
  clear hB4 hA4 hC4 hZ4 hS4;obtain ⟨k,hk,rfl,rfl,hB,hA,hC,hZ,hS⟩:=hrel;have HLk:=Lib.hid (HL.out k);by_cases hlt:k<8
  ·have HN:=Lib.hid (HS.out k);have ho:=HO.out k;have hp:=HA.out.2 k;have hq:=HB.out.2 k;have d1:=hA.get (dat a k (by rw [HA.out.1];omega));have d2:=hC.get (dat b k (by rw [HB.out.1];omega));obtain ⟨z,HZ⟩:=Nb (S (k+1));obtain ⟨o2,HO2⟩:=Nb (O (k+1));rw [HZ.out,HO2.out] at HN;generalize S k=s at *;generalize O k=o at *;generalize a.getD k 0=p at *;generalize b.getD k 0=y at *;clear HA HB HL H0 HS HO HQ HQL CF HRL;have c1:=Am p (by omega);have c3:=Am y (by omega);obtain ⟨x2,hx2⟩:∃x2,x2=p+y:=⟨_,rfl⟩;have c4:IntKind.u64.wrap ((p:Int)+(y:Int))=(x2:Int):=by rw [hx2];exact Si p y (by omega)
   obtain ⟨x,hx⟩:∃x,x=x2+o:=⟨_,rfl⟩;have c5:IntKind.u64.wrap ((x2:Int)+(o:Int))=(x:Int):=by rw [hx];exact Si x2 o (by omega)
   have c6:=Un x;have c7:(x:Int)/4294967296=(o2:Int):=by rw [HN.out.2,←hx2,←hx];rfl
   rw [←hx2,←hx] at HN;obtain ⟨v,HV⟩:=Nb (x%4294967296);rw [HV.out] at HN c6;clear hx2 hx HV hp hq;have i1:(0:Int)≤(k:Int):=by omega
   have i2:(k:Int)<16:=by omega
   go_wp2_with fail
   go_quiet (fail)
   have hB4:Below w.heap.size w (wr.drewN nq):=⟨hB.os,hB.tape,hB.output,hB.size,hB.block⟩;have hA4:=hA.drewN nq;have hC4:=hC.drewN nq;have hZ4:=hZ.drewN nq;have hS4:=hS.drewN nq;generalize wr.drewN nq=w4 at *;clear hB hA hC hZ hS d1 d2;have hT:=hS4.there k 1 (by rw [Uaj,HLk.out];omega);have hE:=Lib.hid (hS4.set k (Ja v));go_wp2_with (first
    |(refine Qb rfl 64 _ _ rfl gs k .u32 (v:Int) rfl rfl qf hT ?_
      intro w5 hw5;have hB5:Below w.heap.size w w5:=by rw [hw5];exact hB4.setCell (p:=⟨gs,k,none⟩) (by show w.heap.size≤gs;omega) _
      have hA5:Ia w5 w.heap.size (a.map Ja) 66:=by rw [hw5];exact hA4.other (by show w.heap.size≠gs;omega) _
      have hC5:Ia w5 gb (b.map Ja) 66:=by rw [hw5];exact hC4.other (by show gb≠gs;omega) _
      have hZ5:Ia w5 gz (Wa 8) 66:=by rw [hw5];exact hZ4.other (by show gz≠gs;omega) _
      have hS5:Ia w5 gs (z.map Ja) 150:=by rw [hw5,HN.out.1,←Ih];exact hE.out
      clear hw5 hT hE hB4 hA4 hC4 hZ4 hS4))
   go_roundw
   case rel=>exact ⟨k+1,by omega,by go_num,by rw [HO2.out],hB5,hA5,hC5,hZ5,by rw [HZ.out];exact hS5⟩
   case measure=>simp [intOf];omega
  ·obtain rfl:k=8:=by omega
   have ho:=HO.out 8;generalize S 8=s at *;generalize O 8=o at *;have c6:IntKind.u32.wrap (o:Int)=(o:Int):=by rw [Un];omega
   have hT:=hS.there 8 1 (by rw [Uaj,HLk.out];omega);have hE:Hid (Ia (wr.setCell ⟨gs,8,none⟩ (Ja o)) gs (q.map Ja) 150):=by rw [HQ.out,←Ih];exact hS.set 8 (Ja o)
   clear HA HB HL H0 HS HO HQ HLk hA hC ho;go_wp2_with (first
    |(refine Qb rfl 64 _ _ rfl gs 8 .u32 (o:Int) rfl rfl qf hT ?_
      intro w5 hw5;have hB5:Below w.heap.size w w5:=by rw [hw5];exact hB.setCell (p:=⟨gs,8,none⟩) (by show w.heap.size≤gs;omega) _
      have hZ5:Ia w5 gz (Wa 8) 66:=by rw [hw5];exact hZ.other (by show gz≠gs;omega) _
      have hS5:Ia w5 gs (q.map Ja) 150:=by rw [hw5];exact hE.out
      clear hw5 hT hE hB hZ hS)
    |(refine Pa rfl 150 (.tmp 5) rfl gs 16 (q.map Ja) rfl hS5 Tryz.underlying150 rfl Pu (by rw [Uaj,HQL.out]) ?_))
   refine (CF.out w5).mono ?_;rintro e w6 ⟨rfl,hb6⟩;have hB6:=Ba hB5 hb6;have hZ6:=hZ5.on hb6;clear CF hB5 hZ5 hS5 hb6;go_wp2_with (first
    |(refine Ka rfl 66 _ _ rfl gz 8 (Wa 8) (r.map Ja) rfl rfl hZ6 rfl Za (by rw [Uaj,HRL.out]) (Ua r) ?_
      intro w7 hb7 hC7 _))
   exact qc Tryz.results73 gz (r.map Ja) rfl hC7 Tryz.underlying66 rfl Za (by rw [Uaj,HRL.out]) rfl ⟨rfl,hB6.trans (hb7.below (by omega) hB6.size)⟩
def Kk (a b:List Nat) (k:Nat):List Nat×Nat:=zg (fun j=>a.getD j 0+b.getD j 0) z16 0 k
theorem KX (a b:List Nat) (k:Nat):(Kk a b (k+1)).1=(Kk a b k).1.set k ((a.getD k 0+b.getD k 0+(Kk a b k).2)%4294967296)∧(Kk a b (k+1)).2=(a.getD k 0+b.getD k 0+(Kk a b k).2)/4294967296:=by
 rw [Kk,zg,←Kk];exact ⟨rfl,rfl⟩
theorem LX (a b:List Nat):(Kk a b 0).1=z16∧(Kk a b 0).2=0:=by rw [Kk,zg];exact ⟨rfl,rfl⟩
theorem Mp (a b:List Nat) (k:Nat):(Kk a b k).1.length=16:=xe _ _ _ k
theorem UU {a b:List Nat} (ha:∀k,a.getD k 0<4294967296) (hb:∀k,b.getD k 0<4294967296) (k:Nat):(Kk a b k).2≤1:=
 Cr _ _ _ 1 (Nat.zero_le _) (fun k=>by have :=ha k;have :=hb k;omega) k
theorem X8 (a b:List Nat):∀k,(Kk a b 8).1.getD k 0<4294967296:=Ou _ 0 (fun k=>by rw [Lp];decide) 8
theorem O3 (a b:List Nat):pre ((Kk a b 8).1.set 8 (Kk a b 8).2) 16=pre a 8+pre b 8:=by
 have h:pre (Kk a b 8).1 8+(Kk a b 8).2*4294967296^8=Bi (fun j=>a.getD j 0+b.getD j 0) 8+0:=Kp _ z16 0 8 (by decide);rw [Nu,←Vj,←Vj,Nat.add_zero] at h;have h0:∀j,9≤j→((Kk a b 8).1.set 8 (Kk a b 8).2).getD j 0=0:=fun j hj=>by
  rw [Lg _ _ _ _ (by omega),Kk,Al _ _ _ 8 j (by omega),Lp]
 rw [show 16=9+7 from rfl,AM _ 9 h0 7,Ar _ 8 _ (by rw [Mp];decide),h]
theorem TB (n m:Nat) (w:World) (hn:n<mm) (hm:m<mm):Calls Tryz.prog 73 #[Da (nD n),Da (nD m)] w (gvn (Da (nD ((n+m)%pp))) w):=by
 have hq:=O3 (nD n) (nD m);rw [Ce n hn,Ce m hm] at hq;have hl:((Kk (nD n) (nD m) 8).1.set 8 (Kk (nD n) (nD m) 8).2).length=16:=by rw [List.length_set,Mp]
 have hlt:=OB (X8 (nD n) (nD m)) 8 _ (Nat.lt_of_le_of_lt (UU (Td n).2 (Td m).2 8) (by decide));refine BM (nD n) (nD m) (nD ((n+m)%pp)) _ (fun k=>(Kk (nD n) (nD m) k).1) (fun k=>(Kk (nD n) (nD m) k).2) w (Td n) (Td m) (Mp _ _) (LX _ _) (KX _ _) (UU (Td n).2 (Td m).2) rfl hl (fun W=>?_) (qe _);have h:=zx _ W hl hlt;rw [hq] at h;exact h
theorem xD (a b r q:List Nat) (S:Nat→List Nat) (V:Nat→Nat→List Nat×Nat) (w:World) (HA:Hid (a.length=8∧∀k,a.getD k 0<4294967296)) (HB:Hid (b.length=8∧∀k,b.getD k 0<4294967296)) (H0:Hid (S 0=z16))
 (HV0:Hid (∀i,V i 0=(S i,0))) (HVL:Hid (∀i k,(V i k).1.length=16∧(∀j,(V i k).1.getD j 0<4294967296)∧(V i k).2<4294967296)) (HVS:Hid (∀i k,V i (k+1)=((V i k).1.set (i+k) ((a.getD i 0*b.getD k 0+(V i k).1.getD (i+k) 0+(V i k).2)%4294967296),(a.getD i 0*b.getD k 0+(V i k).1.getD (i+k) 0+(V i k).2)/4294967296)))
 (HS:Hid (∀i,S (i+1)=(V i 8).1.set (i+8) (V i 8).2)) (HQ:Hid (S 8=q)) (HQL:Hid (q.length=16))
 (CF:Hid (∀W,Calls Tryz.prog 116 #[Da q] W (gvn (Da r) W))) (HRL:Hid (r.length=8)):
 Calls Tryz.prog 68 #[Da a,Da b] w (gvn (Da r) w):=by
 go_enter Tryz.func68,Tryz.ntmps68;go_wp2_with (first
  |(refine Ra rfl 66 (.tmp 0) rfl (a.map Ja) rfl ?_
    intro w1 hB1 hA1;try simp only [La]
    skip)
  |(refine Ra rfl 66 (.tmp 1) rfl (b.map Ja) rfl ?_
    intro w2 hb2 hC2;have hB2:=Ba hB1 hb2;have hA2:=hA1.on hb2;have hg1:=hA1.lt;clear hB1 hA1 hb2;try simp only [La]
    skip)
  |(refine Ma (o:=⟨some 4,_,_,_,_,_⟩) rfl 66 rfl (Wa 8) Ac ?_
    intro w3 hb3 hZ3;have hB3:=Ba hB2 hb3;have hA3:=hA2.on hb3;have hC3:=hC2.on hb3;have hg2:=hC2.lt;clear hB2 hA2 hC2 hb3;try simp only [La]
    skip)
  |(refine Eb rfl 150 [] rfl [] rfl _ BG ?_
    try simp only [La]
    skip)
  |(refine Db rfl rfl 150 (.tmp 5) (.tmp 10) rfl rfl 16 (Wa 16) (Wa 16) rfl rfl zL rfl Pu rfl (by rw [Gj];exact Ua _) ?_
    intro w4 hb4 hS4;have hB4:=Ba hB3 hb4;have hA4:=hA3.on hb4;have hC4:=hC3.on hb4;have hZ4:=hZ3.on hb4;have hg3:=hZ3.lt;clear hB3 hA3 hC3 hZ3 hb4;try simp only [La]
    skip))
 generalize hg:w1.heap.size=gb at *;generalize hh:w2.heap.size=gz at *;generalize hi:w3.heap.size=gs at *;clear hg hh hi
 go_loopw [6] (fun i wr=>∃k:Nat,k≤8∧i=.int .i64 k∧Below w.heap.size w wr∧Ia wr w.heap.size (a.map Ja) 66∧Ia wr gb (b.map Ja) 66∧Ia wr gz (Wa 8) 66∧Ia wr gs ((S k).map Ja) 150) (fun i _=>8-(intOf i).toNat)
 case atStart=>exact ⟨0,Nat.zero_le _,rfl,hB4,hA4,hC4,hZ4,by rw [H0.out,←qL];exact hS4⟩
 case round=>
  clear hB4 hA4 hC4 hZ4 hS4;obtain ⟨i,hi,rfl,hB,hA,hC,hZ,hS⟩:=hrel;by_cases hil:i<8
  ·have HVi0:=Lib.hid (HV0.out i);have HVLi:=Lib.hid (HVL.out i);have HVSi:=Lib.hid (HVS.out i);have HSi:=Lib.hid (HS.out i);have hai:=HA.out.2 i;have HAI:=Lib.hid (dat a i (by rw [HA.out.1];exact hil));obtain ⟨nx,HNX⟩:=Nb (S (i+1));rw [HNX.out] at HSi;generalize V i=vv at *;generalize S i=s0 at *;generalize a.getD i 0=p at *;have hpI:(i:Int)<8:=by omega
   clear HV0 HVL HVS HS HQ HQL CF HRL H0;go_wp2_with fail
   try rw [show decide ((i:Int)<8)=true by simp;omega]
   go_loopw [7,8] (fun v k wr=>∃n:Nat,n≤8∧k=.int .i64 n∧v=.int .u64 ((vv n).2:Int)∧Below w.heap.size w wr∧Ia wr w.heap.size (a.map Ja) 66∧Ia wr gb (b.map Ja) 66∧Ia wr gz (Wa 8) 66∧Ia wr gs ((vv n).1.map Ja) 150) (fun _ k _=>8-(intOf k).toNat)
   case atStart=>exact ⟨0,Nat.zero_le _,rfl,by rw [HVi0.out];rfl,hB,hA,hC,hZ,by rw [HVi0.out];exact hS⟩
   case round=>
    clear hB hA hC hZ hS;obtain ⟨k,hk,rfl,rfl,hB,hA,hC,hZ,hS⟩:=hrel;have HLk:=Lib.hid (HVLi.out k).1;by_cases hlt:k<8
    ·have HN:=Lib.hid (HVSi.out k);have ho:=(HVLi.out k).2.2;have hq:=(HVLi.out k).2.1 (i+k);have hy:=HB.out.2 k;have d1:=hA.get HAI.out;have d2:=hC.get (dat b k (by rw [HB.out.1];omega));have d3:=hS.get (dat (vv k).1 (i+k) (by rw [HLk.out];omega));obtain ⟨z,HZ⟩:=Nb (vv (k+1));rw [HZ.out] at HN;generalize (vv k).2=o at *;generalize (vv k).1=s at *;generalize b.getD k 0=y at *;generalize s.getD (i+k) 0=u at *;have hm:p*y≤4294967295*4294967295:=Nat.mul_le_mul (by omega) (by omega);have c1:=Am p (by omega);have c3:=Am y (by omega);have c2:=Am u (by omega);obtain ⟨x1,hx1⟩:∃x1,x1=p*y:=⟨_,rfl⟩;have c4:IntKind.u64.wrap ((p:Int)*(y:Int))=(x1:Int):=by rw [hx1];exact Cu p y (by omega)
     rw [←hx1] at hm HN;obtain ⟨x2,hx2⟩:∃x2,x2=x1+u:=⟨_,rfl⟩;have c5:IntKind.u64.wrap ((x1:Int)+(u:Int))=(x2:Int):=by rw [hx2];exact Si x1 u (by omega)
     obtain ⟨x,hx⟩:∃x,x=x2+o:=⟨_,rfl⟩;have c7:IntKind.u64.wrap ((x2:Int)+(o:Int))=(x:Int):=by rw [hx];exact Si x2 o (by omega)
     have c6:=Un x;rw [←hx2,←hx] at HN;obtain ⟨x3,hx3⟩:∃x3,x3=x/4294967296:=⟨_,rfl⟩;have c8:(x:Int)/4294967296=(x3:Int):=by rw [hx3];rfl
     rw [←hx3] at HN;obtain ⟨v,HV⟩:=Nb (x%4294967296);rw [HV.out] at HN c6;have c9:IntKind.i64.wrap ((i:Int)+(k:Int))=(i:Int)+(k:Int):=IntWalk.i64_in _ (by omega);have i1:(0:Int)≤(k:Int):=by omega
     have i2:(k:Int)<8:=by omega
     have i3:(0:Int)≤(i:Int)+(k:Int):=by omega
     have i4:(i:Int)+(k:Int)<16:=by omega
     have i5:((i:Int)+(k:Int)).toNat=i+k:=by omega
     have i6:(0:Int)≤(i:Int):=by omega
     clear hx1 hx2 hx hx3 HV hq hy ho hm HVi0 HVLi HVSi HSi;go_wp2_with fail
     go_quiet (fail)
     have hB4:Below w.heap.size w (wr.drewN nq):=⟨hB.os,hB.tape,hB.output,hB.size,hB.block⟩;have hA4:=hA.drewN nq;have hC4:=hC.drewN nq;have hZ4:=hZ.drewN nq;have hS4:=hS.drewN nq;generalize wr.drewN nq=w4 at *;clear hB hA hC hZ hS d1 d2 d3;have hT:=hS4.there (i+k) 1 (by rw [Uaj,HLk.out];omega);have hE:=Lib.hid (hS4.set (i+k) (Ja v));go_wp2_with (first
      |(refine Qb rfl 64 _ _ rfl gs (i+k) .u32 (v:Int) rfl rfl qf hT ?_
        intro w5 hw5;have hB5:Below w.heap.size w w5:=by rw [hw5];exact hB4.setCell (p:=⟨gs,i+k,none⟩) (by show w.heap.size≤gs;omega) _
        have hA5:Ia w5 w.heap.size (a.map Ja) 66:=by rw [hw5];exact hA4.other (by show w.heap.size≠gs;omega) _
        have hC5:Ia w5 gb (b.map Ja) 66:=by rw [hw5];exact hC4.other (by show gb≠gs;omega) _
        have hZ5:Ia w5 gz (Wa 8) 66:=by rw [hw5];exact hZ4.other (by show gz≠gs;omega) _
        have hS5:Ia w5 gs (z.1.map Ja) 150:=by rw [hw5,HN.out,←Ih];exact hE.out
        clear hw5 hT hE hB4 hA4 hC4 hZ4 hS4))
     go_roundw
     case rel=>first|exact ⟨k+1,by omega,by go_num,by rw [HZ.out,HN.out],hB5,hA5,hC5,hZ5,by rw [HZ.out];exact hS5⟩|trace_state
     case measure=>simp [intOf];omega
    ·obtain rfl:k=8:=by omega
     have ho:=(HVLi.out 8).2.2;generalize (vv 8).2=o at *;generalize (vv 8).1=s at *;have c6:IntKind.u32.wrap (o:Int)=(o:Int):=by rw [Un];omega
     have c9:IntKind.i64.wrap ((i:Int)+8)=(i:Int)+8:=IntWalk.i64_in _ (by omega);have i3:(0:Int)≤(i:Int)+8:=by omega
     have i4:(i:Int)+8<16:=by omega
     have i5:((i:Int)+8).toNat=i+8:=by omega
     have i6:(0:Int)≤(i:Int):=by omega
     have i7:IntKind.i64.wrap ((i:Int)+1)=(i:Int)+1:=IntWalk.i64_in _ (by omega);have hT:=hS.there (i+8) 1 (by rw [Uaj,HLk.out];omega);have hE:=Lib.hid (hS.set (i+8) (Ja o));clear HVi0 HVLi HVSi ho;go_wp2_with (first
      |(refine Qb rfl 64 _ _ rfl gs (i+8) .u32 (o:Int) rfl rfl qf hT ?_
        intro w5 hw5;have hB5:Below w.heap.size w w5:=by rw [hw5];exact hB.setCell (p:=⟨gs,i+8,none⟩) (by show w.heap.size≤gs;omega) _
        have hA5:Ia w5 w.heap.size (a.map Ja) 66:=by rw [hw5];exact hA.other (by show w.heap.size≠gs;omega) _
        have hC5:Ia w5 gb (b.map Ja) 66:=by rw [hw5];exact hC.other (by show gb≠gs;omega) _
        have hZ5:Ia w5 gz (Wa 8) 66:=by rw [hw5];exact hZ.other (by show gz≠gs;omega) _
        have hS5:Ia w5 gs (nx.map Ja) 150:=by rw [hw5,HSi.out,←Ih];exact hE.out
        clear hw5 hT hE hB hA hC hZ hS))
     go_roundw
     case rel=>first|exact ⟨i+1,by omega,by go_num,hB5,hA5,hC5,hZ5,by rw [HNX.out];exact hS5⟩|trace_state
     case measure=>simp [intOf];omega
  ·obtain rfl:i=8:=by omega
   rw [HQ.out] at hS;clear HA HB H0 HV0 HVL HVS HS HQ hA hC;go_wp2_with (first
    |(refine Pa rfl 150 (.tmp 5) rfl gs 16 (q.map Ja) rfl hS Tryz.underlying150 rfl Pu (by rw [Uaj,HQL.out]) ?_))
   refine (CF.out wr).mono ?_;rintro e w6 ⟨rfl,hb6⟩;have hB6:=Ba hB hb6;have hZ6:=hZ.on hb6;clear CF hB hZ hS hb6;go_wp2_with (first
    |(refine Ka rfl 66 _ _ rfl gz 8 (Wa 8) (r.map Ja) rfl rfl hZ6 rfl Za (by rw [Uaj,HRL.out]) (Ua r) ?_
      intro w7 hb7 hC7 _))
   exact qc Tryz.results68 gz (r.map Ja) rfl hC7 Tryz.underlying66 rfl Za (by rw [Uaj,HRL.out]) rfl ⟨rfl,hB6.trans (hb7.below (by omega) hB6.size)⟩
def qg (a b s0:List Nat) (i:Nat):Nat→List Nat×Nat
 |0=>(s0,0)
 |k+1=>((qg a b s0 i k).1.set (i+k) ((a.getD i 0*b.getD k 0+(qg a b s0 i k).1.getD (i+k) 0+(qg a b s0 i k).2)%4294967296),(a.getD i 0*b.getD k 0+(qg a b s0 i k).1.getD (i+k) 0+(qg a b s0 i k).2)/4294967296)
def Wj (a b:List Nat):Nat→List Nat
 |0=>z16
 |i+1=>(qg a b (Wj a b i) i 8).1.set (i+8) (qg a b (Wj a b i) i 8).2
theorem Gi (a b s0:List Nat) (i:Nat):∀k,(qg a b s0 i k).1.length=s0.length
 |0=>rfl
 |k+1=>by rw [qg,List.length_set,Gi]
theorem Pz {a b s0:List Nat} (ha:∀k,a.getD k 0<4294967296) (hb:∀k,b.getD k 0<4294967296) (hs:∀k,s0.getD k 0<4294967296) (i:Nat):∀k,(∀j,(qg a b s0 i k).1.getD j 0<4294967296)∧(qg a b s0 i k).2<4294967296
 |0=>⟨hs,show (0:Nat)<4294967296 by decide⟩
 |k+1=>by
  obtain ⟨h1,h2⟩:=Pz ha hb hs i k;rw [qg];refine ⟨OB h1 _ _ (Nat.mod_lt _ (by decide)),?_⟩;have h3:=h1 (i+k);have hm:a.getD i 0*b.getD k 0≤4294967295*4294967295:=Nat.mul_le_mul (by have :=ha i;omega) (by have :=hb k;omega);show (a.getD i 0*b.getD k 0+(qg a b s0 i k).1.getD (i+k) 0+(qg a b s0 i k).2)/4294967296<4294967296;omega
theorem Rs (a b s0:List Nat) (i j:Nat):∀k,i+k≤j→(qg a b s0 i k).1.getD j 0=s0.getD j 0
 |0,_=>rfl
 |k+1,h=>by rw [qg,Lg _ _ _ _ (by omega),Rs a b s0 i j k (by omega)]
theorem Np (l:List Nat) (j v:Nat) (hl:j<l.length):∀n,j<n→pre (l.set j v) n+l.getD j 0*4294967296^j=pre l n+v*4294967296^j
 |0,h=>by omega
 |n+1,h=>by
  rcases Nat.lt_or_ge j n with h1|h1
  ·have ih:=Np l j v hl n h1;rw [pre,pre,Lg _ _ _ _ (by omega)];omega
  ·obtain rfl:j=n:=by omega
   rw [Ar l j v hl,pre];omega
theorem Aw (a b s0:List Nat) (i k:Nat):qg a b s0 i (k+1)=((qg a b s0 i k).1.set (i+k) ((a.getD i 0*b.getD k 0+(qg a b s0 i k).1.getD (i+k) 0+(qg a b s0 i k).2)%4294967296),(a.getD i 0*b.getD k 0+(qg a b s0 i k).1.getD (i+k) 0+(qg a b s0 i k).2)/4294967296):=by rw [qg]
theorem UB (l:List Nat) (k:Nat):pre l (k+1)=pre l k+l.getD k 0*4294967296^k:=by rw [pre]
theorem P3 (n p t u c d x E:Nat) (h1:n+u*E=p+x%4294967296*E) (h2:p+c*E=t) (hx:x=d+u+c):n+x/4294967296*(E*4294967296)=t+d*E:=by
 have e:=Nat.div_add_mod x 4294967296;have e2:(4294967296*(x/4294967296)+x%4294967296)*E=(d+u+c)*E:=by rw [e,hx]
 have e3:x/4294967296*(E*4294967296)=4294967296*(x/4294967296)*E:=by rw [Nat.mul_comm E,←Nat.mul_assoc,Nat.mul_comm (x/4294967296)]
 rw [Nat.add_mul,Nat.add_mul,Nat.add_mul] at e2;omega
theorem Q3 (p q E F:Nat):p*(q*E)*F=p*q*(F*E):=by rw [Nat.mul_comm F,←Nat.mul_assoc,←Nat.mul_assoc]
theorem DM (a b s0:List Nat) (i:Nat) (hl:s0.length=16):∀k,i+k≤16→pre (qg a b s0 i k).1 16+(qg a b s0 i k).2*4294967296^(i+k)=pre s0 16+a.getD i 0*pre b k*4294967296^i
 |0,_=>by rw [qg,pre,Nat.mul_zero,Nat.zero_mul,Nat.zero_mul]
 |k+1,h=>by
  have ih:=DM a b s0 i hl k (by omega);have hlen:=Gi a b s0 i k;have hn:=Aw a b s0 i k;have hs:=fun v=>Np (qg a b s0 i k).1 (i+k) v (by omega) 16 (by omega);generalize (qg a b s0 i k).1.getD (i+k) 0=u at *;generalize (qg a b s0 i k).2=c at *;generalize (qg a b s0 i k).1=s at *;generalize hx:a.getD i 0*b.getD k 0+u+c=x at *;have key:=P3 _ _ _ u c (a.getD i 0*b.getD k 0) x _ (hs (x%4294967296)) ih hx.symm;rw [hn];dsimp only;rw [UB b k,Nat.mul_add,Nat.add_mul,Q3,←Nat.pow_add,←Nat.add_assoc i,Nat.pow_succ,←Nat.add_assoc];exact key
theorem Gg (a b:List Nat):∀i,(Wj a b i).length=16
 |0=>rfl
 |i+1=>by rw [Wj,List.length_set,Gi,Gg]
theorem Qu {a b:List Nat} (ha:∀k,a.getD k 0<4294967296) (hb:∀k,b.getD k 0<4294967296):∀i k,(Wj a b i).getD k 0<4294967296
 |0,k=>by rw [Wj,Lp];decide
 |i+1,k=>by
  have h:=Pz ha hb (Qu ha hb i) i 8;rw [Wj];exact OB h.1 _ _ h.2 k
theorem EG (a b:List Nat):∀i j,i+8≤j→(Wj a b i).getD j 0=0
 |0,j,_=>Lp j
 |i+1,j,h=>by rw [Wj,Lg _ _ _ _ (by omega),Rs _ _ _ _ _ 8 (by omega),EG a b i j (by omega)]
theorem VU:∀n,pre z16 n=0
 |0=>rfl
 |n+1=>by rw [pre,VU n,Lp,Nat.zero_mul]
theorem VB (a b:List Nat):∀i,i≤8→pre (Wj a b i) 16=pre a i*pre b 8
 |0,_=>by rw [Wj,VU,pre,Nat.zero_mul]
 |i+1,h=>by
  have ih:=VB a b i (by omega);have h1:=DM a b (Wj a b i) i (Gg a b i) 8 (by omega);have h2:=Np (qg a b (Wj a b i) i 8).1 (i+8) (qg a b (Wj a b i) i 8).2 (by rw [Gi,Gg];omega) 16 (by omega);rw [Rs _ _ _ _ _ 8 (Xaj _),EG a b i (i+8) (Xaj _),Nat.zero_mul,Nat.add_zero,h1,ih] at h2;rw [Wj,h2];generalize pre b 8=y at *;rw [pre,Nat.add_mul,Nat.mul_assoc,Nat.mul_assoc,Nat.mul_comm y]
theorem FG (a b:List Nat) (i:Nat):Wj a b (i+1)=(qg a b (Wj a b i) i 8).1.set (i+8) (qg a b (Wj a b i) i 8).2:=by rw [Wj]
theorem Mg (n m:Nat) (w:World) (hn:n<mm) (hm:m<mm):Calls Tryz.prog 68 #[Da (nD n),Da (nD m)] w (gvn (Da (nD (n*m%pp))) w):=by
 have ha:=(Td n).2;have hb:=(Td m).2;have hv:=VB (nD n) (nD m) 8 (Xaj _);rw [Ce n hn,Ce m hm] at hv;refine xD (nD n) (nD m) (nD (n*m%pp)) (Wj (nD n) (nD m) 8) (Wj (nD n) (nD m)) (fun i=>qg (nD n) (nD m) (Wj (nD n) (nD m) i) i) w (Td n) (Td m) rfl (fun i=>rfl) (fun i k=>?_) (fun i k=>Aw _ _ _ i k) (fun i=>FG _ _ i) rfl (Gg _ _ _) (fun W=>?_) (qe _)
 ·have h:=Pz ha hb (Qu ha hb i) i k;exact ⟨by rw [Gi,Gg],h.1,h.2⟩
 ·have h:=zx (Wj (nD n) (nD m) 8) W (Gg _ _ _) (Qu ha hb 8);rw [hv] at h;exact h
def EM (a b p l m r:List Nat) (ga gb gz:Nat):List Value:=
 (Da a)::(Da b)::ptr ga::ptr gb::ptr gz::(Da a)::(Da p)::(Da b)::(Da l)::(Da m)::(Da r)::[]
theorem FM (a b p l m r:List Nat) (w:World) (HA:Hid (a.length=8)) (HB:Hid (b.length=8)) (HR:Hid (r.length=8))
 (CP:Hid (∀W,Calls Tryz.prog 114 #[] W (gvn (Da p) W))) (CL:Hid (∀W,Calls Tryz.prog 67 #[Da b] W (gvn (Da l) W))) (CM:Hid (∀W,Calls Tryz.prog 115 #[Da p,Da l] W (gvn (Da m) W))) (CA:Hid (∀W,Calls Tryz.prog 73 #[Da a,Da m] W (gvn (Da r) W))):
 Calls Tryz.prog 70 #[Da a,Da b] w (gvn (Da r) w):=by
 go_enter Tryz.func70,Tryz.ntmps70;go_wp2_with (first
  |(refine Ra rfl 66 (.tmp 0) rfl (a.map Ja) rfl ?_
    intro w1 hB1 hAa;try simp only [La]
    skip)
  |(refine Ra rfl 66 (.tmp 1) rfl (b.map Ja) rfl ?_
    intro w2 hb hAb;have hB2:=Ba hB1 hb;have hga:=hAa.lt;replace hAa:=hAa.on hb;clear hB1 hb;try simp only [La]
    skip)
  |(refine Ma rfl 66 rfl (Wa 8) Ac ?_
    intro w9 hb hZ;have hB:=Ba hB2 hb;have hle:=hB2.size;have hla:=hAa.lt;have hlb:=hAb.lt;replace hAa:=hAa.on hb;replace hAb:=hAb.on hb;clear hB2 hb;try simp only [La]
    skip))
 generalize hgz:w2.heap.size=gz at *;generalize hg1:w1.heap.size=gb at *;clear hgz hg1;refine wp_region_any (by kernel_rfl) ?_;refine Dd (L:=[0,1,2,3,4,5]) (by kernel_rfl) _ _ (EM a b p l m r w.heap.size gb gz) [0,1,2,3,4] (by kernel_rfl) ?_ (by rfl) ?_ 1 (by kernel_rfl) ?_
 ·repeat refine Aak rfl ?_
  exact Qa
 ·change ∀i∈_,Le _ _ _ _ _ w9.drew _ i;refine Aak (sL 5 rfl fun w hb=>Sb (hAa.drew.on hb) HA.out) ?_;refine Aak (sC 6 rfl Tryz.func114 fun w hb=>CP.out w) ?_;refine Aak (sL 7 rfl fun w hb=>Sb (hAb.drew.on hb) HB.out) ?_;refine Aak (sC 8 rfl Tryz.func67 fun w hb=>CL.out w) ?_;refine Aak (sC 9 rfl Tryz.func115 fun w hb=>CM.out w) ?_;refine Aak (sC 10 rfl Tryz.func73 fun w hb=>CA.out w) ?_;exact Qa
 intro w4 hb4;have hB4:=Ba (show Below w.heap.size w w9.drew from hB.drew) hb4;have hZ4:=hZ.drew.on hb4;refine Bb 6 rfl (by kernel_rfl) ?_;refine Ka rfl 66 (.tmp 4) (.tmp 10) rfl gz 8 (Wa 8) (r.map Ja) rfl rfl hZ4 rfl Za (by rw [Uaj,HR.out]) (Ua _) ?_;intro w7 hb7 hC7 hz7;generalize hF:(⟨(EM a b p l m r w.heap.size gb gz).toArray,[]⟩:Act)=F;rename_i K hKK;show Exit.then K _ Exit.normal (F.put none undef) w7;simp only [Exit.then];refine hKK _ _ ?_;refine wp_ret ?_;subst hF;exact qc Tryz.results70 gz (r.map Ja) rfl hC7 Tryz.underlying66 rfl Za (by rw [Uaj,HR.out]) rfl ⟨rfl,hB4.trans (hb7.below (by omega) hB4.size)⟩
theorem RR (n m:Nat) (w:World) (hn:n<mm) (hm:m<mm):Calls Tryz.prog 70 #[Da (nD n),Da (nD m)] w (gvn (Da (nD ((n+(pp-m%pp))%pp))) w):=by
 have h:=Nat.mod_lt m (show 0<pp by decide);exact FM (nD n) (nD m) (nD pp) (nD (m%pp)) (nD (pp-m%pp)) _ w rfl rfl rfl Ju (fun W=>Jk m W hm) (fun W=>Ik pp (m%pp) W (by decide) (Nat.le_of_lt h)) (fun W=>TB n (pp-m%pp) W hn (by simp only [pp,mm];omega))
theorem Ead (x k:Nat) (b:Bool) (hx:x<4294967296) (h:decide (x/2^k%2=1)=b):bits .and .u32 ((x:Int)/2^k) 1=if b then 1 else 0:=by
 have h2:x/2^k<4294967296:=Nat.lt_of_le_of_lt (Nat.div_le_self _ _) hx;rw [Bh,←Int.natCast_ediv,show (1:Int)=((1:Nat):Int) from rfl,u32_and_nat _ _ h2 (by omega),Nat.and_one_is_mod,←h];have :=Nat.mod_two_eq_zero_or_one (x/2^k);rcases this with h|h<;>rw [h]<;>simp
theorem MX (w:World):(Instr.build 66 #[(0,Ja 1)]).run Tryz.prog w=.ok (Da (nD 1)) w:=by kernel_rfl
theorem yD (a e r:List Nat) (T Q:Nat→List Nat) (B:Nat→Bool) (w:World) (HA:Hid (a.length=8)) (HE:Hid (e.length=8)) (HL:Hid (∀k,(T k).length=8∧(Q k).length=8)) (H0:Hid (T 256=nD 1)) (HR:Hid (T 0=r))
 (HB:Hid (∀k,k<256→decide (e.getD (k/32) 0/2^(k%32)%2=1)=B k)) (HQ:Hid (∀k,k<256→B k=false→Q k=T k)) (HX:Hid (∀k,e.getD k 0<4294967296))
 (CQ:Hid (∀k,k<256→∀W,Calls Tryz.prog 68 #[Da (T (k+1)),Da (T (k+1))] W (gvn (Da (Q k)) W)))
 (CM:Hid (∀k,k<256→B k=true→∀W,Calls Tryz.prog 68 #[Da (Q k),Da a] W (gvn (Da (T k)) W))):
 Calls Tryz.prog 117 #[Da a,Da e] w fun x w'=>x=.returned (Da r)∧Below w.heap.size w w':=by
 obtain ⟨one,HONE⟩:=Nb (nD 1);have HOL:Hid (one.length=8):=by show _=_;rw [←HONE.out];rfl
 have BO:=MX;rw [HONE.out] at BO H0;go_enter Tryz.func117,Tryz.ntmps117;go_wp2_with (first
  |(refine Ra rfl 66 (.tmp 0) rfl (a.map Ja) rfl ?_
    intro w1 hB1 hA1;try simp only [La]
    skip)
  |(refine Ra rfl 66 (.tmp 1) rfl (e.map Ja) rfl ?_
    intro w2 hb2 hC2;have hB2:=Ba hB1 hb2;have hA2:=hA1.on hb2;have hg1:=hA1.lt;clear hB1 hA1 hb2;try simp only [La]
    skip)
  |(refine Ma (o:=⟨some 4,_,_,_,_,_⟩) rfl 66 rfl (Wa 8) Ac ?_
    intro w3 hb3 hZ3;have hB3:=Ba hB2 hb3;have hA3:=hA2.on hb3;have hC3:=hC2.on hb3;have hg2:=hC2.lt;clear hB2 hA2 hC2 hb3;try simp only [La]
    skip)
  |(refine Eb rfl 66 _ rfl [(0,Ja 1)] rfl _ BO ?_
    try simp only [La]
    skip)
  |(refine Db rfl rfl 66 (.tmp 5) (.tmp 7) rfl rfl 8 (Wa 8) (one.map Ja) rfl rfl Ac rfl Za (by rw [Uaj,HOL.out]) (Ua _) ?_
    intro w4 hb4 hS4;have hB4:=Ba hB3 hb4;have hA4:=hA3.on hb4;have hC4:=hC3.on hb4;have hZ4:=hZ3.on hb4;have hg3:=hZ3.lt;clear hB3 hA3 hC3 hZ3 hb4;try simp only [La]
    skip))
 generalize hg:w1.heap.size=gb at *;generalize hh:w2.heap.size=gz at *;generalize hi:w3.heap.size=gs at *;clear hg hh hi
 go_loopw [6] (fun i wr=>∃j:Nat,j≤256∧i=.int .i64 ((j:Int)-1)∧Below w.heap.size w wr∧Ia wr w.heap.size (a.map Ja) 66∧Ia wr gb (e.map Ja) 66∧Ia wr gz (Wa 8) 66∧Ia wr gs ((T j).map Ja) 66) (fun i _=>((intOf i)+1).toNat)
 case atStart=>exact ⟨256,Xaj _,rfl,hB4,hA4,hC4,hZ4,by rw [H0.out];exact hS4⟩
 case round=>
  clear hB4 hA4 hC4 hZ4 hS4;obtain ⟨j,hj,rfl,hB,hA,hC,hZ,hS⟩:=hrel;by_cases h0:0<j
  ·obtain ⟨k,rfl⟩:∃k,j=k+1:=⟨j-1,by omega⟩;have hk:k<256:=by omega
   have e1:(((k+1:Nat):Int)-1)=(k:Int):=by omega
   have i1:(0:Int)≤(k:Int):=by omega
   have i2:(k:Int)<256:=by omega
   have i3:IntKind.i64.wrap ((k:Int)-1)=(k:Int)-1:=IntWalk.i64_in _ (by omega);rw [e1];have HQk:=Lib.hid (HQ.out k hk);have CQk:=Lib.hid (CQ.out k hk);have CMk:=Lib.hid (CM.out k hk);have HBk:=Lib.hid (HB.out k hk);have HTL:=Lib.hid (HL.out (k+1)).1;have HQL:=Lib.hid (HL.out k).2;have HNL:=Lib.hid (HL.out k).1;have hx:=HX.out (k/32);have d0:=Lib.hid (dat e (k/32) (by rw [HE.out];omega));generalize e.getD (k/32) 0=x at *;obtain ⟨nx,HNX⟩:=Nb (T k);rw [HNX.out] at HQk CMk HNL;generalize T (k+1)=s at *;generalize Q k=q at *;generalize B k=b at *;clear HB HQ CQ CM HL H0 HR HX;go_wp2_with (first
    |(refine Pa rfl 66 (.tmp 5) rfl gs 8 (s.map Ja) rfl hS Tryz.underlying66 rfl Za (by rw [Uaj,HTL.out]) ?_
      try simp only [La]
      skip))
   refine (CQk.out wr).mono ?_;rintro x1 w5 ⟨rfl,hb5⟩;have hB5:=Ba hB hb5;have hA5:=hA.on hb5;have hC5:=hC.on hb5;have hZ5:=hZ.on hb5;have hS5:=hS.on hb5;clear CQk hB hA hC hZ hS hb5;have hbit:=Ead x (k%32) b hx HBk.out;have d5:=hC5.get d0.out;cases b
   ·obtain rfl:=HQk.out rfl;clear CMk HBk HQk;go_wp2_with (first
     |(refine Ka rfl 66 _ _ rfl gs 8 (s.map Ja) (q.map Ja) rfl rfl hS5 (by rw [Uaj,HTL.out]) Za (by rw [Uaj,HQL.out]) (Ua _) ?_
       intro w6 hb6 hS6 _;have hB6:=hB5.trans (hb6.below (by omega) hB5.size);have hA6:=hA5.but hb6 (by omega);have hC6:=hC5.but hb6 (by omega);have hZ6:=hZ5.but hb6 (by omega);have d1:=hC6.get d0.out;clear hB5 hA5 hC5 hZ5 hS5 hb6 d5 d0))
    go_roundw
    case rel=>first|exact ⟨k,by omega,by go_num,hB6,hA6,hC6,hZ6,by rw [HNX.out];exact hS6⟩|trace_state
    case measure=>simp [intOf]<;>omega
   ·clear HQk HBk;go_wp2_with (first
     |(refine Ka rfl 66 _ _ rfl gs 8 (s.map Ja) (q.map Ja) rfl rfl hS5 (by rw [Uaj,HTL.out]) Za (by rw [Uaj,HQL.out]) (Ua _) ?_
       intro w6 hb6 hS6 _;have hB6:=hB5.trans (hb6.below (by omega) hB5.size);have hA6:=hA5.but hb6 (by omega);have hC6:=hC5.but hb6 (by omega);have hZ6:=hZ5.but hb6 (by omega);have d1:=hC6.get d0.out;clear hB5 hA5 hC5 hZ5 hS5 hb6 d5 d0)
     |(refine Pa rfl 66 (.tmp 5) rfl gs 8 (q.map Ja) rfl hS6 Tryz.underlying66 rfl Za (by rw [Uaj,HQL.out]) ?_
       try simp only [La]
       skip)
     |(refine Pa rfl 66 (.tmp 2) rfl w.heap.size 8 (a.map Ja) rfl hA6 Tryz.underlying66 rfl Za (by rw [Uaj,HA.out]) ?_
       try simp only [La]
       skip))
    refine (CMk.out trivial w6).mono ?_;rintro x1 w7 ⟨rfl,hb7⟩;have hB7:=Ba hB6 hb7;have hA7:=hA6.on hb7;have hC7:=hC6.on hb7;have hZ7:=hZ6.on hb7;have hS7:=hS6.on hb7;clear CMk hB6 hA6 hC6 hZ6 hS6 hb7 d1;go_wp2_with (first
     |(refine Ka rfl 66 _ _ rfl gs 8 (q.map Ja) (nx.map Ja) rfl rfl hS7 (by rw [Uaj,HQL.out]) Za (by rw [Uaj,HNL.out]) (Ua _) ?_
       intro w8 hb8 hS8 _;have hB8:=hB7.trans (hb8.below (by omega) hB7.size);have hA8:=hA7.but hb8 (by omega);have hC8:=hC7.but hb8 (by omega);have hZ8:=hZ7.but hb8 (by omega);clear hB7 hA7 hC7 hZ7 hS7 hb8))
    go_roundw
    case rel=>first|exact ⟨k,by omega,by go_num,hB8,hA8,hC8,hZ8,by rw [HNX.out];exact hS8⟩|trace_state
    case measure=>simp [intOf]<;>omega
  ·obtain rfl:j=0:=by omega
   rw [show (((0:Nat):Int)-1)= -1 from rfl];rw [HR.out] at hS;have HTL:=Lib.hid (HL.out 0).1;rw [HR.out] at HTL;clear HB HQ CQ CM HL H0 HX hA hC;go_wp2_with (first
    |(refine Pa rfl 66 (.tmp 5) rfl gs 8 (r.map Ja) rfl hS Tryz.underlying66 rfl Za (by rw [Uaj,HTL.out]) ?_
      try simp only [La]
      skip)
    |(refine Ka rfl 66 _ _ rfl gz 8 (Wa 8) (r.map Ja) rfl rfl hZ rfl Za (by rw [Uaj,HTL.out]) (Ua _) ?_
      intro w6 hb6 hZ6 _;have hB6:=hB.trans (hb6.below (by omega) hB.size);clear hB hS hb6))
   exact qc Tryz.results117 gz (r.map Ja) rfl hZ6 Tryz.underlying66 rfl Za (by rw [Uaj,HTL.out]) rfl ⟨rfl,hB6⟩
theorem Ay (n i:Nat) (h:i<8):(nD n).getD i 0=n/2^(32*i)%2^32:=by
 rcases (show i=0∨i=1∨i=2∨i=3∨i=4∨i=5∨i=6∨i=7 by omega) with rfl|rfl|rfl|rfl|rfl|rfl|rfl|rfl<;>simp [nD]
theorem Fad (n k:Nat) (h:k<256):decide ((nD n).getD (k/32) 0/2^(k%32)%2=1)=n.testBit k:=by
 rw [←Nat.testBit_eq_decide_div_mod_eq,Ay n (k/32) (by omega),Nat.testBit_mod_two_pow,Nat.testBit_div_two_pow,show k%32+32*(k/32)=k by omega,decide_eq_true (show k%32<32 by omega),Bool.true_and]
def tN (a e k:Nat):Nat:=a^(e/2^k)%pp
theorem Gad (a e:Nat) (h:e<mm):tN a e 256=1:=by
 rw [tN,Nat.div_eq_of_lt (Waj h (by decide+kernel)),Nat.pow_zero];decide
theorem Y8 (a e:Nat):tN a e 0=a^e%pp:=by rw [tN,Nat.pow_zero,Nat.div_one]
theorem Lab (a e k:Nat):tN a e k<mm:=Nat.lt_trans (Nat.mod_lt _ (by decide)) (by decide)
theorem R3 (e k:Nat):e/2^k=e/2^(k+1)+e/2^(k+1)+e/2^k%2:=by
 rw [Nat.pow_succ,←Nat.div_div_eq_div_mul];omega
theorem Z8 (a e k:Nat) (h:e.testBit k=false):tN a e (k+1)*tN a e (k+1)%pp=tN a e k:=by
 rw [Nat.testBit_eq_decide_div_mod_eq,decide_eq_false_iff_not] at h;rw [tN,tN,R3 e k,show e/2^k%2=0 by omega,Nat.add_zero (e/2^(k+1)+e/2^(k+1))];generalize e/2^(k+1)=y;rw [Nat.pow_add a y y,←Nat.mul_mod]
theorem Had (a e k:Nat) (h:e.testBit k=true):(tN a e (k+1)*tN a e (k+1)%pp)*a%pp=tN a e k:=by
 rw [Nat.testBit_eq_decide_div_mod_eq,decide_eq_true_eq] at h;rw [tN,tN,R3 e k,h];generalize e/2^(k+1)=y;rw [Nat.pow_succ,Nat.pow_add,←Nat.mul_mod,Nat.mod_mul_mod]
theorem Lk (a e:Nat) (w:World) (ha:a<mm) (he:e<mm):Calls Tryz.prog 117 #[Da (nD a),Da (nD e)] w fun x w'=>x=.returned (Da (nD (a^e%pp)))∧Below w.heap.size w w':=
 yD (nD a) (nD e) _ (fun k=>nD (tN a e k)) (fun k=>nD (tN a e (k+1)*tN a e (k+1)%pp)) (fun k=>e.testBit k) w rfl rfl (fun _=>⟨rfl,rfl⟩) (congrArg nD (Gad a e he)) (congrArg nD (Y8 a e)) (fun k hk=>Fad e k hk) (fun k _ hb=>congrArg nD (Z8 a e k hb)) (Td e).2
  (fun k _ W=>Mg _ _ W (Lab a e (k+1)) (Lab a e (k+1)))
  (fun k _ hb W=>(Mg _ _ W (Nat.lt_trans (Nat.mod_lt _ (by decide)) (by decide)) ha).mono (by
   rintro x w' ⟨rfl,h⟩;exact ⟨by rw [Had a e k hb],h⟩))
end Go.Proofs.YtoggkhjaghkpnaaGreatDoor
