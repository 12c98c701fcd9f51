/- Part 12 of what the laws of this seat share: TBeside, WFlat4, TScalar, JBit. -/
import Derived.IntWalk
import Derived.Deep.Cut
import Derived.Test.YtoggkhjaghkpnaaGreatDoorPart11
set_option maxRecDepth 100000
set_option maxHeartbeats 8000000
namespace Go.Proofs.YtoggkhjaghkpnaaGreatDoor
open Go.RowKit
theorem VM (x y:List Nat) (hx:x.length=8):Ub (y.map Ga) 0 (x.map Ga)=(x++y.drop 8).map Ga:=by
 simp [Ub,hx,List.map_drop]
theorem WM (x y:List Nat) (hx:x.length=8) (hy:y.length=16):Ub (y.map Ga) 8 (x.map Ga)=(y.take 8++x).map Ga:=by
 simp [Ub,hx,hy,List.map_take]
theorem EE (l h m r z:List Nat) (w:World) (HL:Hid (l.length=8)) (HH:Hid (h.length=8)) (HZ:Hid (z=List.replicate 16 0)) (HM:Hid (l++z.drop 8=m)) (HR:Hid (m.take 8++h=r)) (HML:Hid (m.length=16)) (HRL:Hid (r.length=16)):
 Calls Tryz.prog 84 #[Aa l,Aa h] w (gvn (Aa r) w):=by
 have HZZ:Hid (Na 16=z.map Ga):=by show _=_;rw [HZ.out,WR]
 have HZL:Hid (z.length=16):=by show _=_;rw [HZ.out,List.length_replicate]
 clear HZ;go_enter Tryz.func84,Tryz.ntmps84;go_wp2_with (first
  |(refine Ra rfl 83 (.tmp 0) rfl (l.map Ga) rfl ?_
    intro w1 hB1 hA1;try simp only [La]
    skip)
  |(refine Ra rfl 83 (.tmp 1) rfl (h.map Ga) rfl ?_
    intro w2 hb2 hC2;have hB2:=Ba hB1 hb2;have hA2:=hA1.on hb2;have hg1:=hA1.lt;clear hB1 hA1 hb2;try simp only [La]
    skip)
  |(refine Ma (o:=⟨some 4,_,_,_,_,_⟩) rfl 88 rfl (Na 16) Sz ?_
    intro w3 hb3 hZ3;have hB3:=Ba hB2 hb3;have hA3:=hA2.on hb3;have hC3:=hC2.on hb3;have hg2:=hC2.lt;clear hB2 hA2 hC2 hb3;try simp only [La]
    skip)
  |(refine Ma (o:=⟨some 5,_,_,_,_,_⟩) rfl 88 rfl (Na 16) Sz ?_
    intro w4 hb4 hS4;have hB4:=Ba hB3 hb4;have hA4:=hA3.on hb4;have hC4:=hC3.on hb4;have hZ4:=hZ3.on hb4;have hg3:=hZ3.lt;rw [HZZ.out] at hS4;clear hB3 hA3 hC3 hZ3 hb4;try simp only [La]
    skip))
 generalize hg:w1.heap.size=gh at *;generalize hi:w2.heap.size=gz at *;generalize hj:w3.heap.size=gs at *;clear hg hi hj;refine Ad 2 (by kernel_rfl) (by kernel_rfl) ?_;intro w5 hw5;have hB5:Below w.heap.size w w5:=by rw [hw5];exact hB4.drew
 have hA5:Ia w5 w.heap.size (l.map Ga) 83:=by rw [hw5];exact hA4
 have hC5:Ia w5 gh (h.map Ga) 83:=by rw [hw5];exact hC4
 have hZ5:Ia w5 gz (Na 16) 88:=by rw [hw5];exact hZ4
 have hS5:Ia w5 gs (z.map Ga) 88:=by rw [hw5];exact hS4
 clear hw5 hB4 hA4 hC4 hZ4 hS4;simp only [List.take_succ_cons,List.take_zero,List.drop_succ_cons,List.drop_zero];repeat still_step
 refine wpStill_nil ?_;go_wp2_with (first
  |(refine Ss rfl (.tmp 6) (.tmp 7) 136 49 Tryz.underlying136 Gf rfl gs 0 _ _ w.heap.size 0 _ _ 8 (l.map Ga) rfl rfl rfl (by rw [Uaj,HL.out]) hA5.rangeAll (hS5.there 0 8 (by rw [Uaj,HZL.out];decide)) (by intro v hv;obtain ⟨x,_,rfl⟩:=List.mem_map.1 hv;rfl) ?_
    intro w6 hw6;have hb6:But gs w5 w6:=by rw [hw6];exact (But.refl gs w5).setCells _ _
    have hS6:Ia w6 gs (m.map Ga) 88:=by
     rw [hw6,←HM.out,←VM l z HL.out];exact hS5.setCells (by rw [Uaj,Uaj,HL.out,HZL.out];decide)
    have hB6:=hB5.trans (hb6.below (by omega) hB5.size);have hC6:=hC5.but hb6 (by omega);have hZ6:=hZ5.but hb6 (by omega);clear hw6 hb6 hB5 hA5 hC5 hZ5 hS5;try simp only [La]
    skip))
 refine Ad 2 (by kernel_rfl) (by kernel_rfl) ?_;intro w7 hw7;have hB7:Below w.heap.size w w7:=by rw [hw7];exact hB6.drew
 have hC7:Ia w7 gh (h.map Ga) 83:=by rw [hw7];exact hC6
 have hZ7:Ia w7 gz (Na 16) 88:=by rw [hw7];exact hZ6
 have hS7:Ia w7 gs (m.map Ga) 88:=by rw [hw7];exact hS6
 clear hw7 hB6 hC6 hZ6 hS6;simp only [List.take_succ_cons,List.take_zero,List.drop_succ_cons,List.drop_zero];repeat still_step
 refine wpStill_nil ?_;go_wp2_with (first
  |(refine Ss rfl (.tmp 9) (.tmp 10) 136 49 Tryz.underlying136 Gf rfl gs 8 _ _ gh 0 _ _ 8 (h.map Ga) rfl rfl rfl (by rw [Uaj,HH.out]) hC7.rangeAll (hS7.there 8 8 (by rw [Uaj,HML.out];decide)) (by intro v hv;obtain ⟨x,_,rfl⟩:=List.mem_map.1 hv;rfl) ?_
    intro w8 hw8;have hb8:But gs w7 w8:=by rw [hw8];exact (But.refl gs w7).setCells _ _
    have hS8:Ia w8 gs (r.map Ga) 88:=by
     rw [hw8,←HR.out,←WM h m HH.out HML.out];exact hS7.setCells (by rw [Uaj,Uaj,HH.out,HML.out];decide)
    have hB8:=hB7.trans (hb8.below (by omega) hB7.size);have hZ8:=hZ7.but hb8 (by omega);clear hw8 hb8 hB7 hC7 hZ7 hS7;try simp only [La]
    skip)
  |(refine Pa rfl 88 _ rfl gs 16 (r.map Ga) rfl hS8 Tryz.underlying88 rfl Wn (by rw [Uaj,HRL.out]) ?_)
  |(refine Ka rfl 88 _ _ rfl gz 16 (Na 16) (r.map Ga) rfl rfl hZ8 rfl Wn (by rw [Uaj,HRL.out]) (Oa r) ?_
    intro w9 hb9 hC9 _))
 exact qc Tryz.results84 gz (r.map Ga) rfl hC9 Tryz.underlying88 rfl Wn (by rw [Uaj,HRL.out]) rfl ⟨rfl,hB8.trans (hb9.below (by omega) hB8.size)⟩
theorem Tu (l h:List Nat) (w:World) (hl:l.length=8) (hh:h.length=8):Calls Tryz.prog 84 #[Aa l,Aa h] w (gvn (Aa (l++h)) w):=by
 refine EE l h (l++List.replicate 8 0) (l++h) (List.replicate 16 0) w hl hh rfl rfl ?_ (by show _=_;rw [qaj,hl,List.length_replicate]) (by show _=_;rw [qaj,hl,hh]);show _=_;rw [List.take_append_of_le_length (by omega),Zaj (by omega)]
theorem DC (a b q:List Nat) (S:Nat→List Nat) (V:Nat→Nat→List Nat×Nat) (w:World) (HA:Hid (a.length=8∧∀k,a.getD k 0<4294967296)) (HB:Hid (b.length=8∧∀k,b.getD k 0<4294967296)) (H0:Hid (S 0=z16))
 (HV0:Hid (∀i,V i 0=(S i,0))) (HVL:Hid (∀i k,(V i k).1.length=16∧(∀j,(V i k).1.getD j 0<4294967296)∧(V i k).2<4294967296)) (HVS:Hid (∀i k,V i (k+1)=((V i k).1.set (i+k) ((a.getD i 0*b.getD k 0+(V i k).1.getD (i+k) 0+(V i k).2)%4294967296),(a.getD i 0*b.getD k 0+(V i k).1.getD (i+k) 0+(V i k).2)/4294967296)))
 (HS:Hid (∀i,S (i+1)=(V i 8).1.set (i+8) (V i 8).2)) (HQ:Hid (S 8=q)) (HQL:Hid (q.length=16)):
 Calls Tryz.prog 48 #[Aa a,Aa b] w (gvn (Aa q) w):=by
 go_enter Tryz.func48,Tryz.ntmps48;go_wp2_with (first
  |(refine Ra rfl 83 (.tmp 0) rfl (a.map Ga) rfl ?_
    intro w1 hB1 hA1;try simp only [La]
    skip)
  |(refine Ra rfl 83 (.tmp 1) rfl (b.map Ga) rfl ?_
    intro w2 hb2 hC2;have hB2:=Ba hB1 hb2;have hA2:=hA1.on hb2;have hg1:=hA1.lt;clear hB1 hA1 hb2;try simp only [La]
    skip)
  |(refine Ma (o:=⟨some 4,_,_,_,_,_⟩) rfl 88 rfl (Na 16) Sz ?_
    intro w3 hb3 hZ3;have hB3:=Ba hB2 hb3;have hA3:=hA2.on hb3;have hC3:=hC2.on hb3;have hg2:=hC2.lt;clear hB2 hA2 hC2 hb3;try simp only [La]
    skip)
  |(refine Ma (o:=⟨some 5,_,_,_,_,_⟩) rfl 88 rfl (Na 16) Sz ?_
    intro w4 hb4 hS4;have hB4:=Ba hB3 hb4;have hA4:=hA3.on hb4;have hC4:=hC3.on hb4;have hZ4:=hZ3.on hb4;have hg3:=hZ3.lt;clear hB3 hA3 hC3 hZ3 hb4;try simp only [La]
    skip))
 generalize hg:w1.heap.size=gb at *;generalize hh:w2.heap.size=gz at *;generalize hi:w3.heap.size=gs at *;clear hg hh hi
 go_loopw [10] (fun i wr=>∃k:Nat,k≤8∧i=.int .i64 k∧Below w.heap.size w wr∧Ia wr w.heap.size (a.map Ga) 83∧Ia wr gb (b.map Ga) 83∧Ia wr gz (Na 16) 88∧Ia wr gs ((S k).map Ga) 88) (fun i _=>8-(intOf i).toNat)
 case atStart=>exact ⟨0,Nat.zero_le _,rfl,hB4,hA4,hC4,hZ4,by rw [H0.out];exact hS4⟩
 case round=>
  clear hB4 hA4 hC4 hZ4 hS4;obtain ⟨i,hi,rfl,hB,hA,hC,hZ,hS⟩:=hrel;by_cases hil:i<8
  ·have HVi0:=Lib.hid (HV0.out i);have HVLi:=Lib.hid (HVL.out i);have HVSi:=Lib.hid (HVS.out i);have HSi:=Lib.hid (HS.out i);have hai:=HA.out.2 i;have HAI:=Lib.hid (Yg a i (by rw [HA.out.1];exact hil));obtain ⟨nx,HNX⟩:=Nb (S (i+1));rw [HNX.out] at HSi;generalize V i=vv at *;generalize S i=s0 at *;generalize a.getD i 0=p at *;have hpI:(i:Int)<8:=by omega
   clear HV0 HVL HVS HS HQ HQL H0;go_wp2_with fail
   try rw [show decide ((i:Int)<8)=true by simp;omega]
   go_loopw [7,13] (fun v k wr=>∃n:Nat,n≤8∧k=.int .i64 n∧v=.int .u64 ((vv n).2:Int)∧Below w.heap.size w wr∧Ia wr w.heap.size (a.map Ga) 83∧Ia wr gb (b.map Ga) 83∧Ia wr gz (Na 16) 88∧Ia wr gs ((vv n).1.map Ga) 88) (fun _ k _=>8-(intOf k).toNat)
   case atStart=>exact ⟨0,Nat.zero_le _,rfl,by rw [HVi0.out];rfl,hB,hA,hC,hZ,by rw [HVi0.out];exact hS⟩
   case round=>
    clear hB hA hC hZ hS;obtain ⟨k,hk,rfl,rfl,hB,hA,hC,hZ,hS⟩:=hrel;have HLk:=Lib.hid (HVLi.out k).1;by_cases hlt:k<8
    ·have HN:=Lib.hid (HVSi.out k);have ho:=(HVLi.out k).2.2;have hq:=(HVLi.out k).2.1 (i+k);have hy:=HB.out.2 k;have d1:=hA.get HAI.out;have d2:=hC.get (Yg b k (by rw [HB.out.1];omega));have d3:=hS.get (Yg (vv k).1 (i+k) (by rw [HLk.out];omega));obtain ⟨z,HZ⟩:=Nb (vv (k+1));rw [HZ.out] at HN;generalize (vv k).2=o at *;generalize (vv k).1=s at *;generalize b.getD k 0=y at *;generalize s.getD (i+k) 0=u at *;have hm:p*y≤4294967295*4294967295:=Nat.mul_le_mul (by omega) (by omega);obtain ⟨x1,hx1⟩:∃x1,x1=p*y:=⟨_,rfl⟩;have c4:IntKind.u64.wrap ((p:Int)*(y:Int))=(x1:Int):=by rw [hx1];exact Cu p y (by omega)
     rw [←hx1] at hm HN;obtain ⟨x2,hx2⟩:∃x2,x2=x1+u:=⟨_,rfl⟩;have c5:IntKind.u64.wrap ((u:Int)+(x1:Int))=(x2:Int):=by rw [hx2,Nat.add_comm];exact Si u x1 (by omega)
     obtain ⟨x,hx⟩:∃x,x=x2+o:=⟨_,rfl⟩;have c7:IntKind.u64.wrap ((x2:Int)+(o:Int))=(x:Int):=by rw [hx];exact Si x2 o (by omega)
     have c6:=ZI x (by omega);rw [←hx2,←hx] at HN;obtain ⟨x3,hx3⟩:∃x3,x3=x/4294967296:=⟨_,rfl⟩;have c8:(x:Int)/4294967296=(x3:Int):=by rw [hx3];rfl
     rw [←hx3] at HN;obtain ⟨v,HV⟩:=Nb (x%4294967296);rw [HV.out] at HN c6;have c9:IntKind.i64.wrap ((i:Int)+(k:Int))=(i:Int)+(k:Int):=IntWalk.i64_in _ (by omega);have i1:(0:Int)≤(k:Int):=by omega
     have i2:(k:Int)<8:=by omega
     have i3:(0:Int)≤(i:Int)+(k:Int):=by omega
     have i4:(i:Int)+(k:Int)<16:=by omega
     have i5:((i:Int)+(k:Int)).toNat=i+k:=by omega
     have i6:(0:Int)≤(i:Int):=by omega
     clear hx1 hx2 hx hx3 HV hq hy ho hm HVi0 HVLi HVSi HSi;go_wp2_with fail
     go_quiet (fail)
     have hB4:Below w.heap.size w (wr.drewN nq):=⟨hB.os,hB.tape,hB.output,hB.size,hB.block⟩;have hA4:=hA.drewN nq;have hC4:=hC.drewN nq;have hZ4:=hZ.drewN nq;have hS4:=hS.drewN nq;generalize wr.drewN nq=w4 at *;clear hB hA hC hZ hS d1 d2 d3;have hT:=hS4.there (i+k) 1 (by rw [Uaj,HLk.out];omega);have hE:=Lib.hid (hS4.set (i+k) (Ga v));go_wp2_with (first
      |(refine Qb rfl 49 _ _ rfl gs (i+k) .u64 (v:Int) rfl rfl Gf hT ?_
        intro w5 hw5;have hB5:Below w.heap.size w w5:=by rw [hw5];exact hB4.setCell (p:=⟨gs,i+k,none⟩) (by show w.heap.size≤gs;omega) _
        have hA5:Ia w5 w.heap.size (a.map Ga) 83:=by rw [hw5];exact hA4.other (by show w.heap.size≠gs;omega) _
        have hC5:Ia w5 gb (b.map Ga) 83:=by rw [hw5];exact hC4.other (by show gb≠gs;omega) _
        have hZ5:Ia w5 gz (Na 16) 88:=by rw [hw5];exact hZ4.other (by show gz≠gs;omega) _
        have hS5:Ia w5 gs (z.1.map Ga) 88:=by rw [hw5,HN.out,←Se];exact hE.out
        clear hw5 hT hE hB4 hA4 hC4 hZ4 hS4))
     go_roundw
     case rel=>first|exact ⟨k+1,by omega,by go_num,by rw [HZ.out,HN.out],hB5,hA5,hC5,hZ5,by rw [HZ.out];exact hS5⟩|trace_state
     case measure=>simp [intOf];omega
    ·obtain rfl:k=8:=by omega
     have ho:=(HVLi.out 8).2.2;generalize (vv 8).2=o at *;generalize (vv 8).1=s at *;have c9:IntKind.i64.wrap ((i:Int)+8)=(i:Int)+8:=IntWalk.i64_in _ (by omega);have i3:(0:Int)≤(i:Int)+8:=by omega
     have i4:(i:Int)+8<16:=by omega
     have i5:((i:Int)+8).toNat=i+8:=by omega
     have i6:(0:Int)≤(i:Int):=by omega
     have i7:IntKind.i64.wrap ((i:Int)+1)=(i:Int)+1:=IntWalk.i64_in _ (by omega);have hT:=hS.there (i+8) 1 (by rw [Uaj,HLk.out];omega);have hE:=Lib.hid (hS.set (i+8) (Ga o));clear HVi0 HVLi HVSi ho;go_wp2_with (first
      |(refine Qb rfl 49 _ _ rfl gs (i+8) .u64 (o:Int) rfl rfl Gf hT ?_
        intro w5 hw5;have hB5:Below w.heap.size w w5:=by rw [hw5];exact hB.setCell (p:=⟨gs,i+8,none⟩) (by show w.heap.size≤gs;omega) _
        have hA5:Ia w5 w.heap.size (a.map Ga) 83:=by rw [hw5];exact hA.other (by show w.heap.size≠gs;omega) _
        have hC5:Ia w5 gb (b.map Ga) 83:=by rw [hw5];exact hC.other (by show gb≠gs;omega) _
        have hZ5:Ia w5 gz (Na 16) 88:=by rw [hw5];exact hZ.other (by show gz≠gs;omega) _
        have hS5:Ia w5 gs (nx.map Ga) 88:=by rw [hw5,HSi.out,←Se];exact hE.out
        clear hw5 hT hE hB hA hC hZ hS))
     go_roundw
     case rel=>first|exact ⟨i+1,by omega,by go_num,hB5,hA5,hC5,hZ5,by rw [HNX.out];exact hS5⟩|trace_state
     case measure=>simp [intOf];omega
  ·obtain rfl:i=8:=by omega
   rw [HQ.out] at hS;clear HA HB HV0 HVL HVS HS HQ H0 hA hC;go_wp2_with (first
    |(refine Pa rfl 88 _ rfl gs 16 (q.map Ga) rfl hS Tryz.underlying88 rfl Wn (by rw [Uaj,HQL.out]) ?_)
    |(refine Ka rfl 88 _ _ rfl gz 16 (Na 16) (q.map Ga) rfl rfl hZ rfl Wn (by rw [Uaj,HQL.out]) (Oa q) ?_
      intro w7 hb7 hC7 _))
   exact qc Tryz.results48 gz (q.map Ga) rfl hC7 Tryz.underlying88 rfl Wn (by rw [Uaj,HQL.out]) rfl ⟨rfl,hB.trans (hb7.below (by omega) hB.size)⟩
def prR (n m:Nat):List Nat:=Wj (nD n) (nD m) 8
theorem EC (n m:Nat):(prR n m).length=16:=Gg _ _ _
theorem Rad (n m:Nat):∀k,(prR n m).getD k 0<4294967296:=Qu (Td n).2 (Td m).2 8
theorem J9 (n m:Nat) (hn:n<mm) (hm:m<mm):pre (prR n m) 16=n*m:=by
 have hv:=VB (nD n) (nD m) 8 (Xaj _);rw [Ce n hn,Ce m hm] at hv;exact hv
theorem FE (n m:Nat) (w:World):Calls Tryz.prog 48 #[Aa (nD n),Aa (nD m)] w (gvn (Aa (prR n m)) w):=by
 have ha:=(Td n).2;have hb:=(Td m).2;refine DC (nD n) (nD m) (prR n m) (Wj (nD n) (nD m)) (fun i=>qg (nD n) (nD m) (Wj (nD n) (nD m) i) i) w (Td n) (Td m) rfl (fun i=>rfl) (fun i k=>?_) (fun i k=>Aw _ _ _ i k) (fun i=>FG _ _ i) rfl (EC _ _);have h:=Pz ha hb (Qu ha hb i) i k;exact ⟨by rw [Gi,Gg],h.1,h.2⟩
section
variable {P:Program} {ops:Array Oper} {Q:Exit→Act→World→Prop} {md:Region.Mode} {L:List Nat}
structure I4 (P:Program) (md:Region.Mode) (ops:Array Oper) (L:List Nat) (vs:List Value) (news:List (Nat×Nat)) (t:TypeId) (zs:List Value) (p:Nat×Nat) (j:Nat) (l:List Value):Prop where
 store:∃o v,ops[j]? =some o∧o.dst=none∧o.guard=none∧o.op=.store t (.tmp p.2) (.tmp v)∧Fe md ops j p.1=true∧qi news v=true∧okB md ops L j v=true∧vs.getD v undef=.agg l.toArray∧(P.info? t).map (·.size)=some l.length∧zs.length=l.length∧l.toArray.all (·.oneCell')=true
def Ez (sv:Nat→Option (Nat×List Value)) (zs:Nat→List Value) (listed:Array Bool) (s:Nat):List Value:=match sv s with
 |some (j,l)=>if listed.getD j false=true then l else zs s
 |none=>zs s
structure ZU (sv:Nat→Option (Nat×List Value)) (ops:Array Oper) (L:List Nat) (w0:World) (ds:List Deferred) (vs:List Value) (news:List (Nat×Nat)) (t:Nat→TypeId) (zs:Nat→List Value) (listed:Array Bool) (a:Act) (w:World):Prop where
 below:Below w0.heap.size w0 w
 size:a.tmps.size=vs.length
 defers:a.defers=ds
 fact:∀s,qi news s=true→(∀j∈L,Je ops j s=true→listed.getD j false=true)→a.tmps.getD s undef=vs.getD s undef
 made:∀p∈news,listed.getD p.1 false=true→∃g,w0.heap.size≤g∧a.tmps.getD p.2 undef=.pointer (some ⟨g,0,none⟩)∧Ia w g (Ez sv zs listed p.2) (t p.2)
 order:∀p∈news,∀j l,sv p.2=some (j,l)→listed.getD j false=true→listed.getD p.1 false=true
 apart:∀p∈news,∀q∈news,p.2≠q.2→listed.getD p.1 false=true→listed.getD q.1 false=true→a.tmps.getD p.2 undef≠a.tmps.getD q.2 undef
theorem ZR {w0:World} {ds:List Deferred} {vs:List Value} {news:List (Nat×Nat)} {t:Nat→TypeId} {zs:Nat→List Value} {sv:Nat→Option (Nat×List Value)} (hnL:∀p∈news,p.1∈L) (hN:∀p∈news,YZ P ops L vs.length (t p.2) p) (hz:∀p∈news,∀w,(zeroValue (t p.2)).run P w=.ok (.agg (zs p.2).toArray) w) (hsv:∀p∈news,∀j l,sv p.2=some (j,l)→I4 P md ops L vs news (t p.2) (zs p.2) p j l) (huq:∀p∈news,∀q∈news,∀j l l',sv p.2=some (j,l)→sv q.2=some (j,l')→p.2=q.2) {i:Nat} (hi:i∈L) (h:(∃p∈news,p.1=i)∨Pi P md ops Q L w0 vs news i∨∃p∈news,∃l,sv p.2=some (i,l))
 (listed:Array Bool) (a:Act) (w:World) (hI:ZU sv ops L w0 ds vs news t zs listed a w) (hr:i∈Region.ready md ops listed):wpOp P ops Q i (ZU sv ops L w0 ds vs news t zs (listed.setIfInBounds i true)) a w:=by
 have hget:∀(s u:Nat) (v:Value),s≠u→(a.put (some s) v).tmps.getD u undef=a.tmps.getD u undef:=fun s u v hne=>Fg _ _ _ _ hne;have hback:∀j,j≠i→(listed.setIfInBounds i true).getD j false=true→listed.getD j false=true:=fun j hj hl=>by
  rwa [getD_set_ne false (fun e=>hj e.symm)] at hl
 have hilt:i<listed.size:=by
  have h0:=(mem_ready.1 hr).1;rcases Nat.lt_or_ge i listed.size with h|h
  ·exact h
  ·rw [Array.getD_eq_getD_getElem?,Array.getElem?_eq_none h] at h0;cases h0
 have hun:listed.getD i false=false:=by
  have h0:=(mem_ready.1 hr).1;simp [hilt] at h0 ⊢;exact h0
 have hset:(listed.setIfInBounds i true).getD i false=true:=by simp [hilt]
 have hmono:∀j,listed.getD j false=true→(listed.setIfInBounds i true).getD j false=true:=fun j hj=>by
  by_cases e:j=i
  ·rw [e];exact hset
  ·rwa [getD_set_ne false (fun e2=>e e2.symm)]
 have hcur:∀s,(∀j l,sv s=some (j,l)→j≠i)→Ez sv zs (listed.setIfInBounds i true) s=Ez sv zs listed s:=fun s hs=>by
  unfold Ez
  split
  ·rename_i j l hj;rw [getD_set_ne false (fun e2=>hs j l hj e2.symm)]
  ·rfl
 rcases h with ⟨p,hp,rfl⟩|h|⟨p,hp,l,hsp⟩
 ·obtain ⟨o,ho,hd,hg,hop,hs,hone⟩:=(hN p hp).new;rw [List.all_eq_true] at hone;have hs':p.2<vs.length:=by simpa [Nat.blt_eq] using hs
  have hb:Below w.heap.size w (w.alloc (.cells (zs p.2).toArray (t p.2))):=(Below.refl _ _).alloc (Xaj _) _;have heq:(a.put (some p.2) (.pointer (some ⟨w.heap.size,0,none⟩))).tmps.getD p.2 undef=.pointer (some ⟨w.heap.size,0,none⟩):=Pf _ _ _ (by rw [hI.size];exact hs');have hone2:∀q∈news,q.2=p.2→q.1=p.1:=fun q hq e=>by
   obtain ⟨oq,hoq,hdq,_⟩:=(hN q hq).new;have :=hone q.1 (hnL q hq);simpa [Je,hoq,hdq,e] using this
  suffices hfin:ZU sv ops L w0 ds vs news t zs (listed.setIfInBounds p.1 true) (a.put (some p.2) (.pointer (some ⟨w.heap.size,0,none⟩))) (w.alloc (.cells (zs p.2).toArray (t p.2))) by
   refine wpOp_step ho fun K hK=>?_;rw [if_pos (by simp [Region.wanted,hg])];have hfin2:=hK _ _ hfin;rw [←hd] at hfin2;unfold Oper.wp;simp only [execOp,hop,Instr.alloc,hz p hp,newVar,Value.cells,Sem.run_bind,Sem.run_pure,Result.andThen_ok,go_sem];exact hfin2
  have hjne:∀q∈news,∀j l,sv q.2=some (j,l)→j≠p.1:=fun q hq j l hj e=>by
   obtain ⟨oj,v,hoj,hdj,_⟩:=(hsv q hq j l hj).store;rw [e,ho] at hoj;cases hoj
   rw [hd] at hdj;cases hdj
  refine ⟨hI.below.trans (hb.mono hI.below.size),?_,?_,fun s hold hs2=>?_,fun q hq hl=>?_,fun q hq j l hj hl=>hmono _ (hI.order q hq j l hj (hback _ (hjne q hq j l hj) hl)),fun q hq q' hq' hne hl hl'=>?_⟩
  ·rw [←hI.size];simp [Act.put]
  ·rw [←hI.defers];rfl
  ·have hne:=Au hold p hp;rw [hget _ _ _ hne];refine hI.fact s hold fun j hj hjs=>?_;have h1:=hs2 j hj hjs;refine hback j (fun e=>?_) h1;rw [e] at hjs;simp only [Je,ho,hd] at hjs;exact hne (by simpa using hjs)
  ·by_cases e:q.2=p.2
   ·have e3:Ez sv zs (listed.setIfInBounds p.1 true) q.2=zs p.2:=by
     rw [hcur _ (hjne q hq),e];unfold Ez
     split
     ·rename_i j l hj;rw [if_neg];intro hlj;rw [hI.order p hp j l hj hlj] at hun;cases hun
     ·rfl
    rw [e3,e,heq];exact ⟨_,hI.below.size,rfl,Ia.new w _ _⟩
   ·rw [hget _ _ _ (fun e2=>e e2.symm),hcur _ (hjne q hq)];obtain ⟨g,h1,h2,h3⟩:=hI.made q hq (hback _ (fun e2=>by
     obtain ⟨oq,hoq,hdq,_⟩:=(hN q hq).new;rw [e2,ho] at hoq;cases hoq
     rw [hd] at hdq;exact e (by simpa using hdq.symm)) hl)
    exact ⟨g,h1,h2,h3.below hb h3.lt⟩
  ·have key:∀r∈news,r.2≠p.2→(listed.setIfInBounds p.1 true).getD r.1 false=true→a.tmps.getD r.2 undef≠.pointer (some ⟨w.heap.size,0,none⟩):=fun r hr2 hne2 hl2 e=>by
    obtain ⟨g,h1,h2,h3⟩:=hI.made r hr2 (hback _ (fun e2=>by
     obtain ⟨oq,hoq,hdq,_⟩:=(hN r hr2).new;rw [e2,ho] at hoq;cases hoq
     rw [hd] at hdq;exact hne2 (by simpa using hdq.symm)) hl2)
    rw [h2] at e;have :=h3.lt;simp at e;try omega
   have nl:∀r∈news,r.2≠p.2→(listed.setIfInBounds p.1 true).getD r.1 false=true→listed.getD r.1 false=true:=fun r hr2 hne2 hl2=>hback _ (fun e2=>by
    obtain ⟨oq,hoq,hdq,_⟩:=(hN r hr2).new;rw [e2,ho] at hoq;cases hoq
    rw [hd] at hdq;exact hne2 (by simpa using hdq.symm)) hl2
   by_cases e:q.2=p.2
   ·have e':q'.2≠p.2:=fun e2=>hne (e.trans e2.symm);rw [e,heq,hget _ _ _ (fun e2=>e' e2.symm)];exact fun h=>key q' hq' e' hl' h.symm
   ·by_cases e':q'.2=p.2
    ·rw [e',heq,hget _ _ _ (fun e2=>e e2.symm)];exact key q hq e hl
    ·rw [hget _ _ _ (fun e2=>e e2.symm),hget _ _ _ (fun e2=>e' e2.symm)];exact hI.apart q hq q' hq' hne (nl q hq e hl) (nl q' hq' e' hl')
 ·obtain ⟨o,s,ho,hd,hs,hold,hone,hstep⟩:=h.step;rw [List.all_eq_true] at hone;have hs':s<vs.length:=by simpa [Nat.blt_eq] using hs
  have hnew:=Au hold;have hni:∀p∈news,p.1≠i:=fun p hp e=>by
   obtain ⟨oq,hoq,hdq,_⟩:=(hN p hp).new;rw [e,ho] at hoq;cases hoq
   rw [hd] at hdq;exact hnew p hp (by simpa using hdq.symm)
  refine wpOp_step ho fun K hK=>?_;refine hstep a w K hI.below (fun u hu hou=>hI.fact u hou fun j hj hjs=>?_) fun w' hb=>hK _ _ ?_
  ·rw [okB,List.all_eq_true] at hu;have h1:=hu j hj;rw [hjs] at h1;exact zf hr (by simpa using h1)
  ·rw [hd];have hjne:∀q∈news,∀j l,sv q.2=some (j,l)→j≠i:=fun q hq j l hj e=>by
    obtain ⟨oj,v,hoj,hdj,_⟩:=(hsv q hq j l hj).store;rw [e,ho] at hoj;cases hoj
    rw [hd] at hdj;cases hdj
   refine ⟨hI.below.trans (hb.mono hI.below.size),?_,?_,fun u hou hu=>?_,fun q hq hl=>?_,fun q hq j l hj hl=>hmono _ (hI.order q hq j l hj (hback _ (hjne q hq j l hj) hl)),fun q hq q' hq' hne hl hl'=>?_⟩
   ·rw [←hI.size];simp [Act.put]
   ·rw [←hI.defers];rfl
   ·by_cases e:s=u
    ·subst e;rw [Pf _ _ _ (by rw [hI.size];exact hs')]
    ·rw [hget _ _ _ e];refine hI.fact u hou fun j hj hju=>?_;have h1:=hu j hj hju;refine hback j (fun ej=>?_) h1;rw [ej] at hju;simp only [Je,ho,hd] at hju;exact e (by simpa using hju)
   ·rw [hget _ _ _ (fun e=>hnew q hq e.symm),hcur _ (hjne q hq)];obtain ⟨g,h1,h2,h3⟩:=hI.made q hq (hback _ (hni q hq) hl);exact ⟨g,h1,h2,h3.below hb h3.lt⟩
   ·rw [hget _ _ _ (fun e=>hnew q hq e.symm),hget _ _ _ (fun e=>hnew q' hq' e.symm)];exact hI.apart q hq q' hq' hne (hback _ (hni q hq) hl) (hback _ (hni q' hq') hl')
 ·obtain ⟨o,v,ho,hd,hg,hop,hw,hov,hok,hval,hsz,hzl,h1c⟩:=(hsv p hp i l hsp).store;have hlp:listed.getD p.1 false=true:=zf hr hw;obtain ⟨g,hge,hpt,hC⟩:=hI.made p hp hlp;have hcz:Ez sv zs listed p.2=zs p.2:=by
   unfold Ez;rw [hsp];simp [hun]
  rw [hcz] at hC;have hv:a.tmps.getD v undef=.agg l.toArray:=by
   rw [←hval];refine hI.fact v hov fun j hj hjs=>?_;rw [okB,List.all_eq_true] at hok;have h1:=hok j hj;rw [hjs] at h1;exact zf hr (by simpa using h1)
  have hne:∀q∈news,q.2≠p.2→∀j l',sv q.2=some (j,l')→j≠i:=fun q hq hne j l' hj e=>by
   subst e;exact hne (huq q hq p hp j l' l hj hsp)
  have hC2:=hC.setCells (cs:=l) (o:=0) (by omega);rw [Xb _ _ (by omega)] at hC2;refine wpOp_step ho fun K hK=>?_;rw [if_pos (by simp [Region.wanted,hg])];refine wp_store_mid (t p.2) (.tmp p.2) (.tmp v) hop g 0 l.toArray hpt hv (by rw [List.size_toArray];exact hC.there 0 _ (by omega)) (by rw [List.size_toArray];exact hsz) h1c ?_;rw [hd];refine hK _ _ ⟨Kd hI.below hge _ _,hI.size,hI.defers,fun s hold hs2=>hI.fact s hold fun j hj hjs=>hback j (fun e=>?_) (hs2 j hj hjs),fun q hq hl=>?_,fun q hq j l' hj hl=>?_,fun q hq q' hq' hne2 hl hl'=>hI.apart q hq q' hq' hne2 ?_ ?_⟩
  ·rw [e] at hjs;simp [Je,ho,hd] at hjs
  ·by_cases e:q.2=p.2
   ·have e3:Ez sv zs (listed.setIfInBounds i true) q.2=l:=by
     unfold Ez;rw [e,hsp];simp only [hset,if_true]
    rw [e3,e];exact ⟨g,hge,hpt,hC2⟩
   ·rw [hcur _ (hne q hq e)];have hlq:listed.getD q.1 false=true:=by
     refine hback _ (fun e2=>?_) hl;obtain ⟨oq,hoq,hdq,_⟩:=(hN q hq).new;rw [e2,ho] at hoq;cases hoq
     rw [hd] at hdq;cases hdq
    obtain ⟨g',h1,h2,h3⟩:=hI.made q hq hlq;refine ⟨g',h1,h2,h3.otherCells (fun e2=>?_) _ _⟩;have h4:=hI.apart q hq p hp e hlq hlp;rw [h2,hpt,e2] at h4;exact h4 rfl
  ·by_cases e:q.2=p.2
   ·have hq1:q.1=p.1:=by
     obtain ⟨oq,hoq,hdq,hgq,hopq,hsq,honeq⟩:=(hN q hq).new;rw [List.all_eq_true] at honeq;obtain ⟨op,hop2,hdp,_⟩:=(hN p hp).new;have :=honeq p.1 (hnL p hp);have h5:p.1=q.1:=by simpa [Je,hop2,hdp,e] using this
     exact h5.symm
    rw [hq1];exact hmono _ hlp
   ·exact hmono _ (hI.order q hq j l' hj (hback _ (hne q hq e j l' hj) hl))
  all_goals
   refine hback _ (fun e2=>?_) (by assumption);first
   |(obtain ⟨oq,hoq,hdq,_⟩:=(hN q hq).new
     rw [e2,ho] at hoq;cases hoq
     rw [hd] at hdq;cases hdq
     done)
   |(obtain ⟨oq,hoq,hdq,_⟩:=(hN q' hq').new
     rw [e2,ho] at hoq;cases hoq
     rw [hd] at hdq;cases hdq)
theorem Qf (hB:zo md ops L=true) (w0:World) (a0:Act) (vs:List Value) (news:List (Nat×Nat)) (t:Nat→TypeId) (zs:Nat→List Value) (sv:Nat→Option (Nat×List Value)) (keep:List Nat) (hkeep:((List.range vs.length).all fun s=>keep.contains s||L.any fun j=>Je ops j s&&Nat.blt j ops.size)=true)
 (hnL:(news.all fun p=>L.contains p.1)=true) (hN:∀p∈news,YZ P ops L vs.length (t p.2) p) (hz:∀p∈news,∀w,(zeroValue (t p.2)).run P w=.ok (.agg (zs p.2).toArray) w)
 (hsv:∀p∈news,∀j l,sv p.2=some (j,l)→I4 P md ops L vs news (t p.2) (zs p.2) p j l∧j∈L) (huq:∀p∈news,∀q∈news,∀j l l',sv p.2=some (j,l)→sv q.2=some (j,l')→p.2=q.2)
 (hk:∀s∈keep,a0.tmps.getD s undef=vs.getD s undef) (hsz:a0.tmps.size=vs.length) (hstep:∀i∈L,(∃p∈news,p.1=i)∨Pi P md ops Q L w0 vs news i∨∃p∈news,∃l,sv p.2=some (i,l)) (rem:Nat) (hrem:rem+(Ge ops.size L).toList.countP id=ops.size)
 (hend:∀w (g:Nat→Nat),Below w0.heap.size w0 w→(∀p∈news,w0.heap.size≤g p.2∧Ia w (g p.2) ((sv p.2).elim (zs p.2) (·.2)) (t p.2))→(∀p∈news,∀q∈news,p.2≠q.2→g p.2≠g q.2)→wpAny P md ops Q rem (Ge ops.size L) ⟨(Oc g news vs).toArray,a0.defers⟩ w):wpAny P md ops Q ops.size (Array.replicate ops.size false) a0 w0:=by
 rw [List.all_eq_true] at hkeep hnL;have hnL':∀p∈news,p.1∈L:=fun p hp=>by simpa using hnL p hp
 have hno:∀j,(Array.replicate ops.size false).getD j false=false:=fun j=>by
  by_cases h:j<ops.size<;>simp [h]
 have h0:(Array.replicate ops.size false).toList.countP id=0:=by simp [List.countP_replicate]
 refine Ls hB (ZU sv ops L w0 a0.defers vs news t zs) (fun i hi=>ZR hnL' hN hz (fun p hp j l h=>(hsv p hp j l h).1) huq hi (hstep i hi)) rem hrem (fun a w hI=>?_) ops.size _ a0 w0 ⟨by simp,fun j hj=>?_,fun i j hi=>?_⟩ (by omega) ⟨Below.refl _ _,hsz,rfl,fun s hold hs=>?_,fun p hp hl=>?_,fun p hp j l _ hl=>?_,fun p hp q hq _ hl=>?_⟩
 ·have hful:∀j∈L,j<ops.size→(Ge ops.size L).getD j false=true:=fun j hj hlt=>by simp [Ge,hlt,hj]
  have hnew:∀p∈news,(Ge ops.size L).getD p.1 false=true:=fun p hp=>by
   obtain ⟨o,ho,_⟩:=(hN p hp).new;exact hful _ (hnL' p hp) (Array.getElem?_eq_some_iff.1 ho).1
  have hcur:∀p∈news,Ez sv zs (Ge ops.size L) p.2=(sv p.2).elim (zs p.2) (·.2):=fun p hp=>by
   unfold Ez
   split
   ·rename_i j l hj;have h:=hsv p hp j l hj;obtain ⟨o,v,ho,_⟩:=h.1.store;rw [if_pos (hful j h.2 (Array.getElem?_eq_some_iff.1 ho).1),hj];rfl
   ·rename_i hj;rw [hj];rfl
  have hg:∃g:Nat→Nat,∀p∈news,w0.heap.size≤g p.2∧a.tmps.getD p.2 undef=.pointer (some ⟨g p.2,0,none⟩)∧Ia w (g p.2) ((sv p.2).elim (zs p.2) (·.2)) (t p.2):=by
   refine ⟨fun s=>blk (a.tmps.getD s undef),fun p hp=>?_⟩;obtain ⟨g,h1,h2,h3⟩:=hI.made p hp (hnew p hp);have hb:blk (a.tmps.getD p.2 undef)=g:=by rw [h2];rfl
   show w0.heap.size≤blk (a.tmps.getD p.2 undef)∧a.tmps.getD p.2 undef=.pointer (some ⟨blk (a.tmps.getD p.2 undef),0,none⟩)∧Ia w (blk (a.tmps.getD p.2 undef)) ((sv p.2).elim (zs p.2) (·.2)) (t p.2);rw [hb,←hcur p hp];exact ⟨h1,h2,h3⟩
  obtain ⟨g,hg⟩:=hg;rw [qt (vs:=Oc g news vs) (by rw [Zk];exact hI.size) hI.defers fun s=>?_]
  ·refine hend w g hI.below (fun p hp=>⟨(hg p hp).1,(hg p hp).2.2⟩) fun p hp q hq hne e=>hI.apart p hp q hq hne (hnew p hp) (hnew q hq) ?_;rw [(hg p hp).2.1,(hg q hq).2.1,e]
  ·by_cases ho:qi news s=true
   ·rw [Ql g s news vs ho];refine hI.fact s ho fun j hj hjs=>hful j hj ?_;unfold Je at hjs;rcases Nat.lt_or_ge j ops.size with h|h
    ·exact h
    ·rw [Array.getElem?_eq_none h] at hjs;cases hjs
   ·have hex:∃p∈news,p.2=s:=by
     refine Classical.byContradiction fun hc=>ho ?_;rw [qi,List.all_eq_true];intro q hq;cases hb:Nat.beq q.2 s with
     |false=>rfl
     |true=>exact absurd ⟨q,hq,Nat.eq_of_beq_eq_true hb⟩ hc
    obtain ⟨p,hp,e⟩:=hex;obtain ⟨o,_,_,_,_,hlt,_⟩:=(hN p hp).new;rw [qo g s news vs (by rw [←e];simpa [Nat.blt_eq] using hlt) ⟨p,hp,e⟩,←e];exact (hg p hp).2.1
 ·rw [hno] at hj;cases hj
 ·rw [hno] at hi;cases hi
 ·rcases Nat.lt_or_ge s vs.length with h|h
  ·have h1:=hkeep s (List.mem_range.2 h);rw [Bool.or_eq_true,List.contains_iff_mem,List.any_eq_true] at h1;rcases h1 with h1|⟨j,hj,h1⟩
   ·exact hk s h1
   ·rw [Bool.and_eq_true] at h1;have :=hs j hj h1.1;rw [hno] at this;cases this
  ·simp [Array.getElem?_eq_none (show a0.tmps.size≤s by omega),h]
 ·rw [hno] at hl;cases hl
 ·rw [hno] at hl;cases hl
 ·rw [hno] at hl;cases hl
end
end Go.Proofs.YtoggkhjaghkpnaaGreatDoor
namespace Go.Proofs.YtoggkhjaghkpnaaGreatDoor
open Go.RowKit
theorem Sad (g:Nat) (w:World):(Instr.sliceAt 74 (.pointer (some ⟨g,0,none⟩)) none (some (.int .i64 32)) none).run Tryz.prog w=.ok (.slice (some ⟨g,0,none⟩) 32 64) w:=by kernel_rfl
theorem L9 (g:Nat) (w:World):(Instr.sliceAt 74 (.pointer (some ⟨g,0,none⟩)) (some (.int .i64 32)) none none).run Tryz.prog w=.ok (.slice (some ⟨g,32,none⟩) 32 32) w:=by kernel_rfl
theorem xU (g:Nat) (w:World):(Instr.sliceAt 23 (.pointer (some ⟨g,0,none⟩)) none none none).run Tryz.prog w=.ok (.slice (some ⟨g,0,none⟩) 32 32) w:=by kernel_rfl
theorem Tz (g o c:Nat) (w:World):(Instr.arrayAt 23 (.slice (some ⟨g,o,none⟩) 32 c)).run Tryz.prog w=.ok (.pointer (some ⟨g,o,none⟩)) w:=by kernel_rfl
theorem Dr {P:Program} (ρ:Operand→Value) (o:Oper) (t:TypeId) (x:Operand) (lo hi mx:Option Operand) (h:o.op=.slice t x lo hi mx) (vx:Value) (hx:ρ x=vx) (v:Value) (w:World) (hr:(Instr.sliceAt t vx (lo.map ρ) (hi.map ρ) (mx.map ρ)).run P w=.ok v w):(execOp ρ o).run P w=.ok (.value v) w:=by
 simp [execOp,h,hx,hr]
theorem Rp {P:Program} (ρ:Operand→Value) (o:Oper) (t:TypeId) (x:Operand) (h:o.op=.sliceToArrayPointer t x) (vx:Value) (hx:ρ x=vx) (v:Value) (w:World) (hr:(Instr.arrayAt t vx).run P w=.ok v w):(execOp ρ o).run P w=.ok (.value v) w:=by
 simp [execOp,h,hx,hr]
theorem Uu {w:World} {g:Nat} {p:List UInt8} {t':TypeId} (hC:Ia w g (p.map Fa) t') (o:Nat) {x:List UInt8} (hp:(p.drop o).take 32=x) (hx:x.length=32):(Instr.loadAt 23 (.pointer (some ⟨g,o,none⟩))).run Tryz.prog w=.ok (Ca x) w:=by
 have hr:=hC.range o 32;rw [←List.map_drop,←List.map_take,hp] at hr;exact run_loadAt_mid w g o 23 (x.map Fa) _ hr Tryz.underlying23 rfl (by rw [Uaj,hx];exact za)
theorem zI (kb:List UInt8) (n zz rr r ol tl:List Nat) (w:World)
 (Hkb:Hid (kb.length=32))
 (Hr:Hid (r.length=8))
 (CR:Hid (∀W,Calls Tryz.prog 49 #[Ca kb] W (gvn (Aa n) W)))
 (BZ:∀w,(Instr.build 83 #[]).run Tryz.prog w=.ok (Aa zz) w)
 (CB:Hid (∀W,Calls Tryz.prog 84 #[Aa n,Aa zz] W (gvn (Aa rr) W)))
 (CM:Hid (∀W,Tab W 0 (ol.map Ga)→Tab W 7 (tl.map Ga)→Calls Tryz.prog 47 #[Aa rr] W (gvn (Aa r) W)))
 (hO:Tab w 0 (ol.map Ga))
 (hT:Tab w 7 (tl.map Ga)):
 Calls Tryz.prog 46 #[Ca kb] w (gvn (Aa r) w):=by
 go_enter Tryz.func46,Tryz.ntmps46;go_wp2_with (first
  |(refine Rb rfl 23 (.tmp 0) rfl kb rfl ?_
    intro w1 hb1 hvk1 hz;clear hz;have hB1:=hb1;have hgek:w.heap.size≤w.heap.size:=Xaj _;have hvo1:=hO.on hb1;have hneok:=Vaj hO.lt;have hvt1:=hT.on hb1;have hnetk:=Vaj hT.lt;clear hO hT hb1;try simp only [La]
    skip)
  |(refine Ma (o:=⟨some 2,_,_,_,_,_⟩) rfl 83 rfl (Na 8) We ?_
    intro w2 hb2 hvr2;have hB2:=Ba hB1 hb2;have hger:w.heap.size≤w1.heap.size:=hB1.size;have hvo2:=hvo1.on hb2;have hneor:=Vaj hvo1.lt;have hvt2:=hvt1.on hb2;have hnetr:=Vaj hvt1.lt;have hvk2:=hvk1.on hb2;have hnekr:=Vaj hvk1.lt;clear hB1 hvo1 hvt1 hvk1 hb2;try simp only [La]
    skip)
  |(refine Tc rfl 23 (.tmp 1) rfl w.heap.size 32 kb 5 rfl hvk2 Tryz.underlying23 za Hkb.out ?_
    try simp only [La]
    skip))
 generalize hqr:w1.heap.size=gr at *;clear hqr;refine (CR.out w2).mono ?_;rintro e w3 ⟨rfl,hb3⟩;have hB3:=Ba hB2 hb3;have hvo3:=hvo2.on hb3;have hvt3:=hvt2.on hb3;have hvk3:=hvk2.on hb3;have hvr3:=hvr2.on hb3;clear hB2 hvo2 hvt2 hvk2 hvr2 hb3;go_wp2_with (first
  |(refine Eb rfl 83 [] rfl [] rfl _ BZ ?_
    try simp only [La]
    skip))
 refine (CB.out w3).mono ?_;rintro e w4 ⟨rfl,hb4⟩;have hB4:=Ba hB3 hb4;have hvo4:=hvo3.on hb4;have hvt4:=hvt3.on hb4;have hvk4:=hvk3.on hb4;have hvr4:=hvr3.on hb4;clear hB3 hvo3 hvt3 hvk3 hvr3 hb4;go_wp2_with fail
 refine (CM.out w4 hvo4 hvt4).mono ?_;rintro e w5 ⟨rfl,hb5⟩;have hB5:=Ba hB4 hb5;have hvo5:=hvo4.on hb5;have hvt5:=hvt4.on hb5;have hvk5:=hvk4.on hb5;have hvr5:=hvr4.on hb5;clear hB4 hvo4 hvt4 hvk4 hvr4 hb5;go_wp2_with (first
  |(refine Ka rfl 83 (.tmp 2) (.tmp 7) rfl gr 8 (Na 8) (r.map Ga) rfl rfl hvr5 rfl Kc (by rw [Uaj,Hr.out]) (Oa _) ?_
    intro w6 hb6 hvr6 hz6;have hB6:Below w.heap.size w w6:=hB5.trans (hb6.below hger hB5.size);have hvo6:=hvo5.but hb6 hneor;have hvt6:=hvt5.but hb6 hnetr;have hvk6:=hvk5.but hb6 hnekr;clear hB5 hvr5 hb6 hz6 hvo5 hvt5 hvk5;skip))
 exact qc Tryz.results46 gr (r.map Ga) rfl hvr6 Tryz.underlying83 rfl Kc (by rw [Uaj,Hr.out]) rfl ⟨rfl,hB6⟩
def FC (ab:List UInt8) (bb:List UInt8) (g_base:Nat) (gb:Nat) (gr:Nat) (n:List Nat) (m:List Nat) (s:List Nat) (ol:List Nat) (r:List Nat) (ob:List UInt8):List Value:=
 (Ca ab)::(Ca bb)::ptr g_base::ptr gb::ptr gr::(Ca ab)::(Aa n)::(Ca bb)::(Aa m)::(Aa s)::(Aa ol)::(Aa r)::(Ca ob)::[]
theorem xR (ab bb ob:List UInt8) (n m s r ol tl:List Nat) (w:World)
 (Hab:Hid (ab.length=32))
 (Hbb:Hid (bb.length=32))
 (Hob:Hid (ob.length=32))
 (Hol:Hid (ol.length=8))
 (CA:Hid (∀W,Tab W 0 (ol.map Ga)→Tab W 7 (tl.map Ga)→Calls Tryz.prog 46 #[Ca ab] W (gvn (Aa n) W)))
 (CB:Hid (∀W,Tab W 0 (ol.map Ga)→Tab W 7 (tl.map Ga)→Calls Tryz.prog 46 #[Ca bb] W (gvn (Aa m) W)))
 (CP:Hid (∀W,Calls Tryz.prog 45 #[Aa n,Aa m] W (gvn (Aa s) W)))
 (CS:Hid (∀W,Tab W 0 (ol.map Ga)→Calls Tryz.prog 44 #[Aa s,Aa ol] W (gvn (Aa r) W)))
 (CW:Hid (∀W,Calls Tryz.prog 43 #[Aa r] W (gvn (Ca ob) W)))
 (hO:Tab w 0 (ol.map Ga))
 (hT:Tab w 7 (tl.map Ga)):
 Calls Tryz.prog 16 #[Ca ab,Ca bb] w (gvn (Ca ob) w):=by
 go_enter Tryz.func16,Tryz.ntmps16;go_wp2_with (first
  |(refine Rb rfl 23 (.tmp 0) rfl ab rfl ?_
    intro w1 hb1 hva1 hz;clear hz;have hB1:=hb1;have hgea:w.heap.size≤w.heap.size:=Xaj _;have hvo1:=hO.on hb1;have hneoa:=Vaj hO.lt;have hvt1:=hT.on hb1;have hneta:=Vaj hT.lt;clear hO hT hb1;try simp only [La]
    skip)
  |(refine Rb rfl 23 (.tmp 1) rfl bb rfl ?_
    intro w2 hb2 hvb2 hz;clear hz;have hB2:=Ba hB1 hb2;have hgeb:w.heap.size≤w1.heap.size:=hB1.size;have hvo2:=hvo1.on hb2;have hneob:=Vaj hvo1.lt;have hvt2:=hvt1.on hb2;have hnetb:=Vaj hvt1.lt;have hva2:=hva1.on hb2;have hneab:=Vaj hva1.lt;clear hB1 hvo1 hvt1 hva1 hb2;try simp only [La]
    skip)
  |(refine Ma (o:=⟨some 4,_,_,_,_,_⟩) rfl 23 rfl Xa Zb ?_
    intro w3 hb3 hvr3;have hB3:=Ba hB2 hb3;have hger:w.heap.size≤w2.heap.size:=hB2.size;have hvo3:=hvo2.on hb3;have hneor:=Vaj hvo2.lt;have hvt3:=hvt2.on hb3;have hnetr:=Vaj hvt2.lt;have hva3:=hva2.on hb3;have hnear:=Vaj hva2.lt;have hvb3:=hvb2.on hb3;have hnebr:=Vaj hvb2.lt;clear hB2 hvo2 hvt2 hva2 hvb2 hb3;try simp only [La]
    skip))
 generalize hqb:w1.heap.size=gb at *;clear hqb;generalize hqr:w2.heap.size=gr at *;clear hqr;replace hvo3:=hvo3.drew;replace hvt3:=hvt3.drew;replace hva3:=hva3.drew;replace hvb3:=hvb3.drew;replace hvr3:=hvr3.drew;refine wp_region_any (by kernel_rfl) ?_;refine Ya (L:=[0,1,2,3,4,5,6,7]) (by kernel_rfl) _ _ (FC ab bb w.heap.size gb gr n m s ol r ob) [] 83 (Na 8) [0,1,2,3,4] (by kernel_rfl) (by kernel_rfl) ?_ We ?_ (by rfl) ?_ 1 (by kernel_rfl) ?_
 ·intro p hp;exact absurd hp List.not_mem_nil
 ·repeat refine Aak rfl ?_
  exact Qa
 ·refine Aak (.inr (mL 5 rfl fun w hb=>Yf (hva3.on hb) Hab.out)) ?_;refine Aak (.inr (mC 6 rfl Tryz.func46 fun w hb=>CA.out w (hvo3.on hb) (hvt3.on hb))) ?_;refine Aak (.inr (mL 7 rfl fun w hb=>Yf (hvb3.on hb) Hbb.out)) ?_;refine Aak (.inr (mC 8 rfl Tryz.func46 fun w hb=>CB.out w (hvo3.on hb) (hvt3.on hb))) ?_;refine Aak (.inr (mC 9 rfl Tryz.func45 fun w hb=>CP.out w)) ?_;refine Aak (.inr (mL 10 rfl fun w hb=>Dw (hvo3.on hb) Hol.out)) ?_;refine Aak (.inr (mC 11 rfl Tryz.func44 fun w hb=>CS.out w (hvo3.on hb))) ?_;refine Aak (.inr (mC 12 rfl Tryz.func43 fun w hb=>CW.out w)) ?_;exact Qa
 intro w4 g hb4 hN4 hap4;clear hN4 hap4;have hB4:=Ba (show Below w.heap.size w w3.drew from hB3.drew) hb4;have hvo4:=hvo3.on hb4;have hvt4:=hvt3.on hb4;have hva4:=hva3.on hb4;have hvb4:=hvb3.on hb4;have hvr4:=hvr3.on hb4;clear hB3 hvo3 hvt3 hva3 hvb3 hvr3 hb4;refine Bb 8 rfl (by kernel_rfl) ?_;refine Ka rfl 23 (.tmp 4) (.tmp 12) rfl gr 32 Xa (ob.map Fa) rfl rfl hvr4 rfl za (by rw [Uaj,Hob.out]) (Ab _) ?_;intro w5 hb5 hvr5 hz5;have hB5:Below w.heap.size w w5:=hB4.trans (hb5.below hger hB4.size);have hvo5:=hvo4.but hb5 hneor;have hvt5:=hvt4.but hb5 hnetr;have hva5:=hva4.but hb5 hnear;have hvb5:=hvb4.but hb5 hnebr;clear hB4 hvr4 hb5 hz5 hvo4 hvt4 hva4 hvb4;rename_i K hKK;show Exit.then K _ Exit.normal (⟨(FC ab bb w.heap.size gb gr n m s ol r ob).toArray,[]⟩:Act) w5;simp only [Exit.then];refine hKK _ _ ?_;clear hKK K g;simp only [FC,ptr]
 go_wp2
 exact qc Tryz.results16 gr (ob.map Fa) rfl hvr5 Tryz.underlying23 rfl za (by rw [Uaj,Hob.out]) rfl ⟨rfl,hB5⟩
def Ts (ab:List UInt8) (bb:List UInt8) (g_base:Nat) (gb:Nat) (gr:Nat) (n:List Nat) (m:List Nat) (s:List Nat) (r:List Nat) (ob:List UInt8):List Value:=
 (Ca ab)::(Ca bb)::ptr g_base::ptr gb::ptr gr::(Ca ab)::(Aa n)::(Ca bb)::(Aa m)::(Aa s)::(Aa r)::(Ca ob)::[]
theorem qI (ab bb ob:List UInt8) (n m s r ol tl:List Nat) (w:World)
 (Hab:Hid (ab.length=32))
 (Hbb:Hid (bb.length=32))
 (Hob:Hid (ob.length=32))
 (CA:Hid (∀W,Calls Tryz.prog 49 #[Ca ab] W (gvn (Aa n) W)))
 (CB:Hid (∀W,Calls Tryz.prog 49 #[Ca bb] W (gvn (Aa m) W)))
 (CP:Hid (∀W,Calls Tryz.prog 48 #[Aa n,Aa m] W (gvn (Aa s) W)))
 (CM:Hid (∀W,Tab W 0 (ol.map Ga)→Tab W 7 (tl.map Ga)→Calls Tryz.prog 47 #[Aa s] W (gvn (Aa r) W)))
 (CW:Hid (∀W,Calls Tryz.prog 43 #[Aa r] W (gvn (Ca ob) W)))
 (hO:Tab w 0 (ol.map Ga))
 (hT:Tab w 7 (tl.map Ga)):
 Calls Tryz.prog 17 #[Ca ab,Ca bb] w (gvn (Ca ob) w):=by
 go_enter Tryz.func17,Tryz.ntmps17;go_wp2_with (first
  |(refine Rb rfl 23 (.tmp 0) rfl ab rfl ?_
    intro w1 hb1 hva1 hz;clear hz;have hB1:=hb1;have hgea:w.heap.size≤w.heap.size:=Xaj _;have hvo1:=hO.on hb1;have hneoa:=Vaj hO.lt;have hvt1:=hT.on hb1;have hneta:=Vaj hT.lt;clear hO hT hb1;try simp only [La]
    skip)
  |(refine Rb rfl 23 (.tmp 1) rfl bb rfl ?_
    intro w2 hb2 hvb2 hz;clear hz;have hB2:=Ba hB1 hb2;have hgeb:w.heap.size≤w1.heap.size:=hB1.size;have hvo2:=hvo1.on hb2;have hneob:=Vaj hvo1.lt;have hvt2:=hvt1.on hb2;have hnetb:=Vaj hvt1.lt;have hva2:=hva1.on hb2;have hneab:=Vaj hva1.lt;clear hB1 hvo1 hvt1 hva1 hb2;try simp only [La]
    skip)
  |(refine Ma (o:=⟨some 4,_,_,_,_,_⟩) rfl 23 rfl Xa Zb ?_
    intro w3 hb3 hvr3;have hB3:=Ba hB2 hb3;have hger:w.heap.size≤w2.heap.size:=hB2.size;have hvo3:=hvo2.on hb3;have hneor:=Vaj hvo2.lt;have hvt3:=hvt2.on hb3;have hnetr:=Vaj hvt2.lt;have hva3:=hva2.on hb3;have hnear:=Vaj hva2.lt;have hvb3:=hvb2.on hb3;have hnebr:=Vaj hvb2.lt;clear hB2 hvo2 hvt2 hva2 hvb2 hb3;try simp only [La]
    skip))
 generalize hqb:w1.heap.size=gb at *;clear hqb;generalize hqr:w2.heap.size=gr at *;clear hqr;replace hvo3:=hvo3.drew;replace hvt3:=hvt3.drew;replace hva3:=hva3.drew;replace hvb3:=hvb3.drew;replace hvr3:=hvr3.drew;refine wp_region_any (by kernel_rfl) ?_;refine Ya (L:=[0,1,2,3,4,5,6]) (by kernel_rfl) _ _ (Ts ab bb w.heap.size gb gr n m s r ob) [] 83 (Na 8) [0,1,2,3,4] (by kernel_rfl) (by kernel_rfl) ?_ We ?_ (by rfl) ?_ 1 (by kernel_rfl) ?_
 ·intro p hp;exact absurd hp List.not_mem_nil
 ·repeat refine Aak rfl ?_
  exact Qa
 ·refine Aak (.inr (mL 5 rfl fun w hb=>Yf (hva3.on hb) Hab.out)) ?_;refine Aak (.inr (mC 6 rfl Tryz.func49 fun w hb=>CA.out w)) ?_;refine Aak (.inr (mL 7 rfl fun w hb=>Yf (hvb3.on hb) Hbb.out)) ?_;refine Aak (.inr (mC 8 rfl Tryz.func49 fun w hb=>CB.out w)) ?_;refine Aak (.inr (mC 9 rfl Tryz.func48 fun w hb=>CP.out w)) ?_;refine Aak (.inr (mC 10 rfl Tryz.func47 fun w hb=>CM.out w (hvo3.on hb) (hvt3.on hb))) ?_;refine Aak (.inr (mC 11 rfl Tryz.func43 fun w hb=>CW.out w)) ?_;exact Qa
 intro w4 g hb4 hN4 hap4;clear hN4 hap4;have hB4:=Ba (show Below w.heap.size w w3.drew from hB3.drew) hb4;have hvo4:=hvo3.on hb4;have hvt4:=hvt3.on hb4;have hva4:=hva3.on hb4;have hvb4:=hvb3.on hb4;have hvr4:=hvr3.on hb4;clear hB3 hvo3 hvt3 hva3 hvb3 hvr3 hb4;refine Bb 7 rfl (by kernel_rfl) ?_;refine Ka rfl 23 (.tmp 4) (.tmp 11) rfl gr 32 Xa (ob.map Fa) rfl rfl hvr4 rfl za (by rw [Uaj,Hob.out]) (Ab _) ?_;intro w5 hb5 hvr5 hz5;have hB5:Below w.heap.size w w5:=hB4.trans (hb5.below hger hB4.size);have hvo5:=hvo4.but hb5 hneor;have hvt5:=hvt4.but hb5 hnetr;have hva5:=hva4.but hb5 hnear;have hvb5:=hvb4.but hb5 hnebr;clear hB4 hvr4 hb5 hz5 hvo4 hvt4 hva4 hvb4;rename_i K hKK;show Exit.then K _ Exit.normal (⟨(Ts ab bb w.heap.size gb gr n m s r ob).toArray,[]⟩:Act) w5;simp only [Exit.then];refine hKK _ _ ?_;clear hKK K g;simp only [Ts,ptr]
 go_wp2
 exact qc Tryz.results17 gr (ob.map Fa) rfl hvr5 Tryz.underlying23 rfl za (by rw [Uaj,Hob.out]) rfl ⟨rfl,hB5⟩
def GC (kb:List UInt8) (g_base:Nat) (c:Bool) (d:List Nat) (n:List Nat) (ol:List Nat):List Value:=
 (Ca kb)::ptr g_base::(.bool false)::undef::(.bool c)::(.tuple #[Aa d,.bool c])::(Ca kb)::(Aa n)::(Aa ol)::(.tuple #[Aa d,.bool c])::(Aa d)::(.bool c)::undef::[]
def Sp (kb:List UInt8) (g_base:Nat) (c:Bool) (d:List Nat) (n:List Nat) (ol:List Nat) (n3:Nat):List Value:=
 (Ca kb)::ptr g_base::(.bool false)::ptr n3::(.bool c)::(.tuple #[Aa d,.bool c])::(Ca kb)::(Aa n)::(Aa ol)::(.tuple #[Aa d,.bool c])::(Aa d)::(.bool c)::undef::[]
theorem AJ (kb:List UInt8) (n d ol:List Nat) (c:Bool) (w:World)
 (Hkb:Hid (kb.length=32))
 (Hd:Hid (d.length=8))
 (Hol:Hid (ol.length=8))
 (CA:Hid (∀W,Calls Tryz.prog 49 #[Ca kb] W (gvn (Aa n) W)))
 (CM:Hid (∀W,Calls Tryz.prog 54 #[Aa n,Aa ol] W (gvn (.tuple #[Aa d,.bool c]) W)))
 (hO:Tab w 0 (ol.map Ga)):
 Calls Tryz.prog 25 #[Ca kb] w (gvn (.bool c) w):=by
 go_enter Tryz.func25,Tryz.ntmps25;go_wp2_with (first
  |(refine Rb rfl 23 (.tmp 0) rfl kb rfl ?_
    intro w1 hb1 hvk1 hz;clear hz;have hB1:=hb1;have hgek:w.heap.size≤w.heap.size:=Xaj _;have hvo1:=hO.on hb1;have hneok:=Vaj hO.lt;clear hO hb1;try simp only [La]
    skip))
 replace hvo1:=hvo1.drew;replace hvk1:=hvk1.drew;refine wp_region_any (by kernel_rfl) ?_;refine Qf (L:=[0,1,2,3,4,5,6,7,8,9]) (by kernel_rfl) _ _ (GC kb w.heap.size c d n ol) [(7,3)] (fun _=>83) (fun _=>(Na 8)) (fun _=>some (8,d.map Ga)) [0,1,2,12] (by kernel_rfl) (by kernel_rfl) ?_ (fun _ _=>We) ?_ ?_ ?_ (by rfl) ?_ 0 (by kernel_rfl) ?_
 ·intro p hp;rcases List.mem_cons.1 hp with rfl|hp
  ·exact ⟨⟨_,rfl,rfl,rfl,rfl,by kernel_rfl,by kernel_rfl⟩⟩
  exact absurd hp List.not_mem_nil
 ·intro p hp j l h;rcases List.mem_cons.1 hp with rfl|hp
  ·change some (8,d.map Ga)=some (j,l) at h;cases h
   exact ⟨⟨_,10,rfl,rfl,rfl,rfl,by kernel_rfl,by kernel_rfl,by kernel_rfl,rfl,by rw [Uaj,Hd.out];exact Kc,by rw [Uaj,Hd.out];rfl,Oa _⟩,by decide⟩
  exact absurd hp List.not_mem_nil
 ·intro p hp q hq j l l2 h1 h2;rcases List.mem_cons.1 hp with rfl|hp
  ·rcases List.mem_cons.1 hq with rfl|hq
   ·rfl
   exact absurd hq List.not_mem_nil
  exact absurd hp List.not_mem_nil
 ·repeat refine Aak rfl ?_
  exact Qa
 ·refine Aak (.inr (.inl (mL 6 rfl fun w hb=>Yf (hvk1.on hb) Hkb.out))) ?_;refine Aak (.inr (.inl (mC 7 rfl Tryz.func49 fun w hb=>CA.out w))) ?_;refine Aak (.inr (.inl (mL 8 rfl fun w hb=>Dw (hvo1.on hb) Hol.out))) ?_;refine Aak (.inr (.inl (mC 9 rfl Tryz.func54 fun w hb=>CM.out w))) ?_;refine Aak (.inr (.inl (mV 5 rfl (.inl rfl) rfl))) ?_;refine Aak (.inr (.inl (mE 10 rfl rfl rfl))) ?_;refine Aak (.inr (.inl (mE 11 rfl rfl rfl))) ?_;refine Aak (.inl ⟨(7,3),by simp,rfl⟩) ?_;refine Aak (.inr (.inr ⟨(7,3),by simp,_,rfl⟩)) ?_;refine Aak (.inr (.inl (mV 4 rfl (.inr rfl) rfl))) ?_;exact Qa
 intro w2 g hb2 hN2 hap2;obtain ⟨hged,hvd2⟩:=hN2 (7,3) (by simp);clear hN2 hap2;have hB2:=Ba (show Below w.heap.size w w1.drew from hB1.drew) hb2;have hlto:0<w1.heap.size:=hvo1.lt;have hltk:w.heap.size<w1.heap.size:=hvk1.lt;have hvo2:=hvo1.on hb2;have hvk2:=hvk1.on hb2;rw [show Oc g [(7,3)] (GC kb w.heap.size c d n ol)=Sp kb w.heap.size c d n ol (g 3) from rfl];replace hged:w1.heap.size≤g 3:=hged;replace hvd2:Ia w2 (g 3) (d.map Ga) 83:=hvd2;have hneod:0≠g 3:=Vaj (Waj hlto hged);have hnekd:w.heap.size≠g 3:=Vaj (Waj hltk hged);replace hged:w.heap.size≤g 3:=Nat.le_trans (show w.heap.size≤w1.heap.size from hB1.size) hged;clear hlto hltk;generalize g 3=gd at *;clear hB1 hvo1 hvk1 hb2;refine ⟨by kernel_rfl,?_⟩;rename_i K hKK;show Exit.then K _ Exit.normal (⟨(Sp kb w.heap.size c d n ol gd).toArray,[]⟩:Act) w2;simp only [Exit.then];refine hKK _ _ ?_;clear hKK K g;simp only [Sp,ptr]
 go_wp2
 go_ret
 exact ⟨rfl,hB2⟩
def Dy (wb:List UInt8) (g_base:Nat) (gr:Nat) (lo:List UInt8) (nl:List Nat) (hi:List UInt8) (nh:List Nat):List Value:=
 (Ca wb)::ptr g_base::ptr gr::undef::undef::(.slice (some ⟨g_base,0,none⟩) 32 64)::ptr g_base::(Ca lo)::(Aa nl)::(.slice (some ⟨g_base,32,none⟩) 32 32)::(.pointer (some ⟨g_base,32,none⟩))::(Ca hi)::(Aa nh)::ud 5 []
def Xn (wb:List UInt8) (g_base:Nat) (gr:Nat) (lo:List UInt8) (nl:List Nat) (hi:List UInt8) (nh:List Nat) (n3 n4:Nat):List Value:=
 (Ca wb)::ptr g_base::ptr gr::ptr n3::ptr n4::(.slice (some ⟨g_base,0,none⟩) 32 64)::ptr g_base::(Ca lo)::(Aa nl)::(.slice (some ⟨g_base,32,none⟩) 32 32)::(.pointer (some ⟨g_base,32,none⟩))::(Ca hi)::(Aa nh)::ud 5 []
theorem GE (wb lo hi ob:List UInt8) (nl nh s r ol tl:List Nat) (w:World)
 (Hlo:Hid (lo.length=32))
 (Hhi:Hid (hi.length=32))
 (Hob:Hid (ob.length=32))
 (Hnl:Hid (nl.length=8))
 (Hnh:Hid (nh.length=8))
 (HLO:Hid ((wb.drop 0).take 32=lo))
 (HHI:Hid ((wb.drop 32).take 32=hi))
 (CA:Hid (∀W,Calls Tryz.prog 49 #[Ca lo] W (gvn (Aa nl) W)))
 (CB:Hid (∀W,Calls Tryz.prog 49 #[Ca hi] W (gvn (Aa nh) W)))
 (CP:Hid (∀W,Calls Tryz.prog 84 #[Aa nl,Aa nh] W (gvn (Aa s) W)))
 (CM:Hid (∀W,Tab W 0 (ol.map Ga)→Tab W 7 (tl.map Ga)→Calls Tryz.prog 47 #[Aa s] W (gvn (Aa r) W)))
 (CW:Hid (∀W,Calls Tryz.prog 43 #[Aa r] W (gvn (Ca ob) W)))
 (hO:Tab w 0 (ol.map Ga))
 (hT:Tab w 7 (tl.map Ga)):
 Calls Tryz.prog 38 #[Ca wb] w (gvn (Ca ob) w):=by
 go_enter Tryz.func38,Tryz.ntmps38;go_wp2_with (first
  |(refine Ra rfl 74 (.tmp 0) rfl (wb.map Fa) rfl ?_
    intro w1 hb1 hvx1;have hB1:=hb1;have hgex:w.heap.size≤w.heap.size:=Xaj _;have hvo1:=hO.on hb1;have hneox:=Vaj hO.lt;have hvt1:=hT.on hb1;have hnetx:=Vaj hT.lt;clear hO hT hb1;try simp only [La]
    skip)
  |(refine Ma (o:=⟨some 2,_,_,_,_,_⟩) rfl 23 rfl Xa Zb ?_
    intro w2 hb2 hvr2;have hB2:=Ba hB1 hb2;have hger:w.heap.size≤w1.heap.size:=hB1.size;have hvo2:=hvo1.on hb2;have hneor:=Vaj hvo1.lt;have hvt2:=hvt1.on hb2;have hnetr:=Vaj hvt1.lt;have hvx2:=hvx1.on hb2;have hnexr:=Vaj hvx1.lt;clear hB1 hvo1 hvt1 hvx1 hb2;try simp only [La]
    skip))
 generalize hqr:w1.heap.size=gr at *;clear hqr;replace hvo2:=hvo2.drew;replace hvt2:=hvt2.drew;replace hvx2:=hvx2.drew;replace hvr2:=hvr2.drew;refine wp_region_any (by kernel_rfl) ?_;refine Qf (L:=[0,1,2,3,4,5,6,7,8,9,10,11]) (by kernel_rfl) _ _ (Dy wb w.heap.size gr lo nl hi nh) [(8,3),(9,4)] (fun _=>83) (fun _=>(Na 8)) (fun s=>bif s==3 then some (10,nl.map Ga) else bif s==4 then some (11,nh.map Ga) else none) [0,1,2,13,14,15,16,17] (by kernel_rfl) (by kernel_rfl) ?_ (fun _ _=>We) ?_ ?_ ?_ (by rfl) ?_ 0 (by kernel_rfl) ?_
 ·intro p hp;rcases List.mem_cons.1 hp with rfl|hp
  ·exact ⟨⟨_,rfl,rfl,rfl,rfl,by kernel_rfl,by kernel_rfl⟩⟩
  rcases List.mem_cons.1 hp with rfl|hp
  ·exact ⟨⟨_,rfl,rfl,rfl,rfl,by kernel_rfl,by kernel_rfl⟩⟩
  exact absurd hp List.not_mem_nil
 ·intro p hp j l h;rcases List.mem_cons.1 hp with rfl|hp
  ·change some (10,nl.map Ga)=some (j,l) at h;cases h
   exact ⟨⟨_,8,rfl,rfl,rfl,rfl,by kernel_rfl,by kernel_rfl,by kernel_rfl,rfl,by rw [Uaj,Hnl.out];exact Kc,by rw [Uaj,Hnl.out];rfl,Oa _⟩,by decide⟩
  rcases List.mem_cons.1 hp with rfl|hp
  ·change some (11,nh.map Ga)=some (j,l) at h;cases h
   exact ⟨⟨_,12,rfl,rfl,rfl,rfl,by kernel_rfl,by kernel_rfl,by kernel_rfl,rfl,by rw [Uaj,Hnh.out];exact Kc,by rw [Uaj,Hnh.out];rfl,Oa _⟩,by decide⟩
  exact absurd hp List.not_mem_nil
 ·intro p hp q hq j l l2 h1 h2;rcases List.mem_cons.1 hp with rfl|hp
  ·rcases List.mem_cons.1 hq with rfl|hq
   ·rfl
   rcases List.mem_cons.1 hq with rfl|hq
   ·change some (10,_)=some (j,l) at h1;change some (11,_)=some (j,l2) at h2;exact absurd ((Prod.mk.inj (Option.some.inj h1)).1.trans (Prod.mk.inj (Option.some.inj h2)).1.symm) (by decide)
   exact absurd hq List.not_mem_nil
  rcases List.mem_cons.1 hp with rfl|hp
  ·rcases List.mem_cons.1 hq with rfl|hq
   ·change some (11,_)=some (j,l) at h1;change some (10,_)=some (j,l2) at h2;exact absurd ((Prod.mk.inj (Option.some.inj h1)).1.trans (Prod.mk.inj (Option.some.inj h2)).1.symm) (by decide)
   rcases List.mem_cons.1 hq with rfl|hq
   ·rfl
   exact absurd hq List.not_mem_nil
  exact absurd hp List.not_mem_nil
 ·repeat refine Aak rfl ?_
  exact Qa
 ·refine Aak (.inr (.inl (Wr _ 5 rfl rfl rfl rfl (by kernel_rfl) (fun a hv=>Fh rfl _) (fun a w K hb hv hK=>Xr (_) (Dr _ _ _ _ _ _ _ rfl _ (hv 1 (by kernel_rfl) rfl) _ w (Sad _ w)) hK)))) ?_;refine Aak (.inr (.inl (Wr _ 6 rfl rfl rfl rfl (by kernel_rfl) (fun a hv=>Fh rfl _) (fun a w K hb hv hK=>Xr (_) (Rp _ _ _ _ rfl _ (hv 5 (by kernel_rfl) rfl) _ w (Tz _ _ _ w)) hK)))) ?_;refine Aak (.inr (.inl (mL 7 rfl fun w hb=>Uu (hvx2.on hb) 0 HLO.out Hlo.out))) ?_;refine Aak (.inr (.inl (mC 8 rfl Tryz.func49 fun w hb=>CA.out w))) ?_;refine Aak (.inr (.inl (Wr _ 9 rfl rfl rfl rfl (by kernel_rfl) (fun a hv=>Fh rfl _) (fun a w K hb hv hK=>Xr (_) (Dr _ _ _ _ _ _ _ rfl _ (hv 1 (by kernel_rfl) rfl) _ w (L9 _ w)) hK)))) ?_;refine Aak (.inr (.inl (Wr _ 10 rfl rfl rfl rfl (by kernel_rfl) (fun a hv=>Fh rfl _) (fun a w K hb hv hK=>Xr (_) (Rp _ _ _ _ rfl _ (hv 9 (by kernel_rfl) rfl) _ w (Tz _ _ _ w)) hK)))) ?_;refine Aak (.inr (.inl (mL 11 rfl fun w hb=>Uu (hvx2.on hb) 32 HHI.out Hhi.out))) ?_;refine Aak (.inr (.inl (mC 12 rfl Tryz.func49 fun w hb=>CB.out w))) ?_;refine Aak (.inl ⟨(8,3),by simp,rfl⟩) ?_;refine Aak (.inl ⟨(9,4),by simp,rfl⟩) ?_;refine Aak (.inr (.inr ⟨(8,3),by simp,_,rfl⟩)) ?_;refine Aak (.inr (.inr ⟨(9,4),by simp,_,rfl⟩)) ?_;exact Qa
 intro w3 g hb3 hN3 hap3;obtain ⟨hgea,hva3⟩:=hN3 (8,3) (by simp);obtain ⟨hgeb,hvb3⟩:=hN3 (9,4) (by simp);have hneab:=hap3 (8,3) (by simp) (9,4) (by simp) (by decide);clear hN3 hap3;have hB3:=Ba (show Below w.heap.size w w2.drew from hB2.drew) hb3;have hlto:0<w2.heap.size:=hvo2.lt;have hltt:7<w2.heap.size:=hvt2.lt;have hltx:w.heap.size<w2.heap.size:=hvx2.lt;have hltr:gr<w2.heap.size:=hvr2.lt;have hvo3:=hvo2.on hb3;have hvt3:=hvt2.on hb3;have hvx3:=hvx2.on hb3;have hvr3:=hvr2.on hb3;rw [show Oc g [(8,3),(9,4)] (Dy wb w.heap.size gr lo nl hi nh)=Xn wb w.heap.size gr lo nl hi nh (g 3) (g 4) from rfl];replace hgea:w2.heap.size≤g 3:=hgea;replace hva3:Ia w3 (g 3) (nl.map Ga) 83:=hva3;replace hgeb:w2.heap.size≤g 4:=hgeb;replace hvb3:Ia w3 (g 4) (nh.map Ga) 83:=hvb3;replace hneab:g 3≠g 4:=hneab;have hneoa:0≠g 3:=Vaj (Waj hlto hgea);have hneta:7≠g 3:=Vaj (Waj hltt hgea);have hnexa:w.heap.size≠g 3:=Vaj (Waj hltx hgea);have hnera:gr≠g 3:=Vaj (Waj hltr hgea);replace hgea:w.heap.size≤g 3:=Nat.le_trans (show w.heap.size≤w2.heap.size from hB2.size) hgea;have hneob:0≠g 4:=Vaj (Waj hlto hgeb);have hnetb:7≠g 4:=Vaj (Waj hltt hgeb);have hnexb:w.heap.size≠g 4:=Vaj (Waj hltx hgeb);have hnerb:gr≠g 4:=Vaj (Waj hltr hgeb);replace hgeb:w.heap.size≤g 4:=Nat.le_trans (show w.heap.size≤w2.heap.size from hB2.size) hgeb;clear hlto hltt hltx hltr;generalize g 3=ga at *;generalize g 4=gb at *;clear hB2 hvo2 hvt2 hvx2 hvr2 hb3;refine ⟨by kernel_rfl,?_⟩;rename_i K hKK;show Exit.then K _ Exit.normal (⟨(Xn wb w.heap.size gr lo nl hi nh ga gb).toArray,[]⟩:Act) w3;simp only [Exit.then];refine hKK _ _ ?_;clear hKK K g;simp only [Xn,ptr,ud];go_wp2_with (first
  |(refine Pa rfl 83 (.tmp 3) rfl ga 8 (nl.map Ga) rfl hva3 Tryz.underlying83 rfl Kc (by rw [Uaj,Hnl.out]) ?_
    try simp only [La]
    skip)
  |(refine Pa rfl 83 (.tmp 4) rfl gb 8 (nh.map Ga) rfl hvb3 Tryz.underlying83 rfl Kc (by rw [Uaj,Hnh.out]) ?_
    try simp only [La]
    skip))
 refine (CP.out w3).mono ?_;rintro e w4 ⟨rfl,hb4⟩;have hB4:=Ba hB3 hb4;have hvo4:=hvo3.on hb4;have hvt4:=hvt3.on hb4;have hvx4:=hvx3.on hb4;have hvr4:=hvr3.on hb4;have hva4:=hva3.on hb4;have hvb4:=hvb3.on hb4;clear hB3 hvo3 hvt3 hvx3 hvr3 hva3 hvb3 hb4;go_wp2_with fail
 refine (CM.out w4 hvo4 hvt4).mono ?_;rintro e w5 ⟨rfl,hb5⟩;have hB5:=Ba hB4 hb5;have hvo5:=hvo4.on hb5;have hvt5:=hvt4.on hb5;have hvx5:=hvx4.on hb5;have hvr5:=hvr4.on hb5;have hva5:=hva4.on hb5;have hvb5:=hvb4.on hb5;clear hB4 hvo4 hvt4 hvx4 hvr4 hva4 hvb4 hb5;go_wp2_with fail
 refine (CW.out w5).mono ?_;rintro e w6 ⟨rfl,hb6⟩;have hB6:=Ba hB5 hb6;have hvo6:=hvo5.on hb6;have hvt6:=hvt5.on hb6;have hvx6:=hvx5.on hb6;have hvr6:=hvr5.on hb6;have hva6:=hva5.on hb6;have hvb6:=hvb5.on hb6;clear hB5 hvo5 hvt5 hvx5 hvr5 hva5 hvb5 hb6;go_wp2_with (first
  |(refine Ka rfl 23 (.tmp 2) (.tmp 17) rfl gr 32 Xa (ob.map Fa) rfl rfl hvr6 rfl za (by rw [Uaj,Hob.out]) (Ab _) ?_
    intro w7 hb7 hvr7 hz7;have hB7:Below w.heap.size w w7:=hB6.trans (hb7.below hger hB6.size);have hvo7:=hvo6.but hb7 hneor;have hvt7:=hvt6.but hb7 hnetr;have hvx7:=hvx6.but hb7 hnexr;have hva7:=hva6.but hb7 (Ne.symm hnera);have hvb7:=hvb6.but hb7 (Ne.symm hnerb);clear hB6 hvr6 hb7 hz7 hvo6 hvt6 hvx6 hva6 hvb6;skip))
 exact qc Tryz.results38 gr (ob.map Fa) rfl hvr7 Tryz.underlying23 rfl za (by rw [Uaj,Hob.out]) rfl ⟨rfl,hB7⟩
theorem J4:∀(x:Fin 256) (k:Fin 8),bits .and .u8 ((x.val:Int)/2^k.val) 1=((x.val/2^k.val%2:Nat):Int):=by decide+kernel
theorem M9 (x k:Nat) (b:Bool) (hx:x<256) (hk:k<8) (h:decide (x/2^k%2=1)=b):bits .and .u8 ((x:Int)/2^k) 1=if b then 1 else 0:=by
 rw [J4 ⟨x,hx⟩ ⟨k,hk⟩,←h];show ((x/2^k%2:Nat):Int)=_;rcases Nat.mod_two_eq_zero_or_one (x/2^k) with h|h<;>rw [h]<;>simp
def Ld (k:List UInt8) (i:Nat):Bool:=decide ((k.getD (i/8) 0).toNat/2^(i%8)%2=1)
end Go.Proofs.YtoggkhjaghkpnaaGreatDoor
