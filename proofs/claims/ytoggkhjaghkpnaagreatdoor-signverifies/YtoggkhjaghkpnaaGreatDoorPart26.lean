/- Part 26 of what the laws of this seat share: AMod, AAdd, ATimes, ANegate, TLaw, VPad, VRW, VR2. -/
import Derived.StillTail
import Derived.StillTailTactics
import Derived.Lib.LaidTab
import Derived.Test.YtoggkhjaghkpnaaGreatDoorPart25
set_option maxRecDepth 100000
set_option maxHeartbeats 8000000
namespace Go.Proofs.YtoggkhjaghkpnaaGreatDoor
open Go.RowKit
theorem Iv:∀w,(zeroValue 22).run Tryz.prog w=.ok (.agg (List.replicate 32 (Fa 0)).toArray) w:=(zero_of_info (P:=Tryz.prog) (t:=22) (v:=.agg (List.replicate 32 (Fa 0)).toArray) (n:=32) (by kernel_rfl)).1
theorem Ak:(Tryz.prog.info? 22).map (·.size)=some 32:=by kernel_rfl
theorem ZY (w:World):(Instr.build 22 #[]).run Tryz.prog w=.ok (Ca (List.replicate 32 0)) w:=by kernel_rfl
def N6 (w:World):Value→Nat
 |.slice A n _=>hval ((List.range n).map (EH w A))
 |_=>0
theorem IP {w:World} {B:Nat} {A:Option Addr} {ds:List Nat} (c:Nat) (h:Ah w B A ds):N6 w (.slice A ds.length c)=hval ds:=by
 show hval ((List.range ds.length).map (EH w A))=hval ds;congr 1
 rcases h with rfl|⟨b,off,rfl,hb,hc⟩
 ·rfl
 ·apply List.ext_getElem
  ·simp
  ·intro i h1 h2;have h3:=hc i ds[i] (xaj h2);simp only [List.getElem_map,List.getElem_range,EH,h3];rfl
theorem Ia.rowFrom {w:World} {g:Nat} {l:List Nat} {rest:List Value} {t:TypeId} (h:Ia w g (l.map Gc++rest) t) (k:Nat):Ah w w.heap.size (some ⟨g,k,none⟩) (l.drop k):=
 .inr ⟨g,k,rfl,h.lt,fun j x hx=>h.get (by
  rw [List.getElem?_drop] at hx;have hl:k+j<l.length:=by
   rcases Nat.lt_or_ge (k+j) l.length with h1|h1
   ·exact h1
   ·rw [List.getElem?_eq_none h1] at hx;cases hx
  rw [List.getElem?_append_left (by rw [Uaj];exact hl),List.getElem?_map,hx];rfl)⟩
theorem Ia.intAt {w:World} {g:Nat} {l:List Nat} {rest:List Value} {t:TypeId} (h:Ia w g (l.map Gc++rest) t) (k:Nat) (hk:k<l.length):w.cell? ⟨g,k,none⟩=some (Gc (l.getD k 0)):=
 h.get (by rw [List.getElem?_append_left (by rw [Uaj];exact hk),List.getElem?_map,Yaj,xaj hk];rfl)
theorem xY (l:List Nat) (rest:List Value) (k z:Nat) (hk:k<l.length):(l.map Gc++rest).set k (Gc z)=(l.set k z).map Gc++rest:=by
 rw [List.set_append_left _ _ (by rw [Uaj];exact hk),List.map_set]
def Wl (r l:List Nat) (j:Nat):List Nat:=r.take j++(Wh (r.drop j) (l.drop j)).2
theorem JK (r l:List Nat) (h:r.length=l.length) (j:Nat) (hj:j≤r.length):(Wl r l j).length=r.length:=by
 rw [Wl,qaj,Xj _ _ (by rw [List.length_drop,List.length_drop,h]),zaj,List.length_drop];omega
theorem O6 (r l:List Nat) (j:Nat) (hj:j<r.length):(Wl r l (j+1)).getD j 0=r.getD j 0:=by
 rw [Wl,Yaj,List.getElem?_append_left (by rw [zaj];omega),List.getElem?_take,if_pos (by omega),Yaj]
theorem RV (r:List Nat) (j:Nat) (hj:j<r.length):r.drop j=r.getD j 0::r.drop (j+1):=by
 rw [List.drop_eq_getElem_cons hj,Yaj,xaj hj];rfl
theorem ZT (r l:List Nat) (h:r.length=l.length) (j:Nat) (hj:j<r.length) (x y o z:Nat) (hx:r.getD j 0=x) (hy:l.getD j 0=y) (ho:(Wh (r.drop (j+1)) (l.drop (j+1))).1=o) (hz:z=if x<y+o then x+256-y-o else x-y-o):
 (Wl r l (j+1)).set j z=Wl r l j∧(Wh (r.drop j) (l.drop j)).1=if x<y+o then 1 else 0:=by
 have e:Wh (r.drop j) (l.drop j)=(if x<y+o then 1 else 0,z::(Wh (r.drop (j+1)) (l.drop (j+1))).2):=by
  rw [RV r j hj,RV l j (by omega),hx,hy,Wh,ho,hz]
  split<;>rfl
 refine ⟨?_,by rw [e]⟩;rw [Wl,Wl,e,List.take_succ_eq_append_getElem hj,List.append_assoc,List.set_append_right _ _ (by rw [zaj];omega),zaj,Nat.min_eq_left (by omega),Nat.sub_self];rfl
theorem yY (r l:List Nat) (h:r.length=l.length):Wl r l r.length=r∧(Wh (r.drop r.length) (l.drop r.length)).1=0:=by
 rw [Wl,List.drop_length,h,List.drop_length,Zaj (by omega)];exact ⟨List.append_nil _,rfl⟩
theorem xT (r l:List Nat):Wl r l 0=(Wh r l).2:=rfl
theorem yT (r:List Nat) (hl:r.length=33) (hd:Dig r) (q k:Nat) (hk:k<33) (hv:hval r=q):r.getD (32-k) 0=(Ec q k).toNat:=by
 have h:=Pj r.reverse (fun x hx=>hd x (List.mem_reverse.1 hx)) (k+1) (by rw [List.length_reverse];omega);have h0:=Pj r.reverse (fun x hx=>hd x (List.mem_reverse.1 hx)) k (by rw [List.length_reverse];omega);have h1:=Sk r.reverse k (by rw [List.length_reverse];omega);have h2:r.reverse[k]'(by rw [List.length_reverse];omega)=r.getD (32-k) 0:=by
  rw [List.getElem_reverse,Yaj,xaj (by omega)];show r[r.length-1-k]=r[32-k];congr 1
  omega
 rw [h,h0,h2] at h1;have h3:Hc r.reverse=q:=hv;rw [h3,Nat.pow_succ,Nat.mod_mul] at h1;have h4:0<256^k:=Nat.pow_pos (by decide);have h5:q/256^k%256=r.getD (32-k) 0:=by
  have h6:256^k*(q/256^k%256)=256^k*r.getD (32-k) 0:=by omega
  exact Nat.eq_of_mul_eq_mul_left h4 h6
 rw [←h5,Ec,UInt8.toNat_ofNat',show (256:Nat)=2^8 from rfl,←Nat.pow_mul]
theorem WE (A:Option Addr) (n c:Nat) (bs:List UInt8) (T:Nat→Nat) (w:World) (HL:Hid (bs.length=n)) (hn:n≤100) (hr:Row w w.heap.size A bs) (HT0:Hid (T n=0)) (HTL:Hid (∀j,j≤n→T j<NP.LL)) (HT:Hid (∀j,j<n→T j=(T (j+1)*256+(bs.getD j 0).toNat)%NP.LL)):
 Calls Tryz.prog 32 #[.slice A n c] w (gvn (Ca (Ob (T 0) 32)) w):=by
 have hmk:=BH 33 (by decide);rw [show ((33:Nat):Int)=33 from rfl] at hmk;have hn1:IntKind.i64.wrap ((n:Int)-1)=(n:Int)-1:=IntWalk.i64_in _ (by omega);go_enter Tryz.func32,Tryz.ntmps32;go_wp2_with (first
  |(refine Ma rfl 22 rfl (List.replicate 32 (Fa 0)) Iv ?_
    intro w1 hB1 hZ1))
 have hlt1:=hZ1.lt;obtain ⟨w2,hw2⟩:∃z,z=w1.alloc (.cells (Il 33).toArray 3):=⟨_,rfl⟩;have hs2:w2.heap.size=w1.heap.size+1:=by rw [hw2];simp
 have hR2:Ia w2 w1.heap.size ((List.replicate 33 0).map Gc++[]) 3:=by rw [hw2,List.append_nil,←ND];exact Ia.new _ _ _
 have hB2:Below w.heap.size w w2:=by rw [hw2];exact hB1.alloc hB1.size _
 have hZ2:Ia w2 w.heap.size (List.replicate 32 (Fa 0)) 22:=by rw [hw2];exact hZ1.alloc _
 rw [←hw2];clear hw2 hB1 hZ1 hmk;obtain ⟨w3,hw3⟩:∃z,z=w2.alloc (.cells #[.int .i64 0] 3):=⟨_,rfl⟩;have hO3:ze w3 w2.heap.size (.slice (some ⟨w1.heap.size+1,0,none⟩) 1 1) [0]:=by rw [hw3,←hs2];exact ze.lit w2 [0] (Xaj _) (by decide)
 have hR3:Ia w3 w1.heap.size ((List.replicate 33 0).map Gc++[]) 3:=by rw [hw3];exact hR2.alloc _
 have hB3:Below w.heap.size w w3:=by rw [hw3];exact hB2.alloc hB2.size _
 have hB23:Below w2.heap.size w2 w3:=by rw [hw3];exact (Below.refl _ _).alloc (Xaj _) _
 have hZ3:Ia w3 w.heap.size (List.replicate 32 (Fa 0)) 22:=by rw [hw3];exact hZ2.alloc _
 rw [←hw3];clear hw3 hB2 hZ2 hR2;refine (Xy w3).mono ?_;rintro e w4 ⟨gm,rfl,hgm,hCm,hB34⟩;have hO4:=hO3.on hB34;have hR4:=hR3.on hB34;have hZ4:=hZ3.on hB34;have hB4:=Ba hB3 hB34;have hz4:w2.heap.size≤w4.heap.size:=Nat.le_trans hB23.size hB34.size;have hrowm:Ah w4 w4.heap.size (some ⟨gm,0,none⟩) Xo:=.inr ⟨gm,0,rfl,hCm.lt,fun j x hx=>by rw [Nat.zero_add];exact hCm.get (by rw [List.getElem?_map,hx];rfl)⟩;clear hO3 hR3 hZ3 hB3 hB34 hB23 hgm hCm;go_wp2_with (first
  |(at_builtin
    refine Wy rfl (.tmp 12) (.tmp 13) rfl w2.heap.size w4.heap.size _ [0] Xo gm 0 32 32 rfl hO4 rfl rfl hrowm (by decide) hz4 ?_;intro v5 w5 hown5 hb5))
 have hR5:=hR4.below hb5 (by omega);have hZ5:=hZ4.below hb5 (by omega);have hB5:Below w.heap.size w w5:=hB4.trans (hb5.mono (by omega));clear hR4 hZ4 hB4 hO4 hrowm hb5;obtain ⟨gl,cl,rl,rfl,hgl,hcl,hclm,hCl⟩:=hown5.cells (by decide);change Ia w5 gl ((0::Xo).map Gc++rl) 3 at hCl;change 33≤cl at hcl;rw [show (([0]:List Nat)++Xo).length=33 from rfl];clear hown5;obtain ⟨ls,HLS⟩:=qh (0::Xo);rw [HLS.out] at hCl;have HLL:Hid (ls.length=33∧Dig ls∧hval ls=NP.LL):=by rw [←HLS.out];exact ⟨rfl,LM,xB⟩
 clear HLS
 go_loopw [3,5] (fun v i wr=>∃(j g c3:Nat) (r:List Nat) (rest:List Value),j≤n∧i=.int .i64 ((j:Int)-1)∧v=.slice (some ⟨g,0,none⟩) 33 c3∧33≤c3∧w1.heap.size≤g∧g≠gl∧Hid (r.length=33∧Dig r∧hval r=T j)∧Ia wr g (r.map Gc++rest) 3∧Ia wr gl (ls.map Gc++rl) 3∧Ia wr w.heap.size (List.replicate 32 (Fa 0)) 22∧Below w.heap.size w wr) (fun _ i _=>((intOf i)+1).toNat)
 case atStart=>exact ⟨n,w1.heap.size,33,List.replicate 33 0,[],Xaj _,rfl,rfl,Xaj _,Xaj _,by omega,⟨rfl,by unfold Dig;decide,by rw [HT0.out];rfl⟩,hR5,hCl,hZ5,hB5⟩
 case round=>
  clear hR5 hCl hZ5 hB5;obtain ⟨j,g,c3,r,rest,hj,rfl,rfl,hc3,hg1,hgg,HR3,hC,hCL,hZ,hB⟩:=hrel;by_cases h0:0<j
  ·obtain ⟨k,rfl⟩:∃k,j=k+1:=⟨j-1,by omega⟩;have hlt:k<n:=by omega
   have HTk:=Lib.hid (HT.out k hlt);obtain ⟨b,off,rfl,hb,hcell⟩:=(hr.below hB).atD k (by rw [HL.out];exact hlt);have hbz:b<wr.heap.size:=Waj hb hB.size;obtain ⟨q,HQ⟩:=qh (bs.getD k 0);rw [HQ.out] at hcell HTk;have e1:(((k+1:Nat):Int)-1)=(k:Int):=by omega
   have i1:(0:Int)≤(k:Int):=by omega
   rw [e1];clear HT HT0;go_wp2_with fail
   rename_i K hKK;have hfin:∀(v22 v25 v31 v32:Value) (wf:World),ze wf wr.heap.size v32 (r.drop 1++[q.toNat])→Below wr.heap.size wr wf→K (⟨((.slice (some ⟨b,off,none⟩) n c)::undef::(.pointer (some ⟨w.heap.size,0,none⟩))::(v32)::(.slice (some ⟨gl,0,none⟩) 33 cl)::(.int .i64 (k:Int))::u6::u7::u8::undef::undef::(.slice (some ⟨w1.heap.size,0,none⟩) 33 33)::(.slice (some ⟨w1.heap.size+1,0,none⟩) 1 1)::(.slice (some ⟨gm,0,none⟩) 32 32)::(.slice (some ⟨gl,0,none⟩) 33 cl)::(.slice (some ⟨b,off,none⟩) n c)::(.int .i64 (n:Int))::(.int .i64 ((n:Int)-1))::(.int .i64 (k:Int))::(.bool true)::u20::u21::(v22)::(.slice (some ⟨g,0,none⟩) 33 c3)::(.slice (some ⟨g,1,none⟩) 32 (c3-1))::(v25)::(.slice (some ⟨b,off,none⟩) n c)::(.int .i64 (k:Int))::(.pointer (some ⟨b,off+k,none⟩))::(Fa q)::(Gc q.toNat)::(v31)::(v32)::u33::u34::u35::u36::u37::u38::u39::u40::u41::u42::u43::u44::u45::u46::u47::u48::u49::u50::u51::u52::u53::u54::u55::u56::u57::u58::undef::undef::undef::undef::undef::undef::undef::undef::undef::undef::undef::undef::undef::undef::[]).toArray,[]⟩:Act) wf:=by
    intro v22 v25 v31 v32 wf hown hBf;refine hKK _ _ ?_;clear hKK K;have hlen:(r.drop 1++[q.toNat]).length=33:=by rw [qaj,List.length_drop,HR3.out.1];rfl
    obtain ⟨g2,c2,rest2,rfl,hg2,hc2,hc2m,hC2⟩:=hown.cells (by rw [hlen];decide);rw [hlen] at hc2 ⊢;have hB6:Below w.heap.size w wf:=Ba hB hBf;have hZ6:=hZ.on hBf;have hL6:=hCL.on hBf;have hne2:g2≠gl:=by have :=hCL.lt;omega
    have hge2:w1.heap.size≤g2:=by have :=hC.lt;omega
    obtain ⟨r2,HN2⟩:=qh (r.drop 1++[q.toNat]);have HV2:Hid (r2.length=33∧Dig r2∧hval r2%NP.LL=T k):=by
     obtain ⟨h1,h2,h3⟩:=HR3.out;rw [←HN2.out];refine ⟨hlen,(h2.drop 1).snoc q.toNat_lt,?_⟩;rw [PX h1 h2 (by rw [h3];exact HTL.out (k+1) (by omega)),h3,HTk.out]
    rw [HN2.out] at hC2;clear hown hBf hB hZ hCL hC HR3 HN2 hlen hcell hb hbz HTk;go_wp2_with fail
    go_loopw [6,7,8] (fun _ _ _ wr=>∃r:List Nat,Hid (r.length=33∧Dig r∧hval r%NP.LL=T k)∧Ia wr g2 (r.map Gc++rest2) 3∧Ia wr gl (ls.map Gc++rl) 3∧Ia wr w.heap.size (List.replicate 32 (Fa 0)) 22∧Below w.heap.size w wr) (fun _ _ _ wr=>N6 wr (.slice (some ⟨g2,0,none⟩) 33 c2))
    case atStart=>exact ⟨r2,HV2,hC2,hL6,hZ6,hB6⟩
    case round=>
     clear hC2 hL6 hZ6 hB6 HV2;obtain ⟨r,HR,hC,hCL,hZ,hB⟩:=hrel;have CL:=L6 (some ⟨g2,0,none⟩) c2 r wr HR.out.1 HR.out.2.1 (hC.rowFrom 0);have HNH:Hid (N6 wr (.slice (some ⟨g2,0,none⟩) 33 c2)=hval r):=by
      show _=_;have :=IP c2 (hC.rowFrom 0);rw [List.drop_zero,HR.out.1] at this;exact this
     obtain ⟨lb,HLB⟩:=qh (decide (hval r<NP.LL));rw [HLB.out] at CL;go_wp2_with fail
     refine CL.mono ?_;rintro e wa ⟨rfl,hba⟩;have hBa:=Ba hB hba;have hCa:=hC.on hba;have hCLa:=hCL.on hba;have hZa:=hZ.on hba;clear CL hB hC hCL hZ hba;cases lb
     ·have hnl:¬hval r<NP.LL:=of_decide_eq_false HLB.out;have HNL:=Lib.hid hnl;clear hnl HLB;go_wp2_with fail
      go_loopw [6,7,8] (fun o i _ wr=>∃j:Nat,j≤33∧o=.int .i64 (((Wh (r.drop j) (ls.drop j)).1:Nat):Int)∧i=.int .i64 ((j:Int)-1)∧Ia wr g2 ((Wl r ls j).map Gc++rest2) 3∧Ia wr gl (ls.map Gc++rl) 3∧Ia wr w.heap.size (List.replicate 32 (Fa 0)) 22∧Below w.heap.size w wr) (fun _ i _ _=>((intOf i)+1).toNat)
      case atStart=>
       obtain ⟨s1,s2⟩:=yY r ls (HR.out.1.trans HLL.out.1.symm);rw [HR.out.1] at s1 s2;exact ⟨33,Xaj _,by rw [s2];rfl,rfl,by rw [s1];exact hCa,hCLa,hZa,hBa⟩
      case round=>
       clear hCa hCLa hZa hBa;obtain ⟨j,hj,rfl,rfl,hC,hCL,hZ,hB⟩:=hrel;by_cases h0:0<j
       ·obtain ⟨m,rfl⟩:∃m,j=m+1:=⟨j-1,by omega⟩;have hm:m<33:=by omega
        have e1:(((m+1:Nat):Int)-1)=(m:Int):=by omega
        have i1:(0:Int)≤(m:Int):=by omega
        have i2:(m:Int)<33:=by omega
        have i3:IntKind.i64.wrap ((m:Int)-1)=(m:Int)-1:=IntWalk.i64_in _ (by omega);rw [e1];have hlr:(Wl r ls (m+1)).length=33:=by rw [JK r ls (HR.out.1.trans HLL.out.1.symm) _ (by rw [HR.out.1];omega)];exact HR.out.1
        have d1:=hC.intAt m (by rw [hlr];exact hm);rw [O6 r ls m (by rw [HR.out.1];exact hm)] at d1;have d2:=hCL.intAt m (by rw [HLL.out.1];exact hm);have d3:=hC.frozen m;have hx:=HR.out.2.1.at m;have hy:=HLL.out.2.1.at m;have ho:=Ru (r.drop (m+1)) (ls.drop (m+1));have HST:=fun z hz=>Lib.hid (ZT r ls (HR.out.1.trans HLL.out.1.symm) m (by rw [HR.out.1];exact hm) _ _ _ z rfl rfl rfl hz);have hSA:=fun z:Nat=>xY (Wl r ls (m+1)) rest2 m z (by rw [hlr];exact hm);clear hlr;generalize r.getD m 0=x at *;generalize ls.getD m 0=y at *;generalize (Wh (r.drop (m+1)) (ls.drop (m+1))).1=o at *;obtain ⟨d1',hd1⟩:=qh ((x:Int)-(y:Int));have j1:IntKind.i64.wrap ((x:Int)-(y:Int))=d1':=by rw [←hd1.out];exact IntWalk.i64_in _ (by omega)
        have hd2:d1'=(x:Int)-(y:Int):=hd1.out.symm;have HD:=Lib.hid hd2;clear hd1 hd2;have hge:w.heap.size≤g2:=by omega
        have hnez:w.heap.size≠g2:=by omega
        by_cases hlt2:x<y+o
        ·obtain ⟨d2',hd2⟩:=qh (d1'-(o:Int));have j2:IntKind.i64.wrap (d1'-(o:Int))=d2':=by rw [←hd2.out,HD.out];exact IntWalk.i64_in _ (by omega)
         have j3:d2'<0:=by rw [←hd2.out,HD.out];omega
         obtain ⟨z,hz⟩:∃z,z=x+256-y-o:=⟨_,rfl⟩;have j4:IntKind.i64.wrap (d2'+256)=(z:Int):=by rw [hz,←hd2.out,HD.out,IntWalk.i64_in _ (by omega)];omega
         have T1:=HST z (by rw [if_pos hlt2];exact hz);rw [if_pos hlt2] at T1;have S1:=Lib.hid (hSA z);clear HST hSA hz hx hy ho hlt2;go_wp2_with fail
         go_quiet (fail)
         go_wp2_with fail
         go_roundw
         case rel=>exact ⟨m,by omega,by rw [T1.out.2];rfl,rfl,by rw [←T1.out.1,←S1.out];exact (hC.drewN nq).set m _,(hCL.drewN nq).other (Ne.symm hne2) _,(hZ.drewN nq).other hnez _,(below_drewN hB nq).setCell (p:=⟨g2,m,none⟩) hge _⟩
         case measure=>simp [intOf]<;>omega
        ·obtain ⟨z,hz⟩:∃z,z=x-y-o:=⟨_,rfl⟩;obtain ⟨d2',hd2⟩:=qh (z:Int);have j2:IntKind.i64.wrap (d1'-(o:Int))=d2':=by rw [←hd2.out,hz,HD.out,IntWalk.i64_in _ (by omega)];omega
         have J3:=Lib.hid (FP d2' false (decide_eq_false (by rw [←hd2.out];omega)));have T1:=HST z (by rw [if_neg hlt2];exact hz);rw [if_neg hlt2] at T1;have S1:=Lib.hid (hSA z);clear HST hSA hz hx hy ho hlt2;go_wp2_with fail
         go_quiet (fail)
         go_wp2_with (first
          |(refine YY rfl .lss 3 _ (.tmp 51) (.const (.int .i64 0)) rfl (.int .i64 d2') (.int .i64 0) (.bool false) rfl rfl (fun w=>XT d2' w _ _) J3.out ?_
            try simp only [La]
            skip))
         go_roundw
         case rel=>
          rw [←hd2.out];exact ⟨m,by omega,by rw [T1.out.2];rfl,rfl,by rw [←T1.out.1,←S1.out];exact (hC.drewN nq).set m _,(hCL.drewN nq).other (Ne.symm hne2) _,(hZ.drewN nq).other hnez _,(below_drewN hB nq).setCell (p:=⟨g2,m,none⟩) hge _⟩
         case measure=>simp [intOf]<;>omega
       ·obtain rfl:j=0:=by omega
        rw [show (((0:Nat):Int)-1)= -1 from rfl];rw [xT] at hC;have HV:Hid (hval (Wh r ls).2=hval r-NP.LL):=by
         have :=OX (HR.out.1.trans HLL.out.1.symm) HR.out.2.1 HLL.out.2.1 (by rw [HLL.out.2.2];exact Nat.le_of_not_lt HNL.out);rw [HLL.out.2.2] at this;exact this
        have HS:Hid ((Wh r ls).2.length=33∧Dig (Wh r ls).2):=⟨(Xj r ls (HR.out.1.trans HLL.out.1.symm)).trans HR.out.1,ZB r ls HR.out.2.1 HLL.out.2.1⟩;generalize (Wh r ls).2=s at *;go_wp2_with fail
        go_roundw
        case rel=>exact ⟨s,⟨HS.out.1,HS.out.2,by rw [HV.out,←Nat.mod_eq_sub_mod (Nat.le_of_not_lt HNL.out)];exact HR.out.2.2⟩,hC,hCL,hZ,hB⟩
        case measure=>
         have h1:=IP c2 (hC.rowFrom 0);rw [List.drop_zero,HS.out.1] at h1;have h2:=HNL.out;have h3:0<NP.LL:=by decide
         show N6 _ _<N6 _ _;rw [h1,HNH.out,HV.out];omega
     ·have hlv:hval r=T k:=by
       have h1:hval r<NP.LL:=of_decide_eq_true HLB.out;rw [←HR.out.2.2,yaj h1]
      have HV:=Lib.hid hlv;have i3:IntKind.i64.wrap ((k:Int)-1)=(k:Int)-1:=IntWalk.i64_in _ (by omega);clear hlv;go_wp2_with fail
      go_roundw
      case rel=>exact ⟨k,g2,c2,r,rest2,by omega,rfl,rfl,hc2,hge2,hne2,⟨HR.out.1,HR.out.2.1,HV.out⟩,hCa,hCLa,hZa,hBa⟩
      case measure=>simp [intOf]<;>omega
   have hBd:Below wr.heap.size wr wr.drew:=⟨rfl,rfl,rfl,Xaj _,fun _ _=>rfl⟩;have hCd:Ia wr.drew g (r.map Gc++rest) 3:=hC.drew;refine wp_region_any (by kernel_rfl) ?_;refine wpAny_of_held (S:=fun w'=>Below wr.heap.size wr w') _ _ _ _ ?_;show wpAnyH _ _ _ _ _ _ _ _ wr.drew;simp only [List.size_toArray,List.length_cons,List.length_nil,Nat.reduceAdd,Array.replicate_succ,Array.replicate_zero,List.push_toArray,List.nil_append,List.cons_append];generalize wr.drew=wd at *;refine wpAnyH_take (i:=1) (oi:=⟨some 23,_,_,_,_,_⟩) (v:=.slice (some ⟨g,0,none⟩) 33 c3) rfl (by kernel_rfl) (by kernel_rfl) (by kernel_rfl) (fun _ _ _ h=>h) (Or.inl ⟨by rfl,fun w8 h8=>?_⟩) hBd ?_
   ·exact Lb _ _ _ (.inl rfl) (.slice (some ⟨g,0,none⟩) 33 c3) rfl w8
   try simp only [La]
   refine wpAnyH_take (i:=2) (oi:=⟨some 24,_,_,_,_,_⟩) (v:=.slice (some ⟨g,1,none⟩) 32 (c3-1)) rfl (by kernel_rfl) (by kernel_rfl) (by kernel_rfl) (fun _ _ _ h=>h) (Or.inl ⟨by rfl,fun w8 h8=>?_⟩) hBd ?_
   ·exact M6 _ rfl g c3 hc3 rfl w8
   try simp only [La]
   refine wpAnyH_take (i:=4) (oi:=⟨some 26,_,_,_,_,_⟩) (v:=.slice (some ⟨b,off,none⟩) n c) rfl (by kernel_rfl) (by kernel_rfl) (by kernel_rfl) (fun _ _ _ h=>h) (Or.inl ⟨by rfl,fun w8 h8=>?_⟩) hBd ?_
   ·exact Lb _ _ _ (.inl rfl) (.slice (some ⟨b,off,none⟩) n c) rfl w8
   try simp only [La]
   refine wpAnyH_take (i:=5) (oi:=⟨some 27,_,_,_,_,_⟩) (v:=.int .i64 (k:Int)) rfl (by kernel_rfl) (by kernel_rfl) (by kernel_rfl) (fun _ _ _ h=>h) (Or.inl ⟨by rfl,fun w8 h8=>?_⟩) hBd ?_
   ·exact Lb _ _ _ (.inl rfl) (.int .i64 (k:Int)) rfl w8
   try simp only [La]
   refine wpAnyH_take (i:=6) (oi:=⟨some 28,_,_,_,_,_⟩) (v:=.pointer (some ⟨b,off+k,none⟩)) rfl (by kernel_rfl) (by kernel_rfl) (by kernel_rfl) (fun _ _ _ h=>h) (Or.inl ⟨by rfl,fun w8 h8=>?_⟩) hBd ?_
   ·exact Daa _ _ rfl b off n c k hlt rfl rfl w8
   try simp only [La]
   refine wpAnyH_take (i:=7) (oi:=⟨some 29,_,_,_,_,_⟩) (v:=Fa q) rfl (by kernel_rfl) (by kernel_rfl) (by kernel_rfl) (fun _ _ _ h=>h) (Or.inl ⟨by rfl,fun w8 h8=>?_⟩) hBd ?_
   ·exact XY _ rfl _ q rfl w8 ((h8.cell hbz).trans hcell)
   try simp only [La]
   refine wpAnyH_take (i:=8) (oi:=⟨some 30,_,_,_,_,_⟩) (v:=Gc q.toNat) rfl (by kernel_rfl) (by kernel_rfl) (by kernel_rfl) (fun _ _ _ h=>h) (Or.inl ⟨by rfl,fun w8 h8=>?_⟩) hBd ?_
   ·exact WT _ rfl q rfl w8
   try simp only [La]
   obtain ⟨x,hx⟩:∃x,x=q.toNat:=⟨_,rfl⟩;rw [←hx] at hfin ⊢;have hdl:(r.drop 1).length=32:=by rw [List.length_drop,HR3.out.1]
   refine wpAnyH_all (rs:=[0,9]) (by kernel_rfl) (by decide) fun i hi=>?_;rcases List.mem_cons.1 hi with rfl|hi
   ·refine wpOp_step (o:=⟨some 22,_,_,_,_,_⟩) rfl fun K1 hK1=>?_;rw [if_pos (by rfl)];refine Ri 93 0 [] rfl [] rfl 3 #[] EP (hK1 _ _ ⟨hBd.alloc hBd.size _,?_⟩);clear hK1 K1;try simp only [La]
    obtain ⟨wp1,hw⟩:∃z,z=wd.alloc (.cells #[] 3):=⟨_,rfl⟩;rw [←hw];have hBp1:Below wr.heap.size wr wp1:=by rw [hw];exact hBd.alloc hBd.size _
    have hOp1:ze wp1 wr.heap.size (.slice (some ⟨wd.heap.size,0,none⟩) 0 0) []:=by rw [hw];exact ze.lit wd [] hBd.size (by decide)
    have hCp1:Ia wp1 g (r.map Gc++rest) 3:=by rw [hw];exact hCd.alloc _
    clear hw;have hlt22:wd.heap.size<wp1.heap.size:=(World.ownsRow.lt hOp1 _ rfl).2;refine wpAnyH_all (rs:=[3,9]) (by kernel_rfl) (by decide) fun i hi=>?_;rcases List.mem_cons.1 hi with rfl|hi
    ·refine wpOp_step (o:=⟨some 25,_,_,_,_,_⟩) rfl fun K1 hK1=>?_;rw [if_pos (by rfl)];refine Eg (.tmp 22) (.tmp 24) rfl wr.heap.size wp1.heap.size _ [] (r.drop 1) g 1 32 (c3-1) rfl hOp1 rfl hdl (hCp1.rowFrom 1) (by rw [hdl];decide) hBp1.size ?_;intro v25 wp2 hPp2 hbp2 hbut;refine hK1 _ _ ⟨hBp1.trans hbp2,?_⟩;clear hK1 K1;try simp only [La]
     have hBp2:=hBp1.trans hbp2;clear hbut;refine wpAnyH_all (rs:=[9]) (by kernel_rfl) (by decide) fun i hi=>?_;obtain rfl:=List.mem_singleton.1 hi;clear hi;refine wpOp_step (o:=⟨some 31,_,_,_,_,_⟩) rfl fun K1 hK1=>?_;rw [if_pos (by rfl)];refine Ri 93 1 [(0,.tmp 30)] rfl [(0,Gc x)] rfl 3 ([x].map Gc).toArray (GK x) (hK1 _ _ ⟨hBp2.alloc hBp2.size _,?_⟩);clear hK1 K1;try simp only [La]
     obtain ⟨wp3,hw⟩:∃z,z=wp2.alloc (.cells ([x].map Gc).toArray 3):=⟨_,rfl⟩;rw [←hw];have hBp3:Below wr.heap.size wr wp3:=by rw [hw];exact hBp2.alloc hBp2.size _
     have hcp3:wp3.cell? ⟨wp2.heap.size,0,none⟩=some (Gc x):=by rw [hw];exact PD wp2 x
     have hgp3:wp2.heap.size<wp3.heap.size:=by rw [hw,World.size_alloc];omega
     have hPp3:=hPp2.kept_alloc (.cells ([x].map Gc).toArray 3);rw [←hw] at hPp3;clear hw;refine wpAnyH_all (rs:=[10]) (by kernel_rfl) (by decide) fun i hi=>?_;obtain rfl:=List.mem_singleton.1 hi;clear hi;refine wpOp_step (o:=⟨some 32,_,_,_,_,_⟩) rfl fun K1 hK1=>?_;rw [if_pos (by rfl)];refine Eg (.tmp 25) (.tmp 31) rfl wr.heap.size wp3.heap.size _ (r.drop 1) [x] _ 0 1 1 rfl hPp3 rfl rfl (IK hcp3 hgp3) (by rw [hdl];show 32+1≤1000000;decide) hBp3.size ?_;intro v32 wp4 hZp4 hbp4 _;refine hK1 _ _ ⟨hBp3.trans hbp4,?_⟩;clear hK1 K1;try simp only [La]
     have hBp4:=hBp3.trans hbp4;refine wpAnyH_all (rs:=[11]) (by kernel_rfl) (by decide) fun i hi=>?_;obtain rfl:=List.mem_singleton.1 hi;clear hi;refine wpOp_step (o:=⟨some 3,_,_,_,_,_⟩) rfl fun K1 hK1=>?_;rw [if_pos (by rfl)];refine Mc v32 (Lb _ _ _ (.inr rfl) v32 rfl _) (hK1 _ _ ⟨hBp4,?_⟩);clear hK1 K1;try simp only [La]
     refine wpAnyH_done (by kernel_rfl) ?_ _;exact hfin _ _ _ _ _ hZp4 hBp4
    obtain rfl:=List.mem_singleton.1 hi;refine wpOp_step (o:=⟨some 31,_,_,_,_,_⟩) rfl fun K1 hK1=>?_;rw [if_pos (by rfl)];refine Ri 93 1 [(0,.tmp 30)] rfl [(0,Gc x)] rfl 3 ([x].map Gc).toArray (GK x) (hK1 _ _ ⟨hBp1.alloc hBp1.size _,?_⟩);clear hK1 K1;try simp only [La]
    obtain ⟨wp2,hw⟩:∃z,z=wp1.alloc (.cells ([x].map Gc).toArray 3):=⟨_,rfl⟩;rw [←hw];have hBp2:Below wr.heap.size wr wp2:=by rw [hw];exact hBp1.alloc hBp1.size _
    have hCp2:Ia wp2 g (r.map Gc++rest) 3:=by rw [hw];exact hCp1.alloc _
    have hcp2:wp2.cell? ⟨wp1.heap.size,0,none⟩=some (Gc x):=by rw [hw];exact PD wp1 x
    have hgp2:wp1.heap.size<wp2.heap.size:=by rw [hw,World.size_alloc];omega
    have hOp2:=hOp1.kept_alloc (.cells ([x].map Gc).toArray 3);rw [←hw] at hOp2;have hnep2:wp1.heap.size≠wd.heap.size:=by have :=hlt22;omega
    clear hw;refine wpAnyH_all (rs:=[3]) (by kernel_rfl) (by decide) fun i hi=>?_;obtain rfl:=List.mem_singleton.1 hi;clear hi;refine wpOp_step (o:=⟨some 25,_,_,_,_,_⟩) rfl fun K1 hK1=>?_;rw [if_pos (by rfl)];refine Eg (.tmp 22) (.tmp 24) rfl wr.heap.size wp2.heap.size _ [] (r.drop 1) g 1 32 (c3-1) rfl hOp2 rfl hdl (hCp2.rowFrom 1) (by rw [hdl];decide) hBp2.size ?_;intro v25 wp3 hPp3 hbp3 hbut;refine hK1 _ _ ⟨hBp2.trans hbp3,?_⟩;clear hK1 K1;try simp only [La]
    have hBp3:=hBp2.trans hbp3;have hcp3:=GP (hbut _ rfl) hgp2 hnep2 hcp2;have hgp3:=Waj hgp2 (hbut _ rfl).size;clear hbut;refine wpAnyH_all (rs:=[10]) (by kernel_rfl) (by decide) fun i hi=>?_;obtain rfl:=List.mem_singleton.1 hi;clear hi;refine wpOp_step (o:=⟨some 32,_,_,_,_,_⟩) rfl fun K1 hK1=>?_;rw [if_pos (by rfl)];refine Eg (.tmp 25) (.tmp 31) rfl wr.heap.size wp3.heap.size _ (r.drop 1) [x] _ 0 1 1 rfl hPp3 rfl rfl (IK hcp3 hgp3) (by rw [hdl];show 32+1≤1000000;decide) hBp3.size ?_;intro v32 wp4 hZp4 hbp4 _;refine hK1 _ _ ⟨hBp3.trans hbp4,?_⟩;clear hK1 K1;try simp only [La]
    have hBp4:=hBp3.trans hbp4;refine wpAnyH_all (rs:=[11]) (by kernel_rfl) (by decide) fun i hi=>?_;obtain rfl:=List.mem_singleton.1 hi;clear hi;refine wpOp_step (o:=⟨some 3,_,_,_,_,_⟩) rfl fun K1 hK1=>?_;rw [if_pos (by rfl)];refine Mc v32 (Lb _ _ _ (.inr rfl) v32 rfl _) (hK1 _ _ ⟨hBp4,?_⟩);clear hK1 K1;try simp only [La]
    refine wpAnyH_done (by kernel_rfl) ?_ _;exact hfin _ _ _ _ _ hZp4 hBp4
   obtain rfl:=List.mem_singleton.1 hi;refine wpOp_step (o:=⟨some 31,_,_,_,_,_⟩) rfl fun K1 hK1=>?_;rw [if_pos (by rfl)];refine Ri 93 1 [(0,.tmp 30)] rfl [(0,Gc x)] rfl 3 ([x].map Gc).toArray (GK x) (hK1 _ _ ⟨hBd.alloc hBd.size _,?_⟩);clear hK1 K1;try simp only [La]
   obtain ⟨wp1,hw⟩:∃z,z=wd.alloc (.cells ([x].map Gc).toArray 3):=⟨_,rfl⟩;rw [←hw];have hBp1:Below wr.heap.size wr wp1:=by rw [hw];exact hBd.alloc hBd.size _
   have hCp1:Ia wp1 g (r.map Gc++rest) 3:=by rw [hw];exact hCd.alloc _
   have hcp1:wp1.cell? ⟨wd.heap.size,0,none⟩=some (Gc x):=by rw [hw];exact PD wd x
   have hgp1:wd.heap.size<wp1.heap.size:=by rw [hw,World.size_alloc];omega
   clear hw;refine wpAnyH_all (rs:=[0]) (by kernel_rfl) (by decide) fun i hi=>?_;obtain rfl:=List.mem_singleton.1 hi;clear hi;refine wpOp_step (o:=⟨some 22,_,_,_,_,_⟩) rfl fun K1 hK1=>?_;rw [if_pos (by rfl)];refine Ri 93 0 [] rfl [] rfl 3 #[] EP (hK1 _ _ ⟨hBp1.alloc hBp1.size _,?_⟩);clear hK1 K1;try simp only [La]
   obtain ⟨wp2,hw⟩:∃z,z=wp1.alloc (.cells #[] 3):=⟨_,rfl⟩;rw [←hw];have hBp2:Below wr.heap.size wr wp2:=by rw [hw];exact hBp1.alloc hBp1.size _
   have hOp2:ze wp2 wr.heap.size (.slice (some ⟨wp1.heap.size,0,none⟩) 0 0) []:=by rw [hw];exact ze.lit wp1 [] hBp1.size (by decide)
   have hCp2:Ia wp2 g (r.map Gc++rest) 3:=by rw [hw];exact hCp1.alloc _
   have hcp2:wp2.cell? ⟨wd.heap.size,0,none⟩=some (Gc x):=by rw [hw];exact YT _ hgp1 hcp1
   have hgp2:wd.heap.size<wp2.heap.size:=by rw [hw,World.size_alloc];omega
   have hnep2:wd.heap.size≠wp1.heap.size:=Vaj hgp1;clear hw;refine wpAnyH_all (rs:=[3]) (by kernel_rfl) (by decide) fun i hi=>?_;obtain rfl:=List.mem_singleton.1 hi;clear hi;refine wpOp_step (o:=⟨some 25,_,_,_,_,_⟩) rfl fun K1 hK1=>?_;rw [if_pos (by rfl)];refine Eg (.tmp 22) (.tmp 24) rfl wr.heap.size wp2.heap.size _ [] (r.drop 1) g 1 32 (c3-1) rfl hOp2 rfl hdl (hCp2.rowFrom 1) (by rw [hdl];decide) hBp2.size ?_;intro v25 wp3 hPp3 hbp3 hbut;refine hK1 _ _ ⟨hBp2.trans hbp3,?_⟩;clear hK1 K1;try simp only [La]
   have hBp3:=hBp2.trans hbp3;have hcp3:=GP (hbut _ rfl) hgp2 hnep2 hcp2;have hgp3:=Waj hgp2 (hbut _ rfl).size;clear hbut;refine wpAnyH_all (rs:=[10]) (by kernel_rfl) (by decide) fun i hi=>?_;obtain rfl:=List.mem_singleton.1 hi;clear hi;refine wpOp_step (o:=⟨some 32,_,_,_,_,_⟩) rfl fun K1 hK1=>?_;rw [if_pos (by rfl)];refine Eg (.tmp 25) (.tmp 31) rfl wr.heap.size wp3.heap.size _ (r.drop 1) [x] _ 0 1 1 rfl hPp3 rfl rfl (IK hcp3 hgp3) (by rw [hdl];show 32+1≤1000000;decide) hBp3.size ?_;intro v32 wp4 hZp4 hbp4 _;refine hK1 _ _ ⟨hBp3.trans hbp4,?_⟩;clear hK1 K1;try simp only [La]
   have hBp4:=hBp3.trans hbp4;refine wpAnyH_all (rs:=[11]) (by kernel_rfl) (by decide) fun i hi=>?_;obtain rfl:=List.mem_singleton.1 hi;clear hi;refine wpOp_step (o:=⟨some 3,_,_,_,_,_⟩) rfl fun K1 hK1=>?_;rw [if_pos (by rfl)];refine Mc v32 (Lb _ _ _ (.inr rfl) v32 rfl _) (hK1 _ _ ⟨hBp4,?_⟩);clear hK1 K1;try simp only [La]
   refine wpAnyH_done (by kernel_rfl) ?_ _;exact hfin _ _ _ _ _ hZp4 hBp4
  ·obtain rfl:j=0:=by omega
   rw [show (((0:Nat):Int)-1)= -1 from rfl];obtain ⟨Q,HQ⟩:=qh (T 0);rw [HQ.out] at HR3;have hQ':∀(e:Ending) (w':World),(e=.returned (Ca (Ob Q 32))∧Below w.heap.size w w')→(e=.returned (Ca (Ob (T 0) 32))∧Below w.heap.size w w'):=fun e w' h=>by rw [HQ.out];exact h
   have hg0:w.heap.size<g:=by omega
   clear HT HTL HT0 HLL hCL;go_wp2_with (first
    |(refine Eb rfl 22 [] rfl [] rfl _ ZY ?_
      try simp only [La]
      skip)
    |(refine VK rfl rfl 22 (.tmp 9) (.tmp 59) rfl rfl 32 (List.replicate 32 0) rfl rfl Iv Ak (by simp) ?_
      intro w6 hb6 hO6 _;have hB6:=Ba hB hb6;have hC6:=hC.on hb6;have hZ6:=hZ.on hb6;have hzlt:=hC.lt;clear hB hC hZ hb6))
   have hgo:g<wr.heap.size:=hzlt;generalize hq9:wr.heap.size=go at *;clear hq9
   go_loopw [10] (fun i wr=>∃k:Nat,k≤32∧i=.int .i64 (k:Int)∧Below w.heap.size w wr∧Ia wr go ((Ob Q k++List.replicate (32-k) 0).map Fa) 22∧Ia wr g (r.map Gc++rest) 3∧Ia wr w.heap.size (List.replicate 32 (Fa 0)) 22) (fun i _=>32-(intOf i).toNat)
   case atStart=>exact ⟨0,Nat.zero_le _,rfl,hB6,hO6,hC6,hZ6⟩
   case round=>
    clear hB6 hO6 hC6 hZ6;obtain ⟨k,hk,rfl,hB,hO,hC,hZ⟩:=hrel;by_cases hlt:k<32
    ·have i1:(0:Int)≤(k:Int):=by omega
     have i2:(k:Int)<32:=by omega
     have i3:(0:Int)≤32-(k:Int):=by omega
     have i4:(32:Int)-(k:Int)<33:=by omega
     have i5:((32:Int)-(k:Int)).toNat=32-k:=by omega
     have i6:IntKind.i64.wrap (32-(k:Int))=32-(k:Int):=IntWalk.i64_in _ (by omega);have d1:=hC.intAt (32-k) (by rw [HR3.out.1];omega);rw [yT r HR3.out.1 HR3.out.2.1 Q k (by omega) HR3.out.2.2] at d1;have hpl:=Ta Q k;have d2:=hO.frozen k;have d0:=hO.get (show ((Ob Q k++List.replicate (32-k) 0).map Fa)[k]? =some (Fa 0) by rw [List.getElem?_map,List.getElem?_append_right (by omega),hpl,Nat.sub_self,List.getElem?_replicate,if_pos (by omega)];rfl);have hS:=Lib.hid (hO.set k (Fa (Ec Q k)));have hP:=Lib.hid (FF (Ob Q k) k 32 (Ec Q k) 0 hpl hlt);have hPS:=Lib.hid (Mh Q k);have hq:=(Ec Q k).toNat_lt;generalize Ec Q k=q at *;have j1:IntKind.u8.wrap (q.toNat:Int)=(q.toNat:Int):=by rw [IntKind.wrap_u8];omega
     clear hq;go_wp2_with fail
     go_roundw
     case rel=>
      refine ⟨k+1,by omega,by go_num,hB.setCell (p:=⟨go,k,none⟩) (by show w.heap.size≤go;omega) _,?_,hC.other (by show g≠go;omega) _,hZ.other (by show w.heap.size≠go;omega) _⟩;rw [hPS.out,←hP.out,List.map_set];exact hS.out
     case measure=>simp [intOf]<;>omega
    ·obtain rfl:k=32:=by omega
     rw [show ((32:Nat):Int)=32 from rfl];have hp:Ob Q 32++List.replicate (32-32) 0=Ob Q 32:=List.append_nil _;rw [hp] at hO;have hpl:=Lib.hid (Ta Q 32);obtain ⟨p,HP⟩:=qh (Ob Q 32);rw [HP.out] at hO hpl hQ';clear hp;go_wp2_with (first
      |(refine Tc rfl 22 (.tmp 9) rfl go 32 p _ rfl hO Tryz.underlying22 Ak hpl.out ?_
        try simp only [La]
        skip)
      |(refine Li rfl 22 _ _ rfl w.heap.size 32 (List.replicate 32 (Fa 0)) p rfl rfl hZ (by simp) Ak hpl.out ?_
        intro w7 hb7 hC7 _))
     exact Mi Tryz.results32 w.heap.size p rfl hC7 Tryz.underlying22 Ak hpl.out rfl (hQ' _ _ ⟨rfl,hB.trans (hb7.below (Xaj _) hB.size)⟩)
theorem P6 (a q m:Nat):(a%m*256+q)%m=(q+256*a)%m:=by
 rw [Nat.add_mod,Nat.mod_mul_mod,←Nat.add_mod];congr 1
 omega
theorem zY (bs:List UInt8) (j:Nat) (h:j<bs.length):lev (bs.drop j)=(bs.getD j 0).toNat+256*lev (bs.drop (j+1)):=by
 rw [List.drop_eq_getElem_cons h,Yaj,xaj h];rfl
theorem Qk (A:Option Addr) (n c:Nat) (bs:List UInt8) (w:World) (hl:bs.length=n) (hn:n≤100) (hr:Row w w.heap.size A bs):Calls Tryz.prog 32 #[.slice A n c] w (gvn (Ca (Ob (lev bs%NP.LL) 32)) w):=by
 have h:=WE A n c bs (fun j=>lev (bs.drop j)%NP.LL) w hl hn hr (by show _=_;rw [List.drop_of_length_le (by omega)];rfl) (fun j _=>Nat.mod_lt _ (by decide)) (fun j hj=>by
  show _=_;rw [zY bs j (by omega),P6])
 rw [List.drop_zero] at h;exact h
end Go.Proofs.YtoggkhjaghkpnaaGreatDoor
namespace Go.Proofs.YtoggkhjaghkpnaaGreatDoor
open Go.RowKit
end Go.Proofs.YtoggkhjaghkpnaaGreatDoor
namespace Go.Proofs.YtoggkhjaghkpnaaGreatDoor
open Go.ChangeShapes Go.WideShapes Go.ChangeAt Go.RowKit
theorem FH {H:Type}:(Rows.laid_fellowship_scalar_order (H:=H))=Lib.tabData .u64 ((nD NP.LL).map fun n:Nat=>(n:Int)):=by kernel_rfl
theorem JP {H:Type}:(Rows.laid_fellowship_scalar_tail (H:=H))=Lib.tabData .u64 ((nD Sh).map fun n:Nat=>(n:Int)):=by kernel_rfl
theorem MK (l:List Nat):((l.map fun n:Nat=>(n:Int)).map fun z=>Value.int .u64 z)=l.map Ga:=by
 rw [List.map_map];rfl
theorem Jv {W:World} {name:String} {g:Nat} {fuel:Nat} {l:List Nat} {cs:Array Value} {p:List MemPlace} (hg:Tryz.prog.globalNamed name=some g) (hv:W.var? Tryz.prog name=some cs)
 (hd:DataW.trod (H:=Unit) (fun _=>()) Tryz.prog W 0 (fun _=>true) false fuel 83 cs.toList=some (Lib.tabData .u64 (l.map fun n:Nat=>(n:Int)),p)):Tab W g (l.map Ga):=by
 have c2:=Lib.cells_of_tab Tryz.underlying83 Tryz.underlying49 (by kernel_rfl) (by kernel_rfl) hd;rw [MK] at c2;have e:cs=(l.map Ga).toArray:=by rw [←c2]
 rw [e] at hv;exact Tab.of_var hg hv
end Go.Proofs.YtoggkhjaghkpnaaGreatDoor
namespace Go.Proofs.YtoggkhjaghkpnaaGreatDoor
open Go.RowKit
theorem YE (x:BitVec 64) (n:Nat) (w:World) (hn0:0<n) (hn:n<64):
 Calls Tryz.prog 94 #[.int .u64 x.toNat,.int .u64 n] w fun e w'=>e=.returned (.int .u64 ((Ue x n).toNat:Int))∧w=w':=by
 have HR:Hid (bits .or .u64 ((x.toNat:Int)/2^n) ((x.toNat:Int)*2^(64-n)%18446744073709551616)=((Ue x n).toNat:Int)):=by
  show _=_;rw [JZ x n hn];unfold Ue;rw [show ((n:Int)%64).toNat=n by omega]
 have h1:(64:Int)-n=((64-n:Nat):Int):=by omega
 have h2:((64:Int)-(n:Int)).toNat=64-n:=by omega
 go_enter Tryz.func94,Tryz.ntmps94
 go_wp2
 go_ret
 refine ⟨Tt ?_,rfl⟩;first
 |exact HR.out
 |(rw [IntKind.wrap_u64];exact HR.out)
theorem KP (w:World):(Instr.buildSlice 136 80 ((List.range 80).zip (Ln.map qa)).toArray).run Tryz.prog w=.ok (.slice (some ⟨w.heap.size,0,none⟩) 80 80) (w.alloc (.cells (Ln.map qa).toArray 49)):=by kernel_rfl
theorem Kv (w:World):Calls Tryz.prog 92 #[] w fun e w'=>e=.returned (.slice (some ⟨w.heap.size,0,none⟩) 80 80)∧Below w.heap.size w w'∧Ia w' w.heap.size (Ln.map qa) 49:=by
 go_enter Tryz.func92,Tryz.ntmps92;go_wp2_with (refine Vk rfl 136 80 _ rfl ((List.range 80).zip (Ln.map qa)) rfl 49 _ KP ?_
                                                intro w1 hw1;have hB1:Below w.heap.size w w1:=by rw [hw1];exact (Below.refl _ _).alloc (Xaj _) _
                                                have hC1:Ia w1 w.heap.size (Ln.map qa) 49:=by rw [hw1];exact Ia.new w _ _
                                                clear hw1)
 go_ret
 exact ⟨rfl,hB1,hC1⟩
theorem Gaa (n j:Nat) (hj:j<Wc n-1):¬((n:Int)+1+j)%128=112:=by unfold Wc at hj;omega
theorem qY (n:Nat):((n:Int)+1+((Wc n-1:Nat):Int))%128=112:=by unfold Wc;omega
theorem SD (A:Option Addr) (c n:Nat) (bs:List UInt8) (w:World) (hl:bs.length=n) (hr:Row w w.heap.size A bs) (hA:A=none→c=0) (hn:n≤900000):
 Calls Tryz.prog 93 #[.slice A n c] w (MZ w (yd bs)):=by
 have HL:=Lib.hid hl;have h0:=Sd.lit (base:=w.heap.size) w [] (Xaj _) (by simp);have H0:=Lib.hid h0;clear h0 hl;have hM:∀(W:World) (u:UInt8),Row (W.alloc (.cells #[Fa u] 5)) (W.heap.size+1) (some ⟨W.heap.size,0,none⟩) [u]:=fun W u=>(Jg.new W [u]).row (by omega);have HM:=Lib.hid hM;clear hM;go_enter Tryz.func93,Tryz.ntmps93;go_wp2_with (first
  |(at_builtin
    refine Vf rfl (.tmp 6) (.tmp 7) rfl w.heap.size _ [] bs w.heap.size A c rfl H0.out (by rw [HL.out];rfl) hA (hr.below ((Below.refl _ _).alloc (Xaj _) _)) (by simp [HL.out];omega) (by simp) ?_;intro v1 w1 hown1 hB1)
  |(at_builtin
    refine Vf rfl (.tmp 8) (.tmp 9) rfl w.heap.size _ ([]++bs) [128] (w1.heap.size+1) (some ⟨w1.heap.size,0,none⟩) 1 rfl (hown1.kept_alloc _) rfl (fun h=>by cases h) (HM.out w1 128) (by simp [HL.out];omega) (by have :=hB1.size;simp at this ⊢;omega) ?_;intro v2 w2 hown2 hB2))
 have hB3:Below w.heap.size w w1:=((Below.refl _ _).alloc (Xaj _) _).trans hB1;have hB4:=(hB3.alloc hB3.size (.cells #[.int .u8 128] 5)).trans hB2;have hO4:Sd w2 w.heap.size v2 (bs++128::List.replicate 0 0):=by simpa using hown2
 clear hB1 hB2 hB3 hown1 hown2
 go_loopw [3] (fun v wr=>∃j:Nat,j≤Wc n-1∧Below w.heap.size w wr∧Sd wr w.heap.size v (bs++128::List.replicate j 0)) (fun v _=>(240-lenOf v%128)%128)
 case atStart=>exact ⟨0,Nat.zero_le _,hB4,hO4⟩
 case round=>
  clear hB4 hO4;obtain ⟨j,hj,hB,hO⟩:=hrel;have HJ:Hid ((bs++128::List.replicate j 0).length=n+1+j):=by show _=_;rw [qaj,HL.out,List.length_cons,List.length_replicate];omega
  obtain ⟨g1,c1,hv,hc1,hc2,hg1,hR1⟩:=hO.form_pos (by rw [HJ.out];omega);rw [HJ.out] at hv hc1;have hz:=hB.size;have hpp:=yi n;by_cases hlt:j<Wc n-1
  ·have hq:=Gaa n j hlt;have HS:=Lib.hid (show bs++128::List.replicate j 0++[0]=bs++128::List.replicate (j+1) 0 by rw [List.append_assoc,List.cons_append,←List.replicate_succ']);have HQ:Hid (¬(n+1+j)%128=112):=by show ¬_;omega
   have hq2:(((n+1+j:Nat):Int)%128!=112)=true:=by simp;omega
   clear hq;subst hv;generalize hLL:n+1+j=L at *;replace hLL:=Lib.hid hLL;go_wp2_with (first|(at_builtin
                                                                                              refine Vf rfl (.tmp 15) (.tmp 16) rfl w.heap.size _ (bs++128::List.replicate j 0) [0] (wr.heap.size+1) (some ⟨wr.heap.size,0,none⟩) 1 rfl (hO.kept_alloc _) rfl (fun h=>by cases h) (HM.out wr 0) (by rw [HJ.out];have :=hLL.out;simp;omega) (by simp;omega) ?_;intro v3 w3 hown3 hB3))
   go_roundw
   case rel=>exact ⟨j+1,by omega,(hB.alloc hz _).trans hB3,by rw [←HS.out];exact hown3⟩
   case measure=>
    obtain ⟨A3,c3,hv3,_⟩:=hown3.form;subst hv3;have h1:=HQ.out;have h2:(bs++128::List.replicate j 0++[0]).length=L+1:=by rw [qaj,HJ.out];rfl
    simp only [lenOf];rw [h2];omega
  ·obtain rfl:j=Wc n-1:=by omega
   have hq:=qY n;have hq2:(((n+1+(Wc n-1):Nat):Int)%128!=112)=false:=by simp;omega
   have HX:Hid (bs++128::List.replicate (Wc n-1) 0++[0,0,0,0,0,0,0,0]++(Ob (8*n) 8).reverse=yd bs):=by
    show _=_;unfold yd Wk;rw [HL.out,List.append_assoc,List.append_assoc];simp
   clear hq;subst hv;generalize hbb:bs++128::List.replicate (Wc n-1) 0=xs at *;generalize hLL:n+1+(Wc n-1)=L at *;have hL2:L≤900200:=by omega
   replace hLL:=Lib.hid hLL;replace hbb:=Lib.hid hbb;have hM8:∀(W:World),Row (W.alloc (.cells #[.int .u8 0,.int .u8 0,.int .u8 0,.int .u8 0,.int .u8 0,.int .u8 0,.int .u8 0,.int .u8 0] 5)) (W.heap.size+1) (some ⟨W.heap.size,0,none⟩) [0,0,0,0,0,0,0,0]:=fun W=>(Jg.new W [0,0,0,0,0,0,0,0]).row (by omega);have HM8:=Lib.hid hM8;clear hM8;go_wp2_with (first|(at_builtin
                                                                                                                                                                                                                                                                                                                                                                   refine Vf rfl (.tmp 18) (.tmp 19) rfl w.heap.size _ xs [0,0,0,0,0,0,0,0] (wr.heap.size+1) (some ⟨wr.heap.size,0,none⟩) 8 rfl (hO.kept_alloc _) rfl (fun h=>by cases h) (HM8.out wr) (by rw [HJ.out];simp;omega) (by simp;omega) ?_;intro v4 w4 hown4 hB4))
   have HJ4:Hid ((xs++[0,0,0,0,0,0,0,0]).length=L+8):=by show _=_;rw [qaj,HJ.out];rfl
   have hB5:=(hB.alloc hz (.cells #[.int .u8 0,.int .u8 0,.int .u8 0,.int .u8 0,.int .u8 0,.int .u8 0,.int .u8 0,.int .u8 0] 5)).trans hB4;clear hB4 hB hO;generalize hzz:xs++[0,0,0,0,0,0,0,0]=zs at *
   go_loopw [3,5] (fun v i wr=>∃k:Nat,k≤8∧i=.int .i64 (7-(k:Int))∧Below w.heap.size w wr∧Sd wr w.heap.size v (zs++Nm (8*n) 8 k)) (fun _ i _=>(intOf i+1).toNat)
   case atStart=>exact ⟨0,by omega,rfl,hB5,by simpa [Nm] using hown4⟩
   case round=>
    clear hB5 hown4 hR1 hc1 hz;obtain ⟨k,hk,rfl,hB,hO⟩:=hrel;have hz:=hB.size;by_cases hlt2:k<8
    ·have HS:=Lib.hid (show zs++Nm (8*n) 8 k++[Ec (8*n) (7-k)]=zs++Nm (8*n) 8 (k+1) by rw [Rv,List.append_assoc]);have HY:Hid ((n:Int)*8/2^(8*(7-k))%256=((Ec (8*n) (7-k)).toNat:Int)):=by
      have h:=Ut (8*n) (7-k);rw [show ((8*n:Nat):Int)=(n:Int)*8 by omega] at h;exact h
     have HZ:Hid ((7:Int)-(k:Int)=((7-k:Nat):Int)):=by show _=_;omega
     have HZ2:Hid ((zs++Nm (8*n) 8 k).length=L+8+k):=by show _=_;rw [qaj,HJ4.out,Rj]
     rw [HZ.out];generalize hmm:7-k=m at *;replace hmm:=Lib.hid hmm;have hm7:m≤7:=by have :=hmm.out;omega
     go_wp2_with (first|(at_builtin
                         rw [HY.out];refine Vf rfl (.tmp 29) (.tmp 36) rfl w.heap.size _ (zs++Nm (8*n) 8 k) [Ec (8*n) m] (wr.heap.size+1) (some ⟨wr.heap.size,0,none⟩) 1 rfl (hO.kept_alloc _) rfl (fun h=>by cases h) (HM.out wr _) (by rw [HZ2.out];simp;omega) (by simp;omega) ?_;intro v3 w3 hown3 hB3))
     go_roundw
     case rel=>exact ⟨k+1,by omega,by have :=hmm.out;congr 1;omega,(hB.alloc hz _).trans hB3,by rw [←HS.out];exact hown3⟩
     case measure=>simp [intOf]
    ·obtain rfl:k=8:=by omega
     rw [FA,HX.out] at hO;go_wp2_with fail
     go_ret
     obtain ⟨g',c',hv,_,_,hg',hR⟩:=hO.form_pos (by rw [yf];omega);exact ⟨g',c',by rw [←hv];rfl,hg',hB,hR⟩
theorem Q6:∀w,(zeroValue 26).run Tryz.prog w=.ok (.agg (List.replicate 64 (Fa 0)).toArray) w:=(zero_of_info (P:=Tryz.prog) (t:=26) (v:=.agg (List.replicate 64 (Fa 0)).toArray) (n:=64) (by kernel_rfl)).1
theorem LP:(Tryz.prog.info? 26).map (·.size)=some 64:=by kernel_rfl
theorem Tk (x:BitVec 64) (z:Int) (w:World) (h0:0<z) (h:z<64):
 Calls Tryz.prog 94 #[.int .u64 x.toNat,.int .u64 z] w fun e w'=>e=.returned (.int .u64 ((Ue x z).toNat:Int))∧w'=w:=by
 obtain ⟨n,rfl⟩:=Int.eq_ofNat_of_zero_le (show 0≤z by omega);exact (YE x n w (by omega) (by omega)).mono fun _ _ ⟨h1,h2⟩=>⟨h1,h2.symm⟩
theorem AZ (x:BitVec 64) (z:Int) (w:World) (h0:0<z) (h:z<64):
 Calls Tryz.prog 94 #[.int .u64 x.toNat,.int .u64 z] w fun e w'=>e=.returned (.int .u64 ((Ue x z).toNat:Int))∧w=w':=
 (Tk x z w h0 h).mono fun _ _ ⟨h1,h2⟩=>⟨h1,h2.symm⟩
theorem DZ (x2 x7 x15 x16:BitVec 64):(Ue x2 19^^^Ue x2 61^^^x2>>>6)+x7+(Ue x15 1^^^Ue x15 8^^^x15>>>7)+x16=x16+KA x15+x7+Xt x2:=by
 show Xt x2+x7+KA x15+x16=_
 ac_rfl
theorem Hae (x:BitVec 64):bits .xor .u64 IntKind.u64.max (x.toNat:Int)=((~~~x).toNat:Int):=zaa x
theorem GH (l:List (BitVec 64)) (k:Nat) (hk:k<l.length):(l.map qa)[k]? =some (qa (l.getD k 0)):=by
 rw [List.getElem?_map,Yaj,xaj hk];rfl
theorem R6:(Tryz.prog.info? 49).map (fun i=>(i.zero,i.size,i.bytes))=some (some (.int .u64 0),1,8):=by kernel_rfl
def Lt (n:Nat):List Value:=List.replicate n (qa 0)
theorem NK (n:Nat) (hn:n≤1000000) (W:World):
 (Instr.makeSlice 136 (.int .i64 (n:Int)) (.int .i64 (n:Int))).run Tryz.prog W=.ok (.slice (some ⟨W.heap.size,0,none⟩) n n) (W.alloc (.cells (Lt n).toArray 49)):=by
 unfold Lt;obtain ⟨i0,hi0,hz0,hz1,hz2⟩:=info_parts R6;have h:=run_make (P:=Tryz.prog) W 136 49 i0 (.int .u64 0) Tryz.underlying136 hi0 hz0 .i64 .i64 n n (by omega) (by omega) (by rw [hz2];omega) (by omega);rw [h,Int.toNat_natCast,hz1,Nat.mul_one];congr 3
 apply Array.ext_getElem?;intro i;simp only [madeCells,Value.cells];by_cases h:i<n
 ·simp [h,Nat.mod_one]
 ·simp [h]
theorem Ud (a:Act) (hs:a.tmps.size=249) (hd:a.defers= []):∃u:Nat→Value,a=⟨(u 0::u 1::u 2::u 3::u 4::u 5::u 6::u 7::u 8::u 9::u 10::u 11::u 12::u 13::u 14::u 15::u 16::u 17::u 18::u 19::u 20::u 21::u 22::u 23::u 24::u 25::u 26::u 27::u 28::u 29::u 30::u 31::u 32::u 33::u 34::u 35::u 36::u 37::u 38::u 39::u 40::u 41::u 42::u 43::u 44::u 45::u 46::u 47::u 48::u 49::u 50::u 51::u 52::u 53::u 54::u 55::u 56::u 57::u 58::u 59::u 60::u 61::u 62::u 63::u 64::u 65::u 66::u 67::u 68::u 69::u 70::u 71::u 72::u 73::u 74::u 75::u 76::u 77::u 78::u 79::u 80::u 81::u 82::u 83::u 84::u 85::u 86::u 87::u 88::u 89::u 90::u 91::u 92::u 93::u 94::u 95::u 96::u 97::u 98::u 99::u 100::u 101::u 102::u 103::u 104::u 105::u 106::u 107::u 108::u 109::u 110::u 111::u 112::u 113::u 114::u 115::u 116::u 117::u 118::u 119::u 120::u 121::u 122::u 123::u 124::u 125::u 126::u 127::u 128::u 129::u 130::u 131::u 132::u 133::u 134::u 135::u 136::u 137::u 138::u 139::u 140::u 141::u 142::u 143::u 144::u 145::u 146::u 147::u 148::u 149::u 150::u 151::u 152::u 153::u 154::u 155::u 156::u 157::u 158::u 159::u 160::u 161::u 162::u 163::u 164::u 165::u 166::u 167::u 168::u 169::u 170::u 171::u 172::u 173::u 174::u 175::u 176::u 177::u 178::u 179::u 180::u 181::u 182::u 183::u 184::u 185::u 186::u 187::u 188::u 189::u 190::u 191::u 192::u 193::u 194::u 195::u 196::u 197::u 198::u 199::u 200::u 201::u 202::u 203::u 204::u 205::u 206::u 207::u 208::u 209::u 210::u 211::u 212::u 213::u 214::u 215::u 216::u 217::u 218::u 219::u 220::u 221::u 222::u 223::u 224::u 225::u 226::u 227::u 228::u 229::u 230::u 231::u 232::u 233::u 234::u 235::u 236::u 237::u 238::u 239::u 240::u 241::u 242::u 243::u 244::u 245::u 246::u 247::u 248::[]).toArray,[]⟩:=by
 obtain ⟨u,h⟩:=Pg 249 a hs hd;exact ⟨u,h⟩
noncomputable def Kl (k:Nat):Code:=((Tryz.f50.body.map Nl).getD []).getD k .skip
structure VW (w wr:World) (gk gh gm:Nat) (hs:List Value) (ms:List UInt8):Prop where
 below:Below w.heap.size w wr
 res:Ia wr w.heap.size (List.replicate 64 (Fa 0)) 26
 ks:Ia wr gk (Ln.map qa) 49
 ch:Ia wr gh hs 49
 row:Row wr wr.heap.size (some ⟨gm,0,none⟩) ms
 o1:w.heap.size<gk
 o2:gk<gh
 o3:gh<gm
 o4:gm<wr.heap.size
section
variable {w wr wr':World} {gk gh gm:Nat} {hs:List Value} {ms:List UInt8}
theorem VW.drew (h:VW w wr gk gh gm hs ms):VW w wr.drew gk gh gm hs ms:=⟨h.below.drew,h.res,h.ks,h.ch,h.row,h.o1,h.o2,h.o3,h.o4⟩
theorem VW.drewN (h:VW w wr gk gh gm hs ms) (n:Nat):VW w (wr.drewN n) gk gh gm hs ms:=⟨below_drewN h.below n,h.res,h.ks,h.ch,h.row,h.o1,h.o2,h.o3,h.o4⟩
theorem VW.alloc (h:VW w wr gk gh gm hs ms) (o:Obj):VW w (wr.alloc o) gk gh gm hs ms:=
 ⟨h.below.alloc h.below.size o,h.res.alloc o,h.ks.alloc o,h.ch.alloc o,h.row.on ((Below.refl _ _).alloc (Xaj _) o),h.o1,h.o2,h.o3,by have :=h.o4;simp;omega⟩
theorem VW.but (h:VW w wr gk gh gm hs ms) {g:Nat} (hb:But g wr wr') (hg:gm<g):VW w wr' gk gh gm hs ms:=by
 have h1:=h.o1;have h2:=h.o2;have h3:=h.o3;exact ⟨h.below.trans (hb.below (by omega) h.below.size),h.res.but hb (by omega),h.ks.but hb (by omega),h.ch.but hb (by omega),h.row.but hb (fun _ p hp=>by cases hp;show gm≠g;omega),h1,h2,h3,Waj h.o4 hb.size⟩
theorem VW.chain (h:VW w wr gk gh gm hs ms) (j:Nat) (v:Value):VW w (wr.setCell ⟨gh,j,none⟩ v) gk gh gm (hs.set j v) ms:=by
 have h1:=h.o1;have h2:=h.o2;have h3:=h.o3;have hb:But gh wr (wr.setCell ⟨gh,j,none⟩ v):=(But.refl gh wr).setCell j v;exact ⟨h.below.trans (hb.below (by omega) h.below.size),h.res.but hb (by omega),h.ks.but hb (by omega),h.ch.set j v,h.row.but hb (fun _ p hp=>by cases hp;show gm≠gh;omega),h1,h2,h3,Waj h.o4 hb.size⟩
end
def Lf (w:World) (gk gh gm cm N:Nat):List (Nat×Value):=[(2,.pointer (some ⟨w.heap.size,0,none⟩)),(3,.slice (some ⟨gk,0,none⟩) 80 80),(4,.slice (some ⟨gh,0,none⟩) 8 8),(5,.slice (some ⟨gm,0,none⟩) (128*N) cm)]
def VI2 (w:World) (gk gh gm cm N gw p0:Nat) (hs:List Value) (ms bk:List UInt8) (a:Act) (wr:World):Prop:=
 ∃t:Nat,t≤80∧Fr 249 ([(6,.int .i64 (p0:Int)),(7,.slice (some ⟨gw,0,none⟩) 80 80),(8,.int .i64 (t:Int))]++Lf w gk gh gm cm N) a∧VW w wr gk gh gm hs ms∧Ia wr gw (Zd bk t) 49
def S6 (a:Act) (_:World):Nat:=80-(intOf (a.tmps.getD 8 undef)).toNat
def Ug (bk:List UInt8) (t i:Nat):List Value:=(Zd bk t).set t (qa (BitVec.ofNat 64 (Zf ((bk.drop (8*t)).take i))))
theorem ZE (bk:List UInt8) (t:Nat) (h:t<80):Ug bk t 0=Zd bk t:=by
 unfold Ug;rw [List.take_zero,Zd];obtain ⟨m,hm⟩:∃m,80-t=m+1:=⟨80-t-1,by omega⟩;rw [hm,List.replicate_succ,List.set_append_right _ _ (by rw [Uaj,Bd];exact Xaj _),Uaj,Bd,Nat.sub_self];rfl
theorem OK (bk:List UInt8) (t:Nat) (h:t<16):Ug bk t 8=Zd bk (t+1):=Ml bk t (by omega) _ (by rw [if_pos h];rfl)
theorem MP (bk:List UInt8) (t i:Nat) (h:t<80):(Ug bk t i)[t]? =some (qa (BitVec.ofNat 64 (Zf ((bk.drop (8*t)).take i)))):=by
 rw [Ug,List.getElem?_set_self (by rw [Wf _ _ (by omega)];exact h)]
theorem xE (bk:List UInt8) (t i:Nat) (v:Value):(Ug bk t i).set t v=(Zd bk t).set t v:=by rw [Ug,List.set_set]
theorem AU (l:List UInt8) (u:UInt8):IntKind.u64.wrap (IntKind.u64.wrap (((BitVec.ofNat 64 (Zf l)).toNat:Int)*256)+IntKind.u64.wrap (u.toNat:Int))=((BitVec.ofNat 64 (Zf (l++[u]))).toNat:Int):=by
 rw [IntKind.wrap_u64,IntKind.wrap_u64,IntKind.wrap_u64,Lm,BitVec.toNat_ofNat,BitVec.toNat_ofNat];omega
def VIg (w:World) (gk gh gm cm N gw p0 t:Nat) (hs:List Value) (ms bk:List UInt8) (a:Act) (wr:World):Prop:=
 ∃i:Nat,i≤8∧Fr 249 ([(6,.int .i64 (p0:Int)),(7,.slice (some ⟨gw,0,none⟩) 80 80),(8,.int .i64 (t:Int)),(9,.int .i64 (i:Int))]++Lf w gk gh gm cm N) a∧VW w wr gk gh gm hs ms∧Ia wr gw (Ug bk t i) 49
def Iae (a:Act) (_:World):Nat:=8-(intOf (a.tmps.getD 9 undef)).toNat
theorem Iaa (w wr:World) (gk gh gm cm N gw p0 t i:Nat) (hs:List Value) (ms bk:List UInt8) (a:Act) (Q0:Exit→Act→World→Prop) (hN:N≤10000) (hml:ms.length=128*N) (hp:p0+128≤128*N) (hgw:gm<gw)
 (hbk:bk=(ms.drop p0).take 128) (ht:t<16) (hi:i<8)
 (hF:Fr 249 ([(6,.int .i64 (p0:Int)),(7,.slice (some ⟨gw,0,none⟩) 80 80),(8,.int .i64 (t:Int)),(9,.int .i64 (i:Int))]++Lf w gk gh gm cm N) a) (hW:VW w wr gk gh gm hs ms) (hS:Ia wr gw (Ug bk t i) 49):
 Code.wp Tryz.prog (Kl 2) (Exit.then (fun a' w'=>VIg w gk gh gm cm N gw p0 t hs ms bk a' w'∧Iae a' w'<Iae a wr) Q0) a wr:=by
 have hq:p0+8*t+i<ms.length:=by omega
 obtain ⟨_,_,e1,hb,hc0⟩:=hW.row.atD (p0+8*t+i) hq;cases e1
 rw [Nat.zero_add] at hc0;have HT:Hid ((bk.drop (8*t)).take (i+1)=(bk.drop (8*t)).take i++[ms.getD (p0+8*t+i) 0]):=by
  show _=_;have hlb:i<(bk.drop (8*t)).length:=by rw [hbk,List.length_drop,zaj,List.length_drop];omega
  rw [Nd _ i hlb,Z7 ms _ hq];congr 2
  subst hbk;simp [Nat.add_assoc]
 have HP:Hid (p0+8*t+i<128*N):=by show _<_;omega
 have cS:=hS.get (MP bk t i (by omega));have HG:=Lib.hid (AU ((bk.drop (8*t)).take i) (ms.getD (p0+8*t+i) 0));generalize ms.getD (p0+8*t+i) 0=x0 at *;generalize hxw:BitVec.ofNat 64 (Zf ((bk.drop (8*t)).take i))=xw at *;have HML:=Lib.hid hml;have HBK:=Lib.hid hbk;replace hxw:=Lib.hid hxw;clear hml hbk hq;obtain ⟨hs0,hd0,h6,h7,h8,h9,h2,h3,h4,h5,_⟩:=hF;obtain ⟨u,rfl⟩:=Ud a hs0 hd0;clear hs0 hd0;change u 6=_ at h6;change u 7=_ at h7;change u 8=_ at h8;change u 9=_ at h9;change u 2=_ at h2;change u 3=_ at h3;change u 4=_ at h4;change u 5=_ at h5;rw [h6,h7,h8,h9,h2,h3,h4,h5];clear h6 h7 h8 h9 h2 h3 h4 h5
 conv=>arg 2;whnf
 go_wp2_with fail
 refine Ad 19 (by kernel_rfl) (by kernel_rfl) ?_;intro w5 hw5;have hW2:VW w w5 gk gh gm hs ms:=by rw [hw5];exact hW.drew
 have hS2:Ia w5 gw (Ug bk t i) 49:=by rw [hw5];exact hS
 have d0:w5.cell? ⟨gm,p0+8*t+i,none⟩=some (Fa x0):=by rw [hw5];exact hc0
 have dS:w5.cell? ⟨gw,t,none⟩=some (qa xw):=by rw [hw5];exact cS
 clear hw5 hW hS hc0 cS;have df:=hS2.frozen t;have i0:(0:Int)≤(p0:Int)+8*(t:Int):=by omega
 have i1:(0:Int)≤(p0:Int)+8*(t:Int)+(i:Int):=by omega
 have j1:(p0:Int)+8*(t:Int)+(i:Int)<128*(N:Int):=by have :=HP.out;omega
 have n1:((p0:Int)+8*(t:Int)+(i:Int)).toNat=p0+8*t+i:=by omega
 have it:(t:Int)<80:=by omega
 have s8:IntKind.i64.wrap (8*(t:Int))=8*(t:Int):=IntWalk.i64_in _ (by omega);have s0:IntKind.i64.wrap ((p0:Int)+8*(t:Int))=(p0:Int)+8*(t:Int):=IntWalk.i64_in _ (by omega);have s1:IntKind.i64.wrap ((p0:Int)+8*(t:Int)+(i:Int))=(p0:Int)+8*(t:Int)+(i:Int):=IntWalk.i64_in _ (by omega);simp only [List.take_succ_cons,List.take_zero,List.drop_succ_cons,List.drop_zero];repeat still_step
 clear s1 s0 s8;refine wpStill_nil ?_
 go_wp2
 rw [HG.out];refine ⟨⟨i+1,by omega,⟨rfl,rfl,rfl,rfl,rfl,by show Value.int .i64 ((i:Int)+1)=_;go_num,rfl,rfl,rfl,rfl,trivial⟩,hW2.but ((But.refl gw w5).setCell t _) hgw,?_⟩,?_⟩
 ·have h:=hS2.set t (qa (BitVec.ofNat 64 (Zf ((bk.drop (8*t)).take i++[x0]))));rw [xE,←HT.out] at h;rw [←HT.out];exact h
 ·show 8-((i:Int)+1).toNat<8-((i:Int)).toNat;omega
def VXg (w:World) (gk gh gm cm N gw p0 t:Nat) (hs:List Value) (ms bk:List UInt8) (a:Act) (wr:World):Prop:=
 Fr 249 ([(6,.int .i64 (p0:Int)),(7,.slice (some ⟨gw,0,none⟩) 80 80),(8,.int .i64 (t:Int))]++Lf w gk gh gm cm N) a∧VW w wr gk gh gm hs ms∧Ia wr gw (Zd bk (t+1)) 49
theorem Jae (w wr:World) (gk gh gm cm N gw p0 t:Nat) (hs:List Value) (ms bk:List UInt8) (a:Act) (Q0:Exit→Act→World→Prop) (hN:N≤10000) (hml:ms.length=128*N) (hp:p0+128≤128*N) (hgw:gm<gw) (hbk:bk=(ms.drop p0).take 128) (ht:t<16)
 (hI:VIg w gk gh gm cm N gw p0 t hs ms bk a wr) (hX:∀a wr,VXg w gk gh gm cm N gw p0 t hs ms bk a wr→Q0 (.exit 4) a wr):Code.wp Tryz.prog (Code.loop (Kl 2)) Q0 a wr:=by
 refine wp_loop (VIg w gk gh gm cm N gw p0 t hs ms bk) Iae hI ?_;clear hI a wr;rintro a wr ⟨i,hi,hF,hW,hS⟩;by_cases h1:i<8
 ·exact Iaa w wr gk gh gm cm N gw p0 t i hs ms bk a Q0 hN hml hp hgw hbk ht h1 hF hW hS
 obtain rfl:i=8:=by omega
 rw [OK bk t ht] at hS;have HX:=Lib.hid hX;clear hX;obtain ⟨hs0,hd0,h6,h7,h8,h9,h2,h3,h4,h5,_⟩:=hF;obtain ⟨u,rfl⟩:=Ud a hs0 hd0;clear hs0 hd0;change u 6=_ at h6;change u 7=_ at h7;change u 8=_ at h8;change u 9=_ at h9;change u 2=_ at h2;change u 3=_ at h3;change u 4=_ at h4;change u 5=_ at h5;rw [h6,h7,h8,h9,h2,h3,h4,h5];clear h6 h7 h8 h9 h2 h3 h4 h5
 conv=>arg 2;whnf
 go_wp2
 exact HX.out _ _ ⟨⟨rfl,rfl,rfl,rfl,rfl,rfl,rfl,rfl,rfl,trivial⟩,hW,hS⟩
theorem T6 (w wr:World) (gk gh gm cm N gw p0 t:Nat) (hs:List Value) (ms bk:List UInt8) (a:Act) (Q0:Exit→Act→World→Prop) (hN:N≤10000) (hml:ms.length=128*N) (hp:p0+128≤128*N) (hgw:gm<gw)
 (hbk:bk=(ms.drop p0).take 128) (ht:t<16)
 (hF:Fr 249 ([(6,.int .i64 (p0:Int)),(7,.slice (some ⟨gw,0,none⟩) 80 80),(8,.int .i64 (t:Int))]++Lf w gk gh gm cm N) a) (hW:VW w wr gk gh gm hs ms) (hS:Ia wr gw (Zd bk t) 49):
 Code.wp Tryz.prog (Kl 1) (Exit.then (fun a' w'=>VI2 w gk gh gm cm N gw p0 hs ms bk a' w'∧S6 a' w'<S6 a wr) Q0) a wr:=by
 have HML:=Lib.hid hml;have HBK:=Lib.hid hbk;clear hml hbk;rw [←ZE bk t (by omega)] at hS;obtain ⟨hs0,hd0,h6,h7,h8,h2,h3,h4,h5,_⟩:=hF;obtain ⟨u,rfl⟩:=Ud a hs0 hd0;clear hs0 hd0;change u 6=_ at h6;change u 7=_ at h7;change u 8=_ at h8;change u 2=_ at h2;change u 3=_ at h3;change u 4=_ at h4;change u 5=_ at h5;rw [h6,h7,h8,h2,h3,h4,h5];clear h6 h7 h8 h2 h3 h4 h5
 conv=>arg 2;whnf
 go_wp2_with fail
 refine Jae w wr gk gh gm cm N gw p0 t hs ms bk _ _ hN HML.out hp hgw HBK.out ht ⟨0,by omega,⟨rfl,rfl,rfl,rfl,rfl,rfl,rfl,rfl,rfl,rfl,trivial⟩,hW,hS⟩ ?_;clear hW hS;rintro a5 w5 ⟨hF,hW,hS⟩;obtain ⟨hs0,hd0,h6,h7,h8,h2,h3,h4,h5,-⟩:=hF;obtain ⟨u,rfl⟩:=Ud a5 hs0 hd0;clear hs0 hd0;change u 6=_ at h6;change u 7=_ at h7;change u 8=_ at h8;change u 2=_ at h2;change u 3=_ at h3;change u 4=_ at h4;change u 5=_ at h5;rw [h6,h7,h8,h2,h3,h4,h5];clear h6 h7 h8 h2 h3 h4 h5;go_wp2_with fail
 refine ⟨⟨t+1,by omega,⟨rfl,rfl,rfl,rfl,by show Value.int .i64 ((t:Int)+1)=_;go_num,rfl,rfl,rfl,rfl,trivial⟩,hW,hS⟩,?_⟩;show 80-((t:Int)+1).toNat<80-((t:Int)).toNat;omega
theorem U6 (w wr:World) (gk gh gm cm N gw p0 t:Nat) (hs:List Value) (ms bk:List UInt8) (a:Act) (Q0:Exit→Act→World→Prop) (hgw:gm<gw) (ht:16≤t) (ht2:t<80)
 (hF:Fr 249 ([(6,.int .i64 (p0:Int)),(7,.slice (some ⟨gw,0,none⟩) 80 80),(8,.int .i64 (t:Int))]++Lf w gk gh gm cm N) a) (hW:VW w wr gk gh gm hs ms) (hS:Ia wr gw (Zd bk t) 49):
 Code.wp Tryz.prog (Kl 1) (Exit.then (fun a' w'=>VI2 w gk gh gm cm N gw p0 hs ms bk a' w'∧S6 a' w'<S6 a wr) Q0) a wr:=by
 have c15:=hS.get (Fi bk t (t-15) (by omega));have c2:=hS.get (Fi bk t (t-2) (by omega));have c16:=hS.get (Fi bk t (t-16) (by omega));have c7:=hS.get (Fi bk t (t-7) (by omega));have HX2:Hid (Zq (Vb bk t) t=(Vb bk t).getD (t-16) 0+KA ((Vb bk t).getD (t-15) 0)+(Vb bk t).getD (t-7) 0+Xt ((Vb bk t).getD (t-2) 0)):=rfl;generalize (Vb bk t).getD (t-15) 0=x15 at *;generalize (Vb bk t).getD (t-2) 0=x2 at *;generalize (Vb bk t).getD (t-16) 0=x16 at *;generalize (Vb bk t).getD (t-7) 0=x7 at *;have i15:(0:Int)≤(t:Int)-15:=by omega
 have j15:(t:Int)-15<80:=by omega
 have t15:((t:Int)-15).toNat=t-15:=by omega
 have i2:(0:Int)≤(t:Int)-2:=by omega
 have j2:(t:Int)-2<80:=by omega
 have t2:((t:Int)-2).toNat=t-2:=by omega
 have i16:(0:Int)≤(t:Int)-16:=by omega
 have j16:(t:Int)-16<80:=by omega
 have t16:((t:Int)-16).toNat=t-16:=by omega
 have i7:(0:Int)≤(t:Int)-7:=by omega
 have j7:(t:Int)-7<80:=by omega
 have t7:((t:Int)-7).toNat=t-7:=by omega
 obtain ⟨hs0,hd0,h6,h7,h8,h2,h3,h4,h5,_⟩:=hF;obtain ⟨u,rfl⟩:=Ud a hs0 hd0;clear hs0 hd0;change u 6=_ at h6;change u 7=_ at h7;change u 8=_ at h8;change u 2=_ at h2;change u 3=_ at h3;change u 4=_ at h4;change u 5=_ at h5;rw [h6,h7,h8,h2,h3,h4,h5];clear h6 h7 h8 h2 h3 h4 h5
 conv=>arg 2;whnf
 go_wp2
 go_quiet (fail)
 go_wp2_with fail
 refine Ad 32 (by kernel_rfl) (by kernel_rfl) ?_;intro w5 hw5;have hW2:VW w w5 gk gh gm hs ms:=by rw [hw5];exact (hW.drewN nq).drew
 have hS2:Ia w5 gw (Zd bk t) 49:=by rw [hw5];exact hS
 have d16:w5.cell? ⟨gw,t-16,none⟩=some (qa x16):=by rw [hw5];exact c16
 have d7:w5.cell? ⟨gw,t-7,none⟩=some (qa x7):=by rw [hw5];exact c7
 clear hw5 hW hS c15 c2 c16 c7;have df:=hS2.frozen t;obtain ⟨v4,dc3⟩:∃v,w5.cell? ⟨gw,t,none⟩=some v:=⟨_,hS2.cell t (by rw [Wf _ _ (by omega)];omega)⟩;have it:(t:Int)<80:=by omega
 have s16:IntKind.i64.wrap ((t:Int)-16)=(t:Int)-16:=IntWalk.i64_in _ (by omega);have s7:IntKind.i64.wrap ((t:Int)-7)=(t:Int)-7:=IntWalk.i64_in _ (by omega);have m16:(16:Int)≤(t:Int):=by omega
 have m7:(7:Int)≤(t:Int):=by omega
 simp only [List.take_succ_cons,List.take_zero,List.drop_succ_cons,List.drop_zero];have q17:=Tk x2 19 w5 (by omega) (by omega);have q19:=Tk x2 61 w5 (by omega) (by omega);have q7:=Tk x15 1 w5 (by omega) (by omega);have q18:=Tk x15 8 w5 (by omega) (by omega)
 iterate 3 still_step
 still_call q17
 still_step
 still_call q19
 iterate 11 still_step
 still_call q7
 still_step
 still_call q18
 iterate 12 still_step
 clear s16 s7 q17 q19 q7 q18;refine wpStill_nil ?_
 go_wp2
 have e7:=DF x15 7;have e6:=DF x2 6;rw [show (2:Int)^7=128 from rfl] at e7;rw [show (2:Int)^6=64 from rfl] at e6;rw [e7,e6,Uk,Uk,Uk,Uk,Vh,Vh,Vh];refine ⟨⟨t+1,by omega,⟨rfl,rfl,rfl,rfl,by show Value.int .i64 ((t:Int)+1)=_;go_num,rfl,rfl,rfl,rfl,trivial⟩,hW2.but ((But.refl gw w5).setCell t _) hgw,?_⟩,?_⟩
 ·have h:=hS2.set t (qa (Zq (Vb bk t) t));rw [Ml bk t (by omega) _ (by rw [if_neg (by omega)]),HX2.out] at h;rw [DZ];exact h
 ·show 80-((t:Int)+1).toNat<80-((t:Int)).toNat;omega
def VX2 (w:World) (gk gh gm cm N gw p0:Nat) (hs:List Value) (ms bk:List UInt8) (a:Act) (wr:World):Prop:=
 Fr 249 ([(6,.int .i64 (p0:Int)),(7,.slice (some ⟨gw,0,none⟩) 80 80)]++Lf w gk gh gm cm N) a∧VW w wr gk gh gm hs ms∧Ia wr gw (Zd bk 80) 49
theorem Kae (w wr:World) (gk gh gm cm N gw p0:Nat) (hs:List Value) (ms bk:List UInt8) (a:Act) (Q0:Exit→Act→World→Prop) (hN:N≤10000) (hml:ms.length=128*N) (hp:p0+128≤128*N) (hgw:gm<gw) (hbk:bk=(ms.drop p0).take 128)
 (hI:VI2 w gk gh gm cm N gw p0 hs ms bk a wr) (hX:∀a wr,VX2 w gk gh gm cm N gw p0 hs ms bk a wr→Q0 (.exit 2) a wr):Code.wp Tryz.prog (Code.loop (Kl 1)) Q0 a wr:=by
 refine wp_loop (VI2 w gk gh gm cm N gw p0 hs ms bk) S6 hI ?_;clear hI a wr;rintro a wr ⟨t,ht,hF,hW,hS⟩;by_cases h1:t<16
 ·exact T6 w wr gk gh gm cm N gw p0 t hs ms bk a Q0 hN hml hp hgw hbk h1 hF hW hS
 by_cases h2:t<80
 ·exact U6 w wr gk gh gm cm N gw p0 t hs ms bk a Q0 hgw (by omega) h2 hF hW hS
 obtain rfl:t=80:=by omega
 have HX:=Lib.hid hX;clear hX;obtain ⟨hs0,hd0,h6,h7,h8,h2,h3,h4,h5,_⟩:=hF;obtain ⟨u,rfl⟩:=Ud a hs0 hd0;clear hs0 hd0;change u 6=_ at h6;change u 7=_ at h7;change u 8=_ at h8;change u 2=_ at h2;change u 3=_ at h3;change u 4=_ at h4;change u 5=_ at h5;rw [h6,h7,h8,h2,h3,h4,h5];clear h6 h7 h8 h2 h3 h4 h5
 conv=>arg 2;whnf
 go_wp2
 exact HX.out _ _ ⟨⟨rfl,rfl,rfl,rfl,rfl,rfl,rfl,rfl,trivial⟩,hW,hS⟩
end Go.Proofs.YtoggkhjaghkpnaaGreatDoor
