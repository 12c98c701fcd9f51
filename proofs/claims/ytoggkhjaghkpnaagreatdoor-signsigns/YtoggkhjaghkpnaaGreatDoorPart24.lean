/- Part 24 of what the laws of this seat share: AMod, AAdd, ATimes, ANegate, TLaw. -/
import Derived.StillTail
import Derived.StillTailTactics
import Derived.Lib.LaidTab
import Derived.Test.YtoggkhjaghkpnaaGreatDoorPart23
set_option maxRecDepth 100000
set_option maxHeartbeats 8000000
namespace Go.Proofs.YtoggkhjaghkpnaaGreatDoor
open Go.RowKit
theorem Iv:∀w,(zeroValue 22).run Tryz.prog w=.ok (.agg (List.replicate 32 (Fa 0)).toArray) w:=(zero_of_info (P:=Tryz.prog) (t:=22) (v:=.agg (List.replicate 32 (Fa 0)).toArray) (n:=32) (by kernel_rfl)).1
theorem Ak:(Tryz.prog.info? 22).map (·.size)=some 32:=by kernel_rfl
theorem ZY (w:World):(Instr.build 22 #[]).run Tryz.prog w=.ok (Ca (List.replicate 32 0)) w:=by kernel_rfl
def N6 (w:World):Value→Nat
 |.slice A n _=>hval ((List.range n).map (EH w A))
 |_=>0
theorem IP {w:World} {B:Nat} {A:Option Addr} {ds:List Nat} (c:Nat) (h:Ah w B A ds):N6 w (.slice A ds.length c)=hval ds:=by
 show hval ((List.range ds.length).map (EH w A))=hval ds;congr 1
 rcases h with rfl|⟨b,off,rfl,hb,hc⟩
 ·rfl
 ·apply List.ext_getElem
  ·simp
  ·intro i h1 h2;have h3:=hc i ds[i] (xaj h2);simp only [List.getElem_map,List.getElem_range,EH,h3];rfl
theorem Ia.rowFrom {w:World} {g:Nat} {l:List Nat} {rest:List Value} {t:TypeId} (h:Ia w g (l.map Gc++rest) t) (k:Nat):Ah w w.heap.size (some ⟨g,k,none⟩) (l.drop k):=
 .inr ⟨g,k,rfl,h.lt,fun j x hx=>h.get (by
  rw [List.getElem?_drop] at hx;have hl:k+j<l.length:=by
   rcases Nat.lt_or_ge (k+j) l.length with h1|h1
   ·exact h1
   ·rw [List.getElem?_eq_none h1] at hx;cases hx
  rw [List.getElem?_append_left (by rw [Uaj];exact hl),List.getElem?_map,hx];rfl)⟩
theorem Ia.intAt {w:World} {g:Nat} {l:List Nat} {rest:List Value} {t:TypeId} (h:Ia w g (l.map Gc++rest) t) (k:Nat) (hk:k<l.length):w.cell? ⟨g,k,none⟩=some (Gc (l.getD k 0)):=
 h.get (by rw [List.getElem?_append_left (by rw [Uaj];exact hk),List.getElem?_map,Yaj,xaj hk];rfl)
theorem xY (l:List Nat) (rest:List Value) (k z:Nat) (hk:k<l.length):(l.map Gc++rest).set k (Gc z)=(l.set k z).map Gc++rest:=by
 rw [List.set_append_left _ _ (by rw [Uaj];exact hk),List.map_set]
def Wl (r l:List Nat) (j:Nat):List Nat:=r.take j++(Wh (r.drop j) (l.drop j)).2
theorem JK (r l:List Nat) (h:r.length=l.length) (j:Nat) (hj:j≤r.length):(Wl r l j).length=r.length:=by
 rw [Wl,qaj,Xj _ _ (by rw [List.length_drop,List.length_drop,h]),zaj,List.length_drop];omega
theorem O6 (r l:List Nat) (j:Nat) (hj:j<r.length):(Wl r l (j+1)).getD j 0=r.getD j 0:=by
 rw [Wl,Yaj,List.getElem?_append_left (by rw [zaj];omega),List.getElem?_take,if_pos (by omega),Yaj]
theorem RV (r:List Nat) (j:Nat) (hj:j<r.length):r.drop j=r.getD j 0::r.drop (j+1):=by
 rw [List.drop_eq_getElem_cons hj,Yaj,xaj hj];rfl
theorem ZT (r l:List Nat) (h:r.length=l.length) (j:Nat) (hj:j<r.length) (x y o z:Nat) (hx:r.getD j 0=x) (hy:l.getD j 0=y) (ho:(Wh (r.drop (j+1)) (l.drop (j+1))).1=o) (hz:z=if x<y+o then x+256-y-o else x-y-o):
 (Wl r l (j+1)).set j z=Wl r l j∧(Wh (r.drop j) (l.drop j)).1=if x<y+o then 1 else 0:=by
 have e:Wh (r.drop j) (l.drop j)=(if x<y+o then 1 else 0,z::(Wh (r.drop (j+1)) (l.drop (j+1))).2):=by
  rw [RV r j hj,RV l j (by omega),hx,hy,Wh,ho,hz]
  split<;>rfl
 refine ⟨?_,by rw [e]⟩;rw [Wl,Wl,e,List.take_succ_eq_append_getElem hj,List.append_assoc,List.set_append_right _ _ (by rw [zaj];omega),zaj,Nat.min_eq_left (by omega),Nat.sub_self];rfl
theorem yY (r l:List Nat) (h:r.length=l.length):Wl r l r.length=r∧(Wh (r.drop r.length) (l.drop r.length)).1=0:=by
 rw [Wl,List.drop_length,h,List.drop_length,Zaj (by omega)];exact ⟨List.append_nil _,rfl⟩
theorem xT (r l:List Nat):Wl r l 0=(Wh r l).2:=rfl
theorem yT (r:List Nat) (hl:r.length=33) (hd:Dig r) (q k:Nat) (hk:k<33) (hv:hval r=q):r.getD (32-k) 0=(Ec q k).toNat:=by
 have h:=Pj r.reverse (fun x hx=>hd x (List.mem_reverse.1 hx)) (k+1) (by rw [List.length_reverse];omega);have h0:=Pj r.reverse (fun x hx=>hd x (List.mem_reverse.1 hx)) k (by rw [List.length_reverse];omega);have h1:=Sk r.reverse k (by rw [List.length_reverse];omega);have h2:r.reverse[k]'(by rw [List.length_reverse];omega)=r.getD (32-k) 0:=by
  rw [List.getElem_reverse,Yaj,xaj (by omega)];show r[r.length-1-k]=r[32-k];congr 1
  omega
 rw [h,h0,h2] at h1;have h3:Hc r.reverse=q:=hv;rw [h3,Nat.pow_succ,Nat.mod_mul] at h1;have h4:0<256^k:=Nat.pow_pos (by decide);have h5:q/256^k%256=r.getD (32-k) 0:=by
  have h6:256^k*(q/256^k%256)=256^k*r.getD (32-k) 0:=by omega
  exact Nat.eq_of_mul_eq_mul_left h4 h6
 rw [←h5,Ec,UInt8.toNat_ofNat',show (256:Nat)=2^8 from rfl,←Nat.pow_mul]
theorem WE (A:Option Addr) (n c:Nat) (bs:List UInt8) (T:Nat→Nat) (w:World) (HL:Hid (bs.length=n)) (hn:n≤100) (hr:Row w w.heap.size A bs) (HT0:Hid (T n=0)) (HTL:Hid (∀j,j≤n→T j<NP.LL)) (HT:Hid (∀j,j<n→T j=(T (j+1)*256+(bs.getD j 0).toNat)%NP.LL)):
 Calls Tryz.prog 32 #[.slice A n c] w (gvn (Ca (Ob (T 0) 32)) w):=by
 have hmk:=BH 33 (by decide);rw [show ((33:Nat):Int)=33 from rfl] at hmk;have hn1:IntKind.i64.wrap ((n:Int)-1)=(n:Int)-1:=IntWalk.i64_in _ (by omega);go_enter Tryz.func32,Tryz.ntmps32;go_wp2_with (first
  |(refine Ma rfl 22 rfl (List.replicate 32 (Fa 0)) Iv ?_
    intro w1 hB1 hZ1))
 have hlt1:=hZ1.lt;obtain ⟨w2,hw2⟩:∃z,z=w1.alloc (.cells (Il 33).toArray 3):=⟨_,rfl⟩;have hs2:w2.heap.size=w1.heap.size+1:=by rw [hw2];simp
 have hR2:Ia w2 w1.heap.size ((List.replicate 33 0).map Gc++[]) 3:=by rw [hw2,List.append_nil,←ND];exact Ia.new _ _ _
 have hB2:Below w.heap.size w w2:=by rw [hw2];exact hB1.alloc hB1.size _
 have hZ2:Ia w2 w.heap.size (List.replicate 32 (Fa 0)) 22:=by rw [hw2];exact hZ1.alloc _
 rw [←hw2];clear hw2 hB1 hZ1 hmk;obtain ⟨w3,hw3⟩:∃z,z=w2.alloc (.cells #[.int .i64 0] 3):=⟨_,rfl⟩;have hO3:ze w3 w2.heap.size (.slice (some ⟨w1.heap.size+1,0,none⟩) 1 1) [0]:=by rw [hw3,←hs2];exact ze.lit w2 [0] (Xaj _) (by decide)
 have hR3:Ia w3 w1.heap.size ((List.replicate 33 0).map Gc++[]) 3:=by rw [hw3];exact hR2.alloc _
 have hB3:Below w.heap.size w w3:=by rw [hw3];exact hB2.alloc hB2.size _
 have hB23:Below w2.heap.size w2 w3:=by rw [hw3];exact (Below.refl _ _).alloc (Xaj _) _
 have hZ3:Ia w3 w.heap.size (List.replicate 32 (Fa 0)) 22:=by rw [hw3];exact hZ2.alloc _
 rw [←hw3];clear hw3 hB2 hZ2 hR2;refine (Xy w3).mono ?_;rintro e w4 ⟨gm,rfl,hgm,hCm,hB34⟩;have hO4:=hO3.on hB34;have hR4:=hR3.on hB34;have hZ4:=hZ3.on hB34;have hB4:=Ba hB3 hB34;have hz4:w2.heap.size≤w4.heap.size:=Nat.le_trans hB23.size hB34.size;have hrowm:Ah w4 w4.heap.size (some ⟨gm,0,none⟩) Xo:=.inr ⟨gm,0,rfl,hCm.lt,fun j x hx=>by rw [Nat.zero_add];exact hCm.get (by rw [List.getElem?_map,hx];rfl)⟩;clear hO3 hR3 hZ3 hB3 hB34 hB23 hgm hCm;go_wp2_with (first
  |(at_builtin
    refine Wy rfl (.tmp 12) (.tmp 13) rfl w2.heap.size w4.heap.size _ [0] Xo gm 0 32 32 rfl hO4 rfl rfl hrowm (by decide) hz4 ?_;intro v5 w5 hown5 hb5))
 have hR5:=hR4.below hb5 (by omega);have hZ5:=hZ4.below hb5 (by omega);have hB5:Below w.heap.size w w5:=hB4.trans (hb5.mono (by omega));clear hR4 hZ4 hB4 hO4 hrowm hb5;obtain ⟨gl,cl,rl,rfl,hgl,hcl,hclm,hCl⟩:=hown5.cells (by decide);change Ia w5 gl ((0::Xo).map Gc++rl) 3 at hCl;change 33≤cl at hcl;rw [show (([0]:List Nat)++Xo).length=33 from rfl];clear hown5;obtain ⟨ls,HLS⟩:=qh (0::Xo);rw [HLS.out] at hCl;have HLL:Hid (ls.length=33∧Dig ls∧hval ls=NP.LL):=by rw [←HLS.out];exact ⟨rfl,LM,xB⟩
 clear HLS
 go_loopw [3,5] (fun v i wr=>∃(j g c3:Nat) (r:List Nat) (rest:List Value),j≤n∧i=.int .i64 ((j:Int)-1)∧v=.slice (some ⟨g,0,none⟩) 33 c3∧33≤c3∧w1.heap.size≤g∧g≠gl∧Hid (r.length=33∧Dig r∧hval r=T j)∧Ia wr g (r.map Gc++rest) 3∧Ia wr gl (ls.map Gc++rl) 3∧Ia wr w.heap.size (List.replicate 32 (Fa 0)) 22∧Below w.heap.size w wr) (fun _ i _=>((intOf i)+1).toNat)
 case atStart=>exact ⟨n,w1.heap.size,33,List.replicate 33 0,[],Xaj _,rfl,rfl,Xaj _,Xaj _,by omega,⟨rfl,by unfold Dig;decide,by rw [HT0.out];rfl⟩,hR5,hCl,hZ5,hB5⟩
 case round=>
  clear hR5 hCl hZ5 hB5;obtain ⟨j,g,c3,r,rest,hj,rfl,rfl,hc3,hg1,hgg,HR3,hC,hCL,hZ,hB⟩:=hrel;by_cases h0:0<j
  ·obtain ⟨k,rfl⟩:∃k,j=k+1:=⟨j-1,by omega⟩;have hlt:k<n:=by omega
   have HTk:=Lib.hid (HT.out k hlt);obtain ⟨b,off,rfl,hb,hcell⟩:=(hr.below hB).atD k (by rw [HL.out];exact hlt);have hbz:b<wr.heap.size:=Waj hb hB.size;obtain ⟨q,HQ⟩:=qh (bs.getD k 0);rw [HQ.out] at hcell HTk;have e1:(((k+1:Nat):Int)-1)=(k:Int):=by omega
   have i1:(0:Int)≤(k:Int):=by omega
   rw [e1];clear HT HT0;go_wp2_with fail
   rename_i K hKK;have hfin:∀(v22 v25 v31 v32:Value) (wf:World),ze wf wr.heap.size v32 (r.drop 1++[q.toNat])→Below wr.heap.size wr wf→K (⟨((.slice (some ⟨b,off,none⟩) n c)::undef::(.pointer (some ⟨w.heap.size,0,none⟩))::(v32)::(.slice (some ⟨gl,0,none⟩) 33 cl)::(.int .i64 (k:Int))::u6::u7::u8::undef::undef::(.slice (some ⟨w1.heap.size,0,none⟩) 33 33)::(.slice (some ⟨w1.heap.size+1,0,none⟩) 1 1)::(.slice (some ⟨gm,0,none⟩) 32 32)::(.slice (some ⟨gl,0,none⟩) 33 cl)::(.slice (some ⟨b,off,none⟩) n c)::(.int .i64 (n:Int))::(.int .i64 ((n:Int)-1))::(.int .i64 (k:Int))::(.bool true)::u20::u21::(v22)::(.slice (some ⟨g,0,none⟩) 33 c3)::(.slice (some ⟨g,1,none⟩) 32 (c3-1))::(v25)::(.slice (some ⟨b,off,none⟩) n c)::(.int .i64 (k:Int))::(.pointer (some ⟨b,off+k,none⟩))::(Fa q)::(Gc q.toNat)::(v31)::(v32)::u33::u34::u35::u36::u37::u38::u39::u40::u41::u42::u43::u44::u45::u46::u47::u48::u49::u50::u51::u52::u53::u54::u55::u56::u57::u58::undef::undef::undef::undef::undef::undef::undef::undef::undef::undef::undef::undef::undef::undef::[]).toArray,[]⟩:Act) wf:=by
    intro v22 v25 v31 v32 wf hown hBf;refine hKK _ _ ?_;clear hKK K;have hlen:(r.drop 1++[q.toNat]).length=33:=by rw [qaj,List.length_drop,HR3.out.1];rfl
    obtain ⟨g2,c2,rest2,rfl,hg2,hc2,hc2m,hC2⟩:=hown.cells (by rw [hlen];decide);rw [hlen] at hc2 ⊢;have hB6:Below w.heap.size w wf:=Ba hB hBf;have hZ6:=hZ.on hBf;have hL6:=hCL.on hBf;have hne2:g2≠gl:=by have :=hCL.lt;omega
    have hge2:w1.heap.size≤g2:=by have :=hC.lt;omega
    obtain ⟨r2,HN2⟩:=qh (r.drop 1++[q.toNat]);have HV2:Hid (r2.length=33∧Dig r2∧hval r2%NP.LL=T k):=by
     obtain ⟨h1,h2,h3⟩:=HR3.out;rw [←HN2.out];refine ⟨hlen,(h2.drop 1).snoc q.toNat_lt,?_⟩;rw [PX h1 h2 (by rw [h3];exact HTL.out (k+1) (by omega)),h3,HTk.out]
    rw [HN2.out] at hC2;clear hown hBf hB hZ hCL hC HR3 HN2 hlen hcell hb hbz HTk;go_wp2_with fail
    go_loopw [6,7,8] (fun _ _ _ wr=>∃r:List Nat,Hid (r.length=33∧Dig r∧hval r%NP.LL=T k)∧Ia wr g2 (r.map Gc++rest2) 3∧Ia wr gl (ls.map Gc++rl) 3∧Ia wr w.heap.size (List.replicate 32 (Fa 0)) 22∧Below w.heap.size w wr) (fun _ _ _ wr=>N6 wr (.slice (some ⟨g2,0,none⟩) 33 c2))
    case atStart=>exact ⟨r2,HV2,hC2,hL6,hZ6,hB6⟩
    case round=>
     clear hC2 hL6 hZ6 hB6 HV2;obtain ⟨r,HR,hC,hCL,hZ,hB⟩:=hrel;have CL:=L6 (some ⟨g2,0,none⟩) c2 r wr HR.out.1 HR.out.2.1 (hC.rowFrom 0);have HNH:Hid (N6 wr (.slice (some ⟨g2,0,none⟩) 33 c2)=hval r):=by
      show _=_;have :=IP c2 (hC.rowFrom 0);rw [List.drop_zero,HR.out.1] at this;exact this
     obtain ⟨lb,HLB⟩:=qh (decide (hval r<NP.LL));rw [HLB.out] at CL;go_wp2_with fail
     refine CL.mono ?_;rintro e wa ⟨rfl,hba⟩;have hBa:=Ba hB hba;have hCa:=hC.on hba;have hCLa:=hCL.on hba;have hZa:=hZ.on hba;clear CL hB hC hCL hZ hba;cases lb
     ·have hnl:¬hval r<NP.LL:=of_decide_eq_false HLB.out;have HNL:=Lib.hid hnl;clear hnl HLB;go_wp2_with fail
      go_loopw [6,7,8] (fun o i _ wr=>∃j:Nat,j≤33∧o=.int .i64 (((Wh (r.drop j) (ls.drop j)).1:Nat):Int)∧i=.int .i64 ((j:Int)-1)∧Ia wr g2 ((Wl r ls j).map Gc++rest2) 3∧Ia wr gl (ls.map Gc++rl) 3∧Ia wr w.heap.size (List.replicate 32 (Fa 0)) 22∧Below w.heap.size w wr) (fun _ i _ _=>((intOf i)+1).toNat)
      case atStart=>
       obtain ⟨s1,s2⟩:=yY r ls (HR.out.1.trans HLL.out.1.symm);rw [HR.out.1] at s1 s2;exact ⟨33,Xaj _,by rw [s2];rfl,rfl,by rw [s1];exact hCa,hCLa,hZa,hBa⟩
      case round=>
       clear hCa hCLa hZa hBa;obtain ⟨j,hj,rfl,rfl,hC,hCL,hZ,hB⟩:=hrel;by_cases h0:0<j
       ·obtain ⟨m,rfl⟩:∃m,j=m+1:=⟨j-1,by omega⟩;have hm:m<33:=by omega
        have e1:(((m+1:Nat):Int)-1)=(m:Int):=by omega
        have i1:(0:Int)≤(m:Int):=by omega
        have i2:(m:Int)<33:=by omega
        have i3:IntKind.i64.wrap ((m:Int)-1)=(m:Int)-1:=IntWalk.i64_in _ (by omega);rw [e1];have hlr:(Wl r ls (m+1)).length=33:=by rw [JK r ls (HR.out.1.trans HLL.out.1.symm) _ (by rw [HR.out.1];omega)];exact HR.out.1
        have d1:=hC.intAt m (by rw [hlr];exact hm);rw [O6 r ls m (by rw [HR.out.1];exact hm)] at d1;have d2:=hCL.intAt m (by rw [HLL.out.1];exact hm);have d3:=hC.frozen m;have hx:=HR.out.2.1.at m;have hy:=HLL.out.2.1.at m;have ho:=Ru (r.drop (m+1)) (ls.drop (m+1));have HST:=fun z hz=>Lib.hid (ZT r ls (HR.out.1.trans HLL.out.1.symm) m (by rw [HR.out.1];exact hm) _ _ _ z rfl rfl rfl hz);have hSA:=fun z:Nat=>xY (Wl r ls (m+1)) rest2 m z (by rw [hlr];exact hm);clear hlr;generalize r.getD m 0=x at *;generalize ls.getD m 0=y at *;generalize (Wh (r.drop (m+1)) (ls.drop (m+1))).1=o at *;obtain ⟨d1',hd1⟩:=qh ((x:Int)-(y:Int));have j1:IntKind.i64.wrap ((x:Int)-(y:Int))=d1':=by rw [←hd1.out];exact IntWalk.i64_in _ (by omega)
        have hd2:d1'=(x:Int)-(y:Int):=hd1.out.symm;have HD:=Lib.hid hd2;clear hd1 hd2;have hge:w.heap.size≤g2:=by omega
        have hnez:w.heap.size≠g2:=by omega
        by_cases hlt2:x<y+o
        ·obtain ⟨d2',hd2⟩:=qh (d1'-(o:Int));have j2:IntKind.i64.wrap (d1'-(o:Int))=d2':=by rw [←hd2.out,HD.out];exact IntWalk.i64_in _ (by omega)
         have j3:d2'<0:=by rw [←hd2.out,HD.out];omega
         obtain ⟨z,hz⟩:∃z,z=x+256-y-o:=⟨_,rfl⟩;have j4:IntKind.i64.wrap (d2'+256)=(z:Int):=by rw [hz,←hd2.out,HD.out,IntWalk.i64_in _ (by omega)];omega
         have T1:=HST z (by rw [if_pos hlt2];exact hz);rw [if_pos hlt2] at T1;have S1:=Lib.hid (hSA z);clear HST hSA hz hx hy ho hlt2;go_wp2_with fail
         go_quiet (fail)
         go_wp2_with fail
         go_roundw
         case rel=>exact ⟨m,by omega,by rw [T1.out.2];rfl,rfl,by rw [←T1.out.1,←S1.out];exact (hC.drewN nq).set m _,(hCL.drewN nq).other (Ne.symm hne2) _,(hZ.drewN nq).other hnez _,(below_drewN hB nq).setCell (p:=⟨g2,m,none⟩) hge _⟩
         case measure=>simp [intOf]<;>omega
        ·obtain ⟨z,hz⟩:∃z,z=x-y-o:=⟨_,rfl⟩;obtain ⟨d2',hd2⟩:=qh (z:Int);have j2:IntKind.i64.wrap (d1'-(o:Int))=d2':=by rw [←hd2.out,hz,HD.out,IntWalk.i64_in _ (by omega)];omega
         have J3:=Lib.hid (FP d2' false (decide_eq_false (by rw [←hd2.out];omega)));have T1:=HST z (by rw [if_neg hlt2];exact hz);rw [if_neg hlt2] at T1;have S1:=Lib.hid (hSA z);clear HST hSA hz hx hy ho hlt2;go_wp2_with fail
         go_quiet (fail)
         go_wp2_with (first
          |(refine YY rfl .lss 3 _ (.tmp 51) (.const (.int .i64 0)) rfl (.int .i64 d2') (.int .i64 0) (.bool false) rfl rfl (fun w=>XT d2' w _ _) J3.out ?_
            try simp only [La]
            skip))
         go_roundw
         case rel=>
          rw [←hd2.out];exact ⟨m,by omega,by rw [T1.out.2];rfl,rfl,by rw [←T1.out.1,←S1.out];exact (hC.drewN nq).set m _,(hCL.drewN nq).other (Ne.symm hne2) _,(hZ.drewN nq).other hnez _,(below_drewN hB nq).setCell (p:=⟨g2,m,none⟩) hge _⟩
         case measure=>simp [intOf]<;>omega
       ·obtain rfl:j=0:=by omega
        rw [show (((0:Nat):Int)-1)= -1 from rfl];rw [xT] at hC;have HV:Hid (hval (Wh r ls).2=hval r-NP.LL):=by
         have :=OX (HR.out.1.trans HLL.out.1.symm) HR.out.2.1 HLL.out.2.1 (by rw [HLL.out.2.2];exact Nat.le_of_not_lt HNL.out);rw [HLL.out.2.2] at this;exact this
        have HS:Hid ((Wh r ls).2.length=33∧Dig (Wh r ls).2):=⟨(Xj r ls (HR.out.1.trans HLL.out.1.symm)).trans HR.out.1,ZB r ls HR.out.2.1 HLL.out.2.1⟩;generalize (Wh r ls).2=s at *;go_wp2_with fail
        go_roundw
        case rel=>exact ⟨s,⟨HS.out.1,HS.out.2,by rw [HV.out,←Nat.mod_eq_sub_mod (Nat.le_of_not_lt HNL.out)];exact HR.out.2.2⟩,hC,hCL,hZ,hB⟩
        case measure=>
         have h1:=IP c2 (hC.rowFrom 0);rw [List.drop_zero,HS.out.1] at h1;have h2:=HNL.out;have h3:0<NP.LL:=by decide
         show N6 _ _<N6 _ _;rw [h1,HNH.out,HV.out];omega
     ·have hlv:hval r=T k:=by
       have h1:hval r<NP.LL:=of_decide_eq_true HLB.out;rw [←HR.out.2.2,yaj h1]
      have HV:=Lib.hid hlv;have i3:IntKind.i64.wrap ((k:Int)-1)=(k:Int)-1:=IntWalk.i64_in _ (by omega);clear hlv;go_wp2_with fail
      go_roundw
      case rel=>exact ⟨k,g2,c2,r,rest2,by omega,rfl,rfl,hc2,hge2,hne2,⟨HR.out.1,HR.out.2.1,HV.out⟩,hCa,hCLa,hZa,hBa⟩
      case measure=>simp [intOf]<;>omega
   have hBd:Below wr.heap.size wr wr.drew:=⟨rfl,rfl,rfl,Xaj _,fun _ _=>rfl⟩;have hCd:Ia wr.drew g (r.map Gc++rest) 3:=hC.drew;refine wp_region_any (by kernel_rfl) ?_;refine wpAny_of_held (S:=fun w'=>Below wr.heap.size wr w') _ _ _ _ ?_;show wpAnyH _ _ _ _ _ _ _ _ wr.drew;simp only [List.size_toArray,List.length_cons,List.length_nil,Nat.reduceAdd,Array.replicate_succ,Array.replicate_zero,List.push_toArray,List.nil_append,List.cons_append];generalize wr.drew=wd at *;refine wpAnyH_take (i:=1) (oi:=⟨some 23,_,_,_,_,_⟩) (v:=.slice (some ⟨g,0,none⟩) 33 c3) rfl (by kernel_rfl) (by kernel_rfl) (by kernel_rfl) (fun _ _ _ h=>h) (Or.inl ⟨by rfl,fun w8 h8=>?_⟩) hBd ?_
   ·exact Lb _ _ _ (.inl rfl) (.slice (some ⟨g,0,none⟩) 33 c3) rfl w8
   try simp only [La]
   refine wpAnyH_take (i:=2) (oi:=⟨some 24,_,_,_,_,_⟩) (v:=.slice (some ⟨g,1,none⟩) 32 (c3-1)) rfl (by kernel_rfl) (by kernel_rfl) (by kernel_rfl) (fun _ _ _ h=>h) (Or.inl ⟨by rfl,fun w8 h8=>?_⟩) hBd ?_
   ·exact M6 _ rfl g c3 hc3 rfl w8
   try simp only [La]
   refine wpAnyH_take (i:=4) (oi:=⟨some 26,_,_,_,_,_⟩) (v:=.slice (some ⟨b,off,none⟩) n c) rfl (by kernel_rfl) (by kernel_rfl) (by kernel_rfl) (fun _ _ _ h=>h) (Or.inl ⟨by rfl,fun w8 h8=>?_⟩) hBd ?_
   ·exact Lb _ _ _ (.inl rfl) (.slice (some ⟨b,off,none⟩) n c) rfl w8
   try simp only [La]
   refine wpAnyH_take (i:=5) (oi:=⟨some 27,_,_,_,_,_⟩) (v:=.int .i64 (k:Int)) rfl (by kernel_rfl) (by kernel_rfl) (by kernel_rfl) (fun _ _ _ h=>h) (Or.inl ⟨by rfl,fun w8 h8=>?_⟩) hBd ?_
   ·exact Lb _ _ _ (.inl rfl) (.int .i64 (k:Int)) rfl w8
   try simp only [La]
   refine wpAnyH_take (i:=6) (oi:=⟨some 28,_,_,_,_,_⟩) (v:=.pointer (some ⟨b,off+k,none⟩)) rfl (by kernel_rfl) (by kernel_rfl) (by kernel_rfl) (fun _ _ _ h=>h) (Or.inl ⟨by rfl,fun w8 h8=>?_⟩) hBd ?_
   ·exact Daa _ _ rfl b off n c k hlt rfl rfl w8
   try simp only [La]
   refine wpAnyH_take (i:=7) (oi:=⟨some 29,_,_,_,_,_⟩) (v:=Fa q) rfl (by kernel_rfl) (by kernel_rfl) (by kernel_rfl) (fun _ _ _ h=>h) (Or.inl ⟨by rfl,fun w8 h8=>?_⟩) hBd ?_
   ·exact XY _ rfl _ q rfl w8 ((h8.cell hbz).trans hcell)
   try simp only [La]
   refine wpAnyH_take (i:=8) (oi:=⟨some 30,_,_,_,_,_⟩) (v:=Gc q.toNat) rfl (by kernel_rfl) (by kernel_rfl) (by kernel_rfl) (fun _ _ _ h=>h) (Or.inl ⟨by rfl,fun w8 h8=>?_⟩) hBd ?_
   ·exact WT _ rfl q rfl w8
   try simp only [La]
   obtain ⟨x,hx⟩:∃x,x=q.toNat:=⟨_,rfl⟩;rw [←hx] at hfin ⊢;have hdl:(r.drop 1).length=32:=by rw [List.length_drop,HR3.out.1]
   refine wpAnyH_all (rs:=[0,9]) (by kernel_rfl) (by decide) fun i hi=>?_;rcases List.mem_cons.1 hi with rfl|hi
   ·refine wpOp_step (o:=⟨some 22,_,_,_,_,_⟩) rfl fun K1 hK1=>?_;rw [if_pos (by rfl)];refine Ri 93 0 [] rfl [] rfl 3 #[] EP (hK1 _ _ ⟨hBd.alloc hBd.size _,?_⟩);clear hK1 K1;try simp only [La]
    obtain ⟨wp1,hw⟩:∃z,z=wd.alloc (.cells #[] 3):=⟨_,rfl⟩;rw [←hw];have hBp1:Below wr.heap.size wr wp1:=by rw [hw];exact hBd.alloc hBd.size _
    have hOp1:ze wp1 wr.heap.size (.slice (some ⟨wd.heap.size,0,none⟩) 0 0) []:=by rw [hw];exact ze.lit wd [] hBd.size (by decide)
    have hCp1:Ia wp1 g (r.map Gc++rest) 3:=by rw [hw];exact hCd.alloc _
    clear hw;have hlt22:wd.heap.size<wp1.heap.size:=(World.ownsRow.lt hOp1 _ rfl).2;refine wpAnyH_all (rs:=[3,9]) (by kernel_rfl) (by decide) fun i hi=>?_;rcases List.mem_cons.1 hi with rfl|hi
    ·refine wpOp_step (o:=⟨some 25,_,_,_,_,_⟩) rfl fun K1 hK1=>?_;rw [if_pos (by rfl)];refine Eg (.tmp 22) (.tmp 24) rfl wr.heap.size wp1.heap.size _ [] (r.drop 1) g 1 32 (c3-1) rfl hOp1 rfl hdl (hCp1.rowFrom 1) (by rw [hdl];decide) hBp1.size ?_;intro v25 wp2 hPp2 hbp2 hbut;refine hK1 _ _ ⟨hBp1.trans hbp2,?_⟩;clear hK1 K1;try simp only [La]
     have hBp2:=hBp1.trans hbp2;clear hbut;refine wpAnyH_all (rs:=[9]) (by kernel_rfl) (by decide) fun i hi=>?_;obtain rfl:=List.mem_singleton.1 hi;clear hi;refine wpOp_step (o:=⟨some 31,_,_,_,_,_⟩) rfl fun K1 hK1=>?_;rw [if_pos (by rfl)];refine Ri 93 1 [(0,.tmp 30)] rfl [(0,Gc x)] rfl 3 ([x].map Gc).toArray (GK x) (hK1 _ _ ⟨hBp2.alloc hBp2.size _,?_⟩);clear hK1 K1;try simp only [La]
     obtain ⟨wp3,hw⟩:∃z,z=wp2.alloc (.cells ([x].map Gc).toArray 3):=⟨_,rfl⟩;rw [←hw];have hBp3:Below wr.heap.size wr wp3:=by rw [hw];exact hBp2.alloc hBp2.size _
     have hcp3:wp3.cell? ⟨wp2.heap.size,0,none⟩=some (Gc x):=by rw [hw];exact PD wp2 x
     have hgp3:wp2.heap.size<wp3.heap.size:=by rw [hw,World.size_alloc];omega
     have hPp3:=hPp2.kept_alloc (.cells ([x].map Gc).toArray 3);rw [←hw] at hPp3;clear hw;refine wpAnyH_all (rs:=[10]) (by kernel_rfl) (by decide) fun i hi=>?_;obtain rfl:=List.mem_singleton.1 hi;clear hi;refine wpOp_step (o:=⟨some 32,_,_,_,_,_⟩) rfl fun K1 hK1=>?_;rw [if_pos (by rfl)];refine Eg (.tmp 25) (.tmp 31) rfl wr.heap.size wp3.heap.size _ (r.drop 1) [x] _ 0 1 1 rfl hPp3 rfl rfl (IK hcp3 hgp3) (by rw [hdl];show 32+1≤1000000;decide) hBp3.size ?_;intro v32 wp4 hZp4 hbp4 _;refine hK1 _ _ ⟨hBp3.trans hbp4,?_⟩;clear hK1 K1;try simp only [La]
     have hBp4:=hBp3.trans hbp4;refine wpAnyH_all (rs:=[11]) (by kernel_rfl) (by decide) fun i hi=>?_;obtain rfl:=List.mem_singleton.1 hi;clear hi;refine wpOp_step (o:=⟨some 3,_,_,_,_,_⟩) rfl fun K1 hK1=>?_;rw [if_pos (by rfl)];refine Mc v32 (Lb _ _ _ (.inr rfl) v32 rfl _) (hK1 _ _ ⟨hBp4,?_⟩);clear hK1 K1;try simp only [La]
     refine wpAnyH_done (by kernel_rfl) ?_ _;exact hfin _ _ _ _ _ hZp4 hBp4
    obtain rfl:=List.mem_singleton.1 hi;refine wpOp_step (o:=⟨some 31,_,_,_,_,_⟩) rfl fun K1 hK1=>?_;rw [if_pos (by rfl)];refine Ri 93 1 [(0,.tmp 30)] rfl [(0,Gc x)] rfl 3 ([x].map Gc).toArray (GK x) (hK1 _ _ ⟨hBp1.alloc hBp1.size _,?_⟩);clear hK1 K1;try simp only [La]
    obtain ⟨wp2,hw⟩:∃z,z=wp1.alloc (.cells ([x].map Gc).toArray 3):=⟨_,rfl⟩;rw [←hw];have hBp2:Below wr.heap.size wr wp2:=by rw [hw];exact hBp1.alloc hBp1.size _
    have hCp2:Ia wp2 g (r.map Gc++rest) 3:=by rw [hw];exact hCp1.alloc _
    have hcp2:wp2.cell? ⟨wp1.heap.size,0,none⟩=some (Gc x):=by rw [hw];exact PD wp1 x
    have hgp2:wp1.heap.size<wp2.heap.size:=by rw [hw,World.size_alloc];omega
    have hOp2:=hOp1.kept_alloc (.cells ([x].map Gc).toArray 3);rw [←hw] at hOp2;have hnep2:wp1.heap.size≠wd.heap.size:=by have :=hlt22;omega
    clear hw;refine wpAnyH_all (rs:=[3]) (by kernel_rfl) (by decide) fun i hi=>?_;obtain rfl:=List.mem_singleton.1 hi;clear hi;refine wpOp_step (o:=⟨some 25,_,_,_,_,_⟩) rfl fun K1 hK1=>?_;rw [if_pos (by rfl)];refine Eg (.tmp 22) (.tmp 24) rfl wr.heap.size wp2.heap.size _ [] (r.drop 1) g 1 32 (c3-1) rfl hOp2 rfl hdl (hCp2.rowFrom 1) (by rw [hdl];decide) hBp2.size ?_;intro v25 wp3 hPp3 hbp3 hbut;refine hK1 _ _ ⟨hBp2.trans hbp3,?_⟩;clear hK1 K1;try simp only [La]
    have hBp3:=hBp2.trans hbp3;have hcp3:=GP (hbut _ rfl) hgp2 hnep2 hcp2;have hgp3:=Waj hgp2 (hbut _ rfl).size;clear hbut;refine wpAnyH_all (rs:=[10]) (by kernel_rfl) (by decide) fun i hi=>?_;obtain rfl:=List.mem_singleton.1 hi;clear hi;refine wpOp_step (o:=⟨some 32,_,_,_,_,_⟩) rfl fun K1 hK1=>?_;rw [if_pos (by rfl)];refine Eg (.tmp 25) (.tmp 31) rfl wr.heap.size wp3.heap.size _ (r.drop 1) [x] _ 0 1 1 rfl hPp3 rfl rfl (IK hcp3 hgp3) (by rw [hdl];show 32+1≤1000000;decide) hBp3.size ?_;intro v32 wp4 hZp4 hbp4 _;refine hK1 _ _ ⟨hBp3.trans hbp4,?_⟩;clear hK1 K1;try simp only [La]
    have hBp4:=hBp3.trans hbp4;refine wpAnyH_all (rs:=[11]) (by kernel_rfl) (by decide) fun i hi=>?_;obtain rfl:=List.mem_singleton.1 hi;clear hi;refine wpOp_step (o:=⟨some 3,_,_,_,_,_⟩) rfl fun K1 hK1=>?_;rw [if_pos (by rfl)];refine Mc v32 (Lb _ _ _ (.inr rfl) v32 rfl _) (hK1 _ _ ⟨hBp4,?_⟩);clear hK1 K1;try simp only [La]
    refine wpAnyH_done (by kernel_rfl) ?_ _;exact hfin _ _ _ _ _ hZp4 hBp4
   obtain rfl:=List.mem_singleton.1 hi;refine wpOp_step (o:=⟨some 31,_,_,_,_,_⟩) rfl fun K1 hK1=>?_;rw [if_pos (by rfl)];refine Ri 93 1 [(0,.tmp 30)] rfl [(0,Gc x)] rfl 3 ([x].map Gc).toArray (GK x) (hK1 _ _ ⟨hBd.alloc hBd.size _,?_⟩);clear hK1 K1;try simp only [La]
   obtain ⟨wp1,hw⟩:∃z,z=wd.alloc (.cells ([x].map Gc).toArray 3):=⟨_,rfl⟩;rw [←hw];have hBp1:Below wr.heap.size wr wp1:=by rw [hw];exact hBd.alloc hBd.size _
   have hCp1:Ia wp1 g (r.map Gc++rest) 3:=by rw [hw];exact hCd.alloc _
   have hcp1:wp1.cell? ⟨wd.heap.size,0,none⟩=some (Gc x):=by rw [hw];exact PD wd x
   have hgp1:wd.heap.size<wp1.heap.size:=by rw [hw,World.size_alloc];omega
   clear hw;refine wpAnyH_all (rs:=[0]) (by kernel_rfl) (by decide) fun i hi=>?_;obtain rfl:=List.mem_singleton.1 hi;clear hi;refine wpOp_step (o:=⟨some 22,_,_,_,_,_⟩) rfl fun K1 hK1=>?_;rw [if_pos (by rfl)];refine Ri 93 0 [] rfl [] rfl 3 #[] EP (hK1 _ _ ⟨hBp1.alloc hBp1.size _,?_⟩);clear hK1 K1;try simp only [La]
   obtain ⟨wp2,hw⟩:∃z,z=wp1.alloc (.cells #[] 3):=⟨_,rfl⟩;rw [←hw];have hBp2:Below wr.heap.size wr wp2:=by rw [hw];exact hBp1.alloc hBp1.size _
   have hOp2:ze wp2 wr.heap.size (.slice (some ⟨wp1.heap.size,0,none⟩) 0 0) []:=by rw [hw];exact ze.lit wp1 [] hBp1.size (by decide)
   have hCp2:Ia wp2 g (r.map Gc++rest) 3:=by rw [hw];exact hCp1.alloc _
   have hcp2:wp2.cell? ⟨wd.heap.size,0,none⟩=some (Gc x):=by rw [hw];exact YT _ hgp1 hcp1
   have hgp2:wd.heap.size<wp2.heap.size:=by rw [hw,World.size_alloc];omega
   have hnep2:wd.heap.size≠wp1.heap.size:=Vaj hgp1;clear hw;refine wpAnyH_all (rs:=[3]) (by kernel_rfl) (by decide) fun i hi=>?_;obtain rfl:=List.mem_singleton.1 hi;clear hi;refine wpOp_step (o:=⟨some 25,_,_,_,_,_⟩) rfl fun K1 hK1=>?_;rw [if_pos (by rfl)];refine Eg (.tmp 22) (.tmp 24) rfl wr.heap.size wp2.heap.size _ [] (r.drop 1) g 1 32 (c3-1) rfl hOp2 rfl hdl (hCp2.rowFrom 1) (by rw [hdl];decide) hBp2.size ?_;intro v25 wp3 hPp3 hbp3 hbut;refine hK1 _ _ ⟨hBp2.trans hbp3,?_⟩;clear hK1 K1;try simp only [La]
   have hBp3:=hBp2.trans hbp3;have hcp3:=GP (hbut _ rfl) hgp2 hnep2 hcp2;have hgp3:=Waj hgp2 (hbut _ rfl).size;clear hbut;refine wpAnyH_all (rs:=[10]) (by kernel_rfl) (by decide) fun i hi=>?_;obtain rfl:=List.mem_singleton.1 hi;clear hi;refine wpOp_step (o:=⟨some 32,_,_,_,_,_⟩) rfl fun K1 hK1=>?_;rw [if_pos (by rfl)];refine Eg (.tmp 25) (.tmp 31) rfl wr.heap.size wp3.heap.size _ (r.drop 1) [x] _ 0 1 1 rfl hPp3 rfl rfl (IK hcp3 hgp3) (by rw [hdl];show 32+1≤1000000;decide) hBp3.size ?_;intro v32 wp4 hZp4 hbp4 _;refine hK1 _ _ ⟨hBp3.trans hbp4,?_⟩;clear hK1 K1;try simp only [La]
   have hBp4:=hBp3.trans hbp4;refine wpAnyH_all (rs:=[11]) (by kernel_rfl) (by decide) fun i hi=>?_;obtain rfl:=List.mem_singleton.1 hi;clear hi;refine wpOp_step (o:=⟨some 3,_,_,_,_,_⟩) rfl fun K1 hK1=>?_;rw [if_pos (by rfl)];refine Mc v32 (Lb _ _ _ (.inr rfl) v32 rfl _) (hK1 _ _ ⟨hBp4,?_⟩);clear hK1 K1;try simp only [La]
   refine wpAnyH_done (by kernel_rfl) ?_ _;exact hfin _ _ _ _ _ hZp4 hBp4
  ·obtain rfl:j=0:=by omega
   rw [show (((0:Nat):Int)-1)= -1 from rfl];obtain ⟨Q,HQ⟩:=qh (T 0);rw [HQ.out] at HR3;have hQ':∀(e:Ending) (w':World),(e=.returned (Ca (Ob Q 32))∧Below w.heap.size w w')→(e=.returned (Ca (Ob (T 0) 32))∧Below w.heap.size w w'):=fun e w' h=>by rw [HQ.out];exact h
   have hg0:w.heap.size<g:=by omega
   clear HT HTL HT0 HLL hCL;go_wp2_with (first
    |(refine Eb rfl 22 [] rfl [] rfl _ ZY ?_
      try simp only [La]
      skip)
    |(refine VK rfl rfl 22 (.tmp 9) (.tmp 59) rfl rfl 32 (List.replicate 32 0) rfl rfl Iv Ak (by simp) ?_
      intro w6 hb6 hO6 _;have hB6:=Ba hB hb6;have hC6:=hC.on hb6;have hZ6:=hZ.on hb6;have hzlt:=hC.lt;clear hB hC hZ hb6))
   have hgo:g<wr.heap.size:=hzlt;generalize hq9:wr.heap.size=go at *;clear hq9
   go_loopw [10] (fun i wr=>∃k:Nat,k≤32∧i=.int .i64 (k:Int)∧Below w.heap.size w wr∧Ia wr go ((Ob Q k++List.replicate (32-k) 0).map Fa) 22∧Ia wr g (r.map Gc++rest) 3∧Ia wr w.heap.size (List.replicate 32 (Fa 0)) 22) (fun i _=>32-(intOf i).toNat)
   case atStart=>exact ⟨0,Nat.zero_le _,rfl,hB6,hO6,hC6,hZ6⟩
   case round=>
    clear hB6 hO6 hC6 hZ6;obtain ⟨k,hk,rfl,hB,hO,hC,hZ⟩:=hrel;by_cases hlt:k<32
    ·have i1:(0:Int)≤(k:Int):=by omega
     have i2:(k:Int)<32:=by omega
     have i3:(0:Int)≤32-(k:Int):=by omega
     have i4:(32:Int)-(k:Int)<33:=by omega
     have i5:((32:Int)-(k:Int)).toNat=32-k:=by omega
     have i6:IntKind.i64.wrap (32-(k:Int))=32-(k:Int):=IntWalk.i64_in _ (by omega);have d1:=hC.intAt (32-k) (by rw [HR3.out.1];omega);rw [yT r HR3.out.1 HR3.out.2.1 Q k (by omega) HR3.out.2.2] at d1;have hpl:=Ta Q k;have d2:=hO.frozen k;have d0:=hO.get (show ((Ob Q k++List.replicate (32-k) 0).map Fa)[k]? =some (Fa 0) by rw [List.getElem?_map,List.getElem?_append_right (by omega),hpl,Nat.sub_self,List.getElem?_replicate,if_pos (by omega)];rfl);have hS:=Lib.hid (hO.set k (Fa (Ec Q k)));have hP:=Lib.hid (FF (Ob Q k) k 32 (Ec Q k) 0 hpl hlt);have hPS:=Lib.hid (Mh Q k);have hq:=(Ec Q k).toNat_lt;generalize Ec Q k=q at *;have j1:IntKind.u8.wrap (q.toNat:Int)=(q.toNat:Int):=by rw [IntKind.wrap_u8];omega
     clear hq;go_wp2_with fail
     go_roundw
     case rel=>
      refine ⟨k+1,by omega,by go_num,hB.setCell (p:=⟨go,k,none⟩) (by show w.heap.size≤go;omega) _,?_,hC.other (by show g≠go;omega) _,hZ.other (by show w.heap.size≠go;omega) _⟩;rw [hPS.out,←hP.out,List.map_set];exact hS.out
     case measure=>simp [intOf]<;>omega
    ·obtain rfl:k=32:=by omega
     rw [show ((32:Nat):Int)=32 from rfl];have hp:Ob Q 32++List.replicate (32-32) 0=Ob Q 32:=List.append_nil _;rw [hp] at hO;have hpl:=Lib.hid (Ta Q 32);obtain ⟨p,HP⟩:=qh (Ob Q 32);rw [HP.out] at hO hpl hQ';clear hp;go_wp2_with (first
      |(refine Tc rfl 22 (.tmp 9) rfl go 32 p _ rfl hO Tryz.underlying22 Ak hpl.out ?_
        try simp only [La]
        skip)
      |(refine Li rfl 22 _ _ rfl w.heap.size 32 (List.replicate 32 (Fa 0)) p rfl rfl hZ (by simp) Ak hpl.out ?_
        intro w7 hb7 hC7 _))
     exact Mi Tryz.results32 w.heap.size p rfl hC7 Tryz.underlying22 Ak hpl.out rfl (hQ' _ _ ⟨rfl,hB.trans (hb7.below (Xaj _) hB.size)⟩)
theorem P6 (a q m:Nat):(a%m*256+q)%m=(q+256*a)%m:=by
 rw [Nat.add_mod,Nat.mod_mul_mod,←Nat.add_mod];congr 1
 omega
theorem zY (bs:List UInt8) (j:Nat) (h:j<bs.length):lev (bs.drop j)=(bs.getD j 0).toNat+256*lev (bs.drop (j+1)):=by
 rw [List.drop_eq_getElem_cons h,Yaj,xaj h];rfl
theorem Qk (A:Option Addr) (n c:Nat) (bs:List UInt8) (w:World) (hl:bs.length=n) (hn:n≤100) (hr:Row w w.heap.size A bs):Calls Tryz.prog 32 #[.slice A n c] w (gvn (Ca (Ob (lev bs%NP.LL) 32)) w):=by
 have h:=WE A n c bs (fun j=>lev (bs.drop j)%NP.LL) w hl hn hr (by show _=_;rw [List.drop_of_length_le (by omega)];rfl) (fun j _=>Nat.mod_lt _ (by decide)) (fun j hj=>by
  show _=_;rw [zY bs j (by omega),P6])
 rw [List.drop_zero] at h;exact h
theorem QD (w:World) (u:UInt8):Row (w.alloc (.cells #[Fa u] 5)) (w.heap.size+1) (some ⟨w.heap.size,0,none⟩) [u]:=by
 refine .inr ⟨_,0,rfl,by omega,fun j x hx=>?_⟩;rw [Nat.zero_add];exact (Ia.new w #[Fa u] 5).get (by
  match j with
  |0=>cases hx;rfl
  |j+1=>cases hx)
theorem Mo (x i:Nat):(Ec x i).toNat=x/256^i%256:=by rw [Ec,UInt8.toNat_ofNat']
theorem KK (k:List UInt8) (j:Nat) (h:j<k.length):(k.map Fa)[j]? =some (Fa (k.getD j 0)):=by
 rw [List.getElem?_map,Yaj,xaj h];rfl
theorem XE (a b:List UInt8) (O Y:Nat→Nat) (S:Nat) (w:World) (HA:Hid (a.length=32)) (HB:Hid (b.length=32)) (H0:Hid (O 0=0)) (HL:Hid (∀k,k≤32→O k≤1000)) (HY:Hid (∀k,k<32→O k+((a.getD k 0).toNat+(b.getD k 0).toNat)=Y k)) (HO:Hid (∀k,k<32→O (k+1)=Y k/256)) (HD:Hid (∀k,k<32→Y k%256=(Ec S k).toNat)) (HE:Hid (O 32=(Ec S 32).toNat)) (HS:Hid (lev (Ob S 33)=S)):
 Calls Tryz.prog 21 #[Ca a,Ca b] w (gvn (Ca (Ob (S%NP.LL) 32)) w):=by
 obtain ⟨rs,HRS⟩:=qh (Ob (S%NP.LL) 32);have HRL:Hid (rs.length=32):=by show _=_;rw [←HRS.out];exact Ta _ _
 rw [HRS.out];go_enter Tryz.func21,Tryz.ntmps21;go_wp2_with (first
  |(refine Rb rfl 22 (.tmp 0) rfl a rfl ?_
    intro w1 hB1 hA1 hz;clear hz;try simp only [La]
    skip)
  |(refine Rb rfl 22 (.tmp 1) rfl b rfl ?_
    intro w2 hb2 hC2 hz;have hB2:=Ba hB1 hb2;have hA2:=hA1.on hb2;have hlt1:=hA1.lt;clear hz hB1 hA1 hb2;try simp only [La]
    skip)
  |(refine Ma (o:=⟨some 4,_,_,_,_,_⟩) rfl 22 rfl (List.replicate 32 (Fa 0)) Iv ?_
    intro w3 hb3 hZ3;have hB3:=Ba hB2 hb3;have hA3:=hA2.on hb3;have hC3:=hC2.on hb3;have hlt2:=hC2.lt;have hlt3:=hZ3.lt;clear hB2 hA2 hC2 hb3))
 have hO3:Sd (w3.alloc (.cells #[] 5)) w3.heap.size (.slice (some ⟨w3.heap.size,0,none⟩) 0 0) []:=Sd.lit w3 [] (Xaj _) (by decide);have hA4:=hA3.alloc (.cells #[] 5);have hC4:=hC3.alloc (.cells #[] 5);have hZ4:=hZ3.alloc (.cells #[] 5);have hB4:Below w.heap.size w (w3.alloc (.cells #[] 5)):=hB3.alloc hB3.size _;have hb4:Below w3.heap.size w3 (w3.alloc (.cells #[] 5)):=(Below.refl _ _).alloc (Xaj _) _;generalize w3.alloc (.cells #[] 5)=w4 at *;generalize hq3:w3.heap.size=g3 at *;generalize hq2:w2.heap.size=g2 at *;generalize hq1:w1.heap.size=g1 at *;clear hA3 hC3 hZ3 hB3 hq1 hq2;have hgz:=hb4.size;rw [hq3] at hgz;clear hb4 hq3
 go_loopw [5,6,7] (fun v o i wr=>∃k:Nat,k≤32∧i=.int .i64 (k:Int)∧o=.int .i64 (O k:Int)∧Below w.heap.size w wr∧g3≤wr.heap.size∧Ia wr w.heap.size (a.map Fa) 22∧Ia wr g1 (b.map Fa) 22∧Ia wr g2 (List.replicate 32 (Fa 0)) 22∧Sd wr g3 v (Ob S k)) (fun _ _ i _=>32-(intOf i).toNat)
 case atStart=>exact ⟨0,Nat.zero_le _,rfl,by rw [H0.out];rfl,hB4,hgz,hA4,hC4,hZ4,hO3⟩
 case round=>
  clear hO3 hA4 hC4 hZ4 hB4 hgz;obtain ⟨k,hk,rfl,rfl,hB,hgz,hA,hC,hZ,hO⟩:=hrel;by_cases hlt:k<32
  ·have i1:(0:Int)≤(k:Int):=by omega
   have i2:(k:Int)<32:=by omega
   have d1:=hA.get (KK a k (by rw [HA.out];exact hlt));have d2:=hC.get (KK b k (by rw [HB.out];exact hlt));have y1:=HY.out k hlt;have y2:=HO.out k hlt;have y3:=HD.out k hlt;have y4:=HL.out k hk;have hp:=Lib.hid (Mh S k);have hpl:=Lib.hid (Ta S k);obtain ⟨l,HLN⟩:=qh (Ob S k);rw [HLN.out] at hp hpl hO;have hx:=(a.getD k 0).toNat_lt;have hy:=(b.getD k 0).toNat_lt;generalize a.getD k 0=x at *;generalize b.getD k 0=y at *;obtain ⟨on,HON⟩:=qh (O (k+1));rw [HON.out] at y2;generalize O k=ok at *;generalize Y k=yk at *;generalize Ec S k=q at *;have j0:IntKind.i64.wrap (x.toNat:Int)=(x.toNat:Int):=IntWalk.i64_in _ (by omega);have j00:IntKind.i64.wrap (y.toNat:Int)=(y.toNat:Int):=IntWalk.i64_in _ (by omega);obtain ⟨s',hs⟩:=qh ((x.toNat:Int)+(y.toNat:Int));have j1:IntKind.i64.wrap ((x.toNat:Int)+(y.toNat:Int))=s':=by rw [←hs.out];exact IntWalk.i64_in _ (by omega)
   have j2:IntKind.i64.wrap ((ok:Int)+s')=(yk:Int):=by rw [←hs.out,IntWalk.i64_in _ (by omega)];omega
   have j3:(yk:Int)%256=(q.toNat:Int):=by omega
   have j4:(yk:Int)/256=(on:Int):=by omega
   have j5:IntKind.u8.wrap (q.toNat:Int)=(q.toNat:Int):=by rw [IntKind.wrap_u8];have :=q.toNat_lt;omega
   have j6:IntKind.i64.wrap (on:Int)=(on:Int):=IntWalk.i64_in _ (by omega);clear y1 y2 y3 y4 hx hy HY HO HD HL;have hpl2:l.length=k:=hpl.out;have hlen:l.length+ [q].length≤1000000:=by rw [hpl2];show k+1≤1000000;omega
   have HLEN:=Lib.hid hlen;clear hpl2 hlen;go_wp2_with fail
   go_quiet (fail)
   go_wp2_with (first
    |(at_builtin
      refine Vf rfl (.tmp 24) (.tmp 28) rfl g3 _ l [q] (wr.heap.size+1) (some ⟨wr.heap.size,0,none⟩) 1 rfl ((hO.drewN nq).kept_alloc _) rfl (fun h=>by cases h) (QD (wr.drewN nq) q) HLEN.out (by have :=hgz;simp;omega) ?_;intro v5 w5 hown5 hb5))
   go_roundw
   case rel=>
    have hb6:Below g3 wr w5:=((below_drewN (Below.refl _ _) nq).alloc hgz _).trans hb5;exact ⟨k+1,by omega,by go_num,by rw [HON.out],hB.trans (hb6.mono (by omega)),Nat.le_trans hgz hb6.size,hA.below hb6 (by omega),hC.below hb6 (by omega),hZ.below hb6 (by omega),by rw [hp.out];exact hown5⟩
   case measure=>simp [intOf]<;>omega
  ·obtain rfl:k=32:=by omega
   rw [show ((32:Nat):Int)=32 from rfl];rw [HE.out];have hp:=Lib.hid (Mh S 32);have hpl:=Lib.hid (Ta S 32);have hpl3:=Lib.hid (Ta S 33);obtain ⟨l3,HL3⟩:=qh (Ob S (32+1));obtain ⟨l,HLN⟩:=qh (Ob S 32);rw [HLN.out] at hp hpl hO;rw [HL3.out] at hp;have HL33:Hid (Ob S 33=l3):=HL3;rw [HL33.out] at HS hpl3;generalize Ec S 32=q at *;have j5:IntKind.u8.wrap (q.toNat:Int)=(q.toNat:Int):=by rw [IntKind.wrap_u8];have :=q.toNat_lt;omega
   have hlen:l.length+ [q].length≤1000000:=by rw [hpl.out];show 32+1≤1000000;decide
   have HLEN:=Lib.hid hlen;clear hlen HY HO HD HL H0 hA hC;go_wp2_with (first
    |(at_builtin
      refine Vf rfl (.tmp 32) (.tmp 35) rfl g3 _ l [q] (wr.heap.size+1) (some ⟨wr.heap.size,0,none⟩) 1 rfl (hO.kept_alloc _) rfl (fun h=>by cases h) (QD wr q) HLEN.out (by have :=hgz;simp;omega) ?_;intro v5 w5 hown5 hb5;rw [←hp.out] at hown5;obtain ⟨A5,c5,rfl,hc5,hA5,hr5⟩:=hown5.form;rw [hpl3.out];have CM:=Lib.hid (Qk A5 33 c5 l3 w5 hpl3.out (by decide) hr5);have hb6:Below g3 wr w5:=((Below.refl _ _).alloc hgz _).trans hb5;have hB5:=hB.trans (hb6.mono (by omega));have hZ5:=hZ.below hb6 (by omega);clear hown5 hb5 hb6 hB hZ hO hr5))
   rw [HS.out,HRS.out] at CM;refine CM.out.mono ?_;rintro e w6 ⟨rfl,hb6⟩;have hB6:=Ba hB5 hb6;have hZ6:=hZ5.on hb6;clear CM hB5 hZ5 hb6;go_wp2_with (first
    |(refine Li rfl 22 _ _ rfl g2 32 (List.replicate 32 (Fa 0)) rs rfl rfl hZ6 (by simp) Ak HRL.out ?_
      intro w7 hb7 hC7 _))
   exact Mi Tryz.results21 g2 rs rfl hC7 Tryz.underlying22 Ak HRL.out rfl ⟨rfl,hB6.trans (hb7.below (by omega) hB6.size)⟩
theorem LK (a b:List UInt8) (w:World) (ha:a.length=32) (hb:b.length=32):Calls Tryz.prog 21 #[Ca a,Ca b] w (gvn (Ca (Ob ((lev a+lev b)%NP.LL) 32)) w):=by
 have la:(a.map (·.toNat)).length=32:=by rw [Uaj];exact ha
 have lb:(b.map (·.toNat)).length=32:=by rw [Uaj];exact hb
 have ga:∀k,k<32→(a.getD k 0).toNat=(a.map (·.toNat)).getD k 0:=fun k hk=>by
  rw [Yaj,Yaj,List.getElem?_map,xaj (by omega)];rfl
 have gb:∀k,k<32→(b.getD k 0).toNat=(b.map (·.toNat)).getD k 0:=fun k hk=>by
  rw [Yaj,Yaj,List.getElem?_map,xaj (by omega)];rfl
 have ha2:=Pn a;have hb2:=Pn b;rw [ha] at ha2;rw [hb] at hb2;have hS:lev a+lev b<256^33:=by rw [Nat.pow_succ];omega
 refine XE a b (fun k=>(Hc ((a.map (·.toNat)).take k)+Hc ((b.map (·.toNat)).take k))/256^k) (fun k=>(Hc ((a.map (·.toNat)).take (k+1))+Hc ((b.map (·.toNat)).take (k+1)))/256^k) (lev a+lev b) w ha hb (by show _=_;rw [List.take_zero,List.take_zero];rfl) (fun k hk=>?_) (fun k hk=>?_) (fun k hk=>?_) (fun k hk=>?_) ?_ ?_
 ·have h1:=Gk ((a.map (·.toNat)).take k) (fun x hx=>Gh a x (List.mem_of_mem_take hx));have h2:=Gk ((b.map (·.toNat)).take k) (fun x hx=>Gh b x (List.mem_of_mem_take hx));rw [zaj,la,Nat.min_eq_left hk] at h1;rw [zaj,lb,Nat.min_eq_left hk] at h2;have h3:(Hc ((a.map (·.toNat)).take k)+Hc ((b.map (·.toNat)).take k))/256^k<2:=by
   rw [Nat.div_lt_iff_lt_mul (Nat.pow_pos (by decide))];omega
  exact Nat.le_trans (Nat.le_of_lt h3) (by decide)
 ·show _+_=_;rw [ga k hk,gb k hk,Tg _ k (by omega),Tg _ k (by omega)];exact JQ _ _ k (by omega) (by omega)
 ·exact (KQ _ _).symm
 ·rw [Mo];exact EL _ _ k (by omega) (by omega) (Gh a) (Gh b)
 ·show _=_;rw [Mo,Zaj (by omega),Zaj (by omega)];show (lev a+lev b)/256^32=_;rw [yaj];rw [Nat.div_lt_iff_lt_mul (Nat.pow_pos (by decide)),←Nat.pow_succ'];exact hS
 ·show _=_;rw [Zh,yaj hS]
theorem Gz (a b:List UInt8) (M:Nat→Nat→List Nat) (ds:List Nat) (O Y:Nat→Nat) (S:Nat) (w:World) (HA:Hid (a.length=32)) (HB:Hid (b.length=32)) (HM0:Hid (M 0 0=List.replicate 65 0)) (HMN:Hid (∀i,M (i+1) 0=M i 32)) (HMS:Hid (∀i j,i<32→j<32→M i (j+1)=(M i j).set (i+j) ((M i j).getD (i+j) 0+(a.getD i 0).toNat*(b.getD j 0).toNat)))
 (HML:Hid (∀i j,(M i j).length=65)) (HMB:Hid (∀i j,i<32→(M i j).getD (i+j) 0≤100000000)) (HDS:Hid (M 32 0=ds)) (HDL:Hid (ds.length=65)) (HXB:Hid (∀k,ds.getD k 0≤100000000))
 (H0:Hid (O 0=0)) (HL:Hid (∀k,k≤65→O k≤100000000)) (HY:Hid (∀k,k<65→O k+ds.getD k 0=Y k)) (HO:Hid (∀k,k<65→O (k+1)=Y k/256)) (HD:Hid (∀k,k<65→Y k%256=(Ec S k).toNat)) (HS:Hid (lev (Ob S 65)=S)):
 Calls Tryz.prog 22 #[Ca a,Ca b] w (gvn (Ca (Ob (S%NP.LL) 32)) w):=by
 obtain ⟨rs,HRS⟩:=qh (Ob (S%NP.LL) 32);have HRL:Hid (rs.length=32):=by show _=_;rw [←HRS.out];exact Ta _ _
 rw [HRS.out];have hmk:=BH 65 (by decide);rw [show ((65:Nat):Int)=65 from rfl] at hmk;go_enter Tryz.func22,Tryz.ntmps22;go_wp2_with (first
  |(refine Rb rfl 22 (.tmp 0) rfl a rfl ?_
    intro w1 hB1 hA1 hz;clear hz;try simp only [La]
    skip)
  |(refine Rb rfl 22 (.tmp 1) rfl b rfl ?_
    intro w2 hb2 hC2 hz;have hB2:=Ba hB1 hb2;have hA2:=hA1.on hb2;have hlt1:=hA1.lt;clear hz hB1 hA1 hb2;try simp only [La]
    skip)
  |(refine Ma (o:=⟨some 4,_,_,_,_,_⟩) rfl 22 rfl (List.replicate 32 (Fa 0)) Iv ?_
    intro w3 hb3 hZ3;have hB3:=Ba hB2 hb3;have hA3:=hA2.on hb3;have hC3:=hC2.on hb3;have hlt2:=hC2.lt;have hlt3:=hZ3.lt;clear hB2 hA2 hC2 hb3))
 have hD4:Ia (w3.alloc (.cells (Il 65).toArray 3)) w3.heap.size ((M 0 0).map Gc) 3:=by rw [HM0.out,←ND];exact Ia.new _ _ _
 have hA4:=hA3.alloc (.cells (Il 65).toArray 3);have hC4:=hC3.alloc (.cells (Il 65).toArray 3);have hZ4:=hZ3.alloc (.cells (Il 65).toArray 3);have hB4:Below w.heap.size w (w3.alloc (.cells (Il 65).toArray 3)):=hB3.alloc hB3.size _;generalize w3.alloc (.cells (Il 65).toArray 3)=w4 at *;generalize w3.heap.size=g3 at *;generalize w2.heap.size=g2 at *;generalize w1.heap.size=g1 at *;clear hA3 hC3 hZ3 hB3 hmk
 go_loopw [6,7] (fun i _ wr=>∃k:Nat,k≤32∧i=.int .i64 (k:Int)∧Below w.heap.size w wr∧Ia wr w.heap.size (a.map Fa) 22∧Ia wr g1 (b.map Fa) 22∧Ia wr g2 (List.replicate 32 (Fa 0)) 22∧Ia wr g3 ((M k 0).map Gc) 3) (fun i _ _=>32-(intOf i).toNat)
 case atStart=>exact ⟨0,Nat.zero_le _,rfl,hB4,hA4,hC4,hZ4,hD4⟩
 case round=>
  clear hB4 hA4 hC4 hZ4 hD4;obtain ⟨k,hk,rfl,hB,hA,hC,hZ,hD⟩:=hrel;by_cases hlt:k<32
  ·have i1:(0:Int)≤(k:Int):=by omega
   have i2:(k:Int)<32:=by omega
   have hMS:=fun j=>HMS.out k j hlt;have hMB:=fun j=>HMB.out k j hlt;have HMk:=Lib.hid hMS;have HMBk:=Lib.hid hMB;have HAk:=Lib.hid (KK a k (by rw [HA.out];exact hlt));clear hMS hMB HMS HMB;generalize a.getD k 0=x at *;go_wp2_with fail
   go_loopw [7] (fun j wr=>∃m:Nat,m≤32∧j=.int .i64 (m:Int)∧Below w.heap.size w wr∧Ia wr w.heap.size (a.map Fa) 22∧Ia wr g1 (b.map Fa) 22∧Ia wr g2 (List.replicate 32 (Fa 0)) 22∧Ia wr g3 ((M k m).map Gc) 3) (fun j _=>32-(intOf j).toNat)
   case atStart=>exact ⟨0,Nat.zero_le _,rfl,hB,hA,hC,hZ,hD⟩
   case round=>
    clear hB hA hC hZ hD;obtain ⟨m,hm,rfl,hB,hA,hC,hZ,hD⟩:=hrel;by_cases hltm:m<32
    ·have i3:(0:Int)≤(m:Int):=by omega
     have i4:(m:Int)<32:=by omega
     have HLk:=Lib.hid (HML.out k m);have HSk:=Lib.hid (HMk.out m hltm);have hb1:=HMBk.out m;have d2:=hC.get (KK b m (by rw [HB.out];exact hltm));have d1:=hA.get HAk.out;have d3:=hD.get (H6 (M k m) (k+m) (by rw [HLk.out];omega));obtain ⟨sn,HSN⟩:=qh (M k (m+1));rw [HSN.out] at HSk;have hx:=x.toNat_lt;have hy:=(b.getD m 0).toNat_lt;have hxy:x.toNat*(b.getD m 0).toNat≤255*255:=Nat.mul_le_mul (by omega) (by omega);generalize b.getD m 0=y at *;generalize M k m=s at *;generalize s.getD (k+m) 0=z at *;have q3:(x.toNat:Int)*(y.toNat:Int)=((x.toNat*y.toNat:Nat):Int):=(Int.natCast_mul _ _).symm;have j1:IntKind.i64.wrap ((x.toNat:Int)*(y.toNat:Int))=((x.toNat*y.toNat:Nat):Int):=by rw [q3];exact IntWalk.i64_in _ (by omega)
     have HJ1:=Lib.hid j1;clear q3 j1;obtain ⟨xy,HXY⟩:=qh (x.toNat*y.toNat);rw [HXY.out] at HJ1 HSk hxy;have j1:=HJ1.out;have j0:IntKind.i64.wrap (x.toNat:Int)=(x.toNat:Int):=IntWalk.i64_in _ (by omega);have j00:IntKind.i64.wrap (y.toNat:Int)=(y.toNat:Int):=IntWalk.i64_in _ (by omega);have i5:(0:Int)≤(k:Int)+(m:Int):=by omega
     have i6:(k:Int)+(m:Int)<65:=by omega
     have i7:((k:Int)+(m:Int)).toNat=k+m:=by omega
     have i8:IntKind.i64.wrap ((k:Int)+(m:Int))=(k:Int)+(m:Int):=IntWalk.i64_in _ (by omega);obtain ⟨v,hv⟩:∃v,v=z+xy:=⟨_,rfl⟩;rw [←hv] at HSk;have j2:IntKind.i64.wrap ((z:Int)+(xy:Int))=(v:Int):=by rw [hv,IntWalk.i64_in _ (by omega)];omega
     clear hv hx hy hxy hb1;go_wp2_with fail
     refine Ad 16 (by kernel_rfl) (by kernel_rfl) ?_;intro w4 hw4;have hB4:Below w.heap.size w w4:=by rw [hw4];exact hB.drew
     have hA4:Ia w4 w.heap.size (a.map Fa) 22:=by rw [hw4];exact hA
     have hC4:Ia w4 g1 (b.map Fa) 22:=by rw [hw4];exact hC
     have hZ4:Ia w4 g2 (List.replicate 32 (Fa 0)) 22:=by rw [hw4];exact hZ
     have hD4:Ia w4 g3 (s.map Gc) 3:=by rw [hw4];exact hD
     have e1:w4.cell? ⟨w.heap.size,k,none⟩=some (Fa x):=by rw [hw4];exact d1
     have e2:w4.cell? ⟨g1,m,none⟩=some (Fa y):=by rw [hw4];exact d2
     have e3:w4.cell? ⟨g3,k+m,none⟩=some (Gc z):=by rw [hw4];exact d3
     clear hw4 hB hA hC hZ hD d1 d2 d3;simp only [List.take_succ_cons,List.take_zero,List.drop_succ_cons,List.drop_zero];repeat still_step
     refine wpStill_nil ?_;have e4:=hD4.frozen (k+m);have hE:=Lib.hid (hD4.set (k+m) (Gc v));go_wp2_with fail
     go_roundw
     case rel=>exact ⟨m+1,by omega,by go_num,hB4.setCell (p:=⟨g3,k+m,none⟩) (by show w.heap.size≤g3;omega) _,hA4.other (by show w.heap.size≠g3;omega) _,hC4.other (by show g1≠g3;omega) _,hZ4.other (by show g2≠g3;omega) _,by rw [HSN.out,HSk.out,List.map_set];exact hE.out⟩
     case measure=>simp [intOf]<;>omega
    ·obtain rfl:m=32:=by omega
     rw [show ((32:Nat):Int)=32 from rfl];have i3:IntKind.i64.wrap ((k:Int)+1)=(k:Int)+1:=IntWalk.i64_in _ (by omega);go_wp2_with fail
     go_roundw
     case rel=>exact ⟨k+1,by omega,by go_num,hB,hA,hC,hZ,by rw [HMN.out];exact hD⟩
     case measure=>simp [intOf]<;>omega
  ·obtain rfl:k=32:=by omega
   rw [show ((32:Nat):Int)=32 from rfl];rw [HDS.out] at hD;have hOw:Sd (wr.alloc (.cells #[] 5)) wr.heap.size (.slice (some ⟨wr.heap.size,0,none⟩) 0 0) []:=Sd.lit wr [] (Xaj _) (by decide);clear HM0 HMN HMS HML HMB HDS hA hC HA HB;have hB5:Below w.heap.size w (wr.alloc (.cells #[] 5)):=hB.alloc hB.size _;have hZ5:=hZ.alloc (.cells #[] 5);have hD5:=hD.alloc (.cells #[] 5);have hg3:=hD.lt;have hz5:wr.heap.size≤(wr.alloc (.cells #[] 5)).heap.size:=by simp
   go_wp2_with fail
   generalize wr.alloc (.cells #[] 5)=w5 at *;clear hB hZ hD;generalize wr.heap.size=g4 at *
   go_loopw [8,9,41] (fun v o i wr=>∃k:Nat,k≤65∧i=.int .i64 (k:Int)∧o=.int .i64 (O k:Int)∧Below w.heap.size w wr∧g4≤wr.heap.size∧Ia wr g2 (List.replicate 32 (Fa 0)) 22∧Ia wr g3 (ds.map Gc) 3∧Sd wr g4 v (Ob S k)) (fun _ _ i _=>65-(intOf i).toNat)
   case atStart=>exact ⟨0,Nat.zero_le _,rfl,by rw [H0.out];rfl,hB5,hz5,hZ5,hD5,hOw⟩
   case round=>
    clear hB5 hz5 hZ5 hD5 hOw;obtain ⟨k,hk,rfl,rfl,hB,hgz,hZ,hD,hO⟩:=hrel;by_cases hltk:k<65
    ·have i1:(0:Int)≤(k:Int):=by omega
     have i2:(k:Int)<65:=by omega
     have d1:=hD.get (H6 ds k (by rw [HDL.out];exact hltk));have y1:=HY.out k hltk;have y2:=HO.out k hltk;have y3:=HD.out k hltk;have y4:=HL.out k hk;have y5:=HXB.out k;have hp:=Lib.hid (Mh S k);have hpl:=Lib.hid (Ta S k);obtain ⟨l,HLN⟩:=qh (Ob S k);rw [HLN.out] at hp hpl hO;generalize ds.getD k 0=x at *;obtain ⟨on,HON⟩:=qh (O (k+1));rw [HON.out] at y2;generalize O k=ok at *;generalize Y k=yk at *;generalize Ec S k=q at *;have j2:IntKind.i64.wrap ((ok:Int)+(x:Int))=(yk:Int):=by rw [IntWalk.i64_in _ (by omega)];omega
     have j3:(yk:Int)%256=(q.toNat:Int):=by omega
     have j4:(yk:Int)/256=(on:Int):=by omega
     have j5:IntKind.u8.wrap (q.toNat:Int)=(q.toNat:Int):=by rw [IntKind.wrap_u8];have :=q.toNat_lt;omega
     have j6:IntKind.i64.wrap (on:Int)=(on:Int):=IntWalk.i64_in _ (by omega);have hpl2:l.length=k:=hpl.out;have hlen:l.length+ [q].length≤1000000:=by rw [hpl2];show k+1≤1000000;omega
     have HLEN:=Lib.hid hlen;clear y1 y2 y3 y4 y5 HY HO HD HL hpl2 hlen;go_wp2_with (first
      |(at_builtin
        refine Vf rfl (.tmp 48) (.tmp 52) rfl g4 _ l [q] (wr.heap.size+1) (some ⟨wr.heap.size,0,none⟩) 1 rfl (hO.kept_alloc _) rfl (fun h=>by cases h) (QD wr q) HLEN.out (by have :=hgz;simp;omega) ?_;intro v5 w5 hown5 hb5))
     go_roundw
     case rel=>
      have hb6:Below g4 wr w5:=((Below.refl _ _).alloc hgz _).trans hb5;exact ⟨k+1,by omega,by go_num,by rw [HON.out],hB.trans (hb6.mono (by omega)),Nat.le_trans hgz hb6.size,hZ.below hb6 (by omega),hD.below hb6 (by omega),by rw [hp.out];exact hown5⟩
     case measure=>simp [intOf]<;>omega
    ·obtain rfl:k=65:=by omega
     rw [show ((65:Nat):Int)=65 from rfl];have hpl:=Lib.hid (Ta S 65);obtain ⟨l,HLN⟩:=qh (Ob S 65);rw [HLN.out] at hpl hO HS;obtain ⟨A5,c5,rfl,hc5,hA5,hr5⟩:=hO.form;have CM:=Lib.hid (Qk A5 65 c5 l wr hpl.out (by decide) hr5);rw [HS.out,HRS.out] at CM;rw [hpl.out];clear HY HO HD HL H0 hO hr5 hD HXB;go_wp2_with fail
     refine CM.out.mono ?_;rintro e w6 ⟨rfl,hb6⟩;have hB6:=Ba hB hb6;have hZ6:=hZ.on hb6;clear CM hB hZ hb6;go_wp2_with (first
      |(refine Li rfl 22 _ _ rfl g2 32 (List.replicate 32 (Fa 0)) rs rfl rfl hZ6 (by simp) Ak HRL.out ?_
        intro w7 hb7 hC7 _))
     exact Mi Tryz.results22 g2 rs rfl hC7 Tryz.underlying22 Ak HRL.out rfl ⟨rfl,hB6.trans (hb7.below (by omega) hB6.size)⟩
theorem zT (ds:List Nat) (k:Nat) (hk:k<ds.length):((Ye ds k).2+ds.getD k 0)%256=Hc ds/256^k%256:=by
 have h1:=Kt ds k;have h2:=Gk (Ye ds k).1 (Mx ds k);rw [Fm] at h2;rw [←h1,Nat.add_mul_div_left _ _ (Nat.pow_pos (by decide)),Nat.div_eq_of_lt h2,Nat.zero_add,Yv ds k hk,Tg ds k hk];omega
theorem RD (a b:List UInt8) (w:World) (ha:a.length=32) (hb:b.length=32):Calls Tryz.prog 22 #[Ca a,Ca b] w (gvn (Ca (Ob (lev a*lev b%NP.LL) 32)) w):=by
 obtain ⟨xs,hxs⟩:∃xs,xs=a.map (·.toNat)++[0]:=⟨_,rfl⟩;obtain ⟨ys,hys⟩:∃ys,ys=b.map (·.toNat):=⟨_,rfl⟩;have lx:xs.length=33:=by rw [hxs,qaj,Uaj,ha];rfl
 have ly:ys.length=32:=by rw [hys,Uaj,hb]
 have bx:∀z∈xs,z≤255:=fun z hz=>by
  rw [hxs] at hz;rcases List.mem_append.1 hz with h|h
  ·have :=Gh a z h;omega
  ·rw [List.mem_singleton.1 h];decide
 have by':∀z∈ys,z≤255:=fun z hz=>by rw [hys] at hz;have :=Gh b z hz;omega
 have ga:∀k,k<32→(a.getD k 0).toNat=xs.getD k 0:=fun k hk=>by
  rw [hxs,Yaj,Yaj,List.getElem?_append_left (by rw [Uaj];omega),List.getElem?_map,xaj (by omega)];rfl
 have gb:∀k,k<32→(b.getD k 0).toNat=ys.getD k 0:=fun k hk=>by
  rw [hys,Yaj,Yaj,List.getElem?_map,xaj (by omega)];rfl
 have hv:Hc (Kf xs ys 32)=lev a*lev b:=by
  rw [OD xs ys 32 (by omega),hys,hxs,List.take_append_of_le_length (by rw [Uaj];omega),Zaj (by rw [Uaj];omega)];rfl
 have hl:(Kf xs ys 32).length=65:=by rw [Qj,lx,ly]
 have hle:=Nx xs ys bx by' 32;have ha2:=Pn a;have hb2:=Pn b;rw [ha] at ha2;rw [hb] at hb2;have hS:lev a*lev b<256^65:=by
  have h1:lev a*lev b≤256^32*256^32:=Nat.mul_le_mul (Nat.le_of_lt ha2) (Nat.le_of_lt hb2);rw [←Nat.pow_add] at h1;exact Nat.lt_of_le_of_lt h1 (by decide+kernel)
 refine Gz a b (fun i j=>Jl (Kf xs ys i) ys i (xs.getD i 0) j) (Kf xs ys 32) (fun k=>(Ye (Kf xs ys 32) k).2) (fun k=>(Ye (Kf xs ys 32) k).2+(Kf xs ys 32).getD k 0) (lev a*lev b) w ha hb (by show Kf xs ys 0=_;rw [Kf,lx,ly]) (fun i=>by show Kf xs ys (i+1)=_;rw [Kf,ly]) (fun i j hi hj=>by rw [ga i hi,gb j hj];rfl) (fun i j=>by rw [Pk,Qj,lx,ly])
  (fun i j hi=>?_) rfl hl (fun k=>Nat.le_trans (hle k) (by decide)) rfl (fun k _=>?_) (fun _ _=>rfl) (fun _ _=>rfl) (fun k hk=>?_) ?_
 ·have h:=(Gv (Kf xs ys i) ys i (xs.getD i 0) _ (Nx xs ys bx by' i) (Mr xs 255 i bx) by' j (i+j)).2 (Xaj _);have:65025*i≤65025*32:=Nat.mul_le_mul_left _ (by omega);omega
 ·exact Nat.le_trans (Rq _ (65025*32) (Dae _ _ hle) k) (by decide)
 ·rw [Mo,←hv];exact zT _ k (by rw [hl];exact hk)
 ·show _=_;rw [Zh,yaj hS]
end Go.Proofs.YtoggkhjaghkpnaaGreatDoor
namespace Go.Proofs.YtoggkhjaghkpnaaGreatDoor
open Go.ChangeShapes Go.WideShapes Go.ChangeAt Go.RowKit
theorem FH {H:Type}:(Rows.laid_fellowship_scalar_order (H:=H))=Lib.tabData .u64 ((nD NP.LL).map fun n:Nat=>(n:Int)):=by kernel_rfl
theorem JP {H:Type}:(Rows.laid_fellowship_scalar_tail (H:=H))=Lib.tabData .u64 ((nD Sh).map fun n:Nat=>(n:Int)):=by kernel_rfl
theorem MK (l:List Nat):((l.map fun n:Nat=>(n:Int)).map fun z=>Value.int .u64 z)=l.map Ga:=by
 rw [List.map_map];rfl
theorem Jv {W:World} {name:String} {g:Nat} {fuel:Nat} {l:List Nat} {cs:Array Value} {p:List MemPlace} (hg:Tryz.prog.globalNamed name=some g) (hv:W.var? Tryz.prog name=some cs)
 (hd:DataW.trod (H:=Unit) (fun _=>()) Tryz.prog W 0 (fun _=>true) false fuel 83 cs.toList=some (Lib.tabData .u64 (l.map fun n:Nat=>(n:Int)),p)):Tab W g (l.map Ga):=by
 have c2:=Lib.cells_of_tab Tryz.underlying83 Tryz.underlying49 (by kernel_rfl) (by kernel_rfl) hd;rw [MK] at c2;have e:cs=(l.map Ga).toArray:=by rw [←c2]
 rw [e] at hv;exact Tab.of_var hg hv
end Go.Proofs.YtoggkhjaghkpnaaGreatDoor
