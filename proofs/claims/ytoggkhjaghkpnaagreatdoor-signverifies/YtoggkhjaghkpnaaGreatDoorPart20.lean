/- Part 20 of what the laws of this seat share: UShare, URadix, UOf, UMany, USum, UTimes, UWith, GSquare, BCurve, JBits, BPts. -/
import Derived.Great.BuildSlice
import Derived.Deep.Cut
import Derived.IntWalk
import Derived.Test.YtoggkhjaghkpnaaGreatDoorPart19
set_option maxRecDepth 100000
set_option maxHeartbeats 8000000
namespace Go.Proofs.YtoggkhjaghkpnaaGreatDoor
open Go.RowKit
abbrev Af (v:Value):Value:=v
def Th (l:List Value):Value:=.agg (l.map Af).toArray
abbrev Jj:List Value:=Na 240++Xa
theorem At:∀w,(zeroValue 105).run Tryz.prog w=.ok (.agg Jj.toArray) w:=(zero_of_info (P:=Tryz.prog) (t:=105) (v:=.agg Jj.toArray) (n:=272) (by kernel_rfl)).1
theorem El:(Tryz.prog.info? 105).map (·.size)=some 272:=by kernel_rfl
theorem Wad {l:List UInt8} (h:l.length=32):∃a0 a1 a2 a3 a4 a5 a6 a7 a8 a9 a10 a11 a12 a13 a14 a15 a16 a17 a18 a19 a20 a21 a22 a23 a24 a25 a26 a27 a28 a29 a30 a31,l= [a0,a1,a2,a3,a4,a5,a6,a7,a8,a9,a10,a11,a12,a13,a14,a15,a16,a17,a18,a19,a20,a21,a22,a23,a24,a25,a26,a27,a28,a29,a30,a31]:=by
 match l,h with
 | [a0,a1,a2,a3,a4,a5,a6,a7,a8,a9,a10,a11,a12,a13,a14,a15,a16,a17,a18,a19,a20,a21,a22,a23,a24,a25,a26,a27,a28,a29,a30,a31],_=>exact ⟨a0,a1,a2,a3,a4,a5,a6,a7,a8,a9,a10,a11,a12,a13,a14,a15,a16,a17,a18,a19,a20,a21,a22,a23,a24,a25,a26,a27,a28,a29,a30,a31,rfl⟩
theorem JO (key:List UInt8) (hk:key.length=32) (w:World):(Instr.build 105 #[(1,Ca key)]).run Tryz.prog w=.ok (Th (Na 240++key.map Fa)) w:=by
 obtain ⟨a0,a1,a2,a3,a4,a5,a6,a7,a8,a9,a10,a11,a12,a13,a14,a15,a16,a17,a18,a19,a20,a21,a22,a23,a24,a25,a26,a27,a28,a29,a30,a31,rfl⟩:=Wad hk
 kernel_rfl
theorem G5 (g o:Nat) (w:World):(Instr.fieldAt 105 (.pointer (some ⟨g,o,none⟩)) 0).run Tryz.prog w=.ok (.pointer (some ⟨g,o,none⟩)) w:=by kernel_rfl
theorem ZC (g:Nat) (w:World):(Instr.fieldAt 105 (.pointer (some ⟨g,0,none⟩)) 0).run Tryz.prog w=.ok (.pointer (some ⟨g,0,none⟩)) w:=G5 g 0 w
theorem VJ (g o k:Nat) (ik:IntKind) (hk:k<16) (w:World):(Instr.indexAt 103 (.pointer (some ⟨g,o,none⟩)) (.int ik (k:Int))).run Tryz.prog w=.ok (.pointer (some ⟨g,o+k*15,none⟩)) w:=
 MG (by kernel_rfl) Pb g o k hk w
theorem I5 (g o m k:Nat) (ik:IntKind) (hk:k<m) (w:World):(Instr.indexAt 145 (.slice (some ⟨g,o,none⟩) m m) (.int ik (k:Int))).run Tryz.prog w=.ok (.pointer (some ⟨g,o+k*272,none⟩)) w:=
 Ky (by kernel_rfl) El g o k hk w
theorem J5 {w:World} {g:Nat} {vs:List Value} {t':TypeId} (hC:Ia w g vs t') (o:Nat) (x:List Nat) (hx:x.length=15) (hv:(vs.drop o).take 15=x.map Ga):(Instr.loadAt 55 (.pointer (some ⟨g,o,none⟩))).run Tryz.prog w=.ok (Aa x) w:=by
 have hr:=hC.range o 15;rw [hv] at hr;exact run_loadAt_mid w g o 55 (x.map Ga) _ hr Tryz.underlying55 rfl (by rw [Uaj,hx];exact Pb)
theorem xC:∀(cs:List Value) (k off:Nat) (A:List Value),off+k+cs.length≤A.length→
 (cs.zipIdx k).foldl (fun a (p:Value×Nat)=>a.setIfInBounds (off+p.2) p.1) A.toArray=(Ub A (off+k) cs).toArray
 | [],k,off,A,_=>by simp [Ub]
 |c::cs,k,off,A,h=>by
  rw [List.length_cons] at h;rw [List.zipIdx_cons,List.foldl_cons];simp only [List.setIfInBounds_toArray];rw [xC cs (k+1) off (A.set (off+k) c) (by rw [List.length_set];omega)];rw [show off+(k+1)=off+k+1 by omega,DA _ _ _ _ (by omega)]
theorem Cn (l:List Value) (off:Nat) (A:List Value) (h:off+l.length≤A.length):
 (l.toArray.zipIdx).foldl (fun a (p:Value×Nat)=>a.setIfInBounds (off+p.2) p.1) A.toArray=(Ub A off l).toArray:=by
 have e:=xC l 0 off A (by omega);simpa using e
theorem Py (l:List Value):(Th l).cells=l.toArray:=by
 show (l.map Af).toArray=l.toArray;rw [show l.map Af=l from List.map_id l]
theorem yC:∃i0,Tryz.prog.info? 105=some i0∧i0.size=272∧i0.zero=some (.agg Jj.toArray):=by
 have h:(Tryz.prog.info? 105).map (fun i=>(i.size,i.zero))=some (272,some (.agg Jj.toArray)):=by kernel_rfl
 obtain ⟨i0,h1,h2⟩:=Option.map_eq_some_iff.1 h;exact ⟨i0,h1,(Prod.mk.inj h2).1,(Prod.mk.inj h2).2⟩
theorem KO (n:Nat):∃A:List Value,A.length=n∧A.toArray=(Array.range n).map (fun x=>(Value.cells (.agg Jj.toArray))[x%(Value.cells (.agg Jj.toArray)).size]!):=
 ⟨((Array.range n).map (fun x=>(Value.cells (.agg Jj.toArray))[x%(Value.cells (.agg Jj.toArray)).size]!)).toList,by simp,Array.toArray_toList⟩
theorem IY (s:List Value) (hs:s.length=272) (w:World):(Instr.buildSlice 145 1 #[(0,Th s)]).run Tryz.prog w=.ok (.slice (some ⟨w.heap.size,0,none⟩) 1 1) (w.alloc (.cells (s.map Af).toArray 105)):=by
 obtain ⟨i0,hi0,hs0,hz0⟩:=yC;refine run_buildSlice w _ _ 1 _ _ i0 _ (by kernel_rfl) hi0 hz0 (by rw [hs0];decide) (by rw [hs0];decide) ?_;rw [hs0];obtain ⟨A,hl,hA⟩:=KO (1*272);rw [←hA];simp only [Instr.fill,Py];rw [if_neg (by simp [hs,hl])];rw [Nat.zero_mul,Cn s 0 A (by omega),Xb _ _ (by omega),show s.map Af=s from List.map_id s]
theorem JY (s t:List Value) (hs:s.length=272) (ht:t.length=272) (w:World):(Instr.buildSlice 145 2 #[(0,Th s),(1,Th t)]).run Tryz.prog w=.ok (.slice (some ⟨w.heap.size,0,none⟩) 2 2) (w.alloc (.cells ((s++t).map Af).toArray 105)):=by
 obtain ⟨i0,hi0,hs0,hz0⟩:=yC;refine run_buildSlice w _ _ 2 _ _ i0 _ (by kernel_rfl) hi0 hz0 (by rw [hs0];decide) (by rw [hs0];decide) ?_;rw [hs0];obtain ⟨A,hl,hA⟩:=KO (2*272);rw [←hA];simp only [Instr.fill,Py];rw [if_neg (by simp [hs,hl])];rw [Nat.zero_mul,Cn s 0 A (by omega)];have l1:(Ub A 0 s).length=544:=by rw [Lj _ _ _ (by omega)];omega
 rw [if_neg (by simp [ht,l1])];rw [Cn t _ _ (by omega),show (s++t).map Af=s++t from List.map_id _];have e:Ub (Ub A 0 s) (1*272) t=s++t:=by
  have e1:Ub A 0 s=s++A.drop 272:=by rw [Ub,List.take_zero,List.nil_append,Nat.zero_add,hs]
  rw [e1] at l1 ⊢;rw [Ub,show List.drop (1*272+t.length) (s++List.drop 272 A)= [] from List.drop_eq_nil_of_le (by omega),List.append_nil,List.take_append_of_le_length (by omega),Zaj (by omega)]
 rw [e]
section
variable {P:Program} {w:World} {ops:Array Oper} {rest:List Oper} {o:Oper} {a:Act} {Q:Exit→Act→World→Prop}
theorem Ji (hgd:o.guard=none) (t:TypeId) (n:Nat) (parts:List (Nat×Operand)) (ho:o.op=.buildSlice t n parts.toArray) (ps:List (Nat×Value)) (hp:(parts.map fun (i,x)=>(i,a.eval x))=ps) (e:TypeId) (vs:List Value)
 (hr:∀w,(Instr.buildSlice t n ps.toArray).run P w=.ok (.slice (some ⟨w.heap.size,0,none⟩) n n) (w.alloc (.cells vs.toArray e)))
 (h:∀w',Below w.heap.size w w'→Ia w' w.heap.size vs e→wpList P ops Q rest (a.put o.dst (.slice (some ⟨w.heap.size,0,none⟩) n n)) w'):wpList P ops Q (o::rest) a w:=
 Vk hgd t n parts ho ps hp e _ hr fun w' hw=>h w' (by rw [hw];exact (Below.refl _ _).alloc (Xaj _) _) (by rw [hw];exact Ia.new w _ _)
end
theorem KY (p:List Nat) (X:Nat→List Nat) (w:World)
 (HX0:Hid (X 0=p))
 (HL:Hid (∀j,(X j).length=15))
 (HT:Hid (∀j:Nat,j<4→∀W,Calls Tryz.prog 131 #[Aa (X j)] W (gvn (Aa (X (j+1))) W))):
 Calls Tryz.prog 106 #[Aa p] w (gvn (Aa (X 4)) w):=by
 go_enter Tryz.func106,Tryz.ntmps106;go_wp2_with (first
  |(refine Ra rfl 55 (.tmp 0) rfl (p.map Ga) rfl ?_
    intro w1 hb1 hvp1;have hB1:=hb1;have hgep:w.heap.size≤w.heap.size:=Xaj _;clear hb1;try simp only [La]
    skip)
  |(refine Ma (o:=⟨some 2,_,_,_,_,_⟩) rfl 55 rfl (Na 15) Id ?_
    intro w2 hb2 hvr2;have hB2:=Ba hB1 hb2;have hger:w.heap.size≤w1.heap.size:=hB1.size;have hvp2:=hvp1.on hb2;have hnepr:=Vaj hvp1.lt;clear hB1 hvp1 hb2;try simp only [La]
    skip))
 generalize hqr:w1.heap.size=gr at *;clear hqr
 go_loopw [3] (fun t wr=>∃j:Nat,j≤4∧t=.int .i64 (j:Int)∧Below w.heap.size w wr∧Ia wr (w.heap.size) ((X j).map Ga) 55∧Ia wr gr (Na 15) 55) (fun t _=>(4-intOf t).toNat)
 case atStart=>exact ⟨0,by decide,rfl,hB2,by rw [HX0.out];exact hvp2,hvr2⟩
 case round=>
  clear hB2 hvp2 hvr2;obtain ⟨j,hj,rfl,hBl,hvpl,hvrl⟩:=hrel;by_cases h0:j<4
  ·have i1:(0:Int)≤(j:Int):=by omega
   have i2:(j:Int)<4:=by omega
   have i3:IntKind.i64.wrap ((j:Int)+1)=(j:Int)+1:=IntWalk.i64_in _ (by omega);have CT:=Lib.hid (HT.out j h0);have Hx:=Lib.hid (HL.out j);have Hy:=Lib.hid (HL.out (j+1));clear HT HL HX0;obtain ⟨x,HXx⟩:=Nb (X j);obtain ⟨y,HXy⟩:=Nb (X (j+1));rw [HXx.out] at CT Hx hvpl;rw [HXy.out] at CT Hy;go_wp2_with (first
    |(refine Pa rfl 55 (.tmp 1) rfl w.heap.size 15 (x.map Ga) rfl hvpl Tryz.underlying55 rfl Pb (by rw [Uaj,Hx.out]) ?_
      try simp only [La]
      skip))
   refine (CT.out wr).mono ?_;rintro e w3 ⟨rfl,hb3⟩;have hB3:=Ba hBl hb3;have hvp3:=hvpl.on hb3;have hvr3:=hvrl.on hb3;clear hBl hvpl hvrl hb3;go_wp2_with (first
    |(refine Ka rfl 55 (.tmp 1) (.tmp 6) rfl w.heap.size 15 (x.map Ga) (y.map Ga) rfl rfl hvp3 (by rw [Uaj,Hx.out]) Pb (by rw [Uaj,Hy.out]) (Oa _) ?_
      intro w4 hb4 hvp4 hz4;have hB4:Below w.heap.size w w4:=hB3.trans (hb4.below hgep hB3.size);have hvr4:=hvr3.but hb4 (Ne.symm hnepr);clear hB3 hvp3 hb4 hz4 hvr3;skip))
   go_roundw
   case rel=>exact ⟨j+1,by omega,rfl,hB4,by rw [HXy.out];exact hvp4,hvr4⟩
   case measure=>simp [intOf]<;>omega
  ·obtain rfl:j=4:=by omega
   rw [show (((4:Nat)):Int)=4 from rfl];have Hx:=Lib.hid (HL.out 4);clear HT HL HX0;go_wp2_with (first
    |(refine Pa rfl 55 (.tmp 1) rfl w.heap.size 15 ((X 4).map Ga) rfl hvpl Tryz.underlying55 rfl Pb (by rw [Uaj,Hx.out]) ?_
      try simp only [La]
      skip)
    |(refine Ka rfl 55 (.tmp 2) (.tmp 8) rfl gr 15 (Na 15) ((X 4).map Ga) rfl rfl hvrl rfl Pb (by rw [Uaj,Hx.out]) (Oa _) ?_
      intro w5 hb5 hvr5 hz5;have hB5:Below w.heap.size w w5:=hBl.trans (hb5.below hger hBl.size);have hvp5:=hvpl.but hb5 hnepr;clear hBl hvrl hb5 hz5 hvpl;skip))
   exact qc Tryz.results106 gr ((X 4).map Ga) rfl hvr5 Tryz.underlying55 rfl Pb (by rw [Uaj,Hx.out]) rfl ⟨rfl,hB5⟩
theorem L5 (g o i d:Nat) (vs:List Value) (q:UInt8) (m:List Nat) (t':TypeId) (w:World) (hi:i<64) (hd:d<16) (hC:Ia w g vs t')
 (HQ:Hid (vs[o+240+i/2]? =some (Fa q)))
 (HD:Hid ((q.toNat:Int)/2^(i%2*4)%16=(d:Int)))
 (Hm:Hid (m.length=15))
 (HM:Hid ((vs.drop (o+d*15)).take 15=m.map Ga)):
 Calls Tryz.prog 108 #[.pointer (some ⟨g,o,none⟩),.int .i64 (i:Int)] w (gvn (Aa m) w):=by
 go_enter Tryz.func108,Tryz.ntmps108
 go_upto_region 1 with (first
  |(refine Ma (o:=⟨some 4,_,_,_,_,_⟩) rfl 55 rfl (Na 15) Id ?_
    intro w1 hb1 hvr1;have hB1:=hb1;have hger:w.heap.size≤w.heap.size:=Xaj _;clear hb1;try simp only [La]
    skip))
 have hC1:=hC.on hB1;have dq:=hC1.get HQ.out;have hD:=HD.out;have i1:(0:Int)≤(i:Int):=by omega
 have i2:(i:Int)<64:=by omega
 have i3:(i:Int).tdiv 2=(i:Int)/2:=Int.tdiv_eq_ediv_of_nonneg i1;have i4:(i:Int).tmod 2=(i:Int)%2:=Int.tmod_eq_emod_of_nonneg i1;have i5:IntKind.i64.wrap ((i:Int)/2)=(i:Int)/2:=IntWalk.i64_in _ (by omega);have i6:IntKind.i64.wrap ((i:Int)%2)=(i:Int)%2:=IntWalk.i64_in _ (by omega);have i7:IntKind.i64.wrap ((i:Int)%2*4)=(i:Int)%2*4:=IntWalk.i64_in _ (by omega);have i8:(0:Int)≤(i:Int)/2:=by omega
 have i9:(i:Int)/2<32:=by omega
 have i10:((i:Int)/2).toNat=i/2:=by omega
 have i11:(0:Int)≤(i:Int)%2*4:=by omega
 have i12:((i:Int)%2*4).toNat=i%2*4:=by omega
 have i13:(0:Int)≤(q.toNat:Int)/2^(i%2*4):=Int.ediv_nonneg (by omega) (Int.pow_nonneg (by decide));have i14:((q.toNat:Int)/2^(i%2*4)).tmod 16=(d:Int):=by rw [Int.tmod_eq_emod_of_nonneg i13];exact hD
 have i15:(0:Int)≤(d:Int):=by omega
 have i16:(d:Int)<16:=by omega
 have hR:w1.rangeAt g (o+d*15) (m.map Ga):=by rw [←HM.out];exact hC1.range (o+d*15) 15
 clear hD i13;go_wp2_with (first
  |(refine wpList_load_mid rfl 55 (.tmp 22) rfl g (o+d*15) rfl (m.map Ga) _ hR Tryz.underlying55 rfl (by rw [Uaj,Hm.out];exact Pb) ?_
    try simp only [La]
    skip)
  |(refine Ka rfl 55 (.tmp 4) (.tmp 23) rfl (w.heap.size) 15 (Na 15) (m.map Ga) rfl rfl hvr1 rfl Pb (by rw [Uaj,Hm.out]) (Oa _) ?_
    intro w2 hb2 hvr2 hz2;have hB2:Below w.heap.size w w2:=hB1.trans (hb2.below hger hB1.size);clear hB1 hvr1 hb2 hz2;skip))
 exact qc Tryz.results108 (w.heap.size) (m.map Ga) rfl hvr2 Tryz.underlying55 rfl Pb (by rw [Uaj,Hm.out]) rfl ⟨rfl,hB2⟩
theorem N5 (k:Nat) (hk:k<15) (w:World):(binOp .sub 3 (.int .i64 ((k+1:Nat):Int)) (.int .i64 1)).run Tryz.prog w=.ok (.int .i64 (k:Int)) w:=by
 have h:IntKind.i64.wrap (k:Int)=(k:Int):=IntWalk.i64_in _ (by omega);go_simp
def zC (p:List Nat) (key:List UInt8) (g_base:Nat) (gk:Nat) (gr:Nat) (gs:Nat) (T:Nat→List Value) (z:List Nat):List Value:=
 (Aa p)::(Ca key)::ptr g_base::ptr gk::ptr gr::ptr gs::undef::(Ca key)::(Th (T 0))::(Aa z)::ptr gs::ptr gs::ud 15 []
def Bt (p:List Nat) (key:List UInt8) (g_base:Nat) (gk:Nat) (gr:Nat) (gs:Nat) (k:Nat) (T:Nat→List Value) (z:List Nat) (u14:Value) (u15:Value) (x:List Nat) (y:List Nat):List Value:=
 (Aa p)::(Ca key)::ptr g_base::ptr gk::ptr gr::ptr gs::(.int .i64 ((k+1:Nat):Int))::(Ca key)::(Th (T 0))::(Aa z)::ptr gs::ptr gs::(.int .i64 ((k+1:Nat):Int))::(.bool (decide ((k:Int)+1<16)))::(u14)::(u15)::(.int .i64 ((k+1:Nat):Int))::(.int .i64 ((k+1:Nat):Int))::(.int .i64 (k:Int))::ptr gs::(.pointer (some ⟨gs,0+k*15,none⟩))::(Aa x)::(Aa p)::(Aa y)::ptr gs::(.pointer (some ⟨gs,0+(k+1)*15,none⟩))::undef::[]
theorem xS (p z:List Nat) (key:List UInt8) (X:Nat→List Nat) (T:Nat→List Value) (E:Value) (w:World)
 (Hp:Hid (p.length=15))
 (Hz:Hid (z.length=15))
 (Hkey:Hid (key.length=32))
 (HTl:Hid (∀k,(T k).length=272))
 (HOne:Hid (∀k,((T k).map Af).toArray.all (·.oneCell')=true))
 (HS0:Hid (Ub ((T 0).map Af) 0 (z.map Ga)=((T 1).map Af)))
 (HR:Hid (∀k:Nat,k<15→(X k).length=15∧(X (k+1)).length=15∧(∀W,Md E W→Calls Tryz.prog 107 #[Aa (X k),Aa p] W (gvn (Aa (X (k+1))) W))∧(((T (k+1)).map Af).drop (0+k*15)).take 15=(X k).map Ga∧Ub ((T (k+1)).map Af) (0+(k+1)*15) ((X (k+1)).map Ga)=((T (k+1+1)).map Af)))
 (CZ:Hid (∀W,Calls Tryz.prog 105 #[] W (gvn (Aa z) W)))
 (BS:∀w,(Instr.build 105 #[(1,Ca key)]).run Tryz.prog w=.ok (Th (T 0)) w)
 (hS:Md E w):
 Calls Tryz.prog 61 #[Aa p,Ca key] w (gvn (Th (T 16)) w):=by
 go_enter Tryz.func61,Tryz.ntmps61
 go_upto_region 2 with (first
  |(refine Ra rfl 55 (.tmp 0) rfl (p.map Ga) rfl ?_
    intro w1 hb1 hvp1;have hB1:=hb1;have hgep:w.heap.size≤w.heap.size:=Xaj _;clear hb1;try simp only [La]
    skip)
  |(refine Rb rfl 23 (.tmp 1) rfl key rfl ?_
    intro w2 hb2 hvk2 hz;clear hz;have hB2:=Ba hB1 hb2;have hgek:w.heap.size≤w1.heap.size:=hB1.size;have hvp2:=hvp1.on hb2;have hnepk:=Vaj hvp1.lt;clear hB1 hvp1 hb2;try simp only [La]
    skip)
  |(refine Ma (o:=⟨some 4,_,_,_,_,_⟩) rfl 105 rfl Jj At ?_
    intro w3 hb3 hvr3;have hB3:=Ba hB2 hb3;have hger:w.heap.size≤w2.heap.size:=hB2.size;have hvp3:=hvp2.on hb3;have hnepr:=Vaj hvp2.lt;have hvk3:=hvk2.on hb3;have hnekr:=Vaj hvk2.lt;clear hB2 hvp2 hvk2 hb3;try simp only [La]
    skip)
  |(refine Tc rfl 23 (.tmp 3) rfl w1.heap.size 32 key 5 rfl hvk3 Tryz.underlying23 za Hkey.out ?_
    try simp only [La]
    skip)
  |(refine Eb rfl 105 _ rfl [(1,Ca key)] rfl _ BS ?_
    try simp only [La]
    skip)
  |(refine Db rfl rfl 105 (.tmp 5) (.tmp 8) rfl rfl 272 Jj ((T 0).map Af) rfl rfl At rfl El (by rw [Uaj,(HTl.out 0)]) (HOne.out _) ?_
    intro w4 hb4 hvs4;have hB4:=Ba hB3 hb4;have hges:w.heap.size≤w3.heap.size:=hB3.size;have hvp4:=hvp3.on hb4;have hneps:=Vaj hvp3.lt;have hvk4:=hvk3.on hb4;have hneks:=Vaj hvk3.lt;have hvr4:=hvr3.on hb4;have hners:=Vaj hvr3.lt;clear hB3 hvp3 hvk3 hvr3 hb4;try simp only [La]
    skip))
 generalize hqk:w1.heap.size=gk at *;clear hqk;generalize hqr:w2.heap.size=gr at *;clear hqr;generalize hqs:w3.heap.size=gs at *;clear hqs;refine Mb (md:=.any) (by kernel_rfl) ?_;refine Ya (L:=[0,1,2]) (by kernel_rfl) _ _ (zC p key w.heap.size gk gr gs T z) [] 55 (Na 15) [0,1,2,3,4,5,6,7,8,12,13,14,15,16,17,18,19,20,21,22,23,24,25,26] (by kernel_rfl) (by kernel_rfl) ?_ Id ?_ (by rfl) ?_ 1 (by kernel_rfl) ?_
 ·intro p hp;exact absurd hp List.not_mem_nil
 ·repeat refine Aak rfl ?_
  exact Qa
 ·refine Aak (.inr (mC 9 rfl Tryz.func105 fun w hb=>CZ.out w)) ?_;refine Aak (.inr (mF 10 rfl (ZC _))) ?_;refine Aak (.inr (mI 11 rfl fun w=>VJ _ 0 0 .i64 (by decide) w)) ?_;exact Qa
 intro w5 g hb5 hN5 hap5;clear hN5 hap5;have hB5:=Ba hB4 hb5;have hvp5:=hvp4.on hb5;have hvk5:=hvk4.on hb5;have hvr5:=hvr4.on hb5;have hvs5:=hvs4.on hb5;clear hB4 hvp4 hvk4 hvr4 hvs4 hb5;refine Bb 3 rfl (by kernel_rfl) ?_;refine Iw rfl 55 (.tmp 11) (.tmp 9) rfl gs (0) 15 ((T 0).map Af) (z.map Ga) ((T 1).map Af) rfl rfl hvs5 (by rw [Uaj,HTl.out 0];decide) Pb (by rw [Uaj,Hz.out]) (Oa _) HS0.out ?_;intro w6 hb6 hvs6 hz6;have hB6:Below w.heap.size w w6:=hB5.trans (hb6.below hges hB5.size);have hvp6:=hvp5.but hb6 hneps;have hvk6:=hvk5.but hb6 hneks;have hvr6:=hvr5.but hb6 hners;clear hB5 hvs5 hb6 hz6 hvp5 hvk5 hvr5;rename_i K hKK;show Exit.then K _ Exit.normal (⟨(zC p key w.heap.size gk gr gs T z).toArray,[]⟩:Act) w6;simp only [Exit.then];refine hKK _ _ ?_;clear hKK K g;simp only [zC,ptr,ud];go_wp2_with fail
 replace hnepk:=Lib.hid hnepk;replace hnepr:=Lib.hid hnepr;replace hnekr:=Lib.hid hnekr;replace hneps:=Lib.hid hneps;replace hneks:=Lib.hid hneks;replace hners:=Lib.hid hners
 go_loopw [6] (fun t wr=>∃j:Nat,1≤j∧j≤16∧t=.int .i64 (j:Int)∧Below w.heap.size w wr∧Ia wr (w.heap.size) (p.map Ga) 55∧Ia wr gk (key.map Fa) 23∧Ia wr gr Jj 105∧Ia wr gs ((T j).map Af) 105) (fun t _=>(16-intOf t).toNat)
 case atStart=>exact ⟨1,Xaj _,by decide,rfl,hB6,hvp6,hvk6,hvr6,hvs6⟩
 case round=>
  clear hB6 hvp6 hvk6 hvr6 hvs6;obtain ⟨j,hj1,hj,rfl,hBl,hvpl,hvkl,hvrl,hvsl⟩:=hrel;by_cases h0:j<16
  ·obtain ⟨k,rfl⟩:∃k,j=k+1:=⟨j-1,by omega⟩;have hk:k<15:=by omega
   have i1:(0:Int)≤((k+1:Nat):Int):=by omega
   have i2:((k+1:Nat):Int)<16:=by omega
   have i3:IntKind.i64.wrap (((k+1:Nat):Int)+1)=((k+1:Nat):Int)+1:=IntWalk.i64_in _ (by omega);obtain ⟨hx1,hx2,hx3,hx4,hx5⟩:=HR.out k hk;have CA:=Lib.hid hx3;have Hx:=Lib.hid hx1;have Hy:=Lib.hid hx2;have HXx:=Lib.hid hx4;have HSk:=Lib.hid hx5;clear HR HS0 hx1 hx2 hx3 hx4 hx5;obtain ⟨x,HXz⟩:=Nb (X k);obtain ⟨y,HYz⟩:=Nb (X (k+1));rw [HXz.out] at CA Hx HXx;rw [HYz.out] at CA Hy HSk
   go_upto_region 6 with fail
   go_wp2_with fail
   replace hvpl:=hvpl.drew;replace hvkl:=hvkl.drew;replace hvrl:=hvrl.drew;replace hvsl:=hvsl.drew;have hBq:=(show Below w.heap.size w wr.drew from hBl.drew);refine wp_region_any (by kernel_rfl) ?_;refine Ya (L:=[0,1,2,3,4,5,6,7,8,9]) (by kernel_rfl) _ _ (Bt p key w.heap.size gk gr gs k T z u14 u15 x y) [] 55 (Na 15) [0,1,2,3,4,5,6,7,8,9,10,11,12,13,14,15,26] (by kernel_rfl) (by kernel_rfl) ?_ Id ?_ (by rfl) ?_ 1 (by kernel_rfl) ?_
   ·intro p hp;exact absurd hp List.not_mem_nil
   ·repeat refine Aak rfl ?_
    exact Qa
   ·refine Aak (.inr (mV 16 rfl (.inl rfl) rfl)) ?_;refine Aak (.inr (mV 17 rfl (.inl rfl) rfl)) ?_;refine Aak (.inr (Wr _ 18 rfl rfl rfl rfl (by kernel_rfl) (fun a hv=>Fh rfl _) (fun a w K hb hv hK=>Xr (.int .i64 (k:Int)) (Ff _ _ _ _ _ _ _ rfl (.int .i64 ((k+1:Nat):Int)) (.int .i64 1) _ (hv 17 (by kernel_rfl) rfl) (by rfl) w (by kernel_rfl) (N5 k hk w)) hK))) ?_;refine Aak (.inr (mF 19 rfl (ZC _))) ?_;refine Aak (.inr (mI 20 rfl fun w=>VJ _ 0 k .i64 (by omega) w)) ?_;refine Aak (.inr (mL 21 rfl fun w hb=>J5 (hvsl.on hb) (0+k*15) x Hx.out HXx.out)) ?_;refine Aak (.inr (mL 22 rfl fun w hb=>AS (hvpl.on hb) Hp.out)) ?_;refine Aak (.inr (mC 23 rfl Tryz.func107 fun w hb=>CA.out w (hS.below (Ba hBq hb)))) ?_;refine Aak (.inr (mF 24 rfl (ZC _))) ?_;refine Aak (.inr (mI 25 rfl fun w=>VJ _ 0 (k+1) .i64 (by omega) w)) ?_;exact Qa
   intro w7 g hb7 hN7 hap7;clear hN7 hap7;have hB7:=Ba (show Below w.heap.size w wr.drew from hBl.drew) hb7;have hvp7:=hvpl.on hb7;have hvk7:=hvkl.on hb7;have hvr7:=hvrl.on hb7;have hvs7:=hvsl.on hb7;clear hBl hvpl hvkl hvrl hvsl hb7 hBq;refine Bb 10 rfl (by kernel_rfl) ?_;refine Iw rfl 55 (.tmp 25) (.tmp 23) rfl gs (0+(k+1)*15) 15 ((T (k+1)).map Af) (y.map Ga) ((T (k+1+1)).map Af) rfl rfl hvs7 (by rw [Uaj,HTl.out (k+1)];omega) Pb (by rw [Uaj,Hy.out]) (Oa _) HSk.out ?_;intro w8 hb8 hvs8 hz8;have hB8:Below w.heap.size w w8:=hB7.trans (hb8.below hges hB7.size);have hvp8:=hvp7.but hb8 hneps.out;have hvk8:=hvk7.but hb8 hneks.out;have hvr8:=hvr7.but hb8 hners.out;clear hB7 hvs7 hb8 hz8 hvp7 hvk7 hvr7;rename_i K hKK;show Exit.inBlock _ (Exit.then K _) Exit.normal (⟨(Bt p key w.heap.size gk gr gs k T z u14 u15 x y).toArray,[]⟩:Act) w8;simp only [Exit.inBlock,Exit.then];refine hKK _ _ ?_;clear hKK K g;simp only [Bt,ptr];go_wp2_with fail
   go_roundw
   case rel=>exact ⟨k+1+1,by omega,by omega,rfl,hB8,hvp8,hvk8,hvr8,hvs8⟩
   case measure=>simp [intOf]<;>omega
  ·obtain rfl:j=16:=by omega
   rw [show (((16:Nat)):Int)=16 from rfl];clear HR HS0;go_wp2_with (first
    |(refine Pa rfl 105 (.tmp 5) rfl gs 272 ((T 16).map Af) rfl hvsl Tryz.underlying105 rfl El (by rw [Uaj,(HTl.out 16)]) ?_
      try simp only [La]
      skip)
    |(refine Ka rfl 105 (.tmp 4) (.tmp 26) rfl gr 272 Jj ((T 16).map Af) rfl rfl hvrl rfl El (by rw [Uaj,(HTl.out 16)]) (HOne.out _) ?_
      intro w9 hb9 hvr9 hz9;have hB9:Below w.heap.size w w9:=hBl.trans (hb9.below hger hBl.size);have hvp9:=hvpl.but hb9 hnepr.out;have hvk9:=hvkl.but hb9 hnekr.out;have hvs9:=hvsl.but hb9 (Ne.symm hners.out);clear hBl hvrl hb9 hz9 hvpl hvkl hvsl;skip))
   exact qc Tryz.results61 gr ((T 16).map Af) rfl hvr9 Tryz.underlying105 rfl El (by rw [Uaj,(HTl.out 16)]) rfl ⟨rfl,hB9⟩
def WJ (gs:Nat) (m:Nat) (g_base:Nat) (go:Nat) (k:Nat) (j:Nat) (z:List Nat) (x:List Nat) (y0:List Nat) (yj:List Nat) (mm:List Nat) (y:List Nat) (u25:Value):List Value:=
 (.slice (some ⟨gs,0,none⟩) m m)::undef::ptr g_base::ptr go::(.int .i64 (k:Int))::(.int .i64 (j:Int))::(Aa z)::(.int .i64 ((k:Int)+1))::(.bool true)::(.int .i64 ((k:Int)+1))::(.int .i64 (k:Int))::(Aa x)::(Aa y0)::(.slice (some ⟨gs,0,none⟩) m m)::(.int .i64 (m:Int))::(.int .i64 (j:Int))::(.bool true)::(.int .i64 (j:Int))::(Aa yj)::(.slice (some ⟨gs,0,none⟩) m m)::(.int .i64 (j:Int))::(.pointer (some ⟨gs,0+j*272,none⟩))::(.int .i64 (k:Int))::(Aa mm)::(Aa y)::(u25)::undef::[]
theorem LY (m gs:Nat) (vs:List Value) (z:List Nat) (X:Nat→List Nat) (Y:Nat→Nat→List Nat) (E:Value) (w:World) (hm:m≤1000000) (hC:Ia w gs (vs.map Af) 105)
 (Hz:Hid (z.length=15))
 (HXz:Hid (X 64=z))
 (HLX:Hid (∀k,(X k).length=15))
 (HR:Hid (∀k:Nat,k<64→(∀W,Calls Tryz.prog 106 #[Aa (X (k+1))] W (gvn (Aa (Y k 0)) W))∧(∀j,(Y k j).length=15)∧(∀j:Nat,j<m→∃mm:List Nat,mm.length=15∧(∀W,Ia W gs (vs.map Af) 105→Calls Tryz.prog 108 #[.pointer (some ⟨gs,0+j*272,none⟩),.int .i64 (k:Int)] W (gvn (Aa mm) W))∧(∀W,Md E W→Calls Tryz.prog 107 #[Aa (Y k j),Aa mm] W (gvn (Aa (Y k (j+1))) W)))∧Y k m=X k))
 (CZ:Hid (∀W,Calls Tryz.prog 105 #[] W (gvn (Aa z) W)))
 (hS:Md E w):
 Calls Tryz.prog 60 #[.slice (some ⟨gs,0,none⟩) m m] w (gvn (Aa (X 0)) w):=by
 go_enter Tryz.func60,Tryz.ntmps60;go_wp2_with (first
  |(refine Ma (o:=⟨some 2,_,_,_,_,_⟩) rfl 55 rfl (Na 15) Id ?_
    intro w1 hb1 hvr1;have hB1:=hb1;have hger:w.heap.size≤w.heap.size:=Xaj _;have hvh1:=hC.on hb1;have hnehr:=Vaj hC.lt;clear hC hb1;try simp only [La]
    skip))
 refine Yl 0 (fun a' w'=>∃(j go:Nat) (u5 u7 u8 u9 u10 u11 u12 u13 u14 u15 u16 u17 u18 u19 u20 u21 u22 u23 u24 u25:Value),j≤64∧Below w.heap.size w w'∧w.heap.size≤go∧gs≠go∧w.heap.size≠go∧Ia w' gs (vs.map Af) 105∧Ia w' (w.heap.size) (Na 15) 55∧Ia w' go ((X j).map Ga) 55∧
  a'= {tmps:=#[.slice (some ⟨gs,0,none⟩) m m,undef,.pointer (some ⟨w.heap.size,0,none⟩),.pointer (some ⟨go,0,none⟩),.int .i64 (j:Int),u5,Aa z,u7,u8,u9,u10,u11,u12,u13,u14,u15,u16,u17,u18,u19,u20,u21,u22,u23,u24,u25,undef],defers:=[]})
  (fun a' _=>(intOf (a'.tmps.getD 4 undef)).toNat) rfl ?_ ?_
 ·intro hp;go_wp2_with fail
  refine (CZ.out w1).mono ?_;rintro e w2 ⟨rfl,hb2⟩;have hB2:=Ba hB1 hb2;have hvh2:=hvh1.on hb2;have hvr2:=hvr1.on hb2;clear hB1 hvh1 hvr1 hb2;go_wp2_with (first
   |(refine Db rfl rfl 55 (.tmp 3) (.tmp 6) rfl rfl 15 (Na 15) (z.map Ga) rfl rfl Id rfl Pb (by rw [Uaj,Hz.out]) (Oa _) ?_
     intro w3 hb3 hvo3;have hB3:=Ba hB2 hb3;have hgeo:w.heap.size≤w2.heap.size:=hB2.size;have hvh3:=hvh2.on hb3;have hneho:=Vaj hvh2.lt;have hvr3:=hvr2.on hb3;have hnero:=Vaj hvr2.lt;clear hB2 hvh2 hvr2 hb3;try simp only [La]
     skip))
  generalize hqo:w2.heap.size=go at *;clear hqo
  go_step3
  rename_i K hK;exact hK _ _ (hp.out _ _ ⟨64,_,_,_,_,_,_,_,_,_,_,_,_,_,_,_,_,_,_,_,_,_,Xaj _,hB3,hgeo,hneho,hnero,hvh3,hvr3,by rw [HXz.out];exact hvo3,rfl⟩)
 ·clear hB1 hvh1 hvr1;rintro a' wl ⟨j,go,u5,u7,u8,u9,u10,u11,u12,u13,u14,u15,u16,u17,u18,u19,u20,u21,u22,u23,u24,u25,hj,hBl,hgeo,hneho,hnero,hvhl,hvrl,hvol,rfl⟩;by_cases h0:0<j
  ·obtain ⟨k,rfl⟩:∃k,j=k+1:=⟨j-1,by omega⟩;have hk:k<64:=by omega
   have e1:(((k+1:Nat):Int))=(k:Int)+1:=by omega
   have e2:(k:Int)+1-1=(k:Int):=by omega
   have i0:(0:Int)<(k:Int)+1:=by omega
   have i3:IntKind.i64.wrap (k:Int)=(k:Int):=IntWalk.i64_in _ (by omega);rw [e1];obtain ⟨hr1,hr2,hr3,hr4⟩:=HR.out k hk;have HXk:=Lib.hid hr4;have CRk:=Lib.hid hr1;have HYk:=Lib.hid hr2;have HSk:=Lib.hid hr3;have Hx:=Lib.hid (HLX.out (k+1));have Hy0:=Lib.hid (hr2 0);clear HR HXz HLX hr1 hr2 hr3 hr4 hj;obtain ⟨x,HXx⟩:=Nb (X (k+1));obtain ⟨y0,HY0⟩:=Nb (Y k 0);rw [HXx.out] at CRk Hx hvol;rw [HY0.out] at CRk Hy0;go_wp2_with (first
    |(refine Pa rfl 55 (.tmp 3) rfl go 15 (x.map Ga) rfl hvol Tryz.underlying55 rfl Pb (by rw [Uaj,Hx.out]) ?_
      try simp only [La]
      skip))
   refine (CRk.out wl).mono ?_;rintro e w4 ⟨rfl,hb4⟩;have hB4:=Ba hBl hb4;have hvh4:=hvhl.on hb4;have hvr4:=hvrl.on hb4;have hvo4:=hvol.on hb4;clear hBl hvhl hvrl hvol hb4;go_wp2_with (first
    |(refine Ka rfl 55 (.tmp 3) (.tmp 12) rfl go 15 (x.map Ga) (y0.map Ga) rfl rfl hvo4 (by rw [Uaj,Hx.out]) Pb (by rw [Uaj,Hy0.out]) (Oa _) ?_
      intro w5 hb5 hvo5 hz5;have hB5:Below w.heap.size w w5:=hB4.trans (hb5.below hgeo hB4.size);have hvh5:=hvh4.but hb5 hneho;have hvr5:=hvr4.but hb5 hnero;clear hB4 hvo4 hb5 hz5 hvh4 hvr4;skip))
   go_loopw [15] (fun t wr=>∃j:Nat,j≤m∧t=.int .i64 (j:Int)∧Below w.heap.size w wr∧Ia wr gs (vs.map Af) 105∧Ia wr (w.heap.size) (Na 15) 55∧Ia wr go ((Y k j).map Ga) 55) (fun t _=>((m:Int)-intOf t).toNat)
   case atStart=>exact ⟨0,Nat.zero_le _,rfl,hB5,hvh5,hvr5,by rw [HY0.out];exact hvo5⟩
   case round=>
    clear hB5 hvh5 hvr5 hvo5;obtain ⟨j,hjm,rfl,hBi,hvhi,hvri,hvoi⟩:=hrel;by_cases h1:j<m
    ·have hj1:j<m:=h1;have i4:(0:Int)≤(j:Int):=by omega
     have i5:(j:Int)<(m:Int):=by omega
     have i6:IntKind.i64.wrap ((j:Int)+1)=(j:Int)+1:=IntWalk.i64_in _ (by omega);obtain ⟨mm,hs1,hs2,hs3⟩:=HSk.out j h1;have CF:=Lib.hid hs2;have CA:=Lib.hid hs3;have Hmm:=Lib.hid hs1;have Hyj:=Lib.hid (HYk.out j);have Hy:=Lib.hid (HYk.out (j+1));clear hs1 hs2 hs3 HSk HYk HXk h1;obtain ⟨yj,HYj⟩:=Nb (Y k j);obtain ⟨y,HYy⟩:=Nb (Y k (j+1));rw [HYj.out] at CA Hyj hvoi;rw [HYy.out] at CA Hy
     go_upto_region 9 with fail
     go_wp2_with fail
     replace hvhi:=hvhi.drew;replace hvri:=hvri.drew;replace hvoi:=hvoi.drew;have hBq:=(show Below w.heap.size w wr.drew from hBi.drew);refine wp_region_any (by kernel_rfl) ?_;refine Ya (L:=[0,1,2,3,4,5,6]) (by kernel_rfl) _ _ (WJ gs m w.heap.size go k j z x y0 yj mm y u25) [] 105 Jj [0,1,2,3,4,5,6,7,8,9,10,11,12,13,14,15,16,17,25,26] (by kernel_rfl) (by kernel_rfl) ?_ At ?_ (by rfl) ?_ 1 (by kernel_rfl) ?_
     ·intro p hp;exact absurd hp List.not_mem_nil
     ·repeat refine Aak rfl ?_
      exact Qa
     ·refine Aak (.inr (mL 18 rfl fun w hb=>AS (hvoi.on hb) Hyj.out)) ?_;refine Aak (.inr (mV 19 rfl (.inl rfl) rfl)) ?_;refine Aak (.inr (mV 20 rfl (.inl rfl) rfl)) ?_;refine Aak (.inr (mI 21 rfl fun w=>I5 _ 0 m j .i64 hj1 w)) ?_;refine Aak (.inr (mV 22 rfl (.inl rfl) rfl)) ?_;refine Aak (.inr (mC 23 rfl Tryz.func108 fun w hb=>CF.out w (hvhi.on hb))) ?_;refine Aak (.inr (mC 24 rfl Tryz.func107 fun w hb=>CA.out w (hS.below (Ba hBq hb)))) ?_;exact Qa
     intro w6 g hb6 hN6 hap6;clear hN6 hap6;have hB6:=Ba (show Below w.heap.size w wr.drew from hBi.drew) hb6;have hvh6:=hvhi.on hb6;have hvr6:=hvri.on hb6;have hvo6:=hvoi.on hb6;clear hBi hvhi hvri hvoi hb6 hBq;refine Bb 7 rfl (by kernel_rfl) ?_;refine Ka rfl 55 (.tmp 3) (.tmp 24) rfl go 15 (yj.map Ga) (y.map Ga) rfl rfl hvo6 (by rw [Uaj,Hyj.out]) Pb (by rw [Uaj,Hy.out]) (Oa _) ?_;intro w7 hb7 hvo7 hz7;have hB7:Below w.heap.size w w7:=hB6.trans (hb7.below hgeo hB6.size);have hvh7:=hvh6.but hb7 hneho;have hvr7:=hvr6.but hb7 hnero;clear hB6 hvo6 hb7 hz7 hvh6 hvr6;rename_i K hKK;show Exit.inBlock _ (Exit.then K _) Exit.normal (⟨(WJ gs m w.heap.size go k j z x y0 yj mm y u25).toArray,[]⟩:Act) w7;simp only [Exit.inBlock,Exit.then];refine hKK _ _ ?_;clear hKK K g;simp only [WJ,ptr];go_wp2_with fail
     go_roundw
     case rel=>exact ⟨_,_,_,_,_,_,_,_,_,_,_,_,⟨j+1,by omega,rfl,hB7,hvh7,hvr7,by rw [HYy.out];exact hvo7⟩,rfl⟩
     case measure=>simp [intOf]<;>omega
    ·obtain rfl:m=j:=by omega
     have i5:¬(m:Int)<(m:Int):=by omega
     go_wp2_with fail
     go_step3
     exact ⟨rfl,⟨k,go,_,_,_,_,_,_,_,_,_,_,_,_,_,_,_,_,_,_,_,_,by omega,hBi,hgeo,hneho,hnero,hvhi,hvri,by rw [←HXk.out];exact hvoi,rfl⟩,by simp [intOf]<;>omega⟩
  ·obtain rfl:j=0:=by omega
   have HX0:=Lib.hid (HLX.out 0);rw [show (((0:Nat):Int))=0 from rfl];go_wp2_with (first
    |(refine Pa rfl 55 (.tmp 3) rfl go 15 ((X 0).map Ga) rfl hvol Tryz.underlying55 rfl Pb (by rw [Uaj,HX0.out]) ?_
      try simp only [La]
      skip)
    |(refine Ka rfl 55 (.tmp 2) (.tmp 26) rfl w.heap.size 15 (Na 15) ((X 0).map Ga) rfl rfl hvrl rfl Pb (by rw [Uaj,HX0.out]) (Oa _) ?_
      intro w8 hb8 hvr8 hz8;have hB8:Below w.heap.size w w8:=hBl.trans (hb8.below hger hBl.size);have hvh8:=hvhl.but hb8 hnehr;have hvo8:=hvol.but hb8 (Ne.symm hnero);clear hBl hvrl hb8 hz8 hvhl hvol;skip))
   simp only [Exit.jump];exact qc Tryz.results60 (w.heap.size) ((X 0).map Ga) rfl hvr8 Tryz.underlying55 rfl Pb (by rw [Uaj,HX0.out]) rfl ⟨rfl,hB8⟩
theorem LO (p res:List Nat) (key:List UInt8) (sv:List Value) (E:Value) (w:World)
 (Hp:Hid (p.length=15))
 (Hres:Hid (res.length=15))
 (Hkey:Hid (key.length=32))
 (Hsv:Hid (sv.length=272))
 (CM:Hid (∀W,Md E W→Calls Tryz.prog 61 #[Aa p,Ca key] W (gvn (Th sv) W)))
 (CS:Hid (∀g W,Ia W g (sv.map Af) 105→Md E W→Calls Tryz.prog 60 #[.slice (some ⟨g,0,none⟩) 1 1] W (gvn (Aa res) W)))
 (hS:Md E w):
 Calls Tryz.prog 41 #[Aa p,Ca key] w (gvn (Aa res) w):=by
 go_enter Tryz.func41,Tryz.ntmps41;go_wp2_with (first
  |(refine Ra rfl 55 (.tmp 0) rfl (p.map Ga) rfl ?_
    intro w1 hb1 hvp1;have hB1:=hb1;have hgep:w.heap.size≤w.heap.size:=Xaj _;clear hb1;try simp only [La]
    skip)
  |(refine Rb rfl 23 (.tmp 1) rfl key rfl ?_
    intro w2 hb2 hvk2 hz;clear hz;have hB2:=Ba hB1 hb2;have hgek:w.heap.size≤w1.heap.size:=hB1.size;have hvp2:=hvp1.on hb2;have hnepk:=Vaj hvp1.lt;clear hB1 hvp1 hb2;try simp only [La]
    skip)
  |(refine Ma (o:=⟨some 4,_,_,_,_,_⟩) rfl 55 rfl (Na 15) Id ?_
    intro w3 hb3 hvr3;have hB3:=Ba hB2 hb3;have hger:w.heap.size≤w2.heap.size:=hB2.size;have hvp3:=hvp2.on hb3;have hnepr:=Vaj hvp2.lt;have hvk3:=hvk2.on hb3;have hnekr:=Vaj hvk2.lt;clear hB2 hvp2 hvk2 hb3;try simp only [La]
    skip)
  |(refine Pa rfl 55 (.tmp 2) rfl w.heap.size 15 (p.map Ga) rfl hvp3 Tryz.underlying55 rfl Pb (by rw [Uaj,Hp.out]) ?_
    try simp only [La]
    skip)
  |(refine Tc rfl 23 (.tmp 3) rfl w1.heap.size 32 key 5 rfl hvk3 Tryz.underlying23 za Hkey.out ?_
    try simp only [La]
    skip))
 generalize hqk:w1.heap.size=gk at *;clear hqk;generalize hqr:w2.heap.size=gr at *;clear hqr;refine (CM.out w3 (hS.below hB3)).mono ?_;rintro e w4 ⟨rfl,hb4⟩;have hB4:=Ba hB3 hb4;have hvp4:=hvp3.on hb4;have hvk4:=hvk3.on hb4;have hvr4:=hvr3.on hb4;clear hB3 hvp3 hvk3 hvr3 hb4;go_wp2_with (first
  |(refine Ji rfl 145 1 [(0,.tmp 7)] rfl [(0,Th sv)] rfl 105 (sv.map Af) (IY sv Hsv.out) ?_
    intro w5 hb5 hvl5;have hB5:=Ba hB4 hb5;have hgel:w.heap.size≤w4.heap.size:=hB4.size;have hvp5:=hvp4.on hb5;have hnepl:=Vaj hvp4.lt;have hvk5:=hvk4.on hb5;have hnekl:=Vaj hvk4.lt;have hvr5:=hvr4.on hb5;have hnerl:=Vaj hvr4.lt;clear hB4 hvp4 hvk4 hvr4 hb5;try simp only [La]
    skip))
 generalize hql:w4.heap.size=gl at *;clear hql;refine ((CS.out gl) w5 hvl5 (hS.below hB5)).mono ?_;rintro e w6 ⟨rfl,hb6⟩;have hB6:=Ba hB5 hb6;have hvp6:=hvp5.on hb6;have hvk6:=hvk5.on hb6;have hvr6:=hvr5.on hb6;have hvl6:=hvl5.on hb6;clear hB5 hvp5 hvk5 hvr5 hvl5 hb6;go_wp2_with (first
  |(refine Ka rfl 55 (.tmp 4) (.tmp 9) rfl gr 15 (Na 15) (res.map Ga) rfl rfl hvr6 rfl Pb (by rw [Uaj,Hres.out]) (Oa _) ?_
    intro w7 hb7 hvr7 hz7;have hB7:Below w.heap.size w w7:=hB6.trans (hb7.below hger hB6.size);have hvp7:=hvp6.but hb7 hnepr;have hvk7:=hvk6.but hb7 hnekr;have hvl7:=hvl6.but hb7 (Ne.symm hnerl);clear hB6 hvr6 hb7 hz7 hvp6 hvk6 hvl6;skip))
 exact qc Tryz.results41 gr (res.map Ga) rfl hvr7 Tryz.underlying55 rfl Pb (by rw [Uaj,Hres.out]) rfl ⟨rfl,hB7⟩
theorem JE (a:Act) (hs:a.tmps.size=15) (hd:a.defers= []):∃u:Nat→Value,a=⟨(u 0::u 1::u 2::u 3::u 4::u 5::u 6::u 7::u 8::u 9::u 10::u 11::u 12::u 13::u 14::[]).toArray,[]⟩:=by
 obtain ⟨u,h⟩:=Pg 15 a hs hd;exact ⟨u,h⟩
def Qg (p q r:List Nat) (kh ks:List UInt8) (s1 s2:List Value) (i:Nat) (v:Value) (w:World):Prop:=match i with
 |0=>v=Aa p
 |1=>v=Ca kh
 |2=>v=Th s1
 |3=>v=Aa q
 |4=>v=Ca ks
 |5=>v=Th s2
 |6=>∃g,v=.slice (some ⟨g,0,none⟩) 2 2∧Ia w g ((s1++s2).map Af) 105
 |7=>v=Aa r
 |_=>True
theorem Ig {p q r:List Nat} {kh ks:List UInt8} {s1 s2:List Value} {i:Nat} {v:Value} {w w':World} (h:Qg p q r kh ks s1 s2 i v w) (hb:Below w.heap.size w w'):Qg p q r kh ks s1 s2 i v w':=by
 unfold Qg at h ⊢
 split
 all_goals first
  |exact h
  |trivial
  |(obtain ⟨g,h1,h2⟩:=h
    exact ⟨g,h1,h2.on hb⟩)
theorem yS (p q r:List Nat) (kh ks:List UInt8) (s1 s2:List Value) (E:Value) (w:World)
 (Hp:Hid (p.length=15)) (Hr:Hid (r.length=15)) (Hkh:Hid (kh.length=32)) (Hks:Hid (ks.length=32)) (H1:Hid (s1.length=272)) (H2:Hid (s2.length=272))
 (CM1:Hid (∀W,Md E W→Calls Tryz.prog 61 #[Aa p,Ca kh] W (gvn (Th s1) W)))
 (CM2:Hid (∀W,Md E W→Calls Tryz.prog 61 #[Aa q,Ca ks] W (gvn (Th s2) W)))
 (CB:Hid (∀W,Md E W→Calls Tryz.prog 40 #[] W (gvn (Aa q) W)))
 (CS:Hid (∀g W,Ia W g ((s1++s2).map Af) 105→Md E W→Calls Tryz.prog 60 #[.slice (some ⟨g,0,none⟩) 2 2] W (gvn (Aa r) W)))
 (hS:Md E w):
 Calls Tryz.prog 28 #[Aa p,Ca kh,Ca ks] w (gvn (Aa r) w):=by
 go_enter Tryz.func28,Tryz.ntmps28;go_wp2_with (first
  |(refine Ra rfl 55 (.tmp 0) rfl (p.map Ga) rfl ?_
    intro w1 hb1 hp1;have hB1:=hb1;clear hb1;try simp only [La]
    skip)
  |(refine Rb rfl 23 (.tmp 1) rfl kh rfl ?_
    intro w2 hb2 hh2 hz;clear hz;have hB2:=Ba hB1 hb2;have hp2:=hp1.on hb2;clear hB1 hp1 hb2;try simp only [La]
    skip)
  |(refine Rb rfl 23 (.tmp 2) rfl ks rfl ?_
    intro w3 hb3 hs3 hz;clear hz;have hB3:=Ba hB2 hb3;have hp3:=hp2.on hb3;have hh3:=hh2.on hb3;clear hB2 hp2 hh2 hb3;try simp only [La]
    skip)
  |(refine Ma (o:=⟨some 6,_,_,_,_,_⟩) rfl 55 rfl (Na 15) Id ?_
    intro w4 hb4 hr4;have hB4:=Ba hB3 hb4;have hge:w.heap.size≤w3.heap.size:=hB3.size;have hp4:=hp3.on hb4;have hh4:=hh3.on hb4;have hs4:=hs3.on hb4;clear hB3 hp3 hh3 hs3 hb4;try simp only [La]
    skip))
 generalize hq3:w3.heap.size=gr at *;clear hq3;generalize hq2:w2.heap.size=gs at *;clear hq2;generalize hq1:w1.heap.size=gh at *;clear hq1;have hB5:Below w.heap.size w w4.drew:=hB4.drew;have hp5:=hp4.drew;have hh5:=hh4.drew;have hs5:=hs4.drew;have hr5:=hr4.drew;refine wp_region_any (by kernel_rfl) ?_;show wpAny _ _ _ _ _ _ _ w4.drew;simp only [List.size_toArray,List.length_cons,List.length_nil,Nat.reduceAdd,Array.replicate_succ,Array.replicate_zero,List.push_toArray,List.nil_append,List.cons_append];clear hB4 hp4 hh4 hs4 hr4;generalize w4.drew=w5 at *;have rp:=hp5.range 0 15;rw [List.drop_zero,Zaj (by rw [Uaj,Hp.out];omega)] at rp;have rh:=hh5.range 0 32;rw [List.drop_zero,Zaj (by rw [Uaj,Hkh.out];omega)] at rh;have rs:=hs5.range 0 32;rw [List.drop_zero,Zaj (by rw [Uaj,Hks.out];omega)] at rs;refine Ol (L:=[0,1,2,3,4,5,6,7]) (fins:=[(#[true,true,true,true,true,true,true,true,false],1)]) (Pl w5 _ [(0,7),(1,8),(2,9),(3,10),(4,11),(5,12),(6,13),(7,14)] (Qg p q r kh ks s1 s2)) ?_ ?_ 9 _ _ _ (by kernel_rfl) ⟨Below.refl _ _,rfl,rfl,fun _ _=>rfl,?_⟩;rotate_left 2
 ·intro p hp hl;simp only [List.mem_cons,List.not_mem_nil,or_false] at hp;rcases hp with rfl|rfl|rfl|rfl|rfl|rfl|rfl|rfl;all_goals cases hl
 ·intro i hi;simp only [List.mem_cons,List.not_mem_nil,or_false] at hi;rcases hi with rfl|rfl|rfl|rfl|rfl|rfl|rfl|rfl
  ·refine Xc (slots:=[(0,7),(1,8),(2,9),(3,10),(4,11),(5,12),(6,13),(7,14)]) (prop:=Qg p q r kh ks s1 s2) (by decide) (by decide) 15 rfl (by decide) (fun _ _ _ _ h hb=>Ig h hb) (i:=0) (s:=7) (by decide) rfl rfl ?_;intro a w6 K hb hs hd hsame hfact hK;exact Jf rfl 55 (.tmp 3) rfl w.heap.size 0 (hsame 3 (by decide)) (p.map Ga) _ (Be rp hp5.lt hb) Tryz.underlying55 rfl (by rw [Uaj,Hp.out];exact Pb) (hK _ _ (Below.refl _ _) rfl)
  ·refine Xc (slots:=[(0,7),(1,8),(2,9),(3,10),(4,11),(5,12),(6,13),(7,14)]) (prop:=Qg p q r kh ks s1 s2) (by decide) (by decide) 15 rfl (by decide) (fun _ _ _ _ h hb=>Ig h hb) (i:=1) (s:=8) (by decide) rfl rfl ?_;intro a w6 K hb hs hd hsame hfact hK;exact Jf rfl 23 (.tmp 4) rfl gh 0 (hsame 4 (by decide)) (kh.map Fa) _ (Be rh hh5.lt hb) Tryz.underlying23 rfl (by rw [Uaj,Hkh.out];exact za) (hK _ _ (Below.refl _ _) rfl)
  ·refine Xc (slots:=[(0,7),(1,8),(2,9),(3,10),(4,11),(5,12),(6,13),(7,14)]) (prop:=Qg p q r kh ks s1 s2) (by decide) (by decide) 15 rfl (by decide) (fun _ _ _ _ h hb=>Ig h hb) (i:=2) (s:=9) (by decide) rfl rfl ?_;intro a w6 K hb hs hd hsame hfact hK;have s7:a.tmps.getD 7 undef=Aa p:=hfact (0,7) (by decide) (by kernel_rfl);have s8:a.tmps.getD 8 undef=Ca kh:=hfact (1,8) (by decide) (by kernel_rfl);refine If rfl 61 [.tmp 7,.tmp 8] _ rfl [Aa p,Ca kh] ?_ (Ef Tryz.func61 (by kernel_rfl) (by kernel_rfl)) (CM1.out w6 (hS.below (Ba hB5 hb))) ?_
   ·simp only [List.map_cons,List.map_nil];rw [show a.eval (.tmp 7)=Aa p from s7,show a.eval (.tmp 8)=Ca kh from s8]
   ·rintro e w7 ⟨rfl,hb7⟩;exact ⟨_,rfl,hK _ _ hb7 rfl⟩
  ·refine Xc (slots:=[(0,7),(1,8),(2,9),(3,10),(4,11),(5,12),(6,13),(7,14)]) (prop:=Qg p q r kh ks s1 s2) (by decide) (by decide) 15 rfl (by decide) (fun _ _ _ _ h hb=>Ig h hb) (i:=3) (s:=10) (by decide) rfl rfl ?_;intro a w6 K hb hs hd hsame hfact hK;refine If rfl 40 [] _ rfl [] rfl (Ef Tryz.func40 (by kernel_rfl) (by kernel_rfl)) (CB.out w6 (hS.below (Ba hB5 hb))) ?_;rintro e w7 ⟨rfl,hb7⟩;exact ⟨_,rfl,hK _ _ hb7 rfl⟩
  ·refine Xc (slots:=[(0,7),(1,8),(2,9),(3,10),(4,11),(5,12),(6,13),(7,14)]) (prop:=Qg p q r kh ks s1 s2) (by decide) (by decide) 15 rfl (by decide) (fun _ _ _ _ h hb=>Ig h hb) (i:=4) (s:=11) (by decide) rfl rfl ?_;intro a w6 K hb hs hd hsame hfact hK;exact Jf rfl 23 (.tmp 5) rfl gs 0 (hsame 5 (by decide)) (ks.map Fa) _ (Be rs hs5.lt hb) Tryz.underlying23 rfl (by rw [Uaj,Hks.out];exact za) (hK _ _ (Below.refl _ _) rfl)
  ·refine Xc (slots:=[(0,7),(1,8),(2,9),(3,10),(4,11),(5,12),(6,13),(7,14)]) (prop:=Qg p q r kh ks s1 s2) (by decide) (by decide) 15 rfl (by decide) (fun _ _ _ _ h hb=>Ig h hb) (i:=5) (s:=12) (by decide) rfl rfl ?_;intro a w6 K hb hs hd hsame hfact hK;have s10:a.tmps.getD 10 undef=Aa q:=hfact (3,10) (by decide) (by kernel_rfl);have s11:a.tmps.getD 11 undef=Ca ks:=hfact (4,11) (by decide) (by kernel_rfl);refine If rfl 61 [.tmp 10,.tmp 11] _ rfl [Aa q,Ca ks] ?_ (Ef Tryz.func61 (by kernel_rfl) (by kernel_rfl)) (CM2.out w6 (hS.below (Ba hB5 hb))) ?_
   ·simp only [List.map_cons,List.map_nil];rw [show a.eval (.tmp 10)=Aa q from s10,show a.eval (.tmp 11)=Ca ks from s11]
   ·rintro e w7 ⟨rfl,hb7⟩;exact ⟨_,rfl,hK _ _ hb7 rfl⟩
  ·refine Xc (slots:=[(0,7),(1,8),(2,9),(3,10),(4,11),(5,12),(6,13),(7,14)]) (prop:=Qg p q r kh ks s1 s2) (by decide) (by decide) 15 rfl (by decide) (fun _ _ _ _ h hb=>Ig h hb) (i:=6) (s:=13) (by decide) rfl rfl ?_;intro a w6 K hb hs hd hsame hfact hK;have s9:a.tmps.getD 9 undef=Th s1:=hfact (2,9) (by decide) (by kernel_rfl);have s12:a.tmps.getD 12 undef=Th s2:=hfact (5,12) (by decide) (by kernel_rfl);refine Nn rfl 145 2 [(0,.tmp 9),(1,.tmp 12)] rfl [(0,Th s1),(1,Th s2)] ?_ 105 ((s1++s2).map Af) (JY s1 s2 H1.out H2.out) (fun w' hb' hc'=>hK _ _ hb' ⟨_,rfl,hc'⟩);simp only [List.map_cons,List.map_nil];rw [show a.eval (.tmp 9)=Th s1 from s9,show a.eval (.tmp 12)=Th s2 from s12]
  ·refine Xc (slots:=[(0,7),(1,8),(2,9),(3,10),(4,11),(5,12),(6,13),(7,14)]) (prop:=Qg p q r kh ks s1 s2) (by decide) (by decide) 15 rfl (by decide) (fun _ _ _ _ h hb=>Ig h hb) (i:=7) (s:=14) (by decide) rfl rfl ?_;intro a w6 K hb hs hd hsame hfact hK;obtain ⟨gl,s13,hl2⟩:=hfact (6,13) (by decide) (by kernel_rfl);refine If rfl 60 [.tmp 13] _ rfl [.slice (some ⟨gl,0,none⟩) 2 2] ?_ (Ef Tryz.func60 (by kernel_rfl) (by kernel_rfl)) (CS.out gl w6 hl2 (hS.below (Ba hB5 hb))) ?_
   ·simp only [List.map_cons,List.map_nil];rw [show a.eval (.tmp 13)=.slice (some ⟨gl,0,none⟩) 2 2 from s13]
   ·rintro e w7 ⟨rfl,hb7⟩;exact ⟨_,rfl,hK _ _ hb7 rfl⟩
 ·intro f hf a w6 hA;obtain rfl:=List.mem_singleton.1 hf;have hB6:=Ba hB5 hA.below;have hr6:=hr5.on hA.below;have s6:=hA.same 6 (by decide);have s14:a.tmps.getD 14 undef=Aa r:=hA.fact (7,14) (by decide) (by kernel_rfl);obtain ⟨u,rfl⟩:=JE a hA.size hA.defers;change u 6=.pointer (some ⟨gr,0,none⟩) at s6;change u 14=_ at s14;rw [s6,s14];clear s6 s14 hA hB5 hp5 hh5 hs5 hr5 rp rh rs CM1 CM2 CB CS;refine Bb 8 rfl (by kernel_rfl) ?_;simp only [List.drop_succ_cons,List.drop_zero];refine Ka rfl 55 (.tmp 6) (.tmp 14) rfl gr 15 (Na 15) (r.map Ga) rfl rfl hr6 rfl Pb (by rw [Uaj,Hr.out]) (Oa _) ?_;intro w8 hb8 hr8 hz8;have hB8:Below w.heap.size w w8:=hB6.trans (hb8.below hge hB6.size);clear hB6 hr6 hb8 hz8;rename_i K hKK;show Exit.then K _ Exit.normal _ w8;simp only [Exit.then];refine hKK _ _ ?_;clear hKK K
  go_wp2
  exact qc Tryz.results28 gr (r.map Ga) rfl hr8 Tryz.underlying55 rfl Pb (by rw [Uaj,Hr.out]) rfl ⟨rfl,hB8⟩
theorem VG (r:Nat) (h:r%2=1):(pp-r)%pp=pp-r:=yaj (by simp only [pp];omega)
theorem O5 (r:Nat) (hr:r<pp):Ym r%2=0:=by
 rw [Ym]
 split
 ·rename_i h;rw [VG r h];simp only [pp] at *;omega
 ·omega
theorem qC (P r:Nat) (hr:r≤P):(P-r)*(P-r)%P=r*r%P:=by
 rw [NP.cg];rw [Int.natCast_mul,Int.natCast_mul,Int.natCast_sub hr];exact ⟨(P:Int)-2*r,by grind⟩
theorem P5 (r:Nat) (hr:r<pp):Ym r*Ym r%pp=r*r%pp:=by
 rw [Ym]
 split
 ·rename_i h;rw [VG r h];exact qC pp r (Nat.le_of_lt hr)
 ·rfl
theorem MO {n:Nat} (h:Fj n=true):xg n*xg n%pp=n:=by
 rw [xg,if_pos h,P5 _ (OI n)];rw [Fj] at h;exact of_decide_eq_true h
theorem NO (n:Nat):xg n%2=0:=by
 rw [xg]
 split
 ·exact O5 _ (OI n)
 ·rfl
theorem AD (x:Nat) (hx:x<pp):Fj (x*x%pp)=true:=by
 obtain ⟨k,hk⟩:∃k,k+1=7237005577332262213973186563042994240829374041602535252466099000494570602494:=⟨7237005577332262213973186563042994240829374041602535252466099000494570602493,by decide⟩;have hp:pp=8*k+5:=by simp only [pp];omega
 rw [AV k hk];exact NP.isS_square NP.pr_P hp Zu hx
theorem Q5 (x:Nat) (hx:x<pp):xg (x*x%pp)=if x%2=1 then pp-x else x:=by
 have h1:=MO (AD x hx);have h2:=NO (x*x%pp);have h3:=xu (x*x%pp);generalize xg (x*x%pp)=r at *;have hp:pp%2=1:=by decide
 rcases NP.same_square NP.pr_P h3 hx h1 with h|h
 ·subst h;rw [if_neg (by omega)]
 ·change (r+x)%pp=0 at h;have h4:r+x=0∨r+x=pp:=by
   generalize pp=P at *;rcases Nat.lt_or_ge (r+x) P with h5|h5
   ·rw [yaj h5] at h;exact .inl h
   ·rw [Nat.mod_eq_sub_mod h5,yaj (by omega)] at h;exact .inr (by omega)
  generalize pp=P at *;rcases h4 with h5|h5
  ·rw [if_neg (by omega)];omega
  ·rw [if_pos (by omega)];omega
theorem Dn:∀a b:List UInt8,a.length=b.length→lev a=lev b→a=b
 | [],[],_,_=>rfl
 |x::a,y::b,hl,h=>by
  rw [Tj,Tj] at h;have hx:=x.toNat_lt;have hy:=y.toNat_lt;rw [UInt8.toNat_inj.1 (show x.toNat=y.toNat by omega),Dn a b (Nat.succ.inj hl) (by omega)]
theorem zS:1<pp:=by decide
theorem Pab:pp=NP.PP:=rfl
namespace NP
theorem point_at {x y:Nat} (hx:x<pp) (hy:y<pp) (h:On PP dE (x:Int) (y:Int)):∃p:Pt PP dE,Pt.X p=x∧Pt.Y p=y∧RepN p (x,y,1):=by
 have ex:(x:Int)%((PP:Nat):Int)=x:=Int.emod_eq_of_lt (by omega) (by have:x<PP:=hx;omega);have ey:(y:Int)%((PP:Nat):Int)=y:=Int.emod_eq_of_lt (by omega) (by have:y<PP:=hy;omega);refine ⟨⟨x,y,h,ex,ey⟩,Int.toNat_natCast x,Int.toNat_natCast y,⟨edw.prime.not_one,?_,?_⟩,hx,hy,zS⟩
 ·show Cg _ (x:Int) ((x:Int)*((1:Nat):Int));rw [show ((1:Nat):Int)=1 from rfl,Int.mul_one];exact Cg.refl _
 ·show Cg _ (y:Int) ((y:Int)*((1:Nat):Int));rw [show ((1:Nat):Int)=1 from rfl,Int.mul_one];exact Cg.refl _
theorem Pt.own (p:Pt PP dE):RepN p (Pt.X p,Pt.Y p,1):=by
 obtain ⟨h1,h2⟩:=Pt.X_is p;obtain ⟨h3,h4⟩:=Pt.Y_is p;refine ⟨⟨edw.prime.not_one,?_,?_⟩,h2,h4,zS⟩
 ·show Cg _ ((Pt.X p:Nat):Int) (p.x*((1:Nat):Int));rw [h1,show ((1:Nat):Int)=1 from rfl,Int.mul_one];exact Cg.refl _
 ·show Cg _ ((Pt.Y p:Nat):Int) (p.y*((1:Nat):Int));rw [h3,show ((1:Nat):Int)=1 from rfl,Int.mul_one];exact Cg.refl _
theorem den_not (y:Int):¬((PP:Nat):Int)∣dE*(y*y)+1:=fun h=>by
 obtain ⟨c,hc⟩:=h;obtain ⟨j,hj⟩:=edw.root;have h1:=edw.non iE y ⟨j-c,by rw [Int.mul_sub,←hc,←hj];omega⟩;obtain ⟨v,hv⟩:=h1;refine edw.prime.not_one ⟨c-dE*(v*y),?_⟩;rw [Int.mul_sub,←hc];have:((PP:Nat):Int)*((dE:Int)*(v*y))=dE*(y*y):=by
  rw [Int.mul_left_comm,←Int.mul_assoc ((PP:Nat):Int),←hv]
 omega
theorem iv_one {n:Nat} (h:¬((PP:Nat):Int)∣(n:Int)):Cg ((PP:Nat):Int) ((ivN n:Nat)*(n:Int)) 1:=by
 have hn:¬PP∣n:=fun hd=>h (Int.natCast_dvd_natCast.2 hd);have hl:=pr_P.little hn;obtain ⟨k,hk⟩:∃k,pp-2=k:=⟨_,rfl⟩;have hk2:k+2=PP:=by rw [←hk];decide
 rw [show PP-1=k+1 by omega,Nat.pow_succ] at hl;have hi:ivN n=n^k%PP:=by rw [ivN,hk,Pab]
 have h3:(ivN n*n)%PP=1:=by rw [hi,Nat.mod_mul_mod];exact hl
 have h4:=(cgM PP (ivN n) n).swap;rw [h3] at h4;exact h4
theorem rat_is (y:Nat):Cg ((PP:Nat):Int) (((xj y:Nat):Int)*(dE*((y:Int)*y)+1)) ((y:Int)*y-1):=by
 have hyy:=cg_M y y;have hn:=(cg_S (fM y y) 1 (by decide)).trans (hyy.sub (Cg.refl ((1:Nat):Int)));have hd:=(cg_A (fM Ag (fM y y)) 1).trans (((cg_M Ag (fM y y)).trans ((Cg.refl (Ag:Int)).mul hyy)).add (Cg.refl ((1:Nat):Int)));rw [dNat_is] at hd;rw [show ((1:Nat):Int)=1 from rfl] at hn hd;have nz:¬((PP:Nat):Int)∣((fA (fM Ag (fM y y)) 1:Nat):Int):=fun h=>den_not y (hd.dvd h);have h1:=iv_one nz;have h2:=(cg_M (fS (fM y y) 1) (ivN (fA (fM Ag (fM y y)) 1))).mul hd.swap;refine h2.trans ?_;rw [Int.mul_assoc];have h3:=hn.mul h1;rw [Int.mul_one] at h3;exact h3
theorem rat_on {x y:Nat} (h:x*x%pp=xj y):On PP dE (x:Int) (y:Int):=by
 have h1:=rat_is y;rw [←h] at h1;have h2:=((cgM PP x x).swap.mul (Cg.refl (dE*((y:Int)*y)+1))).trans h1;obtain ⟨c,hc⟩:=h2;exact ⟨-c,by rw [Int.mul_neg,←hc];grind⟩
theorem on_rat {x y:Nat} (h:On PP dE (x:Int) (y:Int)):x*x%pp=xj y:=by
 have h1:=rat_is y;obtain ⟨c,hc⟩:=h;have h2:Cg ((PP:Nat):Int) (((x*x%pp:Nat):Int)*(dE*((y:Int)*y)+1)) ((y:Int)*y-1):=by
  refine ((cgM PP x x).mul (Cg.refl _)).trans ⟨-c,?_⟩;rw [Int.mul_neg,←hc]
  grind
 have h3:=h2.trans h1.swap;have hl:xj y<pp:=Lc _ _;have hm:x*x%pp<pp:=Nat.mod_lt _ (by decide);generalize x*x%pp=u at *;generalize xj y=v at *;have h4:((PP:Nat):Int)∣((u:Int)-v)*(dE*((y:Int)*y)+1):=by rw [Int.sub_mul];exact h3
 rcases pr_P.int h4 with h5|h5
 ·have h6:=(cg u v PP).2 h5;rw [←Pab,yaj hm,yaj hl] at h6;exact h6
 ·exact absurd h5 (den_not y)
theorem on_neg {x y:Nat} (hx:x≤pp) (h:On PP dE (x:Int) (y:Int)):On PP dE ((pp-x:Nat):Int) (y:Int):=by
 refine rat_on ?_;rw [qC pp x hx];exact on_rat h
end NP
theorem XJ (b:List UInt8) (hb:b.length=32):lev b=Fd b+(Ii b).toNat*57896044618658097711785492504343953926634992332820282019728792003956564819968∧Fd b<57896044618658097711785492504343953926634992332820282019728792003956564819968:=by
 have h1:=XB b 31 (by omega);have h2:=Pp b 31 (by omega);have h3:=A4 b hb;rw [Zaj (by omega)] at h1;rw [show (8*31:Nat)=248 from rfl,show (2:Nat)^248=452312848583266388373324160190187140051835877600158453279131187530910662656 from by decide+kernel] at h1 h2;rw [Fd,Ii,h3];have hq:=(b.getD 31 0).toNat_lt;generalize (b.getD 31 0).toNat=q at *;generalize lev b=n at *;generalize lev (b.take 31)=m at *;by_cases h:128≤q
 ·rw [decide_eq_true h,Bool.toNat_true];omega
 ·rw [decide_eq_false h,Bool.toNat_false];omega
theorem YJ (x y:Nat) (hy:y<57896044618658097711785492504343953926634992332820282019728792003956564819968):lev (ptB x y)=y+x%2*57896044618658097711785492504343953926634992332820282019728792003956564819968:=by
 rw [ptB,Zh,show (256:Nat)^32=115792089237316195423570985008687907853269984665640564039457584007913129639936 from by decide+kernel,yaj];omega
theorem Qab {n:Nat} (h:n<pp):n<57896044618658097711785492504343953926634992332820282019728792003956564819968:=Nat.lt_trans h (by decide)
theorem BD (p:NP.Pt NP.PP NP.dE):Uc (ptB (NP.Pt.X p) (NP.Pt.Y p))=true∧Rf (ptB (NP.Pt.X p) (NP.Pt.Y p))=(NP.Pt.X p,NP.Pt.Y p,1):=by
 obtain ⟨hx1,hx⟩:=NP.Pt.X_is p;obtain ⟨hy1,hy⟩:=NP.Pt.Y_is p;have hon:=p.on;rw [←hx1,←hy1] at hon;have hr:=NP.on_rat hon;generalize NP.Pt.X p=x at *;generalize NP.Pt.Y p=y at *;have hl:(ptB x y).length=32:=Dl x y;obtain ⟨h1,h2⟩:=XJ (ptB x y) hl;rw [YJ x y (Qab hy)] at h1;have hy2:Fd (ptB x y)=y:=by
  have :=Qab hy;generalize Fd (ptB x y)=r at *;generalize Ii (ptB x y)=o at *;cases o
  ·rw [Bool.toNat_false] at h1;omega
  ·rw [Bool.toNat_true] at h1;omega
 have ho:Ii (ptB x y)=decide (x%2=1):=by
  rw [hy2] at h1;generalize Ii (ptB x y)=o at *;cases o
  ·rw [Bool.toNat_false] at h1;exact (decide_eq_false (by omega)).symm
  ·rw [Bool.toNat_true] at h1;exact (decide_eq_true (by omega)).symm
 have hX:Hg (ptB x y)=if x%2=1 then pp-x else x:=by rw [Hg,hy2,←hr];exact Q5 x hx
 have hs:Fj (xj y)=true:=by rw [←hr];exact AD x hx
 have hg:Uc (ptB x y)=true:=by
  rw [Uc,hy2,ho,hX,hs,decide_eq_true hy];by_cases h:x%2=1
  ·rw [if_pos h,decide_eq_true h,decide_eq_false (by omega)];rfl
  ·rw [decide_eq_false h];rfl
 refine ⟨hg,?_⟩;rw [Rf,hg,ho,hX,hy2,cond_true];by_cases h:x%2=1
 ·rw [if_pos h,decide_eq_true h,cond_true];have e:fS 0 (pp-x)=x:=by
   rw [fS,Nat.zero_add,yaj]<;>omega
  rw [e]
 ·rw [if_neg h,decide_eq_false h,cond_false]
theorem R5 (x:Nat) (h0:x≠0) (hx:x<pp) (he:x%2=0):fS 0 x=pp-x∧pp-x<pp∧(pp-x)%2=1:=by
 have hp:pp%2=1:=by decide
 rw [fS,Nat.zero_add];generalize pp=P at *;exact ⟨yaj (by omega),by omega,by omega⟩
theorem Jr (b:List UInt8) (hb:b.length=32) (hg:Uc b=true):∃p:NP.Pt NP.PP NP.dE,Rf b=(NP.Pt.X p,NP.Pt.Y p,1)∧ptB (NP.Pt.X p) (NP.Pt.Y p)=b:=by
 obtain ⟨h1,h2⟩:=XJ b hb;have hg2:=hg;rw [Uc,Bool.and_eq_true,Bool.and_eq_true,decide_eq_true_eq,Bool.not_eq_true',Bool.and_eq_false_iff] at hg;obtain ⟨⟨hy,hs⟩,hxo⟩:=hg;have hsq:=MO hs;have hev:=NO (xj (Fd b));have hlt:=xu (xj (Fd b));have hon:=NP.rat_on hsq;rw [show xg (xj (Fd b))=Hg b from rfl] at hev hlt hon;have hne:Hg b≤pp:=Nat.le_of_lt hlt;have hp2:pp%2=1:=by decide
 cases ho:Ii b with
 |false=>
  rw [ho,Bool.toNat_false,Nat.zero_mul,Nat.add_zero] at h1;obtain ⟨p,hX,hY,-⟩:=NP.point_at hlt hy hon;refine ⟨p,?_,?_⟩
  ·rw [hX,hY,Rf,hg2,ho,cond_true,cond_false]
  ·rw [hX,hY];refine Dn _ _ (by rw [Dl,hb]) ?_;rw [YJ _ _ h2,hev,h1,Nat.zero_mul,Nat.add_zero]
 |true=>
  rw [ho,Bool.toNat_true,Nat.one_mul] at h1;have hx0:Hg b≠0:=by
   rcases hxo with h|h
   ·rw [ho] at h;cases h
   ·exact of_decide_eq_false h
  have hon2:=NP.on_neg hne hon;obtain ⟨e,hlt2,hodd⟩:=R5 (Hg b) hx0 hlt hev;obtain ⟨p,hX,hY,-⟩:=NP.point_at hlt2 hy hon2;refine ⟨p,?_,?_⟩
  ·rw [hX,hY,Rf,hg2,ho,cond_true,cond_true,e]
  ·rw [hX,hY];refine Dn _ _ (by rw [Dl,hb]) ?_;rw [YJ _ _ h2,h1];rw [hodd,Nat.one_mul]
theorem KV:∀(k:List UInt8) (i:Nat),lev k/2^i%2=(k.getD (i/8) 0).toNat/2^(i%8)%2
 | [],i=>by rw [show lev []=0 from rfl,Nat.zero_div];simp
 |b::t,i=>by
  rw [Tj];rcases Nat.lt_or_ge i 8 with h|h
  ·rw [Nat.div_eq_of_lt h,yaj h];show _=b.toNat/2^i%2;obtain ⟨j,hj⟩:∃j,j+i=7:=⟨7-i,by omega⟩;have hp:(256:Nat)=2^i*(2^j*2):=by
    rw [←Nat.pow_succ,←Nat.pow_add,show i+(j+1)=8 by omega]
   rw [hp,Nat.mul_assoc,Nat.add_mul_div_left _ _ (Nat.pow_pos (by decide)),Nat.mul_comm (2^j) 2,Nat.mul_assoc,Nat.add_mul_mod_self_left]
  ·obtain ⟨j,rfl⟩:∃j,i=j+8:=⟨i-8,by omega⟩;rw [show (j+8)/8=j/8+1 by omega,Nat.add_mod_right,List.getD_cons_succ,←KV t j,Nat.add_comm j 8,Nat.pow_add,←Nat.div_div_eq_div_mul,show (2:Nat)^8=256 from rfl];have :=b.toNat_lt;congr 2
   omega
theorem W9 (k:List UInt8) (i:Nat):Ld k i=decide (lev k/2^i%2=1):=by rw [Ld,KV]
theorem Kr (b:List UInt8) (hb:b.length=32):lev b<115792089237316195423570985008687907853269984665640564039457584007913129639936:=Gu b hb
theorem S5 (key:List UInt8):∀i,i<256→Ld key i=decide (lev key/2^i%2=1):=fun i _=>W9 key i
namespace NP
theorem withT_key {p:Pt PP dE} {t:Tri} (r:RepN p t) (kh ks:List UInt8) (hh:kh.length=32) (hs:ks.length=32):RepN (edw.add (edw.mul p (lev kh)) (edw.mul bE (lev ks))) (Te (Ld kh) (Ld ks) t Ic (Oe t Ic) 256):=
 withT_all r baseT_rep (sumT_rep r baseT_rep) (Kr kh hh) (Kr ks hs) (S5 kh) (S5 ks)
end NP
def Qd (p:NP.Pt NP.PP NP.dE):List UInt8:=ptB (NP.Pt.X p) (NP.Pt.Y p)
theorem Hf (p:NP.Pt NP.PP NP.dE):(Qd p).length=32:=Dl _ _
theorem Gq {p q:NP.Pt NP.PP NP.dE} (h:Qd p=Qd q):p=q:=by
 have h1:=(BD p).2;have h2:=(BD q).2;rw [show ptB (NP.Pt.X p) (NP.Pt.Y p)=Qd p from rfl,h] at h1;rw [show ptB (NP.Pt.X q) (NP.Pt.Y q)=Qd q from rfl,h1] at h2;have h3:=Prod.mk.inj h2;exact NP.Pt.eq_of h3.1 (Prod.mk.inj h3.2).1
theorem DD {p:NP.Pt NP.PP NP.dE} {t:Tri} (r:NP.RepN p t) (w:World):Calls Tryz.prog 33 #[Da (Pd t)] w (gvn (Ca (Qd p)) w):=by
 have h:=My t w r.lt;rw [r.over.1,r.over.2] at h;exact h
end Go.Proofs.YtoggkhjaghkpnaaGreatDoor
