/- Part 18 of what the laws of this seat share: UMany, USum, UTimes, UWith, GSquare, BCurve, JBits, BPts, UMult, YGroup. -/
import Derived.Deep.Cut
import Derived.IntWalk
import Derived.Test.YtoggkhjaghkpnaaGreatDoorPart17
set_option maxRecDepth 100000
set_option maxHeartbeats 8000000
namespace Go.Proofs.YtoggkhjaghkpnaaGreatDoor
open Go.RowKit
theorem N5 (k:Nat) (hk:k<15) (w:World):(binOp .sub 3 (.int .i64 ((k+1:Nat):Int)) (.int .i64 1)).run Tryz.prog w=.ok (.int .i64 (k:Int)) w:=by
 have h:IntKind.i64.wrap (k:Int)=(k:Int):=IntWalk.i64_in _ (by omega);go_simp
def zC (p:List Nat) (key:List UInt8) (g_base:Nat) (gk:Nat) (gr:Nat) (gs:Nat) (T:Nat→List Value) (z:List Nat):List Value:=
 (Aa p)::(Ca key)::ptr g_base::ptr gk::ptr gr::ptr gs::undef::(Ca key)::(Th (T 0))::(Aa z)::ptr gs::ptr gs::ud 15 []
def Bt (p:List Nat) (key:List UInt8) (g_base:Nat) (gk:Nat) (gr:Nat) (gs:Nat) (k:Nat) (T:Nat→List Value) (z:List Nat) (u14:Value) (u15:Value) (x:List Nat) (y:List Nat):List Value:=
 (Aa p)::(Ca key)::ptr g_base::ptr gk::ptr gr::ptr gs::(.int .i64 ((k+1:Nat):Int))::(Ca key)::(Th (T 0))::(Aa z)::ptr gs::ptr gs::(.int .i64 ((k+1:Nat):Int))::(.bool (decide ((k:Int)+1<16)))::(u14)::(u15)::(.int .i64 ((k+1:Nat):Int))::(.int .i64 ((k+1:Nat):Int))::(.int .i64 (k:Int))::ptr gs::(.pointer (some ⟨gs,0+k*15,none⟩))::(Aa x)::(Aa p)::(Aa y)::ptr gs::(.pointer (some ⟨gs,0+(k+1)*15,none⟩))::undef::[]
theorem xS (p z:List Nat) (key:List UInt8) (X:Nat→List Nat) (T:Nat→List Value) (E:Value) (w:World)
 (Hp:Hid (p.length=15))
 (Hz:Hid (z.length=15))
 (Hkey:Hid (key.length=32))
 (HTl:Hid (∀k,(T k).length=272))
 (HOne:Hid (∀k,((T k).map Af).toArray.all (·.oneCell')=true))
 (HS0:Hid (Ub ((T 0).map Af) 0 (z.map Ga)=((T 1).map Af)))
 (HR:Hid (∀k:Nat,k<15→(X k).length=15∧(X (k+1)).length=15∧(∀W,Md E W→Calls Tryz.prog 107 #[Aa (X k),Aa p] W (gvn (Aa (X (k+1))) W))∧(((T (k+1)).map Af).drop (0+k*15)).take 15=(X k).map Ga∧Ub ((T (k+1)).map Af) (0+(k+1)*15) ((X (k+1)).map Ga)=((T (k+1+1)).map Af)))
 (CZ:Hid (∀W,Calls Tryz.prog 105 #[] W (gvn (Aa z) W)))
 (BS:∀w,(Instr.build 105 #[(1,Ca key)]).run Tryz.prog w=.ok (Th (T 0)) w)
 (hS:Md E w):
 Calls Tryz.prog 61 #[Aa p,Ca key] w (gvn (Th (T 16)) w):=by
 go_enter Tryz.func61,Tryz.ntmps61
 go_upto_region 2 with (first
  |(refine Ra rfl 55 (.tmp 0) rfl (p.map Ga) rfl ?_
    intro w1 hb1 hvp1;have hB1:=hb1;have hgep:w.heap.size≤w.heap.size:=Xaj _;clear hb1;try simp only [La]
    skip)
  |(refine Rb rfl 23 (.tmp 1) rfl key rfl ?_
    intro w2 hb2 hvk2 hz;clear hz;have hB2:=Ba hB1 hb2;have hgek:w.heap.size≤w1.heap.size:=hB1.size;have hvp2:=hvp1.on hb2;have hnepk:=Vaj hvp1.lt;clear hB1 hvp1 hb2;try simp only [La]
    skip)
  |(refine Ma (o:=⟨some 4,_,_,_,_,_⟩) rfl 105 rfl Jj At ?_
    intro w3 hb3 hvr3;have hB3:=Ba hB2 hb3;have hger:w.heap.size≤w2.heap.size:=hB2.size;have hvp3:=hvp2.on hb3;have hnepr:=Vaj hvp2.lt;have hvk3:=hvk2.on hb3;have hnekr:=Vaj hvk2.lt;clear hB2 hvp2 hvk2 hb3;try simp only [La]
    skip)
  |(refine Tc rfl 23 (.tmp 3) rfl w1.heap.size 32 key 5 rfl hvk3 Tryz.underlying23 za Hkey.out ?_
    try simp only [La]
    skip)
  |(refine Eb rfl 105 _ rfl [(1,Ca key)] rfl _ BS ?_
    try simp only [La]
    skip)
  |(refine Db rfl rfl 105 (.tmp 5) (.tmp 8) rfl rfl 272 Jj ((T 0).map Af) rfl rfl At rfl El (by rw [Uaj,(HTl.out 0)]) (HOne.out _) ?_
    intro w4 hb4 hvs4;have hB4:=Ba hB3 hb4;have hges:w.heap.size≤w3.heap.size:=hB3.size;have hvp4:=hvp3.on hb4;have hneps:=Vaj hvp3.lt;have hvk4:=hvk3.on hb4;have hneks:=Vaj hvk3.lt;have hvr4:=hvr3.on hb4;have hners:=Vaj hvr3.lt;clear hB3 hvp3 hvk3 hvr3 hb4;try simp only [La]
    skip))
 generalize hqk:w1.heap.size=gk at *;clear hqk;generalize hqr:w2.heap.size=gr at *;clear hqr;generalize hqs:w3.heap.size=gs at *;clear hqs;refine Mb (md:=.any) (by kernel_rfl) ?_;refine Ya (L:=[0,1,2]) (by kernel_rfl) _ _ (zC p key w.heap.size gk gr gs T z) [] 55 (Na 15) [0,1,2,3,4,5,6,7,8,12,13,14,15,16,17,18,19,20,21,22,23,24,25,26] (by kernel_rfl) (by kernel_rfl) ?_ Id ?_ (by rfl) ?_ 1 (by kernel_rfl) ?_
 ·intro p hp;exact absurd hp List.not_mem_nil
 ·repeat refine Aak rfl ?_
  exact Qa
 ·refine Aak (.inr (mC 9 rfl Tryz.func105 fun w hb=>CZ.out w)) ?_;refine Aak (.inr (mF 10 rfl (ZC _))) ?_;refine Aak (.inr (mI 11 rfl fun w=>VJ _ 0 0 .i64 (by decide) w)) ?_;exact Qa
 intro w5 g hb5 hN5 hap5;clear hN5 hap5;have hB5:=Ba hB4 hb5;have hvp5:=hvp4.on hb5;have hvk5:=hvk4.on hb5;have hvr5:=hvr4.on hb5;have hvs5:=hvs4.on hb5;clear hB4 hvp4 hvk4 hvr4 hvs4 hb5;refine Bb 3 rfl (by kernel_rfl) ?_;refine Iw rfl 55 (.tmp 11) (.tmp 9) rfl gs (0) 15 ((T 0).map Af) (z.map Ga) ((T 1).map Af) rfl rfl hvs5 (by rw [Uaj,HTl.out 0];decide) Pb (by rw [Uaj,Hz.out]) (Oa _) HS0.out ?_;intro w6 hb6 hvs6 hz6;have hB6:Below w.heap.size w w6:=hB5.trans (hb6.below hges hB5.size);have hvp6:=hvp5.but hb6 hneps;have hvk6:=hvk5.but hb6 hneks;have hvr6:=hvr5.but hb6 hners;clear hB5 hvs5 hb6 hz6 hvp5 hvk5 hvr5;rename_i K hKK;show Exit.then K _ Exit.normal (⟨(zC p key w.heap.size gk gr gs T z).toArray,[]⟩:Act) w6;simp only [Exit.then];refine hKK _ _ ?_;clear hKK K g;simp only [zC,ptr,ud];go_wp2_with fail
 replace hnepk:=Lib.hid hnepk;replace hnepr:=Lib.hid hnepr;replace hnekr:=Lib.hid hnekr;replace hneps:=Lib.hid hneps;replace hneks:=Lib.hid hneks;replace hners:=Lib.hid hners
 go_loopw [6] (fun t wr=>∃j:Nat,1≤j∧j≤16∧t=.int .i64 (j:Int)∧Below w.heap.size w wr∧Ia wr (w.heap.size) (p.map Ga) 55∧Ia wr gk (key.map Fa) 23∧Ia wr gr Jj 105∧Ia wr gs ((T j).map Af) 105) (fun t _=>(16-intOf t).toNat)
 case atStart=>exact ⟨1,Xaj _,by decide,rfl,hB6,hvp6,hvk6,hvr6,hvs6⟩
 case round=>
  clear hB6 hvp6 hvk6 hvr6 hvs6;obtain ⟨j,hj1,hj,rfl,hBl,hvpl,hvkl,hvrl,hvsl⟩:=hrel;by_cases h0:j<16
  ·obtain ⟨k,rfl⟩:∃k,j=k+1:=⟨j-1,by omega⟩;have hk:k<15:=by omega
   have i1:(0:Int)≤((k+1:Nat):Int):=by omega
   have i2:((k+1:Nat):Int)<16:=by omega
   have i3:IntKind.i64.wrap (((k+1:Nat):Int)+1)=((k+1:Nat):Int)+1:=IntWalk.i64_in _ (by omega);obtain ⟨hx1,hx2,hx3,hx4,hx5⟩:=HR.out k hk;have CA:=Lib.hid hx3;have Hx:=Lib.hid hx1;have Hy:=Lib.hid hx2;have HXx:=Lib.hid hx4;have HSk:=Lib.hid hx5;clear HR HS0 hx1 hx2 hx3 hx4 hx5;obtain ⟨x,HXz⟩:=Nb (X k);obtain ⟨y,HYz⟩:=Nb (X (k+1));rw [HXz.out] at CA Hx HXx;rw [HYz.out] at CA Hy HSk
   go_upto_region 6 with fail
   go_wp2_with fail
   replace hvpl:=hvpl.drew;replace hvkl:=hvkl.drew;replace hvrl:=hvrl.drew;replace hvsl:=hvsl.drew;have hBq:=(show Below w.heap.size w wr.drew from hBl.drew);refine wp_region_any (by kernel_rfl) ?_;refine Ya (L:=[0,1,2,3,4,5,6,7,8,9]) (by kernel_rfl) _ _ (Bt p key w.heap.size gk gr gs k T z u14 u15 x y) [] 55 (Na 15) [0,1,2,3,4,5,6,7,8,9,10,11,12,13,14,15,26] (by kernel_rfl) (by kernel_rfl) ?_ Id ?_ (by rfl) ?_ 1 (by kernel_rfl) ?_
   ·intro p hp;exact absurd hp List.not_mem_nil
   ·repeat refine Aak rfl ?_
    exact Qa
   ·refine Aak (.inr (mV 16 rfl (.inl rfl) rfl)) ?_;refine Aak (.inr (mV 17 rfl (.inl rfl) rfl)) ?_;refine Aak (.inr (Wr _ 18 rfl rfl rfl rfl (by kernel_rfl) (fun a hv=>Fh rfl _) (fun a w K hb hv hK=>Xr (.int .i64 (k:Int)) (Ff _ _ _ _ _ _ _ rfl (.int .i64 ((k+1:Nat):Int)) (.int .i64 1) _ (hv 17 (by kernel_rfl) rfl) (by rfl) w (by kernel_rfl) (N5 k hk w)) hK))) ?_;refine Aak (.inr (mF 19 rfl (ZC _))) ?_;refine Aak (.inr (mI 20 rfl fun w=>VJ _ 0 k .i64 (by omega) w)) ?_;refine Aak (.inr (mL 21 rfl fun w hb=>J5 (hvsl.on hb) (0+k*15) x Hx.out HXx.out)) ?_;refine Aak (.inr (mL 22 rfl fun w hb=>AS (hvpl.on hb) Hp.out)) ?_;refine Aak (.inr (mC 23 rfl Tryz.func107 fun w hb=>CA.out w (hS.below (Ba hBq hb)))) ?_;refine Aak (.inr (mF 24 rfl (ZC _))) ?_;refine Aak (.inr (mI 25 rfl fun w=>VJ _ 0 (k+1) .i64 (by omega) w)) ?_;exact Qa
   intro w7 g hb7 hN7 hap7;clear hN7 hap7;have hB7:=Ba (show Below w.heap.size w wr.drew from hBl.drew) hb7;have hvp7:=hvpl.on hb7;have hvk7:=hvkl.on hb7;have hvr7:=hvrl.on hb7;have hvs7:=hvsl.on hb7;clear hBl hvpl hvkl hvrl hvsl hb7 hBq;refine Bb 10 rfl (by kernel_rfl) ?_;refine Iw rfl 55 (.tmp 25) (.tmp 23) rfl gs (0+(k+1)*15) 15 ((T (k+1)).map Af) (y.map Ga) ((T (k+1+1)).map Af) rfl rfl hvs7 (by rw [Uaj,HTl.out (k+1)];omega) Pb (by rw [Uaj,Hy.out]) (Oa _) HSk.out ?_;intro w8 hb8 hvs8 hz8;have hB8:Below w.heap.size w w8:=hB7.trans (hb8.below hges hB7.size);have hvp8:=hvp7.but hb8 hneps.out;have hvk8:=hvk7.but hb8 hneks.out;have hvr8:=hvr7.but hb8 hners.out;clear hB7 hvs7 hb8 hz8 hvp7 hvk7 hvr7;rename_i K hKK;show Exit.inBlock _ (Exit.then K _) Exit.normal (⟨(Bt p key w.heap.size gk gr gs k T z u14 u15 x y).toArray,[]⟩:Act) w8;simp only [Exit.inBlock,Exit.then];refine hKK _ _ ?_;clear hKK K g;simp only [Bt,ptr];go_wp2_with fail
   go_roundw
   case rel=>exact ⟨k+1+1,by omega,by omega,rfl,hB8,hvp8,hvk8,hvr8,hvs8⟩
   case measure=>simp [intOf]<;>omega
  ·obtain rfl:j=16:=by omega
   rw [show (((16:Nat)):Int)=16 from rfl];clear HR HS0;go_wp2_with (first
    |(refine Pa rfl 105 (.tmp 5) rfl gs 272 ((T 16).map Af) rfl hvsl Tryz.underlying105 rfl El (by rw [Uaj,(HTl.out 16)]) ?_
      try simp only [La]
      skip)
    |(refine Ka rfl 105 (.tmp 4) (.tmp 26) rfl gr 272 Jj ((T 16).map Af) rfl rfl hvrl rfl El (by rw [Uaj,(HTl.out 16)]) (HOne.out _) ?_
      intro w9 hb9 hvr9 hz9;have hB9:Below w.heap.size w w9:=hBl.trans (hb9.below hger hBl.size);have hvp9:=hvpl.but hb9 hnepr.out;have hvk9:=hvkl.but hb9 hnekr.out;have hvs9:=hvsl.but hb9 (Ne.symm hners.out);clear hBl hvrl hb9 hz9 hvpl hvkl hvsl;skip))
   exact qc Tryz.results61 gr ((T 16).map Af) rfl hvr9 Tryz.underlying105 rfl El (by rw [Uaj,(HTl.out 16)]) rfl ⟨rfl,hB9⟩
def WJ (gs:Nat) (m:Nat) (g_base:Nat) (go:Nat) (k:Nat) (j:Nat) (z:List Nat) (x:List Nat) (y0:List Nat) (yj:List Nat) (mm:List Nat) (y:List Nat) (u25:Value):List Value:=
 (.slice (some ⟨gs,0,none⟩) m m)::undef::ptr g_base::ptr go::(.int .i64 (k:Int))::(.int .i64 (j:Int))::(Aa z)::(.int .i64 ((k:Int)+1))::(.bool true)::(.int .i64 ((k:Int)+1))::(.int .i64 (k:Int))::(Aa x)::(Aa y0)::(.slice (some ⟨gs,0,none⟩) m m)::(.int .i64 (m:Int))::(.int .i64 (j:Int))::(.bool true)::(.int .i64 (j:Int))::(Aa yj)::(.slice (some ⟨gs,0,none⟩) m m)::(.int .i64 (j:Int))::(.pointer (some ⟨gs,0+j*272,none⟩))::(.int .i64 (k:Int))::(Aa mm)::(Aa y)::(u25)::undef::[]
theorem LY (m gs:Nat) (vs:List Value) (z:List Nat) (X:Nat→List Nat) (Y:Nat→Nat→List Nat) (E:Value) (w:World) (hm:m≤1000000) (hC:Ia w gs (vs.map Af) 105)
 (Hz:Hid (z.length=15))
 (HXz:Hid (X 64=z))
 (HLX:Hid (∀k,(X k).length=15))
 (HR:Hid (∀k:Nat,k<64→(∀W,Calls Tryz.prog 106 #[Aa (X (k+1))] W (gvn (Aa (Y k 0)) W))∧(∀j,(Y k j).length=15)∧(∀j:Nat,j<m→∃mm:List Nat,mm.length=15∧(∀W,Ia W gs (vs.map Af) 105→Calls Tryz.prog 108 #[.pointer (some ⟨gs,0+j*272,none⟩),.int .i64 (k:Int)] W (gvn (Aa mm) W))∧(∀W,Md E W→Calls Tryz.prog 107 #[Aa (Y k j),Aa mm] W (gvn (Aa (Y k (j+1))) W)))∧Y k m=X k))
 (CZ:Hid (∀W,Calls Tryz.prog 105 #[] W (gvn (Aa z) W)))
 (hS:Md E w):
 Calls Tryz.prog 60 #[.slice (some ⟨gs,0,none⟩) m m] w (gvn (Aa (X 0)) w):=by
 go_enter Tryz.func60,Tryz.ntmps60;go_wp2_with (first
  |(refine Ma (o:=⟨some 2,_,_,_,_,_⟩) rfl 55 rfl (Na 15) Id ?_
    intro w1 hb1 hvr1;have hB1:=hb1;have hger:w.heap.size≤w.heap.size:=Xaj _;have hvh1:=hC.on hb1;have hnehr:=Vaj hC.lt;clear hC hb1;try simp only [La]
    skip))
 refine Yl 0 (fun a' w'=>∃(j go:Nat) (u5 u7 u8 u9 u10 u11 u12 u13 u14 u15 u16 u17 u18 u19 u20 u21 u22 u23 u24 u25:Value),j≤64∧Below w.heap.size w w'∧w.heap.size≤go∧gs≠go∧w.heap.size≠go∧Ia w' gs (vs.map Af) 105∧Ia w' (w.heap.size) (Na 15) 55∧Ia w' go ((X j).map Ga) 55∧
  a'= {tmps:=#[.slice (some ⟨gs,0,none⟩) m m,undef,.pointer (some ⟨w.heap.size,0,none⟩),.pointer (some ⟨go,0,none⟩),.int .i64 (j:Int),u5,Aa z,u7,u8,u9,u10,u11,u12,u13,u14,u15,u16,u17,u18,u19,u20,u21,u22,u23,u24,u25,undef],defers:=[]})
  (fun a' _=>(intOf (a'.tmps.getD 4 undef)).toNat) rfl ?_ ?_
 ·intro hp;go_wp2_with fail
  refine (CZ.out w1).mono ?_;rintro e w2 ⟨rfl,hb2⟩;have hB2:=Ba hB1 hb2;have hvh2:=hvh1.on hb2;have hvr2:=hvr1.on hb2;clear hB1 hvh1 hvr1 hb2;go_wp2_with (first
   |(refine Db rfl rfl 55 (.tmp 3) (.tmp 6) rfl rfl 15 (Na 15) (z.map Ga) rfl rfl Id rfl Pb (by rw [Uaj,Hz.out]) (Oa _) ?_
     intro w3 hb3 hvo3;have hB3:=Ba hB2 hb3;have hgeo:w.heap.size≤w2.heap.size:=hB2.size;have hvh3:=hvh2.on hb3;have hneho:=Vaj hvh2.lt;have hvr3:=hvr2.on hb3;have hnero:=Vaj hvr2.lt;clear hB2 hvh2 hvr2 hb3;try simp only [La]
     skip))
  generalize hqo:w2.heap.size=go at *;clear hqo
  go_step3
  rename_i K hK;exact hK _ _ (hp.out _ _ ⟨64,_,_,_,_,_,_,_,_,_,_,_,_,_,_,_,_,_,_,_,_,_,Xaj _,hB3,hgeo,hneho,hnero,hvh3,hvr3,by rw [HXz.out];exact hvo3,rfl⟩)
 ·clear hB1 hvh1 hvr1;rintro a' wl ⟨j,go,u5,u7,u8,u9,u10,u11,u12,u13,u14,u15,u16,u17,u18,u19,u20,u21,u22,u23,u24,u25,hj,hBl,hgeo,hneho,hnero,hvhl,hvrl,hvol,rfl⟩;by_cases h0:0<j
  ·obtain ⟨k,rfl⟩:∃k,j=k+1:=⟨j-1,by omega⟩;have hk:k<64:=by omega
   have e1:(((k+1:Nat):Int))=(k:Int)+1:=by omega
   have e2:(k:Int)+1-1=(k:Int):=by omega
   have i0:(0:Int)<(k:Int)+1:=by omega
   have i3:IntKind.i64.wrap (k:Int)=(k:Int):=IntWalk.i64_in _ (by omega);rw [e1];obtain ⟨hr1,hr2,hr3,hr4⟩:=HR.out k hk;have HXk:=Lib.hid hr4;have CRk:=Lib.hid hr1;have HYk:=Lib.hid hr2;have HSk:=Lib.hid hr3;have Hx:=Lib.hid (HLX.out (k+1));have Hy0:=Lib.hid (hr2 0);clear HR HXz HLX hr1 hr2 hr3 hr4 hj;obtain ⟨x,HXx⟩:=Nb (X (k+1));obtain ⟨y0,HY0⟩:=Nb (Y k 0);rw [HXx.out] at CRk Hx hvol;rw [HY0.out] at CRk Hy0;go_wp2_with (first
    |(refine Pa rfl 55 (.tmp 3) rfl go 15 (x.map Ga) rfl hvol Tryz.underlying55 rfl Pb (by rw [Uaj,Hx.out]) ?_
      try simp only [La]
      skip))
   refine (CRk.out wl).mono ?_;rintro e w4 ⟨rfl,hb4⟩;have hB4:=Ba hBl hb4;have hvh4:=hvhl.on hb4;have hvr4:=hvrl.on hb4;have hvo4:=hvol.on hb4;clear hBl hvhl hvrl hvol hb4;go_wp2_with (first
    |(refine Ka rfl 55 (.tmp 3) (.tmp 12) rfl go 15 (x.map Ga) (y0.map Ga) rfl rfl hvo4 (by rw [Uaj,Hx.out]) Pb (by rw [Uaj,Hy0.out]) (Oa _) ?_
      intro w5 hb5 hvo5 hz5;have hB5:Below w.heap.size w w5:=hB4.trans (hb5.below hgeo hB4.size);have hvh5:=hvh4.but hb5 hneho;have hvr5:=hvr4.but hb5 hnero;clear hB4 hvo4 hb5 hz5 hvh4 hvr4;skip))
   go_loopw [15] (fun t wr=>∃j:Nat,j≤m∧t=.int .i64 (j:Int)∧Below w.heap.size w wr∧Ia wr gs (vs.map Af) 105∧Ia wr (w.heap.size) (Na 15) 55∧Ia wr go ((Y k j).map Ga) 55) (fun t _=>((m:Int)-intOf t).toNat)
   case atStart=>exact ⟨0,Nat.zero_le _,rfl,hB5,hvh5,hvr5,by rw [HY0.out];exact hvo5⟩
   case round=>
    clear hB5 hvh5 hvr5 hvo5;obtain ⟨j,hjm,rfl,hBi,hvhi,hvri,hvoi⟩:=hrel;by_cases h1:j<m
    ·have hj1:j<m:=h1;have i4:(0:Int)≤(j:Int):=by omega
     have i5:(j:Int)<(m:Int):=by omega
     have i6:IntKind.i64.wrap ((j:Int)+1)=(j:Int)+1:=IntWalk.i64_in _ (by omega);obtain ⟨mm,hs1,hs2,hs3⟩:=HSk.out j h1;have CF:=Lib.hid hs2;have CA:=Lib.hid hs3;have Hmm:=Lib.hid hs1;have Hyj:=Lib.hid (HYk.out j);have Hy:=Lib.hid (HYk.out (j+1));clear hs1 hs2 hs3 HSk HYk HXk h1;obtain ⟨yj,HYj⟩:=Nb (Y k j);obtain ⟨y,HYy⟩:=Nb (Y k (j+1));rw [HYj.out] at CA Hyj hvoi;rw [HYy.out] at CA Hy
     go_upto_region 9 with fail
     go_wp2_with fail
     replace hvhi:=hvhi.drew;replace hvri:=hvri.drew;replace hvoi:=hvoi.drew;have hBq:=(show Below w.heap.size w wr.drew from hBi.drew);refine wp_region_any (by kernel_rfl) ?_;refine Ya (L:=[0,1,2,3,4,5,6]) (by kernel_rfl) _ _ (WJ gs m w.heap.size go k j z x y0 yj mm y u25) [] 105 Jj [0,1,2,3,4,5,6,7,8,9,10,11,12,13,14,15,16,17,25,26] (by kernel_rfl) (by kernel_rfl) ?_ At ?_ (by rfl) ?_ 1 (by kernel_rfl) ?_
     ·intro p hp;exact absurd hp List.not_mem_nil
     ·repeat refine Aak rfl ?_
      exact Qa
     ·refine Aak (.inr (mL 18 rfl fun w hb=>AS (hvoi.on hb) Hyj.out)) ?_;refine Aak (.inr (mV 19 rfl (.inl rfl) rfl)) ?_;refine Aak (.inr (mV 20 rfl (.inl rfl) rfl)) ?_;refine Aak (.inr (mI 21 rfl fun w=>I5 _ 0 m j .i64 hj1 w)) ?_;refine Aak (.inr (mV 22 rfl (.inl rfl) rfl)) ?_;refine Aak (.inr (mC 23 rfl Tryz.func108 fun w hb=>CF.out w (hvhi.on hb))) ?_;refine Aak (.inr (mC 24 rfl Tryz.func107 fun w hb=>CA.out w (hS.below (Ba hBq hb)))) ?_;exact Qa
     intro w6 g hb6 hN6 hap6;clear hN6 hap6;have hB6:=Ba (show Below w.heap.size w wr.drew from hBi.drew) hb6;have hvh6:=hvhi.on hb6;have hvr6:=hvri.on hb6;have hvo6:=hvoi.on hb6;clear hBi hvhi hvri hvoi hb6 hBq;refine Bb 7 rfl (by kernel_rfl) ?_;refine Ka rfl 55 (.tmp 3) (.tmp 24) rfl go 15 (yj.map Ga) (y.map Ga) rfl rfl hvo6 (by rw [Uaj,Hyj.out]) Pb (by rw [Uaj,Hy.out]) (Oa _) ?_;intro w7 hb7 hvo7 hz7;have hB7:Below w.heap.size w w7:=hB6.trans (hb7.below hgeo hB6.size);have hvh7:=hvh6.but hb7 hneho;have hvr7:=hvr6.but hb7 hnero;clear hB6 hvo6 hb7 hz7 hvh6 hvr6;rename_i K hKK;show Exit.inBlock _ (Exit.then K _) Exit.normal (⟨(WJ gs m w.heap.size go k j z x y0 yj mm y u25).toArray,[]⟩:Act) w7;simp only [Exit.inBlock,Exit.then];refine hKK _ _ ?_;clear hKK K g;simp only [WJ,ptr];go_wp2_with fail
     go_roundw
     case rel=>exact ⟨_,_,_,_,_,_,_,_,_,_,_,_,⟨j+1,by omega,rfl,hB7,hvh7,hvr7,by rw [HYy.out];exact hvo7⟩,rfl⟩
     case measure=>simp [intOf]<;>omega
    ·obtain rfl:m=j:=by omega
     have i5:¬(m:Int)<(m:Int):=by omega
     go_wp2_with fail
     go_step3
     exact ⟨rfl,⟨k,go,_,_,_,_,_,_,_,_,_,_,_,_,_,_,_,_,_,_,_,_,by omega,hBi,hgeo,hneho,hnero,hvhi,hvri,by rw [←HXk.out];exact hvoi,rfl⟩,by simp [intOf]<;>omega⟩
  ·obtain rfl:j=0:=by omega
   have HX0:=Lib.hid (HLX.out 0);rw [show (((0:Nat):Int))=0 from rfl];go_wp2_with (first
    |(refine Pa rfl 55 (.tmp 3) rfl go 15 ((X 0).map Ga) rfl hvol Tryz.underlying55 rfl Pb (by rw [Uaj,HX0.out]) ?_
      try simp only [La]
      skip)
    |(refine Ka rfl 55 (.tmp 2) (.tmp 26) rfl w.heap.size 15 (Na 15) ((X 0).map Ga) rfl rfl hvrl rfl Pb (by rw [Uaj,HX0.out]) (Oa _) ?_
      intro w8 hb8 hvr8 hz8;have hB8:Below w.heap.size w w8:=hBl.trans (hb8.below hger hBl.size);have hvh8:=hvhl.but hb8 hnehr;have hvo8:=hvol.but hb8 (Ne.symm hnero);clear hBl hvrl hb8 hz8 hvhl hvol;skip))
   simp only [Exit.jump];exact qc Tryz.results60 (w.heap.size) ((X 0).map Ga) rfl hvr8 Tryz.underlying55 rfl Pb (by rw [Uaj,HX0.out]) rfl ⟨rfl,hB8⟩
theorem LO (p res:List Nat) (key:List UInt8) (sv:List Value) (E:Value) (w:World)
 (Hp:Hid (p.length=15))
 (Hres:Hid (res.length=15))
 (Hkey:Hid (key.length=32))
 (Hsv:Hid (sv.length=272))
 (CM:Hid (∀W,Md E W→Calls Tryz.prog 61 #[Aa p,Ca key] W (gvn (Th sv) W)))
 (CS:Hid (∀g W,Ia W g (sv.map Af) 105→Md E W→Calls Tryz.prog 60 #[.slice (some ⟨g,0,none⟩) 1 1] W (gvn (Aa res) W)))
 (hS:Md E w):
 Calls Tryz.prog 41 #[Aa p,Ca key] w (gvn (Aa res) w):=by
 go_enter Tryz.func41,Tryz.ntmps41;go_wp2_with (first
  |(refine Ra rfl 55 (.tmp 0) rfl (p.map Ga) rfl ?_
    intro w1 hb1 hvp1;have hB1:=hb1;have hgep:w.heap.size≤w.heap.size:=Xaj _;clear hb1;try simp only [La]
    skip)
  |(refine Rb rfl 23 (.tmp 1) rfl key rfl ?_
    intro w2 hb2 hvk2 hz;clear hz;have hB2:=Ba hB1 hb2;have hgek:w.heap.size≤w1.heap.size:=hB1.size;have hvp2:=hvp1.on hb2;have hnepk:=Vaj hvp1.lt;clear hB1 hvp1 hb2;try simp only [La]
    skip)
  |(refine Ma (o:=⟨some 4,_,_,_,_,_⟩) rfl 55 rfl (Na 15) Id ?_
    intro w3 hb3 hvr3;have hB3:=Ba hB2 hb3;have hger:w.heap.size≤w2.heap.size:=hB2.size;have hvp3:=hvp2.on hb3;have hnepr:=Vaj hvp2.lt;have hvk3:=hvk2.on hb3;have hnekr:=Vaj hvk2.lt;clear hB2 hvp2 hvk2 hb3;try simp only [La]
    skip)
  |(refine Pa rfl 55 (.tmp 2) rfl w.heap.size 15 (p.map Ga) rfl hvp3 Tryz.underlying55 rfl Pb (by rw [Uaj,Hp.out]) ?_
    try simp only [La]
    skip)
  |(refine Tc rfl 23 (.tmp 3) rfl w1.heap.size 32 key 5 rfl hvk3 Tryz.underlying23 za Hkey.out ?_
    try simp only [La]
    skip))
 generalize hqk:w1.heap.size=gk at *;clear hqk;generalize hqr:w2.heap.size=gr at *;clear hqr;refine (CM.out w3 (hS.below hB3)).mono ?_;rintro e w4 ⟨rfl,hb4⟩;have hB4:=Ba hB3 hb4;have hvp4:=hvp3.on hb4;have hvk4:=hvk3.on hb4;have hvr4:=hvr3.on hb4;clear hB3 hvp3 hvk3 hvr3 hb4;go_wp2_with (first
  |(refine Ji rfl 145 1 [(0,.tmp 7)] rfl [(0,Th sv)] rfl 105 (sv.map Af) (IY sv Hsv.out) ?_
    intro w5 hb5 hvl5;have hB5:=Ba hB4 hb5;have hgel:w.heap.size≤w4.heap.size:=hB4.size;have hvp5:=hvp4.on hb5;have hnepl:=Vaj hvp4.lt;have hvk5:=hvk4.on hb5;have hnekl:=Vaj hvk4.lt;have hvr5:=hvr4.on hb5;have hnerl:=Vaj hvr4.lt;clear hB4 hvp4 hvk4 hvr4 hb5;try simp only [La]
    skip))
 generalize hql:w4.heap.size=gl at *;clear hql;refine ((CS.out gl) w5 hvl5 (hS.below hB5)).mono ?_;rintro e w6 ⟨rfl,hb6⟩;have hB6:=Ba hB5 hb6;have hvp6:=hvp5.on hb6;have hvk6:=hvk5.on hb6;have hvr6:=hvr5.on hb6;have hvl6:=hvl5.on hb6;clear hB5 hvp5 hvk5 hvr5 hvl5 hb6;go_wp2_with (first
  |(refine Ka rfl 55 (.tmp 4) (.tmp 9) rfl gr 15 (Na 15) (res.map Ga) rfl rfl hvr6 rfl Pb (by rw [Uaj,Hres.out]) (Oa _) ?_
    intro w7 hb7 hvr7 hz7;have hB7:Below w.heap.size w w7:=hB6.trans (hb7.below hger hB6.size);have hvp7:=hvp6.but hb7 hnepr;have hvk7:=hvk6.but hb7 hnekr;have hvl7:=hvl6.but hb7 (Ne.symm hnerl);clear hB6 hvr6 hb7 hz7 hvp6 hvk6 hvl6;skip))
 exact qc Tryz.results41 gr (res.map Ga) rfl hvr7 Tryz.underlying55 rfl Pb (by rw [Uaj,Hres.out]) rfl ⟨rfl,hB7⟩
theorem JE (a:Act) (hs:a.tmps.size=15) (hd:a.defers= []):∃u:Nat→Value,a=⟨(u 0::u 1::u 2::u 3::u 4::u 5::u 6::u 7::u 8::u 9::u 10::u 11::u 12::u 13::u 14::[]).toArray,[]⟩:=by
 obtain ⟨u,h⟩:=Pg 15 a hs hd;exact ⟨u,h⟩
def Qg (p q r:List Nat) (kh ks:List UInt8) (s1 s2:List Value) (i:Nat) (v:Value) (w:World):Prop:=match i with
 |0=>v=Aa p
 |1=>v=Ca kh
 |2=>v=Th s1
 |3=>v=Aa q
 |4=>v=Ca ks
 |5=>v=Th s2
 |6=>∃g,v=.slice (some ⟨g,0,none⟩) 2 2∧Ia w g ((s1++s2).map Af) 105
 |7=>v=Aa r
 |_=>True
theorem Ig {p q r:List Nat} {kh ks:List UInt8} {s1 s2:List Value} {i:Nat} {v:Value} {w w':World} (h:Qg p q r kh ks s1 s2 i v w) (hb:Below w.heap.size w w'):Qg p q r kh ks s1 s2 i v w':=by
 unfold Qg at h ⊢
 split
 all_goals first
  |exact h
  |trivial
  |(obtain ⟨g,h1,h2⟩:=h
    exact ⟨g,h1,h2.on hb⟩)
theorem yS (p q r:List Nat) (kh ks:List UInt8) (s1 s2:List Value) (E:Value) (w:World)
 (Hp:Hid (p.length=15)) (Hr:Hid (r.length=15)) (Hkh:Hid (kh.length=32)) (Hks:Hid (ks.length=32)) (H1:Hid (s1.length=272)) (H2:Hid (s2.length=272))
 (CM1:Hid (∀W,Md E W→Calls Tryz.prog 61 #[Aa p,Ca kh] W (gvn (Th s1) W)))
 (CM2:Hid (∀W,Md E W→Calls Tryz.prog 61 #[Aa q,Ca ks] W (gvn (Th s2) W)))
 (CB:Hid (∀W,Md E W→Calls Tryz.prog 40 #[] W (gvn (Aa q) W)))
 (CS:Hid (∀g W,Ia W g ((s1++s2).map Af) 105→Md E W→Calls Tryz.prog 60 #[.slice (some ⟨g,0,none⟩) 2 2] W (gvn (Aa r) W)))
 (hS:Md E w):
 Calls Tryz.prog 28 #[Aa p,Ca kh,Ca ks] w (gvn (Aa r) w):=by
 go_enter Tryz.func28,Tryz.ntmps28;go_wp2_with (first
  |(refine Ra rfl 55 (.tmp 0) rfl (p.map Ga) rfl ?_
    intro w1 hb1 hp1;have hB1:=hb1;clear hb1;try simp only [La]
    skip)
  |(refine Rb rfl 23 (.tmp 1) rfl kh rfl ?_
    intro w2 hb2 hh2 hz;clear hz;have hB2:=Ba hB1 hb2;have hp2:=hp1.on hb2;clear hB1 hp1 hb2;try simp only [La]
    skip)
  |(refine Rb rfl 23 (.tmp 2) rfl ks rfl ?_
    intro w3 hb3 hs3 hz;clear hz;have hB3:=Ba hB2 hb3;have hp3:=hp2.on hb3;have hh3:=hh2.on hb3;clear hB2 hp2 hh2 hb3;try simp only [La]
    skip)
  |(refine Ma (o:=⟨some 6,_,_,_,_,_⟩) rfl 55 rfl (Na 15) Id ?_
    intro w4 hb4 hr4;have hB4:=Ba hB3 hb4;have hge:w.heap.size≤w3.heap.size:=hB3.size;have hp4:=hp3.on hb4;have hh4:=hh3.on hb4;have hs4:=hs3.on hb4;clear hB3 hp3 hh3 hs3 hb4;try simp only [La]
    skip))
 generalize hq3:w3.heap.size=gr at *;clear hq3;generalize hq2:w2.heap.size=gs at *;clear hq2;generalize hq1:w1.heap.size=gh at *;clear hq1;have hB5:Below w.heap.size w w4.drew:=hB4.drew;have hp5:=hp4.drew;have hh5:=hh4.drew;have hs5:=hs4.drew;have hr5:=hr4.drew;refine wp_region_any (by kernel_rfl) ?_;show wpAny _ _ _ _ _ _ _ w4.drew;simp only [List.size_toArray,List.length_cons,List.length_nil,Nat.reduceAdd,Array.replicate_succ,Array.replicate_zero,List.push_toArray,List.nil_append,List.cons_append];clear hB4 hp4 hh4 hs4 hr4;generalize w4.drew=w5 at *;have rp:=hp5.range 0 15;rw [List.drop_zero,Zaj (by rw [Uaj,Hp.out];omega)] at rp;have rh:=hh5.range 0 32;rw [List.drop_zero,Zaj (by rw [Uaj,Hkh.out];omega)] at rh;have rs:=hs5.range 0 32;rw [List.drop_zero,Zaj (by rw [Uaj,Hks.out];omega)] at rs;refine Ol (L:=[0,1,2,3,4,5,6,7]) (fins:=[(#[true,true,true,true,true,true,true,true,false],1)]) (Pl w5 _ [(0,7),(1,8),(2,9),(3,10),(4,11),(5,12),(6,13),(7,14)] (Qg p q r kh ks s1 s2)) ?_ ?_ 9 _ _ _ (by kernel_rfl) ⟨Below.refl _ _,rfl,rfl,fun _ _=>rfl,?_⟩;rotate_left 2
 ·intro p hp hl;simp only [List.mem_cons,List.not_mem_nil,or_false] at hp;rcases hp with rfl|rfl|rfl|rfl|rfl|rfl|rfl|rfl;all_goals cases hl
 ·intro i hi;simp only [List.mem_cons,List.not_mem_nil,or_false] at hi;rcases hi with rfl|rfl|rfl|rfl|rfl|rfl|rfl|rfl
  ·refine Xc (slots:=[(0,7),(1,8),(2,9),(3,10),(4,11),(5,12),(6,13),(7,14)]) (prop:=Qg p q r kh ks s1 s2) (by decide) (by decide) 15 rfl (by decide) (fun _ _ _ _ h hb=>Ig h hb) (i:=0) (s:=7) (by decide) rfl rfl ?_;intro a w6 K hb hs hd hsame hfact hK;exact Jf rfl 55 (.tmp 3) rfl w.heap.size 0 (hsame 3 (by decide)) (p.map Ga) _ (Be rp hp5.lt hb) Tryz.underlying55 rfl (by rw [Uaj,Hp.out];exact Pb) (hK _ _ (Below.refl _ _) rfl)
  ·refine Xc (slots:=[(0,7),(1,8),(2,9),(3,10),(4,11),(5,12),(6,13),(7,14)]) (prop:=Qg p q r kh ks s1 s2) (by decide) (by decide) 15 rfl (by decide) (fun _ _ _ _ h hb=>Ig h hb) (i:=1) (s:=8) (by decide) rfl rfl ?_;intro a w6 K hb hs hd hsame hfact hK;exact Jf rfl 23 (.tmp 4) rfl gh 0 (hsame 4 (by decide)) (kh.map Fa) _ (Be rh hh5.lt hb) Tryz.underlying23 rfl (by rw [Uaj,Hkh.out];exact za) (hK _ _ (Below.refl _ _) rfl)
  ·refine Xc (slots:=[(0,7),(1,8),(2,9),(3,10),(4,11),(5,12),(6,13),(7,14)]) (prop:=Qg p q r kh ks s1 s2) (by decide) (by decide) 15 rfl (by decide) (fun _ _ _ _ h hb=>Ig h hb) (i:=2) (s:=9) (by decide) rfl rfl ?_;intro a w6 K hb hs hd hsame hfact hK;have s7:a.tmps.getD 7 undef=Aa p:=hfact (0,7) (by decide) (by kernel_rfl);have s8:a.tmps.getD 8 undef=Ca kh:=hfact (1,8) (by decide) (by kernel_rfl);refine If rfl 61 [.tmp 7,.tmp 8] _ rfl [Aa p,Ca kh] ?_ (Ef Tryz.func61 (by kernel_rfl) (by kernel_rfl)) (CM1.out w6 (hS.below (Ba hB5 hb))) ?_
   ·simp only [List.map_cons,List.map_nil];rw [show a.eval (.tmp 7)=Aa p from s7,show a.eval (.tmp 8)=Ca kh from s8]
   ·rintro e w7 ⟨rfl,hb7⟩;exact ⟨_,rfl,hK _ _ hb7 rfl⟩
  ·refine Xc (slots:=[(0,7),(1,8),(2,9),(3,10),(4,11),(5,12),(6,13),(7,14)]) (prop:=Qg p q r kh ks s1 s2) (by decide) (by decide) 15 rfl (by decide) (fun _ _ _ _ h hb=>Ig h hb) (i:=3) (s:=10) (by decide) rfl rfl ?_;intro a w6 K hb hs hd hsame hfact hK;refine If rfl 40 [] _ rfl [] rfl (Ef Tryz.func40 (by kernel_rfl) (by kernel_rfl)) (CB.out w6 (hS.below (Ba hB5 hb))) ?_;rintro e w7 ⟨rfl,hb7⟩;exact ⟨_,rfl,hK _ _ hb7 rfl⟩
  ·refine Xc (slots:=[(0,7),(1,8),(2,9),(3,10),(4,11),(5,12),(6,13),(7,14)]) (prop:=Qg p q r kh ks s1 s2) (by decide) (by decide) 15 rfl (by decide) (fun _ _ _ _ h hb=>Ig h hb) (i:=4) (s:=11) (by decide) rfl rfl ?_;intro a w6 K hb hs hd hsame hfact hK;exact Jf rfl 23 (.tmp 5) rfl gs 0 (hsame 5 (by decide)) (ks.map Fa) _ (Be rs hs5.lt hb) Tryz.underlying23 rfl (by rw [Uaj,Hks.out];exact za) (hK _ _ (Below.refl _ _) rfl)
  ·refine Xc (slots:=[(0,7),(1,8),(2,9),(3,10),(4,11),(5,12),(6,13),(7,14)]) (prop:=Qg p q r kh ks s1 s2) (by decide) (by decide) 15 rfl (by decide) (fun _ _ _ _ h hb=>Ig h hb) (i:=5) (s:=12) (by decide) rfl rfl ?_;intro a w6 K hb hs hd hsame hfact hK;have s10:a.tmps.getD 10 undef=Aa q:=hfact (3,10) (by decide) (by kernel_rfl);have s11:a.tmps.getD 11 undef=Ca ks:=hfact (4,11) (by decide) (by kernel_rfl);refine If rfl 61 [.tmp 10,.tmp 11] _ rfl [Aa q,Ca ks] ?_ (Ef Tryz.func61 (by kernel_rfl) (by kernel_rfl)) (CM2.out w6 (hS.below (Ba hB5 hb))) ?_
   ·simp only [List.map_cons,List.map_nil];rw [show a.eval (.tmp 10)=Aa q from s10,show a.eval (.tmp 11)=Ca ks from s11]
   ·rintro e w7 ⟨rfl,hb7⟩;exact ⟨_,rfl,hK _ _ hb7 rfl⟩
  ·refine Xc (slots:=[(0,7),(1,8),(2,9),(3,10),(4,11),(5,12),(6,13),(7,14)]) (prop:=Qg p q r kh ks s1 s2) (by decide) (by decide) 15 rfl (by decide) (fun _ _ _ _ h hb=>Ig h hb) (i:=6) (s:=13) (by decide) rfl rfl ?_;intro a w6 K hb hs hd hsame hfact hK;have s9:a.tmps.getD 9 undef=Th s1:=hfact (2,9) (by decide) (by kernel_rfl);have s12:a.tmps.getD 12 undef=Th s2:=hfact (5,12) (by decide) (by kernel_rfl);refine Nn rfl 145 2 [(0,.tmp 9),(1,.tmp 12)] rfl [(0,Th s1),(1,Th s2)] ?_ 105 ((s1++s2).map Af) (JY s1 s2 H1.out H2.out) (fun w' hb' hc'=>hK _ _ hb' ⟨_,rfl,hc'⟩);simp only [List.map_cons,List.map_nil];rw [show a.eval (.tmp 9)=Th s1 from s9,show a.eval (.tmp 12)=Th s2 from s12]
  ·refine Xc (slots:=[(0,7),(1,8),(2,9),(3,10),(4,11),(5,12),(6,13),(7,14)]) (prop:=Qg p q r kh ks s1 s2) (by decide) (by decide) 15 rfl (by decide) (fun _ _ _ _ h hb=>Ig h hb) (i:=7) (s:=14) (by decide) rfl rfl ?_;intro a w6 K hb hs hd hsame hfact hK;obtain ⟨gl,s13,hl2⟩:=hfact (6,13) (by decide) (by kernel_rfl);refine If rfl 60 [.tmp 13] _ rfl [.slice (some ⟨gl,0,none⟩) 2 2] ?_ (Ef Tryz.func60 (by kernel_rfl) (by kernel_rfl)) (CS.out gl w6 hl2 (hS.below (Ba hB5 hb))) ?_
   ·simp only [List.map_cons,List.map_nil];rw [show a.eval (.tmp 13)=.slice (some ⟨gl,0,none⟩) 2 2 from s13]
   ·rintro e w7 ⟨rfl,hb7⟩;exact ⟨_,rfl,hK _ _ hb7 rfl⟩
 ·intro f hf a w6 hA;obtain rfl:=List.mem_singleton.1 hf;have hB6:=Ba hB5 hA.below;have hr6:=hr5.on hA.below;have s6:=hA.same 6 (by decide);have s14:a.tmps.getD 14 undef=Aa r:=hA.fact (7,14) (by decide) (by kernel_rfl);obtain ⟨u,rfl⟩:=JE a hA.size hA.defers;change u 6=.pointer (some ⟨gr,0,none⟩) at s6;change u 14=_ at s14;rw [s6,s14];clear s6 s14 hA hB5 hp5 hh5 hs5 hr5 rp rh rs CM1 CM2 CB CS;refine Bb 8 rfl (by kernel_rfl) ?_;simp only [List.drop_succ_cons,List.drop_zero];refine Ka rfl 55 (.tmp 6) (.tmp 14) rfl gr 15 (Na 15) (r.map Ga) rfl rfl hr6 rfl Pb (by rw [Uaj,Hr.out]) (Oa _) ?_;intro w8 hb8 hr8 hz8;have hB8:Below w.heap.size w w8:=hB6.trans (hb8.below hge hB6.size);clear hB6 hr6 hb8 hz8;rename_i K hKK;show Exit.then K _ Exit.normal _ w8;simp only [Exit.then];refine hKK _ _ ?_;clear hKK K
  go_wp2
  exact qc Tryz.results28 gr (r.map Ga) rfl hr8 Tryz.underlying55 rfl Pb (by rw [Uaj,Hr.out]) rfl ⟨rfl,hB8⟩
theorem VG (r:Nat) (h:r%2=1):(pp-r)%pp=pp-r:=yaj (by simp only [pp];omega)
theorem O5 (r:Nat) (hr:r<pp):Ym r%2=0:=by
 rw [Ym]
 split
 ·rename_i h;rw [VG r h];simp only [pp] at *;omega
 ·omega
theorem qC (P r:Nat) (hr:r≤P):(P-r)*(P-r)%P=r*r%P:=by
 rw [NP.cg];rw [Int.natCast_mul,Int.natCast_mul,Int.natCast_sub hr];exact ⟨(P:Int)-2*r,by grind⟩
theorem P5 (r:Nat) (hr:r<pp):Ym r*Ym r%pp=r*r%pp:=by
 rw [Ym]
 split
 ·rename_i h;rw [VG r h];exact qC pp r (Nat.le_of_lt hr)
 ·rfl
theorem MO {n:Nat} (h:Fj n=true):xg n*xg n%pp=n:=by
 rw [xg,if_pos h,P5 _ (OI n)];rw [Fj] at h;exact of_decide_eq_true h
theorem NO (n:Nat):xg n%2=0:=by
 rw [xg]
 split
 ·exact O5 _ (OI n)
 ·rfl
theorem AD (x:Nat) (hx:x<pp):Fj (x*x%pp)=true:=by
 obtain ⟨k,hk⟩:∃k,k+1=7237005577332262213973186563042994240829374041602535252466099000494570602494:=⟨7237005577332262213973186563042994240829374041602535252466099000494570602493,by decide⟩;have hp:pp=8*k+5:=by simp only [pp];omega
 rw [AV k hk];exact NP.isS_square NP.pr_P hp Zu hx
theorem Q5 (x:Nat) (hx:x<pp):xg (x*x%pp)=if x%2=1 then pp-x else x:=by
 have h1:=MO (AD x hx);have h2:=NO (x*x%pp);have h3:=xu (x*x%pp);generalize xg (x*x%pp)=r at *;have hp:pp%2=1:=by decide
 rcases NP.same_square NP.pr_P h3 hx h1 with h|h
 ·subst h;rw [if_neg (by omega)]
 ·change (r+x)%pp=0 at h;have h4:r+x=0∨r+x=pp:=by
   generalize pp=P at *;rcases Nat.lt_or_ge (r+x) P with h5|h5
   ·rw [yaj h5] at h;exact .inl h
   ·rw [Nat.mod_eq_sub_mod h5,yaj (by omega)] at h;exact .inr (by omega)
  generalize pp=P at *;rcases h4 with h5|h5
  ·rw [if_neg (by omega)];omega
  ·rw [if_pos (by omega)];omega
theorem Dn:∀a b:List UInt8,a.length=b.length→lev a=lev b→a=b
 | [],[],_,_=>rfl
 |x::a,y::b,hl,h=>by
  rw [Tj,Tj] at h;have hx:=x.toNat_lt;have hy:=y.toNat_lt;rw [UInt8.toNat_inj.1 (show x.toNat=y.toNat by omega),Dn a b (Nat.succ.inj hl) (by omega)]
theorem zS:1<pp:=by decide
theorem Pab:pp=NP.PP:=rfl
namespace NP
theorem point_at {x y:Nat} (hx:x<pp) (hy:y<pp) (h:On PP dE (x:Int) (y:Int)):∃p:Pt PP dE,Pt.X p=x∧Pt.Y p=y∧RepN p (x,y,1):=by
 have ex:(x:Int)%((PP:Nat):Int)=x:=Int.emod_eq_of_lt (by omega) (by have:x<PP:=hx;omega);have ey:(y:Int)%((PP:Nat):Int)=y:=Int.emod_eq_of_lt (by omega) (by have:y<PP:=hy;omega);refine ⟨⟨x,y,h,ex,ey⟩,Int.toNat_natCast x,Int.toNat_natCast y,⟨edw.prime.not_one,?_,?_⟩,hx,hy,zS⟩
 ·show Cg _ (x:Int) ((x:Int)*((1:Nat):Int));rw [show ((1:Nat):Int)=1 from rfl,Int.mul_one];exact Cg.refl _
 ·show Cg _ (y:Int) ((y:Int)*((1:Nat):Int));rw [show ((1:Nat):Int)=1 from rfl,Int.mul_one];exact Cg.refl _
theorem Pt.own (p:Pt PP dE):RepN p (Pt.X p,Pt.Y p,1):=by
 obtain ⟨h1,h2⟩:=Pt.X_is p;obtain ⟨h3,h4⟩:=Pt.Y_is p;refine ⟨⟨edw.prime.not_one,?_,?_⟩,h2,h4,zS⟩
 ·show Cg _ ((Pt.X p:Nat):Int) (p.x*((1:Nat):Int));rw [h1,show ((1:Nat):Int)=1 from rfl,Int.mul_one];exact Cg.refl _
 ·show Cg _ ((Pt.Y p:Nat):Int) (p.y*((1:Nat):Int));rw [h3,show ((1:Nat):Int)=1 from rfl,Int.mul_one];exact Cg.refl _
theorem den_not (y:Int):¬((PP:Nat):Int)∣dE*(y*y)+1:=fun h=>by
 obtain ⟨c,hc⟩:=h;obtain ⟨j,hj⟩:=edw.root;have h1:=edw.non iE y ⟨j-c,by rw [Int.mul_sub,←hc,←hj];omega⟩;obtain ⟨v,hv⟩:=h1;refine edw.prime.not_one ⟨c-dE*(v*y),?_⟩;rw [Int.mul_sub,←hc];have:((PP:Nat):Int)*((dE:Int)*(v*y))=dE*(y*y):=by
  rw [Int.mul_left_comm,←Int.mul_assoc ((PP:Nat):Int),←hv]
 omega
theorem iv_one {n:Nat} (h:¬((PP:Nat):Int)∣(n:Int)):Cg ((PP:Nat):Int) ((ivN n:Nat)*(n:Int)) 1:=by
 have hn:¬PP∣n:=fun hd=>h (Int.natCast_dvd_natCast.2 hd);have hl:=pr_P.little hn;obtain ⟨k,hk⟩:∃k,pp-2=k:=⟨_,rfl⟩;have hk2:k+2=PP:=by rw [←hk];decide
 rw [show PP-1=k+1 by omega,Nat.pow_succ] at hl;have hi:ivN n=n^k%PP:=by rw [ivN,hk,Pab]
 have h3:(ivN n*n)%PP=1:=by rw [hi,Nat.mod_mul_mod];exact hl
 have h4:=(cgM PP (ivN n) n).swap;rw [h3] at h4;exact h4
theorem rat_is (y:Nat):Cg ((PP:Nat):Int) (((xj y:Nat):Int)*(dE*((y:Int)*y)+1)) ((y:Int)*y-1):=by
 have hyy:=cg_M y y;have hn:=(cg_S (fM y y) 1 (by decide)).trans (hyy.sub (Cg.refl ((1:Nat):Int)));have hd:=(cg_A (fM Ag (fM y y)) 1).trans (((cg_M Ag (fM y y)).trans ((Cg.refl (Ag:Int)).mul hyy)).add (Cg.refl ((1:Nat):Int)));rw [dNat_is] at hd;rw [show ((1:Nat):Int)=1 from rfl] at hn hd;have nz:¬((PP:Nat):Int)∣((fA (fM Ag (fM y y)) 1:Nat):Int):=fun h=>den_not y (hd.dvd h);have h1:=iv_one nz;have h2:=(cg_M (fS (fM y y) 1) (ivN (fA (fM Ag (fM y y)) 1))).mul hd.swap;refine h2.trans ?_;rw [Int.mul_assoc];have h3:=hn.mul h1;rw [Int.mul_one] at h3;exact h3
theorem rat_on {x y:Nat} (h:x*x%pp=xj y):On PP dE (x:Int) (y:Int):=by
 have h1:=rat_is y;rw [←h] at h1;have h2:=((cgM PP x x).swap.mul (Cg.refl (dE*((y:Int)*y)+1))).trans h1;obtain ⟨c,hc⟩:=h2;exact ⟨-c,by rw [Int.mul_neg,←hc];grind⟩
theorem on_rat {x y:Nat} (h:On PP dE (x:Int) (y:Int)):x*x%pp=xj y:=by
 have h1:=rat_is y;obtain ⟨c,hc⟩:=h;have h2:Cg ((PP:Nat):Int) (((x*x%pp:Nat):Int)*(dE*((y:Int)*y)+1)) ((y:Int)*y-1):=by
  refine ((cgM PP x x).mul (Cg.refl _)).trans ⟨-c,?_⟩;rw [Int.mul_neg,←hc]
  grind
 have h3:=h2.trans h1.swap;have hl:xj y<pp:=Lc _ _;have hm:x*x%pp<pp:=Nat.mod_lt _ (by decide);generalize x*x%pp=u at *;generalize xj y=v at *;have h4:((PP:Nat):Int)∣((u:Int)-v)*(dE*((y:Int)*y)+1):=by rw [Int.sub_mul];exact h3
 rcases pr_P.int h4 with h5|h5
 ·have h6:=(cg u v PP).2 h5;rw [←Pab,yaj hm,yaj hl] at h6;exact h6
 ·exact absurd h5 (den_not y)
theorem on_neg {x y:Nat} (hx:x≤pp) (h:On PP dE (x:Int) (y:Int)):On PP dE ((pp-x:Nat):Int) (y:Int):=by
 refine rat_on ?_;rw [qC pp x hx];exact on_rat h
end NP
theorem XJ (b:List UInt8) (hb:b.length=32):lev b=Fd b+(Ii b).toNat*57896044618658097711785492504343953926634992332820282019728792003956564819968∧Fd b<57896044618658097711785492504343953926634992332820282019728792003956564819968:=by
 have h1:=XB b 31 (by omega);have h2:=Pp b 31 (by omega);have h3:=A4 b hb;rw [Zaj (by omega)] at h1;rw [show (8*31:Nat)=248 from rfl,show (2:Nat)^248=452312848583266388373324160190187140051835877600158453279131187530910662656 from by decide+kernel] at h1 h2;rw [Fd,Ii,h3];have hq:=(b.getD 31 0).toNat_lt;generalize (b.getD 31 0).toNat=q at *;generalize lev b=n at *;generalize lev (b.take 31)=m at *;by_cases h:128≤q
 ·rw [decide_eq_true h,Bool.toNat_true];omega
 ·rw [decide_eq_false h,Bool.toNat_false];omega
theorem YJ (x y:Nat) (hy:y<57896044618658097711785492504343953926634992332820282019728792003956564819968):lev (ptB x y)=y+x%2*57896044618658097711785492504343953926634992332820282019728792003956564819968:=by
 rw [ptB,Zh,show (256:Nat)^32=115792089237316195423570985008687907853269984665640564039457584007913129639936 from by decide+kernel,yaj];omega
theorem Qab {n:Nat} (h:n<pp):n<57896044618658097711785492504343953926634992332820282019728792003956564819968:=Nat.lt_trans h (by decide)
theorem BD (p:NP.Pt NP.PP NP.dE):Uc (ptB (NP.Pt.X p) (NP.Pt.Y p))=true∧Rf (ptB (NP.Pt.X p) (NP.Pt.Y p))=(NP.Pt.X p,NP.Pt.Y p,1):=by
 obtain ⟨hx1,hx⟩:=NP.Pt.X_is p;obtain ⟨hy1,hy⟩:=NP.Pt.Y_is p;have hon:=p.on;rw [←hx1,←hy1] at hon;have hr:=NP.on_rat hon;generalize NP.Pt.X p=x at *;generalize NP.Pt.Y p=y at *;have hl:(ptB x y).length=32:=Dl x y;obtain ⟨h1,h2⟩:=XJ (ptB x y) hl;rw [YJ x y (Qab hy)] at h1;have hy2:Fd (ptB x y)=y:=by
  have :=Qab hy;generalize Fd (ptB x y)=r at *;generalize Ii (ptB x y)=o at *;cases o
  ·rw [Bool.toNat_false] at h1;omega
  ·rw [Bool.toNat_true] at h1;omega
 have ho:Ii (ptB x y)=decide (x%2=1):=by
  rw [hy2] at h1;generalize Ii (ptB x y)=o at *;cases o
  ·rw [Bool.toNat_false] at h1;exact (decide_eq_false (by omega)).symm
  ·rw [Bool.toNat_true] at h1;exact (decide_eq_true (by omega)).symm
 have hX:Hg (ptB x y)=if x%2=1 then pp-x else x:=by rw [Hg,hy2,←hr];exact Q5 x hx
 have hs:Fj (xj y)=true:=by rw [←hr];exact AD x hx
 have hg:Uc (ptB x y)=true:=by
  rw [Uc,hy2,ho,hX,hs,decide_eq_true hy];by_cases h:x%2=1
  ·rw [if_pos h,decide_eq_true h,decide_eq_false (by omega)];rfl
  ·rw [decide_eq_false h];rfl
 refine ⟨hg,?_⟩;rw [Rf,hg,ho,hX,hy2,cond_true];by_cases h:x%2=1
 ·rw [if_pos h,decide_eq_true h,cond_true];have e:fS 0 (pp-x)=x:=by
   rw [fS,Nat.zero_add,yaj]<;>omega
  rw [e]
 ·rw [if_neg h,decide_eq_false h,cond_false]
theorem R5 (x:Nat) (h0:x≠0) (hx:x<pp) (he:x%2=0):fS 0 x=pp-x∧pp-x<pp∧(pp-x)%2=1:=by
 have hp:pp%2=1:=by decide
 rw [fS,Nat.zero_add];generalize pp=P at *;exact ⟨yaj (by omega),by omega,by omega⟩
theorem Jr (b:List UInt8) (hb:b.length=32) (hg:Uc b=true):∃p:NP.Pt NP.PP NP.dE,Rf b=(NP.Pt.X p,NP.Pt.Y p,1)∧ptB (NP.Pt.X p) (NP.Pt.Y p)=b:=by
 obtain ⟨h1,h2⟩:=XJ b hb;have hg2:=hg;rw [Uc,Bool.and_eq_true,Bool.and_eq_true,decide_eq_true_eq,Bool.not_eq_true',Bool.and_eq_false_iff] at hg;obtain ⟨⟨hy,hs⟩,hxo⟩:=hg;have hsq:=MO hs;have hev:=NO (xj (Fd b));have hlt:=xu (xj (Fd b));have hon:=NP.rat_on hsq;rw [show xg (xj (Fd b))=Hg b from rfl] at hev hlt hon;have hne:Hg b≤pp:=Nat.le_of_lt hlt;have hp2:pp%2=1:=by decide
 cases ho:Ii b with
 |false=>
  rw [ho,Bool.toNat_false,Nat.zero_mul,Nat.add_zero] at h1;obtain ⟨p,hX,hY,-⟩:=NP.point_at hlt hy hon;refine ⟨p,?_,?_⟩
  ·rw [hX,hY,Rf,hg2,ho,cond_true,cond_false]
  ·rw [hX,hY];refine Dn _ _ (by rw [Dl,hb]) ?_;rw [YJ _ _ h2,hev,h1,Nat.zero_mul,Nat.add_zero]
 |true=>
  rw [ho,Bool.toNat_true,Nat.one_mul] at h1;have hx0:Hg b≠0:=by
   rcases hxo with h|h
   ·rw [ho] at h;cases h
   ·exact of_decide_eq_false h
  have hon2:=NP.on_neg hne hon;obtain ⟨e,hlt2,hodd⟩:=R5 (Hg b) hx0 hlt hev;obtain ⟨p,hX,hY,-⟩:=NP.point_at hlt2 hy hon2;refine ⟨p,?_,?_⟩
  ·rw [hX,hY,Rf,hg2,ho,cond_true,cond_true,e]
  ·rw [hX,hY];refine Dn _ _ (by rw [Dl,hb]) ?_;rw [YJ _ _ h2,h1];rw [hodd,Nat.one_mul]
theorem KV:∀(k:List UInt8) (i:Nat),lev k/2^i%2=(k.getD (i/8) 0).toNat/2^(i%8)%2
 | [],i=>by rw [show lev []=0 from rfl,Nat.zero_div];simp
 |b::t,i=>by
  rw [Tj];rcases Nat.lt_or_ge i 8 with h|h
  ·rw [Nat.div_eq_of_lt h,yaj h];show _=b.toNat/2^i%2;obtain ⟨j,hj⟩:∃j,j+i=7:=⟨7-i,by omega⟩;have hp:(256:Nat)=2^i*(2^j*2):=by
    rw [←Nat.pow_succ,←Nat.pow_add,show i+(j+1)=8 by omega]
   rw [hp,Nat.mul_assoc,Nat.add_mul_div_left _ _ (Nat.pow_pos (by decide)),Nat.mul_comm (2^j) 2,Nat.mul_assoc,Nat.add_mul_mod_self_left]
  ·obtain ⟨j,rfl⟩:∃j,i=j+8:=⟨i-8,by omega⟩;rw [show (j+8)/8=j/8+1 by omega,Nat.add_mod_right,List.getD_cons_succ,←KV t j,Nat.add_comm j 8,Nat.pow_add,←Nat.div_div_eq_div_mul,show (2:Nat)^8=256 from rfl];have :=b.toNat_lt;congr 2
   omega
theorem W9 (k:List UInt8) (i:Nat):Ld k i=decide (lev k/2^i%2=1):=by rw [Ld,KV]
theorem Kr (b:List UInt8) (hb:b.length=32):lev b<115792089237316195423570985008687907853269984665640564039457584007913129639936:=Gu b hb
theorem S5 (key:List UInt8):∀i,i<256→Ld key i=decide (lev key/2^i%2=1):=fun i _=>W9 key i
namespace NP
theorem mulT_key {p:Pt PP dE} {t:Tri} (r:RepN p t) (key:List UInt8) (hk:key.length=32):RepN (edw.mul p (lev key)) (Vp (Ld key) t 256):=mulT_all r (Kr key hk) (S5 key)
end NP
def Qd (p:NP.Pt NP.PP NP.dE):List UInt8:=ptB (NP.Pt.X p) (NP.Pt.Y p)
theorem Hf (p:NP.Pt NP.PP NP.dE):(Qd p).length=32:=Dl _ _
theorem Gq {p q:NP.Pt NP.PP NP.dE} (h:Qd p=Qd q):p=q:=by
 have h1:=(BD p).2;have h2:=(BD q).2;rw [show ptB (NP.Pt.X p) (NP.Pt.Y p)=Qd p from rfl,h] at h1;rw [show ptB (NP.Pt.X q) (NP.Pt.Y q)=Qd q from rfl,h1] at h2;have h3:=Prod.mk.inj h2;exact NP.Pt.eq_of h3.1 (Prod.mk.inj h3.2).1
theorem DD {p:NP.Pt NP.PP NP.dE} {t:Tri} (r:NP.RepN p t) (w:World):Calls Tryz.prog 33 #[Da (Pd t)] w (gvn (Ca (Qd p)) w):=by
 have h:=My t w r.lt;rw [r.over.1,r.over.2] at h;exact h
def zj (f:Nat→List Value):Nat→List Value
 |0=> []
 |n+1=>zj f n++f n
theorem Ph (f:Nat→List Value) (h:∀i,(f i).length=15):∀n,(zj f n).length=n*15
 |0=>rfl
 |n+1=>by rw [zj,qaj,Ph f h n,h];omega
theorem WG (f:Nat→List Value) (h:∀i,(f i).length=15) (k:Nat):∀(n:Nat) (T:List Value),k<n→((zj f n++T).drop (k*15)).take 15=f k
 |n+1,T,hk=>by
  rw [zj,List.append_assoc];by_cases e:k<n
  ·exact WG f h k n _ e
  ·obtain rfl:k=n:=by omega
   rw [List.drop_left' (Ph f h k),List.take_left' (h k)]
theorem qS (A B c:List Value) (o:Nat) (h:A.length≤o):Ub (A++B) o c=A++Ub B (o-A.length) c:=by
 rw [Ub,Ub,List.take_append,Zaj h,List.drop_append,List.drop_eq_nil_of_le (by omega),List.nil_append,show o+c.length-A.length=o-A.length+c.length by omega];simp only [List.append_assoc]
theorem Qy (A B c:List Value) (o:Nat) (h:o+c.length≤A.length):Ub (A++B) o c=Ub A o c++B:=by
 rw [Ub,Ub,List.take_append_of_le_length (by omega),List.drop_append_of_le_length h];simp only [List.append_assoc]
theorem XG (f:Nat→List Value) (h:∀i,(f i).length=15) (k:Nat) (c:List Value) (hc:c.length=15):∀(n:Nat),k<n→Ub (zj f n) (k*15) c=zj (fun i=>if i=k then c else f i) n
 |n+1,hk=>by
  have hl:=Ph f h n;rw [zj,zj];by_cases e:k<n
  ·rw [Qy _ _ _ _ (by rw [hl,hc];omega),XG f h k c hc n e,if_neg (by omega)]
  ·obtain rfl:k=n:=by omega
   rw [qS _ _ _ _ (by omega),hl,Nat.sub_self,Xb _ _ (by rw [hc,h]),if_pos rfl];congr 1
   have key:∀m,m≤k→zj f m=zj (fun i=>if i=k then c else f i) m:=by
    intro m
    induction m with
    |zero=>intro _;rfl
    |succ m ih=>intro hm;rw [zj,zj,ih (by omega),if_neg (by omega)]
   exact key k (Xaj k)
def ZJ (t:Tri) (k i:Nat):List Value:=if i<k then (Zc (Zj t i)).map Ga else Na 15
theorem qj (t:Tri) (k i:Nat):(ZJ t k i).length=15:=by
 rw [ZJ]
 split
 ·rw [Uaj,Jy]
 ·rfl
def shC (t:Tri) (key:List UInt8) (k:Nat):List Value:=zj (ZJ t k) 16++key.map Fa
theorem Fo (t:Tri) (key:List UInt8) (hk:key.length=32) (k:Nat):(shC t key k).length=272:=by
 rw [shC,qaj,Ph _ (qj t k),Uaj,hk]
theorem Ki (l:List Value):l.map Af=l:=List.map_id l
theorem YG (f:Nat→List Value) (h:∀i,∀v∈f i,v.oneCell'=true):∀n,∀v∈zj f n,v.oneCell'=true
 |0,v,hv=>absurd hv List.not_mem_nil
 |n+1,v,hv=>by
  rw [zj,List.mem_append] at hv;rcases hv with hv|hv
  ·exact YG f h n v hv
  ·exact h n v hv
theorem X9 (t:Tri) (key:List UInt8) (k:Nat):((shC t key k).map Af).toArray.all (·.oneCell')=true:=by
 rw [Ki];refine all_oneCell_toArray fun v hv=>?_;rw [shC,List.mem_append] at hv;rcases hv with hv|hv
 ·refine YG _ (fun i u hu=>?_) 16 v hv;rw [ZJ] at hu
  split at hu
  ·obtain ⟨x,_,rfl⟩:=List.mem_map.1 hu;rfl
  ·rw [List.eq_of_mem_replicate hu];rfl
 ·exact Kg key v hv
theorem T5 (t:Tri) (key:List UInt8):shC t key 0=Na 240++key.map Fa:=by
 have h:ZJ t 0=fun _=>Na 15:=by funext i;rw [ZJ,if_neg (Nat.not_lt_zero i)]
 rw [shC,h,show zj (fun _=>Na 15) 16=Na 240 from by kernel_rfl]
theorem LV (t:Tri) (key:List UInt8) (k:Nat) (hk:k<16):Ub (shC t key k) (k*15) ((Zc (Zj t k)).map Ga)=shC t key (k+1):=by
 have hl:=Ph _ (qj t k) 16;have hc:((Zc (Zj t k)).map Ga).length=15:=by rw [Uaj,Jy]
 rw [shC,Qy _ _ _ _ (by rw [hl,hc];omega),XG _ (qj t k) k _ hc 16 hk,shC];congr 2
 funext i
 rw [ZJ,ZJ];by_cases e:i=k
 ·subst e;rw [if_pos rfl,if_pos (by omega)]
 ·rw [if_neg e];by_cases e2:i<k
  ·rw [if_pos e2,if_pos (by omega)]
  ·rw [if_neg e2,if_neg (by omega)]
theorem MV (t:Tri) (key:List UInt8) (k i:Nat) (hi:i<k) (hk:k≤16) (T:List Value):((shC t key k++T).drop (i*15)).take 15=(Zc (Zj t i)).map Ga:=by
 rw [shC,List.append_assoc,WG _ (qj t k) i 16 _ (by omega),ZJ,if_pos hi]
theorem Bx (E:Value) (t:Tri) (key:List UInt8) (w:World) (hk:key.length=32) (h:qd t) (hS:Md E w):Calls Tryz.prog 61 #[Aa (Zc t),Ca key] w (gvn (Th (shC t key 16)) w):=by
 refine xS (Zc t) (Zc (0,1,1)) key (fun k=>Zc (Zj t k)) (shC t key) E w rfl rfl hk (Fo t key hk) (X9 t key) ?_ ?_ TG ?_ hS
 ·show _=_;rw [Ki,Ki];have h:=LV t key 0 (by decide);rw [Nat.zero_mul] at h;exact h
 ·intro k hk15;refine ⟨rfl,rfl,fun W hW=>GO E (Zj t k) t W (QC t k) h hW,?_,?_⟩
  ·rw [Ki,Nat.zero_add];have h2:=MV t key (k+1) k (by omega) (by omega) [];rw [List.append_nil] at h2;exact h2
  ·rw [Ki,Ki,Nat.zero_add];exact LV t key (k+1) (by omega)
 ·rw [T5];exact JO key hk
theorem U5 (q:UInt8) (i:Nat):(q.toNat:Int)/2^(i%2*4)%16=((q.toNat/16^(i%2)%16:Nat):Int):=by
 rcases Nat.mod_two_eq_zero_or_one i with e|e<;>rw [e]
 ·show (q.toNat:Int)/1%16=((q.toNat/1%16:Nat):Int);omega
 ·show (q.toNat:Int)/16%16=((q.toNat/16%16:Nat):Int);omega
theorem xJ (g i o:Nat) (A B:List Value) (t:Tri) (key:List UInt8) (t':TypeId) (w:World) (hk:key.length=32) (hi:i<64) (ho:A.length=o) (hC:Ia w g (A++(shC t key 16++B)) t'):Calls Tryz.prog 108 #[.pointer (some ⟨g,o,none⟩),.int .i64 (i:Int)] w (gvn (Aa (Zc (Zj t (dig key i)))) w):=by
 refine L5 g o i (dig key i) _ (key.getD (i/2) 0) (Zc (Zj t (dig key i))) t' w hi (Y4 key i) hC ?_ (U5 _ i) rfl ?_
 ·show _=_;have hl:=Ph _ (qj t 16) 16;rw [List.getElem?_append_right (by omega),ho,show o+240+i/2-o=240+i/2 by omega,shC,List.append_assoc,List.getElem?_append_right (by omega),hl,show 240+i/2-16*15=i/2 by omega,List.getElem?_append_left (by rw [Uaj,hk];omega),List.getElem?_map,Yaj,xaj (by omega)];rfl
 ·show _=_;rw [List.drop_append,List.drop_eq_nil_of_le (by omega),List.nil_append,ho,show o+dig key i*15-o=dig key i*15 by omega];exact MV t key 16 _ (Y4 key i) (Xaj _) B
def twN (t:Tri):Nat→Tri
 |0=>t
 |j+1=>twT (twN t j)
theorem V5 (t:Tri) (w:World) (h:qd t):Calls Tryz.prog 106 #[Aa (Zc t)] w (gvn (Aa (Zc (NN t))) w):=by
 have hl:∀j,qd (twN t j):=fun j=>by
  cases j with
  |zero=>exact h
  |succ j=>exact OS _
 exact KY (Zc t) (fun j=>Zc (twN t j)) w rfl (fun _=>rfl) (fun j _ W=>U9 _ W (hl j))
theorem OO (E:Value) (m gs:Nat) (vs:List Value) (f:Nat→Nat→Tri) (w:World) (hm:m≤1000000) (hC:Ia w gs (vs.map Af) 105) (hf:∀i j,qd (f i j))
 (hF:∀i j:Nat,i<64→j<m→∀W,Ia W gs (vs.map Af) 105→Calls Tryz.prog 108 #[.pointer (some ⟨gs,0+j*272,none⟩),.int .i64 (i:Int)] W (gvn (Aa (Zc (f i j))) W)) (hS:Md E w):
 Calls Tryz.prog 60 #[.slice (some ⟨gs,0,none⟩) m m] w (gvn (Aa (Zc (Zs m f 64))) w):=by
 refine LY m gs vs (Zc (0,1,1)) (fun k=>Zc (Zs m f (64-k))) (fun k j=>Zc (Z4 (f k) (NN (Zs m f (63-k))) j)) E w hm hC rfl rfl (fun _=>rfl) ?_ TG hS;intro k hk;have e:64-k=63-k+1:=by omega
 have e2:64-(k+1)=63-k:=by omega
 have e3:63-(63-k)=k:=by omega
 refine ⟨fun W=>?_,fun _=>rfl,fun j hj=>⟨Zc (f k j),rfl,hF k j hk hj,fun W hW=>GO E _ _ W (IV _ _ (EV _) j) (hf k j) hW⟩,?_⟩
 ·show Calls Tryz.prog 106 #[Aa (Zc (Zs m f (64-(k+1))))] W _;rw [e2];exact V5 _ W (NJ m f _)
 ·show Zc (Z4 (f k) (NN (Zs m f (63-k))) m)=Zc (Zs m f (64-k));rw [e,Zs,e3]
def Xad (t:Tri) (key:List UInt8) (i _j:Nat):Tri:=Zj t (dig key i)
def ED (t:Tri) (key:List UInt8):Tri:=Zs 1 (Xad t key) 64
theorem AT (E:Value) (t:Tri) (key:List UInt8) (w:World) (hk:key.length=32) (h:qd t) (hS:Md E w):Calls Tryz.prog 41 #[Aa (Zc t),Ca key] w (gvn (Aa (Zc (ED t key))) w):=by
 refine LO (Zc t) (Zc (ED t key)) key (shC t key 16) E w rfl rfl hk (Fo t key hk 16) (fun W hW=>Bx E t key W hk h hW) ?_ hS;intro g W hC hW;refine OO E 1 g _ (Xad t key) W (by decide) hC (fun i j=>QC _ _) ?_ hW;intro i j hi hj V hV;obtain rfl:j=0:=by omega
 rw [Ki] at hV;refine xJ g i (0+0*272) [] [] t key 105 V hk hi rfl ?_;rw [List.nil_append,List.append_nil];exact hV
def W5 (t u:Tri) (kh ks:List UInt8) (i j:Nat):Tri:=if j=0 then Zj t (dig kh i) else Zj u (dig ks i)
def NV (t u:Tri) (kh ks:List UInt8):Tri:=Zs 2 (W5 t u kh ks) 64
theorem Y9 (t u:Tri) (kh ks:List UInt8) (i j:Nat):qd (W5 t u kh ks i j):=by
 rw [W5]
 split<;>exact QC _ _
theorem MY (E:Value) (t:Tri) (kh ks:List UInt8) (w:World) (hh:kh.length=32) (hs:ks.length=32) (h:qd t) (hS:Md E w):Calls Tryz.prog 28 #[Aa (Zc t),Ca kh,Ca ks] w (gvn (Aa (Zc (NV t Ic kh ks))) w):=by
 have l1:=Fo t kh hh 16;have l2:=Fo Ic ks hs 16;refine yS (Zc t) (Zc Ic) (Zc (NV t Ic kh ks)) kh ks (shC t kh 16) (shC Ic ks 16) E w rfl rfl hh hs l1 l2 (fun W hW=>Bx E t kh W hh h hW) (fun W hW=>Bx E Ic ks W hs zp hW) (UG E) ?_ hS;intro g W hC hW;refine OO E 2 g _ (W5 t Ic kh ks) W (by decide) hC (Y9 _ _ _ _) ?_ hW;intro i j hi hj V hV;rw [Ki] at hV;obtain rfl|rfl:j=0∨j=1:=by omega
 ·refine xJ g i (0+0*272) [] (shC Ic ks 16) t kh 105 V hh hi rfl ?_;rw [List.nil_append];exact hV
 ·refine xJ g i (0+1*272) (shC t kh 16) [] Ic ks 105 V hs hi (by rw [l1]) ?_;rw [List.append_nil];exact hV
namespace NP
theorem timesU_rep {p:Pt PP dE} {t:Tri} (r:RepN p t) (key:List UInt8) (hk:key.length=32):RepN (edw.mul p (lev key)) (ED t key):=by
 have h:=one_rep r key (Xad t key) (fun _=>rfl) 64;rw [Yz (Kr key hk) 64 0 rfl,Nat.pow_zero,Nat.div_one] at h;exact h
theorem withU_rep {p:Pt PP dE} {t:Tri} (r:RepN p t) (kh ks:List UInt8) (hh:kh.length=32) (hs:ks.length=32):RepN (edw.add (edw.mul p (lev kh)) (edw.mul bE (lev ks))) (NV t Ic kh ks):=by
 have h:=two_rep r baseT_rep kh ks (W5 t Ic kh ks) (fun _=>rfl) (fun _=>rfl) 64;rw [Yz (Kr kh hh) 64 0 rfl,Yz (Kr ks hs) 64 0 rfl,Nat.pow_zero,Nat.div_one,Nat.div_one] at h;exact h
end NP
theorem ZG {p:NP.Pt NP.PP NP.dE} {t:Tri} (r:NP.RepN p t) (w:World):Calls Tryz.prog 29 #[Aa (Zc t)] w (gvn (Ca (Qd p)) w):=by
 have h:=ZS t w r.lt;rw [r.over.1,r.over.2] at h;exact h
end Go.Proofs.YtoggkhjaghkpnaaGreatDoor
namespace Go.Proofs.YtoggkhjaghkpnaaGreatDoor.NP
theorem mul_nought {P:Nat} {d i:Int} (h:Edw P d i):∀n,h.mul h.zero n=h.zero
 |0=>rfl
 |n+1=>by show h.add (h.mul h.zero n) h.zero=h.zero;rw [h.add_zero,mul_nought h n]
theorem sum_four {P:Nat} {d i:Int} (h:Edw P d i) (a b c e:Pt P d):h.add (h.add a b) (h.add c e)=h.add (h.add a c) (h.add b e):=by
 rw [h.add_assoc,←h.add_assoc b c e,h.add_comm b c,h.add_assoc c b e,←h.add_assoc]
theorem neg_often {P:Nat} {d i:Int} (h:Edw P d i) (p:Pt P d):∀n,h.add (h.mul p.neg n) (h.mul p n)=h.zero
 |0=>h.add_zero _
 |n+1=>by
  show h.add (h.add (h.mul p.neg n) p.neg) (h.add (h.mul p n) p)=h.zero;rw [sum_four,neg_often h p n,h.neg_add,h.add_zero]
theorem add_cancel {P:Nat} {d i:Int} (h:Edw P d i) {p a b:Pt P d} (e:h.add p a=h.add p b):a=b:=by
 have h2:=congrArg (h.add p.neg) e;rw [←h.add_assoc,←h.add_assoc,h.neg_add,h.zero_add,h.zero_add] at h2;exact h2
theorem base_mod (n:Nat):edw.mul bE (n%LL)=edw.mul bE n:=by
 have e:=Nat.div_add_mod n LL;have h:edw.mul bE (LL*(n/LL)+n%LL)=edw.mul bE (n%LL):=by
  rw [edw.mul_add,←edw.mul_mul,order_zero,mul_nought,edw.zero_add]
 rw [e] at h;exact h.symm
theorem base_inj {m n:Nat} (hm:m<LL) (hn:n<LL) (e:edw.mul bE m=edw.mul bE n):m=n:=by
 have key:∀{m n:Nat},n<LL→m≤n→edw.mul bE m=edw.mul bE n→m=n:=fun {m n} hn hmn e=>by
  have h1:edw.add (edw.mul bE m) (edw.mul bE (n-m))=edw.add (edw.mul bE m) edw.zero:=by
   rw [←edw.mul_add,Nat.add_sub_cancel' hmn,edw.add_zero,e]
  have h2:=add_cancel edw h1;by_cases h3:LL∣n-m
  ·have :=Nat.eq_zero_of_dvd_of_lt h3 (by omega);omega
  ·exact absurd h2 (base_mul _ h3)
 rcases Nat.le_total m n with h|h
 ·exact key hn h e
 ·exact (key hm h e.symm).symm
theorem sign_point (r k a:Nat):edw.add (edw.mul (edw.mul bE a).neg k) (edw.mul bE ((r+k*a)%LL))=edw.mul bE r:=by
 rw [base_mod,Nat.add_comm,edw.mul_add,←edw.add_assoc,Nat.mul_comm,←edw.mul_mul,neg_often,edw.zero_add]
theorem pt_coords {p:Pt PP dE} {X Y Z:Int} (r:Rep p X Y Z) (x y:Nat) (hx:x<PP) (hy:y<PP) (ex:(X-x*Z)%((PP:Nat):Int)=0) (ey:(Y-y*Z)%((PP:Nat):Int)=0):p.x=x∧p.y=y:=by
 have key:∀{u U:Int} {v:Nat},u%((PP:Nat):Int)=u→v<PP→Cg ((PP:Nat):Int) U (u*Z)→(U-v*Z)%((PP:Nat):Int)=0→u=v:=fun {u U v} hu hv hU he=>by
  have h1:((PP:Nat):Int)∣(u-v)*Z:=by
   have h2:=Int.dvd_sub (Int.dvd_of_emod_eq_zero he) hU
   rwa [show U-(v:Int)*Z-(U-u*Z)=(u-v)*Z by rw [Int.sub_mul];omega] at h2
  have h3:=(pr_P.int h1).resolve_right r.nz;rw [←hu,←Int.emod_eq_of_lt (show (0:Int)≤(v:Int) by omega) (show (v:Int)<((PP:Nat):Int) by omega)];exact Int.emod_eq_emod_iff_emod_sub_eq_zero.2 (Int.emod_eq_zero_of_dvd h3)
 exact ⟨key p.xl hx r.hx ex,key p.yl hy r.hy ey⟩
theorem base_at (n x y:Nat) (hn:n<2^256) (hx:x<PP) (hy:y<PP)
 (h:((mulR PP dE (bxE,byE,1) 256 n).1-x*(mulR PP dE (bxE,byE,1) 256 n).2.2)%((PP:Nat):Int)=0∧((mulR PP dE (bxE,byE,1) 256 n).2.1-y*(mulR PP dE (bxE,byE,1) 256 n).2.2)%((PP:Nat):Int)=0):
 (edw.mul bE n).x=x∧(edw.mul bE n).y=y:=
 pt_coords (Rep.mulR edw (b:=(bxE,byE,1)) bE_rep 256 n hn) x y hx hy h.1 h.2
end Go.Proofs.YtoggkhjaghkpnaaGreatDoor.NP
