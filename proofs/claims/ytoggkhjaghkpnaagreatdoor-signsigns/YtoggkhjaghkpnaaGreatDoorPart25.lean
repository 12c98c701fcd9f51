/- Part 25 of what the laws of this seat share: VPad, VRW, VR2, VR3, VR4, VR5, VR, VRSum, VLaw. -/
import Derived.Lib.LaidTab
import Derived.Stop.BytesEq
import Derived.Lib.SlBytesConst
import Derived.Test.YtoggkhjaghkpnaaGreatDoorPart24
set_option maxRecDepth 100000
set_option maxHeartbeats 8000000
namespace Go.Proofs.YtoggkhjaghkpnaaGreatDoor
open Go.RowKit
theorem YE (x:BitVec 64) (n:Nat) (w:World) (hn0:0<n) (hn:n<64):
 Calls Tryz.prog 94 #[.int .u64 x.toNat,.int .u64 n] w fun e w'=>e=.returned (.int .u64 ((Ue x n).toNat:Int))∧w=w':=by
 have HR:Hid (bits .or .u64 ((x.toNat:Int)/2^n) ((x.toNat:Int)*2^(64-n)%18446744073709551616)=((Ue x n).toNat:Int)):=by
  show _=_;rw [JZ x n hn];unfold Ue;rw [show ((n:Int)%64).toNat=n by omega]
 have h1:(64:Int)-n=((64-n:Nat):Int):=by omega
 have h2:((64:Int)-(n:Int)).toNat=64-n:=by omega
 go_enter Tryz.func94,Tryz.ntmps94
 go_wp2
 go_ret
 refine ⟨Tt ?_,rfl⟩;first
 |exact HR.out
 |(rw [IntKind.wrap_u64];exact HR.out)
theorem KP (w:World):(Instr.buildSlice 136 80 ((List.range 80).zip (Ln.map qa)).toArray).run Tryz.prog w=.ok (.slice (some ⟨w.heap.size,0,none⟩) 80 80) (w.alloc (.cells (Ln.map qa).toArray 49)):=by kernel_rfl
theorem Kv (w:World):Calls Tryz.prog 92 #[] w fun e w'=>e=.returned (.slice (some ⟨w.heap.size,0,none⟩) 80 80)∧Below w.heap.size w w'∧Ia w' w.heap.size (Ln.map qa) 49:=by
 go_enter Tryz.func92,Tryz.ntmps92;go_wp2_with (refine Vk rfl 136 80 _ rfl ((List.range 80).zip (Ln.map qa)) rfl 49 _ KP ?_
                                                intro w1 hw1;have hB1:Below w.heap.size w w1:=by rw [hw1];exact (Below.refl _ _).alloc (Xaj _) _
                                                have hC1:Ia w1 w.heap.size (Ln.map qa) 49:=by rw [hw1];exact Ia.new w _ _
                                                clear hw1)
 go_ret
 exact ⟨rfl,hB1,hC1⟩
theorem Gaa (n j:Nat) (hj:j<Wc n-1):¬((n:Int)+1+j)%128=112:=by unfold Wc at hj;omega
theorem qY (n:Nat):((n:Int)+1+((Wc n-1:Nat):Int))%128=112:=by unfold Wc;omega
theorem SD (A:Option Addr) (c n:Nat) (bs:List UInt8) (w:World) (hl:bs.length=n) (hr:Row w w.heap.size A bs) (hA:A=none→c=0) (hn:n≤900000):
 Calls Tryz.prog 93 #[.slice A n c] w (MZ w (yd bs)):=by
 have HL:=Lib.hid hl;have h0:=Sd.lit (base:=w.heap.size) w [] (Xaj _) (by simp);have H0:=Lib.hid h0;clear h0 hl;have hM:∀(W:World) (u:UInt8),Row (W.alloc (.cells #[Fa u] 5)) (W.heap.size+1) (some ⟨W.heap.size,0,none⟩) [u]:=fun W u=>(Jg.new W [u]).row (by omega);have HM:=Lib.hid hM;clear hM;go_enter Tryz.func93,Tryz.ntmps93;go_wp2_with (first
  |(at_builtin
    refine Vf rfl (.tmp 6) (.tmp 7) rfl w.heap.size _ [] bs w.heap.size A c rfl H0.out (by rw [HL.out];rfl) hA (hr.below ((Below.refl _ _).alloc (Xaj _) _)) (by simp [HL.out];omega) (by simp) ?_;intro v1 w1 hown1 hB1)
  |(at_builtin
    refine Vf rfl (.tmp 8) (.tmp 9) rfl w.heap.size _ ([]++bs) [128] (w1.heap.size+1) (some ⟨w1.heap.size,0,none⟩) 1 rfl (hown1.kept_alloc _) rfl (fun h=>by cases h) (HM.out w1 128) (by simp [HL.out];omega) (by have :=hB1.size;simp at this ⊢;omega) ?_;intro v2 w2 hown2 hB2))
 have hB3:Below w.heap.size w w1:=((Below.refl _ _).alloc (Xaj _) _).trans hB1;have hB4:=(hB3.alloc hB3.size (.cells #[.int .u8 128] 5)).trans hB2;have hO4:Sd w2 w.heap.size v2 (bs++128::List.replicate 0 0):=by simpa using hown2
 clear hB1 hB2 hB3 hown1 hown2
 go_loopw [3] (fun v wr=>∃j:Nat,j≤Wc n-1∧Below w.heap.size w wr∧Sd wr w.heap.size v (bs++128::List.replicate j 0)) (fun v _=>(240-lenOf v%128)%128)
 case atStart=>exact ⟨0,Nat.zero_le _,hB4,hO4⟩
 case round=>
  clear hB4 hO4;obtain ⟨j,hj,hB,hO⟩:=hrel;have HJ:Hid ((bs++128::List.replicate j 0).length=n+1+j):=by show _=_;rw [qaj,HL.out,List.length_cons,List.length_replicate];omega
  obtain ⟨g1,c1,hv,hc1,hc2,hg1,hR1⟩:=hO.form_pos (by rw [HJ.out];omega);rw [HJ.out] at hv hc1;have hz:=hB.size;have hpp:=yi n;by_cases hlt:j<Wc n-1
  ·have hq:=Gaa n j hlt;have HS:=Lib.hid (show bs++128::List.replicate j 0++[0]=bs++128::List.replicate (j+1) 0 by rw [List.append_assoc,List.cons_append,←List.replicate_succ']);have HQ:Hid (¬(n+1+j)%128=112):=by show ¬_;omega
   have hq2:(((n+1+j:Nat):Int)%128!=112)=true:=by simp;omega
   clear hq;subst hv;generalize hLL:n+1+j=L at *;replace hLL:=Lib.hid hLL;go_wp2_with (first|(at_builtin
                                                                                              refine Vf rfl (.tmp 15) (.tmp 16) rfl w.heap.size _ (bs++128::List.replicate j 0) [0] (wr.heap.size+1) (some ⟨wr.heap.size,0,none⟩) 1 rfl (hO.kept_alloc _) rfl (fun h=>by cases h) (HM.out wr 0) (by rw [HJ.out];have :=hLL.out;simp;omega) (by simp;omega) ?_;intro v3 w3 hown3 hB3))
   go_roundw
   case rel=>exact ⟨j+1,by omega,(hB.alloc hz _).trans hB3,by rw [←HS.out];exact hown3⟩
   case measure=>
    obtain ⟨A3,c3,hv3,_⟩:=hown3.form;subst hv3;have h1:=HQ.out;have h2:(bs++128::List.replicate j 0++[0]).length=L+1:=by rw [qaj,HJ.out];rfl
    simp only [lenOf];rw [h2];omega
  ·obtain rfl:j=Wc n-1:=by omega
   have hq:=qY n;have hq2:(((n+1+(Wc n-1):Nat):Int)%128!=112)=false:=by simp;omega
   have HX:Hid (bs++128::List.replicate (Wc n-1) 0++[0,0,0,0,0,0,0,0]++(Ob (8*n) 8).reverse=yd bs):=by
    show _=_;unfold yd Wk;rw [HL.out,List.append_assoc,List.append_assoc];simp
   clear hq;subst hv;generalize hbb:bs++128::List.replicate (Wc n-1) 0=xs at *;generalize hLL:n+1+(Wc n-1)=L at *;have hL2:L≤900200:=by omega
   replace hLL:=Lib.hid hLL;replace hbb:=Lib.hid hbb;have hM8:∀(W:World),Row (W.alloc (.cells #[.int .u8 0,.int .u8 0,.int .u8 0,.int .u8 0,.int .u8 0,.int .u8 0,.int .u8 0,.int .u8 0] 5)) (W.heap.size+1) (some ⟨W.heap.size,0,none⟩) [0,0,0,0,0,0,0,0]:=fun W=>(Jg.new W [0,0,0,0,0,0,0,0]).row (by omega);have HM8:=Lib.hid hM8;clear hM8;go_wp2_with (first|(at_builtin
                                                                                                                                                                                                                                                                                                                                                                   refine Vf rfl (.tmp 18) (.tmp 19) rfl w.heap.size _ xs [0,0,0,0,0,0,0,0] (wr.heap.size+1) (some ⟨wr.heap.size,0,none⟩) 8 rfl (hO.kept_alloc _) rfl (fun h=>by cases h) (HM8.out wr) (by rw [HJ.out];simp;omega) (by simp;omega) ?_;intro v4 w4 hown4 hB4))
   have HJ4:Hid ((xs++[0,0,0,0,0,0,0,0]).length=L+8):=by show _=_;rw [qaj,HJ.out];rfl
   have hB5:=(hB.alloc hz (.cells #[.int .u8 0,.int .u8 0,.int .u8 0,.int .u8 0,.int .u8 0,.int .u8 0,.int .u8 0,.int .u8 0] 5)).trans hB4;clear hB4 hB hO;generalize hzz:xs++[0,0,0,0,0,0,0,0]=zs at *
   go_loopw [3,5] (fun v i wr=>∃k:Nat,k≤8∧i=.int .i64 (7-(k:Int))∧Below w.heap.size w wr∧Sd wr w.heap.size v (zs++Nm (8*n) 8 k)) (fun _ i _=>(intOf i+1).toNat)
   case atStart=>exact ⟨0,by omega,rfl,hB5,by simpa [Nm] using hown4⟩
   case round=>
    clear hB5 hown4 hR1 hc1 hz;obtain ⟨k,hk,rfl,hB,hO⟩:=hrel;have hz:=hB.size;by_cases hlt2:k<8
    ·have HS:=Lib.hid (show zs++Nm (8*n) 8 k++[Ec (8*n) (7-k)]=zs++Nm (8*n) 8 (k+1) by rw [Rv,List.append_assoc]);have HY:Hid ((n:Int)*8/2^(8*(7-k))%256=((Ec (8*n) (7-k)).toNat:Int)):=by
      have h:=Ut (8*n) (7-k);rw [show ((8*n:Nat):Int)=(n:Int)*8 by omega] at h;exact h
     have HZ:Hid ((7:Int)-(k:Int)=((7-k:Nat):Int)):=by show _=_;omega
     have HZ2:Hid ((zs++Nm (8*n) 8 k).length=L+8+k):=by show _=_;rw [qaj,HJ4.out,Rj]
     rw [HZ.out];generalize hmm:7-k=m at *;replace hmm:=Lib.hid hmm;have hm7:m≤7:=by have :=hmm.out;omega
     go_wp2_with (first|(at_builtin
                         rw [HY.out];refine Vf rfl (.tmp 29) (.tmp 36) rfl w.heap.size _ (zs++Nm (8*n) 8 k) [Ec (8*n) m] (wr.heap.size+1) (some ⟨wr.heap.size,0,none⟩) 1 rfl (hO.kept_alloc _) rfl (fun h=>by cases h) (HM.out wr _) (by rw [HZ2.out];simp;omega) (by simp;omega) ?_;intro v3 w3 hown3 hB3))
     go_roundw
     case rel=>exact ⟨k+1,by omega,by have :=hmm.out;congr 1;omega,(hB.alloc hz _).trans hB3,by rw [←HS.out];exact hown3⟩
     case measure=>simp [intOf]
    ·obtain rfl:k=8:=by omega
     rw [FA,HX.out] at hO;go_wp2_with fail
     go_ret
     obtain ⟨g',c',hv,_,_,hg',hR⟩:=hO.form_pos (by rw [yf];omega);exact ⟨g',c',by rw [←hv];rfl,hg',hB,hR⟩
theorem Q6:∀w,(zeroValue 26).run Tryz.prog w=.ok (.agg (List.replicate 64 (Fa 0)).toArray) w:=(zero_of_info (P:=Tryz.prog) (t:=26) (v:=.agg (List.replicate 64 (Fa 0)).toArray) (n:=64) (by kernel_rfl)).1
theorem LP:(Tryz.prog.info? 26).map (·.size)=some 64:=by kernel_rfl
theorem Tk (x:BitVec 64) (z:Int) (w:World) (h0:0<z) (h:z<64):
 Calls Tryz.prog 94 #[.int .u64 x.toNat,.int .u64 z] w fun e w'=>e=.returned (.int .u64 ((Ue x z).toNat:Int))∧w'=w:=by
 obtain ⟨n,rfl⟩:=Int.eq_ofNat_of_zero_le (show 0≤z by omega);exact (YE x n w (by omega) (by omega)).mono fun _ _ ⟨h1,h2⟩=>⟨h1,h2.symm⟩
theorem AZ (x:BitVec 64) (z:Int) (w:World) (h0:0<z) (h:z<64):
 Calls Tryz.prog 94 #[.int .u64 x.toNat,.int .u64 z] w fun e w'=>e=.returned (.int .u64 ((Ue x z).toNat:Int))∧w=w':=
 (Tk x z w h0 h).mono fun _ _ ⟨h1,h2⟩=>⟨h1,h2.symm⟩
theorem DZ (x2 x7 x15 x16:BitVec 64):(Ue x2 19^^^Ue x2 61^^^x2>>>6)+x7+(Ue x15 1^^^Ue x15 8^^^x15>>>7)+x16=x16+KA x15+x7+Xt x2:=by
 show Xt x2+x7+KA x15+x16=_
 ac_rfl
theorem Hae (x:BitVec 64):bits .xor .u64 IntKind.u64.max (x.toNat:Int)=((~~~x).toNat:Int):=zaa x
theorem GH (l:List (BitVec 64)) (k:Nat) (hk:k<l.length):(l.map qa)[k]? =some (qa (l.getD k 0)):=by
 rw [List.getElem?_map,Yaj,xaj hk];rfl
theorem R6:(Tryz.prog.info? 49).map (fun i=>(i.zero,i.size,i.bytes))=some (some (.int .u64 0),1,8):=by kernel_rfl
def Lt (n:Nat):List Value:=List.replicate n (qa 0)
theorem NK (n:Nat) (hn:n≤1000000) (W:World):
 (Instr.makeSlice 136 (.int .i64 (n:Int)) (.int .i64 (n:Int))).run Tryz.prog W=.ok (.slice (some ⟨W.heap.size,0,none⟩) n n) (W.alloc (.cells (Lt n).toArray 49)):=by
 unfold Lt;obtain ⟨i0,hi0,hz0,hz1,hz2⟩:=info_parts R6;have h:=run_make (P:=Tryz.prog) W 136 49 i0 (.int .u64 0) Tryz.underlying136 hi0 hz0 .i64 .i64 n n (by omega) (by omega) (by rw [hz2];omega) (by omega);rw [h,Int.toNat_natCast,hz1,Nat.mul_one];congr 3
 apply Array.ext_getElem?;intro i;simp only [madeCells,Value.cells];by_cases h:i<n
 ·simp [h,Nat.mod_one]
 ·simp [h]
theorem Ud (a:Act) (hs:a.tmps.size=249) (hd:a.defers= []):∃u:Nat→Value,a=⟨(u 0::u 1::u 2::u 3::u 4::u 5::u 6::u 7::u 8::u 9::u 10::u 11::u 12::u 13::u 14::u 15::u 16::u 17::u 18::u 19::u 20::u 21::u 22::u 23::u 24::u 25::u 26::u 27::u 28::u 29::u 30::u 31::u 32::u 33::u 34::u 35::u 36::u 37::u 38::u 39::u 40::u 41::u 42::u 43::u 44::u 45::u 46::u 47::u 48::u 49::u 50::u 51::u 52::u 53::u 54::u 55::u 56::u 57::u 58::u 59::u 60::u 61::u 62::u 63::u 64::u 65::u 66::u 67::u 68::u 69::u 70::u 71::u 72::u 73::u 74::u 75::u 76::u 77::u 78::u 79::u 80::u 81::u 82::u 83::u 84::u 85::u 86::u 87::u 88::u 89::u 90::u 91::u 92::u 93::u 94::u 95::u 96::u 97::u 98::u 99::u 100::u 101::u 102::u 103::u 104::u 105::u 106::u 107::u 108::u 109::u 110::u 111::u 112::u 113::u 114::u 115::u 116::u 117::u 118::u 119::u 120::u 121::u 122::u 123::u 124::u 125::u 126::u 127::u 128::u 129::u 130::u 131::u 132::u 133::u 134::u 135::u 136::u 137::u 138::u 139::u 140::u 141::u 142::u 143::u 144::u 145::u 146::u 147::u 148::u 149::u 150::u 151::u 152::u 153::u 154::u 155::u 156::u 157::u 158::u 159::u 160::u 161::u 162::u 163::u 164::u 165::u 166::u 167::u 168::u 169::u 170::u 171::u 172::u 173::u 174::u 175::u 176::u 177::u 178::u 179::u 180::u 181::u 182::u 183::u 184::u 185::u 186::u 187::u 188::u 189::u 190::u 191::u 192::u 193::u 194::u 195::u 196::u 197::u 198::u 199::u 200::u 201::u 202::u 203::u 204::u 205::u 206::u 207::u 208::u 209::u 210::u 211::u 212::u 213::u 214::u 215::u 216::u 217::u 218::u 219::u 220::u 221::u 222::u 223::u 224::u 225::u 226::u 227::u 228::u 229::u 230::u 231::u 232::u 233::u 234::u 235::u 236::u 237::u 238::u 239::u 240::u 241::u 242::u 243::u 244::u 245::u 246::u 247::u 248::[]).toArray,[]⟩:=by
 obtain ⟨u,h⟩:=Pg 249 a hs hd;exact ⟨u,h⟩
noncomputable def Kl (k:Nat):Code:=((Tryz.f50.body.map Nl).getD []).getD k .skip
structure VW (w wr:World) (gk gh gm:Nat) (hs:List Value) (ms:List UInt8):Prop where
 below:Below w.heap.size w wr
 res:Ia wr w.heap.size (List.replicate 64 (Fa 0)) 26
 ks:Ia wr gk (Ln.map qa) 49
 ch:Ia wr gh hs 49
 row:Row wr wr.heap.size (some ⟨gm,0,none⟩) ms
 o1:w.heap.size<gk
 o2:gk<gh
 o3:gh<gm
 o4:gm<wr.heap.size
section
variable {w wr wr':World} {gk gh gm:Nat} {hs:List Value} {ms:List UInt8}
theorem VW.drew (h:VW w wr gk gh gm hs ms):VW w wr.drew gk gh gm hs ms:=⟨h.below.drew,h.res,h.ks,h.ch,h.row,h.o1,h.o2,h.o3,h.o4⟩
theorem VW.drewN (h:VW w wr gk gh gm hs ms) (n:Nat):VW w (wr.drewN n) gk gh gm hs ms:=⟨below_drewN h.below n,h.res,h.ks,h.ch,h.row,h.o1,h.o2,h.o3,h.o4⟩
theorem VW.alloc (h:VW w wr gk gh gm hs ms) (o:Obj):VW w (wr.alloc o) gk gh gm hs ms:=
 ⟨h.below.alloc h.below.size o,h.res.alloc o,h.ks.alloc o,h.ch.alloc o,h.row.on ((Below.refl _ _).alloc (Xaj _) o),h.o1,h.o2,h.o3,by have :=h.o4;simp;omega⟩
theorem VW.but (h:VW w wr gk gh gm hs ms) {g:Nat} (hb:But g wr wr') (hg:gm<g):VW w wr' gk gh gm hs ms:=by
 have h1:=h.o1;have h2:=h.o2;have h3:=h.o3;exact ⟨h.below.trans (hb.below (by omega) h.below.size),h.res.but hb (by omega),h.ks.but hb (by omega),h.ch.but hb (by omega),h.row.but hb (fun _ p hp=>by cases hp;show gm≠g;omega),h1,h2,h3,Waj h.o4 hb.size⟩
theorem VW.chain (h:VW w wr gk gh gm hs ms) (j:Nat) (v:Value):VW w (wr.setCell ⟨gh,j,none⟩ v) gk gh gm (hs.set j v) ms:=by
 have h1:=h.o1;have h2:=h.o2;have h3:=h.o3;have hb:But gh wr (wr.setCell ⟨gh,j,none⟩ v):=(But.refl gh wr).setCell j v;exact ⟨h.below.trans (hb.below (by omega) h.below.size),h.res.but hb (by omega),h.ks.but hb (by omega),h.ch.set j v,h.row.but hb (fun _ p hp=>by cases hp;show gm≠gh;omega),h1,h2,h3,Waj h.o4 hb.size⟩
end
def Lf (w:World) (gk gh gm cm N:Nat):List (Nat×Value):=[(2,.pointer (some ⟨w.heap.size,0,none⟩)),(3,.slice (some ⟨gk,0,none⟩) 80 80),(4,.slice (some ⟨gh,0,none⟩) 8 8),(5,.slice (some ⟨gm,0,none⟩) (128*N) cm)]
def VI2 (w:World) (gk gh gm cm N gw p0:Nat) (hs:List Value) (ms bk:List UInt8) (a:Act) (wr:World):Prop:=
 ∃t:Nat,t≤80∧Fr 249 ([(6,.int .i64 (p0:Int)),(7,.slice (some ⟨gw,0,none⟩) 80 80),(8,.int .i64 (t:Int))]++Lf w gk gh gm cm N) a∧VW w wr gk gh gm hs ms∧Ia wr gw (Zd bk t) 49
def S6 (a:Act) (_:World):Nat:=80-(intOf (a.tmps.getD 8 undef)).toNat
def Ug (bk:List UInt8) (t i:Nat):List Value:=(Zd bk t).set t (qa (BitVec.ofNat 64 (Zf ((bk.drop (8*t)).take i))))
theorem ZE (bk:List UInt8) (t:Nat) (h:t<80):Ug bk t 0=Zd bk t:=by
 unfold Ug;rw [List.take_zero,Zd];obtain ⟨m,hm⟩:∃m,80-t=m+1:=⟨80-t-1,by omega⟩;rw [hm,List.replicate_succ,List.set_append_right _ _ (by rw [Uaj,Bd];exact Xaj _),Uaj,Bd,Nat.sub_self];rfl
theorem OK (bk:List UInt8) (t:Nat) (h:t<16):Ug bk t 8=Zd bk (t+1):=Ml bk t (by omega) _ (by rw [if_pos h];rfl)
theorem MP (bk:List UInt8) (t i:Nat) (h:t<80):(Ug bk t i)[t]? =some (qa (BitVec.ofNat 64 (Zf ((bk.drop (8*t)).take i)))):=by
 rw [Ug,List.getElem?_set_self (by rw [Wf _ _ (by omega)];exact h)]
theorem xE (bk:List UInt8) (t i:Nat) (v:Value):(Ug bk t i).set t v=(Zd bk t).set t v:=by rw [Ug,List.set_set]
theorem AU (l:List UInt8) (u:UInt8):IntKind.u64.wrap (IntKind.u64.wrap (((BitVec.ofNat 64 (Zf l)).toNat:Int)*256)+IntKind.u64.wrap (u.toNat:Int))=((BitVec.ofNat 64 (Zf (l++[u]))).toNat:Int):=by
 rw [IntKind.wrap_u64,IntKind.wrap_u64,IntKind.wrap_u64,Lm,BitVec.toNat_ofNat,BitVec.toNat_ofNat];omega
def VIg (w:World) (gk gh gm cm N gw p0 t:Nat) (hs:List Value) (ms bk:List UInt8) (a:Act) (wr:World):Prop:=
 ∃i:Nat,i≤8∧Fr 249 ([(6,.int .i64 (p0:Int)),(7,.slice (some ⟨gw,0,none⟩) 80 80),(8,.int .i64 (t:Int)),(9,.int .i64 (i:Int))]++Lf w gk gh gm cm N) a∧VW w wr gk gh gm hs ms∧Ia wr gw (Ug bk t i) 49
def Iae (a:Act) (_:World):Nat:=8-(intOf (a.tmps.getD 9 undef)).toNat
theorem Iaa (w wr:World) (gk gh gm cm N gw p0 t i:Nat) (hs:List Value) (ms bk:List UInt8) (a:Act) (Q0:Exit→Act→World→Prop) (hN:N≤10000) (hml:ms.length=128*N) (hp:p0+128≤128*N) (hgw:gm<gw)
 (hbk:bk=(ms.drop p0).take 128) (ht:t<16) (hi:i<8)
 (hF:Fr 249 ([(6,.int .i64 (p0:Int)),(7,.slice (some ⟨gw,0,none⟩) 80 80),(8,.int .i64 (t:Int)),(9,.int .i64 (i:Int))]++Lf w gk gh gm cm N) a) (hW:VW w wr gk gh gm hs ms) (hS:Ia wr gw (Ug bk t i) 49):
 Code.wp Tryz.prog (Kl 2) (Exit.then (fun a' w'=>VIg w gk gh gm cm N gw p0 t hs ms bk a' w'∧Iae a' w'<Iae a wr) Q0) a wr:=by
 have hq:p0+8*t+i<ms.length:=by omega
 obtain ⟨_,_,e1,hb,hc0⟩:=hW.row.atD (p0+8*t+i) hq;cases e1
 rw [Nat.zero_add] at hc0;have HT:Hid ((bk.drop (8*t)).take (i+1)=(bk.drop (8*t)).take i++[ms.getD (p0+8*t+i) 0]):=by
  show _=_;have hlb:i<(bk.drop (8*t)).length:=by rw [hbk,List.length_drop,zaj,List.length_drop];omega
  rw [Nd _ i hlb,Z7 ms _ hq];congr 2
  subst hbk;simp [Nat.add_assoc]
 have HP:Hid (p0+8*t+i<128*N):=by show _<_;omega
 have cS:=hS.get (MP bk t i (by omega));have HG:=Lib.hid (AU ((bk.drop (8*t)).take i) (ms.getD (p0+8*t+i) 0));generalize ms.getD (p0+8*t+i) 0=x0 at *;generalize hxw:BitVec.ofNat 64 (Zf ((bk.drop (8*t)).take i))=xw at *;have HML:=Lib.hid hml;have HBK:=Lib.hid hbk;replace hxw:=Lib.hid hxw;clear hml hbk hq;obtain ⟨hs0,hd0,h6,h7,h8,h9,h2,h3,h4,h5,_⟩:=hF;obtain ⟨u,rfl⟩:=Ud a hs0 hd0;clear hs0 hd0;change u 6=_ at h6;change u 7=_ at h7;change u 8=_ at h8;change u 9=_ at h9;change u 2=_ at h2;change u 3=_ at h3;change u 4=_ at h4;change u 5=_ at h5;rw [h6,h7,h8,h9,h2,h3,h4,h5];clear h6 h7 h8 h9 h2 h3 h4 h5
 conv=>arg 2;whnf
 go_wp2_with fail
 refine Ad 19 (by kernel_rfl) (by kernel_rfl) ?_;intro w5 hw5;have hW2:VW w w5 gk gh gm hs ms:=by rw [hw5];exact hW.drew
 have hS2:Ia w5 gw (Ug bk t i) 49:=by rw [hw5];exact hS
 have d0:w5.cell? ⟨gm,p0+8*t+i,none⟩=some (Fa x0):=by rw [hw5];exact hc0
 have dS:w5.cell? ⟨gw,t,none⟩=some (qa xw):=by rw [hw5];exact cS
 clear hw5 hW hS hc0 cS;have df:=hS2.frozen t;have i0:(0:Int)≤(p0:Int)+8*(t:Int):=by omega
 have i1:(0:Int)≤(p0:Int)+8*(t:Int)+(i:Int):=by omega
 have j1:(p0:Int)+8*(t:Int)+(i:Int)<128*(N:Int):=by have :=HP.out;omega
 have n1:((p0:Int)+8*(t:Int)+(i:Int)).toNat=p0+8*t+i:=by omega
 have it:(t:Int)<80:=by omega
 have s8:IntKind.i64.wrap (8*(t:Int))=8*(t:Int):=IntWalk.i64_in _ (by omega);have s0:IntKind.i64.wrap ((p0:Int)+8*(t:Int))=(p0:Int)+8*(t:Int):=IntWalk.i64_in _ (by omega);have s1:IntKind.i64.wrap ((p0:Int)+8*(t:Int)+(i:Int))=(p0:Int)+8*(t:Int)+(i:Int):=IntWalk.i64_in _ (by omega);simp only [List.take_succ_cons,List.take_zero,List.drop_succ_cons,List.drop_zero];repeat still_step
 clear s1 s0 s8;refine wpStill_nil ?_
 go_wp2
 rw [HG.out];refine ⟨⟨i+1,by omega,⟨rfl,rfl,rfl,rfl,rfl,by show Value.int .i64 ((i:Int)+1)=_;go_num,rfl,rfl,rfl,rfl,trivial⟩,hW2.but ((But.refl gw w5).setCell t _) hgw,?_⟩,?_⟩
 ·have h:=hS2.set t (qa (BitVec.ofNat 64 (Zf ((bk.drop (8*t)).take i++[x0]))));rw [xE,←HT.out] at h;rw [←HT.out];exact h
 ·show 8-((i:Int)+1).toNat<8-((i:Int)).toNat;omega
def VXg (w:World) (gk gh gm cm N gw p0 t:Nat) (hs:List Value) (ms bk:List UInt8) (a:Act) (wr:World):Prop:=
 Fr 249 ([(6,.int .i64 (p0:Int)),(7,.slice (some ⟨gw,0,none⟩) 80 80),(8,.int .i64 (t:Int))]++Lf w gk gh gm cm N) a∧VW w wr gk gh gm hs ms∧Ia wr gw (Zd bk (t+1)) 49
theorem Jae (w wr:World) (gk gh gm cm N gw p0 t:Nat) (hs:List Value) (ms bk:List UInt8) (a:Act) (Q0:Exit→Act→World→Prop) (hN:N≤10000) (hml:ms.length=128*N) (hp:p0+128≤128*N) (hgw:gm<gw) (hbk:bk=(ms.drop p0).take 128) (ht:t<16)
 (hI:VIg w gk gh gm cm N gw p0 t hs ms bk a wr) (hX:∀a wr,VXg w gk gh gm cm N gw p0 t hs ms bk a wr→Q0 (.exit 4) a wr):Code.wp Tryz.prog (Code.loop (Kl 2)) Q0 a wr:=by
 refine wp_loop (VIg w gk gh gm cm N gw p0 t hs ms bk) Iae hI ?_;clear hI a wr;rintro a wr ⟨i,hi,hF,hW,hS⟩;by_cases h1:i<8
 ·exact Iaa w wr gk gh gm cm N gw p0 t i hs ms bk a Q0 hN hml hp hgw hbk ht h1 hF hW hS
 obtain rfl:i=8:=by omega
 rw [OK bk t ht] at hS;have HX:=Lib.hid hX;clear hX;obtain ⟨hs0,hd0,h6,h7,h8,h9,h2,h3,h4,h5,_⟩:=hF;obtain ⟨u,rfl⟩:=Ud a hs0 hd0;clear hs0 hd0;change u 6=_ at h6;change u 7=_ at h7;change u 8=_ at h8;change u 9=_ at h9;change u 2=_ at h2;change u 3=_ at h3;change u 4=_ at h4;change u 5=_ at h5;rw [h6,h7,h8,h9,h2,h3,h4,h5];clear h6 h7 h8 h9 h2 h3 h4 h5
 conv=>arg 2;whnf
 go_wp2
 exact HX.out _ _ ⟨⟨rfl,rfl,rfl,rfl,rfl,rfl,rfl,rfl,rfl,trivial⟩,hW,hS⟩
theorem T6 (w wr:World) (gk gh gm cm N gw p0 t:Nat) (hs:List Value) (ms bk:List UInt8) (a:Act) (Q0:Exit→Act→World→Prop) (hN:N≤10000) (hml:ms.length=128*N) (hp:p0+128≤128*N) (hgw:gm<gw)
 (hbk:bk=(ms.drop p0).take 128) (ht:t<16)
 (hF:Fr 249 ([(6,.int .i64 (p0:Int)),(7,.slice (some ⟨gw,0,none⟩) 80 80),(8,.int .i64 (t:Int))]++Lf w gk gh gm cm N) a) (hW:VW w wr gk gh gm hs ms) (hS:Ia wr gw (Zd bk t) 49):
 Code.wp Tryz.prog (Kl 1) (Exit.then (fun a' w'=>VI2 w gk gh gm cm N gw p0 hs ms bk a' w'∧S6 a' w'<S6 a wr) Q0) a wr:=by
 have HML:=Lib.hid hml;have HBK:=Lib.hid hbk;clear hml hbk;rw [←ZE bk t (by omega)] at hS;obtain ⟨hs0,hd0,h6,h7,h8,h2,h3,h4,h5,_⟩:=hF;obtain ⟨u,rfl⟩:=Ud a hs0 hd0;clear hs0 hd0;change u 6=_ at h6;change u 7=_ at h7;change u 8=_ at h8;change u 2=_ at h2;change u 3=_ at h3;change u 4=_ at h4;change u 5=_ at h5;rw [h6,h7,h8,h2,h3,h4,h5];clear h6 h7 h8 h2 h3 h4 h5
 conv=>arg 2;whnf
 go_wp2_with fail
 refine Jae w wr gk gh gm cm N gw p0 t hs ms bk _ _ hN HML.out hp hgw HBK.out ht ⟨0,by omega,⟨rfl,rfl,rfl,rfl,rfl,rfl,rfl,rfl,rfl,rfl,trivial⟩,hW,hS⟩ ?_;clear hW hS;rintro a5 w5 ⟨hF,hW,hS⟩;obtain ⟨hs0,hd0,h6,h7,h8,h2,h3,h4,h5,-⟩:=hF;obtain ⟨u,rfl⟩:=Ud a5 hs0 hd0;clear hs0 hd0;change u 6=_ at h6;change u 7=_ at h7;change u 8=_ at h8;change u 2=_ at h2;change u 3=_ at h3;change u 4=_ at h4;change u 5=_ at h5;rw [h6,h7,h8,h2,h3,h4,h5];clear h6 h7 h8 h2 h3 h4 h5;go_wp2_with fail
 refine ⟨⟨t+1,by omega,⟨rfl,rfl,rfl,rfl,by show Value.int .i64 ((t:Int)+1)=_;go_num,rfl,rfl,rfl,rfl,trivial⟩,hW,hS⟩,?_⟩;show 80-((t:Int)+1).toNat<80-((t:Int)).toNat;omega
theorem U6 (w wr:World) (gk gh gm cm N gw p0 t:Nat) (hs:List Value) (ms bk:List UInt8) (a:Act) (Q0:Exit→Act→World→Prop) (hgw:gm<gw) (ht:16≤t) (ht2:t<80)
 (hF:Fr 249 ([(6,.int .i64 (p0:Int)),(7,.slice (some ⟨gw,0,none⟩) 80 80),(8,.int .i64 (t:Int))]++Lf w gk gh gm cm N) a) (hW:VW w wr gk gh gm hs ms) (hS:Ia wr gw (Zd bk t) 49):
 Code.wp Tryz.prog (Kl 1) (Exit.then (fun a' w'=>VI2 w gk gh gm cm N gw p0 hs ms bk a' w'∧S6 a' w'<S6 a wr) Q0) a wr:=by
 have c15:=hS.get (Fi bk t (t-15) (by omega));have c2:=hS.get (Fi bk t (t-2) (by omega));have c16:=hS.get (Fi bk t (t-16) (by omega));have c7:=hS.get (Fi bk t (t-7) (by omega));have HX2:Hid (Zq (Vb bk t) t=(Vb bk t).getD (t-16) 0+KA ((Vb bk t).getD (t-15) 0)+(Vb bk t).getD (t-7) 0+Xt ((Vb bk t).getD (t-2) 0)):=rfl;generalize (Vb bk t).getD (t-15) 0=x15 at *;generalize (Vb bk t).getD (t-2) 0=x2 at *;generalize (Vb bk t).getD (t-16) 0=x16 at *;generalize (Vb bk t).getD (t-7) 0=x7 at *;have i15:(0:Int)≤(t:Int)-15:=by omega
 have j15:(t:Int)-15<80:=by omega
 have t15:((t:Int)-15).toNat=t-15:=by omega
 have i2:(0:Int)≤(t:Int)-2:=by omega
 have j2:(t:Int)-2<80:=by omega
 have t2:((t:Int)-2).toNat=t-2:=by omega
 have i16:(0:Int)≤(t:Int)-16:=by omega
 have j16:(t:Int)-16<80:=by omega
 have t16:((t:Int)-16).toNat=t-16:=by omega
 have i7:(0:Int)≤(t:Int)-7:=by omega
 have j7:(t:Int)-7<80:=by omega
 have t7:((t:Int)-7).toNat=t-7:=by omega
 obtain ⟨hs0,hd0,h6,h7,h8,h2,h3,h4,h5,_⟩:=hF;obtain ⟨u,rfl⟩:=Ud a hs0 hd0;clear hs0 hd0;change u 6=_ at h6;change u 7=_ at h7;change u 8=_ at h8;change u 2=_ at h2;change u 3=_ at h3;change u 4=_ at h4;change u 5=_ at h5;rw [h6,h7,h8,h2,h3,h4,h5];clear h6 h7 h8 h2 h3 h4 h5
 conv=>arg 2;whnf
 go_wp2
 go_quiet (fail)
 go_wp2_with fail
 refine Ad 32 (by kernel_rfl) (by kernel_rfl) ?_;intro w5 hw5;have hW2:VW w w5 gk gh gm hs ms:=by rw [hw5];exact (hW.drewN nq).drew
 have hS2:Ia w5 gw (Zd bk t) 49:=by rw [hw5];exact hS
 have d16:w5.cell? ⟨gw,t-16,none⟩=some (qa x16):=by rw [hw5];exact c16
 have d7:w5.cell? ⟨gw,t-7,none⟩=some (qa x7):=by rw [hw5];exact c7
 clear hw5 hW hS c15 c2 c16 c7;have df:=hS2.frozen t;obtain ⟨v4,dc3⟩:∃v,w5.cell? ⟨gw,t,none⟩=some v:=⟨_,hS2.cell t (by rw [Wf _ _ (by omega)];omega)⟩;have it:(t:Int)<80:=by omega
 have s16:IntKind.i64.wrap ((t:Int)-16)=(t:Int)-16:=IntWalk.i64_in _ (by omega);have s7:IntKind.i64.wrap ((t:Int)-7)=(t:Int)-7:=IntWalk.i64_in _ (by omega);have m16:(16:Int)≤(t:Int):=by omega
 have m7:(7:Int)≤(t:Int):=by omega
 simp only [List.take_succ_cons,List.take_zero,List.drop_succ_cons,List.drop_zero];have q17:=Tk x2 19 w5 (by omega) (by omega);have q19:=Tk x2 61 w5 (by omega) (by omega);have q7:=Tk x15 1 w5 (by omega) (by omega);have q18:=Tk x15 8 w5 (by omega) (by omega)
 iterate 3 still_step
 still_call q17
 still_step
 still_call q19
 iterate 11 still_step
 still_call q7
 still_step
 still_call q18
 iterate 12 still_step
 clear s16 s7 q17 q19 q7 q18;refine wpStill_nil ?_
 go_wp2
 have e7:=DF x15 7;have e6:=DF x2 6;rw [show (2:Int)^7=128 from rfl] at e7;rw [show (2:Int)^6=64 from rfl] at e6;rw [e7,e6,Uk,Uk,Uk,Uk,Vh,Vh,Vh];refine ⟨⟨t+1,by omega,⟨rfl,rfl,rfl,rfl,by show Value.int .i64 ((t:Int)+1)=_;go_num,rfl,rfl,rfl,rfl,trivial⟩,hW2.but ((But.refl gw w5).setCell t _) hgw,?_⟩,?_⟩
 ·have h:=hS2.set t (qa (Zq (Vb bk t) t));rw [Ml bk t (by omega) _ (by rw [if_neg (by omega)]),HX2.out] at h;rw [DZ];exact h
 ·show 80-((t:Int)+1).toNat<80-((t:Int)).toNat;omega
def VX2 (w:World) (gk gh gm cm N gw p0:Nat) (hs:List Value) (ms bk:List UInt8) (a:Act) (wr:World):Prop:=
 Fr 249 ([(6,.int .i64 (p0:Int)),(7,.slice (some ⟨gw,0,none⟩) 80 80)]++Lf w gk gh gm cm N) a∧VW w wr gk gh gm hs ms∧Ia wr gw (Zd bk 80) 49
theorem Kae (w wr:World) (gk gh gm cm N gw p0:Nat) (hs:List Value) (ms bk:List UInt8) (a:Act) (Q0:Exit→Act→World→Prop) (hN:N≤10000) (hml:ms.length=128*N) (hp:p0+128≤128*N) (hgw:gm<gw) (hbk:bk=(ms.drop p0).take 128)
 (hI:VI2 w gk gh gm cm N gw p0 hs ms bk a wr) (hX:∀a wr,VX2 w gk gh gm cm N gw p0 hs ms bk a wr→Q0 (.exit 2) a wr):Code.wp Tryz.prog (Code.loop (Kl 1)) Q0 a wr:=by
 refine wp_loop (VI2 w gk gh gm cm N gw p0 hs ms bk) S6 hI ?_;clear hI a wr;rintro a wr ⟨t,ht,hF,hW,hS⟩;by_cases h1:t<16
 ·exact T6 w wr gk gh gm cm N gw p0 t hs ms bk a Q0 hN hml hp hgw hbk h1 hF hW hS
 by_cases h2:t<80
 ·exact U6 w wr gk gh gm cm N gw p0 t hs ms bk a Q0 hgw (by omega) h2 hF hW hS
 obtain rfl:t=80:=by omega
 have HX:=Lib.hid hX;clear hX;obtain ⟨hs0,hd0,h6,h7,h8,h2,h3,h4,h5,_⟩:=hF;obtain ⟨u,rfl⟩:=Ud a hs0 hd0;clear hs0 hd0;change u 6=_ at h6;change u 7=_ at h7;change u 8=_ at h8;change u 2=_ at h2;change u 3=_ at h3;change u 4=_ at h4;change u 5=_ at h5;rw [h6,h7,h8,h2,h3,h4,h5];clear h6 h7 h8 h2 h3 h4 h5
 conv=>arg 2;whnf
 go_wp2
 exact HX.out _ _ ⟨⟨rfl,rfl,rfl,rfl,rfl,rfl,rfl,rfl,trivial⟩,hW,hS⟩
def VI3 (w:World) (gk gh gm cm N gw p0:Nat) (oo:Wct) (ws:List (BitVec 64)) (ms:List UInt8) (a:Act) (wr:World):Prop:=
 ∃k:Nat,k≤80∧Fr 249 ([(6,.int .i64 (p0:Int)),(7,.slice (some ⟨gw,0,none⟩) 80 80),(20,.int .i64 (k:Int)),(12,qa (Tb oo ws k).a),(13,qa (Tb oo ws k).b),(14,qa (Tb oo ws k).c),(15,qa (Tb oo ws k).d),(16,qa (Tb oo ws k).e),(17,qa (Tb oo ws k).f),(18,qa (Tb oo ws k).g),(19,qa (Tb oo ws k).h)]++Lf w gk gh gm cm N) a∧VW w wr gk gh gm (oo.list.map qa) ms∧Ia wr gw (ws.map qa) 49
def Lae (a:Act) (_:World):Nat:=80-(intOf (a.tmps.getD 20 undef)).toNat
theorem Jaa (w wr:World) (gk gh gm cm N gw p0 k:Nat) (oo:Wct) (ws:List (BitVec 64)) (ms:List UInt8) (a:Act) (Q0:Exit→Act→World→Prop) (hws:ws.length=80) (hk:k<80)
 (hF:Fr 249 ([(6,.int .i64 (p0:Int)),(7,.slice (some ⟨gw,0,none⟩) 80 80),(20,.int .i64 (k:Int)),(12,qa (Tb oo ws k).a),(13,qa (Tb oo ws k).b),(14,qa (Tb oo ws k).c),(15,qa (Tb oo ws k).d),(16,qa (Tb oo ws k).e),(17,qa (Tb oo ws k).f),(18,qa (Tb oo ws k).g),(19,qa (Tb oo ws k).h)]++Lf w gk gh gm cm N) a) (hW:VW w wr gk gh gm (oo.list.map qa) ms) (hS:Ia wr gw (ws.map qa) 49):
 Code.wp Tryz.prog (Kl 3) (Exit.then (fun a' w'=>VI3 w gk gh gm cm N gw p0 oo ws ms a' w'∧Lae a' w'<Lae a wr) Q0) a wr:=by
 have cK:=hW.ks.get (GH Ln k hk);have cW:=hS.get (GH ws k (by rw [hws];exact hk));have HRD:Hid (Tb oo ws (k+1)=MA (Tb oo ws k) (Ln.getD k 0) (ws.getD k 0)):=rfl;clear hws;generalize Tb oo ws k=q at *;generalize ws.getD k 0=xw at *;generalize Ln.getD k 0=xk at *;have i1:(0:Int)≤(k:Int):=by omega
 have i2:(k:Int)<80:=by omega
 obtain ⟨hs0,hd0,h6,h7,h20,h12,h13,h14,h15,h16,h17,h18,h19,h2,h3,h4,h5,_⟩:=hF;obtain ⟨u,rfl⟩:=Ud a hs0 hd0;clear hs0 hd0;change u 6=_ at h6;change u 7=_ at h7;change u 20=_ at h20;change u 12=_ at h12;change u 13=_ at h13;change u 14=_ at h14;change u 15=_ at h15;change u 16=_ at h16;change u 17=_ at h17;change u 18=_ at h18;change u 19=_ at h19;change u 2=_ at h2;change u 3=_ at h3;change u 4=_ at h4;change u 5=_ at h5;rw [h6,h7,h20,h12,h13,h14,h15,h16,h17,h18,h19,h2,h3,h4,h5];clear h6 h7 h20 h12 h13 h14 h15 h16 h17 h18 h19 h2 h3 h4 h5
 conv=>arg 2;whnf
 go_wp2_with fail
 go_quiet ((go_at_call 94;exact Calls.quiet_of_same (Tk _ _ _ (by omega) (by omega))))
 go_wp2_with (go_at_call 94;refine (AZ _ _ _ (by omega) (by omega)).mono ?_;rintro e w' ⟨rfl,rfl⟩)
 simp only [Uk,EF,Hae,Vh];refine ⟨⟨k+1,by omega,⟨rfl,rfl,rfl,rfl,by show Value.int .i64 ((k:Int)+1)=_;go_num,by rw [HRD.out];rfl,by rw [HRD.out];rfl,by rw [HRD.out];rfl,by rw [HRD.out];rfl,by rw [HRD.out];rfl,by rw [HRD.out];rfl,by rw [HRD.out];rfl,by rw [HRD.out];rfl,rfl,rfl,rfl,rfl,trivial⟩,hW.drewN nq,hS⟩,?_⟩;show 80-((k:Int)+1).toNat<80-((k:Int)).toNat;omega
def VX3 (w:World) (gk gh gm cm N gw p0:Nat) (oo q:Wct) (ws:List (BitVec 64)) (ms:List UInt8) (a:Act) (wr:World):Prop:=
 Fr 249 ([(6,.int .i64 (p0:Int)),(7,.slice (some ⟨gw,0,none⟩) 80 80),(12,qa q.a),(13,qa q.b),(14,qa q.c),(15,qa q.d),(16,qa q.e),(17,qa q.f),(18,qa q.g),(19,qa q.h)]++Lf w gk gh gm cm N) a∧VW w wr gk gh gm (oo.list.map qa) ms∧Ia wr gw (ws.map qa) 49
theorem Mae (w wr:World) (gk gh gm cm N gw p0:Nat) (oo:Wct) (ws:List (BitVec 64)) (ms:List UInt8) (a:Act) (Q0:Exit→Act→World→Prop) (hws:ws.length=80)
 (hI:VI3 w gk gh gm cm N gw p0 oo ws ms a wr) (hX:∀a wr,VX3 w gk gh gm cm N gw p0 oo (Tb oo ws 80) ws ms a wr→Q0 (.exit 6) a wr):Code.wp Tryz.prog (Code.loop (Kl 3)) Q0 a wr:=by
 refine wp_loop (VI3 w gk gh gm cm N gw p0 oo ws ms) Lae hI ?_;clear hI a wr;rintro a wr ⟨k,hk,hF,hW,hS⟩;by_cases h1:k<80
 ·exact Jaa w wr gk gh gm cm N gw p0 k oo ws ms a Q0 hws h1 hF hW hS
 obtain rfl:k=80:=by omega
 have HX:=Lib.hid hX;clear hX hws;generalize Tb oo ws 80=q at *;obtain ⟨hs0,hd0,h6,h7,h20,h12,h13,h14,h15,h16,h17,h18,h19,h2,h3,h4,h5,_⟩:=hF;obtain ⟨u,rfl⟩:=Ud a hs0 hd0;clear hs0 hd0;change u 6=_ at h6;change u 7=_ at h7;change u 20=_ at h20;change u 12=_ at h12;change u 13=_ at h13;change u 14=_ at h14;change u 15=_ at h15;change u 16=_ at h16;change u 17=_ at h17;change u 18=_ at h18;change u 19=_ at h19;change u 2=_ at h2;change u 3=_ at h3;change u 4=_ at h4;change u 5=_ at h5;rw [h6,h7,h20,h12,h13,h14,h15,h16,h17,h18,h19,h2,h3,h4,h5];clear h6 h7 h20 h12 h13 h14 h15 h16 h17 h18 h19 h2 h3 h4 h5
 conv=>arg 2;whnf
 go_wp2
 exact HX.out _ _ ⟨⟨rfl,rfl,rfl,rfl,rfl,rfl,rfl,rfl,rfl,rfl,rfl,rfl,rfl,rfl,rfl,rfl,trivial⟩,hW,hS⟩
def VI4 (w:World) (gk gh gm cm N gx p0:Nat) (oo q:Wct) (ms:List UInt8) (a:Act) (wr:World):Prop:=
 ∃k:Nat,k≤8∧Fr 249 ([(6,.int .i64 (p0:Int)),(208,.slice (some ⟨gx,0,none⟩) 8 8),(209,.int .i64 8),(210,.int .i64 (k:Int))]++Lf w gk gh gm cm N) a∧VW w wr gk gh gm (zi oo q k) ms∧Ia wr gx (q.list.map qa) 49
def Nae (a:Act) (_:World):Nat:=8-(intOf (a.tmps.getD 210 undef)).toNat
theorem Kaa (w wr:World) (gk gh gm cm N gx p0 k:Nat) (oo q:Wct) (ms:List UInt8) (a:Act) (Q0:Exit→Act→World→Prop) (hk:k<8) (hgx:gm<gx)
 (hF:Fr 249 ([(6,.int .i64 (p0:Int)),(208,.slice (some ⟨gx,0,none⟩) 8 8),(209,.int .i64 8),(210,.int .i64 (k:Int))]++Lf w gk gh gm cm N) a) (hW:VW w wr gk gh gm (zi oo q k) ms) (hG:Ia wr gx (q.list.map qa) 49):
 Code.wp Tryz.prog (Kl 4) (Exit.then (fun a' w'=>VI4 w gk gh gm cm N gx p0 oo q ms a' w'∧Nae a' w'<Nae a wr) Q0) a wr:=by
 have cG:=hG.get (SZ q k hk);have cH:=hW.ch.get (JF oo q k hk);have fH:=hW.ch.frozen k;have HE:Hid ((zi oo q k).set k (qa (oo.list.getD k 0+q.list.getD k 0))=zi oo q (k+1)):=Rx oo q k hk;generalize oo.list.getD k 0=x at *;generalize q.list.getD k 0=y at *;have i1:(0:Int)≤(k:Int):=by omega
 have i2:(k:Int)<8:=by omega
 obtain ⟨hs0,hd0,h6,h208,h209,h210,h2,h3,h4,h5,_⟩:=hF;obtain ⟨u,rfl⟩:=Ud a hs0 hd0;clear hs0 hd0;change u 6=_ at h6;change u 208=_ at h208;change u 209=_ at h209;change u 210=_ at h210;change u 2=_ at h2;change u 3=_ at h3;change u 4=_ at h4;change u 5=_ at h5;rw [h6,h208,h209,h210,h2,h3,h4,h5];clear h6 h208 h209 h210 h2 h3 h4 h5
 conv=>arg 2;whnf
 go_wp2
 rw [Vh];have hc:=hW.chain k (qa (x+y));rw [HE.out] at hc;have h1:=hW.o3;refine ⟨⟨k+1,by omega,⟨rfl,rfl,rfl,rfl,rfl,by show Value.int .i64 ((k:Int)+1)=_;go_num,rfl,rfl,rfl,rfl,trivial⟩,hc,hG.other (by show gx≠gh;omega) _⟩,?_⟩;show 8-((k:Int)+1).toNat<8-((k:Int)).toNat;omega
def VX4 (w:World) (gk gh gm cm N p0:Nat) (oo q:Wct) (ms:List UInt8) (a:Act) (wr:World):Prop:=
 Fr 249 ([(6,.int .i64 (p0:Int))]++Lf w gk gh gm cm N) a∧VW w wr gk gh gm ((oo.plus q).list.map qa) ms
theorem Oae (w wr:World) (gk gh gm cm N gx p0:Nat) (oo q:Wct) (ms:List UInt8) (a:Act) (Q0:Exit→Act→World→Prop) (hgx:gm<gx)
 (hI:VI4 w gk gh gm cm N gx p0 oo q ms a wr) (hX:∀a wr,VX4 w gk gh gm cm N p0 oo q ms a wr→Q0 (.exit 8) a wr):Code.wp Tryz.prog (Code.loop (Kl 4)) Q0 a wr:=by
 refine wp_loop (VI4 w gk gh gm cm N gx p0 oo q ms) Nae hI ?_;clear hI a wr;rintro a wr ⟨k,hk,hF,hW,hG⟩;by_cases h1:k<8
 ·exact Kaa w wr gk gh gm cm N gx p0 k oo q ms a Q0 h1 hgx hF hW hG
 obtain rfl:k=8:=by omega
 have HX:=Lib.hid hX;clear hX;obtain ⟨hs0,hd0,h6,h208,h209,h210,h2,h3,h4,h5,_⟩:=hF;obtain ⟨u,rfl⟩:=Ud a hs0 hd0;clear hs0 hd0;change u 6=_ at h6;change u 208=_ at h208;change u 209=_ at h209;change u 210=_ at h210;change u 2=_ at h2;change u 3=_ at h3;change u 4=_ at h4;change u 5=_ at h5;rw [h6,h208,h209,h210,h2,h3,h4,h5];clear h6 h208 h209 h210 h2 h3 h4 h5
 conv=>arg 2;whnf
 go_wp2
 exact HX.out _ _ ⟨⟨rfl,rfl,rfl,rfl,rfl,rfl,rfl,trivial⟩,hW⟩
theorem OP (vs cs:List Value) (o:Nat) (u:Value) (h:o+cs.length<vs.length):(Ub vs o cs).set (o+cs.length) u=Ub vs o (cs++[u]):=by
 unfold Ub;have hl:(vs.take o++cs).length=o+cs.length:=by rw [qaj,zaj];omega
 rw [List.set_append_right _ _ (by omega),hl,Nat.sub_self,List.drop_eq_getElem_cons h];simp only [List.set_cons_zero,qaj,List.length_cons,List.length_nil,List.append_assoc,List.cons_append,List.nil_append,Nat.add_assoc,Nat.zero_add]
def Uq (l:List (BitVec 64)) (k:Nat):List Value:=(Ee (l.take k)).map Fa++List.replicate (64-8*k) (Fa 0)
theorem No (l:List (BitVec 64)) (k:Nat) (hl:l.length=8) (hk:k≤8):(Uq l k).length=64:=by
 rw [Uq,qaj,Uaj,Vg,zaj,hl,List.length_replicate];omega
def Fk (l:List (BitVec 64)) (k:Nat) (x:BitVec 64) (j:Nat):List Value:=Ub (Uq l k) (8*k) ((Nm x.toNat 8 j).map Fa)
theorem QP (l:List (BitVec 64)) (k:Nat) (x:BitVec 64):Fk l k x 0=Uq l k:=by simp [Fk,Nm,Ub]
theorem RP (l:List (BitVec 64)) (k:Nat) (x:BitVec 64) (j:Nat) (hl:l.length=8) (hk:k<8) (hj:j<8):(Fk l k x j).set (8*k+j) (Fa (Ec x.toNat (7-j)))=Fk l k x (j+1):=by
 have h:=OP (Uq l k) ((Nm x.toNat 8 j).map Fa) (8*k) (Fa (Ec x.toNat (7-j))) (by rw [No l k hl (by omega),Uaj,Rj];omega);rw [Uaj,Rj] at h;unfold Fk;rw [h,Rv,List.map_append];rfl
theorem DU (l:List (BitVec 64)) (k:Nat) (hk:k<l.length) (hl:l.length=8):Fk l k l[k] 8=Uq l (k+1):=by
 unfold Fk;rw [FA];exact Tr l k hk hl
theorem Fs (l:List (BitVec 64)) (k:Nat) (x:BitVec 64) (j:Nat) (hl:l.length=8) (hk:k<8) (hj:j≤8):(Fk l k x j).length=64:=by
 rw [Fk,Lj _ _ _ (by rw [No l k hl (by omega),Uaj,Rj];omega),No l k hl (by omega)]
def VIb (w:World) (gk gh gm cm N go k:Nat) (x:BitVec 64) (l:List (BitVec 64)) (ms:List UInt8) (a:Act) (wr:World):Prop:=
 ∃j:Nat,j≤8∧Fr 249 ([(25,.pointer (some ⟨go,0,none⟩)),(224,.slice (some ⟨gh,0,none⟩) 8 8),(225,.int .i64 8),(226,.int .i64 (k:Int)),(26,.int .i64 (k:Int)),(27,qa x),(28,.int .i64 (j:Int))]++Lf w gk gh gm cm N) a∧VW w wr gk gh gm (l.map qa) ms∧Ia wr go (Fk l k x j) 26
def Pae (a:Act) (_:World):Nat:=8-(intOf (a.tmps.getD 28 undef)).toNat
theorem Laa (w wr:World) (gk gh gm cm N go k j:Nat) (x:BitVec 64) (l:List (BitVec 64)) (ms:List UInt8) (a:Act) (Q0:Exit→Act→World→Prop) (hl:l.length=8) (hk:k<8) (hj:j<8) (hgo:gm<go)
 (hF:Fr 249 ([(25,.pointer (some ⟨go,0,none⟩)),(224,.slice (some ⟨gh,0,none⟩) 8 8),(225,.int .i64 8),(226,.int .i64 (k:Int)),(26,.int .i64 (k:Int)),(27,qa x),(28,.int .i64 (j:Int))]++Lf w gk gh gm cm N) a) (hW:VW w wr gk gh gm (l.map qa) ms) (hO:Ia wr go (Fk l k x j) 26):
 Code.wp Tryz.prog (Kl 6) (Exit.then (fun a' w'=>VIb w gk gh gm cm N go k x l ms a' w'∧Pae a' w'<Pae a wr) Q0) a wr:=by
 have HE:=Lib.hid (RP l k x j hl hk hj);have HB:=Lib.hid (Ut x.toNat (7-j));have hT:=hO.there (8*k+j) 1 (by rw [Fs l k x j hl hk (by omega)];omega);have fH:=hO.frozen (8*k+j);obtain ⟨v3,hc3⟩:∃v,wr.cell? ⟨go,8*k+j,none⟩=some v:=⟨_,hO.cell (8*k+j) (by rw [Fs l k x j hl hk (by omega)];omega)⟩;clear hl;have i1:(0:Int)≤8*(k:Int)+(j:Int):=by omega
 have i2:8*(k:Int)+(j:Int)<64:=by omega
 have n1:(8*(k:Int)+(j:Int)).toNat=8*k+j:=by omega
 have i3:(j:Int)<8:=by omega
 generalize hmm:7-j=m at *;have f1:(56:Int)-8*(j:Int)=8*(m:Int):=by omega
 have hm7:m≤7:=by omega
 replace hmm:=Lib.hid hmm;obtain ⟨hs0,hd0,h25,h224,h225,h226,h26,h27,h28,h2,h3,h4,h5,_⟩:=hF;obtain ⟨u,rfl⟩:=Ud a hs0 hd0;clear hs0 hd0;change u 25=_ at h25;change u 224=_ at h224;change u 225=_ at h225;change u 226=_ at h226;change u 26=_ at h26;change u 27=_ at h27;change u 28=_ at h28;change u 2=_ at h2;change u 3=_ at h3;change u 4=_ at h4;change u 5=_ at h5;rw [h25,h224,h225,h226,h26,h27,h28,h2,h3,h4,h5];clear h25 h224 h225 h226 h26 h27 h28 h2 h3 h4 h5
 conv=>arg 2;whnf
 go_wp2
 rw [HB.out];refine ⟨⟨j+1,by omega,⟨rfl,rfl,rfl,rfl,rfl,rfl,rfl,rfl,by show Value.int .i64 ((j:Int)+1)=_;go_num,rfl,rfl,rfl,rfl,trivial⟩,hW.but ((But.refl go wr).setCell _ _) hgo,?_⟩,?_⟩
 ·have h:=hO.set (8*k+j) (Fa (Ec x.toNat m));rw [HE.out] at h;exact h
 ·show 8-((j:Int)+1).toNat<8-((j:Int)).toNat;omega
def VXb (w:World) (gk gh gm cm N go k:Nat) (l:List (BitVec 64)) (ms:List UInt8) (a:Act) (wr:World):Prop:=
 Fr 249 ([(25,.pointer (some ⟨go,0,none⟩)),(224,.slice (some ⟨gh,0,none⟩) 8 8),(225,.int .i64 8),(226,.int .i64 (k:Int))]++Lf w gk gh gm cm N) a∧VW w wr gk gh gm (l.map qa) ms∧Ia wr go (Uq l (k+1)) 26
theorem Qae (w wr:World) (gk gh gm cm N go k:Nat) (l:List (BitVec 64)) (ms:List UInt8) (a:Act) (Q0:Exit→Act→World→Prop) (hl:l.length=8) (hk:k<8) (hk2:k<l.length) (hgo:gm<go)
 (hI:VIb w gk gh gm cm N go k l[k] l ms a wr) (hX:∀a wr,VXb w gk gh gm cm N go k l ms a wr→Q0 (.exit 12) a wr):Code.wp Tryz.prog (Code.loop (Kl 6)) Q0 a wr:=by
 refine wp_loop (VIb w gk gh gm cm N go k l[k] l ms) Pae hI ?_;clear hI a wr;rintro a wr ⟨j,hj,hF,hW,hO⟩;by_cases h1:j<8
 ·exact Laa w wr gk gh gm cm N go k j l[k] l ms a Q0 hl hk h1 hgo hF hW hO
 obtain rfl:j=8:=by omega
 rw [DU l k hk2 hl] at hO;have HX:=Lib.hid hX;clear hX hl;generalize l[k]=x at *;obtain ⟨hs0,hd0,h25,h224,h225,h226,h26,h27,h28,h2,h3,h4,h5,_⟩:=hF;obtain ⟨u,rfl⟩:=Ud a hs0 hd0;clear hs0 hd0;change u 25=_ at h25;change u 224=_ at h224;change u 225=_ at h225;change u 226=_ at h226;change u 26=_ at h26;change u 27=_ at h27;change u 28=_ at h28;change u 2=_ at h2;change u 3=_ at h3;change u 4=_ at h4;change u 5=_ at h5;rw [h25,h224,h225,h226,h26,h27,h28,h2,h3,h4,h5];clear h25 h224 h225 h226 h26 h27 h28 h2 h3 h4 h5
 conv=>arg 2;whnf
 go_wp2
 exact HX.out _ _ ⟨⟨rfl,rfl,rfl,rfl,rfl,rfl,rfl,rfl,rfl,rfl,trivial⟩,hW,hO⟩
def VI5 (w:World) (gk gh gm cm N go:Nat) (l:List (BitVec 64)) (ms:List UInt8) (a:Act) (wr:World):Prop:=
 ∃k:Nat,k≤8∧Fr 249 ([(25,.pointer (some ⟨go,0,none⟩)),(224,.slice (some ⟨gh,0,none⟩) 8 8),(225,.int .i64 8),(226,.int .i64 (k:Int))]++Lf w gk gh gm cm N) a∧VW w wr gk gh gm (l.map qa) ms∧Ia wr go (Uq l k) 26
def Rae (a:Act) (_:World):Nat:=8-(intOf (a.tmps.getD 226 undef)).toNat
theorem Maa (w wr:World) (gk gh gm cm N go k:Nat) (l:List (BitVec 64)) (ms:List UInt8) (a:Act) (Q0:Exit→Act→World→Prop) (hl:l.length=8) (hk:k<8) (hgo:gm<go)
 (hF:Fr 249 ([(25,.pointer (some ⟨go,0,none⟩)),(224,.slice (some ⟨gh,0,none⟩) 8 8),(225,.int .i64 8),(226,.int .i64 (k:Int))]++Lf w gk gh gm cm N) a) (hW:VW w wr gk gh gm (l.map qa) ms) (hO:Ia wr go (Uq l k) 26):
 Code.wp Tryz.prog (Kl 5) (Exit.then (fun a' w'=>VI5 w gk gh gm cm N go l ms a' w'∧Rae a' w'<Rae a wr) Q0) a wr:=by
 have hk2:k<l.length:=by omega
 have cH:=hW.ch.get (show (l.map qa)[k]? =some (qa l[k]) by rw [List.getElem?_map,xaj hk2];rfl);have HO:Hid (Ia wr go (Fk l k l[k] 0) 26):=by rw [QP];exact hO
 have HL:=Lib.hid hl;have HX:Hid (∃x,l[k]=x):=⟨_,rfl⟩;obtain ⟨x,hx⟩:=HX.out;replace hx:=Lib.hid hx;rw [hx.out] at cH;clear hl HX hO;have i1:(0:Int)≤(k:Int):=by omega
 have i2:(k:Int)<8:=by omega
 obtain ⟨hs0,hd0,h25,h224,h225,h226,h2,h3,h4,h5,_⟩:=hF;obtain ⟨u,rfl⟩:=Ud a hs0 hd0;clear hs0 hd0;change u 25=_ at h25;change u 224=_ at h224;change u 225=_ at h225;change u 226=_ at h226;change u 2=_ at h2;change u 3=_ at h3;change u 4=_ at h4;change u 5=_ at h5;rw [h25,h224,h225,h226,h2,h3,h4,h5];clear h25 h224 h225 h226 h2 h3 h4 h5
 conv=>arg 2;whnf
 go_wp2_with fail
 refine Qae w wr gk gh gm cm N go k l ms _ _ HL.out hk hk2 hgo ⟨0,by omega,⟨rfl,rfl,rfl,rfl,rfl,rfl,rfl,by rw [hx.out];rfl,rfl,rfl,rfl,rfl,rfl,trivial⟩,hW,HO.out⟩ ?_;clear hW HO cH;rintro a5 w5 ⟨hF,hW,hO⟩;obtain ⟨hs0,hd0,h25,h224,h225,h226,h2,h3,h4,h5,-⟩:=hF;obtain ⟨u,rfl⟩:=Ud a5 hs0 hd0;clear hs0 hd0;change u 25=_ at h25;change u 224=_ at h224;change u 225=_ at h225;change u 226=_ at h226;change u 2=_ at h2;change u 3=_ at h3;change u 4=_ at h4;change u 5=_ at h5;rw [h25,h224,h225,h226,h2,h3,h4,h5];clear h25 h224 h225 h226 h2 h3 h4 h5;go_wp2_with fail
 refine ⟨⟨k+1,by omega,⟨rfl,rfl,rfl,rfl,rfl,by show Value.int .i64 ((k:Int)+1)=_;go_num,rfl,rfl,rfl,rfl,trivial⟩,hW,hO⟩,?_⟩;show 8-((k:Int)+1).toNat<8-((k:Int)).toNat;omega
def VX5 (w:World) (gk gh gm cm N go:Nat) (l:List (BitVec 64)) (ms:List UInt8) (a:Act) (wr:World):Prop:=
 Fr 249 ([(25,.pointer (some ⟨go,0,none⟩))]++Lf w gk gh gm cm N) a∧VW w wr gk gh gm (l.map qa) ms∧Ia wr go ((Ee l).map Fa) 26
theorem Sae (w wr:World) (gk gh gm cm N go:Nat) (l:List (BitVec 64)) (ms:List UInt8) (a:Act) (Q0:Exit→Act→World→Prop) (hl:l.length=8) (hgo:gm<go)
 (hI:VI5 w gk gh gm cm N go l ms a wr) (hX:∀a wr,VX5 w gk gh gm cm N go l ms a wr→Q0 (.exit 10) a wr):Code.wp Tryz.prog (Code.loop (Kl 5)) Q0 a wr:=by
 refine wp_loop (VI5 w gk gh gm cm N go l ms) Rae hI ?_;clear hI a wr;rintro a wr ⟨k,hk,hF,hW,hO⟩;by_cases h1:k<8
 ·exact Maa w wr gk gh gm cm N go k l ms a Q0 hl h1 hgo hF hW hO
 obtain rfl:k=8:=by omega
 have HV:Hid (Uq l 8=(Ee l).map Fa):=by
  show _=_;rw [Uq,Zaj (by rw [hl];omega)];simp
 rw [HV.out] at hO;have HX:=Lib.hid hX;clear hX hl;obtain ⟨hs0,hd0,h25,h224,h225,h226,h2,h3,h4,h5,_⟩:=hF;obtain ⟨u,rfl⟩:=Ud a hs0 hd0;clear hs0 hd0;change u 25=_ at h25;change u 224=_ at h224;change u 225=_ at h225;change u 226=_ at h226;change u 2=_ at h2;change u 3=_ at h3;change u 4=_ at h4;change u 5=_ at h5;rw [h25,h224,h225,h226,h2,h3,h4,h5];clear h25 h224 h225 h226 h2 h3 h4 h5
 conv=>arg 2;whnf
 go_wp2
 exact HX.out _ _ ⟨⟨rfl,rfl,rfl,rfl,rfl,rfl,rfl,trivial⟩,hW,hO⟩
def VI1 (w:World) (gk gh gm cm N:Nat) (ms:List UInt8) (a:Act) (wr:World):Prop:=
 ∃k:Nat,k≤N∧Fr 249 ([(6,.int .i64 ((128*k:Nat):Int))]++Lf w gk gh gm cm N) a∧VW w wr gk gh gm ((Xd ms k).list.map qa) ms
def Tae (N:Nat) (a:Act) (_:World):Nat:=128*N-(intOf (a.tmps.getD 6 undef)).toNat
theorem Naa (w wr:World) (gk gh gm cm N k:Nat) (ms:List UInt8) (a:Act) (Q0:Exit→Act→World→Prop) (hN:N≤10000) (hml:ms.length=128*N) (hk:k<N)
 (hF:Fr 249 ([(6,.int .i64 ((128*k:Nat):Int))]++Lf w gk gh gm cm N) a) (hW:VW w wr gk gh gm ((Xd ms k).list.map qa) ms):
 Code.wp Tryz.prog (Kl 0) (Exit.then (fun a' w'=>VI1 w gk gh gm cm N ms a' w'∧Tae N a' w'<Tae N a wr) Q0) a wr:=by
 have hmk:=NK 80 (by omega);have e64:((80:Nat):Int)=80:=rfl;rw [e64] at hmk;clear e64;have HC:Hid (Xd ms (k+1)=Ni (Xd ms k) ((ms.drop (128*k)).take 128)):=rfl;have HML:=Lib.hid hml;have HP:Hid (128*k+128≤128*N):=by show _≤_;omega
 have hk2:((128*k:Nat):Int)<128*(N:Int):=by omega
 have hat:128*k≤2000000:=by omega
 have HK:=Lib.hid hk;clear hml hk;generalize hbk:(ms.drop (128*k)).take 128=bk at *;replace hbk:=Lib.hid hbk;generalize Xd ms k=oo at *;generalize hpo:128*k=p0 at *;replace hpo:=Lib.hid hpo;obtain ⟨hs0,hd0,h6,h2,h3,h4,h5,-⟩:=hF;obtain ⟨u,rfl⟩:=Ud a hs0 hd0;clear hs0 hd0;change u 6=_ at h6;change u 2=_ at h2;change u 3=_ at h3;change u 4=_ at h4;change u 5=_ at h5;rw [h6,h2,h3,h4,h5];clear h6 h2 h3 h4 h5
 conv=>arg 2;whnf
 go_wp2_with fail
 have hW1:=hW.alloc (.cells (Lt 80).toArray 49);have hS1:Ia (wr.alloc (.cells (Lt 80).toArray 49)) wr.heap.size (Zd bk 0) 49:=by
  have :=Ia.new wr (Lt 80).toArray 49;simpa [Zd,Vb,Lt] using this
 have hgw:=hW.o4;generalize wr.alloc (.cells (Lt 80).toArray 49)=w4 at *;generalize wr.heap.size=gw at *;clear hW hmk;refine Kae w w4 gk gh gm cm N gw p0 (oo.list.map qa) ms bk _ _ hN HML.out HP.out hgw (by rw [←hbk.out]) ⟨0,by omega,⟨rfl,rfl,rfl,rfl,rfl,rfl,rfl,rfl,rfl,trivial⟩,hW1,hS1⟩ ?_;clear hW1 hS1;rintro a5 w5 ⟨hF,hW,hS⟩;obtain ⟨hs0,hd0,h6,h7,h2,h3,h4,h5,-⟩:=hF;obtain ⟨u,rfl⟩:=Ud a5 hs0 hd0;clear hs0 hd0;change u 6=_ at h6;change u 7=_ at h7;change u 2=_ at h2;change u 3=_ at h3;change u 4=_ at h4;change u 5=_ at h5;rw [h6,h7,h2,h3,h4,h5];clear h6 h7 h2 h3 h4 h5;have HWS:Hid (Zd bk 80=(Vb bk 80).map qa):=by show _=_;simp [Zd]
 rw [HWS.out] at hS;have HWL:=Lib.hid (Bd bk 80);have HBL:Hid (Ni oo bk=oo.plus (Tb oo (Vb bk 80) 80)):=rfl;generalize Vb bk 80=ws at *;have c0:=hW.ch.get (j:=0) (v:=qa oo.a) rfl;have c1:=hW.ch.get (j:=1) (v:=qa oo.b) rfl;have c2:=hW.ch.get (j:=2) (v:=qa oo.c) rfl;have c3:=hW.ch.get (j:=3) (v:=qa oo.d) rfl;have c4:=hW.ch.get (j:=4) (v:=qa oo.e) rfl;have c5:=hW.ch.get (j:=5) (v:=qa oo.f) rfl;have c6:=hW.ch.get (j:=6) (v:=qa oo.g) rfl;have c7:=hW.ch.get (j:=7) (v:=qa oo.h) rfl;go_wp2_with fail
 go_quiet (fail)
 have hW1:=hW.drewN nq;have hS1:=hS.drewN nq;clear hW hS c0 c1 c2 c3 c4 c5 c6 c7;generalize w5.drewN nq=w6 at *;go_wp2_with fail
 refine Mae w w6 gk gh gm cm N gw p0 oo ws ms _ _ HWL.out ⟨0,by omega,⟨rfl,rfl,rfl,rfl,rfl,rfl,rfl,rfl,rfl,rfl,rfl,rfl,rfl,rfl,rfl,rfl,rfl,trivial⟩,hW1,hS1⟩ ?_;clear hW1 hS1;generalize Tb oo ws 80=q at *;rintro a7 w7 ⟨hF,hW,hS⟩;obtain ⟨hs0,hd0,h6,h7,h12,h13,h14,h15,h16,h17,h18,h19,h2,h3,h4,h5,-⟩:=hF;obtain ⟨u,rfl⟩:=Ud a7 hs0 hd0;clear hs0 hd0;change u 6=_ at h6;change u 7=_ at h7;change u 12=_ at h12;change u 13=_ at h13;change u 14=_ at h14;change u 15=_ at h15;change u 16=_ at h16;change u 17=_ at h17;change u 18=_ at h18;change u 19=_ at h19;change u 2=_ at h2;change u 3=_ at h3;change u 4=_ at h4;change u 5=_ at h5;rw [h6,h7,h12,h13,h14,h15,h16,h17,h18,h19,h2,h3,h4,h5];clear h6 h7 h12 h13 h14 h15 h16 h17 h18 h19 h2 h3 h4 h5;go_wp2_with fail
 have hG1:Ia (w7.alloc (.cells #[qa q.a,qa q.b,qa q.c,qa q.d,qa q.e,qa q.f,qa q.g,qa q.h] 49)) w7.heap.size (q.list.map qa) 49:=Ia.new w7 (q.list.map qa).toArray 49;have hW1:=hW.alloc (.cells #[qa q.a,qa q.b,qa q.c,qa q.d,qa q.e,qa q.f,qa q.g,qa q.h] 49);have hgx:=hW.o4;generalize w7.alloc (.cells #[qa q.a,qa q.b,qa q.c,qa q.d,qa q.e,qa q.f,qa q.g,qa q.h] 49)=w8 at *;generalize w7.heap.size=gx at *;clear hW hS;refine Oae w w8 gk gh gm cm N gx p0 oo q ms _ _ hgx ⟨0,by omega,⟨rfl,rfl,rfl,rfl,rfl,rfl,rfl,rfl,rfl,rfl,trivial⟩,hW1,hG1⟩ ?_;clear hW1 hG1;rintro a9 w9 ⟨hF,hW⟩;obtain ⟨hs0,hd0,h6,h2,h3,h4,h5,-⟩:=hF;obtain ⟨u,rfl⟩:=Ud a9 hs0 hd0;clear hs0 hd0;change u 6=_ at h6;change u 2=_ at h2;change u 3=_ at h3;change u 4=_ at h4;change u 5=_ at h5;rw [h6,h2,h3,h4,h5];clear h6 h2 h3 h4 h5;go_wp2_with fail
 rw [←HBL.out,←HC.out] at hW;have e1:=hpo.out;have e2:=HK.out;refine ⟨⟨k+1,by omega,⟨rfl,rfl,?_,rfl,rfl,rfl,rfl,trivial⟩,hW⟩,?_⟩
 ·show Value.int .i64 ((p0:Int)+128)=Value.int .i64 ((128*(k+1):Nat):Int);rw [←e1];congr 1
 ·show 128*N-((p0:Int)+128).toNat<128*N-((p0:Int)).toNat;omega
def VX1 (w:World) (gk gh gm cm N:Nat) (ms:List UInt8) (a:Act) (wr:World):Prop:=
 Fr 249 (Lf w gk gh gm cm N) a∧VW w wr gk gh gm ((Xd ms N).list.map qa) ms
theorem Uae (w wr:World) (gk gh gm cm N:Nat) (ms:List UInt8) (a:Act) (Q0:Exit→Act→World→Prop) (hN:N≤10000) (hml:ms.length=128*N)
 (hI:VI1 w gk gh gm cm N ms a wr) (hX:∀a wr,VX1 w gk gh gm cm N ms a wr→Q0 (.exit 0) a wr):Code.wp Tryz.prog (Code.loop (Kl 0)) Q0 a wr:=by
 refine wp_loop (VI1 w gk gh gm cm N ms) (Tae N) hI ?_;clear hI a wr;rintro a wr ⟨k,hk,hF,hW⟩;by_cases h1:k<N
 ·exact Naa w wr gk gh gm cm N k ms a Q0 hN hml h1 hF hW
 obtain rfl:k=N:=by omega
 have HX:=Lib.hid hX;have h64:¬((128*k:Nat):Int)<128*(k:Int):=by omega
 clear hX hml h1;obtain ⟨hs0,hd0,h6,h2,h3,h4,h5,-⟩:=hF;obtain ⟨u,rfl⟩:=Ud a hs0 hd0;clear hs0 hd0;change u 6=_ at h6;change u 2=_ at h2;change u 3=_ at h3;change u 4=_ at h4;change u 5=_ at h5;rw [h6,h2,h3,h4,h5];clear h6 h2 h3 h4 h5
 conv=>arg 2;whnf
 go_wp2
 exact HX.out _ _ ⟨⟨rfl,rfl,rfl,rfl,rfl,rfl,trivial⟩,hW⟩
def z64:List Value:=List.replicate 64 (Fa 0)
theorem Oaa:z64.toArray=#[.int .u8 0,.int .u8 0,.int .u8 0,.int .u8 0,.int .u8 0,.int .u8 0,.int .u8 0,.int .u8 0,.int .u8 0,.int .u8 0,.int .u8 0,.int .u8 0,.int .u8 0,.int .u8 0,.int .u8 0,.int .u8 0,.int .u8 0,.int .u8 0,.int .u8 0,.int .u8 0,.int .u8 0,.int .u8 0,.int .u8 0,.int .u8 0,.int .u8 0,.int .u8 0,.int .u8 0,.int .u8 0,.int .u8 0,.int .u8 0,.int .u8 0,.int .u8 0,.int .u8 0,.int .u8 0,.int .u8 0,.int .u8 0,.int .u8 0,.int .u8 0,.int .u8 0,.int .u8 0,.int .u8 0,.int .u8 0,.int .u8 0,.int .u8 0,.int .u8 0,.int .u8 0,.int .u8 0,.int .u8 0,.int .u8 0,.int .u8 0,.int .u8 0,.int .u8 0,.int .u8 0,.int .u8 0,.int .u8 0,.int .u8 0,.int .u8 0,.int .u8 0,.int .u8 0,.int .u8 0,.int .u8 0,.int .u8 0,.int .u8 0,.int .u8 0]:=by rfl
theorem V6:z64.toArray.all (·.oneCell')=true:=all_oneCell_toArray (by intro v hv;rw [List.eq_of_mem_replicate hv];rfl)
theorem Vq (A:Option Addr) (c n:Nat) (bs:List UInt8) (w:World) (hl:bs.length=n) (hr:Row w w.heap.size A bs) (hA:A=none→c=0) (hn:n≤900000):
 Calls Tryz.prog 50 #[.slice A n c] w (gvn (Ca (Ed bs)) w):=by
 have HL:=Lib.hid hl;clear hl;go_enter Tryz.func50,Tryz.ntmps50;go_wp2_with (refine Ke rfl 26 rfl _ Q6 ?_
                                                                             intro w0 hw0;have hB0:Below w.heap.size w w0:=by rw [hw0];exact (Below.refl _ _).alloc (Xaj _) _
                                                                             have hR0:Ia w0 w.heap.size (List.replicate 64 (Fa 0)) 26:=by rw [hw0];exact Ia.new w _ _
                                                                             clear hw0;have hz:=hR0.lt)
 refine (Kv w0).mono ?_;rintro e w1 ⟨rfl,hB1,hK1⟩;have hB2:=hB0.trans (hB1.mono hB0.size);have hR2:=hR0.below hB1 hR0.lt;have hz2:=hK1.lt;generalize w0.heap.size=gk at *;clear hB0 hR0 hB1;go_wp2_with fail
 have hH3:Ia (w1.alloc (.cells #[.int .u64 7640891576956012808,.int .u64 13503953896175478587,.int .u64 4354685564936845355,.int .u64 11912009170470909681,.int .u64 5840696475078001361,.int .u64 11170449401992604703,.int .u64 2270897969802886507,.int .u64 6620516959819538809] 49)) w1.heap.size (Cf.list.map qa) 49:=Ia.new w1 (Cf.list.map qa).toArray 49;have hB3:=hB2.alloc hB2.size (.cells #[.int .u64 7640891576956012808,.int .u64 13503953896175478587,.int .u64 4354685564936845355,.int .u64 11912009170470909681,.int .u64 5840696475078001361,.int .u64 11170449401992604703,.int .u64 2270897969802886507,.int .u64 6620516959819538809] 49);have hR3:=hR2.alloc (.cells #[.int .u64 7640891576956012808,.int .u64 13503953896175478587,.int .u64 4354685564936845355,.int .u64 11912009170470909681,.int .u64 5840696475078001361,.int .u64 11170449401992604703,.int .u64 2270897969802886507,.int .u64 6620516959819538809] 49);have hK3:=hK1.alloc (.cells #[.int .u64 7640891576956012808,.int .u64 13503953896175478587,.int .u64 4354685564936845355,.int .u64 11912009170470909681,.int .u64 5840696475078001361,.int .u64 11170449401992604703,.int .u64 2270897969802886507,.int .u64 6620516959819538809] 49);generalize w1.alloc (.cells #[.int .u64 7640891576956012808,.int .u64 13503953896175478587,.int .u64 4354685564936845355,.int .u64 11912009170470909681,.int .u64 5840696475078001361,.int .u64 11170449401992604703,.int .u64 2270897969802886507,.int .u64 6620516959819538809] 49)=w2 at *;generalize w1.heap.size=gh at *;have hz3:=hH3.lt;clear hB2 hR2 hK1;refine (SD A c n bs w2 HL.out (hr.on hB3) hA hn).mono ?_;rintro e w3 ⟨gm,cm,rfl,hgm,hB4,hM⟩;have HGM:Hid (gh<gm):=by show _<_;omega
 clear hgm;have hB5:=hB3.trans (hB4.mono hB3.size);have hR5:=hR3.below hB4 hR3.lt;have hK5:=hK3.below hB4 hK3.lt;have hH5:=hH3.below hB4 hH3.lt;clear hB3 hR3 hK3 hH3;have HM:Hid ((yd bs).length=128*((yd bs).length/128)):=by
  show _=_;have h1:=yf bs;have h2:=NA bs.length;omega
 have hm1:(yd bs).length/128≤10000:=by
  have h1:=yf bs;have h2:=yi bs.length;have h3:=HL.out;omega
 have HX:Hid (Ed bs=Ee (Xd (yd bs) ((yd bs).length/128)).list):=rfl;have HM0:Hid (0<(yd bs).length):=by show _<_;rw [yf];omega
 generalize yd bs=ms at *;generalize hN:ms.length/128=N at *;replace hN:=Lib.hid hN;go_wp2_with fail
 rw [HM.out];have hW0:VW w w3 gk gh gm ((Xd ms 0).list.map qa) ms:=⟨hB5,hR5,hK5,hH5,hM,hz,hz2,HGM.out,by
  rcases hM with e|⟨b',off',e3,h,_⟩
  ·exfalso;subst e;have h1:=HM0.out;simp at h1
  ·cases e3;exact h⟩
 refine Uae w w3 gk gh gm cm N ms _ _ hm1 HM.out ⟨0,Nat.zero_le _,⟨rfl,rfl,rfl,rfl,rfl,rfl,rfl,trivial⟩,hW0⟩ ?_;clear hW0 hB5 hR5 hK5 hH5 hM hB4;rintro a5 w5 ⟨hF,hW⟩;obtain ⟨hs0,hd0,h2,h3,h4,h5,-⟩:=hF;obtain ⟨u,rfl⟩:=Ud a5 hs0 hd0;clear hs0 hd0;change u 2=_ at h2;change u 3=_ at h3;change u 4=_ at h4;change u 5=_ at h5;rw [h2,h3,h4,h5];clear h2 h3 h4 h5;have HL8:Hid ((Xd ms N).list.length=8):=rfl;generalize (Xd ms N).list=l at *;have HT6:Hid ((w5.alloc (.cells z64.toArray 26)).there w5.heap.size 0 z64.toArray.size):=(Ia.new w5 z64.toArray 26).there 0 64 (by simp [z64]);go_wp2_with (first
  |(rw [←Oaa]
    refine wpList_store_mid rfl 26 _ _ rfl w5.heap.size 0 z64.toArray rfl rfl HT6.out LP V6 ?_))
 have hW6:=(hW.alloc (.cells z64.toArray 26)).but ((But.refl w5.heap.size _).setCells 0 z64) hW.o4;have hO6:Ia ((w5.alloc (.cells z64.toArray 26)).setCells w5.heap.size 0 z64) w5.heap.size (List.replicate 64 (Fa 0)) 26:=by
  have h:=(Ia.new w5 z64.toArray 26).setCells (cs:=z64) (o:=0) (by simp [z64]);rw [Xb _ _ (by simp [z64])] at h;exact h
 have hgo:=hW.o4;generalize (w5.alloc (.cells z64.toArray 26)).setCells w5.heap.size 0 z64=w6 at *;generalize w5.heap.size=go at *;clear hW;refine Sae w w6 gk gh gm cm N go l ms _ _ HL8.out hgo ⟨0,Nat.zero_le _,⟨rfl,rfl,rfl,rfl,rfl,rfl,rfl,rfl,rfl,rfl,trivial⟩,hW6,hO6⟩ ?_;clear hW6 hO6;rintro a7 w7 ⟨hF,hW,hO⟩;obtain ⟨hs0,hd0,h25,h2,h3,h4,h5,-⟩:=hF;obtain ⟨u,rfl⟩:=Ud a7 hs0 hd0;clear hs0 hd0;change u 25=_ at h25;change u 2=_ at h2;change u 3=_ at h3;change u 4=_ at h4;change u 5=_ at h5;rw [h25,h2,h3,h4,h5];clear h25 h2 h3 h4 h5;have HV:Hid (Ca (Ed bs)=.agg ((Ee l).map Fa).toArray):=by show _=_;rw [HX.out];rfl
 have HW:Hid (((Ee l).map Fa).length=64):=by show _=_;rw [Uaj,Vg,HL8.out]
 have HP:Hid (∀v∈(Ee l).map Fa,v.oneCell'=true):=Kg _;generalize (Ee l).map Fa=vs at *;have HS:Hid (vs.toArray.size=64):=by show _=_;rw [List.size_toArray,HW.out]
 have hi:(Tryz.prog.info? 26).map (·.size)=some vs.toArray.size:=by rw [HS.out];exact LP
 have hT:w7.there w.heap.size 0 vs.toArray.size:=by rw [HS.out];exact hW.res.there 0 64 (by simp)
 go_wp2_with (first
  |(refine wpList_load_row rfl 26 _ rfl go rfl 26 _ (0,0) _ hO Tryz.underlying26 rfl hi ?_)
  |(refine wpList_store_mid rfl 26 _ _ rfl w.heap.size 0 vs.toArray rfl rfl hT hi (all_oneCell_toArray HP.out) ?_))
 have hC:=hW.res.setCells (cs:=vs) (o:=0) (by simp [HW.out]);rw [Xb _ _ (by simp [HW.out])] at hC;refine Yi Tryz.results50 w.heap.size vs 26 rfl hC Tryz.underlying26 rfl (by simpa using hi) rfl ⟨by rw [HV.out],Kd hW.below (Xaj _) _ _⟩
theorem yE:(Rows.laid_fellowship_shawide_start:DataW Unit)=Lib.tabData .u64 (Cf.list.map fun x=>(x.toNat:Int)):=by rfl
theorem TD:(Rows.laid_fellowship_shawide_rounds:DataW Unit)=Lib.tabData .u64 (Ln.map fun x=>(x.toNat:Int)):=by rfl
theorem Yy {W:World} {name:String} {g:Nat} {cs:Array Value} (l:List (BitVec 64)) (hg:Tryz.prog.globalNamed name=some g) (hv:W.var? Tryz.prog name=some cs) (hc:cs.toList=(l.map fun x=>(x.toNat:Int)).map fun z=>Value.int .u64 z):W.rangeAt g 0 (l.map qa):=by
 intro j v hj;have h:=World.var?_cell hg hv j;have e:cs[j]? =some v:=by
  rw [←Array.getElem?_toList,hc,List.map_map];exact hj
 rw [e] at h;simpa using h
theorem W6 {W:World} {ps:List MemPlace} (h:DataW.LaidVars Tryz.prog W [("fellowship/shawide.start",Rows.laid_fellowship_shawide_start),("fellowship/shawide.rounds",Rows.laid_fellowship_shawide_rounds)] ps):Yh W:=by
 obtain ⟨g2,t2,cs2,f2,p2,q2,hg2,ht2,hv2,hd2,hq2,rfl⟩:=h;obtain ⟨g3,t3,cs3,f3,p3,q3,hg3,ht3,hv3,hd3,_,rfl⟩:=hq2;obtain rfl:2=g2:=Option.some.inj ((show Tryz.prog.globalNamed "fellowship/shawide.start"=some 2 by kernel_rfl).symm.trans hg2);obtain rfl:3=g3:=Option.some.inj ((show Tryz.prog.globalNamed "fellowship/shawide.rounds"=some 3 by kernel_rfl).symm.trans hg3);obtain rfl:119=t2:=Option.some.inj ((show (Tryz.prog.globals[2]?).map (·.type)=some 119 by kernel_rfl).symm.trans ht2);obtain rfl:154=t3:=Option.some.inj ((show (Tryz.prog.globals[3]?).map (·.type)=some 154 by kernel_rfl).symm.trans ht3);rw [yE] at hd2;rw [TD] at hd3;have c2:=Lib.cells_of_tab Tryz.underlying119 Tryz.underlying49 (by kernel_rfl) (by kernel_rfl) hd2;have c3:=Lib.cells_of_tab Tryz.underlying154 Tryz.underlying49 (by kernel_rfl) (by kernel_rfl) hd3;exact ⟨Yy Cf.list hg2 hv2 c2,Yy Ln hg3 hv3 c3⟩
end Go.Proofs.YtoggkhjaghkpnaaGreatDoor
