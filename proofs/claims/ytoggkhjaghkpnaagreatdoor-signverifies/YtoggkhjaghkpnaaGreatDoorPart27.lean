/- Part 27 of what the laws of this seat share: VR3, VR4, VR5, VR, VRSum, VLaw, YAlive, ZLaw, YSign, YVerify. -/
import Derived.Lib.LaidTab
import Derived.Stop.BytesEq
import Derived.Lib.SlBytesConst
import Derived.Deep.Cut
import Derived.Test.YtoggkhjaghkpnaaGreatDoorPart26
set_option maxRecDepth 100000
set_option maxHeartbeats 8000000
namespace Go.Proofs.YtoggkhjaghkpnaaGreatDoor
open Go.RowKit
def VI3 (w:World) (gk gh gm cm N gw p0:Nat) (oo:Wct) (ws:List (BitVec 64)) (ms:List UInt8) (a:Act) (wr:World):Prop:=
 ∃k:Nat,k≤80∧Fr 249 ([(6,.int .i64 (p0:Int)),(7,.slice (some ⟨gw,0,none⟩) 80 80),(20,.int .i64 (k:Int)),(12,qa (Tb oo ws k).a),(13,qa (Tb oo ws k).b),(14,qa (Tb oo ws k).c),(15,qa (Tb oo ws k).d),(16,qa (Tb oo ws k).e),(17,qa (Tb oo ws k).f),(18,qa (Tb oo ws k).g),(19,qa (Tb oo ws k).h)]++Lf w gk gh gm cm N) a∧VW w wr gk gh gm (oo.list.map qa) ms∧Ia wr gw (ws.map qa) 49
def Lae (a:Act) (_:World):Nat:=80-(intOf (a.tmps.getD 20 undef)).toNat
theorem Jaa (w wr:World) (gk gh gm cm N gw p0 k:Nat) (oo:Wct) (ws:List (BitVec 64)) (ms:List UInt8) (a:Act) (Q0:Exit→Act→World→Prop) (hws:ws.length=80) (hk:k<80)
 (hF:Fr 249 ([(6,.int .i64 (p0:Int)),(7,.slice (some ⟨gw,0,none⟩) 80 80),(20,.int .i64 (k:Int)),(12,qa (Tb oo ws k).a),(13,qa (Tb oo ws k).b),(14,qa (Tb oo ws k).c),(15,qa (Tb oo ws k).d),(16,qa (Tb oo ws k).e),(17,qa (Tb oo ws k).f),(18,qa (Tb oo ws k).g),(19,qa (Tb oo ws k).h)]++Lf w gk gh gm cm N) a) (hW:VW w wr gk gh gm (oo.list.map qa) ms) (hS:Ia wr gw (ws.map qa) 49):
 Code.wp Tryz.prog (Kl 3) (Exit.then (fun a' w'=>VI3 w gk gh gm cm N gw p0 oo ws ms a' w'∧Lae a' w'<Lae a wr) Q0) a wr:=by
 have cK:=hW.ks.get (GH Ln k hk);have cW:=hS.get (GH ws k (by rw [hws];exact hk));have HRD:Hid (Tb oo ws (k+1)=MA (Tb oo ws k) (Ln.getD k 0) (ws.getD k 0)):=rfl;clear hws;generalize Tb oo ws k=q at *;generalize ws.getD k 0=xw at *;generalize Ln.getD k 0=xk at *;have i1:(0:Int)≤(k:Int):=by omega
 have i2:(k:Int)<80:=by omega
 obtain ⟨hs0,hd0,h6,h7,h20,h12,h13,h14,h15,h16,h17,h18,h19,h2,h3,h4,h5,_⟩:=hF;obtain ⟨u,rfl⟩:=Ud a hs0 hd0;clear hs0 hd0;change u 6=_ at h6;change u 7=_ at h7;change u 20=_ at h20;change u 12=_ at h12;change u 13=_ at h13;change u 14=_ at h14;change u 15=_ at h15;change u 16=_ at h16;change u 17=_ at h17;change u 18=_ at h18;change u 19=_ at h19;change u 2=_ at h2;change u 3=_ at h3;change u 4=_ at h4;change u 5=_ at h5;rw [h6,h7,h20,h12,h13,h14,h15,h16,h17,h18,h19,h2,h3,h4,h5];clear h6 h7 h20 h12 h13 h14 h15 h16 h17 h18 h19 h2 h3 h4 h5
 conv=>arg 2;whnf
 go_wp2_with fail
 go_quiet ((go_at_call 94;exact Calls.quiet_of_same (Tk _ _ _ (by omega) (by omega))))
 go_wp2_with (go_at_call 94;refine (AZ _ _ _ (by omega) (by omega)).mono ?_;rintro e w' ⟨rfl,rfl⟩)
 simp only [Uk,EF,Hae,Vh];refine ⟨⟨k+1,by omega,⟨rfl,rfl,rfl,rfl,by show Value.int .i64 ((k:Int)+1)=_;go_num,by rw [HRD.out];rfl,by rw [HRD.out];rfl,by rw [HRD.out];rfl,by rw [HRD.out];rfl,by rw [HRD.out];rfl,by rw [HRD.out];rfl,by rw [HRD.out];rfl,by rw [HRD.out];rfl,rfl,rfl,rfl,rfl,trivial⟩,hW.drewN nq,hS⟩,?_⟩;show 80-((k:Int)+1).toNat<80-((k:Int)).toNat;omega
def VX3 (w:World) (gk gh gm cm N gw p0:Nat) (oo q:Wct) (ws:List (BitVec 64)) (ms:List UInt8) (a:Act) (wr:World):Prop:=
 Fr 249 ([(6,.int .i64 (p0:Int)),(7,.slice (some ⟨gw,0,none⟩) 80 80),(12,qa q.a),(13,qa q.b),(14,qa q.c),(15,qa q.d),(16,qa q.e),(17,qa q.f),(18,qa q.g),(19,qa q.h)]++Lf w gk gh gm cm N) a∧VW w wr gk gh gm (oo.list.map qa) ms∧Ia wr gw (ws.map qa) 49
theorem Mae (w wr:World) (gk gh gm cm N gw p0:Nat) (oo:Wct) (ws:List (BitVec 64)) (ms:List UInt8) (a:Act) (Q0:Exit→Act→World→Prop) (hws:ws.length=80)
 (hI:VI3 w gk gh gm cm N gw p0 oo ws ms a wr) (hX:∀a wr,VX3 w gk gh gm cm N gw p0 oo (Tb oo ws 80) ws ms a wr→Q0 (.exit 6) a wr):Code.wp Tryz.prog (Code.loop (Kl 3)) Q0 a wr:=by
 refine wp_loop (VI3 w gk gh gm cm N gw p0 oo ws ms) Lae hI ?_;clear hI a wr;rintro a wr ⟨k,hk,hF,hW,hS⟩;by_cases h1:k<80
 ·exact Jaa w wr gk gh gm cm N gw p0 k oo ws ms a Q0 hws h1 hF hW hS
 obtain rfl:k=80:=by omega
 have HX:=Lib.hid hX;clear hX hws;generalize Tb oo ws 80=q at *;obtain ⟨hs0,hd0,h6,h7,h20,h12,h13,h14,h15,h16,h17,h18,h19,h2,h3,h4,h5,_⟩:=hF;obtain ⟨u,rfl⟩:=Ud a hs0 hd0;clear hs0 hd0;change u 6=_ at h6;change u 7=_ at h7;change u 20=_ at h20;change u 12=_ at h12;change u 13=_ at h13;change u 14=_ at h14;change u 15=_ at h15;change u 16=_ at h16;change u 17=_ at h17;change u 18=_ at h18;change u 19=_ at h19;change u 2=_ at h2;change u 3=_ at h3;change u 4=_ at h4;change u 5=_ at h5;rw [h6,h7,h20,h12,h13,h14,h15,h16,h17,h18,h19,h2,h3,h4,h5];clear h6 h7 h20 h12 h13 h14 h15 h16 h17 h18 h19 h2 h3 h4 h5
 conv=>arg 2;whnf
 go_wp2
 exact HX.out _ _ ⟨⟨rfl,rfl,rfl,rfl,rfl,rfl,rfl,rfl,rfl,rfl,rfl,rfl,rfl,rfl,rfl,rfl,trivial⟩,hW,hS⟩
def VI4 (w:World) (gk gh gm cm N gx p0:Nat) (oo q:Wct) (ms:List UInt8) (a:Act) (wr:World):Prop:=
 ∃k:Nat,k≤8∧Fr 249 ([(6,.int .i64 (p0:Int)),(208,.slice (some ⟨gx,0,none⟩) 8 8),(209,.int .i64 8),(210,.int .i64 (k:Int))]++Lf w gk gh gm cm N) a∧VW w wr gk gh gm (zi oo q k) ms∧Ia wr gx (q.list.map qa) 49
def Nae (a:Act) (_:World):Nat:=8-(intOf (a.tmps.getD 210 undef)).toNat
theorem Kaa (w wr:World) (gk gh gm cm N gx p0 k:Nat) (oo q:Wct) (ms:List UInt8) (a:Act) (Q0:Exit→Act→World→Prop) (hk:k<8) (hgx:gm<gx)
 (hF:Fr 249 ([(6,.int .i64 (p0:Int)),(208,.slice (some ⟨gx,0,none⟩) 8 8),(209,.int .i64 8),(210,.int .i64 (k:Int))]++Lf w gk gh gm cm N) a) (hW:VW w wr gk gh gm (zi oo q k) ms) (hG:Ia wr gx (q.list.map qa) 49):
 Code.wp Tryz.prog (Kl 4) (Exit.then (fun a' w'=>VI4 w gk gh gm cm N gx p0 oo q ms a' w'∧Nae a' w'<Nae a wr) Q0) a wr:=by
 have cG:=hG.get (SZ q k hk);have cH:=hW.ch.get (JF oo q k hk);have fH:=hW.ch.frozen k;have HE:Hid ((zi oo q k).set k (qa (oo.list.getD k 0+q.list.getD k 0))=zi oo q (k+1)):=Rx oo q k hk;generalize oo.list.getD k 0=x at *;generalize q.list.getD k 0=y at *;have i1:(0:Int)≤(k:Int):=by omega
 have i2:(k:Int)<8:=by omega
 obtain ⟨hs0,hd0,h6,h208,h209,h210,h2,h3,h4,h5,_⟩:=hF;obtain ⟨u,rfl⟩:=Ud a hs0 hd0;clear hs0 hd0;change u 6=_ at h6;change u 208=_ at h208;change u 209=_ at h209;change u 210=_ at h210;change u 2=_ at h2;change u 3=_ at h3;change u 4=_ at h4;change u 5=_ at h5;rw [h6,h208,h209,h210,h2,h3,h4,h5];clear h6 h208 h209 h210 h2 h3 h4 h5
 conv=>arg 2;whnf
 go_wp2
 rw [Vh];have hc:=hW.chain k (qa (x+y));rw [HE.out] at hc;have h1:=hW.o3;refine ⟨⟨k+1,by omega,⟨rfl,rfl,rfl,rfl,rfl,by show Value.int .i64 ((k:Int)+1)=_;go_num,rfl,rfl,rfl,rfl,trivial⟩,hc,hG.other (by show gx≠gh;omega) _⟩,?_⟩;show 8-((k:Int)+1).toNat<8-((k:Int)).toNat;omega
def VX4 (w:World) (gk gh gm cm N p0:Nat) (oo q:Wct) (ms:List UInt8) (a:Act) (wr:World):Prop:=
 Fr 249 ([(6,.int .i64 (p0:Int))]++Lf w gk gh gm cm N) a∧VW w wr gk gh gm ((oo.plus q).list.map qa) ms
theorem Oae (w wr:World) (gk gh gm cm N gx p0:Nat) (oo q:Wct) (ms:List UInt8) (a:Act) (Q0:Exit→Act→World→Prop) (hgx:gm<gx)
 (hI:VI4 w gk gh gm cm N gx p0 oo q ms a wr) (hX:∀a wr,VX4 w gk gh gm cm N p0 oo q ms a wr→Q0 (.exit 8) a wr):Code.wp Tryz.prog (Code.loop (Kl 4)) Q0 a wr:=by
 refine wp_loop (VI4 w gk gh gm cm N gx p0 oo q ms) Nae hI ?_;clear hI a wr;rintro a wr ⟨k,hk,hF,hW,hG⟩;by_cases h1:k<8
 ·exact Kaa w wr gk gh gm cm N gx p0 k oo q ms a Q0 h1 hgx hF hW hG
 obtain rfl:k=8:=by omega
 have HX:=Lib.hid hX;clear hX;obtain ⟨hs0,hd0,h6,h208,h209,h210,h2,h3,h4,h5,_⟩:=hF;obtain ⟨u,rfl⟩:=Ud a hs0 hd0;clear hs0 hd0;change u 6=_ at h6;change u 208=_ at h208;change u 209=_ at h209;change u 210=_ at h210;change u 2=_ at h2;change u 3=_ at h3;change u 4=_ at h4;change u 5=_ at h5;rw [h6,h208,h209,h210,h2,h3,h4,h5];clear h6 h208 h209 h210 h2 h3 h4 h5
 conv=>arg 2;whnf
 go_wp2
 exact HX.out _ _ ⟨⟨rfl,rfl,rfl,rfl,rfl,rfl,rfl,trivial⟩,hW⟩
theorem OP (vs cs:List Value) (o:Nat) (u:Value) (h:o+cs.length<vs.length):(Ub vs o cs).set (o+cs.length) u=Ub vs o (cs++[u]):=by
 unfold Ub;have hl:(vs.take o++cs).length=o+cs.length:=by rw [qaj,zaj];omega
 rw [List.set_append_right _ _ (by omega),hl,Nat.sub_self,List.drop_eq_getElem_cons h];simp only [List.set_cons_zero,qaj,List.length_cons,List.length_nil,List.append_assoc,List.cons_append,List.nil_append,Nat.add_assoc,Nat.zero_add]
def Uq (l:List (BitVec 64)) (k:Nat):List Value:=(Ee (l.take k)).map Fa++List.replicate (64-8*k) (Fa 0)
theorem No (l:List (BitVec 64)) (k:Nat) (hl:l.length=8) (hk:k≤8):(Uq l k).length=64:=by
 rw [Uq,qaj,Uaj,Vg,zaj,hl,List.length_replicate];omega
def Fk (l:List (BitVec 64)) (k:Nat) (x:BitVec 64) (j:Nat):List Value:=Ub (Uq l k) (8*k) ((Nm x.toNat 8 j).map Fa)
theorem QP (l:List (BitVec 64)) (k:Nat) (x:BitVec 64):Fk l k x 0=Uq l k:=by simp [Fk,Nm,Ub]
theorem RP (l:List (BitVec 64)) (k:Nat) (x:BitVec 64) (j:Nat) (hl:l.length=8) (hk:k<8) (hj:j<8):(Fk l k x j).set (8*k+j) (Fa (Ec x.toNat (7-j)))=Fk l k x (j+1):=by
 have h:=OP (Uq l k) ((Nm x.toNat 8 j).map Fa) (8*k) (Fa (Ec x.toNat (7-j))) (by rw [No l k hl (by omega),Uaj,Rj];omega);rw [Uaj,Rj] at h;unfold Fk;rw [h,Rv,List.map_append];rfl
theorem DU (l:List (BitVec 64)) (k:Nat) (hk:k<l.length) (hl:l.length=8):Fk l k l[k] 8=Uq l (k+1):=by
 unfold Fk;rw [FA];exact Tr l k hk hl
theorem Fs (l:List (BitVec 64)) (k:Nat) (x:BitVec 64) (j:Nat) (hl:l.length=8) (hk:k<8) (hj:j≤8):(Fk l k x j).length=64:=by
 rw [Fk,Lj _ _ _ (by rw [No l k hl (by omega),Uaj,Rj];omega),No l k hl (by omega)]
def VIb (w:World) (gk gh gm cm N go k:Nat) (x:BitVec 64) (l:List (BitVec 64)) (ms:List UInt8) (a:Act) (wr:World):Prop:=
 ∃j:Nat,j≤8∧Fr 249 ([(25,.pointer (some ⟨go,0,none⟩)),(224,.slice (some ⟨gh,0,none⟩) 8 8),(225,.int .i64 8),(226,.int .i64 (k:Int)),(26,.int .i64 (k:Int)),(27,qa x),(28,.int .i64 (j:Int))]++Lf w gk gh gm cm N) a∧VW w wr gk gh gm (l.map qa) ms∧Ia wr go (Fk l k x j) 26
def Pae (a:Act) (_:World):Nat:=8-(intOf (a.tmps.getD 28 undef)).toNat
theorem Laa (w wr:World) (gk gh gm cm N go k j:Nat) (x:BitVec 64) (l:List (BitVec 64)) (ms:List UInt8) (a:Act) (Q0:Exit→Act→World→Prop) (hl:l.length=8) (hk:k<8) (hj:j<8) (hgo:gm<go)
 (hF:Fr 249 ([(25,.pointer (some ⟨go,0,none⟩)),(224,.slice (some ⟨gh,0,none⟩) 8 8),(225,.int .i64 8),(226,.int .i64 (k:Int)),(26,.int .i64 (k:Int)),(27,qa x),(28,.int .i64 (j:Int))]++Lf w gk gh gm cm N) a) (hW:VW w wr gk gh gm (l.map qa) ms) (hO:Ia wr go (Fk l k x j) 26):
 Code.wp Tryz.prog (Kl 6) (Exit.then (fun a' w'=>VIb w gk gh gm cm N go k x l ms a' w'∧Pae a' w'<Pae a wr) Q0) a wr:=by
 have HE:=Lib.hid (RP l k x j hl hk hj);have HB:=Lib.hid (Ut x.toNat (7-j));have hT:=hO.there (8*k+j) 1 (by rw [Fs l k x j hl hk (by omega)];omega);have fH:=hO.frozen (8*k+j);obtain ⟨v3,hc3⟩:∃v,wr.cell? ⟨go,8*k+j,none⟩=some v:=⟨_,hO.cell (8*k+j) (by rw [Fs l k x j hl hk (by omega)];omega)⟩;clear hl;have i1:(0:Int)≤8*(k:Int)+(j:Int):=by omega
 have i2:8*(k:Int)+(j:Int)<64:=by omega
 have n1:(8*(k:Int)+(j:Int)).toNat=8*k+j:=by omega
 have i3:(j:Int)<8:=by omega
 generalize hmm:7-j=m at *;have f1:(56:Int)-8*(j:Int)=8*(m:Int):=by omega
 have hm7:m≤7:=by omega
 replace hmm:=Lib.hid hmm;obtain ⟨hs0,hd0,h25,h224,h225,h226,h26,h27,h28,h2,h3,h4,h5,_⟩:=hF;obtain ⟨u,rfl⟩:=Ud a hs0 hd0;clear hs0 hd0;change u 25=_ at h25;change u 224=_ at h224;change u 225=_ at h225;change u 226=_ at h226;change u 26=_ at h26;change u 27=_ at h27;change u 28=_ at h28;change u 2=_ at h2;change u 3=_ at h3;change u 4=_ at h4;change u 5=_ at h5;rw [h25,h224,h225,h226,h26,h27,h28,h2,h3,h4,h5];clear h25 h224 h225 h226 h26 h27 h28 h2 h3 h4 h5
 conv=>arg 2;whnf
 go_wp2
 rw [HB.out];refine ⟨⟨j+1,by omega,⟨rfl,rfl,rfl,rfl,rfl,rfl,rfl,rfl,by show Value.int .i64 ((j:Int)+1)=_;go_num,rfl,rfl,rfl,rfl,trivial⟩,hW.but ((But.refl go wr).setCell _ _) hgo,?_⟩,?_⟩
 ·have h:=hO.set (8*k+j) (Fa (Ec x.toNat m));rw [HE.out] at h;exact h
 ·show 8-((j:Int)+1).toNat<8-((j:Int)).toNat;omega
def VXb (w:World) (gk gh gm cm N go k:Nat) (l:List (BitVec 64)) (ms:List UInt8) (a:Act) (wr:World):Prop:=
 Fr 249 ([(25,.pointer (some ⟨go,0,none⟩)),(224,.slice (some ⟨gh,0,none⟩) 8 8),(225,.int .i64 8),(226,.int .i64 (k:Int))]++Lf w gk gh gm cm N) a∧VW w wr gk gh gm (l.map qa) ms∧Ia wr go (Uq l (k+1)) 26
theorem Qae (w wr:World) (gk gh gm cm N go k:Nat) (l:List (BitVec 64)) (ms:List UInt8) (a:Act) (Q0:Exit→Act→World→Prop) (hl:l.length=8) (hk:k<8) (hk2:k<l.length) (hgo:gm<go)
 (hI:VIb w gk gh gm cm N go k l[k] l ms a wr) (hX:∀a wr,VXb w gk gh gm cm N go k l ms a wr→Q0 (.exit 12) a wr):Code.wp Tryz.prog (Code.loop (Kl 6)) Q0 a wr:=by
 refine wp_loop (VIb w gk gh gm cm N go k l[k] l ms) Pae hI ?_;clear hI a wr;rintro a wr ⟨j,hj,hF,hW,hO⟩;by_cases h1:j<8
 ·exact Laa w wr gk gh gm cm N go k j l[k] l ms a Q0 hl hk h1 hgo hF hW hO
 obtain rfl:j=8:=by omega
 rw [DU l k hk2 hl] at hO;have HX:=Lib.hid hX;clear hX hl;generalize l[k]=x at *;obtain ⟨hs0,hd0,h25,h224,h225,h226,h26,h27,h28,h2,h3,h4,h5,_⟩:=hF;obtain ⟨u,rfl⟩:=Ud a hs0 hd0;clear hs0 hd0;change u 25=_ at h25;change u 224=_ at h224;change u 225=_ at h225;change u 226=_ at h226;change u 26=_ at h26;change u 27=_ at h27;change u 28=_ at h28;change u 2=_ at h2;change u 3=_ at h3;change u 4=_ at h4;change u 5=_ at h5;rw [h25,h224,h225,h226,h26,h27,h28,h2,h3,h4,h5];clear h25 h224 h225 h226 h26 h27 h28 h2 h3 h4 h5
 conv=>arg 2;whnf
 go_wp2
 exact HX.out _ _ ⟨⟨rfl,rfl,rfl,rfl,rfl,rfl,rfl,rfl,rfl,rfl,trivial⟩,hW,hO⟩
def VI5 (w:World) (gk gh gm cm N go:Nat) (l:List (BitVec 64)) (ms:List UInt8) (a:Act) (wr:World):Prop:=
 ∃k:Nat,k≤8∧Fr 249 ([(25,.pointer (some ⟨go,0,none⟩)),(224,.slice (some ⟨gh,0,none⟩) 8 8),(225,.int .i64 8),(226,.int .i64 (k:Int))]++Lf w gk gh gm cm N) a∧VW w wr gk gh gm (l.map qa) ms∧Ia wr go (Uq l k) 26
def Rae (a:Act) (_:World):Nat:=8-(intOf (a.tmps.getD 226 undef)).toNat
theorem Maa (w wr:World) (gk gh gm cm N go k:Nat) (l:List (BitVec 64)) (ms:List UInt8) (a:Act) (Q0:Exit→Act→World→Prop) (hl:l.length=8) (hk:k<8) (hgo:gm<go)
 (hF:Fr 249 ([(25,.pointer (some ⟨go,0,none⟩)),(224,.slice (some ⟨gh,0,none⟩) 8 8),(225,.int .i64 8),(226,.int .i64 (k:Int))]++Lf w gk gh gm cm N) a) (hW:VW w wr gk gh gm (l.map qa) ms) (hO:Ia wr go (Uq l k) 26):
 Code.wp Tryz.prog (Kl 5) (Exit.then (fun a' w'=>VI5 w gk gh gm cm N go l ms a' w'∧Rae a' w'<Rae a wr) Q0) a wr:=by
 have hk2:k<l.length:=by omega
 have cH:=hW.ch.get (show (l.map qa)[k]? =some (qa l[k]) by rw [List.getElem?_map,xaj hk2];rfl);have HO:Hid (Ia wr go (Fk l k l[k] 0) 26):=by rw [QP];exact hO
 have HL:=Lib.hid hl;have HX:Hid (∃x,l[k]=x):=⟨_,rfl⟩;obtain ⟨x,hx⟩:=HX.out;replace hx:=Lib.hid hx;rw [hx.out] at cH;clear hl HX hO;have i1:(0:Int)≤(k:Int):=by omega
 have i2:(k:Int)<8:=by omega
 obtain ⟨hs0,hd0,h25,h224,h225,h226,h2,h3,h4,h5,_⟩:=hF;obtain ⟨u,rfl⟩:=Ud a hs0 hd0;clear hs0 hd0;change u 25=_ at h25;change u 224=_ at h224;change u 225=_ at h225;change u 226=_ at h226;change u 2=_ at h2;change u 3=_ at h3;change u 4=_ at h4;change u 5=_ at h5;rw [h25,h224,h225,h226,h2,h3,h4,h5];clear h25 h224 h225 h226 h2 h3 h4 h5
 conv=>arg 2;whnf
 go_wp2_with fail
 refine Qae w wr gk gh gm cm N go k l ms _ _ HL.out hk hk2 hgo ⟨0,by omega,⟨rfl,rfl,rfl,rfl,rfl,rfl,rfl,by rw [hx.out];rfl,rfl,rfl,rfl,rfl,rfl,trivial⟩,hW,HO.out⟩ ?_;clear hW HO cH;rintro a5 w5 ⟨hF,hW,hO⟩;obtain ⟨hs0,hd0,h25,h224,h225,h226,h2,h3,h4,h5,-⟩:=hF;obtain ⟨u,rfl⟩:=Ud a5 hs0 hd0;clear hs0 hd0;change u 25=_ at h25;change u 224=_ at h224;change u 225=_ at h225;change u 226=_ at h226;change u 2=_ at h2;change u 3=_ at h3;change u 4=_ at h4;change u 5=_ at h5;rw [h25,h224,h225,h226,h2,h3,h4,h5];clear h25 h224 h225 h226 h2 h3 h4 h5;go_wp2_with fail
 refine ⟨⟨k+1,by omega,⟨rfl,rfl,rfl,rfl,rfl,by show Value.int .i64 ((k:Int)+1)=_;go_num,rfl,rfl,rfl,rfl,trivial⟩,hW,hO⟩,?_⟩;show 8-((k:Int)+1).toNat<8-((k:Int)).toNat;omega
def VX5 (w:World) (gk gh gm cm N go:Nat) (l:List (BitVec 64)) (ms:List UInt8) (a:Act) (wr:World):Prop:=
 Fr 249 ([(25,.pointer (some ⟨go,0,none⟩))]++Lf w gk gh gm cm N) a∧VW w wr gk gh gm (l.map qa) ms∧Ia wr go ((Ee l).map Fa) 26
theorem Sae (w wr:World) (gk gh gm cm N go:Nat) (l:List (BitVec 64)) (ms:List UInt8) (a:Act) (Q0:Exit→Act→World→Prop) (hl:l.length=8) (hgo:gm<go)
 (hI:VI5 w gk gh gm cm N go l ms a wr) (hX:∀a wr,VX5 w gk gh gm cm N go l ms a wr→Q0 (.exit 10) a wr):Code.wp Tryz.prog (Code.loop (Kl 5)) Q0 a wr:=by
 refine wp_loop (VI5 w gk gh gm cm N go l ms) Rae hI ?_;clear hI a wr;rintro a wr ⟨k,hk,hF,hW,hO⟩;by_cases h1:k<8
 ·exact Maa w wr gk gh gm cm N go k l ms a Q0 hl h1 hgo hF hW hO
 obtain rfl:k=8:=by omega
 have HV:Hid (Uq l 8=(Ee l).map Fa):=by
  show _=_;rw [Uq,Zaj (by rw [hl];omega)];simp
 rw [HV.out] at hO;have HX:=Lib.hid hX;clear hX hl;obtain ⟨hs0,hd0,h25,h224,h225,h226,h2,h3,h4,h5,_⟩:=hF;obtain ⟨u,rfl⟩:=Ud a hs0 hd0;clear hs0 hd0;change u 25=_ at h25;change u 224=_ at h224;change u 225=_ at h225;change u 226=_ at h226;change u 2=_ at h2;change u 3=_ at h3;change u 4=_ at h4;change u 5=_ at h5;rw [h25,h224,h225,h226,h2,h3,h4,h5];clear h25 h224 h225 h226 h2 h3 h4 h5
 conv=>arg 2;whnf
 go_wp2
 exact HX.out _ _ ⟨⟨rfl,rfl,rfl,rfl,rfl,rfl,rfl,trivial⟩,hW,hO⟩
def VI1 (w:World) (gk gh gm cm N:Nat) (ms:List UInt8) (a:Act) (wr:World):Prop:=
 ∃k:Nat,k≤N∧Fr 249 ([(6,.int .i64 ((128*k:Nat):Int))]++Lf w gk gh gm cm N) a∧VW w wr gk gh gm ((Xd ms k).list.map qa) ms
def Tae (N:Nat) (a:Act) (_:World):Nat:=128*N-(intOf (a.tmps.getD 6 undef)).toNat
theorem Naa (w wr:World) (gk gh gm cm N k:Nat) (ms:List UInt8) (a:Act) (Q0:Exit→Act→World→Prop) (hN:N≤10000) (hml:ms.length=128*N) (hk:k<N)
 (hF:Fr 249 ([(6,.int .i64 ((128*k:Nat):Int))]++Lf w gk gh gm cm N) a) (hW:VW w wr gk gh gm ((Xd ms k).list.map qa) ms):
 Code.wp Tryz.prog (Kl 0) (Exit.then (fun a' w'=>VI1 w gk gh gm cm N ms a' w'∧Tae N a' w'<Tae N a wr) Q0) a wr:=by
 have hmk:=NK 80 (by omega);have e64:((80:Nat):Int)=80:=rfl;rw [e64] at hmk;clear e64;have HC:Hid (Xd ms (k+1)=Ni (Xd ms k) ((ms.drop (128*k)).take 128)):=rfl;have HML:=Lib.hid hml;have HP:Hid (128*k+128≤128*N):=by show _≤_;omega
 have hk2:((128*k:Nat):Int)<128*(N:Int):=by omega
 have hat:128*k≤2000000:=by omega
 have HK:=Lib.hid hk;clear hml hk;generalize hbk:(ms.drop (128*k)).take 128=bk at *;replace hbk:=Lib.hid hbk;generalize Xd ms k=oo at *;generalize hpo:128*k=p0 at *;replace hpo:=Lib.hid hpo;obtain ⟨hs0,hd0,h6,h2,h3,h4,h5,-⟩:=hF;obtain ⟨u,rfl⟩:=Ud a hs0 hd0;clear hs0 hd0;change u 6=_ at h6;change u 2=_ at h2;change u 3=_ at h3;change u 4=_ at h4;change u 5=_ at h5;rw [h6,h2,h3,h4,h5];clear h6 h2 h3 h4 h5
 conv=>arg 2;whnf
 go_wp2_with fail
 have hW1:=hW.alloc (.cells (Lt 80).toArray 49);have hS1:Ia (wr.alloc (.cells (Lt 80).toArray 49)) wr.heap.size (Zd bk 0) 49:=by
  have :=Ia.new wr (Lt 80).toArray 49;simpa [Zd,Vb,Lt] using this
 have hgw:=hW.o4;generalize wr.alloc (.cells (Lt 80).toArray 49)=w4 at *;generalize wr.heap.size=gw at *;clear hW hmk;refine Kae w w4 gk gh gm cm N gw p0 (oo.list.map qa) ms bk _ _ hN HML.out HP.out hgw (by rw [←hbk.out]) ⟨0,by omega,⟨rfl,rfl,rfl,rfl,rfl,rfl,rfl,rfl,rfl,trivial⟩,hW1,hS1⟩ ?_;clear hW1 hS1;rintro a5 w5 ⟨hF,hW,hS⟩;obtain ⟨hs0,hd0,h6,h7,h2,h3,h4,h5,-⟩:=hF;obtain ⟨u,rfl⟩:=Ud a5 hs0 hd0;clear hs0 hd0;change u 6=_ at h6;change u 7=_ at h7;change u 2=_ at h2;change u 3=_ at h3;change u 4=_ at h4;change u 5=_ at h5;rw [h6,h7,h2,h3,h4,h5];clear h6 h7 h2 h3 h4 h5;have HWS:Hid (Zd bk 80=(Vb bk 80).map qa):=by show _=_;simp [Zd]
 rw [HWS.out] at hS;have HWL:=Lib.hid (Bd bk 80);have HBL:Hid (Ni oo bk=oo.plus (Tb oo (Vb bk 80) 80)):=rfl;generalize Vb bk 80=ws at *;have c0:=hW.ch.get (j:=0) (v:=qa oo.a) rfl;have c1:=hW.ch.get (j:=1) (v:=qa oo.b) rfl;have c2:=hW.ch.get (j:=2) (v:=qa oo.c) rfl;have c3:=hW.ch.get (j:=3) (v:=qa oo.d) rfl;have c4:=hW.ch.get (j:=4) (v:=qa oo.e) rfl;have c5:=hW.ch.get (j:=5) (v:=qa oo.f) rfl;have c6:=hW.ch.get (j:=6) (v:=qa oo.g) rfl;have c7:=hW.ch.get (j:=7) (v:=qa oo.h) rfl;go_wp2_with fail
 go_quiet (fail)
 have hW1:=hW.drewN nq;have hS1:=hS.drewN nq;clear hW hS c0 c1 c2 c3 c4 c5 c6 c7;generalize w5.drewN nq=w6 at *;go_wp2_with fail
 refine Mae w w6 gk gh gm cm N gw p0 oo ws ms _ _ HWL.out ⟨0,by omega,⟨rfl,rfl,rfl,rfl,rfl,rfl,rfl,rfl,rfl,rfl,rfl,rfl,rfl,rfl,rfl,rfl,rfl,trivial⟩,hW1,hS1⟩ ?_;clear hW1 hS1;generalize Tb oo ws 80=q at *;rintro a7 w7 ⟨hF,hW,hS⟩;obtain ⟨hs0,hd0,h6,h7,h12,h13,h14,h15,h16,h17,h18,h19,h2,h3,h4,h5,-⟩:=hF;obtain ⟨u,rfl⟩:=Ud a7 hs0 hd0;clear hs0 hd0;change u 6=_ at h6;change u 7=_ at h7;change u 12=_ at h12;change u 13=_ at h13;change u 14=_ at h14;change u 15=_ at h15;change u 16=_ at h16;change u 17=_ at h17;change u 18=_ at h18;change u 19=_ at h19;change u 2=_ at h2;change u 3=_ at h3;change u 4=_ at h4;change u 5=_ at h5;rw [h6,h7,h12,h13,h14,h15,h16,h17,h18,h19,h2,h3,h4,h5];clear h6 h7 h12 h13 h14 h15 h16 h17 h18 h19 h2 h3 h4 h5;go_wp2_with fail
 have hG1:Ia (w7.alloc (.cells #[qa q.a,qa q.b,qa q.c,qa q.d,qa q.e,qa q.f,qa q.g,qa q.h] 49)) w7.heap.size (q.list.map qa) 49:=Ia.new w7 (q.list.map qa).toArray 49;have hW1:=hW.alloc (.cells #[qa q.a,qa q.b,qa q.c,qa q.d,qa q.e,qa q.f,qa q.g,qa q.h] 49);have hgx:=hW.o4;generalize w7.alloc (.cells #[qa q.a,qa q.b,qa q.c,qa q.d,qa q.e,qa q.f,qa q.g,qa q.h] 49)=w8 at *;generalize w7.heap.size=gx at *;clear hW hS;refine Oae w w8 gk gh gm cm N gx p0 oo q ms _ _ hgx ⟨0,by omega,⟨rfl,rfl,rfl,rfl,rfl,rfl,rfl,rfl,rfl,rfl,trivial⟩,hW1,hG1⟩ ?_;clear hW1 hG1;rintro a9 w9 ⟨hF,hW⟩;obtain ⟨hs0,hd0,h6,h2,h3,h4,h5,-⟩:=hF;obtain ⟨u,rfl⟩:=Ud a9 hs0 hd0;clear hs0 hd0;change u 6=_ at h6;change u 2=_ at h2;change u 3=_ at h3;change u 4=_ at h4;change u 5=_ at h5;rw [h6,h2,h3,h4,h5];clear h6 h2 h3 h4 h5;go_wp2_with fail
 rw [←HBL.out,←HC.out] at hW;have e1:=hpo.out;have e2:=HK.out;refine ⟨⟨k+1,by omega,⟨rfl,rfl,?_,rfl,rfl,rfl,rfl,trivial⟩,hW⟩,?_⟩
 ·show Value.int .i64 ((p0:Int)+128)=Value.int .i64 ((128*(k+1):Nat):Int);rw [←e1];congr 1
 ·show 128*N-((p0:Int)+128).toNat<128*N-((p0:Int)).toNat;omega
def VX1 (w:World) (gk gh gm cm N:Nat) (ms:List UInt8) (a:Act) (wr:World):Prop:=
 Fr 249 (Lf w gk gh gm cm N) a∧VW w wr gk gh gm ((Xd ms N).list.map qa) ms
theorem Uae (w wr:World) (gk gh gm cm N:Nat) (ms:List UInt8) (a:Act) (Q0:Exit→Act→World→Prop) (hN:N≤10000) (hml:ms.length=128*N)
 (hI:VI1 w gk gh gm cm N ms a wr) (hX:∀a wr,VX1 w gk gh gm cm N ms a wr→Q0 (.exit 0) a wr):Code.wp Tryz.prog (Code.loop (Kl 0)) Q0 a wr:=by
 refine wp_loop (VI1 w gk gh gm cm N ms) (Tae N) hI ?_;clear hI a wr;rintro a wr ⟨k,hk,hF,hW⟩;by_cases h1:k<N
 ·exact Naa w wr gk gh gm cm N k ms a Q0 hN hml h1 hF hW
 obtain rfl:k=N:=by omega
 have HX:=Lib.hid hX;have h64:¬((128*k:Nat):Int)<128*(k:Int):=by omega
 clear hX hml h1;obtain ⟨hs0,hd0,h6,h2,h3,h4,h5,-⟩:=hF;obtain ⟨u,rfl⟩:=Ud a hs0 hd0;clear hs0 hd0;change u 6=_ at h6;change u 2=_ at h2;change u 3=_ at h3;change u 4=_ at h4;change u 5=_ at h5;rw [h6,h2,h3,h4,h5];clear h6 h2 h3 h4 h5
 conv=>arg 2;whnf
 go_wp2
 exact HX.out _ _ ⟨⟨rfl,rfl,rfl,rfl,rfl,rfl,trivial⟩,hW⟩
def z64:List Value:=List.replicate 64 (Fa 0)
theorem Oaa:z64.toArray=#[.int .u8 0,.int .u8 0,.int .u8 0,.int .u8 0,.int .u8 0,.int .u8 0,.int .u8 0,.int .u8 0,.int .u8 0,.int .u8 0,.int .u8 0,.int .u8 0,.int .u8 0,.int .u8 0,.int .u8 0,.int .u8 0,.int .u8 0,.int .u8 0,.int .u8 0,.int .u8 0,.int .u8 0,.int .u8 0,.int .u8 0,.int .u8 0,.int .u8 0,.int .u8 0,.int .u8 0,.int .u8 0,.int .u8 0,.int .u8 0,.int .u8 0,.int .u8 0,.int .u8 0,.int .u8 0,.int .u8 0,.int .u8 0,.int .u8 0,.int .u8 0,.int .u8 0,.int .u8 0,.int .u8 0,.int .u8 0,.int .u8 0,.int .u8 0,.int .u8 0,.int .u8 0,.int .u8 0,.int .u8 0,.int .u8 0,.int .u8 0,.int .u8 0,.int .u8 0,.int .u8 0,.int .u8 0,.int .u8 0,.int .u8 0,.int .u8 0,.int .u8 0,.int .u8 0,.int .u8 0,.int .u8 0,.int .u8 0,.int .u8 0,.int .u8 0]:=by rfl
theorem V6:z64.toArray.all (·.oneCell')=true:=all_oneCell_toArray (by intro v hv;rw [List.eq_of_mem_replicate hv];rfl)
theorem Vq (A:Option Addr) (c n:Nat) (bs:List UInt8) (w:World) (hl:bs.length=n) (hr:Row w w.heap.size A bs) (hA:A=none→c=0) (hn:n≤900000):
 Calls Tryz.prog 50 #[.slice A n c] w (gvn (Ca (Ed bs)) w):=by
 have HL:=Lib.hid hl;clear hl;go_enter Tryz.func50,Tryz.ntmps50;go_wp2_with (refine Ke rfl 26 rfl _ Q6 ?_
                                                                             intro w0 hw0;have hB0:Below w.heap.size w w0:=by rw [hw0];exact (Below.refl _ _).alloc (Xaj _) _
                                                                             have hR0:Ia w0 w.heap.size (List.replicate 64 (Fa 0)) 26:=by rw [hw0];exact Ia.new w _ _
                                                                             clear hw0;have hz:=hR0.lt)
 refine (Kv w0).mono ?_;rintro e w1 ⟨rfl,hB1,hK1⟩;have hB2:=hB0.trans (hB1.mono hB0.size);have hR2:=hR0.below hB1 hR0.lt;have hz2:=hK1.lt;generalize w0.heap.size=gk at *;clear hB0 hR0 hB1;go_wp2_with fail
 have hH3:Ia (w1.alloc (.cells #[.int .u64 7640891576956012808,.int .u64 13503953896175478587,.int .u64 4354685564936845355,.int .u64 11912009170470909681,.int .u64 5840696475078001361,.int .u64 11170449401992604703,.int .u64 2270897969802886507,.int .u64 6620516959819538809] 49)) w1.heap.size (Cf.list.map qa) 49:=Ia.new w1 (Cf.list.map qa).toArray 49;have hB3:=hB2.alloc hB2.size (.cells #[.int .u64 7640891576956012808,.int .u64 13503953896175478587,.int .u64 4354685564936845355,.int .u64 11912009170470909681,.int .u64 5840696475078001361,.int .u64 11170449401992604703,.int .u64 2270897969802886507,.int .u64 6620516959819538809] 49);have hR3:=hR2.alloc (.cells #[.int .u64 7640891576956012808,.int .u64 13503953896175478587,.int .u64 4354685564936845355,.int .u64 11912009170470909681,.int .u64 5840696475078001361,.int .u64 11170449401992604703,.int .u64 2270897969802886507,.int .u64 6620516959819538809] 49);have hK3:=hK1.alloc (.cells #[.int .u64 7640891576956012808,.int .u64 13503953896175478587,.int .u64 4354685564936845355,.int .u64 11912009170470909681,.int .u64 5840696475078001361,.int .u64 11170449401992604703,.int .u64 2270897969802886507,.int .u64 6620516959819538809] 49);generalize w1.alloc (.cells #[.int .u64 7640891576956012808,.int .u64 13503953896175478587,.int .u64 4354685564936845355,.int .u64 11912009170470909681,.int .u64 5840696475078001361,.int .u64 11170449401992604703,.int .u64 2270897969802886507,.int .u64 6620516959819538809] 49)=w2 at *;generalize w1.heap.size=gh at *;have hz3:=hH3.lt;clear hB2 hR2 hK1;refine (SD A c n bs w2 HL.out (hr.on hB3) hA hn).mono ?_;rintro e w3 ⟨gm,cm,rfl,hgm,hB4,hM⟩;have HGM:Hid (gh<gm):=by show _<_;omega
 clear hgm;have hB5:=hB3.trans (hB4.mono hB3.size);have hR5:=hR3.below hB4 hR3.lt;have hK5:=hK3.below hB4 hK3.lt;have hH5:=hH3.below hB4 hH3.lt;clear hB3 hR3 hK3 hH3;have HM:Hid ((yd bs).length=128*((yd bs).length/128)):=by
  show _=_;have h1:=yf bs;have h2:=NA bs.length;omega
 have hm1:(yd bs).length/128≤10000:=by
  have h1:=yf bs;have h2:=yi bs.length;have h3:=HL.out;omega
 have HX:Hid (Ed bs=Ee (Xd (yd bs) ((yd bs).length/128)).list):=rfl;have HM0:Hid (0<(yd bs).length):=by show _<_;rw [yf];omega
 generalize yd bs=ms at *;generalize hN:ms.length/128=N at *;replace hN:=Lib.hid hN;go_wp2_with fail
 rw [HM.out];have hW0:VW w w3 gk gh gm ((Xd ms 0).list.map qa) ms:=⟨hB5,hR5,hK5,hH5,hM,hz,hz2,HGM.out,by
  rcases hM with e|⟨b',off',e3,h,_⟩
  ·exfalso;subst e;have h1:=HM0.out;simp at h1
  ·cases e3;exact h⟩
 refine Uae w w3 gk gh gm cm N ms _ _ hm1 HM.out ⟨0,Nat.zero_le _,⟨rfl,rfl,rfl,rfl,rfl,rfl,rfl,trivial⟩,hW0⟩ ?_;clear hW0 hB5 hR5 hK5 hH5 hM hB4;rintro a5 w5 ⟨hF,hW⟩;obtain ⟨hs0,hd0,h2,h3,h4,h5,-⟩:=hF;obtain ⟨u,rfl⟩:=Ud a5 hs0 hd0;clear hs0 hd0;change u 2=_ at h2;change u 3=_ at h3;change u 4=_ at h4;change u 5=_ at h5;rw [h2,h3,h4,h5];clear h2 h3 h4 h5;have HL8:Hid ((Xd ms N).list.length=8):=rfl;generalize (Xd ms N).list=l at *;have HT6:Hid ((w5.alloc (.cells z64.toArray 26)).there w5.heap.size 0 z64.toArray.size):=(Ia.new w5 z64.toArray 26).there 0 64 (by simp [z64]);go_wp2_with (first
  |(rw [←Oaa]
    refine wpList_store_mid rfl 26 _ _ rfl w5.heap.size 0 z64.toArray rfl rfl HT6.out LP V6 ?_))
 have hW6:=(hW.alloc (.cells z64.toArray 26)).but ((But.refl w5.heap.size _).setCells 0 z64) hW.o4;have hO6:Ia ((w5.alloc (.cells z64.toArray 26)).setCells w5.heap.size 0 z64) w5.heap.size (List.replicate 64 (Fa 0)) 26:=by
  have h:=(Ia.new w5 z64.toArray 26).setCells (cs:=z64) (o:=0) (by simp [z64]);rw [Xb _ _ (by simp [z64])] at h;exact h
 have hgo:=hW.o4;generalize (w5.alloc (.cells z64.toArray 26)).setCells w5.heap.size 0 z64=w6 at *;generalize w5.heap.size=go at *;clear hW;refine Sae w w6 gk gh gm cm N go l ms _ _ HL8.out hgo ⟨0,Nat.zero_le _,⟨rfl,rfl,rfl,rfl,rfl,rfl,rfl,rfl,rfl,rfl,trivial⟩,hW6,hO6⟩ ?_;clear hW6 hO6;rintro a7 w7 ⟨hF,hW,hO⟩;obtain ⟨hs0,hd0,h25,h2,h3,h4,h5,-⟩:=hF;obtain ⟨u,rfl⟩:=Ud a7 hs0 hd0;clear hs0 hd0;change u 25=_ at h25;change u 2=_ at h2;change u 3=_ at h3;change u 4=_ at h4;change u 5=_ at h5;rw [h25,h2,h3,h4,h5];clear h25 h2 h3 h4 h5;have HV:Hid (Ca (Ed bs)=.agg ((Ee l).map Fa).toArray):=by show _=_;rw [HX.out];rfl
 have HW:Hid (((Ee l).map Fa).length=64):=by show _=_;rw [Uaj,Vg,HL8.out]
 have HP:Hid (∀v∈(Ee l).map Fa,v.oneCell'=true):=Kg _;generalize (Ee l).map Fa=vs at *;have HS:Hid (vs.toArray.size=64):=by show _=_;rw [List.size_toArray,HW.out]
 have hi:(Tryz.prog.info? 26).map (·.size)=some vs.toArray.size:=by rw [HS.out];exact LP
 have hT:w7.there w.heap.size 0 vs.toArray.size:=by rw [HS.out];exact hW.res.there 0 64 (by simp)
 go_wp2_with (first
  |(refine wpList_load_row rfl 26 _ rfl go rfl 26 _ (0,0) _ hO Tryz.underlying26 rfl hi ?_)
  |(refine wpList_store_mid rfl 26 _ _ rfl w.heap.size 0 vs.toArray rfl rfl hT hi (all_oneCell_toArray HP.out) ?_))
 have hC:=hW.res.setCells (cs:=vs) (o:=0) (by simp [HW.out]);rw [Xb _ _ (by simp [HW.out])] at hC;refine Yi Tryz.results50 w.heap.size vs 26 rfl hC Tryz.underlying26 rfl (by simpa using hi) rfl ⟨by rw [HV.out],Kd hW.below (Xaj _) _ _⟩
theorem yE:(Rows.laid_fellowship_shawide_start:DataW Unit)=Lib.tabData .u64 (Cf.list.map fun x=>(x.toNat:Int)):=by rfl
theorem TD:(Rows.laid_fellowship_shawide_rounds:DataW Unit)=Lib.tabData .u64 (Ln.map fun x=>(x.toNat:Int)):=by rfl
theorem Yy {W:World} {name:String} {g:Nat} {cs:Array Value} (l:List (BitVec 64)) (hg:Tryz.prog.globalNamed name=some g) (hv:W.var? Tryz.prog name=some cs) (hc:cs.toList=(l.map fun x=>(x.toNat:Int)).map fun z=>Value.int .u64 z):W.rangeAt g 0 (l.map qa):=by
 intro j v hj;have h:=World.var?_cell hg hv j;have e:cs[j]? =some v:=by
  rw [←Array.getElem?_toList,hc,List.map_map];exact hj
 rw [e] at h;simpa using h
theorem W6 {W:World} {ps:List MemPlace} (h:DataW.LaidVars Tryz.prog W [("fellowship/shawide.start",Rows.laid_fellowship_shawide_start),("fellowship/shawide.rounds",Rows.laid_fellowship_shawide_rounds)] ps):Yh W:=by
 obtain ⟨g2,t2,cs2,f2,p2,q2,hg2,ht2,hv2,hd2,hq2,rfl⟩:=h;obtain ⟨g3,t3,cs3,f3,p3,q3,hg3,ht3,hv3,hd3,_,rfl⟩:=hq2;obtain rfl:2=g2:=Option.some.inj ((show Tryz.prog.globalNamed "fellowship/shawide.start"=some 2 by kernel_rfl).symm.trans hg2);obtain rfl:3=g3:=Option.some.inj ((show Tryz.prog.globalNamed "fellowship/shawide.rounds"=some 3 by kernel_rfl).symm.trans hg3);obtain rfl:119=t2:=Option.some.inj ((show (Tryz.prog.globals[2]?).map (·.type)=some 119 by kernel_rfl).symm.trans ht2);obtain rfl:154=t3:=Option.some.inj ((show (Tryz.prog.globals[3]?).map (·.type)=some 154 by kernel_rfl).symm.trans ht3);rw [yE] at hd2;rw [TD] at hd3;have c2:=Lib.cells_of_tab Tryz.underlying119 Tryz.underlying49 (by kernel_rfl) (by kernel_rfl) hd2;have c3:=Lib.cells_of_tab Tryz.underlying154 Tryz.underlying49 (by kernel_rfl) (by kernel_rfl) hd3;exact ⟨Yy Cf.list hg2 hv2 c2,Yy Ln hg3 hv3 c3⟩
def Lh:List UInt8:=1::List.replicate 31 0
def Vo:List UInt8:=2::List.replicate 31 0
theorem IH:Ed Lh= [206,12,38,94,204,130,221,140,238,110,86,206,68,228,93,175,215,160,197,117,13,249,20,178,83,161,251,122,138,246,109,219,153,118,54,7,240,168,93,11,212,54,105,25,74,58,64,87,122,82,138,243,149,244,241,126,6,241,222,252,198,222,178,165]:=by decide+kernel
theorem EZ:Ed Vo= [186,61,12,71,245,159,79,234,224,247,157,109,49,41,89,13,68,76,148,199,67,222,153,203,63,186,1,164,230,210,16,59,67,84,239,167,228,132,35,93,52,94,246,233,232,28,241,132,121,107,157,3,47,12,128,252,49,59,248,197,66,49,88,154]:=by decide+kernel
theorem JH:lev (sgA Lh)=41354757114163650016304086911142683682198188400503391378057401993857692208328:=by rw [sgA,IH];decide+kernel
theorem KH:lev (sgA Vo)=55664205513570705882943352121533683204085728697754008713616386209201003445688:=by rw [sgA,EZ];decide+kernel
theorem Wab:Uh Lh [97]=3074186201944897198078527609885529445307900368435549988070374619371579677415:=by
 have h:Ed (Fl Lh++[97])= [11,35,46,32,6,78,30,85,240,190,68,155,1,88,107,60,161,219,58,196,14,97,214,156,203,160,87,146,23,238,27,2,191,141,34,200,232,144,91,224,165,171,168,61,115,159,12,138,93,38,247,249,50,176,221,153,69,215,204,203,238,235,133,46]:=by rw [Fl,IH];decide+kernel
 rw [Uh,Gd,h];decide+kernel
theorem Rah:xc Lh= [206,204,21,7,220,29,221,114,149,149,28,41,8,136,240,149,173,185,4,77,27,115,214,150,230,223,6,93,104,59,212,252]:=by
 have h:=NP.base_at 41354757114163650016304086911142683682198188400503391378057401993857692208328 26822555233711949854380153315158647482531717314742952720223963642152101436051 56461774818723834839721450787889437474891852695816614318545467683432985644238 (by decide+kernel) (by decide+kernel) (by decide+kernel) (by decide+kernel);rw [xc,JH,Qd,NP.Pt.X,NP.Pt.Y,h.1,h.2];decide+kernel
theorem Sah:xc Vo= [107,121,197,126,106,9,82,57,40,44,4,129,142,150,17,47,63,3,164,0,27,169,122,86,76,35,133,42,63,30,165,252]:=by
 have h:=NP.base_at 55664205513570705882943352121533683204085728697754008713616386209201003445688 30502062408368802319605209355040172200299064220671145128052775605321946045309 56378531745358395318699445366766802391580978637127663975616544628844918045035 (by decide+kernel) (by decide+kernel) (by decide+kernel) (by decide+kernel);rw [xc,KH,Qd,NP.Pt.X,NP.Pt.Y,h.1,h.2];decide+kernel
theorem SV:sgR Lh [97]= [222,230,150,190,162,57,102,46,103,239,222,218,202,143,82,47,127,122,238,17,43,215,179,107,123,33,250,35,237,226,2,31]:=by
 have h:=NP.base_at 3074186201944897198078527609885529445307900368435549988070374619371579677415 19309484914375710165932874489325495985356951322969071418412581995036784980746 14026798188181377637261715726930279836109456392610032591340885467588394936030 (by decide+kernel) (by decide+kernel) (by decide+kernel) (by decide+kernel);rw [sgR,Wab,Qd,NP.Pt.X,NP.Pt.Y,h.1,h.2];decide+kernel
theorem Wae:Gd (sgR Lh [97]++xc Lh++[97])=6285308940129792820454355301134625136493137520830403794332846006747471739295:=by
 have h:Ed (sgR Lh [97]++xc Lh++[97])= [84,90,166,222,231,187,241,245,135,112,226,216,51,154,22,238,19,228,152,171,46,83,173,0,174,126,38,192,0,92,18,77,128,40,106,101,67,155,6,117,76,38,174,79,208,179,204,217,214,152,66,19,182,197,197,55,103,51,113,241,162,217,108,29]:=by rw [SV,Rah];decide+kernel
 rw [Gd,h];decide+kernel
theorem Xae:Gd (sgR Lh [97]++xc Vo++[97])=4552352338528907286797675715543402463484267819218852012689592920313631079068:=by
 have h:Ed (sgR Lh [97]++xc Vo++[97])= [237,89,125,251,0,230,96,237,141,255,89,250,224,230,65,199,2,147,88,11,113,247,74,42,29,120,250,41,164,15,30,17,28,69,107,61,35,31,190,65,78,59,115,71,58,148,128,79,102,124,103,53,218,75,85,78,1,102,162,255,118,1,106,48]:=by rw [SV,Sah];decide+kernel
 rw [Gd,h];decide+kernel
theorem X6:Fn (xc Vo) (Bg Lh [97]) [97]=false:=by
 cases hs:Fn (xc Vo) (Bg Lh [97]) [97] with
 |false=>rfl
 |true=>
  have h:=FT Lh Vo [97] hs;rw [Wae,Xae,JH,KH,Wab] at h;exact absurd h (by decide+kernel)
end Go.Proofs.YtoggkhjaghkpnaaGreatDoor
namespace Go.Proofs.YtoggkhjaghkpnaaGreatDoor
open Go.ChangeShapes Go.WideShapes Go.ChangeAt Go.RowKit
theorem EU {W:World} {ps:List MemPlace} (h:DataW.LaidVars Tryz.prog W [("fellowship/scalar.order",Rows.laid_fellowship_scalar_order),("fellowship/scalar.tail",Rows.laid_fellowship_scalar_tail)] ps):Bl W:=by
 obtain ⟨g2,t2,cs2,f2,p2,q2,hg2,ht2,hv2,hd2,hq2,rfl⟩:=h;obtain ⟨g3,t3,cs3,f3,p3,q3,hg3,ht3,hv3,hd3,hq3,rfl⟩:=hq2;obtain rfl:0=g2:=Option.some.inj ((show Tryz.prog.globalNamed "fellowship/scalar.order"=some 0 by kernel_rfl).symm.trans hg2);obtain rfl:7=g3:=Option.some.inj ((show Tryz.prog.globalNamed "fellowship/scalar.tail"=some 7 by kernel_rfl).symm.trans hg3);obtain rfl:83=t2:=Option.some.inj ((show (Tryz.prog.globals[0]?).map (·.type)=some 83 by kernel_rfl).symm.trans ht2);obtain rfl:83=t3:=Option.some.inj ((show (Tryz.prog.globals[7]?).map (·.type)=some 83 by kernel_rfl).symm.trans ht3);rw [FH] at hd2;rw [JP] at hd3;exact ⟨Jv hg2 hv2 hd2,Jv hg3 hv3 hd3⟩
theorem LH {W:World} (h:laidMetH Tryz.prog (((([Rg[0]!,Rg[2]!,Rg[3]!].map fun x=>(x.1,.iface "*errors.errorString" (.ptr (.agg [.lit (.string x.2)]))))++[("fellowship/field.curve",Rows.laid_fellowship_field_curve),("fellowship/field.baseX",Rows.laid_fellowship_field_baseX),("fellowship/field.baseY",Rows.laid_fellowship_field_baseY),("fellowship/field.turn",Rows.laid_fellowship_field_turn)])++[("fellowship/scalar.order",Rows.laid_fellowship_scalar_order),("fellowship/scalar.tail",Rows.laid_fellowship_scalar_tail)])++[("fellowship/shawide.start",Rows.laid_fellowship_shawide_start),("fellowship/shawide.rounds",Rows.laid_fellowship_shawide_rounds)]) W):∃a,Bc (Ib a) W:=by
 rw [MakeChecks.laidMetH_plain _ _ _ (by kernel_rfl)] at h;obtain ⟨ps,hv,hnd,hrows⟩:=h;obtain ⟨pA,pW,rfl,hvA,hvW⟩:=Hl _ _ _ hv;obtain ⟨pB,pS,rfl,hvB,hvS⟩:=Hl _ _ _ hvA;obtain ⟨p1,p2,rfl,hv1,hv2⟩:=Hl _ _ _ hvB;obtain ⟨c1,c2,c3,c4⟩:=zG hv2;have nd1:=(List.nodup_append.1 (List.nodup_append.1 (List.nodup_append.1 hnd).1).1).1;obtain ⟨es,h1,_,_,h4⟩:=Qv [Rg[0]!,Rg[2]!,Rg[3]!] [6,8,1] p1 (by kernel_rfl) (fun g hg=>by
  have hall:([6,8,1].all fun g=>((Tryz.prog.globals[g]?).map (·.type))==some 57)=true:=by kernel_rfl
  simpa using List.all_eq_true.1 hall g hg) hv1 nd1 (fun b off hm=>hrows b off (List.mem_append_left _ (List.mem_append_left _ (List.mem_append_left _ hm))))
 match es,h1 with
 | [_,_,a],_=>exact ⟨a,W6 hvW,EU hvS,c1,c2,c3,c4,(h4 2 _ a rfl rfl).1⟩
theorem Y6 {H:Type} {enc:TypeId×Value→H} {W:World} {r:Reach} {b0:Nat} {v:Value} {d:DataW H} {p:List MemPlace} (hv:Value.okWide Tryz.prog W r b0 27 v) (h:DataW.Trod enc Tryz.prog W 0 (fun _=>true) true 27 v d p):∃s:List UInt8,v=Ca s∧s.length=64:=by
 obtain ⟨zs,rfl,hz,hw⟩:=Sy Tryz.underlying27 Tryz.underlying5 Qq (by kernel_rfl) hv h;obtain ⟨bs,h1,h2⟩:=Ds zs hw;exact ⟨bs,by unfold Ca;rw [h1],by omega⟩
theorem Zy (a:Addr) (w:World) (hS:Bc (Ib a) w):Calls Tryz.prog 5 #[] w (gvn (.bool true) w):=by
 have hT:∀g:Nat,In (some ⟨g,0,none⟩) 1 1 [[97]]:=fun g=>⟨rfl,by decide,by decide,Xaj _,by unfold maxLen;omega,fun h=>by cases h⟩;refine FK Lh Vo (xc Lh) (xc Vo) (Bg Lh [97]) (Ib a) w (Lib.hid (zh _ _)) (by intro w;kernel_rfl) (by intro w;kernel_rfl)
  (Lib.hid fun g W hp hW=>xO _ _ 1 1 [[97]] Lh W rfl (hT g) hW hp) (Lib.hid fun W hW=>Gt _ Lh W rfl hW) (Lib.hid fun W hW=>Gt _ Vo W rfl hW)
  (Lib.hid fun g W hp hW=>?_) (Lib.hid fun g W hp hW=>?_) hS
 ·have b:=Ko a _ 1 1 [[97]] (xc Lh) (Bg Lh [97]) W (Sf _) (zh _ _) (hT g) hW hp;rw [show [[(97:UInt8)]].flatten= [97] from rfl,Ry] at b;exact b
 ·have b:=Ko a _ 1 1 [[97]] (xc Vo) (Bg Lh [97]) W (Sf _) (zh _ _) (hT g) hW hp;rw [show [[(97:UInt8)]].flatten= [97] from rfl,X6] at b;exact b
theorem SP (g n:Nat) (text:List UInt8) (hl:text.length=n) (hn:n≤800000):In (some ⟨g,0,none⟩) 1 1 [text]∧ [text].flatten=text:=
 ⟨⟨rfl,by decide,by simp [hl];exact hn,Xaj _,by unfold maxLen;omega,fun h=>by cases h⟩,by simp⟩
end Go.Proofs.YtoggkhjaghkpnaaGreatDoor
namespace Go.Proofs.YtoggkhjaghkpnaaGreatDoor
open Go.RowKit
theorem FU {P:Program} (ρ:Operand→Value) (o:Oper) (t:TypeId) (x:Operand) (lo hi mx:Option Operand) (h:o.op=.slice t x lo hi mx) (vx:Value) (hx:ρ x=vx) (v:Value) (w:World) (hr:(Instr.sliceAt t vx (lo.map ρ) (hi.map ρ) (mx.map ρ)).run P w=.ok v w):(execOp ρ o).run P w=.ok (.value v) w:=by
 simp [execOp,h,hx,hr]
theorem Paa (g:Nat) (w:World):(Instr.sliceAt 22 (.pointer (some ⟨g,0,none⟩)) none none none).run Tryz.prog w=.ok (.slice (some ⟨g,0,none⟩) 32 32) w:=by kernel_rfl
theorem NH (op:BinOp) (x y:Operand) (a b:List UInt8) (w:World):(eqGuard op 22 x y (Ca a) (Ca b)).run Tryz.prog w=.ok () w:=run_eqGuard_agg w op 22 _ _ _ _ (by kernel_rfl)
def Wq (pk:List UInt8) (sg:List UInt8) (A:Option Addr) (n:Nat) (c:Nat) (g_base:Nat) (gs:Nat) (gr:Nat) (gb:Nat) (ga:Nat) (e:Int) (hr:List UInt8) (hs:List UInt8) (pa:List Nat) (m:List UInt8) (nq:Bool):List Value:=
 (Ca pk)::(Ca sg)::(.slice A n c)::ptr g_base::ptr gs::undef::(.bool false)::ptr gr::ptr gb::ptr ga::(.int .i64 e)::undef::(.tuple #[Ca hr,Ca hs])::(Ca sg)::(.tuple #[Ca hr,Ca hs])::(Ca hr)::(Ca hs)::(.tuple #[Da pa,.int .i64 e])::(Ca pk)::(.tuple #[Da pa,.int .i64 e])::(Da pa)::(.int .i64 e)::(.int .i64 e)::(.bool false)::(.bool false)::(.slice (some ⟨gb,0,none⟩) 32 32)::(Ca m)::(Ca hs)::(.bool nq)::(.bool nq)::ud 12 []
def Gm (pk:List UInt8) (sg:List UInt8) (A:Option Addr) (n:Nat) (c:Nat) (g_base:Nat) (gs:Nat) (ok:Bool) (gr:Nat) (gb:Nat) (ga:Nat) (e:Int) (gh:Nat) (hr:List UInt8) (hs:List UInt8) (pa:List Nat) (m:List UInt8) (ch:List UInt8) (na:List Nat) (pw:List Nat) (bb:List UInt8):List Value:=
 (Ca pk)::(Ca sg)::(.slice A n c)::ptr g_base::ptr gs::undef::(.bool ok)::ptr gr::ptr gb::ptr ga::(.int .i64 e)::ptr gh::(.tuple #[Ca hr,Ca hs])::(Ca sg)::(.tuple #[Ca hr,Ca hs])::(Ca hr)::(Ca hs)::(.tuple #[Da pa,.int .i64 e])::(Ca pk)::(.tuple #[Da pa,.int .i64 e])::(Da pa)::(.int .i64 e)::(.int .i64 e)::(.bool false)::(.bool false)::(.slice (some ⟨gb,0,none⟩) 32 32)::(Ca m)::(Ca hs)::(.bool false)::(.bool false)::(Ca hr)::(Ca pk)::(.slice A n c)::(Ca ch)::(Da pa)::(Da na)::(Ca ch)::(Ca hs)::(Da pw)::(Ca bb)::(Ca hr)::(.bool ok)::[]
def Im (pk:List UInt8) (sg:List UInt8) (A:Option Addr) (n:Nat) (c:Nat) (g_base:Nat) (gs:Nat) (gr:Nat) (gb:Nat) (ga:Nat) (e:Int) (hr:List UInt8) (hs:List UInt8) (pa:List Nat):List Value:=
 (Ca pk)::(Ca sg)::(.slice A n c)::ptr g_base::ptr gs::undef::(.bool false)::ptr gr::ptr gb::ptr ga::(.int .i64 e)::undef::(.tuple #[Ca hr,Ca hs])::(Ca sg)::(.tuple #[Ca hr,Ca hs])::(Ca hr)::(Ca hs)::(.tuple #[Da pa,.int .i64 e])::(Ca pk)::(.tuple #[Da pa,.int .i64 e])::(Da pa)::(.int .i64 e)::(.int .i64 e)::(.bool true)::(.bool true)::ud 4 ((.bool true)::ud 12 [])
theorem zE (A:Option Addr) (n c:Nat) (text pk sg hr hs m ch bb:List UInt8) (pa na pw:List Nat) (e:Int) (bad nq ok:Bool) (w:World)
 (Hpk:Hid (pk.length=32))
 (Hhr:Hid (hr.length=32))
 (Hhs:Hid (hs.length=32))
 (Hch:Hid (ch.length=32))
 (Hsg:Hid (sg.length=64))
 (Hpa:Hid (pa.length=24))
 (CH:Hid (∀W,Calls Tryz.prog 30 #[Ca sg] W (gvn (.tuple #[Ca hr,Ca hs]) W)))
 (CR:Hid (∀W,Calls Tryz.prog 31 #[Ca pk] W (gvn (.tuple #[Da pa,.int .i64 e]) W)))
 (CM:Hid (∀g W,Ia W g (hs.map Fa) 22→Calls Tryz.prog 32 #[.slice (some ⟨g,0,none⟩) 32 32] W (gvn (Ca m) W)))
 (CC:Hid (∀W,Xe A n c text W→Calls Tryz.prog 23 #[Ca hr,Ca pk,.slice A n c] W (gvn (Ca ch) W)))
 (CN:Hid (∀W,Calls Tryz.prog 35 #[Da pa] W (gvn (Da na) W)))
 (CW:Hid (∀W,Calls Tryz.prog 34 #[Da na,Ca ch,Ca hs] W (gvn (Da pw) W)))
 (CB:Hid (∀W,Calls Tryz.prog 33 #[Da pw] W (gvn (Ca bb) W)))
 (HE:Hid (∀w,(binOp .neq 3 (.int .i64 e) (.int .i64 0)).run Tryz.prog w=.ok (.bool bad) w))
 (HNQ:Hid (∀w,(binOp .neq 22 (Ca m) (Ca hs)).run Tryz.prog w=.ok (.bool nq) w))
 (HOK:Hid (∀w,(binOp .eql 22 (Ca bb) (Ca hr)).run Tryz.prog w=.ok (.bool ok) w))
 (hT:Xe A n c text w):
 Calls Tryz.prog 11 #[Ca pk,Ca sg,.slice A n c] w (gvn (.bool (!bad&& !nq&&ok)) w):=by
 go_enter Tryz.func11,Tryz.ntmps11;go_wp2_with (first
  |(refine Ra rfl 22 (.tmp 0) rfl (pk.map Fa) rfl ?_
    intro w1 hb1 hvk1;have hB1:=hb1;have hgek:w.heap.size≤w.heap.size:=Xaj _;clear hb1;try simp only [La]
    skip)
  |(refine Ra rfl 26 (.tmp 1) rfl (sg.map Fa) rfl ?_
    intro w2 hb2 hvs2;have hB2:=Ba hB1 hb2;have hges:w.heap.size≤w1.heap.size:=hB1.size;have hvk2:=hvk1.on hb2;have hneks:=Vaj hvk1.lt;clear hB1 hvk1 hb2;try simp only [La]
    skip)
  |(refine Pa rfl 26 (.tmp 4) rfl w1.heap.size 64 (sg.map Fa) rfl hvs2 Tryz.underlying26 rfl Gl (by rw [Uaj,Hsg.out]) ?_
    try simp only [La]
    skip))
 generalize hqs:w1.heap.size=gs at *;clear hqs;refine (CH.out w2).mono ?_;rintro e w3 ⟨rfl,hb3⟩;have hB3:=Ba hB2 hb3;have hvk3:=hvk2.on hb3;have hvs3:=hvs2.on hb3;clear hB2 hvk2 hvs2 hb3;go_wp2_with (first
  |(refine Ma (o:=⟨some 7,_,_,_,_,_⟩) rfl 22 rfl Xa Dc ?_
    intro w4 hb4 hvr4;have hB4:=Ba hB3 hb4;have hger:w.heap.size≤w3.heap.size:=hB3.size;have hvk4:=hvk3.on hb4;have hnekr:=Vaj hvk3.lt;have hvs4:=hvs3.on hb4;have hnesr:=Vaj hvs3.lt;clear hB3 hvk3 hvs3 hb4;try simp only [La]
    skip)
  |(refine Ma (o:=⟨some 8,_,_,_,_,_⟩) rfl 22 rfl Xa Dc ?_
    intro w5 hb5 hvb5;have hB5:=Ba hB4 hb5;have hgeb:w.heap.size≤w4.heap.size:=hB4.size;have hvk5:=hvk4.on hb5;have hnekb:=Vaj hvk4.lt;have hvs5:=hvs4.on hb5;have hnesb:=Vaj hvs4.lt;have hvr5:=hvr4.on hb5;have hnerb:=Vaj hvr4.lt;clear hB4 hvk4 hvs4 hvr4 hb5;try simp only [La]
    skip)
  |(refine Ka rfl 22 (.tmp 7) (.tmp 15) rfl w3.heap.size 32 Xa (hr.map Fa) rfl rfl hvr5 rfl Kb (by rw [Uaj,Hhr.out]) (Ab _) ?_
    intro w6 hb6 hvr6 hz6;have hB6:Below w.heap.size w w6:=hB5.trans (hb6.below hger hB5.size);have hvk6:=hvk5.but hb6 hnekr;have hvs6:=hvs5.but hb6 hnesr;have hvb6:=hvb5.but hb6 (Ne.symm hnerb);clear hB5 hvr5 hb6 hz6 hvk5 hvs5 hvb5;skip)
  |(refine Ka rfl 22 (.tmp 8) (.tmp 16) rfl w4.heap.size 32 Xa (hs.map Fa) rfl rfl hvb6 rfl Kb (by rw [Uaj,Hhs.out]) (Ab _) ?_
    intro w7 hb7 hvb7 hz7;have hB7:Below w.heap.size w w7:=hB6.trans (hb7.below hgeb hB6.size);have hvk7:=hvk6.but hb7 hnekb;have hvs7:=hvs6.but hb7 hnesb;have hvr7:=hvr6.but hb7 hnerb;clear hB6 hvb6 hb7 hz7 hvk6 hvs6 hvr6;skip)
  |(refine Pa rfl 22 (.tmp 3) rfl w.heap.size 32 (pk.map Fa) rfl hvk7 Tryz.underlying22 rfl Kb (by rw [Uaj,Hpk.out]) ?_
    try simp only [La]
    skip))
 generalize hqr:w3.heap.size=gr at *;clear hqr;generalize hqb:w4.heap.size=gb at *;clear hqb;refine (CR.out w7).mono ?_;rintro e w8 ⟨rfl,hb8⟩;have hB8:=Ba hB7 hb8;have hvk8:=hvk7.on hb8;have hvs8:=hvs7.on hb8;have hvr8:=hvr7.on hb8;have hvb8:=hvb7.on hb8;clear hB7 hvk7 hvs7 hvr7 hvb7 hb8
 go_upto_region 3 with (first
  |(refine Db rfl rfl 68 (.tmp 9) (.tmp 20) rfl rfl 24 (Wa 24) (pa.map Ja) rfl rfl He rfl Jb (by rw [Uaj,Hpa.out]) (Ua _) ?_
    intro w9 hb9 hva9;have hB9:=Ba hB8 hb9;have hgea:w.heap.size≤w8.heap.size:=hB8.size;have hvk9:=hvk8.on hb9;have hneka:=Vaj hvk8.lt;have hvs9:=hvs8.on hb9;have hnesa:=Vaj hvs8.lt;have hvr9:=hvr8.on hb9;have hnera:=Vaj hvr8.lt;have hvb9:=hvb8.on hb9;have hneba:=Vaj hvb8.lt;clear hB8 hvk8 hvs8 hvr8 hvb8 hb9;try simp only [La]
    skip))
 generalize hqa:w8.heap.size=ga at *;clear hqa;cases bad
 ·go_wp2_with fail
  replace hvk9:=hvk9.drew;replace hvs9:=hvs9.drew;replace hvr9:=hvr9.drew;replace hvb9:=hvb9.drew;replace hva9:=hva9.drew;refine wp_region_any (by kernel_rfl) ?_;refine Ya (L:=[0,1,2,3,4,5,6,7]) (by kernel_rfl) _ _ (Wq pk sg A n c w.heap.size gs gr gb ga e hr hs pa m nq) [] 22 Xa [0,1,2,3,4,5,6,7,8,9,10,11,12,13,14,15,16,17,18,19,20,21,30,31,32,33,34,35,36,37,38,39,40,41] (by kernel_rfl) (by kernel_rfl) ?_ Dc ?_ (by rfl) ?_ 0 (by kernel_rfl) ?_
  ·intro p hp;exact absurd hp List.not_mem_nil
  ·repeat refine Aak rfl ?_
   exact Qa
  ·refine Aak (.inr (mV 22 rfl (.inl rfl) rfl)) ?_;refine Aak (.inr (Wr _ 23 rfl rfl rfl rfl (by kernel_rfl) (fun a hv=>Fh rfl _) (fun a w K hb hv hK=>Xr (.bool false) (Ff _ _ _ _ _ _ _ rfl (.int .i64 e) (.int .i64 0) _ (hv 22 (by kernel_rfl) rfl) (by rfl) w (by kernel_rfl) (HE w)) hK))) ?_;refine Aak (.inr (mV 24 rfl (.inl rfl) rfl)) ?_;refine Aak (.inr (Wr _ 25 rfl rfl rfl rfl (by kernel_rfl) (fun a hv=>(QF (j:=2) (b:=false) (c:=false) rfl rfl rfl (hv 24 (by kernel_rfl) rfl)).trans rfl) (fun a w K hb hv hK=>Xr (.slice (some ⟨gb,0,none⟩) 32 32) (FU _ _ _ _ _ _ _ rfl _ (hv 8 (by kernel_rfl) rfl) _ w (Paa _ w)) hK))) ?_;refine Aak (.inr (mC 26 rfl Tryz.func32 fun w hb=>(CM.out gb) w (hvb9.on hb))) ?_;refine Aak (.inr (mL 27 rfl fun w hb=>Oh (hvb9.on hb) Hhs.out)) ?_;refine Aak (.inr (mB 28 rfl (fun w=>NH _ _ _ _ _ w) (HNQ))) ?_;refine Aak (.inr (mQ 29 rfl rfl rfl)) ?_;exact Qa
  intro w10 g hb10 hN10 hap10;clear hN10 hap10;have hB10:=Ba (show Below w.heap.size w w9.drew from hB9.drew) hb10;have hvk10:=hvk9.on hb10;have hvs10:=hvs9.on hb10;have hvr10:=hvr9.on hb10;have hvb10:=hvb9.on hb10;have hva10:=hva9.on hb10;clear hB9 hvk9 hvs9 hvr9 hvb9 hva9 hb10;refine ⟨by kernel_rfl,?_⟩;rename_i K hK1 hKK;show Exit.then K _ Exit.normal (⟨(Wq pk sg A n c w.heap.size gs gr gb ga e hr hs pa m nq).toArray,[]⟩:Act) w10;simp only [Exit.then];refine hKK _ _ ?_;clear hKK K g;simp only [Wq,ptr,ud];cases nq
  ·go_wp2_with (first
    |(refine Pa rfl 22 (.tmp 7) rfl gr 32 (hr.map Fa) rfl hvr10 Tryz.underlying22 rfl Kb (by rw [Uaj,Hhr.out]) ?_
      try simp only [La]
      skip)
    |(refine Pa rfl 22 (.tmp 3) rfl w.heap.size 32 (pk.map Fa) rfl hvk10 Tryz.underlying22 rfl Kb (by rw [Uaj,Hpk.out]) ?_
      try simp only [La]
      skip))
   refine (CC.out w10 (hT.below hB10)).mono ?_;rintro e w11 ⟨rfl,hb11⟩;have hB11:=Ba hB10 hb11;have hvk11:=hvk10.on hb11;have hvs11:=hvs10.on hb11;have hvr11:=hvr10.on hb11;have hvb11:=hvb10.on hb11;have hva11:=hva10.on hb11;clear hB10 hvk10 hvs10 hvr10 hvb10 hva10 hb11;go_wp2_with (first
    |(refine Db rfl rfl 22 (.tmp 11) (.tmp 33) rfl rfl 32 Xa (ch.map Fa) rfl rfl Dc rfl Kb (by rw [Uaj,Hch.out]) (Ab _) ?_
      intro w12 hb12 hvh12;have hB12:=Ba hB11 hb12;have hgeh:w.heap.size≤w11.heap.size:=hB11.size;have hvk12:=hvk11.on hb12;have hnekh:=Vaj hvk11.lt;have hvs12:=hvs11.on hb12;have hnesh:=Vaj hvs11.lt;have hvr12:=hvr11.on hb12;have hnerh:=Vaj hvr11.lt;have hvb12:=hvb11.on hb12;have hnebh:=Vaj hvb11.lt;have hva12:=hva11.on hb12;have hneah:=Vaj hva11.lt;clear hB11 hvk11 hvs11 hvr11 hvb11 hva11 hb12;try simp only [La]
      skip))
   generalize hqh:w11.heap.size=gh at *;clear hqh;replace hvk12:=hvk12.drew;replace hvs12:=hvs12.drew;replace hvr12:=hvr12.drew;replace hvb12:=hvb12.drew;replace hva12:=hva12.drew;replace hvh12:=hvh12.drew;refine wp_region_any (by kernel_rfl) ?_;refine Ya (L:=[0,1,2,3,4,5,6,7,8]) (by kernel_rfl) _ _ (Gm pk sg A n c w.heap.size gs ok gr gb ga e gh hr hs pa m ch na pw bb) [] 22 Xa [0,1,2,3,4,5,7,8,9,10,11,12,13,14,15,16,17,18,19,20,21,22,23,24,25,26,27,28,29,30,31,32,33] (by kernel_rfl) (by kernel_rfl) ?_ Dc ?_ (by rfl) ?_ 0 (by kernel_rfl) ?_
   ·intro p hp;exact absurd hp List.not_mem_nil
   ·repeat refine Aak rfl ?_
    exact Qa
   ·refine Aak (.inr (mL 34 rfl fun w hb=>R9 (hva12.on hb) Hpa.out)) ?_;refine Aak (.inr (mC 35 rfl Tryz.func35 fun w hb=>CN.out w)) ?_;refine Aak (.inr (mL 36 rfl fun w hb=>Oh (hvh12.on hb) Hch.out)) ?_;refine Aak (.inr (mL 37 rfl fun w hb=>Oh (hvb12.on hb) Hhs.out)) ?_;refine Aak (.inr (mC 38 rfl Tryz.func34 fun w hb=>CW.out w)) ?_;refine Aak (.inr (mC 39 rfl Tryz.func33 fun w hb=>CB.out w)) ?_;refine Aak (.inr (mL 40 rfl fun w hb=>Oh (hvr12.on hb) Hhr.out)) ?_;refine Aak (.inr (mB 41 rfl (fun w=>NH _ _ _ _ _ w) (HOK))) ?_;refine Aak (.inr (mV 6 rfl (.inr rfl) rfl)) ?_;exact Qa
   intro w13 g hb13 hN13 hap13;clear hN13 hap13;have hB13:=Ba (show Below w.heap.size w w12.drew from hB12.drew) hb13;have hvk13:=hvk12.on hb13;have hvs13:=hvs12.on hb13;have hvr13:=hvr12.on hb13;have hvb13:=hvb12.on hb13;have hva13:=hva12.on hb13;have hvh13:=hvh12.on hb13;clear hB12 hvk12 hvs12 hvr12 hvb12 hva12 hvh12 hb13;refine ⟨by kernel_rfl,?_⟩;rename_i K hKK;show Exit.then K _ Exit.normal (⟨(Gm pk sg A n c w.heap.size gs ok gr gb ga e gh hr hs pa m ch na pw bb).toArray,[]⟩:Act) w13;simp only [Exit.then];refine hKK _ _ ?_;clear hKK K g;simp only [Gm,ptr]
   go_wp2
   go_ret
   exact ⟨rfl,hB13⟩
  ·go_wp2
   go_ret
   exact ⟨rfl,hB10⟩
 ·go_wp2_with fail
  replace hvk9:=hvk9.drew;replace hvs9:=hvs9.drew;replace hvr9:=hvr9.drew;replace hvb9:=hvb9.drew;replace hva9:=hva9.drew;refine wp_region_any (by kernel_rfl) ?_;refine Ya (L:=[0,1,2,3,4,5,6,7]) (by kernel_rfl) _ _ (Im pk sg A n c w.heap.size gs gr gb ga e hr hs pa) [] 22 Xa [0,1,2,3,4,5,6,7,8,9,10,11,12,13,14,15,16,17,18,19,20,21,30,31,32,33,34,35,36,37,38,39,40,41] (by kernel_rfl) (by kernel_rfl) ?_ Dc ?_ (by rfl) ?_ 0 (by kernel_rfl) ?_
  ·intro p hp;exact absurd hp List.not_mem_nil
  ·repeat refine Aak rfl ?_
   exact Qa
  ·refine Aak (.inr (mV 22 rfl (.inl rfl) rfl)) ?_;refine Aak (.inr (Wr _ 23 rfl rfl rfl rfl (by kernel_rfl) (fun a hv=>Fh rfl _) (fun a w K hb hv hK=>Xr (.bool true) (Ff _ _ _ _ _ _ _ rfl (.int .i64 e) (.int .i64 0) _ (hv 22 (by kernel_rfl) rfl) (by rfl) w (by kernel_rfl) (HE w)) hK))) ?_;refine Aak (.inr (mV 24 rfl (.inl rfl) rfl)) ?_;refine Aak (.inr (mK 25 rfl)) ?_;refine Aak (.inr (mK 26 rfl)) ?_;refine Aak (.inr (mK 27 rfl)) ?_;refine Aak (.inr (mK 28 rfl)) ?_;refine Aak (.inr (mQ 29 rfl rfl rfl)) ?_;exact Qa
  intro w14 g hb14 hN14 hap14;clear hN14 hap14;have hB14:=Ba (show Below w.heap.size w w9.drew from hB9.drew) hb14;have hvk14:=hvk9.on hb14;have hvs14:=hvs9.on hb14;have hvr14:=hvr9.on hb14;have hvb14:=hvb9.on hb14;have hva14:=hva9.on hb14;clear hB9 hvk9 hvs9 hvr9 hvb9 hva9 hb14;refine ⟨by kernel_rfl,?_⟩;rename_i K hK1 hKK;show Exit.then K _ Exit.normal (⟨(Im pk sg A n c w.heap.size gs gr gb ga e hr hs pa).toArray,[]⟩:Act) w14;simp only [Exit.then];refine hKK _ _ ?_;clear hKK K g;simp only [Im,ptr,ud]
  go_wp2
  go_ret
  exact ⟨rfl,hB14⟩
end Go.Proofs.YtoggkhjaghkpnaaGreatDoor
