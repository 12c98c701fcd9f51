/- Part 2 of what the laws of this seat share: DOwn, DConcat, ZParts, VMath, VWork, VBlock, VEnd. -/
import Derived.Laws.IdiomStrings
import Derived.Lib.AppendZerosOnto
import Derived.Lib.Walk
import Derived.IntWalk
import Derived.Deep.WholeRow
import Derived.Deep.QuietTactic
import Derived.BigQuiet
import Derived.Test.YtoggkhjaghkpnaaGreatDoorPart1
set_option maxRecDepth 100000
set_option maxHeartbeats 8000000
namespace Go.Proofs.YtoggkhjaghkpnaaGreatDoor
open Go.RowKit
theorem Sd.cutTo {w:World} {base n c:Nat} {A:Option Addr} {bs:List UInt8} (h:Sd w base (.slice A n c) bs) (k:Nat) (hk:k≤n):Sd w base (.slice A k c) (bs.take k):=by
 obtain ⟨h1,h2⟩:=h;rcases h2 with ⟨hv,hn⟩|⟨g,cap,cur,hv,hg,hh,hnc,hcm,hsz,htk⟩
 ·injection hv with hA hn2 hc;obtain rfl:k=0:=by omega
  subst hA hc;exact ⟨by simp,.inl ⟨rfl,by simp⟩⟩
 ·injection hv with hA hn2 hc;subst hA hc;have hl:(bs.take k).length=k:=by rw [zaj];omega
  refine ⟨by simp,.inr ⟨g,c,cur,by rw [hl],hg,hh,by omega,hcm,hsz,?_⟩⟩;rw [hl,Nat.mul_one,List.map_take,←htk,Nat.mul_one,List.take_take,Nat.min_eq_left (by omega)]
section
variable {w:World} {ops:Array Oper} {rest:List Oper} {o:Oper} {a:Act} {Q:Exit→Act→World→Prop}
end
theorem Hac {w:World} {ops:Array Oper} {rest:List Oper} {o:Oper} {a:Act} {Q:Exit→Act→World→Prop} (hgd:o.guard=none) (x y:Operand) (ho:o.op=.slice 24 x none (some y) none)
 (A:Option Addr) (len cap i:Nat) (z:Int) (hx:a.eval x=.slice A len cap) (hy:a.eval y=.int .i64 z) (hz:z=(i:Int)) (hi:i≤cap)
 (h:wpList Tryz.prog ops Q rest (a.put o.dst (.slice (Zi A 0 cap) i cap)) w):wpList Tryz.prog ops Q (o::rest) a w:=by
 subst hz;refine wpList_plain hgd fun K hK=>?_;obtain ⟨i0,hi0,hs0⟩:=Option.map_eq_some_iff.1 Qc;have hrun:(Instr.sliceAt 24 (.slice A len cap) none (some (.int .i64 (i:Int))) none).run Tryz.prog w=.ok (.slice (Zi A 0 cap) i cap) w:=by
  have hu:Tryz.prog.underlying 24=some (.slice 5):=Tryz.underlying24;have h1:(Instr.sliceAt 24 (.slice A len cap) none (some (.int .i64 (i:Int))) none).run Tryz.prog w=(Instr.slice 24 (.slice A len cap) none (some (.int .i64 (i:Int))) none).run Tryz.prog w:=by
   simp [Instr.sliceAt,run_underlying hu]
  rw [h1];have h4:(i:Int)≤(cap:Int):=by omega
  simp [Instr.slice,run_underlying hu,Instr.sliceBounds,run_sliceBound,sizeOf,typeInfo,hi0,Zi,h4]
 unfold Oper.wp;simp only [execOp,ho,hx,hy,Option.map_some,Option.map_none,hrun,Sem.run_bind,Sem.run_pure,Result.andThen_ok];exact hK _ _ h
theorem Row.cutTo {w:World} {B:Nat} {A:Option Addr} {us:List UInt8} (h:Row w B A us) (i cap:Nat) (hl:us.length≤cap):Row w B (Zi A 0 cap) (us.take i):=by
 have h:=(h.cut 0 cap hl).take i
 rwa [List.drop_zero] at h
theorem zV (g o cap:Nat):Zi (some ⟨g,o,none⟩) 0 cap=some ⟨g,o,none⟩:=by
 unfold Zi
 split<;>simp [Addr.add_mid]
theorem Of.mk {w:World} {B:Nat} {A:Option Addr} {n c:Nat} {us:List UInt8} (hl:us.length=n) (hr:Row w B A us) (hA:A=none→c=0) (hc:n≤c) (hc2:c≤maxLen):Of w B (.slice A n c) us:=⟨A,c,by rw [hl],hr,by omega,hc2,hA⟩
theorem Of.on {w w':World} {v:Value} {us:List UInt8} (h:Of w w.heap.size v us) (hb:Below w.heap.size w w'):Of w' w'.heap.size v us:=(h.below hb).more hb.size
theorem Ia.rangeAll {w:World} {g:Nat} {vs:List Value} {t:TypeId} (h:Ia w g vs t):w.rangeAt g 0 vs:=fun j v hj=>by
 rw [Nat.zero_add];exact h.get hj
theorem Row.rangeAll {w:World} {B b off:Nat} {ds:List UInt8} (h:Row w B (some ⟨b,off,none⟩) ds):w.rangeAt b off (ds.map Fa):=fun j v hj=>by
 rw [List.getElem?_map] at hj;cases hd:ds[j]? with
 |none=>rw [hd] at hj;cases hj
 |some u=>
  rw [hd] at hj;cases hj
  rcases h with rfl|⟨b',off',hA,_,hc⟩
  ·simp at hd
  ·cases hA
   exact hc j u hd
theorem Row.some {w:World} {B:Nat} {A:Option Addr} {ds:List UInt8} (h:Row w B A ds) (hp:0<ds.length):∃b off,A=some ⟨b,off,none⟩:=by
 rcases h with rfl|⟨b,off,rfl,_,_⟩
 ·simp at hp
 ·exact ⟨b,off,rfl⟩
def Hag (w:World) (bs:List UInt8) (n:Nat) (e:Ending) (w':World):Prop:=
 ∃A c,e=.returned (.slice A n c)∧(A=none→c=0)∧n≤c∧c≤maxLen∧Row w' w'.heap.size A bs∧Below w.heap.size w w'
theorem qV (n:Nat) (w:World) (hn:n≤1000000):
 Calls Tryz.prog 88 #[.slice none 0 0,.int .i64 (n:Int)] w fun e w'=>∃v,e=.returned v∧Sd w' w.heap.size v []∧Below w.heap.size w w':=by
 have h0:Sd w w.heap.size (.slice none 0 0) []:=⟨by simp,.inl ⟨rfl,by simp⟩⟩;have i0:¬(n:Int)<0:=by omega
 by_cases hz:n=0
 ·subst hz;go_enter Tryz.func88,Tryz.ntmps88
  go_wp2
  go_ret
  exact ⟨_,rfl,h0,Below.refl _ _⟩
 ·have i1:(0:Int)<(n:Int):=by omega
  go_enter Tryz.func88,Tryz.ntmps88;go_wp2_with (first
   |(at_builtin
     refine TH rfl (.tmp 20) (.tmp 21) rfl w.heap.size n _ [] rfl h0 rfl (by simpa using hn) (Xaj _) ?_;intro v1 w1 hO1 hB1;rw [List.nil_append] at hO1;obtain ⟨g1,c1,hv1,_,_,_,_⟩:=hO1.form_pos (by rw [List.length_replicate];omega);rw [List.length_replicate] at hv1;subst hv1;have hO2:=hO1.cutTo 0 (Nat.zero_le _);rw [List.take_zero] at hO2)
   |(refine Hac rfl (.tmp 22) (.tmp 24) rfl (some ⟨g1,0,none⟩) n c1 0 _ rfl rfl rfl (Nat.zero_le _) ?_
     rw [zV]))
  go_ret
  exact ⟨_,rfl,hO2,hB1⟩
theorem YP (D:Option Addr) (d m L:Nat) (ps:List (List UInt8)) (w:World) (hpl:ps.length=m) (hP:xf w w.heap.size D ps) (hm:m≤1000000) (hL:ps.flatten.length=L) (hn:L≤1000000):
 Calls Tryz.prog 42 #[.slice D m d] w (Hag w ps.flatten L):=by
 have HPL:=Lib.hid hpl;have HFL:=Lib.hid hL;clear hpl hL;go_enter Tryz.func42,Tryz.ntmps42
 go_wp2
 go_loopw [3,11] (fun s i wr=>∃k:Nat,k≤m∧i=.int .i64 k∧s=.int .i64 ((ps.take k).flatten.length:Int)∧wr=w) (fun _ i _=>m-(intOf i).toNat)
 case atStart=>exact ⟨0,Nat.zero_le _,rfl,by simp,rfl⟩
 case round=>
  obtain ⟨k,hk,rfl,rfl,rfl⟩:=hrel;have HTL:=Lib.hid (Mf ps k);generalize hs:(ps.take k).flatten.length=s at *;replace hs:=Lib.hid hs;by_cases hlt:k<m
  ·have hlt2:k<ps.length:=by rw [HPL.out];exact hlt
   obtain ⟨b,off,A1,c1,rfl,hcl,hr1,h1,h2,h3⟩:=hP.at k hlt2;have HS:=Lib.hid (show (ps.take (k+1)).flatten.length=(ps.take k).flatten.length+ps[k].length by rw [Nd ps k hlt2,List.flatten_append];simp);have HTL2:=Lib.hid (Mf ps (k+1));generalize hul:ps[k].length=q at *;replace hul:=Lib.hid hul;have hq:s+q≤L:=by have h1:=HS.out;have h2:=hs.out;have h3:=HTL2.out;have h4:=HFL.out;omega
   have i1:¬(s:Int)+(q:Int)<0:=by omega
   have i2:(0:Int)≤(s:Int)+(q:Int):=by omega
   go_wp2
   go_roundw
   case rel=>exact ⟨k+1,by omega,by go_num,by rw [HS.out,hs.out];go_num,trivial⟩
   case measure=>simp [intOf];omega
  ·obtain rfl:k=m:=by omega
   have e1:s=L:=by rw [←hs.out,Zaj (by rw [HPL.out];exact Xaj _),HFL.out]
   subst e1;clear HTL hs;go_wp2_with (first
    |(go_at_call 88
      refine (qV s wr hn).mono ?_;rintro e w1 ⟨v1,rfl,hO1,hB1⟩))
   have HZ:=Lib.hid hB1.size;have HB1:=Lib.hid hB1;have HO1:=Lib.hid hO1;clear hO1 hB1
   go_loopw [6,27] (fun v i wq=>∃j:Nat,j≤k∧i=.int .i64 j∧Below wr.heap.size wr wq∧Sd wq wr.heap.size v (ps.take j).flatten) (fun _ i _=>k-(intOf i).toNat)
   case atStart=>exact ⟨0,Nat.zero_le _,rfl,HB1.out,by simpa using HO1.out⟩
   case round=>
    obtain ⟨j,hj,rfl,hB,hO⟩:=hrel
    rename World=>wq
    by_cases hlt:j<k
    ·have hlt2:j<ps.length:=by rw [HPL.out];exact hlt
     obtain ⟨b,off,A1,c1,rfl,hcl,hr1,h1,h2,h3⟩:=(hP.below hB).at j hlt2;have HS:=Lib.hid (show (ps.take (j+1)).flatten=(ps.take j).flatten++ps[j] by rw [Nd ps j hlt2,List.flatten_append];simp);have HTL2:Hid ((ps.take j).flatten.length+ps[j].length≤s):=by
      show _≤_;have h1:=Mf ps (j+1);rw [HS.out,qaj,HFL.out] at h1;exact h1
     generalize ps[j]=us at *;generalize hul:us.length=q at *;replace hul:=Lib.hid hul;generalize hF:(ps.take j).flatten=F at *;replace hF:=Lib.hid hF;have hsz:=hB.size;go_wp2_with (first
      |(at_builtin
        refine Vf rfl (.tmp 31) (.tmp 32) rfl wr.heap.size _ F us _ A1 c1 rfl hO (by rw [hul.out];rfl) h3 (hr1.more hsz) (by rw [hul.out];have :=HTL2.out;omega) hsz ?_;intro v7 w7 hO7 hB7))
     go_roundw
     case rel=>exact ⟨j+1,by omega,by go_num,hB.trans hB7,by rw [HS.out];exact hO7⟩
     case measure=>simp [intOf];omega
    ·obtain rfl:j=k:=by omega
     rw [Zaj (by rw [HPL.out];exact Xaj _)] at hO;obtain ⟨A',c',hv,h1,h2,h3,h4⟩:=hO.form2;rw [HFL.out] at hv h1;subst hv
     go_wp2
     go_ret
     exact ⟨A',c',rfl,h3,h1,h2,h4,hB⟩
theorem Bak:(Tryz.prog.info? 24).map (fun i=>(i.zero,i.size,i.bytes))=some (some (.slice none 0 0),1,24):=by kernel_rfl
def Zo (w:World) (base:Nat) (v:Value) (vs:List Value):Prop:=w.ownsRow base 24 1 v vs.length vs
def Qr (w:World) (B:Nat) (A:Option Addr) (vs:List Value):Prop:=vs= []∨∃b off,A=some ⟨b,off,none⟩∧b<B∧∀j v,vs[j]? =some v→w.cell? ⟨b,off+j,none⟩=some v
section
variable {w w':World} {base B B':Nat} {A:Option Addr} {v:Value} {vs:List Value}
theorem Qr.below (h:Qr w B A vs) (hb:Below B w w'):Qr w' B A vs:=by
 rcases h with rfl|⟨b,off,hA,hlt,hc⟩
 ·exact .inl rfl
 ·exact .inr ⟨b,off,hA,hlt,fun j u hu=>(hb.cell hlt).trans (hc j u hu)⟩
theorem Qr.more (h:Qr w B A vs) (hB:B≤B'):Qr w B' A vs:=by
 rcases h with rfl|⟨b,off,hA,hb,hc⟩
 ·exact .inl rfl
 ·exact .inr ⟨b,off,hA,by omega,hc⟩
theorem Qr.on (h:Qr w w.heap.size A vs) (hb:Below w.heap.size w w'):Qr w' w'.heap.size A vs:=(h.below hb).more hb.size
theorem Zo.far (h:Zo w base v vs):∀k,v.ownBlock=some k→base≤k:=fun k hk=>(World.ownsRow.lt h k hk).1
theorem Zo.form (h:Zo w base v vs):∃A c,v=.slice A vs.length c∧vs.length≤c∧c≤maxLen∧(A=none→c=0)∧Qr w w.heap.size A vs:=by
 rcases h.2 with ⟨rfl,hn⟩|⟨g,cap,cur,rfl,hb,hg,hnc,hcm,_⟩
 ·have:vs= []:=List.eq_nil_of_length_eq_zero hn;subst this;exact ⟨none,0,rfl,Xaj _,Nat.zero_le _,fun _=>rfl,.inl rfl⟩
 ·refine ⟨_,cap,rfl,hnc,hcm,(fun h=>by cases h),.inr ⟨g,0,rfl,(World.ownsRow.lt h g rfl).2,fun j u hu=>?_⟩⟩;have :=World.ownsRow.cells h (g:=g) rfl j u hu
  rwa [Go.WideShapes.add_plain] at this
end
theorem UH {w:World} {ops:Array Oper} {rest:List Oper} {o:Oper} {a:Act} {Q:Exit→Act→World→Prop} (hgd:o.guard=none) (s x:Operand)
 (ho:o.op=.call {callee:=.builtin .append,args:=#[s,x],argTypes:=#[36,36]}) (base B n:Nat)
 (v:Value) (vs us:List Value) (D:Option Addr) (c:Nat) (hs:a.eval s=v) (hown:Zo w base v vs) (hx:a.eval x=.slice D n c) (hn:us.length=n) (hD:D=none→c=0) (hnc:n≤c) (hr:Qr w B D us) (h1:∀u∈us,u.oneCell'=true)
 (hlen:vs.length+us.length≤1000000) (hbase:base≤w.heap.size)
 (h:∀v' w',Zo w' base v' (vs++us)→Below base w w'→wpList Tryz.prog ops Q rest (a.put o.dst v') w'):wpList Tryz.prog ops Q (o::rest) a w:=by
 subst hn;obtain ⟨i0,hi0,hz0,hz1,hz2⟩:=info_parts Bak;rcases D with _|ad
 ·have hc0:=hD rfl;subst hc0;have:us= []:=List.eq_nil_of_length_eq_zero (by omega);subst this;exact wpList_append_own_none hgd s x 36 ho base 24 i0 1 Tryz.underlying36 hi0 v vs.length vs hs hown hx (h v w (by simpa using hown) (Below.refl _ _))
 ·refine wpList_append_own w hgd s x 36 ho base 24 i0 _ 1 24 Tryz.underlying36 hi0 hz0 hz1 hz2 rfl (by omega) v vs.length vs hs hown ad us.length c us hx (by simp) ?_ h1 (by simp only [maxLen];omega) (by omega) hbase ?_
  ·intro j u hu;rcases hr with rfl|⟨b,off,hb1,_,hc⟩
   ·simp at hu
   ·cases hb1
    rw [Go.WideShapes.add_plain,hc j u hu]
  ·intro v' w' h2 h3 _;refine h v' w' ?_ ((Below.refl _ _).grown h3 hbase (fun k hk=>hown.far k hk));unfold Zo;simpa using h2
theorem ZP (n:Nat) (w:World) (hn:n≤1000000):
 Calls Tryz.prog 85 #[.slice none 0 0,.int .i64 (n:Int)] w fun e w'=>∃v,e=.returned v∧Zo w' w.heap.size v []∧Below w.heap.size w w':=by
 have h0:Zo w w.heap.size (.slice none 0 0) []:=⟨by simp,.inl ⟨rfl,by simp⟩⟩;have i0:¬(n:Int)<0:=by omega
 by_cases hz:n=0
 ·subst hz;go_enter Tryz.func85,Tryz.ntmps85
  go_wp2
  go_ret
  exact ⟨_,rfl,h0,Below.refl _ _⟩
 ·have i1:(0:Int)<(n:Int):=by omega
  obtain ⟨i,hi0,hz0,hz1,hz2⟩:=info_parts Bak;have hrz:∀ty,∃c,n≤c∧c≤maxLen∧(Builtin.append_ #[36,3] ty #[.slice none 0 0,.int .i64 (n:Int)]).run Tryz.prog w=.ok (.slice (some ⟨w.heap.size,0,none⟩) n c) (w.drew.alloc (.cells (Builtin.zeroCells #[.slice none 0 0] n++Builtin.zeroCells #[.slice none 0 0] (c-n)) 24)):=fun ty=>by
   have h:=Lib.run_append_grow_zeros (P:=Tryz.prog) w 36 3 ty 24 i (.slice none 0 0) .i64 .i64 Tryz.underlying36 Tryz.underlying3 hi0 hz0 none 0 0 [] (run_firstCells_none w.drew i.size 0 0 0) n (by omega) (by omega) (by omega) (by omega) (by rw [hz2];omega) (by rw [hz2];exact growslice_fits (by omega) (by omega));simp only [Nat.zero_add,Array.empty_append,Value.cells] at h;exact ⟨_,by have :=grownCap_ge w n 0 24;omega,grownCap_le_maxLen w n 0 24 (by simp only [maxLen];omega),h⟩
  obtain ⟨ty,hty⟩:∃ty:TypeId,True:=⟨0,trivial⟩;have HRZ:=Lib.hid hrz;clear hrz;go_enter Tryz.func85,Tryz.ntmps85;go_wp2_with (first
   |(at_builtin
     obtain ⟨c1,hc1,hc2,hr1⟩:=HRZ.out 36;refine Lib.wpList_append_run _ rfl _ _ _ _ rfl _ _ rfl rfl _ _ hr1 ?_;have hB1:Below w.heap.size w (w.drew.alloc (.cells (Builtin.zeroCells #[.slice none 0 0] n++Builtin.zeroCells #[.slice none 0 0] (c1-n)) 24)):=(Below.refl _ _).drew.alloc (Xaj _) _;have hO1:Zo (w.drew.alloc (.cells (Builtin.zeroCells #[.slice none 0 0] n++Builtin.zeroCells #[.slice none 0 0] (c1-n)) 24)) w.heap.size (.slice (some ⟨w.heap.size,0,none⟩) 0 c1) []:=World.ownsRow_made (base:=w.heap.size) (e:=24) (size:=1) w.drew _ c1 (Xaj _) hc2 (by simp only [Array.size_append,size_zeroCells];simp;omega);generalize w.drew.alloc (.cells (Builtin.zeroCells #[.slice none 0 0] n++Builtin.zeroCells #[.slice none 0 0] (c1-n)) 24)=w1 at *;clear hr1 HRZ))
  go_ret
  exact ⟨_,rfl,hO1,hB1⟩
def Is (w:World) (B:Nat) (D:Option Addr) (ps:List (List Value)):Prop:=
 ps= []∨∃b off,D=some ⟨b,off,none⟩∧b<B∧∀j us,ps[j]? =some us→∃A c,w.cell? ⟨b,off+j,none⟩=some (.slice A us.length c)∧Qr w B A us∧us.length≤c∧c≤maxLen∧(A=none→c=0)
theorem Is.below {w w':World} {B:Nat} {D:Option Addr} {ps:List (List Value)} (h:Is w B D ps) (hb:Below B w w'):Is w' B D ps:=by
 rcases h with rfl|⟨b,off,rfl,hlt,hc⟩
 ·exact .inl rfl
 ·refine .inr ⟨b,off,rfl,hlt,fun j us hu=>?_⟩;obtain ⟨A,c,h1,h2,h3⟩:=hc j us hu;exact ⟨A,c,(hb.cell hlt).trans h1,h2.below hb,h3⟩
theorem Is.at {w:World} {B:Nat} {D:Option Addr} {ps:List (List Value)} (h:Is w B D ps) (k:Nat) (hk:k<ps.length):∃b off A c,D=some ⟨b,off,none⟩∧w.cell? ⟨b,off+k,none⟩=some (.slice A ps[k].length c)∧Qr w B A ps[k]∧ps[k].length≤c∧c≤maxLen∧(A=none→c=0):=by
 rcases h with rfl|⟨b,off,rfl,hlt,hc⟩
 ·simp at hk
 ·obtain ⟨A,c,h1,h2,h3,h4⟩:=hc k _ (xaj hk);exact ⟨b,off,A,c,rfl,h1,h2,h3,h4⟩
theorem xi (ps:List (List Value)) (k:Nat):(ps.take k).flatten.length≤ps.flatten.length:=by
 conv=>rhs;rw [←List.take_append_drop k ps,List.flatten_append,qaj]
 omega
def Kac (w:World) (vs:List Value) (n:Nat) (e:Ending) (w':World):Prop:=
 ∃A c,e=.returned (.slice A n c)∧Qr w' w'.heap.size A vs∧n≤c∧c≤maxLen∧(A=none→c=0)∧Below w.heap.size w w'
theorem WK (D:Option Addr) (d m L:Nat) (ps:List (List Value)) (w:World) (hpl:ps.length=m) (h1c:∀us∈ps,∀u∈us,u.oneCell'=true) (hP:Is w w.heap.size D ps) (hm:m≤1000000) (hL:ps.flatten.length=L) (hn:L≤1000000):
 Calls Tryz.prog 39 #[.slice D m d] w (Kac w ps.flatten L):=by
 have HPL:=Lib.hid hpl;have HFL:=Lib.hid hL;have H1A:=Lib.hid h1c;clear hpl hL h1c;go_enter Tryz.func39,Tryz.ntmps39
 go_wp2
 go_loopw [3,11] (fun s i wr=>∃k:Nat,k≤m∧i=.int .i64 k∧s=.int .i64 ((ps.take k).flatten.length:Int)∧wr=w) (fun _ i _=>m-(intOf i).toNat)
 case atStart=>exact ⟨0,Nat.zero_le _,rfl,by simp,rfl⟩
 case round=>
  obtain ⟨k,hk,rfl,rfl,rfl⟩:=hrel;have HTL:=Lib.hid (xi ps k);generalize hs:(ps.take k).flatten.length=s at *;replace hs:=Lib.hid hs;by_cases hlt:k<m
  ·have hlt2:k<ps.length:=by rw [HPL.out];exact hlt
   obtain ⟨b,off,A1,c1,rfl,hcl,hr1,h1,h2,h3⟩:=hP.at k hlt2;have HS:=Lib.hid (show (ps.take (k+1)).flatten.length=(ps.take k).flatten.length+ps[k].length by rw [Nd ps k hlt2,List.flatten_append];simp);have HTL2:=Lib.hid (xi ps (k+1));generalize hul:ps[k].length=q at *;replace hul:=Lib.hid hul;have hq:s+q≤L:=by have h1:=HS.out;have h2:=hs.out;have h3:=HTL2.out;have h4:=HFL.out;omega
   have i1:¬(s:Int)+(q:Int)<0:=by omega
   have i2:(0:Int)≤(s:Int)+(q:Int):=by omega
   go_wp2
   go_roundw
   case rel=>exact ⟨k+1,by omega,by go_num,by rw [HS.out,hs.out];go_num,trivial⟩
   case measure=>simp [intOf];omega
  ·obtain rfl:k=m:=by omega
   have e1:s=L:=by rw [←hs.out,Zaj (by rw [HPL.out];exact Xaj _),HFL.out]
   subst e1;clear HTL hs;go_wp2_with (first
    |(go_at_call 85
      refine (ZP s wr hn).mono ?_;rintro e w1 ⟨v1,rfl,hO1,hB1⟩))
   have HZ:=Lib.hid hB1.size;have HB1:=Lib.hid hB1;have HO1:=Lib.hid hO1;clear hO1 hB1
   go_loopw [6,27] (fun v i wq=>∃j:Nat,j≤k∧i=.int .i64 j∧Below wr.heap.size wr wq∧Zo wq wr.heap.size v (ps.take j).flatten) (fun _ i _=>k-(intOf i).toNat)
   case atStart=>exact ⟨0,Nat.zero_le _,rfl,HB1.out,by simpa using HO1.out⟩
   case round=>
    obtain ⟨j,hj,rfl,hB,hO⟩:=hrel
    rename World=>wq
    by_cases hlt:j<k
    ·have hlt2:j<ps.length:=by rw [HPL.out];exact hlt
     obtain ⟨b,off,A1,c1,rfl,hcl,hr1,h1,h2,h3⟩:=(hP.below hB).at j hlt2;have HS:=Lib.hid (show (ps.take (j+1)).flatten=(ps.take j).flatten++ps[j] by rw [Nd ps j hlt2,List.flatten_append];simp);have HTL2:Hid ((ps.take j).flatten.length+ps[j].length≤s):=by
      show _≤_;have h1:=xi ps (j+1);rw [HS.out,qaj,HFL.out] at h1;exact h1
     have H1C:=Lib.hid (H1A.out ps[j] (List.getElem_mem hlt2));generalize ps[j]=us at *;generalize hul:us.length=q at *;replace hul:=Lib.hid hul;generalize hF:(ps.take j).flatten=F at *;replace hF:=Lib.hid hF;have hsz:=hB.size;go_wp2_with (first
      |(at_builtin
        refine UH rfl (.tmp 31) (.tmp 32) rfl wr.heap.size _ q _ F us A1 c1 rfl hO rfl hul.out h3 h1 (hr1.more hsz) H1C.out (by rw [hul.out];have :=HTL2.out;omega) hsz ?_;intro v7 w7 hO7 hB7))
     go_roundw
     case rel=>exact ⟨j+1,by omega,by go_num,hB.trans hB7,by rw [HS.out];exact hO7⟩
     case measure=>simp [intOf];omega
    ·obtain rfl:j=k:=by omega
     rw [Zaj (by rw [HPL.out];exact Xaj _)] at hO;obtain ⟨A',c',hv,h1,h2,h4,h3⟩:=hO.form;rw [HFL.out] at hv h1;subst hv
     go_wp2
     go_ret
     exact ⟨A',c',rfl,h3,h1,h2,h4,hB⟩
def KA (x:BitVec 64):BitVec 64:=Ue x 1^^^Ue x 8^^^(x>>>7)
def Xt (x:BitVec 64):BitVec 64:=Ue x 19^^^Ue x 61^^^(x>>>6)
def GF (x:BitVec 64) (i j k:Int):BitVec 64:=Ue x i^^^Ue x j^^^Ue x k
def Zai (x:BitVec 64):BitVec 64:=GF x 28 34 39
def xai (x:BitVec 64):BitVec 64:=GF x 14 18 41
def Iag (e f g:BitVec 64):BitVec 64:=(e&&&f)^^^(~~~e&&&g)
def Lac (a b c:BitVec 64):BitVec 64:=(a&&&b)^^^(a&&&c)^^^(b&&&c)
structure Wct where
 (a b c d e f g h:BitVec 64)
def Wct.list (o:Wct):List (BitVec 64):=[o.a,o.b,o.c,o.d,o.e,o.f,o.g,o.h]
def Wct.plus (o p:Wct):Wct:=⟨o.a+p.a,o.b+p.b,o.c+p.c,o.d+p.d,o.e+p.e,o.f+p.f,o.g+p.g,o.h+p.h⟩
def xP (o:Wct) (k w:BitVec 64):BitVec 64:=o.h+xai o.e+Iag o.e o.f o.g+k+w
def NZ (o:Wct):BitVec 64:=Zai o.a+Lac o.a o.b o.c
def MA (o:Wct) (k w:BitVec 64):Wct:=⟨xP o k w+NZ o,o.a,o.b,o.c,o.d+xP o k w,o.e,o.f,o.g⟩
def Ln:List (BitVec 64):=[4794697086780616226,8158064640168781261,13096744586834688815,16840607885511220156,4131703408338449720,6480981068601479193,10538285296894168987,12329834152419229976,15566598209576043074,1334009975649890238,2608012711638119052,6128411473006802146,8268148722764581231,9286055187155687089,11230858885718282805,13951009754708518548,16472876342353939154,17275323862435702243,1135362057144423861,2597628984639134821,3308224258029322869,5365058923640841347,6679025012923562964,8573033837759648693,10970295158949994411,12119686244451234320,12683024718118986047,13788192230050041572,14330467153632333762,15395433587784984357,489312712824947311,1452737877330783856,2861767655752347644,3322285676063803686,5560940570517711597,5996557281743188959,7280758554555802590,8532644243296465576,9350256976987008742,10552545826968843579,11727347734174303076,12113106623233404929,14000437183269869457,14369950271660146224,15101387698204529176,15463397548674623760,17586052441742319658,1182934255886127544,1847814050463011016,2177327727835720531,2830643537854262169,3796741975233480872,4115178125766777443,5681478168544905931,6601373596472566643,7507060721942968483,8399075790359081724,8693463985226723168,9568029438360202098,10144078919501101548,10430055236837252648,11840083180663258601,13761210420658862357,14299343276471374635,14566680578165727644,15097957966210449927,16922976911328602910,17689382322260857208,500013540394364858,748580250866718886,1242879168328830382,1977374033974150939,2944078676154940804,3659926193048069267,4368137639120453308,4836135668995329356,5532061633213252278,6448918945643986474,6902733635092675308,7801388544844847127]
def Cf:Wct:=⟨7640891576956012808,13503953896175478587,4354685564936845355,11912009170470909681,5840696475078001361,11170449401992604703,2270897969802886507,6620516959819538809⟩
def VH (bs:List UInt8) (i:Nat):BitVec 64:=BitVec.ofNat 64 (Zf ((bs.drop (8*i)).take 8))
def Zq (l:List (BitVec 64)) (t:Nat):BitVec 64:=l.getD (t-16) 0+KA (l.getD (t-15) 0)+l.getD (t-7) 0+Xt (l.getD (t-2) 0)
def Vb (bs:List UInt8):Nat→List (BitVec 64)
 |0=> []
 |t+1=>Vb bs t++[if t<16 then VH bs t else Zq (Vb bs t) t]
theorem Bd (bs:List UInt8):∀t,(Vb bs t).length=t
 |0=>rfl
 |t+1=>by simp [Vb,Bd bs t]
def Tb (o:Wct) (ws:List (BitVec 64)):Nat→Wct
 |0=>o
 |t+1=>MA (Tb o ws t) (Ln.getD t 0) (ws.getD t 0)
def Ni (o:Wct) (bs:List UInt8):Wct:=o.plus (Tb o (Vb bs 80) 80)
def Xd (bs:List UInt8):Nat→Wct
 |0=>Cf
 |n+1=>Ni (Xd bs n) ((bs.drop (128*n)).take 128)
def IF (x:BitVec 64):List UInt8:=(Ob x.toNat 8).reverse
theorem Mn (x:BitVec 64):(IF x).length=8:=by simp [IF,Ta]
def Ee (l:List (BitVec 64)):List UInt8:=(l.map IF).flatten
theorem Vg (l:List (BitVec 64)):(Ee l).length=8*l.length:=by
 induction l with
 |nil=>rfl
 |cons x l ih=>simp only [Ee,List.map_cons,List.flatten_cons,qaj,Mn,List.length_cons] at *;omega
theorem XK (l:List (BitVec 64)) (x:BitVec 64):Ee (l++[x])=Ee l++IF x:=by simp [Ee]
def Wc (n:Nat):Nat:=128-(n%128+16)%128
def Wk (n:Nat):List UInt8:=128::(List.replicate (Wc n-1) 0++(List.replicate 8 0++(Ob (8*n) 8).reverse))
theorem yi (n:Nat):1≤Wc n∧Wc n≤128:=by unfold Wc;omega
theorem Sr (n:Nat):(Wk n).length=Wc n+16:=by
 have :=yi n;simp [Wk,Ta];omega
theorem NA (n:Nat):(n+(Wc n+16))%128=0:=by unfold Wc;omega
theorem YK (n:Nat):(n+144)/128*128=n+(Wc n+16):=by unfold Wc;omega
def yd (bs:List UInt8):List UInt8:=bs++Wk bs.length
theorem yf (bs:List UInt8):(yd bs).length=bs.length+(Wc bs.length+16):=by rw [yd,qaj,Sr]
theorem VD (bs:List UInt8):(yd bs).length%128=0:=by rw [yf,NA]
def Ed (bs:List UInt8):List UInt8:=Ee (Xd (yd bs) ((yd bs).length/128)).list
theorem Cd (bs:List UInt8):(Ed bs).length=64:=by simp [Ed,Vg,Wct.list]
theorem Jag (x y:BitVec 64):((x.toNat:Int)+(y.toNat:Int))%18446744073709551616=((x+y).toNat:Int):=by
 rw [BitVec.toNat_add];omega
theorem Vh (x y:BitVec 64):IntKind.u64.wrap ((x.toNat:Int)+(y.toNat:Int))=((x+y).toNat:Int):=by
 rw [IntKind.wrap_u64,Jag]
theorem zaa (x:BitVec 64):bits .xor .u64 (if IntKind.u64.signed=true then -1 else IntKind.u64.max) (x.toNat:Int)=((~~~x).toNat:Int):=by
 have h:=Uk (BitVec.allOnes 64) x;rw [BitVec.allOnes_xor] at h;exact h
theorem OZ (q:Wct) (k w:BitVec 64):IntKind.u64.wrap (IntKind.u64.wrap (IntKind.u64.wrap (IntKind.u64.wrap ((q.h.toNat:Int)+((GF q.e 14 18 41).toNat:Int))+bits .xor .u64 (bits .and .u64 (q.e.toNat:Int) (q.f.toNat:Int)) (bits .and .u64 (bits .xor .u64 (if IntKind.u64.signed=true then -1 else IntKind.u64.max) (q.e.toNat:Int)) (q.g.toNat:Int)))+(k.toNat:Int))+(w.toNat:Int))=((xP q k w).toNat:Int):=by
 rw [zaa,EF,EF,Uk,Vh,Vh,Vh,Vh];rfl
theorem PZ (q:Wct):IntKind.u64.wrap (((GF q.a 28 34 39).toNat:Int)+bits .xor .u64 (bits .xor .u64 (bits .and .u64 (q.a.toNat:Int) (q.b.toNat:Int)) (bits .and .u64 (q.a.toNat:Int) (q.c.toNat:Int))) (bits .and .u64 (q.b.toNat:Int) (q.c.toNat:Int)))=((NZ q).toNat:Int):=by
 rw [EF,EF,EF,Uk,Uk,Vh];rfl
theorem Qx (x:BitVec 64) (i j k:Int) (w:World):
 Calls Tryz.prog 122 #[.int .u64 x.toNat,.int .i64 i,.int .i64 j,.int .i64 k] w fun e w'=>e=.returned (.int .u64 ((GF x i j k).toNat:Int))∧w=w':=by
 go_enter Tryz.func122,Tryz.ntmps122;go_wp2_with (go_at_call 138;refine (Ox _ _ _).mono ?_;rintro e w' ⟨rfl,rfl⟩)
 go_ret
 exact ⟨Tt (by rw [Uk,Uk];rfl),rfl⟩
theorem WH (x:BitVec 64) (i j k:Int) (w:World):
 Calls Tryz.prog 122 #[.int .u64 x.toNat,.int .i64 i,.int .i64 j,.int .i64 k] w fun e w'=>e=.returned (.int .u64 ((GF x i j k).toNat:Int))∧w'=w:=
 (Qx x i j k w).mono fun _ _ ⟨h1,h2⟩=>⟨h1,h2.symm⟩
theorem ZK (A:Option Addr) (c:Nat) (bs:List UInt8) (w:World) (hr:Row w w.heap.size A bs) (hn:bs.length=8):
 Calls Tryz.prog 137 #[.slice A 8 c] w fun e w'=>e=.returned (.int .u64 ((BitVec.ofNat 64 (Zf bs)).toNat:Int))∧w=w':=by
 have h:=KU A c bs w hr (by omega);rw [hn] at h;have hb:=Kz bs;rw [hn] at hb;have HC:=Lib.hid h;clear h hn;go_enter Tryz.func137,Tryz.ntmps137;go_wp2_with fail
 refine HC.out.mono ?_;rintro e w' ⟨rfl,rfl⟩
 go_wp2
 go_ret
 exact ⟨Tt (by rw [BitVec.toNat_ofNat];omega),rfl⟩
theorem Xk (g off len cap x:Nat) (vs:List Value) (t:TypeId) (w:World) (hC:Ia w g vs t) (hx:x<18446744073709551616) (hl:8≤len) (ho:off+8≤vs.length):
 Calls Tryz.prog 123 #[.slice (some ⟨g,off,none⟩) len cap,.int .u64 x] w fun e w'=>e=.returned (.tuple #[])∧But g w w'∧Ia w' g (Ub vs off (Ch x 8)) t:=by
 have HL:Hid ((Ob x 8).reverse.length=8):=by show _=_;rw [List.length_reverse,Ta]
 have HM:Hid (min 8 len=8):=by show _=_;omega
 have HT:Hid ((Ob x 8).reverse.take len=(Ob x 8).reverse):=by show _=_;rw [Zaj (by rw [HL.out];omega)]
 go_enter Tryz.func123,Tryz.ntmps123;go_wp2_with fail
 refine (ZV x 8 w hx (by omega)).mono ?_;rintro e w1 ⟨rfl,hB1,hM1⟩;have hC1:=hC.below hB1 hC.lt;have hR1:=hM1.row hM1.lt;have hT1:=hC1.there off 8 ho;go_wp2_with (refine Yo rfl (.tmp 11) (.tmp 12) rfl g off len cap 8 8 w1.heap.size 8 _ (Ob x 8).reverse rfl rfl HL.out HM.out hR1 hT1 ?_
                                                                                                                                                                   intro w2 hw2;rw [HT.out] at hw2;have hB2:But g w1 w2:=by rw [hw2];exact (But.refl g w1).setCells _ _
                                                                                                                                                                   have hC2:Ia w2 g (Ub vs off (Ch x 8)) t:=by rw [hw2];exact hC1.setCells (by rw [Uaj,HL.out];exact ho)
                                                                                                                                                                   clear hw2)
 go_end0
 exact ⟨rfl,(But.of_below hB1).trans hB2,hC2⟩
abbrev qa (x:BitVec 64):Value:=.int .u64 (x.toNat:Int)
theorem OA:(Tryz.prog.info? 49).map (·.size)=some 1:=by kernel_rfl
theorem QZ:∀w,(zeroValue 154).run Tryz.prog w=.ok (.agg (List.replicate 80 (qa 0)).toArray) w:=(zero_of_info (P:=Tryz.prog) (t:=154) (v:=.agg (List.replicate 80 (qa 0)).toArray) (n:=80) (by kernel_rfl)).1
theorem RZ:(Tryz.prog.info? 154).map (·.size)=some 80:=by kernel_rfl
def Zd (bs:List UInt8) (k:Nat):List Value:=(Vb bs k).map qa++List.replicate (80-k) (qa 0)
theorem Wf (bs:List UInt8) (k:Nat) (h:k≤80):(Zd bs k).length=80:=by simp [Zd,Bd];omega
theorem Ml (bs:List UInt8) (k:Nat) (h:k<80) (x:BitVec 64) (hx:x=if k<16 then VH bs k else Zq (Vb bs k) k):(Zd bs k).set k (qa x)=Zd bs (k+1):=by
 subst hx;rw [Zd,FF _ k 80 _ _ (by simp [Bd]) h,Zd,Vb,List.map_append];rfl
theorem Fi (bs:List UInt8) (k j:Nat) (h:j<k):(Zd bs k)[j]? =some (qa ((Vb bs k).getD j 0)):=by
 rw [Zd,List.getElem?_append_left (by simp [Bd];omega),List.getElem?_map,xaj (by rw [Bd];omega)];simp [List.getD,Bd,h]
theorem AW (g l h:Nat) (w:World) (h1:l<h) (h2:h≤128):
 (Instr.sliceAt 125 (.pointer (some ⟨g,0,none⟩)) (some (.int .i64 (l:Int))) (some (.int .i64 (h:Int))) none).run Tryz.prog w=.ok (.slice (some ⟨g,l,none⟩) (h-l) (128-l)) w:=by
 obtain ⟨i0,hi0,hs0⟩:=Option.map_eq_some_iff.1 Qc;have h3:(h:Int)≤128:=by omega
 have h4:(l:Int)≤(h:Int):=by omega
 have h5:¬128=l:=by omega
 simp [Instr.sliceAt,Instr.sureAddr,run_underlying Tryz.underlying125,Instr.sliceBounds,run_sliceBound,sizeOf,typeInfo,hi0,hs0,h3,h4,h5,Addr.add];exact fun e=>e.symm
theorem PA (bs:List UInt8) (vs:List Value) (w:World) (hv:vs=bs.map Fa) (hn:bs.length=128):
 Calls Tryz.prog 121 #[.agg vs.toArray] w (gvn (.agg ((Vb bs 80).map qa).toArray) w):=by
 have HN:=Lib.hid hn;have HV:=Lib.hid hv;clear hn hv;go_enter Tryz.func121,Tryz.ntmps121;go_wp2_with (first
  |(refine Mm rfl 125 _ rfl vs.toArray rfl ?_
    intro w1 hw1;have hB1:Below w.heap.size w w1:=by rw [hw1];exact (Below.refl _ _).alloc (Xaj _) _
    have hC1:Ia w1 w.heap.size vs 125:=by rw [hw1];exact Ia.new w _ _
    have hs1:w1.heap.size=w.heap.size+1:=by rw [hw1];simp
    clear hw1)
  |(refine Ke rfl 154 rfl _ QZ ?_
    first
    |(intro w2 hw2
      have hB2:Below w.heap.size w w2:=by rw [hw2];exact hB1.alloc hB1.size _
      have hC2:Ia w2 w.heap.size vs 125:=by rw [hw2];exact hC1.alloc _
      have hD2:Ia w2 (w.heap.size+1) (List.replicate 80 (qa 0)) 154:=by rw [hw2,←hs1];exact Ia.new w1 _ _
      have hs2:w2.heap.size=w.heap.size+2:=by rw [hw2];simp [hs1]
      rw [hs1];clear hw2 hB1 hC1)
    |(intro w3 hw3
      have hB3:Below w.heap.size w w3:=by rw [hw3];exact hB2.alloc hB2.size _
      have hC3:Ia w3 w.heap.size vs 125:=by rw [hw3];exact hC2.alloc _
      have hD3:Ia w3 (w.heap.size+1) (List.replicate 80 (qa 0)) 154:=by rw [hw3];exact hD2.alloc _
      have hE3:Ia w3 (w.heap.size+2) (Zd bs 0) 154:=by rw [hw3,←hs2];exact Ia.new w2 _ _
      rw [hs2];clear hw3 hB2 hC2 hD2 hs1 hs2)))
 go_loopw [10] (fun i wr=>∃k:Nat,k≤16∧i=.int .i64 k∧Below w.heap.size w wr∧Ia wr w.heap.size vs 125∧Ia wr (w.heap.size+1) (List.replicate 80 (qa 0)) 154∧Ia wr (w.heap.size+2) (Zd bs k) 154) (fun i _=>16-(intOf i).toNat)
 case atStart=>exact ⟨0,Nat.zero_le _,rfl,hB3,hC3,hD3,hE3⟩
 case round=>
  clear hB3 hC3 hD3 hE3;obtain ⟨k,hk,rfl,hB,hC,hR,hS⟩:=hrel;by_cases hlt:k<16
  ·have hcut:=AW w.heap.size (8*k) (8*(k+1)) wr (by omega) (by omega);rw [show 8*(k+1)-8*k=8 by omega,show ((8*k:Nat):Int)=8*(k:Int) by omega,show ((8*(k+1):Nat):Int)=8*((k:Int)+1) by omega] at hcut;have hrow:Row wr wr.heap.size (some ⟨w.heap.size,0,none⟩) bs:=hC.row (m:=128) (by rw [HV.out,Zaj (by rw [Uaj,HN.out];omega)]);go_wp2_with fail
   refine (ZK _ _ ((bs.drop (8*k)).take 8) _ (by have h:=hrow.piece (8*k) 8;rw [Nat.zero_add] at h;exact h) (by have :=HN.out;rw [zaj,List.length_drop];omega)).mono ?_;rintro e w' ⟨rfl,rfl⟩;have hf:=hS.frozen k;obtain ⟨v3,hc3⟩:∃v,wr.cell? ⟨w.heap.size+2,k,none⟩=some v:=⟨_,hS.cell k (by rw [Wf _ _ (by omega)];omega)⟩
   go_wp2
   go_roundw
   case rel=>
    refine ⟨k+1,by omega,by go_num,hB.setCell (p:=⟨w.heap.size+2,k,none⟩) (by simp) _,hC.other (by simp) _,hR.other (by simp) _,?_⟩;have h:=hS.set k (qa (VH bs k));rw [Ml bs k (by omega) _ (by rw [if_pos hlt])] at h;exact h
   case measure=>simp [intOf];omega
  ·obtain rfl:k=16:=by omega
   go_wp2_with fail
   rw [show ((16:Nat):Int)=16 from rfl];have d16:decide ((16:Int)<16)=false:=by decide
   try rw [d16]
   clear d16 hC
   go_loopw [5] (fun i wr=>∃k:Nat,16≤k∧k≤80∧i=.int .i64 k∧Below w.heap.size w wr∧Ia wr (w.heap.size+1) (List.replicate 80 (qa 0)) 154∧Ia wr (w.heap.size+2) (Zd bs k) 154) (fun i _=>80-(intOf i).toNat)
   case atStart=>exact ⟨16,by omega,by omega,rfl,hB,hR,hS⟩
   case round=>
    clear hB hR hS;obtain ⟨k,hk1,hk2,rfl,hB,hR,hS⟩:=hrel;by_cases hlt:k<80
    ·have c15:=hS.get (Fi bs k (k-15) (by omega));have c2:=hS.get (Fi bs k (k-2) (by omega));have c16:=hS.get (Fi bs k (k-16) (by omega));have c7:=hS.get (Fi bs k (k-7) (by omega));have HX:Hid (Zq (Vb bs k) k=(Vb bs k).getD (k-16) 0+KA ((Vb bs k).getD (k-15) 0)+(Vb bs k).getD (k-7) 0+Xt ((Vb bs k).getD (k-2) 0)):=rfl;generalize (Vb bs k).getD (k-15) 0=x15 at *;generalize (Vb bs k).getD (k-2) 0=x2 at *;generalize (Vb bs k).getD (k-16) 0=x16 at *;generalize (Vb bs k).getD (k-7) 0=x7 at *;have i15:(0:Int)≤(k:Int)-15:=by omega
     have j15:(k:Int)-15<80:=by omega
     have t15:((k:Int)-15).toNat=k-15:=by omega
     have i2:(0:Int)≤(k:Int)-2:=by omega
     have j2:(k:Int)-2<80:=by omega
     have t2:((k:Int)-2).toNat=k-2:=by omega
     have i16:(0:Int)≤(k:Int)-16:=by omega
     have j16:(k:Int)-16<80:=by omega
     have t16:((k:Int)-16).toNat=k-16:=by omega
     have i7:(0:Int)≤(k:Int)-7:=by omega
     have j7:(k:Int)-7<80:=by omega
     have t7:((k:Int)-7).toNat=k-7:=by omega
     have hf:=hS.frozen k;obtain ⟨v3,hc3⟩:∃v,wr.cell? ⟨w.heap.size+2,k,none⟩=some v:=⟨_,hS.cell k (by rw [Wf _ _ (by omega)];omega)⟩
     go_wp2
     go_quiet (fail)
     go_wp2_with (go_at_call 138;refine (Ox _ _ _).mono ?_;rintro e w' ⟨rfl,rfl⟩)
     refine Ad 15 (by kernel_rfl) (by kernel_rfl) ?_;intro w1 hw1;have hB1:Below w.heap.size w w1:=by rw [hw1];exact (below_drewN hB nq).drew
     have hR1:Ia w1 (w.heap.size+1) (List.replicate 80 (qa 0)) 154:=by rw [hw1];exact hR
     have hS1:Ia w1 (w.heap.size+2) (Zd bs k) 154:=by rw [hw1];exact hS
     have d16:w1.cell? ⟨w.heap.size+2,k-16,none⟩=some (qa x16):=by rw [hw1];exact c16
     have d7:w1.cell? ⟨w.heap.size+2,k-7,none⟩=some (qa x7):=by rw [hw1];exact c7
     have df:=hS1.frozen k;obtain ⟨v4,dc3⟩:∃v,w1.cell? ⟨w.heap.size+2,k,none⟩=some v:=⟨_,hS1.cell k (by rw [Wf _ _ (by omega)];omega)⟩;clear hw1 hB hR hS c15 c2 c16 c7 hf hc3;simp only [List.take_succ_cons,List.take_zero,List.drop_succ_cons,List.drop_zero];have s16:IntKind.i64.wrap ((k:Int)-16)=(k:Int)-16:=IntWalk.i64_in _ (by omega);have s7:IntKind.i64.wrap ((k:Int)-7)=(k:Int)-7:=IntWalk.i64_in _ (by omega);have m16:(16:Int)≤(k:Int):=by omega
     have m7:(7:Int)≤(k:Int):=by omega
     repeat still_step
     clear s16 s7;refine wpStill_nil ?_
     go_wp2
     go_roundw
     case rel=>
      refine ⟨k+1,by omega,by omega,by go_num,hB1.setCell (p:=⟨w.heap.size+2,k,none⟩) (by simp) _,hR1.other (by simp) _,?_⟩;have e7:=DF x15 7;have e6:=DF x2 6;rw [show (2:Int)^7=128 from rfl] at e7;rw [show (2:Int)^6=64 from rfl] at e6;rw [e7,e6,Uk,Uk,Uk,Uk,Vh,Vh,Vh];have h:=hS1.set k (qa (Zq (Vb bs k) k));rw [Ml bs k (by omega) _ (by rw [if_neg (by omega)]),HX.out] at h;exact h
     case measure=>simp [intOf];omega
    ·obtain rfl:k=80:=by omega
     have hv:(Zd bs 80).length=80:=Wf _ _ (Xaj _);have HV:=Lib.hid (show Zd bs 80=(Vb bs 80).map qa by simp [Zd]);generalize Zd bs 80=vs at *;have hi:(Tryz.prog.info? 154).map (·.size)=some vs.toArray.size:=by
      rw [List.size_toArray,hv];exact RZ
     have hT:wr.there (w.heap.size+1) 0 vs.toArray.size:=by rw [show vs.toArray.size=80 by simpa using hv];exact hR.there 0 80 (by simp)
     have h1:vs.toArray.all (·.oneCell')=true:=all_oneCell_toArray (by rw [HV.out];intro v hv;obtain ⟨x,_,rfl⟩:=List.mem_map.1 hv;rfl);have HL:=Lib.hid hv;clear hv;go_wp2_with (first
      |(refine wpList_load_row rfl 154 _ rfl (w.heap.size+2) rfl 154 _ (0,0) _ hS Tryz.underlying154 rfl hi ?_)
      |(refine wpList_store_mid rfl 154 _ _ rfl (w.heap.size+1) 0 vs.toArray rfl rfl hT hi h1 ?_))
     have hC:=hR.setCells (cs:=vs) (o:=0) (by simp [HL.out]);rw [Xb _ _ (by simp [HL.out])] at hC;refine Yi Tryz.results121 (w.heap.size+1) vs 154 rfl hC Tryz.underlying154 rfl (by simpa using hi) rfl ⟨by rw [HV.out],Kd hB (by omega) _ _⟩
def Yh (w:World):Prop:=w.rangeAt 2 0 (Cf.list.map qa)∧w.rangeAt 3 0 (Ln.map qa)
theorem Yh.keep {w w':World} {B:Nat} (h:Yh w) (hb:Below B w w') (h1:2<B) (h2:3<B):Yh w':=
 ⟨fun j v hj=>(hb.cell (p:=⟨2,0+j,none⟩) h1).trans (h.1 j v hj),fun j v hj=>(hb.cell (p:=⟨3,0+j,none⟩) h2).trans (h.2 j v hj)⟩
theorem Yh.lt {w:World} (h:Yh w):2<w.heap.size∧3<w.heap.size:=
 ⟨block_lt_of_cell (h.1 0 _ (show (Cf.list.map qa)[0]? =some (qa Cf.a) from rfl)),block_lt_of_cell (h.2 0 _ (show (Ln.map qa)[0]? =some (qa 4794697086780616226) from rfl))⟩
theorem Yh.below {w w':World} (h:Yh w) (hb:Below w.heap.size w w'):Yh w':=h.keep hb h.lt.1 h.lt.2
theorem Yh.drewN {w:World} (h:Yh w) (n:Nat):Yh (w.drewN n):=h
theorem Yh.round {w:World} (h:Yh w) (k:Nat) (hk:k<80):w.cell? ⟨3,k,none⟩=some (qa (Ln.getD k 0)):=by
 have :=h.2 k (qa (Ln.getD k 0)) (by rw [List.getElem?_map,Yaj,xaj (show k<Ln.length from hk)];rfl)
 rwa [Nat.zero_add] at this
theorem Dh:(Tryz.prog.info? 119).map (·.size)=some 8:=by kernel_rfl
theorem Js:(Tryz.prog.info? 125).map (·.size)=some 128:=by kernel_rfl
theorem QA:∀w,(zeroValue 119).run Tryz.prog w=.ok (.agg (List.replicate 8 (qa 0)).toArray) w:=(zero_of_info (P:=Tryz.prog) (t:=119) (v:=.agg (List.replicate 8 (qa 0)).toArray) (n:=8) (by kernel_rfl)).1
theorem RA:∀w,(zeroValue 125).run Tryz.prog w=.ok (.agg (List.replicate 128 (Fa 0)).toArray) w:=(zero_of_info (P:=Tryz.prog) (t:=125) (v:=.agg (List.replicate 128 (Fa 0)).toArray) (n:=128) (by kernel_rfl)).1
theorem SA (l:List (BitVec 64)):(l.map qa).toArray.all (·.oneCell')=true:=all_oneCell_toArray (by intro v hv;obtain ⟨x,_,rfl⟩:=List.mem_map.1 hv;rfl)
def zi (o q:Wct) (k:Nat):List Value:=((o.plus q).list.take k).map qa++(o.list.drop k).map qa
theorem Rx (o q:Wct) (k:Nat) (hk:k<8):(zi o q k).set k (qa (o.list.getD k 0+q.list.getD k 0))=zi o q (k+1):=by
 match k,hk with
 |0,_=>rfl
 |1,_=>rfl
 |2,_=>rfl
 |3,_=>rfl
 |4,_=>rfl
 |5,_=>rfl
 |6,_=>rfl
 |7,_=>rfl
theorem JF (o q:Wct) (k:Nat) (hk:k<8):(zi o q k)[k]? =some (qa (o.list.getD k 0)):=by
 match k,hk with
 |0,_=>rfl
 |1,_=>rfl
 |2,_=>rfl
 |3,_=>rfl
 |4,_=>rfl
 |5,_=>rfl
 |6,_=>rfl
 |7,_=>rfl
theorem SZ (q:Wct) (k:Nat) (hk:k<8):(q.list.map qa)[k]? =some (qa (q.list.getD k 0)):=by
 rw [List.getElem?_map,Yaj,xaj (show k<q.list.length from hk)];rfl
def zd (o:Wct):List Value:=o.list.map qa
theorem yP (o:Wct) (bs:List UInt8) (ls vs:List Value) (w:World) (hK:Yh w) (hl:ls=zd o) (hv:vs=bs.map Fa) (hn:bs.length=128):
 Calls Tryz.prog 82 #[.agg ls.toArray,.agg vs.toArray] w (gvn (.agg (zd (Ni o bs)).toArray) w):=by
 have HN:=Lib.hid hn;have HV:=Lib.hid hv;have HL:=Lib.hid hl;have HZ:Hid (ls.length=8):=by show _=_;rw [hl];rfl
 have HZ2:Hid (vs.length=128):=by show _=_;rw [hv,Uaj,hn]
 have hil:(Tryz.prog.info? 119).map (·.size)=some ls.toArray.size:=by rw [List.size_toArray,HZ.out];exact Dh
 have hib:(Tryz.prog.info? 125).map (·.size)=some vs.toArray.size:=by rw [List.size_toArray,HZ2.out];exact Js
 have HS:Hid (ls.toArray.size=8):=by show _=_;rw [List.size_toArray,HZ.out]
 have H1:Hid (ls.toArray.all (·.oneCell')=true):=by show _=_;rw [hl];exact SA _
 clear hn hv hl;go_enter Tryz.func82,Tryz.ntmps82;go_wp2_with (first
  |(refine Mm rfl 119 _ rfl ls.toArray rfl ?_
    intro w1 hw1;have hB1:Below w.heap.size w w1:=by rw [hw1];exact (Below.refl _ _).alloc (Xaj _) _
    have hC1:Ia w1 w.heap.size ls 119:=by rw [hw1];exact Ia.new w _ _
    have hs1:w1.heap.size=w.heap.size+1:=by rw [hw1];simp
    clear hw1)
  |(refine Mm rfl 125 _ rfl vs.toArray rfl ?_
    intro w2 hw2;have hB2:Below w.heap.size w w2:=by rw [hw2];exact hB1.alloc hB1.size _
    have hC2:Ia w2 w.heap.size ls 119:=by rw [hw2];exact hC1.alloc _
    have hD2:Ia w2 (w.heap.size+1) vs 125:=by rw [hw2,←hs1];exact Ia.new w1 _ _
    have hs2:w2.heap.size=w.heap.size+2:=by rw [hw2];simp [hs1]
    rw [hs1];clear hw2 hB1 hC1)
  |(refine Ke rfl 119 rfl _ QA ?_
    first
    |(intro w3 hw3
      have hB3:Below w.heap.size w w3:=by rw [hw3];exact hB2.alloc hB2.size _
      have hC3:Ia w3 w.heap.size ls 119:=by rw [hw3];exact hC2.alloc _
      have hD3:Ia w3 (w.heap.size+1) vs 125:=by rw [hw3];exact hD2.alloc _
      have hR3:Ia w3 (w.heap.size+2) (List.replicate 8 (qa 0)) 119:=by rw [hw3,←hs2];exact Ia.new w2 _ _
      have hs3:w3.heap.size=w.heap.size+3:=by rw [hw3];simp [hs2]
      rw [hs2];clear hw3 hB2 hC2 hD2)
    |(intro w4 hw4
      have hB4:Below w.heap.size w w4:=by rw [hw4];exact hB3.alloc hB3.size _
      have hC4:Ia w4 w.heap.size ls 119:=by rw [hw4];exact hC3.alloc _
      have hD4:Ia w4 (w.heap.size+1) vs 125:=by rw [hw4];exact hD3.alloc _
      have hR4:Ia w4 (w.heap.size+2) (List.replicate 8 (qa 0)) 119:=by rw [hw4];exact hR3.alloc _
      have hE4:Ia w4 (w.heap.size+3) (List.replicate 8 (qa 0)) 119:=by rw [hw4,←hs3];exact Ia.new w3 _ _
      have hT4:w4.there (w.heap.size+3) 0 ls.toArray.size:=by rw [HS.out];exact hE4.there 0 8 (by simp)
      rw [hs3];clear hw4 hB3 hC3 hD3 hR3))
  |(refine wpList_load_row rfl 119 _ rfl w.heap.size rfl 119 _ (0,0) _ hC3 Tryz.underlying119 rfl hil ?_)
  |(refine wpList_store_mid rfl 119 _ _ rfl (w.heap.size+3) 0 ls.toArray rfl rfl hT4 hil H1.out ?_))
 have hB5:Below w.heap.size w (w4.setCells (w.heap.size+3) 0 ls):=Kd hB4 (by omega) _ _;have hC5:Ia (w4.setCells (w.heap.size+3) 0 ls) w.heap.size ls 119:=hC4.otherCells (by omega) _ _;have hD5:Ia (w4.setCells (w.heap.size+3) 0 ls) (w.heap.size+1) vs 125:=hD4.otherCells (by omega) _ _;have hR5:Ia (w4.setCells (w.heap.size+3) 0 ls) (w.heap.size+2) (List.replicate 8 (qa 0)) 119:=hR4.otherCells (by omega) _ _;have hE5:Ia (w4.setCells (w.heap.size+3) 0 ls) (w.heap.size+3) ls 119:=by
  have h:=hE4.setCells (cs:=ls) (o:=0) (by rw [HZ.out];simp);rw [Xb _ _ (by rw [HZ.out];simp)] at h;exact h
 generalize w4.setCells (w.heap.size+3) 0 ls=w0 at *;clear hB4 hC4 hD4 hR4 hE4 hT4;rw [HL.out] at hE5 hC5;clear hs1 hs2 hs3;have c0:=hE5.get (j:=0) (v:=qa o.a) rfl;have c1:=hE5.get (j:=1) (v:=qa o.b) rfl;have c2:=hE5.get (j:=2) (v:=qa o.c) rfl;have c3:=hE5.get (j:=3) (v:=qa o.d) rfl;have c4:=hE5.get (j:=4) (v:=qa o.e) rfl;have c5:=hE5.get (j:=5) (v:=qa o.f) rfl;have c6:=hE5.get (j:=6) (v:=qa o.g) rfl;have c7:=hE5.get (j:=7) (v:=qa o.h) rfl;go_simp
 go_quiet (fail)
 have hB6:=below_drewN hB5 nq;have hC6:=hC5.drewN nq;have hD6:=hD5.drewN nq;have hR6:=hR5.drewN nq;clear hB5 hC5 hD5 hR5 hE5 c0 c1 c2 c3 c4 c5 c6 c7;generalize w0.drewN nq=w5 at *;go_wp2_with (refine wpList_load_row rfl 125 _ rfl (w.heap.size+1) rfl 125 _ (0,0) _ hD6 Tryz.underlying125 rfl hib ?_)
 refine (PA bs vs _ HV.out HN.out).mono ?_;rintro e w6 ⟨rfl,hB7⟩;have hC7:=hC6.below hB7 hC6.lt;have hR7:=hR6.below hB7 hR6.lt;replace hB7:=hB6.trans (hB7.mono hB6.size);clear hB6 hC6 hD6 hR6;have HS:=Lib.hid (Bd bs 80);have HO:Hid (Ni o bs=o.plus (Tb o (Vb bs 80) 80)):=rfl;generalize Vb bs 80=ws at *;have hK7:=hK.below hB7;go_wp2_with fail
 go_loopw [6,7,8,9,10,11,12,13,39] (fun p q r s t u v x i wr=>∃k:Nat,k≤80∧i=.int .i64 k∧Below w.heap.size w wr∧Yh wr∧Ia wr w.heap.size (zd o) 119∧Ia wr (w.heap.size+2) (List.replicate 8 (qa 0)) 119∧p=qa (Tb o ws k).a∧q=qa (Tb o ws k).b∧r=qa (Tb o ws k).c∧s=qa (Tb o ws k).d∧t=qa (Tb o ws k).e∧u=qa (Tb o ws k).f∧v=qa (Tb o ws k).g∧x=qa (Tb o ws k).h) (fun _ _ _ _ _ _ _ _ i _=>80-(intOf i).toNat)
 case atStart=>exact ⟨0,Nat.zero_le _,rfl,hB7,hK7,hC7,hR7,rfl,rfl,rfl,rfl,rfl,rfl,rfl,rfl⟩
 case round=>
  clear hB7 hK7 hC7 hR7;obtain ⟨k,hk,rfl,hB,hT,hC,hR,rfl,rfl,rfl,rfl,rfl,rfl,rfl,rfl⟩:=hrel;by_cases hlt:k<80
  ·have hcK:=hT.round k hlt;have hix:=Mj (P:=Tryz.prog) (t:=154) (ws.map qa) k (qa (ws.getD k 0)) wr Tryz.underlying154 Tryz.underlying49 OA hlt (by
    rw [List.getElem?_map,Yaj,xaj (by rw [HS.out];exact hlt)];rfl)
   have HX:Hid (Tb o ws (k+1)=MA (Tb o ws k) (Ln.getD k 0) (ws.getD k 0)):=rfl;generalize Tb o ws k=q at *;generalize ws.getD k 0=xw at *;generalize Ln.getD k 0=xk at *;have i1:(0:Int)≤(k:Int):=by omega
   have i2:(k:Int)<80:=by omega
   go_wp2_with fail
   go_quiet ((go_at_call 122;exact Calls.quiet_of_same (WH _ _ _ _ _)))
   go_wp2_with (go_at_call 122;refine (Qx _ _ _ _ _).mono ?_;rintro e w' ⟨rfl,rfl⟩)
   go_roundw
   case rel=>
    rw [OZ,PZ,Vh,Vh];exact ⟨k+1,by omega,by go_num,below_drewN hB nq,hT,hC,hR,by rw [HX.out];rfl,by rw [HX.out];rfl,by rw [HX.out];rfl,by rw [HX.out];rfl,by rw [HX.out];rfl,by rw [HX.out];rfl,by rw [HX.out];rfl,by rw [HX.out];rfl⟩
   case measure=>simp [intOf];omega
  ·obtain rfl:k=80:=by omega
   have HQ:=HO.out;generalize Tb o ws 80=q at *;replace HQ:=Lib.hid HQ;clear HO hT;go_wp2_with fail
   rw [show ((80:Nat):Int)=80 from rfl]
   go_loopw [98] (fun i wr=>∃k:Nat,k≤8∧i=.int .i64 k∧Below w.heap.size w wr∧Ia wr w.heap.size (zi o q k) 119∧Ia wr (w.heap.size+2) (List.replicate 8 (qa 0)) 119) (fun i _=>8-(intOf i).toNat)
   case atStart=>exact ⟨0,Nat.zero_le _,rfl,hB,hC,hR⟩
   case round=>
    clear hB hC hR;obtain ⟨k,hk,rfl,hB,hC,hR⟩:=hrel;by_cases hlt:k<8
    ·have hix:∀W:World,(Instr.index 82 (.agg #[qa q.a,qa q.b,qa q.c,qa q.d,qa q.e,qa q.f,qa q.g,qa q.h]) (.int .i64 (k:Int))).run Tryz.prog W=.ok (qa (q.list.getD k 0)) W:=fun W=>
      Mj (P:=Tryz.prog) (t:=82) (q.list.map qa) k (qa (q.list.getD k 0)) W Tryz.underlying82 Tryz.underlying49 OA hlt (SZ q k hlt)
     have i1:(0:Int)≤(k:Int):=by omega
     have i2:(k:Int)<8:=by omega
     have d1:=hC.get (JF o q k hlt);have d2:=hC.frozen k;have HN:=Lib.hid (Rx o q k hlt)
     go_wp2
     go_roundw
     case rel=>
      rw [Vh];refine ⟨k+1,by omega,by go_num,hB.setCell (p:=⟨w.heap.size,k,none⟩) (Xaj _) _,?_,hR.other (by simp) _⟩;have h:=hC.set k (qa (o.list.getD k 0+q.list.getD k 0));rw [HN.out] at h;exact h
     case measure=>simp [intOf];omega
    ·obtain rfl:k=8:=by omega
     have HW:Hid (zi o q 8=zd (Ni o bs)):=by show _=_;rw [HQ.out];rfl
     have HY:Hid ((zi o q 8).length=8):=rfl;have HP:Hid (∀v∈zi o q 8,v.oneCell'=true):=by
      show ∀v∈zi o q 8,v.oneCell'=true;rw [HW.out];intro v hv;obtain ⟨x,_,rfl⟩:=List.mem_map.1 hv;rfl
     generalize zi o q 8=ys at *;have HS2:Hid (ys.toArray.size=8):=by show _=_;rw [List.size_toArray,HY.out]
     have hi:(Tryz.prog.info? 119).map (·.size)=some ys.toArray.size:=by rw [HS2.out];exact Dh
     have hT:wr.there (w.heap.size+2) 0 ys.toArray.size:=by rw [HS2.out];exact hR.there 0 8 (by simp)
     go_wp2_with (first
      |(refine wpList_load_row rfl 119 _ rfl w.heap.size rfl 119 _ (0,0) _ hC Tryz.underlying119 rfl hi ?_)
      |(refine wpList_store_mid rfl 119 _ _ rfl (w.heap.size+2) 0 ys.toArray rfl rfl hT hi (all_oneCell_toArray HP.out) ?_))
     have hD:=hR.setCells (cs:=ys) (o:=0) (by simp [HY.out]);rw [Xb _ _ (by simp [HY.out])] at hD;refine Yi Tryz.results82 (w.heap.size+2) ys 119 rfl hD Tryz.underlying119 rfl (by simpa using hi) rfl ⟨by rw [HW.out],Kd hB (by omega) _ _⟩
theorem Tr (l:List (BitVec 64)) (k:Nat) (hk:k<l.length) (hl:l.length=8):
 Ub ((Ee (l.take k)).map Fa++List.replicate (64-8*k) (Fa 0)) (8*k) ((IF l[k]).map Fa)=(Ee (l.take (k+1))).map Fa++List.replicate (64-8*(k+1)) (Fa 0):=by
 have e:=JA ((Ee (l.take k)).map Fa) (List.replicate (64-8*k) (Fa 0)) [] ((IF l[k]).map Fa) 0 (by rw [Uaj,Mn,List.length_replicate];omega);rw [List.append_nil,List.append_nil,Nat.add_zero,Uaj,Vg,zaj,Nat.min_eq_left (by omega),Uaj,Mn,List.take_zero,List.nil_append,List.drop_replicate] at e;rw [e,Nd l k hk,XK,List.map_append,List.append_assoc];congr 3
theorem Yt:∀w,(zeroValue 74).run Tryz.prog w=.ok (.agg (List.replicate 64 (Fa 0)).toArray) w:=(zero_of_info (P:=Tryz.prog) (t:=74) (v:=.agg (List.replicate 64 (Fa 0)).toArray) (n:=64) (by kernel_rfl)).1
theorem Zt:(Tryz.prog.info? 74).map (·.size)=some 64:=by kernel_rfl
theorem TZ (g l:Nat) (w:World) (h1:l<64):
 (Instr.sliceAt 74 (.pointer (some ⟨g,0,none⟩)) (some (.int .i64 (l:Int))) none none).run Tryz.prog w=.ok (.slice (some ⟨g,l,none⟩) (64-l) (64-l)) w:=by
 obtain ⟨i0,hi0,hs0⟩:=Option.map_eq_some_iff.1 Qc;have h4:(l:Int)≤64:=by omega
 have h5:¬64=l:=by omega
 simp [Instr.sliceAt,Instr.sureAddr,run_underlying Tryz.underlying74,Instr.sliceBounds,run_sliceBound,sizeOf,typeInfo,hi0,hs0,h4,h5,Addr.add];exact fun e=>e.symm
theorem XH (o:Wct) (ls:List Value) (w:World) (hl:ls=zd o):
 Calls Tryz.prog 83 #[.agg ls.toArray] w (gvn (Ca (Ee o.list)) w):=by
 have HL:=Lib.hid hl;have HZ:Hid (ls.length=8):=by show _=_;rw [hl];rfl
 have HS:Hid (ls.toArray.size=8):=by show _=_;rw [List.size_toArray,HZ.out]
 have hil:(Tryz.prog.info? 119).map (·.size)=some ls.toArray.size:=by rw [HS.out];exact Dh
 clear hl;go_enter Tryz.func83,Tryz.ntmps83;go_wp2_with (first
  |(refine Mm rfl 119 _ rfl ls.toArray rfl ?_
    intro w1 hw1;have hB1:Below w.heap.size w w1:=by rw [hw1];exact (Below.refl _ _).alloc (Xaj _) _
    have hC1:Ia w1 w.heap.size ls 119:=by rw [hw1];exact Ia.new w _ _
    have hs1:w1.heap.size=w.heap.size+1:=by rw [hw1];simp
    clear hw1)
  |(refine Ke rfl 74 rfl _ Yt ?_
    first
    |(intro w2 hw2
      have hB2:Below w.heap.size w w2:=by rw [hw2];exact hB1.alloc hB1.size _
      have hC2:Ia w2 w.heap.size ls 119:=by rw [hw2];exact hC1.alloc _
      have hR2:Ia w2 (w.heap.size+1) (List.replicate 64 (Fa 0)) 74:=by rw [hw2,←hs1];exact Ia.new w1 _ _
      have hs2:w2.heap.size=w.heap.size+2:=by rw [hw2];simp [hs1]
      rw [hs1];clear hw2 hB1 hC1)
    |(intro w3 hw3
      have hB3:Below w.heap.size w w3:=by rw [hw3];exact hB2.alloc hB2.size _
      have hC3:Ia w3 w.heap.size ls 119:=by rw [hw3];exact hC2.alloc _
      have hR3:Ia w3 (w.heap.size+1) (List.replicate 64 (Fa 0)) 74:=by rw [hw3];exact hR2.alloc _
      have hD3:Ia w3 (w.heap.size+2) (List.replicate 64 (Fa 0)) 74:=by rw [hw3,←hs2];exact Ia.new w2 _ _
      rw [hs2];clear hw3 hB2 hC2 hR2 hs1 hs2))
  |(refine wpList_load_row rfl 119 _ rfl w.heap.size rfl 119 _ (0,0) _ hC3 Tryz.underlying119 rfl hil ?_))
 clear hC3;have HO:Hid (o.list.length=8):=rfl;have HC:Hid (ls=o.list.map qa):=HL.out;clear HL;generalize hol:o.list=l at *;replace hol:=Lib.hid hol
 go_loopw [7] (fun i wr=>∃k:Nat,k≤8∧i=.int .i64 k∧Below w.heap.size w wr∧Ia wr (w.heap.size+1) (List.replicate 64 (Fa 0)) 74∧Ia wr (w.heap.size+2) ((Ee (l.take k)).map Fa++List.replicate (64-8*k) (Fa 0)) 74) (fun i _=>8-(intOf i).toNat)
 case atStart=>exact ⟨0,Nat.zero_le _,rfl,hB3,hR3,hD3⟩
 case round=>
  clear hB3 hR3 hD3;obtain ⟨k,hk,rfl,hB,hR,hS⟩:=hrel;by_cases hlt:k<8
  ·have hlt2:k<l.length:=by rw [HO.out];exact hlt
   have hix:=Mj (P:=Tryz.prog) (t:=119) ls k (qa l[k]) wr Tryz.underlying119 Tryz.underlying49 OA hlt (by rw [HC.out,List.getElem?_map,xaj hlt2];rfl);have hcut:=TZ (w.heap.size+2) (8*k) wr (by omega);rw [show ((8*k:Nat):Int)=8*(k:Int) by omega] at hcut;have HD:=Lib.hid (Tr l k hlt2 HO.out);have HE:Hid (((Ee (l.take k)).map Fa++List.replicate (64-8*k) (Fa 0)).length=64):=by
    show _=_;rw [qaj,Uaj,Vg,zaj,HO.out,List.length_replicate];omega
   generalize l[k]=x at *;go_wp2_with fail
   refine (Xk (w.heap.size+2) (8*k) _ _ x.toNat _ _ wr hS (by have :=x.isLt;omega) (by omega) (by rw [HE.out];omega)).mono ?_;rintro e w1 ⟨rfl,hB1,hC1⟩
   go_wp2
   go_roundw
   case rel=>
    refine ⟨k+1,by omega,by go_num,hB.trans (hB1.below (by omega) hB.size),hR.but hB1 (by omega),?_⟩;rw [←HD.out];exact hC1
   case measure=>simp [intOf];omega
  ·obtain rfl:k=8:=by omega
   have HV:Hid ((Ee (l.take 8)).map Fa++List.replicate (64-8*8) (Fa 0)=(Ee l).map Fa):=by
    show _=_;rw [Zaj (by rw [HO.out];omega)];simp
   have HW:Hid (((Ee l).map Fa).length=64):=by show _=_;rw [Uaj,Vg,HO.out]
   rw [HV.out] at hS;have HP:Hid (∀v∈(Ee l).map Fa,v.oneCell'=true):=Kg _;generalize hvs:(Ee l).map Fa=vs at *;replace hvs:=Lib.hid hvs;have HS2:Hid (vs.toArray.size=64):=by show _=_;rw [List.size_toArray,HW.out]
   have hi:(Tryz.prog.info? 74).map (·.size)=some vs.toArray.size:=by rw [HS2.out];exact Zt
   have hT:wr.there (w.heap.size+1) 0 vs.toArray.size:=by rw [HS2.out];exact hR.there 0 64 (by simp)
   go_wp2_with (first
    |(refine wpList_load_row rfl 74 _ rfl (w.heap.size+2) rfl 74 _ (0,0) _ hS Tryz.underlying74 rfl hi ?_)
    |(refine wpList_store_mid rfl 74 _ _ rfl (w.heap.size+1) 0 vs.toArray rfl rfl hT hi (all_oneCell_toArray HP.out) ?_))
   have hC:=hR.setCells (cs:=vs) (o:=0) (by simp [HW.out]);rw [Xb _ _ (by simp [HW.out])] at hC;refine Yi Tryz.results83 (w.heap.size+1) vs 74 rfl hC Tryz.underlying74 rfl (by simpa using hi) rfl ⟨by rw [←hvs.out,←hol.out];rfl,Kd hB (by omega) _ _⟩
theorem xK (n:Nat) (w:World) (hn:n≤1000000):
 Calls Tryz.prog 136 #[.int .i64 (n:Int)] w fun e w'=>e=.returned (.int .i64 ((n+(Wc n+16):Nat):Int))∧w=w':=by
 have HE:=Lib.hid (YK n);go_enter Tryz.func136,Tryz.ntmps136
 go_wp2
 go_ret
 refine ⟨Tt ?_,rfl⟩;have :=HE.out;omega
def Eh (p:Nat):List Value:=Fa 128::List.replicate (p+15) (Fa 0)
theorem Bz (p:Nat):(Eh p).length=p+16:=by simp [Eh]
theorem yK (n:Nat):Ub (Ub (Eh (Wc n)) (Wc n) (Ch 0 8)) (Wc n+8) (Ch (8*n) 8)=(Wk n).map Fa:=by
 have hp:=yi n;have hb:∀x,(Ch x 8).length=8:=fun x=>by simp [Ch,Ta]
 have hz:Ch 0 8=List.replicate 8 (Fa 0):=by rfl
 obtain ⟨m,hm⟩:∃m,Wc n=m+1:=⟨Wc n-1,by omega⟩;have e1:(Eh (Wc n)).take (Wc n)=Fa 128::List.replicate (Wc n-1) (Fa 0):=by
  rw [hm,Eh,List.take_succ_cons,List.take_replicate,Nat.min_eq_left (by omega),Nat.add_sub_cancel]
 have e2:(Eh (Wc n)).drop (Wc n+8)=List.replicate 8 (Fa 0):=by
  rw [hm,Eh,show m+1+8=(m+8)+1 by omega,List.drop_succ_cons,List.drop_replicate];congr 1;omega
 have e3:Ub (Eh (Wc n)) (Wc n) (Ch 0 8)=(Fa 128::List.replicate (Wc n-1) (Fa 0)++List.replicate 8 (Fa 0))++List.replicate 8 (Fa 0):=by
  rw [Ub,hb,e1,e2,hz]
 rw [e3];have hl:(Fa 128::List.replicate (Wc n-1) (Fa 0)++List.replicate 8 (Fa 0)).length=Wc n+8:=by simp;omega
 have e4:=JA (Fa 128::List.replicate (Wc n-1) (Fa 0)++List.replicate 8 (Fa 0)) (List.replicate 8 (Fa 0)) [] (Ch (8*n) 8) 0 (by rw [hb];simp);rw [List.append_nil,Nat.add_zero,hl] at e4;rw [e4];simp [Wk,Ch,Ta]
theorem zK (n:Nat) (w:World) (hn:n≤900000):
 Calls Tryz.prog 120 #[.int .i64 (n:Int)] w fun e w'=>e=.returned (.slice (some ⟨w.heap.size,0,none⟩) (Wc n+16) (Wc n+16))∧Below w.heap.size w w'∧Jg w' w.heap.size (Wk n):=by
 have hp:=yi n;have HT:=Lib.hid (yK n);have HW:=Lib.hid (xK n w (by omega));have HLen:=Lib.hid (Bz (Wc n));generalize hpad:Wc n=p at *;replace hpad:=Lib.hid hpad;generalize htt:n+(p+16)=tt at *;generalize hm:p+16=m at *;have hsub:(tt:Int)-(n:Int)=(m:Int):=by omega
 have hsub2:(m:Int)-16=(p:Int):=by omega
 have htt2:tt≤2000000:=by omega
 have hm2:m≤144:=by omega
 have hm3:17≤m:=by omega
 have hp2:p≤m:=by omega
 replace htt:=Lib.hid htt;replace hm:=Lib.hid hm;have hz:n/2305843009213693952=0:=by omega
 have hz2:(n:Int)/2305843009213693952=0:=by omega
 have hz3:(n:Int)*8%18446744073709551616=((8*n:Nat):Int):=by omega
 have HX:Hid (((List.replicate m (0:UInt8)).map Fa).set 0 (Fa 128)=Eh p):=by
  show _=_;rw [←hm.out,List.map_replicate,show p+16=(p+15)+1 by omega,List.replicate_succ,Eh];rfl
 have i1:¬m=p:=by have :=hm.out;omega
 have i2:m-p=16:=by have :=hm.out;omega
 have i3:(0:Int)<(m:Int):=by omega
 go_enter Tryz.func120,Tryz.ntmps120;go_wp2_with fail
 refine HW.out.mono ?_;rintro e w' ⟨rfl,rfl⟩;go_wp2_with (first
  |(refine xV rfl _ _ rfl m m rfl rfl (Xaj _) (by omega) ?_
    intro w1 hB1 hM1 hs1;have hC1:=hM1.cells;have hT1:=hC1.there 0 1 (by rw [Uaj,List.length_replicate];omega))
  |(refine Qb rfl 5 _ _ rfl w.heap.size 0 .u8 128 rfl rfl Qc hT1 ?_
    intro w2 hw2;have hB2:Below w.heap.size w w2:=by rw [hw2];exact hB1.setCell (Xaj _) _
    have hC2:Ia w2 w.heap.size (Eh p) 5:=by rw [hw2,←HX.out];exact hC1.set 0 (Fa 128)
    clear hw2 hB1 hM1 hC1 hT1 hs1)
  |(refine EA rfl _ _ rfl (some ⟨w.heap.size,0,none⟩) m m p rfl rfl hp2 ?_
    rw [yV _ _ _ _ i1,Nat.zero_add,i2]))
 refine (Xk w.heap.size p 16 16 0 _ _ w2 hC2 (by omega) (by omega) (by rw [HLen.out,←hm.out];omega)).mono ?_;rintro e w3 ⟨rfl,hB3,hC3⟩;have hB4:=hB2.trans (hB3.below (Xaj _) hB2.size);clear hB2 hC2 hB3;go_wp2_with fail
 rw [show (n:Int)*8=((8*n:Nat):Int) by omega];refine (Xk w.heap.size (p+8) 8 8 (8*n) _ _ w3 hC3 (by omega) (by omega) (by
  rw [Lj _ _ _ (by rw [HLen.out,←hm.out];simp [Ch,Ta]),HLen.out,←hm.out];omega)).mono ?_
 rintro e w4 ⟨rfl,hB5,hC5⟩;rw [HT.out] at hC5;have hB6:=hB4.trans (hB5.below (Xaj _) hB4.size)
 go_wp2
 go_ret
 exact ⟨rfl,hB6,hC5⟩
end Go.Proofs.YtoggkhjaghkpnaaGreatDoor
