/- Part 3 of what the laws of this seat share: VEnded, WRange, VSeq, VSum, WOrders, WLoops. -/
import Derived.RangeFuncKeeps
import Derived.RangeFuncCalls
import Derived.RangeFuncLeaves
import Derived.TacticsInMore
import Derived.OwnWalkIn
import Derived.LoopNIn
import Derived.LoopIn
import Derived.Shelf.Abstract
import Derived.Deep.RegionHeld
import Derived.RegionTactic
import Derived.StillTail
import Derived.Test.YtoggkhjaghkpnaaGreatDoorPart2
set_option maxRecDepth 100000
set_option maxHeartbeats 8000000
namespace Go.Proofs.YtoggkhjaghkpnaaGreatDoor
open Go.RowKit
def xt (w:World) (G:Nat→Prop) (A:Option Addr) (bs:List UInt8):Prop:=
 bs= []∨∃b off,A=some ⟨b,off,none⟩∧G b∧∀j u,bs[j]? =some u→w.cell? ⟨b,off+j,none⟩=some (Fa u)
def yt (w:World) (G:Nat→Prop) (v:Value) (us:List UInt8):Prop:=∃A c,v=.slice A us.length c∧xt w G A us∧us.length≤c∧c≤maxLen∧(A=none→c=0)
theorem xt.row {w:World} {G:Nat→Prop} {A:Option Addr} {bs:List UInt8} {B:Nat} (h:xt w G A bs) (hG:∀b,G b→b<B):Row w B A bs:=by
 rcases h with rfl|⟨b,off,e,hb,hc⟩
 ·exact .inl rfl
 ·exact .inr ⟨b,off,e,hG b hb,hc⟩
theorem xt.keep {w w':World} {G:Nat→Prop} {A:Option Addr} {bs:List UInt8} (h:xt w G A bs) (hk:∀b,G b→w'.heap[b]? =w.heap[b]?):xt w' G A bs:=by
 rcases h with rfl|⟨b,off,e,hb,hc⟩
 ·exact .inl rfl
 ·exact .inr ⟨b,off,e,hb,fun j u hu=>(World.cell?_of_block (hk b hb)).trans (hc j u hu)⟩
theorem yt.keep {w w':World} {G:Nat→Prop} {v:Value} {us:List UInt8} (h:yt w G v us) (hk:∀b,G b→w'.heap[b]? =w.heap[b]?):yt w' G v us:=by
 obtain ⟨A,c,e,hr,r⟩:=h;exact ⟨A,c,e,hr.keep hk,r⟩
theorem xt.mono {w:World} {G H:Nat→Prop} {A:Option Addr} {bs:List UInt8} (h:xt w G A bs) (hG:∀b,G b→H b):xt w H A bs:=by
 rcases h with rfl|⟨b,off,e,hb,hc⟩
 ·exact .inl rfl
 ·exact .inr ⟨b,off,e,hG b hb,hc⟩
theorem yt.mono {w:World} {G H:Nat→Prop} {v:Value} {us:List UInt8} (h:yt w G v us) (hG:∀b,G b→H b):yt w H v us:=by
 obtain ⟨A,c,e,hr,r⟩:=h;exact ⟨A,c,e,hr.mono hG,r⟩
theorem Row.toG {w:World} {B:Nat} {A:Option Addr} {bs:List UInt8} {G:Nat→Prop} (h:Row w B A bs) (hG:∀b,b<B→G b):xt w G A bs:=by
 rcases h with rfl|⟨b,off,e,hb,hc⟩
 ·exact .inl rfl
 ·exact .inr ⟨b,off,e,hG b hb,hc⟩
theorem Of.toG {w:World} {B:Nat} {v:Value} {us:List UInt8} {G:Nat→Prop} (h:Of w B v us) (hG:∀b,b<B→G b):yt w G v us:=by
 obtain ⟨A,c,e,hr,r⟩:=h;exact ⟨A,c,e,hr.toG hG,r⟩
theorem xf.vals {w:World} {B:Nat} {D:Option Addr} {ps:List (List UInt8)} (h:xf w B D ps):
 ∃vs:List Value,vs.length=ps.length∧(∀(j:Nat) (us:List UInt8) (v:Value),ps[j]? =some us→vs[j]? =some v→Of w B v us)∧(ps= []∨∃b off,D=some ⟨b,off,none⟩∧b<B∧∀(j:Nat) (v:Value),vs[j]? =some v→w.cell? ⟨b,off+j,none⟩=some v):=by
 rcases h with rfl|⟨b,off,rfl,hlt,hc⟩
 ·exact ⟨[],rfl,fun j us v h=>by simp at h,.inl rfl⟩
 ·refine ⟨(List.range ps.length).map fun j=>(w.cell? ⟨b,off+j,none⟩).getD undef,by simp,fun j us v hu hv=>?_,.inr ⟨b,off,rfl,hlt,fun j v hv=>?_⟩⟩
  ·obtain ⟨v',h1,h2⟩:=hc j us hu;have hj:=(List.getElem?_eq_some_iff.1 hu).1;rw [List.getElem?_map,List.getElem?_range hj,Option.map_some,h1] at hv;cases hv
   exact h2
  ·have hj:j<ps.length:=by simpa using (List.getElem?_eq_some_iff.1 hv).1
   obtain ⟨v',h1,h2⟩:=hc j _ (xaj hj);rw [List.getElem?_map,List.getElem?_range hj,Option.map_some,h1] at hv;cases hv
   exact h1
theorem Lz:(Tryz.prog.info? 24).map (fun i=>(i.zero,i.size,i.bytes))=some (some (.slice none 0 0),1,24):=by kernel_rfl
theorem Of.one {w:World} {B:Nat} {v:Value} {us:List UInt8} (h:Of w B v us):v.oneCell'=true:=by
 obtain ⟨A,c,rfl,_⟩:=h;rfl
theorem zP {w w':World} {base n sz:Nat} {e:TypeId} {v:Value} {xs:List Value} (h:w.ownsRow base e sz v n xs) (hb:Below w.heap.size w w'):w'.ownsRow base e sz v n xs:=by
 have hlt:=World.ownsRow.lt h;obtain ⟨h1,h2⟩:=h;refine ⟨h1,?_⟩;rcases h2 with h2|⟨g,cap,cur,hv,hg,hh,r⟩
 ·exact .inl h2
 ·refine .inr ⟨g,cap,cur,hv,hg,?_,r⟩;rw [hb.block g (hlt g (by rw [hv];rfl)).2];exact hh
def Kag (w:World) (B S g:Nat) (ps:List (List UInt8)):Prop:=
 S≤g∧g<w.heap.size∧∀j us,ps[j]? =some us→∃v,w.cell? ⟨g,j,none⟩=some v∧yt w (fun b=>b<B∨(S≤b∧b<w.heap.size)) v us
theorem BW (D:Option Addr) (d n B:Nat) (ps:List (List UInt8)) (w:World) (hl:ps.length=n) (hB:B≤w.heap.size) (hP:xf w B D ps) (hn1:n≤100000) (hn:ps.flatten.length≤900000):
 Calls Tryz.prog 81 #[.slice D n d] w fun e w'=>∃g c,e=.returned (.slice (some ⟨g,0,none⟩) (n+1) c)∧Below w.heap.size w w'∧Kag w' B w.heap.size g (ps++[Wk ps.flatten.length]):=by
 have HL:=Lib.hid hl;obtain ⟨vs,hvl,hvp,hvc⟩:=hP.vals;rw [hl] at hvl;have HV:=Lib.hid hvl;clear hl hvl;obtain ⟨i0,hi0,hz0,hz1,hz2⟩:=info_parts Lz;have HN2:Hid (((n:Int)+1)=((n+1:Nat):Int)):=by show _=_;omega
 have HM:Hid (i0.bytes*(n+1)≤281474976710656):=by show _≤_;rw [hz2];omega
 go_enter Tryz.func81,Tryz.ntmps81;go_wp2_with (first
  |(refine wpList_make_own w rfl _ _ 36 rfl w.heap.size 24 i0 _ 1 Tryz.underlying36 hi0 hz0 hz1 .i64 .i64 _ (n+1) rfl rfl HN2.out HM.out (by simp only [maxLen];omega) (Xaj _) ?_
    intro w1 hO1 hG1;have hB1:Below w.heap.size w w1:=(Below.refl _ _).grown hG1 (Xaj _) (fun k e=>by cases e)))
 go_loopw [3,4,13] (fun v s i wr=>∃k:Nat,k≤n∧i=.int .i64 k∧s=.int .i64 ((ps.take k).flatten.length:Int)∧v=.slice (some ⟨w.heap.size,0,none⟩) k (n+1)∧Below w.heap.size w wr∧wr.ownsRow w.heap.size 24 1 v k (vs.take k)) (fun _ _ i _=>n-(intOf i).toNat)
 case atStart=>exact ⟨0,Nat.zero_le _,rfl,rfl,rfl,hB1,hO1⟩
 case round=>
  clear hB1 hO1 hG1;obtain ⟨k,hk,rfl,rfl,rfl,hBr,hO⟩:=hrel;have hle:=Mf ps k;by_cases hlt:k<n
  ·have hlt2:k<ps.length:=by rw [HL.out];exact hlt
   have hlt3:k<vs.length:=by rw [HV.out];exact hlt
   have HS:=Lib.hid (show (ps.take (k+1)).flatten.length=(ps.take k).flatten.length+ps[k].length by rw [Nd ps k hlt2,List.flatten_append];simp);have HT:=Lib.hid (Nd vs k hlt3);have hle2:=Mf ps (k+1);rw [HS.out] at hle2;obtain ⟨A,c,hvk,_⟩:=hvp k _ _ (xaj hlt2) (xaj hlt3);rcases hvc with rfl|⟨b,off,rfl,hbB,hcell⟩
   ·simp at hlt2
   have hc1:=(hBr.cell (p:=⟨b,off+k,none⟩) (Waj hbB hB)).trans (hcell k _ (xaj hlt3));rw [hvk] at hc1 HT;generalize hps:ps[k].length=m at *;replace hps:=Lib.hid hps;generalize (ps.take k).flatten.length=q at *;have hcell2:∀(j:Nat) (u:Value),[Value.slice A m c][j]? =some u→(wr.alloc (.cells #[.slice A m c] 24)).cell? ((⟨wr.heap.size,0,none⟩:Addr).add j)=some u:=fun j u hu=>by
    match j,hu with
    |0,hu=>
     cases hu
     rw [Go.WideShapes.add_plain,World.cell?_alloc_at _ _ _ _ rfl];rfl
    |j+1,hu=>simp at hu
   have HC:=Lib.hid hcell2;clear hcell2;go_wp2_with (first
    |(at_builtin
      refine wpList_append_fits _ rfl (.tmp 17) (.tmp 19) 36 rfl w.heap.size 24 i0 1 Tryz.underlying36 hi0 hz1 w.heap.size k (n+1) (vs.take k) rfl (World.ownsRow.alloc hO _) ⟨wr.heap.size,0,none⟩ 1 1 [.slice A m c] rfl rfl HC.out (by intro u hu;rw [List.mem_singleton.1 hu];rfl) (by omega) ?_;intro w3 hO3 hG3))
   go_roundw
   case rel=>
    refine ⟨k+1,by omega,by go_num,by rw [HS.out];go_num,rfl,?_,by rw [HT.out];exact hO3⟩;exact (hBr.alloc hBr.size _).grown hG3 (by have :=hBr.size;simp;omega) (fun j e=>by cases e;exact Xaj _)
   case measure=>simp [intOf];omega
  ·obtain rfl:k=n:=by omega
   have e1:ps.take k=ps:=Zaj (by rw [HL.out];omega);have e2:vs.take k=vs:=Zaj (by rw [HV.out];omega);rw [e2] at hO;rw [e1];clear e1 e2 hle;have hown:=(World.ownsRow.lt hO w.heap.size rfl).2;generalize hLL:ps.flatten.length=L at *;replace hLL:=Lib.hid hLL;go_wp2_with fail
   refine (zK L wr hn).mono ?_;rintro e w4 ⟨rfl,hB4,hM4⟩;have hO4:=zP hO hB4;have hB5:=hBr.trans (hB4.mono hBr.size);have hp:=yi L;have HE:=Lib.hid (Sr L);generalize Wc L=p at *;have hcell2:∀(j:Nat) (u:Value),[Value.slice (some ⟨wr.heap.size,0,none⟩) (p+16) (p+16)][j]? =some u→(w4.alloc (.cells #[.slice (some ⟨wr.heap.size,0,none⟩) (p+16) (p+16)] 24)).cell? ((⟨w4.heap.size,0,none⟩:Addr).add j)=some u:=fun j u hu=>by
    match j,hu with
    |0,hu=>
     cases hu
     rw [Go.WideShapes.add_plain,World.cell?_alloc_at _ _ _ _ rfl];rfl
    |j+1,hu=>simp at hu
   have HC:=Lib.hid hcell2;clear hcell2;go_wp2_with (first
    |(at_builtin
      refine wpList_append_fits _ rfl (.tmp 26) (.tmp 29) 36 rfl w.heap.size 24 i0 1 Tryz.underlying36 hi0 hz1 w.heap.size k (k+1) vs rfl (World.ownsRow.alloc hO4 _) ⟨w4.heap.size,0,none⟩ 1 1 [.slice (some ⟨wr.heap.size,0,none⟩) (p+16) (p+16)] rfl rfl HC.out (by intro u hu;rw [List.mem_singleton.1 hu];rfl) (by omega) ?_;intro w5 hO5 hG5))
   go_ret
   have hB6:Below w.heap.size w w5:=(hB5.alloc hB5.size _).grown hG5 (by have :=hB5.size;simp;omega) (fun j e=>by cases e;exact Xaj _);have hz4:=hB4.size;have hz5:=hG5.size;rw [World.size_alloc] at hz5;refine ⟨w.heap.size,k+1,rfl,hB6,Xaj _,(World.ownsRow.lt hO5 w.heap.size rfl).2,fun j us hu=>?_⟩;by_cases hj:j<k
   ·rw [List.getElem?_append_left (by rw [HL.out];exact hj)] at hu;have hj2:j<vs.length:=by rw [HV.out];exact hj
    have hc5:=World.ownsRow.cells hO5 (g:=w.heap.size) rfl j vs[j] (by rw [List.getElem?_append_left hj2,xaj hj2]);rw [Go.WideShapes.add_plain,Nat.zero_add] at hc5;refine ⟨_,hc5,?_⟩;have hq:=(hvp j us _ hu (xaj hj2)).below (hB6.mono hB);exact hq.toG fun b hb=>.inl hb
   ·have hj2:j=k:=by
     have :=(List.getElem?_eq_some_iff.1 hu).1;rw [qaj,HL.out] at this;simp at this;omega
    subst hj2;rw [List.getElem?_append_right (by rw [HL.out];exact Xaj _),HL.out,Nat.sub_self,hLL.out] at hu;cases hu
    have hc5:=World.ownsRow.cells hO5 (g:=w.heap.size) rfl j (.slice (some ⟨wr.heap.size,0,none⟩) (p+16) (p+16)) (by rw [List.getElem?_append_right (by rw [HV.out];exact Xaj _),HV.out];simp);rw [Go.WideShapes.add_plain,Nat.zero_add] at hc5;refine ⟨_,hc5,some ⟨wr.heap.size,0,none⟩,p+16,by rw [HE.out],?_,by rw [HE.out];exact Xaj _,by simp only [maxLen];omega,fun h=>by cases h⟩;have hM5:Jg w5 wr.heap.size (Wk L):=by
     have h:=hG5.block wr.heap.size (by have :=hM4.lt;simp;omega) (by intro e;have e:=Option.some.inj e;omega);exact h.trans ((Below.heap_alloc _ _ _ hM4.lt).trans hM4)
    rcases hM5.row hM5.lt with h0|⟨b,off,e,hb,hc⟩
    ·exact .inl h0
    ·cases e
     exact .inr ⟨wr.heap.size,0,rfl,.inr ⟨by omega,hb⟩,hc⟩
structure Df (T:Nat→Prop) (w w':World):Prop where
 os:w'.os=w.os
 tape:w'.tape=w.tape
 output:w'.output=w.output
 size:w.heap.size≤w'.heap.size
 block:∀k,k<w.heap.size→¬T k→w'.heap[k]? =w.heap[k]?
theorem Df.refl (T:Nat→Prop) (w:World):Df T w w:=⟨rfl,rfl,rfl,Xaj _,fun _ _ _=>rfl⟩
theorem Df.trans {T:Nat→Prop} {a b c:World} (h:Df T a b) (k:Df T b c):Df T a c:=
 ⟨k.os.trans h.os,k.tape.trans h.tape,k.output.trans h.output,Nat.le_trans h.size k.size,fun i hi ht=>(k.block i (Waj hi h.size) ht).trans (h.block i hi ht)⟩
theorem Df.mono {T S:Nat→Prop} {a b:World} (h:Df T a b) (hs:∀k,T k→S k):Df S a b:=⟨h.os,h.tape,h.output,h.size,fun k hk ht=>h.block k hk fun t=>ht (hs k t)⟩
theorem Df.of_below {T:Nat→Prop} {a b:World} (h:Below a.heap.size a b):Df T a b:=⟨h.os,h.tape,h.output,h.size,fun k hk _=>h.block k hk⟩
theorem Df.of_but {T:Nat→Prop} {a b:World} {g:Nat} (h:But g a b) (hg:T g):Df T a b:=⟨h.os,h.tape,h.output,h.size,fun k hk ht=>h.block k hk fun e=>ht (e▸hg)⟩
theorem Df.below {T:Nat→Prop} {a b:World} {B:Nat} (h:Df T a b) (hB:B≤a.heap.size) (hT:∀k,T k→B≤k):Below B a b:=
 ⟨h.os,h.tape,h.output,h.size,fun k hk=>h.block k (Waj hk hB) fun t=>absurd (hT k t) (by omega)⟩
theorem Oi (w:World) (l:Nat) (o:Obj):Df (· =l) w (w.putObj l o):=⟨rfl,rfl,rfl,by simp,fun _ _ hk=>World.putObj_heap_other hk⟩
theorem Ia.turns {T:Nat→Prop} {w w':World} {g:Nat} {vs:List Value} {t:TypeId} (h:Ia w g vs t) (ht:Df T w w') (hg:¬T g):Ia w' g vs t:=(ht.block g h.lt hg).trans h
section
variable {P:Program} {o:Oper} {a:Act} {Q:Exit→Act→World→Prop} {l:Nat}
theorem z7 {next next':Act→World→Prop} (hn:∀a w,next a w→next' a w) (r:Result Next) (h:o.upon P a next Q r):o.uponIn (Fence.wide.inRound l) 0 P a next' Q r:=by
 cases r with
 |ok x w'=>
  cases x with
  |value v=>exact hn _ _ h
  |skip =>exact hn _ _ h
  |defer d=>exact hn _ _ h
  |enter f args=>
   refine ⟨(fun h=>by cases h),CallsIn.inRound l (callsIn_wide.2 (Calls.mono h ?_))⟩;intro e w1 he;cases e with
   |returned v=>exact hn _ _ he
   |panicked c=>exact he
   |outgrown=>exact he
  |row r args=>exact ⟨(fun h=>by cases h),fun c cs _=>let ⟨v,w',r,s⟩:=h c cs;⟨v,w',hn _ _ r,stepsIn_wide.2 s⟩⟩
  |round l f tmps assign body=>exact h.elim
  |_=>exact h.elim
 |halt x w'=>
  cases x with
  |panic v=>exact h
  |_=>exact h.elim
theorem Uv {ops:Array Oper} {rest:List Oper} {w w':World} {a':Act} (hgd:o.guard=none) (h:∀Q0:Exit→Act→World→Prop,Q0 .normal a' w'→wpList P ops Q0 [o] a w) (h2:wpListIn Fence.wide 0 P ops Q rest a' w'):wpListIn Fence.wide 0 P ops Q (o::rest) a w:=by
 refine wpListIn_plain hgd fun K hK=>⟨fun _ _=>trivial,?_⟩;have h1:=h (fun e a'' w''=>e=.normal∧a''=a'∧w''=w') ⟨rfl,rfl,rfl⟩;unfold wpList at h1;rw [if_pos (by simp [Region.wanted,hgd])] at h1;rcases h1 with h1|⟨_,_,_,h1,_⟩
 ·have hn:∀a'' w'',wpList P ops (fun e a'' w''=>e=.normal∧a''=a'∧w''=w') [] a'' w''→K a'' w'':=fun a'' w'' hh=>by
   obtain ⟨_,rfl,rfl⟩:=hh;exact hK _ _ h2
  unfold Oper.wp at h1;show o.uponIn Fence.wide 0 P a K Q ((execOp a.eval o).run P w);revert h1;generalize (execOp a.eval o).run P w=r;intro h1;cases r with
  |ok x w1=>
   cases x with
   |value v=>exact hn _ _ h1
   |skip =>exact hn _ _ h1
   |defer d=>exact hn _ _ h1
   |enter f args=>
    refine ⟨(fun h=>by cases h),callsIn_wide.2 (Calls.mono h1 ?_)⟩;intro e w1 he;cases e with
    |returned v=>exact hn _ _ he
    |panicked c=>cases he.1
    |outgrown=>
     obtain ⟨_,_,he,_⟩:=he;cases he
   |row r args=>exact ⟨(fun h=>by cases h),fun c cs _=>let ⟨v,w',r,s⟩:=h1 c cs;⟨v,w',hn _ _ r,stepsIn_wide.2 s⟩⟩
   |round l f tmps assign body=>exact h1.elim
   |_=>exact h1.elim
  |halt x w1=>
   cases x with
   |panic v=>cases h1.1
   |_=>exact h1.elim
 ·cases h1
theorem YH {ops:Array Oper} (hQ:¬LetsOut Q):∀(rest:List Oper) (a:Act) (w:World),(∀o∈rest,∀c,o.op≠.defer c)→wpList P ops Q rest a w→wpListIn (Fence.wide.inRound l) 0 P ops Q rest a w
 | [],_,_,_,h=>h
 |o::rest,a,w,hd,h=>by
  unfold wpList at h;unfold wpListIn
  split at h
  ·next hw=>
   rw [if_pos hw];rcases h with h|h
   ·refine ⟨fun _ _=>trivial,?_⟩;rw [show (Fence.wide.inRound l).round=some l from rfl,Oper.semAt_some l _ _ (hd o List.mem_cons_self)];exact z7 (fun a w hh=>YH hQ rest a w (fun o ho=>hd o (List.mem_cons_of_mem _ ho)) hh) _ h
   ·exact absurd h.2 hQ
  ·next hw=>
   rw [if_neg hw];exact ⟨fun _ _=>trivial,YH hQ rest _ w (fun o ho=>hd o (List.mem_cons_of_mem _ ho)) h⟩
theorem KF {id:Nat} {ops:List Oper} {w:World} (hQ:¬LetsOut Q) (hd:∀o∈ops,∀c,o.op≠.defer c) (h:wpList P ops.toArray Q ops a w):(Code.region id ops.toArray false).wpIn (Fence.wide.inRound l) 0 P Q a w:=
 wpIn_region_lit (YH hQ ops a w hd h)
theorem DW (t:Array Value) (p:Tmp) (v:Value):(#[p].zip #[v]).foldl (fun t (p,v)=>t.setIfInBounds p v) t=t.setIfInBounds p v:=by simp
def NU (T:Nat→Prop) (I:Nat→World→Prop) (k:Nat) (W:World):Exit→Act→World→Prop
 |.normal,_,W'=>Df T W W'∧I k W'
 |_,_,_=>False
def UZ (P:Program) (gf:Nat) (lb:Array Value) (N:Nat) (arg:Nat→Array Value) (T:Nat→Prop) (w:World):Prop:=
 ∀(l:Nat) (J:Nat→World→Prop) (W1:World),Below w.heap.size w W1→w.heap.size≤l→l<W1.heap.size→(∀k W W',J k W→Below W1.heap.size W W'→J k W')→
  (∀k W,k<N→J k W→W1.heap.size≤W.heap.size→YieldAt Fence.wide 0 P l (arg k) W fun e W'=>e=.returned (.bool true)∧J (k+1) W'∧Df (fun b=>T b∨b=l) W W')→J 0 W1→
  CallsIn Fence.wide 0 P gf (#[.func (.yield l) #[] #[]]++lb) W1 fun e W'=>(∃v,e=.returned v)∧J N W'
theorem Vv {g:Operand} {ps:Array Tmp} {assign body:Code} {w:World} {gf:Nat} {lb:Array Value} (hg:a.eval g=.func (.func gf) #[] lb) (eg:∀args w,(callFunc gf args).run P w=.ok (.enter gf args) w)
 {N:Nat} {arg:Nat→Array Value} {T:Nat→Prop} (hseq:UZ P gf lb N arg T w) (hps:∀k,(arg k).size=ps.size) (hT:∀k,T k→k<w.heap.size)
 (I:Nat→World→Prop) (hI:∀k W W',I k W→Below w.heap.size W W'→I k W') (h0:I 0 w)
 (hround:∀(l k:Nat) (W:World),k<N→w.heap.size≤l→l<W.heap.size→I k W→
  assign.wpIn (Fence.wide.inRound l) 0 P (Exit.then (fun a₁ W₁=>Below W.heap.size W W₁∧∀W₂,Df (· =l) W₁ W₂→I k W₂→body.wpIn (Fence.wide.inRound l) 0 P (NU T I (k+1) W₂) a₁ W₂) (fun _ _ _=>False))
   {tmps:=(ps.zip (arg k)).foldl (fun t (p,v)=>t.setIfInBounds p v) a.tmps,defers:=[]} W)
 (hdone:∀W,I N W→w.heap.size<W.heap.size→W.heap[w.heap.size]? =some (.deferred (some []))→Q .normal {a with defers:= {target:=.collected w.heap.size,args:=#[]}::a.defers} W):
 (Code.rangeFunc g ps assign body).wp P Q a w:=by
 refine (wpIn_wide (n:=0)).1 (wpIn_rangeFunc ?_);intro fn hfn;show ∃_ _ _ _ _ _ _ _,(Instr.enterLoop fn a.tmps ps assign body none).run P w=_∧_;obtain ⟨rec,hrec⟩:∃rec:LoopState→Option Code→Loop,rec=fun st pe=> {state:=st,pending:=pe,fn,tmps:=a.tmps,params:=ps,assign,body,defers:=w.heap.size}:=⟨_,rfl⟩;obtain ⟨W1,hW1⟩:∃W1,(w.alloc (.deferred (some []))).alloc (.loop (rec .ready none))=W1:=⟨_,rfl⟩;have hb1:Below w.heap.size w W1:=by rw [←hW1];exact ((Below.refl _ w).alloc (Xaj _) _).alloc (by simp) _
 have hs1:W1.heap.size=w.heap.size+2:=by rw [←hW1];simp
 have hL1:W1.heap[w.heap.size+1]? =some (.loop (rec .ready none)):=by
  rw [←hW1];have :=World.alloc_heap_new (w.alloc (.deferred (some []))) (.loop (rec .ready none));rwa [World.size_alloc] at this
 have hK1:W1.heap[w.heap.size]? =some (.deferred (some [])):=by
  rw [←hW1];exact (Below.heap_alloc _ _ _ (by simp)).trans (World.alloc_heap_new w _)
 refine ⟨w.heap.size+1,[{target:=.collected w.heap.size,args:=#[]}],W1,{target:=.fn (.func gf) lb,args:=#[.func (.yield (w.heap.size+1)) #[] #[]]},W1,gf,
  #[.func (.yield (w.heap.size+1)) #[] #[]]++lb,W1,?_,?_,fun _ _=>trivial,?_,(fun h=>by cases h),?_⟩
 ·rw [←hW1,hrec];exact run_enterLoop_outer _ _ _ _ _
 ·simp only [resolve,hg];simp [go_sem]
 ·simp [invoke,go_sem,eg]
 refine (hseq (w.heap.size+1) (fun k W=>I k W∧W1.heap.size≤W.heap.size∧W.heap[w.heap.size+1]? =some (.loop (rec .ready none))∧W.heap[w.heap.size]? =some (.deferred (some []))) W1 hb1 (by omega) (by omega)
  (fun k W W' h hb=>⟨hI k W W' h.1 (hb.mono (by omega)),Nat.le_trans h.2.1 hb.size,(hb.block _ (by omega)).trans h.2.2.1,(hb.block _ (by omega)).trans h.2.2.2⟩) ?_ ⟨hI 0 w W1 h0 hb1,Xaj _,hL1,hK1⟩).mono ?_
 ·rintro k W hk ⟨hi,hsz,hl,hd⟩ _;have hlt:w.heap.size+1<W.heap.size:=Ll hl;have hy:=run_yield (P:=P) (args:=arg k) hl (by rw [hrec];exact hps k);rw [hrec] at hy;refine ⟨fn,_,assign,body,hy,roundIn_of_wpIn hfn (wpIn_mono (hround (w.heap.size+1) k W hk (by omega) hlt hi) ?_)⟩;intro e a₁ W₁ he;cases e with
  |normal=>
   obtain ⟨hbW,hbody⟩:=he;have hl1:W₁.heap[w.heap.size+1]? =some (.loop (rec .ready none)):=(hbW.block _ hlt).trans hl;have hd1:W₁.heap[w.heap.size]? =some (.deferred (some [])):=(hbW.block _ (by omega)).trans hd;have hlt1:w.heap.size+1<W₁.heap.size:=Ll hl1;refine ⟨_,run_beginRound hl1 (by rw [hrec]),?_⟩;have ht2:=Oi W₁ (w.heap.size+1) (.loop {rec .ready none with state:=.busy});have hl2:(W₁.putObj (w.heap.size+1) (.loop {rec .ready none with state:=.busy})).heap[w.heap.size+1]? =some (.loop {rec .ready none with state:=.busy}):=World.putObj_heap_same hlt1;have hd2:(W₁.putObj (w.heap.size+1) (.loop {rec .ready none with state:=.busy})).heap[w.heap.size]? =some (.deferred (some [])):=(World.putObj_heap_other (by omega)).trans hd1;have hi2:I k (W₁.putObj (w.heap.size+1) (.loop {rec .ready none with state:=.busy})):=
    hI k _ _ (hI k W W₁ hi (hbW.mono (by omega))) (ht2.below (by omega) (fun j e=>by omega))
   refine wpIn_mono (hbody _ ht2 hi2) ?_;generalize W₁.putObj (w.heap.size+1) (.loop {rec .ready none with state:=.busy})=W₂ at *;intro e a₃ W₃ hp;cases e with
   |normal=>
    obtain ⟨ht3,hi3⟩:=hp;have hnl:¬T (w.heap.size+1):=fun h=>absurd (hT _ h) (by omega);have hnd:¬T w.heap.size:=fun h=>absurd (hT _ h) (by omega);have hl3:=(ht3.block _ (Ll hl2) hnl).trans hl2;have hd3:=(ht3.block _ (Ll hd2) hnd).trans hd2;have hend:=run_endRound (P:=P) none hl3;have ht4:=Oi W₃ (w.heap.size+1) (.loop (rec .ready none));have hlt3:=Ll hl3;refine ⟨_,_,hend,rfl,⟨?_,?_,?_,?_⟩,?_⟩
    ·have :=hI (k+1) _ _ hi3 (ht4.below (B:=w.heap.size) (by omega) (fun j e=>by omega));rw [hrec] at this ⊢;exact this
    ·have h1:=hbW.size;have h2:=ht2.size;have h3:=ht3.size;rw [World.putObj_size];omega
    ·rw [World.putObj_heap_same hlt3,hrec];rfl
    ·exact (World.putObj_heap_other (by omega)).trans hd3
    ·have t1:Df (fun b=>T b∨b=w.heap.size+1) W W₁:=Df.of_below hbW;have t2:Df (fun b=>T b∨b=w.heap.size+1) W₁ W₂:=ht2.mono fun _ e=>.inr e;have t3:Df (fun b=>T b∨b=w.heap.size+1) W₂ W₃:=ht3.mono fun _ e=>.inl e;exact ((t1.trans t2).trans t3).trans ((Oi W₃ (w.heap.size+1) _).mono fun _ e=>.inr e)
   |exit id=>exact hp.elim
   |goto t=>exact hp.elim
   |ret=>exact hp.elim
   |panic ch=>exact hp.elim
   |outgrown=>exact hp.elim
  |exit id=>exact he.elim
  |goto t=>exact he.elim
  |ret=>exact he.elim
  |panic ch=>exact he.elim
  |outgrown=>exact he.elim
 ·rintro e W2 ⟨⟨v,rfl⟩,hi,hsz,hl,hd⟩;have hlt:=Ll hl;refine ⟨none,_,by have :=run_endLoop (P:=P) hl (by rw [hrec];simp);rw [hrec] at this;exact this,hdone _ (hI N _ _ hi ((Oi W2 (w.heap.size+1) _).below (by omega) (fun j e=>by omega))) (by rw [World.putObj_size];omega) ((World.putObj_heap_other (by omega)).trans hd)⟩
end
theorem qP (g l:Nat) (w:World) (h1:l<128):
 (Instr.sliceAt 125 (.pointer (some ⟨g,0,none⟩)) (some (.int .i64 (l:Int))) none none).run Tryz.prog w=.ok (.slice (some ⟨g,l,none⟩) (128-l) (128-l)) w:=by
 obtain ⟨i0,hi0,hs0⟩:=Option.map_eq_some_iff.1 Qc;have h4:(l:Int)≤128:=by omega
 have h5:¬128=l:=by omega
 simp [Instr.sliceAt,Instr.sureAddr,run_underlying Tryz.underlying125,Instr.sliceBounds,run_sliceBound,sizeOf,typeInfo,hi0,hs0,h4,h5,Addr.add];exact fun e=>e.symm
theorem xt.cut {w:World} {G:Nat→Prop} {A:Option Addr} {us:List UInt8} (h:xt w G A us) (l cap:Nat) (hl:us.length≤cap):xt w G (Zi A l cap) (us.drop l):=by
 unfold Zi
 split
 ·exact .inl (List.drop_eq_nil_of_le (by omega))
 ·rcases h with rfl|⟨b,off,rfl,hb,hc⟩
  ·exact .inl (by simp)
  ·refine .inr ⟨b,off+l,by simp [Addr.add_mid],hb,fun j u hu=>?_⟩;rw [List.getElem?_drop] at hu;rw [Nat.add_assoc];exact hc (l+j) u hu
def LF (ms rest:List UInt8) (c:Nat):Prop:=rest.length=128∧rest.take (c%128)=(ms.drop (128*(c/128))).take (c%128)
theorem MF {ms rest us:List UInt8} {c q:Nat} (h:LF ms rest c) (hu:us.take q=(ms.drop c).take q) (hq:us.length=q∨q≤us.length) (hl:c%128+q≤128):
 (Nj rest (us.take q) (c%128)).length=128∧(Nj rest (us.take q) (c%128)).take (c%128+q)=(ms.drop (128*(c/128))).take (c%128+q):=by
 have hlen:(us.take q).length=q:=by rw [zaj];omega
 refine ⟨by rw [IA _ _ _ (by rw [hlen,h.1];exact hl)];exact h.1,?_⟩;have e:=RH rest (us.take q) (c%128) (by rw [hlen,h.1];exact hl);rw [hlen] at e;rw [e,h.2,hu,List.take_add,List.drop_drop,show 128*(c/128)+c%128=c by omega]
theorem AQ {ms rest us:List UInt8} {c q:Nat} (h:LF ms rest c) (hu:us.take q=(ms.drop c).take q) (hq:q≤us.length) (hl:c%128+q<128):LF ms (Nj rest (us.take q) (c%128)) (c+q):=by
 obtain ⟨h1,h2⟩:=MF h hu (.inr hq) (by omega);refine ⟨h1,?_⟩;rw [show (c+q)%128=c%128+q by omega,show (c+q)/128=c/128 by omega];exact h2
theorem BQ {ms rest us:List UInt8} {c q:Nat} (h:LF ms rest c) (hu:us.take q=(ms.drop c).take q) (hq:q≤us.length) (hl:c%128+q=128):Nj rest (us.take q) (c%128)=(ms.drop (128*(c/128))).take 128:=by
 obtain ⟨h1,h2⟩:=MF h hu (.inr hq) (by omega);rw [hl,Zaj (by omega)] at h2;exact h2
theorem NF {ms rest:List UInt8} {c:Nat} (h:rest.length=128) (hc:c%128=0):LF ms rest c:=⟨h,by rw [hc];simp⟩
theorem Sx (rest us:List UInt8) (h:Nat):Ub (rest.map Fa) h (us.map Fa)=(Nj rest us h).map Fa:=by
 simp [Ub,Nj,List.map_take,List.map_drop]
def TA (w:World) (G:Nat→Prop) (g:Nat) (ps:List (List UInt8)):Prop:=G g∧∀j us,ps[j]? =some us→∃v,w.cell? ⟨g,j,none⟩=some v∧yt w G v us
theorem TA.keep {w w':World} {G:Nat→Prop} {g:Nat} {ps:List (List UInt8)} (h:TA w G g ps) (hk:∀b,G b→w'.heap[b]? =w.heap[b]?):TA w' G g ps:=
 ⟨h.1,fun j us hu=>by
  obtain ⟨v,h1,h2⟩:=h.2 j us hu;exact ⟨v,(World.cell?_of_block (hk g h.1)).trans h1,h2.keep hk⟩⟩
def qK (ms:List UInt8) (k:Nat):Array Value:=#[Ca ((ms.drop (128*k)).take 128)]
def VZ (T:Nat→Prop) (l:Nat) (J:Nat→World→Prop) (W1:World) (ms:List UInt8) (wr:World) (c:Nat):Prop:=
 ∃rest,LF ms rest c∧Ia wr W1.heap.size (rest.map Fa) 125∧J (c/128) wr∧Df (fun b=>(T b∨b=l)∨b=W1.heap.size) W1 wr
theorem AL (Bp g n c0 N:Nat) (ps:List (List UInt8)) (T:Nat→Prop) (w:World) (hl:ps.length=n) (hn1:n≤1000000) (hm:ps.flatten.length=128*N) (hT:∀k,T k→k<w.heap.size) (hBp:Bp<w.heap.size)
 (hb:w.cell? ⟨Bp,0,none⟩=some (.slice (some ⟨g,0,none⟩) n c0)) (hP:TA w (fun b=>b<w.heap.size∧¬T b) g ps):
 UZ Tryz.prog 119 #[.pointer (some ⟨Bp,0,none⟩)] N (qK ps.flatten) T w:=by
 intro l J W1 hb1 hl1 hl2 hJ hY hJ0;have HL:=Lib.hid hl;have HM:=Lib.hid hm;generalize hms:ps.flatten=ms at *;replace hms:=Lib.hid hms;clear hl hm;have hcp:W1.cell? ⟨Bp,0,none⟩=some (.slice (some ⟨g,0,none⟩) n c0):=(hb1.cell (p:=⟨Bp,0,none⟩) hBp).trans hb;have hP1:=hP.keep (w':=W1) fun b hb=>hb1.block b hb.1;clear hP hb;refine callsIn_of_wp Tryz.func119 rfl trivial ?_ rfl;simp only [Tryz.ntmps119,List.size_toArray,List.length_cons,List.length_nil,Nat.reduceAdd,Nat.reduceSub,Array.replicate_succ,Array.replicate_zero,List.push_toArray,List.append_toArray,List.nil_append,List.cons_append]
 gi_wp2_with (refine Uv rfl (fun Q0 hQ0=>Ke rfl 125 rfl _ RA (fun w' hw'=>by subst hw';exact hQ0)) ?_
              have hC2:=Ia.new W1 (List.replicate 128 (Fa 0)).toArray 125;have hB2:Below W1.heap.size W1 (W1.alloc (.cells (List.replicate 128 (Fa 0)).toArray 125)):=(Below.refl _ _).alloc (Xaj _) _;generalize W1.alloc (.cells (List.replicate 128 (Fa 0)).toArray 125)=W2 at *;have hcp2:=(hB2.cell (p:=⟨Bp,0,none⟩) (by show Bp<_;omega)).trans hcp)
 have hst:VZ T l J W1 ms W2 0:=⟨List.replicate 128 0,NF (by simp) rfl,by rw [List.map_replicate];exact hC2,hJ _ _ _ hJ0 hB2,Df.of_below hB2⟩;clear hC2 hB2 hcp2 hJ0;have hkeep:∀wr,Df (fun b=>(T b∨b=l)∨b=W1.heap.size) W1 wr→∀b,(b<w.heap.size∧¬T b)→wr.heap[b]? =W1.heap[b]? :=fun wr ht b hb=>ht.block b (by omega) (by
  rintro ((h|h)|h)
  ·exact hb.2 h
  ·omega
  ·omega)
 have HKP:=Lib.hid hkeep;clear hkeep
 gi_loopw [4,10] (fun h i wr=>∃k:Nat,k≤n∧i=.int .i64 k∧h=.int .i64 (((ps.take k).flatten.length%128:Nat):Int)∧VZ T l J W1 ms wr (ps.take k).flatten.length) (fun _ i _=>n-(intOf i).toNat)
 case atStart=>exact ⟨0,Nat.zero_le _,rfl,rfl,hst⟩
 case round=>
  clear hst;obtain ⟨k,hk,rfl,rfl,hst⟩:=hrel;by_cases hlt:k<n
  ·have hlt2:k<ps.length:=by rw [HL.out];exact hlt
   obtain ⟨v,hc1,A,cap,rfl,hrow,hcap1,hcap2,hA⟩:=hP1.2 k _ (xaj hlt2);have HE:=Lib.hid (show (ps.take (k+1)).flatten.length=(ps.take k).flatten.length+ps[k].length by rw [Nd ps k hlt2,List.flatten_append];simp);have hle2:=Mf ps (k+1);rw [hms.out,HM.out] at hle2;have hus:ps[k]=(ms.drop (ps.take k).flatten.length).take ps[k].length:=by
    rw [←hms.out]
    conv=>rhs;arg 2;arg 2;rw [←List.take_append_drop k ps,List.flatten_append]
    rw [List.drop_left,List.drop_eq_getElem_cons hlt2,List.flatten_cons,List.take_left]
   have hc2:wr.cell? ⟨g,k,none⟩=some (.slice A ps[k].length cap):=by
    obtain ⟨rest,_,_,_,ht⟩:=hst;exact (World.cell?_of_block (HKP.out wr ht g hP1.1)).trans hc1
   rw [HE.out] at hle2;generalize hEE:(ps.take (k+1)).flatten.length=ee at *;replace hEE:=Lib.hid hEE;generalize (ps.take k).flatten.length=c at *;generalize ps[k]=us at *;generalize hul:us.length=m at *;have i1:(0:Int)≤(k:Int):=by omega
   have i2:(k:Int)<(n:Int):=by omega
   have HU:=Lib.hid hus;have HUL:=Lib.hid hul;clear hus hul hc1
   gi_wp2
   gi_loopw [4,6] (fun h p wr=>∃(c m cap:Nat) (A:Option Addr) (us:List UInt8),h=.int .i64 ((c%128:Nat):Int)∧p=.slice A m cap∧us.length=m∧m≤cap∧cap≤maxLen∧xt W1 (fun b=>b<w.heap.size∧¬T b) A us∧c+m=ee∧us=(ms.drop c).take m∧VZ T l J W1 ms wr c) (fun _ p _=>lenOf p)
   case atStart=>exact ⟨c,m,cap,A,us,rfl,rfl,HUL.out,hcap1,hcap2,hrow,HE.out.symm,HU.out,hst⟩
   case round=>
    have hee:ee≤128*N:=by have :=HE.out;omega
    clear hst hc2 hrow hcap1 hcap2 hA hle2 HE HU HUL;obtain ⟨c,m,cap,A,us,rfl,rfl,hul,hcap1,hcap2,hrow,hce,hus,rest,hw,hC,hj,ht⟩:=hrel;have HU:=Lib.hid hus;have HUL:=Lib.hid hul;have HCE:=Lib.hid hce;have HW:=Lib.hid hw;have hrl:=hw.1;have HRL:=Lib.hid hrl;have hh128:c%128<128:=Nat.mod_lt _ (by omega);clear hus hul hce hw hrl;by_cases hm0:0<m
    ·have hcut:=qP W1.heap.size (c%128) wr hh128;obtain ⟨q,hq⟩:∃q,min m (128-c%128)=q:=⟨_,rfl⟩;have hq1:q≤m:=by omega
     have hq2:c%128+q≤128:=by omega
     have hq3:0<q:=by omega
     have HQ:=Lib.hid hq;have HT1:Hid (us.take (128-c%128)=us.take q):=by
      show _=_;have :=HUL.out;rcases Nat.lt_or_ge m (128-c%128) with h|h
      ·rw [Zaj (by omega),Zaj (by omega)]
      ·rw [show q=128-c%128 by omega]
     have HT2:Hid (us.take q=(ms.drop c).take q):=by show _=_;rw [HU.out,List.take_take,Nat.min_eq_left hq1]
     have hthere:wr.there W1.heap.size (c%128) q:=hC.there _ _ (by rw [Uaj,HRL.out];exact hq2);have hrow2:=(hrow.keep (w':=wr) (HKP.out wr ht)).row (B:=W1.heap.size) (fun b hb=>Waj hb.1 hb1.size);have m1:(0:Int)<(m:Int):=by omega
     clear hq;by_cases hf:c%128+q<128
     ·have HW2:=Lib.hid (AQ HW.out HT2.out (by rw [HUL.out];exact hq1) hf);have e1:(c+q)%128=c%128+q:=by omega
      have e2:(c+q)/128=c/128:=by omega
      have HE1:=Lib.hid e1;have HE2:=Lib.hid e2;clear e1 e2;generalize hhd:c%128=h at *;have f1:(h:Int)+(q:Int)<128:=by omega
      gi_wp2_with (first
       |(refine Uv rfl (fun Q0 hQ0=>Yo rfl (.tmp 18) (.tmp 19) rfl W1.heap.size h (128-h) (128-h) m cap W1.heap.size q A us rfl rfl HUL.out HQ.out hrow2 hthere (fun w' hw'=>by subst hw';exact hQ0)) ?_
         rw [HT1.out];have hB3:But W1.heap.size wr (wr.setCells W1.heap.size h ((us.take q).map Fa)):=(But.refl _ _).setCells _ _;have hC3:=hC.setCells (cs:=(us.take q).map Fa) (o:=h) (by rw [Uaj,Uaj,zaj,HUL.out,HRL.out];omega);rw [Sx] at hC3;generalize wr.setCells W1.heap.size h ((us.take q).map Fa)=w3 at *)
       |(refine Uv rfl (fun Q0 hQ0=>EA rfl (.tmp 21) (.tmp 22) rfl A m cap q rfl rfl hq1 hQ0) ?_))
      go_roundw
      case rel=>
       refine ⟨c+q,m-q,cap-q,Zi A q cap,us.drop q,by rw [HE1.out];go_num,rfl,by rw [List.length_drop,HUL.out],by omega,by omega,hrow.cut q cap (by rw [HUL.out];exact hcap1),by have :=HCE.out;omega,?_,?_⟩
       ·rw [HU.out,List.drop_take,List.drop_drop]
       ·refine ⟨_,HW2.out,hC3,?_,ht.trans (Df.of_but hB3 (.inr rfl))⟩;rw [HE2.out];exact hJ _ _ _ hj (hB3.below (Xaj _) ht.size)
      case measure=>simp only [lenOf];omega
     ·have hf2:c%128+q=128:=by omega
      have HB:=Lib.hid (BQ HW.out HT2.out (by rw [HUL.out];exact hq1) hf2);have e1:(c+q)%128=0:=by omega
      have e2:(c+q)/128=c/128+1:=by omega
      have HE1:=Lib.hid e1;have HE2:=Lib.hid e2;have hkN:c/128<N:=by have :=HCE.out;omega
      have HBL:Hid (((ms.drop (128*(c/128))).take 128).length=128):=by
       show _=_;rw [zaj,List.length_drop,HM.out];omega
      have HY:Hid (∀W,J (c/128) W→W1.heap.size≤W.heap.size→YieldAt Fence.wide 0 Tryz.prog l #[.agg (((ms.drop (128*(c/128))).take 128).map Fa).toArray] W fun e W'=>e=.returned (.bool true)∧J (c/128+1) W'∧Df (fun b=>T b∨b=l) W W'):=fun W h1 h2=>hY (c/128) W hkN h1 h2;clear e1 e2 hkN hf;generalize hhd:c%128=h at *;generalize hbk:(ms.drop (128*(c/128))).take 128=bk at *;have HX:Hid ((bk.map Fa).toArray.size=128):=by show _=_;rw [List.size_toArray,Uaj,HBL.out]
      have hi:(Tryz.prog.info? 125).map (·.size)=some (bk.map Fa).toArray.size:=by rw [HX.out];exact Js
      have f1:(h:Int)+(q:Int)=128:=by omega
      replace hbk:=Lib.hid hbk;replace hhd:=Lib.hid hhd
      gi_wp2_with (first
       |(refine Uv rfl (fun Q0 hQ0=>Yo rfl (.tmp 18) (.tmp 19) rfl W1.heap.size h (128-h) (128-h) m cap W1.heap.size q A us rfl rfl HUL.out HQ.out hrow2 hthere (fun w' hw'=>by subst hw';exact hQ0)) ?_
         rw [HT1.out];have hB3:But W1.heap.size wr (wr.setCells W1.heap.size h ((us.take q).map Fa)):=(But.refl _ _).setCells _ _;have hC3:=hC.setCells (cs:=(us.take q).map Fa) (o:=h) (by rw [Uaj,Uaj,zaj,HUL.out,HRL.out];omega);rw [Sx,HB.out] at hC3;generalize wr.setCells W1.heap.size h ((us.take q).map Fa)=w3 at *;generalize hvs:bk.map Fa=vs at *;have hj3:=hJ _ _ _ hj (hB3.below (Xaj _) ht.size);obtain ⟨fn,tmps,assign,body,hy,hR⟩:=HY.out w3 hj3 (Nat.le_trans ht.size hB3.size);replace hvs:=Lib.hid hvs)
       |(refine Uv rfl (fun Q0 hQ0=>EA rfl (.tmp 21) (.tmp 22) rfl A m cap q rfl rfl hq1 hQ0) ?_)
       |(refine Uv rfl (fun Q0 hQ0=>wpList_load_row rfl 125 _ rfl W1.heap.size rfl 125 _ (0,0) _ hC3 Tryz.underlying125 rfl hi hQ0) ?_))
      refine ⟨rfl,hR.mono ?_⟩;rintro e w4 ⟨rfl,hj4,ht4⟩
      gi_wp2
      go_roundw
      case rel=>
       refine ⟨c+q,m-q,cap-q,Zi A q cap,us.drop q,by rw [HE1.out];rfl,rfl,by rw [List.length_drop,HUL.out],by omega,by omega,hrow.cut q cap (by rw [HUL.out];exact hcap1),by have :=HCE.out;omega,?_,?_⟩
       ·rw [HU.out,List.drop_take,List.drop_drop]
       ·refine ⟨bk,NF HBL.out HE1.out,?_,?_,?_⟩
        ·rw [hvs.out];exact hC3.turns ht4 (by
          rintro (h|h)
          ·have :=hT _ h;have :=hb1.size;omega
          ·omega)
        ·rw [HE2.out];exact hj4
        ·exact (ht.trans (Df.of_but hB3 (.inr rfl))).trans (ht4.mono fun _ h=>.inl h)
      case measure=>simp only [lenOf];omega
    ·obtain rfl:m=0:=by omega
     have hcc:c=ee:=by have :=HCE.out;omega
     gi_wp2
     go_roundw
     case rel=>exact ⟨k+1,by omega,by go_num,by rw [hEE.out,hcc],by rw [hEE.out,←hcc];exact ⟨rest,HW.out,hC,hj,ht⟩⟩
     case measure=>simp [intOf];omega
  ·obtain rfl:k=n:=by omega
   have e1:ps.take k=ps:=Zaj (by rw [HL.out];omega);rw [e1,hms.out,HM.out] at hst
   gi_wp2
   go_end0
   obtain ⟨rest,_,_,hj,_⟩:=hst;rw [Nat.mul_div_cancel_left _ (by omega:0<128)] at hj;exact ⟨⟨_,rfl⟩,hj⟩
end Go.Proofs.YtoggkhjaghkpnaaGreatDoor
namespace Go.Proofs.YtoggkhjaghkpnaaGreatDoor
open Go.RowKit Go.Shelf
theorem DQ (v:Value) (A:Option Addr) (n c:Nat) (w:World) (hv:v=.slice A n c):
 Calls Tryz.prog 80 #[v] w fun e w'=>e=.returned (.func (.func 119) #[] #[.pointer (some ⟨w.heap.size,0,none⟩)])∧Below w.heap.size w w'∧w'.cell? ⟨w.heap.size,0,none⟩=some v∧w'.heap.size=w.heap.size+1:=by
 subst hv;have HC:=Lib.hid (Ia.new w #[.slice A n c] 36);have HB:Hid (Below w.heap.size w (w.alloc (.cells #[.slice A n c] 36))):=(Below.refl _ _).alloc (Xaj _) _;have HS:Hid ((w.alloc (.cells #[.slice A n c] 36)).heap.size=w.heap.size+1):=by show _=_;simp
 go_enter Tryz.func80,Tryz.ntmps80
 go_wp2
 go_ret
 exact ⟨rfl,HB.out,HC.out.get rfl,HS.out⟩
def Ur (w:World) (ms:List UInt8) (k:Nat) (W:World):Prop:=
 Below w.heap.size w W∧Yh W∧Ia W w.heap.size (List.replicate 64 (Fa 0)) 74∧Ia W (w.heap.size+1) (zd (Xd ms k)) 119
theorem Ur.start {w W:World} {ms:List UInt8} (h1:Below w.heap.size w W) (h2:Yh W) (h3:Ia W w.heap.size (List.replicate 64 (Fa 0)) 74) (h4:Ia W (w.heap.size+1) (zd Cf) 119):Ur w ms 0 W:=
 ⟨h1,h2,h3,by unfold Xd;exact h4⟩
theorem Ur.next {w W:World} {ms:List UInt8} {k:Nat} (h1:Below w.heap.size w W) (h2:Yh W) (h3:Ia W w.heap.size (List.replicate 64 (Fa 0)) 74) (h4:Ia W (w.heap.size+1) (zd (Ni (Xd ms k) ((ms.drop (128*k)).take 128))) 119):Ur w ms (k+1) W:=
 ⟨h1,h2,h3,by unfold Xd;exact h4⟩
theorem Ur.keep {w W W':World} {ms:List UInt8} {k B:Nat} (h:Ur w ms k W) (hb:Below B W W') (hB:w.heap.size+2≤B) (hg1:2<w.heap.size) (hg2:3<w.heap.size):Ur w ms k W':=
 ⟨h.1.trans (hb.mono (by omega)),h.2.1.keep hb (Waj hg1 (by omega)) (Waj hg2 (by omega)),h.2.2.1.below hb (by omega),h.2.2.2.below hb (by omega)⟩
theorem Tx (D:Option Addr) (d n:Nat) (ps:List (List UInt8)) (w:World) (hK:Yh w) (hl:ps.length=n) (hP:xf w w.heap.size D ps) (hn1:n≤90000) (hn:ps.flatten.length≤900000):
 Calls Tryz.prog 36 #[.slice D n d] w (gvn (Ca (Ed ps.flatten)) w):=by
 have HL:=Lib.hid hl;clear hl;have hg1:=hK.lt.1;have hg2:=hK.lt.2;obtain ⟨ms,hms⟩:∃ms,(ps++[Wk ps.flatten.length]).flatten=ms:=⟨_,rfl⟩;replace hms:=Lib.hid hms;have HZ:Hid ((zd Cf).toArray.size=8):=rfl;have hi0:(Tryz.prog.info? 119).map (·.size)=some (zd Cf).toArray.size:=by rw [HZ.out];exact Dh
 have HI0:Hid ((Tryz.prog.info? 119).map (·.size)=some (zd Cf).length):=Dh;have H1:Hid ((zd Cf).toArray.all (·.oneCell')=true):=SA _;have HR:Hid (∀W,Below w.heap.size w W→W.rangeAt 2 0 (zd Cf)):=fun W hb=>(hK.below hb).1;refine (callsIn_wide (n:=0)).1 (callsIn_of_wp_marks Tryz.func36 rfl trivial (wpIn_wide.2 ?_));simp only [Tryz.ntmps36,List.size_toArray,List.length_cons,List.length_nil,Nat.reduceAdd,Nat.reduceSub,Array.replicate_succ,Array.replicate_zero,List.push_toArray,List.append_toArray,List.nil_append,List.cons_append];generalize hcs:zd Cf=cs at *;replace hcs:=Lib.hid hcs;have HZ2:Hid (cs.length=8):=by show _=_;rw [←hcs.out];rfl
 go_wp2_with (first
  |(refine Ke rfl 74 rfl _ Yt ?_
    intro w1 hw1;have hB1:Below w.heap.size w w1:=by rw [hw1];exact (Below.refl _ _).alloc (Xaj _) _
    have hR1:Ia w1 w.heap.size (List.replicate 64 (Fa 0)) 74:=by rw [hw1];exact Ia.new w _ _
    have hs1:w1.heap.size=w.heap.size+1:=by rw [hw1];simp
    have hrg:=HR.out w1 hB1;clear hw1)
  |(refine wpList_load_mid rfl 119 _ rfl 2 0 rfl cs _ hrg Tryz.underlying119 rfl HI0.out ?_)
  |(refine Ke rfl 119 rfl _ QA ?_
    intro w2 hw2;have hB2:Below w.heap.size w w2:=by rw [hw2];exact hB1.alloc hB1.size _
    have hR2:Ia w2 w.heap.size (List.replicate 64 (Fa 0)) 74:=by rw [hw2];exact hR1.alloc _
    have hC2:Ia w2 (w.heap.size+1) (List.replicate 8 (qa 0)) 119:=by rw [hw2,←hs1];exact Ia.new w1 _ _
    have hs2:w2.heap.size=w.heap.size+2:=by rw [hw2];simp [hs1]
    have hT2:w2.there (w.heap.size+1) 0 cs.toArray.size:=by rw [HZ.out];exact hC2.there 0 8 (by simp)
    rw [hs1];clear hw2 hB1 hR1 hrg)
  |(refine wpList_store_mid rfl 119 _ _ rfl (w.heap.size+1) 0 cs.toArray rfl rfl hT2 hi0 H1.out ?_))
 have hB3:Below w.heap.size w (w2.setCells (w.heap.size+1) 0 cs):=Kd hB2 (by omega) _ _;have hR3:Ia (w2.setCells (w.heap.size+1) 0 cs) w.heap.size (List.replicate 64 (Fa 0)) 74:=hR2.otherCells (by omega) _ _;have hC3:Ia (w2.setCells (w.heap.size+1) 0 cs) (w.heap.size+1) cs 119:=by
  have h:=hC2.setCells (cs:=cs) (o:=0) (by rw [HZ2.out];simp);rw [Xb _ _ (by rw [HZ2.out];simp)] at h;exact h
 have hs3:(w2.setCells (w.heap.size+1) 0 cs).heap.size=w.heap.size+2:=by rw [(Ae _ _ _ _).2.2.2.1];exact hs2
 generalize w2.setCells (w.heap.size+1) 0 cs=w3 at *;rw [←hcs.out] at hC3;have hS3:Ur w ms 0 w3:=Ur.start hB3 (hK.below hB3) hR3 hC3;clear hB2 hR2 hC2 hT2 hs2 hs1 hC3 hR3;refine (BW D d n w.heap.size ps w3 HL.out hB3.size (hP.below hB3) (by omega) hn).mono ?_;rintro e w4 ⟨g,c,rfl,hB4,hE4⟩;go_wp2_with fail
 refine (DQ _ (some ⟨g,0,none⟩) (n+1) c w4 rfl).mono ?_;rintro e w5 ⟨rfl,hB5,hc5,hs5⟩;go_wp2_with fail
 have hB6:Below w3.heap.size w3 w5:=hB4.trans (hB5.mono hB4.size);have hz4:=hB4.size;have HMM:Hid (ms=yd ps.flatten):=by
  show _=_;rw [←hms.out,List.flatten_append,yd];simp
 have hlen:ms.length=128*(ms.length/128):=by
  have :=VD ps.flatten;rw [←HMM.out] at this;omega
 have hPG:TA w5 (fun b=>b<w5.heap.size∧¬b=w.heap.size+1) g (ps++[Wk ps.flatten.length]):=by
  have hmono:∀b,(b<w.heap.size∨(w3.heap.size≤b∧b<w4.heap.size))→b<w5.heap.size∧¬b=w.heap.size+1:=fun b hb=>by omega
  refine ⟨hmono g (.inr ⟨hE4.1,hE4.2.1⟩),fun j us hu=>?_⟩;obtain ⟨v,h1,h2⟩:=hE4.2.2 j us hu;refine ⟨v,(hB5.cell (p:=⟨g,j,none⟩) hE4.2.1).trans h1,?_⟩;exact (h2.keep fun b hb=>hB5.block b (by omega)).mono hmono
 have hseq:=AL w4.heap.size g (n+1) c (ms.length/128) _ (fun b=>b=w.heap.size+1) w5 (by rw [qaj,HL.out];rfl) (by omega) (by rw [hms.out];exact hlen) (fun k hk=>by omega) (by omega) hc5 hPG;rw [hms.out] at hseq;refine Vv rfl (enters_of Tryz.func119 (by kernel_rfl) rfl) hseq (fun _=>rfl) (fun k hk=>by omega) (Ur w ms) (fun k W W' h hb=>h.keep hb (by omega) hg1 hg2) (hS3.keep hB6 (by omega) hg1 hg2) ?_ ?_
 ·intro l k W hk hl1 hl2 hI;have HBL:Hid (((ms.drop (128*k)).take 128).length=128):=by
   show _=_;rw [zaj,List.length_drop];omega
  have HN:Hid (zd (Xd ms (k+1))=zd (Ni (Xd ms k) ((ms.drop (128*k)).take 128))):=rfl;refine KF (fun h=>by obtain ⟨_,_,h⟩:=h;exact h) (by intro o ho c;simp at ho;rcases ho with rfl|rfl<;>simp) ?_;rw [show qK ms k=#[Ca ((ms.drop (128*k)).take 128)] from rfl,DW];change wpList _ _ _ _ {tmps:=#[.slice D n d,undef,.pointer (some ⟨w.heap.size,0,none⟩),.pointer (some ⟨w.heap.size+1,0,none⟩),undef,.agg cs.toArray,.slice D n d,.slice (some ⟨g,0,none⟩) (n+1) c,.func (.func 119) #[] #[.pointer (some ⟨w4.heap.size,0,none⟩)],.agg (((ms.drop (128*k)).take 128).map Fa).toArray,undef,undef,undef,undef,undef],defers:=[]} W;have hvl:Hid (((((ms.drop (128*k)).take 128).map Fa)).length=128):=by show _=_;rw [Uaj,HBL.out]
  have hvo:Hid (∀v∈((ms.drop (128*k)).take 128).map Fa,v.oneCell'=true):=Kg _;generalize (ms.drop (128*k)).take 128=bk at *;generalize hvs:bk.map Fa=vs at *;replace hvs:=Lib.hid hvs;have HVS:Hid (vs.toArray.size=128):=by show _=_;rw [List.size_toArray,hvl.out]
  have hi:(Tryz.prog.info? 125).map (·.size)=some vs.toArray.size:=by rw [HVS.out];exact Js
  have HI:=Lib.hid hI;clear hI hseq;go_wp2_with (first
   |(refine Ke rfl 125 rfl _ RA ?_
     intro w6 hw6;have hB7:Below W.heap.size W w6:=by rw [hw6];exact (Below.refl _ _).alloc (Xaj _) _
     have hC7:Ia w6 W.heap.size (List.replicate 128 (Fa 0)) 125:=by rw [hw6];exact Ia.new W _ _
     clear hw6;have hT7:w6.there W.heap.size 0 vs.toArray.size:=by rw [HVS.out];exact hC7.there 0 128 (by simp))
   |(refine wpList_store_mid rfl 125 _ _ rfl W.heap.size 0 vs.toArray rfl rfl hT7 hi (all_oneCell_toArray hvo.out) ?_))
  have hC8:Ia (w6.setCells W.heap.size 0 vs) W.heap.size vs 125:=by
   have h:=hC7.setCells (cs:=vs) (o:=0) (by rw [hvl.out];simp);rw [Xb _ _ (by rw [hvl.out];simp)] at h;exact h
  refine ⟨Kd hB7 (Xaj _) _ _,fun W₂ ht2 hI2=>?_⟩;have hC9:=hC8.turns ht2 (by omega);have hz2:=hC9.lt;clear hC8 hC7 hT7 hB7 ht2;change Code.wpIn _ _ _ _ _ {tmps:=#[.slice D n d,undef,.pointer (some ⟨w.heap.size,0,none⟩),.pointer (some ⟨w.heap.size+1,0,none⟩),.pointer (some ⟨W.heap.size,0,none⟩),.agg cs.toArray,.slice D n d,.slice (some ⟨g,0,none⟩) (n+1) c,.func (.func 119) #[] #[.pointer (some ⟨w4.heap.size,0,none⟩)],.agg vs.toArray,undef,undef,undef,undef,undef],defers:=[]} W₂;refine wpIn_block (KF (fun h=>by obtain ⟨_,_,h⟩:=h;exact h) (by intro o ho c;simp at ho;rcases ho with rfl|rfl|rfl|rfl<;>simp) ?_);obtain ⟨hI3,hT3,hR3,hL3⟩:=hI2;have HO:Hid (∃o:Wct,Xd ms k=o):=⟨_,rfl⟩;obtain ⟨o,ho⟩:=HO.out;clear HO;rw [ho] at hL3 HN;obtain ⟨ys,hys⟩:∃ys,zd o=ys:=⟨_,rfl⟩;obtain ⟨zs,hzs⟩:∃zs,zd (Ni o bk)=zs:=⟨_,rfl⟩;have HYL:Hid (ys.toArray.size=8):=by show _=_;rw [←hys];rfl
  have HZL:Hid (zs.length=8):=by show _=_;rw [←hzs];rfl
  have HZS:Hid (zs.toArray.size=8):=by show _=_;rw [List.size_toArray,HZL.out]
  have HZO:Hid (∀v∈zs,v.oneCell'=true):=by
   show ∀v∈zs,v.oneCell'=true;rw [←hzs];intro v hv;obtain ⟨x,_,rfl⟩:=List.mem_map.1 hv;rfl
  rw [hys] at hL3;have hiy:(Tryz.prog.info? 119).map (·.size)=some ys.toArray.size:=by rw [HYL.out];exact Dh
  have hiz:(Tryz.prog.info? 119).map (·.size)=some zs.toArray.size:=by rw [HZS.out];exact Dh
  have HY:=Lib.hid hys;have HZZ:=Lib.hid hzs;have HO:=Lib.hid ho;clear hys hzs ho HI;go_wp2_with (first
   |(refine wpList_load_row rfl 119 _ rfl (w.heap.size+1) rfl 119 _ (0,0) _ hL3 Tryz.underlying119 rfl hiy ?_)
   |(refine wpList_load_row rfl 125 _ rfl W.heap.size rfl 125 _ (0,0) _ hC9 Tryz.underlying125 rfl hi ?_))
  refine (yP o bk ys vs W₂ hT3 HY.out.symm hvs.out.symm HBL.out).mono ?_;rintro e w7 ⟨rfl,hB8⟩;rw [HZZ.out];have hL4:=hL3.below hB8 hL3.lt;have hR4:=hR3.below hB8 hR3.lt;have hT4:w7.there (w.heap.size+1) 0 zs.toArray.size:=by rw [HZS.out];exact hL4.there 0 8 (by rw [←List.size_toArray,HYL.out];exact Xaj _)
  go_wp2_with (refine wpList_store_mid rfl 119 _ _ rfl (w.heap.size+1) 0 zs.toArray rfl rfl hT4 hiz (all_oneCell_toArray HZO.out) ?_)
  have hY4:ys.length=8:=by rw [←List.size_toArray];exact HYL.out
  have hL5:Ia (w7.setCells (w.heap.size+1) 0 zs) (w.heap.size+1) zs 119:=by
   have h:=hL4.setCells (cs:=zs) (o:=0) (by rw [HZL.out,hY4];exact Xaj _);rw [Xb _ _ (by rw [HZL.out,hY4])] at h;exact h
  have hR5:Ia (w7.setCells (w.heap.size+1) 0 zs) w.heap.size (List.replicate 64 (Fa 0)) 74:=hR4.otherCells (by omega) _ _;have hB9:But (w.heap.size+1) W₂ (w7.setCells (w.heap.size+1) 0 zs):=(But.of_below hB8).setCells _ _;generalize w7.setCells (w.heap.size+1) 0 zs=w8 at *;have hB10:Below w.heap.size W₂ w8:=hB9.below (by omega) hI3.size;rw [←HZZ.out,←HN.out] at hL5;exact ⟨Df.of_but hB9 rfl,hI3.trans hB10,hT3.keep hB10 hg1 hg2,hR5,hL5⟩
 ·intro W hI hsz hKd;obtain ⟨hI3,hT3,hR3,hL3⟩:=hI;have HD:Hid (Ee (Xd ms (ms.length/128)).list=Ed ps.flatten):=by
   show _=_;rw [HMM.out];rfl
  obtain ⟨o,ho⟩:∃o:Wct,Xd ms (ms.length/128)=o:=⟨_,rfl⟩;rw [ho] at hL3 HD;obtain ⟨ys,hys⟩:∃ys,zd o=ys:=⟨_,rfl⟩;have HYL:Hid (ys.toArray.size=8):=by show _=_;rw [←hys];rfl
  rw [hys] at hL3;have hiy:(Tryz.prog.info? 119).map (·.size)=some ys.toArray.size:=by rw [HYL.out];exact Dh
  have HY:=Lib.hid hys;clear hys ho hseq;go_wp2_with (refine wpList_load_row rfl 119 _ rfl (w.heap.size+1) rfl 119 _ (0,0) _ hL3 Tryz.underlying119 rfl hiy ?_)
  refine (XH o ys W HY.out.symm).mono ?_;rintro e w6 ⟨rfl,hB7⟩;rw [HD.out];have hR7:=hR3.below hB7 hR3.lt;have hB8:=hI3.trans (hB7.mono hI3.size);have hKd2:w6.heap[w5.heap.size]? =some (.deferred (some [])):=(hB7.block _ hsz).trans hKd;have HV:Hid (Ca (Ed ps.flatten)=.agg ((Ed ps.flatten).map Fa).toArray):=rfl;have HW:Hid (((Ed ps.flatten).map Fa).length=64):=by show _=_;rw [Uaj,Cd]
  have HP:Hid (∀v∈(Ed ps.flatten).map Fa,v.oneCell'=true):=Kg _;rw [HV.out];generalize (Ed ps.flatten).map Fa=vs at *;have HS:Hid (vs.toArray.size=64):=by show _=_;rw [List.size_toArray,HW.out]
  have hi:(Tryz.prog.info? 74).map (·.size)=some vs.toArray.size:=by rw [HS.out];exact Zt
  have hT:w6.there w.heap.size 0 vs.toArray.size:=by rw [HS.out];exact hR7.there 0 64 (by simp)
  go_wp2_with (refine wpList_store_mid rfl 74 _ _ rfl w.heap.size 0 vs.toArray rfl rfl hT hi (all_oneCell_toArray HP.out) ?_)
  have hC:=hR7.setCells (cs:=vs) (o:=0) (by simp [HW.out]);rw [Xb _ _ (by simp [HW.out])] at hC;have hB9:Below w.heap.size w (w6.setCells w.heap.size 0 vs):=Kd hB8 (Xaj _) _ _;have hKd3:(w6.setCells w.heap.size 0 vs).heap[w5.heap.size]? =some (.deferred (some [])):=((Ae _ _ _ _).2.2.2.2 _ (by omega)).trans hKd2;generalize w6.setCells w.heap.size 0 vs=w8 at *;rw [hs5] at hKd3;refine ⟨by simp,.inl ⟨_,_,rfl,run_takeDeferred hKd3,?_⟩⟩;have hC2:Ia (w8.putObj (w4.heap.size+1) (.deferred none)) w.heap.size vs 74:=(World.putObj_heap_other (by omega)).trans hC;exact ⟨_,results_cell_row Tryz.results36 _ _ w.heap.size 74 vs.toArray (0,0) _ rfl hC2 Tryz.underlying74 rfl hi,by rw [HV.out],hB9.trans ((Oi w8 (w4.heap.size+1) _).below hB9.size (fun k e=>by omega))⟩
end Go.Proofs.YtoggkhjaghkpnaaGreatDoor
namespace Go.Proofs.YtoggkhjaghkpnaaGreatDoor
open Go.RowKit
section
variable {P:Program} {ops:Array Oper} {Q:Exit→Act→World→Prop} {md:Region.Mode} {S:World→Prop} {c:Nat}
def Fe (md:Region.Mode) (ops:Array Oper) (c i:Nat):Bool:=match ops[c]? with
 |some oc=>oc.after.any fun e=>Region.binds md e&&e.on==i
 |none=>false
theorem Wv {i:Nat} {o:Oper} {fuel:Nat} {listed:Array Bool} {a:Act} {w:World} (hr:Region.ready md ops listed= [i]) (ho:ops[i]? =some o)
 (h:∀K':Act→World→Prop,Shut (∀a w,wpAny P md ops Q fuel (listed.setIfInBounds i true) a w→K' a w)→if Region.wanted o (yielded ops a.tmps)=true then Oper.wp P o a w K' Q else K' (a.put o.dst undef) w):wpAny P md ops Q (fuel+1) listed a w:=
 wpAny_ready hr (by simp) (AllReady.cons ho h AllReady.nil)
theorem Bb {l:List Oper} {fuel:Nat} {listed:Array Bool} {a:Act} {w:World} (n:Nat) (hf:fuel=(l.drop n).length) (hB:Region.seqB md l.toArray (l.drop n).length n listed=true) (h:wpList P l.toArray Q (l.drop n) a w):wpAny P md l.toArray Q fuel listed a w:=by
 subst hf;exact wpAny_of_seq (l.drop n) n listed a w (fun j=>by simp [List.getElem?_drop]) hB h
end
def Nl:Code→List Code
 |.loop c=>c::Nl c
 |.seq a b=>Nl a++Nl b
 |.block _ c=>Nl c
 |.scope c=>Nl c
 |.cond _ a b=>Nl a++Nl b
 |_=> []
def Bab (a:Act):List (Nat×Value)→Prop
 | []=>True
 |(i,v)::l=>a.tmps.getD i undef=v∧Bab a l
def Fr (n:Nat) (l:List (Nat×Value)) (a:Act):Prop:=a.tmps.size=n∧a.defers= []∧Bab a l
theorem Pg (n:Nat) (a:Act) (hs:a.tmps.size=n) (hd:a.defers= []):∃u:Nat→Value,a=⟨((List.range n).map u).toArray,[]⟩:=by
 obtain ⟨t,d⟩:=a;simp only at hs hd;subst hd;refine ⟨fun i=>t.getD i undef,?_⟩;congr 1
 apply Array.ext_getElem?;intro i;by_cases h:i<n
 ·simp [h,hs]
 ·simp [h,hs]
end Go.Proofs.YtoggkhjaghkpnaaGreatDoor
