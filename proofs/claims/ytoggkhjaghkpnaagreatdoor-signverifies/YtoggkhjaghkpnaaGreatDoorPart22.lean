/- Part 22 of what the laws of this seat share: YSmall, WNext, YChal, ZNumber, ZSign, FStrict. -/
import Derived.Deep.Cut
import Derived.Test.YtoggkhjaghkpnaaGreatDoorPart21
set_option maxRecDepth 100000
set_option maxHeartbeats 8000000
namespace Go.Proofs.YtoggkhjaghkpnaaGreatDoor
open Go.RowKit
theorem TO (A:Option Addr) (n c:Nat) (text wd o:List UInt8) (w:World)
 (Hwd:Hid (wd.length=64))
 (Ho:Hid (o.length=32))
 (CS:Hid (∀W,Xe A n c text W→Calls Tryz.prog 50 #[.slice A n c] W (gvn (Ca wd) W)))
 (CM:Hid (∀g W,Ia W g (wd.map Fa) 26→Calls Tryz.prog 32 #[.slice (some ⟨g,0,none⟩) 64 64] W (gvn (Ca o) W)))
 (hT:Xe A n c text w):
 Calls Tryz.prog 20 #[.slice A n c] w (gvn (Ca o) w):=by
 go_enter Tryz.func20,Tryz.ntmps20;go_wp2_with (first
  |(refine Ma (o:=⟨some 2,_,_,_,_,_⟩) rfl 22 rfl Xa Dc ?_
    intro w1 hb1 hvr1;have hB1:=hb1;have hger:w.heap.size≤w.heap.size:=Xaj _;clear hb1;try simp only [La]
    skip))
 refine (CS.out w1 (hT.below hB1)).mono ?_;rintro e w2 ⟨rfl,hb2⟩;have hB2:=Ba hB1 hb2;have hvr2:=hvr1.on hb2;clear hB1 hvr1 hb2
 go_upto_region 2 with (first
  |(refine Db rfl rfl 26 (.tmp 3) (.tmp 5) rfl rfl 64 JT (wd.map Fa) rfl rfl ID rfl Gl (by rw [Uaj,Hwd.out]) (Ab _) ?_
    intro w3 hb3 hvd3;have hB3:=Ba hB2 hb3;have hged:w.heap.size≤w2.heap.size:=hB2.size;have hvr3:=hvr2.on hb3;have hnerd:=Vaj hvr2.lt;clear hB2 hvr2 hb3;try simp only [La]
    skip))
 generalize hqd:w2.heap.size=gd at *;clear hqd;go_wp2_with fail
 refine ((CM.out gd) w3 hvd3).mono ?_;rintro e w4 ⟨rfl,hb4⟩;have hB4:=Ba hB3 hb4;have hvr4:=hvr3.on hb4;have hvd4:=hvd3.on hb4;clear hB3 hvr3 hvd3 hb4;go_wp2_with (first
  |(refine Ka rfl 22 (.tmp 2) (.tmp 7) rfl w.heap.size 32 Xa (o.map Fa) rfl rfl hvr4 rfl Kb (by rw [Uaj,Ho.out]) (Ab _) ?_
    intro w5 hb5 hvr5 hz5;have hB5:Below w.heap.size w w5:=hB4.trans (hb5.below hger hB4.size);have hvd5:=hvd4.but hb5 (Ne.symm hnerd);clear hB4 hvr4 hb5 hz5 hvd4;skip))
 exact qc Tryz.results20 (w.heap.size) (o.map Fa) rfl hvr5 Tryz.underlying22 rfl Kb (by rw [Uaj,Ho.out]) rfl ⟨rfl,hB5⟩
section
variable {P:Program} {ops:Array Oper} {Q:Exit→Act→World→Prop} {md:Region.Mode}
theorem Lq {i:Nat} {o:Oper} {fuel:Nat} {listed:Array Bool} {a:Act} {w:World} (hr:Region.ready md ops listed= [i]) (ho:ops[i]? =some o) (hgd:o.guard=none)
 (h:wpList P ops (fun e a' w'=>e=.normal∧wpAny P md ops Q fuel (listed.setIfInBounds i true) a' w') [o] a w):wpAny P md ops Q (fuel+1) listed a w:=by
 refine Wv hr ho fun K hK=>?_;rw [if_pos (by simp [Region.wanted,hgd])];unfold wpList at h;rw [if_pos (by simp [Region.wanted,hgd])] at h;rcases h with h|⟨_,_,_,h,_⟩
 ·have hn:∀a'' w'',wpList P ops (fun e a' w'=>e=.normal∧wpAny P md ops Q fuel (listed.setIfInBounds i true) a' w') [] a'' w''→K a'' w'':=fun a'' w'' hh=>hK _ _ hh.2;unfold Oper.wp at h ⊢;revert h;generalize (execOp a.eval o).run P w=r;intro h;cases r with
  |ok x w1=>
   cases x with
   |value v=>exact hn _ _ h
   |skip =>exact hn _ _ h
   |defer d=>exact hn _ _ h
   |enter f args=>
    refine Calls.mono h ?_;intro e w1 he;cases e with
    |returned v=>exact hn _ _ he
    |panicked c=>cases he.1
    |outgrown=>
     obtain ⟨_,_,he,_⟩:=he;cases he
   |row r args=>exact fun c cs=>let ⟨v,w',r,s⟩:=h c cs;⟨v,w',hn _ _ r,s⟩
   |round l f tmps assign body=>exact h.elim
   |_=>exact h.elim
  |halt x w1=>
   cases x with
   |panic v=>cases h.1
   |_=>exact h.elim
 ·cases h
end
end Go.Proofs.YtoggkhjaghkpnaaGreatDoor
namespace Go.Proofs.YtoggkhjaghkpnaaGreatDoor
open Go.RowKit
theorem Uf {w:World} {ops:Array Oper} {rest:List Oper} {o:Oper} {a:Act} {Q:Exit→Act→World→Prop} (hgd:o.guard=none) (s x:Operand)
 (ho:o.op=.call {callee:=.builtin .append,args:=#[s,x],argTypes:=#[24,24]}) (base:Nat)
 (v:Value) (bs us:List UInt8) (B:Nat) (A:Option Addr) (n c:Nat) (hs:a.eval s=v) (hown:Sd w base v bs) (hx:a.eval x=.slice A n c) (hn:us.length=n) (hA:A=none→c=0) (hr:Row w B A us)
 (hlen:bs.length+us.length≤1000000) (hbase:base≤w.heap.size)
 (h:∀v' w',Sd w' base v' (bs++us)→Below base w w'→wpList Tryz.prog ops Q rest (a.put o.dst v') w'):wpList Tryz.prog ops Q (o::rest) a w:=by
 subst hn;exact Vf hgd s x ho base v bs us B A c hs hown hx hA hr hlen hbase h
theorem Fx (w:World):(Instr.buildSlice 24 0 #[]).run Tryz.prog w=.ok (.slice (some ⟨w.heap.size,0,none⟩) 0 0) (w.alloc (.cells #[] 5)):=by kernel_rfl
theorem Gx (A:Option Addr) (n c:Nat) (text r p o:List UInt8) (w:World)
 (Hr:Hid (r.length=32))
 (Hp:Hid (p.length=32))
 (Ho:Hid (o.length=32))
 (Hn:Hid (n≤900000))
 (CH:Hid (∀A n c W,Xe A n c (r++p++text) W→Calls Tryz.prog 20 #[.slice A n c] W (gvn (Ca o) W)))
 (hT:Xe A n c text w):
 Calls Tryz.prog 23 #[Ca r,Ca p,.slice A n c] w (gvn (Ca o) w):=by
 go_enter Tryz.func23,Tryz.ntmps23;go_wp2_with (first
  |(refine Ra (o:=⟨some 3,_,_,_,_,_⟩) rfl 22 (.tmp 0) rfl (r.map Fa) rfl ?_
    intro w1 hb1 hvr1;have hB1:=hb1;clear hb1;try simp only [La]
    skip)
  |(refine Ra (o:=⟨some 4,_,_,_,_,_⟩) rfl 22 (.tmp 1) rfl (p.map Fa) rfl ?_
    intro w2 hb2 hvp2;have hB2:=Ba hB1 hb2;have hgep:w.heap.size≤w1.heap.size:=hB1.size;have hvr2:=hvr1.on hb2;have hnerp:=Vaj hvr1.lt;clear hB1 hvr1 hb2;try simp only [La]
    skip)
  |(refine Ma (o:=⟨some 6,_,_,_,_,_⟩) rfl 22 rfl Xa Dc ?_
    intro w3 hb3 hvo3;have hB3:=Ba hB2 hb3;have hgeo:w.heap.size≤w2.heap.size:=hB2.size;have hvr3:=hvr2.on hb3;have hvp3:=hvp2.on hb3;clear hB2 hvr2 hvp2 hb3;try simp only [La]
    skip))
 generalize w1.heap.size=gp at *;generalize w2.heap.size=go at *;refine wp_region_any (by kernel_rfl) ?_;show wpAny _ _ _ _ _ _ _ w3.drew;simp only [List.size_toArray,List.length_cons,List.length_nil,Nat.reduceAdd,Array.replicate_succ,Array.replicate_zero,List.push_toArray,List.nil_append,List.cons_append];refine wpAny_take (i:=1) (oi:=⟨some 8,_,_,_,_,_⟩) (v:=.slice (some ⟨w.heap.size,0,none⟩) 32 32) rfl (by kernel_rfl) (by kernel_rfl) (by kernel_rfl) (fun _ _ _ h=>h) (Or.inl ⟨by rfl,?_⟩) ?_
 ·(intro w;go_simp;try with_reducible rfl)
 try simp only [La]
 refine wpAny_take (i:=3) (oi:=⟨some 10,_,_,_,_,_⟩) (v:=.slice (some ⟨gp,0,none⟩) 32 32) rfl (by kernel_rfl) (by kernel_rfl) (by kernel_rfl) (fun _ _ _ h=>h) (Or.inl ⟨by rfl,?_⟩) ?_
 ·(intro w;go_simp;try with_reducible rfl)
 try simp only [La]
 refine wpAny_take (i:=5) (oi:=⟨some 12,_,_,_,_,_⟩) (v:=?_) rfl (by kernel_rfl) (by kernel_rfl) (by kernel_rfl) (fun _ _ _ h=>h) (Or.inl ⟨by rfl,?_⟩) ?_;rotate_left
 ·(intro w;go_simp;try with_reducible rfl)
 try simp only [La]
 have hB4:Below w.heap.size w w3.drew:=hB3.drew;replace hvr3:=hvr3.drew;replace hvp3:=hvp3.drew;replace hvo3:=hvo3.drew;have hT3:=hT.below hB4;clear hB3;generalize w3.drew=w4 at *;clear w3 hT;refine Lq (i:=0) (by kernel_rfl) rfl rfl ?_;refine Vk rfl 24 0 [] rfl [] rfl 5 #[] Fx ?_;rintro w5 rfl;refine ⟨rfl,?_⟩;have hO5:=Sd.lit (base:=w4.heap.size) w4 [] (Xaj _) (by simp);have hb5:Below w4.heap.size w4 (w4.alloc (.cells #[] 5)):=(Below.refl _ _).alloc (Xaj _) _;have hz5:=hb5.size;change Sd (w4.alloc (.cells #[] 5)) w4.heap.size (.slice (some ⟨w4.heap.size,0,none⟩) 0 0) [] at hO5;generalize w4.alloc (.cells #[] 5)=w5 at *;try simp only [La]
 refine Lq (i:=2) (by kernel_rfl) rfl rfl ?_;refine Uf rfl (.tmp 7) (.tmp 8) rfl w4.heap.size _ [] r w5.heap.size (some ⟨w.heap.size,0,none⟩) 32 32 rfl hO5 rfl Hr.out (fun h=>by cases h) (Ia.row (m:=32) (hvr3.on hb5) (by rw [Zaj (by rw [Uaj,Hr.out];decide)])) (by rw [Hr.out];decide) hz5 ?_;intro v6 w6 hO6 hb6;refine ⟨rfl,?_⟩;rw [List.nil_append] at hO6;have hb6:=hb5.trans hb6;have hz6:=hb6.size;clear hO5 hb5 hz5;try simp only [La]
 refine Lq (i:=4) (by kernel_rfl) rfl rfl ?_;refine Uf rfl (.tmp 9) (.tmp 10) rfl w4.heap.size v6 r p w6.heap.size (some ⟨gp,0,none⟩) 32 32 rfl hO6 rfl Hp.out (fun h=>by cases h) (Ia.row (m:=32) (hvp3.on hb6) (by rw [Zaj (by rw [Uaj,Hp.out];decide)])) (by rw [Hr.out,Hp.out];decide) hz6 ?_;intro v7 w7 hO7 hb7;refine ⟨rfl,?_⟩;have hb7:=hb6.trans hb7;have hz7:=hb7.size;have hT7:=hT3.below hb7;clear hO6 hb6 hz6;try simp only [La]
 refine Lq (i:=6) (by kernel_rfl) rfl rfl ?_;refine Uf rfl (.tmp 11) (.tmp 12) rfl w4.heap.size v7 (r++p) text w7.heap.size A n c rfl hO7 rfl hT7.1 hT7.2.2.2.1 hT7.2.2.2.2 (by rw [qaj,Hr.out,Hp.out,hT7.1];have :=Hn.out;omega) hz7 ?_;intro v8 w8 hO8 hb8;refine ⟨rfl,?_⟩;have hb8:=hb7.trans hb8;have hz8:=hb8.size;clear hO7 hb7 hz7 hT7;obtain ⟨A8,c8,rfl,hc8,hm8,hA8,hR8⟩:=hO8.form2;clear hO8;try simp only [La]
 have hvo8:=hvo3.on hb8;have hB8:=Ba hB4 hb8;refine Wv (i:=7) (by kernel_rfl) rfl (fun K hK=>?_);rw [if_pos (by rfl)];refine BL (Ca o) 20 [.tmp 13] #[24] rfl [_] rfl (Ef Tryz.func20 rfl rfl) (CH.out A8 _ c8 w8 ⟨rfl,hc8,hm8,hA8,hR8⟩) fun w9 hb9=>hK _ _ ?_;have hvo9:=hvo8.on hb9;have hB9:=Ba hB8 hb9;clear hb8 hz8 hc8 hm8 hA8 hR8 hvo8 hB8 hb9 hK K;try simp only [La]
 refine Lq (i:=8) (by kernel_rfl) rfl rfl ?_;refine Ka rfl 22 (.tmp 6) (.tmp 14) rfl go 32 Xa (o.map Fa) rfl rfl hvo9 rfl Kb (by rw [Uaj,Ho.out]) (Ab _) ?_;intro w10 hb10 hvo10 hz10;have hB10:Below w.heap.size w w10:=hB9.trans (hb10.below hgeo hB9.size);refine ⟨rfl,wpAny_done (by kernel_rfl) ?_ _⟩;clear hB9 hvo9 hb10 hz10;rename_i K hKK;simp only [Exit.then];refine hKK _ _ ?_
 go_wp2
 exact qc Tryz.results23 go (o.map Fa) rfl hvo10 Tryz.underlying22 rfl Kb (by rw [Uaj,Ho.out]) rfl ⟨rfl,hB10⟩
theorem UO {P:Program} {w:World} {ops:Array Oper} {rest:List Oper} {o:Oper} {a:Act} {Q:Exit→Act→World→Prop} (hgd:o.guard=none) (v:Value) (hr:(execOp a.eval o).run P w=.ok (.value v) w) (h:wpList P ops Q rest (a.put o.dst v) w):wpList P ops Q (o::rest) a w:=by
 refine wpList_plain hgd fun K hK=>?_;unfold Oper.wp;rw [hr];exact hK _ _ h
theorem KT {w:World} {B:Nat} {D:Option Addr} {vs:List Value} {ps:List (List UInt8)} (hl:vs.length=ps.length) (hp:∀(j:Nat) (us:List UInt8) (v:Value),ps[j]? =some us→vs[j]? =some v→Of w B v us) (hr:Qr w B D vs):xf w B D ps:=by
 rcases hr with rfl|⟨b,off,hD,hb,hc⟩
 ·exact .inl (List.eq_nil_of_length_eq_zero (by rw [←hl];rfl))
 ·refine .inr ⟨b,off,hD,hb,fun j us hu=>?_⟩;have hj:j<vs.length:=by rw [hl];exact (List.getElem?_eq_some_iff.1 hu).1
  exact ⟨vs[j],hc j _ (xaj hj),hp j us _ hu (xaj hj)⟩
theorem Yad (ks:List UInt8) (n j:Nat) (hk:ks.length=32*n) (hj:j<n):((ks.drop (0+j*32)).take 32).length=32∧ks.take (32*(j+1))=ks.take (32*j)++(ks.drop (0+j*32)).take 32:=by
 have h1:32*(j+1)≤32*n:=Nat.mul_le_mul_left _ hj;have h2:(ks.drop (0+j*32)).length=ks.length-(0+j*32):=List.length_drop;refine ⟨by rw [zaj,h2];omega,?_⟩;rw [show 0+j*32=32*j by omega,show 32*(j+1)=32*j+32 by omega,List.take_add]
theorem Dt (E:Value) (D:Option Addr) (m d n g:Nat) (ps:List (List UInt8)) (ks:List UInt8) (w:World) (hkl:ks.length=32*n) (hn:n≤20) (hC:Ia w g (ks.map Fa) 23) (hS:Bc E w) (hpl:ps.length=m) (hP:Jd D ps w) (hm:m≤80000) (hf:ps.flatten.length≤800000) (hmd:m≤d) (hdm:d≤maxLen) (hD:D=none→d=0):
 Calls Tryz.prog 13 #[.slice D m d,.slice (some ⟨g,0,none⟩) n n] w (gvn (Ca (Ob (Gd (ks++ps.flatten)) 32)) w):=by
 have HKL:=Lib.hid hkl;have HPL:=Lib.hid hpl;have HF:=Lib.hid hf;have HD:=Lib.hid hD;clear hkl hpl hf hD;go_enter Tryz.func13,Tryz.ntmps13;go_wp2_with (first
  |(refine Ma (o:=⟨some 4,_,_,_,_,_⟩) rfl 23 rfl Xa Zb ?_
    intro w1 hb1 hr1;have hc1:=hC.on hb1;try simp only [La]
    skip))
 have HZ:Sd w1 w1.heap.size (.slice none 0 0) (ks.take (32*0)):=⟨by simp,.inl ⟨rfl,by simp⟩⟩;have hlt1:=hr1.lt;generalize hgr:w.heap.size=gr at *
 go_loopw [5,10] (fun v i wr=>∃j:Nat,j≤n∧i=.int .i64 j∧Below w1.heap.size w1 wr∧Sd wr w1.heap.size v (ks.take (32*j))) (fun _ i _=>n-(intOf i).toNat)
 case atStart=>exact ⟨0,Nat.zero_le _,rfl,Below.refl _ _,HZ⟩
 case round=>
  obtain ⟨j,hj,rfl,hB,hO⟩:=hrel
  rename World=>wr
  have hsz:=hB.size;by_cases hlt:j<n
  ·have hko:=Yad ks n j HKL.out hlt;have HK1:=Lib.hid hko.1;have HK2:=Lib.hid hko.2;clear hko;have hcr:=hc1.on hB;obtain ⟨k,hk⟩:=Nb ((ks.drop (0+j*32)).take 32);rw [hk.out] at HK1 HK2;have HTL:Hid ((ks.take (32*j)).length≤700):=by
    show _≤_;rw [zaj,HKL.out];omega
   generalize ks.take (32*j)=F at *;go_wp2_with (first
    |(refine UO rfl (.pointer (some ⟨g,0+j*32,none⟩)) (Me _ _ _ _ _ rfl _ _ _ rfl rfl wr (Ky (by kernel_rfl) za g 0 j hlt wr)) ?_
      try simp only [La]
      skip)
    |(refine UO rfl (Ca k) (Yc _ _ _ _ rfl _ _ rfl wr (Uu hcr (0+j*32) hk.out HK1.out)) ?_
      try simp only [La]
      skip)
    |(refine Db rfl rfl 23 (.tmp 7) (.tmp 13) rfl rfl 32 Xa (k.map Fa) rfl rfl Zb rfl za (by rw [Uaj,HK1.out]) (Ab _) ?_
      intro w3 hb3 hk3;have hB3:=Ba hB hb3;have hO3:=hO.on hb3;have hsz3:=hB3.size;clear hb3;try simp only [La]
      skip)
    |(at_builtin
      refine Uf rfl (.tmp 14) (.tmp 15) rfl w1.heap.size _ F k w3.heap.size (some ⟨wr.heap.size,0,none⟩) 32 32 rfl hO3 rfl HK1.out (fun h=>by cases h) (Ia.row (m:=32) hk3 (by rw [Zaj (by rw [Uaj,HK1.out];decide)])) (by rw [HK1.out];have :=HTL.out;omega) hsz3 ?_;intro v7 w7 hO7 hB7))
   go_roundw
   case rel=>exact ⟨j+1,by omega,by go_num,hB3.trans hB7,by rw [HK2.out];exact hO7⟩
   case measure=>simp [intOf];omega
  ·obtain rfl:j=n:=by omega
   have e1:ks.take (32*j)=ks:=Zaj (by rw [HKL.out];exact Xaj _);rw [e1] at hO;obtain ⟨A',c',hv,h1,h2,h3,h4⟩:=hO.form2;subst hv;have hrr:=hr1.on hB;have hB1:Below gr w wr:=by
    have h:=Ba (by rw [hgr];exact hb1) hB
    rwa [hgr] at h
   have hS1:Bc E wr:=hS.below (by rw [hgr];exact hB1);have hP1:Jd D ps wr:=hP.below (by rw [hgr];exact hB1);have hgr2:gr≤wr.heap.size:=by rw [←hgr];exact hB1.size
   clear hO hB hc1 hb1 hr1 hS hP hC hlt1 HZ e1;obtain ⟨vs,hvl,hvp,hvr⟩:=xf.vals hP1;have HV1:Hid (∀u∈vs,u.oneCell'=true):=by
    show ∀u∈vs,u.oneCell'=true;intro u hu;obtain ⟨i,hi,rfl⟩:=List.getElem_of_mem hu;obtain ⟨A2,c2,e2,_⟩:=hvp i _ _ (xaj (by omega)) (xaj hi);rw [e2];rfl
   have HVL:=Lib.hid hvl;have HVP:=Lib.hid hvp;have hR0:Qr wr wr.heap.size D vs:=by
    rcases hvr with h|h
    ·exact .inl (List.eq_nil_of_length_eq_zero (by rw [hvl,h];rfl))
    ·exact .inr h
   have hQ0:Of wr wr.heap.size (.slice A' ks.length c') ks:=⟨A',c',rfl,h4,h1,h2,h3⟩;clear hvl hvp hvr hP1 h1 h2 h3 h4;have HR0:=Lib.hid hR0;have HQ0:=Lib.hid hQ0;clear hR0 hQ0;obtain ⟨len,hlen⟩:=Nb ks.length;rw [hlen.out];rw [hlen.out] at HQ0;have hlen2:len≤640:=by have h1:=hlen.out;have h2:=HKL.out;omega
   go_wp2_with (first
    |(refine Ji rfl 36 1 [(0,.tmp 18)] rfl [(0,.slice A' len c')] rfl 24 ([.slice A' len c'].map Af) (Di _ _ _) ?_
      intro w4 hb4 hl4;have hz4:=hb4.size;try simp only [La]
      skip)
    |(refine Ji rfl 128 2 [(0,.tmp 19),(1,.tmp 20)] rfl [(0,.slice (some ⟨wr.heap.size,0,none⟩) 1 1),(1,.slice D m d)] rfl 36 ([.slice (some ⟨wr.heap.size,0,none⟩) 1 1,.slice D m d].map Af) (OY _ _ _ _ _ _) ?_
      intro w5 hb5 hl5;have hb45:=Ba hb4 hb5;have hl45:=hl4.on hb5;try simp only [La]
      skip))
   have hPP:Is w5 w5.heap.size (some ⟨w4.heap.size,0,none⟩) [[.slice A' len c'],vs]:=by
    refine .inr ⟨w4.heap.size,0,rfl,hl5.lt,fun i us hu=>?_⟩
    match i,hu with
    |0,hu=>
     cases hu
     refine ⟨some ⟨wr.heap.size,0,none⟩,1,hl5.get (j:=0) rfl,.inr ⟨wr.heap.size,0,rfl,hl45.lt,fun i v hv=>?_⟩,Xaj _,by unfold maxLen;omega,fun h=>by cases h⟩;rw [Nat.zero_add];exact hl45.get hv
    |1,hu=>
     cases hu
     have hR5:=(HR0.out.on hb45);exact ⟨D,d,by rw [HVL.out,HPL.out];exact hl5.get (j:=1) rfl,hR5,by rw [HVL.out,HPL.out];exact hmd,hdm,HD.out⟩
    |i+2,hu=>simp at hu
   have HPP:=Lib.hid hPP;have HL2:Hid ([[Value.slice A' len c'],vs].flatten.length=1+m):=by
    show _=_;rw [List.flatten_cons,List.flatten_cons,List.flatten_nil,List.append_nil,qaj,HVL.out,HPL.out];rfl
   have H1C:Hid (∀us∈ [[Value.slice A' len c'],vs],∀u∈us,u.oneCell'=true):=by
    show ∀us∈_,_;intro us hu u hu2;rcases List.mem_cons.1 hu with rfl|hu
    ·rw [List.mem_singleton.1 hu2];rfl
    ·rw [List.mem_singleton.1 hu] at hu2;exact HV1.out u hu2
   clear hPP hl5 hl45 hl4 hb4 hb5 hz4;refine (WK (some ⟨w4.heap.size,0,none⟩) 2 2 (1+m) [[.slice A' len c'],vs] w5 rfl H1C.out HPP.out (by omega) HL2.out (by omega)).mono ?_;rintro e w6 ⟨A6,c6,rfl,hR6,h61,h62,h63,hb6⟩;have hb46:=Ba hb45 hb6;have hPS:xf w6 w6.heap.size A6 (ks::ps):=by
    refine KT (by rw [HL2.out,List.length_cons,HPL.out];omega) (fun i us v hu hv=>?_) hR6;rw [List.flatten_cons,List.flatten_cons,List.flatten_nil,List.append_nil] at hv
    match i,hu,hv with
    |0,hu,hv=>
     cases hu
     cases hv
     exact (HQ0.out.below hb46).more hb46.size
    |i+1,hu,hv=>exact ((HVP.out i us v hu hv).below hb46).more hb46.size
   have HPS:=Lib.hid hPS;have HFL:Hid ((ks::ps).flatten.length≤900000):=by
    show _≤_;rw [List.flatten_cons,qaj,hlen.out];have :=HF.out;omega
   have hS6:=hS1.below hb46;have hr6:=hrr.on hb46;have hB6:=hB1.trans (hb46.mono hgr2);clear hPS hR6 hb45 hb6 hb46 HPP HR0 HQ0 HVP HVL HV1 HL2 H1C hS1 hrr hB1;go_wp2_with fail
   refine (Tx A6 c6 (1+m) (ks::ps) w6 hS6.1 (by rw [List.length_cons,HPL.out];omega) HPS.out (by omega) HFL.out).mono ?_;rintro e w7 ⟨rfl,hb7⟩;have hS7:=hS6.below hb7;have hr7:=hr6.on hb7;have hB7:=Ba (by rw [hgr];exact hB6) hb7;clear hb7 hS6 hr6 hB6 HPS;rw [List.flatten_cons];obtain ⟨wd,hwd⟩:=Nb (Ed (ks++ps.flatten));rw [hwd.out];have HWD:Hid (wd.length=64):=by show _=_;rw [←hwd.out];exact Cd _
   go_wp2_with fail
   refine (BJ wd w7 HWD.out hS7.2.1).mono ?_;rintro e w8 ⟨rfl,hb8⟩;have hr8:=hr7.on hb8;have hB8:=Ba hB7 hb8;have HRES:Hid (Ob (lev wd%NP.LL) 32=Ob (Gd (ks++ps.flatten)) 32):=by show _=_;rw [←hwd.out];rfl
   have HLEN:=Lib.hid (Ta (lev wd%NP.LL) 32);generalize Ob (lev wd%NP.LL) 32=res at *;clear hb8 hr7 hB7 hS7;go_wp2_with (first
    |(refine Ka rfl 23 (.tmp 4) (.tmp 24) rfl gr 32 Xa (res.map Fa) rfl rfl hr8 rfl za (by rw [Uaj,HLEN.out]) (Ab _) ?_
      intro w9 hb9 hr9 hz9))
   have hB9:Below w.heap.size w w9:=hB8.trans (hb9.below (by rw [hgr];exact Xaj _) hB8.size);exact qc Tryz.results13 gr (res.map Fa) rfl hr9 Tryz.underlying23 rfl za (by rw [Uaj,HLEN.out]) rfl ⟨by rw [←HRES.out];rfl,by first|exact hB9|(rw [←hgr];exact hB9)⟩
theorem TE (a:Act) (hs:a.tmps.size=34) (hd:a.defers= []):∃u:Nat→Value,a=⟨(u 0::u 1::u 2::u 3::u 4::u 5::u 6::u 7::u 8::u 9::u 10::u 11::u 12::u 13::u 14::u 15::u 16::u 17::u 18::u 19::u 20::u 21::u 22::u 23::u 24::u 25::u 26::u 27::u 28::u 29::u 30::u 31::u 32::u 33::[]).toArray,[]⟩:=by
 obtain ⟨u,h⟩:=Pg 34 a hs hd;exact ⟨u,h⟩
def Dg (D:Option Addr) (m d B:Nat) (ka kr pb hb:List UInt8) (i:Nat) (v:Value) (w:World):Prop:=match i with
 |0=>v=.slice D m d
 |1=>v=Ca kr
 |2=>v=Ca ka
 |3=>v=Ca pb
 |4=>∃g,v=.slice (some ⟨g,0,none⟩) 2 2∧Ia w g ((kr++pb).map Fa) 23
 |5=>v=Ca hb
 |6=>∃g,v=.pointer (some ⟨g,0,none⟩)∧B≤g∧Ia w g Xa 23
 |_=>True
theorem Og {D:Option Addr} {m d B:Nat} {ka kr pb hb:List UInt8} {i:Nat} {v:Value} {w w':World} (h:Dg D m d B ka kr pb hb i v w) (hw:Below w.heap.size w w'):Dg D m d B ka kr pb hb i v w':=by
 unfold Dg at h ⊢
 split
 all_goals first
  |exact h
  |trivial
  |(obtain ⟨g,h1,h2⟩:=h
    exact ⟨g,h1,h2.on hw⟩)
  |(obtain ⟨g,h1,h2,h3⟩:=h
    exact ⟨g,h1,h2,h3.on hw⟩)
def Ix (u0:Value) (u1:Value) (u2:Value) (u3:Value) (go:Nat) (ga:Nat) (u6:Value) (gn:Nat) (gr:Nat) (gh:Nat) (u10:Value) (u11:Value) (u12:Value) (u13:Value) (u14:Value) (u15:Value) (u16:Value) (u17:Value) (u18:Value) (u19:Value) (u20:Value) (u21:Value) (u22:Value) (u23:Value) (u24:Value) (u25:Value) (hb:List UInt8) (kr:List UInt8) (kn:List UInt8) (ka:List UInt8) (t:List UInt8) (z:List UInt8) (ob:List UInt8):List Value:=
 (u0)::(u1)::(u2)::(u3)::ptr go::ptr ga::(u6)::ptr gn::ptr gr::ptr gh::(u10)::(u11)::(u12)::(u13)::(u14)::(u15)::(u16)::(u17)::(u18)::(u19)::(u20)::(u21)::(u22)::(u23)::(u24)::(u25)::(Ca hb)::(Ca kr)::(Ca kn)::(Ca hb)::(Ca ka)::(Ca t)::(Ca z)::(Ca ob)::[]
theorem VO (ks ka kp kn kr pb hb t z ob:List UInt8) (D:Option Addr) (m d:Nat) (ps:List (List UInt8)) (E:Value) (w:World)
 (Hks:Hid (ks.length=32))
 (Hka:Hid (ka.length=32))
 (Hkp:Hid (kp.length=32))
 (Hkn:Hid (kn.length=32))
 (Hkr:Hid (kr.length=32))
 (Hpb:Hid (pb.length=32))
 (Hhb:Hid (hb.length=32))
 (Hob:Hid (ob.length=64))
 (CS:Hid (∀W,Bc E W→Calls Tryz.prog 12 #[Ca ks] W (gvn (.tuple #[Ca ka,Ca kp]) W)))
 (CN:Hid (∀g W,Ia W g (kp.map Fa) 23→Bc E W→Jd D ps W→Calls Tryz.prog 13 #[.slice D m d,.slice (some ⟨g,0,none⟩) 1 1] W (gvn (Ca kn) W)))
 (CR:Hid (∀W,Bc E W→Calls Tryz.prog 14 #[Ca kn] W (gvn (Ca kr) W)))
 (CB:Hid (∀W,Bc E W→Calls Tryz.prog 14 #[Ca ka] W (gvn (Ca pb) W)))
 (CH:Hid (∀g W,Ia W g ((kr++pb).map Fa) 23→Bc E W→Jd D ps W→Calls Tryz.prog 13 #[.slice D m d,.slice (some ⟨g,0,none⟩) 2 2] W (gvn (Ca hb) W)))
 (CT:Hid (∀W,Bc E W→Calls Tryz.prog 17 #[Ca hb,Ca ka] W (gvn (Ca t) W)))
 (CA:Hid (∀W,Bc E W→Calls Tryz.prog 16 #[Ca kn,Ca t] W (gvn (Ca z) W)))
 (CJ:Hid (∀W,Calls Tryz.prog 15 #[Ca kr,Ca z] W (gvn (Ca ob) W)))
 (hS:Bc E w)
 (hP:Jd D ps w):
 Calls Tryz.prog 6 #[Ca ks,.slice D m d] w (gvn (Ca ob) w):=by
 go_enter Tryz.func6,Tryz.ntmps6;go_wp2_with (first
  |(refine Rb rfl 23 (.tmp 0) rfl ks rfl ?_
    intro w1 hb1 hvs1 hz;clear hz;have hB1:=hb1;have hges:w.heap.size≤w.heap.size:=Xaj _;clear hb1;try simp only [La]
    skip)
  |(refine Ma (o:=⟨some 4,_,_,_,_,_⟩) rfl 27 rfl qJ Kq ?_
    intro w2 hb2 hvo2;have hB2:=Ba hB1 hb2;have hgeo:w.heap.size≤w1.heap.size:=hB1.size;have hvs2:=hvs1.on hb2;have hneso:=Vaj hvs1.lt;clear hB1 hvs1 hb2;try simp only [La]
    skip)
  |(refine Tc rfl 23 (.tmp 2) rfl w.heap.size 32 ks 5 rfl hvs2 Tryz.underlying23 za Hks.out ?_
    try simp only [La]
    skip))
 generalize hqo:w1.heap.size=go at *;clear hqo;refine (CS.out w2 (hS.below hB2)).mono ?_;rintro e w3 ⟨rfl,hb3⟩;have hB3:=Ba hB2 hb3;have hvs3:=hvs2.on hb3;have hvo3:=hvo2.on hb3;clear hB2 hvs2 hvo2 hb3;go_wp2_with (first
  |(refine Ma (o:=⟨some 5,_,_,_,_,_⟩) rfl 23 rfl Xa Zb ?_
    intro w4 hb4 hva4;have hB4:=Ba hB3 hb4;have hgea:w.heap.size≤w3.heap.size:=hB3.size;have hvs4:=hvs3.on hb4;have hnesa:=Vaj hvs3.lt;have hvo4:=hvo3.on hb4;have hneoa:=Vaj hvo3.lt;clear hB3 hvs3 hvo3 hb4;try simp only [La]
    skip)
  |(refine Ma (o:=⟨some 6,_,_,_,_,_⟩) rfl 23 rfl Xa Zb ?_
    intro w5 hb5 hvp5;have hB5:=Ba hB4 hb5;have hgep:w.heap.size≤w4.heap.size:=hB4.size;have hvs5:=hvs4.on hb5;have hnesp:=Vaj hvs4.lt;have hvo5:=hvo4.on hb5;have hneop:=Vaj hvo4.lt;have hva5:=hva4.on hb5;have hneap:=Vaj hva4.lt;clear hB4 hvs4 hvo4 hva4 hb5;try simp only [La]
    skip)
  |(refine Ka rfl 23 (.tmp 5) (.tmp 13) rfl w3.heap.size 32 Xa (ka.map Fa) rfl rfl hva5 rfl za (by rw [Uaj,Hka.out]) (Ab _) ?_
    intro w6 hb6 hva6 hz6;have hB6:Below w.heap.size w w6:=hB5.trans (hb6.below hgea hB5.size);have hvs6:=hvs5.but hb6 hnesa;have hvo6:=hvo5.but hb6 hneoa;have hvp6:=hvp5.but hb6 (Ne.symm hneap);clear hB5 hva5 hb6 hz6 hvs5 hvo5 hvp5;skip)
  |(refine Ka rfl 23 (.tmp 6) (.tmp 14) rfl w4.heap.size 32 Xa (kp.map Fa) rfl rfl hvp6 rfl za (by rw [Uaj,Hkp.out]) (Ab _) ?_
    intro w7 hb7 hvp7 hz7;have hB7:Below w.heap.size w w7:=hB6.trans (hb7.below hgep hB6.size);have hvs7:=hvs6.but hb7 hnesp;have hvo7:=hvo6.but hb7 hneop;have hva7:=hva6.but hb7 hneap;clear hB6 hvp6 hb7 hz7 hvs6 hvo6 hva6;skip)
  |(refine Tc rfl 23 (.tmp 6) rfl w4.heap.size 32 kp 5 rfl hvp7 Tryz.underlying23 za Hkp.out ?_
    try simp only [La]
    skip)
  |(refine Ji rfl 76 1 [(0,.tmp 16)] rfl [(0,Ca kp)] rfl 23 (kp.map Fa) (PY _ Hkp.out) ?_
    intro w8 hb8 hvl8;have hB8:=Ba hB7 hb8;have hgel:w.heap.size≤w7.heap.size:=hB7.size;have hvs8:=hvs7.on hb8;have hnesl:=Vaj hvs7.lt;have hvo8:=hvo7.on hb8;have hneol:=Vaj hvo7.lt;have hva8:=hva7.on hb8;have hneal:=Vaj hva7.lt;have hvp8:=hvp7.on hb8;have hnepl:=Vaj hvp7.lt;clear hB7 hvs7 hvo7 hva7 hvp7 hb8;try simp only [La]
    skip))
 generalize hqa:w3.heap.size=ga at *;clear hqa;generalize hqp:w4.heap.size=gp at *;clear hqp;generalize hql:w7.heap.size=gl at *;clear hql;refine ((CN.out _) w8 hvl8 (hS.below hB8) (hP.below hB8)).mono ?_;rintro e w9 ⟨rfl,hb9⟩;have hB9:=Ba hB8 hb9;have hvs9:=hvs8.on hb9;have hvo9:=hvo8.on hb9;have hva9:=hva8.on hb9;have hvp9:=hvp8.on hb9;have hvl9:=hvl8.on hb9;clear hB8 hvs8 hvo8 hva8 hvp8 hvl8 hb9;go_wp2_with (first
  |(refine Db rfl rfl 23 (.tmp 7) (.tmp 18) rfl rfl 32 Xa (kn.map Fa) rfl rfl Zb rfl za (by rw [Uaj,Hkn.out]) (Ab _) ?_
    intro w10 hb10 hvn10;have hB10:=Ba hB9 hb10;have hgen:w.heap.size≤w9.heap.size:=hB9.size;have hvs10:=hvs9.on hb10;have hnesn:=Vaj hvs9.lt;have hvo10:=hvo9.on hb10;have hneon:=Vaj hvo9.lt;have hva10:=hva9.on hb10;have hnean:=Vaj hva9.lt;have hvp10:=hvp9.on hb10;have hnepn:=Vaj hvp9.lt;have hvl10:=hvl9.on hb10;have hneln:=Vaj hvl9.lt;clear hB9 hvs9 hvo9 hva9 hvp9 hvl9 hb10;try simp only [La]
    skip)
  |(refine Tc rfl 23 (.tmp 7) rfl w9.heap.size 32 kn 5 rfl hvn10 Tryz.underlying23 za Hkn.out ?_
    try simp only [La]
    skip))
 generalize hqn:w9.heap.size=gn at *;clear hqn;refine (CR.out w10 (hS.below hB10)).mono ?_;rintro e w11 ⟨rfl,hb11⟩;have hB11:=Ba hB10 hb11;have hvs11:=hvs10.on hb11;have hvo11:=hvo10.on hb11;have hva11:=hva10.on hb11;have hvp11:=hvp10.on hb11;have hvl11:=hvl10.on hb11;have hvn11:=hvn10.on hb11;clear hB10 hvs10 hvo10 hva10 hvp10 hvl10 hvn10 hb11;go_wp2_with (first
  |(refine Db rfl rfl 23 (.tmp 8) (.tmp 20) rfl rfl 32 Xa (kr.map Fa) rfl rfl Zb rfl za (by rw [Uaj,Hkr.out]) (Ab _) ?_
    intro w12 hb12 hvr12;have hB12:=Ba hB11 hb12;have hger:w.heap.size≤w11.heap.size:=hB11.size;have hvs12:=hvs11.on hb12;have hnesr:=Vaj hvs11.lt;have hvo12:=hvo11.on hb12;have hneor:=Vaj hvo11.lt;have hva12:=hva11.on hb12;have hnear:=Vaj hva11.lt;have hvp12:=hvp11.on hb12;have hnepr:=Vaj hvp11.lt;have hvl12:=hvl11.on hb12;have hnelr:=Vaj hvl11.lt;have hvn12:=hvn11.on hb12;have hnenr:=Vaj hvn11.lt;clear hB11 hvs11 hvo11 hva11 hvp11 hvl11 hvn11 hb12;try simp only [La]
    skip))
 generalize hqr:w11.heap.size=gr at *;clear hqr;clear hvs12;clear hvp12;clear hvl12;have hB13:Below w.heap.size w w12.drew:=hB12.drew;have hvo13:=hvo12.drew;have hva13:=hva12.drew;have hvn13:=hvn12.drew;have hvr13:=hvr12.drew;refine wp_region_any (by kernel_rfl) ?_;show wpAny _ _ _ _ _ _ _ w12.drew;simp only [List.size_toArray,List.length_cons,List.length_nil,Nat.reduceAdd,Array.replicate_succ,Array.replicate_zero,List.push_toArray,List.nil_append,List.cons_append];clear hB12 hvo12 hva12 hvn12 hvr12;generalize w12.drew=w13 at *;have rr:=hvr13.range 0 32;rw [List.drop_zero,Zaj (by rw [Uaj,Hkr.out];omega)] at rr;have ra:=hva13.range 0 32;rw [List.drop_zero,Zaj (by rw [Uaj,Hka.out];omega)] at ra;refine Ol (L:=[0,1,2,3,4,5,6]) (fins:=[(#[true,true,true,true,true,true,true,false],1)]) (Pl w13 _ [(0,21),(1,22),(2,23),(3,24),(4,25),(5,26),(6,9)] (Dg D m d w13.heap.size ka kr pb hb)) ?_ ?_ 8 _ _ _ (by kernel_rfl) ⟨Below.refl _ _,rfl,rfl,fun _ _=>rfl,?_⟩;rotate_left 2
 ·intro p hp hl;simp only [List.mem_cons,List.not_mem_nil,or_false] at hp;rcases hp with rfl|rfl|rfl|rfl|rfl|rfl|rfl;all_goals cases hl
 ·intro i hi;simp only [List.mem_cons,List.not_mem_nil,or_false] at hi;rcases hi with rfl|rfl|rfl|rfl|rfl|rfl|rfl
  ·refine Xc (slots:=[(0,21),(1,22),(2,23),(3,24),(4,25),(5,26),(6,9)]) (prop:=Dg D m d w13.heap.size ka kr pb hb) (by decide) (by decide) 34 rfl (by decide) (fun _ _ _ _ h hb=>Og h hb) (i:=0) (s:=21) (by decide) rfl rfl ?_;intro a w6 K hb hs hd hsame hfact hK;exact B8 rfl _ rfl _ (hsame 1 (by decide)) (hK _ _ (Below.refl _ _) rfl)
  ·refine Xc (slots:=[(0,21),(1,22),(2,23),(3,24),(4,25),(5,26),(6,9)]) (prop:=Dg D m d w13.heap.size ka kr pb hb) (by decide) (by decide) 34 rfl (by decide) (fun _ _ _ _ h hb=>Og h hb) (i:=1) (s:=22) (by decide) rfl rfl ?_;intro a w6 K hb hs hd hsame hfact hK;exact Jf rfl 23 (.tmp 8) rfl gr 0 (hsame 8 (by decide)) (kr.map Fa) _ (Be rr hvr13.lt hb) Tryz.underlying23 rfl (by rw [Uaj,Hkr.out];exact za) (hK _ _ (Below.refl _ _) rfl)
  ·refine Xc (slots:=[(0,21),(1,22),(2,23),(3,24),(4,25),(5,26),(6,9)]) (prop:=Dg D m d w13.heap.size ka kr pb hb) (by decide) (by decide) 34 rfl (by decide) (fun _ _ _ _ h hb=>Og h hb) (i:=2) (s:=23) (by decide) rfl rfl ?_;intro a w6 K hb hs hd hsame hfact hK;exact Jf rfl 23 (.tmp 5) rfl ga 0 (hsame 5 (by decide)) (ka.map Fa) _ (Be ra hva13.lt hb) Tryz.underlying23 rfl (by rw [Uaj,Hka.out];exact za) (hK _ _ (Below.refl _ _) rfl)
  ·refine Xc (slots:=[(0,21),(1,22),(2,23),(3,24),(4,25),(5,26),(6,9)]) (prop:=Dg D m d w13.heap.size ka kr pb hb) (by decide) (by decide) 34 rfl (by decide) (fun _ _ _ _ h hb=>Og h hb) (i:=3) (s:=24) (by decide) rfl rfl ?_;intro a w6 K hb hs hd hsame hfact hK;have s23:a.tmps.getD 23 undef=Ca ka:=hfact (2,23) (by decide) (by kernel_rfl);refine If rfl 14 [.tmp 23] _ rfl [Ca ka] ?_ (Ef Tryz.func14 (by kernel_rfl) (by kernel_rfl)) (CB.out w6 (hS.below (Ba hB13 hb))) ?_
   ·simp only [List.map_cons,List.map_nil];rw [show a.eval (.tmp 23)=Ca ka from s23]
   ·rintro e w7 ⟨rfl,hb7⟩;exact ⟨_,rfl,hK _ _ hb7 rfl⟩
  ·refine Xc (slots:=[(0,21),(1,22),(2,23),(3,24),(4,25),(5,26),(6,9)]) (prop:=Dg D m d w13.heap.size ka kr pb hb) (by decide) (by decide) 34 rfl (by decide) (fun _ _ _ _ h hb=>Og h hb) (i:=4) (s:=25) (by decide) rfl rfl ?_;intro a w6 K hb hs hd hsame hfact hK;have s22:a.tmps.getD 22 undef=Ca kr:=hfact (1,22) (by decide) (by kernel_rfl);have s24:a.tmps.getD 24 undef=Ca pb:=hfact (3,24) (by decide) (by kernel_rfl);refine Nn rfl 76 2 [(0,.tmp 22),(1,.tmp 24)] rfl [(0,Ca kr),(1,Ca pb)] ?_ 23 ((kr++pb).map Fa) (yG kr pb Hkr.out Hpb.out) (fun w' hb' hc'=>hK _ _ hb' ⟨_,rfl,hc'⟩);simp only [List.map_cons,List.map_nil];rw [show a.eval (.tmp 22)=Ca kr from s22,show a.eval (.tmp 24)=Ca pb from s24]
  ·refine Xc (slots:=[(0,21),(1,22),(2,23),(3,24),(4,25),(5,26),(6,9)]) (prop:=Dg D m d w13.heap.size ka kr pb hb) (by decide) (by decide) 34 rfl (by decide) (fun _ _ _ _ h hb=>Og h hb) (i:=5) (s:=26) (by decide) rfl rfl ?_;intro a w6 K hb hs hd hsame hfact hK;have s21:a.tmps.getD 21 undef=.slice D m d:=hfact (0,21) (by decide) (by kernel_rfl);obtain ⟨gl,s25,hl2⟩:=hfact (4,25) (by decide) (by kernel_rfl);refine If rfl 13 [.tmp 21,.tmp 25] _ rfl [.slice D m d,.slice (some ⟨gl,0,none⟩) 2 2] ?_ (Ef Tryz.func13 (by kernel_rfl) (by kernel_rfl)) (CH.out gl w6 hl2 (hS.below (Ba hB13 hb)) (hP.below (Ba hB13 hb))) ?_
   ·simp only [List.map_cons,List.map_nil];rw [show a.eval (.tmp 21)=.slice D m d from s21,show a.eval (.tmp 25)=.slice (some ⟨gl,0,none⟩) 2 2 from s25]
   ·rintro e w7 ⟨rfl,hb7⟩;exact ⟨_,rfl,hK _ _ hb7 rfl⟩
  ·refine Xc (slots:=[(0,21),(1,22),(2,23),(3,24),(4,25),(5,26),(6,9)]) (prop:=Dg D m d w13.heap.size ka kr pb hb) (by decide) (by decide) 34 rfl (by decide) (fun _ _ _ _ h hb=>Og h hb) (i:=6) (s:=9) (by decide) rfl rfl ?_;intro a w6 K hb hs hd hsame hfact hK;exact WZ rfl 23 rfl Xa Zb (fun w' hb' hc'=>hK _ _ hb' ⟨_,rfl,hb.size,hc'⟩)
 ·intro f hf a w14 hA;obtain rfl:=List.mem_singleton.1 hf;have hB14:=Ba hB13 hA.below;obtain ⟨gh,s9,hgh,hvh14⟩:=hA.fact (6,9) (by decide) (by kernel_rfl);have hneoh:go≠gh:=Vaj (Waj hvo13.lt hgh);have hneah:ga≠gh:=Vaj (Waj hva13.lt hgh);have hnenh:gn≠gh:=Vaj (Waj hvn13.lt hgh);have hnerh:gr≠gh:=Vaj (Waj hvr13.lt hgh);have hgeh:w.heap.size≤gh:=Nat.le_trans hB13.size hgh;have hvo14:=hvo13.on hA.below;have hva14:=hva13.on hA.below;have hvn14:=hvn13.on hA.below;have hvr14:=hvr13.on hA.below;have s4:=hA.same 4 (by decide);have s5:=hA.same 5 (by decide);have s7:=hA.same 7 (by decide);have s8:=hA.same 8 (by decide);have s26:a.tmps.getD 26 undef=Ca hb:=hA.fact (5,26) (by decide) (by kernel_rfl);obtain ⟨u,rfl⟩:=TE a hA.size hA.defers;change u 4=.pointer (some ⟨go,0,none⟩) at s4;change u 5=.pointer (some ⟨ga,0,none⟩) at s5;change u 7=.pointer (some ⟨gn,0,none⟩) at s7;change u 8=.pointer (some ⟨gr,0,none⟩) at s8;change u 26=_ at s26;change u 9=_ at s9;rw [s4,s5,s7,s8,s26,s9];clear s4 s5 s7 s8 s26 s9 hA hgh hB13 rr ra hvo13 hva13 hvn13 hvr13;generalize u 0=u0 at *;generalize u 1=u1 at *;generalize u 2=u2 at *;generalize u 3=u3 at *;generalize u 6=u6 at *;generalize u 10=u10 at *;generalize u 11=u11 at *;generalize u 12=u12 at *;generalize u 13=u13 at *;generalize u 14=u14 at *;generalize u 15=u15 at *;generalize u 16=u16 at *;generalize u 17=u17 at *;generalize u 18=u18 at *;generalize u 19=u19 at *;generalize u 20=u20 at *;generalize u 21=u21 at *;generalize u 22=u22 at *;generalize u 23=u23 at *;generalize u 24=u24 at *;generalize u 25=u25 at *;generalize u 27=u27 at *;generalize u 28=u28 at *;generalize u 29=u29 at *;generalize u 30=u30 at *;generalize u 31=u31 at *;generalize u 32=u32 at *;generalize u 33=u33 at *;refine Bb 7 rfl (by kernel_rfl) ?_;simp only [List.drop_succ_cons,List.drop_zero];refine Ka rfl 23 (.tmp 9) (.tmp 26) rfl gh 32 Xa (hb.map Fa) rfl rfl hvh14 rfl za (by rw [Uaj,Hhb.out]) (Ab _) ?_;intro w15 hb15 hvh15 hz15;have hB15:Below w.heap.size w w15:=hB14.trans (hb15.below hgeh hB14.size);have hvo15:=hvo14.but hb15 hneoh;have hva15:=hva14.but hb15 hneah;have hvn15:=hvn14.but hb15 hnenh;have hvr15:=hvr14.but hb15 hnerh;clear hB14 hvh14 hb15 hz15 hvo14 hva14 hvn14 hvr14;rename_i K hKK;show Exit.then K _ Exit.normal _ w15;simp only [Exit.then];refine hKK _ _ ?_;clear hKK K;go_wp2_with fail
  replace hvo15:=hvo15.drew;replace hva15:=hva15.drew;replace hvn15:=hvn15.drew;replace hvr15:=hvr15.drew;replace hvh15:=hvh15.drew;have hBq:=(show Below w.heap.size w w15.drew from hB15.drew);refine wp_region_any (by kernel_rfl) ?_;refine Ya (L:=[0,1,2,3,4,5,6]) (by kernel_rfl) _ _ (Ix u0 u1 u2 u3 go ga u6 gn gr gh u10 u11 u12 u13 u14 u15 u16 u17 u18 u19 u20 u21 u22 u23 u24 u25 hb kr kn ka t z ob) [] 27 qJ [0,1,2,3,4,5,6,7,8,9,10,11,12,13,14,15,16,17,18,19,20,21,22,23,24,25,26] (by kernel_rfl) (by kernel_rfl) ?_ Kq ?_ (by rfl) ?_ 1 (by kernel_rfl) ?_
  ·intro p hp;exact absurd hp List.not_mem_nil
  ·repeat refine Aak rfl ?_
   exact Qa
  ·refine Aak (.inr (mL 27 rfl fun w hb=>Yf (hvr15.on hb) Hkr.out)) ?_;refine Aak (.inr (mL 28 rfl fun w hb=>Yf (hvn15.on hb) Hkn.out)) ?_;refine Aak (.inr (mL 29 rfl fun w hb=>Yf (hvh15.on hb) Hhb.out)) ?_;refine Aak (.inr (mL 30 rfl fun w hb=>Yf (hva15.on hb) Hka.out)) ?_;refine Aak (.inr (mC 31 rfl Tryz.func17 fun w hb=>CT.out w (hS.below (Ba hBq hb)))) ?_;refine Aak (.inr (mC 32 rfl Tryz.func16 fun w hb=>CA.out w (hS.below (Ba hBq hb)))) ?_;refine Aak (.inr (mC 33 rfl Tryz.func15 fun w hb=>CJ.out w)) ?_;exact Qa
  intro w16 g hb16 hN16 hap16;clear hN16 hap16;have hB16:=Ba (show Below w.heap.size w w15.drew from hB15.drew) hb16;have hvo16:=hvo15.on hb16;have hva16:=hva15.on hb16;have hvn16:=hvn15.on hb16;have hvr16:=hvr15.on hb16;have hvh16:=hvh15.on hb16;clear hB15 hvo15 hva15 hvn15 hvr15 hvh15 hb16 hBq;refine Bb 7 rfl (by kernel_rfl) ?_;refine Ka rfl 27 (.tmp 4) (.tmp 33) rfl go 64 qJ (ob.map Fa) rfl rfl hvo16 rfl Ie (by rw [Uaj,Hob.out]) (Ab _) ?_;intro w17 hb17 hvo17 hz17;have hB17:Below w.heap.size w w17:=hB16.trans (hb17.below hgeo hB16.size);have hva17:=hva16.but hb17 (Ne.symm hneoa);have hvn17:=hvn16.but hb17 (Ne.symm hneon);have hvr17:=hvr16.but hb17 (Ne.symm hneor);have hvh17:=hvh16.but hb17 (Ne.symm hneoh);clear hB16 hvo16 hb17 hz17 hva16 hvn16 hvr16 hvh16;rename_i K hKK;show Exit.then K _ Exit.normal (⟨(Ix u0 u1 u2 u3 go ga u6 gn gr gh u10 u11 u12 u13 u14 u15 u16 u17 u18 u19 u20 u21 u22 u23 u24 u25 hb kr kn ka t z ob).toArray,[]⟩:Act) w17;simp only [Exit.then];refine hKK _ _ ?_;clear hKK K g;simp only [Ix,ptr]
  go_wp2
  exact qc Tryz.results6 go (ob.map Fa) rfl hvo17 Tryz.underlying27 rfl Ie (by rw [Uaj,Hob.out]) rfl ⟨rfl,hB17⟩
theorem Gn {w:World} {g:Nat} {v:Value} (h:w.cell? ⟨g,0,none⟩=some v):(Instr.loadAt 57 (.pointer (some ⟨g,0,none⟩))).run Tryz.prog w=.ok v w:=by
 go_simp
def LT (kb:List UInt8) (g_base:Nat) (gz:Nat) (gx:Nat) (x:List Nat) (kx:List UInt8) (n:Bool):List Value:=
 (Ca kb)::ptr g_base::ptr gz::(.nilIface)::ptr gx::(Ca kb)::(Aa x)::(Aa x)::(Ca kx)::(Ca kb)::(.bool n)::ud 3 []
theorem WO (kb kx:List UInt8) (x zz res:List Nat) (er err:Value) (n:Bool) (w:World)
 (Hkb:Hid (kb.length=32))
 (Hx:Hid (x.length=5))
 (Hzz:Hid (zz.length=5))
 (CX:Hid (∀W,Calls Tryz.prog 97 #[Ca kb] W (gvn (Aa x) W)))
 (CB:Hid (∀W,Calls Tryz.prog 64 #[Aa x] W (gvn (Ca kx) W)))
 (EN:∀w,(binOp .neq 23 (Ca kx) (Ca kb)).run Tryz.prog w=.ok (.bool n) w)
 (BZ:∀w,(Instr.build 53 #[]).run Tryz.prog w=.ok (Aa zz) w)
 (H0:Hid (n=false→res=x∧err=.nilIface))
 (H1:Hid (n=true→res=zz∧err=er))
 (hE:w.cell? ⟨1,0,none⟩=some er):
 Calls Tryz.prog 55 #[Ca kb] w (gvn (.tuple #[Aa res,err]) w):=by
 go_enter Tryz.func55,Tryz.ntmps55;go_wp2_with (first
  |(refine Rb rfl 23 (.tmp 0) rfl kb rfl ?_
    intro w1 hb1 hvk1 hz;clear hz;have hB1:=hb1;have hgek:w.heap.size≤w.heap.size:=Xaj _;clear hb1;try simp only [La]
    skip)
  |(refine Ma (o:=⟨some 2,_,_,_,_,_⟩) rfl 53 rfl (Na 5) Fb ?_
    intro w2 hb2 hvz2;have hB2:=Ba hB1 hb2;have hgez:w.heap.size≤w1.heap.size:=hB1.size;have hvk2:=hvk1.on hb2;have hnekz:=Vaj hvk1.lt;clear hB1 hvk1 hb2;try simp only [La]
    skip)
  |(refine Tc rfl 23 (.tmp 1) rfl w.heap.size 32 kb 5 rfl hvk2 Tryz.underlying23 za Hkb.out ?_
    try simp only [La]
    skip))
 generalize hqz:w1.heap.size=gz at *;clear hqz;refine (CX.out w2).mono ?_;rintro e w3 ⟨rfl,hb3⟩;have hB3:=Ba hB2 hb3;have hvk3:=hvk2.on hb3;have hvz3:=hvz2.on hb3;clear hB2 hvk2 hvz2 hb3;go_wp2_with (first
  |(refine Db rfl rfl 53 (.tmp 4) (.tmp 6) rfl rfl 5 (Na 5) (x.map Ga) rfl rfl Fb rfl Sa (by rw [Uaj,Hx.out]) (Oa _) ?_
    intro w4 hb4 hvx4;have hB4:=Ba hB3 hb4;have hgex:w.heap.size≤w3.heap.size:=hB3.size;have hvk4:=hvk3.on hb4;have hnekx:=Vaj hvk3.lt;have hvz4:=hvz3.on hb4;have hnezx:=Vaj hvz3.lt;clear hB3 hvk3 hvz3 hb4;try simp only [La]
    skip))
 generalize hqx:w3.heap.size=gx at *;clear hqx;replace hvk4:=hvk4.drew;replace hvz4:=hvz4.drew;replace hvx4:=hvx4.drew;refine wp_region_any (by kernel_rfl) ?_;refine Ya (L:=[0,1,2,3]) (by kernel_rfl) _ _ (LT kb w.heap.size gz gx x kx n) [] 53 (Na 5) [0,1,2,3,4,5,6,11,12,13] (by kernel_rfl) (by kernel_rfl) ?_ Fb ?_ (by rfl) ?_ 0 (by kernel_rfl) ?_
 ·intro p hp;exact absurd hp List.not_mem_nil
 ·repeat refine Aak rfl ?_
  exact Qa
 ·refine Aak (.inr (mL 7 rfl fun w hb=>Gb (hvx4.on hb) Hx.out)) ?_;refine Aak (.inr (mC 8 rfl Tryz.func64 fun w hb=>CB.out w)) ?_;refine Aak (.inr (mL 9 rfl fun w hb=>Yf (hvk4.on hb) Hkb.out)) ?_;refine Aak (.inr (mB 10 rfl (fun w=>Cw _ _ _ _ _ w) (EN))) ?_;exact Qa
 intro w5 g hb5 hN5 hap5;clear hN5 hap5;have hB5:=Ba (show Below w.heap.size w w4.drew from hB4.drew) hb5;have hvk5:=hvk4.on hb5;have hvz5:=hvz4.on hb5;have hvx5:=hvx4.on hb5;clear hB4 hvk4 hvz4 hvx4 hb5;refine ⟨by kernel_rfl,?_⟩;rename_i K hKK;show Exit.then K _ Exit.normal (⟨(LT kb w.heap.size gz gx x kx n).toArray,[]⟩:Act) w5;simp only [Exit.then];refine hKK _ _ ?_;clear hKK K g;simp only [LT,ptr,ud];cases n
 ·obtain ⟨hr1,hr2⟩:=H0.out (by simp);go_wp2_with (first
   |(refine Pa rfl 53 (.tmp 4) rfl gx 5 (x.map Ga) rfl hvx5 Tryz.underlying53 rfl Sa (by rw [Uaj,Hx.out]) ?_
     try simp only [La]
     skip)
   |(refine Ka rfl 53 (.tmp 2) (.tmp 13) rfl gz 5 (Na 5) (x.map Ga) rfl rfl hvz5 rfl Sa (by rw [Uaj,Hx.out]) (Oa _) ?_
     intro w6 hb6 hvz6 hz6;have hB6:Below w.heap.size w w6:=hB5.trans (hb6.below hgez hB5.size);have hvk6:=hvk5.but hb6 hnekz;have hvx6:=hvx5.but hb6 (Ne.symm hnezx);clear hB5 hvz5 hb6 hz6 hvk5 hvx5;skip))
  exact Xf Tryz.results55 gz (x.map Ga) _ rfl rfl hvz6 Tryz.underlying53 rfl Sa (by rw [Uaj,Hx.out]) rfl ⟨by subst hr1;subst hr2;rfl,hB6⟩
 ·obtain ⟨hr1,hr2⟩:=H1.out (by simp);go_wp2_with fail
  have hlt:=block_lt_of_cell hE;have d0:w5.drew.cell? ⟨1,0,none⟩=some er:=(hB5.cell hlt).trans hE;have hne:1≠gz:=Vaj (Waj hlt hgez);have hzd:=hvz5.drew;have hBd:Below w.heap.size w w5.drew:=hB5.drew;have LE:∀w':World,w'.cell? ⟨1,0,none⟩=some er→(Instr.loadAt 57 (.pointer (some ⟨1,0,none⟩))).run Tryz.prog w'=.ok er w':=fun w' h=>Gn h;refine wp_region_any (by kernel_rfl) ?_;show wpAny _ _ _ _ _ _ _ w5.drew;simp only [List.size_toArray,List.length_cons,List.length_nil,Nat.reduceAdd,Array.replicate_succ,Array.replicate_zero,List.push_toArray,List.nil_append,List.cons_append];generalize w5.drew=wd at *;refine wpAny_take (i:=0) (oi:=⟨some 11,_,_,_,_,_⟩) (v:=Aa zz) rfl (by kernel_rfl) (by kernel_rfl) (by kernel_rfl) (fun _ _ _ h=>h) (Or.inl ⟨by rfl,?_⟩) ?_
  ·intro w8;simp [execOp,BZ w8]
  try simp only [La]
  refine wpAny_all (rs:=[1,2]) (by kernel_rfl) (by decide) fun i hi=>?_;rcases List.mem_cons.1 hi with rfl|hi
  ·refine wpOp_step rfl fun K1 hK1=>?_;rw [if_pos (by rfl)];refine Mc er (Yc _ _ _ _ rfl _ _ rfl _ (LE _ d0)) (hK1 _ _ ?_);try simp only [La]
   refine Bb 2 rfl (by kernel_rfl) ?_;refine Ka rfl 53 (.tmp 2) (.tmp 11) rfl gz 5 (Na 5) (zz.map Ga) rfl rfl hzd rfl Sa (by rw [Uaj,Hzz.out]) (Oa _) ?_;intro w9 hb9 hz9 hs9;have hB9:Below w.heap.size w w9:=hBd.trans (hb9.below hgez hBd.size);refine Yj rfl (.inr rfl) er (by rfl) ?_;clear hK1;go_wp2_with fail
   exact Xf Tryz.results55 gz (zz.map Ga) _ rfl rfl hz9 Tryz.underlying53 rfl Sa (by rw [Uaj,Hzz.out]) rfl ⟨by subst hr1;subst hr2;rfl,hB9⟩
  rcases List.mem_cons.1 hi with rfl|hi
  ·refine wpOp_step rfl fun K1 hK1=>?_;rw [if_pos (by rfl)];refine wp_store_mid 53 (.tmp 2) (.tmp 11) rfl gz 0 (zz.map Ga).toArray rfl rfl (by rw [List.size_toArray,Uaj,Hzz.out];exact hzd.there 0 5 (by decide)) (by rw [List.size_toArray,Uaj,Hzz.out];exact Sa) (Oa _) (hK1 _ _ ?_);have hC2:=hzd.setCells (cs:=zz.map Ga) (o:=0) (by rw [Uaj,Hzz.out];decide);rw [Xb _ _ (by rw [Uaj,Hzz.out];rfl)] at hC2;have hb9:But gz wd (wd.setCells gz 0 (zz.map Ga)):=(But.refl _ _).setCells _ _;have hB9:Below w.heap.size w (wd.setCells gz 0 (zz.map Ga)):=hBd.trans (hb9.below hgez hBd.size);have d1:(wd.setCells gz 0 (zz.map Ga)).cell? ⟨1,0,none⟩=some er:=(World.cell?_of_block (hb9.block _ (block_lt_of_cell d0) hne)).trans d0;change wpAny _ _ _ _ _ _ _ (wd.setCells gz 0 (zz.map Ga));have hz9:=hC2;clear hC2 hb9 hK1;generalize wd.setCells gz 0 (zz.map Ga)=w9 at *;refine wpAny_all (rs:=[1]) (by kernel_rfl) (by decide) fun i hi=>?_;rcases List.mem_cons.1 hi with rfl|hi
   ·refine wpOp_step rfl fun K1 hK1=>?_;rw [if_pos (by rfl)];refine Mc er (Yc _ _ _ _ rfl _ _ rfl _ (LE _ d1)) (hK1 _ _ ?_);try simp only [La]
    refine Bb 3 rfl (by kernel_rfl) ?_;refine Yj rfl (.inr rfl) er (by rfl) ?_;clear hK1;go_wp2_with fail
    exact Xf Tryz.results55 gz (zz.map Ga) _ rfl rfl hz9 Tryz.underlying53 rfl Sa (by rw [Uaj,Hzz.out]) rfl ⟨by subst hr1;subst hr2;rfl,hB9⟩
   exact absurd hi List.not_mem_nil
  exact absurd hi List.not_mem_nil
end Go.Proofs.YtoggkhjaghkpnaaGreatDoor
