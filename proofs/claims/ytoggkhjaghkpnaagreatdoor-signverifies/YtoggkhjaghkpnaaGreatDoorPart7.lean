/- Part 7 of what the laws of this seat share: FPow, FEq, WTab, FRoot. -/
import Derived.IntWalk
import Derived.Stop.BytesEq
import Derived.Test.YtoggkhjaghkpnaaGreatDoorPart6
set_option maxRecDepth 100000
set_option maxHeartbeats 8000000
namespace Go.Proofs.YtoggkhjaghkpnaaGreatDoor
open Go.RowKit
theorem Gb {w:World} {g:Nat} {l:List Nat} {t':TypeId} (hC:Ia w g (l.map Ga) t') (hl:l.length=5):(Instr.loadAt 53 (.pointer (some ⟨g,0,none⟩))).run Tryz.prog w=.ok (Aa l) w:=by
 have h:=run_loadVar_row (P:=Tryz.prog) w g t' 53 (l.map Ga).toArray (0,0) _ hC Tryz.underlying53 rfl (by rw [List.size_toArray,Uaj,hl];exact Sa);simp only [Instr.loadAt,Instr.sureAddr,Sem.run_bind,Sem.run_pure,Result.andThen_ok];exact h
theorem II (a r:List Nat) (t:Nat) (T:Nat→List Nat) (w:World) (ht:t<1000) (HL:Hid (∀j,(T j).length=5)) (H0:Hid (T t=a)) (HR:Hid (T 0=r))
 (CS:Hid (∀j,j<t→∀W,Calls Tryz.prog 99 #[Aa (T (j+1))] W (gvn (Aa (T j)) W))):
 Calls Tryz.prog 109 #[Aa a,.int .i64 t] w (gvn (Aa r) w):=by
 go_enter Tryz.func109,Tryz.ntmps109;go_wp2_with (first
  |(refine Ra rfl 53 (.tmp 0) rfl (a.map Ga) rfl ?_
    intro w1 hB1 hA1)
  |(refine Ma rfl 53 rfl (Na 5) Fb ?_
    intro w3 hb3 hZ3;have hB3:=Ba hB1 hb3;have hA3:=hA1.on hb3;have hlt:=hA1.lt;clear hB1 hA1 hb3))
 generalize hgz:w1.heap.size=gz at *;clear hgz;refine Yl 0 (fun a' w'=>∃(j:Nat) (u5 u6 u7 u8 u9 u10 u11:Value),j≤t∧Below w.heap.size w w'∧Ia w' w.heap.size ((T j).map Ga) 53∧Ia w' gz (Na 5) 53∧
  a'= {tmps:=#[Aa a,.int .i64 (j:Int),.pointer (some ⟨w.heap.size,0,none⟩),undef,.pointer (some ⟨gz,0,none⟩),u5,u6,u7,u8,u9,u10,u11],defers:=[]})
  (fun a' _=>(intOf (a'.tmps.getD 1 undef)).toNat) rfl ?_ ?_
 ·intro hp
  go_wp2
  go_step3
  rename_i K hK;exact hK _ _ (hp.out _ _ ⟨t,_,_,_,_,_,_,_,Xaj _,hB3,by rw [H0.out];exact hA3,hZ3,rfl⟩)
 ·clear hB3 hA3 hZ3;rintro a' w' ⟨j,u5,u6,u7,u8,u9,u10,u11,hj,hB,hA,hZ,rfl⟩;have HLj:=Lib.hid (HL.out j);by_cases h0:0<j
  ·obtain ⟨k,rfl⟩:∃k,j=k+1:=⟨j-1,by omega⟩;have HLk:=Lib.hid (HL.out k);have HC:=Lib.hid (CS.out k (by omega));have i1:(0:Int)<((k+1:Nat):Int):=by omega
   have i2:IntKind.i64.wrap (((k+1:Nat):Int)-1)=(k:Int):=by rw [IntWalk.i64_in _ (by omega)];omega
   obtain ⟨s,HS⟩:=Nb (T (k+1));obtain ⟨q,HQ⟩:=Nb (T k);obtain ⟨m,HM⟩:=Nb (((k+1:Nat):Int));have HMV:=HM.out;rw [HM.out] at i1 i2 ⊢;rw [HS.out] at hA HLj HC;rw [HQ.out] at HLk HC;clear CS H0 HR HL;go_wp2_with (first
    |(refine Pa rfl 53 (.tmp 2) rfl w.heap.size 5 (s.map Ga) rfl hA Tryz.underlying53 rfl Sa (by rw [Uaj,HLj.out]) ?_))
   refine (HC.out w').mono ?_;rintro e w4 ⟨rfl,hb4⟩;have hB4:=Ba hB hb4;have hA4:=hA.on hb4;have hZ4:=hZ.on hb4;clear HC hB hA hZ hb4;go_wp2_with (first
    |(refine Ka rfl 53 _ _ rfl w.heap.size 5 (s.map Ga) (q.map Ga) rfl rfl hA4 (by rw [Uaj,HLj.out]) Sa (by rw [Uaj,HLk.out]) (Oa _) ?_
      intro w6 hb6 hC6 _;have hB6:=hB4.trans (hb6.below (Xaj _) hB4.size);have hZ6:=hZ4.but hb6 (by omega);clear hB4 hA4 hZ4 hb6))
   go_step3
   exact ⟨rfl,⟨k,_,_,_,_,_,_,_,by omega,hB6,by rw [HQ.out];exact hC6,hZ6,rfl⟩,by simp [intOf];omega⟩
  ·obtain rfl:j=0:=by omega
   rw [HR.out] at hA HLj;go_wp2_with (first
    |(refine Pa rfl 53 (.tmp 2) rfl w.heap.size 5 (r.map Ga) rfl hA Tryz.underlying53 rfl Sa (by rw [Uaj,HLj.out]) ?_)
    |(refine Ka rfl 53 _ _ rfl gz 5 (Na 5) (r.map Ga) rfl rfl hZ rfl Sa (by rw [Uaj,HLj.out]) (Oa _) ?_
      intro w6 hb6 hC6 _))
   simp only [Exit.jump];refine qc Tryz.results109 gz (r.map Ga) rfl hC6 Tryz.underlying53 rfl Sa (by rw [Uaj,HLj.out]) rfl ⟨rfl,hB.trans (hb6.below (by omega) hB.size)⟩
def sqN (n:Nat):Nat→Nat
 |0=>n
 |k+1=>sqN n k*sqN n k%pp
theorem yac {n:Nat} (h:n<pp):∀k,sqN n k<pp
 |0=>h
 |k+1=>Nat.mod_lt _ (by decide)
theorem SU {n:Nat} (h:n<pp):∀k,sqN n k=n^2^k%pp
 |0=>by rw [sqN,Nat.pow_zero,Nat.pow_one,yaj h]
 |k+1=>by rw [sqN,SU h k,←Nat.mul_mod,Nat.pow_succ 2,Nat.pow_mul,Nat.pow_two]
theorem Xx (n t:Nat) (w:World) (hn:n<pp) (ht:t<1000):Calls Tryz.prog 109 #[elV n,.int .i64 t] w (gvn (elV (n^2^t%pp)) w):=by
 rw [←SU hn t];refine II (Va n) (Va (sqN n t)) t (fun j=>Va (sqN n (t-j))) w ht (fun _=>rfl) ?_ ?_ ?_
 ·show Va (sqN n (t-t))=_;rw [Nat.sub_self];rfl
 ·rfl
 ·intro j h W;have e:t-j=(t-(j+1))+1:=by omega
  have h2:=Uj (sqN n (t-(j+1))) W (yac hn _);show Calls _ _ #[Aa (Va (sqN n (t-(j+1))))] W fun e w'=>e=.returned (Aa (Va (sqN n (t-j))))∧_;rw [e];exact h2
def R1 (a b s r:List Nat) (t:Nat) (ga gb gz:Nat):List Value:=
 (Aa a)::(.int .i64 (t:Int))::(Aa b)::ptr ga::undef::ptr gb::ptr gz::(Aa a)::(.int .i64 (t:Int))::(Aa s)::(Aa b)::(Aa r)::[]
theorem qW (a b s r:List Nat) (t:Nat) (w:World) (HA:Hid (a.length=5)) (HB:Hid (b.length=5)) (HR:Hid (r.length=5))
 (CS:Hid (∀W,Calls Tryz.prog 109 #[Aa a,.int .i64 t] W (gvn (Aa s) W))) (CT:Hid (∀W,Calls Tryz.prog 63 #[Aa s,Aa b] W (gvn (Aa r) W))):
 Calls Tryz.prog 133 #[Aa a,.int .i64 t,Aa b] w (gvn (Aa r) w):=by
 go_enter Tryz.func133,Tryz.ntmps133;go_wp2_with (first
  |(refine Ra rfl 53 (.tmp 0) rfl (a.map Ga) rfl ?_
    intro w1 hB1 hAa;try simp only [La]
    skip)
  |(refine Ra rfl 53 (.tmp 2) rfl (b.map Ga) rfl ?_
    intro w2 hb hAb;have hB2:=Ba hB1 hb;have hga:=hAa.lt;replace hAa:=hAa.on hb;clear hB1 hb;try simp only [La]
    skip)
  |(refine Ma rfl 53 rfl (Na 5) Fb ?_
    intro w9 hb hZ;have hB:=Ba hB2 hb;have hle:=hB2.size;have hla:=hAa.lt;have hlb:=hAb.lt;replace hAa:=hAa.on hb;replace hAb:=hAb.on hb;clear hB2 hb;try simp only [La]
    skip))
 generalize hgz:w2.heap.size=gz at *;generalize hg1:w1.heap.size=gb at *;clear hgz hg1;refine wp_region_any (by kernel_rfl) ?_;refine Dd (L:=[0,1,2,3,4]) (by kernel_rfl) _ _ (R1 a b s r t w.heap.size gb gz) [0,1,2,3,4,5,6] (by kernel_rfl) ?_ (by rfl) ?_ 1 (by kernel_rfl) ?_
 ·repeat refine Aak rfl ?_
  exact Qa
 ·change ∀i∈_,Le _ _ _ _ _ w9.drew _ i;refine Aak (sL 7 rfl fun w hb=>Gb (hAa.drew.on hb) HA.out) ?_;refine Aak (Pc _ 8 rfl rfl rfl (by kernel_rfl) (by kernel_rfl) fun a w hb hv=>Lb _ _ _ (.inl rfl) _ (hv 1 (by kernel_rfl)) w) ?_;refine Aak (sC 9 rfl Tryz.func109 fun w hb=>CS.out w) ?_;refine Aak (sL 10 rfl fun w hb=>Gb (hAb.drew.on hb) HB.out) ?_;refine Aak (sC 11 rfl Tryz.func63 fun w hb=>CT.out w) ?_;exact Qa
 intro w4 hb4;have hB4:=Ba (show Below w.heap.size w w9.drew from hB.drew) hb4;have hZ4:=hZ.drew.on hb4;refine Bb 5 rfl (by kernel_rfl) ?_;refine Ka rfl 53 (.tmp 6) (.tmp 11) rfl gz 5 (Na 5) (r.map Ga) rfl rfl hZ4 rfl Sa (by rw [Uaj,HR.out]) (Oa _) ?_;intro w7 hb7 hC7 hz7;generalize hF:(⟨(R1 a b s r t w.heap.size gb gz).toArray,[]⟩:Act)=F;rename_i K hKK;show Exit.then K _ Exit.normal (F.put none undef) w7;simp only [Exit.then];refine hKK _ _ ?_;refine wp_ret ?_;subst hF;exact qc Tryz.results133 gz (r.map Ga) rfl hC7 Tryz.underlying53 rfl Sa (by rw [Uaj,HR.out]) rfl ⟨rfl,hB4.trans (hb7.below (by omega) hB4.size)⟩
theorem U1 (n m t:Nat) (w:World) (hn:n<pp) (hm:m<pp) (ht:t<1000):Calls Tryz.prog 133 #[elV n,.int .i64 t,elV m] w (gvn (elV (n^2^t%pp*m%pp)) w):=
 qW (Va n) (Va m) (Va (n^2^t%pp)) (Va (n^2^t%pp*m%pp)) t w rfl rfl rfl (fun W=>Xx n t W hn ht) (fun W=>zk _ _ W (Nat.mod_lt _ (by decide)) hm)
def pwN (n e:Nat):Nat:=n^e%pp
theorem Sn (n e:Nat):pwN n e<pp:=Nat.mod_lt _ (by decide)
theorem zq {n:Nat} (h:n<pp):pwN n 1=n:=by rw [pwN,Nat.pow_one,yaj h]
theorem V1 (n a t:Nat):pwN n a^2^t%pp=pwN n (a*2^t):=by rw [pwN,pwN,←Nat.pow_mod,←Nat.pow_mul]
theorem JI (n a b:Nat):pwN n a*pwN n b%pp=pwN n (a+b):=by rw [pwN,pwN,pwN,←Nat.mul_mod,←Nat.pow_add]
theorem yh (n a b c t:Nat) (w:World) (ht:t<1000) (hc:a*2^t+b=c):Calls Tryz.prog 133 #[elV (pwN n a),.int .i64 t,elV (pwN n b)] w (gvn (elV (pwN n c)) w):=by
 have h:=U1 (pwN n a) (pwN n b) t w (Sn _ _) (Sn _ _) ht;rw [V1,JI,hc] at h;exact h
def G2 (a hundred fifty big r:List Nat) (ga gz g3 g4 g5 g6 g7 g8 g9 g10:Nat) (u:Nat→List Nat):List Value:=
 (Aa a)::ptr ga::ptr gz::ptr g3::ptr g4::ptr g5::ptr g6::ptr g7::ptr g8::ptr g9::ptr g10::(Aa (u 11))::(Aa (u 12))::(Aa (u 13))::(Aa (u 14))::(Aa (u 15))::(Aa (u 16))::(Aa (u 17))::(Aa (u 18))::(Aa (u 19))::(Aa (u 20))::(Aa (u 21))::(Aa (u 22))::(Aa (u 23))::(Aa (u 24))::(Aa (u 25))::(Aa (u 26))::(Aa (u 27))::(Aa (u 28))::(Aa (u 29))::(Aa (u 30))::(Aa (u 31))::(Aa (u 32))::(Aa (u 33))::(Aa (u 34))::(Aa hundred)::(Aa hundred)::(Aa big)::(Aa fifty)::(Aa r)::[]
theorem KI (a two four five ten twenty forty fifty hundred big r:List Nat) (w:World) (Ha:Hid (a.length=5)) (Htwo:Hid (two.length=5)) (Hfour:Hid (four.length=5)) (Hfive:Hid (five.length=5)) (Hten:Hid (ten.length=5)) (Htwenty:Hid (twenty.length=5)) (Hforty:Hid (forty.length=5)) (Hfifty:Hid (fifty.length=5)) (Hhundred:Hid (hundred.length=5)) (Hr:Hid (r.length=5))
 (C0:Hid (∀W,Calls Tryz.prog 133 #[Aa a,.int .i64 1,Aa a] W (gvn (Aa two) W)))
 (C1:Hid (∀W,Calls Tryz.prog 133 #[Aa two,.int .i64 2,Aa two] W (gvn (Aa four) W)))
 (C2:Hid (∀W,Calls Tryz.prog 133 #[Aa four,.int .i64 1,Aa a] W (gvn (Aa five) W)))
 (C3:Hid (∀W,Calls Tryz.prog 133 #[Aa five,.int .i64 5,Aa five] W (gvn (Aa ten) W)))
 (C4:Hid (∀W,Calls Tryz.prog 133 #[Aa ten,.int .i64 10,Aa ten] W (gvn (Aa twenty) W)))
 (C5:Hid (∀W,Calls Tryz.prog 133 #[Aa twenty,.int .i64 20,Aa twenty] W (gvn (Aa forty) W)))
 (C6:Hid (∀W,Calls Tryz.prog 133 #[Aa forty,.int .i64 10,Aa ten] W (gvn (Aa fifty) W)))
 (C7:Hid (∀W,Calls Tryz.prog 133 #[Aa fifty,.int .i64 50,Aa fifty] W (gvn (Aa hundred) W)))
 (C8:Hid (∀W,Calls Tryz.prog 133 #[Aa hundred,.int .i64 100,Aa hundred] W (gvn (Aa big) W)))
 (C9:Hid (∀W,Calls Tryz.prog 133 #[Aa big,.int .i64 50,Aa fifty] W (gvn (Aa r) W)))
 :Calls Tryz.prog 110 #[Aa a] w (gvn (Aa r) w):=by
 go_enter Tryz.func110,Tryz.ntmps110;go_wp2_with (first
  |(refine Ra rfl 53 (.tmp 0) rfl (a.map Ga) rfl ?_
    intro w1 hB1 hva;try simp only [La]
    skip)
  |(refine Ma (o:=⟨some 2,_,_,_,_,_⟩) rfl 53 rfl (Na 5) Fb ?_
    intro w0 hb hZ;have hB:=Ba hB1 hb;have hle:=hB1.size;replace hva:=hva.on hb;clear hB1 hb;try simp only [La]
    skip)
  |(refine Pa rfl 53 (.tmp 1) rfl w.heap.size 5 (a.map Ga) rfl hva Tryz.underlying53 rfl Sa (by rw [Uaj,Ha.out]) ?_
    try simp only [La]
    skip))
 generalize hgz:w1.heap.size=gz at *;clear hgz;refine (C0.out w0).mono ?_;rintro e x1 ⟨rfl,hb⟩;replace hB:=Ba hB hb;replace hZ:=hZ.on hb;replace hva:=hva.on hb;clear C0 hb;go_wp2_with (first
  |(refine Db rfl rfl 53 (.tmp 3) _ rfl rfl 5 (Na 5) (two.map Ga) rfl rfl Fb rfl Sa (by rw [Uaj,Htwo.out]) (Oa _) ?_
    intro x2 hb hvtwo;replace hB:=Ba hB hb;replace hZ:=hZ.on hb;replace hva:=hva.on hb;clear hb;try simp only [La]
    skip)
  |(refine Pa rfl 53 (.tmp 3) rfl x1.heap.size 5 (two.map Ga) rfl hvtwo Tryz.underlying53 rfl Sa (by rw [Uaj,Htwo.out]) ?_
    try simp only [La]
    skip))
 generalize hg:x1.heap.size=gtwo at *;clear hg;refine (C1.out x2).mono ?_;rintro e x3 ⟨rfl,hb⟩;replace hB:=Ba hB hb;replace hZ:=hZ.on hb;replace hva:=hva.on hb;clear C1 hb;go_wp2_with (first
  |(refine Db rfl rfl 53 (.tmp 4) _ rfl rfl 5 (Na 5) (four.map Ga) rfl rfl Fb rfl Sa (by rw [Uaj,Hfour.out]) (Oa _) ?_
    intro x4 hb hvfour;replace hB:=Ba hB hb;replace hZ:=hZ.on hb;replace hva:=hva.on hb;clear hb;try simp only [La]
    skip)
  |(refine Pa rfl 53 (.tmp 4) rfl x3.heap.size 5 (four.map Ga) rfl hvfour Tryz.underlying53 rfl Sa (by rw [Uaj,Hfour.out]) ?_
    try simp only [La]
    skip)
  |(refine Pa rfl 53 (.tmp 1) rfl w.heap.size 5 (a.map Ga) rfl hva Tryz.underlying53 rfl Sa (by rw [Uaj,Ha.out]) ?_
    try simp only [La]
    skip))
 generalize hg:x3.heap.size=gfour at *;clear hg;refine (C2.out x4).mono ?_;rintro e x5 ⟨rfl,hb⟩;replace hB:=Ba hB hb;replace hZ:=hZ.on hb;clear C2 hb;go_wp2_with (first
  |(refine Db rfl rfl 53 (.tmp 5) _ rfl rfl 5 (Na 5) (five.map Ga) rfl rfl Fb rfl Sa (by rw [Uaj,Hfive.out]) (Oa _) ?_
    intro x6 hb hvfive;replace hB:=Ba hB hb;replace hZ:=hZ.on hb;clear hb;try simp only [La]
    skip)
  |(refine Pa rfl 53 (.tmp 5) rfl x5.heap.size 5 (five.map Ga) rfl hvfive Tryz.underlying53 rfl Sa (by rw [Uaj,Hfive.out]) ?_
    try simp only [La]
    skip))
 generalize hg:x5.heap.size=gfive at *;clear hg;refine (C3.out x6).mono ?_;rintro e x7 ⟨rfl,hb⟩;replace hB:=Ba hB hb;replace hZ:=hZ.on hb;clear C3 hb;go_wp2_with (first
  |(refine Db rfl rfl 53 (.tmp 6) _ rfl rfl 5 (Na 5) (ten.map Ga) rfl rfl Fb rfl Sa (by rw [Uaj,Hten.out]) (Oa _) ?_
    intro x8 hb hvten;replace hB:=Ba hB hb;replace hZ:=hZ.on hb;clear hb;try simp only [La]
    skip)
  |(refine Pa rfl 53 (.tmp 6) rfl x7.heap.size 5 (ten.map Ga) rfl hvten Tryz.underlying53 rfl Sa (by rw [Uaj,Hten.out]) ?_
    try simp only [La]
    skip))
 generalize hg:x7.heap.size=gten at *;clear hg;refine (C4.out x8).mono ?_;rintro e x9 ⟨rfl,hb⟩;replace hB:=Ba hB hb;replace hZ:=hZ.on hb;replace hvten:=hvten.on hb;clear C4 hb;go_wp2_with (first
  |(refine Db rfl rfl 53 (.tmp 7) _ rfl rfl 5 (Na 5) (twenty.map Ga) rfl rfl Fb rfl Sa (by rw [Uaj,Htwenty.out]) (Oa _) ?_
    intro x10 hb hvtwenty;replace hB:=Ba hB hb;replace hZ:=hZ.on hb;replace hvten:=hvten.on hb;clear hb;try simp only [La]
    skip)
  |(refine Pa rfl 53 (.tmp 7) rfl x9.heap.size 5 (twenty.map Ga) rfl hvtwenty Tryz.underlying53 rfl Sa (by rw [Uaj,Htwenty.out]) ?_
    try simp only [La]
    skip))
 generalize hg:x9.heap.size=gtwenty at *;clear hg;refine (C5.out x10).mono ?_;rintro e x11 ⟨rfl,hb⟩;replace hB:=Ba hB hb;replace hZ:=hZ.on hb;replace hvten:=hvten.on hb;clear C5 hb;go_wp2_with (first
  |(refine Db rfl rfl 53 (.tmp 8) _ rfl rfl 5 (Na 5) (forty.map Ga) rfl rfl Fb rfl Sa (by rw [Uaj,Hforty.out]) (Oa _) ?_
    intro x12 hb hvforty;replace hB:=Ba hB hb;replace hZ:=hZ.on hb;replace hvten:=hvten.on hb;clear hb;try simp only [La]
    skip)
  |(refine Pa rfl 53 (.tmp 8) rfl x11.heap.size 5 (forty.map Ga) rfl hvforty Tryz.underlying53 rfl Sa (by rw [Uaj,Hforty.out]) ?_
    try simp only [La]
    skip)
  |(refine Pa rfl 53 (.tmp 6) rfl gten 5 (ten.map Ga) rfl hvten Tryz.underlying53 rfl Sa (by rw [Uaj,Hten.out]) ?_
    try simp only [La]
    skip))
 generalize hg:x11.heap.size=gforty at *;clear hg;refine (C6.out x12).mono ?_;rintro e x13 ⟨rfl,hb⟩;replace hB:=Ba hB hb;replace hZ:=hZ.on hb;clear C6 hb;go_wp2_with (first
  |(refine Db rfl rfl 53 (.tmp 9) _ rfl rfl 5 (Na 5) (fifty.map Ga) rfl rfl Fb rfl Sa (by rw [Uaj,Hfifty.out]) (Oa _) ?_
    intro x14 hb hvfifty;replace hB:=Ba hB hb;replace hZ:=hZ.on hb;clear hb;try simp only [La]
    skip)
  |(refine Pa rfl 53 (.tmp 9) rfl x13.heap.size 5 (fifty.map Ga) rfl hvfifty Tryz.underlying53 rfl Sa (by rw [Uaj,Hfifty.out]) ?_
    try simp only [La]
    skip))
 generalize hg:x13.heap.size=gfifty at *;clear hg;refine (C7.out x14).mono ?_;rintro e x15 ⟨rfl,hb⟩;replace hB:=Ba hB hb;replace hZ:=hZ.on hb;replace hvfifty:=hvfifty.on hb;clear C7 hb;go_wp2_with (first
  |(refine Db rfl rfl 53 (.tmp 10) _ rfl rfl 5 (Na 5) (hundred.map Ga) rfl rfl Fb rfl Sa (by rw [Uaj,Hhundred.out]) (Oa _) ?_
    intro x16 hb hvhundred;replace hB:=Ba hB hb;replace hZ:=hZ.on hb;replace hvfifty:=hvfifty.on hb;clear hb;try simp only [La]
    skip))
 generalize hg:x15.heap.size=ghundred at *;clear hg;obtain ⟨u,hu⟩:∃u:Nat→List Nat,u 11=a∧u 12=a∧u 13=two∧u 14=two∧u 15=two∧u 16=four∧u 17=four∧u 18=a∧u 19=five∧u 20=five∧u 21=five∧u 22=ten∧u 23=ten∧u 24=ten∧u 25=twenty∧u 26=twenty∧u 27=twenty∧u 28=forty∧u 29=forty∧u 30=ten∧u 31=fifty∧u 32=fifty∧u 33=fifty∧u 34=hundred:=⟨fun k=>match k with |11=>a|12=>a|13=>two|14=>two|15=>two|16=>four|17=>four|18=>a|19=>five|20=>five|21=>five|22=>ten|23=>ten|24=>ten|25=>twenty|26=>twenty|27=>twenty|28=>forty|29=>forty|30=>ten|31=>fifty|32=>fifty|33=>fifty|34=>hundred|_=> [],rfl,rfl,rfl,rfl,rfl,rfl,rfl,rfl,rfl,rfl,rfl,rfl,rfl,rfl,rfl,rfl,rfl,rfl,rfl,rfl,rfl,rfl,rfl,rfl⟩;obtain ⟨u11,u12,u13,u14,u15,u16,u17,u18,u19,u20,u21,u22,u23,u24,u25,u26,u27,u28,u29,u30,u31,u32,u33,u34⟩:=hu;refine wp_region_any (by kernel_rfl) ?_;refine Dd (L:=[0,1,2,3,4]) (by kernel_rfl) _ _ (G2 a hundred fifty big r w.heap.size gz gtwo gfour gfive gten gtwenty gforty gfifty ghundred u) [0,1,2,3,4,5,6,7,8,9,10,11,12,13,14,15,16,17,18,19,20,21,22,23,24,25,26,27,28,29,30,31,32,33,34] (by kernel_rfl) ?_ (by rfl) ?_ 1 (by kernel_rfl) ?_
 ·exact Aak (rfl) (Aak (rfl) (Aak (rfl) (Aak (rfl) (Aak (rfl) (Aak (rfl) (Aak (rfl) (Aak (rfl) (Aak (rfl) (Aak (rfl) (Aak (rfl) (Aak (congrArg Aa u11.symm) (Aak (congrArg Aa u12.symm) (Aak (congrArg Aa u13.symm) (Aak (congrArg Aa u14.symm) (Aak (congrArg Aa u15.symm) (Aak (congrArg Aa u16.symm) (Aak (congrArg Aa u17.symm) (Aak (congrArg Aa u18.symm) (Aak (congrArg Aa u19.symm) (Aak (congrArg Aa u20.symm) (Aak (congrArg Aa u21.symm) (Aak (congrArg Aa u22.symm) (Aak (congrArg Aa u23.symm) (Aak (congrArg Aa u24.symm) (Aak (congrArg Aa u25.symm) (Aak (congrArg Aa u26.symm) (Aak (congrArg Aa u27.symm) (Aak (congrArg Aa u28.symm) (Aak (congrArg Aa u29.symm) (Aak (congrArg Aa u30.symm) (Aak (congrArg Aa u31.symm) (Aak (congrArg Aa u32.symm) (Aak (congrArg Aa u33.symm) (Aak (congrArg Aa u34.symm) (Qa)))))))))))))))))))))))))))))))))))
 ·change ∀i∈_,Le _ _ _ _ _ x16.drew _ i;refine Aak (sL 35 rfl fun w hb=>Gb (hvhundred.drew.on hb) Hhundred.out) ?_;refine Aak (sL 36 rfl fun w hb=>Gb (hvhundred.drew.on hb) Hhundred.out) ?_;refine Aak (sC 37 rfl Tryz.func133 fun w hb=>C8.out w) ?_;refine Aak (sL 38 rfl fun w hb=>Gb (hvfifty.drew.on hb) Hfifty.out) ?_;refine Aak (sC 39 rfl Tryz.func133 fun w hb=>C9.out w) ?_;exact Qa
 intro w4 hb4;have hB4:=Ba (show Below w.heap.size w x16.drew from hB.drew) hb4;have hZ4:=hZ.drew.on hb4;refine Bb 5 rfl (by kernel_rfl) ?_;refine Ka rfl 53 (.tmp 2) (.tmp 39) rfl gz 5 (Na 5) (r.map Ga) rfl rfl hZ4 rfl Sa (by rw [Uaj,Hr.out]) (Oa _) ?_;intro w7 hb7 hC7 hz7;generalize hF:(⟨(G2 a hundred fifty big r w.heap.size gz gtwo gfour gfive gten gtwenty gforty gfifty ghundred u).toArray,[]⟩:Act)=F;rename_i K hKK;show Exit.then K _ Exit.normal (F.put none undef) w7;simp only [Exit.then];refine hKK _ _ ?_;refine wp_ret ?_;subst hF;exact qc Tryz.results110 gz (r.map Ga) rfl hC7 Tryz.underlying53 rfl Sa (by rw [Uaj,Hr.out]) rfl ⟨rfl,hB4.trans (hb7.below (by omega) hB4.size)⟩
theorem RL (n:Nat) (w:World) (hn:n<pp):Calls Tryz.prog 110 #[elV n] w (gvn (elV (pwN n 1809251394333065553493296640760748560207343510400633813116524750123642650623)) w):=by
 have h:=KI (Va (pwN n 1)) (Va (pwN n 3)) (Va (pwN n 15)) (Va (pwN n 31)) (Va (pwN n 1023)) (Va (pwN n 1048575)) (Va (pwN n 1099511627775)) (Va (pwN n 1125899906842623)) (Va (pwN n 1267650600228229401496703205375)) (Va (pwN n 1606938044258990275541962092341162602522202993782792835301375)) (Va (pwN n 1809251394333065553493296640760748560207343510400633813116524750123642650623)) w rfl rfl rfl rfl rfl rfl rfl rfl rfl rfl
  (fun W=>yh n 1 1 3 1 W (by decide) (by decide)) (fun W=>yh n 3 3 15 2 W (by decide) (by decide)) (fun W=>yh n 15 1 31 1 W (by decide) (by decide)) (fun W=>yh n 31 31 1023 5 W (by decide) (by decide)) (fun W=>yh n 1023 1023 1048575 10 W (by decide) (by decide)) (fun W=>yh n 1048575 1048575 1099511627775 20 W (by decide) (by decide)) (fun W=>yh n 1099511627775 1023 1125899906842623 10 W (by decide) (by decide)) (fun W=>yh n 1125899906842623 1125899906842623 1267650600228229401496703205375 50 W (by decide) (by decide)) (fun W=>yh n 1267650600228229401496703205375 1267650600228229401496703205375 1606938044258990275541962092341162602522202993782792835301375 100 W (by decide) (by decide)) (fun W=>yh n 1606938044258990275541962092341162602522202993782792835301375 1125899906842623 1809251394333065553493296640760748560207343510400633813116524750123642650623 50 W (by decide) (by decide))
 rw [zq hn] at h;exact h
def YQ (a e2 e8 e10 e11:List Nat) (ga gz:Nat):List Value:=
 (Aa a)::ptr ga::ptr gz::(undef)::(Aa a)::(Aa e8)::(Aa a)::(Aa e2)::(Aa e10)::(Aa a)::(Aa e11)::ud 5 []
def I2 (a e2 e8 e10 e11 o s r:List Nat) (ga gz gn:Nat):List Value:=
 (Aa a)::ptr ga::ptr gz::ptr gn::(Aa a)::(Aa e8)::(Aa a)::(Aa e2)::(Aa e10)::(Aa a)::(Aa e11)::(Aa a)::(Aa o)::(Aa s)::(Aa e11)::(Aa r)::[]
theorem SL (a e2 e8 e10 e11 o s r:List Nat) (w:World) (HA:Hid (a.length=5)) (H11:Hid (e11.length=5)) (HR:Hid (r.length=5))
 (C8:Hid (∀W,Calls Tryz.prog 109 #[Aa a,.int .i64 3] W (gvn (Aa e8) W))) (C2:Hid (∀W,Calls Tryz.prog 99 #[Aa a] W (gvn (Aa e2) W))) (C10:Hid (∀W,Calls Tryz.prog 63 #[Aa e8,Aa e2] W (gvn (Aa e10) W))) (C11:Hid (∀W,Calls Tryz.prog 63 #[Aa e10,Aa a] W (gvn (Aa e11) W))) (CO:Hid (∀W,Calls Tryz.prog 110 #[Aa a] W (gvn (Aa o) W))) (CS:Hid (∀W,Calls Tryz.prog 109 #[Aa o,.int .i64 5] W (gvn (Aa s) W))) (CR:Hid (∀W,Calls Tryz.prog 63 #[Aa s,Aa e11] W (gvn (Aa r) W))):
 Calls Tryz.prog 62 #[Aa a] w (gvn (Aa r) w):=by
 go_enter Tryz.func62,Tryz.ntmps62;go_wp2_with (first
  |(refine Ra rfl 53 (.tmp 0) rfl (a.map Ga) rfl ?_
    intro w1 hB1 hAa;try simp only [La]
    skip)
  |(refine Ma rfl 53 rfl (Na 5) Fb ?_
    intro w9 hb hZ;have hB:=Ba hB1 hb;have hle:=hB1.size;have hla:=hAa.lt;replace hAa:=hAa.on hb;clear hB1 hb;try simp only [La]
    skip))
 generalize hgz:w1.heap.size=gz at *;clear hgz;refine wp_region_any (by kernel_rfl) ?_;refine Vr (L:=[0,1,2,3,4,5,6,7]) (by kernel_rfl) _ _ (YQ a e2 e8 e10 e11 w.heap.size gz) [0,1,2,11,12,13,14,15] (by kernel_rfl) 7 3 53 (Na 5) _ rfl rfl rfl rfl Fb (by kernel_rfl) (by kernel_rfl) (by kernel_rfl) (by kernel_rfl) ?_ (by rfl) ?_ 1 (by kernel_rfl) ?_
 ·repeat refine Aak rfl ?_
  exact Qa
 ·change ∀i∈_,_∨Le _ _ _ _ _ w9.drew _ i;refine Aak (.inr (sL 4 rfl fun w hb=>Gb (hAa.drew.on hb) HA.out)) ?_;refine Aak (.inr (sC 5 rfl Tryz.func109 fun w hb=>C8.out w)) ?_;refine Aak (.inr (sL 6 rfl fun w hb=>Gb (hAa.drew.on hb) HA.out)) ?_;refine Aak (.inr (sC 7 rfl Tryz.func99 fun w hb=>C2.out w)) ?_;refine Aak (.inr (sC 8 rfl Tryz.func63 fun w hb=>C10.out w)) ?_;refine Aak (.inr (sL 9 rfl fun w hb=>Gb (hAa.drew.on hb) HA.out)) ?_;refine Aak (.inr (sC 10 rfl Tryz.func63 fun w hb=>C11.out w)) ?_;refine Aak (.inl rfl) ?_;exact Qa
 intro w4 gn hb4 hgn hN4;have hB4:=Ba (show Below w.heap.size w w9.drew from hB.drew) hb4;have hZ4:=hZ.drew.on hb4;have hA4:=hAa.drew.on hb4;have hzl:=hZ.lt;replace hgn:w9.heap.size≤gn:=hgn;refine Bb 8 rfl (by kernel_rfl) ?_;refine Ka rfl 53 (.tmp 3) (.tmp 10) rfl gn 5 (Na 5) (e11.map Ga) rfl rfl hN4 rfl Sa (by rw [Uaj,H11.out]) (Oa _) ?_;intro w5 hb5 hE4 hz5;have hB5:=hB4.trans (hb5.below (by omega) hB4.size);have hZ5:=hZ4.but hb5 (by omega);replace hA4:=hA4.but hb5 (by omega);generalize hF:(⟨((YQ a e2 e8 e10 e11 w.heap.size gz).set 3 (.pointer (some ⟨gn,0,none⟩))).toArray,[]⟩:Act)=F;rename_i K hKK;show Exit.then K _ Exit.normal (F.put none undef) w5;simp only [Exit.then];refine hKK _ _ ?_;refine wp_seq_k fun K2 hK2=>?_;subst hF;change Code.wp _ _ _ (⟨((YQ a e2 e8 e10 e11 w.heap.size gz).set 3 (.pointer (some ⟨gn,0,none⟩))).toArray,[]⟩:Act) w5;clear hb4 hb5 hB4 hZ4 hN4 hB hZ hAa;refine wp_region_any (by kernel_rfl) ?_;refine Dd (L:=[0,1,2,3,4]) (by kernel_rfl) _ _ (I2 a e2 e8 e10 e11 o s r w.heap.size gz gn) [0,1,2,3,4,5,6,7,8,9,10] (by kernel_rfl) ?_ (by rfl) ?_ 1 (by kernel_rfl) ?_
 ·repeat refine Aak rfl ?_
  exact Qa
 ·change ∀i∈_,Le _ _ _ _ _ w5.drew _ i;refine Aak (sL 11 rfl fun w hb=>Gb (hA4.drew.on hb) HA.out) ?_;refine Aak (sC 12 rfl Tryz.func110 fun w hb=>CO.out w) ?_;refine Aak (sC 13 rfl Tryz.func109 fun w hb=>CS.out w) ?_;refine Aak (sL 14 rfl fun w hb=>Gb (hE4.drew.on hb) H11.out) ?_;refine Aak (sC 15 rfl Tryz.func63 fun w hb=>CR.out w) ?_;exact Qa
 intro w4 hb4;have hB4:=Ba (show Below w.heap.size w w5.drew from hB5.drew) hb4;have hZ4:=hZ5.drew.on hb4;refine Bb 5 rfl (by kernel_rfl) ?_;refine Ka rfl 53 (.tmp 2) (.tmp 15) rfl gz 5 (Na 5) (r.map Ga) rfl rfl hZ4 rfl Sa (by rw [Uaj,HR.out]) (Oa _) ?_;intro w7 hb7 hC7 hz7;generalize hF:(⟨(I2 a e2 e8 e10 e11 o s r w.heap.size gz gn).toArray,[]⟩:Act)=F;show Exit.then K2 _ Exit.normal (F.put none undef) w7;simp only [Exit.then];refine hK2 _ _ ?_;refine wp_ret ?_;subst hF;exact qc Tryz.results62 gz (r.map Ga) rfl hC7 Tryz.underlying53 rfl Sa (by rw [Uaj,HR.out]) rfl ⟨rfl,hB4.trans (hb7.below (by omega) hB4.size)⟩
theorem ZQ (n a t c:Nat) (w:World) (ht:t<1000) (hc:a*2^t=c):Calls Tryz.prog 109 #[elV (pwN n a),.int .i64 t] w (gvn (elV (pwN n c)) w):=by
 have h:=Xx (pwN n a) t w (Sn _ _) ht;rw [V1,hc] at h;exact h
theorem qq (n a b c:Nat) (w:World) (hc:a+b=c):Calls Tryz.prog 63 #[elV (pwN n a),elV (pwN n b)] w (gvn (elV (pwN n c)) w):=by
 have h:=zk (pwN n a) (pwN n b) w (Sn _ _) (Sn _ _);rw [JI,hc] at h;exact h
theorem DB (n a c:Nat) (w:World) (hc:a+a=c):Calls Tryz.prog 99 #[elV (pwN n a)] w (gvn (elV (pwN n c)) w):=by
 have h:=Uj (pwN n a) w (Sn _ _);rw [JI,hc] at h;exact h
theorem Yx (n:Nat) (w:World) (hn:n<pp):Calls Tryz.prog 110 #[elV (pwN n 1)] w (gvn (elV (pwN n 1809251394333065553493296640760748560207343510400633813116524750123642650623)) w):=by
 rw [zq hn];exact RL n w hn
theorem xQ (n:Nat) (w:World) (hn:n<pp):Calls Tryz.prog 62 #[elV n] w (gvn (elV (pwN n 57896044618658097711785492504343953926634992332820282019728792003956564819947)) w):=by
 have h:=SL (Va (pwN n 1)) (Va (pwN n 2)) (Va (pwN n 8)) (Va (pwN n 10)) (Va (pwN n 11)) (Va (pwN n 1809251394333065553493296640760748560207343510400633813116524750123642650623)) (Va (pwN n 57896044618658097711785492504343953926634992332820282019728792003956564819936)) (Va (pwN n 57896044618658097711785492504343953926634992332820282019728792003956564819947)) w rfl rfl rfl
  (fun W=>ZQ n 1 3 8 W (by decide) (by decide)) (fun W=>DB n 1 2 W (by decide)) (fun W=>qq n 8 2 10 W (by decide)) (fun W=>qq n 10 1 11 W (by decide)) (fun W=>Yx n W hn) (fun W=>ZQ n 1809251394333065553493296640760748560207343510400633813116524750123642650623 5 57896044618658097711785492504343953926634992332820282019728792003956564819936 W (by decide) (by decide)) (fun W=>qq n 57896044618658097711785492504343953926634992332820282019728792003956564819936 11 57896044618658097711785492504343953926634992332820282019728792003956564819947 W (by decide))
 rw [zq hn] at h;exact h
theorem zr:∀(xs ys:List Nat),xs.length=ys.length→((List.range xs.length).all fun i=>xs.getD i 0==ys.getD i 0)=(xs==ys)
 | [],[],_=>rfl
 |x::xs,y::ys,h=>by
  have ih:=zr xs ys (by simpa using h);rw [List.length_cons,List.range_succ_eq_map,List.all_cons,List.all_map];simp only [List.getD_cons_zero,Function.comp_def,List.getD_cons_succ,ih];simp [List.cons_beq_cons]
 | [],_::_,h=>by simp at h
 |_::_,[],h=>by simp at h
abbrev zF (k:IntKind) (v:Nat):Value:=.int k (v:Int)
theorem Ej {P:Program} (w:World) (k:IntKind) (d:Nat) (t e:TypeId) (n:Nat) (ht:P.underlying t=some (.array n e)) (he:P.underlying e=some (.int k)) (hsz:∀w,(sizeOf e).run P w=.ok 1 w)
 (xs ys:List Nat) (hx:xs.length=n) (hy:ys.length=n):
 (Op.equalIn (d+2) t (.agg (xs.map (zF k)).toArray) (.agg (ys.map (zF k)).toArray)).run P w=.ok (xs==ys) w:=by
 rw [←zr xs ys (hx.trans hy.symm),hx,List.range_eq_range',Op.equalIn];simp only [Sem.run_bind,run_underlying ht,Result.andThen_ok,hsz,Std.Legacy.Range.forIn_eq_forIn_range',Std.Legacy.Range.size,Nat.sub_zero,Nat.add_sub_cancel,Nat.div_one];have hl:∀i∈List.range' 0 n 1,i<n:=fun i hi=>by simpa using (List.mem_range'_1.1 hi).2
 generalize List.range' 0 n 1=l at hl ⊢
 induction l with
 |nil=>simp
 |cons i l ih=>
  have hi:i<n:=hl i (by simp);have px:(part e (xs.map (zF k)).toArray (i*1)).run P w=.ok (Value.int k ((xs.getD i 0:Nat):Int)) w:=by
   simp [part,isAgg,run_underlying he,List.getD,xaj (show i<xs.length by omega)]
  have py:(part e (ys.map (zF k)).toArray (i*1)).run P w=.ok (Value.int k ((ys.getD i 0:Nat):Int)) w:=by
   simp [part,isAgg,run_underlying he,List.getD,xaj (show i<ys.length by omega)]
  have pe:(Op.equalIn (d+1) e (Value.int k ((xs.getD i 0:Nat):Int)) (Value.int k ((ys.getD i 0:Nat):Int))).run P w=.ok (xs.getD i 0==ys.getD i 0) w:=by
   rw [run_equalIn_int w d e k k _ _ he];congr 1
   rw [Bool.eq_iff_iff];simp;omega
  simp only [List.forIn_cons,Sem.run_bind,px,py,pe,Result.andThen_ok,List.all_cons];cases hb:(xs.getD i 0==ys.getD i 0)
  ·simp
  ·simp only [Bool.not_true,Bool.false_eq_true,if_false,Sem.run_pure,Result.andThen_ok,Bool.true_and];exact ih fun j hj=>hl j (by simp [hj])
theorem LI {P:Program} (w:World) (k:IntKind) (t e:TypeId) (n:Nat) (ht:P.underlying t=some (.array n e)) (he:P.underlying e=some (.int k)) (hsz:∀w,(sizeOf e).run P w=.ok 1 w)
 (xs ys:List Nat) (hx:xs.length=n) (hy:ys.length=n):
 (binOp .eql t (.agg (xs.map (zF k)).toArray) (.agg (ys.map (zF k)).toArray)).run P w=.ok (.bool (xs==ys)) w:=by
 rw [run_eql_struct,Ej w k 9998 t e n ht he hsz xs ys hx hy];rfl
theorem yQ (w:World):(sizeOf 49).run Tryz.prog w=.ok 1 w:=by
 obtain ⟨i0,hi0,hs0⟩:=Option.map_eq_some_iff.1 Gf;simp [sizeOf,typeInfo,hi0,hs0]
theorem EB (xs ys:List Nat) (hx:xs.length=5) (hy:ys.length=5) (w:World):(Op.equalIn 10000 53 (.agg (xs.map Ga).toArray) (.agg (ys.map Ga).toArray)).run Tryz.prog w=.ok (xs==ys) w:=by
 have h:(Op.equalIn 9999 51 (.agg (xs.map Ga).toArray) (.agg (ys.map Ga).toArray)).run Tryz.prog w=.ok (xs==ys) w:=Ej (P:=Tryz.prog) w .u64 9997 51 49 5 Tryz.underlying51 Tryz.underlying49 yQ xs ys hx hy;have px:∀zs:List Nat,zs.length=5→(part 51 (zs.map Ga).toArray 0).run Tryz.prog w=.ok (.agg (zs.map Ga).toArray) w:=by
  intro zs hz;obtain ⟨a,b,c,d,e,rfl⟩:=Ve zs hz
  kernel_rfl
 rw [run_equalIn_struct w 9999 53 _ _ (by kernel_rfl) (by kernel_rfl)];have hf:(Tryz.prog.fieldsOf 53).toList.map (fun f=>(f.name,f.type,f.offset))= [("n",51,0)]:=by kernel_rfl
 generalize (Tryz.prog.fieldsOf 53).toList=fs at *;rcases fs with _|⟨f,_|⟨g,fs⟩⟩
 ·cases hf
 ·simp only [List.map_cons,List.map_nil,List.cons.injEq,Prod.mk.injEq,and_true] at hf;obtain ⟨h1,h2,h3⟩:=hf;simp [Op.eqFields,h1,h2,h3,px xs hx,px ys hy,h];by_cases e:xs=ys<;>simp [e]
 ·simp at hf
theorem qF {n m:Nat} (hn:n<pp) (hm:m<pp):(Va n==Va m)=decide (n=m):=by
 rw [Bool.eq_iff_iff,beq_iff_eq,decide_eq_true_eq];refine ⟨fun h=>?_,fun h=>by rw [h]⟩;rw [←Sl n hn,←Sl m hm];simp only [lx,h]
theorem AX (a b:List Nat) (r:Bool) (w:World) (HA:Hid (a.length=5)) (HB:Hid (b.length=5)) (HR:∀w,(Op.equalIn 10000 53 (.agg (a.map Ga).toArray) (.agg (b.map Ga).toArray)).run Tryz.prog w=.ok r w):
 Calls Tryz.prog 128 #[Aa a,Aa b] w (gvn (.bool r) w):=by
 have HQ:∀w,(binOp .eql 53 (.agg (a.map Ga).toArray) (.agg (b.map Ga).toArray)).run Tryz.prog w=.ok (.bool r) w:=fun w=>by rw [run_eql_struct,HR];rfl
 have HG:∀w,(eqGuard .eql 53 (.tmp 5) (.tmp 6) (.agg (a.map Ga).toArray) (.agg (b.map Ga).toArray)).run Tryz.prog w=.ok () w:=fun w=>run_eqGuard_agg w .eql 53 _ _ _ _ (by kernel_rfl);clear HR;go_enter Tryz.func128,Tryz.ntmps128;go_wp2_with (first
  |(refine Ra rfl 53 (.tmp 0) rfl (a.map Ga) rfl ?_
    intro w1 hB1 hA1;try simp only [La]
    skip)
  |(refine Ra rfl 53 (.tmp 1) rfl (b.map Ga) rfl ?_
    intro w2 hb2 hC2;have hB2:=Ba hB1 hb2;have hA2:=hA1.on hb2;clear hB1 hA1 hb2;try simp only [La]
    skip)
  |(refine Pa rfl 53 (.tmp 2) rfl w.heap.size 5 (a.map Ga) rfl hA2 Tryz.underlying53 rfl Sa (by rw [Uaj,HA.out]) ?_
    clear hA2;try simp only [La]
    skip)
  |(refine Pa rfl 53 (.tmp 3) rfl w1.heap.size 5 (b.map Ga) rfl hC2 Tryz.underlying53 rfl Sa (by rw [Uaj,HB.out]) ?_
    clear hC2;try simp only [La]
    skip))
 go_ret
 exact ⟨rfl,hB2⟩
theorem TL (n m:Nat) (w:World) (hn:n<pp) (hm:m<pp):Calls Tryz.prog 128 #[elV n,elV m] w (gvn (.bool (decide (n=m))) w):=by
 rw [←qF hn hm];exact AX (Va n) (Va m) _ w rfl rfl (fun w=>EB _ _ rfl rfl w)
theorem BX (a:List Nat) (r:Bool) (w:World) (HA:Hid (a.length=5)) (HR:∀w,(Op.equalIn 10000 53 (.agg (a.map Ga).toArray) (.agg ([0,0,0,0,0].map Ga).toArray)).run Tryz.prog w=.ok r w):
 Calls Tryz.prog 57 #[Aa a] w (gvn (.bool r) w):=by
 obtain ⟨z,HZ⟩:=Nb ([0,0,0,0,0]:List Nat);have HN:∀w,(Instr.build 53 #[]).run Tryz.prog w=.ok (.agg (z.map Ga).toArray) w:=by rw [←HZ.out];exact Dj
 rw [HZ.out] at HR;clear HZ;have HQ:∀w,(binOp .eql 53 (.agg (a.map Ga).toArray) (.agg (z.map Ga).toArray)).run Tryz.prog w=.ok (.bool r) w:=fun w=>by rw [run_eql_struct,HR];rfl
 have HG:∀w,(eqGuard .eql 53 (.tmp 3) (.tmp 4) (.agg (a.map Ga).toArray) (.agg (z.map Ga).toArray)).run Tryz.prog w=.ok () w:=fun w=>run_eqGuard_agg w .eql 53 _ _ _ _ (by kernel_rfl);clear HR;go_enter Tryz.func57,Tryz.ntmps57;go_wp2_with (first
  |(refine Ra rfl 53 (.tmp 0) rfl (a.map Ga) rfl ?_
    intro w1 hB1 hA1;try simp only [La]
    skip)
  |(refine Pa rfl 53 (.tmp 1) rfl w.heap.size 5 (a.map Ga) rfl hA1 Tryz.underlying53 rfl Sa (by rw [Uaj,HA.out]) ?_
    clear hA1;try simp only [La]
    skip)
  |(refine Eb rfl 53 [] rfl [] rfl _ HN ?_
    try simp only [La]
    skip))
 go_ret
 exact ⟨rfl,hB1⟩
theorem DX (n:Nat) (w:World) (hn:n<pp):Calls Tryz.prog 57 #[elV n] w (gvn (.bool (decide (n=0))) w):=by
 rw [←qF hn (by decide)];exact BX (Va n) _ w rfl (fun w=>EB (Va n) (Va 0) rfl rfl w)
theorem TU (n:Nat) (w:World):Calls Tryz.prog 65 #[elV n] w (gvn (.bool (decide (n%2=1))) w):=by
 have h1:bits .and .u64 ((lx n 0:Nat):Int) 1=((n%2:Nat):Int):=by
  rw [show (1:Int)=((1:Nat):Int) from rfl,u64_and_nat _ _ (by have :=Qo n 0;omega) (by omega)];have :=Nat.and_two_pow_sub_one_eq_mod (lx n 0) 1;simp only [Nat.reducePow,Nat.reduceSub] at this;rw [this];show ((n%2251799813685248%2:Nat):Int)=_;omega
 have HD:Hid (((((n%2:Nat):Int))==1)=decide (n%2=1)):=by
  show _=_;rw [Bool.eq_iff_iff,beq_iff_eq,decide_eq_true_eq];omega
 obtain ⟨a,HA⟩:=Nb (Va n);have e0:a[0]? =some (lx n 0):=by rw [←HA.out];rfl
 have HX:(a.map Ga)[0]? =some (Ga (lx n 0)):=by rw [List.getElem?_map,e0];rfl
 show Calls _ _ #[Aa (Va n)] _ _;rw [HA.out];generalize lx n 0=x at *;rw [←HD.out];generalize n%2=q at *;clear e0 HA HD;go_enter Tryz.func65,Tryz.ntmps65;go_wp2_with (first
  |(refine Ra rfl 53 (.tmp 0) rfl (a.map Ga) rfl ?_
    intro w1 hB1 hA1;have d0:=hA1.get HX;try simp only [La]
    skip))
 go_ret
 exact ⟨rfl,hB1⟩
def Tab (w:World) (g:Nat) (vs:List Value):Prop:=∃t f,w.heap[g]? =some (.cells vs.toArray t f)
theorem Tab.lt {w:World} {g:Nat} {vs:List Value} (h:Tab w g vs):g<w.heap.size:=by obtain ⟨t,f,h⟩:=h;exact Ll h
theorem Tab.below {w w':World} {B g:Nat} {vs:List Value} (h:Tab w g vs) (hb:Below B w w') (hg:g<B):Tab w' g vs:=by obtain ⟨t,f,h⟩:=h;exact ⟨t,f,(hb.block g hg).trans h⟩
theorem Tab.on {w w':World} {g:Nat} {vs:List Value} (h:Tab w g vs) (hb:Below w.heap.size w w'):Tab w' g vs:=h.below hb h.lt
theorem Tab.but {w w':World} {b g:Nat} {vs:List Value} (h:Tab w g vs) (hb:But b w w') (hg:g≠b):Tab w' g vs:=by
 have hl:=h.lt;obtain ⟨t,f,h⟩:=h;exact ⟨t,f,(hb.block g hl hg).trans h⟩
theorem Tab.drew {w:World} {g:Nat} {vs:List Value} (h:Tab w g vs):Tab w.drew g vs:=h
theorem Tab.of_var {P:Program} {W:World} {name:String} {g:Nat} {cs:List Value} (hg:P.globalNamed name=some g) (hv:W.var? P name=some cs.toArray):Tab W g cs:=by
 unfold World.var? at hv;rw [hg,Option.bind_some] at hv;cases h:W.heap[g]? with
 |none=>rw [h] at hv;cases hv
 |some o=>
  rw [h] at hv;cases o with
  |cells c t f=>
   obtain rfl:c=cs.toArray:=by simpa using hv
   exact ⟨t,f,h⟩
  |_=>cases hv
section
variable {P:Program} {w:World} {ops:Array Oper} {rest:List Oper} {o:Oper} {a:Act} {Q:Exit→Act→World→Prop}
theorem Xm (hgd:o.guard=none) (t:TypeId) (x:Operand) (ho:o.op=.load t x) (g n:Nat) (vs:List Value) {d:TypeDesc} (hx:a.eval x=.pointer (some ⟨g,0,none⟩)) (hC:Tab w g vs) (hu:P.underlying t=some d)
 (hd:(match d with |.struct _|.array _ _=>true|_=>false)=true) (hs:(P.info? t).map (·.size)=some n) (hl:vs.length=n) (h:wpList P ops Q rest (a.put o.dst (.agg vs.toArray)) w):wpList P ops Q (o::rest) a w:=by
 obtain ⟨t',f,hC⟩:=hC;exact wpList_load_row hgd t x ho g hx t' vs.toArray f _ hC hu hd (by rw [List.size_toArray,hl];exact hs) h
end
theorem Xf {P:Program} {fn:Func} {R:Ending→World→Prop} {a:Act} {w:World} {p u:Tmp} {ty:TypeId} {d:TypeDesc} {n:Nat} (hres:fn.results=#[.cell p ty,.tmp u]) (g:Nat) (vs:List Value) (v:Value)
 (hp:a.tmps.getD p undef=.pointer (some ⟨g,0,none⟩)) (hv:a.tmps.getD u undef=v) (hg:Ia w g vs ty) (hu:P.underlying ty=some d) (hd:(match d with |.struct _|.array _ _=>true|_=>false)=true) (hi:(P.info? ty).map (·.size)=some n) (hl:vs.length=n)
 (hdf:a.defers= []) (hR:R (.returned (.tuple #[.agg vs.toArray,v])) w):bodyPost P fn R .ret a w:=by
 have hp':a.tmps[p]?.getD undef=.pointer (some ⟨g,0,none⟩):=by simpa using hp
 have hv':a.tmps[u]?.getD undef=v:=by simpa using hv
 have hrun:(results fn a.tmps).run P w=.ok (.tuple #[.agg vs.toArray,v]) w:=by
  simp [results,hres,hp',hv',asAddr,run_loadVar_row w g ty ty vs.toArray (0,0) _ hg hu hd (by rw [List.size_toArray,hl];exact hi)]
 exact bodyPost_ret hrun hdf hR
theorem zQ (yes:Bool) (a b:List Nat) (w:World) (HA:Hid (a.length=5)) (HB:Hid (b.length=5)):
 Calls Tryz.prog 129 #[.bool yes,Aa a,Aa b] w (gvn (Aa (if yes then a else b)) w):=by
 go_enter Tryz.func129,Tryz.ntmps129;cases yes
 all_goals
  go_wp2_with (first
   |(refine Ra rfl 53 (.tmp 1) rfl (a.map Ga) rfl ?_
     intro w1 hB1 hA1;try simp only [La]
     skip)
   |(refine Ra rfl 53 (.tmp 2) rfl (b.map Ga) rfl ?_
     intro w2 hb2 hC2;have hB2:=Ba hB1 hb2;have hA2:=hA1.on hb2;clear hB1 hA1 hb2;try simp only [La]
     skip)
   |(refine Ma rfl 53 rfl (Na 5) Fb ?_
     intro w3 hb3 hZ3;have hB3:=Ba hB2 hb3;have hA3:=hA2.on hb3;have hC3:=hC2.on hb3;have hle:=hB2.size;clear hB2 hA2 hC2 hb3;try simp only [La]
     skip)
   |(refine Pa rfl 53 (.tmp 4) rfl w.heap.size 5 (a.map Ga) rfl hA3 Tryz.underlying53 rfl Sa (by rw [Uaj,HA.out]) ?_
     try simp only [La]
     skip)
   |(refine Pa rfl 53 (.tmp 5) rfl w1.heap.size 5 (b.map Ga) rfl hC3 Tryz.underlying53 rfl Sa (by rw [Uaj,HB.out]) ?_
     try simp only [La]
     skip)
   |(refine Ka rfl 53 _ _ rfl w2.heap.size 5 (Na 5) (a.map Ga) rfl rfl hZ3 rfl Sa (by rw [Uaj,HA.out]) (Oa _) ?_
     intro w6 hb6 hC6 _;skip)
   |(refine Ka rfl 53 _ _ rfl w2.heap.size 5 (Na 5) (b.map Ga) rfl rfl hZ3 rfl Sa (by rw [Uaj,HB.out]) (Oa _) ?_
     intro w6 hb6 hC6 _;skip))
  first
  |exact qc Tryz.results129 w2.heap.size (a.map Ga) rfl hC6 Tryz.underlying53 rfl Sa (by rw [Uaj,HA.out]) rfl ⟨rfl,hB3.trans (hb6.below hle hB3.size)⟩
  |exact qc Tryz.results129 w2.heap.size (b.map Ga) rfl hC6 Tryz.underlying53 rfl Sa (by rw [Uaj,HB.out]) rfl ⟨rfl,hB3.trans (hb6.below hle hB3.size)⟩
theorem EX (yes:Bool) (n m:Nat) (w:World):Calls Tryz.prog 129 #[.bool yes,elV n,elV m] w (gvn (elV (if yes then n else m)) w):=by
 have h:=zQ yes (Va n) (Va m) w rfl rfl;cases yes<;>exact h
def MI (a o s q r0 _r1 _p0 _p1 _ng _pk _z _u:List Nat) (ga gz _gn:Nat) (_b1 _b2 _od:Bool):List Value:=
 (Aa a)::ptr ga::ptr gz::(.bool false)::(undef)::(Aa a)::(Aa o)::(Aa s)::(Aa a)::(Aa q)::(Aa r0)::ud 22 []
def NI (a o s q r0 _r1 p0 _p1 _ng _pk _z _u:List Nat) (ga gz gn:Nat) (b1 _b2 _od:Bool):List Value:=
 (Aa a)::ptr ga::ptr gz::(.bool false)::ptr gn::(Aa a)::(Aa o)::(Aa s)::(Aa a)::(Aa q)::(Aa r0)::(Aa r0)::(Aa p0)::(Aa a)::(.bool b1)::(.bool (!b1))::ud 17 []
def FB (a o s q r0 _r1 p0 p1 _ng _pk _z _u:List Nat) (ga gz gn:Nat) (_b1 b2 _od:Bool):List Value:=
 (Aa a)::ptr ga::ptr gz::(.bool false)::ptr gn::(Aa a)::(Aa o)::(Aa s)::(Aa a)::(Aa q)::(Aa r0)::(Aa r0)::(Aa p0)::(Aa a)::(.bool true)::(.bool (!true))::ud 4 ((Aa r0)::(Aa p1)::(Aa a)::(.bool b2)::(.bool (!b2))::ud 8 [])
def UL (a o s q r0 _r1 p0 p1 ng pk z _u:List Nat) (ga gz gn:Nat) (_b1 _b2 od:Bool):List Value:=
 (Aa a)::ptr ga::ptr gz::(.bool false)::ptr gn::(Aa a)::(Aa o)::(Aa s)::(Aa a)::(Aa q)::(Aa r0)::(Aa r0)::(Aa p0)::(Aa a)::(.bool true)::(.bool (!true))::ud 4 ((Aa r0)::(Aa p1)::(Aa a)::(.bool true)::(.bool (!true))::undef::(Aa r0)::(.bool od)::(Aa z)::(Aa r0)::(Aa ng)::(Aa r0)::(Aa pk)::[])
def GB (a o s q r0 r1 p0 p1 _ng _pk _z u:List Nat) (ga gz gn:Nat) (_b1 b2 _od:Bool):List Value:=
 (Aa a)::ptr ga::ptr gz::(.bool false)::ptr gn::(Aa a)::(Aa o)::(Aa s)::(Aa a)::(Aa q)::(Aa r0)::(Aa r0)::(Aa p0)::(Aa a)::(.bool false)::(.bool (!false))::(Aa r0)::(Aa u)::(Aa u)::(Aa r1)::(Aa r1)::(Aa p1)::(Aa a)::(.bool b2)::(.bool (!b2))::ud 8 []
def VL (a o s q r0 r1 p0 p1 ng pk z u:List Nat) (ga gz gn:Nat) (_b1 _b2 od:Bool):List Value:=
 (Aa a)::ptr ga::ptr gz::(.bool false)::ptr gn::(Aa a)::(Aa o)::(Aa s)::(Aa a)::(Aa q)::(Aa r0)::(Aa r0)::(Aa p0)::(Aa a)::(.bool false)::(.bool (!false))::(Aa r0)::(Aa u)::(Aa u)::(Aa r1)::(Aa r1)::(Aa p1)::(Aa a)::(.bool true)::(.bool (!true))::undef::(Aa r1)::(.bool od)::(Aa z)::(Aa r1)::(Aa ng)::(Aa r1)::(Aa pk)::[]
theorem FX (a o s q r0 r1 rt p0 p1 ng pk z u:List Nat) (b1 b2 od:Bool) (w:World) (HA:Hid (a.length=5)) (H0:Hid (r0.length=5)) (H1:Hid (r1.length=5)) (HPL:Hid (pk.length=5)) (HZL:Hid (z.length=5)) (HUL:Hid (u.length=5))
 (HT:Hid (b1=true→rt=r0)) (HF:Hid (b1=false→rt=r1)) (hU:Tab w 10 (u.map Ga)) (HN:∀w,(Instr.build 53 #[]).run Tryz.prog w=.ok (Aa z) w) (BU:∀w,(Instr.build 53 #[(0,Aa u)]).run Tryz.prog w=.ok (Aa u) w)
 (CO:Hid (∀W,Calls Tryz.prog 110 #[Aa a] W (gvn (Aa o) W)))
 (CS:Hid (∀W,Calls Tryz.prog 109 #[Aa o,.int .i64 2] W (gvn (Aa s) W)))
 (CQ:Hid (∀W,Calls Tryz.prog 99 #[Aa a] W (gvn (Aa q) W)))
 (CR:Hid (∀W,Calls Tryz.prog 63 #[Aa s,Aa q] W (gvn (Aa r0) W)))
 (CP0:Hid (∀W,Calls Tryz.prog 99 #[Aa r0] W (gvn (Aa p0) W)))
 (CB1:Hid (∀W,Calls Tryz.prog 128 #[Aa p0,Aa a] W (gvn (.bool b1) W)))
 (CT:Hid (∀W,Calls Tryz.prog 63 #[Aa r0,Aa u] W (gvn (Aa r1) W)))
 (CP1:Hid (∀W,Calls Tryz.prog 99 #[Aa rt] W (gvn (Aa p1) W)))
 (CB2:Hid (∀W,Calls Tryz.prog 128 #[Aa p1,Aa a] W (gvn (.bool b2) W)))
 (COD:Hid (∀W,Calls Tryz.prog 65 #[Aa rt] W (gvn (.bool od) W)))
 (CNG:Hid (∀W,Calls Tryz.prog 59 #[Aa z,Aa rt] W (gvn (Aa ng) W)))
 (CPK:Hid (∀W,Calls Tryz.prog 129 #[.bool od,Aa ng,Aa rt] W (gvn (Aa pk) W))):
 Calls Tryz.prog 102 #[Aa a] w fun e w'=>(b2=true→e=.returned (.tuple #[Aa pk,.bool true])∧Below w.heap.size w w')∧(b2=false→e=.returned (.tuple #[Aa z,.bool false])∧Below w.heap.size w w'):=by
 have hUl:=hU.lt;go_enter Tryz.func102,Tryz.ntmps102;go_wp2_with (first
  |(refine Ra rfl 53 (.tmp 0) rfl (a.map Ga) rfl ?_
    intro w1 hB1 hAa;try simp only [La]
    skip)
  |(refine Ma rfl 53 rfl (Na 5) Fb ?_
    intro w9 hb hZ;have hB:=Ba hB1 hb;have hle:=hB1.size;have hla:=hAa.lt;replace hAa:=hAa.on hb;clear hB1 hb;try simp only [La]
    skip))
 generalize hgz:w1.heap.size=gz at *;clear hgz;refine wp_region_any (by kernel_rfl) ?_;refine Vr (L:=[0,1,2,3,4,5,6]) (by kernel_rfl) _ _ (MI a o s q r0 r1 p0 p1 ng pk z u w.heap.size gz 0 b1 b2 od) [0,1,2,3,11,12,13,14,15,16,17,18,19,20,21,22,23,24,25,26,27,28,29,30,31,32] (by kernel_rfl) 6 4 53 (Na 5) _ rfl rfl rfl rfl Fb (by kernel_rfl) (by kernel_rfl) (by kernel_rfl) (by kernel_rfl) ?_ (by rfl) ?_ 1 (by kernel_rfl) ?_
 ·repeat refine Aak rfl ?_
  exact Qa
 ·change ∀i∈_,_∨Le _ _ _ _ _ w9.drew _ i;refine Aak (.inr (sL 5 rfl fun w hb=>Gb (hAa.drew.on hb) HA.out)) ?_;refine Aak (.inr (sC 6 rfl Tryz.func110 fun w hb=>CO.out w)) ?_;refine Aak (.inr (sC 7 rfl Tryz.func109 fun w hb=>CS.out w)) ?_;refine Aak (.inr (sL 8 rfl fun w hb=>Gb (hAa.drew.on hb) HA.out)) ?_;refine Aak (.inr (sC 9 rfl Tryz.func99 fun w hb=>CQ.out w)) ?_;refine Aak (.inr (sC 10 rfl Tryz.func63 fun w hb=>CR.out w)) ?_;refine Aak (.inl rfl) ?_;exact Qa
 intro w4 gn hb4 hgn hN4;have hB4:=Ba (show Below w.heap.size w w9.drew from hB.drew) hb4;have hZ4:=hZ.drew.on hb4;have hA4:=hAa.drew.on hb4;have hG4:Tab w4 10 (u.map Ga):=hU.below hB4 hUl;have hzl:=hZ.lt;replace hgn:w9.heap.size≤gn:=hgn;refine Bb 7 rfl (by kernel_rfl) ?_;refine Ka rfl 53 (.tmp 4) (.tmp 10) rfl gn 5 (Na 5) (r0.map Ga) rfl rfl hN4 rfl Sa (by rw [Uaj,H0.out]) (Oa _) ?_;intro w5 hb5 hE5 hz5;have hB5:=hB4.trans (hb5.below (by omega) hB4.size);have hZ5:=hZ4.but hb5 (by omega);have hA5:=hA4.but hb5 (by omega);have hG5:=hG4.but hb5 (by omega);generalize hF:(⟨((MI a o s q r0 r1 p0 p1 ng pk z u w.heap.size gz 0 b1 b2 od).set 4 (.pointer (some ⟨gn,0,none⟩))).toArray,[]⟩:Act)=F;rename_i K hKK;show Exit.then K _ Exit.normal (F.put none undef) w5;simp only [Exit.then];refine hKK _ _ ?_;subst hF;change Code.wp _ _ _ (⟨((MI a o s q r0 r1 p0 p1 ng pk z u w.heap.size gz 0 b1 b2 od).set 4 (.pointer (some ⟨gn,0,none⟩))).toArray,[]⟩:Act) w5;clear hb4 hb5 hB4 hZ4 hN4 hA4 hG4 hB hZ hAa CO CS CQ CR hU hKK K;refine wp_seq_k fun K2 hK2=>?_;refine wp_seq_k fun K3 hK3=>?_;refine wp_region_any (by kernel_rfl) ?_;refine Dd (L:=[0,1,2,3,4]) (by kernel_rfl) _ _ (NI a o s q r0 r1 p0 p1 ng pk z u w.heap.size gz gn b1 b2 od) [0,1,2,3,4,5,6,7,8,9,10,16,17,18,19,20,21,22,23,24,25,26,27,28,29,30,31,32] (by kernel_rfl) ?_ (by rfl) ?_ 0 (by kernel_rfl) ?_
 ·repeat refine Aak rfl ?_
  exact Qa
 ·change ∀i∈_,Le _ _ _ _ _ w5.drew _ i;refine Aak (sL 11 rfl fun w hb=>Gb (hE5.drew.on hb) H0.out) ?_;refine Aak (sC 12 rfl Tryz.func99 fun w hb=>CP0.out w) ?_;refine Aak (sL 13 rfl fun w hb=>Gb (hA5.drew.on hb) HA.out) ?_;refine Aak (sC 14 rfl Tryz.func128 fun w hb=>CB1.out w) ?_;refine Aak (Pc _ 15 rfl rfl rfl (by kernel_rfl) (by kernel_rfl) fun a w hb hv=>Om _ _ _ _ rfl _ (hv 14 (by kernel_rfl)) w) ?_;exact Qa
 intro w6 hb4;have hB4:=Ba (show Below w.heap.size w w5.drew from hB5.drew) hb4;have hZ4:=hZ5.drew.on hb4;have hA4:=hA5.drew.on hb4;have hE4:=hE5.drew.on hb4;have hG4:=hG5.drew.on hb4;refine ⟨by kernel_rfl,?_⟩;show Exit.then K3 _ Exit.normal (⟨(NI a o s q r0 r1 p0 p1 ng pk z u w.heap.size gz gn b1 b2 od).toArray,[]⟩:Act) w6;simp only [Exit.then];refine hK3 _ _ ?_;clear hK3 K3 hb4 hB5 hZ5 hA5 hE5 hG5 CP0 CB1;refine wp_cond (t:= !b1) rfl ?_;cases b1 with
 |true=>
  show Code.skip.wp _ _ _ _;refine wp_skip ?_;simp only [Exit.then];refine hK2 _ _ ?_;clear hK2 K2;replace hB6:=hB4;replace hZ6:=hZ4;replace hA6:=hA4;replace hE6:=hE4;replace hG6:=hG4;clear hB4 hZ4 hA4 hE4 hG4;rw [HT.out rfl] at CP1 COD CNG CPK;clear HT HF CT;refine wp_seq_k fun K4 hK4=>?_;refine wp_seq_k fun K5 hK5=>?_;refine wp_region_any (by kernel_rfl) ?_;refine Dd (L:=[0,1,2,3,4]) (by kernel_rfl) _ _ (FB a o s q r0 r1 p0 p1 ng pk z u w.heap.size gz gn true b2 od) [0,1,2,3,4,5,6,7,8,9,10,11,12,13,14,15,16,17,18,19,25,26,27,28,29,30,31,32] (by kernel_rfl) ?_ (by rfl) ?_ 0 (by kernel_rfl) ?_
  ·repeat refine Aak rfl ?_
   exact Qa
  ·change ∀i∈_,Le _ _ _ _ _ w6.drew _ i;refine Aak (sL 20 rfl fun w hb=>Gb (hE6.drew.on hb) H0.out) ?_;refine Aak (sC 21 rfl Tryz.func99 fun w hb=>CP1.out w) ?_;refine Aak (sL 22 rfl fun w hb=>Gb (hA6.drew.on hb) HA.out) ?_;refine Aak (sC 23 rfl Tryz.func128 fun w hb=>CB2.out w) ?_;refine Aak (Pc _ 24 rfl rfl rfl (by kernel_rfl) (by kernel_rfl) fun a w hb hv=>Om _ _ _ _ rfl _ (hv 23 (by kernel_rfl)) w) ?_;exact Qa
  intro x1 hb4;have hB4:=Ba (show Below w.heap.size w w6.drew from hB6.drew) hb4;have hZ4:=hZ6.drew.on hb4;have hA4:=hA6.drew.on hb4;have hE4:=hE6.drew.on hb4;have hG4:=hG6.drew.on hb4;refine ⟨by kernel_rfl,?_⟩;show Exit.then K5 _ Exit.normal (⟨(FB a o s q r0 r1 p0 p1 ng pk z u w.heap.size gz gn true b2 od).toArray,[]⟩:Act) x1;simp only [Exit.then];refine hK5 _ _ ?_;clear hK5 K5 hb4;refine wp_cond (t:= !b2) rfl ?_;cases b2 with
  |false=>
   show (Code.seq _ _).wp _ _ _ _;simp only [FB,ptr,ud];go_wp2_with (first
    |(refine Eb rfl 53 [] rfl [] rfl _ HN ?_
      try simp only [La]
      skip)
    |(refine Ka rfl 53 _ _ rfl gz 5 (Na 5) (z.map Ga) rfl rfl hZ4 rfl Sa (by rw [Uaj,HZL.out]) (Oa _) ?_
      intro x2 hb5 hC5 hz7;skip))
   exact Xf Tryz.results102 gz (z.map Ga) _ rfl rfl hC5 Tryz.underlying53 rfl Sa (by rw [Uaj,HZL.out]) rfl ⟨rfl,hB4.trans (hb5.below (by omega) hB4.size)⟩
  |true=>
   show Code.skip.wp _ _ _ _;refine wp_skip ?_;simp only [Exit.then];refine hK4 _ _ ?_;refine wp_seq_k fun K6 hK6=>?_;refine wp_region_any (by kernel_rfl) ?_;refine Dd (L:=[0,1,2,3,4,5,6]) (by kernel_rfl) _ _ (UL a o s q r0 r1 p0 p1 ng pk z u w.heap.size gz gn true true od) [0,1,2,3,4,5,6,7,8,9,10,11,12,13,14,15,16,17,18,19,20,21,22,23,24,25] (by kernel_rfl) ?_ (by rfl) ?_ 2 (by kernel_rfl) ?_
   ·repeat refine Aak rfl ?_
    exact Qa
   ·change ∀i∈_,Le _ _ _ _ _ x1.drew _ i;refine Aak (sL 26 rfl fun w hb=>Gb (hE4.drew.on hb) H0.out) ?_;refine Aak (sC 27 rfl Tryz.func65 fun w hb=>COD.out w) ?_;refine Aak (Pc _ 28 rfl rfl rfl (by kernel_rfl) (by kernel_rfl) fun a w hb hv=>Vd _ _ _ [] rfl [] rfl _ w (HN w)) ?_;refine Aak (sL 29 rfl fun w hb=>Gb (hE4.drew.on hb) H0.out) ?_;refine Aak (sC 30 rfl Tryz.func59 fun w hb=>CNG.out w) ?_;refine Aak (sL 31 rfl fun w hb=>Gb (hE4.drew.on hb) H0.out) ?_;refine Aak (sC 32 rfl Tryz.func129 fun w hb=>CPK.out w) ?_;exact Qa
   intro x3 hb5;have hB5:=Ba (show Below w.heap.size w x1.drew from hB4.drew) hb5;have hZ5:=hZ4.drew.on hb5;refine Bb 7 rfl (by kernel_rfl) ?_;refine Ka rfl 53 (.tmp 2) (.tmp 32) rfl gz 5 (Na 5) (pk.map Ga) rfl rfl hZ5 rfl Sa (by rw [Uaj,HPL.out]) (Oa _) ?_;intro x4 hb6 hC6 hz7;simp only [UL,ptr,ud]
   go_wp2
   exact Xf Tryz.results102 gz (pk.map Ga) _ rfl rfl hC6 Tryz.underlying53 rfl Sa (by rw [Uaj,HPL.out]) rfl ⟨rfl,hB5.trans (hb6.below (by omega) hB5.size)⟩
 |false=>
  rw [HF.out rfl] at CP1 COD CNG CPK;clear HT HF;show (Code.region _ _ _).wp _ _ _ _;simp only [NI,ptr,ud];go_wp2_with (first
   |(refine Pa rfl 53 (.tmp 4) rfl gn 5 (r0.map Ga) rfl hE4 Tryz.underlying53 rfl Sa (by rw [Uaj,H0.out]) ?_
     try simp only [La]
     skip)
   |(refine Xm rfl 51 (.global 10) rfl 10 5 (u.map Ga) rfl hG4 Tryz.underlying51 rfl Sc (by rw [Uaj,HUL.out]) ?_
     try simp only [La]
     skip)
   |(refine Eb rfl 53 _ rfl [(0,Aa u)] rfl _ BU ?_
     try simp only [La]
     skip))
  refine (CT.out w6).mono ?_;rintro e w7 ⟨rfl,hb7⟩;have hB7:=Ba hB4 hb7;have hZ7:=hZ4.on hb7;have hA7:=hA4.on hb7;have hE7:=hE4.on hb7;have hG7:=hG4.on hb7;clear hB4 hZ4 hA4 hE4 hG4 hb7 CT;go_wp2_with (first
   |(refine Ka rfl 53 _ _ rfl gn 5 (r0.map Ga) (r1.map Ga) rfl rfl hE7 (by rw [Uaj,H0.out]) Sa (by rw [Uaj,H1.out]) (Oa _) ?_
     intro w8 hb8 hE8 hz8;have hB8:=hB7.trans (hb8.below (by omega) hB7.size);have hZ8:=hZ7.but hb8 (by omega);have hA8:=hA7.but hb8 (by omega);have hG8:=hG7.but hb8 (by omega);clear hB7 hZ7 hA7 hE7 hG7 hb8;skip))
  rename_i K4 hK4 K5 hK5;refine wp_region_any (by kernel_rfl) ?_;refine Dd (L:=[0,1,2,3,4]) (by kernel_rfl) _ _ (GB a o s q r0 r1 p0 p1 ng pk z u w.heap.size gz gn false b2 od) [0,1,2,3,4,5,6,7,8,9,10,11,12,13,14,15,16,17,18,19,25,26,27,28,29,30,31,32] (by kernel_rfl) ?_ (by rfl) ?_ 0 (by kernel_rfl) ?_
  ·repeat refine Aak rfl ?_
   exact Qa
  ·change ∀i∈_,Le _ _ _ _ _ w8.drew _ i;refine Aak (sL 20 rfl fun w hb=>Gb (hE8.drew.on hb) H1.out) ?_;refine Aak (sC 21 rfl Tryz.func99 fun w hb=>CP1.out w) ?_;refine Aak (sL 22 rfl fun w hb=>Gb (hA8.drew.on hb) HA.out) ?_;refine Aak (sC 23 rfl Tryz.func128 fun w hb=>CB2.out w) ?_;refine Aak (Pc _ 24 rfl rfl rfl (by kernel_rfl) (by kernel_rfl) fun a w hb hv=>Om _ _ _ _ rfl _ (hv 23 (by kernel_rfl)) w) ?_;exact Qa
  intro x1 hb4;have hB4:=Ba (show Below w.heap.size w w8.drew from hB8.drew) hb4;have hZ4:=hZ8.drew.on hb4;have hA4:=hA8.drew.on hb4;have hE4:=hE8.drew.on hb4;have hG4:=hG8.drew.on hb4;refine ⟨by kernel_rfl,?_⟩;show Exit.then K5 _ Exit.normal (⟨(GB a o s q r0 r1 p0 p1 ng pk z u w.heap.size gz gn false b2 od).toArray,[]⟩:Act) x1;simp only [Exit.then];refine hK5 _ _ ?_;clear hK5 K5 hb4;refine wp_cond (t:= !b2) rfl ?_;cases b2 with
  |false=>
   show (Code.seq _ _).wp _ _ _ _;simp only [GB,ptr,ud];go_wp2_with (first
    |(refine Eb rfl 53 [] rfl [] rfl _ HN ?_
      try simp only [La]
      skip)
    |(refine Ka rfl 53 _ _ rfl gz 5 (Na 5) (z.map Ga) rfl rfl hZ4 rfl Sa (by rw [Uaj,HZL.out]) (Oa _) ?_
      intro x2 hb5 hC5 hz7;skip))
   exact Xf Tryz.results102 gz (z.map Ga) _ rfl rfl hC5 Tryz.underlying53 rfl Sa (by rw [Uaj,HZL.out]) rfl ⟨rfl,hB4.trans (hb5.below (by omega) hB4.size)⟩
  |true=>
   show Code.skip.wp _ _ _ _;refine wp_skip ?_;simp only [Exit.then];refine hK4 _ _ ?_;refine wp_seq_k fun K6 hK6=>?_;refine wp_region_any (by kernel_rfl) ?_;refine Dd (L:=[0,1,2,3,4,5,6]) (by kernel_rfl) _ _ (VL a o s q r0 r1 p0 p1 ng pk z u w.heap.size gz gn false true od) [0,1,2,3,4,5,6,7,8,9,10,11,12,13,14,15,16,17,18,19,20,21,22,23,24,25] (by kernel_rfl) ?_ (by rfl) ?_ 2 (by kernel_rfl) ?_
   ·repeat refine Aak rfl ?_
    exact Qa
   ·change ∀i∈_,Le _ _ _ _ _ x1.drew _ i;refine Aak (sL 26 rfl fun w hb=>Gb (hE4.drew.on hb) H1.out) ?_;refine Aak (sC 27 rfl Tryz.func65 fun w hb=>COD.out w) ?_;refine Aak (Pc _ 28 rfl rfl rfl (by kernel_rfl) (by kernel_rfl) fun a w hb hv=>Vd _ _ _ [] rfl [] rfl _ w (HN w)) ?_;refine Aak (sL 29 rfl fun w hb=>Gb (hE4.drew.on hb) H1.out) ?_;refine Aak (sC 30 rfl Tryz.func59 fun w hb=>CNG.out w) ?_;refine Aak (sL 31 rfl fun w hb=>Gb (hE4.drew.on hb) H1.out) ?_;refine Aak (sC 32 rfl Tryz.func129 fun w hb=>CPK.out w) ?_;exact Qa
   intro x3 hb5;have hB5:=Ba (show Below w.heap.size w x1.drew from hB4.drew) hb5;have hZ5:=hZ4.drew.on hb5;refine Bb 7 rfl (by kernel_rfl) ?_;refine Ka rfl 53 (.tmp 2) (.tmp 32) rfl gz 5 (Na 5) (pk.map Ga) rfl rfl hZ5 rfl Sa (by rw [Uaj,HPL.out]) (Oa _) ?_;intro x4 hb6 hC6 hz7;simp only [VL,ptr]
   go_wp2
   exact Xf Tryz.results102 gz (pk.map Ga) _ rfl rfl hC6 Tryz.underlying53 rfl Sa (by rw [Uaj,HPL.out]) rfl ⟨rfl,hB5.trans (hb6.below (by omega) hB5.size)⟩
def ttN:Nat:=19681161376707505956807079304988542015446066515923890162744021073123829784752
def rtN (n:Nat):Nat:=if pwN n 7237005577332262213973186563042994240829374041602535252466099000494570602494*pwN n 7237005577332262213973186563042994240829374041602535252466099000494570602494%pp=n then pwN n 7237005577332262213973186563042994240829374041602535252466099000494570602494 else pwN n 7237005577332262213973186563042994240829374041602535252466099000494570602494*ttN%pp
def Fj (n:Nat):Bool:=decide (rtN n*rtN n%pp=n)
def Ym (r:Nat):Nat:=if r%2=1 then (pp-r)%pp else r
theorem OI (n:Nat):rtN n<pp:=by
 rw [rtN]
 split
 ·exact Sn _ _
 ·exact Nat.mod_lt _ (by decide)
theorem J2 (n:Nat) (w:World) (hn:n<pp) (hU:Tab w 10 ((Va ttN).map Ga)):
 Calls Tryz.prog 102 #[elV n] w fun e w'=>(Fj n=true→e=.returned (.tuple #[elV (Ym (rtN n)),.bool true])∧Below w.heap.size w w')∧(Fj n=false→e=.returned (.tuple #[elV 0,.bool false])∧Below w.heap.size w w'):=by
 have ht:ttN<pp:=by decide
 have hr:=OI n;have e1:(if decide (rtN n%2=1)=true then (0+(pp-rtN n))%pp else rtN n)=Ym (rtN n):=by
  rw [Ym,Nat.zero_add];simp
 have hp:=EX (decide (rtN n%2=1)) ((0+(pp-rtN n))%pp) (rtN n);rw [e1] at hp;have h:=FX (Va (pwN n 1)) (Va (pwN n 1809251394333065553493296640760748560207343510400633813116524750123642650623)) (Va (pwN n 7237005577332262213973186563042994240829374041602535252466099000494570602492)) (Va (pwN n 2)) (Va (pwN n 7237005577332262213973186563042994240829374041602535252466099000494570602494)) (Va (pwN n 7237005577332262213973186563042994240829374041602535252466099000494570602494*ttN%pp)) (Va (rtN n)) (Va (pwN n 7237005577332262213973186563042994240829374041602535252466099000494570602494*pwN n 7237005577332262213973186563042994240829374041602535252466099000494570602494%pp)) (Va (rtN n*rtN n%pp)) (Va ((0+(pp-rtN n))%pp)) (Va (Ym (rtN n))) (Va 0) (Va ttN) (decide (pwN n 7237005577332262213973186563042994240829374041602535252466099000494570602494*pwN n 7237005577332262213973186563042994240829374041602535252466099000494570602494%pp=n)) (Fj n) (decide (rtN n%2=1)) w rfl rfl rfl rfl rfl rfl
  (fun e=>by rw [decide_eq_true_eq] at e;show Va (rtN n)=_;rw [rtN,if_pos e]) (fun e=>by rw [decide_eq_false_iff_not] at e;show Va (rtN n)=_;rw [rtN,if_neg e]) hU Dj (Vm ttN)
  (fun W=>Yx n W hn) (fun W=>ZQ n 1809251394333065553493296640760748560207343510400633813116524750123642650623 2 7237005577332262213973186563042994240829374041602535252466099000494570602492 W (by decide) (by decide)) (fun W=>DB n 1 2 W (by decide)) (fun W=>qq n 7237005577332262213973186563042994240829374041602535252466099000494570602492 2 7237005577332262213973186563042994240829374041602535252466099000494570602494 W (by decide)) (fun W=>Uj _ W (Sn _ _)) (fun W=>by rw [zq hn];exact TL _ _ W (Nat.mod_lt _ (by decide)) hn) (fun W=>zk _ _ W (Sn _ _) ht)
  (fun W=>Uj _ W hr) (fun W=>by rw [zq hn];exact TL _ _ W (Nat.mod_lt _ (by decide)) hn) (fun W=>TU _ W) (fun W=>AB 0 _ W (by decide) hr) hp
 rw [zq hn] at h;exact h
end Go.Proofs.YtoggkhjaghkpnaaGreatDoor
