/- Part 8 of what the laws of this seat share: FRead, FBytes, FWritten, FSmall, GNum, GMinus. -/
import Derived.IntWalk
import Derived.Test.YtoggkhjaghkpnaaGreatDoorPart7
set_option maxRecDepth 100000
set_option maxHeartbeats 8000000
namespace Go.Proofs.YtoggkhjaghkpnaaGreatDoor
open Go.RowKit
theorem za:(Tryz.prog.info? 23).map (·.size)=some 32:=by kernel_rfl
theorem Zb:∀w,(zeroValue 23).run Tryz.prog w=.ok (.agg (List.replicate 32 (Fa 0)).toArray) w:=(zero_of_info (P:=Tryz.prog) (t:=23) (v:=.agg (List.replicate 32 (Fa 0)).toArray) (n:=32) (by kernel_rfl)).1
theorem IB (a b s Q:Nat) (hQ:Q=2^s) (hs:s≤64) (ha:a<Q):bits .or .u64 (a:Int) (IntKind.u64.wrap ((b:Int)*(Q:Int)))=((a+b*Q%18446744073709551616:Nat):Int):=by
 have hq:Q≤18446744073709551616:=by rw [hQ];exact Nat.le_trans (Nat.pow_le_pow_right (by decide) hs) (by decide)
 have e:IntKind.u64.wrap ((b:Int)*(Q:Int))=((b*Q%18446744073709551616:Nat):Int):=by rw [IntKind.wrap_u64,←Int.natCast_mul];omega
 have hd:Q∣18446744073709551616:=by rw [hQ,show 18446744073709551616=2^64 from rfl];exact Nat.pow_dvd_pow 2 hs
 have hm:b*Q%18446744073709551616%2^s=0:=by rw [←hQ,Nat.mod_mod_of_dvd _ hd,Nat.mul_mod_left]
 rw [e,u64_or_nat _ _ (by omega) (Nat.mod_lt _ (by decide)),Nat.or_comm,nat_join s _ _ hm (by rw [←hQ];exact ha),Nat.add_comm]
theorem Fu (a b s Q:Nat) (hQ:Q=2^s) (hs:s≤64) (ha:a<Q) (h:a+b*Q%18446744073709551616<18446744073709551616):bits .and .u64 (bits .or .u64 (a:Int) (IntKind.u64.wrap ((b:Int)*(Q:Int)))) 2251799813685247=(((a+b*Q%18446744073709551616)%2251799813685248:Nat):Int):=by
 rw [IB a b s Q hQ hs ha,Wx _ h]
def Zm (a b p q:Nat):Nat:=(a/p+b*q%18446744073709551616)%2251799813685248
def Ti (x:List Nat) (k:Nat):Nat:=[Zm (x.getD 0 0) (x.getD 1 0) 1 18446744073709551616,Zm (x.getD 0 0) (x.getD 1 0) 2251799813685248 8192,Zm (x.getD 1 0) (x.getD 2 0) 274877906944 67108864,Zm (x.getD 2 0) (x.getD 3 0) 33554432 549755813888,Zm (x.getD 3 0) (x.getD 4 0) 4096 4503599627370496].getD k 0
theorem qQ (b:List UInt8) (x0 x1 x2 x3 x4:Nat) (r:List Nat) (S T:Nat→List Nat) (w:World) (HB:Hid (b.length=32)) (HL:Hid (∀k,k≤4→(S k).length=5)) (H0:Hid (S 0= [0,0,0,0,0])) (HS:Hid (∀k,k<4→S (k+1)=(S k).set k (Zf ((b.drop (8*k)).take 8).reverse))) (HX:Hid (S 4= [x0,x1,x2,x3,x4]))
 (HT:Hid (∀k,k≤5→(T k).length=5)) (HT0:Hid (T 0= [0,0,0,0,0])) (HTS:Hid (∀k,k<5→T (k+1)=(T k).set k (Ti [x0,x1,x2,x3,x4] k))) (HR:Hid (T 5=r))
 (HM:Hid (bits .and .u64 (bits .or .u64 (x0:Int) (IntKind.u64.wrap ((x1:Int)*18446744073709551616))) 2251799813685247=((Ti [x0,x1,x2,x3,x4] 0:Nat):Int)∧bits .and .u64 (bits .or .u64 ((x0:Int)/2251799813685248) (IntKind.u64.wrap ((x1:Int)*8192))) 2251799813685247=((Ti [x0,x1,x2,x3,x4] 1:Nat):Int)∧
  bits .and .u64 (bits .or .u64 ((x1:Int)/274877906944) (IntKind.u64.wrap ((x2:Int)*67108864))) 2251799813685247=((Ti [x0,x1,x2,x3,x4] 2:Nat):Int)∧bits .and .u64 (bits .or .u64 ((x2:Int)/33554432) (IntKind.u64.wrap ((x3:Int)*549755813888))) 2251799813685247=((Ti [x0,x1,x2,x3,x4] 3:Nat):Int)∧
  bits .and .u64 (bits .or .u64 ((x3:Int)/4096) (IntKind.u64.wrap ((x4:Int)*4503599627370496))) 2251799813685247=((Ti [x0,x1,x2,x3,x4] 4:Nat):Int))):
 Calls Tryz.prog 125 #[Ca b] w (gvn (Aa r) w):=by
 go_enter Tryz.func125,Tryz.ntmps125;go_wp2_with (first
  |(refine Rb rfl 23 (.tmp 0) rfl b rfl ?_
    intro w1 hB1 hA1 hz;clear hz)
  |(refine Ma (o:=⟨some 2,_,_,_,_,_⟩) rfl 51 rfl (Na 5) Bj ?_
    intro w2 hb2 hZ2;have hB2:=Ba hB1 hb2;have hA2:=hA1.on hb2;have hg1:=hA1.lt;clear hB1 hA1 hb2)
  |(refine Ma (o:=⟨some 3,_,_,_,_,_⟩) rfl 50 rfl (Na 5) RW ?_
    intro w3 hb3 hS3;have hB3:=Ba hB2 hb3;have hA3:=hA2.on hb3;have hZ3:=hZ2.on hb3;have hg2:=hZ2.lt;clear hB2 hA2 hZ2 hb3))
 generalize hg:w1.heap.size=gz at *;generalize hh:w2.heap.size=gs at *;clear hg hh
 go_loopw [10] (fun i wr=>∃k:Nat,k≤4∧i=.int .i64 k∧Below w.heap.size w wr∧Ia wr w.heap.size (b.map Fa) 23∧Ia wr gz (Na 5) 51∧Ia wr gs ((S k).map Ga) 50) (fun i _=>4-(intOf i).toNat)
 case atStart=>exact ⟨0,Nat.zero_le _,rfl,hB3,hA3,hZ3,by rw [H0.out];exact hS3⟩
 case round=>
  clear hB3 hA3 hZ3 hS3;obtain ⟨k,hk,rfl,hB,hA,hZ,hS⟩:=hrel;have HLk:=Lib.hid (HL.out k hk);by_cases hlt:k<4
  ·have HN:=Lib.hid (HS.out k hlt);obtain ⟨z,HZ⟩:=Nb (S (k+1));rw [HZ.out] at HN;generalize S k=s at *;have hR:Row wr wr.heap.size (some ⟨w.heap.size,8*k,none⟩) ((b.drop (8*k)).take 8):=by
    have h:=hA.all.piece (8*k) 8;rw [Nat.zero_add] at h;exact h
   have HC:=Lib.hid (GA (some ⟨w.heap.size,8*k,none⟩) (32-8*k) 8 _ wr (by rw [zaj,List.length_drop,HB.out];omega) hR (by omega));generalize Zf ((b.drop (8*k)).take 8).reverse=x at *;clear hR HS HL H0 HX HT HT0 HTS HR HM;have hT:=fun k (h:k<5)=>hS.there k 1 (by rw [Uaj,HLk.out];omega);have hE:=Lib.hid (fun k=>hS.set k (Ga x));rcases (show k=0∨k=1∨k=2∨k=3 by omega) with rfl|rfl|rfl|rfl;all_goals
    simp only [Nat.mul_zero,Nat.reduceMul,Nat.reduceSub,Nat.reduceAdd,Nat.sub_zero] at HC HN HZ;go_wp2_with fail
    refine HC.out.mono ?_;rintro e w4 ⟨rfl,rfl⟩;clear HC;go_wp2_with (first
     |(refine Qb rfl 49 _ _ rfl gs _ .u64 _ rfl rfl Gf (hT _ (by omega)) ?_
       intro w5 hw5;have hB5:Below w.heap.size w w5:=by rw [hw5];exact hB.setCell (p:=⟨gs,_,none⟩) (by show w.heap.size≤gs;omega) _
       have hA5:Ia w5 w.heap.size (b.map Fa) 23:=by rw [hw5];exact hA.other (by show w.heap.size≠gs;omega) _
       have hZ5:Ia w5 gz (Na 5) 51:=by rw [hw5];exact hZ.other (by show gz≠gs;omega) _
       have hS5:Ia w5 gs (z.map Ga) 50:=by rw [hw5,HN.out,←Se];exact hE.out _
       clear hw5))
    go_roundw
    case rel=>
     rw [←HZ.out] at hS5;first|exact ⟨1,by omega,rfl,hB5,hA5,hZ5,hS5⟩|exact ⟨2,by omega,rfl,hB5,hA5,hZ5,hS5⟩|exact ⟨3,by omega,rfl,hB5,hA5,hZ5,hS5⟩|exact ⟨4,by omega,rfl,hB5,hA5,hZ5,hS5⟩
    case measure=>simp [intOf]
  ·obtain rfl:k=4:=by omega
   rw [HX.out] at hS;clear HL H0 HS HX HLk hA;go_wp2_with (first
    |(refine Ma (o:=⟨some 5,_,_,_,_,_⟩) rfl 51 rfl (Na 5) Bj ?_
      intro w6 hb6 hT6;have hB6:=Ba hB hb6;have hZ6:=hZ.on hb6;have hS6:=hS.on hb6;have hg3:=hS.lt;clear hB hZ hS hb6))
   generalize hh:wr.heap.size=gt at *;clear hh;have j1:IntKind.i64.wrap 1=1:=by decide
   have j2:IntKind.i64.wrap 2=2:=by decide
   have j3:IntKind.i64.wrap 3=3:=by decide
   have j4:IntKind.i64.wrap 4=4:=by decide
   have j5:IntKind.i64.wrap 64=64:=by decide
   have j6:IntKind.i64.wrap 13=13:=by decide
   have j7:IntKind.i64.wrap 26=26:=by decide
   have j8:IntKind.i64.wrap 39=39:=by decide
   have j9:IntKind.i64.wrap 52=52:=by decide
   go_loopw [26] (fun i wr=>∃k:Nat,k≤5∧i=.int .i64 k∧Below w.heap.size w wr∧Ia wr gz (Na 5) 51∧Ia wr gs ([x0,x1,x2,x3,x4].map Ga) 50∧Ia wr gt ((T k).map Ga) 51) (fun i _=>5-(intOf i).toNat)
   case atStart=>exact ⟨0,Nat.zero_le _,rfl,hB6,hZ6,hS6,by rw [HT0.out];exact hT6⟩
   case round=>
    clear hB6 hZ6 hS6 hT6;obtain ⟨k,hk,rfl,hB,hZ,hS,hT⟩:=hrel;have HLk:=Lib.hid (HT.out k hk);by_cases hlt:k<5
    ·have HN:=Lib.hid (HTS.out k hlt);obtain ⟨z,HZ⟩:=Nb (T (k+1));rw [HZ.out] at HN;generalize T k=s at *;clear HT HT0 HTS HR;rcases (show k=0∨k=1∨k=2∨k=3∨k=4 by omega) with rfl|rfl|rfl|rfl|rfl;all_goals
      simp only [Nat.reduceAdd] at HZ;go_wp2_with fail
      refine Ad 16 (by kernel_rfl) (by kernel_rfl) ?_;intro w4 hw4;have hB4:Below w.heap.size w w4:=by rw [hw4];exact hB.drew
      have hZ4:Ia w4 gz (Na 5) 51:=by rw [hw4];exact hZ
      have hS4:Ia w4 gs ([x0,x1,x2,x3,x4].map Ga) 50:=by rw [hw4];exact hS
      have hT4:Ia w4 gt (s.map Ga) 51:=by rw [hw4];exact hT
      clear hw4 hB hZ hS hT;have d0:=hS4.get (v:=Ga x0) (j:=0) rfl;have d1:=hS4.get (v:=Ga x1) (j:=1) rfl;have d2:=hS4.get (v:=Ga x2) (j:=2) rfl;have d3:=hS4.get (v:=Ga x3) (j:=3) rfl;have d4:=hS4.get (v:=Ga x4) (j:=4) rfl;have hTT:=fun k (h:k<5)=>hT4.there k 1 (by rw [Uaj,HLk.out];omega);have h0:=hT4.set 0 (Ga (Ti [x0,x1,x2,x3,x4] 0));have h1:=hT4.set 1 (Ga (Ti [x0,x1,x2,x3,x4] 1));have h2:=hT4.set 2 (Ga (Ti [x0,x1,x2,x3,x4] 2));have h3:=hT4.set 3 (Ga (Ti [x0,x1,x2,x3,x4] 3));have h4:=hT4.set 4 (Ga (Ti [x0,x1,x2,x3,x4] 4));rw [Se,Ga,←HM.out.1] at h0;rw [Se,Ga,←HM.out.2.1] at h1;rw [Se,Ga,←HM.out.2.2.1] at h2;rw [Se,Ga,←HM.out.2.2.2.1] at h3;rw [Se,Ga,←HM.out.2.2.2.2] at h4;obtain ⟨h0,h1,h2,h3,h4⟩:Hid _∧Hid _∧Hid _∧Hid _∧Hid _:=⟨Lib.hid h0,Lib.hid h1,Lib.hid h2,Lib.hid h3,Lib.hid h4⟩;simp only [List.take_succ_cons,List.take_zero,List.drop_succ_cons,List.drop_zero];repeat still_step
      refine wpStill_nil ?_;clear d0 d1 d2 d3 d4;go_wp2_with (first
       |(refine Qb rfl 49 _ _ rfl gt _ .u64 _ rfl rfl Gf (hTT _ (by omega)) ?_
         intro w5 hw5;have hB5:Below w.heap.size w w5:=by rw [hw5];exact hB4.setCell (p:=⟨gt,_,none⟩) (by show w.heap.size≤gt;omega) _
         have hZ5:Ia w5 gz (Na 5) 51:=by rw [hw5];exact hZ4.other (by show gz≠gt;omega) _
         have hS5:Ia w5 gs ([x0,x1,x2,x3,x4].map Ga) 50:=by rw [hw5];exact hS4.other (by show gs≠gt;omega) _
         have hT5:Ia w5 gt (z.map Ga) 51:=by rw [hw5,HN.out];first|exact h0.out|exact h1.out|exact h2.out|exact h3.out|exact h4.out
         clear hw5))
      go_roundw
      case rel=>
       rw [←HZ.out] at hT5;first|exact ⟨1,by omega,rfl,hB5,hZ5,hS5,hT5⟩|exact ⟨2,by omega,rfl,hB5,hZ5,hS5,hT5⟩|exact ⟨3,by omega,rfl,hB5,hZ5,hS5,hT5⟩|exact ⟨4,by omega,rfl,hB5,hZ5,hS5,hT5⟩|exact ⟨5,by omega,rfl,hB5,hZ5,hS5,hT5⟩
      case measure=>simp [intOf]
    ·obtain rfl:k=5:=by omega
     rw [HR.out] at hT HLk;go_wp2_with (first
      |(refine zv rfl 51 _ rfl gt 5 (r.map Ga) 49 rfl hT Tryz.underlying51 Sc (by rw [Uaj,HLk.out]) ?_)
      |(refine Ka rfl 51 _ _ rfl gz 5 (Na 5) (r.map Ga) rfl rfl hZ rfl Sc (by rw [Uaj,HLk.out]) (Oa r) ?_
        intro w7 hb7 hC7 _))
     refine QW Tryz.results125 gz (r.map Ga) rfl hC7 Tryz.underlying51 Sc (by rw [Uaj,HLk.out]) rfl ⟨rfl,hB.trans (hb7.below (by omega) hB.size)⟩
def Xag (x:Nat):List Nat:=[x%18446744073709551616,x/18446744073709551616%18446744073709551616,x/340282366920938463463374607431768211456%18446744073709551616,x/6277101735386680763835789423207666416102355444464034512896%18446744073709551616]
theorem N2 (b:List UInt8) (hb:b.length=32) (k:Nat) (hk:k<4):Zf ((b.drop (8*k)).take 8).reverse=(Xag (lev b)).getD k 0:=by
 rw [AI,GL _ _ (by rw [List.length_drop];omega),FL _ _ (by omega)];generalize lev b=x;rcases (show k=0∨k=1∨k=2∨k=3 by omega) with rfl|rfl|rfl|rfl
 ·show x/256^0%256^8=x%18446744073709551616;rw [Nat.pow_zero,Nat.div_one,show 256^8=18446744073709551616 from rfl]
 ·show x/256^8%256^8=x/18446744073709551616%18446744073709551616;rw [show 256^8=18446744073709551616 from rfl]
 ·show x/256^16%256^8=x/340282366920938463463374607431768211456%18446744073709551616;rw [show 256^8=18446744073709551616 from rfl,show 256^16=340282366920938463463374607431768211456 from rfl]
 ·show x/256^24%256^8=x/6277101735386680763835789423207666416102355444464034512896%18446744073709551616;rw [show 256^8=18446744073709551616 from rfl,show 256^24=6277101735386680763835789423207666416102355444464034512896 from rfl]
theorem O2 (x0 x1 x2 x3 x4:Nat):Ti [x0,x1,x2,x3,x4] 0=Zm x0 x1 1 18446744073709551616:=by rw [Ti];simp only [List.getD_cons_zero,List.getD_cons_succ]
theorem M8 (x:Nat):(Va x).getD 0 0=x%2251799813685248:=rfl
theorem Yag (x:Nat):(x%18446744073709551616+x/18446744073709551616%18446744073709551616*18446744073709551616%18446744073709551616)%2251799813685248=x%2251799813685248:=by
 omega
theorem P2 (x0 x1 x2 x3 x4:Nat):Ti [x0,x1,x2,x3,x4] 1=Zm x0 x1 2251799813685248 8192:=by rw [Ti];simp only [List.getD_cons_zero,List.getD_cons_succ]
theorem N8 (x:Nat):(Va x).getD 1 0=x/2251799813685248%2251799813685248:=rfl
theorem Zag (x:Nat):(x%18446744073709551616/2251799813685248+x/18446744073709551616%18446744073709551616*8192%18446744073709551616)%2251799813685248=x/2251799813685248%2251799813685248:=by
 omega
theorem R2 (x0 x1 x2 x3 x4:Nat):Ti [x0,x1,x2,x3,x4] 2=Zm x1 x2 274877906944 67108864:=by rw [Ti];simp only [List.getD_cons_zero,List.getD_cons_succ]
theorem O8 (x:Nat):(Va x).getD 2 0=x/2251799813685248/2251799813685248%2251799813685248:=rfl
theorem xag (x:Nat):(x/18446744073709551616%18446744073709551616/274877906944+x/340282366920938463463374607431768211456%18446744073709551616*67108864%18446744073709551616)%2251799813685248=x/2251799813685248/2251799813685248%2251799813685248:=by
 omega
theorem S2 (x0 x1 x2 x3 x4:Nat):Ti [x0,x1,x2,x3,x4] 3=Zm x2 x3 33554432 549755813888:=by rw [Ti];simp only [List.getD_cons_zero,List.getD_cons_succ]
theorem P8 (x:Nat):(Va x).getD 3 0=x/2251799813685248/2251799813685248/2251799813685248%2251799813685248:=rfl
theorem yag (x:Nat):(x/340282366920938463463374607431768211456%18446744073709551616/33554432+x/6277101735386680763835789423207666416102355444464034512896%18446744073709551616*549755813888%18446744073709551616)%2251799813685248=x/2251799813685248/2251799813685248/2251799813685248%2251799813685248:=by
 omega
theorem T2 (x0 x1 x2 x3 x4:Nat):Ti [x0,x1,x2,x3,x4] 4=Zm x3 x4 4096 4503599627370496:=by rw [Ti];simp only [List.getD_cons_zero,List.getD_cons_succ]
theorem Q8 (x:Nat):(Va x).getD 4 0=x/2251799813685248/2251799813685248/2251799813685248/2251799813685248%2251799813685248:=rfl
theorem zag (x:Nat) (h:x<115792089237316195423570985008687907853269984665640564039457584007913129639936):(x/6277101735386680763835789423207666416102355444464034512896%18446744073709551616/4096+0*4503599627370496%18446744073709551616)%2251799813685248=x/2251799813685248/2251799813685248/2251799813685248/2251799813685248%2251799813685248:=by
 omega
theorem R8 (x k:Nat) (hx:x<115792089237316195423570985008687907853269984665640564039457584007913129639936) (hk:k<5):Ti [x%18446744073709551616,x/18446744073709551616%18446744073709551616,x/340282366920938463463374607431768211456%18446744073709551616,x/6277101735386680763835789423207666416102355444464034512896%18446744073709551616,0] k=(Va x).getD k 0:=by
 rcases (show k=0∨k=1∨k=2∨k=3∨k=4 by omega) with rfl|rfl|rfl|rfl|rfl
 ·rw [O2,M8,Zm,Nat.div_one,Yag]
 ·rw [P2,N8,Zm,Zag]
 ·rw [R2,O8,Zm,xag]
 ·rw [S2,P8,Zm,yag]
 ·rw [T2,Q8,Zm,zag x hx]
theorem Ro (l:List Nat) (h:l.length≤5) (k:Nat) (hk:k≤l.length):(l.take k++List.replicate (5-k) 0).length=5:=by
 rw [qaj,zaj,List.length_replicate];omega
theorem Gu (b:List UInt8) (hb:b.length=32):lev b<115792089237316195423570985008687907853269984665640564039457584007913129639936:=by
 have h:=Pn b;rw [hb] at h;exact h
theorem qk (a b:Nat):((a:Int)/(b:Int))=((a/b:Nat):Int):=(Int.natCast_ediv a b).symm
theorem Aaj (x0 x1 x2 x3:Nat) (q0:x0<18446744073709551616) (q1:x1<18446744073709551616) (q2:x2<18446744073709551616) (q3:x3<18446744073709551616):
 bits .and .u64 (bits .or .u64 (x0:Int) (IntKind.u64.wrap ((x1:Int)*18446744073709551616))) 2251799813685247=((Ti [x0,x1,x2,x3,0] 0:Nat):Int)∧bits .and .u64 (bits .or .u64 ((x0:Int)/2251799813685248) (IntKind.u64.wrap ((x1:Int)*8192))) 2251799813685247=((Ti [x0,x1,x2,x3,0] 1:Nat):Int)∧
  bits .and .u64 (bits .or .u64 ((x1:Int)/274877906944) (IntKind.u64.wrap ((x2:Int)*67108864))) 2251799813685247=((Ti [x0,x1,x2,x3,0] 2:Nat):Int)∧bits .and .u64 (bits .or .u64 ((x2:Int)/33554432) (IntKind.u64.wrap ((x3:Int)*549755813888))) 2251799813685247=((Ti [x0,x1,x2,x3,0] 3:Nat):Int)∧
  bits .and .u64 (bits .or .u64 ((x3:Int)/4096) (IntKind.u64.wrap (((0:Nat):Int)*4503599627370496))) 2251799813685247=((Ti [x0,x1,x2,x3,0] 4:Nat):Int):=by
 rw [O2,P2,R2,S2,T2,Zm,Zm,Zm,Zm,Zm,Nat.div_one];refine ⟨?_,?_,?_,?_,?_⟩
 ·exact Fu x0 x1 64 18446744073709551616 rfl (by decide) q0 (by omega)
 ·have h:=Fu (x0/2251799813685248) x1 13 8192 rfl (by decide) (by omega) (by omega);rw [←qk] at h;exact h
 ·have h:=Fu (x1/274877906944) x2 26 67108864 rfl (by decide) (by omega) (by omega);rw [←qk] at h;exact h
 ·have h:=Fu (x2/33554432) x3 39 549755813888 rfl (by decide) (by omega) (by omega);rw [←qk] at h;exact h
 ·have h:=Fu (x3/4096) 0 52 4503599627370496 rfl (by decide) (by omega) (by omega);rw [←qk] at h;exact h
theorem U2 (b:List UInt8) (x0 x1 x2 x3:Nat) (r:List Nat) (w:World) (hb:b.length=32) (hr:r.length=5) (q0:x0<18446744073709551616) (q1:x1<18446744073709551616) (q2:x2<18446744073709551616) (q3:x3<18446744073709551616)
 (hw:∀k,k<4→Zf ((b.drop (8*k)).take 8).reverse= [x0,x1,x2,x3].getD k 0) (hl:∀k,k<5→Ti [x0,x1,x2,x3,0] k=r.getD k 0):Calls Tryz.prog 125 #[Ca b] w (gvn (Aa r) w):=by
 obtain ⟨r0,r1,r2,r3,r4,rfl⟩:=Ve r hr;refine qQ b x0 x1 x2 x3 0 [r0,r1,r2,r3,r4] (fun k=> [x0,x1,x2,x3].take k++List.replicate (5-k) 0) (fun k=> [r0,r1,r2,r3,r4].take k++List.replicate (5-k) 0) w hb (fun k hk=>Ro _ (Nat.le_of_ble_eq_true rfl) k hk) rfl (fun k hk=>?_) rfl (fun k hk=>Ro _ (Nat.le_of_ble_eq_true rfl) k hk) rfl (fun k hk=>?_) rfl (Aaj x0 x1 x2 x3 q0 q1 q2 q3)
 ·rw [hw k hk];rcases (show k=0∨k=1∨k=2∨k=3 by omega) with rfl|rfl|rfl|rfl<;>rfl
 ·rw [hl k hk];rcases (show k=0∨k=1∨k=2∨k=3∨k=4 by omega) with rfl|rfl|rfl|rfl|rfl<;>rfl
theorem GX (b:List UInt8) (w:World) (hb:b.length=32):Calls Tryz.prog 125 #[Ca b] w (gvn (Aa (Va (lev b))) w):=
 U2 b _ _ _ _ _ w hb (BI _) (Nat.mod_lt _ (by decide)) (Nat.mod_lt _ (by decide)) (Nat.mod_lt _ (by decide)) (Nat.mod_lt _ (by decide)) (fun k hk=>N2 b hb k hk) (fun k hk=>R8 (lev b) k (Gu b hb) hk)
theorem AR (b:List UInt8) (s r:List Nat) (w:World) (HB:Hid (b.length=32)) (HR:Hid (r.length=5)) (CP:Hid (∀W,Calls Tryz.prog 125 #[Ca b] W (gvn (Aa s) W)))
 (CL:Hid (∀W,Calls Tryz.prog 103 #[Aa s] W (gvn (Aa r) W))) (BE:∀w,(Instr.build 53 #[(0,Aa r)]).run Tryz.prog w=.ok (Aa r) w):
 Calls Tryz.prog 97 #[Ca b] w (gvn (Aa r) w):=by
 go_enter Tryz.func97,Tryz.ntmps97;go_wp2_with (first
  |(refine Rb rfl 23 (.tmp 0) rfl b rfl ?_
    intro w1 hB1 hA1 hz;clear hz;try simp only [La]
    skip)
  |(refine Ma rfl 53 rfl (Na 5) Fb ?_
    intro w3 hb3 hZ3;have hB3:=Ba hB1 hb3;have hA3:=hA1.on hb3;have hle:=hB1.size;clear hB1 hA1 hb3;try simp only [La]
    skip)
  |(refine Tc rfl 23 (.tmp 1) rfl w.heap.size 32 b _ rfl hA3 Tryz.underlying23 za HB.out ?_
    clear hA3;try simp only [La]
    skip))
 generalize w1.heap.size=gz at *;refine (CP.out w3).mono ?_;rintro e w4 ⟨rfl,hb4⟩;have hB4:=Ba hB3 hb4;have hZ4:=hZ3.on hb4;clear CP hB3 hZ3 hb4;go_wp2_with fail
 refine (CL.out w4).mono ?_;rintro e w5 ⟨rfl,hb5⟩;have hB5:=Ba hB4 hb5;have hZ5:=hZ4.on hb5;clear CL hB4 hZ4 hb5;go_wp2_with (first
  |(refine Eb rfl 53 _ rfl [(0,Aa r)] rfl _ BE ?_)
  |(refine Ka rfl 53 _ _ rfl gz 5 (Na 5) (r.map Ga) rfl rfl hZ5 rfl Sa (by rw [Uaj,HR.out]) (Oa _) ?_
    intro w6 hb6 hC6 _))
 refine qc Tryz.results97 gz (r.map Ga) rfl hC6 Tryz.underlying53 rfl Sa (by rw [Uaj,HR.out]) rfl ⟨rfl,hB5.trans (hb6.below hle hB5.size)⟩
def Dz (b:List UInt8):Nat:=lev b%57896044618658097711785492504343953926634992332820282019728792003956564819968%pp
theorem S8 (b:List UInt8):Dz b<pp:=Nat.mod_lt _ (by decide)
theorem V2 (x:Nat):yg (lx x 0) (lx x 1) (lx x 2) (lx x 3) (lx x 4)=x%57896044618658097711785492504343953926634992332820282019728792003956564819968:=by
 have e:∀k,lx (x%57896044618658097711785492504343953926634992332820282019728792003956564819968) k=lx x k:=fun k=>by rw [lx,yv];rfl
 rw [←e 0,←e 1,←e 2,←e 3,←e 4];exact Qs _ (Nat.mod_lt _ (by decide))
theorem IX (b:List UInt8) (w:World) (hb:b.length=32):Calls Tryz.prog 97 #[Ca b] w (gvn (elV (Dz b)) w):=by
 have hx:=Qo (lev b);refine AR b (Va (lev b)) (Va (Dz b)) w hb rfl (fun W=>GX b W hb) (fun W=>?_) (yq _ rfl);have h:=xq (lx (lev b) 0) (lx (lev b) 1) (lx (lev b) 2) (lx (lev b) 3) (lx (lev b) 4) _ W (by have :=hx 0;omega) (by have :=hx 1;omega) (by have :=hx 2;omega) (by have :=hx 3;omega) (by have :=hx 4;omega) rfl;rw [V2] at h;exact h
theorem DR (s p:List UInt8) (o:Nat) (hp:p.length=8):Ub (s.map Fa) o (p.map Fa)=(s.take o++p++s.drop (o+8)).map Fa:=by
 simp [Ub,hp,List.map_take,List.map_drop]
theorem XD (n0 n1 n2 n3 n4:Nat) (r:List UInt8) (P:Nat→List UInt8) (X:Nat→Nat) (w:World)
 (HV:Hid (bits .or .u64 (n0:Int) (IntKind.u64.wrap ((n1:Int)*2251799813685248))=(X 0:Int)∧bits .or .u64 ((n1:Int)/8192) (IntKind.u64.wrap ((n2:Int)*274877906944))=(X 1:Int)∧bits .or .u64 ((n2:Int)/67108864) (IntKind.u64.wrap ((n3:Int)*33554432))=(X 2:Int)∧bits .or .u64 ((n3:Int)/549755813888) (IntKind.u64.wrap ((n4:Int)*4096))=(X 3:Int)))
 (HX:Hid (∀k,X k<18446744073709551616)) (H0:Hid (P 0=List.replicate 32 0)) (HL:Hid (∀k,(P k).length=32)) (HP:Hid (∀k,k<4→P (k+1)=(P k).take (8*k)++Ob (X k) 8++(P k).drop (8*k+8))) (HR:Hid (P 4=r)):
 Calls Tryz.prog 112 #[Aa [n0,n1,n2,n3,n4]] w (gvn (Ca r) w):=by
 have HRL:Hid (r.length=32):=by show _=_;rw [←HR.out];exact HL.out 4
 go_enter Tryz.func112,Tryz.ntmps112;go_wp2_with (first
  |(refine Ra rfl 51 (.tmp 0) rfl ([n0,n1,n2,n3,n4].map Ga) rfl ?_
    intro w1 hB1 hA1)
  |(refine Rk (o:=⟨some 2,_,_,_,_,_⟩) rfl 23 rfl 32 Zb ?_
    intro w2 hb2 hZ2 hz;have hB2:=Ba hB1 hb2;have hA2:=hA1.on hb2;have hg1:=hA1.lt;clear hB1 hA1 hb2 hz)
  |(refine Rk (o:=⟨some 3,_,_,_,_,_⟩) rfl 23 rfl 32 Zb ?_
    intro w3 hb3 hS3 hz;have hB3:=Ba hB2 hb3;have hA3:=hA2.on hb3;have hZ3:=hZ2.on hb3;have hg2:=hZ2.lt;clear hB2 hA2 hZ2 hb3 hz))
 generalize hg:w1.heap.size=gz at *;generalize hh:w2.heap.size=gs at *;clear hg hh;have j1:IntKind.i64.wrap 1=1:=by decide
 have j2:IntKind.i64.wrap 2=2:=by decide
 have j3:IntKind.i64.wrap 3=3:=by decide
 have j4:IntKind.i64.wrap 4=4:=by decide
 have j5:IntKind.i64.wrap 51=51:=by decide
 have j6:IntKind.i64.wrap 38=38:=by decide
 have j7:IntKind.i64.wrap 25=25:=by decide
 have j8:IntKind.i64.wrap 12=12:=by decide
 go_loopw [11] (fun i wr=>∃k:Nat,k≤4∧i=.int .i64 k∧Below w.heap.size w wr∧Ia wr w.heap.size ([n0,n1,n2,n3,n4].map Ga) 51∧Ia wr gz (List.replicate 32 (Fa 0)) 23∧Ia wr gs ((P k).map Fa) 23) (fun i _=>4-(intOf i).toNat)
 case atStart=>exact ⟨0,Nat.zero_le _,rfl,hB3,hA3,hZ3,by rw [H0.out,List.map_replicate];exact hS3⟩
 case round=>
  clear hB3 hA3 hZ3 hS3;obtain ⟨k,hk,rfl,hB,hA,hZ,hS⟩:=hrel;have HLk:=Lib.hid (HL.out k);by_cases hlt:k<4
  ·have HN:=Lib.hid (HP.out k hlt);have HXk:=Lib.hid (HX.out k);have CP:=Lib.hid (fun W=>Vt (X k) 8 W (HX.out k) (by decide));obtain ⟨z,HZ⟩:=Nb (P (k+1));rw [HZ.out] at HN;have HVk:=Lib.hid HV.out;have d0:=hA.get (v:=Ga n0) (j:=0) rfl;have d1:=hA.get (v:=Ga n1) (j:=1) rfl;have d2:=hA.get (v:=Ga n2) (j:=2) rfl;have d3:=hA.get (v:=Ga n3) (j:=3) rfl;have d4:=hA.get (v:=Ga n4) (j:=4) rfl;generalize P k=s at *;clear HV HX H0 HL HP HR HRL;rcases (show k=0∨k=1∨k=2∨k=3 by omega) with rfl|rfl|rfl|rfl;all_goals
    simp only [Nat.mul_zero,Nat.reduceMul,Nat.reduceAdd,Nat.zero_add] at HN HZ;go_wp2_with fail
    go_quiet (fail)
    first|rw [HVk.out.1]|rw [HVk.out.2.1]|rw [HVk.out.2.2.1]|rw [HVk.out.2.2.2]
    have hB4:Below w.heap.size w (wr.drewN nq):=⟨hB.os,hB.tape,hB.output,hB.size,hB.block⟩;have hA4:=hA.drewN nq;have hZ4:=hZ.drewN nq;have hS4:=hS.drewN nq;generalize wr.drewN nq=w4 at *;clear hB hA hZ hS d0 d1 d2 d3 d4 HVk;have hLs:(s.map Fa).length=32:=by rw [Uaj,HLk.out]
    go_wp2_with fail
    refine (CP.out w4).mono ?_;rintro e w5 ⟨rfl,hb5,hM5⟩;have hB5:=Ba hB4 hb5;have hA5:=hA4.on hb5;have hZ5:=hZ4.on hb5;have hS5:=hS4.on hb5;clear CP hB4 hA4 hZ4 hS4 hb5;go_wp2_with (first
     |(refine Yo rfl (.tmp 40) (.tmp 41) rfl gs _ _ _ 8 8 w5.heap.size 8 (some ⟨w4.heap.size,0,none⟩) _ rfl rfl (Ta _ _) (by decide) (hM5.row hM5.lt) (hS5.there _ 8 (by rw [hLs];decide)) ?_
       intro w6 hw6;rw [Zaj (by rw [Ta];decide)] at hw6;have hb6:But gs w5 w6:=by rw [hw6];exact (But.refl gs w5).setCells _ _
       have hS6:Ia w6 gs (z.map Fa) 23:=by
        rw [hw6,HN.out,←DR _ _ _ (Ta _ 8)];exact hS5.setCells (by rw [Uaj,Ta,hLs];decide)
       have hB6:=hB5.trans (hb6.below (by omega) hB5.size);have hA6:=hA5.but hb6 (by omega);have hZ6:=hZ5.but hb6 (by omega);clear hw6 hb6 hB5 hA5 hZ5 hS5 hM5))
    go_roundw
    case rel=>
     rw [←HZ.out] at hS6;first|exact ⟨1,by omega,rfl,hB6,hA6,hZ6,hS6⟩|exact ⟨2,by omega,rfl,hB6,hA6,hZ6,hS6⟩|exact ⟨3,by omega,rfl,hB6,hA6,hZ6,hS6⟩|exact ⟨4,by omega,rfl,hB6,hA6,hZ6,hS6⟩
    case measure=>simp [intOf]
  ·obtain rfl:k=4:=by omega
   rw [HR.out] at hS;go_wp2_with (first
    |(refine Tc rfl 23 _ rfl gs 32 r _ rfl hS Tryz.underlying23 za HRL.out ?_)
    |(refine Li rfl 23 _ _ rfl gz 32 (List.replicate 32 (Fa 0)) r rfl rfl hZ List.length_replicate za HRL.out ?_
      intro w7 hb7 hC7 _))
   exact Mi Tryz.results112 gz r rfl hC7 Tryz.underlying23 za HRL.out rfl ⟨rfl,hB.trans (hb7.below (by omega) hB.size)⟩
def Iu (n:Nat):List UInt8:=Ob n 32
theorem Jp (n:Nat):(Iu n).length=32:=Ta n 32
theorem JB (x j:Nat):∀k,Ob x (j+k)=Ob x j++Ob (x/256^j) k
 |0=>by rw [show Ob (x/256^j) 0= [] from rfl,List.append_nil,Nat.add_zero]
 |k+1=>by
  rw [←Nat.add_assoc,Mh,JB x j k,Mh,List.append_assoc,Ec,Ec,Nat.div_div_eq_div_mul,Nat.pow_add]
theorem B3 (x k:Nat) (h:k≤8):Ob (x%18446744073709551616) k=Ob x k:=by
 rw [Ob,Ob];refine List.map_congr_left fun i hi=>?_;have hi':i<8:=by have :=List.mem_range.1 hi;omega
 rw [Ec,Ec,←UInt8.toNat_inj,UInt8.toNat_ofNat',UInt8.toNat_ofNat'];rcases (show i=0∨i=1∨i=2∨i=3∨i=4∨i=5∨i=6∨i=7 by omega) with rfl|rfl|rfl|rfl|rfl|rfl|rfl|rfl<;>simp only [Nat.reducePow,Nat.pow_zero]<;>omega
def Tl (n k:Nat):Nat:=n/256^(8*k)%18446744073709551616
theorem T8 (n:Nat):Tl n 0=n%18446744073709551616:=by rw [Tl,Nat.mul_zero,Nat.pow_zero,Nat.div_one]
theorem U8 (n:Nat):Tl n 1=n/18446744073709551616%18446744073709551616:=by rw [Tl,show 256^(8*1)=18446744073709551616 from rfl]
theorem V8 (n:Nat):Tl n 2=n/340282366920938463463374607431768211456%18446744073709551616:=by rw [Tl,show 256^(8*2)=340282366920938463463374607431768211456 from rfl]
theorem W8 (n:Nat):Tl n 3=n/6277101735386680763835789423207666416102355444464034512896%18446744073709551616:=by rw [Tl,show 256^(8*3)=6277101735386680763835789423207666416102355444464034512896 from rfl]
theorem zac (n:Nat):n%2251799813685248+n/2251799813685248%2251799813685248*2251799813685248%18446744073709551616=n%18446744073709551616:=by omega
theorem qac (n:Nat):n/2251799813685248%2251799813685248/8192+n/2251799813685248/2251799813685248%2251799813685248*274877906944%18446744073709551616=n/18446744073709551616%18446744073709551616:=by omega
theorem Aad (n:Nat):n/2251799813685248/2251799813685248%2251799813685248/67108864+n/2251799813685248/2251799813685248/2251799813685248%2251799813685248*33554432%18446744073709551616=n/340282366920938463463374607431768211456%18446744073709551616:=by omega
theorem Bad (n:Nat) (h:n<57896044618658097711785492504343953926634992332820282019728792003956564819968):n/2251799813685248/2251799813685248/2251799813685248%2251799813685248/549755813888+n/2251799813685248/2251799813685248/2251799813685248/2251799813685248%2251799813685248*4096%18446744073709551616=n/6277101735386680763835789423207666416102355444464034512896%18446744073709551616:=by omega
theorem D3 (n0 n1 n2 n3 n4:Nat) (q0:n0<2251799813685248) (q1:n1<2251799813685248) (q2:n2<2251799813685248) (q3:n3<2251799813685248):
 bits .or .u64 (n0:Int) (IntKind.u64.wrap ((n1:Int)*2251799813685248))=((n0+n1*2251799813685248%18446744073709551616:Nat):Int)∧bits .or .u64 ((n1:Int)/8192) (IntKind.u64.wrap ((n2:Int)*274877906944))=((n1/8192+n2*274877906944%18446744073709551616:Nat):Int)∧
 bits .or .u64 ((n2:Int)/67108864) (IntKind.u64.wrap ((n3:Int)*33554432))=((n2/67108864+n3*33554432%18446744073709551616:Nat):Int)∧bits .or .u64 ((n3:Int)/549755813888) (IntKind.u64.wrap ((n4:Int)*4096))=((n3/549755813888+n4*4096%18446744073709551616:Nat):Int):=by
 refine ⟨?_,?_,?_,?_⟩
 ·exact IB n0 n1 51 2251799813685248 rfl (by decide) q0
 ·have h:=IB (n1/8192) n2 38 274877906944 rfl (by decide) (by omega);rw [←qk] at h;exact h
 ·have h:=IB (n2/67108864) n3 25 33554432 rfl (by decide) (by omega);rw [←qk] at h;exact h
 ·have h:=IB (n3/549755813888) n4 12 4096 rfl (by decide) (by omega);rw [←qk] at h;exact h
theorem ER (n0 n1 n2 n3 n4 n:Nat) (w:World) (HV:bits .or .u64 (n0:Int) (IntKind.u64.wrap ((n1:Int)*2251799813685248))=(Tl n 0:Int)∧bits .or .u64 ((n1:Int)/8192) (IntKind.u64.wrap ((n2:Int)*274877906944))=(Tl n 1:Int)∧bits .or .u64 ((n2:Int)/67108864) (IntKind.u64.wrap ((n3:Int)*33554432))=(Tl n 2:Int)∧bits .or .u64 ((n3:Int)/549755813888) (IntKind.u64.wrap ((n4:Int)*4096))=(Tl n 3:Int)):
 Calls Tryz.prog 112 #[Aa [n0,n1,n2,n3,n4]] w (gvn (Ca (Iu n)) w):=by
 have hl:∀k,(Ob n (min (8*k) 32)++List.replicate (32-min (8*k) 32) (0:UInt8)).length=32:=fun k=>by rw [qaj,Ta,List.length_replicate];omega
 refine XD n0 n1 n2 n3 n4 (Iu n) (fun k=>Ob n (min (8*k) 32)++List.replicate (32-min (8*k) 32) 0) (Tl n) w HV (fun k=>Nat.mod_lt _ (by decide)) (by show _=_;simp [Ob]) hl (fun k hk=>?_) ?_
 ·have e1:min (8*k) 32=8*k:=by omega
  have e2:min (8*(k+1)) 32=8*k+8:=by omega
  rw [e1,e2,JB n (8*k) 8,Tl,B3 _ 8 (Xaj _)];rw [List.take_append_of_le_length (by rw [Ta];omega),Zaj (by rw [Ta];omega)];rw [List.drop_append,List.drop_of_length_le (by rw [Ta];omega),Ta,List.nil_append,List.drop_replicate];congr 2
  omega
 ·show Ob n 32++List.replicate 0 0=_;rw [List.replicate_zero,List.append_nil];rfl
theorem WL (n:Nat) (w:World) (hn:n<pp):Calls Tryz.prog 112 #[elV n] w (gvn (Ca (Iu n)) w):=by
 have h:=D3 (lx n 0) (lx n 1) (lx n 2) (lx n 3) (lx n 4) (Qo _ _) (Qo _ _) (Qo _ _) (Qo _ _);refine ER (lx n 0) (lx n 1) (lx n 2) (lx n 3) (lx n 4) n w ?_;rw [T8,U8,V8,W8,←zac,←qac,←Aad,←Bad n (by simp only [pp] at hn;omega)];exact h
theorem XL (a:List Nat) (r:List UInt8) (w:World) (HA:Hid (a.length=5)) (HR:Hid (r.length=32)) (CP:Hid (∀W,Calls Tryz.prog 112 #[Aa a] W (gvn (Ca r) W))):
 Calls Tryz.prog 64 #[Aa a] w (gvn (Ca r) w):=by
 go_enter Tryz.func64,Tryz.ntmps64;go_wp2_with (first
  |(refine Ra rfl 53 (.tmp 0) rfl (a.map Ga) rfl ?_
    intro w1 hB1 hA1;try simp only [La]
    skip)
  |(refine Rk rfl 23 rfl 32 Zb ?_
    intro w3 hb3 hZ3 hz;have hB3:=Ba hB1 hb3;have hA3:=hA1.on hb3;have hle:=hB1.size;clear hB1 hA1 hb3 hz;try simp only [La]
    skip)
  |(refine Pa rfl 51 (.tmp 3) rfl w.heap.size 5 (a.map Ga) rfl hA3 Tryz.underlying51 rfl Sc (by rw [Uaj,HA.out]) ?_
    clear hA3;try simp only [La]
    skip))
 generalize w1.heap.size=gz at *;refine (CP.out w3).mono ?_;rintro e w4 ⟨rfl,hb4⟩;have hB4:=Ba hB3 hb4;have hZ4:=hZ3.on hb4;clear CP hB3 hZ3 hb4;go_wp2_with (first
  |(refine Li rfl 23 _ _ rfl gz 32 (List.replicate 32 (Fa 0)) r rfl rfl hZ4 List.length_replicate za HR.out ?_
    intro w6 hb6 hC6 _))
 exact Mi Tryz.results64 gz r rfl hC6 Tryz.underlying23 za HR.out rfl ⟨rfl,hB4.trans (hb6.below hle hB4.size)⟩
theorem KB (n:Nat) (w:World) (hn:n<pp):Calls Tryz.prog 64 #[elV n] w (gvn (Ca (Iu n)) w):=
 XL (Va n) (Iu n) w rfl (Jp n) (fun W=>WL n W hn)
theorem FR (x:Nat) (h:x<18446744073709551616):Va x= [x%2251799813685248,x/2251799813685248,0,0,0]:=by
 simp only [Va,List.cons.injEq,and_true];refine ⟨trivial,?_,?_,?_,?_⟩<;>omega
theorem GR (x a b:Nat) (r:List Nat) (w:World) (HR:Hid (r.length=5)) (M1:bits .and .u64 (x:Int) 2251799813685247=(a:Int)) (M2:(x:Int)/2251799813685248=(b:Int)) (BN:∀w,(Instr.build 51 #[(0,Ga a),(1,Ga b)]).run Tryz.prog w=.ok (Aa r) w) (BE:∀w,(Instr.build 53 #[(0,Aa r)]).run Tryz.prog w=.ok (Aa r) w):
 Calls Tryz.prog 126 #[Ga x] w (gvn (Aa r) w):=by
 go_enter Tryz.func126,Tryz.ntmps126;go_wp2_with (first
  |(refine Ma rfl 53 rfl (Na 5) Fb ?_
    intro w3 hB3 hZ3)
  |(refine Eb rfl 51 _ rfl [(0,Ga a),(1,Ga b)] rfl _ BN ?_)
  |(refine Eb rfl 53 _ rfl [(0,Aa r)] rfl _ BE ?_)
  |(refine Ka rfl 53 _ _ rfl w.heap.size 5 (Na 5) (r.map Ga) rfl rfl hZ3 rfl Sa (by rw [Uaj,HR.out]) (Oa _) ?_
    intro w6 hb6 hC6 _))
 exact qc Tryz.results126 w.heap.size (r.map Ga) rfl hC6 Tryz.underlying53 rfl Sa (by rw [Uaj,HR.out]) rfl ⟨rfl,hB3.trans (hb6.below (Xaj _) hB3.size)⟩
theorem AG (x:Nat) (w:World) (h:x<18446744073709551616):Calls Tryz.prog 126 #[Ga x] w (gvn (elV x) w):=
 GR x (x%2251799813685248) (x/2251799813685248) (Va x) w rfl (Wx x h) rfl (fun w=>by rw [FR x h];exact TW _ _ w) (Vm x)
def Tn (n:Int):Nat:=(n%(pp:Int)).toNat
theorem IR (n:Int) (x:Nat) (r:List Nat) (w:World) (h0:¬n<0) (HR:Hid (r.length=5)) (M1:IntKind.u64.wrap n=(x:Int)) (CS:Hid (∀W,Calls Tryz.prog 126 #[Ga x] W (gvn (Aa r) W))):
 Calls Tryz.prog 98 #[.int .i64 n] w (gvn (Aa r) w):=by
 go_enter Tryz.func98,Tryz.ntmps98;go_wp2_with (first
  |(refine Ma rfl 53 rfl (Na 5) Fb ?_
    intro w3 hB3 hZ3))
 refine (CS.out w3).mono ?_;rintro e w4 ⟨rfl,hb4⟩;have hB4:=Ba hB3 hb4;have hZ4:=hZ3.on hb4;clear CS hB3 hZ3 hb4;go_wp2_with (first
  |(refine Ka rfl 53 _ _ rfl w.heap.size 5 (Na 5) (r.map Ga) rfl rfl hZ4 rfl Sa (by rw [Uaj,HR.out]) (Oa _) ?_
    intro w6 hb6 hC6 _))
 exact qc Tryz.results98 w.heap.size (r.map Ga) rfl hC6 Tryz.underlying53 rfl Sa (by rw [Uaj,HR.out]) rfl ⟨rfl,hB4.trans (hb6.below (Xaj _) hB4.size)⟩
theorem JR (n:Int) (x:Nat) (r s z:List Nat) (w:World) (h0:n<0) (HR:Hid (r.length=5)) (M1:IntKind.u64.wrap (-(IntKind.u64.wrap n))=(x:Int)) (HN:∀w,(Instr.build 53 #[]).run Tryz.prog w=.ok (Aa z) w) (CS:Hid (∀W,Calls Tryz.prog 126 #[Ga x] W (gvn (Aa s) W))) (CU:Hid (∀W,Calls Tryz.prog 59 #[Aa z,Aa s] W (gvn (Aa r) W))):
 Calls Tryz.prog 98 #[.int .i64 n] w (gvn (Aa r) w):=by
 go_enter Tryz.func98,Tryz.ntmps98;go_wp2_with (first
  |(refine Ma rfl 53 rfl (Na 5) Fb ?_
    intro w3 hB3 hZ3)
  |(refine Eb rfl 53 [] rfl [] rfl _ HN ?_))
 refine (CS.out w3).mono ?_;rintro e w4 ⟨rfl,hb4⟩;have hB4:=Ba hB3 hb4;have hZ4:=hZ3.on hb4;clear CS hB3 hZ3 hb4;go_wp2_with fail
 refine (CU.out w4).mono ?_;rintro e w5 ⟨rfl,hb5⟩;have hB5:=Ba hB4 hb5;have hZ5:=hZ4.on hb5;clear CU hB4 hZ4 hb5;go_wp2_with (first
  |(refine Ka rfl 53 _ _ rfl w.heap.size 5 (Na 5) (r.map Ga) rfl rfl hZ5 rfl Sa (by rw [Uaj,HR.out]) (Oa _) ?_
    intro w6 hb6 hC6 _))
 exact qc Tryz.results98 w.heap.size (r.map Ga) rfl hC6 Tryz.underlying53 rfl Sa (by rw [Uaj,HR.out]) rfl ⟨rfl,hB5.trans (hb6.below (Xaj _) hB5.size)⟩
theorem KR (n:Int) (w:World) (h1: -9223372036854775808≤n) (h2:n<9223372036854775808):Calls Tryz.prog 98 #[.int .i64 n] w (gvn (elV (Tn n)) w):=by
 by_cases h0:n<0
 ·have hx:(-n).toNat<18446744073709551616:=by omega
  have e1:IntKind.u64.wrap (-(IntKind.u64.wrap n))=(((-n).toNat:Nat):Int):=by rw [IntKind.wrap_u64,IntKind.wrap_u64];omega
  have e2:Tn n=(0+(pp-(-n).toNat))%pp:=by simp only [Tn,pp];omega
  rw [e2];exact JR n (-n).toNat (Va _) (Va (-n).toNat) (Va 0) w h0 rfl e1 Dj (fun W=>AG _ W hx) (fun W=>AB 0 _ W (by decide) (by simp only [pp];omega))
 ·have e1:IntKind.u64.wrap n=((n.toNat:Nat):Int):=by rw [IntKind.wrap_u64];omega
  have e2:Tn n=n.toNat:=by simp only [Tn,pp];omega
  rw [e2];exact IR n n.toNat (Va n.toNat) w h0 rfl e1 (fun W=>AG _ W (by omega))
theorem LR (u:List Nat) (w:World) (HU:Hid (u.length=5)) (hU:Tab w 9 (u.map Ga)) (BU:∀w,(Instr.build 53 #[(0,Aa u)]).run Tryz.prog w=.ok (Aa u) w):
 Calls Tryz.prog 100 #[] w (gvn (Aa u) w):=by
 go_enter Tryz.func100,Tryz.ntmps100;go_wp2_with (first
  |(refine Ma rfl 53 rfl (Na 5) Fb ?_
    intro w3 hB3 hZ3;have hU3:=hU.on hB3)
  |(refine Xm rfl 51 (.global 9) rfl 9 5 (u.map Ga) rfl hU3 Tryz.underlying51 rfl Sc (by rw [Uaj,HU.out]) ?_)
  |(refine Eb rfl 53 _ rfl [(0,Aa u)] rfl _ BU ?_)
  |(refine Ka rfl 53 _ _ rfl w.heap.size 5 (Na 5) (u.map Ga) rfl rfl hZ3 rfl Sa (by rw [Uaj,HU.out]) (Oa _) ?_
    intro w6 hb6 hC6 _))
 exact qc Tryz.results100 w.heap.size (u.map Ga) rfl hC6 Tryz.underlying53 rfl Sa (by rw [Uaj,HU.out]) rfl ⟨rfl,hB3.trans (hb6.below (Xaj _) hB3.size)⟩
theorem MR (u:List Nat) (w:World) (HU:Hid (u.length=5)) (hU:Tab w 4 (u.map Ga)) (BU:∀w,(Instr.build 53 #[(0,Aa u)]).run Tryz.prog w=.ok (Aa u) w):
 Calls Tryz.prog 86 #[] w (gvn (Aa u) w):=by
 go_enter Tryz.func86,Tryz.ntmps86;go_wp2_with (first
  |(refine Ma rfl 53 rfl (Na 5) Fb ?_
    intro w3 hB3 hZ3;have hU3:=hU.on hB3)
  |(refine Xm rfl 51 (.global 4) rfl 4 5 (u.map Ga) rfl hU3 Tryz.underlying51 rfl Sc (by rw [Uaj,HU.out]) ?_)
  |(refine Eb rfl 53 _ rfl [(0,Aa u)] rfl _ BU ?_)
  |(refine Ka rfl 53 _ _ rfl w.heap.size 5 (Na 5) (u.map Ga) rfl rfl hZ3 rfl Sa (by rw [Uaj,HU.out]) (Oa _) ?_
    intro w6 hb6 hC6 _))
 exact qc Tryz.results86 w.heap.size (u.map Ga) rfl hC6 Tryz.underlying53 rfl Sa (by rw [Uaj,HU.out]) rfl ⟨rfl,hB3.trans (hb6.below (Xaj _) hB3.size)⟩
theorem NR (u:List Nat) (w:World) (HU:Hid (u.length=5)) (hU:Tab w 5 (u.map Ga)) (BU:∀w,(Instr.build 53 #[(0,Aa u)]).run Tryz.prog w=.ok (Aa u) w):
 Calls Tryz.prog 87 #[] w (gvn (Aa u) w):=by
 go_enter Tryz.func87,Tryz.ntmps87;go_wp2_with (first
  |(refine Ma rfl 53 rfl (Na 5) Fb ?_
    intro w3 hB3 hZ3;have hU3:=hU.on hB3)
  |(refine Xm rfl 51 (.global 5) rfl 5 5 (u.map Ga) rfl hU3 Tryz.underlying51 rfl Sc (by rw [Uaj,HU.out]) ?_)
  |(refine Eb rfl 53 _ rfl [(0,Aa u)] rfl _ BU ?_)
  |(refine Ka rfl 53 _ _ rfl w.heap.size 5 (Na 5) (u.map Ga) rfl rfl hZ3 rfl Sa (by rw [Uaj,HU.out]) (Oa _) ?_
    intro w6 hb6 hC6 _))
 exact qc Tryz.results87 w.heap.size (u.map Ga) rfl hC6 Tryz.underlying53 rfl Sa (by rw [Uaj,HU.out]) rfl ⟨rfl,hB3.trans (hb6.below (Xaj _) hB3.size)⟩
abbrev Ja (x:Nat):Value:=.int .u32 (x:Int)
def Da (l:List Nat):Value:=.agg (l.map Ja).toArray
def Wa (n:Nat):List Value:=List.replicate n (Ja 0)
def pre (l:List Nat):Nat→Nat
 |0=>0
 |i+1=>pre l i+l.getD i 0*4294967296^i
def nD (n:Nat):List Nat:=[n%4294967296,n/4294967296%4294967296,n/18446744073709551616%4294967296,n/79228162514264337593543950336%4294967296,n/340282366920938463463374607431768211456%4294967296,n/1461501637330902918203684832716283019655932542976%4294967296,n/6277101735386680763835789423207666416102355444464034512896%4294967296,n/26959946667150639794667015087019630673637144422540572481103610249216%4294967296]
theorem qe (n:Nat):(nD n).length=8:=rfl
abbrev mm:Nat:=115792089237316195423570985008687907853269984665640564039457584007913129639936
theorem Gj (n:Nat):Wa n=(List.replicate n 0).map Ja:=by simp [Wa]
theorem Ua (l:List Nat):(l.map Ja).toArray.all (·.oneCell')=true:=all_oneCell_toArray (by intro v hv;obtain ⟨x,_,rfl⟩:=List.mem_map.1 hv;rfl)
theorem dat (l:List Nat) (k:Nat) (hk:k<l.length):(l.map Ja)[k]? =some (Ja (l.getD k 0)):=by
 rw [List.getElem?_map,Yaj,xaj hk];rfl
theorem Ih (l:List Nat) (k x:Nat):(l.map Ja).set k (Ja x)=(l.set k x).map Ja:=by rw [List.map_set]
def D8 (l:List Nat):Prop:=l.length=8∧∀k,l.getD k 0<4294967296
theorem MB {α:Type} (l:List α) (h:l.length=8):∃a b c d e f g i,l= [a,b,c,d,e,f,g,i]:=by
 match l,h with
 | [a,b,c,d,e,f,g,i],_=>exact ⟨a,b,c,d,e,f,g,i,rfl⟩
theorem ym (a b c d e f g i:Nat):pre [a,b,c,d,e,f,g,i] 8=a+b*4294967296+c*18446744073709551616+d*79228162514264337593543950336+e*340282366920938463463374607431768211456+f*1461501637330902918203684832716283019655932542976+g*6277101735386680763835789423207666416102355444464034512896+i*26959946667150639794667015087019630673637144422540572481103610249216:=by
 simp [pre]
theorem Td (n:Nat):D8 (nD n):=by
 refine ⟨rfl,fun k=>?_⟩;rcases Nat.lt_or_ge k 8 with h|h
 ·rcases (show k=0∨k=1∨k=2∨k=3∨k=4∨k=5∨k=6∨k=7 by omega) with rfl|rfl|rfl|rfl|rfl|rfl|rfl|rfl<;>exact Nat.mod_lt _ (by decide)
 ·rw [Yaj,List.getElem?_eq_none (by rw [qe];exact h)];decide
theorem Ce (n:Nat) (h:n<mm):pre (nD n) 8=n:=by
 rw [nD,ym];simp only [mm] at h;omega
theorem D8.is {l:List Nat} (h:D8 l):l=nD (pre l 8):=by
 obtain ⟨a,b,c,d,e,f,g,i,rfl⟩:=MB l h.1;have h0:a<4294967296:=h.2 0;have h1:b<4294967296:=h.2 1;have h2:c<4294967296:=h.2 2;have h3:d<4294967296:=h.2 3;have h4:e<4294967296:=h.2 4;have h5:f<4294967296:=h.2 5;have h6:g<4294967296:=h.2 6;have h7:i<4294967296:=h.2 7;rw [ym];simp only [nD,List.cons.injEq,and_true];refine ⟨?_,?_,?_,?_,?_,?_,?_,?_⟩<;>omega
theorem D8.lt {l:List Nat} (h:D8 l):pre l 8<mm:=by
 obtain ⟨a,b,c,d,e,f,g,i,rfl⟩:=MB l h.1;have h0:a<4294967296:=h.2 0;have h1:b<4294967296:=h.2 1;have h2:c<4294967296:=h.2 2;have h3:d<4294967296:=h.2 3;have h4:e<4294967296:=h.2 4;have h5:f<4294967296:=h.2 5;have h6:g<4294967296:=h.2 6;have h7:i<4294967296:=h.2 7;rw [ym];simp only [mm];omega
theorem NB (l:List Nat) (j v:Nat):∀i,i≤j→pre (l.set j v) i=pre l i
 |0,_=>rfl
 |i+1,h=>by
  rw [pre,pre,NB l j v i (by omega),Yaj,List.getElem?_set_ne (by omega),←Yaj]
theorem Zx (l:List Nat) (j v:Nat) (h:j<l.length):(l.set j v).getD j 0=v:=by
 rw [Yaj,List.getElem?_set_self h];rfl
theorem Lg (l:List Nat) (j k v:Nat) (h:j≠k):(l.set j v).getD k 0=l.getD k 0:=by
 rw [Yaj,List.getElem?_set_ne h,←Yaj]
theorem Ar (l:List Nat) (j v:Nat) (h:j<l.length):pre (l.set j v) (j+1)=pre l j+v*4294967296^j:=by
 rw [pre,NB l j v j (Xaj _),Zx l j v h]
theorem OB {l:List Nat} {b:Nat} (h:∀k,l.getD k 0<b) (j v:Nat) (hv:v<b):∀k,(l.set j v).getD k 0<b:=fun k=>by
 by_cases e:j=k
 ·subst e;rcases Nat.lt_or_ge j l.length with hl|hl
  ·rw [Zx l j v hl];exact hv
  ·rw [List.set_eq_of_length_le hl];exact h j
 ·rw [Lg l j k v e];exact h k
theorem D8.set {l:List Nat} (h:D8 l) (j v:Nat) (hv:v<4294967296):D8 (l.set j v):=⟨by rw [List.length_set];exact h.1,OB h.2 j v hv⟩
theorem D8.zeros:D8 [0,0,0,0,0,0,0,0]:=by
 refine ⟨rfl,fun k=>?_⟩;rcases Nat.lt_or_ge k 8 with h|h
 ·rcases (show k=0∨k=1∨k=2∨k=3∨k=4∨k=5∨k=6∨k=7 by omega) with rfl|rfl|rfl|rfl|rfl|rfl|rfl|rfl<;>decide
 ·rw [Yaj,List.getElem?_eq_none (show [0,0,0,0,0,0,0,0].length≤k from h)];decide
theorem Ac:∀w,(zeroValue 66).run Tryz.prog w=.ok (.agg (Wa 8).toArray) w:=(zero_of_info (P:=Tryz.prog) (t:=66) (v:=.agg (Wa 8).toArray) (n:=8) (by kernel_rfl)).1
theorem Za:(Tryz.prog.info? 66).map (·.size)=some 8:=by kernel_rfl
theorem qf:(Tryz.prog.info? 64).map (·.size)=some 1:=by kernel_rfl
theorem Br (w:World):(Instr.build 66 #[]).run Tryz.prog w=.ok (.agg (Wa 8).toArray) w:=by kernel_rfl
theorem Oz:Wa 8= [0,0,0,0,0,0,0,0].map Ja:=rfl
theorem Am (x:Nat) (h:x<18446744073709551616):IntKind.u64.wrap (x:Int)=(x:Int):=by rw [IntKind.wrap_u64];omega
theorem Un (x:Nat):IntKind.u32.wrap (x:Int)=((x%4294967296:Nat):Int):=by rw [IntKind.wrap_u32];omega
theorem Ju (w:World):Calls Tryz.prog 114 #[] w (gvn (Da (nD pp)) w):=by
 have BP:∀w,(Instr.build 66 #[(0,Ja 4294967277),(1,Ja 4294967295),(2,Ja 4294967295),(3,Ja 4294967295),(4,Ja 4294967295),(5,Ja 4294967295),(6,Ja 4294967295),(7,Ja 2147483647)]).run Tryz.prog w=.ok (Da (nD pp)) w:=fun w=>by kernel_rfl
 obtain ⟨r,HR⟩:=Nb (nD pp);have HL:Hid (r.length=8):=by show _=_;rw [←HR.out];rfl
 rw [HR.out] at BP ⊢;go_enter Tryz.func114,Tryz.ntmps114;go_wp2_with (first
  |(refine Ma rfl 66 rfl (Wa 8) Ac ?_
    intro w3 hB3 hZ3)
  |(refine Eb rfl 66 _ rfl [(0,Ja 4294967277),(1,Ja 4294967295),(2,Ja 4294967295),(3,Ja 4294967295),(4,Ja 4294967295),(5,Ja 4294967295),(6,Ja 4294967295),(7,Ja 2147483647)] rfl _ BP ?_)
  |(refine Ka rfl 66 _ _ rfl w.heap.size 8 (Wa 8) (r.map Ja) rfl rfl hZ3 rfl Za (by rw [Uaj,HL.out]) (Ua _) ?_
    intro w6 hb6 hC6 _))
 exact qc Tryz.results114 w.heap.size (r.map Ja) rfl hC6 Tryz.underlying66 rfl Za (by rw [Uaj,HL.out]) rfl ⟨rfl,hB3.trans (hb6.below (Xaj _) hB3.size)⟩
def miX (a b:List Nat) (o k:Nat):Nat:=a.getD k 0+4294967296-b.getD k 0-o
def Bm (a b:List Nat):Nat→List Nat×Nat
 |0=>([0,0,0,0,0,0,0,0],0)
 |k+1=>((Bm a b k).1.set k (miX a b (Bm a b k).2 k%4294967296),1-miX a b (Bm a b k).2 k/4294967296)
theorem PB (a b:List Nat):∀k,(Bm a b k).2≤1
 |0=>Nat.zero_le _
 |k+1=>by rw [Bm];omega
theorem Ku (a b:List Nat):∀k,D8 (Bm a b k).1
 |0=>D8.zeros
 |k+1=>by rw [Bm];exact (Ku a b k).set _ _ (Nat.mod_lt _ (by decide))
theorem YL {a b:List Nat} (ha:D8 a) (hb:D8 b):∀k,k≤8→pre (Bm a b k).1 k+pre b k=pre a k+(Bm a b k).2*4294967296^k
 |0,_=>rfl
 |k+1,h=>by
  have ih:=YL ha hb k (by omega);have hl:=(Ku a b k).1;have ho:=PB a b k;rw [Bm];show pre ((Bm a b k).1.set k (miX a b (Bm a b k).2 k%4294967296)) (k+1)+_=_+(1-miX a b (Bm a b k).2 k/4294967296)*_;rw [Ar _ _ _ (by omega),pre,pre,Nat.pow_succ];have hx:miX a b (Bm a b k).2 k=a.getD k 0+4294967296-b.getD k 0-(Bm a b k).2:=rfl;have h1:=ha.2 k;have h2:=hb.2 k;generalize miX a b (Bm a b k).2 k=x at *;generalize (Bm a b k).2=o at *;generalize a.getD k 0=p at *;generalize b.getD k 0=q at *;have e:x%4294967296+q+o=p+(1-x/4294967296)*4294967296:=by omega
  have e2:(x%4294967296+q+o)*4294967296^k=(p+(1-x/4294967296)*4294967296)*4294967296^k:=by rw [e]
  rw [Nat.add_mul,Nat.add_mul,Nat.add_mul,Nat.mul_assoc (1-x/4294967296),Nat.mul_comm 4294967296] at e2;omega
theorem E3 {a b:List Nat} (ha:D8 a) (hb:D8 b) (h:pre b 8≤pre a 8):(Bm a b 8).1=nD (pre a 8-pre b 8):=by
 have h1:=YL ha hb 8 (Xaj _);have h2:=(Ku a b 8).lt;have h3:=PB a b 8;have h4:=ha.lt;rw [(Ku a b 8).is];congr 1
 rw [show 4294967296^8=mm from rfl] at h1;simp only [mm] at *;omega
theorem YD (a b r:List Nat) (S:Nat→List Nat) (O X:Nat→Nat) (w:World) (HA:Hid (a.length=8)) (HB:Hid (b.length=8)) (HL:Hid (∀k,(S k).length=8)) (H0:Hid (S 0= [0,0,0,0,0,0,0,0]∧O 0=0)) (HS:Hid (∀k,S (k+1)=(S k).set k (X k%4294967296)∧O (k+1)=1-X k/4294967296)) (HX:Hid (∀k,X k=a.getD k 0+4294967296-b.getD k 0-O k)) (HO:Hid (∀k,O k≤1∧a.getD k 0<4294967296∧b.getD k 0<4294967296)) (HR:Hid (S 8=r)):
 Calls Tryz.prog 115 #[Da a,Da b] w (gvn (Da r) w):=by
 go_enter Tryz.func115,Tryz.ntmps115;go_wp2_with (first
  |(refine Ra rfl 66 (.tmp 0) rfl (a.map Ja) rfl ?_
    intro w1 hB1 hA1;try simp only [La]
    skip)
  |(refine Ra rfl 66 (.tmp 1) rfl (b.map Ja) rfl ?_
    intro w2 hb2 hC2;have hB2:=Ba hB1 hb2;have hA2:=hA1.on hb2;have hg1:=hA1.lt;clear hB1 hA1 hb2;try simp only [La]
    skip)
  |(refine Ma (o:=⟨some 4,_,_,_,_,_⟩) rfl 66 rfl (Wa 8) Ac ?_
    intro w3 hb3 hZ3;have hB3:=Ba hB2 hb3;have hA3:=hA2.on hb3;have hC3:=hC2.on hb3;have hg2:=hC2.lt;clear hB2 hA2 hC2 hb3;try simp only [La]
    skip)
  |(refine Eb rfl 66 [] rfl [] rfl _ Br ?_
    try simp only [La]
    skip)
  |(refine Db rfl rfl 66 (.tmp 5) (.tmp 9) rfl rfl 8 (Wa 8) (Wa 8) rfl rfl Ac rfl Za rfl (by rw [Gj];exact Ua _) ?_
    intro w4 hb4 hS4;have hB4:=Ba hB3 hb4;have hA4:=hA3.on hb4;have hC4:=hC3.on hb4;have hZ4:=hZ3.on hb4;have hg3:=hZ3.lt;clear hB3 hA3 hC3 hZ3 hb4;try simp only [La]
    skip))
 generalize hg:w1.heap.size=gb at *;generalize hh:w2.heap.size=gz at *;generalize hi:w3.heap.size=gs at *;clear hg hh hi
 go_loopw [6,7] (fun v i wr=>∃k:Nat,k≤8∧i=.int .i64 k∧v=.int .u64 (O k:Int)∧Below w.heap.size w wr∧Ia wr w.heap.size (a.map Ja) 66∧Ia wr gb (b.map Ja) 66∧Ia wr gz (Wa 8) 66∧Ia wr gs ((S k).map Ja) 66) (fun _ i _=>8-(intOf i).toNat)
 case atStart=>exact ⟨0,Nat.zero_le _,rfl,by rw [H0.out.2];rfl,hB4,hA4,hC4,hZ4,by rw [H0.out.1,←Oz];exact hS4⟩
 case round=>
  clear hB4 hA4 hC4 hZ4 hS4;obtain ⟨k,hk,rfl,rfl,hB,hA,hC,hZ,hS⟩:=hrel;have HLk:=Lib.hid (HL.out k);by_cases hlt:k<8
  ·have HN:=Lib.hid (HS.out k);have hx:=HX.out k;have ho:=HO.out k;have d1:=hA.get (dat a k (by rw [HA.out];exact hlt));have d2:=hC.get (dat b k (by rw [HB.out];exact hlt));obtain ⟨z,HZ⟩:=Nb (S (k+1));obtain ⟨o2,HO2⟩:=Nb (O (k+1));rw [HZ.out,HO2.out] at HN;generalize S k=s at *;generalize O k=o at *;generalize X k=x at *;generalize a.getD k 0=p at *;generalize b.getD k 0=q at *;clear HL H0 HS HX HO HR;have c1:=Am p (by omega);have c2:IntKind.u64.wrap ((p:Int)+4294967296)=((p+4294967296:Nat):Int):=Si p 4294967296 (by omega);have c3:=Am q (by omega);obtain ⟨x1,hx1⟩:∃x1,x1=p+4294967296:=⟨_,rfl⟩;rw [←hx1] at c2;have c4:IntKind.u64.wrap ((x1:Int)-(q:Int))=((x1-q:Nat):Int):=J1 x1 q (by omega) (by omega);obtain ⟨x2,hx2⟩:∃x2,x2=x1-q:=⟨_,rfl⟩;rw [←hx2] at c4;have c5:IntKind.u64.wrap ((x2:Int)-(o:Int))=(x:Int):=by
    rw [J1 x2 o (by omega) (by omega)];congr 1;omega
   have c6:=Un x;have c7:IntKind.u64.wrap (1-(x:Int)/4294967296)=(o2:Int):=by
    rw [HN.out.2];exact J1 1 (x/4294967296) (by omega) (by decide)
   obtain ⟨v,HV⟩:=Nb (x%4294967296);rw [HV.out] at HN c6;clear hx ho hx1 hx2 HV;go_wp2_with fail
   go_quiet (fail)
   have hB4:Below w.heap.size w (wr.drewN nq):=⟨hB.os,hB.tape,hB.output,hB.size,hB.block⟩;have hA4:=hA.drewN nq;have hC4:=hC.drewN nq;have hZ4:=hZ.drewN nq;have hS4:=hS.drewN nq;generalize wr.drewN nq=w4 at *;clear hB hA hC hZ hS d1 d2;have hT:=hS4.there k 1 (by rw [Uaj,HLk.out];omega);have hE:=Lib.hid (hS4.set k (Ja v));go_wp2_with (first
    |(refine Qb rfl 64 _ _ rfl gs k .u32 (v:Int) rfl rfl qf hT ?_
      intro w5 hw5;have hB5:Below w.heap.size w w5:=by rw [hw5];exact hB4.setCell (p:=⟨gs,k,none⟩) (by show w.heap.size≤gs;omega) _
      have hA5:Ia w5 w.heap.size (a.map Ja) 66:=by rw [hw5];exact hA4.other (by show w.heap.size≠gs;omega) _
      have hC5:Ia w5 gb (b.map Ja) 66:=by rw [hw5];exact hC4.other (by show gb≠gs;omega) _
      have hZ5:Ia w5 gz (Wa 8) 66:=by rw [hw5];exact hZ4.other (by show gz≠gs;omega) _
      have hS5:Ia w5 gs (z.map Ja) 66:=by rw [hw5,HN.out.1,←Ih];exact hE.out
      clear hw5 hT hE hB4 hA4 hC4 hZ4 hS4))
   go_roundw
   case rel=>exact ⟨k+1,by omega,by go_num,by rw [HO2.out],hB5,hA5,hC5,hZ5,by rw [HZ.out];exact hS5⟩
   case measure=>simp [intOf];omega
  ·obtain rfl:k=8:=by omega
   rw [HR.out] at hS HLk;go_wp2_with (first
    |(refine Pa rfl 66 _ rfl gs 8 (r.map Ja) rfl hS Tryz.underlying66 rfl Za (by rw [Uaj,HLk.out]) ?_)
    |(refine Ka rfl 66 _ _ rfl gz 8 (Wa 8) (r.map Ja) rfl rfl hZ rfl Za (by rw [Uaj,HLk.out]) (Ua r) ?_
      intro w7 hb7 hC7 _))
   exact qc Tryz.results115 gz (r.map Ja) rfl hC7 Tryz.underlying66 rfl Za (by rw [Uaj,HLk.out]) rfl ⟨rfl,hB.trans (hb7.below (by omega) hB.size)⟩
theorem Ik (n m:Nat) (w:World) (hn:n<mm) (hm:m≤n):Calls Tryz.prog 115 #[Da (nD n),Da (nD m)] w (gvn (Da (nD (n-m))) w):=by
 have h:=E3 (Td n) (Td m) (by rw [Ce n hn,Ce m (by omega)];exact hm);rw [Ce n hn,Ce m (by omega)] at h;exact YD (nD n) (nD m) _ (fun k=>(Bm (nD n) (nD m) k).1) (fun k=>(Bm (nD n) (nD m) k).2) (fun k=>miX (nD n) (nD m) (Bm (nD n) (nD m) k).2 k) w rfl rfl (fun k=>(Ku _ _ k).1) ⟨rfl,rfl⟩ (fun k=>⟨rfl,rfl⟩) (fun k=>rfl) (fun k=>⟨PB _ _ k,(Td n).2 k,(Td m).2 k⟩) h
theorem PI (a b:List Nat) (r:Bool) (w:World) (HA:Hid (a.length=8)) (HB:Hid (b.length=8)) (HD:Hid (∀k,k<8→(∀i,k<i→i<8→a.getD i 0=b.getD i 0)→a.getD k 0≠b.getD k 0→decide (a.getD k 0<b.getD k 0)=r)) (HE:Hid ((∀i,i<8→a.getD i 0=b.getD i 0)→r=false)):
 Calls Tryz.prog 113 #[Da a,Da b] w (gvn (.bool r) w):=by
 go_enter Tryz.func113,Tryz.ntmps113;go_wp2_with (first
  |(refine Ra rfl 66 (.tmp 0) rfl (a.map Ja) rfl ?_
    intro w1 hB1 hA1;try simp only [La]
    skip)
  |(refine Ra rfl 66 (.tmp 1) rfl (b.map Ja) rfl ?_
    intro w2 hb2 hC2;have hB2:=Ba hB1 hb2;have hA2:=hA1.on hb2;clear hB1 hA1 hb2;try simp only [La]
    skip))
 generalize hg:w1.heap.size=gb at *;clear hg
 go_loopw [5] (fun i wr=>∃j:Nat,j≤8∧i=.int .i64 ((j:Int)-1)∧Below w.heap.size w wr∧Ia wr w.heap.size (a.map Ja) 66∧Ia wr gb (b.map Ja) 66∧Hid (∀i,j≤i→i<8→a.getD i 0=b.getD i 0)) (fun i _=>((intOf i)+1).toNat)
 case atStart=>exact ⟨8,Xaj _,rfl,hB2,hA2,hC2,fun i h1 h2=>by omega⟩
 case round=>
  clear hB2 hA2 hC2;obtain ⟨j,hj,rfl,hB,hA,hC,HQ⟩:=hrel;by_cases h0:0<j
  ·obtain ⟨k,rfl⟩:∃k,j=k+1:=⟨j-1,by omega⟩;have d1:=hA.get (dat a k (by rw [HA.out];omega));have d2:=hC.get (dat b k (by rw [HB.out];omega));have e1:(((k+1:Nat):Int)-1)=(k:Int):=by omega
   have i1:(0:Int)≤(k:Int):=by omega
   have i2:(k:Int)<8:=by omega
   rw [e1];by_cases hne:a.getD k 0=b.getD k 0
   ·have HQ2:Hid (∀i,k≤i→i<8→a.getD i 0=b.getD i 0):=fun i h1 h2=>by
     by_cases e:k=i
     ·rw [←e];exact hne
     ·exact HQ.out i (by omega) h2
    rw [←hne] at d2;have i3:IntKind.i64.wrap ((k:Int)-1)=(k:Int)-1:=IntWalk.i64_in _ (by omega);generalize a.getD k 0=p at *;clear HQ HD HE hne;go_wp2_with fail
    go_quiet (fail)
    have hB4:Below w.heap.size w (wr.drewN nq):=⟨hB.os,hB.tape,hB.output,hB.size,hB.block⟩;have hA4:=hA.drewN nq;have hC4:=hC.drewN nq;generalize wr.drewN nq=w4 at *;clear hB hA hC d1 d2
    go_wp2
    go_roundw
    case rel=>exact ⟨k,by omega,by rfl,hB4,hA4,hC4,HQ2⟩
    case measure=>simp [intOf]
   ·have HDk:=Lib.hid (HD.out k (by omega) (fun i h1 h2=>HQ.out i (by omega) h2) hne);have hneI:¬((a.getD k 0:Nat):Int)=((b.getD k 0:Nat):Int):=by omega
    generalize a.getD k 0=p at *;generalize b.getD k 0=q at *;clear HQ HD HE hne;go_wp2_with fail
    go_quiet (fail)
    have hB4:Below w.heap.size w (wr.drewN nq):=⟨hB.os,hB.tape,hB.output,hB.size,hB.block⟩;replace d1:(wr.drewN nq).cell? ⟨w.heap.size,k,none⟩=some (Ja p):=d1;replace d2:(wr.drewN nq).cell? ⟨gb,k,none⟩=some (Ja q):=d2;generalize wr.drewN nq=w4 at *;clear hB hA hC;go_wp2_with fail
    go_quiet (fail)
    go_wp2
    go_ret
    exact ⟨congrArg (fun b=>Ending.returned (.bool b)) HDk.out,⟨hB4.os,hB4.tape,hB4.output,hB4.size,hB4.block⟩⟩
  ·obtain rfl:j=0:=by omega
   have e0:r=false:=HE.out fun i hi=>HQ.out i (Nat.zero_le _) hi;subst e0
   go_wp2
   go_ret
   exact ⟨rfl,hB⟩
theorem qv (a b:List Nat):∀k,(∀i,i<k→a.getD i 0=b.getD i 0)→pre a k=pre b k
 |0,_=>rfl
 |k+1,h=>by rw [pre,pre,qv a b k fun i hi=>h i (by omega),h k (by omega)]
theorem G3 {a:List Nat} (h:∀k,a.getD k 0<4294967296):∀k,pre a k<4294967296^k
 |0=>Nat.pow_pos (by decide)
 |k+1=>by
  have h1:=G3 h k;have h2:a.getD k 0*4294967296^k≤4294967295*4294967296^k:=Nat.mul_le_mul_right _ (by have :=h k;omega);rw [pre,Nat.pow_succ];omega
theorem I3 {a b:List Nat} (ha:∀k,a.getD k 0<4294967296) (k:Nat) (h:a.getD k 0<b.getD k 0):pre a (k+1)<pre b (k+1):=by
 have h1:=G3 ha k;have h2:(a.getD k 0+1)*4294967296^k≤b.getD k 0*4294967296^k:=Nat.mul_le_mul_right _ h;rw [pre,pre];rw [Nat.add_mul,Nat.one_mul] at h2;omega
theorem ZL (a b:List Nat) (k:Nat):∀n,(∀i,k≤i→i<k+n→a.getD i 0=b.getD i 0)→pre a k<pre b k→pre a (k+n)<pre b (k+n)
 |0,_,h=>h
 |n+1,h,hl=>by
  have ih:=ZL a b k n (fun i h1 h2=>h i h1 (by omega)) hl;rw [←Nat.add_assoc,pre,pre,h (k+n) (by omega) (by omega)];omega
theorem xL (n m:Nat) (w:World) (hn:n<mm) (hm:m<mm):Calls Tryz.prog 113 #[Da (nD n),Da (nD m)] w (gvn (.bool (decide (n<m))) w):=by
 have en:=Ce n hn;have em:=Ce m hm;have ha:=(Td n).2;have hb:=(Td m).2;refine PI (nD n) (nD m) _ w rfl rfl (fun k hk heq hne=>?_) (fun heq=>?_)
 ·have key:∀a b:List Nat,(∀k,a.getD k 0<4294967296)→(∀i,k<i→i<8→a.getD i 0=b.getD i 0)→a.getD k 0<b.getD k 0→pre a 8<pre b 8:=fun a b ha he hl=>by
   have h:=ZL a b (k+1) (7-k) (fun i h1 h2=>he i (by omega) (by omega)) (I3 ha k hl)
   rwa [show k+1+(7-k)=8 by omega] at h
  rw [Bool.eq_iff_iff,decide_eq_true_eq,decide_eq_true_eq];rcases Nat.lt_or_ge ((nD n).getD k 0) ((nD m).getD k 0) with h|h
  ·have h2:=key _ _ ha heq h;rw [en,em] at h2;omega
  ·have h2:=key _ _ hb (fun i h1 h2=>(heq i h1 h2).symm) (by omega);rw [en,em] at h2;omega
 ·have h:=qv _ _ 8 heq;rw [en,em] at h;rw [decide_eq_false_iff_not];omega
end Go.Proofs.YtoggkhjaghkpnaaGreatDoor
