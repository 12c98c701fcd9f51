/- Part 10 of what the laws of this seat share: GInvert, GWords, GRead, GBytes, NOrder, AMath, TMath, GMasked, GHalf, GSmall, HSame, HAlive, HSteps, JPoint, TNum. -/
import Derived.Deep.MidRow
import Derived.Test.YtoggkhjaghkpnaaGreatDoorPart9
set_option maxRecDepth 100000
set_option maxHeartbeats 8000000
namespace Go.Proofs.YtoggkhjaghkpnaaGreatDoor
open Go.RowKit
theorem GG (w:World):(Instr.build 66 #[(0,Ja 2)]).run Tryz.prog w=.ok (Da (nD 2)) w:=by kernel_rfl
def By (a p t m r:List Nat) (ga gz:Nat):List Value:=
 (Da a)::ptr ga::ptr gz::(Da a)::(Da p)::(Da t)::(Da m)::(Da r)::[]
theorem WB (a p t m r:List Nat) (w:World) (HA:Hid (a.length=8)) (HR:Hid (r.length=8)) (BT:∀w,(Instr.build 66 #[(0,Ja 2)]).run Tryz.prog w=.ok (Da t) w)
 (CP:Hid (∀W,Calls Tryz.prog 114 #[] W (gvn (Da p) W))) (CM:Hid (∀W,Calls Tryz.prog 115 #[Da p,Da t] W (gvn (Da m) W))) (CA:Hid (∀W,Calls Tryz.prog 117 #[Da a,Da m] W (gvn (Da r) W))):
 Calls Tryz.prog 72 #[Da a] w (gvn (Da r) w):=by
 go_enter Tryz.func72,Tryz.ntmps72;go_wp2_with (first
  |(refine Ra rfl 66 (.tmp 0) rfl (a.map Ja) rfl ?_
    intro w1 hB1 hAa;try simp only [La]
    skip)
  |(refine Ma rfl 66 rfl (Wa 8) Ac ?_
    intro w9 hb hZ;have hB:=Ba hB1 hb;have hle:=hB1.size;have hla:=hAa.lt;replace hAa:=hAa.on hb;clear hB1 hb;try simp only [La]
    skip))
 generalize hgz:w1.heap.size=gz at *;clear hgz;refine wp_region_any (by kernel_rfl) ?_;refine Dd (L:=[0,1,2,3,4]) (by kernel_rfl) _ _ (By a p t m r w.heap.size gz) [0,1,2] (by kernel_rfl) ?_ (by rfl) ?_ 1 (by kernel_rfl) ?_
 ·exact Aak rfl (Aak rfl (Aak rfl (Qa)))
 ·change ∀i∈_,Le _ _ _ _ _ w9.drew _ i;refine Aak (sL 3 rfl fun w hb=>Sb (hAa.drew.on hb) HA.out) ?_;refine Aak (sC 4 rfl Tryz.func114 fun w hb=>CP.out w) ?_;refine Aak (Pc _ 5 rfl rfl rfl (by kernel_rfl) (by kernel_rfl) fun a w hb hv=>Vd _ _ _ [(0,.const (.int .u32 2))] rfl [(0,Ja 2)] rfl _ w (BT w)) ?_;refine Aak (sC 6 rfl Tryz.func115 fun w hb=>CM.out w) ?_;refine Aak (sC 7 rfl Tryz.func117 fun w hb=>CA.out w) ?_;exact Qa
 intro w4 hb4;have hB4:=Ba (show Below w.heap.size w w9.drew from hB.drew) hb4;have hZ4:=hZ.drew.on hb4;refine Bb 5 rfl (by kernel_rfl) ?_;refine Ka rfl 66 (.tmp 2) (.tmp 7) rfl gz 8 (Wa 8) (r.map Ja) rfl rfl hZ4 rfl Za (by rw [Uaj,HR.out]) (Ua _) ?_;intro w7 hb7 hC7 hz7;generalize hF:(⟨(By a p t m r w.heap.size gz).toArray,[]⟩:Act)=F;rename_i K hKK;show Exit.then K _ Exit.normal (F.put none undef) w7;simp only [Exit.then];refine hKK _ _ ?_;refine wp_ret ?_;subst hF;exact qc Tryz.results72 gz (r.map Ja) rfl hC7 Tryz.underlying66 rfl Za (by rw [Uaj,HR.out]) rfl ⟨rfl,hB4.trans (hb7.below (by omega) hB4.size)⟩
theorem Cm (n:Nat) (w:World) (hn:n<mm):Calls Tryz.prog 72 #[Da (nD n)] w (gvn (Da (nD (n^(pp-2)%pp))) w):=
 WB (nD n) (nD pp) (nD 2) (nD (pp-2)) _ w rfl rfl GG Ju (fun W=>Ik pp 2 W (by decide) (by decide)) (fun W=>Lk n (pp-2) W hn (by decide))
def SR:Nat:=37095705934669439343138083508754565189542113879843219016388785533085940283555
theorem Vn (w:World):Calls Tryz.prog 74 #[] w (gvn (Da (nD SR)) w):=by
 have BP:∀w,(Instr.build 66 #[(0,Ja 324630691),(1,Ja 1978355146),(2,Ja 1094834347),(3,Ja 7342669),(4,Ja 2004478104),(5,Ja 2361868409),(6,Ja 728759923),(7,Ja 1375956206)]).run Tryz.prog w=.ok (Da (nD SR)) w:=fun w=>by kernel_rfl
 obtain ⟨r,HR⟩:=Nb (nD SR);have HL:Hid (r.length=8):=by show _=_;rw [←HR.out];rfl
 rw [HR.out] at BP ⊢;go_enter Tryz.func74,Tryz.ntmps74;go_wp2_with (first
  |(refine Ma rfl 66 rfl (Wa 8) Ac ?_
    intro w3 hB3 hZ3)
  |(refine Eb rfl 66 _ rfl [(0,Ja 324630691),(1,Ja 1978355146),(2,Ja 1094834347),(3,Ja 7342669),(4,Ja 2004478104),(5,Ja 2361868409),(6,Ja 728759923),(7,Ja 1375956206)] rfl _ BP ?_)
  |(refine Ka rfl 66 _ _ rfl w.heap.size 8 (Wa 8) (r.map Ja) rfl rfl hZ3 rfl Za (by rw [Uaj,HL.out]) (Ua _) ?_
    intro w6 hb6 hC6 _))
 exact qc Tryz.results74 w.heap.size (r.map Ja) rfl hC6 Tryz.underlying66 rfl Za (by rw [Uaj,HL.out]) rfl ⟨rfl,hB3.trans (hb6.below (Xaj _) hB3.size)⟩
def Ck:Nat:=46316835694926478169428394003475163141307993866256225615783033603165251855960
theorem SI (w:World):Calls Tryz.prog 96 #[] w (gvn (Da (nD Ck)) w):=by
 have BP:∀w,(Instr.build 66 #[(0,Ja 1717986904),(1,Ja 1717986918),(2,Ja 1717986918),(3,Ja 1717986918),(4,Ja 1717986918),(5,Ja 1717986918),(6,Ja 1717986918),(7,Ja 1717986918)]).run Tryz.prog w=.ok (Da (nD Ck)) w:=fun w=>by kernel_rfl
 obtain ⟨r,HR⟩:=Nb (nD Ck);have HL:Hid (r.length=8):=by show _=_;rw [←HR.out];rfl
 rw [HR.out] at BP ⊢;go_enter Tryz.func96,Tryz.ntmps96;go_wp2_with (first
  |(refine Ma rfl 66 rfl (Wa 8) Ac ?_
    intro w3 hB3 hZ3)
  |(refine Eb rfl 66 _ rfl [(0,Ja 1717986904),(1,Ja 1717986918),(2,Ja 1717986918),(3,Ja 1717986918),(4,Ja 1717986918),(5,Ja 1717986918),(6,Ja 1717986918),(7,Ja 1717986918)] rfl _ BP ?_)
  |(refine Ka rfl 66 _ _ rfl w.heap.size 8 (Wa 8) (r.map Ja) rfl rfl hZ3 rfl Za (by rw [Uaj,HL.out]) (Ua _) ?_
    intro w6 hb6 hC6 _))
 exact qc Tryz.results96 w.heap.size (r.map Ja) rfl hC6 Tryz.underlying66 rfl Za (by rw [Uaj,HL.out]) rfl ⟨rfl,hB3.trans (hb6.below (Xaj _) hB3.size)⟩
def Dk:Nat:=15112221349535400772501151409588531511454012693041857206046113283949847762202
theorem TI (w:World):Calls Tryz.prog 95 #[] w (gvn (Da (nD Dk)) w):=by
 have BP:∀w,(Instr.build 66 #[(0,Ja 2401621274),(1,Ja 3377868128),(2,Ja 2502272946),(3,Ja 1764542304),(4,Ja 4258716764),(5,Ja 3232031281),(6,Ja 3446559742),(7,Ja 560543443)]).run Tryz.prog w=.ok (Da (nD Dk)) w:=fun w=>by kernel_rfl
 obtain ⟨r,HR⟩:=Nb (nD Dk);have HL:Hid (r.length=8):=by show _=_;rw [←HR.out];rfl
 rw [HR.out] at BP ⊢;go_enter Tryz.func95,Tryz.ntmps95;go_wp2_with (first
  |(refine Ma rfl 66 rfl (Wa 8) Ac ?_
    intro w3 hB3 hZ3)
  |(refine Eb rfl 66 _ rfl [(0,Ja 2401621274),(1,Ja 3377868128),(2,Ja 2502272946),(3,Ja 1764542304),(4,Ja 4258716764),(5,Ja 3232031281),(6,Ja 3446559742),(7,Ja 560543443)] rfl _ BP ?_)
  |(refine Ka rfl 66 _ _ rfl w.heap.size 8 (Wa 8) (r.map Ja) rfl rfl hZ3 rfl Za (by rw [Uaj,HL.out]) (Ua _) ?_
    intro w6 hb6 hC6 _))
 exact qc Tryz.results95 w.heap.size (r.map Ja) rfl hC6 Tryz.underlying66 rfl Za (by rw [Uaj,HL.out]) rfl ⟨rfl,hB3.trans (hb6.below (Xaj _) hB3.size)⟩
theorem S3 (n k:Nat) (h:k<(nD n).length):(nD n)[k]=n/2^(32*k)%2^32:=by
 rw [←Ay n k h,Yaj,xaj h];rfl
theorem Iad (n x i:Nat) (hn:n<2^(8*i)) (hx:x<256):nD (n+x*2^(8*i))=(nD n).set (i/4) ((nD n).getD (i/4) 0+x*2^(8*(i%4))):=by
 apply List.ext_getElem (by rw [List.length_set];rfl);intro k h1 h2;have hk:k<8:=h1;rw [S3 _ k h1,List.getElem_set]
 split
 ·rename_i e;subst e;rw [Ay n _ hk];have hE:2^(8*i)=2^(8*(i%4))*2^(32*(i/4)):=by rw [←Nat.pow_add];congr 1;omega
  have hP:2^(8*(i%4))≤16777216:=Nat.le_trans (Nat.pow_le_pow_right (by decide) (show 8*(i%4)≤24 by omega)) (by decide);have hD:0<2^(32*(i/4)):=Nat.two_pow_pos _;rw [hE] at hn ⊢;generalize 2^(8*(i%4))=P at *;generalize 2^(32*(i/4))=D at *;have h3:n/D<P:=Nat.div_lt_of_lt_mul (by rw [Nat.mul_comm];exact hn);rw [←Nat.mul_assoc,Nat.add_mul_div_right _ _ hD];have h4:x*P≤255*P:=Nat.mul_le_mul_right _ (by omega);rw [yaj (show n/D+x*P<2^32 by omega),yaj (show n/D<2^32 by omega)]
 ·rename_i e;rw [S3];rcases Nat.lt_or_ge k (i/4) with h|h
  ·have hE:2^(8*i)=2^32*2^(8*i-32*(k+1))*2^(32*k):=by rw [←Nat.pow_add,←Nat.pow_add];congr 1;omega
   rw [hE];generalize 2^(8*i-32*(k+1))=F;rw [←Nat.mul_assoc,Nat.add_mul_div_right _ _ (Nat.two_pow_pos _),←Nat.mul_assoc,Nat.mul_comm x,Nat.mul_assoc,Nat.add_mul_mod_self_left]
  ·have hL:2^(8*i)*256≤2^(32*k):=by
    rw [show 256=2^8 from rfl,←Nat.pow_add];exact Nat.pow_le_pow_right (by decide) (by omega)
   generalize 2^(8*i)=E at *;generalize 2^(32*k)=G at *;have h4:x*E≤255*E:=Nat.mul_le_mul_right _ (by omega);rw [Nat.div_eq_of_lt (show n+x*E<G by omega),Nat.div_eq_of_lt (show n<G by omega)]
theorem UI (b:List UInt8) (r:List Nat) (T:Nat→List Nat) (w:World) (HB:Hid (b.length=32)) (HL:Hid (∀k,(T k).length=8)) (H0:Hid (T 0= [0,0,0,0,0,0,0,0])) (HR:Hid (T 32=r))
 (HS:Hid (∀k,k<32→T (k+1)=(T k).set (k/4) ((T k).getD (k/4) 0+(b.getD k 0).toNat*2^(8*(k%4)))∧(T k).getD (k/4) 0+(b.getD k 0).toNat*2^(8*(k%4))<4294967296)):
 Calls Tryz.prog 66 #[Ca b] w (gvn (Da r) w):=by
 go_enter Tryz.func66,Tryz.ntmps66;go_wp2_with (first
  |(refine Rb rfl 22 (.tmp 0) rfl b rfl ?_
    intro w1 hB1 hA1 hz;clear hz;try simp only [La]
    skip)
  |(refine Ma (o:=⟨some 2,_,_,_,_,_⟩) rfl 66 rfl (Wa 8) Ac ?_
    intro w3 hb3 hZ3;have hB3:=Ba hB1 hb3;have hA3:=hA1.on hb3;have hg2:=hA1.lt;clear hB1 hA1 hb3;try simp only [La]
    skip)
  |(refine Eb rfl 66 [] rfl [] rfl _ Br ?_
    try simp only [La]
    skip)
  |(refine Db rfl rfl 66 (.tmp 3) (.tmp 5) rfl rfl 8 (Wa 8) (Wa 8) rfl rfl Ac rfl Za rfl (by rw [Gj];exact Ua _) ?_
    intro w4 hb4 hS4;have hB4:=Ba hB3 hb4;have hA4:=hA3.on hb4;have hZ4:=hZ3.on hb4;have hg3:=hZ3.lt;clear hB3 hA3 hZ3 hb4;try simp only [La]
    skip))
 generalize hh:w1.heap.size=gz at *;generalize hi:w3.heap.size=gs at *;clear hh hi
 go_loopw [4] (fun i wr=>∃k:Nat,k≤32∧i=.int .i64 k∧Below w.heap.size w wr∧Ia wr w.heap.size (b.map Fa) 22∧Ia wr gz (Wa 8) 66∧Ia wr gs ((T k).map Ja) 66) (fun i _=>32-(intOf i).toNat)
 case atStart=>exact ⟨0,Nat.zero_le _,rfl,hB4,hA4,hZ4,by rw [H0.out,←Oz];exact hS4⟩
 case round=>
  clear hB4 hA4 hZ4 hS4;obtain ⟨k,hk,rfl,hB,hA,hZ,hS⟩:=hrel;have HLk:=Lib.hid (HL.out k);by_cases hlt:k<32
  ·have HN:=Lib.hid (HS.out k hlt).1;have hlim:=(HS.out k hlt).2;have d1:=hA.get (show (b.map Fa)[k]? =some (Fa (b.getD k 0)) by rw [List.getElem?_map,Yaj,xaj (by rw [HB.out];exact hlt)];rfl);have d2:=hS.get (dat (T k) (k/4) (by rw [HLk.out];omega));obtain ⟨z,HZ⟩:=Nb (T (k+1));rw [HZ.out] at HN;generalize T k=s at *;generalize s.getD (k/4) 0=p at *;generalize b.getD k 0=q at *;clear HB HL H0 HS HR;have i1:(0:Int)≤(k:Int):=by omega
   have i2:(k:Int)<32:=by omega
   have i3:(k:Int)/4<8:=by omega
   have i4:(0:Int)≤(k:Int)/4:=by omega
   have i5:((k:Int)/4).toNat=k/4:=by omega
   have c1:IntKind.i64.wrap ((k:Int)/4)=(k:Int)/4:=IntWalk.i64_in _ (by omega);obtain ⟨m,hm⟩:∃m,m=k%4:=⟨_,rfl⟩;rw [←hm] at HN hlim;have c2:(k:Int).tmod 4=(m:Int):=by rw [Int.tmod_eq_emod_of_nonneg (by omega)];omega
   have hm4:m<4:=by omega
   have c3:IntKind.i64.wrap (8*(m:Int))=8*(m:Int):=IntWalk.i64_in _ (by omega);have c4:IntKind.u64.wrap (8*(m:Int))=8*(m:Int):=by rw [IntKind.wrap_u64];omega
   have c6:(8*(m:Int)).toNat=8*m:=by omega
   have c7:min (8*m) 32=8*m:=by omega
   have hq:q.toNat<256:=q.toNat_lt;have c5:IntKind.u32.wrap (q.toNat:Int)=(q.toNat:Int):=by rw [IntKind.wrap_u32];omega
   obtain ⟨x,hx⟩:∃x,x=q.toNat*2^(8*m):=⟨_,rfl⟩;rw [←hx] at HN hlim;have c8:IntKind.u32.wrap ((q.toNat:Int)*2^(8*m))=(x:Int):=by rw [Bh,←Int.natCast_mul,←hx,IntKind.wrap_u32];omega
   obtain ⟨v,hv⟩:∃v,v=p+x:=⟨_,rfl⟩;rw [←hv] at HN;have c9:IntKind.u32.wrap ((p:Int)+(x:Int))=(v:Int):=by rw [IntKind.wrap_u32];omega
   clear hx hv hlim hm;go_wp2_with fail
   refine Ad 15 (by kernel_rfl) (by kernel_rfl) ?_;intro w4 hw4;have hB4:Below w.heap.size w w4:=by rw [hw4];exact hB.drew
   have hA4:Ia w4 w.heap.size (b.map Fa) 22:=by rw [hw4];exact hA
   have hZ4:Ia w4 gz (Wa 8) 66:=by rw [hw4];exact hZ
   have hS4:Ia w4 gs (s.map Ja) 66:=by rw [hw4];exact hS
   have d3:w4.cell? ⟨w.heap.size,k,none⟩=some (Fa q):=by rw [hw4];exact d1
   have d4:w4.cell? ⟨gs,k/4,none⟩=some (Ja p):=by rw [hw4];exact d2
   clear hw4 hB hA hZ hS d1 d2;simp only [List.take_succ_cons,List.take_zero,List.drop_succ_cons,List.drop_zero];repeat still_step
   refine wpStill_nil ?_;have hT:=hS4.there (k/4) 1 (by rw [Uaj,HLk.out];omega);have hE:=Lib.hid (hS4.set (k/4) (Ja v));go_wp2_with (first
    |(refine Qb rfl 64 _ _ rfl gs (k/4) .u32 (v:Int) rfl rfl qf hT ?_
      intro w5 hw5;have hB5:Below w.heap.size w w5:=by rw [hw5];exact hB4.setCell (p:=⟨gs,k/4,none⟩) (by show w.heap.size≤gs;omega) _
      have hA5:Ia w5 w.heap.size (b.map Fa) 22:=by rw [hw5];exact hA4.other (by show w.heap.size≠gs;omega) _
      have hZ5:Ia w5 gz (Wa 8) 66:=by rw [hw5];exact hZ4.other (by show gz≠gs;omega) _
      have hS5:Ia w5 gs (z.map Ja) 66:=by rw [hw5,HN.out,←Ih];exact hE.out
      clear hw5 hT hE hB4 hA4 hZ4 hS4))
   go_roundw
   case rel=>first|exact ⟨k+1,by omega,by go_num,hB5,hA5,hZ5,by rw [HZ.out];exact hS5⟩|trace_state
   case measure=>simp [intOf]<;>omega
  ·obtain rfl:k=32:=by omega
   rw [HR.out] at hS;have HTL:=Lib.hid (HL.out 32);rw [HR.out] at HTL;clear HB HS HL H0 hA;go_wp2_with (first
    |(refine Pa rfl 66 (.tmp 3) rfl gs 8 (r.map Ja) rfl hS Tryz.underlying66 rfl Za (by rw [Uaj,HTL.out]) ?_
      try simp only [La]
      skip)
    |(refine Ka rfl 66 _ _ rfl gz 8 (Wa 8) (r.map Ja) rfl rfl hZ rfl Za (by rw [Uaj,HTL.out]) (Ua _) ?_
      intro w6 hb6 hZ6 _;have hB6:=hB.trans (hb6.below (by omega) hB.size);clear hB hS hb6))
   exact qc Tryz.results66 gz (r.map Ja) rfl hZ6 Tryz.underlying66 rfl Za (by rw [Uaj,HTL.out]) rfl ⟨rfl,hB6⟩
theorem XB (b:List UInt8) (k:Nat) (hk:k<b.length):lev (b.take (k+1))=lev (b.take k)+(b.getD k 0).toNat*2^(8*k):=by
 rw [List.take_succ_eq_append_getElem hk,Aj,zaj,Nat.min_eq_left (Nat.le_of_lt hk),Tj,show (256:Nat)=2^8 from rfl,←Nat.pow_mul,Nat.mul_comm,Yaj,xaj hk];rfl
theorem Pp (b:List UInt8) (k:Nat) (hk:k≤b.length):lev (b.take k)<2^(8*k):=by
 have h:=Pn (b.take k);rw [zaj,Nat.min_eq_left hk,show (256:Nat)=2^8 from rfl,←Nat.pow_mul] at h;exact h
theorem GM (b:List UInt8) (w:World) (hb:b.length=32):Calls Tryz.prog 66 #[Ca b] w (gvn (Da (nD (lev b))) w):=by
 refine UI b _ (fun k=>nD (lev (b.take k))) w hb (fun _=>rfl) (by show nD (lev (b.take 0))=_;rw [List.take_zero,show lev []=0 from rfl];rfl) (by show nD (lev (b.take 32))=_;rw [Zaj (by omega)]) (fun k hk=>?_);have h1:=Iad (lev (b.take k)) (b.getD k 0).toNat k (Pp b k (by omega)) (b.getD k 0).toNat_lt;rw [←XB b k (by omega)] at h1;refine ⟨h1,?_⟩;have h2:=(Td (lev (b.take (k+1)))).2 (k/4);rw [h1,Yaj,List.getElem?_set_self (by rw [qe];omega)] at h2;exact h2
theorem Kb:(Tryz.prog.info? 22).map (·.size)=some 32:=by kernel_rfl
theorem Dc:∀w,(zeroValue 22).run Tryz.prog w=.ok (.agg (List.replicate 32 (Fa 0)).toArray) w:=(zero_of_info (P:=Tryz.prog) (t:=22) (v:=.agg (List.replicate 32 (Fa 0)).toArray) (n:=32) (by kernel_rfl)).1
theorem IG (w:World):(Instr.build 22 #[]).run Tryz.prog w=.ok (Ca (List.replicate 32 0)) w:=by kernel_rfl
theorem y8 (n k:Nat) (hk:k<32):(nD n).getD (k/4) 0/2^(8*(k%4))%256=(Ec n k).toNat:=by
 rw [Ay n _ (by omega),Ec,UInt8.toNat_ofNat',show (256:Nat)=2^8 from rfl,←Nat.pow_mul];have h1:2^32=2^(8*(k%4))*2^(32-8*(k%4)):=by rw [←Nat.pow_add];congr 1;omega
 have h2:(2:Nat)^8∣2^(32-8*(k%4)):=Nat.pow_dvd_pow 2 (by omega);rw [h1,Nat.mod_mul_right_div_self,Nat.mod_mod_of_dvd _ h2,Nat.div_div_eq_div_mul,←Nat.pow_add,show 32*(k/4)+8*(k%4)=8*k by omega]
theorem zD (a:List Nat) (r:List UInt8) (T:Nat→List UInt8) (V:Nat→UInt8) (w:World) (HA:Hid (a.length=8)) (HL:Hid (∀k,k≤32→(T k).length=32)) (H0:Hid (T 0=List.replicate 32 0)) (HR:Hid (T 32=r))
 (HS:Hid (∀k,k<32→T (k+1)=(T k).set k (V k))) (HV:Hid (∀k,k<32→a.getD (k/4) 0/2^(8*(k%4))%256=(V k).toNat)):
 Calls Tryz.prog 77 #[Da a] w (gvn (Ca r) w):=by
 obtain ⟨z0,HZ0⟩:=Nb (List.replicate 32 (0:UInt8));have BB:=IG;have HZL:Hid (z0.length=32):=by show _=_;rw [←HZ0.out];rfl
 rw [HZ0.out] at BB H0;go_enter Tryz.func77,Tryz.ntmps77;go_wp2_with (first
  |(refine Ra rfl 66 (.tmp 0) rfl (a.map Ja) rfl ?_
    intro w1 hB1 hA1;try simp only [La]
    skip)
  |(refine Rk (o:=⟨some 2,_,_,_,_,_⟩) rfl 22 rfl 32 Dc ?_
    intro w3 hb3 hZ3 hz;have hB3:=Ba hB1 hb3;have hA3:=hA1.on hb3;have hg2:=hA1.lt;clear hB1 hA1 hb3 hz;try simp only [La]
    skip)
  |(refine Eb rfl 22 [] rfl [] rfl _ BB ?_
    try simp only [La]
    skip)
  |(refine VK rfl rfl 22 (.tmp 3) (.tmp 5) rfl rfl 32 z0 rfl rfl Dc Kb HZL.out ?_
    intro w4 hb4 hS4 hz;have hB4:=Ba hB3 hb4;have hA4:=hA3.on hb4;have hZ4:=hZ3.on hb4;have hg3:=hZ3.lt;clear hB3 hA3 hZ3 hb4 hz;try simp only [La]
    skip))
 generalize hh:w1.heap.size=gz at *;generalize hi:w3.heap.size=gs at *;clear hh hi
 go_loopw [4] (fun i wr=>∃k:Nat,k≤32∧i=.int .i64 k∧Below w.heap.size w wr∧Ia wr w.heap.size (a.map Ja) 66∧Ia wr gz (List.replicate 32 (Fa 0)) 22∧Ia wr gs ((T k).map Fa) 22) (fun i _=>32-(intOf i).toNat)
 case atStart=>exact ⟨0,Nat.zero_le _,rfl,hB4,hA4,hZ4,by rw [H0.out];exact hS4⟩
 case round=>
  clear hB4 hA4 hZ4 hS4;obtain ⟨k,hk,rfl,hB,hA,hZ,hS⟩:=hrel;have HLk:=Lib.hid (HL.out k hk);by_cases hlt:k<32
  ·have HN:=Lib.hid (HS.out k hlt);have hlim:=HV.out k hlt;have d1:=hA.get (dat a (k/4) (by rw [HA.out];omega));obtain ⟨z,HZ⟩:=Nb (T (k+1));rw [HZ.out] at HN;generalize T k=s at *;generalize a.getD (k/4) 0=p at *;generalize V k=v at *;clear HA HL H0 HS HR HV;have i1:(0:Int)≤(k:Int):=by omega
   have i2:(k:Int)<32:=by omega
   have i3:(k:Int)/4<8:=by omega
   have i4:(0:Int)≤(k:Int)/4:=by omega
   have i5:((k:Int)/4).toNat=k/4:=by omega
   have c1:IntKind.i64.wrap ((k:Int)/4)=(k:Int)/4:=IntWalk.i64_in _ (by omega);obtain ⟨m,hm⟩:∃m,m=k%4:=⟨_,rfl⟩;rw [←hm] at hlim;have c2:(k:Int).tmod 4=(m:Int):=by rw [Int.tmod_eq_emod_of_nonneg (by omega)];omega
   have hm4:m<4:=by omega
   have c3:IntKind.i64.wrap (8*(m:Int))=8*(m:Int):=IntWalk.i64_in _ (by omega);have c4:IntKind.u64.wrap (8*(m:Int))=8*(m:Int):=by rw [IntKind.wrap_u64];omega
   have c6:(8*(m:Int)).toNat=8*m:=by omega
   have c8:IntKind.u8.wrap ((p:Int)/2^(8*m))=(v.toNat:Int):=by rw [Bh,←Int.natCast_ediv,IntKind.wrap_u8,←hlim];omega
   clear hlim hm;have hT:=hS.there k 1 (by rw [Uaj,HLk.out];omega);have hE:=Lib.hid (hS.set k (Fa v));go_wp2_with (first
    |(refine Qb rfl 5 _ _ rfl gs k .u8 (v.toNat:Int) rfl rfl Qc hT ?_
      intro w5 hw5;have hB5:Below w.heap.size w w5:=by rw [hw5];exact hB.setCell (p:=⟨gs,k,none⟩) (by show w.heap.size≤gs;omega) _
      have hA5:Ia w5 w.heap.size (a.map Ja) 66:=by rw [hw5];exact hA.other (by show w.heap.size≠gs;omega) _
      have hZ5:Ia w5 gz (List.replicate 32 (Fa 0)) 22:=by rw [hw5];exact hZ.other (by show gz≠gs;omega) _
      have hS5:Ia w5 gs (z.map Fa) 22:=by rw [hw5,HN.out,List.map_set];exact hE.out
      clear hw5 hT hE hB hA hZ hS d1))
   go_roundw
   case rel=>first|exact ⟨k+1,by omega,by go_num,hB5,hA5,hZ5,by rw [HZ.out];exact hS5⟩|trace_state
   case measure=>simp [intOf]<;>omega
  ·obtain rfl:k=32:=by omega
   rw [HR.out] at hS;have HTL:=Lib.hid (HL.out 32 (by omega));rw [HR.out] at HTL;clear HA HS HL H0 hA HV;go_wp2_with (first
    |(refine Tc rfl 22 (.tmp 3) rfl gs 32 r _ rfl hS Tryz.underlying22 Kb HTL.out ?_
      try simp only [La]
      skip)
    |(refine Li rfl 22 _ _ rfl gz 32 (List.replicate 32 (Fa 0)) r rfl rfl hZ rfl Kb HTL.out ?_
      intro w6 hb6 hZ6 hz;have hB6:=hB.trans (hb6.below (by omega) hB.size);clear hB hS hb6 hz))
   exact Mi Tryz.results77 gz r rfl hZ6 Tryz.underlying22 Kb HTL.out rfl ⟨rfl,hB6⟩
theorem VI (n:Nat) (w:World):Calls Tryz.prog 77 #[Da (nD n)] w (gvn (Ca (Ob n 32)) w):=by
 refine zD (nD n) _ (fun k=>Ob n k++List.replicate (32-k) 0) (Ec n) w rfl (fun k hk=>?_) (by show Ob n 0++List.replicate 32 0=_;rfl) (by show Ob n 32++List.replicate 0 0=_;exact List.append_nil _) (fun k hk=>?_) (fun k hk=>y8 n k hk)
 ·show (Ob n k++List.replicate (32-k) 0).length=32;rw [qaj,Ta,List.length_replicate];omega
 ·show Ob n (k+1)++List.replicate (32-(k+1)) 0=(Ob n k++List.replicate (32-k) 0).set k (Ec n k);rw [Mh,show 32-k=(32-(k+1))+1 by omega,List.replicate_succ,List.set_append_right _ _ (by rw [Ta];omega),Ta,Nat.sub_self,List.set_cons_zero,List.append_assoc];rfl
end Go.Proofs.YtoggkhjaghkpnaaGreatDoor
namespace Go.Proofs.YtoggkhjaghkpnaaGreatDoor.NP
def lC:Nat:=1257559732178653
def lD:Nat:=4434155615661930479
def lE:Nat:=172054593956031949258510691
def lF:Nat:=19757330305831588566944191468367130476339
def lG:Nat:=276602624281642239937218680557139826668747
def LL:Nat:=7237005577332262213973186563042994240857116359379907606001950938285454250989
theorem pr_lA:Pr 1224481:=pr_small 1224481 1106 (by decide+kernel) (by decide+kernel) (by decide+kernel)
theorem pr_lB:Pr 531581:=pr_small 531581 729 (by decide+kernel) (by decide+kernel) (by decide+kernel)
theorem pr_lC:Pr lC:=pr_two (q:=1224481) (u:=531581) 2 2 51 pr_lA pr_lB (by decide+kernel) (by decide+kernel) (by decide+kernel) (by decide+kernel) (by decide+kernel) (by decide+kernel) (by decide+kernel) (by decide+kernel) (by decide+kernel) (by decide+kernel)
theorem pr_lD:Pr lD:=pr_one (q:=lC) 2 62 pr_lC (by decide+kernel) (by decide+kernel) (by decide+kernel) (by decide+kernel) (by decide+kernel) (by decide+kernel)
theorem pr_lE:Pr lE:=pr_one (q:=lD) 2 88 pr_lD (by decide+kernel) (by decide+kernel) (by decide+kernel) (by decide+kernel) (by decide+kernel) (by decide+kernel)
theorem pr_lF:Pr lF:=pr_one (q:=lE) 2 134 pr_lE (by decide+kernel) (by decide+kernel) (by decide+kernel) (by decide+kernel) (by decide+kernel) (by decide+kernel)
theorem pr_lG:Pr lG:=pr_one (q:=lF) 2 138 pr_lF (by decide+kernel) (by decide+kernel) (by decide+kernel) (by decide+kernel) (by decide+kernel) (by decide+kernel)
theorem pr_L:Pr LL:=pr_one (q:=lG) 2 253 pr_lG (by decide+kernel) (by decide+kernel) (by decide+kernel) (by decide+kernel) (by decide+kernel) (by decide+kernel)
end Go.Proofs.YtoggkhjaghkpnaaGreatDoor.NP
namespace Go.Proofs.YtoggkhjaghkpnaaGreatDoor
open Go.RowKit
def hval (ds:List Nat):Nat:=Hc ds.reverse
theorem Nf (d:Nat) (ds:List Nat):hval (d::ds)=d*256^ds.length+hval ds:=by
 rw [hval,List.reverse_cons,Ze,List.length_reverse];show Hc ds.reverse+256^ds.length*(d+256*0)=_;rw [hval,Nat.mul_zero,Nat.add_zero,Nat.mul_comm];omega
theorem IM (a b:List Nat):hval (a++b)=hval a*256^b.length+hval b:=by
 rw [hval,List.reverse_append,Ze,List.length_reverse,hval,hval,Nat.mul_comm];omega
theorem NX (a:List Nat) (d:Nat):hval (a++[d])=hval a*256+d:=by
 rw [IM];rfl
def Dig (ds:List Nat):Prop:=∀x∈ds,x<256
theorem Qz {ds:List Nat} (h:Dig ds):hval ds<256^ds.length:=by
 have :=Gk ds.reverse (fun x hx=>h x (List.mem_reverse.1 hx))
 rwa [List.length_reverse] at this
theorem Dig.tail {d:Nat} {ds:List Nat} (h:Dig (d::ds)):Dig ds:=fun x hx=>h x (List.mem_cons_of_mem _ hx)
theorem Dig.head {d:Nat} {ds:List Nat} (h:Dig (d::ds)):d<256:=h d List.mem_cons_self
theorem Dig.drop {ds:List Nat} (h:Dig ds) (n:Nat):Dig (ds.drop n):=fun x hx=>h x (List.mem_of_mem_drop hx)
theorem Dig.at {ds:List Nat} (h:Dig ds) (k:Nat):ds.getD k 0<256:=by
 rw [Yaj];cases hk:ds[k]? with
 |none=>decide
 |some x=>exact h x (List.mem_of_getElem? hk)
theorem Dig.snoc {ds:List Nat} (h:Dig ds) {d:Nat} (hd:d<256):Dig (ds++[d]):=fun x hx=>by
 rcases List.mem_append.1 hx with h1|h1
 ·exact h x h1
 ·rw [List.mem_singleton.1 h1];exact hd
theorem qD (p x y M s t:Nat) (hs:s<M) (ht:t<M) (hne:x≠y):(p+(x*M+s)<p+(y*M+t))↔x<y:=by
 constructor
 ·intro h;rcases Nat.lt_or_ge x y with h1|h1
  ·exact h1
  ·have h2:y+1≤x:=by omega
   have h3:=Nat.mul_le_mul_right M h2;rw [Nat.succ_mul] at h3;omega
 ·intro h;have h2:x+1≤y:=h;have h3:=Nat.mul_le_mul_right M h2;rw [Nat.succ_mul] at h3;omega
theorem YB:∀(a l:List Nat) (i:Nat),a.length=l.length→Dig a→Dig l→i<a.length→a.take i=l.take i→a.getD i 0≠l.getD i 0→(hval a<hval l↔a.getD i 0<l.getD i 0)
 | [],_,_,_,_,_,hi,_,_=>absurd hi (Nat.not_lt_zero _)
 |_::_,[],_,h,_,_,_,_,_=>by cases h
 |x::a,y::l,0,h,ha,hl,_,_,hne=>by
  have hn:a.length=l.length:=Nat.succ.inj h;rw [Nf,Nf,hn];have h1:=Qz ha.tail;have h2:=Qz hl.tail;rw [hn] at h1;have h3:=qD 0 x y _ _ _ h1 h2 hne;rw [Nat.zero_add,Nat.zero_add] at h3;exact h3
 |x::a,y::l,i+1,h,ha,hl,hi,ht,hne=>by
  have hn:a.length=l.length:=Nat.succ.inj h;rw [List.take_succ_cons,List.take_succ_cons] at ht;obtain ⟨rfl,ht'⟩:=List.cons.inj ht;have ih:=YB a l i hn ha.tail hl.tail (Nat.lt_of_succ_lt_succ hi) ht' (by simpa using hne);rw [Nf,Nf,hn,List.getD_cons_succ,List.getD_cons_succ,←ih];omega
def Wh:List Nat→List Nat→Nat×List Nat
 |x::r,y::l=>if x<y+(Wh r l).1 then (1,(x+256-y-(Wh r l).1)::(Wh r l).2) else (0,(x-y-(Wh r l).1)::(Wh r l).2)
 |_,_=>(0,[])
theorem Xj:∀(r l:List Nat),r.length=l.length→(Wh r l).2.length=r.length
 | [],[],_=>rfl
 |x::r,y::l,h=>by
  have ih:=Xj r l (Nat.succ.inj h);unfold Wh
  split<;>simp [ih]
theorem Ru:∀(r l:List Nat),(Wh r l).1≤1
 | [],_=>Nat.zero_le _
 |_::_,[]=>Nat.zero_le _
 |x::r,y::l=>by
  unfold Wh
  split
  ·exact Xaj _
  ·exact Nat.zero_le _
theorem ZB:∀(r l:List Nat),Dig r→Dig l→Dig (Wh r l).2
 | [],_,_,_=>fun _ h=>by cases h
 |_::_,[],_,_=>fun _ h=>by cases h
 |x::r,y::l,hr,hl=>by
  have ih:=ZB r l hr.tail hl.tail;have h1:=hr.head;have h2:=Ru r l;unfold Wh
  split
  ·intro z hz;rcases List.mem_cons.1 hz with rfl|h3
   ·omega
   ·exact ih z h3
  ·intro z hz;rcases List.mem_cons.1 hz with rfl|h3
   ·omega
   ·exact ih z h3
theorem JM (x y o M s t u:Nat) (h:s+t=u+o*M) (hx:x<256) (hy:y<256) (ho:o≤1):(if x<y+o then x+256-y-o else x-y-o)*M+s+(y*M+t)=x*M+u+(if x<y+o then 1 else 0)*(M*256):=by
 split
 ·obtain ⟨z,hz⟩:∃z,x+256=z+y+o:=⟨x+256-y-o,by omega⟩;rw [show x+256-y-o=z by omega];have:(x+256)*M=(z+y+o)*M:=by rw [hz]
  rw [Nat.add_mul,Nat.add_mul,Nat.add_mul] at this;omega
 ·obtain ⟨z,hz⟩:∃z,x=z+y+o:=⟨x-y-o,by omega⟩;rw [show x-y-o=z by omega];have:x*M=(z+y+o)*M:=by rw [hz]
  rw [Nat.add_mul,Nat.add_mul] at this;omega
theorem KM:∀(r l:List Nat),r.length=l.length→Dig r→Dig l→hval (Wh r l).2+hval l=hval r+(Wh r l).1*256^r.length
 | [],[],_,_,_=>rfl
 |x::r,y::l,h,hr,hl=>by
  have hn:r.length=l.length:=Nat.succ.inj h;have ih:=KM r l hn hr.tail hl.tail;have hs:=Xj r l hn;have h3:=JM x y (Wh r l).1 (256^r.length) _ _ _ ih hr.head hl.head (Ru r l);rw [List.length_cons,Nat.pow_succ];unfold Wh
  split
  ·rename_i hlt;rw [if_pos hlt,if_pos hlt] at h3;rw [Nf,Nf,Nf,hs,←hn];omega
  ·rename_i hlt;rw [if_neg hlt,if_neg hlt] at h3;rw [Nf,Nf,Nf,hs,←hn];omega
theorem OX {r l:List Nat} (h:r.length=l.length) (hr:Dig r) (hl:Dig l) (hle:hval l≤hval r):hval (Wh r l).2=hval r-hval l:=by
 have h1:=KM r l h hr hl;have h2:=Qz (ZB r l hr hl);rw [Xj r l h] at h2;have h3:=Qz hr;have h4:(Wh r l).1=0:=by
  rcases Nat.eq_zero_or_pos (Wh r l).1 with h5|h5
  ·exact h5
  ·have h6:(Wh r l).1=1:=by have :=Ru r l;omega
   rw [h6,Nat.one_mul] at h1;omega
 rw [h4,Nat.zero_mul,Nat.add_zero] at h1;omega
def Xo:List Nat:=[16,0,0,0,0,0,0,0,0,0,0,0,0,0,0,0,20,222,249,222,162,247,156,214,88,18,99,26,92,245,211,237]
theorem xB:hval (0::Xo)=NP.LL:=by decide+kernel
theorem LM:Dig (0::Xo):=by unfold Dig;decide
theorem PX {r:List Nat} (hl:r.length=33) (hr:Dig r) (hv:hval r<NP.LL) (d:Nat):hval (r.drop 1++[d])=hval r*256+d:=by
 match r,hl with
 |x::r,hl=>
  have hn:r.length=32:=Nat.succ.inj hl;rw [Nf,hn] at hv;have hx:x=0:=by
   rcases Nat.eq_zero_or_pos x with h|h
   ·exact h
   ·have h1:=Nat.mul_le_mul_right (256^32) h;rw [show (256:Nat)^32=115792089237316195423570985008687907853269984665640564039457584007913129639936 from by decide+kernel] at h1 hv;simp only [NP.LL] at hv;omega
  subst hx;rw [List.drop_succ_cons,List.drop_zero,NX,Nf,Nat.zero_mul,Nat.zero_add]
theorem TR:(4294967296:Nat)^8=mm:=by decide+kernel
theorem MM (f:Nat→Nat) {l0:List Nat} (c0:Nat) (h:D8 l0):(zg f l0 c0 8).1=nD ((Bi f 8+c0)%mm):=by
 have hd:D8 (zg f l0 c0 8).1:=⟨by rw [xe];exact h.1,Ou f c0 h.2 8⟩;have h1:=Kp f l0 c0 8 (by rw [h.1];exact Xaj _);have h2:=hd.lt;rw [TR] at h1;rw [hd.is,←h1,Nat.mul_comm,Nat.add_mul_mod_self_left,yaj h2]
def plS (a b:List Nat) (k:Nat):List Nat×Nat:=zg (fun j=>a.getD j 0+b.getD j 0) a 0 k
theorem T3 (a b:List Nat) (k:Nat):plS a b (k+1)=((plS a b k).1.set k ((a.getD k 0+b.getD k 0+(plS a b k).2)%4294967296),(a.getD k 0+b.getD k 0+(plS a b k).2)/4294967296):=by
 rw [plS,zg];rfl
theorem z8 {a b:List Nat} (ha:D8 a):(plS a b 8).1=nD ((pre a 8+pre b 8)%mm):=by
 rw [plS,MM _ 0 ha,Nu,←Vj,←Vj,Nat.add_zero]
def scS (a:List Nat) (t:Nat) (k:Nat):List Nat×Nat:=zg (fun j=>a.getD j 0*t) a 0 k
theorem U3 (a:List Nat) (t k:Nat):scS a t (k+1)=((scS a t k).1.set k ((a.getD k 0*t+(scS a t k).2)%4294967296),(a.getD k 0*t+(scS a t k).2)/4294967296):=by
 rw [scS,zg];rfl
theorem q8 {a:List Nat} (ha:D8 a) (t:Nat):(scS a t 8).1=nD (pre a 8*t%mm):=by
 have e:Bi (fun j=>a.getD j 0*t) 8=pre a 8*t:=by
  rw [SB _ (fun j=>t*a.getD j 0) 8 fun j _=>Nat.mul_comm _ _,RB,←Vj,Nat.mul_comm]
 rw [scS,MM _ 0 ha,e,Nat.add_zero]
theorem Jad {a:List Nat} (ha:D8 a) {t:Nat} (ht:t≤4294967296) (k:Nat):(scS a t k).2≤4294967295:=
 Cr _ _ _ 4294967295 (by decide) (fun j=>by
  have h1:=ha.2 j;have h2:a.getD j 0*t≤4294967295*4294967296:=Nat.mul_le_mul (by omega) ht;omega) k
def mnS (a b:List Nat):Nat→List Nat×Nat
 |0=>(a,0)
 |k+1=>((mnS a b k).1.set k (miX a b (mnS a b k).2 k%4294967296),1-miX a b (mnS a b k).2 k/4294967296)
theorem WI (a b:List Nat):∀k,(mnS a b k).2≤1
 |0=>Nat.zero_le _
 |k+1=>by rw [mnS];omega
theorem yB {a b:List Nat} (ha:D8 a):∀k,D8 (mnS a b k).1
 |0=>ha
 |k+1=>by rw [mnS];exact (yB ha k).set _ _ (Nat.mod_lt _ (by decide))
theorem JG (a b:List Nat):∀k j,k≤j→(mnS a b k).1.getD j 0=a.getD j 0
 |0,_,_=>rfl
 |k+1,j,h=>by rw [mnS,Lg _ _ _ _ (by omega),JG a b k j (by omega)]
theorem WU {a b:List Nat} (ha:D8 a) (hb:D8 b):∀k,k≤8→pre (mnS a b k).1 k+pre b k=pre a k+(mnS a b k).2*4294967296^k
 |0,_=>rfl
 |k+1,h=>by
  have ih:=WU ha hb k (by omega);have hl:=(yB (b:=b) ha k).1;have ho:=WI a b k;rw [mnS];show pre ((mnS a b k).1.set k (miX a b (mnS a b k).2 k%4294967296)) (k+1)+_=_+(1-miX a b (mnS a b k).2 k/4294967296)*_;rw [Ar _ _ _ (by omega),pre,pre,Nat.pow_succ];have hx:miX a b (mnS a b k).2 k=a.getD k 0+4294967296-b.getD k 0-(mnS a b k).2:=rfl;have h1:=ha.2 k;have h2:=hb.2 k;generalize miX a b (mnS a b k).2 k=x at *;generalize (mnS a b k).2=o at *;generalize a.getD k 0=p at *;generalize b.getD k 0=q at *;have e:x%4294967296+q+o=p+(1-x/4294967296)*4294967296:=by omega
  have e2:(x%4294967296+q+o)*4294967296^k=(p+(1-x/4294967296)*4294967296)*4294967296^k:=by rw [e]
  rw [Nat.add_mul,Nat.add_mul,Nat.add_mul,Nat.mul_assoc (1-x/4294967296),Nat.mul_comm 4294967296] at e2;omega
theorem A9 {a b:List Nat} (ha:D8 a) (hb:D8 b):(mnS a b 8).1=nD ((pre a 8+mm-pre b 8)%mm)∧(mnS a b 8).2=if pre a 8<pre b 8 then 1 else 0:=by
 have h1:=WU ha hb 8 (Xaj _);have h2:=(yB (b:=b) ha 8).lt;have h3:=WI a b 8;have h4:=ha.lt;have h5:=hb.lt;rw [TR] at h1;rw [(yB (b:=b) ha 8).is];generalize pre (mnS a b 8).1 8=x at *;generalize (mnS a b 8).2=o at *;generalize pre a 8=p at *;generalize pre b 8=q at *;rcases (show o=0∨o=1 by omega) with rfl|rfl
 ·rw [Nat.zero_mul,Nat.add_zero] at h1;subst h1;refine ⟨?_,by rw [if_neg (by omega)]⟩;rw [show x+q+mm-q=x+mm by omega,Nat.add_mod_right,yaj h2]
 ·rw [Nat.one_mul] at h1;refine ⟨?_,by rw [if_pos (by omega)]⟩;rw [←h1,show x+q-q=x by omega,yaj h2]
def rdW (b:List UInt8) (k:Nat):Nat:=lev ((b.drop (4*k)).take 4)
def rdS (b:List UInt8):Nat→List Nat
 |0=> [0,0,0,0,0,0,0,0]
 |k+1=>(rdS b k).set k (rdW b k)
theorem Kad (b:List UInt8) (k:Nat):rdW b k<4294967296:=by
 have h:=Pn ((b.drop (4*k)).take 4);have h2:256^((b.drop (4*k)).take 4).length≤256^4:=Nat.pow_le_pow_right (by decide) (List.length_take_le _ _);rw [show (256:Nat)^4=4294967296 from rfl] at h2;exact Waj h h2
theorem XI (b:List UInt8):∀k,D8 (rdS b k)
 |0=>D8.zeros
 |k+1=>by rw [rdS];exact (XI b k).set _ _ (Kad b k)
theorem XU (b:List UInt8) (hb:b.length=32):∀k,k≤8→pre (rdS b k) k=lev (b.take (4*k))
 |0,_=>rfl
 |k+1,h=>by
  have ih:=XU b hb k (by omega);rw [rdS,Ar _ _ _ (by rw [(XI b k).1];omega),ih,Nat.mul_add,Nat.mul_one,List.take_add,Aj,zaj,Nat.min_eq_left (by omega),rdW,Nat.mul_comm (256^(4*k)),Nat.pow_mul]
theorem B9 (b:List UInt8) (hb:b.length=32):rdS b 8=nD (lev b):=by
 rw [(XI b 8).is,XU b hb 8 (Xaj _),Zaj (by omega)]
def wtS (n k:Nat):List UInt8:=Ob n (min (4*k) 32)++List.replicate (32-min (4*k) 32) 0
theorem UR (n k:Nat):(wtS n k).length=32:=by rw [wtS,qaj,Ta,List.length_replicate];omega
theorem VR (x k:Nat) (h:k≤4):Ob (x%4294967296) k=Ob x k:=by
 rw [Ob,Ob];refine List.map_congr_left fun i hi=>?_;have hi':i<4:=by have :=List.mem_range.1 hi;omega
 rw [Ec,Ec,←UInt8.toNat_inj,UInt8.toNat_ofNat',UInt8.toNat_ofNat'];rcases (show i=0∨i=1∨i=2∨i=3 by omega) with rfl|rfl|rfl|rfl<;>simp only [Nat.reducePow,Nat.pow_zero]<;>omega
theorem V3 (n k:Nat) (hk:k<8):wtS n (k+1)=(wtS n k).take (4*k)++Ob ((nD n).getD k 0) 4++(wtS n k).drop (4*k+4):=by
 have e1:min (4*k) 32=4*k:=by omega
 have e2:min (4*(k+1)) 32=4*k+4:=by omega
 have e3:2^(32*k)=256^(4*k):=by rw [show (256:Nat)=2^8 from rfl,←Nat.pow_mul];congr 1;omega
 rw [wtS,wtS,e1,e2,JB n (4*k) 4,Ay n k hk,e3,show (2:Nat)^32=4294967296 from rfl,VR _ 4 (Xaj _)];rw [List.take_append_of_le_length (by rw [Ta];omega),Zaj (by rw [Ta];omega)];rw [List.drop_append,List.drop_of_length_le (by rw [Ta];omega),Ta,List.nil_append,List.drop_replicate];congr 2
 omega
theorem W3 (n:Nat):wtS n 0=List.replicate 32 0:=rfl
theorem D9 (n:Nat):wtS n 8=Ob n 32:=by
 rw [wtS];show Ob n 32++List.replicate 0 0=_;rw [List.replicate_zero,List.append_nil]
def Sh:Nat:=27742317777372353535851937790883648493
theorem E9:NP.LL=7237005577332262213973186563042994240829374041602535252466099000494570602496+Sh:=by decide
theorem Y3 (n limb:Nat) (hl:limb<4294967296):(n*4294967296+limb)/7237005577332262213973186563042994240829374041602535252466099000494570602496=n/1684996666696914987166688442938726917102321526408785780068975640576:=by omega
theorem NM (n:Nat) (h:n<NP.LL):n/1684996666696914987166688442938726917102321526408785780068975640576≤4294967296:=by simp only [NP.LL] at h;omega
theorem zB (t:Nat) (h:t≤4294967296):Sh*t<NP.LL:=by
 have h2:Sh*t≤Sh*4294967296:=Nat.mul_le_mul_left _ h;exact Nat.lt_of_le_of_lt h2 (by decide)
theorem QX (x r t:Nat) (hr:r<7237005577332262213973186563042994240829374041602535252466099000494570602496) (ht:t≤4294967296) (hx:x=t*7237005577332262213973186563042994240829374041602535252466099000494570602496+r):(if r<Sh*t then r+NP.LL-Sh*t else r-Sh*t)=x%NP.LL:=by
 have h1:=zB t ht;have hL:=E9;have e:x+Sh*t=t*NP.LL+r:=by rw [hL,Nat.mul_add,hx,Nat.mul_comm t Sh];omega
 generalize Sh*t=u at *;have hLp:0<NP.LL:=by decide
 have hrl:r<NP.LL:=by rw [hL];omega
 split
 ·rename_i h;have ht1:1≤t:=by
   rcases Nat.eq_zero_or_pos t with h0|h0
   ·subst h0;rw [Nat.zero_mul] at e;omega
   ·exact h0
  obtain ⟨s,rfl⟩:∃s,t=s+1:=⟨t-1,by omega⟩;rw [Nat.succ_mul] at e;have hx2:x=r+NP.LL-u+NP.LL*s:=by rw [Nat.mul_comm NP.LL s];omega
  rw [hx2,Nat.add_mul_mod_self_left,yaj (by omega)]
 ·have hx2:x=r-u+NP.LL*t:=by rw [Nat.mul_comm NP.LL t];omega
  rw [hx2,Nat.add_mul_mod_self_left,yaj (by omega)]
def upL (n:List Nat) (limb:Nat):List Nat:=limb::n.take 7
theorem G9 (n:List Nat) (limb:Nat) (hn:D8 n) (hl:limb<4294967296):D8 ((upL n limb).set 7 (n.getD 6 0%268435456))∧pre ((upL n limb).set 7 (n.getD 6 0%268435456)) 8=(pre n 8*4294967296+limb)%7237005577332262213973186563042994240829374041602535252466099000494570602496∧n.getD 7 0*16+n.getD 6 0/268435456=pre n 8/1684996666696914987166688442938726917102321526408785780068975640576:=by
 obtain ⟨a,b,c,d,e,f,g,i,rfl⟩:=MB n hn.1;have h0:a<4294967296:=hn.2 0;have h1:b<4294967296:=hn.2 1;have h2:c<4294967296:=hn.2 2;have h3:d<4294967296:=hn.2 3;have h4:e<4294967296:=hn.2 4;have h5:f<4294967296:=hn.2 5;have h6:g<4294967296:=hn.2 6;have h7:i<4294967296:=hn.2 7;have hu:(upL [a,b,c,d,e,f,g,i] limb).set 7 (g%268435456)= [limb,a,b,c,d,e,f,g%268435456]:=rfl;show D8 ((upL [a,b,c,d,e,f,g,i] limb).set 7 (g%268435456))∧pre ((upL [a,b,c,d,e,f,g,i] limb).set 7 (g%268435456)) 8=_∧i*16+g/268435456=_;rw [hu,ym,ym];refine ⟨⟨rfl,fun k=>?_⟩,by omega,by omega⟩;rcases Nat.lt_or_ge k 8 with h|h
 ·rcases (show k=0∨k=1∨k=2∨k=3∨k=4∨k=5∨k=6∨k=7 by omega) with rfl|rfl|rfl|rfl|rfl|rfl|rfl|rfl
  ·exact hl
  ·exact h0
  ·exact h1
  ·exact h2
  ·exact h3
  ·exact h4
  ·exact h5
  ·exact Nat.lt_trans (Nat.mod_lt g (by decide)) (by decide)
 ·rw [Yaj,List.getElem?_eq_none (by exact h)];decide
def hiW (r:List Nat):Nat→Nat
 |0=>0
 |k+1=>hiW r k*4294967296+r.getD (15-k) 0
theorem A4 (b:List UInt8) (hb:b.length=32):lev (b.set 31 (b.getD 31 0%128))=lev b%57896044618658097711785492504343953926634992332820282019728792003956564819968:=by
 have hg:∀c:List UInt8,c.length=32→lev c=lev (c.take 31)+(c.getD 31 0).toNat*452312848583266388373324160190187140051835877600158453279131187530910662656:=fun c hc=>by
  have h:=XB c 31 (by rw [hc];decide);rw [Zaj (by rw [hc];decide)] at h;exact h
 have hl:=Pp b 31 (by rw [hb];decide);rw [hg _ (by rw [List.length_set];exact hb),hg b hb,List.take_set_of_le (by decide),show (b.set 31 (b.getD 31 0%128)).getD 31 0=b.getD 31 0%128 by rw [Yaj,List.getElem?_set_self (by rw [hb];decide)];rfl,UInt8.toNat_mod];generalize lev (b.take 31)=L at *;generalize b.getD 31 0=q;have hq:=q.toNat_lt;have h8:(128:UInt8).toNat=128:=rfl;rw [h8];generalize q.toNat=y at *;have hl':L<452312848583266388373324160190187140051835877600158453279131187530910662656:=hl;clear hl;omega
theorem YI (a r:List Nat) (T:Nat→List Nat) (V:Nat→Nat) (w:World) (HA:Hid (a.length=8∧∀k,a.getD k 0<4294967296)) (HL:Hid (∀k,(T k).length=8)) (H0:Hid (T 0= [0,0,0,0,0,0,0,0])) (HR:Hid (T 8=r))
 (HS:Hid (∀k,k<7→V k=a.getD k 0/2+a.getD (k+1) 0%2*2147483648∧T (k+1)=((T k).set k (a.getD k 0/2)).set k (V k))) (H8:Hid (T 8=(T 7).set 7 (a.getD 7 0/2))):
 Calls Tryz.prog 118 #[Da a] w (gvn (Da r) w):=by
 go_enter Tryz.func118,Tryz.ntmps118;go_wp2_with (first
  |(refine Ra rfl 66 (.tmp 0) rfl (a.map Ja) rfl ?_
    intro w1 hB1 hA1;try simp only [La]
    skip)
  |(refine Ma (o:=⟨some 2,_,_,_,_,_⟩) rfl 66 rfl (Wa 8) Ac ?_
    intro w3 hb3 hZ3;have hB3:=Ba hB1 hb3;have hA3:=hA1.on hb3;have hg2:=hA1.lt;clear hB1 hA1 hb3;try simp only [La]
    skip)
  |(refine Eb rfl 66 [] rfl [] rfl _ Br ?_
    try simp only [La]
    skip)
  |(refine Db rfl rfl 66 (.tmp 3) (.tmp 5) rfl rfl 8 (Wa 8) (Wa 8) rfl rfl Ac rfl Za rfl (by rw [Gj];exact Ua _) ?_
    intro w4 hb4 hS4;have hB4:=Ba hB3 hb4;have hA4:=hA3.on hb4;have hZ4:=hZ3.on hb4;have hg3:=hZ3.lt;clear hB3 hA3 hZ3 hb4;try simp only [La]
    skip))
 generalize hh:w1.heap.size=gz at *;generalize hi:w3.heap.size=gs at *;clear hh hi
 go_loopw [4] (fun i wr=>∃k:Nat,k≤8∧i=.int .i64 k∧Below w.heap.size w wr∧Ia wr w.heap.size (a.map Ja) 66∧Ia wr gz (Wa 8) 66∧Ia wr gs ((T k).map Ja) 66) (fun i _=>8-(intOf i).toNat)
 case atStart=>exact ⟨0,Nat.zero_le _,rfl,hB4,hA4,hZ4,by rw [H0.out,←Oz];exact hS4⟩
 case round=>
  clear hB4 hA4 hZ4 hS4;obtain ⟨k,hk,rfl,hB,hA,hZ,hS⟩:=hrel;have HLk:=Lib.hid (HL.out k);by_cases hlt:k<8
  ·have d1:=hA.get (dat a k (by rw [HA.out.1];omega));have hp:=HA.out.2 k;have i1:(0:Int)≤(k:Int):=by omega
   have i2:(k:Int)<8:=by omega
   obtain ⟨y,hy⟩:∃y,y=a.getD k 0/2:=⟨_,rfl⟩;have c1:((a.getD k 0:Nat):Int)/2=(y:Int):=by rw [hy];rfl
   have hT:=hS.there k 1 (by rw [Uaj,HLk.out];omega);have hE:=Lib.hid (hS.set k (Ja y));by_cases h7:k<7
   ·have HN:=Lib.hid (HS.out k h7).2;have hv:=(HS.out k h7).1;rw [←hy] at HN hv;have d0:=Lib.hid (dat a (k+1) (by rw [HA.out.1];omega));have hq:=HA.out.2 (k+1);obtain ⟨z,HZ⟩:=Nb (T (k+1));rw [HZ.out] at HN;generalize T k=s at *;generalize a.getD k 0=p at *;generalize a.getD (k+1) 0=q at *;generalize V k=v at *;have HAL:=Lib.hid HA.out.1;clear HA HL H0 HS HR H8;have i3:(k:Int)<7:=by omega
    have i4:IntKind.i64.wrap ((k:Int)+1)=(k:Int)+1:=IntWalk.i64_in _ (by omega);have i5:((k:Int)+1).toNat=k+1:=by omega
    have i6:(k:Int)+1<8:=by omega
    have i7:(0:Int)≤(k:Int)+1:=by omega
    obtain ⟨b,hb⟩:∃b,b=q%2:=⟨_,rfl⟩;have c2:(q:Int).tmod 2=(b:Int):=by rw [Int.tmod_eq_emod_of_nonneg (by omega)];omega
    have c3:IntKind.u32.wrap (b:Int)=(b:Int):=by rw [IntKind.wrap_u32];omega
    obtain ⟨x,hx⟩:∃x,x=b*2147483648:=⟨_,rfl⟩;have c4:IntKind.u32.wrap ((b:Int)*2147483648)=(x:Int):=by rw [IntKind.wrap_u32];omega
    have c5:IntKind.u32.wrap ((y:Int)+(x:Int))=(v:Int):=by rw [IntKind.wrap_u32];omega
    clear hx hb hv hy;go_wp2_with (first
     |(refine Qb rfl 64 _ _ rfl gs k .u32 (y:Int) rfl rfl qf hT ?_
       intro w5 hw5;have hB5:Below w.heap.size w w5:=by rw [hw5];exact hB.setCell (p:=⟨gs,k,none⟩) (by show w.heap.size≤gs;omega) _
       have hA5:Ia w5 w.heap.size (a.map Ja) 66:=by rw [hw5];exact hA.other (by show w.heap.size≠gs;omega) _
       have hZ5:Ia w5 gz (Wa 8) 66:=by rw [hw5];exact hZ.other (by show gz≠gs;omega) _
       have hS5:Ia w5 gs ((s.set k y).map Ja) 66:=by rw [hw5,←Ih];exact hE.out
       have d5:=hA5.get d0.out;have d6:=hS5.get (dat (s.set k y) k (by rw [List.length_set,HLk.out];exact hlt));rw [Yaj,List.getElem?_set_self (by rw [HLk.out];exact hlt)] at d6;simp only [Option.getD_some] at d6;clear hw5 hT hE hB hA hZ hS d1 d0))
    refine Ad 11 (by kernel_rfl) (by kernel_rfl) ?_;intro w4 hw4;have hB4:Below w.heap.size w w4:=by rw [hw4];exact hB5.drew
    have hA4:Ia w4 w.heap.size (a.map Ja) 66:=by rw [hw4];exact hA5
    have hZ4:Ia w4 gz (Wa 8) 66:=by rw [hw4];exact hZ5
    have hS4:Ia w4 gs ((s.set k y).map Ja) 66:=by rw [hw4];exact hS5
    have d3:w4.cell? ⟨w.heap.size,k+1,none⟩=some (Ja q):=by rw [hw4];exact d5
    have d4:w4.cell? ⟨gs,k,none⟩=some (Ja y):=by rw [hw4];exact d6
    clear hw4 hB5 hA5 hZ5 hS5 d5 d6;simp only [List.take_succ_cons,List.take_zero,List.drop_succ_cons,List.drop_zero];repeat still_step
    refine wpStill_nil ?_;have hT:=hS4.there k 1 (by rw [Uaj,List.length_set,HLk.out];omega);have hE:=Lib.hid (hS4.set k (Ja v));go_wp2_with (first
     |(refine Qb rfl 64 _ _ rfl gs k .u32 (v:Int) rfl rfl qf hT ?_
       intro w5 hw5;have hB5:Below w.heap.size w w5:=by rw [hw5];exact hB4.setCell (p:=⟨gs,k,none⟩) (by show w.heap.size≤gs;omega) _
       have hA5:Ia w5 w.heap.size (a.map Ja) 66:=by rw [hw5];exact hA4.other (by show w.heap.size≠gs;omega) _
       have hZ5:Ia w5 gz (Wa 8) 66:=by rw [hw5];exact hZ4.other (by show gz≠gs;omega) _
       have hS5:Ia w5 gs (z.map Ja) 66:=by rw [hw5,HN.out,←Ih];exact hE.out
       clear hw5 hT hE hB4 hA4 hZ4 hS4 d3 d4))
    go_roundw
    case rel=>first|exact ⟨k+1,by omega,by go_num,hB5,hA5,hZ5,by rw [HZ.out];exact hS5⟩|trace_state
    case measure=>simp [intOf]<;>omega
   ·obtain rfl:k=7:=by omega
    have HN:=Lib.hid H8.out;rw [←hy] at HN;obtain ⟨z,HZ⟩:=Nb (T 8);rw [HZ.out] at HN;generalize T 7=s at *;generalize a.getD 7 0=p at *;clear HA HL H0 HS HR H8 hp hy;go_wp2_with (first
     |(refine Qb rfl 64 _ _ rfl gs 7 .u32 (y:Int) rfl rfl qf hT ?_
       intro w5 hw5;have hB5:Below w.heap.size w w5:=by rw [hw5];exact hB.setCell (p:=⟨gs,7,none⟩) (by show w.heap.size≤gs;omega) _
       have hA5:Ia w5 w.heap.size (a.map Ja) 66:=by rw [hw5];exact hA.other (by show w.heap.size≠gs;omega) _
       have hZ5:Ia w5 gz (Wa 8) 66:=by rw [hw5];exact hZ.other (by show gz≠gs;omega) _
       have hS5:Ia w5 gs (z.map Ja) 66:=by rw [hw5,HN.out,←Ih];exact hE.out
       clear hw5 hT hE hB hA hZ hS d1))
    go_roundw
    case rel=>first|exact ⟨8,by omega,by go_num,hB5,hA5,hZ5,by rw [HZ.out];exact hS5⟩|trace_state
    case measure=>simp [intOf]<;>omega
  ·obtain rfl:k=8:=by omega
   rw [HR.out] at hS;have HTL:=Lib.hid (HL.out 8);rw [HR.out] at HTL;clear HA HS HL H0 hA H8;go_wp2_with (first
    |(refine Pa rfl 66 (.tmp 3) rfl gs 8 (r.map Ja) rfl hS Tryz.underlying66 rfl Za (by rw [Uaj,HTL.out]) ?_
      try simp only [La]
      skip)
    |(refine Ka rfl 66 _ _ rfl gz 8 (Wa 8) (r.map Ja) rfl rfl hZ rfl Za (by rw [Uaj,HTL.out]) (Ua _) ?_
      intro w6 hb6 hZ6 _;have hB6:=hB.trans (hb6.below (by omega) hB.size);clear hB hS hb6))
   exact qc Tryz.results118 gz (r.map Ja) rfl hZ6 Tryz.underlying66 rfl Za (by rw [Uaj,HTL.out]) rfl ⟨rfl,hB6⟩
theorem KG (n k:Nat) (hk:k<8):(nD (n/2)).getD k 0=(nD n).getD k 0/2+n/2^(32*k+32)%2*2147483648:=by
 rw [Ay _ k hk,Ay _ k hk,Nat.pow_add,←Nat.div_div_eq_div_mul,Nat.div_div_eq_div_mul n 2,Nat.mul_comm 2,←Nat.div_div_eq_div_mul];generalize n/2^(32*k)=y;omega
theorem OM (n:Nat) (w:World) (hn:n<mm):Calls Tryz.prog 118 #[Da (nD n)] w (gvn (Da (nD (n/2))) w):=by
 have hT:∀k,k<8→((nD (n/2)).take (k+1)++List.replicate (8-(k+1)) 0)=((nD (n/2)).take k++List.replicate (8-k) 0).set k ((nD (n/2)).getD k 0):=fun k hk=>by
  have hl:((nD (n/2)).take k).length=k:=by rw [zaj,qe];omega
  rw [List.take_succ_eq_append_getElem (show k<(nD (n/2)).length from hk),show 8-k=(8-(k+1))+1 by omega,List.replicate_succ,List.set_append_right _ _ (by rw [hl];omega),hl,Nat.sub_self,List.set_cons_zero,List.append_assoc,Yaj,xaj (show k<(nD (n/2)).length from hk)];rfl
 refine YI (nD n) _ (fun k=>(nD (n/2)).take k++List.replicate (8-k) 0) (fun k=>(nD (n/2)).getD k 0) w ⟨rfl,(Td n).2⟩ (fun k=>?_) (by show (nD (n/2)).take 0++List.replicate 8 0=_;rfl) (by show (nD (n/2)).take 8++List.replicate 0 0=_;rw [Zaj (Xaj 8)];exact List.append_nil _) (fun k hk=>⟨?_,?_⟩) ?_
 ·show ((nD (n/2)).take k++List.replicate (8-k) 0).length=8;rw [qaj,zaj,List.length_replicate,qe];omega
 ·show (nD (n/2)).getD k 0=_;rw [KG n k (by omega),Ay n (k+1) (by omega),show 32*(k+1)=32*k+32 by omega];generalize n/2^(32*k+32)=y;omega
 ·show ((nD (n/2)).take (k+1)++List.replicate (8-(k+1)) 0)=_;rw [hT k (by omega),List.set_set]
 ·show ((nD (n/2)).take 8++List.replicate (8-8) 0)=_;have h7:=KG n 7 (by omega);rw [show n/2^(32*7+32)=0 from Nat.div_eq_of_lt (Waj hn (by decide+kernel)),Nat.zero_mod,Nat.zero_mul,Nat.add_zero] at h7;rw [hT 7 (by omega),h7]
end Go.Proofs.YtoggkhjaghkpnaaGreatDoor
namespace Go.Proofs.YtoggkhjaghkpnaaGreatDoor
open Go.RowKit
theorem Rz (ds es:List UInt8) (hd:ds.length=32) (he:es.length=32) (w:World):(binOp .eql 23 (Ca ds) (Ca es)).run Tryz.prog w=.ok (.bool (ds==es)) w:=
 run_eql_bytes (P:=Tryz.prog) w 23 5 32 Tryz.underlying23 Tryz.underlying5 (fun w=>by
  obtain ⟨i0,hi0,hs0⟩:=Option.map_eq_some_iff.1 Qc;simp [sizeOf,typeInfo,hi0,hs0]) ds es hd he
end Go.Proofs.YtoggkhjaghkpnaaGreatDoor
namespace Go.Proofs.YtoggkhjaghkpnaaGreatDoor
open Go.RowKit
theorem Yf {w:World} {g:Nat} {l:List UInt8} {t':TypeId} (hC:Ia w g (l.map Fa) t') (hl:l.length=32):(Instr.loadAt 23 (.pointer (some ⟨g,0,none⟩))).run Tryz.prog w=.ok (Ca l) w:=by
 have h:=run_loadVar_row (P:=Tryz.prog) w g t' 23 (l.map Fa).toArray (0,0) _ hC Tryz.underlying23 rfl (by rw [List.size_toArray,Uaj,hl];exact za);simp only [Instr.loadAt,Instr.sureAddr,Sem.run_bind,Sem.run_pure,Result.andThen_ok];exact h
theorem Bw {P:Program} (ρ:Operand→Value) (o:Oper) (c x y:Operand) (h:o.op=.pick c x y) (hc:ρ c=.bool true) (v:Value) (hx:ρ x=v) (w:World):(execOp ρ o).run P w=.ok (.value v) w:=by
 rw [Xv ρ o c x y h true hc w,if_pos rfl,hx]
section
variable {P:Program} {w:World} {ops:Array Oper} {rest:List Oper} {o:Oper} {a:Act} {Q:Exit→Act→World→Prop}
theorem Yj (hgd:o.guard=none) {x:Operand} (ho:o.op=.move x∨o.op=.assign x) (v:Value) (hx:a.eval x=v) (h:wpList P ops Q rest (a.put o.dst v) w):wpList P ops Q (o::rest) a w:=by
 refine wpList_plain hgd fun K hK=>?_;exact Mc v (Lb _ _ _ ho _ hx w) (hK _ _ h)
theorem ye {a:Act} {j s:Nat} {b:Bool} (hg:o.guard=some (j,b)) {oj:Oper} (hj:ops[j]? =some oj) (hd:oj.dst=some s) (hv:a.tmps.getD s undef=undef):Region.wanted o (yielded ops a.tmps)=false:=by
 simp only [Region.wanted,hg];unfold yielded;rw [Array.getD_eq_getD_getElem?] at hv;cases h:a.tmps[s]? with
 |none=>simp [hj,hd,h]
 |some v=>
  rw [h] at hv;obtain rfl:v=undef:=hv;simp [hj,hd,h,undef]
end
theorem Hi (op:BinOp) (x y:Operand) (a b:List Nat) (w:World):(eqGuard op 66 x y (Da a) (Da b)).run Tryz.prog w=.ok () w:=run_eqGuard_agg w op 66 _ _ _ _ (by kernel_rfl)
theorem Cw (op:BinOp) (x y:Operand) (a b:List UInt8) (w:World):(eqGuard op 23 x y (Ca a) (Ca b)).run Tryz.prog w=.ok () w:=run_eqGuard_agg w op 23 _ _ _ _ (by kernel_rfl)
theorem YU (n m:Nat) (hn:n<mm) (hm:m<mm) (w:World):(binOp .eql 66 (Da (nD n)) (Da (nD m))).run Tryz.prog w=.ok (.bool (decide (n=m))) w:=by
 have h:=LI (P:=Tryz.prog) w .u32 66 64 8 Tryz.underlying66 Tryz.underlying64 (fun w=>by
  obtain ⟨i0,hi0,hs0⟩:=Option.map_eq_some_iff.1 qf;simp [sizeOf,typeInfo,hi0,hs0]) (nD n) (nD m) rfl rfl
 have e:(nD n==nD m)=decide (n=m):=by
  by_cases h:n=m
  ·rw [h,beq_self_eq_true];simp
  ·rw [decide_eq_false h,beq_eq_false_iff_ne];intro h2;exact h (by rw [←Ce n hn,←Ce m hm,h2])
 rw [e] at h;exact h
theorem B4 {l:List Nat} (h:l.length=5):∃a b c d e,l= [a,b,c,d,e]:=by
 match l,h with
 | [a,b,c,d,e],_=>exact ⟨a,b,c,d,e,rfl⟩
theorem zm {w:World} {g:Nat} {p:List Nat} {t':TypeId} (hC:Ia w g (p.map Ga) t') (o:Nat) (x:List Nat) (hp:(p.drop o).take 5=x) (hx:x.length=5):(Instr.loadAt 53 (.pointer (some ⟨g,o,none⟩))).run Tryz.prog w=.ok (Aa x) w:=by
 have hr:=hC.range o 5;rw [←List.map_drop,←List.map_take,hp] at hr;exact run_loadAt_mid w g o 53 (x.map Ga) _ hr Tryz.underlying53 rfl (by rw [Uaj,hx];exact Sa)
abbrev Xa:List Value:=List.replicate 32 (Fa 0)
theorem Ab (l:List UInt8):(l.map Fa).toArray.all (·.oneCell')=true:=all_oneCell_toArray (Kg l)
theorem Oh {w:World} {g:Nat} {l:List UInt8} {t':TypeId} (hC:Ia w g (l.map Fa) t') (hl:l.length=32):(Instr.loadAt 22 (.pointer (some ⟨g,0,none⟩))).run Tryz.prog w=.ok (Ca l) w:=by
 have h:=run_loadVar_row (P:=Tryz.prog) w g t' 22 (l.map Fa).toArray (0,0) _ hC Tryz.underlying22 rfl (by rw [List.size_toArray,Uaj,hl];exact Kb);simp only [Instr.loadAt,Instr.sureAddr,Sem.run_bind,Sem.run_pure,Result.andThen_ok];exact h
theorem We:∀w,(zeroValue 83).run Tryz.prog w=.ok (.agg (Na 8).toArray) w:=(zero_of_info (P:=Tryz.prog) (t:=83) (v:=.agg (Na 8).toArray) (n:=8) (by kernel_rfl)).1
theorem Sz:∀w,(zeroValue 88).run Tryz.prog w=.ok (.agg (Na 16).toArray) w:=(zero_of_info (P:=Tryz.prog) (t:=88) (v:=.agg (Na 16).toArray) (n:=16) (by kernel_rfl)).1
theorem Kc:(Tryz.prog.info? 83).map (·.size)=some 8:=by kernel_rfl
theorem Wn:(Tryz.prog.info? 88).map (·.size)=some 16:=by kernel_rfl
theorem D4 {w:World} {g:Nat} {l:List Nat} {t':TypeId} (hC:Ia w g (l.map Ga) t') (hl:l.length=8):(Instr.loadAt 83 (.pointer (some ⟨g,0,none⟩))).run Tryz.prog w=.ok (Aa l) w:=by
 have h:=run_loadVar_row (P:=Tryz.prog) w g t' 83 (l.map Ga).toArray (0,0) _ hC Tryz.underlying83 rfl (by rw [List.size_toArray,Uaj,hl];exact Kc);simp only [Instr.loadAt,Instr.sureAddr,Sem.run_bind,Sem.run_pure,Result.andThen_ok];exact h
theorem Dw {w:World} {g:Nat} {l:List Nat} (hC:Tab w g (l.map Ga)) (hl:l.length=8):(Instr.loadAt 83 (.pointer (some ⟨g,0,none⟩))).run Tryz.prog w=.ok (Aa l) w:=by
 obtain ⟨t',f,hC⟩:=hC;have h:=run_loadVar_row (P:=Tryz.prog) w g t' 83 (l.map Ga).toArray f _ hC Tryz.underlying83 rfl (by rw [List.size_toArray,Uaj,hl];exact Kc);simp only [Instr.loadAt,Instr.sureAddr,Sem.run_bind,Sem.run_pure,Result.andThen_ok];exact h
theorem RX (w:World):(Instr.build 83 #[]).run Tryz.prog w=.ok (Aa [0,0,0,0,0,0,0,0]) w:=by kernel_rfl
theorem SX (x:Nat) (w:World):(Instr.build 83 #[(0,Ga x)]).run Tryz.prog w=.ok (Aa [x,0,0,0,0,0,0,0]) w:=by kernel_rfl
theorem WR (n:Nat):Na n=(List.replicate n 0).map Ga:=by simp [Na]
theorem ZI (x:Nat) (h:x<18446744073709551616):bits .and .u64 (x:Int) 4294967295=((x%4294967296:Nat):Int):=by
 rw [show (4294967295:Int)=((4294967295:Nat):Int) from rfl,u64_and_nat _ _ h (by omega)];have :=Nat.and_two_pow_sub_one_eq_mod x 32;simp only [Nat.reducePow,Nat.reduceSub] at this;rw [this]
theorem Pad (x:Nat) (h:x<18446744073709551616):bits .and .u64 (x:Int) 268435455=((x%268435456:Nat):Int):=by
 rw [show (268435455:Int)=((268435455:Nat):Int) from rfl,u64_and_nat _ _ h (by omega)];have :=Nat.and_two_pow_sub_one_eq_mod x 28;simp only [Nat.reducePow,Nat.reduceSub] at this;rw [this]
theorem Bah (x:Nat) (h:x<18446744073709551616):bits .and .u64 (x:Int) 1=((x%2:Nat):Int):=by
 rw [show (1:Int)=((1:Nat):Int) from rfl,u64_and_nat _ _ h (by omega)];have :=Nat.and_two_pow_sub_one_eq_mod x 1;simp only [Nat.reducePow,Nat.reduceSub] at this;rw [this]
section
variable {P:Program} {w:World} {ops:Array Oper} {rest:List Oper} {o:Oper} {a:Act} {Q:Exit→Act→World→Prop}
theorem Ss (hgd:o.guard=none) (d s:Operand) (T e:TypeId) (hu:P.underlying T=some (.slice e)) (hsz:(P.info? e).map (·.size)=some 1) (ho:o.op=.call {callee:=.builtin .copy,args:=#[d,s],argTypes:=#[T,T]})
 (g off dLen dCap b bo sLen sCap m:Nat) (vs:List Value) (hd:a.eval d=.slice (some ⟨g,off,none⟩) dLen dCap) (hs:a.eval s=.slice (some ⟨b,bo,none⟩) sLen sCap) (hm:Nat.min sLen dLen=m) (hl:vs.length=m) (hr:w.rangeAt b bo vs) (ht:w.there g off m) (h1:∀v∈vs,v.oneCell'=true)
 (h:∀w',w'=w.setCells g off vs→wpList P ops Q rest (a.put o.dst (.int .i64 (m:Int))) w'):wpList P ops Q (o::rest) a w:=by
 replace h:=h _ rfl;have hlen:vs.length=Nat.min sLen dLen:=hl.trans hm.symm;refine wpList_plain hgd fun K hK=>?_;have hrun:=run_copy_cells (P:=P) w T T o.type e g off dLen dCap ⟨b,bo,none⟩ sLen sCap vs hu hsz hlen (fun j v hj=>by
  rw [Addr.add_mid];exact hr j v hj) (fun j hj=>(ht j (by omega)).1) (fun j hj=>(ht j (by omega)).2) h1
 unfold Oper.wp;simp only [execOp,ho,resolve,invoke,builtin,Sem.run_bind,Sem.run_pure,Result.andThen_ok,List.map_toArray,List.map_cons,List.map_nil,hd,hs,hrun];have e3:goInt (vs.length:Int)=.int .i64 (m:Int):=by rw [hl];rfl
 rw [e3];exact hK _ _ h
end
end Go.Proofs.YtoggkhjaghkpnaaGreatDoor
