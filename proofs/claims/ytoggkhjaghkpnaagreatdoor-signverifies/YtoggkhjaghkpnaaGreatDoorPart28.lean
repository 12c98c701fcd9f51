/- Part 28 of what the laws of this seat share: YHalves, YFill, YAny, YSigned, YVerified, ZTop. -/
import Derived.Deep.Cut
import Derived.Test.YtoggkhjaghkpnaaGreatDoorPart27
set_option maxRecDepth 100000
set_option maxHeartbeats 8000000
namespace Go.Proofs.YtoggkhjaghkpnaaGreatDoor
open Go.RowKit
theorem qE (wd z:List UInt8) (X Y:Nat→List UInt8) (w:World)
 (Hz:Hid (z.length=32))
 (HX0:Hid (X 0=z))
 (HY0:Hid (Y 0=z))
 (HL:Hid (∀j,(X j).length=32∧(Y j).length=32))
 (HR:Hid (∀j:Nat,j<32→∃q u:UInt8,(wd.map Fa)[j]? =some (Fa q)∧(wd.map Fa)[32+j]? =some (Fa u)∧((X j).map Fa).set j (Fa q)=(X (j+1)).map Fa∧((Y j).map Fa).set j (Fa u)=(Y (j+1)).map Fa))
 (BZ:∀w,(Instr.build 22 #[]).run Tryz.prog w=.ok (Ca z) w):
 Calls Tryz.prog 30 #[Ca wd] w (gvn (.tuple #[Ca (X 32),Ca (Y 32)]) w):=by
 go_enter Tryz.func30,Tryz.ntmps30;go_wp2_with (first
  |(refine Ra rfl 26 (.tmp 0) rfl (wd.map Fa) rfl ?_
    intro w1 hb1 hvs1;have hB1:=hb1;have hges:w.heap.size≤w.heap.size:=Xaj _;clear hb1;try simp only [La]
    skip)
  |(refine Ma (o:=⟨some 2,_,_,_,_,_⟩) rfl 22 rfl Xa Dc ?_
    intro w2 hb2 hvr2;have hB2:=Ba hB1 hb2;have hger:w.heap.size≤w1.heap.size:=hB1.size;have hvs2:=hvs1.on hb2;have hnesr:=Vaj hvs1.lt;clear hB1 hvs1 hb2;try simp only [La]
    skip)
  |(refine Ma (o:=⟨some 3,_,_,_,_,_⟩) rfl 22 rfl Xa Dc ?_
    intro w3 hb3 hvt3;have hB3:=Ba hB2 hb3;have hget:w.heap.size≤w2.heap.size:=hB2.size;have hvs3:=hvs2.on hb3;have hnest:=Vaj hvs2.lt;have hvr3:=hvr2.on hb3;have hnert:=Vaj hvr2.lt;clear hB2 hvs2 hvr2 hb3;try simp only [La]
    skip)
  |(refine Eb rfl 22 [] rfl [] rfl _ BZ ?_
    try simp only [La]
    skip)
  |(refine Eb rfl 22 [] rfl [] rfl _ BZ ?_
    try simp only [La]
    skip)
  |(refine Ma (o:=⟨some 4,_,_,_,_,_⟩) rfl 22 rfl Xa Dc ?_
    intro w4 hb4 hva4;have hB4:=Ba hB3 hb4;have hgea:w.heap.size≤w3.heap.size:=hB3.size;have hvs4:=hvs3.on hb4;have hnesa:=Vaj hvs3.lt;have hvr4:=hvr3.on hb4;have hnera:=Vaj hvr3.lt;have hvt4:=hvt3.on hb4;have hneta:=Vaj hvt3.lt;clear hB3 hvs3 hvr3 hvt3 hb4;try simp only [La]
    skip)
  |(refine Ma (o:=⟨some 5,_,_,_,_,_⟩) rfl 22 rfl Xa Dc ?_
    intro w5 hb5 hvb5;have hB5:=Ba hB4 hb5;have hgeb:w.heap.size≤w4.heap.size:=hB4.size;have hvs5:=hvs4.on hb5;have hnesb:=Vaj hvs4.lt;have hvr5:=hvr4.on hb5;have hnerb:=Vaj hvr4.lt;have hvt5:=hvt4.on hb5;have hnetb:=Vaj hvt4.lt;have hva5:=hva4.on hb5;have hneab:=Vaj hva4.lt;clear hB4 hvs4 hvr4 hvt4 hva4 hb5;try simp only [La]
    skip)
  |(refine Ka rfl 22 (.tmp 4) (.tmp 7) rfl w3.heap.size 32 Xa (z.map Fa) rfl rfl hva5 rfl Kb (by rw [Uaj,Hz.out]) (Ab _) ?_
    intro w6 hb6 hva6 hz6;have hB6:Below w.heap.size w w6:=hB5.trans (hb6.below hgea hB5.size);have hvs6:=hvs5.but hb6 hnesa;have hvr6:=hvr5.but hb6 hnera;have hvt6:=hvt5.but hb6 hneta;have hvb6:=hvb5.but hb6 (Ne.symm hneab);clear hB5 hva5 hb6 hz6 hvs5 hvr5 hvt5 hvb5;skip)
  |(refine Ka rfl 22 (.tmp 5) (.tmp 8) rfl w4.heap.size 32 Xa (z.map Fa) rfl rfl hvb6 rfl Kb (by rw [Uaj,Hz.out]) (Ab _) ?_
    intro w7 hb7 hvb7 hz7;have hB7:Below w.heap.size w w7:=hB6.trans (hb7.below hgeb hB6.size);have hvs7:=hvs6.but hb7 hnesb;have hvr7:=hvr6.but hb7 hnerb;have hvt7:=hvt6.but hb7 hnetb;have hva7:=hva6.but hb7 hneab;clear hB6 hvb6 hb7 hz7 hvs6 hvr6 hvt6 hva6;skip))
 generalize hqr:w1.heap.size=gr at *;clear hqr;generalize hqt:w2.heap.size=gt at *;clear hqt;generalize hqa:w3.heap.size=ga at *;clear hqa;generalize hqb:w4.heap.size=gb at *;clear hqb;replace hnesr:=Lib.hid hnesr;replace hnest:=Lib.hid hnest;replace hnert:=Lib.hid hnert;replace hnesa:=Lib.hid hnesa;replace hnera:=Lib.hid hnera;replace hneta:=Lib.hid hneta;replace hnesb:=Lib.hid hnesb;replace hnerb:=Lib.hid hnerb;replace hnetb:=Lib.hid hnetb;replace hneab:=Lib.hid hneab
 go_loopw [6] (fun t wr=>∃j:Nat,j≤32∧t=.int .i64 (j:Int)∧Below w.heap.size w wr∧Ia wr (w.heap.size) (wd.map Fa) 26∧Ia wr gr Xa 22∧Ia wr gt Xa 22∧Ia wr ga ((X j).map Fa) 22∧Ia wr gb ((Y j).map Fa) 22) (fun t _=>(32-intOf t).toNat)
 case atStart=>exact ⟨0,Nat.zero_le _,rfl,hB7,hvs7,hvr7,hvt7,by rw [HX0.out];exact hva7,by rw [HY0.out];exact hvb7⟩
 case round=>
  clear hB7 hvs7 hvr7 hvt7 hva7 hvb7;obtain ⟨j,hj,rfl,hBl,hvsl,hvrl,hvtl,hval,hvbl⟩:=hrel;by_cases h0:j<32
  ·have i1:(0:Int)≤(j:Int):=by omega
   have i2:(j:Int)<32:=by omega
   have i3:IntKind.i64.wrap ((j:Int)+1)=(j:Int)+1:=IntWalk.i64_in _ (by omega);obtain ⟨q,u,hq,hu,hx,hy⟩:=HR.out j h0;have Hxa:=Lib.hid (HL.out j).1;have Hxb:=Lib.hid (HL.out j).2;clear HR HL HX0 HY0;obtain ⟨xa,HXa⟩:=Nb (X j);obtain ⟨xb,HXb⟩:=Nb (Y j);rw [HXa.out] at Hxa hx hval;rw [HXb.out] at Hxb hy hvbl;obtain ⟨m,hm⟩:=Nb (32+j);rw [hm.out] at hu;have hm2:m<64:=by have :=hm.out;omega
   replace hq:=Lib.hid hq;replace hu:=Lib.hid hu;replace hx:=Lib.hid hx;replace hy:=Lib.hid hy
   go_upto_region 5 with fail
   go_wp2_with fail
   replace hvsl:=hvsl.drew;replace hvrl:=hvrl.drew;replace hvtl:=hvtl.drew;replace hval:=hval.drew;replace hvbl:=hvbl.drew;rename_i K hKK;have hB8:=(show Below w.heap.size w wr.drew from hBl.drew);clear hBl;refine wp_region_any (by kernel_rfl) ?_;refine wpAny_of_held (S:=fun w'=>Ia w' (w.heap.size) (wd.map Fa) 26) _ _ _ _ ?_;show wpAnyH _ _ _ _ _ _ _ _ wr.drew;simp only [List.size_toArray,List.length_cons,List.length_nil,Nat.reduceAdd,Array.replicate_succ,Array.replicate_zero,List.push_toArray,List.nil_append,List.cons_append];generalize wr.drew=w8 at *;refine wpAnyH_take (i:=0) (oi:=⟨some 13,_,_,_,_,_⟩) (v:=(.int .i64 (j:Int))) rfl (by kernel_rfl) (by kernel_rfl) (by kernel_rfl) (fun _ _ _ h=>h) (Or.inl ⟨by rfl,?_⟩) hvsl ?_
   ·intro w8 h8;exact Lb _ _ _ (.inl rfl) _ (by rfl) w8
   try simp only [La]
   refine wpAnyH_take (i:=1) (oi:=⟨some 14,_,_,_,_,_⟩) (v:=(.int .i64 (j:Int))) rfl (by kernel_rfl) (by kernel_rfl) (by kernel_rfl) (fun _ _ _ h=>h) (Or.inl ⟨by rfl,?_⟩) hvsl ?_
   ·intro w8 h8;exact Lb _ _ _ (.inl rfl) _ (by rfl) w8
   try simp only [La]
   refine wpAnyH_take (i:=2) (oi:=⟨some 15,_,_,_,_,_⟩) (v:=(.int .i64 (j:Int))) rfl (by kernel_rfl) (by kernel_rfl) (by kernel_rfl) (fun _ _ _ h=>h) (Or.inl ⟨by rfl,?_⟩) hvsl ?_
   ·intro w8 h8;exact Lb _ _ _ (.inl rfl) _ (by rfl) w8
   try simp only [La]
   refine wpAnyH_take (i:=3) (oi:=⟨some 16,_,_,_,_,_⟩) (v:=(.pointer (some ⟨w.heap.size,j,none⟩))) rfl (by kernel_rfl) (by kernel_rfl) (by kernel_rfl) (fun _ _ _ h=>h) (Or.inl ⟨by rfl,?_⟩) hvsl ?_
   ·intro w8 h8;exact Me _ _ _ _ _ rfl _ _ _ rfl rfl w8 (BK _ j (by omega) w8)
   try simp only [La]
   refine wpAnyH_take (i:=4) (oi:=⟨some 17,_,_,_,_,_⟩) (v:=(Fa q)) rfl (by kernel_rfl) (by kernel_rfl) (by kernel_rfl) (fun _ _ _ h=>h) (Or.inl ⟨by rfl,?_⟩) hvsl ?_
   ·intro w8 h8;exact Yc _ _ _ _ rfl _ _ rfl w8 (Lr (h8.get hq.out))
   try simp only [La]
   refine wpAnyH_take (i:=5) (oi:=⟨some 18,_,_,_,_,_⟩) (v:=(.int .i64 (j:Int))) rfl (by kernel_rfl) (by kernel_rfl) (by kernel_rfl) (fun _ _ _ h=>h) (Or.inl ⟨by rfl,?_⟩) hvsl ?_
   ·intro w8 h8;exact Lb _ _ _ (.inl rfl) _ (by rfl) w8
   try simp only [La]
   refine wpAnyH_take (i:=6) (oi:=⟨some 19,_,_,_,_,_⟩) (v:=(.int .i64 (m:Int))) rfl (by kernel_rfl) (by kernel_rfl) (by kernel_rfl) (fun _ _ _ h=>h) (Or.inl ⟨by rfl,?_⟩) hvsl ?_
   ·intro w8 h8;exact Ff _ _ _ _ _ _ _ rfl _ _ _ rfl rfl w8 (by kernel_rfl) (PV j m h0 hm.out w8)
   try simp only [La]
   refine wpAnyH_take (i:=7) (oi:=⟨some 20,_,_,_,_,_⟩) (v:=(.pointer (some ⟨w.heap.size,m,none⟩))) rfl (by kernel_rfl) (by kernel_rfl) (by kernel_rfl) (fun _ _ _ h=>h) (Or.inl ⟨by rfl,?_⟩) hvsl ?_
   ·intro w8 h8;exact Me _ _ _ _ _ rfl _ _ _ rfl rfl w8 (BK _ m hm2 w8)
   try simp only [La]
   refine wpAnyH_take (i:=8) (oi:=⟨some 21,_,_,_,_,_⟩) (v:=(Fa u)) rfl (by kernel_rfl) (by kernel_rfl) (by kernel_rfl) (fun _ _ _ h=>h) (Or.inl ⟨by rfl,?_⟩) hvsl ?_
   ·intro w8 h8;exact Yc _ _ _ _ rfl _ _ rfl w8 (Lr (h8.get hu.out))
   try simp only [La]
   refine wpAnyH_all (rs:=[9]) (by kernel_rfl) (by decide) fun i hi=>?_;obtain rfl:=List.mem_singleton.1 hi;clear hi;refine wpOp_step rfl fun K1 hK1=>?_;rw [if_pos (by rfl)];refine Mc (.pointer (some ⟨ga,j,none⟩)) (Me _ _ _ _ _ rfl _ _ _ rfl rfl w8 (AK _ j h0 w8)) (hK1 _ _ ⟨hvsl,?_⟩);clear hK1 K1;try simp only [La]
   refine wpAnyH_all (rs:=[10]) (by kernel_rfl) (by decide) fun i hi=>?_;obtain rfl:=List.mem_singleton.1 hi;clear hi;refine wpOp_step rfl fun K1 hK1=>?_;rw [if_pos (by rfl)];refine Ok 5 (.tmp 22) (.tmp 17) rfl ga j .u8 (q.toNat:Int) rfl rfl Qc (hval.there j 1 (by rw [Uaj,Hxa.out];omega)) (hK1 _ _ ?_);have hC2:=hval.set j (.int .u8 (q.toNat:Int));rw [hx.out] at hC2;have hb9:But ga w8 (w8.setCell ⟨ga,j,none⟩ (.int .u8 (q.toNat:Int))):=(But.refl _ _).setCell _ _;have hB9:=hB8.trans (hb9.below hgea hB8.size);have hvs9:=hvsl.but hb9 hnesa.out;have hvr9:=hvrl.but hb9 hnera.out;have hvt9:=hvtl.but hb9 hneta.out;have hvb9:=hvbl.but hb9 (Ne.symm hneab.out);have hva9:=hC2;clear hC2 hb9 hK1 K1 hB8 hval hvsl hvrl hvtl hvbl;generalize w8.setCell ⟨ga,j,none⟩ (.int .u8 (q.toNat:Int))=w9 at *;refine ⟨hvs9,?_⟩;refine wpAnyH_all (rs:=[11]) (by kernel_rfl) (by decide) fun i hi=>?_;obtain rfl:=List.mem_singleton.1 hi;clear hi;refine wpOp_step rfl fun K1 hK1=>?_;rw [if_pos (by rfl)];refine Mc (.pointer (some ⟨gb,j,none⟩)) (Me _ _ _ _ _ rfl _ _ _ rfl rfl w9 (AK _ j h0 w9)) (hK1 _ _ ⟨hvs9,?_⟩);clear hK1 K1;try simp only [La]
   refine wpAnyH_all (rs:=[12]) (by kernel_rfl) (by decide) fun i hi=>?_;obtain rfl:=List.mem_singleton.1 hi;clear hi;refine wpOp_step rfl fun K1 hK1=>?_;rw [if_pos (by rfl)];refine Ok 5 (.tmp 23) (.tmp 21) rfl gb j .u8 (u.toNat:Int) rfl rfl Qc (hvb9.there j 1 (by rw [Uaj,Hxb.out];omega)) (hK1 _ _ ?_);have hC2:=hvb9.set j (.int .u8 (u.toNat:Int));rw [hy.out] at hC2;have hb10:But gb w9 (w9.setCell ⟨gb,j,none⟩ (.int .u8 (u.toNat:Int))):=(But.refl _ _).setCell _ _;have hB10:=hB9.trans (hb10.below hgeb hB9.size);have hvs10:=hvs9.but hb10 hnesb.out;have hvr10:=hvr9.but hb10 hnerb.out;have hvt10:=hvt9.but hb10 hnetb.out;have hva10:=hva9.but hb10 hneab.out;have hvb10:=hC2;clear hC2 hb10 hK1 K1 hB9 hvb9 hvs9 hvr9 hvt9 hva9;generalize w9.setCell ⟨gb,j,none⟩ (.int .u8 (u.toNat:Int))=w10 at *;refine ⟨hvs10,?_⟩;refine wpAnyH_done (by kernel_rfl) ?_ _;show Exit.inBlock _ (Exit.then K _) Exit.normal (⟨((Ca wd)::(.pointer (some ⟨w.heap.size,0,none⟩))::(.pointer (some ⟨gr,0,none⟩))::(.pointer (some ⟨gt,0,none⟩))::(.pointer (some ⟨ga,0,none⟩))::(.pointer (some ⟨gb,0,none⟩))::(.int .i64 (j:Int))::(Ca z)::(Ca z)::(.int .i64 (j:Int))::(.bool true)::(u11)::(u12)::(.int .i64 (j:Int))::(.int .i64 (j:Int))::(.int .i64 (j:Int))::(.pointer (some ⟨w.heap.size,j,none⟩))::(Fa q)::(.int .i64 (j:Int))::(.int .i64 (m:Int))::(.pointer (some ⟨w.heap.size,m,none⟩))::(Fa u)::(.pointer (some ⟨ga,j,none⟩))::(.pointer (some ⟨gb,j,none⟩))::undef::undef::[]).toArray,[]⟩:Act) w10;simp only [Exit.inBlock,Exit.then];refine hKK _ _ ?_;clear hKK K;go_wp2_with fail
   go_roundw
   case rel=>exact ⟨j+1,by omega,rfl,hB10,hvs10,hvr10,hvt10,hva10,hvb10⟩
   case measure=>simp [intOf]<;>omega
  ·obtain rfl:j=32:=by omega
   rw [show (((32:Nat)):Int)=32 from rfl];have Hya:=Lib.hid (HL.out 32).1;have Hyb:=Lib.hid (HL.out 32).2;clear HR HL HX0 HY0;obtain ⟨ya,HYa⟩:=Nb (X 32);obtain ⟨yb,HYb⟩:=Nb (Y 32);rw [HYa.out] at Hya hval;rw [HYb.out] at Hyb hvbl;go_wp2_with fail
   replace hvsl:=hvsl.drew;replace hvrl:=hvrl.drew;replace hvtl:=hvtl.drew;replace hval:=hval.drew;replace hvbl:=hvbl.drew;rename_i K hKK;have hB11:=(show Below w.heap.size w wr.drew from hBl.drew);clear hBl;refine wp_region_any (by kernel_rfl) ?_;refine wpAny_of_held (S:=fun w'=>Ia w' gb (yb.map Fa) 22) _ _ _ _ ?_;show wpAnyH _ _ _ _ _ _ _ _ wr.drew;simp only [List.size_toArray,List.length_cons,List.length_nil,Nat.reduceAdd,Array.replicate_succ,Array.replicate_zero,List.push_toArray,List.nil_append,List.cons_append];generalize wr.drew=w11 at *;refine wpAnyH_take (i:=1) (oi:=⟨some 25,_,_,_,_,_⟩) (v:=Ca yb) rfl (by kernel_rfl) (by kernel_rfl) (by kernel_rfl) (fun _ _ _ h=>h) (Or.inl ⟨by rfl,?_⟩) hvbl ?_
   ·intro w8 h8;exact Yc _ _ _ _ rfl _ _ rfl _ (Oh h8 Hyb.out)
   refine wpAnyH_all (rs:=[0]) (by kernel_rfl) (by decide) fun i hi=>?_;obtain rfl:=List.mem_singleton.1 hi;clear hi;refine wpOp_step rfl fun K1 hK1=>?_;rw [if_pos (by rfl)];refine Mc (Ca ya) (Yc _ _ _ _ rfl _ _ rfl _ (Oh hval Hya.out)) (hK1 _ _ ⟨hvbl,?_⟩);clear hK1 K1;refine wpAnyH_all (rs:=[2]) (by kernel_rfl) (by decide) fun i hi=>?_;obtain rfl:=List.mem_singleton.1 hi;clear hi;refine wpOp_step rfl fun K1 hK1=>?_;rw [if_pos (by rfl)];refine wp_store_mid 22 (.tmp 2) (.tmp 24) rfl gr 0 (ya.map Fa).toArray rfl rfl (by rw [List.size_toArray,Uaj,Hya.out];exact hvrl.there 0 32 (by rw [show (Xa).length=32 from rfl];decide)) (by rw [List.size_toArray,Uaj,Hya.out];exact Kb) (Ab _) (hK1 _ _ ?_);have hC2:=hvrl.setCells (cs:=ya.map Fa) (o:=0) (by rw [Uaj,Hya.out,show (Xa).length=32 from rfl];decide);rw [Xb _ _ (by rw [Uaj,Hya.out,show (Xa).length=32 from rfl])] at hC2;have hb12:But gr w11 (w11.setCells gr 0 (ya.map Fa)):=(But.refl _ _).setCells _ _;have hB12:Below w.heap.size w (w11.setCells gr 0 (ya.map Fa)):=hB11.trans (hb12.below hger hB11.size);change Ia (w11.setCells gr 0 (ya.map Fa)) gb (yb.map Fa) 22∧wpAnyH _ _ _ _ _ _ _ _ (w11.setCells gr 0 (ya.map Fa));have hvs12:=hvsl.but hb12 hnesr.out;have hvt12:=hvtl.but hb12 (Ne.symm hnert.out);have hva12:=hval.but hb12 (Ne.symm hnera.out);have hvb12:=hvbl.but hb12 (Ne.symm hnerb.out);have hvr12:=hC2;clear hC2 hb12 hK1 K1 hB11 hvrl hvsl hvtl hval hvbl;generalize w11.setCells gr 0 (ya.map Fa)=w12 at *;refine ⟨hvb12,?_⟩;refine wpAnyH_all (rs:=[3]) (by kernel_rfl) (by decide) fun i hi=>?_;obtain rfl:=List.mem_singleton.1 hi;clear hi;refine wpOp_step rfl fun K1 hK1=>?_;rw [if_pos (by rfl)];refine wp_store_mid 22 (.tmp 3) (.tmp 25) rfl gt 0 (yb.map Fa).toArray rfl rfl (by rw [List.size_toArray,Uaj,Hyb.out];exact hvt12.there 0 32 (by rw [show (Xa).length=32 from rfl];decide)) (by rw [List.size_toArray,Uaj,Hyb.out];exact Kb) (Ab _) (hK1 _ _ ?_);have hC2:=hvt12.setCells (cs:=yb.map Fa) (o:=0) (by rw [Uaj,Hyb.out,show (Xa).length=32 from rfl];decide);rw [Xb _ _ (by rw [Uaj,Hyb.out,show (Xa).length=32 from rfl])] at hC2;have hb13:But gt w12 (w12.setCells gt 0 (yb.map Fa)):=(But.refl _ _).setCells _ _;have hB13:Below w.heap.size w (w12.setCells gt 0 (yb.map Fa)):=hB12.trans (hb13.below hget hB12.size);change Ia (w12.setCells gt 0 (yb.map Fa)) gb (yb.map Fa) 22∧wpAnyH _ _ _ _ _ _ _ _ (w12.setCells gt 0 (yb.map Fa));have hvs13:=hvs12.but hb13 hnest.out;have hvr13:=hvr12.but hb13 hnert.out;have hva13:=hva12.but hb13 (Ne.symm hneta.out);have hvb13:=hvb12.but hb13 (Ne.symm hnetb.out);have hvt13:=hC2;clear hC2 hb13 hK1 K1 hB12 hvt12 hvs12 hvr12 hva12 hvb12;generalize w12.setCells gt 0 (yb.map Fa)=w13 at *;refine ⟨hvb13,?_⟩;refine wpAnyH_done (by kernel_rfl) ?_ _;show Exit.then K _ Exit.normal (⟨((Ca wd)::(.pointer (some ⟨w.heap.size,0,none⟩))::(.pointer (some ⟨gr,0,none⟩))::(.pointer (some ⟨gt,0,none⟩))::(.pointer (some ⟨ga,0,none⟩))::(.pointer (some ⟨gb,0,none⟩))::(.int .i64 32)::(Ca z)::(Ca z)::(.int .i64 32)::(.bool false)::(u11)::(u12)::(u13)::(u14)::(u15)::(u16)::(u17)::(u18)::(u19)::(u20)::(u21)::(u22)::(u23)::(Ca ya)::(Ca yb)::[]).toArray,[]⟩:Act) w13;simp only [Exit.then];refine hKK _ _ ?_;clear hKK K
   go_wp2
   exact OJ Tryz.results30 gr gt (ya.map Fa) (yb.map Fa) rfl rfl hvr13 hvt13 Tryz.underlying22 rfl Kb (by rw [Uaj,Hya.out]) Tryz.underlying22 rfl Kb (by rw [Uaj,Hyb.out]) rfl ⟨by rw [HYa.out,HYb.out];rfl,hB13⟩
theorem Z6 {α:Type} (l:List α) (z:α) (n j:Nat) (hn:l.length=n) (hj:j<n) (x:α) (hx:l[j]? =some x):(l.take j++List.replicate (n-j) z).set j x=l.take (j+1)++List.replicate (n-(j+1)) z:=by
 have hl:(l.take j).length=j:=by rw [zaj];omega
 rw [List.set_append_right _ _ (by omega),hl,Nat.sub_self,show n-j=(n-(j+1))+1 by omega,List.replicate_succ,List.set_cons_zero,List.take_add_one,hx];simp
theorem z6 {α:Type} (l:List α) (z:α) (n j:Nat) (hn:l.length=n):(l.take j++List.replicate (n-min j n) z).length=n:=by
 rw [qaj,zaj,List.length_replicate];omega
def Wi (l:List UInt8) (n j:Nat):List UInt8:=l.take j++List.replicate (n-min j n) 0
theorem Kj {l:List UInt8} {n:Nat} (hn:l.length=n) (j:Nat):(Wi l n j).length=n:=z6 l 0 n j hn
theorem Nt {l:List UInt8} {n j:Nat} (hn:l.length=n) (hj:j<n) {x:UInt8} (hx:l[j]? =some x):(Wi l n j).set j x=Wi l n (j+1):=by
 unfold Wi;rw [Nat.min_eq_left (by omega),Nat.min_eq_left (by omega)];exact Z6 l 0 n j hn hj x hx
theorem Oo (l:List UInt8) (n:Nat):Wi l n 0=List.replicate n 0:=by simp [Wi]
theorem Nr {l:List UInt8} {n:Nat} (hn:l.length=n):Wi l n n=l:=by simp [Wi,←hn]
theorem Az {l:List UInt8} {n j:Nat} (hn:l.length=n) (hj:j<n) {x:UInt8} (hx:l[j]? =some x):((Wi l n j).map Fa).set j (Fa x)=(Wi l n (j+1)).map Fa:=by
 rw [←List.map_set,Nt hn hj hx]
theorem Lv (wd:List UInt8) (w:World) (hwd:wd.length=64):Calls Tryz.prog 30 #[Ca wd] w (gvn (.tuple #[Ca (wd.take 32),Ca (wd.drop 32)]) w):=by
 have h1:(wd.take 32).length=32:=by rw [zaj];omega
 have h2:(wd.drop 32).length=32:=by rw [List.length_drop];omega
 have hz:(List.replicate 32 (0:UInt8)).length=32:=List.length_replicate;have hR:∀j:Nat,j<32→∃q u:UInt8,(wd.map Fa)[j]? =some (Fa q)∧(wd.map Fa)[32+j]? =some (Fa u)∧((Wi (wd.take 32) 32 j).map Fa).set j (Fa q)=(Wi (wd.take 32) 32 (j+1)).map Fa∧((Wi (wd.drop 32) 32 j).map Fa).set j (Fa u)=(Wi (wd.drop 32) 32 (j+1)).map Fa:=fun j hj=>by
  have g1:wd[j]? =some wd[j]:=xaj (by omega);have g2:wd[32+j]? =some wd[32+j]:=xaj (by omega);refine ⟨wd[j],wd[32+j],?_,?_,Az h1 hj ?_,Az h2 hj ?_⟩
  ·rw [List.getElem?_map,g1];rfl
  ·rw [List.getElem?_map,g2];rfl
  ·rw [List.getElem?_take_of_lt hj,g1]
  ·rw [List.getElem?_drop,g2]
 have h:=qE wd (List.replicate 32 0) (Wi (wd.take 32) 32) (Wi (wd.drop 32) 32) w (Lib.hid hz) (Lib.hid (Oo _ 32)) (Lib.hid (Oo _ 32))
  (Lib.hid fun j=>⟨Kj h1 j,Kj h2 j⟩) (Lib.hid hR) IG
 rw [Nr h1,Nr h2] at h;exact h
theorem Xe.sum {A:Option Addr} {n c:Nat} {text:List UInt8} {W:World} (h:Xe A n c text W) (hn:n≤900000):Calls Tryz.prog 50 #[.slice A n c] W (gvn (Ca (Ed text)) W):=
 Vq A c n text W h.1 h.2.2.2.2 h.2.2.2.1 hn
theorem Ia.bytes {W:World} {g:Nat} {l:List UInt8} {t:TypeId} (h:Ia W g (l.map Fa) t):Row W W.heap.size (some ⟨g,0,none⟩) l:=
 Ia.row (m:=l.length) h (by rw [Zaj (by rw [Uaj];exact Xaj _)])
theorem UD {A:Option Addr} {n c:Nat} {text:List UInt8} {w:World} (h:Xe A n c text w) (hn:n≤900000):Calls Tryz.prog 20 #[.slice A n c] w (gvn (Ca (Ob (Gd text) 32)) w):=
 TO A n c text (Ed text) (Ob (Gd text) 32) w (Lib.hid (Cd _)) (Lib.hid (Ta _ _)) (Lib.hid fun W hW=>hW.sum hn)
  (Lib.hid fun g W hC=>Qk (some ⟨g,0,none⟩) 64 64 (Ed text) W (Cd _) (by decide) hC.bytes) h
theorem Wo {A:Option Addr} {n c:Nat} {text:List UInt8} {w:World} (r p:List UInt8) (hr:r.length=32) (hp:p.length=32) (h:Xe A n c text w) (hn:n≤800000):
 Calls Tryz.prog 23 #[Ca r,Ca p,.slice A n c] w (gvn (Ca (Ob (Gd (r++p++text)) 32)) w):=
 Gx A n c text r p (Ob (Gd (r++p++text)) 32) w (Lib.hid hr) (Lib.hid hp) (Lib.hid (Ta _ _)) (Lib.hid (by show n≤900000;omega))
  (Lib.hid fun A' n' c' W hW=>UD hW (by have h1:=hW.1;have h2:=h.1;rw [qaj,qaj,hr,hp,h2] at h1;omega)) h
end Go.Proofs.YtoggkhjaghkpnaaGreatDoor
namespace Go.Proofs.YtoggkhjaghkpnaaGreatDoor
open Go.RowKit
theorem Qaa (ds es:List UInt8) (hd:ds.length=32) (he:es.length=32) (w:World):(binOp .eql 22 (Ca ds) (Ca es)).run Tryz.prog w=.ok (.bool (ds==es)) w:=
 run_eql_bytes (P:=Tryz.prog) w 22 5 32 Tryz.underlying22 Tryz.underlying5 (fun w=>by
  obtain ⟨i0,hi0,hs0⟩:=Option.map_eq_some_iff.1 Qc;simp [sizeOf,typeInfo,hi0,hs0]) ds es hd he
theorem Raa (ds es:List UInt8) (hd:ds.length=32) (he:es.length=32) (w:World):(binOp .neq 22 (Ca ds) (Ca es)).run Tryz.prog w=.ok (.bool (!(ds==es))) w:=by
 have h:=run_equalIn_bytes (P:=Tryz.prog) w 9998 22 5 32 Tryz.underlying22 Tryz.underlying5 (fun w=>by
  obtain ⟨i0,hi0,hs0⟩:=Option.map_eq_some_iff.1 Qc;simp [sizeOf,typeInfo,hi0,hs0]) ds es hd he
 have h2:=run_neq_struct (P:=Tryz.prog) w 22 (ds.map Fa).toArray (es.map Fa).toArray;unfold Ca;rw [h2];have h3:(Op.equalIn 10000 22 (.agg (ds.map Fa).toArray) (.agg (es.map Fa).toArray)).run Tryz.prog w=.ok (ds==es) w:=h;rw [h3];rfl
theorem Yae (g:Bool) (w:World):(binOp .neq 3 (.int .i64 (bif g then 0 else 4)) (.int .i64 0)).run Tryz.prog w=.ok (.bool (!g)) w:=by cases g<;>kernel_rfl
theorem q6 (hs:List UInt8) (hl:hs.length=32):(Ob (lev hs%NP.LL) 32==hs)=decide (lev hs<NP.LL):=by
 have h1:lev (Ob (lev hs%NP.LL) 32)=lev hs%NP.LL:=Bf _ (Nat.mod_lt _ Iq);rw [Bool.eq_iff_iff,beq_iff_eq,decide_eq_true_iff];constructor
 ·intro h;rw [h] at h1;rw [h1];exact Nat.mod_lt _ Iq
 ·intro h;exact Dn _ _ (by rw [hl,Ta]) (by rw [h1,yaj h])
theorem RK {A:Option Addr} {n c:Nat} {text:List UInt8} {w:World} (pub sig:List UInt8) (hp:pub.length=32) (hs:sig.length=64) (h:Xe A n c text w) (hn:n≤800000):
 Calls Tryz.prog 11 #[Ca pub,Ca sig,.slice A n c] w (gvn (.bool (Fn pub sig text)) w):=by
 have l1:(sig.take 32).length=32:=by rw [zaj];omega
 have l2:(sig.drop 32).length=32:=by rw [List.length_drop];omega
 have l3:lev (Ob (Gd (sig.take 32++pub++text)) 32)=Gd (sig.take 32++pub++text):=Bf _ (Cv _);have lt:qd (Rf pub):=by
  cases hg:Uc pub with
  |true=>
   obtain ⟨p,h1,_⟩:=Jr pub hp hg;rw [h1];exact (NP.Pt.own p).lt
  |false=>
   rw [Rf,hg];exact ⟨by show 0<pp;decide,by show 0<pp;decide,by show 0<pp;decide⟩
 have key:∀bb:List UInt8,bb.length=32→(∀W,Calls Tryz.prog 33 #[Da (Pd (Te (Ld (Ob (Gd (sig.take 32++pub++text)) 32)) (Ld (sig.drop 32)) (qu (Rf pub)) Ic (Oe (qu (Rf pub)) Ic) 256))] W (gvn (Ca bb) W))→
  Calls Tryz.prog 11 #[Ca pub,Ca sig,.slice A n c] w (gvn (.bool (!(!Uc pub)&& !(!(Ob (lev (sig.drop 32)%NP.LL) 32==sig.drop 32))&&(bb==sig.take 32))) w):=fun bb hbb hB=>
  zE A n c text pub sig (sig.take 32) (sig.drop 32) (Ob (lev (sig.drop 32)%NP.LL) 32) (Ob (Gd (sig.take 32++pub++text)) 32) bb (Pd (Rf pub)) (Pd (qu (Rf pub))) (Pd (Te (Ld (Ob (Gd (sig.take 32++pub++text)) 32)) (Ld (sig.drop 32)) (qu (Rf pub)) Ic (Oe (qu (Rf pub)) Ic) 256))
   (bif Uc pub then 0 else 4) (!Uc pub) (!(Ob (lev (sig.drop 32)%NP.LL) 32==sig.drop 32)) (bb==sig.take 32) w (Lib.hid hp) (Lib.hid l1) (Lib.hid l2) (Lib.hid (Ta _ _)) (Lib.hid hs) (Lib.hid rfl)
   (Lib.hid fun W=>Lv sig W hs) (Lib.hid fun W=>XS pub W hp) (Lib.hid fun g W hC=>Qk (some ⟨g,0,none⟩) 32 32 (sig.drop 32) W l2 (by decide) hC.bytes)
   (Lib.hid fun W hW=>Wo (sig.take 32) pub l1 hp hW hn) (Lib.hid fun W=>EY (Rf pub) W lt) (Lib.hid fun W=>TS (qu (Rf pub)) _ _ W (Ta _ _) l2 (S9 lt)) (Lib.hid hB)
   (Lib.hid (Yae _)) (Lib.hid (Raa _ _ (Ta _ _) l2)) (Lib.hid (Qaa _ _ hbb l1)) h
 rw [q6 _ l2] at key;cases hg:Uc pub with
 |true=>
  have r:NP.RepN (Cx pub) (Rf pub):=by rw [(zJ pub hp hg).1];exact NP.Pt.own _
  have q:=NP.withT_key (NP.negT_rep r) (Ob (Gd (sig.take 32++pub++text)) 32) (sig.drop 32) (Ta _ _) l2;rw [l3] at q;have k:=key _ (Hf _) fun W=>DD q W;rw [hg] at k;rw [show Fn pub sig text=(!(!true)&& !(!decide (lev (sig.drop 32)<NP.LL))&&(Qd (NP.edw.add (NP.edw.mul (Cx pub).neg (Gd (sig.take 32++pub++text))) (NP.edw.mul NP.bE (lev (sig.drop 32))))==sig.take 32)) by
   rw [Fn,hg];simp]
  exact k
 |false=>
  have k:=key _ (Dl _ _) fun W=>My _ W (AO _ _ _ _ _ 256);rw [hg] at k;rw [show Fn pub sig text=false by rw [Fn,hg];simp];exact k
end Go.Proofs.YtoggkhjaghkpnaaGreatDoor

