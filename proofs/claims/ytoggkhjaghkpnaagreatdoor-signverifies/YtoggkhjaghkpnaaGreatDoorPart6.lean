/- Part 6 of what the laws of this seat share: FNarrow, FProduct, FProd2, FElem. -/
import Derived.Deep.QuietTactic
import Derived.BigQuiet
import Derived.Test.YtoggkhjaghkpnaaGreatDoorPart5
set_option maxRecDepth 100000
set_option maxHeartbeats 8000000
namespace Go.Proofs.YtoggkhjaghkpnaaGreatDoor
open Go.RowKit
theorem Vag (h:Nat) (hh:h<2251799813685248):IntKind.u64.wrap ((h:Int)*8192)=((h*8192:Nat):Int):=by
 rw [IntKind.wrap_u64];omega
theorem qai (h l:Nat) (hh:h<2251799813685248) (hl:l<18446744073709551616):bits .or .u64 (((h*8192:Nat)):Int) ((l/2251799813685248:Nat):Int)=((h*8192+l/2251799813685248:Nat):Int):=by
 rw [u64_or_nat _ _ (by omega) (by omega),nat_join 13 _ _ (by omega) (by omega)]
theorem UQ (h l n o:Nat) (w:World) (H1:bits .and .u64 (l:Int) 2251799813685247=(n:Int)) (H2:bits .or .u64 (IntKind.u64.wrap ((h:Int)*8192)) ((l:Int)/2251799813685248)=(o:Int)):
 Calls Tryz.prog 140 #[Aa [h,l]] w fun r w'=>r=.returned (.tuple #[Ga n,Ga o])∧Below w.heap.size w w':=by
 go_enter Tryz.func140,Tryz.ntmps140;go_wp2_with (first
  |(refine Ra rfl 169 (.tmp 0) rfl ([h,l].map Ga) rfl ?_
    intro w1 hB1 hA1;have d0:=hA1.get (v:=Ga h) (j:=0) rfl;have d1:=hA1.get (v:=Ga l) (j:=1) rfl;clear hA1))
 go_quiet (fail)
 go_wp2
 go_ret2
 exact ⟨rfl,⟨hB1.os,hB1.tape,hB1.output,hB1.size,hB1.block⟩⟩
theorem Wm (v:Nat) (w:World) (hv:v<41538374868278621028243970633760768):
 Calls Tryz.prog 140 #[Po v] w fun r w'=>r=.returned (.tuple #[Ga (v%2251799813685248),Ga (v/2251799813685248)])∧Below w.heap.size w w':=by
 have e1:=Wx (v%18446744073709551616) (Nat.mod_lt _ (by decide));have e2:=qai (v/18446744073709551616) (v%18446744073709551616) (by omega) (Nat.mod_lt _ (by decide));have e3:=Vag (v/18446744073709551616) (by omega);rw [show v%18446744073709551616%2251799813685248=v%2251799813685248 by omega] at e1;rw [show v/18446744073709551616*8192+v%18446744073709551616/2251799813685248=v/2251799813685248 by omega] at e2;refine UQ _ _ _ _ w e1 ?_;rw [e3];exact e2
theorem ML (v0 v1 v2 v3 v4:List Nat) (n0 n1 n2 n3 n4 o0 o1 o2 o3 o4 r0 r1 r2 r3 r4:Nat) (w:World) (L0:Hid (v0.length=2)) (L1:Hid (v1.length=2)) (L2:Hid (v2.length=2)) (L3:Hid (v3.length=2)) (L4:Hid (v4.length=2))
 (M:IntKind.u64.wrap (19*(o4:Int))=19*(o4:Int)) (M0:IntKind.u64.wrap ((n0:Int)+19*(o4:Int))=(r0:Int)) (M1:IntKind.u64.wrap ((n1:Int)+(o0:Int))=(r1:Int)) (M2:IntKind.u64.wrap ((n2:Int)+(o1:Int))=(r2:Int)) (M3:IntKind.u64.wrap ((n3:Int)+(o2:Int))=(r3:Int)) (M4:IntKind.u64.wrap ((n4:Int)+(o3:Int))=(r4:Int))
 (C0:Hid (∀W,Calls Tryz.prog 140 #[Aa v0] W fun r w'=>r=.returned (.tuple #[Ga n0,Ga o0])∧Below W.heap.size W w'))
 (C1:Hid (∀W,Calls Tryz.prog 140 #[Aa v1] W fun r w'=>r=.returned (.tuple #[Ga n1,Ga o1])∧Below W.heap.size W w'))
 (C2:Hid (∀W,Calls Tryz.prog 140 #[Aa v2] W fun r w'=>r=.returned (.tuple #[Ga n2,Ga o2])∧Below W.heap.size W w'))
 (C3:Hid (∀W,Calls Tryz.prog 140 #[Aa v3] W fun r w'=>r=.returned (.tuple #[Ga n3,Ga o3])∧Below W.heap.size W w'))
 (C4:Hid (∀W,Calls Tryz.prog 140 #[Aa v4] W fun r w'=>r=.returned (.tuple #[Ga n4,Ga o4])∧Below W.heap.size W w')):
 Calls Tryz.prog 134 #[Aa v0,Aa v1,Aa v2,Aa v3,Aa v4] w fun r w'=>r=.returned (Aa [r0,r1,r2,r3,r4])∧Below w.heap.size w w':=by
 go_enter Tryz.func134,Tryz.ntmps134;go_wp2_with (first
  |(refine Ra rfl 169 (.tmp 0) rfl (v0.map Ga) rfl ?_
    intro w1 hB1 hV0;try simp only [La]
    skip)
  |(refine Ra rfl 169 (.tmp 1) rfl (v1.map Ga) rfl ?_
    intro w2 hb2 hV1;have hB2:=Ba hB1 hb2;replace hV0:=hV0.on hb2;clear hB1 hb2;try simp only [La]
    skip)
  |(refine Ra rfl 169 (.tmp 2) rfl (v2.map Ga) rfl ?_
    intro w3 hb2 hV2;have hB3:=Ba hB2 hb2;replace hV0:=hV0.on hb2;replace hV1:=hV1.on hb2;clear hB2 hb2;try simp only [La]
    skip)
  |(refine Ra rfl 169 (.tmp 3) rfl (v3.map Ga) rfl ?_
    intro w4 hb2 hV3;have hB4:=Ba hB3 hb2;replace hV0:=hV0.on hb2;replace hV1:=hV1.on hb2;replace hV2:=hV2.on hb2;clear hB3 hb2;try simp only [La]
    skip)
  |(refine Ra rfl 169 (.tmp 4) rfl (v4.map Ga) rfl ?_
    intro w5 hb2 hV4;have hB5:=Ba hB4 hb2;replace hV0:=hV0.on hb2;replace hV1:=hV1.on hb2;replace hV2:=hV2.on hb2;replace hV3:=hV3.on hb2;clear hB4 hb2;try simp only [La]
    skip)
  |(refine Ma rfl 51 rfl (Na 5) Bj ?_
    intro w6 hb2 hZ6;have hB6:=Ba hB5 hb2;have hle:=hB5.size;replace hV0:=hV0.on hb2;replace hV1:=hV1.on hb2;replace hV2:=hV2.on hb2;replace hV3:=hV3.on hb2;replace hV4:=hV4.on hb2;clear hB5 hb2;try simp only [La]
    skip)
  |(refine Pa rfl 169 (.tmp 5) rfl w.heap.size 2 (v0.map Ga) rfl hV0 Tryz.underlying169 rfl Cj (by rw [Uaj,L0.out]) ?_
    clear hV0))
 generalize w5.heap.size=gz at *;refine (C0.out w6).mono ?_;rintro r w7 ⟨rfl,hb2⟩;have hB7:=Ba hB6 hb2;replace hV1:=hV1.on hb2;replace hV2:=hV2.on hb2;replace hV3:=hV3.on hb2;replace hV4:=hV4.on hb2;replace hZ6:=hZ6.on hb2;clear C0 hB6 hb2;go_wp2_with (first
  |(refine Pa rfl 169 (.tmp 6) rfl w1.heap.size 2 (v1.map Ga) rfl hV1 Tryz.underlying169 rfl Cj (by rw [Uaj,L1.out]) ?_
    clear hV1))
 refine (C1.out w7).mono ?_;rintro r w8 ⟨rfl,hb2⟩;have hB8:=Ba hB7 hb2;replace hV2:=hV2.on hb2;replace hV3:=hV3.on hb2;replace hV4:=hV4.on hb2;replace hZ6:=hZ6.on hb2;clear C1 hB7 hb2;go_wp2_with (first
  |(refine Pa rfl 169 (.tmp 7) rfl w2.heap.size 2 (v2.map Ga) rfl hV2 Tryz.underlying169 rfl Cj (by rw [Uaj,L2.out]) ?_
    clear hV2))
 refine (C2.out w8).mono ?_;rintro r w9 ⟨rfl,hb2⟩;have hB9:=Ba hB8 hb2;replace hV3:=hV3.on hb2;replace hV4:=hV4.on hb2;replace hZ6:=hZ6.on hb2;clear C2 hB8 hb2;go_wp2_with (first
  |(refine Pa rfl 169 (.tmp 8) rfl w3.heap.size 2 (v3.map Ga) rfl hV3 Tryz.underlying169 rfl Cj (by rw [Uaj,L3.out]) ?_
    clear hV3))
 refine (C3.out w9).mono ?_;rintro r w10 ⟨rfl,hb2⟩;have hB10:=Ba hB9 hb2;replace hV4:=hV4.on hb2;replace hZ6:=hZ6.on hb2;clear C3 hB9 hb2;go_wp2_with (first
  |(refine Pa rfl 169 (.tmp 9) rfl w4.heap.size 2 (v4.map Ga) rfl hV4 Tryz.underlying169 rfl Cj (by rw [Uaj,L4.out]) ?_
    clear hV4))
 refine (C4.out w10).mono ?_;rintro r w11 ⟨rfl,hb2⟩;have hB11:=Ba hB10 hb2;replace hZ6:=hZ6.on hb2;clear C4 hB10 hb2;go_wp2_with (first
  |(refine Eb rfl 51 _ rfl [(0,Ga r0),(1,Ga r1),(2,Ga r2),(3,Ga r3),(4,Ga r4)] rfl _ (XF _ _ _ _ _) ?_)
  |(refine Ka rfl 51 _ _ rfl gz 5 (Na 5) ([r0,r1,r2,r3,r4].map Ga) rfl rfl hZ6 rfl Sc rfl (Oa _) ?_
    intro w12 hb12 hC12 _))
 refine QW Tryz.results134 gz ([r0,r1,r2,r3,r4].map Ga) rfl hC12 Tryz.underlying51 Sc rfl rfl ⟨rfl,hB11.trans (hb12.below hle hB11.size)⟩
theorem VQ (v0 v1 v2 v3 v4:Nat) (w:World) (h0:v0<649037107316853453566312041152512) (h1:v1<649037107316853453566312041152512) (h2:v2<649037107316853453566312041152512) (h3:v3<649037107316853453566312041152512) (h4:v4<162259276829213363391578010288128):
 Calls Tryz.prog 134 #[Po v0,Po v1,Po v2,Po v3,Po v4] w fun r w'=>r=.returned (Aa [v0%2251799813685248+19*(v4/2251799813685248),v1%2251799813685248+v0/2251799813685248,v2%2251799813685248+v1/2251799813685248,v3%2251799813685248+v2/2251799813685248,v4%2251799813685248+v3/2251799813685248])∧Below w.heap.size w w':=by
 have M:=Cu 19 (v4/2251799813685248) (by omega);have M0:=Si (v0%2251799813685248) (19*(v4/2251799813685248)) (by omega);have M1:=Si (v1%2251799813685248) (v0/2251799813685248) (by omega);have M2:=Si (v2%2251799813685248) (v1/2251799813685248) (by omega);have M3:=Si (v3%2251799813685248) (v2/2251799813685248) (by omega);have M4:=Si (v4%2251799813685248) (v3/2251799813685248) (by omega);exact ML _ _ _ _ _ _ _ _ _ _ _ _ _ _ _ _ _ _ _ _ w rfl rfl rfl rfl rfl M M0 M1 M2 M3 M4 (fun W=>Wm v0 W (by omega)) (fun W=>Wm v1 W (by omega)) (fun W=>Wm v2 W (by omega)) (fun W=>Wm v3 W (by omega)) (fun W=>Wm v4 W (by omega))
def N1 (A B R:Value) (ga gb gr:Nat) (x y c:Nat→Nat) (Z:Nat→Nat→Value):List Value:=
 A::B::.pointer (some ⟨ga,0,none⟩)::.pointer (some ⟨gb,0,none⟩)::.pointer (some ⟨gr,0,none⟩)::Ga (c 1)::Ga (c 2)::Ga (c 3)::Ga (c 4)::.pointer (some ⟨gb,1,none⟩)::Ga (y 1)::Ga (c 1)::.pointer (some ⟨gb,2,none⟩)::Ga (y 2)::Ga (c 2)::.pointer (some ⟨gb,3,none⟩)::Ga (y 3)::Ga (c 3)::.pointer (some ⟨gb,4,none⟩)::Ga (y 4)::Ga (c 4)::Z 0 0::.pointer (some ⟨ga,0,none⟩)::Ga (x 0)::.pointer (some ⟨gb,0,none⟩)::Ga (y 0)::Z 0 1::.pointer (some ⟨ga,1,none⟩)::Ga (x 1)::Ga (c 4)::Z 0 2::.pointer (some ⟨ga,2,none⟩)::Ga (x 2)::Ga (c 3)::Z 0 3::.pointer (some ⟨ga,3,none⟩)::Ga (x 3)::Ga (c 2)::Z 0 4::.pointer (some ⟨ga,4,none⟩)::Ga (x 4)::Ga (c 1)::Z 0 5::Z 1 0::.pointer (some ⟨ga,0,none⟩)::Ga (x 0)::.pointer (some ⟨gb,1,none⟩)::Ga (y 1)::Z 1 1::.pointer (some ⟨ga,1,none⟩)::Ga (x 1)::.pointer (some ⟨gb,0,none⟩)::Ga (y 0)::Z 1 2::.pointer (some ⟨ga,2,none⟩)::Ga (x 2)::Ga (c 4)::Z 1 3::.pointer (some ⟨ga,3,none⟩)::Ga (x 3)::Ga (c 3)::Z 1 4::.pointer (some ⟨ga,4,none⟩)::Ga (x 4)::Ga (c 2)::Z 1 5::Z 2 0::.pointer (some ⟨ga,0,none⟩)::Ga (x 0)::.pointer (some ⟨gb,2,none⟩)::Ga (y 2)::Z 2 1::.pointer (some ⟨ga,1,none⟩)::Ga (x 1)::.pointer (some ⟨gb,1,none⟩)::Ga (y 1)::Z 2 2::.pointer (some ⟨ga,2,none⟩)::Ga (x 2)::.pointer (some ⟨gb,0,none⟩)::Ga (y 0)::Z 2 3::.pointer (some ⟨ga,3,none⟩)::Ga (x 3)::Ga (c 4)::Z 2 4::.pointer (some ⟨ga,4,none⟩)::Ga (x 4)::Ga (c 3)::Z 2 5::Z 3 0::.pointer (some ⟨ga,0,none⟩)::Ga (x 0)::.pointer (some ⟨gb,3,none⟩)::Ga (y 3)::Z 3 1::.pointer (some ⟨ga,1,none⟩)::Ga (x 1)::.pointer (some ⟨gb,2,none⟩)::Ga (y 2)::Z 3 2::.pointer (some ⟨ga,2,none⟩)::Ga (x 2)::.pointer (some ⟨gb,1,none⟩)::Ga (y 1)::Z 3 3::.pointer (some ⟨ga,3,none⟩)::Ga (x 3)::.pointer (some ⟨gb,0,none⟩)::Ga (y 0)::Z 3 4::.pointer (some ⟨ga,4,none⟩)::Ga (x 4)::Ga (c 4)::Z 3 5::Z 4 0::.pointer (some ⟨ga,0,none⟩)::Ga (x 0)::.pointer (some ⟨gb,4,none⟩)::Ga (y 4)::Z 4 1::.pointer (some ⟨ga,1,none⟩)::Ga (x 1)::.pointer (some ⟨gb,3,none⟩)::Ga (y 3)::Z 4 2::.pointer (some ⟨ga,2,none⟩)::Ga (x 2)::.pointer (some ⟨gb,2,none⟩)::Ga (y 2)::Z 4 3::.pointer (some ⟨ga,3,none⟩)::Ga (x 3)::.pointer (some ⟨gb,1,none⟩)::Ga (y 1)::Z 4 4::.pointer (some ⟨ga,4,none⟩)::Ga (x 4)::.pointer (some ⟨gb,0,none⟩)::Ga (y 0)::Z 4 5::R::[]
def EI (A B _R:Value) (ga gb gr:Nat) (_x y c:Nat→Nat) (_Z:Nat→Nat→Value):List Value:=
 A::B::.pointer (some ⟨ga,0,none⟩)::.pointer (some ⟨gb,0,none⟩)::.pointer (some ⟨gr,0,none⟩)::Ga (c 1)::Ga (c 2)::Ga (c 3)::Ga (c 4)::.pointer (some ⟨gb,1,none⟩)::Ga (y 1)::Ga (c 1)::.pointer (some ⟨gb,2,none⟩)::Ga (y 2)::Ga (c 2)::.pointer (some ⟨gb,3,none⟩)::Ga (y 3)::Ga (c 3)::.pointer (some ⟨gb,4,none⟩)::Ga (y 4)::Ga (c 4)::ud 121 []
theorem xF {w:World} {g j v:Nat} (h:w.cell? ⟨g,j,none⟩=some (Ga v)):(Instr.loadAt 49 (.pointer (some ⟨g,j,none⟩))).run Tryz.prog w=.ok (Ga v) w:=by
 go_simp
theorem ZW (v u:Nat) (h:IntKind.u64.wrap (19*(v:Int))=(u:Int)) (w:World):(binOp .mul 49 (.int .u64 19) (Ga v)).run Tryz.prog w=.ok (Ga u) w:=by
 rw [Ga,Ga,←h]
 kernel_rfl
theorem FI (a b r:List Nat) (x y c:Nat→Nat) (Z:Nat→Nat→Value) (w:World) (Ha:Hid (a= [x 0,x 1,x 2,x 3,x 4])) (Hb:Hid (b= [y 0,y 1,y 2,y 3,y 4])) (Hr:Hid (r.length=5))
 (MC:∀w k,(binOp .mul 49 (.int .u64 19) (Ga (y k))).run Tryz.prog w=.ok (Ga (c k)) w) (Z0:∀i w,(Instr.build 169 #[]).run Tryz.prog w=.ok (Z i 0) w)
 (HC:∀i j,i<5→j<5→∀W,Calls Tryz.prog 135 #[Z i j,Ga (x j),Ga (if j≤i then y (i-j) else c (5+i-j))] W (gvn (Z i (j+1)) W))
 (CN:∀W,Calls Tryz.prog 134 #[Z 0 5,Z 1 5,Z 2 5,Z 3 5,Z 4 5] W (gvn (Aa r) W)):
 Calls Tryz.prog 111 #[Aa a,Aa b] w (gvn (Aa r) w):=by
 go_enter Tryz.func111,Tryz.ntmps111;go_wp2_with (first
  |(refine Ra rfl 51 (.tmp 0) rfl (a.map Ga) rfl ?_
    intro w1 hB1 hA1)
  |(refine Ra rfl 51 (.tmp 1) rfl (b.map Ga) rfl ?_
    intro w2 hb2 hC2;have hB2:=Ba hB1 hb2;have hA2:=hA1.on hb2;have hg1:=hA1.lt;clear hB1 hA1 hb2)
  |(refine Ma rfl 51 rfl (Na 5) Bj ?_
    intro w3 hb3 hZ3;have hB3:=Ba hB2 hb3;have hA3:=hA2.on hb3;have hC3:=hC2.on hb3;have hg2:=hC2.lt;clear hB2 hA2 hC2 hb3))
 generalize hg:w1.heap.size=gb at *;generalize hh:w2.heap.size=gr at *;generalize hz:w.heap.size=ga at *;clear hg hh;have LA:∀W,Below w3.drew.heap.size w3.drew W→∀k,k<5→(Instr.loadAt 49 (.pointer (some ⟨ga,k,none⟩))).run Tryz.prog W=.ok (Ga (x k)) W:=by
  intro W hb k hk;refine xF ((hA3.drew.on hb).get ?_);rw [Ha.out]
  match k,hk with
  |0,_=>rfl
  |1,_=>rfl
  |2,_=>rfl
  |3,_=>rfl
  |4,_=>rfl
 have LB:∀W,Below w3.drew.heap.size w3.drew W→∀k,k<5→(Instr.loadAt 49 (.pointer (some ⟨gb,k,none⟩))).run Tryz.prog W=.ok (Ga (y k)) W:=by
  intro W hb k hk;refine xF ((hC3.drew.on hb).get ?_);rw [Hb.out]
  match k,hk with
  |0,_=>rfl
  |1,_=>rfl
  |2,_=>rfl
  |3,_=>rfl
  |4,_=>rfl
 refine wp_region_any (by kernel_rfl) ?_;refine Dd (L:=[0,1,2,3,4,5,6,7,8,9,10,11,12,13,14,15]) (by kernel_rfl) _ _ (EI (Aa a) (Aa b) (Aa r) ga gb gr x y c Z) [0,1,2,3,4,21,22,23,24,25,26,27,28,29,30,31,32,33,34,35,36,37,38,39,40,41,42,43,44,45,46,47,48,49,50,51,52,53,54,55,56,57,58,59,60,61,62,63,64,65,66,67,68,69,70,71,72,73,74,75,76,77,78,79,80,81,82,83,84,85,86,87,88,89,90,91,92,93,94,95,96,97,98,99,100,101,102,103,104,105,106,107,108,109,110,111,112,113,114,115,116,117,118,119,120,121,122,123,124,125,126,127,128,129,130,131,132,133,134,135,136,137,138,139,140,141] (by kernel_rfl) ?_ (by rfl) ?_ 0 (by kernel_rfl) ?_
 ·repeat refine Aak rfl ?_
  exact Qa
 ·change ∀i∈_,Le _ _ _ _ _ w3.drew _ i;refine Aak (sI 9 rfl fun w=>by kernel_rfl) ?_;refine Aak (sL 10 rfl fun w hb=>LB w hb 1 (by decide)) ?_;refine Aak (Pc _ 11 rfl rfl rfl (by kernel_rfl) (by kernel_rfl) fun a w hb hv=>Ff _ _ _ _ _ _ _ rfl _ _ _ rfl (hv 10 (by kernel_rfl)) w (by kernel_rfl) (MC w 1)) ?_;refine Aak (sI 12 rfl fun w=>by kernel_rfl) ?_;refine Aak (sL 13 rfl fun w hb=>LB w hb 2 (by decide)) ?_;refine Aak (Pc _ 14 rfl rfl rfl (by kernel_rfl) (by kernel_rfl) fun a w hb hv=>Ff _ _ _ _ _ _ _ rfl _ _ _ rfl (hv 13 (by kernel_rfl)) w (by kernel_rfl) (MC w 2)) ?_;refine Aak (sI 15 rfl fun w=>by kernel_rfl) ?_;refine Aak (sL 16 rfl fun w hb=>LB w hb 3 (by decide)) ?_;refine Aak (Pc _ 17 rfl rfl rfl (by kernel_rfl) (by kernel_rfl) fun a w hb hv=>Ff _ _ _ _ _ _ _ rfl _ _ _ rfl (hv 16 (by kernel_rfl)) w (by kernel_rfl) (MC w 3)) ?_;refine Aak (sI 18 rfl fun w=>by kernel_rfl) ?_;refine Aak (sL 19 rfl fun w hb=>LB w hb 4 (by decide)) ?_;refine Aak (Pc _ 20 rfl rfl rfl (by kernel_rfl) (by kernel_rfl) fun a w hb hv=>Ff _ _ _ _ _ _ _ rfl _ _ _ rfl (hv 19 (by kernel_rfl)) w (by kernel_rfl) (MC w 4)) ?_;refine Aak (Pc _ 5 rfl rfl rfl (by kernel_rfl) (by kernel_rfl) fun a w hb hv=>Lb _ _ _ (.inr rfl) _ (hv 11 (by kernel_rfl)) w) ?_;refine Aak (Pc _ 6 rfl rfl rfl (by kernel_rfl) (by kernel_rfl) fun a w hb hv=>Lb _ _ _ (.inr rfl) _ (hv 14 (by kernel_rfl)) w) ?_;refine Aak (Pc _ 7 rfl rfl rfl (by kernel_rfl) (by kernel_rfl) fun a w hb hv=>Lb _ _ _ (.inr rfl) _ (hv 17 (by kernel_rfl)) w) ?_;refine Aak (Pc _ 8 rfl rfl rfl (by kernel_rfl) (by kernel_rfl) fun a w hb hv=>Lb _ _ _ (.inr rfl) _ (hv 20 (by kernel_rfl)) w) ?_;exact Qa
 ·intro w4 hb4;have hB4:Below ga w w4:=(show Below ga w w3.drew from hB3.drew).trans (Below.mono hb4 (by rw [←hz];exact hB3.size));have hZ4:Ia w4 gr (Na 5) 51:=hZ3.drew.on hb4;replace LA:∀W,Below w4.drew.heap.size w4.drew W→∀k,k<5→(Instr.loadAt 49 (.pointer (some ⟨ga,k,none⟩))).run Tryz.prog W=.ok (Ga (x k)) W:=fun W hb k hk=>LA W (hb4.trans (Below.mono (show Below w4.heap.size w4 W from ⟨hb.os,hb.tape,hb.output,hb.size,hb.block⟩) hb4.size)) k hk;replace LB:∀W,Below w4.drew.heap.size w4.drew W→∀k,k<5→(Instr.loadAt 49 (.pointer (some ⟨gb,k,none⟩))).run Tryz.prog W=.ok (Ga (y k)) W:=fun W hb k hk=>LB W (hb4.trans (Below.mono (show Below w4.heap.size w4 W from ⟨hb.os,hb.tape,hb.output,hb.size,hb.block⟩) hb4.size)) k hk;clear hb4 hB3 hA3 hC3 hZ3;refine ⟨by kernel_rfl,?_⟩;show Exit.then _ _ Exit.normal ⟨(EI (Aa a) (Aa b) (Aa r) ga gb gr x y c Z).toArray,[]⟩ w4;generalize hF:(⟨(EI (Aa a) (Aa b) (Aa r) ga gb gr x y c Z).toArray,[]⟩:Act)=F;simp only [Exit.then];rename_i K hKK;refine hKK _ _ ?_;refine wp_seq_k fun K2 hK2=>?_;refine wp_region_any (by kernel_rfl) ?_;subst hF;refine Dd (L:=[0,1,2,3,4,5,6,7,8,9,10,11,12,13,14,15,16,17,18,19,20,21,22,23,24,25,26,27,28,29,30,31,32,33,34,35,36,37,38,39,40,41,42,43,44,45,46,47,48,49,50,51,52,53,54,55,56,57,58,59,60,61,62,63,64,65,66,67,68,69,70,71,72,73,74,75,76,77,78,79,80,81,82,83,84,85,86,87,88,89,90,91,92,93,94,95,96,97,98,99,100,101,102,103,104,105,106,107,108,109,110,111,112,113,114,115,116,117,118,119,120]) (by kernel_rfl) _ _ (N1 (Aa a) (Aa b) (Aa r) ga gb gr x y c Z) [0,1,2,3,4,5,6,7,8,9,10,11,12,13,14,15,16,17,18,19,20] (by kernel_rfl) ?_ (by rfl) ?_ 1 (by kernel_rfl) ?_
  ·repeat refine Aak rfl ?_
   exact Qa
  ·change ∀i∈_,Le _ _ _ _ _ w4.drew _ i;refine Aak (Pc _ 21 rfl rfl rfl (by kernel_rfl) (by kernel_rfl) fun a w hb hv=>Vd _ _ _ [] rfl [] rfl _ w (Z0 0 w)) ?_;refine Aak (sI 22 rfl fun w=>by kernel_rfl) ?_;refine Aak (sL 23 rfl fun w hb=>LA w hb 0 (by decide)) ?_;refine Aak (sI 24 rfl fun w=>by kernel_rfl) ?_;refine Aak (sL 25 rfl fun w hb=>LB w hb 0 (by decide)) ?_;refine Aak (sC 26 rfl Tryz.func135 fun w hb=>HC 0 0 (by decide) (by decide) w) ?_;refine Aak (sI 27 rfl fun w=>by kernel_rfl) ?_;refine Aak (sL 28 rfl fun w hb=>LA w hb 1 (by decide)) ?_;refine Aak (Pc _ 29 rfl rfl rfl (by kernel_rfl) (by kernel_rfl) fun a w hb hv=>Lb _ _ _ (.inl rfl) _ (hv 8 (by kernel_rfl)) w) ?_;refine Aak (sC 30 rfl Tryz.func135 fun w hb=>HC 0 1 (by decide) (by decide) w) ?_;refine Aak (sI 31 rfl fun w=>by kernel_rfl) ?_;refine Aak (sL 32 rfl fun w hb=>LA w hb 2 (by decide)) ?_;refine Aak (Pc _ 33 rfl rfl rfl (by kernel_rfl) (by kernel_rfl) fun a w hb hv=>Lb _ _ _ (.inl rfl) _ (hv 7 (by kernel_rfl)) w) ?_;refine Aak (sC 34 rfl Tryz.func135 fun w hb=>HC 0 2 (by decide) (by decide) w) ?_;refine Aak (sI 35 rfl fun w=>by kernel_rfl) ?_;refine Aak (sL 36 rfl fun w hb=>LA w hb 3 (by decide)) ?_;refine Aak (Pc _ 37 rfl rfl rfl (by kernel_rfl) (by kernel_rfl) fun a w hb hv=>Lb _ _ _ (.inl rfl) _ (hv 6 (by kernel_rfl)) w) ?_;refine Aak (sC 38 rfl Tryz.func135 fun w hb=>HC 0 3 (by decide) (by decide) w) ?_;refine Aak (sI 39 rfl fun w=>by kernel_rfl) ?_;refine Aak (sL 40 rfl fun w hb=>LA w hb 4 (by decide)) ?_;refine Aak (Pc _ 41 rfl rfl rfl (by kernel_rfl) (by kernel_rfl) fun a w hb hv=>Lb _ _ _ (.inl rfl) _ (hv 5 (by kernel_rfl)) w) ?_;refine Aak (sC 42 rfl Tryz.func135 fun w hb=>HC 0 4 (by decide) (by decide) w) ?_;refine Aak (Pc _ 43 rfl rfl rfl (by kernel_rfl) (by kernel_rfl) fun a w hb hv=>Vd _ _ _ [] rfl [] rfl _ w (Z0 1 w)) ?_;refine Aak (sI 44 rfl fun w=>by kernel_rfl) ?_;refine Aak (sL 45 rfl fun w hb=>LA w hb 0 (by decide)) ?_;refine Aak (sI 46 rfl fun w=>by kernel_rfl) ?_;refine Aak (sL 47 rfl fun w hb=>LB w hb 1 (by decide)) ?_;refine Aak (sC 48 rfl Tryz.func135 fun w hb=>HC 1 0 (by decide) (by decide) w) ?_;refine Aak (sI 49 rfl fun w=>by kernel_rfl) ?_;refine Aak (sL 50 rfl fun w hb=>LA w hb 1 (by decide)) ?_;refine Aak (sI 51 rfl fun w=>by kernel_rfl) ?_;refine Aak (sL 52 rfl fun w hb=>LB w hb 0 (by decide)) ?_;refine Aak (sC 53 rfl Tryz.func135 fun w hb=>HC 1 1 (by decide) (by decide) w) ?_;refine Aak (sI 54 rfl fun w=>by kernel_rfl) ?_;refine Aak (sL 55 rfl fun w hb=>LA w hb 2 (by decide)) ?_;refine Aak (Pc _ 56 rfl rfl rfl (by kernel_rfl) (by kernel_rfl) fun a w hb hv=>Lb _ _ _ (.inl rfl) _ (hv 8 (by kernel_rfl)) w) ?_;refine Aak (sC 57 rfl Tryz.func135 fun w hb=>HC 1 2 (by decide) (by decide) w) ?_;refine Aak (sI 58 rfl fun w=>by kernel_rfl) ?_;refine Aak (sL 59 rfl fun w hb=>LA w hb 3 (by decide)) ?_;refine Aak (Pc _ 60 rfl rfl rfl (by kernel_rfl) (by kernel_rfl) fun a w hb hv=>Lb _ _ _ (.inl rfl) _ (hv 7 (by kernel_rfl)) w) ?_;refine Aak (sC 61 rfl Tryz.func135 fun w hb=>HC 1 3 (by decide) (by decide) w) ?_;refine Aak (sI 62 rfl fun w=>by kernel_rfl) ?_;refine Aak (sL 63 rfl fun w hb=>LA w hb 4 (by decide)) ?_;refine Aak (Pc _ 64 rfl rfl rfl (by kernel_rfl) (by kernel_rfl) fun a w hb hv=>Lb _ _ _ (.inl rfl) _ (hv 6 (by kernel_rfl)) w) ?_;refine Aak (sC 65 rfl Tryz.func135 fun w hb=>HC 1 4 (by decide) (by decide) w) ?_;refine Aak (Pc _ 66 rfl rfl rfl (by kernel_rfl) (by kernel_rfl) fun a w hb hv=>Vd _ _ _ [] rfl [] rfl _ w (Z0 2 w)) ?_;refine Aak (sI 67 rfl fun w=>by kernel_rfl) ?_;refine Aak (sL 68 rfl fun w hb=>LA w hb 0 (by decide)) ?_;refine Aak (sI 69 rfl fun w=>by kernel_rfl) ?_;refine Aak (sL 70 rfl fun w hb=>LB w hb 2 (by decide)) ?_;refine Aak (sC 71 rfl Tryz.func135 fun w hb=>HC 2 0 (by decide) (by decide) w) ?_;refine Aak (sI 72 rfl fun w=>by kernel_rfl) ?_;refine Aak (sL 73 rfl fun w hb=>LA w hb 1 (by decide)) ?_;refine Aak (sI 74 rfl fun w=>by kernel_rfl) ?_;refine Aak (sL 75 rfl fun w hb=>LB w hb 1 (by decide)) ?_;refine Aak (sC 76 rfl Tryz.func135 fun w hb=>HC 2 1 (by decide) (by decide) w) ?_;refine Aak (sI 77 rfl fun w=>by kernel_rfl) ?_;refine Aak (sL 78 rfl fun w hb=>LA w hb 2 (by decide)) ?_;refine Aak (sI 79 rfl fun w=>by kernel_rfl) ?_;refine Aak (sL 80 rfl fun w hb=>LB w hb 0 (by decide)) ?_;refine Aak (sC 81 rfl Tryz.func135 fun w hb=>HC 2 2 (by decide) (by decide) w) ?_;refine Aak (sI 82 rfl fun w=>by kernel_rfl) ?_;refine Aak (sL 83 rfl fun w hb=>LA w hb 3 (by decide)) ?_;refine Aak (Pc _ 84 rfl rfl rfl (by kernel_rfl) (by kernel_rfl) fun a w hb hv=>Lb _ _ _ (.inl rfl) _ (hv 8 (by kernel_rfl)) w) ?_;refine Aak (sC 85 rfl Tryz.func135 fun w hb=>HC 2 3 (by decide) (by decide) w) ?_;refine Aak (sI 86 rfl fun w=>by kernel_rfl) ?_;refine Aak (sL 87 rfl fun w hb=>LA w hb 4 (by decide)) ?_;refine Aak (Pc _ 88 rfl rfl rfl (by kernel_rfl) (by kernel_rfl) fun a w hb hv=>Lb _ _ _ (.inl rfl) _ (hv 7 (by kernel_rfl)) w) ?_;refine Aak (sC 89 rfl Tryz.func135 fun w hb=>HC 2 4 (by decide) (by decide) w) ?_;refine Aak (Pc _ 90 rfl rfl rfl (by kernel_rfl) (by kernel_rfl) fun a w hb hv=>Vd _ _ _ [] rfl [] rfl _ w (Z0 3 w)) ?_;refine Aak (sI 91 rfl fun w=>by kernel_rfl) ?_;refine Aak (sL 92 rfl fun w hb=>LA w hb 0 (by decide)) ?_;refine Aak (sI 93 rfl fun w=>by kernel_rfl) ?_;refine Aak (sL 94 rfl fun w hb=>LB w hb 3 (by decide)) ?_;refine Aak (sC 95 rfl Tryz.func135 fun w hb=>HC 3 0 (by decide) (by decide) w) ?_;refine Aak (sI 96 rfl fun w=>by kernel_rfl) ?_;refine Aak (sL 97 rfl fun w hb=>LA w hb 1 (by decide)) ?_;refine Aak (sI 98 rfl fun w=>by kernel_rfl) ?_;refine Aak (sL 99 rfl fun w hb=>LB w hb 2 (by decide)) ?_;refine Aak (sC 100 rfl Tryz.func135 fun w hb=>HC 3 1 (by decide) (by decide) w) ?_;refine Aak (sI 101 rfl fun w=>by kernel_rfl) ?_;refine Aak (sL 102 rfl fun w hb=>LA w hb 2 (by decide)) ?_;refine Aak (sI 103 rfl fun w=>by kernel_rfl) ?_;refine Aak (sL 104 rfl fun w hb=>LB w hb 1 (by decide)) ?_;refine Aak (sC 105 rfl Tryz.func135 fun w hb=>HC 3 2 (by decide) (by decide) w) ?_;refine Aak (sI 106 rfl fun w=>by kernel_rfl) ?_;refine Aak (sL 107 rfl fun w hb=>LA w hb 3 (by decide)) ?_;refine Aak (sI 108 rfl fun w=>by kernel_rfl) ?_;refine Aak (sL 109 rfl fun w hb=>LB w hb 0 (by decide)) ?_;refine Aak (sC 110 rfl Tryz.func135 fun w hb=>HC 3 3 (by decide) (by decide) w) ?_;refine Aak (sI 111 rfl fun w=>by kernel_rfl) ?_;refine Aak (sL 112 rfl fun w hb=>LA w hb 4 (by decide)) ?_;refine Aak (Pc _ 113 rfl rfl rfl (by kernel_rfl) (by kernel_rfl) fun a w hb hv=>Lb _ _ _ (.inl rfl) _ (hv 8 (by kernel_rfl)) w) ?_;refine Aak (sC 114 rfl Tryz.func135 fun w hb=>HC 3 4 (by decide) (by decide) w) ?_;refine Aak (Pc _ 115 rfl rfl rfl (by kernel_rfl) (by kernel_rfl) fun a w hb hv=>Vd _ _ _ [] rfl [] rfl _ w (Z0 4 w)) ?_;refine Aak (sI 116 rfl fun w=>by kernel_rfl) ?_;refine Aak (sL 117 rfl fun w hb=>LA w hb 0 (by decide)) ?_;refine Aak (sI 118 rfl fun w=>by kernel_rfl) ?_;refine Aak (sL 119 rfl fun w hb=>LB w hb 4 (by decide)) ?_;refine Aak (sC 120 rfl Tryz.func135 fun w hb=>HC 4 0 (by decide) (by decide) w) ?_;refine Aak (sI 121 rfl fun w=>by kernel_rfl) ?_;refine Aak (sL 122 rfl fun w hb=>LA w hb 1 (by decide)) ?_;refine Aak (sI 123 rfl fun w=>by kernel_rfl) ?_;refine Aak (sL 124 rfl fun w hb=>LB w hb 3 (by decide)) ?_;refine Aak (sC 125 rfl Tryz.func135 fun w hb=>HC 4 1 (by decide) (by decide) w) ?_;refine Aak (sI 126 rfl fun w=>by kernel_rfl) ?_;refine Aak (sL 127 rfl fun w hb=>LA w hb 2 (by decide)) ?_;refine Aak (sI 128 rfl fun w=>by kernel_rfl) ?_;refine Aak (sL 129 rfl fun w hb=>LB w hb 2 (by decide)) ?_;refine Aak (sC 130 rfl Tryz.func135 fun w hb=>HC 4 2 (by decide) (by decide) w) ?_;refine Aak (sI 131 rfl fun w=>by kernel_rfl) ?_;refine Aak (sL 132 rfl fun w hb=>LA w hb 3 (by decide)) ?_;refine Aak (sI 133 rfl fun w=>by kernel_rfl) ?_;refine Aak (sL 134 rfl fun w hb=>LB w hb 1 (by decide)) ?_;refine Aak (sC 135 rfl Tryz.func135 fun w hb=>HC 4 3 (by decide) (by decide) w) ?_;refine Aak (sI 136 rfl fun w=>by kernel_rfl) ?_;refine Aak (sL 137 rfl fun w hb=>LA w hb 4 (by decide)) ?_;refine Aak (sI 138 rfl fun w=>by kernel_rfl) ?_;refine Aak (sL 139 rfl fun w hb=>LB w hb 0 (by decide)) ?_;refine Aak (sC 140 rfl Tryz.func135 fun w hb=>HC 4 4 (by decide) (by decide) w) ?_;refine Aak (sC 141 rfl Tryz.func134 fun w hb=>CN w) ?_;exact Qa
  ·intro w5 hb5;have hB5:Below ga w w5:=(show Below ga w w4.drew from hB4.drew).trans (Below.mono hb5 (by rw [←hz] at hB4 ⊢;exact hB4.size));have hZ5:Ia w5 gr (Na 5) 51:=hZ4.drew.on hb5;clear hb5 hB4 hZ4 LA LB MC Z0 HC CN;refine Bb 121 rfl (by kernel_rfl) ?_;refine Ka rfl 51 (.tmp 4) (.tmp 141) rfl gr 5 (Na 5) (r.map Ga) rfl rfl hZ5 rfl Sc (by rw [Uaj,Hr.out]) (Oa r) ?_;intro w7 hb7 hC7 hz7;generalize hF:(⟨(N1 (Aa a) (Aa b) (Aa r) ga gb gr x y c Z).toArray,[]⟩:Act)=F;show Exit.then K2 _ Exit.normal (F.put none undef) w7;simp only [Exit.then];refine hK2 _ _ ?_;refine wp_ret ?_;subst hF;refine QW Tryz.results111 gr (r.map Ga) rfl hC7 Tryz.underlying51 Sc (by rw [Uaj,Hr.out]) rfl ⟨rfl,by rw [hz];exact hB5.trans (hb7.below (by omega) (by have :=hZ5.lt;omega))⟩
def NL (y:Nat→Nat) (i j:Nat):Nat:=if j≤i then y (i-j) else 19*y (5+i-j)
def Vi (x y:Nat→Nat) (i:Nat):Nat→Nat
 |0=>0
 |j+1=>Vi x y i j+x j*NL y i j
theorem OL {y:Nat→Nat} (hy:∀k,y k<2251799813685248) (i j:Nat):NL y i j≤42784196460019693:=by
 have h1:=hy (i-j);have h2:=hy (5+i-j);unfold NL
 split<;>omega
theorem yF {x y:Nat→Nat} (hx:∀k,x k<2251799813685248) (hy:∀k,y k<2251799813685248) (i j:Nat):x j*NL y i j≤2251799813685247*42784196460019693:=Nat.mul_le_mul (by have :=hx j;omega) (OL hy i j)
theorem qA {x y:Nat→Nat} (hx:∀k,x k<2251799813685248) (hy:∀k,y k<2251799813685248) (i:Nat):∀j,Vi x y i j≤j*(2251799813685247*42784196460019693)
 |0=>Nat.zero_le _
 |j+1=>by
  have h1:=qA hx hy i j;have h2:=yF hx hy i j;rw [Vi,Nat.add_mul j 1];omega
theorem WQ {x y:Nat→Nat} (hx:∀k,x k<2251799813685248) (hy:∀k,y k<2251799813685248):Vi x y 4 5<162259276829213363391578010288128:=by
 have h:∀k l,x k*y l≤2251799813685247*2251799813685247:=fun k l=>Nat.mul_le_mul (by have :=hx k;omega) (by have :=hy l;omega);have e:Vi x y 4 5=0+x 0*y 4+x 1*y 3+x 2*y 2+x 3*y 1+x 4*y 0:=rfl;rw [e];have h0:=h 0 4;have h1:=h 1 3;have h2:=h 2 2;have h3:=h 3 1;have h4:=h 4 0;omega
theorem xW (m x0 x1 x2 x3 x4 y0 y1 y2 y3 y4:Int):(x0+m*(x1+m*(x2+m*(x3+m*x4))))*(y0+m*(y1+m*(y2+m*(y3+m*y4))))=
 (x0*y0+x1*(19*y4)+x2*(19*y3)+x3*(19*y2)+x4*(19*y1))+m*((x0*y1+x1*y0+x2*(19*y4)+x3*(19*y3)+x4*(19*y2))+m*((x0*y2+x1*y1+x2*y0+x3*(19*y4)+x4*(19*y3))+m*((x0*y3+x1*y2+x2*y1+x3*y0+x4*(19*y4))+m*(x0*y4+x1*y3+x2*y2+x3*y1+x4*y0))))+
 (m*m*m*m*m-19)*((x1*y4+x2*y3+x3*y2+x4*y1)+m*((x2*y4+x3*y3+x4*y2)+m*((x3*y4+x4*y3)+m*(x4*y4)))):=by grind
theorem XQ (v0 v1 v2 v3 v4:Nat):yg (v0%2251799813685248+19*(v4/2251799813685248)) (v1%2251799813685248+v0/2251799813685248) (v2%2251799813685248+v1/2251799813685248) (v3%2251799813685248+v2/2251799813685248) (v4%2251799813685248+v3/2251799813685248)+pp*(v4/2251799813685248)=yg v0 v1 v2 v3 v4:=by
 simp only [yg,pp];omega
theorem O1 (x y:Nat→Nat):yg (Vi x y 0 5) (Vi x y 1 5) (Vi x y 2 5) (Vi x y 3 5) (Vi x y 4 5)%pp=yg (x 0) (x 1) (x 2) (x 3) (x 4)*yg (y 0) (y 1) (y 2) (y 3) (y 4)%pp:=by
 have e0:Vi x y 0 5=0+x 0*y 0+x 1*(19*y 4)+x 2*(19*y 3)+x 3*(19*y 2)+x 4*(19*y 1):=rfl;have e1:Vi x y 1 5=0+x 0*y 1+x 1*y 0+x 2*(19*y 4)+x 3*(19*y 3)+x 4*(19*y 2):=rfl;have e2:Vi x y 2 5=0+x 0*y 2+x 1*y 1+x 2*y 0+x 3*(19*y 4)+x 4*(19*y 3):=rfl;have e3:Vi x y 3 5=0+x 0*y 3+x 1*y 2+x 2*y 1+x 3*y 0+x 4*(19*y 4):=rfl;have e4:Vi x y 4 5=0+x 0*y 4+x 1*y 3+x 2*y 2+x 3*y 1+x 4*y 0:=rfl;rw [NP.cg,e0,e1,e2,e3,e4];generalize x 0=x0;generalize x 1=x1;generalize x 2=x2;generalize x 3=x3;generalize x 4=x4;generalize y 0=y0;generalize y 1=y1;generalize y 2=y2;generalize y 3=y3;generalize y 4=y4;have h:=xW 2251799813685248 x0 x1 x2 x3 x4 y0 y1 y2 y3 y4;refine ⟨-((x1*y4+x2*y3+x3*y2+x4*y1)+2251799813685248*((x2*y4+x3*y3+x4*y2)+2251799813685248*((x3*y4+x4*y3)+2251799813685248*(x4*y4)))),?_⟩;simp only [yg,Int.natCast_mul,Int.natCast_add,Int.natCast_zero,Int.zero_add];rw [show ((2251799813685248:Nat):Int)=2251799813685248 from rfl,show ((19:Nat):Int)=19 from rfl,h];generalize ((x1:Int)*y4+x2*y3+x3*y2+x4*y1)+2251799813685248*((x2*y4+x3*y3+x4*y2)+2251799813685248*((x3*y4+x4*y3)+2251799813685248*(x4*y4)))=W;rw [show (2251799813685248:Int)*2251799813685248*2251799813685248*2251799813685248*2251799813685248-19=57896044618658097711785492504343953926634992332820282019728792003956564819949 from by decide,show ((pp:Nat):Int)=57896044618658097711785492504343953926634992332820282019728792003956564819949 from rfl];omega
structure xac (x y:Nat→Nat) (a b c d e:Nat):Prop where
 low:a<2305843009213693952∧b<2305843009213693952∧c<2305843009213693952∧d<2305843009213693952∧e<1152921504606846976
 val:yg a b c d e%pp=yg (x 0) (x 1) (x 2) (x 3) (x 4)*yg (y 0) (y 1) (y 2) (y 3) (y 4)%pp
theorem PL (x y:Nat→Nat) (hx:∀k,x k<2251799813685248) (hy:∀k,y k<2251799813685248):
 ∃a b c d e,xac x y a b c d e∧∀w,Calls Tryz.prog 111 #[Aa [x 0,x 1,x 2,x 3,x 4],Aa [y 0,y 1,y 2,y 3,y 4]] w fun r w'=>r=.returned (Aa [a,b,c,d,e])∧Below w.heap.size w w':=by
 have hS:=fun i=>qA hx hy i 5;have hL:=WQ hx hy;refine ⟨_,_,_,_,_,⟨?_,?_⟩,fun w=>FI _ _ _ x y (fun k=>19*y k) (fun i j=>Po (Vi x y i j)) w rfl rfl rfl (fun w k=>ZW _ _ ?_ w) (fun i w=>IL w) (fun i j hi hj W=>?_) (fun W=>VQ _ _ _ _ _ W ?_ ?_ ?_ ?_ hL)⟩
 ·have h0:=hS 0;have h1:=hS 1;have h2:=hS 2;have h3:=hS 3;refine ⟨?_,?_,?_,?_,?_⟩<;>omega
 ·rw [←O1]
  conv=>rhs;rw [←XQ,Nat.add_mul_mod_self_left]
 ·exact Cu 19 (y k) (by have :=hy k;omega)
 ·have h1:=qA hx hy i j;have h2:=yF hx hy i j;have h3:Vi x y i j≤5*(2251799813685247*42784196460019693):=Nat.le_trans h1 (Nat.mul_le_mul_right _ (by omega));exact YW (Vi x y i j) (x j) (NL y i j) W (by have :=hx j;omega) (by have :=OL hy i j;omega) (by omega)
 all_goals
  have h0:=hS 0;have h1:=hS 1;have h2:=hS 2;have h3:=hS 3;omega
theorem yW (a b s r:List Nat) (w:World) (HA:Hid (a.length=5)) (HB:Hid (b.length=5)) (HR:Hid (r.length=5))
 (CP:Hid (∀W,Calls Tryz.prog 127 #[Aa a,Aa b] W (gvn (Aa s) W))) (CL:Hid (∀W,Calls Tryz.prog 103 #[Aa s] W (gvn (Aa r) W)))
 (BE:∀w,(Instr.build 53 #[(0,Aa r)]).run Tryz.prog w=.ok (Aa r) w):
 Calls Tryz.prog 101 #[Aa a,Aa b] w (gvn (Aa r) w):=by
 go_enter Tryz.func101,Tryz.ntmps101;go_wp2_with (first
  |(refine Ra rfl 53 (.tmp 0) rfl (a.map Ga) rfl ?_
    intro w1 hB1 hA1;try simp only [La]
    skip)
  |(refine Ra rfl 53 (.tmp 1) rfl (b.map Ga) rfl ?_
    intro w2 hb2 hC2;have hB2:=Ba hB1 hb2;have hA2:=hA1.on hb2;clear hB1 hA1 hb2;try simp only [La]
    skip)
  |(refine Ma rfl 53 rfl (Na 5) Fb ?_
    intro w3 hb3 hZ3;have hB3:=Ba hB2 hb3;have hA3:=hA2.on hb3;have hC3:=hC2.on hb3;have hle:=hB2.size;clear hB2 hA2 hC2 hb3;try simp only [La]
    skip)
  |(refine Pa rfl 51 (.tmp 5) rfl w.heap.size 5 (a.map Ga) rfl hA3 Tryz.underlying51 rfl Sc (by rw [Uaj,HA.out]) ?_
    clear hA3;try simp only [La]
    skip)
  |(refine Pa rfl 51 (.tmp 7) rfl w1.heap.size 5 (b.map Ga) rfl hC3 Tryz.underlying51 rfl Sc (by rw [Uaj,HB.out]) ?_
    clear hC3;try simp only [La]
    skip))
 generalize w2.heap.size=gz at *;refine (CP.out w3).mono ?_;rintro e w4 ⟨rfl,hb4⟩;have hB4:=Ba hB3 hb4;have hZ4:=hZ3.on hb4;clear CP hB3 hZ3 hb4;go_wp2_with fail
 refine (CL.out w4).mono ?_;rintro e w5 ⟨rfl,hb5⟩;have hB5:=Ba hB4 hb5;have hZ5:=hZ4.on hb5;clear CL hB4 hZ4 hb5;go_wp2_with (first
  |(refine Eb rfl 53 _ rfl [(0,Aa r)] rfl _ BE ?_)
  |(refine Ka rfl 53 _ _ rfl gz 5 (Na 5) (r.map Ga) rfl rfl hZ5 rfl Sa (by rw [Uaj,HR.out]) (Oa _) ?_
    intro w6 hb6 hC6 _))
 refine qc Tryz.results101 gz (r.map Ga) rfl hC6 Tryz.underlying53 rfl Sa (by rw [Uaj,HR.out]) rfl ⟨rfl,hB5.trans (hb6.below hle hB5.size)⟩
theorem zW (a b s r:List Nat) (w:World) (HA:Hid (a.length=5)) (HB:Hid (b.length=5)) (HR:Hid (r.length=5))
 (CP:Hid (∀W,Calls Tryz.prog 104 #[Aa a,Aa b] W (gvn (Aa s) W))) (CL:Hid (∀W,Calls Tryz.prog 103 #[Aa s] W (gvn (Aa r) W)))
 (BE:∀w,(Instr.build 53 #[(0,Aa r)]).run Tryz.prog w=.ok (Aa r) w):
 Calls Tryz.prog 59 #[Aa a,Aa b] w (gvn (Aa r) w):=by
 go_enter Tryz.func59,Tryz.ntmps59;go_wp2_with (first
  |(refine Ra rfl 53 (.tmp 0) rfl (a.map Ga) rfl ?_
    intro w1 hB1 hA1;try simp only [La]
    skip)
  |(refine Ra rfl 53 (.tmp 1) rfl (b.map Ga) rfl ?_
    intro w2 hb2 hC2;have hB2:=Ba hB1 hb2;have hA2:=hA1.on hb2;clear hB1 hA1 hb2;try simp only [La]
    skip)
  |(refine Ma rfl 53 rfl (Na 5) Fb ?_
    intro w3 hb3 hZ3;have hB3:=Ba hB2 hb3;have hA3:=hA2.on hb3;have hC3:=hC2.on hb3;have hle:=hB2.size;clear hB2 hA2 hC2 hb3;try simp only [La]
    skip)
  |(refine Pa rfl 51 (.tmp 5) rfl w.heap.size 5 (a.map Ga) rfl hA3 Tryz.underlying51 rfl Sc (by rw [Uaj,HA.out]) ?_
    clear hA3;try simp only [La]
    skip)
  |(refine Pa rfl 51 (.tmp 7) rfl w1.heap.size 5 (b.map Ga) rfl hC3 Tryz.underlying51 rfl Sc (by rw [Uaj,HB.out]) ?_
    clear hC3;try simp only [La]
    skip))
 generalize w2.heap.size=gz at *;refine (CP.out w3).mono ?_;rintro e w4 ⟨rfl,hb4⟩;have hB4:=Ba hB3 hb4;have hZ4:=hZ3.on hb4;clear CP hB3 hZ3 hb4;go_wp2_with fail
 refine (CL.out w4).mono ?_;rintro e w5 ⟨rfl,hb5⟩;have hB5:=Ba hB4 hb5;have hZ5:=hZ4.on hb5;clear CL hB4 hZ4 hb5;go_wp2_with (first
  |(refine Eb rfl 53 _ rfl [(0,Aa r)] rfl _ BE ?_)
  |(refine Ka rfl 53 _ _ rfl gz 5 (Na 5) (r.map Ga) rfl rfl hZ5 rfl Sa (by rw [Uaj,HR.out]) (Oa _) ?_
    intro w6 hb6 hC6 _))
 refine qc Tryz.results59 gz (r.map Ga) rfl hC6 Tryz.underlying53 rfl Sa (by rw [Uaj,HR.out]) rfl ⟨rfl,hB5.trans (hb6.below hle hB5.size)⟩
theorem QL (a b s r:List Nat) (w:World) (HA:Hid (a.length=5)) (HB:Hid (b.length=5)) (HR:Hid (r.length=5))
 (CP:Hid (∀W,Calls Tryz.prog 111 #[Aa a,Aa b] W (gvn (Aa s) W))) (CL:Hid (∀W,Calls Tryz.prog 103 #[Aa s] W (gvn (Aa r) W)))
 (BE:∀w,(Instr.build 53 #[(0,Aa r)]).run Tryz.prog w=.ok (Aa r) w):
 Calls Tryz.prog 63 #[Aa a,Aa b] w (gvn (Aa r) w):=by
 go_enter Tryz.func63,Tryz.ntmps63;go_wp2_with (first
  |(refine Ra rfl 53 (.tmp 0) rfl (a.map Ga) rfl ?_
    intro w1 hB1 hA1;try simp only [La]
    skip)
  |(refine Ra rfl 53 (.tmp 1) rfl (b.map Ga) rfl ?_
    intro w2 hb2 hC2;have hB2:=Ba hB1 hb2;have hA2:=hA1.on hb2;clear hB1 hA1 hb2;try simp only [La]
    skip)
  |(refine Ma rfl 53 rfl (Na 5) Fb ?_
    intro w3 hb3 hZ3;have hB3:=Ba hB2 hb3;have hA3:=hA2.on hb3;have hC3:=hC2.on hb3;have hle:=hB2.size;clear hB2 hA2 hC2 hb3;try simp only [La]
    skip)
  |(refine Pa rfl 51 (.tmp 5) rfl w.heap.size 5 (a.map Ga) rfl hA3 Tryz.underlying51 rfl Sc (by rw [Uaj,HA.out]) ?_
    clear hA3;try simp only [La]
    skip)
  |(refine Pa rfl 51 (.tmp 7) rfl w1.heap.size 5 (b.map Ga) rfl hC3 Tryz.underlying51 rfl Sc (by rw [Uaj,HB.out]) ?_
    clear hC3;try simp only [La]
    skip))
 generalize w2.heap.size=gz at *;refine (CP.out w3).mono ?_;rintro e w4 ⟨rfl,hb4⟩;have hB4:=Ba hB3 hb4;have hZ4:=hZ3.on hb4;clear CP hB3 hZ3 hb4;go_wp2_with fail
 refine (CL.out w4).mono ?_;rintro e w5 ⟨rfl,hb5⟩;have hB5:=Ba hB4 hb5;have hZ5:=hZ4.on hb5;clear CL hB4 hZ4 hb5;go_wp2_with (first
  |(refine Eb rfl 53 _ rfl [(0,Aa r)] rfl _ BE ?_)
  |(refine Ka rfl 53 _ _ rfl gz 5 (Na 5) (r.map Ga) rfl rfl hZ5 rfl Sa (by rw [Uaj,HR.out]) (Oa _) ?_
    intro w6 hb6 hC6 _))
 refine qc Tryz.results63 gz (r.map Ga) rfl hC6 Tryz.underlying53 rfl Sa (by rw [Uaj,HR.out]) rfl ⟨rfl,hB5.trans (hb6.below hle hB5.size)⟩
def lx (n k:Nat):Nat:=(Va n).getD k 0
theorem Qo (n k:Nat):lx n k<2251799813685248:=by
 match k with
 |0=>exact Nat.mod_lt _ (by decide)
 |1=>exact Nat.mod_lt _ (by decide)
 |2=>exact Nat.mod_lt _ (by decide)
 |3=>exact Nat.mod_lt _ (by decide)
 |4=>exact Nat.mod_lt _ (by decide)
 |k+5=>show 0<_;decide
theorem Sl (n:Nat) (h:n<pp):yg (lx n 0) (lx n 1) (lx n 2) (lx n 3) (lx n 4)=n:=Qs n (by simp only [pp] at h;omega)
theorem yq (r:List Nat) (h:r.length=5) (w:World):(Instr.build 53 #[(0,Aa r)]).run Tryz.prog w=.ok (Aa r) w:=by
 obtain ⟨a,b,c,d,e,rfl⟩:=Ve r h;exact zA a b c d e w
theorem P1 (n m:Nat) (w:World) (hn:n<pp) (hm:m<pp):Calls Tryz.prog 101 #[elV n,elV m] w (gvn (elV ((n+m)%pp)) w):=by
 have e1:=Sl n hn;have e2:=Sl m hm;have hx:=Qo n;have hy:=Qo m;refine yW (Va n) (Va m) [lx n 0+lx m 0,lx n 1+lx m 1,lx n 2+lx m 2,lx n 3+lx m 3,lx n 4+lx m 4] (Va ((n+m)%pp)) w rfl rfl rfl (fun W=>?_) (fun W=>?_) (fun w=>yq _ rfl w)
 ·have h:=UW (Va n) (Va m) W rfl rfl;have e:TF (Va n) (Va m)= [Yb (lx n 0) (lx m 0),Yb (lx n 1) (lx m 1),Yb (lx n 2) (lx m 2),Yb (lx n 3) (lx m 3),Yb (lx n 4) (lx m 4)]:=rfl;rw [e,Wd _ _ (by have :=hx 0;have :=hy 0;omega),Wd _ _ (by have :=hx 1;have :=hy 1;omega),Wd _ _ (by have :=hx 2;have :=hy 2;omega),Wd _ _ (by have :=hx 3;have :=hy 3;omega),Wd _ _ (by have :=hx 4;have :=hy 4;omega)] at h;exact h
 ·refine xq _ _ _ _ _ _ W (by have :=hx 0;have :=hy 0;omega) (by have :=hx 1;have :=hy 1;omega) (by have :=hx 2;have :=hy 2;omega) (by have :=hx 3;have :=hy 3;omega) (by have :=hx 4;have :=hy 4;omega) ?_;rw [yg] at e1 e2 ⊢;omega
theorem AB (n m:Nat) (w:World) (hn:n<pp) (hm:m<pp):Calls Tryz.prog 59 #[elV n,elV m] w (gvn (elV ((n+(pp-m))%pp)) w):=by
 have e1:=Sl n hn;have e2:=Sl m hm;have hx:=Qo n;have hy:=Qo m;refine zW (Va n) (Va m) [lx n 0+(4503599627370458-lx m 0),lx n 1+(4503599627370494-lx m 1),lx n 2+(4503599627370494-lx m 2),lx n 3+(4503599627370494-lx m 3),lx n 4+(4503599627370494-lx m 4)] (Va ((n+(pp-m))%pp)) w rfl rfl rfl (fun W=>?_) (fun W=>?_) (fun w=>yq _ rfl w)
 ·exact QQ (lx n 0) (lx n 1) (lx n 2) (lx n 3) (lx n 4) (lx m 0) (lx m 1) (lx m 2) (lx m 3) (lx m 4) W ⟨hx 0,hx 1,hx 2,hx 3,hx 4⟩ ⟨hy 0,hy 1,hy 2,hy 3,hy 4⟩
 ·have e:(n+(pp-m))%pp=(n+(2*pp-m))%pp:=by rw [show n+(2*pp-m)=(n+(pp-m))+pp by simp only [pp] at hm ⊢;omega,Nat.add_mod_right]
  rw [e];have x0:=hx 0;have x1:=hx 1;have x2:=hx 2;have x3:=hx 3;have x4:=hx 4;have y0:=hy 0;have y1:=hy 1;have y2:=hy 2;have y3:=hy 3;have y4:=hy 4;refine xq _ _ _ _ _ _ W (by omega) (by omega) (by omega) (by omega) (by omega) ?_;rw [yg] at e1 e2 ⊢;simp only [pp] at hm ⊢;omega
theorem zk (n m:Nat) (w:World) (hn:n<pp) (hm:m<pp):Calls Tryz.prog 63 #[elV n,elV m] w (gvn (elV (n*m%pp)) w):=by
 obtain ⟨a,b,c,d,e,hP,hC⟩:=PL (lx n) (lx m) (Qo n) (Qo m);refine QL (Va n) (Va m) [a,b,c,d,e] (Va (n*m%pp)) w rfl rfl rfl hC (fun W=>?_) (fun w=>yq _ rfl w);have h:=xq a b c d e _ W hP.low.1 hP.low.2.1 hP.low.2.2.1 hP.low.2.2.2.1 hP.low.2.2.2.2 rfl;rw [hP.val,Sl n hn,Sl m hm] at h;exact h
theorem GI (a r:List Nat) (w:World) (HA:Hid (a.length=5)) (HR:Hid (r.length=5)) (CT:Hid (∀W,Calls Tryz.prog 63 #[Aa a,Aa a] W (gvn (Aa r) W))):
 Calls Tryz.prog 99 #[Aa a] w (gvn (Aa r) w):=by
 go_enter Tryz.func99,Tryz.ntmps99;go_wp2_with (first
  |(refine Ra rfl 53 (.tmp 0) rfl (a.map Ga) rfl ?_
    intro w1 hB1 hA1;try simp only [La]
    skip)
  |(refine Ma rfl 53 rfl (Na 5) Fb ?_
    intro w3 hb3 hZ3;have hB3:=Ba hB1 hb3;have hA3:=hA1.on hb3;have hle:=hB1.size;clear hB1 hA1 hb3;try simp only [La]
    skip)
  |(refine Pa rfl 53 (.tmp 1) rfl w.heap.size 5 (a.map Ga) rfl hA3 Tryz.underlying53 rfl Sa (by rw [Uaj,HA.out]) ?_
    try simp only [La]
    skip))
 generalize w1.heap.size=gz at *;refine (CT.out w3).mono ?_;rintro e w4 ⟨rfl,hb4⟩;have hB4:=Ba hB3 hb4;have hZ4:=hZ3.on hb4;clear CT hB3 hZ3 hb4;go_wp2_with (first
  |(refine Ka rfl 53 _ _ rfl gz 5 (Na 5) (r.map Ga) rfl rfl hZ4 rfl Sa (by rw [Uaj,HR.out]) (Oa _) ?_
    intro w6 hb6 hC6 _))
 refine qc Tryz.results99 gz (r.map Ga) rfl hC6 Tryz.underlying53 rfl Sa (by rw [Uaj,HR.out]) rfl ⟨rfl,hB4.trans (hb6.below hle hB4.size)⟩
theorem Uj (n:Nat) (w:World) (hn:n<pp):Calls Tryz.prog 99 #[elV n] w (gvn (elV (n*n%pp)) w):=
 GI (Va n) (Va (n*n%pp)) w rfl rfl fun W=>zk n n W hn hn
end Go.Proofs.YtoggkhjaghkpnaaGreatDoor
