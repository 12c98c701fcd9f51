/- Part 12 of what the laws of this seat share: TScalar, JBit, TTold, NCurve, NAssoc, NGroup, NEdw, NPoints. -/
import Derived.Deep.Cut
import Derived.Test.YtoggkhjaghkpnaaGreatDoorPart11
set_option maxRecDepth 100000
set_option maxHeartbeats 8000000
namespace Go.Proofs.YtoggkhjaghkpnaaGreatDoor
open Go.RowKit
theorem Sad (g:Nat) (w:World):(Instr.sliceAt 74 (.pointer (some ⟨g,0,none⟩)) none (some (.int .i64 32)) none).run Tryz.prog w=.ok (.slice (some ⟨g,0,none⟩) 32 64) w:=by kernel_rfl
theorem L9 (g:Nat) (w:World):(Instr.sliceAt 74 (.pointer (some ⟨g,0,none⟩)) (some (.int .i64 32)) none none).run Tryz.prog w=.ok (.slice (some ⟨g,32,none⟩) 32 32) w:=by kernel_rfl
theorem xU (g:Nat) (w:World):(Instr.sliceAt 23 (.pointer (some ⟨g,0,none⟩)) none none none).run Tryz.prog w=.ok (.slice (some ⟨g,0,none⟩) 32 32) w:=by kernel_rfl
theorem Tz (g o c:Nat) (w:World):(Instr.arrayAt 23 (.slice (some ⟨g,o,none⟩) 32 c)).run Tryz.prog w=.ok (.pointer (some ⟨g,o,none⟩)) w:=by kernel_rfl
theorem Dr {P:Program} (ρ:Operand→Value) (o:Oper) (t:TypeId) (x:Operand) (lo hi mx:Option Operand) (h:o.op=.slice t x lo hi mx) (vx:Value) (hx:ρ x=vx) (v:Value) (w:World) (hr:(Instr.sliceAt t vx (lo.map ρ) (hi.map ρ) (mx.map ρ)).run P w=.ok v w):(execOp ρ o).run P w=.ok (.value v) w:=by
 simp [execOp,h,hx,hr]
theorem Rp {P:Program} (ρ:Operand→Value) (o:Oper) (t:TypeId) (x:Operand) (h:o.op=.sliceToArrayPointer t x) (vx:Value) (hx:ρ x=vx) (v:Value) (w:World) (hr:(Instr.arrayAt t vx).run P w=.ok v w):(execOp ρ o).run P w=.ok (.value v) w:=by
 simp [execOp,h,hx,hr]
theorem Uu {w:World} {g:Nat} {p:List UInt8} {t':TypeId} (hC:Ia w g (p.map Fa) t') (o:Nat) {x:List UInt8} (hp:(p.drop o).take 32=x) (hx:x.length=32):(Instr.loadAt 23 (.pointer (some ⟨g,o,none⟩))).run Tryz.prog w=.ok (Ca x) w:=by
 have hr:=hC.range o 32;rw [←List.map_drop,←List.map_take,hp] at hr;exact run_loadAt_mid w g o 23 (x.map Fa) _ hr Tryz.underlying23 rfl (by rw [Uaj,hx];exact za)
theorem zI (kb:List UInt8) (n zz rr r ol tl:List Nat) (w:World)
 (Hkb:Hid (kb.length=32))
 (Hr:Hid (r.length=8))
 (CR:Hid (∀W,Calls Tryz.prog 49 #[Ca kb] W (gvn (Aa n) W)))
 (BZ:∀w,(Instr.build 83 #[]).run Tryz.prog w=.ok (Aa zz) w)
 (CB:Hid (∀W,Calls Tryz.prog 84 #[Aa n,Aa zz] W (gvn (Aa rr) W)))
 (CM:Hid (∀W,Tab W 0 (ol.map Ga)→Tab W 7 (tl.map Ga)→Calls Tryz.prog 47 #[Aa rr] W (gvn (Aa r) W)))
 (hO:Tab w 0 (ol.map Ga))
 (hT:Tab w 7 (tl.map Ga)):
 Calls Tryz.prog 46 #[Ca kb] w (gvn (Aa r) w):=by
 go_enter Tryz.func46,Tryz.ntmps46;go_wp2_with (first
  |(refine Rb rfl 23 (.tmp 0) rfl kb rfl ?_
    intro w1 hb1 hvk1 hz;clear hz;have hB1:=hb1;have hgek:w.heap.size≤w.heap.size:=Xaj _;have hvo1:=hO.on hb1;have hneok:=Vaj hO.lt;have hvt1:=hT.on hb1;have hnetk:=Vaj hT.lt;clear hO hT hb1;try simp only [La]
    skip)
  |(refine Ma (o:=⟨some 2,_,_,_,_,_⟩) rfl 83 rfl (Na 8) We ?_
    intro w2 hb2 hvr2;have hB2:=Ba hB1 hb2;have hger:w.heap.size≤w1.heap.size:=hB1.size;have hvo2:=hvo1.on hb2;have hneor:=Vaj hvo1.lt;have hvt2:=hvt1.on hb2;have hnetr:=Vaj hvt1.lt;have hvk2:=hvk1.on hb2;have hnekr:=Vaj hvk1.lt;clear hB1 hvo1 hvt1 hvk1 hb2;try simp only [La]
    skip)
  |(refine Tc rfl 23 (.tmp 1) rfl w.heap.size 32 kb 5 rfl hvk2 Tryz.underlying23 za Hkb.out ?_
    try simp only [La]
    skip))
 generalize hqr:w1.heap.size=gr at *;clear hqr;refine (CR.out w2).mono ?_;rintro e w3 ⟨rfl,hb3⟩;have hB3:=Ba hB2 hb3;have hvo3:=hvo2.on hb3;have hvt3:=hvt2.on hb3;have hvk3:=hvk2.on hb3;have hvr3:=hvr2.on hb3;clear hB2 hvo2 hvt2 hvk2 hvr2 hb3;go_wp2_with (first
  |(refine Eb rfl 83 [] rfl [] rfl _ BZ ?_
    try simp only [La]
    skip))
 refine (CB.out w3).mono ?_;rintro e w4 ⟨rfl,hb4⟩;have hB4:=Ba hB3 hb4;have hvo4:=hvo3.on hb4;have hvt4:=hvt3.on hb4;have hvk4:=hvk3.on hb4;have hvr4:=hvr3.on hb4;clear hB3 hvo3 hvt3 hvk3 hvr3 hb4;go_wp2_with fail
 refine (CM.out w4 hvo4 hvt4).mono ?_;rintro e w5 ⟨rfl,hb5⟩;have hB5:=Ba hB4 hb5;have hvo5:=hvo4.on hb5;have hvt5:=hvt4.on hb5;have hvk5:=hvk4.on hb5;have hvr5:=hvr4.on hb5;clear hB4 hvo4 hvt4 hvk4 hvr4 hb5;go_wp2_with (first
  |(refine Ka rfl 83 (.tmp 2) (.tmp 7) rfl gr 8 (Na 8) (r.map Ga) rfl rfl hvr5 rfl Kc (by rw [Uaj,Hr.out]) (Oa _) ?_
    intro w6 hb6 hvr6 hz6;have hB6:Below w.heap.size w w6:=hB5.trans (hb6.below hger hB5.size);have hvo6:=hvo5.but hb6 hneor;have hvt6:=hvt5.but hb6 hnetr;have hvk6:=hvk5.but hb6 hnekr;clear hB5 hvr5 hb6 hz6 hvo5 hvt5 hvk5;skip))
 exact qc Tryz.results46 gr (r.map Ga) rfl hvr6 Tryz.underlying83 rfl Kc (by rw [Uaj,Hr.out]) rfl ⟨rfl,hB6⟩
def FC (ab:List UInt8) (bb:List UInt8) (g_base:Nat) (gb:Nat) (gr:Nat) (n:List Nat) (m:List Nat) (s:List Nat) (ol:List Nat) (r:List Nat) (ob:List UInt8):List Value:=
 (Ca ab)::(Ca bb)::ptr g_base::ptr gb::ptr gr::(Ca ab)::(Aa n)::(Ca bb)::(Aa m)::(Aa s)::(Aa ol)::(Aa r)::(Ca ob)::[]
theorem xR (ab bb ob:List UInt8) (n m s r ol tl:List Nat) (w:World)
 (Hab:Hid (ab.length=32))
 (Hbb:Hid (bb.length=32))
 (Hob:Hid (ob.length=32))
 (Hol:Hid (ol.length=8))
 (CA:Hid (∀W,Tab W 0 (ol.map Ga)→Tab W 7 (tl.map Ga)→Calls Tryz.prog 46 #[Ca ab] W (gvn (Aa n) W)))
 (CB:Hid (∀W,Tab W 0 (ol.map Ga)→Tab W 7 (tl.map Ga)→Calls Tryz.prog 46 #[Ca bb] W (gvn (Aa m) W)))
 (CP:Hid (∀W,Calls Tryz.prog 45 #[Aa n,Aa m] W (gvn (Aa s) W)))
 (CS:Hid (∀W,Tab W 0 (ol.map Ga)→Calls Tryz.prog 44 #[Aa s,Aa ol] W (gvn (Aa r) W)))
 (CW:Hid (∀W,Calls Tryz.prog 43 #[Aa r] W (gvn (Ca ob) W)))
 (hO:Tab w 0 (ol.map Ga))
 (hT:Tab w 7 (tl.map Ga)):
 Calls Tryz.prog 16 #[Ca ab,Ca bb] w (gvn (Ca ob) w):=by
 go_enter Tryz.func16,Tryz.ntmps16;go_wp2_with (first
  |(refine Rb rfl 23 (.tmp 0) rfl ab rfl ?_
    intro w1 hb1 hva1 hz;clear hz;have hB1:=hb1;have hgea:w.heap.size≤w.heap.size:=Xaj _;have hvo1:=hO.on hb1;have hneoa:=Vaj hO.lt;have hvt1:=hT.on hb1;have hneta:=Vaj hT.lt;clear hO hT hb1;try simp only [La]
    skip)
  |(refine Rb rfl 23 (.tmp 1) rfl bb rfl ?_
    intro w2 hb2 hvb2 hz;clear hz;have hB2:=Ba hB1 hb2;have hgeb:w.heap.size≤w1.heap.size:=hB1.size;have hvo2:=hvo1.on hb2;have hneob:=Vaj hvo1.lt;have hvt2:=hvt1.on hb2;have hnetb:=Vaj hvt1.lt;have hva2:=hva1.on hb2;have hneab:=Vaj hva1.lt;clear hB1 hvo1 hvt1 hva1 hb2;try simp only [La]
    skip)
  |(refine Ma (o:=⟨some 4,_,_,_,_,_⟩) rfl 23 rfl Xa Zb ?_
    intro w3 hb3 hvr3;have hB3:=Ba hB2 hb3;have hger:w.heap.size≤w2.heap.size:=hB2.size;have hvo3:=hvo2.on hb3;have hneor:=Vaj hvo2.lt;have hvt3:=hvt2.on hb3;have hnetr:=Vaj hvt2.lt;have hva3:=hva2.on hb3;have hnear:=Vaj hva2.lt;have hvb3:=hvb2.on hb3;have hnebr:=Vaj hvb2.lt;clear hB2 hvo2 hvt2 hva2 hvb2 hb3;try simp only [La]
    skip))
 generalize hqb:w1.heap.size=gb at *;clear hqb;generalize hqr:w2.heap.size=gr at *;clear hqr;replace hvo3:=hvo3.drew;replace hvt3:=hvt3.drew;replace hva3:=hva3.drew;replace hvb3:=hvb3.drew;replace hvr3:=hvr3.drew;refine wp_region_any (by kernel_rfl) ?_;refine Ya (L:=[0,1,2,3,4,5,6,7]) (by kernel_rfl) _ _ (FC ab bb w.heap.size gb gr n m s ol r ob) [] 83 (Na 8) [0,1,2,3,4] (by kernel_rfl) (by kernel_rfl) ?_ We ?_ (by rfl) ?_ 1 (by kernel_rfl) ?_
 ·intro p hp;exact absurd hp List.not_mem_nil
 ·repeat refine Aak rfl ?_
  exact Qa
 ·refine Aak (.inr (mL 5 rfl fun w hb=>Yf (hva3.on hb) Hab.out)) ?_;refine Aak (.inr (mC 6 rfl Tryz.func46 fun w hb=>CA.out w (hvo3.on hb) (hvt3.on hb))) ?_;refine Aak (.inr (mL 7 rfl fun w hb=>Yf (hvb3.on hb) Hbb.out)) ?_;refine Aak (.inr (mC 8 rfl Tryz.func46 fun w hb=>CB.out w (hvo3.on hb) (hvt3.on hb))) ?_;refine Aak (.inr (mC 9 rfl Tryz.func45 fun w hb=>CP.out w)) ?_;refine Aak (.inr (mL 10 rfl fun w hb=>Dw (hvo3.on hb) Hol.out)) ?_;refine Aak (.inr (mC 11 rfl Tryz.func44 fun w hb=>CS.out w (hvo3.on hb))) ?_;refine Aak (.inr (mC 12 rfl Tryz.func43 fun w hb=>CW.out w)) ?_;exact Qa
 intro w4 g hb4 hN4 hap4;clear hN4 hap4;have hB4:=Ba (show Below w.heap.size w w3.drew from hB3.drew) hb4;have hvo4:=hvo3.on hb4;have hvt4:=hvt3.on hb4;have hva4:=hva3.on hb4;have hvb4:=hvb3.on hb4;have hvr4:=hvr3.on hb4;clear hB3 hvo3 hvt3 hva3 hvb3 hvr3 hb4;refine Bb 8 rfl (by kernel_rfl) ?_;refine Ka rfl 23 (.tmp 4) (.tmp 12) rfl gr 32 Xa (ob.map Fa) rfl rfl hvr4 rfl za (by rw [Uaj,Hob.out]) (Ab _) ?_;intro w5 hb5 hvr5 hz5;have hB5:Below w.heap.size w w5:=hB4.trans (hb5.below hger hB4.size);have hvo5:=hvo4.but hb5 hneor;have hvt5:=hvt4.but hb5 hnetr;have hva5:=hva4.but hb5 hnear;have hvb5:=hvb4.but hb5 hnebr;clear hB4 hvr4 hb5 hz5 hvo4 hvt4 hva4 hvb4;rename_i K hKK;show Exit.then K _ Exit.normal (⟨(FC ab bb w.heap.size gb gr n m s ol r ob).toArray,[]⟩:Act) w5;simp only [Exit.then];refine hKK _ _ ?_;clear hKK K g;simp only [FC,ptr]
 go_wp2
 exact qc Tryz.results16 gr (ob.map Fa) rfl hvr5 Tryz.underlying23 rfl za (by rw [Uaj,Hob.out]) rfl ⟨rfl,hB5⟩
def Ts (ab:List UInt8) (bb:List UInt8) (g_base:Nat) (gb:Nat) (gr:Nat) (n:List Nat) (m:List Nat) (s:List Nat) (r:List Nat) (ob:List UInt8):List Value:=
 (Ca ab)::(Ca bb)::ptr g_base::ptr gb::ptr gr::(Ca ab)::(Aa n)::(Ca bb)::(Aa m)::(Aa s)::(Aa r)::(Ca ob)::[]
theorem qI (ab bb ob:List UInt8) (n m s r ol tl:List Nat) (w:World)
 (Hab:Hid (ab.length=32))
 (Hbb:Hid (bb.length=32))
 (Hob:Hid (ob.length=32))
 (CA:Hid (∀W,Calls Tryz.prog 49 #[Ca ab] W (gvn (Aa n) W)))
 (CB:Hid (∀W,Calls Tryz.prog 49 #[Ca bb] W (gvn (Aa m) W)))
 (CP:Hid (∀W,Calls Tryz.prog 48 #[Aa n,Aa m] W (gvn (Aa s) W)))
 (CM:Hid (∀W,Tab W 0 (ol.map Ga)→Tab W 7 (tl.map Ga)→Calls Tryz.prog 47 #[Aa s] W (gvn (Aa r) W)))
 (CW:Hid (∀W,Calls Tryz.prog 43 #[Aa r] W (gvn (Ca ob) W)))
 (hO:Tab w 0 (ol.map Ga))
 (hT:Tab w 7 (tl.map Ga)):
 Calls Tryz.prog 17 #[Ca ab,Ca bb] w (gvn (Ca ob) w):=by
 go_enter Tryz.func17,Tryz.ntmps17;go_wp2_with (first
  |(refine Rb rfl 23 (.tmp 0) rfl ab rfl ?_
    intro w1 hb1 hva1 hz;clear hz;have hB1:=hb1;have hgea:w.heap.size≤w.heap.size:=Xaj _;have hvo1:=hO.on hb1;have hneoa:=Vaj hO.lt;have hvt1:=hT.on hb1;have hneta:=Vaj hT.lt;clear hO hT hb1;try simp only [La]
    skip)
  |(refine Rb rfl 23 (.tmp 1) rfl bb rfl ?_
    intro w2 hb2 hvb2 hz;clear hz;have hB2:=Ba hB1 hb2;have hgeb:w.heap.size≤w1.heap.size:=hB1.size;have hvo2:=hvo1.on hb2;have hneob:=Vaj hvo1.lt;have hvt2:=hvt1.on hb2;have hnetb:=Vaj hvt1.lt;have hva2:=hva1.on hb2;have hneab:=Vaj hva1.lt;clear hB1 hvo1 hvt1 hva1 hb2;try simp only [La]
    skip)
  |(refine Ma (o:=⟨some 4,_,_,_,_,_⟩) rfl 23 rfl Xa Zb ?_
    intro w3 hb3 hvr3;have hB3:=Ba hB2 hb3;have hger:w.heap.size≤w2.heap.size:=hB2.size;have hvo3:=hvo2.on hb3;have hneor:=Vaj hvo2.lt;have hvt3:=hvt2.on hb3;have hnetr:=Vaj hvt2.lt;have hva3:=hva2.on hb3;have hnear:=Vaj hva2.lt;have hvb3:=hvb2.on hb3;have hnebr:=Vaj hvb2.lt;clear hB2 hvo2 hvt2 hva2 hvb2 hb3;try simp only [La]
    skip))
 generalize hqb:w1.heap.size=gb at *;clear hqb;generalize hqr:w2.heap.size=gr at *;clear hqr;replace hvo3:=hvo3.drew;replace hvt3:=hvt3.drew;replace hva3:=hva3.drew;replace hvb3:=hvb3.drew;replace hvr3:=hvr3.drew;refine wp_region_any (by kernel_rfl) ?_;refine Ya (L:=[0,1,2,3,4,5,6]) (by kernel_rfl) _ _ (Ts ab bb w.heap.size gb gr n m s r ob) [] 83 (Na 8) [0,1,2,3,4] (by kernel_rfl) (by kernel_rfl) ?_ We ?_ (by rfl) ?_ 1 (by kernel_rfl) ?_
 ·intro p hp;exact absurd hp List.not_mem_nil
 ·repeat refine Aak rfl ?_
  exact Qa
 ·refine Aak (.inr (mL 5 rfl fun w hb=>Yf (hva3.on hb) Hab.out)) ?_;refine Aak (.inr (mC 6 rfl Tryz.func49 fun w hb=>CA.out w)) ?_;refine Aak (.inr (mL 7 rfl fun w hb=>Yf (hvb3.on hb) Hbb.out)) ?_;refine Aak (.inr (mC 8 rfl Tryz.func49 fun w hb=>CB.out w)) ?_;refine Aak (.inr (mC 9 rfl Tryz.func48 fun w hb=>CP.out w)) ?_;refine Aak (.inr (mC 10 rfl Tryz.func47 fun w hb=>CM.out w (hvo3.on hb) (hvt3.on hb))) ?_;refine Aak (.inr (mC 11 rfl Tryz.func43 fun w hb=>CW.out w)) ?_;exact Qa
 intro w4 g hb4 hN4 hap4;clear hN4 hap4;have hB4:=Ba (show Below w.heap.size w w3.drew from hB3.drew) hb4;have hvo4:=hvo3.on hb4;have hvt4:=hvt3.on hb4;have hva4:=hva3.on hb4;have hvb4:=hvb3.on hb4;have hvr4:=hvr3.on hb4;clear hB3 hvo3 hvt3 hva3 hvb3 hvr3 hb4;refine Bb 7 rfl (by kernel_rfl) ?_;refine Ka rfl 23 (.tmp 4) (.tmp 11) rfl gr 32 Xa (ob.map Fa) rfl rfl hvr4 rfl za (by rw [Uaj,Hob.out]) (Ab _) ?_;intro w5 hb5 hvr5 hz5;have hB5:Below w.heap.size w w5:=hB4.trans (hb5.below hger hB4.size);have hvo5:=hvo4.but hb5 hneor;have hvt5:=hvt4.but hb5 hnetr;have hva5:=hva4.but hb5 hnear;have hvb5:=hvb4.but hb5 hnebr;clear hB4 hvr4 hb5 hz5 hvo4 hvt4 hva4 hvb4;rename_i K hKK;show Exit.then K _ Exit.normal (⟨(Ts ab bb w.heap.size gb gr n m s r ob).toArray,[]⟩:Act) w5;simp only [Exit.then];refine hKK _ _ ?_;clear hKK K g;simp only [Ts,ptr]
 go_wp2
 exact qc Tryz.results17 gr (ob.map Fa) rfl hvr5 Tryz.underlying23 rfl za (by rw [Uaj,Hob.out]) rfl ⟨rfl,hB5⟩
def GC (kb:List UInt8) (g_base:Nat) (c:Bool) (d:List Nat) (n:List Nat) (ol:List Nat):List Value:=
 (Ca kb)::ptr g_base::(.bool false)::undef::(.bool c)::(.tuple #[Aa d,.bool c])::(Ca kb)::(Aa n)::(Aa ol)::(.tuple #[Aa d,.bool c])::(Aa d)::(.bool c)::undef::[]
def Sp (kb:List UInt8) (g_base:Nat) (c:Bool) (d:List Nat) (n:List Nat) (ol:List Nat) (n3:Nat):List Value:=
 (Ca kb)::ptr g_base::(.bool false)::ptr n3::(.bool c)::(.tuple #[Aa d,.bool c])::(Ca kb)::(Aa n)::(Aa ol)::(.tuple #[Aa d,.bool c])::(Aa d)::(.bool c)::undef::[]
theorem AJ (kb:List UInt8) (n d ol:List Nat) (c:Bool) (w:World)
 (Hkb:Hid (kb.length=32))
 (Hd:Hid (d.length=8))
 (Hol:Hid (ol.length=8))
 (CA:Hid (∀W,Calls Tryz.prog 49 #[Ca kb] W (gvn (Aa n) W)))
 (CM:Hid (∀W,Calls Tryz.prog 54 #[Aa n,Aa ol] W (gvn (.tuple #[Aa d,.bool c]) W)))
 (hO:Tab w 0 (ol.map Ga)):
 Calls Tryz.prog 25 #[Ca kb] w (gvn (.bool c) w):=by
 go_enter Tryz.func25,Tryz.ntmps25;go_wp2_with (first
  |(refine Rb rfl 23 (.tmp 0) rfl kb rfl ?_
    intro w1 hb1 hvk1 hz;clear hz;have hB1:=hb1;have hgek:w.heap.size≤w.heap.size:=Xaj _;have hvo1:=hO.on hb1;have hneok:=Vaj hO.lt;clear hO hb1;try simp only [La]
    skip))
 replace hvo1:=hvo1.drew;replace hvk1:=hvk1.drew;refine wp_region_any (by kernel_rfl) ?_;refine Qf (L:=[0,1,2,3,4,5,6,7,8,9]) (by kernel_rfl) _ _ (GC kb w.heap.size c d n ol) [(7,3)] (fun _=>83) (fun _=>(Na 8)) (fun _=>some (8,d.map Ga)) [0,1,2,12] (by kernel_rfl) (by kernel_rfl) ?_ (fun _ _=>We) ?_ ?_ ?_ (by rfl) ?_ 0 (by kernel_rfl) ?_
 ·intro p hp;rcases List.mem_cons.1 hp with rfl|hp
  ·exact ⟨⟨_,rfl,rfl,rfl,rfl,by kernel_rfl,by kernel_rfl⟩⟩
  exact absurd hp List.not_mem_nil
 ·intro p hp j l h;rcases List.mem_cons.1 hp with rfl|hp
  ·change some (8,d.map Ga)=some (j,l) at h;cases h
   exact ⟨⟨_,10,rfl,rfl,rfl,rfl,by kernel_rfl,by kernel_rfl,by kernel_rfl,rfl,by rw [Uaj,Hd.out];exact Kc,by rw [Uaj,Hd.out];rfl,Oa _⟩,by decide⟩
  exact absurd hp List.not_mem_nil
 ·intro p hp q hq j l l2 h1 h2;rcases List.mem_cons.1 hp with rfl|hp
  ·rcases List.mem_cons.1 hq with rfl|hq
   ·rfl
   exact absurd hq List.not_mem_nil
  exact absurd hp List.not_mem_nil
 ·repeat refine Aak rfl ?_
  exact Qa
 ·refine Aak (.inr (.inl (mL 6 rfl fun w hb=>Yf (hvk1.on hb) Hkb.out))) ?_;refine Aak (.inr (.inl (mC 7 rfl Tryz.func49 fun w hb=>CA.out w))) ?_;refine Aak (.inr (.inl (mL 8 rfl fun w hb=>Dw (hvo1.on hb) Hol.out))) ?_;refine Aak (.inr (.inl (mC 9 rfl Tryz.func54 fun w hb=>CM.out w))) ?_;refine Aak (.inr (.inl (mV 5 rfl (.inl rfl) rfl))) ?_;refine Aak (.inr (.inl (mE 10 rfl rfl rfl))) ?_;refine Aak (.inr (.inl (mE 11 rfl rfl rfl))) ?_;refine Aak (.inl ⟨(7,3),by simp,rfl⟩) ?_;refine Aak (.inr (.inr ⟨(7,3),by simp,_,rfl⟩)) ?_;refine Aak (.inr (.inl (mV 4 rfl (.inr rfl) rfl))) ?_;exact Qa
 intro w2 g hb2 hN2 hap2;obtain ⟨hged,hvd2⟩:=hN2 (7,3) (by simp);clear hN2 hap2;have hB2:=Ba (show Below w.heap.size w w1.drew from hB1.drew) hb2;have hlto:0<w1.heap.size:=hvo1.lt;have hltk:w.heap.size<w1.heap.size:=hvk1.lt;have hvo2:=hvo1.on hb2;have hvk2:=hvk1.on hb2;rw [show Oc g [(7,3)] (GC kb w.heap.size c d n ol)=Sp kb w.heap.size c d n ol (g 3) from rfl];replace hged:w1.heap.size≤g 3:=hged;replace hvd2:Ia w2 (g 3) (d.map Ga) 83:=hvd2;have hneod:0≠g 3:=Vaj (Waj hlto hged);have hnekd:w.heap.size≠g 3:=Vaj (Waj hltk hged);replace hged:w.heap.size≤g 3:=Nat.le_trans (show w.heap.size≤w1.heap.size from hB1.size) hged;clear hlto hltk;generalize g 3=gd at *;clear hB1 hvo1 hvk1 hb2;refine ⟨by kernel_rfl,?_⟩;rename_i K hKK;show Exit.then K _ Exit.normal (⟨(Sp kb w.heap.size c d n ol gd).toArray,[]⟩:Act) w2;simp only [Exit.then];refine hKK _ _ ?_;clear hKK K g;simp only [Sp,ptr]
 go_wp2
 go_ret
 exact ⟨rfl,hB2⟩
def Dy (wb:List UInt8) (g_base:Nat) (gr:Nat) (lo:List UInt8) (nl:List Nat) (hi:List UInt8) (nh:List Nat):List Value:=
 (Ca wb)::ptr g_base::ptr gr::undef::undef::(.slice (some ⟨g_base,0,none⟩) 32 64)::ptr g_base::(Ca lo)::(Aa nl)::(.slice (some ⟨g_base,32,none⟩) 32 32)::(.pointer (some ⟨g_base,32,none⟩))::(Ca hi)::(Aa nh)::ud 5 []
def Xn (wb:List UInt8) (g_base:Nat) (gr:Nat) (lo:List UInt8) (nl:List Nat) (hi:List UInt8) (nh:List Nat) (n3 n4:Nat):List Value:=
 (Ca wb)::ptr g_base::ptr gr::ptr n3::ptr n4::(.slice (some ⟨g_base,0,none⟩) 32 64)::ptr g_base::(Ca lo)::(Aa nl)::(.slice (some ⟨g_base,32,none⟩) 32 32)::(.pointer (some ⟨g_base,32,none⟩))::(Ca hi)::(Aa nh)::ud 5 []
theorem GE (wb lo hi ob:List UInt8) (nl nh s r ol tl:List Nat) (w:World)
 (Hlo:Hid (lo.length=32))
 (Hhi:Hid (hi.length=32))
 (Hob:Hid (ob.length=32))
 (Hnl:Hid (nl.length=8))
 (Hnh:Hid (nh.length=8))
 (HLO:Hid ((wb.drop 0).take 32=lo))
 (HHI:Hid ((wb.drop 32).take 32=hi))
 (CA:Hid (∀W,Calls Tryz.prog 49 #[Ca lo] W (gvn (Aa nl) W)))
 (CB:Hid (∀W,Calls Tryz.prog 49 #[Ca hi] W (gvn (Aa nh) W)))
 (CP:Hid (∀W,Calls Tryz.prog 84 #[Aa nl,Aa nh] W (gvn (Aa s) W)))
 (CM:Hid (∀W,Tab W 0 (ol.map Ga)→Tab W 7 (tl.map Ga)→Calls Tryz.prog 47 #[Aa s] W (gvn (Aa r) W)))
 (CW:Hid (∀W,Calls Tryz.prog 43 #[Aa r] W (gvn (Ca ob) W)))
 (hO:Tab w 0 (ol.map Ga))
 (hT:Tab w 7 (tl.map Ga)):
 Calls Tryz.prog 38 #[Ca wb] w (gvn (Ca ob) w):=by
 go_enter Tryz.func38,Tryz.ntmps38;go_wp2_with (first
  |(refine Ra rfl 74 (.tmp 0) rfl (wb.map Fa) rfl ?_
    intro w1 hb1 hvx1;have hB1:=hb1;have hgex:w.heap.size≤w.heap.size:=Xaj _;have hvo1:=hO.on hb1;have hneox:=Vaj hO.lt;have hvt1:=hT.on hb1;have hnetx:=Vaj hT.lt;clear hO hT hb1;try simp only [La]
    skip)
  |(refine Ma (o:=⟨some 2,_,_,_,_,_⟩) rfl 23 rfl Xa Zb ?_
    intro w2 hb2 hvr2;have hB2:=Ba hB1 hb2;have hger:w.heap.size≤w1.heap.size:=hB1.size;have hvo2:=hvo1.on hb2;have hneor:=Vaj hvo1.lt;have hvt2:=hvt1.on hb2;have hnetr:=Vaj hvt1.lt;have hvx2:=hvx1.on hb2;have hnexr:=Vaj hvx1.lt;clear hB1 hvo1 hvt1 hvx1 hb2;try simp only [La]
    skip))
 generalize hqr:w1.heap.size=gr at *;clear hqr;replace hvo2:=hvo2.drew;replace hvt2:=hvt2.drew;replace hvx2:=hvx2.drew;replace hvr2:=hvr2.drew;refine wp_region_any (by kernel_rfl) ?_;refine Qf (L:=[0,1,2,3,4,5,6,7,8,9,10,11]) (by kernel_rfl) _ _ (Dy wb w.heap.size gr lo nl hi nh) [(8,3),(9,4)] (fun _=>83) (fun _=>(Na 8)) (fun s=>bif s==3 then some (10,nl.map Ga) else bif s==4 then some (11,nh.map Ga) else none) [0,1,2,13,14,15,16,17] (by kernel_rfl) (by kernel_rfl) ?_ (fun _ _=>We) ?_ ?_ ?_ (by rfl) ?_ 0 (by kernel_rfl) ?_
 ·intro p hp;rcases List.mem_cons.1 hp with rfl|hp
  ·exact ⟨⟨_,rfl,rfl,rfl,rfl,by kernel_rfl,by kernel_rfl⟩⟩
  rcases List.mem_cons.1 hp with rfl|hp
  ·exact ⟨⟨_,rfl,rfl,rfl,rfl,by kernel_rfl,by kernel_rfl⟩⟩
  exact absurd hp List.not_mem_nil
 ·intro p hp j l h;rcases List.mem_cons.1 hp with rfl|hp
  ·change some (10,nl.map Ga)=some (j,l) at h;cases h
   exact ⟨⟨_,8,rfl,rfl,rfl,rfl,by kernel_rfl,by kernel_rfl,by kernel_rfl,rfl,by rw [Uaj,Hnl.out];exact Kc,by rw [Uaj,Hnl.out];rfl,Oa _⟩,by decide⟩
  rcases List.mem_cons.1 hp with rfl|hp
  ·change some (11,nh.map Ga)=some (j,l) at h;cases h
   exact ⟨⟨_,12,rfl,rfl,rfl,rfl,by kernel_rfl,by kernel_rfl,by kernel_rfl,rfl,by rw [Uaj,Hnh.out];exact Kc,by rw [Uaj,Hnh.out];rfl,Oa _⟩,by decide⟩
  exact absurd hp List.not_mem_nil
 ·intro p hp q hq j l l2 h1 h2;rcases List.mem_cons.1 hp with rfl|hp
  ·rcases List.mem_cons.1 hq with rfl|hq
   ·rfl
   rcases List.mem_cons.1 hq with rfl|hq
   ·change some (10,_)=some (j,l) at h1;change some (11,_)=some (j,l2) at h2;exact absurd ((Prod.mk.inj (Option.some.inj h1)).1.trans (Prod.mk.inj (Option.some.inj h2)).1.symm) (by decide)
   exact absurd hq List.not_mem_nil
  rcases List.mem_cons.1 hp with rfl|hp
  ·rcases List.mem_cons.1 hq with rfl|hq
   ·change some (11,_)=some (j,l) at h1;change some (10,_)=some (j,l2) at h2;exact absurd ((Prod.mk.inj (Option.some.inj h1)).1.trans (Prod.mk.inj (Option.some.inj h2)).1.symm) (by decide)
   rcases List.mem_cons.1 hq with rfl|hq
   ·rfl
   exact absurd hq List.not_mem_nil
  exact absurd hp List.not_mem_nil
 ·repeat refine Aak rfl ?_
  exact Qa
 ·refine Aak (.inr (.inl (Wr _ 5 rfl rfl rfl rfl (by kernel_rfl) (fun a hv=>Fh rfl _) (fun a w K hb hv hK=>Xr (_) (Dr _ _ _ _ _ _ _ rfl _ (hv 1 (by kernel_rfl) rfl) _ w (Sad _ w)) hK)))) ?_;refine Aak (.inr (.inl (Wr _ 6 rfl rfl rfl rfl (by kernel_rfl) (fun a hv=>Fh rfl _) (fun a w K hb hv hK=>Xr (_) (Rp _ _ _ _ rfl _ (hv 5 (by kernel_rfl) rfl) _ w (Tz _ _ _ w)) hK)))) ?_;refine Aak (.inr (.inl (mL 7 rfl fun w hb=>Uu (hvx2.on hb) 0 HLO.out Hlo.out))) ?_;refine Aak (.inr (.inl (mC 8 rfl Tryz.func49 fun w hb=>CA.out w))) ?_;refine Aak (.inr (.inl (Wr _ 9 rfl rfl rfl rfl (by kernel_rfl) (fun a hv=>Fh rfl _) (fun a w K hb hv hK=>Xr (_) (Dr _ _ _ _ _ _ _ rfl _ (hv 1 (by kernel_rfl) rfl) _ w (L9 _ w)) hK)))) ?_;refine Aak (.inr (.inl (Wr _ 10 rfl rfl rfl rfl (by kernel_rfl) (fun a hv=>Fh rfl _) (fun a w K hb hv hK=>Xr (_) (Rp _ _ _ _ rfl _ (hv 9 (by kernel_rfl) rfl) _ w (Tz _ _ _ w)) hK)))) ?_;refine Aak (.inr (.inl (mL 11 rfl fun w hb=>Uu (hvx2.on hb) 32 HHI.out Hhi.out))) ?_;refine Aak (.inr (.inl (mC 12 rfl Tryz.func49 fun w hb=>CB.out w))) ?_;refine Aak (.inl ⟨(8,3),by simp,rfl⟩) ?_;refine Aak (.inl ⟨(9,4),by simp,rfl⟩) ?_;refine Aak (.inr (.inr ⟨(8,3),by simp,_,rfl⟩)) ?_;refine Aak (.inr (.inr ⟨(9,4),by simp,_,rfl⟩)) ?_;exact Qa
 intro w3 g hb3 hN3 hap3;obtain ⟨hgea,hva3⟩:=hN3 (8,3) (by simp);obtain ⟨hgeb,hvb3⟩:=hN3 (9,4) (by simp);have hneab:=hap3 (8,3) (by simp) (9,4) (by simp) (by decide);clear hN3 hap3;have hB3:=Ba (show Below w.heap.size w w2.drew from hB2.drew) hb3;have hlto:0<w2.heap.size:=hvo2.lt;have hltt:7<w2.heap.size:=hvt2.lt;have hltx:w.heap.size<w2.heap.size:=hvx2.lt;have hltr:gr<w2.heap.size:=hvr2.lt;have hvo3:=hvo2.on hb3;have hvt3:=hvt2.on hb3;have hvx3:=hvx2.on hb3;have hvr3:=hvr2.on hb3;rw [show Oc g [(8,3),(9,4)] (Dy wb w.heap.size gr lo nl hi nh)=Xn wb w.heap.size gr lo nl hi nh (g 3) (g 4) from rfl];replace hgea:w2.heap.size≤g 3:=hgea;replace hva3:Ia w3 (g 3) (nl.map Ga) 83:=hva3;replace hgeb:w2.heap.size≤g 4:=hgeb;replace hvb3:Ia w3 (g 4) (nh.map Ga) 83:=hvb3;replace hneab:g 3≠g 4:=hneab;have hneoa:0≠g 3:=Vaj (Waj hlto hgea);have hneta:7≠g 3:=Vaj (Waj hltt hgea);have hnexa:w.heap.size≠g 3:=Vaj (Waj hltx hgea);have hnera:gr≠g 3:=Vaj (Waj hltr hgea);replace hgea:w.heap.size≤g 3:=Nat.le_trans (show w.heap.size≤w2.heap.size from hB2.size) hgea;have hneob:0≠g 4:=Vaj (Waj hlto hgeb);have hnetb:7≠g 4:=Vaj (Waj hltt hgeb);have hnexb:w.heap.size≠g 4:=Vaj (Waj hltx hgeb);have hnerb:gr≠g 4:=Vaj (Waj hltr hgeb);replace hgeb:w.heap.size≤g 4:=Nat.le_trans (show w.heap.size≤w2.heap.size from hB2.size) hgeb;clear hlto hltt hltx hltr;generalize g 3=ga at *;generalize g 4=gb at *;clear hB2 hvo2 hvt2 hvx2 hvr2 hb3;refine ⟨by kernel_rfl,?_⟩;rename_i K hKK;show Exit.then K _ Exit.normal (⟨(Xn wb w.heap.size gr lo nl hi nh ga gb).toArray,[]⟩:Act) w3;simp only [Exit.then];refine hKK _ _ ?_;clear hKK K g;simp only [Xn,ptr,ud];go_wp2_with (first
  |(refine Pa rfl 83 (.tmp 3) rfl ga 8 (nl.map Ga) rfl hva3 Tryz.underlying83 rfl Kc (by rw [Uaj,Hnl.out]) ?_
    try simp only [La]
    skip)
  |(refine Pa rfl 83 (.tmp 4) rfl gb 8 (nh.map Ga) rfl hvb3 Tryz.underlying83 rfl Kc (by rw [Uaj,Hnh.out]) ?_
    try simp only [La]
    skip))
 refine (CP.out w3).mono ?_;rintro e w4 ⟨rfl,hb4⟩;have hB4:=Ba hB3 hb4;have hvo4:=hvo3.on hb4;have hvt4:=hvt3.on hb4;have hvx4:=hvx3.on hb4;have hvr4:=hvr3.on hb4;have hva4:=hva3.on hb4;have hvb4:=hvb3.on hb4;clear hB3 hvo3 hvt3 hvx3 hvr3 hva3 hvb3 hb4;go_wp2_with fail
 refine (CM.out w4 hvo4 hvt4).mono ?_;rintro e w5 ⟨rfl,hb5⟩;have hB5:=Ba hB4 hb5;have hvo5:=hvo4.on hb5;have hvt5:=hvt4.on hb5;have hvx5:=hvx4.on hb5;have hvr5:=hvr4.on hb5;have hva5:=hva4.on hb5;have hvb5:=hvb4.on hb5;clear hB4 hvo4 hvt4 hvx4 hvr4 hva4 hvb4 hb5;go_wp2_with fail
 refine (CW.out w5).mono ?_;rintro e w6 ⟨rfl,hb6⟩;have hB6:=Ba hB5 hb6;have hvo6:=hvo5.on hb6;have hvt6:=hvt5.on hb6;have hvx6:=hvx5.on hb6;have hvr6:=hvr5.on hb6;have hva6:=hva5.on hb6;have hvb6:=hvb5.on hb6;clear hB5 hvo5 hvt5 hvx5 hvr5 hva5 hvb5 hb6;go_wp2_with (first
  |(refine Ka rfl 23 (.tmp 2) (.tmp 17) rfl gr 32 Xa (ob.map Fa) rfl rfl hvr6 rfl za (by rw [Uaj,Hob.out]) (Ab _) ?_
    intro w7 hb7 hvr7 hz7;have hB7:Below w.heap.size w w7:=hB6.trans (hb7.below hger hB6.size);have hvo7:=hvo6.but hb7 hneor;have hvt7:=hvt6.but hb7 hnetr;have hvx7:=hvx6.but hb7 hnexr;have hva7:=hva6.but hb7 (Ne.symm hnera);have hvb7:=hvb6.but hb7 (Ne.symm hnerb);clear hB6 hvr6 hb7 hz7 hvo6 hvt6 hvx6 hva6 hvb6;skip))
 exact qc Tryz.results38 gr (ob.map Fa) rfl hvr7 Tryz.underlying23 rfl za (by rw [Uaj,Hob.out]) rfl ⟨rfl,hB7⟩
theorem J4:∀(x:Fin 256) (k:Fin 8),bits .and .u8 ((x.val:Int)/2^k.val) 1=((x.val/2^k.val%2:Nat):Int):=by decide+kernel
theorem M9 (x k:Nat) (b:Bool) (hx:x<256) (hk:k<8) (h:decide (x/2^k%2=1)=b):bits .and .u8 ((x:Int)/2^k) 1=if b then 1 else 0:=by
 rw [J4 ⟨x,hx⟩ ⟨k,hk⟩,←h];show ((x/2^k%2:Nat):Int)=_;rcases Nat.mod_two_eq_zero_or_one (x/2^k) with h|h<;>rw [h]<;>simp
def Ld (k:List UInt8) (i:Nat):Bool:=decide ((k.getD (i/8) 0).toNat/2^(i%8)%2=1)
def Bl (w:World):Prop:=Tab w 0 ((nD NP.LL).map Ga)∧Tab w 7 ((nD Sh).map Ga)
theorem Bl.on {w w':World} (h:Bl w) (hb:Below w.heap.size w w'):Bl w':=⟨h.1.on hb,h.2.on hb⟩
theorem Bl.below {w w':World} (h:Bl w) (hb:Below w.heap.size w w'):Bl w':=h.on hb
theorem yU (q:List Nat):∀k,k≤16→hiW q k*4294967296^(16-k)+pre q (16-k)=pre q 16
 |0,_=>by rw [hiW,Nat.zero_mul,Nat.zero_add]
 |k+1,h=>by
  have ih:=yU q k (by omega);obtain ⟨m,hm⟩:∃m,16-k=m+1:=⟨15-k,by omega⟩;rw [hm,pre,Nat.pow_succ] at ih;rw [show 16-(k+1)=m by omega,hiW,show 15-k=m by omega,Nat.add_mul,Nat.mul_assoc,Nat.mul_comm 4294967296];omega
theorem N9 (q:List Nat):hiW q 16=pre q 16:=by
 have h:=yU q 16 (Xaj _);rw [show 16-16=0 from rfl,pre,Nat.pow_zero,Nat.mul_one,Nat.add_zero] at h;exact h
theorem N4 (a x m:Nat):(a%m*4294967296+x)%m=(a*4294967296+x)%m:=by
 rw [Nat.add_mod,Nat.mod_mul_mod,←Nat.add_mod]
theorem zU:nD 0= [0,0,0,0,0,0,0,0]:=by decide+kernel
theorem Yn (q:List Nat) (w:World) (hq:q.length=16) (hl:∀k,q.getD k 0<4294967296) (hT:Bl w):
 Calls Tryz.prog 47 #[Aa q] w (gvn (Aa (nD (pre q 16%NP.LL))) w):=by
 have h:=DE q (nD NP.LL) (nD Sh) (fun j=>nD (hiW q (16-j)%NP.LL)) w hq (fun j=>rfl) (by
  show nD (hiW q (16-16)%NP.LL)=_;rw [show 16-16=0 from rfl,hiW,Nat.zero_mod,zU]) (fun k hk W hO hT2=>by
  have h2:=YR (hiW q (16-(k+1))%NP.LL) (q.getD k 0) W (Nat.mod_lt _ (by decide)) (hl k) hO hT2;obtain ⟨m,hm⟩:∃m,16-k=m+1:=⟨15-k,by omega⟩;rw [N4,show 16-(k+1)=m by omega] at h2;show Calls Tryz.prog 90 #[Aa (nD (hiW q (16-(k+1))%NP.LL)),Ga (q.getD k 0)] W fun e w'=>e=.returned (Aa (nD (hiW q (16-k)%NP.LL)))∧_;rw [hm,hiW,show 15-m=k by omega,show 16-(k+1)=m by omega];exact h2) hT.1 hT.2
 rw [show 16-0=16 from rfl,N9] at h;exact h
theorem XM (a b:List Nat) (ha:a.length=8):∀k,pre (a++b) (8+k)=pre a 8+mm*pre b k
 |0=>by
  rw [Nat.add_zero,show pre b 0=0 from rfl,Nat.mul_zero,Nat.add_zero];refine qv _ _ 8 fun i hi=>?_;rw [Yaj,List.getElem?_append_left (by omega),←Yaj]
 |k+1=>by
  have e:(a++b).getD (8+k) 0=b.getD k 0:=by
   rw [Yaj,List.getElem?_append_right (by omega),ha,Nat.add_sub_cancel_left,←Yaj]
  rw [←Nat.add_assoc,UB (a++b) (8+k),XM a b ha k,UB b k,e,Nat.pow_add,TR,Nat.mul_add,Nat.mul_left_comm,Nat.add_assoc]
theorem qU (n m:Nat) (k:Nat):(nD n++nD m).getD k 0<4294967296:=by
 rcases Nat.lt_or_ge k 8 with h|h
 ·rw [Yaj,List.getElem?_append_left (by rw [qe];exact h),←Yaj];exact (Td n).2 k
 ·rw [Yaj,List.getElem?_append_right (by rw [qe];exact h),←Yaj];exact (Td m).2 _
theorem YM (n m:Nat) (hn:n<mm) (hm:m<mm):pre (nD n++nD m) 16=n+mm*m:=by
 have h:=XM (nD n) (nD m) (qe n) 8;rw [Ce n hn,Ce m hm] at h;exact h
theorem Gw (b:List UInt8) (hb:b.length=32):lev b<mm:=Gu b hb
theorem ZM {n:Nat} (h:n<NP.LL):n<mm:=Nat.lt_trans h (by decide)
theorem O4 (n:Nat):n%NP.LL<NP.LL:=Nat.mod_lt _ (by decide)
theorem Fy (b:List UInt8) (w:World) (hb:b.length=32) (hT:Bl w):Calls Tryz.prog 46 #[Ca b] w (gvn (Aa (nD (lev b%NP.LL))) w):=by
 have hp:=YM (lev b) 0 (Gw b hb) (by decide);rw [Nat.mul_zero,Nat.add_zero] at hp;refine zI b (nD (lev b)) (nD 0) (nD (lev b)++nD 0) (nD (lev b%NP.LL)) (nD NP.LL) (nD Sh) w hb rfl (fun W=>Hj b W hb) (by rw [zU];exact RX) (fun W=>Tu _ _ W rfl rfl) (fun W hO hT2=>?_) hT.1 hT.2;have h:=Yn (nD (lev b)++nD 0) W rfl (qU _ _) ⟨hO,hT2⟩;rw [hp] at h;exact h
theorem XX (a b:List UInt8) (w:World) (ha:a.length=32) (hb:b.length=32) (hT:Bl w):Calls Tryz.prog 16 #[Ca a,Ca b] w (gvn (Ca (Ob ((lev a+lev b)%NP.LL) 32)) w):=by
 have h1:=O4 (lev a);have h2:=O4 (lev b);have hs:lev a%NP.LL+lev b%NP.LL<mm:=Nat.lt_trans (Nat.add_lt_add h1 h2) (by decide);refine xR a b _ (nD (lev a%NP.LL)) (nD (lev b%NP.LL)) (nD (lev a%NP.LL+lev b%NP.LL)) (nD ((lev a+lev b)%NP.LL)) (nD NP.LL) (nD Sh) w ha hb (Ta _ _) rfl (fun W hO hT2=>Fy a W ha ⟨hO,hT2⟩) (fun W hO hT2=>Fy b W hb ⟨hO,hT2⟩) (fun W=>?_) (fun W hO=>?_) (fun W=>Dm _ W) hT.1 hT.2
 ·have h:=qB (lev a%NP.LL) (lev b%NP.LL) W (ZM h1) (ZM h2);rw [yaj hs] at h;exact h
 ·have h:=AC (lev a%NP.LL+lev b%NP.LL) NP.LL W hs (by decide) (Nat.le_add_left _ _) hO;have e:(if lev a%NP.LL+lev b%NP.LL<NP.LL then lev a%NP.LL+lev b%NP.LL+NP.LL-NP.LL else lev a%NP.LL+lev b%NP.LL-NP.LL)=(lev a+lev b)%NP.LL:=by
   rw [Nat.add_mod];generalize lev a%NP.LL=x at *;generalize lev b%NP.LL=y at *;generalize NP.LL=L at *
   split
   ·rename_i hl;rw [Nat.add_sub_cancel,yaj hl]
   ·rename_i hl;rw [Nat.mod_eq_sub_mod (by omega),yaj (by omega)]
  rw [e] at h;exact h
theorem xM (a b:List UInt8) (w:World) (ha:a.length=32) (hb:b.length=32) (hT:Bl w):Calls Tryz.prog 17 #[Ca a,Ca b] w (gvn (Ca (Ob (lev a*lev b%NP.LL) 32)) w):=by
 refine qI a b _ (nD (lev a)) (nD (lev b)) (prR (lev a) (lev b)) (nD (lev a*lev b%NP.LL)) (nD NP.LL) (nD Sh) w ha hb (Ta _ _) (fun W=>Hj a W ha) (fun W=>Hj b W hb) (fun W=>FE _ _ W) (fun W hO hT2=>?_) (fun W=>Dm _ W) hT.1 hT.2;have h:=Yn (prR (lev a) (lev b)) W (EC _ _) (Rad _ _) ⟨hO,hT2⟩;rw [J9 _ _ (Gw a ha) (Gw b hb)] at h;exact h
theorem Gy (b:List UInt8) (w:World) (hb:b.length=32) (hT:Bl w):Calls Tryz.prog 25 #[Ca b] w (gvn (.bool (decide (lev b<NP.LL))) w):=
 AJ b (nD (lev b)) (nD ((lev b+mm-NP.LL)%mm)) (nD NP.LL) _ w hb rfl rfl (fun W=>Hj b W hb) (fun W=>Cy _ _ W (Gw b hb) (by decide)) hT.1
theorem yR (b:List UInt8) (hb:b.length=64):lev b=lev ((b.drop 0).take 32)+mm*lev ((b.drop 32).take 32):=by
 have h:=Aj (b.take 32) (b.drop 32);rw [List.take_append_drop,zaj,Nat.min_eq_left (by omega),show (256:Nat)^32=mm from by decide+kernel] at h;rw [List.drop_zero,Zaj (l:=b.drop 32) (by rw [List.length_drop];omega)];exact h
theorem BJ (b:List UInt8) (w:World) (hb:b.length=64) (hT:Bl w):Calls Tryz.prog 38 #[Ca b] w (gvn (Ca (Ob (lev b%NP.LL) 32)) w):=by
 have l1:((b.drop 0).take 32).length=32:=by rw [zaj,List.length_drop];omega
 have l2:((b.drop 32).take 32).length=32:=by rw [zaj,List.length_drop];omega
 refine GE b ((b.drop 0).take 32) ((b.drop 32).take 32) _ (nD (lev ((b.drop 0).take 32))) (nD (lev ((b.drop 32).take 32))) (nD (lev ((b.drop 0).take 32))++nD (lev ((b.drop 32).take 32))) (nD (lev b%NP.LL)) (nD NP.LL) (nD Sh) w l1 l2 (Ta _ _) rfl rfl rfl rfl (fun W=>Hj _ W l1) (fun W=>Hj _ W l2) (fun W=>Tu _ _ W rfl rfl) (fun W hO hT2=>?_) (fun W=>Dm _ W) hT.1 hT.2;have h:=Yn (nD (lev ((b.drop 0).take 32))++nD (lev ((b.drop 32).take 32))) W rfl (qU _ _) ⟨hO,hT2⟩;rw [YM _ _ (Gw _ l1) (Gw _ l2),←yR b hb] at h;exact h
end Go.Proofs.YtoggkhjaghkpnaaGreatDoor
namespace Go.Proofs.YtoggkhjaghkpnaaGreatDoor.NP
structure Edw (P:Nat) (d i:Int):Prop where
 prime:Pr P
 odd:¬(P:Int)∣2
 root:(P:Int)∣i*i+1
 non:∀s t:Int,(P:Int)∣s*s-d*(t*t)→(P:Int)∣t
def On (P:Nat) (d x y:Int):Prop:=(P:Int)∣y*y-x*x-1-d*x*x*y*y
theorem Pr.not_one {P:Nat} (h:Pr P):¬(P:Int)∣1:=fun hd=>by
 have h1:=Int.natCast_dvd_natCast.1 (show ((P:Nat):Int)∣((1:Nat):Int) from hd);have h2:=Nat.le_of_dvd (by decide) h1;have :=h.1;omega
theorem Edw.part {P:Nat} {d i:Int} (h:Edw P d i) {x1 y1 x2 y2 e f:Int} (he:e*e=1) (hf:f*f=1) (h1:On P d x1 y1) (h2:On P d x2 y2) (hk:(P:Int)∣e-d*x1*x2*y1*y2):(P:Int)∣x1*y1*(i*x2+f*y2):=by
 obtain ⟨u1,hu1⟩:=h1;obtain ⟨u2,hu2⟩:=h2;obtain ⟨v,hv⟩:=hk;obtain ⟨j,hj⟩:=h.root;refine h.non (i*x1+e*f*y1) _ ⟨u1-d*x1*x1*y1*y1*u2+v*(e+d*x1*x2*y1*y2)+2*i*x1*y1*f*v+j*x1*x1-d*x1*x1*y1*y1*j*x2*x2,?_⟩
 grind
theorem Edw.apart {P:Nat} {d i:Int} (h:Edw P d i) {x1 y1 x2 y2 e:Int} (he:e*e=1) (h1:On P d x1 y1) (h2:On P d x2 y2):¬(P:Int)∣e-d*x1*x2*y1*y2:=fun hk=>by
 obtain ⟨a,ha⟩:=h.part (f:=1) he rfl h1 h2 hk;obtain ⟨b,hb⟩:=h.part (f:= -1) he rfl h1 h2 hk;obtain ⟨v,hv⟩:=hk;obtain ⟨j,hj⟩:=h.root;have h3:(P:Int)∣2*(i*(d*x1*x2*y1*y2)):=⟨(a+b)*(d*y2),by grind⟩;rcases h.prime.int h3 with h4|h4
 ·exact h.odd h4
 ·rcases h.prime.int h4 with ⟨c,hc⟩|⟨c,hc⟩
  ·exact h.prime.not_one ⟨j-c*i,by rw [Int.mul_sub,←Int.mul_assoc,←hc,←hj];omega⟩
  ·have h5:e=(P:Int)*(v+c):=by rw [Int.mul_add,←hv,←hc];omega
   exact h.prime.not_one ⟨e*(v+c),by rw [Int.mul_left_comm,←h5,he]⟩
theorem Edw.plus {P:Nat} {d i:Int} (h:Edw P d i) {x1 y1 x2 y2:Int} (h1:On P d x1 y1) (h2:On P d x2 y2):¬(P:Int)∣1+d*x1*x2*y1*y2:=fun ⟨c,hc⟩=>
 h.apart (e:= -1) rfl h1 h2 ⟨-c,by grind⟩
theorem Edw.less {P:Nat} {d i:Int} (h:Edw P d i) {x1 y1 x2 y2:Int} (h1:On P d x1 y1) (h2:On P d x2 y2):¬(P:Int)∣1-d*x1*x2*y1*y2:=h.apart (e:=1) rfl h1 h2
def Sum (P:Nat) (d x1 y1 x2 y2 x3 y3:Int):Prop:=(P:Int)∣x3*(1+d*x1*x2*y1*y2)-(x1*y2+x2*y1)∧(P:Int)∣y3*(1-d*x1*x2*y1*y2)-(y1*y2+x1*x2)
theorem cancel {P:Nat} (hP:Pr P) {a b c:Int} (hc:¬(P:Int)∣c) (h:(P:Int)∣a*c-b*c):(P:Int)∣a-b:=by
 rw [←Int.sub_mul] at h;exact (hP.int h).resolve_right hc
theorem Edw.one {P:Nat} {d i:Int} (h:Edw P d i) {x1 y1 x2 y2 x3 y3 x4 y4:Int} (h1:On P d x1 y1) (h2:On P d x2 y2) (h3:Sum P d x1 y1 x2 y2 x3 y3) (h4:Sum P d x1 y1 x2 y2 x4 y4):(P:Int)∣x3-x4∧(P:Int)∣y3-y4:=by
 obtain ⟨⟨a,ha⟩,⟨b,hb⟩⟩:=h3;obtain ⟨⟨a',ha'⟩,⟨b',hb'⟩⟩:=h4;exact ⟨cancel h.prime (h.plus h1 h2) ⟨a-a',by grind⟩,cancel h.prime (h.less h1 h2) ⟨b-b',by grind⟩⟩
theorem Sum.swap {P:Nat} {d x1 y1 x2 y2 x3 y3:Int} (h:Sum P d x1 y1 x2 y2 x3 y3):Sum P d x2 y2 x1 y1 x3 y3:=by
 obtain ⟨⟨a,ha⟩,⟨b,hb⟩⟩:=h;exact ⟨⟨a,by grind⟩,⟨b,by grind⟩⟩
theorem assoc_x (d x1 y1 x2 y2 x3 y3:Int):((x1*y2+x2*y1)*(1-d*x1*x2*y1*y2)*y3+(y1*y2+x1*x2)*(1+d*x1*x2*y1*y2)*x3)*((1+d*x2*x3*y2*y3)*(1-d*x2*x3*y2*y3)+d*(x2*y3+x3*y2)*(y2*y3+x2*x3)*x1*y1)-((x2*y3+x3*y2)*(1-d*x2*x3*y2*y3)*y1+(y2*y3+x2*x3)*(1+d*x2*x3*y2*y3)*x1)*((1+d*x1*x2*y1*y2)*(1-d*x1*x2*y1*y2)+d*(x1*y2+x2*y1)*(y1*y2+x1*x2)*x3*y3)=((-1)*d*y1*x2*y2^4*x3^2*y3+(-1)*d*y1*x2^2*y2^3*x3+(-1)*d*y1*x2^2*y2^3*x3^3+(-1)*d*y1*x2^3*y2^2*y3+(1)*d*y1*x2^3*y2^2*y3^3+(1)*d*y1*x2^4*y2*x3*y3^2+(1)*d*x1*x2*y2^4*x3*y3^2+(-1)*d*x1*x2^2*y2^3*y3+(1)*d*x1*x2^2*y2^3*y3^3+(-1)*d*x1*x2^3*y2^2*x3+(-1)*d*x1*x2^3*y2^2*x3^3+(-1)*d*x1*x2^4*y2*x3^2*y3+(1)*d^2*y1*x2^3*y2^4*x3^2*y3+(1)*d^2*y1*x2^4*y2^3*x3*y3^2+(-1)*d^2*x1*x2^3*y2^4*x3*y3^2+(-1)*d^2*x1*x2^4*y2^3*x3^2*y3)*(y1*y1-x1*x1-1-d*x1*x1*y1*y1)+((1)*y1*y2*x3+(-1)*y1*y2*x3*y3^2+(1)*y1*y2*x3^3+(1)*y1*x2*y3+(-1)*y1*x2*y3^3+(1)*y1*x2*x3^2*y3+(-1)*y1^3*y2*x3+(1)*y1^3*y2*x3*y3^2+(-1)*y1^3*y2*x3^3+(-1)*y1^3*x2*y3+(1)*y1^3*x2*y3^3+(-1)*y1^3*x2*x3^2*y3+(1)*x1*y2*y3+(-1)*x1*y2*y3^3+(1)*x1*y2*x3^2*y3+(1)*x1*x2*x3+(-1)*x1*x2*x3*y3^2+(1)*x1*x2*x3^3+(-1)*x1*y1^2*y2*y3+(1)*x1*y1^2*y2*y3^3+(-1)*x1*y1^2*y2*x3^2*y3+(-1)*x1*y1^2*x2*x3+(1)*x1*y1^2*x2*x3*y3^2+(-1)*x1*y1^2*x2*x3^3+(1)*x1^2*y1*y2*x3+(-1)*x1^2*y1*y2*x3*y3^2+(1)*x1^2*y1*y2*x3^3+(1)*x1^2*y1*x2*y3+(-1)*x1^2*y1*x2*y3^3+(1)*x1^2*y1*x2*x3^2*y3+(1)*x1^3*y2*y3+(-1)*x1^3*y2*y3^3+(1)*x1^3*y2*x3^2*y3+(1)*x1^3*x2*x3+(-1)*x1^3*x2*x3*y3^2+(1)*x1^3*x2*x3^3+(1)*d*y1*y2*x3^3*y3^2+(1)*d*y1*x2*x3^2*y3^3+(-1)*d*y1*x2*y2^2*x3^2*y3+(-1)*d*y1*x2^2*y2*x3*y3^2+(-1)*d*y1^3*y2*x3^3*y3^2+(-1)*d*y1^3*x2*x3^2*y3^3+(1)*d*y1^3*x2*y2^2*x3^2*y3+(1)*d*y1^3*x2^2*y2*x3*y3^2+(1)*d*x1*y2*x3^2*y3^3+(1)*d*x1*x2*x3^3*y3^2+(1)*d*x1*x2*y2^2*x3*y3^2+(1)*d*x1*x2^2*y2*x3^2*y3+(-1)*d*x1*y1^2*y2*x3^2*y3^3+(-1)*d*x1*y1^2*x2*x3^3*y3^2+(-1)*d*x1*y1^2*x2*y2^2*x3*y3^2+(-1)*d*x1*y1^2*x2^2*y2*x3^2*y3+(1)*d*x1^2*y1*y2*x3^3*y3^2+(1)*d*x1^2*y1*x2*x3^2*y3^3+(-1)*d*x1^2*y1*x2*y2^2*x3^2*y3+(-1)*d*x1^2*y1*x2^2*y2*x3*y3^2+(1)*d*x1^3*y2*x3^2*y3^3+(1)*d*x1^3*x2*x3^3*y3^2+(1)*d*x1^3*x2*y2^2*x3*y3^2+(1)*d*x1^3*x2^2*y2*x3^2*y3+(1)*d^2*x1*y1^2*x2*y2^2*x3^3*y3^2+(-1)*d^2*x1*y1^2*x2^2*y2*x3^2*y3^3+(-1)*d^2*x1^2*y1*x2*y2^2*x3^2*y3^3+(1)*d^2*x1^2*y1*x2^2*y2*x3^3*y3^2)*(y2*y2-x2*x2-1-d*x2*x2*y2*y2)+((-1)*y1*y2*x3+(1)*y1*y2^3*x3+(-1)*y1*x2*y3+(1)*y1*x2*y2^2*y3+(-1)*y1*x2^2*y2*x3+(-1)*y1*x2^3*y3+(1)*y1^3*y2*x3+(-1)*y1^3*y2^3*x3+(1)*y1^3*x2*y3+(-1)*y1^3*x2*y2^2*y3+(1)*y1^3*x2^2*y2*x3+(1)*y1^3*x2^3*y3+(-1)*x1*y2*y3+(1)*x1*y2^3*y3+(-1)*x1*x2*x3+(1)*x1*x2*y2^2*x3+(-1)*x1*x2^2*y2*y3+(-1)*x1*x2^3*x3+(1)*x1*y1^2*y2*y3+(-1)*x1*y1^2*y2^3*y3+(1)*x1*y1^2*x2*x3+(-1)*x1*y1^2*x2*y2^2*x3+(1)*x1*y1^2*x2^2*y2*y3+(1)*x1*y1^2*x2^3*x3+(-1)*x1^2*y1*y2*x3+(1)*x1^2*y1*y2^3*x3+(-1)*x1^2*y1*x2*y3+(1)*x1^2*y1*x2*y2^2*y3+(-1)*x1^2*y1*x2^2*y2*x3+(-1)*x1^2*y1*x2^3*y3+(-1)*x1^3*y2*y3+(1)*x1^3*y2^3*y3+(-1)*x1^3*x2*x3+(1)*x1^3*x2*y2^2*x3+(-1)*x1^3*x2^2*y2*y3+(-1)*x1^3*x2^3*x3+(-1)*d*x1*y1^2*x2*y2^2*x3+(1)*d*x1*y1^2*x2^2*y2*y3+(1)*d*x1^2*y1*x2*y2^2*y3+(-1)*d*x1^2*y1*x2^2*y2*x3)*(y3*y3-x3*x3-1-d*x3*x3*y3*y3):=by grind
theorem assoc_y (d x1 y1 x2 y2 x3 y3:Int):((y1*y2+x1*x2)*(1+d*x1*x2*y1*y2)*y3+(x1*y2+x2*y1)*(1-d*x1*x2*y1*y2)*x3)*((1+d*x2*x3*y2*y3)*(1-d*x2*x3*y2*y3)-d*(x2*y3+x3*y2)*(y2*y3+x2*x3)*x1*y1)-((y2*y3+x2*x3)*(1+d*x2*x3*y2*y3)*y1+(x2*y3+x3*y2)*(1-d*x2*x3*y2*y3)*x1)*((1+d*x1*x2*y1*y2)*(1-d*x1*x2*y1*y2)-d*(x1*y2+x2*y1)*(y1*y2+x1*x2)*x3*y3)=((1)*d*y1*x2*y2^4*x3*y3^2+(-1)*d*y1*x2^2*y2^3*y3+(1)*d*y1*x2^2*y2^3*y3^3+(-1)*d*y1*x2^3*y2^2*x3+(-1)*d*y1*x2^3*y2^2*x3^3+(-1)*d*y1*x2^4*y2*x3^2*y3+(-1)*d*x1*x2*y2^4*x3^2*y3+(-1)*d*x1*x2^2*y2^3*x3+(-1)*d*x1*x2^2*y2^3*x3^3+(-1)*d*x1*x2^3*y2^2*y3+(1)*d*x1*x2^3*y2^2*y3^3+(1)*d*x1*x2^4*y2*x3*y3^2+(-1)*d^2*y1*x2^3*y2^4*x3*y3^2+(-1)*d^2*y1*x2^4*y2^3*x3^2*y3+(1)*d^2*x1*x2^3*y2^4*x3^2*y3+(1)*d^2*x1*x2^4*y2^3*x3*y3^2)*(y1*y1-x1*x1-1-d*x1*x1*y1*y1)+((1)*y1*y2*y3+(-1)*y1*y2*y3^3+(1)*y1*y2*x3^2*y3+(1)*y1*x2*x3+(-1)*y1*x2*x3*y3^2+(1)*y1*x2*x3^3+(-1)*y1^3*y2*y3+(1)*y1^3*y2*y3^3+(-1)*y1^3*y2*x3^2*y3+(-1)*y1^3*x2*x3+(1)*y1^3*x2*x3*y3^2+(-1)*y1^3*x2*x3^3+(1)*x1*y2*x3+(-1)*x1*y2*x3*y3^2+(1)*x1*y2*x3^3+(1)*x1*x2*y3+(-1)*x1*x2*y3^3+(1)*x1*x2*x3^2*y3+(-1)*x1*y1^2*y2*x3+(1)*x1*y1^2*y2*x3*y3^2+(-1)*x1*y1^2*y2*x3^3+(-1)*x1*y1^2*x2*y3+(1)*x1*y1^2*x2*y3^3+(-1)*x1*y1^2*x2*x3^2*y3+(1)*x1^2*y1*y2*y3+(-1)*x1^2*y1*y2*y3^3+(1)*x1^2*y1*y2*x3^2*y3+(1)*x1^2*y1*x2*x3+(-1)*x1^2*y1*x2*x3*y3^2+(1)*x1^2*y1*x2*x3^3+(1)*x1^3*y2*x3+(-1)*x1^3*y2*x3*y3^2+(1)*x1^3*y2*x3^3+(1)*x1^3*x2*y3+(-1)*x1^3*x2*y3^3+(1)*x1^3*x2*x3^2*y3+(1)*d*y1*y2*x3^2*y3^3+(1)*d*y1*x2*x3^3*y3^2+(1)*d*y1*x2*y2^2*x3*y3^2+(1)*d*y1*x2^2*y2*x3^2*y3+(-1)*d*y1^3*y2*x3^2*y3^3+(-1)*d*y1^3*x2*x3^3*y3^2+(-1)*d*y1^3*x2*y2^2*x3*y3^2+(-1)*d*y1^3*x2^2*y2*x3^2*y3+(1)*d*x1*y2*x3^3*y3^2+(1)*d*x1*x2*x3^2*y3^3+(-1)*d*x1*x2*y2^2*x3^2*y3+(-1)*d*x1*x2^2*y2*x3*y3^2+(-1)*d*x1*y1^2*y2*x3^3*y3^2+(-1)*d*x1*y1^2*x2*x3^2*y3^3+(1)*d*x1*y1^2*x2*y2^2*x3^2*y3+(1)*d*x1*y1^2*x2^2*y2*x3*y3^2+(1)*d*x1^2*y1*y2*x3^2*y3^3+(1)*d*x1^2*y1*x2*x3^3*y3^2+(1)*d*x1^2*y1*x2*y2^2*x3*y3^2+(1)*d*x1^2*y1*x2^2*y2*x3^2*y3+(1)*d*x1^3*y2*x3^3*y3^2+(1)*d*x1^3*x2*x3^2*y3^3+(-1)*d*x1^3*x2*y2^2*x3^2*y3+(-1)*d*x1^3*x2^2*y2*x3*y3^2+(1)*d^2*x1*y1^2*x2*y2^2*x3^2*y3^3+(-1)*d^2*x1*y1^2*x2^2*y2*x3^3*y3^2+(-1)*d^2*x1^2*y1*x2*y2^2*x3^3*y3^2+(1)*d^2*x1^2*y1*x2^2*y2*x3^2*y3^3)*(y2*y2-x2*x2-1-d*x2*x2*y2*y2)+((-1)*y1*y2*y3+(1)*y1*y2^3*y3+(-1)*y1*x2*x3+(1)*y1*x2*y2^2*x3+(-1)*y1*x2^2*y2*y3+(-1)*y1*x2^3*x3+(1)*y1^3*y2*y3+(-1)*y1^3*y2^3*y3+(1)*y1^3*x2*x3+(-1)*y1^3*x2*y2^2*x3+(1)*y1^3*x2^2*y2*y3+(1)*y1^3*x2^3*x3+(-1)*x1*y2*x3+(1)*x1*y2^3*x3+(-1)*x1*x2*y3+(1)*x1*x2*y2^2*y3+(-1)*x1*x2^2*y2*x3+(-1)*x1*x2^3*y3+(1)*x1*y1^2*y2*x3+(-1)*x1*y1^2*y2^3*x3+(1)*x1*y1^2*x2*y3+(-1)*x1*y1^2*x2*y2^2*y3+(1)*x1*y1^2*x2^2*y2*x3+(1)*x1*y1^2*x2^3*y3+(-1)*x1^2*y1*y2*y3+(1)*x1^2*y1*y2^3*y3+(-1)*x1^2*y1*x2*x3+(1)*x1^2*y1*x2*y2^2*x3+(-1)*x1^2*y1*x2^2*y2*y3+(-1)*x1^2*y1*x2^3*x3+(-1)*x1^3*y2*x3+(1)*x1^3*y2^3*x3+(-1)*x1^3*x2*y3+(1)*x1^3*x2*y2^2*y3+(-1)*x1^3*x2^2*y2*x3+(-1)*x1^3*x2^3*y3+(-1)*d*x1*y1^2*x2*y2^2*y3+(1)*d*x1*y1^2*x2^2*y2*x3+(1)*d*x1^2*y1*x2*y2^2*x3+(-1)*d*x1^2*y1*x2^2*y2*y3)*(y3*y3-x3*x3-1-d*x3*x3*y3*y3):=by grind
theorem sum_on (d x1 y1 x2 y2:Int):(y1*y2+x1*x2)*(y1*y2+x1*x2)*((1+d*x1*x2*y1*y2)*(1+d*x1*x2*y1*y2))-(x1*y2+x2*y1)*(x1*y2+x2*y1)*((1-d*x1*x2*y1*y2)*(1-d*x1*x2*y1*y2))-(1+d*x1*x2*y1*y2)*(1+d*x1*x2*y1*y2)*((1-d*x1*x2*y1*y2)*(1-d*x1*x2*y1*y2))-d*((x1*y2+x2*y1)*(x1*y2+x2*y1))*((y1*y2+x1*x2)*(y1*y2+x1*x2))=((1)*y2^4+(-4)*x2^2*y2^2+(2)*x2^2*y2^4+(1)*x2^4+(-2)*x2^4*y2^2+(-2)*d*x2^2*y2^2+(-2)*d*x2^4*y2^4+(-1)*d*y1^2*x2^2*y2^4+(1)*d*y1^2*x2^4*y2^2+(1)*d*x1^2*x2^2*y2^4+(-1)*d*x1^2*x2^4*y2^2+(-1)*d^2*x2^4*y2^4+(1)*d^2*y1^2*x2^4*y2^4+(-1)*d^2*x1^2*x2^4*y2^4+(1)*d^3*x1^2*y1^2*x2^4*y2^4)*(y1*y1-x1*x1-1-d*x1*x1*y1*y1)+((1)+(1)*y2^2+(-1)*x2^2+(2)*x2^2*y2^2+(-1)*y1^2*y2^2+(1)*y1^2*x2^2+(-2)*y1^2*x2^2*y2^2+(1)*x1^2*y2^2+(-1)*x1^2*x2^2+(2)*x1^2*x2^2*y2^2+(1)*d*x2^2*y2^2+(-2)*d*y1^2*x2^2*y2^2+(1)*d*y1^4*x2^2*y2^2+(2)*d*x1^2*x2^2*y2^2+(1)*d*x1^4*x2^2*y2^2)*(y2*y2-x2*x2-1-d*x2*x2*y2*y2):=by grind
theorem sum_letters {P d nx ny dp dm x3 y3 a b w:Int} (hx:x3*dp-nx=P*a) (hy:y3*dm-ny=P*b) (hs:ny*ny*(dp*dp)-nx*nx*(dm*dm)-dp*dp*(dm*dm)-d*(nx*nx)*(ny*ny)=P*w):
 (y3*y3-x3*x3-1-d*x3*x3*y3*y3)*(dp*dp*(dm*dm))=P*(w+dp*dp*b*(ny+y3*dm)-dm*dm*a*(nx+x3*dp)-d*(a*(nx+x3*dp)*(y3*dm)*(y3*dm)+nx*nx*b*(ny+y3*dm))):=by
 obtain rfl:nx=x3*dp-P*a:=by omega
 obtain rfl:ny=y3*dm-P*b:=by omega
 grind
theorem Edw.on {P:Nat} {d i:Int} (h:Edw P d i) {x1 y1 x2 y2 x3 y3:Int} (h1:On P d x1 y1) (h2:On P d x2 y2) (h3:Sum P d x1 y1 x2 y2 x3 y3):On P d x3 y3:=by
 have hp:=h.plus h1 h2;have hm:=h.less h1 h2;obtain ⟨⟨a,ha⟩,⟨b,hb⟩⟩:=h3;have hs:=sum_on d x1 y1 x2 y2;have hw:∃w,(y1*y2+x1*x2)*(y1*y2+x1*x2)*((1+d*x1*x2*y1*y2)*(1+d*x1*x2*y1*y2))-(x1*y2+x2*y1)*(x1*y2+x2*y1)*((1-d*x1*x2*y1*y2)*(1-d*x1*x2*y1*y2))-(1+d*x1*x2*y1*y2)*(1+d*x1*x2*y1*y2)*((1-d*x1*x2*y1*y2)*(1-d*x1*x2*y1*y2))-d*((x1*y2+x2*y1)*(x1*y2+x2*y1))*((y1*y2+x1*x2)*(y1*y2+x1*x2))=(P:Int)*w:=by
  rw [hs];exact Int.dvd_add (Int.dvd_mul_of_dvd_right h1) (Int.dvd_mul_of_dvd_right h2)
 obtain ⟨w,hw⟩:=hw;have h4:=sum_letters ha hb hw;rcases h.prime.int (show (P:Int)∣_ from ⟨_,h4⟩) with h5|h5
 ·exact h5
 ·rcases h.prime.int h5 with h6|h6
  ·rcases h.prime.int h6 with h7|h7<;>exact absurd h7 hp
  ·rcases h.prime.int h6 with h7|h7<;>exact absurd h7 hm
theorem twice_letters {P d nx ny dp dm x3 y3 x4 y4 x5 a b c:Int} (hx:x4*dp-nx=P*a) (hy:y4*dm-ny=P*b) (h5:x5*(1+d*x4*x3*y4*y3)-(x4*y3+x3*y4)=P*c):
 x5*(dp*dm+d*nx*ny*x3*y3)-(nx*dm*y3+ny*dp*x3)=P*(c*dp*dm-x5*d*x3*y3*(a*(y4*dm)+nx*b)+a*dm*y3+b*dp*x3):=by
 obtain rfl:nx=x4*dp-P*a:=by omega
 obtain rfl:ny=y4*dm-P*b:=by omega
 grind
theorem twice_letters' {P d nx ny dp dm x3 y3 x4 y4 y5 a b c:Int} (hx:x4*dp-nx=P*a) (hy:y4*dm-ny=P*b) (h5:y5*(1-d*x4*x3*y4*y3)-(y4*y3+x4*x3)=P*c):
 y5*(dp*dm-d*nx*ny*x3*y3)-(ny*dp*y3+nx*dm*x3)=P*(c*dp*dm+y5*d*x3*y3*(a*(y4*dm)+nx*b)+b*dp*y3+a*dm*x3):=by
 obtain rfl:nx=x4*dp-P*a:=by omega
 obtain rfl:ny=y4*dm-P*b:=by omega
 grind
theorem den_letters {P d nx ny dp dm x3 y3 x4 y4 a b:Int} (hx:x4*dp-nx=P*a) (hy:y4*dm-ny=P*b):
 dp*dm*(1+d*x4*x3*y4*y3)=(dp*dm+d*nx*ny*x3*y3)+P*(d*x3*y3*(a*(y4*dm)+nx*b)):=by
 obtain rfl:nx=x4*dp-P*a:=by omega
 obtain rfl:ny=y4*dm-P*b:=by omega
 grind
theorem den_letters' {P d nx ny dp dm x3 y3 x4 y4 a b:Int} (hx:x4*dp-nx=P*a) (hy:y4*dm-ny=P*b):
 dp*dm*(1-d*x4*x3*y4*y3)=(dp*dm-d*nx*ny*x3*y3)-P*(d*x3*y3*(a*(y4*dm)+nx*b)):=by
 obtain rfl:nx=x4*dp-P*a:=by omega
 obtain rfl:ny=y4*dm-P*b:=by omega
 grind
theorem meet_letters {P s t na da nb db u v w:Int} (h1:s*da-na=P*u) (h2:t*db-nb=P*v) (h3:na*db-nb*da=P*w):(s-t)*(da*db)=P*(u*db-v*da+w):=by
 obtain rfl:na=s*da-P*u:=by omega
 obtain rfl:nb=t*db-P*v:=by omega
 grind
theorem three {P l c1 e1 c2 e2 c3 e3:Int} (h:l=c1*e1+c2*e2+c3*e3) (h1:P∣e1) (h2:P∣e2) (h3:P∣e3):∃w,l=P*w:=by
 rw [h];exact Int.dvd_add (Int.dvd_add (Int.dvd_mul_of_dvd_right h1) (Int.dvd_mul_of_dvd_right h2)) (Int.dvd_mul_of_dvd_right h3)
theorem Edw.goes {P:Nat} {d i:Int} (h:Edw P d i) {x1 y1 x2 y2 x3 y3 x4 y4 x5 y5 x6 y6 x7 y7:Int} (h1:On P d x1 y1) (h2:On P d x2 y2) (h3:On P d x3 y3)
 (s4:Sum P d x1 y1 x2 y2 x4 y4) (s5:Sum P d x4 y4 x3 y3 x5 y5) (s6:Sum P d x2 y2 x3 y3 x6 y6) (s7:Sum P d x6 y6 x1 y1 x7 y7):(P:Int)∣x5-x7∧(P:Int)∣y5-y7:=by
 have h4:=h.on h1 h2 s4;have h6:=h.on h2 h3 s6;have p12:=h.plus h1 h2;have m12:=h.less h1 h2;have p23:=h.plus h2 h3;have m23:=h.less h2 h3;have p43:=h.plus h4 h3;have m43:=h.less h4 h3;have p61:=h.plus h6 h1;have m61:=h.less h6 h1;obtain ⟨⟨a,ha⟩,⟨b,hb⟩⟩:=s4;obtain ⟨⟨a',ha'⟩,⟨b',hb'⟩⟩:=s6;obtain ⟨⟨c,hc⟩,⟨e,he⟩⟩:=s5;obtain ⟨⟨c',hc'⟩,⟨e',he'⟩⟩:=s7;have two:∀{x y z:Int},¬(P:Int)∣x→¬(P:Int)∣y→¬(P:Int)∣z→¬(P:Int)∣x*y*z:=fun hx hy hz hd=>by
  rcases h.prime.int hd with h8|h8
  ·rcases h.prime.int h8 with h9|h9
   ·exact hx h9
   ·exact hy h9
  ·exact hz h8
 have nz:∀{x y z:Int},¬(P:Int)∣x→x=y+P*z→¬(P:Int)∣y:=fun hx e hd=>hx (e▸Int.dvd_add hd ⟨_,rfl⟩);have nz':∀{x y z:Int},¬(P:Int)∣x→x=y-P*z→¬(P:Int)∣y:=fun hx e hd=>hx (e▸Int.dvd_sub hd ⟨_,rfl⟩);have fin:∀{s t x y z:Int},¬(P:Int)∣x→¬(P:Int)∣y→(s-t)*(x*y)=P*z→(P:Int)∣s-t:=fun hx hy e=>by
  rcases h.prime.int (show (P:Int)∣_ from ⟨_,e⟩) with h8|h8
  ·exact h8
  ·rcases h.prime.int h8 with h9|h9
   ·exact absurd h9 hx
   ·exact absurd h9 hy
 obtain ⟨wx,hwx⟩:=three (assoc_x d x1 y1 x2 y2 x3 y3) h1 h2 h3;obtain ⟨wy,hwy⟩:=three (assoc_y d x1 y1 x2 y2 x3 y3) h1 h2 h3;exact ⟨fin (nz (two p12 m12 p43) (den_letters ha hb)) (nz (two p23 m23 p61) (den_letters ha' hb')) (meet_letters (twice_letters ha hb hc) (twice_letters ha' hb' hc') hwx),
  fin (nz' (two p12 m12 m43) (den_letters' ha hb)) (nz' (two p23 m23 m61) (den_letters' ha' hb')) (meet_letters (twice_letters' ha hb he) (twice_letters' ha' hb' he') hwy)⟩
def dE:Nat:=37095705934669439343138083508754565189542113879843219016388785533085940283555
def iE:Nat:=19681161376707505956807079304988542015446066515923890162744021073123829784752
theorem euler_not {P k D:Nat} (hP:Pr P) (hk:P=2*k+1) (h2:¬(P:Int)∣2) (hD:(D^k+1)%P=0) {a b:Nat} (h:a*a%P=D*(b*b)%P) (hb:¬P∣b):False:=by
 have hb1:=hP.little hb;rw [show P-1=2*k by omega] at hb1;have e1:a^(2*k)%P=D^k*b^(2*k)%P:=by
  rw [Nat.pow_mul,Nat.pow_two,Nat.pow_mod,h,←Nat.pow_mod,Nat.mul_pow,Nat.pow_mul,Nat.pow_two]
 rw [Nat.mul_mod,hb1,Nat.mul_one,Nat.mod_mod] at e1;by_cases ha:P∣a
 ·by_cases hk0:k=0
  ·have :=hP.1;omega
  ·have h4:P∣a^(2*k):=Nat.dvd_trans ha (dvd_pow_self a (by omega));rw [Nat.mod_eq_zero_of_dvd h4] at e1;rw [Nat.add_mod,←e1,Nat.zero_add,Nat.mod_mod] at hD;have :=hP.1;rw [yaj (by omega)] at hD;omega
 ·have ha1:=hP.little ha;rw [show P-1=2*k by omega,e1] at ha1;rw [Nat.add_mod,ha1] at hD;refine h2 ?_;have :=hP.1;have h5:P∣1+1:=by
   have h6:(1+1%P)%P=0:=hD;rw [yaj (show 1<P by omega)] at h6;exact Nat.dvd_of_mod_eq_zero h6
  exact Int.natCast_dvd_natCast.2 h5
theorem no_square {P k D:Nat} (hP:Pr P) (hk:P=2*k+1) (h2:¬(P:Int)∣2) (hD:(D^k+1)%P=0) (s t:Int) (h:(P:Int)∣s*s-(D:Int)*(t*t)):(P:Int)∣t:=by
 refine Classical.byContradiction fun ht=>?_;have e:((s.natAbs*s.natAbs:Nat):Int)=s*s:=Int.natAbs_mul_self;have e2:((t.natAbs*t.natAbs:Nat):Int)=t*t:=Int.natAbs_mul_self;refine euler_not hP hk h2 hD (a:=s.natAbs) (b:=t.natAbs) ?_ (fun hb=>ht ?_)
 ·rw [cg,e,Int.natCast_mul,e2];exact h
 ·exact Int.natAbs_dvd_natAbs.1 (by simpa using hb)
theorem d_power (k:Nat) (hk:2*k+1=PP):(dE^k+1)%PP=0:=by
 have hl:k<2^256:=by simp only [PP] at hk;omega
 have h:=pw_eq PP 256 dE k hl;rw [Nat.add_mod,←h];obtain rfl:k=28948022309329048855892746252171976963317496166410141009864396001978282409974:=by simp only [PP] at hk;omega
 decide+kernel
theorem odd_P:¬((PP:Nat):Int)∣2:=by decide+kernel
theorem edw:Edw PP dE iE where
 prime:=pr_P
 odd:=odd_P
 root:=by decide+kernel
 non:=fun s t h=>by
  obtain ⟨k,hk⟩:∃k,2*k+1=PP:=⟨28948022309329048855892746252171976963317496166410141009864396001978282409974,by decide⟩;exact no_square pr_P hk.symm odd_P (d_power k hk) s t h
theorem inv_int {P:Nat} (hP:Pr P) (x:Int) (hx:¬(P:Int)∣x):∃y:Int,(P:Int)∣x*y-1:=by
 have hn:¬P∣x.natAbs:=fun h=>hx (Int.natAbs_dvd_natAbs.1 (by simpa using h));have h:=hP.little hn;have h2:=hP.1;obtain ⟨q,hq⟩:∃q,P-1=q+1:=⟨P-2,by omega⟩;rw [hq,Nat.pow_succ] at h;have h3:=(cg (x.natAbs^q*x.natAbs) 1 P).1 (by rw [h,yaj (by omega)]);rw [Int.natCast_mul] at h3;rcases Int.natAbs_eq x with e|e
 ·refine ⟨((x.natAbs^q:Nat):Int),?_⟩;rw [←e,Int.mul_comm] at h3;exact h3
 ·refine ⟨-((x.natAbs^q:Nat):Int),?_⟩;have e2:((x.natAbs:Nat):Int)= -x:=by omega
  rw [e2,Int.mul_neg,Int.mul_comm,←Int.mul_neg] at h3;exact h3
theorem Edw.there {P:Nat} {d i:Int} (h:Edw P d i) {x1 y1 x2 y2:Int} (h1:On P d x1 y1) (h2:On P d x2 y2):∃x3 y3,Sum P d x1 y1 x2 y2 x3 y3:=by
 obtain ⟨u,v,hu⟩:=inv_int h.prime _ (h.plus h1 h2);obtain ⟨u',v',hu'⟩:=inv_int h.prime _ (h.less h1 h2);refine ⟨(x1*y2+x2*y1)*u,(y1*y2+x1*x2)*u',⟨(x1*y2+x2*y1)*v,?_⟩,⟨(y1*y2+x1*x2)*v',?_⟩⟩
 ·generalize 1+d*x1*x2*y1*y2=q at *;generalize x1*y2+x2*y1=r at *
  grind
 ·generalize 1-d*x1*x2*y1*y2=q at *;generalize y1*y2+x1*x2=r at *
  grind
structure Pt (P:Nat) (d:Int) where
 x:Int
 y:Int
 on:On P d x y
 xl:x%(P:Int)=x
 yl:y%(P:Int)=y
theorem Pt.same {P:Nat} {d:Int} {p q:Pt P d} (hx:(P:Int)∣p.x-q.x) (hy:(P:Int)∣p.y-q.y):p=q:=by
 have h1:=Int.emod_emod_of_dvd;have ex:p.x=q.x:=by rw [←p.xl,←q.xl];exact Int.emod_eq_emod_iff_emod_sub_eq_zero.2 (Int.emod_eq_zero_of_dvd hx)
 have ey:p.y=q.y:=by rw [←p.yl,←q.yl];exact Int.emod_eq_emod_iff_emod_sub_eq_zero.2 (Int.emod_eq_zero_of_dvd hy)
 cases p
 cases q
 cases ex
 cases ey
 rfl
theorem Sum.least {P:Nat} {d x1 y1 x2 y2 x3 y3:Int} (h:Sum P d x1 y1 x2 y2 x3 y3):Sum P d x1 y1 x2 y2 (x3%P) (y3%P):=by
 obtain ⟨⟨a,ha⟩,⟨b,hb⟩⟩:=h;have e1:x3=x3%(P:Int)+(P:Int)*(x3/P):=by rw [Int.add_comm];exact (Int.mul_ediv_add_emod x3 P).symm
 have e2:y3=y3%(P:Int)+(P:Int)*(y3/P):=by rw [Int.add_comm];exact (Int.mul_ediv_add_emod y3 P).symm
 generalize x3%(P:Int)=x at *;generalize y3%(P:Int)=y at *;generalize x3/(P:Int)=u at *;generalize y3/(P:Int)=v at *;subst e1;subst e2;exact ⟨⟨a-u*(1+d*x1*x2*y1*y2),by grind⟩,⟨b-v*(1-d*x1*x2*y1*y2),by grind⟩⟩
theorem Edw.pt {P:Nat} {d i:Int} (h:Edw P d i) (p q:Pt P d):∃r:Pt P d,Sum P d p.x p.y q.x q.y r.x r.y:=by
 obtain ⟨x,y,hs⟩:=h.there p.on q.on;have hs2:=hs.least;exact ⟨⟨_,_,h.on p.on q.on hs2,Int.emod_emod _ _,Int.emod_emod _ _⟩,hs2⟩
noncomputable def Edw.add {P:Nat} {d i:Int} (h:Edw P d i) (p q:Pt P d):Pt P d:=Classical.choose (h.pt p q)
theorem Edw.add_is {P:Nat} {d i:Int} (h:Edw P d i) (p q:Pt P d):Sum P d p.x p.y q.x q.y (h.add p q).x (h.add p q).y:=Classical.choose_spec (h.pt p q)
theorem Edw.add_of {P:Nat} {d i:Int} (h:Edw P d i) {p q r:Pt P d} (hs:Sum P d p.x p.y q.x q.y r.x r.y):h.add p q=r:=by
 obtain ⟨hx,hy⟩:=h.one p.on q.on (h.add_is p q) hs;exact Pt.same hx hy
theorem Edw.add_comm {P:Nat} {d i:Int} (h:Edw P d i) (p q:Pt P d):h.add p q=h.add q p:=h.add_of (h.add_is q p).swap
theorem Edw.add_assoc {P:Nat} {d i:Int} (h:Edw P d i) (p q r:Pt P d):h.add (h.add p q) r=h.add p (h.add q r):=by
 rw [h.add_comm p (h.add q r)];obtain ⟨hx,hy⟩:=h.goes p.on q.on r.on (h.add_is p q) (h.add_is (h.add p q) r) (h.add_is q r) (h.add_is (h.add q r) p);exact Pt.same hx hy
def Edw.zero {P:Nat} {d i:Int} (h:Edw P d i):Pt P d where
 x:=0
 y:=1
 on:=⟨0,by grind⟩
 xl:=Int.zero_emod _
 yl:=by
  have :=h.prime.1;exact Int.emod_eq_of_lt (by omega) (by omega)
theorem Edw.zero_add {P:Nat} {d i:Int} (h:Edw P d i) (p:Pt P d):h.add h.zero p=p:=h.add_of ⟨⟨0,by show p.x*(1+d*0*p.x*1*p.y)-(0*p.y+p.x*1)=_;grind⟩,⟨0,by show p.y*(1-d*0*p.x*1*p.y)-(1*p.y+0*p.x)=_;grind⟩⟩
theorem Edw.add_zero {P:Nat} {d i:Int} (h:Edw P d i) (p:Pt P d):h.add p h.zero=p:=by rw [h.add_comm,h.zero_add]
def Pt.neg {P:Nat} {d:Int} (p:Pt P d):Pt P d where
 x:=(-p.x)%P
 y:=p.y
 on:=by
  obtain ⟨a,ha⟩:=p.on;have e: -p.x=(-p.x)%(P:Int)+(P:Int)*((-p.x)/P):=by rw [Int.add_comm];exact (Int.mul_ediv_add_emod _ _).symm
  generalize (-p.x)%(P:Int)=x at *;generalize (-p.x)/(P:Int)=u at *;have e2:p.x= -(x+(P:Int)*u):=by omega
  rw [e2] at ha;exact ⟨a+u*(2*x+(P:Int)*u)*(1+d*p.y*p.y),by grind⟩
 xl:=Int.emod_emod _ _
 yl:=p.yl
theorem Edw.neg_add {P:Nat} {d i:Int} (h:Edw P d i) (p:Pt P d):h.add p.neg p=h.zero:=by
 obtain ⟨a,ha⟩:=p.on;have e: -p.x=(-p.x)%(P:Int)+(P:Int)*((-p.x)/P):=by rw [Int.add_comm];exact (Int.mul_ediv_add_emod _ _).symm
 refine h.add_of ⟨?_,?_⟩
 ·show (P:Int)∣0*(1+d*((-p.x)%P)*p.x*p.y*p.y)-(((-p.x)%P)*p.y+p.x*p.y);generalize (-p.x)%(P:Int)=x at *;generalize (-p.x)/(P:Int)=u at *;obtain rfl:x= -p.x-(P:Int)*u:=by omega
  exact ⟨u*p.y,by grind⟩
 ·show (P:Int)∣1*(1-d*((-p.x)%P)*p.x*p.y*p.y)-(p.y*p.y+((-p.x)%P)*p.x);generalize (-p.x)%(P:Int)=x at *;generalize (-p.x)/(P:Int)=u at *;obtain rfl:x= -p.x-(P:Int)*u:=by omega
  exact ⟨u*p.x*(1+d*p.y*p.y)-a,by grind⟩
noncomputable def Edw.mul {P:Nat} {d i:Int} (h:Edw P d i) (p:Pt P d):Nat→Pt P d
 |0=>h.zero
 |n+1=>h.add (h.mul p n) p
theorem Edw.mul_one {P:Nat} {d i:Int} (h:Edw P d i) (p:Pt P d):h.mul p 1=p:=h.zero_add p
theorem Edw.mul_add {P:Nat} {d i:Int} (h:Edw P d i) (p:Pt P d) (m:Nat):∀n,h.mul p (m+n)=h.add (h.mul p m) (h.mul p n)
 |0=>(h.add_zero _).symm
 |n+1=>by
  show h.add (h.mul p (m+n)) p=h.add (h.mul p m) (h.add (h.mul p n) p);rw [h.mul_add p m n,h.add_assoc]
theorem Edw.mul_mul {P:Nat} {d i:Int} (h:Edw P d i) (p:Pt P d) (m:Nat):∀n,h.mul (h.mul p m) n=h.mul p (m*n)
 |0=>rfl
 |n+1=>by
  show h.add (h.mul (h.mul p m) n) (h.mul p m)=h.mul p (m*n+m);rw [h.mul_mul p m n,h.mul_add]
end Go.Proofs.YtoggkhjaghkpnaaGreatDoor.NP
