/- Part 24 of what the laws of this seat share: ULaw, ZVerify, ZAny, WGuard, ZLoose. -/
import Derived.Lib.LaidTab
import Derived.Deep.Cut
import Derived.Test.YtoggkhjaghkpnaaGreatDoorPart23
set_option maxRecDepth 100000
set_option maxHeartbeats 8000000
namespace Go.Proofs.YtoggkhjaghkpnaaGreatDoor
open Go.ChangeShapes Go.WideShapes Go.ChangeAt Go.RowKit
theorem QY {H:Type}:(Rows.laid_fellowship_field_turn (H:=H))=Lib.tabData .u64 ((Va ttN).map fun n:Nat=>(n:Int)):=by kernel_rfl
theorem NT {H:Type}:(Rows.laid_fellowship_field_curve (H:=H))=Lib.tabData .u64 ((Va Ag).map fun n:Nat=>(n:Int)):=by kernel_rfl
theorem OT {H:Type}:(Rows.laid_fellowship_field_baseX (H:=H))=Lib.tabData .u64 ((Va Dk).map fun n:Nat=>(n:Int)):=by kernel_rfl
theorem PT {H:Type}:(Rows.laid_fellowship_field_baseY (H:=H))=Lib.tabData .u64 ((Va Ck).map fun n:Nat=>(n:Int)):=by kernel_rfl
theorem QT (l:List Nat):((l.map fun n:Nat=>(n:Int)).map fun z=>Value.int .u64 z)=l.map Ga:=by
 rw [List.map_map];rfl
theorem AA {W:World} {name:String} {g:Nat} {fuel:Nat} {l:List Nat} {cs:Array Value} {p:List MemPlace} (hg:Tryz.prog.globalNamed name=some g) (hv:W.var? Tryz.prog name=some cs)
 (hd:DataW.trod (H:=Unit) (fun _=>()) Tryz.prog W 0 (fun _=>true) false fuel 51 cs.toList=some (Lib.tabData .u64 (l.map fun n:Nat=>(n:Int)),p)):Tab W g (l.map Ga):=by
 have c2:=Lib.cells_of_tab Tryz.underlying51 Tryz.underlying49 (by kernel_rfl) (by kernel_rfl) hd;rw [QT] at c2;have e:cs=(l.map Ga).toArray:=by rw [←c2]
 rw [e] at hv;exact Tab.of_var hg hv
theorem zG {W:World} {ps:List MemPlace} (hv:DataW.LaidVars Tryz.prog W [("fellowship/field.curve",Rows.laid_fellowship_field_curve),("fellowship/field.baseX",Rows.laid_fellowship_field_baseX),("fellowship/field.baseY",Rows.laid_fellowship_field_baseY),("fellowship/field.turn",Rows.laid_fellowship_field_turn)] ps):
 Tab W 9 ((Va Ag).map Ga)∧Tab W 4 ((Va Dk).map Ga)∧Tab W 5 ((Va Ck).map Ga)∧Tab W 10 ((Va ttN).map Ga):=by
 obtain ⟨g2,t2,cs2,f2,p2,q2,hg2,ht2,hv2,hd2,hq2,rfl⟩:=hv;obtain ⟨g3,t3,cs3,f3,p3,q3,hg3,ht3,hv3,hd3,hq3,rfl⟩:=hq2;obtain ⟨g4,t4,cs4,f4,p4,q4,hg4,ht4,hv4,hd4,hq4,rfl⟩:=hq3;obtain ⟨g5,t5,cs5,f5,p5,q5,hg5,ht5,hv5,hd5,hq5,rfl⟩:=hq4;obtain rfl:9=g2:=Option.some.inj ((show Tryz.prog.globalNamed "fellowship/field.curve"=some 9 by kernel_rfl).symm.trans hg2);obtain rfl:4=g3:=Option.some.inj ((show Tryz.prog.globalNamed "fellowship/field.baseX"=some 4 by kernel_rfl).symm.trans hg3);obtain rfl:5=g4:=Option.some.inj ((show Tryz.prog.globalNamed "fellowship/field.baseY"=some 5 by kernel_rfl).symm.trans hg4);obtain rfl:10=g5:=Option.some.inj ((show Tryz.prog.globalNamed "fellowship/field.turn"=some 10 by kernel_rfl).symm.trans hg5);obtain rfl:51=t2:=Option.some.inj ((show (Tryz.prog.globals[9]?).map (·.type)=some 51 by kernel_rfl).symm.trans ht2);obtain rfl:51=t3:=Option.some.inj ((show (Tryz.prog.globals[4]?).map (·.type)=some 51 by kernel_rfl).symm.trans ht3);obtain rfl:51=t4:=Option.some.inj ((show (Tryz.prog.globals[5]?).map (·.type)=some 51 by kernel_rfl).symm.trans ht4);obtain rfl:51=t5:=Option.some.inj ((show (Tryz.prog.globals[10]?).map (·.type)=some 51 by kernel_rfl).symm.trans ht5);rw [NT] at hd2;rw [OT] at hd3;rw [PT] at hd4;rw [QY] at hd5;exact ⟨AA hg2 hv2 hd2,AA hg3 hv3 hd3,AA hg4 hv4 hd4,AA hg5 hv5 hd5⟩
theorem D6 (ds es:List UInt8) (hd:ds.length=32) (he:es.length=32) (w:World):(binOp .neq 23 (Ca ds) (Ca es)).run Tryz.prog w=.ok (.bool (!(ds==es))) w:=by
 have h:=run_equalIn_bytes (P:=Tryz.prog) w 9998 23 5 32 Tryz.underlying23 Tryz.underlying5 (fun w=>by
  obtain ⟨i0,hi0,hs0⟩:=Option.map_eq_some_iff.1 Qc;simp [sizeOf,typeInfo,hi0,hs0]) ds es hd he
 have h2:=run_neq_struct (P:=Tryz.prog) w 23 (ds.map Fa).toArray (es.map Fa).toArray;unfold Ca;rw [h2];have h3:(Op.equalIn 10000 23 (.agg (ds.map Fa).toArray) (.agg (es.map Fa).toArray)).run Tryz.prog w=.ok (ds==es) w:=h;rw [h3];rfl
theorem Uy (b:List UInt8) (E:Value) (w:World) (hb:b.length=32) (hE:w.cell? ⟨1,0,none⟩=some E) (own:Bool) (ho:(Iu (Dz b)==b)=own):
 Calls Tryz.prog 55 #[Ca b] w (gvn (.tuple #[elV (if own then Dz b else 0),if own then .nilIface else E]) w):=by
 refine WO b (Iu (Dz b)) (Va (Dz b)) (Va 0) (Va (if own then Dz b else 0)) E (if own then .nilIface else E) (!own) w hb rfl rfl (fun V=>IX b V hb) (fun V=>KB _ V (S8 b)) (fun V=>by rw [←ho];exact D6 _ _ (Jp _) hb V) Dj (fun h=>?_) (fun h=>?_) hE
 ·cases own
  ·cases h
  ·exact ⟨rfl,rfl⟩
 ·cases own
  ·exact ⟨rfl,rfl⟩
  ·cases h
theorem Aaa (q:UInt8):bits .and .u8 (q.toNat:Int) 128=bif decide (128≤q.toNat) then 128 else 0:=by
 have key:∀n:Fin 256,bits .and .u8 ((n.val:Nat):Int) 128=bif decide (128≤n.val) then 128 else 0:=by decide+kernel
 exact key ⟨q.toNat,q.toNat_lt⟩
theorem YO (q:UInt8):bits .andNot .u8 (q.toNat:Int) 128=((q%128).toNat:Int):=by
 have key:∀n:Fin 256,bits .andNot .u8 ((n.val:Nat):Int) 128=((n.val%128:Nat):Int):=by decide+kernel
 rw [UInt8.toNat_mod];exact key ⟨q.toNat,q.toNat_lt⟩
theorem Baa (b:List UInt8) (hb:b.length=32):Dz (b.set 31 (b.getD 31 0%128))=Fd b%pp∧(Iu (Dz (b.set 31 (b.getD 31 0%128)))==b.set 31 (b.getD 31 0%128))=decide (Fd b<pp):=by
 have h2:=(XJ b hb).2;have hl:(b.set 31 (b.getD 31 0%128)).length=32:=by rw [List.length_set,hb]
 have e:Dz (b.set 31 (b.getD 31 0%128))=Fd b%pp:=by
  rw [Dz,show lev (b.set 31 (b.getD 31 0%128))=Fd b from rfl,yaj h2]
 refine ⟨e,?_⟩;rw [e];by_cases h:Fd b<pp
 ·rw [decide_eq_true h,yaj h,beq_iff_eq];refine Dn _ _ (by rw [Jp,hl]) ?_;rw [Iu,Zh,yaj (Nat.lt_trans h (by decide+kernel))];rfl
 ·rw [decide_eq_false h,beq_eq_false_iff_ne];intro h3;have h4:=congrArg lev h3;have h5:Fd b%pp<pp:=Nat.mod_lt _ (by decide);rw [Iu,Zh,yaj (Nat.lt_trans h5 (by decide+kernel)),show lev (b.set 31 (b.getD 31 0%128))=Fd b from rfl] at h4;exact h (by rw [←h4];exact h5)
theorem yad (b:List UInt8) (hb:b.length=32):(b.map Fa)[31]? =some (Fa (b.getD 31 0)):=by
 rw [List.getElem?_map,Yaj,xaj (by omega)];rfl
theorem ZO (ok od xz:Bool) (x xn y:Nat) (g:Bool) (a:Addr) (hg:g=(ok&& !(od&&xz))) (T:Tri) (hT:T=bif g then (bif od then xn else x,y,1) else (0,0,0)):
 (ok=false→Zc T=Zc (0,0,0)∧(bif g then Value.nilIface else Ib a)=Ib a)∧(ok=true→od=false→Zc T=Zc (x,y,1)∧(bif g then Value.nilIface else Ib a)=.nilIface)∧
 (ok=true→od=true→xz=true→Zc T=Zc (0,0,0)∧(bif g then Value.nilIface else Ib a)=Ib a)∧(ok=true→od=true→xz=false→Zc T=Zc (xn,y,1)∧(bif g then Value.nilIface else Ib a)=.nilIface):=by
 subst hT;cases ok<;>cases od<;>cases xz<;>subst hg<;>refine ⟨?_,?_,?_,?_⟩<;>intros<;>first|contradiction|exact ⟨rfl,rfl⟩
theorem RY (a:Addr) (b kc:List UInt8) (q v:UInt8) (y x xn:Nat) (ok od xz g:Bool) (T:Tri) (w:World) (hb:b.length=32) (hl:kc.length=32) (hq:(b.map Fa)[31]? =some (Fa q)) (h1:bits .and .u8 (q.toNat:Int) 128=bif od then 128 else 0) (h2:bits .andNot .u8 (q.toNat:Int) 128=(v.toNat:Int)) (hk:kc=b.set 31 v)
 (CS:∀W,Md (Ib a) W→Calls Tryz.prog 55 #[Ca kc] W (gvn (.tuple #[Aa (Va y),.nilIface]) W))
 (CX:∀W,Md (Ib a) W→Calls Tryz.prog 56 #[Aa (Va y)] W (gvn (.tuple #[Aa (Va x),.bool ok]) W))
 (CZ:∀W,Calls Tryz.prog 57 #[Aa (Va x)] W (gvn (.bool xz) W))
 (CN:∀W,Calls Tryz.prog 27 #[Aa (Zc (x,y,1))] W (gvn (Aa (Zc (xn,y,1))) W))
 (hg:g=(ok&& !(od&&xz))) (hT:T=bif g then (bif od then xn else x,y,1) else (0,0,0)) (hS:Md (Ib a) w):
 Calls Tryz.prog 26 #[Ca b] w (gvn (.tuple #[Aa (Zc T),bif g then .nilIface else Ib a]) w):=by
 obtain ⟨c1,c2,c3,c4⟩:=ZO ok od xz x xn y g a hg T hT;exact MT (Va y) (Zc (0,0,0)) (Va x) (Zc (x,y,1)) (Zc (xn,y,1)) b kc q v od ok xz a (Zc T) (bif g then .nilIface else Ib a) w
  rfl rfl rfl rfl rfl hb hl hq h1 h2 hk CS LG CX CZ (fun W=>UJ x y W) CN c1 c2 c3 c4 hS hS.2.2.2.2
theorem qG (a:Addr) (b:List UInt8) (w:World) (hb:b.length=32) (hS:Md (Ib a) w):Calls Tryz.prog 26 #[Ca b] w (gvn (.tuple #[Aa (Zc (Rf b)),bif Uc b then .nilIface else Ib a]) w):=by
 obtain ⟨e1,e2⟩:=Baa b hb;have hl:(b.set 31 (b.getD 31 0%128)).length=32:=by rw [List.length_set,hb]
 have hT:Rf b=bif Uc b then (bif Ii b then fS 0 (Hg b) else Hg b,Fd b,1) else (0,0,0):=rfl
 have hq:=yad b hb;have ho:bits .and .u8 ((b.getD 31 0).toNat:Int) 128=bif Ii b then 128 else 0:=Aaa _
 by_cases h:Fd b<pp
 ·rw [decide_eq_true h] at e2;rw [yaj h] at e1;have hG:Uc b=(Fj (xj (Fd b))&& !(Ii b&&decide (Hg b=0))):=by rw [Uc,decide_eq_true h,Bool.true_and]
  have CS:∀W,Md (Ib a) W→Calls Tryz.prog 55 #[Ca (b.set 31 (b.getD 31 0%128))] W (gvn (.tuple #[Aa (Va (Fd b)),.nilIface]) W):=fun W hW=>by
   have hs:=Uy (b.set 31 (b.getD 31 0%128)) (Ib a) W hl hW.2.2.2.2 true e2;rw [e1] at hs;exact hs
  have CX:∀W,Md (Ib a) W→Calls Tryz.prog 56 #[Aa (Va (Fd b))] W (gvn (.tuple #[Aa (Va (xg (xj (Fd b)))),.bool (Fj (xj (Fd b)))]) W):=fun W hW=>GY (Ib a) (Fd b) W h hW;have hx:Hg b<pp:=xu _;rw [show xg (xj (Fd b))=Hg b from rfl] at CX;have CZ:=fun W=>DX (Hg b) W hx;have hy:=h;clear e1 e2 h;generalize Rf b=T at *;generalize Fj (xj (Fd b))=ok at *;generalize hxn:fS 0 (Hg b)=xn at *;generalize decide (Hg b=0)=xz at *;generalize Hg b=x at *;generalize Fd b=y at *;generalize Ii b=od at *;generalize Uc b=g at *;have CN:∀W,Calls Tryz.prog 27 #[Aa (Zc (x,y,1))] W (gvn (Aa (Zc (xn,y,1))) W):=fun W=>by
   have hn:=Eak (x,y,1) W (And.intro hx (And.intro hy zS));rw [show qu (x,y,1)=(xn,y,1) from by rw [←hxn];rfl] at hn;exact hn
  exact RY a b _ _ _ y x xn ok od xz g T w hb hl hq ho (YO _) rfl CS CX CZ CN hG hT hS
 ·rw [decide_eq_false h] at e2;have hG:Uc b=false:=by rw [Uc,decide_eq_false h,Bool.false_and,Bool.false_and]
  rw [hT,hG];have CS:∀W,Md (Ib a) W→Calls Tryz.prog 55 #[Ca (b.set 31 (b.getD 31 0%128))] W (gvn (.tuple #[Aa (Va 0),Ib a]) W):=fun W hW=>Uy (b.set 31 (b.getD 31 0%128)) (Ib a) W hl hW.2.2.2.2 false e2;exact UE (Va 0) (Zc (0,0,0)) b (b.set 31 (b.getD 31 0%128)) (b.getD 31 0) (b.getD 31 0%128) (Ii b) a w rfl rfl hb hl hq ho (YO _) rfl CS LG hS hS.2.2.2.2
end Go.Proofs.YtoggkhjaghkpnaaGreatDoor
namespace Go.Proofs.YtoggkhjaghkpnaaGreatDoor
open Go.RowKit
theorem Kx (pb sb rb zb:List UInt8) (D:Option Addr) (m d:Nat) (ae:Addr) (w:World)
 (Hsb:Hid (sb.length=64))
 (Hrb:Hid (rb.length=32))
 (Hzb:Hid (zb.length=32))
 (CH:Hid (∀W,Calls Tryz.prog 24 #[Ca sb] W (gvn (.tuple #[Ca rb,Ca zb]) W)))
 (CR:Hid (∀W,Bc (Ib ae) W→Calls Tryz.prog 25 #[Ca zb] W (gvn (.bool false) W)))
 (hS:Bc (Ib ae) w):
 Calls Tryz.prog 10 #[Ca pb,Ca sb,.slice D m d] w (gvn (.bool false) w):=by
 go_enter Tryz.func10,Tryz.ntmps10;go_wp2_with (first
  |(refine Rb rfl 23 (.tmp 0) rfl pb rfl ?_
    intro w1 hb1 hvk1 hz;clear hz;have hB1:=hb1;have hgek:w.heap.size≤w.heap.size:=Xaj _;clear hb1;try simp only [La]
    skip)
  |(refine Ra rfl 27 (.tmp 1) rfl (sb.map Fa) rfl ?_
    intro w2 hb2 hvs2;have hB2:=Ba hB1 hb2;have hges:w.heap.size≤w1.heap.size:=hB1.size;have hvk2:=hvk1.on hb2;have hneks:=Vaj hvk1.lt;clear hB1 hvk1 hb2;try simp only [La]
    skip)
  |(refine Pa rfl 27 (.tmp 4) rfl w1.heap.size 64 (sb.map Fa) rfl hvs2 Tryz.underlying27 rfl Ie (by rw [Uaj,Hsb.out]) ?_
    try simp only [La]
    skip))
 generalize hqs:w1.heap.size=gs at *;clear hqs;refine (CH.out w2).mono ?_;rintro e w3 ⟨rfl,hb3⟩;have hB3:=Ba hB2 hb3;have hvk3:=hvk2.on hb3;have hvs3:=hvs2.on hb3;clear hB2 hvk2 hvs2 hb3;go_wp2_with (first
  |(refine Ma (o:=⟨some 7,_,_,_,_,_⟩) rfl 23 rfl Xa Zb ?_
    intro w4 hb4 hvr4;have hB4:=Ba hB3 hb4;have hger:w.heap.size≤w3.heap.size:=hB3.size;have hvk4:=hvk3.on hb4;have hnekr:=Vaj hvk3.lt;have hvs4:=hvs3.on hb4;have hnesr:=Vaj hvs3.lt;clear hB3 hvk3 hvs3 hb4;try simp only [La]
    skip)
  |(refine Ma (o:=⟨some 8,_,_,_,_,_⟩) rfl 23 rfl Xa Zb ?_
    intro w5 hb5 hvz5;have hB5:=Ba hB4 hb5;have hgez:w.heap.size≤w4.heap.size:=hB4.size;have hvk5:=hvk4.on hb5;have hnekz:=Vaj hvk4.lt;have hvs5:=hvs4.on hb5;have hnesz:=Vaj hvs4.lt;have hvr5:=hvr4.on hb5;have hnerz:=Vaj hvr4.lt;clear hB4 hvk4 hvs4 hvr4 hb5;try simp only [La]
    skip)
  |(refine Ka rfl 23 (.tmp 7) (.tmp 15) rfl w3.heap.size 32 Xa (rb.map Fa) rfl rfl hvr5 rfl za (by rw [Uaj,Hrb.out]) (Ab _) ?_
    intro w6 hb6 hvr6 hz6;have hB6:Below w.heap.size w w6:=hB5.trans (hb6.below hger hB5.size);have hvk6:=hvk5.but hb6 hnekr;have hvs6:=hvs5.but hb6 hnesr;have hvz6:=hvz5.but hb6 (Ne.symm hnerz);clear hB5 hvr5 hb6 hz6 hvk5 hvs5 hvz5;skip)
  |(refine Ka rfl 23 (.tmp 8) (.tmp 16) rfl w4.heap.size 32 Xa (zb.map Fa) rfl rfl hvz6 rfl za (by rw [Uaj,Hzb.out]) (Ab _) ?_
    intro w7 hb7 hvz7 hz7;have hB7:Below w.heap.size w w7:=hB6.trans (hb7.below hgez hB6.size);have hvk7:=hvk6.but hb7 hnekz;have hvs7:=hvs6.but hb7 hnesz;have hvr7:=hvr6.but hb7 hnerz;clear hB6 hvz6 hb7 hz7 hvk6 hvs6 hvr6;skip)
  |(refine Tc rfl 23 (.tmp 8) rfl w4.heap.size 32 zb 5 rfl hvz7 Tryz.underlying23 za Hzb.out ?_
    try simp only [La]
    skip))
 generalize hqr:w3.heap.size=gr at *;clear hqr;generalize hqz:w4.heap.size=gz at *;clear hqz;refine (CR.out w7 (hS.below hB7)).mono ?_;rintro e w8 ⟨rfl,hb8⟩;have hB8:=Ba hB7 hb8;have hvk8:=hvk7.on hb8;have hvs8:=hvs7.on hb8;have hvr8:=hvr7.on hb8;have hvz8:=hvz7.on hb8;clear hB7 hvk7 hvs7 hvr7 hvz7 hb8
 go_wp2
 go_ret
 exact ⟨rfl,hB8⟩
theorem Lx (p:List Nat) (pb sb rb zb:List UInt8) (D:Option Addr) (m d:Nat) (ae:Addr) (w:World)
 (Hsb:Hid (sb.length=64))
 (Hpb:Hid (pb.length=32))
 (Hrb:Hid (rb.length=32))
 (Hzb:Hid (zb.length=32))
 (CH:Hid (∀W,Calls Tryz.prog 24 #[Ca sb] W (gvn (.tuple #[Ca rb,Ca zb]) W)))
 (CR:Hid (∀W,Bc (Ib ae) W→Calls Tryz.prog 25 #[Ca zb] W (gvn (.bool true) W)))
 (Hp:Hid (p.length=15))
 (CP:Hid (∀W,Bc (Ib ae) W→Calls Tryz.prog 26 #[Ca pb] W (gvn (.tuple #[Aa p,Ib ae]) W)))
 (hS:Bc (Ib ae) w):
 Calls Tryz.prog 10 #[Ca pb,Ca sb,.slice D m d] w (gvn (.bool false) w):=by
 go_enter Tryz.func10,Tryz.ntmps10;go_wp2_with (first
  |(refine Rb rfl 23 (.tmp 0) rfl pb rfl ?_
    intro w1 hb1 hvk1 hz;clear hz;have hB1:=hb1;have hgek:w.heap.size≤w.heap.size:=Xaj _;clear hb1;try simp only [La]
    skip)
  |(refine Ra rfl 27 (.tmp 1) rfl (sb.map Fa) rfl ?_
    intro w2 hb2 hvs2;have hB2:=Ba hB1 hb2;have hges:w.heap.size≤w1.heap.size:=hB1.size;have hvk2:=hvk1.on hb2;have hneks:=Vaj hvk1.lt;clear hB1 hvk1 hb2;try simp only [La]
    skip)
  |(refine Pa rfl 27 (.tmp 4) rfl w1.heap.size 64 (sb.map Fa) rfl hvs2 Tryz.underlying27 rfl Ie (by rw [Uaj,Hsb.out]) ?_
    try simp only [La]
    skip))
 generalize hqs:w1.heap.size=gs at *;clear hqs;refine (CH.out w2).mono ?_;rintro e w3 ⟨rfl,hb3⟩;have hB3:=Ba hB2 hb3;have hvk3:=hvk2.on hb3;have hvs3:=hvs2.on hb3;clear hB2 hvk2 hvs2 hb3;go_wp2_with (first
  |(refine Ma (o:=⟨some 7,_,_,_,_,_⟩) rfl 23 rfl Xa Zb ?_
    intro w4 hb4 hvr4;have hB4:=Ba hB3 hb4;have hger:w.heap.size≤w3.heap.size:=hB3.size;have hvk4:=hvk3.on hb4;have hnekr:=Vaj hvk3.lt;have hvs4:=hvs3.on hb4;have hnesr:=Vaj hvs3.lt;clear hB3 hvk3 hvs3 hb4;try simp only [La]
    skip)
  |(refine Ma (o:=⟨some 8,_,_,_,_,_⟩) rfl 23 rfl Xa Zb ?_
    intro w5 hb5 hvz5;have hB5:=Ba hB4 hb5;have hgez:w.heap.size≤w4.heap.size:=hB4.size;have hvk5:=hvk4.on hb5;have hnekz:=Vaj hvk4.lt;have hvs5:=hvs4.on hb5;have hnesz:=Vaj hvs4.lt;have hvr5:=hvr4.on hb5;have hnerz:=Vaj hvr4.lt;clear hB4 hvk4 hvs4 hvr4 hb5;try simp only [La]
    skip)
  |(refine Ka rfl 23 (.tmp 7) (.tmp 15) rfl w3.heap.size 32 Xa (rb.map Fa) rfl rfl hvr5 rfl za (by rw [Uaj,Hrb.out]) (Ab _) ?_
    intro w6 hb6 hvr6 hz6;have hB6:Below w.heap.size w w6:=hB5.trans (hb6.below hger hB5.size);have hvk6:=hvk5.but hb6 hnekr;have hvs6:=hvs5.but hb6 hnesr;have hvz6:=hvz5.but hb6 (Ne.symm hnerz);clear hB5 hvr5 hb6 hz6 hvk5 hvs5 hvz5;skip)
  |(refine Ka rfl 23 (.tmp 8) (.tmp 16) rfl w4.heap.size 32 Xa (zb.map Fa) rfl rfl hvz6 rfl za (by rw [Uaj,Hzb.out]) (Ab _) ?_
    intro w7 hb7 hvz7 hz7;have hB7:Below w.heap.size w w7:=hB6.trans (hb7.below hgez hB6.size);have hvk7:=hvk6.but hb7 hnekz;have hvs7:=hvs6.but hb7 hnesz;have hvr7:=hvr6.but hb7 hnerz;clear hB6 hvz6 hb7 hz7 hvk6 hvs6 hvr6;skip)
  |(refine Tc rfl 23 (.tmp 8) rfl w4.heap.size 32 zb 5 rfl hvz7 Tryz.underlying23 za Hzb.out ?_
    try simp only [La]
    skip))
 generalize hqr:w3.heap.size=gr at *;clear hqr;generalize hqz:w4.heap.size=gz at *;clear hqz;refine (CR.out w7 (hS.below hB7)).mono ?_;rintro e w8 ⟨rfl,hb8⟩;have hB8:=Ba hB7 hb8;have hvk8:=hvk7.on hb8;have hvs8:=hvs7.on hb8;have hvr8:=hvr7.on hb8;have hvz8:=hvz7.on hb8;clear hB7 hvk7 hvs7 hvr7 hvz7 hb8;go_wp2_with (first
  |(refine Tc rfl 23 (.tmp 3) rfl w.heap.size 32 pb 5 rfl hvk8 Tryz.underlying23 za Hpb.out ?_
    try simp only [La]
    skip))
 refine (CP.out w8 (hS.below hB8)).mono ?_;rintro e w9 ⟨rfl,hb9⟩;have hB9:=Ba hB8 hb9;have hvk9:=hvk8.on hb9;have hvs9:=hvs8.on hb9;have hvr9:=hvr8.on hb9;have hvz9:=hvz8.on hb9;clear hB8 hvk8 hvs8 hvr8 hvz8 hb9;go_wp2_with (first
  |(refine Db rfl rfl 55 (.tmp 9) (.tmp 23) rfl rfl 15 (Na 15) (p.map Ga) rfl rfl Id rfl Pb (by rw [Uaj,Hp.out]) (Oa _) ?_
    intro w10 hb10 hva10;have hB10:=Ba hB9 hb10;have hgea:w.heap.size≤w9.heap.size:=hB9.size;have hvk10:=hvk9.on hb10;have hneka:=Vaj hvk9.lt;have hvs10:=hvs9.on hb10;have hnesa:=Vaj hvs9.lt;have hvr10:=hvr9.on hb10;have hnera:=Vaj hvr9.lt;have hvz10:=hvz9.on hb10;have hneza:=Vaj hvz9.lt;clear hB9 hvk9 hvs9 hvr9 hvz9 hb10;try simp only [La]
    skip))
 generalize hqa:w9.heap.size=ga at *;clear hqa
 go_ret
 exact ⟨rfl,hB10⟩
def Ek (pb:List UInt8) (sb:List UInt8) (D:Option Addr) (m:Nat) (d:Nat) (g_base:Nat) (gs:Nat) (c:Bool) (gr:Nat) (gz:Nat) (ga:Nat) (gh:Nat) (rb:List UInt8) (zb:List UInt8) (p:List Nat) (gl:Nat) (hb:List UInt8) (n:List Nat) (q:List Nat) (yb:List UInt8):List Value:=
 (Ca pb)::(Ca sb)::(.slice D m d)::ptr g_base::ptr gs::undef::(.bool c)::ptr gr::ptr gz::ptr ga::(.nilIface)::ptr gh::(.tuple #[Ca rb,Ca zb])::(Ca sb)::(.tuple #[Ca rb,Ca zb])::(Ca rb)::(Ca zb)::(Ca zb)::(.bool true)::(.bool false)::(.tuple #[Aa p,.nilIface])::(Ca pb)::(.tuple #[Aa p,.nilIface])::(Aa p)::(.nilIface)::(.nilIface)::(.bool false)::(.slice D m d)::(Ca rb)::(Ca pb)::(.slice (some ⟨gl,0,none⟩) 2 2)::(Ca hb)::(Aa p)::(Aa n)::(Ca hb)::(Ca zb)::(Aa q)::(Ca yb)::(Ca rb)::(.bool c)::[]
theorem Dv (p n q:List Nat) (pb sb rb zb hb yb:List UInt8) (c:Bool) (D:Option Addr) (m d:Nat) (ps:List (List UInt8)) (ae:Addr) (w:World)
 (Hsb:Hid (sb.length=64))
 (Hpb:Hid (pb.length=32))
 (Hrb:Hid (rb.length=32))
 (Hzb:Hid (zb.length=32))
 (CH:Hid (∀W,Calls Tryz.prog 24 #[Ca sb] W (gvn (.tuple #[Ca rb,Ca zb]) W)))
 (CR:Hid (∀W,Bc (Ib ae) W→Calls Tryz.prog 25 #[Ca zb] W (gvn (.bool true) W)))
 (Hp:Hid (p.length=15))
 (CP:Hid (∀W,Bc (Ib ae) W→Calls Tryz.prog 26 #[Ca pb] W (gvn (.tuple #[Aa p,.nilIface]) W)))
 (Hhb:Hid (hb.length=32))
 (CN:Hid (∀g W,Ia W g ((rb++pb).map Fa) 23→Bc (Ib ae) W→Jd D ps W→Calls Tryz.prog 13 #[.slice D m d,.slice (some ⟨g,0,none⟩) 2 2] W (gvn (Ca hb) W)))
 (CG:Hid (∀W,Calls Tryz.prog 27 #[Aa p] W (gvn (Aa n) W)))
 (CW:Hid (∀W,Bc (Ib ae) W→Calls Tryz.prog 28 #[Aa n,Ca hb,Ca zb] W (gvn (Aa q) W)))
 (CY:Hid (∀W,Calls Tryz.prog 29 #[Aa q] W (gvn (Ca yb) W)))
 (EQ:∀w,(binOp .eql 23 (Ca yb) (Ca rb)).run Tryz.prog w=.ok (.bool c) w)
 (hS:Bc (Ib ae) w)
 (hP:Jd D ps w):
 Calls Tryz.prog 10 #[Ca pb,Ca sb,.slice D m d] w (gvn (.bool c) w):=by
 go_enter Tryz.func10,Tryz.ntmps10;go_wp2_with (first
  |(refine Rb rfl 23 (.tmp 0) rfl pb rfl ?_
    intro w1 hb1 hvk1 hz;clear hz;have hB1:=hb1;have hgek:w.heap.size≤w.heap.size:=Xaj _;clear hb1;try simp only [La]
    skip)
  |(refine Ra rfl 27 (.tmp 1) rfl (sb.map Fa) rfl ?_
    intro w2 hb2 hvs2;have hB2:=Ba hB1 hb2;have hges:w.heap.size≤w1.heap.size:=hB1.size;have hvk2:=hvk1.on hb2;have hneks:=Vaj hvk1.lt;clear hB1 hvk1 hb2;try simp only [La]
    skip)
  |(refine Pa rfl 27 (.tmp 4) rfl w1.heap.size 64 (sb.map Fa) rfl hvs2 Tryz.underlying27 rfl Ie (by rw [Uaj,Hsb.out]) ?_
    try simp only [La]
    skip))
 generalize hqs:w1.heap.size=gs at *;clear hqs;refine (CH.out w2).mono ?_;rintro e w3 ⟨rfl,hb3⟩;have hB3:=Ba hB2 hb3;have hvk3:=hvk2.on hb3;have hvs3:=hvs2.on hb3;clear hB2 hvk2 hvs2 hb3;go_wp2_with (first
  |(refine Ma (o:=⟨some 7,_,_,_,_,_⟩) rfl 23 rfl Xa Zb ?_
    intro w4 hb4 hvr4;have hB4:=Ba hB3 hb4;have hger:w.heap.size≤w3.heap.size:=hB3.size;have hvk4:=hvk3.on hb4;have hnekr:=Vaj hvk3.lt;have hvs4:=hvs3.on hb4;have hnesr:=Vaj hvs3.lt;clear hB3 hvk3 hvs3 hb4;try simp only [La]
    skip)
  |(refine Ma (o:=⟨some 8,_,_,_,_,_⟩) rfl 23 rfl Xa Zb ?_
    intro w5 hb5 hvz5;have hB5:=Ba hB4 hb5;have hgez:w.heap.size≤w4.heap.size:=hB4.size;have hvk5:=hvk4.on hb5;have hnekz:=Vaj hvk4.lt;have hvs5:=hvs4.on hb5;have hnesz:=Vaj hvs4.lt;have hvr5:=hvr4.on hb5;have hnerz:=Vaj hvr4.lt;clear hB4 hvk4 hvs4 hvr4 hb5;try simp only [La]
    skip)
  |(refine Ka rfl 23 (.tmp 7) (.tmp 15) rfl w3.heap.size 32 Xa (rb.map Fa) rfl rfl hvr5 rfl za (by rw [Uaj,Hrb.out]) (Ab _) ?_
    intro w6 hb6 hvr6 hz6;have hB6:Below w.heap.size w w6:=hB5.trans (hb6.below hger hB5.size);have hvk6:=hvk5.but hb6 hnekr;have hvs6:=hvs5.but hb6 hnesr;have hvz6:=hvz5.but hb6 (Ne.symm hnerz);clear hB5 hvr5 hb6 hz6 hvk5 hvs5 hvz5;skip)
  |(refine Ka rfl 23 (.tmp 8) (.tmp 16) rfl w4.heap.size 32 Xa (zb.map Fa) rfl rfl hvz6 rfl za (by rw [Uaj,Hzb.out]) (Ab _) ?_
    intro w7 hb7 hvz7 hz7;have hB7:Below w.heap.size w w7:=hB6.trans (hb7.below hgez hB6.size);have hvk7:=hvk6.but hb7 hnekz;have hvs7:=hvs6.but hb7 hnesz;have hvr7:=hvr6.but hb7 hnerz;clear hB6 hvz6 hb7 hz7 hvk6 hvs6 hvr6;skip)
  |(refine Tc rfl 23 (.tmp 8) rfl w4.heap.size 32 zb 5 rfl hvz7 Tryz.underlying23 za Hzb.out ?_
    try simp only [La]
    skip))
 generalize hqr:w3.heap.size=gr at *;clear hqr;generalize hqz:w4.heap.size=gz at *;clear hqz;refine (CR.out w7 (hS.below hB7)).mono ?_;rintro e w8 ⟨rfl,hb8⟩;have hB8:=Ba hB7 hb8;have hvk8:=hvk7.on hb8;have hvs8:=hvs7.on hb8;have hvr8:=hvr7.on hb8;have hvz8:=hvz7.on hb8;clear hB7 hvk7 hvs7 hvr7 hvz7 hb8;go_wp2_with (first
  |(refine Tc rfl 23 (.tmp 3) rfl w.heap.size 32 pb 5 rfl hvk8 Tryz.underlying23 za Hpb.out ?_
    try simp only [La]
    skip))
 refine (CP.out w8 (hS.below hB8)).mono ?_;rintro e w9 ⟨rfl,hb9⟩;have hB9:=Ba hB8 hb9;have hvk9:=hvk8.on hb9;have hvs9:=hvs8.on hb9;have hvr9:=hvr8.on hb9;have hvz9:=hvz8.on hb9;clear hB8 hvk8 hvs8 hvr8 hvz8 hb9;go_wp2_with (first
  |(refine Db rfl rfl 55 (.tmp 9) (.tmp 23) rfl rfl 15 (Na 15) (p.map Ga) rfl rfl Id rfl Pb (by rw [Uaj,Hp.out]) (Oa _) ?_
    intro w10 hb10 hva10;have hB10:=Ba hB9 hb10;have hgea:w.heap.size≤w9.heap.size:=hB9.size;have hvk10:=hvk9.on hb10;have hneka:=Vaj hvk9.lt;have hvs10:=hvs9.on hb10;have hnesa:=Vaj hvs9.lt;have hvr10:=hvr9.on hb10;have hnera:=Vaj hvr9.lt;have hvz10:=hvz9.on hb10;have hneza:=Vaj hvz9.lt;clear hB9 hvk9 hvs9 hvr9 hvz9 hb10;try simp only [La]
    skip)
  |(refine Tc rfl 23 (.tmp 7) rfl gr 32 rb 5 rfl hvr10 Tryz.underlying23 za Hrb.out ?_
    try simp only [La]
    skip)
  |(refine Tc rfl 23 (.tmp 3) rfl w.heap.size 32 pb 5 rfl hvk10 Tryz.underlying23 za Hpb.out ?_
    try simp only [La]
    skip)
  |(refine Ji rfl 76 2 [(0,.tmp 28),(1,.tmp 29)] rfl [(0,Ca rb),(1,Ca pb)] rfl 23 ((rb++pb).map Fa) (yG _ _ Hrb.out Hpb.out) ?_
    intro w11 hb11 hvl11;have hB11:=Ba hB10 hb11;have hgel:w.heap.size≤w10.heap.size:=hB10.size;have hvk11:=hvk10.on hb11;have hnekl:=Vaj hvk10.lt;have hvs11:=hvs10.on hb11;have hnesl:=Vaj hvs10.lt;have hvr11:=hvr10.on hb11;have hnerl:=Vaj hvr10.lt;have hvz11:=hvz10.on hb11;have hnezl:=Vaj hvz10.lt;have hva11:=hva10.on hb11;have hneal:=Vaj hva10.lt;clear hB10 hvk10 hvs10 hvr10 hvz10 hva10 hb11;try simp only [La]
    skip))
 generalize hqa:w9.heap.size=ga at *;clear hqa;generalize hql:w10.heap.size=gl at *;clear hql;refine ((CN.out _) w11 hvl11 (hS.below hB11) (hP.below hB11)).mono ?_;rintro e w12 ⟨rfl,hb12⟩;have hB12:=Ba hB11 hb12;have hvk12:=hvk11.on hb12;have hvs12:=hvs11.on hb12;have hvr12:=hvr11.on hb12;have hvz12:=hvz11.on hb12;have hva12:=hva11.on hb12;have hvl12:=hvl11.on hb12;clear hB11 hvk11 hvs11 hvr11 hvz11 hva11 hvl11 hb12;go_wp2_with (first
  |(refine Db rfl rfl 23 (.tmp 11) (.tmp 31) rfl rfl 32 Xa (hb.map Fa) rfl rfl Zb rfl za (by rw [Uaj,Hhb.out]) (Ab _) ?_
    intro w13 hb13 hvh13;have hB13:=Ba hB12 hb13;have hgeh:w.heap.size≤w12.heap.size:=hB12.size;have hvk13:=hvk12.on hb13;have hnekh:=Vaj hvk12.lt;have hvs13:=hvs12.on hb13;have hnesh:=Vaj hvs12.lt;have hvr13:=hvr12.on hb13;have hnerh:=Vaj hvr12.lt;have hvz13:=hvz12.on hb13;have hnezh:=Vaj hvz12.lt;have hva13:=hva12.on hb13;have hneah:=Vaj hva12.lt;have hvl13:=hvl12.on hb13;have hnelh:=Vaj hvl12.lt;clear hB12 hvk12 hvs12 hvr12 hvz12 hva12 hvl12 hb13;try simp only [La]
    skip))
 generalize hqh:w12.heap.size=gh at *;clear hqh;replace hvk13:=hvk13.drew;replace hvs13:=hvs13.drew;replace hvr13:=hvr13.drew;replace hvz13:=hvz13.drew;replace hva13:=hva13.drew;replace hvl13:=hvl13.drew;replace hvh13:=hvh13.drew;have hBq:=(show Below w.heap.size w w13.drew from hB13.drew);refine wp_region_any (by kernel_rfl) ?_;refine Ya (L:=[0,1,2,3,4,5,6,7,8]) (by kernel_rfl) _ _ (Ek pb sb D m d w.heap.size gs c gr gz ga gh rb zb p gl hb n q yb) [] 23 Xa [0,1,2,3,4,5,7,8,9,10,11,12,13,14,15,16,17,18,19,20,21,22,23,24,25,26,27,28,29,30,31] (by kernel_rfl) (by kernel_rfl) ?_ Zb ?_ (by rfl) ?_ 0 (by kernel_rfl) ?_
 ·intro p hp;exact absurd hp List.not_mem_nil
 ·repeat refine Aak rfl ?_
  exact Qa
 ·refine Aak (.inr (mL 32 rfl fun w hb=>AS (hva13.on hb) Hp.out)) ?_;refine Aak (.inr (mC 33 rfl Tryz.func27 fun w hb=>CG.out w)) ?_;refine Aak (.inr (mL 34 rfl fun w hb=>Yf (hvh13.on hb) Hhb.out)) ?_;refine Aak (.inr (mL 35 rfl fun w hb=>Yf (hvz13.on hb) Hzb.out)) ?_;refine Aak (.inr (mC 36 rfl Tryz.func28 fun w hb=>CW.out w (hS.below (Ba hBq hb)))) ?_;refine Aak (.inr (mC 37 rfl Tryz.func29 fun w hb=>CY.out w)) ?_;refine Aak (.inr (mL 38 rfl fun w hb=>Yf (hvr13.on hb) Hrb.out)) ?_;refine Aak (.inr (mB 39 rfl (fun w=>Cw _ _ _ _ _ w) (EQ))) ?_;refine Aak (.inr (mV 6 rfl (.inr rfl) rfl)) ?_;exact Qa
 intro w14 g hb14 hN14 hap14;clear hN14 hap14;have hB14:=Ba (show Below w.heap.size w w13.drew from hB13.drew) hb14;have hvk14:=hvk13.on hb14;have hvs14:=hvs13.on hb14;have hvr14:=hvr13.on hb14;have hvz14:=hvz13.on hb14;have hva14:=hva13.on hb14;have hvl14:=hvl13.on hb14;have hvh14:=hvh13.on hb14;clear hB13 hvk13 hvs13 hvr13 hvz13 hva13 hvl13 hvh13 hb14 hBq;refine ⟨by kernel_rfl,?_⟩;rename_i K hKK;show Exit.then K _ Exit.normal (⟨(Ek pb sb D m d w.heap.size gs c gr gz ga gh rb zb p gl hb n q yb).toArray,[]⟩:Act) w14;simp only [Exit.then];refine hKK _ _ ?_;clear hKK K g;simp only [Ek,ptr]
 go_wp2
 go_ret
 exact ⟨rfl,hB14⟩
theorem Io (b:List UInt8) (w:World) (hb:b.length=64):Calls Tryz.prog 24 #[Ca b] w (gvn (.tuple #[Ca (b.take 32),Ca (b.drop 32)]) w):=
 NE b _ _ w (Lib.hid (by rw [zaj];omega)) (Lib.hid (by rw [List.length_drop];omega)) (Lib.hid rfl) (Lib.hid (Zaj (by rw [List.length_drop];omega)))
theorem Jo (E:Value) (key:List UInt8) (w:World) (hk:key.length=32) (hS:Bc E w):Calls Tryz.prog 14 #[Ca key] w (gvn (Ca (Qd (NP.edw.mul NP.bE (lev key)))) w):=
 IT (Zc Ic) (Zc (ED Ic key)) key _ E w (Lib.hid hk) (Lib.hid (Hf _)) (Lib.hid fun W hW=>UG E W hW.2.2) (Lib.hid fun W hW=>AT E Ic key W hk zp hW.2.2) (Lib.hid fun W=>ZG (NP.timesU_rep NP.baseT_rep key hk) W) hS
theorem JD (E:Value) (seed:List UInt8) (w:World) (hs:seed.length=32) (hS:Bc E w):Calls Tryz.prog 12 #[Ca seed] w (gvn (.tuple #[Ca (sgA seed),Ca (Fl seed)]) w):=by
 have l1:((Ed seed).take 32).length=32:=by rw [zaj,Cd];rfl
 refine OE seed (Ed seed) ((Ed seed).take 32) (Fl seed) (sgA seed) E w (Lib.hid l1) (Lib.hid (Tf _)) (Lib.hid (Pe _)) (Lib.hid fun gp gs W hp hk hW=>?_) (Lib.hid fun W=>Io (Ed seed) W (Cd _)) (Lib.hid fun W=>NY _ W l1) hS;have h:=Tx (some ⟨gp,0,none⟩) 1 1 [seed] W hW.1 rfl (Jq hp fun j us hu=>by
  match j,hu with
  |0,hu=>cases hu;exact ⟨_,rfl,Ct hk 32 32 hs (Xaj _) (by unfold maxLen;omega)⟩
  |j+1,hu=>simp at hu) (by decide) (by simp [hs])
 rw [show [seed].flatten=seed by simp] at h;exact h
theorem Gt (E:Value) (seed:List UInt8) (w:World) (hs:seed.length=32) (hS:Bc E w):Calls Tryz.prog 7 #[Ca seed] w (gvn (Ca (xc seed)) w):=
 PE seed (sgA seed) (Fl seed) (xc seed) E w (Lib.hid hs) (Lib.hid (Pe _)) (Lib.hid (Tf _)) (Lib.hid (Sf _)) (Lib.hid fun W hW=>JD E seed W hs hW) (Lib.hid fun W hW=>Jo E _ W (Pe _) hW) hS
structure In (D:Option Addr) (m d:Nat) (ps:List (List UInt8)):Prop where
 len:ps.length=m
 few:m≤80000
 short:ps.flatten.length≤800000
 cap:m≤d
 max:d≤maxLen
 nil:D=none→d=0
theorem xO (E:Value) (D:Option Addr) (m d:Nat) (ps:List (List UInt8)) (seed:List UInt8) (w:World) (hs:seed.length=32) (hT:In D m d ps) (hS:Bc E w) (hP:Jd D ps w):
 Calls Tryz.prog 6 #[Ca seed,.slice D m d] w (gvn (Ca (Bg seed ps.flatten)) w):=by
 have l1:lev (Ob (Uh seed ps.flatten) 32)=Uh seed ps.flatten:=Bf _ (PO seed _);have l2:lev (Ob (Gd (sgR seed ps.flatten++xc seed++ps.flatten)) 32)=Gd (sgR seed ps.flatten++xc seed++ps.flatten):=Bf _ (Cv _);have l3:lev (Ob (Gd (sgR seed ps.flatten++xc seed++ps.flatten)*lev (sgA seed)%NP.LL) 32)=Gd (sgR seed ps.flatten++xc seed++ps.flatten)*lev (sgA seed)%NP.LL:=Bf _ (Nat.mod_lt _ Iq);refine VO seed (sgA seed) (Fl seed) (Ob (Uh seed ps.flatten) 32) (sgR seed ps.flatten) (xc seed) (Ob (Gd (sgR seed ps.flatten++xc seed++ps.flatten)) 32) (Ob (Gd (sgR seed ps.flatten++xc seed++ps.flatten)*lev (sgA seed)%NP.LL) 32) (Ob (sgS seed ps.flatten) 32) (Bg seed ps.flatten) D m d ps E w
  (Lib.hid hs) (Lib.hid (Pe _)) (Lib.hid (Tf _)) (Lib.hid (Ta _ _)) (Lib.hid (Ng _ _)) (Lib.hid (Sf _)) (Lib.hid (Ta _ _)) (Lib.hid (zh _ _))
  (Lib.hid fun W hW=>JD E seed W hs hW)
  (Lib.hid fun g W hC hW hp=>Dt E D m d 1 g ps (Fl seed) W (by rw [Tf]) (by decide) hC hW hT.len hp hT.few hT.short hT.cap hT.max hT.nil)
  (Lib.hid fun W hW=>by have b:=Jo E (Ob (Uh seed ps.flatten) 32) W (Ta _ _) hW;rw [l1] at b;exact b)
  (Lib.hid fun W hW=>Jo E _ W (Pe _) hW)
  (Lib.hid fun g W hC hW hp=>Dt E D m d 2 g ps (sgR seed ps.flatten++xc seed) W (by rw [qaj,Ng,Sf]) (by decide) hC hW hT.len hp hT.few hT.short hT.cap hT.max hT.nil)
  (Lib.hid fun W hW=>by have b:=xM (Ob (Gd (sgR seed ps.flatten++xc seed++ps.flatten)) 32) (sgA seed) W (Ta _ _) (Pe _) hW.2.1;rw [l2] at b;exact b)
  (Lib.hid fun W hW=>by have b:=XX (Ob (Uh seed ps.flatten) 32) (Ob (Gd (sgR seed ps.flatten++xc seed++ps.flatten)*lev (sgA seed)%NP.LL) 32) W (Ta _ _) (Ta _ _) hW.2.1;rw [l1,l3,Nat.add_mod_mod] at b;exact b)
  (Lib.hid fun W=>RO _ _ W (Lib.hid (Ng _ _)) (Lib.hid (Ta _ _))) hS hP
theorem Ko (ae:Addr) (D:Option Addr) (m d:Nat) (ps:List (List UInt8)) (pub sig:List UInt8) (w:World) (hp:pub.length=32) (hs:sig.length=64) (hT:In D m d ps) (hS:Bc (Ib ae) w) (hP:Jd D ps w):
 Calls Tryz.prog 10 #[Ca pub,Ca sig,.slice D m d] w (gvn (.bool (Fn pub sig ps.flatten)) w):=by
 have h1:(sig.take 32).length=32:=by rw [zaj];omega
 have h2:(sig.drop 32).length=32:=by rw [List.length_drop];omega
 have l3:lev (Ob (Gd (sig.take 32++pub++ps.flatten)) 32)=Gd (sig.take 32++pub++ps.flatten):=Bf _ (Cv _);by_cases hr:lev (sig.drop 32)<NP.LL
 ·have R:∀W,Bc (Ib ae) W→Calls Tryz.prog 25 #[Ca (sig.drop 32)] W (gvn (.bool true) W):=fun W hW=>by
   have b:=Gy (sig.drop 32) W h2 hW.2.1;rw [decide_eq_true hr] at b;exact b
  cases hg:Uc pub with
  |true=>
   have r:NP.RepN (Cx pub) (Rf pub):=by rw [(zJ pub hp hg).1];exact NP.Pt.own _
   have q:=NP.withU_rep (NP.negT_rep r) (Ob (Gd (sig.take 32++pub++ps.flatten)) 32) (sig.drop 32) (Ta _ _) h2;rw [l3] at q;rw [show Fn pub sig ps.flatten=(Qd (NP.edw.add (NP.edw.mul (Cx pub).neg (Gd (sig.take 32++pub++ps.flatten))) (NP.edw.mul NP.bE (lev (sig.drop 32))))==sig.take 32) by
    rw [Fn,hg,decide_eq_true hr,Bool.true_and,Bool.true_and]]
   exact Dv (Zc (Rf pub)) (Zc (qu (Rf pub))) _ pub sig (sig.take 32) (sig.drop 32) (Ob (Gd (sig.take 32++pub++ps.flatten)) 32) _ _ D m d ps ae w
    (Lib.hid hs) (Lib.hid hp) (Lib.hid h1) (Lib.hid h2) (Lib.hid fun W=>Io sig W hs) (Lib.hid R) (Lib.hid rfl)
    (Lib.hid fun W hW=>by have b:=qG ae pub W hp hW.2.2;rw [hg] at b;exact b)
    (Lib.hid (Ta _ _))
    (Lib.hid fun g W hC hW hq=>Dt _ D m d 2 g ps (sig.take 32++pub) W (by rw [qaj,h1,hp]) (by decide) hC hW hT.len hq hT.few hT.short hT.cap hT.max hT.nil)
    (Lib.hid fun W=>Eak (Rf pub) W r.lt) (Lib.hid fun W hW=>MY _ (qu (Rf pub)) _ _ W (Ta _ _) h2 (NP.negT_rep r).lt hW.2.2) (Lib.hid fun W=>ZG q W)
    (Rz _ _ (Hf _) h1) hS hP
  |false=>
   rw [show Fn pub sig ps.flatten=false by rw [Fn,hg,Bool.false_and,Bool.and_false]];exact Lx (Zc (Rf pub)) pub sig (sig.take 32) (sig.drop 32) D m d ae w (Lib.hid hs) (Lib.hid hp) (Lib.hid h1) (Lib.hid h2) (Lib.hid fun W=>Io sig W hs) (Lib.hid R) (Lib.hid rfl)
    (Lib.hid fun W hW=>by have b:=qG ae pub W hp hW.2.2;rw [hg] at b;exact b) hS
 ·rw [show Fn pub sig ps.flatten=false by rw [Fn,decide_eq_false hr,Bool.false_and]];exact Kx pub sig (sig.take 32) (sig.drop 32) D m d ae w (Lib.hid hs) (Lib.hid h1) (Lib.hid h2) (Lib.hid fun W=>Io sig W hs)
   (Lib.hid fun W hW=>by have b:=Gy (sig.drop 32) W h2 hW.2.1;rw [decide_eq_false hr] at b;exact b) hS
theorem Vc {P:Program} {ops:Array Oper} {Q:Exit→Act→World→Prop} {w:World} {o:Oper} {a:Act} {K:Act→World→Prop} (hw:Region.wanted o (yielded ops a.tmps)=true)
 (h:if Region.wanted {o with guard:=none} (yielded ops a.tmps)=true then Oper.wp P {o with guard:=none} a w K Q else K (a.put o.dst undef) w):if Region.wanted o (yielded ops a.tmps)=true then Oper.wp P o a w K Q else K (a.put o.dst undef) w:=by
 rw [if_pos hw];rw [if_pos (by simp [Region.wanted])] at h;exact h
theorem Rd {ops:Array Oper} {o:Oper} {a:Act} {j s:Nat} (hg:o.guard=some (j,true)) {oj:Oper} (hj:ops[j]? =some oj) (hd:oj.dst=some s) (hv:a.tmps.getD s undef=.bool true):Region.wanted o (yielded ops a.tmps)=true:=by
 simp only [Region.wanted,hg];unfold yielded;rw [Array.getD_eq_getD_getElem?] at hv;cases h:a.tmps[s]? with
 |none=>rw [h] at hv;cases hv
 |some v=>
  rw [h] at hv;obtain rfl:v=.bool true:=hv;simp [hj,hd,h]
section
variable {P:Program} {ops:Array Oper} {Q:Exit→Act→World→Prop} {md:Region.Mode}
def CK (x:Array Bool) (xs:List (Array Bool)):List (Array Bool):=if xs.contains x then xs else x::xs
theorem RT {x y:Array Bool} {xs:List (Array Bool)} (h:y=x∨y∈xs):y∈CK x xs:=by
 unfold CK
 split
 ·rename_i hc;rcases h with rfl|h
  ·simpa using hc
  ·exact h
 ·rcases h with rfl|h
  ·exact List.mem_cons_self
  ·exact List.mem_cons_of_mem _ h
theorem yO {y:Array Bool}:∀(xs:List (Array Bool)),y∈xs→y∈xs.foldr CK []
 |x::xs,h=>by
  rw [List.foldr_cons];refine RT ?_;rcases List.mem_cons.1 h with h|h
  ·exact .inl h
  ·exact .inr (yO xs h)
def SY (md:Region.Mode) (ops:Array Oper) (fins:List (Array Bool×Nat)) (k:Nat) (front:List (Array Bool)):List (Array Bool):=
 (front.flatMap fun l=>if fins.contains (l,k) then [] else (Region.ready md ops l).map fun i=>l.setIfInBounds i true).foldr CK []
def DK (md:Region.Mode) (ops:Array Oper) (L:List Nat) (fins:List (Array Bool×Nat)):Nat→List (Array Bool)→Bool
 |0,front=>front.all fun l=>fins.contains (l,0)
 |k+1,front=>(front.all fun l=>fins.contains (l,k+1)||(!(Region.ready md ops l).isEmpty&&(Region.ready md ops l).all fun i=>L.contains i))&&DK md ops L fins k (SY md ops fins (k+1) front)
theorem Ev {L:List Nat} {fins:List (Array Bool×Nat)} (I:Array Bool→Act→World→Prop)
 (hstep:∀i∈L,∀listed a w,I listed a w→i∈Region.ready md ops listed→wpOp P ops Q i (I (listed.setIfInBounds i true)) a w)
 (hend:∀f∈fins,∀a w,I f.1 a w→wpAny P md ops Q f.2 f.1 a w):
 ∀(k:Nat) (front:List (Array Bool)),DK md ops L fins k front=true→∀listed∈front,∀(a:Act) (w:World),I listed a w→wpAny P md ops Q k listed a w
 |0,front,hB,listed,hm,a,w,hI=>hend (listed,0) (by have h:=List.all_eq_true.1 hB listed hm;simpa using h) a w hI
 |k+1,front,hB,listed,hm,a,w,hI=>by
  rw [DK,Bool.and_eq_true] at hB;have h1:=List.all_eq_true.1 hB.1 listed hm;by_cases hf:fins.contains (listed,k+1)=true
  ·exact hend (listed,k+1) (by simpa using hf) a w hI
  ·rw [Bool.or_eq_true] at h1;have h2:=h1.resolve_left hf;rw [Bool.and_eq_true,List.all_eq_true] at h2;refine ⟨fun h0=>?_,fun i hi=>?_⟩
   ·rw [h0] at h2;simp at h2
   ·have h:=h2.2 i hi;refine wpOp_mono (fun a' w' h'=>Ev I hstep hend k _ hB.2 _ ?_ a' w' h') (hstep i (by simpa using h) listed a w hI hi);refine yO _ (List.mem_flatMap.2 ⟨listed,hm,?_⟩);rw [if_neg hf];exact List.mem_map.2 ⟨i,hi,rfl⟩
theorem Lo {L:List Nat} {fins:List (Array Bool×Nat)} (I:Array Bool→Act→World→Prop)
 (hstep:∀i∈L,∀listed a w,I listed a w→i∈Region.ready md ops listed→wpOp P ops Q i (I (listed.setIfInBounds i true)) a w)
 (hend:∀f∈fins,∀a w,I f.1 a w→wpAny P md ops Q f.2 f.1 a w) (k:Nat) (listed:Array Bool) (a:Act) (w:World) (hB:DK md ops L fins k [listed]=true) (hI:I listed a w):wpAny P md ops Q k listed a w:=
 Ev I hstep hend k [listed] hB listed (List.mem_singleton.2 rfl) a w hI
end
structure It (w w':World):Prop where
 size:w.heap.size≤w'.heap.size
 cell:∀p:Addr,p.block<w.heap.size→w'.cell? p=w.cell? p
 row:∀(g:Nat) (C:Array Value) (t:TypeId) (fr:Nat×Nat),w.heap[g]? =some (.cells C t fr)→∃fr',w'.heap[g]? =some (.cells C t fr')
theorem EK {w:World} {g:Nat} {o:Obj} (h:w.heap[g]? =some o):g<w.heap.size:=by
 rcases Nat.lt_or_ge g w.heap.size with h'|h'
 ·exact h'
 ·rw [Array.getElem?_eq_none h'] at h;cases h
theorem It.of {w w':World} (hb:Below w.heap.size w w'):It w w':=⟨hb.size,fun _ hp=>hb.cell hp,fun g C t fr h=>⟨fr,by rw [hb.block g (EK h)];exact h⟩⟩
theorem Jd.kept {D:Option Addr} {ps:List (List UInt8)} {w w':World} (h:Jd D ps w) (k:It w w'):Jd D ps w':=by
 refine xf.more ?_ k.size;rcases h with rfl|⟨b,off,rfl,hlt,hc⟩
 ·exact .inl rfl
 ·refine .inr ⟨b,off,rfl,hlt,fun j us hu=>?_⟩;obtain ⟨v,h1,A,c,e,hr,h2⟩:=hc j us hu;exact ⟨v,(k.cell _ hlt).trans h1,A,c,e,hr.keep k.cell,h2⟩
theorem KD {w:World} {g:Nat} {l:List UInt8} {t:TypeId} {fr:Nat×Nat} (h:w.heap[g]? =some (.cells (l.map Fa).toArray t fr)):Row w w.heap.size (some ⟨g,0,none⟩) l:=by
 refine .inr ⟨g,0,rfl,EK h,fun j u hu=>?_⟩;rw [Nat.zero_add,cell_of_row _ _ _ _ _ _ h,List.getElem?_toArray,List.getElem?_map,hu];rfl
structure Jt (w0:World) (a0:Act) (slots:List (Nat×Nat)) (prop:Nat→Value→World→Prop) (listed:Array Bool) (a:Act) (w:World):Prop where
 below:Below w0.heap.size w0 w
 size:a.tmps.size=a0.tmps.size
 defers:a.defers=a0.defers
 same:∀s,(∀p∈slots,p.2≠s)→a.tmps.getD s undef=a0.tmps.getD s undef
 fact:∀p∈slots,listed.getD p.1 false=true→prop p.1 (a.tmps.getD p.2 undef) w
theorem G6 {slots:List (Nat×Nat)} {p q:Nat×Nat}:(slots.map (·.2)).Nodup→p∈slots→q∈slots→p.2=q.2→p=q:=by
 intro hl h1 h2 e
 induction slots with
 |nil=>cases h1
 |cons r l ih=>
  rw [List.map_cons,List.nodup_cons] at hl;rcases List.mem_cons.1 h1 with rfl|h1
  ·rcases List.mem_cons.1 h2 with h2|h2
   ·exact h2.symm
   ·exact absurd (List.mem_map.2 ⟨q,h2,e.symm⟩) hl.1
  ·rcases List.mem_cons.1 h2 with h2|h2
   ·rw [←h2] at hl;exact absurd (List.mem_map.2 ⟨p,h1,e⟩) hl.1
   ·exact ih hl.2 h1 h2
theorem ST {w0:World} {a0:Act} {slots:List (Nat×Nat)} {prop:Nat→Value→World→Prop} (hinj:(slots.map (·.2)).Nodup) (hinj1:(slots.map (·.1)).Nodup) (N:Nat) (hN:a0.tmps.size=N) (hlt:∀p∈slots,p.2<N)
 (hst:∀i v w w',prop i v w→It w w'→prop i v w') {i s:Nat} (hi:(i,s)∈slots) {listed:Array Bool} {a:Act} {w w':World} {v:Value} (h:Jt w0 a0 slots prop listed a w) (hb:Below w0.heap.size w0 w') (hk:It w w') (hv:prop i v w'):
 Jt w0 a0 slots prop (listed.setIfInBounds i true) (a.put (some s) v) w':=by
 refine ⟨hb,?_,?_,fun t ht=>?_,fun p hp hl=>?_⟩
 ·rw [←h.size];simp [Act.put]
 ·rw [←h.defers];rfl
 ·rw [Fg _ _ _ _ (ht _ hi)];exact h.same t ht
 ·by_cases e:p.1=i
  ·have e2:=xH hinj1 hp hi e;subst e2;rw [Pf _ _ _ (by rw [h.size,hN];exact hlt _ hi)];exact hv
  ·have hne:s≠p.2:=fun e3=>e (by rw [G6 hinj hp hi e3.symm]);rw [Fg _ _ _ _ hne];refine hst _ _ _ _ (h.fact p hp ?_) hk
   rwa [getD_set_ne false (fun e4=>e e4.symm)] at hl
section
variable {P:Program} {ops:Array Oper} {Q:Exit→Act→World→Prop} {md:Region.Mode}
theorem Cb {w0:World} {a0:Act} {slots:List (Nat×Nat)} {prop:Nat→Value→World→Prop} (hinj:(slots.map (·.2)).Nodup) (hinj1:(slots.map (·.1)).Nodup) (N:Nat) (hN:a0.tmps.size=N) (hlt:∀p∈slots,p.2<N)
 (hst:∀i v w w',prop i v w→It w w'→prop i v w')
 {i s:Nat} (hi:(i,s)∈slots) {o:Oper} (ho:ops[i]? =some o) (hd:o.dst=some s)
 (hop:∀a w K,Below w0.heap.size w0 w→a.tmps.size=a0.tmps.size→a.defers=a0.defers→(∀s,(∀p∈slots,p.2≠s)→a.tmps.getD s undef=a0.tmps.getD s undef)→
  (∀p∈slots,Fe md ops i p.1=true→prop p.1 (a.tmps.getD p.2 undef) w)→(∀v w',Below w.heap.size w w'→prop i v w'→K (a.put o.dst v) w')→(∀v w',Below w0.heap.size w0 w'→It w w'→prop i v w'→K (a.put o.dst v) w')→
  if Region.wanted o (yielded ops a.tmps)=true then Oper.wp P o a w K Q else K (a.put o.dst undef) w)
 (listed:Array Bool) (a:Act) (w:World) (h:Jt w0 a0 slots prop listed a w) (hr:i∈Region.ready md ops listed):
 wpOp P ops Q i (Jt w0 a0 slots prop (listed.setIfInBounds i true)) a w:=by
 refine wpOp_step ho fun K hK=>?_;have hM:∀v w',Below w0.heap.size w0 w'→It w w'→prop i v w'→K (a.put o.dst v) w':=fun v w' hb hk hv=>hK _ _ (by
  rw [hd];exact ST hinj hinj1 N hN hlt hst hi h hb hk hv)
 exact hop a w K h.below h.size h.defers h.same (fun p hp hwt=>h.fact p hp (zf hr hwt)) (fun v w' hb hv=>hM v w' (h.below.trans (hb.mono h.below.size)) (It.of hb) hv) hM
end
theorem AH {W:World} (g n c:Nat) (C:Array Value) (fr:Nat×Nat) (hg:W.heap[g]? =some (.cells C 5 fr)):
 ∃W',(convert 24 24 (.slice (some ⟨g,0,none⟩) n c)).run Tryz.prog W=.ok (.slice (some ⟨g,0,none⟩) n c) W'∧But g W W'∧It W W':=by
 have hsh:W.shape? g=some (5,C.size):=by
  unfold World.shape?;rw [hg]
 have hsz:(W.freeze ⟨g,C.size,none⟩ 1).heap.size=W.heap.size:=by unfold World.freeze;rw [if_neg (by decide)];simp
 have hbut:But g W (W.freeze ⟨g,C.size,none⟩ 1):=by
  refine ⟨rfl,rfl,rfl,?_,fun k _ hk=>?_⟩
  ·rw [hsz];exact Xaj _
  ·unfold World.freeze;rw [if_neg (by decide)];simp [Array.getElem?_modify,Ne.symm hk]
 have hrow:∃fr',(W.freeze ⟨g,C.size,none⟩ 1).heap[g]? =some (.cells C 5 fr'):=by
  unfold World.freeze;rw [if_neg (by decide)];simp [Array.getElem?_modify,hg]
 refine ⟨W.freeze ⟨g,C.size,none⟩ 1,?_,hbut,?_,fun p hp=>?_,fun k C2 t2 fr2 h2=>?_⟩
 ·simp [convert,run_underlying Tryz.underlying24,run_underlying Tryz.underlying5,markStringish,hsh]
 ·rw [hsz];exact Xaj _
 ·by_cases hpg:p.block=g
  ·obtain ⟨fr',h'⟩:=hrow;obtain ⟨b,o,f⟩:=p;simp only at hpg;subst hpg;unfold World.cell?;simp only [h',hg]
  ·exact World.cell?_of_block (hbut.block _ hp hpg)
 ·by_cases hkg:k=g
  ·subst hkg;rw [hg] at h2;cases h2
   exact hrow
  ·exact ⟨fr2,by rw [hbut.block k (EK h2) hkg];exact h2⟩
theorem zO {w:World} {ops:Array Oper} {o:Oper} {a:Act} {K:Act→World→Prop} {Q:Exit→Act→World→Prop} (hgd:o.guard=none) (x:Operand) (ho:o.op=.convert 24 24 x) (g n c:Nat) (C:Array Value) (fr:Nat×Nat) (hx:a.eval x=.slice (some ⟨g,0,none⟩) n c) (hg:w.heap[g]? =some (.cells C 5 fr))
 (h:∀w',But g w w'→It w w'→K (a.put o.dst (.slice (some ⟨g,0,none⟩) n c)) w'):if Region.wanted o (yielded ops a.tmps)=true then Oper.wp Tryz.prog o a w K Q else K (a.put o.dst undef) w:=by
 obtain ⟨W',h1,h2,h3⟩:=AH g n c C fr hg;rw [if_pos (by simp [Region.wanted,hgd])];unfold Oper.wp;simp only [execOp,ho,hx,h1,Sem.run_bind,Sem.run_pure,Result.andThen_ok];exact h W' h2 h3
theorem TT {w:World} {ops:Array Oper} {rest:List Oper} {o:Oper} {a:Act} {Q:Exit→Act→World→Prop} (hgd:o.guard=none) (x:Operand) (ho:o.op=.convert 24 24 x) (g n c:Nat) (C:Array Value) (fr:Nat×Nat) (hx:a.eval x=.slice (some ⟨g,0,none⟩) n c) (hg:w.heap[g]? =some (.cells C 5 fr))
 (h:∀w',But g w w'→It w w'→wpList Tryz.prog ops Q rest (a.put o.dst (.slice (some ⟨g,0,none⟩) n c)) w'):wpList Tryz.prog ops Q (o::rest) a w:=by
 obtain ⟨W',h1,h2,h3⟩:=AH g n c C fr hg;refine wpList_plain hgd fun K hK=>?_;unfold Oper.wp;simp only [execOp,ho,hx,h1,Sem.run_bind,Sem.run_pure,Result.andThen_ok];exact hK _ _ (h W' h2 h3)
theorem TY (z:Bool) (w:World):(binOp .eql 4 (.bool z) (.bool z)).run Tryz.prog w=.ok (.bool true) w:=by cases z<;>kernel_rfl
theorem UT (op:BinOp) (x y:Operand) (a b:Bool) (w:World):(eqGuard op 4 x y (.bool a) (.bool b)).run Tryz.prog w=.ok () w:=by cases op<;>kernel_rfl
theorem LD (v:UInt8) (w:World):(Instr.buildSlice 24 1 #[(0,.int .u8 (v.toNat:Int))]).run Tryz.prog w=.ok (.slice (some ⟨w.heap.size,0,none⟩) 1 1) (w.alloc (.cells ([v].map Fa).toArray 5)):=by kernel_rfl
theorem Sg {w:World} {g:Nat} {v:Value} {t:TypeId} {x:List UInt8} (hC:Ia w g [v] t) (h1:Of w w.heap.size v x):xf w w.heap.size (some ⟨g,0,none⟩) [x]:=
 Jq hC fun j us hu=>by
  match j,hu with
  |0,hu=>cases hu;exact ⟨v,rfl,h1⟩
  |j+1,hu=>simp at hu
end Go.Proofs.YtoggkhjaghkpnaaGreatDoor
