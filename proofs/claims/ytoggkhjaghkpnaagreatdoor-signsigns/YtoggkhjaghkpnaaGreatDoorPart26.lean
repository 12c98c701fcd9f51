/- Part 26 of what the laws of this seat share: YAlive, ZLaw, YSign, YVerify, YHalves, YFill, YAny, YSigned, YVerified, ZTop. -/
import Derived.Deep.Cut
import Derived.Test.YtoggkhjaghkpnaaGreatDoorPart25
set_option maxRecDepth 100000
set_option maxHeartbeats 8000000
namespace Go.Proofs.YtoggkhjaghkpnaaGreatDoor
open Go.RowKit
def Lh:List UInt8:=1::List.replicate 31 0
def Vo:List UInt8:=2::List.replicate 31 0
theorem IH:Ed Lh= [206,12,38,94,204,130,221,140,238,110,86,206,68,228,93,175,215,160,197,117,13,249,20,178,83,161,251,122,138,246,109,219,153,118,54,7,240,168,93,11,212,54,105,25,74,58,64,87,122,82,138,243,149,244,241,126,6,241,222,252,198,222,178,165]:=by decide+kernel
theorem EZ:Ed Vo= [186,61,12,71,245,159,79,234,224,247,157,109,49,41,89,13,68,76,148,199,67,222,153,203,63,186,1,164,230,210,16,59,67,84,239,167,228,132,35,93,52,94,246,233,232,28,241,132,121,107,157,3,47,12,128,252,49,59,248,197,66,49,88,154]:=by decide+kernel
theorem JH:lev (sgA Lh)=41354757114163650016304086911142683682198188400503391378057401993857692208328:=by rw [sgA,IH];decide+kernel
theorem KH:lev (sgA Vo)=55664205513570705882943352121533683204085728697754008713616386209201003445688:=by rw [sgA,EZ];decide+kernel
theorem Wab:Uh Lh [97]=3074186201944897198078527609885529445307900368435549988070374619371579677415:=by
 have h:Ed (Fl Lh++[97])= [11,35,46,32,6,78,30,85,240,190,68,155,1,88,107,60,161,219,58,196,14,97,214,156,203,160,87,146,23,238,27,2,191,141,34,200,232,144,91,224,165,171,168,61,115,159,12,138,93,38,247,249,50,176,221,153,69,215,204,203,238,235,133,46]:=by rw [Fl,IH];decide+kernel
 rw [Uh,Gd,h];decide+kernel
theorem Rah:xc Lh= [206,204,21,7,220,29,221,114,149,149,28,41,8,136,240,149,173,185,4,77,27,115,214,150,230,223,6,93,104,59,212,252]:=by
 have h:=NP.base_at 41354757114163650016304086911142683682198188400503391378057401993857692208328 26822555233711949854380153315158647482531717314742952720223963642152101436051 56461774818723834839721450787889437474891852695816614318545467683432985644238 (by decide+kernel) (by decide+kernel) (by decide+kernel) (by decide+kernel);rw [xc,JH,Qd,NP.Pt.X,NP.Pt.Y,h.1,h.2];decide+kernel
theorem Sah:xc Vo= [107,121,197,126,106,9,82,57,40,44,4,129,142,150,17,47,63,3,164,0,27,169,122,86,76,35,133,42,63,30,165,252]:=by
 have h:=NP.base_at 55664205513570705882943352121533683204085728697754008713616386209201003445688 30502062408368802319605209355040172200299064220671145128052775605321946045309 56378531745358395318699445366766802391580978637127663975616544628844918045035 (by decide+kernel) (by decide+kernel) (by decide+kernel) (by decide+kernel);rw [xc,KH,Qd,NP.Pt.X,NP.Pt.Y,h.1,h.2];decide+kernel
theorem SV:sgR Lh [97]= [222,230,150,190,162,57,102,46,103,239,222,218,202,143,82,47,127,122,238,17,43,215,179,107,123,33,250,35,237,226,2,31]:=by
 have h:=NP.base_at 3074186201944897198078527609885529445307900368435549988070374619371579677415 19309484914375710165932874489325495985356951322969071418412581995036784980746 14026798188181377637261715726930279836109456392610032591340885467588394936030 (by decide+kernel) (by decide+kernel) (by decide+kernel) (by decide+kernel);rw [sgR,Wab,Qd,NP.Pt.X,NP.Pt.Y,h.1,h.2];decide+kernel
theorem Wae:Gd (sgR Lh [97]++xc Lh++[97])=6285308940129792820454355301134625136493137520830403794332846006747471739295:=by
 have h:Ed (sgR Lh [97]++xc Lh++[97])= [84,90,166,222,231,187,241,245,135,112,226,216,51,154,22,238,19,228,152,171,46,83,173,0,174,126,38,192,0,92,18,77,128,40,106,101,67,155,6,117,76,38,174,79,208,179,204,217,214,152,66,19,182,197,197,55,103,51,113,241,162,217,108,29]:=by rw [SV,Rah];decide+kernel
 rw [Gd,h];decide+kernel
theorem Xae:Gd (sgR Lh [97]++xc Vo++[97])=4552352338528907286797675715543402463484267819218852012689592920313631079068:=by
 have h:Ed (sgR Lh [97]++xc Vo++[97])= [237,89,125,251,0,230,96,237,141,255,89,250,224,230,65,199,2,147,88,11,113,247,74,42,29,120,250,41,164,15,30,17,28,69,107,61,35,31,190,65,78,59,115,71,58,148,128,79,102,124,103,53,218,75,85,78,1,102,162,255,118,1,106,48]:=by rw [SV,Sah];decide+kernel
 rw [Gd,h];decide+kernel
theorem X6:Fn (xc Vo) (Bg Lh [97]) [97]=false:=by
 cases hs:Fn (xc Vo) (Bg Lh [97]) [97] with
 |false=>rfl
 |true=>
  have h:=FT Lh Vo [97] hs;rw [Wae,Xae,JH,KH,Wab] at h;exact absurd h (by decide+kernel)
end Go.Proofs.YtoggkhjaghkpnaaGreatDoor
namespace Go.Proofs.YtoggkhjaghkpnaaGreatDoor
open Go.ChangeShapes Go.WideShapes Go.ChangeAt Go.RowKit
theorem EU {W:World} {ps:List MemPlace} (h:DataW.LaidVars Tryz.prog W [("fellowship/scalar.order",Rows.laid_fellowship_scalar_order),("fellowship/scalar.tail",Rows.laid_fellowship_scalar_tail)] ps):Bl W:=by
 obtain ⟨g2,t2,cs2,f2,p2,q2,hg2,ht2,hv2,hd2,hq2,rfl⟩:=h;obtain ⟨g3,t3,cs3,f3,p3,q3,hg3,ht3,hv3,hd3,hq3,rfl⟩:=hq2;obtain rfl:0=g2:=Option.some.inj ((show Tryz.prog.globalNamed "fellowship/scalar.order"=some 0 by kernel_rfl).symm.trans hg2);obtain rfl:7=g3:=Option.some.inj ((show Tryz.prog.globalNamed "fellowship/scalar.tail"=some 7 by kernel_rfl).symm.trans hg3);obtain rfl:83=t2:=Option.some.inj ((show (Tryz.prog.globals[0]?).map (·.type)=some 83 by kernel_rfl).symm.trans ht2);obtain rfl:83=t3:=Option.some.inj ((show (Tryz.prog.globals[7]?).map (·.type)=some 83 by kernel_rfl).symm.trans ht3);rw [FH] at hd2;rw [JP] at hd3;exact ⟨Jv hg2 hv2 hd2,Jv hg3 hv3 hd3⟩
theorem LH {W:World} (h:laidMetH Tryz.prog (((([Rg[0]!,Rg[2]!,Rg[3]!].map fun x=>(x.1,.iface "*errors.errorString" (.ptr (.agg [.lit (.string x.2)]))))++[("fellowship/field.curve",Rows.laid_fellowship_field_curve),("fellowship/field.baseX",Rows.laid_fellowship_field_baseX),("fellowship/field.baseY",Rows.laid_fellowship_field_baseY),("fellowship/field.turn",Rows.laid_fellowship_field_turn)])++[("fellowship/scalar.order",Rows.laid_fellowship_scalar_order),("fellowship/scalar.tail",Rows.laid_fellowship_scalar_tail)])++[("fellowship/shawide.start",Rows.laid_fellowship_shawide_start),("fellowship/shawide.rounds",Rows.laid_fellowship_shawide_rounds)]) W):∃a,Bc (Ib a) W:=by
 rw [MakeChecks.laidMetH_plain _ _ _ (by kernel_rfl)] at h;obtain ⟨ps,hv,hnd,hrows⟩:=h;obtain ⟨pA,pW,rfl,hvA,hvW⟩:=Hl _ _ _ hv;obtain ⟨pB,pS,rfl,hvB,hvS⟩:=Hl _ _ _ hvA;obtain ⟨p1,p2,rfl,hv1,hv2⟩:=Hl _ _ _ hvB;obtain ⟨c1,c2,c3,c4⟩:=zG hv2;have nd1:=(List.nodup_append.1 (List.nodup_append.1 (List.nodup_append.1 hnd).1).1).1;obtain ⟨es,h1,_,_,h4⟩:=Qv [Rg[0]!,Rg[2]!,Rg[3]!] [6,8,1] p1 (by kernel_rfl) (fun g hg=>by
  have hall:([6,8,1].all fun g=>((Tryz.prog.globals[g]?).map (·.type))==some 57)=true:=by kernel_rfl
  simpa using List.all_eq_true.1 hall g hg) hv1 nd1 (fun b off hm=>hrows b off (List.mem_append_left _ (List.mem_append_left _ (List.mem_append_left _ hm))))
 match es,h1 with
 | [_,_,a],_=>exact ⟨a,W6 hvW,EU hvS,c1,c2,c3,c4,(h4 2 _ a rfl rfl).1⟩
theorem Zy (a:Addr) (w:World) (hS:Bc (Ib a) w):Calls Tryz.prog 5 #[] w (gvn (.bool true) w):=by
 have hT:∀g:Nat,In (some ⟨g,0,none⟩) 1 1 [[97]]:=fun g=>⟨rfl,by decide,by decide,Xaj _,by unfold maxLen;omega,fun h=>by cases h⟩;refine FK Lh Vo (xc Lh) (xc Vo) (Bg Lh [97]) (Ib a) w (Lib.hid (zh _ _)) (by intro w;kernel_rfl) (by intro w;kernel_rfl)
  (Lib.hid fun g W hp hW=>xO _ _ 1 1 [[97]] Lh W rfl (hT g) hW hp) (Lib.hid fun W hW=>Gt _ Lh W rfl hW) (Lib.hid fun W hW=>Gt _ Vo W rfl hW)
  (Lib.hid fun g W hp hW=>?_) (Lib.hid fun g W hp hW=>?_) hS
 ·have b:=Ko a _ 1 1 [[97]] (xc Lh) (Bg Lh [97]) W (Sf _) (zh _ _) (hT g) hW hp;rw [show [[(97:UInt8)]].flatten= [97] from rfl,Ry] at b;exact b
 ·have b:=Ko a _ 1 1 [[97]] (xc Vo) (Bg Lh [97]) W (Sf _) (zh _ _) (hT g) hW hp;rw [show [[(97:UInt8)]].flatten= [97] from rfl,X6] at b;exact b
theorem SP (g n:Nat) (text:List UInt8) (hl:text.length=n) (hn:n≤800000):In (some ⟨g,0,none⟩) 1 1 [text]∧ [text].flatten=text:=
 ⟨⟨rfl,by decide,by simp [hl];exact hn,Xaj _,by unfold maxLen;omega,fun h=>by cases h⟩,by simp⟩
end Go.Proofs.YtoggkhjaghkpnaaGreatDoor
namespace Go.Proofs.YtoggkhjaghkpnaaGreatDoor
open Go.RowKit
def MH (ks:List UInt8) (A:Option Addr) (n:Nat) (c:Nat) (g_base:Nat) (gq:Nat) (ga:Nat) (gp:Nat) (gr:Nat) (gf:Nat) (ka:List UInt8) (kp:List UInt8) (u17:Value) (u19:Value) (u21:Value) (rr:List UInt8) (ff:List UInt8) (pb:List UInt8) (ch:List UInt8) (t:List UInt8) (dd:List UInt8):List Value:=
 (Ca ks)::(.slice A n c)::ptr g_base::undef::ptr gq::ptr ga::ptr gp::ptr gr::ptr gf::ud 3 ((.tuple #[Ca ka,Ca kp])::(Ca ks)::(.tuple #[Ca ka,Ca kp])::(Ca ka)::(Ca kp)::(u17)::(.slice (some ⟨gp,0,none⟩) 32 32)::(u19)::(.slice A n c)::(u21)::(Ca rr)::(Ca rr)::(Ca ff)::(Ca rr)::(Ca ff)::(Ca ka)::(Ca pb)::(.slice A n c)::(Ca ch)::(Ca ka)::(Ca t)::(Ca dd)::ud 17 [])
def Mt (ks:List UInt8) (A:Option Addr) (n:Nat) (c:Nat) (g_base:Nat) (gq:Nat) (ga:Nat) (gp:Nat) (gr:Nat) (gf:Nat) (ka:List UInt8) (kp:List UInt8) (u17:Value) (u19:Value) (u21:Value) (rr:List UInt8) (ff:List UInt8) (pb:List UInt8) (ch:List UInt8) (t:List UInt8) (dd:List UInt8) (n9:Nat):List Value:=
 (Ca ks)::(.slice A n c)::ptr g_base::undef::ptr gq::ptr ga::ptr gp::ptr gr::ptr gf::ptr n9::undef::undef::(.tuple #[Ca ka,Ca kp])::(Ca ks)::(.tuple #[Ca ka,Ca kp])::(Ca ka)::(Ca kp)::(u17)::(.slice (some ⟨gp,0,none⟩) 32 32)::(u19)::(.slice A n c)::(u21)::(Ca rr)::(Ca rr)::(Ca ff)::(Ca rr)::(Ca ff)::(Ca ka)::(Ca pb)::(.slice A n c)::(Ca ch)::(Ca ka)::(Ca t)::(Ca dd)::ud 17 []
theorem TP (A:Option Addr) (n c:Nat) (text kt ks ka kp rr ff pb ch t dd z:List UInt8) (X M:Nat→List UInt8) (w:World)
 (Hks:Hid (ks.length=32))
 (Hka:Hid (ka.length=32))
 (Hkp:Hid (kp.length=32))
 (Hrr:Hid (rr.length=32))
 (Hff:Hid (ff.length=32))
 (Hdd:Hid (dd.length=32))
 (Hz:Hid (z.length=64))
 (Hn:Hid (n≤900000))
 (HKT:Hid (kp++text=kt))
 (CS:Hid (∀W,Calls Tryz.prog 18 #[Ca ks] W (gvn (.tuple #[Ca ka,Ca kp]) W)))
 (CH:Hid (∀A n c W,Xe A n c kt W→Calls Tryz.prog 20 #[.slice A n c] W (gvn (Ca rr) W)))
 (CB:Hid (∀W,Calls Tryz.prog 19 #[Ca rr] W (gvn (Ca ff) W)))
 (CP:Hid (∀W,Calls Tryz.prog 19 #[Ca ka] W (gvn (Ca pb) W)))
 (CC:Hid (∀W,Xe A n c text W→Calls Tryz.prog 23 #[Ca ff,Ca pb,.slice A n c] W (gvn (Ca ch) W)))
 (CT:Hid (∀W,Calls Tryz.prog 22 #[Ca ch,Ca ka] W (gvn (Ca t) W)))
 (CA:Hid (∀W,Calls Tryz.prog 21 #[Ca rr,Ca t] W (gvn (Ca dd) W)))
 (BZ:∀w,(Instr.build 26 #[]).run Tryz.prog w=.ok (Ca z) w)
 (HX0:Hid (X 0=z))
 (HL:Hid (∀j,(X j).length=64∧(M j).length=64))
 (HR:Hid (∀j:Nat,j<32→∃q u:UInt8,(ff.map Fa)[j]? =some (Fa q)∧(dd.map Fa)[j]? =some (Fa u)∧((X j).map Fa).set j (Fa q)=(M j).map Fa∧((M j).map Fa).set (32+j) (Fa u)=(X (j+1)).map Fa))
 (hT:Xe A n c text w):
 Calls Tryz.prog 9 #[Ca ks,.slice A n c] w (gvn (Ca (X 32)) w):=by
 go_enter Tryz.func9,Tryz.ntmps9;go_wp2_with (first
  |(refine Ra rfl 22 (.tmp 0) rfl (ks.map Fa) rfl ?_
    intro w1 hb1 hvs1;have hB1:=hb1;have hges:w.heap.size≤w.heap.size:=Xaj _;clear hb1;try simp only [La]
    skip)
  |(refine Ma (o:=⟨some 4,_,_,_,_,_⟩) rfl 26 rfl JT ID ?_
    intro w2 hb2 hvq2;have hB2:=Ba hB1 hb2;have hgeq:w.heap.size≤w1.heap.size:=hB1.size;have hvs2:=hvs1.on hb2;have hnesq:=Vaj hvs1.lt;clear hB1 hvs1 hb2;try simp only [La]
    skip)
  |(refine Pa rfl 22 (.tmp 2) rfl w.heap.size 32 (ks.map Fa) rfl hvs2 Tryz.underlying22 rfl Kb (by rw [Uaj,Hks.out]) ?_
    try simp only [La]
    skip))
 generalize hqq:w1.heap.size=gq at *;clear hqq;refine (CS.out w2).mono ?_;rintro e w3 ⟨rfl,hb3⟩;have hB3:=Ba hB2 hb3;have hvs3:=hvs2.on hb3;have hvq3:=hvq2.on hb3;clear hB2 hvs2 hvq2 hb3;go_wp2_with (first
  |(refine Ma (o:=⟨some 5,_,_,_,_,_⟩) rfl 22 rfl Xa Dc ?_
    intro w4 hb4 hva4;have hB4:=Ba hB3 hb4;have hgea:w.heap.size≤w3.heap.size:=hB3.size;have hvs4:=hvs3.on hb4;have hnesa:=Vaj hvs3.lt;have hvq4:=hvq3.on hb4;have hneqa:=Vaj hvq3.lt;clear hB3 hvs3 hvq3 hb4;try simp only [La]
    skip)
  |(refine Ma (o:=⟨some 6,_,_,_,_,_⟩) rfl 22 rfl Xa Dc ?_
    intro w5 hb5 hvp5;have hB5:=Ba hB4 hb5;have hgep:w.heap.size≤w4.heap.size:=hB4.size;have hvs5:=hvs4.on hb5;have hnesp:=Vaj hvs4.lt;have hvq5:=hvq4.on hb5;have hneqp:=Vaj hvq4.lt;have hva5:=hva4.on hb5;have hneap:=Vaj hva4.lt;clear hB4 hvs4 hvq4 hva4 hb5;try simp only [La]
    skip)
  |(refine Ka rfl 22 (.tmp 5) (.tmp 15) rfl w3.heap.size 32 Xa (ka.map Fa) rfl rfl hva5 rfl Kb (by rw [Uaj,Hka.out]) (Ab _) ?_
    intro w6 hb6 hva6 hz6;have hB6:Below w.heap.size w w6:=hB5.trans (hb6.below hgea hB5.size);have hvs6:=hvs5.but hb6 hnesa;have hvq6:=hvq5.but hb6 hneqa;have hvp6:=hvp5.but hb6 (Ne.symm hneap);clear hB5 hva5 hb6 hz6 hvs5 hvq5 hvp5;skip)
  |(refine Ka rfl 22 (.tmp 6) (.tmp 16) rfl w4.heap.size 32 Xa (kp.map Fa) rfl rfl hvp6 rfl Kb (by rw [Uaj,Hkp.out]) (Ab _) ?_
    intro w7 hb7 hvp7 hz7;have hB7:Below w.heap.size w w7:=hB6.trans (hb7.below hgep hB6.size);have hvs7:=hvs6.but hb7 hnesp;have hvq7:=hvq6.but hb7 hneqp;have hva7:=hva6.but hb7 hneap;clear hB6 hvp6 hb7 hz7 hvs6 hvq6 hva6;skip)
  |(refine Vk rfl 24 0 [] rfl [] rfl 5 #[] Fx ?_
    intro w8 hw;have hO8:Sd w8 w7.heap.size (.slice (some ⟨w7.heap.size,0,none⟩) 0 0) []:=(by rw [hw];exact Sd.lit _ [] (Xaj _) (by simp));have hb8:Below w7.heap.size w7 w8:=(by rw [hw];exact (Below.refl _ _).alloc (Xaj _) _);have hz8:=hb8.size;clear hw;try simp only [La]
    skip)
  |(at_builtin
    refine Uf rfl (.tmp 17) (.tmp 18) rfl w7.heap.size _ [] kp w8.heap.size (some ⟨w4.heap.size,0,none⟩) 32 32 rfl hO8 rfl Hkp.out (fun h=>by cases h) (Ia.row (m:=32) (hvp7.on hb8) (by rw [Zaj (by rw [Uaj,Hkp.out];decide)])) (by rw [Hkp.out];decide) hz8 ?_;intro u19 w9 hO9 hb9;rw [List.nil_append] at hO9;replace hb9:=hb8.trans hb9;have hz9:=hb9.size;have hT9:=(hT.below hB7).below hb9;clear hO8 hb8 hz8;try simp only [La]
    skip)
  |(at_builtin
    refine Uf rfl (.tmp 19) (.tmp 20) rfl w7.heap.size u19 kp text w9.heap.size A n c rfl hO9 rfl hT9.1 hT9.2.2.2.1 hT9.2.2.2.2 (by rw [Hkp.out,hT9.1];have :=Hn.out;omega) hz9 ?_;intro v21 w10 hO10 hb10;replace hb10:=hb9.trans hb10;have hz10:=hb10.size;clear hO9 hb9 hz9 hT9;rw [HKT.out] at hO10;obtain ⟨A8,c8,rfl,hc8,hm8,hA8,hR8⟩:=hO10.form2;clear hO10;try simp only [La]
    skip))
 generalize hqa:w3.heap.size=ga at *;clear hqa;generalize hqp:w4.heap.size=gp at *;clear hqp;refine (CH.out A8 _ c8 w10 ⟨rfl,hc8,hm8,hA8,hR8⟩).mono ?_;rintro e w11 ⟨rfl,hb11⟩;replace hb11:=hb10.trans (hb11.mono hz10);clear hb10 hz10 hc8 hm8 hA8 hR8 CH;generalize Value.slice A8 kt.length c8=u21;generalize Value.slice (some ⟨w7.heap.size,0,none⟩) 0 0=u17;have hB11:=Ba hB7 hb11;have hvs11:=hvs7.on hb11;have hvq11:=hvq7.on hb11;have hva11:=hva7.on hb11;have hvp11:=hvp7.on hb11;clear hB7 hvs7 hvq7 hva7 hvp7 hb11;go_wp2_with (first
  |(refine Db rfl rfl 22 (.tmp 7) (.tmp 22) rfl rfl 32 Xa (rr.map Fa) rfl rfl Dc rfl Kb (by rw [Uaj,Hrr.out]) (Ab _) ?_
    intro w12 hb12 hvr12;have hB12:=Ba hB11 hb12;have hger:w.heap.size≤w11.heap.size:=hB11.size;have hvs12:=hvs11.on hb12;have hnesr:=Vaj hvs11.lt;have hvq12:=hvq11.on hb12;have hneqr:=Vaj hvq11.lt;have hva12:=hva11.on hb12;have hnear:=Vaj hva11.lt;have hvp12:=hvp11.on hb12;have hnepr:=Vaj hvp11.lt;clear hB11 hvs11 hvq11 hva11 hvp11 hb12;try simp only [La]
    skip)
  |(refine Pa rfl 22 (.tmp 7) rfl w11.heap.size 32 (rr.map Fa) rfl hvr12 Tryz.underlying22 rfl Kb (by rw [Uaj,Hrr.out]) ?_
    try simp only [La]
    skip))
 generalize hqr:w11.heap.size=gr at *;clear hqr;refine (CB.out w12).mono ?_;rintro e w13 ⟨rfl,hb13⟩;have hB13:=Ba hB12 hb13;have hvs13:=hvs12.on hb13;have hvq13:=hvq12.on hb13;have hva13:=hva12.on hb13;have hvp13:=hvp12.on hb13;have hvr13:=hvr12.on hb13;clear hB12 hvs12 hvq12 hva12 hvp12 hvr12 hb13;go_wp2_with (first
  |(refine Db rfl rfl 22 (.tmp 8) (.tmp 24) rfl rfl 32 Xa (ff.map Fa) rfl rfl Dc rfl Kb (by rw [Uaj,Hff.out]) (Ab _) ?_
    intro w14 hb14 hvf14;have hB14:=Ba hB13 hb14;have hgef:w.heap.size≤w13.heap.size:=hB13.size;have hvs14:=hvs13.on hb14;have hnesf:=Vaj hvs13.lt;have hvq14:=hvq13.on hb14;have hneqf:=Vaj hvq13.lt;have hva14:=hva13.on hb14;have hneaf:=Vaj hva13.lt;have hvp14:=hvp13.on hb14;have hnepf:=Vaj hvp13.lt;have hvr14:=hvr13.on hb14;have hnerf:=Vaj hvr13.lt;clear hB13 hvs13 hvq13 hva13 hvp13 hvr13 hb14;try simp only [La]
    skip))
 generalize hqf:w13.heap.size=gf at *;clear hqf;replace hvs14:=hvs14.drew;replace hvq14:=hvq14.drew;replace hva14:=hva14.drew;replace hvp14:=hvp14.drew;replace hvr14:=hvr14.drew;replace hvf14:=hvf14.drew;have hBq:=(show Below w.heap.size w w14.drew from hB14.drew);refine wp_region_any (by kernel_rfl) ?_;refine Ya (L:=[0,1,2,3,4,5,6,7,8,9]) (by kernel_rfl) _ _ (MH ks A n c w.heap.size gq ga gp gr gf ka kp u17 u19 u21 rr ff pb ch t dd) [(9,9)] 22 Xa [0,1,2,3,4,5,6,7,8,10,11,12,13,14,15,16,17,18,19,20,21,22,23,24,34,35,36,37,38,39,40,41,42,43,44,45,46,47,48,49,50] (by kernel_rfl) (by kernel_rfl) ?_ Dc ?_ (by rfl) ?_ 1 (by kernel_rfl) ?_
 ·intro p hp;rcases List.mem_cons.1 hp with rfl|hp
  ·exact ⟨⟨_,rfl,rfl,rfl,rfl,by kernel_rfl,by kernel_rfl⟩⟩
  exact absurd hp List.not_mem_nil
 ·repeat refine Aak rfl ?_
  exact Qa
 ·refine Aak (.inr (mL 25 rfl fun w hb=>Oh (hvr14.on hb) Hrr.out)) ?_;refine Aak (.inr (mL 26 rfl fun w hb=>Oh (hvf14.on hb) Hff.out)) ?_;refine Aak (.inr (mL 27 rfl fun w hb=>Oh (hva14.on hb) Hka.out)) ?_;refine Aak (.inr (mC 28 rfl Tryz.func19 fun w hb=>CP.out w)) ?_;refine Aak (.inr (mV 29 rfl (.inl rfl) rfl)) ?_;refine Aak (.inr (mC 30 rfl Tryz.func23 fun w hb=>CC.out w (hT.below (Ba hBq hb)))) ?_;refine Aak (.inr (mL 31 rfl fun w hb=>Oh (hva14.on hb) Hka.out)) ?_;refine Aak (.inr (mC 32 rfl Tryz.func22 fun w hb=>CT.out w)) ?_;refine Aak (.inr (mC 33 rfl Tryz.func21 fun w hb=>CA.out w)) ?_;refine Aak (.inl ⟨(9,9),by simp,rfl⟩) ?_;exact Qa
 intro w15 g hb15 hN15 hap15;obtain ⟨hged,hvd15⟩:=hN15 (9,9) (by simp);clear hN15 hap15;have hB15:=Ba (show Below w.heap.size w w14.drew from hB14.drew) hb15;have hlts:w.heap.size<w14.heap.size:=hvs14.lt;have hltq:gq<w14.heap.size:=hvq14.lt;have hlta:ga<w14.heap.size:=hva14.lt;have hltp:gp<w14.heap.size:=hvp14.lt;have hltr:gr<w14.heap.size:=hvr14.lt;have hltf:gf<w14.heap.size:=hvf14.lt;have hvs15:=hvs14.on hb15;have hvq15:=hvq14.on hb15;have hva15:=hva14.on hb15;have hvp15:=hvp14.on hb15;have hvr15:=hvr14.on hb15;have hvf15:=hvf14.on hb15;rw [show Oc g [(9,9)] (MH ks A n c w.heap.size gq ga gp gr gf ka kp u17 u19 u21 rr ff pb ch t dd)=Mt ks A n c w.heap.size gq ga gp gr gf ka kp u17 u19 u21 rr ff pb ch t dd (g 9) from rfl];replace hged:w14.heap.size≤g 9:=hged;replace hvd15:Ia w15 (g 9) Xa 22:=hvd15;have hnesd:w.heap.size≠g 9:=Vaj (Waj hlts hged);have hneqd:gq≠g 9:=Vaj (Waj hltq hged);have hnead:ga≠g 9:=Vaj (Waj hlta hged);have hnepd:gp≠g 9:=Vaj (Waj hltp hged);have hnerd:gr≠g 9:=Vaj (Waj hltr hged);have hnefd:gf≠g 9:=Vaj (Waj hltf hged);replace hged:w.heap.size≤g 9:=Nat.le_trans (show w.heap.size≤w14.heap.size from hB14.size) hged;clear hlts hltq hlta hltp hltr hltf;generalize g 9=gd at *;clear hB14 hvs14 hvq14 hva14 hvp14 hvr14 hvf14 hb15 hBq;refine Bb 10 rfl (by kernel_rfl) ?_;refine Ka rfl 22 (.tmp 9) (.tmp 33) rfl gd 32 Xa (dd.map Fa) rfl rfl hvd15 rfl Kb (by rw [Uaj,Hdd.out]) (Ab _) ?_;intro w16 hb16 hvd16 hz16;have hB16:Below w.heap.size w w16:=hB15.trans (hb16.below hged hB15.size);have hvs16:=hvs15.but hb16 hnesd;have hvq16:=hvq15.but hb16 hneqd;have hva16:=hva15.but hb16 hnead;have hvp16:=hvp15.but hb16 hnepd;have hvr16:=hvr15.but hb16 hnerd;have hvf16:=hvf15.but hb16 hnefd;clear hB15 hvd15 hb16 hz16 hvs15 hvq15 hva15 hvp15 hvr15 hvf15;rename_i K hKK;show Exit.then K _ Exit.normal (⟨(Mt ks A n c w.heap.size gq ga gp gr gf ka kp u17 u19 u21 rr ff pb ch t dd gd).toArray,[]⟩:Act) w16;simp only [Exit.then];refine hKK _ _ ?_;clear hKK K g;simp only [Mt,ptr,ud];go_wp2_with (first
  |(refine Eb rfl 26 [] rfl [] rfl _ BZ ?_
    try simp only [La]
    skip)
  |(refine Db rfl rfl 26 (.tmp 10) (.tmp 34) rfl rfl 64 JT (z.map Fa) rfl rfl ID rfl Gl (by rw [Uaj,Hz.out]) (Ab _) ?_
    intro w17 hb17 hvo17;have hB17:=Ba hB16 hb17;have hgeo:w.heap.size≤w16.heap.size:=hB16.size;have hvs17:=hvs16.on hb17;have hneso:=Vaj hvs16.lt;have hvq17:=hvq16.on hb17;have hneqo:=Vaj hvq16.lt;have hva17:=hva16.on hb17;have hneao:=Vaj hva16.lt;have hvp17:=hvp16.on hb17;have hnepo:=Vaj hvp16.lt;have hvr17:=hvr16.on hb17;have hnero:=Vaj hvr16.lt;have hvf17:=hvf16.on hb17;have hnefo:=Vaj hvf16.lt;have hvd17:=hvd16.on hb17;have hnedo:=Vaj hvd16.lt;clear hB16 hvs16 hvq16 hva16 hvp16 hvr16 hvf16 hvd16 hb17;try simp only [La]
    skip))
 generalize hqo:w16.heap.size=go at *;clear hqo;clear hvs17;clear hva17;clear hvp17;clear hvr17;replace hnesq:=Lib.hid hnesq;replace hnesa:=Lib.hid hnesa;replace hneqa:=Lib.hid hneqa;replace hnesp:=Lib.hid hnesp;replace hneqp:=Lib.hid hneqp;replace hneap:=Lib.hid hneap;replace hnesr:=Lib.hid hnesr;replace hneqr:=Lib.hid hneqr;replace hnear:=Lib.hid hnear;replace hnepr:=Lib.hid hnepr;replace hnesf:=Lib.hid hnesf;replace hneqf:=Lib.hid hneqf;replace hneaf:=Lib.hid hneaf;replace hnepf:=Lib.hid hnepf;replace hnerf:=Lib.hid hnerf;replace hnesd:=Lib.hid hnesd;replace hneqd:=Lib.hid hneqd;replace hnead:=Lib.hid hnead;replace hnepd:=Lib.hid hnepd;replace hnerd:=Lib.hid hnerd;replace hnefd:=Lib.hid hnefd;replace hneso:=Lib.hid hneso;replace hneqo:=Lib.hid hneqo;replace hneao:=Lib.hid hneao;replace hnepo:=Lib.hid hnepo;replace hnero:=Lib.hid hnero;replace hnefo:=Lib.hid hnefo;replace hnedo:=Lib.hid hnedo
 go_loopw [11] (fun t wr=>∃j:Nat,j≤32∧t=.int .i64 (j:Int)∧Below w.heap.size w wr∧Ia wr gq JT 26∧Ia wr gf (ff.map Fa) 22∧Ia wr gd (dd.map Fa) 22∧Ia wr go ((X j).map Fa) 26) (fun t _=>(32-intOf t).toNat)
 case atStart=>exact ⟨0,Nat.zero_le _,rfl,hB17,hvq17,hvf17,hvd17,by rw [HX0.out];exact hvo17⟩
 case round=>
  clear hB17 hvq17 hvf17 hvd17 hvo17;obtain ⟨j,hj,rfl,hBl,hvql,hvfl,hvdl,hvol⟩:=hrel;by_cases h0:j<32
  ·have i1:(0:Int)≤(j:Int):=by omega
   have i2:(j:Int)<32:=by omega
   have i3:IntKind.i64.wrap ((j:Int)+1)=(j:Int)+1:=IntWalk.i64_in _ (by omega);obtain ⟨q,u,hq,hu,hx,hy⟩:=HR.out j h0;have Hxo:=Lib.hid (HL.out j).1;have Hxm:=Lib.hid (HL.out j).2;clear HR HL HX0;obtain ⟨xo,HXo⟩:=Nb (X j);obtain ⟨xm,HXm⟩:=Nb (M j);rw [HXo.out] at Hxo hx hvol;rw [HXm.out] at Hxm hx hy;obtain ⟨m,hm⟩:=Nb (32+j);rw [hm.out] at hy;have hm2:m<64:=by have :=hm.out;omega
   have hj2:j<64:=by omega
   replace hq:=Lib.hid hq;replace hu:=Lib.hid hu;replace hx:=Lib.hid hx;replace hy:=Lib.hid hy
   go_upto_region 9 with fail
   go_wp2_with fail
   replace hvql:=hvql.drew;replace hvfl:=hvfl.drew;replace hvdl:=hvdl.drew;replace hvol:=hvol.drew;rename_i K hKK;have hB18:=(show Below w.heap.size w wr.drew from hBl.drew);clear hBl;refine wp_region_any (by kernel_rfl) ?_;refine wpAny_of_held (S:=fun w'=>Ia w' gf (ff.map Fa) 22∧Ia w' gd (dd.map Fa) 22) _ _ _ _ ?_;show wpAnyH _ _ _ _ _ _ _ _ wr.drew;simp only [List.size_toArray,List.length_cons,List.length_nil,Nat.reduceAdd,Array.replicate_succ,Array.replicate_zero,List.push_toArray,List.nil_append,List.cons_append];generalize wr.drew=w18 at *;refine wpAnyH_take (i:=0) (oi:=⟨some 39,_,_,_,_,_⟩) (v:=(.int .i64 (j:Int))) rfl (by kernel_rfl) (by kernel_rfl) (by kernel_rfl) (fun _ _ _ h=>h) (Or.inl ⟨by rfl,?_⟩) ⟨hvfl,hvdl⟩ ?_
   ·intro w8 h8;exact Lb _ _ _ (.inl rfl) _ (by rfl) w8
   try simp only [La]
   refine wpAnyH_take (i:=1) (oi:=⟨some 40,_,_,_,_,_⟩) (v:=(.int .i64 (j:Int))) rfl (by kernel_rfl) (by kernel_rfl) (by kernel_rfl) (fun _ _ _ h=>h) (Or.inl ⟨by rfl,?_⟩) ⟨hvfl,hvdl⟩ ?_
   ·intro w8 h8;exact Lb _ _ _ (.inl rfl) _ (by rfl) w8
   try simp only [La]
   refine wpAnyH_take (i:=2) (oi:=⟨some 41,_,_,_,_,_⟩) (v:=(.int .i64 (m:Int))) rfl (by kernel_rfl) (by kernel_rfl) (by kernel_rfl) (fun _ _ _ h=>h) (Or.inl ⟨by rfl,?_⟩) ⟨hvfl,hvdl⟩ ?_
   ·intro w8 h8;exact Ff _ _ _ _ _ _ _ rfl _ _ _ rfl rfl w8 (by kernel_rfl) (PV j m h0 hm.out w8)
   try simp only [La]
   refine wpAnyH_take (i:=3) (oi:=⟨some 42,_,_,_,_,_⟩) (v:=(.int .i64 (j:Int))) rfl (by kernel_rfl) (by kernel_rfl) (by kernel_rfl) (fun _ _ _ h=>h) (Or.inl ⟨by rfl,?_⟩) ⟨hvfl,hvdl⟩ ?_
   ·intro w8 h8;exact Lb _ _ _ (.inl rfl) _ (by rfl) w8
   try simp only [La]
   refine wpAnyH_take (i:=4) (oi:=⟨some 43,_,_,_,_,_⟩) (v:=(.pointer (some ⟨gf,j,none⟩))) rfl (by kernel_rfl) (by kernel_rfl) (by kernel_rfl) (fun _ _ _ h=>h) (Or.inl ⟨by rfl,?_⟩) ⟨hvfl,hvdl⟩ ?_
   ·intro w8 h8;exact Me _ _ _ _ _ rfl _ _ _ rfl rfl w8 (AK _ j h0 w8)
   try simp only [La]
   refine wpAnyH_take (i:=5) (oi:=⟨some 44,_,_,_,_,_⟩) (v:=(Fa q)) rfl (by kernel_rfl) (by kernel_rfl) (by kernel_rfl) (fun _ _ _ h=>h) (Or.inl ⟨by rfl,?_⟩) ⟨hvfl,hvdl⟩ ?_
   ·intro w8 h8;exact Yc _ _ _ _ rfl _ _ rfl w8 (Lr (h8.1.get hq.out))
   try simp only [La]
   refine wpAnyH_take (i:=6) (oi:=⟨some 45,_,_,_,_,_⟩) (v:=(.int .i64 (j:Int))) rfl (by kernel_rfl) (by kernel_rfl) (by kernel_rfl) (fun _ _ _ h=>h) (Or.inl ⟨by rfl,?_⟩) ⟨hvfl,hvdl⟩ ?_
   ·intro w8 h8;exact Lb _ _ _ (.inl rfl) _ (by rfl) w8
   try simp only [La]
   refine wpAnyH_take (i:=7) (oi:=⟨some 46,_,_,_,_,_⟩) (v:=(.pointer (some ⟨gd,j,none⟩))) rfl (by kernel_rfl) (by kernel_rfl) (by kernel_rfl) (fun _ _ _ h=>h) (Or.inl ⟨by rfl,?_⟩) ⟨hvfl,hvdl⟩ ?_
   ·intro w8 h8;exact Me _ _ _ _ _ rfl _ _ _ rfl rfl w8 (AK _ j h0 w8)
   try simp only [La]
   refine wpAnyH_take (i:=8) (oi:=⟨some 47,_,_,_,_,_⟩) (v:=(Fa u)) rfl (by kernel_rfl) (by kernel_rfl) (by kernel_rfl) (fun _ _ _ h=>h) (Or.inl ⟨by rfl,?_⟩) ⟨hvfl,hvdl⟩ ?_
   ·intro w8 h8;exact Yc _ _ _ _ rfl _ _ rfl w8 (Lr (h8.2.get hu.out))
   try simp only [La]
   refine wpAnyH_all (rs:=[9]) (by kernel_rfl) (by decide) fun i hi=>?_;obtain rfl:=List.mem_singleton.1 hi;clear hi;refine wpOp_step rfl fun K1 hK1=>?_;rw [if_pos (by rfl)];refine Mc (.pointer (some ⟨go,j,none⟩)) (Me _ _ _ _ _ rfl _ _ _ rfl rfl w18 (BK _ j hj2 w18)) (hK1 _ _ ⟨⟨hvfl,hvdl⟩,?_⟩);clear hK1 K1;try simp only [La]
   refine wpAnyH_all (rs:=[10]) (by kernel_rfl) (by decide) fun i hi=>?_;obtain rfl:=List.mem_singleton.1 hi;clear hi;refine wpOp_step rfl fun K1 hK1=>?_;rw [if_pos (by rfl)];refine Ok 5 (.tmp 48) (.tmp 44) rfl go j .u8 (q.toNat:Int) rfl rfl Qc (hvol.there j 1 (by rw [Uaj,Hxo.out];omega)) (hK1 _ _ ?_);have hC2:=hvol.set j (.int .u8 (q.toNat:Int));rw [hx.out] at hC2;have hb19:But go w18 (w18.setCell ⟨go,j,none⟩ (.int .u8 (q.toNat:Int))):=(But.refl _ _).setCell _ _;have hB19:=hB18.trans (hb19.below hgeo hB18.size);have hvq19:=hvql.but hb19 hneqo.out;have hvf19:=hvfl.but hb19 hnefo.out;have hvd19:=hvdl.but hb19 hnedo.out;have hvo19:=hC2;clear hC2 hb19 hK1 K1 hB18 hvol hvql hvfl hvdl;generalize w18.setCell ⟨go,j,none⟩ (.int .u8 (q.toNat:Int))=w19 at *;refine ⟨⟨hvf19,hvd19⟩,?_⟩;refine wpAnyH_all (rs:=[11]) (by kernel_rfl) (by decide) fun i hi=>?_;obtain rfl:=List.mem_singleton.1 hi;clear hi;refine wpOp_step rfl fun K1 hK1=>?_;rw [if_pos (by rfl)];refine Mc (.pointer (some ⟨go,m,none⟩)) (Me _ _ _ _ _ rfl _ _ _ rfl rfl w19 (BK _ m hm2 w19)) (hK1 _ _ ⟨⟨hvf19,hvd19⟩,?_⟩);clear hK1 K1;try simp only [La]
   refine wpAnyH_all (rs:=[12]) (by kernel_rfl) (by decide) fun i hi=>?_;obtain rfl:=List.mem_singleton.1 hi;clear hi;refine wpOp_step rfl fun K1 hK1=>?_;rw [if_pos (by rfl)];refine Ok 5 (.tmp 49) (.tmp 47) rfl go m .u8 (u.toNat:Int) rfl rfl Qc (hvo19.there m 1 (by rw [Uaj,Hxm.out];omega)) (hK1 _ _ ?_);have hC2:=hvo19.set m (.int .u8 (u.toNat:Int));rw [hy.out] at hC2;have hb20:But go w19 (w19.setCell ⟨go,m,none⟩ (.int .u8 (u.toNat:Int))):=(But.refl _ _).setCell _ _;have hB20:=hB19.trans (hb20.below hgeo hB19.size);have hvq20:=hvq19.but hb20 hneqo.out;have hvf20:=hvf19.but hb20 hnefo.out;have hvd20:=hvd19.but hb20 hnedo.out;have hvo20:=hC2;clear hC2 hb20 hK1 K1 hB19 hvo19 hvq19 hvf19 hvd19;generalize w19.setCell ⟨go,m,none⟩ (.int .u8 (u.toNat:Int))=w20 at *;refine ⟨⟨hvf20,hvd20⟩,?_⟩;refine wpAnyH_done (by kernel_rfl) ?_ _;show Exit.inBlock _ (Exit.then K _) Exit.normal (⟨((Ca ks)::(.slice A n c)::(.pointer (some ⟨w.heap.size,0,none⟩))::undef::(.pointer (some ⟨gq,0,none⟩))::(.pointer (some ⟨ga,0,none⟩))::(.pointer (some ⟨gp,0,none⟩))::(.pointer (some ⟨gr,0,none⟩))::(.pointer (some ⟨gf,0,none⟩))::(.pointer (some ⟨gd,0,none⟩))::(.pointer (some ⟨go,0,none⟩))::(.int .i64 (j:Int))::(.tuple #[Ca ka,Ca kp])::(Ca ks)::(.tuple #[Ca ka,Ca kp])::(Ca ka)::(Ca kp)::(u17)::(.slice (some ⟨gp,0,none⟩) 32 32)::(u19)::(.slice A n c)::(u21)::(Ca rr)::(Ca rr)::(Ca ff)::(Ca rr)::(Ca ff)::(Ca ka)::(Ca pb)::(.slice A n c)::(Ca ch)::(Ca ka)::(Ca t)::(Ca dd)::(Ca z)::(.int .i64 (j:Int))::(.bool true)::(u37)::(u38)::(.int .i64 (j:Int))::(.int .i64 (j:Int))::(.int .i64 (m:Int))::(.int .i64 (j:Int))::(.pointer (some ⟨gf,j,none⟩))::(Fa q)::(.int .i64 (j:Int))::(.pointer (some ⟨gd,j,none⟩))::(Fa u)::(.pointer (some ⟨go,j,none⟩))::(.pointer (some ⟨go,m,none⟩))::undef::[]).toArray,[]⟩:Act) w20;simp only [Exit.inBlock,Exit.then];refine hKK _ _ ?_;clear hKK K;go_wp2_with fail
   go_roundw
   case rel=>exact ⟨j+1,by omega,rfl,hB20,hvq20,hvf20,hvd20,hvo20⟩
   case measure=>simp [intOf]<;>omega
  ·obtain rfl:j=32:=by omega
   rw [show (((32:Nat)):Int)=32 from rfl];have Hyo:=Lib.hid (HL.out 32).1;clear HR HL HX0;obtain ⟨yo,HYo⟩:=Nb (X 32);rw [HYo.out] at Hyo hvol;go_wp2_with (first
    |(refine Pa rfl 26 (.tmp 10) rfl go 64 (yo.map Fa) rfl hvol Tryz.underlying26 rfl Gl (by rw [Uaj,Hyo.out]) ?_
      try simp only [La]
      skip)
    |(refine Ka rfl 26 (.tmp 4) (.tmp 50) rfl gq 64 JT (yo.map Fa) rfl rfl hvql rfl Gl (by rw [Uaj,Hyo.out]) (Ab _) ?_
      intro w21 hb21 hvq21 hz21;have hB21:Below w.heap.size w w21:=hBl.trans (hb21.below hgeq hBl.size);have hvf21:=hvfl.but hb21 (Ne.symm hneqf.out);have hvd21:=hvdl.but hb21 (Ne.symm hneqd.out);have hvo21:=hvol.but hb21 (Ne.symm hneqo.out);clear hBl hvql hb21 hz21 hvfl hvdl hvol;skip))
   exact qc Tryz.results9 gq (yo.map Fa) rfl hvq21 Tryz.underlying26 rfl Gl (by rw [Uaj,Hyo.out]) rfl ⟨by rw [HYo.out];rfl,hB21⟩
end Go.Proofs.YtoggkhjaghkpnaaGreatDoor
namespace Go.Proofs.YtoggkhjaghkpnaaGreatDoor
open Go.RowKit
theorem qE (wd z:List UInt8) (X Y:Nat→List UInt8) (w:World)
 (Hz:Hid (z.length=32))
 (HX0:Hid (X 0=z))
 (HY0:Hid (Y 0=z))
 (HL:Hid (∀j,(X j).length=32∧(Y j).length=32))
 (HR:Hid (∀j:Nat,j<32→∃q u:UInt8,(wd.map Fa)[j]? =some (Fa q)∧(wd.map Fa)[32+j]? =some (Fa u)∧((X j).map Fa).set j (Fa q)=(X (j+1)).map Fa∧((Y j).map Fa).set j (Fa u)=(Y (j+1)).map Fa))
 (BZ:∀w,(Instr.build 22 #[]).run Tryz.prog w=.ok (Ca z) w):
 Calls Tryz.prog 30 #[Ca wd] w (gvn (.tuple #[Ca (X 32),Ca (Y 32)]) w):=by
 go_enter Tryz.func30,Tryz.ntmps30;go_wp2_with (first
  |(refine Ra rfl 26 (.tmp 0) rfl (wd.map Fa) rfl ?_
    intro w1 hb1 hvs1;have hB1:=hb1;have hges:w.heap.size≤w.heap.size:=Xaj _;clear hb1;try simp only [La]
    skip)
  |(refine Ma (o:=⟨some 2,_,_,_,_,_⟩) rfl 22 rfl Xa Dc ?_
    intro w2 hb2 hvr2;have hB2:=Ba hB1 hb2;have hger:w.heap.size≤w1.heap.size:=hB1.size;have hvs2:=hvs1.on hb2;have hnesr:=Vaj hvs1.lt;clear hB1 hvs1 hb2;try simp only [La]
    skip)
  |(refine Ma (o:=⟨some 3,_,_,_,_,_⟩) rfl 22 rfl Xa Dc ?_
    intro w3 hb3 hvt3;have hB3:=Ba hB2 hb3;have hget:w.heap.size≤w2.heap.size:=hB2.size;have hvs3:=hvs2.on hb3;have hnest:=Vaj hvs2.lt;have hvr3:=hvr2.on hb3;have hnert:=Vaj hvr2.lt;clear hB2 hvs2 hvr2 hb3;try simp only [La]
    skip)
  |(refine Eb rfl 22 [] rfl [] rfl _ BZ ?_
    try simp only [La]
    skip)
  |(refine Eb rfl 22 [] rfl [] rfl _ BZ ?_
    try simp only [La]
    skip)
  |(refine Ma (o:=⟨some 4,_,_,_,_,_⟩) rfl 22 rfl Xa Dc ?_
    intro w4 hb4 hva4;have hB4:=Ba hB3 hb4;have hgea:w.heap.size≤w3.heap.size:=hB3.size;have hvs4:=hvs3.on hb4;have hnesa:=Vaj hvs3.lt;have hvr4:=hvr3.on hb4;have hnera:=Vaj hvr3.lt;have hvt4:=hvt3.on hb4;have hneta:=Vaj hvt3.lt;clear hB3 hvs3 hvr3 hvt3 hb4;try simp only [La]
    skip)
  |(refine Ma (o:=⟨some 5,_,_,_,_,_⟩) rfl 22 rfl Xa Dc ?_
    intro w5 hb5 hvb5;have hB5:=Ba hB4 hb5;have hgeb:w.heap.size≤w4.heap.size:=hB4.size;have hvs5:=hvs4.on hb5;have hnesb:=Vaj hvs4.lt;have hvr5:=hvr4.on hb5;have hnerb:=Vaj hvr4.lt;have hvt5:=hvt4.on hb5;have hnetb:=Vaj hvt4.lt;have hva5:=hva4.on hb5;have hneab:=Vaj hva4.lt;clear hB4 hvs4 hvr4 hvt4 hva4 hb5;try simp only [La]
    skip)
  |(refine Ka rfl 22 (.tmp 4) (.tmp 7) rfl w3.heap.size 32 Xa (z.map Fa) rfl rfl hva5 rfl Kb (by rw [Uaj,Hz.out]) (Ab _) ?_
    intro w6 hb6 hva6 hz6;have hB6:Below w.heap.size w w6:=hB5.trans (hb6.below hgea hB5.size);have hvs6:=hvs5.but hb6 hnesa;have hvr6:=hvr5.but hb6 hnera;have hvt6:=hvt5.but hb6 hneta;have hvb6:=hvb5.but hb6 (Ne.symm hneab);clear hB5 hva5 hb6 hz6 hvs5 hvr5 hvt5 hvb5;skip)
  |(refine Ka rfl 22 (.tmp 5) (.tmp 8) rfl w4.heap.size 32 Xa (z.map Fa) rfl rfl hvb6 rfl Kb (by rw [Uaj,Hz.out]) (Ab _) ?_
    intro w7 hb7 hvb7 hz7;have hB7:Below w.heap.size w w7:=hB6.trans (hb7.below hgeb hB6.size);have hvs7:=hvs6.but hb7 hnesb;have hvr7:=hvr6.but hb7 hnerb;have hvt7:=hvt6.but hb7 hnetb;have hva7:=hva6.but hb7 hneab;clear hB6 hvb6 hb7 hz7 hvs6 hvr6 hvt6 hva6;skip))
 generalize hqr:w1.heap.size=gr at *;clear hqr;generalize hqt:w2.heap.size=gt at *;clear hqt;generalize hqa:w3.heap.size=ga at *;clear hqa;generalize hqb:w4.heap.size=gb at *;clear hqb;replace hnesr:=Lib.hid hnesr;replace hnest:=Lib.hid hnest;replace hnert:=Lib.hid hnert;replace hnesa:=Lib.hid hnesa;replace hnera:=Lib.hid hnera;replace hneta:=Lib.hid hneta;replace hnesb:=Lib.hid hnesb;replace hnerb:=Lib.hid hnerb;replace hnetb:=Lib.hid hnetb;replace hneab:=Lib.hid hneab
 go_loopw [6] (fun t wr=>∃j:Nat,j≤32∧t=.int .i64 (j:Int)∧Below w.heap.size w wr∧Ia wr (w.heap.size) (wd.map Fa) 26∧Ia wr gr Xa 22∧Ia wr gt Xa 22∧Ia wr ga ((X j).map Fa) 22∧Ia wr gb ((Y j).map Fa) 22) (fun t _=>(32-intOf t).toNat)
 case atStart=>exact ⟨0,Nat.zero_le _,rfl,hB7,hvs7,hvr7,hvt7,by rw [HX0.out];exact hva7,by rw [HY0.out];exact hvb7⟩
 case round=>
  clear hB7 hvs7 hvr7 hvt7 hva7 hvb7;obtain ⟨j,hj,rfl,hBl,hvsl,hvrl,hvtl,hval,hvbl⟩:=hrel;by_cases h0:j<32
  ·have i1:(0:Int)≤(j:Int):=by omega
   have i2:(j:Int)<32:=by omega
   have i3:IntKind.i64.wrap ((j:Int)+1)=(j:Int)+1:=IntWalk.i64_in _ (by omega);obtain ⟨q,u,hq,hu,hx,hy⟩:=HR.out j h0;have Hxa:=Lib.hid (HL.out j).1;have Hxb:=Lib.hid (HL.out j).2;clear HR HL HX0 HY0;obtain ⟨xa,HXa⟩:=Nb (X j);obtain ⟨xb,HXb⟩:=Nb (Y j);rw [HXa.out] at Hxa hx hval;rw [HXb.out] at Hxb hy hvbl;obtain ⟨m,hm⟩:=Nb (32+j);rw [hm.out] at hu;have hm2:m<64:=by have :=hm.out;omega
   replace hq:=Lib.hid hq;replace hu:=Lib.hid hu;replace hx:=Lib.hid hx;replace hy:=Lib.hid hy
   go_upto_region 5 with fail
   go_wp2_with fail
   replace hvsl:=hvsl.drew;replace hvrl:=hvrl.drew;replace hvtl:=hvtl.drew;replace hval:=hval.drew;replace hvbl:=hvbl.drew;rename_i K hKK;have hB8:=(show Below w.heap.size w wr.drew from hBl.drew);clear hBl;refine wp_region_any (by kernel_rfl) ?_;refine wpAny_of_held (S:=fun w'=>Ia w' (w.heap.size) (wd.map Fa) 26) _ _ _ _ ?_;show wpAnyH _ _ _ _ _ _ _ _ wr.drew;simp only [List.size_toArray,List.length_cons,List.length_nil,Nat.reduceAdd,Array.replicate_succ,Array.replicate_zero,List.push_toArray,List.nil_append,List.cons_append];generalize wr.drew=w8 at *;refine wpAnyH_take (i:=0) (oi:=⟨some 13,_,_,_,_,_⟩) (v:=(.int .i64 (j:Int))) rfl (by kernel_rfl) (by kernel_rfl) (by kernel_rfl) (fun _ _ _ h=>h) (Or.inl ⟨by rfl,?_⟩) hvsl ?_
   ·intro w8 h8;exact Lb _ _ _ (.inl rfl) _ (by rfl) w8
   try simp only [La]
   refine wpAnyH_take (i:=1) (oi:=⟨some 14,_,_,_,_,_⟩) (v:=(.int .i64 (j:Int))) rfl (by kernel_rfl) (by kernel_rfl) (by kernel_rfl) (fun _ _ _ h=>h) (Or.inl ⟨by rfl,?_⟩) hvsl ?_
   ·intro w8 h8;exact Lb _ _ _ (.inl rfl) _ (by rfl) w8
   try simp only [La]
   refine wpAnyH_take (i:=2) (oi:=⟨some 15,_,_,_,_,_⟩) (v:=(.int .i64 (j:Int))) rfl (by kernel_rfl) (by kernel_rfl) (by kernel_rfl) (fun _ _ _ h=>h) (Or.inl ⟨by rfl,?_⟩) hvsl ?_
   ·intro w8 h8;exact Lb _ _ _ (.inl rfl) _ (by rfl) w8
   try simp only [La]
   refine wpAnyH_take (i:=3) (oi:=⟨some 16,_,_,_,_,_⟩) (v:=(.pointer (some ⟨w.heap.size,j,none⟩))) rfl (by kernel_rfl) (by kernel_rfl) (by kernel_rfl) (fun _ _ _ h=>h) (Or.inl ⟨by rfl,?_⟩) hvsl ?_
   ·intro w8 h8;exact Me _ _ _ _ _ rfl _ _ _ rfl rfl w8 (BK _ j (by omega) w8)
   try simp only [La]
   refine wpAnyH_take (i:=4) (oi:=⟨some 17,_,_,_,_,_⟩) (v:=(Fa q)) rfl (by kernel_rfl) (by kernel_rfl) (by kernel_rfl) (fun _ _ _ h=>h) (Or.inl ⟨by rfl,?_⟩) hvsl ?_
   ·intro w8 h8;exact Yc _ _ _ _ rfl _ _ rfl w8 (Lr (h8.get hq.out))
   try simp only [La]
   refine wpAnyH_take (i:=5) (oi:=⟨some 18,_,_,_,_,_⟩) (v:=(.int .i64 (j:Int))) rfl (by kernel_rfl) (by kernel_rfl) (by kernel_rfl) (fun _ _ _ h=>h) (Or.inl ⟨by rfl,?_⟩) hvsl ?_
   ·intro w8 h8;exact Lb _ _ _ (.inl rfl) _ (by rfl) w8
   try simp only [La]
   refine wpAnyH_take (i:=6) (oi:=⟨some 19,_,_,_,_,_⟩) (v:=(.int .i64 (m:Int))) rfl (by kernel_rfl) (by kernel_rfl) (by kernel_rfl) (fun _ _ _ h=>h) (Or.inl ⟨by rfl,?_⟩) hvsl ?_
   ·intro w8 h8;exact Ff _ _ _ _ _ _ _ rfl _ _ _ rfl rfl w8 (by kernel_rfl) (PV j m h0 hm.out w8)
   try simp only [La]
   refine wpAnyH_take (i:=7) (oi:=⟨some 20,_,_,_,_,_⟩) (v:=(.pointer (some ⟨w.heap.size,m,none⟩))) rfl (by kernel_rfl) (by kernel_rfl) (by kernel_rfl) (fun _ _ _ h=>h) (Or.inl ⟨by rfl,?_⟩) hvsl ?_
   ·intro w8 h8;exact Me _ _ _ _ _ rfl _ _ _ rfl rfl w8 (BK _ m hm2 w8)
   try simp only [La]
   refine wpAnyH_take (i:=8) (oi:=⟨some 21,_,_,_,_,_⟩) (v:=(Fa u)) rfl (by kernel_rfl) (by kernel_rfl) (by kernel_rfl) (fun _ _ _ h=>h) (Or.inl ⟨by rfl,?_⟩) hvsl ?_
   ·intro w8 h8;exact Yc _ _ _ _ rfl _ _ rfl w8 (Lr (h8.get hu.out))
   try simp only [La]
   refine wpAnyH_all (rs:=[9]) (by kernel_rfl) (by decide) fun i hi=>?_;obtain rfl:=List.mem_singleton.1 hi;clear hi;refine wpOp_step rfl fun K1 hK1=>?_;rw [if_pos (by rfl)];refine Mc (.pointer (some ⟨ga,j,none⟩)) (Me _ _ _ _ _ rfl _ _ _ rfl rfl w8 (AK _ j h0 w8)) (hK1 _ _ ⟨hvsl,?_⟩);clear hK1 K1;try simp only [La]
   refine wpAnyH_all (rs:=[10]) (by kernel_rfl) (by decide) fun i hi=>?_;obtain rfl:=List.mem_singleton.1 hi;clear hi;refine wpOp_step rfl fun K1 hK1=>?_;rw [if_pos (by rfl)];refine Ok 5 (.tmp 22) (.tmp 17) rfl ga j .u8 (q.toNat:Int) rfl rfl Qc (hval.there j 1 (by rw [Uaj,Hxa.out];omega)) (hK1 _ _ ?_);have hC2:=hval.set j (.int .u8 (q.toNat:Int));rw [hx.out] at hC2;have hb9:But ga w8 (w8.setCell ⟨ga,j,none⟩ (.int .u8 (q.toNat:Int))):=(But.refl _ _).setCell _ _;have hB9:=hB8.trans (hb9.below hgea hB8.size);have hvs9:=hvsl.but hb9 hnesa.out;have hvr9:=hvrl.but hb9 hnera.out;have hvt9:=hvtl.but hb9 hneta.out;have hvb9:=hvbl.but hb9 (Ne.symm hneab.out);have hva9:=hC2;clear hC2 hb9 hK1 K1 hB8 hval hvsl hvrl hvtl hvbl;generalize w8.setCell ⟨ga,j,none⟩ (.int .u8 (q.toNat:Int))=w9 at *;refine ⟨hvs9,?_⟩;refine wpAnyH_all (rs:=[11]) (by kernel_rfl) (by decide) fun i hi=>?_;obtain rfl:=List.mem_singleton.1 hi;clear hi;refine wpOp_step rfl fun K1 hK1=>?_;rw [if_pos (by rfl)];refine Mc (.pointer (some ⟨gb,j,none⟩)) (Me _ _ _ _ _ rfl _ _ _ rfl rfl w9 (AK _ j h0 w9)) (hK1 _ _ ⟨hvs9,?_⟩);clear hK1 K1;try simp only [La]
   refine wpAnyH_all (rs:=[12]) (by kernel_rfl) (by decide) fun i hi=>?_;obtain rfl:=List.mem_singleton.1 hi;clear hi;refine wpOp_step rfl fun K1 hK1=>?_;rw [if_pos (by rfl)];refine Ok 5 (.tmp 23) (.tmp 21) rfl gb j .u8 (u.toNat:Int) rfl rfl Qc (hvb9.there j 1 (by rw [Uaj,Hxb.out];omega)) (hK1 _ _ ?_);have hC2:=hvb9.set j (.int .u8 (u.toNat:Int));rw [hy.out] at hC2;have hb10:But gb w9 (w9.setCell ⟨gb,j,none⟩ (.int .u8 (u.toNat:Int))):=(But.refl _ _).setCell _ _;have hB10:=hB9.trans (hb10.below hgeb hB9.size);have hvs10:=hvs9.but hb10 hnesb.out;have hvr10:=hvr9.but hb10 hnerb.out;have hvt10:=hvt9.but hb10 hnetb.out;have hva10:=hva9.but hb10 hneab.out;have hvb10:=hC2;clear hC2 hb10 hK1 K1 hB9 hvb9 hvs9 hvr9 hvt9 hva9;generalize w9.setCell ⟨gb,j,none⟩ (.int .u8 (u.toNat:Int))=w10 at *;refine ⟨hvs10,?_⟩;refine wpAnyH_done (by kernel_rfl) ?_ _;show Exit.inBlock _ (Exit.then K _) Exit.normal (⟨((Ca wd)::(.pointer (some ⟨w.heap.size,0,none⟩))::(.pointer (some ⟨gr,0,none⟩))::(.pointer (some ⟨gt,0,none⟩))::(.pointer (some ⟨ga,0,none⟩))::(.pointer (some ⟨gb,0,none⟩))::(.int .i64 (j:Int))::(Ca z)::(Ca z)::(.int .i64 (j:Int))::(.bool true)::(u11)::(u12)::(.int .i64 (j:Int))::(.int .i64 (j:Int))::(.int .i64 (j:Int))::(.pointer (some ⟨w.heap.size,j,none⟩))::(Fa q)::(.int .i64 (j:Int))::(.int .i64 (m:Int))::(.pointer (some ⟨w.heap.size,m,none⟩))::(Fa u)::(.pointer (some ⟨ga,j,none⟩))::(.pointer (some ⟨gb,j,none⟩))::undef::undef::[]).toArray,[]⟩:Act) w10;simp only [Exit.inBlock,Exit.then];refine hKK _ _ ?_;clear hKK K;go_wp2_with fail
   go_roundw
   case rel=>exact ⟨j+1,by omega,rfl,hB10,hvs10,hvr10,hvt10,hva10,hvb10⟩
   case measure=>simp [intOf]<;>omega
  ·obtain rfl:j=32:=by omega
   rw [show (((32:Nat)):Int)=32 from rfl];have Hya:=Lib.hid (HL.out 32).1;have Hyb:=Lib.hid (HL.out 32).2;clear HR HL HX0 HY0;obtain ⟨ya,HYa⟩:=Nb (X 32);obtain ⟨yb,HYb⟩:=Nb (Y 32);rw [HYa.out] at Hya hval;rw [HYb.out] at Hyb hvbl;go_wp2_with fail
   replace hvsl:=hvsl.drew;replace hvrl:=hvrl.drew;replace hvtl:=hvtl.drew;replace hval:=hval.drew;replace hvbl:=hvbl.drew;rename_i K hKK;have hB11:=(show Below w.heap.size w wr.drew from hBl.drew);clear hBl;refine wp_region_any (by kernel_rfl) ?_;refine wpAny_of_held (S:=fun w'=>Ia w' gb (yb.map Fa) 22) _ _ _ _ ?_;show wpAnyH _ _ _ _ _ _ _ _ wr.drew;simp only [List.size_toArray,List.length_cons,List.length_nil,Nat.reduceAdd,Array.replicate_succ,Array.replicate_zero,List.push_toArray,List.nil_append,List.cons_append];generalize wr.drew=w11 at *;refine wpAnyH_take (i:=1) (oi:=⟨some 25,_,_,_,_,_⟩) (v:=Ca yb) rfl (by kernel_rfl) (by kernel_rfl) (by kernel_rfl) (fun _ _ _ h=>h) (Or.inl ⟨by rfl,?_⟩) hvbl ?_
   ·intro w8 h8;exact Yc _ _ _ _ rfl _ _ rfl _ (Oh h8 Hyb.out)
   refine wpAnyH_all (rs:=[0]) (by kernel_rfl) (by decide) fun i hi=>?_;obtain rfl:=List.mem_singleton.1 hi;clear hi;refine wpOp_step rfl fun K1 hK1=>?_;rw [if_pos (by rfl)];refine Mc (Ca ya) (Yc _ _ _ _ rfl _ _ rfl _ (Oh hval Hya.out)) (hK1 _ _ ⟨hvbl,?_⟩);clear hK1 K1;refine wpAnyH_all (rs:=[2]) (by kernel_rfl) (by decide) fun i hi=>?_;obtain rfl:=List.mem_singleton.1 hi;clear hi;refine wpOp_step rfl fun K1 hK1=>?_;rw [if_pos (by rfl)];refine wp_store_mid 22 (.tmp 2) (.tmp 24) rfl gr 0 (ya.map Fa).toArray rfl rfl (by rw [List.size_toArray,Uaj,Hya.out];exact hvrl.there 0 32 (by rw [show (Xa).length=32 from rfl];decide)) (by rw [List.size_toArray,Uaj,Hya.out];exact Kb) (Ab _) (hK1 _ _ ?_);have hC2:=hvrl.setCells (cs:=ya.map Fa) (o:=0) (by rw [Uaj,Hya.out,show (Xa).length=32 from rfl];decide);rw [Xb _ _ (by rw [Uaj,Hya.out,show (Xa).length=32 from rfl])] at hC2;have hb12:But gr w11 (w11.setCells gr 0 (ya.map Fa)):=(But.refl _ _).setCells _ _;have hB12:Below w.heap.size w (w11.setCells gr 0 (ya.map Fa)):=hB11.trans (hb12.below hger hB11.size);change Ia (w11.setCells gr 0 (ya.map Fa)) gb (yb.map Fa) 22∧wpAnyH _ _ _ _ _ _ _ _ (w11.setCells gr 0 (ya.map Fa));have hvs12:=hvsl.but hb12 hnesr.out;have hvt12:=hvtl.but hb12 (Ne.symm hnert.out);have hva12:=hval.but hb12 (Ne.symm hnera.out);have hvb12:=hvbl.but hb12 (Ne.symm hnerb.out);have hvr12:=hC2;clear hC2 hb12 hK1 K1 hB11 hvrl hvsl hvtl hval hvbl;generalize w11.setCells gr 0 (ya.map Fa)=w12 at *;refine ⟨hvb12,?_⟩;refine wpAnyH_all (rs:=[3]) (by kernel_rfl) (by decide) fun i hi=>?_;obtain rfl:=List.mem_singleton.1 hi;clear hi;refine wpOp_step rfl fun K1 hK1=>?_;rw [if_pos (by rfl)];refine wp_store_mid 22 (.tmp 3) (.tmp 25) rfl gt 0 (yb.map Fa).toArray rfl rfl (by rw [List.size_toArray,Uaj,Hyb.out];exact hvt12.there 0 32 (by rw [show (Xa).length=32 from rfl];decide)) (by rw [List.size_toArray,Uaj,Hyb.out];exact Kb) (Ab _) (hK1 _ _ ?_);have hC2:=hvt12.setCells (cs:=yb.map Fa) (o:=0) (by rw [Uaj,Hyb.out,show (Xa).length=32 from rfl];decide);rw [Xb _ _ (by rw [Uaj,Hyb.out,show (Xa).length=32 from rfl])] at hC2;have hb13:But gt w12 (w12.setCells gt 0 (yb.map Fa)):=(But.refl _ _).setCells _ _;have hB13:Below w.heap.size w (w12.setCells gt 0 (yb.map Fa)):=hB12.trans (hb13.below hget hB12.size);change Ia (w12.setCells gt 0 (yb.map Fa)) gb (yb.map Fa) 22∧wpAnyH _ _ _ _ _ _ _ _ (w12.setCells gt 0 (yb.map Fa));have hvs13:=hvs12.but hb13 hnest.out;have hvr13:=hvr12.but hb13 hnert.out;have hva13:=hva12.but hb13 (Ne.symm hneta.out);have hvb13:=hvb12.but hb13 (Ne.symm hnetb.out);have hvt13:=hC2;clear hC2 hb13 hK1 K1 hB12 hvt12 hvs12 hvr12 hva12 hvb12;generalize w12.setCells gt 0 (yb.map Fa)=w13 at *;refine ⟨hvb13,?_⟩;refine wpAnyH_done (by kernel_rfl) ?_ _;show Exit.then K _ Exit.normal (⟨((Ca wd)::(.pointer (some ⟨w.heap.size,0,none⟩))::(.pointer (some ⟨gr,0,none⟩))::(.pointer (some ⟨gt,0,none⟩))::(.pointer (some ⟨ga,0,none⟩))::(.pointer (some ⟨gb,0,none⟩))::(.int .i64 32)::(Ca z)::(Ca z)::(.int .i64 32)::(.bool false)::(u11)::(u12)::(u13)::(u14)::(u15)::(u16)::(u17)::(u18)::(u19)::(u20)::(u21)::(u22)::(u23)::(Ca ya)::(Ca yb)::[]).toArray,[]⟩:Act) w13;simp only [Exit.then];refine hKK _ _ ?_;clear hKK K
   go_wp2
   exact OJ Tryz.results30 gr gt (ya.map Fa) (yb.map Fa) rfl rfl hvr13 hvt13 Tryz.underlying22 rfl Kb (by rw [Uaj,Hya.out]) Tryz.underlying22 rfl Kb (by rw [Uaj,Hyb.out]) rfl ⟨by rw [HYa.out,HYb.out];rfl,hB13⟩
theorem Z6 {α:Type} (l:List α) (z:α) (n j:Nat) (hn:l.length=n) (hj:j<n) (x:α) (hx:l[j]? =some x):(l.take j++List.replicate (n-j) z).set j x=l.take (j+1)++List.replicate (n-(j+1)) z:=by
 have hl:(l.take j).length=j:=by rw [zaj];omega
 rw [List.set_append_right _ _ (by omega),hl,Nat.sub_self,show n-j=(n-(j+1))+1 by omega,List.replicate_succ,List.set_cons_zero,List.take_add_one,hx];simp
theorem z6 {α:Type} (l:List α) (z:α) (n j:Nat) (hn:l.length=n):(l.take j++List.replicate (n-min j n) z).length=n:=by
 rw [qaj,zaj,List.length_replicate];omega
def Wi (l:List UInt8) (n j:Nat):List UInt8:=l.take j++List.replicate (n-min j n) 0
theorem Kj {l:List UInt8} {n:Nat} (hn:l.length=n) (j:Nat):(Wi l n j).length=n:=z6 l 0 n j hn
theorem Nt {l:List UInt8} {n j:Nat} (hn:l.length=n) (hj:j<n) {x:UInt8} (hx:l[j]? =some x):(Wi l n j).set j x=Wi l n (j+1):=by
 unfold Wi;rw [Nat.min_eq_left (by omega),Nat.min_eq_left (by omega)];exact Z6 l 0 n j hn hj x hx
theorem Oo (l:List UInt8) (n:Nat):Wi l n 0=List.replicate n 0:=by simp [Wi]
theorem Nr {l:List UInt8} {n:Nat} (hn:l.length=n):Wi l n n=l:=by simp [Wi,←hn]
theorem Az {l:List UInt8} {n j:Nat} (hn:l.length=n) (hj:j<n) {x:UInt8} (hx:l[j]? =some x):((Wi l n j).map Fa).set j (Fa x)=(Wi l n (j+1)).map Fa:=by
 rw [←List.map_set,Nt hn hj hx]
theorem FZ (w:World):(Instr.build 26 #[]).run Tryz.prog w=.ok (Ca (List.replicate 64 0)) w:=by kernel_rfl
theorem Lv (wd:List UInt8) (w:World) (hwd:wd.length=64):Calls Tryz.prog 30 #[Ca wd] w (gvn (.tuple #[Ca (wd.take 32),Ca (wd.drop 32)]) w):=by
 have h1:(wd.take 32).length=32:=by rw [zaj];omega
 have h2:(wd.drop 32).length=32:=by rw [List.length_drop];omega
 have hz:(List.replicate 32 (0:UInt8)).length=32:=List.length_replicate;have hR:∀j:Nat,j<32→∃q u:UInt8,(wd.map Fa)[j]? =some (Fa q)∧(wd.map Fa)[32+j]? =some (Fa u)∧((Wi (wd.take 32) 32 j).map Fa).set j (Fa q)=(Wi (wd.take 32) 32 (j+1)).map Fa∧((Wi (wd.drop 32) 32 j).map Fa).set j (Fa u)=(Wi (wd.drop 32) 32 (j+1)).map Fa:=fun j hj=>by
  have g1:wd[j]? =some wd[j]:=xaj (by omega);have g2:wd[32+j]? =some wd[32+j]:=xaj (by omega);refine ⟨wd[j],wd[32+j],?_,?_,Az h1 hj ?_,Az h2 hj ?_⟩
  ·rw [List.getElem?_map,g1];rfl
  ·rw [List.getElem?_map,g2];rfl
  ·rw [List.getElem?_take_of_lt hj,g1]
  ·rw [List.getElem?_drop,g2]
 have h:=qE wd (List.replicate 32 0) (Wi (wd.take 32) 32) (Wi (wd.drop 32) 32) w (Lib.hid hz) (Lib.hid (Oo _ 32)) (Lib.hid (Oo _ 32))
  (Lib.hid fun j=>⟨Kj h1 j,Kj h2 j⟩) (Lib.hid hR) IG
 rw [Nr h1,Nr h2] at h;exact h
theorem Xe.sum {A:Option Addr} {n c:Nat} {text:List UInt8} {W:World} (h:Xe A n c text W) (hn:n≤900000):Calls Tryz.prog 50 #[.slice A n c] W (gvn (Ca (Ed text)) W):=
 Vq A c n text W h.1 h.2.2.2.2 h.2.2.2.1 hn
theorem Ia.bytes {W:World} {g:Nat} {l:List UInt8} {t:TypeId} (h:Ia W g (l.map Fa) t):Row W W.heap.size (some ⟨g,0,none⟩) l:=
 Ia.row (m:=l.length) h (by rw [Zaj (by rw [Uaj];exact Xaj _)])
theorem UD {A:Option Addr} {n c:Nat} {text:List UInt8} {w:World} (h:Xe A n c text w) (hn:n≤900000):Calls Tryz.prog 20 #[.slice A n c] w (gvn (Ca (Ob (Gd text) 32)) w):=
 TO A n c text (Ed text) (Ob (Gd text) 32) w (Lib.hid (Cd _)) (Lib.hid (Ta _ _)) (Lib.hid fun W hW=>hW.sum hn)
  (Lib.hid fun g W hC=>Qk (some ⟨g,0,none⟩) 64 64 (Ed text) W (Cd _) (by decide) hC.bytes) h
theorem Mv (seed:List UInt8) (w:World) (hs:seed.length=32):Calls Tryz.prog 18 #[Ca seed] w (gvn (.tuple #[Ca (sgA seed),Ca (Fl seed)]) w):=
 SE seed (Ed seed) ((Ed seed).take 32) (Fl seed) (sgA seed) w (Lib.hid (by rw [zaj,Cd];rfl)) (Lib.hid (Tf _)) (Lib.hid (Pe _))
  (Lib.hid fun g W hC=>Vq (some ⟨g,0,none⟩) 32 32 seed W hs hC.bytes (fun h=>by cases h) (by decide)) (Lib.hid fun W=>Lv (Ed seed) W (Cd _))
  (Lib.hid fun W=>yJ _ W (by rw [zaj,Cd];rfl))
theorem Ot (key:List UInt8) (w:World) (hk:key.length=32):Calls Tryz.prog 19 #[Ca key] w (gvn (Ca (Qd (NP.edw.mul NP.bE (lev key)))) w):=
 SO (Pd Ic) (Pd (Vp (Ld key) Ic 256)) key (Qd (NP.edw.mul NP.bE (lev key))) w (Lib.hid hk) (Lib.hid (Hf _)) (Lib.hid fun W=>UC W) (Lib.hid fun W=>DO Ic key W hk zp)
  (Lib.hid fun W=>DD (NP.mulT_key NP.baseT_rep key hk) W)
theorem PK (seed:List UInt8) (w:World) (hs:seed.length=32):Calls Tryz.prog 8 #[Ca seed] w (gvn (Ca (xc seed)) w):=
 RE seed (sgA seed) (Fl seed) (xc seed) w (Lib.hid hs) (Lib.hid (Pe _)) (Lib.hid (Tf _)) (Lib.hid (Sf _)) (Lib.hid fun W=>Mv seed W hs) (Lib.hid fun W=>Ot _ W (Pe _))
theorem Wo {A:Option Addr} {n c:Nat} {text:List UInt8} {w:World} (r p:List UInt8) (hr:r.length=32) (hp:p.length=32) (h:Xe A n c text w) (hn:n≤800000):
 Calls Tryz.prog 23 #[Ca r,Ca p,.slice A n c] w (gvn (Ca (Ob (Gd (r++p++text)) 32)) w):=
 Gx A n c text r p (Ob (Gd (r++p++text)) 32) w (Lib.hid hr) (Lib.hid hp) (Lib.hid (Ta _ _)) (Lib.hid (by show n≤900000;omega))
  (Lib.hid fun A' n' c' W hW=>UD hW (by have h1:=hW.1;have h2:=h.1;rw [qaj,qaj,hr,hp,h2] at h1;omega)) h
def Xi (f d:List UInt8) (i j:Nat):List UInt8:=Wi f 32 i++Wi d 32 j
theorem OH {f d:List UInt8} (hf:f.length=32) (hd:d.length=32) (i j:Nat):(Xi f d i j).length=64:=by rw [Xi,qaj,Kj hf,Kj hd]
theorem UP {f d:List UInt8} (hf:f.length=32) {i j:Nat} (hi:i<32) {x:UInt8} (hx:f[i]? =some x):((Xi f d i j).map Fa).set i (Fa x)=(Xi f d (i+1) j).map Fa:=by
 rw [←List.map_set,Xi,List.set_append_left _ _ (by rw [Kj hf];exact hi),Nt hf hi hx];rfl
theorem QK {f d:List UInt8} (hf:f.length=32) (hd:d.length=32) {i j:Nat} (hj:j<32) {x:UInt8} (hx:d[j]? =some x):((Xi f d i j).map Fa).set (32+j) (Fa x)=(Xi f d i (j+1)).map Fa:=by
 rw [←List.map_set,Xi,List.set_append_right _ _ (by rw [Kj hf];omega),Kj hf,Nat.add_sub_cancel_left,Nt hd hj hx];rfl
theorem GU {A:Option Addr} {n c:Nat} {text:List UInt8} {w:World} (seed:List UInt8) (hs:seed.length=32) (h:Xe A n c text w) (hn:n≤800000):
 Calls Tryz.prog 9 #[Ca seed,.slice A n c] w (gvn (Ca (Bg seed text)) w):=by
 have hf:=Ng seed text;have hd:(Ob (sgS seed text) 32).length=32:=Ta _ _;have l1:lev (Ob (Uh seed text) 32)=Uh seed text:=Bf _ (PO seed text);have l2:lev (Ob (Gd (sgR seed text++xc seed++text)) 32)=Gd (sgR seed text++xc seed++text):=Bf _ (Cv _);have l3:lev (Ob (Gd (sgR seed text++xc seed++text)*lev (sgA seed)%NP.LL) 32)=Gd (sgR seed text++xc seed++text)*lev (sgA seed)%NP.LL:=Bf _ (Nat.mod_lt _ Iq);have hR:∀j:Nat,j<32→∃q u:UInt8,((sgR seed text).map Fa)[j]? =some (Fa q)∧((Ob (sgS seed text) 32).map Fa)[j]? =some (Fa u)∧((Xi (sgR seed text) (Ob (sgS seed text) 32) j j).map Fa).set j (Fa q)=(Xi (sgR seed text) (Ob (sgS seed text) 32) (j+1) j).map Fa∧((Xi (sgR seed text) (Ob (sgS seed text) 32) (j+1) j).map Fa).set (32+j) (Fa u)=(Xi (sgR seed text) (Ob (sgS seed text) 32) (j+1) (j+1)).map Fa:=fun j hj=>by
  have g1:(sgR seed text)[j]? =some (sgR seed text)[j]:=xaj (by omega);have g2:(Ob (sgS seed text) 32)[j]? =some (Ob (sgS seed text) 32)[j]:=xaj (by omega);refine ⟨(sgR seed text)[j],(Ob (sgS seed text) 32)[j],?_,?_,UP hf hj g1,QK hf hd hj g2⟩
  ·rw [List.getElem?_map,g1];rfl
  ·rw [List.getElem?_map,g2];rfl
 have hz:(List.replicate 64 (0:UInt8)).length=64:=List.length_replicate;have hx0:Xi (sgR seed text) (Ob (sgS seed text) 32) 0 0=List.replicate 64 0:=by rw [Xi,Oo,Oo,List.replicate_append_replicate]
 have hn9:n≤900000:=by omega
 have q:=TP A n c text (Fl seed++text) seed (sgA seed) (Fl seed) (Ob (Uh seed text) 32) (sgR seed text) (xc seed) (Ob (Gd (sgR seed text++xc seed++text)) 32) (Ob (Gd (sgR seed text++xc seed++text)*lev (sgA seed)%NP.LL) 32) (Ob (sgS seed text) 32) (List.replicate 64 0)
  (fun j=>Xi (sgR seed text) (Ob (sgS seed text) 32) j j) (fun j=>Xi (sgR seed text) (Ob (sgS seed text) 32) (j+1) j) w (Lib.hid hs) (Lib.hid (Pe _)) (Lib.hid (Tf _)) (Lib.hid (Ta _ _)) (Lib.hid hf) (Lib.hid hd) (Lib.hid hz) (Lib.hid hn9) (Lib.hid rfl)
  (Lib.hid fun W=>Mv seed W hs)
  (Lib.hid fun A' n' c' W hW=>UD hW (by have h1:=hW.1;have h2:=h.1;rw [qaj,Tf,h2] at h1;omega))
  (Lib.hid fun W=>by have b:=Ot (Ob (Uh seed text) 32) W (Ta _ _);rw [l1] at b;exact b)
  (Lib.hid fun W=>Ot (sgA seed) W (Pe _))
  (Lib.hid fun W hW=>Wo (sgR seed text) (xc seed) hf (Sf _) hW hn)
  (Lib.hid fun W=>by have b:=RD (Ob (Gd (sgR seed text++xc seed++text)) 32) (sgA seed) W (Ta _ _) (Pe _);rw [l2] at b;exact b)
  (Lib.hid fun W=>by have b:=LK (Ob (Uh seed text) 32) (Ob (Gd (sgR seed text++xc seed++text)*lev (sgA seed)%NP.LL) 32) W (Ta _ _) (Ta _ _);rw [l1,l3,Nat.add_mod_mod] at b;exact b)
  FZ (Lib.hid hx0) (Lib.hid fun j=>⟨OH hf hd j j,OH hf hd (j+1) j⟩) (Lib.hid hR) h
 rw [show Xi (sgR seed text) (Ob (sgS seed text) 32) 32 32=Bg seed text by rw [Xi,Nr hf,Nr hd,Bg]] at q;exact q
end Go.Proofs.YtoggkhjaghkpnaaGreatDoor

