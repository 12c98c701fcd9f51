import Derived.Test.YtoggkhjaghkpnaaGreatDoorPart22
import Derived.Test.YtoggkhjaghkpnaaGreatDoorPart10
import Derived.Test.YtoggkhjaghkpnaaGreatDoorPart11
import Derived.Deep.Cut
import Derived.Test.YtoggkhjaghkpnaaGreatDoorPart20
import Derived.Test.YtoggkhjaghkpnaaGreatDoorPart19
set_option maxRecDepth 100000
set_option maxHeartbeats 8000000
namespace Go.Proofs.YtoggkhjaghkpnaaGreatDoor
open Go.RowKit
theorem Nv (A B:Option Addr) (n c m d:Nat) (ks:List UInt8) (E:Value) (w:World)
 (Hn:Hid (300<n))
 (CAL:Hid (∀W,Bc E W→Calls Tryz.prog 5 #[] W (gvn (.bool true) W)))
 (hS:Bc E w):
 Calls Tryz.prog 3 #[Ca ks,.slice A n c,.slice B m d] w (gvn (.bool true) w):=by
 go_enter Tryz.func3,Tryz.ntmps3;have i1:(300:Int)<(n:Int):=by have :=Hn.out;omega
 go_wp2_with (first
  |(refine Rb rfl 23 (.tmp 0) rfl ks rfl ?_
    intro w1 hb1 hvk1 hz;clear hz;have hB1:=hb1;have hgek:w.heap.size≤w.heap.size:=Xaj _;clear hb1;try simp only [La]
    skip))
 refine (CAL.out w1 (hS.below hB1)).mono ?_;rintro e w2 ⟨rfl,hb2⟩;have hB2:=Ba hB1 hb2;have hvk2:=hvk1.on hb2;clear hB1 hvk1 hb2
 go_wp2
 go_ret
 exact ⟨rfl,hB2⟩
theorem Ov (A B:Option Addr) (n c m d:Nat) (ks:List UInt8) (E:Value) (w:World)
 (Hn:Hid (n≤300))
 (Hm:Hid (300<m))
 (CAL:Hid (∀W,Bc E W→Calls Tryz.prog 5 #[] W (gvn (.bool true) W)))
 (hS:Bc E w):
 Calls Tryz.prog 3 #[Ca ks,.slice A n c,.slice B m d] w (gvn (.bool true) w):=by
 go_enter Tryz.func3,Tryz.ntmps3;have i1:¬(300:Int)<(n:Int):=by have :=Hn.out;omega
 have i2:(300:Int)<(m:Int):=by have :=Hm.out;omega
 go_wp2_with (first
  |(refine Rb rfl 23 (.tmp 0) rfl ks rfl ?_
    intro w1 hb1 hvk1 hz;clear hz;have hB1:=hb1;have hgek:w.heap.size≤w.heap.size:=Xaj _;clear hb1;try simp only [La]
    skip))
 refine (CAL.out w1 (hS.below hB1)).mono ?_;rintro e w2 ⟨rfl,hb2⟩;have hB2:=Ba hB1 hb2;have hvk2:=hvk1.on hb2;clear hB1 hvk1 hb2
 go_wp2
 go_ret
 exact ⟨rfl,hB2⟩
theorem AF (a:Act) (hs:a.tmps.size=49) (hd:a.defers= []):∃u:Nat→Value,a=⟨(u 0::u 1::u 2::u 3::u 4::u 5::u 6::u 7::u 8::u 9::u 10::u 11::u 12::u 13::u 14::u 15::u 16::u 17::u 18::u 19::u 20::u 21::u 22::u 23::u 24::u 25::u 26::u 27::u 28::u 29::u 30::u 31::u 32::u 33::u 34::u 35::u 36::u 37::u 38::u 39::u 40::u 41::u 42::u 43::u 44::u 45::u 46::u 47::u 48::[]).toArray,[]⟩:=by
 obtain ⟨u,h⟩:=Pg 49 a hs hd;exact ⟨u,h⟩
def Jc (ks:List UInt8) (pb:List UInt8) (sb:List UInt8) (tt:List UInt8) (A8:Option Addr) (q:Nat) (c8:Nat) (i:Nat) (v:Value) (w:World):Prop:=match i with
 |0=>v=Ca ks
 |1=>v=Ca pb
 |2=>v=Ca ks
 |3=>v=Ca pb
 |4=>v=.bool true
 |5=>v=.bool true
 |6=>v=Ca sb
 |7=>v=Ca ks
 |8=>v=.slice A8 q c8
 |9=>v=Ca sb
 |10=>v=.bool true
 |11=>v=.bool true
 |12=>v=.bool true
 |13=>v=Ca ks
 |14=>v=Ca pb
 |15=>v=Ca sb
 |16=>v=.slice A8 q c8
 |17=>∃g,v=.slice (some ⟨g,0,none⟩) 1 1∧Jd (some ⟨g,0,none⟩) [tt] w
 |18=>v=.bool true
 |19=>v=.bool true
 |20=>v=.bool true
 |_=>True
theorem Fc {ks:List UInt8} {pb:List UInt8} {sb:List UInt8} {tt:List UInt8} {A8:Option Addr} {q:Nat} {c8:Nat} {i:Nat} {v:Value} {w w':World} (h:Jc ks pb sb tt A8 q c8 i v w) (hk:It w w'):Jc ks pb sb tt A8 q c8 i v w':=by
 unfold Jc at h ⊢
 split
 all_goals first
  |exact h
  |trivial
  |(obtain ⟨g,h1,h2⟩:=h
    exact ⟨g,h1,h2.kept hk⟩)
  |(obtain ⟨g,fr,h1,h2,h3⟩:=h
    obtain ⟨fr2,h4⟩:=hk.row _ _ _ _ h3;exact ⟨g,fr2,h1,h2,h4⟩)
theorem SK (A B:Option Addr) (n c m d q:Nat) (ks ta tb tt pb sb:List UInt8) (E:Value) (w:World)
 (Hks:Hid (ks.length=32))
 (Hsb:Hid (sb.length=64))
 (Hn:Hid (n≤300))
 (Hm:Hid (m≤300))
 (HTT:Hid (ta++tb=tt))
 (Hq:Hid (tt.length=q))
 (CAL:Hid (∀W,Bc E W→Calls Tryz.prog 5 #[] W (gvn (.bool true) W)))
 (CS:Hid (∀g W,Jd (some ⟨g,0,none⟩) [ta,tb] W→Bc E W→Calls Tryz.prog 6 #[Ca ks,.slice (some ⟨g,0,none⟩) 2 2] W (gvn (Ca sb) W)))
 (CP:Hid (∀W,Bc E W→Calls Tryz.prog 7 #[Ca ks] W (gvn (Ca pb) W)))
 (CRP:Hid (∀W,Calls Tryz.prog 8 #[Ca ks] W (gvn (Ca pb) W)))
 (CRS:Hid (∀A c W,Xe A q c tt W→Calls Tryz.prog 9 #[Ca ks,.slice A q c] W (gvn (Ca sb) W)))
 (CV:Hid (∀g W,Jd (some ⟨g,0,none⟩) [tt] W→Bc E W→Calls Tryz.prog 10 #[Ca pb,Ca sb,.slice (some ⟨g,0,none⟩) 1 1] W (gvn (.bool true) W)))
 (EQK:∀w,(binOp .eql 23 (Ca pb) (Ca pb)).run Tryz.prog w=.ok (.bool true) w)
 (EQS:∀w,(binOp .eql 27 (Ca sb) (Ca sb)).run Tryz.prog w=.ok (.bool true) w)
 (hS:Bc E w)
 (hTa:Xe A n c ta w)
 (hTb:Xe B m d tb w):
 Calls Tryz.prog 3 #[Ca ks,.slice A n c,.slice B m d] w (gvn (.bool true) w):=by
 go_enter Tryz.func3,Tryz.ntmps3;have i1:¬(300:Int)<(n:Int):=by have :=Hn.out;omega
 have i2:¬(300:Int)<(m:Int):=by have :=Hm.out;omega
 go_wp2_with (first
  |(refine Rb rfl 23 (.tmp 0) rfl ks rfl ?_
    intro w1 hb1 hvk1 hz;clear hz;have hB1:=hb1;have hgek:w.heap.size≤w.heap.size:=Xaj _;clear hb1;try simp only [La]
    skip))
 refine (CAL.out w1 (hS.below hB1)).mono ?_;rintro e w2 ⟨rfl,hb2⟩;have hB2:=Ba hB1 hb2;have hvk2:=hvk1.on hb2;clear hB1 hvk1 hb2
 go_upto_region 5 with fail
 have hA0:=hTa.below hB2;have hE0:=hTb.below hB2
 go_upto_region 6 with (first
  |(refine Vk rfl 24 0 [] rfl [] rfl 5 #[] Fx ?_
    intro w3 hw;have hO3:Sd w3 w2.heap.size (.slice (some ⟨w2.heap.size,0,none⟩) 0 0) []:=(by rw [hw];exact Sd.lit _ [] (Xaj _) (by simp));have hb3:Below w2.heap.size w2 w3:=(by rw [hw];exact (Below.refl _ _).alloc (Xaj _) _);have hz3:=hb3.size;have hA3:=hA0.below hb3;clear hw;try simp only [La]
    skip)
  |(at_builtin
    refine Uf rfl (.tmp 19) (.tmp 20) rfl w2.heap.size _ [] ta w3.heap.size A n c rfl hO3 rfl hA3.1 hA3.2.2.2.1 hA3.2.2.2.2 (by rw [hA3.1];have :=Hn.out;simp;omega) hz3 ?_;intro u21 w4 hO4 hb4;rw [List.nil_append] at hO4;replace hb4:=hb3.trans hb4;have hz4:=hb4.size;have hE4:=hE0.below hb4;clear hO3 hb3 hz3 hA3 hA0;try simp only [La]
    skip)
  |(at_builtin
    refine Uf rfl (.tmp 21) (.tmp 22) rfl w2.heap.size u21 ta tb w4.heap.size B m d rfl hO4 rfl hE4.1 hE4.2.2.2.1 hE4.2.2.2.2 (by rw [hTa.1,hE4.1];have :=Hn.out;have :=Hm.out;omega) hz4 ?_;intro v23 w5 hO5 hb5;replace hb5:=hb4.trans hb5;have hz5:=hb5.size;clear hO4 hb4 hz4 hE4 hE0;rw [HTT.out] at hO5;obtain ⟨A8,c8,rfl,hc8,hm8,hA8,hR8⟩:=hO5.form2;rw [Hq.out] at hc8;rw [Hq.out];have hX5:Xe A8 q c8 tt w5:=⟨Hq.out,hc8,hm8,hA8,hR8⟩;clear hO5 hc8 hm8 hA8 hR8;try simp only [La]
    skip))
 have hB5:=hB2.trans (hb5.mono hB2.size);have hvk5:=hvk2.on hb5;clear hz5 hb5 hB2 hvk2;generalize Value.slice (some ⟨w2.heap.size,0,none⟩) 0 0=u19;have hl6:Ia (w5.alloc (.cells #[.slice A n c,.slice B m d] 24)) w5.heap.size [.slice A n c,.slice B m d] 24:=Ia.new w5 _ _;have hb6:Below w5.heap.size w5 (w5.alloc (.cells #[.slice A n c,.slice B m d] 24)):=(Below.refl _ _).alloc (Xaj _) _;replace hl6:=Lib.hid hl6;replace hb6:=Lib.hid hb6;go_wp2_with (first
  |(refine Tc rfl 23 (.tmp 3) rfl w.heap.size 32 ks 5 rfl hvk5 Tryz.underlying23 za Hks.out ?_
    try simp only [La]
    skip))
 generalize w5.alloc (.cells #[.slice A n c,.slice B m d] 24)=w6 at *;replace hb6:=hb6.out;have hB6:=Ba hB5 hb6;have hvk6:=hvk5.on hb6;have hX6:=hX5.below hb6;have hA6:=hTa.below hB6;have hE6:=hTb.below hB6;have hP6:Jd (some ⟨w5.heap.size,0,none⟩) [ta,tb] w6:=To hl6.out (Of.mk hA6.1 hA6.2.2.2.2 hA6.2.2.2.1 hA6.2.1 hA6.2.2.1) (Of.mk hE6.1 hE6.2.2.2.2 hE6.2.2.2.1 hE6.2.1 hE6.2.2.1);clear hb6 hl6 hA6 hE6 hB5 hvk5 hX5;refine (CS.out _ w6 hP6 (hS.below hB6)).mono ?_;rintro e w7 ⟨rfl,hb7⟩;clear hP6;have hX7:=hX6.below hb7;clear hX6;generalize w5.heap.size=gq at *;have hB7:=Ba hB6 hb7;have hvk7:=hvk6.on hb7;clear hB6 hvk6 hb7;go_wp2_with (first
  |(refine Db rfl rfl 27 (.tmp 8) (.tmp 28) rfl rfl 64 qJ (sb.map Fa) rfl rfl Kq rfl Ie (by rw [Uaj,Hsb.out]) (Ab _) ?_
    intro w8 hb8 hvs8;have hbX:=hb8;have hB8:=Ba hB7 hb8;have hges:w.heap.size≤w7.heap.size:=hB7.size;have hvk8:=hvk7.on hb8;have hneks:=Vaj hvk7.lt;clear hB7 hvk7 hb8;have hX8:=hX7.below (show Below w7.heap.size w7 w8 from hbX);clear hbX hX7;try simp only [La]
    skip))
 generalize hqs:w7.heap.size=gs at *;clear hqs;go_wp2_with fail
 have hB9:Below w.heap.size w w8.drew:=hB8.drew;have hvk9:=hvk8.drew;have hvs9:=hvs8.drew;have hhX:=hX8.below (Below.refl _ _).drew;refine wp_region_any (by kernel_rfl) ?_;show wpAny _ _ _ _ _ _ _ w8.drew;simp only [List.size_toArray,List.length_cons,List.length_nil,Nat.reduceAdd,Array.replicate_succ,Array.replicate_zero,List.push_toArray,List.nil_append,List.cons_append];clear hB8 hvk8 hvs8 hX8;generalize w8.drew=w9 at *;have rk:=hvk9.range 0 32;rw [List.drop_zero,Zaj (by rw [Uaj,Hks.out];omega)] at rk;have rs:=hvs9.range 0 64;rw [List.drop_zero,Zaj (by rw [Uaj,Hsb.out];omega)] at rs;refine Lo (L:=[0,1,2,3,4,5,6,7,8,9,10,11,12,13,14,15,16,17,18,19,20]) (fins:=[(#[true,true,true,true,true,true,true,true,true,true,true,true,true,true,true,true,true,true,true,true,true],0)]) (Jt w9 _ [(0,29),(1,30),(2,31),(3,32),(4,33),(5,34),(6,35),(7,36),(8,37),(9,38),(10,39),(11,40),(12,41),(13,42),(14,43),(15,44),(16,45),(17,46),(18,47),(19,48),(20,6)] (Jc ks pb sb tt A8 q c8)) ?_ ?_ 21 _ _ _ (by kernel_rfl) ⟨Below.refl _ _,rfl,rfl,fun _ _=>rfl,?_⟩;rotate_left 2
 ·intro p hp hl;simp only [List.mem_cons,List.not_mem_nil,or_false] at hp;rcases hp with rfl|rfl|rfl|rfl|rfl|rfl|rfl|rfl|rfl|rfl|rfl|rfl|rfl|rfl|rfl|rfl|rfl|rfl|rfl|rfl|rfl;all_goals cases hl
 ·intro i hi;simp only [List.mem_cons,List.not_mem_nil,or_false] at hi;rcases hi with rfl|rfl|rfl|rfl|rfl|rfl|rfl|rfl|rfl|rfl|rfl|rfl|rfl|rfl|rfl|rfl|rfl|rfl|rfl|rfl|rfl
  ·refine Cb (slots:=[(0,29),(1,30),(2,31),(3,32),(4,33),(5,34),(6,35),(7,36),(8,37),(9,38),(10,39),(11,40),(12,41),(13,42),(14,43),(15,44),(16,45),(17,46),(18,47),(19,48),(20,6)]) (prop:=Jc ks pb sb tt A8 q c8) (by decide) (by decide) 49 rfl (by decide) (fun _ _ _ _ h hk=>Fc h hk) (i:=0) (s:=29) (by decide) rfl rfl ?_;intro a w6 K hb hs hd hsame hfact hK hM;exact Jf rfl 23 (.tmp 3) rfl (w.heap.size) 0 (hsame 3 (by decide)) (ks.map Fa) _ (Be rk hvk9.lt hb) Tryz.underlying23 rfl (by rw [Uaj,Hks.out];exact za) (hK _ _ (Below.refl _ _) rfl)
  ·refine Cb (slots:=[(0,29),(1,30),(2,31),(3,32),(4,33),(5,34),(6,35),(7,36),(8,37),(9,38),(10,39),(11,40),(12,41),(13,42),(14,43),(15,44),(16,45),(17,46),(18,47),(19,48),(20,6)]) (prop:=Jc ks pb sb tt A8 q c8) (by decide) (by decide) 49 rfl (by decide) (fun _ _ _ _ h hk=>Fc h hk) (i:=1) (s:=30) (by decide) rfl rfl ?_;intro a w6 K hb hs hd hsame hfact hK hM;refine If rfl 7 [.tmp 29] _ rfl [Ca ks] ?_ (Ef Tryz.func7 (by kernel_rfl) (by kernel_rfl)) (CP.out w6 (hS.below (Ba hB9 hb))) ?_
   ·simp only [List.map_cons,List.map_nil];rw [(show a.eval (.tmp 29)=Ca ks from hfact (0,29) (by decide) (by kernel_rfl))]
   ·rintro e w7 ⟨rfl,hb7⟩;exact ⟨_,rfl,hK _ _ hb7 rfl⟩
  ·refine Cb (slots:=[(0,29),(1,30),(2,31),(3,32),(4,33),(5,34),(6,35),(7,36),(8,37),(9,38),(10,39),(11,40),(12,41),(13,42),(14,43),(15,44),(16,45),(17,46),(18,47),(19,48),(20,6)]) (prop:=Jc ks pb sb tt A8 q c8) (by decide) (by decide) 49 rfl (by decide) (fun _ _ _ _ h hk=>Fc h hk) (i:=2) (s:=31) (by decide) rfl rfl ?_;intro a w6 K hb hs hd hsame hfact hK hM;exact Jf rfl 23 (.tmp 3) rfl (w.heap.size) 0 (hsame 3 (by decide)) (ks.map Fa) _ (Be rk hvk9.lt hb) Tryz.underlying23 rfl (by rw [Uaj,Hks.out];exact za) (hK _ _ (Below.refl _ _) rfl)
  ·refine Cb (slots:=[(0,29),(1,30),(2,31),(3,32),(4,33),(5,34),(6,35),(7,36),(8,37),(9,38),(10,39),(11,40),(12,41),(13,42),(14,43),(15,44),(16,45),(17,46),(18,47),(19,48),(20,6)]) (prop:=Jc ks pb sb tt A8 q c8) (by decide) (by decide) 49 rfl (by decide) (fun _ _ _ _ h hk=>Fc h hk) (i:=3) (s:=32) (by decide) rfl rfl ?_;intro a w6 K hb hs hd hsame hfact hK hM;refine If rfl 8 [.tmp 31] _ rfl [Ca ks] ?_ (Ef Tryz.func8 (by kernel_rfl) (by kernel_rfl)) (CRP.out w6) ?_
   ·simp only [List.map_cons,List.map_nil];rw [(show a.eval (.tmp 31)=Ca ks from hfact (2,31) (by decide) (by kernel_rfl))]
   ·rintro e w7 ⟨rfl,hb7⟩;exact ⟨_,rfl,hK _ _ hb7 rfl⟩
  ·refine Cb (slots:=[(0,29),(1,30),(2,31),(3,32),(4,33),(5,34),(6,35),(7,36),(8,37),(9,38),(10,39),(11,40),(12,41),(13,42),(14,43),(15,44),(16,45),(17,46),(18,47),(19,48),(20,6)]) (prop:=Jc ks pb sb tt A8 q c8) (by decide) (by decide) 49 rfl (by decide) (fun _ _ _ _ h hk=>Fc h hk) (i:=4) (s:=33) (by decide) rfl rfl ?_;intro a w6 K hb hs hd hsame hfact hK hM;exact yc rfl _ (Ff _ _ _ _ _ _ _ rfl (Ca pb) (Ca pb) _ (show a.eval (.tmp 30)=Ca pb from hfact (1,30) (by decide) (by kernel_rfl)) (show a.eval (.tmp 32)=Ca pb from hfact (3,32) (by decide) (by kernel_rfl)) w6 (Cw _ _ _ _ _ w6) (EQK w6)) (hK _ _ (Below.refl _ _) rfl)
  ·refine Cb (slots:=[(0,29),(1,30),(2,31),(3,32),(4,33),(5,34),(6,35),(7,36),(8,37),(9,38),(10,39),(11,40),(12,41),(13,42),(14,43),(15,44),(16,45),(17,46),(18,47),(19,48),(20,6)]) (prop:=Jc ks pb sb tt A8 q c8) (by decide) (by decide) 49 rfl (by decide) (fun _ _ _ _ h hk=>Fc h hk) (i:=5) (s:=34) (by decide) rfl rfl ?_;intro a w6 K hb hs hd hsame hfact hK hM;exact yc rfl _ (Lb _ _ _ (.inl rfl) _ (show a.eval (.tmp 33)=.bool true from hfact (4,33) (by decide) (by kernel_rfl)) w6) (hK _ _ (Below.refl _ _) rfl)
  ·refine Cb (slots:=[(0,29),(1,30),(2,31),(3,32),(4,33),(5,34),(6,35),(7,36),(8,37),(9,38),(10,39),(11,40),(12,41),(13,42),(14,43),(15,44),(16,45),(17,46),(18,47),(19,48),(20,6)]) (prop:=Jc ks pb sb tt A8 q c8) (by decide) (by decide) 49 rfl (by decide) (fun _ _ _ _ h hk=>Fc h hk) (i:=6) (s:=35) (by decide) rfl rfl ?_;intro a w6 K hb hs hd hsame hfact hK hM;refine Vc (Rd (j:=5) (s:=34) rfl rfl rfl (hfact (5,34) (by decide) (by kernel_rfl))) ?_;exact Jf rfl 27 (.tmp 8) rfl gs 0 (hsame 8 (by decide)) (sb.map Fa) _ (Be rs hvs9.lt hb) Tryz.underlying27 rfl (by rw [Uaj,Hsb.out];exact Ie) (hK _ _ (Below.refl _ _) rfl)
  ·refine Cb (slots:=[(0,29),(1,30),(2,31),(3,32),(4,33),(5,34),(6,35),(7,36),(8,37),(9,38),(10,39),(11,40),(12,41),(13,42),(14,43),(15,44),(16,45),(17,46),(18,47),(19,48),(20,6)]) (prop:=Jc ks pb sb tt A8 q c8) (by decide) (by decide) 49 rfl (by decide) (fun _ _ _ _ h hk=>Fc h hk) (i:=7) (s:=36) (by decide) rfl rfl ?_;intro a w6 K hb hs hd hsame hfact hK hM;refine Vc (Rd (j:=5) (s:=34) rfl rfl rfl (hfact (5,34) (by decide) (by kernel_rfl))) ?_;exact Jf rfl 23 (.tmp 3) rfl (w.heap.size) 0 (hsame 3 (by decide)) (ks.map Fa) _ (Be rk hvk9.lt hb) Tryz.underlying23 rfl (by rw [Uaj,Hks.out];exact za) (hK _ _ (Below.refl _ _) rfl)
  ·refine Cb (slots:=[(0,29),(1,30),(2,31),(3,32),(4,33),(5,34),(6,35),(7,36),(8,37),(9,38),(10,39),(11,40),(12,41),(13,42),(14,43),(15,44),(16,45),(17,46),(18,47),(19,48),(20,6)]) (prop:=Jc ks pb sb tt A8 q c8) (by decide) (by decide) 49 rfl (by decide) (fun _ _ _ _ h hk=>Fc h hk) (i:=8) (s:=37) (by decide) rfl rfl ?_;intro a w6 K hb hs hd hsame hfact hK hM;refine Vc (Rd (j:=5) (s:=34) rfl rfl rfl (hfact (5,34) (by decide) (by kernel_rfl))) ?_;exact yc rfl _ (Lb _ _ _ (.inl rfl) _ (show a.eval (.tmp 7)=.slice A8 q c8 from hsame 7 (by decide)) w6) (hK _ _ (Below.refl _ _) rfl)
  ·refine Cb (slots:=[(0,29),(1,30),(2,31),(3,32),(4,33),(5,34),(6,35),(7,36),(8,37),(9,38),(10,39),(11,40),(12,41),(13,42),(14,43),(15,44),(16,45),(17,46),(18,47),(19,48),(20,6)]) (prop:=Jc ks pb sb tt A8 q c8) (by decide) (by decide) 49 rfl (by decide) (fun _ _ _ _ h hk=>Fc h hk) (i:=9) (s:=38) (by decide) rfl rfl ?_;intro a w6 K hb hs hd hsame hfact hK hM;refine Vc (Rd (j:=5) (s:=34) rfl rfl rfl (hfact (5,34) (by decide) (by kernel_rfl))) ?_;refine If rfl 9 [.tmp 36,.tmp 37] _ rfl [Ca ks,.slice A8 q c8] ?_ (Ef Tryz.func9 (by kernel_rfl) (by kernel_rfl)) (CRS.out _ _ w6 (hhX.below hb)) ?_
   ·simp only [List.map_cons,List.map_nil];rw [(show a.eval (.tmp 36)=Ca ks from hfact (7,36) (by decide) (by kernel_rfl)),(show a.eval (.tmp 37)=.slice A8 q c8 from hfact (8,37) (by decide) (by kernel_rfl))]
   ·rintro e w7 ⟨rfl,hb7⟩;exact ⟨_,rfl,hK _ _ hb7 rfl⟩
  ·refine Cb (slots:=[(0,29),(1,30),(2,31),(3,32),(4,33),(5,34),(6,35),(7,36),(8,37),(9,38),(10,39),(11,40),(12,41),(13,42),(14,43),(15,44),(16,45),(17,46),(18,47),(19,48),(20,6)]) (prop:=Jc ks pb sb tt A8 q c8) (by decide) (by decide) 49 rfl (by decide) (fun _ _ _ _ h hk=>Fc h hk) (i:=10) (s:=39) (by decide) rfl rfl ?_;intro a w6 K hb hs hd hsame hfact hK hM;refine Vc (Rd (j:=5) (s:=34) rfl rfl rfl (hfact (5,34) (by decide) (by kernel_rfl))) ?_;exact yc rfl _ (Ff _ _ _ _ _ _ _ rfl (Ca sb) (Ca sb) _ (show a.eval (.tmp 35)=Ca sb from hfact (6,35) (by decide) (by kernel_rfl)) (show a.eval (.tmp 38)=Ca sb from hfact (9,38) (by decide) (by kernel_rfl)) w6 (UY _ _ _ _ _ w6) (EQS w6)) (hK _ _ (Below.refl _ _) rfl)
  ·refine Cb (slots:=[(0,29),(1,30),(2,31),(3,32),(4,33),(5,34),(6,35),(7,36),(8,37),(9,38),(10,39),(11,40),(12,41),(13,42),(14,43),(15,44),(16,45),(17,46),(18,47),(19,48),(20,6)]) (prop:=Jc ks pb sb tt A8 q c8) (by decide) (by decide) 49 rfl (by decide) (fun _ _ _ _ h hk=>Fc h hk) (i:=11) (s:=40) (by decide) rfl rfl ?_;intro a w6 K hb hs hd hsame hfact hK hM;exact yc rfl _ (Bw _ _ _ _ _ rfl (show a.eval (.tmp 34)=.bool true from hfact (5,34) (by decide) (by kernel_rfl)) (.bool true) (show a.eval (.tmp 39)=.bool true from hfact (10,39) (by decide) (by kernel_rfl)) w6) (hK _ _ (Below.refl _ _) rfl)
  ·refine Cb (slots:=[(0,29),(1,30),(2,31),(3,32),(4,33),(5,34),(6,35),(7,36),(8,37),(9,38),(10,39),(11,40),(12,41),(13,42),(14,43),(15,44),(16,45),(17,46),(18,47),(19,48),(20,6)]) (prop:=Jc ks pb sb tt A8 q c8) (by decide) (by decide) 49 rfl (by decide) (fun _ _ _ _ h hk=>Fc h hk) (i:=12) (s:=41) (by decide) rfl rfl ?_;intro a w6 K hb hs hd hsame hfact hK hM;exact yc rfl _ (Lb _ _ _ (.inl rfl) _ (show a.eval (.tmp 40)=.bool true from hfact (11,40) (by decide) (by kernel_rfl)) w6) (hK _ _ (Below.refl _ _) rfl)
  ·refine Cb (slots:=[(0,29),(1,30),(2,31),(3,32),(4,33),(5,34),(6,35),(7,36),(8,37),(9,38),(10,39),(11,40),(12,41),(13,42),(14,43),(15,44),(16,45),(17,46),(18,47),(19,48),(20,6)]) (prop:=Jc ks pb sb tt A8 q c8) (by decide) (by decide) 49 rfl (by decide) (fun _ _ _ _ h hk=>Fc h hk) (i:=13) (s:=42) (by decide) rfl rfl ?_;intro a w6 K hb hs hd hsame hfact hK hM;refine Vc (Rd (j:=12) (s:=41) rfl rfl rfl (hfact (12,41) (by decide) (by kernel_rfl))) ?_;exact Jf rfl 23 (.tmp 3) rfl (w.heap.size) 0 (hsame 3 (by decide)) (ks.map Fa) _ (Be rk hvk9.lt hb) Tryz.underlying23 rfl (by rw [Uaj,Hks.out];exact za) (hK _ _ (Below.refl _ _) rfl)
  ·refine Cb (slots:=[(0,29),(1,30),(2,31),(3,32),(4,33),(5,34),(6,35),(7,36),(8,37),(9,38),(10,39),(11,40),(12,41),(13,42),(14,43),(15,44),(16,45),(17,46),(18,47),(19,48),(20,6)]) (prop:=Jc ks pb sb tt A8 q c8) (by decide) (by decide) 49 rfl (by decide) (fun _ _ _ _ h hk=>Fc h hk) (i:=14) (s:=43) (by decide) rfl rfl ?_;intro a w6 K hb hs hd hsame hfact hK hM;refine Vc (Rd (j:=12) (s:=41) rfl rfl rfl (hfact (12,41) (by decide) (by kernel_rfl))) ?_;refine If rfl 7 [.tmp 42] _ rfl [Ca ks] ?_ (Ef Tryz.func7 (by kernel_rfl) (by kernel_rfl)) (CP.out w6 (hS.below (Ba hB9 hb))) ?_
   ·simp only [List.map_cons,List.map_nil];rw [(show a.eval (.tmp 42)=Ca ks from hfact (13,42) (by decide) (by kernel_rfl))]
   ·rintro e w7 ⟨rfl,hb7⟩;exact ⟨_,rfl,hK _ _ hb7 rfl⟩
  ·refine Cb (slots:=[(0,29),(1,30),(2,31),(3,32),(4,33),(5,34),(6,35),(7,36),(8,37),(9,38),(10,39),(11,40),(12,41),(13,42),(14,43),(15,44),(16,45),(17,46),(18,47),(19,48),(20,6)]) (prop:=Jc ks pb sb tt A8 q c8) (by decide) (by decide) 49 rfl (by decide) (fun _ _ _ _ h hk=>Fc h hk) (i:=15) (s:=44) (by decide) rfl rfl ?_;intro a w6 K hb hs hd hsame hfact hK hM;refine Vc (Rd (j:=12) (s:=41) rfl rfl rfl (hfact (12,41) (by decide) (by kernel_rfl))) ?_;exact Jf rfl 27 (.tmp 8) rfl gs 0 (hsame 8 (by decide)) (sb.map Fa) _ (Be rs hvs9.lt hb) Tryz.underlying27 rfl (by rw [Uaj,Hsb.out];exact Ie) (hK _ _ (Below.refl _ _) rfl)
  ·refine Cb (slots:=[(0,29),(1,30),(2,31),(3,32),(4,33),(5,34),(6,35),(7,36),(8,37),(9,38),(10,39),(11,40),(12,41),(13,42),(14,43),(15,44),(16,45),(17,46),(18,47),(19,48),(20,6)]) (prop:=Jc ks pb sb tt A8 q c8) (by decide) (by decide) 49 rfl (by decide) (fun _ _ _ _ h hk=>Fc h hk) (i:=16) (s:=45) (by decide) rfl rfl ?_;intro a w6 K hb hs hd hsame hfact hK hM;refine Vc (Rd (j:=12) (s:=41) rfl rfl rfl (hfact (12,41) (by decide) (by kernel_rfl))) ?_;exact yc rfl _ (Lb _ _ _ (.inl rfl) _ (show a.eval (.tmp 7)=.slice A8 q c8 from hsame 7 (by decide)) w6) (hK _ _ (Below.refl _ _) rfl)
  ·refine Cb (slots:=[(0,29),(1,30),(2,31),(3,32),(4,33),(5,34),(6,35),(7,36),(8,37),(9,38),(10,39),(11,40),(12,41),(13,42),(14,43),(15,44),(16,45),(17,46),(18,47),(19,48),(20,6)]) (prop:=Jc ks pb sb tt A8 q c8) (by decide) (by decide) 49 rfl (by decide) (fun _ _ _ _ h hk=>Fc h hk) (i:=17) (s:=46) (by decide) rfl rfl ?_;intro a w6 K hb hs hd hsame hfact hK hM;refine Vc (Rd (j:=12) (s:=41) rfl rfl rfl (hfact (12,41) (by decide) (by kernel_rfl))) ?_;have hT6:=hhX.below hb;refine Nn rfl 36 1 [(0,.tmp 45)] rfl [(0,.slice A8 q c8)] ?_ 24 ([.slice A8 q c8].map Af) (Di _ _ _) (fun w' hb' hc'=>hK _ _ hb' ⟨_,rfl,Sg hc' (Of.mk hT6.1 (hT6.2.2.2.2.on hb') hT6.2.2.2.1 hT6.2.1 hT6.2.2.1)⟩);simp only [List.map_cons,List.map_nil];rw [(show a.eval (.tmp 45)=.slice A8 q c8 from hfact (16,45) (by decide) (by kernel_rfl))]
  ·refine Cb (slots:=[(0,29),(1,30),(2,31),(3,32),(4,33),(5,34),(6,35),(7,36),(8,37),(9,38),(10,39),(11,40),(12,41),(13,42),(14,43),(15,44),(16,45),(17,46),(18,47),(19,48),(20,6)]) (prop:=Jc ks pb sb tt A8 q c8) (by decide) (by decide) 49 rfl (by decide) (fun _ _ _ _ h hk=>Fc h hk) (i:=18) (s:=47) (by decide) rfl rfl ?_;intro a w6 K hb hs hd hsame hfact hK hM;refine Vc (Rd (j:=12) (s:=41) rfl rfl rfl (hfact (12,41) (by decide) (by kernel_rfl))) ?_;obtain ⟨g46,e46,hp46⟩:=hfact (17,46) (by decide) (by kernel_rfl);refine If rfl 10 [.tmp 43,.tmp 44,.tmp 46] _ rfl [Ca pb,Ca sb,.slice (some ⟨g46,0,none⟩) 1 1] ?_ (Ef Tryz.func10 (by kernel_rfl) (by kernel_rfl)) (CV.out g46 w6 hp46 (hS.below (Ba hB9 hb))) ?_
   ·simp only [List.map_cons,List.map_nil];rw [(show a.eval (.tmp 43)=Ca pb from hfact (14,43) (by decide) (by kernel_rfl)),(show a.eval (.tmp 44)=Ca sb from hfact (15,44) (by decide) (by kernel_rfl)),(show a.eval (.tmp 46)=.slice (some ⟨g46,0,none⟩) 1 1 from e46)]
   ·rintro e w7 ⟨rfl,hb7⟩;exact ⟨_,rfl,hK _ _ hb7 rfl⟩
  ·refine Cb (slots:=[(0,29),(1,30),(2,31),(3,32),(4,33),(5,34),(6,35),(7,36),(8,37),(9,38),(10,39),(11,40),(12,41),(13,42),(14,43),(15,44),(16,45),(17,46),(18,47),(19,48),(20,6)]) (prop:=Jc ks pb sb tt A8 q c8) (by decide) (by decide) 49 rfl (by decide) (fun _ _ _ _ h hk=>Fc h hk) (i:=19) (s:=48) (by decide) rfl rfl ?_;intro a w6 K hb hs hd hsame hfact hK hM;exact yc rfl _ (Bw _ _ _ _ _ rfl (show a.eval (.tmp 41)=.bool true from hfact (12,41) (by decide) (by kernel_rfl)) (.bool true) (show a.eval (.tmp 47)=.bool true from hfact (18,47) (by decide) (by kernel_rfl)) w6) (hK _ _ (Below.refl _ _) rfl)
  ·refine Cb (slots:=[(0,29),(1,30),(2,31),(3,32),(4,33),(5,34),(6,35),(7,36),(8,37),(9,38),(10,39),(11,40),(12,41),(13,42),(14,43),(15,44),(16,45),(17,46),(18,47),(19,48),(20,6)]) (prop:=Jc ks pb sb tt A8 q c8) (by decide) (by decide) 49 rfl (by decide) (fun _ _ _ _ h hk=>Fc h hk) (i:=20) (s:=6) (by decide) rfl rfl ?_;intro a w6 K hb hs hd hsame hfact hK hM;exact yc rfl _ (Lb _ _ _ (.inr rfl) _ (show a.eval (.tmp 48)=.bool true from hfact (19,48) (by decide) (by kernel_rfl)) w6) (hK _ _ (Below.refl _ _) rfl)
 ·intro f hf a w10 hA;obtain rfl:=List.mem_singleton.1 hf;have hB10:=Ba hB9 hA.below;have sR:a.tmps.getD 6 undef=.bool true:=hA.fact (20,6) (by decide) (by kernel_rfl);obtain ⟨u,rfl⟩:=AF a hA.size hA.defers;change u 6=_ at sR;rw [sR];clear sR hA hB9;refine wpAny_done (by kernel_rfl) ?_ _;rename_i K hKK;simp only [Exit.then];refine hKK _ _ ?_;clear hKK K
  go_wp2
  go_ret
  exact ⟨rfl,hB10⟩
end Go.Proofs.YtoggkhjaghkpnaaGreatDoor
