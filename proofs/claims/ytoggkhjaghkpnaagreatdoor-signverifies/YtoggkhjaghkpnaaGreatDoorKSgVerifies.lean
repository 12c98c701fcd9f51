import Derived.Test.YtoggkhjaghkpnaaGreatDoorPart24
import Derived.Test.YtoggkhjaghkpnaaGreatDoorPart11
import Derived.Test.YtoggkhjaghkpnaaGreatDoorPart12
import Derived.Deep.Cut
import Derived.Test.YtoggkhjaghkpnaaGreatDoorPart21
set_option maxRecDepth 100000
set_option maxHeartbeats 8000000
namespace Go.Proofs.YtoggkhjaghkpnaaGreatDoor
open Go.RowKit
theorem Rr (A:Option Addr) (n c:Nat) (pb sb:List UInt8) (E:Value) (w:World)
 (Hn:Hid (300<n))
 (CAL:Hid (∀W,Bc E W→Calls Tryz.prog 5 #[] W (gvn (.bool true) W)))
 (hS:Bc E w):
 Calls Tryz.prog 4 #[Ca pb,Ca sb,.slice A n c] w (gvn (.bool true) w):=by
 go_enter Tryz.func4,Tryz.ntmps4;have i1:(300:Int)<(n:Int):=by have :=Hn.out;omega
 go_wp2_with (first
  |(refine Rb rfl 23 (.tmp 0) rfl pb rfl ?_
    intro w1 hb1 hvk1 hz;clear hz;have hB1:=hb1;have hgek:w.heap.size≤w.heap.size:=Xaj _;clear hb1;try simp only [La]
    skip)
  |(refine Ra rfl 27 (.tmp 1) rfl (sb.map Fa) rfl ?_
    intro w2 hb2 hvs2;have hB2:=Ba hB1 hb2;have hges:w.heap.size≤w1.heap.size:=hB1.size;have hvk2:=hvk1.on hb2;have hneks:=Vaj hvk1.lt;clear hB1 hvk1 hb2;try simp only [La]
    skip))
 generalize hqs:w1.heap.size=gs at *;clear hqs;refine (CAL.out w2 (hS.below hB2)).mono ?_;rintro e w3 ⟨rfl,hb3⟩;have hB3:=Ba hB2 hb3;have hvk3:=hvk2.on hb3;have hvs3:=hvs2.on hb3;clear hB2 hvk2 hvs2 hb3
 go_wp2
 go_ret
 exact ⟨rfl,hB3⟩
theorem BF (a:Act) (hs:a.tmps.size=22) (hd:a.defers= []):∃u:Nat→Value,a=⟨(u 0::u 1::u 2::u 3::u 4::u 5::u 6::u 7::u 8::u 9::u 10::u 11::u 12::u 13::u 14::u 15::u 16::u 17::u 18::u 19::u 20::u 21::[]).toArray,[]⟩:=by
 obtain ⟨u,h⟩:=Pg 22 a hs hd;exact ⟨u,h⟩
def xd (pb:List UInt8) (sb:List UInt8) (text:List UInt8) (A:Option Addr) (n:Nat) (c:Nat) (ok:Bool) (i:Nat) (v:Value) (w:World):Prop:=match i with
 |0=>v=Ca pb
 |1=>v=Ca sb
 |2=>v=.slice A n c
 |3=>∃g,v=.slice (some ⟨g,0,none⟩) 1 1∧Jd (some ⟨g,0,none⟩) [text] w
 |4=>v=.bool ok
 |5=>v=Ca pb
 |6=>v=Ca sb
 |7=>v=.slice A n c
 |8=>v=.bool ok
 |9=>v=.bool true
 |10=>v=.bool true
 |_=>True
theorem Yd {pb:List UInt8} {sb:List UInt8} {text:List UInt8} {A:Option Addr} {n:Nat} {c:Nat} {ok:Bool} {i:Nat} {v:Value} {w w':World} (h:xd pb sb text A n c ok i v w) (hk:It w w'):xd pb sb text A n c ok i v w':=by
 unfold xd at h ⊢
 split
 all_goals first
  |exact h
  |trivial
  |(obtain ⟨g,h1,h2⟩:=h
    exact ⟨g,h1,h2.kept hk⟩)
  |(obtain ⟨g,fr,h1,h2,h3⟩:=h
    obtain ⟨fr2,h4⟩:=hk.row _ _ _ _ h3;exact ⟨g,fr2,h1,h2,h4⟩)
theorem Iz (A:Option Addr) (n c:Nat) (pb sb text:List UInt8) (ok:Bool) (E:Value) (w:World)
 (Hpb:Hid (pb.length=32))
 (Hsb:Hid (sb.length=64))
 (Hn:Hid (n≤300))
 (CAL:Hid (∀W,Bc E W→Calls Tryz.prog 5 #[] W (gvn (.bool true) W)))
 (CV:Hid (∀g W,Jd (some ⟨g,0,none⟩) [text] W→Bc E W→Calls Tryz.prog 10 #[Ca pb,Ca sb,.slice (some ⟨g,0,none⟩) 1 1] W (gvn (.bool ok) W)))
 (CR:Hid (∀W,Xe A n c text W→Calls Tryz.prog 11 #[Ca pb,Ca sb,.slice A n c] W (gvn (.bool ok) W)))
 (hS:Bc E w)
 (hT:Xe A n c text w):
 Calls Tryz.prog 4 #[Ca pb,Ca sb,.slice A n c] w (gvn (.bool true) w):=by
 go_enter Tryz.func4,Tryz.ntmps4;have i1:¬(300:Int)<(n:Int):=by have :=Hn.out;omega
 go_wp2_with (first
  |(refine Rb rfl 23 (.tmp 0) rfl pb rfl ?_
    intro w1 hb1 hvk1 hz;clear hz;have hB1:=hb1;have hgek:w.heap.size≤w.heap.size:=Xaj _;clear hb1;try simp only [La]
    skip)
  |(refine Ra rfl 27 (.tmp 1) rfl (sb.map Fa) rfl ?_
    intro w2 hb2 hvs2;have hB2:=Ba hB1 hb2;have hges:w.heap.size≤w1.heap.size:=hB1.size;have hvk2:=hvk1.on hb2;have hneks:=Vaj hvk1.lt;clear hB1 hvk1 hb2;try simp only [La]
    skip))
 generalize hqs:w1.heap.size=gs at *;clear hqs;refine (CAL.out w2 (hS.below hB2)).mono ?_;rintro e w3 ⟨rfl,hb3⟩;have hB3:=Ba hB2 hb3;have hvk3:=hvk2.on hb3;have hvs3:=hvs2.on hb3;clear hB2 hvk2 hvs2 hb3;go_wp2_with fail
 have hB4:Below w.heap.size w w3.drew:=hB3.drew;have hvk4:=hvk3.drew;have hvs4:=hvs3.drew;refine wp_region_any (by kernel_rfl) ?_;show wpAny _ _ _ _ _ _ _ w3.drew;simp only [List.size_toArray,List.length_cons,List.length_nil,Nat.reduceAdd,Array.replicate_succ,Array.replicate_zero,List.push_toArray,List.nil_append,List.cons_append];clear hB3 hvk3 hvs3;generalize w3.drew=w4 at *;have rk:=hvk4.range 0 32;rw [List.drop_zero,Zaj (by rw [Uaj,Hpb.out];omega)] at rk;have rs:=hvs4.range 0 64;rw [List.drop_zero,Zaj (by rw [Uaj,Hsb.out];omega)] at rs;refine Lo (L:=[0,1,2,3,4,5,6,7,8,9,10]) (fins:=[(#[true,true,true,true,true,true,true,true,true,true,true],0)]) (Jt w4 _ [(0,12),(1,13),(2,14),(3,15),(4,16),(5,17),(6,18),(7,19),(8,20),(9,21),(10,6)] (xd pb sb text A n c ok)) ?_ ?_ 11 _ _ _ (by kernel_rfl) ⟨Below.refl _ _,rfl,rfl,fun _ _=>rfl,?_⟩;rotate_left 2
 ·intro p hp hl;simp only [List.mem_cons,List.not_mem_nil,or_false] at hp;rcases hp with rfl|rfl|rfl|rfl|rfl|rfl|rfl|rfl|rfl|rfl|rfl;all_goals cases hl
 ·intro i hi;simp only [List.mem_cons,List.not_mem_nil,or_false] at hi;rcases hi with rfl|rfl|rfl|rfl|rfl|rfl|rfl|rfl|rfl|rfl|rfl
  ·refine Cb (slots:=[(0,12),(1,13),(2,14),(3,15),(4,16),(5,17),(6,18),(7,19),(8,20),(9,21),(10,6)]) (prop:=xd pb sb text A n c ok) (by decide) (by decide) 22 rfl (by decide) (fun _ _ _ _ h hk=>Yd h hk) (i:=0) (s:=12) (by decide) rfl rfl ?_;intro a w6 K hb hs hd hsame hfact hK hM;exact Jf rfl 23 (.tmp 3) rfl (w.heap.size) 0 (hsame 3 (by decide)) (pb.map Fa) _ (Be rk hvk4.lt hb) Tryz.underlying23 rfl (by rw [Uaj,Hpb.out];exact za) (hK _ _ (Below.refl _ _) rfl)
  ·refine Cb (slots:=[(0,12),(1,13),(2,14),(3,15),(4,16),(5,17),(6,18),(7,19),(8,20),(9,21),(10,6)]) (prop:=xd pb sb text A n c ok) (by decide) (by decide) 22 rfl (by decide) (fun _ _ _ _ h hk=>Yd h hk) (i:=1) (s:=13) (by decide) rfl rfl ?_;intro a w6 K hb hs hd hsame hfact hK hM;exact Jf rfl 27 (.tmp 4) rfl gs 0 (hsame 4 (by decide)) (sb.map Fa) _ (Be rs hvs4.lt hb) Tryz.underlying27 rfl (by rw [Uaj,Hsb.out];exact Ie) (hK _ _ (Below.refl _ _) rfl)
  ·refine Cb (slots:=[(0,12),(1,13),(2,14),(3,15),(4,16),(5,17),(6,18),(7,19),(8,20),(9,21),(10,6)]) (prop:=xd pb sb text A n c ok) (by decide) (by decide) 22 rfl (by decide) (fun _ _ _ _ h hk=>Yd h hk) (i:=2) (s:=14) (by decide) rfl rfl ?_;intro a w6 K hb hs hd hsame hfact hK hM;exact yc rfl _ (Lb _ _ _ (.inl rfl) _ (show a.eval (.tmp 2)=.slice A n c from hsame 2 (by decide)) w6) (hK _ _ (Below.refl _ _) rfl)
  ·refine Cb (slots:=[(0,12),(1,13),(2,14),(3,15),(4,16),(5,17),(6,18),(7,19),(8,20),(9,21),(10,6)]) (prop:=xd pb sb text A n c ok) (by decide) (by decide) 22 rfl (by decide) (fun _ _ _ _ h hk=>Yd h hk) (i:=3) (s:=15) (by decide) rfl rfl ?_;intro a w6 K hb hs hd hsame hfact hK hM;have hT6:=hT.below (Ba hB4 hb);refine Nn rfl 36 1 [(0,.tmp 14)] rfl [(0,.slice A n c)] ?_ 24 ([.slice A n c].map Af) (Di _ _ _) (fun w' hb' hc'=>hK _ _ hb' ⟨_,rfl,Sg hc' (Of.mk hT6.1 (hT6.2.2.2.2.on hb') hT6.2.2.2.1 hT6.2.1 hT6.2.2.1)⟩);simp only [List.map_cons,List.map_nil];rw [(show a.eval (.tmp 14)=.slice A n c from hfact (2,14) (by decide) (by kernel_rfl))]
  ·refine Cb (slots:=[(0,12),(1,13),(2,14),(3,15),(4,16),(5,17),(6,18),(7,19),(8,20),(9,21),(10,6)]) (prop:=xd pb sb text A n c ok) (by decide) (by decide) 22 rfl (by decide) (fun _ _ _ _ h hk=>Yd h hk) (i:=4) (s:=16) (by decide) rfl rfl ?_;intro a w6 K hb hs hd hsame hfact hK hM;obtain ⟨g15,e15,hp15⟩:=hfact (3,15) (by decide) (by kernel_rfl);refine If rfl 10 [.tmp 12,.tmp 13,.tmp 15] _ rfl [Ca pb,Ca sb,.slice (some ⟨g15,0,none⟩) 1 1] ?_ (Ef Tryz.func10 (by kernel_rfl) (by kernel_rfl)) (CV.out g15 w6 hp15 (hS.below (Ba hB4 hb))) ?_
   ·simp only [List.map_cons,List.map_nil];rw [(show a.eval (.tmp 12)=Ca pb from hfact (0,12) (by decide) (by kernel_rfl)),(show a.eval (.tmp 13)=Ca sb from hfact (1,13) (by decide) (by kernel_rfl)),(show a.eval (.tmp 15)=.slice (some ⟨g15,0,none⟩) 1 1 from e15)]
   ·rintro e w7 ⟨rfl,hb7⟩;exact ⟨_,rfl,hK _ _ hb7 rfl⟩
  ·refine Cb (slots:=[(0,12),(1,13),(2,14),(3,15),(4,16),(5,17),(6,18),(7,19),(8,20),(9,21),(10,6)]) (prop:=xd pb sb text A n c ok) (by decide) (by decide) 22 rfl (by decide) (fun _ _ _ _ h hk=>Yd h hk) (i:=5) (s:=17) (by decide) rfl rfl ?_;intro a w6 K hb hs hd hsame hfact hK hM;exact Jf rfl 23 (.tmp 3) rfl (w.heap.size) 0 (hsame 3 (by decide)) (pb.map Fa) _ (Be rk hvk4.lt hb) Tryz.underlying23 rfl (by rw [Uaj,Hpb.out];exact za) (hK _ _ (Below.refl _ _) rfl)
  ·refine Cb (slots:=[(0,12),(1,13),(2,14),(3,15),(4,16),(5,17),(6,18),(7,19),(8,20),(9,21),(10,6)]) (prop:=xd pb sb text A n c ok) (by decide) (by decide) 22 rfl (by decide) (fun _ _ _ _ h hk=>Yd h hk) (i:=6) (s:=18) (by decide) rfl rfl ?_;intro a w6 K hb hs hd hsame hfact hK hM;exact Jf rfl 27 (.tmp 4) rfl gs 0 (hsame 4 (by decide)) (sb.map Fa) _ (Be rs hvs4.lt hb) Tryz.underlying27 rfl (by rw [Uaj,Hsb.out];exact Ie) (hK _ _ (Below.refl _ _) rfl)
  ·refine Cb (slots:=[(0,12),(1,13),(2,14),(3,15),(4,16),(5,17),(6,18),(7,19),(8,20),(9,21),(10,6)]) (prop:=xd pb sb text A n c ok) (by decide) (by decide) 22 rfl (by decide) (fun _ _ _ _ h hk=>Yd h hk) (i:=7) (s:=19) (by decide) rfl rfl ?_;intro a w6 K hb hs hd hsame hfact hK hM;exact yc rfl _ (Lb _ _ _ (.inl rfl) _ (show a.eval (.tmp 2)=.slice A n c from hsame 2 (by decide)) w6) (hK _ _ (Below.refl _ _) rfl)
  ·refine Cb (slots:=[(0,12),(1,13),(2,14),(3,15),(4,16),(5,17),(6,18),(7,19),(8,20),(9,21),(10,6)]) (prop:=xd pb sb text A n c ok) (by decide) (by decide) 22 rfl (by decide) (fun _ _ _ _ h hk=>Yd h hk) (i:=8) (s:=20) (by decide) rfl rfl ?_;intro a w6 K hb hs hd hsame hfact hK hM;refine If rfl 11 [.tmp 17,.tmp 18,.tmp 19] _ rfl [Ca pb,Ca sb,.slice A n c] ?_ (Ef Tryz.func11 (by kernel_rfl) (by kernel_rfl)) (CR.out w6 (hT.below (Ba hB4 hb))) ?_
   ·simp only [List.map_cons,List.map_nil];rw [(show a.eval (.tmp 17)=Ca pb from hfact (5,17) (by decide) (by kernel_rfl)),(show a.eval (.tmp 18)=Ca sb from hfact (6,18) (by decide) (by kernel_rfl)),(show a.eval (.tmp 19)=.slice A n c from hfact (7,19) (by decide) (by kernel_rfl))]
   ·rintro e w7 ⟨rfl,hb7⟩;exact ⟨_,rfl,hK _ _ hb7 rfl⟩
  ·refine Cb (slots:=[(0,12),(1,13),(2,14),(3,15),(4,16),(5,17),(6,18),(7,19),(8,20),(9,21),(10,6)]) (prop:=xd pb sb text A n c ok) (by decide) (by decide) 22 rfl (by decide) (fun _ _ _ _ h hk=>Yd h hk) (i:=9) (s:=21) (by decide) rfl rfl ?_;intro a w6 K hb hs hd hsame hfact hK hM;exact yc rfl _ (Ff _ _ _ _ _ _ _ rfl (.bool ok) (.bool ok) _ (show a.eval (.tmp 16)=.bool ok from hfact (4,16) (by decide) (by kernel_rfl)) (show a.eval (.tmp 20)=.bool ok from hfact (8,20) (by decide) (by kernel_rfl)) w6 (UT _ _ _ _ _ w6) (TY _ w6)) (hK _ _ (Below.refl _ _) rfl)
  ·refine Cb (slots:=[(0,12),(1,13),(2,14),(3,15),(4,16),(5,17),(6,18),(7,19),(8,20),(9,21),(10,6)]) (prop:=xd pb sb text A n c ok) (by decide) (by decide) 22 rfl (by decide) (fun _ _ _ _ h hk=>Yd h hk) (i:=10) (s:=6) (by decide) rfl rfl ?_;intro a w6 K hb hs hd hsame hfact hK hM;exact yc rfl _ (Lb _ _ _ (.inr rfl) _ (show a.eval (.tmp 21)=.bool true from hfact (9,21) (by decide) (by kernel_rfl)) w6) (hK _ _ (Below.refl _ _) rfl)
 ·intro f hf a w5 hA;obtain rfl:=List.mem_singleton.1 hf;have hB5:=Ba hB4 hA.below;have sR:a.tmps.getD 6 undef=.bool true:=hA.fact (10,6) (by decide) (by kernel_rfl);obtain ⟨u,rfl⟩:=BF a hA.size hA.defers;change u 6=_ at sR;rw [sR];clear sR hA hB4;refine wpAny_done (by kernel_rfl) ?_ _;rename_i K hKK;simp only [Exit.then];refine hKK _ _ ?_;clear hKK K
  go_wp2
  go_ret
  exact ⟨rfl,hB5⟩
end Go.Proofs.YtoggkhjaghkpnaaGreatDoor
