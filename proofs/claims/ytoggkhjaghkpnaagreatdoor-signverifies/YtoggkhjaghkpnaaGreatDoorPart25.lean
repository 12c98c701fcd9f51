/- Part 25 of what the laws of this seat share: KSgAlive, KScAlive, QInts, QEven, QAdd, QTimes, QHalved, QMod, ALess, ARegion. -/
import Derived.Deep.Cut
import Derived.Deep.WholeRow
import Derived.IntWalk
import Derived.OrdersHeld
import Derived.Test.YtoggkhjaghkpnaaGreatDoorPart24
set_option maxRecDepth 100000
set_option maxHeartbeats 8000000
namespace Go.Proofs.YtoggkhjaghkpnaaGreatDoor
open Go.RowKit
theorem VE (a:Act) (hs:a.tmps.size=24) (hd:a.defers= []):∃u:Nat→Value,a=⟨(u 0::u 1::u 2::u 3::u 4::u 5::u 6::u 7::u 8::u 9::u 10::u 11::u 12::u 13::u 14::u 15::u 16::u 17::u 18::u 19::u 20::u 21::u 22::u 23::[]).toArray,[]⟩:=by
 obtain ⟨u,h⟩:=Pg 24 a hs hd;exact ⟨u,h⟩
def qb (B:Nat) (k1:List UInt8) (k2:List UInt8) (p1:List UInt8) (p2:List UInt8) (sb:List UInt8) (i:Nat) (v:Value) (w:World):Prop:=match i with
 |0=>v=Ca k1
 |1=>v=Ca p1
 |2=>v=Ca sb
 |3=>∃(g:Nat) (fr:Nat×Nat),v=.slice (some ⟨g,0,none⟩) 1 1∧B≤g∧w.heap[g]? =some (.cells ([97].map Fa).toArray 5 fr)
 |4=>∃(g:Nat) (fr:Nat×Nat),v=.slice (some ⟨g,0,none⟩) 1 1∧B≤g∧w.heap[g]? =some (.cells ([97].map Fa).toArray 5 fr)
 |5=>∃g,v=.slice (some ⟨g,0,none⟩) 1 1∧Jd (some ⟨g,0,none⟩) [[97]] w
 |6=>v=.bool true
 |7=>v=.bool true
 |8=>v=Ca k2
 |9=>v=Ca p2
 |10=>v=Ca sb
 |11=>∃(g:Nat) (fr:Nat×Nat),v=.slice (some ⟨g,0,none⟩) 1 1∧B≤g∧w.heap[g]? =some (.cells ([97].map Fa).toArray 5 fr)
 |12=>∃(g:Nat) (fr:Nat×Nat),v=.slice (some ⟨g,0,none⟩) 1 1∧B≤g∧w.heap[g]? =some (.cells ([97].map Fa).toArray 5 fr)
 |13=>∃g,v=.slice (some ⟨g,0,none⟩) 1 1∧Jd (some ⟨g,0,none⟩) [[97]] w
 |14=>v=.bool false
 |15=>v=.bool true
 |16=>v=.bool true
 |17=>v=.bool true
 |_=>True
theorem Wb {B:Nat} {k1:List UInt8} {k2:List UInt8} {p1:List UInt8} {p2:List UInt8} {sb:List UInt8} {i:Nat} {v:Value} {w w':World} (h:qb B k1 k2 p1 p2 sb i v w) (hk:It w w'):qb B k1 k2 p1 p2 sb i v w':=by
 unfold qb at h ⊢
 split
 all_goals first
  |exact h
  |trivial
  |(obtain ⟨g,h1,h2⟩:=h
    exact ⟨g,h1,h2.kept hk⟩)
  |(obtain ⟨g,fr,h1,h2,h3⟩:=h
    obtain ⟨fr2,h4⟩:=hk.row _ _ _ _ h3;exact ⟨g,fr2,h1,h2,h4⟩)
theorem FK (k1 k2 p1 p2 sb:List UInt8) (E:Value) (w:World)
 (Hsb:Hid (sb.length=64))
 (BK1:∀w,(Instr.build 23 #[(0,.int .u8 1)]).run Tryz.prog w=.ok (Ca k1) w)
 (BK2:∀w,(Instr.build 23 #[(0,.int .u8 2)]).run Tryz.prog w=.ok (Ca k2) w)
 (CS:Hid (∀g W,Jd (some ⟨g,0,none⟩) [[97]] W→Bc E W→Calls Tryz.prog 6 #[Ca k1,.slice (some ⟨g,0,none⟩) 1 1] W (gvn (Ca sb) W)))
 (CP1:Hid (∀W,Bc E W→Calls Tryz.prog 7 #[Ca k1] W (gvn (Ca p1) W)))
 (CP2:Hid (∀W,Bc E W→Calls Tryz.prog 7 #[Ca k2] W (gvn (Ca p2) W)))
 (CV1:Hid (∀g W,Jd (some ⟨g,0,none⟩) [[97]] W→Bc E W→Calls Tryz.prog 10 #[Ca p1,Ca sb,.slice (some ⟨g,0,none⟩) 1 1] W (gvn (.bool true) W)))
 (CV2:Hid (∀g W,Jd (some ⟨g,0,none⟩) [[97]] W→Bc E W→Calls Tryz.prog 10 #[Ca p2,Ca sb,.slice (some ⟨g,0,none⟩) 1 1] W (gvn (.bool false) W)))
 (hS:Bc E w):
 Calls Tryz.prog 5 #[] w (gvn (.bool true) w):=by
 go_enter Tryz.func5,Tryz.ntmps5;go_wp2_with (first
  |(refine Eb rfl 23 _ rfl [(0,.int .u8 1)] rfl _ BK1 ?_
    try simp only [La]
    skip)
  |(refine Ji rfl 24 1 [(0,.const (.int .u8 97))] rfl [(0,.int .u8 97)] rfl 5 ([97].map Fa) (LD 97) ?_
    intro w1 hb1 hl1;try simp only [La]
    skip)
  |(refine TT rfl (.tmp 3) rfl w.heap.size 1 1 _ (0,0) rfl hl1 ?_
    intro w2 hbt2 hk2;have hB2:Below w.heap.size w w2:=hb1.trans (hbt2.below (Xaj _) hb1.size);obtain ⟨fr2,hl2⟩:=hk2.row _ _ _ _ hl1;clear hb1 hl1 hbt2 hk2;try simp only [La]
    skip)
  |(refine Ji rfl 36 1 [(0,.tmp 4)] rfl [(0,.slice (some ⟨w.heap.size,0,none⟩) 1 1)] rfl 24 ([.slice (some ⟨w.heap.size,0,none⟩) 1 1].map Af) (Di _ _ _) ?_
    intro w3 hb3 hl3;have hB3:=Ba hB2 hb3;have hP3:Jd (some ⟨w2.heap.size,0,none⟩) [[97]] w3:=Sg hl3 (Of.mk (c:=1) rfl ((KD (l:=[97]) hl2).on hb3) (fun h=>by cases h) (Xaj _) (by unfold maxLen;omega));clear hB2 hl2 hb3 hl3;try simp only [La]
    skip))
 refine (CS.out _ w3 hP3 (hS.below hB3)).mono ?_;rintro e w4 ⟨rfl,hb4⟩;clear hP3;generalize w2.heap.size=gq at *;have hB4:=Ba hB3 hb4;clear hB3 hb4;go_wp2_with (first
  |(refine Db rfl rfl 27 (.tmp 1) (.tmp 6) rfl rfl 64 qJ (sb.map Fa) rfl rfl Kq rfl Ie (by rw [Uaj,Hsb.out]) (Ab _) ?_
    intro w5 hb5 hvs5;have hB5:=Ba hB4 hb5;have hges:w.heap.size≤w4.heap.size:=hB4.size;clear hB4 hb5;try simp only [La]
    skip))
 generalize hqs:w4.heap.size=gs at *;clear hqs;have hB6:Below w.heap.size w w5.drew:=hB5.drew;have hvs6:=hvs5.drew;refine wp_region_any (by kernel_rfl) ?_;show wpAny _ _ _ _ _ _ _ w5.drew;simp only [List.size_toArray,List.length_cons,List.length_nil,Nat.reduceAdd,Array.replicate_succ,Array.replicate_zero,List.push_toArray,List.nil_append,List.cons_append];clear hB5 hvs5;generalize w5.drew=w6 at *;have rs:=hvs6.range 0 64;rw [List.drop_zero,Zaj (by rw [Uaj,Hsb.out];omega)] at rs;refine Lo (L:=[0,1,2,3,4,5,6,7,8,9,10,11,12,13,14,15,16,17]) (fins:=[(#[true,true,true,true,true,true,true,true,true,true,true,true,true,true,true,true,true,true],0)]) (Jt w6 _ [(0,7),(1,8),(2,9),(3,10),(4,11),(5,12),(6,13),(7,14),(8,15),(9,16),(10,17),(11,18),(12,19),(13,20),(14,21),(15,22),(16,23),(17,0)] (qb w6.heap.size k1 k2 p1 p2 sb)) ?_ ?_ 18 _ _ _ (by kernel_rfl) ⟨Below.refl _ _,rfl,rfl,fun _ _=>rfl,?_⟩;rotate_left 2
 ·intro p hp hl;simp only [List.mem_cons,List.not_mem_nil,or_false] at hp;rcases hp with rfl|rfl|rfl|rfl|rfl|rfl|rfl|rfl|rfl|rfl|rfl|rfl|rfl|rfl|rfl|rfl|rfl|rfl;all_goals cases hl
 ·intro i hi;simp only [List.mem_cons,List.not_mem_nil,or_false] at hi;rcases hi with rfl|rfl|rfl|rfl|rfl|rfl|rfl|rfl|rfl|rfl|rfl|rfl|rfl|rfl|rfl|rfl|rfl|rfl
  ·refine Cb (slots:=[(0,7),(1,8),(2,9),(3,10),(4,11),(5,12),(6,13),(7,14),(8,15),(9,16),(10,17),(11,18),(12,19),(13,20),(14,21),(15,22),(16,23),(17,0)]) (prop:=qb w6.heap.size k1 k2 p1 p2 sb) (by decide) (by decide) 24 rfl (by decide) (fun _ _ _ _ h hk=>Wb h hk) (i:=0) (s:=7) (by decide) rfl rfl ?_;intro a w6 K hb hs hd hsame hfact hK hM;exact yc rfl _ (Vd _ _ _ [(0,.const (.int .u8 1))] rfl [(0,.int .u8 1)] rfl _ w6 (BK1 w6)) (hK _ _ (Below.refl _ _) rfl)
  ·refine Cb (slots:=[(0,7),(1,8),(2,9),(3,10),(4,11),(5,12),(6,13),(7,14),(8,15),(9,16),(10,17),(11,18),(12,19),(13,20),(14,21),(15,22),(16,23),(17,0)]) (prop:=qb w6.heap.size k1 k2 p1 p2 sb) (by decide) (by decide) 24 rfl (by decide) (fun _ _ _ _ h hk=>Wb h hk) (i:=1) (s:=8) (by decide) rfl rfl ?_;intro a w6 K hb hs hd hsame hfact hK hM;refine If rfl 7 [.tmp 7] _ rfl [Ca k1] ?_ (Ef Tryz.func7 (by kernel_rfl) (by kernel_rfl)) (CP1.out w6 (hS.below (Ba hB6 hb))) ?_
   ·simp only [List.map_cons,List.map_nil];rw [(show a.eval (.tmp 7)=Ca k1 from hfact (0,7) (by decide) (by kernel_rfl))]
   ·rintro e w7 ⟨rfl,hb7⟩;exact ⟨_,rfl,hK _ _ hb7 rfl⟩
  ·refine Cb (slots:=[(0,7),(1,8),(2,9),(3,10),(4,11),(5,12),(6,13),(7,14),(8,15),(9,16),(10,17),(11,18),(12,19),(13,20),(14,21),(15,22),(16,23),(17,0)]) (prop:=qb w6.heap.size k1 k2 p1 p2 sb) (by decide) (by decide) 24 rfl (by decide) (fun _ _ _ _ h hk=>Wb h hk) (i:=2) (s:=9) (by decide) rfl rfl ?_;intro a w6 K hb hs hd hsame hfact hK hM;exact Jf rfl 27 (.tmp 1) rfl gs 0 (hsame 1 (by decide)) (sb.map Fa) _ (Be rs hvs6.lt hb) Tryz.underlying27 rfl (by rw [Uaj,Hsb.out];exact Ie) (hK _ _ (Below.refl _ _) rfl)
  ·refine Cb (slots:=[(0,7),(1,8),(2,9),(3,10),(4,11),(5,12),(6,13),(7,14),(8,15),(9,16),(10,17),(11,18),(12,19),(13,20),(14,21),(15,22),(16,23),(17,0)]) (prop:=qb w6.heap.size k1 k2 p1 p2 sb) (by decide) (by decide) 24 rfl (by decide) (fun _ _ _ _ h hk=>Wb h hk) (i:=3) (s:=10) (by decide) rfl rfl ?_;intro a w6 K hb hs hd hsame hfact hK hM;exact Nn rfl 24 1 [(0,.const (.int .u8 97))] rfl [(0,.int .u8 97)] rfl 5 ([97].map Fa) (LD 97) (fun w' hb' hc'=>hK _ _ hb' ⟨_,(0,0),rfl,hb.size,hc'⟩)
  ·refine Cb (slots:=[(0,7),(1,8),(2,9),(3,10),(4,11),(5,12),(6,13),(7,14),(8,15),(9,16),(10,17),(11,18),(12,19),(13,20),(14,21),(15,22),(16,23),(17,0)]) (prop:=qb w6.heap.size k1 k2 p1 p2 sb) (by decide) (by decide) 24 rfl (by decide) (fun _ _ _ _ h hk=>Wb h hk) (i:=4) (s:=11) (by decide) rfl rfl ?_;intro a w6 K hb hs hd hsame hfact hK hM;obtain ⟨g10,fr10,e10,hg10,hh10⟩:=hfact (3,10) (by decide) (by kernel_rfl);refine zO rfl (.tmp 10) rfl g10 1 1 _ fr10 e10 hh10 (fun w' hbt hkp=>?_);obtain ⟨fr2,h2⟩:=hkp.row _ _ _ _ hh10;exact hM _ _ (hb.trans (hbt.below hg10 hb.size)) hkp ⟨g10,fr2,rfl,hg10,h2⟩
  ·refine Cb (slots:=[(0,7),(1,8),(2,9),(3,10),(4,11),(5,12),(6,13),(7,14),(8,15),(9,16),(10,17),(11,18),(12,19),(13,20),(14,21),(15,22),(16,23),(17,0)]) (prop:=qb w6.heap.size k1 k2 p1 p2 sb) (by decide) (by decide) 24 rfl (by decide) (fun _ _ _ _ h hk=>Wb h hk) (i:=5) (s:=12) (by decide) rfl rfl ?_;intro a w6 K hb hs hd hsame hfact hK hM;obtain ⟨g11,fr11,e11,hg11,hh11⟩:=hfact (4,11) (by decide) (by kernel_rfl);refine Nn rfl 36 1 [(0,.tmp 11)] rfl [(0,.slice (some ⟨g11,0,none⟩) 1 1)] ?_ 24 ([.slice (some ⟨g11,0,none⟩) 1 1].map Af) (Di _ _ _) (fun w' hb' hc'=>hK _ _ hb' ⟨_,rfl,Sg hc' (Of.mk (c:=1) rfl ((KD hh11).on hb') (fun h=>by cases h) (Xaj _) (by unfold maxLen;omega))⟩);simp only [List.map_cons,List.map_nil];rw [(show a.eval (.tmp 11)=.slice (some ⟨g11,0,none⟩) 1 1 from e11)]
  ·refine Cb (slots:=[(0,7),(1,8),(2,9),(3,10),(4,11),(5,12),(6,13),(7,14),(8,15),(9,16),(10,17),(11,18),(12,19),(13,20),(14,21),(15,22),(16,23),(17,0)]) (prop:=qb w6.heap.size k1 k2 p1 p2 sb) (by decide) (by decide) 24 rfl (by decide) (fun _ _ _ _ h hk=>Wb h hk) (i:=6) (s:=13) (by decide) rfl rfl ?_;intro a w6 K hb hs hd hsame hfact hK hM;obtain ⟨g12,e12,hp12⟩:=hfact (5,12) (by decide) (by kernel_rfl);refine If rfl 10 [.tmp 8,.tmp 9,.tmp 12] _ rfl [Ca p1,Ca sb,.slice (some ⟨g12,0,none⟩) 1 1] ?_ (Ef Tryz.func10 (by kernel_rfl) (by kernel_rfl)) (CV1.out g12 w6 hp12 (hS.below (Ba hB6 hb))) ?_
   ·simp only [List.map_cons,List.map_nil];rw [(show a.eval (.tmp 8)=Ca p1 from hfact (1,8) (by decide) (by kernel_rfl)),(show a.eval (.tmp 9)=Ca sb from hfact (2,9) (by decide) (by kernel_rfl)),(show a.eval (.tmp 12)=.slice (some ⟨g12,0,none⟩) 1 1 from e12)]
   ·rintro e w7 ⟨rfl,hb7⟩;exact ⟨_,rfl,hK _ _ hb7 rfl⟩
  ·refine Cb (slots:=[(0,7),(1,8),(2,9),(3,10),(4,11),(5,12),(6,13),(7,14),(8,15),(9,16),(10,17),(11,18),(12,19),(13,20),(14,21),(15,22),(16,23),(17,0)]) (prop:=qb w6.heap.size k1 k2 p1 p2 sb) (by decide) (by decide) 24 rfl (by decide) (fun _ _ _ _ h hk=>Wb h hk) (i:=7) (s:=14) (by decide) rfl rfl ?_;intro a w6 K hb hs hd hsame hfact hK hM;exact yc rfl _ (Lb _ _ _ (.inl rfl) _ (show a.eval (.tmp 13)=.bool true from hfact (6,13) (by decide) (by kernel_rfl)) w6) (hK _ _ (Below.refl _ _) rfl)
  ·refine Cb (slots:=[(0,7),(1,8),(2,9),(3,10),(4,11),(5,12),(6,13),(7,14),(8,15),(9,16),(10,17),(11,18),(12,19),(13,20),(14,21),(15,22),(16,23),(17,0)]) (prop:=qb w6.heap.size k1 k2 p1 p2 sb) (by decide) (by decide) 24 rfl (by decide) (fun _ _ _ _ h hk=>Wb h hk) (i:=8) (s:=15) (by decide) rfl rfl ?_;intro a w6 K hb hs hd hsame hfact hK hM;refine Vc (Rd (j:=7) (s:=14) rfl rfl rfl (hfact (7,14) (by decide) (by kernel_rfl))) ?_;exact yc rfl _ (Vd _ _ _ [(0,.const (.int .u8 2))] rfl [(0,.int .u8 2)] rfl _ w6 (BK2 w6)) (hK _ _ (Below.refl _ _) rfl)
  ·refine Cb (slots:=[(0,7),(1,8),(2,9),(3,10),(4,11),(5,12),(6,13),(7,14),(8,15),(9,16),(10,17),(11,18),(12,19),(13,20),(14,21),(15,22),(16,23),(17,0)]) (prop:=qb w6.heap.size k1 k2 p1 p2 sb) (by decide) (by decide) 24 rfl (by decide) (fun _ _ _ _ h hk=>Wb h hk) (i:=9) (s:=16) (by decide) rfl rfl ?_;intro a w6 K hb hs hd hsame hfact hK hM;refine Vc (Rd (j:=7) (s:=14) rfl rfl rfl (hfact (7,14) (by decide) (by kernel_rfl))) ?_;refine If rfl 7 [.tmp 15] _ rfl [Ca k2] ?_ (Ef Tryz.func7 (by kernel_rfl) (by kernel_rfl)) (CP2.out w6 (hS.below (Ba hB6 hb))) ?_
   ·simp only [List.map_cons,List.map_nil];rw [(show a.eval (.tmp 15)=Ca k2 from hfact (8,15) (by decide) (by kernel_rfl))]
   ·rintro e w7 ⟨rfl,hb7⟩;exact ⟨_,rfl,hK _ _ hb7 rfl⟩
  ·refine Cb (slots:=[(0,7),(1,8),(2,9),(3,10),(4,11),(5,12),(6,13),(7,14),(8,15),(9,16),(10,17),(11,18),(12,19),(13,20),(14,21),(15,22),(16,23),(17,0)]) (prop:=qb w6.heap.size k1 k2 p1 p2 sb) (by decide) (by decide) 24 rfl (by decide) (fun _ _ _ _ h hk=>Wb h hk) (i:=10) (s:=17) (by decide) rfl rfl ?_;intro a w6 K hb hs hd hsame hfact hK hM;refine Vc (Rd (j:=7) (s:=14) rfl rfl rfl (hfact (7,14) (by decide) (by kernel_rfl))) ?_;exact Jf rfl 27 (.tmp 1) rfl gs 0 (hsame 1 (by decide)) (sb.map Fa) _ (Be rs hvs6.lt hb) Tryz.underlying27 rfl (by rw [Uaj,Hsb.out];exact Ie) (hK _ _ (Below.refl _ _) rfl)
  ·refine Cb (slots:=[(0,7),(1,8),(2,9),(3,10),(4,11),(5,12),(6,13),(7,14),(8,15),(9,16),(10,17),(11,18),(12,19),(13,20),(14,21),(15,22),(16,23),(17,0)]) (prop:=qb w6.heap.size k1 k2 p1 p2 sb) (by decide) (by decide) 24 rfl (by decide) (fun _ _ _ _ h hk=>Wb h hk) (i:=11) (s:=18) (by decide) rfl rfl ?_;intro a w6 K hb hs hd hsame hfact hK hM;refine Vc (Rd (j:=7) (s:=14) rfl rfl rfl (hfact (7,14) (by decide) (by kernel_rfl))) ?_;exact Nn rfl 24 1 [(0,.const (.int .u8 97))] rfl [(0,.int .u8 97)] rfl 5 ([97].map Fa) (LD 97) (fun w' hb' hc'=>hK _ _ hb' ⟨_,(0,0),rfl,hb.size,hc'⟩)
  ·refine Cb (slots:=[(0,7),(1,8),(2,9),(3,10),(4,11),(5,12),(6,13),(7,14),(8,15),(9,16),(10,17),(11,18),(12,19),(13,20),(14,21),(15,22),(16,23),(17,0)]) (prop:=qb w6.heap.size k1 k2 p1 p2 sb) (by decide) (by decide) 24 rfl (by decide) (fun _ _ _ _ h hk=>Wb h hk) (i:=12) (s:=19) (by decide) rfl rfl ?_;intro a w6 K hb hs hd hsame hfact hK hM;refine Vc (Rd (j:=7) (s:=14) rfl rfl rfl (hfact (7,14) (by decide) (by kernel_rfl))) ?_;obtain ⟨g18,fr18,e18,hg18,hh18⟩:=hfact (11,18) (by decide) (by kernel_rfl);refine zO rfl (.tmp 18) rfl g18 1 1 _ fr18 e18 hh18 (fun w' hbt hkp=>?_);obtain ⟨fr2,h2⟩:=hkp.row _ _ _ _ hh18;exact hM _ _ (hb.trans (hbt.below hg18 hb.size)) hkp ⟨g18,fr2,rfl,hg18,h2⟩
  ·refine Cb (slots:=[(0,7),(1,8),(2,9),(3,10),(4,11),(5,12),(6,13),(7,14),(8,15),(9,16),(10,17),(11,18),(12,19),(13,20),(14,21),(15,22),(16,23),(17,0)]) (prop:=qb w6.heap.size k1 k2 p1 p2 sb) (by decide) (by decide) 24 rfl (by decide) (fun _ _ _ _ h hk=>Wb h hk) (i:=13) (s:=20) (by decide) rfl rfl ?_;intro a w6 K hb hs hd hsame hfact hK hM;refine Vc (Rd (j:=7) (s:=14) rfl rfl rfl (hfact (7,14) (by decide) (by kernel_rfl))) ?_;obtain ⟨g19,fr19,e19,hg19,hh19⟩:=hfact (12,19) (by decide) (by kernel_rfl);refine Nn rfl 36 1 [(0,.tmp 19)] rfl [(0,.slice (some ⟨g19,0,none⟩) 1 1)] ?_ 24 ([.slice (some ⟨g19,0,none⟩) 1 1].map Af) (Di _ _ _) (fun w' hb' hc'=>hK _ _ hb' ⟨_,rfl,Sg hc' (Of.mk (c:=1) rfl ((KD hh19).on hb') (fun h=>by cases h) (Xaj _) (by unfold maxLen;omega))⟩);simp only [List.map_cons,List.map_nil];rw [(show a.eval (.tmp 19)=.slice (some ⟨g19,0,none⟩) 1 1 from e19)]
  ·refine Cb (slots:=[(0,7),(1,8),(2,9),(3,10),(4,11),(5,12),(6,13),(7,14),(8,15),(9,16),(10,17),(11,18),(12,19),(13,20),(14,21),(15,22),(16,23),(17,0)]) (prop:=qb w6.heap.size k1 k2 p1 p2 sb) (by decide) (by decide) 24 rfl (by decide) (fun _ _ _ _ h hk=>Wb h hk) (i:=14) (s:=21) (by decide) rfl rfl ?_;intro a w6 K hb hs hd hsame hfact hK hM;refine Vc (Rd (j:=7) (s:=14) rfl rfl rfl (hfact (7,14) (by decide) (by kernel_rfl))) ?_;obtain ⟨g20,e20,hp20⟩:=hfact (13,20) (by decide) (by kernel_rfl);refine If rfl 10 [.tmp 16,.tmp 17,.tmp 20] _ rfl [Ca p2,Ca sb,.slice (some ⟨g20,0,none⟩) 1 1] ?_ (Ef Tryz.func10 (by kernel_rfl) (by kernel_rfl)) (CV2.out g20 w6 hp20 (hS.below (Ba hB6 hb))) ?_
   ·simp only [List.map_cons,List.map_nil];rw [(show a.eval (.tmp 16)=Ca p2 from hfact (9,16) (by decide) (by kernel_rfl)),(show a.eval (.tmp 17)=Ca sb from hfact (10,17) (by decide) (by kernel_rfl)),(show a.eval (.tmp 20)=.slice (some ⟨g20,0,none⟩) 1 1 from e20)]
   ·rintro e w7 ⟨rfl,hb7⟩;exact ⟨_,rfl,hK _ _ hb7 rfl⟩
  ·refine Cb (slots:=[(0,7),(1,8),(2,9),(3,10),(4,11),(5,12),(6,13),(7,14),(8,15),(9,16),(10,17),(11,18),(12,19),(13,20),(14,21),(15,22),(16,23),(17,0)]) (prop:=qb w6.heap.size k1 k2 p1 p2 sb) (by decide) (by decide) 24 rfl (by decide) (fun _ _ _ _ h hk=>Wb h hk) (i:=15) (s:=22) (by decide) rfl rfl ?_;intro a w6 K hb hs hd hsame hfact hK hM;refine Vc (Rd (j:=7) (s:=14) rfl rfl rfl (hfact (7,14) (by decide) (by kernel_rfl))) ?_;exact yc rfl _ (Om _ _ _ _ rfl (false) (show a.eval (.tmp 21)=.bool false from hfact (14,21) (by decide) (by kernel_rfl)) w6) (hK _ _ (Below.refl _ _) rfl)
  ·refine Cb (slots:=[(0,7),(1,8),(2,9),(3,10),(4,11),(5,12),(6,13),(7,14),(8,15),(9,16),(10,17),(11,18),(12,19),(13,20),(14,21),(15,22),(16,23),(17,0)]) (prop:=qb w6.heap.size k1 k2 p1 p2 sb) (by decide) (by decide) 24 rfl (by decide) (fun _ _ _ _ h hk=>Wb h hk) (i:=16) (s:=23) (by decide) rfl rfl ?_;intro a w6 K hb hs hd hsame hfact hK hM;exact yc rfl _ (Bw _ _ _ _ _ rfl (show a.eval (.tmp 14)=.bool true from hfact (7,14) (by decide) (by kernel_rfl)) (.bool true) (show a.eval (.tmp 22)=.bool true from hfact (15,22) (by decide) (by kernel_rfl)) w6) (hK _ _ (Below.refl _ _) rfl)
  ·refine Cb (slots:=[(0,7),(1,8),(2,9),(3,10),(4,11),(5,12),(6,13),(7,14),(8,15),(9,16),(10,17),(11,18),(12,19),(13,20),(14,21),(15,22),(16,23),(17,0)]) (prop:=qb w6.heap.size k1 k2 p1 p2 sb) (by decide) (by decide) 24 rfl (by decide) (fun _ _ _ _ h hk=>Wb h hk) (i:=17) (s:=0) (by decide) rfl rfl ?_;intro a w6 K hb hs hd hsame hfact hK hM;exact yc rfl _ (Lb _ _ _ (.inr rfl) _ (show a.eval (.tmp 23)=.bool true from hfact (16,23) (by decide) (by kernel_rfl)) w6) (hK _ _ (Below.refl _ _) rfl)
 ·intro f hf a w7 hA;obtain rfl:=List.mem_singleton.1 hf;have hB7:=Ba hB6 hA.below;have sR:a.tmps.getD 0 undef=.bool true:=hA.fact (17,0) (by decide) (by kernel_rfl);obtain ⟨u,rfl⟩:=VE a hA.size hA.defers;change u 0=_ at sR;rw [sR];clear sR hA hB6;refine wpAny_done (by kernel_rfl) ?_ _;rename_i K hKK;simp only [Exit.then];refine hKK _ _ ?_;clear hKK K
  go_wp2
  go_ret
  exact ⟨rfl,hB7⟩
end Go.Proofs.YtoggkhjaghkpnaaGreatDoor
namespace Go.Proofs.YtoggkhjaghkpnaaGreatDoor
open Go.RowKit
abbrev Gc (x:Nat):Value:=.int .i64 (x:Int)
def Ah (w:World) (B:Nat) (A:Option Addr) (ds:List Nat):Prop:=
 ds= []∨∃b off,A=some ⟨b,off,none⟩∧b<B∧∀j x,ds[j]? =some x→w.cell? ⟨b,off+j,none⟩=some (Gc x)
section
variable {w w':World} {B B':Nat} {A:Option Addr} {ds:List Nat}
theorem Ah.at (h:Ah w B A ds) (k:Nat) (hk:k<ds.length):∃b off,A=some ⟨b,off,none⟩∧b<B∧w.cell? ⟨b,off+k,none⟩=some (Gc (ds.getD k 0)):=by
 rcases h with rfl|⟨b,off,hA,hb,hc⟩
 ·simp at hk
 ·exact ⟨b,off,hA,hb,hc k _ (by rw [Yaj,xaj hk];rfl)⟩
theorem Ah.more (h:Ah w B A ds) (hB:B≤B'):Ah w B' A ds:=by
 rcases h with rfl|⟨b,off,hA,hb,hc⟩
 ·exact .inl rfl
 ·exact .inr ⟨b,off,hA,by omega,hc⟩
theorem Ah.below (h:Ah w B A ds) (hb:Below B w w'):Ah w' B A ds:=by
 rcases h with rfl|⟨b,off,hA,hlt,hc⟩
 ·exact .inl rfl
 ·exact .inr ⟨b,off,hA,hlt,fun j u hu=>(hb.cell hlt).trans (hc j u hu)⟩
theorem Ah.on (h:Ah w w.heap.size A ds) (hb:Below w.heap.size w w'):Ah w' w'.heap.size A ds:=(h.below hb).more hb.size
theorem Ah.but {b:Nat} (h:Ah w B A ds) (hb:But b w w') (hB:B≤b) (hw:B≤w.heap.size):Ah w' B A ds:=by
 rcases h with rfl|⟨b',off,hA,hlt,hc⟩
 ·exact .inl rfl
 ·exact .inr ⟨b',off,hA,hlt,fun j u hu=>(World.cell?_of_block (w:=w) (hb.block b' (by omega) (by omega))).trans (hc j u hu)⟩
theorem Ah.take (h:Ah w B A ds) (n:Nat):Ah w B A (ds.take n):=by
 rcases h with rfl|⟨b,off,hA,hb,hc⟩
 ·exact .inl (by simp)
 ·refine .inr ⟨b,off,hA,hb,fun j u hu=>hc j u ?_⟩;rw [List.getElem?_take] at hu
  split at hu
  ·exact hu
  ·cases hu
end
theorem qO:(Tryz.prog.info? 3).map (·.size)=some 1:=by kernel_rfl
theorem MD:(Tryz.prog.info? 3).map (fun i=>(i.zero,i.size,i.bytes))=some (some (.int .i64 0),1,8):=by kernel_rfl
def Il (n:Nat):List Value:=List.replicate n (Gc 0)
theorem ND (n:Nat):Il n=(List.replicate n 0).map Gc:=by simp [Il]
theorem BH (n:Nat) (hn:n≤1000000) (W:World):
 (Instr.makeSlice 93 (.int .i64 (n:Int)) (.int .i64 (n:Int))).run Tryz.prog W=.ok (.slice (some ⟨W.heap.size,0,none⟩) n n) (W.alloc (.cells (Il n).toArray 3)):=by
 unfold Il;obtain ⟨i0,hi0,hz0,hz1,hz2⟩:=info_parts MD;have h:=run_make (P:=Tryz.prog) W 93 3 i0 (.int .i64 0) Tryz.underlying93 hi0 hz0 .i64 .i64 n n (by omega) (by omega) (by rw [hz2];omega) (by omega);rw [h,Int.toNat_natCast,hz1,Nat.mul_one];congr 3
 apply Array.ext_getElem?;intro i;simp only [madeCells,Value.cells];by_cases h:i<n
 ·simp [h,Nat.mod_one]
 ·simp [h]
def ze (w:World) (base:Nat) (v:Value) (l:List Nat):Prop:=w.ownsRow base 3 1 v l.length (l.map Gc)
section
variable {w w':World} {base:Nat} {v:Value} {l:List Nat}
theorem ze.lit (w:World) (l:List Nat) (hb:base≤w.heap.size) (hc:l.length≤1000000):ze (w.alloc (.cells (l.map Gc).toArray 3)) base (.slice (some ⟨w.heap.size,0,none⟩) l.length l.length) l:=by
 have h:=World.ownsRow_lit (base:=base) (e:=3) (size:=1) w (l.map Gc).toArray l.length hb (by simp only [maxLen];omega) (by simp);simp only at h ⊢;exact h
theorem ze.kept_alloc (h:ze w base v l) (o:Obj):ze (w.alloc o) base v l:=World.ownsRow.alloc h o
theorem ze.far (h:ze w base v l):∀k,v.ownBlock=some k→base≤k:=fun k hk=>(World.ownsRow.lt h k hk).1
theorem ze.form (h:ze w base v l):∃A c,v=.slice A l.length c∧l.length≤c∧c≤maxLen∧(A=none→c=0)∧Ah w w.heap.size A l:=by
 rcases h.2 with ⟨rfl,hn⟩|⟨g,cap,cur,rfl,hb,hg,hnc,hcm,_⟩
 ·have:l= []:=List.eq_nil_of_length_eq_zero hn;subst this;exact ⟨none,0,rfl,Xaj _,Nat.zero_le _,fun _=>rfl,.inl rfl⟩
 ·refine ⟨_,cap,rfl,hnc,hcm,(fun h=>by cases h),.inr ⟨g,0,rfl,(World.ownsRow.lt h g rfl).2,fun j u hu=>?_⟩⟩;have :=World.ownsRow.cells h (g:=g) rfl j (Gc u) (by rw [List.getElem?_map,hu];rfl)
  rwa [Go.WideShapes.add_plain] at this
theorem ze.cells (h:ze w base v l) (hp:0<l.length):∃g c rest,v=.slice (some ⟨g,0,none⟩) l.length c∧base≤g∧l.length≤c∧c≤maxLen∧Ia w g (l.map Gc++rest) 3:=by
 rcases h.2 with ⟨rfl,hn⟩|⟨g,cap,cur,rfl,hb,hg,hnc,hcm,hsz,htk⟩
 ·omega
 ·refine ⟨g,cap,cur.toList.drop l.length,rfl,hb,hnc,hcm,?_⟩;rw [Nat.mul_one] at htk;unfold Ia;rw [←htk,List.take_append_drop];exact hg
end
theorem Wy {w:World} {ops:Array Oper} {rest:List Oper} {o:Oper} {a:Act} {Q:Exit→Act→World→Prop} (hgd:o.guard=none) (s x:Operand)
 (ho:o.op=.call {callee:=.builtin .append,args:=#[s,x],argTypes:=#[93,93]}) (base B:Nat)
 (v:Value) (l us:List Nat) (b off m c:Nat) (hs:a.eval s=v) (hown:ze w base v l) (hx:a.eval x=.slice (some ⟨b,off,none⟩) m c) (hm:us.length=m) (hr:Ah w B (some ⟨b,off,none⟩) us)
 (hlen:l.length+us.length≤1000000) (hbase:base≤w.heap.size)
 (h:∀v' w',ze w' base v' (l++us)→Below base w w'→wpList Tryz.prog ops Q rest (a.put o.dst v') w'):wpList Tryz.prog ops Q (o::rest) a w:=by
 subst hm;obtain ⟨i0,hi0,hz0,hz1,hz2⟩:=info_parts MD;refine wpList_append_own w hgd s x 93 ho base 3 i0 _ 1 8 Tryz.underlying93 hi0 hz0 hz1 hz2 rfl (by omega) v l.length (l.map Gc) hs hown ⟨b,off,none⟩ us.length c (us.map Gc) hx (by simp) ?_ ?_ (by simp only [maxLen];omega) (by omega) hbase ?_
 ·intro j u hu;rw [List.getElem?_map] at hu;cases hj:us[j]? with
  |none=>rw [hj] at hu;cases hu
  |some q=>
   rw [hj] at hu;rcases hr with rfl|⟨b',off',hb1,_,hc⟩
   ·simp at hj
   ·cases hb1
    rw [Addr.add_mid,hc j q hj];exact hu
 ·intro u hu;obtain ⟨q,_,rfl⟩:=List.mem_map.1 hu;rfl
 ·intro v' w' h2 h3 _;refine h v' w' ?_ ((Below.refl _ _).grown h3 hbase (fun k hk=>hown.far k hk));unfold ze;simpa using h2
end Go.Proofs.YtoggkhjaghkpnaaGreatDoor
namespace Go.Proofs.YtoggkhjaghkpnaaGreatDoor
open Go.RowKit
theorem Tg (l:List Nat) (k:Nat) (h:k<l.length):l.getD k 0=l[k]:=by
 rw [Yaj,xaj h];rfl
end Go.Proofs.YtoggkhjaghkpnaaGreatDoor
namespace Go.Proofs.YtoggkhjaghkpnaaGreatDoor
open Go.RowKit
theorem qh {α:Type} (a:α):∃z,Hid (a=z):=⟨a,rfl⟩
def EH (w:World):Option Addr→Nat→Nat
 |none,_=>0
 |some a,j=>match w.cell? ⟨a.block,a.off+j,none⟩ with
  |some (.int _ i)=>i.toNat
  |_=>0
theorem below_drewN {B:Nat} {w w':World} (h:Below B w w') (n:Nat):Below B w (w'.drewN n):=⟨h.os,h.tape,h.output,h.size,h.block⟩
theorem ze.keep {w w':World} {base:Nat} {v:Value} {l:List Nat} (h:ze w base v l) (hk:∀g,v.ownBlock=some g→w'.heap[g]? =w.heap[g]?):ze w' base v l:=by
 obtain ⟨h1,h2⟩:=h;refine ⟨h1,?_⟩;rcases h2 with h2|⟨g,cap,cur,hv,hg,hh,r⟩
 ·exact .inl h2
 ·refine .inr ⟨g,cap,cur,hv,hg,?_,r⟩;rw [hk g (by rw [hv];rfl)];exact hh
theorem ze.on {w w':World} {base:Nat} {v:Value} {l:List Nat} (h:ze w base v l) (hb:Below w.heap.size w w'):ze w' base v l:=
 h.keep fun g hg=>hb.block g (World.ownsRow.lt h g hg).2
def J6 (w:World) (e:Ending) (w':World):Prop:=
 ∃g,e=.returned (.slice (some ⟨g,0,none⟩) 32 32)∧w.heap.size≤g∧Ia w' g (Xo.map Gc) 3∧Below w.heap.size w w'
theorem Xy (w:World):Calls Tryz.prog 75 #[] w (J6 w):=by
 go_enter Tryz.func75,Tryz.ntmps75
 go_wp2
 go_ret
 exact ⟨w.heap.size,rfl,Xaj _,Ia.new w _ _,(Below.refl _ _).alloc (Xaj _) _⟩
theorem WY (A:Option Addr) (c:Nat) (xs ls:List Nat) (r:Bool) (w:World) (HL:Hid (xs.length=33)) (HLS:Hid (ls.length=33)) (hr:Ah w w.heap.size A xs) (HS:Hid (0::Xo=ls))
 (HF:Hid (∀k,k<33→xs.take k=ls.take k→xs.getD k 0≠ls.getD k 0→decide (xs.getD k 0<ls.getD k 0)=r)) (HE:Hid (xs.take 33=ls.take 33→r=false)) (HT:Hid (∀k,k<33→xs.take k=ls.take k→xs.getD k 0=ls.getD k 0→xs.take (k+1)=ls.take (k+1))):
 Calls Tryz.prog 76 #[.slice A 33 c] w (gvn (.bool r) w):=by
 have HO:=Lib.hid (ze.lit (base:=w.heap.size) w [0] (Xaj _) (by decide));have hB0:Below w.heap.size w (w.alloc (.cells ([0].map Gc).toArray 3)):=(Below.refl _ _).alloc (Xaj _) _;go_enter Tryz.func76,Tryz.ntmps76;go_wp2_with fail
 change Below w.heap.size w (w.alloc (.cells #[.int .i64 0] 3)) at hB0;have HO2:Hid (ze (w.alloc (.cells #[.int .i64 0] 3)) w.heap.size (.slice (some ⟨w.heap.size,0,none⟩) 1 1) [0]):=HO.out;clear HO;generalize w.alloc (.cells #[.int .i64 0] 3)=w0 at *;refine (Xy w0).mono ?_;rintro e w1 ⟨g,rfl,hg,hC,hB1⟩;have hO1:=HO2.out.on hB1;have hB2:=Ba hB0 hB1;have hz:=hB2.size;have hgl:=hC.lt;clear HO2 hB0 hB1 hg;have hrow:Ah w1 (g+1) (some ⟨g,0,none⟩) Xo:=.inr ⟨g,0,rfl,by omega,fun j x hx=>by rw [Nat.zero_add];exact hC.get (by rw [List.getElem?_map,hx];rfl)⟩;go_wp2_with (first
  |(at_builtin
    refine Wy rfl (.tmp 5) (.tmp 6) rfl w.heap.size (g+1) _ [0] Xo g 0 32 32 rfl hO1 rfl rfl hrow (by decide) hz ?_;intro v2 w2 hown2 hB3))
 obtain ⟨A2,c2,rfl,hc2,hcm,-,hr2⟩:=hown2.form;have hB4:Below w.heap.size w w2:=hB2.trans hB3;have hrx:=(hr.below hB4).more hB4.size;clear hown2 hO1 hrow hC hB2 hB3 hgl hz;change Ah w2 w2.heap.size A2 (0::Xo) at hr2;rw [HS.out] at hr2;clear HS;have hlen:([0]++Xo).length=33:=rfl;rw [hlen] at hc2 ⊢;go_wp2_with fail
 go_loopw [4,10] (fun _ i wr=>∃k:Nat,k≤33∧i=.int .i64 k∧Hid (xs.take k=ls.take k)∧Below w2.heap.size w2 wr) (fun _ i _=>33-(intOf i).toNat)
 case atStart=>exact ⟨0,Nat.zero_le _,rfl,by show _=_;rw [List.take_zero,List.take_zero],Below.refl _ _⟩
 case round=>
  obtain ⟨k,hk,rfl,HK,hB⟩:=hrel;have HFk:=Lib.hid (HF.out k);have HTk:=Lib.hid (HT.out k);clear HF HT;by_cases hlt:k<33
  ·obtain ⟨b,off,rfl,hb,hcell⟩:=(hrx.on hB).at k (by rw [HL.out];exact hlt);obtain ⟨b2,off2,rfl,hb2,hcell2⟩:=(hr2.on hB).at k (by rw [HLS.out];exact hlt);have HF2:=Lib.hid (HFk.out hlt HK.out);have HT2:=Lib.hid (HTk.out hlt HK.out);clear HFk HTk;have i1:(k:Int)<33:=by omega
   have hcd:=hcell;have hcd2:=hcell2;generalize xs.getD k 0=x at *;generalize ls.getD k 0=y at *;by_cases hxy:x=y
   ·have e1:(x:Int)=(y:Int):=by omega
    have HT3:=Lib.hid (HT2.out hxy);go_wp2_with fail
    go_quiet (fail)
    go_wp2_with fail
    go_roundw
    case rel=>exact ⟨k+1,by omega,by go_num,HT3,below_drewN hB _⟩
    case measure=>simp [intOf];omega
   ·have e1:¬(x:Int)=(y:Int):=by omega
    have HF3:=Lib.hid (HF2.out hxy);go_wp2_with fail
    go_quiet (fail)
    go_wp2_with fail
    go_quiet (fail)
    go_wp2_with fail
    go_ret
    exact ⟨by rw [←HF3.out];rfl,Ba hB4 (below_drewN (below_drewN hB _) _)⟩
  ·obtain rfl:k=33:=by omega
   have HR:=Lib.hid (HE.out HK.out);rw [show ((33:Nat):Int)=33 from rfl];go_wp2_with fail
   go_ret
   exact ⟨by rw [HR.out];rfl,Ba hB4 hB⟩
theorem L6 (A:Option Addr) (c:Nat) (xs:List Nat) (w:World) (hl:xs.length=33) (hd:Dig xs) (hr:Ah w w.heap.size A xs):
 Calls Tryz.prog 76 #[.slice A 33 c] w (gvn (.bool (decide (hval xs<NP.LL))) w):=by
 refine WY A c xs (0::Xo) _ w hl rfl hr rfl (fun k hk ht hne=>?_) (fun ht=>?_) (fun k hk ht he=>?_)
 ·have h:=YB xs (0::Xo) k hl hd LM (by omega) ht hne;rw [xB] at h;congr 1
  exact propext h.symm
 ·rw [Zaj (by omega),Zaj (by decide)] at ht;rw [ht,xB];exact decide_eq_false (Nat.lt_irrefl _)
 ·rw [Nd xs k (by omega),Nd (0::Xo) k (by exact hk),ht];rw [Tg xs k (by omega),Tg (0::Xo) k (by exact hk)] at he;rw [he]
section
variable {w:World} {o:Oper} {a:Act} {K:Act→World→Prop} {Q:Exit→Act→World→Prop}
theorem Eg (s x:Operand)
 (ho:o.op=.call {callee:=.builtin .append,args:=#[s,x],argTypes:=#[93,93]}) (base B:Nat)
 (v:Value) (l us:List Nat) (b off m c:Nat) (hs:a.eval s=v) (hown:ze w base v l) (hx:a.eval x=.slice (some ⟨b,off,none⟩) m c) (hm:us.length=m) (hr:Ah w B (some ⟨b,off,none⟩) us)
 (hlen:l.length+us.length≤1000000) (hbase:base≤w.heap.size)
 (h:∀v' w',ze w' base v' (l++us)→Below base w w'→(∀g,v.ownBlock=some g→But g w w')→K (a.put o.dst v') w'):o.wp Tryz.prog a w K Q:=by
 subst hm;obtain ⟨i0,hi0,hz0,hz1,hz2⟩:=info_parts MD;refine wp_append_own w s x 93 ho base 3 i0 _ 1 8 Tryz.underlying93 hi0 hz0 hz1 hz2 rfl (by omega) v l.length (l.map Gc) hs hown ⟨b,off,none⟩ us.length c (us.map Gc) hx (by simp) ?_ ?_ (by simp only [maxLen];omega) (by omega) hbase ?_
 ·intro j u hu;rw [List.getElem?_map] at hu;cases hj:us[j]? with
  |none=>rw [hj] at hu;cases hu
  |some q=>
   rw [hj] at hu;rcases hr with rfl|⟨b',off',hb1,_,hc⟩
   ·simp at hj
   ·cases hb1
    rw [Addr.add_mid,hc j q hj];exact hu
 ·intro u hu;obtain ⟨q,_,rfl⟩:=List.mem_map.1 hu;rfl
 ·intro v' w' h2 h3 _;refine h v' w' ?_ ((Below.refl _ _).grown h3 hbase (fun k hk=>hown.far k hk)) (fun g hg=>⟨h3.os,h3.tape,h3.output,h3.size,fun k hk hne=>h3.block k hk (fun e=>hne (Option.some.inj (e.trans hg)))⟩);unfold ze;simpa using h2
theorem Ri {P:Program} {K:Act→World→Prop} {Q:Exit→Act→World→Prop} (t:TypeId) (n:Nat) (parts:List (Nat×Operand)) (ho:o.op=.buildSlice t n parts.toArray) (ps:List (Nat×Value)) (hp:(parts.map fun (i,x)=>(i,a.eval x))=ps) (e:TypeId) (vs:Array Value)
 (hr:∀w,(Instr.buildSlice t n ps.toArray).run P w=.ok (.slice (some ⟨w.heap.size,0,none⟩) n n) (w.alloc (.cells vs e)))
 (h:K (a.put o.dst (.slice (some ⟨w.heap.size,0,none⟩) n n)) (w.alloc (.cells vs e))):o.wp P a w K Q:=by
 unfold Oper.wp;simp only [execOp,ho,List.map_toArray,hp,hr,Sem.run_bind,Sem.run_pure,Result.andThen_ok];exact h
end
theorem EP (w:World):(Instr.buildSlice 93 0 #[]).run Tryz.prog w=.ok (.slice (some ⟨w.heap.size,0,none⟩) 0 0) (w.alloc (.cells #[] 3)):=by kernel_rfl
theorem GK (x:Nat) (w:World):(Instr.buildSlice 93 1 #[(0,Gc x)]).run Tryz.prog w=.ok (.slice (some ⟨w.heap.size,0,none⟩) 1 1) (w.alloc (.cells ([x].map Gc).toArray 3)):=by kernel_rfl
theorem M6 {a:Act} {o:Oper} (x:Operand) (h:o.op=.slice 93 x (some (.const (.int .i64 1))) none none) (g c:Nat) (hc:33≤c) (hx:a.eval x=.slice (some ⟨g,0,none⟩) 33 c) (w:World):(execOp a.eval o).run Tryz.prog w=.ok (.value (.slice (some ⟨g,1,none⟩) 32 (c-1))) w:=by
 have hc1:¬c=1:=by omega
 obtain ⟨i0,hi0,hs0⟩:=Option.map_eq_some_iff.1 qO;have hu:Tryz.prog.underlying 93=some (.slice 3):=Tryz.underlying93;have hrun:(Instr.sliceAt 93 (.slice (some ⟨g,0,none⟩) 33 c) (some (.int .i64 1)) none none).run Tryz.prog w=.ok (.slice (some ⟨g,1,none⟩) 32 (c-1)) w:=by
  have h1:(Instr.sliceAt 93 (.slice (some ⟨g,0,none⟩) 33 c) (some (.int .i64 1)) none none).run Tryz.prog w=(Instr.slice 93 (.slice (some ⟨g,0,none⟩) 33 c) (some (.int .i64 1)) none none).run Tryz.prog w:=by
   simp [Instr.sliceAt,run_underlying hu]
  rw [h1];simp [Instr.slice,run_underlying hu,Instr.sliceBounds,run_sliceBound,sizeOf,typeInfo,hi0,hs0,Addr.add,hc1]
 have he:(execOp a.eval o)=(do let v ←Instr.sliceAt 93 (a.eval x) (some (.int .i64 1)) none none;pure (.value v)):=by
  unfold execOp;rw [h];rfl
 rw [he,hx,Sem.run_bind,hrun];rfl
theorem Daa {a:Act} {o:Oper} (x y:Operand) (h:o.op=.indexAddr 24 x y) (b off n c k:Nat) (hk:k<n) (hx:a.eval x=.slice (some ⟨b,off,none⟩) n c) (hy:a.eval y=.int .i64 (k:Int)) (w:World):(execOp a.eval o).run Tryz.prog w=.ok (.value (.pointer (some ⟨b,off+k,none⟩))) w:=by
 have i1:(0:Int)≤(k:Int):=by omega
 have i2:(k:Int)<(n:Int):=by omega
 refine Me _ _ _ _ _ h _ _ _ hx hy w ?_;go_simp
theorem XY {a:Act} {o:Oper} (x:Operand) (h:o.op=.load 5 x) (p:Addr) (q:UInt8) (hx:a.eval x=.pointer (some p)) (w:World) (hc:w.cell? p=some (Fa q)):(execOp a.eval o).run Tryz.prog w=.ok (.value (Fa q)) w:=by
 refine Yc _ _ _ _ h _ _ hx w ?_;go_simp
theorem WT {a:Act} {o:Oper} (x:Operand) (h:o.op=.convert 5 3 x) (q:UInt8) (hx:a.eval x=Fa q) (w:World):(execOp a.eval o).run Tryz.prog w=.ok (.value (Gc q.toNat)) w:=by
 have j1:IntKind.i64.wrap (q.toNat:Int)=(q.toNat:Int):=IntWalk.i64_in _ (by have :=q.toNat_lt;omega);simp only [execOp,h,hx];go_simp
theorem YY {P:Program} {w:World} {ops:Array Oper} {rest:List Oper} {o:Oper} {a:Act} {Q:Exit→Act→World→Prop} (hgd:o.guard=none) (b:BinOp) (t t2:TypeId) (x y:Operand) (ho:o.op=.binOp b t x y t2) (vx vy v:Value) (hx:a.eval x=vx) (hy:a.eval y=vy) (hg:∀w,(eqGuard b t x y vx vy).run P w=.ok () w) (hr:∀w,(binOp b t vx vy).run P w=.ok v w)
 (h:wpList P ops Q rest (a.put o.dst v) w):wpList P ops Q (o::rest) a w:=by
 refine wpList_plain hgd fun K hK=>?_;exact Mc v (Ff _ _ _ _ _ _ _ ho _ _ _ hx hy w (hg w) (hr w)) (hK _ _ h)
theorem FP (x:Int) (b:Bool) (h:decide (x<0)=b) (w:World):(binOp .lss 3 (.int .i64 x) (.int .i64 0)).run Tryz.prog w=.ok (.bool b) w:=by
 rw [←h];kernel_rfl
theorem XT (x:Int) (w:World) (p q:Operand):(eqGuard .lss 3 p q (.int .i64 x) (.int .i64 0)).run Tryz.prog w=.ok () w:=by kernel_rfl
theorem IK {w:World} {g x:Nat} (hc:w.cell? ⟨g,0,none⟩=some (Gc x)) (hg:g<w.heap.size):Ah w w.heap.size (some ⟨g,0,none⟩) [x]:=
 .inr ⟨g,0,rfl,hg,fun j u hu=>by
  match j with
  |0=>cases hu;exact hc
  |j+1=>cases hu⟩
theorem GP {w w':World} {b g:Nat} {v:Value} (hb:But b w w') (hg:g<w.heap.size) (hne:g≠b) (hc:w.cell? ⟨g,0,none⟩=some v):w'.cell? ⟨g,0,none⟩=some v:=
 (World.cell?_of_block (w:=w) (hb.block g hg hne)).trans hc
theorem YT {w:World} {g:Nat} {v:Value} (o:Obj) (hg:g<w.heap.size) (hc:w.cell? ⟨g,0,none⟩=some v):(w.alloc o).cell? ⟨g,0,none⟩=some v:=
 (World.cell?_of_block (w:=w) (Below.heap_alloc _ _ _ hg)).trans hc
theorem PD (w:World) (x:Nat):(w.alloc (.cells ([x].map Gc).toArray 3)).cell? ⟨w.heap.size,0,none⟩=some (Gc x):=
 (Ia.new w ([x].map Gc).toArray 3).get rfl
end Go.Proofs.YtoggkhjaghkpnaaGreatDoor
