/- Part 20 of what the laws of this seat share: ZSign, FStrict. -/
import Derived.Deep.Cut
import Derived.Test.YtoggkhjaghkpnaaDoorPart19
namespace Go.Proofs.YtoggkhjaghkpnaaDoor
open Go.RowKit
set_option maxRecDepth 100000 in
theorem loose_frame34 (a : Act) (hs : a.tmps.size = 34) (hd : a.defers = []) : ∃ u : Nat → Value, a = ⟨(u 0 :: u 1 :: u 2 :: u 3 :: u 4 :: u 5 :: u 6 :: u 7 :: u 8 :: u 9 :: u 10 :: u 11 :: u 12 :: u 13 :: u 14 :: u 15 :: u 16 :: u 17 :: u 18 :: u 19 :: u 20 :: u 21 :: u 22 :: u 23 :: u 24 :: u 25 :: u 26 :: u 27 :: u 28 :: u 29 :: u 30 :: u 31 :: u 32 :: u 33 :: []).toArray, []⟩ := by
  obtain ⟨u, h⟩ := frame_of 34 a hs hd
  exact ⟨u, h⟩
/-- What the operations of Sign's challenge yield. -/
def sgsYields (D : Option Addr) (m d B : Nat) (ka kr pb hb : List UInt8) (i : Nat) (v : Value) (w : World) : Prop := match i with
  | 0 => v = .slice D m d
  | 1 => v = hashVal kr
  | 2 => v = hashVal ka
  | 3 => v = hashVal pb
  | 4 => ∃ g, v = .slice (some ⟨g, 0, none⟩) 2 2 ∧ Cells w g ((kr ++ pb).map cellOf) 23
  | 5 => v = hashVal hb
  | 6 => ∃ g, v = .pointer (some ⟨g, 0, none⟩) ∧ B ≤ g ∧ Cells w g kzeros 23
  | _ => True
theorem sgsYields_on {D : Option Addr} {m d B : Nat} {ka kr pb hb : List UInt8} {i : Nat} {v : Value} {w w' : World} (h : sgsYields D m d B ka kr pb hb i v w) (hw : Below w.heap.size w w') : sgsYields D m d B ka kr pb hb i v w' := by
  unfold sgsYields at h ⊢
  split
  all_goals first
    | exact h
    | trivial
    | (obtain ⟨g, h1, h2⟩ := h
       exact ⟨g, h1, h2.on hw⟩)
    | (obtain ⟨g, h1, h2, h3⟩ := h
       exact ⟨g, h1, h2, h3.on hw⟩)
def sgSignVs5 (u0 : Value) (u1 : Value) (u2 : Value) (u3 : Value) (go : Nat) (ga : Nat) (u6 : Value) (gn : Nat) (gr : Nat) (gh : Nat) (u10 : Value) (u11 : Value) (u12 : Value) (u13 : Value) (u14 : Value) (u15 : Value) (u16 : Value) (u17 : Value) (u18 : Value) (u19 : Value) (u20 : Value) (u21 : Value) (u22 : Value) (u23 : Value) (u24 : Value) (u25 : Value) (hb : List UInt8) (kr : List UInt8) (kn : List UInt8) (ka : List UInt8) (t : List UInt8) (z : List UInt8) (ob : List UInt8) : List Value :=
  (u0) :: (u1) :: (u2) :: (u3) :: ptr go :: ptr ga :: (u6) :: ptr gn :: ptr gr :: ptr gh :: (u10) :: (u11) :: (u12) :: (u13) :: (u14) :: (u15) :: (u16) :: (u17) :: (u18) :: (u19) :: (u20) :: (u21) :: (u22) :: (u23) :: (u24) :: (u25) :: (hashVal hb) :: (hashVal kr) :: (hashVal kn) :: (hashVal hb) :: (hashVal ka) :: (hashVal t) :: (hashVal z) :: (hashVal ob) :: []
set_option maxRecDepth 100000 in
set_option maxHeartbeats 4000000 in
theorem sgSign_over (ks ka kp kn kr pb hb t z ob : List UInt8) (D : Option Addr) (m d : Nat) (ps : List (List UInt8)) (E : Value) (w : World)
    (Hks : Hid (ks.length = 32))
    (Hka : Hid (ka.length = 32))
    (Hkp : Hid (kp.length = 32))
    (Hkn : Hid (kn.length = 32))
    (Hkr : Hid (kr.length = 32))
    (Hpb : Hid (pb.length = 32))
    (Hhb : Hid (hb.length = 32))
    (Hob : Hid (ob.length = 64))
    (CS : Hid (∀ W, SgTabs E W → Calls Tryd.prog 8 #[hashVal ks] W (gvn (.tuple #[hashVal ka, hashVal kp]) W)))
    (CN : Hid (∀ g W, Cells W g (kp.map cellOf) 23 → SgTabs E W → PartsAt D ps W → Calls Tryd.prog 9 #[.slice D m d, .slice (some ⟨g, 0, none⟩) 1 1] W (gvn (hashVal kn) W)))
    (CR : Hid (∀ W, SgTabs E W → Calls Tryd.prog 10 #[hashVal kn] W (gvn (hashVal kr) W)))
    (CB : Hid (∀ W, SgTabs E W → Calls Tryd.prog 10 #[hashVal ka] W (gvn (hashVal pb) W)))
    (CH : Hid (∀ g W, Cells W g ((kr ++ pb).map cellOf) 23 → SgTabs E W → PartsAt D ps W → Calls Tryd.prog 9 #[.slice D m d, .slice (some ⟨g, 0, none⟩) 2 2] W (gvn (hashVal hb) W)))
    (CT : Hid (∀ W, SgTabs E W → Calls Tryd.prog 13 #[hashVal hb, hashVal ka] W (gvn (hashVal t) W)))
    (CA : Hid (∀ W, SgTabs E W → Calls Tryd.prog 12 #[hashVal kn, hashVal t] W (gvn (hashVal z) W)))
    (CJ : Hid (∀ W, Calls Tryd.prog 11 #[hashVal kr, hashVal z] W (gvn (hashVal ob) W)))
    (hS : SgTabs E w)
    (hP : PartsAt D ps w) :
    Calls Tryd.prog 5 #[hashVal ks, .slice D m d] w (gvn (hashVal ob) w) := by
  go_enter Tryd.func5, Tryd.ntmps5
  go_wp2_with (first
    | (refine take_step rfl 23 (.tmp 0) rfl ks rfl ?_
       intro w1 hb1 hvs1 hz
       clear hz
       have hB1 := hb1
       have hges : w.heap.size ≤ w.heap.size := Nat.le_refl _
       clear  hb1
       try simp only [putS]
       skip)
    | (refine vzero_step (o := ⟨some 4, _, _, _, _, _⟩) rfl 27 rfl zsig zero_sig ?_
       intro w2 hb2 hvo2
       have hB2 := below_then hB1 hb2
       have hgeo : w.heap.size ≤ w1.heap.size := hB1.size
       have hvs2 := hvs1.on hb2
       have hneso := Nat.ne_of_lt hvs1.lt
       clear hB1 hvs1 hb2
       try simp only [putS]
       skip)
    | (refine get_step rfl 23 (.tmp 2) rfl w.heap.size 32 ks 5 rfl hvs2 Tryd.underlying23 size_k32 Hks.out ?_
       try simp only [putS]
       skip))
  generalize hqo : w1.heap.size = go at *
  clear hqo
  refine (CS.out w2 (hS.below hB2)).mono ?_
  rintro e w3 ⟨rfl, hb3⟩
  have hB3 := below_then hB2 hb3
  have hvs3 := hvs2.on hb3
  have hvo3 := hvo2.on hb3
  clear hB2 hvs2 hvo2 hb3
  go_wp2_with (first
    | (refine vzero_step (o := ⟨some 5, _, _, _, _, _⟩) rfl 23 rfl kzeros zero_k32 ?_
       intro w4 hb4 hva4
       have hB4 := below_then hB3 hb4
       have hgea : w.heap.size ≤ w3.heap.size := hB3.size
       have hvs4 := hvs3.on hb4
       have hnesa := Nat.ne_of_lt hvs3.lt
       have hvo4 := hvo3.on hb4
       have hneoa := Nat.ne_of_lt hvo3.lt
       clear hB3 hvs3 hvo3 hb4
       try simp only [putS]
       skip)
    | (refine vzero_step (o := ⟨some 6, _, _, _, _, _⟩) rfl 23 rfl kzeros zero_k32 ?_
       intro w5 hb5 hvp5
       have hB5 := below_then hB4 hb5
       have hgep : w.heap.size ≤ w4.heap.size := hB4.size
       have hvs5 := hvs4.on hb5
       have hnesp := Nat.ne_of_lt hvs4.lt
       have hvo5 := hvo4.on hb5
       have hneop := Nat.ne_of_lt hvo4.lt
       have hva5 := hva4.on hb5
       have hneap := Nat.ne_of_lt hva4.lt
       clear hB4 hvs4 hvo4 hva4 hb5
       try simp only [putS]
       skip)
    | (refine vset_step rfl 23 (.tmp 5) (.tmp 13) rfl w3.heap.size 32 kzeros (ka.map cellOf) rfl rfl hva5 rfl size_k32 (by rw [List.length_map, Hka.out]) (kcells_one _) ?_
       intro w6 hb6 hva6 hz6
       have hB6 : Below w.heap.size w w6 := hB5.trans (hb6.below hgea hB5.size)
       have hvs6 := hvs5.but hb6 hnesa
       have hvo6 := hvo5.but hb6 hneoa
       have hvp6 := hvp5.but hb6 (Ne.symm hneap)
       clear hB5 hva5 hb6 hz6 hvs5 hvo5 hvp5
       skip)
    | (refine vset_step rfl 23 (.tmp 6) (.tmp 14) rfl w4.heap.size 32 kzeros (kp.map cellOf) rfl rfl hvp6 rfl size_k32 (by rw [List.length_map, Hkp.out]) (kcells_one _) ?_
       intro w7 hb7 hvp7 hz7
       have hB7 : Below w.heap.size w w7 := hB6.trans (hb7.below hgep hB6.size)
       have hvs7 := hvs6.but hb7 hnesp
       have hvo7 := hvo6.but hb7 hneop
       have hva7 := hva6.but hb7 hneap
       clear hB6 hvp6 hb7 hz7 hvs6 hvo6 hva6
       skip)
    | (refine get_step rfl 23 (.tmp 6) rfl w4.heap.size 32 kp 5 rfl hvp7 Tryd.underlying23 size_k32 Hkp.out ?_
       try simp only [putS]
       skip)
    | (refine ulit_step rfl 56 1 [(0, .tmp 16)] rfl [(0, hashVal kp)] rfl 23 (kp.map cellOf) (lit_keys1 _ Hkp.out) ?_
       intro w8 hb8 hvl8
       have hB8 := below_then hB7 hb8
       have hgel : w.heap.size ≤ w7.heap.size := hB7.size
       have hvs8 := hvs7.on hb8
       have hnesl := Nat.ne_of_lt hvs7.lt
       have hvo8 := hvo7.on hb8
       have hneol := Nat.ne_of_lt hvo7.lt
       have hva8 := hva7.on hb8
       have hneal := Nat.ne_of_lt hva7.lt
       have hvp8 := hvp7.on hb8
       have hnepl := Nat.ne_of_lt hvp7.lt
       clear hB7 hvs7 hvo7 hva7 hvp7 hb8
       try simp only [putS]
       skip))
  generalize hqa : w3.heap.size = ga at *
  clear hqa
  generalize hqp : w4.heap.size = gp at *
  clear hqp
  generalize hql : w7.heap.size = gl at *
  clear hql
  refine ((CN.out _) w8 hvl8 (hS.below hB8) (hP.below hB8)).mono ?_
  rintro e w9 ⟨rfl, hb9⟩
  have hB9 := below_then hB8 hb9
  have hvs9 := hvs8.on hb9
  have hvo9 := hvo8.on hb9
  have hva9 := hva8.on hb9
  have hvp9 := hvp8.on hb9
  have hvl9 := hvl8.on hb9
  clear hB8 hvs8 hvo8 hva8 hvp8 hvl8 hb9
  go_wp2_with (first
    | (refine vput_step rfl rfl 23 (.tmp 7) (.tmp 18) rfl rfl 32 kzeros (kn.map cellOf) rfl rfl zero_k32 rfl size_k32 (by rw [List.length_map, Hkn.out]) (kcells_one _) ?_
       intro w10 hb10 hvn10
       have hB10 := below_then hB9 hb10
       have hgen : w.heap.size ≤ w9.heap.size := hB9.size
       have hvs10 := hvs9.on hb10
       have hnesn := Nat.ne_of_lt hvs9.lt
       have hvo10 := hvo9.on hb10
       have hneon := Nat.ne_of_lt hvo9.lt
       have hva10 := hva9.on hb10
       have hnean := Nat.ne_of_lt hva9.lt
       have hvp10 := hvp9.on hb10
       have hnepn := Nat.ne_of_lt hvp9.lt
       have hvl10 := hvl9.on hb10
       have hneln := Nat.ne_of_lt hvl9.lt
       clear hB9 hvs9 hvo9 hva9 hvp9 hvl9 hb10
       try simp only [putS]
       skip)
    | (refine get_step rfl 23 (.tmp 7) rfl w9.heap.size 32 kn 5 rfl hvn10 Tryd.underlying23 size_k32 Hkn.out ?_
       try simp only [putS]
       skip))
  generalize hqn : w9.heap.size = gn at *
  clear hqn
  refine (CR.out w10 (hS.below hB10)).mono ?_
  rintro e w11 ⟨rfl, hb11⟩
  have hB11 := below_then hB10 hb11
  have hvs11 := hvs10.on hb11
  have hvo11 := hvo10.on hb11
  have hva11 := hva10.on hb11
  have hvp11 := hvp10.on hb11
  have hvl11 := hvl10.on hb11
  have hvn11 := hvn10.on hb11
  clear hB10 hvs10 hvo10 hva10 hvp10 hvl10 hvn10 hb11
  go_wp2_with (first
    | (refine vput_step rfl rfl 23 (.tmp 8) (.tmp 20) rfl rfl 32 kzeros (kr.map cellOf) rfl rfl zero_k32 rfl size_k32 (by rw [List.length_map, Hkr.out]) (kcells_one _) ?_
       intro w12 hb12 hvr12
       have hB12 := below_then hB11 hb12
       have hger : w.heap.size ≤ w11.heap.size := hB11.size
       have hvs12 := hvs11.on hb12
       have hnesr := Nat.ne_of_lt hvs11.lt
       have hvo12 := hvo11.on hb12
       have hneor := Nat.ne_of_lt hvo11.lt
       have hva12 := hva11.on hb12
       have hnear := Nat.ne_of_lt hva11.lt
       have hvp12 := hvp11.on hb12
       have hnepr := Nat.ne_of_lt hvp11.lt
       have hvl12 := hvl11.on hb12
       have hnelr := Nat.ne_of_lt hvl11.lt
       have hvn12 := hvn11.on hb12
       have hnenr := Nat.ne_of_lt hvn11.lt
       clear hB11 hvs11 hvo11 hva11 hvp11 hvl11 hvn11 hb12
       try simp only [putS]
       skip))
  generalize hqr : w11.heap.size = gr at *
  clear hqr
  clear hvs12
  clear hvp12
  clear hvl12
  have hB13 : Below w.heap.size w w12.drew := hB12.drew
  have hvo13 := hvo12.drew
  have hva13 := hva12.drew
  have hvn13 := hvn12.drew
  have hvr13 := hvr12.drew
  refine wp_region_any (by kernel_rfl) ?_
  show wpAny _ _ _ _ _ _ _ w12.drew
  simp only [List.size_toArray, List.length_cons, List.length_nil, Nat.reduceAdd, Array.replicate_succ, Array.replicate_zero, List.push_toArray, List.nil_append, List.cons_append]
  clear hB12 hvo12 hva12 hvn12 hvr12
  generalize w12.drew = w13 at *
  have rr := hvr13.range 0 32
  rw [List.drop_zero, List.take_of_length_le (by rw [List.length_map, Hkr.out]; omega)] at rr
  have ra := hva13.range 0 32
  rw [List.drop_zero, List.take_of_length_le (by rw [List.length_map, Hka.out]; omega)] at ra
  refine wpAny_loose (L := [0, 1, 2, 3, 4, 5, 6]) (fins := [(#[true, true, true, true, true, true, true, false], 1)]) (LooseAt w13 _ [(0, 21), (1, 22), (2, 23), (3, 24), (4, 25), (5, 26), (6, 9)] (sgsYields D m d w13.heap.size ka kr pb hb)) ?_ ?_ 8 _ _ _ (by kernel_rfl) ⟨Below.refl _ _, rfl, rfl, fun _ _ => rfl, ?_⟩
  rotate_left 2
  · intro p hp hl
    simp only [List.mem_cons, List.not_mem_nil, or_false] at hp
    rcases hp with rfl | rfl | rfl | rfl | rfl | rfl | rfl
    all_goals cases hl
  · intro i hi
    simp only [List.mem_cons, List.not_mem_nil, or_false] at hi
    rcases hi with rfl | rfl | rfl | rfl | rfl | rfl | rfl
    · refine loose_step (slots := [(0, 21), (1, 22), (2, 23), (3, 24), (4, 25), (5, 26), (6, 9)]) (prop := sgsYields D m d w13.heap.size ka kr pb hb) (by decide) (by decide) 34 rfl (by decide) (fun _ _ _ _ h hb => sgsYields_on h hb) (i := 0) (s := 21) (by decide) rfl rfl ?_
      intro a w6 K hb hs hd hsame hfact hK
      exact move_op rfl _ rfl _ (hsame 1 (by decide)) (hK _ _ (Below.refl _ _) rfl)
    · refine loose_step (slots := [(0, 21), (1, 22), (2, 23), (3, 24), (4, 25), (5, 26), (6, 9)]) (prop := sgsYields D m d w13.heap.size ka kr pb hb) (by decide) (by decide) 34 rfl (by decide) (fun _ _ _ _ h hb => sgsYields_on h hb) (i := 1) (s := 22) (by decide) rfl rfl ?_
      intro a w6 K hb hs hd hsame hfact hK
      exact load_op rfl 23 (.tmp 8) rfl gr 0 (hsame 8 (by decide)) (kr.map cellOf) _ (range_on rr hvr13.lt hb) Tryd.underlying23 rfl (by rw [List.length_map, Hkr.out]; exact size_k32) (hK _ _ (Below.refl _ _) rfl)
    · refine loose_step (slots := [(0, 21), (1, 22), (2, 23), (3, 24), (4, 25), (5, 26), (6, 9)]) (prop := sgsYields D m d w13.heap.size ka kr pb hb) (by decide) (by decide) 34 rfl (by decide) (fun _ _ _ _ h hb => sgsYields_on h hb) (i := 2) (s := 23) (by decide) rfl rfl ?_
      intro a w6 K hb hs hd hsame hfact hK
      exact load_op rfl 23 (.tmp 5) rfl ga 0 (hsame 5 (by decide)) (ka.map cellOf) _ (range_on ra hva13.lt hb) Tryd.underlying23 rfl (by rw [List.length_map, Hka.out]; exact size_k32) (hK _ _ (Below.refl _ _) rfl)
    · refine loose_step (slots := [(0, 21), (1, 22), (2, 23), (3, 24), (4, 25), (5, 26), (6, 9)]) (prop := sgsYields D m d w13.heap.size ka kr pb hb) (by decide) (by decide) 34 rfl (by decide) (fun _ _ _ _ h hb => sgsYields_on h hb) (i := 3) (s := 24) (by decide) rfl rfl ?_
      intro a w6 K hb hs hd hsame hfact hK
      have s23 : a.tmps.getD 23 undef = hashVal ka := hfact (2, 23) (by decide) (by kernel_rfl)
      refine call_op rfl 10 [.tmp 23] _ rfl [hashVal ka] ?_ (enters Tryd.func10 (by kernel_rfl) (by kernel_rfl)) (CB.out w6 (hS.below (below_then hB13 hb))) ?_
      · simp only [List.map_cons, List.map_nil]
        rw [show a.eval (.tmp 23) = hashVal ka from s23]
      · rintro e w7 ⟨rfl, hb7⟩
        exact ⟨_, rfl, hK _ _ hb7 rfl⟩
    · refine loose_step (slots := [(0, 21), (1, 22), (2, 23), (3, 24), (4, 25), (5, 26), (6, 9)]) (prop := sgsYields D m d w13.heap.size ka kr pb hb) (by decide) (by decide) 34 rfl (by decide) (fun _ _ _ _ h hb => sgsYields_on h hb) (i := 4) (s := 25) (by decide) rfl rfl ?_
      intro a w6 K hb hs hd hsame hfact hK
      have s22 : a.tmps.getD 22 undef = hashVal kr := hfact (1, 22) (by decide) (by kernel_rfl)
      have s24 : a.tmps.getD 24 undef = hashVal pb := hfact (3, 24) (by decide) (by kernel_rfl)
      refine lit_op rfl 56 2 [(0, .tmp 22), (1, .tmp 24)] rfl [(0, hashVal kr), (1, hashVal pb)] ?_ 23 ((kr ++ pb).map cellOf) (lit_keys2 kr pb Hkr.out Hpb.out) (fun w' hb' hc' => hK _ _ hb' ⟨_, rfl, hc'⟩)
      simp only [List.map_cons, List.map_nil]
      rw [show a.eval (.tmp 22) = hashVal kr from s22, show a.eval (.tmp 24) = hashVal pb from s24]
    · refine loose_step (slots := [(0, 21), (1, 22), (2, 23), (3, 24), (4, 25), (5, 26), (6, 9)]) (prop := sgsYields D m d w13.heap.size ka kr pb hb) (by decide) (by decide) 34 rfl (by decide) (fun _ _ _ _ h hb => sgsYields_on h hb) (i := 5) (s := 26) (by decide) rfl rfl ?_
      intro a w6 K hb hs hd hsame hfact hK
      have s21 : a.tmps.getD 21 undef = .slice D m d := hfact (0, 21) (by decide) (by kernel_rfl)
      obtain ⟨gl, s25, hl2⟩ := hfact (4, 25) (by decide) (by kernel_rfl)
      refine call_op rfl 9 [.tmp 21, .tmp 25] _ rfl [.slice D m d, .slice (some ⟨gl, 0, none⟩) 2 2] ?_ (enters Tryd.func9 (by kernel_rfl) (by kernel_rfl)) (CH.out gl w6 hl2 (hS.below (below_then hB13 hb)) (hP.below (below_then hB13 hb))) ?_
      · simp only [List.map_cons, List.map_nil]
        rw [show a.eval (.tmp 21) = .slice D m d from s21, show a.eval (.tmp 25) = .slice (some ⟨gl, 0, none⟩) 2 2 from s25]
      · rintro e w7 ⟨rfl, hb7⟩
        exact ⟨_, rfl, hK _ _ hb7 rfl⟩
    · refine loose_step (slots := [(0, 21), (1, 22), (2, 23), (3, 24), (4, 25), (5, 26), (6, 9)]) (prop := sgsYields D m d w13.heap.size ka kr pb hb) (by decide) (by decide) 34 rfl (by decide) (fun _ _ _ _ h hb => sgsYields_on h hb) (i := 6) (s := 9) (by decide) rfl rfl ?_
      intro a w6 K hb hs hd hsame hfact hK
      exact alloc_op rfl 23 rfl kzeros zero_k32 (fun w' hb' hc' => hK _ _ hb' ⟨_, rfl, hb.size, hc'⟩)
  · intro f hf a w14 hA
    obtain rfl := List.mem_singleton.1 hf
    have hB14 := below_then hB13 hA.below
    obtain ⟨gh, s9, hgh, hvh14⟩ := hA.fact (6, 9) (by decide) (by kernel_rfl)
    have hneoh : go ≠ gh := Nat.ne_of_lt (Nat.lt_of_lt_of_le hvo13.lt hgh)
    have hneah : ga ≠ gh := Nat.ne_of_lt (Nat.lt_of_lt_of_le hva13.lt hgh)
    have hnenh : gn ≠ gh := Nat.ne_of_lt (Nat.lt_of_lt_of_le hvn13.lt hgh)
    have hnerh : gr ≠ gh := Nat.ne_of_lt (Nat.lt_of_lt_of_le hvr13.lt hgh)
    have hgeh : w.heap.size ≤ gh := Nat.le_trans hB13.size hgh
    have hvo14 := hvo13.on hA.below
    have hva14 := hva13.on hA.below
    have hvn14 := hvn13.on hA.below
    have hvr14 := hvr13.on hA.below
    have s4 := hA.same 4 (by decide)
    have s5 := hA.same 5 (by decide)
    have s7 := hA.same 7 (by decide)
    have s8 := hA.same 8 (by decide)
    have s26 : a.tmps.getD 26 undef = hashVal hb := hA.fact (5, 26) (by decide) (by kernel_rfl)
    obtain ⟨u, rfl⟩ := loose_frame34 a hA.size hA.defers
    change u 4 = .pointer (some ⟨go, 0, none⟩) at s4
    change u 5 = .pointer (some ⟨ga, 0, none⟩) at s5
    change u 7 = .pointer (some ⟨gn, 0, none⟩) at s7
    change u 8 = .pointer (some ⟨gr, 0, none⟩) at s8
    change u 26 = _ at s26
    change u 9 = _ at s9
    rw [s4, s5, s7, s8, s26, s9]
    clear s4 s5 s7 s8 s26 s9 hA hgh hB13 rr ra hvo13 hva13 hvn13 hvr13
    generalize u 0 = u0 at *
    generalize u 1 = u1 at *
    generalize u 2 = u2 at *
    generalize u 3 = u3 at *
    generalize u 6 = u6 at *
    generalize u 10 = u10 at *
    generalize u 11 = u11 at *
    generalize u 12 = u12 at *
    generalize u 13 = u13 at *
    generalize u 14 = u14 at *
    generalize u 15 = u15 at *
    generalize u 16 = u16 at *
    generalize u 17 = u17 at *
    generalize u 18 = u18 at *
    generalize u 19 = u19 at *
    generalize u 20 = u20 at *
    generalize u 21 = u21 at *
    generalize u 22 = u22 at *
    generalize u 23 = u23 at *
    generalize u 24 = u24 at *
    generalize u 25 = u25 at *
    generalize u 27 = u27 at *
    generalize u 28 = u28 at *
    generalize u 29 = u29 at *
    generalize u 30 = u30 at *
    generalize u 31 = u31 at *
    generalize u 32 = u32 at *
    generalize u 33 = u33 at *
    refine wpAny_rest 7 rfl (by kernel_rfl) ?_
    simp only [List.drop_succ_cons, List.drop_zero]
    refine vset_step rfl 23 (.tmp 9) (.tmp 26) rfl gh 32 kzeros (hb.map cellOf) rfl rfl hvh14 rfl size_k32 (by rw [List.length_map, Hhb.out]) (kcells_one _) ?_
    intro w15 hb15 hvh15 hz15
    have hB15 : Below w.heap.size w w15 := hB14.trans (hb15.below hgeh hB14.size)
    have hvo15 := hvo14.but hb15 hneoh
    have hva15 := hva14.but hb15 hneah
    have hvn15 := hvn14.but hb15 hnenh
    have hvr15 := hvr14.but hb15 hnerh
    clear hB14 hvh14 hb15 hz15 hvo14 hva14 hvn14 hvr14
    rename_i K hKK
    show Exit.then K _ Exit.normal _ w15
    simp only [Exit.then]
    refine hKK _ _ ?_
    clear hKK K
    go_wp2_with fail
    replace hvo15 := hvo15.drew
    replace hva15 := hva15.drew
    replace hvn15 := hvn15.drew
    replace hvr15 := hvr15.drew
    replace hvh15 := hvh15.drew
    have hBq := (show Below w.heap.size w w15.drew from hB15.drew)
    refine wp_region_any (by kernel_rfl) ?_
    refine wpAny_flatM (L := [0, 1, 2, 3, 4, 5, 6]) (by kernel_rfl) _ _ (sgSignVs5 u0 u1 u2 u3 go ga u6 gn gr gh u10 u11 u12 u13 u14 u15 u16 u17 u18 u19 u20 u21 u22 u23 u24 u25 hb kr kn ka t z ob) [] 27 zsig [0, 1, 2, 3, 4, 5, 6, 7, 8, 9, 10, 11, 12, 13, 14, 15, 16, 17, 18, 19, 20, 21, 22, 23, 24, 25, 26] (by kernel_rfl) (by kernel_rfl) ?_ zero_sig ?_ (by rfl) ?_ 1 (by kernel_rfl) ?_
    · intro p hp
      exact absurd hp List.not_mem_nil
    · repeat refine all_cons rfl ?_
      exact all_nil
    · refine all_cons (.inr (mL 27 rfl fun w hb => key_run (hvr15.on hb) Hkr.out)) ?_
      refine all_cons (.inr (mL 28 rfl fun w hb => key_run (hvn15.on hb) Hkn.out)) ?_
      refine all_cons (.inr (mL 29 rfl fun w hb => key_run (hvh15.on hb) Hhb.out)) ?_
      refine all_cons (.inr (mL 30 rfl fun w hb => key_run (hva15.on hb) Hka.out)) ?_
      refine all_cons (.inr (mC 31 rfl Tryd.func13 fun w hb => CT.out w (hS.below (below_then hBq hb)))) ?_
      refine all_cons (.inr (mC 32 rfl Tryd.func12 fun w hb => CA.out w (hS.below (below_then hBq hb)))) ?_
      refine all_cons (.inr (mC 33 rfl Tryd.func11 fun w hb => CJ.out w)) ?_
      exact all_nil
    intro w16 g hb16 hN16 hap16
    clear hN16 hap16
    have hB16 := below_then (show Below w.heap.size w w15.drew from hB15.drew) hb16
    have hvo16 := hvo15.on hb16
    have hva16 := hva15.on hb16
    have hvn16 := hvn15.on hb16
    have hvr16 := hvr15.on hb16
    have hvh16 := hvh15.on hb16
    clear hB15 hvo15 hva15 hvn15 hvr15 hvh15 hb16 hBq
    refine wpAny_rest 7 rfl (by kernel_rfl) ?_
    refine vset_step rfl 27 (.tmp 4) (.tmp 33) rfl go 64 zsig (ob.map cellOf) rfl rfl hvo16 rfl size_sig (by rw [List.length_map, Hob.out]) (kcells_one _) ?_
    intro w17 hb17 hvo17 hz17
    have hB17 : Below w.heap.size w w17 := hB16.trans (hb17.below hgeo hB16.size)
    have hva17 := hva16.but hb17 (Ne.symm hneoa)
    have hvn17 := hvn16.but hb17 (Ne.symm hneon)
    have hvr17 := hvr16.but hb17 (Ne.symm hneor)
    have hvh17 := hvh16.but hb17 (Ne.symm hneoh)
    clear hB16 hvo16 hb17 hz17 hva16 hvn16 hvr16 hvh16
    rename_i K hKK
    show Exit.then K _ Exit.normal (⟨(sgSignVs5 u0 u1 u2 u3 go ga u6 gn gr gh u10 u11 u12 u13 u14 u15 u16 u17 u18 u19 u20 u21 u22 u23 u24 u25 hb kr kn ka t z ob).toArray, []⟩ : Act) w17
    simp only [Exit.then]
    refine hKK _ _ ?_
    clear hKK K g
    simp only [sgSignVs5, ptr]
    go_wp2
    exact sret Tryd.results5 go (ob.map cellOf) rfl hvo17 Tryd.underlying27 rfl size_sig (by rw [List.length_map, Hob.out]) rfl ⟨rfl, hB17⟩
theorem load_err {w : World} {g : Nat} {v : Value} (h : w.cell? ⟨g, 0, none⟩ = some v) : (Instr.loadAt 48 (.pointer (some ⟨g, 0, none⟩))).run Tryd.prog w = .ok v w := by
  go_simp
def strVs2 (kb : List UInt8) (g_base : Nat) (gz : Nat) (gx : Nat) (x : List Nat) (kx : List UInt8) (n : Bool) : List Value :=
  (hashVal kb) :: ptr g_base :: ptr gz :: (.nilIface) :: ptr gx :: (hashVal kb) :: (numVal x) :: (numVal x) :: (hashVal kx) :: (hashVal kb) :: (.bool n) :: ud 3 []
set_option maxRecDepth 100000 in
set_option maxHeartbeats 1000000 in
theorem strict_over (kb kx : List UInt8) (x zz res : List Nat) (er err : Value) (n : Bool) (w : World)
    (Hkb : Hid (kb.length = 32))
    (Hx : Hid (x.length = 5))
    (Hzz : Hid (zz.length = 5))
    (CX : Hid (∀ W, Calls Tryd.prog 58 #[hashVal kb] W (gvn (numVal x) W)))
    (CB : Hid (∀ W, Calls Tryd.prog 44 #[numVal x] W (gvn (hashVal kx) W)))
    (EN : ∀ w, (binOp .neq 23 (hashVal kx) (hashVal kb)).run Tryd.prog w = .ok (.bool n) w)
    (BZ : ∀ w, (Instr.build 44 #[]).run Tryd.prog w = .ok (numVal zz) w)
    (H0 : Hid (n = false → res = x ∧ err = .nilIface))
    (H1 : Hid (n = true → res = zz ∧ err = er))
    (hE : w.cell? ⟨1, 0, none⟩ = some er) :
    Calls Tryd.prog 35 #[hashVal kb] w (gvn (.tuple #[numVal res, err]) w) := by
  go_enter Tryd.func35, Tryd.ntmps35
  go_wp2_with (first
    | (refine take_step rfl 23 (.tmp 0) rfl kb rfl ?_
       intro w1 hb1 hvk1 hz
       clear hz
       have hB1 := hb1
       have hgek : w.heap.size ≤ w.heap.size := Nat.le_refl _
       clear  hb1
       try simp only [putS]
       skip)
    | (refine vzero_step (o := ⟨some 2, _, _, _, _, _⟩) rfl 44 rfl (nzeros 5) zero_elem ?_
       intro w2 hb2 hvz2
       have hB2 := below_then hB1 hb2
       have hgez : w.heap.size ≤ w1.heap.size := hB1.size
       have hvk2 := hvk1.on hb2
       have hnekz := Nat.ne_of_lt hvk1.lt
       clear hB1 hvk1 hb2
       try simp only [putS]
       skip)
    | (refine get_step rfl 23 (.tmp 1) rfl w.heap.size 32 kb 5 rfl hvk2 Tryd.underlying23 size_k32 Hkb.out ?_
       try simp only [putS]
       skip))
  generalize hqz : w1.heap.size = gz at *
  clear hqz
  refine (CX.out w2).mono ?_
  rintro e w3 ⟨rfl, hb3⟩
  have hB3 := below_then hB2 hb3
  have hvk3 := hvk2.on hb3
  have hvz3 := hvz2.on hb3
  clear hB2 hvk2 hvz2 hb3
  go_wp2_with (first
    | (refine vput_step rfl rfl 44 (.tmp 4) (.tmp 6) rfl rfl 5 (nzeros 5) (x.map ncell) rfl rfl zero_elem rfl size_elem (by rw [List.length_map, Hx.out]) (ncells_one _) ?_
       intro w4 hb4 hvx4
       have hB4 := below_then hB3 hb4
       have hgex : w.heap.size ≤ w3.heap.size := hB3.size
       have hvk4 := hvk3.on hb4
       have hnekx := Nat.ne_of_lt hvk3.lt
       have hvz4 := hvz3.on hb4
       have hnezx := Nat.ne_of_lt hvz3.lt
       clear hB3 hvk3 hvz3 hb4
       try simp only [putS]
       skip))
  generalize hqx : w3.heap.size = gx at *
  clear hqx
  replace hvk4 := hvk4.drew
  replace hvz4 := hvz4.drew
  replace hvx4 := hvx4.drew
  refine wp_region_any (by kernel_rfl) ?_
  refine wpAny_flatM (L := [0, 1, 2, 3]) (by kernel_rfl) _ _ (strVs2 kb w.heap.size gz gx x kx n) [] 44 (nzeros 5) [0, 1, 2, 3, 4, 5, 6, 11, 12, 13] (by kernel_rfl) (by kernel_rfl) ?_ zero_elem ?_ (by rfl) ?_ 0 (by kernel_rfl) ?_
  · intro p hp
    exact absurd hp List.not_mem_nil
  · repeat refine all_cons rfl ?_
    exact all_nil
  · refine all_cons (.inr (mL 7 rfl fun w hb => elem_run (hvx4.on hb) Hx.out)) ?_
    refine all_cons (.inr (mC 8 rfl Tryd.func44 fun w hb => CB.out w)) ?_
    refine all_cons (.inr (mL 9 rfl fun w hb => key_run (hvk4.on hb) Hkb.out)) ?_
    refine all_cons (.inr (mB 10 rfl (fun w => key_guard _ _ _ _ _ w) (EN))) ?_
    exact all_nil
  intro w5 g hb5 hN5 hap5
  clear hN5 hap5
  have hB5 := below_then (show Below w.heap.size w w4.drew from hB4.drew) hb5
  have hvk5 := hvk4.on hb5
  have hvz5 := hvz4.on hb5
  have hvx5 := hvx4.on hb5
  clear hB4 hvk4 hvz4 hvx4 hb5
  refine ⟨by kernel_rfl, ?_⟩
  rename_i K hKK
  show Exit.then K _ Exit.normal (⟨(strVs2 kb w.heap.size gz gx x kx n).toArray, []⟩ : Act) w5
  simp only [Exit.then]
  refine hKK _ _ ?_
  clear hKK K g
  simp only [strVs2, ptr, ud]
  cases n
  · obtain ⟨hr1, hr2⟩ := H0.out (by simp)
    go_wp2_with (first
      | (refine sget_step rfl 44 (.tmp 4) rfl gx 5 (x.map ncell) rfl hvx5 Tryd.underlying44 rfl size_elem (by rw [List.length_map, Hx.out]) ?_
         try simp only [putS]
         skip)
      | (refine vset_step rfl 44 (.tmp 2) (.tmp 13) rfl gz 5 (nzeros 5) (x.map ncell) rfl rfl hvz5 rfl size_elem (by rw [List.length_map, Hx.out]) (ncells_one _) ?_
         intro w6 hb6 hvz6 hz6
         have hB6 : Below w.heap.size w w6 := hB5.trans (hb6.below hgez hB5.size)
         have hvk6 := hvk5.but hb6 hnekz
         have hvx6 := hvx5.but hb6 (Ne.symm hnezx)
         clear hB5 hvz5 hb6 hz6 hvk5 hvx5
         skip))
    exact sret2 Tryd.results35 gz (x.map ncell) _ rfl rfl hvz6 Tryd.underlying44 rfl size_elem (by rw [List.length_map, Hx.out]) rfl ⟨by subst hr1; subst hr2; rfl, hB6⟩
  · obtain ⟨hr1, hr2⟩ := H1.out (by simp)
    go_wp2_with fail
    have hlt := block_lt_of_cell hE
    have d0 : w5.drew.cell? ⟨1, 0, none⟩ = some er := (hB5.cell hlt).trans hE
    have hne : 1 ≠ gz := Nat.ne_of_lt (Nat.lt_of_lt_of_le hlt hgez)
    have hzd := hvz5.drew
    have hBd : Below w.heap.size w w5.drew := hB5.drew
    have LE : ∀ w' : World, w'.cell? ⟨1, 0, none⟩ = some er → (Instr.loadAt 48 (.pointer (some ⟨1, 0, none⟩))).run Tryd.prog w' = .ok er w' := fun w' h => load_err h
    refine wp_region_any (by kernel_rfl) ?_
    show wpAny _ _ _ _ _ _ _ w5.drew
    simp only [List.size_toArray, List.length_cons, List.length_nil, Nat.reduceAdd, Array.replicate_succ, Array.replicate_zero, List.push_toArray, List.nil_append, List.cons_append]
    generalize w5.drew = wd at *
    refine wpAny_take (i := 0) (oi := ⟨some 11, _, _, _, _, _⟩) (v := numVal zz) rfl (by kernel_rfl) (by kernel_rfl) (by kernel_rfl) (fun _ _ _ h => h) (Or.inl ⟨by rfl, ?_⟩) ?_
    · intro w8
      simp [execOp, BZ w8]
    try simp only [putS]
    refine wpAny_all (rs := [1, 2]) (by kernel_rfl) (by decide) fun i hi => ?_
    rcases List.mem_cons.1 hi with rfl | hi
    · refine wpOp_step rfl fun K1 hK1 => ?_
      rw [if_pos (by rfl)]
      refine flat_pure er (exec_load _ _ _ _ rfl _ _ rfl _ (LE _ d0)) (hK1 _ _ ?_)
      try simp only [putS]
      refine wpAny_rest 2 rfl (by kernel_rfl) ?_
      refine vset_step rfl 44 (.tmp 2) (.tmp 11) rfl gz 5 (nzeros 5) (zz.map ncell) rfl rfl hzd rfl size_elem (by rw [List.length_map, Hzz.out]) (ncells_one _) ?_
      intro w9 hb9 hz9 hs9
      have hB9 : Below w.heap.size w w9 := hBd.trans (hb9.below hgez hBd.size)
      refine wpList_move rfl (.inr rfl) er (by rfl) ?_
      clear hK1
      go_wp2_with fail
      exact sret2 Tryd.results35 gz (zz.map ncell) _ rfl rfl hz9 Tryd.underlying44 rfl size_elem (by rw [List.length_map, Hzz.out]) rfl ⟨by subst hr1; subst hr2; rfl, hB9⟩
    rcases List.mem_cons.1 hi with rfl | hi
    · refine wpOp_step rfl fun K1 hK1 => ?_
      rw [if_pos (by rfl)]
      refine wp_store_mid 44 (.tmp 2) (.tmp 11) rfl gz 0 (zz.map ncell).toArray rfl rfl (by rw [List.size_toArray, List.length_map, Hzz.out]; exact hzd.there 0 5 (by decide)) (by rw [List.size_toArray, List.length_map, Hzz.out]; exact size_elem) (ncells_one _) (hK1 _ _ ?_)
      have hC2 := hzd.setCells (cs := zz.map ncell) (o := 0) (by rw [List.length_map, Hzz.out]; decide)
      rw [splice_all _ _ (by rw [List.length_map, Hzz.out]; rfl)] at hC2
      have hb9 : But gz wd (wd.setCells gz 0 (zz.map ncell)) := (But.refl _ _).setCells _ _
      have hB9 : Below w.heap.size w (wd.setCells gz 0 (zz.map ncell)) := hBd.trans (hb9.below hgez hBd.size)
      have d1 : (wd.setCells gz 0 (zz.map ncell)).cell? ⟨1, 0, none⟩ = some er := (World.cell?_of_block (hb9.block _ (block_lt_of_cell d0) hne)).trans d0
      change wpAny _ _ _ _ _ _ _ (wd.setCells gz 0 (zz.map ncell))
      have hz9 := hC2
      clear hC2 hb9 hK1
      generalize wd.setCells gz 0 (zz.map ncell) = w9 at *
      refine wpAny_all (rs := [1]) (by kernel_rfl) (by decide) fun i hi => ?_
      rcases List.mem_cons.1 hi with rfl | hi
      · refine wpOp_step rfl fun K1 hK1 => ?_
        rw [if_pos (by rfl)]
        refine flat_pure er (exec_load _ _ _ _ rfl _ _ rfl _ (LE _ d1)) (hK1 _ _ ?_)
        try simp only [putS]
        refine wpAny_rest 3 rfl (by kernel_rfl) ?_
        refine wpList_move rfl (.inr rfl) er (by rfl) ?_
        clear hK1
        go_wp2_with fail
        exact sret2 Tryd.results35 gz (zz.map ncell) _ rfl rfl hz9 Tryd.underlying44 rfl size_elem (by rw [List.length_map, Hzz.out]) rfl ⟨by subst hr1; subst hr2; rfl, hB9⟩
      exact absurd hi List.not_mem_nil
    exact absurd hi List.not_mem_nil
end Go.Proofs.YtoggkhjaghkpnaaDoor
