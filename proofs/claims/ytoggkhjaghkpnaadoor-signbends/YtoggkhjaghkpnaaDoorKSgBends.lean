/- The walk of the law SignBends. (Made by tools/mklaws13.py.) -/
import Derived.Test.YtoggkhjaghkpnaaDoorPart23
import Derived.Test.YtoggkhjaghkpnaaDoorPart11
import Derived.Test.YtoggkhjaghkpnaaDoorPart12
import Derived.Deep.Cut
import Derived.Test.YtoggkhjaghkpnaaDoorPart19
import Derived.Test.YtoggkhjaghkpnaaDoorPart1
namespace Go.Proofs.YtoggkhjaghkpnaaDoor
open Go.RowKit
set_option maxRecDepth 100000 in
set_option maxHeartbeats 1000000 in
theorem sgBendsLong_over (A : Option Addr) (n c : Nat) (ks ob : List UInt8) (E : Value) (w : World)
    (Hn : Hid (300 < n))
    (CAL : Hid (∀ W, SgTabs E W → Calls Tryd.prog 4 #[] W (gvn (.bool true) W)))
    (hS : SgTabs E w) :
    Calls Tryd.prog 3 #[hashVal ks, .slice A n c, hashVal ob] w (gvn (.bool true) w) := by
  go_enter Tryd.func3, Tryd.ntmps3
  have i1 : (300 : Int) < (n : Int) := by have := Hn.out; omega
  go_wp2_with (first
    | (refine take_step rfl 23 (.tmp 0) rfl ks rfl ?_
       intro w1 hb1 hvk1 hz
       clear hz
       have hB1 := hb1
       have hgek : w.heap.size ≤ w.heap.size := Nat.le_refl _
       clear  hb1
       try simp only [putS]
       skip)
    | (refine take_step rfl 23 (.tmp 2) rfl ob rfl ?_
       intro w2 hb2 hvo2 hz
       clear hz
       have hB2 := below_then hB1 hb2
       have hgeo : w.heap.size ≤ w1.heap.size := hB1.size
       have hvk2 := hvk1.on hb2
       have hneko := Nat.ne_of_lt hvk1.lt
       clear hB1 hvk1 hb2
       try simp only [putS]
       skip))
  generalize hqo : w1.heap.size = go at *
  clear hqo
  refine (CAL.out w2 (hS.below hB2)).mono ?_
  rintro e w3 ⟨rfl, hb3⟩
  have hB3 := below_then hB2 hb3
  have hvk3 := hvk2.on hb3
  have hvo3 := hvo2.on hb3
  clear hB2 hvk2 hvo2 hb3
  go_wp2
  go_ret
  exact ⟨rfl, hB3⟩
/-- What the operations of this region yield. -/
def sgLbYields (ks : List UInt8) (pb : List UInt8) (sb : List UInt8) (tb : List UInt8) (text : List UInt8) (A : Option Addr) (n : Nat) (c : Nat) (ok : Bool) (i : Nat) (v : Value) (w : World) : Prop := match i with
  | 0 => v = hashVal ks
  | 1 => v = hashVal pb
  | 2 => v = hashVal tb
  | 3 => v = .slice A n c
  | 4 => ∃ g, v = .slice (some ⟨g, 0, none⟩) 1 1 ∧ PartsAt (some ⟨g, 0, none⟩) [text] w
  | 5 => v = .bool ok
  | 6 => v = hashVal tb
  | 7 => v = hashVal sb
  | 8 => v = .bool ok
  | 9 => v = .bool true
  | 10 => v = .bool true
  | _ => True
theorem sgLbYields_on {ks : List UInt8} {pb : List UInt8} {sb : List UInt8} {tb : List UInt8} {text : List UInt8} {A : Option Addr} {n : Nat} {c : Nat} {ok : Bool} {i : Nat} {v : Value} {w w' : World} (h : sgLbYields ks pb sb tb text A n c ok i v w) (hk : Kept w w') : sgLbYields ks pb sb tb text A n c ok i v w' := by
  unfold sgLbYields at h ⊢
  split
  all_goals first
    | exact h
    | trivial
    | (obtain ⟨g, h1, h2⟩ := h
       exact ⟨g, h1, h2.kept hk⟩)
    | (obtain ⟨g, fr, h1, h2, h3⟩ := h
       obtain ⟨fr2, h4⟩ := hk.row _ _ _ _ h3
       exact ⟨g, fr2, h1, h2, h4⟩)
set_option maxRecDepth 100000 in
set_option maxHeartbeats 4000000 in
theorem sgBends_over (A : Option Addr) (n c : Nat) (ks ob text pb sb tb : List UInt8) (ok : Bool) (E : Value) (w : World)
    (Hks : Hid (ks.length = 32))
    (Hob : Hid (ob.length = 32))
    (Hsb : Hid (sb.length = 64))
    (Htb : Hid (tb.length = 64))
    (Hn : Hid (n ≤ 300))
    (HSP : Hid (splice (sb.map cellOf) 32 ((ob.take 32).map cellOf) = tb.map cellOf))
    (CAL : Hid (∀ W, SgTabs E W → Calls Tryd.prog 4 #[] W (gvn (.bool true) W)))
    (CS : Hid (∀ g W, PartsAt (some ⟨g, 0, none⟩) [text] W → SgTabs E W → Calls Tryd.prog 5 #[hashVal ks, .slice (some ⟨g, 0, none⟩) 1 1] W (gvn (hashVal sb) W)))
    (CP : Hid (∀ W, SgTabs E W → Calls Tryd.prog 7 #[hashVal ks] W (gvn (hashVal pb) W)))
    (CV : Hid (∀ g W, PartsAt (some ⟨g, 0, none⟩) [text] W → SgTabs E W → Calls Tryd.prog 6 #[hashVal pb, hashVal tb, .slice (some ⟨g, 0, none⟩) 1 1] W (gvn (.bool ok) W)))
    (EQS : ∀ w, (binOp .eql 27 (hashVal tb) (hashVal sb)).run Tryd.prog w = .ok (.bool ok) w)
    (hS : SgTabs E w)
    (hT : TextAt A n c text w) :
    Calls Tryd.prog 3 #[hashVal ks, .slice A n c, hashVal ob] w (gvn (.bool true) w) := by
  go_enter Tryd.func3, Tryd.ntmps3
  have i1 : ¬ (300 : Int) < (n : Int) := by have := Hn.out; omega
  go_wp2_with (first
    | (refine take_step rfl 23 (.tmp 0) rfl ks rfl ?_
       intro w1 hb1 hvk1 hz
       clear hz
       have hB1 := hb1
       have hgek : w.heap.size ≤ w.heap.size := Nat.le_refl _
       clear  hb1
       try simp only [putS]
       skip)
    | (refine take_step rfl 23 (.tmp 2) rfl ob rfl ?_
       intro w2 hb2 hvo2 hz
       clear hz
       have hB2 := below_then hB1 hb2
       have hgeo : w.heap.size ≤ w1.heap.size := hB1.size
       have hvk2 := hvk1.on hb2
       have hneko := Nat.ne_of_lt hvk1.lt
       clear hB1 hvk1 hb2
       try simp only [putS]
       skip))
  generalize hqo : w1.heap.size = go at *
  clear hqo
  refine (CAL.out w2 (hS.below hB2)).mono ?_
  rintro e w3 ⟨rfl, hb3⟩
  have hB3 := below_then hB2 hb3
  have hvk3 := hvk2.on hb3
  have hvo3 := hvo2.on hb3
  clear hB2 hvk2 hvo2 hb3
  go_wp2_with (first
    | (refine get_step rfl 23 (.tmp 3) rfl w.heap.size 32 ks 5 rfl hvk3 Tryd.underlying23 size_k32 Hks.out ?_
       try simp only [putS]
       skip)
    | (refine ulit_step rfl 32 1 [(0, .tmp 15)] rfl [(0, .slice A n c)] rfl 24 ([.slice A n c].map anyc) (lit_parts1 _ _ _) ?_
       intro w4 hb4 hl4
       have hB4 := below_then hB3 hb4
       have hvk4 := hvk3.on hb4
       have hvo4 := hvo3.on hb4
       have hA4 := hT.below hB4
       have hP4 : PartsAt (some ⟨w3.heap.size, 0, none⟩) [text] w4 := parts_one_cells hl4 (Part.mk hA4.1 hA4.2.2.2.2 hA4.2.2.2.1 hA4.2.1 hA4.2.2.1)
       clear hb4 hl4 hA4 hB3 hvk3 hvo3
       try simp only [putS]
       skip))
  refine (CS.out _ w4 hP4 (hS.below hB4)).mono ?_
  rintro e w5 ⟨rfl, hb5⟩
  clear hP4
  generalize w3.heap.size = gq at *
  have hB5 := below_then hB4 hb5
  have hvk5 := hvk4.on hb5
  have hvo5 := hvo4.on hb5
  clear hB4 hvk4 hvo4 hb5
  go_wp2_with (first
    | (refine vput_step rfl rfl 27 (.tmp 7) (.tmp 17) rfl rfl 64 zsig (sb.map cellOf) rfl rfl zero_sig rfl size_sig (by rw [List.length_map, Hsb.out]) (kcells_one _) ?_
       intro w6 hb6 hvs6
       have hB6 := below_then hB5 hb6
       have hges : w.heap.size ≤ w5.heap.size := hB5.size
       have hvk6 := hvk5.on hb6
       have hneks := Nat.ne_of_lt hvk5.lt
       have hvo6 := hvo5.on hb6
       have hneos := Nat.ne_of_lt hvo5.lt
       clear hB5 hvk5 hvo5 hb6
       try simp only [putS]
       skip)
    | (refine sget_step rfl 27 (.tmp 7) rfl w5.heap.size 64 (sb.map cellOf) rfl hvs6 Tryd.underlying27 rfl size_sig (by rw [List.length_map, Hsb.out]) ?_
       try simp only [putS]
       skip)
    | (refine vput_step rfl rfl 27 (.tmp 8) (.tmp 18) rfl rfl 64 zsig (sb.map cellOf) rfl rfl zero_sig rfl size_sig (by rw [List.length_map, Hsb.out]) (kcells_one _) ?_
       intro w7 hb7 hvt7
       have hB7 := below_then hB6 hb7
       have hget : w.heap.size ≤ w6.heap.size := hB6.size
       have hvk7 := hvk6.on hb7
       have hnekt := Nat.ne_of_lt hvk6.lt
       have hvo7 := hvo6.on hb7
       have hneot := Nat.ne_of_lt hvo6.lt
       have hvs7 := hvs6.on hb7
       have hnest := Nat.ne_of_lt hvs6.lt
       clear hB6 hvk6 hvo6 hvs6 hb7
       try simp only [putS]
       skip))
  generalize hqs : w5.heap.size = gs at *
  clear hqs
  generalize hqt : w6.heap.size = gt at *
  clear hqt
  refine wp_region_any (by kernel_rfl) ?_
  show wpAny _ _ _ _ _ _ _ w7.drew
  simp only [List.size_toArray, List.length_cons, List.length_nil, Nat.reduceAdd, Array.replicate_succ, Array.replicate_zero, List.push_toArray, List.nil_append, List.cons_append]
  refine wpAny_take (i := 0) (oi := ⟨some 19, _, _, _, _, _⟩) (v := .slice (some ⟨gt, 32, none⟩) 32 32) rfl (by kernel_rfl) (by kernel_rfl) (by kernel_rfl) (fun _ _ _ h => h) (Or.inl ⟨by rfl, ?_⟩) ?_
  · (intro w; go_simp; try with_reducible rfl)
  try simp only [putS]
  refine wpAny_take (i := 1) (oi := ⟨some 20, _, _, _, _, _⟩) (v := .slice (some ⟨go, 0, none⟩) 32 32) rfl (by kernel_rfl) (by kernel_rfl) (by kernel_rfl) (fun _ _ _ h => h) (Or.inl ⟨by rfl, ?_⟩) ?_
  · (intro w; go_simp; try with_reducible rfl)
  try simp only [putS]
  have hB8 : Below w.heap.size w w7.drew := hB7.drew
  have hvk8 := hvk7.drew
  have hvo8 := hvo7.drew
  have hvs8 := hvs7.drew
  have hvt8 := hvt7.drew
  clear hB7 hvk7 hvo7 hvs7 hvt7
  generalize w7.drew = w8 at *
  refine wpAny_by (i := 2) (by kernel_rfl) rfl rfl ?_
  refine copy_row rfl (.tmp 19) (.tmp 20) rfl gt 32 32 32 32 32 w8.heap.size 32 (some ⟨go, 0, none⟩) ob rfl rfl Hob.out rfl (Cells.row (m := 32) hvo8 (by rw [List.take_of_length_le (by rw [List.length_map, Hob.out]; decide)])) (hvt8.there 32 32 (by rw [List.length_map, Hsb.out]; decide)) ?_
  rintro w9 hw
  refine ⟨rfl, wpAny_done (by kernel_rfl) ?_ _⟩
  have hC9 := hvt8.setCells (cs := (ob.take 32).map cellOf) (o := 32) (by rw [List.length_map, List.length_map, List.length_take, Hob.out, Hsb.out]; decide)
  rw [HSP.out, ← hw] at hC9
  have hb9 : But gt w8 w9 := by rw [hw]; exact (But.refl _ _).setCells _ _
  have hB9 : Below w.heap.size w w9 := hB8.trans (hb9.below hget hB8.size)
  have hvk9 := hvk8.but hb9 hnekt
  have hvo9 := hvo8.but hb9 hneot
  have hvs9 := hvs8.but hb9 hnest
  clear hw hb9 hB8 hvt8 hvk8 hvo8 hvs8
  rename_i K hKK
  simp only [Exit.then]
  refine hKK _ _ ?_
  clear hKK K
  go_wp2_with fail
  have hB10 : Below w.heap.size w w9.drew := hB9.drew
  have hvk10 := hvk9.drew
  have hvo10 := hvo9.drew
  have hvs10 := hvs9.drew
  have hvt10 := hC9.drew
  refine wp_region_any (by kernel_rfl) ?_
  show wpAny _ _ _ _ _ _ _ w9.drew
  simp only [List.size_toArray, List.length_cons, List.length_nil, Nat.reduceAdd, Array.replicate_succ, Array.replicate_zero, List.push_toArray, List.nil_append, List.cons_append]
  clear hB9 hvk9 hvo9 hvs9 hC9
  generalize w9.drew = w10 at *
  have rk := hvk10.range 0 32
  rw [List.drop_zero, List.take_of_length_le (by rw [List.length_map, Hks.out]; omega)] at rk
  have rs := hvs10.range 0 64
  rw [List.drop_zero, List.take_of_length_le (by rw [List.length_map, Hsb.out]; omega)] at rs
  have rt := hvt10.range 0 64
  rw [List.drop_zero, List.take_of_length_le (by rw [List.length_map, Htb.out]; omega)] at rt
  refine wpAny_looseA (L := [0, 1, 2, 3, 4, 5, 6, 7, 8, 9, 10]) (fins := [(#[true, true, true, true, true, true, true, true, true, true, true], 0)]) (LooseK w10 _ [(0, 22), (1, 23), (2, 24), (3, 25), (4, 26), (5, 27), (6, 28), (7, 29), (8, 30), (9, 31), (10, 6)] (sgLbYields ks pb sb tb text A n c ok)) ?_ ?_ 11 _ _ _ (by kernel_rfl) ⟨Below.refl _ _, rfl, rfl, fun _ _ => rfl, ?_⟩
  rotate_left 2
  · intro p hp hl
    simp only [List.mem_cons, List.not_mem_nil, or_false] at hp
    rcases hp with rfl | rfl | rfl | rfl | rfl | rfl | rfl | rfl | rfl | rfl | rfl
    all_goals cases hl
  · intro i hi
    simp only [List.mem_cons, List.not_mem_nil, or_false] at hi
    rcases hi with rfl | rfl | rfl | rfl | rfl | rfl | rfl | rfl | rfl | rfl | rfl
    · refine loose_stepK (slots := [(0, 22), (1, 23), (2, 24), (3, 25), (4, 26), (5, 27), (6, 28), (7, 29), (8, 30), (9, 31), (10, 6)]) (prop := sgLbYields ks pb sb tb text A n c ok) (by decide) (by decide) 32 rfl (by decide) (fun _ _ _ _ h hk => sgLbYields_on h hk) (i := 0) (s := 22) (by decide) rfl rfl ?_
      intro a w6 K hb hs hd hsame hfact hK hM
      exact load_op rfl 23 (.tmp 3) rfl (w.heap.size) 0 (hsame 3 (by decide)) (ks.map cellOf) _ (range_on rk hvk10.lt hb) Tryd.underlying23 rfl (by rw [List.length_map, Hks.out]; exact size_k32) (hK _ _ (Below.refl _ _) rfl)
    · refine loose_stepK (slots := [(0, 22), (1, 23), (2, 24), (3, 25), (4, 26), (5, 27), (6, 28), (7, 29), (8, 30), (9, 31), (10, 6)]) (prop := sgLbYields ks pb sb tb text A n c ok) (by decide) (by decide) 32 rfl (by decide) (fun _ _ _ _ h hk => sgLbYields_on h hk) (i := 1) (s := 23) (by decide) rfl rfl ?_
      intro a w6 K hb hs hd hsame hfact hK hM
      refine call_op rfl 7 [.tmp 22] _ rfl [hashVal ks] ?_ (enters Tryd.func7 (by kernel_rfl) (by kernel_rfl)) (CP.out w6 (hS.below (below_then hB10 hb))) ?_
      · simp only [List.map_cons, List.map_nil]
        rw [(show a.eval (.tmp 22) = hashVal ks from hfact (0, 22) (by decide) (by kernel_rfl))]
      · rintro e w7 ⟨rfl, hb7⟩
        exact ⟨_, rfl, hK _ _ hb7 rfl⟩
    · refine loose_stepK (slots := [(0, 22), (1, 23), (2, 24), (3, 25), (4, 26), (5, 27), (6, 28), (7, 29), (8, 30), (9, 31), (10, 6)]) (prop := sgLbYields ks pb sb tb text A n c ok) (by decide) (by decide) 32 rfl (by decide) (fun _ _ _ _ h hk => sgLbYields_on h hk) (i := 2) (s := 24) (by decide) rfl rfl ?_
      intro a w6 K hb hs hd hsame hfact hK hM
      exact load_op rfl 27 (.tmp 8) rfl gt 0 (hsame 8 (by decide)) (tb.map cellOf) _ (range_on rt hvt10.lt hb) Tryd.underlying27 rfl (by rw [List.length_map, Htb.out]; exact size_sig) (hK _ _ (Below.refl _ _) rfl)
    · refine loose_stepK (slots := [(0, 22), (1, 23), (2, 24), (3, 25), (4, 26), (5, 27), (6, 28), (7, 29), (8, 30), (9, 31), (10, 6)]) (prop := sgLbYields ks pb sb tb text A n c ok) (by decide) (by decide) 32 rfl (by decide) (fun _ _ _ _ h hk => sgLbYields_on h hk) (i := 3) (s := 25) (by decide) rfl rfl ?_
      intro a w6 K hb hs hd hsame hfact hK hM
      exact quiet_op rfl _ (exec_move _ _ _ (.inl rfl) _ (show a.eval (.tmp 1) = .slice A n c from hsame 1 (by decide)) w6) (hK _ _ (Below.refl _ _) rfl)
    · refine loose_stepK (slots := [(0, 22), (1, 23), (2, 24), (3, 25), (4, 26), (5, 27), (6, 28), (7, 29), (8, 30), (9, 31), (10, 6)]) (prop := sgLbYields ks pb sb tb text A n c ok) (by decide) (by decide) 32 rfl (by decide) (fun _ _ _ _ h hk => sgLbYields_on h hk) (i := 4) (s := 26) (by decide) rfl rfl ?_
      intro a w6 K hb hs hd hsame hfact hK hM
      have hT6 := hT.below (below_then hB10 hb)
      refine lit_op rfl 32 1 [(0, .tmp 25)] rfl [(0, .slice A n c)] ?_ 24 ([.slice A n c].map anyc) (lit_parts1 _ _ _) (fun w' hb' hc' => hK _ _ hb' ⟨_, rfl, parts_one_cells hc' (Part.mk hT6.1 (hT6.2.2.2.2.on hb') hT6.2.2.2.1 hT6.2.1 hT6.2.2.1)⟩)
      simp only [List.map_cons, List.map_nil]
      rw [(show a.eval (.tmp 25) = .slice A n c from hfact (3, 25) (by decide) (by kernel_rfl))]
    · refine loose_stepK (slots := [(0, 22), (1, 23), (2, 24), (3, 25), (4, 26), (5, 27), (6, 28), (7, 29), (8, 30), (9, 31), (10, 6)]) (prop := sgLbYields ks pb sb tb text A n c ok) (by decide) (by decide) 32 rfl (by decide) (fun _ _ _ _ h hk => sgLbYields_on h hk) (i := 5) (s := 27) (by decide) rfl rfl ?_
      intro a w6 K hb hs hd hsame hfact hK hM
      obtain ⟨g26, e26, hp26⟩ := hfact (4, 26) (by decide) (by kernel_rfl)
      refine call_op rfl 6 [.tmp 23, .tmp 24, .tmp 26] _ rfl [hashVal pb, hashVal tb, .slice (some ⟨g26, 0, none⟩) 1 1] ?_ (enters Tryd.func6 (by kernel_rfl) (by kernel_rfl)) (CV.out g26 w6 hp26 (hS.below (below_then hB10 hb))) ?_
      · simp only [List.map_cons, List.map_nil]
        rw [(show a.eval (.tmp 23) = hashVal pb from hfact (1, 23) (by decide) (by kernel_rfl)), (show a.eval (.tmp 24) = hashVal tb from hfact (2, 24) (by decide) (by kernel_rfl)), (show a.eval (.tmp 26) = .slice (some ⟨g26, 0, none⟩) 1 1 from e26)]
      · rintro e w7 ⟨rfl, hb7⟩
        exact ⟨_, rfl, hK _ _ hb7 rfl⟩
    · refine loose_stepK (slots := [(0, 22), (1, 23), (2, 24), (3, 25), (4, 26), (5, 27), (6, 28), (7, 29), (8, 30), (9, 31), (10, 6)]) (prop := sgLbYields ks pb sb tb text A n c ok) (by decide) (by decide) 32 rfl (by decide) (fun _ _ _ _ h hk => sgLbYields_on h hk) (i := 6) (s := 28) (by decide) rfl rfl ?_
      intro a w6 K hb hs hd hsame hfact hK hM
      exact load_op rfl 27 (.tmp 8) rfl gt 0 (hsame 8 (by decide)) (tb.map cellOf) _ (range_on rt hvt10.lt hb) Tryd.underlying27 rfl (by rw [List.length_map, Htb.out]; exact size_sig) (hK _ _ (Below.refl _ _) rfl)
    · refine loose_stepK (slots := [(0, 22), (1, 23), (2, 24), (3, 25), (4, 26), (5, 27), (6, 28), (7, 29), (8, 30), (9, 31), (10, 6)]) (prop := sgLbYields ks pb sb tb text A n c ok) (by decide) (by decide) 32 rfl (by decide) (fun _ _ _ _ h hk => sgLbYields_on h hk) (i := 7) (s := 29) (by decide) rfl rfl ?_
      intro a w6 K hb hs hd hsame hfact hK hM
      exact load_op rfl 27 (.tmp 7) rfl gs 0 (hsame 7 (by decide)) (sb.map cellOf) _ (range_on rs hvs10.lt hb) Tryd.underlying27 rfl (by rw [List.length_map, Hsb.out]; exact size_sig) (hK _ _ (Below.refl _ _) rfl)
    · refine loose_stepK (slots := [(0, 22), (1, 23), (2, 24), (3, 25), (4, 26), (5, 27), (6, 28), (7, 29), (8, 30), (9, 31), (10, 6)]) (prop := sgLbYields ks pb sb tb text A n c ok) (by decide) (by decide) 32 rfl (by decide) (fun _ _ _ _ h hk => sgLbYields_on h hk) (i := 8) (s := 30) (by decide) rfl rfl ?_
      intro a w6 K hb hs hd hsame hfact hK hM
      exact quiet_op rfl _ (exec_bin _ _ _ _ _ _ _ rfl (hashVal tb) (hashVal sb) _ (show a.eval (.tmp 28) = hashVal tb from hfact (6, 28) (by decide) (by kernel_rfl)) (show a.eval (.tmp 29) = hashVal sb from hfact (7, 29) (by decide) (by kernel_rfl)) w6 (sig_guard _ _ _ _ _ w6) (EQS w6)) (hK _ _ (Below.refl _ _) rfl)
    · refine loose_stepK (slots := [(0, 22), (1, 23), (2, 24), (3, 25), (4, 26), (5, 27), (6, 28), (7, 29), (8, 30), (9, 31), (10, 6)]) (prop := sgLbYields ks pb sb tb text A n c ok) (by decide) (by decide) 32 rfl (by decide) (fun _ _ _ _ h hk => sgLbYields_on h hk) (i := 9) (s := 31) (by decide) rfl rfl ?_
      intro a w6 K hb hs hd hsame hfact hK hM
      exact quiet_op rfl _ (exec_bin _ _ _ _ _ _ _ rfl (.bool ok) (.bool ok) _ (show a.eval (.tmp 27) = .bool ok from hfact (5, 27) (by decide) (by kernel_rfl)) (show a.eval (.tmp 30) = .bool ok from hfact (8, 30) (by decide) (by kernel_rfl)) w6 (bool_guard _ _ _ _ _ w6) (bool_self _ w6)) (hK _ _ (Below.refl _ _) rfl)
    · refine loose_stepK (slots := [(0, 22), (1, 23), (2, 24), (3, 25), (4, 26), (5, 27), (6, 28), (7, 29), (8, 30), (9, 31), (10, 6)]) (prop := sgLbYields ks pb sb tb text A n c ok) (by decide) (by decide) 32 rfl (by decide) (fun _ _ _ _ h hk => sgLbYields_on h hk) (i := 10) (s := 6) (by decide) rfl rfl ?_
      intro a w6 K hb hs hd hsame hfact hK hM
      exact quiet_op rfl _ (exec_move _ _ _ (.inr rfl) _ (show a.eval (.tmp 31) = .bool true from hfact (9, 31) (by decide) (by kernel_rfl)) w6) (hK _ _ (Below.refl _ _) rfl)
  · intro f hf a w11 hA
    obtain rfl := List.mem_singleton.1 hf
    have hB11 := below_then hB10 hA.below
    have sR : a.tmps.getD 6 undef = .bool true := hA.fact (10, 6) (by decide) (by kernel_rfl)
    obtain ⟨u, rfl⟩ := loose_frame32 a hA.size hA.defers
    change u 6 = _ at sR
    rw [sR]
    clear sR hA hB10
    refine wpAny_done (by kernel_rfl) ?_ _
    rename_i K hKK
    simp only [Exit.then]
    refine hKK _ _ ?_
    clear hKK K
    go_wp2
    go_ret
    exact ⟨rfl, hB11⟩
end Go.Proofs.YtoggkhjaghkpnaaDoor
