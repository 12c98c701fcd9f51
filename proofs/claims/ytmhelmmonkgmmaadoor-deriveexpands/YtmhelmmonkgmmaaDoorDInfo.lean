/- Package derive: twoBytes, Info. -/
import Derived.Test.YtmhelmmonkgmmaaDoorDConcat
import Derived.Test.YtmhelmmonkgmmaaDoorDExpand
namespace Go.Proofs.YtmhelmmonkgmmaaDoor
open Go.RowKit
set_option maxRecDepth 100000 in
theorem twoBytes_any (n : Nat) (w : World) (hn : n ≤ 65535) :
    Calls Tryd.prog 25 #[.int .i64 (n : Int)] w fun e w' => e = .returned (.slice (some ⟨w.heap.size, 0, none⟩) 2 2) ∧ Below w.heap.size w w' ∧ Row w' w'.heap.size (some ⟨w.heap.size, 0, none⟩) (two8 n) := by
  go_enter Tryd.func25, Tryd.ntmps25
  go_wp2
  have e : (#[.int .u8 ((n : Int) / 256), .int .u8 ((n : Int) % 256)] : Array Value) = ((two8 n).map cellOf).toArray := by
    have h1 : cellOf (UInt8.ofNat (n / 256)) = .int .u8 ((n : Int) / 256) := by
      show Value.int .u8 _ = _
      rw [UInt8.toNat_ofNat']
      congr 1
      omega
    have h2 : cellOf (UInt8.ofNat n) = .int .u8 ((n : Int) % 256) := by
      show Value.int .u8 _ = _
      rw [UInt8.toNat_ofNat']
      congr 1
    rw [two8, List.map_cons, List.map_cons, List.map_nil, h1, h2]
  rw [e]
  go_ret
  exact ⟨rfl, (Below.refl _ _).alloc (Nat.le_refl _) _, by rw [World.size_alloc]; exact row_lit w (two8 n) (0, 0)⟩
set_option maxRecDepth 100000 in
set_option maxHeartbeats 800000 in
theorem info_any (B : Option Addr) (d m n x : Nat) (lb ctx : List UInt8) (w : World) (hl : lb.length = n) (hn : n ≤ 200) (hbl : ctx.length = m) (hb : Row w w.heap.size B ctx) (hB : B = none → d = 0) (hd : m ≤ d) (hd2 : d ≤ maxLen) (hm : m ≤ 16384) (hx : x ≤ 8160) :
    Calls Tryd.prog 14 #[.string (str lb), .slice B m d, .int .i64 (x : Int)] w (GivesOk w (infoL lb ctx x) (16 + n + m)) := by
  have i1 : ¬ (x : Int) < 0 := by omega
  have i2 : ¬ (8160 : Int) < (x : Int) := by omega
  have HL := Lib.hid hl
  have HBL := Lib.hid hbl
  have hsz : (str lb).size = n := by rw [str_size, hl]
  have i3 : ¬ (200 : Int) < (n : Int) := by omega
  have i4 : ¬ (16384 : Int) < (m : Int) := by omega
  clear hl hbl
  go_enter Tryd.func14, Tryd.ntmps14
  have HE : Hid (({ data := #[102, 101, 108, 108, 111, 119, 115, 104, 105, 112, 32] } : ByteArray) ++ str lb = str (labelPre ++ lb)) := str_append labelPre lb
  have HNL : Hid ((labelPre ++ lb).length = 11 + n) := by show _ = _; rw [List.length_append, HL.out]; rfl
  have HTL : Hid ([two8 x, [UInt8.ofNat (11 + n)], labelPre ++ lb, two8 m, ctx].flatten.length = 16 + n + m) := by
    show _ = _
    simp only [List.flatten_cons, List.flatten_nil, List.length_append, HL.out, HBL.out, two8, labelPre, List.length_cons, List.length_nil]
    omega
  have HIE : Hid ([two8 x, [UInt8.ofNat (11 + n)], labelPre ++ lb, two8 m, ctx].flatten = infoL lb ctx x) := by
    show _ = _
    rw [infoL, HL.out, HBL.out]
    simp
  go_wp2_with fail
  rw [HE.out]
  clear HE hsz
  refine (twoBytes_any x w (by omega)).mono ?_
  rintro e w1 ⟨rfl, hB1, hR1⟩
  generalize hnm : labelPre ++ lb = name at *
  replace hnm := Lib.hid hnm
  have hsz : (str name).size = 11 + n := by rw [str_size, HNL.out]
  have e8 : cellOf (UInt8.ofNat (11 + n)) = .int .u8 ((11 : Int) + (n : Int)) := by
    show Value.int .u8 _ = _
    rw [UInt8.toNat_ofNat']
    congr 1
    omega
  have HE8 := Lib.hid e8
  clear e8
  have hB2 : Below w1.heap.size w1 (w1.alloc (.cells #[.int .u8 ((11 : Int) + (n : Int))] 5)) := (Below.refl _ _).alloc (Nat.le_refl _) _
  have hR2 : Row (w1.alloc (.cells #[.int .u8 ((11 : Int) + (n : Int))] 5)) (w1.alloc (.cells #[.int .u8 ((11 : Int) + (n : Int))] 5)).heap.size (some ⟨w1.heap.size, 0, none⟩) [UInt8.ofNat (11 + n)] := by
    rw [World.size_alloc, ← HE8.out]
    exact row_lit w1 [UInt8.ofNat (11 + n)] (0, 0)
  have HB2 := Lib.hid hB2
  have HR2 := Lib.hid hR2
  clear hB2 hR2
  go_wp2_with (first
    | (generalize w1.alloc (.cells #[.int .u8 ((11 : Int) + (n : Int))] 5) = w2 at *
       refine bytes_step rfl (.tmp 33) rfl (11 + n) name HNL.out rfl (by omega) ?_
       intro w3 c3 hb3 hR3 hz3 hc3 hm3
       clear hz3
       have hb13 := below_then HB2.out hb3
       have HP1 := Lib.hid (Part.mk (c := 2) rfl (hR1.on hb13) (fun h => by cases h) (Nat.le_refl _) (by unfold maxLen; omega))
       have HP2 := Lib.hid (Part.mk (c := 1) rfl (HR2.out.on hb3) (fun h => by cases h) (Nat.le_refl _) (by unfold maxLen; omega))
       have HP3 := Lib.hid (Part.mk HNL.out hR3 (fun h => by cases h) hc3 hm3)
       have hB3 := below_then hB1 hb13
       clear hb13 HB2 HR2 hb3 hR3 hR1 hB1
       generalize w1.heap.size = g1 at *
       generalize w2.heap.size = g2 at *))
  refine (twoBytes_any m w3 (by omega)).mono ?_
  rintro e w4 ⟨rfl, hb4, hR4⟩
  have hB4 := below_then hB3 hb4
  have HP6 := Lib.hid (parts_five w4 _ _ _ _ (.slice B m d) _ _ _ _ _ (HP1.out.on hb4) (HP2.out.on hb4) (HP3.out.on hb4) (Part.mk (c := 2) rfl hR4 (fun h => by cases h) (Nat.le_refl _) (by unfold maxLen; omega)) (.mk HBL.out (hb.on hB4) hB hd hd2))
  have HB6 : Hid (Below w4.heap.size w4 (w4.alloc (.cells #[.slice (some ⟨w.heap.size, 0, none⟩) 2 2, .slice (some ⟨g1, 0, none⟩) 1 1, .slice (some ⟨g2, 0, none⟩) (11 + n) c3, .slice (some ⟨w3.heap.size, 0, none⟩) 2 2, .slice B m d] 22))) := (Below.refl _ _).alloc (Nat.le_refl _) _
  have e2 : (two8 x).length = 2 := rfl
  have e1 : [UInt8.ofNat (11 + n)].length = 1 := rfl
  have e3 : (two8 m).length = 2 := rfl
  rw [e2, e1, e3] at HP6
  clear HP1 HP2 HP3 hb4 hR4 hB3 hsz
  go_wp2_with fail
  generalize w4.alloc (.cells #[.slice (some ⟨w.heap.size, 0, none⟩) 2 2, .slice (some ⟨g1, 0, none⟩) 1 1, .slice (some ⟨g2, 0, none⟩) (11 + n) c3, .slice (some ⟨w3.heap.size, 0, none⟩) 2 2, .slice B m d] 22) = w5 at *
  have hB5 := below_then hB4 HB6.out
  refine (concat_any _ 5 5 (16 + n + m) _ w5 rfl HP6.out (by omega) HTL.out (by omega)).mono ?_
  rintro e w6 ⟨A', c', rfl, h1, h2, h3, h4, h5⟩
  rw [HIE.out] at h4
  have hB6 := below_then hB5 h5
  clear HTL HIE HP6 HB6 hB4 hB5 h5
  generalize infoL lb ctx x = bs at *
  go_wp2
  go_ret2
  exact ⟨A', c', rfl, h1, h2, h3, h4, hB6⟩
set_option maxRecDepth 100000 in
theorem info_out (B : Option Addr) (d m : Nat) (s : ByteArray) (x : Int) (E : Value) (w : World) (hx : x < 0 ∨ 8160 < x) (hE : w.cell? ⟨0, 0, none⟩ = some E) :
    Calls Tryd.prog 14 #[.string s, .slice B m d, .int .i64 x] w fun e w' => e = .returned (.tuple #[.slice none 0 0, E]) ∧ ∃ n, w' = w.drewN n := by
  by_cases h : x < 0
  all_goals
    try have h2 : 8160 < x := by omega
    clear hx
    go_enter Tryd.func14, Tryd.ntmps14
    go_wp2
    go_quiet (fail)
    go_wp2
    go_ret2
    exact ⟨rfl, _, rfl⟩
set_option maxRecDepth 100000 in
theorem info_long (B : Option Addr) (d m n x : Nat) (lb : List UInt8) (E : Value) (w : World) (hl : lb.length = n) (h : 200 < n ∨ 16384 < m) (hx : x ≤ 8160) (hE : w.cell? ⟨1, 0, none⟩ = some E) :
    Calls Tryd.prog 14 #[.string (str lb), .slice B m d, .int .i64 (x : Int)] w fun e w' => e = .returned (.tuple #[.slice none 0 0, E]) ∧ ∃ n, w' = w.drewN n := by
  have i1 : ¬ (x : Int) < 0 := by omega
  have i2 : ¬ (8160 : Int) < (x : Int) := by omega
  have hsz : (str lb).size = n := by rw [str_size, hl]
  by_cases h2 : (200 : Int) < (n : Int)
  all_goals
    try have h3 : (16384 : Int) < (m : Int) := by omega
    clear h hl
    go_enter Tryd.func14, Tryd.ntmps14
    go_wp2
    go_quiet (fail)
    go_wp2
    go_ret2
    exact ⟨rfl, _, rfl⟩
end Go.Proofs.YtmhelmmonkgmmaaDoor
