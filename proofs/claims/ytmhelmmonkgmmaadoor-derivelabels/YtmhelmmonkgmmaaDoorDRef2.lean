/- The document's own answers of layer 5: fellowshipref05.Info, Label, Secret. -/
import Derived.Test.YtmhelmmonkgmmaaDoorDRef
namespace Go.Proofs.YtmhelmmonkgmmaaDoor
open Go.RowKit
theorem cell_div (n : Nat) (h : n ≤ 65535) : cellOf (UInt8.ofNat (n / 256)) = .int .u8 ((n : Int) / 256) := by
  show Value.int .u8 _ = _
  rw [UInt8.toNat_ofNat']
  congr 1
  omega
theorem cell_mod (n : Nat) : cellOf (UInt8.ofNat n) = .int .u8 ((n : Int) % 256) := by
  show Value.int .u8 _ = _
  rw [UInt8.toNat_ofNat']
  congr 1
theorem cell_eleven (n : Nat) (h : n ≤ 200) : cellOf (UInt8.ofNat (11 + n)) = .int .u8 ((11 : Int) + (n : Int)) := by
  show Value.int .u8 _ = _
  rw [UInt8.toNat_ofNat']
  congr 1
  omega
set_option maxRecDepth 100000 in
set_option maxHeartbeats 800000 in
theorem infoRef_any (B : Option Addr) (d m n x : Nat) (lb ctx : List UInt8) (w : World) (hl : lb.length = n) (hn : n ≤ 200) (hbl : ctx.length = m) (hb : Row w w.heap.size B ctx) (hB : B = none → d = 0) (hm : m ≤ 16384) (hx : x ≤ 8160) :
    Calls Tryd.prog 17 #[.string (str lb), .slice B m d, .int .i64 (x : Int)] w (Gives w (infoL lb ctx x) (16 + n + m)) := by
  have HL := Lib.hid hl
  have HBL := Lib.hid hbl
  clear hl hbl
  have HE : Hid (({ data := #[102, 101, 108, 108, 111, 119, 115, 104, 105, 112, 32] } : ByteArray) ++ str lb = str (labelPre ++ lb)) := str_append labelPre lb
  have HNL : Hid ((labelPre ++ lb).length = 11 + n) := by show _ = _; rw [List.length_append, HL.out]; rfl
  have HIL : Hid ((infoL lb ctx x).length = 16 + n + m) := by show _ = _; rw [infoL_length, HL.out, HBL.out]
  have HIE : Hid (two8 x ++ [UInt8.ofNat (11 + n)] ++ (labelPre ++ lb) ++ two8 m ++ ctx = infoL lb ctx x) := by
    show _ = _
    rw [infoL, HL.out, HBL.out]
    simp
  have hO0 := Owns.lit (base := w.heap.size) w (two8 x ++ [UInt8.ofNat (11 + n)]) (Nat.le_refl _) (by simp [two8])
  have hb0 : Below w.heap.size w (w.alloc (.cells (rowCells (two8 x ++ [UInt8.ofNat (11 + n)])) 5)) := (Below.refl _ _).alloc (Nat.le_refl _) _
  have hM : ∀ W : World, Row (W.alloc (.cells #[.int .u8 ((m : Int) / 256), .int .u8 ((m : Int) % 256)] 5)) (W.heap.size + 1) (some ⟨W.heap.size, 0, none⟩) (two8 m) := fun W => by
    rw [← cell_div m (by omega), ← cell_mod m]
    exact row_lit W (two8 m) (0, 0)
  have HM := Lib.hid hM
  clear hM
  have e0 : rowCells (two8 x ++ [UInt8.ofNat (11 + n)]) = #[.int .u8 ((x : Int) / 256), .int .u8 ((x : Int) % 256), .int .u8 ((11 : Int) + (n : Int))] := by
    rw [← cell_div x (by omega), ← cell_mod x, ← cell_eleven n hn]
    rfl
  rw [e0] at hO0 hb0
  have HO0 := Lib.hid hO0
  have HB0 := Lib.hid hb0
  clear hO0 hb0 e0
  have hsz : (str (labelPre ++ lb)).size = 11 + n := by rw [str_size, HNL.out]
  have hsz0 : (str lb).size = n := by rw [str_size, HL.out]
  have hcat := HE.out
  clear HE
  generalize labelPre ++ lb = name at *
  have H3 : Hid ((two8 x ++ [UInt8.ofNat (11 + n)]).length = 3) := rfl
  generalize two8 x ++ [UInt8.ofNat (11 + n)] = hd3 at *
  have hO0 := HO0.out
  rw [H3.out] at hO0
  replace HO0 := Lib.hid hO0
  clear hO0
  go_enter Tryd.func17, Tryd.ntmps17
  go_wp2_with (first
    | (at_builtin
       refine append_text rfl (.tmp 20) (.tmp 21) rfl w.heap.size (11 + n) _ hd3 name rfl HO0.out rfl HNL.out (by rw [H3.out]; omega) HB0.out.size ?_
       intro v1 w1 hO1 hb1
       replace hb1 := HB0.out.trans hb1
       have HL1 : Hid ((hd3 ++ name).length = 14 + n) := by show _ = _; rw [List.length_append, H3.out, HNL.out]; omega
       generalize hd3 ++ name = pre at *
       clear HO0 HB0)
    | (at_builtin
       refine append_row rfl (.tmp 23) (.tmp 32) rfl w.heap.size _ pre (two8 m) _ _ 2 rfl (hO1.kept_alloc _) rfl (fun h => by cases h) (HM.out w1) (by rw [HL1.out]; simp [two8]; omega) (by have := hb1.size; simp; omega) ?_
       intro v2 w2 hO2 hb2
       replace hb2 := (hb1.alloc hb1.size _).trans hb2
       clear hO1 hb1)
    | (at_builtin
       refine append_row rfl (.tmp 34) (.tmp 35) rfl w.heap.size _ (pre ++ two8 m) ctx _ B d rfl hO2 (by rw [HBL.out]; rfl) hB (hb.on hb2) (by rw [List.length_append, HL1.out, HBL.out]; simp [two8]; omega) hb2.size ?_
       intro v3 w3 hO3 hb3
       replace hb3 := hb2.trans hb3
       rw [HIE.out] at hO3
       clear hO2 hb2))
  obtain ⟨A', c', hv, h1, h2, h3, h4⟩ := hO3.form2
  rw [HIL.out] at hv h1
  subst hv
  go_ret
  exact ⟨A', c', rfl, h3, h1, h2, h4, hb3⟩
set_option maxRecDepth 100000 in
set_option maxHeartbeats 800000 in
theorem labelRef_any (B : Option Addr) (d m n x : Nat) (sec lb ctx : List UInt8) (w : World) (hs : sec.length = 32) (hl : lb.length = n) (hn : n ≤ 200) (hbl : ctx.length = m) (hb : Row w w.heap.size B ctx) (hB : B = none → d = 0) (hm : m ≤ 16384) (hx : x ≤ 8160) :
    Calls Tryd.prog 18 #[hashVal sec, .string (str lb), .slice B m d, .int .i64 (x : Int)] w (GivesF w (labelL sec lb ctx x) x) := by
  have HL := Lib.hid hl
  have HBL := Lib.hid hbl
  have HSL := Lib.hid hs
  clear hl hbl hs
  have HIL : Hid ((infoL lb ctx x).length = 16 + n + m) := by show _ = _; rw [infoL_length, HL.out, HBL.out]
  have HE : Hid (hkdf sec (infoL lb ctx x) x = labelL sec lb ctx x) := rfl
  go_enter Tryd.func18, Tryd.ntmps18
  go_wp2_with (first
    | (refine take_step rfl 29 _ rfl sec rfl ?_
       intro w0 hB0 hC0 hz0
       clear hz0))
  have HI := Lib.hid (fun W (hW : Below w0.heap.size w0 W) => infoRef_any B d m n x lb ctx W HL.out hn HBL.out ((hb.on hB0).on hW) hB hm hx)
  go_region_held3 (fun w' => Below w0.heap.size w0 w') (first | exact (Below.refl _ _) | exact (Below.refl _ _).drew | assumption)
    (first
      | (go_at_call 17
         refine (HI.out _ (by first | exact (Below.refl _ _).drew | exact (Below.refl _ _))).mono ?_
         clear HI
         rintro e w2 ⟨A2, c2, rfl, a1, a2, a3, a4, hb2⟩
         replace hb2 : Below w0.heap.size w0 w2 := Below.trans (Below.refl w0.heap.size w0).drew hb2)
      | (go_at_call 13
         refine (expandRef_any _ A2 32 32 c2 (16 + n + m) x sec (infoL lb ctx x) _ HSL.out (hC0.on hb2).all (fun h => by cases h) (by omega) HIL.out a4 a1 (by omega) hx).mono ?_
         rintro e w3 ⟨g3, c3, rfl, b1, b2, b3, b4, hb3⟩
         replace b1 : w0.heap.size ≤ g3 := Nat.le_trans hb2.size b1
         replace hb3 : Below w0.heap.size w0 w3 := below_then hb2 hb3
         rw [HE.out] at b4
         clear a4))
  have hB3 := below_then hB0 hb3
  go_wp2
  go_ret
  exact ⟨g3, c3, rfl, Nat.le_trans hB0.size b1, b2, b3, b4, hB3⟩
end Go.Proofs.YtmhelmmonkgmmaaDoor
