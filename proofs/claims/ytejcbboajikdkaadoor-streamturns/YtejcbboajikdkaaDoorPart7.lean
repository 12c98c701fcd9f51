/- Part 7 of what the laws of this seat share: CLaw. -/
import Derived.Test.YtejcbboajikdkaaDoorPart6
namespace Go.Proofs.YtejcbboajikdkaaDoor
open Go.ChangeShapes Go.WideShapes Go.ChangeAt Go.RowKit
theorem refStream_any (A B : Option Addr) (d c L : Nat) (key nonce bs : List UInt8) (x : BitVec 32) (w : World) (hk : key.length = 32) (hn : nonce.length = 12) (hr : Row w w.heap.size A nonce) (hl : bs.length = L) (hb : Row w w.heap.size B bs) (hL : L ≤ 100000) :
    Calls Tryd.prog 15 #[hashVal key, wcell x, .slice A 12 d, .slice B L c] w (Gives w (chTurn key x nonce bs) L) := by
  have h := refTurn_over A B d c L key bs x (fun n => chBlock key (x + BitVec.ofNat 32 n) nonce) (chTurned (chOpened key x nonce) bs) w hk hl hb hL (fun _ => chBlock_length _ _ _) rfl (fun k => by
      show _ ++ [_ ^^^ chByte (chOpened key x nonce) k] = _
      rw [chByte, chAt_opened key x nonce _ hk]
      rfl) (chTurned_length _ _) (fun n W hW => refBlock_any A d key nonce _ W hk hn (hr.on hW))
  rw [← hl] at h ⊢
  exact h
set_option maxRecDepth 100000 in
/-- An array of 32 bytes, a key, that comes in by value. -/
theorem open_key {H : Type} {enc : TypeId × Value → H} {W : World} {r : Reach} {b0 : Nat} {v : Value} {d : DataW H} {p : List MemPlace} (hv : Value.okWide Tryd.prog W r b0 25 v) (h : DataW.Trod enc Tryd.prog W 0 (fun _ => true) true 25 v d p) : ∃ s : List UInt8, v = hashVal s ∧ s.length = 32 := by
  obtain ⟨zs, rfl, hz, hw⟩ := open_intarr Tryd.underlying25 Tryd.underlying5 cells_u8 (by kernel_rfl) hv h
  obtain ⟨bs, h1, h2⟩ := bytes_of_ints zs hw
  exact ⟨bs, by unfold hashVal; rw [h1], by omega⟩
theorem cells_u32 : Tryd.prog.cellsOf 22 = 1 := by kernel_rfl
set_option maxRecDepth 100000 in
/-- Four words that come in by value. -/
theorem open_four {H : Type} {enc : TypeId × Value → H} {W : World} {r : Reach} {b0 : Nat} {v : Value} {d : DataW H} {p : List MemPlace} (hv : Value.okWide Tryd.prog W r b0 23 v) (h : DataW.Trod enc Tryd.prog W 0 (fun _ => true) true 23 v d p) : ∃ x y z u : BitVec 32, v = .agg #[wcell x, wcell y, wcell z, wcell u] := by
  obtain ⟨zs, rfl, hz, hw⟩ := open_intarr Tryd.underlying23 Tryd.underlying22 cells_u32 (by kernel_rfl) hv h
  obtain ⟨l, h1, h2⟩ := words_of_ints zs hw
  rw [h1]
  match l, h2.trans hz with
  | [x, y, z, u], _ => exact ⟨x, y, z, u, rfl⟩
/-- A case's cells: a key, a counter, a nonce. (Named, so that a walk leaves them whole.) -/
def caseCells (key : List UInt8) (x : BitVec 32) (A : Option Addr) (n c : Nat) : List Value := key.map cellOf ++ [wcell x, .slice A n c]
def caseVal (key : List UInt8) (x : BitVec 32) (A : Option Addr) (n c : Nat) : Value := .agg (caseCells key x A n c).toArray
set_option maxRecDepth 100000 in
theorem open_case {H : Type} {enc : TypeId × Value → H} {W : World} {r : Reach} {b0 : Nat} {v : Value} {d : DataW H} {p : List MemPlace} (hv : Value.okWide Tryd.prog W r b0 40 v) (h : DataW.Trod enc Tryd.prog W 0 (fun _ => true) true 40 v d p) :
    ∃ key x A c ns, v = caseVal key x A ns.length c ∧ key.length = 32 ∧ (A = none → c = 0) ∧ Row W W.heap.size A ns ∧ ns.length ≤ c ∧ c ≤ maxLen := by
  have ht := Tryd.underlying40
  simp only [Value.okWide, ht] at hv
  obtain ⟨⟨cs⟩, rfl, hsz, _⟩ := hv
  obtain ⟨fuel, hf⟩ := h
  simp only [Value.cells] at hf
  obtain ⟨y0, y1, y2, n, _, hl, h0, h1, h2⟩ := Go.Deep.trod_struct3 ht hf
  have e1 : Tryd.prog.cellsOf 25 = 32 := by kernel_rfl
  have e2 : Tryd.prog.cellsOf 22 = 1 := by kernel_rfl
  have e3 : Tryd.prog.cellsOf 26 = 1 := by kernel_rfl
  have e4 : Tryd.prog.cellsOf 40 = 34 := by kernel_rfl
  simp only [e1, e2, e3, e4, List.drop_zero] at h0 h1 h2 hl
  obtain ⟨zs, g1, g2, g3⟩ := cells_ints Tryd.underlying25 Tryd.underlying5 cells_u8 e1 h0
  obtain ⟨bs, g4, g5⟩ := bytes_of_ints zs g3
  obtain ⟨z, k1, _, k2⟩ := DataW.trod_int Tryd.underlying22 h1
  obtain ⟨x, rfl⟩ := word32 k2
  obtain ⟨A, c, ns, m1, m2, m3, m4, m5⟩ := cells_bytes h2
  refine ⟨bs, x, A, c, ns, ?_, by omega, m2, m3, m4, m5⟩
  unfold caseVal caseCells
  congr 1
  have hcs : cs = cs.take 32 ++ ((cs.drop 32).take 1 ++ (cs.drop 33).take 1) := by
    have a1 : (cs.drop 33).take 1 = cs.drop 33 := List.take_of_length_le (by rw [List.length_drop]; omega)
    have a2 : (cs.drop 32).take 1 ++ cs.drop 33 = cs.drop 32 := by
      have := List.take_append_drop 1 (cs.drop 32)
      rwa [List.drop_drop] at this
    rw [a1, a2, List.take_append_drop]
  rw [hcs, g1, k1, m1, g4]
  rfl
theorem alive_quarter : quarter 0x11111111 0x01020304 0x9b8d6f43 0x01234567 = ⟨0xea2a92f4, 0xcb1cf8ce, 0x4581472e, 0x5881c4bb⟩ := by kernel_rfl
set_option maxRecDepth 100000 in
/-- 'alive'. -/
theorem alive6 (w : World) : Calls Tryd.prog 7 #[] w fun e w' => e = .returned (.bool true) ∧ w = w' := by
  have h := quarter_any 0x11111111 0x01020304 0x9b8d6f43 0x01234567 w
  rw [alive_quarter] at h
  have HQ : Hid (Calls Tryd.prog 8 #[.int .u32 286331153, .int .u32 16909060, .int .u32 2609737539, .int .u32 19088743] w fun e w' => e = .returned (.tuple #[.int .u32 3928658676, .int .u32 3407673550, .int .u32 1166100270, .int .u32 1484899515]) ∧ w = w') := h
  clear h
  go_enter Tryd.func7, Tryd.ntmps7
  go_wp2_with fail
  refine HQ.out.mono ?_
  rintro e w1 ⟨rfl, rfl⟩
  go_wp2
  go_ret
  exact ⟨rfl, rfl⟩
theorem case_range {w : World} {g : Nat} {key : List UInt8} {x : BitVec 32} {A : Option Addr} {n c : Nat} {t : TypeId} (h : Cells w g (caseCells key x A n c) t) : w.rangeAt g 0 (key.map cellOf) := Cells.rangeHead h
theorem case_word {w : World} {g : Nat} {key : List UInt8} {x : BitVec 32} {A : Option Addr} {n c : Nat} {t : TypeId} (hk : key.length = 32) (h : Cells w g (caseCells key x A n c) t) : w.cell? ⟨g, 32, none⟩ = some (wcell x) := h.get (by
  unfold caseCells
  rw [List.getElem?_append_right (by rw [List.length_map]; omega), List.length_map, hk]
  rfl)
theorem case_nonce {w : World} {g : Nat} {key : List UInt8} {x : BitVec 32} {A : Option Addr} {n c : Nat} {t : TypeId} (hk : key.length = 32) (h : Cells w g (caseCells key x A n c) t) : w.cell? ⟨g, 33, none⟩ = some (.slice A n c) := h.get (by
  unfold caseCells
  rw [List.getElem?_append_right (by rw [List.length_map]; omega), List.length_map, hk]
  rfl)
/-- A range of bytes loaded as an array's value. -/
theorem range_step {w : World} {ops : Array Oper} {rest : List Oper} {o : Oper} {a : Act} {Q : Exit → Act → World → Prop} (hgd : o.guard = none) (t : TypeId) (x : Operand) (ho : o.op = .load t x) (b off n : Nat) (ds : List UInt8) (e : TypeId) (hx : a.eval x = .pointer (some ⟨b, off, none⟩)) (hR : w.rangeAt b off (ds.map cellOf)) (hu : Tryd.prog.underlying t = some (.array n e))
    (hs : (Tryd.prog.info? t).map (·.size) = some n) (hl : ds.length = n) (h : wpList Tryd.prog ops Q rest (a.put o.dst (hashVal ds)) w) : wpList Tryd.prog ops Q (o :: rest) a w :=
  wpList_load_mid hgd t x ho b off hx (ds.map cellOf) _ hR hu rfl (by rw [List.length_map, hl]; exact hs) h
end Go.Proofs.YtejcbboajikdkaaDoor
