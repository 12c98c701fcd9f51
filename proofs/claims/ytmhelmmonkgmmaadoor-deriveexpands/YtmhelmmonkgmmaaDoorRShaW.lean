/- The document's own SHA-256: what its loops hold. -/
import Derived.Test.YtmhelmmonkgmmaaDoorRShaPad
import Derived.Test.YtmhelmmonkgmmaaDoorWLoops
namespace Go.Proofs.YtmhelmmonkgmmaaDoor
open Go.RowKit
theorem zero_r32 : ∀ w, (zeroValue 29).run Tryd.prog w = .ok (.agg (List.replicate 32 (cellOf 0)).toArray) w := (zero_of_info (P := Tryd.prog) (t := 29) (v := .agg (List.replicate 32 (cellOf 0)).toArray) (n := 32) (by kernel_rfl)).1
theorem size_r32 : (Tryd.prog.info? 29).map (·.size) = some 32 := by kernel_rfl
theorem turn_at (x : BitVec 32) (z : Int) (w : World) (h0 : 0 < z) (h : z < 32) :
    Calls Tryd.prog 33 #[.int .u32 x.toNat, .int .u64 z] w fun e w' => e = .returned (.int .u32 ((rotR32 x z).toNat : Int)) ∧ w' = w := by
  obtain ⟨n, rfl⟩ := Int.eq_ofNat_of_zero_le (show 0 ≤ z by omega)
  exact (refTurn_any x n w (by omega) (by omega)).mono fun _ _ ⟨h1, h2⟩ => ⟨h1, h2.symm⟩
theorem turn_in (x : BitVec 32) (z : Int) (w : World) (h0 : 0 < z) (h : z < 32) :
    Calls Tryd.prog 33 #[.int .u32 x.toNat, .int .u64 z] w fun e w' => e = .returned (.int .u32 ((rotR32 x z).toNat : Int)) ∧ w = w' :=
  (turn_at x z w h0 h).mono fun _ _ ⟨h1, h2⟩ => ⟨h1, h2.symm⟩
theorem next_eq (x2 x7 x15 x16 : BitVec 32) : (rotR32 x2 17 ^^^ rotR32 x2 19 ^^^ x2 >>> 10) + x7 + (rotR32 x15 7 ^^^ rotR32 x15 18 ^^^ x15 >>> 3) + x16 = x16 + shaLow x15 + x7 + shaHigh x2 := by
  show shaHigh x2 + x7 + shaLow x15 + x16 = _
  ac_rfl
theorem ref_one_eq (q : Oct) (k w : BitVec 32) : ((q.h.toNat : Int) + bits .xor .u32 (bits .xor .u32 ((rotR32 q.e 6).toNat : Int) ((rotR32 q.e 11).toNat : Int)) ((rotR32 q.e 25).toNat : Int) + bits .xor .u32 (bits .and .u32 (q.e.toNat : Int) (q.f.toNat : Int)) (bits .and .u32 (bits .xor .u32 (if IntKind.u32.signed = true then -1 else IntKind.u32.max) (q.e.toNat : Int)) (q.g.toNat : Int)) + (k.toNat : Int) + (w.toNat : Int)) % 4294967296 = ((shaOne q k w).toNat : Int) := by
  rw [xor32, xor32, not32, and32, and32, xor32, add32_5]; rfl
theorem ref_two_eq (q : Oct) : (bits .xor .u32 (bits .xor .u32 ((rotR32 q.a 2).toNat : Int) ((rotR32 q.a 13).toNat : Int)) ((rotR32 q.a 22).toNat : Int) + bits .xor .u32 (bits .xor .u32 (bits .and .u32 (q.a.toNat : Int) (q.b.toNat : Int)) (bits .and .u32 (q.a.toNat : Int) (q.c.toNat : Int))) (bits .and .u32 (q.b.toNat : Int) (q.c.toNat : Int))) % 4294967296 = ((shaTwo q).toNat : Int) := by
  rw [xor32, xor32, and32, and32, and32, xor32, xor32, add32]; rfl
theorem not32m (x : BitVec 32) : bits .xor .u32 IntKind.u32.max (x.toNat : Int) = ((~~~x).toNat : Int) := not32 x
theorem add32_52 (x y z u v a b : BitVec 32) : ((x.toNat : Int) + (y.toNat : Int) + (z.toNat : Int) + (u.toNat : Int) + (v.toNat : Int) + ((a.toNat : Int) + (b.toNat : Int))) % 4294967296 = ((x + y + z + u + v + (a + b)).toNat : Int) := by
  simp only [BitVec.toNat_add]; omega
theorem add32_15 (d x y z u v : BitVec 32) : ((d.toNat : Int) + ((x.toNat : Int) + (y.toNat : Int) + (z.toNat : Int) + (u.toNat : Int) + (v.toNat : Int))) % 4294967296 = ((d + (x + y + z + u + v)).toNat : Int) := by
  simp only [BitVec.toNat_add]; omega
theorem ref_a (q : Oct) (k w : BitVec 32) : ((q.h.toNat : Int) + bits .xor .u32 (bits .xor .u32 ((rotR32 q.e 6).toNat : Int) ((rotR32 q.e 11).toNat : Int)) ((rotR32 q.e 25).toNat : Int) + bits .xor .u32 (bits .and .u32 (q.e.toNat : Int) (q.f.toNat : Int)) (bits .and .u32 (bits .xor .u32 IntKind.u32.max (q.e.toNat : Int)) (q.g.toNat : Int)) + (k.toNat : Int) + (w.toNat : Int) + (bits .xor .u32 (bits .xor .u32 ((rotR32 q.a 2).toNat : Int) ((rotR32 q.a 13).toNat : Int)) ((rotR32 q.a 22).toNat : Int) + bits .xor .u32 (bits .xor .u32 (bits .and .u32 (q.a.toNat : Int) (q.b.toNat : Int)) (bits .and .u32 (q.a.toNat : Int) (q.c.toNat : Int))) (bits .and .u32 (q.b.toNat : Int) (q.c.toNat : Int)))) % 4294967296 = ((shaOne q k w + shaTwo q).toNat : Int) := by
  rw [xor32 (rotR32 q.e 6), xor32 (rotR32 q.e 6 ^^^ _), not32m, and32 q.e q.f, and32 (~~~q.e), xor32 (q.e &&& q.f), xor32 (rotR32 q.a 2), xor32 (rotR32 q.a 2 ^^^ _), and32, and32, and32, xor32 (q.a &&& q.b), xor32 (q.a &&& q.b ^^^ _), add32_52]; rfl
theorem ref_e (q : Oct) (k w : BitVec 32) : ((q.d.toNat : Int) + ((q.h.toNat : Int) + bits .xor .u32 (bits .xor .u32 ((rotR32 q.e 6).toNat : Int) ((rotR32 q.e 11).toNat : Int)) ((rotR32 q.e 25).toNat : Int) + bits .xor .u32 (bits .and .u32 (q.e.toNat : Int) (q.f.toNat : Int)) (bits .and .u32 (bits .xor .u32 IntKind.u32.max (q.e.toNat : Int)) (q.g.toNat : Int)) + (k.toNat : Int) + (w.toNat : Int))) % 4294967296 = ((q.d + shaOne q k w).toNat : Int) := by
  rw [xor32 (rotR32 q.e 6), xor32 (rotR32 q.e 6 ^^^ _), not32m, and32 q.e q.f, and32 (~~~q.e), xor32 (q.e &&& q.f), add32_15]; rfl
theorem list_at (l : List (BitVec 32)) (k : Nat) (hk : k < l.length) : (l.map wcell)[k]? = some (wcell (l.getD k 0)) := by
  rw [List.getElem?_map, List.getD_eq_getElem?_getD, List.getElem?_eq_getElem hk]
  rfl
theorem u32_info : (Tryd.prog.info? 61).map (fun i => (i.zero, i.size, i.bytes)) = some (some (.int .u32 0), 1, 4) := by kernel_rfl
/-- So many words of nought. (Named, so that a walk leaves them whole.) -/
def wzeros (n : Nat) : List Value := List.replicate n (wcell 0)
set_option maxRecDepth 100000 in
/-- 'make([]uint32, n)'. -/
theorem make_words (n : Nat) (hn : n ≤ 1000000) (W : World) :
    (Instr.makeSlice 59 (.int .i64 (n : Int)) (.int .i64 (n : Int))).run Tryd.prog W = .ok (.slice (some ⟨W.heap.size, 0, none⟩) n n) (W.alloc (.cells (wzeros n).toArray 61)) := by
  unfold wzeros
  obtain ⟨i0, hi0, hz0, hz1, hz2⟩ := info_parts u32_info
  have h := run_make (P := Tryd.prog) W 59 61 i0 (.int .u32 0) Tryd.underlying59 hi0 hz0 .i64 .i64 n n (by omega) (by omega) (by rw [hz2]; omega) (by omega)
  rw [h, Int.toNat_natCast, hz1, Nat.mul_one]
  congr 3
  apply Array.ext_getElem?
  intro i
  simp only [madeCells, Value.cells]
  by_cases h : i < n
  · simp [h, Nat.mod_one]
  · simp [h]
theorem word_of4 (a b c d : UInt8) : ((a.toNat : Int) % 4294967296 * 16777216 + (b.toNat : Int) % 4294967296 * 65536 + (c.toNat : Int) % 4294967296 * 256 + (d.toNat : Int)) % 4294967296 = ((BitVec.ofNat 32 (bigN [a, b, c, d])).toNat : Int) := by
  rw [BitVec.toNat_ofNat]
  simp [bigN]
  omega
theorem four_at (ms : List UInt8) (i : Nat) (h : i + 3 < ms.length) : (ms.drop i).take 4 = [ms.getD i 0, ms.getD (i + 1) 0, ms.getD (i + 2) 0, ms.getD (i + 3) 0] := by
  rw [getD_lt ms i (by omega), getD_lt ms (i + 1) (by omega), getD_lt ms (i + 2) (by omega), getD_lt ms (i + 3) h, List.drop_eq_getElem_cons (by omega), List.drop_eq_getElem_cons (by omega), List.drop_eq_getElem_cons (by omega), List.drop_eq_getElem_cons (by omega)]
  rfl
set_option maxRecDepth 100000 in
theorem frame271 (a : Act) (hs : a.tmps.size = 271) (hd : a.defers = []) : ∃ u : Nat → Value, a = ⟨(u 0 :: u 1 :: u 2 :: u 3 :: u 4 :: u 5 :: u 6 :: u 7 :: u 8 :: u 9 :: u 10 :: u 11 :: u 12 :: u 13 :: u 14 :: u 15 :: u 16 :: u 17 :: u 18 :: u 19 :: u 20 :: u 21 :: u 22 :: u 23 :: u 24 :: u 25 :: u 26 :: u 27 :: u 28 :: u 29 :: u 30 :: u 31 :: u 32 :: u 33 :: u 34 :: u 35 :: u 36 :: u 37 :: u 38 :: u 39 :: u 40 :: u 41 :: u 42 :: u 43 :: u 44 :: u 45 :: u 46 :: u 47 :: u 48 :: u 49 :: u 50 :: u 51 :: u 52 :: u 53 :: u 54 :: u 55 :: u 56 :: u 57 :: u 58 :: u 59 :: u 60 :: u 61 :: u 62 :: u 63 :: u 64 :: u 65 :: u 66 :: u 67 :: u 68 :: u 69 :: u 70 :: u 71 :: u 72 :: u 73 :: u 74 :: u 75 :: u 76 :: u 77 :: u 78 :: u 79 :: u 80 :: u 81 :: u 82 :: u 83 :: u 84 :: u 85 :: u 86 :: u 87 :: u 88 :: u 89 :: u 90 :: u 91 :: u 92 :: u 93 :: u 94 :: u 95 :: u 96 :: u 97 :: u 98 :: u 99 :: u 100 :: u 101 :: u 102 :: u 103 :: u 104 :: u 105 :: u 106 :: u 107 :: u 108 :: u 109 :: u 110 :: u 111 :: u 112 :: u 113 :: u 114 :: u 115 :: u 116 :: u 117 :: u 118 :: u 119 :: u 120 :: u 121 :: u 122 :: u 123 :: u 124 :: u 125 :: u 126 :: u 127 :: u 128 :: u 129 :: u 130 :: u 131 :: u 132 :: u 133 :: u 134 :: u 135 :: u 136 :: u 137 :: u 138 :: u 139 :: u 140 :: u 141 :: u 142 :: u 143 :: u 144 :: u 145 :: u 146 :: u 147 :: u 148 :: u 149 :: u 150 :: u 151 :: u 152 :: u 153 :: u 154 :: u 155 :: u 156 :: u 157 :: u 158 :: u 159 :: u 160 :: u 161 :: u 162 :: u 163 :: u 164 :: u 165 :: u 166 :: u 167 :: u 168 :: u 169 :: u 170 :: u 171 :: u 172 :: u 173 :: u 174 :: u 175 :: u 176 :: u 177 :: u 178 :: u 179 :: u 180 :: u 181 :: u 182 :: u 183 :: u 184 :: u 185 :: u 186 :: u 187 :: u 188 :: u 189 :: u 190 :: u 191 :: u 192 :: u 193 :: u 194 :: u 195 :: u 196 :: u 197 :: u 198 :: u 199 :: u 200 :: u 201 :: u 202 :: u 203 :: u 204 :: u 205 :: u 206 :: u 207 :: u 208 :: u 209 :: u 210 :: u 211 :: u 212 :: u 213 :: u 214 :: u 215 :: u 216 :: u 217 :: u 218 :: u 219 :: u 220 :: u 221 :: u 222 :: u 223 :: u 224 :: u 225 :: u 226 :: u 227 :: u 228 :: u 229 :: u 230 :: u 231 :: u 232 :: u 233 :: u 234 :: u 235 :: u 236 :: u 237 :: u 238 :: u 239 :: u 240 :: u 241 :: u 242 :: u 243 :: u 244 :: u 245 :: u 246 :: u 247 :: u 248 :: u 249 :: u 250 :: u 251 :: u 252 :: u 253 :: u 254 :: u 255 :: u 256 :: u 257 :: u 258 :: u 259 :: u 260 :: u 261 :: u 262 :: u 263 :: u 264 :: u 265 :: u 266 :: u 267 :: u 268 :: u 269 :: u 270 :: []).toArray, []⟩ := by
  obtain ⟨u, h⟩ := frame_of 271 a hs hd
  exact ⟨u, h⟩
/-- The body of the k-th loop of the document's Sum. -/
noncomputable def refBody (k : Nat) : Code := ((Tryd.f22.body.map loopsOf).getD []).getD k .skip
/-- What stands in every round: the result's block, the constants, the chain, the message. -/
structure RW (w wr : World) (gk gh gm : Nat) (hs : List Value) (ms : List UInt8) : Prop where
  below : Below w.heap.size w wr
  res : Cells wr w.heap.size (List.replicate 32 (cellOf 0)) 29
  ks : Cells wr gk (shaK.map wcell) 61
  ch : Cells wr gh hs 61
  row : Row wr wr.heap.size (some ⟨gm, 0, none⟩) ms
  o1 : w.heap.size < gk
  o2 : gk < gh
  o3 : gh < gm
  o4 : gm < wr.heap.size
section
variable {w wr wr' : World} {gk gh gm : Nat} {hs : List Value} {ms : List UInt8}
theorem RW.drew (h : RW w wr gk gh gm hs ms) : RW w wr.drew gk gh gm hs ms := ⟨h.below.drew, h.res, h.ks, h.ch, h.row, h.o1, h.o2, h.o3, h.o4⟩
theorem RW.drewN (h : RW w wr gk gh gm hs ms) (n : Nat) : RW w (wr.drewN n) gk gh gm hs ms := ⟨below_drewN h.below n, h.res, h.ks, h.ch, h.row, h.o1, h.o2, h.o3, h.o4⟩
theorem RW.alloc (h : RW w wr gk gh gm hs ms) (o : Obj) : RW w (wr.alloc o) gk gh gm hs ms :=
  ⟨h.below.alloc h.below.size o, h.res.alloc o, h.ks.alloc o, h.ch.alloc o, h.row.on ((Below.refl _ _).alloc (Nat.le_refl _) o), h.o1, h.o2, h.o3, by have := h.o4; simp; omega⟩
/-- Another block, newer than all these. -/
theorem RW.but (h : RW w wr gk gh gm hs ms) {g : Nat} (hb : But g wr wr') (hg : gm < g) : RW w wr' gk gh gm hs ms := by
  have h1 := h.o1
  have h2 := h.o2
  have h3 := h.o3
  exact ⟨h.below.trans (hb.below (by omega) h.below.size), h.res.but hb (by omega), h.ks.but hb (by omega), h.ch.but hb (by omega), h.row.but hb (fun _ p hp => by cases hp; show gm ≠ g; omega), h1, h2, h3, Nat.lt_of_lt_of_le h.o4 hb.size⟩
/-- The chain's own block. -/
theorem RW.chain (h : RW w wr gk gh gm hs ms) (j : Nat) (v : Value) : RW w (wr.setCell ⟨gh, j, none⟩ v) gk gh gm (hs.set j v) ms := by
  have h1 := h.o1
  have h2 := h.o2
  have h3 := h.o3
  have hb : But gh wr (wr.setCell ⟨gh, j, none⟩ v) := (But.refl gh wr).setCell j v
  exact ⟨h.below.trans (hb.below (by omega) h.below.size), h.res.but hb (by omega), h.ks.but hb (by omega), h.ch.set j v, h.row.but hb (fun _ p hp => by cases hp; show gm ≠ gh; omega), h1, h2, h3, Nat.lt_of_lt_of_le h.o4 hb.size⟩
end
/-- The slots that no loop writes. -/
def baseSlots (w : World) (gk gh gm cm N : Nat) : List (Nat × Value) := [(2, .pointer (some ⟨w.heap.size, 0, none⟩)), (3, .slice (some ⟨gk, 0, none⟩) 64 64), (4, .slice (some ⟨gh, 0, none⟩) 8 8), (5, .slice (some ⟨gm, 0, none⟩) (64 * N) cm)]
end Go.Proofs.YtmhelmmonkgmmaaDoor
