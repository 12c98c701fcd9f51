/- What a coder holds of the bytes that it has taken. No program is named here. -/
import Derived.Test.YtiadgningbogmaaDoorOMath2
import Derived.Test.YtiadgningbogmaaDoorWParts
namespace Go.Proofs.YtiadgningbogmaaDoor
open Go.RowKit
theorem lev_zeros (n : Nat) : lev (List.replicate n 0) = 0 := by
  unfold lev
  rw [List.map_replicate]
  exact dval_zeros n
theorem polyH_append (R : Nat) (bs us : List UInt8) : ∀ n, 16 * n ≤ bs.length → polyH R (bs ++ us) n = polyH R bs n
  | 0, _ => rfl
  | n + 1, h => by
    rw [polyH, polyH, polyH_append R bs us n (by omega), List.drop_append_of_le_length (by omega), List.take_append_of_le_length (by rw [List.length_drop]; omega)]
/-- A total and the waiting bytes are those of the bytes bs. -/
def Took (R : Nat) (bs : List UInt8) (t : List Nat) (rest : List UInt8) : Prop := Fine t ∧ lval t % polyP = polyH R bs (bs.length / 16) ∧ rest.take (bs.length % 16) = bs.drop (16 * (bs.length / 16))
theorem took_none (R : Nat) (rest : List UInt8) : Took R [] [0, 0, 0, 0, 0] rest := ⟨fine_zero, rfl, rfl⟩
/-- The total behind a block. -/
def nextN (R : Nat) (t : List Nat) (blk : List UInt8) : List Nat := timesN (plusN t (limbsOf (lev blk))) (limbsOf R)
theorem next_val (R x : Nat) (t : List Nat) (ht : Fine t) (blk : List UInt8) (hR : R < 1361129467683753853853498429727072845824) (hb : lev blk = x) (hx : x < 1361129467683753853853498429727072845824) : Fine (nextN R t blk) ∧ lval (nextN R t blk) % polyP = (lval t % polyP + x) * R % polyP := by
  obtain ⟨h1, h2⟩ := plusN_val t (limbsOf (lev blk)) ht.1 (limbsOf_length _) _ _ ht.below (limbsOf_below _) (by omega)
  obtain ⟨h3, h4⟩ := timesN_val (plusN t (limbsOf (lev blk))) (limbsOf R) ((plusN_length _ _).trans ht.1) (limbsOf_length _) (fun y hy => by have := h2 y hy; omega) (limbsOf_below _)
  refine ⟨h3, ?_⟩
  unfold nextN
  rw [h4, h1, lval_limbsOf R hR, hb, lval_limbsOf x hx, Nat.mul_mod, Nat.mul_mod (lval t % polyP + x), Nat.mod_add_mod]
theorem lev_block (l : List UInt8) (n : Nat) (hl : l.length ≤ 16) : lev (l ++ [1] ++ List.replicate n 0) = lev (l ++ [1]) ∧ lev (l ++ [1]) < 1361129467683753853853498429727072845824 := by
  refine ⟨by rw [lev_append, lev_zeros, Nat.mul_zero, Nat.add_zero], ?_⟩
  have h := lev_lt l
  have h2 : 256 ^ l.length ≤ 256 ^ 16 := pow256_le hl
  rw [lev_append, show lev [1] = 1 from rfl]
  omega
theorem took_less {R : Nat} {bs us : List UInt8} {t : List Nat} {rest : List UInt8} (h : Took R bs t rest) (hr : rest.length = 16) (hl : bs.length % 16 + us.length < 16) : Took R (bs ++ us) t (restPut rest us (bs.length % 16)) := by
  have e1 : (bs ++ us).length / 16 = bs.length / 16 := by rw [List.length_append]; omega
  have e2 : (bs ++ us).length % 16 = bs.length % 16 + us.length := by rw [List.length_append]; omega
  refine ⟨h.1, ?_, ?_⟩
  · rw [e1, polyH_append _ _ _ _ (by omega)]; exact h.2.1
  · rw [e1, e2, restPut_take _ _ _ (by omega), h.2.2, List.drop_append_of_le_length (by omega)]
theorem took_full {R : Nat} {bs us : List UInt8} {t : List Nat} {rest : List UInt8} (h : Took R bs t rest) (hR : R < 1361129467683753853853498429727072845824) (hr : rest.length = 16) (hl : bs.length % 16 + us.length = 16) (rest' : List UInt8) : Took R (bs ++ us) (nextN R t (restPut rest us (bs.length % 16) ++ [1])) rest' := by
  have e1 : (bs ++ us).length / 16 = bs.length / 16 + 1 := by rw [List.length_append]; omega
  have e2 : (bs ++ us).length % 16 = 0 := by rw [List.length_append]; omega
  have e3 : restPut rest us (bs.length % 16) = ((bs ++ us).drop (16 * (bs.length / 16))).take 16 := by
    have := restPut_take rest us (bs.length % 16) (by omega)
    rw [List.take_of_length_le (by rw [restPut_length _ _ _ (by omega)]; omega), h.2.2] at this
    rw [this, List.drop_append_of_le_length (by omega), List.take_of_length_le]
    rw [List.length_append, List.length_drop]; omega
  obtain ⟨h1, h2⟩ := next_val R _ t h.1 (restPut rest us (bs.length % 16) ++ [1]) hR rfl (lev_block _ 0 (by rw [restPut_length _ _ _ (by omega)]; omega)).2
  refine ⟨h1, ?_, ?_⟩
  · rw [h2, e1, polyH, polyH_append _ _ _ _ (by omega), ← h.2.1, e3]
  · rw [e2, List.take_zero, List.drop_eq_nil_of_le (by rw [List.length_append]; omega)]
/-- The last block, if there is one. -/
theorem took_end {R : Nat} {bs : List UInt8} {t : List Nat} {rest : List UInt8} (h : Took R bs t rest) (hR : R < 1361129467683753853853498429727072845824) (hm : 0 < bs.length % 16) : Fine (nextN R t (rest.take (bs.length % 16) ++ [1] ++ List.replicate (16 - bs.length % 16) 0)) ∧ lval (nextN R t (rest.take (bs.length % 16) ++ [1] ++ List.replicate (16 - bs.length % 16) 0)) % polyP = polyH R bs ((bs.length + 15) / 16) := by
  have hb := lev_block (rest.take (bs.length % 16)) (16 - bs.length % 16) (by rw [List.length_take]; omega)
  obtain ⟨h1, h2⟩ := next_val R _ t h.1 (rest.take (bs.length % 16) ++ [1] ++ List.replicate (16 - bs.length % 16) 0) hR hb.1 hb.2
  refine ⟨h1, ?_⟩
  rw [h2, show (bs.length + 15) / 16 = bs.length / 16 + 1 by omega, polyH, h.2.1, h.2.2, List.take_of_length_le (by rw [List.length_drop]; omega)]
theorem took_even {R : Nat} {bs : List UInt8} {t : List Nat} {rest : List UInt8} (h : Took R bs t rest) (hm : bs.length % 16 = 0) : Fine t ∧ lval t % polyP = polyH R bs ((bs.length + 15) / 16) := by
  refine ⟨h.1, ?_⟩
  rw [h.2.1, show (bs.length + 15) / 16 = bs.length / 16 by omega]
theorem putL_mod (x : Nat) : putL (x % 1361129467683753853853498429727072845824) 16 = putL x 16 := by
  unfold putL
  refine List.map_congr_left fun i hi => ?_
  have hi2 : i < 16 := List.mem_range.1 hi
  apply UInt8.toNat_inj.1
  rw [byteAt, byteAt, UInt8.toNat_ofNat', UInt8.toNat_ofNat']
  exact digit_same _ _ 16 i hi2 (Nat.mod_mod_of_dvd x ⟨4, rfl⟩)
/-- The code out of the total. -/
theorem ended_val (key bs : List UInt8) (t : List Nat) (s : List UInt8) (hk : key.length = 32) (hs : s = key.drop 16 ++ [0]) (ht : Fine t) (hv : lval t % polyP = polyH (polyR key) bs ((bs.length + 15) / 16)) :
    (plusN (leastN t) (limbsOf (lev s))).length = 5 ∧ Below5 67108864 (carN (plusN (leastN t) (limbsOf (lev s)))) ∧ putL (lval (carN (plusN (leastN t) (limbsOf (lev s))))) 16 = polySum key bs := by
  obtain ⟨h1, h2⟩ := leastN_val t ht
  have hl : (leastN t).length = 5 := (leastN_length t).trans ht.1
  obtain ⟨h3, h4⟩ := plusN_val (leastN t) (limbsOf (lev s)) hl (limbsOf_length _) _ _ h2 (limbsOf_below _) (by omega)
  have h5 : (plusN (leastN t) (limbsOf (lev s))).length = 5 := (plusN_length _ _).trans hl
  have hb : Below5 9223372036854775808 (plusN (leastN t) (limbsOf (lev s))) := fun y hy => by have := h4 y hy; omega
  refine ⟨h5, (carN_val _ h5 hb).2, ?_⟩
  have e : lev s = polyS key := by rw [hs, lev_append]; rfl
  have h6 := lev_lt (key.drop 16)
  rw [List.length_drop, hk] at h6
  have h7 : polyS key < 1361129467683753853853498429727072845824 := by show lev (key.drop 16) < _; omega
  rw [(overN_eq _ h5 hb).2, putL_mod, h3, h1, hv, e, lval_limbsOf _ h7]
  rfl
theorem polyR_lt (key : List UInt8) (hk : key.length = 32) : polyR key < 1361129467683753853853498429727072845824 := by
  have h := lev_lt (polyClamp (key.take 16))
  rw [polyClamp_length, List.length_take, hk, show min 16 32 = 16 from rfl] at h
  show lev _ < _
  omega
theorem polyR_row (key : List UInt8) : lev (polyClamp (key.take 16) ++ [0]) = polyR key := by rw [lev_append]; rfl
end Go.Proofs.YtiadgningbogmaaDoor
