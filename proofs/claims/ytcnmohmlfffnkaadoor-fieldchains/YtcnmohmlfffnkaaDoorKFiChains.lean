/- The walk of the law FieldChains. (Made by tools/mkchains.py.) -/
import Derived.Test.YtcnmohmlfffnkaaDoorPart13
import Derived.IntWalk
namespace Go.Proofs.YtcnmohmlfffnkaaDoor.fieldChains
open Go.RowKit
def chVs3 (ka kb kc : List UInt8) (x y z : List Nat) (g_a g_b g_c : Nat) : List Value :=
  (hashVal ka) :: (hashVal kb) :: (hashVal kc) :: (.pointer (some ⟨g_a, 0, none⟩)) :: (.pointer (some ⟨g_b, 0, none⟩)) :: (.pointer (some ⟨g_c, 0, none⟩)) :: (.bool false) :: (undef) :: (undef) :: (undef) :: undef :: undef :: undef :: undef :: undef :: (.bool true) :: (.bool false) :: (hashVal ka) :: (numVal x) :: (hashVal kb) :: (numVal y) :: (hashVal kc) :: (numVal z) :: undef :: undef :: undef :: undef :: undef :: undef :: undef :: undef :: undef :: undef :: undef :: undef :: undef :: undef :: undef :: undef :: undef :: undef :: undef :: undef :: undef :: undef :: undef :: undef :: undef :: undef :: undef :: undef :: undef :: undef :: undef :: undef :: undef :: undef :: undef :: undef :: undef :: undef :: undef :: undef :: undef :: undef :: undef :: undef :: undef :: undef :: undef :: undef :: undef :: undef :: undef :: undef :: undef :: undef :: undef :: undef :: undef :: undef :: undef :: undef :: undef :: undef :: undef :: undef :: undef :: undef :: undef :: undef :: undef :: undef :: undef :: undef :: undef :: undef :: undef :: undef :: []
def chVs3N (ka kb kc : List UInt8) (x y z : List Nat) (g_a g_b g_c : Nat) (g7 g8 g9 : Nat) : List Value :=
  (hashVal ka) :: (hashVal kb) :: (hashVal kc) :: (.pointer (some ⟨g_a, 0, none⟩)) :: (.pointer (some ⟨g_b, 0, none⟩)) :: (.pointer (some ⟨g_c, 0, none⟩)) :: (.bool false) :: (.pointer (some ⟨g7, 0, none⟩)) :: (.pointer (some ⟨g8, 0, none⟩)) :: (.pointer (some ⟨g9, 0, none⟩)) :: undef :: undef :: undef :: undef :: undef :: (.bool true) :: (.bool false) :: (hashVal ka) :: (numVal x) :: (hashVal kb) :: (numVal y) :: (hashVal kc) :: (numVal z) :: undef :: undef :: undef :: undef :: undef :: undef :: undef :: undef :: undef :: undef :: undef :: undef :: undef :: undef :: undef :: undef :: undef :: undef :: undef :: undef :: undef :: undef :: undef :: undef :: undef :: undef :: undef :: undef :: undef :: undef :: undef :: undef :: undef :: undef :: undef :: undef :: undef :: undef :: undef :: undef :: undef :: undef :: undef :: undef :: undef :: undef :: undef :: undef :: undef :: undef :: undef :: undef :: undef :: undef :: undef :: undef :: undef :: undef :: undef :: undef :: undef :: undef :: undef :: undef :: undef :: undef :: undef :: undef :: undef :: undef :: undef :: undef :: undef :: undef :: undef :: undef :: []
def chVs8 (ka kb kc : List UInt8) (ga gb gc : Nat) (x y z : List Nat) (s t s1 _m : List Nat) (k : Nat) (_u27 _u28 _u29 _u30 _u31 u32 u33 u34 u35 u36 u37 : Value) (g_x g_y g_z g_s g_m : Nat) : List Value :=
  (hashVal ka) :: (hashVal kb) :: (hashVal kc) :: (.pointer (some ⟨ga, 0, none⟩)) :: (.pointer (some ⟨gb, 0, none⟩)) :: (.pointer (some ⟨gc, 0, none⟩)) :: (.bool false) :: (.pointer (some ⟨g_x, 0, none⟩)) :: (.pointer (some ⟨g_y, 0, none⟩)) :: (.pointer (some ⟨g_z, 0, none⟩)) :: (.pointer (some ⟨g_s, 0, none⟩)) :: (.pointer (some ⟨g_m, 0, none⟩)) :: undef :: undef :: undef :: (.bool true) :: (.bool false) :: (hashVal ka) :: (numVal x) :: (hashVal kb) :: (numVal y) :: (hashVal kc) :: (numVal z) :: (numVal x) :: (numVal x) :: (.int .i64 (k : Int)) :: (.bool true) :: (numVal s) :: (numVal y) :: (numVal t) :: (numVal z) :: (numVal s1) :: (u32) :: (u33) :: (u34) :: (u35) :: (u36) :: (u37) :: undef :: undef :: undef :: undef :: undef :: undef :: undef :: undef :: undef :: undef :: undef :: undef :: undef :: undef :: undef :: undef :: undef :: undef :: undef :: undef :: undef :: undef :: undef :: undef :: undef :: undef :: undef :: undef :: undef :: undef :: undef :: undef :: undef :: undef :: undef :: undef :: undef :: undef :: undef :: undef :: undef :: undef :: undef :: undef :: undef :: undef :: undef :: undef :: undef :: undef :: undef :: undef :: undef :: undef :: undef :: undef :: undef :: undef :: undef :: undef :: undef :: []
def chVs9 (ka kb kc : List UInt8) (ga gb gc : Nat) (x y z : List Nat) (s t s1 m n m1 : List Nat) (k : Nat) (_u27 _u28 _u29 _u30 _u31 _u32 _u33 _u34 _u35 _u36 u37 : Value) (g_x g_y g_z g_s g_m : Nat) : List Value :=
  (hashVal ka) :: (hashVal kb) :: (hashVal kc) :: (.pointer (some ⟨ga, 0, none⟩)) :: (.pointer (some ⟨gb, 0, none⟩)) :: (.pointer (some ⟨gc, 0, none⟩)) :: (.bool false) :: (.pointer (some ⟨g_x, 0, none⟩)) :: (.pointer (some ⟨g_y, 0, none⟩)) :: (.pointer (some ⟨g_z, 0, none⟩)) :: (.pointer (some ⟨g_s, 0, none⟩)) :: (.pointer (some ⟨g_m, 0, none⟩)) :: undef :: undef :: undef :: (.bool true) :: (.bool false) :: (hashVal ka) :: (numVal x) :: (hashVal kb) :: (numVal y) :: (hashVal kc) :: (numVal z) :: (numVal x) :: (numVal x) :: (.int .i64 (k : Int)) :: (.bool true) :: (numVal s) :: (numVal y) :: (numVal t) :: (numVal z) :: (numVal s1) :: (numVal m) :: (numVal y) :: (numVal n) :: (numVal z) :: (numVal m1) :: (u37) :: undef :: undef :: undef :: undef :: undef :: undef :: undef :: undef :: undef :: undef :: undef :: undef :: undef :: undef :: undef :: undef :: undef :: undef :: undef :: undef :: undef :: undef :: undef :: undef :: undef :: undef :: undef :: undef :: undef :: undef :: undef :: undef :: undef :: undef :: undef :: undef :: undef :: undef :: undef :: undef :: undef :: undef :: undef :: undef :: undef :: undef :: undef :: undef :: undef :: undef :: undef :: undef :: undef :: undef :: undef :: undef :: undef :: undef :: undef :: undef :: undef :: []
def chVs14 (ka kb kc : List UInt8) (ga gb gc : Nat) (x y z : List Nat) (s _m d e d1 : List Nat) (k : Nat) (_u26 u27 u28 u29 u30 u31 u32 u33 u34 u35 u36 u37 _u41 _u42 _u43 _u44 _u45 u46 : Value) (g_x g_y g_z g_s g_m g_d : Nat) : List Value :=
  (hashVal ka) :: (hashVal kb) :: (hashVal kc) :: (.pointer (some ⟨ga, 0, none⟩)) :: (.pointer (some ⟨gb, 0, none⟩)) :: (.pointer (some ⟨gc, 0, none⟩)) :: (.bool false) :: (.pointer (some ⟨g_x, 0, none⟩)) :: (.pointer (some ⟨g_y, 0, none⟩)) :: (.pointer (some ⟨g_z, 0, none⟩)) :: (.pointer (some ⟨g_s, 0, none⟩)) :: (.pointer (some ⟨g_m, 0, none⟩)) :: (.pointer (some ⟨g_d, 0, none⟩)) :: undef :: undef :: (.bool true) :: (.bool false) :: (hashVal ka) :: (numVal x) :: (hashVal kb) :: (numVal y) :: (hashVal kc) :: (numVal z) :: (numVal x) :: (numVal x) :: (.int .i64 40) :: (.bool false) :: (u27) :: (u28) :: (u29) :: (u30) :: (u31) :: (u32) :: (u33) :: (u34) :: (u35) :: (u36) :: (u37) :: (numVal s) :: (.int .i64 (k : Int)) :: (.bool true) :: (numVal d) :: (numVal y) :: (numVal e) :: (numVal z) :: (numVal d1) :: (u46) :: undef :: undef :: undef :: undef :: undef :: undef :: undef :: undef :: undef :: undef :: undef :: undef :: undef :: undef :: undef :: undef :: undef :: undef :: undef :: undef :: undef :: undef :: undef :: undef :: undef :: undef :: undef :: undef :: undef :: undef :: undef :: undef :: undef :: undef :: undef :: undef :: undef :: undef :: undef :: undef :: undef :: undef :: undef :: undef :: undef :: undef :: undef :: undef :: undef :: undef :: undef :: undef :: []
def chVs16 (ka kb kc : List UInt8) (ga gb gc : Nat) (x y z : List Nat) (s _m _d p l _q _r _rt : List Nat) (_u26 u27 u28 u29 u30 u31 u32 u33 u34 u35 u36 u37 u41 u42 u43 u44 u45 u46 : Value) (g_x g_y g_z g_s g_m g_d : Nat) : List Value :=
  (hashVal ka) :: (hashVal kb) :: (hashVal kc) :: (.pointer (some ⟨ga, 0, none⟩)) :: (.pointer (some ⟨gb, 0, none⟩)) :: (.pointer (some ⟨gc, 0, none⟩)) :: (.bool false) :: (.pointer (some ⟨g_x, 0, none⟩)) :: (.pointer (some ⟨g_y, 0, none⟩)) :: (.pointer (some ⟨g_z, 0, none⟩)) :: (.pointer (some ⟨g_s, 0, none⟩)) :: (.pointer (some ⟨g_m, 0, none⟩)) :: (.pointer (some ⟨g_d, 0, none⟩)) :: (undef) :: undef :: (.bool true) :: (.bool false) :: (hashVal ka) :: (numVal x) :: (hashVal kb) :: (numVal y) :: (hashVal kc) :: (numVal z) :: (numVal x) :: (numVal x) :: (.int .i64 40) :: (.bool false) :: (u27) :: (u28) :: (u29) :: (u30) :: (u31) :: (u32) :: (u33) :: (u34) :: (u35) :: (u36) :: (u37) :: (numVal s) :: (.int .i64 40) :: (.bool false) :: (u41) :: (u42) :: (u43) :: (u44) :: (u45) :: (u46) :: (numVal x) :: (numVal y) :: (numVal p) :: (numVal z) :: (numVal l) :: undef :: undef :: undef :: undef :: undef :: undef :: undef :: undef :: undef :: undef :: undef :: undef :: undef :: undef :: undef :: undef :: undef :: undef :: undef :: undef :: undef :: undef :: undef :: undef :: undef :: undef :: undef :: undef :: undef :: undef :: undef :: undef :: undef :: undef :: undef :: undef :: undef :: undef :: undef :: undef :: undef :: undef :: undef :: undef :: undef :: undef :: undef :: []
def chVs16N (ka kb kc : List UInt8) (ga gb gc : Nat) (x y z : List Nat) (s _m _d p l _q _r _rt : List Nat) (_u26 u27 u28 u29 u30 u31 u32 u33 u34 u35 u36 u37 u41 u42 u43 u44 u45 u46 : Value) (g_x g_y g_z g_s g_m g_d : Nat) (g13 : Nat) : List Value :=
  (hashVal ka) :: (hashVal kb) :: (hashVal kc) :: (.pointer (some ⟨ga, 0, none⟩)) :: (.pointer (some ⟨gb, 0, none⟩)) :: (.pointer (some ⟨gc, 0, none⟩)) :: (.bool false) :: (.pointer (some ⟨g_x, 0, none⟩)) :: (.pointer (some ⟨g_y, 0, none⟩)) :: (.pointer (some ⟨g_z, 0, none⟩)) :: (.pointer (some ⟨g_s, 0, none⟩)) :: (.pointer (some ⟨g_m, 0, none⟩)) :: (.pointer (some ⟨g_d, 0, none⟩)) :: (.pointer (some ⟨g13, 0, none⟩)) :: undef :: (.bool true) :: (.bool false) :: (hashVal ka) :: (numVal x) :: (hashVal kb) :: (numVal y) :: (hashVal kc) :: (numVal z) :: (numVal x) :: (numVal x) :: (.int .i64 40) :: (.bool false) :: (u27) :: (u28) :: (u29) :: (u30) :: (u31) :: (u32) :: (u33) :: (u34) :: (u35) :: (u36) :: (u37) :: (numVal s) :: (.int .i64 40) :: (.bool false) :: (u41) :: (u42) :: (u43) :: (u44) :: (u45) :: (u46) :: (numVal x) :: (numVal y) :: (numVal p) :: (numVal z) :: (numVal l) :: undef :: undef :: undef :: undef :: undef :: undef :: undef :: undef :: undef :: undef :: undef :: undef :: undef :: undef :: undef :: undef :: undef :: undef :: undef :: undef :: undef :: undef :: undef :: undef :: undef :: undef :: undef :: undef :: undef :: undef :: undef :: undef :: undef :: undef :: undef :: undef :: undef :: undef :: undef :: undef :: undef :: undef :: undef :: undef :: undef :: undef :: undef :: []
def chVs17 (ka kb kc : List UInt8) (ga gb gc : Nat) (x y z : List Nat) (s _m _d p l q r rt : List Nat) (_u26 u27 u28 u29 u30 u31 u32 u33 u34 u35 u36 u37 u41 u42 u43 u44 u45 u46 : Value) (g_x g_y g_z g_s g_m g_d g_l : Nat) : List Value :=
  (hashVal ka) :: (hashVal kb) :: (hashVal kc) :: (.pointer (some ⟨ga, 0, none⟩)) :: (.pointer (some ⟨gb, 0, none⟩)) :: (.pointer (some ⟨gc, 0, none⟩)) :: (.bool false) :: (.pointer (some ⟨g_x, 0, none⟩)) :: (.pointer (some ⟨g_y, 0, none⟩)) :: (.pointer (some ⟨g_z, 0, none⟩)) :: (.pointer (some ⟨g_s, 0, none⟩)) :: (.pointer (some ⟨g_m, 0, none⟩)) :: (.pointer (some ⟨g_d, 0, none⟩)) :: (.pointer (some ⟨g_l, 0, none⟩)) :: (undef) :: (.bool true) :: (.bool false) :: (hashVal ka) :: (numVal x) :: (hashVal kb) :: (numVal y) :: (hashVal kc) :: (numVal z) :: (numVal x) :: (numVal x) :: (.int .i64 40) :: (.bool false) :: (u27) :: (u28) :: (u29) :: (u30) :: (u31) :: (u32) :: (u33) :: (u34) :: (u35) :: (u36) :: (u37) :: (numVal s) :: (.int .i64 40) :: (.bool false) :: (u41) :: (u42) :: (u43) :: (u44) :: (u45) :: (u46) :: (numVal x) :: (numVal y) :: (numVal p) :: (numVal z) :: (numVal l) :: (numVal z) :: (numVal y) :: (numVal q) :: (numVal x) :: (numVal z) :: (numVal r) :: (numVal rt) :: undef :: undef :: undef :: undef :: undef :: undef :: undef :: undef :: undef :: undef :: undef :: undef :: undef :: undef :: undef :: undef :: undef :: undef :: undef :: undef :: undef :: undef :: undef :: undef :: undef :: undef :: undef :: undef :: undef :: undef :: undef :: undef :: undef :: undef :: undef :: undef :: undef :: undef :: undef :: undef :: []
def chVs17N (ka kb kc : List UInt8) (ga gb gc : Nat) (x y z : List Nat) (s _m _d p l q r rt : List Nat) (_u26 u27 u28 u29 u30 u31 u32 u33 u34 u35 u36 u37 u41 u42 u43 u44 u45 u46 : Value) (g_x g_y g_z g_s g_m g_d g_l : Nat) (g14 : Nat) : List Value :=
  (hashVal ka) :: (hashVal kb) :: (hashVal kc) :: (.pointer (some ⟨ga, 0, none⟩)) :: (.pointer (some ⟨gb, 0, none⟩)) :: (.pointer (some ⟨gc, 0, none⟩)) :: (.bool false) :: (.pointer (some ⟨g_x, 0, none⟩)) :: (.pointer (some ⟨g_y, 0, none⟩)) :: (.pointer (some ⟨g_z, 0, none⟩)) :: (.pointer (some ⟨g_s, 0, none⟩)) :: (.pointer (some ⟨g_m, 0, none⟩)) :: (.pointer (some ⟨g_d, 0, none⟩)) :: (.pointer (some ⟨g_l, 0, none⟩)) :: (.pointer (some ⟨g14, 0, none⟩)) :: (.bool true) :: (.bool false) :: (hashVal ka) :: (numVal x) :: (hashVal kb) :: (numVal y) :: (hashVal kc) :: (numVal z) :: (numVal x) :: (numVal x) :: (.int .i64 40) :: (.bool false) :: (u27) :: (u28) :: (u29) :: (u30) :: (u31) :: (u32) :: (u33) :: (u34) :: (u35) :: (u36) :: (u37) :: (numVal s) :: (.int .i64 40) :: (.bool false) :: (u41) :: (u42) :: (u43) :: (u44) :: (u45) :: (u46) :: (numVal x) :: (numVal y) :: (numVal p) :: (numVal z) :: (numVal l) :: (numVal z) :: (numVal y) :: (numVal q) :: (numVal x) :: (numVal z) :: (numVal r) :: (numVal rt) :: undef :: undef :: undef :: undef :: undef :: undef :: undef :: undef :: undef :: undef :: undef :: undef :: undef :: undef :: undef :: undef :: undef :: undef :: undef :: undef :: undef :: undef :: undef :: undef :: undef :: undef :: undef :: undef :: undef :: undef :: undef :: undef :: undef :: undef :: undef :: undef :: undef :: undef :: undef :: undef :: []
def chVs18f (ka kb kc : List UInt8) (ga gb gc : Nat) (x y z : List Nat) (s m d p l q r rt c1 c2 c3 c4 v1 v2 iv o1 o2 : List Nat) (_u26 u27 u28 u29 u30 u31 u32 u33 u34 u35 u36 u37 u41 u42 u43 u44 u45 u46 : Value) (g_x g_y g_z g_s g_m g_d g_l g_r : Nat) : List Value :=
  (hashVal ka) :: (hashVal kb) :: (hashVal kc) :: (.pointer (some ⟨ga, 0, none⟩)) :: (.pointer (some ⟨gb, 0, none⟩)) :: (.pointer (some ⟨gc, 0, none⟩)) :: (.bool true) :: (.pointer (some ⟨g_x, 0, none⟩)) :: (.pointer (some ⟨g_y, 0, none⟩)) :: (.pointer (some ⟨g_z, 0, none⟩)) :: (.pointer (some ⟨g_s, 0, none⟩)) :: (.pointer (some ⟨g_m, 0, none⟩)) :: (.pointer (some ⟨g_d, 0, none⟩)) :: (.pointer (some ⟨g_l, 0, none⟩)) :: (.pointer (some ⟨g_r, 0, none⟩)) :: (.bool true) :: (.bool false) :: (hashVal ka) :: (numVal x) :: (hashVal kb) :: (numVal y) :: (hashVal kc) :: (numVal z) :: (numVal x) :: (numVal x) :: (.int .i64 40) :: (.bool false) :: (u27) :: (u28) :: (u29) :: (u30) :: (u31) :: (u32) :: (u33) :: (u34) :: (u35) :: (u36) :: (u37) :: (numVal s) :: (.int .i64 40) :: (.bool false) :: (u41) :: (u42) :: (u43) :: (u44) :: (u45) :: (u46) :: (numVal x) :: (numVal y) :: (numVal p) :: (numVal z) :: (numVal l) :: (numVal z) :: (numVal y) :: (numVal q) :: (numVal x) :: (numVal z) :: (numVal r) :: (numVal rt) :: (numVal d) :: (numVal x) :: (.bool true) :: (.bool true) :: (numVal l) :: (numVal rt) :: (.bool true) :: (.bool true) :: (.bool true) :: (numVal x) :: (numVal y) :: (numVal c1) :: (numVal c2) :: (numVal y) :: (numVal x) :: (numVal c3) :: (numVal c4) :: (.bool true) :: (.bool true) :: (.bool true) :: (numVal m) :: (numVal z) :: (numVal v1) :: (numVal z) :: (numVal m) :: (numVal v2) :: (.bool true) :: (.bool true) :: (.bool true) :: (numVal x) :: (.bool false) :: (.bool false) :: (numVal x) :: (numVal x) :: (numVal iv) :: (numVal o1) :: (numVal o2) :: (.bool true) :: (.bool true) :: (.bool true) :: []
def chVs18t (ka kb kc : List UInt8) (ga gb gc : Nat) (x y z : List Nat) (s m d p l q r rt c1 c2 c3 c4 v1 v2 _iv _o1 _o2 : List Nat) (_u26 u27 u28 u29 u30 u31 u32 u33 u34 u35 u36 u37 u41 u42 u43 u44 u45 u46 : Value) (g_x g_y g_z g_s g_m g_d g_l g_r : Nat) : List Value :=
  (hashVal ka) :: (hashVal kb) :: (hashVal kc) :: (.pointer (some ⟨ga, 0, none⟩)) :: (.pointer (some ⟨gb, 0, none⟩)) :: (.pointer (some ⟨gc, 0, none⟩)) :: (.bool true) :: (.pointer (some ⟨g_x, 0, none⟩)) :: (.pointer (some ⟨g_y, 0, none⟩)) :: (.pointer (some ⟨g_z, 0, none⟩)) :: (.pointer (some ⟨g_s, 0, none⟩)) :: (.pointer (some ⟨g_m, 0, none⟩)) :: (.pointer (some ⟨g_d, 0, none⟩)) :: (.pointer (some ⟨g_l, 0, none⟩)) :: (.pointer (some ⟨g_r, 0, none⟩)) :: (.bool true) :: (.bool false) :: (hashVal ka) :: (numVal x) :: (hashVal kb) :: (numVal y) :: (hashVal kc) :: (numVal z) :: (numVal x) :: (numVal x) :: (.int .i64 40) :: (.bool false) :: (u27) :: (u28) :: (u29) :: (u30) :: (u31) :: (u32) :: (u33) :: (u34) :: (u35) :: (u36) :: (u37) :: (numVal s) :: (.int .i64 40) :: (.bool false) :: (u41) :: (u42) :: (u43) :: (u44) :: (u45) :: (u46) :: (numVal x) :: (numVal y) :: (numVal p) :: (numVal z) :: (numVal l) :: (numVal z) :: (numVal y) :: (numVal q) :: (numVal x) :: (numVal z) :: (numVal r) :: (numVal rt) :: (numVal d) :: (numVal x) :: (.bool true) :: (.bool true) :: (numVal l) :: (numVal rt) :: (.bool true) :: (.bool true) :: (.bool true) :: (numVal x) :: (numVal y) :: (numVal c1) :: (numVal c2) :: (numVal y) :: (numVal x) :: (numVal c3) :: (numVal c4) :: (.bool true) :: (.bool true) :: (.bool true) :: (numVal m) :: (numVal z) :: (numVal v1) :: (numVal z) :: (numVal m) :: (numVal v2) :: (.bool true) :: (.bool true) :: (.bool true) :: (numVal x) :: (.bool true) :: (.bool true) :: (undef) :: (undef) :: (undef) :: (undef) :: (undef) :: (undef) :: (.bool true) :: (.bool true) :: []
set_option maxRecDepth 100000 in
set_option maxHeartbeats 2000000 in
theorem walk_over (ka kb kc : List UInt8) (x y z s m d p l q r rt c1 c2 c3 c4 v1 v2 iv o1 o2 : List Nat) (S T M N D E : Nat → List Nat) (b : Bool) (w : World) (HA : Hid (ka.length = 32)) (HB : Hid (kb.length = 32)) (HC : Hid (kc.length = 32)) (HX : Hid (x.length = 5)) (HY : Hid (y.length = 5)) (HZ : Hid (z.length = 5)) (HLL : Hid (l.length = 5)) (HRT : Hid (rt.length = 5))
    (HL : Hid (∀ k, (S k).length = 5 ∧ (T k).length = 5 ∧ (M k).length = 5 ∧ (N k).length = 5 ∧ (D k).length = 5 ∧ (E k).length = 5)) (HS0 : Hid (S 0 = x)) (HM0 : Hid (M 0 = x)) (HD0 : Hid (D 0 = s)) (HS40 : Hid (S 40 = s)) (HM40 : Hid (M 40 = m)) (HD40 : Hid (D 40 = d))
    (CX : Hid (∀ W, Calls Tryd.prog 10 #[hashVal ka] W fun e w' => e = .returned (numVal x) ∧ Below W.heap.size W w'))
    (CY : Hid (∀ W, Calls Tryd.prog 10 #[hashVal kb] W fun e w' => e = .returned (numVal y) ∧ Below W.heap.size W w'))
    (CZ : Hid (∀ W, Calls Tryd.prog 10 #[hashVal kc] W fun e w' => e = .returned (numVal z) ∧ Below W.heap.size W w'))
    (CS : Hid (∀ k : Nat, ∀ W, Calls Tryd.prog 19 #[numVal (S k), numVal y] W fun e w' => e = .returned (numVal (T k)) ∧ Below W.heap.size W w'))
    (CT : Hid (∀ k : Nat, ∀ W, Calls Tryd.prog 21 #[numVal (T k), numVal z] W fun e w' => e = .returned (numVal (S (k + 1))) ∧ Below W.heap.size W w'))
    (CM : Hid (∀ k : Nat, ∀ W, Calls Tryd.prog 23 #[numVal (M k), numVal y] W fun e w' => e = .returned (numVal (N k)) ∧ Below W.heap.size W w'))
    (CN : Hid (∀ k : Nat, ∀ W, Calls Tryd.prog 19 #[numVal (N k), numVal z] W fun e w' => e = .returned (numVal (M (k + 1))) ∧ Below W.heap.size W w'))
    (CD : Hid (∀ k : Nat, ∀ W, Calls Tryd.prog 21 #[numVal (D k), numVal y] W fun e w' => e = .returned (numVal (E k)) ∧ Below W.heap.size W w'))
    (CE : Hid (∀ k : Nat, ∀ W, Calls Tryd.prog 19 #[numVal (E k), numVal z] W fun e w' => e = .returned (numVal (D (k + 1))) ∧ Below W.heap.size W w'))
    (CP : Hid (∀ W, Calls Tryd.prog 19 #[numVal x, numVal y] W fun e w' => e = .returned (numVal p) ∧ Below W.heap.size W w'))
    (CL : Hid (∀ W, Calls Tryd.prog 23 #[numVal p, numVal z] W fun e w' => e = .returned (numVal l) ∧ Below W.heap.size W w'))
    (CQ : Hid (∀ W, Calls Tryd.prog 23 #[numVal z, numVal y] W fun e w' => e = .returned (numVal q) ∧ Below W.heap.size W w'))
    (CR : Hid (∀ W, Calls Tryd.prog 23 #[numVal x, numVal z] W fun e w' => e = .returned (numVal r) ∧ Below W.heap.size W w'))
    (CRT : Hid (∀ W, Calls Tryd.prog 19 #[numVal q, numVal r] W fun e w' => e = .returned (numVal rt) ∧ Below W.heap.size W w'))
    (S1 : Hid (∀ W, Calls Tryd.prog 26 #[numVal d, numVal x] W fun e w' => e = .returned (.bool true) ∧ Below W.heap.size W w'))
    (S2 : Hid (∀ W, Calls Tryd.prog 26 #[numVal l, numVal rt] W fun e w' => e = .returned (.bool true) ∧ Below W.heap.size W w'))
    (C1 : Hid (∀ W, Calls Tryd.prog 21 #[numVal x, numVal y] W fun e w' => e = .returned (numVal c1) ∧ Below W.heap.size W w'))
    (C3 : Hid (∀ W, Calls Tryd.prog 21 #[numVal y, numVal x] W fun e w' => e = .returned (numVal c3) ∧ Below W.heap.size W w'))
    (C4 : Hid (∀ W, Calls Tryd.prog 21 #[numVal c2, numVal c3] W fun e w' => e = .returned (numVal c4) ∧ Below W.heap.size W w'))
    (S3 : Hid (∀ W, Calls Tryd.prog 26 #[numVal c1, numVal c4] W fun e w' => e = .returned (.bool true) ∧ Below W.heap.size W w'))
    (C5 : Hid (∀ W, Calls Tryd.prog 23 #[numVal m, numVal z] W fun e w' => e = .returned (numVal v1) ∧ Below W.heap.size W w'))
    (C6 : Hid (∀ W, Calls Tryd.prog 23 #[numVal z, numVal m] W fun e w' => e = .returned (numVal v2) ∧ Below W.heap.size W w'))
    (S4 : Hid (∀ W, Calls Tryd.prog 26 #[numVal v1, numVal v2] W fun e w' => e = .returned (.bool true) ∧ Below W.heap.size W w'))
    (CB : Hid (∀ W, Calls Tryd.prog 14 #[numVal x] W fun e w' => e = .returned (.bool b) ∧ Below W.heap.size W w'))
    (C7 : Hid (∀ W, Calls Tryd.prog 27 #[numVal x] W fun e w' => e = .returned (numVal iv) ∧ Below W.heap.size W w'))
    (C8 : Hid (∀ W, Calls Tryd.prog 23 #[numVal x, numVal iv] W fun e w' => e = .returned (numVal o1) ∧ Below W.heap.size W w'))
    (C2 : Hid (∀ W, Calls Tryd.prog 16 #[.int .i64 0] W fun e w' => e = .returned (numVal c2) ∧ Below W.heap.size W w'))
    (C9 : Hid (∀ W, Calls Tryd.prog 16 #[.int .i64 1] W fun e w' => e = .returned (numVal o2) ∧ Below W.heap.size W w'))
    (S5 : Hid (b = false → ∀ W, Calls Tryd.prog 26 #[numVal o1, numVal o2] W fun e w' => e = .returned (.bool true) ∧ Below W.heap.size W w')) :
    Calls Tryd.prog 6 #[hashVal ka, hashVal kb, hashVal kc] w fun e w' => e = .returned (.bool true) ∧ Below w.heap.size w w' := by
  go_enter Tryd.func6, Tryd.ntmps6
  go_wp2_with (first
      | (refine take_step rfl 23 (.tmp 0) rfl ka rfl ?_
         intro w1 hb1 hva1 hz
         clear hz
         have hB1 := hb1
         have hgea : w.heap.size ≤ w.heap.size := Nat.le_refl _
         clear hb1
         try simp only [Act.put, List.setIfInBounds_toArray, List.set_cons_zero, List.set_cons_succ]
         skip)
      | (refine take_step rfl 23 (.tmp 1) rfl kb rfl ?_
         intro w2 hb2 hvb2 hz
         clear hz
         have hB2 := below_then hB1 hb2
         have hgeb : w.heap.size ≤ w1.heap.size := hB1.size
         have hva2 := hva1.on hb2
         have hneab := Nat.ne_of_lt hva1.lt
         clear hB1 hva1 hb2
         try simp only [Act.put, List.setIfInBounds_toArray, List.set_cons_zero, List.set_cons_succ]
         skip)
      | (refine take_step rfl 23 (.tmp 2) rfl kc rfl ?_
         intro w3 hb3 hvc3 hz
         clear hz
         have hB3 := below_then hB2 hb3
         have hgec : w.heap.size ≤ w2.heap.size := hB2.size
         have hva3 := hva2.on hb3
         have hneac := Nat.ne_of_lt hva2.lt
         have hvb3 := hvb2.on hb3
         have hnebc := Nat.ne_of_lt hvb2.lt
         clear hB2 hva2 hvb2 hb3
         try simp only [Act.put, List.setIfInBounds_toArray, List.set_cons_zero, List.set_cons_succ]
         skip))
  refine (alive9 w3).mono ?_
  rintro e w4 ⟨rfl, hb4⟩
  have hB4 := below_then hB3 hb4
  have hva4 := hva3.on hb4
  have hvb4 := hvb3.on hb4
  have hvc4 := hvc3.on hb4
  clear hB3 hva3 hvb3 hvc3 hb4
  go_wp2_with fail
  generalize hqb : w1.heap.size = gb at *
  clear hqb
  generalize hqc : w2.heap.size = gc at *
  clear hqc
  replace hva4 := hva4.drew
  replace hvb4 := hvb4.drew
  replace hvc4 := hvc4.drew
  refine wp_region_any (by kernel_rfl) ?_
  refine wpAny_flatM (L := [0, 1, 2, 3, 4, 5, 6, 7, 8]) (by kernel_rfl) _ _ (chVs3 ka kb kc x y z w.heap.size gb gc) [(6, 7), (7, 8), (8, 9)] 33 (nzeros 5) [0, 1, 2, 3, 4, 5, 6, 10, 11, 12, 13, 14, 15, 16, 23, 24, 25, 26, 27, 28, 29, 30, 31, 32, 33, 34, 35, 36, 37, 38, 39, 40, 41, 42, 43, 44, 45, 46, 47, 48, 49, 50, 51, 52, 53, 54, 55, 56, 57, 58, 59, 60, 61, 62, 63, 64, 65, 66, 67, 68, 69, 70, 71, 72, 73, 74, 75, 76, 77, 78, 79, 80, 81, 82, 83, 84, 85, 86, 87, 88, 89, 90, 91, 92, 93, 94, 95, 96, 97, 98] (by kernel_rfl) (by kernel_rfl) ?_ zero_elem ?_ (by rfl) ?_ 3 (by kernel_rfl) ?_
  · intro p hp
    rcases List.mem_cons.1 hp with rfl | hp
    · exact ⟨⟨_, rfl, rfl, rfl, rfl, by kernel_rfl, by kernel_rfl⟩⟩
    rcases List.mem_cons.1 hp with rfl | hp
    · exact ⟨⟨_, rfl, rfl, rfl, rfl, by kernel_rfl, by kernel_rfl⟩⟩
    rcases List.mem_cons.1 hp with rfl | hp
    · exact ⟨⟨_, rfl, rfl, rfl, rfl, by kernel_rfl, by kernel_rfl⟩⟩
    exact absurd hp List.not_mem_nil
  · exact all_cons rfl (all_cons rfl (all_cons rfl (all_cons rfl (all_cons rfl (all_cons rfl (all_cons rfl (all_cons rfl (all_cons rfl (all_cons rfl (all_cons rfl (all_cons rfl (all_cons rfl (all_cons rfl (all_cons rfl (all_cons rfl (all_cons rfl (all_cons rfl (all_cons rfl (all_cons rfl (all_cons rfl (all_cons rfl (all_cons rfl (all_cons rfl (all_cons rfl (all_cons rfl (all_cons rfl (all_cons rfl (all_cons rfl (all_cons rfl (all_cons rfl (all_cons rfl (all_cons rfl (all_cons rfl (all_cons rfl (all_cons rfl (all_cons rfl (all_cons rfl (all_cons rfl (all_cons rfl (all_cons rfl (all_cons rfl (all_cons rfl (all_cons rfl (all_cons rfl (all_cons rfl (all_cons rfl (all_cons rfl (all_cons rfl (all_cons rfl (all_cons rfl (all_cons rfl (all_cons rfl (all_cons rfl (all_cons rfl (all_cons rfl (all_cons rfl (all_cons rfl (all_cons rfl (all_cons rfl (all_cons rfl (all_cons rfl (all_cons rfl (all_cons rfl (all_cons rfl (all_cons rfl (all_cons rfl (all_cons rfl (all_cons rfl (all_cons rfl (all_cons rfl (all_cons rfl (all_cons rfl (all_cons rfl (all_cons rfl (all_cons rfl (all_cons rfl (all_cons rfl (all_cons rfl (all_cons rfl (all_cons rfl (all_cons rfl (all_cons rfl (all_cons rfl (all_cons rfl (all_cons rfl (all_cons rfl (all_cons rfl (all_cons rfl (all_cons rfl (all_nil))))))))))))))))))))))))))))))))))))))))))))))))))))))))))))))))))))))))))))))))))))))))))
  · refine all_cons (.inr (mStep _ 17 rfl rfl rfl rfl (by kernel_rfl) (fun a hv => wanted_all rfl _) (fun a w K hb hv hK => mPure (hashVal ka) (exec_load _ _ _ _ rfl _ _ (hv 3 (by kernel_rfl) rfl) w (key_run (hva4.on hb) HA.out)) hK))) ?_
    refine all_cons (.inr (mStep _ 18 rfl rfl rfl rfl (by kernel_rfl) (fun a hv => wanted_all rfl _) (fun a w K hb hv hK => mCall (numVal x) 10 _ _ rfl [hashVal ka] (cons_eq (hv 17 (by kernel_rfl) rfl) (rfl)) (enters Tryd.func10 rfl rfl) (CX.out w) hK))) ?_
    refine all_cons (.inr (mStep _ 19 rfl rfl rfl rfl (by kernel_rfl) (fun a hv => wanted_all rfl _) (fun a w K hb hv hK => mPure (hashVal kb) (exec_load _ _ _ _ rfl _ _ (hv 4 (by kernel_rfl) rfl) w (key_run (hvb4.on hb) HB.out)) hK))) ?_
    refine all_cons (.inr (mStep _ 20 rfl rfl rfl rfl (by kernel_rfl) (fun a hv => wanted_all rfl _) (fun a w K hb hv hK => mCall (numVal y) 10 _ _ rfl [hashVal kb] (cons_eq (hv 19 (by kernel_rfl) rfl) (rfl)) (enters Tryd.func10 rfl rfl) (CY.out w) hK))) ?_
    refine all_cons (.inr (mStep _ 21 rfl rfl rfl rfl (by kernel_rfl) (fun a hv => wanted_all rfl _) (fun a w K hb hv hK => mPure (hashVal kc) (exec_load _ _ _ _ rfl _ _ (hv 5 (by kernel_rfl) rfl) w (key_run (hvc4.on hb) HC.out)) hK))) ?_
    refine all_cons (.inr (mStep _ 22 rfl rfl rfl rfl (by kernel_rfl) (fun a hv => wanted_all rfl _) (fun a w K hb hv hK => mCall (numVal z) 10 _ _ rfl [hashVal kc] (cons_eq (hv 21 (by kernel_rfl) rfl) (rfl)) (enters Tryd.func10 rfl rfl) (CZ.out w) hK))) ?_
    refine all_cons (.inl ⟨(6, 7), by simp, rfl⟩) ?_
    refine all_cons (.inl ⟨(7, 8), by simp, rfl⟩) ?_
    refine all_cons (.inl ⟨(8, 9), by simp, rfl⟩) ?_
    exact all_nil
  intro w5 g hb5 hN5 hap5
  obtain ⟨hgex, hvx5⟩ := hN5 (6, 7) (by simp)
  obtain ⟨hgey, hvy5⟩ := hN5 (7, 8) (by simp)
  obtain ⟨hgez, hvz5⟩ := hN5 (8, 9) (by simp)
  have hnexy := hap5 (6, 7) (by simp) (7, 8) (by simp) (by decide)
  have hnexz := hap5 (6, 7) (by simp) (8, 9) (by simp) (by decide)
  have hneyz := hap5 (7, 8) (by simp) (8, 9) (by simp) (by decide)
  clear hN5 hap5
  have hB5 := below_then (show Below w.heap.size w w4.drew from hB4.drew) hb5
  have hlta : w.heap.size < w4.heap.size := hva4.lt
  have hltb : gb < w4.heap.size := hvb4.lt
  have hltc : gc < w4.heap.size := hvc4.lt
  have hva5 := hva4.on hb5
  have hvb5 := hvb4.on hb5
  have hvc5 := hvc4.on hb5
  rw [show withNew g [(6, 7), (7, 8), (8, 9)] (chVs3 ka kb kc x y z w.heap.size gb gc) = chVs3N ka kb kc x y z w.heap.size gb gc (g 7) (g 8) (g 9) from rfl]
  replace hgex : w4.heap.size ≤ g 7 := hgex
  replace hvx5 : Cells w5 (g 7) (nzeros 5) 33 := hvx5
  replace hgey : w4.heap.size ≤ g 8 := hgey
  replace hvy5 : Cells w5 (g 8) (nzeros 5) 33 := hvy5
  replace hgez : w4.heap.size ≤ g 9 := hgez
  replace hvz5 : Cells w5 (g 9) (nzeros 5) 33 := hvz5
  replace hnexy : g 7 ≠ g 8 := hnexy
  replace hnexz : g 7 ≠ g 9 := hnexz
  replace hneyz : g 8 ≠ g 9 := hneyz
  have hneax : w.heap.size ≠ g 7 := Nat.ne_of_lt (Nat.lt_of_lt_of_le hlta hgex)
  have hnebx : gb ≠ g 7 := Nat.ne_of_lt (Nat.lt_of_lt_of_le hltb hgex)
  have hnecx : gc ≠ g 7 := Nat.ne_of_lt (Nat.lt_of_lt_of_le hltc hgex)
  replace hgex : w.heap.size ≤ g 7 := Nat.le_trans (show w.heap.size ≤ w4.heap.size from hB4.size) hgex
  have hneay : w.heap.size ≠ g 8 := Nat.ne_of_lt (Nat.lt_of_lt_of_le hlta hgey)
  have hneby : gb ≠ g 8 := Nat.ne_of_lt (Nat.lt_of_lt_of_le hltb hgey)
  have hnecy : gc ≠ g 8 := Nat.ne_of_lt (Nat.lt_of_lt_of_le hltc hgey)
  replace hgey : w.heap.size ≤ g 8 := Nat.le_trans (show w.heap.size ≤ w4.heap.size from hB4.size) hgey
  have hneaz : w.heap.size ≠ g 9 := Nat.ne_of_lt (Nat.lt_of_lt_of_le hlta hgez)
  have hnebz : gb ≠ g 9 := Nat.ne_of_lt (Nat.lt_of_lt_of_le hltb hgez)
  have hnecz : gc ≠ g 9 := Nat.ne_of_lt (Nat.lt_of_lt_of_le hltc hgez)
  replace hgez : w.heap.size ≤ g 9 := Nat.le_trans (show w.heap.size ≤ w4.heap.size from hB4.size) hgez
  clear hlta hltb hltc
  generalize g 7 = gx at *
  generalize g 8 = gy at *
  generalize g 9 = gz at *
  clear hB4 hva4 hvb4 hvc4 hb5 CX CY CZ
  refine wpAny_rest 9 rfl (by kernel_rfl) ?_
  refine vset_step rfl 33 (.tmp 7) (.tmp 18) rfl gx 5 (nzeros 5) (x.map ncell) rfl rfl hvx5 rfl size_elem (by rw [List.length_map, HX.out]) (ncells_one _) ?_
  intro w6 hb6 hvx6 hz6
  have hB6 : Below w.heap.size w w6 := hB5.trans (hb6.below hgex hB5.size)
  have hva6 := hva5.but hb6 hneax
  have hvb6 := hvb5.but hb6 hnebx
  have hvc6 := hvc5.but hb6 hnecx
  have hvy6 := hvy5.but hb6 (Ne.symm hnexy)
  have hvz6 := hvz5.but hb6 (Ne.symm hnexz)
  clear hB5 hvx5 hb6 hz6 hva5 hvb5 hvc5 hvy5 hvz5
  refine vset_step rfl 33 (.tmp 8) (.tmp 20) rfl gy 5 (nzeros 5) (y.map ncell) rfl rfl hvy6 rfl size_elem (by rw [List.length_map, HY.out]) (ncells_one _) ?_
  intro w7 hb7 hvy7 hz7
  have hB7 : Below w.heap.size w w7 := hB6.trans (hb7.below hgey hB6.size)
  have hva7 := hva6.but hb7 hneay
  have hvb7 := hvb6.but hb7 hneby
  have hvc7 := hvc6.but hb7 hnecy
  have hvx7 := hvx6.but hb7 hnexy
  have hvz7 := hvz6.but hb7 (Ne.symm hneyz)
  clear hB6 hvy6 hb7 hz7 hva6 hvb6 hvc6 hvx6 hvz6
  refine vset_step rfl 33 (.tmp 9) (.tmp 22) rfl gz 5 (nzeros 5) (z.map ncell) rfl rfl hvz7 rfl size_elem (by rw [List.length_map, HZ.out]) (ncells_one _) ?_
  intro w8 hb8 hvz8 hz8
  have hB8 : Below w.heap.size w w8 := hB7.trans (hb8.below hgez hB7.size)
  have hva8 := hva7.but hb8 hneaz
  have hvb8 := hvb7.but hb8 hnebz
  have hvc8 := hvc7.but hb8 hnecz
  have hvx8 := hvx7.but hb8 hnexz
  have hvy8 := hvy7.but hb8 hneyz
  clear hB7 hvz7 hb8 hz8 hva7 hvb7 hvc7 hvx7 hvy7
  rename_i K hKK
  show Exit.then K _ Exit.normal (⟨(chVs3N ka kb kc x y z w.heap.size gb gc gx gy gz).toArray, []⟩ : Act) w8
  simp only [Exit.then]
  refine hKK _ _ ?_
  clear hKK K g
  simp only [chVs3N]
  clear hva8
  clear hvb8
  clear hvc8
  go_wp2_with (first
    | (refine sget_step rfl 33 (.tmp 7) rfl gx 5 (x.map ncell) rfl hvx8 Tryd.underlying33 rfl size_elem (by rw [List.length_map, HX.out]) ?_
       try simp only [Act.put, List.setIfInBounds_toArray, List.set_cons_zero, List.set_cons_succ]
       skip)
    | (refine vput_step rfl rfl 33 (.tmp 10) (.tmp 23) rfl rfl 5 (nzeros 5) (x.map ncell) rfl rfl zero_elem rfl size_elem (by rw [List.length_map, HX.out]) (ncells_one _) ?_
       intro w9 hb9 hvs9
       have hB9 := below_then hB8 hb9
       have hges : w.heap.size ≤ w8.heap.size := hB8.size
       have hvx9 := hvx8.on hb9
       have hnexs := Nat.ne_of_lt hvx8.lt
       have hvy9 := hvy8.on hb9
       have hneys := Nat.ne_of_lt hvy8.lt
       have hvz9 := hvz8.on hb9
       have hnezs := Nat.ne_of_lt hvz8.lt
       clear hB8 hvx8 hvy8 hvz8 hb9
       try simp only [Act.put, List.setIfInBounds_toArray, List.set_cons_zero, List.set_cons_succ]
       skip)
    | (refine sget_step rfl 33 (.tmp 7) rfl gx 5 (x.map ncell) rfl hvx9 Tryd.underlying33 rfl size_elem (by rw [List.length_map, HX.out]) ?_
       try simp only [Act.put, List.setIfInBounds_toArray, List.set_cons_zero, List.set_cons_succ]
       skip)
    | (refine vput_step rfl rfl 33 (.tmp 11) (.tmp 24) rfl rfl 5 (nzeros 5) (x.map ncell) rfl rfl zero_elem rfl size_elem (by rw [List.length_map, HX.out]) (ncells_one _) ?_
       intro w10 hb10 hvm10
       have hB10 := below_then hB9 hb10
       have hgem : w.heap.size ≤ w9.heap.size := hB9.size
       have hvx10 := hvx9.on hb10
       have hnexm := Nat.ne_of_lt hvx9.lt
       have hvy10 := hvy9.on hb10
       have hneym := Nat.ne_of_lt hvy9.lt
       have hvz10 := hvz9.on hb10
       have hnezm := Nat.ne_of_lt hvz9.lt
       have hvs10 := hvs9.on hb10
       have hnesm := Nat.ne_of_lt hvs9.lt
       clear hB9 hvx9 hvy9 hvz9 hvs9 hb10
       try simp only [Act.put, List.setIfInBounds_toArray, List.set_cons_zero, List.set_cons_succ]
       skip))
  generalize hqs : w8.heap.size = gs at *
  clear hqs
  generalize hqm : w9.heap.size = gm at *
  clear hqm
  go_loopw [25] (fun i wr => ∃ k : Nat, k ≤ 40 ∧ i = .int .i64 k ∧ Below w.heap.size w wr ∧ Cells wr gx (x.map ncell) 33 ∧ Cells wr gy (y.map ncell) 33 ∧ Cells wr gz (z.map ncell) 33 ∧ Cells wr gs ((S k).map ncell) 33 ∧ Cells wr gm ((M k).map ncell) 33) (fun i _ => 40 - (intOf i).toNat)
  case atStart => exact ⟨0, Nat.zero_le _, rfl, hB10, hvx10, hvy10, hvz10, by rw [HS0.out]; exact hvs10, by rw [HM0.out]; exact hvm10⟩
  case round =>
    clear hB10 hvx10 hvy10 hvz10 hvs10 hvm10
    obtain ⟨k, hk, rfl, hB, hvx, hvy, hvz, hvs, hvm⟩ := hrel
    by_cases hlt : k < 40
    · have i1 : (k : Int) < 40 := by omega
      have LS := Lib.hid (HL.out k).1
      have LT := Lib.hid (HL.out k).2.1
      have LM := Lib.hid (HL.out k).2.2.1
      have LN := Lib.hid (HL.out k).2.2.2.1
      have LS1 := Lib.hid (HL.out (k + 1)).1
      have LM1 := Lib.hid (HL.out (k + 1)).2.2.1
      have C1 := Lib.hid (CS.out k)
      have C2 := Lib.hid (CT.out k)
      have C3 := Lib.hid (CM.out k)
      have C4 := Lib.hid (CN.out k)
      obtain ⟨s1, HS1⟩ := namedF (S (k + 1))
      obtain ⟨m1, HM1⟩ := namedF (M (k + 1))
      rw [HS1.out] at LS1 C2
      rw [HM1.out] at LM1 C4
      clear HL CS CT CM CN HS0 HM0 HD0 CD CE HS40 HM40 HD40
      generalize S k = s at *
      generalize T k = t at *
      generalize M k = m at *
      generalize N k = n at *
      go_wp2_with fail
      replace hvx := hvx.drew
      replace hvy := hvy.drew
      replace hvz := hvz.drew
      replace hvs := hvs.drew
      replace hvm := hvm.drew
      refine wp_region_any (by kernel_rfl) ?_
      refine wpAny_flatM (L := [0, 1, 2, 3, 4]) (by kernel_rfl) _ _ (chVs8 ka kb kc w.heap.size gb gc x y z s t s1 m k u27 u28 u29 u30 u31 u32 u33 u34 u35 u36 u37 gx gy gz gs gm) [] 33 (nzeros 5) [0, 1, 2, 3, 4, 5, 6, 7, 8, 9, 10, 11, 12, 13, 14, 15, 16, 17, 18, 19, 20, 21, 22, 23, 24, 25, 26, 32, 33, 34, 35, 36, 37, 38, 39, 40, 41, 42, 43, 44, 45, 46, 47, 48, 49, 50, 51, 52, 53, 54, 55, 56, 57, 58, 59, 60, 61, 62, 63, 64, 65, 66, 67, 68, 69, 70, 71, 72, 73, 74, 75, 76, 77, 78, 79, 80, 81, 82, 83, 84, 85, 86, 87, 88, 89, 90, 91, 92, 93, 94, 95, 96, 97, 98] (by kernel_rfl) (by kernel_rfl) ?_ zero_elem ?_ (by rfl) ?_ 1 (by kernel_rfl) ?_
      · intro p hp
        exact absurd hp List.not_mem_nil
      · exact all_cons rfl (all_cons rfl (all_cons rfl (all_cons rfl (all_cons rfl (all_cons rfl (all_cons rfl (all_cons rfl (all_cons rfl (all_cons rfl (all_cons rfl (all_cons rfl (all_cons rfl (all_cons rfl (all_cons rfl (all_cons rfl (all_cons rfl (all_cons rfl (all_cons rfl (all_cons rfl (all_cons rfl (all_cons rfl (all_cons rfl (all_cons rfl (all_cons rfl (all_cons rfl (all_cons rfl (all_cons rfl (all_cons rfl (all_cons rfl (all_cons rfl (all_cons rfl (all_cons rfl (all_cons rfl (all_cons rfl (all_cons rfl (all_cons rfl (all_cons rfl (all_cons rfl (all_cons rfl (all_cons rfl (all_cons rfl (all_cons rfl (all_cons rfl (all_cons rfl (all_cons rfl (all_cons rfl (all_cons rfl (all_cons rfl (all_cons rfl (all_cons rfl (all_cons rfl (all_cons rfl (all_cons rfl (all_cons rfl (all_cons rfl (all_cons rfl (all_cons rfl (all_cons rfl (all_cons rfl (all_cons rfl (all_cons rfl (all_cons rfl (all_cons rfl (all_cons rfl (all_cons rfl (all_cons rfl (all_cons rfl (all_cons rfl (all_cons rfl (all_cons rfl (all_cons rfl (all_cons rfl (all_cons rfl (all_cons rfl (all_cons rfl (all_cons rfl (all_cons rfl (all_cons rfl (all_cons rfl (all_cons rfl (all_cons rfl (all_cons rfl (all_cons rfl (all_cons rfl (all_cons rfl (all_cons rfl (all_cons rfl (all_cons rfl (all_cons rfl (all_cons rfl (all_cons rfl (all_cons rfl (all_cons rfl (all_nil))))))))))))))))))))))))))))))))))))))))))))))))))))))))))))))))))))))))))))))))))))))))))))))
      · refine all_cons (.inr (mStep _ 27 rfl rfl rfl rfl (by kernel_rfl) (fun a hv => wanted_all rfl _) (fun a w K hb hv hK => mPure (numVal s) (exec_load _ _ _ _ rfl _ _ (hv 10 (by kernel_rfl) rfl) w (elem_run (hvs.on hb) LS.out)) hK))) ?_
        refine all_cons (.inr (mStep _ 28 rfl rfl rfl rfl (by kernel_rfl) (fun a hv => wanted_all rfl _) (fun a w K hb hv hK => mPure (numVal y) (exec_load _ _ _ _ rfl _ _ (hv 8 (by kernel_rfl) rfl) w (elem_run (hvy.on hb) HY.out)) hK))) ?_
        refine all_cons (.inr (mStep _ 29 rfl rfl rfl rfl (by kernel_rfl) (fun a hv => wanted_all rfl _) (fun a w K hb hv hK => mCall (numVal t) 19 _ _ rfl [numVal s, numVal y] (cons_eq (hv 27 (by kernel_rfl) rfl) (cons_eq (hv 28 (by kernel_rfl) rfl) (rfl))) (enters Tryd.func19 rfl rfl) (C1.out w) hK))) ?_
        refine all_cons (.inr (mStep _ 30 rfl rfl rfl rfl (by kernel_rfl) (fun a hv => wanted_all rfl _) (fun a w K hb hv hK => mPure (numVal z) (exec_load _ _ _ _ rfl _ _ (hv 9 (by kernel_rfl) rfl) w (elem_run (hvz.on hb) HZ.out)) hK))) ?_
        refine all_cons (.inr (mStep _ 31 rfl rfl rfl rfl (by kernel_rfl) (fun a hv => wanted_all rfl _) (fun a w K hb hv hK => mCall (numVal s1) 21 _ _ rfl [numVal t, numVal z] (cons_eq (hv 29 (by kernel_rfl) rfl) (cons_eq (hv 30 (by kernel_rfl) rfl) (rfl))) (enters Tryd.func21 rfl rfl) (C2.out w) hK))) ?_
        exact all_nil
      intro w11 g hb11 hN11 hap11
      clear hN11 hap11
      have hB11 := below_then (show Below w.heap.size w wr.drew from hB.drew) hb11
      have hvx11 := hvx.on hb11
      have hvy11 := hvy.on hb11
      have hvz11 := hvz.on hb11
      have hvs11 := hvs.on hb11
      have hvm11 := hvm.on hb11
      clear hB hvx hvy hvz hvs hvm hb11
      refine wpAny_rest 5 rfl (by kernel_rfl) ?_
      refine vset_step rfl 33 (.tmp 10) (.tmp 31) rfl gs 5 (s.map ncell) (s1.map ncell) rfl rfl hvs11 (by rw [List.length_map, LS.out]) size_elem (by rw [List.length_map, LS1.out]) (ncells_one _) ?_
      intro w12 hb12 hvs12 hz12
      have hB12 : Below w.heap.size w w12 := hB11.trans (hb12.below hges hB11.size)
      have hvx12 := hvx11.but hb12 hnexs
      have hvy12 := hvy11.but hb12 hneys
      have hvz12 := hvz11.but hb12 hnezs
      have hvm12 := hvm11.but hb12 (Ne.symm hnesm)
      clear hB11 hvs11 hb12 hz12 hvx11 hvy11 hvz11 hvm11
      rename_i K hKK
      show Exit.then K _ Exit.normal (⟨(chVs8 ka kb kc w.heap.size gb gc x y z s t s1 m k u27 u28 u29 u30 u31 u32 u33 u34 u35 u36 u37 gx gy gz gs gm).toArray, []⟩ : Act) w12
      simp only [Exit.then]
      refine hKK _ _ ?_
      clear hKK K g
      simp only [chVs8]
      go_wp2_with fail
      replace hvx12 := hvx12.drew
      replace hvy12 := hvy12.drew
      replace hvz12 := hvz12.drew
      replace hvs12 := hvs12.drew
      replace hvm12 := hvm12.drew
      refine wp_region_any (by kernel_rfl) ?_
      refine wpAny_flatM (L := [0, 1, 2, 3, 4]) (by kernel_rfl) _ _ (chVs9 ka kb kc w.heap.size gb gc x y z s t s1 m n m1 k u27 u28 u29 u30 u31 u32 u33 u34 u35 u36 u37 gx gy gz gs gm) [] 33 (nzeros 5) [0, 1, 2, 3, 4, 5, 6, 7, 8, 9, 10, 11, 12, 13, 14, 15, 16, 17, 18, 19, 20, 21, 22, 23, 24, 25, 26, 27, 28, 29, 30, 31, 37, 38, 39, 40, 41, 42, 43, 44, 45, 46, 47, 48, 49, 50, 51, 52, 53, 54, 55, 56, 57, 58, 59, 60, 61, 62, 63, 64, 65, 66, 67, 68, 69, 70, 71, 72, 73, 74, 75, 76, 77, 78, 79, 80, 81, 82, 83, 84, 85, 86, 87, 88, 89, 90, 91, 92, 93, 94, 95, 96, 97, 98] (by kernel_rfl) (by kernel_rfl) ?_ zero_elem ?_ (by rfl) ?_ 1 (by kernel_rfl) ?_
      · intro p hp
        exact absurd hp List.not_mem_nil
      · exact all_cons rfl (all_cons rfl (all_cons rfl (all_cons rfl (all_cons rfl (all_cons rfl (all_cons rfl (all_cons rfl (all_cons rfl (all_cons rfl (all_cons rfl (all_cons rfl (all_cons rfl (all_cons rfl (all_cons rfl (all_cons rfl (all_cons rfl (all_cons rfl (all_cons rfl (all_cons rfl (all_cons rfl (all_cons rfl (all_cons rfl (all_cons rfl (all_cons rfl (all_cons rfl (all_cons rfl (all_cons rfl (all_cons rfl (all_cons rfl (all_cons rfl (all_cons rfl (all_cons rfl (all_cons rfl (all_cons rfl (all_cons rfl (all_cons rfl (all_cons rfl (all_cons rfl (all_cons rfl (all_cons rfl (all_cons rfl (all_cons rfl (all_cons rfl (all_cons rfl (all_cons rfl (all_cons rfl (all_cons rfl (all_cons rfl (all_cons rfl (all_cons rfl (all_cons rfl (all_cons rfl (all_cons rfl (all_cons rfl (all_cons rfl (all_cons rfl (all_cons rfl (all_cons rfl (all_cons rfl (all_cons rfl (all_cons rfl (all_cons rfl (all_cons rfl (all_cons rfl (all_cons rfl (all_cons rfl (all_cons rfl (all_cons rfl (all_cons rfl (all_cons rfl (all_cons rfl (all_cons rfl (all_cons rfl (all_cons rfl (all_cons rfl (all_cons rfl (all_cons rfl (all_cons rfl (all_cons rfl (all_cons rfl (all_cons rfl (all_cons rfl (all_cons rfl (all_cons rfl (all_cons rfl (all_cons rfl (all_cons rfl (all_cons rfl (all_cons rfl (all_cons rfl (all_cons rfl (all_cons rfl (all_cons rfl (all_nil))))))))))))))))))))))))))))))))))))))))))))))))))))))))))))))))))))))))))))))))))))))))))))))
      · refine all_cons (.inr (mStep _ 32 rfl rfl rfl rfl (by kernel_rfl) (fun a hv => wanted_all rfl _) (fun a w K hb hv hK => mPure (numVal m) (exec_load _ _ _ _ rfl _ _ (hv 11 (by kernel_rfl) rfl) w (elem_run (hvm12.on hb) LM.out)) hK))) ?_
        refine all_cons (.inr (mStep _ 33 rfl rfl rfl rfl (by kernel_rfl) (fun a hv => wanted_all rfl _) (fun a w K hb hv hK => mPure (numVal y) (exec_load _ _ _ _ rfl _ _ (hv 8 (by kernel_rfl) rfl) w (elem_run (hvy12.on hb) HY.out)) hK))) ?_
        refine all_cons (.inr (mStep _ 34 rfl rfl rfl rfl (by kernel_rfl) (fun a hv => wanted_all rfl _) (fun a w K hb hv hK => mCall (numVal n) 23 _ _ rfl [numVal m, numVal y] (cons_eq (hv 32 (by kernel_rfl) rfl) (cons_eq (hv 33 (by kernel_rfl) rfl) (rfl))) (enters Tryd.func23 rfl rfl) (C3.out w) hK))) ?_
        refine all_cons (.inr (mStep _ 35 rfl rfl rfl rfl (by kernel_rfl) (fun a hv => wanted_all rfl _) (fun a w K hb hv hK => mPure (numVal z) (exec_load _ _ _ _ rfl _ _ (hv 9 (by kernel_rfl) rfl) w (elem_run (hvz12.on hb) HZ.out)) hK))) ?_
        refine all_cons (.inr (mStep _ 36 rfl rfl rfl rfl (by kernel_rfl) (fun a hv => wanted_all rfl _) (fun a w K hb hv hK => mCall (numVal m1) 19 _ _ rfl [numVal n, numVal z] (cons_eq (hv 34 (by kernel_rfl) rfl) (cons_eq (hv 35 (by kernel_rfl) rfl) (rfl))) (enters Tryd.func19 rfl rfl) (C4.out w) hK))) ?_
        exact all_nil
      intro w13 g hb13 hN13 hap13
      clear hN13 hap13
      have hB13 := below_then (show Below w.heap.size w w12.drew from hB12.drew) hb13
      have hvx13 := hvx12.on hb13
      have hvy13 := hvy12.on hb13
      have hvz13 := hvz12.on hb13
      have hvs13 := hvs12.on hb13
      have hvm13 := hvm12.on hb13
      clear hB12 hvx12 hvy12 hvz12 hvs12 hvm12 hb13
      refine wpAny_rest 5 rfl (by kernel_rfl) ?_
      refine vset_step rfl 33 (.tmp 11) (.tmp 36) rfl gm 5 (m.map ncell) (m1.map ncell) rfl rfl hvm13 (by rw [List.length_map, LM.out]) size_elem (by rw [List.length_map, LM1.out]) (ncells_one _) ?_
      intro w14 hb14 hvm14 hz14
      have hB14 : Below w.heap.size w w14 := hB13.trans (hb14.below hgem hB13.size)
      have hvx14 := hvx13.but hb14 hnexm
      have hvy14 := hvy13.but hb14 hneym
      have hvz14 := hvz13.but hb14 hnezm
      have hvs14 := hvs13.but hb14 hnesm
      clear hB13 hvm13 hb14 hz14 hvx13 hvy13 hvz13 hvs13
      rename_i K hKK
      show Exit.inBlock _ (Exit.then K _) Exit.normal (⟨(chVs9 ka kb kc w.heap.size gb gc x y z s t s1 m n m1 k u27 u28 u29 u30 u31 u32 u33 u34 u35 u36 u37 gx gy gz gs gm).toArray, []⟩ : Act) w14
      simp only [Exit.inBlock, Exit.then]
      refine hKK _ _ ?_
      clear hKK K g
      simp only [chVs9]
      go_wp2_with fail
      go_roundw
      case rel => exact ⟨_, _, _, _, _, _, _, _, _, _, _, _, _, ⟨k + 1, by omega, by go_num, hB14, hvx14, hvy14, hvz14, by rw [HS1.out]; exact hvs14, by rw [HM1.out]; exact hvm14⟩, rfl⟩
      case measure => simp [intOf] <;> omega
    · obtain rfl : k = 40 := by omega
      rw [HS40.out] at hvs
      rw [HM40.out] at hvm
      have LS := Lib.hid (HL.out 40).1
      have LM := Lib.hid (HL.out 40).2.2.1
      rw [HS40.out] at LS
      rw [HM40.out] at LM
      clear CS CT CM CN HS0 HM0 HS40 HM40
      go_wp2_with (first
        | (refine sget_step rfl 33 (.tmp 10) rfl gs 5 (s.map ncell) rfl hvs Tryd.underlying33 rfl size_elem (by rw [List.length_map, LS.out]) ?_
           try simp only [Act.put, List.setIfInBounds_toArray, List.set_cons_zero, List.set_cons_succ]
           skip)
        | (refine vput_step rfl rfl 33 (.tmp 12) (.tmp 38) rfl rfl 5 (nzeros 5) (s.map ncell) rfl rfl zero_elem rfl size_elem (by rw [List.length_map, LS.out]) (ncells_one _) ?_
           intro w15 hb15 hvd15
           have hB15 := below_then hB hb15
           have hged : w.heap.size ≤ wr.heap.size := hB.size
           have hvx15 := hvx.on hb15
           have hnexd := Nat.ne_of_lt hvx.lt
           have hvy15 := hvy.on hb15
           have hneyd := Nat.ne_of_lt hvy.lt
           have hvz15 := hvz.on hb15
           have hnezd := Nat.ne_of_lt hvz.lt
           have hvs15 := hvs.on hb15
           have hnesd := Nat.ne_of_lt hvs.lt
           have hvm15 := hvm.on hb15
           have hnemd := Nat.ne_of_lt hvm.lt
           clear hB hvx hvy hvz hvs hvm hb15
           try simp only [Act.put, List.setIfInBounds_toArray, List.set_cons_zero, List.set_cons_succ]
           skip))
      generalize hqd : wr.heap.size = gd at *
      clear hqd
      go_loopw [39] (fun i wr => ∃ k : Nat, k ≤ 40 ∧ i = .int .i64 k ∧ Below w.heap.size w wr ∧ Cells wr gx (x.map ncell) 33 ∧ Cells wr gy (y.map ncell) 33 ∧ Cells wr gz (z.map ncell) 33 ∧ Cells wr gs (s.map ncell) 33 ∧ Cells wr gm (m.map ncell) 33 ∧ Cells wr gd ((D k).map ncell) 33) (fun i _ => 40 - (intOf i).toNat)
      case atStart => exact ⟨0, Nat.zero_le _, rfl, hB15, hvx15, hvy15, hvz15, hvs15, hvm15, by rw [HD0.out]; exact hvd15⟩
      case round =>
        clear hB15 hvx15 hvy15 hvz15 hvs15 hvm15 hvd15
        obtain ⟨k, hk, rfl, hB, hvx, hvy, hvz, hvs, hvm, hvd⟩ := hrel
        by_cases hlt : k < 40
        · have i1 : (k : Int) < 40 := by omega
          have LD := Lib.hid (HL.out k).2.2.2.2.1
          have LE := Lib.hid (HL.out k).2.2.2.2.2
          have LD1 := Lib.hid (HL.out (k + 1)).2.2.2.2.1
          have C1 := Lib.hid (CD.out k)
          have C2 := Lib.hid (CE.out k)
          obtain ⟨d1, HD1⟩ := namedF (D (k + 1))
          rw [HD1.out] at LD1 C2
          clear HL HD0 CD CE HD40
          generalize D k = d at *
          generalize E k = e at *
          go_wp2_with fail
          replace hvx := hvx.drew
          replace hvy := hvy.drew
          replace hvz := hvz.drew
          replace hvs := hvs.drew
          replace hvm := hvm.drew
          replace hvd := hvd.drew
          refine wp_region_any (by kernel_rfl) ?_
          refine wpAny_flatM (L := [0, 1, 2, 3, 4]) (by kernel_rfl) _ _ (chVs14 ka kb kc w.heap.size gb gc x y z s m d e d1 k u26 u27 u28 u29 u30 u31 u32 u33 u34 u35 u36 u37 u41 u42 u43 u44 u45 u46 gx gy gz gs gm gd) [] 33 (nzeros 5) [0, 1, 2, 3, 4, 5, 6, 7, 8, 9, 10, 11, 12, 13, 14, 15, 16, 17, 18, 19, 20, 21, 22, 23, 24, 25, 26, 27, 28, 29, 30, 31, 32, 33, 34, 35, 36, 37, 38, 39, 40, 46, 47, 48, 49, 50, 51, 52, 53, 54, 55, 56, 57, 58, 59, 60, 61, 62, 63, 64, 65, 66, 67, 68, 69, 70, 71, 72, 73, 74, 75, 76, 77, 78, 79, 80, 81, 82, 83, 84, 85, 86, 87, 88, 89, 90, 91, 92, 93, 94, 95, 96, 97, 98] (by kernel_rfl) (by kernel_rfl) ?_ zero_elem ?_ (by rfl) ?_ 1 (by kernel_rfl) ?_
          · intro p hp
            exact absurd hp List.not_mem_nil
          · exact all_cons rfl (all_cons rfl (all_cons rfl (all_cons rfl (all_cons rfl (all_cons rfl (all_cons rfl (all_cons rfl (all_cons rfl (all_cons rfl (all_cons rfl (all_cons rfl (all_cons rfl (all_cons rfl (all_cons rfl (all_cons rfl (all_cons rfl (all_cons rfl (all_cons rfl (all_cons rfl (all_cons rfl (all_cons rfl (all_cons rfl (all_cons rfl (all_cons rfl (all_cons rfl (all_cons rfl (all_cons rfl (all_cons rfl (all_cons rfl (all_cons rfl (all_cons rfl (all_cons rfl (all_cons rfl (all_cons rfl (all_cons rfl (all_cons rfl (all_cons rfl (all_cons rfl (all_cons rfl (all_cons rfl (all_cons rfl (all_cons rfl (all_cons rfl (all_cons rfl (all_cons rfl (all_cons rfl (all_cons rfl (all_cons rfl (all_cons rfl (all_cons rfl (all_cons rfl (all_cons rfl (all_cons rfl (all_cons rfl (all_cons rfl (all_cons rfl (all_cons rfl (all_cons rfl (all_cons rfl (all_cons rfl (all_cons rfl (all_cons rfl (all_cons rfl (all_cons rfl (all_cons rfl (all_cons rfl (all_cons rfl (all_cons rfl (all_cons rfl (all_cons rfl (all_cons rfl (all_cons rfl (all_cons rfl (all_cons rfl (all_cons rfl (all_cons rfl (all_cons rfl (all_cons rfl (all_cons rfl (all_cons rfl (all_cons rfl (all_cons rfl (all_cons rfl (all_cons rfl (all_cons rfl (all_cons rfl (all_cons rfl (all_cons rfl (all_cons rfl (all_cons rfl (all_cons rfl (all_cons rfl (all_cons rfl (all_nil))))))))))))))))))))))))))))))))))))))))))))))))))))))))))))))))))))))))))))))))))))))))))))))
          · refine all_cons (.inr (mStep _ 41 rfl rfl rfl rfl (by kernel_rfl) (fun a hv => wanted_all rfl _) (fun a w K hb hv hK => mPure (numVal d) (exec_load _ _ _ _ rfl _ _ (hv 12 (by kernel_rfl) rfl) w (elem_run (hvd.on hb) LD.out)) hK))) ?_
            refine all_cons (.inr (mStep _ 42 rfl rfl rfl rfl (by kernel_rfl) (fun a hv => wanted_all rfl _) (fun a w K hb hv hK => mPure (numVal y) (exec_load _ _ _ _ rfl _ _ (hv 8 (by kernel_rfl) rfl) w (elem_run (hvy.on hb) HY.out)) hK))) ?_
            refine all_cons (.inr (mStep _ 43 rfl rfl rfl rfl (by kernel_rfl) (fun a hv => wanted_all rfl _) (fun a w K hb hv hK => mCall (numVal e) 21 _ _ rfl [numVal d, numVal y] (cons_eq (hv 41 (by kernel_rfl) rfl) (cons_eq (hv 42 (by kernel_rfl) rfl) (rfl))) (enters Tryd.func21 rfl rfl) (C1.out w) hK))) ?_
            refine all_cons (.inr (mStep _ 44 rfl rfl rfl rfl (by kernel_rfl) (fun a hv => wanted_all rfl _) (fun a w K hb hv hK => mPure (numVal z) (exec_load _ _ _ _ rfl _ _ (hv 9 (by kernel_rfl) rfl) w (elem_run (hvz.on hb) HZ.out)) hK))) ?_
            refine all_cons (.inr (mStep _ 45 rfl rfl rfl rfl (by kernel_rfl) (fun a hv => wanted_all rfl _) (fun a w K hb hv hK => mCall (numVal d1) 19 _ _ rfl [numVal e, numVal z] (cons_eq (hv 43 (by kernel_rfl) rfl) (cons_eq (hv 44 (by kernel_rfl) rfl) (rfl))) (enters Tryd.func19 rfl rfl) (C2.out w) hK))) ?_
            exact all_nil
          intro w16 g hb16 hN16 hap16
          clear hN16 hap16
          have hB16 := below_then (show Below w.heap.size w wr.drew from hB.drew) hb16
          have hvx16 := hvx.on hb16
          have hvy16 := hvy.on hb16
          have hvz16 := hvz.on hb16
          have hvs16 := hvs.on hb16
          have hvm16 := hvm.on hb16
          have hvd16 := hvd.on hb16
          clear hB hvx hvy hvz hvs hvm hvd hb16
          refine wpAny_rest 5 rfl (by kernel_rfl) ?_
          refine vset_step rfl 33 (.tmp 12) (.tmp 45) rfl gd 5 (d.map ncell) (d1.map ncell) rfl rfl hvd16 (by rw [List.length_map, LD.out]) size_elem (by rw [List.length_map, LD1.out]) (ncells_one _) ?_
          intro w17 hb17 hvd17 hz17
          have hB17 : Below w.heap.size w w17 := hB16.trans (hb17.below hged hB16.size)
          have hvx17 := hvx16.but hb17 hnexd
          have hvy17 := hvy16.but hb17 hneyd
          have hvz17 := hvz16.but hb17 hnezd
          have hvs17 := hvs16.but hb17 hnesd
          have hvm17 := hvm16.but hb17 hnemd
          clear hB16 hvd16 hb17 hz17 hvx16 hvy16 hvz16 hvs16 hvm16
          rename_i K hKK
          show Exit.inBlock _ (Exit.then K _) Exit.normal (⟨(chVs14 ka kb kc w.heap.size gb gc x y z s m d e d1 k u26 u27 u28 u29 u30 u31 u32 u33 u34 u35 u36 u37 u41 u42 u43 u44 u45 u46 gx gy gz gs gm gd).toArray, []⟩ : Act) w17
          simp only [Exit.inBlock, Exit.then]
          refine hKK _ _ ?_
          clear hKK K g
          simp only [chVs14]
          go_wp2_with fail
          go_roundw
          case rel => exact ⟨_, _, _, _, _, _, _, _, ⟨k + 1, by omega, by go_num, hB17, hvx17, hvy17, hvz17, hvs17, hvm17, by rw [HD1.out]; exact hvd17⟩, rfl⟩
          case measure => simp [intOf] <;> omega
        · obtain rfl : k = 40 := by omega
          rw [HD40.out] at hvd
          have LD := Lib.hid (HL.out 40).2.2.2.2.1
          rw [HD40.out] at LD
          clear HL HD0 CD CE HD40
          go_wp2_with fail
          replace hvx := hvx.drew
          replace hvy := hvy.drew
          replace hvz := hvz.drew
          replace hvs := hvs.drew
          replace hvm := hvm.drew
          replace hvd := hvd.drew
          refine wp_region_any (by kernel_rfl) ?_
          refine wpAny_flatM (L := [0, 1, 2, 3, 4, 5]) (by kernel_rfl) _ _ (chVs16 ka kb kc w.heap.size gb gc x y z s m d p l q r rt u26 u27 u28 u29 u30 u31 u32 u33 u34 u35 u36 u37 u41 u42 u43 u44 u45 u46 gx gy gz gs gm gd) [(5, 13)] 33 (nzeros 5) [0, 1, 2, 3, 4, 5, 6, 7, 8, 9, 10, 11, 12, 14, 15, 16, 17, 18, 19, 20, 21, 22, 23, 24, 25, 26, 27, 28, 29, 30, 31, 32, 33, 34, 35, 36, 37, 38, 39, 40, 41, 42, 43, 44, 45, 46, 52, 53, 54, 55, 56, 57, 58, 59, 60, 61, 62, 63, 64, 65, 66, 67, 68, 69, 70, 71, 72, 73, 74, 75, 76, 77, 78, 79, 80, 81, 82, 83, 84, 85, 86, 87, 88, 89, 90, 91, 92, 93, 94, 95, 96, 97, 98] (by kernel_rfl) (by kernel_rfl) ?_ zero_elem ?_ (by rfl) ?_ 1 (by kernel_rfl) ?_
          · intro p hp
            rcases List.mem_cons.1 hp with rfl | hp
            · exact ⟨⟨_, rfl, rfl, rfl, rfl, by kernel_rfl, by kernel_rfl⟩⟩
            exact absurd hp List.not_mem_nil
          · exact all_cons rfl (all_cons rfl (all_cons rfl (all_cons rfl (all_cons rfl (all_cons rfl (all_cons rfl (all_cons rfl (all_cons rfl (all_cons rfl (all_cons rfl (all_cons rfl (all_cons rfl (all_cons rfl (all_cons rfl (all_cons rfl (all_cons rfl (all_cons rfl (all_cons rfl (all_cons rfl (all_cons rfl (all_cons rfl (all_cons rfl (all_cons rfl (all_cons rfl (all_cons rfl (all_cons rfl (all_cons rfl (all_cons rfl (all_cons rfl (all_cons rfl (all_cons rfl (all_cons rfl (all_cons rfl (all_cons rfl (all_cons rfl (all_cons rfl (all_cons rfl (all_cons rfl (all_cons rfl (all_cons rfl (all_cons rfl (all_cons rfl (all_cons rfl (all_cons rfl (all_cons rfl (all_cons rfl (all_cons rfl (all_cons rfl (all_cons rfl (all_cons rfl (all_cons rfl (all_cons rfl (all_cons rfl (all_cons rfl (all_cons rfl (all_cons rfl (all_cons rfl (all_cons rfl (all_cons rfl (all_cons rfl (all_cons rfl (all_cons rfl (all_cons rfl (all_cons rfl (all_cons rfl (all_cons rfl (all_cons rfl (all_cons rfl (all_cons rfl (all_cons rfl (all_cons rfl (all_cons rfl (all_cons rfl (all_cons rfl (all_cons rfl (all_cons rfl (all_cons rfl (all_cons rfl (all_cons rfl (all_cons rfl (all_cons rfl (all_cons rfl (all_cons rfl (all_cons rfl (all_cons rfl (all_cons rfl (all_cons rfl (all_cons rfl (all_cons rfl (all_cons rfl (all_cons rfl (all_cons rfl (all_nil)))))))))))))))))))))))))))))))))))))))))))))))))))))))))))))))))))))))))))))))))))))))))))))
          · refine all_cons (.inr (mStep _ 47 rfl rfl rfl rfl (by kernel_rfl) (fun a hv => wanted_all rfl _) (fun a w K hb hv hK => mPure (numVal x) (exec_load _ _ _ _ rfl _ _ (hv 7 (by kernel_rfl) rfl) w (elem_run (hvx.on hb) HX.out)) hK))) ?_
            refine all_cons (.inr (mStep _ 48 rfl rfl rfl rfl (by kernel_rfl) (fun a hv => wanted_all rfl _) (fun a w K hb hv hK => mPure (numVal y) (exec_load _ _ _ _ rfl _ _ (hv 8 (by kernel_rfl) rfl) w (elem_run (hvy.on hb) HY.out)) hK))) ?_
            refine all_cons (.inr (mStep _ 49 rfl rfl rfl rfl (by kernel_rfl) (fun a hv => wanted_all rfl _) (fun a w K hb hv hK => mCall (numVal p) 19 _ _ rfl [numVal x, numVal y] (cons_eq (hv 47 (by kernel_rfl) rfl) (cons_eq (hv 48 (by kernel_rfl) rfl) (rfl))) (enters Tryd.func19 rfl rfl) (CP.out w) hK))) ?_
            refine all_cons (.inr (mStep _ 50 rfl rfl rfl rfl (by kernel_rfl) (fun a hv => wanted_all rfl _) (fun a w K hb hv hK => mPure (numVal z) (exec_load _ _ _ _ rfl _ _ (hv 9 (by kernel_rfl) rfl) w (elem_run (hvz.on hb) HZ.out)) hK))) ?_
            refine all_cons (.inr (mStep _ 51 rfl rfl rfl rfl (by kernel_rfl) (fun a hv => wanted_all rfl _) (fun a w K hb hv hK => mCall (numVal l) 23 _ _ rfl [numVal p, numVal z] (cons_eq (hv 49 (by kernel_rfl) rfl) (cons_eq (hv 50 (by kernel_rfl) rfl) (rfl))) (enters Tryd.func23 rfl rfl) (CL.out w) hK))) ?_
            refine all_cons (.inl ⟨(5, 13), by simp, rfl⟩) ?_
            exact all_nil
          intro w18 g hb18 hN18 hap18
          obtain ⟨hgel, hvl18⟩ := hN18 (5, 13) (by simp)
          clear hN18 hap18
          have hB18 := below_then (show Below w.heap.size w wr.drew from hB.drew) hb18
          have hltx : gx < wr.heap.size := hvx.lt
          have hlty : gy < wr.heap.size := hvy.lt
          have hltz : gz < wr.heap.size := hvz.lt
          have hlts : gs < wr.heap.size := hvs.lt
          have hltm : gm < wr.heap.size := hvm.lt
          have hltd : gd < wr.heap.size := hvd.lt
          have hvx18 := hvx.on hb18
          have hvy18 := hvy.on hb18
          have hvz18 := hvz.on hb18
          have hvs18 := hvs.on hb18
          have hvm18 := hvm.on hb18
          have hvd18 := hvd.on hb18
          rw [show withNew g [(5, 13)] (chVs16 ka kb kc w.heap.size gb gc x y z s m d p l q r rt u26 u27 u28 u29 u30 u31 u32 u33 u34 u35 u36 u37 u41 u42 u43 u44 u45 u46 gx gy gz gs gm gd) = chVs16N ka kb kc w.heap.size gb gc x y z s m d p l q r rt u26 u27 u28 u29 u30 u31 u32 u33 u34 u35 u36 u37 u41 u42 u43 u44 u45 u46 gx gy gz gs gm gd (g 13) from rfl]
          replace hgel : wr.heap.size ≤ g 13 := hgel
          replace hvl18 : Cells w18 (g 13) (nzeros 5) 33 := hvl18
          have hnexl : gx ≠ g 13 := Nat.ne_of_lt (Nat.lt_of_lt_of_le hltx hgel)
          have hneyl : gy ≠ g 13 := Nat.ne_of_lt (Nat.lt_of_lt_of_le hlty hgel)
          have hnezl : gz ≠ g 13 := Nat.ne_of_lt (Nat.lt_of_lt_of_le hltz hgel)
          have hnesl : gs ≠ g 13 := Nat.ne_of_lt (Nat.lt_of_lt_of_le hlts hgel)
          have hneml : gm ≠ g 13 := Nat.ne_of_lt (Nat.lt_of_lt_of_le hltm hgel)
          have hnedl : gd ≠ g 13 := Nat.ne_of_lt (Nat.lt_of_lt_of_le hltd hgel)
          replace hgel : w.heap.size ≤ g 13 := Nat.le_trans (show w.heap.size ≤ wr.heap.size from hB.size) hgel
          clear hltx hlty hltz hlts hltm hltd
          generalize g 13 = gl at *
          clear hB hvx hvy hvz hvs hvm hvd hb18
          refine wpAny_rest 6 rfl (by kernel_rfl) ?_
          refine vset_step rfl 33 (.tmp 13) (.tmp 51) rfl gl 5 (nzeros 5) (l.map ncell) rfl rfl hvl18 rfl size_elem (by rw [List.length_map, HLL.out]) (ncells_one _) ?_
          intro w19 hb19 hvl19 hz19
          have hB19 : Below w.heap.size w w19 := hB18.trans (hb19.below hgel hB18.size)
          have hvx19 := hvx18.but hb19 hnexl
          have hvy19 := hvy18.but hb19 hneyl
          have hvz19 := hvz18.but hb19 hnezl
          have hvs19 := hvs18.but hb19 hnesl
          have hvm19 := hvm18.but hb19 hneml
          have hvd19 := hvd18.but hb19 hnedl
          clear hB18 hvl18 hb19 hz19 hvx18 hvy18 hvz18 hvs18 hvm18 hvd18
          rename_i K hKK
          show Exit.then K _ Exit.normal (⟨(chVs16N ka kb kc w.heap.size gb gc x y z s m d p l q r rt u26 u27 u28 u29 u30 u31 u32 u33 u34 u35 u36 u37 u41 u42 u43 u44 u45 u46 gx gy gz gs gm gd gl).toArray, []⟩ : Act) w19
          simp only [Exit.then]
          refine hKK _ _ ?_
          clear hKK K g
          simp only [chVs16N]
          go_wp2_with fail
          replace hvx19 := hvx19.drew
          replace hvy19 := hvy19.drew
          replace hvz19 := hvz19.drew
          replace hvs19 := hvs19.drew
          replace hvm19 := hvm19.drew
          replace hvd19 := hvd19.drew
          replace hvl19 := hvl19.drew
          refine wp_region_any (by kernel_rfl) ?_
          refine wpAny_flatM (L := [0, 1, 2, 3, 4, 5, 6, 7]) (by kernel_rfl) _ _ (chVs17 ka kb kc w.heap.size gb gc x y z s m d p l q r rt u26 u27 u28 u29 u30 u31 u32 u33 u34 u35 u36 u37 u41 u42 u43 u44 u45 u46 gx gy gz gs gm gd gl) [(7, 14)] 33 (nzeros 5) [0, 1, 2, 3, 4, 5, 6, 7, 8, 9, 10, 11, 12, 13, 15, 16, 17, 18, 19, 20, 21, 22, 23, 24, 25, 26, 27, 28, 29, 30, 31, 32, 33, 34, 35, 36, 37, 38, 39, 40, 41, 42, 43, 44, 45, 46, 47, 48, 49, 50, 51, 59, 60, 61, 62, 63, 64, 65, 66, 67, 68, 69, 70, 71, 72, 73, 74, 75, 76, 77, 78, 79, 80, 81, 82, 83, 84, 85, 86, 87, 88, 89, 90, 91, 92, 93, 94, 95, 96, 97, 98] (by kernel_rfl) (by kernel_rfl) ?_ zero_elem ?_ (by rfl) ?_ 1 (by kernel_rfl) ?_
          · intro p hp
            rcases List.mem_cons.1 hp with rfl | hp
            · exact ⟨⟨_, rfl, rfl, rfl, rfl, by kernel_rfl, by kernel_rfl⟩⟩
            exact absurd hp List.not_mem_nil
          · exact all_cons rfl (all_cons rfl (all_cons rfl (all_cons rfl (all_cons rfl (all_cons rfl (all_cons rfl (all_cons rfl (all_cons rfl (all_cons rfl (all_cons rfl (all_cons rfl (all_cons rfl (all_cons rfl (all_cons rfl (all_cons rfl (all_cons rfl (all_cons rfl (all_cons rfl (all_cons rfl (all_cons rfl (all_cons rfl (all_cons rfl (all_cons rfl (all_cons rfl (all_cons rfl (all_cons rfl (all_cons rfl (all_cons rfl (all_cons rfl (all_cons rfl (all_cons rfl (all_cons rfl (all_cons rfl (all_cons rfl (all_cons rfl (all_cons rfl (all_cons rfl (all_cons rfl (all_cons rfl (all_cons rfl (all_cons rfl (all_cons rfl (all_cons rfl (all_cons rfl (all_cons rfl (all_cons rfl (all_cons rfl (all_cons rfl (all_cons rfl (all_cons rfl (all_cons rfl (all_cons rfl (all_cons rfl (all_cons rfl (all_cons rfl (all_cons rfl (all_cons rfl (all_cons rfl (all_cons rfl (all_cons rfl (all_cons rfl (all_cons rfl (all_cons rfl (all_cons rfl (all_cons rfl (all_cons rfl (all_cons rfl (all_cons rfl (all_cons rfl (all_cons rfl (all_cons rfl (all_cons rfl (all_cons rfl (all_cons rfl (all_cons rfl (all_cons rfl (all_cons rfl (all_cons rfl (all_cons rfl (all_cons rfl (all_cons rfl (all_cons rfl (all_cons rfl (all_cons rfl (all_cons rfl (all_cons rfl (all_cons rfl (all_cons rfl (all_cons rfl (all_cons rfl (all_nil)))))))))))))))))))))))))))))))))))))))))))))))))))))))))))))))))))))))))))))))))))))))))))
          · refine all_cons (.inr (mStep _ 52 rfl rfl rfl rfl (by kernel_rfl) (fun a hv => wanted_all rfl _) (fun a w K hb hv hK => mPure (numVal z) (exec_load _ _ _ _ rfl _ _ (hv 9 (by kernel_rfl) rfl) w (elem_run (hvz19.on hb) HZ.out)) hK))) ?_
            refine all_cons (.inr (mStep _ 53 rfl rfl rfl rfl (by kernel_rfl) (fun a hv => wanted_all rfl _) (fun a w K hb hv hK => mPure (numVal y) (exec_load _ _ _ _ rfl _ _ (hv 8 (by kernel_rfl) rfl) w (elem_run (hvy19.on hb) HY.out)) hK))) ?_
            refine all_cons (.inr (mStep _ 54 rfl rfl rfl rfl (by kernel_rfl) (fun a hv => wanted_all rfl _) (fun a w K hb hv hK => mCall (numVal q) 23 _ _ rfl [numVal z, numVal y] (cons_eq (hv 52 (by kernel_rfl) rfl) (cons_eq (hv 53 (by kernel_rfl) rfl) (rfl))) (enters Tryd.func23 rfl rfl) (CQ.out w) hK))) ?_
            refine all_cons (.inr (mStep _ 55 rfl rfl rfl rfl (by kernel_rfl) (fun a hv => wanted_all rfl _) (fun a w K hb hv hK => mPure (numVal x) (exec_load _ _ _ _ rfl _ _ (hv 7 (by kernel_rfl) rfl) w (elem_run (hvx19.on hb) HX.out)) hK))) ?_
            refine all_cons (.inr (mStep _ 56 rfl rfl rfl rfl (by kernel_rfl) (fun a hv => wanted_all rfl _) (fun a w K hb hv hK => mPure (numVal z) (exec_load _ _ _ _ rfl _ _ (hv 9 (by kernel_rfl) rfl) w (elem_run (hvz19.on hb) HZ.out)) hK))) ?_
            refine all_cons (.inr (mStep _ 57 rfl rfl rfl rfl (by kernel_rfl) (fun a hv => wanted_all rfl _) (fun a w K hb hv hK => mCall (numVal r) 23 _ _ rfl [numVal x, numVal z] (cons_eq (hv 55 (by kernel_rfl) rfl) (cons_eq (hv 56 (by kernel_rfl) rfl) (rfl))) (enters Tryd.func23 rfl rfl) (CR.out w) hK))) ?_
            refine all_cons (.inr (mStep _ 58 rfl rfl rfl rfl (by kernel_rfl) (fun a hv => wanted_all rfl _) (fun a w K hb hv hK => mCall (numVal rt) 19 _ _ rfl [numVal q, numVal r] (cons_eq (hv 54 (by kernel_rfl) rfl) (cons_eq (hv 57 (by kernel_rfl) rfl) (rfl))) (enters Tryd.func19 rfl rfl) (CRT.out w) hK))) ?_
            refine all_cons (.inl ⟨(7, 14), by simp, rfl⟩) ?_
            exact all_nil
          intro w20 g hb20 hN20 hap20
          obtain ⟨hger, hvr20⟩ := hN20 (7, 14) (by simp)
          clear hN20 hap20
          have hB20 := below_then (show Below w.heap.size w w19.drew from hB19.drew) hb20
          have hltx : gx < w19.heap.size := hvx19.lt
          have hlty : gy < w19.heap.size := hvy19.lt
          have hltz : gz < w19.heap.size := hvz19.lt
          have hlts : gs < w19.heap.size := hvs19.lt
          have hltm : gm < w19.heap.size := hvm19.lt
          have hltd : gd < w19.heap.size := hvd19.lt
          have hltl : gl < w19.heap.size := hvl19.lt
          have hvx20 := hvx19.on hb20
          have hvy20 := hvy19.on hb20
          have hvz20 := hvz19.on hb20
          have hvs20 := hvs19.on hb20
          have hvm20 := hvm19.on hb20
          have hvd20 := hvd19.on hb20
          have hvl20 := hvl19.on hb20
          rw [show withNew g [(7, 14)] (chVs17 ka kb kc w.heap.size gb gc x y z s m d p l q r rt u26 u27 u28 u29 u30 u31 u32 u33 u34 u35 u36 u37 u41 u42 u43 u44 u45 u46 gx gy gz gs gm gd gl) = chVs17N ka kb kc w.heap.size gb gc x y z s m d p l q r rt u26 u27 u28 u29 u30 u31 u32 u33 u34 u35 u36 u37 u41 u42 u43 u44 u45 u46 gx gy gz gs gm gd gl (g 14) from rfl]
          replace hger : w19.heap.size ≤ g 14 := hger
          replace hvr20 : Cells w20 (g 14) (nzeros 5) 33 := hvr20
          have hnexr : gx ≠ g 14 := Nat.ne_of_lt (Nat.lt_of_lt_of_le hltx hger)
          have hneyr : gy ≠ g 14 := Nat.ne_of_lt (Nat.lt_of_lt_of_le hlty hger)
          have hnezr : gz ≠ g 14 := Nat.ne_of_lt (Nat.lt_of_lt_of_le hltz hger)
          have hnesr : gs ≠ g 14 := Nat.ne_of_lt (Nat.lt_of_lt_of_le hlts hger)
          have hnemr : gm ≠ g 14 := Nat.ne_of_lt (Nat.lt_of_lt_of_le hltm hger)
          have hnedr : gd ≠ g 14 := Nat.ne_of_lt (Nat.lt_of_lt_of_le hltd hger)
          have hnelr : gl ≠ g 14 := Nat.ne_of_lt (Nat.lt_of_lt_of_le hltl hger)
          replace hger : w.heap.size ≤ g 14 := Nat.le_trans (show w.heap.size ≤ w19.heap.size from hB19.size) hger
          clear hltx hlty hltz hlts hltm hltd hltl
          generalize g 14 = gr at *
          clear hB19 hvx19 hvy19 hvz19 hvs19 hvm19 hvd19 hvl19 hb20
          refine wpAny_rest 8 rfl (by kernel_rfl) ?_
          refine vset_step rfl 33 (.tmp 14) (.tmp 58) rfl gr 5 (nzeros 5) (rt.map ncell) rfl rfl hvr20 rfl size_elem (by rw [List.length_map, HRT.out]) (ncells_one _) ?_
          intro w21 hb21 hvr21 hz21
          have hB21 : Below w.heap.size w w21 := hB20.trans (hb21.below hger hB20.size)
          have hvx21 := hvx20.but hb21 hnexr
          have hvy21 := hvy20.but hb21 hneyr
          have hvz21 := hvz20.but hb21 hnezr
          have hvs21 := hvs20.but hb21 hnesr
          have hvm21 := hvm20.but hb21 hnemr
          have hvd21 := hvd20.but hb21 hnedr
          have hvl21 := hvl20.but hb21 hnelr
          clear hB20 hvr20 hb21 hz21 hvx20 hvy20 hvz20 hvs20 hvm20 hvd20 hvl20
          rename_i K hKK
          show Exit.then K _ Exit.normal (⟨(chVs17N ka kb kc w.heap.size gb gc x y z s m d p l q r rt u26 u27 u28 u29 u30 u31 u32 u33 u34 u35 u36 u37 u41 u42 u43 u44 u45 u46 gx gy gz gs gm gd gl gr).toArray, []⟩ : Act) w21
          simp only [Exit.then]
          refine hKK _ _ ?_
          clear hKK K g
          simp only [chVs17N]
          clear CP CL CQ CR CRT
          go_wp2_with fail
          cases b
          · replace hvx21 := hvx21.drew
            replace hvy21 := hvy21.drew
            replace hvz21 := hvz21.drew
            replace hvs21 := hvs21.drew
            replace hvm21 := hvm21.drew
            replace hvd21 := hvd21.drew
            replace hvl21 := hvl21.drew
            replace hvr21 := hvr21.drew
            refine wp_region_any (by kernel_rfl) ?_
            refine wpAny_flatM (L := [0, 1, 2, 3, 4, 5, 6, 7, 8, 9, 10, 11, 12, 13, 14, 15, 16, 17, 18, 19, 20, 21, 22, 23, 24, 25, 26, 27, 28, 29, 30, 31, 32, 33, 34, 35, 36, 37, 38, 39, 40]) (by kernel_rfl) _ _ (chVs18f ka kb kc w.heap.size gb gc x y z s m d p l q r rt c1 c2 c3 c4 v1 v2 iv o1 o2 u26 u27 u28 u29 u30 u31 u32 u33 u34 u35 u36 u37 u41 u42 u43 u44 u45 u46 gx gy gz gs gm gd gl gr) [] 33 (nzeros 5) [0, 1, 2, 3, 4, 5, 7, 8, 9, 10, 11, 12, 13, 14, 15, 16, 17, 18, 19, 20, 21, 22, 23, 24, 25, 26, 27, 28, 29, 30, 31, 32, 33, 34, 35, 36, 37, 38, 39, 40, 41, 42, 43, 44, 45, 46, 47, 48, 49, 50, 51, 52, 53, 54, 55, 56, 57, 58] (by kernel_rfl) (by kernel_rfl) ?_ zero_elem ?_ (by rfl) ?_ 0 (by kernel_rfl) ?_
            · intro p hp
              exact absurd hp List.not_mem_nil
            · exact all_cons rfl (all_cons rfl (all_cons rfl (all_cons rfl (all_cons rfl (all_cons rfl (all_cons rfl (all_cons rfl (all_cons rfl (all_cons rfl (all_cons rfl (all_cons rfl (all_cons rfl (all_cons rfl (all_cons rfl (all_cons rfl (all_cons rfl (all_cons rfl (all_cons rfl (all_cons rfl (all_cons rfl (all_cons rfl (all_cons rfl (all_cons rfl (all_cons rfl (all_cons rfl (all_cons rfl (all_cons rfl (all_cons rfl (all_cons rfl (all_cons rfl (all_cons rfl (all_cons rfl (all_cons rfl (all_cons rfl (all_cons rfl (all_cons rfl (all_cons rfl (all_cons rfl (all_cons rfl (all_cons rfl (all_cons rfl (all_cons rfl (all_cons rfl (all_cons rfl (all_cons rfl (all_cons rfl (all_cons rfl (all_cons rfl (all_cons rfl (all_cons rfl (all_cons rfl (all_cons rfl (all_cons rfl (all_cons rfl (all_cons rfl (all_cons rfl (all_cons rfl (all_nil))))))))))))))))))))))))))))))))))))))))))))))))))))))))))
            · refine all_cons (.inr (mStep _ 59 rfl rfl rfl rfl (by kernel_rfl) (fun a hv => wanted_all rfl _) (fun a w K hb hv hK => mPure (numVal d) (exec_load _ _ _ _ rfl _ _ (hv 12 (by kernel_rfl) rfl) w (elem_run (hvd21.on hb) LD.out)) hK))) ?_
              refine all_cons (.inr (mStep _ 60 rfl rfl rfl rfl (by kernel_rfl) (fun a hv => wanted_all rfl _) (fun a w K hb hv hK => mPure (numVal x) (exec_load _ _ _ _ rfl _ _ (hv 7 (by kernel_rfl) rfl) w (elem_run (hvx21.on hb) HX.out)) hK))) ?_
              refine all_cons (.inr (mStep _ 61 rfl rfl rfl rfl (by kernel_rfl) (fun a hv => wanted_all rfl _) (fun a w K hb hv hK => mCall (.bool true) 26 _ _ rfl [numVal d, numVal x] (cons_eq (hv 59 (by kernel_rfl) rfl) (cons_eq (hv 60 (by kernel_rfl) rfl) (rfl))) (enters Tryd.func26 rfl rfl) (S1.out w) hK))) ?_
              refine all_cons (.inr (mStep _ 62 rfl rfl rfl rfl (by kernel_rfl) (fun a hv => wanted_all rfl _) (fun a w K hb hv hK => mPure (.bool true) (exec_move _ _ _ (.inl rfl) _ (hv 61 (by kernel_rfl) rfl) w) hK))) ?_
              refine all_cons (.inr (mStep _ 63 rfl rfl rfl rfl (by kernel_rfl) (fun a hv => (wanted_is (j := 3) (b := true) (c := true) rfl rfl rfl (hv 62 (by kernel_rfl) rfl)).trans rfl) (fun a w K hb hv hK => mPure (numVal l) (exec_load _ _ _ _ rfl _ _ (hv 13 (by kernel_rfl) rfl) w (elem_run (hvl21.on hb) HLL.out)) hK))) ?_
              refine all_cons (.inr (mStep _ 64 rfl rfl rfl rfl (by kernel_rfl) (fun a hv => (wanted_is (j := 3) (b := true) (c := true) rfl rfl rfl (hv 62 (by kernel_rfl) rfl)).trans rfl) (fun a w K hb hv hK => mPure (numVal rt) (exec_load _ _ _ _ rfl _ _ (hv 14 (by kernel_rfl) rfl) w (elem_run (hvr21.on hb) HRT.out)) hK))) ?_
              refine all_cons (.inr (mStep _ 65 rfl rfl rfl rfl (by kernel_rfl) (fun a hv => (wanted_is (j := 3) (b := true) (c := true) rfl rfl rfl (hv 62 (by kernel_rfl) rfl)).trans rfl) (fun a w K hb hv hK => mCall (.bool true) 26 _ _ rfl [numVal l, numVal rt] (cons_eq (hv 63 (by kernel_rfl) rfl) (cons_eq (hv 64 (by kernel_rfl) rfl) (rfl))) (enters Tryd.func26 rfl rfl) (S2.out w) hK))) ?_
              refine all_cons (.inr (mStep _ 66 rfl rfl rfl rfl (by kernel_rfl) (fun a hv => wanted_all rfl _) (fun a w K hb hv hK => mPure (.bool true) (pick_true _ _ _ _ _ rfl (hv 62 (by kernel_rfl) rfl) (.bool true) (hv 65 (by kernel_rfl) rfl) w) hK))) ?_
              refine all_cons (.inr (mStep _ 67 rfl rfl rfl rfl (by kernel_rfl) (fun a hv => wanted_all rfl _) (fun a w K hb hv hK => mPure (.bool true) (exec_move _ _ _ (.inl rfl) _ (hv 66 (by kernel_rfl) rfl) w) hK))) ?_
              refine all_cons (.inr (mStep _ 68 rfl rfl rfl rfl (by kernel_rfl) (fun a hv => (wanted_is (j := 8) (b := true) (c := true) rfl rfl rfl (hv 67 (by kernel_rfl) rfl)).trans rfl) (fun a w K hb hv hK => mPure (numVal x) (exec_load _ _ _ _ rfl _ _ (hv 7 (by kernel_rfl) rfl) w (elem_run (hvx21.on hb) HX.out)) hK))) ?_
              refine all_cons (.inr (mStep _ 69 rfl rfl rfl rfl (by kernel_rfl) (fun a hv => (wanted_is (j := 8) (b := true) (c := true) rfl rfl rfl (hv 67 (by kernel_rfl) rfl)).trans rfl) (fun a w K hb hv hK => mPure (numVal y) (exec_load _ _ _ _ rfl _ _ (hv 8 (by kernel_rfl) rfl) w (elem_run (hvy21.on hb) HY.out)) hK))) ?_
              refine all_cons (.inr (mStep _ 70 rfl rfl rfl rfl (by kernel_rfl) (fun a hv => (wanted_is (j := 8) (b := true) (c := true) rfl rfl rfl (hv 67 (by kernel_rfl) rfl)).trans rfl) (fun a w K hb hv hK => mCall (numVal c1) 21 _ _ rfl [numVal x, numVal y] (cons_eq (hv 68 (by kernel_rfl) rfl) (cons_eq (hv 69 (by kernel_rfl) rfl) (rfl))) (enters Tryd.func21 rfl rfl) (C1.out w) hK))) ?_
              refine all_cons (.inr (mStep _ 71 rfl rfl rfl rfl (by kernel_rfl) (fun a hv => (wanted_is (j := 8) (b := true) (c := true) rfl rfl rfl (hv 67 (by kernel_rfl) rfl)).trans rfl) (fun a w K hb hv hK => mCall (numVal c2) 16 _ _ rfl [.int .i64 0] (cons_eq (rfl) (rfl)) (enters Tryd.func16 rfl rfl) (C2.out w) hK))) ?_
              refine all_cons (.inr (mStep _ 72 rfl rfl rfl rfl (by kernel_rfl) (fun a hv => (wanted_is (j := 8) (b := true) (c := true) rfl rfl rfl (hv 67 (by kernel_rfl) rfl)).trans rfl) (fun a w K hb hv hK => mPure (numVal y) (exec_load _ _ _ _ rfl _ _ (hv 8 (by kernel_rfl) rfl) w (elem_run (hvy21.on hb) HY.out)) hK))) ?_
              refine all_cons (.inr (mStep _ 73 rfl rfl rfl rfl (by kernel_rfl) (fun a hv => (wanted_is (j := 8) (b := true) (c := true) rfl rfl rfl (hv 67 (by kernel_rfl) rfl)).trans rfl) (fun a w K hb hv hK => mPure (numVal x) (exec_load _ _ _ _ rfl _ _ (hv 7 (by kernel_rfl) rfl) w (elem_run (hvx21.on hb) HX.out)) hK))) ?_
              refine all_cons (.inr (mStep _ 74 rfl rfl rfl rfl (by kernel_rfl) (fun a hv => (wanted_is (j := 8) (b := true) (c := true) rfl rfl rfl (hv 67 (by kernel_rfl) rfl)).trans rfl) (fun a w K hb hv hK => mCall (numVal c3) 21 _ _ rfl [numVal y, numVal x] (cons_eq (hv 72 (by kernel_rfl) rfl) (cons_eq (hv 73 (by kernel_rfl) rfl) (rfl))) (enters Tryd.func21 rfl rfl) (C3.out w) hK))) ?_
              refine all_cons (.inr (mStep _ 75 rfl rfl rfl rfl (by kernel_rfl) (fun a hv => (wanted_is (j := 8) (b := true) (c := true) rfl rfl rfl (hv 67 (by kernel_rfl) rfl)).trans rfl) (fun a w K hb hv hK => mCall (numVal c4) 21 _ _ rfl [numVal c2, numVal c3] (cons_eq (hv 71 (by kernel_rfl) rfl) (cons_eq (hv 74 (by kernel_rfl) rfl) (rfl))) (enters Tryd.func21 rfl rfl) (C4.out w) hK))) ?_
              refine all_cons (.inr (mStep _ 76 rfl rfl rfl rfl (by kernel_rfl) (fun a hv => (wanted_is (j := 8) (b := true) (c := true) rfl rfl rfl (hv 67 (by kernel_rfl) rfl)).trans rfl) (fun a w K hb hv hK => mCall (.bool true) 26 _ _ rfl [numVal c1, numVal c4] (cons_eq (hv 70 (by kernel_rfl) rfl) (cons_eq (hv 75 (by kernel_rfl) rfl) (rfl))) (enters Tryd.func26 rfl rfl) (S3.out w) hK))) ?_
              refine all_cons (.inr (mStep _ 77 rfl rfl rfl rfl (by kernel_rfl) (fun a hv => wanted_all rfl _) (fun a w K hb hv hK => mPure (.bool true) (pick_true _ _ _ _ _ rfl (hv 67 (by kernel_rfl) rfl) (.bool true) (hv 76 (by kernel_rfl) rfl) w) hK))) ?_
              refine all_cons (.inr (mStep _ 78 rfl rfl rfl rfl (by kernel_rfl) (fun a hv => wanted_all rfl _) (fun a w K hb hv hK => mPure (.bool true) (exec_move _ _ _ (.inl rfl) _ (hv 77 (by kernel_rfl) rfl) w) hK))) ?_
              refine all_cons (.inr (mStep _ 79 rfl rfl rfl rfl (by kernel_rfl) (fun a hv => (wanted_is (j := 19) (b := true) (c := true) rfl rfl rfl (hv 78 (by kernel_rfl) rfl)).trans rfl) (fun a w K hb hv hK => mPure (numVal m) (exec_load _ _ _ _ rfl _ _ (hv 11 (by kernel_rfl) rfl) w (elem_run (hvm21.on hb) LM.out)) hK))) ?_
              refine all_cons (.inr (mStep _ 80 rfl rfl rfl rfl (by kernel_rfl) (fun a hv => (wanted_is (j := 19) (b := true) (c := true) rfl rfl rfl (hv 78 (by kernel_rfl) rfl)).trans rfl) (fun a w K hb hv hK => mPure (numVal z) (exec_load _ _ _ _ rfl _ _ (hv 9 (by kernel_rfl) rfl) w (elem_run (hvz21.on hb) HZ.out)) hK))) ?_
              refine all_cons (.inr (mStep _ 81 rfl rfl rfl rfl (by kernel_rfl) (fun a hv => (wanted_is (j := 19) (b := true) (c := true) rfl rfl rfl (hv 78 (by kernel_rfl) rfl)).trans rfl) (fun a w K hb hv hK => mCall (numVal v1) 23 _ _ rfl [numVal m, numVal z] (cons_eq (hv 79 (by kernel_rfl) rfl) (cons_eq (hv 80 (by kernel_rfl) rfl) (rfl))) (enters Tryd.func23 rfl rfl) (C5.out w) hK))) ?_
              refine all_cons (.inr (mStep _ 82 rfl rfl rfl rfl (by kernel_rfl) (fun a hv => (wanted_is (j := 19) (b := true) (c := true) rfl rfl rfl (hv 78 (by kernel_rfl) rfl)).trans rfl) (fun a w K hb hv hK => mPure (numVal z) (exec_load _ _ _ _ rfl _ _ (hv 9 (by kernel_rfl) rfl) w (elem_run (hvz21.on hb) HZ.out)) hK))) ?_
              refine all_cons (.inr (mStep _ 83 rfl rfl rfl rfl (by kernel_rfl) (fun a hv => (wanted_is (j := 19) (b := true) (c := true) rfl rfl rfl (hv 78 (by kernel_rfl) rfl)).trans rfl) (fun a w K hb hv hK => mPure (numVal m) (exec_load _ _ _ _ rfl _ _ (hv 11 (by kernel_rfl) rfl) w (elem_run (hvm21.on hb) LM.out)) hK))) ?_
              refine all_cons (.inr (mStep _ 84 rfl rfl rfl rfl (by kernel_rfl) (fun a hv => (wanted_is (j := 19) (b := true) (c := true) rfl rfl rfl (hv 78 (by kernel_rfl) rfl)).trans rfl) (fun a w K hb hv hK => mCall (numVal v2) 23 _ _ rfl [numVal z, numVal m] (cons_eq (hv 82 (by kernel_rfl) rfl) (cons_eq (hv 83 (by kernel_rfl) rfl) (rfl))) (enters Tryd.func23 rfl rfl) (C6.out w) hK))) ?_
              refine all_cons (.inr (mStep _ 85 rfl rfl rfl rfl (by kernel_rfl) (fun a hv => (wanted_is (j := 19) (b := true) (c := true) rfl rfl rfl (hv 78 (by kernel_rfl) rfl)).trans rfl) (fun a w K hb hv hK => mCall (.bool true) 26 _ _ rfl [numVal v1, numVal v2] (cons_eq (hv 81 (by kernel_rfl) rfl) (cons_eq (hv 84 (by kernel_rfl) rfl) (rfl))) (enters Tryd.func26 rfl rfl) (S4.out w) hK))) ?_
              refine all_cons (.inr (mStep _ 86 rfl rfl rfl rfl (by kernel_rfl) (fun a hv => wanted_all rfl _) (fun a w K hb hv hK => mPure (.bool true) (pick_true _ _ _ _ _ rfl (hv 78 (by kernel_rfl) rfl) (.bool true) (hv 85 (by kernel_rfl) rfl) w) hK))) ?_
              refine all_cons (.inr (mStep _ 87 rfl rfl rfl rfl (by kernel_rfl) (fun a hv => wanted_all rfl _) (fun a w K hb hv hK => mPure (.bool true) (exec_move _ _ _ (.inl rfl) _ (hv 86 (by kernel_rfl) rfl) w) hK))) ?_
              refine all_cons (.inr (mStep _ 88 rfl rfl rfl rfl (by kernel_rfl) (fun a hv => (wanted_is (j := 28) (b := true) (c := true) rfl rfl rfl (hv 87 (by kernel_rfl) rfl)).trans rfl) (fun a w K hb hv hK => mPure (numVal x) (exec_load _ _ _ _ rfl _ _ (hv 7 (by kernel_rfl) rfl) w (elem_run (hvx21.on hb) HX.out)) hK))) ?_
              refine all_cons (.inr (mStep _ 89 rfl rfl rfl rfl (by kernel_rfl) (fun a hv => (wanted_is (j := 28) (b := true) (c := true) rfl rfl rfl (hv 87 (by kernel_rfl) rfl)).trans rfl) (fun a w K hb hv hK => mCall (.bool false) 14 _ _ rfl [numVal x] (cons_eq (hv 88 (by kernel_rfl) rfl) (rfl)) (enters Tryd.func14 rfl rfl) (CB.out w) hK))) ?_
              refine all_cons (.inr (mStep _ 90 rfl rfl rfl rfl (by kernel_rfl) (fun a hv => (wanted_is (j := 28) (b := true) (c := true) rfl rfl rfl (hv 87 (by kernel_rfl) rfl)).trans rfl) (fun a w K hb hv hK => mPure (.bool false) (exec_move _ _ _ (.inl rfl) _ (hv 89 (by kernel_rfl) rfl) w) hK))) ?_
              refine all_cons (.inr (mStep _ 91 rfl rfl rfl rfl (by kernel_rfl) (fun a hv => (wanted_is (j := 31) (b := false) (c := false) rfl rfl rfl (hv 90 (by kernel_rfl) rfl)).trans rfl) (fun a w K hb hv hK => mPure (numVal x) (exec_load _ _ _ _ rfl _ _ (hv 7 (by kernel_rfl) rfl) w (elem_run (hvx21.on hb) HX.out)) hK))) ?_
              refine all_cons (.inr (mStep _ 92 rfl rfl rfl rfl (by kernel_rfl) (fun a hv => (wanted_is (j := 31) (b := false) (c := false) rfl rfl rfl (hv 90 (by kernel_rfl) rfl)).trans rfl) (fun a w K hb hv hK => mPure (numVal x) (exec_load _ _ _ _ rfl _ _ (hv 7 (by kernel_rfl) rfl) w (elem_run (hvx21.on hb) HX.out)) hK))) ?_
              refine all_cons (.inr (mStep _ 93 rfl rfl rfl rfl (by kernel_rfl) (fun a hv => (wanted_is (j := 31) (b := false) (c := false) rfl rfl rfl (hv 90 (by kernel_rfl) rfl)).trans rfl) (fun a w K hb hv hK => mCall (numVal iv) 27 _ _ rfl [numVal x] (cons_eq (hv 92 (by kernel_rfl) rfl) (rfl)) (enters Tryd.func27 rfl rfl) (C7.out w) hK))) ?_
              refine all_cons (.inr (mStep _ 94 rfl rfl rfl rfl (by kernel_rfl) (fun a hv => (wanted_is (j := 31) (b := false) (c := false) rfl rfl rfl (hv 90 (by kernel_rfl) rfl)).trans rfl) (fun a w K hb hv hK => mCall (numVal o1) 23 _ _ rfl [numVal x, numVal iv] (cons_eq (hv 91 (by kernel_rfl) rfl) (cons_eq (hv 93 (by kernel_rfl) rfl) (rfl))) (enters Tryd.func23 rfl rfl) (C8.out w) hK))) ?_
              refine all_cons (.inr (mStep _ 95 rfl rfl rfl rfl (by kernel_rfl) (fun a hv => (wanted_is (j := 31) (b := false) (c := false) rfl rfl rfl (hv 90 (by kernel_rfl) rfl)).trans rfl) (fun a w K hb hv hK => mCall (numVal o2) 16 _ _ rfl [.int .i64 1] (cons_eq (rfl) (rfl)) (enters Tryd.func16 rfl rfl) (C9.out w) hK))) ?_
              refine all_cons (.inr (mStep _ 96 rfl rfl rfl rfl (by kernel_rfl) (fun a hv => (wanted_is (j := 31) (b := false) (c := false) rfl rfl rfl (hv 90 (by kernel_rfl) rfl)).trans rfl) (fun a w K hb hv hK => mCall (.bool true) 26 _ _ rfl [numVal o1, numVal o2] (cons_eq (hv 94 (by kernel_rfl) rfl) (cons_eq (hv 95 (by kernel_rfl) rfl) (rfl))) (enters Tryd.func26 rfl rfl) ((S5.out rfl) w) hK))) ?_
              refine all_cons (.inr (mStep _ 97 rfl rfl rfl rfl (by kernel_rfl) (fun a hv => (wanted_is (j := 28) (b := true) (c := true) rfl rfl rfl (hv 87 (by kernel_rfl) rfl)).trans rfl) (fun a w K hb hv hK => mPure (.bool true) (pick_false _ _ _ _ _ rfl (hv 90 (by kernel_rfl) rfl) (.bool true) (hv 96 (by kernel_rfl) rfl) w) hK))) ?_
              refine all_cons (.inr (mStep _ 98 rfl rfl rfl rfl (by kernel_rfl) (fun a hv => wanted_all rfl _) (fun a w K hb hv hK => mPure (.bool true) (pick_true _ _ _ _ _ rfl (hv 87 (by kernel_rfl) rfl) (.bool true) (hv 97 (by kernel_rfl) rfl) w) hK))) ?_
              refine all_cons (.inr (mStep _ 6 rfl rfl rfl rfl (by kernel_rfl) (fun a hv => wanted_all rfl _) (fun a w K hb hv hK => mPure (.bool true) (exec_move _ _ _ (.inr rfl) _ (hv 98 (by kernel_rfl) rfl) w) hK))) ?_
              exact all_nil
            intro w22 g hb22 hN22 hap22
            clear hN22 hap22
            have hB22 := below_then (show Below w.heap.size w w21.drew from hB21.drew) hb22
            have hvx22 := hvx21.on hb22
            have hvy22 := hvy21.on hb22
            have hvz22 := hvz21.on hb22
            have hvs22 := hvs21.on hb22
            have hvm22 := hvm21.on hb22
            have hvd22 := hvd21.on hb22
            have hvl22 := hvl21.on hb22
            have hvr22 := hvr21.on hb22
            clear hB21 hvx21 hvy21 hvz21 hvs21 hvm21 hvd21 hvl21 hvr21 hb22
            refine ⟨by kernel_rfl, ?_⟩
            rename_i K hKK
            show Exit.then K _ Exit.normal (⟨(chVs18f ka kb kc w.heap.size gb gc x y z s m d p l q r rt c1 c2 c3 c4 v1 v2 iv o1 o2 u26 u27 u28 u29 u30 u31 u32 u33 u34 u35 u36 u37 u41 u42 u43 u44 u45 u46 gx gy gz gs gm gd gl gr).toArray, []⟩ : Act) w22
            simp only [Exit.then]
            refine hKK _ _ ?_
            clear hKK K g
            simp only [chVs18f]
            go_wp2
            go_ret
            exact ⟨rfl, hB22⟩
          · replace hvx21 := hvx21.drew
            replace hvy21 := hvy21.drew
            replace hvz21 := hvz21.drew
            replace hvs21 := hvs21.drew
            replace hvm21 := hvm21.drew
            replace hvd21 := hvd21.drew
            replace hvl21 := hvl21.drew
            replace hvr21 := hvr21.drew
            refine wp_region_any (by kernel_rfl) ?_
            refine wpAny_flatM (L := [0, 1, 2, 3, 4, 5, 6, 7, 8, 9, 10, 11, 12, 13, 14, 15, 16, 17, 18, 19, 20, 21, 22, 23, 24, 25, 26, 27, 28, 29, 30, 31, 32, 33, 34, 35, 36, 37, 38, 39, 40]) (by kernel_rfl) _ _ (chVs18t ka kb kc w.heap.size gb gc x y z s m d p l q r rt c1 c2 c3 c4 v1 v2 iv o1 o2 u26 u27 u28 u29 u30 u31 u32 u33 u34 u35 u36 u37 u41 u42 u43 u44 u45 u46 gx gy gz gs gm gd gl gr) [] 33 (nzeros 5) [0, 1, 2, 3, 4, 5, 7, 8, 9, 10, 11, 12, 13, 14, 15, 16, 17, 18, 19, 20, 21, 22, 23, 24, 25, 26, 27, 28, 29, 30, 31, 32, 33, 34, 35, 36, 37, 38, 39, 40, 41, 42, 43, 44, 45, 46, 47, 48, 49, 50, 51, 52, 53, 54, 55, 56, 57, 58] (by kernel_rfl) (by kernel_rfl) ?_ zero_elem ?_ (by rfl) ?_ 0 (by kernel_rfl) ?_
            · intro p hp
              exact absurd hp List.not_mem_nil
            · exact all_cons rfl (all_cons rfl (all_cons rfl (all_cons rfl (all_cons rfl (all_cons rfl (all_cons rfl (all_cons rfl (all_cons rfl (all_cons rfl (all_cons rfl (all_cons rfl (all_cons rfl (all_cons rfl (all_cons rfl (all_cons rfl (all_cons rfl (all_cons rfl (all_cons rfl (all_cons rfl (all_cons rfl (all_cons rfl (all_cons rfl (all_cons rfl (all_cons rfl (all_cons rfl (all_cons rfl (all_cons rfl (all_cons rfl (all_cons rfl (all_cons rfl (all_cons rfl (all_cons rfl (all_cons rfl (all_cons rfl (all_cons rfl (all_cons rfl (all_cons rfl (all_cons rfl (all_cons rfl (all_cons rfl (all_cons rfl (all_cons rfl (all_cons rfl (all_cons rfl (all_cons rfl (all_cons rfl (all_cons rfl (all_cons rfl (all_cons rfl (all_cons rfl (all_cons rfl (all_cons rfl (all_cons rfl (all_cons rfl (all_cons rfl (all_cons rfl (all_cons rfl (all_nil))))))))))))))))))))))))))))))))))))))))))))))))))))))))))
            · refine all_cons (.inr (mStep _ 59 rfl rfl rfl rfl (by kernel_rfl) (fun a hv => wanted_all rfl _) (fun a w K hb hv hK => mPure (numVal d) (exec_load _ _ _ _ rfl _ _ (hv 12 (by kernel_rfl) rfl) w (elem_run (hvd21.on hb) LD.out)) hK))) ?_
              refine all_cons (.inr (mStep _ 60 rfl rfl rfl rfl (by kernel_rfl) (fun a hv => wanted_all rfl _) (fun a w K hb hv hK => mPure (numVal x) (exec_load _ _ _ _ rfl _ _ (hv 7 (by kernel_rfl) rfl) w (elem_run (hvx21.on hb) HX.out)) hK))) ?_
              refine all_cons (.inr (mStep _ 61 rfl rfl rfl rfl (by kernel_rfl) (fun a hv => wanted_all rfl _) (fun a w K hb hv hK => mCall (.bool true) 26 _ _ rfl [numVal d, numVal x] (cons_eq (hv 59 (by kernel_rfl) rfl) (cons_eq (hv 60 (by kernel_rfl) rfl) (rfl))) (enters Tryd.func26 rfl rfl) (S1.out w) hK))) ?_
              refine all_cons (.inr (mStep _ 62 rfl rfl rfl rfl (by kernel_rfl) (fun a hv => wanted_all rfl _) (fun a w K hb hv hK => mPure (.bool true) (exec_move _ _ _ (.inl rfl) _ (hv 61 (by kernel_rfl) rfl) w) hK))) ?_
              refine all_cons (.inr (mStep _ 63 rfl rfl rfl rfl (by kernel_rfl) (fun a hv => (wanted_is (j := 3) (b := true) (c := true) rfl rfl rfl (hv 62 (by kernel_rfl) rfl)).trans rfl) (fun a w K hb hv hK => mPure (numVal l) (exec_load _ _ _ _ rfl _ _ (hv 13 (by kernel_rfl) rfl) w (elem_run (hvl21.on hb) HLL.out)) hK))) ?_
              refine all_cons (.inr (mStep _ 64 rfl rfl rfl rfl (by kernel_rfl) (fun a hv => (wanted_is (j := 3) (b := true) (c := true) rfl rfl rfl (hv 62 (by kernel_rfl) rfl)).trans rfl) (fun a w K hb hv hK => mPure (numVal rt) (exec_load _ _ _ _ rfl _ _ (hv 14 (by kernel_rfl) rfl) w (elem_run (hvr21.on hb) HRT.out)) hK))) ?_
              refine all_cons (.inr (mStep _ 65 rfl rfl rfl rfl (by kernel_rfl) (fun a hv => (wanted_is (j := 3) (b := true) (c := true) rfl rfl rfl (hv 62 (by kernel_rfl) rfl)).trans rfl) (fun a w K hb hv hK => mCall (.bool true) 26 _ _ rfl [numVal l, numVal rt] (cons_eq (hv 63 (by kernel_rfl) rfl) (cons_eq (hv 64 (by kernel_rfl) rfl) (rfl))) (enters Tryd.func26 rfl rfl) (S2.out w) hK))) ?_
              refine all_cons (.inr (mStep _ 66 rfl rfl rfl rfl (by kernel_rfl) (fun a hv => wanted_all rfl _) (fun a w K hb hv hK => mPure (.bool true) (pick_true _ _ _ _ _ rfl (hv 62 (by kernel_rfl) rfl) (.bool true) (hv 65 (by kernel_rfl) rfl) w) hK))) ?_
              refine all_cons (.inr (mStep _ 67 rfl rfl rfl rfl (by kernel_rfl) (fun a hv => wanted_all rfl _) (fun a w K hb hv hK => mPure (.bool true) (exec_move _ _ _ (.inl rfl) _ (hv 66 (by kernel_rfl) rfl) w) hK))) ?_
              refine all_cons (.inr (mStep _ 68 rfl rfl rfl rfl (by kernel_rfl) (fun a hv => (wanted_is (j := 8) (b := true) (c := true) rfl rfl rfl (hv 67 (by kernel_rfl) rfl)).trans rfl) (fun a w K hb hv hK => mPure (numVal x) (exec_load _ _ _ _ rfl _ _ (hv 7 (by kernel_rfl) rfl) w (elem_run (hvx21.on hb) HX.out)) hK))) ?_
              refine all_cons (.inr (mStep _ 69 rfl rfl rfl rfl (by kernel_rfl) (fun a hv => (wanted_is (j := 8) (b := true) (c := true) rfl rfl rfl (hv 67 (by kernel_rfl) rfl)).trans rfl) (fun a w K hb hv hK => mPure (numVal y) (exec_load _ _ _ _ rfl _ _ (hv 8 (by kernel_rfl) rfl) w (elem_run (hvy21.on hb) HY.out)) hK))) ?_
              refine all_cons (.inr (mStep _ 70 rfl rfl rfl rfl (by kernel_rfl) (fun a hv => (wanted_is (j := 8) (b := true) (c := true) rfl rfl rfl (hv 67 (by kernel_rfl) rfl)).trans rfl) (fun a w K hb hv hK => mCall (numVal c1) 21 _ _ rfl [numVal x, numVal y] (cons_eq (hv 68 (by kernel_rfl) rfl) (cons_eq (hv 69 (by kernel_rfl) rfl) (rfl))) (enters Tryd.func21 rfl rfl) (C1.out w) hK))) ?_
              refine all_cons (.inr (mStep _ 71 rfl rfl rfl rfl (by kernel_rfl) (fun a hv => (wanted_is (j := 8) (b := true) (c := true) rfl rfl rfl (hv 67 (by kernel_rfl) rfl)).trans rfl) (fun a w K hb hv hK => mCall (numVal c2) 16 _ _ rfl [.int .i64 0] (cons_eq (rfl) (rfl)) (enters Tryd.func16 rfl rfl) (C2.out w) hK))) ?_
              refine all_cons (.inr (mStep _ 72 rfl rfl rfl rfl (by kernel_rfl) (fun a hv => (wanted_is (j := 8) (b := true) (c := true) rfl rfl rfl (hv 67 (by kernel_rfl) rfl)).trans rfl) (fun a w K hb hv hK => mPure (numVal y) (exec_load _ _ _ _ rfl _ _ (hv 8 (by kernel_rfl) rfl) w (elem_run (hvy21.on hb) HY.out)) hK))) ?_
              refine all_cons (.inr (mStep _ 73 rfl rfl rfl rfl (by kernel_rfl) (fun a hv => (wanted_is (j := 8) (b := true) (c := true) rfl rfl rfl (hv 67 (by kernel_rfl) rfl)).trans rfl) (fun a w K hb hv hK => mPure (numVal x) (exec_load _ _ _ _ rfl _ _ (hv 7 (by kernel_rfl) rfl) w (elem_run (hvx21.on hb) HX.out)) hK))) ?_
              refine all_cons (.inr (mStep _ 74 rfl rfl rfl rfl (by kernel_rfl) (fun a hv => (wanted_is (j := 8) (b := true) (c := true) rfl rfl rfl (hv 67 (by kernel_rfl) rfl)).trans rfl) (fun a w K hb hv hK => mCall (numVal c3) 21 _ _ rfl [numVal y, numVal x] (cons_eq (hv 72 (by kernel_rfl) rfl) (cons_eq (hv 73 (by kernel_rfl) rfl) (rfl))) (enters Tryd.func21 rfl rfl) (C3.out w) hK))) ?_
              refine all_cons (.inr (mStep _ 75 rfl rfl rfl rfl (by kernel_rfl) (fun a hv => (wanted_is (j := 8) (b := true) (c := true) rfl rfl rfl (hv 67 (by kernel_rfl) rfl)).trans rfl) (fun a w K hb hv hK => mCall (numVal c4) 21 _ _ rfl [numVal c2, numVal c3] (cons_eq (hv 71 (by kernel_rfl) rfl) (cons_eq (hv 74 (by kernel_rfl) rfl) (rfl))) (enters Tryd.func21 rfl rfl) (C4.out w) hK))) ?_
              refine all_cons (.inr (mStep _ 76 rfl rfl rfl rfl (by kernel_rfl) (fun a hv => (wanted_is (j := 8) (b := true) (c := true) rfl rfl rfl (hv 67 (by kernel_rfl) rfl)).trans rfl) (fun a w K hb hv hK => mCall (.bool true) 26 _ _ rfl [numVal c1, numVal c4] (cons_eq (hv 70 (by kernel_rfl) rfl) (cons_eq (hv 75 (by kernel_rfl) rfl) (rfl))) (enters Tryd.func26 rfl rfl) (S3.out w) hK))) ?_
              refine all_cons (.inr (mStep _ 77 rfl rfl rfl rfl (by kernel_rfl) (fun a hv => wanted_all rfl _) (fun a w K hb hv hK => mPure (.bool true) (pick_true _ _ _ _ _ rfl (hv 67 (by kernel_rfl) rfl) (.bool true) (hv 76 (by kernel_rfl) rfl) w) hK))) ?_
              refine all_cons (.inr (mStep _ 78 rfl rfl rfl rfl (by kernel_rfl) (fun a hv => wanted_all rfl _) (fun a w K hb hv hK => mPure (.bool true) (exec_move _ _ _ (.inl rfl) _ (hv 77 (by kernel_rfl) rfl) w) hK))) ?_
              refine all_cons (.inr (mStep _ 79 rfl rfl rfl rfl (by kernel_rfl) (fun a hv => (wanted_is (j := 19) (b := true) (c := true) rfl rfl rfl (hv 78 (by kernel_rfl) rfl)).trans rfl) (fun a w K hb hv hK => mPure (numVal m) (exec_load _ _ _ _ rfl _ _ (hv 11 (by kernel_rfl) rfl) w (elem_run (hvm21.on hb) LM.out)) hK))) ?_
              refine all_cons (.inr (mStep _ 80 rfl rfl rfl rfl (by kernel_rfl) (fun a hv => (wanted_is (j := 19) (b := true) (c := true) rfl rfl rfl (hv 78 (by kernel_rfl) rfl)).trans rfl) (fun a w K hb hv hK => mPure (numVal z) (exec_load _ _ _ _ rfl _ _ (hv 9 (by kernel_rfl) rfl) w (elem_run (hvz21.on hb) HZ.out)) hK))) ?_
              refine all_cons (.inr (mStep _ 81 rfl rfl rfl rfl (by kernel_rfl) (fun a hv => (wanted_is (j := 19) (b := true) (c := true) rfl rfl rfl (hv 78 (by kernel_rfl) rfl)).trans rfl) (fun a w K hb hv hK => mCall (numVal v1) 23 _ _ rfl [numVal m, numVal z] (cons_eq (hv 79 (by kernel_rfl) rfl) (cons_eq (hv 80 (by kernel_rfl) rfl) (rfl))) (enters Tryd.func23 rfl rfl) (C5.out w) hK))) ?_
              refine all_cons (.inr (mStep _ 82 rfl rfl rfl rfl (by kernel_rfl) (fun a hv => (wanted_is (j := 19) (b := true) (c := true) rfl rfl rfl (hv 78 (by kernel_rfl) rfl)).trans rfl) (fun a w K hb hv hK => mPure (numVal z) (exec_load _ _ _ _ rfl _ _ (hv 9 (by kernel_rfl) rfl) w (elem_run (hvz21.on hb) HZ.out)) hK))) ?_
              refine all_cons (.inr (mStep _ 83 rfl rfl rfl rfl (by kernel_rfl) (fun a hv => (wanted_is (j := 19) (b := true) (c := true) rfl rfl rfl (hv 78 (by kernel_rfl) rfl)).trans rfl) (fun a w K hb hv hK => mPure (numVal m) (exec_load _ _ _ _ rfl _ _ (hv 11 (by kernel_rfl) rfl) w (elem_run (hvm21.on hb) LM.out)) hK))) ?_
              refine all_cons (.inr (mStep _ 84 rfl rfl rfl rfl (by kernel_rfl) (fun a hv => (wanted_is (j := 19) (b := true) (c := true) rfl rfl rfl (hv 78 (by kernel_rfl) rfl)).trans rfl) (fun a w K hb hv hK => mCall (numVal v2) 23 _ _ rfl [numVal z, numVal m] (cons_eq (hv 82 (by kernel_rfl) rfl) (cons_eq (hv 83 (by kernel_rfl) rfl) (rfl))) (enters Tryd.func23 rfl rfl) (C6.out w) hK))) ?_
              refine all_cons (.inr (mStep _ 85 rfl rfl rfl rfl (by kernel_rfl) (fun a hv => (wanted_is (j := 19) (b := true) (c := true) rfl rfl rfl (hv 78 (by kernel_rfl) rfl)).trans rfl) (fun a w K hb hv hK => mCall (.bool true) 26 _ _ rfl [numVal v1, numVal v2] (cons_eq (hv 81 (by kernel_rfl) rfl) (cons_eq (hv 84 (by kernel_rfl) rfl) (rfl))) (enters Tryd.func26 rfl rfl) (S4.out w) hK))) ?_
              refine all_cons (.inr (mStep _ 86 rfl rfl rfl rfl (by kernel_rfl) (fun a hv => wanted_all rfl _) (fun a w K hb hv hK => mPure (.bool true) (pick_true _ _ _ _ _ rfl (hv 78 (by kernel_rfl) rfl) (.bool true) (hv 85 (by kernel_rfl) rfl) w) hK))) ?_
              refine all_cons (.inr (mStep _ 87 rfl rfl rfl rfl (by kernel_rfl) (fun a hv => wanted_all rfl _) (fun a w K hb hv hK => mPure (.bool true) (exec_move _ _ _ (.inl rfl) _ (hv 86 (by kernel_rfl) rfl) w) hK))) ?_
              refine all_cons (.inr (mStep _ 88 rfl rfl rfl rfl (by kernel_rfl) (fun a hv => (wanted_is (j := 28) (b := true) (c := true) rfl rfl rfl (hv 87 (by kernel_rfl) rfl)).trans rfl) (fun a w K hb hv hK => mPure (numVal x) (exec_load _ _ _ _ rfl _ _ (hv 7 (by kernel_rfl) rfl) w (elem_run (hvx21.on hb) HX.out)) hK))) ?_
              refine all_cons (.inr (mStep _ 89 rfl rfl rfl rfl (by kernel_rfl) (fun a hv => (wanted_is (j := 28) (b := true) (c := true) rfl rfl rfl (hv 87 (by kernel_rfl) rfl)).trans rfl) (fun a w K hb hv hK => mCall (.bool true) 14 _ _ rfl [numVal x] (cons_eq (hv 88 (by kernel_rfl) rfl) (rfl)) (enters Tryd.func14 rfl rfl) (CB.out w) hK))) ?_
              refine all_cons (.inr (mStep _ 90 rfl rfl rfl rfl (by kernel_rfl) (fun a hv => (wanted_is (j := 28) (b := true) (c := true) rfl rfl rfl (hv 87 (by kernel_rfl) rfl)).trans rfl) (fun a w K hb hv hK => mPure (.bool true) (exec_move _ _ _ (.inl rfl) _ (hv 89 (by kernel_rfl) rfl) w) hK))) ?_
              refine all_cons (.inr (mSkip _ 91 rfl rfl rfl rfl (by kernel_rfl) (fun a hv => (wanted_is (j := 31) (b := false) (c := true) rfl rfl rfl (hv 90 (by kernel_rfl) rfl)).trans rfl) rfl)) ?_
              refine all_cons (.inr (mSkip _ 92 rfl rfl rfl rfl (by kernel_rfl) (fun a hv => (wanted_is (j := 31) (b := false) (c := true) rfl rfl rfl (hv 90 (by kernel_rfl) rfl)).trans rfl) rfl)) ?_
              refine all_cons (.inr (mSkip _ 93 rfl rfl rfl rfl (by kernel_rfl) (fun a hv => (wanted_is (j := 31) (b := false) (c := true) rfl rfl rfl (hv 90 (by kernel_rfl) rfl)).trans rfl) rfl)) ?_
              refine all_cons (.inr (mSkip _ 94 rfl rfl rfl rfl (by kernel_rfl) (fun a hv => (wanted_is (j := 31) (b := false) (c := true) rfl rfl rfl (hv 90 (by kernel_rfl) rfl)).trans rfl) rfl)) ?_
              refine all_cons (.inr (mSkip _ 95 rfl rfl rfl rfl (by kernel_rfl) (fun a hv => (wanted_is (j := 31) (b := false) (c := true) rfl rfl rfl (hv 90 (by kernel_rfl) rfl)).trans rfl) rfl)) ?_
              refine all_cons (.inr (mSkip _ 96 rfl rfl rfl rfl (by kernel_rfl) (fun a hv => (wanted_is (j := 31) (b := false) (c := true) rfl rfl rfl (hv 90 (by kernel_rfl) rfl)).trans rfl) rfl)) ?_
              refine all_cons (.inr (mStep _ 97 rfl rfl rfl rfl (by kernel_rfl) (fun a hv => (wanted_is (j := 28) (b := true) (c := true) rfl rfl rfl (hv 87 (by kernel_rfl) rfl)).trans rfl) (fun a w K hb hv hK => mPure (.bool true) (pick_true _ _ _ _ _ rfl (hv 90 (by kernel_rfl) rfl) (.bool true) (by rfl) w) hK))) ?_
              refine all_cons (.inr (mStep _ 98 rfl rfl rfl rfl (by kernel_rfl) (fun a hv => wanted_all rfl _) (fun a w K hb hv hK => mPure (.bool true) (pick_true _ _ _ _ _ rfl (hv 87 (by kernel_rfl) rfl) (.bool true) (hv 97 (by kernel_rfl) rfl) w) hK))) ?_
              refine all_cons (.inr (mStep _ 6 rfl rfl rfl rfl (by kernel_rfl) (fun a hv => wanted_all rfl _) (fun a w K hb hv hK => mPure (.bool true) (exec_move _ _ _ (.inr rfl) _ (hv 98 (by kernel_rfl) rfl) w) hK))) ?_
              exact all_nil
            intro w23 g hb23 hN23 hap23
            clear hN23 hap23
            have hB23 := below_then (show Below w.heap.size w w21.drew from hB21.drew) hb23
            have hvx23 := hvx21.on hb23
            have hvy23 := hvy21.on hb23
            have hvz23 := hvz21.on hb23
            have hvs23 := hvs21.on hb23
            have hvm23 := hvm21.on hb23
            have hvd23 := hvd21.on hb23
            have hvl23 := hvl21.on hb23
            have hvr23 := hvr21.on hb23
            clear hB21 hvx21 hvy21 hvz21 hvs21 hvm21 hvd21 hvl21 hvr21 hb23
            refine ⟨by kernel_rfl, ?_⟩
            rename_i K hKK
            show Exit.then K _ Exit.normal (⟨(chVs18t ka kb kc w.heap.size gb gc x y z s m d p l q r rt c1 c2 c3 c4 v1 v2 iv o1 o2 u26 u27 u28 u29 u30 u31 u32 u33 u34 u35 u36 u37 u41 u42 u43 u44 u45 u46 gx gy gz gs gm gd gl gr).toArray, []⟩ : Act) w23
            simp only [Exit.then]
            refine hKK _ _ ?_
            clear hKK K g
            simp only [chVs18t]
            go_wp2
            go_ret
            exact ⟨rfl, hB23⟩
end Go.Proofs.YtcnmohmlfffnkaaDoor.fieldChains
