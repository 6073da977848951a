/- Layer 14: Load. (By gen-busgo.py.) -/
import Derived.Test.YtkbccccjjlkgbaaBusGo
namespace Go.Proofs.Ytkbccccjjlkgbaa
open Go.RowKit
set_option linter.unusedVariables false
set_option linter.unusedSimpArgs false
set_option maxRecDepth 100000

set_option maxHeartbeats 800000 in
theorem bload_nil (a n k : Int) (w : World) :
    Calls Try.prog 21 #[.pointer none, .int .u32 a, .int .i64 n, .int .u64 k] w fun e w' => e = .returned (.tuple #[.int .u32 0, .int .i64 2]) ∧ w' = w := by
  go_enter Try.func21, Try.ntmps21
  go_wp2_with (first | (go_at_call 16; refine (bram_nil _).mono ?_; rintro e w' ⟨rfl, hw⟩; have hw := hw.symm; subst hw) | (go_at_call 40; refine (load_nil _ _ _).mono ?_; rintro e w' ⟨rfl, hw⟩; have hw := hw.symm; subst hw))
  go_ret2
  exact ⟨rfl, rfl⟩

set_option maxHeartbeats 1600000 in
theorem bload_mem {B R P C A K Kc : Nat} {S : Nat → Prop} {T Y : Nat → Int} {x : BS} (a n k : Int) (w : World) (hK : K ≤ 1024) (h : IsBus w B R P C A K S Kc T Y x) (hb : BdB K x.b) (a0 : 0 ≤ a) (a1 : a < 4294967296) (hz : askZ K a n = 0) :
    Calls Try.prog 21 #[.pointer (some ⟨B, 0, none⟩), .int .u32 a, .int .i64 n, .int .u64 k] w fun e w' => e = .returned (.tuple #[.int .u32 (x.ldV K a n k), .int .i64 0]) ∧ IsBus w' B R P C A K S Kc T Y (x.ldS K a n) ∧ Fr (Fp B R P A S) w w' := by
  have HLS : Hid (x.ldS K a n = x) := BS.ldS_mem hz
  have HL : Hid (∀ W, IsBus W B R P C A K S Kc T Y x → Calls Try.prog 40 #[.pointer (some ⟨R, 0, none⟩), .int .u32 a, .int .i64 n] W fun e w' => e = .returned (.tuple #[.int .u32 (x.ldV K a n k), .int .i64 0]) ∧ Q W w') := fun W hW => by
    have := mload_any a n W hK hW hb a0 a1
    rw [hz] at this
    rw [BS.ldV_mem hz]; rwa [if_pos rfl] at this
  have HB := Lib.hid h
  clear h
  rw [HLS.out]
  clear HLS hz hb
  generalize x.ldV K a n k = y at *
  go_enter Try.func21, Try.ntmps21
  go_wp2_with fail
  refine (bram_any w HB.out.1).mono ?_
  rintro e w' ⟨rfl, hw⟩
  have hw := hw.symm
  subst hw
  go_wp2_with fail
  refine (HL.out w HB.out).mono ?_
  rintro e w1 ⟨rfl, hq⟩
  have HB1 := Lib.hid (HB.out.q hq)
  have HW1 : Hid (Fr (Fp B R P A S) w w1) := Fr.of _ (hq.below _)
  clear hq
  go_wp2
  go_ret2
  exact ⟨rfl, HB1.out, HW1.out⟩

set_option maxHeartbeats 1600000 in
theorem bload_err2 {B R P C A K Kc : Nat} {S : Nat → Prop} {T Y : Nat → Int} {x : BS} (a n k : Int) (w : World) (hK : K ≤ 1024) (h : IsBus w B R P C A K S Kc T Y x) (hb : BdB K x.b) (a0 : 0 ≤ a) (a1 : a < 4294967296) (hz : askZ K a n = 2) :
    Calls Try.prog 21 #[.pointer (some ⟨B, 0, none⟩), .int .u32 a, .int .i64 n, .int .u64 k] w fun e w' => e = .returned (.tuple #[.int .u32 0, .int .i64 2]) ∧ IsBus w' B R P C A K S Kc T Y x ∧ Fr (Fp B R P A S) w w' := by
  have HL : Hid (∀ W, IsBus W B R P C A K S Kc T Y x → Calls Try.prog 40 #[.pointer (some ⟨R, 0, none⟩), .int .u32 a, .int .i64 n] W fun e w' => e = .returned (.tuple #[.int .u32 0, .int .i64 2]) ∧ Q W w') := fun W hW => by
    have := mload_any a n W hK hW hb a0 a1
    rw [hz] at this
    rwa [if_neg (by decide)] at this
  have HB := Lib.hid h
  clear h
  clear hz hb
  go_enter Try.func21, Try.ntmps21
  go_wp2_with fail
  refine (bram_any w HB.out.1).mono ?_
  rintro e w' ⟨rfl, hw⟩
  have hw := hw.symm
  subst hw
  go_wp2_with fail
  refine (HL.out w HB.out).mono ?_
  rintro e w1 ⟨rfl, hq⟩
  have HB1 := Lib.hid (HB.out.q hq)
  have HW1 : Hid (Fr (Fp B R P A S) w w1) := Fr.of _ (hq.below _)
  clear hq
  go_wp2
  go_ret2
  exact ⟨rfl, HB1.out, HW1.out⟩

set_option maxHeartbeats 1600000 in
theorem bload_err5 {B R P C A K Kc : Nat} {S : Nat → Prop} {T Y : Nat → Int} {x : BS} (a n k : Int) (w : World) (hK : K ≤ 1024) (h : IsBus w B R P C A K S Kc T Y x) (hb : BdB K x.b) (a0 : 0 ≤ a) (a1 : a < 4294967296) (hz : askZ K a n = 5) :
    Calls Try.prog 21 #[.pointer (some ⟨B, 0, none⟩), .int .u32 a, .int .i64 n, .int .u64 k] w fun e w' => e = .returned (.tuple #[.int .u32 0, .int .i64 5]) ∧ IsBus w' B R P C A K S Kc T Y x ∧ Fr (Fp B R P A S) w w' := by
  have HL : Hid (∀ W, IsBus W B R P C A K S Kc T Y x → Calls Try.prog 40 #[.pointer (some ⟨R, 0, none⟩), .int .u32 a, .int .i64 n] W fun e w' => e = .returned (.tuple #[.int .u32 0, .int .i64 5]) ∧ Q W w') := fun W hW => by
    have := mload_any a n W hK hW hb a0 a1
    rw [hz] at this
    rwa [if_neg (by decide)] at this
  have HB := Lib.hid h
  clear h
  clear hz hb
  go_enter Try.func21, Try.ntmps21
  go_wp2_with fail
  refine (bram_any w HB.out.1).mono ?_
  rintro e w' ⟨rfl, hw⟩
  have hw := hw.symm
  subst hw
  go_wp2_with fail
  refine (HL.out w HB.out).mono ?_
  rintro e w1 ⟨rfl, hq⟩
  have HB1 := Lib.hid (HB.out.q hq)
  have HW1 : Hid (Fr (Fp B R P A S) w w1) := Fr.of _ (hq.below _)
  clear hq
  go_wp2
  go_ret2
  exact ⟨rfl, HB1.out, HW1.out⟩

set_option maxHeartbeats 1600000 in
theorem bload_port {B R P C A K Kc : Nat} {S : Nat → Prop} {T Y : Nat → Int} {x : BS} (k : Int) (w : World) (hK : K ≤ 1024) (h : IsBus w B R P C A K S Kc T Y x) (hb : BdB K x.b) (hz : askZ K 1048576 4 = 6) (h0 : ((1048576 : Int) == 1048576) = true) :
    Calls Try.prog 21 #[.pointer (some ⟨B, 0, none⟩), .int .u32 1048576, .int .i64 4, .int .u64 k] w fun e w' => e = .returned (.tuple #[.int .u32 (x.ldV K 1048576 4 k), .int .i64 0]) ∧ IsBus w' B R P C A K S Kc T Y (x.ldS K 1048576 4) ∧ Fr (Fp B R P A S) w w' := by
  have HL : Hid (∀ W, IsBus W B R P C A K S Kc T Y x → Calls Try.prog 40 #[.pointer (some ⟨R, 0, none⟩), .int .u32 1048576, .int .i64 4] W fun e w' => e = .returned (.tuple #[.int .u32 0, .int .i64 6]) ∧ Q W w') := fun W hW => by
    have := mload_any 1048576 4 W hK hW hb (by decide) (by decide)
    rw [hz] at this
    rwa [if_neg (by decide)] at this
  have HB := Lib.hid h
  clear h
  have HDV : Hid (∀ W, IsBus W B R P C A K S Kc T Y x → Calls Try.prog 41 #[.pointer (some ⟨B, 0, none⟩), .int .u32 1048576, .int .i64 4] W fun e w' => e = .returned (.tuple #[portDev B, .bool true]) ∧ Below W.heap.size W w') := fun W hW => device_port 1048576 _ hW.1 h0
  rw [(BS.ld_port (x := x) (K := K) (v := 0) (k := k)).1, (BS.ld_port (x := x) (K := K) (v := 0) (k := k)).2.1]
  clear hz hb h0
  go_enter Try.func21, Try.ntmps21
  go_wp2_with fail
  refine (bram_any w HB.out.1).mono ?_
  rintro e w' ⟨rfl, hw⟩
  have hw := hw.symm
  subst hw
  go_wp2_with fail
  refine (HL.out w HB.out).mono ?_
  rintro e w1 ⟨rfl, hq⟩
  have HB1 := Lib.hid (HB.out.q hq)
  have HW1 : Hid (Fr (Fp B R P A S) w w1) := Fr.of _ (hq.below _)
  clear hq
  go_wp2_with fail
  refine (HDV.out w1 HB1.out).mono ?_
  rintro e w2 ⟨rfl, hb2⟩
  have HB2 := Lib.hid (HB1.out.on hb2)
  have HW2 : Hid (Fr (Fp B R P A S) w w2) := HW1.out.trans (Fr.of _ hb2)
  clear hb2
  have hb3 : Below w2.heap.size w2 (w2.alloc (.cells #[fnV 81, mtV 82 B, mtV 83 B] 89)) := (Below.refl _ _).alloc (Nat.le_refl _) _
  have HB3 := Lib.hid (HB2.out.on hb3)
  have HW3 : Hid (Fr (Fp B R P A S) w (w2.alloc (.cells #[fnV 81, mtV 82 B, mtV 83 B] 89))) := HW2.out.trans (Fr.of _ hb3)
  clear hb3
  go_wp2_with fail
  refine (loadport_any _ _ _ _).mono ?_
  rintro e w' ⟨rfl, hw⟩
  have hw := hw.symm
  subst hw
  go_wp2
  go_ret2
  exact ⟨rfl, HB3.out, HW3.out⟩

set_option maxHeartbeats 1600000 in
theorem bload_con {B R P C A K Kc : Nat} {S : Nat → Prop} {T Y : Nat → Int} {x : BS} (a k : Int) (w : World) (hK : K ≤ 1024) (h : IsBus w B R P C A K S Kc T Y x) (hb : BdB K x.b) (a0 : 0 ≤ a) (a1 : a < 4294967296) (hz : askZ K a 4 = 6) (h0 : (a == 1048576) = false) (h1 : (a == 268435456 || a == 268435460) = true) :
    Calls Try.prog 21 #[.pointer (some ⟨B, 0, none⟩), .int .u32 a, .int .i64 4, .int .u64 k] w fun e w' => e = .returned (.tuple #[.int .u32 (x.ldV K a 4 k), .int .i64 0]) ∧ IsBus w' B R P C A K S Kc T Y (x.ldS K a 4) ∧ Fr (Fp B R P A S) w w' := by
  have hcn : a = 268435456 ∨ a = 268435460 := by simpa using h1
  have HL : Hid (∀ W, IsBus W B R P C A K S Kc T Y x → Calls Try.prog 40 #[.pointer (some ⟨R, 0, none⟩), .int .u32 a, .int .i64 4] W fun e w' => e = .returned (.tuple #[.int .u32 0, .int .i64 6]) ∧ Q W w') := fun W hW => by
    have := mload_any a 4 W hK hW hb a0 a1
    rw [hz] at this
    rwa [if_neg (by decide)] at this
  have HB := Lib.hid h
  clear h
  have HDV : Hid (∀ W, IsBus W B R P C A K S Kc T Y x → Calls Try.prog 41 #[.pointer (some ⟨B, 0, none⟩), .int .u32 a, .int .i64 4] W fun e w' => e = .returned (.tuple #[conDev B, .bool true]) ∧ Below W.heap.size W w') := fun W hW => device_con a _ hW.1 h0 h1
  rw [(BS.ld_con (x := x) (K := K) (v := 0) (k := k) hcn).1, (BS.ld_con (x := x) (K := K) (v := 0) (k := k) hcn).2.1]
  have HP : Hid (∀ W, IsBus W B R P C A K S Kc T Y x → Calls Try.prog 85 #[.pointer (some ⟨B, 0, none⟩), .int .u32 a, .int .u64 k] W fun e w' => e = .returned (.tuple #[.int .u32 (x.s.val (a - 268435456)), .int .i64 0]) ∧ IsBus w' B R P C A K S Kc T Y { x with s := x.s.rd (a - 268435456) } ∧ Fr (Fp B R P A S) W w') := fun W hW => by
    refine (lcon_any a k W hW.1 hcn hW.2.2.1).mono ?_
    rintro e w' ⟨rfl, h1, h2⟩
    exact ⟨rfl, hW.con h1 h2 (Ext.refl _ _), h2.fp⟩
  generalize x.s.val (a - 268435456) = y at *
  clear hz hb h0 h1 hcn
  go_enter Try.func21, Try.ntmps21
  go_wp2_with fail
  refine (bram_any w HB.out.1).mono ?_
  rintro e w' ⟨rfl, hw⟩
  have hw := hw.symm
  subst hw
  go_wp2_with fail
  refine (HL.out w HB.out).mono ?_
  rintro e w1 ⟨rfl, hq⟩
  have HB1 := Lib.hid (HB.out.q hq)
  have HW1 : Hid (Fr (Fp B R P A S) w w1) := Fr.of _ (hq.below _)
  clear hq
  go_wp2_with fail
  refine (HDV.out w1 HB1.out).mono ?_
  rintro e w2 ⟨rfl, hb2⟩
  have HB2 := Lib.hid (HB1.out.on hb2)
  have HW2 : Hid (Fr (Fp B R P A S) w w2) := HW1.out.trans (Fr.of _ hb2)
  clear hb2
  have hb3 : Below w2.heap.size w2 (w2.alloc (.cells #[fnV 84, mtV 85 B, mtV 86 B] 89)) := (Below.refl _ _).alloc (Nat.le_refl _) _
  have HB3 := Lib.hid (HB2.out.on hb3)
  have HW3 : Hid (Fr (Fp B R P A S) w (w2.alloc (.cells #[fnV 84, mtV 85 B, mtV 86 B] 89))) := HW2.out.trans (Fr.of _ hb3)
  clear hb3
  go_wp2_with fail
  refine (HP.out _ HB3.out).mono ?_
  rintro e w4 ⟨rfl, h1, h2⟩
  have HE := Lib.hid (And.intro h1 (HW3.out.trans h2))
  clear h1 h2
  go_wp2
  go_ret2
  exact ⟨rfl, HE.out⟩

set_option maxHeartbeats 1600000 in
theorem bload_tim {B R P C A K Kc : Nat} {S : Nat → Prop} {T Y : Nat → Int} {x : BS} (a k : Int) (w : World) (hK : K ≤ 1024) (h : IsBus w B R P C A K S Kc T Y x) (hb : BdB K x.b) (a0 : 0 ≤ a) (a1 : a < 4294967296) (hz : askZ K a 4 = 6) (h0 : (a == 1048576) = false) (h1 : (a == 268435456 || a == 268435460) = false) (h2 : hasT a = true) (m0 : 0 ≤ x.m) (m1 : x.m < 18446744073709551616) :
    Calls Try.prog 21 #[.pointer (some ⟨B, 0, none⟩), .int .u32 a, .int .i64 4, .int .u64 k] w fun e w' => e = .returned (.tuple #[.int .u32 (x.ldV K a 4 k), .int .i64 0]) ∧ IsBus w' B R P C A K S Kc T Y (x.ldS K a 4) ∧ Fr (Fp B R P A S) w w' := by
  have HL : Hid (∀ W, IsBus W B R P C A K S Kc T Y x → Calls Try.prog 40 #[.pointer (some ⟨R, 0, none⟩), .int .u32 a, .int .i64 4] W fun e w' => e = .returned (.tuple #[.int .u32 0, .int .i64 6]) ∧ Q W w') := fun W hW => by
    have := mload_any a 4 W hK hW hb a0 a1
    rw [hz] at this
    rwa [if_neg (by decide)] at this
  have HB := Lib.hid h
  clear h
  have HDV : Hid (∀ W, IsBus W B R P C A K S Kc T Y x → Calls Try.prog 41 #[.pointer (some ⟨B, 0, none⟩), .int .u32 a, .int .i64 4] W fun e w' => e = .returned (.tuple #[timDev A, .bool true]) ∧ Below W.heap.size W w') := fun W hW => device_tim a _ hW.1 h0 h1 h2
  rw [(BS.ld_tim (x := x) (K := K) (v := 0) (k := k) h2).1, (BS.ld_tim (x := x) (K := K) (v := 0) (k := k) h2).2.1]
  have HP : Hid (∀ W, IsBus W B R P C A K S Kc T Y x → Calls Try.prog 88 #[.pointer (some ⟨A, 0, none⟩), .int .u32 a, .int .u64 k] W fun e w' => e = .returned (.tuple #[.int .u32 (readT x.o x.m x.sf a k), .int .i64 0]) ∧ w' = W) := fun W hW => tread_yes a k W h2 hW.2.2.2.1 m0 m1
  generalize readT x.o x.m x.sf a k = y at *
  clear hz hb h0 h1 h2 m0 m1
  go_enter Try.func21, Try.ntmps21
  go_wp2_with fail
  refine (bram_any w HB.out.1).mono ?_
  rintro e w' ⟨rfl, hw⟩
  have hw := hw.symm
  subst hw
  go_wp2_with fail
  refine (HL.out w HB.out).mono ?_
  rintro e w1 ⟨rfl, hq⟩
  have HB1 := Lib.hid (HB.out.q hq)
  have HW1 : Hid (Fr (Fp B R P A S) w w1) := Fr.of _ (hq.below _)
  clear hq
  go_wp2_with fail
  refine (HDV.out w1 HB1.out).mono ?_
  rintro e w2 ⟨rfl, hb2⟩
  have HB2 := Lib.hid (HB1.out.on hb2)
  have HW2 : Hid (Fr (Fp B R P A S) w w2) := HW1.out.trans (Fr.of _ hb2)
  clear hb2
  have hb3 : Below w2.heap.size w2 (w2.alloc (.cells #[fnV 87, mtV 88 A, mtV 89 A] 89)) := (Below.refl _ _).alloc (Nat.le_refl _) _
  have HB3 := Lib.hid (HB2.out.on hb3)
  have HW3 : Hid (Fr (Fp B R P A S) w (w2.alloc (.cells #[fnV 87, mtV 88 A, mtV 89 A] 89))) := HW2.out.trans (Fr.of _ hb3)
  clear hb3
  go_wp2_with fail
  refine (HP.out _ HB3.out).mono ?_
  rintro e w' ⟨rfl, hw⟩
  have hw := hw.symm
  subst hw
  go_wp2
  go_ret2
  exact ⟨rfl, HB3.out, HW3.out⟩

set_option maxHeartbeats 1600000 in
theorem bload_none {B R P C A K Kc : Nat} {S : Nat → Prop} {T Y : Nat → Int} {x : BS} (a k : Int) (w : World) (hK : K ≤ 1024) (h : IsBus w B R P C A K S Kc T Y x) (hb : BdB K x.b) (a0 : 0 ≤ a) (a1 : a < 4294967296) (hz : askZ K a 4 = 6) (h0 : (a == 1048576) = false) (h1 : (a == 268435456 || a == 268435460) = false) (h2 : hasT a = false) :
    Calls Try.prog 21 #[.pointer (some ⟨B, 0, none⟩), .int .u32 a, .int .i64 4, .int .u64 k] w fun e w' => e = .returned (.tuple #[.int .u32 0, .int .i64 6]) ∧ IsBus w' B R P C A K S Kc T Y x ∧ Fr (Fp B R P A S) w w' := by
  have HL : Hid (∀ W, IsBus W B R P C A K S Kc T Y x → Calls Try.prog 40 #[.pointer (some ⟨R, 0, none⟩), .int .u32 a, .int .i64 4] W fun e w' => e = .returned (.tuple #[.int .u32 0, .int .i64 6]) ∧ Q W w') := fun W hW => by
    have := mload_any a 4 W hK hW hb a0 a1
    rw [hz] at this
    rwa [if_neg (by decide)] at this
  have HB := Lib.hid h
  clear h
  have HDV : Hid (∀ W, IsBus W B R P C A K S Kc T Y x → Calls Try.prog 41 #[.pointer (some ⟨B, 0, none⟩), .int .u32 a, .int .i64 4] W fun e w' => e = .returned (.tuple #[noDev, .bool false]) ∧ Below W.heap.size W w') := fun W hW => device_none a _ hW.1 h0 h1 h2
  clear hz hb h0 h1 h2
  go_enter Try.func21, Try.ntmps21
  go_wp2_with fail
  refine (bram_any w HB.out.1).mono ?_
  rintro e w' ⟨rfl, hw⟩
  have hw := hw.symm
  subst hw
  go_wp2_with fail
  refine (HL.out w HB.out).mono ?_
  rintro e w1 ⟨rfl, hq⟩
  have HB1 := Lib.hid (HB.out.q hq)
  have HW1 : Hid (Fr (Fp B R P A S) w w1) := Fr.of _ (hq.below _)
  clear hq
  go_wp2_with fail
  refine (HDV.out w1 HB1.out).mono ?_
  rintro e w2 ⟨rfl, hb2⟩
  have HB2 := Lib.hid (HB1.out.on hb2)
  have HW2 : Hid (Fr (Fp B R P A S) w w2) := HW1.out.trans (Fr.of _ hb2)
  clear hb2
  have hb3 : Below w2.heap.size w2 (w2.alloc (.cells #[.nilFunc, .nilFunc, .nilFunc] 89)) := (Below.refl _ _).alloc (Nat.le_refl _) _
  have HB3 := Lib.hid (HB2.out.on hb3)
  have HW3 : Hid (Fr (Fp B R P A S) w (w2.alloc (.cells #[.nilFunc, .nilFunc, .nilFunc] 89))) := HW2.out.trans (Fr.of _ hb3)
  clear hb3
  go_wp2
  go_ret2
  exact ⟨rfl, HB3.out, HW3.out⟩

set_option maxHeartbeats 1600000 in
theorem bload_width {B R P C A K Kc : Nat} {S : Nat → Prop} {T Y : Nat → Int} {x : BS} (a n k : Int) (w : World) (hK : K ≤ 1024) (h : IsBus w B R P C A K S Kc T Y x) (hb : BdB K x.b) (a0 : 0 ≤ a) (a1 : a < 4294967296) (hz : askZ K a n = 6) (hn : n ≠ 4) :
    Calls Try.prog 21 #[.pointer (some ⟨B, 0, none⟩), .int .u32 a, .int .i64 n, .int .u64 k] w fun e w' => e = .returned (.tuple #[.int .u32 0, .int .i64 6]) ∧ IsBus w' B R P C A K S Kc T Y x ∧ Fr (Fp B R P A S) w w' := by
  have HL : Hid (∀ W, IsBus W B R P C A K S Kc T Y x → Calls Try.prog 40 #[.pointer (some ⟨R, 0, none⟩), .int .u32 a, .int .i64 n] W fun e w' => e = .returned (.tuple #[.int .u32 0, .int .i64 6]) ∧ Q W w') := fun W hW => by
    have := mload_any a n W hK hW hb a0 a1
    rw [hz] at this
    rwa [if_neg (by decide)] at this
  have HB := Lib.hid h
  clear h
  have HDV : Hid (∀ W, IsBus W B R P C A K S Kc T Y x → Calls Try.prog 41 #[.pointer (some ⟨B, 0, none⟩), .int .u32 a, .int .i64 n] W fun e w' => e = .returned (.tuple #[noDev, .bool false]) ∧ Below W.heap.size W w') := fun W hW => device_width a n _ hW.1 hn
  clear hz hb hn
  go_enter Try.func21, Try.ntmps21
  go_wp2_with fail
  refine (bram_any w HB.out.1).mono ?_
  rintro e w' ⟨rfl, hw⟩
  have hw := hw.symm
  subst hw
  go_wp2_with fail
  refine (HL.out w HB.out).mono ?_
  rintro e w1 ⟨rfl, hq⟩
  have HB1 := Lib.hid (HB.out.q hq)
  have HW1 : Hid (Fr (Fp B R P A S) w w1) := Fr.of _ (hq.below _)
  clear hq
  go_wp2_with fail
  refine (HDV.out w1 HB1.out).mono ?_
  rintro e w2 ⟨rfl, hb2⟩
  have HB2 := Lib.hid (HB1.out.on hb2)
  have HW2 : Hid (Fr (Fp B R P A S) w w2) := HW1.out.trans (Fr.of _ hb2)
  clear hb2
  have hb3 : Below w2.heap.size w2 (w2.alloc (.cells #[.nilFunc, .nilFunc, .nilFunc] 89)) := (Below.refl _ _).alloc (Nat.le_refl _) _
  have HB3 := Lib.hid (HB2.out.on hb3)
  have HW3 : Hid (Fr (Fp B R P A S) w (w2.alloc (.cells #[.nilFunc, .nilFunc, .nilFunc] 89))) := HW2.out.trans (Fr.of _ hb3)
  clear hb3
  go_wp2
  go_ret2
  exact ⟨rfl, HB3.out, HW3.out⟩

/-- Load, of an access that there is. -/
theorem bload_yes {B R P C A K Kc : Nat} {S : Nat → Prop} {T Y : Nat → Int} {x : BS} (a n k : Int) (w : World) (hK : K ≤ 1024) (h : IsBus w B R P C A K S Kc T Y x) (c : Nat) (hb : BsOk K x c) (hc : c ≤ 100000) (a0 : 0 ≤ a) (a1 : a < 4294967296) (hz : ask14 K a n = 0) :
    Calls Try.prog 21 #[.pointer (some ⟨B, 0, none⟩), .int .u32 a, .int .i64 n, .int .u64 k] w fun e w' => e = .returned (.tuple #[.int .u32 (x.ldV K a n k), .int .i64 0]) ∧ IsBus w' B R P C A K S Kc T Y (x.ldS K a n) ∧ Fr (Fp B R P A S) w w' := by
  rcases ask14_zero hz with hz | hz
  · exact bload_mem a n k w hK h hb.1 a0 a1 hz
  · obtain ⟨rfl, hd⟩ := isDev_yes hz
    have h6 := isDev_ask hz
    rcases devB_yes hd with rfl | hd | hd
    · exact bload_port k w hK h hb.1 h6 (by decide)
    · rcases hd with rfl | rfl <;> exact bload_con _ k w hK h hb.1 a0 a1 h6 (by decide) (by decide)
    · exact bload_tim a k w hK h hb.1 a0 a1 h6 (by rcases hasT_yes hd with rfl | rfl | rfl | rfl | rfl <;> decide) (by rcases hasT_yes hd with rfl | rfl | rfl | rfl | rfl <;> decide) hd hb.2.2.1.1 hb.2.2.1.2

/-- Load, of one that there is not. -/
theorem bload_no {B R P C A K Kc : Nat} {S : Nat → Prop} {T Y : Nat → Int} {x : BS} (a n k : Int) (w : World) (hK : K ≤ 1024) (h : IsBus w B R P C A K S Kc T Y x) (c : Nat) (hb : BsOk K x c) (hc : c ≤ 100000) (a0 : 0 ≤ a) (a1 : a < 4294967296) (hz : ask14 K a n ≠ 0) :
    Calls Try.prog 21 #[.pointer (some ⟨B, 0, none⟩), .int .u32 a, .int .i64 n, .int .u64 k] w fun e w' => e = .returned (.tuple #[.int .u32 0, .int .i64 (ask14 K a n)]) ∧ IsBus w' B R P C A K S Kc T Y x ∧ Fr (Fp B R P A S) w w' := by
  have hd : isDev K a n = false := by
    cases hd : isDev K a n
    · rfl
    · exact absurd (by simp [ask14, hd]) hz
  have he : ask14 K a n = askZ K a n := by simp [ask14, hd]
  rw [he] at hz ⊢
  rcases askZ_cases K a n with ⟨_, h1⟩ | ⟨_, _, h1⟩ | ⟨_, _, _, h1⟩ | ⟨_, _, _, h1⟩
  · rw [h1]; exact bload_err2 a n k w hK h hb.1 a0 a1 h1
  · rw [h1]; exact bload_err5 a n k w hK h hb.1 a0 a1 h1
  · rw [h1]
    rcases isDev_no hd with hn | hn
    · exact bload_width a n k w hK h hb.1 a0 a1 h1 hn
    · by_cases h4 : n = 4
      · subst h4
        obtain ⟨⟨d1, d2, d3⟩, d4⟩ := devB_no hn
        exact bload_none a k w hK h hb.1 a0 a1 h1 d1 (by rw [d2, d3]; rfl) d4
      · exact bload_width a n k w hK h hb.1 a0 a1 h1 h4
  · exact absurd h1 hz
end Go.Proofs.Ytkbccccjjlkgbaa
