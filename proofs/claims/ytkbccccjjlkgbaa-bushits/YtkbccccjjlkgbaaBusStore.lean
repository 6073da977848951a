/- Layer 14: Store. (By gen-busgo.py.) -/
import Derived.Test.YtkbccccjjlkgbaaBusGo
namespace Go.Proofs.Ytkbccccjjlkgbaa
open Go.RowKit
set_option linter.unusedVariables false
set_option linter.unusedSimpArgs false
set_option maxRecDepth 100000

set_option maxHeartbeats 800000 in
theorem bstore_nil (a n v k : Int) (w : World) :
    Calls Try.prog 18 #[.pointer none, .int .u32 a, .int .i64 n, .int .u32 v, .int .u64 k] w fun e w' => e = .returned (.tuple #[.bool false, .int .i64 2]) ∧ w' = w := by
  go_enter Try.func18, Try.ntmps18
  go_wp2_with (first | (go_at_call 16; refine (bram_nil _).mono ?_; rintro e w' ⟨rfl, hw⟩; have hw := hw.symm; subst hw) | (go_at_call 46; refine (store_nil _ _ _ _).mono ?_; rintro e w' ⟨rfl, hw⟩; have hw := hw.symm; subst hw))
  go_ret2
  exact ⟨rfl, rfl⟩

/-- What a store into memory does, of whatever access. -/
theorem mstore_any {B R P C A K Kc : Nat} {S : Nat → Prop} {T Y : Nat → Int} {x : BS} (a n v : Int) (w : World) (hK : K ≤ 1024) (h : IsBus w B R P C A K S Kc T Y x) (c : Nat) (hb : BsOk K x c) (hc : c ≤ 100000) (a0 : 0 ≤ a) (a1 : a < 4294967296) (v0 : 0 ≤ v) (v1 : v < 4294967296) :
    Calls Try.prog 46 #[.pointer (some ⟨R, 0, none⟩), .int .u32 a, .int .i64 n, .int .u32 v] w fun e w' => e = .returned (.tuple #[.bool (x.hit K a n), .int .i64 (askZ K a n)]) ∧ IsBus w' B R P C A K S Kc T Y (if askZ K a n = 0 then x.stM a n v else x) ∧ Fr (Fp B R P A S) w w' := by
  by_cases hz : askZ K a n = 0
  · obtain ⟨h1, h2, h3, h4, h5, -⟩ := pl_of hz
    rw [if_pos hz, BS.hit_mem hz, hz]
    have := store_yes R P K (plZ a) n.toNat a v x.b x.wa x.g c w hK h.2.1 hb.2.1 (by omega) h4 (by rw [h5]; exact h1) (by rw [h5]; exact h2) (by rw [h5]; exact h3) v0 v1
    rw [h5] at this
    refine this.mono ?_
    rintro e w' ⟨rfl, hr, hbar⟩
    exact ⟨rfl, h.ram hr hbar, fr_fpP hbar⟩
  · rw [if_neg hz, BS.hit_dev hz]
    refine (store_no R P K a n v w hK h.2.1.ptr a0 a1 hz).mono ?_
    rintro e w' ⟨rfl, rfl⟩
    exact ⟨rfl, h, Fr.refl _ _⟩

set_option maxHeartbeats 1600000 in
theorem bstore_mem {B R P C A K Kc : Nat} {S : Nat → Prop} {T Y : Nat → Int} {x : BS} (a n v k : Int) (w : World) (hK : K ≤ 1024) (h : IsBus w B R P C A K S Kc T Y x) (c : Nat) (hb : BsOk K x c) (hc : c ≤ 100000) (a0 : 0 ≤ a) (a1 : a < 4294967296) (v0 : 0 ≤ v) (v1 : v < 4294967296) (hz : askZ K a n = 0) :
    Calls Try.prog 18 #[.pointer (some ⟨B, 0, none⟩), .int .u32 a, .int .i64 n, .int .u32 v, .int .u64 k] w fun e w' => e = .returned (.tuple #[.bool (x.hit K a n), .int .i64 0]) ∧ ∃ S', IsBus w' B R P C A K S' Kc T Y (x.st K a n v k) ∧ Fr (Fp B R P A S) w w' ∧ Ext w S S' := by
  have HL : Hid (∀ W, IsBus W B R P C A K S Kc T Y x → Calls Try.prog 46 #[.pointer (some ⟨R, 0, none⟩), .int .u32 a, .int .i64 n, .int .u32 v] W fun e w' => e = .returned (.tuple #[.bool (x.hit K a n), .int .i64 0]) ∧ IsBus w' B R P C A K S Kc T Y (x.st K a n v k) ∧ Fr (Fp B R P A S) W w') := fun W hW => by
    have := mstore_any a n v W hK hW c hb hc a0 a1 v0 v1
    rw [hz] at this
    rw [BS.st_mem hz]; rwa [if_pos rfl] at this
  have HB := Lib.hid h
  clear h
  clear hz hb
  generalize x.hit K a n = y at *
  generalize x.st K a n v k = x' at *
  go_enter Try.func18, Try.ntmps18
  go_wp2_with fail
  refine (bram_any w HB.out.1).mono ?_
  rintro e w' ⟨rfl, hw⟩
  have hw := hw.symm
  subst hw
  go_wp2_with fail
  refine (HL.out w HB.out).mono ?_
  rintro e w1 ⟨rfl, hb1, hf1⟩
  have HB1 := Lib.hid hb1
  have HW1 := Lib.hid hf1
  clear hb1 hf1
  go_wp2
  go_ret2
  exact ⟨rfl, S, HB1.out, HW1.out, Ext.refl _ _⟩

set_option maxHeartbeats 1600000 in
theorem bstore_err2 {B R P C A K Kc : Nat} {S : Nat → Prop} {T Y : Nat → Int} {x : BS} (a n v k : Int) (w : World) (hK : K ≤ 1024) (h : IsBus w B R P C A K S Kc T Y x) (c : Nat) (hb : BsOk K x c) (hc : c ≤ 100000) (a0 : 0 ≤ a) (a1 : a < 4294967296) (v0 : 0 ≤ v) (v1 : v < 4294967296) (hz : askZ K a n = 2) :
    Calls Try.prog 18 #[.pointer (some ⟨B, 0, none⟩), .int .u32 a, .int .i64 n, .int .u32 v, .int .u64 k] w fun e w' => e = .returned (.tuple #[.bool false, .int .i64 2]) ∧ IsBus w' B R P C A K S Kc T Y x ∧ Fr (Fp B R P A S) w w' := by
  have HL : Hid (∀ W, IsBus W B R P C A K S Kc T Y x → Calls Try.prog 46 #[.pointer (some ⟨R, 0, none⟩), .int .u32 a, .int .i64 n, .int .u32 v] W fun e w' => e = .returned (.tuple #[.bool false, .int .i64 2]) ∧ IsBus w' B R P C A K S Kc T Y x ∧ Fr (Fp B R P A S) W w') := fun W hW => by
    have := mstore_any a n v W hK hW c hb hc a0 a1 v0 v1
    rw [hz] at this
    rwa [if_neg (by decide), BS.hit_dev (by rw [hz]; decide)] at this
  have HB := Lib.hid h
  clear h
  clear hz hb
  go_enter Try.func18, Try.ntmps18
  go_wp2_with fail
  refine (bram_any w HB.out.1).mono ?_
  rintro e w' ⟨rfl, hw⟩
  have hw := hw.symm
  subst hw
  go_wp2_with fail
  refine (HL.out w HB.out).mono ?_
  rintro e w1 ⟨rfl, hb1, hf1⟩
  have HB1 := Lib.hid hb1
  have HW1 := Lib.hid hf1
  clear hb1 hf1
  go_wp2
  go_ret2
  exact ⟨rfl, HB1.out, HW1.out⟩

set_option maxHeartbeats 1600000 in
theorem bstore_err5 {B R P C A K Kc : Nat} {S : Nat → Prop} {T Y : Nat → Int} {x : BS} (a n v k : Int) (w : World) (hK : K ≤ 1024) (h : IsBus w B R P C A K S Kc T Y x) (c : Nat) (hb : BsOk K x c) (hc : c ≤ 100000) (a0 : 0 ≤ a) (a1 : a < 4294967296) (v0 : 0 ≤ v) (v1 : v < 4294967296) (hz : askZ K a n = 5) :
    Calls Try.prog 18 #[.pointer (some ⟨B, 0, none⟩), .int .u32 a, .int .i64 n, .int .u32 v, .int .u64 k] w fun e w' => e = .returned (.tuple #[.bool false, .int .i64 5]) ∧ IsBus w' B R P C A K S Kc T Y x ∧ Fr (Fp B R P A S) w w' := by
  have HL : Hid (∀ W, IsBus W B R P C A K S Kc T Y x → Calls Try.prog 46 #[.pointer (some ⟨R, 0, none⟩), .int .u32 a, .int .i64 n, .int .u32 v] W fun e w' => e = .returned (.tuple #[.bool false, .int .i64 5]) ∧ IsBus w' B R P C A K S Kc T Y x ∧ Fr (Fp B R P A S) W w') := fun W hW => by
    have := mstore_any a n v W hK hW c hb hc a0 a1 v0 v1
    rw [hz] at this
    rwa [if_neg (by decide), BS.hit_dev (by rw [hz]; decide)] at this
  have HB := Lib.hid h
  clear h
  clear hz hb
  go_enter Try.func18, Try.ntmps18
  go_wp2_with fail
  refine (bram_any w HB.out.1).mono ?_
  rintro e w' ⟨rfl, hw⟩
  have hw := hw.symm
  subst hw
  go_wp2_with fail
  refine (HL.out w HB.out).mono ?_
  rintro e w1 ⟨rfl, hb1, hf1⟩
  have HB1 := Lib.hid hb1
  have HW1 := Lib.hid hf1
  clear hb1 hf1
  go_wp2
  go_ret2
  exact ⟨rfl, HB1.out, HW1.out⟩

set_option maxHeartbeats 1600000 in
theorem bstore_port {B R P C A K Kc : Nat} {S : Nat → Prop} {T Y : Nat → Int} {x : BS} (v k : Int) (w : World) (hK : K ≤ 1024) (h : IsBus w B R P C A K S Kc T Y x) (c : Nat) (hb : BsOk K x c) (hc : c ≤ 100000) (v0 : 0 ≤ v) (v1 : v < 4294967296) (hz : askZ K 1048576 4 = 6) (h0 : ((1048576 : Int) == 1048576) = true) :
    Calls Try.prog 18 #[.pointer (some ⟨B, 0, none⟩), .int .u32 1048576, .int .i64 4, .int .u32 v, .int .u64 k] w fun e w' => e = .returned (.tuple #[.bool (x.hit K 1048576 4), .int .i64 0]) ∧ ∃ S', IsBus w' B R P C A K S' Kc T Y (x.st K 1048576 4 v k) ∧ Fr (Fp B R P A S) w w' ∧ Ext w S S' := by
  have HL : Hid (∀ W, IsBus W B R P C A K S Kc T Y x → Calls Try.prog 46 #[.pointer (some ⟨R, 0, none⟩), .int .u32 1048576, .int .i64 4, .int .u32 v] W fun e w' => e = .returned (.tuple #[.bool false, .int .i64 6]) ∧ IsBus w' B R P C A K S Kc T Y x ∧ Fr (Fp B R P A S) W w') := fun W hW => by
    have := mstore_any 1048576 4 v W hK hW c hb hc (by decide) (by decide) v0 v1
    rw [hz] at this
    rwa [if_neg (by decide), BS.hit_dev (by rw [hz]; decide)] at this
  have HB := Lib.hid h
  clear h
  rw [BS.hit_dev (by rw [hz]; decide)]
  have HDV : Hid (∀ W, IsBus W B R P C A K S Kc T Y x → Calls Try.prog 41 #[.pointer (some ⟨B, 0, none⟩), .int .u32 1048576, .int .i64 4] W fun e w' => e = .returned (.tuple #[portDev B, .bool true]) ∧ Below W.heap.size W w') := fun W hW => device_port 1048576 _ hW.1 h0
  rw [(BS.ld_port (x := x) (K := K) (v := v) (k := k)).2.2]
  clear hz hb h0
  go_enter Try.func18, Try.ntmps18
  go_wp2_with fail
  refine (bram_any w HB.out.1).mono ?_
  rintro e w' ⟨rfl, hw⟩
  have hw := hw.symm
  subst hw
  go_wp2_with fail
  refine (HL.out w HB.out).mono ?_
  rintro e w1 ⟨rfl, hb1, hf1⟩
  have HB1 := Lib.hid hb1
  have HW1 := Lib.hid hf1
  clear hb1 hf1
  go_wp2_with fail
  refine (HDV.out w1 HB1.out).mono ?_
  rintro e w2 ⟨rfl, hb2⟩
  have HB2 := Lib.hid (HB1.out.on hb2)
  have HW2 : Hid (Fr (Fp B R P A S) w w2) := HW1.out.trans (Fr.of _ hb2)
  clear hb2
  have hb3 : Below w2.heap.size w2 (w2.alloc (.cells #[fnV 81, mtV 82 B, mtV 83 B] 89)) := (Below.refl _ _).alloc (Nat.le_refl _) _
  have HB3 := Lib.hid (HB2.out.on hb3)
  have HW3 : Hid (Fr (Fp B R P A S) w (w2.alloc (.cells #[fnV 81, mtV 82 B, mtV 83 B] 89))) := HW2.out.trans (Fr.of _ hb3)
  clear hb3
  go_wp2_with fail
  refine (storeport_any _ _ _ _ HB3.out.1).mono ?_
  rintro e w4 ⟨rfl, h1, h2⟩
  have HE := Lib.hid (And.intro (HB3.out.port h1 h2) (HW3.out.trans (fr_fpB h2)))
  clear h1 h2
  go_wp2
  go_ret2
  exact ⟨rfl, S, HE.out.1, HE.out.2, Ext.refl _ _⟩

set_option maxHeartbeats 1600000 in
theorem bstore_con {B R P C A K Kc : Nat} {S : Nat → Prop} {T Y : Nat → Int} {x : BS} (a v k : Int) (w : World) (hK : K ≤ 1024) (h : IsBus w B R P C A K S Kc T Y x) (c : Nat) (hb : BsOk K x c) (hc : c ≤ 100000) (a0 : 0 ≤ a) (a1 : a < 4294967296) (v0 : 0 ≤ v) (v1 : v < 4294967296) (hz : askZ K a 4 = 6) (h0 : (a == 1048576) = false) (h1 : (a == 268435456 || a == 268435460) = true) :
    Calls Try.prog 18 #[.pointer (some ⟨B, 0, none⟩), .int .u32 a, .int .i64 4, .int .u32 v, .int .u64 k] w fun e w' => e = .returned (.tuple #[.bool (x.hit K a 4), .int .i64 0]) ∧ ∃ S', IsBus w' B R P C A K S' Kc T Y (x.st K a 4 v k) ∧ Fr (Fp B R P A S) w w' ∧ Ext w S S' := by
  have hcn : a = 268435456 ∨ a = 268435460 := by simpa using h1
  have HL : Hid (∀ W, IsBus W B R P C A K S Kc T Y x → Calls Try.prog 46 #[.pointer (some ⟨R, 0, none⟩), .int .u32 a, .int .i64 4, .int .u32 v] W fun e w' => e = .returned (.tuple #[.bool false, .int .i64 6]) ∧ IsBus w' B R P C A K S Kc T Y x ∧ Fr (Fp B R P A S) W w') := fun W hW => by
    have := mstore_any a 4 v W hK hW c hb hc a0 a1 v0 v1
    rw [hz] at this
    rwa [if_neg (by decide), BS.hit_dev (by rw [hz]; decide)] at this
  have HB := Lib.hid h
  clear h
  rw [BS.hit_dev (by rw [hz]; decide)]
  have HDV : Hid (∀ W, IsBus W B R P C A K S Kc T Y x → Calls Try.prog 41 #[.pointer (some ⟨B, 0, none⟩), .int .u32 a, .int .i64 4] W fun e w' => e = .returned (.tuple #[conDev B, .bool true]) ∧ Below W.heap.size W w') := fun W hW => device_con a _ hW.1 h0 h1
  rw [(BS.ld_con (x := x) (K := K) (v := v) (k := k) hcn).2.2]
  have HP : Hid (∀ W, IsBus W B R P C A K S Kc T Y x → Calls Try.prog 86 #[.pointer (some ⟨B, 0, none⟩), .int .u32 a, .int .u32 v, .int .u64 k] W fun e w' => e = .returned (.int .i64 0) ∧ ∃ S', IsBus w' B R P C A K S' Kc T Y { x with s := x.s.wr (a - 268435456) v } ∧ Fr (Fp B R P A S) W w' ∧ Ext W S S') := fun W hW => by
    refine (scon_any a v k W hW.1 hcn (by have := hb.2.2.2; omega) hW.2.2.1).mono ?_
    rintro e w' ⟨rfl, S', h1, h2, h3⟩
    exact ⟨rfl, S', hW.con h1 h2 h3, h2.fp, h3⟩
  clear hz hb h0 h1 hcn
  go_enter Try.func18, Try.ntmps18
  go_wp2_with fail
  refine (bram_any w HB.out.1).mono ?_
  rintro e w' ⟨rfl, hw⟩
  have hw := hw.symm
  subst hw
  go_wp2_with fail
  refine (HL.out w HB.out).mono ?_
  rintro e w1 ⟨rfl, hb1, hf1⟩
  have HB1 := Lib.hid hb1
  have HW1 := Lib.hid hf1
  clear hb1 hf1
  go_wp2_with fail
  refine (HDV.out w1 HB1.out).mono ?_
  rintro e w2 ⟨rfl, hb2⟩
  have HB2 := Lib.hid (HB1.out.on hb2)
  have HW2 : Hid (Fr (Fp B R P A S) w w2) := HW1.out.trans (Fr.of _ hb2)
  clear hb2
  have hb3 : Below w2.heap.size w2 (w2.alloc (.cells #[fnV 84, mtV 85 B, mtV 86 B] 89)) := (Below.refl _ _).alloc (Nat.le_refl _) _
  have HB3 := Lib.hid (HB2.out.on hb3)
  have HW3 : Hid (Fr (Fp B R P A S) w (w2.alloc (.cells #[fnV 84, mtV 85 B, mtV 86 B] 89))) := HW2.out.trans (Fr.of _ hb3)
  clear hb3
  go_wp2_with fail
  refine (HP.out _ HB3.out).mono ?_
  rintro e w4 ⟨rfl, S', h1, h2, h3⟩
  have HE := Lib.hid (And.intro h1 (And.intro (HW3.out.trans h2) (show Ext w S S' from fun q hq => by rcases h3 q hq with e | e; exact .inl e; exact .inr (Nat.le_trans HW3.out.size e))))
  clear h1 h2 h3
  go_wp2
  go_ret2
  exact ⟨rfl, S', HE.out⟩

set_option maxHeartbeats 1600000 in
theorem bstore_tim {B R P C A K Kc : Nat} {S : Nat → Prop} {T Y : Nat → Int} {x : BS} (a v k : Int) (w : World) (hK : K ≤ 1024) (h : IsBus w B R P C A K S Kc T Y x) (c : Nat) (hb : BsOk K x c) (hc : c ≤ 100000) (a0 : 0 ≤ a) (a1 : a < 4294967296) (v0 : 0 ≤ v) (v1 : v < 4294967296) (hz : askZ K a 4 = 6) (h0 : (a == 1048576) = false) (h1 : (a == 268435456 || a == 268435460) = false) (h2 : hasT a = true) :
    Calls Try.prog 18 #[.pointer (some ⟨B, 0, none⟩), .int .u32 a, .int .i64 4, .int .u32 v, .int .u64 k] w fun e w' => e = .returned (.tuple #[.bool (x.hit K a 4), .int .i64 0]) ∧ ∃ S', IsBus w' B R P C A K S' Kc T Y (x.st K a 4 v k) ∧ Fr (Fp B R P A S) w w' ∧ Ext w S S' := by
  have HL : Hid (∀ W, IsBus W B R P C A K S Kc T Y x → Calls Try.prog 46 #[.pointer (some ⟨R, 0, none⟩), .int .u32 a, .int .i64 4, .int .u32 v] W fun e w' => e = .returned (.tuple #[.bool false, .int .i64 6]) ∧ IsBus w' B R P C A K S Kc T Y x ∧ Fr (Fp B R P A S) W w') := fun W hW => by
    have := mstore_any a 4 v W hK hW c hb hc a0 a1 v0 v1
    rw [hz] at this
    rwa [if_neg (by decide), BS.hit_dev (by rw [hz]; decide)] at this
  have HB := Lib.hid h
  clear h
  rw [BS.hit_dev (by rw [hz]; decide)]
  have HDV : Hid (∀ W, IsBus W B R P C A K S Kc T Y x → Calls Try.prog 41 #[.pointer (some ⟨B, 0, none⟩), .int .u32 a, .int .i64 4] W fun e w' => e = .returned (.tuple #[timDev A, .bool true]) ∧ Below W.heap.size W w') := fun W hW => device_tim a _ hW.1 h0 h1 h2
  rw [(BS.ld_tim (x := x) (K := K) (v := v) (k := k) h2).2.2]
  have HP : Hid (∀ W, IsBus W B R P C A K S Kc T Y x → Calls Try.prog 89 #[.pointer (some ⟨A, 0, none⟩), .int .u32 a, .int .u32 v, .int .u64 k] W fun e w' => e = .returned (.int .i64 0) ∧ IsBus w' B R P C A K S Kc T Y { x with o := wO x.o a v k, m := wM x.m a v, sf := wS x.sf a v } ∧ Fr (Fp B R P A S) W w') := fun W hW => by
    refine (twrite_yes a v k W h2 hW.2.2.2.1 hb.2.2.1.1 hb.2.2.1.2 v0 v1).mono ?_
    rintro e w' ⟨rfl, h1, h2⟩
    exact ⟨rfl, hW.tim h1 h2, fr_fpA h2⟩
  clear hz hb h0 h1 h2
  go_enter Try.func18, Try.ntmps18
  go_wp2_with fail
  refine (bram_any w HB.out.1).mono ?_
  rintro e w' ⟨rfl, hw⟩
  have hw := hw.symm
  subst hw
  go_wp2_with fail
  refine (HL.out w HB.out).mono ?_
  rintro e w1 ⟨rfl, hb1, hf1⟩
  have HB1 := Lib.hid hb1
  have HW1 := Lib.hid hf1
  clear hb1 hf1
  go_wp2_with fail
  refine (HDV.out w1 HB1.out).mono ?_
  rintro e w2 ⟨rfl, hb2⟩
  have HB2 := Lib.hid (HB1.out.on hb2)
  have HW2 : Hid (Fr (Fp B R P A S) w w2) := HW1.out.trans (Fr.of _ hb2)
  clear hb2
  have hb3 : Below w2.heap.size w2 (w2.alloc (.cells #[fnV 87, mtV 88 A, mtV 89 A] 89)) := (Below.refl _ _).alloc (Nat.le_refl _) _
  have HB3 := Lib.hid (HB2.out.on hb3)
  have HW3 : Hid (Fr (Fp B R P A S) w (w2.alloc (.cells #[fnV 87, mtV 88 A, mtV 89 A] 89))) := HW2.out.trans (Fr.of _ hb3)
  clear hb3
  go_wp2_with fail
  refine (HP.out _ HB3.out).mono ?_
  rintro e w4 ⟨rfl, h1, h2⟩
  have HE := Lib.hid (And.intro h1 (HW3.out.trans h2))
  clear h1 h2
  go_wp2
  go_ret2
  exact ⟨rfl, S, HE.out.1, HE.out.2, Ext.refl _ _⟩

set_option maxHeartbeats 1600000 in
theorem bstore_none {B R P C A K Kc : Nat} {S : Nat → Prop} {T Y : Nat → Int} {x : BS} (a v k : Int) (w : World) (hK : K ≤ 1024) (h : IsBus w B R P C A K S Kc T Y x) (c : Nat) (hb : BsOk K x c) (hc : c ≤ 100000) (a0 : 0 ≤ a) (a1 : a < 4294967296) (v0 : 0 ≤ v) (v1 : v < 4294967296) (hz : askZ K a 4 = 6) (h0 : (a == 1048576) = false) (h1 : (a == 268435456 || a == 268435460) = false) (h2 : hasT a = false) :
    Calls Try.prog 18 #[.pointer (some ⟨B, 0, none⟩), .int .u32 a, .int .i64 4, .int .u32 v, .int .u64 k] w fun e w' => e = .returned (.tuple #[.bool false, .int .i64 6]) ∧ IsBus w' B R P C A K S Kc T Y x ∧ Fr (Fp B R P A S) w w' := by
  have HL : Hid (∀ W, IsBus W B R P C A K S Kc T Y x → Calls Try.prog 46 #[.pointer (some ⟨R, 0, none⟩), .int .u32 a, .int .i64 4, .int .u32 v] W fun e w' => e = .returned (.tuple #[.bool false, .int .i64 6]) ∧ IsBus w' B R P C A K S Kc T Y x ∧ Fr (Fp B R P A S) W w') := fun W hW => by
    have := mstore_any a 4 v W hK hW c hb hc a0 a1 v0 v1
    rw [hz] at this
    rwa [if_neg (by decide), BS.hit_dev (by rw [hz]; decide)] at this
  have HB := Lib.hid h
  clear h
  have HDV : Hid (∀ W, IsBus W B R P C A K S Kc T Y x → Calls Try.prog 41 #[.pointer (some ⟨B, 0, none⟩), .int .u32 a, .int .i64 4] W fun e w' => e = .returned (.tuple #[noDev, .bool false]) ∧ Below W.heap.size W w') := fun W hW => device_none a _ hW.1 h0 h1 h2
  clear hz hb h0 h1 h2
  go_enter Try.func18, Try.ntmps18
  go_wp2_with fail
  refine (bram_any w HB.out.1).mono ?_
  rintro e w' ⟨rfl, hw⟩
  have hw := hw.symm
  subst hw
  go_wp2_with fail
  refine (HL.out w HB.out).mono ?_
  rintro e w1 ⟨rfl, hb1, hf1⟩
  have HB1 := Lib.hid hb1
  have HW1 := Lib.hid hf1
  clear hb1 hf1
  go_wp2_with fail
  refine (HDV.out w1 HB1.out).mono ?_
  rintro e w2 ⟨rfl, hb2⟩
  have HB2 := Lib.hid (HB1.out.on hb2)
  have HW2 : Hid (Fr (Fp B R P A S) w w2) := HW1.out.trans (Fr.of _ hb2)
  clear hb2
  have hb3 : Below w2.heap.size w2 (w2.alloc (.cells #[.nilFunc, .nilFunc, .nilFunc] 89)) := (Below.refl _ _).alloc (Nat.le_refl _) _
  have HB3 := Lib.hid (HB2.out.on hb3)
  have HW3 : Hid (Fr (Fp B R P A S) w (w2.alloc (.cells #[.nilFunc, .nilFunc, .nilFunc] 89))) := HW2.out.trans (Fr.of _ hb3)
  clear hb3
  go_wp2
  go_ret2
  exact ⟨rfl, HB3.out, HW3.out⟩

set_option maxHeartbeats 1600000 in
theorem bstore_width {B R P C A K Kc : Nat} {S : Nat → Prop} {T Y : Nat → Int} {x : BS} (a n v k : Int) (w : World) (hK : K ≤ 1024) (h : IsBus w B R P C A K S Kc T Y x) (c : Nat) (hb : BsOk K x c) (hc : c ≤ 100000) (a0 : 0 ≤ a) (a1 : a < 4294967296) (v0 : 0 ≤ v) (v1 : v < 4294967296) (hz : askZ K a n = 6) (hn : n ≠ 4) :
    Calls Try.prog 18 #[.pointer (some ⟨B, 0, none⟩), .int .u32 a, .int .i64 n, .int .u32 v, .int .u64 k] w fun e w' => e = .returned (.tuple #[.bool false, .int .i64 6]) ∧ IsBus w' B R P C A K S Kc T Y x ∧ Fr (Fp B R P A S) w w' := by
  have HL : Hid (∀ W, IsBus W B R P C A K S Kc T Y x → Calls Try.prog 46 #[.pointer (some ⟨R, 0, none⟩), .int .u32 a, .int .i64 n, .int .u32 v] W fun e w' => e = .returned (.tuple #[.bool false, .int .i64 6]) ∧ IsBus w' B R P C A K S Kc T Y x ∧ Fr (Fp B R P A S) W w') := fun W hW => by
    have := mstore_any a n v W hK hW c hb hc a0 a1 v0 v1
    rw [hz] at this
    rwa [if_neg (by decide), BS.hit_dev (by rw [hz]; decide)] at this
  have HB := Lib.hid h
  clear h
  have HDV : Hid (∀ W, IsBus W B R P C A K S Kc T Y x → Calls Try.prog 41 #[.pointer (some ⟨B, 0, none⟩), .int .u32 a, .int .i64 n] W fun e w' => e = .returned (.tuple #[noDev, .bool false]) ∧ Below W.heap.size W w') := fun W hW => device_width a n _ hW.1 hn
  clear hz hb hn
  go_enter Try.func18, Try.ntmps18
  go_wp2_with fail
  refine (bram_any w HB.out.1).mono ?_
  rintro e w' ⟨rfl, hw⟩
  have hw := hw.symm
  subst hw
  go_wp2_with fail
  refine (HL.out w HB.out).mono ?_
  rintro e w1 ⟨rfl, hb1, hf1⟩
  have HB1 := Lib.hid hb1
  have HW1 := Lib.hid hf1
  clear hb1 hf1
  go_wp2_with fail
  refine (HDV.out w1 HB1.out).mono ?_
  rintro e w2 ⟨rfl, hb2⟩
  have HB2 := Lib.hid (HB1.out.on hb2)
  have HW2 : Hid (Fr (Fp B R P A S) w w2) := HW1.out.trans (Fr.of _ hb2)
  clear hb2
  have hb3 : Below w2.heap.size w2 (w2.alloc (.cells #[.nilFunc, .nilFunc, .nilFunc] 89)) := (Below.refl _ _).alloc (Nat.le_refl _) _
  have HB3 := Lib.hid (HB2.out.on hb3)
  have HW3 : Hid (Fr (Fp B R P A S) w (w2.alloc (.cells #[.nilFunc, .nilFunc, .nilFunc] 89))) := HW2.out.trans (Fr.of _ hb3)
  clear hb3
  go_wp2
  go_ret2
  exact ⟨rfl, HB3.out, HW3.out⟩

/-- Store, of an access that there is. -/
theorem bstore_yes {B R P C A K Kc : Nat} {S : Nat → Prop} {T Y : Nat → Int} {x : BS} (a n v k : Int) (w : World) (hK : K ≤ 1024) (h : IsBus w B R P C A K S Kc T Y x) (c : Nat) (hb : BsOk K x c) (hc : c ≤ 100000) (a0 : 0 ≤ a) (a1 : a < 4294967296) (v0 : 0 ≤ v) (v1 : v < 4294967296) (hz : ask14 K a n = 0) :
    Calls Try.prog 18 #[.pointer (some ⟨B, 0, none⟩), .int .u32 a, .int .i64 n, .int .u32 v, .int .u64 k] w fun e w' => e = .returned (.tuple #[.bool (x.hit K a n), .int .i64 0]) ∧ ∃ S', IsBus w' B R P C A K S' Kc T Y (x.st K a n v k) ∧ Fr (Fp B R P A S) w w' ∧ Ext w S S' := by
  rcases ask14_zero hz with hz | hz
  · exact bstore_mem a n v k w hK h c hb hc a0 a1 v0 v1 hz
  · obtain ⟨rfl, hd⟩ := isDev_yes hz
    have h6 := isDev_ask hz
    rcases devB_yes hd with rfl | hd | hd
    · exact bstore_port v k w hK h c hb hc v0 v1 h6 (by decide)
    · rcases hd with rfl | rfl <;> exact bstore_con _ v k w hK h c hb hc a0 a1 v0 v1 h6 (by decide) (by decide)
    · exact bstore_tim a v k w hK h c hb hc a0 a1 v0 v1 h6 (by rcases hasT_yes hd with rfl | rfl | rfl | rfl | rfl <;> decide) (by rcases hasT_yes hd with rfl | rfl | rfl | rfl | rfl <;> decide) hd

/-- Store, of one that there is not. -/
theorem bstore_no {B R P C A K Kc : Nat} {S : Nat → Prop} {T Y : Nat → Int} {x : BS} (a n v k : Int) (w : World) (hK : K ≤ 1024) (h : IsBus w B R P C A K S Kc T Y x) (c : Nat) (hb : BsOk K x c) (hc : c ≤ 100000) (a0 : 0 ≤ a) (a1 : a < 4294967296) (v0 : 0 ≤ v) (v1 : v < 4294967296) (hz : ask14 K a n ≠ 0) :
    Calls Try.prog 18 #[.pointer (some ⟨B, 0, none⟩), .int .u32 a, .int .i64 n, .int .u32 v, .int .u64 k] w fun e w' => e = .returned (.tuple #[.bool false, .int .i64 (ask14 K a n)]) ∧ IsBus w' B R P C A K S Kc T Y x ∧ Fr (Fp B R P A S) w w' := by
  have hd : isDev K a n = false := by
    cases hd : isDev K a n
    · rfl
    · exact absurd (by simp [ask14, hd]) hz
  have he : ask14 K a n = askZ K a n := by simp [ask14, hd]
  rw [he] at hz ⊢
  rcases askZ_cases K a n with ⟨_, h1⟩ | ⟨_, _, h1⟩ | ⟨_, _, _, h1⟩ | ⟨_, _, _, h1⟩
  · rw [h1]; exact bstore_err2 a n v k w hK h c hb hc a0 a1 v0 v1 h1
  · rw [h1]; exact bstore_err5 a n v k w hK h c hb hc a0 a1 v0 v1 h1
  · rw [h1]
    rcases isDev_no hd with hn | hn
    · exact bstore_width a n v k w hK h c hb hc a0 a1 v0 v1 h1 hn
    · by_cases h4 : n = 4
      · subst h4
        obtain ⟨⟨d1, d2, d3⟩, d4⟩ := devB_no hn
        exact bstore_none a v k w hK h c hb hc a0 a1 v0 v1 h1 d1 (by rw [d2, d3]; rfl) d4
      · exact bstore_width a n v k w hK h c hb hc a0 a1 v0 v1 h1 h4
  · exact absurd h1 hz
end Go.Proofs.Ytkbccccjjlkgbaa
