/- Layer 14: what reaches the console; Class. (By gen-busgo.py.) -/
import Derived.Test.YtkbccccjjlkgbaaBusSt
namespace Go.Proofs.Ytkbccccjjlkgbaa
open Go.RowKit
set_option linter.unusedVariables false
set_option linter.unusedSimpArgs false
set_option maxRecDepth 100000

set_option maxHeartbeats 400000 in
theorem lcon_any {B R C A K : Nat} {off : Bool} {code : Int} {S : Nat → Prop} {T Y : Nat → Int} {s : CS} (a k : Int) (w : World) (hb : BusC w B R C A off code) (ha : a = 268435456 ∨ a = 268435460) (h : IsCon w C S K T Y s) :
    Calls Try.prog 85 #[.pointer (some ⟨B, 0, none⟩), .int .u32 a, .int .u64 k] w fun e w' => e = .returned (.tuple #[.int .u32 (s.val (a - 268435456)), .int .i64 0]) ∧ IsCon w' C S K T Y (s.rd (a - 268435456)) ∧ Fr S w w' := by
  have HR : Hid (∀ W, IsCon W C S K T Y s → Calls Try.prog 92 #[.pointer (some ⟨C, 0, none⟩), .int .i64 (a - 268435456)] W fun e w' => e = .returned (.tuple #[.int .u32 (s.val (a - 268435456)), .int .i64 0]) ∧ IsCon w' C S K T Y (s.rd (a - 268435456)) ∧ Fr S W w') := fun W hW => cread_yes (a - 268435456) W (by omega) hW
  have HC := Lib.hid h
  obtain ⟨⟨q0, q1, q2, q3, q4⟩, -⟩ := five_cells hb
  clear hb h
  rcases ha with rfl | rfl
  all_goals
    go_enter Try.func85, Try.ntmps85
    go_wp2_with fail
    refine (HR.out w HC.out).mono ?_
    rintro e w1 ⟨rfl, h1, h2⟩
    have H := Lib.hid (And.intro h1 h2)
    clear h1 h2
    go_wp2
    go_ret2
    exact ⟨rfl, H.out⟩

set_option maxHeartbeats 400000 in
theorem scon_any {B R C A K : Nat} {off : Bool} {code : Int} {S : Nat → Prop} {T Y : Nat → Int} {s : CS} (a v k : Int) (w : World) (hb : BusC w B R C A off code) (ha : a = 268435456 ∨ a = 268435460) (hm : s.m ≤ 100000) (h : IsCon w C S K T Y s) :
    Calls Try.prog 86 #[.pointer (some ⟨B, 0, none⟩), .int .u32 a, .int .u32 v, .int .u64 k] w fun e w' => e = .returned (.int .i64 0) ∧ ∃ S', IsCon w' C S' K T Y (s.wr (a - 268435456) v) ∧ Fr S w w' ∧ Ext w S S' := by
  have HR : Hid (∀ W, IsCon W C S K T Y s → Calls Try.prog 93 #[.pointer (some ⟨C, 0, none⟩), .int .i64 (a - 268435456), .int .u32 v] W fun e w' => e = .returned (.int .i64 0) ∧ ∃ S', IsCon w' C S' K T Y (s.wr (a - 268435456) v) ∧ Fr S W w' ∧ Ext W S S') := fun W hW => cwrite_yes (a - 268435456) v W (by omega) hm hW
  have HC := Lib.hid h
  obtain ⟨⟨q0, q1, q2, q3, q4⟩, -⟩ := five_cells hb
  clear hb h hm
  rcases ha with rfl | rfl
  all_goals
    go_enter Try.func86, Try.ntmps86
    go_wp2_with fail
    refine (HR.out w HC.out).mono ?_
    rintro e w1 ⟨rfl, h1⟩
    have H := Lib.hid h1
    clear h1
    go_wp2
    go_ret
    exact ⟨rfl, H.out⟩

set_option maxHeartbeats 800000 in
theorem class_nil (a n : Int) (w : World) :
    Calls Try.prog 14 #[.pointer none, .int .u32 a, .int .i64 n] w fun e w' => e = .returned (.int .i64 0) ∧ w' = w := by
  go_enter Try.func14, Try.ntmps14
  go_wp2_with (first | (go_at_call 16; refine (bram_nil _).mono ?_; rintro e w' ⟨rfl, hw⟩; have hw := hw.symm; subst hw) | (go_at_call 40; refine (load_nil _ _ _).mono ?_; rintro e w' ⟨rfl, hw⟩; have hw := hw.symm; subst hw))
  go_ret
  exact ⟨rfl, rfl⟩

/-- What the memory says, of whatever access. -/
theorem mload_any {B R P C A K Kc : Nat} {S : Nat → Prop} {T Y : Nat → Int} {x : BS} (a n : Int) (w : World) (hK : K ≤ 1024) (h : IsBus w B R P C A K S Kc T Y x) (hb : BdB K x.b) (a0 : 0 ≤ a) (a1 : a < 4294967296) :
    Calls Try.prog 40 #[.pointer (some ⟨R, 0, none⟩), .int .u32 a, .int .i64 n] w fun e w' => e = .returned (.tuple #[.int .u32 (if askZ K a n = 0 then numTo (fun i => x.b (plZ a + i)) n.toNat else 0), .int .i64 (askZ K a n)]) ∧ Q w w' := by
  by_cases hz : askZ K a n = 0
  · obtain ⟨h1, h2, h3, h4, h5, -⟩ := pl_of hz
    rw [if_pos hz, hz]
    have := load_yes R P K (plZ a) n.toNat a x.b x.wa x.g w hK h.2.1 hb h4 (by rw [h5]; exact h1) (by rw [h5]; exact h2) (by rw [h5]; exact h3)
    rwa [h5] at this
  · rw [if_neg hz]
    refine (load_no R P K a n w hK h.2.1.ptr a0 a1 hz).mono ?_
    rintro e w' ⟨rfl, rfl⟩
    exact ⟨rfl, Q.refl _⟩

set_option maxHeartbeats 800000 in
theorem class_mem {B R P C A K Kc : Nat} {S : Nat → Prop} {T Y : Nat → Int} {x : BS} (a n : Int) (w : World) (hK : K ≤ 1024) (h : IsBus w B R P C A K S Kc T Y x) (hb : BdB K x.b) (a0 : 0 ≤ a) (a1 : a < 4294967296) (hz : askZ K a n = 0) :
    Calls Try.prog 14 #[.pointer (some ⟨B, 0, none⟩), .int .u32 a, .int .i64 n] w fun e w' => e = .returned (.int .i64 1) ∧ Below w.heap.size w w' := by
  have HL : Hid (∀ W, IsBus W B R P C A K S Kc T Y x → ∃ y, Calls Try.prog 40 #[.pointer (some ⟨R, 0, none⟩), .int .u32 a, .int .i64 n] W fun e w' => e = .returned (.tuple #[.int .u32 y, .int .i64 0]) ∧ Q W w') := fun W hW => by
    have := mload_any a n W hK hW hb a0 a1
    rw [hz] at this
    exact ⟨_, this⟩
  have HB := Lib.hid h
  clear h hb
  obtain ⟨y, hl⟩ := HL.out w HB.out
  have HL1 := Lib.hid hl
  clear hl HL
  clear hz
  go_enter Try.func14, Try.ntmps14
  go_wp2_with fail
  refine (bram_any w HB.out.1).mono ?_
  rintro e w' ⟨rfl, hw⟩
  have hw := hw.symm
  subst hw
  go_wp2_with fail
  refine HL1.out.mono ?_
  rintro e w1 ⟨rfl, hq⟩
  have HB1 := Lib.hid (HB.out.q hq)
  have HW1 : Hid (Below w.heap.size w w1) := hq.below _
  clear hq
  go_wp2
  go_ret
  exact ⟨rfl, HW1.out⟩

set_option maxHeartbeats 800000 in
theorem class_err {B R P C A K Kc : Nat} {S : Nat → Prop} {T Y : Nat → Int} {x : BS} (a n : Int) (w : World) (hK : K ≤ 1024) (h : IsBus w B R P C A K S Kc T Y x) (hb : BdB K x.b) (a0 : 0 ≤ a) (a1 : a < 4294967296) (hz : askZ K a n = 2 ∨ askZ K a n = 5) :
    Calls Try.prog 14 #[.pointer (some ⟨B, 0, none⟩), .int .u32 a, .int .i64 n] w fun e w' => e = .returned (.int .i64 0) ∧ Below w.heap.size w w' := by
  rcases hz with hz | hz
  · have HL : Hid (∀ W, IsBus W B R P C A K S Kc T Y x → ∃ y, Calls Try.prog 40 #[.pointer (some ⟨R, 0, none⟩), .int .u32 a, .int .i64 n] W fun e w' => e = .returned (.tuple #[.int .u32 y, .int .i64 2]) ∧ Q W w') := fun W hW => by
      have := mload_any a n W hK hW hb a0 a1
      rw [hz] at this
      exact ⟨_, this⟩
    have HB := Lib.hid h
    clear h hb
    obtain ⟨y, hl⟩ := HL.out w HB.out
    have HL1 := Lib.hid hl
    clear hl HL
    clear hz
    go_enter Try.func14, Try.ntmps14
    go_wp2_with fail
    refine (bram_any w HB.out.1).mono ?_
    rintro e w' ⟨rfl, hw⟩
    have hw := hw.symm
    subst hw
    go_wp2_with fail
    refine HL1.out.mono ?_
    rintro e w1 ⟨rfl, hq⟩
    have HB1 := Lib.hid (HB.out.q hq)
    have HW1 : Hid (Below w.heap.size w w1) := hq.below _
    clear hq
    go_wp2
    go_ret
    exact ⟨rfl, HW1.out⟩
  · have HL : Hid (∀ W, IsBus W B R P C A K S Kc T Y x → ∃ y, Calls Try.prog 40 #[.pointer (some ⟨R, 0, none⟩), .int .u32 a, .int .i64 n] W fun e w' => e = .returned (.tuple #[.int .u32 y, .int .i64 5]) ∧ Q W w') := fun W hW => by
      have := mload_any a n W hK hW hb a0 a1
      rw [hz] at this
      exact ⟨_, this⟩
    have HB := Lib.hid h
    clear h hb
    obtain ⟨y, hl⟩ := HL.out w HB.out
    have HL1 := Lib.hid hl
    clear hl HL
    clear hz
    go_enter Try.func14, Try.ntmps14
    go_wp2_with fail
    refine (bram_any w HB.out.1).mono ?_
    rintro e w' ⟨rfl, hw⟩
    have hw := hw.symm
    subst hw
    go_wp2_with fail
    refine HL1.out.mono ?_
    rintro e w1 ⟨rfl, hq⟩
    have HB1 := Lib.hid (HB.out.q hq)
    have HW1 : Hid (Below w.heap.size w w1) := hq.below _
    clear hq
    go_wp2
    go_ret
    exact ⟨rfl, HW1.out⟩

set_option maxHeartbeats 800000 in
theorem class_port {B R P C A K Kc : Nat} {S : Nat → Prop} {T Y : Nat → Int} {x : BS} (a : Int) (w : World) (hK : K ≤ 1024) (h : IsBus w B R P C A K S Kc T Y x) (hb : BdB K x.b) (a0 : 0 ≤ a) (a1 : a < 4294967296) (hz : askZ K a 4 = 6) (h0 : (a == 1048576) = true) :
    Calls Try.prog 14 #[.pointer (some ⟨B, 0, none⟩), .int .u32 a, .int .i64 4] w fun e w' => e = .returned (.int .i64 2) ∧ Below w.heap.size w w' := by
  have HL : Hid (∀ W, IsBus W B R P C A K S Kc T Y x → ∃ y, Calls Try.prog 40 #[.pointer (some ⟨R, 0, none⟩), .int .u32 a, .int .i64 4] W fun e w' => e = .returned (.tuple #[.int .u32 y, .int .i64 6]) ∧ Q W w') := fun W hW => by
    have := mload_any a 4 W hK hW hb a0 a1
    rw [hz] at this
    exact ⟨_, this⟩
  have HB := Lib.hid h
  clear h hb
  obtain ⟨y, hl⟩ := HL.out w HB.out
  have HL1 := Lib.hid hl
  clear hl HL
  have HDV : Hid (∀ W, IsBus W B R P C A K S Kc T Y x → Calls Try.prog 41 #[.pointer (some ⟨B, 0, none⟩), .int .u32 a, .int .i64 4] W fun e w' => e = .returned (.tuple #[portDev B, .bool true]) ∧ Below W.heap.size W w') := fun W hW => device_port a _ hW.1 h0
  clear hz h0
  go_enter Try.func14, Try.ntmps14
  go_wp2_with fail
  refine (bram_any w HB.out.1).mono ?_
  rintro e w' ⟨rfl, hw⟩
  have hw := hw.symm
  subst hw
  go_wp2_with fail
  refine HL1.out.mono ?_
  rintro e w1 ⟨rfl, hq⟩
  have HB1 := Lib.hid (HB.out.q hq)
  have HW1 : Hid (Below w.heap.size w w1) := hq.below _
  clear hq
  go_wp2_with fail
  refine (HDV.out w1 HB1.out).mono ?_
  rintro e w2 ⟨rfl, hb2⟩
  have HW2 : Hid (Below w.heap.size w w2) := HW1.out.trans (hb2.mono HW1.out.size)
  clear hb2
  go_wp2
  go_ret
  exact ⟨rfl, HW2.out.alloc HW2.out.size _⟩

set_option maxHeartbeats 800000 in
theorem class_con {B R P C A K Kc : Nat} {S : Nat → Prop} {T Y : Nat → Int} {x : BS} (a : Int) (w : World) (hK : K ≤ 1024) (h : IsBus w B R P C A K S Kc T Y x) (hb : BdB K x.b) (a0 : 0 ≤ a) (a1 : a < 4294967296) (hz : askZ K a 4 = 6) (h0 : (a == 1048576) = false) (h1 : (a == 268435456 || a == 268435460) = true) :
    Calls Try.prog 14 #[.pointer (some ⟨B, 0, none⟩), .int .u32 a, .int .i64 4] w fun e w' => e = .returned (.int .i64 2) ∧ Below w.heap.size w w' := by
  have HL : Hid (∀ W, IsBus W B R P C A K S Kc T Y x → ∃ y, Calls Try.prog 40 #[.pointer (some ⟨R, 0, none⟩), .int .u32 a, .int .i64 4] W fun e w' => e = .returned (.tuple #[.int .u32 y, .int .i64 6]) ∧ Q W w') := fun W hW => by
    have := mload_any a 4 W hK hW hb a0 a1
    rw [hz] at this
    exact ⟨_, this⟩
  have HB := Lib.hid h
  clear h hb
  obtain ⟨y, hl⟩ := HL.out w HB.out
  have HL1 := Lib.hid hl
  clear hl HL
  have HDV : Hid (∀ W, IsBus W B R P C A K S Kc T Y x → Calls Try.prog 41 #[.pointer (some ⟨B, 0, none⟩), .int .u32 a, .int .i64 4] W fun e w' => e = .returned (.tuple #[conDev B, .bool true]) ∧ Below W.heap.size W w') := fun W hW => device_con a _ hW.1 h0 h1
  clear hz h0 h1
  go_enter Try.func14, Try.ntmps14
  go_wp2_with fail
  refine (bram_any w HB.out.1).mono ?_
  rintro e w' ⟨rfl, hw⟩
  have hw := hw.symm
  subst hw
  go_wp2_with fail
  refine HL1.out.mono ?_
  rintro e w1 ⟨rfl, hq⟩
  have HB1 := Lib.hid (HB.out.q hq)
  have HW1 : Hid (Below w.heap.size w w1) := hq.below _
  clear hq
  go_wp2_with fail
  refine (HDV.out w1 HB1.out).mono ?_
  rintro e w2 ⟨rfl, hb2⟩
  have HW2 : Hid (Below w.heap.size w w2) := HW1.out.trans (hb2.mono HW1.out.size)
  clear hb2
  go_wp2
  go_ret
  exact ⟨rfl, HW2.out.alloc HW2.out.size _⟩

set_option maxHeartbeats 800000 in
theorem class_tim {B R P C A K Kc : Nat} {S : Nat → Prop} {T Y : Nat → Int} {x : BS} (a : Int) (w : World) (hK : K ≤ 1024) (h : IsBus w B R P C A K S Kc T Y x) (hb : BdB K x.b) (a0 : 0 ≤ a) (a1 : a < 4294967296) (hz : askZ K a 4 = 6) (h0 : (a == 1048576) = false) (h1 : (a == 268435456 || a == 268435460) = false) (h2 : hasT a = true) :
    Calls Try.prog 14 #[.pointer (some ⟨B, 0, none⟩), .int .u32 a, .int .i64 4] w fun e w' => e = .returned (.int .i64 2) ∧ Below w.heap.size w w' := by
  have HL : Hid (∀ W, IsBus W B R P C A K S Kc T Y x → ∃ y, Calls Try.prog 40 #[.pointer (some ⟨R, 0, none⟩), .int .u32 a, .int .i64 4] W fun e w' => e = .returned (.tuple #[.int .u32 y, .int .i64 6]) ∧ Q W w') := fun W hW => by
    have := mload_any a 4 W hK hW hb a0 a1
    rw [hz] at this
    exact ⟨_, this⟩
  have HB := Lib.hid h
  clear h hb
  obtain ⟨y, hl⟩ := HL.out w HB.out
  have HL1 := Lib.hid hl
  clear hl HL
  have HDV : Hid (∀ W, IsBus W B R P C A K S Kc T Y x → Calls Try.prog 41 #[.pointer (some ⟨B, 0, none⟩), .int .u32 a, .int .i64 4] W fun e w' => e = .returned (.tuple #[timDev A, .bool true]) ∧ Below W.heap.size W w') := fun W hW => device_tim a _ hW.1 h0 h1 h2
  clear hz h0 h1 h2
  go_enter Try.func14, Try.ntmps14
  go_wp2_with fail
  refine (bram_any w HB.out.1).mono ?_
  rintro e w' ⟨rfl, hw⟩
  have hw := hw.symm
  subst hw
  go_wp2_with fail
  refine HL1.out.mono ?_
  rintro e w1 ⟨rfl, hq⟩
  have HB1 := Lib.hid (HB.out.q hq)
  have HW1 : Hid (Below w.heap.size w w1) := hq.below _
  clear hq
  go_wp2_with fail
  refine (HDV.out w1 HB1.out).mono ?_
  rintro e w2 ⟨rfl, hb2⟩
  have HW2 : Hid (Below w.heap.size w w2) := HW1.out.trans (hb2.mono HW1.out.size)
  clear hb2
  go_wp2
  go_ret
  exact ⟨rfl, HW2.out.alloc HW2.out.size _⟩

set_option maxHeartbeats 800000 in
theorem class_none {B R P C A K Kc : Nat} {S : Nat → Prop} {T Y : Nat → Int} {x : BS} (a : Int) (w : World) (hK : K ≤ 1024) (h : IsBus w B R P C A K S Kc T Y x) (hb : BdB K x.b) (a0 : 0 ≤ a) (a1 : a < 4294967296) (hz : askZ K a 4 = 6) (h0 : (a == 1048576) = false) (h1 : (a == 268435456 || a == 268435460) = false) (h2 : hasT a = false) :
    Calls Try.prog 14 #[.pointer (some ⟨B, 0, none⟩), .int .u32 a, .int .i64 4] w fun e w' => e = .returned (.int .i64 0) ∧ Below w.heap.size w w' := by
  have HL : Hid (∀ W, IsBus W B R P C A K S Kc T Y x → ∃ y, Calls Try.prog 40 #[.pointer (some ⟨R, 0, none⟩), .int .u32 a, .int .i64 4] W fun e w' => e = .returned (.tuple #[.int .u32 y, .int .i64 6]) ∧ Q W w') := fun W hW => by
    have := mload_any a 4 W hK hW hb a0 a1
    rw [hz] at this
    exact ⟨_, this⟩
  have HB := Lib.hid h
  clear h hb
  obtain ⟨y, hl⟩ := HL.out w HB.out
  have HL1 := Lib.hid hl
  clear hl HL
  have HDV : Hid (∀ W, IsBus W B R P C A K S Kc T Y x → Calls Try.prog 41 #[.pointer (some ⟨B, 0, none⟩), .int .u32 a, .int .i64 4] W fun e w' => e = .returned (.tuple #[noDev, .bool false]) ∧ Below W.heap.size W w') := fun W hW => device_none a _ hW.1 h0 h1 h2
  clear hz h0 h1 h2
  go_enter Try.func14, Try.ntmps14
  go_wp2_with fail
  refine (bram_any w HB.out.1).mono ?_
  rintro e w' ⟨rfl, hw⟩
  have hw := hw.symm
  subst hw
  go_wp2_with fail
  refine HL1.out.mono ?_
  rintro e w1 ⟨rfl, hq⟩
  have HB1 := Lib.hid (HB.out.q hq)
  have HW1 : Hid (Below w.heap.size w w1) := hq.below _
  clear hq
  go_wp2_with fail
  refine (HDV.out w1 HB1.out).mono ?_
  rintro e w2 ⟨rfl, hb2⟩
  have HW2 : Hid (Below w.heap.size w w2) := HW1.out.trans (hb2.mono HW1.out.size)
  clear hb2
  go_wp2
  go_ret
  exact ⟨rfl, HW2.out.alloc HW2.out.size _⟩

set_option maxHeartbeats 800000 in
theorem class_width {B R P C A K Kc : Nat} {S : Nat → Prop} {T Y : Nat → Int} {x : BS} (a n : Int) (w : World) (hK : K ≤ 1024) (h : IsBus w B R P C A K S Kc T Y x) (hb : BdB K x.b) (a0 : 0 ≤ a) (a1 : a < 4294967296) (hz : askZ K a n = 6) (hn : n ≠ 4) :
    Calls Try.prog 14 #[.pointer (some ⟨B, 0, none⟩), .int .u32 a, .int .i64 n] w fun e w' => e = .returned (.int .i64 0) ∧ Below w.heap.size w w' := by
  have HL : Hid (∀ W, IsBus W B R P C A K S Kc T Y x → ∃ y, Calls Try.prog 40 #[.pointer (some ⟨R, 0, none⟩), .int .u32 a, .int .i64 n] W fun e w' => e = .returned (.tuple #[.int .u32 y, .int .i64 6]) ∧ Q W w') := fun W hW => by
    have := mload_any a n W hK hW hb a0 a1
    rw [hz] at this
    exact ⟨_, this⟩
  have HB := Lib.hid h
  clear h hb
  obtain ⟨y, hl⟩ := HL.out w HB.out
  have HL1 := Lib.hid hl
  clear hl HL
  have HDV : Hid (∀ W, IsBus W B R P C A K S Kc T Y x → Calls Try.prog 41 #[.pointer (some ⟨B, 0, none⟩), .int .u32 a, .int .i64 n] W fun e w' => e = .returned (.tuple #[noDev, .bool false]) ∧ Below W.heap.size W w') := fun W hW => device_width a n _ hW.1 hn
  clear hz hn
  go_enter Try.func14, Try.ntmps14
  go_wp2_with fail
  refine (bram_any w HB.out.1).mono ?_
  rintro e w' ⟨rfl, hw⟩
  have hw := hw.symm
  subst hw
  go_wp2_with fail
  refine HL1.out.mono ?_
  rintro e w1 ⟨rfl, hq⟩
  have HB1 := Lib.hid (HB.out.q hq)
  have HW1 : Hid (Below w.heap.size w w1) := hq.below _
  clear hq
  go_wp2_with fail
  refine (HDV.out w1 HB1.out).mono ?_
  rintro e w2 ⟨rfl, hb2⟩
  have HW2 : Hid (Below w.heap.size w w2) := HW1.out.trans (hb2.mono HW1.out.size)
  clear hb2
  go_wp2
  go_ret
  exact ⟨rfl, HW2.out.alloc HW2.out.size _⟩

/-- What an access is of. -/
theorem bclass_any {B R P C A K Kc : Nat} {S : Nat → Prop} {T Y : Nat → Int} {x : BS} (a n : Int) (w : World) (hK : K ≤ 1024) (h : IsBus w B R P C A K S Kc T Y x) (hb : BdB K x.b) (a0 : 0 ≤ a) (a1 : a < 4294967296) :
    Calls Try.prog 14 #[.pointer (some ⟨B, 0, none⟩), .int .u32 a, .int .i64 n] w fun e w' => e = .returned (.int .i64 (classZ K a n)) ∧ Below w.heap.size w w' := by
  have hc := askZ_cases K a n
  by_cases hz : askZ K a n = 0
  · rw [classZ_mem hz]; exact class_mem a n w hK h hb a0 a1 hz
  · by_cases h6 : askZ K a n = 6
    · by_cases hn : n = 4
      · subst hn
        cases hd : devB a
        · rw [classZ_none hz (by simp [isDev, hd])]
          obtain ⟨⟨d1, d2, d3⟩, d4⟩ := devB_no hd
          exact class_none a w hK h hb a0 a1 h6 d1 (by rw [d2, d3]; rfl) d4
        · rw [classZ_dev (isDev_t hd)]
          rcases devB_yes hd with rfl | hd | hd
          · exact class_port _ w hK h hb a0 a1 h6 (by decide)
          · rcases hd with rfl | rfl <;> exact class_con _ w hK h hb a0 a1 h6 (by decide) (by decide)
          · exact class_tim a w hK h hb a0 a1 h6 (by rcases hasT_yes hd with rfl | rfl | rfl | rfl | rfl <;> decide) (by rcases hasT_yes hd with rfl | rfl | rfl | rfl | rfl <;> decide) hd
      · rw [classZ_none hz (by simp [isDev, hn])]
        exact class_width a n w hK h hb a0 a1 h6 hn
    · rw [classZ_none hz (by simp [isDev, h6])]
      exact class_err a n w hK h hb a0 a1 (by omega)
end Go.Proofs.Ytkbccccjjlkgbaa
