/- Layer 4: Constant and the document's own. -/
import Derived.Test.YtlceglloikamnaaDoorEncAny
import Derived.OwnWalk
import Derived.Laws.OwnMore
import Derived.LoopN
namespace Go.Proofs.YtlceglloikamnaaDoor
open Go.RowKit
set_option linter.unusedVariables false

def hiOf (n : Int) : Int := (n + 2048) % 4294967296 / 4096 * 4096
def loOf (n : Int) : Int := (n - hiOf n) % 4294967296
theorem hi_bd (n : Int) : 0 ≤ hiOf n ∧ hiOf n < 4294967296 := by unfold hiOf; omega
theorem lo_bd (n : Int) : 0 ≤ loOf n ∧ loOf n < 4294967296 := by unfold loOf; omega

theorem andNot_low (y : Int) (h0 : 0 ≤ y) (h1 : y < 4294967296) : bits .andNot .u32 y 4095 = y / 4096 * 4096 := by
  obtain ⟨X, rfl⟩ := Int.eq_ofNat_of_zero_le h0
  have e := u32_andNot_nat X 4095 (by omega) (by omega)
  have e' : bits .andNot .u32 (X : Int) 4095 = ((X &&& (4294967295 - 4095) : Nat) : Int) := e
  rw [e']
  have x1 : X = 2 ^ 12 * (X / 2 ^ 12) + X % 2 ^ 12 := (Nat.div_add_mod X (2 ^ 12)).symm
  have j := joint_and 12 (X / 2 ^ 12) (X % 2 ^ 12) 1048575 0 (Nat.mod_lt _ (by decide)) (by decide)
  rw [← x1] at j
  have a := Nat.and_two_pow_sub_one_eq_mod (X / 2 ^ 12) 20
  rw [show (2 : Nat) ^ 20 - 1 = 1048575 from rfl] at a
  rw [show (4294967295 : Nat) - 4095 = 2 ^ 12 * 1048575 + 0 from rfl, j, a, Nat.and_zero]
  omega

theorem hi_code (n : Int) (h0 : 0 ≤ n) (h1 : n < 4294967296) : bits .andNot .u32 ((n + 2048) % 4294967296) 4095 = hiOf n := andNot_low _ (by omega) (by omega)

theorem hi_lo (n : Int) (h0 : 0 ≤ n) (h1 : n < 4294967296) : (hiOf n + loOf n) % 4294967296 = n := by unfold loOf; omega
theorem lo_0 (n : Int) (h0 : 0 ≤ n) (h1 : n < 4294967296) (h : hiOf n = 0) : loOf n = n := by unfold loOf; omega
theorem hi_0 (n : Int) (h0 : 0 ≤ n) (h1 : n < 4294967296) (h : loOf n = 0) : hiOf n = n := by
  have := hi_lo n h0 h1
  have := hi_bd n
  omega
theorem lo_ref (n : Int) (h0 : 0 ≤ n) (h1 : n < 4294967296) : extOf (bitsOf n 0 12) 12 = loOf n := by
  have e : bitsOf n 0 12 = n % 4096 := by
    show n / 1 % 4096 = n % 4096
    rw [Int.ediv_one]
  rw [e, ext_12]
  unfold loOf hiOf
  split <;> omega

def addiC (rd rs n : Int) : List Value := [.int .i64 19, .int .i64 rd, .int .i64 rs, .int .i64 0, .int .u32 n, .int .i64 0]
def luiC (rd n : Int) : List Value := [.int .i64 1, .int .i64 rd, .int .i64 0, .int .i64 0, .int .u32 n, .int .i64 0]

set_option maxHeartbeats 400000 in
theorem con_bad (rd n : Int) (w : World) (h : ¬ (0 ≤ rd ∧ rd ≤ 31)) :
    Calls Tryd.prog 17 #[.int .i64 rd, .int .u32 n] w fun e w' => e = .returned (.tuple #[.slice none 0 0, .int .i64 9]) ∧ w' = w := by
  by_cases h1 : rd < 0
  · go_enter Tryd.func17, Tryd.ntmps17
    go_wp2
    go_ret2
    exact ⟨rfl, rfl⟩
  · have h2 : 31 < rd := by omega
    go_enter Tryd.func17, Tryd.ntmps17
    go_wp2
    go_ret2
    exact ⟨rfl, rfl⟩

set_option maxHeartbeats 1000000 in
theorem con_a (rd n : Int) (w : World) (h0 : 0 ≤ n) (h1 : n < 4294967296) (r0 : 0 ≤ rd) (r1 : rd ≤ 31) (hh : hiOf n = 0) :
    Calls Tryd.prog 17 #[.int .i64 rd, .int .u32 n] w fun e w' => ∃ v, e = .returned (.tuple #[v, .int .i64 0]) ∧ w'.ownsRow w.heap.size 24 6 v 1 (addiC rd 0 n) ∧ Below w.heap.size w w' := by
  have hc := hi_code n h0 h1
  rw [hh] at hc
  go_enter Tryd.func17, Tryd.ntmps17
  go_wp2
  go_ret2
  refine ⟨_, rfl, ?_, (Below.refl _ _).alloc (Nat.le_refl _) _⟩
  exact World.ownsRow_lit w #[.int .i64 19, .int .i64 rd, .int .i64 0, .int .i64 0, .int .u32 n, .int .i64 0] 1 (Nat.le_refl _) (by decide) rfl

set_option maxHeartbeats 1000000 in
theorem con_b (rd n : Int) (w : World) (h0 : 0 ≤ n) (h1 : n < 4294967296) (r0 : 0 ≤ rd) (r1 : rd ≤ 31) (hh : hiOf n ≠ 0) (hl : loOf n = 0) :
    Calls Tryd.prog 17 #[.int .i64 rd, .int .u32 n] w fun e w' => ∃ v, e = .returned (.tuple #[v, .int .i64 0]) ∧ w'.ownsRow w.heap.size 24 6 v 1 (luiC rd n) ∧ Below w.heap.size w w' := by
  have hc := hi_code n h0 h1
  rw [hi_0 n h0 h1 hl] at hc hh
  have hne : (n == 0) = false := by simpa using hh
  go_enter Tryd.func17, Tryd.ntmps17
  go_wp2
  go_ret2
  refine ⟨_, rfl, ?_, (Below.refl _ _).alloc (Nat.le_refl _) _⟩
  exact World.ownsRow_lit w #[.int .i64 1, .int .i64 rd, .int .i64 0, .int .i64 0, .int .u32 n, .int .i64 0] 1 (Nat.le_refl _) (by decide) rfl

set_option maxHeartbeats 1000000 in
theorem con_c (rd n : Int) (w : World) (h0 : 0 ≤ n) (h1 : n < 4294967296) (r0 : 0 ≤ rd) (r1 : rd ≤ 31) (hh : hiOf n ≠ 0) (hl : loOf n ≠ 0) :
    Calls Tryd.prog 17 #[.int .i64 rd, .int .u32 n] w fun e w' => ∃ v, e = .returned (.tuple #[v, .int .i64 0]) ∧ w'.ownsRow w.heap.size 24 6 v 2 (luiC rd (hiOf n) ++ addiC rd rd (loOf n)) ∧ Below w.heap.size w w' := by
  obtain ⟨i0, hi, hz0, hz1, hz2⟩ := info_parts (P := Tryd.prog) (e := 24) (z := .agg #[.int .i64 0, .int .i64 0, .int .i64 0, .int .i64 0, .int .u32 0, .int .i64 0]) (size := 6) (bytes := 48) (by kernel_rfl)
  have hc := hi_code n h0 h1
  have hb := hi_bd n
  have hd := lo_bd n
  have he : (n - hiOf n) % 4294967296 = loOf n := rfl
  generalize hiOf n = hi' at *
  generalize loOf n = lo' at *
  have hne : (hi' == 0) = false := by simpa using hh
  have hnf : (lo' != 0) = true := by simpa using hl
  have HOWN : Hid ((w.alloc (.cells #[.int .i64 1, .int .i64 rd, .int .i64 0, .int .i64 0, .int .u32 hi', .int .i64 0] 24)).ownsRow w.heap.size 24 6 (.slice (some ⟨w.heap.size, 0, none⟩) 1 1) 1 [.int .i64 1, .int .i64 rd, .int .i64 0, .int .i64 0, .int .u32 hi', .int .i64 0]) := World.ownsRow_lit (base := w.heap.size) (e := 24) (size := 6) w #[.int .i64 1, .int .i64 rd, .int .i64 0, .int .i64 0, .int .u32 hi', .int .i64 0] 1 (Nat.le_refl _) (by decide) rfl
  go_enter Tryd.func17, Tryd.ntmps17
  go_wp2_with (at_builtin; refine wpList_append_own _ rfl _ _ 39 rfl w.heap.size 24 i0 _ 6 48 Tryd.underlying39 hi hz0 hz1 hz2 rfl (by decide) _ _ _ rfl (HOWN.out.alloc _) ⟨w.heap.size + 1, 0, none⟩ 1 1 [.int .i64 19, .int .i64 rd, .int .i64 rd, .int .i64 0, .int .u32 lo', .int .i64 0] rfl rfl ?c1 ?c2 ?c3 ?c4 ?c5 ?_)
  case c1 =>
    intro j u hj
    match j, hj with
    | 0, hj => simp at hj; subst hj; simp [Addr.add]
    | 1, hj => simp at hj; subst hj; simp [Addr.add]
    | 2, hj => simp at hj; subst hj; simp [Addr.add]
    | 3, hj => simp at hj; subst hj; simp [Addr.add]
    | 4, hj => simp at hj; subst hj; simp [Addr.add]
    | 5, hj => simp at hj; subst hj; simp [Addr.add]
  case c2 =>
    intro u hu
    simp at hu
    rcases hu with rfl | rfl | rfl | rfl | rfl | rfl <;> rfl
  case c3 => unfold maxLen; omega
  case c4 => omega
  case c5 => simp; omega
  intro v' w3 hown' hgrow _
  have hb' : Below w.heap.size w w3 := (((Below.refl _ _).alloc (Nat.le_refl _) _).alloc (by simp) _).grown hgrow (by simp; omega) (fun j hj => by cases hj; exact Nat.le_refl _)
  go_wp2
  go_ret2
  exact ⟨_, rfl, hown', hb'⟩

set_option maxHeartbeats 2000000 in
theorem rcon_a (rd n : Int) (w : World) (h0 : 0 ≤ n) (h1 : n < 4294967296) (r0 : 0 ≤ rd) (r1 : rd ≤ 31) (hh : hiOf n = 0) :
    Calls Tryd.prog 18 #[.int .i64 rd, .int .u32 n] w fun e w' => ∃ v, e = .returned v ∧ w'.ownsRow w.heap.size 24 6 v 1 (addiC rd 0 n) ∧ Below w.heap.size w w' := by
  have HL : Hid (extOf (bitsOf n 0 12) 12 = loOf n) := lo_ref n h0 h1
  have hlb := bitsOf_nn n 0 12
  have hlc : bitsOf n 0 12 < 4294967296 := Int.lt_trans (bitsOf_lt n 0 12) (by decide)
  rw [lo_0 n h0 h1 hh] at HL
  have hq : bitsOf n 12 20 = n / 4096 := by
    show n / 4096 % 1048576 = n / 4096
    omega
  have HQ : Hid (bitsOf n 12 20 = n / 4096) := hq
  clear hq
  have hd : bitsOf n 11 1 = n / 2048 % 2 := rfl
  have hv : hiOf n = (n + 2048) % 4294967296 / 4096 * 4096 := rfl
  by_cases hb11 : n / 2048 % 2 = 1
  · have HD : Hid (bitsOf n 11 1 = 1) := by rw [hd]; exact hb11
    have HK : Hid (n / 4096 = 1048575) := by show _ = _; omega
    clear hd hv hb11
    go_enter Tryd.func18, Tryd.ntmps18
    go_wp2_with fail
    refine (rbits_any n 0 12 _ h0 h1 (by omega) (by omega) (by omega) (by omega)).mono ?_
    rintro e w1 ⟨rfl, hq1⟩
    go_wp2_with fail
    refine (rextend_any _ 12 _ hlb hlc (by omega) (by omega)).mono ?_
    rw [HL.out]
    rintro e w2 ⟨rfl, hq2⟩
    go_wp2_with fail
    refine (rbits_any n 12 20 _ h0 h1 (by omega) (by omega) (by omega) (by omega)).mono ?_
    rw [HQ.out, HK.out]
    rintro e w3 ⟨rfl, hq3⟩
    go_wp2_with fail
    refine (rbits_any n 11 1 _ h0 h1 (by omega) (by omega) (by omega) (by omega)).mono ?_
    rw [HD.out]
    rintro e w4 ⟨rfl, hq4⟩
    have HB : Hid (Below w.heap.size w w4) := (((hq1.trans hq2).trans hq3).trans hq4).below _
    have HE : Hid (w4.heap.size = w.heap.size) := by
      obtain ⟨k, hk⟩ := ((hq1.trans hq2).trans hq3).trans hq4
      rw [hk]; rfl
    clear hq1 hq2 hq3 hq4
    go_wp2
    go_ret
    refine ⟨_, rfl, ?_, HB.out.alloc HB.out.size _⟩
    exact World.ownsRow_lit w4 #[.int .i64 19, .int .i64 rd, .int .i64 0, .int .i64 0, .int .u32 n, .int .i64 0] 1 HB.out.size (by decide) rfl
  · have HD : Hid (bitsOf n 11 1 = 0) := by rw [hd]; show _ = _; omega
    have HK : Hid (n / 4096 = 0) := by show _ = _; omega
    clear hd hv hb11
    go_enter Tryd.func18, Tryd.ntmps18
    go_wp2_with fail
    refine (rbits_any n 0 12 _ h0 h1 (by omega) (by omega) (by omega) (by omega)).mono ?_
    rintro e w1 ⟨rfl, hq1⟩
    go_wp2_with fail
    refine (rextend_any _ 12 _ hlb hlc (by omega) (by omega)).mono ?_
    rw [HL.out]
    rintro e w2 ⟨rfl, hq2⟩
    go_wp2_with fail
    refine (rbits_any n 12 20 _ h0 h1 (by omega) (by omega) (by omega) (by omega)).mono ?_
    rw [HQ.out, HK.out]
    rintro e w3 ⟨rfl, hq3⟩
    go_wp2_with fail
    refine (rbits_any n 11 1 _ h0 h1 (by omega) (by omega) (by omega) (by omega)).mono ?_
    rw [HD.out]
    rintro e w4 ⟨rfl, hq4⟩
    have HB : Hid (Below w.heap.size w w4) := (((hq1.trans hq2).trans hq3).trans hq4).below _
    have HE : Hid (w4.heap.size = w.heap.size) := by
      obtain ⟨k, hk⟩ := ((hq1.trans hq2).trans hq3).trans hq4
      rw [hk]; rfl
    clear hq1 hq2 hq3 hq4
    go_wp2
    go_ret
    refine ⟨_, rfl, ?_, HB.out.alloc HB.out.size _⟩
    exact World.ownsRow_lit w4 #[.int .i64 19, .int .i64 rd, .int .i64 0, .int .i64 0, .int .u32 n, .int .i64 0] 1 HB.out.size (by decide) rfl

set_option maxHeartbeats 2000000 in
theorem rcon_b (rd n : Int) (w : World) (h0 : 0 ≤ n) (h1 : n < 4294967296) (r0 : 0 ≤ rd) (r1 : rd ≤ 31) (hh : hiOf n ≠ 0) (hl : loOf n = 0) :
    Calls Tryd.prog 18 #[.int .i64 rd, .int .u32 n] w fun e w' => ∃ v, e = .returned v ∧ w'.ownsRow w.heap.size 24 6 v 1 (luiC rd n) ∧ Below w.heap.size w w' := by
  have HL : Hid (extOf (bitsOf n 0 12) 12 = loOf n) := lo_ref n h0 h1
  have hlb := bitsOf_nn n 0 12
  have hlc : bitsOf n 0 12 < 4294967296 := Int.lt_trans (bitsOf_lt n 0 12) (by decide)
  rw [hl] at HL
  rw [hi_0 n h0 h1 hl] at hh
  have hhh := hi_0 n h0 h1 hl
  have hq : bitsOf n 12 20 = n / 4096 := by
    show n / 4096 % 1048576 = n / 4096
    omega
  have HQ : Hid (bitsOf n 12 20 = n / 4096) := hq
  clear hq
  have hd : bitsOf n 11 1 = n / 2048 % 2 := rfl
  have hv : hiOf n = (n + 2048) % 4294967296 / 4096 * 4096 := rfl
  by_cases hb11 : n / 2048 % 2 = 1
  · have HD : Hid (bitsOf n 11 1 = 1) := by rw [hd]; exact hb11
    obtain ⟨q, hk⟩ : ∃ q, n / 4096 = q := ⟨_, rfl⟩
    have HK : Hid (n / 4096 = q) := hk
    have q0 : 0 ≤ q := by omega
    have q1 : q < 1048575 := by omega
    have qm : (q + 1) % 1048576 = q + 1 := by omega
    have qv : (q + 1) * 4096 = n := by omega
    have qn : (q + 1 == 0) = false := by simp; omega
    clear hd hv hb11 hk
    go_enter Tryd.func18, Tryd.ntmps18
    go_wp2_with fail
    refine (rbits_any n 0 12 _ h0 h1 (by omega) (by omega) (by omega) (by omega)).mono ?_
    rintro e w1 ⟨rfl, hq1⟩
    go_wp2_with fail
    refine (rextend_any _ 12 _ hlb hlc (by omega) (by omega)).mono ?_
    rw [HL.out]
    rintro e w2 ⟨rfl, hq2⟩
    go_wp2_with fail
    refine (rbits_any n 12 20 _ h0 h1 (by omega) (by omega) (by omega) (by omega)).mono ?_
    rw [HQ.out, HK.out]
    rintro e w3 ⟨rfl, hq3⟩
    go_wp2_with fail
    refine (rbits_any n 11 1 _ h0 h1 (by omega) (by omega) (by omega) (by omega)).mono ?_
    rw [HD.out]
    rintro e w4 ⟨rfl, hq4⟩
    have HB : Hid (Below w.heap.size w w4) := (((hq1.trans hq2).trans hq3).trans hq4).below _
    have HE : Hid (w4.heap.size = w.heap.size) := by
      obtain ⟨k, hk⟩ := ((hq1.trans hq2).trans hq3).trans hq4
      rw [hk]; rfl
    clear hq1 hq2 hq3 hq4
    go_wp2
    go_ret
    refine ⟨_, rfl, ?_, HB.out.alloc HB.out.size _⟩
    exact World.ownsRow_lit w4 #[.int .i64 1, .int .i64 rd, .int .i64 0, .int .i64 0, .int .u32 n, .int .i64 0] 1 HB.out.size (by decide) rfl
  · have HD : Hid (bitsOf n 11 1 = 0) := by rw [hd]; show _ = _; omega
    obtain ⟨q, hk⟩ : ∃ q, n / 4096 = q := ⟨_, rfl⟩
    have HK : Hid (n / 4096 = q) := hk
    have q0 : 0 ≤ q := by omega
    have q1 : q < 1048576 := by omega
    have qv : q * 4096 = n := by omega
    have qn : (q == 0) = false := by simp; omega
    clear hd hv hb11 hk
    go_enter Tryd.func18, Tryd.ntmps18
    go_wp2_with fail
    refine (rbits_any n 0 12 _ h0 h1 (by omega) (by omega) (by omega) (by omega)).mono ?_
    rintro e w1 ⟨rfl, hq1⟩
    go_wp2_with fail
    refine (rextend_any _ 12 _ hlb hlc (by omega) (by omega)).mono ?_
    rw [HL.out]
    rintro e w2 ⟨rfl, hq2⟩
    go_wp2_with fail
    refine (rbits_any n 12 20 _ h0 h1 (by omega) (by omega) (by omega) (by omega)).mono ?_
    rw [HQ.out, HK.out]
    rintro e w3 ⟨rfl, hq3⟩
    go_wp2_with fail
    refine (rbits_any n 11 1 _ h0 h1 (by omega) (by omega) (by omega) (by omega)).mono ?_
    rw [HD.out]
    rintro e w4 ⟨rfl, hq4⟩
    have HB : Hid (Below w.heap.size w w4) := (((hq1.trans hq2).trans hq3).trans hq4).below _
    have HE : Hid (w4.heap.size = w.heap.size) := by
      obtain ⟨k, hk⟩ := ((hq1.trans hq2).trans hq3).trans hq4
      rw [hk]; rfl
    clear hq1 hq2 hq3 hq4
    go_wp2
    go_ret
    refine ⟨_, rfl, ?_, HB.out.alloc HB.out.size _⟩
    exact World.ownsRow_lit w4 #[.int .i64 1, .int .i64 rd, .int .i64 0, .int .i64 0, .int .u32 n, .int .i64 0] 1 HB.out.size (by decide) rfl

set_option maxHeartbeats 2000000 in
theorem rcon_c (rd n : Int) (w : World) (h0 : 0 ≤ n) (h1 : n < 4294967296) (r0 : 0 ≤ rd) (r1 : rd ≤ 31) (hh : hiOf n ≠ 0) (hl : loOf n ≠ 0) :
    Calls Tryd.prog 18 #[.int .i64 rd, .int .u32 n] w fun e w' => ∃ v, e = .returned v ∧ w'.ownsRow w.heap.size 24 6 v 2 (luiC rd (hiOf n) ++ addiC rd rd (loOf n)) ∧ Below w.heap.size w w' := by
  have HL : Hid (extOf (bitsOf n 0 12) 12 = loOf n) := lo_ref n h0 h1
  have hlb := bitsOf_nn n 0 12
  have hlc : bitsOf n 0 12 < 4294967296 := Int.lt_trans (bitsOf_lt n 0 12) (by decide)
  have hnl : (loOf n == 0) = false := by simpa using hl
  have hq : bitsOf n 12 20 = n / 4096 := by
    show n / 4096 % 1048576 = n / 4096
    omega
  have HQ : Hid (bitsOf n 12 20 = n / 4096) := hq
  clear hq
  have hd : bitsOf n 11 1 = n / 2048 % 2 := rfl
  have hv : hiOf n = (n + 2048) % 4294967296 / 4096 * 4096 := rfl
  by_cases hb11 : n / 2048 % 2 = 1
  · have HD : Hid (bitsOf n 11 1 = 1) := by rw [hd]; exact hb11
    obtain ⟨q, hk⟩ : ∃ q, n / 4096 = q := ⟨_, rfl⟩
    have HK : Hid (n / 4096 = q) := hk
    have q0 : 0 ≤ q := by omega
    have q1 : q < 1048575 := by omega
    have qm : (q + 1) % 1048576 = q + 1 := by omega
    have qv : (q + 1) * 4096 = hiOf n := by omega
    have qn : (q + 1 == 0) = false := by simp; omega
    clear hd hv hb11 hk
    go_enter Tryd.func18, Tryd.ntmps18
    go_wp2_with fail
    refine (rbits_any n 0 12 _ h0 h1 (by omega) (by omega) (by omega) (by omega)).mono ?_
    rintro e w1 ⟨rfl, hq1⟩
    go_wp2_with fail
    refine (rextend_any _ 12 _ hlb hlc (by omega) (by omega)).mono ?_
    rw [HL.out]
    rintro e w2 ⟨rfl, hq2⟩
    go_wp2_with fail
    refine (rbits_any n 12 20 _ h0 h1 (by omega) (by omega) (by omega) (by omega)).mono ?_
    rw [HQ.out, HK.out]
    rintro e w3 ⟨rfl, hq3⟩
    go_wp2_with fail
    refine (rbits_any n 11 1 _ h0 h1 (by omega) (by omega) (by omega) (by omega)).mono ?_
    rw [HD.out]
    rintro e w4 ⟨rfl, hq4⟩
    have HB : Hid (Below w.heap.size w w4) := (((hq1.trans hq2).trans hq3).trans hq4).below _
    have HE : Hid (w4.heap.size = w.heap.size) := by
      obtain ⟨k, hk⟩ := ((hq1.trans hq2).trans hq3).trans hq4
      rw [hk]; rfl
    clear hq1 hq2 hq3 hq4
    go_wp2
    go_ret
    refine ⟨_, rfl, ?_, HB.out.alloc HB.out.size _⟩
    exact World.ownsRow_lit w4 #[.int .i64 1, .int .i64 rd, .int .i64 0, .int .i64 0, .int .u32 (hiOf n), .int .i64 0, .int .i64 19, .int .i64 rd, .int .i64 rd, .int .i64 0, .int .u32 (loOf n), .int .i64 0] 2 HB.out.size (by decide) rfl
  · have HD : Hid (bitsOf n 11 1 = 0) := by rw [hd]; show _ = _; omega
    obtain ⟨q, hk⟩ : ∃ q, n / 4096 = q := ⟨_, rfl⟩
    have HK : Hid (n / 4096 = q) := hk
    have q0 : 0 ≤ q := by omega
    have q1 : q < 1048576 := by omega
    have qv : q * 4096 = hiOf n := by omega
    have qn : (q == 0) = false := by simp; omega
    clear hd hv hb11 hk
    go_enter Tryd.func18, Tryd.ntmps18
    go_wp2_with fail
    refine (rbits_any n 0 12 _ h0 h1 (by omega) (by omega) (by omega) (by omega)).mono ?_
    rintro e w1 ⟨rfl, hq1⟩
    go_wp2_with fail
    refine (rextend_any _ 12 _ hlb hlc (by omega) (by omega)).mono ?_
    rw [HL.out]
    rintro e w2 ⟨rfl, hq2⟩
    go_wp2_with fail
    refine (rbits_any n 12 20 _ h0 h1 (by omega) (by omega) (by omega) (by omega)).mono ?_
    rw [HQ.out, HK.out]
    rintro e w3 ⟨rfl, hq3⟩
    go_wp2_with fail
    refine (rbits_any n 11 1 _ h0 h1 (by omega) (by omega) (by omega) (by omega)).mono ?_
    rw [HD.out]
    rintro e w4 ⟨rfl, hq4⟩
    have HB : Hid (Below w.heap.size w w4) := (((hq1.trans hq2).trans hq3).trans hq4).below _
    have HE : Hid (w4.heap.size = w.heap.size) := by
      obtain ⟨k, hk⟩ := ((hq1.trans hq2).trans hq3).trans hq4
      rw [hk]; rfl
    clear hq1 hq2 hq3 hq4
    go_wp2
    go_ret
    refine ⟨_, rfl, ?_, HB.out.alloc HB.out.size _⟩
    exact World.ownsRow_lit w4 #[.int .i64 1, .int .i64 rd, .int .i64 0, .int .i64 0, .int .u32 (hiOf n), .int .i64 0, .int .i64 19, .int .i64 rd, .int .i64 rd, .int .i64 0, .int .u32 (loOf n), .int .i64 0] 2 HB.out.size (by decide) rfl
end Go.Proofs.YtlceglloikamnaaDoor
