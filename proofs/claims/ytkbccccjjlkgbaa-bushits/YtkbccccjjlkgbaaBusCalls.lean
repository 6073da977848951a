/- Layer 14: Calls; the statements' made and awake. -/
import Derived.Test.YtkbccccjjlkgbaaFrame
import Derived.Test.YtkbccccjjlkgbaaBusLoad
import Derived.Test.YtkbccccjjlkgbaaBusStore
import Derived.Test.YtkbccccjjlkgbaaConNew
namespace Go.Proofs.Ytkbccccjjlkgbaa
open Go.RowKit
set_option linter.unusedVariables false
set_option linter.unusedSimpArgs false
set_option maxRecDepth 100000

set_option maxHeartbeats 800000 in
theorem bcalls_nil (k : Int) (w : World) :
    Calls Try.prog 27 #[.pointer none, .int .u64 k] w fun e w' => e = .returned (.int .u32 0) ∧ Q w w' := by
  go_enter Try.func27, Try.ntmps27
  go_wp2_with fail
  refine (btim_nil w).mono ?_
  rintro e w' ⟨rfl, hw⟩
  have hw := hw.symm
  subst hw
  go_wp2_with fail
  refine (btim_nil w).mono ?_
  rintro e w' ⟨rfl, hw⟩
  have hw := hw.symm
  subst hw
  go_wp2_with fail
  refine (tup_nil k w).mono ?_
  rintro e w1 ⟨rfl, hq⟩
  have HQ := Lib.hid hq
  clear hq
  go_wp2_with fail
  refine (bcon_nil w1).mono ?_
  rintro e w' ⟨rfl, hw⟩
  have hw := hw.symm
  subst hw
  go_wp2_with fail
  refine (cready_nil w1).mono ?_
  rintro e w' ⟨rfl, hw⟩
  have hw := hw.symm
  subst hw
  go_wp2
  go_ret
  exact ⟨rfl, HQ.out⟩

set_option maxHeartbeats 1600000 in
theorem bcalls_any {B R P C A K Kc : Nat} {S : Nat → Prop} {T Y : Nat → Int} {x : BS} (k : Int) (w : World) (h : IsBus w B R P C A K S Kc T Y x) :
    Calls Try.prog 27 #[.pointer (some ⟨B, 0, none⟩), .int .u64 k] w fun e w' => e = .returned (.int .u32 (callsZ x.sf (upB x.o x.m k) (decide (0 < x.s.n)))) ∧ Q w w' := by
  have HB := Lib.hid h
  have HU : Hid (∀ W, IsTim W A x.o x.m x.sf → Calls Try.prog 50 #[.pointer (some ⟨A, 0, none⟩), .int .u64 k] W fun e w' => e = .returned (.bool (upB x.o x.m k)) ∧ Q W w') := fun W hW => tup_any k W hW
  have HR : Hid (∀ W, IsCon W C S Kc T Y x.s → Calls Try.prog 51 #[.pointer (some ⟨C, 0, none⟩)] W fun e w' => e = .returned (.bool (decide (0 < x.s.n))) ∧ w' = W) := fun W hW => cready_any W hW
  obtain ⟨⟨q0, q1, q2⟩, -⟩ := three_cells h.2.2.2.1
  clear h q0 q1
  generalize upB x.o x.m k = u at HU ⊢
  generalize decide (0 < x.s.n) = r at HR ⊢
  obtain ⟨sf, hsf⟩ : ∃ sf, x.sf = sf := ⟨_, rfl⟩
  rw [hsf] at q2 ⊢
  clear hsf
  cases sf <;> cases u <;> cases r
  all_goals
    go_enter Try.func27, Try.ntmps27
    go_wp2_with fail
    refine (btim_any w HB.out.1).mono ?_
    rintro e w' ⟨rfl, hw⟩
    have hw := hw.symm
    subst hw
    go_wp2_with fail
    refine (btim_any w HB.out.1).mono ?_
    rintro e w' ⟨rfl, hw⟩
    have hw := hw.symm
    subst hw
    go_wp2_with fail
    refine (HU.out w HB.out.2.2.2.1).mono ?_
    rintro e w1 ⟨rfl, hq⟩
    have HQ := Lib.hid hq
    have HB1 := Lib.hid (HB.out.q hq)
    clear hq
    go_wp2_with fail
    refine (bcon_any w1 HB1.out.1).mono ?_
    rintro e w' ⟨rfl, hw⟩
    have hw := hw.symm
    subst hw
    go_wp2_with fail
    refine (HR.out w1 HB1.out.2.2.1).mono ?_
    rintro e w' ⟨rfl, hw⟩
    have hw := hw.symm
    subst hw
    go_wp2
    go_ret
    exact ⟨ret_int (by decide), HQ.out⟩

/-- A new bus. -/
def BS.new : BS := ⟨fun _ => 0, fun _ => false, fun _ => 0, CS.new, 0, 18446744073709551615, false, false, 0⟩

set_option maxHeartbeats 1600000 in
theorem made_any {a : Option Addr} {len cap : Nat} {T Y : Nat → Int} (K : Nat) (w : World) (h1 : 1 ≤ K) (hK : K ≤ 1024) (hl : len ≤ 256) (ha : IsArr w a len cap T Y) (hr : Rises len T) :
    Calls Try.prog 10 #[.int .i64 (64 * (K : Int)), .slice a len cap] w fun e w' => ∃ B R P C A S, e = .returned (.pointer (some ⟨B, 0, none⟩)) ∧ IsBus w' B R P C A K S len T Y BS.new ∧ (∀ k, Fp B R P A S k → w.heap.size ≤ k) ∧ Below w.heap.size w w' := by
  have HN : Hid (∀ W : World, Calls Try.prog 23 #[.int .i64 (64 * (K : Int))] W fun e w' => ∃ R, e = .returned (.tuple #[.pointer (some ⟨R, 0, none⟩), .int .i64 0]) ∧ W.heap.size ≤ R ∧ (∃ P, W.heap.size ≤ P ∧ IsRam w' R P K (fun _ => 0) (fun _ => false) (fun _ => 0)) ∧ Below W.heap.size W w') := fun W => new_yes K W h1 hK
  have HC : Hid (∀ W, Below w.heap.size w W → Calls Try.prog 24 #[.slice a len cap] W fun e w' => ∃ R S, e = .returned (.tuple #[.pointer (some ⟨R, 0, none⟩), .int .i64 0]) ∧ IsCon w' R S len T Y CS.new ∧ (∀ k, S k → W.heap.size ≤ k) ∧ Below W.heap.size W w') := fun W hb => cnew_yes W hl (ha.on hb) hr
  clear ha hr
  go_enter Try.func10, Try.ntmps10
  go_wp2_with fail
  refine (HN.out w).mono ?_
  rintro e w1 ⟨R, rfl, hR, ⟨P, hP, hi⟩, hb⟩
  have HI1 := Lib.hid hi
  have HB1 := Lib.hid hb
  have HRP : Hid (w.heap.size ≤ R ∧ w.heap.size ≤ P) := ⟨hR, hP⟩
  clear hi hb hR hP
  go_wp2_with fail
  refine (HC.out w1 HB1.out).mono ?_
  rintro e w2 ⟨C, S, rfl, hc, hS, hb⟩
  have HI2 := Lib.hid (HI1.out.on hb)
  have HB2 : Hid (Below w.heap.size w w2) := HB1.out.trans (hb.mono HB1.out.size)
  have HC2 := Lib.hid hc
  have HS : Hid (∀ k, S k → w1.heap.size ≤ k) := hS
  have HW2 := Lib.hid hb.size
  clear hc hS hb
  go_wp2_with fail
  refine (tnew_any w2).mono ?_
  rintro e w3 ⟨rfl, ht, hb⟩
  have HI3 := Lib.hid (HI2.out.on hb)
  have HC3 := Lib.hid (HC2.out.on hb)
  have HT3 := Lib.hid ht
  have HB3 : Hid (Below w.heap.size w w3) := HB2.out.trans (hb.mono HB2.out.size)
  have HW3 := Lib.hid hb.size
  clear ht hb
  go_wp2_with fail
  refine (bnew_yes R C w2.heap.size w3).mono ?_
  rintro e w4 ⟨rfl, hc, hb⟩
  have HI4 := Lib.hid (HI3.out.on hb)
  have HC4 := Lib.hid (HC3.out.on hb)
  have HT4 := Lib.hid (HT3.out.on hb)
  have HB4 : Hid (Below w.heap.size w w4) := HB3.out.trans (hb.mono HB3.out.size)
  have HBB := Lib.hid hc
  clear hc hb
  go_wp2
  go_ret
  have l1 := HI1.out.lt
  have l2 := HC2.out.lt
  have l3 := HT3.out.lt
  have b1 := HB1.out.size
  have b2 := HW2.out
  have b3 := HW3.out
  have r1 := HRP.out
  refine ⟨w3.heap.size, R, P, C, w2.heap.size, S, rfl, ⟨HBB.out, HI4.out, HC4.out, HT4.out, by omega, fun e => by have := l2 _ e; omega, fun e => by have := HS.out _ e; omega, fun e => by have := HS.out _ e; omega, fun e => by have := l2 _ e; omega⟩, ?_, HB4.out⟩
  rintro k (rfl | rfl | rfl | rfl | hk)
  · omega
  · omega
  · omega
  · omega
  · have := HS.out _ hk; omega

theorem ask14_dev {K : Nat} {a : Int} (h : devB a = true) : ask14 K a 4 = 0 := by simp [ask14, isDev_t h]
theorem IsArr.nil (w : World) (T Y : Nat → Int) : IsArr w none 0 0 T Y := ⟨Nat.zero_le _, .inl ⟨rfl, rfl, rfl⟩⟩
theorem BsOk.new {K c : Nat} : BsOk K BS.new c := ⟨fun i _ => by show (0 : Int) ≤ 0 ∧ (0 : Int) < 256; omega, fun p _ => by show (0 : Int) ≤ 0 ∧ (0 : Int) ≤ c; omega, by show (0 : Int) ≤ 18446744073709551615 ∧ (18446744073709551615 : Int) < 18446744073709551616; omega, Nat.zero_le _⟩

/-- The bus of awake behind its stores. -/
def awS1 : BS := { BS.new with s := CS.new.wr 0 321 }
def awS2 : BS := { awS1 with off := true, code := 7 }
theorem aw_s1 : BS.new.st 1 268435456 4 321 0 = awS1 := (BS.ld_con (x := BS.new) (K := 1) (v := 321) (k := 0) (.inl rfl)).2.2
theorem aw_s2 : awS1.st 1 1048576 4 7 0 = awS2 := (BS.ld_port (x := awS1) (K := 1) (v := 7) (k := 0)).2.2
theorem aw_wr : CS.new.wr 0 321 = ⟨0, 0, fun _ => 0, false, 1, snoc 0 (fun _ => 0) 65⟩ := by unfold CS.wr CS.new; rw [if_pos rfl]; rfl
theorem aw_h1 : BS.new.hit 1 268435456 4 = false := BS.hit_dev (by rw [dev_ask (by decide)]; decide)
theorem aw_h2 : awS1.hit 1 1048576 4 = false := BS.hit_dev (by rw [dev_ask (by decide)]; decide)

set_option maxHeartbeats 3200000 in
theorem awake14_any (w : World) :
    Calls Try.prog 9 #[] w fun e w' => e = .returned (.bool true) ∧ Below w.heap.size w w' := by
  have HM : Hid (Calls Try.prog 10 #[.int .i64 64, .slice none 0 0] w fun e w' => ∃ B R P C A S, e = .returned (.pointer (some ⟨B, 0, none⟩)) ∧ IsBus w' B R P C A 1 S 0 (fun _ => 0) (fun _ => 0) BS.new ∧ (∀ k, Fp B R P A S k → w.heap.size ≤ k) ∧ Below w.heap.size w w') := made_any 1 w (by omega) (by omega) (by omega) (IsArr.nil _ _ _) (fun i hi => absurd hi (by omega))
  go_enter Try.func9, Try.ntmps9
  go_wp2_with fail
  refine HM.out.mono ?_
  rintro e w1 ⟨B, R, P, C, A, S, rfl, hi, hF, hb⟩
  have HI1 := Lib.hid hi
  have HF := Lib.hid hF
  have HB1 := Lib.hid hb
  have HS1 := bstore_yes 268435456 4 321 0 w1 (by omega) hi 0 BsOk.new (by omega) (by omega) (by omega) (by omega) (by omega) (ask14_dev (by decide))
  rw [aw_s1, aw_h1] at HS1
  have HS1 := Lib.hid HS1
  clear hi hF hb HM
  go_wp2_with fail
  refine HS1.out.mono ?_
  rintro e w2 ⟨rfl, S2, hi, hf, he⟩
  have HI2 := Lib.hid hi
  have HF2 : Hid (∀ k, Fp B R P A S2 k → w.heap.size ≤ k) := fun k hk => by
    rcases ext_fp he k hk with h | h
    · exact HF.out k h
    · have := HB1.out.size; omega
  have HB2 : Hid (Below w.heap.size w w2) := HB1.out.trans (hf.below HF.out HB1.out.size)
  have HS2 := bstore_yes 1048576 4 7 0 w2 (by omega) hi 1 (by
    refine ⟨(BsOk.new (K := 1) (c := 1)).1, (BsOk.new (K := 1) (c := 1)).2.1, (BsOk.new (K := 1) (c := 1)).2.2.1, ?_⟩
    show (CS.new.wr 0 321).m ≤ 1
    rw [aw_wr]; exact Nat.le_refl _) (by omega) (by omega) (by omega) (by omega) (by omega) (ask14_dev (by decide))
  rw [aw_s2, aw_h2] at HS2
  have HS2 := Lib.hid HS2
  clear hi hf he HS1
  go_wp2_with fail
  refine HS2.out.mono ?_
  rintro e w3 ⟨rfl, S3, hi, hf, he⟩
  have HI3 := Lib.hid hi
  have HB3 : Hid (Below w.heap.size w w3) := HB2.out.trans (hf.below HF2.out HB2.out.size)
  have HOFF : Hid (Calls Try.prog 22 #[.pointer (some ⟨B, 0, none⟩)] w3 fun e w' => e = .returned (.tuple #[.int .u32 7, .bool true]) ∧ Q w3 w') := boff_any w3 hi.1
  clear hi hf he HS2
  go_wp2_with fail
  refine HOFF.out.mono ?_
  rintro e w4 ⟨rfl, hq⟩
  have HI4 := Lib.hid (HI3.out.q hq)
  have HB4 : Hid (Below w.heap.size w w4) := HB3.out.trans (hq.below _)
  clear hq HOFF
  go_wp2_with fail
  refine (bcon_any w4 HI4.out.1).mono ?_
  rintro e w' ⟨rfl, hw⟩
  have hw := hw.symm
  subst hw
  have HO : Hid (Calls Try.prog 30 #[.pointer (some ⟨C, 0, none⟩)] w4 fun e w' => ∃ v, e = .returned v ∧ IsRowV w' v 1 (snoc 0 (fun _ => 0) 65) ∧ Below w4.heap.size w4 w') := by
    have h := HI4.out.2.2.1
    have hs : awS2.s = ⟨0, 0, fun _ => 0, false, 1, snoc 0 (fun _ => 0) 65⟩ := aw_wr
    rw [hs] at h
    exact cout_any w4 (by show (1 : Nat) ≤ 100000; omega) h
  go_wp2_with fail
  refine HO.out.mono ?_
  rintro e w5 ⟨v, rfl, ⟨va, vc, rfl, hv⟩, hb⟩
  have HB5 : Hid (Below w.heap.size w w5) := HB4.out.trans (hb.mono HB4.out.size)
  rcases hv with hv | ⟨b, o, rfl, hv⟩
  · exact absurd hv (by omega)
  have hv0 := hv 0 (by omega)
  rw [snoc_at, Nat.add_zero] at hv0
  clear hv hb
  go_wp2
  go_ret
  exact ⟨rfl, HB5.out⟩
end Go.Proofs.Ytkbccccjjlkgbaa
