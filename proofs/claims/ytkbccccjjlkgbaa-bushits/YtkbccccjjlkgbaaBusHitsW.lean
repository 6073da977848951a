/- Layer 14: the walk of BusHits. -/
import Derived.Test.YtkbccccjjlkgbaaBusCalls
namespace Go.Proofs.Ytkbccccjjlkgbaa
open Go.RowKit
set_option linter.unusedVariables false
set_option linter.unusedSimpArgs false
set_option maxRecDepth 100000

/-- A new bus, one page watched. -/
def watS (p : Nat) : BS := { BS.new with wa := bset (fun _ => false) p true }
theorem watS_ok (p : Nat) : BsOk 4 (watS p) 0 := BsOk.new

/-- What the store answers and leaves; what the page is. -/
theorem hits_math (a n : Int) (p : Nat) (hp : p < 4) (a0 : 0 ≤ a) (a1 : a < 4294967296) (B R P C A : Nat) (S : Nat → Prop) (w : World) (h : IsBus w B R P C A 4 S 0 (fun _ => 0) (fun _ => 0) (watS p)) :
    ∃ (hit : Bool) (z pg : Int) (x : BS), (Calls Try.prog 18 #[.pointer (some ⟨B, 0, none⟩), .int .u32 a, .int .i64 n, .int .u32 1, .int .u64 0] w fun e w' => e = .returned (.tuple #[.bool hit, .int .i64 z]) ∧ ∃ S', IsBus w' B R P C A 4 S' 0 (fun _ => 0) (fun _ => 0) x ∧ Fr (Fp B R P A S) w w') ∧
      (∀ S' W, IsBus W B R P C A 4 S' 0 (fun _ => 0) (fun _ => 0) x → Calls Try.prog 19 #[.pointer (some ⟨R, 0, none⟩), .int .u32 a] W fun e w' => e = .returned (.int .i64 pg) ∧ w' = W) ∧ x.wa p = !hit ∧
      ((z ≠ 0 ∧ hit = false) ∨ (z = 0 ∧ pg = p ∧ hit = true) ∨ (z = 0 ∧ pg ≠ p ∧ hit = false)) := by
  have hwp : (watS p).wa p = true := by show bset (fun _ => false) p true p = true; exact bset_at _ _ _
  have hwn : ∀ q, q ≠ p → (watS p).wa q = false := fun q hq => by show bset (fun _ => false) p true q = false; exact bset_ne _ _ hq
  have hpg : ∀ x : BS, ∀ S' W, IsBus W B R P C A 4 S' 0 (fun _ => 0) (fun _ => 0) x → Calls Try.prog 19 #[.pointer (some ⟨R, 0, none⟩), .int .u32 a] W fun e w' => e = .returned (.int .i64 (pageZ 4 a)) ∧ w' = W := fun x S' W hW => page_any R P 4 a W (by omega) hW.2.1.ptr a0 a1
  by_cases hz : ask14 4 a n = 0
  · have hst := bstore_yes a n 1 0 w (by omega) h 0 (watS_ok p) (by omega) a0 a1 (by omega) (by omega) hz
    refine ⟨(watS p).hit 4 a n, 0, pageZ 4 a, (watS p).st 4 a n 1 0, ?_, hpg _, ?_, ?_⟩
    · refine hst.mono ?_
      rintro e w' ⟨rfl, S', h1, h2, -⟩
      exact ⟨rfl, S', h1, h2⟩
    · rcases ask14_zero hz with hm | hd
      · rw [BS.hit_mem hm, BS.st_mem hm]
        show wHit (watS p).wa (plZ a / 64) p = _
        by_cases c : plZ a / 64 = p
        · rw [c, hwp, wHit_t hwp, bset_at]; rfl
        · have hf : (watS p).wa (plZ a / 64) = false := hwn _ c
          rw [hf, wHit_f hf, hwp]; rfl
      · obtain ⟨rfl, hdv⟩ := isDev_yes hd
        have h6 := isDev_ask hd
        rw [BS.hit_dev (by omega)]
        rcases devB_yes hdv with rfl | hc | ht
        · rw [(BS.ld_port (x := watS p) (K := 4) (v := 1) (k := 0)).2.2]; exact hwp
        · rw [(BS.ld_con (x := watS p) (K := 4) (v := 1) (k := 0) hc).2.2]; exact hwp
        · rw [(BS.ld_tim (x := watS p) (K := 4) (v := 1) (k := 0) ht).2.2]; exact hwp
    · rcases ask14_zero hz with hm | hd
      · obtain ⟨h1, h2, h3, h4, h5, h6, h7, h8, h9⟩ := pl_of hm
        rw [BS.hit_mem hm]
        have e1 : pageZ 4 a = ((plZ a / 64 : Nat) : Int) := by
          rw [pageZ_yes (hasB_t (by omega))]; omega
        by_cases c : plZ a / 64 = p
        · exact .inr (.inl ⟨rfl, by rw [e1, c], by rw [c]; exact hwp⟩)
        · exact .inr (.inr ⟨rfl, by rw [e1]; omega, hwn _ c⟩)
      · have h6 := isDev_ask hd
        obtain ⟨rfl, hdv⟩ := isDev_yes hd
        have hl := devB_low hdv
        refine .inr (.inr ⟨rfl, ?_, BS.hit_dev (by omega)⟩)
        rw [pageZ_no (hasB_f (by omega))]; omega
  · refine ⟨false, ask14 4 a n, pageZ 4 a, watS p, ?_, hpg _, hwp, .inl ⟨hz, rfl⟩⟩
    refine (bstore_no a n 1 0 w (by omega) h 0 (watS_ok p) (by omega) a0 a1 (by omega) (by omega) hz).mono ?_
    rintro e w' ⟨rfl, h1, h2⟩
    exact ⟨rfl, S, h1, h2⟩

namespace busHits
set_option maxHeartbeats 3200000 in
theorem go (a n g : Int) (p : Nat) (hp : p < 4) (w : World) (a0 : 0 ≤ a) (a1 : a < 4294967296) (g0 : 0 ≤ g) (g1 : g < 256) (hg : g % 4 = (p : Int)) :
    Calls Try.prog 5 #[.int .u32 a, .int .i64 n, .int .u8 g] w fun e w' => e = .returned (.bool true) ∧ Below w.heap.size w w' := by
  have HM : Hid (Calls Try.prog 10 #[.int .i64 256, .slice none 0 0] w fun e w' => ∃ B R P C A S, e = .returned (.pointer (some ⟨B, 0, none⟩)) ∧ IsBus w' B R P C A 4 S 0 (fun _ => 0) (fun _ => 0) BS.new ∧ (∀ k, Fp B R P A S k → w.heap.size ≤ k) ∧ Below w.heap.size w w') := made_any 4 w (by omega) (by omega) (by omega) (IsArr.nil _ _ _) (fun i hi => absurd hi (by omega))
  have HA : Hid (0 ≤ a ∧ a < 4294967296) := ⟨a0, a1⟩
  clear a0 a1
  go_enter Try.func5, Try.ntmps5
  go_wp2_with fail
  refine HM.out.mono ?_
  rintro e w1 ⟨B, R, P, C, A, S, rfl, hi, hF, hb⟩
  have HI1 := Lib.hid hi
  have HF := Lib.hid hF
  have HB1 := Lib.hid hb
  clear hi hF hb HM
  go_wp2_with fail
  refine (bram_any w1 HI1.out.1).mono ?_
  rintro e w' ⟨rfl, hw⟩
  have hw := hw.symm
  subst hw
  have HWT : Hid (Calls Try.prog 17 #[.pointer (some ⟨R, 0, none⟩), .int .i64 p] w1 fun e w' => e = .returned (.int .i64 0) ∧ IsBus w' B R P C A 4 S 0 (fun _ => 0) (fun _ => 0) (watS p) ∧ Below w.heap.size w w') := by
    refine (watch_yes R P 4 p _ _ _ w1 (by omega) HI1.out.2.1 hp).mono ?_
    rintro e w' ⟨rfl, h1, h2⟩
    exact ⟨rfl, HI1.out.ram h1 h2, HB1.out.trans (h2.below (HF.out P (.inr (.inr (.inl rfl)))) HB1.out.size)⟩
  go_wp2_with fail
  refine HWT.out.mono ?_
  rintro e w2 ⟨rfl, hi, hb⟩
  have HI2 := Lib.hid hi
  have HB2 := Lib.hid hb
  obtain ⟨hit, z, pg, x, hst, hpg, hwa, hrel⟩ := hits_math a n p hp HA.out.1 HA.out.2 B R P C A S w2 hi
  have HST := Lib.hid hst
  have HPG := Lib.hid hpg
  have HWA : Hid (∀ S' W, IsBus W B R P C A 4 S' 0 (fun _ => 0) (fun _ => 0) x → Calls Try.prog 20 #[.pointer (some ⟨R, 0, none⟩), .int .i64 p] W fun e w' => e = .returned (.bool (!hit)) ∧ w' = W) := fun S' W hW => by
    have := watched_any R P 4 x.b x.wa x.g p W (by omega) hW.2.1 hp
    rwa [hwa] at this
  clear hi hb hst hpg hwa HWT
  rcases hrel with ⟨hz, rfl⟩ | ⟨rfl, rfl, rfl⟩ | ⟨rfl, hne, rfl⟩
  · have hz' : (z == 0) = false := by simpa using hz
    clear hz
    go_wp2_with fail
    refine HST.out.mono ?_
    rintro e w3 ⟨rfl, S', hi, hf⟩
    have HI3 := Lib.hid hi
    have HB3 : Hid (Below w.heap.size w w3) := HB2.out.trans (hf.below HF.out HB2.out.size)
    clear hi hf
    go_wp2_with (first | (go_at_call 16; refine (bram_any _ HI3.out.1).mono ?_; rintro e w' ⟨rfl, hw⟩; have hw := hw.symm; subst hw) | (go_at_call 19; refine (HPG.out _ _ HI3.out).mono ?_; rintro e w' ⟨rfl, hw⟩; have hw := hw.symm; subst hw) | (go_at_call 20; refine (HWA.out _ _ HI3.out).mono ?_; rintro e w' ⟨rfl, hw⟩; have hw := hw.symm; subst hw))
    refine (awake14_any _).mono ?_
    rintro e w4 ⟨rfl, hb⟩
    have HB4 : Hid (Below w.heap.size w w4) := HB3.out.trans (hb.mono HB3.out.size)
    clear hb
    go_wp2
    go_ret
    exact ⟨rfl, HB4.out⟩
  · go_wp2_with fail
    refine HST.out.mono ?_
    rintro e w3 ⟨rfl, S', hi, hf⟩
    have HI3 := Lib.hid hi
    have HB3 : Hid (Below w.heap.size w w3) := HB2.out.trans (hf.below HF.out HB2.out.size)
    clear hi hf
    go_wp2_with (first | (go_at_call 16; refine (bram_any _ HI3.out.1).mono ?_; rintro e w' ⟨rfl, hw⟩; have hw := hw.symm; subst hw) | (go_at_call 19; refine (HPG.out _ _ HI3.out).mono ?_; rintro e w' ⟨rfl, hw⟩; have hw := hw.symm; subst hw) | (go_at_call 20; refine (HWA.out _ _ HI3.out).mono ?_; rintro e w' ⟨rfl, hw⟩; have hw := hw.symm; subst hw))
    refine (awake14_any _).mono ?_
    rintro e w4 ⟨rfl, hb⟩
    have HB4 : Hid (Below w.heap.size w w4) := HB3.out.trans (hb.mono HB3.out.size)
    clear hb
    go_wp2
    go_ret
    exact ⟨rfl, HB4.out⟩
  · have hne' : (pg == (p : Int)) = false := by simpa using hne
    clear hne
    go_wp2_with fail
    refine HST.out.mono ?_
    rintro e w3 ⟨rfl, S', hi, hf⟩
    have HI3 := Lib.hid hi
    have HB3 : Hid (Below w.heap.size w w3) := HB2.out.trans (hf.below HF.out HB2.out.size)
    clear hi hf
    go_wp2_with (first | (go_at_call 16; refine (bram_any _ HI3.out.1).mono ?_; rintro e w' ⟨rfl, hw⟩; have hw := hw.symm; subst hw) | (go_at_call 19; refine (HPG.out _ _ HI3.out).mono ?_; rintro e w' ⟨rfl, hw⟩; have hw := hw.symm; subst hw) | (go_at_call 20; refine (HWA.out _ _ HI3.out).mono ?_; rintro e w' ⟨rfl, hw⟩; have hw := hw.symm; subst hw))
    refine (awake14_any _).mono ?_
    rintro e w4 ⟨rfl, hb⟩
    have HB4 : Hid (Below w.heap.size w w4) := HB3.out.trans (hb.mono HB3.out.size)
    clear hb
    go_wp2
    go_ret
    exact ⟨rfl, HB4.out⟩

theorem walk (a n g : Int) (w : World) (w0 : (Lit.int .u32 a).wf = true) (w1 : (Lit.int .i64 n).wf = true) (w2 : (Lit.int .u8 g).wf = true) :
    Calls Try.prog 5 #[.int .u32 a, .int .i64 n, .int .u8 g] w fun e w' => e = .returned (.bool true) ∧ Below w.heap.size w w' := by
  have ha := bounds_u32 w0
  have hg := bounds_u8 w2
  exact go a n g (g % 4).toNat (by omega) w (by omega) (by omega) (by omega) (by omega) (by omega)
end busHits
end Go.Proofs.Ytkbccccjjlkgbaa
