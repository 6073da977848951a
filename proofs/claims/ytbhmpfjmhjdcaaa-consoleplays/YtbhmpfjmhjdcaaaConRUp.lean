/- Layer 12, the document's Up. -/
import Derived.Test.YtbhmpfjmhjdcaaaConRIO
namespace Go.Proofs.Ytbhmpfjmhjdcaaa
open Go.RowKit
set_option linter.unusedVariables false

/-- Where the document's Up stands at the head of a round. -/
def RUp (S : Nat → Prop) (w : World) (a : Option Addr) (len cap : Nat) (oa : Option Addr) (oc : Nat) (s : CS) (W : World) : Prop :=
  ∃ ra rc, Box5 W w.heap.size (.slice a len cap) (.int .i64 (s.c : Int)) (.slice ra s.n rc) (.bool s.ov) (.slice oa s.m oc) ∧
    Box5 W (w.heap.size + 1) (.slice none 0 0) (.int .i64 0) (.slice none 0 0) (.bool false) (.slice none 0 0) ∧
    BsV (S2 S w) W (.slice ra s.n rc) s.n s.f ∧ BsV (S2 S w) W (.slice oa s.m oc) s.m s.g ∧ Below w.heap.size w W

theorem rup_step {S : Nat → Prop} {w W : World} {a : Option Addr} {len cap : Nat} {oa : Option Addr} {oc : Nat} {s' : CS} {ra' : Option Addr} {rc' : Nat} {z : Int} {b c d : Value} (hx : BsV (S2 S w) W (.slice ra' s'.n rc') s'.n s'.f) (ho : BsV (S2 S w) W (.slice oa s'.m oc) s'.m s'.g)
    (hC : Box5 W w.heap.size (.slice a len cap) b c d (.slice oa s'.m oc)) (hD : Box5 W (w.heap.size + 1) (.slice none 0 0) (.int .i64 0) (.slice none 0 0) (.bool false) (.slice none 0 0)) (hB : Below w.heap.size w W) (hz : z = (s'.c : Int)) :
    RUp S w a len cap oa oc s' (((W.setCell ⟨w.heap.size, 2, none⟩ (.slice ra' s'.n rc')).setCell ⟨w.heap.size, 3, none⟩ (.bool s'.ov)).setCell ⟨w.heap.size, 1, none⟩ (.int .i64 z)) := by
  have hb := ((Bar.setCell w.heap.size 2 W (.slice ra' s'.n rc')).trans (Bar.setCell w.heap.size 3 _ (.bool s'.ov))).trans (Bar.setCell w.heap.size 1 _ (.int .i64 z))
  subst hz
  exact ⟨ra', rc', heap_setCell_at (heap_setCell_at (heap_setCell_at hC)), hD.bar hb (by omega), bsv_set (bsv_set (bsv_set hx)), bsv_set (bsv_set (bsv_set ho)), below_set (below_set (below_set hB))⟩

theorem CS.come_m (Y : Nat → Int) (s : CS) : (s.come Y).m = s.m ∧ (s.come Y).g = s.g := by unfold CS.come; split <;> exact ⟨rfl, rfl⟩

set_option maxRecDepth 100000 in
set_option maxHeartbeats 3200000 in
theorem rup_any (S : Nat → Prop) {v : Value} {a : Option Addr} {len cap : Nat} {T Y : Nat → Int} {s : CS} (t : Int) (w : World) (hl : len ≤ 256) (hc : s.c ≤ len) (hn : s.n ≤ 16) (hm : s.m ≤ 100000) (ha : IsArr w a len cap T Y) (h : RefC S w v a len cap s) (hS : ∀ k, S k → k < w.heap.size) :
    Calls Try.prog 23 #[v, .int .u64 t] w fun e w' => ∃ v', e = .returned v' ∧ RefC S w' v' a len cap (s.up len T Y t) ∧ Below w.heap.size w w' := by
  obtain ⟨rx, out, rfl, hx, ho⟩ := h
  obtain ⟨ra, rc, rfl⟩ := hx.form
  obtain ⟨oa, oc, rfl⟩ := ho.form
  obtain ⟨hb1, hb2, hB0, hsz⟩ := two_boxes w (.slice a len cap) (.int .i64 (s.c : Int)) (.slice ra s.n rc) (.bool s.ov) (.slice oa s.m oc)
  obtain ⟨W0, hW0⟩ : ∃ W0, W0 = (w.alloc (.cells #[.slice a len cap, .int .i64 (s.c : Int), .slice ra s.n rc, .bool s.ov, .slice oa s.m oc] 32)).alloc zero5 := ⟨_, rfl⟩
  rw [← hW0] at hb1 hb2 hB0 hsz
  have HW0 := Lib.hid hW0
  have HR0 : Hid (RUp S w a len cap oa oc s W0) := ⟨ra, rc, hb1, hb2, hx.two hB0, ho.two hB0, hB0⟩
  have HAR := Lib.hid ha
  have HS := Lib.hid hS
  have HSZ := Lib.hid hsz
  clear hW0 hx ho hB0 hsz hb1 hb2 hS ha
  go_enter Try.func23, Try.ntmps23
  go_wp2_with fail
  rw [← HW0.out]
  go_loopw [5, 6, 7] (fun i _ _ wr => ∃ s1 : CS, i = .int .i64 (s1.c : Int) ∧ s1.c ≤ len ∧ s1.n ≤ 16 ∧ s1.m = s.m ∧ RUp S w a len cap oa oc s1 wr ∧ s1.up len T Y t = s.up len T Y t) (fun i _ _ _ => len - (intOf i).toNat)
  case atStart => exact ⟨s, rfl, hc, hn, rfl, HR0.out, rfl⟩
  case round =>
    clear HR0
    obtain ⟨s1, rfl, hc1, hn1, hm1, ⟨ra1, rc1, hb1, hb2, hx, ho, hB⟩, he⟩ := hrel
    have HM := Lib.hid hm1
    have HE := Lib.hid he
    have HX := Lib.hid hx
    have HO := Lib.hid ho
    have HB := Lib.hid hB
    have HC := Lib.hid hb1
    have HD := Lib.hid hb2
    obtain ⟨b0, b1, b2, b3, b4⟩ := hb1.cells
    obtain ⟨z0, z1, z2, z3, z4⟩ := hb1.free
    obtain ⟨r0, r1, r2, r3, r4⟩ := hb2.cells
    obtain ⟨y0, y1, y2, y3, y4⟩ := hb2.free
    clear he hx ho hB hb1 hb2 hm1
    by_cases hlt : s1.c < len
    · obtain ⟨b, off, rfl, hcc⟩ := (HAR.out.on HB.out).at (by omega)
      obtain ⟨ct, cy⟩ := hcc s1.c hlt
      have g1 : (s1.c : Int) < len := by omega
      by_cases ht : T s1.c ≤ t
      · have h0 := trivial
        have HS2 : Hid (∀ k, S2 S w k → k < wr.drew.heap.size) := fun k hk => by
          have l1 := HC.out.lt
          have l2 := HD.out.lt
          have l3 := HB.out.size
          show k < wr.heap.size
          rcases hk with h | h | h
          · have := HS.out k h; omega
          · omega
          · omega
        have hdr : Below wr.heap.size wr wr.drew := (Below.refl _ _).drew
        have HUP : Hid ((s1.come Y).up len T Y t = s.up len T Y t) := by rw [← CS.up_go hlt ht]; exact HE.out
        have HLT := Lib.hid hlt
        by_cases hn16 : s1.n < 16
        · have hcm : s1.come Y = ⟨s1.c + 1, s1.n + 1, snoc s1.n s1.f (Y s1.c), s1.ov, s1.m, s1.g⟩ := by unfold CS.come; rw [if_pos hn16]
          have HN17 : Hid (s1.n + 1 ≤ 16) := hn16
          rw [hcm] at HUP
          have HP : Hid (Calls Try.prog 31 #[.slice ra1 s1.n rc1, .int .u8 (Y s1.c)] wr.drew fun e w3 => ∃ g c, e = .returned (.tuple #[.slice (some ⟨g, 0, none⟩) (s1.n + 1) c, .bool true]) ∧ Hid (BsV (S2 S w) w3 (.slice (some ⟨g, 0, none⟩) (s1.n + 1) c) (s1.n + 1) (snoc s1.n s1.f (Y s1.c)) ∧ BsV (S2 S w) w3 (.slice oa s1.m oc) s1.m s1.g ∧ Below w.heap.size w w3 ∧ Box5 w3 w.heap.size (.slice (some ⟨b, off, none⟩) len cap) (.int .i64 (s1.c : Int)) (.slice ra1 s1.n rc1) (.bool s1.ov) (.slice oa s1.m oc) ∧ Box5 w3 (w.heap.size + 1) (.slice none 0 0) (.int .i64 0) (.slice none 0 0) (.bool false) (.slice none 0 0))) := by
            refine (rpushV (S2 S w) (Y s1.c) wr.drew HS2.out (HX.out.on hdr) hn16).mono ?_
            rintro e w3 ⟨g, c, rfl, h1, h2⟩
            have h3 : Below wr.heap.size wr w3 := hdr.trans h2
            exact ⟨g, c, rfl, h1, HO.out.on h3, HB.out.trans (h3.mono HB.out.size), HC.out.on h3, HD.out.on h3⟩
          clear hcc hcm hn16 hdr hlt HX HO HC HD
          generalize T s1.c = x at ct ht
          generalize Y s1.c = y at cy HP HUP
          rcases hov : s1.ov with _ | _ <;> rw [hov] at b3 HP HUP
          · clear hov
            go_wp2_with fail
            go_region_with (go_at_call 31; refine HP.out.mono ?_; rintro e w3 ⟨g, c, rfl, HZ⟩)
            all_goals
              obtain ⟨b0, b1, b2, b3, b4⟩ := HZ.out.2.2.2.1.cells
              obtain ⟨z0, z1, z2, z3, z4⟩ := HZ.out.2.2.2.1.free
              go_wp2
              go_roundw
              case rel => exact ⟨⟨s1.c + 1, s1.n + 1, snoc s1.n s1.f y, false, s1.m, s1.g⟩, rfl, HLT.out, HN17.out, HM.out, rup_step (s' := ⟨s1.c + 1, s1.n + 1, snoc s1.n s1.f y, false, s1.m, s1.g⟩) HZ.out.1 HZ.out.2.1 HZ.out.2.2.2.1 HZ.out.2.2.2.2 HZ.out.2.2.1 rfl, HUP.out⟩
              case measure => simp [intOf]; have := HLT.out; omega
          · clear hov
            go_wp2_with fail
            go_region_with (go_at_call 31; refine HP.out.mono ?_; rintro e w3 ⟨g, c, rfl, HZ⟩)
            all_goals
              obtain ⟨b0, b1, b2, b3, b4⟩ := HZ.out.2.2.2.1.cells
              obtain ⟨z0, z1, z2, z3, z4⟩ := HZ.out.2.2.2.1.free
              go_wp2
              go_roundw
              case rel => exact ⟨⟨s1.c + 1, s1.n + 1, snoc s1.n s1.f y, true, s1.m, s1.g⟩, rfl, HLT.out, HN17.out, HM.out, rup_step (s' := ⟨s1.c + 1, s1.n + 1, snoc s1.n s1.f y, true, s1.m, s1.g⟩) HZ.out.1 HZ.out.2.1 HZ.out.2.2.2.1 HZ.out.2.2.2.2 HZ.out.2.2.1 rfl, HUP.out⟩
              case measure => simp [intOf]; have := HLT.out; omega
        · have hcm : s1.come Y = ⟨s1.c + 1, s1.n, s1.f, true, s1.m, s1.g⟩ := by unfold CS.come; rw [if_neg hn16]
          rw [hcm] at HUP
          have HP : Hid (Calls Try.prog 31 #[.slice ra1 s1.n rc1, .int .u8 (Y s1.c)] wr.drew fun e w3 => e = .returned (.tuple #[.slice ra1 s1.n rc1, .bool false]) ∧ w3 = wr.drew) := by
            have hx := HX.out.on hdr
            rw [show s1.n = 16 from by omega] at hx ⊢
            exact rpushF (S2 S w) (Y s1.c) wr.drew hx
          clear hcc hcm hn16 hdr hlt
          generalize T s1.c = x at ct ht
          generalize Y s1.c = y at cy HP HUP
          rcases hov : s1.ov with _ | _ <;> rw [hov] at b3
          · clear hov
            go_wp2_with fail
            go_region_with (go_at_call 31; refine HP.out.mono ?_; rintro e w3 ⟨rfl, hw⟩; subst hw)
            all_goals
              go_wp2
              go_roundw
              case rel => exact ⟨⟨s1.c + 1, s1.n, s1.f, true, s1.m, s1.g⟩, rfl, HLT.out, hn1, HM.out, rup_step (s' := ⟨s1.c + 1, s1.n, s1.f, true, s1.m, s1.g⟩) (HX.out.on ((Below.refl _ _).drew)) (HO.out.on ((Below.refl _ _).drew)) (HC.out.on ((Below.refl _ _).drew)) (HD.out.on ((Below.refl _ _).drew)) (HB.out.drew) rfl, HUP.out⟩
              case measure => simp [intOf]; have := HLT.out; omega
          · clear hov
            go_wp2_with fail
            go_region_with (go_at_call 31; refine HP.out.mono ?_; rintro e w3 ⟨rfl, hw⟩; subst hw)
            all_goals
              go_wp2
              go_roundw
              case rel => exact ⟨⟨s1.c + 1, s1.n, s1.f, true, s1.m, s1.g⟩, rfl, HLT.out, hn1, HM.out, rup_step (s' := ⟨s1.c + 1, s1.n, s1.f, true, s1.m, s1.g⟩) (HX.out.on ((Below.refl _ _).drew)) (HO.out.on ((Below.refl _ _).drew)) (HC.out.on ((Below.refl _ _).drew)) (HD.out.on ((Below.refl _ _).drew)) (HB.out.drew) rfl, HUP.out⟩
              case measure => simp [intOf]; have := HLT.out; omega
      · have HUP : Hid (s.up len T Y t = s1) := by rw [← HE.out]; exact CS.up_end (.inr (by omega))
        have ht' : t < T s1.c := by omega
        clear hcc ht
        generalize T s1.c = x at ct ht'
        go_wp2
        refine bodyPost_ret (v := .agg #[.slice (some ⟨b, off, none⟩) len cap, .int .i64 (s1.c : Int), .slice ra1 s1.n rc1, .bool s1.ov, .slice oa s1.m oc]) (by simp [results, Try.results23, go_sem, r0, r1, r2, r3, r4]) rfl ?_
        obtain ⟨k1, k2⟩ := ref_end (s := s1) (a := some ⟨b, off, none⟩) (len := len) (cap := cap) HB.out HX.out HO.out
        exact ⟨_, rfl, by rw [HUP.out]; exact k1, k2⟩
    · have HUP : Hid (s.up len T Y t = s1) := by rw [← HE.out]; exact CS.up_end (.inl (by omega))
      have g1 : ¬ (s1.c : Int) < len := by omega
      go_wp2
      refine bodyPost_ret (v := .agg #[.slice a len cap, .int .i64 (s1.c : Int), .slice ra1 s1.n rc1, .bool s1.ov, .slice oa s1.m oc]) (by simp [results, Try.results23, go_sem, r0, r1, r2, r3, r4]) rfl ?_
      obtain ⟨k1, k2⟩ := ref_end (s := s1) (a := a) (len := len) (cap := cap) HB.out HX.out HO.out
      exact ⟨_, rfl, by rw [HUP.out]; exact k1, k2⟩
end Go.Proofs.Ytbhmpfjmhjdcaaa
