/- Layer 12: are both consoles the same? (By gen-consame.py.) -/
import Derived.Test.YtbhmpfjmhjdcaaaConRIO
import Derived.Test.YtbhmpfjmhjdcaaaEach
namespace Go.Proofs.Ytbhmpfjmhjdcaaa
open Go.RowKit
set_option linter.unusedVariables false
set_option linter.unusedSimpArgs false

def ConS (w : World) (R : Nat) (S : Nat → Prop) (len : Nat) (T Y : Nat → Int) (s : CS) (a : Option Addr) (cap : Nat) (ra : Option Addr) (rc : Nat) (oa : Option Addr) (oc : Nat) (W : World) : Prop :=
  Below w.heap.size w W ∧ Box5 W w.heap.size (.slice a len cap) (.int .i64 (s.c : Int)) (.slice ra s.n rc) (.bool s.ov) (.slice oa s.m oc) ∧ IsCon W R S len T Y s ∧ IsRowV W (.slice ra s.n rc) s.n s.f ∧ IsRowV W (.slice oa s.m oc) s.m s.g
theorem ConS.on {w : World} {R : Nat} {S : Nat → Prop} {len : Nat} {T Y : Nat → Int} {s : CS} {a : Option Addr} {cap : Nat} {ra : Option Addr} {rc : Nat} {oa : Option Addr} {oc : Nat} {w1 w2 : World} (h : ConS w R S len T Y s a cap ra rc oa oc w1) (hb : Below w1.heap.size w1 w2) : ConS w R S len T Y s a cap ra rc oa oc w2 := by
  obtain ⟨h1, h2, h3, h4, h5⟩ := h
  exact ⟨h1.trans (hb.mono h1.size), h2.on hb, h3.on hb, h4.on hb, h5.on hb⟩

set_option maxRecDepth 100000 in
set_option maxHeartbeats 4000000 in
theorem same12_any {R : Nat} {S : Nat → Prop} {v : Value} {a : Option Addr} {len cap : Nat} {T Y : Nat → Int} {s : CS} (w : World) (hl : len ≤ 256) (hm : s.m ≤ 500) (ha : IsArr w a len cap T Y) (hc : IsCon w R S len T Y s) (h : RefC S w v a len cap s) :
    Calls Try.prog 10 #[.pointer (some ⟨R, 0, none⟩), v] w fun e w' => e = .returned (.bool true) ∧ Below w.heap.size w w' := by
  obtain ⟨rx, out, rfl, hx, ho⟩ := h
  have hx := hx.row
  have ho := ho.row
  obtain ⟨ra, rc, rfl, hx2⟩ := id hx
  obtain ⟨oa, oc, rfl, ho2⟩ := id ho
  obtain ⟨W0, hW0⟩ : ∃ W0, W0 = w.alloc (.cells #[.slice a len cap, .int .i64 (s.c : Int), .slice ra s.n rc, .bool s.ov, .slice oa s.m oc] 32) := ⟨_, rfl⟩
  have HW0 := Lib.hid hW0
  have hb0 : Below w.heap.size w W0 := by rw [hW0]; exact (Below.refl _ _).alloc (Nat.le_refl _) _
  have HS0 : Hid (ConS w R S len T Y s a cap ra rc oa oc W0) := ⟨hb0, by rw [hW0]; exact heap_alloc_new _ _, hc.on hb0, hx.on hb0, ho.on hb0⟩
  have HN : Hid (s.n ≤ 500) := by have := hc.le; show _ ≤ _; omega
  have HM5 : Hid (s.m ≤ 500) := hm
  have HM : Hid (s.m ≤ 100000) := by show _ ≤ _; omega
  have HA := Lib.hid ha
  have hcl : s.c ≤ len := hc.le.1
  obtain ⟨bd, hbd⟩ : ∃ bd, decide (0 < s.n) = bd := ⟨_, rfl⟩
  have HRDY : Hid (∀ W, IsCon W R S len T Y s → Calls Try.prog 17 #[.pointer (some ⟨R, 0, none⟩)] W fun e w' => e = .returned (.bool bd) ∧ w' = W) := fun W hW => by
    have := cready_any W hW
    rwa [hbd] at this
  have hdec : decide ((0 : Int) < (s.n : Int)) = bd := by rw [← hbd]; simp
  clear hx ho hx2 ho2 hW0 hb0 hc ha hm
  by_cases hlt : s.c < len
  · have HNX : Hid (∀ W, IsCon W R S len T Y s → Calls Try.prog 19 #[.pointer (some ⟨R, 0, none⟩)] W fun e w' => e = .returned (.tuple #[.int .u64 (T s.c), .bool true]) ∧ Q W w') := fun W hW => by
      have := cnext_any W hW
      rwa [if_pos hlt, decide_eq_true hlt] at this
    have g1 : (s.c : Int) < len := by omega
    obtain ⟨b, off, rfl, hcc⟩ := HA.out.at (by omega)
    have ct := (hcc s.c hlt).1
    have HCT : Hid (∀ W, Below w.heap.size w W → W.cell? ⟨b, off + s.c * 2, none⟩ = some (.int .u64 (T s.c))) := fun W hb => by rw [hb.cell (World.block_lt_of_cell? w _ ct)]; exact ct
    clear hcc ct hcl
    generalize T s.c = x at HNX HCT
    go_enter Try.func10, Try.ntmps10
    go_wp2_with fail
    rw [← HW0.out]
    refine (HNX.out _ HS0.out.2.2.1).mono ?_
    rintro e W1 ⟨rfl, hq⟩
    have HS1 := Lib.hid (HS0.out.on (hq.below _))
    obtain ⟨p0, p1, p2, p3, p4⟩ := HS1.out.2.1.cells
    have pt := HCT.out _ HS1.out.1
    clear hq HNX HCT HS0
    go_wp2_with fail
    refine wp_region_held_drew (S := ConS w R S len T Y s (some ⟨b, off, none⟩) cap ra rc oa oc) (by kernel_rfl) (HS1.out.on ((Below.refl _ _).drew)) (fun hHeld => ?_)
    refine wpAnyH_take (i := 0) (oi := ?o0_5) (v := ?v0_5) ?ho0_5 (by kernel_rfl) (by kernel_rfl) (by kernel_rfl) ?q0_5 ?y0_5 (by assumption) ?rest0_5
    case ho0_5 => (simp only [List.getElem?_toArray, List.getElem?_cons_succ, List.getElem?_cons_zero]; rfl)
    case q0_5 => exact fun _ _ _ h => h
    case y0_5 => (refine Or.inl ⟨by rfl, ?_⟩; intro w hSw; (try dsimp only at hSw); go_simp; try with_reducible rfl)
    try simp only [Act.put, List.setIfInBounds_toArray, List.set_cons_zero, List.set_cons_succ]
    refine wpAnyH_take (i := 2) (oi := ?o2_5) (v := ?v2_5) ?ho2_5 (by kernel_rfl) (by kernel_rfl) (by kernel_rfl) ?q2_5 ?y2_5 (by assumption) ?rest2_5
    case ho2_5 => (simp only [List.getElem?_toArray, List.getElem?_cons_succ, List.getElem?_cons_zero]; rfl)
    case q2_5 => exact fun _ _ _ h => h
    case y2_5 => (refine Or.inl ⟨by rfl, ?_⟩; intro w hSw; (try dsimp only at hSw); go_simp; try with_reducible rfl)
    try simp only [Act.put, List.setIfInBounds_toArray, List.set_cons_zero, List.set_cons_succ]
    refine wpAnyH_take (i := 3) (oi := ?o3_5) (v := ?v3_5) ?ho3_5 (by kernel_rfl) (by kernel_rfl) (by kernel_rfl) ?q3_5 ?y3_5 (by assumption) ?rest3_5
    case ho3_5 => (simp only [List.getElem?_toArray, List.getElem?_cons_succ, List.getElem?_cons_zero]; rfl)
    case q3_5 => exact fun _ _ _ h => h
    case y3_5 => (refine Or.inl ⟨by rfl, ?_⟩; intro w hSw; (try dsimp only at hSw); obtain ⟨qa, qb, qc, qd, qe⟩ := hSw.2.1.cells; go_simp; try with_reducible rfl)
    try simp only [Act.put, List.setIfInBounds_toArray, List.set_cons_zero, List.set_cons_succ]
    refine wpAnyH_ready (rs := [1]) (by kernel_rfl) (by simp) (AllReadyH.cons rfl (fun Kx hKx => ?_) AllReadyH.nil)
    go_simp
    refine (cwaits_any _ hHeld.2.2.1).mono ?_
    rintro e v1 ⟨vw, rfl, hrow, hb⟩
    have hb1 := hHeld.on hb
    have HROW := Lib.hid hrow
    obtain ⟨wa, wc, rfl, hrow2⟩ := hrow
    clear hrow2 hb
    try go_wp2_with fail
    refine hKx.out _ _ hb1 (fun hHeld => ?_)
    clear hKx Kx
    try simp only [Act.put, List.setIfInBounds_toArray, List.set_cons_zero, List.set_cons_succ]
    refine wpAnyH_ready (rs := [4]) (by kernel_rfl) (by simp) (AllReadyH.cons rfl (fun Kx hKx => ?_) AllReadyH.nil)
    go_simp
    refine (same11 HN.out HROW.out hHeld.2.2.2.1).mono ?_
    rintro e v4 ⟨rfl, hq⟩
    have hb4 := hHeld.on (hq.below _)
    clear hq
    try go_wp2_with fail
    refine hKx.out _ _ hb4 (fun hHeld => ?_)
    clear hKx Kx
    try simp only [Act.put, List.setIfInBounds_toArray, List.set_cons_zero, List.set_cons_succ]
    refine wpAnyH_take (i := 5) (oi := ?o5_5) (v := ?v5_5) ?ho5_5 (by kernel_rfl) (by kernel_rfl) (by kernel_rfl) ?q5_5 ?y5_5 (by assumption) ?rest5_5
    case ho5_5 => (simp only [List.getElem?_toArray, List.getElem?_cons_succ, List.getElem?_cons_zero]; rfl)
    case q5_5 => exact fun _ _ _ h => h
    case y5_5 => (refine Or.inl ⟨by rfl, ?_⟩; intro w hSw; (try dsimp only at hSw); go_simp; try with_reducible rfl)
    try simp only [Act.put, List.setIfInBounds_toArray, List.set_cons_zero, List.set_cons_succ]
    refine wpAnyH_take (i := 6) (oi := ?o6_5) (v := ?v6_5) ?ho6_5 (by kernel_rfl) (by kernel_rfl) (by kernel_rfl) ?q6_5 ?y6_5 (by assumption) ?rest6_5
    case ho6_5 => (simp only [List.getElem?_toArray, List.getElem?_cons_succ, List.getElem?_cons_zero]; rfl)
    case q6_5 => exact fun _ _ _ h => h
    case y6_5 => (refine Or.inl ⟨by rfl, ?_⟩; intro w hSw; (try dsimp only at hSw); go_simp; try with_reducible rfl)
    try simp only [Act.put, List.setIfInBounds_toArray, List.set_cons_zero, List.set_cons_succ]
    refine wpAnyH_take (i := 8) (oi := ?o8_5) (v := ?v8_5) ?ho8_5 (by kernel_rfl) (by kernel_rfl) (by kernel_rfl) ?q8_5 ?y8_5 (by assumption) ?rest8_5
    case ho8_5 => (simp only [List.getElem?_toArray, List.getElem?_cons_succ, List.getElem?_cons_zero]; rfl)
    case q8_5 => exact fun _ _ _ h => h
    case y8_5 => (refine Or.inl ⟨by rfl, ?_⟩; intro w hSw; (try dsimp only at hSw); go_simp; try with_reducible rfl)
    try simp only [Act.put, List.setIfInBounds_toArray, List.set_cons_zero, List.set_cons_succ]
    refine wpAnyH_take (i := 9) (oi := ?o9_5) (v := ?v9_5) ?ho9_5 (by kernel_rfl) (by kernel_rfl) (by kernel_rfl) ?q9_5 ?y9_5 (by assumption) ?rest9_5
    case ho9_5 => (simp only [List.getElem?_toArray, List.getElem?_cons_succ, List.getElem?_cons_zero]; rfl)
    case q9_5 => exact fun _ _ _ h => h
    case y9_5 => (refine Or.inl ⟨by rfl, ?_⟩; intro w hSw; (try dsimp only at hSw); obtain ⟨qa, qb, qc, qd, qe⟩ := hSw.2.1.cells; go_simp; try with_reducible rfl)
    try simp only [Act.put, List.setIfInBounds_toArray, List.set_cons_zero, List.set_cons_succ]
    refine wpAnyH_ready (rs := [7]) (by kernel_rfl) (by simp) (AllReadyH.cons rfl (fun Kx hKx => ?_) AllReadyH.nil)
    go_simp
    refine (cout_any _ HM.out hHeld.2.2.1).mono ?_
    rintro e v7 ⟨vo, rfl, hrow, hb⟩
    have hb7 := hHeld.on hb
    have HROW7 := Lib.hid hrow
    obtain ⟨oa7, oc7, rfl, hrow2⟩ := hrow
    clear hrow2 hb
    try go_wp2_with fail
    refine hKx.out _ _ hb7 (fun hHeld => ?_)
    clear hKx Kx
    try simp only [Act.put, List.setIfInBounds_toArray, List.set_cons_zero, List.set_cons_succ]
    refine wpAnyH_ready (rs := [10]) (by kernel_rfl) (by simp) (AllReadyH.cons rfl (fun Kx hKx => ?_) AllReadyH.nil)
    go_simp
    refine (same11 HM5.out HROW7.out hHeld.2.2.2.2).mono ?_
    rintro e v10 ⟨rfl, hq⟩
    have hb10 := hHeld.on (hq.below _)
    clear hq
    try go_wp2_with fail
    refine hKx.out _ _ hb10 (fun hHeld => ?_)
    clear hKx Kx
    try simp only [Act.put, List.setIfInBounds_toArray, List.set_cons_zero, List.set_cons_succ]
    refine wpAnyH_take (i := 11) (oi := ?o11_5) (v := ?v11_5) ?ho11_5 (by kernel_rfl) (by kernel_rfl) (by kernel_rfl) ?q11_5 ?y11_5 (by assumption) ?rest11_5
    case ho11_5 => (simp only [List.getElem?_toArray, List.getElem?_cons_succ, List.getElem?_cons_zero]; rfl)
    case q11_5 => exact fun _ _ _ h => h
    case y11_5 => (refine Or.inl ⟨by rfl, ?_⟩; intro w hSw; (try dsimp only at hSw); go_simp; try with_reducible rfl)
    try simp only [Act.put, List.setIfInBounds_toArray, List.set_cons_zero, List.set_cons_succ]
    refine wpAnyH_take (i := 12) (oi := ?o12_5) (v := ?v12_5) ?ho12_5 (by kernel_rfl) (by kernel_rfl) (by kernel_rfl) ?q12_5 ?y12_5 (by assumption) ?rest12_5
    case ho12_5 => (simp only [List.getElem?_toArray, List.getElem?_cons_succ, List.getElem?_cons_zero]; rfl)
    case q12_5 => exact fun _ _ _ h => h
    case y12_5 => (refine Or.inl ⟨by rfl, ?_⟩; intro w hSw; (try dsimp only at hSw); go_simp; try with_reducible rfl)
    try simp only [Act.put, List.setIfInBounds_toArray, List.set_cons_zero, List.set_cons_succ]
    refine wpAnyH_take (i := 13) (oi := ?o13_5) (v := ?v13_5) ?ho13_5 (by kernel_rfl) (by kernel_rfl) (by kernel_rfl) ?q13_5 ?y13_5 (by assumption) ?rest13_5
    case ho13_5 => (simp only [List.getElem?_toArray, List.getElem?_cons_succ, List.getElem?_cons_zero]; rfl)
    case q13_5 => exact fun _ _ _ h => h
    case y13_5 => (refine Or.inl ⟨by rfl, ?_⟩; intro w hSw; (try dsimp only at hSw); go_simp; try with_reducible rfl)
    try simp only [Act.put, List.setIfInBounds_toArray, List.set_cons_zero, List.set_cons_succ]
    refine wpAnyH_take (i := 15) (oi := ?o15_5) (v := ?v15_5) ?ho15_5 (by kernel_rfl) (by kernel_rfl) (by kernel_rfl) ?q15_5 ?y15_5 (by assumption) ?rest15_5
    case ho15_5 => (simp only [List.getElem?_toArray, List.getElem?_cons_succ, List.getElem?_cons_zero]; rfl)
    case q15_5 => exact fun _ _ _ h => h
    case y15_5 => (refine Or.inl ⟨by rfl, ?_⟩; intro w hSw; (try dsimp only at hSw); go_simp; try with_reducible rfl)
    try simp only [Act.put, List.setIfInBounds_toArray, List.set_cons_zero, List.set_cons_succ]
    refine wpAnyH_take (i := 16) (oi := ?o16_5) (v := ?v16_5) ?ho16_5 (by kernel_rfl) (by kernel_rfl) (by kernel_rfl) ?q16_5 ?y16_5 (by assumption) ?rest16_5
    case ho16_5 => (simp only [List.getElem?_toArray, List.getElem?_cons_succ, List.getElem?_cons_zero]; rfl)
    case q16_5 => exact fun _ _ _ h => h
    case y16_5 => (refine Or.inl ⟨by rfl, ?_⟩; intro w hSw; (try dsimp only at hSw); obtain ⟨qa, qb, qc, qd, qe⟩ := hSw.2.1.cells; go_simp; try with_reducible rfl)
    try simp only [Act.put, List.setIfInBounds_toArray, List.set_cons_zero, List.set_cons_succ]
    refine wpAnyH_ready (rs := [14]) (by kernel_rfl) (by simp) (AllReadyH.cons rfl (fun Kx hKx => ?_) AllReadyH.nil)
    go_simp
    refine (ccame_any _ hHeld.2.2.1).mono ?_
    rintro e w' ⟨rfl, hw⟩
    have hw := hw.symm
    subst hw
    try go_wp2_with fail
    refine hKx.out _ _ hHeld (fun hHeld => ?_)
    clear hKx Kx
    try simp only [Act.put, List.setIfInBounds_toArray, List.set_cons_zero, List.set_cons_succ]
    refine wpAnyH_take (i := 17) (oi := ?o17_5) (v := ?v17_5) ?ho17_5 (by kernel_rfl) (by kernel_rfl) (by kernel_rfl) ?q17_5 ?y17_5 (by assumption) ?rest17_5
    case ho17_5 => (simp only [List.getElem?_toArray, List.getElem?_cons_succ, List.getElem?_cons_zero]; rfl)
    case q17_5 => exact fun _ _ _ h => h
    case y17_5 => (refine Or.inl ⟨by rfl, ?_⟩; intro w hSw; (try dsimp only at hSw); go_simp; try with_reducible rfl)
    try simp only [Act.put, List.setIfInBounds_toArray, List.set_cons_zero, List.set_cons_succ]
    refine wpAnyH_take (i := 18) (oi := ?o18_5) (v := ?v18_5) ?ho18_5 (by kernel_rfl) (by kernel_rfl) (by kernel_rfl) ?q18_5 ?y18_5 (by assumption) ?rest18_5
    case ho18_5 => (simp only [List.getElem?_toArray, List.getElem?_cons_succ, List.getElem?_cons_zero]; rfl)
    case q18_5 => exact fun _ _ _ h => h
    case y18_5 => (refine Or.inl ⟨by rfl, ?_⟩; intro w hSw; (try dsimp only at hSw); go_simp; try with_reducible rfl)
    try simp only [Act.put, List.setIfInBounds_toArray, List.set_cons_zero, List.set_cons_succ]
    refine wpAnyH_take (i := 19) (oi := ?o19_5) (v := ?v19_5) ?ho19_5 (by kernel_rfl) (by kernel_rfl) (by kernel_rfl) ?q19_5 ?y19_5 (by assumption) ?rest19_5
    case ho19_5 => (simp only [List.getElem?_toArray, List.getElem?_cons_succ, List.getElem?_cons_zero]; rfl)
    case q19_5 => exact fun _ _ _ h => h
    case y19_5 => (refine Or.inl ⟨by rfl, ?_⟩; intro w hSw; (try dsimp only at hSw); go_simp; try with_reducible rfl)
    try simp only [Act.put, List.setIfInBounds_toArray, List.set_cons_zero, List.set_cons_succ]
    refine wpAnyH_take (i := 20) (oi := ?o20_5) (v := ?v20_5) ?ho20_5 (by kernel_rfl) (by kernel_rfl) (by kernel_rfl) ?q20_5 ?y20_5 (by assumption) ?rest20_5
    case ho20_5 => (simp only [List.getElem?_toArray, List.getElem?_cons_succ, List.getElem?_cons_zero]; rfl)
    case q20_5 => exact fun _ _ _ h => h
    case y20_5 => (refine Or.inl ⟨by rfl, ?_⟩; intro w hSw; (try dsimp only at hSw); go_simp; try with_reducible rfl)
    try simp only [Act.put, List.setIfInBounds_toArray, List.set_cons_zero, List.set_cons_succ]
    refine wpAnyH_take (i := 22) (oi := ?o22_5) (v := ?v22_5) ?ho22_5 (by kernel_rfl) (by kernel_rfl) (by kernel_rfl) ?q22_5 ?y22_5 (by assumption) ?rest22_5
    case ho22_5 => (simp only [List.getElem?_toArray, List.getElem?_cons_succ, List.getElem?_cons_zero]; rfl)
    case q22_5 => exact fun _ _ _ h => h
    case y22_5 => (refine Or.inl ⟨by rfl, ?_⟩; intro w hSw; (try dsimp only at hSw); go_simp; try with_reducible rfl)
    try simp only [Act.put, List.setIfInBounds_toArray, List.set_cons_zero, List.set_cons_succ]
    refine wpAnyH_take (i := 23) (oi := ?o23_5) (v := ?v23_5) ?ho23_5 (by kernel_rfl) (by kernel_rfl) (by kernel_rfl) ?q23_5 ?y23_5 (by assumption) ?rest23_5
    case ho23_5 => (simp only [List.getElem?_toArray, List.getElem?_cons_succ, List.getElem?_cons_zero]; rfl)
    case q23_5 => exact fun _ _ _ h => h
    case y23_5 => (refine Or.inl ⟨by rfl, ?_⟩; intro w hSw; (try dsimp only at hSw); obtain ⟨qa, qb, qc, qd, qe⟩ := hSw.2.1.cells; go_simp; try with_reducible rfl)
    try simp only [Act.put, List.setIfInBounds_toArray, List.set_cons_zero, List.set_cons_succ]
    refine wpAnyH_ready (rs := [21]) (by kernel_rfl) (by simp) (AllReadyH.cons rfl (fun Kx hKx => ?_) AllReadyH.nil)
    go_simp
    refine (cover_any _ hHeld.2.2.1).mono ?_
    rintro e w' ⟨rfl, hw⟩
    have hw := hw.symm
    subst hw
    try go_wp2_with fail
    refine hKx.out _ _ hHeld (fun hHeld => ?_)
    clear hKx Kx
    try simp only [Act.put, List.setIfInBounds_toArray, List.set_cons_zero, List.set_cons_succ]
    refine wpAnyH_take (i := 24) (oi := ?o24_5) (v := ?v24_5) ?ho24_5 (by kernel_rfl) (by kernel_rfl) (by kernel_rfl) ?q24_5 ?y24_5 (by assumption) ?rest24_5
    case ho24_5 => (simp only [List.getElem?_toArray, List.getElem?_cons_succ, List.getElem?_cons_zero]; rfl)
    case q24_5 => exact fun _ _ _ h => h
    case y24_5 => (refine Or.inl ⟨by rfl, ?_⟩; intro w hSw; (try dsimp only at hSw); go_simp; try with_reducible rfl)
    try simp only [Act.put, List.setIfInBounds_toArray, List.set_cons_zero, List.set_cons_succ]
    refine wpAnyH_take (i := 25) (oi := ?o25_5) (v := ?v25_5) ?ho25_5 (by kernel_rfl) (by kernel_rfl) (by kernel_rfl) ?q25_5 ?y25_5 (by assumption) ?rest25_5
    case ho25_5 => (simp only [List.getElem?_toArray, List.getElem?_cons_succ, List.getElem?_cons_zero]; rfl)
    case q25_5 => exact fun _ _ _ h => h
    case y25_5 => (refine Or.inl ⟨by rfl, ?_⟩; intro w hSw; (try dsimp only at hSw); go_simp; try with_reducible rfl)
    try simp only [Act.put, List.setIfInBounds_toArray, List.set_cons_zero, List.set_cons_succ]
    refine wpAnyH_take (i := 26) (oi := ?o26_5) (v := ?v26_5) ?ho26_5 (by kernel_rfl) (by kernel_rfl) (by kernel_rfl) ?q26_5 ?y26_5 (by assumption) ?rest26_5
    case ho26_5 => (simp only [List.getElem?_toArray, List.getElem?_cons_succ, List.getElem?_cons_zero]; rfl)
    case q26_5 => exact fun _ _ _ h => h
    case y26_5 => (refine Or.inl ⟨by rfl, ?_⟩; intro w hSw; (try dsimp only at hSw); go_simp; try with_reducible rfl)
    try simp only [Act.put, List.setIfInBounds_toArray, List.set_cons_zero, List.set_cons_succ]
    refine wpAnyH_take (i := 27) (oi := ?o27_5) (v := ?v27_5) ?ho27_5 (by kernel_rfl) (by kernel_rfl) (by kernel_rfl) ?q27_5 ?y27_5 (by assumption) ?rest27_5
    case ho27_5 => (simp only [List.getElem?_toArray, List.getElem?_cons_succ, List.getElem?_cons_zero]; rfl)
    case q27_5 => exact fun _ _ _ h => h
    case y27_5 => (refine Or.inl ⟨by rfl, ?_⟩; intro w hSw; (try dsimp only at hSw); go_simp; try with_reducible rfl)
    try simp only [Act.put, List.setIfInBounds_toArray, List.set_cons_zero, List.set_cons_succ]
    refine wpAnyH_take (i := 29) (oi := ?o29_5) (v := ?v29_5) ?ho29_5 (by kernel_rfl) (by kernel_rfl) (by kernel_rfl) ?q29_5 ?y29_5 (by assumption) ?rest29_5
    case ho29_5 => (simp only [List.getElem?_toArray, List.getElem?_cons_succ, List.getElem?_cons_zero]; rfl)
    case q29_5 => exact fun _ _ _ h => h
    case y29_5 => (refine Or.inl ⟨by rfl, ?_⟩; intro w hSw; (try dsimp only at hSw); go_simp; try with_reducible rfl)
    try simp only [Act.put, List.setIfInBounds_toArray, List.set_cons_zero, List.set_cons_succ]
    refine wpAnyH_take (i := 30) (oi := ?o30_5) (v := ?v30_5) ?ho30_5 (by kernel_rfl) (by kernel_rfl) (by kernel_rfl) ?q30_5 ?y30_5 (by assumption) ?rest30_5
    case ho30_5 => (simp only [List.getElem?_toArray, List.getElem?_cons_succ, List.getElem?_cons_zero]; rfl)
    case q30_5 => exact fun _ _ _ h => h
    case y30_5 => (refine Or.inl ⟨by rfl, ?_⟩; intro w hSw; (try dsimp only at hSw); obtain ⟨qa, qb, qc, qd, qe⟩ := hSw.2.1.cells; go_simp; try with_reducible rfl)
    try simp only [Act.put, List.setIfInBounds_toArray, List.set_cons_zero, List.set_cons_succ]
    refine wpAnyH_take (i := 31) (oi := ?o31_5) (v := ?v31_5) ?ho31_5 (by kernel_rfl) (by kernel_rfl) (by kernel_rfl) ?q31_5 ?y31_5 (by assumption) ?rest31_5
    case ho31_5 => (simp only [List.getElem?_toArray, List.getElem?_cons_succ, List.getElem?_cons_zero]; rfl)
    case q31_5 => exact fun _ _ _ h => h
    case y31_5 => (refine Or.inl ⟨by rfl, ?_⟩; intro w hSw; (try dsimp only at hSw); go_simp; try with_reducible rfl)
    try simp only [Act.put, List.setIfInBounds_toArray, List.set_cons_zero, List.set_cons_succ]
    refine wpAnyH_take (i := 32) (oi := ?o32_5) (v := ?v32_5) ?ho32_5 (by kernel_rfl) (by kernel_rfl) (by kernel_rfl) ?q32_5 ?y32_5 (by assumption) ?rest32_5
    case ho32_5 => (simp only [List.getElem?_toArray, List.getElem?_cons_succ, List.getElem?_cons_zero]; rfl)
    case q32_5 => exact fun _ _ _ h => h
    case y32_5 => (refine Or.inl ⟨by rfl, ?_⟩; intro w hSw; (try dsimp only at hSw); go_simp; try with_reducible rfl)
    try simp only [Act.put, List.setIfInBounds_toArray, List.set_cons_zero, List.set_cons_succ]
    refine wpAnyH_ready (rs := [28]) (by kernel_rfl) (by simp) (AllReadyH.cons rfl (fun Kx hKx => ?_) AllReadyH.nil)
    go_simp
    refine (HRDY.out _ hHeld.2.2.1).mono ?_
    rintro e w' ⟨rfl, hw⟩
    have hw := hw.symm
    subst hw
    try go_wp2_with fail
    refine hKx.out _ _ hHeld (fun hHeld => ?_)
    clear hKx Kx
    try simp only [Act.put, List.setIfInBounds_toArray, List.set_cons_zero, List.set_cons_succ]
    refine wpAnyH_take (i := 33) (oi := ?o33_5) (v := ?v33_5) ?ho33_5 (by kernel_rfl) (by kernel_rfl) (by kernel_rfl) ?q33_5 ?y33_5 (by assumption) ?rest33_5
    case ho33_5 => (simp only [List.getElem?_toArray, List.getElem?_cons_succ, List.getElem?_cons_zero]; rfl)
    case q33_5 => exact fun _ _ _ h => h
    case y33_5 => (refine Or.inl ⟨by rfl, ?_⟩; intro w hSw; (try dsimp only at hSw); go_simp; try with_reducible rfl)
    try simp only [Act.put, List.setIfInBounds_toArray, List.set_cons_zero, List.set_cons_succ]
    refine wpAnyH_take (i := 34) (oi := ?o34_5) (v := ?v34_5) ?ho34_5 (by kernel_rfl) (by kernel_rfl) (by kernel_rfl) ?q34_5 ?y34_5 (by assumption) ?rest34_5
    case ho34_5 => (simp only [List.getElem?_toArray, List.getElem?_cons_succ, List.getElem?_cons_zero]; rfl)
    case q34_5 => exact fun _ _ _ h => h
    case y34_5 => (refine Or.inl ⟨by rfl, ?_⟩; intro w hSw; (try dsimp only at hSw); go_simp; try with_reducible rfl)
    try simp only [Act.put, List.setIfInBounds_toArray, List.set_cons_zero, List.set_cons_succ]
    refine wpAnyH_take (i := 35) (oi := ?o35_5) (v := ?v35_5) ?ho35_5 (by kernel_rfl) (by kernel_rfl) (by kernel_rfl) ?q35_5 ?y35_5 (by assumption) ?rest35_5
    case ho35_5 => (simp only [List.getElem?_toArray, List.getElem?_cons_succ, List.getElem?_cons_zero]; rfl)
    case q35_5 => exact fun _ _ _ h => h
    case y35_5 => (refine Or.inl ⟨by rfl, ?_⟩; intro w hSw; (try dsimp only at hSw); go_simp; try with_reducible rfl)
    try simp only [Act.put, List.setIfInBounds_toArray, List.set_cons_zero, List.set_cons_succ]
    refine wpAnyH_take (i := 36) (oi := ?o36_5) (v := ?v36_5) ?ho36_5 (by kernel_rfl) (by kernel_rfl) (by kernel_rfl) ?q36_5 ?y36_5 (by assumption) ?rest36_5
    case ho36_5 => (simp only [List.getElem?_toArray, List.getElem?_cons_succ, List.getElem?_cons_zero]; rfl)
    case q36_5 => exact fun _ _ _ h => h
    case y36_5 => (refine Or.inl ⟨by rfl, ?_⟩; intro w hSw; (try dsimp only at hSw); go_simp; try with_reducible rfl)
    try simp only [Act.put, List.setIfInBounds_toArray, List.set_cons_zero, List.set_cons_succ]
    refine wpAnyH_take (i := 37) (oi := ?o37_5) (v := ?v37_5) ?ho37_5 (by kernel_rfl) (by kernel_rfl) (by kernel_rfl) ?q37_5 ?y37_5 (by assumption) ?rest37_5
    case ho37_5 => (simp only [List.getElem?_toArray, List.getElem?_cons_succ, List.getElem?_cons_zero]; rfl)
    case q37_5 => exact fun _ _ _ h => h
    case y37_5 => (refine Or.inl ⟨by rfl, ?_⟩; intro w hSw; (try dsimp only at hSw); go_simp; try with_reducible rfl)
    try simp only [Act.put, List.setIfInBounds_toArray, List.set_cons_zero, List.set_cons_succ]
    refine wpAnyH_take (i := 38) (oi := ?o38_5) (v := ?v38_5) ?ho38_5 (by kernel_rfl) (by kernel_rfl) (by kernel_rfl) ?q38_5 ?y38_5 (by assumption) ?rest38_5
    case ho38_5 => (simp only [List.getElem?_toArray, List.getElem?_cons_succ, List.getElem?_cons_zero]; rfl)
    case q38_5 => exact fun _ _ _ h => h
    case y38_5 => (refine Or.inl ⟨by rfl, ?_⟩; intro w hSw; (try dsimp only at hSw); go_simp; try with_reducible rfl)
    try simp only [Act.put, List.setIfInBounds_toArray, List.set_cons_zero, List.set_cons_succ]
    refine wpAnyH_take (i := 39) (oi := ?o39_5) (v := ?v39_5) ?ho39_5 (by kernel_rfl) (by kernel_rfl) (by kernel_rfl) ?q39_5 ?y39_5 (by assumption) ?rest39_5
    case ho39_5 => (simp only [List.getElem?_toArray, List.getElem?_cons_succ, List.getElem?_cons_zero]; rfl)
    case q39_5 => exact fun _ _ _ h => h
    case y39_5 => (refine Or.inl ⟨by rfl, ?_⟩; intro w hSw; (try dsimp only at hSw); go_simp; try with_reducible rfl)
    try simp only [Act.put, List.setIfInBounds_toArray, List.set_cons_zero, List.set_cons_succ]
    refine wpAnyH_take (i := 40) (oi := ?o40_5) (v := ?v40_5) ?ho40_5 (by kernel_rfl) (by kernel_rfl) (by kernel_rfl) ?q40_5 ?y40_5 (by assumption) ?rest40_5
    case ho40_5 => (simp only [List.getElem?_toArray, List.getElem?_cons_succ, List.getElem?_cons_zero]; rfl)
    case q40_5 => exact fun _ _ _ h => h
    case y40_5 => (refine Or.inl ⟨by rfl, ?_⟩; intro w hSw; (try dsimp only at hSw); go_simp; try with_reducible rfl)
    try simp only [Act.put, List.setIfInBounds_toArray, List.set_cons_zero, List.set_cons_succ]
    refine wpAnyH_take (i := 41) (oi := ?o41_5) (v := ?v41_5) ?ho41_5 (by kernel_rfl) (by kernel_rfl) (by kernel_rfl) ?q41_5 ?y41_5 (by assumption) ?rest41_5
    case ho41_5 => (simp only [List.getElem?_toArray, List.getElem?_cons_succ, List.getElem?_cons_zero]; rfl)
    case q41_5 => exact fun _ _ _ h => h
    case y41_5 => (refine Or.inl ⟨by rfl, ?_⟩; intro w hSw; (try dsimp only at hSw); go_simp; try with_reducible rfl)
    try simp only [Act.put, List.setIfInBounds_toArray, List.set_cons_zero, List.set_cons_succ]
    refine wpAnyH_take (i := 42) (oi := ?o42_5) (v := ?v42_5) ?ho42_5 (by kernel_rfl) (by kernel_rfl) (by kernel_rfl) ?q42_5 ?y42_5 (by assumption) ?rest42_5
    case ho42_5 => (simp only [List.getElem?_toArray, List.getElem?_cons_succ, List.getElem?_cons_zero]; rfl)
    case q42_5 => exact fun _ _ _ h => h
    case y42_5 => (refine Or.inl ⟨by rfl, ?_⟩; intro w hSw; (try dsimp only at hSw); go_simp; try with_reducible rfl)
    try simp only [Act.put, List.setIfInBounds_toArray, List.set_cons_zero, List.set_cons_succ]
    refine wpAnyH_take (i := 43) (oi := ?o43_5) (v := ?v43_5) ?ho43_5 (by kernel_rfl) (by kernel_rfl) (by kernel_rfl) ?q43_5 ?y43_5 (by assumption) ?rest43_5
    case ho43_5 => (simp only [List.getElem?_toArray, List.getElem?_cons_succ, List.getElem?_cons_zero]; rfl)
    case q43_5 => exact fun _ _ _ h => h
    case y43_5 => (refine Or.inl ⟨by rfl, ?_⟩; intro w hSw; (try dsimp only at hSw); obtain ⟨qa, qb, qc, qd, qe⟩ := hSw.2.1.cells; go_simp; try with_reducible rfl)
    try simp only [Act.put, List.setIfInBounds_toArray, List.set_cons_zero, List.set_cons_succ]
    refine wpAnyH_take (i := 44) (oi := ?o44_5) (v := ?v44_5) ?ho44_5 (by kernel_rfl) (by kernel_rfl) (by kernel_rfl) ?q44_5 ?y44_5 (by assumption) ?rest44_5
    case ho44_5 => (simp only [List.getElem?_toArray, List.getElem?_cons_succ, List.getElem?_cons_zero]; rfl)
    case q44_5 => exact fun _ _ _ h => h
    case y44_5 => (refine Or.inl ⟨by rfl, ?_⟩; intro w hSw; (try dsimp only at hSw); go_simp; try with_reducible rfl)
    try simp only [Act.put, List.setIfInBounds_toArray, List.set_cons_zero, List.set_cons_succ]
    refine wpAnyH_take (i := 45) (oi := ?o45_5) (v := ?v45_5) ?ho45_5 (by kernel_rfl) (by kernel_rfl) (by kernel_rfl) ?q45_5 ?y45_5 (by assumption) ?rest45_5
    case ho45_5 => (simp only [List.getElem?_toArray, List.getElem?_cons_succ, List.getElem?_cons_zero]; rfl)
    case q45_5 => exact fun _ _ _ h => h
    case y45_5 => (refine Or.inl ⟨by rfl, ?_⟩; intro w hSw; (try dsimp only at hSw); obtain ⟨qa, qb, qc, qd, qe⟩ := hSw.2.1.cells; go_simp; try with_reducible rfl)
    try simp only [Act.put, List.setIfInBounds_toArray, List.set_cons_zero, List.set_cons_succ]
    refine wpAnyH_take (i := 46) (oi := ?o46_5) (v := ?v46_5) ?ho46_5 (by kernel_rfl) (by kernel_rfl) (by kernel_rfl) ?q46_5 ?y46_5 (by assumption) ?rest46_5
    case ho46_5 => (simp only [List.getElem?_toArray, List.getElem?_cons_succ, List.getElem?_cons_zero]; rfl)
    case q46_5 => exact fun _ _ _ h => h
    case y46_5 => (refine Or.inl ⟨by rfl, ?_⟩; intro w hSw; (try dsimp only at hSw); go_simp; try with_reducible rfl)
    try simp only [Act.put, List.setIfInBounds_toArray, List.set_cons_zero, List.set_cons_succ]
    refine wpAnyH_take (i := 47) (oi := ?o47_5) (v := ?v47_5) ?ho47_5 (by kernel_rfl) (by kernel_rfl) (by kernel_rfl) ?q47_5 ?y47_5 (by assumption) ?rest47_5
    case ho47_5 => (simp only [List.getElem?_toArray, List.getElem?_cons_succ, List.getElem?_cons_zero]; rfl)
    case q47_5 => exact fun _ _ _ h => h
    case y47_5 => (refine Or.inl ⟨by rfl, ?_⟩; intro w hSw; (try dsimp only at hSw); go_simp; try with_reducible rfl)
    try simp only [Act.put, List.setIfInBounds_toArray, List.set_cons_zero, List.set_cons_succ]
    refine wpAnyH_take (i := 48) (oi := ?o48_5) (v := ?v48_5) ?ho48_5 (by kernel_rfl) (by kernel_rfl) (by kernel_rfl) ?q48_5 ?y48_5 (by assumption) ?rest48_5
    case ho48_5 => (simp only [List.getElem?_toArray, List.getElem?_cons_succ, List.getElem?_cons_zero]; rfl)
    case q48_5 => exact fun _ _ _ h => h
    case y48_5 => (refine Or.inl ⟨by rfl, ?_⟩; intro w hSw; (try dsimp only at hSw); go_simp; try with_reducible rfl)
    try simp only [Act.put, List.setIfInBounds_toArray, List.set_cons_zero, List.set_cons_succ]
    refine wpAnyH_take (i := 49) (oi := ?o49_5) (v := ?v49_5) ?ho49_5 (by kernel_rfl) (by kernel_rfl) (by kernel_rfl) ?q49_5 ?y49_5 (by assumption) ?rest49_5
    case ho49_5 => (simp only [List.getElem?_toArray, List.getElem?_cons_succ, List.getElem?_cons_zero]; rfl)
    case q49_5 => exact fun _ _ _ h => h
    case y49_5 => (refine Or.inl ⟨by rfl, ?_⟩; intro w hSw; (try dsimp only at hSw); go_simp; try with_reducible rfl)
    try simp only [Act.put, List.setIfInBounds_toArray, List.set_cons_zero, List.set_cons_succ]
    refine wpAnyH_take (i := 50) (oi := ?o50_5) (v := ?v50_5) ?ho50_5 (by kernel_rfl) (by kernel_rfl) (by kernel_rfl) ?q50_5 ?y50_5 (by assumption) ?rest50_5
    case ho50_5 => (simp only [List.getElem?_toArray, List.getElem?_cons_succ, List.getElem?_cons_zero]; rfl)
    case q50_5 => exact fun _ _ _ h => h
    case y50_5 => (refine Or.inl ⟨by rfl, ?_⟩; intro w hSw; (try dsimp only at hSw); go_simp; try with_reducible rfl)
    try simp only [Act.put, List.setIfInBounds_toArray, List.set_cons_zero, List.set_cons_succ]
    refine wpAnyH_done (by kernel_rfl) ?_ _

    have HF := Lib.hid hHeld
    clear hHeld
    go_wp2
    go_ret
    exact ⟨rfl, HF.out.1⟩
  · have HNX : Hid (∀ W, IsCon W R S len T Y s → Calls Try.prog 19 #[.pointer (some ⟨R, 0, none⟩)] W fun e w' => e = .returned (.tuple #[.int .u64 0, .bool false]) ∧ Q W w') := fun W hW => by
      have := cnext_any W hW
      rwa [if_neg hlt, decide_eq_false hlt] at this
    have g1 : ¬ (s.c : Int) < len := by omega
    go_enter Try.func10, Try.ntmps10
    go_wp2_with fail
    rw [← HW0.out]
    refine (HNX.out _ HS0.out.2.2.1).mono ?_
    rintro e W1 ⟨rfl, hq⟩
    have HS1 := Lib.hid (HS0.out.on (hq.below _))
    obtain ⟨p0, p1, p2, p3, p4⟩ := HS1.out.2.1.cells
    clear hq HNX HS0
    go_wp2_with fail
    refine wp_region_held_drew (S := ConS w R S len T Y s a cap ra rc oa oc) (by kernel_rfl) (HS1.out.on ((Below.refl _ _).drew)) (fun hHeld => ?_)
    refine wpAnyH_take (i := 0) (oi := ?o0_5z) (v := ?v0_5z) ?ho0_5z (by kernel_rfl) (by kernel_rfl) (by kernel_rfl) ?q0_5z ?y0_5z (by assumption) ?rest0_5z
    case ho0_5z => (simp only [List.getElem?_toArray, List.getElem?_cons_succ, List.getElem?_cons_zero]; rfl)
    case q0_5z => exact fun _ _ _ h => h
    case y0_5z => (refine Or.inl ⟨by rfl, ?_⟩; intro w hSw; (try dsimp only at hSw); go_simp; try with_reducible rfl)
    try simp only [Act.put, List.setIfInBounds_toArray, List.set_cons_zero, List.set_cons_succ]
    refine wpAnyH_take (i := 2) (oi := ?o2_5z) (v := ?v2_5z) ?ho2_5z (by kernel_rfl) (by kernel_rfl) (by kernel_rfl) ?q2_5z ?y2_5z (by assumption) ?rest2_5z
    case ho2_5z => (simp only [List.getElem?_toArray, List.getElem?_cons_succ, List.getElem?_cons_zero]; rfl)
    case q2_5z => exact fun _ _ _ h => h
    case y2_5z => (refine Or.inl ⟨by rfl, ?_⟩; intro w hSw; (try dsimp only at hSw); go_simp; try with_reducible rfl)
    try simp only [Act.put, List.setIfInBounds_toArray, List.set_cons_zero, List.set_cons_succ]
    refine wpAnyH_take (i := 3) (oi := ?o3_5z) (v := ?v3_5z) ?ho3_5z (by kernel_rfl) (by kernel_rfl) (by kernel_rfl) ?q3_5z ?y3_5z (by assumption) ?rest3_5z
    case ho3_5z => (simp only [List.getElem?_toArray, List.getElem?_cons_succ, List.getElem?_cons_zero]; rfl)
    case q3_5z => exact fun _ _ _ h => h
    case y3_5z => (refine Or.inl ⟨by rfl, ?_⟩; intro w hSw; (try dsimp only at hSw); obtain ⟨qa, qb, qc, qd, qe⟩ := hSw.2.1.cells; go_simp; try with_reducible rfl)
    try simp only [Act.put, List.setIfInBounds_toArray, List.set_cons_zero, List.set_cons_succ]
    refine wpAnyH_ready (rs := [1]) (by kernel_rfl) (by simp) (AllReadyH.cons rfl (fun Kx hKx => ?_) AllReadyH.nil)
    go_simp
    refine (cwaits_any _ hHeld.2.2.1).mono ?_
    rintro e v1 ⟨vw, rfl, hrow, hb⟩
    have hb1 := hHeld.on hb
    have HROW := Lib.hid hrow
    obtain ⟨wa, wc, rfl, hrow2⟩ := hrow
    clear hrow2 hb
    try go_wp2_with fail
    refine hKx.out _ _ hb1 (fun hHeld => ?_)
    clear hKx Kx
    try simp only [Act.put, List.setIfInBounds_toArray, List.set_cons_zero, List.set_cons_succ]
    refine wpAnyH_ready (rs := [4]) (by kernel_rfl) (by simp) (AllReadyH.cons rfl (fun Kx hKx => ?_) AllReadyH.nil)
    go_simp
    refine (same11 HN.out HROW.out hHeld.2.2.2.1).mono ?_
    rintro e v4 ⟨rfl, hq⟩
    have hb4 := hHeld.on (hq.below _)
    clear hq
    try go_wp2_with fail
    refine hKx.out _ _ hb4 (fun hHeld => ?_)
    clear hKx Kx
    try simp only [Act.put, List.setIfInBounds_toArray, List.set_cons_zero, List.set_cons_succ]
    refine wpAnyH_take (i := 5) (oi := ?o5_5z) (v := ?v5_5z) ?ho5_5z (by kernel_rfl) (by kernel_rfl) (by kernel_rfl) ?q5_5z ?y5_5z (by assumption) ?rest5_5z
    case ho5_5z => (simp only [List.getElem?_toArray, List.getElem?_cons_succ, List.getElem?_cons_zero]; rfl)
    case q5_5z => exact fun _ _ _ h => h
    case y5_5z => (refine Or.inl ⟨by rfl, ?_⟩; intro w hSw; (try dsimp only at hSw); go_simp; try with_reducible rfl)
    try simp only [Act.put, List.setIfInBounds_toArray, List.set_cons_zero, List.set_cons_succ]
    refine wpAnyH_take (i := 6) (oi := ?o6_5z) (v := ?v6_5z) ?ho6_5z (by kernel_rfl) (by kernel_rfl) (by kernel_rfl) ?q6_5z ?y6_5z (by assumption) ?rest6_5z
    case ho6_5z => (simp only [List.getElem?_toArray, List.getElem?_cons_succ, List.getElem?_cons_zero]; rfl)
    case q6_5z => exact fun _ _ _ h => h
    case y6_5z => (refine Or.inl ⟨by rfl, ?_⟩; intro w hSw; (try dsimp only at hSw); go_simp; try with_reducible rfl)
    try simp only [Act.put, List.setIfInBounds_toArray, List.set_cons_zero, List.set_cons_succ]
    refine wpAnyH_take (i := 8) (oi := ?o8_5z) (v := ?v8_5z) ?ho8_5z (by kernel_rfl) (by kernel_rfl) (by kernel_rfl) ?q8_5z ?y8_5z (by assumption) ?rest8_5z
    case ho8_5z => (simp only [List.getElem?_toArray, List.getElem?_cons_succ, List.getElem?_cons_zero]; rfl)
    case q8_5z => exact fun _ _ _ h => h
    case y8_5z => (refine Or.inl ⟨by rfl, ?_⟩; intro w hSw; (try dsimp only at hSw); go_simp; try with_reducible rfl)
    try simp only [Act.put, List.setIfInBounds_toArray, List.set_cons_zero, List.set_cons_succ]
    refine wpAnyH_take (i := 9) (oi := ?o9_5z) (v := ?v9_5z) ?ho9_5z (by kernel_rfl) (by kernel_rfl) (by kernel_rfl) ?q9_5z ?y9_5z (by assumption) ?rest9_5z
    case ho9_5z => (simp only [List.getElem?_toArray, List.getElem?_cons_succ, List.getElem?_cons_zero]; rfl)
    case q9_5z => exact fun _ _ _ h => h
    case y9_5z => (refine Or.inl ⟨by rfl, ?_⟩; intro w hSw; (try dsimp only at hSw); obtain ⟨qa, qb, qc, qd, qe⟩ := hSw.2.1.cells; go_simp; try with_reducible rfl)
    try simp only [Act.put, List.setIfInBounds_toArray, List.set_cons_zero, List.set_cons_succ]
    refine wpAnyH_ready (rs := [7]) (by kernel_rfl) (by simp) (AllReadyH.cons rfl (fun Kx hKx => ?_) AllReadyH.nil)
    go_simp
    refine (cout_any _ HM.out hHeld.2.2.1).mono ?_
    rintro e v7 ⟨vo, rfl, hrow, hb⟩
    have hb7 := hHeld.on hb
    have HROW7 := Lib.hid hrow
    obtain ⟨oa7, oc7, rfl, hrow2⟩ := hrow
    clear hrow2 hb
    try go_wp2_with fail
    refine hKx.out _ _ hb7 (fun hHeld => ?_)
    clear hKx Kx
    try simp only [Act.put, List.setIfInBounds_toArray, List.set_cons_zero, List.set_cons_succ]
    refine wpAnyH_ready (rs := [10]) (by kernel_rfl) (by simp) (AllReadyH.cons rfl (fun Kx hKx => ?_) AllReadyH.nil)
    go_simp
    refine (same11 HM5.out HROW7.out hHeld.2.2.2.2).mono ?_
    rintro e v10 ⟨rfl, hq⟩
    have hb10 := hHeld.on (hq.below _)
    clear hq
    try go_wp2_with fail
    refine hKx.out _ _ hb10 (fun hHeld => ?_)
    clear hKx Kx
    try simp only [Act.put, List.setIfInBounds_toArray, List.set_cons_zero, List.set_cons_succ]
    refine wpAnyH_take (i := 11) (oi := ?o11_5z) (v := ?v11_5z) ?ho11_5z (by kernel_rfl) (by kernel_rfl) (by kernel_rfl) ?q11_5z ?y11_5z (by assumption) ?rest11_5z
    case ho11_5z => (simp only [List.getElem?_toArray, List.getElem?_cons_succ, List.getElem?_cons_zero]; rfl)
    case q11_5z => exact fun _ _ _ h => h
    case y11_5z => (refine Or.inl ⟨by rfl, ?_⟩; intro w hSw; (try dsimp only at hSw); go_simp; try with_reducible rfl)
    try simp only [Act.put, List.setIfInBounds_toArray, List.set_cons_zero, List.set_cons_succ]
    refine wpAnyH_take (i := 12) (oi := ?o12_5z) (v := ?v12_5z) ?ho12_5z (by kernel_rfl) (by kernel_rfl) (by kernel_rfl) ?q12_5z ?y12_5z (by assumption) ?rest12_5z
    case ho12_5z => (simp only [List.getElem?_toArray, List.getElem?_cons_succ, List.getElem?_cons_zero]; rfl)
    case q12_5z => exact fun _ _ _ h => h
    case y12_5z => (refine Or.inl ⟨by rfl, ?_⟩; intro w hSw; (try dsimp only at hSw); go_simp; try with_reducible rfl)
    try simp only [Act.put, List.setIfInBounds_toArray, List.set_cons_zero, List.set_cons_succ]
    refine wpAnyH_take (i := 13) (oi := ?o13_5z) (v := ?v13_5z) ?ho13_5z (by kernel_rfl) (by kernel_rfl) (by kernel_rfl) ?q13_5z ?y13_5z (by assumption) ?rest13_5z
    case ho13_5z => (simp only [List.getElem?_toArray, List.getElem?_cons_succ, List.getElem?_cons_zero]; rfl)
    case q13_5z => exact fun _ _ _ h => h
    case y13_5z => (refine Or.inl ⟨by rfl, ?_⟩; intro w hSw; (try dsimp only at hSw); go_simp; try with_reducible rfl)
    try simp only [Act.put, List.setIfInBounds_toArray, List.set_cons_zero, List.set_cons_succ]
    refine wpAnyH_take (i := 15) (oi := ?o15_5z) (v := ?v15_5z) ?ho15_5z (by kernel_rfl) (by kernel_rfl) (by kernel_rfl) ?q15_5z ?y15_5z (by assumption) ?rest15_5z
    case ho15_5z => (simp only [List.getElem?_toArray, List.getElem?_cons_succ, List.getElem?_cons_zero]; rfl)
    case q15_5z => exact fun _ _ _ h => h
    case y15_5z => (refine Or.inl ⟨by rfl, ?_⟩; intro w hSw; (try dsimp only at hSw); go_simp; try with_reducible rfl)
    try simp only [Act.put, List.setIfInBounds_toArray, List.set_cons_zero, List.set_cons_succ]
    refine wpAnyH_take (i := 16) (oi := ?o16_5z) (v := ?v16_5z) ?ho16_5z (by kernel_rfl) (by kernel_rfl) (by kernel_rfl) ?q16_5z ?y16_5z (by assumption) ?rest16_5z
    case ho16_5z => (simp only [List.getElem?_toArray, List.getElem?_cons_succ, List.getElem?_cons_zero]; rfl)
    case q16_5z => exact fun _ _ _ h => h
    case y16_5z => (refine Or.inl ⟨by rfl, ?_⟩; intro w hSw; (try dsimp only at hSw); obtain ⟨qa, qb, qc, qd, qe⟩ := hSw.2.1.cells; go_simp; try with_reducible rfl)
    try simp only [Act.put, List.setIfInBounds_toArray, List.set_cons_zero, List.set_cons_succ]
    refine wpAnyH_ready (rs := [14]) (by kernel_rfl) (by simp) (AllReadyH.cons rfl (fun Kx hKx => ?_) AllReadyH.nil)
    go_simp
    refine (ccame_any _ hHeld.2.2.1).mono ?_
    rintro e w' ⟨rfl, hw⟩
    have hw := hw.symm
    subst hw
    try go_wp2_with fail
    refine hKx.out _ _ hHeld (fun hHeld => ?_)
    clear hKx Kx
    try simp only [Act.put, List.setIfInBounds_toArray, List.set_cons_zero, List.set_cons_succ]
    refine wpAnyH_take (i := 17) (oi := ?o17_5z) (v := ?v17_5z) ?ho17_5z (by kernel_rfl) (by kernel_rfl) (by kernel_rfl) ?q17_5z ?y17_5z (by assumption) ?rest17_5z
    case ho17_5z => (simp only [List.getElem?_toArray, List.getElem?_cons_succ, List.getElem?_cons_zero]; rfl)
    case q17_5z => exact fun _ _ _ h => h
    case y17_5z => (refine Or.inl ⟨by rfl, ?_⟩; intro w hSw; (try dsimp only at hSw); go_simp; try with_reducible rfl)
    try simp only [Act.put, List.setIfInBounds_toArray, List.set_cons_zero, List.set_cons_succ]
    refine wpAnyH_take (i := 18) (oi := ?o18_5z) (v := ?v18_5z) ?ho18_5z (by kernel_rfl) (by kernel_rfl) (by kernel_rfl) ?q18_5z ?y18_5z (by assumption) ?rest18_5z
    case ho18_5z => (simp only [List.getElem?_toArray, List.getElem?_cons_succ, List.getElem?_cons_zero]; rfl)
    case q18_5z => exact fun _ _ _ h => h
    case y18_5z => (refine Or.inl ⟨by rfl, ?_⟩; intro w hSw; (try dsimp only at hSw); go_simp; try with_reducible rfl)
    try simp only [Act.put, List.setIfInBounds_toArray, List.set_cons_zero, List.set_cons_succ]
    refine wpAnyH_take (i := 19) (oi := ?o19_5z) (v := ?v19_5z) ?ho19_5z (by kernel_rfl) (by kernel_rfl) (by kernel_rfl) ?q19_5z ?y19_5z (by assumption) ?rest19_5z
    case ho19_5z => (simp only [List.getElem?_toArray, List.getElem?_cons_succ, List.getElem?_cons_zero]; rfl)
    case q19_5z => exact fun _ _ _ h => h
    case y19_5z => (refine Or.inl ⟨by rfl, ?_⟩; intro w hSw; (try dsimp only at hSw); go_simp; try with_reducible rfl)
    try simp only [Act.put, List.setIfInBounds_toArray, List.set_cons_zero, List.set_cons_succ]
    refine wpAnyH_take (i := 20) (oi := ?o20_5z) (v := ?v20_5z) ?ho20_5z (by kernel_rfl) (by kernel_rfl) (by kernel_rfl) ?q20_5z ?y20_5z (by assumption) ?rest20_5z
    case ho20_5z => (simp only [List.getElem?_toArray, List.getElem?_cons_succ, List.getElem?_cons_zero]; rfl)
    case q20_5z => exact fun _ _ _ h => h
    case y20_5z => (refine Or.inl ⟨by rfl, ?_⟩; intro w hSw; (try dsimp only at hSw); go_simp; try with_reducible rfl)
    try simp only [Act.put, List.setIfInBounds_toArray, List.set_cons_zero, List.set_cons_succ]
    refine wpAnyH_take (i := 22) (oi := ?o22_5z) (v := ?v22_5z) ?ho22_5z (by kernel_rfl) (by kernel_rfl) (by kernel_rfl) ?q22_5z ?y22_5z (by assumption) ?rest22_5z
    case ho22_5z => (simp only [List.getElem?_toArray, List.getElem?_cons_succ, List.getElem?_cons_zero]; rfl)
    case q22_5z => exact fun _ _ _ h => h
    case y22_5z => (refine Or.inl ⟨by rfl, ?_⟩; intro w hSw; (try dsimp only at hSw); go_simp; try with_reducible rfl)
    try simp only [Act.put, List.setIfInBounds_toArray, List.set_cons_zero, List.set_cons_succ]
    refine wpAnyH_take (i := 23) (oi := ?o23_5z) (v := ?v23_5z) ?ho23_5z (by kernel_rfl) (by kernel_rfl) (by kernel_rfl) ?q23_5z ?y23_5z (by assumption) ?rest23_5z
    case ho23_5z => (simp only [List.getElem?_toArray, List.getElem?_cons_succ, List.getElem?_cons_zero]; rfl)
    case q23_5z => exact fun _ _ _ h => h
    case y23_5z => (refine Or.inl ⟨by rfl, ?_⟩; intro w hSw; (try dsimp only at hSw); obtain ⟨qa, qb, qc, qd, qe⟩ := hSw.2.1.cells; go_simp; try with_reducible rfl)
    try simp only [Act.put, List.setIfInBounds_toArray, List.set_cons_zero, List.set_cons_succ]
    refine wpAnyH_ready (rs := [21]) (by kernel_rfl) (by simp) (AllReadyH.cons rfl (fun Kx hKx => ?_) AllReadyH.nil)
    go_simp
    refine (cover_any _ hHeld.2.2.1).mono ?_
    rintro e w' ⟨rfl, hw⟩
    have hw := hw.symm
    subst hw
    try go_wp2_with fail
    refine hKx.out _ _ hHeld (fun hHeld => ?_)
    clear hKx Kx
    try simp only [Act.put, List.setIfInBounds_toArray, List.set_cons_zero, List.set_cons_succ]
    refine wpAnyH_take (i := 24) (oi := ?o24_5z) (v := ?v24_5z) ?ho24_5z (by kernel_rfl) (by kernel_rfl) (by kernel_rfl) ?q24_5z ?y24_5z (by assumption) ?rest24_5z
    case ho24_5z => (simp only [List.getElem?_toArray, List.getElem?_cons_succ, List.getElem?_cons_zero]; rfl)
    case q24_5z => exact fun _ _ _ h => h
    case y24_5z => (refine Or.inl ⟨by rfl, ?_⟩; intro w hSw; (try dsimp only at hSw); go_simp; try with_reducible rfl)
    try simp only [Act.put, List.setIfInBounds_toArray, List.set_cons_zero, List.set_cons_succ]
    refine wpAnyH_take (i := 25) (oi := ?o25_5z) (v := ?v25_5z) ?ho25_5z (by kernel_rfl) (by kernel_rfl) (by kernel_rfl) ?q25_5z ?y25_5z (by assumption) ?rest25_5z
    case ho25_5z => (simp only [List.getElem?_toArray, List.getElem?_cons_succ, List.getElem?_cons_zero]; rfl)
    case q25_5z => exact fun _ _ _ h => h
    case y25_5z => (refine Or.inl ⟨by rfl, ?_⟩; intro w hSw; (try dsimp only at hSw); go_simp; try with_reducible rfl)
    try simp only [Act.put, List.setIfInBounds_toArray, List.set_cons_zero, List.set_cons_succ]
    refine wpAnyH_take (i := 26) (oi := ?o26_5z) (v := ?v26_5z) ?ho26_5z (by kernel_rfl) (by kernel_rfl) (by kernel_rfl) ?q26_5z ?y26_5z (by assumption) ?rest26_5z
    case ho26_5z => (simp only [List.getElem?_toArray, List.getElem?_cons_succ, List.getElem?_cons_zero]; rfl)
    case q26_5z => exact fun _ _ _ h => h
    case y26_5z => (refine Or.inl ⟨by rfl, ?_⟩; intro w hSw; (try dsimp only at hSw); go_simp; try with_reducible rfl)
    try simp only [Act.put, List.setIfInBounds_toArray, List.set_cons_zero, List.set_cons_succ]
    refine wpAnyH_take (i := 27) (oi := ?o27_5z) (v := ?v27_5z) ?ho27_5z (by kernel_rfl) (by kernel_rfl) (by kernel_rfl) ?q27_5z ?y27_5z (by assumption) ?rest27_5z
    case ho27_5z => (simp only [List.getElem?_toArray, List.getElem?_cons_succ, List.getElem?_cons_zero]; rfl)
    case q27_5z => exact fun _ _ _ h => h
    case y27_5z => (refine Or.inl ⟨by rfl, ?_⟩; intro w hSw; (try dsimp only at hSw); go_simp; try with_reducible rfl)
    try simp only [Act.put, List.setIfInBounds_toArray, List.set_cons_zero, List.set_cons_succ]
    refine wpAnyH_take (i := 29) (oi := ?o29_5z) (v := ?v29_5z) ?ho29_5z (by kernel_rfl) (by kernel_rfl) (by kernel_rfl) ?q29_5z ?y29_5z (by assumption) ?rest29_5z
    case ho29_5z => (simp only [List.getElem?_toArray, List.getElem?_cons_succ, List.getElem?_cons_zero]; rfl)
    case q29_5z => exact fun _ _ _ h => h
    case y29_5z => (refine Or.inl ⟨by rfl, ?_⟩; intro w hSw; (try dsimp only at hSw); go_simp; try with_reducible rfl)
    try simp only [Act.put, List.setIfInBounds_toArray, List.set_cons_zero, List.set_cons_succ]
    refine wpAnyH_take (i := 30) (oi := ?o30_5z) (v := ?v30_5z) ?ho30_5z (by kernel_rfl) (by kernel_rfl) (by kernel_rfl) ?q30_5z ?y30_5z (by assumption) ?rest30_5z
    case ho30_5z => (simp only [List.getElem?_toArray, List.getElem?_cons_succ, List.getElem?_cons_zero]; rfl)
    case q30_5z => exact fun _ _ _ h => h
    case y30_5z => (refine Or.inl ⟨by rfl, ?_⟩; intro w hSw; (try dsimp only at hSw); obtain ⟨qa, qb, qc, qd, qe⟩ := hSw.2.1.cells; go_simp; try with_reducible rfl)
    try simp only [Act.put, List.setIfInBounds_toArray, List.set_cons_zero, List.set_cons_succ]
    refine wpAnyH_take (i := 31) (oi := ?o31_5z) (v := ?v31_5z) ?ho31_5z (by kernel_rfl) (by kernel_rfl) (by kernel_rfl) ?q31_5z ?y31_5z (by assumption) ?rest31_5z
    case ho31_5z => (simp only [List.getElem?_toArray, List.getElem?_cons_succ, List.getElem?_cons_zero]; rfl)
    case q31_5z => exact fun _ _ _ h => h
    case y31_5z => (refine Or.inl ⟨by rfl, ?_⟩; intro w hSw; (try dsimp only at hSw); go_simp; try with_reducible rfl)
    try simp only [Act.put, List.setIfInBounds_toArray, List.set_cons_zero, List.set_cons_succ]
    refine wpAnyH_take (i := 32) (oi := ?o32_5z) (v := ?v32_5z) ?ho32_5z (by kernel_rfl) (by kernel_rfl) (by kernel_rfl) ?q32_5z ?y32_5z (by assumption) ?rest32_5z
    case ho32_5z => (simp only [List.getElem?_toArray, List.getElem?_cons_succ, List.getElem?_cons_zero]; rfl)
    case q32_5z => exact fun _ _ _ h => h
    case y32_5z => (refine Or.inl ⟨by rfl, ?_⟩; intro w hSw; (try dsimp only at hSw); go_simp; try with_reducible rfl)
    try simp only [Act.put, List.setIfInBounds_toArray, List.set_cons_zero, List.set_cons_succ]
    refine wpAnyH_ready (rs := [28]) (by kernel_rfl) (by simp) (AllReadyH.cons rfl (fun Kx hKx => ?_) AllReadyH.nil)
    go_simp
    refine (HRDY.out _ hHeld.2.2.1).mono ?_
    rintro e w' ⟨rfl, hw⟩
    have hw := hw.symm
    subst hw
    try go_wp2_with fail
    refine hKx.out _ _ hHeld (fun hHeld => ?_)
    clear hKx Kx
    try simp only [Act.put, List.setIfInBounds_toArray, List.set_cons_zero, List.set_cons_succ]
    refine wpAnyH_take (i := 33) (oi := ?o33_5z) (v := ?v33_5z) ?ho33_5z (by kernel_rfl) (by kernel_rfl) (by kernel_rfl) ?q33_5z ?y33_5z (by assumption) ?rest33_5z
    case ho33_5z => (simp only [List.getElem?_toArray, List.getElem?_cons_succ, List.getElem?_cons_zero]; rfl)
    case q33_5z => exact fun _ _ _ h => h
    case y33_5z => (refine Or.inl ⟨by rfl, ?_⟩; intro w hSw; (try dsimp only at hSw); go_simp; try with_reducible rfl)
    try simp only [Act.put, List.setIfInBounds_toArray, List.set_cons_zero, List.set_cons_succ]
    refine wpAnyH_take (i := 34) (oi := ?o34_5z) (v := ?v34_5z) ?ho34_5z (by kernel_rfl) (by kernel_rfl) (by kernel_rfl) ?q34_5z ?y34_5z (by assumption) ?rest34_5z
    case ho34_5z => (simp only [List.getElem?_toArray, List.getElem?_cons_succ, List.getElem?_cons_zero]; rfl)
    case q34_5z => exact fun _ _ _ h => h
    case y34_5z => (refine Or.inl ⟨by rfl, ?_⟩; intro w hSw; (try dsimp only at hSw); go_simp; try with_reducible rfl)
    try simp only [Act.put, List.setIfInBounds_toArray, List.set_cons_zero, List.set_cons_succ]
    refine wpAnyH_take (i := 35) (oi := ?o35_5z) (v := ?v35_5z) ?ho35_5z (by kernel_rfl) (by kernel_rfl) (by kernel_rfl) ?q35_5z ?y35_5z (by assumption) ?rest35_5z
    case ho35_5z => (simp only [List.getElem?_toArray, List.getElem?_cons_succ, List.getElem?_cons_zero]; rfl)
    case q35_5z => exact fun _ _ _ h => h
    case y35_5z => (refine Or.inl ⟨by rfl, ?_⟩; intro w hSw; (try dsimp only at hSw); go_simp; try with_reducible rfl)
    try simp only [Act.put, List.setIfInBounds_toArray, List.set_cons_zero, List.set_cons_succ]
    refine wpAnyH_take (i := 36) (oi := ?o36_5z) (v := ?v36_5z) ?ho36_5z (by kernel_rfl) (by kernel_rfl) (by kernel_rfl) ?q36_5z ?y36_5z (by assumption) ?rest36_5z
    case ho36_5z => (simp only [List.getElem?_toArray, List.getElem?_cons_succ, List.getElem?_cons_zero]; rfl)
    case q36_5z => exact fun _ _ _ h => h
    case y36_5z => (refine Or.inl ⟨by rfl, ?_⟩; intro w hSw; (try dsimp only at hSw); go_simp; try with_reducible rfl)
    try simp only [Act.put, List.setIfInBounds_toArray, List.set_cons_zero, List.set_cons_succ]
    refine wpAnyH_take (i := 37) (oi := ?o37_5z) (v := ?v37_5z) ?ho37_5z (by kernel_rfl) (by kernel_rfl) (by kernel_rfl) ?q37_5z ?y37_5z (by assumption) ?rest37_5z
    case ho37_5z => (simp only [List.getElem?_toArray, List.getElem?_cons_succ, List.getElem?_cons_zero]; rfl)
    case q37_5z => exact fun _ _ _ h => h
    case y37_5z => (refine Or.inl ⟨by rfl, ?_⟩; intro w hSw; (try dsimp only at hSw); go_simp; try with_reducible rfl)
    try simp only [Act.put, List.setIfInBounds_toArray, List.set_cons_zero, List.set_cons_succ]
    refine wpAnyH_take (i := 38) (oi := ?o38_5z) (v := ?v38_5z) ?ho38_5z (by kernel_rfl) (by kernel_rfl) (by kernel_rfl) ?q38_5z ?y38_5z (by assumption) ?rest38_5z
    case ho38_5z => (simp only [List.getElem?_toArray, List.getElem?_cons_succ, List.getElem?_cons_zero]; rfl)
    case q38_5z => exact fun _ _ _ h => h
    case y38_5z => (refine Or.inl ⟨by rfl, ?_⟩; intro w hSw; (try dsimp only at hSw); go_simp; try with_reducible rfl)
    try simp only [Act.put, List.setIfInBounds_toArray, List.set_cons_zero, List.set_cons_succ]
    refine wpAnyH_take (i := 39) (oi := ?o39_5z) (v := ?v39_5z) ?ho39_5z (by kernel_rfl) (by kernel_rfl) (by kernel_rfl) ?q39_5z ?y39_5z (by assumption) ?rest39_5z
    case ho39_5z => (simp only [List.getElem?_toArray, List.getElem?_cons_succ, List.getElem?_cons_zero]; rfl)
    case q39_5z => exact fun _ _ _ h => h
    case y39_5z => (refine Or.inl ⟨by rfl, ?_⟩; intro w hSw; (try dsimp only at hSw); go_simp; try with_reducible rfl)
    try simp only [Act.put, List.setIfInBounds_toArray, List.set_cons_zero, List.set_cons_succ]
    refine wpAnyH_take (i := 40) (oi := ?o40_5z) (v := ?v40_5z) ?ho40_5z (by kernel_rfl) (by kernel_rfl) (by kernel_rfl) ?q40_5z ?y40_5z (by assumption) ?rest40_5z
    case ho40_5z => (simp only [List.getElem?_toArray, List.getElem?_cons_succ, List.getElem?_cons_zero]; rfl)
    case q40_5z => exact fun _ _ _ h => h
    case y40_5z => (refine Or.inl ⟨by rfl, ?_⟩; intro w hSw; (try dsimp only at hSw); go_simp; try with_reducible rfl)
    try simp only [Act.put, List.setIfInBounds_toArray, List.set_cons_zero, List.set_cons_succ]
    refine wpAnyH_take (i := 41) (oi := ?o41_5z) (v := ?v41_5z) ?ho41_5z (by kernel_rfl) (by kernel_rfl) (by kernel_rfl) ?q41_5z ?y41_5z (by assumption) ?rest41_5z
    case ho41_5z => (simp only [List.getElem?_toArray, List.getElem?_cons_succ, List.getElem?_cons_zero]; rfl)
    case q41_5z => exact fun _ _ _ h => h
    case y41_5z => (refine Or.inl ⟨by rfl, ?_⟩; intro w hSw; (try dsimp only at hSw); go_simp; try with_reducible rfl)
    try simp only [Act.put, List.setIfInBounds_toArray, List.set_cons_zero, List.set_cons_succ]
    refine wpAnyH_take (i := 42) (oi := ?o42_5z) (v := ?v42_5z) ?ho42_5z (by kernel_rfl) (by kernel_rfl) (by kernel_rfl) ?q42_5z ?y42_5z (by assumption) ?rest42_5z
    case ho42_5z => (simp only [List.getElem?_toArray, List.getElem?_cons_succ, List.getElem?_cons_zero]; rfl)
    case q42_5z => exact fun _ _ _ h => h
    case y42_5z => (refine Or.inl ⟨by rfl, ?_⟩; intro w hSw; (try dsimp only at hSw); go_simp; try with_reducible rfl)
    try simp only [Act.put, List.setIfInBounds_toArray, List.set_cons_zero, List.set_cons_succ]
    refine wpAnyH_take (i := 43) (oi := ?o43_5z) (v := ?v43_5z) ?ho43_5z (by kernel_rfl) (by kernel_rfl) (by kernel_rfl) ?q43_5z ?y43_5z (by assumption) ?rest43_5z
    case ho43_5z => (simp only [List.getElem?_toArray, List.getElem?_cons_succ, List.getElem?_cons_zero]; rfl)
    case q43_5z => exact fun _ _ _ h => h
    case y43_5z => (refine Or.inl ⟨by rfl, ?_⟩; intro w hSw; (try dsimp only at hSw); obtain ⟨qa, qb, qc, qd, qe⟩ := hSw.2.1.cells; go_simp; try with_reducible rfl)
    try simp only [Act.put, List.setIfInBounds_toArray, List.set_cons_zero, List.set_cons_succ]
    refine wpAnyH_take (i := 44) (oi := ?o44_5z) (v := ?v44_5z) ?ho44_5z (by kernel_rfl) (by kernel_rfl) (by kernel_rfl) ?q44_5z ?y44_5z (by assumption) ?rest44_5z
    case ho44_5z => (simp only [List.getElem?_toArray, List.getElem?_cons_succ, List.getElem?_cons_zero]; rfl)
    case q44_5z => exact fun _ _ _ h => h
    case y44_5z => (refine Or.inl ⟨by rfl, ?_⟩; intro w hSw; (try dsimp only at hSw); go_simp; try with_reducible rfl)
    try simp only [Act.put, List.setIfInBounds_toArray, List.set_cons_zero, List.set_cons_succ]
    refine wpAnyH_take (i := 45) (oi := ?o45_5z) (v := ?v45_5z) ?ho45_5z (by kernel_rfl) (by kernel_rfl) (by kernel_rfl) ?q45_5z ?y45_5z (by assumption) ?rest45_5z
    case ho45_5z => (simp only [List.getElem?_toArray, List.getElem?_cons_succ, List.getElem?_cons_zero]; rfl)
    case q45_5z => exact fun _ _ _ h => h
    case y45_5z => (refine Or.inl ⟨by rfl, ?_⟩; intro w hSw; (try dsimp only at hSw); obtain ⟨qa, qb, qc, qd, qe⟩ := hSw.2.1.cells; go_simp; try with_reducible rfl)
    try simp only [Act.put, List.setIfInBounds_toArray, List.set_cons_zero, List.set_cons_succ]
    refine wpAnyH_take (i := 46) (oi := ?o46_5z) (v := ?v46_5z) ?ho46_5z (by kernel_rfl) (by kernel_rfl) (by kernel_rfl) ?q46_5z ?y46_5z (by assumption) ?rest46_5z
    case ho46_5z => (simp only [List.getElem?_toArray, List.getElem?_cons_succ, List.getElem?_cons_zero]; rfl)
    case q46_5z => exact fun _ _ _ h => h
    case y46_5z => (refine Or.inl ⟨by rfl, ?_⟩; intro w hSw; (try dsimp only at hSw); go_simp; try with_reducible rfl)
    try simp only [Act.put, List.setIfInBounds_toArray, List.set_cons_zero, List.set_cons_succ]
    refine wpAnyH_take (i := 47) (oi := ?o47_5z) (v := ?v47_5z) ?ho47_5z (by kernel_rfl) (by kernel_rfl) (by kernel_rfl) ?q47_5z ?y47_5z (by assumption) ?rest47_5z
    case ho47_5z => (simp only [List.getElem?_toArray, List.getElem?_cons_succ, List.getElem?_cons_zero]; rfl)
    case q47_5z => exact fun _ _ _ h => h
    case y47_5z => (refine Or.inl ⟨by rfl, ?_⟩; intro w hSw; (try dsimp only at hSw); go_simp; try with_reducible rfl)
    try simp only [Act.put, List.setIfInBounds_toArray, List.set_cons_zero, List.set_cons_succ]
    refine wpAnyH_take (i := 48) (oi := ?o48_5z) (v := ?v48_5z) ?ho48_5z (by kernel_rfl) (by kernel_rfl) (by kernel_rfl) ?q48_5z ?y48_5z (by assumption) ?rest48_5z
    case ho48_5z => (simp only [List.getElem?_toArray, List.getElem?_cons_succ, List.getElem?_cons_zero]; rfl)
    case q48_5z => exact fun _ _ _ h => h
    case y48_5z => (refine Or.inl ⟨by rfl, ?_⟩; intro w hSw; (try dsimp only at hSw); go_simp; try with_reducible rfl)
    try simp only [Act.put, List.setIfInBounds_toArray, List.set_cons_zero, List.set_cons_succ]
    refine wpAnyH_take (i := 49) (oi := ?o49_5z) (v := ?v49_5z) ?ho49_5z (by kernel_rfl) (by kernel_rfl) (by kernel_rfl) ?q49_5z ?y49_5z (by assumption) ?rest49_5z
    case ho49_5z => (simp only [List.getElem?_toArray, List.getElem?_cons_succ, List.getElem?_cons_zero]; rfl)
    case q49_5z => exact fun _ _ _ h => h
    case y49_5z => (refine Or.inl ⟨by rfl, ?_⟩; intro w hSw; (try dsimp only at hSw); go_simp; try with_reducible rfl)
    try simp only [Act.put, List.setIfInBounds_toArray, List.set_cons_zero, List.set_cons_succ]
    refine wpAnyH_take (i := 50) (oi := ?o50_5z) (v := ?v50_5z) ?ho50_5z (by kernel_rfl) (by kernel_rfl) (by kernel_rfl) ?q50_5z ?y50_5z (by assumption) ?rest50_5z
    case ho50_5z => (simp only [List.getElem?_toArray, List.getElem?_cons_succ, List.getElem?_cons_zero]; rfl)
    case q50_5z => exact fun _ _ _ h => h
    case y50_5z => (refine Or.inl ⟨by rfl, ?_⟩; intro w hSw; (try dsimp only at hSw); go_simp; try with_reducible rfl)
    try simp only [Act.put, List.setIfInBounds_toArray, List.set_cons_zero, List.set_cons_succ]
    refine wpAnyH_done (by kernel_rfl) ?_ _

    have HF := Lib.hid hHeld
    clear hHeld
    go_wp2
    go_ret
    exact ⟨rfl, HF.out.1⟩
end Go.Proofs.Ytbhmpfjmhjdcaaa
