/- Layer 12: one step, done by both. (By gen-constep.py.) -/
import Derived.Test.YtbhmpfjmhjdcaaaConStepC
namespace Go.Proofs.Ytbhmpfjmhjdcaaa
open Go.RowKit
set_option linter.unusedVariables false
set_option linter.unusedSimpArgs false

theorem CS.upN_m (T Y : Nat → Int) (t : Int) : ∀ (k : Nat) (s : CS), (CS.upN T Y t k s).m = s.m
  | 0, s => rfl
  | k + 1, s => by
    rw [CS.upN]
    split
    · rw [CS.upN_m T Y t k, (CS.come_m Y s).1]
    · rfl
theorem CS.up_m (K : Nat) (T Y : Nat → Int) (t : Int) (s : CS) : (s.up K T Y t).m = s.m := CS.upN_m T Y t _ s
theorem CS.rd_m (reg : Int) (s : CS) : (s.rd reg).m = s.m := by
  unfold CS.rd CS.pop
  split
  · split <;> rfl
  · rfl
theorem CS.wr_m (reg x : Int) (s : CS) : (s.wr reg x).m ≤ s.m + 1 := by
  unfold CS.wr
  split
  · exact Nat.le_refl _
  · exact Nat.le_succ _

set_option maxRecDepth 100000 in
set_option maxHeartbeats 2000000 in
theorem step12_1_0 {R : Nat} {S : Nat → Prop} {v : Value} {a : Option Addr} {len cap : Nat} {T Y : Nat → Int} {s : CS} (tick x : Int) (w : World) (hl : len ≤ 256) (hm : s.m ≤ 1000) (x0 : 0 ≤ x) (x1 : x < 4294967296) (ha : IsArr w a len cap T Y) (hna : 0 < len → ∀ ad, a = some ad → ¬ S ad.block) (hc : IsCon w R S len T Y s) (h : RefC S w v a len cap s) :
    Calls Try.prog 11 #[.pointer (some ⟨R, 0, none⟩), v, .agg #[.int .i64 1, .int .i64 0, .int .u64 tick, .int .u32 x]] w fun e w' => ∃ v', e = .returned (.tuple #[v', .bool true]) ∧ StepOut w R S a len cap T Y s.m v' w' := by
  obtain ⟨rx, out, rfl, hx, ho⟩ := h
  obtain ⟨ra, rc, rfl⟩ := hx.form
  obtain ⟨oa, oc, rfl⟩ := ho.form
  have hr : RefC S w (.agg #[.slice a len cap, .int .i64 (s.c : Int), .slice ra s.n rc, .bool s.ov, .slice oa s.m oc]) a len cap s := ⟨_, _, rfl, hx, ho⟩
  obtain ⟨hS, hB0, hsz⟩ := st_start w (.slice a len cap) (.int .i64 (s.c : Int)) (.slice ra s.n rc) (.bool s.ov) (.slice oa s.m oc) (.int .i64 1) (.int .i64 0) (.int .u64 tick) (.int .u32 x)
  obtain ⟨W0, hW0⟩ : ∃ W0, W0 = (((w.alloc (.cells #[.slice a len cap, .int .i64 (s.c : Int), .slice ra s.n rc, .bool s.ov, .slice oa s.m oc] 32)).alloc (.cells #[.int .i64 1, .int .i64 0, .int .u64 tick, .int .u32 x] 39)).alloc zero5) := ⟨_, rfl⟩
  rw [← hW0] at hS hB0 hsz
  have HW0 := Lib.hid hW0
  have HI := Lib.hid (hc.on hB0)
  have HSS := Lib.hid hc.lt
  have HLE := Lib.hid hc.le
  have HR : Hid (RefC (S3 S w) W0 (.agg #[.slice a len cap, .int .i64 (s.c : Int), .slice ra s.n rc, .bool s.ov, .slice oa s.m oc]) a len cap s) := (hr.more (by rintro k (h | h); exact .inl h; exact .inr (by omega))).on hB0
  have HX := Lib.hid hS
  have HB0 := Lib.hid hB0
  have HSZ := Lib.hid hsz
  have HF0 : Hid (Fr S w W0) := Fr.of S hB0
  have HA := Lib.hid (ha.on hB0)
  have HNA := Lib.hid hna
  have HM := Lib.hid hm
  have HL := Lib.hid hl
  clear hW0 hx ho hr hS hB0 hsz hc ha hna
  go_enter Try.func11, Try.ntmps11
  go_wp2_with fail
  rw [← HW0.out]
  refine (cup_any tick W0 HI.out).mono ?_
  rintro e w1 ⟨rfl, hc1, hf1⟩
  have HI1 := Lib.hid hc1
  have HF1 : Hid (Fr S w w1) := HF0.out.trans hf1
  have HX1 := Lib.hid (HX.out.fr hf1 HSS.out)
  have HR1 : Hid (RefC (S3 S w) w1 (.agg #[.slice a len cap, .int .i64 (s.c : Int), .slice ra s.n rc, .bool s.ov, .slice oa s.m oc]) a len cap s) := HR.out.step (hf1.mono (fun k h => .inl h)) (Ext.refl _ _)
  have HA1 := Lib.hid (HA.out.fr hf1 HNA.out)
  have HS31 : Hid (∀ k, S3 S w k → k < w1.heap.size) := fun k hk => by
    have l1 := HX1.out.lt
    rcases hk with h | h
    · have := HSS.out k h; omega
    · omega
  clear hc1 hf1
  obtain ⟨⟨b0, b1, b2, b3, b4⟩, ⟨s0, s1, s2, s3⟩, ⟨r0, r1, r2, r3, r4⟩, ⟨y0, y1, y2, y3, y4⟩⟩ := (show _ ∧ _ ∧ _ ∧ _ from ⟨HX1.out.1.cells, HX1.out.2.1.cells, HX1.out.2.2.cells, HX1.out.2.2.free⟩)
  go_wp2_with fail
  refine (rup_any (S3 S w) tick w1 HL.out HLE.out.1 HLE.out.2.2 (by have := HM.out; omega) HA1.out HR1.out HS31.out).mono ?_
  rintro e w2 ⟨v', rfl, hr2, hb2⟩
  have HI2 := Lib.hid (HI1.out.on hb2)
  have HX2 := Lib.hid (HX1.out.on hb2)
  have HF2 : Hid (Fr S w w2) := HF1.out.trans (Fr.of S hb2)
  have HM2 : Hid ((s.up len T Y tick).m ≤ s.m + 1) := by rw [CS.up_m]; exact Nat.le_succ _
  generalize s.up len T Y tick = s' at HI2 hr2 HM2
  obtain ⟨rx', out', rfl, hx', ho'⟩ := id hr2
  obtain ⟨ra', rc', rfl⟩ := hx'.form
  obtain ⟨oa', oc', rfl⟩ := ho'.form
  have HR2 := Lib.hid hr2
  clear b0 b1 b2 b3 b4 s0 s1 s2 s3 r0 r1 r2 r3 r4 y0 y1 y2 y3 y4
  clear hr2 hb2 hx' ho'
  obtain ⟨⟨b0, b1, b2, b3, b4⟩, ⟨s0, s1, s2, s3⟩, ⟨r0, r1, r2, r3, r4⟩, ⟨y0, y1, y2, y3, y4⟩⟩ := (show _ ∧ _ ∧ _ ∧ _ from ⟨HX2.out.1.cells, HX2.out.2.1.cells, HX2.out.2.2.cells, HX2.out.2.2.free⟩)
  go_wp2
  refine bodyPost_ret (v := .tuple #[.agg #[.slice a len cap, .int .i64 (s'.c : Int), .slice ra' s'.n rc', .bool s'.ov, .slice oa' s'.m oc'], .bool true]) (by simp [results, Try.results11, go_sem, r0, r1, r2, r3, r4]) rfl ⟨_, rfl, step_fin HI2.out HR2.out HM2.out HF2.out (fun k hk => .inl hk) HSS.out⟩

set_option maxRecDepth 100000 in
set_option maxHeartbeats 2000000 in
theorem step12_2_0 {R : Nat} {S : Nat → Prop} {v : Value} {a : Option Addr} {len cap : Nat} {T Y : Nat → Int} {s : CS} (tick x : Int) (w : World) (hl : len ≤ 256) (hm : s.m ≤ 1000) (x0 : 0 ≤ x) (x1 : x < 4294967296) (ha : IsArr w a len cap T Y) (hna : 0 < len → ∀ ad, a = some ad → ¬ S ad.block) (hc : IsCon w R S len T Y s) (h : RefC S w v a len cap s) :
    Calls Try.prog 11 #[.pointer (some ⟨R, 0, none⟩), v, .agg #[.int .i64 2, .int .i64 0, .int .u64 tick, .int .u32 x]] w fun e w' => ∃ v', e = .returned (.tuple #[v', .bool true]) ∧ StepOut w R S a len cap T Y s.m v' w' := by
  obtain ⟨rx, out, rfl, hx, ho⟩ := h
  obtain ⟨ra, rc, rfl⟩ := hx.form
  obtain ⟨oa, oc, rfl⟩ := ho.form
  have hr : RefC S w (.agg #[.slice a len cap, .int .i64 (s.c : Int), .slice ra s.n rc, .bool s.ov, .slice oa s.m oc]) a len cap s := ⟨_, _, rfl, hx, ho⟩
  obtain ⟨hS, hB0, hsz⟩ := st_start w (.slice a len cap) (.int .i64 (s.c : Int)) (.slice ra s.n rc) (.bool s.ov) (.slice oa s.m oc) (.int .i64 2) (.int .i64 0) (.int .u64 tick) (.int .u32 x)
  obtain ⟨W0, hW0⟩ : ∃ W0, W0 = (((w.alloc (.cells #[.slice a len cap, .int .i64 (s.c : Int), .slice ra s.n rc, .bool s.ov, .slice oa s.m oc] 32)).alloc (.cells #[.int .i64 2, .int .i64 0, .int .u64 tick, .int .u32 x] 39)).alloc zero5) := ⟨_, rfl⟩
  rw [← hW0] at hS hB0 hsz
  have HW0 := Lib.hid hW0
  have HI := Lib.hid (hc.on hB0)
  have HSS := Lib.hid hc.lt
  have HLE := Lib.hid hc.le
  have HR : Hid (RefC (S3 S w) W0 (.agg #[.slice a len cap, .int .i64 (s.c : Int), .slice ra s.n rc, .bool s.ov, .slice oa s.m oc]) a len cap s) := (hr.more (by rintro k (h | h); exact .inl h; exact .inr (by omega))).on hB0
  have HX := Lib.hid hS
  have HB0 := Lib.hid hB0
  have HSZ := Lib.hid hsz
  have HF0 : Hid (Fr S w W0) := Fr.of S hB0
  have HA := Lib.hid (ha.on hB0)
  have HNA := Lib.hid hna
  have HM := Lib.hid hm
  have HL := Lib.hid hl
  clear hW0 hx ho hr hS hB0 hsz hc ha hna
  go_enter Try.func11, Try.ntmps11
  go_wp2_with fail
  rw [← HW0.out]
  refine (cread_yes 0 W0 (by decide) HI.out).mono ?_
  rintro e w1 ⟨rfl, hc1, hf1⟩
  have HI1 := Lib.hid hc1
  have HF1 : Hid (Fr S w w1) := HF0.out.trans hf1
  have HX1 := Lib.hid (HX.out.fr hf1 HSS.out)
  have HR1 : Hid (RefC (S3 S w) w1 (.agg #[.slice a len cap, .int .i64 (s.c : Int), .slice ra s.n rc, .bool s.ov, .slice oa s.m oc]) a len cap s) := HR.out.step (hf1.mono (fun k h => .inl h)) (Ext.refl _ _)
  have HS31 : Hid (∀ k, S3 S w k → k < w1.heap.size) := fun k hk => by
    have l1 := HX1.out.lt
    rcases hk with h | h
    · have := HSS.out k h; omega
    · omega
  have HRR : Hid (Calls Try.prog 24 #[.agg #[.slice a len cap, .int .i64 (s.c : Int), .slice ra s.n rc, .bool s.ov, .slice oa s.m oc], .int .i64 0] w1 fun e w' => ∃ v', e = .returned (.tuple #[v', .int .u32 (s.val 0)]) ∧ RefC (S3 S w) w' v' a len cap (s.rd 0) ∧ Below w1.heap.size w1 w') := rread_0 (S3 S w) w1 HLE.out.2.2 (by have := HM.out; omega) HR1.out HS31.out
  have HM2 : Hid ((s.rd 0).m ≤ s.m + 1) := by rw [CS.rd_m]; exact Nat.le_succ _
  clear hc1 hf1 HR1
  generalize s.val 0 = y at HRR ⊢
  generalize s.rd 0 = s' at HI1 HRR HM2
  obtain ⟨⟨b0, b1, b2, b3, b4⟩, ⟨s0, s1, s2, s3⟩, ⟨r0, r1, r2, r3, r4⟩, ⟨y0, y1, y2, y3, y4⟩⟩ := (show _ ∧ _ ∧ _ ∧ _ from ⟨HX1.out.1.cells, HX1.out.2.1.cells, HX1.out.2.2.cells, HX1.out.2.2.free⟩)
  go_wp2_with fail
  refine HRR.out.mono ?_
  rintro e w2 ⟨v', rfl, hr2, hb2⟩
  have HI2 := Lib.hid (HI1.out.on hb2)
  have HX2 := Lib.hid (HX1.out.on hb2)
  have HF2 : Hid (Fr S w w2) := HF1.out.trans (Fr.of S hb2)
  obtain ⟨rx', out', rfl, hx', ho'⟩ := id hr2
  obtain ⟨ra', rc', rfl⟩ := hx'.form
  obtain ⟨oa', oc', rfl⟩ := ho'.form
  have hb3 : Below w2.heap.size w2 (w2.alloc (.cells #[.slice a len cap, .int .i64 (s'.c : Int), .slice ra' s'.n rc', .bool s'.ov, .slice oa' s'.m oc'] 32)) := (Below.refl _ _).alloc (Nat.le_refl _) _
  have HI3 := Lib.hid (HI2.out.on hb3)
  have HF3 : Hid (Fr S w (w2.alloc (.cells #[.slice a len cap, .int .i64 (s'.c : Int), .slice ra' s'.n rc', .bool s'.ov, .slice oa' s'.m oc'] 32))) := HF2.out.trans (Fr.of S hb3)
  have HR3 := Lib.hid (hr2.on hb3)
  have HX3 := Lib.hid (HX2.out.on hb3)
  clear b0 b1 b2 b3 b4 s0 s1 s2 s3 r0 r1 r2 r3 r4 y0 y1 y2 y3 y4
  clear hr2 hb2 hx' ho' hb3
  obtain ⟨⟨b0, b1, b2, b3, b4⟩, ⟨s0, s1, s2, s3⟩, ⟨r0, r1, r2, r3, r4⟩, ⟨y0, y1, y2, y3, y4⟩⟩ := (show _ ∧ _ ∧ _ ∧ _ from ⟨HX3.out.1.cells, HX3.out.2.1.cells, HX3.out.2.2.cells, HX3.out.2.2.free⟩)
  go_wp2
  refine bodyPost_ret (v := .tuple #[.agg #[.slice a len cap, .int .i64 (s'.c : Int), .slice ra' s'.n rc', .bool s'.ov, .slice oa' s'.m oc'], .bool true]) (by simp [results, Try.results11, go_sem, r0, r1, r2, r3, r4]) rfl ⟨_, rfl, step_fin HI3.out HR3.out HM2.out HF3.out (fun k hk => .inl hk) HSS.out⟩

set_option maxRecDepth 100000 in
set_option maxHeartbeats 2000000 in
theorem step12_3_0 {R : Nat} {S : Nat → Prop} {v : Value} {a : Option Addr} {len cap : Nat} {T Y : Nat → Int} {s : CS} (tick x : Int) (w : World) (hl : len ≤ 256) (hm : s.m ≤ 1000) (x0 : 0 ≤ x) (x1 : x < 4294967296) (ha : IsArr w a len cap T Y) (hna : 0 < len → ∀ ad, a = some ad → ¬ S ad.block) (hc : IsCon w R S len T Y s) (h : RefC S w v a len cap s) :
    Calls Try.prog 11 #[.pointer (some ⟨R, 0, none⟩), v, .agg #[.int .i64 3, .int .i64 0, .int .u64 tick, .int .u32 x]] w fun e w' => ∃ v', e = .returned (.tuple #[v', .bool true]) ∧ StepOut w R S a len cap T Y s.m v' w' := by
  obtain ⟨rx, out, rfl, hx, ho⟩ := h
  obtain ⟨ra, rc, rfl⟩ := hx.form
  obtain ⟨oa, oc, rfl⟩ := ho.form
  have hr : RefC S w (.agg #[.slice a len cap, .int .i64 (s.c : Int), .slice ra s.n rc, .bool s.ov, .slice oa s.m oc]) a len cap s := ⟨_, _, rfl, hx, ho⟩
  obtain ⟨hS, hB0, hsz⟩ := st_start w (.slice a len cap) (.int .i64 (s.c : Int)) (.slice ra s.n rc) (.bool s.ov) (.slice oa s.m oc) (.int .i64 3) (.int .i64 0) (.int .u64 tick) (.int .u32 x)
  obtain ⟨W0, hW0⟩ : ∃ W0, W0 = (((w.alloc (.cells #[.slice a len cap, .int .i64 (s.c : Int), .slice ra s.n rc, .bool s.ov, .slice oa s.m oc] 32)).alloc (.cells #[.int .i64 3, .int .i64 0, .int .u64 tick, .int .u32 x] 39)).alloc zero5) := ⟨_, rfl⟩
  rw [← hW0] at hS hB0 hsz
  have HW0 := Lib.hid hW0
  have HI := Lib.hid (hc.on hB0)
  have HSS := Lib.hid hc.lt
  have HLE := Lib.hid hc.le
  have HR : Hid (RefC (S3 S w) W0 (.agg #[.slice a len cap, .int .i64 (s.c : Int), .slice ra s.n rc, .bool s.ov, .slice oa s.m oc]) a len cap s) := (hr.more (by rintro k (h | h); exact .inl h; exact .inr (by omega))).on hB0
  have HX := Lib.hid hS
  have HB0 := Lib.hid hB0
  have HSZ := Lib.hid hsz
  have HF0 : Hid (Fr S w W0) := Fr.of S hB0
  have HA := Lib.hid (ha.on hB0)
  have HNA := Lib.hid hna
  have HM := Lib.hid hm
  have HL := Lib.hid hl
  clear hW0 hx ho hr hS hB0 hsz hc ha hna
  go_enter Try.func11, Try.ntmps11
  go_wp2_with fail
  rw [← HW0.out]
  refine (cwrite_yes 0 x W0 (by decide) (by have := HM.out; omega) HI.out).mono ?_
  rintro e w1 ⟨rfl, S', hc1, hf1, he1⟩
  have HI1 := Lib.hid hc1
  have HF1 : Hid (Fr S w w1) := HF0.out.trans hf1
  have HX1 := Lib.hid (HX.out.fr hf1 HSS.out)
  have HE : Hid (∀ k, S' k → S k ∨ w.heap.size + 3 ≤ k) := fun k hk => by have := HSZ.out; rcases he1 k hk with h | h; exact .inl h; exact .inr (by omega)
  have HR1 : Hid (RefC (S3 S' w) w1 (.agg #[.slice a len cap, .int .i64 (s.c : Int), .slice ra s.n rc, .bool s.ov, .slice oa s.m oc]) a len cap s) := HR.out.step (hf1.mono (fun k h => .inl h)) (by rintro k (h | h); (rcases he1 k h with h | h; exact .inl (.inl h); exact .inr h); exact .inl (.inr h))
  have HS31 : Hid (∀ k, S3 S' w k → k < w1.heap.size) := fun k hk => by
    have l1 := HX1.out.lt
    rcases hk with h | h
    · exact hc1.lt k h
    · omega
  have HRR : Hid (Calls Try.prog 25 #[.agg #[.slice a len cap, .int .i64 (s.c : Int), .slice ra s.n rc, .bool s.ov, .slice oa s.m oc], .int .i64 0, .int .u32 x] w1 fun e w' => ∃ v', e = .returned v' ∧ RefC (S3 S' w) w' v' a len cap (s.wr 0 x) ∧ Below w1.heap.size w1 w') := rwrite_0 (S3 S' w) x x0 x1 w1 HLE.out.2.2 (by have := HM.out; omega) HR1.out HS31.out
  have HM2 : Hid ((s.wr 0 x).m ≤ s.m + 1) := CS.wr_m _ _ _
  clear hc1 hf1 he1 HR1
  generalize s.wr 0 x = s' at HI1 HRR HM2
  obtain ⟨⟨b0, b1, b2, b3, b4⟩, ⟨s0, s1, s2, s3⟩, ⟨r0, r1, r2, r3, r4⟩, ⟨y0, y1, y2, y3, y4⟩⟩ := (show _ ∧ _ ∧ _ ∧ _ from ⟨HX1.out.1.cells, HX1.out.2.1.cells, HX1.out.2.2.cells, HX1.out.2.2.free⟩)
  go_wp2_with fail
  refine HRR.out.mono ?_
  rintro e w2 ⟨v', rfl, hr2, hb2⟩
  have HI2 := Lib.hid (HI1.out.on hb2)
  have HX2 := Lib.hid (HX1.out.on hb2)
  have HF2 : Hid (Fr S w w2) := HF1.out.trans (Fr.of S hb2)
  obtain ⟨rx', out', rfl, hx', ho'⟩ := id hr2
  obtain ⟨ra', rc', rfl⟩ := hx'.form
  obtain ⟨oa', oc', rfl⟩ := ho'.form
  have HR2 := Lib.hid hr2
  clear b0 b1 b2 b3 b4 s0 s1 s2 s3 r0 r1 r2 r3 r4 y0 y1 y2 y3 y4
  clear hr2 hb2 hx' ho'
  obtain ⟨⟨b0, b1, b2, b3, b4⟩, ⟨s0, s1, s2, s3⟩, ⟨r0, r1, r2, r3, r4⟩, ⟨y0, y1, y2, y3, y4⟩⟩ := (show _ ∧ _ ∧ _ ∧ _ from ⟨HX2.out.1.cells, HX2.out.2.1.cells, HX2.out.2.2.cells, HX2.out.2.2.free⟩)
  go_wp2
  refine bodyPost_ret (v := .tuple #[.agg #[.slice a len cap, .int .i64 (s'.c : Int), .slice ra' s'.n rc', .bool s'.ov, .slice oa' s'.m oc'], .bool true]) (by simp [results, Try.results11, go_sem, r0, r1, r2, r3, r4]) rfl ⟨_, rfl, step_fin HI2.out HR2.out HM2.out HF2.out HE.out HSS.out⟩

set_option maxRecDepth 100000 in
set_option maxHeartbeats 2000000 in
theorem step12_o_0 {R : Nat} {S : Nat → Prop} {v : Value} {a : Option Addr} {len cap : Nat} {T Y : Nat → Int} {s : CS} (kind : Int) (tick x : Int) (w : World) (hl : len ≤ 256) (hm : s.m ≤ 1000) (x0 : 0 ≤ x) (x1 : x < 4294967296) (ha : IsArr w a len cap T Y) (hna : 0 < len → ∀ ad, a = some ad → ¬ S ad.block) (hc : IsCon w R S len T Y s) (h : RefC S w v a len cap s) (k1 : kind ≠ 1) (k2 : kind ≠ 2) (k3 : kind ≠ 3) :
    Calls Try.prog 11 #[.pointer (some ⟨R, 0, none⟩), v, .agg #[.int .i64 kind, .int .i64 0, .int .u64 tick, .int .u32 x]] w fun e w' => ∃ v', e = .returned (.tuple #[v', .bool true]) ∧ StepOut w R S a len cap T Y s.m v' w' := by
  have e1 : (kind == 1) = false := by simpa using k1
  have e2 : (kind == 2) = false := by simpa using k2
  have e3 : (kind == 3) = false := by simpa using k3
  obtain ⟨rx, out, rfl, hx, ho⟩ := h
  obtain ⟨ra, rc, rfl⟩ := hx.form
  obtain ⟨oa, oc, rfl⟩ := ho.form
  have hb : Below w.heap.size w (((w.alloc (.cells #[.slice a len cap, .int .i64 (s.c : Int), .slice ra s.n rc, .bool s.ov, .slice oa s.m oc] 32)).alloc (.cells #[.int .i64 kind, .int .i64 0, .int .u64 tick, .int .u32 x] 39)).alloc (.cells #[.slice a len cap, .int .i64 (s.c : Int), .slice ra s.n rc, .bool s.ov, .slice oa s.m oc] 32)) := (((Below.refl _ _).alloc (Nat.le_refl _) _).alloc (by simp) _).alloc (by simp; omega) _
  have HE : Hid (StepOut w R S a len cap T Y s.m (.agg #[.slice a len cap, .int .i64 (s.c : Int), .slice ra s.n rc, .bool s.ov, .slice oa s.m oc]) (((w.alloc (.cells #[.slice a len cap, .int .i64 (s.c : Int), .slice ra s.n rc, .bool s.ov, .slice oa s.m oc] 32)).alloc (.cells #[.int .i64 kind, .int .i64 0, .int .u64 tick, .int .u32 x] 39)).alloc (.cells #[.slice a len cap, .int .i64 (s.c : Int), .slice ra s.n rc, .bool s.ov, .slice oa s.m oc] 32))) := ⟨s, S, hc.on hb, ⟨_, _, rfl, hx.on hb, ho.on hb⟩, Nat.le_succ _, Fr.of S hb, Ext.refl _ _⟩
  clear hx ho hb hc ha hna k1 k2 k3 x0 x1 hm hl
  go_enter Try.func11, Try.ntmps11
  go_wp2
  refine bodyPost_ret (v := .tuple #[.agg #[.slice a len cap, .int .i64 (s.c : Int), .slice ra s.n rc, .bool s.ov, .slice oa s.m oc], .bool true]) (by simp [results, Try.results11, go_sem]) rfl ⟨_, rfl, HE.out⟩

set_option maxRecDepth 100000 in
set_option maxHeartbeats 2000000 in
theorem step12_1_4 {R : Nat} {S : Nat → Prop} {v : Value} {a : Option Addr} {len cap : Nat} {T Y : Nat → Int} {s : CS} (tick x : Int) (w : World) (hl : len ≤ 256) (hm : s.m ≤ 1000) (x0 : 0 ≤ x) (x1 : x < 4294967296) (ha : IsArr w a len cap T Y) (hna : 0 < len → ∀ ad, a = some ad → ¬ S ad.block) (hc : IsCon w R S len T Y s) (h : RefC S w v a len cap s) :
    Calls Try.prog 11 #[.pointer (some ⟨R, 0, none⟩), v, .agg #[.int .i64 1, .int .i64 4, .int .u64 tick, .int .u32 x]] w fun e w' => ∃ v', e = .returned (.tuple #[v', .bool true]) ∧ StepOut w R S a len cap T Y s.m v' w' := by
  obtain ⟨rx, out, rfl, hx, ho⟩ := h
  obtain ⟨ra, rc, rfl⟩ := hx.form
  obtain ⟨oa, oc, rfl⟩ := ho.form
  have hr : RefC S w (.agg #[.slice a len cap, .int .i64 (s.c : Int), .slice ra s.n rc, .bool s.ov, .slice oa s.m oc]) a len cap s := ⟨_, _, rfl, hx, ho⟩
  obtain ⟨hS, hB0, hsz⟩ := st_start w (.slice a len cap) (.int .i64 (s.c : Int)) (.slice ra s.n rc) (.bool s.ov) (.slice oa s.m oc) (.int .i64 1) (.int .i64 4) (.int .u64 tick) (.int .u32 x)
  obtain ⟨W0, hW0⟩ : ∃ W0, W0 = (((w.alloc (.cells #[.slice a len cap, .int .i64 (s.c : Int), .slice ra s.n rc, .bool s.ov, .slice oa s.m oc] 32)).alloc (.cells #[.int .i64 1, .int .i64 4, .int .u64 tick, .int .u32 x] 39)).alloc zero5) := ⟨_, rfl⟩
  rw [← hW0] at hS hB0 hsz
  have HW0 := Lib.hid hW0
  have HI := Lib.hid (hc.on hB0)
  have HSS := Lib.hid hc.lt
  have HLE := Lib.hid hc.le
  have HR : Hid (RefC (S3 S w) W0 (.agg #[.slice a len cap, .int .i64 (s.c : Int), .slice ra s.n rc, .bool s.ov, .slice oa s.m oc]) a len cap s) := (hr.more (by rintro k (h | h); exact .inl h; exact .inr (by omega))).on hB0
  have HX := Lib.hid hS
  have HB0 := Lib.hid hB0
  have HSZ := Lib.hid hsz
  have HF0 : Hid (Fr S w W0) := Fr.of S hB0
  have HA := Lib.hid (ha.on hB0)
  have HNA := Lib.hid hna
  have HM := Lib.hid hm
  have HL := Lib.hid hl
  clear hW0 hx ho hr hS hB0 hsz hc ha hna
  go_enter Try.func11, Try.ntmps11
  go_wp2_with fail
  rw [← HW0.out]
  refine (cup_any tick W0 HI.out).mono ?_
  rintro e w1 ⟨rfl, hc1, hf1⟩
  have HI1 := Lib.hid hc1
  have HF1 : Hid (Fr S w w1) := HF0.out.trans hf1
  have HX1 := Lib.hid (HX.out.fr hf1 HSS.out)
  have HR1 : Hid (RefC (S3 S w) w1 (.agg #[.slice a len cap, .int .i64 (s.c : Int), .slice ra s.n rc, .bool s.ov, .slice oa s.m oc]) a len cap s) := HR.out.step (hf1.mono (fun k h => .inl h)) (Ext.refl _ _)
  have HA1 := Lib.hid (HA.out.fr hf1 HNA.out)
  have HS31 : Hid (∀ k, S3 S w k → k < w1.heap.size) := fun k hk => by
    have l1 := HX1.out.lt
    rcases hk with h | h
    · have := HSS.out k h; omega
    · omega
  clear hc1 hf1
  obtain ⟨⟨b0, b1, b2, b3, b4⟩, ⟨s0, s1, s2, s3⟩, ⟨r0, r1, r2, r3, r4⟩, ⟨y0, y1, y2, y3, y4⟩⟩ := (show _ ∧ _ ∧ _ ∧ _ from ⟨HX1.out.1.cells, HX1.out.2.1.cells, HX1.out.2.2.cells, HX1.out.2.2.free⟩)
  go_wp2_with fail
  refine (rup_any (S3 S w) tick w1 HL.out HLE.out.1 HLE.out.2.2 (by have := HM.out; omega) HA1.out HR1.out HS31.out).mono ?_
  rintro e w2 ⟨v', rfl, hr2, hb2⟩
  have HI2 := Lib.hid (HI1.out.on hb2)
  have HX2 := Lib.hid (HX1.out.on hb2)
  have HF2 : Hid (Fr S w w2) := HF1.out.trans (Fr.of S hb2)
  have HM2 : Hid ((s.up len T Y tick).m ≤ s.m + 1) := by rw [CS.up_m]; exact Nat.le_succ _
  generalize s.up len T Y tick = s' at HI2 hr2 HM2
  obtain ⟨rx', out', rfl, hx', ho'⟩ := id hr2
  obtain ⟨ra', rc', rfl⟩ := hx'.form
  obtain ⟨oa', oc', rfl⟩ := ho'.form
  have HR2 := Lib.hid hr2
  clear b0 b1 b2 b3 b4 s0 s1 s2 s3 r0 r1 r2 r3 r4 y0 y1 y2 y3 y4
  clear hr2 hb2 hx' ho'
  obtain ⟨⟨b0, b1, b2, b3, b4⟩, ⟨s0, s1, s2, s3⟩, ⟨r0, r1, r2, r3, r4⟩, ⟨y0, y1, y2, y3, y4⟩⟩ := (show _ ∧ _ ∧ _ ∧ _ from ⟨HX2.out.1.cells, HX2.out.2.1.cells, HX2.out.2.2.cells, HX2.out.2.2.free⟩)
  go_wp2
  refine bodyPost_ret (v := .tuple #[.agg #[.slice a len cap, .int .i64 (s'.c : Int), .slice ra' s'.n rc', .bool s'.ov, .slice oa' s'.m oc'], .bool true]) (by simp [results, Try.results11, go_sem, r0, r1, r2, r3, r4]) rfl ⟨_, rfl, step_fin HI2.out HR2.out HM2.out HF2.out (fun k hk => .inl hk) HSS.out⟩

set_option maxRecDepth 100000 in
set_option maxHeartbeats 2000000 in
theorem step12_2_4 {R : Nat} {S : Nat → Prop} {v : Value} {a : Option Addr} {len cap : Nat} {T Y : Nat → Int} {s : CS} (tick x : Int) (w : World) (hl : len ≤ 256) (hm : s.m ≤ 1000) (x0 : 0 ≤ x) (x1 : x < 4294967296) (ha : IsArr w a len cap T Y) (hna : 0 < len → ∀ ad, a = some ad → ¬ S ad.block) (hc : IsCon w R S len T Y s) (h : RefC S w v a len cap s) :
    Calls Try.prog 11 #[.pointer (some ⟨R, 0, none⟩), v, .agg #[.int .i64 2, .int .i64 4, .int .u64 tick, .int .u32 x]] w fun e w' => ∃ v', e = .returned (.tuple #[v', .bool true]) ∧ StepOut w R S a len cap T Y s.m v' w' := by
  obtain ⟨rx, out, rfl, hx, ho⟩ := h
  obtain ⟨ra, rc, rfl⟩ := hx.form
  obtain ⟨oa, oc, rfl⟩ := ho.form
  have hr : RefC S w (.agg #[.slice a len cap, .int .i64 (s.c : Int), .slice ra s.n rc, .bool s.ov, .slice oa s.m oc]) a len cap s := ⟨_, _, rfl, hx, ho⟩
  obtain ⟨hS, hB0, hsz⟩ := st_start w (.slice a len cap) (.int .i64 (s.c : Int)) (.slice ra s.n rc) (.bool s.ov) (.slice oa s.m oc) (.int .i64 2) (.int .i64 4) (.int .u64 tick) (.int .u32 x)
  obtain ⟨W0, hW0⟩ : ∃ W0, W0 = (((w.alloc (.cells #[.slice a len cap, .int .i64 (s.c : Int), .slice ra s.n rc, .bool s.ov, .slice oa s.m oc] 32)).alloc (.cells #[.int .i64 2, .int .i64 4, .int .u64 tick, .int .u32 x] 39)).alloc zero5) := ⟨_, rfl⟩
  rw [← hW0] at hS hB0 hsz
  have HW0 := Lib.hid hW0
  have HI := Lib.hid (hc.on hB0)
  have HSS := Lib.hid hc.lt
  have HLE := Lib.hid hc.le
  have HR : Hid (RefC (S3 S w) W0 (.agg #[.slice a len cap, .int .i64 (s.c : Int), .slice ra s.n rc, .bool s.ov, .slice oa s.m oc]) a len cap s) := (hr.more (by rintro k (h | h); exact .inl h; exact .inr (by omega))).on hB0
  have HX := Lib.hid hS
  have HB0 := Lib.hid hB0
  have HSZ := Lib.hid hsz
  have HF0 : Hid (Fr S w W0) := Fr.of S hB0
  have HA := Lib.hid (ha.on hB0)
  have HNA := Lib.hid hna
  have HM := Lib.hid hm
  have HL := Lib.hid hl
  clear hW0 hx ho hr hS hB0 hsz hc ha hna
  go_enter Try.func11, Try.ntmps11
  go_wp2_with fail
  rw [← HW0.out]
  refine (cread_yes 4 W0 (by decide) HI.out).mono ?_
  rintro e w1 ⟨rfl, hc1, hf1⟩
  have HI1 := Lib.hid hc1
  have HF1 : Hid (Fr S w w1) := HF0.out.trans hf1
  have HX1 := Lib.hid (HX.out.fr hf1 HSS.out)
  have HR1 : Hid (RefC (S3 S w) w1 (.agg #[.slice a len cap, .int .i64 (s.c : Int), .slice ra s.n rc, .bool s.ov, .slice oa s.m oc]) a len cap s) := HR.out.step (hf1.mono (fun k h => .inl h)) (Ext.refl _ _)
  have HS31 : Hid (∀ k, S3 S w k → k < w1.heap.size) := fun k hk => by
    have l1 := HX1.out.lt
    rcases hk with h | h
    · have := HSS.out k h; omega
    · omega
  have HRR : Hid (Calls Try.prog 24 #[.agg #[.slice a len cap, .int .i64 (s.c : Int), .slice ra s.n rc, .bool s.ov, .slice oa s.m oc], .int .i64 4] w1 fun e w' => ∃ v', e = .returned (.tuple #[v', .int .u32 (s.val 4)]) ∧ RefC (S3 S w) w' v' a len cap (s.rd 4) ∧ Below w1.heap.size w1 w') := rread_4 (S3 S w) w1 HLE.out.2.2 (by have := HM.out; omega) HR1.out HS31.out
  have HM2 : Hid ((s.rd 4).m ≤ s.m + 1) := by rw [CS.rd_m]; exact Nat.le_succ _
  clear hc1 hf1 HR1
  generalize s.val 4 = y at HRR ⊢
  generalize s.rd 4 = s' at HI1 HRR HM2
  obtain ⟨⟨b0, b1, b2, b3, b4⟩, ⟨s0, s1, s2, s3⟩, ⟨r0, r1, r2, r3, r4⟩, ⟨y0, y1, y2, y3, y4⟩⟩ := (show _ ∧ _ ∧ _ ∧ _ from ⟨HX1.out.1.cells, HX1.out.2.1.cells, HX1.out.2.2.cells, HX1.out.2.2.free⟩)
  go_wp2_with fail
  refine HRR.out.mono ?_
  rintro e w2 ⟨v', rfl, hr2, hb2⟩
  have HI2 := Lib.hid (HI1.out.on hb2)
  have HX2 := Lib.hid (HX1.out.on hb2)
  have HF2 : Hid (Fr S w w2) := HF1.out.trans (Fr.of S hb2)
  obtain ⟨rx', out', rfl, hx', ho'⟩ := id hr2
  obtain ⟨ra', rc', rfl⟩ := hx'.form
  obtain ⟨oa', oc', rfl⟩ := ho'.form
  have hb3 : Below w2.heap.size w2 (w2.alloc (.cells #[.slice a len cap, .int .i64 (s'.c : Int), .slice ra' s'.n rc', .bool s'.ov, .slice oa' s'.m oc'] 32)) := (Below.refl _ _).alloc (Nat.le_refl _) _
  have HI3 := Lib.hid (HI2.out.on hb3)
  have HF3 : Hid (Fr S w (w2.alloc (.cells #[.slice a len cap, .int .i64 (s'.c : Int), .slice ra' s'.n rc', .bool s'.ov, .slice oa' s'.m oc'] 32))) := HF2.out.trans (Fr.of S hb3)
  have HR3 := Lib.hid (hr2.on hb3)
  have HX3 := Lib.hid (HX2.out.on hb3)
  clear b0 b1 b2 b3 b4 s0 s1 s2 s3 r0 r1 r2 r3 r4 y0 y1 y2 y3 y4
  clear hr2 hb2 hx' ho' hb3
  obtain ⟨⟨b0, b1, b2, b3, b4⟩, ⟨s0, s1, s2, s3⟩, ⟨r0, r1, r2, r3, r4⟩, ⟨y0, y1, y2, y3, y4⟩⟩ := (show _ ∧ _ ∧ _ ∧ _ from ⟨HX3.out.1.cells, HX3.out.2.1.cells, HX3.out.2.2.cells, HX3.out.2.2.free⟩)
  go_wp2
  refine bodyPost_ret (v := .tuple #[.agg #[.slice a len cap, .int .i64 (s'.c : Int), .slice ra' s'.n rc', .bool s'.ov, .slice oa' s'.m oc'], .bool true]) (by simp [results, Try.results11, go_sem, r0, r1, r2, r3, r4]) rfl ⟨_, rfl, step_fin HI3.out HR3.out HM2.out HF3.out (fun k hk => .inl hk) HSS.out⟩

set_option maxRecDepth 100000 in
set_option maxHeartbeats 2000000 in
theorem step12_3_4 {R : Nat} {S : Nat → Prop} {v : Value} {a : Option Addr} {len cap : Nat} {T Y : Nat → Int} {s : CS} (tick x : Int) (w : World) (hl : len ≤ 256) (hm : s.m ≤ 1000) (x0 : 0 ≤ x) (x1 : x < 4294967296) (ha : IsArr w a len cap T Y) (hna : 0 < len → ∀ ad, a = some ad → ¬ S ad.block) (hc : IsCon w R S len T Y s) (h : RefC S w v a len cap s) :
    Calls Try.prog 11 #[.pointer (some ⟨R, 0, none⟩), v, .agg #[.int .i64 3, .int .i64 4, .int .u64 tick, .int .u32 x]] w fun e w' => ∃ v', e = .returned (.tuple #[v', .bool true]) ∧ StepOut w R S a len cap T Y s.m v' w' := by
  obtain ⟨rx, out, rfl, hx, ho⟩ := h
  obtain ⟨ra, rc, rfl⟩ := hx.form
  obtain ⟨oa, oc, rfl⟩ := ho.form
  have hr : RefC S w (.agg #[.slice a len cap, .int .i64 (s.c : Int), .slice ra s.n rc, .bool s.ov, .slice oa s.m oc]) a len cap s := ⟨_, _, rfl, hx, ho⟩
  obtain ⟨hS, hB0, hsz⟩ := st_start w (.slice a len cap) (.int .i64 (s.c : Int)) (.slice ra s.n rc) (.bool s.ov) (.slice oa s.m oc) (.int .i64 3) (.int .i64 4) (.int .u64 tick) (.int .u32 x)
  obtain ⟨W0, hW0⟩ : ∃ W0, W0 = (((w.alloc (.cells #[.slice a len cap, .int .i64 (s.c : Int), .slice ra s.n rc, .bool s.ov, .slice oa s.m oc] 32)).alloc (.cells #[.int .i64 3, .int .i64 4, .int .u64 tick, .int .u32 x] 39)).alloc zero5) := ⟨_, rfl⟩
  rw [← hW0] at hS hB0 hsz
  have HW0 := Lib.hid hW0
  have HI := Lib.hid (hc.on hB0)
  have HSS := Lib.hid hc.lt
  have HLE := Lib.hid hc.le
  have HR : Hid (RefC (S3 S w) W0 (.agg #[.slice a len cap, .int .i64 (s.c : Int), .slice ra s.n rc, .bool s.ov, .slice oa s.m oc]) a len cap s) := (hr.more (by rintro k (h | h); exact .inl h; exact .inr (by omega))).on hB0
  have HX := Lib.hid hS
  have HB0 := Lib.hid hB0
  have HSZ := Lib.hid hsz
  have HF0 : Hid (Fr S w W0) := Fr.of S hB0
  have HA := Lib.hid (ha.on hB0)
  have HNA := Lib.hid hna
  have HM := Lib.hid hm
  have HL := Lib.hid hl
  clear hW0 hx ho hr hS hB0 hsz hc ha hna
  go_enter Try.func11, Try.ntmps11
  go_wp2_with fail
  rw [← HW0.out]
  refine (cwrite_yes 4 x W0 (by decide) (by have := HM.out; omega) HI.out).mono ?_
  rintro e w1 ⟨rfl, S', hc1, hf1, he1⟩
  have HI1 := Lib.hid hc1
  have HF1 : Hid (Fr S w w1) := HF0.out.trans hf1
  have HX1 := Lib.hid (HX.out.fr hf1 HSS.out)
  have HE : Hid (∀ k, S' k → S k ∨ w.heap.size + 3 ≤ k) := fun k hk => by have := HSZ.out; rcases he1 k hk with h | h; exact .inl h; exact .inr (by omega)
  have HR1 : Hid (RefC (S3 S' w) w1 (.agg #[.slice a len cap, .int .i64 (s.c : Int), .slice ra s.n rc, .bool s.ov, .slice oa s.m oc]) a len cap s) := HR.out.step (hf1.mono (fun k h => .inl h)) (by rintro k (h | h); (rcases he1 k h with h | h; exact .inl (.inl h); exact .inr h); exact .inl (.inr h))
  have HS31 : Hid (∀ k, S3 S' w k → k < w1.heap.size) := fun k hk => by
    have l1 := HX1.out.lt
    rcases hk with h | h
    · exact hc1.lt k h
    · omega
  have HRR : Hid (Calls Try.prog 25 #[.agg #[.slice a len cap, .int .i64 (s.c : Int), .slice ra s.n rc, .bool s.ov, .slice oa s.m oc], .int .i64 4, .int .u32 x] w1 fun e w' => ∃ v', e = .returned v' ∧ RefC (S3 S' w) w' v' a len cap (s.wr 4 x) ∧ Below w1.heap.size w1 w') := rwrite_4 (S3 S' w) x w1 HLE.out.2.2 (by have := HM.out; omega) HR1.out HS31.out
  have HM2 : Hid ((s.wr 4 x).m ≤ s.m + 1) := CS.wr_m _ _ _
  clear hc1 hf1 he1 HR1
  generalize s.wr 4 x = s' at HI1 HRR HM2
  obtain ⟨⟨b0, b1, b2, b3, b4⟩, ⟨s0, s1, s2, s3⟩, ⟨r0, r1, r2, r3, r4⟩, ⟨y0, y1, y2, y3, y4⟩⟩ := (show _ ∧ _ ∧ _ ∧ _ from ⟨HX1.out.1.cells, HX1.out.2.1.cells, HX1.out.2.2.cells, HX1.out.2.2.free⟩)
  go_wp2_with fail
  refine HRR.out.mono ?_
  rintro e w2 ⟨v', rfl, hr2, hb2⟩
  have HI2 := Lib.hid (HI1.out.on hb2)
  have HX2 := Lib.hid (HX1.out.on hb2)
  have HF2 : Hid (Fr S w w2) := HF1.out.trans (Fr.of S hb2)
  obtain ⟨rx', out', rfl, hx', ho'⟩ := id hr2
  obtain ⟨ra', rc', rfl⟩ := hx'.form
  obtain ⟨oa', oc', rfl⟩ := ho'.form
  have HR2 := Lib.hid hr2
  clear b0 b1 b2 b3 b4 s0 s1 s2 s3 r0 r1 r2 r3 r4 y0 y1 y2 y3 y4
  clear hr2 hb2 hx' ho'
  obtain ⟨⟨b0, b1, b2, b3, b4⟩, ⟨s0, s1, s2, s3⟩, ⟨r0, r1, r2, r3, r4⟩, ⟨y0, y1, y2, y3, y4⟩⟩ := (show _ ∧ _ ∧ _ ∧ _ from ⟨HX2.out.1.cells, HX2.out.2.1.cells, HX2.out.2.2.cells, HX2.out.2.2.free⟩)
  go_wp2
  refine bodyPost_ret (v := .tuple #[.agg #[.slice a len cap, .int .i64 (s'.c : Int), .slice ra' s'.n rc', .bool s'.ov, .slice oa' s'.m oc'], .bool true]) (by simp [results, Try.results11, go_sem, r0, r1, r2, r3, r4]) rfl ⟨_, rfl, step_fin HI2.out HR2.out HM2.out HF2.out HE.out HSS.out⟩

set_option maxRecDepth 100000 in
set_option maxHeartbeats 2000000 in
theorem step12_o_4 {R : Nat} {S : Nat → Prop} {v : Value} {a : Option Addr} {len cap : Nat} {T Y : Nat → Int} {s : CS} (kind : Int) (tick x : Int) (w : World) (hl : len ≤ 256) (hm : s.m ≤ 1000) (x0 : 0 ≤ x) (x1 : x < 4294967296) (ha : IsArr w a len cap T Y) (hna : 0 < len → ∀ ad, a = some ad → ¬ S ad.block) (hc : IsCon w R S len T Y s) (h : RefC S w v a len cap s) (k1 : kind ≠ 1) (k2 : kind ≠ 2) (k3 : kind ≠ 3) :
    Calls Try.prog 11 #[.pointer (some ⟨R, 0, none⟩), v, .agg #[.int .i64 kind, .int .i64 4, .int .u64 tick, .int .u32 x]] w fun e w' => ∃ v', e = .returned (.tuple #[v', .bool true]) ∧ StepOut w R S a len cap T Y s.m v' w' := by
  have e1 : (kind == 1) = false := by simpa using k1
  have e2 : (kind == 2) = false := by simpa using k2
  have e3 : (kind == 3) = false := by simpa using k3
  obtain ⟨rx, out, rfl, hx, ho⟩ := h
  obtain ⟨ra, rc, rfl⟩ := hx.form
  obtain ⟨oa, oc, rfl⟩ := ho.form
  have hb : Below w.heap.size w (((w.alloc (.cells #[.slice a len cap, .int .i64 (s.c : Int), .slice ra s.n rc, .bool s.ov, .slice oa s.m oc] 32)).alloc (.cells #[.int .i64 kind, .int .i64 4, .int .u64 tick, .int .u32 x] 39)).alloc (.cells #[.slice a len cap, .int .i64 (s.c : Int), .slice ra s.n rc, .bool s.ov, .slice oa s.m oc] 32)) := (((Below.refl _ _).alloc (Nat.le_refl _) _).alloc (by simp) _).alloc (by simp; omega) _
  have HE : Hid (StepOut w R S a len cap T Y s.m (.agg #[.slice a len cap, .int .i64 (s.c : Int), .slice ra s.n rc, .bool s.ov, .slice oa s.m oc]) (((w.alloc (.cells #[.slice a len cap, .int .i64 (s.c : Int), .slice ra s.n rc, .bool s.ov, .slice oa s.m oc] 32)).alloc (.cells #[.int .i64 kind, .int .i64 4, .int .u64 tick, .int .u32 x] 39)).alloc (.cells #[.slice a len cap, .int .i64 (s.c : Int), .slice ra s.n rc, .bool s.ov, .slice oa s.m oc] 32))) := ⟨s, S, hc.on hb, ⟨_, _, rfl, hx.on hb, ho.on hb⟩, Nat.le_succ _, Fr.of S hb, Ext.refl _ _⟩
  clear hx ho hb hc ha hna k1 k2 k3 x0 x1 hm hl
  go_enter Try.func11, Try.ntmps11
  go_wp2
  refine bodyPost_ret (v := .tuple #[.agg #[.slice a len cap, .int .i64 (s.c : Int), .slice ra s.n rc, .bool s.ov, .slice oa s.m oc], .bool true]) (by simp [results, Try.results11, go_sem]) rfl ⟨_, rfl, HE.out⟩

set_option maxRecDepth 100000 in
set_option maxHeartbeats 2000000 in
theorem step12_1_n {R : Nat} {S : Nat → Prop} {v : Value} {a : Option Addr} {len cap : Nat} {T Y : Nat → Int} {s : CS} (reg : Int) (tick x : Int) (w : World) (hl : len ≤ 256) (hm : s.m ≤ 1000) (x0 : 0 ≤ x) (x1 : x < 4294967296) (ha : IsArr w a len cap T Y) (hna : 0 < len → ∀ ad, a = some ad → ¬ S ad.block) (hc : IsCon w R S len T Y s) (h : RefC S w v a len cap s) (h0 : reg ≠ 0) (h4 : reg ≠ 4) :
    Calls Try.prog 11 #[.pointer (some ⟨R, 0, none⟩), v, .agg #[.int .i64 1, .int .i64 reg, .int .u64 tick, .int .u32 x]] w fun e w' => ∃ v', e = .returned (.tuple #[v', .bool true]) ∧ StepOut w R S a len cap T Y s.m v' w' := by
  have e0 : (reg == 0) = false := by simpa using h0
  have e4 : (reg == 4) = false := by simpa using h4
  obtain ⟨rx, out, rfl, hx, ho⟩ := h
  obtain ⟨ra, rc, rfl⟩ := hx.form
  obtain ⟨oa, oc, rfl⟩ := ho.form
  have hr : RefC S w (.agg #[.slice a len cap, .int .i64 (s.c : Int), .slice ra s.n rc, .bool s.ov, .slice oa s.m oc]) a len cap s := ⟨_, _, rfl, hx, ho⟩
  obtain ⟨hS, hB0, hsz⟩ := st_start w (.slice a len cap) (.int .i64 (s.c : Int)) (.slice ra s.n rc) (.bool s.ov) (.slice oa s.m oc) (.int .i64 1) (.int .i64 reg) (.int .u64 tick) (.int .u32 x)
  obtain ⟨W0, hW0⟩ : ∃ W0, W0 = (((w.alloc (.cells #[.slice a len cap, .int .i64 (s.c : Int), .slice ra s.n rc, .bool s.ov, .slice oa s.m oc] 32)).alloc (.cells #[.int .i64 1, .int .i64 reg, .int .u64 tick, .int .u32 x] 39)).alloc zero5) := ⟨_, rfl⟩
  rw [← hW0] at hS hB0 hsz
  have HW0 := Lib.hid hW0
  have HI := Lib.hid (hc.on hB0)
  have HSS := Lib.hid hc.lt
  have HLE := Lib.hid hc.le
  have HR : Hid (RefC (S3 S w) W0 (.agg #[.slice a len cap, .int .i64 (s.c : Int), .slice ra s.n rc, .bool s.ov, .slice oa s.m oc]) a len cap s) := (hr.more (by rintro k (h | h); exact .inl h; exact .inr (by omega))).on hB0
  have HX := Lib.hid hS
  have HB0 := Lib.hid hB0
  have HSZ := Lib.hid hsz
  have HF0 : Hid (Fr S w W0) := Fr.of S hB0
  have HA := Lib.hid (ha.on hB0)
  have HNA := Lib.hid hna
  have HM := Lib.hid hm
  have HL := Lib.hid hl
  clear hW0 hx ho hr hS hB0 hsz hc ha hna
  go_enter Try.func11, Try.ntmps11
  go_wp2_with fail
  rw [← HW0.out]
  refine (cup_any tick W0 HI.out).mono ?_
  rintro e w1 ⟨rfl, hc1, hf1⟩
  have HI1 := Lib.hid hc1
  have HF1 : Hid (Fr S w w1) := HF0.out.trans hf1
  have HX1 := Lib.hid (HX.out.fr hf1 HSS.out)
  have HR1 : Hid (RefC (S3 S w) w1 (.agg #[.slice a len cap, .int .i64 (s.c : Int), .slice ra s.n rc, .bool s.ov, .slice oa s.m oc]) a len cap s) := HR.out.step (hf1.mono (fun k h => .inl h)) (Ext.refl _ _)
  have HA1 := Lib.hid (HA.out.fr hf1 HNA.out)
  have HS31 : Hid (∀ k, S3 S w k → k < w1.heap.size) := fun k hk => by
    have l1 := HX1.out.lt
    rcases hk with h | h
    · have := HSS.out k h; omega
    · omega
  clear hc1 hf1
  obtain ⟨⟨b0, b1, b2, b3, b4⟩, ⟨s0, s1, s2, s3⟩, ⟨r0, r1, r2, r3, r4⟩, ⟨y0, y1, y2, y3, y4⟩⟩ := (show _ ∧ _ ∧ _ ∧ _ from ⟨HX1.out.1.cells, HX1.out.2.1.cells, HX1.out.2.2.cells, HX1.out.2.2.free⟩)
  go_wp2_with fail
  refine (rup_any (S3 S w) tick w1 HL.out HLE.out.1 HLE.out.2.2 (by have := HM.out; omega) HA1.out HR1.out HS31.out).mono ?_
  rintro e w2 ⟨v', rfl, hr2, hb2⟩
  have HI2 := Lib.hid (HI1.out.on hb2)
  have HX2 := Lib.hid (HX1.out.on hb2)
  have HF2 : Hid (Fr S w w2) := HF1.out.trans (Fr.of S hb2)
  have HM2 : Hid ((s.up len T Y tick).m ≤ s.m + 1) := by rw [CS.up_m]; exact Nat.le_succ _
  generalize s.up len T Y tick = s' at HI2 hr2 HM2
  obtain ⟨rx', out', rfl, hx', ho'⟩ := id hr2
  obtain ⟨ra', rc', rfl⟩ := hx'.form
  obtain ⟨oa', oc', rfl⟩ := ho'.form
  have HR2 := Lib.hid hr2
  clear b0 b1 b2 b3 b4 s0 s1 s2 s3 r0 r1 r2 r3 r4 y0 y1 y2 y3 y4
  clear hr2 hb2 hx' ho'
  obtain ⟨⟨b0, b1, b2, b3, b4⟩, ⟨s0, s1, s2, s3⟩, ⟨r0, r1, r2, r3, r4⟩, ⟨y0, y1, y2, y3, y4⟩⟩ := (show _ ∧ _ ∧ _ ∧ _ from ⟨HX2.out.1.cells, HX2.out.2.1.cells, HX2.out.2.2.cells, HX2.out.2.2.free⟩)
  go_wp2
  refine bodyPost_ret (v := .tuple #[.agg #[.slice a len cap, .int .i64 (s'.c : Int), .slice ra' s'.n rc', .bool s'.ov, .slice oa' s'.m oc'], .bool true]) (by simp [results, Try.results11, go_sem, r0, r1, r2, r3, r4]) rfl ⟨_, rfl, step_fin HI2.out HR2.out HM2.out HF2.out (fun k hk => .inl hk) HSS.out⟩

set_option maxRecDepth 100000 in
set_option maxHeartbeats 2000000 in
theorem step12_2_n {R : Nat} {S : Nat → Prop} {v : Value} {a : Option Addr} {len cap : Nat} {T Y : Nat → Int} {s : CS} (reg : Int) (tick x : Int) (w : World) (hl : len ≤ 256) (hm : s.m ≤ 1000) (x0 : 0 ≤ x) (x1 : x < 4294967296) (ha : IsArr w a len cap T Y) (hna : 0 < len → ∀ ad, a = some ad → ¬ S ad.block) (hc : IsCon w R S len T Y s) (h : RefC S w v a len cap s) (h0 : reg ≠ 0) (h4 : reg ≠ 4) :
    Calls Try.prog 11 #[.pointer (some ⟨R, 0, none⟩), v, .agg #[.int .i64 2, .int .i64 reg, .int .u64 tick, .int .u32 x]] w fun e w' => ∃ v', e = .returned (.tuple #[v', .bool true]) ∧ StepOut w R S a len cap T Y s.m v' w' := by
  have e0 : (reg == 0) = false := by simpa using h0
  have e4 : (reg == 4) = false := by simpa using h4
  obtain ⟨rx, out, rfl, hx, ho⟩ := h
  obtain ⟨ra, rc, rfl⟩ := hx.form
  obtain ⟨oa, oc, rfl⟩ := ho.form
  have hr : RefC S w (.agg #[.slice a len cap, .int .i64 (s.c : Int), .slice ra s.n rc, .bool s.ov, .slice oa s.m oc]) a len cap s := ⟨_, _, rfl, hx, ho⟩
  obtain ⟨hS, hB0, hsz⟩ := st_start w (.slice a len cap) (.int .i64 (s.c : Int)) (.slice ra s.n rc) (.bool s.ov) (.slice oa s.m oc) (.int .i64 2) (.int .i64 reg) (.int .u64 tick) (.int .u32 x)
  obtain ⟨W0, hW0⟩ : ∃ W0, W0 = (((w.alloc (.cells #[.slice a len cap, .int .i64 (s.c : Int), .slice ra s.n rc, .bool s.ov, .slice oa s.m oc] 32)).alloc (.cells #[.int .i64 2, .int .i64 reg, .int .u64 tick, .int .u32 x] 39)).alloc zero5) := ⟨_, rfl⟩
  rw [← hW0] at hS hB0 hsz
  have HW0 := Lib.hid hW0
  have HI := Lib.hid (hc.on hB0)
  have HSS := Lib.hid hc.lt
  have HLE := Lib.hid hc.le
  have HR : Hid (RefC (S3 S w) W0 (.agg #[.slice a len cap, .int .i64 (s.c : Int), .slice ra s.n rc, .bool s.ov, .slice oa s.m oc]) a len cap s) := (hr.more (by rintro k (h | h); exact .inl h; exact .inr (by omega))).on hB0
  have HX := Lib.hid hS
  have HB0 := Lib.hid hB0
  have HSZ := Lib.hid hsz
  have HF0 : Hid (Fr S w W0) := Fr.of S hB0
  have HA := Lib.hid (ha.on hB0)
  have HNA := Lib.hid hna
  have HM := Lib.hid hm
  have HL := Lib.hid hl
  clear hW0 hx ho hr hS hB0 hsz hc ha hna
  go_enter Try.func11, Try.ntmps11
  go_wp2_with fail
  rw [← HW0.out]
  refine (cread_no R reg W0 h0 h4).mono ?_
  rintro e w' ⟨rfl, hw⟩
  have hw := hw.symm
  subst hw
  obtain ⟨⟨b0, b1, b2, b3, b4⟩, ⟨s0, s1, s2, s3⟩, ⟨r0, r1, r2, r3, r4⟩, ⟨y0, y1, y2, y3, y4⟩⟩ := (show _ ∧ _ ∧ _ ∧ _ from ⟨HX.out.1.cells, HX.out.2.1.cells, HX.out.2.2.cells, HX.out.2.2.free⟩)
  go_wp2
  refine bodyPost_ret (v := .tuple #[.agg #[.slice a len cap, .int .i64 (s.c : Int), .slice ra s.n rc, .bool s.ov, .slice oa s.m oc], .bool true]) (by simp [results, Try.results11, go_sem, r0, r1, r2, r3, r4]) rfl ⟨_, rfl, step_fin HI.out HR.out (Nat.le_succ _) HF0.out (fun k hk => .inl hk) HSS.out⟩

set_option maxRecDepth 100000 in
set_option maxHeartbeats 2000000 in
theorem step12_3_n {R : Nat} {S : Nat → Prop} {v : Value} {a : Option Addr} {len cap : Nat} {T Y : Nat → Int} {s : CS} (reg : Int) (tick x : Int) (w : World) (hl : len ≤ 256) (hm : s.m ≤ 1000) (x0 : 0 ≤ x) (x1 : x < 4294967296) (ha : IsArr w a len cap T Y) (hna : 0 < len → ∀ ad, a = some ad → ¬ S ad.block) (hc : IsCon w R S len T Y s) (h : RefC S w v a len cap s) (h0 : reg ≠ 0) (h4 : reg ≠ 4) :
    Calls Try.prog 11 #[.pointer (some ⟨R, 0, none⟩), v, .agg #[.int .i64 3, .int .i64 reg, .int .u64 tick, .int .u32 x]] w fun e w' => ∃ v', e = .returned (.tuple #[v', .bool true]) ∧ StepOut w R S a len cap T Y s.m v' w' := by
  have e0 : (reg == 0) = false := by simpa using h0
  have e4 : (reg == 4) = false := by simpa using h4
  obtain ⟨rx, out, rfl, hx, ho⟩ := h
  obtain ⟨ra, rc, rfl⟩ := hx.form
  obtain ⟨oa, oc, rfl⟩ := ho.form
  have hr : RefC S w (.agg #[.slice a len cap, .int .i64 (s.c : Int), .slice ra s.n rc, .bool s.ov, .slice oa s.m oc]) a len cap s := ⟨_, _, rfl, hx, ho⟩
  obtain ⟨hS, hB0, hsz⟩ := st_start w (.slice a len cap) (.int .i64 (s.c : Int)) (.slice ra s.n rc) (.bool s.ov) (.slice oa s.m oc) (.int .i64 3) (.int .i64 reg) (.int .u64 tick) (.int .u32 x)
  obtain ⟨W0, hW0⟩ : ∃ W0, W0 = (((w.alloc (.cells #[.slice a len cap, .int .i64 (s.c : Int), .slice ra s.n rc, .bool s.ov, .slice oa s.m oc] 32)).alloc (.cells #[.int .i64 3, .int .i64 reg, .int .u64 tick, .int .u32 x] 39)).alloc zero5) := ⟨_, rfl⟩
  rw [← hW0] at hS hB0 hsz
  have HW0 := Lib.hid hW0
  have HI := Lib.hid (hc.on hB0)
  have HSS := Lib.hid hc.lt
  have HLE := Lib.hid hc.le
  have HR : Hid (RefC (S3 S w) W0 (.agg #[.slice a len cap, .int .i64 (s.c : Int), .slice ra s.n rc, .bool s.ov, .slice oa s.m oc]) a len cap s) := (hr.more (by rintro k (h | h); exact .inl h; exact .inr (by omega))).on hB0
  have HX := Lib.hid hS
  have HB0 := Lib.hid hB0
  have HSZ := Lib.hid hsz
  have HF0 : Hid (Fr S w W0) := Fr.of S hB0
  have HA := Lib.hid (ha.on hB0)
  have HNA := Lib.hid hna
  have HM := Lib.hid hm
  have HL := Lib.hid hl
  clear hW0 hx ho hr hS hB0 hsz hc ha hna
  go_enter Try.func11, Try.ntmps11
  go_wp2_with fail
  rw [← HW0.out]
  refine (cwrite_no R reg x W0 h0 h4).mono ?_
  rintro e w' ⟨rfl, hw⟩
  have hw := hw.symm
  subst hw
  obtain ⟨⟨b0, b1, b2, b3, b4⟩, ⟨s0, s1, s2, s3⟩, ⟨r0, r1, r2, r3, r4⟩, ⟨y0, y1, y2, y3, y4⟩⟩ := (show _ ∧ _ ∧ _ ∧ _ from ⟨HX.out.1.cells, HX.out.2.1.cells, HX.out.2.2.cells, HX.out.2.2.free⟩)
  go_wp2
  refine bodyPost_ret (v := .tuple #[.agg #[.slice a len cap, .int .i64 (s.c : Int), .slice ra s.n rc, .bool s.ov, .slice oa s.m oc], .bool true]) (by simp [results, Try.results11, go_sem, r0, r1, r2, r3, r4]) rfl ⟨_, rfl, step_fin HI.out HR.out (Nat.le_succ _) HF0.out (fun k hk => .inl hk) HSS.out⟩

set_option maxRecDepth 100000 in
set_option maxHeartbeats 2000000 in
theorem step12_o_n {R : Nat} {S : Nat → Prop} {v : Value} {a : Option Addr} {len cap : Nat} {T Y : Nat → Int} {s : CS} (kind : Int) (reg : Int) (tick x : Int) (w : World) (hl : len ≤ 256) (hm : s.m ≤ 1000) (x0 : 0 ≤ x) (x1 : x < 4294967296) (ha : IsArr w a len cap T Y) (hna : 0 < len → ∀ ad, a = some ad → ¬ S ad.block) (hc : IsCon w R S len T Y s) (h : RefC S w v a len cap s) (h0 : reg ≠ 0) (h4 : reg ≠ 4) (k1 : kind ≠ 1) (k2 : kind ≠ 2) (k3 : kind ≠ 3) :
    Calls Try.prog 11 #[.pointer (some ⟨R, 0, none⟩), v, .agg #[.int .i64 kind, .int .i64 reg, .int .u64 tick, .int .u32 x]] w fun e w' => ∃ v', e = .returned (.tuple #[v', .bool true]) ∧ StepOut w R S a len cap T Y s.m v' w' := by
  have e0 : (reg == 0) = false := by simpa using h0
  have e4 : (reg == 4) = false := by simpa using h4
  have e1 : (kind == 1) = false := by simpa using k1
  have e2 : (kind == 2) = false := by simpa using k2
  have e3 : (kind == 3) = false := by simpa using k3
  obtain ⟨rx, out, rfl, hx, ho⟩ := h
  obtain ⟨ra, rc, rfl⟩ := hx.form
  obtain ⟨oa, oc, rfl⟩ := ho.form
  have hb : Below w.heap.size w (((w.alloc (.cells #[.slice a len cap, .int .i64 (s.c : Int), .slice ra s.n rc, .bool s.ov, .slice oa s.m oc] 32)).alloc (.cells #[.int .i64 kind, .int .i64 reg, .int .u64 tick, .int .u32 x] 39)).alloc (.cells #[.slice a len cap, .int .i64 (s.c : Int), .slice ra s.n rc, .bool s.ov, .slice oa s.m oc] 32)) := (((Below.refl _ _).alloc (Nat.le_refl _) _).alloc (by simp) _).alloc (by simp; omega) _
  have HE : Hid (StepOut w R S a len cap T Y s.m (.agg #[.slice a len cap, .int .i64 (s.c : Int), .slice ra s.n rc, .bool s.ov, .slice oa s.m oc]) (((w.alloc (.cells #[.slice a len cap, .int .i64 (s.c : Int), .slice ra s.n rc, .bool s.ov, .slice oa s.m oc] 32)).alloc (.cells #[.int .i64 kind, .int .i64 reg, .int .u64 tick, .int .u32 x] 39)).alloc (.cells #[.slice a len cap, .int .i64 (s.c : Int), .slice ra s.n rc, .bool s.ov, .slice oa s.m oc] 32))) := ⟨s, S, hc.on hb, ⟨_, _, rfl, hx.on hb, ho.on hb⟩, Nat.le_succ _, Fr.of S hb, Ext.refl _ _⟩
  clear hx ho hb hc ha hna k1 k2 k3 x0 x1 hm hl
  go_enter Try.func11, Try.ntmps11
  go_wp2
  refine bodyPost_ret (v := .tuple #[.agg #[.slice a len cap, .int .i64 (s.c : Int), .slice ra s.n rc, .bool s.ov, .slice oa s.m oc], .bool true]) (by simp [results, Try.results11, go_sem]) rfl ⟨_, rfl, HE.out⟩

theorem step12_any {R : Nat} {S : Nat → Prop} {v : Value} {a : Option Addr} {len cap : Nat} {T Y : Nat → Int} {s : CS} (p : Sp) (w : World) (hl : len ≤ 256) (hm : s.m ≤ 1000) (x0 : 0 ≤ p.x) (x1 : p.x < 4294967296) (ha : IsArr w a len cap T Y) (hna : 0 < len → ∀ ad, a = some ad → ¬ S ad.block) (hc : IsCon w R S len T Y s) (h : RefC S w v a len cap s) :
    Calls Try.prog 11 #[.pointer (some ⟨R, 0, none⟩), v, .agg #[.int .i64 p.kind, .int .i64 p.reg, .int .u64 p.tick, .int .u32 p.x]] w fun e w' => ∃ v', e = .returned (.tuple #[v', .bool true]) ∧ StepOut w R S a len cap T Y s.m v' w' := by
  obtain ⟨kind, reg, tick, x⟩ := p
  simp only at x0 x1 ⊢
  by_cases h0 : reg = 0
  · subst h0
    by_cases k1 : kind = 1
    · subst k1; exact step12_1_0 tick x w hl hm x0 x1 ha hna hc h
    by_cases k2 : kind = 2
    · subst k2; exact step12_2_0 tick x w hl hm x0 x1 ha hna hc h
    by_cases k3 : kind = 3
    · subst k3; exact step12_3_0 tick x w hl hm x0 x1 ha hna hc h
    exact step12_o_0 kind tick x w hl hm x0 x1 ha hna hc h k1 k2 k3
  by_cases h4 : reg = 4
  · subst h4
    by_cases k1 : kind = 1
    · subst k1; exact step12_1_4 tick x w hl hm x0 x1 ha hna hc h
    by_cases k2 : kind = 2
    · subst k2; exact step12_2_4 tick x w hl hm x0 x1 ha hna hc h
    by_cases k3 : kind = 3
    · subst k3; exact step12_3_4 tick x w hl hm x0 x1 ha hna hc h
    exact step12_o_4 kind tick x w hl hm x0 x1 ha hna hc h k1 k2 k3
  by_cases k1 : kind = 1
  · subst k1; exact step12_1_n reg tick x w hl hm x0 x1 ha hna hc h h0 h4
  by_cases k2 : kind = 2
  · subst k2; exact step12_2_n reg tick x w hl hm x0 x1 ha hna hc h h0 h4
  by_cases k3 : kind = 3
  · subst k3; exact step12_3_n reg tick x w hl hm x0 x1 ha hna hc h h0 h4
  exact step12_o_n kind reg tick x w hl hm x0 x1 ha hna hc h h0 h4 k1 k2 k3
end Go.Proofs.Ytbhmpfjmhjdcaaa
