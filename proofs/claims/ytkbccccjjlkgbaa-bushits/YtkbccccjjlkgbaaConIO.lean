/- Layer 12: Read, Write: the registers' methods, handed on. -/
import Derived.Test.YtkbccccjjlkgbaaConGo
import Derived.Test.YtkbccccjjlkgbaaAppendPlace
namespace Go.Proofs.Ytkbccccjjlkgbaa
open Go.RowKit
set_option linter.unusedVariables false

/-- What is read of a register, and the state behind it. -/
def CS.rd (reg : Int) (s : CS) : CS := if reg = 0 then s.pop else s
def CS.val (reg : Int) (s : CS) : Int := if reg = 0 then (if s.n = 0 then 0 else IntKind.u32.wrap (s.f 0)) else (if 0 < s.n then (if s.ov = true then 3 else 1) else (if s.ov = true then 2 else 0))
/-- What is written into a register. -/
def CS.wr (reg x : Int) (s : CS) : CS := if reg = 0 then ⟨s.c, s.n, s.f, s.ov, s.m + 1, snoc s.m s.g (x % 256)⟩ else ⟨s.c, s.n, s.f, false, s.m, s.g⟩

set_option maxHeartbeats 800000 in
theorem ctake_any {R K : Nat} {S : Nat → Prop} {T Y : Nat → Int} {s : CS} (w : World) (h : IsCon w R S K T Y s) :
    Calls Try.prog 101 #[.pointer (some ⟨R, 0, none⟩)] w fun e w' => e = .returned (.int .u32 (s.val 0)) ∧ IsCon w' R S K T Y (s.rd 0) ∧ Fr S w w' := by
  have HC := Lib.hid h
  obtain ⟨F, A, cap, v, hR, hF, hO, hA, hK, hne, hin, hS⟩ := h
  obtain ⟨⟨q0, q1, q2, q3, q4⟩, -⟩ := five_cells hR
  by_cases h0 : s.n = 0
  · have e1 : s.val 0 = 0 := by unfold CS.val; rw [if_pos rfl, if_pos h0]
    have e2 : s.rd 0 = s := by unfold CS.rd CS.pop; rw [if_pos rfl, if_pos h0]
    rw [e1, e2]
    have HP : Hid (Calls Try.prog 105 #[.pointer (some ⟨F, 0, none⟩)] w fun e w' => e = .returned (.tuple #[.int .u8 0, .bool false]) ∧ w' = w) := by
      rw [h0] at hF
      exact fpop_none F s.f w hF
    clear hR hF hO hA hin hS hne hK
    go_enter Try.func101, Try.ntmps101
    go_wp2_with fail
    refine HP.out.mono ?_
    rintro e w' ⟨rfl, hw⟩
    have hw := hw.symm
    subst hw
    go_wp2
    go_ret
    exact ⟨rfl, HC.out, Fr.refl _ _⟩
  · obtain ⟨n, hn⟩ : ∃ n, s.n = n + 1 := ⟨s.n - 1, by omega⟩
    have e1 : s.val 0 = IntKind.u32.wrap (s.f 0) := by unfold CS.val; rw [if_pos rfl, if_neg h0]
    have e2 : s.rd 0 = ⟨s.c, n, fun i => s.f (i + 1), s.ov, s.m, s.g⟩ := by unfold CS.rd CS.pop; rw [if_pos rfl, if_neg h0, hn]; rfl
    rw [e1, e2]
    have HP : Hid (Calls Try.prog 105 #[.pointer (some ⟨F, 0, none⟩)] w fun e w' => e = .returned (.tuple #[.int .u8 (s.f 0), .bool true]) ∧ IsCon w' R S K T Y ⟨s.c, n, fun i => s.f (i + 1), s.ov, s.m, s.g⟩ ∧ Fr S w w') := by
      rw [hn] at hF
      refine (fpop_yes F n s.f w hF).mono ?_
      rintro e w' ⟨rfl, h1, h2⟩
      have hfr := fr_bar (R := R) (Fr.refl _ w) h2
      have lR := (Array.getElem?_eq_some_iff.1 hR).1
      exact ⟨rfl, IsCon.upd (s := s) hO hA hK.2 hne hin hS hfr (by rw [h2.2.2.2.2 R lR (Ne.symm hne.1)]; exact hR) h1 hK.1 rfl rfl, fr_in hfr hin.1 hin.2.1⟩
    clear hR hF hO hA hin hS hne hK e1 e2
    generalize s.f 0 = y at HP ⊢
    go_enter Try.func101, Try.ntmps101
    go_wp2_with fail
    refine HP.out.mono ?_
    rintro e w' ⟨rfl, h1, h2⟩
    have H1 := Lib.hid h1
    have H2 := Lib.hid h2
    clear h1 h2
    go_wp2
    go_ret
    exact ⟨rfl, H1.out, H2.out⟩

set_option maxHeartbeats 800000 in
theorem cstatus_any {R K : Nat} {S : Nat → Prop} {T Y : Nat → Int} {s : CS} (w : World) (h : IsCon w R S K T Y s) :
    Calls Try.prog 102 #[.pointer (some ⟨R, 0, none⟩)] w fun e w' => e = .returned (.int .u32 (s.val 4)) ∧ w' = w := by
  have HR := Lib.hid (cready_any w h)
  obtain ⟨F, A, cap, v, hR, hF, hO, hA, hK, hne, hin, hS⟩ := h
  obtain ⟨⟨q0, q1, q2, q3, q4⟩, -⟩ := five_cells hR
  have e0 : s.val 4 = (if 0 < s.n then (if s.ov = true then 3 else 1) else (if s.ov = true then 2 else 0)) := by unfold CS.val; rw [if_neg (by decide)]
  rw [e0]
  clear hR hF hO hA hin hS hne hK e0
  generalize s.ov = o at *
  by_cases h0 : 0 < s.n <;> cases o <;>
    (first | (rw [decide_eq_true h0] at HR; rw [if_pos h0]) | (rw [decide_eq_false h0] at HR; rw [if_neg h0])) <;>
    (clear h0
     go_enter Try.func102, Try.ntmps102
     go_wp2_with fail
     refine HR.out.mono ?_
     rintro e w' ⟨rfl, hw⟩
     have hw := hw.symm
     subst hw
     go_wp2
     go_ret
     exact ⟨rfl, rfl⟩)

set_option maxHeartbeats 800000 in
theorem csettle_any {R K : Nat} {S : Nat → Prop} {T Y : Nat → Int} {s : CS} (x : Int) (w : World) (h : IsCon w R S K T Y s) :
    Calls Try.prog 104 #[.pointer (some ⟨R, 0, none⟩), .int .u32 x] w fun e w' => e = .returned (.tuple #[]) ∧ IsCon w' R S K T Y (s.wr 4 x) ∧ Fr S w w' := by
  obtain ⟨F, A, cap, v, hR, hF, hO, hA, hK, hne, hin, hS⟩ := h
  obtain ⟨⟨q0, q1, q2, q3, q4⟩, -, -, -, z3, -⟩ := five_cells hR
  have HE : Hid (IsCon (w.setCell ⟨R, 3, none⟩ (.bool false)) R S K T Y (s.wr 4 x) ∧ Fr S w (w.setCell ⟨R, 3, none⟩ (.bool false))) := by
    have hfr := fr_set (R := R) (F := F) (o := 3) (u := .bool false) (Fr.refl _ w)
    have hc : s.wr 4 x = ⟨s.c, s.n, s.f, false, s.m, s.g⟩ := by unfold CS.wr; rw [if_neg (by decide)]
    rw [hc]
    exact ⟨IsCon.upd (s := s) hO hA hK.2 hne hin hS hfr (heap_setCell_at hR) (hF.bar (Bar.setCell R 3 _ _) hne.1) hK.1 rfl rfl, fr_in hfr hin.1 hin.2.1⟩
  clear hR hF hO hA hin hS hne hK
  go_enter Try.func104, Try.ntmps104
  go_wp2
  go_end0
  exact ⟨rfl, HE.out⟩

set_option maxHeartbeats 1600000 in
theorem csend_any {R K : Nat} {S : Nat → Prop} {T Y : Nat → Int} {s : CS} (x : Int) (w : World) (hm : s.m ≤ 100000) (h : IsCon w R S K T Y s) :
    Calls Try.prog 103 #[.pointer (some ⟨R, 0, none⟩), .int .u32 x] w fun e w' => e = .returned (.tuple #[]) ∧ ∃ S', IsCon w' R S' K T Y (s.wr 0 x) ∧ Fr S w w' ∧ Ext w S S' := by
  obtain ⟨F, A, cap, v, hR, hF, hO, hA, hK, hne, hin, hS⟩ := h
  have lR : R < w.heap.size := (Array.getElem?_eq_some_iff.1 hR).1
  have lA : A < w.heap.size := hS A hin.2.2.1
  have lF : F < w.heap.size := hF.lt
  obtain ⟨⟨q0, q1, q2, q3, q4⟩, -⟩ := five_cells hR
  obtain ⟨i0, hi, hz0, hz1, hz2⟩ := info_parts Try.info5
  have HO := Lib.hid hO
  have HE : Hid (∀ (w1 : World) (g cap' : Nat), w1.ownsRow 0 5 1 (.slice (some ⟨g, 0, none⟩) (s.m + 1) cap') (s.m + 1) (rowL s.m s.g ++ [.int .u8 (x % 256)]) → (w.alloc (.cells #[.int .u8 (x % 256)] 5)).grownBy w1 v.ownBlock → (v.ownBlock = some g ∨ w.heap.size ≤ g) →
      (w1.heap[R]? = some (.cells #[.slice (some ⟨A, 0, none⟩) K cap, .int .i64 (s.c : Int), .pointer (some ⟨F, 0, none⟩), .bool s.ov, v] 106 (0, 0))) ∧
      ∃ S', IsCon (w1.setCell ⟨R, 4, none⟩ (.slice (some ⟨g, 0, none⟩) (s.m + 1) cap')) R S' K T Y (s.wr 0 x) ∧ Fr S w (w1.setCell ⟨R, 4, none⟩ (.slice (some ⟨g, 0, none⟩) (s.m + 1) cap')) ∧ Ext w S S') := by
    intro w1 g cap' hown hgr hg
    have hsz1 : w.heap.size < w1.heap.size := by have := hgr.size; simp at this; omega
    have hkeep : ∀ k, k < w.heap.size → v.ownBlock ≠ some k → w1.heap[k]? = w.heap[k]? := fun k hk hn => by
      rw [hgr.block k (by simp; omega) (fun e => hn e.symm)]
      exact heap_alloc_old w _ hk
    have nR : v.ownBlock ≠ some R := fun e => (hne.2.2.2 R e).1 rfl
    have nF : v.ownBlock ≠ some F := fun e => (hne.2.2.2 F e).2.1 rfl
    have nA : v.ownBlock ≠ some A := fun e => (hne.2.2.2 A e).2.2 rfl
    have gR : g ≠ R := by rintro rfl; rcases hg with h | h; exact nR h; omega
    have gF : g ≠ F := by rintro rfl; rcases hg with h | h; exact nF h; omega
    have gA : g ≠ A := by rintro rfl; rcases hg with h | h; exact nA h; omega
    have lg : g < w1.heap.size := (hown.lt g rfl).2
    have hR1 : w1.heap[R]? = some (.cells #[.slice (some ⟨A, 0, none⟩) K cap, .int .i64 (s.c : Int), .pointer (some ⟨F, 0, none⟩), .bool s.ov, v] 106 (0, 0)) := by rw [hkeep R lR nR]; exact hR
    have hfr1 : Fr S w w1 := ⟨hgr.os, hgr.tape, hgr.output, by omega, fun k hk hn => hkeep k hk (fun e => hn (hin.2.2.2 k e))⟩
    have hsz2 : (w1.setCell ⟨R, 4, none⟩ (.slice (some ⟨g, 0, none⟩) (s.m + 1) cap')).heap.size = w1.heap.size := by simp [World.setCell]
    have hc : s.wr 0 x = ⟨s.c, s.n, s.f, s.ov, s.m + 1, snoc s.m s.g (x % 256)⟩ := by unfold CS.wr; rw [if_pos rfl]
    rw [hc]
    have hb4 := Bar.setCell R 4 w1 (.slice (some ⟨g, 0, none⟩) (s.m + 1) cap')
    refine ⟨hR1, fun k => S k ∨ k = g, ⟨F, A, cap, .slice (some ⟨g, 0, none⟩) (s.m + 1) cap', heap_setCell_at hR1, ?_, ?_, ?_, hK, ⟨hne.1, hne.2.1, hne.2.2.1, ?_⟩, ⟨.inl hin.1, .inl hin.2.1, .inl hin.2.2.1, ?_⟩, ?_⟩, hfr1.trans (Fr.bar hb4 hin.1), ?_⟩
    · obtain ⟨cs, q, hF', hc'⟩ := hF
      exact ⟨cs, q, by rw [hb4.2.2.2.2 F (by omega) hne.1, hkeep F lF nF]; exact hF', hc'⟩
    · rw [rowL_snoc] at hown
      exact own_keep hown (fun k e hk => hb4.2.2.2.2 k hk (by rintro rfl; simp [Value.ownBlock] at e; exact gR e))
    · exact hA.keep (fun hk => by rw [hb4.2.2.2.2 A (by omega) hne.2.1, hkeep A hk nA])
    · intro k e
      simp [Value.ownBlock] at e
      subst e
      exact ⟨gR, gF, gA⟩
    · intro k e
      simp [Value.ownBlock] at e
      exact .inr e.symm
    · rintro k (h | rfl)
      · have := hS k h; rw [hsz2]; omega
      · rw [hsz2]; exact lg
    · rintro k (h | rfl)
      · exact .inl h
      · rcases hg with h | h
        · exact .inl (hin.2.2.2 _ h)
        · exact .inr h
  obtain ⟨sa, sn, sc, hv⟩ : ∃ a n c, v = .slice a n c := by
    rcases hO.2 with ⟨h, _⟩ | ⟨g, cap, cur, h, _⟩
    · exact ⟨_, _, _, h⟩
    · exact ⟨_, _, _, h⟩
  clear hR hF hA hin hne hK q0 q1 q2 q3
  subst hv
  have HO1 := Lib.hid (hO.alloc (.cells #[.int .u8 (x % 256)] 5))
  have hsz := hS
  clear hO hS hsz
  go_enter Try.func103, Try.ntmps103
  go_wp2_with (first
    | (at_builtin; refine wpList_append_place rfl (.tmp 8) (.tmp 11) 30 rfl 0 5 i0 (.int .u8 0) 1 1 Try.underlying30 hi hz0 hz1 hz2 rfl (by decide) _ s.m (rowL s.m s.g) rfl HO1.out ⟨w.heap.size, 0, none⟩ 1 1 [.int .u8 (x % 256)] rfl rfl ?c1 ?c2 ?c3 ?c4 (Nat.zero_le _) ?_))
  case c1 =>
    intro j u hj
    match j, hj with
    | 0, hj => simp at hj; subst hj; simp [Addr.add]
  case c2 => intro u hu; simp at hu; subst hu; rfl
  case c3 => unfold maxLen; omega
  case c4 => omega
  intro v2 w2 hown2 hgr2 hpl
  obtain ⟨g, cap', rfl⟩ := ownsRow_succ hown2
  obtain ⟨hr2, hfin⟩ := HE.out w2 g cap' hown2 hgr2 (by
    rcases hpl g rfl with h | h
    · exact .inl h
    · right; first | omega | (simp at h; omega))
  obtain ⟨⟨-, -, -, -, p4⟩, -, -, -, -, z4⟩ := five_cells hr2
  have HF := Lib.hid hfin
  clear hr2 hfin hown2 hgr2 hpl
  go_wp2
  go_end0
  exact ⟨rfl, HF.out⟩

set_option maxHeartbeats 400000 in
theorem creader_nil (reg : Int) (w : World) :
    Calls Try.prog 99 #[.pointer none, .int .i64 reg] w fun e w' => e = .returned .nilFunc ∧ w' = w := by
  go_enter Try.func99, Try.ntmps99
  go_wp2
  go_ret
  exact ⟨rfl, rfl⟩

set_option maxHeartbeats 400000 in
theorem creader_0 (R : Nat) (w : World) :
    Calls Try.prog 99 #[.pointer (some ⟨R, 0, none⟩), .int .i64 0] w fun e w' => e = .returned (.func (.func 101) #[.pointer (some ⟨R, 0, none⟩)] #[]) ∧ w' = w := by
  go_enter Try.func99, Try.ntmps99
  go_wp2
  go_ret
  exact ⟨rfl, rfl⟩

set_option maxHeartbeats 400000 in
theorem creader_4 (R : Nat) (w : World) :
    Calls Try.prog 99 #[.pointer (some ⟨R, 0, none⟩), .int .i64 4] w fun e w' => e = .returned (.func (.func 102) #[.pointer (some ⟨R, 0, none⟩)] #[]) ∧ w' = w := by
  go_enter Try.func99, Try.ntmps99
  go_wp2
  go_ret
  exact ⟨rfl, rfl⟩

set_option maxHeartbeats 400000 in
theorem creader_no (R : Nat) (reg : Int) (w : World) (h0 : reg ≠ 0) (h4 : reg ≠ 4) :
    Calls Try.prog 99 #[.pointer (some ⟨R, 0, none⟩), .int .i64 reg] w fun e w' => e = .returned .nilFunc ∧ w' = w := by
  have e0 : (reg == 0) = false := by simpa using h0
  have e4 : (reg == 4) = false := by simpa using h4
  clear h0 h4
  go_enter Try.func99, Try.ntmps99
  go_wp2
  go_ret
  exact ⟨rfl, rfl⟩

set_option maxHeartbeats 400000 in
theorem cwriter_nil (reg : Int) (w : World) :
    Calls Try.prog 100 #[.pointer none, .int .i64 reg] w fun e w' => e = .returned .nilFunc ∧ w' = w := by
  go_enter Try.func100, Try.ntmps100
  go_wp2
  go_ret
  exact ⟨rfl, rfl⟩

set_option maxHeartbeats 400000 in
theorem cwriter_0 (R : Nat) (w : World) :
    Calls Try.prog 100 #[.pointer (some ⟨R, 0, none⟩), .int .i64 0] w fun e w' => e = .returned (.func (.func 103) #[.pointer (some ⟨R, 0, none⟩)] #[]) ∧ w' = w := by
  go_enter Try.func100, Try.ntmps100
  go_wp2
  go_ret
  exact ⟨rfl, rfl⟩

set_option maxHeartbeats 400000 in
theorem cwriter_4 (R : Nat) (w : World) :
    Calls Try.prog 100 #[.pointer (some ⟨R, 0, none⟩), .int .i64 4] w fun e w' => e = .returned (.func (.func 104) #[.pointer (some ⟨R, 0, none⟩)] #[]) ∧ w' = w := by
  go_enter Try.func100, Try.ntmps100
  go_wp2
  go_ret
  exact ⟨rfl, rfl⟩

set_option maxHeartbeats 400000 in
theorem cwriter_no (R : Nat) (reg : Int) (w : World) (h0 : reg ≠ 0) (h4 : reg ≠ 4) :
    Calls Try.prog 100 #[.pointer (some ⟨R, 0, none⟩), .int .i64 reg] w fun e w' => e = .returned .nilFunc ∧ w' = w := by
  have e0 : (reg == 0) = false := by simpa using h0
  have e4 : (reg == 4) = false := by simpa using h4
  clear h0 h4
  go_enter Try.func100, Try.ntmps100
  go_wp2
  go_ret
  exact ⟨rfl, rfl⟩

theorem fnr_nil (w : World) : (binOp BinOp.eql 145 .nilFunc .nilFunc).run Try.prog w = .ok (.bool true) w := by kernel_rfl
theorem fnw_nil (w : World) : (binOp BinOp.eql 149 .nilFunc .nilFunc).run Try.prog w = .ok (.bool true) w := by kernel_rfl
theorem fnr_take (R : Nat) (w : World) : (binOp BinOp.eql 145 (.func (.func 101) #[.pointer (some ⟨R, 0, none⟩)] #[]) .nilFunc).run Try.prog w = .ok (.bool false) w := by kernel_rfl
theorem fnr_status (R : Nat) (w : World) : (binOp BinOp.eql 145 (.func (.func 102) #[.pointer (some ⟨R, 0, none⟩)] #[]) .nilFunc).run Try.prog w = .ok (.bool false) w := by kernel_rfl
theorem fnw_send (R : Nat) (w : World) : (binOp BinOp.eql 149 (.func (.func 103) #[.pointer (some ⟨R, 0, none⟩)] #[]) .nilFunc).run Try.prog w = .ok (.bool false) w := by kernel_rfl
theorem fnw_settle (R : Nat) (w : World) : (binOp BinOp.eql 149 (.func (.func 104) #[.pointer (some ⟨R, 0, none⟩)] #[]) .nilFunc).run Try.prog w = .ok (.bool false) w := by kernel_rfl

set_option maxHeartbeats 400000 in
theorem cread_nil (reg : Int) (w : World) :
    Calls Try.prog 92 #[.pointer none, .int .i64 reg] w fun e w' => e = .returned (.tuple #[.int .u32 0, .int .i64 6]) ∧ w' = w := by
  have hfn := fnr_nil
  go_enter Try.func92, Try.ntmps92
  go_wp2_with (go_at_call 99; refine (creader_nil _ _).mono ?_; rintro e w' ⟨rfl, hw⟩; have hw := hw.symm; subst hw)
  go_ret2
  exact ⟨rfl, rfl⟩

set_option maxHeartbeats 400000 in
theorem cread_no (R : Nat) (reg : Int) (w : World) (h0 : reg ≠ 0) (h4 : reg ≠ 4) :
    Calls Try.prog 92 #[.pointer (some ⟨R, 0, none⟩), .int .i64 reg] w fun e w' => e = .returned (.tuple #[.int .u32 0, .int .i64 6]) ∧ w' = w := by
  have hfn := fnr_nil
  go_enter Try.func92, Try.ntmps92
  go_wp2_with fail
  refine (creader_no R reg _ h0 h4).mono ?_
  rintro e w' ⟨rfl, hw⟩
  have hw := hw.symm
  subst hw
  go_wp2
  go_ret2
  exact ⟨rfl, rfl⟩

set_option maxHeartbeats 400000 in
theorem cread_yes {R K : Nat} {S : Nat → Prop} {T Y : Nat → Int} {s : CS} (reg : Int) (w : World) (hr : reg = 0 ∨ reg = 4) (h : IsCon w R S K T Y s) :
    Calls Try.prog 92 #[.pointer (some ⟨R, 0, none⟩), .int .i64 reg] w fun e w' => e = .returned (.tuple #[.int .u32 (s.val reg), .int .i64 0]) ∧ IsCon w' R S K T Y (s.rd reg) ∧ Fr S w w' := by
  have HC := Lib.hid h
  clear h
  rcases hr with rfl | rfl
  · have hfn := fnr_take R
    go_enter Try.func92, Try.ntmps92
    go_wp2_with fail
    refine (creader_0 R _).mono ?_
    rintro e w' ⟨rfl, hw⟩
    have hw := hw.symm
    subst hw
    go_wp2_with fail
    refine (ctake_any _ HC.out).mono ?_
    rintro e w1 ⟨rfl, h1, h2⟩
    have H1 := Lib.hid h1
    have H2 := Lib.hid h2
    clear h1 h2
    go_wp2
    go_ret2
    exact ⟨rfl, H1.out, H2.out⟩
  · have hrd : s.rd 4 = s := by unfold CS.rd; rw [if_neg (by decide)]
    rw [hrd]
    clear hrd
    have hfn := fnr_status R
    go_enter Try.func92, Try.ntmps92
    go_wp2_with fail
    refine (creader_4 R _).mono ?_
    rintro e w' ⟨rfl, hw⟩
    have hw := hw.symm
    subst hw
    go_wp2_with fail
    refine (cstatus_any _ HC.out).mono ?_
    rintro e w' ⟨rfl, hw⟩
    have hw := hw.symm
    subst hw
    go_wp2
    go_ret2
    exact ⟨rfl, HC.out, Fr.refl _ _⟩

set_option maxHeartbeats 400000 in
theorem cwrite_nil (reg x : Int) (w : World) :
    Calls Try.prog 93 #[.pointer none, .int .i64 reg, .int .u32 x] w fun e w' => e = .returned (.int .i64 6) ∧ w' = w := by
  have hfn := fnw_nil
  go_enter Try.func93, Try.ntmps93
  go_wp2_with (go_at_call 100; refine (cwriter_nil _ _).mono ?_; rintro e w' ⟨rfl, hw⟩; have hw := hw.symm; subst hw)
  go_ret
  exact ⟨rfl, rfl⟩

set_option maxHeartbeats 400000 in
theorem cwrite_no (R : Nat) (reg x : Int) (w : World) (h0 : reg ≠ 0) (h4 : reg ≠ 4) :
    Calls Try.prog 93 #[.pointer (some ⟨R, 0, none⟩), .int .i64 reg, .int .u32 x] w fun e w' => e = .returned (.int .i64 6) ∧ w' = w := by
  have hfn := fnw_nil
  go_enter Try.func93, Try.ntmps93
  go_wp2_with fail
  refine (cwriter_no R reg _ h0 h4).mono ?_
  rintro e w' ⟨rfl, hw⟩
  have hw := hw.symm
  subst hw
  go_wp2
  go_ret
  exact ⟨rfl, rfl⟩

set_option maxHeartbeats 400000 in
theorem cwrite_yes {R K : Nat} {S : Nat → Prop} {T Y : Nat → Int} {s : CS} (reg x : Int) (w : World) (hr : reg = 0 ∨ reg = 4) (hm : s.m ≤ 100000) (h : IsCon w R S K T Y s) :
    Calls Try.prog 93 #[.pointer (some ⟨R, 0, none⟩), .int .i64 reg, .int .u32 x] w fun e w' => e = .returned (.int .i64 0) ∧ ∃ S', IsCon w' R S' K T Y (s.wr reg x) ∧ Fr S w w' ∧ Ext w S S' := by
  have HC := Lib.hid h
  clear h
  rcases hr with rfl | rfl
  · have hfn := fnw_send R
    go_enter Try.func93, Try.ntmps93
    go_wp2_with fail
    refine (cwriter_0 R _).mono ?_
    rintro e w' ⟨rfl, hw⟩
    have hw := hw.symm
    subst hw
    go_wp2_with fail
    refine (csend_any x _ hm HC.out).mono ?_
    rintro e w1 ⟨rfl, h1⟩
    have H1 := Lib.hid h1
    clear h1
    go_wp2
    go_ret
    exact ⟨rfl, H1.out⟩
  · have hfn := fnw_settle R
    go_enter Try.func93, Try.ntmps93
    go_wp2_with fail
    refine (cwriter_4 R _).mono ?_
    rintro e w' ⟨rfl, hw⟩
    have hw := hw.symm
    subst hw
    go_wp2_with fail
    refine (csettle_any x _ HC.out).mono ?_
    rintro e w1 ⟨rfl, h1, h2⟩
    have H1 := Lib.hid h1
    have H2 := Lib.hid h2
    clear h1 h2
    go_wp2
    go_ret
    exact ⟨rfl, S, H1.out, H2.out, Ext.refl _ _⟩
end Go.Proofs.Ytkbccccjjlkgbaa
