/- Layer 12, the document's side: its console as a value; Push and Pop of rows that may be nil; Right, Read, Write. -/
import Derived.Test.YtbhmpfjmhjdcaaaConIO
import Derived.Test.YtbhmpfjmhjdcaaaConNew
namespace Go.Proofs.Ytbhmpfjmhjdcaaa
open Go.RowKit
set_option linter.unusedVariables false

/-- A slice of n bytes in a block that is none of S. -/
def BsV (S : Nat → Prop) (w : World) (v : Value) (n : Nat) (f : Nat → Int) : Prop :=
  (v = .slice none 0 0 ∧ n = 0) ∨ ∃ b o cap, v = .slice (some ⟨b, o, none⟩) n cap ∧ n ≤ cap ∧ ¬ S b ∧ b < w.heap.size ∧ ∀ i, i < n → w.cell? ⟨b, o + i, none⟩ = some (.int .u8 (f i))
theorem BsV.form {S : Nat → Prop} {w : World} {v : Value} {n : Nat} {f : Nat → Int} (h : BsV S w v n f) : ∃ a c, v = .slice a n c := by
  rcases h with ⟨h1, h2⟩ | ⟨b, o, cap, h, _⟩
  · exact ⟨none, 0, by rw [h1, h2]⟩
  · exact ⟨_, _, h⟩
theorem BsV.on {S : Nat → Prop} {w w' : World} {v : Value} {n : Nat} {f : Nat → Int} (h : BsV S w v n f) (hb : Below w.heap.size w w') : BsV S w' v n f := by
  rcases h with h | ⟨b, o, cap, hv, hc, hS, hl, h⟩
  · exact .inl h
  · refine .inr ⟨b, o, cap, hv, hc, hS, Nat.lt_of_lt_of_le hl hb.size, fun i hi => ?_⟩
    rw [hb.cell (p := ⟨b, _, none⟩) hl]; exact h i hi
theorem BsV.bar {S : Nat → Prop} {P : Nat} {w w' : World} {v : Value} {n : Nat} {f : Nat → Int} (h : BsV S w v n f) (hb : Bar P w w') (hP : S P) : BsV S w' v n f := by
  rcases h with h | ⟨b, o, cap, hv, hc, hS, hl, h⟩
  · exact .inl h
  · exact .inr ⟨b, o, cap, hv, hc, hS, Nat.lt_of_lt_of_le hl hb.size, fun i hi => hb.cell (fun e => hS (e ▸ hP)) (h i hi)⟩
theorem BsV.step {S S' : Nat → Prop} {w w' : World} {v : Value} {n : Nat} {f : Nat → Int} (h : BsV S w v n f) (hf : Fr S w w') (he : Ext w S S') : BsV S' w' v n f := by
  rcases h with h | ⟨b, o, cap, hv, hc, hS, hl, h⟩
  · exact .inl h
  · refine .inr ⟨b, o, cap, hv, hc, fun e => ?_, Nat.lt_of_lt_of_le hl hf.size, fun i hi => hf.cell hS (h i hi)⟩
    rcases he b e with h1 | h1
    · exact hS h1
    · omega
theorem BsV.more {S S' : Nat → Prop} {w : World} {v : Value} {n : Nat} {f : Nat → Int} (h : BsV S w v n f) (he : ∀ k, S' k → S k ∨ w.heap.size ≤ k) : BsV S' w v n f := by
  rcases h with h | ⟨b, o, cap, hv, hc, hS, hl, h⟩
  · exact .inl h
  · refine .inr ⟨b, o, cap, hv, hc, fun e => ?_, hl, h⟩
    rcases he b e with h1 | h1
    · exact hS h1
    · omega
theorem BsV.row {S : Nat → Prop} {w : World} {v : Value} {n : Nat} {f : Nat → Int} (h : BsV S w v n f) : IsRowV w v n f := by
  rcases h with ⟨h1, h2⟩ | ⟨b, o, cap, hv, hc, hS, hl, h⟩
  · exact ⟨none, 0, by rw [h1, h2], .inl h2⟩
  · exact ⟨_, _, hv, .inr ⟨b, o, rfl, h⟩⟩
theorem BsV.src {S : Nat → Prop} {w W : World} {v : Value} {n : Nat} {f : Nat → Int} (h : BsV S w v n f) (hb : Below w.heap.size w W) : (v = .slice none 0 0 ∧ n = 0) ∨ ∃ ad c, v = .slice (some ad) n c ∧ ∀ j u, (rowL n f)[j]? = some u → W.cell? (ad.add j) = some u := by
  rcases h.on hb with h | ⟨b, o, cap, hv, hc, hS, hl, h⟩
  · exact .inl h
  · refine .inr ⟨_, _, hv, fun j u hj => ?_⟩
    obtain ⟨h3, rfl⟩ := rowL_get hj
    rw [Addr.add_lit]; exact h j h3
/-- The document's console. -/
def RefC (S : Nat → Prop) (w : World) (v : Value) (a : Option Addr) (len cap : Nat) (s : CS) : Prop :=
  ∃ rx out, v = .agg #[.slice a len cap, .int .i64 (s.c : Int), rx, .bool s.ov, out] ∧ BsV S w rx s.n s.f ∧ BsV S w out s.m s.g
theorem RefC.on {S : Nat → Prop} {w w' : World} {v : Value} {a : Option Addr} {len cap : Nat} {s : CS} (h : RefC S w v a len cap s) (hb : Below w.heap.size w w') : RefC S w' v a len cap s := by
  obtain ⟨rx, out, hv, h1, h2⟩ := h
  exact ⟨rx, out, hv, h1.on hb, h2.on hb⟩
theorem RefC.bar {S : Nat → Prop} {P : Nat} {w w' : World} {v : Value} {a : Option Addr} {len cap : Nat} {s : CS} (h : RefC S w v a len cap s) (hb : Bar P w w') (hP : S P) : RefC S w' v a len cap s := by
  obtain ⟨rx, out, hv, h1, h2⟩ := h
  exact ⟨rx, out, hv, h1.bar hb hP, h2.bar hb hP⟩
theorem RefC.step {S S' : Nat → Prop} {w w' : World} {v : Value} {a : Option Addr} {len cap : Nat} {s : CS} (h : RefC S w v a len cap s) (hf : Fr S w w') (he : Ext w S S') : RefC S' w' v a len cap s := by
  obtain ⟨rx, out, hv, h1, h2⟩ := h
  exact ⟨rx, out, hv, h1.step hf he, h2.step hf he⟩
theorem RefC.more {S S' : Nat → Prop} {w : World} {v : Value} {a : Option Addr} {len cap : Nat} {s : CS} (h : RefC S w v a len cap s) (he : ∀ k, S' k → S k ∨ w.heap.size ≤ k) : RefC S' w v a len cap s := by
  obtain ⟨rx, out, hv, h1, h2⟩ := h
  exact ⟨rx, out, hv, h1.more he, h2.more he⟩

set_option maxHeartbeats 800000 in
/-- append of n bytes and one, onto a new row. -/
theorem rpushV (S : Nat → Prop) {v : Value} {n : Nat} {f : Nat → Int} (x : Int) (w : World) (hS : ∀ k, S k → k < w.heap.size) (h : BsV S w v n f) (hn : n < 16) :
    Calls Try.prog 31 #[v, .int .u8 x] w fun e w' => ∃ g c, e = .returned (.tuple #[.slice (some ⟨g, 0, none⟩) (n + 1) c, .bool true]) ∧ BsV S w' (.slice (some ⟨g, 0, none⟩) (n + 1) c) (n + 1) (snoc n f x) ∧ Below w.heap.size w w' := by
  obtain ⟨i0, hi, hz0, hz1, hz2⟩ := info_parts Try.info5
  have HB0 : Hid (Below w.heap.size w (w.alloc (.cells #[] 5))) := (Below.refl w.heap.size w).alloc (Nat.le_refl _) _
  have HO0 : Hid ((w.alloc (.cells #[] 5)).ownsRow w.heap.size 5 1 (.slice (some ⟨w.heap.size, 0, none⟩) 0 0) 0 []) := World.ownsRow_made w #[] 0 (Nat.le_refl _) (by decide) rfl
  have HSRC := Lib.hid (h.src HB0.out)
  have HSS := Lib.hid hS
  obtain ⟨a, cap, rfl⟩ := h.form
  clear h hS
  go_enter Try.func31, Try.ntmps31
  go_wp2_with (first
    | (at_builtin; refine wpList_append_src rfl (.tmp 10) (.tmp 11) 30 rfl w.heap.size 5 i0 (.int .u8 0) 1 1 Try.underlying30 hi hz0 hz1 hz2 rfl (by decide) _ 0 [] rfl HO0.out _ n (rowL n f) rfl HSRC.out (by rw [rowL_length]; omega) (rowL_one _ _) (by unfold maxLen; omega) (by omega) HB0.out.size ?_))
  intro v1 w1 hown1 hgr1 _
  have HO1 : Hid (w1.ownsRow w.heap.size 5 1 v1 n (rowL n f)) := hown1
  have HB1 : Hid (Below w.heap.size w w1) := HB0.out.grown hgr1 HB0.out.size (fun j hj => (HO0.out.lt j hj).1)
  clear hown1 hgr1
  go_wp2_with (at_builtin; refine wpList_append_own _ rfl (.tmp 12) (.tmp 14) 30 rfl w.heap.size 5 i0 (.int .u8 0) 1 1 Try.underlying30 hi hz0 hz1 hz2 rfl (by decide) _ n (rowL n f) rfl (HO1.out.alloc _) ⟨w1.heap.size, 0, none⟩ 1 1 [.int .u8 x] rfl rfl ?c1 ?c2 ?c3 ?c4 ?c5 ?_)
  case c1 =>
    intro j u hj
    match j, hj with
    | 0, hj => simp at hj; subst hj; simp [Addr.add]
  case c2 => intro u hu; simp at hu; subst hu; rfl
  case c3 => unfold maxLen; omega
  case c4 => omega
  case c5 => have := HB1.out.size; simp; omega
  intro v2 w2 hown2 hgr2 _
  have HO2 : Hid (w2.ownsRow w.heap.size 5 1 v2 (n + 1) (rowL (n + 1) (snoc n f x))) := by have h := hown2; rw [rowL_snoc] at h; exact h
  have HB2 : Hid (Below w.heap.size w w2) := (HB1.out.alloc HB1.out.size _).grown hgr2 (by have := HB1.out.size; simp; omega) (fun j hj => (HO1.out.lt j hj).1)
  clear hown2 hgr2
  obtain ⟨g, c, rfl, hc1, hc2, hc3⟩ := row_of_own HO2.out (by omega)
  go_wp2
  go_ret2
  exact ⟨g, c, rfl, .inr ⟨g, 0, c, rfl, hc1, fun e => by have := HSS.out g e; omega, (HO2.out.lt g rfl).2, fun i hi => by rw [Nat.zero_add]; exact hc3 i hi⟩, HB2.out⟩

theorem rpushF (S : Nat → Prop) {v : Value} {f : Nat → Int} (x : Int) (w : World) (h : BsV S w v 16 f) :
    Calls Try.prog 31 #[v, .int .u8 x] w fun e w' => e = .returned (.tuple #[v, .bool false]) ∧ w' = w := by
  rcases h with ⟨_, h⟩ | ⟨b, o, cap, rfl, _⟩
  · omega
  · exact rpush_full b o cap x w

set_option maxHeartbeats 400000 in
theorem rpop0 (a : Option Addr) (cap : Nat) (w : World) :
    Calls Try.prog 32 #[.slice a 0 cap] w fun e w' => e = .returned (.tuple #[.slice a 0 cap, .int .u8 0, .bool false]) ∧ w' = w := by
  go_enter Try.func32, Try.ntmps32
  go_wp2
  refine bodyPost_ret (v := .tuple #[.slice a 0 cap, .int .u8 0, .bool false]) (by simp [results, Try.results32, go_sem]) rfl ?_
  exact ⟨rfl, rfl⟩
theorem rpopV (S : Nat → Prop) {v : Value} {n : Nat} {f : Nat → Int} (w : World) (h : BsV S w v (n + 1) f) (hn : n < 16) :
    Calls Try.prog 32 #[v] w fun e w' => ∃ a c, e = .returned (.tuple #[.slice a n c, .int .u8 (f 0), .bool true]) ∧ BsV S w' (.slice a n c) n (fun i => f (i + 1)) ∧ Below w.heap.size w w' := by
  rcases h with ⟨_, h⟩ | ⟨b, o, cap, rfl, hc, hS, hl, h⟩
  · omega
  · refine (rpop_yes w.heap.size b o n cap f w ⟨hc, by omega, h⟩ hn).mono ?_
    rintro e w' ⟨o', c, rfl, ⟨h1, h2, h3⟩, hq⟩
    have hb := hq.below w.heap.size
    exact ⟨_, _, rfl, .inr ⟨b, o', c, rfl, h1, hS, Nat.lt_of_lt_of_le hl hb.size, h3⟩, hb⟩

set_option maxHeartbeats 400000 in
theorem rright_long (a : Option Addr) (len cap : Nat) (w : World) (hl : len ≤ maxLen) (h : 256 < len) :
    Calls Try.prog 9 #[.slice a len cap] w fun e w' => e = .returned (.int .i64 3) ∧ w' = w := by
  unfold maxLen at hl
  go_enter Try.func9, Try.ntmps9
  go_wp2
  go_ret
  exact ⟨rfl, rfl⟩

set_option maxHeartbeats 1600000 in
theorem rright_form {a : Option Addr} {len cap : Nat} {T Y : Nat → Int} (w : World) (hl : len ≤ 256) (ha : IsArr w a len cap T Y) (h : ¬ Rises len T) :
    Calls Try.prog 9 #[.slice a len cap] w fun e w' => e = .returned (.int .i64 1) ∧ Q w w' := by
  have HN := Lib.hid h
  have h0 : 0 < len := by
    rcases Nat.eq_zero_or_pos len with rfl | h1
    · exact absurd (fun i hi => absurd hi (by omega)) h
    · exact h1
  obtain ⟨b, off, rfl, hc⟩ := ha.at h0
  have HA := Lib.hid hc
  clear hc ha h
  go_enter Try.func9, Try.ntmps9
  go_wp2_with fail
  go_loopw [3] (fun i wr => ∃ j : Nat, j < len ∧ i = .int .i64 ((j : Int) + 1) ∧ (∀ k, k < j → T k ≤ T (k + 1)) ∧ Q w wr) (fun i _ => len + 1 - (intOf i).toNat)
  case atStart => exact ⟨0, h0, rfl, fun k hk => absurd hk (Nat.not_lt_zero k), Q.refl _⟩
  case round =>
    obtain ⟨j, hj, rfl, hr, hq⟩ := hrel
    have HR := Lib.hid hr
    clear hr
    by_cases hlt : j + 1 < len
    · obtain ⟨nq0, rfl⟩ := hq
      have c0 : w.cell? ⟨b, off + j * 2, none⟩ = some (.int .u64 (T j)) := (HA.out j (by omega)).1
      have c1 : w.cell? ⟨b, off + (j + 1) * 2, none⟩ = some (.int .u64 (T (j + 1))) := (HA.out (j + 1) hlt).1
      have g1 : (0 : Int) ≤ (j : Int) + 1 := by omega
      have g2 : (j : Int) + 1 < len := by omega
      have g3 : ((j : Int) + 1).toNat = j + 1 := by omega
      have g4 : IntKind.i64.wrap (j : Int) = j := by rw [IntKind.wrap_i64]; omega
      have g5 : (j : Int) < len := by omega
      by_cases hle : T j ≤ T (j + 1)
      · have HR2 : Hid (∀ k, k < j + 1 → T k ≤ T (k + 1)) := fun k hk => by
          by_cases e : k = j
          · subst e; exact hle
          · exact HR.out k (by omega)
        generalize T j = x at c0 hle
        generalize T (j + 1) = y at c1 hle
        go_wp2_with fail
        go_quiet (fail)
        go_wp2
        go_roundw
        case rel => exact ⟨j + 1, hlt, by go_num, HR2.out, ⟨_, rfl⟩⟩
        case measure => simp [intOf]; omega
      · have hgt : T (j + 1) < T j := by omega
        clear hle
        generalize T j = x at c0 hgt
        generalize T (j + 1) = y at c1 hgt
        go_wp2_with fail
        go_quiet (fail)
        go_wp2
        go_ret
        exact ⟨rfl, (Q.refl w).drewN _ |>.drewN _⟩
    · exact absurd (fun i hi => HR.out i (by omega)) HN.out

set_option maxHeartbeats 1600000 in
theorem rright_yes {a : Option Addr} {len cap : Nat} {T Y : Nat → Int} (w : World) (hl : len ≤ 256) (ha : IsArr w a len cap T Y) (h : Rises len T) :
    Calls Try.prog 9 #[.slice a len cap] w fun e w' => e = .returned (.int .i64 0) ∧ Q w w' := by
  have HN := Lib.hid h
  have HA := Lib.hid ha
  clear h ha
  go_enter Try.func9, Try.ntmps9
  go_wp2_with fail
  go_loopw [3] (fun i wr => ∃ j : Nat, j ≤ len ∧ i = .int .i64 ((j : Int) + 1) ∧ Q w wr) (fun i _ => len + 1 - (intOf i).toNat)
  case atStart => exact ⟨0, Nat.zero_le _, rfl, Q.refl _⟩
  case round =>
    obtain ⟨j, hj, rfl, hq⟩ := hrel
    by_cases hlt : j + 1 < len
    · obtain ⟨b, off, rfl, hc⟩ := HA.out.at (by omega)
      obtain ⟨nq0, rfl⟩ := hq
      have c0 : w.cell? ⟨b, off + j * 2, none⟩ = some (.int .u64 (T j)) := (hc j (by omega)).1
      have c1 : w.cell? ⟨b, off + (j + 1) * 2, none⟩ = some (.int .u64 (T (j + 1))) := (hc (j + 1) hlt).1
      have hle := HN.out j hlt
      clear hc
      have g1 : (0 : Int) ≤ (j : Int) + 1 := by omega
      have g2 : (j : Int) + 1 < len := by omega
      have g3 : ((j : Int) + 1).toNat = j + 1 := by omega
      have g4 : IntKind.i64.wrap (j : Int) = j := by rw [IntKind.wrap_i64]; omega
      have g5 : (j : Int) < len := by omega
      generalize T j = x at c0 hle
      generalize T (j + 1) = y at c1 hle
      go_wp2_with fail
      go_quiet (fail)
      go_wp2
      go_roundw
      case rel => exact ⟨j + 1, by omega, by go_num, ⟨_, rfl⟩⟩
      case measure => simp [intOf]; omega
    · have hlt' : ¬ ((j : Int) + 1 < len) := by omega
      have hj' : (j : Int) ≤ 256 := by omega
      clear hj hlt
      go_wp2
      go_ret
      exact ⟨rfl, by simpa using hq⟩
end Go.Proofs.Ytbhmpfjmhjdcaaa
