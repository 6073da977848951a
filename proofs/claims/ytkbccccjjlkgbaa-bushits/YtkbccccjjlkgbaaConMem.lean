/- Layer 12: what a console is: its state as numbers; its blocks; arrivals as an argument. -/
import Derived.Test.YtkbccccjjlkgbaaFifoRow
import Derived.Laws.AppendOwnNone
namespace Go.Proofs.Ytkbccccjjlkgbaa
open Go.RowKit
set_option linter.unusedVariables false

/-- How many came; how many wait, and which; was one lost; how many went out, and which. -/
structure CS where
  c : Nat
  n : Nat
  f : Nat → Int
  ov : Bool
  m : Nat
  g : Nat → Int
def CS.new : CS := ⟨0, 0, fun _ => 0, false, 0, fun _ => 0⟩
/-- The next one comes. -/
def CS.come (Y : Nat → Int) (s : CS) : CS := if s.n < 16 then ⟨s.c + 1, s.n + 1, snoc s.n s.f (Y s.c), s.ov, s.m, s.g⟩ else ⟨s.c + 1, s.n, s.f, true, s.m, s.g⟩
def CS.upN (T Y : Nat → Int) (t : Int) : Nat → CS → CS
  | 0, s => s
  | k + 1, s => if T s.c ≤ t then CS.upN T Y t k (s.come Y) else s
/-- Up to a tick. -/
def CS.up (K : Nat) (T Y : Nat → Int) (t : Int) (s : CS) : CS := CS.upN T Y t (K - s.c) s
theorem CS.come_c (Y : Nat → Int) (s : CS) : (s.come Y).c = s.c + 1 := by unfold CS.come; split <;> rfl
theorem CS.up_go {K : Nat} {T Y : Nat → Int} {t : Int} {s : CS} (h1 : s.c < K) (h2 : T s.c ≤ t) : s.up K T Y t = (s.come Y).up K T Y t := by
  unfold CS.up
  rw [CS.come_c, show K - s.c = (K - (s.c + 1)) + 1 from by omega, CS.upN, if_pos h2]
theorem CS.up_end {K : Nat} {T Y : Nat → Int} {t : Int} {s : CS} (h : K ≤ s.c ∨ t < T s.c) : s.up K T Y t = s := by
  unfold CS.up
  cases hk : K - s.c with
  | zero => rfl
  | succ k => rw [CS.upN, if_neg (by omega)]
/-- The first one that waits is taken. -/
def CS.pop (s : CS) : CS := if s.n = 0 then s else ⟨s.c, s.n - 1, fun i => s.f (i + 1), s.ov, s.m, s.g⟩

/-- The blocks that are none of S are as they were. -/
def Fr (S : Nat → Prop) (w w' : World) : Prop := w'.os = w.os ∧ w'.tape = w.tape ∧ w'.output = w.output ∧ w.heap.size ≤ w'.heap.size ∧ ∀ k, k < w.heap.size → ¬ S k → w'.heap[k]? = w.heap[k]?
theorem Fr.size {S : Nat → Prop} {w w' : World} (h : Fr S w w') : w.heap.size ≤ w'.heap.size := h.2.2.2.1
theorem Fr.block {S : Nat → Prop} {w w' : World} (h : Fr S w w') {k : Nat} (h1 : k < w.heap.size) (h2 : ¬ S k) : w'.heap[k]? = w.heap[k]? := h.2.2.2.2 k h1 h2
theorem Fr.refl (S : Nat → Prop) (w : World) : Fr S w w := ⟨rfl, rfl, rfl, Nat.le_refl _, fun _ _ _ => rfl⟩
theorem Fr.trans {S : Nat → Prop} {a b c : World} (h : Fr S a b) (g : Fr S b c) : Fr S a c :=
  ⟨g.1.trans h.1, g.2.1.trans h.2.1, g.2.2.1.trans h.2.2.1, Nat.le_trans h.size g.size, fun k hk hp => (g.block (Nat.lt_of_lt_of_le hk h.size) hp).trans (h.block hk hp)⟩
theorem Fr.of {w w' : World} (S : Nat → Prop) (h : Below w.heap.size w w') : Fr S w w' := ⟨h.os, h.tape, h.output, h.size, fun k hk _ => h.block k hk⟩
theorem Fr.bar {S : Nat → Prop} {P : Nat} {w w' : World} (h : Bar P w w') (hP : S P) : Fr S w w' := ⟨h.1, h.2.1, h.2.2.1, h.size, fun k hk hn => h.2.2.2.2 k hk (fun e => hn (e ▸ hP))⟩
theorem Fr.grown {S : Nat → Prop} {w w' : World} {row : Option Nat} (h : w.grownBy w' row) (hS : ∀ k, row = some k → S k) : Fr S w w' := ⟨h.os, h.tape, h.output, h.size, fun k hk hn => h.block k hk (fun e => hn (hS k e.symm))⟩
theorem Fr.below {S : Nat → Prop} {B : Nat} {w w' : World} (h : Fr S w w') (hS : ∀ k, S k → B ≤ k) (hB : B ≤ w.heap.size) : Below B w w' :=
  ⟨h.1, h.2.1, h.2.2.1, h.size, fun k hk => h.block (by omega) (fun e => by have := hS k e; omega)⟩
theorem Fr.cell {S : Nat → Prop} {w w' : World} (h : Fr S w w') {b o : Nat} {v : Value} (hb : ¬ S b) (hc : w.cell? ⟨b, o, none⟩ = some v) : w'.cell? ⟨b, o, none⟩ = some v := by
  rw [World.cell?_of_block (w := w) (h.block (World.block_lt_of_cell? w _ hc) hb)]; exact hc
/-- S' is S, but for blocks that were made since w. -/
def Ext (w : World) (S S' : Nat → Prop) : Prop := ∀ k, S' k → S k ∨ w.heap.size ≤ k
theorem Ext.refl (w : World) (S : Nat → Prop) : Ext w S S := fun k h => .inl h

/-- Arrivals in block B from o on, two cells each. -/
def ArrC (w : World) (B o K : Nat) (T Y : Nat → Int) : Prop := ∀ i, i < K → w.cell? ⟨B, o + i * 2, none⟩ = some (.int .u64 (T i)) ∧ w.cell? ⟨B, o + i * 2 + 1, none⟩ = some (.int .u8 (Y i))
theorem ArrC.keep {w w' : World} {B o K : Nat} {T Y : Nat → Int} (h : ArrC w B o K T Y) (hb : B < w.heap.size → w'.heap[B]? = w.heap[B]?) : ArrC w' B o K T Y := fun i hi => by
  have e := hb (World.block_lt_of_cell? w _ (h i hi).1)
  exact ⟨by rw [World.cell?_of_block (w := w) e]; exact (h i hi).1, by rw [World.cell?_of_block (w := w) e]; exact (h i hi).2⟩
/-- Arrivals as an argument. -/
def IsArr (w : World) (a : Option Addr) (len cap : Nat) (T Y : Nat → Int) : Prop :=
  len ≤ maxLen ∧ ((a = none ∧ len = 0 ∧ cap = 0) ∨ (len = 0 ∧ ∃ ad, a = some ad) ∨ ∃ b off, a = some ⟨b, off, none⟩ ∧ ArrC w b off len T Y)
theorem IsArr.on {w w' : World} {a : Option Addr} {len cap : Nat} {T Y : Nat → Int} (h : IsArr w a len cap T Y) (hb : Below w.heap.size w w') : IsArr w' a len cap T Y := by
  refine ⟨h.1, ?_⟩
  rcases h.2 with h | h | ⟨b, off, ha, hc⟩
  · exact .inl h
  · exact .inr (.inl h)
  · exact .inr (.inr ⟨b, off, ha, hc.keep (fun hl => hb.block b hl)⟩)
theorem IsArr.at {w : World} {a : Option Addr} {len cap : Nat} {T Y : Nat → Int} (h : IsArr w a len cap T Y) (h0 : 0 < len) : ∃ b off, a = some ⟨b, off, none⟩ ∧ ArrC w b off len T Y := by
  rcases h.2 with ⟨_, h, _⟩ | ⟨h, _⟩ | h
  · omega
  · omega
  · exact h

theorem own_keep {w w' : World} {base : Nat} {e : TypeId} {size : Nat} {v : Value} {n : Nat} {xs : List Value} (h : w.ownsRow base e size v n xs) (hb : ∀ k, v.ownBlock = some k → k < w.heap.size → w'.heap[k]? = w.heap[k]?) : w'.ownsRow base e size v n xs := by
  refine ⟨h.1, ?_⟩
  rcases h.2 with hn | ⟨g, cap, cur, hv, hbs, hg, rest⟩
  · exact .inl hn
  · exact .inr ⟨g, cap, cur, hv, hbs, by rw [← hg]; exact hb g (by rw [hv]; rfl) (Array.getElem?_eq_some_iff.1 hg).1, rest⟩

/-- A console: its block R; S: all the blocks that are its own. -/
def IsCon (w : World) (R : Nat) (S : Nat → Prop) (K : Nat) (T Y : Nat → Int) (s : CS) : Prop :=
  ∃ F A cap v, w.heap[R]? = some (.cells #[.slice (some ⟨A, 0, none⟩) K cap, .int .i64 (s.c : Int), .pointer (some ⟨F, 0, none⟩), .bool s.ov, v] 106 (0, 0)) ∧ IsFifo w F s.n s.f ∧ w.ownsRow 0 5 1 v s.m (rowL s.m s.g) ∧ ArrC w A 0 K T Y ∧ (s.c ≤ K ∧ K ≤ 256) ∧
    (F ≠ R ∧ A ≠ R ∧ A ≠ F ∧ ∀ k, v.ownBlock = some k → k ≠ R ∧ k ≠ F ∧ k ≠ A) ∧ (S R ∧ S F ∧ S A ∧ ∀ k, v.ownBlock = some k → S k) ∧ ∀ k, S k → k < w.heap.size
theorem IsCon.keep {w w' : World} {R : Nat} {S : Nat → Prop} {K : Nat} {T Y : Nat → Int} {s : CS} (h : IsCon w R S K T Y s) (hs : w.heap.size ≤ w'.heap.size) (hb : ∀ k, k < w.heap.size → S k → w'.heap[k]? = w.heap[k]?) : IsCon w' R S K T Y s := by
  obtain ⟨F, A, cap, v, hR, ⟨cs, q, hF, hc⟩, hO, hA, hK, hne, ⟨s1, s2, s3, s4⟩, hS⟩ := h
  have lR := (Array.getElem?_eq_some_iff.1 hR).1
  have lF := (Array.getElem?_eq_some_iff.1 hF).1
  exact ⟨F, A, cap, v, by rw [hb R lR s1]; exact hR, ⟨cs, q, by rw [hb F lF s2]; exact hF, hc⟩, own_keep hO (fun k e hk => hb k hk (s4 k e)), hA.keep (fun hk => hb A hk s3), hK, hne, ⟨s1, s2, s3, s4⟩, fun k hk => Nat.lt_of_lt_of_le (hS k hk) hs⟩
theorem IsCon.on {w w' : World} {R : Nat} {S : Nat → Prop} {K : Nat} {T Y : Nat → Int} {s : CS} (h : IsCon w R S K T Y s) (hb : Below w.heap.size w w') : IsCon w' R S K T Y s := h.keep hb.size (fun k hk _ => hb.block k hk)
theorem IsCon.q {w w' : World} {R : Nat} {S : Nat → Prop} {K : Nat} {T Y : Nat → Int} {s : CS} (h : IsCon w R S K T Y s) (hb : Q w w') : IsCon w' R S K T Y s := h.on (hb.below _)
theorem IsCon.bar {w w' : World} {R P : Nat} {S : Nat → Prop} {K : Nat} {T Y : Nat → Int} {s : CS} (h : IsCon w R S K T Y s) (hb : Bar P w w') (hP : ¬ S P) : IsCon w' R S K T Y s := h.keep hb.size (fun k hk hs => hb.2.2.2.2 k hk (fun e => hP (e ▸ hs)))
theorem IsCon.fr {w w' : World} {R : Nat} {S S' : Nat → Prop} {K : Nat} {T Y : Nat → Int} {s : CS} (h : IsCon w R S K T Y s) (hb : Fr S' w w') (hd : ∀ k, S k → ¬ S' k) : IsCon w' R S K T Y s := h.keep hb.size (fun k hk hs => hb.block hk (hd k hs))
theorem IsCon.lt {w : World} {R : Nat} {S : Nat → Prop} {K : Nat} {T Y : Nat → Int} {s : CS} (h : IsCon w R S K T Y s) : ∀ k, S k → k < w.heap.size := by
  obtain ⟨F, A, cap, v, hR, hF, hO, hA, hK, hne, hin, hS⟩ := h
  exact hS
theorem IsCon.le {w : World} {R : Nat} {S : Nat → Prop} {K : Nat} {T Y : Nat → Int} {s : CS} (h : IsCon w R S K T Y s) : s.c ≤ K ∧ K ≤ 256 ∧ s.n ≤ 16 := by
  obtain ⟨F, A, cap, v, hR, hF, hO, hA, hK, hne, hin, hS⟩ := h
  exact ⟨hK.1, hK.2, hF.le⟩
theorem IsCon.own {w : World} {R : Nat} {S : Nat → Prop} {K : Nat} {T Y : Nat → Int} {s : CS} (h : IsCon w R S K T Y s) : S R := by
  obtain ⟨F, A, cap, v, hR, hF, hO, hA, hK, hne, hin, hS⟩ := h
  exact hin.1
/-- A console behind a change of its own block and of what waits. -/
theorem IsCon.upd {w w' : World} {R F A cap K : Nat} {S : Nat → Prop} {T Y : Nat → Int} {s s' : CS} {v : Value} (hO : w.ownsRow 0 5 1 v s.m (rowL s.m s.g)) (hA : ArrC w A 0 K T Y) (hK : K ≤ 256)
    (hne : F ≠ R ∧ A ≠ R ∧ A ≠ F ∧ ∀ k, v.ownBlock = some k → k ≠ R ∧ k ≠ F ∧ k ≠ A) (hin : S R ∧ S F ∧ S A ∧ ∀ k, v.ownBlock = some k → S k) (hS : ∀ k, S k → k < w.heap.size)
    (hfr : Fr (fun k => k = R ∨ k = F) w w') (hR : w'.heap[R]? = some (.cells #[.slice (some ⟨A, 0, none⟩) K cap, .int .i64 (s'.c : Int), .pointer (some ⟨F, 0, none⟩), .bool s'.ov, v] 106 (0, 0)))
    (hF : IsFifo w' F s'.n s'.f) (hc : s'.c ≤ K) (hm : s'.m = s.m) (hg : s'.g = s.g) : IsCon w' R S K T Y s' := by
  refine ⟨F, A, cap, v, hR, hF, ?_, hA.keep (fun hk => hfr.block hk (by rintro (e | e); exact hne.2.1 e; exact hne.2.2.1 e)), ⟨hc, hK⟩, hne, hin, fun k hk => Nat.lt_of_lt_of_le (hS k hk) hfr.size⟩
  rw [hm, hg]
  exact own_keep hO (fun k e hk => hfr.block hk (by rintro (c | c); exact (hne.2.2.2 k e).1 c; exact (hne.2.2.2 k e).2.1 c))
theorem fr_set {w w' : World} {R F o : Nat} {u : Value} (h : Fr (fun k => k = R ∨ k = F) w w') : Fr (fun k => k = R ∨ k = F) w (w'.setCell ⟨R, o, none⟩ u) := h.trans (Fr.bar (Bar.setCell R o w' u) (.inl rfl))
theorem fr_bar {w w' w2 : World} {R F : Nat} (h : Fr (fun k => k = R ∨ k = F) w w') (hb : Bar F w' w2) : Fr (fun k => k = R ∨ k = F) w w2 := h.trans (Fr.bar hb (.inr rfl))
theorem fr_in {w w' : World} {R F : Nat} {S : Nat → Prop} (h : Fr (fun k => k = R ∨ k = F) w w') (h1 : S R) (h2 : S F) : Fr S w w' :=
  ⟨h.1, h.2.1, h.2.2.1, h.size, fun k hk hn => h.block hk (by rintro (rfl | rfl); exact hn h1; exact hn h2)⟩

/-- The five cells of a block. -/
theorem five_cells {w : World} {A : Nat} {a b c d e : Value} {t : TypeId} (h : w.heap[A]? = some (.cells #[a, b, c, d, e] t (0, 0))) :
    (w.cell? ⟨A, 0, none⟩ = some a ∧ w.cell? ⟨A, 1, none⟩ = some b ∧ w.cell? ⟨A, 2, none⟩ = some c ∧ w.cell? ⟨A, 3, none⟩ = some d ∧ w.cell? ⟨A, 4, none⟩ = some e) ∧
    (w.frozen? ⟨A, 0, none⟩ = false ∧ w.frozen? ⟨A, 1, none⟩ = false ∧ w.frozen? ⟨A, 2, none⟩ = false ∧ w.frozen? ⟨A, 3, none⟩ = false ∧ w.frozen? ⟨A, 4, none⟩ = false) := by
  simp [World.cell?, World.frozen?, h]

/-- append of a slice that came in: nil, or cells. -/
theorem wpList_append_src {P : Program} {w : World} {ops : Array Oper} {rest : List Oper} {o : Oper} {a : Act} {Q : Exit → Act → World → Prop} (hgd : o.guard = none) (s x : Operand) (t : TypeId)
    (ho : o.op = .call { callee := .builtin .append, args := #[s, x], argTypes := #[t, t] })
    (base : Nat) (e : TypeId) (i : TypeInfo) (z : Value) (size bytes : Nat) (ht : P.underlying t = some (.slice e)) (hi : P.info? e = some i) (hz : i.zero = some z)
    (hsize : i.size = size) (hby : i.bytes = bytes) (hzs : z.cells.size = size) (hsz : 0 < size)
    (v : Value) (n : Nat) (xs : List Value) (hs : a.eval s = v) (hown : w.ownsRow base e size v n xs)
    (y : Value) (m : Nat) (news : List Value) (hx : a.eval x = y) (hsrc : (y = .slice none 0 0 ∧ m = 0) ∨ ∃ ad c, y = .slice (some ad) m c ∧ ∀ j u, news[j]? = some u → w.cell? (ad.add j) = some u) (hl : news.length = m * size) (h1 : ∀ u ∈ news, u.oneCell' = true)
    (h63 : n + m ≤ maxLen) (hbytes : (n + m) * bytes ≤ 140737488355328) (hbase : base ≤ w.heap.size)
    (h : ∀ v' w', w'.ownsRow base e size v' (n + m) (xs ++ news) → w.grownBy w' v.ownBlock → (v' = .slice none 0 0 ↔ v = .slice none 0 0 ∧ m = 0) → wpList P ops Q rest (a.put o.dst v') w') : wpList P ops Q (o :: rest) a w := by
  rcases hsrc with ⟨rfl, rfl⟩ | ⟨ad, c, rfl, hc⟩
  · obtain rfl : news = [] := List.eq_nil_of_length_eq_zero (by simpa using hl)
    refine wpList_append_own_none hgd s x t ho base e i size ht hi v n xs hs hown hx (h v w (by simpa using hown) (World.grownBy.refl _ _) (by simp))
  · exact wpList_append_own _ hgd s x t ho base e i z size bytes ht hi hz hsize hby hzs hsz v n xs hs hown ad m c news hx hl hc h1 h63 hbytes hbase h
end Go.Proofs.Ytkbccccjjlkgbaa
