/- My texts AsmShape, InstOp, InstAwake, AsmRead, AsmGoR, AsmGoT, AsmGoI, AsmGoP, bound into one. -/
import Derived.Test.YtmkmbocnipmngaaGreatDoorB2
import Derived.Lib.Hide
import Derived.Test.YtmkmbocnipmngaaGreatDoorB1
import Derived.Laws.Strings
import Derived.Deep.RegionHeld3
import Derived.LoopN
import Derived.WalkMore
/- Layer 6: rows of strings; the document's own shape and fill. -/
namespace Go.Proofs.YtmkmbocnipmngaaGreatDoor
open Go.RowKit
set_option linter.unusedVariables false
set_option linter.unusedSimpArgs false

/-- A slice of strings, as what it reads as. -/
def IsStrs (w : World) (v : Value) (ls : List (List UInt8)) : Prop :=
  ∃ a c, v = .slice a ls.length c ∧ (ls.length = 0 ∨ ∃ g o, a = some ⟨g, o, none⟩ ∧ ∀ i, i < ls.length → w.cell? ⟨g, o + i, none⟩ = some (.string (bs (ls.getD i []))))
theorem scell_on {W w1 : World} {b o : Nat} {p : Option Nat} {v : Value} (hb : Below W.heap.size W w1) (h : W.cell? ⟨b, o, p⟩ = some v) : w1.cell? ⟨b, o, p⟩ = some v := by
  rw [hb.cell (p := ⟨b, o, p⟩) (lt_of_cell h)]; exact h
theorem IsStrs.on {W w1 : World} {v : Value} {ls : List (List UInt8)} (h : IsStrs W v ls) (hb : Below W.heap.size W w1) : IsStrs w1 v ls := by
  obtain ⟨a, c, hv, h⟩ := h
  refine ⟨a, c, hv, ?_⟩
  rcases h with h | ⟨g, o, ha, hc⟩
  · exact .inl h
  · exact .inr ⟨g, o, ha, fun i hi => scell_on hb (hc i hi)⟩
theorem IsStrs.cell {w : World} {v : Value} {ls : List (List UInt8)} (h : IsStrs w v ls) {i : Nat} (hi : i < ls.length) : ∃ g o c, v = .slice (some ⟨g, o, none⟩) ls.length c ∧ g < w.heap.size ∧ w.cell? ⟨g, o + i, none⟩ = some (.string (bs (ls.getD i []))) := by
  obtain ⟨a, c, hv, h⟩ := h
  rcases h with h | ⟨g, o, ha, hc⟩
  · omega
  · subst ha
    exact ⟨g, o, c, hv, lt_of_cell (hc i hi), hc i hi⟩
theorem IsStrs.all {w : World} {v : Value} {ls : List (List UInt8)} (h : IsStrs w v ls) (hn : 0 < ls.length) : ∃ g o c, v = .slice (some ⟨g, o, none⟩) ls.length c ∧ g < w.heap.size ∧ ∀ i, i < ls.length → w.cell? ⟨g, o + i, none⟩ = some (.string (bs (ls.getD i []))) := by
  obtain ⟨a, c, hv, h⟩ := h
  rcases h with h | ⟨g, o, ha, hc⟩
  · omega
  · subst ha
    exact ⟨g, o, c, hv, lt_of_cell (hc 0 hn), hc⟩
theorem isStrs_new (w : World) (ls : List (List UInt8)) (t : TypeId) (h : ls ≠ []) : IsStrs (w.alloc (.cells (ls.map sV).toArray t)) (.slice (some ⟨w.heap.size, 0, none⟩) ls.length ls.length) ls := by
  refine ⟨_, _, rfl, .inr ⟨_, _, rfl, fun i hi => ?_⟩⟩
  rw [World.cell?_alloc_at _ _ _ _ rfl]
  simp [hi, sV]

/-- An item as a value. -/
def itV (x : It) (line : Int) : Value := .agg #[.int .i64 x.1, .int .i64 x.2.1, .int .i64 x.2.2.1, .int .i64 x.2.2.2.1, .int .u32 x.2.2.2.2.1, .int .i64 x.2.2.2.2.2.1, .string (bs x.2.2.2.2.2.2.1), .int .u32 x.2.2.2.2.2.2.2.1, .bool x.2.2.2.2.2.2.2.2, .int .i64 line]
def kinds9 : List (List UInt8) := [kRd, kRs1, kRs2, kNum, kCsr, kTgt, [44], [40], [41] ]

theorem opt_map {o : Option Int} {f : Int → It} {e : Ending} {line : Int} (he : e = .returned (.tuple #[itV (f (o.getD 0)) line, .bool o.isSome])) : ∃ y b, e = .returned (.tuple #[itV y line, .bool b]) ∧ (b = true → o.map f = some y) ∧ (b = false → o.map f = none) := by
  cases o with
  | none => exact ⟨f 0, false, he, (fun h => by cases h), fun _ => rfl⟩
  | some n => exact ⟨f n, true, he, fun _ => rfl, fun h => by cases h⟩
theorem if_dec {c : Prop} [Decidable c] {z : It} {e : Ending} {line : Int} (he : e = .returned (.tuple #[itV z line, .bool (decide c)])) : ∃ y b, e = .returned (.tuple #[itV y line, .bool b]) ∧ (b = true → (if c then some z else none) = some y) ∧ (b = false → (if c then some z else none) = none) := by
  refine ⟨z, decide c, he, fun h => ?_, fun h => ?_⟩
  · rw [if_pos (of_decide_eq_true h)]
  · rw [if_neg (of_decide_eq_false h)]

end Go.Proofs.YtmkmbocnipmngaaGreatDoor

/- Layer 2: what Op answers of any text. -/
namespace Go.Proofs.YtmkmbocnipmngaaGreatDoor
open Go.RowKit
set_option linter.unusedVariables false

set_option maxHeartbeats 400000 in
theorem op_yes (k : Nat) (hk : k < 58) (s : ByteArray) (hs : nameS k = s) (hn : ∀ j, j < k → ((nameS j).toList == s.toList) = false) (w : World) (ht : NameTab w) :
    Calls Tryz.prog 45 #[.string s] w fun e w' => e = .returned (.tuple #[.int .i64 k, .int .i64 0]) ∧ w' = w := by
  have HN : Hid (∀ j, j < k → ((nameS j).toList == s.toList) = false) := hn
  have HT : Hid (NameTab w) := ht
  clear hn ht
  have hself : ((nameS k).toList == s.toList) = true := by rw [hs]; exact beq_self_eq_true _
  clear hs
  go_enter Tryz.func45, Tryz.ntmps45
  go_wp2
  go_loop [5] (fun i => ∃ j : Nat, j ≤ k ∧ i = .int .i64 j) (fun i => k - (intOf i).toNat)
  case atStart => exact ⟨0, Nat.zero_le _, rfl⟩
  case round =>
    obtain ⟨j, hj, rfl⟩ := hrel
    have hc := HT.out j (by omega)
    by_cases hlt : j < k
    · have hne := HN.out j hlt
      go_wp2
      go_round
      case rel => exact ⟨j + 1, by omega, by go_num⟩
      case measure => simp [intOf]; omega
    · obtain rfl : j = k := by omega
      go_wp2
      go_ret2
      exact ⟨rfl, rfl⟩

set_option maxHeartbeats 400000 in
theorem op_no (s : ByteArray) (hn : ∀ j, j < 58 → ((nameS j).toList == s.toList) = false) (w : World) (ht : NameTab w) :
    Calls Tryz.prog 45 #[.string s] w fun e w' => e = .returned (.tuple #[.int .i64 0, .int .i64 8]) ∧ w' = w := by
  have HN : Hid (∀ j, j < 58 → ((nameS j).toList == s.toList) = false) := hn
  have HT : Hid (NameTab w) := ht
  clear hn ht
  go_enter Tryz.func45, Tryz.ntmps45
  go_wp2
  go_loop [5] (fun i => ∃ j : Nat, j ≤ 58 ∧ i = .int .i64 j) (fun i => 58 - (intOf i).toNat)
  case atStart => exact ⟨0, Nat.zero_le _, rfl⟩
  case round =>
    obtain ⟨j, hj, rfl⟩ := hrel
    by_cases hlt : j < 58
    · have hc := HT.out j (by omega)
      have hne := HN.out j hlt
      go_wp2
      go_round
      case rel => exact ⟨j + 1, by omega, by go_num⟩
      case measure => simp [intOf]; omega
    · obtain rfl : j = 58 := by omega
      go_wp2
      go_ret2
      exact ⟨rfl, rfl⟩

theorem str_ne {a b : ByteArray} (h : a ≠ b) : (a.toList == b.toList) = false := by
  rw [beq_eq_false_iff_ne, ByteArray.toList_eq, ByteArray.toList_eq]
  intro e
  apply h
  obtain ⟨⟨x⟩⟩ := a
  obtain ⟨⟨y⟩⟩ := b
  simp at e
  rw [e]

theorem names_apart : ∀ i, i < 58 → ∀ j, j < i → nameL.getD j [] ≠ nameL.getD i [] := by decide +kernel
theorem nameS_apart (i j : Nat) (hi : i < 58) (hj : j < i) : nameS j ≠ nameS i := by
  intro h
  apply names_apart i hi j hj
  have : (nameL.getD j []).toArray = (nameL.getD i []).toArray := congrArg ByteArray.data h
  simpa using this

theorem op_own (k : Nat) (hk : k < 58) (w : World) (ht : NameTab w) :
    Calls Tryz.prog 45 #[.string (nameS k)] w fun e w' => e = .returned (.tuple #[.int .i64 k, .int .i64 0]) ∧ w' = w :=
  op_yes k hk _ rfl (fun j hj => str_ne (nameS_apart k j hk hj)) w ht
end Go.Proofs.YtmkmbocnipmngaaGreatDoor

/- Layer 2: the document's own Names; the program answers at all. -/
namespace Go.Proofs.YtmkmbocnipmngaaGreatDoor
open Go.RowKit
set_option linter.unusedVariables false

end Go.Proofs.YtmkmbocnipmngaaGreatDoor

/- Layer 6: the document's own read. -/
namespace Go.Proofs.YtmkmbocnipmngaaGreatDoor
open Go.RowKit
set_option linter.unusedVariables false
set_option linter.unusedSimpArgs false

def ReadsAs (ps : List (List UInt8)) (e : Ending) : Prop := ∃ x b, e = .returned (.tuple #[itV x 0, .bool b]) ∧ (b = true → readL ps = some x) ∧ (b = false → readL ps = none)

def tenV (x : It) (line : Int) : Array Value := #[.int .i64 x.1, .int .i64 x.2.1, .int .i64 x.2.2.1, .int .i64 x.2.2.2.1, .int .u32 x.2.2.2.2.1, .int .i64 x.2.2.2.2.2.1, .string (bs x.2.2.2.2.2.2.1), .int .u32 x.2.2.2.2.2.2.2.1, .bool x.2.2.2.2.2.2.2.2, .int .i64 line]
def it0 : It := (0, 0, 0, 0, 0, 0, [], 0, false)
theorem opTo_lt (p : List UInt8) : ∀ k, opTo p k < 58 ∨ opTo p k < k
  | 0 => .inl (by rw [opTo]; decide)
  | k + 1 => by
    rw [opTo]
    split
    · exact .inr (by omega)
    · rcases opTo_lt p k with h | h
      · exact .inl h
      · exact .inr (by omega)
theorem opN_lt (p : List UInt8) : opN p < 58 := by
  rcases opTo_lt p 58 with h | h <;> exact h
def TenC (V : World) (B : Nat) (op rd rs1 rs2 imm csr : Int) (lb : ByteArray) (wd : Int) (raw : Bool) (line : Int) : Prop := V.cell? ⟨B, 0, none⟩ = some (.int .i64 op) ∧ V.cell? ⟨B, 1, none⟩ = some (.int .i64 rd) ∧ V.cell? ⟨B, 2, none⟩ = some (.int .i64 rs1) ∧ V.cell? ⟨B, 3, none⟩ = some (.int .i64 rs2) ∧ V.cell? ⟨B, 4, none⟩ = some (.int .u32 imm) ∧ V.cell? ⟨B, 5, none⟩ = some (.int .i64 csr) ∧ V.cell? ⟨B, 6, none⟩ = some (.string lb) ∧ V.cell? ⟨B, 7, none⟩ = some (.int .u32 wd) ∧ V.cell? ⟨B, 8, none⟩ = some (.bool raw) ∧ V.cell? ⟨B, 9, none⟩ = some (.int .i64 line)
/-- Nothing is turned but block B. -/
def OnlyB (B : Nat) (V V' : World) : Prop := V'.os = V.os ∧ V'.tape = V.tape ∧ V'.output = V.output ∧ V'.heap.size = V.heap.size ∧ ∀ k, k ≠ B → V'.heap[k]? = V.heap[k]?
theorem OnlyB.refl (B : Nat) (V : World) : OnlyB B V V := ⟨rfl, rfl, rfl, rfl, fun _ _ => rfl⟩
theorem OnlyB.set {B : Nat} {V V' : World} (h : OnlyB B V V') (i : Nat) (v : Value) : OnlyB B V (V'.setCell ⟨B, i, none⟩ v) := by
  obtain ⟨h1, h2, h3, h4, h5⟩ := h
  refine ⟨h1, h2, h3, ?_, fun k hk => ?_⟩
  · rw [← h4]; simp [World.setCell]
  · rw [Below.heap_setCell _ _ _ _ hk]; exact h5 k hk
theorem OnlyB.below {B N : Nat} {V V' : World} (h : OnlyB B V V') (hN : N ≤ B) : Below N V V' :=
  ⟨h.1, h.2.1, h.2.2.1, Nat.le_of_eq h.2.2.2.1.symm, fun k hk => h.2.2.2.2 k (by omega)⟩
theorem onlyB_cell {B b o : Nat} {V V' : World} {v : Value} (h : OnlyB B V V') (hne : b ≠ B) (hc : V.cell? ⟨b, o, none⟩ = some v) : V'.cell? ⟨b, o, none⟩ = some v := by
  unfold World.cell? at *
  rw [h.2.2.2.2 b hne]; exact hc
theorem row_step {V : World} {B i : Nat} {cur : Array Value} {T : TypeId} (h : V.heap[B]? = some (.cells cur T)) (v : Value) : (V.setCell ⟨B, i, none⟩ v).heap[B]? = some (.cells (cur.setIfInBounds i v) T) := by
  simp [World.setCell, Array.getElem?_modify, h]
def ImmB (x : It) : Prop := 0 ≤ x.2.2.2.2.1 ∧ x.2.2.2.2.1 < 4294967296
theorem numW_some {s : List UInt8} {n : Int} (h : numW s = some n) : 0 ≤ n ∧ n < 4294967296 := by
  have := numW_bd s
  rw [h] at this; exact this
theorem fillL_bd {x y : It} {what s : List UInt8} (hx : ImmB x) (h : fillL x what s = some y) : ImmB y := by
  unfold fillL at h
  have M : ∀ {f : Int → It}, (∀ n, 0 ≤ n → n < 4294967296 → ImmB (f n)) → (numW s).map f = some y → ImmB y := fun {f} hf h => by
    obtain ⟨n, hn, rfl⟩ := Option.map_eq_some_iff.1 h
    exact hf n (numW_some hn).1 (numW_some hn).2
  split at h
  · split at h
    · cases h; exact hx
    · cases h
  split at h
  · split at h
    · cases h; exact hx
    · cases h
  split at h
  · split at h
    · cases h; exact hx
    · cases h
  split at h
  · exact M (fun n h0 h1 => ⟨h0, h1⟩) h
  split at h
  · exact M (f := fun n => (x.1, x.2.1, x.2.2.1, x.2.2.2.1, x.2.2.2.2.1, n, x.2.2.2.2.2.2)) (fun n h0 h1 => hx) h
  split at h
  · split at h
    · cases h; exact hx
    · exact M (fun n h0 h1 => ⟨h0, h1⟩) h
  split at h
  · cases h; exact hx
  · cases h
theorem fillsL_bd : ∀ {ws ps : List (List UInt8)} {x y : It}, ImmB x → fillsL x ws ps = some y → ImmB y
  | [], ps, x, y, hx, h => by
    cases ps <;> (simp only [fillsL, Option.some.injEq] at h; subst h; exact hx)
  | w :: ws, [], x, y, hx, h => by
    simp only [fillsL, Option.some.injEq] at h; subst h; exact hx
  | w :: ws, p :: ps, x, y, hx, h => by
    rw [fillsL] at h
    obtain ⟨z, hz, h⟩ := Option.bind_eq_some_iff.1 h
    exact fillsL_bd (fillL_bd hx hz) h
theorem fillsL_nil (x : It) (ps : List (List UInt8)) : fillsL x [] ps = some x := by cases ps <;> rfl
theorem shape_kinds (K k : Nat) (h : k < (shapeL K).length) : (shapeL K).getD k [] ∈ kinds9 := by
  have hall : ∀ s ∈ shapeL K, s ∈ kinds9 := by
    unfold shapeL
    repeat' split
    all_goals decide
  rw [List.getD_eq_getElem?_getD, List.getElem?_eq_getElem h]
  exact hall _ (List.getElem_mem h)
theorem fills_step (x : It) (ws ps : List (List UInt8)) (k : Nat) (h : k < ws.length) (h2 : k + 1 < ps.length) : fillsL x (ws.drop k) (ps.drop (k + 1)) = (fillL x (ws.getD k []) (ps.getD (k + 1) [])).bind fun y => fillsL y (ws.drop (k + 1)) (ps.drop (k + 2)) := by
  have e1 : ws.drop k = ws.getD k [] :: ws.drop (k + 1) := by
    rw [List.drop_eq_getElem_cons h]; simp [List.getD, h]
  have e2 : ps.drop (k + 1) = ps.getD (k + 1) [] :: ps.drop (k + 2) := by
    rw [List.drop_eq_getElem_cons h2]; simp [List.getD, h2]
  rw [e1, e2, fillsL]
theorem shape_len (k : Nat) : (shapeL k).length ≤ 6 := by
  unfold shapeL
  repeat' split
  all_goals simp

end Go.Proofs.YtmkmbocnipmngaaGreatDoor

/- Layer 6, the program's own register, csr, upper, layout and take. -/
namespace Go.Proofs.YtmkmbocnipmngaaGreatDoor
open Go.RowKit
set_option linter.unusedVariables false

theorem fold_ge : ∀ (l : List UInt8) (a : Nat), a * 10 ^ l.length ≤ l.foldl (fun a c => a * 10 + (c.toNat - 48)) a
  | [], a => by simp
  | c :: r, a => by
    have ih := fold_ge r (a * 10 + (c.toNat - 48))
    simp only [List.foldl_cons, List.length_cons, Nat.pow_succ]
    refine Nat.le_trans ?_ ih
    have : a * (10 ^ r.length * 10) = (a * 10) * 10 ^ r.length := by rw [Nat.mul_comm (10 ^ r.length), Nat.mul_assoc]
    rw [this]
    exact Nat.mul_le_mul_right _ (by omega)
theorem digN_big (c : UInt8) (r : List UInt8) (hc : c ≠ 48) (hr : 2 ≤ r.length) (h : 0 ≤ digN (c :: r)) : 100 ≤ digN (c :: r) := by
  unfold digN at *
  split at h
  · rename_i g
    rw [if_pos g]
    have ga := g.2.2
    simp only [List.all_cons, Bool.and_eq_true] at ga
    have hd := of_decide_eq_true ga.1
    have hc' : c.toNat ≠ 48 := fun e => hc (byte_is c 48 (by decide) e)
    have e : valL (c :: r) = r.foldl (fun a c => a * 10 + (c.toNat - 48)) (0 * 10 + (c.toNat - 48)) := rfl
    have f := fold_ge r (0 * 10 + (c.toNat - 48))
    rw [← e] at f
    have p : (10 : Nat) ^ 2 ≤ 10 ^ r.length := Nat.pow_le_pow_right (by decide) hr
    have q : 1 * 10 ^ r.length ≤ (0 * 10 + (c.toNat - 48)) * 10 ^ r.length := Nat.mul_le_mul_right _ (by omega)
    omega
  · omega
theorem regN_cons (r : List UInt8) : regN (120 :: r) = if r.length < 1 ∨ 2 < r.length then -1 else if 31 < digN r ∨ (r.length = 2 ∧ r.getD 0 0 = 48) then -1 else digN r := by
  unfold regN
  by_cases h : r.length < 1 ∨ 2 < r.length
  · rw [if_pos h, if_pos (by simp only [List.length_cons]; omega)]
  · rw [if_neg h, if_neg (by simp only [List.length_cons, List.getD_cons_zero]; rintro (a | a | a) <;> first | omega | exact a rfl)]
    have e : (31 < digN (List.drop 1 (120 :: r)) ∨ (120 :: r).length = 3 ∧ (120 :: r).getD 1 0 = 48) ↔ (31 < digN r ∨ (r.length = 2 ∧ r.getD 0 0 = 48)) := by
      simp
    by_cases g : 31 < digN r ∨ (r.length = 2 ∧ r.getD 0 0 = 48)
    · rw [if_pos g, if_pos (e.2 g)]
    · rw [if_neg g, if_neg (fun x => g (e.1 x))]; rfl
theorem regN_other (l : List UInt8) (h : ¬ (0 < l.length ∧ l.getD 0 0 = 120)) : regN l = -1 := by
  unfold regN
  rw [if_pos]
  by_cases g : l.length < 2
  · exact .inl g
  · exact .inr (.inr (fun e => h ⟨by omega, e⟩))
/-- What the program asks, in its own order. -/
theorem regN_steps (r : List UInt8) : regN (120 :: r) = if 1 < r.length ∧ r.getD 0 0 = 48 then -1 else if digN r < 0 ∨ 31 < digN r then -1 else digN r := by
  rw [regN_cons]
  by_cases a : 1 < r.length ∧ r.getD 0 0 = 48
  · rw [if_pos a]
    by_cases b : r.length < 1 ∨ 2 < r.length
    · rw [if_pos b]
    · rw [if_neg b, if_pos (.inr ⟨by omega, a.2⟩)]
  · rw [if_neg a]
    by_cases b : r.length < 1 ∨ 2 < r.length
    · rw [if_pos b]
      rcases b with b | b
      · have : digN r = -1 := by
          unfold digN; rw [if_neg (by rintro ⟨h, _⟩; omega)]
        rw [if_pos (.inl (by omega))]
      · match r, a, b with
        | c :: r', a, b =>
          simp only [List.length_cons, List.getD_cons_zero] at a b
          by_cases g : 0 ≤ digN (c :: r')
          · have := digN_big c r' (fun e => a ⟨by omega, e⟩) (by omega) g
            rw [if_pos (.inr (by omega))]
          · rw [if_pos (.inl (by omega))]
    · rw [if_neg b]
      by_cases d : 31 < digN r
      · rw [if_pos (.inl d), if_pos (.inr d)]
      · rw [if_neg (by rintro (g | ⟨g1, g2⟩); exact d g; exact a ⟨by omega, g2⟩)]
        have := digN_lt r
        by_cases e : digN r < 0
        · rw [if_pos (.inl e)]; omega
        · rw [if_neg (by omega)]

set_option maxHeartbeats 1000000 in
theorem areg_any (l : List UInt8) (w : World) (hl : l.length ≤ 70000) :
    Calls Tryz.prog 69 #[.string (bs l)] w fun e w' => e = .returned (.tuple #[.int .i64 (pos (regN l)), .int .i64 (eN (regN l))]) ∧ w' = w := by
  by_cases h : 0 < l.length ∧ l.getD 0 0 = 120
  · obtain ⟨r, rfl⟩ := one_cons h
    clear h
    have hsz : (bs r).size = r.length := bs_size r
    have hlr : r.length ≤ 70000 := by simp at hl; omega
    have HC : Hid (∀ w, Calls Tryz.prog 88 #[.string (bs (120 :: r)), .string ⟨#[120]⟩] w fun e w' => e = .returned (.tuple #[.string (bs r), .bool true]) ∧ w' = w) := fun w => by
      have h' := cutp_any (120 :: r) [120] w
      rw [(pre1_yes 120 r).1, (pre1_yes 120 r).2] at h'
      exact h'
    have HD : Hid (∀ w, Calls Tryz.prog 89 #[.string (bs r)] w fun e w' => e = .returned (.tuple #[.int .u64 (pos (digN r)), .int .i64 (eN (digN r))]) ∧ w' = w) := fun w => dec_any r w hlr
    have HS : Hid _ := regN_steps r
    have hs0 := sign_form (bs r) 0
    have hC0 := sign_bs r 0
    obtain ⟨c0, c1⟩ := signAt_bd (bs r) 0
    obtain ⟨d1, d0⟩ := digN_lt r
    generalize r.getD 0 0 = c at *
    generalize signAt (bs r) 0 = C at *
    have HCc : Hid (C = (c.toNat : Int)) := hC0
    clear hC0 hl
    generalize regN (120 :: r) = R at *
    by_cases a : 1 < r.length ∧ c = 48
    · obtain ⟨a1, rfl⟩ := a
      have hC : C = 48 := HCc.out
      subst hC
      have HR : Hid (R = -1) := by
        show R = -1
        rw [HS.out, if_pos ⟨a1, rfl⟩]
      go_enter Tryz.func69, Tryz.ntmps69
      go_wp2_with (first | (go_at_call 88; refine (HC.out _).mono ?_; rintro e w' ⟨rfl, hw⟩; have hw := hw.symm; subst hw))
      go_ret2
      rw [HR.out]
      exact ⟨rfl, rfl⟩
    · have HR1 : Hid (R = if digN r < 0 ∨ 31 < digN r then -1 else digN r) := by
        show R = _
        rw [HS.out, if_neg a]
      have hne : 1 < r.length → (C == 48) = false := fun g => by
        rw [beq_eq_false_iff_ne]
        intro e
        have := HCc.out
        exact a ⟨g, byte_is c 48 (by decide) (by omega)⟩
      clear HS a
      generalize digN r = D at *
      by_cases e0 : D < 0
      · have HR : Hid (R = -1) := by
          show R = -1
          rw [HR1.out, if_pos (.inl e0)]
        rw [pos_no e0, eN_no e0] at HD
        by_cases g : 1 < r.length
        · have hn := hne g
          clear hne
          go_enter Tryz.func69, Tryz.ntmps69
          go_wp2_with (first | (go_at_call 88; refine (HC.out _).mono ?_; rintro e w' ⟨rfl, hw⟩; have hw := hw.symm; subst hw) | (go_at_call 89; refine (HD.out _).mono ?_; rintro e w' ⟨rfl, hw⟩; have hw := hw.symm; subst hw))
          go_ret2
          rw [HR.out]
          exact ⟨rfl, rfl⟩
        · clear hne
          go_enter Tryz.func69, Tryz.ntmps69
          go_wp2_with (first | (go_at_call 88; refine (HC.out _).mono ?_; rintro e w' ⟨rfl, hw⟩; have hw := hw.symm; subst hw) | (go_at_call 89; refine (HD.out _).mono ?_; rintro e w' ⟨rfl, hw⟩; have hw := hw.symm; subst hw))
          go_ret2
          rw [HR.out]
          exact ⟨rfl, rfl⟩
      · have e0' : 0 ≤ D := by omega
        rw [pos_yes e0', eN_yes e0'] at HD
        by_cases e1 : 31 < D
        · have HR : Hid (R = -1) := by
            show R = -1
            rw [HR1.out, if_pos (.inr e1)]
          by_cases g : 1 < r.length
          · have hn := hne g
            clear hne
            go_enter Tryz.func69, Tryz.ntmps69
            go_wp2_with (first | (go_at_call 88; refine (HC.out _).mono ?_; rintro e w' ⟨rfl, hw⟩; have hw := hw.symm; subst hw) | (go_at_call 89; refine (HD.out _).mono ?_; rintro e w' ⟨rfl, hw⟩; have hw := hw.symm; subst hw))
            go_ret2
            rw [HR.out]
            exact ⟨rfl, rfl⟩
          · clear hne
            go_enter Tryz.func69, Tryz.ntmps69
            go_wp2_with (first | (go_at_call 88; refine (HC.out _).mono ?_; rintro e w' ⟨rfl, hw⟩; have hw := hw.symm; subst hw) | (go_at_call 89; refine (HD.out _).mono ?_; rintro e w' ⟨rfl, hw⟩; have hw := hw.symm; subst hw))
            go_ret2
            rw [HR.out]
            exact ⟨rfl, rfl⟩
        · have HR : Hid (R = D) := by
            show R = D
            rw [HR1.out, if_neg (by omega)]
          by_cases g : 1 < r.length
          · have hn := hne g
            clear hne
            go_enter Tryz.func69, Tryz.ntmps69
            go_wp2_with (first | (go_at_call 88; refine (HC.out _).mono ?_; rintro e w' ⟨rfl, hw⟩; have hw := hw.symm; subst hw) | (go_at_call 89; refine (HD.out _).mono ?_; rintro e w' ⟨rfl, hw⟩; have hw := hw.symm; subst hw))
            go_ret2
            rw [HR.out, pos_yes e0', eN_yes e0']
            exact ⟨rfl, rfl⟩
          · clear hne
            go_enter Tryz.func69, Tryz.ntmps69
            go_wp2_with (first | (go_at_call 88; refine (HC.out _).mono ?_; rintro e w' ⟨rfl, hw⟩; have hw := hw.symm; subst hw) | (go_at_call 89; refine (HD.out _).mono ?_; rintro e w' ⟨rfl, hw⟩; have hw := hw.symm; subst hw))
            go_ret2
            rw [HR.out, pos_yes e0', eN_yes e0']
            exact ⟨rfl, rfl⟩
  · have HC : Hid (∀ w, Calls Tryz.prog 88 #[.string (bs l), .string ⟨#[120]⟩] w fun e w' => e = .returned (.tuple #[.string (bs l), .bool false]) ∧ w' = w) := fun w => by
      have h' := cutp_any l [120] w
      rw [(pre1_no 120 l h).1, (pre1_no 120 l h).2] at h'
      exact h'
    have HR : Hid (regN l = -1) := regN_other l h
    clear h hl
    go_enter Tryz.func69, Tryz.ntmps69
    go_wp2_with (first | (go_at_call 88; refine (HC.out _).mono ?_; rintro e w' ⟨rfl, hw⟩; have hw := hw.symm; subst hw))
    go_ret2
    rw [HR.out]
    exact ⟨rfl, rfl⟩

set_option maxHeartbeats 400000 in
theorem acsr_any (l : List UInt8) (w : World) (hl : l.length ≤ 70000) :
    Calls Tryz.prog 70 #[.string (bs l)] w fun e w' => e = .returned (.tuple #[.int .i64 ((numW l).getD 0), .int .i64 (eO (numW l))]) ∧ w' = w := by
  have HN : Hid (∀ w, Calls Tryz.prog 73 #[.string (bs l)] w fun e w' => e = .returned (.tuple #[.int .u32 ((numW l).getD 0), .int .i64 (eO (numW l))]) ∧ w' = w) := fun w => num6_any l w hl
  obtain ⟨b0, b1⟩ := numW_bd l
  generalize (numW l).getD 0 = N at *
  generalize eO (numW l) = E at *
  clear hl
  go_enter Tryz.func70, Tryz.ntmps70
  go_wp2_with (first | (go_at_call 73; refine (HN.out _).mono ?_; rintro e w' ⟨rfl, hw⟩; have hw := hw.symm; subst hw))
  go_ret2
  exact ⟨rfl, rfl⟩

/-- FormU's number. -/
def upW (l : List UInt8) : Option Int := (numW l).bind fun n => if 1048576 ≤ n then none else some (n * 4096)
theorem eO_none : eO none = 1 := rfl
theorem eO_some (n : Int) : eO (some n) = 0 := rfl

set_option maxHeartbeats 400000 in
theorem aup_any (l : List UInt8) (w : World) (hl : l.length ≤ 70000) :
    Calls Tryz.prog 71 #[.string (bs l)] w fun e w' => e = .returned (.tuple #[.int .u32 ((upW l).getD 0), .int .i64 (eO (upW l))]) ∧ w' = w := by
  have HN : Hid (∀ w, Calls Tryz.prog 73 #[.string (bs l)] w fun e w' => e = .returned (.tuple #[.int .u32 ((numW l).getD 0), .int .i64 (eO (numW l))]) ∧ w' = w) := fun w => num6_any l w hl
  obtain ⟨b0, b1⟩ := numW_bd l
  have HU : Hid (upW l = (numW l).bind fun n => if 1048576 ≤ n then none else some (n * 4096)) := rfl
  generalize upW l = U at *
  clear hl
  cases hn : numW l with
  | none =>
    rw [hn] at HN HU
    have HU2 : Hid (U = none) := HU.out
    clear HU b0 b1
    simp only [Option.getD_none, eO_none] at HN
    go_enter Tryz.func71, Tryz.ntmps71
    go_wp2_with (first | (go_at_call 73; refine (HN.out _).mono ?_; rintro e w' ⟨rfl, hw⟩; have hw := hw.symm; subst hw))
    go_ret2
    rw [HU2.out]
    exact ⟨rfl, rfl⟩
  | some N =>
    rw [hn] at HN HU b0 b1
    simp only [Option.getD_some, eO_some] at HN b0 b1
    by_cases g : 1048576 ≤ N
    · have HU2 : Hid (U = none) := by
        show U = none
        rw [HU.out]; simp [g]
      clear HU
      go_enter Tryz.func71, Tryz.ntmps71
      go_wp2_with (first | (go_at_call 73; refine (HN.out _).mono ?_; rintro e w' ⟨rfl, hw⟩; have hw := hw.symm; subst hw))
      go_ret2
      rw [HU2.out]
      exact ⟨rfl, rfl⟩
    · have HU2 : Hid (U = some (N * 4096)) := by
        show U = _
        rw [HU.out]; simp [g]
      clear HU
      go_enter Tryz.func71, Tryz.ntmps71
      go_wp2_with (first | (go_at_call 73; refine (HN.out _).mono ?_; rintro e w' ⟨rfl, hw⟩; have hw := hw.symm; subst hw))
      go_ret2
      rw [HU2.out]
      refine ⟨ret_two ?_ rfl, rfl⟩
      simp
      try omega
end Go.Proofs.YtmkmbocnipmngaaGreatDoor

/- Layer 6, the program's own layout and what strings.Fields makes of it; take. -/
namespace Go.Proofs.YtmkmbocnipmngaaGreatDoor
open Go.RowKit
set_option linter.unusedVariables false
set_option linter.unusedSimpArgs false

def kUp : List UInt8 := [117, 112, 112, 101, 114]
def kPl : List UInt8 := [112, 108, 97, 99, 101]
def kIm : List UInt8 := [105, 109, 109]
/-- Does it add up to an address? -/
def addrB (k : Nat) : Bool := decide (k = 4 ∨ 0 < loadsZ k)
/-- What stands behind a name: as the program tells it, and piece by piece. -/
def layS (k : Nat) : List UInt8 :=
  if formZ k = 1 then [114, 100, 32, 44, 32, 117, 112, 112, 101, 114]
  else if formZ k = 2 then [114, 100, 32, 44, 32, 112, 108, 97, 99, 101]
  else if formZ k = 3 then (if addrB k = true then [114, 100, 32, 44, 32, 105, 109, 109, 32, 40, 32, 114, 115, 49, 32, 41] else [114, 100, 32, 44, 32, 114, 115, 49, 32, 44, 32, 105, 109, 109])
  else if formZ k = 4 then [114, 115, 49, 32, 44, 32, 114, 115, 50, 32, 44, 32, 112, 108, 97, 99, 101]
  else if formZ k = 5 then [114, 115, 50, 32, 44, 32, 105, 109, 109, 32, 40, 32, 114, 115, 49, 32, 41]
  else if formZ k = 6 then [114, 100, 32, 44, 32, 114, 115, 49, 32, 44, 32, 114, 115, 50]
  else if formZ k = 7 then [114, 100, 32, 44, 32, 114, 115, 49, 32, 44, 32, 105, 109, 109]
  else if formZ k = 8 then [114, 100, 32, 44, 32, 99, 115, 114, 32, 44, 32, 114, 115, 49]
  else if formZ k = 9 then [114, 100, 32, 44, 32, 99, 115, 114, 32, 44, 32, 105, 109, 109]
  else []
def gshape (k : Nat) : List (List UInt8) :=
  if formZ k = 1 then [kRd, [44], kUp]
  else if formZ k = 2 then [kRd, [44], kPl]
  else if formZ k = 3 then (if addrB k = true then [kRd, [44], kIm, [40], kRs1, [41]] else [kRd, [44], kRs1, [44], kIm])
  else if formZ k = 4 then [kRs1, [44], kRs2, [44], kPl]
  else if formZ k = 5 then [kRs2, [44], kIm, [40], kRs1, [41]]
  else if formZ k = 6 then [kRd, [44], kRs1, [44], kRs2]
  else if formZ k = 7 then [kRd, [44], kRs1, [44], kIm]
  else if formZ k = 8 then [kRd, [44], kCsr, [44], kRs1]
  else if formZ k = 9 then [kRd, [44], kCsr, [44], kIm]
  else []
theorem fields_lay : ∀ k, k < 58 → Lib.fields (layS k) = gshape k := by decide +kernel
theorem lay_len : ∀ k, k < 58 → (layS k).length ≤ 20 := by decide +kernel
theorem gshape_len : ∀ k, k < 58 → (gshape k).length ≤ 6 := by decide +kernel
theorem lay_ascii : ∀ k, k < 58 → (layS k).all (fun b => decide (b.toNat < 128)) = true := by decide +kernel

set_option maxHeartbeats 400000 in
theorem ahasAddr_any (k : Nat) (w : World) (hk : k < 58) :
    Calls Tryz.prog 68 #[.int .i64 k] w fun e w' => e = .returned (.bool (addrB k)) ∧ w' = w := by
  have HL : Hid (∀ w, Calls Tryz.prog 62 #[.int .i64 k] w fun e w' => e = .returned (.int .i64 (loadsZ k)) ∧ w' = w) := fun w => loads_any k w
  have HA : Hid (addrB k = decide (k = 4 ∨ 0 < loadsZ k)) := rfl
  by_cases h4 : k = 4
  · subst h4
    go_enter Tryz.func68, Tryz.ntmps68
    go_wp2_with (first | (go_at_call 62; refine (HL.out _).mono ?_; rintro e w' ⟨rfl, hw⟩; have hw := hw.symm; subst hw))
    go_ret
    exact ⟨rfl, rfl⟩
  · have e4 : ((k : Int) == 4) = false := by simp; omega
    have HK : Hid (k ≠ 4) := h4
    clear h4
    by_cases hp : 0 < loadsZ k
    · generalize loadsZ k = L at *
      go_enter Tryz.func68, Tryz.ntmps68
      go_wp2_with (first | (go_at_call 62; refine (HL.out _).mono ?_; rintro e w' ⟨rfl, hw⟩; have hw := hw.symm; subst hw))
      go_ret
      refine ⟨ret_bool ?_, rfl⟩
      rw [HA.out]; first | exact decide_eq_true (.inr hp) | simp [HK.out, hp]
    · generalize loadsZ k = L at *
      go_enter Tryz.func68, Tryz.ntmps68
      go_wp2_with (first | (go_at_call 62; refine (HL.out _).mono ?_; rintro e w' ⟨rfl, hw⟩; have hw := hw.symm; subst hw))
      go_ret
      refine ⟨ret_bool ?_, rfl⟩
      rw [HA.out]; first | exact decide_eq_false (fun g => g.elim HK.out hp) | simp [HK.out, hp]

set_option maxHeartbeats 1000000 in
theorem layout_any (k : Nat) (w : World) (hk : k < 58) (ht : FormTab w) :
    Calls Tryz.prog 47 #[.int .i64 k] w fun e w' => e = .returned (.string (bs (layS k))) ∧ w' = w := by
  have HF : Hid (Calls Tryz.prog 26 #[.int .i64 k] w fun e w' => e = .returned (.tuple #[.int .i64 (formZ k), .int .i64 0]) ∧ w' = w) := form_yes k hk w ht
  have HA : Hid (∀ w, Calls Tryz.prog 68 #[.int .i64 k] w fun e w' => e = .returned (.bool (addrB k)) ∧ w' = w) := fun w => ahasAddr_any k w hk
  have hz : formZ k = 0 ∨ formZ k = 1 ∨ formZ k = 2 ∨ formZ k = 3 ∨ formZ k = 4 ∨ formZ k = 5 ∨ formZ k = 6 ∨ formZ k = 7 ∨ formZ k = 8 ∨ formZ k = 9 := by
    have := formZ_lt k hk; omega
  clear ht
  rcases hz with hz | hz | hz | hz | hz | hz | hz | hz | hz | hz
  · have HS : Hid (layS k = []) := by show layS k = _; unfold layS; rw [hz]; rfl
    rw [hz] at HF
    go_enter Tryz.func47, Tryz.ntmps47
    go_wp2_with (first | (go_at_call 26; refine HF.out.mono ?_; rintro e w' ⟨rfl, hw⟩; have hw := hw.symm; subst hw))
    go_ret
    rw [HS.out]
    exact ⟨rfl, rfl⟩
  · have HS : Hid (layS k = [114, 100, 32, 44, 32, 117, 112, 112, 101, 114]) := by show layS k = _; unfold layS; rw [hz]; rfl
    rw [hz] at HF
    go_enter Tryz.func47, Tryz.ntmps47
    go_wp2_with (first | (go_at_call 26; refine HF.out.mono ?_; rintro e w' ⟨rfl, hw⟩; have hw := hw.symm; subst hw))
    go_ret
    rw [HS.out]
    exact ⟨rfl, rfl⟩
  · have HS : Hid (layS k = [114, 100, 32, 44, 32, 112, 108, 97, 99, 101]) := by show layS k = _; unfold layS; rw [hz]; rfl
    rw [hz] at HF
    go_enter Tryz.func47, Tryz.ntmps47
    go_wp2_with (first | (go_at_call 26; refine HF.out.mono ?_; rintro e w' ⟨rfl, hw⟩; have hw := hw.symm; subst hw))
    go_ret
    rw [HS.out]
    exact ⟨rfl, rfl⟩
  · rw [hz] at HF
    cases ha : addrB k
    · have HS : Hid (layS k = [114, 100, 32, 44, 32, 114, 115, 49, 32, 44, 32, 105, 109, 109]) := by show layS k = _; unfold layS; rw [hz, ha]; rfl
      rw [ha] at HA
      go_enter Tryz.func47, Tryz.ntmps47
      go_wp2_with (first | (go_at_call 26; refine HF.out.mono ?_; rintro e w' ⟨rfl, hw⟩; have hw := hw.symm; subst hw) | (go_at_call 68; refine (HA.out _).mono ?_; rintro e w' ⟨rfl, hw⟩; have hw := hw.symm; subst hw))
      go_ret
      rw [HS.out]
      exact ⟨rfl, rfl⟩
    · have HS : Hid (layS k = [114, 100, 32, 44, 32, 105, 109, 109, 32, 40, 32, 114, 115, 49, 32, 41]) := by show layS k = _; unfold layS; rw [hz, ha]; rfl
      rw [ha] at HA
      go_enter Tryz.func47, Tryz.ntmps47
      go_wp2_with (first | (go_at_call 26; refine HF.out.mono ?_; rintro e w' ⟨rfl, hw⟩; have hw := hw.symm; subst hw) | (go_at_call 68; refine (HA.out _).mono ?_; rintro e w' ⟨rfl, hw⟩; have hw := hw.symm; subst hw))
      go_ret
      rw [HS.out]
      exact ⟨rfl, rfl⟩
  · have HS : Hid (layS k = [114, 115, 49, 32, 44, 32, 114, 115, 50, 32, 44, 32, 112, 108, 97, 99, 101]) := by show layS k = _; unfold layS; rw [hz]; rfl
    rw [hz] at HF
    go_enter Tryz.func47, Tryz.ntmps47
    go_wp2_with (first | (go_at_call 26; refine HF.out.mono ?_; rintro e w' ⟨rfl, hw⟩; have hw := hw.symm; subst hw))
    go_ret
    rw [HS.out]
    exact ⟨rfl, rfl⟩
  · have HS : Hid (layS k = [114, 115, 50, 32, 44, 32, 105, 109, 109, 32, 40, 32, 114, 115, 49, 32, 41]) := by show layS k = _; unfold layS; rw [hz]; rfl
    rw [hz] at HF
    go_enter Tryz.func47, Tryz.ntmps47
    go_wp2_with (first | (go_at_call 26; refine HF.out.mono ?_; rintro e w' ⟨rfl, hw⟩; have hw := hw.symm; subst hw))
    go_ret
    rw [HS.out]
    exact ⟨rfl, rfl⟩
  · have HS : Hid (layS k = [114, 100, 32, 44, 32, 114, 115, 49, 32, 44, 32, 114, 115, 50]) := by show layS k = _; unfold layS; rw [hz]; rfl
    rw [hz] at HF
    go_enter Tryz.func47, Tryz.ntmps47
    go_wp2_with (first | (go_at_call 26; refine HF.out.mono ?_; rintro e w' ⟨rfl, hw⟩; have hw := hw.symm; subst hw))
    go_ret
    rw [HS.out]
    exact ⟨rfl, rfl⟩
  · have HS : Hid (layS k = [114, 100, 32, 44, 32, 114, 115, 49, 32, 44, 32, 105, 109, 109]) := by show layS k = _; unfold layS; rw [hz]; rfl
    rw [hz] at HF
    go_enter Tryz.func47, Tryz.ntmps47
    go_wp2_with (first | (go_at_call 26; refine HF.out.mono ?_; rintro e w' ⟨rfl, hw⟩; have hw := hw.symm; subst hw))
    go_ret
    rw [HS.out]
    exact ⟨rfl, rfl⟩
  · have HS : Hid (layS k = [114, 100, 32, 44, 32, 99, 115, 114, 32, 44, 32, 114, 115, 49]) := by show layS k = _; unfold layS; rw [hz]; rfl
    rw [hz] at HF
    go_enter Tryz.func47, Tryz.ntmps47
    go_wp2_with (first | (go_at_call 26; refine HF.out.mono ?_; rintro e w' ⟨rfl, hw⟩; have hw := hw.symm; subst hw))
    go_ret
    rw [HS.out]
    exact ⟨rfl, rfl⟩
  · have HS : Hid (layS k = [114, 100, 32, 44, 32, 99, 115, 114, 32, 44, 32, 105, 109, 109]) := by show layS k = _; unfold layS; rw [hz]; rfl
    rw [hz] at HF
    go_enter Tryz.func47, Tryz.ntmps47
    go_wp2_with (first | (go_at_call 26; refine HF.out.mono ?_; rintro e w' ⟨rfl, hw⟩; have hw := hw.symm; subst hw))
    go_ret
    rw [HS.out]
    exact ⟨rfl, rfl⟩

theorem fields_any (k : Nat) (w : World) (hk : k < 58) (hS : SpTab w) :
    Calls Tryz.prog 46 #[.string (bs (layS k))] w fun e w' => ∃ v, e = .returned v ∧ IsStrs w' v (gshape k) ∧ (∀ g o n c, v = .slice (some ⟨g, o, none⟩) n c → w.heap.size ≤ g) ∧ Below w.heap.size w w' := by
  have hl := lay_len k hk
  refine (Any.strings_Fields lays157 (by kernel_rfl) (by kernel_rfl) (bs (layS k)) w (by rw [bs_size]; omega) (fun j b hb => ?_) hS).mono ?_
  · have hm : b ∈ layS k := List.mem_of_getElem? hb
    have := List.all_eq_true.1 (lay_ascii k hk) b hm
    exact of_decide_eq_true this
  · rintro e w' ⟨rfl, rfl⟩
    have hd : (bs (layS k)).data.toList = layS k := by simp [bs]
    rw [hd, fields_lay k hk]
    refine ⟨_, rfl, ?_, (fun g o n c e => by simp at e; omega), (Below.refl _ _).alloc (Nat.le_refl _) _⟩
    by_cases hne : gshape k = []
    · rw [hne]; exact ⟨_, _, rfl, .inl rfl⟩
    · exact isStrs_new w (gshape k) _ hne

/-! take -/

/-- A statement in a block of its own. -/
def StB (V : World) (B : Nat) (kd ln pl : Int) (x : It) : Prop := V.heap[B]? = some (.cells #[.int .i64 kd, .int .i64 ln, .int .u32 pl, .int .i64 x.1, .int .i64 x.2.1, .int .i64 x.2.2.1, .int .i64 x.2.2.2.1, .int .u32 x.2.2.2.2.1, .int .i64 x.2.2.2.2.2.1, .string (bs x.2.2.2.2.2.2.1)] 45)
theorem StB.cells {V : World} {B : Nat} {kd ln pl : Int} {x : It} (h : StB V B kd ln pl x) : V.cell? ⟨B, 0, none⟩ = some (.int .i64 kd) ∧ V.cell? ⟨B, 1, none⟩ = some (.int .i64 ln) ∧ V.cell? ⟨B, 2, none⟩ = some (.int .u32 pl) ∧ V.cell? ⟨B, 3, none⟩ = some (.int .i64 x.1) ∧ V.cell? ⟨B, 4, none⟩ = some (.int .i64 x.2.1) ∧ V.cell? ⟨B, 5, none⟩ = some (.int .i64 x.2.2.1) ∧ V.cell? ⟨B, 6, none⟩ = some (.int .i64 x.2.2.2.1) ∧ V.cell? ⟨B, 7, none⟩ = some (.int .u32 x.2.2.2.2.1) ∧ V.cell? ⟨B, 8, none⟩ = some (.int .i64 x.2.2.2.2.2.1) ∧ V.cell? ⟨B, 9, none⟩ = some (.string (bs x.2.2.2.2.2.2.1)) := by
  unfold StB at h
  refine ⟨?_, ?_, ?_, ?_, ?_, ?_, ?_, ?_, ?_, ?_⟩ <;> simp [World.cell?, h]
theorem StB.free {V : World} {B : Nat} {kd ln pl : Int} {x : It} (h : StB V B kd ln pl x) : ∀ j, V.frozen? ⟨B, j, none⟩ = false := by
  unfold StB at h
  intro j
  simp [World.frozen?, h]
theorem StB.on {V W : World} {B : Nat} {kd ln pl : Int} {x : It} (h : StB V B kd ln pl x) (hb : Below V.heap.size V W) : StB W B kd ln pl x := by
  unfold StB at *
  rw [hb.block B (Array.getElem?_eq_some_iff.1 h).1]; exact h
theorem StB.only {V W : World} {B C : Nat} {kd ln pl : Int} {x : It} (h : StB V B kd ln pl x) (ho : OnlyB C V W) (hne : B ≠ C) : StB W B kd ln pl x := by
  unfold StB at *
  rw [ho.2.2.2.2 B hne]; exact h

/-- A piece taken, or none. -/
def takeL (x : It) (what s : List UInt8) : Option It :=
  if what = kRd then (if 0 ≤ regN s then some (x.1, regN s, x.2.2) else none)
  else if what = kRs1 then (if 0 ≤ regN s then some (x.1, x.2.1, regN s, x.2.2.2) else none)
  else if what = kRs2 then (if 0 ≤ regN s then some (x.1, x.2.1, x.2.2.1, regN s, x.2.2.2.2) else none)
  else if what = kCsr then (numW s).map fun n => (x.1, x.2.1, x.2.2.1, x.2.2.2.1, x.2.2.2.2.1, n, x.2.2.2.2.2.2)
  else if what = kUp then (upW s).map fun n => (x.1, x.2.1, x.2.2.1, x.2.2.2.1, n, x.2.2.2.2.2)
  else if what = kPl then (if nameB s = true then some (x.1, x.2.1, x.2.2.1, x.2.2.2.1, x.2.2.2.2.1, x.2.2.2.2.2.1, s, x.2.2.2.2.2.2.2) else (numW s).map fun n => (x.1, x.2.1, x.2.2.1, x.2.2.2.1, n, x.2.2.2.2.2))
  else if what = kIm then (numW s).map fun n => (x.1, x.2.1, x.2.2.1, x.2.2.2.1, n, x.2.2.2.2.2)
  else if s = what then some x else none

/-- What a call of take comes to. -/
def TookAs (o : Option It) (B : Nat) (kd ln pl : Int) (w : World) (e : Ending) (w' : World) : Prop :=
  ∃ y, e = .returned (.bool o.isSome) ∧ StB w' B kd ln pl y ∧ (∀ z, o = some z → y = z) ∧ OnlyB B w w'
theorem eN_beq (n : Int) : (eN n == 0) = decide (0 ≤ n) := by
  unfold eN
  split
  · rename_i h; simp [h]
  · rename_i h; simp [h]
theorem eO_beq (o : Option Int) : (eO o == 0) = o.isSome := by cases o <;> rfl

set_option maxHeartbeats 1000000 in
theorem take_rd (s : List UInt8) (B : Nat) (kd ln pl : Int) (x : It) (w : World) (hs : s.length ≤ 70000) (h : StB w B kd ln pl x) :
    Calls Tryz.prog 48 #[.pointer (some ⟨B, 0, none⟩), .string (bs kRd), .string (bs s)] w (TookAs (takeL x kRd s) B kd ln pl w) := by
  have HR : Hid (∀ w, Calls Tryz.prog 69 #[.string (bs s)] w fun e w' => e = .returned (.tuple #[.int .i64 (pos (regN s)), .int .i64 (eN (regN s))]) ∧ w' = w) := fun w => areg_any s w hs
  have HE : Hid ((takeL x kRd s) = if 0 ≤ regN s then some (x.1, regN s, x.2.2) else none) := by
    show takeL x kRd s = _
    unfold takeL; rw [if_pos rfl]
  generalize takeL x kRd s = O at *
  have HX : Hid (StB (w.setCell ⟨B, 4, none⟩ (.int .i64 (pos (regN s)))) B kd ln pl (x.1, pos (regN s), x.2.2)) := by
    show StB _ _ _ _ _ _
    unfold StB at *
    rw [row_step h]
    rfl
  have HO : Hid (OnlyB B w (w.setCell ⟨B, 4, none⟩ (.int .i64 (pos (regN s))))) := (OnlyB.refl B w).set 4 _
  have HQ : Hid ((eN (regN s) == 0) = decide (0 ≤ regN s)) := eN_beq _
  have HP : Hid (0 ≤ regN s → pos (regN s) = regN s) := pos_yes
  obtain ⟨c0, c1, c2, c3, c4, c5, c6, c7, c8, c9⟩ := h.cells
  have fr := h.free
  have f3 := fr 3
  have f4 := fr 4
  have f5 := fr 5
  have f6 := fr 6
  have f7 := fr 7
  have f8 := fr 8
  have f9 := fr 9
  clear fr
  clear h hs
  generalize pos (regN s) = P at *
  generalize eN (regN s) = E at *
  generalize regN s = R at *
  have ek : bs kRd = ⟨#[114, 100]⟩ := rfl
  rw [ek]
  go_enter Tryz.func48, Tryz.ntmps48
  go_wp2_with (first | (go_at_call 69; refine (HR.out _).mono ?_; rintro e w' ⟨rfl, hw⟩; have hw := hw.symm; subst hw))
  go_ret
  refine ⟨_, ?_, HX.out, ?_, HO.out⟩
  · refine ret_bool ?_
    rw [HQ.out, HE.out]
    split <;> simp [*]
  · intro z hz
    rw [HE.out] at hz
    split at hz
    · rename_i g
      rw [HP.out g]; exact Option.some.inj hz
    · cases hz

set_option maxHeartbeats 1000000 in
theorem take_rs1 (s : List UInt8) (B : Nat) (kd ln pl : Int) (x : It) (w : World) (hs : s.length ≤ 70000) (h : StB w B kd ln pl x) :
    Calls Tryz.prog 48 #[.pointer (some ⟨B, 0, none⟩), .string (bs kRs1), .string (bs s)] w (TookAs (takeL x kRs1 s) B kd ln pl w) := by
  have HR : Hid (∀ w, Calls Tryz.prog 69 #[.string (bs s)] w fun e w' => e = .returned (.tuple #[.int .i64 (pos (regN s)), .int .i64 (eN (regN s))]) ∧ w' = w) := fun w => areg_any s w hs
  have HE : Hid ((takeL x kRs1 s) = if 0 ≤ regN s then some (x.1, x.2.1, regN s, x.2.2.2) else none) := by
    show takeL x kRs1 s = _
    unfold takeL; rw [if_neg (by decide)]; rw [if_pos rfl]
  generalize takeL x kRs1 s = O at *
  have HX : Hid (StB (w.setCell ⟨B, 5, none⟩ (.int .i64 (pos (regN s)))) B kd ln pl (x.1, x.2.1, pos (regN s), x.2.2.2)) := by
    show StB _ _ _ _ _ _
    unfold StB at *
    rw [row_step h]
    rfl
  have HO : Hid (OnlyB B w (w.setCell ⟨B, 5, none⟩ (.int .i64 (pos (regN s))))) := (OnlyB.refl B w).set 5 _
  have HQ : Hid ((eN (regN s) == 0) = decide (0 ≤ regN s)) := eN_beq _
  have HP : Hid (0 ≤ regN s → pos (regN s) = regN s) := pos_yes
  obtain ⟨c0, c1, c2, c3, c4, c5, c6, c7, c8, c9⟩ := h.cells
  have fr := h.free
  have f3 := fr 3
  have f4 := fr 4
  have f5 := fr 5
  have f6 := fr 6
  have f7 := fr 7
  have f8 := fr 8
  have f9 := fr 9
  clear fr
  clear h hs
  generalize pos (regN s) = P at *
  generalize eN (regN s) = E at *
  generalize regN s = R at *
  have ek : bs kRs1 = ⟨#[114, 115, 49]⟩ := rfl
  rw [ek]
  go_enter Tryz.func48, Tryz.ntmps48
  go_wp2_with (first | (go_at_call 69; refine (HR.out _).mono ?_; rintro e w' ⟨rfl, hw⟩; have hw := hw.symm; subst hw))
  go_ret
  refine ⟨_, ?_, HX.out, ?_, HO.out⟩
  · refine ret_bool ?_
    rw [HQ.out, HE.out]
    split <;> simp [*]
  · intro z hz
    rw [HE.out] at hz
    split at hz
    · rename_i g
      rw [HP.out g]; exact Option.some.inj hz
    · cases hz

set_option maxHeartbeats 1000000 in
theorem take_rs2 (s : List UInt8) (B : Nat) (kd ln pl : Int) (x : It) (w : World) (hs : s.length ≤ 70000) (h : StB w B kd ln pl x) :
    Calls Tryz.prog 48 #[.pointer (some ⟨B, 0, none⟩), .string (bs kRs2), .string (bs s)] w (TookAs (takeL x kRs2 s) B kd ln pl w) := by
  have HR : Hid (∀ w, Calls Tryz.prog 69 #[.string (bs s)] w fun e w' => e = .returned (.tuple #[.int .i64 (pos (regN s)), .int .i64 (eN (regN s))]) ∧ w' = w) := fun w => areg_any s w hs
  have HE : Hid ((takeL x kRs2 s) = if 0 ≤ regN s then some (x.1, x.2.1, x.2.2.1, regN s, x.2.2.2.2) else none) := by
    show takeL x kRs2 s = _
    unfold takeL; rw [if_neg (by decide)]; rw [if_neg (by decide)]; rw [if_pos rfl]
  generalize takeL x kRs2 s = O at *
  have HX : Hid (StB (w.setCell ⟨B, 6, none⟩ (.int .i64 (pos (regN s)))) B kd ln pl (x.1, x.2.1, x.2.2.1, pos (regN s), x.2.2.2.2)) := by
    show StB _ _ _ _ _ _
    unfold StB at *
    rw [row_step h]
    rfl
  have HO : Hid (OnlyB B w (w.setCell ⟨B, 6, none⟩ (.int .i64 (pos (regN s))))) := (OnlyB.refl B w).set 6 _
  have HQ : Hid ((eN (regN s) == 0) = decide (0 ≤ regN s)) := eN_beq _
  have HP : Hid (0 ≤ regN s → pos (regN s) = regN s) := pos_yes
  obtain ⟨c0, c1, c2, c3, c4, c5, c6, c7, c8, c9⟩ := h.cells
  have fr := h.free
  have f3 := fr 3
  have f4 := fr 4
  have f5 := fr 5
  have f6 := fr 6
  have f7 := fr 7
  have f8 := fr 8
  have f9 := fr 9
  clear fr
  clear h hs
  generalize pos (regN s) = P at *
  generalize eN (regN s) = E at *
  generalize regN s = R at *
  have ek : bs kRs2 = ⟨#[114, 115, 50]⟩ := rfl
  rw [ek]
  go_enter Tryz.func48, Tryz.ntmps48
  go_wp2_with (first | (go_at_call 69; refine (HR.out _).mono ?_; rintro e w' ⟨rfl, hw⟩; have hw := hw.symm; subst hw))
  go_ret
  refine ⟨_, ?_, HX.out, ?_, HO.out⟩
  · refine ret_bool ?_
    rw [HQ.out, HE.out]
    split <;> simp [*]
  · intro z hz
    rw [HE.out] at hz
    split at hz
    · rename_i g
      rw [HP.out g]; exact Option.some.inj hz
    · cases hz

set_option maxHeartbeats 1000000 in
theorem take_csr (s : List UInt8) (B : Nat) (kd ln pl : Int) (x : It) (w : World) (hs : s.length ≤ 70000) (h : StB w B kd ln pl x) :
    Calls Tryz.prog 48 #[.pointer (some ⟨B, 0, none⟩), .string (bs kCsr), .string (bs s)] w (TookAs (takeL x kCsr s) B kd ln pl w) := by
  have HR : Hid (∀ w, Calls Tryz.prog 70 #[.string (bs s)] w fun e w' => e = .returned (.tuple #[.int .i64 ((numW s).getD 0), .int .i64 (eO (numW s))]) ∧ w' = w) := fun w => acsr_any s w hs
  have HE : Hid ((takeL x kCsr s) = (numW s).map fun n => (x.1, x.2.1, x.2.2.1, x.2.2.2.1, x.2.2.2.2.1, n, x.2.2.2.2.2.2)) := by
    show takeL x kCsr s = _
    unfold takeL; rw [if_neg (by decide)]; rw [if_neg (by decide)]; rw [if_neg (by decide)]; rw [if_pos rfl]
  generalize takeL x kCsr s = O at *
  have HX : Hid (StB (w.setCell ⟨B, 8, none⟩ (.int .i64 ((numW s).getD 0))) B kd ln pl (x.1, x.2.1, x.2.2.1, x.2.2.2.1, x.2.2.2.2.1, (numW s).getD 0, x.2.2.2.2.2.2)) := by
    show StB _ _ _ _ _ _
    unfold StB at *
    rw [row_step h]
    rfl
  have HO : Hid (OnlyB B w (w.setCell ⟨B, 8, none⟩ (.int .i64 ((numW s).getD 0)))) := (OnlyB.refl B w).set 8 _
  have HQ : Hid ((eO (numW s) == 0) = (numW s).isSome) := eO_beq _
  have HP : Hid (∀ n, numW s = some n → (numW s).getD 0 = n) := fun n e => by rw [e]; rfl
  obtain ⟨c0, c1, c2, c3, c4, c5, c6, c7, c8, c9⟩ := h.cells
  have fr := h.free
  have f3 := fr 3
  have f4 := fr 4
  have f5 := fr 5
  have f6 := fr 6
  have f7 := fr 7
  have f8 := fr 8
  have f9 := fr 9
  clear fr
  clear h hs
  generalize (numW s).getD 0 = P at *
  generalize eO (numW s) = E at *
  generalize numW s = R at *
  have ek : bs kCsr = ⟨#[99, 115, 114]⟩ := rfl
  rw [ek]
  go_enter Tryz.func48, Tryz.ntmps48
  go_wp2_with (first | (go_at_call 70; refine (HR.out _).mono ?_; rintro e w' ⟨rfl, hw⟩; have hw := hw.symm; subst hw))
  go_ret
  refine ⟨_, ?_, HX.out, ?_, HO.out⟩
  · refine ret_bool ?_
    rw [HQ.out, HE.out]
    simp
  · intro z hz
    rw [HE.out] at hz
    cases R with
    | none => cases hz
    | some n =>
      rw [HP.out n rfl]
      exact Option.some.inj hz

set_option maxHeartbeats 1000000 in
theorem take_up (s : List UInt8) (B : Nat) (kd ln pl : Int) (x : It) (w : World) (hs : s.length ≤ 70000) (h : StB w B kd ln pl x) :
    Calls Tryz.prog 48 #[.pointer (some ⟨B, 0, none⟩), .string (bs kUp), .string (bs s)] w (TookAs (takeL x kUp s) B kd ln pl w) := by
  have HR : Hid (∀ w, Calls Tryz.prog 71 #[.string (bs s)] w fun e w' => e = .returned (.tuple #[.int .u32 ((upW s).getD 0), .int .i64 (eO (upW s))]) ∧ w' = w) := fun w => aup_any s w hs
  have HE : Hid ((takeL x kUp s) = (upW s).map fun n => (x.1, x.2.1, x.2.2.1, x.2.2.2.1, n, x.2.2.2.2.2)) := by
    show takeL x kUp s = _
    unfold takeL; rw [if_neg (by decide)]; rw [if_neg (by decide)]; rw [if_neg (by decide)]; rw [if_neg (by decide)]; rw [if_pos rfl]
  generalize takeL x kUp s = O at *
  have HX : Hid (StB (w.setCell ⟨B, 7, none⟩ (.int .u32 ((upW s).getD 0))) B kd ln pl (x.1, x.2.1, x.2.2.1, x.2.2.2.1, (upW s).getD 0, x.2.2.2.2.2)) := by
    show StB _ _ _ _ _ _
    unfold StB at *
    rw [row_step h]
    rfl
  have HO : Hid (OnlyB B w (w.setCell ⟨B, 7, none⟩ (.int .u32 ((upW s).getD 0)))) := (OnlyB.refl B w).set 7 _
  have HQ : Hid ((eO (upW s) == 0) = (upW s).isSome) := eO_beq _
  have HP : Hid (∀ n, upW s = some n → (upW s).getD 0 = n) := fun n e => by rw [e]; rfl
  obtain ⟨c0, c1, c2, c3, c4, c5, c6, c7, c8, c9⟩ := h.cells
  have fr := h.free
  have f3 := fr 3
  have f4 := fr 4
  have f5 := fr 5
  have f6 := fr 6
  have f7 := fr 7
  have f8 := fr 8
  have f9 := fr 9
  clear fr
  clear h hs
  generalize (upW s).getD 0 = P at *
  generalize eO (upW s) = E at *
  generalize upW s = R at *
  have ek : bs kUp = ⟨#[117, 112, 112, 101, 114]⟩ := rfl
  rw [ek]
  go_enter Tryz.func48, Tryz.ntmps48
  go_wp2_with (first | (go_at_call 71; refine (HR.out _).mono ?_; rintro e w' ⟨rfl, hw⟩; have hw := hw.symm; subst hw))
  go_ret
  refine ⟨_, ?_, HX.out, ?_, HO.out⟩
  · refine ret_bool ?_
    rw [HQ.out, HE.out]
    simp
  · intro z hz
    rw [HE.out] at hz
    cases R with
    | none => cases hz
    | some n =>
      rw [HP.out n rfl]
      exact Option.some.inj hz

set_option maxHeartbeats 1000000 in
theorem take_im (s : List UInt8) (B : Nat) (kd ln pl : Int) (x : It) (w : World) (hs : s.length ≤ 70000) (h : StB w B kd ln pl x) :
    Calls Tryz.prog 48 #[.pointer (some ⟨B, 0, none⟩), .string (bs kIm), .string (bs s)] w (TookAs (takeL x kIm s) B kd ln pl w) := by
  have HR : Hid (∀ w, Calls Tryz.prog 73 #[.string (bs s)] w fun e w' => e = .returned (.tuple #[.int .u32 ((numW s).getD 0), .int .i64 (eO (numW s))]) ∧ w' = w) := fun w => num6_any s w hs
  have HE : Hid ((takeL x kIm s) = (numW s).map fun n => (x.1, x.2.1, x.2.2.1, x.2.2.2.1, n, x.2.2.2.2.2)) := by
    show takeL x kIm s = _
    unfold takeL; rw [if_neg (by decide)]; rw [if_neg (by decide)]; rw [if_neg (by decide)]; rw [if_neg (by decide)]; rw [if_neg (by decide)]; rw [if_neg (by decide)]; rw [if_pos rfl]
  generalize takeL x kIm s = O at *
  have HX : Hid (StB (w.setCell ⟨B, 7, none⟩ (.int .u32 ((numW s).getD 0))) B kd ln pl (x.1, x.2.1, x.2.2.1, x.2.2.2.1, (numW s).getD 0, x.2.2.2.2.2)) := by
    show StB _ _ _ _ _ _
    unfold StB at *
    rw [row_step h]
    rfl
  have HO : Hid (OnlyB B w (w.setCell ⟨B, 7, none⟩ (.int .u32 ((numW s).getD 0)))) := (OnlyB.refl B w).set 7 _
  have HQ : Hid ((eO (numW s) == 0) = (numW s).isSome) := eO_beq _
  have HP : Hid (∀ n, numW s = some n → (numW s).getD 0 = n) := fun n e => by rw [e]; rfl
  obtain ⟨c0, c1, c2, c3, c4, c5, c6, c7, c8, c9⟩ := h.cells
  have fr := h.free
  have f3 := fr 3
  have f4 := fr 4
  have f5 := fr 5
  have f6 := fr 6
  have f7 := fr 7
  have f8 := fr 8
  have f9 := fr 9
  clear fr
  clear h hs
  generalize (numW s).getD 0 = P at *
  generalize eO (numW s) = E at *
  generalize numW s = R at *
  have ek : bs kIm = ⟨#[105, 109, 109]⟩ := rfl
  rw [ek]
  go_enter Tryz.func48, Tryz.ntmps48
  go_wp2_with (first | (go_at_call 73; refine (HR.out _).mono ?_; rintro e w' ⟨rfl, hw⟩; have hw := hw.symm; subst hw))
  go_ret
  refine ⟨_, ?_, HX.out, ?_, HO.out⟩
  · refine ret_bool ?_
    rw [HQ.out, HE.out]
    simp
  · intro z hz
    rw [HE.out] at hz
    cases R with
    | none => cases hz
    | some n =>
      rw [HP.out n rfl]
      exact Option.some.inj hz

set_option maxHeartbeats 1000000 in
theorem take_plnum (s : List UInt8) (B : Nat) (kd ln pl : Int) (x : It) (w : World) (hs : s.length ≤ 70000) (hnm : nameB s = false) (h : StB w B kd ln pl x) :
    Calls Tryz.prog 48 #[.pointer (some ⟨B, 0, none⟩), .string (bs kPl), .string (bs s)] w (TookAs (takeL x kPl s) B kd ln pl w) := by
  have HR : Hid (∀ w, Calls Tryz.prog 73 #[.string (bs s)] w fun e w' => e = .returned (.tuple #[.int .u32 ((numW s).getD 0), .int .i64 (eO (numW s))]) ∧ w' = w) := fun w => num6_any s w hs
  have HNM : Hid (∀ w, Calls Tryz.prog 72 #[.string (bs s)] w fun e w' => e = .returned (.bool false) ∧ w' = w) := fun w => by
    have g := isName_any s w hs
    rw [hnm] at g; exact g
  have HE : Hid ((takeL x kPl s) = (numW s).map fun n => (x.1, x.2.1, x.2.2.1, x.2.2.2.1, n, x.2.2.2.2.2)) := by
    show takeL x kPl s = _
    unfold takeL; rw [if_neg (by decide)]; rw [if_neg (by decide)]; rw [if_neg (by decide)]; rw [if_neg (by decide)]; rw [if_neg (by decide)]; rw [if_pos rfl]
    rw [if_neg (by rw [hnm]; decide)]
  generalize takeL x kPl s = O at *
  have HX : Hid (StB (w.setCell ⟨B, 7, none⟩ (.int .u32 ((numW s).getD 0))) B kd ln pl (x.1, x.2.1, x.2.2.1, x.2.2.2.1, (numW s).getD 0, x.2.2.2.2.2)) := by
    show StB _ _ _ _ _ _
    unfold StB at *
    rw [row_step h]
    rfl
  have HO : Hid (OnlyB B w (w.setCell ⟨B, 7, none⟩ (.int .u32 ((numW s).getD 0)))) := (OnlyB.refl B w).set 7 _
  have HQ : Hid ((eO (numW s) == 0) = (numW s).isSome) := eO_beq _
  have HP : Hid (∀ n, numW s = some n → (numW s).getD 0 = n) := fun n e => by rw [e]; rfl
  obtain ⟨c0, c1, c2, c3, c4, c5, c6, c7, c8, c9⟩ := h.cells
  have fr := h.free
  have f3 := fr 3
  have f4 := fr 4
  have f5 := fr 5
  have f6 := fr 6
  have f7 := fr 7
  have f8 := fr 8
  have f9 := fr 9
  clear fr
  clear h hs
  generalize (numW s).getD 0 = P at *
  generalize eO (numW s) = E at *
  generalize numW s = R at *
  have ek : bs kPl = ⟨#[112, 108, 97, 99, 101]⟩ := rfl
  rw [ek]
  go_enter Tryz.func48, Tryz.ntmps48
  go_wp2_with (first | (go_at_call 73; refine (HR.out _).mono ?_; rintro e w' ⟨rfl, hw⟩; have hw := hw.symm; subst hw) | (go_at_call 72; refine (HNM.out _).mono ?_; rintro e w' ⟨rfl, hw⟩; have hw := hw.symm; subst hw))
  go_ret
  refine ⟨_, ?_, HX.out, ?_, HO.out⟩
  · refine ret_bool ?_
    rw [HQ.out, HE.out]
    simp
  · intro z hz
    rw [HE.out] at hz
    cases R with
    | none => cases hz
    | some n =>
      rw [HP.out n rfl]
      exact Option.some.inj hz

set_option maxHeartbeats 1000000 in
theorem take_plname (s : List UInt8) (B : Nat) (kd ln pl : Int) (x : It) (w : World) (hs : s.length ≤ 70000) (hnm : nameB s = true) (h : StB w B kd ln pl x) :
    Calls Tryz.prog 48 #[.pointer (some ⟨B, 0, none⟩), .string (bs kPl), .string (bs s)] w (TookAs (takeL x kPl s) B kd ln pl w) := by
  have HNM : Hid (∀ w, Calls Tryz.prog 72 #[.string (bs s)] w fun e w' => e = .returned (.bool true) ∧ w' = w) := fun w => by
    have g := isName_any s w hs
    rw [hnm] at g; exact g
  have HE : Hid ((takeL x kPl s) = some (x.1, x.2.1, x.2.2.1, x.2.2.2.1, x.2.2.2.2.1, x.2.2.2.2.2.1, s, x.2.2.2.2.2.2.2)) := by
    show takeL x kPl s = _
    unfold takeL; rw [if_neg (by decide)]; rw [if_neg (by decide)]; rw [if_neg (by decide)]; rw [if_neg (by decide)]; rw [if_neg (by decide)]; rw [if_pos rfl]
    rw [if_pos hnm]
  generalize takeL x kPl s = O at *
  have HX : Hid (StB (w.setCell ⟨B, 9, none⟩ (.string (bs s))) B kd ln pl (x.1, x.2.1, x.2.2.1, x.2.2.2.1, x.2.2.2.2.1, x.2.2.2.2.2.1, s, x.2.2.2.2.2.2.2)) := by
    show StB _ _ _ _ _ _
    unfold StB at *
    rw [row_step h]
    rfl
  have HO : Hid (OnlyB B w (w.setCell ⟨B, 9, none⟩ (.string (bs s)))) := (OnlyB.refl B w).set 9 _
  obtain ⟨c0, c1, c2, c3, c4, c5, c6, c7, c8, c9⟩ := h.cells
  have fr := h.free
  have f3 := fr 3
  have f4 := fr 4
  have f5 := fr 5
  have f6 := fr 6
  have f7 := fr 7
  have f8 := fr 8
  have f9 := fr 9
  clear fr
  clear h hs
  have ek : bs kPl = ⟨#[112, 108, 97, 99, 101]⟩ := rfl
  rw [ek]
  go_enter Tryz.func48, Tryz.ntmps48
  go_wp2_with (first | (go_at_call 72; refine (HNM.out _).mono ?_; rintro e w' ⟨rfl, hw⟩; have hw := hw.symm; subst hw))
  go_ret
  refine ⟨_, ?_, HX.out, ?_, HO.out⟩
  · refine ret_bool ?_
    rw [HE.out]
    rfl
  · intro z hz
    rw [HE.out] at hz
    exact Option.some.inj hz

set_option maxHeartbeats 1000000 in
theorem take_comma (s : List UInt8) (B : Nat) (kd ln pl : Int) (x : It) (w : World) (hs : s.length ≤ 70000) (h : StB w B kd ln pl x) :
    Calls Tryz.prog 48 #[.pointer (some ⟨B, 0, none⟩), .string (bs [44]), .string (bs s)] w (TookAs (takeL x [44] s) B kd ln pl w) := by
  have HE : Hid ((takeL x [44] s) = if s = [44] then some x else none) := by
    show takeL x [44] s = _
    unfold takeL
    rw [if_neg (by decide)]; rw [if_neg (by decide)]; rw [if_neg (by decide)]; rw [if_neg (by decide)]; rw [if_neg (by decide)]; rw [if_neg (by decide)]; rw [if_neg (by decide)]
  have HX : Hid (StB w B kd ln pl x) := h
  obtain ⟨c0, c1, c2, c3, c4, c5, c6, c7, c8, c9⟩ := h.cells
  have fr := h.free
  have f3 := fr 3
  have f4 := fr 4
  have f5 := fr 5
  have f6 := fr 6
  have f7 := fr 7
  have f8 := fr 8
  have f9 := fr 9
  clear fr
  clear h hs
  by_cases g : s = [44]
  · subst g
    have HE2 : Hid (takeL x [44] [44] = some x) := by show takeL x [44] [44] = some x; rw [HE.out, if_pos rfl]
    generalize takeL x [44] [44] = O at *
    clear HE
    have e : bs [44] = ⟨#[44]⟩ := rfl
    rw [e]
    go_enter Tryz.func48, Tryz.ntmps48
    go_wp2
    go_ret
    rw [HE2.out]
    exact ⟨_, rfl, HX.out, (fun z hz => Option.some.inj hz), OnlyB.refl _ _⟩
  · generalize takeL x [44] s = O at *
    have hne : ((bs s).toList == [44]) = false := by
      rw [beq_eq_false_iff_ne, ByteArray.toList_eq]
      simpa [bs] using g
    have HG : Hid (s ≠ [44]) := g
    clear g
    have e : bs [44] = ⟨#[44]⟩ := rfl
    rw [e]
    go_enter Tryz.func48, Tryz.ntmps48
    go_wp2
    go_ret
    rw [HE.out, if_neg HG.out]
    exact ⟨_, rfl, HX.out, (fun z hz => nomatch hz), OnlyB.refl _ _⟩

set_option maxHeartbeats 1000000 in
theorem take_open (s : List UInt8) (B : Nat) (kd ln pl : Int) (x : It) (w : World) (hs : s.length ≤ 70000) (h : StB w B kd ln pl x) :
    Calls Tryz.prog 48 #[.pointer (some ⟨B, 0, none⟩), .string (bs [40]), .string (bs s)] w (TookAs (takeL x [40] s) B kd ln pl w) := by
  have HE : Hid ((takeL x [40] s) = if s = [40] then some x else none) := by
    show takeL x [40] s = _
    unfold takeL
    rw [if_neg (by decide)]; rw [if_neg (by decide)]; rw [if_neg (by decide)]; rw [if_neg (by decide)]; rw [if_neg (by decide)]; rw [if_neg (by decide)]; rw [if_neg (by decide)]
  have HX : Hid (StB w B kd ln pl x) := h
  obtain ⟨c0, c1, c2, c3, c4, c5, c6, c7, c8, c9⟩ := h.cells
  have fr := h.free
  have f3 := fr 3
  have f4 := fr 4
  have f5 := fr 5
  have f6 := fr 6
  have f7 := fr 7
  have f8 := fr 8
  have f9 := fr 9
  clear fr
  clear h hs
  by_cases g : s = [40]
  · subst g
    have HE2 : Hid (takeL x [40] [40] = some x) := by show takeL x [40] [40] = some x; rw [HE.out, if_pos rfl]
    generalize takeL x [40] [40] = O at *
    clear HE
    have e : bs [40] = ⟨#[40]⟩ := rfl
    rw [e]
    go_enter Tryz.func48, Tryz.ntmps48
    go_wp2
    go_ret
    rw [HE2.out]
    exact ⟨_, rfl, HX.out, (fun z hz => Option.some.inj hz), OnlyB.refl _ _⟩
  · generalize takeL x [40] s = O at *
    have hne : ((bs s).toList == [40]) = false := by
      rw [beq_eq_false_iff_ne, ByteArray.toList_eq]
      simpa [bs] using g
    have HG : Hid (s ≠ [40]) := g
    clear g
    have e : bs [40] = ⟨#[40]⟩ := rfl
    rw [e]
    go_enter Tryz.func48, Tryz.ntmps48
    go_wp2
    go_ret
    rw [HE.out, if_neg HG.out]
    exact ⟨_, rfl, HX.out, (fun z hz => nomatch hz), OnlyB.refl _ _⟩

set_option maxHeartbeats 1000000 in
theorem take_close (s : List UInt8) (B : Nat) (kd ln pl : Int) (x : It) (w : World) (hs : s.length ≤ 70000) (h : StB w B kd ln pl x) :
    Calls Tryz.prog 48 #[.pointer (some ⟨B, 0, none⟩), .string (bs [41]), .string (bs s)] w (TookAs (takeL x [41] s) B kd ln pl w) := by
  have HE : Hid ((takeL x [41] s) = if s = [41] then some x else none) := by
    show takeL x [41] s = _
    unfold takeL
    rw [if_neg (by decide)]; rw [if_neg (by decide)]; rw [if_neg (by decide)]; rw [if_neg (by decide)]; rw [if_neg (by decide)]; rw [if_neg (by decide)]; rw [if_neg (by decide)]
  have HX : Hid (StB w B kd ln pl x) := h
  obtain ⟨c0, c1, c2, c3, c4, c5, c6, c7, c8, c9⟩ := h.cells
  have fr := h.free
  have f3 := fr 3
  have f4 := fr 4
  have f5 := fr 5
  have f6 := fr 6
  have f7 := fr 7
  have f8 := fr 8
  have f9 := fr 9
  clear fr
  clear h hs
  by_cases g : s = [41]
  · subst g
    have HE2 : Hid (takeL x [41] [41] = some x) := by show takeL x [41] [41] = some x; rw [HE.out, if_pos rfl]
    generalize takeL x [41] [41] = O at *
    clear HE
    have e : bs [41] = ⟨#[41]⟩ := rfl
    rw [e]
    go_enter Tryz.func48, Tryz.ntmps48
    go_wp2
    go_ret
    rw [HE2.out]
    exact ⟨_, rfl, HX.out, (fun z hz => Option.some.inj hz), OnlyB.refl _ _⟩
  · generalize takeL x [41] s = O at *
    have hne : ((bs s).toList == [41]) = false := by
      rw [beq_eq_false_iff_ne, ByteArray.toList_eq]
      simpa [bs] using g
    have HG : Hid (s ≠ [41]) := g
    clear g
    have e : bs [41] = ⟨#[41]⟩ := rfl
    rw [e]
    go_enter Tryz.func48, Tryz.ntmps48
    go_wp2
    go_ret
    rw [HE.out, if_neg HG.out]
    exact ⟨_, rfl, HX.out, (fun z hz => nomatch hz), OnlyB.refl _ _⟩

/-- What may be asked for. -/
def askL : List (List UInt8) := [kRd, kRs1, kRs2, kCsr, kUp, kPl, kIm, [44], [40], [41] ]
theorem gshape_ask : ∀ k, k < 58 → (gshape k).all (fun a => askL.contains a) = true := by decide +kernel
theorem take_any (what s : List UInt8) (B : Nat) (kd ln pl : Int) (x : It) (w : World) (hw : what ∈ askL) (hs : s.length ≤ 70000) (h : StB w B kd ln pl x) :
    Calls Tryz.prog 48 #[.pointer (some ⟨B, 0, none⟩), .string (bs what), .string (bs s)] w (TookAs (takeL x what s) B kd ln pl w) := by
  simp only [askL, List.mem_cons, List.not_mem_nil, or_false] at hw
  rcases hw with rfl | rfl | rfl | rfl | rfl | rfl | rfl | rfl | rfl | rfl
  · exact take_rd s B kd ln pl x w hs h
  · exact take_rs1 s B kd ln pl x w hs h
  · exact take_rs2 s B kd ln pl x w hs h
  · exact take_csr s B kd ln pl x w hs h
  · exact take_up s B kd ln pl x w hs h
  · cases hn : nameB s
    · exact take_plnum s B kd ln pl x w hs hn h
    · exact take_plname s B kd ln pl x w hs hn h
  · exact take_im s B kd ln pl x w hs h
  · exact take_comma s B kd ln pl x w hs h
  · exact take_open s B kd ln pl x w hs h
  · exact take_close s B kd ln pl x w hs h
end Go.Proofs.YtmkmbocnipmngaaGreatDoor

/- Layer 6, the program's own instruction. -/
namespace Go.Proofs.YtmkmbocnipmngaaGreatDoor
open Go.RowKit
set_option linter.unusedVariables false
set_option linter.unusedSimpArgs false

theorem gopN_name : ∀ k, k < 58 → opN (nameL.getD k []) = k := by decide +kernel
theorem opTo_zero (p : List UInt8) : ∀ k, (∀ j, j < k → nameL.getD j [] ≠ p) → opTo p k = 0
  | 0, _ => rfl
  | k + 1, h => by
    rw [opTo, if_neg (h k (by omega))]
    exact opTo_zero p k fun j hj => h j (by omega)
theorem gnameS_bs (k : Nat) : nameS k = bs (nameL.getD k []) := rfl
theorem op6_any (p : List UInt8) (w : World) (ht : NameTab w) :
    Calls Tryz.prog 45 #[.string (bs p)] w fun e w' => e = .returned (.tuple #[.int .i64 (opN p), .int .i64 (if nameL.getD (opN p) [] = p then 0 else 8)]) ∧ w' = w := by
  by_cases h : nameL.getD (opN p) [] = p
  · rw [if_pos h]
    refine op_yes (opN p) (opN_lt p) (bs p) (by rw [gnameS_bs, h]) (fun j hj => ?_) w ht
    rw [gnameS_bs]
    refine bs_neq fun e => ?_
    have := gopN_name j (by have := opN_lt p; omega)
    rw [e] at this
    omega
  · rw [if_neg h]
    have hno : ∀ j, j < 58 → nameL.getD j [] ≠ p := fun j hj e => by
      have := gopN_name j hj
      rw [e] at this
      rw [this] at h
      exact h e
    have h0 : opN p = 0 := opTo_zero p 58 hno
    rw [h0]
    refine op_no (bs p) (fun j hj => ?_) w ht
    rw [gnameS_bs]
    exact bs_neq (hno j hj)

/-- All pieces taken, or none. -/
def takesL : It → List (List UInt8) → List (List UInt8) → Option It
  | x, w :: ws, p :: ps => (takeL x w p).bind fun y => takesL y ws ps
  | x, _, _ => some x
theorem takesL_nil (x : It) (ps : List (List UInt8)) : takesL x [] ps = some x := by cases ps <;> rfl
theorem takes_step (x : It) (ws ps : List (List UInt8)) (k : Nat) (h : k < ws.length) (h2 : k + 1 < ps.length) : takesL x (ws.drop k) (ps.drop (k + 1)) = (takeL x (ws.getD k []) (ps.getD (k + 1) [])).bind fun y => takesL y (ws.drop (k + 1)) (ps.drop (k + 2)) := by
  have e1 : ws.drop k = ws.getD k [] :: ws.drop (k + 1) := by
    rw [List.drop_eq_getElem_cons h]; simp [List.getD, h]
  have e2 : ps.drop (k + 1) = ps.getD (k + 1) [] :: ps.drop (k + 2) := by
    rw [List.drop_eq_getElem_cons h2]; simp [List.getD, h2]
  rw [e1, e2, takesL]
/-- What a name and the pieces behind it are; ill: whether the name of no text would be read, too (it is not: false everywhere). -/
def insG (ill : Bool) (ps : List (List UInt8)) : Option It :=
  if ps = [] then none
  else if nameL.getD (opN (ps.getD 0 [])) [] ≠ ps.getD 0 [] ∨ (ill = false ∧ opN (ps.getD 0 []) = 0) then none
  else if ps.length ≠ (gshape (opN (ps.getD 0 []))).length + 1 then none
  else takesL (itOp (opN (ps.getD 0 []))) (gshape (opN (ps.getD 0 []))) (ps.drop 1)

def stV (kd ln pl : Int) (x : It) : Value := .agg #[.int .i64 kd, .int .i64 ln, .int .u32 pl, .int .i64 x.1, .int .i64 x.2.1, .int .i64 x.2.2.1, .int .i64 x.2.2.2.1, .int .u32 x.2.2.2.2.1, .int .i64 x.2.2.2.2.2.1, .string (bs x.2.2.2.2.2.2.1)]
def InsAs (o : Option It) (e : Ending) : Prop := (∃ x, o = some x ∧ e = .returned (.tuple #[stV 2 0 0 x, .int .i64 0])) ∨ (o = none ∧ e = .returned (.tuple #[stV 0 0 0 it0, .int .i64 1]))
theorem stB_new (w : World) (kd ln pl op : Int) : StB (w.alloc (.cells #[.int .i64 kd, .int .i64 ln, .int .u32 pl, .int .i64 op, .int .i64 0, .int .i64 0, .int .i64 0, .int .u32 0, .int .i64 0, .string ⟨#[]⟩] 45)) w.heap.size kd ln pl (op, 0, 0, 0, 0, 0, [], 0, false) := heap_alloc_new w _
theorem StB.put {V : World} {B : Nat} {kd ln pl : Int} {x : It} (h : StB V B kd ln pl x) (a b c d e f g i j : Int) (k : List UInt8) :
    ∃ V', ((((((((((V.setCell ⟨B, 0, none⟩ (.int .i64 a)).setCell ⟨B, 1, none⟩ (.int .i64 b)).setCell ⟨B, 2, none⟩ (.int .u32 c)).setCell ⟨B, 3, none⟩ (.int .i64 d)).setCell ⟨B, 4, none⟩ (.int .i64 e)).setCell ⟨B, 5, none⟩ (.int .i64 f)).setCell ⟨B, 6, none⟩ (.int .i64 g)).setCell ⟨B, 7, none⟩ (.int .u32 i)).setCell ⟨B, 8, none⟩ (.int .i64 j)).setCell ⟨B, 9, none⟩ (.string (bs k))) = V' ∧ StB V' B a b c (d, e, f, g, i, j, k, 0, false) ∧ OnlyB B V V' := by
  unfold StB at h
  refine ⟨_, rfl, ?_, ((((((((((OnlyB.refl B V).set 0 _).set 1 _).set 2 _).set 3 _).set 4 _).set 5 _).set 6 _).set 7 _).set 8 _).set 9 _⟩
  have r0 := row_step (i := 0) h (.int .i64 a)
  have r1 := row_step (i := 1) r0 (.int .i64 b)
  have r2 := row_step (i := 2) r1 (.int .u32 c)
  have r3 := row_step (i := 3) r2 (.int .i64 d)
  have r4 := row_step (i := 4) r3 (.int .i64 e)
  have r5 := row_step (i := 5) r4 (.int .i64 f)
  have r6 := row_step (i := 6) r5 (.int .i64 g)
  have r7 := row_step (i := 7) r6 (.int .u32 i)
  have r8 := row_step (i := 8) r7 (.int .i64 j)
  have r9 := row_step (i := 9) r8 (.string (bs k))
  unfold StB
  rw [r9]
  simp only [List.setIfInBounds_toArray, List.set_cons_zero, List.set_cons_succ]
theorem OnlyB.trans {B : Nat} {a b c : World} (h : OnlyB B a b) (g : OnlyB B b c) : OnlyB B a c :=
  ⟨g.1.trans h.1, g.2.1.trans h.2.1, g.2.2.1.trans h.2.2.1, g.2.2.2.1.trans h.2.2.2.1, fun k hk => (g.2.2.2.2 k hk).trans (h.2.2.2.2 k hk)⟩
theorem OnlyB.drewN {B : Nat} {a b : World} (h : OnlyB B a b) (n : Nat) : OnlyB B a (b.drewN n) := h.trans ⟨rfl, rfl, rfl, rfl, fun _ _ => rfl⟩
theorem OnlyB.drew {B : Nat} {a b : World} (h : OnlyB B a b) : OnlyB B a b.drew := h.trans ⟨rfl, rfl, rfl, rfl, fun _ _ => rfl⟩
theorem IsStrs.only {W w1 : World} {B : Nat} {v : Value} {ls : List (List UInt8)} (h : IsStrs W v ls) (hb : OnlyB B W w1) (hne : ∀ g o n c, v = .slice (some ⟨g, o, none⟩) n c → g ≠ B) : IsStrs w1 v ls := by
  obtain ⟨a, c, hv, h⟩ := h
  refine ⟨a, c, hv, ?_⟩
  rcases h with h | ⟨g, o, ha, hc⟩
  · exact .inl h
  · refine .inr ⟨g, o, ha, fun i hi => onlyB_cell hb (hne g o ls.length c (by rw [hv, ha])) (hc i hi)⟩

set_option maxRecDepth 100000 in
set_option maxHeartbeats 1000000 in
theorem ins_nil (v : Value) (w : World) (h : IsStrs w v []) :
    Calls Tryz.prog 16 #[v] w fun e w' => e = .returned (.tuple #[stV 0 0 0 it0, .int .i64 1]) ∧ Below w.heap.size w w' := by
  obtain ⟨a, c, rfl, _⟩ := h
  simp only [List.length_nil]
  go_enter Tryz.func16, Tryz.ntmps16
  go_wp2
  go_step3
  go_wp2
  try rw [Exit.noGoto_ret]
  refine bodyPost_ret (v := .tuple #[stV 0 0 0 it0, .int .i64 1]) (by simp [results, Tryz.results16, go_sem, stV, it0]; rfl) rfl ⟨rfl, ?_⟩
  exact (Below.refl _ _).alloc (Nat.le_refl _) _

theorem formTab_alloc {w : World} (h : FormTab w) (o : Obj) : FormTab (w.alloc o) := h.below ((Below.refl _ _).alloc (Nat.le_refl _) _)
theorem nameTab_alloc {w : World} (h : NameTab w) (o : Obj) : NameTab (w.alloc o) := h.below ((Below.refl _ _).alloc (Nat.le_refl _) _)
theorem spTab_alloc {w : World} (h : SpTab w) (o : Obj) : SpTab (w.alloc o) := spTab_below h ((Below.refl _ _).alloc (Nat.le_refl _) _)

set_option maxRecDepth 100000 in
set_option maxHeartbeats 1000000 in
/-- No such name. -/
theorem ins_no (ps : List (List UInt8)) (v : Value) (w : World) (h : IsStrs w v ps) (h0 : 0 < ps.length) (hN : NameTab w) (hno : nameL.getD (opN (ps.getD 0 [])) [] ≠ ps.getD 0 []) :
    Calls Tryz.prog 16 #[v] w fun e w' => e = .returned (.tuple #[stV 0 0 0 it0, .int .i64 1]) ∧ Below w.heap.size w w' := by
  obtain ⟨g, o, c, rfl, hg, hc⟩ := h.all h0
  have c0 := hc 0 h0
  rw [Nat.add_zero] at c0
  have hg' : g ≠ w.heap.size := by omega
  have hz : ((ps.length : Int) == 0) = false := by rw [beq_eq_false_iff_ne]; omega
  have HO : Hid (∀ o, Calls Tryz.prog 45 #[.string (bs (ps.getD 0 []))] (w.alloc o) fun e w' => e = .returned (.tuple #[.int .i64 (opN (ps.getD 0 [])), .int .i64 8]) ∧ w' = w.alloc o) := fun o => by
    have q := op6_any (ps.getD 0 []) (w.alloc o) (nameTab_alloc hN o)
    rw [if_neg hno] at q; exact q
  clear h hc hN hno
  generalize opN (ps.getD 0 []) = K at *
  generalize ps.getD 0 [] = p0 at *
  go_enter Tryz.func16, Tryz.ntmps16
  go_wp2
  go_step3
  go_wp2_with (first | (go_at_call 45; refine (HO.out _).mono ?_; rintro e w' ⟨rfl, hw⟩; have hw := hw.symm; subst hw))
  try rw [Exit.noGoto_ret]
  refine bodyPost_ret (v := .tuple #[stV 0 0 0 it0, .int .i64 1]) (by simp [results, Tryz.results16, go_sem, stV, it0]; rfl) rfl ⟨rfl, ?_⟩
  exact (Below.refl _ _).alloc (Nat.le_refl _) _

set_option maxRecDepth 100000 in
set_option maxHeartbeats 1000000 in
/-- The name of no text. -/
theorem ins_zero (ps : List (List UInt8)) (v : Value) (w : World) (h : IsStrs w v ps) (h0 : 0 < ps.length) (hN : NameTab w) (hyes : nameL.getD (opN (ps.getD 0 [])) [] = ps.getD 0 []) (hk0 : opN (ps.getD 0 []) = 0) :
    Calls Tryz.prog 16 #[v] w fun e w' => e = .returned (.tuple #[stV 0 0 0 it0, .int .i64 1]) ∧ Below w.heap.size w w' := by
  obtain ⟨g, o, c, rfl, hg, hc⟩ := h.all h0
  have c0 := hc 0 h0
  rw [Nat.add_zero] at c0
  have hg' : g ≠ w.heap.size := by omega
  have hz : ((ps.length : Int) == 0) = false := by rw [beq_eq_false_iff_ne]; omega
  have HO : Hid (∀ o, Calls Tryz.prog 45 #[.string (bs (ps.getD 0 []))] (w.alloc o) fun e w' => e = .returned (.tuple #[.int .i64 0, .int .i64 0]) ∧ w' = w.alloc o) := fun o => by
    have q := op6_any (ps.getD 0 []) (w.alloc o) (nameTab_alloc hN o)
    rw [if_pos hyes, hk0] at q; exact q
  clear h hc hN hyes hk0
  generalize ps.getD 0 [] = p0 at *
  go_enter Tryz.func16, Tryz.ntmps16
  go_wp2
  go_step3
  go_wp2_with (first | (go_at_call 45; refine (HO.out _).mono ?_; rintro e w' ⟨rfl, hw⟩; have hw := hw.symm; subst hw))
  try rw [Exit.noGoto_ret]
  refine bodyPost_ret (v := .tuple #[stV 0 0 0 it0, .int .i64 1]) (by simp [results, Tryz.results16, go_sem, stV, it0]; rfl) rfl ⟨rfl, ?_⟩
  exact (Below.refl _ _).alloc (Nat.le_refl _) _

/-- Blocks under a number are as they were, and one more may have turned. -/
theorem below_only {N B : Nat} {a b c : World} (h : Below N a b) (g : OnlyB B b c) (hN : N ≤ B) : Below N a c := h.trans (g.below hN)

set_option maxRecDepth 100000 in
set_option maxHeartbeats 8000000 in
theorem ins_yes (ps : List (List UInt8)) (v : Value) (w : World) (hn : ps.length ≤ 200000) (hl : ∀ p ∈ ps, p.length ≤ 70000) (h : IsStrs w v ps) (hcap : ∀ a n c, v = .slice a n c → n ≤ c) (h0 : 0 < ps.length) (hF : FormTab w) (hN : NameTab w) (hS : SpTab w) (hyes : nameL.getD (opN (ps.getD 0 [])) [] = ps.getD 0 []) (hk0 : opN (ps.getD 0 []) ≠ 0) :
    Calls Tryz.prog 16 #[v] w fun e w' => InsAs (if ps.length ≠ (gshape (opN (ps.getD 0 []))).length + 1 then none else takesL (itOp (opN (ps.getD 0 []))) (gshape (opN (ps.getD 0 []))) (ps.drop 1)) e ∧ Below w.heap.size w w' := by
  obtain ⟨g, o, c, rfl, hg, hc⟩ := h.all h0
  have c0 := hc 0 h0
  rw [Nat.add_zero] at c0
  have hcc : ps.length ≤ c := hcap _ _ _ rfl
  obtain ⟨o', hif, HC⟩ : ∃ o', (if c = 1 then some (⟨g, o, none⟩ : Addr) else some ⟨g, o + 1, none⟩) = some ⟨g, o', none⟩ ∧ Hid (∀ i, i + 1 < ps.length → w.cell? ⟨g, o' + i, none⟩ = some (.string (bs (ps.getD (i + 1) [])))) := by
    by_cases c1 : c = 1
    · exact ⟨o, if_pos c1, fun i hi => by omega⟩
    · exact ⟨o + 1, if_neg c1, fun i hi => by have := hc (i + 1) hi; rw [show o + 1 + i = o + (i + 1) from by omega]; exact this⟩
  have HL := Lib.hid hl
  have hg' : g ≠ w.heap.size := by omega
  have hz : ((ps.length : Int) == 0) = false := by rw [beq_eq_false_iff_ne]; omega
  have HO : Hid (∀ o, Calls Tryz.prog 45 #[.string (bs (ps.getD 0 []))] (w.alloc o) fun e w' => e = .returned (.tuple #[.int .i64 (opN (ps.getD 0 [])), .int .i64 0]) ∧ w' = w.alloc o) := fun o => by
    have q := op6_any (ps.getD 0 []) (w.alloc o) (nameTab_alloc hN o)
    rw [if_pos hyes] at q; exact q
  have HK : Hid (opN (ps.getD 0 []) < 58) := opN_lt _
  have hkz : ((opN (ps.getD 0 []) : Int) == 0) = false := by rw [beq_eq_false_iff_ne]; omega
  have HF := Lib.hid hF
  have HS := Lib.hid hS
  clear h hc hN hyes hF hS hl hcap hk0
  generalize opN (ps.getD 0 []) = K at *
  generalize ps.getD 0 [] = p0 at *
  go_enter Tryz.func16, Tryz.ntmps16
  go_wp2
  go_step3
  go_wp2_with (first | (go_at_call 45; refine (HO.out _).mono ?_; rintro e w' ⟨rfl, hw⟩; have hw := hw.symm; subst hw))
  have hsl : (gshape K).length ≤ 6 := gshape_len K HK.out
  obtain ⟨W1, hW1⟩ : ∃ W1, (w.alloc (.cells #[.int .i64 0, .int .i64 0, .int .u32 0, .int .i64 0, .int .i64 0, .int .i64 0, .int .i64 0, .int .u32 0, .int .i64 0, .string ⟨#[]⟩] 45)).alloc (.cells #[.int .i64 2, .int .i64 0, .int .u32 0, .int .i64 K, .int .i64 0, .int .i64 0, .int .i64 0, .int .u32 0, .int .i64 0, .string ⟨#[]⟩] 45) = W1 := ⟨_, rfl⟩
  have HB1 : Hid (Below w.heap.size w W1) := by
    show Below _ _ _
    rw [← hW1]
    exact ((Below.refl _ _).alloc (Nat.le_refl _) _).alloc (by simp) _
  have HR1 : Hid (StB W1 w.heap.size 0 0 0 it0) := by
    show StB _ _ _ _ _ _
    rw [← hW1]
    exact StB.on (stB_new w 0 0 0 0) ((Below.refl _ _).alloc (Nat.le_refl _) _)
  have HS1 : Hid (StB W1 (w.heap.size + 1) 2 0 0 (itOp K)) := by
    show StB _ _ _ _ _ _
    rw [← hW1]
    have q := stB_new (w.alloc (.cells #[.int .i64 0, .int .i64 0, .int .u32 0, .int .i64 0, .int .i64 0, .int .i64 0, .int .i64 0, .int .u32 0, .int .i64 0, .string ⟨#[]⟩] 45)) 2 0 0 K
    have e : (w.alloc (.cells #[.int .i64 0, .int .i64 0, .int .u32 0, .int .i64 0, .int .i64 0, .int .i64 0, .int .i64 0, .int .u32 0, .int .i64 0, .string ⟨#[]⟩] 45)).heap.size = w.heap.size + 1 := by simp
    rw [e] at q
    exact q
  have HZ1 : Hid (W1.heap.size = w.heap.size + 2) := by
    show W1.heap.size = _
    rw [← hW1]; simp
  rw [hW1]
  clear hW1
  have HFL : Hid (∀ V, Below W1.heap.size W1 V → Calls Tryz.prog 47 #[.int .i64 K] V fun e w' => e = .returned (.string (bs (layS K))) ∧ w' = V) := fun V hV => layout_any K V HK.out ((HF.out.below HB1.out).below hV)
  have HFI : Hid (∀ V, Below W1.heap.size W1 V → Calls Tryz.prog 46 #[.string (bs (layS K))] V fun e w' => ∃ v, e = .returned v ∧ IsStrs w' v (gshape K) ∧ (∀ g o n c, v = .slice (some ⟨g, o, none⟩) n c → V.heap.size ≤ g) ∧ Below V.heap.size V w') := fun V hV => fields_any K V HK.out (spTab_below (spTab_below HS.out HB1.out) hV)
  have cc0 : W1.cell? ⟨g, o, none⟩ = some (.string (bs p0)) := by
    rw [HB1.out.cell (p := ⟨g, o, none⟩) hg]; exact c0
  clear c0 HO hz
  have hnn : (1 : Int) ≤ (ps.length : Int) := by omega
  have HFLd : Hid (Calls Tryz.prog 47 #[.int .i64 K] W1.drew fun e w' => e = .returned (.string (bs (layS K))) ∧ w' = W1.drew) := HFL.out _ ((Below.refl _ W1).drew)
  have HFId : Hid (Calls Tryz.prog 46 #[.string (bs (layS K))] W1.drew fun e w' => ∃ v, e = .returned v ∧ IsStrs w' v (gshape K) ∧ (∀ g o n c, v = .slice (some ⟨g, o, none⟩) n c → W1.heap.size ≤ g) ∧ Below W1.heap.size W1.drew w') := HFI.out _ ((Below.refl _ W1).drew)
  clear HFL HFI
  go_region_held3 (fun w' => w'.cell? ⟨g, o, none⟩ = some (.string (bs p0))) (first | assumption | go_keep)
    (first
      | (go_at_call 47; refine HFLd.out.mono ?_; rintro e w' ⟨rfl, hw⟩; have hw := hw.symm; subst hw)
      | (go_at_call 46; refine HFId.out.mono ?_; rintro e w2 ⟨vs, rfl, hvs, hgs, hb2⟩; have HGS := Lib.hid hgs; have HB2 : Hid (Below W1.heap.size W1 w2) := (by exact ((Below.refl _ W1).drew).trans hb2); have HVS := Lib.hid hvs; have cc2 := scell_on HB2.out cc0; clear hvs hgs hb2))
  clear cc0 cc2 HFLd HFId
  generalize hm1 : ps.length - 1 = m
  have HM : Hid (ps.length = m + 1) := by show ps.length = m + 1; omega
  clear hm1
  obtain ⟨a, cs, rfl, _⟩ := HVS.out
  go_wp2
  go_step3
  go_wp2_with fail
  go_loopw [9, 10] (fun wh i wr => ∃ (k : Nat) (x : It), wh = .bool false ∧ k ≤ (gshape K).length ∧ k ≤ m ∧ i = .int .i64 k ∧ StB wr (w.heap.size + 1) 2 0 0 x ∧ OnlyB (w.heap.size + 1) w2 wr ∧ Hid (takesL (itOp K) (gshape K) (ps.drop 1) = takesL x ((gshape K).drop k) (ps.drop (k + 1)))) (fun _ i _ => (gshape K).length - (intOf i).toNat)
  case atStart => exact ⟨0, itOp K, rfl, Nat.zero_le _, Nat.zero_le _, rfl, StB.on HS1.out HB2.out, OnlyB.refl _ _, rfl⟩
  case round =>
    obtain ⟨k, x, rfl, hka, hkm, rfl, hT, hOw, HTX⟩ := hrel
    have HTS := Lib.hid hT
    have HOW := Lib.hid hOw
    have HRw : Hid (StB wr w.heap.size 0 0 0 it0) := StB.only (StB.on HR1.out HB2.out) HOW.out (by omega)
    have HBw : Hid (Below w.heap.size w wr) := below_only (HB1.out.trans (HB2.out.mono HB1.out.size)) HOW.out (by omega)
    clear hT hOw
    by_cases e1 : k = (gshape K).length
    · have q1 : ((k : Int) == ((gshape K).length : Int)) = true := by rw [e1]; simp
      by_cases e2 : (gshape K).length = m
      · have q2 : (((gshape K).length : Int) == (m : Int)) = true := by rw [e2]; simp
        have HX : Hid ((if ps.length ≠ (gshape K).length + 1 then none else takesL (itOp K) (gshape K) (ps.drop 1)) = some x) := by
          show (if ps.length ≠ (gshape K).length + 1 then none else takesL (itOp K) (gshape K) (ps.drop 1)) = some x
          rw [if_neg (by have := HM.out; omega), HTX.out, e1, List.drop_length, takesL_nil]
        clear e1 e2
        obtain ⟨t0, t1, t2, t3, t4, t5, t6, t7, t8, t9⟩ := HRw.out.cells
        have tf := HRw.out.free
        obtain ⟨p0', p1, p2, p3, p4, p5, p6, p7, p8, p9⟩ := HTS.out.cells
        go_wp2
        try rw [Exit.noGoto_ret]
        obtain ⟨V, hV, hTV, hOV⟩ := HRw.out.put 2 0 0 x.1 x.2.1 x.2.2.1 x.2.2.2.1 x.2.2.2.2.1 x.2.2.2.2.2.1 x.2.2.2.2.2.2.1
        rw [hV]
        have HBV : Hid (Below w.heap.size w V) := below_only HBw.out hOV (Nat.le_refl _)
        clear t0 t1 t2 t3 t4 t5 t6 t7 t8 t9 tf p0' p1 p2 p3 p4 p5 p6 p7 p8 p9
        obtain ⟨t0, t1, t2, t3, t4, t5, t6, t7, t8, t9⟩ := hTV.cells
        refine bodyPost_ret (v := .tuple #[stV 2 0 0 x, .int .i64 0]) (by simp [results, Tryz.results16, go_sem, stV, *]) rfl ⟨.inl ⟨x, HX.out, rfl⟩, HBV.out⟩
      · have q2 : (((gshape K).length : Int) == (m : Int)) = false := by rw [beq_eq_false_iff_ne]; omega
        have HNO : Hid ((if ps.length ≠ (gshape K).length + 1 then none else takesL (itOp K) (gshape K) (ps.drop 1)) = none) := if_pos (by have := HM.out; omega)
        clear e1 e2
        obtain ⟨t0, t1, t2, t3, t4, t5, t6, t7, t8, t9⟩ := HRw.out.cells
        have tf := HRw.out.free
        go_wp2
        try rw [Exit.noGoto_ret]
        obtain ⟨V, hV, hTV, hOV⟩ := HRw.out.put 0 0 0 0 0 0 0 0 0 []
        have hnil : bs ([] : List UInt8) = ⟨#[]⟩ := rfl
        rw [hnil] at hV
        rw [hV]
        have HBV : Hid (Below w.heap.size w V) := below_only HBw.out hOV (Nat.le_refl _)
        clear t0 t1 t2 t3 t4 t5 t6 t7 t8 t9 tf
        obtain ⟨t0, t1, t2, t3, t4, t5, t6, t7, t8, t9⟩ := hTV.cells
        refine bodyPost_ret (v := .tuple #[stV 0 0 0 it0, .int .i64 1]) (by simp [results, Tryz.results16, go_sem, stV, it0, *]) rfl ⟨.inr ⟨HNO.out, rfl⟩, HBV.out⟩
    · have q1 : ((k : Int) == ((gshape K).length : Int)) = false := by rw [beq_eq_false_iff_ne]; omega
      by_cases e3 : k = m
      · have q3 : ((k : Int) == (m : Int)) = true := by rw [e3]; simp
        have q2 : (((gshape K).length : Int) == (m : Int)) = false := by rw [beq_eq_false_iff_ne]; omega
        have HNO : Hid ((if ps.length ≠ (gshape K).length + 1 then none else takesL (itOp K) (gshape K) (ps.drop 1)) = none) := if_pos (by have := HM.out; omega)
        clear e1 e3
        obtain ⟨t0, t1, t2, t3, t4, t5, t6, t7, t8, t9⟩ := HRw.out.cells
        have tf := HRw.out.free
        go_wp2
        try rw [Exit.noGoto_ret]
        obtain ⟨V, hV, hTV, hOV⟩ := HRw.out.put 0 0 0 0 0 0 0 0 0 []
        have hnil : bs ([] : List UInt8) = ⟨#[]⟩ := rfl
        rw [hnil] at hV
        rw [hV]
        have HBV : Hid (Below w.heap.size w V) := below_only HBw.out hOV (Nat.le_refl _)
        clear t0 t1 t2 t3 t4 t5 t6 t7 t8 t9 tf
        obtain ⟨t0, t1, t2, t3, t4, t5, t6, t7, t8, t9⟩ := hTV.cells
        refine bodyPost_ret (v := .tuple #[stV 0 0 0 it0, .int .i64 1]) (by simp [results, Tryz.results16, go_sem, stV, it0, *]) rfl ⟨.inr ⟨HNO.out, rfl⟩, HBV.out⟩
      · have q3 : ((k : Int) == (m : Int)) = false := by rw [beq_eq_false_iff_ne]; omega
        have hlt : k < (gshape K).length := by omega
        have hlt2 : k + 1 < ps.length := by have := HM.out; omega
        clear e1 e3
        obtain ⟨gs, os, ccs, hvv, hgs, cw⟩ := HVS.out.cell hlt
        simp only [Value.slice.injEq] at hvv
        obtain ⟨rfl, _, rfl⟩ := hvv
        have hgn : gs ≠ w.heap.size + 1 := by
          have := HGS.out gs os _ _ rfl
          have := HZ1.out
          omega
        have cw' : wr.cell? ⟨gs, os + k, none⟩ = some (.string (bs ((gshape K).getD k []))) := onlyB_cell HOW.out hgn cw
        have cp : wr.cell? ⟨g, o' + k, none⟩ = some (.string (bs (ps.getD (k + 1) []))) := by
          rw [HBw.out.cell (p := ⟨g, o' + k, none⟩) hg]; exact HC.out k hlt2
        have HAK : Hid ((gshape K).getD k [] ∈ askL) := by
          show _ ∈ _
          have q := List.all_eq_true.1 (gshape_ask K HK.out) ((gshape K).getD k []) (by rw [List.getD_eq_getElem?_getD, List.getElem?_eq_getElem hlt]; exact List.getElem_mem hlt)
          exact List.contains_iff_mem.1 q
        have HPL : Hid ((ps.getD (k + 1) []).length ≤ 70000) := HL.out _ (by rw [List.getD_eq_getElem?_getD, List.getElem?_eq_getElem hlt2]; exact List.getElem_mem hlt2)
        have HTK : Hid (takesL x ((gshape K).drop k) (ps.drop (k + 1)) = (takeL x ((gshape K).getD k []) (ps.getD (k + 1) [])).bind fun y => takesL y ((gshape K).drop (k + 1)) (ps.drop (k + 2))) := takes_step x _ _ k hlt hlt2
        have HTA : Hid (Calls Tryz.prog 48 #[.pointer (some ⟨w.heap.size + 1, 0, none⟩), .string (bs ((gshape K).getD k [])), .string (bs (ps.getD (k + 1) []))] wr.drew (TookAs (takeL x ((gshape K).getD k []) (ps.getD (k + 1) [])) (w.heap.size + 1) 2 0 0 wr.drew)) := take_any _ _ _ 2 0 0 x wr.drew HAK.out HPL.out HTS.out
        generalize (gshape K).getD k [] = what at *
        generalize ps.getD (k + 1) [] = piece at *
        clear cw
        have hgn2 : g ≠ w.heap.size + 1 := by omega
        have HLT := Lib.hid hlt
        have HLT2 := Lib.hid hlt2
        have hi1 : (k : Int) < ((gshape K).length : Int) := by omega
        have hi2 : (k : Int) < (m : Int) := by have := HM.out; omega
        have hi0 : (0 : Int) ≤ (k : Int) := by omega
        clear hlt hlt2
        cases ho : takeL x what piece with
        | none =>
          rw [ho] at HTA HTK
          have HNO : Hid ((if ps.length ≠ (gshape K).length + 1 then none else takesL (itOp K) (gshape K) (ps.drop 1)) = none) := by
            show (if ps.length ≠ (gshape K).length + 1 then none else takesL (itOp K) (gshape K) (ps.drop 1)) = none
            split
            · rfl
            · rw [HTX.out, HTK.out]; rfl
          go_wp2_with fail
          go_region_held3 (fun w' => w'.cell? ⟨gs, os + k, none⟩ = some (.string (bs what)) ∧ w'.cell? ⟨g, o' + k, none⟩ = some (.string (bs piece))) (first | (refine ⟨?_, ?_⟩ <;> assumption) | go_keep)
            (first
              | (go_at_call 48; refine HTA.out.mono ?_; rintro e w3 ⟨y, rfl, hy, _, hO3⟩; have HO3 := Lib.hid hO3; have cw3 := onlyB_cell HO3.out hgn cw'; have cp3 := onlyB_cell HO3.out hgn2 cp; clear hO3 hy))
          have HRw3 : Hid (StB w3 w.heap.size 0 0 0 it0) := StB.only HRw.out HO3.out (by omega)
          have HBw3 : Hid (Below w.heap.size w w3) := below_only HBw.out HO3.out (by omega)
          clear HRw HBw
          have HRw := HRw3
          have HBw := HBw3
          clear HRw3 HBw3
          obtain ⟨t0, t1, t2, t3, t4, t5, t6, t7, t8, t9⟩ := HRw.out.cells
          have tf := HRw.out.free
          go_wp2
          try rw [Exit.noGoto_ret]
          obtain ⟨V, hV, hTV, hOV⟩ := HRw.out.put 0 0 0 0 0 0 0 0 0 []
          have hnil : bs ([] : List UInt8) = ⟨#[]⟩ := rfl
          rw [hnil] at hV
          rw [hV]
          have HBV : Hid (Below w.heap.size w V) := below_only HBw.out hOV (Nat.le_refl _)
          clear t0 t1 t2 t3 t4 t5 t6 t7 t8 t9 tf
          obtain ⟨t0, t1, t2, t3, t4, t5, t6, t7, t8, t9⟩ := hTV.cells
          refine bodyPost_ret (v := .tuple #[stV 0 0 0 it0, .int .i64 1]) (by simp [results, Tryz.results16, go_sem, stV, it0, *]) rfl ⟨.inr ⟨HNO.out, rfl⟩, HBV.out⟩
        | some y =>
          rw [ho] at HTA HTK
          go_wp2_with fail
          go_region_held3 (fun w' => w'.cell? ⟨gs, os + k, none⟩ = some (.string (bs what)) ∧ w'.cell? ⟨g, o' + k, none⟩ = some (.string (bs piece))) (first | (refine ⟨?_, ?_⟩ <;> assumption) | go_keep)
            (first
              | (go_at_call 48; refine HTA.out.mono ?_; rintro e w3 ⟨y', rfl, hy, hyy, hO3⟩; have HO3 := Lib.hid hO3; have HY3 : Hid (StB w3 (w.heap.size + 1) 2 0 0 y) := (by have q := hyy y rfl; subst q; exact hy); have cw3 := onlyB_cell HO3.out hgn cw'; have cp3 := onlyB_cell HO3.out hgn2 cp; clear hO3 hy hyy))
          go_wp2
          go_roundw
          case rel => exact ⟨k + 1, y, rfl, HLT.out, by have := HLT2.out; have := HM.out; omega, by go_num, HY3.out, HOW.out.trans HO3.out, by show takesL _ _ _ = _; rw [HTX.out, HTK.out]; rfl⟩
          case measure => have := HLT.out; simp [intOf]; omega

theorem ins_any (ps : List (List UInt8)) (v : Value) (w : World) (hn : ps.length ≤ 200000) (hl : ∀ p ∈ ps, p.length ≤ 70000) (h : IsStrs w v ps) (hcap : ∀ a n c, v = .slice a n c → n ≤ c) (hF : FormTab w) (hN : NameTab w) (hS : SpTab w) :
    Calls Tryz.prog 16 #[v] w fun e w' => InsAs (insG false ps) e ∧ Below w.heap.size w w' := by
  unfold insG
  by_cases h0 : ps = []
  · subst h0
    rw [if_pos rfl]
    exact (ins_nil v w h).mono fun e w' ⟨he, hb⟩ => ⟨.inr ⟨rfl, he⟩, hb⟩
  · have hp : 0 < ps.length := List.length_pos_iff.2 h0
    rw [if_neg h0]
    by_cases hy : nameL.getD (opN (ps.getD 0 [])) [] = ps.getD 0 []
    · by_cases hz : opN (ps.getD 0 []) = 0
      · rw [if_pos (.inr ⟨rfl, hz⟩)]
        exact (ins_zero ps v w h hp hN hy hz).mono fun e w' ⟨he, hb⟩ => ⟨.inr ⟨rfl, he⟩, hb⟩
      · rw [if_neg (by rintro (g | ⟨_, g⟩); exact g hy; exact hz g)]
        exact ins_yes ps v w hn hl h hcap hp hF hN hS hy hz
    · rw [if_pos (.inl hy)]
      exact (ins_no ps v w h hp hN hy).mono fun e w' ⟨he, hb⟩ => ⟨.inr ⟨rfl, he⟩, hb⟩
end Go.Proofs.YtmkmbocnipmngaaGreatDoor

/- Layer 6: the program's own Pieces. -/
namespace Go.Proofs.YtmkmbocnipmngaaGreatDoor
open Go.RowKit
set_option linter.unusedVariables false

theorem cutH_no : ∀ (l : List UInt8), ∀ c ∈ cutH l, c ≠ 35
  | [], c, hc => by simp [cutH] at hc
  | d :: r, c, hc => by
    by_cases h : d = 35
    · subst h
      rw [cutH_hash] at hc; simp at hc
    · rw [cutH_other d r h] at hc
      rcases List.mem_cons.1 hc with rfl | hc
      · exact h
      · exact cutH_no r c hc
/-- What a new block of one value holds. -/
theorem news1 (w : World) (v : Value) (t : TypeId) : ∀ j u, [v][j]? = some u → (w.alloc (.cells #[v] t)).cell? ((⟨w.heap.size, 0, none⟩ : Addr).add j) = some u := by
  intro j u hj
  match j, hj with
  | 0, hj => simp at hj; subst hj; simp [Addr.add]
theorem ck4 (c : UInt8) (h : c ≠ 35) : ck c ≠ 4 := by
  intro e
  unfold ck skind at e
  have hn : ((c.toNat : Int)) ≠ 35 := fun g => h (by
    apply UInt8.toNat_inj.1
    rw [show (35 : UInt8).toNat = 35 from rfl]; omega)
  revert e
  repeat' split
  all_goals first | omega | simp
theorem cutH_ck (l : List UInt8) (k : Nat) (hk : k < (cutH l).length) : ck ((cutH l).getD k 0) ≠ 4 := by
  apply ck4
  apply cutH_no l
  have : (cutH l).getD k 0 = (cutH l)[k] := by simp [List.getD, hk]
  rw [this]; exact List.getElem_mem hk
theorem sign_ck' (l : List UInt8) (k : Nat) : skind (signAt (bs l) k) = ck (l.getD k 0) := by rw [sign_bs]; rfl

set_option maxHeartbeats 4000000 in
theorem pieces6_any (l0 : List UInt8) (w : World) (hl0 : l0.length ≤ 70000) :
    Calls Tryz.prog 15 #[.string (bs l0)] w fun e w' => ((∃ ps v, piecesL l0 = some ps ∧ e = .returned (.tuple #[v, .int .i64 0]) ∧ w'.ownsRow w.heap.size 9 1 v ps.length (ps.map sV)) ∨ (piecesL l0 = none ∧ e = .returned (.tuple #[.slice none 0 0, .int .i64 1]))) ∧ Below w.heap.size w w' := by
  obtain ⟨i0, hi, hz0, hz1, hz2⟩ := info_parts (P := Tryz.prog) (e := 9) (z := .string ⟨#[]⟩) (size := 1) (bytes := 16) (by kernel_rfl)
  rw [pieces_cut l0]
  have HCU : Hid (∀ w, Calls Tryz.prog 41 #[.string (bs l0), .string ⟨#[35]⟩] w fun e w' => ∃ x b, e = .returned (.tuple #[.string (bs (cutH l0)), .string x, .bool b]) ∧ Q w w') := fun w => cut_any l0 w hl0
  have H4 : Hid (∀ k, k < (cutH l0).length → ck ((cutH l0).getD k 0) ≠ 4) := cutH_ck l0
  have hl : (cutH l0).length ≤ 70000 := Nat.le_trans (cutH_len l0) hl0
  generalize cutH l0 = l at *
  have hsz : (bs l).size = l.length := bs_size l
  clear hl0
  go_enter Tryz.func15, Tryz.ntmps15
  go_wp2_with (go_at_call 41; refine (HCU.out _).mono ?_; rintro e w1 ⟨x, b, rfl, hq⟩)
  have HQ : Hid (Q w w1) := hq
  clear hq
  go_loopw [4, 5] (fun o i wr => ∃ (k : Nat) (ol : List (List UInt8)), k ≤ l.length ∧ i = .int .i64 k ∧ wr.ownsRow w.heap.size 9 1 o ol.length (ol.map sV) ∧ Below w.heap.size w wr ∧ ol.length ≤ k ∧ Hid (piecesL l = pcs (l.drop k) ol [])) (fun _ i _ => l.length - (intOf i).toNat)
  case atStart => exact ⟨0, [], Nat.zero_le _, rfl, ⟨by decide, .inl ⟨rfl, rfl⟩⟩, HQ.out.below _, Nat.le_refl _, rfl⟩
  case round =>
    obtain ⟨k, ol, hk, rfl, hown, hb, hol, HP⟩ := hrel
    have HO : Hid (wr.ownsRow w.heap.size 9 1 _ ol.length (ol.map sV)) := hown
    have HB : Hid (Below w.heap.size w wr) := hb
    clear hown hb
    by_cases hlt : k < l.length
    · have hsf := sign_form (bs l) k
      obtain ⟨b0, b1⟩ := signAt_bd (bs l) k
      have HST : Hid _ := pcs_step l k hlt ol []
      have HCK : Hid (skind (signAt (bs l) k) = ck (l.getD k 0)) := sign_ck' l k
      have HN4 : Hid (ck (l.getD k 0) ≠ 4) := H4.out k hlt
      have hcut1 := cut_bs l k (k + 1)
      have HCN : Hid (curL l k (k + 1) = [l.getD k 0]) := by
        show curL l k (k + 1) = _
        rw [cur_next l k k (Nat.le_refl _) hlt, cur_nil]; rfl
      rw [HCN.out] at hcut1
      generalize l.getD k 0 = c at *
      generalize signAt (bs l) k = C at *
      have hv : ck c = 0 ∨ ck c = 1 ∨ ck c = 2 ∨ ck c = 3 ∨ ck c = 4 := skind_vals _
      rcases hv with hv | hv | hv | hv | hv
      · have HBL : Hid (∀ w, Calls Tryz.prog 42 #[.int .u8 C] w fun e w' => e = .returned (.bool false) ∧ w' = w) := fun w => by
          have h := isBlank_any C w b0 b1
          rw [HCK.out, hv] at h; exact h
        have HAL : Hid (∀ w, Calls Tryz.prog 43 #[.int .u8 C] w fun e w' => e = .returned (.bool false) ∧ w' = w) := fun w => by
          have h := isAlone_any C w b0 b1
          rw [HCK.out, hv] at h; exact h
        have HPA : Hid (∀ w, Calls Tryz.prog 44 #[.int .u8 C] w fun e w' => e = .returned (.bool false) ∧ w' = w) := fun w => by
          have h := isPart6_any C w b0 b1
          rw [HCK.out, hv] at h; exact h
        go_wp2_with (first | (go_at_call 42; refine (HBL.out _).mono ?_; rintro e w' ⟨rfl, hw⟩; have hw := hw.symm; subst hw) | (go_at_call 43; refine (HAL.out _).mono ?_; rintro e w' ⟨rfl, hw⟩; have hw := hw.symm; subst hw) | (go_at_call 44; refine (HPA.out _).mono ?_; rintro e w' ⟨rfl, hw⟩; have hw := hw.symm; subst hw))
        go_ret2
        exact ⟨.inr ⟨by rw [HP.out, HST.out, if_neg (by omega), if_pos hv], rfl⟩, HB.out⟩
      · have HBL : Hid (∀ w, Calls Tryz.prog 42 #[.int .u8 C] w fun e w' => e = .returned (.bool true) ∧ w' = w) := fun w => by
          have h := isBlank_any C w b0 b1
          rw [HCK.out, hv] at h; exact h
        have HAL : Hid (∀ w, Calls Tryz.prog 43 #[.int .u8 C] w fun e w' => e = .returned (.bool false) ∧ w' = w) := fun w => by
          have h := isAlone_any C w b0 b1
          rw [HCK.out, hv] at h; exact h
        have HPA : Hid (∀ w, Calls Tryz.prog 44 #[.int .u8 C] w fun e w' => e = .returned (.bool false) ∧ w' = w) := fun w => by
          have h := isPart6_any C w b0 b1
          rw [HCK.out, hv] at h; exact h
        go_wp2_with (first | (go_at_call 42; refine (HBL.out _).mono ?_; rintro e w' ⟨rfl, hw⟩; have hw := hw.symm; subst hw) | (go_at_call 43; refine (HAL.out _).mono ?_; rintro e w' ⟨rfl, hw⟩; have hw := hw.symm; subst hw) | (go_at_call 44; refine (HPA.out _).mono ?_; rintro e w' ⟨rfl, hw⟩; have hw := hw.symm; subst hw))
        go_roundw
        case rel => exact ⟨k + 1, ol, by omega, by go_num, HO.out, HB.out, by omega, by show piecesL l = _; rw [HP.out, HST.out, if_neg (by omega), if_neg (by omega), if_neg (by omega), if_neg (by omega), flush_nil]⟩
        case measure => simp [intOf]; omega
      · have HBL : Hid (∀ w, Calls Tryz.prog 42 #[.int .u8 C] w fun e w' => e = .returned (.bool false) ∧ w' = w) := fun w => by
          have h := isBlank_any C w b0 b1
          rw [HCK.out, hv] at h; exact h
        have HAL : Hid (∀ w, Calls Tryz.prog 43 #[.int .u8 C] w fun e w' => e = .returned (.bool true) ∧ w' = w) := fun w => by
          have h := isAlone_any C w b0 b1
          rw [HCK.out, hv] at h; exact h
        have HPA : Hid (∀ w, Calls Tryz.prog 44 #[.int .u8 C] w fun e w' => e = .returned (.bool false) ∧ w' = w) := fun w => by
          have h := isPart6_any C w b0 b1
          rw [HCK.out, hv] at h; exact h
        have HPD : Hid True := trivial
        go_wp2_with (first | (go_at_call 42; refine (HBL.out _).mono ?_; rintro e w' ⟨rfl, hw⟩; have hw := hw.symm; subst hw) | (go_at_call 43; refine (HAL.out _).mono ?_; rintro e w' ⟨rfl, hw⟩; have hw := hw.symm; subst hw) | (at_builtin; refine wpList_append_own _ rfl _ _ 41 rfl w.heap.size 9 i0 _ 1 16 Tryz.underlying41 hi hz0 hz1 hz2 rfl (by decide) _ _ _ rfl (HO.out.alloc _) ⟨wr.heap.size, 0, none⟩ 1 1 [.string (bs [c])] rfl rfl (news1 _ _ _) ?c2b ?c3b ?c4b ?c5b ?_))
        case c2b => first | rfl | (intro u hu; simp at hu; subst hu; rfl)
        case c3b => unfold maxLen; first | omega | (simp; omega)
        case c4b => first | omega | (simp; omega)
        case c5b => have := HB.out.size; simp; omega
        intro v3 w3 hown' hgrow _
        have HBw3 : Hid (Below w.heap.size w w3) := (HB.out.alloc HB.out.size _).grown hgrow (by have := HB.out.size; simp; omega) (fun j hj => (HO.out.lt j hj).1)
        have HOw3 : Hid (w3.ownsRow w.heap.size 9 1 v3 (ol ++ [ [c] ]).length ((ol ++ [ [c] ]).map sV)) := by
          rw [List.map_append, List.length_append]; exact hown'
        clear hown' hgrow
        go_wp2
        go_roundw
        case rel => exact ⟨k + 1, ol ++ [ [c] ], by omega, by go_num, HOw3.out, HBw3.out, by simp; omega, by show piecesL l = _; rw [HP.out, HST.out, if_neg (by omega), if_neg (by omega), if_neg (by omega), if_pos hv, flush_nil]⟩
        case measure => simp [intOf]; omega
      · have HBL : Hid (∀ w, Calls Tryz.prog 42 #[.int .u8 C] w fun e w' => e = .returned (.bool false) ∧ w' = w) := fun w => by
          have h := isBlank_any C w b0 b1
          rw [HCK.out, hv] at h; exact h
        have HAL : Hid (∀ w, Calls Tryz.prog 43 #[.int .u8 C] w fun e w' => e = .returned (.bool false) ∧ w' = w) := fun w => by
          have h := isAlone_any C w b0 b1
          rw [HCK.out, hv] at h; exact h
        have HPA : Hid (∀ w, Calls Tryz.prog 44 #[.int .u8 C] w fun e w' => e = .returned (.bool true) ∧ w' = w) := fun w => by
          have h := isPart6_any C w b0 b1
          rw [HCK.out, hv] at h; exact h
        go_wp2_with (first | (go_at_call 42; refine (HBL.out _).mono ?_; rintro e w' ⟨rfl, hw⟩; have hw := hw.symm; subst hw) | (go_at_call 43; refine (HAL.out _).mono ?_; rintro e w' ⟨rfl, hw⟩; have hw := hw.symm; subst hw) | (go_at_call 44; refine (HPA.out _).mono ?_; rintro e w' ⟨rfl, hw⟩; have hw := hw.symm; subst hw))
        go_loop [7] (fun e => ∃ m : Nat, k < m ∧ m ≤ l.length ∧ e = .int .i64 m ∧ Hid (piecesL l = pcs (l.drop m) ol (curL l k m))) (fun e => l.length - (intOf e).toNat)
        case atStart => exact ⟨k + 1, by omega, by omega, by go_num, by show piecesL l = _; rw [HP.out, HST.out, if_pos hv, HCN.out]; rfl⟩
        case round =>
          obtain ⟨m, hkm, hm, rfl, HPM⟩ := hrel
          clear hsf
          have hcut := cut_bs l k m
          have HCL : Hid (curL l k m ≠ []) := by
            show curL l k m ≠ []
            unfold curL
            intro e
            have := congrArg List.length e
            simp at this
            omega
          by_cases hml : m < l.length
          · have hsf2 := sign_form (bs l) m
            obtain ⟨d0, d1⟩ := signAt_bd (bs l) m
            have HSM : Hid _ := pcs_step l m hml ol (curL l k m)
            have HCM : Hid (skind (signAt (bs l) m) = ck (l.getD m 0)) := sign_ck' l m
            have HNX : Hid (curL l k (m + 1) = curL l k m ++ [l.getD m 0]) := cur_next l k m (by omega) hml
            have HFL : Hid (ck (l.getD m 0) ≠ 3 → pcs (l.drop m) ol (curL l k m) = pcs (l.drop m) (ol ++ [curL l k m]) []) := fun g => pcs_flush _ _ _ HCL.out (.inr (by rw [drop_getD]; exact g))
            generalize l.getD m 0 = d at *
            generalize signAt (bs l) m = D at *
            by_cases hd : ck d = 3
            · have HPD : Hid (∀ w, Calls Tryz.prog 44 #[.int .u8 D] w fun e w' => e = .returned (.bool true) ∧ w' = w) := fun w => by
                have h := isPart6_any D w d0 d1
                rw [HCM.out, hd] at h; exact h
              go_wp2_with (first | (go_at_call 44; refine (HPD.out _).mono ?_; rintro e w' ⟨rfl, hw⟩; have hw := hw.symm; subst hw))
              go_round
              case rel => exact ⟨m + 1, by omega, by omega, by go_num, by show piecesL l = _; rw [HPM.out, HSM.out, if_pos hd, HNX.out]⟩
              case measure => simp [intOf]; omega
            · have HPD : Hid (∀ w, Calls Tryz.prog 44 #[.int .u8 D] w fun e w' => e = .returned (.bool false) ∧ w' = w) := fun w => by
                have h := isPart6_any D w d0 d1
                rw [HCM.out, decide_eq_false hd] at h; exact h
              generalize hcu : curL l k m = cu at *
              clear hcu
              go_wp2_with (first | (go_at_call 44; refine (HPD.out _).mono ?_; rintro e w' ⟨rfl, hw⟩; have hw := hw.symm; subst hw) | (at_builtin; refine wpList_append_own _ rfl _ _ 41 rfl w.heap.size 9 i0 _ 1 16 Tryz.underlying41 hi hz0 hz1 hz2 rfl (by decide) _ _ _ rfl (HO.out.alloc _) ⟨wr.heap.size, 0, none⟩ 1 1 [.string (bs cu)] rfl rfl (news1 _ _ _) ?c2c ?c3c ?c4c ?c5c ?_))
              case c2c => first | rfl | (intro u hu; simp at hu; subst hu; rfl)
              case c3c => unfold maxLen; first | omega | (simp; omega)
              case c4c => first | omega | (simp; omega)
              case c5c => have := HB.out.size; simp; omega
              intro v3 w3 hown' hgrow _
              have HBw3 : Hid (Below w.heap.size w w3) := (HB.out.alloc HB.out.size _).grown hgrow (by have := HB.out.size; simp; omega) (fun j hj => (HO.out.lt j hj).1)
              have HOw3 : Hid (w3.ownsRow w.heap.size 9 1 v3 (ol ++ [ cu ]).length ((ol ++ [ cu ]).map sV)) := by
                rw [List.map_append, List.length_append]; exact hown'
              clear hown' hgrow
              go_wp2
              go_roundw
              case rel => exact ⟨m, ol ++ [cu], by omega, by go_num, HOw3.out, HBw3.out, by simp; omega, by show piecesL l = _; rw [HPM.out, HFL.out hd]⟩
              case measure => simp [intOf]; omega
          · have HE : Hid (m = l.length) := by show m = l.length; omega
            have HFL : Hid (pcs (l.drop m) ol (curL l k m) = pcs (l.drop m) (ol ++ [curL l k m]) []) := pcs_flush _ _ _ HCL.out (.inl (by rw [HE.out]; simp))
            have HPD : Hid True := trivial
            generalize hcu : curL l k m = cu at *
            clear hcu
            go_wp2_with (first | (at_builtin; refine wpList_append_own _ rfl _ _ 41 rfl w.heap.size 9 i0 _ 1 16 Tryz.underlying41 hi hz0 hz1 hz2 rfl (by decide) _ _ _ rfl (HO.out.alloc _) ⟨wr.heap.size, 0, none⟩ 1 1 [.string (bs cu)] rfl rfl (news1 _ _ _) ?c2d ?c3d ?c4d ?c5d ?_))
            case c2d => first | rfl | (intro u hu; simp at hu; subst hu; rfl)
            case c3d => unfold maxLen; first | omega | (simp; omega)
            case c4d => first | omega | (simp; omega)
            case c5d => have := HB.out.size; simp; omega
            intro v3 w3 hown' hgrow _
            have HBw3 : Hid (Below w.heap.size w w3) := (HB.out.alloc HB.out.size _).grown hgrow (by have := HB.out.size; simp; omega) (fun j hj => (HO.out.lt j hj).1)
            have HOw3 : Hid (w3.ownsRow w.heap.size 9 1 v3 (ol ++ [ cu ]).length ((ol ++ [ cu ]).map sV)) := by
              rw [List.map_append, List.length_append]; exact hown'
            clear hown' hgrow
            go_wp2
            go_roundw
            case rel => exact ⟨m, ol ++ [cu], by omega, by go_num, HOw3.out, HBw3.out, by simp; omega, by show piecesL l = _; rw [HPM.out, HFL.out]⟩
            case measure => simp [intOf]; omega
      · exact absurd hv HN4.out
    · obtain rfl : k = l.length := by omega
      have HE : Hid (piecesL l = some ol) := by
        show piecesL l = _
        rw [HP.out, List.drop_length]; rfl
      go_wp2
      go_ret2
      exact ⟨.inl ⟨ol, _, HE.out, rfl, HO.out⟩, HB.out⟩
end Go.Proofs.YtmkmbocnipmngaaGreatDoor
