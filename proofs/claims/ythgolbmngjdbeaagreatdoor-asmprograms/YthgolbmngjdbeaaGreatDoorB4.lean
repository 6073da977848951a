/- My texts AsmRead, AsmGoR, AsmGoT, AsmGoI, bound into one. -/
import Derived.Test.YthgolbmngjdbeaaGreatDoorB3
import Derived.Deep.RegionHeld3
import Derived.LoopN
import Derived.Test.YthgolbmngjdbeaaGreatDoorB1
import Derived.Lib.Hide
import Derived.WalkMore
/- Layer 6: the document's own read. -/
namespace Go.Proofs.YthgolbmngjdbeaaGreatDoor
open Go.RowKit
set_option linter.unusedVariables false
set_option linter.unusedSimpArgs false

def ReadsAs (ps : List (List UInt8)) (e : Ending) : Prop := ∃ x b, e = .returned (.tuple #[itV x 0, .bool b]) ∧ (b = true → readL ps = some x) ∧ (b = false → readL ps = none)

set_option maxRecDepth 100000 in
set_option maxHeartbeats 1000000 in
theorem read_word (ps : List (List UInt8)) (v : Value) (w : World) (hl : ∀ p ∈ ps, p.length ≤ 70000) (h : IsStrs w v ps) (h2 : ps.length = 2) (h0 : ps.getD 0 [] = kWord) :
    Calls Tryz.prog 15 #[v] w fun e w' => ReadsAs ps e ∧ Below w.heap.size w w' := by
  obtain ⟨g, o, c, rfl, hg, hc⟩ := h.all (by omega)
  have c0 := hc 0 (by omega)
  have c1 := hc 1 (by omega)
  rw [Nat.add_zero, h0] at c0
  have hR : readL ps = (numW (ps.getD 1 [])).map fun n => (0, 0, 0, 0, 0, 0, [], n, true) := by
    unfold readL; rw [if_pos ⟨h2, h0⟩]
  have hl1 : (ps.getD 1 []).length ≤ 70000 := by
    rw [List.getD_eq_getElem?_getD, List.getElem?_eq_getElem (by omega)]; exact hl _ (List.getElem_mem _)
  generalize ps.getD 1 [] = q at *
  have HQ : Hid (∀ w, Calls Tryz.prog 26 #[.string (bs q)] w fun e w' => e = .returned (.tuple #[.int .u32 ((numW q).getD 0), .bool (numW q).isSome]) ∧ w' = w) := fun w => rnum6_any q w hl1
  have HR := Lib.hid hR
  have hw : bs kWord = ⟨#[46, 119, 111, 114, 100]⟩ := rfl
  rw [hw] at c0
  have hg' : g ≠ w.heap.size := by omega
  rw [h2]
  clear hR h h2 h0 hl hl1 hw hc
  go_enter Tryz.func15, Tryz.ntmps15
  go_wp2_with (first
    | (go_at_call 26; refine (HQ.out _).mono ?_; rintro e w' ⟨rfl, hw⟩; have hw := hw.symm; subst hw))
  refine bodyPost_ret (v := .tuple #[itV (0, 0, 0, 0, 0, 0, [], (numW q).getD 0, true) 0, .bool (numW q).isSome]) (by simp [results, Tryz.results15, go_sem, itV]; rfl) rfl ⟨?_, (Below.refl _ _).alloc (Nat.le_refl _) _⟩
  unfold ReadsAs
  rw [HR.out]
  exact opt_map (f := fun n => (0, 0, 0, 0, 0, 0, [], n, true)) rfl

def tenV (x : It) (line : Int) : Array Value := #[.int .i64 x.1, .int .i64 x.2.1, .int .i64 x.2.2.1, .int .i64 x.2.2.2.1, .int .u32 x.2.2.2.2.1, .int .i64 x.2.2.2.2.2.1, .string (bs x.2.2.2.2.2.2.1), .int .u32 x.2.2.2.2.2.2.2.1, .bool x.2.2.2.2.2.2.2.2, .int .i64 line]
def it0 : It := (0, 0, 0, 0, 0, 0, [], 0, false)
theorem opTo_lt (p : List UInt8) : ∀ k, opTo p k < 58 ∨ opTo p k < k
  | 0 => .inl (by rw [opTo]; decide)
  | k + 1 => by
    rw [opTo]
    split
    · exact .inr (by omega)
    · rcases opTo_lt p k with h | h
      · exact .inl h
      · exact .inr (by omega)
theorem opN_lt (p : List UInt8) : opN p < 58 := by
  rcases opTo_lt p 58 with h | h <;> exact h
/-- A block of ten cells. -/
def TenG (V : World) (B : Nat) (op rd rs1 rs2 imm csr : Int) (lb : ByteArray) (wd : Int) (raw : Bool) (line : Int) : Prop := V.heap[B]? = some (.cells #[.int .i64 op, .int .i64 rd, .int .i64 rs1, .int .i64 rs2, .int .u32 imm, .int .i64 csr, .string lb, .int .u32 wd, .bool raw, .int .i64 line] 48)
def TenC (V : World) (B : Nat) (op rd rs1 rs2 imm csr : Int) (lb : ByteArray) (wd : Int) (raw : Bool) (line : Int) : Prop := V.cell? ⟨B, 0, none⟩ = some (.int .i64 op) ∧ V.cell? ⟨B, 1, none⟩ = some (.int .i64 rd) ∧ V.cell? ⟨B, 2, none⟩ = some (.int .i64 rs1) ∧ V.cell? ⟨B, 3, none⟩ = some (.int .i64 rs2) ∧ V.cell? ⟨B, 4, none⟩ = some (.int .u32 imm) ∧ V.cell? ⟨B, 5, none⟩ = some (.int .i64 csr) ∧ V.cell? ⟨B, 6, none⟩ = some (.string lb) ∧ V.cell? ⟨B, 7, none⟩ = some (.int .u32 wd) ∧ V.cell? ⟨B, 8, none⟩ = some (.bool raw) ∧ V.cell? ⟨B, 9, none⟩ = some (.int .i64 line)
theorem TenG.cells {V : World} {B : Nat} {op rd rs1 rs2 imm csr : Int} {lb : ByteArray} {wd : Int} {raw : Bool} {line : Int} (h : TenG V B op rd rs1 rs2 imm csr lb wd raw line) : TenC V B op rd rs1 rs2 imm csr lb wd raw line := by
  unfold TenG at h
  refine ⟨?_, ?_, ?_, ?_, ?_, ?_, ?_, ?_, ?_, ?_⟩ <;> simp [World.cell?, h]
theorem TenG.free {V : World} {B : Nat} {op rd rs1 rs2 imm csr : Int} {lb : ByteArray} {wd : Int} {raw : Bool} {line : Int} (h : TenG V B op rd rs1 rs2 imm csr lb wd raw line) : ∀ j, V.frozen? ⟨B, j, none⟩ = false := by
  unfold TenG at h
  intro j
  simp [World.frozen?, h]
theorem TenG.on {V W : World} {B : Nat} {op rd rs1 rs2 imm csr : Int} {lb : ByteArray} {wd : Int} {raw : Bool} {line : Int} (h : TenG V B op rd rs1 rs2 imm csr lb wd raw line) (hb : Below V.heap.size V W) : TenG W B op rd rs1 rs2 imm csr lb wd raw line := by
  unfold TenG at *
  rw [hb.block B (Array.getElem?_eq_some_iff.1 h).1]; exact h
theorem tenG_new (w : World) (op rd rs1 rs2 imm csr : Int) (lb : ByteArray) (wd : Int) (raw : Bool) (line : Int) : TenG (w.alloc (.cells #[.int .i64 op, .int .i64 rd, .int .i64 rs1, .int .i64 rs2, .int .u32 imm, .int .i64 csr, .string lb, .int .u32 wd, .bool raw, .int .i64 line] 48)) w.heap.size op rd rs1 rs2 imm csr lb wd raw line := heap_alloc_new w _
/-- Nothing is turned but block B. -/
def OnlyB (B : Nat) (V V' : World) : Prop := V'.os = V.os ∧ V'.tape = V.tape ∧ V'.output = V.output ∧ V'.heap.size = V.heap.size ∧ ∀ k, k ≠ B → V'.heap[k]? = V.heap[k]?
theorem OnlyB.refl (B : Nat) (V : World) : OnlyB B V V := ⟨rfl, rfl, rfl, rfl, fun _ _ => rfl⟩
theorem OnlyB.set {B : Nat} {V V' : World} (h : OnlyB B V V') (i : Nat) (v : Value) : OnlyB B V (V'.setCell ⟨B, i, none⟩ v) := by
  obtain ⟨h1, h2, h3, h4, h5⟩ := h
  refine ⟨h1, h2, h3, ?_, fun k hk => ?_⟩
  · rw [← h4]; simp [World.setCell]
  · rw [Below.heap_setCell _ _ _ _ hk]; exact h5 k hk
theorem OnlyB.below {B N : Nat} {V V' : World} (h : OnlyB B V V') (hN : N ≤ B) : Below N V V' :=
  ⟨h.1, h.2.1, h.2.2.1, Nat.le_of_eq h.2.2.2.1.symm, fun k hk => h.2.2.2.2 k (by omega)⟩
theorem onlyB_cell {B b o : Nat} {V V' : World} {v : Value} (h : OnlyB B V V') (hne : b ≠ B) (hc : V.cell? ⟨b, o, none⟩ = some v) : V'.cell? ⟨b, o, none⟩ = some v := by
  unfold World.cell? at *
  rw [h.2.2.2.2 b hne]; exact hc
theorem TenG.only {V W : World} {B C : Nat} {op rd rs1 rs2 imm csr : Int} {lb : ByteArray} {wd : Int} {raw : Bool} {line : Int} (h : TenG V B op rd rs1 rs2 imm csr lb wd raw line) (ho : OnlyB C V W) (hne : B ≠ C) : TenG W B op rd rs1 rs2 imm csr lb wd raw line := by
  unfold TenG at *
  rw [ho.2.2.2.2 B hne]; exact h
theorem row_step {V : World} {B i : Nat} {cur : Array Value} {T : TypeId} (h : V.heap[B]? = some (.cells cur T)) (v : Value) : (V.setCell ⟨B, i, none⟩ v).heap[B]? = some (.cells (cur.setIfInBounds i v) T) := by
  simp [World.setCell, Array.getElem?_modify, h]
theorem TenG.put {V : World} {B : Nat} {op rd rs1 rs2 imm csr : Int} {lb : ByteArray} {wd : Int} {raw : Bool} {line : Int} (h : TenG V B op rd rs1 rs2 imm csr lb wd raw line) (a b c d e f : Int) (g : ByteArray) (h' : Int) (i : Bool) (j : Int) :
    ∃ V', ((((((((((V.setCell ⟨B, 0, none⟩ (.int .i64 a)).setCell ⟨B, 1, none⟩ (.int .i64 b)).setCell ⟨B, 2, none⟩ (.int .i64 c)).setCell ⟨B, 3, none⟩ (.int .i64 d)).setCell ⟨B, 4, none⟩ (.int .u32 e)).setCell ⟨B, 5, none⟩ (.int .i64 f)).setCell ⟨B, 6, none⟩ (.string g)).setCell ⟨B, 7, none⟩ (.int .u32 h')).setCell ⟨B, 8, none⟩ (.bool i)).setCell ⟨B, 9, none⟩ (.int .i64 j)) = V' ∧ TenG V' B a b c d e f g h' i j ∧ OnlyB B V V' := by
  unfold TenG at h
  refine ⟨_, rfl, ?_, ((((((((((OnlyB.refl B V).set 0 _).set 1 _).set 2 _).set 3 _).set 4 _).set 5 _).set 6 _).set 7 _).set 8 _).set 9 _⟩
  have r0 := row_step (i := 0) h (.int .i64 a)
  have r1 := row_step (i := 1) r0 (.int .i64 b)
  have r2 := row_step (i := 2) r1 (.int .i64 c)
  have r3 := row_step (i := 3) r2 (.int .i64 d)
  have r4 := row_step (i := 4) r3 (.int .u32 e)
  have r5 := row_step (i := 5) r4 (.int .i64 f)
  have r6 := row_step (i := 6) r5 (.string g)
  have r7 := row_step (i := 7) r6 (.int .u32 h')
  have r8 := row_step (i := 8) r7 (.bool i)
  have r9 := row_step (i := 9) r8 (.int .i64 j)
  unfold TenG
  rw [r9]
  simp only [List.setIfInBounds_toArray, List.set_cons_zero, List.set_cons_succ]
theorem rfill_lit (x : It) (what s : List UInt8) (w : World) (hw : what ∈ kinds9) (hl : s.length ≤ 70000) :
    Calls Tryz.prog 29 #[.agg #[.int .i64 x.1, .int .i64 x.2.1, .int .i64 x.2.2.1, .int .i64 x.2.2.2.1, .int .u32 x.2.2.2.2.1, .int .i64 x.2.2.2.2.2.1, .string (bs x.2.2.2.2.2.2.1), .int .u32 x.2.2.2.2.2.2.2.1, .bool x.2.2.2.2.2.2.2.2, .int .i64 0], .string (bs what), .string (bs s)] w fun e w' => (∃ (y : It) (b : Bool), e = .returned (.tuple #[.agg #[.int .i64 y.1, .int .i64 y.2.1, .int .i64 y.2.2.1, .int .i64 y.2.2.2.1, .int .u32 y.2.2.2.2.1, .int .i64 y.2.2.2.2.2.1, .string (bs y.2.2.2.2.2.2.1), .int .u32 y.2.2.2.2.2.2.2.1, .bool y.2.2.2.2.2.2.2.2, .int .i64 0], .bool b]) ∧ (b = true → fillL x what s = some y) ∧ (b = false → fillL x what s = none)) ∧ Below w.heap.size w w' := rfill_any x what s 0 w hw hl
def ImmB (x : It) : Prop := 0 ≤ x.2.2.2.2.1 ∧ x.2.2.2.2.1 < 4294967296
theorem numW_some {s : List UInt8} {n : Int} (h : numW s = some n) : 0 ≤ n ∧ n < 4294967296 := by
  have := numW_bd s
  rw [h] at this; exact this
theorem fillL_bd {x y : It} {what s : List UInt8} (hx : ImmB x) (h : fillL x what s = some y) : ImmB y := by
  unfold fillL at h
  have M : ∀ {f : Int → It}, (∀ n, 0 ≤ n → n < 4294967296 → ImmB (f n)) → (numW s).map f = some y → ImmB y := fun {f} hf h => by
    obtain ⟨n, hn, rfl⟩ := Option.map_eq_some_iff.1 h
    exact hf n (numW_some hn).1 (numW_some hn).2
  split at h
  · split at h
    · cases h; exact hx
    · cases h
  split at h
  · split at h
    · cases h; exact hx
    · cases h
  split at h
  · split at h
    · cases h; exact hx
    · cases h
  split at h
  · exact M (fun n h0 h1 => ⟨h0, h1⟩) h
  split at h
  · exact M (f := fun n => (x.1, x.2.1, x.2.2.1, x.2.2.2.1, x.2.2.2.2.1, n, x.2.2.2.2.2.2)) (fun n h0 h1 => hx) h
  split at h
  · split at h
    · cases h; exact hx
    · exact M (fun n h0 h1 => ⟨h0, h1⟩) h
  split at h
  · cases h; exact hx
  · cases h
theorem fillsL_bd : ∀ {ws ps : List (List UInt8)} {x y : It}, ImmB x → fillsL x ws ps = some y → ImmB y
  | [], ps, x, y, hx, h => by
    cases ps <;> (simp only [fillsL, Option.some.injEq] at h; subst h; exact hx)
  | w :: ws, [], x, y, hx, h => by
    simp only [fillsL, Option.some.injEq] at h; subst h; exact hx
  | w :: ws, p :: ps, x, y, hx, h => by
    rw [fillsL] at h
    obtain ⟨z, hz, h⟩ := Option.bind_eq_some_iff.1 h
    exact fillsL_bd (fillL_bd hx hz) h
theorem fillsL_nil (x : It) (ps : List (List UInt8)) : fillsL x [] ps = some x := by cases ps <;> rfl
theorem shape_kinds (K k : Nat) (h : k < (shapeL K).length) : (shapeL K).getD k [] ∈ kinds9 := by
  have hall : ∀ s ∈ shapeL K, s ∈ kinds9 := by
    unfold shapeL
    repeat' split
    all_goals decide
  rw [List.getD_eq_getElem?_getD, List.getElem?_eq_getElem h]
  exact hall _ (List.getElem_mem h)
theorem fills_step (x : It) (ws ps : List (List UInt8)) (k : Nat) (h : k < ws.length) (h2 : k + 1 < ps.length) : fillsL x (ws.drop k) (ps.drop (k + 1)) = (fillL x (ws.getD k []) (ps.getD (k + 1) [])).bind fun y => fillsL y (ws.drop (k + 1)) (ps.drop (k + 2)) := by
  have e1 : ws.drop k = ws.getD k [] :: ws.drop (k + 1) := by
    rw [List.drop_eq_getElem_cons h]; simp [List.getD, h]
  have e2 : ps.drop (k + 1) = ps.getD (k + 1) [] :: ps.drop (k + 2) := by
    rw [List.drop_eq_getElem_cons h2]; simp [List.getD, h2]
  rw [e1, e2, fillsL]
theorem shape_len (k : Nat) : (shapeL k).length ≤ 6 := by
  unfold shapeL
  repeat' split
  all_goals simp

set_option maxRecDepth 100000 in
set_option maxHeartbeats 20000000 in
theorem read_rest (ps : List (List UInt8)) (v : Value) (w : World) (hn : ps.length ≤ 200000) (hl : ∀ p ∈ ps, p.length ≤ 70000) (h : IsStrs w v ps) (h0 : 0 < ps.length) (h2 : ¬ (ps.length = 2 ∧ ps.getD 0 [] = kWord)) :
    Calls Tryz.prog 15 #[v] w fun e w' => ReadsAs ps e ∧ Below w.heap.size w w' := by
  obtain ⟨g, o, c, rfl, hg, hc⟩ := h.all h0
  have c0 := hc 0 h0
  rw [Nat.add_zero] at c0
  have HC : Hid (∀ i, i < ps.length → w.cell? ⟨g, o + i, none⟩ = some (.string (bs (ps.getD i [])))) := hc
  have HL := Lib.hid hl
  have HP : Hid (opTo (ps.getD 0 []) 58 < 58) := opN_lt _
  have HR : Hid (readL ps = if opTo (ps.getD 0 []) 58 = 0 ∨ ps.length ≠ (shapeL (opTo (ps.getD 0 []) 58)).length + 1 then none
      else (fillsL (itOp (opTo (ps.getD 0 []) 58)) (shapeL (opTo (ps.getD 0 []) 58)) (ps.drop 1)).bind (finL (opTo (ps.getD 0 []) 58))) := by
    show readL ps = _
    unfold readL; rw [if_neg h2]; rfl
  have hB : Below w.heap.size w (w.alloc (.cells (tenV it0 0) 48)) := (Below.refl _ _).alloc (Nat.le_refl _) _
  have HB := Lib.hid hB
  generalize hp0 : ps.getD 0 [] = p0 at *
  have hg' : g ≠ w.heap.size := by omega
  have hcase : ((ps.length : Int) == 2) = false ∨ (((ps.length : Int) == 2) = true ∧ ((bs p0).toList == [46, 119, 111, 114, 100]) = false ∧ ((bs p0).toList == ByteArray.toList ⟨#[46, 119, 111, 114, 100]⟩) = false) := by
    by_cases q : ps.length = 2
    · have hne : ((bs p0).toList == (bs kWord).toList) = false := bs_neq (fun e => h2 ⟨q, e⟩)
      exact .inr ⟨by rw [q]; rfl, by rw [show (bs kWord).toList = [46, 119, 111, 114, 100] from by simp [bs, kWord, ByteArray.toList_eq]] at hne; exact hne, hne⟩
    · exact .inl (by simpa using (by omega : ¬ (ps.length : Int) = 2))
  clear h2 hc hl h hB
  rcases hcase with e2 | ⟨e2, e3, e3'⟩
  all_goals
    go_enter Tryz.func15, Tryz.ntmps15
    go_wp2_with fail
    refine (rnames_any _).mono ?_
    rintro e w1 ⟨gn, rfl, hgn, hcs, hb1⟩
    have HB1 : Hid (Below w.heap.size w w1) := HB.out.trans (hb1.mono HB.out.size)
    have HT : Hid (TenG w1 w.heap.size 0 0 0 0 0 0 ⟨#[]⟩ 0 false 0) := TenG.on (tenG_new w 0 0 0 0 0 0 ⟨#[]⟩ 0 false 0) hb1
    have c0' : w1.cell? ⟨g, o, none⟩ = some (.string (bs p0)) := by
      rw [HB1.out.cell (p := ⟨g, o, none⟩) hg]; exact c0
    have HCS : Hid (∀ k, k < 58 → w1.cell? ⟨gn, k, none⟩ = some (.string (nameS k))) := hcs
    clear hcs hb1 hgn
    go_wp2_with fail
    go_loopw [6, 8] (fun oo i wr => ∃ k : Nat, k ≤ 58 ∧ oo = .int .i64 (opTo p0 k) ∧ i = .int .i64 k ∧ Q w1 wr) (fun _ i _ => 58 - (intOf i).toNat)
    case atStart => exact ⟨0, Nat.zero_le _, rfl, rfl, 0, rfl⟩
    case round =>
      obtain ⟨k, hk, rfl, rfl, m, rfl⟩ := hrel
      by_cases hlt : k < 58
      · have hcn := HCS.out k hlt
        by_cases hq : nameL.getD k [] = p0
        · have hnm : ((nameS k).toList == (bs p0).toList) = true := by rw [nameS_bs, hq]; simp
          have HOT : Hid (opTo p0 (k + 1) = k) := by show opTo p0 (k + 1) = k; rw [opTo, if_pos hq]
          clear hq
          go_wp2_with fail
          go_quiet (fail)
          go_wp2
          go_roundw
          case rel => exact ⟨k + 1, by omega, by rw [HOT.out], by go_num, _, rfl⟩
          case measure => simp [intOf]; omega
        · have hnm : ((nameS k).toList == (bs p0).toList) = false := by rw [nameS_bs]; exact bs_neq hq
          have HOT : Hid (opTo p0 (k + 1) = opTo p0 k) := by show opTo p0 (k + 1) = _; rw [opTo, if_neg hq]
          clear hq
          go_wp2_with fail
          go_quiet (fail)
          go_wp2
          go_roundw
          case rel => exact ⟨k + 1, by omega, by rw [HOT.out], by go_num, _, rfl⟩
          case measure => simp [intOf]; omega
      · obtain rfl : k = 58 := by omega
        clear hlt hk
        generalize opTo p0 58 = K at *
        go_wp2_with fail
        have HBm : Hid (Below w.heap.size w (w1.drewN m)) := HB1.out.trans (Q.below ⟨m, rfl⟩ _)
        refine (rshape_any K HP.out _).mono ?_
        rintro e w2 ⟨vs, rfl, hvs, hb2⟩
        have HB2 : Hid (Below w.heap.size w w2) := HBm.out.trans (hb2.mono HBm.out.size)
        have HT2 : Hid (TenG w2 w.heap.size 0 0 0 0 0 0 ⟨#[]⟩ 0 false 0) := TenG.on (TenG.on HT.out (Q.below ⟨m, rfl⟩ _)) hb2
        have HVS := Lib.hid hvs
        obtain ⟨a, cs, rfl, _⟩ := hvs
        have hsl : (shapeL K).length ≤ 6 := shape_len K
        clear hb2 HT c0' HCS
        by_cases hK0 : K = 0
        · have h0' : ((K : Int) == 0) = true := by rw [hK0]; rfl
          have HRN : Hid (readL ps = none) := by show readL ps = none; rw [HR.out, if_pos (.inl hK0)]
          clear hK0
          obtain ⟨t0, t1, t2, t3, t4, t5, t6, t7, t8, t9⟩ := HT2.out.cells
          have tf := HT2.out.free
          go_wp2
          obtain ⟨V, hV, hTV, hBV⟩ := HT2.out.put 0 0 0 0 0 0 ⟨#[]⟩ 0 false 0
          rw [hV]
          have HBV : Hid (Below w.heap.size w V) := HB2.out.trans (hBV.below (Nat.le_refl _))
          obtain ⟨t0, t1, t2, t3, t4, t5, t6, t7, t8, t9⟩ := hTV.cells
          refine bodyPost_ret (v := .tuple #[itV it0 0, .bool false]) (by simp [results, Tryz.results15, go_sem, itV, it0, *]; rfl) rfl ⟨⟨it0, false, rfl, (fun h => by cases h), fun _ => HRN.out⟩, HBV.out⟩
        · have h0' : ((K : Int) == 0) = false := by simpa using (by omega : ¬ (K : Int) = 0)
          by_cases hmm : ps.length = (shapeL K).length + 1
          · have e4 : ((ps.length : Int) != ((shapeL K).length : Int) + 1) = false := by simp; omega
            have HRF : Hid (readL ps = (fillsL (itOp K) (shapeL K) (ps.drop 1)).bind (finL K)) := by
              show readL ps = _
              rw [HR.out, if_neg (fun q => q.elim hK0 (fun q => q hmm))]
            have HK0 : Hid (K ≠ 0) := hK0
            have HKP : Hid (ps.length = (shapeL K).length + 1) := hmm
            clear hK0 hmm HR
            go_wp2_with fail
            have HTN := Lib.hid (tenG_new w2 K 0 0 0 0 0 ⟨#[]⟩ 0 false 0)
            have HBN : Hid (Below w2.heap.size w2 (w2.alloc (.cells #[.int .i64 K, .int .i64 0, .int .i64 0, .int .i64 0, .int .u32 0, .int .i64 0, .string ⟨#[]⟩, .int .u32 0, .bool false, .int .i64 0] 48))) := (Below.refl _ _).alloc (Nat.le_refl _) _
            go_loopw [11] (fun i wr => ∃ (k : Nat) (x : It), k ≤ (shapeL K).length ∧ i = .int .i64 k ∧ TenG wr w2.heap.size x.1 x.2.1 x.2.2.1 x.2.2.2.1 x.2.2.2.2.1 x.2.2.2.2.2.1 (bs x.2.2.2.2.2.2.1) x.2.2.2.2.2.2.2.1 x.2.2.2.2.2.2.2.2 0 ∧ Below w2.heap.size w2 wr ∧ Hid (fillsL (itOp K) (shapeL K) (ps.drop 1) = fillsL x ((shapeL K).drop k) (ps.drop (k + 1)))) (fun i _ => (shapeL K).length - (intOf i).toNat)
            case atStart => exact ⟨0, itOp K, Nat.zero_le _, rfl, HTN.out, HBN.out, rfl⟩
            case round =>
              obtain ⟨k, x, hk, rfl, hT, hBw, HFX⟩ := hrel
              have HBw := Lib.hid hBw
              have HTx := Lib.hid hT
              clear hBw
              by_cases hlt : k < (shapeL K).length
              · obtain ⟨gs, os, cc, hvv, hgs, cw⟩ := (HVS.out.on HBw.out).cell hlt
                have hlt2 : k + 1 < ps.length := by have := HKP.out; omega
                have HBx : Hid (Below w.heap.size w wr) := HB2.out.trans (HBw.out.mono HB2.out.size)
                have cp : wr.cell? ⟨g, o + (k + 1), none⟩ = some (.string (bs (ps.getD (k + 1) []))) := by
                  rw [HBx.out.cell (p := ⟨g, o + (k + 1), none⟩) hg]; exact HC.out (k + 1) hlt2
                simp only [Value.slice.injEq] at hvv
                obtain ⟨rfl, _, rfl⟩ := hvv
                have HW9 : Hid ((shapeL K).getD k [] ∈ kinds9) := shape_kinds K k hlt
                have HPL : Hid ((ps.getD (k + 1) []).length ≤ 70000) := HL.out _ (by rw [List.getD_eq_getElem?_getD, List.getElem?_eq_getElem hlt2]; exact List.getElem_mem hlt2)
                have HFS : Hid (fillsL x ((shapeL K).drop k) (ps.drop (k + 1)) = (fillL x ((shapeL K).getD k []) (ps.getD (k + 1) [])).bind fun y => fillsL y ((shapeL K).drop (k + 1)) (ps.drop (k + 2))) := fills_step x _ _ k hlt hlt2
                generalize (shapeL K).getD k [] = what at *
                generalize ps.getD (k + 1) [] = piece at *
                obtain ⟨t0, t1, t2, t3, t4, t5, t6, t7, t8, t9⟩ := hT.cells
                clear hT
                have hgw : g < wr.heap.size := Nat.lt_of_lt_of_le hg HBx.out.size
                have hbw : w2.heap.size < wr.heap.size := (Array.getElem?_eq_some_iff.1 HTx.out).1
                have n1 : g ≠ wr.heap.size := by omega
                have n2 : gs ≠ wr.heap.size := by omega
                have n3 : w2.heap.size ≠ wr.heap.size := by omega
                have hz1 : (0 : Int) ≤ (k : Int) + 1 := by omega
                have hz0 : (0 : Int) ≤ (k : Int) := by omega
                have htn : ((k : Int) + 1).toNat = k + 1 := by omega
                have hlt3 : (k : Int) + 1 < (ps.length : Int) := by omega
                have hlt4 : (k : Int) < ((shapeL K).length : Int) := by omega
                have hwr : IntKind.i64.wrap ((k : Int) + 1) = (k : Int) + 1 := by rw [IntKind.wrap_i64]; omega
                go_wp2_with fail
                clear c0 e2 h0' e4 hsl hg' h0 hk
                have HLT := Lib.hid hlt
                have HLT2 := Lib.hid hlt2
                have HN := Lib.hid hn
                have HG := Lib.hid hg
                clear hlt hlt2 hn hg
                have CW := Lib.hid cw
                have CP := Lib.hid cp
                go_region_held3 (fun w' => w'.cell? ⟨w2.heap.size, 0, none⟩ = some (.int .i64 x.1) ∧ w'.cell? ⟨w2.heap.size, 1, none⟩ = some (.int .i64 x.2.1) ∧ w'.cell? ⟨w2.heap.size, 2, none⟩ = some (.int .i64 x.2.2.1) ∧ w'.cell? ⟨w2.heap.size, 3, none⟩ = some (.int .i64 x.2.2.2.1) ∧ w'.cell? ⟨w2.heap.size, 4, none⟩ = some (.int .u32 x.2.2.2.2.1) ∧ w'.cell? ⟨w2.heap.size, 5, none⟩ = some (.int .i64 x.2.2.2.2.2.1) ∧ w'.cell? ⟨w2.heap.size, 6, none⟩ = some (.string (bs x.2.2.2.2.2.2.1)) ∧ w'.cell? ⟨w2.heap.size, 7, none⟩ = some (.int .u32 x.2.2.2.2.2.2.2.1) ∧ w'.cell? ⟨w2.heap.size, 8, none⟩ = some (.bool x.2.2.2.2.2.2.2.2) ∧ w'.cell? ⟨w2.heap.size, 9, none⟩ = some (.int .i64 0) ∧ w'.cell? ⟨gs, os + k, none⟩ = some (.string (bs what)) ∧ w'.cell? ⟨g, o + (k + 1), none⟩ = some (.string (bs piece))) (first | (obtain ⟨VV, hVV, _, hOO⟩ := HTY.out.put y.1 y.2.1 y.2.2.1 y.2.2.2.1 y.2.2.2.2.1 y.2.2.2.2.2.1 (bs y.2.2.2.2.2.2.1) y.2.2.2.2.2.2.2.1 y.2.2.2.2.2.2.2.2 0; (try dsimp only); rw [hVV]; exact ⟨onlyB_cell hOO n3 p0, onlyB_cell hOO n3 p1, onlyB_cell hOO n3 p2, onlyB_cell hOO n3 p3, onlyB_cell hOO n3 p4, onlyB_cell hOO n3 p5, onlyB_cell hOO n3 p6, onlyB_cell hOO n3 p7, onlyB_cell hOO n3 p8, onlyB_cell hOO n3 p9, onlyB_cell hOO n2 cw3, onlyB_cell hOO n1 cp3⟩) | (refine ⟨?_, ?_, ?_, ?_, ?_, ?_, ?_, ?_, ?_, ?_, ?_, ?_⟩ <;> assumption) | go_keep) (first | (go_at_call 29; refine (rfill_lit x what piece _ HW9.out HPL.out).mono ?_; rintro e w3 ⟨⟨y, b, rfl, hy1, hy2⟩, hb3⟩; have HY1 := Lib.hid hy1; have HY2 := Lib.hid hy2; have HWR3 : Hid (Below wr.heap.size wr w3) := (by first | exact ((Below.refl _ wr).drew).trans hb3 | exact (((Below.refl _ wr).alloc (Nat.le_refl _) _).drew).trans (hb3.mono (by simp))); (first | (have HTY := Lib.hid (TenG.on (V := (wr.alloc _).drew) (B := wr.heap.size) (tenG_new wr 0 0 0 0 0 0 ⟨#[]⟩ 0 false 0) hb3); obtain ⟨q0, q1, q2, q3, q4, q5, q6, q7, q8, q9⟩ := HTY.out.cells; have qf := HTY.out.free) | skip); have HT3 := Lib.hid (TenG.on HTx.out HWR3.out); obtain ⟨p0, p1, p2, p3, p4, p5, p6, p7, p8, p9⟩ := HT3.out.cells; have cw3 := scell_on HWR3.out CW.out; have cp3 := scell_on HWR3.out CP.out; clear hy1 hy2 hb3))
                · obtain ⟨V, hV⟩ : ∃ V, w3.alloc (.cells #[.int .i64 y.1, .int .i64 y.2.1, .int .i64 y.2.2.1, .int .i64 y.2.2.2.1, .int .u32 y.2.2.2.2.1, .int .i64 y.2.2.2.2.2.1, .string (bs y.2.2.2.2.2.2.1), .int .u32 y.2.2.2.2.2.2.2.1, .bool y.2.2.2.2.2.2.2.2, .int .i64 0] 48) = V := ⟨_, rfl⟩
                  have b0 : Below w3.heap.size w3 V := by rw [← hV]; exact (Below.refl _ _).alloc (Nat.le_refl _) _
                  have HTYV : Hid (TenG V w3.heap.size y.1 y.2.1 y.2.2.1 y.2.2.2.1 y.2.2.2.2.1 y.2.2.2.2.2.1 (bs y.2.2.2.2.2.2.1) y.2.2.2.2.2.2.2.1 y.2.2.2.2.2.2.2.2 0) := by
                    show TenG V w3.heap.size y.1 y.2.1 y.2.2.1 y.2.2.2.1 y.2.2.2.2.1 y.2.2.2.2.2.1 (bs y.2.2.2.2.2.2.1) y.2.2.2.2.2.2.2.1 y.2.2.2.2.2.2.2.2 0
                    rw [← hV]; exact tenG_new w3 y.1 y.2.1 y.2.2.1 y.2.2.2.1 y.2.2.2.2.1 y.2.2.2.2.2.1 (bs y.2.2.2.2.2.2.1) y.2.2.2.2.2.2.2.1 y.2.2.2.2.2.2.2.2 0
                  have HT1V : Hid (TenG V w2.heap.size x.1 x.2.1 x.2.2.1 x.2.2.2.1 x.2.2.2.2.1 x.2.2.2.2.2.1 (bs x.2.2.2.2.2.2.1) x.2.2.2.2.2.2.2.1 x.2.2.2.2.2.2.2.2 0) := TenG.on HT3.out b0
                  have HT0V : Hid (TenG V w.heap.size 0 0 0 0 0 0 ⟨#[]⟩ 0 false 0) := TenG.on (TenG.on (TenG.on HT2.out HBw.out) HWR3.out) b0
                  have HBV : Hid (Below w2.heap.size w2 V) := (HBw.out.trans (HWR3.out.mono HBw.out.size)).trans (b0.mono (Nat.le_trans HBw.out.size HWR3.out.size))
                  rw [hV]
                  clear t0 t1 t2 t3 t4 t5 t6 t7 t8 t9 p0 p1 p2 p3 p4 p5 p6 p7 p8 p9 cw3 cp3 cw cp
                  cases b with
                  | false =>
                    have HRN : Hid (readL ps = none) := by
                      show readL ps = none
                      rw [HRF.out, HFX.out, HFS.out, HY2.out rfl]; rfl
                    obtain ⟨t0, t1, t2, t3, t4, t5, t6, t7, t8, t9⟩ := HT0V.out.cells
                    have tf := HT0V.out.free
                    go_wp2
                    obtain ⟨V2, hV2, hTV2, hBV2⟩ := HT0V.out.put 0 0 0 0 0 0 ⟨#[]⟩ 0 false 0
                    rw [hV2]
                    have HBV2 : Hid (Below w.heap.size w V2) := (HB2.out.trans (HBV.out.mono HB2.out.size)).trans (hBV2.below (Nat.le_refl _))
                    obtain ⟨t0, t1, t2, t3, t4, t5, t6, t7, t8, t9⟩ := hTV2.cells
                    refine bodyPost_ret (v := .tuple #[itV it0 0, .bool false]) (by simp [results, Tryz.results15, go_sem, itV, it0, *]; rfl) rfl ⟨⟨it0, false, rfl, (fun h => by cases h), fun _ => HRN.out⟩, HBV2.out⟩
                  | true =>
                    obtain ⟨t0, t1, t2, t3, t4, t5, t6, t7, t8, t9⟩ := HTYV.out.cells
                    obtain ⟨p0, p1, p2, p3, p4, p5, p6, p7, p8, p9⟩ := HT1V.out.cells
                    have tf := HT1V.out.free
                    go_wp2
                    go_roundw
                    case rel =>
                      obtain ⟨V2, hV2, hTV2, hBV2⟩ := HT1V.out.put y.1 y.2.1 y.2.2.1 y.2.2.2.1 y.2.2.2.2.1 y.2.2.2.2.2.1 (bs y.2.2.2.2.2.2.1) y.2.2.2.2.2.2.2.1 y.2.2.2.2.2.2.2.2 0
                      rw [hV2]
                      refine ⟨k + 1, y, HLT.out, by go_num, hTV2, HBV.out.trans (hBV2.below (Nat.le_refl _)), ?_⟩
                      show fillsL _ _ _ = _
                      rw [HFX.out, HFS.out, HY1.out rfl]; rfl
                    case measure => have := HLT.out; simp [intOf]; omega
                · obtain ⟨V, hV, hTV, hOV⟩ := HTY.out.put y.1 y.2.1 y.2.2.1 y.2.2.2.1 y.2.2.2.2.1 y.2.2.2.2.2.1 (bs y.2.2.2.2.2.2.1) y.2.2.2.2.2.2.2.1 y.2.2.2.2.2.2.2.2 0
                  have HTYV : Hid (TenG V wr.heap.size y.1 y.2.1 y.2.2.1 y.2.2.2.1 y.2.2.2.2.1 y.2.2.2.2.2.1 (bs y.2.2.2.2.2.2.1) y.2.2.2.2.2.2.2.1 y.2.2.2.2.2.2.2.2 0) := hTV
                  have HT1V : Hid (TenG V w2.heap.size x.1 x.2.1 x.2.2.1 x.2.2.2.1 x.2.2.2.2.1 x.2.2.2.2.2.1 (bs x.2.2.2.2.2.2.1) x.2.2.2.2.2.2.2.1 x.2.2.2.2.2.2.2.2 0) := TenG.only HT3.out hOV n3
                  have HT0V : Hid (TenG V w.heap.size 0 0 0 0 0 0 ⟨#[]⟩ 0 false 0) := TenG.only (TenG.on (TenG.on HT2.out HBw.out) HWR3.out) hOV (by have := HT2.out; have h9 := (Array.getElem?_eq_some_iff.1 HT2.out).1; omega)
                  have HBV : Hid (Below w2.heap.size w2 V) := (HBw.out.trans (HWR3.out.mono HBw.out.size)).trans (hOV.below (by omega))
                  rw [hV]
                  clear t0 t1 t2 t3 t4 t5 t6 t7 t8 t9 p0 p1 p2 p3 p4 p5 p6 p7 p8 p9 cw3 cp3 cw cp
                  cases b with
                  | false =>
                    have HRN : Hid (readL ps = none) := by
                      show readL ps = none
                      rw [HRF.out, HFX.out, HFS.out, HY2.out rfl]; rfl
                    obtain ⟨t0, t1, t2, t3, t4, t5, t6, t7, t8, t9⟩ := HT0V.out.cells
                    have tf := HT0V.out.free
                    go_wp2
                    obtain ⟨V2, hV2, hTV2, hBV2⟩ := HT0V.out.put 0 0 0 0 0 0 ⟨#[]⟩ 0 false 0
                    rw [hV2]
                    have HBV2 : Hid (Below w.heap.size w V2) := (HB2.out.trans (HBV.out.mono HB2.out.size)).trans (hBV2.below (Nat.le_refl _))
                    obtain ⟨t0, t1, t2, t3, t4, t5, t6, t7, t8, t9⟩ := hTV2.cells
                    refine bodyPost_ret (v := .tuple #[itV it0 0, .bool false]) (by simp [results, Tryz.results15, go_sem, itV, it0, *]; rfl) rfl ⟨⟨it0, false, rfl, (fun h => by cases h), fun _ => HRN.out⟩, HBV2.out⟩
                  | true =>
                    obtain ⟨t0, t1, t2, t3, t4, t5, t6, t7, t8, t9⟩ := HTYV.out.cells
                    obtain ⟨p0, p1, p2, p3, p4, p5, p6, p7, p8, p9⟩ := HT1V.out.cells
                    have tf := HT1V.out.free
                    go_wp2
                    go_roundw
                    case rel =>
                      obtain ⟨V2, hV2, hTV2, hBV2⟩ := HT1V.out.put y.1 y.2.1 y.2.2.1 y.2.2.2.1 y.2.2.2.2.1 y.2.2.2.2.2.1 (bs y.2.2.2.2.2.2.1) y.2.2.2.2.2.2.2.1 y.2.2.2.2.2.2.2.2 0
                      rw [hV2]
                      refine ⟨k + 1, y, HLT.out, by go_num, hTV2, HBV.out.trans (hBV2.below (Nat.le_refl _)), ?_⟩
                      show fillsL _ _ _ = _
                      rw [HFX.out, HFS.out, HY1.out rfl]; rfl
                    case measure => have := HLT.out; simp [intOf]; omega
              · obtain rfl : k = (shapeL K).length := by omega
                have HFX2 : Hid (fillsL (itOp K) (shapeL K) (ps.drop 1) = some x) := by
                  show fillsL _ _ _ = _
                  rw [HFX.out, List.drop_length, fillsL_nil]
                have hbd : ImmB x := fillsL_bd (x := itOp K) ⟨(by show (0 : Int) ≤ 0; decide), (by show (0 : Int) < 4294967296; decide)⟩ HFX2.out
                obtain ⟨x0, x1⟩ := hbd
                have HRX : Hid (readL ps = finL K x) := by
                  show readL ps = _
                  rw [HRF.out, HFX2.out]; rfl
                have HT0 : Hid (TenG wr w.heap.size 0 0 0 0 0 0 ⟨#[]⟩ 0 false 0) := TenG.on HT2.out HBw.out
                have HBx : Hid (Below w.heap.size w wr) := HB2.out.trans (HBw.out.mono HB2.out.size)
                have hb01 : w.heap.size < w2.heap.size := (Array.getElem?_eq_some_iff.1 HT2.out).1
                have HL01 : Hid (w.heap.size < w2.heap.size) := hb01
                have HN01 : Hid (w.heap.size ≠ w2.heap.size) := by show w.heap.size ≠ w2.heap.size; omega
                clear hb01 hT hlt hk HFX HFX2 HRF h0' e4 hsl
                by_cases hz : formZ K = 1
                · by_cases hge : 1048576 ≤ x.2.2.2.2.1
                  · have HRN : Hid (readL ps = none) := by
                      show readL ps = none
                      rw [HRX.out]; unfold finL; rw [if_pos hz, if_pos hge]
                    obtain ⟨t0, t1, t2, t3, t4, t5, t6, t7, t8, t9⟩ := HT0.out.cells
                    have tf := HT0.out.free
                    obtain ⟨p0, p1, p2, p3, p4, p5, p6, p7, p8, p9⟩ := HTx.out.cells
                    go_wp2_with (go_at_call 30; refine (rform_any K HP.out _).mono ?_; rw [hz]; rintro e w' ⟨rfl, hw⟩; have hw := hw.symm; subst hw)
                    obtain ⟨V2, hV2, hTV2, hBV2⟩ := HT0.out.put 0 0 0 0 0 0 ⟨#[]⟩ 0 false 0
                    rw [hV2]
                    have HBV2 : Hid (Below w.heap.size w V2) := HBx.out.trans (hBV2.below (Nat.le_refl _))
                    clear t0 t1 t2 t3 t4 t5 t6 t7 t8 t9
                    obtain ⟨t0, t1, t2, t3, t4, t5, t6, t7, t8, t9⟩ := hTV2.cells
                    refine bodyPost_ret (v := .tuple #[itV it0 0, .bool false]) (by simp [results, Tryz.results15, go_sem, itV, it0, *]; rfl) rfl ⟨⟨it0, false, rfl, (fun h => by cases h), fun _ => HRN.out⟩, HBV2.out⟩
                  · have HRS : Hid (readL ps = some (x.1, x.2.1, x.2.2.1, x.2.2.2.1, x.2.2.2.2.1 * 4096, x.2.2.2.2.2)) := by
                      show readL ps = _
                      rw [HRX.out]; unfold finL; rw [if_pos hz, if_neg hge]
                    have hm : IntKind.u32.wrap (x.2.2.2.2.1 * 4096) = x.2.2.2.2.1 * 4096 := by rw [IntKind.wrap_u32]; omega
                    have tf := HT0.out.free
                    obtain ⟨p0, p1, p2, p3, p4, p5, p6, p7, p8, p9⟩ := HTx.out.cells
                    have pf := HTx.out.free
                    obtain ⟨t0, t1, t2, t3, t4, t5, t6, t7, t8, t9⟩ := HT0.out.cells
                    have m1 := HN01.out
                    have m2 := HN01.out.symm
                    go_wp2_with (go_at_call 30; refine (rform_any K HP.out _).mono ?_; rw [hz]; rintro e w' ⟨rfl, hw⟩; have hw := hw.symm; subst hw)
                    have hO4 : OnlyB w2.heap.size wr (wr.setCell ⟨w2.heap.size, 4, none⟩ (.int .u32 (x.2.2.2.2.1 * 4096))) := (OnlyB.refl _ _).set 4 _
                    have HT04 := Lib.hid (TenG.only HT0.out hO4 HN01.out)
                    have HB04 : Hid (Below w.heap.size w (wr.setCell ⟨w2.heap.size, 4, none⟩ (.int .u32 (x.2.2.2.2.1 * 4096)))) := HBx.out.trans (hO4.below (Nat.le_of_lt HL01.out))
                    clear hO4
                    generalize wr.setCell ⟨w2.heap.size, 4, none⟩ (.int .u32 (x.2.2.2.2.1 * 4096)) = W4 at *
                    obtain ⟨V2, hV2, hTV2, hBV2⟩ := HT04.out.put x.1 x.2.1 x.2.2.1 x.2.2.2.1 (x.2.2.2.2.1 * 4096) x.2.2.2.2.2.1 (bs x.2.2.2.2.2.2.1) x.2.2.2.2.2.2.2.1 x.2.2.2.2.2.2.2.2 0
                    rw [hV2]
                    have HBV2 : Hid (Below w.heap.size w V2) := HB04.out.trans (hBV2.below (Nat.le_refl _))
                    clear t0 t1 t2 t3 t4 t5 t6 t7 t8 t9 p0 p1 p2 p3 p4 p5 p6 p7 p8 p9 tf pf
                    obtain ⟨t0, t1, t2, t3, t4, t5, t6, t7, t8, t9⟩ := hTV2.cells
                    refine bodyPost_ret (v := .tuple #[itV (x.1, x.2.1, x.2.2.1, x.2.2.2.1, x.2.2.2.2.1 * 4096, x.2.2.2.2.2) 0, .bool true]) (by simp [results, Tryz.results15, go_sem, itV, *]) rfl ⟨⟨_, true, rfl, fun _ => HRS.out, fun h => by cases h⟩, HBV2.out⟩
                · have HRS : Hid (readL ps = some x) := by
                    show readL ps = _
                    rw [HRX.out]; unfold finL; rw [if_neg hz]
                  have hz' : (formZ K == 1) = false := by simpa using hz
                  have tf := HT0.out.free
                  obtain ⟨p0, p1, p2, p3, p4, p5, p6, p7, p8, p9⟩ := HTx.out.cells
                  obtain ⟨t0, t1, t2, t3, t4, t5, t6, t7, t8, t9⟩ := HT0.out.cells
                  clear hz
                  go_wp2_with (go_at_call 30; refine (rform_any K HP.out _).mono ?_; rintro e w' ⟨rfl, hw⟩; have hw := hw.symm; subst hw)
                  obtain ⟨V2, hV2, hTV2, hBV2⟩ := HT0.out.put x.1 x.2.1 x.2.2.1 x.2.2.2.1 x.2.2.2.2.1 x.2.2.2.2.2.1 (bs x.2.2.2.2.2.2.1) x.2.2.2.2.2.2.2.1 x.2.2.2.2.2.2.2.2 0
                  rw [hV2]
                  have HBV2 : Hid (Below w.heap.size w V2) := HBx.out.trans (hBV2.below (Nat.le_refl _))
                  clear t0 t1 t2 t3 t4 t5 t6 t7 t8 t9 p0 p1 p2 p3 p4 p5 p6 p7 p8 p9 tf
                  obtain ⟨t0, t1, t2, t3, t4, t5, t6, t7, t8, t9⟩ := hTV2.cells
                  refine bodyPost_ret (v := .tuple #[itV x 0, .bool true]) (by simp [results, Tryz.results15, go_sem, itV, *]) rfl ⟨⟨x, true, rfl, fun _ => HRS.out, fun h => by cases h⟩, HBV2.out⟩
          · have e4 : ((ps.length : Int) != ((shapeL K).length : Int) + 1) = true := by simp; omega
            have HRN : Hid (readL ps = none) := by show readL ps = none; rw [HR.out, if_pos (.inr hmm)]
            clear hK0 hmm
            obtain ⟨t0, t1, t2, t3, t4, t5, t6, t7, t8, t9⟩ := HT2.out.cells
            have tf := HT2.out.free
            go_wp2
            obtain ⟨V, hV, hTV, hBV⟩ := HT2.out.put 0 0 0 0 0 0 ⟨#[]⟩ 0 false 0
            rw [hV]
            have HBV : Hid (Below w.heap.size w V) := HB2.out.trans (hBV.below (Nat.le_refl _))
            obtain ⟨t0, t1, t2, t3, t4, t5, t6, t7, t8, t9⟩ := hTV.cells
            refine bodyPost_ret (v := .tuple #[itV it0 0, .bool false]) (by simp [results, Tryz.results15, go_sem, itV, it0, *]; rfl) rfl ⟨⟨it0, false, rfl, (fun h => by cases h), fun _ => HRN.out⟩, HBV.out⟩

theorem rread_any (ps : List (List UInt8)) (v : Value) (w : World) (hn : ps.length ≤ 200000) (hl : ∀ p ∈ ps, p.length ≤ 70000) (h : IsStrs w v ps) (h0 : 0 < ps.length) :
    Calls Tryz.prog 15 #[v] w fun e w' => ReadsAs ps e ∧ Below w.heap.size w w' := by
  by_cases c : ps.length = 2 ∧ ps.getD 0 [] = kWord
  · exact read_word ps v w hl h c.1 c.2
  · exact read_rest ps v w hn hl h h0 c
end Go.Proofs.YthgolbmngjdbeaaGreatDoor

/- Layer 6, the program's own register, csr, upper, layout and take. -/
namespace Go.Proofs.YthgolbmngjdbeaaGreatDoor
open Go.RowKit
set_option linter.unusedVariables false

theorem fold_ge : ∀ (l : List UInt8) (a : Nat), a * 10 ^ l.length ≤ l.foldl (fun a c => a * 10 + (c.toNat - 48)) a
  | [], a => by simp
  | c :: r, a => by
    have ih := fold_ge r (a * 10 + (c.toNat - 48))
    simp only [List.foldl_cons, List.length_cons, Nat.pow_succ]
    refine Nat.le_trans ?_ ih
    have : a * (10 ^ r.length * 10) = (a * 10) * 10 ^ r.length := by rw [Nat.mul_comm (10 ^ r.length), Nat.mul_assoc]
    rw [this]
    exact Nat.mul_le_mul_right _ (by omega)
theorem digN_big (c : UInt8) (r : List UInt8) (hc : c ≠ 48) (hr : 2 ≤ r.length) (h : 0 ≤ digN (c :: r)) : 100 ≤ digN (c :: r) := by
  unfold digN at *
  split at h
  · rename_i g
    rw [if_pos g]
    have ga := g.2.2
    simp only [List.all_cons, Bool.and_eq_true] at ga
    have hd := of_decide_eq_true ga.1
    have hc' : c.toNat ≠ 48 := fun e => hc (byte_is c 48 (by decide) e)
    have e : valL (c :: r) = r.foldl (fun a c => a * 10 + (c.toNat - 48)) (0 * 10 + (c.toNat - 48)) := rfl
    have f := fold_ge r (0 * 10 + (c.toNat - 48))
    rw [← e] at f
    have p : (10 : Nat) ^ 2 ≤ 10 ^ r.length := Nat.pow_le_pow_right (by decide) hr
    have q : 1 * 10 ^ r.length ≤ (0 * 10 + (c.toNat - 48)) * 10 ^ r.length := Nat.mul_le_mul_right _ (by omega)
    omega
  · omega
theorem regN_cons (r : List UInt8) : regN (120 :: r) = if r.length < 1 ∨ 2 < r.length then -1 else if 31 < digN r ∨ (r.length = 2 ∧ r.getD 0 0 = 48) then -1 else digN r := by
  unfold regN
  by_cases h : r.length < 1 ∨ 2 < r.length
  · rw [if_pos h, if_pos (by simp only [List.length_cons]; omega)]
  · rw [if_neg h, if_neg (by simp only [List.length_cons, List.getD_cons_zero]; rintro (a | a | a) <;> first | omega | exact a rfl)]
    have e : (31 < digN (List.drop 1 (120 :: r)) ∨ (120 :: r).length = 3 ∧ (120 :: r).getD 1 0 = 48) ↔ (31 < digN r ∨ (r.length = 2 ∧ r.getD 0 0 = 48)) := by
      simp
    by_cases g : 31 < digN r ∨ (r.length = 2 ∧ r.getD 0 0 = 48)
    · rw [if_pos g, if_pos (e.2 g)]
    · rw [if_neg g, if_neg (fun x => g (e.1 x))]; rfl
theorem regN_other (l : List UInt8) (h : ¬ (0 < l.length ∧ l.getD 0 0 = 120)) : regN l = -1 := by
  unfold regN
  rw [if_pos]
  by_cases g : l.length < 2
  · exact .inl g
  · exact .inr (.inr (fun e => h ⟨by omega, e⟩))
/-- What the program asks, in its own order. -/
theorem regN_steps (r : List UInt8) : regN (120 :: r) = if 1 < r.length ∧ r.getD 0 0 = 48 then -1 else if digN r < 0 ∨ 31 < digN r then -1 else digN r := by
  rw [regN_cons]
  by_cases a : 1 < r.length ∧ r.getD 0 0 = 48
  · rw [if_pos a]
    by_cases b : r.length < 1 ∨ 2 < r.length
    · rw [if_pos b]
    · rw [if_neg b, if_pos (.inr ⟨by omega, a.2⟩)]
  · rw [if_neg a]
    by_cases b : r.length < 1 ∨ 2 < r.length
    · rw [if_pos b]
      rcases b with b | b
      · have : digN r = -1 := by
          unfold digN; rw [if_neg (by rintro ⟨h, _⟩; omega)]
        rw [if_pos (.inl (by omega))]
      · match r, a, b with
        | c :: r', a, b =>
          simp only [List.length_cons, List.getD_cons_zero] at a b
          by_cases g : 0 ≤ digN (c :: r')
          · have := digN_big c r' (fun e => a ⟨by omega, e⟩) (by omega) g
            rw [if_pos (.inr (by omega))]
          · rw [if_pos (.inl (by omega))]
    · rw [if_neg b]
      by_cases d : 31 < digN r
      · rw [if_pos (.inl d), if_pos (.inr d)]
      · rw [if_neg (by rintro (g | ⟨g1, g2⟩); exact d g; exact a ⟨by omega, g2⟩)]
        have := digN_lt r
        by_cases e : digN r < 0
        · rw [if_pos (.inl e)]; omega
        · rw [if_neg (by omega)]

set_option maxHeartbeats 1000000 in
theorem areg_any (l : List UInt8) (w : World) (hl : l.length ≤ 70000) :
    Calls Tryz.prog 67 #[.string (bs l)] w fun e w' => e = .returned (.tuple #[.int .i64 (pos (regN l)), .int .i64 (eN (regN l))]) ∧ w' = w := by
  by_cases h : 0 < l.length ∧ l.getD 0 0 = 120
  · obtain ⟨r, rfl⟩ := one_cons h
    clear h
    have hsz : (bs r).size = r.length := bs_size r
    have hlr : r.length ≤ 70000 := by simp at hl; omega
    have HC : Hid (∀ w, Calls Tryz.prog 77 #[.string (bs (120 :: r)), .string ⟨#[120]⟩] w fun e w' => e = .returned (.tuple #[.string (bs r), .bool true]) ∧ w' = w) := fun w => by
      have h' := cutp_any (120 :: r) [120] w
      rw [(pre1_yes 120 r).1, (pre1_yes 120 r).2] at h'
      exact h'
    have HD : Hid (∀ w, Calls Tryz.prog 89 #[.string (bs r)] w fun e w' => e = .returned (.tuple #[.int .u64 (pos (digN r)), .int .i64 (eN (digN r))]) ∧ w' = w) := fun w => dec_any r w hlr
    have HS : Hid _ := regN_steps r
    have hs0 := sign_form (bs r) 0
    have hC0 := sign_bs r 0
    obtain ⟨c0, c1⟩ := signAt_bd (bs r) 0
    obtain ⟨d1, d0⟩ := digN_lt r
    generalize r.getD 0 0 = c at *
    generalize signAt (bs r) 0 = C at *
    have HCc : Hid (C = (c.toNat : Int)) := hC0
    clear hC0 hl
    generalize regN (120 :: r) = R at *
    by_cases a : 1 < r.length ∧ c = 48
    · obtain ⟨a1, rfl⟩ := a
      have hC : C = 48 := HCc.out
      subst hC
      have HR : Hid (R = -1) := by
        show R = -1
        rw [HS.out, if_pos ⟨a1, rfl⟩]
      go_enter Tryz.func67, Tryz.ntmps67
      go_wp2_with (first | (go_at_call 77; refine (HC.out _).mono ?_; rintro e w' ⟨rfl, hw⟩; have hw := hw.symm; subst hw))
      go_ret2
      rw [HR.out]
      exact ⟨rfl, rfl⟩
    · have HR1 : Hid (R = if digN r < 0 ∨ 31 < digN r then -1 else digN r) := by
        show R = _
        rw [HS.out, if_neg a]
      have hne : 1 < r.length → (C == 48) = false := fun g => by
        rw [beq_eq_false_iff_ne]
        intro e
        have := HCc.out
        exact a ⟨g, byte_is c 48 (by decide) (by omega)⟩
      clear HS a
      generalize digN r = D at *
      by_cases e0 : D < 0
      · have HR : Hid (R = -1) := by
          show R = -1
          rw [HR1.out, if_pos (.inl e0)]
        rw [pos_no e0, eN_no e0] at HD
        by_cases g : 1 < r.length
        · have hn := hne g
          clear hne
          go_enter Tryz.func67, Tryz.ntmps67
          go_wp2_with (first | (go_at_call 77; refine (HC.out _).mono ?_; rintro e w' ⟨rfl, hw⟩; have hw := hw.symm; subst hw) | (go_at_call 89; refine (HD.out _).mono ?_; rintro e w' ⟨rfl, hw⟩; have hw := hw.symm; subst hw))
          go_ret2
          rw [HR.out]
          exact ⟨rfl, rfl⟩
        · clear hne
          go_enter Tryz.func67, Tryz.ntmps67
          go_wp2_with (first | (go_at_call 77; refine (HC.out _).mono ?_; rintro e w' ⟨rfl, hw⟩; have hw := hw.symm; subst hw) | (go_at_call 89; refine (HD.out _).mono ?_; rintro e w' ⟨rfl, hw⟩; have hw := hw.symm; subst hw))
          go_ret2
          rw [HR.out]
          exact ⟨rfl, rfl⟩
      · have e0' : 0 ≤ D := by omega
        rw [pos_yes e0', eN_yes e0'] at HD
        by_cases e1 : 31 < D
        · have HR : Hid (R = -1) := by
            show R = -1
            rw [HR1.out, if_pos (.inr e1)]
          by_cases g : 1 < r.length
          · have hn := hne g
            clear hne
            go_enter Tryz.func67, Tryz.ntmps67
            go_wp2_with (first | (go_at_call 77; refine (HC.out _).mono ?_; rintro e w' ⟨rfl, hw⟩; have hw := hw.symm; subst hw) | (go_at_call 89; refine (HD.out _).mono ?_; rintro e w' ⟨rfl, hw⟩; have hw := hw.symm; subst hw))
            go_ret2
            rw [HR.out]
            exact ⟨rfl, rfl⟩
          · clear hne
            go_enter Tryz.func67, Tryz.ntmps67
            go_wp2_with (first | (go_at_call 77; refine (HC.out _).mono ?_; rintro e w' ⟨rfl, hw⟩; have hw := hw.symm; subst hw) | (go_at_call 89; refine (HD.out _).mono ?_; rintro e w' ⟨rfl, hw⟩; have hw := hw.symm; subst hw))
            go_ret2
            rw [HR.out]
            exact ⟨rfl, rfl⟩
        · have HR : Hid (R = D) := by
            show R = D
            rw [HR1.out, if_neg (by omega)]
          by_cases g : 1 < r.length
          · have hn := hne g
            clear hne
            go_enter Tryz.func67, Tryz.ntmps67
            go_wp2_with (first | (go_at_call 77; refine (HC.out _).mono ?_; rintro e w' ⟨rfl, hw⟩; have hw := hw.symm; subst hw) | (go_at_call 89; refine (HD.out _).mono ?_; rintro e w' ⟨rfl, hw⟩; have hw := hw.symm; subst hw))
            go_ret2
            rw [HR.out, pos_yes e0', eN_yes e0']
            exact ⟨rfl, rfl⟩
          · clear hne
            go_enter Tryz.func67, Tryz.ntmps67
            go_wp2_with (first | (go_at_call 77; refine (HC.out _).mono ?_; rintro e w' ⟨rfl, hw⟩; have hw := hw.symm; subst hw) | (go_at_call 89; refine (HD.out _).mono ?_; rintro e w' ⟨rfl, hw⟩; have hw := hw.symm; subst hw))
            go_ret2
            rw [HR.out, pos_yes e0', eN_yes e0']
            exact ⟨rfl, rfl⟩
  · have HC : Hid (∀ w, Calls Tryz.prog 77 #[.string (bs l), .string ⟨#[120]⟩] w fun e w' => e = .returned (.tuple #[.string (bs l), .bool false]) ∧ w' = w) := fun w => by
      have h' := cutp_any l [120] w
      rw [(pre1_no 120 l h).1, (pre1_no 120 l h).2] at h'
      exact h'
    have HR : Hid (regN l = -1) := regN_other l h
    clear h hl
    go_enter Tryz.func67, Tryz.ntmps67
    go_wp2_with (first | (go_at_call 77; refine (HC.out _).mono ?_; rintro e w' ⟨rfl, hw⟩; have hw := hw.symm; subst hw))
    go_ret2
    rw [HR.out]
    exact ⟨rfl, rfl⟩

set_option maxHeartbeats 400000 in
theorem acsr_any (l : List UInt8) (w : World) (hl : l.length ≤ 70000) :
    Calls Tryz.prog 68 #[.string (bs l)] w fun e w' => e = .returned (.tuple #[.int .i64 ((numW l).getD 0), .int .i64 (eO (numW l))]) ∧ w' = w := by
  have HN : Hid (∀ w, Calls Tryz.prog 52 #[.string (bs l)] w fun e w' => e = .returned (.tuple #[.int .u32 ((numW l).getD 0), .int .i64 (eO (numW l))]) ∧ w' = w) := fun w => num6_any l w hl
  obtain ⟨b0, b1⟩ := numW_bd l
  generalize (numW l).getD 0 = N at *
  generalize eO (numW l) = E at *
  clear hl
  go_enter Tryz.func68, Tryz.ntmps68
  go_wp2_with (first | (go_at_call 52; refine (HN.out _).mono ?_; rintro e w' ⟨rfl, hw⟩; have hw := hw.symm; subst hw))
  go_ret2
  exact ⟨rfl, rfl⟩

/-- FormU's number. -/
def upW (l : List UInt8) : Option Int := (numW l).bind fun n => if 1048576 ≤ n then none else some (n * 4096)
theorem eO_none : eO none = 1 := rfl
theorem eO_some (n : Int) : eO (some n) = 0 := rfl

set_option maxHeartbeats 400000 in
theorem aup_any (l : List UInt8) (w : World) (hl : l.length ≤ 70000) :
    Calls Tryz.prog 69 #[.string (bs l)] w fun e w' => e = .returned (.tuple #[.int .u32 ((upW l).getD 0), .int .i64 (eO (upW l))]) ∧ w' = w := by
  have HN : Hid (∀ w, Calls Tryz.prog 52 #[.string (bs l)] w fun e w' => e = .returned (.tuple #[.int .u32 ((numW l).getD 0), .int .i64 (eO (numW l))]) ∧ w' = w) := fun w => num6_any l w hl
  obtain ⟨b0, b1⟩ := numW_bd l
  have HU : Hid (upW l = (numW l).bind fun n => if 1048576 ≤ n then none else some (n * 4096)) := rfl
  generalize upW l = U at *
  clear hl
  cases hn : numW l with
  | none =>
    rw [hn] at HN HU
    have HU2 : Hid (U = none) := HU.out
    clear HU b0 b1
    simp only [Option.getD_none, eO_none] at HN
    go_enter Tryz.func69, Tryz.ntmps69
    go_wp2_with (first | (go_at_call 52; refine (HN.out _).mono ?_; rintro e w' ⟨rfl, hw⟩; have hw := hw.symm; subst hw))
    go_ret2
    rw [HU2.out]
    exact ⟨rfl, rfl⟩
  | some N =>
    rw [hn] at HN HU b0 b1
    simp only [Option.getD_some, eO_some] at HN b0 b1
    by_cases g : 1048576 ≤ N
    · have HU2 : Hid (U = none) := by
        show U = none
        rw [HU.out]; simp [g]
      clear HU
      go_enter Tryz.func69, Tryz.ntmps69
      go_wp2_with (first | (go_at_call 52; refine (HN.out _).mono ?_; rintro e w' ⟨rfl, hw⟩; have hw := hw.symm; subst hw))
      go_ret2
      rw [HU2.out]
      exact ⟨rfl, rfl⟩
    · have HU2 : Hid (U = some (N * 4096)) := by
        show U = _
        rw [HU.out]; simp [g]
      clear HU
      go_enter Tryz.func69, Tryz.ntmps69
      go_wp2_with (first | (go_at_call 52; refine (HN.out _).mono ?_; rintro e w' ⟨rfl, hw⟩; have hw := hw.symm; subst hw))
      go_ret2
      rw [HU2.out]
      refine ⟨ret_two ?_ rfl, rfl⟩
      simp
      try omega
end Go.Proofs.YthgolbmngjdbeaaGreatDoor

/- Layer 6, the program's own layout and what strings.Fields makes of it; take. -/
namespace Go.Proofs.YthgolbmngjdbeaaGreatDoor
open Go.RowKit
set_option linter.unusedVariables false
set_option linter.unusedSimpArgs false

def kUp : List UInt8 := [117, 112, 112, 101, 114]
def kPl : List UInt8 := [112, 108, 97, 99, 101]
def kIm : List UInt8 := [105, 109, 109]
/-- Does it add up to an address? -/
def addrB (k : Nat) : Bool := decide (k = 4 ∨ 0 < loadsZ k)
/-- What stands behind a name: as the program tells it, and piece by piece. -/
def layS (k : Nat) : List UInt8 :=
  if formZ k = 1 then [114, 100, 32, 44, 32, 117, 112, 112, 101, 114]
  else if formZ k = 2 then [114, 100, 32, 44, 32, 112, 108, 97, 99, 101]
  else if formZ k = 3 then (if addrB k = true then [114, 100, 32, 44, 32, 105, 109, 109, 32, 40, 32, 114, 115, 49, 32, 41] else [114, 100, 32, 44, 32, 114, 115, 49, 32, 44, 32, 105, 109, 109])
  else if formZ k = 4 then [114, 115, 49, 32, 44, 32, 114, 115, 50, 32, 44, 32, 112, 108, 97, 99, 101]
  else if formZ k = 5 then [114, 115, 50, 32, 44, 32, 105, 109, 109, 32, 40, 32, 114, 115, 49, 32, 41]
  else if formZ k = 6 then [114, 100, 32, 44, 32, 114, 115, 49, 32, 44, 32, 114, 115, 50]
  else if formZ k = 7 then [114, 100, 32, 44, 32, 114, 115, 49, 32, 44, 32, 105, 109, 109]
  else if formZ k = 8 then [114, 100, 32, 44, 32, 99, 115, 114, 32, 44, 32, 114, 115, 49]
  else if formZ k = 9 then [114, 100, 32, 44, 32, 99, 115, 114, 32, 44, 32, 105, 109, 109]
  else []
def gshape (k : Nat) : List (List UInt8) :=
  if formZ k = 1 then [kRd, [44], kUp]
  else if formZ k = 2 then [kRd, [44], kPl]
  else if formZ k = 3 then (if addrB k = true then [kRd, [44], kIm, [40], kRs1, [41]] else [kRd, [44], kRs1, [44], kIm])
  else if formZ k = 4 then [kRs1, [44], kRs2, [44], kPl]
  else if formZ k = 5 then [kRs2, [44], kIm, [40], kRs1, [41]]
  else if formZ k = 6 then [kRd, [44], kRs1, [44], kRs2]
  else if formZ k = 7 then [kRd, [44], kRs1, [44], kIm]
  else if formZ k = 8 then [kRd, [44], kCsr, [44], kRs1]
  else if formZ k = 9 then [kRd, [44], kCsr, [44], kIm]
  else []
theorem fields_lay : ∀ k, k < 58 → Lib.fields (layS k) = gshape k := by decide +kernel
theorem lay_len : ∀ k, k < 58 → (layS k).length ≤ 20 := by decide +kernel
theorem gshape_len : ∀ k, k < 58 → (gshape k).length ≤ 6 := by decide +kernel
theorem lay_ascii : ∀ k, k < 58 → (layS k).all (fun b => decide (b.toNat < 128)) = true := by decide +kernel

set_option maxHeartbeats 400000 in
theorem ahasAddr_any (k : Nat) (w : World) (hk : k < 58) :
    Calls Tryz.prog 66 #[.int .i64 k] w fun e w' => e = .returned (.bool (addrB k)) ∧ w' = w := by
  have HL : Hid (∀ w, Calls Tryz.prog 88 #[.int .i64 k] w fun e w' => e = .returned (.int .i64 (loadsZ k)) ∧ w' = w) := fun w => loads_any k w
  have HA : Hid (addrB k = decide (k = 4 ∨ 0 < loadsZ k)) := rfl
  by_cases h4 : k = 4
  · subst h4
    go_enter Tryz.func66, Tryz.ntmps66
    go_wp2_with (first | (go_at_call 88; refine (HL.out _).mono ?_; rintro e w' ⟨rfl, hw⟩; have hw := hw.symm; subst hw))
    go_ret
    exact ⟨rfl, rfl⟩
  · have e4 : ((k : Int) == 4) = false := by simp; omega
    have HK : Hid (k ≠ 4) := h4
    clear h4
    by_cases hp : 0 < loadsZ k
    · generalize loadsZ k = L at *
      go_enter Tryz.func66, Tryz.ntmps66
      go_wp2_with (first | (go_at_call 88; refine (HL.out _).mono ?_; rintro e w' ⟨rfl, hw⟩; have hw := hw.symm; subst hw))
      go_ret
      refine ⟨ret_bool ?_, rfl⟩
      rw [HA.out]; first | exact decide_eq_true (.inr hp) | simp [HK.out, hp]
    · generalize loadsZ k = L at *
      go_enter Tryz.func66, Tryz.ntmps66
      go_wp2_with (first | (go_at_call 88; refine (HL.out _).mono ?_; rintro e w' ⟨rfl, hw⟩; have hw := hw.symm; subst hw))
      go_ret
      refine ⟨ret_bool ?_, rfl⟩
      rw [HA.out]; first | exact decide_eq_false (fun g => g.elim HK.out hp) | simp [HK.out, hp]

set_option maxHeartbeats 1000000 in
theorem layout_any (k : Nat) (w : World) (hk : k < 58) (ht : FormTab w) :
    Calls Tryz.prog 39 #[.int .i64 k] w fun e w' => e = .returned (.string (bs (layS k))) ∧ w' = w := by
  have HF : Hid (Calls Tryz.prog 41 #[.int .i64 k] w fun e w' => e = .returned (.tuple #[.int .i64 (formZ k), .int .i64 0]) ∧ w' = w) := form_yes k hk w ht
  have HA : Hid (∀ w, Calls Tryz.prog 66 #[.int .i64 k] w fun e w' => e = .returned (.bool (addrB k)) ∧ w' = w) := fun w => ahasAddr_any k w hk
  have hz : formZ k = 0 ∨ formZ k = 1 ∨ formZ k = 2 ∨ formZ k = 3 ∨ formZ k = 4 ∨ formZ k = 5 ∨ formZ k = 6 ∨ formZ k = 7 ∨ formZ k = 8 ∨ formZ k = 9 := by
    have := formZ_lt k hk; omega
  clear ht
  rcases hz with hz | hz | hz | hz | hz | hz | hz | hz | hz | hz
  · have HS : Hid (layS k = []) := by show layS k = _; unfold layS; rw [hz]; rfl
    rw [hz] at HF
    go_enter Tryz.func39, Tryz.ntmps39
    go_wp2_with (first | (go_at_call 41; refine HF.out.mono ?_; rintro e w' ⟨rfl, hw⟩; have hw := hw.symm; subst hw))
    go_ret
    rw [HS.out]
    exact ⟨rfl, rfl⟩
  · have HS : Hid (layS k = [114, 100, 32, 44, 32, 117, 112, 112, 101, 114]) := by show layS k = _; unfold layS; rw [hz]; rfl
    rw [hz] at HF
    go_enter Tryz.func39, Tryz.ntmps39
    go_wp2_with (first | (go_at_call 41; refine HF.out.mono ?_; rintro e w' ⟨rfl, hw⟩; have hw := hw.symm; subst hw))
    go_ret
    rw [HS.out]
    exact ⟨rfl, rfl⟩
  · have HS : Hid (layS k = [114, 100, 32, 44, 32, 112, 108, 97, 99, 101]) := by show layS k = _; unfold layS; rw [hz]; rfl
    rw [hz] at HF
    go_enter Tryz.func39, Tryz.ntmps39
    go_wp2_with (first | (go_at_call 41; refine HF.out.mono ?_; rintro e w' ⟨rfl, hw⟩; have hw := hw.symm; subst hw))
    go_ret
    rw [HS.out]
    exact ⟨rfl, rfl⟩
  · rw [hz] at HF
    cases ha : addrB k
    · have HS : Hid (layS k = [114, 100, 32, 44, 32, 114, 115, 49, 32, 44, 32, 105, 109, 109]) := by show layS k = _; unfold layS; rw [hz, ha]; rfl
      rw [ha] at HA
      go_enter Tryz.func39, Tryz.ntmps39
      go_wp2_with (first | (go_at_call 41; refine HF.out.mono ?_; rintro e w' ⟨rfl, hw⟩; have hw := hw.symm; subst hw) | (go_at_call 66; refine (HA.out _).mono ?_; rintro e w' ⟨rfl, hw⟩; have hw := hw.symm; subst hw))
      go_ret
      rw [HS.out]
      exact ⟨rfl, rfl⟩
    · have HS : Hid (layS k = [114, 100, 32, 44, 32, 105, 109, 109, 32, 40, 32, 114, 115, 49, 32, 41]) := by show layS k = _; unfold layS; rw [hz, ha]; rfl
      rw [ha] at HA
      go_enter Tryz.func39, Tryz.ntmps39
      go_wp2_with (first | (go_at_call 41; refine HF.out.mono ?_; rintro e w' ⟨rfl, hw⟩; have hw := hw.symm; subst hw) | (go_at_call 66; refine (HA.out _).mono ?_; rintro e w' ⟨rfl, hw⟩; have hw := hw.symm; subst hw))
      go_ret
      rw [HS.out]
      exact ⟨rfl, rfl⟩
  · have HS : Hid (layS k = [114, 115, 49, 32, 44, 32, 114, 115, 50, 32, 44, 32, 112, 108, 97, 99, 101]) := by show layS k = _; unfold layS; rw [hz]; rfl
    rw [hz] at HF
    go_enter Tryz.func39, Tryz.ntmps39
    go_wp2_with (first | (go_at_call 41; refine HF.out.mono ?_; rintro e w' ⟨rfl, hw⟩; have hw := hw.symm; subst hw))
    go_ret
    rw [HS.out]
    exact ⟨rfl, rfl⟩
  · have HS : Hid (layS k = [114, 115, 50, 32, 44, 32, 105, 109, 109, 32, 40, 32, 114, 115, 49, 32, 41]) := by show layS k = _; unfold layS; rw [hz]; rfl
    rw [hz] at HF
    go_enter Tryz.func39, Tryz.ntmps39
    go_wp2_with (first | (go_at_call 41; refine HF.out.mono ?_; rintro e w' ⟨rfl, hw⟩; have hw := hw.symm; subst hw))
    go_ret
    rw [HS.out]
    exact ⟨rfl, rfl⟩
  · have HS : Hid (layS k = [114, 100, 32, 44, 32, 114, 115, 49, 32, 44, 32, 114, 115, 50]) := by show layS k = _; unfold layS; rw [hz]; rfl
    rw [hz] at HF
    go_enter Tryz.func39, Tryz.ntmps39
    go_wp2_with (first | (go_at_call 41; refine HF.out.mono ?_; rintro e w' ⟨rfl, hw⟩; have hw := hw.symm; subst hw))
    go_ret
    rw [HS.out]
    exact ⟨rfl, rfl⟩
  · have HS : Hid (layS k = [114, 100, 32, 44, 32, 114, 115, 49, 32, 44, 32, 105, 109, 109]) := by show layS k = _; unfold layS; rw [hz]; rfl
    rw [hz] at HF
    go_enter Tryz.func39, Tryz.ntmps39
    go_wp2_with (first | (go_at_call 41; refine HF.out.mono ?_; rintro e w' ⟨rfl, hw⟩; have hw := hw.symm; subst hw))
    go_ret
    rw [HS.out]
    exact ⟨rfl, rfl⟩
  · have HS : Hid (layS k = [114, 100, 32, 44, 32, 99, 115, 114, 32, 44, 32, 114, 115, 49]) := by show layS k = _; unfold layS; rw [hz]; rfl
    rw [hz] at HF
    go_enter Tryz.func39, Tryz.ntmps39
    go_wp2_with (first | (go_at_call 41; refine HF.out.mono ?_; rintro e w' ⟨rfl, hw⟩; have hw := hw.symm; subst hw))
    go_ret
    rw [HS.out]
    exact ⟨rfl, rfl⟩
  · have HS : Hid (layS k = [114, 100, 32, 44, 32, 99, 115, 114, 32, 44, 32, 105, 109, 109]) := by show layS k = _; unfold layS; rw [hz]; rfl
    rw [hz] at HF
    go_enter Tryz.func39, Tryz.ntmps39
    go_wp2_with (first | (go_at_call 41; refine HF.out.mono ?_; rintro e w' ⟨rfl, hw⟩; have hw := hw.symm; subst hw))
    go_ret
    rw [HS.out]
    exact ⟨rfl, rfl⟩

theorem fields_any (k : Nat) (w : World) (hk : k < 58) (hS : SpTab w) :
    Calls Tryz.prog 38 #[.string (bs (layS k))] w fun e w' => ∃ v, e = .returned v ∧ IsStrs w' v (gshape k) ∧ (∀ g o n c, v = .slice (some ⟨g, o, none⟩) n c → w.heap.size ≤ g) ∧ Below w.heap.size w w' := by
  have hl := lay_len k hk
  refine (Any.strings_Fields lays157 (by kernel_rfl) (by kernel_rfl) (bs (layS k)) w (by rw [bs_size]; omega) (fun j b hb => ?_) hS).mono ?_
  · have hm : b ∈ layS k := List.mem_of_getElem? hb
    have := List.all_eq_true.1 (lay_ascii k hk) b hm
    exact of_decide_eq_true this
  · rintro e w' ⟨rfl, rfl⟩
    have hd : (bs (layS k)).data.toList = layS k := by simp [bs]
    rw [hd, fields_lay k hk]
    refine ⟨_, rfl, ?_, (fun g o n c e => by simp at e; omega), (Below.refl _ _).alloc (Nat.le_refl _) _⟩
    by_cases hne : gshape k = []
    · rw [hne]; exact ⟨_, _, rfl, .inl rfl⟩
    · exact isStrs_new w (gshape k) _ hne

/-! take -/

/-- A statement in a block of its own. -/
def StB (V : World) (B : Nat) (kd ln pl : Int) (x : It) : Prop := V.heap[B]? = some (.cells #[.int .i64 kd, .int .i64 ln, .int .u32 pl, .int .i64 x.1, .int .i64 x.2.1, .int .i64 x.2.2.1, .int .i64 x.2.2.2.1, .int .u32 x.2.2.2.2.1, .int .i64 x.2.2.2.2.2.1, .string (bs x.2.2.2.2.2.2.1)] 55)
theorem StB.cells {V : World} {B : Nat} {kd ln pl : Int} {x : It} (h : StB V B kd ln pl x) : V.cell? ⟨B, 0, none⟩ = some (.int .i64 kd) ∧ V.cell? ⟨B, 1, none⟩ = some (.int .i64 ln) ∧ V.cell? ⟨B, 2, none⟩ = some (.int .u32 pl) ∧ V.cell? ⟨B, 3, none⟩ = some (.int .i64 x.1) ∧ V.cell? ⟨B, 4, none⟩ = some (.int .i64 x.2.1) ∧ V.cell? ⟨B, 5, none⟩ = some (.int .i64 x.2.2.1) ∧ V.cell? ⟨B, 6, none⟩ = some (.int .i64 x.2.2.2.1) ∧ V.cell? ⟨B, 7, none⟩ = some (.int .u32 x.2.2.2.2.1) ∧ V.cell? ⟨B, 8, none⟩ = some (.int .i64 x.2.2.2.2.2.1) ∧ V.cell? ⟨B, 9, none⟩ = some (.string (bs x.2.2.2.2.2.2.1)) := by
  unfold StB at h
  refine ⟨?_, ?_, ?_, ?_, ?_, ?_, ?_, ?_, ?_, ?_⟩ <;> simp [World.cell?, h]
theorem StB.free {V : World} {B : Nat} {kd ln pl : Int} {x : It} (h : StB V B kd ln pl x) : ∀ j, V.frozen? ⟨B, j, none⟩ = false := by
  unfold StB at h
  intro j
  simp [World.frozen?, h]
theorem StB.on {V W : World} {B : Nat} {kd ln pl : Int} {x : It} (h : StB V B kd ln pl x) (hb : Below V.heap.size V W) : StB W B kd ln pl x := by
  unfold StB at *
  rw [hb.block B (Array.getElem?_eq_some_iff.1 h).1]; exact h
theorem StB.only {V W : World} {B C : Nat} {kd ln pl : Int} {x : It} (h : StB V B kd ln pl x) (ho : OnlyB C V W) (hne : B ≠ C) : StB W B kd ln pl x := by
  unfold StB at *
  rw [ho.2.2.2.2 B hne]; exact h

/-- A piece taken, or none. -/
def takeL (x : It) (what s : List UInt8) : Option It :=
  if what = kRd then (if 0 ≤ regN s then some (x.1, regN s, x.2.2) else none)
  else if what = kRs1 then (if 0 ≤ regN s then some (x.1, x.2.1, regN s, x.2.2.2) else none)
  else if what = kRs2 then (if 0 ≤ regN s then some (x.1, x.2.1, x.2.2.1, regN s, x.2.2.2.2) else none)
  else if what = kCsr then (numW s).map fun n => (x.1, x.2.1, x.2.2.1, x.2.2.2.1, x.2.2.2.2.1, n, x.2.2.2.2.2.2)
  else if what = kUp then (upW s).map fun n => (x.1, x.2.1, x.2.2.1, x.2.2.2.1, n, x.2.2.2.2.2)
  else if what = kPl then (if nameB s = true then some (x.1, x.2.1, x.2.2.1, x.2.2.2.1, x.2.2.2.2.1, x.2.2.2.2.2.1, s, x.2.2.2.2.2.2.2) else (numW s).map fun n => (x.1, x.2.1, x.2.2.1, x.2.2.2.1, n, x.2.2.2.2.2))
  else if what = kIm then (numW s).map fun n => (x.1, x.2.1, x.2.2.1, x.2.2.2.1, n, x.2.2.2.2.2)
  else if s = what then some x else none

/-- What a call of take comes to. -/
def TookAs (o : Option It) (B : Nat) (kd ln pl : Int) (w : World) (e : Ending) (w' : World) : Prop :=
  ∃ y, e = .returned (.bool o.isSome) ∧ StB w' B kd ln pl y ∧ (∀ z, o = some z → y = z) ∧ OnlyB B w w'
theorem eN_beq (n : Int) : (eN n == 0) = decide (0 ≤ n) := by
  unfold eN
  split
  · rename_i h; simp [h]
  · rename_i h; simp [h]
theorem eO_beq (o : Option Int) : (eO o == 0) = o.isSome := by cases o <;> rfl

set_option maxHeartbeats 1000000 in
theorem take_rd (s : List UInt8) (B : Nat) (kd ln pl : Int) (x : It) (w : World) (hs : s.length ≤ 70000) (h : StB w B kd ln pl x) :
    Calls Tryz.prog 40 #[.pointer (some ⟨B, 0, none⟩), .string (bs kRd), .string (bs s)] w (TookAs (takeL x kRd s) B kd ln pl w) := by
  have HR : Hid (∀ w, Calls Tryz.prog 67 #[.string (bs s)] w fun e w' => e = .returned (.tuple #[.int .i64 (pos (regN s)), .int .i64 (eN (regN s))]) ∧ w' = w) := fun w => areg_any s w hs
  have HE : Hid ((takeL x kRd s) = if 0 ≤ regN s then some (x.1, regN s, x.2.2) else none) := by
    show takeL x kRd s = _
    unfold takeL; rw [if_pos rfl]
  generalize takeL x kRd s = O at *
  have HX : Hid (StB (w.setCell ⟨B, 4, none⟩ (.int .i64 (pos (regN s)))) B kd ln pl (x.1, pos (regN s), x.2.2)) := by
    show StB _ _ _ _ _ _
    unfold StB at *
    rw [row_step h]
    rfl
  have HO : Hid (OnlyB B w (w.setCell ⟨B, 4, none⟩ (.int .i64 (pos (regN s))))) := (OnlyB.refl B w).set 4 _
  have HQ : Hid ((eN (regN s) == 0) = decide (0 ≤ regN s)) := eN_beq _
  have HP : Hid (0 ≤ regN s → pos (regN s) = regN s) := pos_yes
  obtain ⟨c0, c1, c2, c3, c4, c5, c6, c7, c8, c9⟩ := h.cells
  have fr := h.free
  have f3 := fr 3
  have f4 := fr 4
  have f5 := fr 5
  have f6 := fr 6
  have f7 := fr 7
  have f8 := fr 8
  have f9 := fr 9
  clear fr
  clear h hs
  generalize pos (regN s) = P at *
  generalize eN (regN s) = E at *
  generalize regN s = R at *
  have ek : bs kRd = ⟨#[114, 100]⟩ := rfl
  rw [ek]
  go_enter Tryz.func40, Tryz.ntmps40
  go_wp2_with (first | (go_at_call 67; refine (HR.out _).mono ?_; rintro e w' ⟨rfl, hw⟩; have hw := hw.symm; subst hw))
  go_ret
  refine ⟨_, ?_, HX.out, ?_, HO.out⟩
  · refine ret_bool ?_
    rw [HQ.out, HE.out]
    split <;> simp [*]
  · intro z hz
    rw [HE.out] at hz
    split at hz
    · rename_i g
      rw [HP.out g]; exact Option.some.inj hz
    · cases hz

set_option maxHeartbeats 1000000 in
theorem take_rs1 (s : List UInt8) (B : Nat) (kd ln pl : Int) (x : It) (w : World) (hs : s.length ≤ 70000) (h : StB w B kd ln pl x) :
    Calls Tryz.prog 40 #[.pointer (some ⟨B, 0, none⟩), .string (bs kRs1), .string (bs s)] w (TookAs (takeL x kRs1 s) B kd ln pl w) := by
  have HR : Hid (∀ w, Calls Tryz.prog 67 #[.string (bs s)] w fun e w' => e = .returned (.tuple #[.int .i64 (pos (regN s)), .int .i64 (eN (regN s))]) ∧ w' = w) := fun w => areg_any s w hs
  have HE : Hid ((takeL x kRs1 s) = if 0 ≤ regN s then some (x.1, x.2.1, regN s, x.2.2.2) else none) := by
    show takeL x kRs1 s = _
    unfold takeL; rw [if_neg (by decide)]; rw [if_pos rfl]
  generalize takeL x kRs1 s = O at *
  have HX : Hid (StB (w.setCell ⟨B, 5, none⟩ (.int .i64 (pos (regN s)))) B kd ln pl (x.1, x.2.1, pos (regN s), x.2.2.2)) := by
    show StB _ _ _ _ _ _
    unfold StB at *
    rw [row_step h]
    rfl
  have HO : Hid (OnlyB B w (w.setCell ⟨B, 5, none⟩ (.int .i64 (pos (regN s))))) := (OnlyB.refl B w).set 5 _
  have HQ : Hid ((eN (regN s) == 0) = decide (0 ≤ regN s)) := eN_beq _
  have HP : Hid (0 ≤ regN s → pos (regN s) = regN s) := pos_yes
  obtain ⟨c0, c1, c2, c3, c4, c5, c6, c7, c8, c9⟩ := h.cells
  have fr := h.free
  have f3 := fr 3
  have f4 := fr 4
  have f5 := fr 5
  have f6 := fr 6
  have f7 := fr 7
  have f8 := fr 8
  have f9 := fr 9
  clear fr
  clear h hs
  generalize pos (regN s) = P at *
  generalize eN (regN s) = E at *
  generalize regN s = R at *
  have ek : bs kRs1 = ⟨#[114, 115, 49]⟩ := rfl
  rw [ek]
  go_enter Tryz.func40, Tryz.ntmps40
  go_wp2_with (first | (go_at_call 67; refine (HR.out _).mono ?_; rintro e w' ⟨rfl, hw⟩; have hw := hw.symm; subst hw))
  go_ret
  refine ⟨_, ?_, HX.out, ?_, HO.out⟩
  · refine ret_bool ?_
    rw [HQ.out, HE.out]
    split <;> simp [*]
  · intro z hz
    rw [HE.out] at hz
    split at hz
    · rename_i g
      rw [HP.out g]; exact Option.some.inj hz
    · cases hz

set_option maxHeartbeats 1000000 in
theorem take_rs2 (s : List UInt8) (B : Nat) (kd ln pl : Int) (x : It) (w : World) (hs : s.length ≤ 70000) (h : StB w B kd ln pl x) :
    Calls Tryz.prog 40 #[.pointer (some ⟨B, 0, none⟩), .string (bs kRs2), .string (bs s)] w (TookAs (takeL x kRs2 s) B kd ln pl w) := by
  have HR : Hid (∀ w, Calls Tryz.prog 67 #[.string (bs s)] w fun e w' => e = .returned (.tuple #[.int .i64 (pos (regN s)), .int .i64 (eN (regN s))]) ∧ w' = w) := fun w => areg_any s w hs
  have HE : Hid ((takeL x kRs2 s) = if 0 ≤ regN s then some (x.1, x.2.1, x.2.2.1, regN s, x.2.2.2.2) else none) := by
    show takeL x kRs2 s = _
    unfold takeL; rw [if_neg (by decide)]; rw [if_neg (by decide)]; rw [if_pos rfl]
  generalize takeL x kRs2 s = O at *
  have HX : Hid (StB (w.setCell ⟨B, 6, none⟩ (.int .i64 (pos (regN s)))) B kd ln pl (x.1, x.2.1, x.2.2.1, pos (regN s), x.2.2.2.2)) := by
    show StB _ _ _ _ _ _
    unfold StB at *
    rw [row_step h]
    rfl
  have HO : Hid (OnlyB B w (w.setCell ⟨B, 6, none⟩ (.int .i64 (pos (regN s))))) := (OnlyB.refl B w).set 6 _
  have HQ : Hid ((eN (regN s) == 0) = decide (0 ≤ regN s)) := eN_beq _
  have HP : Hid (0 ≤ regN s → pos (regN s) = regN s) := pos_yes
  obtain ⟨c0, c1, c2, c3, c4, c5, c6, c7, c8, c9⟩ := h.cells
  have fr := h.free
  have f3 := fr 3
  have f4 := fr 4
  have f5 := fr 5
  have f6 := fr 6
  have f7 := fr 7
  have f8 := fr 8
  have f9 := fr 9
  clear fr
  clear h hs
  generalize pos (regN s) = P at *
  generalize eN (regN s) = E at *
  generalize regN s = R at *
  have ek : bs kRs2 = ⟨#[114, 115, 50]⟩ := rfl
  rw [ek]
  go_enter Tryz.func40, Tryz.ntmps40
  go_wp2_with (first | (go_at_call 67; refine (HR.out _).mono ?_; rintro e w' ⟨rfl, hw⟩; have hw := hw.symm; subst hw))
  go_ret
  refine ⟨_, ?_, HX.out, ?_, HO.out⟩
  · refine ret_bool ?_
    rw [HQ.out, HE.out]
    split <;> simp [*]
  · intro z hz
    rw [HE.out] at hz
    split at hz
    · rename_i g
      rw [HP.out g]; exact Option.some.inj hz
    · cases hz

set_option maxHeartbeats 1000000 in
theorem take_csr (s : List UInt8) (B : Nat) (kd ln pl : Int) (x : It) (w : World) (hs : s.length ≤ 70000) (h : StB w B kd ln pl x) :
    Calls Tryz.prog 40 #[.pointer (some ⟨B, 0, none⟩), .string (bs kCsr), .string (bs s)] w (TookAs (takeL x kCsr s) B kd ln pl w) := by
  have HR : Hid (∀ w, Calls Tryz.prog 68 #[.string (bs s)] w fun e w' => e = .returned (.tuple #[.int .i64 ((numW s).getD 0), .int .i64 (eO (numW s))]) ∧ w' = w) := fun w => acsr_any s w hs
  have HE : Hid ((takeL x kCsr s) = (numW s).map fun n => (x.1, x.2.1, x.2.2.1, x.2.2.2.1, x.2.2.2.2.1, n, x.2.2.2.2.2.2)) := by
    show takeL x kCsr s = _
    unfold takeL; rw [if_neg (by decide)]; rw [if_neg (by decide)]; rw [if_neg (by decide)]; rw [if_pos rfl]
  generalize takeL x kCsr s = O at *
  have HX : Hid (StB (w.setCell ⟨B, 8, none⟩ (.int .i64 ((numW s).getD 0))) B kd ln pl (x.1, x.2.1, x.2.2.1, x.2.2.2.1, x.2.2.2.2.1, (numW s).getD 0, x.2.2.2.2.2.2)) := by
    show StB _ _ _ _ _ _
    unfold StB at *
    rw [row_step h]
    rfl
  have HO : Hid (OnlyB B w (w.setCell ⟨B, 8, none⟩ (.int .i64 ((numW s).getD 0)))) := (OnlyB.refl B w).set 8 _
  have HQ : Hid ((eO (numW s) == 0) = (numW s).isSome) := eO_beq _
  have HP : Hid (∀ n, numW s = some n → (numW s).getD 0 = n) := fun n e => by rw [e]; rfl
  obtain ⟨c0, c1, c2, c3, c4, c5, c6, c7, c8, c9⟩ := h.cells
  have fr := h.free
  have f3 := fr 3
  have f4 := fr 4
  have f5 := fr 5
  have f6 := fr 6
  have f7 := fr 7
  have f8 := fr 8
  have f9 := fr 9
  clear fr
  clear h hs
  generalize (numW s).getD 0 = P at *
  generalize eO (numW s) = E at *
  generalize numW s = R at *
  have ek : bs kCsr = ⟨#[99, 115, 114]⟩ := rfl
  rw [ek]
  go_enter Tryz.func40, Tryz.ntmps40
  go_wp2_with (first | (go_at_call 68; refine (HR.out _).mono ?_; rintro e w' ⟨rfl, hw⟩; have hw := hw.symm; subst hw))
  go_ret
  refine ⟨_, ?_, HX.out, ?_, HO.out⟩
  · refine ret_bool ?_
    rw [HQ.out, HE.out]
    simp
  · intro z hz
    rw [HE.out] at hz
    cases R with
    | none => cases hz
    | some n =>
      rw [HP.out n rfl]
      exact Option.some.inj hz

set_option maxHeartbeats 1000000 in
theorem take_up (s : List UInt8) (B : Nat) (kd ln pl : Int) (x : It) (w : World) (hs : s.length ≤ 70000) (h : StB w B kd ln pl x) :
    Calls Tryz.prog 40 #[.pointer (some ⟨B, 0, none⟩), .string (bs kUp), .string (bs s)] w (TookAs (takeL x kUp s) B kd ln pl w) := by
  have HR : Hid (∀ w, Calls Tryz.prog 69 #[.string (bs s)] w fun e w' => e = .returned (.tuple #[.int .u32 ((upW s).getD 0), .int .i64 (eO (upW s))]) ∧ w' = w) := fun w => aup_any s w hs
  have HE : Hid ((takeL x kUp s) = (upW s).map fun n => (x.1, x.2.1, x.2.2.1, x.2.2.2.1, n, x.2.2.2.2.2)) := by
    show takeL x kUp s = _
    unfold takeL; rw [if_neg (by decide)]; rw [if_neg (by decide)]; rw [if_neg (by decide)]; rw [if_neg (by decide)]; rw [if_pos rfl]
  generalize takeL x kUp s = O at *
  have HX : Hid (StB (w.setCell ⟨B, 7, none⟩ (.int .u32 ((upW s).getD 0))) B kd ln pl (x.1, x.2.1, x.2.2.1, x.2.2.2.1, (upW s).getD 0, x.2.2.2.2.2)) := by
    show StB _ _ _ _ _ _
    unfold StB at *
    rw [row_step h]
    rfl
  have HO : Hid (OnlyB B w (w.setCell ⟨B, 7, none⟩ (.int .u32 ((upW s).getD 0)))) := (OnlyB.refl B w).set 7 _
  have HQ : Hid ((eO (upW s) == 0) = (upW s).isSome) := eO_beq _
  have HP : Hid (∀ n, upW s = some n → (upW s).getD 0 = n) := fun n e => by rw [e]; rfl
  obtain ⟨c0, c1, c2, c3, c4, c5, c6, c7, c8, c9⟩ := h.cells
  have fr := h.free
  have f3 := fr 3
  have f4 := fr 4
  have f5 := fr 5
  have f6 := fr 6
  have f7 := fr 7
  have f8 := fr 8
  have f9 := fr 9
  clear fr
  clear h hs
  generalize (upW s).getD 0 = P at *
  generalize eO (upW s) = E at *
  generalize upW s = R at *
  have ek : bs kUp = ⟨#[117, 112, 112, 101, 114]⟩ := rfl
  rw [ek]
  go_enter Tryz.func40, Tryz.ntmps40
  go_wp2_with (first | (go_at_call 69; refine (HR.out _).mono ?_; rintro e w' ⟨rfl, hw⟩; have hw := hw.symm; subst hw))
  go_ret
  refine ⟨_, ?_, HX.out, ?_, HO.out⟩
  · refine ret_bool ?_
    rw [HQ.out, HE.out]
    simp
  · intro z hz
    rw [HE.out] at hz
    cases R with
    | none => cases hz
    | some n =>
      rw [HP.out n rfl]
      exact Option.some.inj hz

set_option maxHeartbeats 1000000 in
theorem take_im (s : List UInt8) (B : Nat) (kd ln pl : Int) (x : It) (w : World) (hs : s.length ≤ 70000) (h : StB w B kd ln pl x) :
    Calls Tryz.prog 40 #[.pointer (some ⟨B, 0, none⟩), .string (bs kIm), .string (bs s)] w (TookAs (takeL x kIm s) B kd ln pl w) := by
  have HR : Hid (∀ w, Calls Tryz.prog 52 #[.string (bs s)] w fun e w' => e = .returned (.tuple #[.int .u32 ((numW s).getD 0), .int .i64 (eO (numW s))]) ∧ w' = w) := fun w => num6_any s w hs
  have HE : Hid ((takeL x kIm s) = (numW s).map fun n => (x.1, x.2.1, x.2.2.1, x.2.2.2.1, n, x.2.2.2.2.2)) := by
    show takeL x kIm s = _
    unfold takeL; rw [if_neg (by decide)]; rw [if_neg (by decide)]; rw [if_neg (by decide)]; rw [if_neg (by decide)]; rw [if_neg (by decide)]; rw [if_neg (by decide)]; rw [if_pos rfl]
  generalize takeL x kIm s = O at *
  have HX : Hid (StB (w.setCell ⟨B, 7, none⟩ (.int .u32 ((numW s).getD 0))) B kd ln pl (x.1, x.2.1, x.2.2.1, x.2.2.2.1, (numW s).getD 0, x.2.2.2.2.2)) := by
    show StB _ _ _ _ _ _
    unfold StB at *
    rw [row_step h]
    rfl
  have HO : Hid (OnlyB B w (w.setCell ⟨B, 7, none⟩ (.int .u32 ((numW s).getD 0)))) := (OnlyB.refl B w).set 7 _
  have HQ : Hid ((eO (numW s) == 0) = (numW s).isSome) := eO_beq _
  have HP : Hid (∀ n, numW s = some n → (numW s).getD 0 = n) := fun n e => by rw [e]; rfl
  obtain ⟨c0, c1, c2, c3, c4, c5, c6, c7, c8, c9⟩ := h.cells
  have fr := h.free
  have f3 := fr 3
  have f4 := fr 4
  have f5 := fr 5
  have f6 := fr 6
  have f7 := fr 7
  have f8 := fr 8
  have f9 := fr 9
  clear fr
  clear h hs
  generalize (numW s).getD 0 = P at *
  generalize eO (numW s) = E at *
  generalize numW s = R at *
  have ek : bs kIm = ⟨#[105, 109, 109]⟩ := rfl
  rw [ek]
  go_enter Tryz.func40, Tryz.ntmps40
  go_wp2_with (first | (go_at_call 52; refine (HR.out _).mono ?_; rintro e w' ⟨rfl, hw⟩; have hw := hw.symm; subst hw))
  go_ret
  refine ⟨_, ?_, HX.out, ?_, HO.out⟩
  · refine ret_bool ?_
    rw [HQ.out, HE.out]
    simp
  · intro z hz
    rw [HE.out] at hz
    cases R with
    | none => cases hz
    | some n =>
      rw [HP.out n rfl]
      exact Option.some.inj hz

set_option maxHeartbeats 1000000 in
theorem take_plnum (s : List UInt8) (B : Nat) (kd ln pl : Int) (x : It) (w : World) (hs : s.length ≤ 70000) (hnm : nameB s = false) (h : StB w B kd ln pl x) :
    Calls Tryz.prog 40 #[.pointer (some ⟨B, 0, none⟩), .string (bs kPl), .string (bs s)] w (TookAs (takeL x kPl s) B kd ln pl w) := by
  have HR : Hid (∀ w, Calls Tryz.prog 52 #[.string (bs s)] w fun e w' => e = .returned (.tuple #[.int .u32 ((numW s).getD 0), .int .i64 (eO (numW s))]) ∧ w' = w) := fun w => num6_any s w hs
  have HNM : Hid (∀ w, Calls Tryz.prog 51 #[.string (bs s)] w fun e w' => e = .returned (.bool false) ∧ w' = w) := fun w => by
    have g := isName_any s w hs
    rw [hnm] at g; exact g
  have HE : Hid ((takeL x kPl s) = (numW s).map fun n => (x.1, x.2.1, x.2.2.1, x.2.2.2.1, n, x.2.2.2.2.2)) := by
    show takeL x kPl s = _
    unfold takeL; rw [if_neg (by decide)]; rw [if_neg (by decide)]; rw [if_neg (by decide)]; rw [if_neg (by decide)]; rw [if_neg (by decide)]; rw [if_pos rfl]
    rw [if_neg (by rw [hnm]; decide)]
  generalize takeL x kPl s = O at *
  have HX : Hid (StB (w.setCell ⟨B, 7, none⟩ (.int .u32 ((numW s).getD 0))) B kd ln pl (x.1, x.2.1, x.2.2.1, x.2.2.2.1, (numW s).getD 0, x.2.2.2.2.2)) := by
    show StB _ _ _ _ _ _
    unfold StB at *
    rw [row_step h]
    rfl
  have HO : Hid (OnlyB B w (w.setCell ⟨B, 7, none⟩ (.int .u32 ((numW s).getD 0)))) := (OnlyB.refl B w).set 7 _
  have HQ : Hid ((eO (numW s) == 0) = (numW s).isSome) := eO_beq _
  have HP : Hid (∀ n, numW s = some n → (numW s).getD 0 = n) := fun n e => by rw [e]; rfl
  obtain ⟨c0, c1, c2, c3, c4, c5, c6, c7, c8, c9⟩ := h.cells
  have fr := h.free
  have f3 := fr 3
  have f4 := fr 4
  have f5 := fr 5
  have f6 := fr 6
  have f7 := fr 7
  have f8 := fr 8
  have f9 := fr 9
  clear fr
  clear h hs
  generalize (numW s).getD 0 = P at *
  generalize eO (numW s) = E at *
  generalize numW s = R at *
  have ek : bs kPl = ⟨#[112, 108, 97, 99, 101]⟩ := rfl
  rw [ek]
  go_enter Tryz.func40, Tryz.ntmps40
  go_wp2_with (first | (go_at_call 52; refine (HR.out _).mono ?_; rintro e w' ⟨rfl, hw⟩; have hw := hw.symm; subst hw) | (go_at_call 51; refine (HNM.out _).mono ?_; rintro e w' ⟨rfl, hw⟩; have hw := hw.symm; subst hw))
  go_ret
  refine ⟨_, ?_, HX.out, ?_, HO.out⟩
  · refine ret_bool ?_
    rw [HQ.out, HE.out]
    simp
  · intro z hz
    rw [HE.out] at hz
    cases R with
    | none => cases hz
    | some n =>
      rw [HP.out n rfl]
      exact Option.some.inj hz

set_option maxHeartbeats 1000000 in
theorem take_plname (s : List UInt8) (B : Nat) (kd ln pl : Int) (x : It) (w : World) (hs : s.length ≤ 70000) (hnm : nameB s = true) (h : StB w B kd ln pl x) :
    Calls Tryz.prog 40 #[.pointer (some ⟨B, 0, none⟩), .string (bs kPl), .string (bs s)] w (TookAs (takeL x kPl s) B kd ln pl w) := by
  have HNM : Hid (∀ w, Calls Tryz.prog 51 #[.string (bs s)] w fun e w' => e = .returned (.bool true) ∧ w' = w) := fun w => by
    have g := isName_any s w hs
    rw [hnm] at g; exact g
  have HE : Hid ((takeL x kPl s) = some (x.1, x.2.1, x.2.2.1, x.2.2.2.1, x.2.2.2.2.1, x.2.2.2.2.2.1, s, x.2.2.2.2.2.2.2)) := by
    show takeL x kPl s = _
    unfold takeL; rw [if_neg (by decide)]; rw [if_neg (by decide)]; rw [if_neg (by decide)]; rw [if_neg (by decide)]; rw [if_neg (by decide)]; rw [if_pos rfl]
    rw [if_pos hnm]
  generalize takeL x kPl s = O at *
  have HX : Hid (StB (w.setCell ⟨B, 9, none⟩ (.string (bs s))) B kd ln pl (x.1, x.2.1, x.2.2.1, x.2.2.2.1, x.2.2.2.2.1, x.2.2.2.2.2.1, s, x.2.2.2.2.2.2.2)) := by
    show StB _ _ _ _ _ _
    unfold StB at *
    rw [row_step h]
    rfl
  have HO : Hid (OnlyB B w (w.setCell ⟨B, 9, none⟩ (.string (bs s)))) := (OnlyB.refl B w).set 9 _
  obtain ⟨c0, c1, c2, c3, c4, c5, c6, c7, c8, c9⟩ := h.cells
  have fr := h.free
  have f3 := fr 3
  have f4 := fr 4
  have f5 := fr 5
  have f6 := fr 6
  have f7 := fr 7
  have f8 := fr 8
  have f9 := fr 9
  clear fr
  clear h hs
  have ek : bs kPl = ⟨#[112, 108, 97, 99, 101]⟩ := rfl
  rw [ek]
  go_enter Tryz.func40, Tryz.ntmps40
  go_wp2_with (first | (go_at_call 51; refine (HNM.out _).mono ?_; rintro e w' ⟨rfl, hw⟩; have hw := hw.symm; subst hw))
  go_ret
  refine ⟨_, ?_, HX.out, ?_, HO.out⟩
  · refine ret_bool ?_
    rw [HE.out]
    rfl
  · intro z hz
    rw [HE.out] at hz
    exact Option.some.inj hz

set_option maxHeartbeats 1000000 in
theorem take_comma (s : List UInt8) (B : Nat) (kd ln pl : Int) (x : It) (w : World) (hs : s.length ≤ 70000) (h : StB w B kd ln pl x) :
    Calls Tryz.prog 40 #[.pointer (some ⟨B, 0, none⟩), .string (bs [44]), .string (bs s)] w (TookAs (takeL x [44] s) B kd ln pl w) := by
  have HE : Hid ((takeL x [44] s) = if s = [44] then some x else none) := by
    show takeL x [44] s = _
    unfold takeL
    rw [if_neg (by decide)]; rw [if_neg (by decide)]; rw [if_neg (by decide)]; rw [if_neg (by decide)]; rw [if_neg (by decide)]; rw [if_neg (by decide)]; rw [if_neg (by decide)]
  have HX : Hid (StB w B kd ln pl x) := h
  obtain ⟨c0, c1, c2, c3, c4, c5, c6, c7, c8, c9⟩ := h.cells
  have fr := h.free
  have f3 := fr 3
  have f4 := fr 4
  have f5 := fr 5
  have f6 := fr 6
  have f7 := fr 7
  have f8 := fr 8
  have f9 := fr 9
  clear fr
  clear h hs
  by_cases g : s = [44]
  · subst g
    have HE2 : Hid (takeL x [44] [44] = some x) := by show takeL x [44] [44] = some x; rw [HE.out, if_pos rfl]
    generalize takeL x [44] [44] = O at *
    clear HE
    have e : bs [44] = ⟨#[44]⟩ := rfl
    rw [e]
    go_enter Tryz.func40, Tryz.ntmps40
    go_wp2
    go_ret
    rw [HE2.out]
    exact ⟨_, rfl, HX.out, (fun z hz => Option.some.inj hz), OnlyB.refl _ _⟩
  · generalize takeL x [44] s = O at *
    have hne : ((bs s).toList == [44]) = false := by
      rw [beq_eq_false_iff_ne, ByteArray.toList_eq]
      simpa [bs] using g
    have HG : Hid (s ≠ [44]) := g
    clear g
    have e : bs [44] = ⟨#[44]⟩ := rfl
    rw [e]
    go_enter Tryz.func40, Tryz.ntmps40
    go_wp2
    go_ret
    rw [HE.out, if_neg HG.out]
    exact ⟨_, rfl, HX.out, (fun z hz => nomatch hz), OnlyB.refl _ _⟩

set_option maxHeartbeats 1000000 in
theorem take_open (s : List UInt8) (B : Nat) (kd ln pl : Int) (x : It) (w : World) (hs : s.length ≤ 70000) (h : StB w B kd ln pl x) :
    Calls Tryz.prog 40 #[.pointer (some ⟨B, 0, none⟩), .string (bs [40]), .string (bs s)] w (TookAs (takeL x [40] s) B kd ln pl w) := by
  have HE : Hid ((takeL x [40] s) = if s = [40] then some x else none) := by
    show takeL x [40] s = _
    unfold takeL
    rw [if_neg (by decide)]; rw [if_neg (by decide)]; rw [if_neg (by decide)]; rw [if_neg (by decide)]; rw [if_neg (by decide)]; rw [if_neg (by decide)]; rw [if_neg (by decide)]
  have HX : Hid (StB w B kd ln pl x) := h
  obtain ⟨c0, c1, c2, c3, c4, c5, c6, c7, c8, c9⟩ := h.cells
  have fr := h.free
  have f3 := fr 3
  have f4 := fr 4
  have f5 := fr 5
  have f6 := fr 6
  have f7 := fr 7
  have f8 := fr 8
  have f9 := fr 9
  clear fr
  clear h hs
  by_cases g : s = [40]
  · subst g
    have HE2 : Hid (takeL x [40] [40] = some x) := by show takeL x [40] [40] = some x; rw [HE.out, if_pos rfl]
    generalize takeL x [40] [40] = O at *
    clear HE
    have e : bs [40] = ⟨#[40]⟩ := rfl
    rw [e]
    go_enter Tryz.func40, Tryz.ntmps40
    go_wp2
    go_ret
    rw [HE2.out]
    exact ⟨_, rfl, HX.out, (fun z hz => Option.some.inj hz), OnlyB.refl _ _⟩
  · generalize takeL x [40] s = O at *
    have hne : ((bs s).toList == [40]) = false := by
      rw [beq_eq_false_iff_ne, ByteArray.toList_eq]
      simpa [bs] using g
    have HG : Hid (s ≠ [40]) := g
    clear g
    have e : bs [40] = ⟨#[40]⟩ := rfl
    rw [e]
    go_enter Tryz.func40, Tryz.ntmps40
    go_wp2
    go_ret
    rw [HE.out, if_neg HG.out]
    exact ⟨_, rfl, HX.out, (fun z hz => nomatch hz), OnlyB.refl _ _⟩

set_option maxHeartbeats 1000000 in
theorem take_close (s : List UInt8) (B : Nat) (kd ln pl : Int) (x : It) (w : World) (hs : s.length ≤ 70000) (h : StB w B kd ln pl x) :
    Calls Tryz.prog 40 #[.pointer (some ⟨B, 0, none⟩), .string (bs [41]), .string (bs s)] w (TookAs (takeL x [41] s) B kd ln pl w) := by
  have HE : Hid ((takeL x [41] s) = if s = [41] then some x else none) := by
    show takeL x [41] s = _
    unfold takeL
    rw [if_neg (by decide)]; rw [if_neg (by decide)]; rw [if_neg (by decide)]; rw [if_neg (by decide)]; rw [if_neg (by decide)]; rw [if_neg (by decide)]; rw [if_neg (by decide)]
  have HX : Hid (StB w B kd ln pl x) := h
  obtain ⟨c0, c1, c2, c3, c4, c5, c6, c7, c8, c9⟩ := h.cells
  have fr := h.free
  have f3 := fr 3
  have f4 := fr 4
  have f5 := fr 5
  have f6 := fr 6
  have f7 := fr 7
  have f8 := fr 8
  have f9 := fr 9
  clear fr
  clear h hs
  by_cases g : s = [41]
  · subst g
    have HE2 : Hid (takeL x [41] [41] = some x) := by show takeL x [41] [41] = some x; rw [HE.out, if_pos rfl]
    generalize takeL x [41] [41] = O at *
    clear HE
    have e : bs [41] = ⟨#[41]⟩ := rfl
    rw [e]
    go_enter Tryz.func40, Tryz.ntmps40
    go_wp2
    go_ret
    rw [HE2.out]
    exact ⟨_, rfl, HX.out, (fun z hz => Option.some.inj hz), OnlyB.refl _ _⟩
  · generalize takeL x [41] s = O at *
    have hne : ((bs s).toList == [41]) = false := by
      rw [beq_eq_false_iff_ne, ByteArray.toList_eq]
      simpa [bs] using g
    have HG : Hid (s ≠ [41]) := g
    clear g
    have e : bs [41] = ⟨#[41]⟩ := rfl
    rw [e]
    go_enter Tryz.func40, Tryz.ntmps40
    go_wp2
    go_ret
    rw [HE.out, if_neg HG.out]
    exact ⟨_, rfl, HX.out, (fun z hz => nomatch hz), OnlyB.refl _ _⟩

/-- What may be asked for. -/
def askL : List (List UInt8) := [kRd, kRs1, kRs2, kCsr, kUp, kPl, kIm, [44], [40], [41] ]
theorem gshape_ask : ∀ k, k < 58 → (gshape k).all (fun a => askL.contains a) = true := by decide +kernel
theorem take_any (what s : List UInt8) (B : Nat) (kd ln pl : Int) (x : It) (w : World) (hw : what ∈ askL) (hs : s.length ≤ 70000) (h : StB w B kd ln pl x) :
    Calls Tryz.prog 40 #[.pointer (some ⟨B, 0, none⟩), .string (bs what), .string (bs s)] w (TookAs (takeL x what s) B kd ln pl w) := by
  simp only [askL, List.mem_cons, List.not_mem_nil, or_false] at hw
  rcases hw with rfl | rfl | rfl | rfl | rfl | rfl | rfl | rfl | rfl | rfl
  · exact take_rd s B kd ln pl x w hs h
  · exact take_rs1 s B kd ln pl x w hs h
  · exact take_rs2 s B kd ln pl x w hs h
  · exact take_csr s B kd ln pl x w hs h
  · exact take_up s B kd ln pl x w hs h
  · cases hn : nameB s
    · exact take_plnum s B kd ln pl x w hs hn h
    · exact take_plname s B kd ln pl x w hs hn h
  · exact take_im s B kd ln pl x w hs h
  · exact take_comma s B kd ln pl x w hs h
  · exact take_open s B kd ln pl x w hs h
  · exact take_close s B kd ln pl x w hs h
end Go.Proofs.YthgolbmngjdbeaaGreatDoor

/- Layer 6, the program's own instruction. -/
namespace Go.Proofs.YthgolbmngjdbeaaGreatDoor
open Go.RowKit
set_option linter.unusedVariables false
set_option linter.unusedSimpArgs false

theorem gopN_name : ∀ k, k < 58 → opN (nameL.getD k []) = k := by decide +kernel
theorem opTo_zero (p : List UInt8) : ∀ k, (∀ j, j < k → nameL.getD j [] ≠ p) → opTo p k = 0
  | 0, _ => rfl
  | k + 1, h => by
    rw [opTo, if_neg (h k (by omega))]
    exact opTo_zero p k fun j hj => h j (by omega)
theorem gnameS_bs (k : Nat) : nameS k = bs (nameL.getD k []) := rfl
theorem op6_any (p : List UInt8) (w : World) (ht : NameTab w) :
    Calls Tryz.prog 37 #[.string (bs p)] w fun e w' => e = .returned (.tuple #[.int .i64 (opN p), .int .i64 (if nameL.getD (opN p) [] = p then 0 else 8)]) ∧ w' = w := by
  by_cases h : nameL.getD (opN p) [] = p
  · rw [if_pos h]
    refine op_yes (opN p) (opN_lt p) (bs p) (by rw [gnameS_bs, h]) (fun j hj => ?_) w ht
    rw [gnameS_bs]
    refine bs_neq fun e => ?_
    have := gopN_name j (by have := opN_lt p; omega)
    rw [e] at this
    omega
  · rw [if_neg h]
    have hno : ∀ j, j < 58 → nameL.getD j [] ≠ p := fun j hj e => by
      have := gopN_name j hj
      rw [e] at this
      rw [this] at h
      exact h e
    have h0 : opN p = 0 := opTo_zero p 58 hno
    rw [h0]
    refine op_no (bs p) (fun j hj => ?_) w ht
    rw [gnameS_bs]
    exact bs_neq (hno j hj)

/-- All pieces taken, or none. -/
def takesL : It → List (List UInt8) → List (List UInt8) → Option It
  | x, w :: ws, p :: ps => (takeL x w p).bind fun y => takesL y ws ps
  | x, _, _ => some x
theorem takesL_nil (x : It) (ps : List (List UInt8)) : takesL x [] ps = some x := by cases ps <;> rfl
theorem takes_step (x : It) (ws ps : List (List UInt8)) (k : Nat) (h : k < ws.length) (h2 : k + 1 < ps.length) : takesL x (ws.drop k) (ps.drop (k + 1)) = (takeL x (ws.getD k []) (ps.getD (k + 1) [])).bind fun y => takesL y (ws.drop (k + 1)) (ps.drop (k + 2)) := by
  have e1 : ws.drop k = ws.getD k [] :: ws.drop (k + 1) := by
    rw [List.drop_eq_getElem_cons h]; simp [List.getD, h]
  have e2 : ps.drop (k + 1) = ps.getD (k + 1) [] :: ps.drop (k + 2) := by
    rw [List.drop_eq_getElem_cons h2]; simp [List.getD, h2]
  rw [e1, e2, takesL]
/-- What a name and the pieces behind it are; ill: whether the name of no text would be read, too (it is not: false everywhere). -/
def insG (ill : Bool) (ps : List (List UInt8)) : Option It :=
  if ps = [] then none
  else if nameL.getD (opN (ps.getD 0 [])) [] ≠ ps.getD 0 [] ∨ (ill = false ∧ opN (ps.getD 0 []) = 0) then none
  else if ps.length ≠ (gshape (opN (ps.getD 0 []))).length + 1 then none
  else takesL (itOp (opN (ps.getD 0 []))) (gshape (opN (ps.getD 0 []))) (ps.drop 1)

def stV (kd ln pl : Int) (x : It) : Value := .agg #[.int .i64 kd, .int .i64 ln, .int .u32 pl, .int .i64 x.1, .int .i64 x.2.1, .int .i64 x.2.2.1, .int .i64 x.2.2.2.1, .int .u32 x.2.2.2.2.1, .int .i64 x.2.2.2.2.2.1, .string (bs x.2.2.2.2.2.2.1)]
def InsAs (o : Option It) (e : Ending) : Prop := (∃ x, o = some x ∧ e = .returned (.tuple #[stV 2 0 0 x, .int .i64 0])) ∨ (o = none ∧ e = .returned (.tuple #[stV 0 0 0 it0, .int .i64 1]))
theorem stB_new (w : World) (kd ln pl op : Int) : StB (w.alloc (.cells #[.int .i64 kd, .int .i64 ln, .int .u32 pl, .int .i64 op, .int .i64 0, .int .i64 0, .int .i64 0, .int .u32 0, .int .i64 0, .string ⟨#[]⟩] 55)) w.heap.size kd ln pl (op, 0, 0, 0, 0, 0, [], 0, false) := heap_alloc_new w _
theorem StB.put {V : World} {B : Nat} {kd ln pl : Int} {x : It} (h : StB V B kd ln pl x) (a b c d e f g i j : Int) (k : List UInt8) :
    ∃ V', ((((((((((V.setCell ⟨B, 0, none⟩ (.int .i64 a)).setCell ⟨B, 1, none⟩ (.int .i64 b)).setCell ⟨B, 2, none⟩ (.int .u32 c)).setCell ⟨B, 3, none⟩ (.int .i64 d)).setCell ⟨B, 4, none⟩ (.int .i64 e)).setCell ⟨B, 5, none⟩ (.int .i64 f)).setCell ⟨B, 6, none⟩ (.int .i64 g)).setCell ⟨B, 7, none⟩ (.int .u32 i)).setCell ⟨B, 8, none⟩ (.int .i64 j)).setCell ⟨B, 9, none⟩ (.string (bs k))) = V' ∧ StB V' B a b c (d, e, f, g, i, j, k, 0, false) ∧ OnlyB B V V' := by
  unfold StB at h
  refine ⟨_, rfl, ?_, ((((((((((OnlyB.refl B V).set 0 _).set 1 _).set 2 _).set 3 _).set 4 _).set 5 _).set 6 _).set 7 _).set 8 _).set 9 _⟩
  have r0 := row_step (i := 0) h (.int .i64 a)
  have r1 := row_step (i := 1) r0 (.int .i64 b)
  have r2 := row_step (i := 2) r1 (.int .u32 c)
  have r3 := row_step (i := 3) r2 (.int .i64 d)
  have r4 := row_step (i := 4) r3 (.int .i64 e)
  have r5 := row_step (i := 5) r4 (.int .i64 f)
  have r6 := row_step (i := 6) r5 (.int .i64 g)
  have r7 := row_step (i := 7) r6 (.int .u32 i)
  have r8 := row_step (i := 8) r7 (.int .i64 j)
  have r9 := row_step (i := 9) r8 (.string (bs k))
  unfold StB
  rw [r9]
  simp only [List.setIfInBounds_toArray, List.set_cons_zero, List.set_cons_succ]
theorem OnlyB.trans {B : Nat} {a b c : World} (h : OnlyB B a b) (g : OnlyB B b c) : OnlyB B a c :=
  ⟨g.1.trans h.1, g.2.1.trans h.2.1, g.2.2.1.trans h.2.2.1, g.2.2.2.1.trans h.2.2.2.1, fun k hk => (g.2.2.2.2 k hk).trans (h.2.2.2.2 k hk)⟩
theorem OnlyB.drewN {B : Nat} {a b : World} (h : OnlyB B a b) (n : Nat) : OnlyB B a (b.drewN n) := h.trans ⟨rfl, rfl, rfl, rfl, fun _ _ => rfl⟩
theorem OnlyB.drew {B : Nat} {a b : World} (h : OnlyB B a b) : OnlyB B a b.drew := h.trans ⟨rfl, rfl, rfl, rfl, fun _ _ => rfl⟩
theorem IsStrs.only {W w1 : World} {B : Nat} {v : Value} {ls : List (List UInt8)} (h : IsStrs W v ls) (hb : OnlyB B W w1) (hne : ∀ g o n c, v = .slice (some ⟨g, o, none⟩) n c → g ≠ B) : IsStrs w1 v ls := by
  obtain ⟨a, c, hv, h⟩ := h
  refine ⟨a, c, hv, ?_⟩
  rcases h with h | ⟨g, o, ha, hc⟩
  · exact .inl h
  · refine .inr ⟨g, o, ha, fun i hi => onlyB_cell hb (hne g o ls.length c (by rw [hv, ha])) (hc i hi)⟩

set_option maxRecDepth 100000 in
set_option maxHeartbeats 1000000 in
theorem ins_nil (v : Value) (w : World) (h : IsStrs w v []) :
    Calls Tryz.prog 18 #[v] w fun e w' => e = .returned (.tuple #[stV 0 0 0 it0, .int .i64 1]) ∧ Below w.heap.size w w' := by
  obtain ⟨a, c, rfl, _⟩ := h
  simp only [List.length_nil]
  go_enter Tryz.func18, Tryz.ntmps18
  go_wp2
  go_step3
  go_wp2
  try rw [Exit.noGoto_ret]
  refine bodyPost_ret (v := .tuple #[stV 0 0 0 it0, .int .i64 1]) (by simp [results, Tryz.results18, go_sem, stV, it0]; rfl) rfl ⟨rfl, ?_⟩
  exact (Below.refl _ _).alloc (Nat.le_refl _) _

theorem formTab_alloc {w : World} (h : FormTab w) (o : Obj) : FormTab (w.alloc o) := h.below ((Below.refl _ _).alloc (Nat.le_refl _) _)
theorem nameTab_alloc {w : World} (h : NameTab w) (o : Obj) : NameTab (w.alloc o) := h.below ((Below.refl _ _).alloc (Nat.le_refl _) _)
theorem spTab_alloc {w : World} (h : SpTab w) (o : Obj) : SpTab (w.alloc o) := spTab_below h ((Below.refl _ _).alloc (Nat.le_refl _) _)

set_option maxRecDepth 100000 in
set_option maxHeartbeats 1000000 in
/-- No such name. -/
theorem ins_no (ps : List (List UInt8)) (v : Value) (w : World) (h : IsStrs w v ps) (h0 : 0 < ps.length) (hN : NameTab w) (hno : nameL.getD (opN (ps.getD 0 [])) [] ≠ ps.getD 0 []) :
    Calls Tryz.prog 18 #[v] w fun e w' => e = .returned (.tuple #[stV 0 0 0 it0, .int .i64 1]) ∧ Below w.heap.size w w' := by
  obtain ⟨g, o, c, rfl, hg, hc⟩ := h.all h0
  have c0 := hc 0 h0
  rw [Nat.add_zero] at c0
  have hg' : g ≠ w.heap.size := by omega
  have hz : ((ps.length : Int) == 0) = false := by rw [beq_eq_false_iff_ne]; omega
  have HO : Hid (∀ o, Calls Tryz.prog 37 #[.string (bs (ps.getD 0 []))] (w.alloc o) fun e w' => e = .returned (.tuple #[.int .i64 (opN (ps.getD 0 [])), .int .i64 8]) ∧ w' = w.alloc o) := fun o => by
    have q := op6_any (ps.getD 0 []) (w.alloc o) (nameTab_alloc hN o)
    rw [if_neg hno] at q; exact q
  clear h hc hN hno
  generalize opN (ps.getD 0 []) = K at *
  generalize ps.getD 0 [] = p0 at *
  go_enter Tryz.func18, Tryz.ntmps18
  go_wp2
  go_step3
  go_wp2_with (first | (go_at_call 37; refine (HO.out _).mono ?_; rintro e w' ⟨rfl, hw⟩; have hw := hw.symm; subst hw))
  try rw [Exit.noGoto_ret]
  refine bodyPost_ret (v := .tuple #[stV 0 0 0 it0, .int .i64 1]) (by simp [results, Tryz.results18, go_sem, stV, it0]; rfl) rfl ⟨rfl, ?_⟩
  exact (Below.refl _ _).alloc (Nat.le_refl _) _

set_option maxRecDepth 100000 in
set_option maxHeartbeats 1000000 in
/-- The name of no text. -/
theorem ins_zero (ps : List (List UInt8)) (v : Value) (w : World) (h : IsStrs w v ps) (h0 : 0 < ps.length) (hN : NameTab w) (hyes : nameL.getD (opN (ps.getD 0 [])) [] = ps.getD 0 []) (hk0 : opN (ps.getD 0 []) = 0) :
    Calls Tryz.prog 18 #[v] w fun e w' => e = .returned (.tuple #[stV 0 0 0 it0, .int .i64 1]) ∧ Below w.heap.size w w' := by
  obtain ⟨g, o, c, rfl, hg, hc⟩ := h.all h0
  have c0 := hc 0 h0
  rw [Nat.add_zero] at c0
  have hg' : g ≠ w.heap.size := by omega
  have hz : ((ps.length : Int) == 0) = false := by rw [beq_eq_false_iff_ne]; omega
  have HO : Hid (∀ o, Calls Tryz.prog 37 #[.string (bs (ps.getD 0 []))] (w.alloc o) fun e w' => e = .returned (.tuple #[.int .i64 0, .int .i64 0]) ∧ w' = w.alloc o) := fun o => by
    have q := op6_any (ps.getD 0 []) (w.alloc o) (nameTab_alloc hN o)
    rw [if_pos hyes, hk0] at q; exact q
  clear h hc hN hyes hk0
  generalize ps.getD 0 [] = p0 at *
  go_enter Tryz.func18, Tryz.ntmps18
  go_wp2
  go_step3
  go_wp2_with (first | (go_at_call 37; refine (HO.out _).mono ?_; rintro e w' ⟨rfl, hw⟩; have hw := hw.symm; subst hw))
  try rw [Exit.noGoto_ret]
  refine bodyPost_ret (v := .tuple #[stV 0 0 0 it0, .int .i64 1]) (by simp [results, Tryz.results18, go_sem, stV, it0]; rfl) rfl ⟨rfl, ?_⟩
  exact (Below.refl _ _).alloc (Nat.le_refl _) _

/-- Blocks under a number are as they were, and one more may have turned. -/
theorem below_only {N B : Nat} {a b c : World} (h : Below N a b) (g : OnlyB B b c) (hN : N ≤ B) : Below N a c := h.trans (g.below hN)

set_option maxRecDepth 100000 in
set_option maxHeartbeats 8000000 in
theorem ins_yes (ps : List (List UInt8)) (v : Value) (w : World) (hn : ps.length ≤ 200000) (hl : ∀ p ∈ ps, p.length ≤ 70000) (h : IsStrs w v ps) (hcap : ∀ a n c, v = .slice a n c → n ≤ c) (h0 : 0 < ps.length) (hF : FormTab w) (hN : NameTab w) (hS : SpTab w) (hyes : nameL.getD (opN (ps.getD 0 [])) [] = ps.getD 0 []) (hk0 : opN (ps.getD 0 []) ≠ 0) :
    Calls Tryz.prog 18 #[v] w fun e w' => InsAs (if ps.length ≠ (gshape (opN (ps.getD 0 []))).length + 1 then none else takesL (itOp (opN (ps.getD 0 []))) (gshape (opN (ps.getD 0 []))) (ps.drop 1)) e ∧ Below w.heap.size w w' := by
  obtain ⟨g, o, c, rfl, hg, hc⟩ := h.all h0
  have c0 := hc 0 h0
  rw [Nat.add_zero] at c0
  have hcc : ps.length ≤ c := hcap _ _ _ rfl
  obtain ⟨o', hif, HC⟩ : ∃ o', (if c = 1 then some (⟨g, o, none⟩ : Addr) else some ⟨g, o + 1, none⟩) = some ⟨g, o', none⟩ ∧ Hid (∀ i, i + 1 < ps.length → w.cell? ⟨g, o' + i, none⟩ = some (.string (bs (ps.getD (i + 1) [])))) := by
    by_cases c1 : c = 1
    · exact ⟨o, if_pos c1, fun i hi => by omega⟩
    · exact ⟨o + 1, if_neg c1, fun i hi => by have := hc (i + 1) hi; rw [show o + 1 + i = o + (i + 1) from by omega]; exact this⟩
  have HL := Lib.hid hl
  have hg' : g ≠ w.heap.size := by omega
  have hz : ((ps.length : Int) == 0) = false := by rw [beq_eq_false_iff_ne]; omega
  have HO : Hid (∀ o, Calls Tryz.prog 37 #[.string (bs (ps.getD 0 []))] (w.alloc o) fun e w' => e = .returned (.tuple #[.int .i64 (opN (ps.getD 0 [])), .int .i64 0]) ∧ w' = w.alloc o) := fun o => by
    have q := op6_any (ps.getD 0 []) (w.alloc o) (nameTab_alloc hN o)
    rw [if_pos hyes] at q; exact q
  have HK : Hid (opN (ps.getD 0 []) < 58) := opN_lt _
  have hkz : ((opN (ps.getD 0 []) : Int) == 0) = false := by rw [beq_eq_false_iff_ne]; omega
  have HF := Lib.hid hF
  have HS := Lib.hid hS
  clear h hc hN hyes hF hS hl hcap hk0
  generalize opN (ps.getD 0 []) = K at *
  generalize ps.getD 0 [] = p0 at *
  go_enter Tryz.func18, Tryz.ntmps18
  go_wp2
  go_step3
  go_wp2_with (first | (go_at_call 37; refine (HO.out _).mono ?_; rintro e w' ⟨rfl, hw⟩; have hw := hw.symm; subst hw))
  have hsl : (gshape K).length ≤ 6 := gshape_len K HK.out
  obtain ⟨W1, hW1⟩ : ∃ W1, (w.alloc (.cells #[.int .i64 0, .int .i64 0, .int .u32 0, .int .i64 0, .int .i64 0, .int .i64 0, .int .i64 0, .int .u32 0, .int .i64 0, .string ⟨#[]⟩] 55)).alloc (.cells #[.int .i64 2, .int .i64 0, .int .u32 0, .int .i64 K, .int .i64 0, .int .i64 0, .int .i64 0, .int .u32 0, .int .i64 0, .string ⟨#[]⟩] 55) = W1 := ⟨_, rfl⟩
  have HB1 : Hid (Below w.heap.size w W1) := by
    show Below _ _ _
    rw [← hW1]
    exact ((Below.refl _ _).alloc (Nat.le_refl _) _).alloc (by simp) _
  have HR1 : Hid (StB W1 w.heap.size 0 0 0 it0) := by
    show StB _ _ _ _ _ _
    rw [← hW1]
    exact StB.on (stB_new w 0 0 0 0) ((Below.refl _ _).alloc (Nat.le_refl _) _)
  have HS1 : Hid (StB W1 (w.heap.size + 1) 2 0 0 (itOp K)) := by
    show StB _ _ _ _ _ _
    rw [← hW1]
    have q := stB_new (w.alloc (.cells #[.int .i64 0, .int .i64 0, .int .u32 0, .int .i64 0, .int .i64 0, .int .i64 0, .int .i64 0, .int .u32 0, .int .i64 0, .string ⟨#[]⟩] 55)) 2 0 0 K
    have e : (w.alloc (.cells #[.int .i64 0, .int .i64 0, .int .u32 0, .int .i64 0, .int .i64 0, .int .i64 0, .int .i64 0, .int .u32 0, .int .i64 0, .string ⟨#[]⟩] 55)).heap.size = w.heap.size + 1 := by simp
    rw [e] at q
    exact q
  have HZ1 : Hid (W1.heap.size = w.heap.size + 2) := by
    show W1.heap.size = _
    rw [← hW1]; simp
  rw [hW1]
  clear hW1
  have HFL : Hid (∀ V, Below W1.heap.size W1 V → Calls Tryz.prog 39 #[.int .i64 K] V fun e w' => e = .returned (.string (bs (layS K))) ∧ w' = V) := fun V hV => layout_any K V HK.out ((HF.out.below HB1.out).below hV)
  have HFI : Hid (∀ V, Below W1.heap.size W1 V → Calls Tryz.prog 38 #[.string (bs (layS K))] V fun e w' => ∃ v, e = .returned v ∧ IsStrs w' v (gshape K) ∧ (∀ g o n c, v = .slice (some ⟨g, o, none⟩) n c → V.heap.size ≤ g) ∧ Below V.heap.size V w') := fun V hV => fields_any K V HK.out (spTab_below (spTab_below HS.out HB1.out) hV)
  have cc0 : W1.cell? ⟨g, o, none⟩ = some (.string (bs p0)) := by
    rw [HB1.out.cell (p := ⟨g, o, none⟩) hg]; exact c0
  clear c0 HO hz
  have hnn : (1 : Int) ≤ (ps.length : Int) := by omega
  have HFLd : Hid (Calls Tryz.prog 39 #[.int .i64 K] W1.drew fun e w' => e = .returned (.string (bs (layS K))) ∧ w' = W1.drew) := HFL.out _ ((Below.refl _ W1).drew)
  have HFId : Hid (Calls Tryz.prog 38 #[.string (bs (layS K))] W1.drew fun e w' => ∃ v, e = .returned v ∧ IsStrs w' v (gshape K) ∧ (∀ g o n c, v = .slice (some ⟨g, o, none⟩) n c → W1.heap.size ≤ g) ∧ Below W1.heap.size W1.drew w') := HFI.out _ ((Below.refl _ W1).drew)
  clear HFL HFI
  go_region_held3 (fun w' => w'.cell? ⟨g, o, none⟩ = some (.string (bs p0))) (first | assumption | go_keep)
    (first
      | (go_at_call 39; refine HFLd.out.mono ?_; rintro e w' ⟨rfl, hw⟩; have hw := hw.symm; subst hw)
      | (go_at_call 38; refine HFId.out.mono ?_; rintro e w2 ⟨vs, rfl, hvs, hgs, hb2⟩; have HGS := Lib.hid hgs; have HB2 : Hid (Below W1.heap.size W1 w2) := (by exact ((Below.refl _ W1).drew).trans hb2); have HVS := Lib.hid hvs; have cc2 := scell_on HB2.out cc0; clear hvs hgs hb2))
  clear cc0 cc2 HFLd HFId
  generalize hm1 : ps.length - 1 = m
  have HM : Hid (ps.length = m + 1) := by show ps.length = m + 1; omega
  clear hm1
  obtain ⟨a, cs, rfl, _⟩ := HVS.out
  go_wp2
  go_step3
  go_wp2_with fail
  go_loopw [9, 10] (fun wh i wr => ∃ (k : Nat) (x : It), wh = .bool false ∧ k ≤ (gshape K).length ∧ k ≤ m ∧ i = .int .i64 k ∧ StB wr (w.heap.size + 1) 2 0 0 x ∧ OnlyB (w.heap.size + 1) w2 wr ∧ Hid (takesL (itOp K) (gshape K) (ps.drop 1) = takesL x ((gshape K).drop k) (ps.drop (k + 1)))) (fun _ i _ => (gshape K).length - (intOf i).toNat)
  case atStart => exact ⟨0, itOp K, rfl, Nat.zero_le _, Nat.zero_le _, rfl, StB.on HS1.out HB2.out, OnlyB.refl _ _, rfl⟩
  case round =>
    obtain ⟨k, x, rfl, hka, hkm, rfl, hT, hOw, HTX⟩ := hrel
    have HTS := Lib.hid hT
    have HOW := Lib.hid hOw
    have HRw : Hid (StB wr w.heap.size 0 0 0 it0) := StB.only (StB.on HR1.out HB2.out) HOW.out (by omega)
    have HBw : Hid (Below w.heap.size w wr) := below_only (HB1.out.trans (HB2.out.mono HB1.out.size)) HOW.out (by omega)
    clear hT hOw
    by_cases e1 : k = (gshape K).length
    · have q1 : ((k : Int) == ((gshape K).length : Int)) = true := by rw [e1]; simp
      by_cases e2 : (gshape K).length = m
      · have q2 : (((gshape K).length : Int) == (m : Int)) = true := by rw [e2]; simp
        have HX : Hid ((if ps.length ≠ (gshape K).length + 1 then none else takesL (itOp K) (gshape K) (ps.drop 1)) = some x) := by
          show (if ps.length ≠ (gshape K).length + 1 then none else takesL (itOp K) (gshape K) (ps.drop 1)) = some x
          rw [if_neg (by have := HM.out; omega), HTX.out, e1, List.drop_length, takesL_nil]
        clear e1 e2
        obtain ⟨t0, t1, t2, t3, t4, t5, t6, t7, t8, t9⟩ := HRw.out.cells
        have tf := HRw.out.free
        obtain ⟨p0', p1, p2, p3, p4, p5, p6, p7, p8, p9⟩ := HTS.out.cells
        go_wp2
        try rw [Exit.noGoto_ret]
        obtain ⟨V, hV, hTV, hOV⟩ := HRw.out.put 2 0 0 x.1 x.2.1 x.2.2.1 x.2.2.2.1 x.2.2.2.2.1 x.2.2.2.2.2.1 x.2.2.2.2.2.2.1
        rw [hV]
        have HBV : Hid (Below w.heap.size w V) := below_only HBw.out hOV (Nat.le_refl _)
        clear t0 t1 t2 t3 t4 t5 t6 t7 t8 t9 tf p0' p1 p2 p3 p4 p5 p6 p7 p8 p9
        obtain ⟨t0, t1, t2, t3, t4, t5, t6, t7, t8, t9⟩ := hTV.cells
        refine bodyPost_ret (v := .tuple #[stV 2 0 0 x, .int .i64 0]) (by simp [results, Tryz.results18, go_sem, stV, *]) rfl ⟨.inl ⟨x, HX.out, rfl⟩, HBV.out⟩
      · have q2 : (((gshape K).length : Int) == (m : Int)) = false := by rw [beq_eq_false_iff_ne]; omega
        have HNO : Hid ((if ps.length ≠ (gshape K).length + 1 then none else takesL (itOp K) (gshape K) (ps.drop 1)) = none) := if_pos (by have := HM.out; omega)
        clear e1 e2
        obtain ⟨t0, t1, t2, t3, t4, t5, t6, t7, t8, t9⟩ := HRw.out.cells
        have tf := HRw.out.free
        go_wp2
        try rw [Exit.noGoto_ret]
        obtain ⟨V, hV, hTV, hOV⟩ := HRw.out.put 0 0 0 0 0 0 0 0 0 []
        have hnil : bs ([] : List UInt8) = ⟨#[]⟩ := rfl
        rw [hnil] at hV
        rw [hV]
        have HBV : Hid (Below w.heap.size w V) := below_only HBw.out hOV (Nat.le_refl _)
        clear t0 t1 t2 t3 t4 t5 t6 t7 t8 t9 tf
        obtain ⟨t0, t1, t2, t3, t4, t5, t6, t7, t8, t9⟩ := hTV.cells
        refine bodyPost_ret (v := .tuple #[stV 0 0 0 it0, .int .i64 1]) (by simp [results, Tryz.results18, go_sem, stV, it0, *]) rfl ⟨.inr ⟨HNO.out, rfl⟩, HBV.out⟩
    · have q1 : ((k : Int) == ((gshape K).length : Int)) = false := by rw [beq_eq_false_iff_ne]; omega
      by_cases e3 : k = m
      · have q3 : ((k : Int) == (m : Int)) = true := by rw [e3]; simp
        have q2 : (((gshape K).length : Int) == (m : Int)) = false := by rw [beq_eq_false_iff_ne]; omega
        have HNO : Hid ((if ps.length ≠ (gshape K).length + 1 then none else takesL (itOp K) (gshape K) (ps.drop 1)) = none) := if_pos (by have := HM.out; omega)
        clear e1 e3
        obtain ⟨t0, t1, t2, t3, t4, t5, t6, t7, t8, t9⟩ := HRw.out.cells
        have tf := HRw.out.free
        go_wp2
        try rw [Exit.noGoto_ret]
        obtain ⟨V, hV, hTV, hOV⟩ := HRw.out.put 0 0 0 0 0 0 0 0 0 []
        have hnil : bs ([] : List UInt8) = ⟨#[]⟩ := rfl
        rw [hnil] at hV
        rw [hV]
        have HBV : Hid (Below w.heap.size w V) := below_only HBw.out hOV (Nat.le_refl _)
        clear t0 t1 t2 t3 t4 t5 t6 t7 t8 t9 tf
        obtain ⟨t0, t1, t2, t3, t4, t5, t6, t7, t8, t9⟩ := hTV.cells
        refine bodyPost_ret (v := .tuple #[stV 0 0 0 it0, .int .i64 1]) (by simp [results, Tryz.results18, go_sem, stV, it0, *]) rfl ⟨.inr ⟨HNO.out, rfl⟩, HBV.out⟩
      · have q3 : ((k : Int) == (m : Int)) = false := by rw [beq_eq_false_iff_ne]; omega
        have hlt : k < (gshape K).length := by omega
        have hlt2 : k + 1 < ps.length := by have := HM.out; omega
        clear e1 e3
        obtain ⟨gs, os, ccs, hvv, hgs, cw⟩ := HVS.out.cell hlt
        simp only [Value.slice.injEq] at hvv
        obtain ⟨rfl, _, rfl⟩ := hvv
        have hgn : gs ≠ w.heap.size + 1 := by
          have := HGS.out gs os _ _ rfl
          have := HZ1.out
          omega
        have cw' : wr.cell? ⟨gs, os + k, none⟩ = some (.string (bs ((gshape K).getD k []))) := onlyB_cell HOW.out hgn cw
        have cp : wr.cell? ⟨g, o' + k, none⟩ = some (.string (bs (ps.getD (k + 1) []))) := by
          rw [HBw.out.cell (p := ⟨g, o' + k, none⟩) hg]; exact HC.out k hlt2
        have HAK : Hid ((gshape K).getD k [] ∈ askL) := by
          show _ ∈ _
          have q := List.all_eq_true.1 (gshape_ask K HK.out) ((gshape K).getD k []) (by rw [List.getD_eq_getElem?_getD, List.getElem?_eq_getElem hlt]; exact List.getElem_mem hlt)
          exact List.contains_iff_mem.1 q
        have HPL : Hid ((ps.getD (k + 1) []).length ≤ 70000) := HL.out _ (by rw [List.getD_eq_getElem?_getD, List.getElem?_eq_getElem hlt2]; exact List.getElem_mem hlt2)
        have HTK : Hid (takesL x ((gshape K).drop k) (ps.drop (k + 1)) = (takeL x ((gshape K).getD k []) (ps.getD (k + 1) [])).bind fun y => takesL y ((gshape K).drop (k + 1)) (ps.drop (k + 2))) := takes_step x _ _ k hlt hlt2
        have HTA : Hid (Calls Tryz.prog 40 #[.pointer (some ⟨w.heap.size + 1, 0, none⟩), .string (bs ((gshape K).getD k [])), .string (bs (ps.getD (k + 1) []))] wr.drew (TookAs (takeL x ((gshape K).getD k []) (ps.getD (k + 1) [])) (w.heap.size + 1) 2 0 0 wr.drew)) := take_any _ _ _ 2 0 0 x wr.drew HAK.out HPL.out HTS.out
        generalize (gshape K).getD k [] = what at *
        generalize ps.getD (k + 1) [] = piece at *
        clear cw
        have hgn2 : g ≠ w.heap.size + 1 := by omega
        have HLT := Lib.hid hlt
        have HLT2 := Lib.hid hlt2
        have hi1 : (k : Int) < ((gshape K).length : Int) := by omega
        have hi2 : (k : Int) < (m : Int) := by have := HM.out; omega
        have hi0 : (0 : Int) ≤ (k : Int) := by omega
        clear hlt hlt2
        cases ho : takeL x what piece with
        | none =>
          rw [ho] at HTA HTK
          have HNO : Hid ((if ps.length ≠ (gshape K).length + 1 then none else takesL (itOp K) (gshape K) (ps.drop 1)) = none) := by
            show (if ps.length ≠ (gshape K).length + 1 then none else takesL (itOp K) (gshape K) (ps.drop 1)) = none
            split
            · rfl
            · rw [HTX.out, HTK.out]; rfl
          go_wp2_with fail
          go_region_held3 (fun w' => w'.cell? ⟨gs, os + k, none⟩ = some (.string (bs what)) ∧ w'.cell? ⟨g, o' + k, none⟩ = some (.string (bs piece))) (first | (refine ⟨?_, ?_⟩ <;> assumption) | go_keep)
            (first
              | (go_at_call 40; refine HTA.out.mono ?_; rintro e w3 ⟨y, rfl, hy, _, hO3⟩; have HO3 := Lib.hid hO3; have cw3 := onlyB_cell HO3.out hgn cw'; have cp3 := onlyB_cell HO3.out hgn2 cp; clear hO3 hy))
          have HRw3 : Hid (StB w3 w.heap.size 0 0 0 it0) := StB.only HRw.out HO3.out (by omega)
          have HBw3 : Hid (Below w.heap.size w w3) := below_only HBw.out HO3.out (by omega)
          clear HRw HBw
          have HRw := HRw3
          have HBw := HBw3
          clear HRw3 HBw3
          obtain ⟨t0, t1, t2, t3, t4, t5, t6, t7, t8, t9⟩ := HRw.out.cells
          have tf := HRw.out.free
          go_wp2
          try rw [Exit.noGoto_ret]
          obtain ⟨V, hV, hTV, hOV⟩ := HRw.out.put 0 0 0 0 0 0 0 0 0 []
          have hnil : bs ([] : List UInt8) = ⟨#[]⟩ := rfl
          rw [hnil] at hV
          rw [hV]
          have HBV : Hid (Below w.heap.size w V) := below_only HBw.out hOV (Nat.le_refl _)
          clear t0 t1 t2 t3 t4 t5 t6 t7 t8 t9 tf
          obtain ⟨t0, t1, t2, t3, t4, t5, t6, t7, t8, t9⟩ := hTV.cells
          refine bodyPost_ret (v := .tuple #[stV 0 0 0 it0, .int .i64 1]) (by simp [results, Tryz.results18, go_sem, stV, it0, *]) rfl ⟨.inr ⟨HNO.out, rfl⟩, HBV.out⟩
        | some y =>
          rw [ho] at HTA HTK
          go_wp2_with fail
          go_region_held3 (fun w' => w'.cell? ⟨gs, os + k, none⟩ = some (.string (bs what)) ∧ w'.cell? ⟨g, o' + k, none⟩ = some (.string (bs piece))) (first | (refine ⟨?_, ?_⟩ <;> assumption) | go_keep)
            (first
              | (go_at_call 40; refine HTA.out.mono ?_; rintro e w3 ⟨y', rfl, hy, hyy, hO3⟩; have HO3 := Lib.hid hO3; have HY3 : Hid (StB w3 (w.heap.size + 1) 2 0 0 y) := (by have q := hyy y rfl; subst q; exact hy); have cw3 := onlyB_cell HO3.out hgn cw'; have cp3 := onlyB_cell HO3.out hgn2 cp; clear hO3 hy hyy))
          go_wp2
          go_roundw
          case rel => exact ⟨k + 1, y, rfl, HLT.out, by have := HLT2.out; have := HM.out; omega, by go_num, HY3.out, HOW.out.trans HO3.out, by show takesL _ _ _ = _; rw [HTX.out, HTK.out]; rfl⟩
          case measure => have := HLT.out; simp [intOf]; omega

theorem ins_any (ps : List (List UInt8)) (v : Value) (w : World) (hn : ps.length ≤ 200000) (hl : ∀ p ∈ ps, p.length ≤ 70000) (h : IsStrs w v ps) (hcap : ∀ a n c, v = .slice a n c → n ≤ c) (hF : FormTab w) (hN : NameTab w) (hS : SpTab w) :
    Calls Tryz.prog 18 #[v] w fun e w' => InsAs (insG false ps) e ∧ Below w.heap.size w w' := by
  unfold insG
  by_cases h0 : ps = []
  · subst h0
    rw [if_pos rfl]
    exact (ins_nil v w h).mono fun e w' ⟨he, hb⟩ => ⟨.inr ⟨rfl, he⟩, hb⟩
  · have hp : 0 < ps.length := List.length_pos_iff.2 h0
    rw [if_neg h0]
    by_cases hy : nameL.getD (opN (ps.getD 0 [])) [] = ps.getD 0 []
    · by_cases hz : opN (ps.getD 0 []) = 0
      · rw [if_pos (.inr ⟨rfl, hz⟩)]
        exact (ins_zero ps v w h hp hN hy hz).mono fun e w' ⟨he, hb⟩ => ⟨.inr ⟨rfl, he⟩, hb⟩
      · rw [if_neg (by rintro (g | ⟨_, g⟩); exact g hy; exact hz g)]
        exact ins_yes ps v w hn hl h hcap hp hF hN hS hy hz
    · rw [if_pos (.inl hy)]
      exact (ins_no ps v w h hp hN hy).mono fun e w' ⟨he, hb⟩ => ⟨.inr ⟨rfl, he⟩, hb⟩
end Go.Proofs.YthgolbmngjdbeaaGreatDoor
