/- My texts AsmGoV, AsmGoS, AsmGoZ, AsmEndP, bound into one. -/
import Derived.Test.YthgolbmngjdbeaaDoorB6
import Derived.Test.YthgolbmngjdbeaaDoorB2
import Derived.Test.YthgolbmngjdbeaaDoorB3
/- Layer 6, the program's own words. -/
namespace Go.Proofs.YthgolbmngjdbeaaDoor
open Go.RowKit
set_option linter.unusedVariables false
set_option linter.unusedSimpArgs false

theorem laidG_step (names : List (List UInt8)) (ads : List Int) (x : It) (ln : Int) (r : List (It × Int)) (k : Nat) (out : List Int) :
    laidL names ads ((x, ln) :: r) k out = if (wordG names ads x k).2 = 0 then laidL names ads r (k + 1) (out ++ [(wordG names ads x k).1]) else ([], ln, (wordG names ads x k).2) := by
  rw [laidL]
  unfold wordG
  split
  · rfl
  · split
    · rfl
    · split
      · rfl
      · rfl
theorem wordG_bd (names : List (List UInt8)) (ads : List Int) (x : It) (k : Nat) : (wordG names ads x k).2 = 0 ∨ (wordG names ads x k).2 = 1 ∨ (wordG names ads x k).2 = 9 := by
  unfold wordG
  split
  · exact .inl rfl
  · split
    · exact .inr (.inl rfl)
    · split
      · exact .inl rfl
      · exact .inr (.inr rfl)

set_option maxRecDepth 100000 in
set_option maxHeartbeats 8000000 in
theorem words_any (its : List (It × Int)) (names : List (List UInt8)) (ads : List Int) (B P mb : Nat) (v : Value) (w : World) (hP : PrG w B P mb v (its, names, ads)) (hn : its.length ≤ 4096) (hit : ∀ p ∈ its, ImmB p.1 ∧ p.1.2.2.2.2.2.2.1.length ≤ 70000) (hads : ∀ a ∈ ads, 0 ≤ a ∧ a ≤ 100000) (hF : FormTab w) (hE : EncTab w) :
    Calls Tryd.prog 30 #[.pointer (some ⟨P, 0, none⟩)] w fun e w' => LaidAs (laidL names ads its 0 []) w.heap.size e w' ∧ Below w.heap.size w w' := by
  obtain ⟨i0, hi, hz0, hz1, hz2⟩ := info_parts (P := Tryd.prog) (e := 29) (z := .int .u32 0) (size := 1) (bytes := 4) (by kernel_rfl)
  have HP := Lib.hid hP
  have HF := Lib.hid hF
  have HEE := Lib.hid hE
  have HIT := Lib.hid hit
  have HADS := Lib.hid hads
  obtain ⟨pa, pc, hv⟩ := gown_slice hP.2.2
  dsimp only at hv
  subst hv
  obtain ⟨c0, c1⟩ := hP.cells
  have HPL : Hid (P < w.heap.size) := (Array.getElem?_eq_some_iff.1 hP.1).1
  clear hP hF hE hit hads
  go_enter Tryd.func30, Tryd.ntmps30
  go_wp2_with (at_make; refine wpList_make_own _ rfl _ _ 40 rfl w.heap.size 29 i0 _ 1 Tryd.underlying40 hi hz0 hz1 .i64 .i64 _ its.length rfl rfl rfl (by rw [hz2]; omega) (by unfold maxLen; omega) (Nat.le_refl _) ?_)
  intro w1 hown hg
  have HB1 : Hid (Below w.heap.size w w1) := (Below.refl _ _).grown hg (Nat.le_refl _) (fun _ h => by cases h)
  have HO1 : Hid (w1.ownsRow w.heap.size 29 1 _ 0 []) := hown
  clear hg hown
  have c1' : w1.cell? ⟨P, 1, none⟩ = some (.slice pa its.length pc) := scell_on HB1.out c1
  go_wp2_with fail
  go_loopw [5, 21] (fun o i wr => ∃ (k : Nat) (out : List Int), k ≤ its.length ∧ i = .int .i64 k ∧ out.length = k ∧ wr.ownsRow w.heap.size 29 1 o out.length (out.map uV) ∧ Below w.heap.size w wr ∧ Hid (laidL names ads its 0 [] = laidL names ads (its.drop k) k out)) (fun _ i _ => its.length - (intOf i).toNat)
  case atStart => exact ⟨0, [], Nat.zero_le _, rfl, rfl, HO1.out, HB1.out, rfl⟩
  case round =>
    obtain ⟨k, out, hk, rfl, hol, hown, hb, HLX⟩ := hrel
    have HO := Lib.hid hown
    have HB := Lib.hid hb
    clear hown hb c1' c0 c1
    by_cases hlt : k < its.length
    · have HPr := Lib.hid (HP.out.on HB.out)
      obtain ⟨g, cg, hvv⟩ := owned_some HPr.out.2.2 (by show 0 < its.length; omega)
      simp only [Value.slice.injEq] at hvv
      obtain ⟨rfl, _, rfl⟩ := hvv
      have hglt : g < wr.heap.size := by
        rcases HPr.out.2.2.2 with ⟨e, _⟩ | ⟨g', cap, cur, e, _, hg', _⟩
        · simp at e
        · simp only [Value.slice.injEq, Option.some.injEq, Addr.mk.injEq] at e
          obtain ⟨⟨rfl, _⟩, _⟩ := e
          exact (Array.getElem?_eq_some_iff.1 hg').1
      have HCL : Hid (∀ j, j < 10 → wr.cell? ⟨g, k * 10 + j, none⟩ = (stTen (its.getD k (it0, 0)).1 (its.getD k (it0, 0)).2)[j]?) := fun j hj => by
        rw [HPr.out.2.2.cellAt (k * 10 + j) (by show _ < its.length * 10; omega)]
        exact stCells_at its k j hlt hj
      have HIX : Hid (ImmB (its.getD k (it0, 0)).1 ∧ (its.getD k (it0, 0)).1.2.2.2.2.2.2.1.length ≤ 70000) := HIT.out _ (by rw [List.getD_eq_getElem?_getD, List.getElem?_eq_getElem hlt]; exact List.getElem_mem hlt)
      have HLS : Hid (laidL names ads (its.drop k) k out = if (wordG names ads (its.getD k (it0, 0)).1 k).2 = 0 then laidL names ads (its.drop (k + 1)) (k + 1) (out ++ [(wordG names ads (its.getD k (it0, 0)).1 k).1]) else ([], (its.getD k (it0, 0)).2, (wordG names ads (its.getD k (it0, 0)).1 k).2)) := by
        show laidL _ _ _ _ _ = _
        rw [laid_step names ads its k out hlt]
        exact laidG_step names ads _ _ _ k out
      generalize (its.getD k (it0, 0)).1 = x at *
      generalize (its.getD k (it0, 0)).2 = ln at *
      have s0 := HCL.out 0 (by decide)
      have s1 := HCL.out 1 (by decide)
      have s2 := HCL.out 2 (by decide)
      have s3 := HCL.out 3 (by decide)
      have s4 := HCL.out 4 (by decide)
      have s5 := HCL.out 5 (by decide)
      have s6 := HCL.out 6 (by decide)
      have s7 := HCL.out 7 (by decide)
      have s8 := HCL.out 8 (by decide)
      have s9 := HCL.out 9 (by decide)
      simp only [stTen, List.getElem?_toArray, List.getElem?_cons_zero, List.getElem?_cons_succ, Nat.add_zero] at s0 s1 s2 s3 s4 s5 s6 s7 s8 s9
      have HLT := Lib.hid hlt
      have hlt' : (k : Int) < (its.length : Int) := by omega
      have hk0 : (0 : Int) ≤ (k : Int) := by omega
      have hgn : g ≠ wr.heap.size := by omega
      clear hlt
      go_wp2_with fail
      obtain ⟨Wa, hWa⟩ : ∃ W, wr.alloc (.cells #[.int .i64 (kdI x), .int .i64 ln, .int .u32 (plI x), .int .i64 x.1, .int .i64 x.2.1, .int .i64 x.2.2.1, .int .i64 x.2.2.2.1, .int .u32 x.2.2.2.2.1, .int .i64 x.2.2.2.2.2.1, .string (bs x.2.2.2.2.2.2.1)] 55) = W := ⟨_, rfl⟩
      have HBa : Hid (Below wr.heap.size wr Wa) := by show Below _ _ _; rw [← hWa]; exact (Below.refl _ _).alloc (Nat.le_refl _) _
      have HTa : Hid (StB Wa wr.heap.size (kdI x) ln (plI x) x) := by show StB _ _ _ _ _ _; rw [← hWa]; exact heap_alloc_new wr _
      rw [hWa]
      clear hWa s0 s1 s2 s3 s4 s5 s6 s7 s8 s9
      have HBb : Hid (Below w.heap.size w Wa) := HB.out.trans (HBa.out.mono HB.out.size)
      obtain ⟨t0, t1, t2, t3, t4, t5, t6, t7, t8, t9⟩ := HTa.out.cells
      have HAD : Hid (∀ w, Calls Tryd.prog 58 #[.int .i64 k] w fun e w' => e = .returned (.int .u32 (4 * (k : Int))) ∧ w' = w) := fun w => addr_any _ w (by omega)
      have HWD : Hid (∀ V, Below w.heap.size w V → Calls Tryd.prog 59 #[.pointer (some ⟨P, 0, none⟩), .agg #[.int .i64 (kdI x), .int .i64 ln, .int .u32 (plI x), .int .i64 x.1, .int .i64 x.2.1, .int .i64 x.2.2.1, .int .i64 x.2.2.2.1, .int .u32 x.2.2.2.2.1, .int .i64 x.2.2.2.2.2.1, .string (bs x.2.2.2.2.2.2.1)], .int .u32 (4 * (k : Int))] V fun e w' => e = .returned (.tuple #[.int .u32 (wordG names ads x k).1, .int .i64 (wordG names ads x k).2]) ∧ Below V.heap.size V w') := fun V hV => word_any x ln k its names ads B P mb _ V (HP.out.on hV) HIX.out.1 HIX.out.2 HADS.out (by omega) (HF.out.below hV) (HEE.out.below hV)
      have HG9 : Hid ((wordG names ads x k).2 = 0 ∨ (wordG names ads x k).2 = 1 ∨ (wordG names ads x k).2 = 9) := wordG_bd _ _ _ _
      generalize wordG names ads x k = G at *
      go_region_held3 (fun w' => w'.cell? ⟨wr.heap.size, 0, none⟩ = some (.int .i64 (kdI x)) ∧ w'.cell? ⟨wr.heap.size, 1, none⟩ = some (.int .i64 ln) ∧ w'.cell? ⟨wr.heap.size, 2, none⟩ = some (.int .u32 (plI x)) ∧ w'.cell? ⟨wr.heap.size, 3, none⟩ = some (.int .i64 x.1) ∧ w'.cell? ⟨wr.heap.size, 4, none⟩ = some (.int .i64 x.2.1) ∧ w'.cell? ⟨wr.heap.size, 5, none⟩ = some (.int .i64 x.2.2.1) ∧ w'.cell? ⟨wr.heap.size, 6, none⟩ = some (.int .i64 x.2.2.2.1) ∧ w'.cell? ⟨wr.heap.size, 7, none⟩ = some (.int .u32 x.2.2.2.2.1) ∧ w'.cell? ⟨wr.heap.size, 8, none⟩ = some (.int .i64 x.2.2.2.2.2.1) ∧ w'.cell? ⟨wr.heap.size, 9, none⟩ = some (.string (bs x.2.2.2.2.2.2.1))) (first | (refine ⟨?_, ?_, ?_, ?_, ?_, ?_, ?_, ?_, ?_, ?_⟩ <;> assumption) | go_keep)
        (first
          | (go_at_call 58; refine (HAD.out _).mono ?_; rintro e w' ⟨rfl, hw⟩; have hw := hw.symm; subst hw)
          | (go_at_call 59; refine (HWD.out _ (by exact HBb.out.drew)).mono ?_; rintro e w2 ⟨rfl, hb2⟩; have HB2 : Hid (Below Wa.heap.size Wa w2) := (by exact ((Below.refl _ Wa).drew).trans hb2); have HT2 := Lib.hid (StB.on HTa.out HB2.out); obtain ⟨t0, t1, t2, t3, t4, t5, t6, t7, t8, t9⟩ := HT2.out.cells; clear hb2))
      have HBc : Hid (Below w.heap.size w w2) := HBb.out.trans (HB2.out.mono HBb.out.size)
      have HOc : Hid (w2.ownsRow w.heap.size 29 1 _ out.length (out.map uV)) := lown_on (lown_on HO.out HBa.out) HB2.out
      by_cases hg0 : G.2 = 0
      · rw [hg0]
        have HGO : Hid (laidL names ads its 0 [] = laidL names ads (its.drop (k + 1)) (k + 1) (out ++ [G.1])) := by
          show laidL _ _ _ _ _ = _
          rw [HLX.out, HLS.out, if_pos hg0]
        clear hg0
        go_wp2_with (at_builtin; refine wpList_append_own _ rfl _ _ 40 rfl w.heap.size 29 i0 _ 1 4 Tryd.underlying40 hi hz0 hz1 hz2 rfl (by decide) _ _ _ rfl (HOc.out.alloc _) ⟨w2.heap.size, 0, none⟩ 1 1 [.int .u32 G.1] rfl rfl (news1 _ _ _) ?c2 ?c3 ?c4 ?c5 ?_)
        case c2 => first | rfl | (intro u hu; simp at hu; subst hu; rfl)
        case c3 => unfold maxLen; first | omega | (simp; omega)
        case c4 => first | omega | (simp; omega)
        case c5 => have := HBc.out.size; simp; omega
        intro v3 w3 hown' hgrow _
        have HBw3 : Hid (Below w.heap.size w w3) := (HBc.out.alloc HBc.out.size _).grown hgrow (by have := HBc.out.size; simp; omega) (fun j hj => (HOc.out.lt j hj).1)
        have HOw3 : Hid (w3.ownsRow w.heap.size 29 1 v3 (out ++ [G.1]).length ((out ++ [G.1]).map uV)) := by
          rw [List.map_append, List.length_append, hol]; exact hown'
        clear hown' hgrow
        go_wp2
        go_roundw
        case rel => exact ⟨k + 1, out ++ [G.1], HLT.out, by go_num, by simp; omega, HOw3.out, HBw3.out, HGO.out⟩
        case measure => have := HLT.out; simp [intOf]; omega
      · have HGO : Hid (laidL names ads its 0 [] = ([], ln, G.2)) := by
          show laidL _ _ _ _ _ = _
          rw [HLX.out, HLS.out, if_neg hg0]
        have hg1 : (G.2 != 0) = true := by simpa using hg0
        clear hg0
        go_wp2_with fail
        go_quiet (fail)
        go_wp2
        go_ret3
        refine ⟨?_, HBc.out.trans (Q.below ⟨_, rfl⟩ _)⟩
        rw [HGO.out]
        exact ⟨_, rfl, World.ownsRow_nil _ _ _ _⟩
    · obtain rfl : k = its.length := by omega
      have HGO : Hid (laidL names ads its 0 [] = (out, 0, 0)) := by
        show laidL _ _ _ _ _ = _
        rw [HLX.out, List.drop_length]; rfl
      go_wp2
      go_ret3
      refine ⟨?_, HB.out⟩
      rw [HGO.out]
      exact ⟨_, rfl, HO.out⟩
end Go.Proofs.YthgolbmngjdbeaaDoor

/- Layer 6: strings.Split at sign 10, over lists of signs; lines as the program cuts them. -/
namespace Go.Proofs.YthgolbmngjdbeaaDoor
open Go.RowKit
set_option linter.unusedVariables false

/-- The lines of what is left, behind the beginning of one; the last one is there, empty or not. -/
def splA : List UInt8 → List UInt8 → List (List UInt8)
  | [], cur => [cur]
  | c :: r, cur => if c = 10 then cur :: splA r [] else splA r (cur ++ [c])
def splL (l : List UInt8) : List (List UInt8) := splA l []
theorem splA_pre : ∀ (a r cur : List UInt8), (∀ c ∈ a, c ≠ 10) → splA (a ++ r) cur = splA r (cur ++ a)
  | [], r, cur, _ => by simp
  | c :: a, r, cur, h => by
    have hc : c ≠ 10 := h c (by simp)
    rw [List.cons_append, splA, if_neg hc, splA_pre a r (cur ++ [c]) fun x hx => h x (by simp [hx])]
    simp
theorem splA_lns : ∀ (l cur : List UInt8), splA l cur = lns l cur ∨ splA l cur = lns l cur ++ [ [] ]
  | [], cur => by
    by_cases h : cur = []
    · subst h; exact .inr rfl
    · exact .inl (by simp [splA, lns, h])
  | c :: r, cur => by
    by_cases h : c = 10
    · rcases splA_lns r [] with e | e
      · exact .inl (by simp [splA, lns, h, e])
      · exact .inr (by simp [splA, lns, h, e])
    · rcases splA_lns r (cur ++ [c]) with e | e
      · exact .inl (by simp [splA, lns, h, e])
      · exact .inr (by simp [splA, lns, h, e])
theorem idx_parts : ∀ l : List UInt8, (Lib.indexByte l 10 = -1 ∧ ∀ c ∈ l, c ≠ 10) ∨ ∃ a b, l = a ++ 10 :: b ∧ (∀ c ∈ a, c ≠ 10) ∧ Lib.indexByte l 10 = (a.length : Int)
  | [] => .inl ⟨rfl, fun _ h => by cases h⟩
  | c :: r => by
    by_cases h : c = 10
    · subst h
      exact .inr ⟨[], r, rfl, (fun _ h => by cases h), rfl⟩
    · have hb : (c == 10) = false := by simpa using h
      rcases idx_parts r with ⟨e, g⟩ | ⟨a, b, rfl, g, e⟩
      · refine .inl ⟨by simp [Lib.indexByte, hb, e], fun x hx => ?_⟩
        rcases List.mem_cons.1 hx with rfl | hx
        · exact h
        · exact g x hx
      · refine .inr ⟨c :: a, b, rfl, fun x hx => ?_, ?_⟩
        · rcases List.mem_cons.1 hx with rfl | hx
          · exact h
          · exact g x hx
        · have hne : ((a.length : Int) == -1) = false := by rw [beq_eq_false_iff_ne]; omega
          simp only [Lib.indexByte, hb, e, hne]
          simp
theorem splitK_spl : ∀ (k : Nat) (l : List UInt8), l.count 10 ≤ k → Lib.splitK [10] 0 k l = splL l
  | 0, l, h => by
    have h0 : ∀ c ∈ l, c ≠ 10 := fun c hc e => by
      subst e
      have := List.count_pos_iff.2 hc
      omega
    have := splA_pre l [] [] h0
    rw [List.append_nil] at this
    unfold splL
    rw [this]
    simp [Lib.splitK, splA]
  | k + 1, l, h => by
    rcases idx_parts l with ⟨e, g⟩ | ⟨a, b, rfl, g, e⟩
    · have := splA_pre l [] [] g
      rw [List.append_nil] at this
      unfold splL
      rw [this]
      simp [Lib.splitK, Lib.index_one, e, splA]
    · have hne : ((a.length : Int) == -1) = false := by rw [beq_eq_false_iff_ne]; omega
      have ih := splitK_spl k b (by simp [List.count_append] at h; omega)
      unfold splL
      rw [splA_pre a (10 :: b) [] g]
      simp only [Lib.splitK, Lib.index_one, e, hne]
      simp only [splA, List.nil_append, if_true]
      have e1 : (a ++ 10 :: b).take ((a.length : Int).toNat + 0) = a := by simp
      have e2 : (a ++ 10 :: b).drop ((a.length : Int).toNat + ([10] : List UInt8).length) = b := by
        simp only [Int.toNat_natCast, List.length_singleton]
        rw [List.drop_append]
        simp
      rw [e1, e2, ih]
      rfl
theorem splA_len : ∀ (l cur : List UInt8), (splA l cur).length = l.count 10 + 1
  | [], cur => rfl
  | c :: r, cur => by
    rw [splA]
    by_cases h : c = 10
    · subst h; simp [splA_len r []]
    · rw [if_neg h, splA_len r, List.count_cons_of_ne h]
theorem splA_bd : ∀ (r cur : List UInt8) (N : Nat), cur.length + r.length ≤ N → ∀ q ∈ splA r cur, q.length ≤ N
  | [], cur, N, h => by
    intro q hq
    simp [splA] at hq
    subst hq; simpa using h
  | c :: r, cur, N, h => by
    simp only [List.length_cons] at h
    rw [splA]
    split
    · intro q hq
      rcases List.mem_cons.1 hq with rfl | hq
      · omega
      · exact splA_bd r [] N (by simp; omega) q hq
    · exact splA_bd r (cur ++ [c]) N (by simp; omega)
theorem spl_cells (l : List UInt8) (k : Nat) (h : l.count 10 ≤ k) : (Lib.splitB ⟨#[10]⟩ 0 k (bs l)).map Value.string = (splL l).map sV := by
  have e := Lib.splitB_data ⟨#[10]⟩ 0 k (bs l)
  have e2 : (bs l).data.toList = l := by simp [bs]
  rw [e2] at e
  have e3 := splitK_spl k l h
  have e4 : (Lib.splitB ⟨#[10]⟩ 0 k (bs l)).map (·.data.toList) = splL l := e.trans e3
  rw [← e4, List.map_map]
  refine List.map_congr_left fun x _ => ?_
  simp [sV, bs]

theorem gensplit_any (l : List UInt8) (w : World) (hl : l.length ≤ 70000) :
    Calls Tryd.prog 55 #[.string (bs l), .string ⟨#[10]⟩, .int .i64 0, .int .i64 (-1)] w fun e w' => e = .returned (.slice (some ⟨w.heap.size, 0, none⟩) (splL l).length (splL l).length) ∧ w' = w.alloc (.cells ((splL l).map sV).toArray 9) := by
  have hsz : (bs l).size = l.length := bs_size l
  have e2 : (bs l).data.toList = l := by simp [bs]
  have hcb : Lib.countB (bs l) ⟨#[10]⟩ = l.count 10 := by
    show Lib.count (bs l).data.toList [10] = _
    rw [e2, Lib.count_one]
  have hle : l.count 10 ≤ l.length := List.count_le_length
  have hi9 : (Tryd.prog.info? (lays221_ren.t 9)).map (fun i => (i.zero, i.size, i.bytes)) = some (some (.string ByteArray.empty), 1, 16) := by kernel_rfl
  have c := Any.strings_genSplit_core lays221 hi9 (bs l) ⟨#[10]⟩ 0 (-1) (l.count 10 + 1) w (by omega) (by decide) (by decide)
    (fun x cc hx => (Any.strings_Index_one { lays221 with } x 10 (w.alloc (.cells cc (lays221_ren.t 9)))).mono fun e w' ⟨he, hw⟩ => ⟨by rw [he]; show _ = Ending.returned (.int .i64 (Lib.index x.data.toList [10])); rw [Lib.index_one], hw⟩)
    ((Any.strings_Count_one { lays221 with } (bs l) 10 w).mono fun e w' ⟨he, hw⟩ => ⟨by rw [he, hcb, e2]; rfl, hw⟩)
    (by decide) (by decide) (by rw [if_pos (by decide), hcb]; omega)
  rw [Nat.add_sub_cancel] at c
  have hcells := spl_cells l (l.count 10) (Nat.le_refl _)
  have hlen : (Lib.splitB ⟨#[10]⟩ 0 (l.count 10) (bs l)).length = (splL l).length := by
    have := congrArg List.length hcells
    simpa using this
  have hlen2 : (splL l).length = l.count 10 + 1 := splA_len l []
  have hce : Lib.cellsOf (Lib.splitB ⟨#[10]⟩ 0 (l.count 10) (bs l)) (l.count 10 + 1) = ((splL l).map sV).toArray := by
    rw [← hlen2, ← hlen, Lib.cellsOf_full, hcells]
  rw [hce, hlen, ← hlen2] at c
  exact c

set_option maxHeartbeats 400000 in
theorem split_any (l : List UInt8) (w : World) (hl : l.length ≤ 70000) :
    Calls Tryd.prog 28 #[.string (bs l), .string ⟨#[10]⟩] w fun e w' => e = .returned (.slice (some ⟨w.heap.size, 0, none⟩) (splL l).length (splL l).length) ∧ w' = w.alloc (.cells ((splL l).map sV).toArray 9) := by
  have HG := Lib.hid (gensplit_any l w hl)
  go_enter Tryd.func28, Tryd.ntmps28
  go_wp2_with (go_at_call 55; refine HG.out.mono ?_; rintro e w' ⟨rfl, hw⟩; rw [hw])
  go_ret
  exact ⟨rfl, rfl⟩
end Go.Proofs.YthgolbmngjdbeaaDoor

/- Layer 6, the program's own Program. -/
namespace Go.Proofs.YthgolbmngjdbeaaDoor
open Go.RowKit
set_option linter.unusedVariables false
set_option linter.unusedSimpArgs false

def goG (ill : Bool) : List (List UInt8) → Nat → St → St ⊕ (Int × Int)
  | [], _, st => .inl st
  | l :: r, n, st => match stepG ill (n : Int) l st with
    | .inr e => .inr e
    | .inl st' => goG ill r (n + 1) st'
/-- A program, as the program reads it. -/
def progG (ill : Bool) (l : List UInt8) : List Int × Int × Int := endL (goG ill (splL l) 0 ([], [], []))
theorem goG_step (ill : Bool) (ls : List (List UInt8)) (n : Nat) (st : St) (h : n < ls.length) : goG ill (ls.drop n) n st = match stepG ill (n : Int) (ls.getD n []) st with
    | .inr e => .inr e
    | .inl st' => goG ill (ls.drop (n + 1)) (n + 1) st' := by
  have e1 : ls.drop n = ls.getD n [] :: ls.drop (n + 1) := by
    rw [List.drop_eq_getElem_cons h]; simp [List.getD, h]
  rw [e1, goG]

/-- What the rounds keep. -/
def OkS (n : Nat) (st : St) : Prop := st.1.length ≤ 4096 ∧ st.2.1.length ≤ n ∧ st.2.2.length = st.2.1.length ∧ (∀ p ∈ st.1, ImmB p.1 ∧ p.1.2.2.2.2.2.2.1.length ≤ 70000) ∧ (∀ a ∈ st.2.2, 0 ≤ a ∧ a ≤ 100000)
theorem OkS.up {n : Nat} {st : St} (h : OkS n st) : OkS (n + 1) st := ⟨h.1, Nat.le_succ_of_le h.2.1, h.2.2⟩
theorem takeL_lab {x y : It} {what s : List UInt8} (hx : x.2.2.2.2.2.2.1.length ≤ 70000) (hs : s.length ≤ 70000) (h : takeL x what s = some y) : y.2.2.2.2.2.2.1.length ≤ 70000 := by
  unfold takeL at h
  repeat' split at h
  all_goals first
    | (cases h; done)
    | (simp only [Option.some.injEq] at h; subst h; first | exact hx | exact hs)
    | (obtain ⟨n, _, rfl⟩ := Option.map_eq_some_iff.1 h; exact hx)
theorem takesL_lab : ∀ {ws ps : List (List UInt8)} {x y : It}, x.2.2.2.2.2.2.1.length ≤ 70000 → (∀ p ∈ ps, p.length ≤ 70000) → takesL x ws ps = some y → y.2.2.2.2.2.2.1.length ≤ 70000
  | [], ps, x, y, hx, hp, h => by
    rw [takesL_nil] at h; cases h; exact hx
  | w :: ws, [], x, y, hx, hp, h => by
    simp only [takesL, Option.some.injEq] at h; subst h; exact hx
  | w :: ws, p :: ps, x, y, hx, hp, h => by
    rw [takesL] at h
    obtain ⟨z, hz, h⟩ := Option.bind_eq_some_iff.1 h
    exact takesL_lab (takeL_lab hx (hp p (by simp)) hz) (fun q hq => hp q (by simp [hq])) h
theorem readG_ok {ill : Bool} {ps : List (List UInt8)} {x : It} (hp : ∀ p ∈ ps, p.length ≤ 70000) (h : readG ill ps = some x) : ImmB x ∧ x.2.2.2.2.2.2.1.length ≤ 70000 := by
  unfold readG at h
  split at h
  · obtain ⟨n, _, rfl⟩ := Option.map_eq_some_iff.1 h
    exact ⟨⟨(by show (0 : Int) ≤ 0; decide), (by show (0 : Int) < 4294967296; decide)⟩, (by show (0 : Nat) ≤ 70000; decide)⟩
  · refine ⟨insG_bd h, ?_⟩
    unfold insG at h
    split at h
    · cases h
    split at h
    · cases h
    split at h
    · cases h
    exact takesL_lab (x := itOp _) (by show (0 : Nat) ≤ 70000; decide) (fun q hq => hp q (List.mem_of_mem_drop hq)) h
theorem okS_body {ill : Bool} {n : Nat} {p : List (List UInt8)} {st st' : St} (hp : ∀ q ∈ p, q.length ≤ 70000) (hok : OkS (n + 1) st) (h : bodyG ill (n : Int) p st = .inl st') : OkS (n + 1) st' := by
  unfold bodyG at h
  split at h
  · simp only [Sum.inl.injEq] at h; subst h; exact hok
  · split at h
    · cases h
    · rename_i x hx
      split at h
      · cases h
      · rename_i h4
        simp only [Sum.inl.injEq] at h
        subst h
        obtain ⟨a1, a2, a3, a4, a5⟩ := hok
        refine ⟨by simp; omega, a2, a3, fun q hq => ?_, a5⟩
        rcases List.mem_append.1 hq with hq | hq
        · exact a4 q hq
        · simp at hq; subst hq; exact readG_ok hp hx
theorem okS_step {ill : Bool} {n : Nat} {l : List UInt8} {st st' : St} (hl : l.length ≤ 70000) (hok : OkS n st) (h : stepG ill (n : Int) l st = .inl st') : OkS (n + 1) st' := by
  unfold stepG at h
  split at h
  · cases h
  · rename_i p hp
    have hb := pieces_bd hp hl
    have hr : ∀ q ∈ restG p, q.length ≤ 70000 := by
      unfold restG
      split
      · exact fun q hq => hb.1 q (List.mem_of_mem_drop hq)
      · exact hb.1
    split at h
    · cases h
    · split at h
      · split at h
        · cases h
        · refine okS_body hr ?_ h
          obtain ⟨a1, a2, a3, a4, a5⟩ := hok
          refine ⟨a1, by simp; omega, by simp; omega, a4, fun a ha => ?_⟩
          rcases List.mem_append.1 ha with ha | ha
          · exact a5 a ha
          · simp at ha; subst ha; omega
      · exact okS_body hr hok.up h

theorem gown_low {w : World} {B B' : Nat} {e : TypeId} {s n : Nat} {v : Value} {xs : List Value} (h : w.ownsRow B e s v n xs) (hB : B' ≤ B) : w.ownsRow B' e s v n xs := by
  refine ⟨h.1, ?_⟩
  rcases h.2 with hn | ⟨g, cap, cur, hv, hb, rest⟩
  · exact .inl hn
  · exact .inr ⟨g, cap, cur, hv, by omega, rest⟩
theorem stepG_line {ill : Bool} {n : Int} {l : List UInt8} {st : St} {m er : Int} (h : stepG ill n l st = .inr (m, er)) : m = n + 1 := by
  unfold stepG bodyG at h
  repeat' split at h
  all_goals first
    | (simp only [Sum.inr.injEq, Prod.mk.injEq] at h; exact h.1.symm)
    | cases h

set_option maxRecDepth 100000 in
set_option maxHeartbeats 400000 in
theorem prog6_long (s : ByteArray) (w : World) (hs : s.size ≤ maxLen) (hl : 65536 < s.size) :
    Calls Tryd.prog 13 #[.string s] w fun e w' => e = .returned (.tuple #[.slice none 0 0, .int .i64 0, .int .i64 3]) ∧ w' = w := by
  unfold maxLen at hs
  go_enter Tryd.func13, Tryd.ntmps13
  go_wp2
  go_ret3
  exact ⟨rfl, rfl⟩

set_option maxRecDepth 100000 in
set_option maxHeartbeats 8000000 in
theorem prog6_any (l : List UInt8) (w : World) (hl : l.length ≤ 65536) (hF : FormTab w) (hN : NameTab w) (hS : SpTab w) (hE : EncTab w) :
    Calls Tryd.prog 13 #[.string (bs l)] w fun e w' => LaidAs (progG false l) w.heap.size e w' ∧ Below w.heap.size w w' := by
  have hsz : (bs l).size = l.length := bs_size l
  have hmm := @run_makeMap Tryd.prog
  have HF := Lib.hid hF
  have HN := Lib.hid hN
  have HS := Lib.hid hS
  have HEE := Lib.hid hE
  have HL := Lib.hid hl
  have hlen : (splL l).length ≤ 65537 := by
    have e : (splL l).length = l.count 10 + 1 := splA_len l []
    have : l.count 10 ≤ l.length := List.count_le_length
    omega
  have HBD : Hid (∀ q ∈ splL l, q.length ≤ 70000) := splA_bd l [] 70000 (by simp; omega)
  have HPG : Hid (progG false l = endL (goG false (splL l) 0 ([], [], []))) := rfl
  have HSP : Hid (∀ w, Calls Tryd.prog 28 #[.string (bs l), .string ⟨#[10]⟩] w fun e w' => e = .returned (.slice (some ⟨w.heap.size, 0, none⟩) (splL l).length (splL l).length) ∧ w' = w.alloc (.cells ((splL l).map sV).toArray 9)) := fun w => split_any l w (by omega)
  generalize splL l = ls at *
  clear hF hN hS hE
  go_enter Tryd.func13, Tryd.ntmps13
  go_wp2_with fail
  refine (HSP.out _).mono ?_
  rintro e w2 ⟨rfl, hw2⟩
  have hsz2 : ((w.alloc (.map #[] 0)).alloc (.cells #[.map (some w.heap.size), .slice none 0 0] 66)).heap.size = w.heap.size + 2 := by simp
  have hsz1 : (w.alloc (.map #[] 0)).heap.size = w.heap.size + 1 := by simp
  rw [hsz2]
  have b1 : Below w.heap.size w (w.alloc (.map #[] 0)) := (Below.refl _ _).alloc (Nat.le_refl _) _
  have b2 : Below (w.heap.size + 1) (w.alloc (.map #[] 0)) ((w.alloc (.map #[] 0)).alloc (.cells #[.map (some w.heap.size), .slice none 0 0] 66)) := (Below.refl _ _).alloc (by simp) _
  have b3 : Below (w.heap.size + 2) ((w.alloc (.map #[] 0)).alloc (.cells #[.map (some w.heap.size), .slice none 0 0] 66)) w2 := by rw [hw2]; exact (Below.refl _ _).alloc (by simp) _
  have HB2 : Hid (Below w.heap.size w w2) := (b1.trans (b2.mono (by omega))).trans (b3.mono (by omega))
  have HLN : Hid (w2.heap[w.heap.size + 2]? = some (.cells (ls.map sV).toArray 9)) := by
    show _ = _
    rw [hw2, ← hsz2]; exact heap_alloc_new _ _
  have HP2 : Hid (PrG w2 w.heap.size (w.heap.size + 1) w.heap.size (.slice none 0 0) ([], [], [])) := by
    refine ⟨?_, ⟨.map [], ?_, labIs_nil⟩, World.ownsRow_nil _ _ _ _⟩
    · rw [b3.block (w.heap.size + 1) (by omega), ← hsz1]
      exact heap_alloc_new _ _
    · have hm : MapAt (w.alloc (.map #[] 0)) w.heap.size 0 (.map []) := World.ownsMap_made w Tryd.prog 9 (plainElem Tryd.prog 29)
      have hm2 := mapAt_on hm (w' := (w.alloc (.map #[] 0)).alloc (.cells #[.map (some w.heap.size), .slice none 0 0] 66)) ((Below.refl _ _).alloc (Nat.le_refl _) _)
      exact mapAt_on hm2 (by rw [hsz2]; exact b3)
  have HZ2 : Hid (w2.heap.size = w.heap.size + 3) := by
    show _ = _
    rw [hw2]; simp
  clear b1 b2 b3 hw2 hsz2 hsz1 HSP hmm
  go_wp2_with fail
  go_loopw [17] (fun i wr => ∃ (n : Nat) (st : St) (v : Value), n ≤ ls.length ∧ i = .int .i64 n ∧ PrG wr w.heap.size (w.heap.size + 1) w.heap.size v st ∧ OkS n st ∧ wr.heap[w.heap.size + 2]? = some (.cells (ls.map sV).toArray 9) ∧ Below w.heap.size w wr ∧ Hid (goG false ls 0 ([], [], []) = goG false (ls.drop n) n st)) (fun i _ => ls.length - (intOf i).toNat)
  case atStart => exact ⟨0, ([], [], []), .slice none 0 0, Nat.zero_le _, rfl, HP2.out, ⟨(by show (0 : Nat) ≤ 4096; decide), Nat.le_refl _, rfl, (fun p hp => by cases hp), fun a ha => by cases ha⟩, HLN.out, HB2.out, rfl⟩
  case round =>
    obtain ⟨n, st, v, hn, rfl, hP, hok, hln, hb, HGX⟩ := hrel
    have HP := Lib.hid hP
    have HOK := Lib.hid hok
    have HLR := Lib.hid hln
    have HB := Lib.hid hb
    clear hP hok hln hb
    by_cases hlt : n < ls.length
    · have HQL : Hid ((ls.getD n []).length ≤ 70000) := HBD.out _ (by rw [List.getD_eq_getElem?_getD, List.getElem?_eq_getElem hlt]; exact List.getElem_mem hlt)
      have cl : wr.cell? ⟨w.heap.size + 2, n, none⟩ = some (.string (bs (ls.getD n []))) := by
        have h := HLR.out
        simp [World.cell?, h, hlt, sV]
      have HST : Hid (goG false (ls.drop n) n st = match stepG false (n : Int) (ls.getD n []) st with
          | .inr e => .inr e
          | .inl st' => goG false (ls.drop (n + 1)) (n + 1) st') := goG_step false ls n st hlt
      have HSO : Hid (∀ st', stepG false (n : Int) (ls.getD n []) st = .inl st' → OkS (n + 1) st') := fun st' h => okS_step HQL.out HOK.out h
      have HAD : Hid (Calls Tryd.prog 29 #[.pointer (some ⟨w.heap.size + 1, 0, none⟩), .int .i64 ((n : Int) + 1), .string (bs (ls.getD n []))] wr (AddAs (stepG false n (ls.getD n []) st) w.heap.size (w.heap.size + 1) w.heap.size v wr)) := add_any _ n st _ _ _ v wr HQL.out (by omega) HOK.out.1 HOK.out.2.1 HOK.out.2.2.1 HB.out.size HP.out (HF.out.below HB.out) (HN.out.below HB.out) (spTab_below HS.out HB.out)
      generalize ls.getD n [] = q at *
      have hlt' : (n : Int) < (ls.length : Int) := by omega
      have hn0 : (0 : Int) ≤ (n : Int) := by omega
      have HLT := Lib.hid hlt
      clear hlt
      go_wp2_with fail
      refine HAD.out.mono ?_
      rintro e w3 ⟨hfr, hres⟩
      have HFR := Lib.hid hfr
      have HNV : Hid (∀ k, k < w.heap.size → v.ownBlock ≠ some k) := fun k hk e => by
        rcases HP.out.2.2.2 with ⟨rfl, _⟩ | ⟨g, cap, cur, rfl, hb, _⟩
        · simp [Value.ownBlock] at e
        · simp only [Value.ownBlock, Option.some.injEq] at e; omega
      have HB3 : Hid (Below w.heap.size w w3) := HB.out.trans ⟨HFR.out.1, HFR.out.2.1, HFR.out.2.2.1, HFR.out.2.2.2.1, fun k hk => HFR.out.2.2.2.2 k (by have := HB.out.size; omega) (by omega) (by omega) (HNV.out k hk)⟩
      have HL3 : Hid (w3.heap[w.heap.size + 2]? = some (.cells (ls.map sV).toArray 9)) := by
        show _ = _
        rw [HFR.out.2.2.2.2 (w.heap.size + 2) (Array.getElem?_eq_some_iff.1 HLR.out).1 (by omega) (by omega) ?_]
        · exact HLR.out
        · rcases HP.out.2.2.2 with ⟨rfl, _⟩ | ⟨g, cap, cur, rfl, _, hg, _⟩
          · simp [Value.ownBlock]
          · simp only [Value.ownBlock, ne_eq, Option.some.injEq]
            rintro rfl
            have h := HLR.out
            rw [hg] at h
            simp only [Option.some.injEq, Obj.cells.injEq] at h
            exact absurd h.2.1 (by decide)
      clear hfr
      rcases hres with ⟨st', v', hst, rfl, hP'⟩ | ⟨ne, er, hst, rfl, her⟩
      · have HP' := Lib.hid hP'
        have HOK' := Lib.hid (HSO.out st' hst)
        have HGO : Hid (goG false ls 0 ([], [], []) = goG false (ls.drop (n + 1)) (n + 1) st') := by
          show goG _ _ _ _ = _
          rw [HGX.out, HST.out, hst]
        clear hP' hst
        go_wp2
        go_roundw
        case rel => exact ⟨n + 1, st', v', HLT.out, by go_num, HP'.out, HOK'.out, HL3.out, HB3.out, HGO.out⟩
        case measure => have := HLT.out; simp [intOf]; omega
      · have HNE : Hid (ne = (n : Int) + 1) := stepG_line hst
        have HE : Hid (progG false l = ([], ne, er)) := by
          show progG false l = _
          rw [HPG.out, HGX.out, HST.out, hst]; rfl
        have her' : (er != 0) = true := by simpa using her
        clear hst her
        go_wp2
        go_ret3
        refine ⟨?_, HB3.out⟩
        rw [HE.out, HNE.out]
        exact ⟨_, rfl, World.ownsRow_nil _ _ _ _⟩
    · obtain rfl : n = ls.length := by omega
      have HE : Hid (progG false l = laidL st.2.1 st.2.2 st.1 0 []) := by
        show progG false l = _
        rw [HPG.out, HGX.out, List.drop_length]; rfl
      have HWD : Hid (Calls Tryd.prog 30 #[.pointer (some ⟨w.heap.size + 1, 0, none⟩)] wr fun e w' => LaidAs (laidL st.2.1 st.2.2 st.1 0 []) wr.heap.size e w' ∧ Below wr.heap.size wr w') := words_any st.1 st.2.1 st.2.2 _ _ _ v wr HP.out HOK.out.1 HOK.out.2.2.2.1 HOK.out.2.2.2.2 (HF.out.below HB.out) (HEE.out.below HB.out)
      go_wp2_with fail
      refine HWD.out.mono ?_
      rintro e w3 ⟨⟨vo, rfl, ho⟩, hb3⟩
      have HB3 : Hid (Below w.heap.size w w3) := HB.out.trans (hb3.mono HB.out.size)
      have HO3 := Lib.hid ho
      clear hb3 ho
      go_wp2
      go_ret3
      refine ⟨?_, HB3.out⟩
      rw [HE.out]
      exact ⟨vo, rfl, gown_low HO3.out HB.out.size⟩
end Go.Proofs.YthgolbmngjdbeaaDoor

/- Layer 6: awake; the walk of AsmPieces. -/
namespace Go.Proofs.YthgolbmngjdbeaaDoor
open Go.RowKit
set_option linter.unusedVariables false
set_option linter.unusedSimpArgs false

def awL : List UInt8 := [97, 100, 100, 105, 32, 120, 49, 44, 32, 120, 48, 44, 32, 49, 48]
def awP : List UInt8 := [108, 111, 111, 112, 58, 32, 97, 100, 100, 105, 32, 120, 49, 44, 32, 120, 49, 44, 32, 45, 49, 10, 98, 110, 101, 32, 120, 49, 44, 32, 120, 48, 44, 32, 108, 111, 111, 112, 10]
theorem aw_line : lineG false awL = ((19, 1, 0, 0, 10, 0), 0) := by decide +kernel
theorem aw_prog : progG false awP = ([4293951635, 4261453539], 0, 0) := by decide +kernel

set_option maxRecDepth 100000 in
set_option maxHeartbeats 1000000 in
theorem awake6_any (w : World) (hF : FormTab w) (hN : NameTab w) (hS : SpTab w) (hE : EncTab w) :
    Calls Tryd.prog 6 #[] w fun e w' => e = .returned (.bool true) ∧ Below w.heap.size w w' := by
  have h1 := line6_any awL w (by decide) hF hN hS
  have e1 : bs awL = ⟨#[97, 100, 100, 105, 32, 120, 49, 44, 32, 120, 48, 44, 32, 49, 48]⟩ := rfl
  rw [e1, aw_line] at h1
  have HL := Lib.hid h1
  have HPR : Hid (∀ V, Below w.heap.size w V → Calls Tryd.prog 13 #[.string ⟨#[108, 111, 111, 112, 58, 32, 97, 100, 100, 105, 32, 120, 49, 44, 32, 120, 49, 44, 32, 45, 49, 10, 98, 110, 101, 32, 120, 49, 44, 32, 120, 48, 44, 32, 108, 111, 111, 112, 10]⟩] V fun e w' => LaidAs ([4293951635, 4261453539], 0, 0) V.heap.size e w' ∧ Below V.heap.size V w') := fun V hV => by
    have h2 := prog6_any awP V (by decide) (hF.below hV) (hN.below hV) (spTab_below hS hV) (hE.below hV)
    have e2 : bs awP = ⟨#[108, 111, 111, 112, 58, 32, 97, 100, 100, 105, 32, 120, 49, 44, 32, 120, 49, 44, 32, 45, 49, 10, 98, 110, 101, 32, 120, 49, 44, 32, 120, 48, 44, 32, 108, 111, 111, 112, 10]⟩ := rfl
    rw [e2, aw_prog] at h2
    exact h2
  clear h1 e1 hF hN hS hE
  go_enter Tryd.func6, Tryd.ntmps6
  go_wp2_with fail
  refine HL.out.mono ?_
  rintro e w1 ⟨rfl, hb1⟩
  have HB1 := Lib.hid hb1
  clear hb1
  unfold six6
  go_wp2_with fail
  obtain ⟨W, hW⟩ : ∃ W, w1.alloc (.cells #[.int .i64 19, .int .i64 1, .int .i64 0, .int .i64 0, .int .u32 10, .int .i64 0] 36) = W := ⟨_, rfl⟩
  have HBW : Hid (Below w1.heap.size w1 W) := by show Below _ _ _; rw [← hW]; exact (Below.refl _ _).alloc (Nat.le_refl _) _
  have HTW : Hid (SixG W w1.heap.size 19 1 0 0 10 0) := by show SixG _ _ _ _ _ _ _ _; rw [← hW]; exact sixG_new w1 _ _ _ _ _ _
  rw [hW]
  clear hW
  have HB2 : Hid (Below w.heap.size w W) := HB1.out.trans (HBW.out.mono HB1.out.size)
  refine (HPR.out W HB2.out).mono ?_
  rintro e w2 ⟨⟨vo, rfl, ho⟩, hb2⟩
  have HB3 : Hid (Below w.heap.size w w2) := HB2.out.trans (hb2.mono HB2.out.size)
  have HT2 := Lib.hid (SixG.on HTW.out hb2)
  have ho' : w2.ownsRow W.heap.size 29 1 vo 2 [.int .u32 4293951635, .int .u32 4261453539] := ho
  obtain ⟨g, c, rfl⟩ := owned_some ho' (by decide)
  have c1 : w2.cell? ⟨g, 1, none⟩ = some (.int .u32 4261453539) := ho'.cellAt 1 (by decide)
  obtain ⟨s0, s1, s2, s3, s4, s5⟩ := HT2.out.cells
  clear ho ho' hb2
  go_wp2
  go_ret
  exact ⟨rfl, HB3.out⟩
end Go.Proofs.YthgolbmngjdbeaaDoor

namespace Go.Proofs.YthgolbmngjdbeaaDoor.asmPieces
open Go.RowKit
set_option linter.unusedVariables false
set_option linter.unusedSimpArgs false

set_option maxRecDepth 100000 in
set_option maxHeartbeats 4000000 in
theorem short (l : List UInt8) (w : World) (hl : l.length ≤ 3000) (tf : FormTab w) (tn : NameTab w) (te : EncTab w) (ts : SpTab w) :
    Calls Tryd.prog 3 #[.string (bs l)] w fun e w' => e = .returned (.bool true) ∧ Below w.heap.size w w' := by
  have hsz : (bs l).size = l.length := bs_size l
  have HAW : Hid (∀ V, Below w.heap.size w V → Calls Tryd.prog 6 #[] V fun e w' => e = .returned (.bool true) ∧ Below V.heap.size V w') := fun V hV => awake6_any V (tf.below hV) (tn.below hV) (spTab_below ts hV) (te.below hV)
  have HNU : Hid (∀ w, Calls Tryd.prog 9 #[.string (bs l)] w fun e w' => e = .returned (.tuple #[.int .u32 ((numW l).getD 0), .int .i64 (eO (numW l))]) ∧ w' = w) := fun w => num6_any l w (by omega)
  have HRN : Hid (∀ w, Calls Tryd.prog 10 #[.string (bs l)] w fun e w' => e = .returned (.tuple #[.int .u32 ((numW l).getD 0), .bool (numW l).isSome]) ∧ w' = w) := fun w => rnum6_any l w (by omega)
  have HGP : Hid (∀ w, Calls Tryd.prog 7 #[.string (bs l)] w fun e w' => ((∃ ps v, piecesL l = some ps ∧ e = .returned (.tuple #[v, .int .i64 0]) ∧ w'.ownsRow w.heap.size 9 1 v ps.length (ps.map sV)) ∨ (piecesL l = none ∧ e = .returned (.tuple #[.slice none 0 0, .int .i64 1]))) ∧ Below w.heap.size w w') := fun w => pieces6_any l w (by omega)
  have HRP : Hid (∀ w, Calls Tryd.prog 8 #[.string (bs l)] w fun e w' => ((∃ ps v, piecesL l = some ps ∧ e = .returned (.tuple #[v, .bool true]) ∧ w'.ownsRow w.heap.size 9 1 v ps.length (ps.map sV)) ∨ (piecesL l = none ∧ e = .returned (.tuple #[.slice none 0 0, .bool false]))) ∧ Below w.heap.size w w') := fun w => by
    have h := rpieces_any (bs l) w (by omega)
    rw [bs_toList] at h; exact h
  have HLP : Hid (∀ ps, piecesL l = some ps → ps.length ≤ 200000) := fun ps h => (pieces_bd h (by omega)).2
  clear tf tn te ts
  have HE : ∀ o : Option Int, (eO o = 0 ∧ o.isSome = true) ∨ (eO o = 1 ∧ o.isSome = false) := fun o => by cases o; exact .inr ⟨rfl, rfl⟩; exact .inl ⟨rfl, rfl⟩
  have HE1 := HE (numW l)
  clear HE
  generalize (numW l).getD 0 = N at *
  generalize eO (numW l) = E at *
  generalize (numW l).isSome = S at *
  rcases HE1 with ⟨rfl, rfl⟩ | ⟨rfl, rfl⟩
  all_goals
    go_enter Tryd.func3, Tryd.ntmps3
    go_wp2_with fail
    refine (HGP.out _).mono ?_
    rintro e w1 ⟨hcase, hb1⟩
    have HB1 := Lib.hid hb1
    clear hb1
    rcases hcase with ⟨ps, v, hps, rfl, hown⟩ | ⟨hps, rfl⟩
    · have HPS := Lib.hid hps
      have HO1 := Lib.hid (isStrs_own hown)
      have hpl : ps.length ≤ 200000 := HLP.out ps hps
      clear hown hps
      go_wp2_with fail
      refine (HRP.out _).mono ?_
      rintro e w2 ⟨hcase, hb2⟩
      rcases hcase with ⟨ps', v', hps', rfl, hown'⟩ | ⟨hps', rfl⟩
      · obtain rfl : ps = ps' := Option.some.inj (HPS.out.symm.trans hps')
        have HO2 := Lib.hid (isStrs_own hown')
        have HO1' := Lib.hid (HO1.out.on hb2)
        have HB2 : Hid (Below w.heap.size w w2) := HB1.out.trans (hb2.mono HB1.out.size)
        clear hown' hb2 hps' HO1 HPS
        obtain ⟨a, c, rfl, _⟩ := HO1'.out
        obtain ⟨a', c', rfl, _⟩ := HO2.out
        go_wp2_with (first | (go_at_call 9; refine (HNU.out _).mono ?_; rintro e w' ⟨rfl, hw⟩; have hw := hw.symm; subst hw) | (go_at_call 10; refine (HRN.out _).mono ?_; rintro e w' ⟨rfl, hw⟩; have hw := hw.symm; subst hw))
        go_loopw [11] (fun i wr => ∃ k : Nat, k ≤ ps.length ∧ i = .int .i64 k ∧ Q w2 wr) (fun i _ => ps.length - (intOf i).toNat)
        case atStart => exact ⟨0, Nat.zero_le _, rfl, 0, rfl⟩
        case round =>
          obtain ⟨k, hk, rfl, m, rfl⟩ := hrel
          by_cases hlt : k < ps.length
          · obtain ⟨g, o, cc, hv, _, cl⟩ := HO1'.out.cell hlt
            obtain ⟨g', o', cc', hv', _, cl'⟩ := HO2.out.cell hlt
            simp only [Value.slice.injEq] at hv hv'
            obtain ⟨rfl, _, _⟩ := hv
            obtain ⟨rfl, _, _⟩ := hv'
            generalize ps.getD k [] = p at *
            have hlt' : (k : Int) < (ps.length : Int) := by omega
            have hk0 : (0 : Int) ≤ (k : Int) := by omega
            go_wp2_with fail
            go_quiet (fail)
            go_wp2
            go_roundw
            case rel => exact ⟨k + 1, by omega, by go_num, _, rfl⟩
            case measure => simp [intOf]; omega
          · obtain rfl : k = ps.length := by omega
            have HBm : Hid (Below w.heap.size w (w2.drewN m)) := HB2.out.trans (Q.below ⟨m, rfl⟩ _)
            go_wp2_with fail
            refine (HAW.out _ HBm.out).mono ?_
            rintro e w3 ⟨rfl, hb3⟩
            go_wp2
            go_ret
            exact ⟨rfl, HBm.out.trans (hb3.mono HBm.out.size)⟩
      · rw [HPS.out] at hps'; cases hps'
    · have HPS := Lib.hid hps
      clear hps
      go_wp2_with fail
      refine (HRP.out _).mono ?_
      rintro e w2 ⟨hcase, hb2⟩
      rcases hcase with ⟨ps', v', hps', rfl, hown'⟩ | ⟨hps', rfl⟩
      · rw [HPS.out] at hps'; cases hps'
      · have HB2 : Hid (Below w.heap.size w w2) := HB1.out.trans (hb2.mono HB1.out.size)
        clear hb2 hps' HPS
        go_wp2_with (first | (go_at_call 9; refine (HNU.out _).mono ?_; rintro e w' ⟨rfl, hw⟩; have hw := hw.symm; subst hw) | (go_at_call 10; refine (HRN.out _).mono ?_; rintro e w' ⟨rfl, hw⟩; have hw := hw.symm; subst hw))
        go_loopw [11] (fun i wr => i = .int .i64 0 ∧ wr = w2) (fun i _ => 0)
        case atStart => exact ⟨rfl, rfl⟩
        case round =>
          obtain ⟨rfl, rfl⟩ := hrel
          go_wp2_with fail
          refine (HAW.out _ HB2.out).mono ?_
          rintro e w3 ⟨rfl, hb3⟩
          go_wp2
          go_ret
          exact ⟨rfl, HB2.out.trans (hb3.mono HB2.out.size)⟩

set_option maxRecDepth 100000 in
set_option maxHeartbeats 1000000 in
theorem walk (s : ByteArray) (w : World) (w0 : s.size ≤ maxLen) (tf : FormTab w) (tn : NameTab w) (te : EncTab w) (ts : SpTab w) :
    Calls Tryd.prog 3 #[.string s] w fun e w' => e = .returned (.bool true) ∧ Below w.heap.size w w' := by
  by_cases h : s.size ≤ 3000
  · obtain ⟨l, rfl⟩ : ∃ l, s = bs l := ⟨s.data.toList, by simp [bs]⟩
    exact short l w (by rw [bs_size] at h; exact h) tf tn te ts
  · have h' : 3000 < s.size := by omega
    unfold maxLen at w0
    have HAW := Lib.hid (awake6_any w tf tn ts te)
    clear h tf tn te ts
    go_enter Tryd.func3, Tryd.ntmps3
    go_wp2_with fail
    refine HAW.out.mono ?_
    rintro e w3 ⟨rfl, hb3⟩
    go_wp2
    go_ret
    exact ⟨rfl, hb3⟩
end Go.Proofs.YthgolbmngjdbeaaDoor.asmPieces
