/- My texts AsmGoZ, AsmEndP, AsmGoE, AsmProg2, AsmEndQ, bound into one. -/
import Derived.Test.YthgolbmngjdbeaaGreatDoorB7
import Derived.Test.YthgolbmngjdbeaaGreatDoorB2
import Derived.Test.YthgolbmngjdbeaaGreatDoorB3
/- Layer 6, the program's own Program. -/
namespace Go.Proofs.YthgolbmngjdbeaaGreatDoor
open Go.RowKit
set_option linter.unusedVariables false
set_option linter.unusedSimpArgs false

def goG (ill : Bool) : List (List UInt8) → Nat → St → St ⊕ (Int × Int)
  | [], _, st => .inl st
  | l :: r, n, st => match stepG ill (n : Int) l st with
    | .inr e => .inr e
    | .inl st' => goG ill r (n + 1) st'
/-- A program, as the program reads it. -/
def progG (ill : Bool) (l : List UInt8) : List Int × Int × Int := endL (goG ill (splL l) 0 ([], [], []))
theorem goG_step (ill : Bool) (ls : List (List UInt8)) (n : Nat) (st : St) (h : n < ls.length) : goG ill (ls.drop n) n st = match stepG ill (n : Int) (ls.getD n []) st with
    | .inr e => .inr e
    | .inl st' => goG ill (ls.drop (n + 1)) (n + 1) st' := by
  have e1 : ls.drop n = ls.getD n [] :: ls.drop (n + 1) := by
    rw [List.drop_eq_getElem_cons h]; simp [List.getD, h]
  rw [e1, goG]

/-- What the rounds keep. -/
def OkS (n : Nat) (st : St) : Prop := st.1.length ≤ 4096 ∧ st.2.1.length ≤ n ∧ st.2.2.length = st.2.1.length ∧ (∀ p ∈ st.1, ImmB p.1 ∧ p.1.2.2.2.2.2.2.1.length ≤ 70000) ∧ (∀ a ∈ st.2.2, 0 ≤ a ∧ a ≤ 100000)
theorem OkS.up {n : Nat} {st : St} (h : OkS n st) : OkS (n + 1) st := ⟨h.1, Nat.le_succ_of_le h.2.1, h.2.2⟩
theorem takeL_lab {x y : It} {what s : List UInt8} (hx : x.2.2.2.2.2.2.1.length ≤ 70000) (hs : s.length ≤ 70000) (h : takeL x what s = some y) : y.2.2.2.2.2.2.1.length ≤ 70000 := by
  unfold takeL at h
  repeat' split at h
  all_goals first
    | (cases h; done)
    | (simp only [Option.some.injEq] at h; subst h; first | exact hx | exact hs)
    | (obtain ⟨n, _, rfl⟩ := Option.map_eq_some_iff.1 h; exact hx)
theorem takesL_lab : ∀ {ws ps : List (List UInt8)} {x y : It}, x.2.2.2.2.2.2.1.length ≤ 70000 → (∀ p ∈ ps, p.length ≤ 70000) → takesL x ws ps = some y → y.2.2.2.2.2.2.1.length ≤ 70000
  | [], ps, x, y, hx, hp, h => by
    rw [takesL_nil] at h; cases h; exact hx
  | w :: ws, [], x, y, hx, hp, h => by
    simp only [takesL, Option.some.injEq] at h; subst h; exact hx
  | w :: ws, p :: ps, x, y, hx, hp, h => by
    rw [takesL] at h
    obtain ⟨z, hz, h⟩ := Option.bind_eq_some_iff.1 h
    exact takesL_lab (takeL_lab hx (hp p (by simp)) hz) (fun q hq => hp q (by simp [hq])) h
theorem readG_ok {ill : Bool} {ps : List (List UInt8)} {x : It} (hp : ∀ p ∈ ps, p.length ≤ 70000) (h : readG ill ps = some x) : ImmB x ∧ x.2.2.2.2.2.2.1.length ≤ 70000 := by
  unfold readG at h
  split at h
  · obtain ⟨n, _, rfl⟩ := Option.map_eq_some_iff.1 h
    exact ⟨⟨(by show (0 : Int) ≤ 0; decide), (by show (0 : Int) < 4294967296; decide)⟩, (by show (0 : Nat) ≤ 70000; decide)⟩
  · refine ⟨insG_bd h, ?_⟩
    unfold insG at h
    split at h
    · cases h
    split at h
    · cases h
    split at h
    · cases h
    exact takesL_lab (x := itOp _) (by show (0 : Nat) ≤ 70000; decide) (fun q hq => hp q (List.mem_of_mem_drop hq)) h
theorem okS_body {ill : Bool} {n : Nat} {p : List (List UInt8)} {st st' : St} (hp : ∀ q ∈ p, q.length ≤ 70000) (hok : OkS (n + 1) st) (h : bodyG ill (n : Int) p st = .inl st') : OkS (n + 1) st' := by
  unfold bodyG at h
  split at h
  · simp only [Sum.inl.injEq] at h; subst h; exact hok
  · split at h
    · cases h
    · rename_i x hx
      split at h
      · cases h
      · rename_i h4
        simp only [Sum.inl.injEq] at h
        subst h
        obtain ⟨a1, a2, a3, a4, a5⟩ := hok
        refine ⟨by simp; omega, a2, a3, fun q hq => ?_, a5⟩
        rcases List.mem_append.1 hq with hq | hq
        · exact a4 q hq
        · simp at hq; subst hq; exact readG_ok hp hx
theorem okS_step {ill : Bool} {n : Nat} {l : List UInt8} {st st' : St} (hl : l.length ≤ 70000) (hok : OkS n st) (h : stepG ill (n : Int) l st = .inl st') : OkS (n + 1) st' := by
  unfold stepG at h
  split at h
  · cases h
  · rename_i p hp
    have hb := pieces_bd hp hl
    have hr : ∀ q ∈ restG p, q.length ≤ 70000 := by
      unfold restG
      split
      · exact fun q hq => hb.1 q (List.mem_of_mem_drop hq)
      · exact hb.1
    split at h
    · cases h
    · split at h
      · split at h
        · cases h
        · refine okS_body hr ?_ h
          obtain ⟨a1, a2, a3, a4, a5⟩ := hok
          refine ⟨a1, by simp; omega, by simp; omega, a4, fun a ha => ?_⟩
          rcases List.mem_append.1 ha with ha | ha
          · exact a5 a ha
          · simp at ha; subst ha; omega
      · exact okS_body hr hok.up h

theorem gown_low {w : World} {B B' : Nat} {e : TypeId} {s n : Nat} {v : Value} {xs : List Value} (h : w.ownsRow B e s v n xs) (hB : B' ≤ B) : w.ownsRow B' e s v n xs := by
  refine ⟨h.1, ?_⟩
  rcases h.2 with hn | ⟨g, cap, cur, hv, hb, rest⟩
  · exact .inl hn
  · exact .inr ⟨g, cap, cur, hv, by omega, rest⟩
theorem stepG_line {ill : Bool} {n : Int} {l : List UInt8} {st : St} {m er : Int} (h : stepG ill n l st = .inr (m, er)) : m = n + 1 := by
  unfold stepG bodyG at h
  repeat' split at h
  all_goals first
    | (simp only [Sum.inr.injEq, Prod.mk.injEq] at h; exact h.1.symm)
    | cases h

set_option maxRecDepth 100000 in
set_option maxHeartbeats 400000 in
theorem prog6_long (s : ByteArray) (w : World) (hs : s.size ≤ maxLen) (hl : 65536 < s.size) :
    Calls Tryz.prog 5 #[.string s] w fun e w' => e = .returned (.tuple #[.slice none 0 0, .int .i64 0, .int .i64 3]) ∧ w' = w := by
  unfold maxLen at hs
  go_enter Tryz.func5, Tryz.ntmps5
  go_wp2
  go_ret3
  exact ⟨rfl, rfl⟩

set_option maxRecDepth 100000 in
set_option maxHeartbeats 8000000 in
theorem prog6_any (l : List UInt8) (w : World) (hl : l.length ≤ 65536) (hF : FormTab w) (hN : NameTab w) (hS : SpTab w) (hE : EncTab w) :
    Calls Tryz.prog 5 #[.string (bs l)] w fun e w' => LaidAs (progG false l) w.heap.size e w' ∧ Below w.heap.size w w' := by
  have hsz : (bs l).size = l.length := bs_size l
  have hmm := @run_makeMap Tryz.prog
  have HF := Lib.hid hF
  have HN := Lib.hid hN
  have HS := Lib.hid hS
  have HEE := Lib.hid hE
  have HL := Lib.hid hl
  have hlen : (splL l).length ≤ 65537 := by
    have e : (splL l).length = l.count 10 + 1 := splA_len l []
    have : l.count 10 ≤ l.length := List.count_le_length
    omega
  have HBD : Hid (∀ q ∈ splL l, q.length ≤ 70000) := splA_bd l [] 70000 (by simp; omega)
  have HPG : Hid (progG false l = endL (goG false (splL l) 0 ([], [], []))) := rfl
  have HSP : Hid (∀ w, Calls Tryz.prog 8 #[.string (bs l), .string ⟨#[10]⟩] w fun e w' => e = .returned (.slice (some ⟨w.heap.size, 0, none⟩) (splL l).length (splL l).length) ∧ w' = w.alloc (.cells ((splL l).map sV).toArray 9)) := fun w => split_any l w (by omega)
  generalize splL l = ls at *
  clear hF hN hS hE
  go_enter Tryz.func5, Tryz.ntmps5
  go_wp2_with fail
  refine (HSP.out _).mono ?_
  rintro e w2 ⟨rfl, hw2⟩
  have hsz2 : ((w.alloc (.map #[] 0)).alloc (.cells #[.map (some w.heap.size), .slice none 0 0] 36)).heap.size = w.heap.size + 2 := by simp
  have hsz1 : (w.alloc (.map #[] 0)).heap.size = w.heap.size + 1 := by simp
  rw [hsz2]
  have b1 : Below w.heap.size w (w.alloc (.map #[] 0)) := (Below.refl _ _).alloc (Nat.le_refl _) _
  have b2 : Below (w.heap.size + 1) (w.alloc (.map #[] 0)) ((w.alloc (.map #[] 0)).alloc (.cells #[.map (some w.heap.size), .slice none 0 0] 36)) := (Below.refl _ _).alloc (by simp) _
  have b3 : Below (w.heap.size + 2) ((w.alloc (.map #[] 0)).alloc (.cells #[.map (some w.heap.size), .slice none 0 0] 36)) w2 := by rw [hw2]; exact (Below.refl _ _).alloc (by simp) _
  have HB2 : Hid (Below w.heap.size w w2) := (b1.trans (b2.mono (by omega))).trans (b3.mono (by omega))
  have HLN : Hid (w2.heap[w.heap.size + 2]? = some (.cells (ls.map sV).toArray 9)) := by
    show _ = _
    rw [hw2, ← hsz2]; exact heap_alloc_new _ _
  have HP2 : Hid (PrG w2 w.heap.size (w.heap.size + 1) w.heap.size (.slice none 0 0) ([], [], [])) := by
    refine ⟨?_, ⟨.map [], ?_, labIs_nil⟩, World.ownsRow_nil _ _ _ _⟩
    · rw [b3.block (w.heap.size + 1) (by omega), ← hsz1]
      exact heap_alloc_new _ _
    · have hm : MapAt (w.alloc (.map #[] 0)) w.heap.size 0 (.map []) := World.ownsMap_made w Tryz.prog 9 (plainElem Tryz.prog 27)
      have hm2 := mapAt_on hm (w' := (w.alloc (.map #[] 0)).alloc (.cells #[.map (some w.heap.size), .slice none 0 0] 36)) ((Below.refl _ _).alloc (Nat.le_refl _) _)
      exact mapAt_on hm2 (by rw [hsz2]; exact b3)
  have HZ2 : Hid (w2.heap.size = w.heap.size + 3) := by
    show _ = _
    rw [hw2]; simp
  clear b1 b2 b3 hw2 hsz2 hsz1 HSP hmm
  go_wp2_with fail
  go_loopw [17] (fun i wr => ∃ (n : Nat) (st : St) (v : Value), n ≤ ls.length ∧ i = .int .i64 n ∧ PrG wr w.heap.size (w.heap.size + 1) w.heap.size v st ∧ OkS n st ∧ wr.heap[w.heap.size + 2]? = some (.cells (ls.map sV).toArray 9) ∧ Below w.heap.size w wr ∧ Hid (goG false ls 0 ([], [], []) = goG false (ls.drop n) n st)) (fun i _ => ls.length - (intOf i).toNat)
  case atStart => exact ⟨0, ([], [], []), .slice none 0 0, Nat.zero_le _, rfl, HP2.out, ⟨(by show (0 : Nat) ≤ 4096; decide), Nat.le_refl _, rfl, (fun p hp => by cases hp), fun a ha => by cases ha⟩, HLN.out, HB2.out, rfl⟩
  case round =>
    obtain ⟨n, st, v, hn, rfl, hP, hok, hln, hb, HGX⟩ := hrel
    have HP := Lib.hid hP
    have HOK := Lib.hid hok
    have HLR := Lib.hid hln
    have HB := Lib.hid hb
    clear hP hok hln hb
    by_cases hlt : n < ls.length
    · have HQL : Hid ((ls.getD n []).length ≤ 70000) := HBD.out _ (by rw [List.getD_eq_getElem?_getD, List.getElem?_eq_getElem hlt]; exact List.getElem_mem hlt)
      have cl : wr.cell? ⟨w.heap.size + 2, n, none⟩ = some (.string (bs (ls.getD n []))) := by
        have h := HLR.out
        simp [World.cell?, h, hlt, sV]
      have HST : Hid (goG false (ls.drop n) n st = match stepG false (n : Int) (ls.getD n []) st with
          | .inr e => .inr e
          | .inl st' => goG false (ls.drop (n + 1)) (n + 1) st') := goG_step false ls n st hlt
      have HSO : Hid (∀ st', stepG false (n : Int) (ls.getD n []) st = .inl st' → OkS (n + 1) st') := fun st' h => okS_step HQL.out HOK.out h
      have HAD : Hid (Calls Tryz.prog 9 #[.pointer (some ⟨w.heap.size + 1, 0, none⟩), .int .i64 ((n : Int) + 1), .string (bs (ls.getD n []))] wr (AddAs (stepG false n (ls.getD n []) st) w.heap.size (w.heap.size + 1) w.heap.size v wr)) := add_any _ n st _ _ _ v wr HQL.out (by omega) HOK.out.1 HOK.out.2.1 HOK.out.2.2.1 HB.out.size HP.out (HF.out.below HB.out) (HN.out.below HB.out) (spTab_below HS.out HB.out)
      generalize ls.getD n [] = q at *
      have hlt' : (n : Int) < (ls.length : Int) := by omega
      have hn0 : (0 : Int) ≤ (n : Int) := by omega
      have HLT := Lib.hid hlt
      clear hlt
      go_wp2_with fail
      refine HAD.out.mono ?_
      rintro e w3 ⟨hfr, hres⟩
      have HFR := Lib.hid hfr
      have HNV : Hid (∀ k, k < w.heap.size → v.ownBlock ≠ some k) := fun k hk e => by
        rcases HP.out.2.2.2 with ⟨rfl, _⟩ | ⟨g, cap, cur, rfl, hb, _⟩
        · simp [Value.ownBlock] at e
        · simp only [Value.ownBlock, Option.some.injEq] at e; omega
      have HB3 : Hid (Below w.heap.size w w3) := HB.out.trans ⟨HFR.out.1, HFR.out.2.1, HFR.out.2.2.1, HFR.out.2.2.2.1, fun k hk => HFR.out.2.2.2.2 k (by have := HB.out.size; omega) (by omega) (by omega) (HNV.out k hk)⟩
      have HL3 : Hid (w3.heap[w.heap.size + 2]? = some (.cells (ls.map sV).toArray 9)) := by
        show _ = _
        rw [HFR.out.2.2.2.2 (w.heap.size + 2) (Array.getElem?_eq_some_iff.1 HLR.out).1 (by omega) (by omega) ?_]
        · exact HLR.out
        · rcases HP.out.2.2.2 with ⟨rfl, _⟩ | ⟨g, cap, cur, rfl, _, hg, _⟩
          · simp [Value.ownBlock]
          · simp only [Value.ownBlock, ne_eq, Option.some.injEq]
            rintro rfl
            have h := HLR.out
            rw [hg] at h
            simp only [Option.some.injEq, Obj.cells.injEq] at h
            exact absurd h.2.1 (by decide)
      clear hfr
      rcases hres with ⟨st', v', hst, rfl, hP'⟩ | ⟨ne, er, hst, rfl, her⟩
      · have HP' := Lib.hid hP'
        have HOK' := Lib.hid (HSO.out st' hst)
        have HGO : Hid (goG false ls 0 ([], [], []) = goG false (ls.drop (n + 1)) (n + 1) st') := by
          show goG _ _ _ _ = _
          rw [HGX.out, HST.out, hst]
        clear hP' hst
        go_wp2
        go_roundw
        case rel => exact ⟨n + 1, st', v', HLT.out, by go_num, HP'.out, HOK'.out, HL3.out, HB3.out, HGO.out⟩
        case measure => have := HLT.out; simp [intOf]; omega
      · have HNE : Hid (ne = (n : Int) + 1) := stepG_line hst
        have HE : Hid (progG false l = ([], ne, er)) := by
          show progG false l = _
          rw [HPG.out, HGX.out, HST.out, hst]; rfl
        have her' : (er != 0) = true := by simpa using her
        clear hst her
        go_wp2
        go_ret3
        refine ⟨?_, HB3.out⟩
        rw [HE.out, HNE.out]
        exact ⟨_, rfl, World.ownsRow_nil _ _ _ _⟩
    · obtain rfl : n = ls.length := by omega
      have HE : Hid (progG false l = laidL st.2.1 st.2.2 st.1 0 []) := by
        show progG false l = _
        rw [HPG.out, HGX.out, List.drop_length]; rfl
      have HWD : Hid (Calls Tryz.prog 10 #[.pointer (some ⟨w.heap.size + 1, 0, none⟩)] wr fun e w' => LaidAs (laidL st.2.1 st.2.2 st.1 0 []) wr.heap.size e w' ∧ Below wr.heap.size wr w') := words_any st.1 st.2.1 st.2.2 _ _ _ v wr HP.out HOK.out.1 HOK.out.2.2.2.1 HOK.out.2.2.2.2 (HF.out.below HB.out) (HEE.out.below HB.out)
      go_wp2_with fail
      refine HWD.out.mono ?_
      rintro e w3 ⟨⟨vo, rfl, ho⟩, hb3⟩
      have HB3 : Hid (Below w.heap.size w w3) := HB.out.trans (hb3.mono HB.out.size)
      have HO3 := Lib.hid ho
      clear hb3 ho
      go_wp2
      go_ret3
      refine ⟨?_, HB3.out⟩
      rw [HE.out]
      exact ⟨vo, rfl, gown_low HO3.out HB.out.size⟩
end Go.Proofs.YthgolbmngjdbeaaGreatDoor

/- Layer 6: awake; the walk of AsmPieces. -/
namespace Go.Proofs.YthgolbmngjdbeaaGreatDoor
open Go.RowKit
set_option linter.unusedVariables false
set_option linter.unusedSimpArgs false

def awL : List UInt8 := [97, 100, 100, 105, 32, 120, 49, 44, 32, 120, 48, 44, 32, 49, 48]
def awP : List UInt8 := [108, 111, 111, 112, 58, 32, 97, 100, 100, 105, 32, 120, 49, 44, 32, 120, 49, 44, 32, 45, 49, 10, 98, 110, 101, 32, 120, 49, 44, 32, 120, 48, 44, 32, 108, 111, 111, 112, 10]
theorem aw_line : lineG false awL = ((19, 1, 0, 0, 10, 0), 0) := by decide +kernel
theorem aw_prog : progG false awP = ([4293951635, 4261453539], 0, 0) := by decide +kernel

set_option maxRecDepth 100000 in
set_option maxHeartbeats 1000000 in
theorem awake6_any (w : World) (hF : FormTab w) (hN : NameTab w) (hS : SpTab w) (hE : EncTab w) :
    Calls Tryz.prog 4 #[] w fun e w' => e = .returned (.bool true) ∧ Below w.heap.size w w' := by
  have h1 := line6_any awL w (by decide) hF hN hS
  have e1 : bs awL = ⟨#[97, 100, 100, 105, 32, 120, 49, 44, 32, 120, 48, 44, 32, 49, 48]⟩ := rfl
  rw [e1, aw_line] at h1
  have HL := Lib.hid h1
  have HPR : Hid (∀ V, Below w.heap.size w V → Calls Tryz.prog 5 #[.string ⟨#[108, 111, 111, 112, 58, 32, 97, 100, 100, 105, 32, 120, 49, 44, 32, 120, 49, 44, 32, 45, 49, 10, 98, 110, 101, 32, 120, 49, 44, 32, 120, 48, 44, 32, 108, 111, 111, 112, 10]⟩] V fun e w' => LaidAs ([4293951635, 4261453539], 0, 0) V.heap.size e w' ∧ Below V.heap.size V w') := fun V hV => by
    have h2 := prog6_any awP V (by decide) (hF.below hV) (hN.below hV) (spTab_below hS hV) (hE.below hV)
    have e2 : bs awP = ⟨#[108, 111, 111, 112, 58, 32, 97, 100, 100, 105, 32, 120, 49, 44, 32, 120, 49, 44, 32, 45, 49, 10, 98, 110, 101, 32, 120, 49, 44, 32, 120, 48, 44, 32, 108, 111, 111, 112, 10]⟩ := rfl
    rw [e2, aw_prog] at h2
    exact h2
  clear h1 e1 hF hN hS hE
  go_enter Tryz.func4, Tryz.ntmps4
  go_wp2_with fail
  refine HL.out.mono ?_
  rintro e w1 ⟨rfl, hb1⟩
  have HB1 := Lib.hid hb1
  clear hb1
  unfold six6
  go_wp2_with fail
  obtain ⟨W, hW⟩ : ∃ W, w1.alloc (.cells #[.int .i64 19, .int .i64 1, .int .i64 0, .int .i64 0, .int .u32 10, .int .i64 0] 30) = W := ⟨_, rfl⟩
  have HBW : Hid (Below w1.heap.size w1 W) := by show Below _ _ _; rw [← hW]; exact (Below.refl _ _).alloc (Nat.le_refl _) _
  have HTW : Hid (SixG W w1.heap.size 19 1 0 0 10 0) := by show SixG _ _ _ _ _ _ _ _; rw [← hW]; exact sixG_new w1 _ _ _ _ _ _
  rw [hW]
  clear hW
  have HB2 : Hid (Below w.heap.size w W) := HB1.out.trans (HBW.out.mono HB1.out.size)
  refine (HPR.out W HB2.out).mono ?_
  rintro e w2 ⟨⟨vo, rfl, ho⟩, hb2⟩
  have HB3 : Hid (Below w.heap.size w w2) := HB2.out.trans (hb2.mono HB2.out.size)
  have HT2 := Lib.hid (SixG.on HTW.out hb2)
  have ho' : w2.ownsRow W.heap.size 27 1 vo 2 [.int .u32 4293951635, .int .u32 4261453539] := ho
  obtain ⟨g, c, rfl⟩ := owned_some ho' (by decide)
  have c1 : w2.cell? ⟨g, 1, none⟩ = some (.int .u32 4261453539) := ho'.cellAt 1 (by decide)
  obtain ⟨s0, s1, s2, s3, s4, s5⟩ := HT2.out.cells
  clear ho ho' hb2
  go_wp2
  go_ret
  exact ⟨rfl, HB3.out⟩
end Go.Proofs.YthgolbmngjdbeaaGreatDoor

namespace Go.Proofs.YthgolbmngjdbeaaGreatDoor.asmPieces
open Go.RowKit
set_option linter.unusedVariables false
set_option linter.unusedSimpArgs false

end Go.Proofs.YthgolbmngjdbeaaGreatDoor.asmPieces

/- Layer 6: what the program reads is what the document reads: mathematics. -/
namespace Go.Proofs.YthgolbmngjdbeaaGreatDoor
open Go.RowKit
set_option linter.unusedVariables false
set_option linter.unusedSimpArgs false

theorem opTo_name (p : List UInt8) : ∀ k, opTo p k ≠ 0 → nameL.getD (opTo p k) [] = p
  | 0, h => absurd rfl h
  | k + 1, h => by
    rw [opTo] at h ⊢
    by_cases c : nameL.getD k [] = p
    · rw [if_pos c]; exact c
    · rw [if_neg c] at h ⊢
      exact opTo_name p k h
theorem opN_found {p : List UInt8} (h : opN p ≠ 0) : nameL.getD (opN p) [] = p := opTo_name p 58 h
/-- The document's word for what is asked. -/
def trA (a : List UInt8) : List UInt8 := if a = kIm then kNum else if a = kPl then kTgt else a
theorem take_tr (x : It) (a s : List UInt8) (h : a ∈ askL) (hu : a ≠ kUp) : takeL x a s = fillL x (trA a) s := by
  simp only [askL, List.mem_cons, List.not_mem_nil, or_false] at h
  rcases h with rfl | rfl | rfl | rfl | rfl | rfl | rfl | rfl | rfl | rfl
  · rfl
  · rfl
  · rfl
  · rfl
  · exact absurd rfl hu
  · rfl
  · rfl
  · rfl
  · rfl
  · rfl
theorem takes_tr : ∀ (ws ps : List (List UInt8)) (x : It), (∀ a ∈ ws, a ∈ askL ∧ a ≠ kUp) → takesL x ws ps = fillsL x (ws.map trA) ps
  | [], ps, x, _ => by rw [takesL_nil, List.map_nil, fillsL_nil]
  | w :: ws, [], x, _ => rfl
  | w :: ws, p :: ps, x, h => by
    rw [takesL, List.map_cons, fillsL, take_tr x w p (h w (by simp)).1 (h w (by simp)).2]
    congr 1
    funext y
    exact takes_tr ws ps y fun a ha => h a (by simp [ha])
theorem shape_tr : ∀ k, k < 58 → formZ k ≠ 1 → (gshape k).map trA = shapeL k := by decide +kernel
theorem shape_noup : ∀ k, k < 58 → formZ k ≠ 1 → (gshape k).all (fun a => decide (a ≠ kUp)) = true := by decide +kernel
theorem shape_len2 : ∀ k, k < 58 → (gshape k).length = (shapeL k).length := by decide +kernel
theorem shape_u : ∀ k, k < 58 → formZ k = 1 → gshape k = [kRd, [44], kUp] ∧ shapeL k = [kRd, [44], kNum] := by decide +kernel
theorem take_up_fin (k : Nat) (hz : formZ k = 1) (x : It) (s : List UInt8) : takeL x kUp s = (fillL x kNum s).bind (finL k) := by
  have e1 : takeL x kUp s = (upW s).map fun n => (x.1, x.2.1, x.2.2.1, x.2.2.2.1, n, x.2.2.2.2.2) := rfl
  have e2 : fillL x kNum s = (numW s).map fun n => (x.1, x.2.1, x.2.2.1, x.2.2.2.1, n, x.2.2.2.2.2) := rfl
  rw [e1, e2]
  unfold upW
  cases numW s with
  | none => rfl
  | some n =>
    show Option.map _ (if 1048576 ≤ n then none else some (n * 4096)) = finL k _
    unfold finL
    rw [if_pos hz]
    show _ = if 1048576 ≤ n then none else _
    split <;> rfl
theorem takes_fills (k : Nat) (hk : k < 58) (ps : List (List UInt8)) (hl : ps.length = (gshape k).length) : takesL (itOp k) (gshape k) ps = (fillsL (itOp k) (shapeL k) ps).bind (finL k) := by
  by_cases hz : formZ k = 1
  · obtain ⟨e1, e2⟩ := shape_u k hk hz
    rw [e1] at hl
    rw [e1, e2]
    match ps, hl with
    | [a, b, c], _ =>
      simp only [takesL, fillsL]
      rw [take_tr _ kRd a (by decide) (by decide), show trA kRd = kRd from rfl]
      cases fillL (itOp k) kRd a with
      | none => rfl
      | some y =>
        simp only [Option.bind_some]
        rw [take_tr _ [44] b (by decide) (by decide), show trA [44] = [44] from rfl]
        cases fillL y [44] b with
        | none => rfl
        | some z =>
          simp only [Option.bind_some]
          rw [take_up_fin k hz]
          cases fillL z kNum c with
          | none => rfl
          | some u =>
            simp only [Option.bind_some]
            cases finL k u <;> rfl
  · have hall : ∀ a ∈ gshape k, a ∈ askL ∧ a ≠ kUp := fun a ha =>
      ⟨List.contains_iff_mem.1 (List.all_eq_true.1 (gshape_ask k hk) a ha), of_decide_eq_true (List.all_eq_true.1 (shape_noup k hk hz) a ha)⟩
    rw [takes_tr _ _ _ hall, shape_tr k hk hz]
    cases fillsL (itOp k) (shapeL k) ps with
    | none => rfl
    | some y =>
      simp only [Option.bind_some]
      unfold finL
      rw [if_neg hz]
theorem ins_read (ps : List (List UInt8)) (h0 : ps ≠ []) (hw : ¬ (ps.length = 2 ∧ ps.getD 0 [] = kWord)) : insG false ps = readL ps := by
  unfold insG readL
  rw [if_neg h0, if_neg hw]
  have hk := opN_lt (ps.getD 0 [])
  have hl := shape_len2 _ hk
  by_cases hz : opN (ps.getD 0 []) = 0
  · rw [if_pos (.inr ⟨rfl, hz⟩), if_pos (.inl hz)]
  · rw [if_neg (by rintro (g | ⟨_, g⟩); exact g (opN_found hz); exact hz g)]
    by_cases hn : ps.length = (gshape (opN (ps.getD 0 []))).length + 1
    · rw [if_neg (fun g => g hn), if_neg (by rintro (g | g); exact hz g; exact g (by rw [hn, hl]))]
      exact takes_fills _ hk _ (by rw [List.length_drop, hn]; omega)
    · rw [if_pos hn, if_pos (.inr (by rw [← hl]; exact hn))]
theorem read_eq (ps : List (List UInt8)) (h0 : ps ≠ []) : readG false ps = readL ps := by
  unfold readG
  by_cases hw : ps.length = 2 ∧ ps.getD 0 [] = kWord
  · rw [if_pos hw]; unfold readL; rw [if_pos hw]
  · rw [if_neg hw]; exact ins_read ps h0 hw
theorem line_eq (l : List UInt8) : lineG false l = lineL l := by
  unfold lineG lineL
  cases hp : piecesL l with
  | none => rfl
  | some ps =>
    show itG (insG false ps) = if ps = [] then (zero6, 1) else itL (readL ps)
    by_cases h0 : ps = []
    · rw [if_pos h0]
      have : insG false ps = none := if_pos h0
      rw [this]; rfl
    · rw [if_neg h0]
      by_cases hw : ps.length = 2 ∧ ps.getD 0 [] = kWord
      · have e1 : insG false ps = none := by
          unfold insG
          rw [if_neg h0, hw.2, if_pos (.inl (by decide +kernel))]
        have e2 : itL (readL ps) = (zero6, 1) := by
          unfold readL
          rw [if_pos hw]
          cases numW (ps.getD 1 []) <;> rfl
        rw [e1, e2]; rfl
      · rw [← ins_read ps h0 hw]
        cases hx : insG false ps with
        | none => rfl
        | some x =>
          have hr := insG_raw hx
          show (if x.2.2.2.2.2.2.1 ≠ [] then (zero6, 1) else if right6 x = true then (ins6 x, 0) else (zero6, 9)) = if x.2.2.2.2.2.2.2.2 = true ∨ x.2.2.2.2.2.2.1 ≠ [] then (zero6, 1) else if right6 x = true then (ins6 x, 0) else (zero6, 9)
          by_cases hb : x.2.2.2.2.2.2.1 ≠ []
          · rw [if_pos hb, if_pos (.inr hb)]
          · have hno : ¬ (x.2.2.2.2.2.2.2.2 = true ∨ x.2.2.2.2.2.2.1 ≠ []) := by
              rintro (g | g)
              · rw [hr] at g; cases g
              · exact hb g
            rw [if_neg hb, if_neg hno]
theorem body_eq (n : Int) (p : List (List UInt8)) (st : St) : bodyG false n p st = bodyL n p st := by
  unfold bodyG bodyL
  by_cases h : p = []
  · rw [if_pos h, if_pos h]
  · rw [if_neg h, if_neg h, read_eq p h]
    cases readL p <;> rfl
theorem body_bad {n : Int} {p : List (List UInt8)} {st : St} (h1 : p ≠ []) (h2 : readG false p = none) : bodyG false n p st = .inr (n + 1, 1) := by
  unfold bodyG
  rw [if_neg h1, h2]
theorem name_nameB : ∀ k, k < 58 → nameB (nameL.getD k []) = true := by decide +kernel
theorem step_eq (n : Int) (l : List UInt8) (st : St) : stepG false n l st = stepL n l st := by
  unfold stepG stepL
  cases hp : piecesL l with
  | none => rfl
  | some p =>
    show (if restG p ≠ [] ∧ readG false (restG p) = none then _ else if labG p ≠ [] then _ else _) = if labB p = true then _ else _
    by_cases hlb : labB p = true
    · rw [if_pos hlb]
      have hl := of_decide_eq_true hlb
      cases hn : nameB (p.getD 0 [])
      · have hno : ¬ isLab p := fun g => by have q := g.2.1; rw [hn] at q; cases q
        have hr : restG p = p := if_neg hno
        have hpne : p ≠ [] := fun e => by rw [e] at hl; simp at hl
        have hrd : readG false p = none := by
          rw [read_eq p hpne]
          unfold readL
          by_cases hw : p.length = 2 ∧ p.getD 0 [] = kWord
          · rw [if_pos hw, hl.2, show numW [58] = none from by decide +kernel]; rfl
          · rw [if_neg hw]
            have hz : opN (p.getD 0 []) = 0 := Classical.byContradiction fun g => by
              have := name_nameB _ (opN_lt (p.getD 0 []))
              rw [opN_found g, hn] at this
              cases this
            rw [if_pos (.inl hz)]
        rw [hr, if_pos ⟨hpne, hrd⟩, if_pos (.inl rfl)]
      · have hyes : isLab p := ⟨hl.1, hn, hl.2⟩
        have hr : restG p = p.drop 2 := if_pos hyes
        have hlg : labG p = p.getD 0 [] := if_pos hyes
        have hne : p.getD 0 [] ≠ [] := fun e => by rw [e] at hn; cases hn
        rw [hr, hlg]
        by_cases hbad : p.drop 2 ≠ [] ∧ readG false (p.drop 2) = none
        · rw [if_pos hbad]
          by_cases hf : 0 ≤ findN st.2.1 (p.getD 0 [])
          · rw [if_pos (.inr hf)]
          · rw [if_neg (by rintro (g | g); cases g; exact hf g), ← body_eq, body_bad hbad.1 hbad.2]
        · rw [if_neg hbad, if_pos hne]
          by_cases hf : 0 ≤ findN st.2.1 (p.getD 0 [])
          · rw [if_pos hf, if_pos (.inr hf)]
          · rw [if_neg hf, if_neg (by rintro (g | g); cases g; exact hf g), body_eq]
    · rw [if_neg hlb]
      have hno : ¬ isLab p := fun g => hlb (decide_eq_true ⟨g.1, g.2.2⟩)
      have hr : restG p = p := if_neg hno
      have hlg : labG p = [] := if_neg hno
      rw [hr, hlg]
      by_cases hbad : p ≠ [] ∧ readG false p = none
      · rw [if_pos hbad, ← body_eq, body_bad hbad.1 hbad.2]
      · rw [if_neg hbad, if_neg (fun g => g rfl), body_eq]
theorem go_eq : ∀ (ls : List (List UInt8)) (n : Nat) (st : St), goG false ls n st = goL ls n st
  | [], n, st => rfl
  | l :: r, n, st => by
    rw [goG, goL, step_eq]
    cases stepL (n : Int) l st with
    | inr e => rfl
    | inl st' => exact go_eq r (n + 1) st'
theorem stepL_nil (n : Int) (st : St) : stepL n [] st = .inl st := rfl
theorem goL_snoc : ∀ (ls : List (List UInt8)) (n : Nat) (st : St), goL (ls ++ [ [] ]) n st = goL ls n st
  | [], n, st => by simp [goL, stepL_nil]
  | l :: r, n, st => by
    rw [List.cons_append, goL, goL]
    cases stepL (n : Int) l st with
    | inr e => rfl
    | inl st' => exact goL_snoc r (n + 1) st'
theorem prog_eq (l : List UInt8) : progG false l = progL l := by
  unfold progG progL
  rw [go_eq]
  unfold splL linesOf
  rcases splA_lns l [] with e | e
  · rw [e]
  · rw [e, goL_snoc]
end Go.Proofs.YthgolbmngjdbeaaGreatDoor

/- Layer 6: the document's own Program. -/
namespace Go.Proofs.YthgolbmngjdbeaaGreatDoor
open Go.RowKit
set_option linter.unusedVariables false
set_option linter.unusedSimpArgs false

theorem lns_bd : ∀ (r cur : List UInt8) (N : Nat), cur.length + r.length ≤ N → (∀ q ∈ lns r cur, q.length ≤ N) ∧ (lns r cur).length ≤ r.length + (if cur = [] then 0 else 1)
  | [], cur, N, h => by
    unfold lns
    split
    · exact ⟨(fun _ h => by cases h), by simp⟩
    · exact ⟨(fun q hq => by simp at hq; subst hq; simpa using h), by simp⟩
  | c :: r, cur, N, h => by
    simp only [List.length_cons] at h ⊢
    rw [lns]
    split
    · have := lns_bd r [] N (by simp; omega)
      refine ⟨fun q hq => ?_, ?_⟩
      · rcases List.mem_cons.1 hq with rfl | hq
        · omega
        · exact this.1 q hq
      · have h2 := this.2
        simp at h2 ⊢; omega
    · have := lns_bd r (cur ++ [c]) N (by simp; omega)
      refine ⟨this.1, ?_⟩
      have h2 := this.2
      rw [if_neg (by simp)] at h2
      omega
theorem own_low {w : World} {B B' : Nat} {e : TypeId} {s n : Nat} {v : Value} {xs : List Value} (h : w.ownsRow B e s v n xs) (hB : B' ≤ B) : w.ownsRow B' e s v n xs := by
  refine ⟨h.1, ?_⟩
  rcases h.2 with hn | ⟨g, cap, cur, hv, hb, rest⟩
  · exact .inl hn
  · exact .inr ⟨g, cap, cur, hv, by omega, rest⟩
theorem go_step (ls : List (List UInt8)) (n : Nat) (st : St) (h : n < ls.length) : goL (ls.drop n) n st = match stepL (n : Int) (ls.getD n []) st with
    | .inr e => .inr e
    | .inl st' => goL (ls.drop (n + 1)) (n + 1) st' := by
  have e1 : ls.drop n = ls.getD n [] :: ls.drop (n + 1) := by
    rw [List.drop_eq_getElem_cons h]; simp [List.getD, h]
  rw [e1, goL]
  rfl
theorem own_slice {w : World} {B s n : Nat} {e : TypeId} {v : Value} {xs : List Value} (h : w.ownsRow B e s v n xs) : ∃ p c, v = .slice p n c := by
  rcases h.2 with ⟨rfl, e⟩ | ⟨g, cap, cur, rfl, _⟩
  · rw [e]; exact ⟨_, _, rfl⟩
  · exact ⟨_, _, rfl⟩
theorem own_cap {w : World} {B s n c : Nat} {e : TypeId} {a : Option Addr} {xs : List Value} (h : w.ownsRow B e s (.slice a n c) n xs) : n ≤ c := by
  rcases h.2 with ⟨hv, e⟩ | ⟨g, cap, cur, hv, _, _, hn, _⟩
  · omega
  · simp only [Value.slice.injEq] at hv
    omega
theorem isStrs_drop2 {w : World} {g o n c : Nat} {ls : List (List UInt8)} (h : IsStrs w (.slice (some ⟨g, o, none⟩) n c) ls) (c' : Nat) : IsStrs w (.slice (some ⟨g, o + 2, none⟩) (ls.drop 2).length c') (ls.drop 2) := by
  obtain ⟨a, cc, hv, h⟩ := h
  refine ⟨_, _, rfl, ?_⟩
  rcases h with h | ⟨g', o', ha, hc⟩
  · exact .inl (by simp; omega)
  · simp only [Value.slice.injEq] at hv
    obtain ⟨rfl, _, _⟩ := hv
    simp only [Option.some.injEq, Addr.mk.injEq] at ha
    obtain ⟨rfl, rfl, _⟩ := ha
    refine .inr ⟨_, _, rfl, fun i hi => ?_⟩
    have hi' : i + 2 < ls.length := by simp at hi; omega
    have := hc (i + 2) hi'
    rw [show o + 2 + i = o + (i + 2) from by omega, this]
    simp [List.getD, Nat.add_comm]
/-- What the rounds keep. -/
def StOk (n : Nat) (st : St) : Prop := st.1.length ≤ n ∧ st.1.length ≤ 4096 ∧ st.2.1.length ≤ n ∧ st.2.2.length = st.2.1.length ∧ (∀ p ∈ st.1, ImmB p.1) ∧ (∀ a ∈ st.2.2, 0 ≤ a ∧ a ≤ 100000)
theorem StOk.up {n : Nat} {st : St} (h : StOk n st) : StOk (n + 1) st := ⟨Nat.le_succ_of_le h.1, h.2.1, Nat.le_succ_of_le h.2.2.1, h.2.2.2⟩
def Rows3 (w : World) (B : Nat) (vi vn va : Value) (st : St) : Prop := w.ownsRow B 48 10 vi st.1.length (itCells st.1) ∧ w.ownsRow B 9 1 vn st.2.1.length (st.2.1.map sV) ∧ w.ownsRow B 3 1 va st.2.2.length (st.2.2.map nV)
theorem rows3_mk {w : World} {B : Nat} {vi vn va : Value} {its : List (It × Int)} {names : List (List UInt8)} {at_ : List Int} {p : List UInt8} {a : Int} (h1 : w.ownsRow B 48 10 vi its.length (itCells its)) (h2 : w.ownsRow B 9 1 vn (names.length + 1) (names.map sV ++ [.string (bs p)])) (h3 : w.ownsRow B 3 1 va (at_.length + 1) (at_.map nV ++ [.int .i64 a])) : Rows3 w B vi vn va (its, names ++ [p], at_ ++ [a]) := by
  refine ⟨h1, ?_, ?_⟩
  · show World.ownsRow _ _ _ _ _ (names ++ [p]).length ((names ++ [p]).map sV)
    rw [List.map_append, List.length_append]; exact h2
  · show World.ownsRow _ _ _ _ _ (at_ ++ [a]).length ((at_ ++ [a]).map nV)
    rw [List.map_append, List.length_append]; exact h3
theorem Rows3.on {w w' : World} {B : Nat} {vi vn va : Value} {st : St} (h : Rows3 w B vi vn va st) (hb : Below w.heap.size w w') : Rows3 w' B vi vn va st := ⟨lown_on h.1 hb, lown_on h.2.1 hb, lown_on h.2.2 hb⟩

set_option maxRecDepth 100000 in
set_option maxHeartbeats 16000000 in
theorem rprog_any (l : List UInt8) (w : World) (hl : l.length ≤ 70000) :
    Calls Tryz.prog 6 #[.string (bs l)] w fun e w' => LaidAs (progL l) w.heap.size e w' ∧ Below w.heap.size w w' := by
  obtain ⟨i0, hi, hz0, hz1, hz2⟩ := info_parts (P := Tryz.prog) (e := 9) (z := .string ⟨#[]⟩) (size := 1) (bytes := 16) (by kernel_rfl)
  obtain ⟨j0, hj, jz0, jz1, jz2⟩ := info_parts (P := Tryz.prog) (e := 3) (z := .int .i64 0) (size := 1) (bytes := 8) (by kernel_rfl)
  obtain ⟨k0, hkk, kz0, kz1, kz2⟩ := info_parts (P := Tryz.prog) (e := 48) (z := .agg #[.int .i64 0, .int .i64 0, .int .i64 0, .int .i64 0, .int .u32 0, .int .i64 0, .string ⟨#[]⟩, .int .u32 0, .bool false, .int .i64 0]) (size := 10) (bytes := 80) (by kernel_rfl)
  have hlb := lns_bd l [] 70000 (by simpa using hl)
  have HL := Lib.hid hl
  have HLB : Hid ((∀ q ∈ linesOf l, q.length ≤ 70000) ∧ (linesOf l).length ≤ 70000) := ⟨hlb.1, by have := hlb.2; simp at this; show (lns l []).length ≤ 70000; omega⟩
  have HPG : Hid (progL l = endL (goL (linesOf l) 0 ([], [], []))) := rfl
  clear hl hlb
  go_enter Tryz.func6, Tryz.ntmps6
  go_wp2_with fail
  refine (rlines_any l _ HL.out).mono ?_
  rintro e L1 ⟨vl, rfl, hown, hb⟩
  have HLS := Lib.hid (isStrs_own hown)
  have HBL := Lib.hid hb
  obtain ⟨al, cl, rfl, _⟩ := isStrs_own hown
  clear hown hb
  generalize linesOf l = ls at *
  have hln : ls.length ≤ 70000 := HLB.out.2
  go_wp2_with fail
  go_loopw [6, 7, 8, 9] (fun vi vn va i wr => ∃ (n : Nat) (st : St), n ≤ ls.length ∧ i = .int .i64 n ∧ Rows3 wr L1.heap.size vi vn va st ∧ Below L1.heap.size L1 wr ∧ StOk n st ∧ Hid (goL ls 0 ([], [], []) = goL (ls.drop n) n st)) (fun _ _ _ i _ => ls.length - (intOf i).toNat)
  case atStart =>
    have b1 : Below L1.heap.size L1 (L1.alloc (.cells #[] 48)) := (Below.refl _ _).alloc (Nat.le_refl _) _
    have b2 := b1.alloc b1.size (.cells #[] 9)
    refine ⟨0, ([], [], []), Nat.zero_le _, rfl, ⟨?_, ?_, ?_⟩, ?_, ⟨Nat.le_refl _, by decide, Nat.le_refl _, rfl, (fun _ h => by cases h), (fun _ h => by cases h)⟩, rfl⟩
    · exact ((World.ownsRow_lit L1 #[] 0 (Nat.le_refl _) (by decide) rfl).alloc _).alloc _
    · have q := (World.ownsRow_lit (e := 9) (size := 1) (L1.alloc (.cells #[] 48)) #[] 0 b1.size (by decide) rfl).alloc (.cells #[] 3)
      rw [show (L1.alloc (.cells #[] 48)).heap.size = L1.heap.size + 1 from by simp] at q
      exact q
    · have q := World.ownsRow_lit (e := 3) (size := 1) ((L1.alloc (.cells #[] 48)).alloc (.cells #[] 9)) #[] 0 b2.size (by decide) rfl
      rw [show ((L1.alloc (.cells #[] 48)).alloc (.cells #[] 9)).heap.size = L1.heap.size + 1 + 1 from by simp] at q
      exact q
    · exact b2.alloc b2.size _
  case round =>
    obtain ⟨n, st, hn, rfl, hr3, hb, hok, HX⟩ := hrel
    have HR := Lib.hid hr3
    have HB := Lib.hid hb
    have HOK := Lib.hid hok
    have HBW : Hid (Below w.heap.size w L1) := HBL.out
    obtain ⟨pi, ci, rfl⟩ := own_slice hr3.1
    clear hr3 hb hok
    by_cases hlt : n < ls.length
    · obtain ⟨gl, ol, cc, hvv, hgl, cq⟩ := (HLS.out.on HB.out).cell hlt
      simp only [Value.slice.injEq] at hvv
      obtain ⟨rfl, _, rfl⟩ := hvv
      have HST := Lib.hid (go_step ls n st hlt)
      have HQL : Hid ((ls.getD n []).length ≤ 70000) := HLB.out.1 _ (by rw [List.getD_eq_getElem?_getD, List.getElem?_eq_getElem hlt]; exact List.getElem_mem hlt)
      generalize ls.getD n [] = q at *
      go_wp2_with fail
      refine (rpieces_any (bs q) _ (by rw [bs_size]; exact HQL.out)).mono ?_
      rw [bs_toList]
      rintro e w1 ⟨hcase, hb1⟩
      have HR1 := Lib.hid (HR.out.on hb1)
      have HB1 : Hid (Below L1.heap.size L1 w1) := HB.out.trans (hb1.mono HB.out.size)
      have HBE : Hid (Below w.heap.size w w1) := HBW.out.trans (HB1.out.mono HBW.out.size)
      clear hb1 cq hgl
      rcases hcase with ⟨ps, vp, hps, rfl, hown⟩ | ⟨hps, rfl⟩
      · have HPS := Lib.hid (isStrs_own hown)
        have HPB := Lib.hid (pieces_bd hps HQL.out)
        have HPP := Lib.hid hps
        have HPO : Hid (∀ g, vp.ownBlock = some g → wr.heap.size ≤ g) := fun g hg => (hown.lt g hg).1
        obtain ⟨ap, cp, rfl, _⟩ := isStrs_own hown
        have HCAP := Lib.hid (own_cap hown)
        clear hown hps
        by_cases hlab : labB ps = true
        · have hlab2 : 2 ≤ ps.length ∧ ps.getD 1 [] = [58] := of_decide_eq_true hlab
          obtain ⟨hl2, h58⟩ := hlab2
          obtain ⟨gp, op, rfl, hgp, hcp⟩ : ∃ g o, ap = some ⟨g, o, none⟩ ∧ g < w1.heap.size ∧ ∀ i, i < ps.length → w1.cell? ⟨g, o + i, none⟩ = some (.string (bs (ps.getD i []))) := by
            obtain ⟨g, o, c, hv, hg, hc⟩ := HPS.out.all (by omega)
            simp only [Value.slice.injEq] at hv
            exact ⟨g, o, hv.1, hg, hc⟩
          have c0 := hcp 0 (by omega)
          have c1 := hcp 1 (by omega)
          rw [Nat.add_zero] at c0
          rw [h58] at c1
          have c1' : w1.cell? ⟨gp, op + 1, none⟩ = some (.string ⟨#[58]⟩) := c1
          clear c1
          have HCP := Lib.hid hcp
          have HST2 : Hid (stepL (n : Int) q st = if nameB (ps.getD 0 []) = false ∨ 0 ≤ findN st.2.1 (ps.getD 0 []) then .inr ((n : Int) + 1, 1) else bodyL (n : Int) (ps.drop 2) (st.1, st.2.1 ++ [ps.getD 0 [] ], st.2.2 ++ [4 * (st.1.length : Int)])) := by
            show stepL _ _ _ = _
            unfold stepL
            rw [HPP.out]
            show (if _ then _ else _) = _
            rw [if_pos hlab]
          have HP0 : Hid ((ps.getD 0 []).length ≤ 70000) := HPB.out.1 _ (by rw [List.getD_eq_getElem?_getD, List.getElem?_eq_getElem (by omega)]; exact List.getElem_mem _)
          have hl2' : (2 : Int) ≤ (ps.length : Int) := by omega
          generalize hp0 : ps.getD 0 [] = p0 at *
          clear hcp hlab h58 hp0
          have HNM : Hid (∀ W : World, Calls Tryz.prog 13 #[.string (bs p0)] W fun e w' => e = .returned (.bool (nameB p0)) ∧ w' = W) := fun W => rname6_any p0 W HP0.out
          have HFD : Hid (Calls Tryz.prog 14 #[_, .string (bs p0)] w1 fun e w' => e = .returned (.int .i64 (findN st.2.1 p0)) ∧ w' = w1) := rfind_any st.2.1 p0 _ L1.heap.size w1 (by have := HOK.out.2.2.1; omega) HR1.out.2.1
          cases hnm : nameB p0 with
          | false =>
            have HE : Hid (progL l = ([], (n : Int) + 1, 1)) := by
              show progL l = _
              rw [HPG.out, HX.out, HST.out, HST2.out, if_pos (.inl hnm)]; rfl
            go_wp2_with (go_at_call 13; refine (HNM.out _).mono ?_; rw [hnm]; rintro e w' ⟨rfl, hw⟩; have hw := hw.symm; subst hw)
            rw [HE.out]
            refine bodyPost_ret (v := .tuple #[.slice none 0 0, .int .i64 ((n : Int) + 1), .int .i64 1]) (by simp [results, Tryz.results6, go_sem]) rfl ⟨⟨_, rfl, World.ownsRow_nil _ _ _ _⟩, HBE.out⟩
          | true =>
            by_cases hfd : 0 ≤ findN st.2.1 p0
            · have HE : Hid (progL l = ([], (n : Int) + 1, 1)) := by
                show progL l = _
                rw [HPG.out, HX.out, HST.out, HST2.out, if_pos (.inr hfd)]; rfl
              generalize findN st.2.1 p0 = F at *
              go_wp2_with (first
                | (go_at_call 13; refine (HNM.out _).mono ?_; rw [hnm]; rintro e w' ⟨rfl, hw⟩; have hw := hw.symm; subst hw)
                | (go_at_call 14; refine HFD.out.mono ?_; rintro e w' ⟨rfl, hw⟩; have hw := hw.symm; subst hw))
              rw [HE.out]
              refine bodyPost_ret (v := .tuple #[.slice none 0 0, .int .i64 ((n : Int) + 1), .int .i64 1]) (by simp [results, Tryz.results6, go_sem]) rfl ⟨⟨_, rfl, World.ownsRow_nil _ _ _ _⟩, HBE.out⟩
            · have HSB : Hid (stepL (n : Int) q st = bodyL (n : Int) (ps.drop 2) (st.1, st.2.1 ++ [p0], st.2.2 ++ [4 * (st.1.length : Int)])) := by
                show stepL _ _ _ = _
                rw [HST2.out, if_neg (fun h => h.elim (fun h => by rw [hnm] at h; cases h) hfd)]
              generalize findN st.2.1 p0 = F at *
              have hownN := HR1.out.2.1
              have hnl : st.2.1.length ≤ 70000 := by have := HOK.out.2.2.1; omega
              go_wp2_with (first
                | (go_at_call 13; refine (HNM.out _).mono ?_; rw [hnm]; rintro e w' ⟨rfl, hw⟩; have hw := hw.symm; subst hw)
                | (go_at_call 14; refine HFD.out.mono ?_; rintro e w' ⟨rfl, hw⟩; have hw := hw.symm; subst hw)
                | (at_builtin; refine wpList_append_own _ rfl _ _ 37 rfl L1.heap.size 9 i0 _ 1 16 Tryz.underlying37 hi hz0 hz1 hz2 rfl (by decide) _ _ _ rfl (hownN.alloc _) ⟨w1.heap.size, 0, none⟩ 1 1 [.string (bs p0)] rfl rfl ?a1 ?a2 ?a3 ?a4 ?a5 ?_))
              case a1 =>
                intro j u hj
                match j, hj with
                | 0, hj => simp at hj; subst hj; simp [Addr.add]
              case a2 => intro u hu; simp at hu; subst hu; rfl
              case a3 => unfold maxLen; omega
              case a4 => omega
              case a5 => have := HB1.out.size; simp; omega
              intro vn2 w2 hownN2 hgrow _
              have HB2 : Hid (Below L1.heap.size L1 w2) := (HB1.out.alloc HB1.out.size _).grown hgrow (by have := HB1.out.size; simp; omega) (fun j hj => (hownN.lt j hj).1)
              have HI2 := Lib.hid ((HR1.out.1.alloc _).kept hgrow (own_apart HR1.out.1 hownN (by decide)))
              have HA2 := Lib.hid ((HR1.out.2.2.alloc _).kept hgrow (own_apart HR1.out.2.2 hownN (by decide)))
              have HN2 := Lib.hid hownN2
              have hrowN : ∀ g, wr.heap.size ≤ g → _ ≠ some g := fun g hg h => absurd (HR.out.2.1.lt g h).2 (by omega)
              have HP2 := Lib.hid ((HPS.out.on ((Below.refl _ w1).alloc (Nat.le_refl _) _)).kept hgrow (fun g hg => hrowN g (HPO.out g hg)))
              clear hownN2 hgrow hownN hrowN
              have hownA := HA2.out
              have hal : st.2.2.length ≤ 70000 := by have := HOK.out.2.2.1; have := HOK.out.2.2.2.1; omega
              have hil : st.1.length ≤ 4096 := HOK.out.2.1
              have hw4 : IntKind.i64.wrap (4 * (st.1.length : Int)) = 4 * (st.1.length : Int) := by rw [IntKind.wrap_i64]; omega
              go_wp2_with (at_builtin; refine wpList_append_own _ rfl _ _ 43 rfl L1.heap.size 3 j0 _ 1 8 Tryz.underlying43 hj jz0 jz1 jz2 rfl (by decide) _ _ _ rfl (hownA.alloc _) ⟨w2.heap.size, 0, none⟩ 1 1 [.int .i64 (4 * (st.1.length : Int))] rfl rfl ?b1 ?b2 ?b3 ?b4 ?b5 ?_)
              case b1 =>
                intro j u hj
                match j, hj with
                | 0, hj => simp at hj; subst hj; simp [Addr.add]
              case b2 => intro u hu; simp at hu; subst hu; rfl
              case b3 => unfold maxLen; omega
              case b4 => omega
              case b5 => have := HB2.out.size; simp; omega
              intro va2 w3 hownA2 hgrow _
              have HB3 : Hid (Below L1.heap.size L1 w3) := (HB2.out.alloc HB2.out.size _).grown hgrow (by have := HB2.out.size; simp; omega) (fun j hj => (hownA.lt j hj).1)
              have HI3 := Lib.hid ((HI2.out.alloc _).kept hgrow (own_apart HI2.out hownA (by decide)))
              have HN3 := Lib.hid ((HN2.out.alloc _).kept hgrow (own_apart HN2.out hownA (by decide)))
              have hrowA : ∀ g, wr.heap.size ≤ g → _ ≠ some g := fun g hg h => absurd (HR.out.2.2.lt g h).2 (by omega)
              have HP3 := Lib.hid ((HP2.out.on ((Below.refl _ w2).alloc (Nat.le_refl _) _)).kept hgrow (fun g hg => hrowA g (HPO.out g hg)))
              have HA3 := Lib.hid hownA2
              clear hownA2 hgrow hownA hrowA
              have HRV := Lib.hid (rows3_mk (p := p0) (a := 4 * (st.1.length : Int)) HI3.out HN3.out HA3.out)
              have HBV := HB3
              have HOKS : Hid (StOk (n + 1) (st.1, st.2.1 ++ [p0], st.2.2 ++ [4 * (st.1.length : Int)])) := by
                obtain ⟨a1, a2, a3, a4, a5, a6⟩ := HOK.out
                refine ⟨Nat.le_succ_of_le a1, a2, by simpa using a3, by simpa using a4, a5, fun a ha => ?_⟩
                rcases List.mem_append.1 ha with ha | ha
                · exact a6 a ha
                · simp at ha; subst ha; omega
              have HPV : Hid (∀ m c', m = (ps.drop 2).length → IsStrs w3 (.slice (some ⟨gp, op + 2, none⟩) m c') (ps.drop 2)) := fun m c' hm => by
                subst hm; exact isStrs_drop2 HP3.out c'
              have HPLB : Hid ((∀ q ∈ ps.drop 2, q.length ≤ 70000) ∧ (ps.drop 2).length ≤ 200000) := ⟨fun q hq => HPB.out.1 q (List.mem_of_mem_drop hq), by have := HPB.out.2; simp; omega⟩
              by_cases hz : ps.length = 2
              · have h0 : ((ps.length : Int) - 2 == 0) = true := by rw [hz]; rfl
                have HGO : Hid (goL ls 0 ([], [], []) = goL (ls.drop (n + 1)) (n + 1) (st.1, st.2.1 ++ [p0], st.2.2 ++ [4 * (st.1.length : Int)])) := by
                  show goL _ _ _ = _
                  rw [HX.out, HST.out, HSB.out]
                  unfold bodyL
                  rw [if_pos (by rw [List.drop_eq_nil_iff]; omega)]
                clear hz
                go_wp2
                go_roundw
                case rel => exact ⟨n + 1, _, hlt, by go_num, HRV.out, HBV.out, HOKS.out, HGO.out⟩
                case measure => simp [intOf]; omega
              · have h0 : ((ps.length : Int) - 2 == 0) = false := by simpa using (by omega : ¬ (ps.length : Int) - 2 = 0)
                have HNE : Hid (ps.drop 2 ≠ []) := fun e => by rw [List.drop_eq_nil_iff] at e; omega
                have HZ : Hid (0 < (ps.drop 2).length) := by show 0 < (ps.drop 2).length; simp; omega
                clear hz
                have hc1 : ¬ cp = 2 := by have := HCAP.out; have := HZ.out; simp at this; omega
                have hc2 : ¬ 2 = cp := fun e => hc1 e.symm
                have hc3 : ¬ (cp : Int) = 2 := by omega
                have hc4 : ¬ (2 : Int) = (cp : Int) := by omega
                go_wp2_with fail
                refine (rread_any (ps.drop 2) _ _ HPLB.out.2 HPLB.out.1 (HPV.out _ _ (by simp)) HZ.out).mono ?_
                rintro e w4 ⟨⟨x, b, rfl, hx1, hx2⟩, hb4⟩
                unfold itV
                have HR4 := Lib.hid (HRV.out.on hb4)
                have HB4 : Hid (Below L1.heap.size L1 w4) := HBV.out.trans (hb4.mono HBV.out.size)
                have HBE4 : Hid (Below w.heap.size w w4) := HBW.out.trans (HB4.out.mono HBW.out.size)
                have HX1 := Lib.hid hx1
                have HX2 := Lib.hid hx2
                clear hx1 hx2 hb4
                cases b with
                | false =>
                  have HE : Hid (progL l = ([], (n : Int) + 1, 1)) := by
                    show progL l = _
                    rw [HPG.out, HX.out, HST.out, HSB.out]
                    unfold bodyL
                    rw [if_neg HNE.out, HX2.out rfl]; rfl
                  go_wp2
                  rw [HE.out]
                  refine bodyPost_ret (v := .tuple #[.slice none 0 0, .int .i64 ((n : Int) + 1), .int .i64 1]) (by simp [results, Tryz.results6, go_sem]) rfl ⟨⟨_, rfl, World.ownsRow_nil _ _ _ _⟩, HBE4.out.alloc HBE4.out.size _⟩
                | true =>
                  have HRD := Lib.hid (HX1.out rfl)
                  by_cases h4 : st.1.length = 4096
                  · have h4' : ((st.1.length : Int) == 4096) = true := by rw [h4]; rfl
                    have HE : Hid (progL l = ([], (n : Int) + 1, 3)) := by
                      show progL l = _
                      rw [HPG.out, HX.out, HST.out, HSB.out]
                      unfold bodyL
                      rw [if_neg HNE.out, HRD.out]
                      show endL (match (if _ then _ else _ : St ⊕ (Int × Int)) with | .inr e => .inr e | .inl st' => _) = _
                      rw [if_pos h4]; rfl
                    clear h4
                    go_wp2
                    rw [HE.out]
                    refine bodyPost_ret (v := .tuple #[.slice none 0 0, .int .i64 ((n : Int) + 1), .int .i64 3]) (by simp [results, Tryz.results6, go_sem]) rfl ⟨⟨_, rfl, World.ownsRow_nil _ _ _ _⟩, HBE4.out.alloc HBE4.out.size _⟩
                  · have h4' : ((st.1.length : Int) == 4096) = false := by simpa using (by omega : ¬ (st.1.length : Int) = 4096)
                    have HGO : Hid (goL ls 0 ([], [], []) = goL (ls.drop (n + 1)) (n + 1) (st.1 ++ [(x, (n : Int) + 1)], ((st.1, st.2.1 ++ [p0], st.2.2 ++ [4 * (st.1.length : Int)])).2)) := by
                      show goL _ _ _ = _
                      rw [HX.out, HST.out, HSB.out]
                      unfold bodyL
                      rw [if_neg HNE.out, HRD.out]
                      show (match (if _ then _ else _ : St ⊕ (Int × Int)) with | .inr e => (Sum.inr e : St ⊕ (Int × Int)) | .inl st' => _) = _
                      rw [if_neg h4]
                    have HLE : Hid (st.1.length + 1 ≤ 4096 ∧ st.1.length + 1 ≤ n + 1) := by
                      have a1 := HOK.out.2.1
                      have a2 := HOK.out.1
                      exact ⟨by omega, by omega⟩
                    have hown2 := HR4.out.1
                    have hsm : st.1.length ≤ 4095 := by have := HOK.out.2.1; omega
                    clear h4
                    go_wp2_with (at_builtin; refine wpList_append_own _ rfl _ _ 42 rfl L1.heap.size 48 k0 _ 10 80 Tryz.underlying42 hkk kz0 kz1 kz2 rfl (by decide) _ _ _ rfl ((hown2.alloc _).alloc _) ⟨w4.heap.size + 1, 0, none⟩ 1 1 [.int .i64 x.1, .int .i64 x.2.1, .int .i64 x.2.2.1, .int .i64 x.2.2.2.1, .int .u32 x.2.2.2.2.1, .int .i64 x.2.2.2.2.2.1, .string (bs x.2.2.2.2.2.2.1), .int .u32 x.2.2.2.2.2.2.2.1, .bool x.2.2.2.2.2.2.2.2, .int .i64 ((n : Int) + 1)] rfl rfl ?z1 ?z2 ?z3 ?z4 ?z5 ?_)
                    case z1 =>
                      intro j u hj
                      rw [show (⟨w4.heap.size + 1, 0, none⟩ : Addr).add j = ⟨w4.heap.size + 1, j, none⟩ from by rw [add_plain]; simp, World.cell?_alloc_at _ _ _ _ (by simp)]
                      simpa using hj
                    case z2 =>
                      intro u hu
                      simp only [List.mem_cons, List.not_mem_nil, or_false] at hu
                      rcases hu with rfl | rfl | rfl | rfl | rfl | rfl | rfl | rfl | rfl | rfl <;> rfl
                    case z3 => unfold maxLen; omega
                    case z4 => omega
                    case z5 => have := HB4.out.size; simp; omega
                    intro v' w5 hown' hgrow _
                    have HB5 : Hid (Below L1.heap.size L1 w5) := ((HB4.out.alloc HB4.out.size _).alloc (by have := HB4.out.size; simp; omega) _).grown hgrow (by have := HB4.out.size; simp; omega) (fun j hj => (hown2.lt j hj).1)
                    have HN5 := Lib.hid (((HR4.out.2.1.alloc _).alloc _).kept hgrow (own_apart HR4.out.2.1 hown2 (by decide)))
                    have HA5 := Lib.hid (((HR4.out.2.2.alloc _).alloc _).kept hgrow (own_apart HR4.out.2.2 hown2 (by decide)))
                    have HO5 : Hid (w5.ownsRow L1.heap.size 48 10 v' (st.1 ++ [(x, (n : Int) + 1)]).length (itCells (st.1 ++ [(x, (n : Int) + 1)]))) := by
                      show World.ownsRow _ _ _ _ _ _ _
                      rw [itCells_app, List.length_append]; exact hown'
                    clear hown' hgrow hown2
                    have HOK5 : Hid (StOk (n + 1) (st.1 ++ [(x, (n : Int) + 1)], ((st.1, st.2.1 ++ [p0], st.2.2 ++ [4 * (st.1.length : Int)])).2)) := by
                      obtain ⟨a1, a2, a3, a4, a5, a6⟩ := HOKS.out
                      refine ⟨by simpa using HLE.out.2, by simpa using HLE.out.1, a3, a4, fun p hp => ?_, a6⟩
                      rcases List.mem_append.1 hp with hp | hp
                      · exact a5 p hp
                      · simp at hp; subst hp; exact read_bd HRD.out
                    go_wp2
                    go_roundw
                    case rel => exact ⟨n + 1, (st.1 ++ [(x, (n : Int) + 1)], ((st.1, st.2.1 ++ [p0], st.2.2 ++ [4 * (st.1.length : Int)])).2), hlt, by go_num, ⟨HO5.out, HN5.out, HA5.out⟩, HB5.out, HOK5.out, HGO.out⟩
                    case measure => simp [intOf]; omega
        · have HSB : Hid (stepL (n : Int) q st = bodyL (n : Int) ps st) := by
            show stepL _ _ _ = _
            unfold stepL
            rw [HPP.out]
            show (if _ then _ else _) = _
            rw [if_neg hlab]
          have HRV := HR1
          have HBV := HB1
          have HPV := HPS
          have HOKS := Lib.hid HOK.out.up
          have HPLB := HPB
          have hg2 : ((2 : Int) ≤ (ps.length : Int)) = false ∨ True := .inr trivial
          clear hg2
          by_cases hl2 : 2 ≤ ps.length
          · obtain ⟨gp, op, rfl, hgp, hcp⟩ : ∃ g o, ap = some ⟨g, o, none⟩ ∧ g < w1.heap.size ∧ ∀ i, i < ps.length → w1.cell? ⟨g, o + i, none⟩ = some (.string (bs (ps.getD i []))) := by
              obtain ⟨g, o, c, hv, hg, hc⟩ := HPS.out.all (by omega)
              simp only [Value.slice.injEq] at hv
              exact ⟨g, o, hv.1, hg, hc⟩
            have c1 := hcp 1 (by omega)
            have hne : ps.getD 1 [] ≠ [58] := fun e => hlab (by unfold labB; rw [decide_eq_true ⟨hl2, e⟩])
            have e3 : ((bs (ps.getD 1 [])).toList == (bs [58]).toList) = false := bs_neq hne
            have e3' : ((bs (ps.getD 1 [])).toList == [58]) = false := by rw [show (bs [58]).toList = [58] from by simp [bs, ByteArray.toList_eq]] at e3; exact e3
            have hl2' : (2 : Int) ≤ (ps.length : Int) := by omega
            generalize ps.getD 1 [] = p1 at *
            clear hcp hlab hne hl2
            by_cases hz : (ps).length = 0
            · have h0 : (((ps).length : Int) == 0) = true := by rw [hz]; rfl
              have HGO : Hid (goL ls 0 ([], [], []) = goL (ls.drop (n + 1)) (n + 1) st) := by
                show goL _ _ _ = _
                rw [HX.out, HST.out, HSB.out]
                unfold bodyL
                rw [if_pos (List.length_eq_zero_iff.1 hz)]
              clear hz
              go_wp2
              go_roundw
              case rel => exact ⟨n + 1, st, hlt, by go_num, HRV.out, HBV.out, HOKS.out, HGO.out⟩
              case measure => simp [intOf]; omega
            · have h0 : (((ps).length : Int) == 0) = false := by simpa using (by omega : ¬ ((ps).length : Int) = 0)
              have HZ := Lib.hid hz
              have HNE : Hid (ps ≠ []) := fun e => hz (by rw [e]; rfl)
              clear hz
              go_wp2_with fail
              refine (rread_any (ps) _ _ HPLB.out.2 HPLB.out.1 HPV.out (by have := HZ.out; omega)).mono ?_
              rintro e w4 ⟨⟨x, b, rfl, hx1, hx2⟩, hb4⟩
              unfold itV
              have HR4 := Lib.hid (HRV.out.on hb4)
              have HB4 : Hid (Below L1.heap.size L1 w4) := HBV.out.trans (hb4.mono HBV.out.size)
              have HBE4 : Hid (Below w.heap.size w w4) := HBW.out.trans (HB4.out.mono HBW.out.size)
              have HX1 := Lib.hid hx1
              have HX2 := Lib.hid hx2
              clear hx1 hx2 hb4
              cases b with
              | false =>
                have HE : Hid (progL l = ([], (n : Int) + 1, 1)) := by
                  show progL l = _
                  rw [HPG.out, HX.out, HST.out, HSB.out]
                  unfold bodyL
                  rw [if_neg HNE.out, HX2.out rfl]; rfl
                go_wp2
                rw [HE.out]
                refine bodyPost_ret (v := .tuple #[.slice none 0 0, .int .i64 ((n : Int) + 1), .int .i64 1]) (by simp [results, Tryz.results6, go_sem]) rfl ⟨⟨_, rfl, World.ownsRow_nil _ _ _ _⟩, HBE4.out.alloc HBE4.out.size _⟩
              | true =>
                have HRD := Lib.hid (HX1.out rfl)
                by_cases h4 : st.1.length = 4096
                · have h4' : ((st.1.length : Int) == 4096) = true := by rw [h4]; rfl
                  have HE : Hid (progL l = ([], (n : Int) + 1, 3)) := by
                    show progL l = _
                    rw [HPG.out, HX.out, HST.out, HSB.out]
                    unfold bodyL
                    rw [if_neg HNE.out, HRD.out]
                    show endL (match (if _ then _ else _ : St ⊕ (Int × Int)) with | .inr e => .inr e | .inl st' => _) = _
                    rw [if_pos h4]; rfl
                  clear h4
                  go_wp2
                  rw [HE.out]
                  refine bodyPost_ret (v := .tuple #[.slice none 0 0, .int .i64 ((n : Int) + 1), .int .i64 3]) (by simp [results, Tryz.results6, go_sem]) rfl ⟨⟨_, rfl, World.ownsRow_nil _ _ _ _⟩, HBE4.out.alloc HBE4.out.size _⟩
                · have h4' : ((st.1.length : Int) == 4096) = false := by simpa using (by omega : ¬ (st.1.length : Int) = 4096)
                  have HGO : Hid (goL ls 0 ([], [], []) = goL (ls.drop (n + 1)) (n + 1) (st.1 ++ [(x, (n : Int) + 1)], (st).2)) := by
                    show goL _ _ _ = _
                    rw [HX.out, HST.out, HSB.out]
                    unfold bodyL
                    rw [if_neg HNE.out, HRD.out]
                    show (match (if _ then _ else _ : St ⊕ (Int × Int)) with | .inr e => (Sum.inr e : St ⊕ (Int × Int)) | .inl st' => _) = _
                    rw [if_neg h4]
                  have HLE : Hid (st.1.length + 1 ≤ 4096 ∧ st.1.length + 1 ≤ n + 1) := by
                    have a1 := HOK.out.2.1
                    have a2 := HOK.out.1
                    exact ⟨by omega, by omega⟩
                  have hown2 := HR4.out.1
                  have hsm : st.1.length ≤ 4095 := by have := HOK.out.2.1; omega
                  clear h4
                  go_wp2_with (at_builtin; refine wpList_append_own _ rfl _ _ 42 rfl L1.heap.size 48 k0 _ 10 80 Tryz.underlying42 hkk kz0 kz1 kz2 rfl (by decide) _ _ _ rfl ((hown2.alloc _).alloc _) ⟨w4.heap.size + 1, 0, none⟩ 1 1 [.int .i64 x.1, .int .i64 x.2.1, .int .i64 x.2.2.1, .int .i64 x.2.2.2.1, .int .u32 x.2.2.2.2.1, .int .i64 x.2.2.2.2.2.1, .string (bs x.2.2.2.2.2.2.1), .int .u32 x.2.2.2.2.2.2.2.1, .bool x.2.2.2.2.2.2.2.2, .int .i64 ((n : Int) + 1)] rfl rfl ?u1 ?u2 ?u3 ?u4 ?u5 ?_)
                  case u1 =>
                    intro j u hj
                    rw [show (⟨w4.heap.size + 1, 0, none⟩ : Addr).add j = ⟨w4.heap.size + 1, j, none⟩ from by rw [add_plain]; simp, World.cell?_alloc_at _ _ _ _ (by simp)]
                    simpa using hj
                  case u2 =>
                    intro u hu
                    simp only [List.mem_cons, List.not_mem_nil, or_false] at hu
                    rcases hu with rfl | rfl | rfl | rfl | rfl | rfl | rfl | rfl | rfl | rfl <;> rfl
                  case u3 => unfold maxLen; omega
                  case u4 => omega
                  case u5 => have := HB4.out.size; simp; omega
                  intro v' w5 hown' hgrow _
                  have HB5 : Hid (Below L1.heap.size L1 w5) := ((HB4.out.alloc HB4.out.size _).alloc (by have := HB4.out.size; simp; omega) _).grown hgrow (by have := HB4.out.size; simp; omega) (fun j hj => (hown2.lt j hj).1)
                  have HN5 := Lib.hid (((HR4.out.2.1.alloc _).alloc _).kept hgrow (own_apart HR4.out.2.1 hown2 (by decide)))
                  have HA5 := Lib.hid (((HR4.out.2.2.alloc _).alloc _).kept hgrow (own_apart HR4.out.2.2 hown2 (by decide)))
                  have HO5 : Hid (w5.ownsRow L1.heap.size 48 10 v' (st.1 ++ [(x, (n : Int) + 1)]).length (itCells (st.1 ++ [(x, (n : Int) + 1)]))) := by
                    show World.ownsRow _ _ _ _ _ _ _
                    rw [itCells_app, List.length_append]; exact hown'
                  clear hown' hgrow hown2
                  have HOK5 : Hid (StOk (n + 1) (st.1 ++ [(x, (n : Int) + 1)], (st).2)) := by
                    obtain ⟨a1, a2, a3, a4, a5, a6⟩ := HOKS.out
                    refine ⟨by simpa using HLE.out.2, by simpa using HLE.out.1, a3, a4, fun p hp => ?_, a6⟩
                    rcases List.mem_append.1 hp with hp | hp
                    · exact a5 p hp
                    · simp at hp; subst hp; exact read_bd HRD.out
                  go_wp2
                  go_roundw
                  case rel => exact ⟨n + 1, (st.1 ++ [(x, (n : Int) + 1)], (st).2), hlt, by go_num, ⟨HO5.out, HN5.out, HA5.out⟩, HB5.out, HOK5.out, HGO.out⟩
                  case measure => simp [intOf]; omega
          · have hl2' : ¬ (2 : Int) ≤ (ps.length : Int) := by omega
            clear hlab hl2
            by_cases hz : (ps).length = 0
            · have h0 : (((ps).length : Int) == 0) = true := by rw [hz]; rfl
              have HGO : Hid (goL ls 0 ([], [], []) = goL (ls.drop (n + 1)) (n + 1) st) := by
                show goL _ _ _ = _
                rw [HX.out, HST.out, HSB.out]
                unfold bodyL
                rw [if_pos (List.length_eq_zero_iff.1 hz)]
              clear hz
              go_wp2
              go_roundw
              case rel => exact ⟨n + 1, st, hlt, by go_num, HRV.out, HBV.out, HOKS.out, HGO.out⟩
              case measure => simp [intOf]; omega
            · have h0 : (((ps).length : Int) == 0) = false := by simpa using (by omega : ¬ ((ps).length : Int) = 0)
              have HZ := Lib.hid hz
              have HNE : Hid (ps ≠ []) := fun e => hz (by rw [e]; rfl)
              clear hz
              go_wp2_with fail
              refine (rread_any (ps) _ _ HPLB.out.2 HPLB.out.1 HPV.out (by have := HZ.out; omega)).mono ?_
              rintro e w4 ⟨⟨x, b, rfl, hx1, hx2⟩, hb4⟩
              unfold itV
              have HR4 := Lib.hid (HRV.out.on hb4)
              have HB4 : Hid (Below L1.heap.size L1 w4) := HBV.out.trans (hb4.mono HBV.out.size)
              have HBE4 : Hid (Below w.heap.size w w4) := HBW.out.trans (HB4.out.mono HBW.out.size)
              have HX1 := Lib.hid hx1
              have HX2 := Lib.hid hx2
              clear hx1 hx2 hb4
              cases b with
              | false =>
                have HE : Hid (progL l = ([], (n : Int) + 1, 1)) := by
                  show progL l = _
                  rw [HPG.out, HX.out, HST.out, HSB.out]
                  unfold bodyL
                  rw [if_neg HNE.out, HX2.out rfl]; rfl
                go_wp2
                rw [HE.out]
                refine bodyPost_ret (v := .tuple #[.slice none 0 0, .int .i64 ((n : Int) + 1), .int .i64 1]) (by simp [results, Tryz.results6, go_sem]) rfl ⟨⟨_, rfl, World.ownsRow_nil _ _ _ _⟩, HBE4.out.alloc HBE4.out.size _⟩
              | true =>
                have HRD := Lib.hid (HX1.out rfl)
                by_cases h4 : st.1.length = 4096
                · have h4' : ((st.1.length : Int) == 4096) = true := by rw [h4]; rfl
                  have HE : Hid (progL l = ([], (n : Int) + 1, 3)) := by
                    show progL l = _
                    rw [HPG.out, HX.out, HST.out, HSB.out]
                    unfold bodyL
                    rw [if_neg HNE.out, HRD.out]
                    show endL (match (if _ then _ else _ : St ⊕ (Int × Int)) with | .inr e => .inr e | .inl st' => _) = _
                    rw [if_pos h4]; rfl
                  clear h4
                  go_wp2
                  rw [HE.out]
                  refine bodyPost_ret (v := .tuple #[.slice none 0 0, .int .i64 ((n : Int) + 1), .int .i64 3]) (by simp [results, Tryz.results6, go_sem]) rfl ⟨⟨_, rfl, World.ownsRow_nil _ _ _ _⟩, HBE4.out.alloc HBE4.out.size _⟩
                · have h4' : ((st.1.length : Int) == 4096) = false := by simpa using (by omega : ¬ (st.1.length : Int) = 4096)
                  have HGO : Hid (goL ls 0 ([], [], []) = goL (ls.drop (n + 1)) (n + 1) (st.1 ++ [(x, (n : Int) + 1)], (st).2)) := by
                    show goL _ _ _ = _
                    rw [HX.out, HST.out, HSB.out]
                    unfold bodyL
                    rw [if_neg HNE.out, HRD.out]
                    show (match (if _ then _ else _ : St ⊕ (Int × Int)) with | .inr e => (Sum.inr e : St ⊕ (Int × Int)) | .inl st' => _) = _
                    rw [if_neg h4]
                  have HLE : Hid (st.1.length + 1 ≤ 4096 ∧ st.1.length + 1 ≤ n + 1) := by
                    have a1 := HOK.out.2.1
                    have a2 := HOK.out.1
                    exact ⟨by omega, by omega⟩
                  have hown2 := HR4.out.1
                  have hsm : st.1.length ≤ 4095 := by have := HOK.out.2.1; omega
                  clear h4
                  go_wp2_with (at_builtin; refine wpList_append_own _ rfl _ _ 42 rfl L1.heap.size 48 k0 _ 10 80 Tryz.underlying42 hkk kz0 kz1 kz2 rfl (by decide) _ _ _ rfl ((hown2.alloc _).alloc _) ⟨w4.heap.size + 1, 0, none⟩ 1 1 [.int .i64 x.1, .int .i64 x.2.1, .int .i64 x.2.2.1, .int .i64 x.2.2.2.1, .int .u32 x.2.2.2.2.1, .int .i64 x.2.2.2.2.2.1, .string (bs x.2.2.2.2.2.2.1), .int .u32 x.2.2.2.2.2.2.2.1, .bool x.2.2.2.2.2.2.2.2, .int .i64 ((n : Int) + 1)] rfl rfl ?v1 ?v2 ?v3 ?v4 ?v5 ?_)
                  case v1 =>
                    intro j u hj
                    rw [show (⟨w4.heap.size + 1, 0, none⟩ : Addr).add j = ⟨w4.heap.size + 1, j, none⟩ from by rw [add_plain]; simp, World.cell?_alloc_at _ _ _ _ (by simp)]
                    simpa using hj
                  case v2 =>
                    intro u hu
                    simp only [List.mem_cons, List.not_mem_nil, or_false] at hu
                    rcases hu with rfl | rfl | rfl | rfl | rfl | rfl | rfl | rfl | rfl | rfl <;> rfl
                  case v3 => unfold maxLen; omega
                  case v4 => omega
                  case v5 => have := HB4.out.size; simp; omega
                  intro v' w5 hown' hgrow _
                  have HB5 : Hid (Below L1.heap.size L1 w5) := ((HB4.out.alloc HB4.out.size _).alloc (by have := HB4.out.size; simp; omega) _).grown hgrow (by have := HB4.out.size; simp; omega) (fun j hj => (hown2.lt j hj).1)
                  have HN5 := Lib.hid (((HR4.out.2.1.alloc _).alloc _).kept hgrow (own_apart HR4.out.2.1 hown2 (by decide)))
                  have HA5 := Lib.hid (((HR4.out.2.2.alloc _).alloc _).kept hgrow (own_apart HR4.out.2.2 hown2 (by decide)))
                  have HO5 : Hid (w5.ownsRow L1.heap.size 48 10 v' (st.1 ++ [(x, (n : Int) + 1)]).length (itCells (st.1 ++ [(x, (n : Int) + 1)]))) := by
                    show World.ownsRow _ _ _ _ _ _ _
                    rw [itCells_app, List.length_append]; exact hown'
                  clear hown' hgrow hown2
                  have HOK5 : Hid (StOk (n + 1) (st.1 ++ [(x, (n : Int) + 1)], (st).2)) := by
                    obtain ⟨a1, a2, a3, a4, a5, a6⟩ := HOKS.out
                    refine ⟨by simpa using HLE.out.2, by simpa using HLE.out.1, a3, a4, fun p hp => ?_, a6⟩
                    rcases List.mem_append.1 hp with hp | hp
                    · exact a5 p hp
                    · simp at hp; subst hp; exact read_bd HRD.out
                  go_wp2
                  go_roundw
                  case rel => exact ⟨n + 1, (st.1 ++ [(x, (n : Int) + 1)], (st).2), hlt, by go_num, ⟨HO5.out, HN5.out, HA5.out⟩, HB5.out, HOK5.out, HGO.out⟩
                  case measure => simp [intOf]; omega
      · have HE : Hid (progL l = ([], (n : Int) + 1, 1)) := by
          show progL l = _
          rw [HPG.out, HX.out, HST.out]
          unfold stepL
          rw [hps]; rfl
        clear hps
        go_wp2
        rw [HE.out]
        refine bodyPost_ret (v := .tuple #[.slice none 0 0, .int .i64 ((n : Int) + 1), .int .i64 1]) (by simp [results, Tryz.results6, go_sem]) rfl ⟨⟨_, rfl, World.ownsRow_nil _ _ _ _⟩, HBE.out⟩
    · obtain rfl : n = ls.length := by omega
      have HGE : Hid (progL l = laidL st.2.1 st.2.2 st.1 0 []) := by
        show progL l = _
        rw [HPG.out, HX.out, List.drop_length]; rfl
      have HBE : Hid (Below w.heap.size w wr) := HBW.out.trans (HB.out.mono HBW.out.size)
      obtain ⟨o1, o2, o3, o4, o5, o6⟩ := HOK.out
      have HO2 := Lib.hid o2
      have HO3 := Lib.hid o3
      have HO4 := Lib.hid o4
      have HO5 := Lib.hid o5
      have HO6 := Lib.hid o6
      clear o1 o2 o3 o4 o5 o6
      go_wp2_with fail
      refine (rlaid_any st.1 st.2.1 st.2.2 _ _ _ L1.heap.size L1.heap.size _ (Nat.le_trans HO2.out (by decide)) (Nat.le_trans HO3.out (by have := HLB.out.2; omega)) HO4.out HO6.out HO5.out (isItems_own HR.out.1) HR.out.2.1 HR.out.2.2).mono ?_
      rintro e w2 ⟨⟨vo, rfl, ho⟩, hb2⟩
      have HO := Lib.hid (own_low ho HBE.out.size)
      have HB2 : Hid (Below w.heap.size w w2) := HBE.out.trans (hb2.mono HBE.out.size)
      clear ho hb2
      generalize laidL st.2.1 st.2.2 st.1 0 [] = R at *
      go_wp2
      rw [HGE.out]
      refine bodyPost_ret (v := .tuple #[vo, .int .i64 R.2.1, .int .i64 R.2.2]) (by simp [results, Tryz.results6, go_sem]) rfl ⟨⟨_, rfl, HO.out⟩, HB2.out⟩
end Go.Proofs.YthgolbmngjdbeaaGreatDoor

/- Layer 6: the walk of AsmPrograms. -/
namespace Go.Proofs.YthgolbmngjdbeaaGreatDoor.asmPrograms
open Go.RowKit
set_option linter.unusedVariables false
set_option linter.unusedSimpArgs false

theorem own_on {w w' : World} {base : Nat} {e : TypeId} {size : Nat} {v : Value} {n : Nat} {xs : List Value} (h : w.ownsRow base e size v n xs) (hb : Below w.heap.size w w') : w'.ownsRow base e size v n xs := by
  refine ⟨h.1, ?_⟩
  rcases h.2 with hn | ⟨g, cap, cur, hv, hbs, hg, rest⟩
  · exact .inl hn
  · have hlt : g < w.heap.size := by
      refine Nat.lt_of_not_le fun hn => ?_
      rw [Array.getElem?_eq_none hn] at hg; cases hg
    exact .inr ⟨g, cap, cur, hv, hbs, by rw [← hg]; exact hb.block g hlt, rest⟩
theorem own_le {w : World} {base : Nat} {e : TypeId} {size : Nat} {v : Value} {n : Nat} {xs : List Value} (h : w.ownsRow base e size v n xs) : n ≤ maxLen := by
  rcases h.2 with ⟨_, e⟩ | ⟨g, cap, cur, _, _, _, h1, h2, _⟩
  · rw [e]; exact Nat.zero_le _
  · exact Nat.le_trans h1 h2

set_option maxRecDepth 100000 in
set_option maxHeartbeats 4000000 in
theorem short (l : List UInt8) (w : World) (hl : l.length ≤ 5000) (he : progG false l = progL l) (tf : FormTab w) (tn : NameTab w) (te : EncTab w) (ts : SpTab w) :
    Calls Tryz.prog 3 #[.string (bs l)] w fun e w' => e = .returned (.bool true) ∧ Below w.heap.size w w' := by
  have hsz : (bs l).size = l.length := bs_size l
  have HAW : Hid (∀ V, Below w.heap.size w V → Calls Tryz.prog 4 #[] V fun e w' => e = .returned (.bool true) ∧ Below V.heap.size V w') := fun V hV => awake6_any V (tf.below hV) (tn.below hV) (spTab_below ts hV) (te.below hV)
  have hL := prog6_any l w (by omega) tf tn ts te
  have hR := fun V => rprog_any l V (by omega)
  rw [he] at hL
  obtain ⟨ws, n, e, hx⟩ : ∃ ws n e, progL l = (ws, n, e) := ⟨_, _, _, rfl⟩
  rw [hx] at hL
  simp only [hx] at hR
  have HL := Lib.hid hL
  have HR := Lib.hid hR
  clear hL hR hx he tf tn te ts
  go_enter Tryz.func3, Tryz.ntmps3
  go_wp2_with fail
  refine HL.out.mono ?_
  rintro e' w1 ⟨⟨v1, rfl, ho1⟩, hb1⟩
  have HB1 := Lib.hid hb1
  have HO1 : Hid (w1.ownsRow w.heap.size 27 1 v1 ws.length (ws.map uV)) := ho1
  have hB' := own_le ho1
  unfold maxLen at hB'
  dsimp only at hB'
  clear hb1 ho1 HL
  go_wp2_with fail
  refine (HR.out w1).mono ?_
  rintro e' w2 ⟨⟨v2, rfl, ho2⟩, hb2⟩
  have HB2 : Hid (Below w.heap.size w w2) := HB1.out.trans (hb2.mono HB1.out.size)
  have HO2 : Hid (w2.ownsRow w1.heap.size 27 1 v2 ws.length (ws.map uV)) := ho2
  have HO1' : Hid (w2.ownsRow w.heap.size 27 1 v1 ws.length (ws.map uV)) := own_on HO1.out hb2
  clear hb2 ho2 HR HO1
  obtain ⟨p1, c1, rfl⟩ := gown_slice HO1'.out
  obtain ⟨p2, c2, rfl⟩ := gown_slice HO2.out
  dsimp only
  go_wp2
  go_loopw [9] (fun i wr => ∃ k : Nat, k ≤ ws.length ∧ i = .int .i64 k ∧ Q w2 wr) (fun i _ => ws.length - (intOf i).toNat)
  case atStart => exact ⟨0, Nat.zero_le _, rfl, 0, rfl⟩
  case round =>
    obtain ⟨k, hk, rfl, m, rfl⟩ := hrel
    by_cases hlt : k < ws.length
    · obtain ⟨g1, cg1, hs1⟩ := owned_some HO1'.out (by omega)
      simp only [Value.slice.injEq] at hs1
      obtain ⟨rfl, _, _⟩ := hs1
      obtain ⟨g2, cg2, hs2⟩ := owned_some HO2.out (by omega)
      simp only [Value.slice.injEq] at hs2
      obtain ⟨rfl, _, _⟩ := hs2
      have h1 : w2.cell? ⟨g1, k, none⟩ = some (.int .u32 (ws[k]'hlt)) := by
        rw [HO1'.out.cellAt k (by omega)]
        simp [uV, hlt]
      have h2 : w2.cell? ⟨g2, k, none⟩ = some (.int .u32 (ws[k]'hlt)) := by
        rw [HO2.out.cellAt k (by omega)]
        simp [uV, hlt]
      clear HO1' HO2
      generalize ws[k]'hlt = x at h1 h2
      have hlt' : (k : Int) < (ws.length : Int) := by omega
      have hk0 : (0 : Int) ≤ (k : Int) := by omega
      go_wp2_with fail
      go_quiet (fail)
      go_wp2
      go_roundw
      case rel => exact ⟨k + 1, by omega, by go_num, _, rfl⟩
      case measure => simp [intOf]; omega
    · obtain rfl : k = ws.length := by omega
      have HBm : Hid (Below w.heap.size w (w2.drewN m)) := HB2.out.trans (Q.below ⟨m, rfl⟩ _)
      go_wp2_with fail
      refine (HAW.out _ HBm.out).mono ?_
      rintro e w6 ⟨rfl, hb6⟩
      go_wp2
      go_ret
      exact ⟨rfl, HBm.out.trans (hb6.mono HBm.out.size)⟩

set_option maxRecDepth 100000 in
set_option maxHeartbeats 1000000 in
theorem most (s : ByteArray) (w : World) (w0 : s.size ≤ maxLen) (he : ∀ l, s = bs l → progG false l = progL l) (tf : FormTab w) (tn : NameTab w) (te : EncTab w) (ts : SpTab w) :
    Calls Tryz.prog 3 #[.string s] w fun e w' => e = .returned (.bool true) ∧ Below w.heap.size w w' := by
  by_cases h : s.size ≤ 5000
  · obtain ⟨l, rfl⟩ : ∃ l, s = bs l := ⟨s.data.toList, by simp [bs]⟩
    exact short l w (by rw [bs_size] at h; exact h) (he l rfl) tf tn te ts
  · have h' : 5000 < s.size := by omega
    have hlm := w0
    unfold maxLen at hlm
    have HAW := Lib.hid (awake6_any w tf tn ts te)
    by_cases h2 : s.size ≤ 65536
    · clear h tf tn te ts he
      go_enter Tryz.func3, Tryz.ntmps3
      go_wp2_with fail
      refine HAW.out.mono ?_
      rintro e w3 ⟨rfl, hb3⟩
      go_wp2
      go_ret
      exact ⟨rfl, hb3⟩
    · have h2' : 65536 < s.size := by omega
      have HL := Lib.hid (prog6_long s w w0 h2')
      clear h tf tn te ts he
      go_enter Tryz.func3, Tryz.ntmps3
      go_wp2_with fail
      refine HL.out.mono ?_
      rintro e w1 ⟨rfl, hw⟩
      have hw := hw.symm
      subst hw
      go_wp2_with fail
      refine HAW.out.mono ?_
      rintro e w3 ⟨rfl, hb3⟩
      go_wp2
      go_ret
      exact ⟨rfl, hb3⟩

theorem walk (s : ByteArray) (w : World) (w0 : s.size ≤ maxLen) (tf : FormTab w) (tn : NameTab w) (te : EncTab w) (ts : SpTab w) :
    Calls Tryz.prog 3 #[.string s] w fun e w' => e = .returned (.bool true) ∧ Below w.heap.size w w' :=
  most s w w0 (fun l _ => prog_eq l) tf tn te ts
end Go.Proofs.YthgolbmngjdbeaaGreatDoor.asmPrograms
