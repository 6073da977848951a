/- My texts AsmGoZ, AsmEndP, AsmBackA, AsmBackB, Shelf, Itoa, DisSpec, AsmBackC, AsmGoE, AsmBackG, DisNum, DisLine, DisRef, DisText, DisRight, bound into one. -/
import Derived.Test.YtmkmbocnipmngaaGreatDoorB5
import Derived.Test.YtmkmbocnipmngaaGreatDoorB2
import Derived.Test.YtmkmbocnipmngaaGreatDoorRows
import Derived.Shelf.Strings.OnBuilder
import Derived.Shelf.Strings.BuilderK
import Derived.Shelf.Strconv.Itoa3
import Derived.Test.YtmkmbocnipmngaaGreatDoorB1
import Derived.Lib.AppendIntMem
import Derived.Lib.ItoaMem
import Derived.Lib.Walk
import Derived.WalkKit
import Derived.BigCall
import Derived.BigGuard
import Derived.Test.YtmkmbocnipmngaaGreatDoorB4
import Derived.Test.YtmkmbocnipmngaaGreatDoorB3
import Derived.Deep.RegionWith
import Derived.BigQuiet
import Derived.Deep.RegionHeld3
/- Layer 6, the program's own Program. -/
namespace Go.Proofs.YtmkmbocnipmngaaGreatDoor
open Go.RowKit
set_option linter.unusedVariables false
set_option linter.unusedSimpArgs false

def goG (ill : Bool) : List (List UInt8) → Nat → St → St ⊕ (Int × Int)
  | [], _, st => .inl st
  | l :: r, n, st => match stepG ill (n : Int) l st with
    | .inr e => .inr e
    | .inl st' => goG ill r (n + 1) st'
/-- A program, as the program reads it. -/
def progG (ill : Bool) (l : List UInt8) : List Int × Int × Int := endL (goG ill (splL l) 0 ([], [], []))
theorem goG_step (ill : Bool) (ls : List (List UInt8)) (n : Nat) (st : St) (h : n < ls.length) : goG ill (ls.drop n) n st = match stepG ill (n : Int) (ls.getD n []) st with
    | .inr e => .inr e
    | .inl st' => goG ill (ls.drop (n + 1)) (n + 1) st' := by
  have e1 : ls.drop n = ls.getD n [] :: ls.drop (n + 1) := by
    rw [List.drop_eq_getElem_cons h]; simp [List.getD, h]
  rw [e1, goG]

/-- What the rounds keep. -/
def OkS (n : Nat) (st : St) : Prop := st.1.length ≤ 4096 ∧ st.2.1.length ≤ n ∧ st.2.2.length = st.2.1.length ∧ (∀ p ∈ st.1, ImmB p.1 ∧ p.1.2.2.2.2.2.2.1.length ≤ 70000) ∧ (∀ a ∈ st.2.2, 0 ≤ a ∧ a ≤ 100000)
theorem OkS.up {n : Nat} {st : St} (h : OkS n st) : OkS (n + 1) st := ⟨h.1, Nat.le_succ_of_le h.2.1, h.2.2⟩
theorem takeL_lab {x y : It} {what s : List UInt8} (hx : x.2.2.2.2.2.2.1.length ≤ 70000) (hs : s.length ≤ 70000) (h : takeL x what s = some y) : y.2.2.2.2.2.2.1.length ≤ 70000 := by
  unfold takeL at h
  repeat' split at h
  all_goals first
    | (cases h; done)
    | (simp only [Option.some.injEq] at h; subst h; first | exact hx | exact hs)
    | (obtain ⟨n, _, rfl⟩ := Option.map_eq_some_iff.1 h; exact hx)
theorem takesL_lab : ∀ {ws ps : List (List UInt8)} {x y : It}, x.2.2.2.2.2.2.1.length ≤ 70000 → (∀ p ∈ ps, p.length ≤ 70000) → takesL x ws ps = some y → y.2.2.2.2.2.2.1.length ≤ 70000
  | [], ps, x, y, hx, hp, h => by
    rw [takesL_nil] at h; cases h; exact hx
  | w :: ws, [], x, y, hx, hp, h => by
    simp only [takesL, Option.some.injEq] at h; subst h; exact hx
  | w :: ws, p :: ps, x, y, hx, hp, h => by
    rw [takesL] at h
    obtain ⟨z, hz, h⟩ := Option.bind_eq_some_iff.1 h
    exact takesL_lab (takeL_lab hx (hp p (by simp)) hz) (fun q hq => hp q (by simp [hq])) h
theorem readG_ok {ill : Bool} {ps : List (List UInt8)} {x : It} (hp : ∀ p ∈ ps, p.length ≤ 70000) (h : readG ill ps = some x) : ImmB x ∧ x.2.2.2.2.2.2.1.length ≤ 70000 := by
  unfold readG at h
  split at h
  · obtain ⟨n, _, rfl⟩ := Option.map_eq_some_iff.1 h
    exact ⟨⟨(by show (0 : Int) ≤ 0; decide), (by show (0 : Int) < 4294967296; decide)⟩, (by show (0 : Nat) ≤ 70000; decide)⟩
  · refine ⟨insG_bd h, ?_⟩
    unfold insG at h
    split at h
    · cases h
    split at h
    · cases h
    split at h
    · cases h
    exact takesL_lab (x := itOp _) (by show (0 : Nat) ≤ 70000; decide) (fun q hq => hp q (List.mem_of_mem_drop hq)) h
theorem okS_body {ill : Bool} {n : Nat} {p : List (List UInt8)} {st st' : St} (hp : ∀ q ∈ p, q.length ≤ 70000) (hok : OkS (n + 1) st) (h : bodyG ill (n : Int) p st = .inl st') : OkS (n + 1) st' := by
  unfold bodyG at h
  split at h
  · simp only [Sum.inl.injEq] at h; subst h; exact hok
  · split at h
    · cases h
    · rename_i x hx
      split at h
      · cases h
      · rename_i h4
        simp only [Sum.inl.injEq] at h
        subst h
        obtain ⟨a1, a2, a3, a4, a5⟩ := hok
        refine ⟨by simp; omega, a2, a3, fun q hq => ?_, a5⟩
        rcases List.mem_append.1 hq with hq | hq
        · exact a4 q hq
        · simp at hq; subst hq; exact readG_ok hp hx
theorem okS_step {ill : Bool} {n : Nat} {l : List UInt8} {st st' : St} (hl : l.length ≤ 70000) (hok : OkS n st) (h : stepG ill (n : Int) l st = .inl st') : OkS (n + 1) st' := by
  unfold stepG at h
  split at h
  · cases h
  · rename_i p hp
    have hb := pieces_bd hp hl
    have hr : ∀ q ∈ restG p, q.length ≤ 70000 := by
      unfold restG
      split
      · exact fun q hq => hb.1 q (List.mem_of_mem_drop hq)
      · exact hb.1
    split at h
    · cases h
    · split at h
      · split at h
        · cases h
        · refine okS_body hr ?_ h
          obtain ⟨a1, a2, a3, a4, a5⟩ := hok
          refine ⟨a1, by simp; omega, by simp; omega, a4, fun a ha => ?_⟩
          rcases List.mem_append.1 ha with ha | ha
          · exact a5 a ha
          · simp at ha; subst ha; omega
      · exact okS_body hr hok.up h

theorem gown_low {w : World} {B B' : Nat} {e : TypeId} {s n : Nat} {v : Value} {xs : List Value} (h : w.ownsRow B e s v n xs) (hB : B' ≤ B) : w.ownsRow B' e s v n xs := by
  refine ⟨h.1, ?_⟩
  rcases h.2 with hn | ⟨g, cap, cur, hv, hb, rest⟩
  · exact .inl hn
  · exact .inr ⟨g, cap, cur, hv, by omega, rest⟩
theorem stepG_line {ill : Bool} {n : Int} {l : List UInt8} {st : St} {m er : Int} (h : stepG ill n l st = .inr (m, er)) : m = n + 1 := by
  unfold stepG bodyG at h
  repeat' split at h
  all_goals first
    | (simp only [Sum.inr.injEq, Prod.mk.injEq] at h; exact h.1.symm)
    | cases h

set_option maxRecDepth 100000 in
set_option maxHeartbeats 400000 in
theorem prog6_long (s : ByteArray) (w : World) (hs : s.size ≤ maxLen) (hl : 65536 < s.size) :
    Calls Tryz.prog 8 #[.string s] w fun e w' => e = .returned (.tuple #[.slice none 0 0, .int .i64 0, .int .i64 3]) ∧ w' = w := by
  unfold maxLen at hs
  go_enter Tryz.func8, Tryz.ntmps8
  go_wp2
  go_ret3
  exact ⟨rfl, rfl⟩

set_option maxRecDepth 100000 in
set_option maxHeartbeats 8000000 in
theorem prog6_any (l : List UInt8) (w : World) (hl : l.length ≤ 65536) (hF : FormTab w) (hN : NameTab w) (hS : SpTab w) (hE : EncTab w) :
    Calls Tryz.prog 8 #[.string (bs l)] w fun e w' => LaidAs (progG false l) w.heap.size e w' ∧ Below w.heap.size w w' := by
  have hsz : (bs l).size = l.length := bs_size l
  have hmm := @run_makeMap Tryz.prog
  have HF := Lib.hid hF
  have HN := Lib.hid hN
  have HS := Lib.hid hS
  have HEE := Lib.hid hE
  have HL := Lib.hid hl
  have hlen : (splL l).length ≤ 65537 := by
    have e : (splL l).length = l.count 10 + 1 := splA_len l []
    have : l.count 10 ≤ l.length := List.count_le_length
    omega
  have HBD : Hid (∀ q ∈ splL l, q.length ≤ 70000) := splA_bd l [] 70000 (by simp; omega)
  have HPG : Hid (progG false l = endL (goG false (splL l) 0 ([], [], []))) := rfl
  have HSP : Hid (∀ w, Calls Tryz.prog 17 #[.string (bs l), .string ⟨#[10]⟩] w fun e w' => e = .returned (.slice (some ⟨w.heap.size, 0, none⟩) (splL l).length (splL l).length) ∧ w' = w.alloc (.cells ((splL l).map sV).toArray 9)) := fun w => split_any l w (by omega)
  generalize splL l = ls at *
  clear hF hN hS hE
  go_enter Tryz.func8, Tryz.ntmps8
  go_wp2_with fail
  refine (HSP.out _).mono ?_
  rintro e w2 ⟨rfl, hw2⟩
  have hsz2 : ((w.alloc (.map #[] 0)).alloc (.cells #[.map (some w.heap.size), .slice none 0 0] 51)).heap.size = w.heap.size + 2 := by simp
  have hsz1 : (w.alloc (.map #[] 0)).heap.size = w.heap.size + 1 := by simp
  rw [hsz2]
  have b1 : Below w.heap.size w (w.alloc (.map #[] 0)) := (Below.refl _ _).alloc (Nat.le_refl _) _
  have b2 : Below (w.heap.size + 1) (w.alloc (.map #[] 0)) ((w.alloc (.map #[] 0)).alloc (.cells #[.map (some w.heap.size), .slice none 0 0] 51)) := (Below.refl _ _).alloc (by simp) _
  have b3 : Below (w.heap.size + 2) ((w.alloc (.map #[] 0)).alloc (.cells #[.map (some w.heap.size), .slice none 0 0] 51)) w2 := by rw [hw2]; exact (Below.refl _ _).alloc (by simp) _
  have HB2 : Hid (Below w.heap.size w w2) := (b1.trans (b2.mono (by omega))).trans (b3.mono (by omega))
  have HLN : Hid (w2.heap[w.heap.size + 2]? = some (.cells (ls.map sV).toArray 9)) := by
    show _ = _
    rw [hw2, ← hsz2]; exact heap_alloc_new _ _
  have HP2 : Hid (PrG w2 w.heap.size (w.heap.size + 1) w.heap.size (.slice none 0 0) ([], [], [])) := by
    refine ⟨?_, ⟨.map [], ?_, labIs_nil⟩, World.ownsRow_nil _ _ _ _⟩
    · rw [b3.block (w.heap.size + 1) (by omega), ← hsz1]
      exact heap_alloc_new _ _
    · have hm : MapAt (w.alloc (.map #[] 0)) w.heap.size 0 (.map []) := World.ownsMap_made w Tryz.prog 9 (plainElem Tryz.prog 22)
      have hm2 := mapAt_on hm (w' := (w.alloc (.map #[] 0)).alloc (.cells #[.map (some w.heap.size), .slice none 0 0] 51)) ((Below.refl _ _).alloc (Nat.le_refl _) _)
      exact mapAt_on hm2 (by rw [hsz2]; exact b3)
  have HZ2 : Hid (w2.heap.size = w.heap.size + 3) := by
    show _ = _
    rw [hw2]; simp
  clear b1 b2 b3 hw2 hsz2 hsz1 HSP hmm
  go_wp2_with fail
  go_loopw [17] (fun i wr => ∃ (n : Nat) (st : St) (v : Value), n ≤ ls.length ∧ i = .int .i64 n ∧ PrG wr w.heap.size (w.heap.size + 1) w.heap.size v st ∧ OkS n st ∧ wr.heap[w.heap.size + 2]? = some (.cells (ls.map sV).toArray 9) ∧ Below w.heap.size w wr ∧ Hid (goG false ls 0 ([], [], []) = goG false (ls.drop n) n st)) (fun i _ => ls.length - (intOf i).toNat)
  case atStart => exact ⟨0, ([], [], []), .slice none 0 0, Nat.zero_le _, rfl, HP2.out, ⟨(by show (0 : Nat) ≤ 4096; decide), Nat.le_refl _, rfl, (fun p hp => by cases hp), fun a ha => by cases ha⟩, HLN.out, HB2.out, rfl⟩
  case round =>
    obtain ⟨n, st, v, hn, rfl, hP, hok, hln, hb, HGX⟩ := hrel
    have HP := Lib.hid hP
    have HOK := Lib.hid hok
    have HLR := Lib.hid hln
    have HB := Lib.hid hb
    clear hP hok hln hb
    by_cases hlt : n < ls.length
    · have HQL : Hid ((ls.getD n []).length ≤ 70000) := HBD.out _ (by rw [List.getD_eq_getElem?_getD, List.getElem?_eq_getElem hlt]; exact List.getElem_mem hlt)
      have cl : wr.cell? ⟨w.heap.size + 2, n, none⟩ = some (.string (bs (ls.getD n []))) := by
        have h := HLR.out
        simp [World.cell?, h, hlt, sV]
      have HST : Hid (goG false (ls.drop n) n st = match stepG false (n : Int) (ls.getD n []) st with
          | .inr e => .inr e
          | .inl st' => goG false (ls.drop (n + 1)) (n + 1) st') := goG_step false ls n st hlt
      have HSO : Hid (∀ st', stepG false (n : Int) (ls.getD n []) st = .inl st' → OkS (n + 1) st') := fun st' h => okS_step HQL.out HOK.out h
      have HAD : Hid (Calls Tryz.prog 18 #[.pointer (some ⟨w.heap.size + 1, 0, none⟩), .int .i64 ((n : Int) + 1), .string (bs (ls.getD n []))] wr (AddAs (stepG false n (ls.getD n []) st) w.heap.size (w.heap.size + 1) w.heap.size v wr)) := add_any _ n st _ _ _ v wr HQL.out (by omega) HOK.out.1 HOK.out.2.1 HOK.out.2.2.1 HB.out.size HP.out (HF.out.below HB.out) (HN.out.below HB.out) (spTab_below HS.out HB.out)
      generalize ls.getD n [] = q at *
      have hlt' : (n : Int) < (ls.length : Int) := by omega
      have hn0 : (0 : Int) ≤ (n : Int) := by omega
      have HLT := Lib.hid hlt
      clear hlt
      go_wp2_with fail
      refine HAD.out.mono ?_
      rintro e w3 ⟨hfr, hres⟩
      have HFR := Lib.hid hfr
      have HNV : Hid (∀ k, k < w.heap.size → v.ownBlock ≠ some k) := fun k hk e => by
        rcases HP.out.2.2.2 with ⟨rfl, _⟩ | ⟨g, cap, cur, rfl, hb, _⟩
        · simp [Value.ownBlock] at e
        · simp only [Value.ownBlock, Option.some.injEq] at e; omega
      have HB3 : Hid (Below w.heap.size w w3) := HB.out.trans ⟨HFR.out.1, HFR.out.2.1, HFR.out.2.2.1, HFR.out.2.2.2.1, fun k hk => HFR.out.2.2.2.2 k (by have := HB.out.size; omega) (by omega) (by omega) (HNV.out k hk)⟩
      have HL3 : Hid (w3.heap[w.heap.size + 2]? = some (.cells (ls.map sV).toArray 9)) := by
        show _ = _
        rw [HFR.out.2.2.2.2 (w.heap.size + 2) (Array.getElem?_eq_some_iff.1 HLR.out).1 (by omega) (by omega) ?_]
        · exact HLR.out
        · rcases HP.out.2.2.2 with ⟨rfl, _⟩ | ⟨g, cap, cur, rfl, _, hg, _⟩
          · simp [Value.ownBlock]
          · simp only [Value.ownBlock, ne_eq, Option.some.injEq]
            rintro rfl
            have h := HLR.out
            rw [hg] at h
            simp only [Option.some.injEq, Obj.cells.injEq] at h
            exact absurd h.2.1 (by decide)
      clear hfr
      rcases hres with ⟨st', v', hst, rfl, hP'⟩ | ⟨ne, er, hst, rfl, her⟩
      · have HP' := Lib.hid hP'
        have HOK' := Lib.hid (HSO.out st' hst)
        have HGO : Hid (goG false ls 0 ([], [], []) = goG false (ls.drop (n + 1)) (n + 1) st') := by
          show goG _ _ _ _ = _
          rw [HGX.out, HST.out, hst]
        clear hP' hst
        go_wp2
        go_roundw
        case rel => exact ⟨n + 1, st', v', HLT.out, by go_num, HP'.out, HOK'.out, HL3.out, HB3.out, HGO.out⟩
        case measure => have := HLT.out; simp [intOf]; omega
      · have HNE : Hid (ne = (n : Int) + 1) := stepG_line hst
        have HE : Hid (progG false l = ([], ne, er)) := by
          show progG false l = _
          rw [HPG.out, HGX.out, HST.out, hst]; rfl
        have her' : (er != 0) = true := by simpa using her
        clear hst her
        go_wp2
        go_ret3
        refine ⟨?_, HB3.out⟩
        rw [HE.out, HNE.out]
        exact ⟨_, rfl, World.ownsRow_nil _ _ _ _⟩
    · obtain rfl : n = ls.length := by omega
      have HE : Hid (progG false l = laidL st.2.1 st.2.2 st.1 0 []) := by
        show progG false l = _
        rw [HPG.out, HGX.out, List.drop_length]; rfl
      have HWD : Hid (Calls Tryz.prog 19 #[.pointer (some ⟨w.heap.size + 1, 0, none⟩)] wr fun e w' => LaidAs (laidL st.2.1 st.2.2 st.1 0 []) wr.heap.size e w' ∧ Below wr.heap.size wr w') := words_any st.1 st.2.1 st.2.2 _ _ _ v wr HP.out HOK.out.1 HOK.out.2.2.2.1 HOK.out.2.2.2.2 (HF.out.below HB.out) (HEE.out.below HB.out)
      go_wp2_with fail
      refine HWD.out.mono ?_
      rintro e w3 ⟨⟨vo, rfl, ho⟩, hb3⟩
      have HB3 : Hid (Below w.heap.size w w3) := HB.out.trans (hb3.mono HB.out.size)
      have HO3 := Lib.hid ho
      clear hb3 ho
      go_wp2
      go_ret3
      refine ⟨?_, HB3.out⟩
      rw [HE.out]
      exact ⟨vo, rfl, gown_low HO3.out HB.out.size⟩
end Go.Proofs.YtmkmbocnipmngaaGreatDoor

/- Layer 6: awake; the walk of AsmPieces. -/
namespace Go.Proofs.YtmkmbocnipmngaaGreatDoor
open Go.RowKit
set_option linter.unusedVariables false
set_option linter.unusedSimpArgs false

def awL : List UInt8 := [97, 100, 100, 105, 32, 120, 49, 44, 32, 120, 48, 44, 32, 49, 48]
def awP : List UInt8 := [108, 111, 111, 112, 58, 32, 97, 100, 100, 105, 32, 120, 49, 44, 32, 120, 49, 44, 32, 45, 49, 10, 98, 110, 101, 32, 120, 49, 44, 32, 120, 48, 44, 32, 108, 111, 111, 112, 10]
theorem aw_line : lineG false awL = ((19, 1, 0, 0, 10, 0), 0) := by decide +kernel
theorem aw_prog : progG false awP = ([4293951635, 4261453539], 0, 0) := by decide +kernel

set_option maxRecDepth 100000 in
set_option maxHeartbeats 1000000 in
theorem awake6_any (w : World) (hF : FormTab w) (hN : NameTab w) (hS : SpTab w) (hE : EncTab w) :
    Calls Tryz.prog 4 #[] w fun e w' => e = .returned (.bool true) ∧ Below w.heap.size w w' := by
  have h1 := line6_any awL w (by decide) hF hN hS
  have e1 : bs awL = ⟨#[97, 100, 100, 105, 32, 120, 49, 44, 32, 120, 48, 44, 32, 49, 48]⟩ := rfl
  rw [e1, aw_line] at h1
  have HL := Lib.hid h1
  have HPR : Hid (∀ V, Below w.heap.size w V → Calls Tryz.prog 8 #[.string ⟨#[108, 111, 111, 112, 58, 32, 97, 100, 100, 105, 32, 120, 49, 44, 32, 120, 49, 44, 32, 45, 49, 10, 98, 110, 101, 32, 120, 49, 44, 32, 120, 48, 44, 32, 108, 111, 111, 112, 10]⟩] V fun e w' => LaidAs ([4293951635, 4261453539], 0, 0) V.heap.size e w' ∧ Below V.heap.size V w') := fun V hV => by
    have h2 := prog6_any awP V (by decide) (hF.below hV) (hN.below hV) (spTab_below hS hV) (hE.below hV)
    have e2 : bs awP = ⟨#[108, 111, 111, 112, 58, 32, 97, 100, 100, 105, 32, 120, 49, 44, 32, 120, 49, 44, 32, 45, 49, 10, 98, 110, 101, 32, 120, 49, 44, 32, 120, 48, 44, 32, 108, 111, 111, 112, 10]⟩ := rfl
    rw [e2, aw_prog] at h2
    exact h2
  clear h1 e1 hF hN hS hE
  go_enter Tryz.func4, Tryz.ntmps4
  go_wp2_with fail
  refine HL.out.mono ?_
  rintro e w1 ⟨rfl, hb1⟩
  have HB1 := Lib.hid hb1
  clear hb1
  unfold six6
  go_wp2_with fail
  obtain ⟨W, hW⟩ : ∃ W, w1.alloc (.cells #[.int .i64 19, .int .i64 1, .int .i64 0, .int .i64 0, .int .u32 10, .int .i64 0] 24) = W := ⟨_, rfl⟩
  have HBW : Hid (Below w1.heap.size w1 W) := by show Below _ _ _; rw [← hW]; exact (Below.refl _ _).alloc (Nat.le_refl _) _
  have HTW : Hid (SixG W w1.heap.size 19 1 0 0 10 0) := by show SixG _ _ _ _ _ _ _ _; rw [← hW]; exact sixG_new w1 _ _ _ _ _ _
  rw [hW]
  clear hW
  have HB2 : Hid (Below w.heap.size w W) := HB1.out.trans (HBW.out.mono HB1.out.size)
  refine (HPR.out W HB2.out).mono ?_
  rintro e w2 ⟨⟨vo, rfl, ho⟩, hb2⟩
  have HB3 : Hid (Below w.heap.size w w2) := HB2.out.trans (hb2.mono HB2.out.size)
  have HT2 := Lib.hid (SixG.on HTW.out hb2)
  have ho' : w2.ownsRow W.heap.size 22 1 vo 2 [.int .u32 4293951635, .int .u32 4261453539] := ho
  obtain ⟨g, c, rfl⟩ := owned_some ho' (by decide)
  have c1 : w2.cell? ⟨g, 1, none⟩ = some (.int .u32 4261453539) := ho'.cellAt 1 (by decide)
  obtain ⟨s0, s1, s2, s3, s4, s5⟩ := HT2.out.cells
  clear ho ho' hb2
  go_wp2
  go_ret
  exact ⟨rfl, HB3.out⟩
end Go.Proofs.YtmkmbocnipmngaaGreatDoor

namespace Go.Proofs.YtmkmbocnipmngaaGreatDoor.asmPieces
open Go.RowKit
set_option linter.unusedVariables false
set_option linter.unusedSimpArgs false

end Go.Proofs.YtmkmbocnipmngaaGreatDoor.asmPieces

/- Layer 6, P6.3 as mathematics: the pieces of a text. -/
namespace Go.Proofs.YtmkmbocnipmngaaGreatDoor
open Go.RowKit
set_option linter.unusedVariables false
set_option linter.unusedSimpArgs false

def isP (l : List UInt8) : Prop := ∀ c ∈ l, ck c = 3
theorem pcs_run : ∀ (p r : List UInt8) (out : List (List UInt8)) (q : List UInt8), isP p → pcs (p ++ r) out q = pcs r out (q ++ p)
  | [], r, out, q, _ => by simp
  | c :: p, r, out, q, h => by
    rw [List.cons_append, pcs, if_pos (h c (by simp)), pcs_run p r out (q ++ [c]) (fun d hd => h d (by simp [hd]))]
    simp
theorem pcs_end (p : List UInt8) (out : List (List UInt8)) (q : List UInt8) (h : isP p) (hne : q ++ p ≠ []) : pcs p out q = some (out ++ [q ++ p]) := by
  have := pcs_run p [] out q h
  rw [List.append_nil] at this
  rw [this, pcs, flushP, if_neg hne]
theorem ck_num {c : UInt8} (h : IsNum c) : ck c = 3 := by
  unfold ck skind
  rcases h with rfl | ⟨h1, h2⟩
  · decide
  · have h1' : (48 : Int) ≤ (c.toNat : Int) := by omega
    have h2' : (c.toNat : Int) ≤ 57 := by omega
    repeat' split
    all_goals omega
theorem isP_num (n : Int) : isP (numL n) := fun c hc => ck_num (numL_num n c hc)
theorem isP_reg (n : Int) : isP (120 :: numL n) := fun c hc => by
  rcases List.mem_cons.1 hc with rfl | h
  · decide
  · exact isP_num n c h
theorem isP_name : ∀ k, k < 58 → isP (nameL.getD k []) := by
  have h : ∀ k, k < 58 → (nameL.getD k []).all (fun c => decide (ck c = 3)) = true := by decide +kernel
  intro k hk c hc
  exact of_decide_eq_true (List.all_eq_true.1 (h k hk) c hc)
theorem name_ne : ∀ k, k < 58 → nameL.getD k [] ≠ [] := by decide +kernel
theorem digF_ne : ∀ f n, digF f n ≠ []
  | 0, n => by simp [digF]
  | f + 1, n => by
    rw [digF]; split <;> simp
theorem numL_ne (n : Int) : numL n ≠ [] := by
  unfold numL
  split
  · simp
  · exact digF_ne _ _

/-- Behind a piece that is begun. -/
theorem pcs_sp (r q : List UInt8) (out : List (List UInt8)) (h : q ≠ []) : pcs (32 :: r) out q = pcs r (out ++ [q]) [] := by
  rw [pcs, if_neg (by decide), if_neg (by decide), if_neg (by decide), if_neg (by decide), flushP, if_neg h]
theorem pcs_sp0 (r : List UInt8) (out : List (List UInt8)) : pcs (32 :: r) out [] = pcs r out [] := by
  rw [pcs, if_neg (by decide), if_neg (by decide), if_neg (by decide), if_neg (by decide), flushP, if_pos rfl]
theorem pcs_comma (r q : List UInt8) (out : List (List UInt8)) (h : q ≠ []) : pcs (44 :: 32 :: r) out q = pcs r (out ++ [q, [44] ]) [] := by
  rw [pcs, if_neg (by decide), if_neg (by decide), if_neg (by decide), if_pos (by decide), flushP, if_neg h, pcs_sp0]
  simp
theorem pcs_open (r q : List UInt8) (out : List (List UInt8)) (h : q ≠ []) : pcs (40 :: r) out q = pcs r (out ++ [q, [40] ]) [] := by
  rw [pcs, if_neg (by decide), if_neg (by decide), if_neg (by decide), if_pos (by decide), flushP, if_neg h]
  simp
theorem pcs_close (q : List UInt8) (out : List (List UInt8)) (h : q ≠ []) : pcs [41] out q = some (out ++ [q, [41] ]) := by
  rw [pcs, if_neg (by decide), if_neg (by decide), if_neg (by decide), if_pos (by decide), flushP, if_neg h, pcs, flushP, if_pos rfl]
  simp
theorem pcs_reg (n : Int) (r : List UInt8) (out : List (List UInt8)) : pcs (120 :: (numL n ++ r)) out [] = pcs r out (120 :: numL n) := by
  rw [← List.cons_append, pcs_run _ _ _ _ (isP_reg n)]; rfl
theorem pcs_num (n : Int) (r : List UInt8) (out : List (List UInt8)) : pcs (numL n ++ r) out [] = pcs r out (numL n) := by
  rw [pcs_run _ _ _ _ (isP_num n)]; rfl
theorem pcs_regE (n : Int) (out : List (List UInt8)) : pcs (120 :: numL n) out [] = some (out ++ [120 :: numL n]) := pcs_end _ _ _ (isP_reg n) (by simp)
theorem pcs_numE (n : Int) (out : List (List UInt8)) : pcs (numL n) out [] = some (out ++ [numL n]) := pcs_end _ _ _ (isP_num n) (by simpa using numL_ne n)
theorem pcs_name (k : Nat) (hk : k < 58) (r : List UInt8) : pcs (nameL.getD k [] ++ 32 :: r) [] [] = pcs r [nameL.getD k [] ] [] := by
  rw [pcs_run _ _ _ _ (isP_name k hk), List.nil_append, pcs_sp _ _ _ (name_ne k hk)]; rfl

/-- The pieces behind a name. -/
def restP (k : Nat) (rd rs1 rs2 imm csr : Int) : List (List UInt8) :=
  if formZ k = 1 then [120 :: numL rd, [44], numL (imm / 4096)]
  else if formZ k = 2 then [120 :: numL rd, [44], numL (signedOf imm)]
  else if formZ k = 3 then (if k ≤ 15 then [120 :: numL rd, [44], numL (signedOf imm), [40], 120 :: numL rs1, [41] ] else [120 :: numL rd, [44], 120 :: numL rs1, [44], numL (signedOf imm)])
  else if formZ k = 4 then [120 :: numL rs1, [44], 120 :: numL rs2, [44], numL (signedOf imm)]
  else if formZ k = 5 then [120 :: numL rs2, [44], numL (signedOf imm), [40], 120 :: numL rs1, [41] ]
  else if formZ k = 6 then [120 :: numL rd, [44], 120 :: numL rs1, [44], 120 :: numL rs2]
  else if formZ k = 7 then [120 :: numL rd, [44], 120 :: numL rs1, [44], numL (signedOf imm)]
  else if formZ k = 8 then [120 :: numL rd, [44], numL csr, [44], 120 :: numL rs1]
  else if formZ k = 9 then [120 :: numL rd, [44], numL csr, [44], numL (signedOf imm)]
  else []
theorem form_cases (k : Nat) (hk : k < 58) : formZ k = 0 ∨ formZ k = 1 ∨ formZ k = 2 ∨ formZ k = 3 ∨ formZ k = 4 ∨ formZ k = 5 ∨ formZ k = 6 ∨ formZ k = 7 ∨ formZ k = 8 ∨ formZ k = 9 := by
  have := formZ_lt k hk; omega
theorem pieces_text (k : Nat) (hk : k < 58) (rd rs1 rs2 imm csr : Int) : piecesL (textL k rd rs1 rs2 imm csr) = some (nameL.getD k [] :: restP k rd rs1 rs2 imm csr) := by
  have N := numL_ne
  have R : ∀ n, 120 :: numL n ≠ [] := fun n => by simp
  unfold piecesL textL restL restP
  rcases form_cases k hk with h | h | h | h | h | h | h | h | h | h
  · rw [h]
    simp only [Int.reduceEq, if_false, List.append_nil]
    exact pcs_end _ _ _ (isP_name k hk) (by simpa using name_ne k hk)
  · rw [h]; simp only [Int.reduceEq, if_true, if_false, reduceIte, List.nil_append, List.cons_append, pcs_name k hk, pcs_reg, pcs_num, pcs_regE, pcs_numE, pcs_comma _ _ _ (N _), pcs_comma _ _ _ (R _), pcs_open _ _ _ (N _), pcs_close _ _ (R _)]
  · rw [h]; simp only [Int.reduceEq, if_true, if_false, reduceIte, List.nil_append, List.cons_append, pcs_name k hk, pcs_reg, pcs_num, pcs_regE, pcs_numE, pcs_comma _ _ _ (N _), pcs_comma _ _ _ (R _), pcs_open _ _ _ (N _), pcs_close _ _ (R _)]
  · rw [h]
    by_cases c : k ≤ 15
    · simp only [c, Int.reduceEq, if_true, if_false, reduceIte, List.nil_append, List.cons_append, pcs_name k hk, pcs_reg, pcs_num, pcs_regE, pcs_numE, pcs_comma _ _ _ (N _), pcs_comma _ _ _ (R _), pcs_open _ _ _ (N _), pcs_close _ _ (R _)]
    · simp only [c, Int.reduceEq, if_true, if_false, reduceIte, List.nil_append, List.cons_append, pcs_name k hk, pcs_reg, pcs_num, pcs_regE, pcs_numE, pcs_comma _ _ _ (N _), pcs_comma _ _ _ (R _), pcs_open _ _ _ (N _), pcs_close _ _ (R _)]
  all_goals (rw [h]; simp only [Int.reduceEq, if_true, if_false, reduceIte, List.nil_append, List.cons_append, pcs_name k hk, pcs_reg, pcs_num, pcs_regE, pcs_numE, pcs_comma _ _ _ (N _), pcs_comma _ _ _ (R _), pcs_open _ _ _ (N _), pcs_close _ _ (R _)])
theorem pieces_word (x : Int) : piecesL (kWord ++ 32 :: numL x) = some [kWord, numL x] := by
  unfold piecesL
  rw [pcs_run kWord _ _ _ (by unfold isP kWord; decide), List.nil_append, pcs_sp _ _ _ (by unfold kWord; decide), pcs_numE]; rfl
end Go.Proofs.YtmkmbocnipmngaaGreatDoor

/- Layer 6, P6.3 as mathematics: numbers and registers are read as they were told; so is an instruction's line. -/
namespace Go.Proofs.YtmkmbocnipmngaaGreatDoor
open Go.RowKit
set_option linter.unusedVariables false
set_option linter.unusedSimpArgs false

theorem digF_len_lt : ∀ (j f n : Nat), n < 10 ^ (j + 1) → (digF f n).length ≤ j + 1
  | j, 0, n, h => by simp [digF]
  | 0, f + 1, n, h => by
    rw [digF, if_pos (by omega)]; simp
  | j + 1, f + 1, n, h => by
    rw [digF]
    split
    · simp
    · have := digF_len_lt j f (n / 10) (by rw [Nat.pow_succ] at h; omega)
      simp only [List.length_append, List.length_cons, List.length_nil]; omega
theorem dig_all (n : Nat) : (dig10 n).all isDg = true := List.all_eq_true.2 fun c hc => decide_eq_true (digF_num _ _ c hc)
theorem dig_pos (n : Nat) : 1 ≤ (dig10 n).length := by
  have := digF_ne 19 n
  unfold dig10
  cases h : digF 19 n with
  | nil => exact absurd h this
  | cons a b => simp
theorem digN_dig (n : Nat) (h : n < 10000000000) : digN (dig10 n) = n := by
  unfold digN
  rw [if_pos ⟨dig_pos n, digF_len_lt 9 19 n (by simpa using h), dig_all n⟩]
  unfold dig10
  rw [val_digF 19 n (Nat.lt_of_lt_of_le h (by decide))]
theorem getD_dg (l : List UInt8) (h : l.all isDg = true) (i : Nat) (x : UInt8) (hx : isDg x = false) (hx0 : x ≠ 0) : l.getD i 0 ≠ x := by
  intro e
  by_cases hi : i < l.length
  · have hm : l.getD i 0 ∈ l := by
      rw [List.getD_eq_getElem?_getD, List.getElem?_eq_getElem hi]; exact List.getElem_mem hi
    have := List.all_eq_true.1 h _ hm
    rw [e, hx] at this; cases this
  · rw [List.getD_eq_getElem?_getD, List.getElem?_eq_none (by omega)] at e
    exact hx0 e.symm
theorem magN_dig (n : Nat) (h : n < 10000000000) : magN (dig10 n) = n := by
  unfold magN
  rw [if_neg (fun c => getD_dg _ (dig_all n) 1 120 (by decide) (by decide) c.2.2), digN_dig n h]
theorem numW_numL (n : Int) (h0 : -2147483648 ≤ n) (h1 : n < 4294967296) : numW (numL n) = some (n % 4294967296) := by
  unfold numW numL
  by_cases c : n < 0
  · rw [if_pos c, if_pos (by unfold lessB; simp), show (45 :: dig10 (0 - n).toNat).drop 1 = dig10 (0 - n).toNat from rfl, magN_dig _ (by omega)]
    unfold cvtN
    rw [if_neg (by omega), if_pos rfl]
    congr 1
    omega
  · rw [if_neg c, if_neg, magN_dig _ (by omega)]
    · unfold cvtN
      rw [if_neg (by simp; omega), if_neg (by simp)]
      congr 1
      omega
    · unfold lessB
      rw [decide_eq_true_eq]
      exact fun q => getD_dg _ (dig_all _) 0 45 (by decide) (by decide) q.2
theorem numW_signed (x : Int) (h0 : 0 ≤ x) (h1 : x < 4294967296) : numW (numL (signedOf x)) = some x := by
  have hb := signedOf_bd x h0 h1
  rw [numW_numL _ (by omega) (by omega)]
  congr 1
  unfold signedOf
  split <;> omega
theorem numW_nat (x : Int) (h0 : 0 ≤ x) (h1 : x < 4294967296) : numW (numL x) = some x := by
  rw [numW_numL _ (by omega) (by omega)]
  congr 1
  omega
theorem regN_regL (n : Int) (h0 : 0 ≤ n) (h1 : n ≤ 31) : regN (120 :: numL n) = n := by
  have h : ∀ k : Nat, k < 32 → regN (120 :: numL (k : Int)) = (k : Int) := by decide +kernel
  have := h n.toNat (by omega)
  rwa [show ((n.toNat : Nat) : Int) = n from by omega] at this
theorem nameB_num (n : Int) : nameB (numL n) = false := by
  have h := numL_num n
  cases hl : numL n with
  | nil => rfl
  | cons c r =>
    have hc : IsNum c := h c (by rw [hl]; simp)
    unfold nameB
    rw [decide_eq_false_iff_not]
    rcases hc with rfl | ⟨h1, h2⟩
    · decide
    · omega

theorem opN_name : ∀ k, k < 58 → opN (nameL.getD k []) = k := by decide +kernel
theorem name_word : ∀ k, k < 58 → nameL.getD k [] ≠ kWord := by decide +kernel

theorem fill_rdL (x : It) (n : Int) (h0 : 0 ≤ n) (h1 : n ≤ 31) : fillL x kRd (120 :: numL n) = some (x.1, n, x.2.2) := by
  unfold fillL; rw [if_pos rfl, regN_regL n h0 h1, if_pos h0]
theorem fill_rs1L (x : It) (n : Int) (h0 : 0 ≤ n) (h1 : n ≤ 31) : fillL x kRs1 (120 :: numL n) = some (x.1, x.2.1, n, x.2.2.2) := by
  unfold fillL; rw [if_neg (by decide), if_pos rfl, regN_regL n h0 h1, if_pos h0]
theorem fill_rs2L (x : It) (n : Int) (h0 : 0 ≤ n) (h1 : n ≤ 31) : fillL x kRs2 (120 :: numL n) = some (x.1, x.2.1, x.2.2.1, n, x.2.2.2.2) := by
  unfold fillL; rw [if_neg (by decide), if_neg (by decide), if_pos rfl, regN_regL n h0 h1, if_pos h0]
theorem fill_numL (x : It) (n m : Int) (h : numW (numL n) = some m) : fillL x kNum (numL n) = some (x.1, x.2.1, x.2.2.1, x.2.2.2.1, m, x.2.2.2.2.2) := by
  unfold fillL; rw [if_neg (by decide), if_neg (by decide), if_neg (by decide), if_pos rfl, h]; rfl
theorem fill_csrL (x : It) (n m : Int) (h : numW (numL n) = some m) : fillL x kCsr (numL n) = some (x.1, x.2.1, x.2.2.1, x.2.2.2.1, x.2.2.2.2.1, m, x.2.2.2.2.2.2) := by
  unfold fillL; rw [if_neg (by decide), if_neg (by decide), if_neg (by decide), if_neg (by decide), if_pos rfl, h]; rfl
theorem fill_tgtL (x : It) (n m : Int) (h : numW (numL n) = some m) : fillL x kTgt (numL n) = some (x.1, x.2.1, x.2.2.1, x.2.2.2.1, m, x.2.2.2.2.2) := by
  unfold fillL; rw [if_neg (by decide), if_neg (by decide), if_neg (by decide), if_neg (by decide), if_neg (by decide), if_pos rfl, nameB_num, if_neg (by decide), h]; rfl
theorem fill_commaL (x : It) : fillL x [44] [44] = some x := by
  unfold fillL; rw [if_neg (by decide), if_neg (by decide), if_neg (by decide), if_neg (by decide), if_neg (by decide), if_neg (by decide), if_pos rfl]
theorem fill_openL (x : It) : fillL x [40] [40] = some x := by
  unfold fillL; rw [if_neg (by decide), if_neg (by decide), if_neg (by decide), if_neg (by decide), if_neg (by decide), if_neg (by decide), if_pos rfl]
theorem fill_closeL (x : It) : fillL x [41] [41] = some x := by
  unfold fillL; rw [if_neg (by decide), if_neg (by decide), if_neg (by decide), if_neg (by decide), if_neg (by decide), if_neg (by decide), if_pos rfl]

/-- The pieces of a right instruction's text are read as the instruction. -/
theorem read_text (k : Nat) (hk : k < 58) (hk0 : k ≠ 0) (rd rs1 rs2 imm csr : Int) (i0 : 0 ≤ imm) (i1 : imm < 4294967296) (hr : rightOf (formZ k) rd rs1 rs2 imm csr = true) :
    readL (nameL.getD k [] :: restP k rd rs1 rs2 imm csr) = some ((k : Int), rd, rs1, rs2, imm, csr, [], 0, false) := by
  obtain ⟨p1, p2, p3, p4, p5⟩ := right_parts _ _ _ _ _ _ hr
  have hs := numW_signed imm i0 i1
  unfold readL
  rw [if_neg (fun c => name_word k hk (by simpa using c.2))]
  rw [show (nameL.getD k [] :: restP k rd rs1 rs2 imm csr).getD 0 [] = nameL.getD k [] from rfl, opN_name k hk, show (nameL.getD k [] :: restP k rd rs1 rs2 imm csr).drop 1 = restP k rd rs1 rs2 imm csr from rfl]
  have hlen : (nameL.getD k [] :: restP k rd rs1 rs2 imm csr).length = (shapeL k).length + 1 := by
    rw [List.length_cons]
    unfold restP shapeL
    rcases form_cases k hk with h | h | h | h | h | h | h | h | h | h
    all_goals (rw [h]; simp)
    split <;> simp
  rw [if_neg (fun c => c.elim hk0 (fun c => c hlen))]
  unfold restP shapeL finL itOp
  rcases form_cases k hk with h | h | h | h | h | h | h | h | h | h
  · rw [h] at p1 p2 p3 p4 p5 ⊢
    obtain rfl := partB_n p1
    obtain rfl := partB_n p2
    obtain rfl := partB_n p3
    obtain rfl := partB_n p4
    obtain rfl : imm = 0 := by simpa [immB] using p5
    rfl
  · rw [h] at p1 p2 p3 p4 p5 ⊢
    have q1 := partB_y p1
    obtain rfl := partB_n p2
    obtain rfl := partB_n p3
    obtain rfl := partB_n p4
    have q5 : imm % 4096 = 0 := by simpa [immB] using p5
    have hu := numW_nat (imm / 4096) (by omega) (by omega)
    simp only [Int.reduceEq, if_true, if_false, reduceIte, fillsL, fill_rdL _ rd q1.1 q1.2, fill_commaL, fill_numL _ _ _ hu, Option.bind_some]
    rw [if_neg (by omega)]
    rw [show imm / 4096 * 4096 = imm from by omega]
  · rw [h] at p1 p2 p3 p4 p5 ⊢
    have q1 := partB_y p1
    obtain rfl := partB_n p2
    obtain rfl := partB_n p3
    obtain rfl := partB_n p4
    simp only [Int.reduceEq, if_true, if_false, reduceIte, fillsL, fill_rdL _ rd q1.1 q1.2, fill_commaL, fill_tgtL _ _ _ hs, Option.bind_some]
  · rw [h] at p1 p2 p3 p4 p5 ⊢
    have q1 := partB_y p1
    have q2 := partB_y p2
    obtain rfl := partB_n p3
    obtain rfl := partB_n p4
    by_cases c : k ≤ 15
    · simp only [c, Int.reduceEq, if_true, if_false, reduceIte, fillsL, fill_rdL _ rd q1.1 q1.2, fill_rs1L _ rs1 q2.1 q2.2, fill_commaL, fill_openL, fill_closeL, fill_numL _ _ _ hs, Option.bind_some]
    · simp only [c, Int.reduceEq, if_true, if_false, reduceIte, fillsL, fill_rdL _ rd q1.1 q1.2, fill_rs1L _ rs1 q2.1 q2.2, fill_commaL, fill_openL, fill_closeL, fill_numL _ _ _ hs, Option.bind_some]
  · rw [h] at p1 p2 p3 p4 p5 ⊢
    obtain rfl := partB_n p1
    have q2 := partB_y p2
    have q3 := partB_y p3
    obtain rfl := partB_n p4
    simp only [Int.reduceEq, if_true, if_false, reduceIte, fillsL, fill_rs1L _ rs1 q2.1 q2.2, fill_rs2L _ rs2 q3.1 q3.2, fill_commaL, fill_tgtL _ _ _ hs, Option.bind_some]
  · rw [h] at p1 p2 p3 p4 p5 ⊢
    obtain rfl := partB_n p1
    have q2 := partB_y p2
    have q3 := partB_y p3
    obtain rfl := partB_n p4
    simp only [Int.reduceEq, if_true, if_false, reduceIte, fillsL, fill_rs1L _ rs1 q2.1 q2.2, fill_rs2L _ rs2 q3.1 q3.2, fill_commaL, fill_openL, fill_closeL, fill_numL _ _ _ hs, Option.bind_some]
  · rw [h] at p1 p2 p3 p4 p5 ⊢
    have q1 := partB_y p1
    have q2 := partB_y p2
    have q3 := partB_y p3
    obtain rfl := partB_n p4
    obtain rfl : imm = 0 := by simpa [immB] using p5
    simp only [Int.reduceEq, if_true, if_false, reduceIte, fillsL, fill_rdL _ rd q1.1 q1.2, fill_rs1L _ rs1 q2.1 q2.2, fill_rs2L _ rs2 q3.1 q3.2, fill_commaL, Option.bind_some]
  · rw [h] at p1 p2 p3 p4 p5 ⊢
    have q1 := partB_y p1
    have q2 := partB_y p2
    obtain rfl := partB_n p3
    obtain rfl := partB_n p4
    simp only [Int.reduceEq, if_true, if_false, reduceIte, fillsL, fill_rdL _ rd q1.1 q1.2, fill_rs1L _ rs1 q2.1 q2.2, fill_commaL, fill_numL _ _ _ hs, Option.bind_some]
  · rw [h] at p1 p2 p3 p4 p5 ⊢
    have q1 := partB_y p1
    have q2 := partB_y p2
    obtain rfl := partB_n p3
    have q4 := partB_y p4
    obtain rfl : imm = 0 := by simpa [immB] using p5
    have hc := numW_nat csr q4.1 (by omega)
    simp only [Int.reduceEq, if_true, if_false, reduceIte, fillsL, fill_rdL _ rd q1.1 q1.2, fill_rs1L _ rs1 q2.1 q2.2, fill_commaL, fill_csrL _ _ _ hc, Option.bind_some]
  · rw [h] at p1 p2 p3 p4 p5 ⊢
    have q1 := partB_y p1
    obtain rfl := partB_n p2
    obtain rfl := partB_n p3
    have q4 := partB_y p4
    have hc := numW_nat csr q4.1 (by omega)
    simp only [Int.reduceEq, if_true, if_false, reduceIte, fillsL, fill_rdL _ rd q1.1 q1.2, fill_commaL, fill_csrL _ _ _ hc, fill_numL _ _ _ hs, Option.bind_some]

theorem line_text (k : Nat) (hk : k < 58) (hk0 : k ≠ 0) (rd rs1 rs2 imm csr : Int) (i0 : 0 ≤ imm) (i1 : imm < 4294967296) (hr : rightOf (formZ k) rd rs1 rs2 imm csr = true) :
    lineL (textL k rd rs1 rs2 imm csr) = (((k : Int), rd, rs1, rs2, imm, csr), 0) := by
  unfold lineL
  rw [pieces_text k hk]
  show (if _ then _ else _) = _
  rw [if_neg (by simp), read_text k hk hk0 _ _ _ _ _ i0 i1 hr]
  unfold itL
  show (if _ then _ else _) = _
  rw [if_neg (by simp), if_pos]
  · rfl
  · unfold right6
    show rightB (k : Int) rd rs1 rs2 imm csr = true
    rw [rightB_nat hk]; exact hr
end Go.Proofs.YtmkmbocnipmngaaGreatDoor

/- What the library of the language does, as the shelf of contracts has it, laid for this translation (each a structure of facts, a field a row). -/
namespace Go.Proofs.YtmkmbocnipmngaaGreatDoor
open Go.Shelf
set_option linter.unusedVariables false

def lays169_ren : Go.Shelf.Ren := ⟨fun | 169 => 23 | n => n, fun | 70 => 55 | 9 => 9 | 0 => 0 | 72 => 58 | 37 => 56 | 127 => 93 | 3 => 3 | 5 => 5 | n => n, fun | n => n⟩
theorem lays169 : Go.Proofs.Lays.n169 Tryz.prog lays169_ren := {
  mixed := by kernel_rfl
  f169 := Tryz.func23.trans (congrArg some (by kernel_rfl))
  t0 := Tryz.underlying0
  a0 := Tryz.isAgg0
  z0 := Tryz.sizeOf0
  v0 := Tryz.zeroValue0
  t3 := Tryz.underlying3
  a3 := Tryz.isAgg3
  z3 := Tryz.sizeOf3
  v3 := Tryz.zeroValue3
  t9 := Tryz.underlying9
  a9 := Tryz.isAgg9
  z9 := Tryz.sizeOf9
  v9 := Tryz.zeroValue9
  t37 := Tryz.underlying56
  a37 := Tryz.isAgg56
  z37 := Tryz.sizeOf56
  v37 := Tryz.zeroValue56
  t70 := Tryz.underlying55
  a70 := Tryz.isAgg55
  z70 := Tryz.sizeOf55
  v70 := Tryz.zeroValue55
  t72 := Tryz.underlying58
  a72 := Tryz.isAgg58
  z72 := Tryz.sizeOf58
  v72 := Tryz.zeroValue58
  t127 := Tryz.underlying93
  a127 := Tryz.isAgg93
  z127 := Tryz.sizeOf93
  v127 := Tryz.zeroValue93 }

theorem Builder_Extra_169 : Builder.Extra Tryz.prog lays169_ren := {
  sizeBuilder := by kernel_rfl
  liesBuilder := by kernel_rfl
  t5 := Tryz.underlying5
  a5 := Tryz.isAgg5
  z5 := Tryz.sizeOf5
  v5 := Tryz.zeroValue5
  infoByte := by kernel_rfl
  cellsByte := by kernel_rfl
  sizeByte := by kernel_rfl
  neB5 := by decide }

def lays156_ren : Go.Shelf.Ren := ⟨fun | 156 => 60 | 165 => 84 | 166 => 20 | 169 => 23 | 240 => 54 | 241 => 101 | 276 => 78 | 277 => 116 | 167 => 22 | n => n, fun | 31 => 41 | 9 => 9 | 3 => 3 | 4 => 4 | 0 => 0 | 20 => 20 | 72 => 58 | 76 => 61 | 70 => 55 | 37 => 56 | 75 => 60 | 127 => 93 | 164 => 109 | 5 => 5 | 80 => 65 | n => n, fun | n => n⟩
theorem lays156 : Go.Proofs.Lays.n156 Tryz.prog lays156_ren := {
  mixed := by kernel_rfl
  f156 := Tryz.func60.trans (congrArg some (by kernel_rfl))
  f165 := Tryz.func84.trans (congrArg some (by kernel_rfl))
  f166 := Tryz.func20.trans (congrArg some (by kernel_rfl))
  f169 := Tryz.func23.trans (congrArg some (by kernel_rfl))
  f240 := Tryz.func54.trans (congrArg some (by kernel_rfl))
  f241 := Tryz.func101.trans (congrArg some (by kernel_rfl))
  f276 := Tryz.func78.trans (congrArg some (by kernel_rfl))
  f277 := Tryz.func116.trans (congrArg some (by kernel_rfl))
  t0 := Tryz.underlying0
  a0 := Tryz.isAgg0
  z0 := Tryz.sizeOf0
  v0 := Tryz.zeroValue0
  t3 := Tryz.underlying3
  a3 := Tryz.isAgg3
  z3 := Tryz.sizeOf3
  v3 := Tryz.zeroValue3
  t4 := Tryz.underlying4
  a4 := Tryz.isAgg4
  z4 := Tryz.sizeOf4
  v4 := Tryz.zeroValue4
  t9 := Tryz.underlying9
  a9 := Tryz.isAgg9
  z9 := Tryz.sizeOf9
  v9 := Tryz.zeroValue9
  t20 := Tryz.underlying20
  a20 := Tryz.isAgg20
  z20 := Tryz.sizeOf20
  v20 := Tryz.zeroValue20
  t31 := Tryz.underlying41
  a31 := Tryz.isAgg41
  z31 := Tryz.sizeOf41
  v31 := Tryz.zeroValue41
  t37 := Tryz.underlying56
  a37 := Tryz.isAgg56
  z37 := Tryz.sizeOf56
  v37 := Tryz.zeroValue56
  t70 := Tryz.underlying55
  a70 := Tryz.isAgg55
  z70 := Tryz.sizeOf55
  v70 := Tryz.zeroValue55
  t72 := Tryz.underlying58
  a72 := Tryz.isAgg58
  z72 := Tryz.sizeOf58
  v72 := Tryz.zeroValue58
  t75 := Tryz.underlying60
  a75 := Tryz.isAgg60
  z75 := Tryz.sizeOf60
  v75 := Tryz.zeroValue60
  t76 := Tryz.underlying61
  a76 := Tryz.isAgg61
  z76 := Tryz.sizeOf61
  v76 := Tryz.zeroValue61
  t127 := Tryz.underlying93
  a127 := Tryz.isAgg93
  z127 := Tryz.sizeOf93
  v127 := Tryz.zeroValue93
  t164 := Tryz.underlying109
  a164 := Tryz.isAgg109
  z164 := Tryz.sizeOf109
  v164 := Tryz.zeroValue109 }

theorem Builder_Extra_156 : Builder.Extra Tryz.prog lays156_ren := {
  sizeBuilder := by kernel_rfl
  liesBuilder := by kernel_rfl
  t5 := Tryz.underlying5
  a5 := Tryz.isAgg5
  z5 := Tryz.sizeOf5
  v5 := Tryz.zeroValue5
  infoByte := by kernel_rfl
  cellsByte := by kernel_rfl
  sizeByte := by kernel_rfl
  neB5 := by decide }

def lays283_ren : Go.Shelf.Ren := ⟨fun | 283 => 102 | n => n, fun | 3 => 3 | 9 => 9 | 4 => 4 | n => n, fun | n => n⟩
theorem lays283 : Go.Proofs.Lays.n283 Tryz.prog lays283_ren := {
  mixed := by kernel_rfl
  f283 := Tryz.func102.trans (congrArg some (by kernel_rfl))
  t3 := Tryz.underlying3
  a3 := Tryz.isAgg3
  z3 := Tryz.sizeOf3
  v3 := Tryz.zeroValue3
  t4 := Tryz.underlying4
  a4 := Tryz.isAgg4
  z4 := Tryz.sizeOf4
  v4 := Tryz.zeroValue4
  t9 := Tryz.underlying9
  a9 := Tryz.isAgg9
  z9 := Tryz.sizeOf9
  v9 := Tryz.zeroValue9 }

def laysM284_ren : Go.Shelf.Ren := ⟨fun | 284 => 103 | 129 => 118 | 317 => 117 | 318 => 119 | n => n, fun | 53 => 67 | 3 => 3 | 212 => 154 | 0 => 0 | 4 => 4 | 46 => 124 | 5 => 5 | 9 => 9 | n => n, fun | 17 => 7 | n => n⟩
theorem laysM284 : Go.Proofs.LaysM.n284 Tryz.prog laysM284_ren := {
  mixed := by kernel_rfl
  f129 := Tryz.func118.trans (congrArg some (by kernel_rfl))
  f284 := Tryz.func103.trans (congrArg some (by kernel_rfl))
  f317 := Tryz.func117.trans (congrArg some (by kernel_rfl))
  f318 := Tryz.func119.trans (congrArg some (by kernel_rfl))
  t0 := Tryz.underlying0
  a0 := Tryz.isAgg0
  z0 := Tryz.sizeOf0
  v0 := Tryz.zeroValue0
  t3 := Tryz.underlying3
  a3 := Tryz.isAgg3
  z3 := Tryz.sizeOf3
  v3 := Tryz.zeroValue3
  t4 := Tryz.underlying4
  a4 := Tryz.isAgg4
  z4 := Tryz.sizeOf4
  v4 := Tryz.zeroValue4
  t5 := Tryz.underlying5
  a5 := Tryz.isAgg5
  z5 := Tryz.sizeOf5
  v5 := Tryz.zeroValue5
  t9 := Tryz.underlying9
  a9 := Tryz.isAgg9
  z9 := Tryz.sizeOf9
  v9 := Tryz.zeroValue9
  t46 := Tryz.underlying124
  a46 := Tryz.isAgg124
  z46 := Tryz.sizeOf124
  v46 := Tryz.zeroValue124
  t53 := Tryz.underlying67
  a53 := Tryz.isAgg67
  z53 := Tryz.sizeOf67
  v53 := Tryz.zeroValue67
  t212 := Tryz.underlying154
  a212 := Tryz.isAgg154
  z212 := Tryz.sizeOf154
  v212 := Tryz.zeroValue154
  g17 := by kernel_rfl
  i0 := by kernel_rfl
  i3 := by kernel_rfl
  i4 := by kernel_rfl
  i5 := by kernel_rfl
  i9 := by kernel_rfl
  i46 := by kernel_rfl
  i53 := by kernel_rfl
  i212 := by kernel_rfl
  m17 := by kernel_rfl }

def lays285_ren : Go.Shelf.Ren := ⟨fun | 285 => 104 | n => n, fun | 37 => 56 | 53 => 67 | 3 => 3 | 4 => 4 | 51 => 22 | 9 => 9 | 5 => 5 | 0 => 0 | n => n, fun | n => n⟩
theorem lays285 : Go.Proofs.Lays.n285 Tryz.prog lays285_ren := {
  mixed := by kernel_rfl
  f285 := Tryz.func104.trans (congrArg some (by kernel_rfl))
  t0 := Tryz.underlying0
  a0 := Tryz.isAgg0
  z0 := Tryz.sizeOf0
  v0 := Tryz.zeroValue0
  t3 := Tryz.underlying3
  a3 := Tryz.isAgg3
  z3 := Tryz.sizeOf3
  v3 := Tryz.zeroValue3
  t4 := Tryz.underlying4
  a4 := Tryz.isAgg4
  z4 := Tryz.sizeOf4
  v4 := Tryz.zeroValue4
  t5 := Tryz.underlying5
  a5 := Tryz.isAgg5
  z5 := Tryz.sizeOf5
  v5 := Tryz.zeroValue5
  t9 := Tryz.underlying9
  a9 := Tryz.isAgg9
  z9 := Tryz.sizeOf9
  v9 := Tryz.zeroValue9
  t37 := Tryz.underlying56
  a37 := Tryz.isAgg56
  z37 := Tryz.sizeOf56
  v37 := Tryz.zeroValue56
  t51 := Tryz.underlying22
  a51 := Tryz.isAgg22
  z51 := Tryz.sizeOf22
  v51 := Tryz.zeroValue22
  t53 := Tryz.underlying67
  a53 := Tryz.isAgg67
  z53 := Tryz.sizeOf67
  v53 := Tryz.zeroValue67 }

def laysM171_ren : Go.Shelf.Ren := ⟨fun | 171 => 59 | 243 => 83 | 246 => 100 | 283 => 102 | 284 => 103 | 285 => 104 | 286 => 105 | 129 => 118 | 317 => 117 | 318 => 119 | 319 => 120 | 320 => 121 | 337 => 126 | 338 => 127 | n => n, fun | 3 => 3 | 9 => 9 | 2 => 2 | 4 => 4 | 171 => 136 | 0 => 0 | 53 => 67 | 37 => 56 | 5 => 5 | 173 => 139 | 212 => 154 | 51 => 22 | 20 => 20 | 213 => 155 | 46 => 124 | 232 => 165 | 233 => 166 | n => n, fun | 17 => 7 | 18 => 10 | 19 => 11 | n => n⟩
theorem laysM171 : Go.Proofs.LaysM.n171 Tryz.prog laysM171_ren := {
  mixed := by kernel_rfl
  f129 := Tryz.func118.trans (congrArg some (by kernel_rfl))
  f171 := Tryz.func59.trans (congrArg some (by kernel_rfl))
  f243 := Tryz.func83.trans (congrArg some (by kernel_rfl))
  f246 := Tryz.func100.trans (congrArg some (by kernel_rfl))
  f283 := Tryz.func102.trans (congrArg some (by kernel_rfl))
  f284 := Tryz.func103.trans (congrArg some (by kernel_rfl))
  f285 := Tryz.func104.trans (congrArg some (by kernel_rfl))
  f286 := Tryz.func105.trans (congrArg some (by kernel_rfl))
  f317 := Tryz.func117.trans (congrArg some (by kernel_rfl))
  f318 := Tryz.func119.trans (congrArg some (by kernel_rfl))
  f319 := Tryz.func120.trans (congrArg some (by kernel_rfl))
  f320 := Tryz.func121.trans (congrArg some (by kernel_rfl))
  f337 := Tryz.func126.trans (congrArg some (by kernel_rfl))
  f338 := Tryz.func127.trans (congrArg some (by kernel_rfl))
  t0 := Tryz.underlying0
  a0 := Tryz.isAgg0
  z0 := Tryz.sizeOf0
  v0 := Tryz.zeroValue0
  t2 := Tryz.underlying2
  a2 := Tryz.isAgg2
  z2 := Tryz.sizeOf2
  v2 := Tryz.zeroValue2
  t3 := Tryz.underlying3
  a3 := Tryz.isAgg3
  z3 := Tryz.sizeOf3
  v3 := Tryz.zeroValue3
  t4 := Tryz.underlying4
  a4 := Tryz.isAgg4
  z4 := Tryz.sizeOf4
  v4 := Tryz.zeroValue4
  t5 := Tryz.underlying5
  a5 := Tryz.isAgg5
  z5 := Tryz.sizeOf5
  v5 := Tryz.zeroValue5
  t9 := Tryz.underlying9
  a9 := Tryz.isAgg9
  z9 := Tryz.sizeOf9
  v9 := Tryz.zeroValue9
  t20 := Tryz.underlying20
  a20 := Tryz.isAgg20
  z20 := Tryz.sizeOf20
  v20 := Tryz.zeroValue20
  t37 := Tryz.underlying56
  a37 := Tryz.isAgg56
  z37 := Tryz.sizeOf56
  v37 := Tryz.zeroValue56
  t46 := Tryz.underlying124
  a46 := Tryz.isAgg124
  z46 := Tryz.sizeOf124
  v46 := Tryz.zeroValue124
  t51 := Tryz.underlying22
  a51 := Tryz.isAgg22
  z51 := Tryz.sizeOf22
  v51 := Tryz.zeroValue22
  t53 := Tryz.underlying67
  a53 := Tryz.isAgg67
  z53 := Tryz.sizeOf67
  v53 := Tryz.zeroValue67
  t171 := Tryz.underlying136
  a171 := Tryz.isAgg136
  z171 := Tryz.sizeOf136
  v171 := Tryz.zeroValue136
  t173 := Tryz.underlying139
  a173 := Tryz.isAgg139
  z173 := Tryz.sizeOf139
  v173 := Tryz.zeroValue139
  t212 := Tryz.underlying154
  a212 := Tryz.isAgg154
  z212 := Tryz.sizeOf154
  v212 := Tryz.zeroValue154
  t213 := Tryz.underlying155
  a213 := Tryz.isAgg155
  z213 := Tryz.sizeOf155
  t232 := Tryz.underlying165
  a232 := Tryz.isAgg165
  z232 := Tryz.sizeOf165
  v232 := Tryz.zeroValue165
  t233 := Tryz.underlying166
  a233 := Tryz.isAgg166
  z233 := Tryz.sizeOf166
  v233 := Tryz.zeroValue166
  g17 := by kernel_rfl
  g18 := by kernel_rfl
  g19 := by kernel_rfl
  i0 := by kernel_rfl
  i2 := by kernel_rfl
  i3 := by kernel_rfl
  i4 := by kernel_rfl
  i5 := by kernel_rfl
  i9 := by kernel_rfl
  i20 := by kernel_rfl
  i37 := by kernel_rfl
  i46 := by kernel_rfl
  i51 := by kernel_rfl
  i53 := by kernel_rfl
  i171 := by kernel_rfl
  i173 := by kernel_rfl
  i212 := by kernel_rfl
  i232 := by kernel_rfl
  i233 := by kernel_rfl
  m17 := by kernel_rfl
  m18 := by kernel_rfl
  m19 := by kernel_rfl }

theorem lays166 : Go.Proofs.Lays.n166 Tryz.prog lays156_ren := {
  mixed := lays156.mixed
  f166 := lays156.f166
  f240 := lays156.f240
  f276 := lays156.f276
  t0 := lays156.t0
  a0 := lays156.a0
  z0 := lays156.z0
  v0 := lays156.v0
  t3 := lays156.t3
  a3 := lays156.a3
  z3 := lays156.z3
  v3 := lays156.v3
  t4 := lays156.t4
  a4 := lays156.a4
  z4 := lays156.z4
  v4 := lays156.v4
  t9 := lays156.t9
  a9 := lays156.a9
  z9 := lays156.z9
  v9 := lays156.v9
  t20 := lays156.t20
  a20 := lays156.a20
  z20 := lays156.z20
  v20 := lays156.v20
  t37 := lays156.t37
  a37 := lays156.a37
  z37 := lays156.z37
  v37 := lays156.v37
  t70 := lays156.t70
  a70 := lays156.a70
  z70 := lays156.z70
  v70 := lays156.v70
  t72 := lays156.t72
  a72 := lays156.a72
  z72 := lays156.z72
  v72 := lays156.v72
  t75 := lays156.t75
  a75 := lays156.a75
  z75 := lays156.z75
  v75 := lays156.v75
  t164 := lays156.t164
  a164 := lays156.a164
  z164 := lays156.z164
  v164 := lays156.v164 }

theorem lays167 : Go.Proofs.Lays.n167 Tryz.prog lays156_ren := {
  mixed := lays156.mixed
  f167 := Tryz.func22.trans (congrArg some (by kernel_rfl))
  f240 := lays156.f240
  f276 := lays156.f276
  t0 := lays156.t0
  a0 := lays156.a0
  z0 := lays156.z0
  v0 := lays156.v0
  t4 := lays156.t4
  a4 := lays156.a4
  z4 := lays156.z4
  v4 := lays156.v4
  t5 := Builder_Extra_156.t5
  a5 := Builder_Extra_156.a5
  z5 := Builder_Extra_156.z5
  v5 := Builder_Extra_156.v5
  t9 := lays156.t9
  a9 := lays156.a9
  z9 := lays156.z9
  v9 := lays156.v9
  t20 := lays156.t20
  a20 := lays156.a20
  z20 := lays156.z20
  v20 := lays156.v20
  t37 := lays156.t37
  a37 := lays156.a37
  z37 := lays156.z37
  v37 := lays156.v37
  t70 := lays156.t70
  a70 := lays156.a70
  z70 := lays156.z70
  v70 := lays156.v70
  t72 := lays156.t72
  a72 := lays156.a72
  z72 := lays156.z72
  v72 := lays156.v72
  t75 := lays156.t75
  a75 := lays156.a75
  z75 := lays156.z75
  v75 := lays156.v75
  t164 := lays156.t164
  a164 := lays156.a164
  z164 := lays156.z164
  v164 := lays156.v164 }

end Go.Proofs.YtmkmbocnipmngaaGreatDoor

/- The numerals that the language's own library writes: strconv.Itoa and strconv.FormatUint at base 10; its table of powers. -/
namespace Go.Proofs.YtmkmbocnipmngaaGreatDoor
open Go.RowKit Go.Sort
set_option linter.unusedVariables false

/-- The library's table of powers of ten lies as it was laid. -/
def PowTab (w : World) : Prop := Lib.TabIs Tryz.prog w "internal/strconv.uint64pow10" .u64 Lib.pow10Tab
theorem powTab_below {w w' : World} (h : PowTab w) (hb : Below w.heap.size w w') : PowTab w' := Lib.tabBelow_of_tabIs h w' hb
def pow10L : List Int := [1, 10, 100, 1000, 10000, 100000, 1000000, 10000000, 100000000, 1000000000, 10000000000, 100000000000, 1000000000000, 10000000000000, 100000000000000, 1000000000000000, 10000000000000000, 100000000000000000, 1000000000000000000, 10000000000000000000]
theorem pow10L_eq : pow10L = Lib.pow10Tab := by decide +kernel
theorem powTab_of_laid {l : List (String × DataW Unit)} {W : World} (h : laidMetH Tryz.prog l W) (hp : (l.all fun x => x.2.handleName?.isNone) = true) (hm : ("internal/strconv.uint64pow10", Lib.tabData .u64 pow10L) ∈ l) : PowTab W := by
  rw [MakeChecks.laidMetH_plain _ _ _ hp] at h
  obtain ⟨ps, hv, _⟩ := h
  obtain ⟨g, t, cs, fuel, p, h1, h2, h3, h4⟩ := laid_mem hv hm
  obtain rfl : t = 154 := by
    obtain rfl := Option.some.inj ((show Tryz.prog.globalNamed "internal/strconv.uint64pow10" = some 7 by kernel_rfl).symm.trans h1)
    exact Option.some.inj (h2.symm.trans (show (Tryz.prog.globals[7]?).map (·.type) = some 154 by kernel_rfl))
  have hcs := Lib.cells_of_tab Tryz.underlying154 Tryz.underlying67 (by kernel_rfl) (by kernel_rfl) h4
  unfold PowTab Lib.TabIs
  rw [h3, ← pow10L_eq, ← hcs]

/-- The library's digits are the document's. -/
theorem decDigits_dig10 (n : Nat) (h : n < 10 ^ 20) : Lib.decDigits n = dig10 n := by
  induction n using Nat.strongRecOn with
  | _ n ih =>
    rw [Lib.decDigits]
    by_cases c : n < 10
    · rw [dif_pos c, dig10_small n c]; unfold dch; rfl
    · rw [dif_neg c, dig10_step n c h, ih (n / 10) (by omega) (by omega)]; unfold dch; rfl
theorem itoa_numL (n : Int) (h0 : -9223372036854775808 ≤ n) (h1 : n ≤ 9223372036854775807) : Lib.itoa n = numL n := by
  unfold Lib.itoa numL
  split
  · rw [decDigits_dig10 _ (by omega), show n.natAbs = (0 - n).toNat from by omega]
  · rw [decDigits_dig10 _ (by omega)]
theorem grow_below {w w' : World} (h : ∃ k os, w' = grow (w.drewN k) os) : Below w.heap.size w w' := by
  obtain ⟨k, os, rfl⟩ := h
  refine ⟨?_, ?_, ?_, ?_, ?_⟩
  · simp [grow, World.drewN]
  · simp [grow, World.drewN]
  · simp [grow, World.drewN]
  · simp [grow, World.drewN]
  · intro j hj
    rw [heap_grow_old]
    · simp [World.drewN]
    · simpa [World.drewN] using hj

theorem itoa_any (n : Int) (w : World) (h0 : -9223372036854775808 ≤ n) (h1 : n < 9223372036854775808) (ht : PowTab w) :
    Calls Tryz.prog 59 #[.int .i64 n] w fun e w' => e = .returned (.string (bs (numL n))) ∧ Below w.heap.size w w' := by
  refine (show Calls Tryz.prog 59 #[.int .i64 n] w _ from Any.strconv_Itoa laysM171 n h0 (by omega) w ht).mono ?_
  rintro e w' ⟨rfl, hg⟩
  refine ⟨?_, grow_below hg⟩
  rw [itoa_numL n h0 (by omega)]
  rfl

theorem small_any (i : Nat) (hi : i < 100) (w : World) : Calls Tryz.prog 102 #[.int .i64 i] w fun e w' => e = .returned (.string ⟨(Lib.decDigits i).toArray⟩) ∧ w' = w := Any.internal_strconv_small lays283 i hi w
theorem ndig_any (u : Nat) (h1 : 1 ≤ u) (h2 : u < 18446744073709551616) (w : World) (ht : PowTab w) : Calls Tryz.prog 103 #[.int .u64 u] w fun e w' => e = .returned (.int .i64 (Lib.nDigits u)) ∧ w' = w := Any.internal_strconv_numDigits laysM284 u h1 h2 w ht
end Go.Proofs.YtmkmbocnipmngaaGreatDoor

/- Layer 5: what the program is asked to answer, function by function (premises of the laws' walks); words and lines as lists of signs. -/
namespace Go.Proofs.YtmkmbocnipmngaaGreatDoor
open Go.RowKit
set_option linter.unusedVariables false

/-- Has it a text? -/
def txB (op rd rs1 rs2 imm csr : Int) : Bool := decide (1 ≤ op ∧ op < 58) && rightOf (formZ op.toNat) rd rs1 rs2 imm csr
theorem txB_t {op rd rs1 rs2 imm csr : Int} (h : txB op rd rs1 rs2 imm csr = true) : ∃ k : Nat, op = k ∧ op.toNat = k ∧ k < 58 ∧ k ≠ 0 ∧ rightOf (formZ k) rd rs1 rs2 imm csr = true := by
  unfold txB at h
  simp only [Bool.and_eq_true, decide_eq_true_eq] at h
  obtain ⟨⟨h1, h2⟩, h3⟩ := h
  exact ⟨op.toNat, by omega, rfl, by omega, by omega, h3⟩
theorem txB_f {op rd rs1 rs2 imm csr : Int} (h : txB op rd rs1 rs2 imm csr = false) : ¬ (1 ≤ op ∧ op < 58) ∨ ∃ k : Nat, op = k ∧ k < 58 ∧ k ≠ 0 ∧ rightOf (formZ k) rd rs1 rs2 imm csr = false := by
  by_cases c : 1 ≤ op ∧ op < 58
  · refine .inr ⟨op.toNat, by omega, by omega, by omega, ?_⟩
    unfold txB at h
    rw [decide_eq_true c, Bool.true_and] at h
    exact h
  · exact .inl c

/-- A word's text. -/
def wordL (x : Int) : List UInt8 := if kindOf x = 0 then [46, 119, 111, 114, 100, 32] ++ numL x else textL (kindOf x) (fldRd x (formZ (kindOf x))) (fldRs1 x (formZ (kindOf x))) (fldRs2 x (formZ (kindOf x))) (immOf x (formZ (kindOf x))) (fldCsr x (formZ (kindOf x)))
/-- The lines of the first k words. -/
def linesL (f : Nat → Int) : Nat → List UInt8
  | 0 => []
  | k + 1 => linesL f k ++ (wordL (f k) ++ [10])

theorem rest_len (k : Nat) (rd rs1 rs2 imm csr : Int) : (restL k rd rs1 rs2 imm csr).length ≤ 80 := by
  have a := numL_len rd
  have b := numL_len rs1
  have c := numL_len rs2
  have d := numL_len (signedOf imm)
  have e := numL_len csr
  have f := numL_len (imm / 4096)
  unfold restL
  repeat' split
  all_goals simp
  all_goals omega
theorem name_len : ∀ k, k < 58 → (nameL.getD k []).length ≤ 8 := by decide +kernel
theorem text_len (k : Nat) (hk : k < 58) (rd rs1 rs2 imm csr : Int) : (textL k rd rs1 rs2 imm csr).length ≤ 88 := by
  unfold textL
  have := rest_len k rd rs1 rs2 imm csr
  have := name_len k hk
  simp only [List.length_append]; omega
theorem word_len (x : Int) : (wordL x).length ≤ 88 := by
  unfold wordL
  split
  · have := numL_len x
    simp; omega
  · exact text_len _ (kind_lt x) _ _ _ _ _
theorem lines_len (f : Nat → Int) : ∀ k, (linesL f k).length ≤ 89 * k
  | 0 => Nat.le_refl _
  | k + 1 => by
    have := lines_len f k
    have := word_len (f k)
    simp only [linesL, List.length_append, List.length_cons, List.length_nil]; omega

/-- Number. -/
def NumP : Prop := ∀ (n : Int) (w : World), -9223372036854775808 ≤ n → n < 9223372036854775808 → PowTab w → Calls Tryz.prog 35 #[.int .i64 n] w fun e w' => e = .returned (.string (bs (numL n))) ∧ Below w.heap.size w w'
/-- Register. -/
def RegP : Prop := ∀ (n : Int) (w : World), -9223372036854775808 ≤ n → n < 9223372036854775808 → PowTab w → Calls Tryz.prog 34 #[.int .i64 n] w fun e w' => e = .returned (.string (bs (120 :: numL n))) ∧ Below w.heap.size w w'
/-- Text. -/
def TextP : Prop := ∀ (op rd rs1 rs2 imm csr : Int) (w : World), 0 ≤ imm → imm < 4294967296 → FormTab w → NameTab w → PowTab w → txB op rd rs1 rs2 imm csr = true → Calls Tryz.prog 6 #[.agg #[.int .i64 op, .int .i64 rd, .int .i64 rs1, .int .i64 rs2, .int .u32 imm, .int .i64 csr]] w fun e w' => e = .returned (.tuple #[.string (bs (textL op.toNat rd rs1 rs2 imm csr)), .int .i64 0]) ∧ Below w.heap.size w w'
def TextQ : Prop := ∀ (op rd rs1 rs2 imm csr : Int) (w : World), 0 ≤ imm → imm < 4294967296 → FormTab w → NameTab w → PowTab w → txB op rd rs1 rs2 imm csr = false → Calls Tryz.prog 6 #[.agg #[.int .i64 op, .int .i64 rd, .int .i64 rs1, .int .i64 rs2, .int .u32 imm, .int .i64 csr]] w fun e w' => e = .returned (.tuple #[.string ⟨#[]⟩, .int .i64 9]) ∧ Below w.heap.size w w'
/-- Word. -/
def WordP : Prop := ∀ (x : Int) (w : World), 0 ≤ x → x < 4294967296 → FormTab w → NameTab w → PowTab w → MatchTab w → Calls Tryz.prog 21 #[.int .u32 x] w fun e w' => e = .returned (.string (bs (wordL x))) ∧ Below w.heap.size w w'
/-- Words as an argument: none, or len of them, f the words. -/
def IsWords (w : World) (a : Option Addr) (len : Nat) (f : Nat → Int) : Prop :=
  len ≤ maxLen ∧ (len = 0 ∨ ∃ b off, a = some ⟨b, off, none⟩ ∧ ∀ i, i < len → w.cell? ⟨b, off + i, none⟩ = some (.int .u32 (f i)) ∧ 0 ≤ f i ∧ f i < 4294967296)
/-- Lines. -/
def LinesP : Prop := ∀ (f : Nat → Int) (a : Option Addr) (len cap : Nat) (w : World), len ≤ 500 → IsWords w a len f → FormTab w → NameTab w → PowTab w → MatchTab w → Calls Tryz.prog 9 #[.slice a len cap] w fun e w' => e = .returned (.string (bs (linesL f len))) ∧ Below w.heap.size w w'

theorem isWords_of {w : World} {a : Option Addr} {len cap : Nat} {z : List Int} (h : IsRow .u32 w a len cap z) : IsWords w a len (fun i => z.getD i 0) := by
  rcases h with ⟨rfl, rfl, rfl, rfl⟩ | ⟨x, rfl, hl, hm, hz, hcell, hwz⟩
  · exact ⟨Nat.zero_le _, .inl rfl⟩
  · refine ⟨by omega, ?_⟩
    by_cases h0 : len = 0
    · exact .inl h0
    · obtain ⟨b, off, spot⟩ := x
      have hspot : spot = none := by simpa [Addr.add] using World.cell?_spot (hcell 0 (by omega))
      subst hspot
      refine .inr ⟨b, off, rfl, fun i hi => ⟨?_, ?_⟩⟩
      · rw [← add_plain]; exact hcell i (by omega)
      · have hi' : i < z.length := by omega
        have := bounds_u32 (hwz (z.getD i 0) (by rw [List.getD_eq_getElem?_getD, List.getElem?_eq_getElem hi']; exact List.getElem_mem hi'))
        show 0 ≤ z.getD i 0 ∧ z.getD i 0 < 4294967296
        omega
theorem IsWords.on {W w1 : World} {a : Option Addr} {len : Nat} {f : Nat → Int} (h : IsWords W a len f) (hb : Below W.heap.size W w1) : IsWords w1 a len f := by
  obtain ⟨hl, h⟩ := h
  refine ⟨hl, ?_⟩
  rcases h with h | ⟨b, off, ha, hc⟩
  · exact .inl h
  · refine .inr ⟨b, off, ha, fun i hi => ⟨?_, (hc i hi).2⟩⟩
    rw [hb.cell (p := ⟨b, off + i, none⟩) (lt_of_cell (hc i hi).1)]; exact (hc i hi).1
theorem IsWords.at {W : World} {a : Option Addr} {len : Nat} {f : Nat → Int} (h : IsWords W a len f) {k : Nat} (hk : k < len) : ∃ b off, a = some ⟨b, off, none⟩ ∧ W.cell? ⟨b, off + k, none⟩ = some (.int .u32 (f k)) ∧ 0 ≤ f k ∧ f k < 4294967296 := by
  rcases h.2 with h | ⟨b, off, ha, hc⟩
  · omega
  · exact ⟨b, off, ha, hc k hk⟩
end Go.Proofs.YtmkmbocnipmngaaGreatDoor

/- Layer 6, P6.3 as mathematics: the lines of words are read as the words. -/
namespace Go.Proofs.YtmkmbocnipmngaaGreatDoor
open Go.RowKit
set_option linter.unusedVariables false
set_option linter.unusedSimpArgs false

def noNl (l : List UInt8) : Prop := ∀ c ∈ l, c ≠ 10
theorem lns_run : ∀ (p r cur : List UInt8), noNl p → lns (p ++ 10 :: r) cur = (cur ++ p) :: lns r []
  | [], r, cur, _ => by simp [lns]
  | c :: p, r, cur, h => by
    rw [List.cons_append, lns, if_neg (h c (by simp)), lns_run p r (cur ++ [c]) (fun d hd => h d (by simp [hd]))]
    simp
theorem ck_nl {c : UInt8} (h : ck c = 3) : c ≠ 10 := by
  rintro rfl; exact absurd h (by decide)
theorem noNl_app {a b : List UInt8} (ha : noNl a) (hb : noNl b) : noNl (a ++ b) := fun c hc => (List.mem_append.1 hc).elim (ha c) (hb c)
theorem noNl_cons {x : UInt8} {b : List UInt8} (hx : x ≠ 10) (hb : noNl b) : noNl (x :: b) := fun c hc => by
  rcases List.mem_cons.1 hc with rfl | h
  · exact hx
  · exact hb c h
theorem noNl_nil : noNl [] := fun _ h => by cases h
theorem noNl_num (n : Int) : noNl (numL n) := fun c hc => ck_nl (isP_num n c hc)
theorem noNl_text (k : Nat) (hk : k < 58) (rd rs1 rs2 imm csr : Int) : noNl (textL k rd rs1 rs2 imm csr) := by
  unfold textL
  refine noNl_app (fun c hc => ck_nl (isP_name k hk c hc)) ?_
  unfold restL
  repeat' split
  all_goals repeat' (first | exact noNl_num _ | exact noNl_nil | refine noNl_app ?_ ?_ | refine noNl_cons (by decide) ?_)
theorem noNl_word (x : Int) : noNl (wordL x) := by
  unfold wordL
  split
  · exact noNl_app (by unfold noNl; decide) (noNl_num x)
  · exact noNl_text _ (kind_lt x) _ _ _ _ _

/-- Lines put the other way round. -/
theorem lines_shift (f : Nat → Int) : ∀ k, linesL f (k + 1) = wordL (f 0) ++ 10 :: linesL (fun i => f (i + 1)) k
  | 0 => by simp [linesL]
  | k + 1 => by
    rw [linesL, lines_shift f k, linesL]
    simp
theorem linesOf_lines : ∀ (k : Nat) (f : Nat → Int), linesOf (linesL f k) = (List.range k).map fun i => wordL (f i)
  | 0, f => rfl
  | k + 1, f => by
    unfold linesOf
    rw [lines_shift, lns_run _ _ _ (noNl_word _), List.range_succ_eq_map, List.map_cons, List.map_map]
    have := linesOf_lines k (fun i => f (i + 1))
    unfold linesOf at this
    rw [this]
    rfl

/-- What a word's line is. -/
def itW (x : Int) : It := if kindOf x = 0 then (0, 0, 0, 0, 0, 0, [], x, true) else ((kindOf x : Int), fldRd x (formZ (kindOf x)), fldRs1 x (formZ (kindOf x)), fldRs2 x (formZ (kindOf x)), immOf x (formZ (kindOf x)), fldCsr x (formZ (kindOf x)), [], 0, false)
theorem restP_lab (k : Nat) (rd rs1 rs2 imm csr : Int) : labB (nameL.getD k [] :: restP k rd rs1 rs2 imm csr) = false := by
  unfold labB
  rw [decide_eq_false_iff_not]
  rintro ⟨h1, h2⟩
  revert h1 h2
  rw [show (nameL.getD k [] :: restP k rd rs1 rs2 imm csr).getD 1 [] = (restP k rd rs1 rs2 imm csr).getD 0 [] from rfl]
  unfold restP
  repeat' split
  all_goals simp
theorem step_word (n : Int) (x : Int) (x0 : 0 ≤ x) (x1 : x < 4294967296) (st : St) (h : st.1.length ≠ 4096) : stepL n (wordL x) st = .inl (st.1 ++ [(itW x, n + 1)], st.2) := by
  unfold stepL wordL itW
  by_cases c : kindOf x = 0
  · rw [if_pos c, if_pos c, show ([46, 119, 111, 114, 100, 32] ++ numL x : List UInt8) = kWord ++ 32 :: numL x from rfl, pieces_word]
    show (if labB _ = true then _ else _) = _
    have hl : labB [kWord, numL x] = false := by
      unfold labB
      rw [decide_eq_false_iff_not]
      rintro ⟨_, h2⟩
      have h2 : numL x = [58] := h2
      have := numL_num x 58 (by rw [h2]; simp)
      rcases this with h | h
      · exact absurd h (by decide)
      · exact absurd h.2 (by decide)
    rw [hl, if_neg (by decide)]
    unfold bodyL
    rw [if_neg (by simp)]
    have hr : readL [kWord, numL x] = some (0, 0, 0, 0, 0, 0, [], x, true) := by
      unfold readL
      rw [if_pos ⟨rfl, rfl⟩]
      show (numW (numL x)).map _ = _
      rw [numW_nat x x0 x1]; rfl
    rw [hr]
    show (if _ then _ else _) = _
    rw [if_neg h]
  · have hl := kind_lt x
    have hi := immOf_bd x (formZ (kindOf x))
    rw [if_neg c, if_neg c, pieces_text _ hl]
    show (if labB _ = true then _ else _) = _
    rw [restP_lab, if_neg (by decide)]
    unfold bodyL
    rw [if_neg (by simp), read_text _ hl c _ _ _ _ _ hi.1 hi.2 (fields_right x (formZ (kindOf x)) (formZ_lt _ hl))]
    show (if _ then _ else _) = _
    rw [if_neg h]
theorem go_words : ∀ (k : Nat) (f : Nat → Int) (n : Nat) (st : St), (∀ i, i < k → 0 ≤ f i ∧ f i < 4294967296) → st.1.length + k ≤ 4096 →
    goL ((List.range k).map fun i => wordL (f i)) n st = .inl (st.1 ++ (List.range k).map (fun i => (itW (f i), (n : Int) + (i : Int) + 1)), st.2)
  | 0, f, n, st, _, _ => by simp [goL]
  | k + 1, f, n, st, hf, hl => by
    rw [List.range_succ_eq_map, List.map_cons, goL, step_word n (f 0) (hf 0 (by omega)).1 (hf 0 (by omega)).2 st (by omega)]
    show goL _ (n + 1) _ = _
    rw [List.map_map]
    have := go_words k (fun i => f (i + 1)) (n + 1) (st.1 ++ [(itW (f 0), (n : Int) + 1)], st.2) (fun i hi => hf (i + 1) (by omega)) (by simp; omega)
    have e : ((fun i => wordL (f i)) ∘ Nat.succ) = fun i => wordL (f (i + 1)) := rfl
    rw [e, this]
    simp only [List.append_assoc, List.map_cons, List.map_map, List.cons_append, List.nil_append]
    congr 4
    simp
    intro i _
    omega
theorem laid_words : ∀ (k : Nat) (f : Nat → Int) (g : Nat → Int) (j : Nat) (out : List Int), (∀ i, i < k → 0 ≤ f i ∧ f i < 4294967296) →
    laidL [] [] ((List.range k).map (fun i => (itW (f i), g i))) j out = (out ++ (List.range k).map f, 0, 0)
  | 0, f, g, j, out, _ => by simp [laidL]
  | k + 1, f, g, j, out, hf => by
    rw [List.range_succ_eq_map, List.map_cons, List.map_map, List.map_cons, List.map_map]
    have ih : ∀ j out, laidL [] [] ((List.range k).map ((fun i => (itW (f i), g i)) ∘ Nat.succ)) j out = (out ++ (List.range k).map (f ∘ Nat.succ), 0, 0) :=
      fun j out => laid_words k (fun i => f (i + 1)) (fun i => g (i + 1)) j out (fun i hi => hf (i + 1) (by omega))
    have h0 := hf 0 (by omega)
    generalize (List.range k).map ((fun i => (itW (f i), g i)) ∘ Nat.succ) = T at *
    rw [laidL]
    unfold itW
    by_cases c : kindOf (f 0) = 0
    · rw [if_pos c]
      show (if true = true then _ else _) = _
      rw [if_pos rfl, ih]
      simp
    · rw [if_neg c]
      have hl := kind_lt (f 0)
      show (if false = true then _ else _) = _
      rw [if_neg (by decide), if_neg (fun h => h.1 rfl)]
      have hi : immI ((kindOf (f 0) : Int), fldRd (f 0) (formZ (kindOf (f 0))), fldRs1 (f 0) (formZ (kindOf (f 0))), fldRs2 (f 0) (formZ (kindOf (f 0))), immOf (f 0) (formZ (kindOf (f 0))), fldCsr (f 0) (formZ (kindOf (f 0))), [], 0, false) [] [] j = immOf (f 0) (formZ (kindOf (f 0))) := by
        unfold immI; rw [if_pos rfl]
      rw [hi]
      show (if okI (kindOf (f 0) : Int) _ _ _ _ _ = true then _ else _) = _
      have ho : okI (kindOf (f 0) : Int) (fldRd (f 0) (formZ (kindOf (f 0)))) (fldRs1 (f 0) (formZ (kindOf (f 0)))) (fldRs2 (f 0) (formZ (kindOf (f 0)))) (immOf (f 0) (formZ (kindOf (f 0)))) (fldCsr (f 0) (formZ (kindOf (f 0)))) = true := by
        unfold okI
        rw [decide_eq_true (by omega), Bool.true_and, Int.toNat_natCast]
        exact fields_right _ _ (formZ_lt _ hl)
      rw [if_pos ho, Int.toNat_natCast]
      show laidL [] [] _ (j + 1) (out ++ [encOf (kindOf (f 0)) (fldRd (f 0) (formZ (kindOf (f 0)))) (fldRs1 (f 0) (formZ (kindOf (f 0)))) (fldRs2 (f 0) (formZ (kindOf (f 0)))) (immOf (f 0) (formZ (kindOf (f 0)))) (fldCsr (f 0) (formZ (kindOf (f 0))))]) = _
      rw [enc_of_read _ h0.1 h0.2 c, ih]
      simp
/-- The lines of words are read as the words. -/
theorem prog_lines (k : Nat) (f : Nat → Int) (hk : k ≤ 4096) (hf : ∀ i, i < k → 0 ≤ f i ∧ f i < 4294967296) : progL (linesL f k) = ((List.range k).map f, 0, 0) := by
  unfold progL
  rw [linesOf_lines, go_words k f 0 ([], [], []) hf (by simpa using hk)]
  show laidL [] [] _ 0 [] = _
  rw [List.nil_append]
  exact laid_words k f (fun i => ((0 : Nat) : Int) + (i : Int) + 1) 0 [] hf
end Go.Proofs.YtmkmbocnipmngaaGreatDoor

/- Layer 6: what the program reads is what the document reads: mathematics. -/
namespace Go.Proofs.YtmkmbocnipmngaaGreatDoor
open Go.RowKit
set_option linter.unusedVariables false
set_option linter.unusedSimpArgs false

theorem opTo_name (p : List UInt8) : ∀ k, opTo p k ≠ 0 → nameL.getD (opTo p k) [] = p
  | 0, h => absurd rfl h
  | k + 1, h => by
    rw [opTo] at h ⊢
    by_cases c : nameL.getD k [] = p
    · rw [if_pos c]; exact c
    · rw [if_neg c] at h ⊢
      exact opTo_name p k h
theorem opN_found {p : List UInt8} (h : opN p ≠ 0) : nameL.getD (opN p) [] = p := opTo_name p 58 h
/-- The document's word for what is asked. -/
def trA (a : List UInt8) : List UInt8 := if a = kIm then kNum else if a = kPl then kTgt else a
theorem take_tr (x : It) (a s : List UInt8) (h : a ∈ askL) (hu : a ≠ kUp) : takeL x a s = fillL x (trA a) s := by
  simp only [askL, List.mem_cons, List.not_mem_nil, or_false] at h
  rcases h with rfl | rfl | rfl | rfl | rfl | rfl | rfl | rfl | rfl | rfl
  · rfl
  · rfl
  · rfl
  · rfl
  · exact absurd rfl hu
  · rfl
  · rfl
  · rfl
  · rfl
  · rfl
theorem takes_tr : ∀ (ws ps : List (List UInt8)) (x : It), (∀ a ∈ ws, a ∈ askL ∧ a ≠ kUp) → takesL x ws ps = fillsL x (ws.map trA) ps
  | [], ps, x, _ => by rw [takesL_nil, List.map_nil, fillsL_nil]
  | w :: ws, [], x, _ => rfl
  | w :: ws, p :: ps, x, h => by
    rw [takesL, List.map_cons, fillsL, take_tr x w p (h w (by simp)).1 (h w (by simp)).2]
    congr 1
    funext y
    exact takes_tr ws ps y fun a ha => h a (by simp [ha])
theorem shape_tr : ∀ k, k < 58 → formZ k ≠ 1 → (gshape k).map trA = shapeL k := by decide +kernel
theorem shape_noup : ∀ k, k < 58 → formZ k ≠ 1 → (gshape k).all (fun a => decide (a ≠ kUp)) = true := by decide +kernel
theorem shape_len2 : ∀ k, k < 58 → (gshape k).length = (shapeL k).length := by decide +kernel
theorem shape_u : ∀ k, k < 58 → formZ k = 1 → gshape k = [kRd, [44], kUp] ∧ shapeL k = [kRd, [44], kNum] := by decide +kernel
theorem take_up_fin (k : Nat) (hz : formZ k = 1) (x : It) (s : List UInt8) : takeL x kUp s = (fillL x kNum s).bind (finL k) := by
  have e1 : takeL x kUp s = (upW s).map fun n => (x.1, x.2.1, x.2.2.1, x.2.2.2.1, n, x.2.2.2.2.2) := rfl
  have e2 : fillL x kNum s = (numW s).map fun n => (x.1, x.2.1, x.2.2.1, x.2.2.2.1, n, x.2.2.2.2.2) := rfl
  rw [e1, e2]
  unfold upW
  cases numW s with
  | none => rfl
  | some n =>
    show Option.map _ (if 1048576 ≤ n then none else some (n * 4096)) = finL k _
    unfold finL
    rw [if_pos hz]
    show _ = if 1048576 ≤ n then none else _
    split <;> rfl
theorem takes_fills (k : Nat) (hk : k < 58) (ps : List (List UInt8)) (hl : ps.length = (gshape k).length) : takesL (itOp k) (gshape k) ps = (fillsL (itOp k) (shapeL k) ps).bind (finL k) := by
  by_cases hz : formZ k = 1
  · obtain ⟨e1, e2⟩ := shape_u k hk hz
    rw [e1] at hl
    rw [e1, e2]
    match ps, hl with
    | [a, b, c], _ =>
      simp only [takesL, fillsL]
      rw [take_tr _ kRd a (by decide) (by decide), show trA kRd = kRd from rfl]
      cases fillL (itOp k) kRd a with
      | none => rfl
      | some y =>
        simp only [Option.bind_some]
        rw [take_tr _ [44] b (by decide) (by decide), show trA [44] = [44] from rfl]
        cases fillL y [44] b with
        | none => rfl
        | some z =>
          simp only [Option.bind_some]
          rw [take_up_fin k hz]
          cases fillL z kNum c with
          | none => rfl
          | some u =>
            simp only [Option.bind_some]
            cases finL k u <;> rfl
  · have hall : ∀ a ∈ gshape k, a ∈ askL ∧ a ≠ kUp := fun a ha =>
      ⟨List.contains_iff_mem.1 (List.all_eq_true.1 (gshape_ask k hk) a ha), of_decide_eq_true (List.all_eq_true.1 (shape_noup k hk hz) a ha)⟩
    rw [takes_tr _ _ _ hall, shape_tr k hk hz]
    cases fillsL (itOp k) (shapeL k) ps with
    | none => rfl
    | some y =>
      simp only [Option.bind_some]
      unfold finL
      rw [if_neg hz]
theorem ins_read (ps : List (List UInt8)) (h0 : ps ≠ []) (hw : ¬ (ps.length = 2 ∧ ps.getD 0 [] = kWord)) : insG false ps = readL ps := by
  unfold insG readL
  rw [if_neg h0, if_neg hw]
  have hk := opN_lt (ps.getD 0 [])
  have hl := shape_len2 _ hk
  by_cases hz : opN (ps.getD 0 []) = 0
  · rw [if_pos (.inr ⟨rfl, hz⟩), if_pos (.inl hz)]
  · rw [if_neg (by rintro (g | ⟨_, g⟩); exact g (opN_found hz); exact hz g)]
    by_cases hn : ps.length = (gshape (opN (ps.getD 0 []))).length + 1
    · rw [if_neg (fun g => g hn), if_neg (by rintro (g | g); exact hz g; exact g (by rw [hn, hl]))]
      exact takes_fills _ hk _ (by rw [List.length_drop, hn]; omega)
    · rw [if_pos hn, if_pos (.inr (by rw [← hl]; exact hn))]
theorem read_eq (ps : List (List UInt8)) (h0 : ps ≠ []) : readG false ps = readL ps := by
  unfold readG
  by_cases hw : ps.length = 2 ∧ ps.getD 0 [] = kWord
  · rw [if_pos hw]; unfold readL; rw [if_pos hw]
  · rw [if_neg hw]; exact ins_read ps h0 hw
theorem line_eq (l : List UInt8) : lineG false l = lineL l := by
  unfold lineG lineL
  cases hp : piecesL l with
  | none => rfl
  | some ps =>
    show itG (insG false ps) = if ps = [] then (zero6, 1) else itL (readL ps)
    by_cases h0 : ps = []
    · rw [if_pos h0]
      have : insG false ps = none := if_pos h0
      rw [this]; rfl
    · rw [if_neg h0]
      by_cases hw : ps.length = 2 ∧ ps.getD 0 [] = kWord
      · have e1 : insG false ps = none := by
          unfold insG
          rw [if_neg h0, hw.2, if_pos (.inl (by decide +kernel))]
        have e2 : itL (readL ps) = (zero6, 1) := by
          unfold readL
          rw [if_pos hw]
          cases numW (ps.getD 1 []) <;> rfl
        rw [e1, e2]; rfl
      · rw [← ins_read ps h0 hw]
        cases hx : insG false ps with
        | none => rfl
        | some x =>
          have hr := insG_raw hx
          show (if x.2.2.2.2.2.2.1 ≠ [] then (zero6, 1) else if right6 x = true then (ins6 x, 0) else (zero6, 9)) = if x.2.2.2.2.2.2.2.2 = true ∨ x.2.2.2.2.2.2.1 ≠ [] then (zero6, 1) else if right6 x = true then (ins6 x, 0) else (zero6, 9)
          by_cases hb : x.2.2.2.2.2.2.1 ≠ []
          · rw [if_pos hb, if_pos (.inr hb)]
          · have hno : ¬ (x.2.2.2.2.2.2.2.2 = true ∨ x.2.2.2.2.2.2.1 ≠ []) := by
              rintro (g | g)
              · rw [hr] at g; cases g
              · exact hb g
            rw [if_neg hb, if_neg hno]
theorem body_eq (n : Int) (p : List (List UInt8)) (st : St) : bodyG false n p st = bodyL n p st := by
  unfold bodyG bodyL
  by_cases h : p = []
  · rw [if_pos h, if_pos h]
  · rw [if_neg h, if_neg h, read_eq p h]
    cases readL p <;> rfl
theorem body_bad {n : Int} {p : List (List UInt8)} {st : St} (h1 : p ≠ []) (h2 : readG false p = none) : bodyG false n p st = .inr (n + 1, 1) := by
  unfold bodyG
  rw [if_neg h1, h2]
theorem name_nameB : ∀ k, k < 58 → nameB (nameL.getD k []) = true := by decide +kernel
theorem step_eq (n : Int) (l : List UInt8) (st : St) : stepG false n l st = stepL n l st := by
  unfold stepG stepL
  cases hp : piecesL l with
  | none => rfl
  | some p =>
    show (if restG p ≠ [] ∧ readG false (restG p) = none then _ else if labG p ≠ [] then _ else _) = if labB p = true then _ else _
    by_cases hlb : labB p = true
    · rw [if_pos hlb]
      have hl := of_decide_eq_true hlb
      cases hn : nameB (p.getD 0 [])
      · have hno : ¬ isLab p := fun g => by have q := g.2.1; rw [hn] at q; cases q
        have hr : restG p = p := if_neg hno
        have hpne : p ≠ [] := fun e => by rw [e] at hl; simp at hl
        have hrd : readG false p = none := by
          rw [read_eq p hpne]
          unfold readL
          by_cases hw : p.length = 2 ∧ p.getD 0 [] = kWord
          · rw [if_pos hw, hl.2, show numW [58] = none from by decide +kernel]; rfl
          · rw [if_neg hw]
            have hz : opN (p.getD 0 []) = 0 := Classical.byContradiction fun g => by
              have := name_nameB _ (opN_lt (p.getD 0 []))
              rw [opN_found g, hn] at this
              cases this
            rw [if_pos (.inl hz)]
        rw [hr, if_pos ⟨hpne, hrd⟩, if_pos (.inl rfl)]
      · have hyes : isLab p := ⟨hl.1, hn, hl.2⟩
        have hr : restG p = p.drop 2 := if_pos hyes
        have hlg : labG p = p.getD 0 [] := if_pos hyes
        have hne : p.getD 0 [] ≠ [] := fun e => by rw [e] at hn; cases hn
        rw [hr, hlg]
        by_cases hbad : p.drop 2 ≠ [] ∧ readG false (p.drop 2) = none
        · rw [if_pos hbad]
          by_cases hf : 0 ≤ findN st.2.1 (p.getD 0 [])
          · rw [if_pos (.inr hf)]
          · rw [if_neg (by rintro (g | g); cases g; exact hf g), ← body_eq, body_bad hbad.1 hbad.2]
        · rw [if_neg hbad, if_pos hne]
          by_cases hf : 0 ≤ findN st.2.1 (p.getD 0 [])
          · rw [if_pos hf, if_pos (.inr hf)]
          · rw [if_neg hf, if_neg (by rintro (g | g); cases g; exact hf g), body_eq]
    · rw [if_neg hlb]
      have hno : ¬ isLab p := fun g => hlb (decide_eq_true ⟨g.1, g.2.2⟩)
      have hr : restG p = p := if_neg hno
      have hlg : labG p = [] := if_neg hno
      rw [hr, hlg]
      by_cases hbad : p ≠ [] ∧ readG false p = none
      · rw [if_pos hbad, ← body_eq, body_bad hbad.1 hbad.2]
      · rw [if_neg hbad, if_neg (fun g => g rfl), body_eq]
theorem go_eq : ∀ (ls : List (List UInt8)) (n : Nat) (st : St), goG false ls n st = goL ls n st
  | [], n, st => rfl
  | l :: r, n, st => by
    rw [goG, goL, step_eq]
    cases stepL (n : Int) l st with
    | inr e => rfl
    | inl st' => exact go_eq r (n + 1) st'
theorem stepL_nil (n : Int) (st : St) : stepL n [] st = .inl st := rfl
theorem goL_snoc : ∀ (ls : List (List UInt8)) (n : Nat) (st : St), goL (ls ++ [ [] ]) n st = goL ls n st
  | [], n, st => by simp [goL, stepL_nil]
  | l :: r, n, st => by
    rw [List.cons_append, goL, goL]
    cases stepL (n : Int) l st with
    | inr e => rfl
    | inl st' => exact goL_snoc r (n + 1) st'
theorem prog_eq (l : List UInt8) : progG false l = progL l := by
  unfold progG progL
  rw [go_eq]
  unfold splL linesOf
  rcases splA_lns l [] with e | e
  · rw [e]
  · rw [e, goL_snoc]
end Go.Proofs.YtmkmbocnipmngaaGreatDoor

/- Layer 6: what layer 5 tells is read as it was, as the program reads it: mathematics. -/
namespace Go.Proofs.YtmkmbocnipmngaaGreatDoor
open Go.RowKit
set_option linter.unusedVariables false
set_option linter.unusedSimpArgs false

theorem lineG_text (k : Nat) (hk : k < 58) (hk0 : k ≠ 0) (rd rs1 rs2 imm csr : Int) (i0 : 0 ≤ imm) (i1 : imm < 4294967296) (hr : rightOf (formZ k) rd rs1 rs2 imm csr = true) :
    lineG false (textL k rd rs1 rs2 imm csr) = (((k : Int), rd, rs1, rs2, imm, csr), 0) := by
  rw [line_eq, line_text k hk hk0 rd rs1 rs2 imm csr i0 i1 hr]
theorem progG_lines (k : Nat) (f : Nat → Int) (hk : k ≤ 4096) (hf : ∀ i, i < k → 0 ≤ f i ∧ f i < 4294967296) : progG false (linesL f k) = ((List.range k).map f, 0, 0) := by
  rw [prog_eq, prog_lines k f hk hf]
end Go.Proofs.YtmkmbocnipmngaaGreatDoor

/- strconv.FormatUint at base 10, and what disasm makes of numbers: Number, Register, unsigned, address. -/
namespace Go.Proofs.YtmkmbocnipmngaaGreatDoor
open Go.RowKit Go.Sort
set_option linter.unusedVariables false

theorem holds_zero0 (w : World) (T : TypeId) (nd : Nat) (hs : nd ≤ 24) : Holds (fun (b : UInt8) => Value.int .u8 (b.toNat : Int)) (w.alloc (.cells Lib.zeros24 T)) w.heap.size 0 (Array.replicate nd (0 : UInt8)) := fun j hj => by
  have hj' : j < nd := by simpa using hj
  refine ⟨?_, World.frozen?_alloc_new _ _ _ _⟩
  rw [World.cell?_alloc_new, Lib.zeros24_at _ (by omega), getElem!_pos _ j hj]
  simp
theorem fin_pos0 (w : World) (o : Obj) (dk : Array UInt8) (k : Nat) : ∃ os, (putRow (fun (b : UInt8) => Value.int .u8 (b.toNat : Int)) (w.alloc o) w.heap.size 0 dk).drewN k = grow (w.drewN k) os := by
  rw [alloc_eq_grow]
  obtain ⟨os', _, e⟩ := putRow_grow_new (fun (b : UInt8) => Value.int .u8 (b.toNat : Int)) w #[o] w.heap.size 0 dk (Nat.le_refl _)
  exact ⟨os', by rw [e]; rfl⟩

set_option maxHeartbeats 6400000 in
set_option maxRecDepth 100000 in
theorem ifmtu_any (u : Nat) (w : World) (hu64 : u < 18446744073709551616) (ht : PowTab w) :
    Calls Tryz.prog 85 #[.int .u64 u, .int .i64 10] w fun e w' => e = .returned (.string ⟨(Lib.decDigits u).toArray⟩) ∧ Below w.heap.size w w' := by
  by_cases hs : u < 100
  · go_enter Tryz.func85, Tryz.ntmps85
    go_wp2_with (go_at_call 102; refine (small_any u hs _).mono ?_; rintro e w' ⟨rfl, rfl⟩)
    go_ret
    exact ⟨rfl, Below.refl _ _⟩
  · have hu1 : 1 ≤ u := by omega
    have hnd20 : Lib.nDigits u ≤ 20 := by have := Lib.numDigits_eq u hu1 hu64; split at this <;> omega
    have hb3 : Lib.nDigits u ≤ 24 := by omega
    have hal : Tryz.prog.arrayLen 136 = 24 := by simp [Program.arrayLen, Tryz.underlying136]
    have hsl1 : ∀ W, (Instr.sliceAt 136 (.pointer (some ⟨w.heap.size, 0, none⟩)) none (some (.int .i64 (Lib.nDigits u : Int))) none).run Tryz.prog W = .ok (.slice (some ⟨w.heap.size, 0, none⟩) (Lib.nDigits u) 24) W := fun W => by
      rw [run_sliceAt_array_h W 136 ⟨w.heap.size, 0, none⟩ (by simp [Program.arrayLen, Program.elem, Tryz.underlying136]) .i64 (Lib.nDigits u : Int) (by omega) (by rw [hal]; omega)]
      go_simp
    have hH0 := holds_zero0 w 136 (Lib.nDigits u) (by omega)
    have hfmt : Calls Tryz.prog 104 _ _ _ := Any.internal_strconv_formatBase10 lays285 w.heap.size 0 24 u (Array.replicate (Lib.nDigits u) 0) (w.alloc (.cells Lib.zeros24 136)) hH0 (by rw [Array.size_replicate]; exact Lib.lt_pow_nDigits u) hu64 (by rw [Array.size_replicate]; omega)
    rw [Array.size_replicate] at hfmt
    have HH0 := Lib.hid hH0
    clear hH0 hal
    go_enter Tryz.func85, Tryz.ntmps85
    go_wp2_with (first
      | (go_at_call 103; refine (ndig_any u hu1 hu64 _ (Lib.tabIs_alloc ht _)).mono ?_; rintro e w' ⟨rfl, rfl⟩))
    go_at_call 104
    refine hfmt.mono ?_
    rintro e w' ⟨rfl, k, v', dk, rfl, hF⟩
    have hcv : (convert 56 9 (.slice (some ⟨w.heap.size, 0, none⟩) (Lib.nDigits u) 24)).run Tryz.prog ((putRow (fun (b : UInt8) => Value.int .u8 (b.toNat : Int)) (w.alloc (.cells Lib.zeros24 136)) w.heap.size 0 dk).drewN k) = .ok (.string ⟨(Lib.decDigits u).toArray⟩) ((putRow (fun (b : UInt8) => Value.int .u8 (b.toNat : Int)) (w.alloc (.cells Lib.zeros24 136)) w.heap.size 0 dk).drewN k) := by
      have h := run_convert_bytes_back (P := Tryz.prog) ((putRow (fun (b : UInt8) => Value.int .u8 (b.toNat : Int)) (w.alloc (.cells Lib.zeros24 136)) w.heap.size 0 dk).drewN k) 56 9 5 ⟨w.heap.size, 0, none⟩ 24 (Lib.decDigits u) Tryz.underlying56 Tryz.underlying5 Tryz.underlying9 (fun j hj => by
        rw [Lib.row_is_numeral hF j hj, Lib.add_plain, World.cell?_drewN]
        exact cell?_putRow (fun (b : UInt8) => Value.int .u8 (b.toNat : Int)) _ w.heap.size 0 _ dk HH0.out (by rw [hF.size, Array.size_replicate]) j (by rw [hF.size]; rw [Lib.decDigits_length] at hj; exact hj))
      rw [Lib.decDigits_length] at h
      exact h
    go_wp2
    go_ret
    exact ⟨rfl, grow_below ⟨k, fin_pos0 w (.cells Lib.zeros24 136) dk k⟩⟩

theorem fmtu_any (u : Nat) (w : World) (hu : u < 18446744073709551616) (ht : PowTab w) :
    Calls Tryz.prog 61 #[.int .u64 u, .int .i64 10] w fun e w' => e = .returned (.string (bs (numL u))) ∧ Below w.heap.size w w' := by
  have hd : (⟨(Lib.decDigits u).toArray⟩ : ByteArray) = bs (numL u) := by
    unfold numL bs
    rw [if_neg (by omega), decDigits_dig10 u (by omega), Int.toNat_natCast]
  go_enter Tryz.func61, Tryz.ntmps61
  go_wp2_with (go_at_call 85; refine (ifmtu_any u _ hu ht).mono ?_; rintro e w' ⟨rfl, hb⟩)
  go_ret
  exact ⟨rfl, hb⟩

theorem number_any (n : Int) (w : World) (h0 : -9223372036854775808 ≤ n) (h1 : n < 9223372036854775808) (ht : PowTab w) :
    Calls Tryz.prog 35 #[.int .i64 n] w fun e w' => e = .returned (.string (bs (numL n))) ∧ Below w.heap.size w w' := by
  have H0 := Lib.hid h0; have H1 := Lib.hid h1; clear h0 h1
  go_enter Tryz.func35, Tryz.ntmps35
  go_wp2_with (go_at_call 59; refine (itoa_any n _ H0.out H1.out ht).mono ?_; rintro e w' ⟨rfl, hb⟩)
  go_ret
  exact ⟨rfl, hb⟩

theorem register_any (n : Int) (w : World) (h0 : -9223372036854775808 ≤ n) (h1 : n < 9223372036854775808) (ht : PowTab w) :
    Calls Tryz.prog 34 #[.int .i64 n] w fun e w' => e = .returned (.string (bs (120 :: numL n))) ∧ Below w.heap.size w w' := by
  have H0 := Lib.hid h0; have H1 := Lib.hid h1; clear h0 h1
  have hl := numL_len n
  have hs : (bs (numL n)).size ≤ 21 := hl
  clear hl
  go_enter Tryz.func34, Tryz.ntmps34
  go_wp2_with (go_at_call 35; refine (number_any n _ H0.out H1.out ht).mono ?_; rintro e w' ⟨rfl, hb⟩)
  go_ret
  refine ⟨?_, hb⟩
  rfl

theorem unsigned_any (x : Int) (w : World) (h0 : 0 ≤ x) (h1 : x < 4294967296) (ht : PowTab w) :
    Calls Tryz.prog 38 #[.int .u32 x] w fun e w' => e = .returned (.string (bs (numL x))) ∧ Below w.heap.size w w' := by
  obtain ⟨u, rfl⟩ : ∃ u : Nat, x = u := ⟨x.toNat, by omega⟩
  have hw : IntKind.u64.wrap (u : Int) = u := by rw [IntKind.wrap_u64]; omega
  have H1 := Lib.hid h1; clear h1 h0
  go_enter Tryz.func38, Tryz.ntmps38
  go_wp2_with (go_at_call 61; refine (fmtu_any u _ (by have := H1.out; omega) ht).mono ?_; rintro e w' ⟨rfl, hb⟩)
  go_ret
  exact ⟨rfl, hb⟩

theorem address_any (a b : List UInt8) (w : World) (ha : a.length ≤ 50) (hb : b.length ≤ 50) :
    Calls Tryz.prog 40 #[.string (bs a), .string (bs b)] w fun e w' => e = .returned (.string (bs (a ++ 40 :: (b ++ [41])))) ∧ w' = w := by
  have h1 : (bs a).size ≤ 50 := ha
  have h2 : (bs b).size ≤ 50 := hb
  clear ha hb
  go_enter Tryz.func40, Tryz.ntmps40
  go_wp2
  go_ret
  refine ⟨?_, rfl⟩
  show Ending.returned (.string (bs a ++ bs [40] ++ bs b ++ bs [41])) = _
  rw [bs_app, bs_app, bs_app, List.append_assoc, List.append_assoc]
  rfl
end Go.Proofs.YtmkmbocnipmngaaGreatDoor

/- Layer 5: the parts of a text joined (line), which instructions have an address (Loads, hasAddress). -/
namespace Go.Proofs.YtmkmbocnipmngaaGreatDoor
open Go.RowKit Go.Sort
set_option linter.unusedVariables false

theorem join_any (bk c : Nat) (xs : List (List UInt8)) (w : World) (hcells : ∀ (j : Nat) x, xs[j]? = some x → w.cell? ⟨bk, j, none⟩ = some (.string (bs x))) (hbk : bk < w.heap.size) (hN : xs.length ≤ 1000) (hcap : xs.length ≤ c) (hlen : (Lib.join xs [44, 32]).length ≤ 1000) :
    Calls Tryz.prog 60 #[.slice (some ⟨bk, 0, none⟩) xs.length c, .string ⟨#[44, 32]⟩] w fun e w' => e = .returned (.string (bs (Lib.join xs [44, 32]))) ∧ Below w.heap.size w w' := by
  have e : (xs.map bs).map (·.data.toList) = xs := by
    rw [List.map_map]
    conv => rhs; rw [← List.map_id xs]
    exact List.map_congr_left fun x _ => by simp [bs]
  have h := Any.strings_Join lays156 Builder_Extra_156 bk 0 c (xs.map bs) ⟨#[44, 32]⟩ w (fun j x hx => by
    rw [List.getElem?_map] at hx
    obtain ⟨y, hy, rfl⟩ := Option.map_eq_some_iff.1 hx
    rw [Nat.zero_add]; exact hcells j y hy) hbk (by simp; omega) (by simpa using hcap) (by rw [e]; show (Lib.join xs [44, 32]).length ≤ _; omega)
  rw [e, List.length_map] at h
  exact h

theorem line_any (nm : List UInt8) (bk c : Nat) (xs : List (List UInt8)) (w : World) (hnm : nm.length ≤ 20) (hcells : ∀ (j : Nat) x, xs[j]? = some x → w.cell? ⟨bk, j, none⟩ = some (.string (bs x))) (hbk : bk < w.heap.size) (hx : xs.length ≠ 0) (hN : xs.length ≤ 1000) (hcap : xs.length ≤ c) (hlen : (Lib.join xs [44, 32]).length ≤ 1000) :
    Calls Tryz.prog 37 #[.string (bs nm), .slice (some ⟨bk, 0, none⟩) xs.length c] w fun e w' => e = .returned (.string (bs (nm ++ 32 :: Lib.join xs [44, 32]))) ∧ Below w.heap.size w w' := by
  have hj := join_any bk c xs w hcells hbk hN hcap hlen
  have h1 : (bs nm).size ≤ 20 := hnm
  have h2 : (bs (Lib.join xs [44, 32])).size ≤ 1000 := hlen
  have h0 : ((xs.length : Int) == 0) = false := by simpa using hx
  have he : bs nm ++ (⟨#[32]⟩ : ByteArray) ++ bs (Lib.join xs [44, 32]) = bs (nm ++ 32 :: Lib.join xs [44, 32]) := by
    show bs nm ++ bs [32] ++ _ = _
    rw [bs_app, bs_app, List.append_assoc]; rfl
  have HE := Lib.hid he
  clear hcells hbk hx hN hcap hlen hnm he
  go_enter Tryz.func37, Tryz.ntmps37
  go_wp2_with (go_at_call 60; refine hj.mono ?_; rintro e w' ⟨rfl, hb⟩)
  go_ret
  refine ⟨?_, hb⟩
  rw [← HE.out]; rfl

theorem line0 (nm : List UInt8) (w : World) : Calls Tryz.prog 37 #[.string (bs nm), .slice none 0 0] w fun e w' => e = .returned (.string (bs nm)) ∧ w' = w := by
  go_enter Tryz.func37, Tryz.ntmps37
  go_wp2
  go_ret
  exact ⟨rfl, rfl⟩

theorem line1 (nm a : List UInt8) (bk : Nat) (w : World) (hnm : nm.length ≤ 20) (ha : a.length ≤ 100) (h0 : w.cell? ⟨bk, 0, none⟩ = some (.string (bs a))) :
    Calls Tryz.prog 37 #[.string (bs nm), .slice (some ⟨bk, 0, none⟩) 1 1] w fun e w' => e = .returned (.string (bs (nm ++ 32 :: a))) ∧ Below w.heap.size w w' := by
  have e : Lib.join [a] [44, 32] = a := Lib.join_one _ _
  have h := line_any nm bk 1 [a] w hnm (fun j x hx => by
    match j, hx with
    | 0, hx => simp at hx; subst hx; exact h0) (lt_of_cell h0) (by simp) (by simp) (by simp) (by rw [e]; omega)
  rw [e] at h
  exact h
theorem join2 (a b : List UInt8) : Lib.join [a, b] [44, 32] = a ++ 44 :: 32 :: b := by
  rw [Lib.join_cons]; simp [Lib.joinTail]
theorem join3 (a b c : List UInt8) : Lib.join [a, b, c] [44, 32] = a ++ 44 :: 32 :: (b ++ 44 :: 32 :: c) := by
  rw [Lib.join_cons]; simp [Lib.joinTail]
theorem line2 (nm a b : List UInt8) (bk : Nat) (w : World) (hnm : nm.length ≤ 20) (ha : a.length ≤ 100) (hb : b.length ≤ 100) (h0 : w.cell? ⟨bk, 0, none⟩ = some (.string (bs a))) (h1 : w.cell? ⟨bk, 1, none⟩ = some (.string (bs b))) :
    Calls Tryz.prog 37 #[.string (bs nm), .slice (some ⟨bk, 0, none⟩) 2 2] w fun e w' => e = .returned (.string (bs (nm ++ 32 :: (a ++ 44 :: 32 :: b)))) ∧ Below w.heap.size w w' := by
  have h := line_any nm bk 2 [a, b] w hnm (fun j x hx => by
    match j, hx with
    | 0, hx => simp at hx; subst hx; exact h0
    | 1, hx => simp at hx; subst hx; exact h1) (lt_of_cell h0) (by simp) (by simp) (by simp) (by rw [join2]; simp; omega)
  rw [join2] at h
  exact h
theorem line3 (nm a b c : List UInt8) (bk : Nat) (w : World) (hnm : nm.length ≤ 20) (ha : a.length ≤ 100) (hb : b.length ≤ 100) (hc : c.length ≤ 100) (h0 : w.cell? ⟨bk, 0, none⟩ = some (.string (bs a))) (h1 : w.cell? ⟨bk, 1, none⟩ = some (.string (bs b))) (h2 : w.cell? ⟨bk, 2, none⟩ = some (.string (bs c))) :
    Calls Tryz.prog 37 #[.string (bs nm), .slice (some ⟨bk, 0, none⟩) 3 3] w fun e w' => e = .returned (.string (bs (nm ++ 32 :: (a ++ 44 :: 32 :: (b ++ 44 :: 32 :: c))))) ∧ Below w.heap.size w w' := by
  have h := line_any nm bk 3 [a, b, c] w hnm (fun j x hx => by
    match j, hx with
    | 0, hx => simp at hx; subst hx; exact h0
    | 1, hx => simp at hx; subst hx; exact h1
    | 2, hx => simp at hx; subst hx; exact h2) (lt_of_cell h0) (by simp) (by simp) (by simp) (by rw [join3]; simp; omega)
  rw [join3] at h
  exact h

/-- Among the instructions of the third form: those up to the fifteenth. -/
theorem hasAddr_any (k : Nat) (hk : k < 58) (hz : formZ k = 3) (w : World) :
    Calls Tryz.prog 39 #[.int .i64 k] w fun e w' => e = .returned (.bool (decide (k ≤ 15))) ∧ w' = w := by
  have hc : k = 4 ∨ k = 11 ∨ k = 12 ∨ k = 13 ∨ k = 14 ∨ k = 15 ∨ k = 19 ∨ k = 20 ∨ k = 21 ∨ k = 22 ∨ k = 23 ∨ k = 24 ∨ k = 38 ∨ k = 39 := by
    revert k; decide +kernel
  rcases hc with rfl | rfl | rfl | rfl | rfl | rfl | rfl | rfl | rfl | rfl | rfl | rfl | rfl | rfl
  all_goals
    clear hz hk
    go_enter Tryz.func39, Tryz.ntmps39
    go_wp2
    go_ret
    exact ⟨rfl, rfl⟩
end Go.Proofs.YtmkmbocnipmngaaGreatDoor

/- Layer 5: the document's own texts of numbers and registers. -/
namespace Go.Proofs.YtmkmbocnipmngaaGreatDoor
open Go.RowKit
set_option linter.unusedVariables false

theorem decCut (D : Int) (h0 : 0 ≤ D) (h1 : D < 10) : (ByteArray.mk #[48, 49, 50, 51, 52, 53, 54, 55, 56, 57]).extract D.toNat (D + 1).toNat = bs [dch D.toNat] := by
  have hn : D = 0 ∨ D = 1 ∨ D = 2 ∨ D = 3 ∨ D = 4 ∨ D = 5 ∨ D = 6 ∨ D = 7 ∨ D = 8 ∨ D = 9 := by omega
  rcases hn with rfl | rfl | rfl | rfl | rfl | rfl | rfl | rfl | rfl | rfl <;> decide

/-- How far Digits has come behind k rounds: m is still to be told, l has been. -/
def DigInv (N k m : Nat) (l : List UInt8) : Prop := m < 10 ^ (20 - k) ∧ l.length ≤ k ∧ (((0 < m ∨ k = 0) ∧ dig10 N = dig10 m ++ l) ∨ (m = 0 ∧ 0 < k ∧ l = dig10 N))
theorem digInv_start (N : Nat) (h : N < 10 ^ 20) : DigInv N 0 N [] := ⟨h, Nat.le_refl _, .inl ⟨.inr rfl, by simp⟩⟩
theorem digInv_put (N k m : Nat) (l : List UInt8) (hk : k < 20) (hN : N < 10 ^ 20) (h : DigInv N k m l) (hm : 0 < m ∨ k = 0) : DigInv N (k + 1) (m / 10) (dch (m % 10) :: l) := by
  obtain ⟨h1, h2, h3⟩ := h
  have e : 10 ^ (20 - k) = 10 ^ (20 - (k + 1)) * 10 := by
    rw [← Nat.pow_succ]; congr 1; omega
  refine ⟨by omega, by simp; omega, ?_⟩
  have h4 : dig10 N = dig10 m ++ l := by
    rcases h3 with ⟨_, h⟩ | ⟨h, h', _⟩
    · exact h
    · omega
  have hb : m < 10 ^ 20 := Nat.lt_of_lt_of_le h1 (Nat.pow_le_pow_right (by decide) (by omega))
  by_cases hs : m < 10
  · refine .inr ⟨by omega, by omega, ?_⟩
    rw [h4, dig10_small m hs, show m % 10 = m from by omega]; rfl
  · refine .inl ⟨.inl (by omega), ?_⟩
    rw [h4, dig10_step m hs hb]; simp
theorem digInv_skip (N k : Nat) (l : List UInt8) (h : DigInv N k 0 l) (hk : 0 < k) : DigInv N (k + 1) 0 l := by
  obtain ⟨h1, h2, h3⟩ := h
  refine ⟨Nat.pow_pos (by decide), by omega, .inr ⟨rfl, by omega, ?_⟩⟩
  rcases h3 with ⟨h, _⟩ | ⟨_, _, h⟩
  · omega
  · exact h
theorem digInv_end (N m : Nat) (l : List UInt8) (h : DigInv N 20 m l) : l = dig10 N := by
  obtain ⟨h1, _, h3⟩ := h
  rcases h3 with ⟨h, _⟩ | ⟨_, _, h⟩
  · simp at h1; omega
  · exact h

theorem numS_size (n : Int) : (bs (numL n)).size ≤ 21 := by rw [bs_size]; exact numL_len n

end Go.Proofs.YtmkmbocnipmngaaGreatDoor

/- Layer 5: the document's own Text, what it wants. -/
namespace Go.Proofs.YtmkmbocnipmngaaGreatDoor
open Go.RowKit
set_option linter.unusedVariables false

/-- Six cells of block B. -/
def SixT (w : World) (B : Nat) (a b c d e f : Int) : Prop := w.cell? ⟨B, 0, none⟩ = some (.int .i64 a) ∧ w.cell? ⟨B, 1, none⟩ = some (.int .i64 b) ∧ w.cell? ⟨B, 2, none⟩ = some (.int .i64 c) ∧ w.cell? ⟨B, 3, none⟩ = some (.int .i64 d) ∧ w.cell? ⟨B, 4, none⟩ = some (.int .u32 e) ∧ w.cell? ⟨B, 5, none⟩ = some (.int .i64 f)
theorem sixT_new (w : World) (B : Nat) (hB : w.heap.size = B) (t : TypeId) (a b c d e f : Int) : SixT (w.alloc (.cells #[.int .i64 a, .int .i64 b, .int .i64 c, .int .i64 d, .int .u32 e, .int .i64 f] t)) B a b c d e f := by
  subst hB
  refine ⟨?_, ?_, ?_, ?_, ?_, ?_⟩ <;> rw [World.cell?_alloc_at _ _ _ _ rfl] <;> rfl
theorem tcell_on {W w1 : World} {b o : Nat} {p : Option Nat} {v : Value} (hb : Below W.heap.size W w1) (h : W.cell? ⟨b, o, p⟩ = some v) : w1.cell? ⟨b, o, p⟩ = some v := by
  rw [hb.cell (p := ⟨b, o, p⟩) (lt_of_cell h)]; exact h
theorem SixT.on {W w1 : World} {B : Nat} {a b c d e f : Int} (h : SixT W B a b c d e f) (hb : Below W.heap.size W w1) : SixT w1 B a b c d e f := by
  obtain ⟨h0, h1, h2, h3, h4, h5⟩ := h
  exact ⟨tcell_on hb h0, tcell_on hb h1, tcell_on hb h2, tcell_on hb h3, tcell_on hb h4, tcell_on hb h5⟩
theorem tneb {k : Nat} (h : k ≠ 0) : ((k : Int) == 0) = false := by simp; omega
theorem tbelow_dn {B : Nat} {w w' : World} (h : Below B w w') (k : Nat) : Below B w (w'.drewN k) := h.trans (Q.below ⟨k, rfl⟩ _)

theorem name_size : ∀ k, k < 58 → (nameL.getD k []).length ≤ 8 := by decide +kernel
theorem nameS_size (k : Nat) (hk : k < 58) : (nameS k).size ≤ 8 := by
  rw [nameS_bs, bs_size]; exact name_size k hk
theorem regS_size (n : Int) : (bs (120 :: numL n)).size ≤ 22 := by
  rw [bs_size]; have := numL_len n; simp; omega

/-- What right fields are, as numbers that a machine's integer holds. -/
theorem right_ints (f rd rs1 rs2 imm csr : Int) (h : rightOf f rd rs1 rs2 imm csr = true) : (0 ≤ rd ∧ rd < 4096) ∧ (0 ≤ rs1 ∧ rs1 < 4096) ∧ (0 ≤ rs2 ∧ rs2 < 4096) ∧ (0 ≤ csr ∧ csr < 4096) := by
  obtain ⟨p1, p2, p3, p4, _⟩ := right_parts _ _ _ _ _ _ h
  have B : ∀ {x : Int} {b : Bool} {l : Int}, l ≤ 4095 → 0 ≤ l → partB x b l = true → 0 ≤ x ∧ x < 4096 := fun {x b l} hl h0 h => by
    cases b
    · have := partB_n h; omega
    · have := partB_y h; omega
  exact ⟨B (by decide) (by decide) p1, B (by decide) (by decide) p2, B (by decide) (by decide) p3, B (by decide) (by decide) p4⟩

theorem ret_text {a b : ByteArray} {c : Bool} (h : a = b) : Ending.returned (.tuple #[.string a, .bool c]) = .returned (.tuple #[.string b, .bool c]) := by rw [h]

end Go.Proofs.YtmkmbocnipmngaaGreatDoor

/- Layer 5: the text of a right instruction (rightText). -/
namespace Go.Proofs.YtmkmbocnipmngaaGreatDoor
open Go.RowKit Go.Sort
set_option linter.unusedVariables false

theorem below_step {w V w1 : World} (h : Hid (Below w.heap.size w V)) (hb : Below V.heap.size V w1) : Hid (Below w.heap.size w w1) := h.out.trans (hb.mono h.out.size)
theorem six_step {V w1 : World} {B : Nat} {a b c d e f : Int} (h : Hid (SixT V B a b c d e f)) (hb : Below V.heap.size V w1) : Hid (SixT w1 B a b c d e f) := SixT.on h.out hb
def IsInt (n : Int) : Prop := -9223372036854775808 ≤ n ∧ n < 9223372036854775808
theorem isInt_of {n : Int} (h0 : -9223372036854775808 ≤ n) (h1 : n < 9223372036854775808) : IsInt n := ⟨h0, h1⟩

theorem name_bsk (k : Nat) (hk : k < 58) (w : World) (ht : NameTab w) :
    Calls Tryz.prog 33 #[.int .i64 k] w fun e w' => e = .returned (.tuple #[.string (bs (nameL.getD k [])), .int .i64 0]) ∧ w' = w := name_yes k hk w ht
theorem below_al {w V w1 : World} {o : Obj} (h : Hid (Below w.heap.size w V)) (hb : Below (V.alloc o).heap.size (V.alloc o) w1) : Below w.heap.size w w1 :=
  (h.out.trans ((Below.refl _ _).alloc h.out.size _)).trans (hb.mono (by have := h.out.size; simp; omega))
theorem num_lens (n : Int) : (numL n).length ≤ 100 ∧ (120 :: numL n).length ≤ 100 := by
  have := numL_len n; simp; omega
theorem num_lens5 (n : Int) : (numL n).length ≤ 50 ∧ (120 :: numL n).length ≤ 50 := by
  have := numL_len n; simp; omega
theorem addr_len (a b : Int) : (numL a ++ 40 :: ((120 :: numL b) ++ [41])).length ≤ 100 := by
  have := numL_len a; have := numL_len b; simp; omega

theorem tx_0 (k : Nat) (rd rs1 rs2 imm csr : Int) (hz : formZ k = 0) : nameL.getD k [] = textL k rd rs1 rs2 imm csr := by
  unfold textL restL
  rw [hz]; simp
theorem tx_1 (k : Nat) (rd rs1 rs2 imm csr : Int) (hz : formZ k = 1) : nameL.getD k [] ++ 32 :: ((120 :: numL rd) ++ 44 :: 32 :: numL (imm / 4096)) = textL k rd rs1 rs2 imm csr := by
  unfold textL restL
  rw [hz]; simp
theorem tx_2 (k : Nat) (rd rs1 rs2 imm csr : Int) (hz : formZ k = 2) : nameL.getD k [] ++ 32 :: ((120 :: numL rd) ++ 44 :: 32 :: numL (signedOf imm)) = textL k rd rs1 rs2 imm csr := by
  unfold textL restL
  rw [hz]; simp
theorem tx_3a (k : Nat) (rd rs1 rs2 imm csr : Int) (hz : formZ k = 3) (h : k ≤ 15) : nameL.getD k [] ++ 32 :: ((120 :: numL rd) ++ 44 :: 32 :: (numL (signedOf imm) ++ 40 :: ((120 :: numL rs1) ++ [41]))) = textL k rd rs1 rs2 imm csr := by
  unfold textL restL
  rw [hz]; simp [h]
theorem tx_3b (k : Nat) (rd rs1 rs2 imm csr : Int) (hz : formZ k = 3) (h : ¬ k ≤ 15) : nameL.getD k [] ++ 32 :: ((120 :: numL rd) ++ 44 :: 32 :: ((120 :: numL rs1) ++ 44 :: 32 :: numL (signedOf imm))) = textL k rd rs1 rs2 imm csr := by
  unfold textL restL
  rw [hz]; simp [h]
theorem tx_4 (k : Nat) (rd rs1 rs2 imm csr : Int) (hz : formZ k = 4) : nameL.getD k [] ++ 32 :: ((120 :: numL rs1) ++ 44 :: 32 :: ((120 :: numL rs2) ++ 44 :: 32 :: numL (signedOf imm))) = textL k rd rs1 rs2 imm csr := by
  unfold textL restL
  rw [hz]; simp
theorem tx_5 (k : Nat) (rd rs1 rs2 imm csr : Int) (hz : formZ k = 5) : nameL.getD k [] ++ 32 :: ((120 :: numL rs2) ++ 44 :: 32 :: (numL (signedOf imm) ++ 40 :: ((120 :: numL rs1) ++ [41]))) = textL k rd rs1 rs2 imm csr := by
  unfold textL restL
  rw [hz]; simp
theorem tx_6 (k : Nat) (rd rs1 rs2 imm csr : Int) (hz : formZ k = 6) : nameL.getD k [] ++ 32 :: ((120 :: numL rd) ++ 44 :: 32 :: ((120 :: numL rs1) ++ 44 :: 32 :: (120 :: numL rs2))) = textL k rd rs1 rs2 imm csr := by
  unfold textL restL
  rw [hz]; simp
theorem tx_7 (k : Nat) (rd rs1 rs2 imm csr : Int) (hz : formZ k = 7) : nameL.getD k [] ++ 32 :: ((120 :: numL rd) ++ 44 :: 32 :: ((120 :: numL rs1) ++ 44 :: 32 :: numL (signedOf imm))) = textL k rd rs1 rs2 imm csr := by
  unfold textL restL
  rw [hz]; simp
theorem tx_8 (k : Nat) (rd rs1 rs2 imm csr : Int) (hz : formZ k = 8) : nameL.getD k [] ++ 32 :: ((120 :: numL rd) ++ 44 :: 32 :: (numL csr ++ 44 :: 32 :: (120 :: numL rs1))) = textL k rd rs1 rs2 imm csr := by
  unfold textL restL
  rw [hz]; simp
theorem tx_9 (k : Nat) (rd rs1 rs2 imm csr : Int) (hz : formZ k = 9) : nameL.getD k [] ++ 32 :: ((120 :: numL rd) ++ 44 :: 32 :: (numL csr ++ 44 :: 32 :: numL (signedOf imm))) = textL k rd rs1 rs2 imm csr := by
  unfold textL restL
  rw [hz]; simp

set_option maxRecDepth 100000 in
set_option maxHeartbeats 8000000 in
theorem rightText_any (k : Nat) (rd rs1 rs2 imm csr : Int) (w : World) (hk : k < 58) (hk0 : k ≠ 0) (i0 : 0 ≤ imm) (i1 : imm < 4294967296) (tf : FormTab w) (tn : NameTab w) (tp : PowTab w) (hr : rightOf (formZ k) rd rs1 rs2 imm csr = true) :
    Calls Tryz.prog 14 #[.agg #[.int .i64 k, .int .i64 rd, .int .i64 rs1, .int .i64 rs2, .int .u32 imm, .int .i64 csr]] w fun e w' => e = .returned (.string (bs (textL k rd rs1 rs2 imm csr))) ∧ Below w.heap.size w w' := by
  have HF : Hid (FormTab w) := tf
  have HN : Hid (NameTab w) := tn
  have HK : Hid (PowTab w) := tp
  have HI0 : Hid (0 ≤ imm) := i0
  have HI1 : Hid (imm < 4294967296) := i1
  have HKL : Hid (k < 58) := hk
  obtain ⟨⟨a0, a1⟩, ⟨b0, b1⟩, ⟨d0, d1⟩, ⟨e0, e1⟩⟩ := right_ints _ _ _ _ _ _ hr
  have hsg := signedOf_bd imm i0 i1
  have Ird : IsInt rd := isInt_of (by omega) (by omega)
  have Irs1 : IsInt rs1 := isInt_of (by omega) (by omega)
  have Irs2 : IsInt rs2 := isInt_of (by omega) (by omega)
  have Icsr : IsInt csr := isInt_of (by omega) (by omega)
  have Isg : IsInt (signedOf imm) := isInt_of (by omega) (by omega)
  have HNL : Hid ((nameL.getD k []).length ≤ 20) := Nat.le_trans (name_len k hk) (by decide)
  have HL : Hid (∀ n : Int, (numL n).length ≤ 100 ∧ (120 :: numL n).length ≤ 100) := num_lens
  have HL5 : Hid (∀ n : Int, (numL n).length ≤ 50 ∧ (120 :: numL n).length ≤ 50) := num_lens5
  have HLA : Hid (∀ a b : Int, (numL a ++ 40 :: ((120 :: numL b) ++ [41])).length ≤ 100) := addr_len
  clear tf tn tp i0 i1 hr a0 a1 b0 b1 d0 d1 e0 e1 hsg hk hk0
  have HS : Hid (SixT (w.alloc (.cells #[.int .i64 k, .int .i64 rd, .int .i64 rs1, .int .i64 rs2, .int .u32 imm, .int .i64 csr] 24)) w.heap.size k rd rs1 rs2 imm csr) := sixT_new w _ rfl _ _ _ _ _ _ _
  have hW : Hid (Below w.heap.size w (w.alloc (.cells #[.int .i64 k, .int .i64 rd, .int .i64 rs1, .int .i64 rs2, .int .u32 imm, .int .i64 csr] 24))) := (Below.refl _ _).alloc (Nat.le_refl _) _
  go_enter Tryz.func14, Tryz.ntmps14
  go_wp2_with fail
  generalize w.alloc (.cells #[.int .i64 k, .int .i64 rd, .int .i64 rs1, .int .i64 rs2, .int .u32 imm, .int .i64 csr] 24) = W at *
  refine (name_bsk k HKL.out _ (NameTab.below HN.out hW.out)).mono ?_
  rintro e w' ⟨rfl, hw⟩; have hw := hw.symm; subst hw
  obtain ⟨c0, c1, c2, c3, c4, c5⟩ := HS.out
  go_wp2_with fail
  refine (form_yes k HKL.out _ (FormTab.below HF.out hW.out)).mono ?_
  rintro e w' ⟨rfl, hw⟩; have hw := hw.symm; subst hw
  have HSd : Hid (SixT W.drew w.heap.size k rd rs1 rs2 imm csr) := SixT.on HS.out ((Below.refl W.heap.size W).drew)
  have hWd : Hid (Below w.heap.size w W.drew) := hW.out.drew
  go_wp2_with fail
  go_region_held3 (fun w' => w'.cell? ⟨w.heap.size, 0, none⟩ = some (.int .i64 k) ∧ w'.cell? ⟨w.heap.size, 1, none⟩ = some (.int .i64 rd) ∧ w'.cell? ⟨w.heap.size, 2, none⟩ = some (.int .i64 rs1) ∧ w'.cell? ⟨w.heap.size, 3, none⟩ = some (.int .i64 rs2) ∧ w'.cell? ⟨w.heap.size, 4, none⟩ = some (.int .u32 imm) ∧ w'.cell? ⟨w.heap.size, 5, none⟩ = some (.int .i64 csr)) (first | (refine ⟨?_, ?_, ?_, ?_, ?_, ?_⟩ <;> assumption) | simp)
    (first
      | (go_at_call 34; refine (register_any _ _ (And.left (show IsInt _ by assumption)) (And.right (show IsInt _ by assumption)) (powTab_below HK.out (Hid.out (by assumption)))).mono ?_; rintro e w1 ⟨rfl, hb⟩; have HB := below_step (by assumption) hb; have HSn := six_step (by assumption) hb; obtain ⟨c0, c1, c2, c3, c4, c5⟩ := HSn.out; clear hb))
  clear HSd hWd HS hW
  have HSd : Hid (SixT w1.drew w.heap.size k rd rs1 rs2 imm csr) := SixT.on HSn.out ((Below.refl w1.heap.size w1).drew)
  have hWd : Hid (Below w.heap.size w w1.drew) := HB.out.drew
  clear HSn HB
  go_wp2_with fail
  go_region_held3 (fun w' => w'.cell? ⟨w.heap.size, 0, none⟩ = some (.int .i64 k) ∧ w'.cell? ⟨w.heap.size, 1, none⟩ = some (.int .i64 rd) ∧ w'.cell? ⟨w.heap.size, 2, none⟩ = some (.int .i64 rs1) ∧ w'.cell? ⟨w.heap.size, 3, none⟩ = some (.int .i64 rs2) ∧ w'.cell? ⟨w.heap.size, 4, none⟩ = some (.int .u32 imm) ∧ w'.cell? ⟨w.heap.size, 5, none⟩ = some (.int .i64 csr)) (first | (refine ⟨?_, ?_, ?_, ?_, ?_, ?_⟩ <;> assumption) | simp)
    (first
      | (go_at_call 35; refine (number_any _ _ (And.left (show IsInt _ by assumption)) (And.right (show IsInt _ by assumption)) (powTab_below HK.out (Hid.out (by assumption)))).mono ?_; rintro e w1 ⟨rfl, hb⟩; have HB := below_step (by assumption) hb; have HSn := six_step (by assumption) hb; obtain ⟨c0, c1, c2, c3, c4, c5⟩ := HSn.out; clear hb)
      | (go_at_call 36; refine (signed_any imm _ HI0.out HI1.out).mono ?_; rintro e w' ⟨rfl, hw⟩; have hw := hw.symm; subst hw))
  clear HSd hWd
  have hz9 : formZ k = 0 ∨ formZ k = 1 ∨ formZ k = 2 ∨ formZ k = 3 ∨ formZ k = 4 ∨ formZ k = 5 ∨ formZ k = 6 ∨ formZ k = 7 ∨ formZ k = 8 ∨ formZ k = 9 := by
    have := formZ_lt k HKL.out; omega
  rcases hz9 with hz | hz | hz | hz | hz | hz | hz | hz | hz | hz
  · have HT := Lib.hid (tx_0 k rd rs1 rs2 imm csr hz)
    go_wp2_with (go_at_call 37; refine (line0 _ _).mono ?_; rintro e w' ⟨rfl, hw⟩; have hw := hw.symm; subst hw)
    go_ret
    exact ⟨by rw [← HT.out]; rfl, HB.out⟩
  · have HT := Lib.hid (tx_1 k rd rs1 rs2 imm csr hz)
    have i0 := HI0.out
    have i1 := HI1.out
    go_wp2_with (first
      | (go_at_call 38; refine (unsigned_any (imm / 4096) _ (by omega) (by omega) (powTab_below HK.out HB.out)).mono ?_; rintro e w2 ⟨rfl, hb⟩; have HB2 := below_step HB hb; clear hb)
      | (go_at_call 37; refine (line2 _ (120 :: numL rd) (numL (imm / 4096)) _ _ HNL.out (HL.out rd).2 (HL.out _).1 (by simp) (by simp)).mono ?_; rintro e w3 ⟨rfl, hb⟩))
    go_ret
    exact ⟨by rw [← HT.out]; rfl, below_al HB2 hb⟩
  · have HT := Lib.hid (tx_2 k rd rs1 rs2 imm csr hz)
    go_wp2_with (first
      | (go_at_call 37; refine (line2 _ (120 :: numL rd) (numL (signedOf imm)) _ _ HNL.out (HL.out rd).2 (HL.out _).1 (by simp) (by simp)).mono ?_; rintro e w3 ⟨rfl, hb⟩))
    go_ret
    exact ⟨by rw [← HT.out]; rfl, below_al HB hb⟩
  · by_cases h15 : k ≤ 15
    · have HT := Lib.hid (tx_3a k rd rs1 rs2 imm csr hz h15)
      have ha := hasAddr_any k HKL.out hz w1
      rw [decide_eq_true h15] at ha
      clear h15
      go_wp2_with (first
        | (go_at_call 39; refine ha.mono ?_; rintro e w' ⟨rfl, hw⟩; have hw := hw.symm; subst hw)
        | (go_at_call 40; refine (address_any (numL (signedOf imm)) (120 :: numL rs1) _ (HL5.out _).1 (HL5.out rs1).2).mono ?_; rintro e w' ⟨rfl, hw⟩; have hw := hw.symm; subst hw)
        | (go_at_call 37; refine (line2 _ (120 :: numL rd) (numL (signedOf imm) ++ 40 :: ((120 :: numL rs1) ++ [41])) _ _ HNL.out (HL.out rd).2 (HLA.out _ _) (by simp) (by simp)).mono ?_; rintro e w3 ⟨rfl, hb⟩))
      go_ret
      exact ⟨by rw [← HT.out]; rfl, below_al HB hb⟩
    · have HT := Lib.hid (tx_3b k rd rs1 rs2 imm csr hz h15)
      have ha := hasAddr_any k HKL.out hz w1
      rw [decide_eq_false h15] at ha
      clear h15
      go_wp2_with (first
        | (go_at_call 39; refine ha.mono ?_; rintro e w' ⟨rfl, hw⟩; have hw := hw.symm; subst hw)
        | (go_at_call 37; refine (line3 _ (120 :: numL rd) (120 :: numL rs1) (numL (signedOf imm)) _ _ HNL.out (HL.out rd).2 (HL.out rs1).2 (HL.out _).1 (by simp) (by simp) (by simp)).mono ?_; rintro e w3 ⟨rfl, hb⟩))
      go_ret
      exact ⟨by rw [← HT.out]; rfl, below_al HB hb⟩
  · have HT := Lib.hid (tx_4 k rd rs1 rs2 imm csr hz)
    go_wp2_with (first
      | (go_at_call 37; refine (line3 _ (120 :: numL rs1) (120 :: numL rs2) (numL (signedOf imm)) _ _ HNL.out (HL.out rs1).2 (HL.out rs2).2 (HL.out _).1 (by simp) (by simp) (by simp)).mono ?_; rintro e w3 ⟨rfl, hb⟩))
    go_ret
    exact ⟨by rw [← HT.out]; rfl, below_al HB hb⟩
  · have HT := Lib.hid (tx_5 k rd rs1 rs2 imm csr hz)
    go_wp2_with (first
      | (go_at_call 40; refine (address_any (numL (signedOf imm)) (120 :: numL rs1) _ (HL5.out _).1 (HL5.out rs1).2).mono ?_; rintro e w' ⟨rfl, hw⟩; have hw := hw.symm; subst hw)
      | (go_at_call 37; refine (line2 _ (120 :: numL rs2) (numL (signedOf imm) ++ 40 :: ((120 :: numL rs1) ++ [41])) _ _ HNL.out (HL.out rs2).2 (HLA.out _ _) (by simp) (by simp)).mono ?_; rintro e w3 ⟨rfl, hb⟩))
    go_ret
    exact ⟨by rw [← HT.out]; rfl, below_al HB hb⟩
  · have HT := Lib.hid (tx_6 k rd rs1 rs2 imm csr hz)
    go_wp2_with (first
      | (go_at_call 37; refine (line3 _ (120 :: numL rd) (120 :: numL rs1) (120 :: numL rs2) _ _ HNL.out (HL.out rd).2 (HL.out rs1).2 (HL.out rs2).2 (by simp) (by simp) (by simp)).mono ?_; rintro e w3 ⟨rfl, hb⟩))
    go_ret
    exact ⟨by rw [← HT.out]; rfl, below_al HB hb⟩
  · have HT := Lib.hid (tx_7 k rd rs1 rs2 imm csr hz)
    go_wp2_with (first
      | (go_at_call 37; refine (line3 _ (120 :: numL rd) (120 :: numL rs1) (numL (signedOf imm)) _ _ HNL.out (HL.out rd).2 (HL.out rs1).2 (HL.out _).1 (by simp) (by simp) (by simp)).mono ?_; rintro e w3 ⟨rfl, hb⟩))
    go_ret
    exact ⟨by rw [← HT.out]; rfl, below_al HB hb⟩
  · have HT := Lib.hid (tx_8 k rd rs1 rs2 imm csr hz)
    go_wp2_with (first
      | (go_at_call 37; refine (line3 _ (120 :: numL rd) (numL csr) (120 :: numL rs1) _ _ HNL.out (HL.out rd).2 (HL.out _).1 (HL.out rs1).2 (by simp) (by simp) (by simp)).mono ?_; rintro e w3 ⟨rfl, hb⟩))
    go_ret
    exact ⟨by rw [← HT.out]; rfl, below_al HB hb⟩
  · have HT := Lib.hid (tx_9 k rd rs1 rs2 imm csr hz)
    go_wp2_with (first
      | (go_at_call 37; refine (line3 _ (120 :: numL rd) (numL csr) (numL (signedOf imm)) _ _ HNL.out (HL.out rd).2 (HL.out _).1 (HL.out _).1 (by simp) (by simp) (by simp)).mono ?_; rintro e w3 ⟨rfl, hb⟩))
    go_ret
    exact ⟨by rw [← HT.out]; rfl, below_al HB hb⟩
end Go.Proofs.YtmkmbocnipmngaaGreatDoor
