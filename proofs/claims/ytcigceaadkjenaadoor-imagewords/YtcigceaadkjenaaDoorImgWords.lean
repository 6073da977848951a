/- Layer 15: Words, and the walk of ImageWords. -/
import Derived.Test.YtcigceaadkjenaaDoorImgTakeB
import Derived.Test.YtcigceaadkjenaaDoorBytes
import Derived.Test.YtcigceaadkjenaaDoorFrame
import Derived.Test.YtcigceaadkjenaaDoorImgSame
import Derived.Test.YtcigceaadkjenaaDoorImgAwake
import Derived.Test.YtcigceaadkjenaaDoorImgRParse
namespace Go.Proofs.YtcigceaadkjenaaDoor
open Go.RowKit
set_option linter.unusedVariables false
set_option linter.unusedSimpArgs false
set_option maxRecDepth 100000

/-- The bytes of the first k words. -/
def wbL (zs : List Int) (k : Nat) : List Int := (zs.take k).flatMap fun x => bytesTo x 4
theorem wbL_succ (zs : List Int) (k : Nat) (h : k < zs.length) : wbL zs (k + 1) = wbL zs k ++ bytesTo (zs.getD k 0) 4 := by
  unfold wbL
  rw [List.take_add_one, List.getElem?_eq_getElem h, List.flatMap_append]
  simp [List.getElem?_eq_getElem h]
theorem bytes_map (x : Int) (xs : List Int) : bv xs ++ (bytesTo x 4).map (Value.int .u8) = bv (xs ++ bytesTo x 4) := by simp [bv]
theorem row_u32 {w : World} {a : Option Addr} {len cap : Nat} {zs : List Int} (h : IsRow .u32 w a len cap zs) {k : Nat} (hk : k < len) :
    ∃ x, a = some x ∧ k < zs.length ∧ w.cell? (x.add k) = some (.int .u32 (zs.getD k 0)) ∧ 0 ≤ zs.getD k 0 ∧ zs.getD k 0 < 4294967296 := by
  rcases h with ⟨rfl, rfl, rfl, rfl⟩ | ⟨x, rfl, h1, h2, h3, h4, h5⟩
  · omega
  · have hlt : k < zs.length := by omega
    have := h5 (zs.getD k 0) (by rw [List.getD_eq_getElem?_getD, List.getElem?_eq_getElem hlt]; exact List.getElem_mem hlt)
    refine ⟨x, rfl, hlt, h4 k hlt, ?_⟩
    have e : 0 ≤ zs.getD k 0 ∧ zs.getD k 0 ≤ 4294967295 := by simpa [Lit.wf, IntKind.min, IntKind.max, IntKind.signed, IntKind.bits] using this
    omega

theorem grown_cell (W : World) (b o : Nat) (v : Value) : W.grownBy (W.setCell ⟨b, o, none⟩ v) (some b) :=
  ⟨rfl, rfl, rfl, (KeepsWalks.setCell W _ v).size, fun k _ hk => Below.heap_setCell _ _ _ k (fun e => hk (by rw [e]))⟩

set_option maxHeartbeats 4000000 in
theorem words_any (at_ : Int) (a : Option Addr) (len cap : Nat) (zs : List Int) (w : World) (h : IsRow .u32 w a len cap zs) (hl : len ≤ 1000) :
    Calls Tryd.prog 23 #[.int .u32 at_, .slice a len cap] w fun e w' => ∃ v, e = .returned (.agg #[.int .u32 at_, v]) ∧ w'.ownsRow w.heap.size tyB 1 v (len * 4) (bv (wbL zs len)) ∧ Below w.heap.size w w' := by
  obtain ⟨i1, hj, hy0, hy1, hy2⟩ := info_parts info_byte
  have HR := Lib.hid h
  clear h
  go_enter Tryd.func23, Tryd.ntmps23
  go_wp2
  go_loopw [14] (fun i wr => ∃ (k : Nat) (v : Value), k ≤ len ∧ i = .int .i64 (k : Int) ∧ wr.cell? ⟨w.heap.size, 0, none⟩ = some (.int .u32 0) ∧ wr.cell? ⟨w.heap.size, 1, none⟩ = some (.slice none 0 0) ∧ wr.frozen? ⟨w.heap.size, 0, none⟩ = false ∧ wr.frozen? ⟨w.heap.size, 1, none⟩ = false ∧
      wr.cell? ⟨w.heap.size + 1, 0, none⟩ = some (.int .u32 at_) ∧ wr.cell? ⟨w.heap.size + 1, 1, none⟩ = some v ∧ wr.frozen? ⟨w.heap.size + 1, 0, none⟩ = false ∧ wr.frozen? ⟨w.heap.size + 1, 1, none⟩ = false ∧ Hid (w.heap.size + 2 ≤ wr.heap.size) ∧
      Hid (wr.ownsRow (w.heap.size + 2) tyB 1 v (k * 4) (bv (wbL zs k))) ∧ Hid (Below w.heap.size w wr)) (fun i _ => len - (intOf i).toNat)
  case atStart =>
    refine ⟨0, .slice none 0 0, Nat.zero_le _, rfl, ?_, ?_, ?_, ?_, ?_, ?_, ?_, ?_, ?_, World.ownsRow_nil _ _ _ _, ((Below.refl _ _).alloc (Nat.le_refl _) _).alloc (by simp) _⟩
    all_goals first | (simp; done) | (show _ ≤ _; simp; done) | trace_state
  case round =>
    obtain ⟨k, v, hk, rfl, a0, a1, d0, d1, b0, b1, f0, f1, HS, HO, HB⟩ := hrel
    by_cases hlt : k < len
    · obtain ⟨x, rfl, hkz, hx, z0, z1⟩ := row_u32 HR.out hlt
      have hcx : wr.cell? (x.add k) = some (.int .u32 (zs.getD k 0)) := (HB.out.cell (World.block_lt_of_cell? w _ hx)).trans hx
      have HWS := Lib.hid (wbL_succ zs k hkz)
      have HBY : Hid (∀ V : World, _) := fun V => bytes_yes (zs.getD k 0) 4 V z0 z1 (by decide)
      generalize zs.getD k 0 = z at *
      go_wp2_with fail
      refine (HBY.out _).mono ?_
      rintro e w4 ⟨v4, rfl, hown4, hb4⟩
      obtain ⟨g4, q4, rfl⟩ := owned_some hown4 (by decide)
      have k4 : ∀ (j : Nat) (u : Value), ((bytesTo z 4).map (Value.int .u8))[j]? = some u → w4.cell? ((⟨g4, 0, none⟩ : Addr).add j) = some u := fun j u hj => by
        have hj4 : j < 4 := by
          rcases Nat.lt_or_ge j 4 with h | h
          · exact h
          · rw [List.getElem?_eq_none (by simp [bytesTo_len]; omega)] at hj; cases hj
        rw [add_plain, Nat.zero_add, hown4.cellAt j (by omega)]
        exact hj
      have HK4 := Lib.hid k4
      have HO4 : Hid (w4.ownsRow (w.heap.size + 2) tyB 1 v (k * 4) (bv (wbL zs k))) := own_on HO.out hb4
      have HB4 : Hid (Below w.heap.size w w4) := HB.out.trans (hb4.mono HB.out.size)
      have HS4 : Hid (w.heap.size + 2 ≤ w4.heap.size) := Nat.le_trans HS.out hb4.size
      have e0 : w4.cell? ⟨w.heap.size, 0, none⟩ = some (.int .u32 0) := (hb4.cell (World.block_lt_of_cell? wr _ a0)).trans a0
      have e1 : w4.cell? ⟨w.heap.size, 1, none⟩ = some (.slice none 0 0) := (hb4.cell (World.block_lt_of_cell? wr _ a1)).trans a1
      have e2 : w4.cell? ⟨w.heap.size + 1, 0, none⟩ = some (.int .u32 at_) := (hb4.cell (World.block_lt_of_cell? wr _ b0)).trans b0
      have e3 : w4.cell? ⟨w.heap.size + 1, 1, none⟩ = some v := (hb4.cell (World.block_lt_of_cell? wr _ b1)).trans b1
      have bA := hb4.block w.heap.size (by have := HS.out; omega)
      have bB := hb4.block (w.heap.size + 1) (by have := HS.out; omega)
      have g0 : w4.frozen? ⟨w.heap.size, 0, none⟩ = false := by rw [World.frozen?_of_block (w := wr) bA]; exact d0
      have g1 : w4.frozen? ⟨w.heap.size, 1, none⟩ = false := by rw [World.frozen?_of_block (w := wr) bA]; exact d1
      have g2 : w4.frozen? ⟨w.heap.size + 1, 0, none⟩ = false := by rw [World.frozen?_of_block (w := wr) bB]; exact f0
      have g3 : w4.frozen? ⟨w.heap.size + 1, 1, none⟩ = false := by rw [World.frozen?_of_block (w := wr) bB]; exact f1
      have hk1000 : k ≤ 1000 := by omega
      clear hown4 hb4 k4 bA bB a0 a1 b0 b1 d0 d1 f0 f1 HO HB HS hcx hx
      go_wp2_with (at_builtin; refine wpList_append_own _ rfl _ _ 30 rfl (w.heap.size + 2) 5 i1 _ 1 1 Tryd.underlying30 hj hy0 hy1 hy2 rfl (by decide) _ _ _ rfl HO4.out ⟨g4, 0, none⟩ 4 q4 ((bytesTo z 4).map (Value.int .u8)) rfl (by simp [bytesTo_len]) HK4.out ?c2 ?c3 ?c4 HS4.out ?_)
      case c2 => intro u hu; obtain ⟨y, _, rfl⟩ := List.mem_map.1 hu; rfl
      case c3 => unfold maxLen; omega
      case c4 => omega
      intro v' w5 hown' hgrow _
      have HN : Hid (∀ n, v.ownBlock = some n → w.heap.size + 2 ≤ n) := fun n hn => (HO4.out.lt n hn).1
      have hs5 := hgrow.size
      have kp : ∀ n, n < w.heap.size + 2 → w5.heap[n]? = w4.heap[n]? := fun n hn => hgrow.block n (by have := HS4.out; omega) (fun h => by have := HN.out n h.symm; omega)
      have kA := kp w.heap.size (by omega)
      have kB := kp (w.heap.size + 1) (by omega)
      have HB5 : Hid (Below w.heap.size w w5) := HB4.out.grown hgrow HB4.out.size (fun j hj => by have := HN.out j hj; omega)
      obtain ⟨g5, c5, rfl⟩ := ownsRow_succ (k := k * 4 + 3) hown'
      have HO5 : Hid (w5.ownsRow (w.heap.size + 2) tyB 1 (.slice (some ⟨g5, 0, none⟩) (k * 4 + 3 + 1) c5) ((k + 1) * 4) (bv (wbL zs (k + 1)))) := by
        rw [HWS.out, ← bytes_map]
        have e : (k + 1) * 4 = k * 4 + 4 := by omega
        rw [e]
        exact hown'
      have h0 : w5.cell? ⟨w.heap.size, 0, none⟩ = some (.int .u32 0) := (World.cell?_of_block kA).trans e0
      have h1 : w5.cell? ⟨w.heap.size, 1, none⟩ = some (.slice none 0 0) := (World.cell?_of_block kA).trans e1
      have h2 : w5.cell? ⟨w.heap.size + 1, 0, none⟩ = some (.int .u32 at_) := (World.cell?_of_block kB).trans e2
      have h3 : w5.cell? ⟨w.heap.size + 1, 1, none⟩ = some v := (World.cell?_of_block kB).trans e3
      have z0 : w5.frozen? ⟨w.heap.size, 0, none⟩ = false := (World.frozen?_of_block kA).trans g0
      have z1 : w5.frozen? ⟨w.heap.size, 1, none⟩ = false := (World.frozen?_of_block kA).trans g1
      have z2 : w5.frozen? ⟨w.heap.size + 1, 0, none⟩ = false := (World.frozen?_of_block kB).trans g2
      have z3 : w5.frozen? ⟨w.heap.size + 1, 1, none⟩ = false := (World.frozen?_of_block kB).trans g3
      have HS5 : Hid (w.heap.size + 2 ≤ w5.heap.size) := Nat.le_trans HS4.out hs5
      clear hown' hgrow kp kA kB e0 e1 e2 e3 g0 g1 g2 g3 HN hs5
      go_wp2
      go_roundw
      case rel =>
        have far : ∀ a : Addr, a ≠ ⟨w.heap.size + 1, 1, none⟩ → (w5.setCell ⟨w.heap.size + 1, 1, none⟩ (.slice (some ⟨g5, 0, none⟩) (k * 4 + 3 + 1) c5)).cell? a = w5.cell? a := fun a ha => World.cell?_setCell_other w5 _ _ _ (fun h => ha h.symm)
        refine ⟨k + 1, _, by omega, by go_num, (far _ (by intro h; have := congrArg Addr.block h; simp at this)).trans h0, (far _ (by intro h; have := congrArg Addr.block h; simp at this)).trans h1, (World.frozen?_setCell _ _ _ _).trans z0, (World.frozen?_setCell _ _ _ _).trans z1,
          (far _ (by intro h; have := congrArg Addr.off h; simp at this)).trans h2, World.cell?_setCell_same w5 _ _ h3, (World.frozen?_setCell _ _ _ _).trans z2, (World.frozen?_setCell _ _ _ _).trans z3, ?_, ?_, HB5.out.setCell (p := ⟨w.heap.size + 1, 1, none⟩) (by simp) _⟩
        · show _ ≤ _
          simpa using HS5.out
        · exact HO5.out.kept (row := some (w.heap.size + 1)) (grown_cell _ _ _ _) (.inr (by have := (HO5.out.lt g5 rfl).1; intro h; simp [Value.ownBlock] at h; omega))
      case measure => simp [intOf]; omega
    · obtain rfl : k = len := by omega
      have a1' : (wr.setCell ⟨w.heap.size, 0, none⟩ (.int .u32 at_)).cell? ⟨w.heap.size, 1, none⟩ = some (.slice none 0 0) := (World.cell?_setCell_other wr _ _ _ (by intro h; have := congrArg Addr.off h; simp at this)).trans a1
      have d1' : (wr.setCell ⟨w.heap.size, 0, none⟩ (.int .u32 at_)).frozen? ⟨w.heap.size, 1, none⟩ = false := (World.frozen?_setCell _ _ _ _).trans d1
      obtain ⟨av, cv, rfl⟩ : ∃ av cv, v = .slice av (k * 4) cv := by
        rcases HO.out.2 with ⟨rfl, h0⟩ | ⟨g, cap, cur, rfl, _⟩
        · exact ⟨none, 0, by rw [h0]⟩
        · exact ⟨_, _, rfl⟩
      have m0 : ((wr.setCell ⟨w.heap.size, 0, none⟩ (.int .u32 at_)).setCell ⟨w.heap.size, 1, none⟩ (.slice av (k * 4) cv)).cell? ⟨w.heap.size, 0, none⟩ = some (.int .u32 at_) := (World.cell?_setCell_other _ _ _ _ (by intro h; have := congrArg Addr.off h; simp at this)).trans (World.cell?_setCell_same wr _ _ a0)
      have m1 : ((wr.setCell ⟨w.heap.size, 0, none⟩ (.int .u32 at_)).setCell ⟨w.heap.size, 1, none⟩ (.slice av (k * 4) cv)).cell? ⟨w.heap.size, 1, none⟩ = some (.slice av (k * 4) cv) := World.cell?_setCell_same (wr.setCell ⟨w.heap.size, 0, none⟩ (.int .u32 at_)) _ _ a1'
      have HBF : Hid (Below w.heap.size w ((wr.setCell ⟨w.heap.size, 0, none⟩ (.int .u32 at_)).setCell ⟨w.heap.size, 1, none⟩ (.slice av (k * 4) cv))) := (HB.out.setCell (p := ⟨w.heap.size, 0, none⟩) (Nat.le_refl _) _).setCell (p := ⟨w.heap.size, 1, none⟩) (Nat.le_refl _) _
      have HOF : Hid (((wr.setCell ⟨w.heap.size, 0, none⟩ (.int .u32 at_)).setCell ⟨w.heap.size, 1, none⟩ (.slice av (k * 4) cv)).ownsRow (w.heap.size + 2) tyB 1 (.slice av (k * 4) cv) (k * 4) (bv (wbL zs k))) := by
        have hne : ∀ n, (Value.slice av (k * 4) cv).ownBlock = some n → n ≠ w.heap.size := fun n hn => by have := (HO.out.lt n hn).1; omega
        have hn : (Value.slice av (k * 4) cv).ownBlock = none ∨ (Value.slice av (k * 4) cv).ownBlock ≠ some w.heap.size := by
          cases q : (Value.slice av (k * 4) cv).ownBlock with
          | none => exact .inl rfl
          | some n => exact .inr (fun h => hne n q (by injection h))
        exact (HO.out.kept (row := some w.heap.size) (grown_cell _ _ _ _) hn).kept (row := some w.heap.size) (grown_cell _ _ _ _) hn
      go_wp2
      try simp only [Exit.inBlock, Exit.then]
      refine bodyPost_ret (v := .agg #[.int .u32 at_, .slice av (k * 4) cv]) (by simp [results, Tryd.results23, go_sem, m0, m1]) rfl ⟨_, rfl, own_mono HOF.out (by omega), HBF.out⟩
end Go.Proofs.YtcigceaadkjenaaDoor

namespace Go.Proofs.YtcigceaadkjenaaDoor.imageWords
open Go.RowKit
set_option linter.unusedVariables false
set_option linter.unusedSimpArgs false
set_option maxRecDepth 100000

theorem rdB_own {w : World} {base : Nat} {v : Value} {n : Nat} {l : List Int} (h : w.ownsRow base tyB 1 v n (bv l)) : RdB w v l := by
  have hn : n = l.length := by have := h.1; simp [bv] at this; omega
  subst hn
  exact rdB_of_own h

set_option maxHeartbeats 4000000 in
theorem few (at_ : Int) (a : Option Addr) (len cap : Nat) (zs : List Int) (w : World) (h : IsRow .u32 w a len cap zs) (hl : len ≤ 1000) (tu : U8Tab w) :
    Calls Tryd.prog 6 #[.int .u32 at_, .slice a len cap] w fun e w' => e = .returned (.bool true) ∧ Below w.heap.size w w' := by
  obtain ⟨i1, hj, hy0, hy1, hy2⟩ := info_parts info_byte
  have HAW : Hid (∀ V, Below w.heap.size w V → Calls Tryd.prog 9 #[] V fun e w' => e = .returned (.bool true) ∧ Below V.heap.size V w') := fun V hV => awake15_any V (u8Tab_below tu hV)
  have HW := Lib.hid (words_any at_ a len cap zs w h hl)
  have HR := Lib.hid h
  clear h tu
  go_enter Tryd.func6, Tryd.ntmps6
  go_wp2_with fail
  refine HW.out.mono ?_
  rintro e w1 ⟨v, rfl, hown, hb⟩
  obtain ⟨av, cv, rfl⟩ : ∃ av cv, v = .slice av (len * 4) cv := by
    rcases hown.2 with ⟨rfl, h0⟩ | ⟨g, cap, cur, rfl, _⟩
    · exact ⟨none, 0, by rw [h0]⟩
    · exact ⟨_, _, rfl⟩
  obtain ⟨W, hW⟩ : ∃ W, w1.alloc (.cells #[.int .u32 at_, .slice av (len * 4) cv] 51) = W := ⟨_, rfl⟩
  have HBW : Hid (Below w.heap.size w W) := by rw [← hW]; exact hb.alloc hb.size _
  have HV : Hid (RdB W (.slice av (len * 4) cv) (wbL zs len)) := by
    rw [← hW]
    exact (rdB_own hown).on ((Below.refl _ _).alloc (Nat.le_refl _) _)
  have c0 : W.cell? ⟨w1.heap.size, 0, none⟩ = some (.int .u32 at_) := by rw [← hW]; simp
  have c1 : W.cell? ⟨w1.heap.size, 1, none⟩ = some (.slice av (len * 4) cv) := by rw [← hW]; simp
  clear hown hb HW
  go_wp2
  go_loopw [6, 7] (fun b i wr => ∃ k : Nat, k ≤ len ∧ i = .int .i64 (k : Int) ∧ Hid (wr.ownsRow W.heap.size tyB 1 b (k * 4) (bv (wbL zs k))) ∧ Hid (Below W.heap.size W wr)) (fun _ i _ => len - (intOf i).toNat)
  case atStart => exact ⟨0, Nat.zero_le _, rfl, World.ownsRow_lit W #[] 0 (Nat.le_refl _) (by decide) rfl, (Below.refl _ _).alloc (Nat.le_refl _) _⟩
  case round =>
    obtain ⟨k, hk, rfl, HO, HB⟩ := hrel
    by_cases hlt : k < len
    · obtain ⟨x, rfl, hkz, hx, z0, z1⟩ := row_u32 HR.out hlt
      have hcx : wr.cell? (x.add k) = some (.int .u32 (zs.getD k 0)) := by
        have h1 := HBW.out.cell (World.block_lt_of_cell? w _ hx)
        rw [HB.out.cell (World.block_lt_of_cell? W _ (h1.trans hx))]
        exact h1.trans hx
      have HWS := Lib.hid (wbL_succ zs k hkz)
      have HBY : Hid (∀ V : World, _) := fun V => rbytes_any (zs.getD k 0) 4 V z0 z1 (by decide)
      generalize zs.getD k 0 = z at *
      go_wp2_with fail
      refine (HBY.out _).mono ?_
      rintro e w4 ⟨v4, rfl, hown4, hb4⟩
      obtain ⟨g4, q4, rfl⟩ := owned_some hown4 (by decide)
      have HK4 : Hid (∀ (j : Nat) (u : Value), ((bytesTo z 4).map (Value.int .u8))[j]? = some u → w4.cell? ((⟨g4, 0, none⟩ : Addr).add j) = some u) := fun j u hj => by
        have hj4 : j < 4 := by
          rcases Nat.lt_or_ge j 4 with h | h
          · exact h
          · rw [List.getElem?_eq_none (by simp [bytesTo_len]; omega)] at hj; cases hj
        rw [add_plain, Nat.zero_add, hown4.cellAt j (by omega)]
        exact hj
      have HO4 := Lib.hid (own_on HO.out hb4)
      have HB4 : Hid (Below W.heap.size W w4) := HB.out.trans (hb4.mono HB.out.size)
      have hk1000 : k ≤ 1000 := by omega
      clear hown4 hb4 HO HB hcx hx
      go_wp2_with (at_builtin; refine wpList_append_own _ rfl _ _ 30 rfl W.heap.size 5 i1 _ 1 1 Tryd.underlying30 hj hy0 hy1 hy2 rfl (by decide) _ _ _ rfl HO4.out ⟨g4, 0, none⟩ 4 q4 ((bytesTo z 4).map (Value.int .u8)) rfl (by simp [bytesTo_len]) HK4.out ?c2 ?c3 ?c4 HB4.out.size ?_)
      case c2 => intro u hu; obtain ⟨y, _, rfl⟩ := List.mem_map.1 hu; rfl
      case c3 => unfold maxLen; omega
      case c4 => omega
      intro v' w5 hown' hgrow _
      have HB5 : Hid (Below W.heap.size W w5) := HB4.out.grown hgrow HB4.out.size (fun j hj => (HO4.out.lt j hj).1)
      have HO5 : Hid (w5.ownsRow W.heap.size tyB 1 v' ((k + 1) * 4) (bv (wbL zs (k + 1)))) := by
        rw [HWS.out, ← bytes_map]
        have e : (k + 1) * 4 = k * 4 + 4 := by omega
        rw [e]
        exact hown'
      clear hown' hgrow
      go_wp2
      go_roundw
      case rel => exact ⟨k + 1, by omega, by go_num, HO5, HB5⟩
      case measure => simp [intOf]; omega
    · obtain rfl : k = len := by omega
      have d0 : wr.cell? ⟨w1.heap.size, 0, none⟩ = some (.int .u32 at_) := (HB.out.cell (World.block_lt_of_cell? W _ c0)).trans c0
      have d1 : wr.cell? ⟨w1.heap.size, 1, none⟩ = some (.slice av (k * 4) cv) := (HB.out.cell (World.block_lt_of_cell? W _ c1)).trans c1
      have HS := Lib.hid (sameB_any (l := wbL zs k) (w := wr) (by have := HO.out.1; simp [bv] at this; unfold maxLen; omega) (HV.out.on HB.out) (rdB_own HO.out))
      have HBw : Hid (Below w.heap.size w wr) := HBW.out.trans (HB.out.mono HBW.out.size)
      clear HB HO
      go_wp2_with (first
        | (go_at_call 16; refine HS.out.mono ?_; rintro e w4 ⟨rfl, m, rfl⟩; have HBm : Hid (Below w.heap.size w (wr.drewN m)) := HBw.out.trans (Q.below ⟨m, rfl⟩ _); clear HS)
        | (go_at_call 9; refine (HAW.out _ HBm.out).mono ?_; rintro e w5 ⟨rfl, hb5⟩; have HB5 := Lib.hid hb5; clear hb5))
      go_ret
      exact ⟨rfl, HBm.out.trans (HB5.out.mono HBm.out.size)⟩

set_option maxHeartbeats 4000000 in
theorem walk (at_ : Int) (a : Option Addr) (len cap : Nat) (zs : List Int) (w : World) (w0 : (Lit.int .u32 at_).wf = true) (h : IsRow .u32 w a len cap zs) (tu : U8Tab w) :
    Calls Tryd.prog 6 #[.int .u32 at_, .slice a len cap] w fun e w' => e = .returned (.bool true) ∧ Below w.heap.size w w' := by
  by_cases hl : len ≤ 1000
  · exact few at_ a len cap zs w h hl tu
  · have hgt : (1000 : Int) < (len : Int) := by omega
    have HAW := Lib.hid (awake15_any w tu)
    clear tu hl
    go_enter Tryd.func6, Tryd.ntmps6
    go_wp2_with fail
    refine HAW.out.mono ?_
    rintro e w3 ⟨rfl, hb3⟩
    go_wp2
    go_ret
    exact ⟨rfl, hb3⟩
end Go.Proofs.YtcigceaadkjenaaDoor.imageWords
