/- Layer 9: Find, Number, Legal, isFast. -/
import Derived.Test.YtibhlbggnkobeaaDoorMaskSearch
import Derived.Lib.Hide
namespace Go.Proofs.YtibhlbggnkobeaaDoor
open Go.RowKit
set_option linter.unusedVariables false

theorem mfast_bits : ∀ k, k < 23 → (bits .and .i64 (mnum k) 3072 == 3072) = mfast k := by decide +kernel

set_option maxHeartbeats 400000 in
theorem isFast_any (k : Nat) (hk : k < 23) (w : World) :
    Calls Tryd.prog 29 #[.int .i64 (mnum k)] w fun e w' => e = .returned (.bool (mfast k)) ∧ w' = w := by
  have HF : Hid _ := mfast_bits k hk
  generalize mnum k = n at *
  go_enter Tryd.func29, Tryd.ntmps29
  go_wp2
  go_ret
  exact ⟨ret_bool HF.out.symm, rfl⟩

theorem num_ne {k : Nat} {c : Int} (h : mnum k ≠ c) : (mnum k == c) = false := by simpa using h

theorem fresh4r (w wr : World) (v0 v1 v2 v3 : Value) (hb : Below (w.alloc (.cells #[v0, v1, v2, v3] 51)).heap.size (w.alloc (.cells #[v0, v1, v2, v3] 51)) wr) :
    wr.heap[w.heap.size]? = some (.cells #[v0, v1, v2, v3] 51 (0, 0)) := by
  rw [hb.block w.heap.size (by simp)]
  show (w.heap.push _)[w.heap.size]? = _
  simp

theorem at_new {u : World} {cs : Array Value} {t : TypeId} {B i : Nat} {v : Value} (hB : u.heap.size = B) (hv : cs[i]? = some v) : (u.alloc (.cells cs t)).drew.cell? ⟨B, i, none⟩ = some v := by
  subst hB
  show (u.alloc (.cells cs t)).cell? ⟨u.heap.size, i, none⟩ = some v
  rw [World.cell?_alloc_at _ _ _ _ rfl]; exact hv
theorem four_set {base : Nat} {w w' : World} {B : Nat} {a b c d : Value} (h : Below base w w') (hB : base ≤ B) : Below base w ((((w'.setCell ⟨B, 0, none⟩ a).setCell ⟨B, 1, none⟩ b).setCell ⟨B, 2, none⟩ c).setCell ⟨B, 3, none⟩ d) :=
  (((h.setCell (p := ⟨B, 0, none⟩) hB _).setCell (p := ⟨B, 1, none⟩) hB _).setCell (p := ⟨B, 2, none⟩) hB _).setCell (p := ⟨B, 3, none⟩) hB _

theorem four_al {base : Nat} {w w' : World} {B : Nat} {a b c d : Value} (h : Below base w w') (hB : base ≤ B) (o : Obj) (hs : base ≤ w'.heap.size) : Below base w (((((w'.setCell ⟨B, 0, none⟩ a).setCell ⟨B, 1, none⟩ b).setCell ⟨B, 2, none⟩ c).setCell ⟨B, 3, none⟩ d).alloc o) :=
  (four_set h hB).alloc (by simpa using hs) _

set_option maxHeartbeats 1000000 in
theorem find_no (c : Int) (w : World) (h : ∀ k, k < 23 → mnum k ≠ c) (ht : RegTab w) :
    Calls Tryd.prog 16 #[.int .i64 c] w fun e w' => e = .returned (.tuple #[.agg #[.string ⟨#[]⟩, .int .u32 0, .int .u32 0, .bool false], .int .i64 8]) ∧ Below w.heap.size w w' := by
  have HN : Hid (∀ k, k < 23 → mnum k ≠ c) := h
  have hW0 : Below w.heap.size w ((w.alloc (.cells #[.int .i64 c] 3)).alloc (.cells #[.string ⟨#[]⟩, .int .u32 0, .int .u32 0, .bool false] 51)) := ((Below.refl _ _).alloc (Nat.le_refl _) _).alloc (by simp) _
  have hT : Hid (RegTab ((w.alloc (.cells #[.int .i64 c] 3)).alloc (.cells #[.string ⟨#[]⟩, .int .u32 0, .int .u32 0, .bool false] 51))) := ht.on hW0
  have hC : Hid (((w.alloc (.cells #[.int .i64 c] 3)).alloc (.cells #[.string ⟨#[]⟩, .int .u32 0, .int .u32 0, .bool false] 51)).cell? ⟨w.heap.size, 0, none⟩ = some (.int .i64 c)) := by
    show _ = _
    simp
  have hR : Hid (∀ wr, Below ((w.alloc (.cells #[.int .i64 c] 3)).alloc (.cells #[.string ⟨#[]⟩, .int .u32 0, .int .u32 0, .bool false] 51)).heap.size ((w.alloc (.cells #[.int .i64 c] 3)).alloc (.cells #[.string ⟨#[]⟩, .int .u32 0, .int .u32 0, .bool false] 51)) wr → wr.heap[w.heap.size + 1]? = some (.cells #[.string ⟨#[]⟩, .int .u32 0, .int .u32 0, .bool false] 51 (0, 0)) ∧ w.heap.size + 1 < wr.heap.size) := fun wr hb => by
    have h1 := fresh4r (w.alloc (.cells #[.int .i64 c] 3)) wr _ _ _ _ hb
    have h2 := hb.size
    simp only [World.size_alloc] at h1 h2
    exact ⟨h1, by omega⟩
  clear ht h
  go_enter Tryd.func16, Tryd.ntmps16
  go_wp2_with fail
  generalize ((w.alloc (.cells #[.int .i64 c] 3)).alloc (.cells #[.string ⟨#[]⟩, .int .u32 0, .int .u32 0, .bool false] 51)) = W at *
  refine (search_no _ _ _ _ (fun k hk => num_ne (HN.out k hk)) (looks_num c _ _ hC.out) hT.out).mono ?_
  rintro e w2 ⟨rfl, hb⟩
  obtain ⟨q, hlt⟩ := hR.out w2 hb
  obtain ⟨⟨g0, g1, g2, g3⟩, z0, z1, z2, z3⟩ := four_cells q
  have HB : Hid (Below w.heap.size w w2) := hW0.trans (hb.mono hW0.size)
  clear hb q hW0
  go_wp2
  refine bodyPost_ret (v := .tuple #[.agg #[.string ⟨#[]⟩, .int .u32 0, .int .u32 0, .bool false], .int .i64 8]) (by simp [results, Tryd.results16, go_sem, g0, g1, g2, g3, hlt]) rfl ⟨rfl, ?_⟩
  exact four_al HB.out (Nat.le_succ _) _ HB.out.size

set_option maxHeartbeats 2000000 in
theorem find_yes (k : Nat) (w : World) (hk : k < 23) (ht : RegTab w) :
    Calls Tryd.prog 16 #[.int .i64 (mnum k)] w fun e w' => e = .returned (.tuple #[.agg #[.string (mname k), .int .u32 (mkept k), .int .u32 (mfix k), .bool (mfast k)], .int .i64 0]) ∧ Below w.heap.size w w' := by
  have HS : Hid (∀ W : World, ∀ B, W.cell? ⟨B, 0, none⟩ = some (.int .i64 (mnum k)) → RegTab W → Calls Tryd.prog 27 #[.func (.func 28) #[] #[.pointer (some ⟨B, 0, none⟩)]] W fun e w' => e = .returned (.tuple #[.agg #[.int .i64 (mnum k), .string (mname k), .int .u32 (mkept k), .int .u32 (mfix k)], .int .i64 0]) ∧ Below W.heap.size W w') := fun W B hc ht =>
    search_yes k _ _ _ W hk (by simp) (fun j hj => num_ne (mnum_apart k hk j hj)) (looks_num (mnum k) B W hc) ht
  have HF : Hid (∀ W : World, Calls Tryd.prog 29 #[.int .i64 (mnum k)] W fun e w' => e = .returned (.bool (mfast k)) ∧ w' = W) := isFast_any k hk
  generalize mnum k = c at *
  generalize mname k = s at *
  generalize mkept k = x at *
  generalize mfix k = y at *
  generalize mfast k = f at *
  have hW0 : Below w.heap.size w ((w.alloc (.cells #[.int .i64 c] 3)).alloc (.cells #[.string ⟨#[]⟩, .int .u32 0, .int .u32 0, .bool false] 51)) := ((Below.refl _ _).alloc (Nat.le_refl _) _).alloc (by simp) _
  have hT : Hid (RegTab ((w.alloc (.cells #[.int .i64 c] 3)).alloc (.cells #[.string ⟨#[]⟩, .int .u32 0, .int .u32 0, .bool false] 51))) := ht.on hW0
  have hC : Hid (((w.alloc (.cells #[.int .i64 c] 3)).alloc (.cells #[.string ⟨#[]⟩, .int .u32 0, .int .u32 0, .bool false] 51)).cell? ⟨w.heap.size, 0, none⟩ = some (.int .i64 c)) := by
    show _ = _
    simp
  have hR : Hid (∀ wr, Below ((w.alloc (.cells #[.int .i64 c] 3)).alloc (.cells #[.string ⟨#[]⟩, .int .u32 0, .int .u32 0, .bool false] 51)).heap.size ((w.alloc (.cells #[.int .i64 c] 3)).alloc (.cells #[.string ⟨#[]⟩, .int .u32 0, .int .u32 0, .bool false] 51)) wr → wr.heap[w.heap.size + 1]? = some (.cells #[.string ⟨#[]⟩, .int .u32 0, .int .u32 0, .bool false] 51 (0, 0)) ∧ w.heap.size + 1 < wr.heap.size) := fun wr hb => by
    have h1 := fresh4r (w.alloc (.cells #[.int .i64 c] 3)) wr _ _ _ _ hb
    have h2 := hb.size
    simp only [World.size_alloc] at h1 h2
    exact ⟨h1, by omega⟩
  clear ht
  go_enter Tryd.func16, Tryd.ntmps16
  go_wp2_with fail
  generalize ((w.alloc (.cells #[.int .i64 c] 3)).alloc (.cells #[.string ⟨#[]⟩, .int .u32 0, .int .u32 0, .bool false] 51)) = W at *
  refine (HS.out W _ hC.out hT.out).mono ?_
  rintro e w2 ⟨rfl, hb⟩
  obtain ⟨q, hlt⟩ := hR.out w2 hb
  obtain ⟨⟨g0, g1, g2, g3⟩, z0, z1, z2, z3⟩ := four_cells q
  have HB : Hid (Below w.heap.size w w2) := hW0.trans (hb.mono hW0.size)
  clear hb q hW0
  have hne : w2.heap.size ≠ w.heap.size + 1 := by omega
  have hne' : w.heap.size + 1 ≠ w2.heap.size := by omega
  have e0 : (w2.alloc (.cells #[.int .i64 c, .string s, .int .u32 x, .int .u32 y] 66)).cell? ⟨w2.heap.size, 0, none⟩ = some (.int .i64 c) := by simp
  have e1 : (w2.alloc (.cells #[.int .i64 c, .string s, .int .u32 x, .int .u32 y] 66)).cell? ⟨w2.heap.size, 1, none⟩ = some (.string s) := by simp
  have e2 : (w2.alloc (.cells #[.int .i64 c, .string s, .int .u32 x, .int .u32 y] 66)).cell? ⟨w2.heap.size, 2, none⟩ = some (.int .u32 x) := by simp
  have e3 : (w2.alloc (.cells #[.int .i64 c, .string s, .int .u32 x, .int .u32 y] 66)).cell? ⟨w2.heap.size, 3, none⟩ = some (.int .u32 y) := by simp
  go_wp2_with fail
  go_region_held3 (fun w' => w'.cell? ⟨w2.heap.size, 0, none⟩ = some (.int .i64 c) ∧ w'.cell? ⟨w2.heap.size, 1, none⟩ = some (.string s) ∧ w'.cell? ⟨w2.heap.size, 2, none⟩ = some (.int .u32 x) ∧ w'.cell? ⟨w2.heap.size, 3, none⟩ = some (.int .u32 y)) (first | (go_keep; done) | (refine ⟨?_, ?_, ?_, ?_⟩ <;> exact at_new (by simp) rfl))
    (first | (go_at_call 29; refine (HF.out _).mono ?_; rintro e w3 ⟨rfl, hw⟩; subst hw))
  all_goals go_wp2
  refine bodyPost_ret (v := .tuple #[.agg #[.string s, .int .u32 x, .int .u32 y, .bool f], .int .i64 0]) (by simp [results, Tryd.results16, go_sem, g0, g1, g2, g3, hlt]) rfl ⟨rfl, ?_⟩
  exact (four_al HB.out (Nat.le_succ _) _ HB.out.size).drew

theorem name_ne {k : Nat} {s : ByteArray} (h : mname k ≠ s) : ((mname k).toList == s.toList) = false := by
  rw [beq_eq_false_iff_ne, ByteArray.toList_eq, ByteArray.toList_eq]
  intro e
  apply h
  generalize mname k = a at *
  obtain ⟨⟨x⟩⟩ := a
  obtain ⟨⟨y⟩⟩ := s
  simp at e
  rw [e]

set_option maxHeartbeats 1000000 in
theorem legal_no (c x : Int) (w : World) (h : ∀ k, k < 23 → mnum k ≠ c) (ht : RegTab w) :
    Calls Tryd.prog 24 #[.int .i64 c, .int .u32 x] w fun e w' => e = .returned (.tuple #[.int .u32 0, .int .i64 8]) ∧ Below w.heap.size w w' := by
  have HF : Hid _ := find_no c w h ht
  clear ht h
  go_enter Tryd.func24, Tryd.ntmps24
  go_wp2_with fail
  refine Calls.mono (Hid.out HF) ?_
  rintro e w2 ⟨rfl, hb⟩
  have HB := Lib.hid hb
  clear hb
  go_wp2
  go_ret2
  exact ⟨rfl, HB.out.alloc HB.out.size _⟩

set_option maxHeartbeats 1000000 in
theorem legal_yes (k : Nat) (x : Int) (w : World) (hk : k < 23) (x0 : 0 ≤ x) (x1 : x < 4294967296) (ht : RegTab w) :
    Calls Tryd.prog 24 #[.int .i64 (mnum k), .int .u32 x] w fun e w' => e = .returned (.tuple #[.int .u32 (mlegal k x), .int .i64 0]) ∧ Below w.heap.size w w' := by
  have HF : Hid _ := find_yes k w hk ht
  have HV : Hid (bits .or .u32 (bits .and .u32 x (mkept k)) (mfix k) = mlegal k x) := rfl
  clear ht
  generalize mlegal k x = v at *
  generalize mnum k = c at *
  generalize mname k = s at *
  generalize mkept k = p at *
  generalize mfix k = q at *
  generalize mfast k = f at *
  go_enter Tryd.func24, Tryd.ntmps24
  go_wp2_with fail
  refine Calls.mono (Hid.out HF) ?_
  rintro e w2 ⟨rfl, hb⟩
  have HB := Lib.hid hb
  clear hb
  go_wp2
  go_ret2
  exact ⟨by rw [HV.out]; rfl, HB.out.alloc HB.out.size _⟩

theorem mwrites_yes {op : Int} (h : op = 42 ∨ op = 45) (rs1 imm : Int) : mwrites op rs1 imm = true := by simp [mwrites, h]
end Go.Proofs.YtibhlbggnkobeaaDoor
