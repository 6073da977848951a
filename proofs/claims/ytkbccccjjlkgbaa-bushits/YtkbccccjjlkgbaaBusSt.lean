/- Layer 14: a bus with its parts; its state as numbers. -/
import Derived.Test.YtkbccccjjlkgbaaBusDevice
namespace Go.Proofs.Ytkbccccjjlkgbaa
open Go.RowKit
set_option linter.unusedVariables false
set_option linter.unusedSimpArgs false
set_option maxRecDepth 100000

/-- Bytes, watches, generations; the console; the timer's offset, mark and call; is the power off, and the code. -/
structure BS where
  b : Nat → Int
  wa : Nat → Bool
  g : Nat → Int
  s : CS
  o : Int
  m : Int
  sf : Bool
  off : Bool
  code : Int
/-- What lies at an address of memory, as a place. -/
def plZ (addr : Int) : Nat := (addr - 2147483648).toNat
/-- What a load answers, and what it leaves. -/
def BS.ldV (x : BS) (K : Nat) (addr n k : Int) : Int :=
  if askZ K addr n = 0 then numTo (fun i => x.b (plZ addr + i)) n.toNat else if addr = 1048576 then 0 else if hasT addr = true then readT x.o x.m x.sf addr k else x.s.val (addr - 268435456)
def BS.ldS (x : BS) (K : Nat) (addr n : Int) : BS :=
  if askZ K addr n = 0 then x else if addr = 1048576 then x else if hasT addr = true then x else { x with s := x.s.rd (addr - 268435456) }
/-- What a store leaves. -/
def BS.stM (x : BS) (addr n v : Int) : BS := { x with b := bput x.b (plZ addr) n.toNat (byteAt v), wa := wHit x.wa (plZ addr / 64), g := gHit x.wa x.g (plZ addr / 64) }
def BS.st (x : BS) (K : Nat) (addr n v k : Int) : BS :=
  if askZ K addr n = 0 then x.stM addr n v else if addr = 1048576 then { x with off := true, code := v } else if hasT addr = true then { x with o := wO x.o addr v k, m := wM x.m addr v, sf := wS x.sf addr v } else { x with s := x.s.wr (addr - 268435456) v }
def BS.hit (x : BS) (K : Nat) (addr n : Int) : Bool := decide (askZ K addr n = 0) && x.wa (plZ addr / 64)
def BS.up (x : BS) (len : Nat) (T Y : Nat → Int) (t : Int) : BS := { x with s := x.s.up len T Y t }

section
variable {x : BS} {K : Nat} {addr n v k : Int}
theorem BS.ldV_mem (h : askZ K addr n = 0) : x.ldV K addr n k = numTo (fun i => x.b (plZ addr + i)) n.toNat := by simp [BS.ldV, h]
theorem BS.ldS_mem (h : askZ K addr n = 0) : x.ldS K addr n = x := by simp [BS.ldS, h]
theorem BS.st_mem (h : askZ K addr n = 0) : x.st K addr n v k = x.stM addr n v := by simp [BS.st, h]
theorem BS.hit_mem (h : askZ K addr n = 0) : x.hit K addr n = x.wa (plZ addr / 64) := by simp [BS.hit, h]
theorem BS.hit_dev (h : askZ K addr n ≠ 0) : x.hit K addr n = false := by simp [BS.hit, h]
theorem BS.ld_port : x.ldV K 1048576 4 k = 0 ∧ x.ldS K 1048576 4 = x ∧ x.st K 1048576 4 v k = { x with off := true, code := v } := by
  have h : askZ K 1048576 4 = 6 := dev_ask (by decide)
  simp [BS.ldV, BS.ldS, BS.st, h]
theorem BS.ld_tim (ha : hasT addr = true) : x.ldV K addr 4 k = readT x.o x.m x.sf addr k ∧ x.ldS K addr 4 = x ∧ x.st K addr 4 v k = { x with o := wO x.o addr v k, m := wM x.m addr v, sf := wS x.sf addr v } := by
  have h : askZ K addr 4 = 6 := dev_ask (by simp [devB, ha])
  have hp : addr ≠ 1048576 := by rintro rfl; exact absurd ha (by decide)
  simp [BS.ldV, BS.ldS, BS.st, h, hp, ha]
theorem BS.ld_con (ha : addr = 268435456 ∨ addr = 268435460) : x.ldV K addr 4 k = x.s.val (addr - 268435456) ∧ x.ldS K addr 4 = { x with s := x.s.rd (addr - 268435456) } ∧ x.st K addr 4 v k = { x with s := x.s.wr (addr - 268435456) v } := by
  have h : askZ K addr 4 = 6 := by rcases ha with rfl | rfl <;> exact dev_ask (by decide)
  have hp : addr ≠ 1048576 := by omega
  have ht : hasT addr = false := by rcases ha with rfl | rfl <;> decide
  simp [BS.ldV, BS.ldS, BS.st, h, hp, ht]
end

/-- The blocks of a bus and its parts. -/
def Fp (B R P A : Nat) (S : Nat → Prop) (k : Nat) : Prop := k = B ∨ k = R ∨ k = P ∨ k = A ∨ S k
def IsBus (w : World) (B R P C A K : Nat) (S : Nat → Prop) (Kc : Nat) (T Y : Nat → Int) (x : BS) : Prop :=
  BusC w B R C A x.off x.code ∧ IsRam w R P K x.b x.wa x.g ∧ IsCon w C S Kc T Y x.s ∧ IsTim w A x.o x.m x.sf ∧ (B ≠ R ∧ B ≠ P ∧ B ≠ A ∧ R ≠ A ∧ P ≠ A) ∧ (¬ S B ∧ ¬ S R ∧ ¬ S P ∧ ¬ S A)

section
variable {w w' : World} {B R P C A K Kc : Nat} {S S' : Nat → Prop} {T Y : Nat → Int} {x : BS}
theorem IsBus.keep (h : IsBus w B R P C A K S Kc T Y x) (hs : w.heap.size ≤ w'.heap.size) (hb : ∀ k, k < w.heap.size → Fp B R P A S k → w'.heap[k]? = w.heap[k]?) : IsBus w' B R P C A K S Kc T Y x := by
  obtain ⟨h1, ⟨hne, hR, cs, hP, hc⟩, h3, h4, h5, h6⟩ := h
  refine ⟨h1.keep (hb B h1.lt (.inl rfl)), ⟨hne, by rw [hb R (Array.getElem?_eq_some_iff.1 hR).1 (.inr (.inl rfl))]; exact hR, cs, by rw [hb P (Array.getElem?_eq_some_iff.1 hP).1 (.inr (.inr (.inl rfl)))]; exact hP, hc⟩, h3.keep hs (fun k hk hS => hb k hk (.inr (.inr (.inr (.inr hS))))), ?_, h5, h6⟩
  unfold IsTim
  rw [hb A h4.lt (.inr (.inr (.inr (.inl rfl))))]; exact h4
theorem IsBus.on (h : IsBus w B R P C A K S Kc T Y x) (hb : Below w.heap.size w w') : IsBus w' B R P C A K S Kc T Y x := h.keep hb.size (fun k hk _ => hb.block k hk)
theorem IsBus.q (h : IsBus w B R P C A K S Kc T Y x) (hb : Q w w') : IsBus w' B R P C A K S Kc T Y x := h.on (hb.below _)
theorem IsBus.bar {Z : Nat} (h : IsBus w B R P C A K S Kc T Y x) (hb : Bar Z w w') (hZ : ¬ Fp B R P A S Z) : IsBus w' B R P C A K S Kc T Y x := h.keep hb.size (fun k hk hf => hb.2.2.2.2 k hk (fun e => hZ (e ▸ hf)))
theorem IsBus.fr {Z : Nat → Prop} (h : IsBus w B R P C A K S Kc T Y x) (hb : Fr Z w w') (hZ : ∀ k, Fp B R P A S k → ¬ Z k) : IsBus w' B R P C A K S Kc T Y x := h.keep hb.size (fun k hk hf => hb.block hk (hZ k hf))
theorem IsBus.lt (h : IsBus w B R P C A K S Kc T Y x) : ∀ k, Fp B R P A S k → k < w.heap.size := by
  obtain ⟨h1, h2, h3, h4, h5, h6⟩ := h
  rintro k (rfl | rfl | rfl | rfl | hk)
  · exact h1.lt
  · exact h2.lt.1
  · exact h2.lt.2
  · exact h4.lt
  · exact h3.lt k hk
/-- Behind a change of the console alone. -/
theorem IsBus.con {s' : CS} (h : IsBus w B R P C A K S Kc T Y x) (hc : IsCon w' C S' Kc T Y s') (hf : Fr S w w') (he : Ext w S S') : IsBus w' B R P C A K S' Kc T Y { x with s := s' } := by
  have hl := h.lt
  obtain ⟨h1, h2, h3, h4, h5, n1, n2, n3, n4⟩ := h
  have hn : ∀ k, k < w.heap.size → ¬ S k → ¬ S' k := fun k hk hn e => by rcases he k e with q | q; exact hn q; omega
  refine ⟨h1.fr hf n1, ?_, hc, ?_, h5, hn B (hl _ (.inl rfl)) n1, hn R (hl _ (.inr (.inl rfl))) n2, hn P (hl _ (.inr (.inr (.inl rfl)))) n3, hn A (hl _ (.inr (.inr (.inr (.inl rfl))))) n4⟩
  · obtain ⟨l1, l2⟩ := h2.lt
    obtain ⟨hne, hR, cs, hP, hc⟩ := h2
    exact ⟨hne, by rw [hf.block l1 n2]; exact hR, cs, by rw [hf.block l2 n3]; exact hP, hc⟩
  · unfold IsTim
    rw [hf.block h4.lt n4]; exact h4
theorem Fr.fp (h : Fr S w w') : Fr (Fp B R P A S) w w' := ⟨h.1, h.2.1, h.2.2.1, h.size, fun k hk hn => h.block hk (fun e => hn (.inr (.inr (.inr (.inr e)))))⟩
theorem ext_fp (h : Ext w S S') : Ext w (Fp B R P A S) (Fp B R P A S') := by
  rintro k (h1 | h1 | h1 | h1 | h1)
  · exact .inl (.inl h1)
  · exact .inl (.inr (.inl h1))
  · exact .inl (.inr (.inr (.inl h1)))
  · exact .inl (.inr (.inr (.inr (.inl h1))))
  · rcases h k h1 with q | q
    · exact .inl (.inr (.inr (.inr (.inr q))))
    · exact .inr q
/-- Of the timer alone. -/
theorem IsBus.tim {o' m' : Int} {s' : Bool} (h : IsBus w B R P C A K S Kc T Y x) (ht : IsTim w' A o' m' s') (hb : Bar A w w') : IsBus w' B R P C A K S Kc T Y { x with o := o', m := m', sf := s' } := by
  obtain ⟨h1, h2, h3, h4, ⟨e1, e2, e3, e4, e5⟩, n1, n2, n3, n4⟩ := h
  refine ⟨h1.bar hb e3, ?_, h3.bar hb n4, ht, ⟨e1, e2, e3, e4, e5⟩, n1, n2, n3, n4⟩
  obtain ⟨l1, l2⟩ := h2.lt
  obtain ⟨hne, hR, cs, hP, hc⟩ := h2
  exact ⟨hne, by rw [hb.2.2.2.2 R l1 e4]; exact hR, cs, by rw [hb.2.2.2.2 P l2 e5]; exact hP, hc⟩
/-- Of the memory alone. -/
theorem IsBus.ram {b' : Nat → Int} {wa' : Nat → Bool} {g' : Nat → Int} (h : IsBus w B R P C A K S Kc T Y x) (hr : IsRam w' R P K b' wa' g') (hb : Bar P w w') : IsBus w' B R P C A K S Kc T Y { x with b := b', wa := wa', g := g' } := by
  obtain ⟨h1, h2, h3, h4, ⟨e1, e2, e3, e4, e5⟩, n1, n2, n3, n4⟩ := h
  exact ⟨h1.bar hb e2, hr, h3.bar hb n3, h4.bar hb (fun e => e5 e.symm), ⟨e1, e2, e3, e4, e5⟩, n1, n2, n3, n4⟩
/-- Of the power alone. -/
theorem IsBus.port {off' : Bool} {code' : Int} (h : IsBus w B R P C A K S Kc T Y x) (hc : BusC w' B R C A off' code') (hb : Bar B w w') : IsBus w' B R P C A K S Kc T Y { x with off := off', code := code' } := by
  obtain ⟨h1, h2, h3, h4, ⟨e1, e2, e3, e4, e5⟩, n1, n2, n3, n4⟩ := h
  refine ⟨hc, ?_, h3.bar hb n1, h4.bar hb (fun e => e3 e.symm), ⟨e1, e2, e3, e4, e5⟩, n1, n2, n3, n4⟩
  obtain ⟨l1, l2⟩ := h2.lt
  obtain ⟨hne, hR, cs, hP, hc⟩ := h2
  exact ⟨hne, by rw [hb.2.2.2.2 R l1 (fun e => e1 e.symm)]; exact hR, cs, by rw [hb.2.2.2.2 P l2 (fun e => e2 e.symm)]; exact hP, hc⟩
theorem fr_fpB (hb : Bar B w w') : Fr (Fp B R P A S) w w' := Fr.bar hb (.inl rfl)
theorem fr_fpP (hb : Bar P w w') : Fr (Fp B R P A S) w w' := Fr.bar hb (.inr (.inr (.inl rfl)))
theorem fr_fpA (hb : Bar A w w') : Fr (Fp B R P A S) w w' := Fr.bar hb (.inr (.inr (.inr (.inl rfl))))
end

/-- Bounds of a state, behind at most c calls. -/
def BsOk (K : Nat) (x : BS) (c : Nat) : Prop := BdB K x.b ∧ BdG K x.g c ∧ (0 ≤ x.m ∧ x.m < 18446744073709551616) ∧ x.s.m ≤ c
theorem pl_of {K : Nat} {addr n : Int} (h : askZ K addr n = 0) : sizeB n = true ∧ addr % n = 0 ∧ hasB K addr n = true ∧ addr = 2147483648 + (plZ addr : Int) ∧ (n.toNat : Int) = n ∧ plZ addr + n.toNat ≤ 64 * K ∧ plZ addr < 64 * K ∧ 1 ≤ n.toNat ∧ n.toNat ≤ 4 := by
  rcases askZ_cases K addr n with ⟨h1, h2⟩ | ⟨h1, h2, h3⟩ | ⟨h1, h2, h3, h4⟩ | ⟨h1, h2, h3, h4⟩
  · omega
  · omega
  · omega
  · obtain ⟨k0, k1, k2⟩ := hasB_yes h3
    have hn := sizeB_yes h1
    unfold plZ
    exact ⟨h1, h2, h3, by omega, by omega, by omega, by omega, by omega, by omega⟩
end Go.Proofs.Ytkbccccjjlkgbaa
