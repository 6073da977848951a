/- Texts as lists of signs (taken out of layer 5's text, for the layers that want no more of it). -/
import Derived.Test.YtcigceaadkjenaaDoorBase
namespace Go.Proofs.YtcigceaadkjenaaDoor
set_option linter.unusedVariables false

/-- Signs as a string. -/
def bs (l : List UInt8) : ByteArray := ⟨l.toArray⟩
theorem bs_app (a b : List UInt8) : bs a ++ bs b = bs (a ++ b) := by
  apply ByteArray.ext
  simp [bs]
theorem bs_size (l : List UInt8) : (bs l).size = l.length := by simp [bs, ByteArray.size]
theorem bs_inj {a b : List UInt8} (h : bs a = bs b) : a = b := by
  have := congrArg ByteArray.data h
  simpa [bs] using this

theorem bs_list (l : List UInt8) : (bs l).data.toList = l := by simp [bs]
theorem bs_of (s : ByteArray) : s = bs s.data.toList := by
  apply ByteArray.ext
  simp [bs]
/-- A piece of a text. -/
theorem bs_cut (l : List UInt8) (f k : Nat) : (bs l).extract f k = bs ((l.drop f).take (k - f)) := by
  apply ByteArray.ext
  apply Array.ext'
  simp [bs, List.take_drop]
theorem bs_head (c : UInt8) (l : List UInt8) : bs (c :: l) = bs [c] ++ bs l := by rw [bs_app]; rfl
end Go.Proofs.YtcigceaadkjenaaDoor
