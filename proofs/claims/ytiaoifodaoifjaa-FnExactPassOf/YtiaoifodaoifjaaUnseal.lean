/- Contracts of Unseal of the model and of the program; the law of Unseal over them. No condition. -/
import Derived.Test.YtiaoifodaoifjaaSeal
import Derived.Deep.RegionWith
import Derived.WalkSpells
import Derived.IntWalk
set_option linter.unusedSimpArgs false
set_option linter.unusedVariables false
namespace Go.Proofs.Ytiaoifodaoifjaa.Se
open Go.RowKit Nu Cr

def out (t : ByteArray) (at_ code : Int) : Value := .agg #[.string t, .int .i64 at_, .int .i64 code]
/-- what both answer -/
def unsealed (s : ByteArray) : Value :=
  if 8000 < s.size then out ⟨#[]⟩ 0 2 else if s.size < 4 then out ⟨#[]⟩ 0 4
  else if s.extract (s.size - 4) s.size = four (crcN (s.extract 0 (s.size - 4))) then out (s.extract 0 (s.size - 4)) 0 0 else out ⟨#[]⟩ 0 5
theorem un_long (s : ByteArray) (h : 8000 < s.size) : out ⟨#[]⟩ 0 2 = unsealed s := (if_pos h).symm
theorem un_short (s : ByteArray) (h1 : ¬ 8000 < s.size) (h : s.size < 4) : out ⟨#[]⟩ 0 4 = unsealed s := by unfold unsealed; rw [if_neg h1, if_pos h]
theorem un_ok (s : ByteArray) (h1 : ¬ 8000 < s.size) (h2 : ¬ s.size < 4) (h : s.extract (s.size - 4) s.size = four (crcN (s.extract 0 (s.size - 4)))) : out (s.extract 0 (s.size - 4)) 0 0 = unsealed s := by
  unfold unsealed; rw [if_neg h1, if_neg h2, if_pos h]
theorem un_bad (s : ByteArray) (h1 : ¬ 8000 < s.size) (h2 : ¬ s.size < 4) (h : ¬ s.extract (s.size - 4) s.size = four (crcN (s.extract 0 (s.size - 4)))) : out ⟨#[]⟩ 0 5 = unsealed s := by
  unfold unsealed; rw [if_neg h1, if_neg h2, if_neg h]
theorem ret_val {a b : Value} (h : a = b) : Ending.returned a = .returned b := by rw [h]
theorem list_eq {a b : ByteArray} (h : a = b) : (a.toList == b.toList) = true := by rw [h]; exact beq_self_eq_true _
theorem list_ne {a b : ByteArray} (h : ¬ a = b) : (a.toList == b.toList) = false := by
  rw [ByteArray.toList_eq, ByteArray.toList_eq]
  apply beq_false_of_ne
  intro e
  apply h
  apply ByteArray.ext
  exact Array.toList_inj.1 e
/-- behind 'Below' every old cell and mark reads as before -/
theorem bcell {W w1 : World} (hb : Below W.heap.size W w1) : (∀ b o, b < W.heap.size → w1.cell? ⟨b, o, none⟩ = W.cell? ⟨b, o, none⟩) ∧ (∀ b o, b < W.heap.size → w1.frozen? ⟨b, o, none⟩ = W.frozen? ⟨b, o, none⟩) :=
  ⟨fun _ _ h => hb.cell h, fun _ _ h => hb.frozen h⟩

theorem un_form (s : ByteArray) : ∃ t c, unsealed s = out t 0 c := by
  unfold unsealed
  split
  · exact ⟨_, _, rfl⟩
  split
  · exact ⟨_, _, rfl⟩
  split <;> exact ⟨_, _, rfl⟩

end Go.Proofs.Ytiaoifodaoifjaa.Se
