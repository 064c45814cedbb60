/- Contracts of impl.byNode and impl.SeenOf: the marks of a version vector as a map. No condition. -/
import Derived.Test.YtloenigleamcoaaMarkMap
import Derived.Test.YtloenigleamcoaaSeenI
set_option linter.unusedSimpArgs false
set_option linter.unusedVariables false
namespace Go.Proofs.Ytloenigleamcoaa.Mk
open Go.RowKit

theorem wf_small {n : Int} (h0 : -1000000000000 ≤ n) (h1 : n ≤ 1000000000000) : (Lit.int .i64 n).wf = true := by
  simp [Lit.wf, IntKind.min, IntKind.max, IntKind.bits, IntKind.signed]; omega
theorem right_get {l : List (Int × Int)} (h : rightB l = true) (k : Nat) (hk : k < l.length) : 1 ≤ l[k].1 ∧ l[k].1 ≤ 5 ∧ 1 ≤ l[k].2 ∧ l[k].2 ≤ 1000000 :=
  (dotB_iff _).1 (right_dot h _ (List.getElem_mem hk))
/-- what byNode leaves -/
def Mapped (w : World) (l : List (Int × Int)) (e : Ending) (w' : World) : Prop :=
  e = .returned (.map (some w.heap.size)) ∧ MapOf w' w.heap.size 5 (mapL l) ∧ Below w.heap.size w w'

set_option maxRecDepth 100000 in
set_option maxHeartbeats 1000000 in
theorem byNode (a : Option Addr) (cap : Nat) (l : List (Int × Int)) (w : World) (hr : rightB l = true) (h : MarksAt w a l) :
    Calls Try.prog 119 #[.slice a l.length cap] w (Mapped w l) := by
  have H := Lib.hid h
  have HR := Lib.hid hr
  have h5 := right_len hr
  clear h hr
  have hmm : ∀ w, (Instr.makeMap 167 (some (.int .i64 5))).run Try.prog w = .ok (.map (some w.heap.size)) (w.alloc (.map #[] 0)) := fun w => by simp [Instr.makeMap, asInt, asIntOf]
  go_enter Try.func119, Try.ntmps119
  go_wp2
  go_loopw [9] (fun i wr => ∃ (k : Nat), k ≤ l.length ∧ i = .int .i64 k ∧ MapOf wr w.heap.size k (mapL (l.take k)) ∧ Below w.heap.size w wr) (fun i _ => l.length - (intOf i).toNat)
  case atStart => exact ⟨0, Nat.zero_le _, rfl, mapOf_made w, (Below.refl _ _).alloc (Nat.le_refl _) _⟩
  case round =>
    obtain ⟨k, hk, rfl, hm, hbel⟩ := hrel
    have HM := Lib.hid hm
    have HB := Lib.hid hbel
    clear hm hbel
    by_cases hlt : k < l.length
    · obtain ⟨g, off, rfl, hg, c0, c1⟩ := (H.out.mono HB.out).cells hlt
      have hq := right_get HR.out k hlt
      have HS := Lib.hid (mapL_take l k hlt)
      generalize l[k] = m at c0 c1 HS hq
      obtain ⟨x, y⟩ := m
      simp only at c0 c1 hq
      obtain ⟨w2, hrun, hm2, hw2⟩ := (HM.out.alloc (.cells #[.int .i64 x, .int .i64 y] 73)).store (x, y) (wf_small (by simp only; omega) (by simp only; omega)) (by unfold maxLen; omega)
      have HM2 := Lib.hid hm2
      have HB2 := Lib.hid ((HB.out.alloc HB.out.size (.cells #[.int .i64 x, .int .i64 y] 73)).trans (hw2.below (Nat.le_refl _) (by have := HB.out.size; simp; omega)))
      clear hm2 hw2
      unfold mv at hrun
      simp only at hrun
      go_wp2
      go_roundw
      case rel => exact ⟨k + 1, by omega, by go_num, by rw [HS.out]; exact HM2.out, HB2.out⟩
      case measure => go_light; simp [intOf]; omega
    · have he : l.take k = l := List.take_of_length_le (by omega)
      rw [he] at HM
      clear he
      go_wp2
      go_ret
      exact ⟨rfl, HM.out.mono (by omega), HB.out⟩

theorem seenOf_right {l : List (Int × Int)} (h : rightB l = true) (n : Int) : seenOf l n = (at_ (mapL l) n).2 := by unfold seenOf; rw [if_pos h, mapL_at h]
set_option maxRecDepth 100000 in
theorem impl_seenOf (a : Option Addr) (cap : Nat) (l : List (Int × Int)) (n : Int) (w : World) (hl : l.length ≤ maxLen) (hn : (Lit.int .i64 n).wf = true) (h : MarksAt w a l) :
    Calls Try.prog 113 #[.slice a l.length cap, .int .i64 n] w fun e w' => e = .returned (.int .i64 (seenOf l n)) ∧ Below w.heap.size w w' := by
  have H := Lib.hid h
  have HN := Lib.hid hn
  clear h hn
  cases hr : rightB l
  · have hs : seenOf l n = 0 := by unfold seenOf; rw [hr]; rfl
    have HS := Lib.hid hs
    clear hs
    go_enter Try.func113, Try.ntmps113
    go_wp2_with (go_at_call 95; refine (seenRight _ _ l _ hl H.out).mono ?_; rintro e w' ⟨rfl, hb⟩)
    go_ret
    exact ⟨ret_i64 HS.out.symm, hb⟩
  · have HS := Lib.hid (seenOf_right hr n)
    have HR := Lib.hid hr
    go_enter Try.func113, Try.ntmps113
    go_wp2_with (go_at_call 95; refine (seenRight _ _ l _ hl H.out).mono ?_; rintro e w' ⟨rfl, hb⟩)
    refine (byNode a cap l _ HR.out (H.out.mono hb)).mono ?_
    rintro e w2 ⟨rfl, hm, hb2⟩
    have hlook := hm.look HN.out
    have HB := Lib.hid (hb.trans (hb2.mono hb.size))
    clear hm hb hb2
    generalize at_ (mapL l) n = m at hlook HS
    obtain ⟨x, y⟩ := m
    unfold mv at hlook
    simp only at hlook
    have hf := field1 x y
    go_wp2
    go_ret
    exact ⟨ret_i64 HS.out.symm, HB.out⟩
end Go.Proofs.Ytloenigleamcoaa.Mk
