/- The draw of an encoded version vector, perhaps spoilt or cut off. What is drawn is not told, only how long it may be. Condition: the code has at most 1048576 bytes. -/
import Derived.Test.YtflhiopdfkggdaaSeenDraw4
import Derived.Test.YtflhiopdfkggdaaSeenDraw3
set_option linter.unusedSimpArgs false
set_option linter.unusedVariables false
namespace Go.Proofs.Ytflhiopdfkggdaa.Mk
open Go.RowKit Dr

theorem extract_le (t : ByteArray) (n : Nat) : (t.extract 0 n).size ≤ t.size := by
  rw [ByteArray.size_extract]; omega

set_option maxRecDepth 100000 in
set_option maxHeartbeats 1000000 in
theorem drawRead (w : World) (a : Option Addr) (len cap : Nat) (h : Code w a len) : Calls Try.prog 23 #[.slice a len cap] w (GotText w) := by
  have H0 := Lib.hid (source_new w a len cap h.1 h.2)
  clear h
  go_enter Try.func23, Try.ntmps23
  go_wp2_with fail
  refine H0.out.mono ?_
  rintro e w1 ⟨rfl, hs1, hb1⟩
  have S1 := Lib.hid hs1
  have B1 := Lib.hid hb1
  have z1 := hs1.lt
  clear hs1 hb1 H0
  go_wp2_with fail
  refine (seen_draw w1 w.heap.size w.heap.size S1.out).mono ?_
  rintro e w2 ⟨l, qa, cap2, hl, rfl, ho, hs2, hw2⟩
  have O2 := Lib.hid ho
  have S2 := Lib.hid hs2
  have B2 := Lib.hid (bw B1.out hw2 (Nat.le_refl _))
  clear ho hs2 hw2
  go_wp2_with fail
  refine (spec_seenBytes qa cap2 l w2 (by unfold maxLen; omega) O2.out.at_).mono ?_
  rintro e w3 ⟨rfl, hb3⟩
  have S3 := Lib.hid (S2.out.below hb3)
  have B3 := Lib.hid (Base.below B2.out hb3)
  have hsz := bytesV_size l
  clear hb3
  generalize bytesV l = t at hsz
  go_wp2_with fail
  refine (n_draw w3 w.heap.size w.heap.size 4 (by omega) (by omega) S3.out).mono ?_
  rintro e w4 ⟨r, hr, rfl, hs, hg⟩
  have hw4 := within_grown hg
  have S4 := Lib.hid hs
  have B4 := Lib.hid (bw B3.out hw4 (Nat.le_refl _))
  clear hs hg hw4
  by_cases h0 : r = 0
  · subst h0
    go_wp2_with fail
    refine (spoil_draw w4 w.heap.size w.heap.size t hsz S4.out).mono ?_
    rintro e w5 ⟨u, hu, rfl, hs, hw5⟩
    have B5 := Lib.hid (bw B4.out hw5 (Nat.le_refl _))
    clear hs hw5
    go_wp2
    go_ret
    exact ⟨u, hu, rfl, B5.out⟩
  · by_cases h1 : r = 1
    · subst h1
      have e4 : IntKind.i64.wrap ((t.size : Int) + 1) = (t.size : Int) + 1 := by rw [IntKind.wrap_i64]; omega
      go_wp2_with fail
      refine (n_upto w4 w.heap.size w.heap.size t.size (by omega) S4.out).mono ?_
      rintro e w5 ⟨k, hk, rfl, hs, hg⟩
      have hw5 := within_grown hg
      have B5 := Lib.hid (bw B4.out hw5 (Nat.le_refl _))
      have e0 : (0 : Int) ≤ (k : Int) := by omega
      have e1 : (k : Int) ≤ (t.size : Int) := by omega
      clear hs hg hw5
      go_wp2
      go_ret
      exact ⟨t.extract 0 k, Nat.le_trans (extract_le t k) (by omega), rfl, B5.out⟩
    · have e0 : ((r : Int) == 0) = false := by simp; omega
      have e1 : ((r : Int) == 1) = false := by simp; omega
      go_wp2
      go_ret
      exact ⟨t, by omega, rfl, B4.out⟩
end Go.Proofs.Ytflhiopdfkggdaa.Mk
