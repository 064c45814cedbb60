/- Contracts of strconv.FormatInt and spec.l01Dec at a number of one digit. Condition: 1 to 9. -/
import Derived.Test.YteibkoaepgdmlaaDoorBase
import Derived.Test.YteibkoaepgdmlaaDoorFrame
set_option linter.unusedSimpArgs false
set_option linter.unusedVariables false
namespace Go.Proofs.YteibkoaepgdmlaaDoor.Rg
open Go.RowKit Go.Proofs.YteibkoaepgdmlaaDoor.Mk Go.Proofs.YteibkoaepgdmlaaDoor.Nu

/-- the text of a number of one digit -/
def dig (n : Nat) : ByteArray := ⟨#[UInt8.ofNat (48 + n)]⟩
set_option maxRecDepth 100000 in
theorem small (n : Nat) (h0 : 1 ≤ n) (h : n ≤ 9) (w : World) : Calls Tryd.prog 97 #[.int .i64 (n : Int)] w fun e w' => e = .returned (.string (dig n)) ∧ w = w' := by
  have hn : n = 1 ∨ n = 2 ∨ n = 3 ∨ n = 4 ∨ n = 5 ∨ n = 6 ∨ n = 7 ∨ n = 8 ∨ n = 9 := by omega
  rcases hn with rfl | rfl | rfl | rfl | rfl | rfl | rfl | rfl | rfl
  all_goals
    go_enter Tryd.func97, Tryd.ntmps97
    go_wp2
    go_ret
    exact ⟨rfl, rfl⟩
set_option maxRecDepth 100000 in
theorem formatInt1 (n : Nat) (h0 : 1 ≤ n) (h : n ≤ 9) (w : World) : Calls Tryd.prog 86 #[.int .i64 (n : Int), .int .i64 10] w fun e w' => e = .returned (.string (dig n)) ∧ w = w' := by
  have hs := small n h0 h
  generalize dig n = d at hs ⊢
  go_enter Tryd.func86, Tryd.ntmps86
  go_wp2_with (go_at_call 97; refine (hs _).mono ?_; rintro e w' ⟨rfl, rfl⟩)
  go_ret
  exact ⟨rfl, rfl⟩
set_option maxRecDepth 100000 in
theorem formatInt (n : Nat) (h0 : 1 ≤ n) (h : n ≤ 9) (w : World) : Calls Tryd.prog 76 #[.int .i64 (n : Int), .int .i64 10] w fun e w' => e = .returned (.string (dig n)) ∧ w = w' := by
  have hs := formatInt1 n h0 h
  generalize dig n = d at hs ⊢
  go_enter Tryd.func76, Tryd.ntmps76
  go_wp2_with (go_at_call 86; refine (hs _).mono ?_; rintro e w' ⟨rfl, rfl⟩)
  go_ret
  exact ⟨rfl, rfl⟩
theorem str1 (w : World) (z : Int) (b : Nat) (hz : z = (b : Int)) (hb : b < 256) : Sem.run Tryd.prog (convert 22 9 (.slice (some ⟨w.heap.size, 0, none⟩) 1 1)) (w.alloc (.cells #[.int .u8 z] 5)) = .ok (.string ⟨#[UInt8.ofNat b]⟩) (w.alloc (.cells #[.int .u8 z] 5)) := by
  subst hz
  have h : Arr (w.alloc (.cells #[.int .u8 (b : Int)] 5)) w.heap.size [UInt8.ofNat b] :=
    ⟨fun j hj => by
      obtain rfl : j = 0 := by simpa using hj
      rw [World.cell?_alloc_mark]
      simp [bv_of b hb],
     fun j => by rw [World.frozen?_alloc_mark]; simp⟩
  exact h.string 1 1 (by simp)
set_option maxRecDepth 100000 in
set_option maxHeartbeats 1000000 in
theorem spec_dec (n : Nat) (h0 : 1 ≤ n) (h : n ≤ 9) (w : World) : Calls Tryd.prog 79 #[.int .i64 (n : Int)] w fun e w' => e = .returned (.string (dig n)) ∧ Below w.heap.size w w' := by
  have hn : n = 1 ∨ n = 2 ∨ n = 3 ∨ n = 4 ∨ n = 5 ∨ n = 6 ∨ n = 7 ∨ n = 8 ∨ n = 9 := by omega
  rcases hn with rfl | rfl | rfl | rfl | rfl | rfl | rfl | rfl | rfl
  · have hc := str1 w 49 49 rfl (by omega)
    go_enter Tryd.func79, Tryd.ntmps79
    go_wp2
    refine wp_loop_rounds 2 ?_
    rw [rounds_succ]
    go_wp2
    rw [rounds_succ]
    go_wp2
    go_ret
    exact ⟨rfl, step_alloc w _⟩
  · have hc := str1 w 50 50 rfl (by omega)
    go_enter Tryd.func79, Tryd.ntmps79
    go_wp2
    refine wp_loop_rounds 2 ?_
    rw [rounds_succ]
    go_wp2
    rw [rounds_succ]
    go_wp2
    go_ret
    exact ⟨rfl, step_alloc w _⟩
  · have hc := str1 w 51 51 rfl (by omega)
    go_enter Tryd.func79, Tryd.ntmps79
    go_wp2
    refine wp_loop_rounds 2 ?_
    rw [rounds_succ]
    go_wp2
    rw [rounds_succ]
    go_wp2
    go_ret
    exact ⟨rfl, step_alloc w _⟩
  · have hc := str1 w 52 52 rfl (by omega)
    go_enter Tryd.func79, Tryd.ntmps79
    go_wp2
    refine wp_loop_rounds 2 ?_
    rw [rounds_succ]
    go_wp2
    rw [rounds_succ]
    go_wp2
    go_ret
    exact ⟨rfl, step_alloc w _⟩
  · have hc := str1 w 53 53 rfl (by omega)
    go_enter Tryd.func79, Tryd.ntmps79
    go_wp2
    refine wp_loop_rounds 2 ?_
    rw [rounds_succ]
    go_wp2
    rw [rounds_succ]
    go_wp2
    go_ret
    exact ⟨rfl, step_alloc w _⟩
  · have hc := str1 w 54 54 rfl (by omega)
    go_enter Tryd.func79, Tryd.ntmps79
    go_wp2
    refine wp_loop_rounds 2 ?_
    rw [rounds_succ]
    go_wp2
    rw [rounds_succ]
    go_wp2
    go_ret
    exact ⟨rfl, step_alloc w _⟩
  · have hc := str1 w 55 55 rfl (by omega)
    go_enter Tryd.func79, Tryd.ntmps79
    go_wp2
    refine wp_loop_rounds 2 ?_
    rw [rounds_succ]
    go_wp2
    rw [rounds_succ]
    go_wp2
    go_ret
    exact ⟨rfl, step_alloc w _⟩
  · have hc := str1 w 56 56 rfl (by omega)
    go_enter Tryd.func79, Tryd.ntmps79
    go_wp2
    refine wp_loop_rounds 2 ?_
    rw [rounds_succ]
    go_wp2
    rw [rounds_succ]
    go_wp2
    go_ret
    exact ⟨rfl, step_alloc w _⟩
  · have hc := str1 w 57 57 rfl (by omega)
    go_enter Tryd.func79, Tryd.ntmps79
    go_wp2
    refine wp_loop_rounds 2 ?_
    rw [rounds_succ]
    go_wp2
    rw [rounds_succ]
    go_wp2
    go_ret
    exact ⟨rfl, step_alloc w _⟩
end Go.Proofs.YteibkoaepgdmlaaDoor.Rg
