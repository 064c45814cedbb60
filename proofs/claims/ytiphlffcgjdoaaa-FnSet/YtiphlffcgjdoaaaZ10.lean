/- Parts of a law: SetPutI, SpecIll, SeenJoinS. Conditions: on sizes, as each says. -/
import Derived.Test.YtiphlffcgjdoaaaZ1
import Derived.Deep.RegionHeld3
import Derived.Deep.DeepCutAuto
import Derived.Test.YtiphlffcgjdoaaaZ5
import Derived.Test.YtiphlffcgjdoaaaZ3
import Derived.Test.YtiphlffcgjdoaaaZ4
import Derived.Test.YtiphlffcgjdoaaaZ6
import Derived.Test.YtiphlffcgjdoaaaZ7
import Derived.Test.YtiphlffcgjdoaaaZ9
import Derived.Test.YtiphlffcgjdoaaaZ2
set_option linter.unusedSimpArgs false
set_option linter.unusedVariables false
namespace Go.Proofs.Ytiphlffcgjdoaaa.Sb
open Go.RowKit Go.Proofs.Ytiphlffcgjdoaaa.Mk Go.Proofs.Ytiphlffcgjdoaaa.Rw

/-- the counter of the new Dot -/
def putN (l q : List (Int × Int)) (n : Int) : Int := seenOf (joinV l q) n + 1
/-- the Sibs behind a put -/
def putS (l : List (Int × Int)) (s : List Sib) (q : List (Int × Int)) (n : Int) (d : ByteArray) (g : Bool) : List Sib := ins (collect (uns s q)) ((n, putN l q n), g, d)
def PutOk (l : List (Int × Int)) (s : List Sib) (q : List (Int × Int)) (n : Int) (d : ByteArray) (g : Bool) : Prop := setB l s = true ∧ rightB q = true ∧ nodeB n = true ∧ contB d g = true
instance (l : List (Int × Int)) (s : List Sib) (q : List (Int × Int)) (n : Int) (d : ByteArray) (g : Bool) : Decidable (PutOk l s q n d g) := by unfold PutOk; infer_instance
def spC (l : List (Int × Int)) (s : List Sib) (q : List (Int × Int)) (n : Int) (d : ByteArray) (g : Bool) : Int := if q.length ≤ 400 ∧ d.size ≤ 8000 then (if PutOk l s q n d g then (if putN l q n ≤ 1000000 ∧ (putS l s q n d g).length ≤ 8 then 0 else 9) else 1) else 2
def spSeen (l : List (Int × Int)) (s : List Sib) (q : List (Int × Int)) (n : Int) (d : ByteArray) (g : Bool) : List (Int × Int) := if spC l s q n d g = 0 then putL (joinV l q) (n, putN l q n) else []
def spSibs (l : List (Int × Int)) (s : List Sib) (q : List (Int × Int)) (n : Int) (d : ByteArray) (g : Bool) : List Sib := if spC l s q n d g = 0 then putS l s q n d g else []
def spX (l : List (Int × Int)) (s : List Sib) (q : List (Int × Int)) (n : Int) (d : ByteArray) (g : Bool) : Int := if spC l s q n d g = 0 then n else 0
def spY (l : List (Int × Int)) (s : List Sib) (q : List (Int × Int)) (n : Int) (d : ByteArray) (g : Bool) : Int := if spC l s q n d g = 0 then putN l q n else 0
section
variable {l : List (Int × Int)} {s : List Sib} {q : List (Int × Int)} {n : Int} {d : ByteArray} {g : Bool}
theorem sp_not {c : Int} (h : spC l s q n d g = c) (hc : ¬ c = 0) : spC l s q n d g = c ∧ spSeen l s q n d g = [] ∧ spSibs l s q n d g = [] ∧ spX l s q n d g = 0 ∧ spY l s q n d g = 0 := by
  refine ⟨h, ?_, ?_, ?_, ?_⟩
  · unfold spSeen; rw [h, if_neg hc]
  · unfold spSibs; rw [h, if_neg hc]
  · unfold spX; rw [h, if_neg hc]
  · unfold spY; rw [h, if_neg hc]
theorem sp_size (h : ¬ (q.length ≤ 400 ∧ d.size ≤ 8000)) : spC l s q n d g = 2 ∧ spSeen l s q n d g = [] ∧ spSibs l s q n d g = [] ∧ spX l s q n d g = 0 ∧ spY l s q n d g = 0 := sp_not (if_neg h) (by decide)
theorem sp_form (h0 : q.length ≤ 400 ∧ d.size ≤ 8000) (h : ¬ PutOk l s q n d g) : spC l s q n d g = 1 ∧ spSeen l s q n d g = [] ∧ spSibs l s q n d g = [] ∧ spX l s q n d g = 0 ∧ spY l s q n d g = 0 := sp_not (by unfold spC; rw [if_pos h0, if_neg h]) (by decide)
theorem sp_full (h0 : q.length ≤ 400 ∧ d.size ≤ 8000) (h : PutOk l s q n d g) (h8 : ¬ (putN l q n ≤ 1000000 ∧ (putS l s q n d g).length ≤ 8)) : spC l s q n d g = 9 ∧ spSeen l s q n d g = [] ∧ spSibs l s q n d g = [] ∧ spX l s q n d g = 0 ∧ spY l s q n d g = 0 := sp_not (by unfold spC; rw [if_pos h0, if_pos h, if_neg h8]) (by decide)
theorem sp_ok (h0 : q.length ≤ 400 ∧ d.size ≤ 8000) (h : PutOk l s q n d g) (h8 : putN l q n ≤ 1000000 ∧ (putS l s q n d g).length ≤ 8) : spC l s q n d g = 0 ∧ spSeen l s q n d g = putL (joinV l q) (n, putN l q n) ∧ spSibs l s q n d g = putS l s q n d g ∧ spX l s q n d g = n ∧ spY l s q n d g = putN l q n := by
  have hc : spC l s q n d g = 0 := by unfold spC; rw [if_pos h0, if_pos h, if_pos h8]
  refine ⟨hc, ?_, ?_, ?_, ?_⟩
  · unfold spSeen; rw [if_pos hc]
  · unfold spSibs; rw [if_pos hc]
  · unfold spX; rw [if_pos hc]
  · unfold spY; rw [if_pos hc]
end
set_option maxRecDepth 100000 in
set_option maxHeartbeats 4000000 in
theorem impl_setPut (am as_ bm : Option Addr) (c1 c2 c3 : Nat) (l : List (Int × Int)) (s : List Sib) (q : List (Int × Int)) (n : Int) (d : ByteArray) (g : Bool) (w : World) (hl : l.length ≤ maxLen) (hs : s.length ≤ maxLen) (hq : q.length ≤ maxLen) (hdz : d.size ≤ maxLen) (hd : SmallData s) (hwd : WfDots s) (hwn : (Lit.int .i64 n).wf = true)
    (hma : MarksAt w am l) (hra : SibsAt w as_ s) (hmb : MarksAt w bm q) :
    Calls Try.prog 6 #[.agg #[.slice am l.length c1, .slice as_ s.length c2], .slice bm q.length c3, .int .i64 n, .string d, .bool g] w (GivesSO w (spSeen l s q n d g) (spSibs l s q n d g) (spX l s q n d g) (spY l s q n d g) (spC l s q n d g)) := by
  have R2 := Lib.hid (fun (W : World) (h : Base w W) => (⟨hma.mono h, hmb.mono h, SibsAt.mono hra h⟩ : MarksAt W am l ∧ MarksAt W bm q ∧ SibsAt W as_ s))
  clear hma hra hmb
  obtain ⟨W2, hW2⟩ : ∃ W2, (w.alloc (.cells #[.slice am l.length c1, .slice as_ s.length c2] 26)).alloc (.cells #[.slice none 0 0, .slice none 0 0, .int .i64 0, .int .i64 0, .int .i64 0] 32) = W2 := ⟨_, rfl⟩
  have hb1 := step_alloc w (.cells #[.slice am l.length c1, .slice as_ s.length c2] 26)
  have hb2 := step_alloc (w.alloc (.cells #[.slice am l.length c1, .slice as_ s.length c2] 26)) (.cells #[.slice none 0 0, .slice none 0 0, .int .i64 0, .int .i64 0, .int .i64 0] 32)
  have XA := Lib.hid ((Cells.new w #[.slice am l.length c1, .slice as_ s.length c2] 26).below hb2)
  have XR := Lib.hid (Cells.new (w.alloc (.cells #[.slice am l.length c1, .slice as_ s.length c2] 26)) #[.slice none 0 0, .slice none 0 0, .int .i64 0, .int .i64 0, .int .i64 0] 32)
  have D := Lib.hid (show Base w ((w.alloc (.cells #[.slice am l.length c1, .slice as_ s.length c2] 26)).alloc (.cells #[.slice none 0 0, .slice none 0 0, .int .i64 0, .int .i64 0, .int .i64 0] 32)) from hb1.trans (hb2.mono (by simp)))
  have hsz : ((w.alloc (.cells #[.slice am l.length c1, .slice as_ s.length c2] 26)).alloc (.cells #[.slice none 0 0, .slice none 0 0, .int .i64 0, .int .i64 0, .int .i64 0] 32)).heap.size = w.heap.size + 2 := by simp
  simp only [World.size_alloc, List.toList_toArray] at XA XR
  clear hb1 hb2
  rw [hW2] at XA
  rw [hW2] at XR
  rw [hW2] at D
  rw [hW2] at hsz
  go_enter Try.func6, Try.ntmps6
  go_upto_region 1 with fail
  clear hW2
  obtain ⟨a0, a1, _⟩ := XA.out.c2
  obtain ⟨r0, r1, r2, r3, r4, f0, f1, f2, f3, f4⟩ := XR.out.c5
  by_cases hq4 : q.length ≤ 400
  rotate_left
  · have hno := Lib.hid (sp_size (l := l) (s := s) (q := q) (n := n) (d := d) (g := g) (fun h => hq4 h.1))
    have hq5 : decide ((400 : Int) < (q.length : Int)) = true := decide_eq_true (by omega)
    go_wp2_with fail
    have XF := cells_set5 XR.out (.slice none 0 0) (.slice none 0 0) (.int .i64 0) (.int .i64 0) (.int .i64 2)
    obtain ⟨q0, q1, q2, q3, q4, -⟩ := XF.c5
    refine bodyPost_ret (v := .agg #[.slice none 0 0, .slice none 0 0, .int .i64 0, .int .i64 0, .int .i64 2]) (by simp [results, Try.results6, go_sem, q0, q1, q2, q3, q4]) rfl ?_
    replace hno := hno.out
    rw [hno.1, hno.2.1, hno.2.2.1, hno.2.2.2.1, hno.2.2.2.2]
    exact givesSO_no 2 (D.out.within (within_set5 _ _ _ _ _ _ _) (by omega))
  have hq5 : decide ((400 : Int) < (q.length : Int)) = false := decide_eq_false (by omega)
  by_cases hd8 : d.size ≤ 8000
  rotate_left
  · have hno := Lib.hid (sp_size (l := l) (s := s) (q := q) (n := n) (d := d) (g := g) (fun h => hd8 h.2))
    have hd9 : decide ((8000 : Int) < (d.size : Int)) = true := decide_eq_true (by omega)
    go_wp2_with fail
    have XF := cells_set5 XR.out (.slice none 0 0) (.slice none 0 0) (.int .i64 0) (.int .i64 0) (.int .i64 2)
    obtain ⟨q0, q1, q2, q3, q4, -⟩ := XF.c5
    refine bodyPost_ret (v := .agg #[.slice none 0 0, .slice none 0 0, .int .i64 0, .int .i64 0, .int .i64 2]) (by simp [results, Try.results6, go_sem, q0, q1, q2, q3, q4]) rfl ?_
    replace hno := hno.out
    rw [hno.1, hno.2.1, hno.2.2.1, hno.2.2.2.1, hno.2.2.2.2]
    exact givesSO_no 2 (D.out.within (within_set5 _ _ _ _ _ _ _) (by omega))
  have hd9 : decide ((8000 : Int) < (d.size : Int)) = false := decide_eq_false (by omega)
  have H0 := Lib.hid (⟨hq4, hd8⟩ : q.length ≤ 400 ∧ d.size ≤ 8000)
  cases hsA : setB l s
  · have hno := Lib.hid (sp_form (l := l) (s := s) (q := q) (n := n) (d := d) (g := g) H0.out (fun h => by rw [h.1] at hsA; cases hsA))
    go_wp2_with (first | (go_at_call 22; refine (impl_setRight am as_ c1 c2 l s _ hl hs hd hwd (R2.out _ D.out).1 (R2.out _ D.out).2.2).mono ?_; rintro e w1 ⟨rfl, hb⟩; rw [hsA]; replace XR := Lib.hid (XR.out.below hb); replace XA := Lib.hid (XA.out.below hb); replace D := Lib.hid (D.out.below hb); clear hb a0 a1 r0 r1 r2 r3 r4 f0 f1 f2 f3 f4; obtain ⟨a0, a1, _⟩ := XA.out.c2; obtain ⟨r0, r1, r2, r3, r4, f0, f1, f2, f3, f4⟩ := XR.out.c5) | (go_at_call 37; refine (seenRight bm c3 q _ hq (R2.out _ D.out).2.1).mono ?_; rintro e w2 ⟨rfl, hb⟩; rw [hqR]; replace XR := Lib.hid (XR.out.below hb); replace XA := Lib.hid (XA.out.below hb); replace D := Lib.hid (D.out.below hb); clear hb a0 a1 r0 r1 r2 r3 r4 f0 f1 f2 f3 f4; obtain ⟨a0, a1, _⟩ := XA.out.c2; obtain ⟨r0, r1, r2, r3, r4, f0, f1, f2, f3, f4⟩ := XR.out.c5) | (go_at_call 38; refine (nodeRight n _).mono ?_; rintro e w3 ⟨rfl, rfl⟩; rw [hnR]) | (go_at_call 39; refine (contentRight d g _ hdz).mono ?_; rintro e w4 ⟨rfl, rfl⟩; rw [hcR]))
    have XF := cells_set5 XR.out (.slice none 0 0) (.slice none 0 0) (.int .i64 0) (.int .i64 0) (.int .i64 1)
    obtain ⟨q0, q1, q2, q3, q4, -⟩ := XF.c5
    refine bodyPost_ret (v := .agg #[.slice none 0 0, .slice none 0 0, .int .i64 0, .int .i64 0, .int .i64 1]) (by simp [results, Try.results6, go_sem, q0, q1, q2, q3, q4]) rfl ?_
    replace hno := hno.out
    rw [hno.1, hno.2.1, hno.2.2.1, hno.2.2.2.1, hno.2.2.2.2]
    exact givesSO_no 1 (D.out.within (within_set5 _ _ _ _ _ _ _) (by omega))
  cases hqR : rightB q
  · have hno := Lib.hid (sp_form (l := l) (s := s) (q := q) (n := n) (d := d) (g := g) H0.out (fun h => by rw [h.2.1] at hqR; cases hqR))
    go_wp2_with (first | (go_at_call 22; refine (impl_setRight am as_ c1 c2 l s _ hl hs hd hwd (R2.out _ D.out).1 (R2.out _ D.out).2.2).mono ?_; rintro e w1 ⟨rfl, hb⟩; rw [hsA]; replace XR := Lib.hid (XR.out.below hb); replace XA := Lib.hid (XA.out.below hb); replace D := Lib.hid (D.out.below hb); clear hb a0 a1 r0 r1 r2 r3 r4 f0 f1 f2 f3 f4; obtain ⟨a0, a1, _⟩ := XA.out.c2; obtain ⟨r0, r1, r2, r3, r4, f0, f1, f2, f3, f4⟩ := XR.out.c5) | (go_at_call 37; refine (seenRight bm c3 q _ hq (R2.out _ D.out).2.1).mono ?_; rintro e w2 ⟨rfl, hb⟩; rw [hqR]; replace XR := Lib.hid (XR.out.below hb); replace XA := Lib.hid (XA.out.below hb); replace D := Lib.hid (D.out.below hb); clear hb a0 a1 r0 r1 r2 r3 r4 f0 f1 f2 f3 f4; obtain ⟨a0, a1, _⟩ := XA.out.c2; obtain ⟨r0, r1, r2, r3, r4, f0, f1, f2, f3, f4⟩ := XR.out.c5) | (go_at_call 38; refine (nodeRight n _).mono ?_; rintro e w3 ⟨rfl, rfl⟩; rw [hnR]) | (go_at_call 39; refine (contentRight d g _ hdz).mono ?_; rintro e w4 ⟨rfl, rfl⟩; rw [hcR]))
    have XF := cells_set5 XR.out (.slice none 0 0) (.slice none 0 0) (.int .i64 0) (.int .i64 0) (.int .i64 1)
    obtain ⟨q0, q1, q2, q3, q4, -⟩ := XF.c5
    refine bodyPost_ret (v := .agg #[.slice none 0 0, .slice none 0 0, .int .i64 0, .int .i64 0, .int .i64 1]) (by simp [results, Try.results6, go_sem, q0, q1, q2, q3, q4]) rfl ?_
    replace hno := hno.out
    rw [hno.1, hno.2.1, hno.2.2.1, hno.2.2.2.1, hno.2.2.2.2]
    exact givesSO_no 1 (D.out.within (within_set5 _ _ _ _ _ _ _) (by omega))
  cases hnR : nodeB n
  · have hno := Lib.hid (sp_form (l := l) (s := s) (q := q) (n := n) (d := d) (g := g) H0.out (fun h => by rw [h.2.2.1] at hnR; cases hnR))
    go_wp2_with (first | (go_at_call 22; refine (impl_setRight am as_ c1 c2 l s _ hl hs hd hwd (R2.out _ D.out).1 (R2.out _ D.out).2.2).mono ?_; rintro e w1 ⟨rfl, hb⟩; rw [hsA]; replace XR := Lib.hid (XR.out.below hb); replace XA := Lib.hid (XA.out.below hb); replace D := Lib.hid (D.out.below hb); clear hb a0 a1 r0 r1 r2 r3 r4 f0 f1 f2 f3 f4; obtain ⟨a0, a1, _⟩ := XA.out.c2; obtain ⟨r0, r1, r2, r3, r4, f0, f1, f2, f3, f4⟩ := XR.out.c5) | (go_at_call 37; refine (seenRight bm c3 q _ hq (R2.out _ D.out).2.1).mono ?_; rintro e w2 ⟨rfl, hb⟩; rw [hqR]; replace XR := Lib.hid (XR.out.below hb); replace XA := Lib.hid (XA.out.below hb); replace D := Lib.hid (D.out.below hb); clear hb a0 a1 r0 r1 r2 r3 r4 f0 f1 f2 f3 f4; obtain ⟨a0, a1, _⟩ := XA.out.c2; obtain ⟨r0, r1, r2, r3, r4, f0, f1, f2, f3, f4⟩ := XR.out.c5) | (go_at_call 38; refine (nodeRight n _).mono ?_; rintro e w3 ⟨rfl, rfl⟩; rw [hnR]) | (go_at_call 39; refine (contentRight d g _ hdz).mono ?_; rintro e w4 ⟨rfl, rfl⟩; rw [hcR]))
    have XF := cells_set5 XR.out (.slice none 0 0) (.slice none 0 0) (.int .i64 0) (.int .i64 0) (.int .i64 1)
    obtain ⟨q0, q1, q2, q3, q4, -⟩ := XF.c5
    refine bodyPost_ret (v := .agg #[.slice none 0 0, .slice none 0 0, .int .i64 0, .int .i64 0, .int .i64 1]) (by simp [results, Try.results6, go_sem, q0, q1, q2, q3, q4]) rfl ?_
    replace hno := hno.out
    rw [hno.1, hno.2.1, hno.2.2.1, hno.2.2.2.1, hno.2.2.2.2]
    exact givesSO_no 1 (D.out.within (within_set5 _ _ _ _ _ _ _) (by omega))
  cases hcR : contB d g
  · have hno := Lib.hid (sp_form (l := l) (s := s) (q := q) (n := n) (d := d) (g := g) H0.out (fun h => by rw [h.2.2.2] at hcR; cases hcR))
    go_wp2_with (first | (go_at_call 22; refine (impl_setRight am as_ c1 c2 l s _ hl hs hd hwd (R2.out _ D.out).1 (R2.out _ D.out).2.2).mono ?_; rintro e w1 ⟨rfl, hb⟩; rw [hsA]; replace XR := Lib.hid (XR.out.below hb); replace XA := Lib.hid (XA.out.below hb); replace D := Lib.hid (D.out.below hb); clear hb a0 a1 r0 r1 r2 r3 r4 f0 f1 f2 f3 f4; obtain ⟨a0, a1, _⟩ := XA.out.c2; obtain ⟨r0, r1, r2, r3, r4, f0, f1, f2, f3, f4⟩ := XR.out.c5) | (go_at_call 37; refine (seenRight bm c3 q _ hq (R2.out _ D.out).2.1).mono ?_; rintro e w2 ⟨rfl, hb⟩; rw [hqR]; replace XR := Lib.hid (XR.out.below hb); replace XA := Lib.hid (XA.out.below hb); replace D := Lib.hid (D.out.below hb); clear hb a0 a1 r0 r1 r2 r3 r4 f0 f1 f2 f3 f4; obtain ⟨a0, a1, _⟩ := XA.out.c2; obtain ⟨r0, r1, r2, r3, r4, f0, f1, f2, f3, f4⟩ := XR.out.c5) | (go_at_call 38; refine (nodeRight n _).mono ?_; rintro e w3 ⟨rfl, rfl⟩; rw [hnR]) | (go_at_call 39; refine (contentRight d g _ hdz).mono ?_; rintro e w4 ⟨rfl, rfl⟩; rw [hcR]))
    have XF := cells_set5 XR.out (.slice none 0 0) (.slice none 0 0) (.int .i64 0) (.int .i64 0) (.int .i64 1)
    obtain ⟨q0, q1, q2, q3, q4, -⟩ := XF.c5
    refine bodyPost_ret (v := .agg #[.slice none 0 0, .slice none 0 0, .int .i64 0, .int .i64 0, .int .i64 1]) (by simp [results, Try.results6, go_sem, q0, q1, q2, q3, q4]) rfl ?_
    replace hno := hno.out
    rw [hno.1, hno.2.1, hno.2.2.1, hno.2.2.2.1, hno.2.2.2.2]
    exact givesSO_no 1 (D.out.within (within_set5 _ _ _ _ _ _ _) (by omega))
  have HOK := Lib.hid (⟨hsA, hqR, hnR, hcR⟩ : PutOk l s q n d g)
  go_upto_region 5 with (first | (go_at_call 22; refine (impl_setRight am as_ c1 c2 l s _ hl hs hd hwd (R2.out _ D.out).1 (R2.out _ D.out).2.2).mono ?_; rintro e w1 ⟨rfl, hb⟩; rw [hsA]; replace XR := Lib.hid (XR.out.below hb); replace XA := Lib.hid (XA.out.below hb); replace D := Lib.hid (D.out.below hb); clear hb a0 a1 r0 r1 r2 r3 r4 f0 f1 f2 f3 f4; obtain ⟨a0, a1, _⟩ := XA.out.c2; obtain ⟨r0, r1, r2, r3, r4, f0, f1, f2, f3, f4⟩ := XR.out.c5) | (go_at_call 37; refine (seenRight bm c3 q _ hq (R2.out _ D.out).2.1).mono ?_; rintro e w2 ⟨rfl, hb⟩; rw [hqR]; replace XR := Lib.hid (XR.out.below hb); replace XA := Lib.hid (XA.out.below hb); replace D := Lib.hid (D.out.below hb); clear hb a0 a1 r0 r1 r2 r3 r4 f0 f1 f2 f3 f4; obtain ⟨a0, a1, _⟩ := XA.out.c2; obtain ⟨r0, r1, r2, r3, r4, f0, f1, f2, f3, f4⟩ := XR.out.c5) | (go_at_call 38; refine (nodeRight n _).mono ?_; rintro e w3 ⟨rfl, rfl⟩; rw [hnR]) | (go_at_call 39; refine (contentRight d g _ hdz).mono ?_; rintro e w4 ⟨rfl, rfl⟩; rw [hcR]))
  have hs8 := setB_len hsA
  have hrj := join_right (setB_right hsA) hqR
  have hj5 := joinV_length l q
  obtain ⟨v, hv⟩ : ∃ v, seenOf (joinV l q) n = v := ⟨_, rfl⟩
  have hv1 : 0 ≤ v ∧ v ≤ 1000000 := by rw [← hv]; unfold seenOf; rw [if_pos hrj]; exact ofL_nonneg hrj n
  have HV := Lib.hid hv
  have HN := Lib.hid (show putN l q n = v + 1 by unfold putN; rw [hv])
  clear hv
  obtain ⟨J, hJ⟩ : ∃ J, joinV l q = J := ⟨_, rfl⟩
  have HJ := Lib.hid hJ
  rw [hJ] at HV hj5 hrj
  clear hJ
  have tok : True := trivial
  go_upto_region 7 with (first | (clear tok; go_at_call 40; refine (impl_seenJoin am bm c1 c3 l q _ hl hq (R2.out _ D.out).1 (R2.out _ D.out).2.1).mono ?_; rintro e w5 ⟨ja, jc, rfl, hjo, hb⟩; rw [HJ.out]; rw [HJ.out] at hjo; have JO := Lib.hid (show OwnI w5 _ w5.heap.size ja J from ⟨hjo, Nat.le_refl _⟩); have hz5 := hb.size; replace XR := Lib.hid (XR.out.below hb); replace XA := Lib.hid (XA.out.below hb); replace D := Lib.hid (D.out.below hb); clear hb a0 a1 r0 r1 r2 r3 r4 f0 f1 f2 f3 f4; obtain ⟨a0, a1, _⟩ := XA.out.c2; obtain ⟨r0, r1, r2, r3, r4, f0, f1, f2, f3, f4⟩ := XR.out.c5; clear hjo) | (go_at_call 41; refine (impl_seenOf ja jc J n _ (by unfold maxLen; omega) hwn (OwnIn.at_ JO.out.1)).mono ?_; rintro e w6 ⟨rfl, hb⟩; rw [HV.out]; replace JO := Lib.hid (JO.out.below hb); have hz6 := hb.size; replace XR := Lib.hid (XR.out.below hb); replace XA := Lib.hid (XA.out.below hb); replace D := Lib.hid (D.out.below hb); clear hb a0 a1 r0 r1 r2 r3 r4 f0 f1 f2 f3 f4; obtain ⟨a0, a1, _⟩ := XA.out.c2; obtain ⟨r0, r1, r2, r3, r4, f0, f1, f2, f3, f4⟩ := XR.out.c5))
  have XM := Lib.hid (Cells.new w6 #[.int .i64 n, .int .i64 (v + 1)] 30)
  have hb7 := step_alloc w6 (.cells #[.int .i64 n, .int .i64 (v + 1)] 30)
  have hz7 := World.size_alloc w6 (.cells #[.int .i64 n, .int .i64 (v + 1)] 30)
  simp only [List.toList_toArray] at XM
  obtain ⟨M, hM⟩ : ∃ M, w6.heap.size = M := ⟨_, rfl⟩
  have hM2 : w.heap.size + 2 ≤ M := by have := XR.out.lt; omega
  generalize w6.alloc (.cells #[.int .i64 n, .int .i64 (v + 1)] 30) = w7 at XM hb7 hz7 ⊢
  replace XA := Lib.hid (XA.out.below hb7)
  replace XR := Lib.hid (XR.out.below hb7)
  replace JO := Lib.hid (JO.out.below hb7)
  replace D := Lib.hid (D.out.below hb7)
  rw [hM] at XM hz7 ⊢
  clear hb7 a0 a1 r0 r1 r2 r3 r4 f0 f1 f2 f3 f4
  have hcl : (collect (uns s q)).length ≤ 1000 := by rw [collect_length]; have := List.length_filter_le (fun x : Sib => !hasB q x.1) s; unfold uns; omega
  have HCM := Lib.hid (show Mono (collect (uns s q)) from collect_mono (uns s q) [] (fun k hk => absurd hk (by simp)))
  go_cut [13] (fun sl wx => ∃ (T : Nat) (qa : Option Addr) (qc lo hi : Nat), sl = .pointer (some ⟨T, 0, none⟩) ∧ Var2 wx T (.slice qa (ins (collect (uns s q)) ((n, v + 1), g, d)).length qc) (.func (.func 93) #[] #[]) ∧ ROwnI 4 senc wx lo hi qa (ins (collect (uns s q)) ((n, v + 1), g, d)) ∧ Head qa (ins (collect (uns s q)) ((n, v + 1), g, d)).length qc ∧ Base w7 wx ∧ w7.heap.size ≤ lo ∧ w7.heap.size ≤ T)
  case first =>
    have D7 := Lib.hid (show Base w7 w7 from Below.refl _ _)
    clear JO XR
    have hb := step_drew w7
    replace XA := Lib.hid (XA.out.below hb)
    replace XM := Lib.hid (XM.out.below hb)
    replace D := Lib.hid (D.out.below hb)
    replace D7 := Lib.hid (D7.out.below hb)
    clear hb
    refine wp_region_held_drew (S := (fun w' => w'.cell? ⟨w.heap.size, 1, none⟩ = some (.slice as_ s.length c2) ∧ w'.cell? ⟨M, 0, none⟩ = some (.int .i64 n) ∧ w'.cell? ⟨M, 1, none⟩ = some (.int .i64 (v + 1)))) (by kernel_rfl) (by exact ⟨XA.out.c2.2.1, XM.out.c2.1, XM.out.c2.2.1⟩) (fun hHeld => ?_)
    have Zd : w7.heap.size ≤ w7.drew.heap.size := Nat.le_refl _
    generalize w7.drew = wd at Zd hHeld XA XM D D7 ⊢
    refine tk 0 (v := ?_) ?_
    try simp only [Act.put, n1, n2, n3, n4, n5, n6]
    refine tk 1 (v := ?_) ?_
    try simp only [Act.put, n1, n2, n3, n4, n5, n6]
    refine tk 2 (v := ?_) ?_
    try simp only [Act.put, n1, n2, n3, n4, n5, n6]
    refine tk 5 (v := ?_) ?_
    try simp only [Act.put, n1, n2, n3, n4, n5, n6]
    refine tk 6 (v := ?_) ?_
    try simp only [Act.put, n1, n2, n3, n4, n5, n6]
    refine tk 7 (v := ?_) ?_
    try simp only [Act.put, n1, n2, n3, n4, n5, n6]
    refine tk 8 (v := ?_) ?_
    try simp only [Act.put, n1, n2, n3, n4, n5, n6]
    refine wpAnyH_ready (rs := [3, 10]) (by kernel_rfl) (by simp) ?_
    refine AllReadyH.cons rfl (fun K hK => ?_) ?_
    · go_simp
      refine (unseen_ as_ bm s.length q.length c2 c3 wd).mono ?_
      rintro e wc3 ⟨rfl, hys, hym, hb⟩
      have YS := Lib.hid hys
      have YM := Lib.hid hym
      clear hys hym
      replace XA := Lib.hid (XA.out.below hb)
      replace XM := Lib.hid (XM.out.below hb)
      replace D := Lib.hid (D.out.below hb)
      replace D7 := Lib.hid (D7.out.below hb)
      have Zc0 := hb.size
      clear hb
      go_wp2_with fail
      refine hK.out _ _ (by exact ⟨XA.out.c2.2.1, XM.out.c2.1, XM.out.c2.2.1⟩) (fun hHeld => ?_)
      clear hK K
      try simp only [Act.put, n1, n2, n3, n4, n5, n6]
      refine wpAnyH_ready (rs := [4, 10]) (by kernel_rfl) (by simp) ?_
      refine AllReadyH.cons rfl (fun K hK => ?_) ?_
      · go_simp
        refine (callsIn_wide.1 (collected_in 10 78 _ (uns s q) s.length wc3 (by omega) (by omega) (enters_of Try.func78 (by kernel_rfl) rfl) (fun W0 hW0 => unseen1_T 9 _ _ as_ bm c2 c3 s q (W0.heap.size + 2) 0 (by omega) (by omega) hq hwd _ W0 (YS.out.below hW0) (YM.out.below hW0) (.inl YS.out.lt) (.inl YM.out.lt) (R2.out _ D.out).2.1 (R2.out _ D.out).2.2 hW0))).mono ?_
        rintro e wc4 ⟨ka, kc, rfl, hkh, hko, hb⟩
        have KO := Lib.hid (show ROwnI 4 senc wc4 wc3.heap.size wc4.heap.size ka (collect (uns s q)) from ⟨hko, Nat.le_refl _⟩)
        have KH := Lib.hid hkh
        clear hko hkh
        replace XA := Lib.hid (XA.out.below hb)
        replace XM := Lib.hid (XM.out.below hb)
        replace D := Lib.hid (D.out.below hb)
        replace D7 := Lib.hid (D7.out.below hb)
        replace YS := Lib.hid (YS.out.below hb)
        replace YM := Lib.hid (YM.out.below hb)
        have Zc1 := hb.size
        clear hb
        go_wp2_with fail
        refine hK.out _ _ (by exact ⟨XA.out.c2.2.1, XM.out.c2.1, XM.out.c2.2.1⟩) (fun hHeld => ?_)
        clear hK K
        try simp only [Act.put, n1, n2, n3, n4, n5, n6]
        refine wpAnyH_ready (rs := [9, 10]) (by kernel_rfl) (by simp) ?_
        refine AllReadyH.cons rfl (fun K hK => ?_) ?_
        · go_simp
          refine (with_ ka kc (collect (uns s q)) ((n, v + 1), g, d) wc4 hcl KH.out HCM.out (ROwnIn.at_ KO.out.1)).mono ?_
          rintro e wc9 ⟨qa, qc, rfl, hqh, hqo, hb⟩
          unfold ordF
          have QO := Lib.hid (show ROwnI 4 senc wc9 wc4.heap.size wc9.heap.size qa (ins (collect (uns s q)) ((n, v + 1), g, d)) from ⟨hqo, Nat.le_refl _⟩)
          have QH := Lib.hid hqh
          clear hqo hqh
          replace XA := Lib.hid (XA.out.below hb)
          replace XM := Lib.hid (XM.out.below hb)
          replace D := Lib.hid (D.out.below hb)
          replace D7 := Lib.hid (D7.out.below hb)
          replace KO := Lib.hid (KO.out.below hb)
          have Zc2 := hb.size
          clear hb
          go_wp2_with fail
          refine hK.out _ _ (by exact ⟨XA.out.c2.2.1, XM.out.c2.1, XM.out.c2.2.1⟩) (fun hHeld => ?_)
          clear hK K
          try simp only [Act.put, n1, n2, n3, n4, n5, n6]
          refine wpAnyH_ready (rs := [10]) (by kernel_rfl) (by simp) ?_
          refine AllReadyH.cons rfl (fun K hK => ?_) AllReadyH.nil
          go_simp
          have hb := step_alloc wc9 (.cells #[.slice none 0 0, .nilFunc] 69)
          replace XA := Lib.hid (XA.out.below hb)
          replace XM := Lib.hid (XM.out.below hb)
          replace D := Lib.hid (D.out.below hb)
          replace D7 := Lib.hid (D7.out.below hb)
          replace QO := Lib.hid (QO.out.below hb)
          clear hb
          have NV := Lib.hid (New2.new wc9 (.slice none 0 0) (.nilFunc) 69)
          have Za : wc9.heap.size < (wc9.alloc (.cells #[.slice none 0 0, .nilFunc] 69)).heap.size := by simp
          obtain ⟨gb, hgb⟩ : ∃ gb, gb = wc9.heap.size := ⟨_, rfl⟩
          have Qa : wc9.heap.size ≤ gb := by omega
          have Qb : gb < (wc9.alloc (.cells #[.slice none 0 0, .nilFunc] 69)).heap.size := by omega
          rw [← hgb] at NV ⊢
          clear hgb
          generalize wc9.alloc (.cells #[.slice none 0 0, .nilFunc] 69) = wa at NV Za Qb XA XM D D7 QO ⊢
          refine hK.out _ _ (by exact ⟨XA.out.c2.2.1, XM.out.c2.1, XM.out.c2.2.1⟩) (fun hHeld => ?_)
          clear hK K
          try simp only [Act.put, n1, n2, n3, n4, n5, n6]
          obtain ⟨nv0, nv1, nf0, nf1, nl⟩ := NV.out
          refine wpAnyH_ready (rs := [11]) (by kernel_rfl) (by simp) ?_
          refine AllReadyH.cons rfl (fun K hK => ?_) AllReadyH.nil
          go_simp
          have hw := ((Within.refl gb (gb + 1) wa).setCell (p := ⟨gb, 0, none⟩) (Nat.le_refl _) (Nat.lt_succ_self _) (.slice qa (ins (collect (uns s q)) ((n, v + 1), g, d)).length qc)).setCell (p := ⟨gb, 1, none⟩) (Nat.le_refl _) (Nat.lt_succ_self _) (.func (.func 93) #[] #[])
          have V := Lib.hid (NV.out.store (.slice qa (ins (collect (uns s q)) ((n, v + 1), g, d)).length qc) (.func (.func 93) #[] #[]))
          replace XA := Lib.hid (XA.out.within hw (by omega))
          replace XM := Lib.hid (XM.out.within hw (by omega))
          replace D := Lib.hid (D.out.within hw (by omega))
          replace D7 := Lib.hid (D7.out.within hw (by omega))
          replace QO := Lib.hid (QO.out.within hw (by omega))
          have Zs : wa.heap.size ≤ (World.setCell (World.setCell wa ⟨gb, 0, none⟩ (.slice qa (ins (collect (uns s q)) ((n, v + 1), g, d)).length qc)) ⟨gb, 1, none⟩ (.func (.func 93) #[] #[])).heap.size := hw.size
          clear hw NV nv0 nv1 nf0 nf1 nl
          generalize (World.setCell (World.setCell wa ⟨gb, 0, none⟩ (.slice qa (ins (collect (uns s q)) ((n, v + 1), g, d)).length qc)) ⟨gb, 1, none⟩ (.func (.func 93) #[] #[])) = wz at V Zs XA XM D D7 QO ⊢
          refine hK.out _ _ (by exact ⟨XA.out.c2.2.1, XM.out.c2.1, XM.out.c2.2.1⟩) (fun hHeld => ?_)
          clear hK K
          try simp only [Act.put, n1, n2, n3, n4, n5, n6]
          refine wpAnyH_done (by kernel_rfl) ?_ _
          go_wp2_with fail
          go_meet
          exact ⟨gb, qa, qc, _, _, rfl, V.out, QO.out, QH.out, D7.out, by omega, by omega⟩
        refine AllReadyH.cons rfl (fun K hK => ?_) AllReadyH.nil
        go_simp
        have hb := step_alloc wc4 (.cells #[.slice none 0 0, .nilFunc] 69)
        replace XA := Lib.hid (XA.out.below hb)
        replace XM := Lib.hid (XM.out.below hb)
        replace D := Lib.hid (D.out.below hb)
        replace D7 := Lib.hid (D7.out.below hb)
        replace KO := Lib.hid (KO.out.below hb)
        clear hb
        have NV := Lib.hid (New2.new wc4 (.slice none 0 0) (.nilFunc) 69)
        have Za : wc4.heap.size < (wc4.alloc (.cells #[.slice none 0 0, .nilFunc] 69)).heap.size := by simp
        obtain ⟨gb, hgb⟩ : ∃ gb, gb = wc4.heap.size := ⟨_, rfl⟩
        have Qa : wc4.heap.size ≤ gb := by omega
        have Qb : gb < (wc4.alloc (.cells #[.slice none 0 0, .nilFunc] 69)).heap.size := by omega
        rw [← hgb] at NV ⊢
        clear hgb
        generalize wc4.alloc (.cells #[.slice none 0 0, .nilFunc] 69) = wa at NV Za Qb XA XM D D7 KO ⊢
        refine hK.out _ _ (by exact ⟨XA.out.c2.2.1, XM.out.c2.1, XM.out.c2.2.1⟩) (fun hHeld => ?_)
        clear hK K
        try simp only [Act.put, n1, n2, n3, n4, n5, n6]
        refine wpAnyH_ready (rs := [9]) (by kernel_rfl) (by simp) ?_
        refine AllReadyH.cons rfl (fun K hK => ?_) AllReadyH.nil
        go_simp
        refine (with_ ka kc (collect (uns s q)) ((n, v + 1), g, d) wa hcl KH.out HCM.out (ROwnIn.at_ KO.out.1)).mono ?_
        rintro e wc9 ⟨qa, qc, rfl, hqh, hqo, hb⟩
        unfold ordF
        have QO := Lib.hid (show ROwnI 4 senc wc9 wa.heap.size wc9.heap.size qa (ins (collect (uns s q)) ((n, v + 1), g, d)) from ⟨hqo, Nat.le_refl _⟩)
        have QH := Lib.hid hqh
        clear hqo hqh
        replace XA := Lib.hid (XA.out.below hb)
        replace XM := Lib.hid (XM.out.below hb)
        replace D := Lib.hid (D.out.below hb)
        replace D7 := Lib.hid (D7.out.below hb)
        replace KO := Lib.hid (KO.out.below hb)
        replace NV := Lib.hid (NV.out.below hb)
        have Zc2 := hb.size
        clear hb
        go_wp2_with fail
        refine hK.out _ _ (by exact ⟨XA.out.c2.2.1, XM.out.c2.1, XM.out.c2.2.1⟩) (fun hHeld => ?_)
        clear hK K
        try simp only [Act.put, n1, n2, n3, n4, n5, n6]
        obtain ⟨nv0, nv1, nf0, nf1, nl⟩ := NV.out
        refine wpAnyH_ready (rs := [11]) (by kernel_rfl) (by simp) ?_
        refine AllReadyH.cons rfl (fun K hK => ?_) AllReadyH.nil
        go_simp
        have hw := ((Within.refl gb (gb + 1) wc9).setCell (p := ⟨gb, 0, none⟩) (Nat.le_refl _) (Nat.lt_succ_self _) (.slice qa (ins (collect (uns s q)) ((n, v + 1), g, d)).length qc)).setCell (p := ⟨gb, 1, none⟩) (Nat.le_refl _) (Nat.lt_succ_self _) (.func (.func 93) #[] #[])
        have V := Lib.hid (NV.out.store (.slice qa (ins (collect (uns s q)) ((n, v + 1), g, d)).length qc) (.func (.func 93) #[] #[]))
        replace XA := Lib.hid (XA.out.within hw (by omega))
        replace XM := Lib.hid (XM.out.within hw (by omega))
        replace D := Lib.hid (D.out.within hw (by omega))
        replace D7 := Lib.hid (D7.out.within hw (by omega))
        replace QO := Lib.hid (QO.out.within hw (by omega))
        have Zs : wc9.heap.size ≤ (World.setCell (World.setCell wc9 ⟨gb, 0, none⟩ (.slice qa (ins (collect (uns s q)) ((n, v + 1), g, d)).length qc)) ⟨gb, 1, none⟩ (.func (.func 93) #[] #[])).heap.size := hw.size
        clear hw NV nv0 nv1 nf0 nf1 nl
        generalize (World.setCell (World.setCell wc9 ⟨gb, 0, none⟩ (.slice qa (ins (collect (uns s q)) ((n, v + 1), g, d)).length qc)) ⟨gb, 1, none⟩ (.func (.func 93) #[] #[])) = wz at V Zs XA XM D D7 QO ⊢
        refine hK.out _ _ (by exact ⟨XA.out.c2.2.1, XM.out.c2.1, XM.out.c2.2.1⟩) (fun hHeld => ?_)
        clear hK K
        try simp only [Act.put, n1, n2, n3, n4, n5, n6]
        refine wpAnyH_done (by kernel_rfl) ?_ _
        go_wp2_with fail
        go_meet
        exact ⟨gb, qa, qc, _, _, rfl, V.out, QO.out, QH.out, D7.out, by omega, by omega⟩
      refine AllReadyH.cons rfl (fun K hK => ?_) AllReadyH.nil
      go_simp
      have hb := step_alloc wc3 (.cells #[.slice none 0 0, .nilFunc] 69)
      replace XA := Lib.hid (XA.out.below hb)
      replace XM := Lib.hid (XM.out.below hb)
      replace D := Lib.hid (D.out.below hb)
      replace D7 := Lib.hid (D7.out.below hb)
      replace YS := Lib.hid (YS.out.below hb)
      replace YM := Lib.hid (YM.out.below hb)
      clear hb
      have NV := Lib.hid (New2.new wc3 (.slice none 0 0) (.nilFunc) 69)
      have Za : wc3.heap.size < (wc3.alloc (.cells #[.slice none 0 0, .nilFunc] 69)).heap.size := by simp
      obtain ⟨gb, hgb⟩ : ∃ gb, gb = wc3.heap.size := ⟨_, rfl⟩
      have Qa : wc3.heap.size ≤ gb := by omega
      have Qb : gb < (wc3.alloc (.cells #[.slice none 0 0, .nilFunc] 69)).heap.size := by omega
      rw [← hgb] at NV ⊢
      clear hgb
      generalize wc3.alloc (.cells #[.slice none 0 0, .nilFunc] 69) = wa at NV Za Qb XA XM D D7 YS YM ⊢
      refine hK.out _ _ (by exact ⟨XA.out.c2.2.1, XM.out.c2.1, XM.out.c2.2.1⟩) (fun hHeld => ?_)
      clear hK K
      try simp only [Act.put, n1, n2, n3, n4, n5, n6]
      refine wpAnyH_ready (rs := [4]) (by kernel_rfl) (by simp) ?_
      refine AllReadyH.cons rfl (fun K hK => ?_) AllReadyH.nil
      go_simp
      refine (callsIn_wide.1 (collected_in 10 78 _ (uns s q) s.length wa (by omega) (by omega) (enters_of Try.func78 (by kernel_rfl) rfl) (fun W0 hW0 => unseen1_T 9 _ _ as_ bm c2 c3 s q (W0.heap.size + 2) 0 (by omega) (by omega) hq hwd _ W0 (YS.out.below hW0) (YM.out.below hW0) (.inl YS.out.lt) (.inl YM.out.lt) (R2.out _ D.out).2.1 (R2.out _ D.out).2.2 hW0))).mono ?_
      rintro e wc4 ⟨ka, kc, rfl, hkh, hko, hb⟩
      have KO := Lib.hid (show ROwnI 4 senc wc4 wa.heap.size wc4.heap.size ka (collect (uns s q)) from ⟨hko, Nat.le_refl _⟩)
      have KH := Lib.hid hkh
      clear hko hkh
      replace XA := Lib.hid (XA.out.below hb)
      replace XM := Lib.hid (XM.out.below hb)
      replace D := Lib.hid (D.out.below hb)
      replace D7 := Lib.hid (D7.out.below hb)
      replace YS := Lib.hid (YS.out.below hb)
      replace YM := Lib.hid (YM.out.below hb)
      replace NV := Lib.hid (NV.out.below hb)
      have Zc1 := hb.size
      clear hb
      go_wp2_with fail
      refine hK.out _ _ (by exact ⟨XA.out.c2.2.1, XM.out.c2.1, XM.out.c2.2.1⟩) (fun hHeld => ?_)
      clear hK K
      try simp only [Act.put, n1, n2, n3, n4, n5, n6]
      refine wpAnyH_ready (rs := [9]) (by kernel_rfl) (by simp) ?_
      refine AllReadyH.cons rfl (fun K hK => ?_) AllReadyH.nil
      go_simp
      refine (with_ ka kc (collect (uns s q)) ((n, v + 1), g, d) wc4 hcl KH.out HCM.out (ROwnIn.at_ KO.out.1)).mono ?_
      rintro e wc9 ⟨qa, qc, rfl, hqh, hqo, hb⟩
      unfold ordF
      have QO := Lib.hid (show ROwnI 4 senc wc9 wc4.heap.size wc9.heap.size qa (ins (collect (uns s q)) ((n, v + 1), g, d)) from ⟨hqo, Nat.le_refl _⟩)
      have QH := Lib.hid hqh
      clear hqo hqh
      replace XA := Lib.hid (XA.out.below hb)
      replace XM := Lib.hid (XM.out.below hb)
      replace D := Lib.hid (D.out.below hb)
      replace D7 := Lib.hid (D7.out.below hb)
      replace KO := Lib.hid (KO.out.below hb)
      replace NV := Lib.hid (NV.out.below hb)
      have Zc2 := hb.size
      clear hb
      go_wp2_with fail
      refine hK.out _ _ (by exact ⟨XA.out.c2.2.1, XM.out.c2.1, XM.out.c2.2.1⟩) (fun hHeld => ?_)
      clear hK K
      try simp only [Act.put, n1, n2, n3, n4, n5, n6]
      obtain ⟨nv0, nv1, nf0, nf1, nl⟩ := NV.out
      refine wpAnyH_ready (rs := [11]) (by kernel_rfl) (by simp) ?_
      refine AllReadyH.cons rfl (fun K hK => ?_) AllReadyH.nil
      go_simp
      have hw := ((Within.refl gb (gb + 1) wc9).setCell (p := ⟨gb, 0, none⟩) (Nat.le_refl _) (Nat.lt_succ_self _) (.slice qa (ins (collect (uns s q)) ((n, v + 1), g, d)).length qc)).setCell (p := ⟨gb, 1, none⟩) (Nat.le_refl _) (Nat.lt_succ_self _) (.func (.func 93) #[] #[])
      have V := Lib.hid (NV.out.store (.slice qa (ins (collect (uns s q)) ((n, v + 1), g, d)).length qc) (.func (.func 93) #[] #[]))
      replace XA := Lib.hid (XA.out.within hw (by omega))
      replace XM := Lib.hid (XM.out.within hw (by omega))
      replace D := Lib.hid (D.out.within hw (by omega))
      replace D7 := Lib.hid (D7.out.within hw (by omega))
      replace QO := Lib.hid (QO.out.within hw (by omega))
      have Zs : wc9.heap.size ≤ (World.setCell (World.setCell wc9 ⟨gb, 0, none⟩ (.slice qa (ins (collect (uns s q)) ((n, v + 1), g, d)).length qc)) ⟨gb, 1, none⟩ (.func (.func 93) #[] #[])).heap.size := hw.size
      clear hw NV nv0 nv1 nf0 nf1 nl
      generalize (World.setCell (World.setCell wc9 ⟨gb, 0, none⟩ (.slice qa (ins (collect (uns s q)) ((n, v + 1), g, d)).length qc)) ⟨gb, 1, none⟩ (.func (.func 93) #[] #[])) = wz at V Zs XA XM D D7 QO ⊢
      refine hK.out _ _ (by exact ⟨XA.out.c2.2.1, XM.out.c2.1, XM.out.c2.2.1⟩) (fun hHeld => ?_)
      clear hK K
      try simp only [Act.put, n1, n2, n3, n4, n5, n6]
      refine wpAnyH_done (by kernel_rfl) ?_ _
      go_wp2_with fail
      go_meet
      exact ⟨gb, qa, qc, _, _, rfl, V.out, QO.out, QH.out, D7.out, by omega, by omega⟩
    refine AllReadyH.cons rfl (fun K hK => ?_) AllReadyH.nil
    go_simp
    have hb := step_alloc wd (.cells #[.slice none 0 0, .nilFunc] 69)
    replace XA := Lib.hid (XA.out.below hb)
    replace XM := Lib.hid (XM.out.below hb)
    replace D := Lib.hid (D.out.below hb)
    replace D7 := Lib.hid (D7.out.below hb)
    clear hb
    have NV := Lib.hid (New2.new wd (.slice none 0 0) (.nilFunc) 69)
    have Za : wd.heap.size < (wd.alloc (.cells #[.slice none 0 0, .nilFunc] 69)).heap.size := by simp
    obtain ⟨gb, hgb⟩ : ∃ gb, gb = wd.heap.size := ⟨_, rfl⟩
    have Qa : wd.heap.size ≤ gb := by omega
    have Qb : gb < (wd.alloc (.cells #[.slice none 0 0, .nilFunc] 69)).heap.size := by omega
    rw [← hgb] at NV ⊢
    clear hgb
    generalize wd.alloc (.cells #[.slice none 0 0, .nilFunc] 69) = wa at NV Za Qb XA XM D D7 ⊢
    refine hK.out _ _ (by exact ⟨XA.out.c2.2.1, XM.out.c2.1, XM.out.c2.2.1⟩) (fun hHeld => ?_)
    clear hK K
    try simp only [Act.put, n1, n2, n3, n4, n5, n6]
    refine wpAnyH_ready (rs := [3]) (by kernel_rfl) (by simp) ?_
    refine AllReadyH.cons rfl (fun K hK => ?_) AllReadyH.nil
    go_simp
    refine (unseen_ as_ bm s.length q.length c2 c3 wa).mono ?_
    rintro e wc3 ⟨rfl, hys, hym, hb⟩
    have YS := Lib.hid hys
    have YM := Lib.hid hym
    clear hys hym
    replace XA := Lib.hid (XA.out.below hb)
    replace XM := Lib.hid (XM.out.below hb)
    replace D := Lib.hid (D.out.below hb)
    replace D7 := Lib.hid (D7.out.below hb)
    replace NV := Lib.hid (NV.out.below hb)
    have Zc0 := hb.size
    clear hb
    go_wp2_with fail
    refine hK.out _ _ (by exact ⟨XA.out.c2.2.1, XM.out.c2.1, XM.out.c2.2.1⟩) (fun hHeld => ?_)
    clear hK K
    try simp only [Act.put, n1, n2, n3, n4, n5, n6]
    refine wpAnyH_ready (rs := [4]) (by kernel_rfl) (by simp) ?_
    refine AllReadyH.cons rfl (fun K hK => ?_) AllReadyH.nil
    go_simp
    refine (callsIn_wide.1 (collected_in 10 78 _ (uns s q) s.length wc3 (by omega) (by omega) (enters_of Try.func78 (by kernel_rfl) rfl) (fun W0 hW0 => unseen1_T 9 _ _ as_ bm c2 c3 s q (W0.heap.size + 2) 0 (by omega) (by omega) hq hwd _ W0 (YS.out.below hW0) (YM.out.below hW0) (.inl YS.out.lt) (.inl YM.out.lt) (R2.out _ D.out).2.1 (R2.out _ D.out).2.2 hW0))).mono ?_
    rintro e wc4 ⟨ka, kc, rfl, hkh, hko, hb⟩
    have KO := Lib.hid (show ROwnI 4 senc wc4 wc3.heap.size wc4.heap.size ka (collect (uns s q)) from ⟨hko, Nat.le_refl _⟩)
    have KH := Lib.hid hkh
    clear hko hkh
    replace XA := Lib.hid (XA.out.below hb)
    replace XM := Lib.hid (XM.out.below hb)
    replace D := Lib.hid (D.out.below hb)
    replace D7 := Lib.hid (D7.out.below hb)
    replace YS := Lib.hid (YS.out.below hb)
    replace YM := Lib.hid (YM.out.below hb)
    replace NV := Lib.hid (NV.out.below hb)
    have Zc1 := hb.size
    clear hb
    go_wp2_with fail
    refine hK.out _ _ (by exact ⟨XA.out.c2.2.1, XM.out.c2.1, XM.out.c2.2.1⟩) (fun hHeld => ?_)
    clear hK K
    try simp only [Act.put, n1, n2, n3, n4, n5, n6]
    refine wpAnyH_ready (rs := [9]) (by kernel_rfl) (by simp) ?_
    refine AllReadyH.cons rfl (fun K hK => ?_) AllReadyH.nil
    go_simp
    refine (with_ ka kc (collect (uns s q)) ((n, v + 1), g, d) wc4 hcl KH.out HCM.out (ROwnIn.at_ KO.out.1)).mono ?_
    rintro e wc9 ⟨qa, qc, rfl, hqh, hqo, hb⟩
    unfold ordF
    have QO := Lib.hid (show ROwnI 4 senc wc9 wc4.heap.size wc9.heap.size qa (ins (collect (uns s q)) ((n, v + 1), g, d)) from ⟨hqo, Nat.le_refl _⟩)
    have QH := Lib.hid hqh
    clear hqo hqh
    replace XA := Lib.hid (XA.out.below hb)
    replace XM := Lib.hid (XM.out.below hb)
    replace D := Lib.hid (D.out.below hb)
    replace D7 := Lib.hid (D7.out.below hb)
    replace KO := Lib.hid (KO.out.below hb)
    replace NV := Lib.hid (NV.out.below hb)
    have Zc2 := hb.size
    clear hb
    go_wp2_with fail
    refine hK.out _ _ (by exact ⟨XA.out.c2.2.1, XM.out.c2.1, XM.out.c2.2.1⟩) (fun hHeld => ?_)
    clear hK K
    try simp only [Act.put, n1, n2, n3, n4, n5, n6]
    obtain ⟨nv0, nv1, nf0, nf1, nl⟩ := NV.out
    refine wpAnyH_ready (rs := [11]) (by kernel_rfl) (by simp) ?_
    refine AllReadyH.cons rfl (fun K hK => ?_) AllReadyH.nil
    go_simp
    have hw := ((Within.refl gb (gb + 1) wc9).setCell (p := ⟨gb, 0, none⟩) (Nat.le_refl _) (Nat.lt_succ_self _) (.slice qa (ins (collect (uns s q)) ((n, v + 1), g, d)).length qc)).setCell (p := ⟨gb, 1, none⟩) (Nat.le_refl _) (Nat.lt_succ_self _) (.func (.func 93) #[] #[])
    have V := Lib.hid (NV.out.store (.slice qa (ins (collect (uns s q)) ((n, v + 1), g, d)).length qc) (.func (.func 93) #[] #[]))
    replace XA := Lib.hid (XA.out.within hw (by omega))
    replace XM := Lib.hid (XM.out.within hw (by omega))
    replace D := Lib.hid (D.out.within hw (by omega))
    replace D7 := Lib.hid (D7.out.within hw (by omega))
    replace QO := Lib.hid (QO.out.within hw (by omega))
    have Zs : wc9.heap.size ≤ (World.setCell (World.setCell wc9 ⟨gb, 0, none⟩ (.slice qa (ins (collect (uns s q)) ((n, v + 1), g, d)).length qc)) ⟨gb, 1, none⟩ (.func (.func 93) #[] #[])).heap.size := hw.size
    clear hw NV nv0 nv1 nf0 nf1 nl
    generalize (World.setCell (World.setCell wc9 ⟨gb, 0, none⟩ (.slice qa (ins (collect (uns s q)) ((n, v + 1), g, d)).length qc)) ⟨gb, 1, none⟩ (.func (.func 93) #[] #[])) = wz at V Zs XA XM D D7 QO ⊢
    refine hK.out _ _ (by exact ⟨XA.out.c2.2.1, XM.out.c2.1, XM.out.c2.2.1⟩) (fun hHeld => ?_)
    clear hK K
    try simp only [Act.put, n1, n2, n3, n4, n5, n6]
    refine wpAnyH_done (by kernel_rfl) ?_ _
    go_wp2_with fail
    go_meet
    exact ⟨gb, qa, qc, _, _, rfl, V.out, QO.out, QH.out, D7.out, by omega, by omega⟩
  case rest =>
    obtain ⟨T, qa, qc, lo, hi, rfl, hV, hQ, hH, hb, z1, z2⟩ := hcut
    have XT := Lib.hid hV
    have QO := Lib.hid hQ
    have QH := Lib.hid hH
    replace XA := Lib.hid (XA.out.below hb)
    replace XR := Lib.hid (XR.out.below hb)
    replace XM := Lib.hid (XM.out.below hb)
    replace JO := Lib.hid (JO.out.below hb)
    replace D := Lib.hid (D.out.below hb)
    have hzc := hb.size
    have hQ2 := hQ.2
    have hTl := hV.lt
    clear hV hQ hH hb HCM
    obtain ⟨P, hP⟩ : ∃ P, (ins (collect (uns s q)) ((n, v + 1), g, d)) = P := ⟨_, rfl⟩
    have HP := Lib.hid (show putS l s q n d g = P by unfold putS; rw [HN.out]; exact hP)
    rw [hP] at XT QO QH
    clear hP
    obtain ⟨m0, m1, _⟩ := XM.out.c2
    obtain ⟨t0, t1, _⟩ := XT.out
    by_cases hfull : v + 1 ≤ 1000000 ∧ P.length ≤ 8
    rotate_left
    · have hno := Lib.hid (sp_full (l := l) (s := s) (q := q) (n := n) (d := d) (g := g) H0.out HOK.out (by rw [HN.out, HP.out]; exact hfull))
      obtain ⟨r0, r1, r2, r3, r4, f0, f1, f2, f3, f4⟩ := XR.out.c5
      by_cases hv6 : v + 1 ≤ 1000000
      · have hv7 : decide ((1000000 : Int) < v + 1) = false := decide_eq_false (by omega)
        have hp7 : decide ((8 : Int) < (P.length : Int)) = true := decide_eq_true (by omega)
        go_wp2_with fail
        have XF := cells_set5 XR.out (.slice none 0 0) (.slice none 0 0) (.int .i64 0) (.int .i64 0) (.int .i64 9)
        obtain ⟨q0, q1, q2, q3, q4, -⟩ := XF.c5
        refine bodyPost_ret (v := .agg #[.slice none 0 0, .slice none 0 0, .int .i64 0, .int .i64 0, .int .i64 9]) (by simp [results, Try.results6, go_sem, q0, q1, q2, q3, q4]) rfl ?_
        replace hno := hno.out
        rw [hno.1, hno.2.1, hno.2.2.1, hno.2.2.2.1, hno.2.2.2.2]
        exact givesSO_no 9 (D.out.within (within_set5 _ _ _ _ _ _ _) (by omega))
      · have hv7 : decide ((1000000 : Int) < v + 1) = true := decide_eq_true (by omega)
        go_wp2_with fail
        have XF := cells_set5 XR.out (.slice none 0 0) (.slice none 0 0) (.int .i64 0) (.int .i64 0) (.int .i64 9)
        obtain ⟨q0, q1, q2, q3, q4, -⟩ := XF.c5
        refine bodyPost_ret (v := .agg #[.slice none 0 0, .slice none 0 0, .int .i64 0, .int .i64 0, .int .i64 9]) (by simp [results, Try.results6, go_sem, q0, q1, q2, q3, q4]) rfl ?_
        replace hno := hno.out
        rw [hno.1, hno.2.1, hno.2.2.1, hno.2.2.2.1, hno.2.2.2.2]
        exact givesSO_no 9 (D.out.within (within_set5 _ _ _ _ _ _ _) (by omega))
    have hok := Lib.hid (sp_ok (l := l) (s := s) (q := q) (n := n) (d := d) (g := g) H0.out HOK.out (by rw [HN.out, HP.out]; exact hfull))
    have hv7 : decide ((1000000 : Int) < v + 1) = false := decide_eq_false (by omega)
    have hp7 : decide ((8 : Int) < (P.length : Int)) = false := decide_eq_false (by omega)
    go_upto_region 10 with fail
    have hfld : ∀ (W : World) (x y : Value), (Instr.field 76 (.agg #[x, y]) 0).run Try.prog W = .ok x W := fun _ _ _ => rfl
    refine wp_region_held_drew (S := fun w' => w'.cell? ⟨M, 0, none⟩ = some (.int .i64 n) ∧ w'.cell? ⟨M, 1, none⟩ = some (.int .i64 (v + 1)) ∧ w'.cell? ⟨T, 0, none⟩ = some (.slice qa P.length qc)) (by kernel_rfl) (by exact ⟨XM.out.c2.1, XM.out.c2.2.1, XT.out.c0⟩) (fun hHeld => ?_)
    refine tk 0 (v := ?_) ?_
    try simp only [Act.put, n1, n2, n3, n4, n5, n6]
    refine tk 1 (v := ?_) ?_
    try simp only [Act.put, n1, n2, n3, n4, n5, n6]
    refine tk 4 (v := ?_) ?_
    try simp only [Act.put, n1, n2, n3, n4, n5, n6]
    refine tk 5 (v := ?_) ?_
    try simp only [Act.put, n1, n2, n3, n4, n5, n6]
    refine tk 7 (v := ?_) ?_
    try simp only [Act.put, n1, n2, n3, n4, n5, n6]
    refine wpAnyH_ready (rs := [2]) (by kernel_rfl) (by simp) ?_
    refine AllReadyH.cons rfl (fun K hK => ?_) AllReadyH.nil
    go_simp
    have hd1 : Below wc.heap.size wc wc.drew := (Below.refl _ _).drew
    replace XM := Lib.hid (XM.out.below hd1)
    replace XT := Lib.hid (XT.out.below hd1)
    replace XR := Lib.hid (XR.out.below hd1)
    replace JO := Lib.hid (JO.out.below hd1)
    replace QO := Lib.hid (QO.out.below hd1)
    replace D := Lib.hid (D.out.below hd1)
    have hz8 : wc.drew.heap.size = wc.heap.size := rfl
    clear hd1
    generalize wc.drew = w8 at XM XT XR JO QO D hz8 ⊢
    refine (impl_seenPut ja jc J (n, v + 1) _ (by unfold maxLen; omega) (OwnIn.at_ JO.out.1)).mono ?_
    rintro e w9 ⟨pa, pc, rfl, hpo, hb⟩
    replace XM := Lib.hid (XM.out.below hb)
    replace XT := Lib.hid (XT.out.below hb)
    replace XR := Lib.hid (XR.out.below hb)
    replace JO := Lib.hid (JO.out.below hb)
    replace QO := Lib.hid (QO.out.below hb)
    replace D := Lib.hid (D.out.below hb)
    have PO := Lib.hid (show OwnI w9 w8.heap.size w9.heap.size pa (putL J (n, v + 1)) from ⟨hpo, Nat.le_refl _⟩)
    have hz9 := hb.size
    clear hb hpo
    go_wp2_with fail
    refine hK.out _ _ (by exact ⟨XM.out.c2.1, XM.out.c2.2.1, XT.out.c0⟩) (fun hHeld => ?_)
    clear hK K
    try simp only [Act.put, n1, n2, n3, n4, n5, n6]
    refine tk 3 (v := ?_) ?_
    try simp only [Act.put, n1, n2, n3, n4, n5, n6]
    refine tk 6 (v := ?_) ?_
    try simp only [Act.put, n1, n2, n3, n4, n5, n6]
    refine tk 8 (v := ?_) ?_
    try simp only [Act.put, n1, n2, n3, n4, n5, n6]
    refine wpAnyH_ready (rs := [9]) (by kernel_rfl) (by simp) ?_
    refine AllReadyH.cons rfl (fun K hK => ?_) AllReadyH.nil
    go_simp
    --op
    obtain ⟨r0, r1, r2, r3, r4, f0, f1, f2, f3, f4⟩ := XR.out.c5
    go_simp
    have XF := Lib.hid (cells_set5 XR.out (.slice pa (putL J (n, v + 1)).length pc) (.slice qa P.length qc) (.int .i64 n) (.int .i64 (v + 1)) (.int .i64 0))
    have hw := within_set5 w9 (w.heap.size + 1) (.slice pa (putL J (n, v + 1)).length pc) (.slice qa P.length qc) (.int .i64 n) (.int .i64 (v + 1)) (.int .i64 0)
    have HWW := Lib.hid hw
    replace XM := Lib.hid (XM.out.within hw (by omega))
    replace XT := Lib.hid (XT.out.within hw (by omega))
    replace QO := Lib.hid (QO.out.within hw (by omega))
    replace PO := Lib.hid (PO.out.within hw (by omega))
    clear hw r0 r1 r2 r3 r4 f0 f1 f2 f3 f4
    refine hK.out _ _ (by exact ⟨XM.out.c2.1, XM.out.c2.2.1, XT.out.c0⟩) (fun hHeld => ?_)
    clear hK K
    try simp only [Act.put, n1, n2, n3, n4, n5, n6]
    refine wpAnyH_done (by kernel_rfl) ?_ _
    go_wp2_with fail
    obtain ⟨q0, q1, q2, q3, q4, -⟩ := XF.out.c5
    refine bodyPost_ret (v := .agg #[.slice pa (putL J (n, v + 1)).length pc, .slice qa P.length qc, .int .i64 n, .int .i64 (v + 1), .int .i64 0]) (by simp [results, Try.results6, go_sem, q0, q1, q2, q3, q4]) rfl ?_
    replace hok := hok.out
    rw [hok.1, hok.2.1, hok.2.2.1, hok.2.2.2.1, hok.2.2.2.2, HN.out, HP.out, HJ.out]
    have hws := HWW.out.size
    exact ⟨pa, pc, qa, qc, w8.heap.size, w9.heap.size, lo, hi, rfl, PO.out.1, QO.out.1, by omega, by omega, by omega, by omega, .inr (by omega), QH.out, D.out.within HWW.out (by omega)⟩
end Go.Proofs.Ytiphlffcgjdoaaa.Sb

namespace Go.Proofs.Ytiphlffcgjdoaaa.Sb
open Go.RowKit Go.Proofs.Ytiphlffcgjdoaaa.Mk Go.Proofs.Ytiphlffcgjdoaaa.Rw
theorem spec_ill (c : Int) (w : World) : Calls Try.prog 53 #[.int .i64 c] w fun e w' => e = .returned (.agg #[.slice none 0 0, .slice none 0 0, .int .i64 0, .int .i64 0, .int .i64 c]) ∧ Below w.heap.size w w' := by
  go_enter Try.func53, Try.ntmps53
  go_wp2
  have XF := Cells.new w #[.slice none 0 0, .slice none 0 0, .int .i64 0, .int .i64 0, .int .i64 c] 32
  obtain ⟨q0, q1, q2, q3, q4, -⟩ := Cells.c5 (show Cells _ _ [.slice none 0 0, .slice none 0 0, .int .i64 0, .int .i64 0, .int .i64 c] from XF)
  exact bodyPost_ret (v := .agg #[.slice none 0 0, .slice none 0 0, .int .i64 0, .int .i64 0, .int .i64 c]) (by simp [results, Try.results53, go_sem, q0, q1, q2, q3, q4]) rfl ⟨rfl, step_alloc w _⟩
end Go.Proofs.Ytiphlffcgjdoaaa.Sb

namespace Go.Proofs.Ytiphlffcgjdoaaa.Mk
open Go.RowKit

theorem spec_max (x y : Int) (w : World) : Calls Try.prog 87 #[.int .i64 x, .int .i64 y] w fun e w' => e = .returned (.int .i64 (imax x y)) ∧ w = w' := by
  by_cases h : y < x
  all_goals
    go_enter Try.func87, Try.ntmps87
    go_wp2
    all_goals go_ret
    all_goals exact ⟨ret_i64 (by unfold imax; split <;> omega), rfl⟩
theorem spec_gives_nil (w w' : World) (g cap : Nat) (hb : Below w.heap.size w w') : Gives w [] (.returned (.slice (some ⟨g, 0, none⟩) 0 cap)) w' := ⟨_, cap, rfl, .inl rfl, hb⟩

set_option maxRecDepth 100000 in
set_option maxHeartbeats 1000000 in
theorem spec_join (a b : Option Addr) (cap cap' : Nat) (l l' : List (Int × Int)) (w : World) (hl : l.length ≤ maxLen) (hl' : l'.length ≤ maxLen) (h : MarksAt w a l) (h' : MarksAt w b l') :
    Calls Try.prog 56 #[.slice a l.length cap, .slice b l'.length cap'] w (Gives w (joinTo l l' 5)) := by
  have H := Lib.hid h
  have H' := Lib.hid h'
  clear h h'
  go_enter Try.func56, Try.ntmps56
  go_wp2
  go_loopw [5, 6] (fun v i wr => ∃ (k : Nat), k ≤ 5 ∧ i = .int .i64 ((k : Int) + 1) ∧ wr.ownsRow w.heap.size 30 2 v (joinTo l l' k).length (flat (joinTo l l' k)) ∧ Below w.heap.size w wr) (fun _ i _ => 6 - (intOf i).toNat)
  case atStart => exact ⟨0, by omega, rfl, World.ownsRow_made w #[] 0 (Nat.le_refl _) (by unfold maxLen; omega) rfl, (Below.refl _ _).alloc (Nat.le_refl _) _⟩
  case round =>
    obtain ⟨k, hk, rfl, ho, hbel⟩ := hrel
    have HO := Lib.hid ho
    have HB := Lib.hid hbel
    clear ho hbel
    by_cases hlt5 : k < 5
    · have HS := Lib.hid (joinTo_succ l l' k)
      have HP : Hid (jpick l l' ((k : Int) + 1) = if 0 < imax (ofL l ((k : Int) + 1)) (ofL l' ((k : Int) + 1)) then some ((k : Int) + 1, imax (ofL l ((k : Int) + 1)) (ofL l' ((k : Int) + 1))) else none) := Lib.hid rfl
      have HL : Hid ((joinTo l l' k).length ≤ 5) := Lib.hid (Nat.le_trans (List.length_filterMap_le _ _) (by simp; omega))
      go_wp2_with fail
      refine (spec_of a cap l ((k : Int) + 1) _ hl (H.out.mono HB.out)).mono ?_
      rintro e w' ⟨rfl, rfl⟩
      go_wp2_with fail
      refine (spec_of b cap' l' ((k : Int) + 1) _ hl' (H'.out.mono HB.out)).mono ?_
      rintro e w' ⟨rfl, rfl⟩
      go_wp2_with fail
      refine (spec_max _ _ _).mono ?_
      rintro e w' ⟨rfl, rfl⟩
      generalize imax (ofL l ((k : Int) + 1)) (ofL l' ((k : Int) + 1)) = y at HP ⊢
      by_cases hy : 0 < y
      · have HE := Lib.hid (HP.out.trans (if_pos hy))
        go_wp2_with (at_builtin; refine wpList_append_mark _ rfl _ _ rfl w.heap.size _ (joinTo l l' k) ((k : Int) + 1, y) (by rfl) wr.heap.size (by rfl) (by rfl) HO.out (by have := HL.out; omega) HB.out.size ?_; intro v' w1 ho1 hb1)
        have HO1 := Lib.hid ho1
        have HB1 := Lib.hid (HB.out.trans hb1)
        clear ho1 hb1
        go_wp2
        go_roundw
        case rel => exact ⟨k + 1, by omega, by go_num, by rw [HS.out, HE.out]; exact HO1.out, HB1.out⟩
        case measure => go_light; simp [intOf]; omega
      · have HE := Lib.hid (HP.out.trans (if_neg hy))
        go_wp2
        go_roundw
        case rel => exact ⟨k + 1, by omega, by go_num, by rw [HS.out, HE.out]; simpa using HO.out, HB.out⟩
        case measure => go_light; simp [intOf]; omega
    · have hk5 : k = 5 := by omega
      subst hk5
      go_wp2
      go_ret
      obtain ⟨a, cap, rfl, ho⟩ := own_row HO.out
      exact ⟨a, cap, rfl, ho, HB.out⟩

theorem all_drop {p : Int × Int → Bool} (l : List (Int × Int)) (k : Nat) (h : k < l.length) : (l.drop k).all p = (p l[k] && (l.drop (k + 1)).all p) := by rw [drop_at l k h]; rfl
end Go.Proofs.Ytiphlffcgjdoaaa.Mk
