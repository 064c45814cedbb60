/- Draws for the chapter of the ring: one of some texts, a key, two numbers, a text. What is drawn is not told, only its range. Condition: the code has at most 1048576 bytes. -/
import Derived.Test.YteibkoaepgdmlaaDoorDrawG
import Derived.Test.YteibkoaepgdmlaaDoorDrawB
set_option linter.unusedSimpArgs false
set_option linter.unusedVariables false
namespace Go.Proofs.YteibkoaepgdmlaaDoor.Mk
open Go.RowKit Dr

/-- a table of short texts -/
def STab (w : World) (g : Nat) (l : List ByteArray) : Prop := (∀ i (h : i < l.length), w.cell? ⟨g, i, none⟩ = some (.string l[i])) ∧ g < w.heap.size
theorem STab.within {w w' : World} {g lo hi : Nat} {l : List ByteArray} (h : STab w g l) (hw : Within lo hi w w') (ha : g < lo ∨ hi ≤ g) : STab w' g l :=
  ⟨fun i hi => (World.cell?_of_block (a := ⟨g, i, none⟩) (hw.block g h.2 ha)).trans (h.1 i hi), Nat.lt_of_lt_of_le h.2 hw.size⟩
theorem STab.new (w : World) (l : List ByteArray) (t : TypeId) : STab (w.alloc (.cells (l.map Value.string).toArray t)) w.heap.size l :=
  ⟨fun i hi => by rw [World.cell?_alloc_mark]; simp [hi], by simp⟩
/-- what a drawn text leaves: a text of at most four bytes -/
def DrawnKey (w : World) (B g : Nat) (e : Ending) (w' : World) : Prop :=
  ∃ t : ByteArray, t.size ≤ 4 ∧ e = .returned (.string t) ∧ HasSrc w' B g ∧ Within g (g + 1) w w'

set_option maxRecDepth 100000 in
theorem pick_draw (w : World) (B g b n : Nat) (l : List ByteArray) (hn : l.length = n) (h1 : 1 < n) (h2 : n ≤ 1000) (hl : ∀ t ∈ l, t.size ≤ 4) (hb : b ≠ g) (hT : STab w b l) (h : HasSrc w B g) :
    Calls Tryd.prog 69 #[.pointer (some ⟨g, 0, none⟩), .slice (some ⟨b, 0, none⟩) n n] w (DrawnKey w B g) := by
  subst hn
  have H := Lib.hid (n_draw w B g l.length h1 (by omega) h)
  have T := Lib.hid hT
  have HL := Lib.hid hl
  clear h hT hl
  go_enter Tryd.func69, Tryd.ntmps69
  go_wp2_with fail
  refine H.out.mono ?_
  rintro e w1 ⟨r, hr, rfl, hs, hg⟩
  have hw := within_grown hg
  have hc := (T.out.within hw (by omega)).1 r hr
  have ht := HL.out _ (List.getElem_mem hr)
  have HS := Lib.hid hs
  have HW := Lib.hid hw
  have t0 : (0 : Int) ≤ (r : Int) := by omega
  have t1 : (r : Int) < (l.length : Int) := by omega
  clear hs hg hw
  generalize l[r] = t at hc ht
  go_wp2
  go_ret
  exact ⟨t, ht, rfl, HS.out, HW.out⟩

theorem keys2 : ∀ t ∈ [(⟨#[]⟩ : ByteArray), ⟨#[65]⟩], t.size ≤ 4 := by
  intro t ht; simp at ht; rcases ht with rfl | rfl <;> decide
theorem keys4 : ∀ t ∈ [(⟨#[99, 97, 114, 116]⟩ : ByteArray), ⟨#[117, 115, 101, 114]⟩, ⟨#[120]⟩, ⟨#[121]⟩], t.size ≤ 4 := by
  intro t ht; simp at ht; rcases ht with rfl | rfl | rfl | rfl <;> decide

set_option maxRecDepth 100000 in
set_option maxHeartbeats 1000000 in
theorem key_draw (w : World) (B g : Nat) (h : HasSrc w B g) : Calls Tryd.prog 43 #[.pointer (some ⟨g, 0, none⟩)] w (DrawnKey w B g) := by
  have H := Lib.hid (one_draw w B g 20 (by omega) (by omega) h)
  clear h
  go_enter Tryd.func43, Tryd.ntmps43
  go_wp2_with fail
  refine H.out.mono ?_
  rintro e w1 ⟨r, rfl, hs, hg⟩
  have HW := Lib.hid (within_grown hg)
  have HS := Lib.hid hs
  have z := hs.lt
  clear hs hg H
  cases r
  · go_wp2_with fail
    have HA := Lib.hid (HS.out.grown (World.grownBy_alloc w1 (.cells #[.string ⟨#[99, 97, 114, 116]⟩, .string ⟨#[117, 115, 101, 114]⟩, .string ⟨#[120]⟩, .string ⟨#[121]⟩] 9) none) (by simp) (by simp) (by omega))
    refine (pick_draw _ B g w1.heap.size 4 [⟨#[99, 97, 114, 116]⟩, ⟨#[117, 115, 101, 114]⟩, ⟨#[120]⟩, ⟨#[121]⟩] rfl (by omega) (by omega) keys4 (by omega) (STab.new w1 _ _) HA.out).mono ?_
    rintro e w2 ⟨t, ht, rfl, hs, hw⟩
    have HS2 := Lib.hid hs
    have HW2 := Lib.hid ((HW.out.onto ((Below.refl _ _).alloc (Nat.le_refl _) _)).trans hw)
    clear hs hw
    go_wp2
    go_ret
    exact ⟨t, ht, rfl, HS2.out, HW2.out⟩
  · go_wp2_with fail
    have HA := Lib.hid (HS.out.grown (World.grownBy_alloc w1 (.cells #[.string ⟨#[]⟩, .string ⟨#[65]⟩] 9) none) (by simp) (by simp) (by omega))
    refine (pick_draw _ B g w1.heap.size 2 [⟨#[]⟩, ⟨#[65]⟩] rfl (by omega) (by omega) keys2 (by omega) (STab.new w1 _ _) HA.out).mono ?_
    rintro e w2 ⟨t, ht, rfl, hs, hw⟩
    have HS2 := Lib.hid hs
    have HW2 := Lib.hid ((HW.out.onto ((Below.refl _ _).alloc (Nat.le_refl _) _)).trans hw)
    clear hs hw
    go_wp2
    go_ret
    exact ⟨t, ht, rfl, HS2.out, HW2.out⟩

/-- what a draw of two numbers leaves -/
def GotNums (w : World) (e : Ending) (w' : World) : Prop := ∃ n v : Nat, n < 7 ∧ v < 10 ∧ e = .returned (.tuple #[.int .i64 (n : Int), .int .i64 (v : Int)]) ∧ Below w.heap.size w w'
set_option maxRecDepth 100000 in
theorem drawRingNew (w : World) (a : Option Addr) (len cap : Nat) (h : Code w a len) : Calls Tryd.prog 9 #[.slice a len cap] w (GotNums w) := by
  have H0 := Lib.hid (source_new w a len cap h.1 h.2)
  clear h
  go_enter Tryd.func9, Tryd.ntmps9
  go_wp2_with fail
  refine H0.out.mono ?_
  rintro e w1 ⟨rfl, hs1, hb1⟩
  have S1 := Lib.hid hs1
  have B1 := Lib.hid hb1
  clear hs1 hb1 H0
  go_wp2_with fail
  refine (n_draw w1 w.heap.size w.heap.size 7 (by omega) (by omega) S1.out).mono ?_
  rintro e w2 ⟨n, hn, rfl, hs, hg⟩
  have hw := within_grown hg
  have S2 := Lib.hid hs
  have B2 := Lib.hid (bw B1.out hw (Nat.le_refl _))
  clear hs hg hw
  go_wp2_with fail
  refine (n_draw w2 w.heap.size w.heap.size 10 (by omega) (by omega) S2.out).mono ?_
  rintro e w3 ⟨v, hv, rfl, hs, hg⟩
  have B3 := Lib.hid (bw B2.out (within_grown hg) (Nat.le_refl _))
  clear hs hg
  go_wp2
  go_ret2
  exact ⟨n, v, hn, hv, rfl, B3.out⟩

set_option maxRecDepth 100000 in
theorem drawFnv (w : World) (a : Option Addr) (len cap : Nat) (h : Code w a len) : Calls Tryd.prog 15 #[.slice a len cap] w (StrBelow w 8) := by
  have H0 := Lib.hid (source_new w a len cap h.1 h.2)
  clear h
  go_enter Tryd.func15, Tryd.ntmps15
  go_wp2_with fail
  refine H0.out.mono ?_
  rintro e w1 ⟨rfl, hs1, hb1⟩
  have S1 := Lib.hid hs1
  have B1 := Lib.hid hb1
  clear hs1 hb1 H0
  go_wp2_with fail
  refine (n_draw w1 w.heap.size w.heap.size 9 (by omega) (by omega) S1.out).mono ?_
  rintro e w2 ⟨n, hn, rfl, hs, hg⟩
  have hw := within_grown hg
  have S2 := Lib.hid hs
  have B2 := Lib.hid (bw B1.out hw (Nat.le_refl _))
  clear hs hg hw
  go_wp2_with fail
  refine (bytes_draw w2 w.heap.size w.heap.size n (by omega) S2.out).mono ?_
  rintro e w3 ⟨t, ht, rfl, hs, hb, hz⟩
  have B3 := Lib.hid (Below.trans B2.out hb)
  clear hs hb
  go_wp2
  go_ret
  exact ⟨t, by omega, rfl, B3.out⟩
end Go.Proofs.YteibkoaepgdmlaaDoor.Mk
