/- The draws of the model's sources, more: a drawn string of bytes. What is drawn is not told, only its range. Condition: the code has at most 1048576 bytes. -/
import Derived.Test.YteibkoaepgdmlaaDoorDrawN
set_option linter.unusedSimpArgs false
set_option linter.unusedVariables false
namespace Go.Proofs.YteibkoaepgdmlaaDoor.Dr
open Go.RowKit Nu

/-- what drawn bytes leave: a string of that many bytes -/
def DrawnStr (w : World) (B g k : Nat) (e : Ending) (w' : World) : Prop :=
  ∃ t : ByteArray, t.size = k ∧ e = .returned (.string t) ∧ HasSrc w' B g ∧ Below B w w' ∧ w.heap.size ≤ w'.heap.size

set_option maxRecDepth 100000 in
set_option maxHeartbeats 2000000 in
theorem bytes_draw (w : World) (B g k : Nat) (hk : k ≤ 1000) (h : HasSrc w B g) :
    Calls Tryd.prog 51 #[.pointer (some ⟨g, 0, none⟩), .int .i64 (k : Int)] w (DrawnStr w B g k) := by
  have hBg := h.lt
  have H := Lib.hid h
  clear h
  obtain ⟨i0, hi, hz0, hz1, hz2⟩ := info_parts info8
  go_enter Tryd.func51, Tryd.ntmps51
  go_wp2
  go_loopw [5, 6] (fun v i wr => ∃ acc : List UInt8, acc.length ≤ k ∧ i = .int .i64 (acc.length : Int) ∧ wr.ownsRow w.heap.size 5 1 v acc.length (acc.map bv) ∧ HasSrc wr B g ∧ Below B w wr ∧ w.heap.size ≤ wr.heap.size) (fun _ i _ => k - (intOf i).toNat)
  case atStart =>
    refine ⟨[], by simp, rfl, World.ownsRow_made w #[] 0 (Nat.le_refl _) (by unfold maxLen; omega) rfl, ?_, (Below.refl _ _).alloc (by omega) _, by simp⟩
    exact H.out.grown (World.grownBy_alloc w _ none) (by simp) (by simp) (by omega)
  case round =>
    obtain ⟨acc, hl, rfl, hown, hsrc, hbel, hsz⟩ := hrel
    have HO := Lib.hid hown
    have HS := Lib.hid hsrc
    have HB := Lib.hid hbel
    clear hown hsrc hbel
    by_cases hlt : acc.length < k
    · have HN := Lib.hid (n_draw wr B g 256 (by omega) (by omega) HS.out)
      go_wp2_with fail
      refine HN.out.mono ?_
      rintro e w1 ⟨r, hr, rfl, hs1, hg1⟩
      have hne : u5.ownBlock ≠ some g := fun e => by have := (HO.out.lt g e).1; omega
      have HO1 := Lib.hid (HO.out.kept hg1 (.inr hne))
      have HS1 := Lib.hid hs1
      have hw1 : wr.heap.size ≤ w1.heap.size := hg1.size
      have HB1 := Lib.hid (HB.out.grown hg1 (by have := HB.out.size; omega) (fun k hk => by injection hk with hk; subst hk; exact hBg.1))
      clear hs1 hg1 HO HS HB HN
      go_wp2_with (at_builtin; refine wpList_append_own _ rfl _ _ 22 rfl w.heap.size 5 i0 (.int .u8 0) 1 1 Tryd.underlying22 hi hz0 hz1 hz2 rfl (by decide) _ _ _ rfl (HO1.out.alloc _) ⟨w1.heap.size, 0, none⟩ 1 1 [.int .u8 (r : Int)] rfl rfl ?c1 ?c2 ?c3 ?c4 ?c5 ?_)
      case c1 => exact cell_one_new _ _ _
      case c2 => intro u hu; simp at hu; subst hu; rfl
      case c3 => unfold maxLen; omega
      case c4 => omega
      case c5 => simp; omega
      intro v' w2 hown2 hgrow2 _
      have hv := bv_of r hr
      rw [hv, show acc.map bv ++ [bv (UInt8.ofNat r)] = (acc ++ [UInt8.ofNat r]).map bv by simp] at hown2
      have HO2 := Lib.hid hown2
      have hw2 : w1.heap.size + 1 ≤ w2.heap.size := by have := hgrow2.size; simpa using this
      have HA1 := Lib.hid (HS1.out.grown (World.grownBy_alloc w1 (.cells #[.int .u8 (r : Int)] 5) none) (by simp) (by simp) (by omega))
      have HS2 := Lib.hid (HA1.out.grown hgrow2 hne (fun k hk => by have := (HO1.out.lt k hk).1; omega) (by simp; omega))
      have HB2 := Lib.hid ((HB1.out.alloc (by omega) (.cells #[.int .u8 (r : Int)] 5)).grown hgrow2 (by simp; omega) (fun k hk => by have := (HO1.out.lt k hk).1; omega))
      clear hv hown2 hgrow2 HA1 HB1 HS1 HO1
      go_wp2
      go_roundw
      case rel =>
        refine ⟨acc ++ [UInt8.ofNat r], by simp; omega, by simp, ?_, HS2.out, HB2.out, by omega⟩
        rw [List.length_append]; exact HO2.out
      case measure => go_light; simp [intOf]; omega
    · have hc := own_string HO.out
      go_wp2
      go_ret
      exact ⟨_, by simp [ByteArray.size]; omega, rfl, HS.out, HB.out, hsz⟩
end Go.Proofs.YteibkoaepgdmlaaDoor.Dr
