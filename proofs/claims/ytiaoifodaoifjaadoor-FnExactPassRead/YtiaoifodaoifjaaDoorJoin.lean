/- The contract of impl.joined over any list of strings that lies in memory: the strings one behind the other. Condition: not more than 1000000 bytes together. -/
import Derived.Test.YtiaoifodaoifjaaDoorBase
import Derived.Lib.BufferWrite
import Derived.Laws.CopyOwn
import Derived.Deep.OwnRows
set_option linter.unusedSimpArgs false
set_option linter.unusedVariables false
namespace Go.Proofs.YtiaoifodaoifjaaDoor.Nu
open Go.RowKit

/-- the bytes of some strings, one behind the other -/
def cat (ss : List ByteArray) : List UInt8 := (ss.map (·.data.toList)).flatten
theorem cat_take (ss : List ByteArray) (k : Nat) (h : k < ss.length) : cat (ss.take (k + 1)) = cat (ss.take k) ++ ss[k].data.toList := by
  unfold cat; rw [List.take_succ_eq_append_getElem h, List.map_append, List.flatten_append]; simp
theorem cat_take_le (ss : List ByteArray) (k : Nat) : (cat (ss.take k)).length ≤ (cat ss).length := by
  have : cat ss = cat (ss.take k) ++ cat (ss.drop k) := by
    unfold cat; rw [← List.flatten_append, ← List.map_append, List.take_append_drop]
  rw [this, List.length_append]; omega
theorem size_data (s : ByteArray) : s.data.toList.length = s.size := by rw [Array.length_toList]; rfl
theorem info8s : (Tryd.prog.info? 5).map (·.size) = some 1 := by kernel_rfl

/-- block g is a row of these bytes -/
def Row (w : World) (g : Nat) (l : List UInt8) : Prop := w.heap[g]? = some (.cells (l.map bv).toArray 5 (0, 0))
theorem Row.new (w : World) (m : Nat) : Row (w.alloc (.cells (madeCells #[.int .u8 0] m) 5)) w.heap.size (List.replicate m 0) := by
  unfold Row
  have e : madeCells #[Value.int .u8 0] m = ((List.replicate m (0 : UInt8)).map bv).toArray := by
    apply Array.ext
    · simp [madeCells]
    · intro i h1 h2
      simp [madeCells, bv, Nat.mod_one]
  rw [← e]
  show (w.heap.push _)[w.heap.size]? = _
  simp
theorem Row.string {w : World} {g : Nat} {l : List UInt8} (h : Row w g l) (c : Nat) :
    (convert 22 9 (.slice (some ⟨g, 0, none⟩) l.length c)).run Tryd.prog w = .ok (.string ⟨l.toArray⟩) w := by
  refine run_convert_bytes_back (P := Tryd.prog) w 22 9 5 ⟨g, 0, none⟩ c l Tryd.underlying22 Tryd.underlying5 Tryd.underlying9 (fun j hj => ?_)
  have e : (⟨g, 0, none⟩ : Addr).add j = ⟨g, j, none⟩ := by unfold Addr.add; split <;> simp_all
  rw [e]
  have hh : w.heap[g]? = some (.cells (l.map bv).toArray 5 (0, 0)) := h
  simp [World.cell?, hh, hj, bv]
/-- what copy leaves of a row -/
def laid (l : List UInt8) (a : Nat) (p : ByteArray) : List UInt8 := l.take a ++ p.data.toList ++ l.drop (a + p.size)
theorem laid_length (l : List UInt8) (a : Nat) (p : ByteArray) (h : a + p.size ≤ l.length) : (laid l a p).length = l.length := by
  unfold laid; rw [List.length_append, List.length_append, size_data, List.length_take, List.length_drop]; omega
theorem laid_take (l : List UInt8) (a : Nat) (p : ByteArray) (h : a + p.size ≤ l.length) : (laid l a p).take (a + p.size) = l.take a ++ p.data.toList := by
  unfold laid
  have : (l.take a ++ p.data.toList).length = a + p.size := by rw [List.length_append, size_data, List.length_take]; omega
  rw [← this, List.take_left']; rfl
theorem Row.copy {w : World} {g : Nat} {l : List UInt8} (h : Row w g l) (ty : TypeId) (a d c : Nat) (p : ByteArray) (hd : p.size ≤ d) (hf : a + p.size ≤ l.length) :
    (Builtin.copy_ #[22, 9] ty #[.slice (some ⟨g, a, none⟩) d c, .string p]).run Tryd.prog w = .ok (goInt p.size) (w.setRow g ((laid l a p).map bv).toArray) := by
  have := Lib.run_copy_row_string (P := Tryd.prog) w 22 9 ty 5 g a d c p (l.map bv).toArray 5 Tryd.underlying22 info8s h hd (by simpa using hf)
  refine this.trans (congrArg (fun c => Result.ok (goInt p.size) (w.setRow g c)) ?_)
  unfold laid
  simp [Lib.byteCells, bv]
theorem Row.laid {w : World} {g : Nat} {l : List UInt8} (h : Row w g l) (l' : List UInt8) : Row (w.setRow g (l'.map bv).toArray) g l' :=
  setRow_heap w g _ _ 5 _ h

set_option maxRecDepth 100000 in
set_option maxHeartbeats 2000000 in
theorem joined_any (b : Nat) (ss : List ByteArray) (cap : Nat) (w : World) (hn : ss.length ≤ 1000) (ht : (cat ss).length ≤ 1000000)
    (hc : ∀ i (h : i < ss.length), w.cell? ⟨b, i, none⟩ = some (.string ss[i])) :
    Calls Tryd.prog 24 #[.slice (some ⟨b, 0, none⟩) ss.length cap] w fun e w' => e = .returned (.string ⟨(cat ss).toArray⟩) ∧ Below w.heap.size w w' := by
  have HC := Lib.hid hc
  clear hc
  go_enter Tryd.func24, Tryd.ntmps24
  go_wp2
  go_loop [3, 12] (fun z i => ∃ k m : Nat, k ≤ ss.length ∧ i = .int .i64 k ∧ z = .int .i64 m ∧ m = (cat (ss.take k)).length) (fun _ i => ss.length - (intOf i).toNat)
  case atStart => exact ⟨0, 0, Nat.zero_le _, rfl, rfl, by simp [cat]⟩
  case round =>
    obtain ⟨k, m, hk, rfl, rfl, hm⟩ := hrel
    have hml := cat_take_le ss k
    rw [← hm] at hml
    have HM := Lib.hid hm
    clear hm
    by_cases hlt : k < ss.length
    · have hcell := HC.out k hlt
      have hs2 := cat_take_le ss (k + 1)
      rw [cat_take ss k hlt, List.length_append, ← HM.out, size_data] at hs2
      have HN : Hid (m + ss[k].size = (cat (ss.take (k + 1))).length) := Lib.hid (by rw [cat_take ss k hlt, List.length_append, ← HM.out, size_data])
      generalize ss[k] = p at hcell hs2 HN
      go_wp2
      go_round
      case rel => exact ⟨k + 1, m + p.size, by omega, by go_num, by go_num, HN.out⟩
      case measure => go_light; simp [intOf]; omega
    · have hmt : m = (cat ss).length := by rw [HM.out, List.take_of_length_le (by omega)]
      have HMT := Lib.hid hmt
      clear hmt
      have hmk := run_make_row' (P := Tryd.prog) 22 5 (.int .u8 0) 1 Tryd.underlying22 info8 rfl .i64 .i64 m (by omega) (by omega)
      go_wp2
      clear hmk
      go_loopw [7, 25] (fun z i wr => ∃ (k a : Nat) (l : List UInt8), k ≤ ss.length ∧ i = .int .i64 k ∧ z = .int .i64 a ∧ a = (cat (ss.take k)).length ∧ l.length = m ∧ l.take a = cat (ss.take k) ∧ Row wr w.heap.size l ∧ Below w.heap.size w wr) (fun _ i _ => ss.length - (intOf i).toNat)
      case atStart => exact ⟨0, 0, List.replicate m 0, Nat.zero_le _, rfl, rfl, by simp [cat], by simp, by simp [cat], Row.new w m, (Below.refl _ _).alloc (Nat.le_refl _) _⟩
      case round =>
        obtain ⟨k, a, l, hk, rfl, rfl, ha, hl, htk, hrow, hbel⟩ := hrel
        have hal := cat_take_le ss k
        rw [← ha, ← HMT.out] at hal
        have HA := Lib.hid ha
        have HL := Lib.hid hl
        have HT := Lib.hid htk
        have HR := Lib.hid hrow
        clear ha hl htk hrow
        by_cases hlt : k < ss.length
        · have hb : b < w.heap.size := by simpa using World.block_lt_of_cell? w _ (HC.out k hlt)
          have hcell := (hbel.cell (p := ⟨b, k, none⟩) hb).trans (HC.out k hlt)
          have hs2 := cat_take_le ss (k + 1)
          rw [cat_take ss k hlt, List.length_append, ← HA.out, size_data, ← HMT.out] at hs2
          have HN := Lib.hid (cat_take ss k hlt)
          generalize ss[k] = p at hcell hs2 HN
          by_cases ham : m = a
          · have hp0 : p.size = 0 := by omega
            have hcp := Lib.run_copy_empty_string (P := Tryd.prog) wr 22 9 3 5 (some ⟨w.heap.size, 0, none⟩) 0 0 p Tryd.underlying22 (by kernel_rfl) hp0
            have HP := Lib.hid hp0
            clear hp0
            go_wp2
            go_roundw
            case rel =>
              have hd : p.data.toList = [] := List.length_eq_zero_iff.1 (by rw [size_data, HP.out])
              refine ⟨k + 1, a, l, by omega, by go_num, rfl, ?_, HL.out, ?_, HR.out, hbel⟩
              · rw [HN.out, hd, List.append_nil]; exact HA.out
              · rw [HN.out, hd, List.append_nil]; exact HT.out
            case measure => go_light; simp [intOf]; omega
          · have hcp := HR.out.copy 3 a (m - a) (m - a) p (by omega) (by rw [HL.out]; omega)
            have hrow' := HR.out.laid (laid l a p)
            have hbel' := below_setRow hbel (Nat.le_refl _) ((laid l a p).map bv).toArray
            generalize wr.setRow w.heap.size ((laid l a p).map bv).toArray = w2 at hcp hrow' hbel'
            have HR' := Lib.hid hrow'
            clear hrow'
            go_wp2
            go_roundw
            case rel =>
              refine ⟨k + 1, a + p.size, laid l a p, by omega, by go_num, by go_num, ?_, ?_, ?_, HR'.out, hbel'⟩
              · rw [HN.out, List.length_append, size_data, ← HA.out]
              · rw [laid_length _ _ _ (by rw [HL.out]; omega)]; exact HL.out
              · rw [laid_take _ _ _ (by rw [HL.out]; omega), HT.out, HN.out]
            case measure => go_light; simp [intOf]; omega
        · have hc : _ := HR.out.string m
          have he : l = cat ss := by
            have h1 := HT.out
            rw [HA.out, List.take_of_length_le (show ss.length ≤ k by omega), ← HMT.out, List.take_of_length_le (by rw [HL.out]; exact Nat.le_refl _)] at h1
            exact h1
          rw [HL.out, he] at hc
          clear he
          go_wp2
          go_ret
          exact ⟨rfl, hbel⟩

theorem mk_data (s : ByteArray) : ByteArray.mk s.data.toList.toArray = s := by simp
theorem cat_one (s : ByteArray) : ByteArray.mk (cat [s]).toArray = s := by simp [cat]
theorem cat_two (s t : ByteArray) : ByteArray.mk (cat [s, t]).toArray = s ++ t := by
  apply ByteArray.ext; rw [ByteArray.data_append]; simp [cat]
/-- joined of two strings that were just laid in memory -/
theorem joined_two (s t : ByteArray) (w : World) (h : s.size + t.size ≤ 1000000) :
    Calls Tryd.prog 24 #[.slice (some ⟨w.heap.size, 0, none⟩) 2 2] (w.alloc (.cells #[.string s, .string t] 9)) fun e w' => e = .returned (.string (s ++ t)) ∧ Below w.heap.size w w' := by
  have hb : Below w.heap.size w (w.alloc (.cells #[.string s, .string t] 9)) := (Below.refl _ _).alloc (Nat.le_refl _) _
  refine (joined_any w.heap.size [s, t] 2 _ (by simp) (by simp [cat]; exact h) (fun i hi => ?_)).mono fun e w' he => ?_
  · rw [World.cell?_alloc_mark]
    match i, hi with
    | 0, _ | 1, _ => rfl
  · rw [cat_two] at he
    exact ⟨he.1, hb.trans (he.2.mono hb.size)⟩
theorem joined_one (s : ByteArray) (w : World) (h : s.size ≤ 1000000) :
    Calls Tryd.prog 24 #[.slice (some ⟨w.heap.size, 0, none⟩) 1 1] (w.alloc (.cells #[.string s] 9)) fun e w' => e = .returned (.string s) ∧ Below w.heap.size w w' := by
  have hb : Below w.heap.size w (w.alloc (.cells #[.string s] 9)) := (Below.refl _ _).alloc (Nat.le_refl _) _
  refine (joined_any w.heap.size [s] 1 _ (by simp) (by simp [cat]; exact h) (fun i hi => ?_)).mono fun e w' he => ?_
  · rw [World.cell?_alloc_mark]
    match i, hi with
    | 0, _ => rfl
  · rw [cat_one] at he
    exact ⟨he.1, hb.trans (he.2.mono hb.size)⟩
end Go.Proofs.YtiaoifodaoifjaaDoor.Nu
