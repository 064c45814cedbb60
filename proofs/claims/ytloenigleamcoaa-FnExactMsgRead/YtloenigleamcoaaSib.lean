/- Siblings in memory: a Sib takes four cells (node, number, gone, data); rows of Sibs; a new row of them; one appended. No condition. -/
import Derived.Test.YtloenigleamcoaaRow
import Derived.Test.YtloenigleamcoaaMark
set_option linter.unusedSimpArgs false
set_option linter.unusedVariables false
namespace Go.Proofs.Ytloenigleamcoaa.Sb
open Go.RowKit Go.Proofs.Ytloenigleamcoaa.Mk Go.Proofs.Ytloenigleamcoaa.Rw

/-- a Sib: its dot, whether it is gone, its data -/
abbrev Sib := (Int × Int) × Bool × ByteArray
def sv (x : Sib) : Value := .agg #[.int .i64 x.1.1, .int .i64 x.1.2, .bool x.2.1, .string x.2.2]
def senc (x : Sib) : Nat → Value
  | 0 => .int .i64 x.1.1
  | 1 => .int .i64 x.1.2
  | 2 => .bool x.2.1
  | _ => .string x.2.2
def z0 : Sib := ((0, 0), false, ByteArray.empty)
abbrev SibsAt := RowAt 4 senc
abbrev SOwn := ROwn 4 senc
abbrev SOwnIn := ROwnIn 4 senc
theorem SibsAt.mono {w w' : World} {a : Option Addr} {l : List Sib} (h : SibsAt w a l) (hb : Below w.heap.size w w') : SibsAt w' a l := RowAt.mono (by decide) h hb
theorem SibsAt.cells {w : World} {a : Option Addr} {l : List Sib} (h : SibsAt w a l) {i : Nat} (hi : i < l.length) :
    ∃ g off, a = some ⟨g, off, none⟩ ∧ g < w.heap.size ∧ w.cell? ⟨g, off + i * 4, none⟩ = some (.int .i64 l[i].1.1) ∧ w.cell? ⟨g, off + i * 4 + 1, none⟩ = some (.int .i64 l[i].1.2) ∧
      w.cell? ⟨g, off + i * 4 + 2, none⟩ = some (.bool l[i].2.1) ∧ w.cell? ⟨g, off + i * 4 + 3, none⟩ = some (.string l[i].2.2) := by
  obtain ⟨g, off, ha, hg, hc⟩ := RowAt.cells (by decide) h hi
  exact ⟨g, off, ha, hg, hc 0 (by decide), hc 1 (by decide), hc 2 (by decide), hc 3 (by decide)⟩
theorem SOwn.cells {w : World} {g : Nat} {l : List Sib} (h : SOwn w g l) {i : Nat} (hi : i < l.length) :
    w.cell? ⟨g, i * 4, none⟩ = some (.int .i64 l[i].1.1) ∧ w.cell? ⟨g, i * 4 + 1, none⟩ = some (.int .i64 l[i].1.2) ∧
      w.cell? ⟨g, i * 4 + 2, none⟩ = some (.bool l[i].2.1) ∧ w.cell? ⟨g, i * 4 + 3, none⟩ = some (.string l[i].2.2) :=
  ⟨h.cell i hi 0 (by decide), h.cell i hi 1 (by decide), h.cell i hi 2 (by decide), h.cell i hi 3 (by decide)⟩
theorem SOwn.set {w : World} {g : Nat} {l : List Sib} (h : SOwn w g l) (i : Nat) (hi : i < l.length) (x : Sib) :
    SOwn ((((w.setCell ⟨g, i * 4, none⟩ (.int .i64 x.1.1)).setCell ⟨g, i * 4 + 1, none⟩ (.int .i64 x.1.2)).setCell ⟨g, i * 4 + 2, none⟩ (.bool x.2.1)).setCell ⟨g, i * 4 + 3, none⟩ (.string x.2.2)) g (l.set i x) := by
  obtain ⟨⟨c0, c1, c2, c3⟩, ho, hf⟩ := set4 (w := w) (g := g) (o := i * 4) (.int .i64 x.1.1) (.int .i64 x.1.2) (.bool x.2.1) (.string x.2.2) (fun j hj => ⟨_, h.cell i hi j hj⟩)
  refine h.put i x (fun j hj => ?_) ho hf
  match j, hj with
  | 0, _ => exact c0
  | 1, _ => exact c1
  | 2, _ => exact c2
  | 3, _ => exact c3
theorem infoS : (Try.prog.info? 97).map (fun i => (i.zero, i.size, i.bytes)) = some (some (.agg #[.int .i64 0, .int .i64 0, .bool false, .string ByteArray.empty]), 4, 40) := by kernel_rfl
def zs4 : Array Value := #[.int .i64 0, .int .i64 0, .bool false, .string ByteArray.empty]
theorem SOwn.new (w : World) (n : Nat) : SOwn (w.alloc (.cells (madeCells zs4 (n * 4)) 97)) w.heap.size (List.replicate n z0) :=
  ROwn.new (k := 4) (enc := senc) (z := z0) (zs := zs4) rfl (fun j hj => match j, hj with | 0, _ => rfl | 1, _ => rfl | 2, _ => rfl | 3, _ => rfl) w n _
theorem run_make_sibs (n : Nat) (hn : n ≤ 1048576) (w : World) :
    (Instr.makeSlice 31 (.int .i64 (n : Int)) (.int .i64 (n : Int))).run Try.prog w = .ok (.slice (some ⟨w.heap.size, 0, none⟩) n n) (w.alloc (.cells (madeCells zs4 (n * 4)) 97)) := by
  obtain ⟨i0, hi, hz0, hz1, hz2⟩ := info_parts infoS
  have := run_make (P := Try.prog) w 31 97 i0 _ Try.underlying31 hi hz0 .i64 .i64 n n (by omega) (by omega) (by rw [hz2]; omega) (by omega)
  rw [hz1] at this
  simpa [Value.cells, zs4] using this
/-- what a call that makes a slice of Sibs leaves -/
def SGives (w : World) (l : List Sib) (e : Ending) (w' : World) : Prop :=
  ∃ a cap, e = .returned (.slice a l.length cap) ∧ SOwnIn w' w.heap.size w'.heap.size a l ∧ Below w.heap.size w w'
/-- a Sib that was just laid in memory, appended to a row of the call's own -/
theorem wpList_append_sib (w0 : World) {ops : Array Oper} {rest : List Oper} {o : Oper} {a : Act} {Q : Exit → Act → World → Prop} (hg : o.guard = none) (s x : Operand)
    (hop : o.op = .call { callee := .builtin .append, args := #[s, x], argTypes := #[31, 31] }) (B : Nat) (v : Value) (l : List Sib) (m : Sib) (hs : a.eval s = v) (G : Nat) (hG : w0.heap.size = G)
    (hx : a.eval x = .slice (some ⟨G, 0, none⟩) 1 1) (hown : w0.ownsRow B 97 4 v l.length (flatE 4 senc l)) (hl : l.length ≤ 1000000) (hB : B ≤ w0.heap.size)
    (h : ∀ v' w', w'.ownsRow B 97 4 v' (l ++ [m]).length (flatE 4 senc (l ++ [m])) → Below B w0 w' → wpList Try.prog ops Q rest (a.put o.dst v') w') :
    wpList Try.prog ops Q (o :: rest) a (w0.alloc (.cells #[.int .i64 m.1.1, .int .i64 m.1.2, .bool m.2.1, .string m.2.2] 97)) := by
  subst hG
  obtain ⟨i0, hi, hz0, hz1, hz2⟩ := info_parts infoS
  have e1 : flatE 4 senc [m] = [.int .i64 m.1.1, .int .i64 m.1.2, .bool m.2.1, .string m.2.2] := rfl
  refine wpList_append_own _ hg s x 31 hop B 97 i0 _ 4 40 Try.underlying31 hi hz0 hz1 hz2 rfl (by decide) v l.length (flatE 4 senc l) hs (hown.alloc _) ⟨w0.heap.size, 0, none⟩ 1 1 (flatE 4 senc [m]) hx rfl
    (World.news_of_block (cs := #[.int .i64 m.1.1, .int .i64 m.1.2, .bool m.2.1, .string m.2.2]) (heap_alloc_new w0 _)) (fun u hu => by rw [e1] at hu; simp at hu; rcases hu with rfl | rfl | rfl | rfl <;> rfl) (by unfold maxLen; omega) (by omega) (by simp; omega) (fun v' w' h1 h2 _ => h v' w' ?_ ?_)
  · rw [flatE_append, List.length_append]; exact h1
  · exact ((Below.refl B w0).alloc hB _).grown h2 (by simp; omega) (fun k hk => (hown.lt k hk).1)
end Go.Proofs.Ytloenigleamcoaa.Sb
