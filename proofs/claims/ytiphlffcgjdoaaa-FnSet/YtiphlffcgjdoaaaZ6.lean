/- Parts of a law: JoinMath, SeenJoin, PutMath, SeenPut, NumS, BytesMath, GetMath, ReadBack, ReadMath. Conditions: on sizes, as each says. -/
import Derived.Test.YtiphlffcgjdoaaaZ1
import Derived.Test.YtiphlffcgjdoaaaZ3
import Derived.Test.YtiphlffcgjdoaaaZ2
import Derived.KernelRfl
import Derived.Laws.BitsAllLaws
set_option linter.unusedSimpArgs false
set_option linter.unusedVariables false
namespace Go.Proofs.Ytiphlffcgjdoaaa.Mk

def rm (f : Int → Option (Int × Int)) (m : Int × Int) : Int → Option (Int × Int) := if (at_ f m.1).2 ≤ m.2 then del f m.1 else f
def jn (f : Int → Option (Int × Int)) (m : Int × Int) : Int → Option (Int × Int) := if (rm f m m.1).isSome = true then rm f m else upd (rm f m) m
def pick (f : Int → Option (Int × Int)) (n : Int) : Option (Int × Int) := if at_ f n = (0, 0) then none else some (at_ f n)
def ordTo (f : Int → Option (Int × Int)) (k : Nat) : List (Int × Int) := (List.range k).filterMap fun (i : Nat) => pick f ((i : Int) + 1)
def imax (a b : Int) : Int := if b < a then a else b
def jpick (a b : List (Int × Int)) (n : Int) : Option (Int × Int) := if 0 < imax (ofL a n) (ofL b n) then some (n, imax (ofL a n) (ofL b n)) else none
def joinTo (a b : List (Int × Int)) (k : Nat) : List (Int × Int) := (List.range k).filterMap fun (i : Nat) => jpick a b ((i : Int) + 1)
/-- what SeenJoin returns -/
def joinV (a b : List (Int × Int)) : List (Int × Int) := if rightB a = true ∧ rightB b = true then joinTo a b 5 else []
def lessV (a b : List (Int × Int)) : Bool := rightB a && rightB b && a.all fun m => decide (m.2 ≤ ofL b m.1)

/-- a map that holds each mark under its own node -/
def Neat (f : Int → Option (Int × Int)) : Prop := ∀ n, f n = none ∨ ∃ k, 1 ≤ k ∧ f n = some (n, k)
theorem ordTo_succ (f : Int → Option (Int × Int)) (k : Nat) : ordTo f (k + 1) = ordTo f k ++ (pick f ((k : Int) + 1)).toList := by
  unfold ordTo; rw [List.range_succ, List.filterMap_append]; simp [List.filterMap_cons]; split <;> simp_all
theorem joinTo_succ (a b : List (Int × Int)) (k : Nat) : joinTo a b (k + 1) = joinTo a b k ++ (jpick a b ((k : Int) + 1)).toList := by
  unfold joinTo; rw [List.range_succ, List.filterMap_append]; simp [List.filterMap_cons]; split <;> simp_all
theorem neat_nil : Neat nil := fun _ => .inl rfl
theorem neat_mapL {l : List (Int × Int)} (h : rightB l = true) : Neat (mapL l) := fun n => by
  rw [mapL_right h]
  have := ofL_nonneg h n
  by_cases e : ofL l n = 0
  · exact .inl (if_pos e)
  · exact .inr ⟨ofL l n, by omega, if_neg e⟩
theorem neat_rm {f : Int → Option (Int × Int)} (h : Neat f) (m : Int × Int) : Neat (rm f m) := fun n => by
  unfold rm del
  split
  · by_cases e : n = m.1
    · exact .inl (if_pos e)
    · simp only [if_neg e]; exact h n
  · exact h n
theorem neat_upd {f : Int → Option (Int × Int)} (h : Neat f) (m : Int × Int) (hm : 1 ≤ m.2) : Neat (upd f m) := fun n => by
  unfold upd
  by_cases e : n = m.1
  · right; exact ⟨m.2, hm, by rw [if_pos e, e]⟩
  · rw [if_neg e]; exact h n
theorem neat_jn {f : Int → Option (Int × Int)} (h : Neat f) (m : Int × Int) (hm : 1 ≤ m.2) : Neat (jn f m) := by
  unfold jn
  split
  · exact neat_rm h m
  · exact neat_upd (neat_rm h m) m hm
theorem ofL_above : ∀ (r : List (Int × Int)) (last n : Int), okFrom last r = true → n ≤ last → ofL r n = 0
  | [], _, _, _, _ => rfl
  | x :: r, last, n, h, hn => by
    obtain ⟨_, hl, hr⟩ := okFrom_cons.1 h
    show (if x.1 = n then x.2 else ofL r n) = 0
    rw [if_neg (by omega)]
    exact ofL_above r _ _ hr (by omega)
theorem okFrom_nonneg : ∀ (r : List (Int × Int)) (last n : Int), okFrom last r = true → 0 ≤ ofL r n
  | [], _, _, _ => Int.le_refl _
  | x :: r, last, n, h => by
    obtain ⟨hd, hl, hr⟩ := okFrom_cons.1 h
    have := (dotB_iff x).1 hd
    show 0 ≤ (if x.1 = n then x.2 else ofL r n)
    split
    · omega
    · exact okFrom_nonneg r _ _ hr
theorem at_none {f : Int → Option (Int × Int)} {n : Int} (h : f n = none) : (at_ f n).2 = 0 := by unfold at_; rw [h]; rfl
theorem at_some {f : Int → Option (Int × Int)} {n : Int} {m : Int × Int} (h : f n = some m) : at_ f n = m := by unfold at_; rw [h]; rfl
theorem jn_at {f : Int → Option (Int × Int)} (hf : Neat f) (m : Int × Int) (hm : 1 ≤ m.2) (n : Int) : (at_ (jn f m) n).2 = if n = m.1 then imax (at_ f n).2 m.2 else (at_ f n).2 := by
  by_cases e : n = m.1
  · subst e
    rw [if_pos rfl]
    unfold imax
    by_cases hle : (at_ f m.1).2 ≤ m.2
    · have e1 : rm f m m.1 = none := by unfold rm; rw [if_pos hle]; unfold del; rw [if_pos rfl]
      have e2 : jn f m m.1 = some m := by unfold jn; rw [e1, if_neg (by simp)]; unfold upd; rw [if_pos rfl]
      rw [at_some e2, if_neg (by omega)]
    · have e0 : rm f m = f := by unfold rm; rw [if_neg hle]
      rcases hf m.1 with h0 | ⟨k, hk, h0⟩
      · rw [at_none h0] at hle; omega
      · have e2 : jn f m = f := by unfold jn; rw [e0, h0, if_pos (by rfl)]
        rw [e2, if_pos (by omega)]
  · rw [if_neg e]
    have e1 : jn f m n = f n := by
      have e0 : rm f m n = f n := by
        unfold rm; split
        · unfold del; rw [if_neg e]
        · rfl
      unfold jn
      split
      · exact e0
      · unfold upd; rw [if_neg e]; exact e0
    unfold at_; rw [e1]
theorem imax_zero {x : Int} (h : 0 ≤ x) : imax x 0 = x := by unfold imax; split <;> omega
theorem foldl_jn : ∀ (b : List (Int × Int)) (last : Int) (f : Int → Option (Int × Int)), Neat f → okFrom last b = true → Neat (b.foldl jn f) ∧ ∀ n, (at_ (b.foldl jn f) n).2 = imax (at_ f n).2 (ofL b n)
  | [], _, f, hf, _ => ⟨hf, fun n => by
    rw [List.foldl_nil]
    show _ = imax _ 0
    rcases hf n with h | ⟨k, hk, h⟩
    · rw [at_none h]; rfl
    · rw [at_some h, imax_zero (by show 0 ≤ k; omega)]⟩
  | m :: r, last, f, hf, h => by
    obtain ⟨hd, hl, hr⟩ := okFrom_cons.1 h
    have hm := (dotB_iff m).1 hd
    obtain ⟨i1, i2⟩ := foldl_jn r m.1 (jn f m) (neat_jn hf m hm.2.2.1) hr
    refine ⟨i1, fun n => ?_⟩
    rw [List.foldl_cons, i2, jn_at hf m hm.2.2.1]
    show _ = imax _ (if m.1 = n then m.2 else ofL r n)
    by_cases e : n = m.1
    · rw [if_pos e, if_pos e.symm, ofL_above r m.1 n hr (by omega), imax_zero (by unfold imax; split <;> omega)]
    · rw [if_neg e, if_neg (fun h => e h.symm)]
theorem pick_neat {f : Int → Option (Int × Int)} (hf : Neat f) (n : Int) : pick f n = if 0 < (at_ f n).2 then some (n, (at_ f n).2) else none := by
  unfold pick
  rcases hf n with h | ⟨k, hk, h⟩
  · have : at_ f n = (0, 0) := by unfold at_; rw [h]; rfl
    rw [if_pos this, this, if_neg (by simp)]
  · rw [at_some h, if_neg (by intro e; injection e; omega), if_pos (by simp only; omega)]
theorem join_eq {a b : List (Int × Int)} (ha : rightB a = true) (hb : rightB b = true) (k : Nat) : ordTo (b.foldl jn (mapL a)) k = joinTo a b k := by
  obtain ⟨h1, h2⟩ := foldl_jn b 0 (mapL a) (neat_mapL ha) hb
  unfold ordTo joinTo
  congr 1
  funext i
  rw [pick_neat h1, h2, mapL_at ha]
  rfl

theorem rm_at {f : Int → Option (Int × Int)} (m : Int × Int) (n : Int) : rm f m n = if n = m.1 ∧ (at_ f m.1).2 ≤ m.2 then none else f n := by
  unfold rm del
  by_cases h : (at_ f m.1).2 ≤ m.2
  · rw [if_pos h]
    by_cases e : n = m.1
    · simp only [if_pos e]; rw [if_pos ⟨e, h⟩]
    · simp only [if_neg e]; rw [if_neg (fun c => e c.1)]
  · rw [if_neg h, if_neg (fun c => h c.2)]
theorem foldl_rm : ∀ (b : List (Int × Int)) (last : Int) (f : Int → Option (Int × Int)), Neat f → okFrom last b = true → ∀ n, (b.foldl rm f) n = if (at_ f n).2 ≤ ofL b n then none else f n
  | [], _, f, hf, _, n => by
    rw [List.foldl_nil]
    show f n = if _ ≤ (0 : Int) then none else f n
    rcases hf n with h | ⟨k, hk, h⟩
    · rw [h]; split <;> rfl
    · rw [at_some h, if_neg (by show ¬ k ≤ 0; omega)]
  | m :: r, last, f, hf, h, n => by
    obtain ⟨hd, hl, hr⟩ := okFrom_cons.1 h
    rw [List.foldl_cons, foldl_rm r m.1 (rm f m) (neat_rm hf m) hr n]
    show _ = if (at_ f n).2 ≤ (if m.1 = n then m.2 else ofL r n) then none else f n
    have e1 := rm_at (f := f) m n
    by_cases e : n = m.1
    · subst e
      rw [ofL_above r m.1 m.1 hr (by omega), if_pos rfl]
      by_cases hle : (at_ f m.1).2 ≤ m.2
      · rw [if_pos ⟨rfl, hle⟩] at e1
        rw [e1, at_none e1, if_pos (by omega), if_pos hle]
      · rw [if_neg (fun c => hle c.2)] at e1
        have e2 : at_ (rm f m) m.1 = at_ f m.1 := by unfold at_; rw [e1]
        have := (dotB_iff m).1 hd
        rw [e2, e1, if_neg (by omega), if_neg hle]
    · rw [if_neg (fun c => e c.1)] at e1
      have e2 : at_ (rm f m) n = at_ f n := by unfold at_; rw [e1]
      rw [e2, e1, if_neg (show ¬ m.1 = n from fun c => e c.symm)]
theorem ofL_mem : ∀ (l : List (Int × Int)) (last : Int), okFrom last l = true → ∀ m ∈ l, ofL l m.1 = m.2
  | x :: r, last, h, m, hm => by
    obtain ⟨hd, hl, hr⟩ := okFrom_cons.1 h
    show (if x.1 = m.1 then x.2 else ofL r m.1) = m.2
    rcases List.mem_cons.1 hm with rfl | hm
    · rw [if_pos rfl]
    · have h1 := ofL_mem r _ hr m hm
      have h2 : x.1 < m.1 := by
        have : ∀ (r : List (Int × Int)) (last : Int), okFrom last r = true → ∀ m ∈ r, last < m.1 := by
          intro r
          induction r with
          | nil => intro _ _ m hm; cases hm
          | cons y r ih =>
            intro last h m hm
            obtain ⟨_, hl, hr⟩ := okFrom_cons.1 h
            rcases List.mem_cons.1 hm with rfl | hm
            · exact hl
            · have := ih _ hr m hm; omega
        exact this r _ hr m hm
      rw [if_neg (by omega)]; exact h1
theorem ofL_none : ∀ (l : List (Int × Int)) (n : Int), (∀ m ∈ l, m.1 ≠ n) → ofL l n = 0
  | [], _, _ => rfl
  | x :: r, n, h => by
    show (if x.1 = n then x.2 else ofL r n) = 0
    rw [if_neg (h x (by simp))]
    exact ofL_none r n fun m hm => h m (by simp [hm])
theorem less_eq {a b : List (Int × Int)} (ha : rightB a = true) (hb : rightB b = true) : (∀ n, (b.foldl rm (mapL a)) n = none) ↔ a.all (fun m => decide (m.2 ≤ ofL b m.1)) = true := by
  have h1 := foldl_rm b 0 (mapL a) (neat_mapL ha) hb
  rw [List.all_eq_true]
  constructor
  · intro h m hm
    have h2 := h m.1
    have ho := ofL_mem a 0 ha m hm
    have hd := (dotB_iff m).1 (right_dot ha m hm)
    rw [h1, mapL_at ha, ho] at h2
    by_cases hle : m.2 ≤ ofL b m.1
    · simpa using hle
    · rw [if_neg hle, mapL_right ha, ho, if_neg (by omega)] at h2; cases h2
  · intro h n
    rw [h1, mapL_at ha]
    by_cases hle : ofL a n ≤ ofL b n
    · rw [if_pos hle]
    · exfalso
      have hb0 := ofL_nonneg hb n
      by_cases hex : ∃ m ∈ a, m.1 = n
      · obtain ⟨m, hm, rfl⟩ := hex
        have := h m hm
        rw [ofL_mem a 0 ha m hm] at hle
        simp at this; omega
      · rw [ofL_none a n (fun m hm e => hex ⟨m, hm, e⟩)] at hle; omega
theorem lessV_right {a b : List (Int × Int)} (ha : rightB a = true) (hb : rightB b = true) : lessV a b = a.all fun m => decide (m.2 ≤ ofL b m.1) := by unfold lessV; rw [ha, hb]; rfl
theorem joinTo_length (a b : List (Int × Int)) (k : Nat) : (joinTo a b k).length ≤ k := Nat.le_trans (List.length_filterMap_le _ _) (by simp)
theorem joinV_length (a b : List (Int × Int)) : (joinV a b).length ≤ 5 := by
  unfold joinV; split
  · exact joinTo_length a b 5
  · simp
end Go.Proofs.Ytiphlffcgjdoaaa.Mk

namespace Go.Proofs.Ytiphlffcgjdoaaa.Mk
open Go.RowKit

theorem fold_take {β : Type} (g : β → Int × Int → β) (f : β) (l : List (Int × Int)) (k : Nat) (h : k < l.length) : (l.take (k + 1)).foldl g f = g ((l.take k).foldl g f) l[k] := by
  rw [List.take_succ_eq_append_getElem h, List.foldl_append]; rfl
theorem Within.alloc {lo hi : Nat} {a w : World} (h : Within lo hi a w) (o : Obj) : Within lo hi a (w.alloc o) :=
  h.trans ⟨rfl, rfl, rfl, by simp, fun k hk _ => Below.heap_alloc _ _ _ hk⟩
/-- what removeOld leaves -/
def RemovedE (w : World) (b n : Nat) (f : Int → Option (Int × Int)) (m : Int × Int) (e : Ending) (w' : World) : Prop :=
  e = .returned (.tuple #[]) ∧ MapOf w' b n (rm f m) ∧ Within b (b + 1) w w'

set_option maxRecDepth 100000 in
theorem removeOld (b n : Nat) (f : Int → Option (Int × Int)) (m : Int × Int) (w : World) (hw : (Lit.int .i64 m.1).wf = true) (h : MapOf w b n f) :
    Calls Try.prog 76 #[.map (some b), mv m] w (RemovedE w b n f m) := by
  have hlt := h.lt
  have hlook := (h.alloc (.cells #[.int .i64 m.1, .int .i64 m.2] 30)).look hw
  obtain ⟨w2, hdel, hm2, hw2⟩ := (h.alloc (.cells #[.int .i64 m.1, .int .i64 m.2] 30)).drop m.1 hw 0
  have HM := Lib.hid h
  have HM2 := Lib.hid hm2
  have HW2 := Lib.hid (((Within.refl b (b + 1) w).alloc (.cells #[.int .i64 m.1, .int .i64 m.2] 30)).trans hw2)
  have HL : Hid (rm f m = if (at_ f m.1).2 ≤ m.2 then del f m.1 else f) := Lib.hid rfl
  clear h hm2 hw2 hw
  generalize at_ f m.1 = q at hlook HL
  obtain ⟨x, y⟩ := m
  obtain ⟨q0, q1⟩ := q
  unfold mv at hlook ⊢
  simp only at hlook hdel HL HM2 HW2
  have hf := field1 q0 q1
  by_cases hle : q1 ≤ y
  · have HE := Lib.hid (HL.out.trans (if_pos hle))
    go_enter Try.func76, Try.ntmps76
    go_wp2
    refine bodyPost_end (v := .tuple #[]) (by simp [results, Try.results76, go_sem]) rfl ⟨rfl, ?_, HW2.out⟩
    rw [HE.out]; exact HM2.out
  · have HE := Lib.hid (HL.out.trans (if_neg hle))
    go_enter Try.func76, Try.ntmps76
    go_wp2
    refine bodyPost_end (v := .tuple #[]) (by simp [results, Try.results76, go_sem]) rfl ⟨rfl, ?_, (Within.refl _ _ _).alloc _⟩
    rw [HE.out]; exact HM.out.alloc _

theorem run_make_cap (s : Nat) (hs : s ≤ 1048576) (w : World) :
    (Instr.makeSlice 23 (.int .i64 0) (.int .i64 (s : Int))).run Try.prog w = .ok (.slice (some ⟨w.heap.size, 0, none⟩) 0 s) (w.alloc (.cells (madeCells #[.int .i64 0, .int .i64 0] (s * 2)) 30)) := by
  obtain ⟨i0, hi, hz0, hz1, hz2⟩ := info_parts infoM
  have := run_make (P := Try.prog) w 23 30 i0 _ Try.underlying23 hi hz0 .i64 .i64 0 s (by omega) (by omega) (by rw [hz2]; omega) (by omega)
  rw [hz1] at this
  simpa [Value.cells] using this

set_option maxRecDepth 100000 in
set_option maxHeartbeats 1000000 in
theorem inOrder (b n : Nat) (f : Int → Option (Int × Int)) (w : World) (hn : n ≤ 100) (hf : Neat f) (h : MapOf w b n f) :
    Calls Try.prog 77 #[.map (some b)] w (Gives w (ordTo f 5)) := by
  have H := Lib.hid h
  have HF := Lib.hid hf
  have hlt := h.lt
  obtain ⟨s, hs, hlen, _⟩ := h.len 3
  have hmk := run_make_cap s (by omega)
  clear h hf
  go_enter Try.func77, Try.ntmps77
  go_wp2
  clear hmk hlen
  go_loopw [3, 4] (fun v i wr => ∃ (k : Nat), k ≤ 5 ∧ i = .int .i64 ((k : Int) + 1) ∧ wr.ownsRow w.heap.size 30 2 v (ordTo f k).length (flat (ordTo f k)) ∧ Below w.heap.size w wr) (fun _ i _ => 6 - (intOf i).toNat)
  case atStart => exact ⟨0, by omega, rfl, World.ownsRow_made w _ s (Nat.le_refl _) (by unfold maxLen; omega) (by rw [size_madeCells]), (Below.refl _ _).alloc (Nat.le_refl _) _⟩
  case round =>
    obtain ⟨k, hk, rfl, ho, hbel⟩ := hrel
    have HO := Lib.hid ho
    have HB := Lib.hid hbel
    clear ho hbel
    by_cases hlt5 : k < 5
    · have hlook := (H.out.below HB.out).look (k := (k : Int) + 1) (wf_small (by omega) (by omega))
      have HS := Lib.hid (ordTo_succ f k)
      have HP : Hid (pick f ((k : Int) + 1) = if at_ f ((k : Int) + 1) = (0, 0) then none else some (at_ f ((k : Int) + 1))) := Lib.hid rfl
      have HL : Hid ((ordTo f k).length ≤ 5) := Lib.hid (Nat.le_trans (List.length_filterMap_le _ _) (by simp; omega))
      have hc : (at_ f ((k : Int) + 1)) = (0, 0) ∨ ∃ y, 1 ≤ y ∧ at_ f ((k : Int) + 1) = ((k : Int) + 1, y) := by
        rcases HF.out ((k : Int) + 1) with h | ⟨y, hy, h⟩
        · left; unfold at_; rw [h]; rfl
        · right; exact ⟨y, hy, at_some h⟩
      rcases hc with hc | ⟨y, hy, hc⟩
      · rw [hc] at hlook HP
        clear hc
        unfold mv at hlook
        simp only at hlook
        have HE := Lib.hid (HP.out.trans (if_pos rfl))
        go_wp2_with fail
        go_roundw
        case rel => exact ⟨k + 1, by omega, by go_num, by rw [HS.out, HE.out]; simpa using HO.out.alloc _, HB.out.alloc HB.out.size _⟩
        case measure => go_light; simp [intOf]; omega
      · rw [hc] at hlook HP
        clear hc
        unfold mv at hlook
        simp only at hlook
        have HE := Lib.hid (HP.out.trans (if_neg (by intro e; injection e; omega)))
        have hx0 : ((k : Int) + 1 == 0) = false := by simp; omega
        go_wp2_with (at_builtin; refine wpList_append_mark _ rfl _ _ rfl w.heap.size _ (ordTo f k) ((k : Int) + 1, y) rfl (wr.heap.size + 1) (by simp) rfl (HO.out.alloc _) (by have := HL.out; omega) (by have := HB.out.size; simp; omega) ?_; intro v' w1 ho1 hb1)
        have HO1 := Lib.hid ho1
        have HB1 := Lib.hid ((HB.out.alloc HB.out.size _).trans hb1)
        clear ho1 hb1
        go_wp2
        go_roundw
        case rel => exact ⟨k + 1, by omega, by go_num, by rw [HS.out, HE.out]; exact HO1.out, HB1.out⟩
        case measure => go_light; simp [intOf]; omega
    · have hk5 : k = 5 := by omega
      subst hk5
      go_wp2
      go_ret
      obtain ⟨a, cap, rfl, ho⟩ := own_row HO.out
      exact ⟨a, cap, rfl, ho, HB.out⟩

theorem joinV_no {a b : List (Int × Int)} (h : ¬ (rightB a = true ∧ rightB b = true)) : joinV a b = [] := if_neg h
theorem joinV_right {a b : List (Int × Int)} (ha : rightB a = true) (hb : rightB b = true) : joinV a b = ordTo (b.foldl jn (mapL a)) 5 := by rw [join_eq ha hb]; exact if_pos ⟨ha, hb⟩
theorem neat_fold {b : List (Int × Int)} (hb : rightB b = true) {f : Int → Option (Int × Int)} (hf : Neat f) : ∀ k, Neat ((b.take k).foldl jn f) := by
  intro k
  have : ∀ (l : List (Int × Int)), (∀ m ∈ l, dotB m = true) → ∀ f, Neat f → Neat (l.foldl jn f) := by
    intro l
    induction l with
    | nil => intro _ f hf; exact hf
    | cons x r ih =>
      intro h f hf
      exact ih (fun m hm => h m (by simp [hm])) _ (neat_jn hf x ((dotB_iff x).1 (h x (by simp))).2.2.1)
  exact this _ (fun m hm => right_dot hb m (List.mem_of_mem_take hm)) f hf
theorem gives_nil (w w' : World) (hb : Below w.heap.size w w') : Gives w [] (.returned (.slice none 0 0)) w' := ⟨none, 0, rfl, .inl rfl, hb⟩

set_option maxRecDepth 100000 in
set_option maxHeartbeats 2000000 in
theorem impl_seenJoin (a b : Option Addr) (cap cap' : Nat) (l l' : List (Int × Int)) (w : World) (hl : l.length ≤ maxLen) (hl' : l'.length ≤ maxLen) (h : MarksAt w a l) (h' : MarksAt w b l') :
    Calls Try.prog 40 #[.slice a l.length cap, .slice b l'.length cap'] w (Gives w (joinV l l')) := by
  have H := Lib.hid h
  have H' := Lib.hid h'
  clear h h'
  cases hr : rightB l
  · rw [joinV_no (by rw [hr]; simp)]
    go_enter Try.func40, Try.ntmps40
    go_wp2_with (go_at_call 37; refine (seenRight _ _ l _ hl H.out).mono ?_; rintro e w' ⟨rfl, hb⟩)
    go_ret
    exact gives_nil _ _ hb
  cases hr' : rightB l'
  · rw [joinV_no (by rw [hr']; simp)]
    go_enter Try.func40, Try.ntmps40
    go_wp2_with fail
    refine (seenRight a cap l _ hl H.out).mono ?_
    rintro e w1 ⟨rfl, hb⟩
    go_wp2_with fail
    refine (seenRight b cap' l' _ hl' (H'.out.mono hb)).mono ?_
    rintro e w2 ⟨rfl, hb2⟩
    go_wp2
    go_ret
    exact gives_nil _ _ (hb.trans (hb2.mono hb.size))
  · rw [joinV_right hr hr']
    have HR := Lib.hid hr
    have HR' := Lib.hid hr'
    have h5 := right_len hr'
    go_enter Try.func40, Try.ntmps40
    go_wp2_with fail
    refine (seenRight a cap l _ hl H.out).mono ?_
    rintro e w1 ⟨rfl, hb⟩
    have HB1 := Lib.hid hb
    clear hb
    go_wp2_with fail
    refine (seenRight b cap' l' _ hl' (H'.out.mono HB1.out)).mono ?_
    rintro e w2 ⟨rfl, hb2⟩
    have HB2 := Lib.hid (HB1.out.trans (hb2.mono HB1.out.size))
    clear hb2
    go_wp2_with fail
    refine (byNode a cap l _ HR.out (H.out.mono HB2.out)).mono ?_
    rintro e w3 ⟨rfl, hm3, hb3⟩
    have HM3 := Lib.hid hm3
    have HB3 := Lib.hid (HB2.out.trans (hb3.mono HB2.out.size))
    have hz2 := HB2.out.size
    clear hm3 hb3
    go_wp2
    go_loopw [22] (fun i wr => ∃ (k : Nat), k ≤ l'.length ∧ i = .int .i64 k ∧ MapOf wr w2.heap.size (5 + k) ((l'.take k).foldl jn (mapL l)) ∧ Below w.heap.size w wr) (fun i _ => l'.length - (intOf i).toNat)
    case atStart => exact ⟨0, Nat.zero_le _, rfl, HM3.out, HB3.out⟩
    case round =>
      obtain ⟨k, hk, rfl, hm, hbel⟩ := hrel
      have HM := Lib.hid hm
      have HB := Lib.hid hbel
      have hlt0 := hm.lt
      clear hm hbel
      by_cases hlt : k < l'.length
      · obtain ⟨g, off, rfl, hg, c0, c1⟩ := (H'.out.mono HB.out).cells hlt
        have hq := right_get HR'.out k hlt
        have HS := Lib.hid (fold_take jn (mapL l) l' k hlt)
        generalize l'[k] = m at c0 c1 HS hq
        generalize (l'.take k).foldl jn (mapL l) = f at HM HS
        obtain ⟨x, y⟩ := m
        simp only at c0 c1 hq
        go_wp2_with fail
        refine (removeOld w2.heap.size (5 + k) f (x, y) _ (wf_small (by simp only; omega) (by simp only; omega)) (HM.out.alloc _)).mono ?_
        rintro e w4 ⟨rfl, hm4, hw4⟩
        have hz4 := hw4.size
        simp at hz4
        have hs4 : w4.heap[wr.heap.size]? = _ := hw4.block wr.heap.size (by simp) (by omega)
        have c4 : w4.cell? ⟨wr.heap.size, 0, none⟩ = some (.int .i64 x) := by rw [World.cell?_of_block (a := ⟨wr.heap.size, 0, none⟩) hs4, World.cell?_alloc_mark]; rfl
        have c5 : w4.cell? ⟨wr.heap.size, 1, none⟩ = some (.int .i64 y) := by rw [World.cell?_of_block (a := ⟨wr.heap.size, 1, none⟩) hs4, World.cell?_alloc_mark]; rfl
        clear hs4
        have hlook := hm4.look_ok (k := x) (wf_small (by omega) (by omega))
        have HM4 := Lib.hid hm4
        have HB4 := Lib.hid ((HB.out.alloc HB.out.size (.cells #[.int .i64 x, .int .i64 y] 30)).trans (hw4.below (B := w.heap.size) (by omega) (by have := HB.out.size; simp; omega)))
        clear hm4 hw4
        have HJ : Hid (jn f (x, y) = if (rm f (x, y) x).isSome = true then rm f (x, y) else upd (rm f (x, y)) (x, y)) := Lib.hid rfl
        generalize rm f (x, y) = f4 at HM4 hlook HJ
        generalize at_ f4 x = q at hlook
        obtain ⟨q0, q1⟩ := q
        unfold mv at hlook
        simp only at hlook
        cases hsome : (f4 x).isSome
        · rw [hsome] at hlook HJ
          obtain ⟨w5, hrun, hm5, hw5⟩ := (HM4.out.alloc (.cells #[.int .i64 q0, .int .i64 q1] 30)).store (x, y) (wf_small (by simp only; omega) (by simp only; omega)) (by unfold maxLen; omega)
          have HM5 := Lib.hid hm5
          have HB5 := Lib.hid ((HB4.out.alloc HB4.out.size (.cells #[.int .i64 q0, .int .i64 q1] 30)).trans (hw5.below (B := w.heap.size) (by omega) (by have := HB4.out.size; simp; omega)))
          clear hm5 hw5
          have c6 := (World.cell?_alloc_lt w4 (.cells #[.int .i64 q0, .int .i64 q1] 30) ⟨wr.heap.size, 0, none⟩ (by simp only; omega)).trans c4
          have c7 := (World.cell?_alloc_lt w4 (.cells #[.int .i64 q0, .int .i64 q1] 30) ⟨wr.heap.size, 1, none⟩ (by simp only; omega)).trans c5
          unfold mv at hrun
          simp only at hrun
          go_wp2
          go_roundw
          case rel => exact ⟨k + 1, by omega, by go_num, by rw [HS.out, HJ.out]; exact HM5.out, HB5.out⟩
          case measure => go_light; simp [intOf]; omega
        · rw [hsome] at hlook HJ
          go_wp2
          go_roundw
          case rel => exact ⟨k + 1, by omega, by go_num, by rw [HS.out, HJ.out]; exact (HM4.out.alloc _).mono (by omega), HB4.out.alloc HB4.out.size _⟩
          case measure => go_light; simp [intOf]; omega
      · have he : l'.take k = l' := List.take_of_length_le (by omega)
        rw [he] at HM
        clear he
        go_wp2_with fail
        refine (inOrder w2.heap.size (5 + k) (l'.foldl jn (mapL l)) _ (by omega) (foldl_jn l' 0 (mapL l) (neat_mapL HR.out) HR'.out).1 HM.out).mono ?_
        rintro e w6 ⟨a6, c6, rfl, ho6, hb6⟩
        have HB6 := Lib.hid (HB.out.trans (hb6.mono HB.out.size))
        have HO6 := Lib.hid (ho6.wide HB.out.size (Nat.le_refl _))
        clear ho6 hb6
        go_wp2
        go_ret
        exact ⟨a6, c6, rfl, HO6.out, HB6.out⟩

end Go.Proofs.Ytiphlffcgjdoaaa.Mk

namespace Go.Proofs.Ytiphlffcgjdoaaa.Mk
open Go.RowKit

/-- the marks of SeenPut, and its code -/
def putL (l : List (Int × Int)) (m : Int × Int) : List (Int × Int) := if l.length ≤ 400 ∧ rightB l = true ∧ dotB m = true then joinTo l [m] 5 else []
def putC (l : List (Int × Int)) (m : Int × Int) : Int := if l.length ≤ 400 then (if rightB l = true ∧ dotB m = true then 0 else 1) else 2
theorem putL_no {l : List (Int × Int)} {m : Int × Int} (h : rightB l = false ∨ dotB m = false) : putL l m = [] := if_neg (by rcases h with h | h <;> simp [h])
theorem putL_great {l : List (Int × Int)} {m : Int × Int} (h : ¬ l.length ≤ 400) : putL l m = [] := if_neg (fun c => h c.1)
theorem putC_great {l : List (Int × Int)} {m : Int × Int} (h : ¬ l.length ≤ 400) : putC l m = 2 := if_neg h
theorem putC_form {l : List (Int × Int)} {m : Int × Int} (hs : l.length ≤ 400) (h : rightB l = false ∨ dotB m = false) : putC l m = 1 := by
  unfold putC; rw [if_pos hs, if_neg (by rcases h with h | h <;> simp [h])]
theorem putC_ok {l : List (Int × Int)} {m : Int × Int} (hs : l.length ≤ 400) (hr : rightB l = true) (hd : dotB m = true) : putC l m = 0 := by
  unfold putC; rw [if_pos hs, if_pos ⟨hr, hd⟩]
theorem putL_yes {l : List (Int × Int)} {m : Int × Int} (hs : l.length ≤ 400) (hr : rightB l = true) (hd : dotB m = true) : putL l m = joinTo l [m] 5 := if_pos ⟨hs, hr, hd⟩
theorem right_one {m : Int × Int} (hd : dotB m = true) : rightB [m] = true := okFrom_cons.2 ⟨hd, by have := (dotB_iff m).1 hd; omega, rfl⟩
theorem joinV_one {l : List (Int × Int)} {m : Int × Int} (hr : rightB l = true) (hd : dotB m = true) : putL l m = joinV l [m] := by
  rw [putL_yes (Nat.le_trans (right_len hr) (by omega)) hr hd]; exact (if_pos ⟨hr, right_one hd⟩).symm
theorem putL_length (l : List (Int × Int)) (m : Int × Int) : (putL l m).length ≤ 5 := by
  unfold putL; split
  · exact joinTo_length l [m] 5
  · simp
/-- what a call that returns marks and a code leaves -/
def GivesOut (w : World) (l : List (Int × Int)) (code : Int) (e : Ending) (w' : World) : Prop :=
  ∃ a cap, e = .returned (.agg #[.slice a l.length cap, .int .i64 code]) ∧ OwnIn w' w.heap.size w'.heap.size a l ∧ Below w.heap.size w w'
theorem marks_one (w : World) (x y : Int) : MarksAt (w.alloc (.cells #[.int .i64 x, .int .i64 y] 30)) (some ⟨w.heap.size, 0, none⟩) [(x, y)] := by
  refine .inr ⟨_, 0, rfl, fun i hi => ?_⟩
  have : i = 0 := by simpa using hi
  subst this
  exact ⟨by rw [World.cell?_alloc_mark]; rfl, by rw [World.cell?_alloc_mark]; rfl⟩
/-- a mark that was boxed at block n, and a zero result behind it -/
structure Boxed (w : World) (n : Nat) (x y : Int) : Prop where
  b0 : w.cell? ⟨n, 0, none⟩ = some (.int .i64 x)
  b1 : w.cell? ⟨n, 1, none⟩ = some (.int .i64 y)
  r0 : w.cell? ⟨n + 1, 0, none⟩ = some (.slice none 0 0)
  r1 : w.cell? ⟨n + 1, 1, none⟩ = some (.int .i64 0)
  f0 : w.frozen? ⟨n + 1, 0, none⟩ = false
  f1 : w.frozen? ⟨n + 1, 1, none⟩ = false
  lt : n + 1 < w.heap.size
theorem Boxed.new (w : World) (x y : Int) (t t' : TypeId) : Boxed ((w.alloc (.cells #[.int .i64 x, .int .i64 y] t)).alloc (.cells #[.slice none 0 0, .int .i64 0] t')) w.heap.size x y := by
  have e : (w.alloc (.cells #[.int .i64 x, .int .i64 y] t)).heap.size = w.heap.size + 1 := by simp
  constructor
  · rw [World.cell?_alloc_lt _ _ _ (by simp), World.cell?_alloc_mark]; rfl
  · rw [World.cell?_alloc_lt _ _ _ (by simp), World.cell?_alloc_mark]; rfl
  · rw [← e, World.cell?_alloc_mark]; rfl
  · rw [← e, World.cell?_alloc_mark]; rfl
  · rw [← e, World.frozen?_alloc_mark]; simp
  · rw [← e, World.frozen?_alloc_mark]; simp
  · simp
theorem Boxed.below {w w' : World} {n : Nat} {x y : Int} (h : Boxed w n x y) (hb : Below w.heap.size w w') : Boxed w' n x y where
  b0 := (hb.cell (p := ⟨n, 0, none⟩) (by have := h.lt; simp only; omega)).trans h.b0
  b1 := (hb.cell (p := ⟨n, 1, none⟩) (by have := h.lt; simp only; omega)).trans h.b1
  r0 := (hb.cell (p := ⟨n + 1, 0, none⟩) h.lt).trans h.r0
  r1 := (hb.cell (p := ⟨n + 1, 1, none⟩) h.lt).trans h.r1
  f0 := (hb.frozen (p := ⟨n + 1, 0, none⟩) h.lt).trans h.f0
  f1 := (hb.frozen (p := ⟨n + 1, 1, none⟩) h.lt).trans h.f1
  lt := Nat.lt_of_lt_of_le h.lt hb.size
end Go.Proofs.Ytiphlffcgjdoaaa.Mk

namespace Go.Proofs.Ytiphlffcgjdoaaa.Mk
open Go.RowKit

set_option maxRecDepth 100000 in
set_option maxHeartbeats 1000000 in
theorem impl_seenPut (a : Option Addr) (cap : Nat) (l : List (Int × Int)) (m : Int × Int) (w : World) (hl : l.length ≤ maxLen) (h : MarksAt w a l) :
    Calls Try.prog 45 #[.slice a l.length cap, mv m] w (GivesOut w (putL l m) (putC l m)) := by
  have H := Lib.hid h
  clear h
  by_cases hs : l.length ≤ 400
  · have hs' : (l.length : Int) ≤ 400 := by omega
    cases hr : rightB l
    · have HL := Lib.hid (putL_no (m := m) (Or.inl hr))
      have HC := Lib.hid (putC_form (m := m) hs (Or.inl hr))
      obtain ⟨x, y⟩ := m
      unfold mv
      rw [HL.out, HC.out]
      go_enter Try.func45, Try.ntmps45
      go_wp2_with fail
      refine (seenRight a cap l _ hl (H.out.mono (((Below.refl _ w).alloc (Nat.le_refl _) _).alloc (by simp) _))).mono ?_
      rintro e w1 ⟨rfl, hb⟩
      have X1 := Lib.hid ((Boxed.new w x y _ _).below hb)
      obtain ⟨b0, b1, r0, r1, f0, f1, lt1⟩ := X1.out
      have HB := Lib.hid ((((Below.refl _ w).alloc (Nat.le_refl _) _).alloc (by simp) _).trans (hb.mono (by simp; omega)))
      clear hb
      go_wp2
      refine bodyPost_ret (v := .agg #[.slice none 0 0, .int .i64 1]) (by simp [results, Try.results45, go_sem, r0, r1, f0, f1]) rfl ?_
      exact ⟨none, 0, rfl, .inl rfl, (HB.out.setCell (by simp) _).setCell (by simp) _⟩
    cases hd : dotB m
    · have HL := Lib.hid (putL_no (l := l) (Or.inr hd))
      have HC := Lib.hid (putC_form (l := l) hs (Or.inr hd))
      obtain ⟨x, y⟩ := m
      unfold mv
      rw [HL.out, HC.out]
      go_enter Try.func45, Try.ntmps45
      go_wp2_with fail
      refine (seenRight a cap l _ hl (H.out.mono (((Below.refl _ w).alloc (Nat.le_refl _) _).alloc (by simp) _))).mono ?_
      rintro e w1 ⟨rfl, hb⟩
      have X1 := Lib.hid ((Boxed.new w x y _ _).below hb)
      obtain ⟨b0, b1, r0, r1, f0, f1, lt1⟩ := X1.out
      have HB := Lib.hid ((((Below.refl _ w).alloc (Nat.le_refl _) _).alloc (by simp) _).trans (hb.mono (by simp; omega)))
      clear hb
      go_wp2_with fail
      refine (dotRight (x, y) _).mono ?_
      rintro e w2 ⟨rfl, hb2⟩
      have X2 := Lib.hid (X1.out.below hb2)
      clear b0 b1 r0 r1 f0 f1 lt1
      obtain ⟨b0, b1, r0, r1, f0, f1, lt1⟩ := X2.out
      have HB2 := Lib.hid (HB.out.trans (hb2.mono HB.out.size))
      clear hb2
      go_wp2
      refine bodyPost_ret (v := .agg #[.slice none 0 0, .int .i64 1]) (by simp [results, Try.results45, go_sem, r0, r1, f0, f1]) rfl ?_
      exact ⟨none, 0, rfl, .inl rfl, (HB2.out.setCell (by simp) _).setCell (by simp) _⟩
    · have HL := Lib.hid (joinV_one hr hd)
      have HC := Lib.hid (putC_ok hs hr hd)
      obtain ⟨x, y⟩ := m
      unfold mv
      rw [HL.out, HC.out]
      go_enter Try.func45, Try.ntmps45
      go_wp2_with fail
      refine (seenRight a cap l _ hl (H.out.mono (((Below.refl _ w).alloc (Nat.le_refl _) _).alloc (by simp) _))).mono ?_
      rintro e w1 ⟨rfl, hb⟩
      have X1 := Lib.hid ((Boxed.new w x y _ _).below hb)
      obtain ⟨b0, b1, r0, r1, f0, f1, lt1⟩ := X1.out
      have HB := Lib.hid ((((Below.refl _ w).alloc (Nat.le_refl _) _).alloc (by simp) _).trans (hb.mono (by simp; omega)))
      clear hb
      go_wp2_with fail
      refine (dotRight (x, y) _).mono ?_
      rintro e w2 ⟨rfl, hb2⟩
      have X2 := Lib.hid (X1.out.below hb2)
      clear b0 b1 r0 r1 f0 f1 lt1
      obtain ⟨b0, b1, r0, r1, f0, f1, lt1⟩ := X2.out
      have HB2 := Lib.hid (HB.out.trans (hb2.mono HB.out.size))
      clear hb2
      go_wp2_with fail
      refine (impl_seenJoin a (some ⟨w2.heap.size, 0, none⟩) cap 1 l [(x, y)] _ hl (by unfold maxLen; simp) (H.out.mono (HB2.out.alloc HB2.out.size _)) (marks_one w2 x y)).mono ?_
      rintro e w3 ⟨a3, c3, rfl, ho3, hb3⟩
      have X3 := Lib.hid ((X2.out.below ((Below.refl _ _).alloc (Nat.le_refl _) _)).below hb3)
      clear b0 b1 r0 r1 f0 f1 lt1
      obtain ⟨b0, b1, r0, r1, f0, f1, lt1⟩ := X3.out
      have HB3 := Lib.hid ((HB2.out.alloc HB2.out.size (.cells #[.int .i64 x, .int .i64 y] 30)).trans (hb3.mono (by have := HB2.out.size; simp; omega)))
      have HO3 := Lib.hid (ho3.wide (lo' := w2.heap.size) (by simp) (Nat.le_refl _))
      have q2 := X2.out.lt
      clear hb3 ho3
      go_wp2
      refine bodyPost_ret (v := .agg #[.slice a3 _ c3, .int .i64 0]) (by simp [results, Try.results45, go_sem, r0, r1, f0, f1]; rfl) rfl ?_
      refine ⟨a3, c3, rfl, ?_, (HB3.out.setCell (by simp) _).setCell (by simp) _⟩
      rcases HO3.out with h0 | ⟨g, ha, h1, h2, ho⟩
      · exact .inl h0
      · refine .inr ⟨g, ha, by omega, by simpa [World.setCell] using h2, ho.same ?_⟩
        rw [Below.heap_setCell _ _ _ _ (by simp only; omega), Below.heap_setCell _ _ _ _ (by simp only; omega)]
  · have hs' : (400 : Int) < (l.length : Int) := by omega
    have HL := Lib.hid (putL_great (m := m) hs)
    have HC := Lib.hid (putC_great (m := m) hs)
    obtain ⟨x, y⟩ := m
    unfold mv
    unfold maxLen at hl
    rw [HL.out, HC.out]
    go_enter Try.func45, Try.ntmps45
    go_wp2
    refine bodyPost_ret (v := .agg #[.slice none 0 0, .int .i64 2]) (by simp [results, Try.results45, go_sem]) rfl ?_
    exact ⟨none, 0, rfl, .inl rfl, ((Below.refl _ w).alloc (Nat.le_refl _) _).alloc (by simp) _⟩
end Go.Proofs.Ytiphlffcgjdoaaa.Mk

namespace Go.Proofs.Ytiphlffcgjdoaaa.Nu

/-- the bytes of a number, as a string -/
def numS (n : Int) : ByteArray := ⟨(enc (fold n)).toArray⟩
theorem numS_size_of (n : Int) (h : -9223372036854775808 ≤ n ∧ n ≤ 9223372036854775807) : (numS n).size ≤ 10 := by
  have := enc_len10 (fold n) (fold_lt n h)
  simpa [numS, ByteArray.size] using this
theorem numS_size (n : Nat) (h : n ≤ 1000000) : (numS n).size ≤ 10 := numS_size_of n (by omega)
theorem numS_data (n : Int) : (numS n).data.toList = enc (fold n) := rfl
theorem numS_mk (n : Int) : ByteArray.mk (enc (fold n)).toArray = numS n := rfl
end Go.Proofs.Ytiphlffcgjdoaaa.Nu

namespace Go.Proofs.Ytiphlffcgjdoaaa.Mk
open Nu

/-- the bytes of a mark, of a version vector -/
def markB (m : Int × Int) : List UInt8 := enc (fold m.1) ++ enc (fold m.2)
def seenB (l : List (Int × Int)) : List UInt8 := enc (fold l.length) ++ l.flatMap markB
/-- what SeenBytes returns -/
def bytesV (l : List (Int × Int)) : ByteArray := if rightB l = true then ⟨(seenB l).toArray⟩ else ⟨#[]⟩
def markS (m : Int × Int) : ByteArray := numS m.1 ++ numS m.2
theorem markS_data (m : Int × Int) : (markS m).data.toList = markB m := by unfold markS markB; rw [ByteArray.data_append]; simp [numS]
theorem markS_size (m : Int × Int) (h : dotB m = true) : (markS m).size ≤ 20 := by
  have hm := (dotB_iff m).1 h
  have h1 := numS_size_of m.1 (by omega)
  have h2 := numS_size_of m.2 (by omega)
  unfold markS; rw [ByteArray.size_append]; omega
theorem markB_length (m : Int × Int) (h : dotB m = true) : (markB m).length ≤ 20 := by
  have := markS_size m h
  rw [← markS_data, Array.length_toList]; exact this
theorem flat_length_le : ∀ (l : List (Int × Int)), (∀ m ∈ l, dotB m = true) → (l.flatMap markB).length ≤ 20 * l.length
  | [], _ => by simp
  | x :: r, h => by
    have h1 := markB_length x (h x (by simp))
    have h2 := flat_length_le r (fun m hm => h m (by simp [hm]))
    rw [List.flatMap_cons, List.length_append, List.length_cons]; omega
theorem bytesV_no {l : List (Int × Int)} (h : rightB l = false) : bytesV l = ⟨#[]⟩ := if_neg (by rw [h]; simp)
theorem bytesV_yes {l : List (Int × Int)} (h : rightB l = true) : bytesV l = ⟨(seenB l).toArray⟩ := if_pos h
/-- the bytes of the first k marks, as the model joins them -/
def upTo (l : List (Int × Int)) (k : Nat) (t : ByteArray) : Prop := t.data.toList = enc (fold l.length) ++ (l.take k).flatMap markB ∧ t.size ≤ 10 + 20 * k
theorem upTo_zero (l : List (Int × Int)) (h : l.length ≤ 5) : upTo l 0 (numS l.length) := ⟨by simp [numS], by have := numS_size l.length (by omega); omega⟩
theorem upTo_next {l : List (Int × Int)} {k : Nat} {t : ByteArray} (h : upTo l k t) (hk : k < l.length) (hd : dotB l[k] = true) : upTo l (k + 1) (t ++ numS l[k].1 ++ numS l[k].2) := by
  have hm := (dotB_iff _).1 hd
  have h1 := numS_size_of l[k].1 (by omega)
  have h2 := numS_size_of l[k].2 (by omega)
  have h3 := h.2
  refine ⟨?_, by rw [ByteArray.size_append, ByteArray.size_append]; omega⟩
  rw [ByteArray.data_append, ByteArray.data_append, List.take_succ_eq_append_getElem hk, List.flatMap_append]
  simp only [Array.toList_append, h.1, numS_data, List.flatMap_cons, List.flatMap_nil, List.append_nil, markB, List.append_assoc]
theorem upTo_end {l : List (Int × Int)} {k : Nat} {t : ByteArray} (h : upTo l k t) (hk : l.length ≤ k) (hr : rightB l = true) : t = bytesV l := by
  rw [bytesV_yes hr]
  have h1 := h.1
  rw [List.take_of_length_le hk] at h1
  apply ByteArray.ext
  apply Array.ext'
  rw [h1]; rfl
end Go.Proofs.Ytiphlffcgjdoaaa.Mk

namespace Go.Proofs.Ytiphlffcgjdoaaa.Ge

/-- the byte at a place, as a number -/
def byteN (s : ByteArray) (k : Nat) : Nat := (s.data.toList.getD k 0).toNat
theorem byteN_eq (s : ByteArray) (k : Nat) (h : k < s.size) : byteN s k = s[k].toNat := by
  have e : s.data.toList[k]? = some s[k] := by rw [List.getElem?_eq_getElem (by simpa using h)]; rfl
  unfold byteN; rw [List.getD, e]; rfl
theorem byteN_lt (s : ByteArray) (k : Nat) : byteN s k < 256 := UInt8.toNat_lt _
/-- the signed number of an unsigned one -/
def unz (u : Nat) : Int := if u % 2 = 1 then -(u / 2 : Nat) - 1 else (u / 2 : Nat)
/-- number, offset behind it, code: u is what i bytes from place a on have given -/
def G (s : ByteArray) (a i u : Nat) : Int × Int × Int :=
  if i < 10 then
    if s.size ≤ a + i then (0, 0, 4)
    else if i = 9 ∧ 1 < byteN s (a + i) then (0, 0, 3)
    else if byteN s (a + i) < 128 then
      if byteN s (a + i) = 0 ∧ 0 < i then (0, 0, 3) else (unz (u + byteN s (a + i) % 128 * 128 ^ i), ((a + i + 1 : Nat) : Int), 0)
    else G s a (i + 1) (u + byteN s (a + i) % 128 * 128 ^ i)
  else (0, 0, 3)
termination_by 10 - i
section
variable {s : ByteArray} {a i u : Nat}
theorem G_end (h : ¬ i < 10) : G s a i u = (0, 0, 3) := by rw [G, if_neg h]
theorem G_short (h : i < 10) (h1 : s.size ≤ a + i) : G s a i u = (0, 0, 4) := by rw [G, if_pos h, if_pos h1]
theorem G_ten (h : i < 10) (h1 : ¬ s.size ≤ a + i) (h2 : i = 9 ∧ 1 < byteN s (a + i)) : G s a i u = (0, 0, 3) := by rw [G, if_pos h, if_neg h1, if_pos h2]
theorem G_zero (h : i < 10) (h1 : ¬ s.size ≤ a + i) (h2 : ¬ (i = 9 ∧ 1 < byteN s (a + i))) (h3 : byteN s (a + i) < 128) (h4 : byteN s (a + i) = 0 ∧ 0 < i) : G s a i u = (0, 0, 3) := by
  rw [G, if_pos h, if_neg h1, if_neg h2, if_pos h3, if_pos h4]
theorem G_last (h : i < 10) (h1 : ¬ s.size ≤ a + i) (h2 : ¬ (i = 9 ∧ 1 < byteN s (a + i))) (h3 : byteN s (a + i) < 128) (h4 : ¬ (byteN s (a + i) = 0 ∧ 0 < i)) :
    G s a i u = (unz (u + byteN s (a + i) % 128 * 128 ^ i), ((a + i + 1 : Nat) : Int), 0) := by
  rw [G, if_pos h, if_neg h1, if_neg h2, if_pos h3, if_neg h4]
theorem G_more (h : i < 10) (h1 : ¬ s.size ≤ a + i) (h2 : ¬ (i = 9 ∧ 1 < byteN s (a + i))) (h3 : ¬ byteN s (a + i) < 128) : G s a i u = G s a (i + 1) (u + byteN s (a + i) % 128 * 128 ^ i) := by
  rw [G, if_pos h, if_neg h1, if_neg h2, if_neg h3]
end
/-- what readNum gives -/
def readN (s : ByteArray) (at_ : Int) : Int × Int × Int := if at_ < 0 then (0, 0, 1) else G s at_.toNat 0 0
/-- what GetNum answers -/
def getN (s : ByteArray) (at_ : Int) : Int × Int × Int := if 8000 < s.size then (0, 0, 2) else readN s at_
/-- the sum after i bytes -/
theorem sum_lt (u b i : Nat) (hi : i < 10) (hu : u < 128 ^ i) (h9 : ¬ (i = 9 ∧ 1 < b)) (hb : b < 256) : u + b % 128 * 128 ^ i < 18446744073709551616 ∧ (¬ b < 128 → u + b % 128 * 128 ^ i < 128 ^ (i + 1) ∧ i < 9) := by
  have hm : b % 128 < 128 := Nat.mod_lt _ (by omega)
  have hp : b % 128 * 128 ^ i ≤ 127 * 128 ^ i := Nat.mul_le_mul_right _ (by omega)
  have hs : (128 : Nat) ^ (i + 1) = 128 * 128 ^ i := by rw [Nat.pow_succ]; omega
  by_cases e9 : i = 9
  · subst e9
    have hb1 : b ≤ 1 := by omega
    have h9' : (128 : Nat) ^ 9 = 9223372036854775808 := by decide
    have hp1 : b % 128 * 128 ^ 9 ≤ 1 * 128 ^ 9 := Nat.mul_le_mul_right _ (by omega)
    exact ⟨by omega, fun h => absurd hb1 (by omega)⟩
  · have h8 : (128 : Nat) ^ i ≤ 128 ^ 8 := Nat.pow_le_pow_right (by omega) (by omega)
    have h8' : (128 : Nat) ^ 8 = 72057594037927936 := by decide
    exact ⟨by omega, fun _ => ⟨by omega, by omega⟩⟩
theorem shl_eq (b i : Nat) : b * 2 ^ (7 * i) = b * 128 ^ i := by rw [Nat.pow_mul]
theorem or_eq (u b i : Nat) (hu : u < 128 ^ i) : u ||| b * 128 ^ i = u + b * 128 ^ i := by
  have e : (128 : Nat) ^ i = 2 ^ (7 * i) := by rw [Nat.pow_mul]
  rw [e] at hu ⊢
  rw [Nat.or_comm, nat_join (7 * i) (b * 2 ^ (7 * i)) u (Nat.mul_mod_left _ _) hu, Nat.add_comm]
end Go.Proofs.Ytiphlffcgjdoaaa.Ge

namespace Go.Proofs.Ytiphlffcgjdoaaa.Pn
open Nu Ge

theorem unz_fold (n : Int) : unz (fold n) = n := by
  unfold unz fold
  split <;> split <;> omega
/-- the bytes of s from place k on are l -/
def At (s : ByteArray) (k : Nat) (l : List UInt8) : Prop := k + l.length ≤ s.size ∧ ∀ j (h : j < l.length), byteN s (k + j) = l[j].toNat
theorem At.tail {s : ByteArray} {k : Nat} {c : UInt8} {l : List UInt8} (h : At s k (c :: l)) : At s (k + 1) l := by
  refine ⟨by have := h.1; simp at this; omega, fun j hj => ?_⟩
  have := h.2 (j + 1) (by simp; omega)
  rw [show k + 1 + j = k + (j + 1) by omega, this]; simp
theorem At.head {s : ByteArray} {k : Nat} {c : UInt8} {l : List UInt8} (h : At s k (c :: l)) : byteN s k = c.toNat ∧ k < s.size := by
  have h1 := h.1
  simp at h1
  exact ⟨by have := h.2 0 (by simp); simpa using this, by omega⟩
theorem nine (v i u : Nat) (hi : i < 10) (h : v * 128 ^ i + u < 18446744073709551616) : ¬ (i = 9 ∧ 1 < v) := by
  rintro ⟨rfl, hv⟩
  have e9 : (128 : Nat) ^ 9 = 9223372036854775808 := by decide
  rw [e9] at h
  omega
/-- a number's bytes are read back -/
theorem G_enc (s : ByteArray) (a : Nat) : ∀ (v i u : Nat), At s (a + i) (enc v) → i < 10 → u < 128 ^ i → v * 128 ^ i + u < 18446744073709551616 → (i = 0 ∨ 0 < v) →
    G s a i u = (unz (u + v * 128 ^ i), ((a + i + (enc v).length : Nat) : Int), 0) := by
  intro v
  induction v using Nat.strongRecOn with
  | _ v ih =>
    intro i u hat hi hu hlt hz
    by_cases h8 : v < 128
    · rw [enc_small v h8] at hat ⊢
      obtain ⟨hb, hk⟩ := hat.head
      rw [toNat_ofNat v (by omega)] at hb
      rw [G_last hi (by omega) (by rw [hb]; exact nine v i u hi hlt) (by rw [hb]; exact h8) (by rw [hb]; omega), hb, Nat.mod_eq_of_lt h8]
      rfl
    · rw [enc_more v h8] at hat ⊢
      obtain ⟨hb, hk⟩ := hat.head
      rw [toNat_ofNat (v % 128 + 128) (by omega)] at hb
      have hi9 : i < 9 := left_lt v i (by omega) (by omega)
      have hp : (128 : Nat) ^ (i + 1) = 128 * 128 ^ i := by rw [Nat.pow_succ]; omega
      have hsum : v / 128 * 128 ^ (i + 1) + (u + v % 128 * 128 ^ i) = v * 128 ^ i + u := by
        have e : v = 128 * (v / 128) + v % 128 := by omega
        rw [hp]
        calc v / 128 * (128 * 128 ^ i) + (u + v % 128 * 128 ^ i) = (128 * (v / 128) + v % 128) * 128 ^ i + u := by rw [Nat.add_mul, ← Nat.mul_assoc, Nat.mul_comm (v / 128) 128]; omega
          _ = v * 128 ^ i + u := by rw [← e]
      have hm : (v % 128 + 128) % 128 = v % 128 := by omega
      have hul : u + v % 128 * 128 ^ i < 128 ^ (i + 1) := by
        have : v % 128 * 128 ^ i ≤ 127 * 128 ^ i := Nat.mul_le_mul_right _ (by omega)
        rw [hp]; omega
      rw [G_more hi (by omega) (by omega) (by rw [hb]; omega), hb, hm]
      rw [ih (v / 128) (by omega) (i + 1) (u + v % 128 * 128 ^ i) hat.tail (by omega) hul (by rw [hsum]; exact hlt) (.inr (by omega))]
      have e2 : u + v % 128 * 128 ^ i + v / 128 * 128 ^ (i + 1) = u + v * 128 ^ i := by omega
      rw [e2]
      simp only [List.length_cons]
      rw [show a + (i + 1) + (enc (v / 128)).length = a + i + ((enc (v / 128)).length + 1) by omega]
theorem fold_unz (u : Nat) : fold (unz u) = u := by
  unfold unz fold
  split <;> split <;> omega
theorem unz_bounds (u : Nat) (h : u < 18446744073709551616) : -9223372036854775808 ≤ unz u ∧ unz u ≤ 9223372036854775807 := by
  unfold unz; split <;> omega
theorem At.cons {s : ByteArray} {k : Nat} {c : UInt8} {l : List UInt8} (hk : k < s.size) (hc : byteN s k = c.toNat) (h : At s (k + 1) l) : At s k (c :: l) := by
  refine ⟨by have := h.1; simp; omega, fun j hj => ?_⟩
  cases j with
  | zero => simpa using hc
  | succ j =>
    have := h.2 j (by simpa using hj)
    rw [show k + (j + 1) = k + 1 + j by omega, this]; simp
/-- what is read stands there as it would be written -/
theorem G_inv (s : ByteArray) (a : Nat) : ∀ (d i u : Nat) (n e : Int), 10 - i = d → u < 128 ^ i → G s a i u = (n, e, 0) →
    ∃ v, At s (a + i) (enc v) ∧ n = unz (u + v * 128 ^ i) ∧ e = ((a + i + (enc v).length : Nat) : Int) ∧ u + v * 128 ^ i < 18446744073709551616 ∧ (i = 0 ∨ 0 < v) := by
  intro d
  induction d with
  | zero =>
    intro i u n e hd hu h
    rw [G_end (by omega)] at h
    simp at h
  | succ d ih =>
    intro i u n e hd hu h
    have hi : i < 10 := by omega
    by_cases h1 : s.size ≤ a + i
    · rw [G_short hi h1] at h; simp at h
    by_cases h2 : i = 9 ∧ 1 < byteN s (a + i)
    · rw [G_ten hi h1 h2] at h; simp at h
    have hb := byteN_lt s (a + i)
    have hs := sum_lt u (byteN s (a + i)) i hi hu h2 hb
    by_cases h3 : byteN s (a + i) < 128
    · by_cases h4 : byteN s (a + i) = 0 ∧ 0 < i
      · rw [G_zero hi h1 h2 h3 h4] at h; simp at h
      · rw [G_last hi h1 h2 h3 h4] at h
        simp only [Prod.mk.injEq, and_true] at h
        rw [Nat.mod_eq_of_lt h3] at h hs
        refine ⟨byteN s (a + i), ?_, h.1.symm, ?_, hs.1, by omega⟩
        · rw [enc_small _ h3]
          exact At.cons (by omega) (by rw [toNat_ofNat _ (by omega)]) ⟨by simp; omega, fun j hj => by simp at hj⟩
        · rw [enc_small _ h3, ← h.2]; rfl
    · rw [G_more hi h1 h2 h3] at h
      obtain ⟨v, h5, h6, h7, h8, h9⟩ := ih (i + 1) _ n e (by omega) (hs.2 h3).1 h
      have hp : (128 : Nat) ^ (i + 1) = 128 * 128 ^ i := by rw [Nat.pow_succ]; omega
      have hv : 0 < v := by omega
      have e1 : u + byteN s (a + i) % 128 * 128 ^ i + v * 128 ^ (i + 1) = u + (byteN s (a + i) % 128 + 128 * v) * 128 ^ i := by
        rw [hp, Nat.add_mul, Nat.mul_assoc, Nat.mul_left_comm v 128, Nat.add_assoc]
      rw [e1] at h6 h8
      have e2 : (byteN s (a + i) % 128 + 128 * v) % 128 + 128 = byteN s (a + i) := by omega
      have e3 : (byteN s (a + i) % 128 + 128 * v) / 128 = v := by omega
      refine ⟨byteN s (a + i) % 128 + 128 * v, ?_, h6, ?_, h8, .inr (by omega)⟩
      · rw [enc_more _ (by omega), e2, e3]
        exact At.cons (by omega) (by rw [toNat_ofNat _ hb]) h5
      · rw [enc_more _ (by omega), e3, h7]
        simp only [List.length_cons]
        congr 1
        omega
/-- the same of readNum -/
theorem readN_inv {s : ByteArray} {a : Nat} {n e : Int} (h : readN s (a : Int) = (n, e, 0)) :
    At s a (enc (fold n)) ∧ e = ((a + (enc (fold n)).length : Nat) : Int) ∧ -9223372036854775808 ≤ n ∧ n ≤ 9223372036854775807 := by
  unfold readN at h
  rw [if_neg (by omega), Int.toNat_natCast] at h
  obtain ⟨v, h1, h2, h3, h4, _⟩ := G_inv s a 10 0 0 n e rfl (by decide) h
  simp only [Nat.pow_zero, Nat.mul_one, Nat.zero_add, Nat.add_zero] at h1 h2 h3 h4
  subst h2
  rw [fold_unz]
  exact ⟨h1, h3, unz_bounds v h4⟩
end Go.Proofs.Ytiphlffcgjdoaaa.Pn

namespace Go.Proofs.Ytiphlffcgjdoaaa.Mk
open Nu Ge Pn

/-- k marks from place a on -/
def readMarks (s : ByteArray) : Nat → Int → Option (List (Int × Int) × Int)
  | 0, a => some ([], a)
  | k + 1, a =>
    if (readN s a).2.2 = 0 ∧ (readN s (readN s a).2.1).2.2 = 0 then
      (readMarks s k (readN s (readN s a).2.1).2.1).map fun p => (((readN s a).1, (readN s (readN s a).2.1).1) :: p.1, p.2)
    else none
theorem readMarks_succ (s : ByteArray) (k : Nat) (a : Int) : readMarks s (k + 1) a = if (readN s a).2.2 = 0 ∧ (readN s (readN s a).2.1).2.2 = 0 then
      (readMarks s k (readN s (readN s a).2.1).2.1).map fun p => (((readN s a).1, (readN s (readN s a).2.1).1) :: p.1, p.2) else none := rfl
def addL (l : List (Int × Int)) (o : Option (List (Int × Int) × Int)) : Option (List (Int × Int) × Int) := o.map fun p => (l ++ p.1, p.2)
theorem addL_nil (o : Option (List (Int × Int) × Int)) : addL [] o = o := by cases o <;> rfl
theorem addL_one (l : List (Int × Int)) (m : Int × Int) (o : Option (List (Int × Int) × Int)) : addL l (o.map fun p => (m :: p.1, p.2)) = addL (l ++ [m]) o := by
  cases o
  · rfl
  · simp [addL]
theorem readMarks_step {s : ByteArray} {k : Nat} {a x a1 y a2 : Int} (h1 : readN s a = (x, a1, 0)) (h2 : readN s a1 = (y, a2, 0)) (l : List (Int × Int)) :
    addL l (readMarks s (k + 1) a) = addL (l ++ [(x, y)]) (readMarks s k a2) := by
  rw [← addL_one]
  congr 1
  rw [readMarks_succ, h1]
  simp only
  rw [h2]
  simp
theorem readMarks_bad1 {s : ByteArray} {k : Nat} {a : Int} (h1 : (readN s a).2.2 ≠ 0) (l : List (Int × Int)) : addL l (readMarks s (k + 1) a) = none := by
  rw [readMarks_succ, if_neg (fun c => h1 c.1)]; rfl
theorem readMarks_bad2 {s : ByteArray} {k : Nat} {a x a1 : Int} (h1 : readN s a = (x, a1, 0)) (h2 : (readN s a1).2.2 ≠ 0) (l : List (Int × Int)) : addL l (readMarks s (k + 1) a) = none := by
  rw [readMarks_succ, if_neg (fun c => by rw [h1] at c; exact h2 c.2)]; rfl
/-- the marks at place a, right or not -/
def parse (s : ByteArray) (a : Int) : Option (List (Int × Int) × Int) :=
  if (readN s a).2.2 = 0 ∧ 0 ≤ (readN s a).1 ∧ (readN s a).1 ≤ 5 then readMarks s (readN s a).1.toNat (readN s a).2.1 else none
/-- .. if they are a version vector -/
def seenAt (s : ByteArray) (a : Int) : Option (List (Int × Int) × Int) := (parse s a).filter fun p => rightB p.1
/-- what SeenRead returns: marks, code -/
def readL (s : ByteArray) : List (Int × Int) := if 8000 < s.size then [] else match seenAt s 0 with | some p => if p.2 = (s.size : Int) then p.1 else [] | none => []
def readC (s : ByteArray) : Int := if 8000 < s.size then 2 else match seenAt s 0 with | some p => if p.2 = (s.size : Int) then 0 else 3 | none => 3

theorem At.append {s : ByteArray} {k : Nat} : ∀ {l1 : List UInt8} {l2 : List UInt8}, Pn.At s k l1 → Pn.At s (k + l1.length) l2 → Pn.At s k (l1 ++ l2) := by
  intro l1
  induction l1 generalizing k with
  | nil => intro l2 _ h; simpa using h
  | cons c r ih =>
    intro l2 h1 h2
    obtain ⟨hb, hk⟩ := h1.head
    refine Pn.At.cons hk hb (ih h1.tail ?_)
    rw [show k + 1 + r.length = k + (c :: r).length by simp; omega]; exact h2
theorem markB_len (x y : Int) : (markB (x, y)).length = (enc (fold x)).length + (enc (fold y)).length := List.length_append
theorem readMarks_at (s : ByteArray) : ∀ (k a : Nat) (l : List (Int × Int)) (e : Int), a ≤ s.size → readMarks s k (a : Int) = some (l, e) →
    Pn.At s a (l.flatMap markB) ∧ e = ((a + (l.flatMap markB).length : Nat) : Int) ∧ l.length = k
  | 0, a, l, e, ha, h => by
    unfold readMarks at h
    simp only [Option.some.injEq, Prod.mk.injEq] at h
    obtain ⟨rfl, rfl⟩ := h
    exact ⟨⟨by simpa using ha, fun j hj => by simp at hj⟩, by simp, rfl⟩
  | k + 1, a, l, e, ha, h => by
    rw [readMarks_succ] at h
    split at h
    · rename_i hc
      obtain ⟨c1, c2⟩ := hc
      obtain ⟨x, a1, z1, h1⟩ : ∃ x a1 z1, readN s (a : Int) = (x, a1, z1) := ⟨_, _, _, rfl⟩
      rw [h1] at c1 c2 h
      simp only at c1 c2 h
      subst c1
      obtain ⟨i1, i2, _⟩ := readN_inv h1
      obtain ⟨y, a2, z2, h2⟩ : ∃ y a2 z2, readN s a1 = (y, a2, z2) := ⟨_, _, _, rfl⟩
      rw [h2] at c2 h
      simp only at c2 h
      subst c2
      rw [i2] at h2
      obtain ⟨j1, j2, _⟩ := readN_inv h2
      obtain ⟨p, hp, he⟩ := Option.map_eq_some_iff.1 h
      simp only [Prod.mk.injEq] at he
      obtain ⟨rfl, rfl⟩ := he
      rw [j2] at hp
      obtain ⟨k1, k2, k3⟩ := readMarks_at s k _ p.1 p.2 j1.1 hp
      refine ⟨?_, ?_, by simp [k3]⟩
      · rw [List.flatMap_cons]
        refine At.append (At.append i1 j1) ?_
        rw [markB_len, ← Nat.add_assoc]; exact k1
      · rw [k2, List.flatMap_cons, List.length_append, markB_len]
        congr 1; omega
    · cases h
theorem parse_at {s : ByteArray} {a : Nat} {l : List (Int × Int)} {e : Int} (h : parse s (a : Int) = some (l, e)) : Pn.At s a (seenB l) ∧ e = ((a + (seenB l).length : Nat) : Int) := by
  unfold parse at h
  split at h
  · rename_i hc
    obtain ⟨c1, c2, c3⟩ := hc
    obtain ⟨x, a1, z1, h1⟩ : ∃ x a1 z1, readN s (a : Int) = (x, a1, z1) := ⟨_, _, _, rfl⟩
    rw [h1] at c1 c2 c3 h
    simp only at c1 c2 c3 h
    subst c1
    obtain ⟨i1, i2, _⟩ := readN_inv h1
    rw [i2] at h
    obtain ⟨k1, k2, k3⟩ := readMarks_at s _ _ l e i1.1 h
    have hx : x = (l.length : Int) := by omega
    rw [hx] at i1 k1 k2
    unfold seenB
    exact ⟨At.append i1 k1, by rw [k2, List.length_append]; congr 1; omega⟩
  · cases h
/-- bytes that fill the whole string -/
theorem At.whole {s : ByteArray} {l : List UInt8} (h : Pn.At s 0 l) (hl : l.length = s.size) : s = ⟨l.toArray⟩ := by
  apply ByteArray.ext
  apply Array.ext
  · simpa using hl.symm
  · intro i h1 h2
    have := h.2 i (by simpa using h2)
    rw [Nat.zero_add, byteN_eq s i h1] at this
    have e : s[i] = l[i]'(by simpa using h2) := UInt8.toNat_inj.1 this
    have e' : s.data[i] = l[i]'(by simpa using h2) := e
    simpa using e'
theorem read_right {s : ByteArray} {l : List (Int × Int)} {e : Int} (h : parse s 0 = some (l, e)) (hr : rightB l = true) (he : e = (s.size : Int)) : bytesV l = s := by
  obtain ⟨h1, h2⟩ := parse_at (a := 0) h
  rw [bytesV_yes hr, At.whole h1 (by omega)]
theorem read_back {s : ByteArray} {l : List (Int × Int)} {e : Int} (h : parse s 0 = some (l, e)) (hs : bytesV l = s) (h0 : s.size ≠ 0) : rightB l = true ∧ e = (s.size : Int) := by
  obtain ⟨_, h2⟩ := parse_at (a := 0) h
  cases hr : rightB l
  · rw [bytesV_no hr] at hs; subst hs; exact absurd rfl h0
  · rw [bytesV_yes hr] at hs
    refine ⟨rfl, ?_⟩
    rw [h2, ← hs]
    simp [ByteArray.size]
theorem parse_pos {s : ByteArray} {l : List (Int × Int)} {e : Int} (h : parse s 0 = some (l, e)) : s.size ≠ 0 := by
  obtain ⟨h1, _⟩ := parse_at (a := 0) h
  have := h1.1
  have h3 := enc_pos (fold l.length)
  unfold seenB at this
  rw [List.length_append] at this
  omega
section
variable {s : ByteArray} {l : List (Int × Int)} {e : Int}
theorem read_size (h : 8000 < s.size) : readL s = [] ∧ readC s = 2 := ⟨if_pos h, if_pos h⟩
theorem seenAt_some {a : Int} (h : parse s a = some (l, e)) (hr : rightB l = true) : seenAt s a = some (l, e) := by unfold seenAt; rw [h]; simp [Option.filter, hr]
theorem seenAt_wrong {a : Int} (h : parse s a = some (l, e)) (hr : rightB l = false) : seenAt s a = none := by unfold seenAt; rw [h]; simp [Option.filter, hr]
theorem seenAt_none {a : Int} (h : parse s a = none) : seenAt s a = none := by unfold seenAt; rw [h]; rfl
theorem read_none (h8 : ¬ 8000 < s.size) (h : seenAt s 0 = none) : readL s = [] ∧ readC s = 3 := by
  unfold readL readC; rw [if_neg h8, if_neg h8, h]; exact ⟨rfl, rfl⟩
theorem read_more (h8 : ¬ 8000 < s.size) (h : seenAt s 0 = some (l, e)) (he : e ≠ (s.size : Int)) : readL s = [] ∧ readC s = 3 := by
  unfold readL readC; rw [if_neg h8, if_neg h8, h]; exact ⟨if_neg he, if_neg he⟩
theorem read_yes (h8 : ¬ 8000 < s.size) (h : seenAt s 0 = some (l, e)) (he : e = (s.size : Int)) : readL s = l ∧ readC s = 0 := by
  unfold readL readC; rw [if_neg h8, if_neg h8, h]; exact ⟨if_pos he, if_pos he⟩
end
theorem readN_bad (s : ByteArray) (a : Int) (h : (readN s a).2.2 ≠ 0) : ∃ c, c ≠ 0 ∧ readN s a = (0, 0, c) := by
  have key : ∀ (d i u b : Nat), 10 - i = d → (G s b i u).2.2 ≠ 0 → ∃ c, c ≠ 0 ∧ G s b i u = (0, 0, c) := by
    intro d
    induction d with
    | zero => intro i u b hd _; exact ⟨3, by decide, G_end (by omega)⟩
    | succ d ih =>
      intro i u b hd h
      have hi : i < 10 := by omega
      by_cases h1 : s.size ≤ b + i
      · exact ⟨4, by decide, G_short hi h1⟩
      by_cases h2 : i = 9 ∧ 1 < byteN s (b + i)
      · exact ⟨3, by decide, G_ten hi h1 h2⟩
      by_cases h3 : byteN s (b + i) < 128
      · by_cases h4 : byteN s (b + i) = 0 ∧ 0 < i
        · exact ⟨3, by decide, G_zero hi h1 h2 h3 h4⟩
        · rw [G_last hi h1 h2 h3 h4] at h; exact absurd rfl h
      · rw [G_more hi h1 h2 h3] at h ⊢
        exact ih _ _ _ (by omega) h
  unfold readN at h ⊢
  split
  · exact ⟨1, by decide, rfl⟩
  · rw [if_neg (by assumption)] at h
    exact key 10 0 0 _ rfl h
theorem readL_length (s : ByteArray) : (readL s).length ≤ 5 := by
  unfold readL
  split
  · simp
  · split
    · rename_i p hp
      split
      · unfold seenAt at hp
        obtain ⟨_, h⟩ := Option.filter_eq_some_iff.1 hp
        exact right_len h
      · simp
    · simp
end Go.Proofs.Ytiphlffcgjdoaaa.Mk
