/- The join and the order of version vectors, as the program makes them out of a map and as the model makes them out of lists. No condition. -/
import Derived.Test.YtiaoifodaoifjaaDoorMarkMath
set_option linter.unusedSimpArgs false
set_option linter.unusedVariables false
namespace Go.Proofs.YtiaoifodaoifjaaDoor.Mk

def rm (f : Int → Option (Int × Int)) (m : Int × Int) : Int → Option (Int × Int) := if (at_ f m.1).2 ≤ m.2 then del f m.1 else f
def jn (f : Int → Option (Int × Int)) (m : Int × Int) : Int → Option (Int × Int) := if (rm f m m.1).isSome = true then rm f m else upd (rm f m) m
def pick (f : Int → Option (Int × Int)) (n : Int) : Option (Int × Int) := if at_ f n = (0, 0) then none else some (at_ f n)
def ordTo (f : Int → Option (Int × Int)) (k : Nat) : List (Int × Int) := (List.range k).filterMap fun (i : Nat) => pick f ((i : Int) + 1)
def imax (a b : Int) : Int := if b < a then a else b
def jpick (a b : List (Int × Int)) (n : Int) : Option (Int × Int) := if 0 < imax (ofL a n) (ofL b n) then some (n, imax (ofL a n) (ofL b n)) else none
def joinTo (a b : List (Int × Int)) (k : Nat) : List (Int × Int) := (List.range k).filterMap fun (i : Nat) => jpick a b ((i : Int) + 1)
/-- what SeenJoin returns -/
def joinV (a b : List (Int × Int)) : List (Int × Int) := if rightB a = true ∧ rightB b = true then joinTo a b 5 else []
def lessV (a b : List (Int × Int)) : Bool := rightB a && rightB b && a.all fun m => decide (m.2 ≤ ofL b m.1)

/-- a map that holds each mark under its own node -/
def Neat (f : Int → Option (Int × Int)) : Prop := ∀ n, f n = none ∨ ∃ k, 1 ≤ k ∧ f n = some (n, k)
theorem ordTo_succ (f : Int → Option (Int × Int)) (k : Nat) : ordTo f (k + 1) = ordTo f k ++ (pick f ((k : Int) + 1)).toList := by
  unfold ordTo; rw [List.range_succ, List.filterMap_append]; simp [List.filterMap_cons]; split <;> simp_all
theorem joinTo_succ (a b : List (Int × Int)) (k : Nat) : joinTo a b (k + 1) = joinTo a b k ++ (jpick a b ((k : Int) + 1)).toList := by
  unfold joinTo; rw [List.range_succ, List.filterMap_append]; simp [List.filterMap_cons]; split <;> simp_all
theorem neat_nil : Neat nil := fun _ => .inl rfl
theorem neat_mapL {l : List (Int × Int)} (h : rightB l = true) : Neat (mapL l) := fun n => by
  rw [mapL_right h]
  have := ofL_nonneg h n
  by_cases e : ofL l n = 0
  · exact .inl (if_pos e)
  · exact .inr ⟨ofL l n, by omega, if_neg e⟩
theorem neat_rm {f : Int → Option (Int × Int)} (h : Neat f) (m : Int × Int) : Neat (rm f m) := fun n => by
  unfold rm del
  split
  · by_cases e : n = m.1
    · exact .inl (if_pos e)
    · simp only [if_neg e]; exact h n
  · exact h n
theorem neat_upd {f : Int → Option (Int × Int)} (h : Neat f) (m : Int × Int) (hm : 1 ≤ m.2) : Neat (upd f m) := fun n => by
  unfold upd
  by_cases e : n = m.1
  · right; exact ⟨m.2, hm, by rw [if_pos e, e]⟩
  · rw [if_neg e]; exact h n
theorem neat_jn {f : Int → Option (Int × Int)} (h : Neat f) (m : Int × Int) (hm : 1 ≤ m.2) : Neat (jn f m) := by
  unfold jn
  split
  · exact neat_rm h m
  · exact neat_upd (neat_rm h m) m hm
theorem ofL_above : ∀ (r : List (Int × Int)) (last n : Int), okFrom last r = true → n ≤ last → ofL r n = 0
  | [], _, _, _, _ => rfl
  | x :: r, last, n, h, hn => by
    obtain ⟨_, hl, hr⟩ := okFrom_cons.1 h
    show (if x.1 = n then x.2 else ofL r n) = 0
    rw [if_neg (by omega)]
    exact ofL_above r _ _ hr (by omega)
theorem okFrom_nonneg : ∀ (r : List (Int × Int)) (last n : Int), okFrom last r = true → 0 ≤ ofL r n
  | [], _, _, _ => Int.le_refl _
  | x :: r, last, n, h => by
    obtain ⟨hd, hl, hr⟩ := okFrom_cons.1 h
    have := (dotB_iff x).1 hd
    show 0 ≤ (if x.1 = n then x.2 else ofL r n)
    split
    · omega
    · exact okFrom_nonneg r _ _ hr
theorem at_none {f : Int → Option (Int × Int)} {n : Int} (h : f n = none) : (at_ f n).2 = 0 := by unfold at_; rw [h]; rfl
theorem at_some {f : Int → Option (Int × Int)} {n : Int} {m : Int × Int} (h : f n = some m) : at_ f n = m := by unfold at_; rw [h]; rfl
theorem jn_at {f : Int → Option (Int × Int)} (hf : Neat f) (m : Int × Int) (hm : 1 ≤ m.2) (n : Int) : (at_ (jn f m) n).2 = if n = m.1 then imax (at_ f n).2 m.2 else (at_ f n).2 := by
  by_cases e : n = m.1
  · subst e
    rw [if_pos rfl]
    unfold imax
    by_cases hle : (at_ f m.1).2 ≤ m.2
    · have e1 : rm f m m.1 = none := by unfold rm; rw [if_pos hle]; unfold del; rw [if_pos rfl]
      have e2 : jn f m m.1 = some m := by unfold jn; rw [e1, if_neg (by simp)]; unfold upd; rw [if_pos rfl]
      rw [at_some e2, if_neg (by omega)]
    · have e0 : rm f m = f := by unfold rm; rw [if_neg hle]
      rcases hf m.1 with h0 | ⟨k, hk, h0⟩
      · rw [at_none h0] at hle; omega
      · have e2 : jn f m = f := by unfold jn; rw [e0, h0, if_pos (by rfl)]
        rw [e2, if_pos (by omega)]
  · rw [if_neg e]
    have e1 : jn f m n = f n := by
      have e0 : rm f m n = f n := by
        unfold rm; split
        · unfold del; rw [if_neg e]
        · rfl
      unfold jn
      split
      · exact e0
      · unfold upd; rw [if_neg e]; exact e0
    unfold at_; rw [e1]
theorem imax_zero {x : Int} (h : 0 ≤ x) : imax x 0 = x := by unfold imax; split <;> omega
theorem foldl_jn : ∀ (b : List (Int × Int)) (last : Int) (f : Int → Option (Int × Int)), Neat f → okFrom last b = true → Neat (b.foldl jn f) ∧ ∀ n, (at_ (b.foldl jn f) n).2 = imax (at_ f n).2 (ofL b n)
  | [], _, f, hf, _ => ⟨hf, fun n => by
    rw [List.foldl_nil]
    show _ = imax _ 0
    rcases hf n with h | ⟨k, hk, h⟩
    · rw [at_none h]; rfl
    · rw [at_some h, imax_zero (by show 0 ≤ k; omega)]⟩
  | m :: r, last, f, hf, h => by
    obtain ⟨hd, hl, hr⟩ := okFrom_cons.1 h
    have hm := (dotB_iff m).1 hd
    obtain ⟨i1, i2⟩ := foldl_jn r m.1 (jn f m) (neat_jn hf m hm.2.2.1) hr
    refine ⟨i1, fun n => ?_⟩
    rw [List.foldl_cons, i2, jn_at hf m hm.2.2.1]
    show _ = imax _ (if m.1 = n then m.2 else ofL r n)
    by_cases e : n = m.1
    · rw [if_pos e, if_pos e.symm, ofL_above r m.1 n hr (by omega), imax_zero (by unfold imax; split <;> omega)]
    · rw [if_neg e, if_neg (fun h => e h.symm)]
theorem pick_neat {f : Int → Option (Int × Int)} (hf : Neat f) (n : Int) : pick f n = if 0 < (at_ f n).2 then some (n, (at_ f n).2) else none := by
  unfold pick
  rcases hf n with h | ⟨k, hk, h⟩
  · have : at_ f n = (0, 0) := by unfold at_; rw [h]; rfl
    rw [if_pos this, this, if_neg (by simp)]
  · rw [at_some h, if_neg (by intro e; injection e; omega), if_pos (by simp only; omega)]
theorem join_eq {a b : List (Int × Int)} (ha : rightB a = true) (hb : rightB b = true) (k : Nat) : ordTo (b.foldl jn (mapL a)) k = joinTo a b k := by
  obtain ⟨h1, h2⟩ := foldl_jn b 0 (mapL a) (neat_mapL ha) hb
  unfold ordTo joinTo
  congr 1
  funext i
  rw [pick_neat h1, h2, mapL_at ha]
  rfl

theorem rm_at {f : Int → Option (Int × Int)} (m : Int × Int) (n : Int) : rm f m n = if n = m.1 ∧ (at_ f m.1).2 ≤ m.2 then none else f n := by
  unfold rm del
  by_cases h : (at_ f m.1).2 ≤ m.2
  · rw [if_pos h]
    by_cases e : n = m.1
    · simp only [if_pos e]; rw [if_pos ⟨e, h⟩]
    · simp only [if_neg e]; rw [if_neg (fun c => e c.1)]
  · rw [if_neg h, if_neg (fun c => h c.2)]
theorem foldl_rm : ∀ (b : List (Int × Int)) (last : Int) (f : Int → Option (Int × Int)), Neat f → okFrom last b = true → ∀ n, (b.foldl rm f) n = if (at_ f n).2 ≤ ofL b n then none else f n
  | [], _, f, hf, _, n => by
    rw [List.foldl_nil]
    show f n = if _ ≤ (0 : Int) then none else f n
    rcases hf n with h | ⟨k, hk, h⟩
    · rw [h]; split <;> rfl
    · rw [at_some h, if_neg (by show ¬ k ≤ 0; omega)]
  | m :: r, last, f, hf, h, n => by
    obtain ⟨hd, hl, hr⟩ := okFrom_cons.1 h
    rw [List.foldl_cons, foldl_rm r m.1 (rm f m) (neat_rm hf m) hr n]
    show _ = if (at_ f n).2 ≤ (if m.1 = n then m.2 else ofL r n) then none else f n
    have e1 := rm_at (f := f) m n
    by_cases e : n = m.1
    · subst e
      rw [ofL_above r m.1 m.1 hr (by omega), if_pos rfl]
      by_cases hle : (at_ f m.1).2 ≤ m.2
      · rw [if_pos ⟨rfl, hle⟩] at e1
        rw [e1, at_none e1, if_pos (by omega), if_pos hle]
      · rw [if_neg (fun c => hle c.2)] at e1
        have e2 : at_ (rm f m) m.1 = at_ f m.1 := by unfold at_; rw [e1]
        have := (dotB_iff m).1 hd
        rw [e2, e1, if_neg (by omega), if_neg hle]
    · rw [if_neg (fun c => e c.1)] at e1
      have e2 : at_ (rm f m) n = at_ f n := by unfold at_; rw [e1]
      rw [e2, e1, if_neg (show ¬ m.1 = n from fun c => e c.symm)]
theorem ofL_mem : ∀ (l : List (Int × Int)) (last : Int), okFrom last l = true → ∀ m ∈ l, ofL l m.1 = m.2
  | x :: r, last, h, m, hm => by
    obtain ⟨hd, hl, hr⟩ := okFrom_cons.1 h
    show (if x.1 = m.1 then x.2 else ofL r m.1) = m.2
    rcases List.mem_cons.1 hm with rfl | hm
    · rw [if_pos rfl]
    · have h1 := ofL_mem r _ hr m hm
      have h2 : x.1 < m.1 := by
        have : ∀ (r : List (Int × Int)) (last : Int), okFrom last r = true → ∀ m ∈ r, last < m.1 := by
          intro r
          induction r with
          | nil => intro _ _ m hm; cases hm
          | cons y r ih =>
            intro last h m hm
            obtain ⟨_, hl, hr⟩ := okFrom_cons.1 h
            rcases List.mem_cons.1 hm with rfl | hm
            · exact hl
            · have := ih _ hr m hm; omega
        exact this r _ hr m hm
      rw [if_neg (by omega)]; exact h1
theorem ofL_none : ∀ (l : List (Int × Int)) (n : Int), (∀ m ∈ l, m.1 ≠ n) → ofL l n = 0
  | [], _, _ => rfl
  | x :: r, n, h => by
    show (if x.1 = n then x.2 else ofL r n) = 0
    rw [if_neg (h x (by simp))]
    exact ofL_none r n fun m hm => h m (by simp [hm])
theorem less_eq {a b : List (Int × Int)} (ha : rightB a = true) (hb : rightB b = true) : (∀ n, (b.foldl rm (mapL a)) n = none) ↔ a.all (fun m => decide (m.2 ≤ ofL b m.1)) = true := by
  have h1 := foldl_rm b 0 (mapL a) (neat_mapL ha) hb
  rw [List.all_eq_true]
  constructor
  · intro h m hm
    have h2 := h m.1
    have ho := ofL_mem a 0 ha m hm
    have hd := (dotB_iff m).1 (right_dot ha m hm)
    rw [h1, mapL_at ha, ho] at h2
    by_cases hle : m.2 ≤ ofL b m.1
    · simpa using hle
    · rw [if_neg hle, mapL_right ha, ho, if_neg (by omega)] at h2; cases h2
  · intro h n
    rw [h1, mapL_at ha]
    by_cases hle : ofL a n ≤ ofL b n
    · rw [if_pos hle]
    · exfalso
      have hb0 := ofL_nonneg hb n
      by_cases hex : ∃ m ∈ a, m.1 = n
      · obtain ⟨m, hm, rfl⟩ := hex
        have := h m hm
        rw [ofL_mem a 0 ha m hm] at hle
        simp at this; omega
      · rw [ofL_none a n (fun m hm e => hex ⟨m, hm, e⟩)] at hle; omega
theorem lessV_right {a b : List (Int × Int)} (ha : rightB a = true) (hb : rightB b = true) : lessV a b = a.all fun m => decide (m.2 ≤ ofL b m.1) := by unfold lessV; rw [ha, hb]; rfl
theorem joinTo_length (a b : List (Int × Int)) (k : Nat) : (joinTo a b k).length ≤ k := Nat.le_trans (List.length_filterMap_le _ _) (by simp)
theorem joinV_length (a b : List (Int × Int)) : (joinV a b).length ≤ 5 := by
  unfold joinV; split
  · exact joinTo_length a b 5
  · simp
end Go.Proofs.YtiaoifodaoifjaaDoor.Mk
