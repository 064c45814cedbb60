/- Contracts of spec.l01Min, spec.l04Owners, spec.Owners and impl.Owners. Condition: the key is a string that may be, and there are no more tokens than a slice may have. -/
import Derived.Test.YteibkoaepgdmlaaDoorOrderS
import Derived.Test.YteibkoaepgdmlaaDoorOrderI
set_option linter.unusedSimpArgs false
set_option linter.unusedVariables false
namespace Go.Proofs.YteibkoaepgdmlaaDoor.Rg
open Go.RowKit Go.Proofs.YteibkoaepgdmlaaDoor.Mk Go.Proofs.YteibkoaepgdmlaaDoor.Rw Go.Proofs.YteibkoaepgdmlaaDoor.Tk Go.Proofs.YteibkoaepgdmlaaDoor.Iz Go.Proofs.YteibkoaepgdmlaaDoor.Fv

/-- what Owners answers -/
def ownersV (n : Int) (l : List Tok) (key : ByteArray) (k : Int) : List Int := if isB k 1 5 = true then (orderV n l key).take k.toNat else []
theorem ownersV_no {n : Int} {l : List Tok} {key : ByteArray} {k : Int} (h : isB k 1 5 = false) : ownersV n l key k = [] := if_neg (by rw [h]; simp)
theorem ownersV_yes {n : Int} {l : List Tok} {key : ByteArray} {k : Int} (h : isB k 1 5 = true) : ownersV n l key k = (orderV n l key).take k.toNat := if_pos h
theorem ownersV_len (n : Int) (l : List Tok) (key : ByteArray) (k : Int) : (ownersV n l key k).length ≤ 5 := by
  have := orderV_len n l key
  cases h : isB k 1 5
  · rw [ownersV_no h]; simp
  · rw [ownersV_yes h, List.length_take]; omega
theorem ROwn_take {w : World} {g : Nat} {l : List Int} (m : Nat) (h : ROwn 1 zenc w g l) : ROwn 1 zenc w g (l.take m) where
  cell := fun i hi j hj => by
    have hi' : i < l.length := by rw [List.length_take] at hi; omega
    rw [List.getElem_take]; exact h.cell i hi' j hj
  free := h.free
theorem ROwnIn_take {w : World} {lo hi : Nat} {a : Option Addr} {l : List Int} (m : Nat) (h : ROwnIn 1 zenc w lo hi a l) : ROwnIn 1 zenc w lo hi a (l.take m) := by
  rcases h with rfl | ⟨g, ha, h1, h2, ho⟩
  · exact .inl (by simp)
  · exact .inr ⟨g, ha, h1, h2, ROwn_take m ho⟩
/-- the lesser of two numbers, as the program reckons it -/
theorem cut_take (l : List Int) (k : Nat) : (l.take k).length = min k l.length := List.length_take ..
set_option maxRecDepth 100000 in
set_option maxHeartbeats 1000000 in
theorem impl_ownersH (n : Int) (a : Option Addr) (cap : Nat) (l : List Tok) (key : ByteArray) (k : Int) (w : World) (hl : l.length ≤ maxLen) (hk : key.size ≤ maxLen) (hM : MarksAt w a l) :
    Calls Tryd.prog 21 #[.agg #[.int .i64 n, .slice a l.length cap], .string key, .int .i64 k] w (ZGivesH w (ownersV n l key k)) := by
  have H := Lib.hid hM
  have HNR := Lib.hid (nodeRight k)
  have HOr := Lib.hid (fun W hW => impl_orderH n a cap l key W hl hk hW)
  have RC := Lib.hid (Cells.new w #[.int .i64 n, .slice a l.length cap] 27)
  have DW := Lib.hid (step_alloc w (.cells #[.int .i64 n, .slice a l.length cap] 27))
  have HL5 := Lib.hid (orderV_len n l key)
  clear hM hk
  unfold maxLen at hl
  cases hb : isB k 1 5
  · have HV := Lib.hid (ownersV_no (n := n) (l := l) (key := key) hb)
    go_enter Tryd.func21, Tryd.ntmps21
    go_wp2_with fail
    generalize w.alloc (.cells #[.int .i64 n, .slice a l.length cap] 27) = wb at RC DW ⊢
    refine (HNR.out _).mono ?_
    rw [hb]
    rintro e w' ⟨rfl, rfl⟩
    go_wp2
    go_ret
    exact ⟨none, 0, by rw [HV.out]; rfl, by rw [HV.out]; exact .inl ⟨rfl, rfl, rfl⟩, by rw [HV.out]; exact .inl rfl, DW.out⟩
  have HV := Lib.hid (ownersV_yes (n := n) (l := l) (key := key) hb)
  have h5 := (isB_iff _ _ _).1 hb
  obtain ⟨q, rfl⟩ := Int.eq_ofNat_of_zero_le (show 0 ≤ k by omega)
  rw [Int.toNat_natCast] at HV
  go_enter Tryd.func21, Tryd.ntmps21
  go_wp2_with fail
  generalize w.alloc (.cells #[.int .i64 n, .slice a l.length cap] 27) = wb at RC DW ⊢
  refine (HNR.out _).mono ?_
  rw [hb]
  rintro e w' ⟨rfl, rfl⟩
  obtain ⟨r0, r1, _, _⟩ := RC.out.c2
  go_wp2_with fail
  refine (HOr.out _ (H.out.mono DW.out)).mono ?_
  rintro e w1 ⟨qa, qc, rfl, hh, ho, hb1⟩
  have OW := Lib.hid (ROwnIn_take q (ho.wide DW.out.size (Nat.le_refl _)))
  have D1 := Lib.hid (DW.out.trans (hb1.mono DW.out.size))
  clear ho hb1 H HNR HOr RC DW r0 r1
  generalize orderV n l key = L at HV hh OW HL5 ⊢
  rcases hh with ⟨rfl, h0, rfl⟩ | ⟨g, rfl, hc1, hc2⟩
  · obtain rfl : L = [] := List.length_eq_zero_iff.1 h0
    have hlt : (0 : Int) < (q : Int) := by omega
    have hmn : min (q : Int) 0 = 0 := by omega
    go_wp2
    go_ret
    exact ⟨none, 0, by rw [HV.out]; simp, by rw [HV.out]; exact .inl ⟨rfl, by simp, rfl⟩, by rw [HV.out]; exact .inl (by simp), D1.out⟩
  unfold maxLen at hc2
  by_cases hlt : (L.length : Int) < (q : Int)
  · have hT := Lib.hid (show (L.take q).length = L.length by rw [List.length_take]; omega)
    have hcc : (L.length : Int) ≤ (qc : Int) := by omega
    have hmn : min (q : Int) (L.length : Int) = (L.length : Int) := by omega
    go_wp2
    go_ret
    exact ⟨some ⟨g, 0, none⟩, qc, by rw [HV.out, hT.out]; rfl, by rw [HV.out, hT.out]; exact .inr ⟨g, rfl, hc1, by unfold maxLen; omega⟩, by rw [HV.out]; exact OW.out, D1.out⟩
  · have hT := Lib.hid (show (L.take q).length = q by rw [List.length_take]; omega)
    have hcc : (q : Int) ≤ (qc : Int) := by omega
    have hmn : min (q : Int) (L.length : Int) = (q : Int) := by omega
    go_wp2
    go_ret
    exact ⟨some ⟨g, 0, none⟩, qc, by rw [HV.out, hT.out]; rfl, by rw [HV.out, hT.out]; exact .inr ⟨g, rfl, by omega, by unfold maxLen; omega⟩, by rw [HV.out]; exact OW.out, D1.out⟩
theorem impl_owners (n : Int) (a : Option Addr) (cap : Nat) (l : List Tok) (key : ByteArray) (k : Int) (w : World) (hl : l.length ≤ maxLen) (hk : key.size ≤ maxLen) (hM : MarksAt w a l) :
    Calls Tryd.prog 21 #[.agg #[.int .i64 n, .slice a l.length cap], .string key, .int .i64 k] w (ZGives w (ownersV n l key k)) :=
  (impl_ownersH n a cap l key k w hl hk hM).mono fun _ _ h => h.plain
set_option maxRecDepth 100000 in
theorem spec_min_no (x y : Int) (w : World) (h : ¬ x < y) : Calls Tryd.prog 81 #[.int .i64 x, .int .i64 y] w fun e w' => e = .returned (.int .i64 y) ∧ w = w' := by
  go_enter Tryd.func81, Tryd.ntmps81
  go_wp2
  all_goals go_ret
  all_goals exact ⟨rfl, rfl⟩
set_option maxRecDepth 100000 in
theorem spec_min_yes (x y : Int) (w : World) (h : x < y) : Calls Tryd.prog 81 #[.int .i64 x, .int .i64 y] w fun e w' => e = .returned (.int .i64 x) ∧ w = w' := by
  go_enter Tryd.func81, Tryd.ntmps81
  go_wp2
  all_goals go_ret
  all_goals exact ⟨rfl, rfl⟩
set_option maxRecDepth 100000 in
set_option maxHeartbeats 1000000 in
theorem spec_l04Owners (n : Int) (a : Option Addr) (cap : Nat) (l : List Tok) (key : ByteArray) (q : Nat) (w : World) (hp : 0 < l.length) (hl : l.length ≤ 40) (hm : ∀ y ∈ l, 1 ≤ y.2 ∧ y.2 ≤ 5) (hk : key.size ≤ maxLen) (hq : q ≤ 5) (hM : MarksAt w a l) :
    Calls Tryd.prog 59 #[.agg #[.int .i64 n, .slice a l.length cap], .string key, .int .i64 (q : Int)] w (ZGivesH w ((orderL l ((fnvN key.data.toList : Nat) : Int)).take q)) := by
  have H := Lib.hid hM
  have HOr := Lib.hid (fun W hW => spec_l04Order n a cap l key W hp hl hm hk hW)
  have HL5 := Lib.hid (show (orderL l ((fnvN key.data.toList : Nat) : Int)).length ≤ 5 from goL_len _ _ _ hp hm)
  have RC := Lib.hid (Cells.new w #[.int .i64 n, .slice a l.length cap] 27)
  have DW := Lib.hid (step_alloc w (.cells #[.int .i64 n, .slice a l.length cap] 27))
  clear hM hk hm
  generalize orderL l ((fnvN key.data.toList : Nat) : Int) = L at HOr HL5 ⊢
  go_enter Tryd.func59, Tryd.ntmps59
  go_wp2_with fail
  generalize w.alloc (.cells #[.int .i64 n, .slice a l.length cap] 27) = wb at RC DW ⊢
  refine (HOr.out _ (H.out.mono DW.out)).mono ?_
  rintro e w1 ⟨qa, qc, rfl, hh, ho, hb1⟩
  have OW := Lib.hid (ROwnIn_take q (ho.wide DW.out.size (Nat.le_refl _)))
  have D1 := Lib.hid (DW.out.trans (hb1.mono DW.out.size))
  clear ho hb1 H HOr RC DW
  rcases hh with ⟨rfl, h0, rfl⟩ | ⟨g, rfl, hc1, hc2⟩
  · obtain rfl : L = [] := List.length_eq_zero_iff.1 h0
    have hq0 : ¬ (q : Int) < 0 := by omega
    go_wp2_with fail
    refine (spec_min_no (q : Int) 0 _ (by omega)).mono ?_
    rintro e w' ⟨rfl, rfl⟩
    go_wp2
    go_ret
    exact ⟨none, 0, by simp, .inl ⟨rfl, by simp, rfl⟩, .inl (by simp), D1.out⟩
  unfold maxLen at hc2
  by_cases hlt : (q : Int) < (L.length : Int)
  · have hT := Lib.hid (show (L.take q).length = q by rw [List.length_take]; omega)
    have hcc : (q : Int) ≤ (qc : Int) := by omega
    go_wp2_with (go_at_call 81; refine (spec_min_yes _ _ _ (by omega)).mono ?_; rintro e w' ⟨rfl, rfl⟩)
    go_ret
    exact ⟨some ⟨g, 0, none⟩, qc, by rw [hT.out]; rfl, by rw [hT.out]; exact .inr ⟨g, rfl, by omega, by unfold maxLen; omega⟩, OW.out, D1.out⟩
  · have hT := Lib.hid (show (L.take q).length = L.length by rw [List.length_take]; omega)
    have hcc : (L.length : Int) ≤ (qc : Int) := by omega
    go_wp2_with (go_at_call 81; refine (spec_min_no _ _ _ (by omega)).mono ?_; rintro e w' ⟨rfl, rfl⟩)
    go_ret
    exact ⟨some ⟨g, 0, none⟩, qc, by rw [hT.out]; rfl, by rw [hT.out]; exact .inr ⟨g, rfl, hc1, by unfold maxLen; omega⟩, OW.out, D1.out⟩
theorem row_flatZ {w : World} {g : Nat} {l : List Int} (h : RowAt 1 zenc w (some ⟨g, 0, none⟩) l) : ∀ j u, (flatE 1 zenc l)[j]? = some u → w.cell? ((⟨g, 0, none⟩ : Addr).add j) = some u := by
  intro j u hu
  have e : (⟨g, 0, none⟩ : Addr).add j = ⟨g, j, none⟩ := by unfold Addr.add; split <;> simp_all
  rw [e]
  rw [flat1] at hu
  have hj : j < l.length := by
    have := (List.getElem?_eq_some_iff.1 hu).1
    simpa using this
  rcases h with rfl | ⟨g2, off2, ha, hc⟩
  · cases hj
  · obtain ⟨rfl, rfl⟩ : g = g2 ∧ 0 = off2 := by simpa using ha
    have := hc j hj 0 (by decide)
    rw [Nat.mul_one, Nat.add_zero, Nat.zero_add] at this
    rw [this]
    simpa [zenc, hj] using hu
theorem flat_oneZ {l : List Int} : ∀ u ∈ flatE 1 zenc l, u.oneCell' = true := by
  intro u hu
  rw [flat1] at hu
  obtain ⟨x, _, rfl⟩ := List.mem_map.1 hu
  rfl
/-- integers appended to a row of the call's own -/
theorem wpList_append_ints (w0 : World) {ops : Array Oper} {rest : List Oper} {o : Oper} {a : Act} {Q : Exit → Act → World → Prop} (hg : o.guard = none) (s x : Operand)
    (hop : o.op = .call { callee := .builtin .append, args := #[s, x], argTypes := #[30, 30] }) (B : Nat) (v : Value) (l l2 : List Int) (hs : a.eval s = v) (g n cap : Nat) (hn : l2.length = n)
    (hx : a.eval x = .slice (some ⟨g, 0, none⟩) n cap) (hown : w0.ownsRow B 2 1 v l.length (flatE 1 zenc l)) (hrow : RowAt 1 zenc w0 (some ⟨g, 0, none⟩) l2) (hl : l.length + l2.length ≤ 1000000) (hB : B ≤ w0.heap.size)
    (h : ∀ v' w', w'.ownsRow B 2 1 v' (l ++ l2).length (flatE 1 zenc (l ++ l2)) → Below B w0 w' → wpList Tryd.prog ops Q rest (a.put o.dst v') w') :
    wpList Tryd.prog ops Q (o :: rest) a w0 := by
  subst hn
  obtain ⟨i0, hi, hz0, hz1, hz2⟩ := info_parts infoZ
  refine wpList_append_own _ hg s x 30 hop B 2 i0 _ 1 8 Tryd.underlying30 hi hz0 hz1 hz2 rfl (by decide) v l.length (flatE 1 zenc l) hs hown ⟨g, 0, none⟩ l2.length cap (flatE 1 zenc l2) hx (by rw [flatE_length])
    (row_flatZ hrow) flat_oneZ (by unfold maxLen; omega) (by omega) hB (fun v' w' h1 h2 _ => h v' w' ?_ ?_)
  · rw [flatE_append, List.length_append]; exact h1
  · exact (Below.refl B w0).grown h2 hB (fun k hk => (hown.lt k hk).1)
set_option maxRecDepth 100000 in
set_option maxHeartbeats 2000000 in
theorem spec_owners (n : Int) (a : Option Addr) (cap : Nat) (l : List Tok) (key : ByteArray) (k : Int) (w : World) (hl : l.length ≤ maxLen) (hk : key.size ≤ maxLen) (hM : MarksAt w a l) :
    Calls Tryd.prog 22 #[.agg #[.int .i64 n, .slice a l.length cap], .string key, .int .i64 k] w (ZGives w (ownersV n l key k)) := by
  have H := Lib.hid hM
  have HK := Lib.hid hk
  clear hM
  have hRR := Lib.hid (fun W hW => spec_ringRight n a cap l W hl hW)
  have hNR := Lib.hid (spec_NameRight' key hk)
  have hIS := Lib.hid (spec_node k)
  have RC := Lib.hid (Cells.new w #[.int .i64 n, .slice a l.length cap] 27)
  have DW := Lib.hid (step_alloc w (.cells #[.int .i64 n, .slice a l.length cap] 27))
  clear hk
  unfold maxLen at hl
  cases hb : ringB n l
  · have HV := Lib.hid (show ownersV n l key k = [] by
      have e : orderV n l key = [] := orderO_no (by rw [hb]; simp)
      unfold ownersV; rw [e]; simp)
    go_enter Tryd.func22, Tryd.ntmps22
    go_wp2_with fail
    generalize w.alloc (.cells #[.int .i64 n, .slice a l.length cap] 27) = wb at RC DW ⊢
    refine (hRR.out _ (H.out.mono DW.out)).mono ?_
    rw [hb]
    rintro e w1 ⟨rfl, hb1⟩
    have D1 := Lib.hid (DW.out.trans (hb1.mono DW.out.size))
    clear hb1
    go_wp2
    go_ret
    exact ⟨some ⟨w1.heap.size, 0, none⟩, 0, by rw [HV.out]; rfl, by rw [HV.out]; exact .inl rfl, D1.out.trans ((step_alloc w1 _).mono D1.out.size)⟩
  cases hn : Nm.nameB key
  · have HV := Lib.hid (show ownersV n l key k = [] by
      have e : orderV n l key = [] := orderO_no (by rw [hn]; simp)
      unfold ownersV; rw [e]; simp)
    go_enter Tryd.func22, Tryd.ntmps22
    go_wp2_with fail
    generalize w.alloc (.cells #[.int .i64 n, .slice a l.length cap] 27) = wb at RC DW ⊢
    refine (hRR.out _ (H.out.mono DW.out)).mono ?_
    rw [hb]
    rintro e w1 ⟨rfl, hb1⟩
    have D1 := Lib.hid (DW.out.trans (hb1.mono DW.out.size))
    clear hb1
    go_wp2_with fail
    refine (hNR.out _).mono ?_
    rw [hn]
    rintro e w' ⟨rfl, rfl⟩
    go_wp2
    go_ret
    exact ⟨some ⟨w1.heap.size, 0, none⟩, 0, by rw [HV.out]; rfl, by rw [HV.out]; exact .inl rfl, D1.out.trans ((step_alloc w1 _).mono D1.out.size)⟩
  cases hi : isB k 1 5
  · have HV := Lib.hid (ownersV_no (n := n) (l := l) (key := key) hi)
    go_enter Tryd.func22, Tryd.ntmps22
    go_wp2_with fail
    generalize w.alloc (.cells #[.int .i64 n, .slice a l.length cap] 27) = wb at RC DW ⊢
    refine (hRR.out _ (H.out.mono DW.out)).mono ?_
    rw [hb]
    rintro e w1 ⟨rfl, hb1⟩
    have D1 := Lib.hid (DW.out.trans (hb1.mono DW.out.size))
    clear hb1
    go_wp2_with fail
    refine (hNR.out _).mono ?_
    rw [hn]
    rintro e w' ⟨rfl, rfl⟩
    go_wp2_with fail
    refine (hIS.out _).mono ?_
    rw [hi]
    rintro e w' ⟨rfl, rfl⟩
    go_wp2
    go_ret
    exact ⟨some ⟨w1.heap.size, 0, none⟩, 0, by rw [HV.out]; rfl, by rw [HV.out]; exact .inl rfl, D1.out.trans ((step_alloc w1 _).mono D1.out.size)⟩
  have h5 := (isB_iff _ _ _).1 hi
  obtain ⟨q, rfl⟩ := Int.eq_ofNat_of_zero_le (show 0 ≤ k by omega)
  have HV := Lib.hid (show ownersV n l key (q : Int) = (orderL l ((fnvN key.data.toList : Nat) : Int)).take q by
    rw [ownersV_yes hi, Int.toNat_natCast]
    exact congrArg (List.take q) (orderO_yes hb hn))
  obtain ⟨hn1, hn5, hp, h40, _, hm⟩ := ringB_all hb
  have HO := Lib.hid (fun W hW => spec_l04Owners n a cap l key q W hp h40 (fun y hy => by have := hm y hy; omega) HK.out (by omega) hW)
  have HL5 := Lib.hid (ownersV_len n l key (q : Int))
  rw [HV.out] at HL5
  clear hm
  generalize (orderL l ((fnvN key.data.toList : Nat) : Int)).take q = L at HV HO HL5
  go_enter Tryd.func22, Tryd.ntmps22
  go_wp2_with fail
  generalize w.alloc (.cells #[.int .i64 n, .slice a l.length cap] 27) = wb at RC DW ⊢
  refine (hRR.out _ (H.out.mono DW.out)).mono ?_
  rw [hb]
  rintro e w1 ⟨rfl, hb1⟩
  have D1 := Lib.hid (DW.out.trans (hb1.mono DW.out.size))
  have R1 := Lib.hid (RC.out.below hb1)
  clear hb1
  go_wp2_with fail
  refine (hNR.out _).mono ?_
  rw [hn]
  rintro e w' ⟨rfl, rfl⟩
  go_wp2_with fail
  refine (hIS.out _).mono ?_
  rw [hi]
  rintro e w' ⟨rfl, rfl⟩
  obtain ⟨r0, r1, _, _⟩ := R1.out.c2
  have sa := step_alloc w1 (.cells #[] 2)
  have O0 := Lib.hid (World.ownsRow_made (base := w1.heap.size) (e := 2) (size := 1) w1 #[] 0 (Nat.le_refl _) (by unfold maxLen; omega) rfl)
  have ra0 := (sa.cell (p := ⟨w.heap.size, 0, none⟩) R1.out.lt).trans r0
  have ra1 := (sa.cell (p := ⟨w.heap.size, 1, none⟩) R1.out.lt).trans r1
  have D2 := Lib.hid (D1.out.trans (sa.mono D1.out.size))
  have hza : w1.heap.size ≤ (w1.alloc (.cells #[] 2)).heap.size := sa.size
  clear sa
  go_wp2_with fail
  clear r0 r1 ra0 ra1
  obtain ⟨g0, hg0⟩ : ∃ g0, g0 = w1.heap.size := ⟨_, rfl⟩
  rw [← hg0] at O0 hza ⊢
  generalize w1.alloc (.cells #[] 2) = w2 at O0 D2 hza ⊢
  refine (HO.out _ (H.out.mono D2.out)).mono ?_
  rintro e w3 ⟨qa, qc, rfl, hh, ho, hb3⟩
  have O3 := Lib.hid (own_below O0.out hb3)
  have D3 := Lib.hid (D2.out.trans (hb3.mono D2.out.size))
  have hz3 : g0 ≤ w3.heap.size := Nat.le_trans hza hb3.size
  have HRW := Lib.hid ho.at_
  have hgw : w.heap.size ≤ g0 := by rw [hg0]; exact D1.out.size
  clear ho hb3 hg0 O0
  rcases hh with ⟨rfl, h0, rfl⟩ | ⟨g, rfl, hc1, hc2⟩
  · obtain rfl : L = [] := List.length_eq_zero_iff.1 h0
    go_wp2
    go_ret
    exact ⟨some ⟨g0, 0, none⟩, 0, by rw [HV.out]; rfl, by rw [HV.out]; exact .inl rfl, D3.out⟩
  unfold maxLen at hc2
  go_wp2_with (at_builtin; refine wpList_append_ints w3 rfl _ _ rfl g0 _ [] L (by rfl) g L.length qc rfl (by rfl) O3.out HRW.out (by have := HL5.out; simp; omega) hz3 ?_; intro v' w4 ho4 hb4; rw [List.nil_append] at ho4; have HO4 := Lib.hid ho4; have HB4 := Lib.hid (D3.out.trans (hb4.mono hgw)); clear ho4 hb4)
  go_ret
  obtain ⟨qb, qd, rfl, ho5⟩ := own_row (by decide) HO4.out
  exact ⟨qb, qd, by rw [HV.out]; rfl, by rw [HV.out]; exact ho5.wide hgw (Nat.le_refl _), HB4.out⟩
end Go.Proofs.YteibkoaepgdmlaaDoor.Rg
