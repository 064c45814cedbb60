/- Parts of a law: Unseal, SealMath, MsgReadMath, SibOrder, MarkMap, SeenMap, SeenHas, SetRightI, MsgReadMath2, SeenHasS, SetRightS, MsgRightS, SeenBytesS. No condition of its own. -/
import Derived.Test.YtloenigleamcoaaSeal
import Derived.Deep.RegionWith
import Derived.WalkSpells
import Derived.IntWalk
import Derived.Test.YtloenigleamcoaaMsgTurnMath
import Derived.Test.YtloenigleamcoaaSetReadMath
import Derived.Test.YtloenigleamcoaaSibMath
import Derived.Test.YtloenigleamcoaaMark
import Derived.Maps.OwnSet
import Derived.Maps.RangeWalk
import Derived.Test.YtloenigleamcoaaSeenI
import Derived.Deep.RegionHeld3
import Derived.Test.YtloenigleamcoaaSibLess
import Derived.Test.YtloenigleamcoaaSibLaw
import Derived.Laws.EntriesVeiled
import Derived.Test.YtloenigleamcoaaSeenS
import Derived.Test.YtloenigleamcoaaMsgMath
import Derived.Test.YtloenigleamcoaaCells9
import Derived.Test.YtloenigleamcoaaBytesMath
import Derived.Test.YtloenigleamcoaaNum
import Derived.WalkArith
set_option linter.unusedSimpArgs false
set_option linter.unusedVariables false
namespace Go.Proofs.Ytloenigleamcoaa.Se
open Go.RowKit Nu Cr

def out (t : ByteArray) (at_ code : Int) : Value := .agg #[.string t, .int .i64 at_, .int .i64 code]
/-- what both answer -/
def unsealed (s : ByteArray) : Value :=
  if 8000 < s.size then out ⟨#[]⟩ 0 2 else if s.size < 4 then out ⟨#[]⟩ 0 4
  else if s.extract (s.size - 4) s.size = four (crcN (s.extract 0 (s.size - 4))) then out (s.extract 0 (s.size - 4)) 0 0 else out ⟨#[]⟩ 0 5
theorem un_long (s : ByteArray) (h : 8000 < s.size) : out ⟨#[]⟩ 0 2 = unsealed s := (if_pos h).symm
theorem un_short (s : ByteArray) (h1 : ¬ 8000 < s.size) (h : s.size < 4) : out ⟨#[]⟩ 0 4 = unsealed s := by unfold unsealed; rw [if_neg h1, if_pos h]
theorem un_ok (s : ByteArray) (h1 : ¬ 8000 < s.size) (h2 : ¬ s.size < 4) (h : s.extract (s.size - 4) s.size = four (crcN (s.extract 0 (s.size - 4)))) : out (s.extract 0 (s.size - 4)) 0 0 = unsealed s := by
  unfold unsealed; rw [if_neg h1, if_neg h2, if_pos h]
theorem un_bad (s : ByteArray) (h1 : ¬ 8000 < s.size) (h2 : ¬ s.size < 4) (h : ¬ s.extract (s.size - 4) s.size = four (crcN (s.extract 0 (s.size - 4)))) : out ⟨#[]⟩ 0 5 = unsealed s := by
  unfold unsealed; rw [if_neg h1, if_neg h2, if_neg h]
theorem ret_val {a b : Value} (h : a = b) : Ending.returned a = .returned b := by rw [h]
theorem list_eq {a b : ByteArray} (h : a = b) : (a.toList == b.toList) = true := by rw [h]; exact beq_self_eq_true _
theorem list_ne {a b : ByteArray} (h : ¬ a = b) : (a.toList == b.toList) = false := by
  rw [ByteArray.toList_eq, ByteArray.toList_eq]
  apply beq_false_of_ne
  intro e
  apply h
  apply ByteArray.ext
  exact Array.toList_inj.1 e
/-- behind 'Below' every old cell and mark reads as before -/
theorem bcell {W w1 : World} (hb : Below W.heap.size W w1) : (∀ b o, b < W.heap.size → w1.cell? ⟨b, o, none⟩ = W.cell? ⟨b, o, none⟩) ∧ (∀ b o, b < W.heap.size → w1.frozen? ⟨b, o, none⟩ = W.frozen? ⟨b, o, none⟩) :=
  ⟨fun _ _ h => hb.cell h, fun _ _ h => hb.frozen h⟩

set_option maxRecDepth 100000 in
set_option maxHeartbeats 1000000 in
theorem impl_Unseal (s : ByteArray) (hs : s.size ≤ maxLen) (w : World) :
    Calls Try.prog 42 #[.string s] w fun e w' => e = .returned (unsealed s) ∧ Below w.heap.size w w' := by
  have hs' := hs
  unfold maxLen at hs
  by_cases h1 : 8000 < s.size
  · go_enter Try.func42, Try.ntmps42
    go_wp2
    exact bodyPost_ret (v := out ⟨#[]⟩ 0 2) (by simp [results, Try.results42, go_sem, out]) rfl ⟨ret_val (un_long s h1), (Below.refl _ _).alloc (Nat.le_refl _) _⟩
  by_cases h2 : s.size < 4
  · go_enter Try.func42, Try.ntmps42
    go_wp2
    exact bodyPost_ret (v := out ⟨#[]⟩ 0 4) (by simp [results, Try.results42, go_sem, out]) rfl ⟨ret_val (un_short s h1 h2), (Below.refl _ _).alloc (Nat.le_refl _) _⟩
  have hxs : (s.extract 0 (s.size - 4)).size = s.size - 4 := by simp
  have hK := fun W => impl_sumOf (s.extract 0 (s.size - 4)) (by rw [hxs]; unfold maxLen; omega) W
  have hJ := fun W => joined_one (s.extract 0 (s.size - 4)) W (by rw [hxs]; omega)
  have HK := Lib.hid hK
  have HJ := Lib.hid hJ
  clear hK hxs hJ
  have q1 : IntKind.i64.wrap ((s.size : Int) - 4) = (s.size : Int) - 4 := IntWalk.i64_in _ (by omega)
  have q2 : (4 : Int) ≤ (s.size : Int) := by omega
  have q3 : (0 : Int) ≤ (s.size : Int) - 4 := by omega
  have q4 : ((s.size : Int) - 4).toNat = s.size - 4 := by omega
  have q5 : (s.size : Int) - 4 ≤ (s.size : Int) := by omega
  by_cases he : s.extract (s.size - 4) s.size = four (crcN (s.extract 0 (s.size - 4)))
  · have HE := Lib.hid (un_ok s h1 h2 he)
    have hle := list_eq he
    clear he
    generalize four (crcN (s.extract 0 (s.size - 4))) = f at HK hle
    go_enter Try.func42, Try.ntmps42
    go_wp2
    go_region_with (go_at_call 65; refine (HK.out _).mono ?_; rintro e w1 ⟨rfl, hb1⟩)
    have hb0 : Below w.heap.size w w1 := (((Below.refl _ w).alloc (Nat.le_refl _) _).drew).trans (hb1.mono (by simp))
    go_wp2_with fail
    refine (HJ.out w1).mono ?_
    rintro e w2 ⟨rfl, hb2⟩
    have hbb := hb1.trans (hb2.mono hb1.size)
    have hb0' := hb0.trans (hb2.mono hb0.size)
    obtain ⟨hcx, hfx⟩ := bcell hbb
    clear hb1 hb0 hb2 hbb
    go_wp2
    go_light
    refine bodyPost_ret (v := out (s.extract 0 (s.size - 4)) 0 0) (by simp [results, Try.results42, go_sem, out, hcx]) rfl ⟨ret_val HE.out, ?_⟩
    exact ((hb0'.setCell (Nat.le_refl _) _).setCell (Nat.le_refl _) _).setCell (Nat.le_refl _) _
  · have HE := Lib.hid (un_bad s h1 h2 he)
    have hle := list_ne he
    clear he
    generalize four (crcN (s.extract 0 (s.size - 4))) = f at HK hle
    go_enter Try.func42, Try.ntmps42
    go_wp2
    go_region_with (go_at_call 65; refine (HK.out _).mono ?_; rintro e w1 ⟨rfl, hb1⟩)
    have hb0 : Below w.heap.size w w1 := (((Below.refl _ w).alloc (Nat.le_refl _) _).drew).trans (hb1.mono (by simp))
    obtain ⟨hcx, hfx⟩ := bcell hb1
    go_wp2
    go_light
    refine bodyPost_ret (v := out ⟨#[]⟩ 0 5) (by simp [results, Try.results42, go_sem, out, hcx]) rfl ⟨ret_val HE.out, ?_⟩
    exact ((hb0.setCell (Nat.le_refl _) _).setCell (Nat.le_refl _) _).setCell (Nat.le_refl _) _

theorem un_form (s : ByteArray) : ∃ t c, unsealed s = out t 0 c := by
  unfold unsealed
  split
  · exact ⟨_, _, rfl⟩
  split
  · exact ⟨_, _, rfl⟩
  split <;> exact ⟨_, _, rfl⟩

end Go.Proofs.Ytloenigleamcoaa.Se

set_option linter.unusedSimpArgs false
set_option linter.unusedVariables false
namespace Go.Proofs.Ytloenigleamcoaa.Se
open Go.RowKit Nu Cr

theorem xor_cancel (a b : Nat) : (a ^^^ b) ^^^ b = a := by rw [Nat.xor_assoc, Nat.xor_self, Nat.xor_zero]
theorem xor_inj {a b c : Nat} (h : a ^^^ c = b ^^^ c) : a = b := by
  have := congrArg (· ^^^ c) h
  simpa [xor_cancel] using this
theorem cstep_inj {r r' : Nat} (h : r < 4294967296) (h' : r' < 4294967296) (e : cstep r = cstep r') : r = r' := by
  have no : ∀ x y : Nat, x < 2147483648 → y < 2147483648 → x ^^^ 3988292384 ≠ y := fun x y hx hy he => by
    have h1 : x ^^^ (x ^^^ 3988292384) = x ^^^ y := by rw [he]
    rw [← Nat.xor_assoc, Nat.xor_self, Nat.zero_xor] at h1
    have h2 : x ^^^ y < 2 ^ 31 := Nat.xor_lt_two_pow (by omega) (by omega)
    omega
  unfold cstep at e
  by_cases p : r % 2 = 1 <;> by_cases p' : r' % 2 = 1
  · rw [if_pos p, if_pos p'] at e
    have := xor_inj e
    omega
  · rw [if_pos p, if_neg p'] at e
    exact absurd e (no _ _ (by omega) (by omega))
  · rw [if_neg p, if_pos p'] at e
    exact absurd e.symm (no _ _ (by omega) (by omega))
  · rw [if_neg p, if_neg p'] at e
    omega
theorem citer_inj (k : Nat) {r r' : Nat} (h : r < 4294967296) (h' : r' < 4294967296) (e : citer k r = citer k r') : r = r' := by
  induction k with
  | zero => exact e
  | succ k ih => exact ih (cstep_inj (citer_lt k r h) (citer_lt k r' h') e)
theorem creg_inj (l : List UInt8) {r r' : Nat} (h : r < 4294967296) (h' : r' < 4294967296) (e : creg l r = creg l r') : r = r' := by
  induction l generalizing r r' with
  | nil => exact e
  | cons c l ih =>
    have hc := c.toNat_lt
    have e1 := ih (cbyte_lt r c.toNat h (by omega)) (cbyte_lt r' c.toNat h' (by omega)) e
    exact xor_inj (citer_inj 8 (xor_lt _ _ h (by omega)) (xor_lt _ _ h' (by omega)) e1)
/-- one byte changed: another register -/
theorem creg_set (l : List UInt8) (p : Nat) (hp : p < l.length) (b : UInt8) (hb : b ≠ l[p]) (r : Nat) (h : r < 4294967296) : creg (l.set p b) r ≠ creg l r := by
  intro e
  rw [List.set_eq_take_append_cons_drop, if_pos hp, creg_append] at e
  have hl : l = l.take p ++ l[p] :: l.drop (p + 1) := by rw [List.getElem_cons_drop, List.take_append_drop]
  have e2 : creg l r = creg (l[p] :: l.drop (p + 1)) (creg (l.take p) r) := by
    conv => lhs; rw [hl]
    rw [creg_append]
  rw [e2] at e
  have hr := creg_lt (l.take p) r h
  have hb1 := b.toNat_lt
  have hb2 := l[p].toNat_lt
  have e3 := creg_inj (l.drop (p + 1)) (cbyte_lt _ b.toNat hr (by omega)) (cbyte_lt _ l[p].toNat hr (by omega)) e
  have e4 := citer_inj 8 (xor_lt _ _ hr (by omega)) (xor_lt _ _ hr (by omega)) e3
  rw [Nat.xor_comm _ b.toNat, Nat.xor_comm _ l[p].toNat] at e4
  exact hb (UInt8.toNat_inj.1 (xor_inj e4))
theorem fourL_inj {c c' : Nat} (h : c < 4294967296) (h' : c' < 4294967296) (e : fourL c = fourL c') : c = c' := by
  unfold fourL at e
  injection e with e0 e
  injection e with e1 e
  injection e with e2 e
  injection e with e3 _
  have g : ∀ a b : Nat, a < 256 → b < 256 → UInt8.ofNat a = UInt8.ofNat b → a = b := fun a b ha hb he => by
    have := congrArg UInt8.toNat he
    rwa [toNat_ofNat a ha, toNat_ofNat b hb] at this
  have g0 := g _ _ (by omega) (by omega) e0
  have g1 := g _ _ (by omega) (by omega) e1
  have g2 := g _ _ (by omega) (by omega) e2
  have g3 := g _ _ (by omega) (by omega) e3
  omega
/-- the CRC by the list of bytes -/
theorem crcN_list {s t : ByteArray} (hs : ¬ 8000 < s.size) (ht : ¬ 8000 < t.size) (e : crcN s = crcN t) : creg s.data.toList 4294967295 = creg t.data.toList 4294967295 := by
  rw [crcN_short s hs, crcN_short t ht] at e
  simpa using xor_inj e
theorem front (t f : ByteArray) (hf : f.size = 4) : (t ++ f).extract 0 ((t ++ f).size - 4) = t ∧ (t ++ f).extract ((t ++ f).size - 4) (t ++ f).size = f := by
  have hz : (t ++ f).size = t.size + 4 := by rw [ByteArray.size_append, hf]
  rw [hz]
  have h4 : f.data.size = 4 := hf
  constructor
  · apply ByteArray.ext
    simp [ByteArray.data_extract, ByteArray.data_append]
  · apply ByteArray.ext
    have e1 : t.data.extract t.size (t.size + 4) = #[] := Array.eq_empty_of_size_eq_zero (by rw [Array.size_extract]; show min (t.size + 4) t.size - t.size = 0; omega)
    have e2 : f.data.extract (t.size - t.data.size) (t.size + 4 - t.data.size) = f.data := by
      rw [show t.size - t.data.size = 0 from Nat.sub_self _, show t.size + 4 - t.data.size = f.data.size by rw [h4]; show t.size + 4 - t.size = 4; omega]
      simp
    rw [ByteArray.data_extract, ByteArray.data_append, Nat.add_sub_cancel, Array.extract_append, e1, e2]; simp
theorem seal_open (t : ByteArray) (h : ¬ 7996 < t.size) : out t 0 0 = unsealed (t ++ four (crcN t)) := by
  obtain ⟨e1, e2⟩ := front t (four (crcN t)) rfl
  have hz : (t ++ four (crcN t)).size = t.size + 4 := by rw [ByteArray.size_append]; rfl
  have := un_ok (t ++ four (crcN t)) (by omega) (by omega) (by rw [e1, e2])
  rw [e1] at this; exact this
theorem ext_list {a b : ByteArray} (h : a.data.toList = b.data.toList) : a = b := ByteArray.ext (Array.toList_inj.1 h)
theorem seal_bad (t : ByteArray) (h : ¬ 7996 < t.size) (s : ByteArray) (p : Nat) (b : UInt8) (hp : p < (t.data.toList ++ fourL (crcN t)).length) (hb : b ≠ (t.data.toList ++ fourL (crcN t))[p])
    (e : s.data.toList = (t.data.toList ++ fourL (crcN t)).set p b) : out ⟨#[]⟩ 0 5 = unsealed s := by
  have hl : s.size = t.size + 4 := by
    rw [← size_data s, e, List.length_set, List.length_append, size_data]; rfl
  apply un_bad s (by omega) (by omega)
  intro he
  by_cases hlt : p < t.data.toList.length
  · -- a byte of the text
    have e1 : (t.data.toList ++ fourL (crcN t)).set p b = t.data.toList.set p b ++ fourL (crcN t) := by rw [List.set_append_left _ _ hlt]
    have hs : s = ⟨(t.data.toList.set p b).toArray⟩ ++ four (crcN t) := by
      apply ext_list; rw [e, e1, ByteArray.data_append]; simp [four]
    obtain ⟨f1, f2⟩ := front ⟨(t.data.toList.set p b).toArray⟩ (four (crcN t)) rfl
    rw [← hs] at f1 f2
    rw [f1, f2] at he
    have hT : (⟨(t.data.toList.set p b).toArray⟩ : ByteArray).size = t.size := by rw [← size_data, ← size_data]; simp
    have e5 := fourL_inj (crcN_lt _) (crcN_lt _) (by have := congrArg (fun x : ByteArray => x.data.toList) he; simpa [four] using this)
    have e6 := crcN_list (by omega) (by omega) e5
    have hb' : b ≠ t.data.toList[p] := by rwa [List.getElem_append_left hlt] at hb
    exact creg_set t.data.toList p hlt b hb' 4294967295 (by omega) e6.symm
  · -- a byte of the sum
    have hlt' : t.data.toList.length ≤ p := by omega
    have e1 : (t.data.toList ++ fourL (crcN t)).set p b = t.data.toList ++ (fourL (crcN t)).set (p - t.data.toList.length) b := by rw [List.set_append_right _ _ hlt']
    have hs : s = t ++ ⟨((fourL (crcN t)).set (p - t.data.toList.length) b).toArray⟩ := by
      apply ext_list; rw [e, e1, ByteArray.data_append]; simp
    obtain ⟨f1, f2⟩ := front t ⟨((fourL (crcN t)).set (p - t.data.toList.length) b).toArray⟩ (by rw [← size_data]; simp [fourL])
    rw [← hs] at f1 f2
    rw [f1, f2] at he
    have e7 := congrArg (fun x : ByteArray => x.data.toList) he
    simp only [four] at e7
    have hq : p - t.data.toList.length < (fourL (crcN t)).length := by rw [List.length_append] at hp; omega
    have e8 : ((fourL (crcN t)).set (p - t.data.toList.length) b)[p - t.data.toList.length]'(by rw [List.length_set]; exact hq) = (fourL (crcN t))[p - t.data.toList.length] := by
      congr 1
    rw [List.getElem_set_self] at e8
    apply hb
    rw [List.getElem_append_right hlt']; exact e8
theorem crc_more (t u : ByteArray) (h : t.size + u.size ≤ 8000) : crcMore (crc t) u = crc (t ++ u) := by
  rw [crc_eq t]
  have h1 := crcMore_nat (crcN t) u (by omega) (crcN_lt t)
  rw [h1]
  have hz : (t ++ u).size = t.size + u.size := ByteArray.size_append
  have h2 := crcMore_nat 0 (t ++ u) (by omega) (by omega)
  rw [show ((0 : Nat) : Int) = 0 from rfl] at h2
  show _ = crcMore 0 (t ++ u)
  rw [h2, crcN_short t (by omega), xor_cancel, ByteArray.data_append, Array.toList_append, creg_append]
end Go.Proofs.Ytloenigleamcoaa.Se

set_option linter.unusedSimpArgs false
set_option linter.unusedVariables false
namespace Go.Proofs.Ytloenigleamcoaa.Sb
open Go.RowKit Go.Proofs.Ytloenigleamcoaa.Mk Go.Proofs.Ytloenigleamcoaa.Nu Go.Proofs.Ytloenigleamcoaa.Ge Go.Proofs.Ytloenigleamcoaa.Pn Go.Proofs.Ytloenigleamcoaa.Se

/-- what Unseal answers, taken apart -/
def unC (s : ByteArray) : Int :=
  if 8000 < s.size then 2 else if s.size < 4 then 4 else if s.extract (s.size - 4) s.size = four (crcN (s.extract 0 (s.size - 4))) then 0 else 5
def unT (s : ByteArray) : ByteArray := if unC s = 0 then s.extract 0 (s.size - 4) else ⟨#[]⟩
theorem un_is (s : ByteArray) : unsealed s = out (unT s) 0 (unC s) := by
  unfold unsealed unT unC
  split
  · simp
  · split
    · simp
    · split <;> simp
theorem unC_ok {s : ByteArray} (h : unC s = 0) : ¬ 8000 < s.size ∧ ¬ s.size < 4 ∧ s.extract (s.size - 4) s.size = four (crcN (s.extract 0 (s.size - 4))) ∧ unT s = s.extract 0 (s.size - 4) := by
  have ht : unT s = s.extract 0 (s.size - 4) := if_pos h
  unfold unC at h
  split at h
  · cases h
  · rename_i h1
    split at h
    · cases h
    · rename_i h2
      split at h
      · rename_i h3; exact ⟨h1, h2, h3, ht⟩
      · cases h
theorem unT_size (s : ByteArray) : (unT s).size ≤ 8000 := by
  unfold unT
  split
  · rename_i h
    have := (unC_ok h).1
    rw [ByteArray.size_extract]; omega
  · exact Nat.zero_le _
theorem ext_join (s : ByteArray) (k : Nat) (h : k ≤ s.size) : s.extract 0 k ++ s.extract k s.size = s := by
  apply ext_list
  rw [ByteArray.data_append, ByteArray.data_extract, ByteArray.data_extract]
  have hk : k ≤ s.data.toList.length := by rw [Array.length_toList]; exact h
  simp
  exact List.take_of_length_le (by rw [Array.length_toList]; show s.size ≤ _; omega)
/-- what was sealed -/
theorem un_text {s : ByteArray} (h : unC s = 0) : s = unT s ++ four (crcN (unT s)) ∧ ¬ 7996 < (unT s).size := by
  obtain ⟨h1, h2, h3, h4⟩ := unC_ok h
  refine ⟨?_, ?_⟩
  · rw [h4, ← h3]; exact (ext_join s _ (by omega)).symm
  · rw [h4, ByteArray.size_extract]; omega
theorem un_sealed {s : ByteArray} (h : unC s = 0) : sealed (unT s) = s := by
  obtain ⟨h1, h2⟩ := un_text h
  rw [sealed_short _ h2]; exact h1.symm
structure MsgD where
  kd : Int
  fr : Int
  tq : Int
  rq : Int
  ky : ByteArray
  ow : Int
  l : List (Int × Int)
  s : List Sib
def MsgD.ok (m : MsgD) : Bool := msgB m.kd m.fr m.tq m.rq m.ky m.ow m.l m.s
def MsgD.body (m : MsgD) : ByteArray := msgBody m.kd m.fr m.tq m.rq m.ky m.ow m.l m.s
def MsgD.bytes (m : MsgD) : ByteArray := msgBytes m.kd m.fr m.tq m.rq m.ky m.ow m.l m.s
def numA (t : ByteArray) (a : Int) : Option (Int × Int) := if (readN t a).2.2 = 0 then some ((readN t a).1, (readN t a).2.1) else none
def txtA (t : ByteArray) (a : Int) : Option (ByteArray × Int) := if (cutT t (readN t a)).2.2 = 0 then some ((cutT t (readN t a)).1, (cutT t (readN t a)).2.1) else none
def rdM (t : ByteArray) (a : Int) : Option (MsgD × Int) :=
  (numA t a).bind fun k => (numA t k.2).bind fun f => (numA t f.2).bind fun q => (numA t q.2).bind fun r => (txtA t r.2).bind fun y => (numA t y.2).bind fun o =>
    (setAt t o.2).map fun st => (⟨k.1, f.1, q.1, r.1, y.1, o.1, st.1.1, st.1.2⟩, st.2)
def mrM (t : ByteArray) : Option MsgD := (rdM t 0).bind fun p => if p.2 = (t.size : Int) ∧ p.1.ok = true then some p.1 else none
def mr (s : ByteArray) : Option MsgD := if unC s = 0 then mrM (unT s) else none
def mrK (s : ByteArray) : Int := match mr s with | some m => m.kd | none => 0
def mrF (s : ByteArray) : Int := match mr s with | some m => m.fr | none => 0
def mrT (s : ByteArray) : Int := match mr s with | some m => m.tq | none => 0
def mrQ (s : ByteArray) : Int := match mr s with | some m => m.rq | none => 0
def mrY (s : ByteArray) : ByteArray := match mr s with | some m => m.ky | none => ⟨#[]⟩
def mrO (s : ByteArray) : Int := match mr s with | some m => m.ow | none => 0
def mrL (s : ByteArray) : List (Int × Int) := match mr s with | some m => m.l | none => []
def mrS (s : ByteArray) : List Sib := match mr s with | some m => m.s | none => []
def mrC (s : ByteArray) : Int := if unC s = 0 then (match mr s with | some _ => 0 | none => 3) else unC s
theorem numA_yes {t : ByteArray} {a x b : Int} (h : readN t a = (x, b, 0)) : numA t a = some (x, b) := by unfold numA; rw [h]; simp
theorem numA_no {t : ByteArray} {a : Int} (h : (readN t a).2.2 ≠ 0) : numA t a = none := if_neg h
theorem numA_read {t : ByteArray} {a x b : Int} (h : numA t a = some (x, b)) : readN t a = (x, b, 0) := by
  unfold numA at h
  split at h
  · rename_i h0
    simp only [Option.some.injEq, Prod.mk.injEq] at h
    rw [← h.1, ← h.2, ← h0]
  · cases h
theorem txtA_yes {t : ByteArray} {a b : Int} {x : ByteArray} (h : cutT t (readN t a) = (x, b, 0)) : txtA t a = some (x, b) := by unfold txtA; rw [h]; simp
theorem txtA_no {t : ByteArray} {a : Int} (h : (cutT t (readN t a)).2.2 ≠ 0) : txtA t a = none := if_neg h
theorem txtA_read {t : ByteArray} {a b : Int} {x : ByteArray} (h : txtA t a = some (x, b)) : cutT t (readN t a) = (x, b, 0) := by
  unfold txtA at h
  split at h
  · rename_i h0
    simp only [Option.some.injEq, Prod.mk.injEq] at h
    rw [← h.1, ← h.2, ← h0]
  · cases h
theorem cut_inv {s : ByteArray} {a : Nat} {d : ByteArray} {e : Int} (h : cutT s (readN s (a : Int)) = (d, e, 0)) :
    Pn.At s a (enc (fold d.size) ++ d.data.toList) ∧ e = ((a + (enc (fold d.size) ++ d.data.toList).length : Nat) : Int) ∧ d.size ≤ 8000 := by
  rcases readN_cases s (a : Int) with h5 | ⟨n, a4, h5⟩
  · exact absurd (show (cutT s _).2.2 = 0 by rw [h]) (by
      obtain ⟨c, hc, hr⟩ := readN_bad s _ h5
      rw [hr, cut_bad s 0 0 c hc]; exact hc)
  obtain ⟨i4, rfl, _⟩ := readN_inv h5
  rw [h5] at h
  by_cases hn : n < 0 ∨ 8000 < n
  · rw [cut_range s n _ hn] at h; cases h
  obtain ⟨k, rfl⟩ : ∃ k : Nat, n = (k : Int) := ⟨n.toNat, by omega⟩
  by_cases hk : a + (enc (fold (k : Int))).length + k ≤ s.size
  rotate_left
  · rw [cut_short s k _ (by omega) (by omega)] at h; cases h
  rw [cut_ok s k _ (by omega) hk] at h
  simp only [Prod.mk.injEq] at h
  obtain ⟨rfl, rfl, _⟩ := h
  have hx := at_extract hk
  have hsz : (s.extract (a + (enc (fold (k : Int))).length) (a + (enc (fold (k : Int))).length + k)).size = k := by
    rw [ByteArray.size_extract]; omega
  have hle : (s.extract (a + (enc (fold (k : Int))).length) (a + (enc (fold (k : Int))).length + k)).data.toList.length = k := by
    rw [Array.length_toList]; exact hsz
  generalize s.extract (a + (enc (fold (k : Int))).length) (a + (enc (fold (k : Int))).length + k) = D at hx hsz hle ⊢
  rw [hsz]
  refine ⟨At.append i4 hx, ?_, by omega⟩
  rw [List.length_append, hle]; omega
/-- the bytes of a message's body -/
def MsgD.bb (m : MsgD) : List UInt8 :=
  enc (fold m.kd) ++ (enc (fold m.fr) ++ (enc (fold m.tq) ++ (enc (fold m.rq) ++ ((enc (fold m.ky.size) ++ m.ky.data.toList) ++ (enc (fold m.ow) ++ setBB m.l m.s)))))
theorem body_is {m : MsgD} (hk : m.ky.size ≤ 8000) (hs : setB m.l m.s = true) : m.body = ⟨m.bb.toArray⟩ := by
  apply ext_list
  unfold MsgD.body msgBody MsgD.bb
  rw [putText_short _ (by omega), setBytes_yes hs]
  simp [ByteArray.data_append, numS, List.append_assoc]
theorem rdM_inv {t : ByteArray} {a : Int} {m : MsgD} {e : Int} (h : rdM t a = some (m, e)) :
    ∃ a1 a2 a3 a4 a5 a6, readN t a = (m.kd, a1, 0) ∧ readN t a1 = (m.fr, a2, 0) ∧ readN t a2 = (m.tq, a3, 0) ∧ readN t a3 = (m.rq, a4, 0) ∧ cutT t (readN t a4) = (m.ky, a5, 0) ∧ readN t a5 = (m.ow, a6, 0) ∧ setAt t a6 = some ((m.l, m.s), e) := by
  unfold rdM at h
  simp only [Option.bind_eq_some_iff, Option.map_eq_some_iff] at h
  obtain ⟨⟨x1, a1⟩, h1, ⟨x2, a2⟩, h2, ⟨x3, a3⟩, h3, ⟨x4, a4⟩, h4, ⟨x5, a5⟩, h5, ⟨x6, a6⟩, h6, ⟨⟨l, s⟩, b⟩, h7, h8⟩ := h
  simp only [Prod.mk.injEq] at h8
  obtain ⟨rfl, rfl⟩ := h8
  exact ⟨a1, a2, a3, a4, a5, a6, numA_read h1, numA_read h2, numA_read h3, numA_read h4, txtA_read h5, numA_read h6, h7⟩
theorem rdM_mk {t : ByteArray} {a a1 a2 a3 a4 a5 a6 e kd fr tq rq ow : Int} {ky : ByteArray} {l : List (Int × Int)} {s : List Sib} (h1 : readN t a = (kd, a1, 0)) (h2 : readN t a1 = (fr, a2, 0)) (h3 : readN t a2 = (tq, a3, 0)) (h4 : readN t a3 = (rq, a4, 0)) (h5 : cutT t (readN t a4) = (ky, a5, 0)) (h6 : readN t a5 = (ow, a6, 0)) (h7 : setAt t a6 = some ((l, s), e)) :
    rdM t a = some (⟨kd, fr, tq, rq, ky, ow, l, s⟩, e) := by
  unfold rdM
  simp only [numA_yes h1, numA_yes h2, numA_yes h3, numA_yes h4, txtA_yes h5, numA_yes h6, h7, Option.bind_some, Option.map_some]
theorem rdM_at {t : ByteArray} {m : MsgD} {e : Int} (h : rdM t 0 = some (m, e)) : Pn.At t 0 m.bb ∧ e = (m.bb.length : Int) ∧ m.ky.size ≤ 8000 ∧ setB m.l m.s = true := by
  obtain ⟨a1, a2, a3, a4, a5, a6, h1, h2, h3, h4, h5, h6, h7⟩ := rdM_inv h
  obtain ⟨i1, rfl, _⟩ := readN_inv (a := 0) h1
  obtain ⟨i2, rfl, _⟩ := readN_inv h2
  obtain ⟨i3, rfl, _⟩ := readN_inv h3
  obtain ⟨i4, rfl, _⟩ := readN_inv h4
  obtain ⟨i5, rfl, hk⟩ := cut_inv h5
  obtain ⟨i6, rfl, _⟩ := readN_inv h6
  obtain ⟨i7, rfl⟩ := setAt_at h7
  obtain ⟨_, _, _, hs⟩ := setAt_inv h7
  refine ⟨?_, ?_, hk, hs⟩
  · exact At.append i1 (At.append i2 (At.append i3 (At.append i4 (At.append i5 (At.append i6 i7)))))
  · unfold MsgD.bb
    simp only [List.length_append]
    congr 1; omega
theorem rdM_body {t : ByteArray} {m : MsgD} (h : rdM t 0 = some (m, (t.size : Int))) : m.body = t := by
  obtain ⟨h1, h2, h3, h4⟩ := rdM_at h
  rw [body_is h3 h4]
  exact (At.whole h1 (by omega)).symm
theorem rdM_fwd {m : MsgD} (h : m.ok = true) : rdM m.body 0 = some (m, (m.body.size : Int)) := by
  obtain ⟨k1, k2, k3, k4, k5, k6, k7, k8, k9, k10, kn, ks⟩ := msgB_ok h
  have hk := (name_size kn).2
  have hb := body_is (m := m) (by omega) ks
  have hat : Pn.At m.body 0 m.bb := by rw [hb]; exact at_self _
  have hz : m.body.size = m.bb.length := by rw [hb]; simp [ByteArray.size]
  generalize m.body = t at hat hz ⊢
  unfold MsgD.bb at hat
  obtain ⟨i1, hat⟩ := At.left hat
  obtain ⟨i2, hat⟩ := At.left hat
  obtain ⟨i3, hat⟩ := At.left hat
  obtain ⟨i4, hat⟩ := At.left hat
  obtain ⟨i5, hat⟩ := At.left hat
  obtain ⟨i6, i7⟩ := At.left hat
  have r := rdM_mk (readN_fwd i1 (by omega)) (readN_fwd i2 (by omega)) (readN_fwd i3 (by omega)) (readN_fwd i4 (by omega)) (cut_at i5 (by omega)) (readN_fwd i6 (by omega)) (setAt_fwd ks i7)
  rw [show ((0 : Nat) : Int) = 0 from rfl] at r
  rw [r, hz]
  congr 2
  unfold MsgD.bb
  simp only [List.length_append]
  congr 1; omega
theorem mr_some {s : ByteArray} {m : MsgD} (h : mr s = some m) : unC s = 0 ∧ rdM (unT s) 0 = some (m, ((unT s).size : Int)) ∧ m.ok = true := by
  unfold mr at h
  split at h
  · rename_i hu
    unfold mrM at h
    simp only [Option.bind_eq_some_iff] at h
    obtain ⟨⟨m', e⟩, h1, h2⟩ := h
    split at h2
    · rename_i hc
      simp only [Option.some.injEq] at h2
      subst h2
      obtain ⟨hc1, hc2⟩ := hc
      simp only at hc1 hc2
      rw [hc1] at h1
      exact ⟨hu, h1, hc2⟩
    · cases h2
  · cases h
theorem mr_yes {s : ByteArray} {m : MsgD} (hu : unC s = 0) (h : rdM (unT s) 0 = some (m, ((unT s).size : Int))) (hm : m.ok = true) : mr s = some m := by
  unfold mr
  rw [if_pos hu]
  unfold mrM
  rw [h]
  simp [hm]
theorem mr_no {s : ByteArray} (h : ∀ m, rdM (unT s) 0 = some (m, ((unT s).size : Int)) → m.ok = false) : mr s = none := by
  cases hm : mr s with
  | none => rfl
  | some m =>
    obtain ⟨_, h1, h2⟩ := mr_some hm
    rw [h m h1] at h2; cases h2
/-- what was read is what was written -/
theorem mr_bytes {s : ByteArray} {m : MsgD} (h : mr s = some m) : m.bytes = s := by
  obtain ⟨hu, h1, h2⟩ := mr_some h
  have : m.bytes = sealed m.body := if_pos h2
  rw [this, rdM_body h1]
  exact un_sealed hu
theorem bytes_mr {s : ByteArray} {m : MsgD} (hu : unC s = 0) (h : m.bytes = s) : mr s = some m := by
  obtain ⟨hz, h4, _, ht⟩ := unC_ok hu
  have hm : m.ok = true := by
    cases hc : m.ok
    · have : m.bytes = ⟨#[]⟩ := if_neg (by rw [show msgB m.kd m.fr m.tq m.rq m.ky m.ow m.l m.s = false from hc]; simp)
      rw [this] at h; subst h; exact absurd (show (ByteArray.mk #[]).size < 4 by decide) h4
    · rfl
  have hb : m.bytes = sealed m.body := if_pos hm
  by_cases hl : 7996 < m.body.size
  · rw [hb, sealed_long _ hl] at h; subst h; exact absurd (show (ByteArray.mk #[]).size < 4 by decide) h4
  rw [hb, sealed_short _ hl] at h
  have hs : s.size = m.body.size + 4 := by rw [← h, ByteArray.size_append]; rfl
  have e : unT s = m.body := by
    rw [ht, ← h]
    exact (front m.body (four (crcN m.body)) rfl).1
  refine mr_yes hu ?_ hm
  rw [e]; exact rdM_fwd hm
theorem mr_len (s : ByteArray) : (mrL s).length ≤ 5 ∧ (mrS s).length ≤ 8 := by
  unfold mrL mrS
  cases h : mr s with
  | none => simp
  | some m =>
    obtain ⟨_, _, h2⟩ := mr_some h
    have := setOk_of (msgB_ok h2).set
    exact ⟨right_len this.1, this.2.1⟩
/-- the end of what was read, as a text of its own -/
theorem set_tail {t : ByteArray} {a : Nat} {l : List (Int × Int)} {s : List Sib} (h : setAt t (a : Int) = some ((l, s), (t.size : Int))) (h8 : t.size ≤ 8000) :
    srL (t.extract a t.size) = l ∧ srS (t.extract a t.size) = s ∧ srC (t.extract a t.size) = 0 := by
  obtain ⟨i, e⟩ := setAt_at h
  obtain ⟨_, _, _, hs⟩ := setAt_inv h
  have hx := extract_at i
  rw [show a + (setBB l s).length = t.size by omega] at hx
  have hat : setAt (t.extract a t.size) ((0 : Nat) : Int) = some ((l, s), ((0 + (setBB l s).length : Nat) : Int)) := setAt_fwd hs (by rw [hx]; exact at_self _)
  have hz : (t.extract a t.size).size = (setBB l s).length := by rw [hx]; simp [ByteArray.size]
  rw [Nat.zero_add, ← hz] at hat
  exact sr_yes (by rw [ByteArray.size_extract]; omega) hat rfl
end Go.Proofs.Ytloenigleamcoaa.Sb

set_option linter.unusedSimpArgs false
set_option linter.unusedVariables false
namespace Go.Proofs.Ytloenigleamcoaa.Sb
open Go.RowKit Go.Proofs.Ytloenigleamcoaa.Mk Go.Proofs.Ytloenigleamcoaa.Rw

def cmpI (x y : Int) : Int := if x < y then -1 else if y < x then 1 else 0
set_option maxRecDepth 100000 in
theorem compare (x y : Int) (w : World) : Calls Try.prog 121 #[.int .i64 x, .int .i64 y] w fun e w' => e = .returned (.int .i64 (cmpI x y)) ∧ w = w' := by
  unfold cmpI
  rcases Int.lt_trichotomy x y with h | h | h
  · rw [if_pos h]
    go_enter Try.func121, Try.ntmps121
    go_wp2
    all_goals go_ret
    all_goals exact ⟨rfl, rfl⟩
  · subst h
    rw [if_neg (by omega), if_neg (by omega)]
    go_enter Try.func121, Try.ntmps121
    go_wp2
    all_goals go_ret
    all_goals exact ⟨rfl, rfl⟩
  · have h1 : ¬ x < y := by omega
    rw [if_neg h1, if_pos h]
    go_enter Try.func121, Try.ntmps121
    go_wp2
    all_goals go_ret
    all_goals exact ⟨rfl, rfl⟩

/-- the first that is not zero -/
def orI (u v : Int) : Int := if u = 0 then v else u
set_option maxRecDepth 100000 in
theorem or2 (g : Nat) (u v : Int) (w : World) (h0 : w.cell? ⟨g, 0, none⟩ = some (.int .i64 u)) (h1 : w.cell? ⟨g, 1, none⟩ = some (.int .i64 v)) :
    Calls Try.prog 120 #[.slice (some ⟨g, 0, none⟩) 2 2] w fun e w' => e = .returned (.int .i64 (orI u v)) ∧ w = w' := by
  go_enter Try.func120, Try.ntmps120
  go_wp2
  go_loop [5, 8] (fun _ i => (i = .int .i64 0) ∨ (i = .int .i64 1 ∧ u = 0) ∨ (i = .int .i64 2 ∧ u = 0 ∧ v = 0)) (fun _ i => 2 - (intOf i).toNat)
  case atStart => exact .inl rfl
  case round =>
    rcases hrel with rfl | ⟨rfl, rfl⟩ | ⟨rfl, rfl, rfl⟩
    · by_cases h : u = 0
      · subst h
        go_wp2
        go_round
        case rel => exact .inr (.inl ⟨rfl, trivial⟩)
        case measure => simp [intOf]
      · have hu : (u == 0) = false := by simpa using h
        go_wp2
        go_ret
        exact ⟨ret_i64 (by unfold orI; rw [if_neg h]), rfl⟩
    · by_cases h : v = 0
      · subst h
        go_wp2
        go_round
        case rel => exact .inr (.inr ⟨rfl, trivial, trivial⟩)
        case measure => simp [intOf]
      · have hu : (v == 0) = false := by simpa using h
        go_wp2
        go_ret
        exact ⟨ret_i64 (by unfold orI; simp), rfl⟩
    · go_wp2
      go_ret
      exact ⟨ret_i64 (by unfold orI; simp), rfl⟩
end Go.Proofs.Ytloenigleamcoaa.Sb

set_option linter.unusedSimpArgs false
set_option linter.unusedVariables false
namespace Go.Proofs.Ytloenigleamcoaa.Mk
open Go.RowKit Go.Maps

def mdat (m : Int × Int) : DataW Unit := .agg [.lit (.int .i64 m.1), .lit (.int .i64 m.2)]
def markElem : Value → Option (DataW Unit × List MemPlace)
  | .agg cs => match cs.toList with
    | [.int .i64 a, .int .i64 b] => some (mdat (a, b), [])
    | _ => none
  | _ => none
theorem markElem_mk (m : Int × Int) : markElem (mv m) = some (mdat m, []) := rfl
theorem markElem_inv {v : Value} {z : DataW Unit × List MemPlace} (h : markElem v = some z) : ∃ m, v = mv m ∧ z = (mdat m, []) := by
  unfold markElem at h
  split at h
  · rename_i cs
    split at h
    · rename_i a b e
      cases h
      refine ⟨(a, b), ?_, rfl⟩
      unfold mv
      congr 1
      apply Array.ext'
      simpa using e
    · cases h
  · cases h
theorem mdat_inj {m m' : Int × Int} (h : mdat m = mdat m') : m = m' := by
  unfold mdat at h
  simp at h
  exact Prod.ext h.1 h.2

theorem keyed : Keyed Try.prog 2 := int_keyed Try.underlying2
/-- block b of w is a map of at most n marks, f as a function -/
def MapOf (w : World) (b n : Nat) (f : Int → Option (Int × Int)) : Prop :=
  ∃ D : DataW Unit, w.ownsMap Try.prog 2 markElem b n D ∧ (∀ k, Maps.has D (.int .i64 k) = (f k).isSome) ∧ ∀ k, D.atKey (.int .i64 k) (mdat (0, 0)) = mdat (at_ f k)
theorem MapOf.lt {w : World} {b n : Nat} {f : Int → Option (Int × Int)} (h : MapOf w b n f) : b < w.heap.size := let ⟨_, h, _⟩ := h; h.lt
theorem MapOf.mono {w : World} {b n n' : Nat} {f : Int → Option (Int × Int)} (h : MapOf w b n f) (hn : n ≤ n') : MapOf w b n' f := let ⟨D, h, r⟩ := h; ⟨D, h.mono hn, r⟩
theorem MapOf.same {w w' : World} {b n : Nat} {f : Int → Option (Int × Int)} (h : MapOf w b n f) (hs : w'.heap[b]? = w.heap[b]?) : MapOf w' b n f := by
  obtain ⟨D, ⟨es, clock, hb, F, hn, hD⟩, r⟩ := h
  exact ⟨D, ⟨es, clock, hs.trans hb, F, hn, hD⟩, r⟩
theorem MapOf.alloc {w : World} {b n : Nat} {f : Int → Option (Int × Int)} (h : MapOf w b n f) (o : Obj) : MapOf (w.alloc o) b n f := h.same (Below.heap_alloc w o b h.lt)
theorem MapOf.setCell {w : World} {b n : Nat} {f : Int → Option (Int × Int)} (h : MapOf w b n f) (p : Addr) (hp : b ≠ p.block) (u : Value) : MapOf (w.setCell p u) b n f := h.same (Below.heap_setCell w p u b hp)
theorem MapOf.below {w w' : World} {b n : Nat} {f : Int → Option (Int × Int)} (h : MapOf w b n f) (hb : Below w.heap.size w w') : MapOf w' b n f := h.same (hb.block b h.lt)
theorem mapOf_made (w : World) : MapOf (w.alloc (.map #[] 0)) w.heap.size 0 nil :=
  ⟨.map [], World.ownsMap_made w _ _ _, fun _ => rfl, fun _ => rfl⟩
theorem zeroM (w : World) : (zeroValue 73).run Try.prog w = .ok (mv (0, 0)) w := by kernel_rfl
theorem MapOf.look {w : World} {b n : Nat} {f : Int → Option (Int × Int)} (h : MapOf w b n f) {k : Int} (hk : (Lit.int .i64 k).wf = true) :
    (Instr.lookup 167 (.map (some b)) (.int .i64 k) false).run Try.prog w = .ok (mv (at_ f k)) w := by
  obtain ⟨D, ho, _, hat⟩ := h
  obtain ⟨v, ps, hrun, hv⟩ := ho.lookup keyed Try.underlying167 (zeroM w) (markElem_mk (0, 0)) (keyOf_int_mk Try.underlying2 hk)
  obtain ⟨m, rfl, hz⟩ := markElem_inv hv
  rw [hat] at hz
  have : at_ f k = m := mdat_inj (congrArg Prod.fst hz)
  rw [this]; exact hrun
theorem MapOf.look_ok {w : World} {b n : Nat} {f : Int → Option (Int × Int)} (h : MapOf w b n f) {k : Int} (hk : (Lit.int .i64 k).wf = true) :
    (Instr.lookup 167 (.map (some b)) (.int .i64 k) true).run Try.prog w = .ok (.tuple #[mv (at_ f k), .bool (f k).isSome]) w := by
  obtain ⟨D, ho, hh, hat⟩ := h
  obtain ⟨v, ps, hrun, hv⟩ := ho.look_ok keyed Try.underlying167 (zeroM w) (markElem_mk (0, 0)) (keyOf_int_mk Try.underlying2 hk)
  obtain ⟨m, rfl, hz⟩ := markElem_inv hv
  rw [hat] at hz
  have : at_ f k = m := mdat_inj (congrArg Prod.fst hz)
  rw [this, ← hh]; exact hrun
theorem field1 (x y : Int) (w : World) : (Instr.field 73 (.agg #[.int .i64 x, .int .i64 y]) 1).run Try.prog w = .ok (.int .i64 y) w := by kernel_rfl
theorem field0 (x y : Int) (w : World) : (Instr.field 73 (.agg #[.int .i64 x, .int .i64 y]) 0).run Try.prog w = .ok (.int .i64 x) w := by kernel_rfl
theorem lit_ne {a b : Int} (h : a ≠ b) : (Lit.int .i64 a) ≠ .int .i64 b := fun e => h (by injection e)
theorem upd_at (f : Int → Option (Int × Int)) (m : Int × Int) (k : Int) : at_ (upd f m) k = if k = m.1 then m else at_ f k := by
  unfold at_ upd; split <;> rfl
theorem del_at (f : Int → Option (Int × Int)) (j k : Int) : at_ (del f j) k = if k = j then (0, 0) else at_ f k := by
  unfold at_ del; split <;> rfl
theorem turned_within {w w' : World} {b : Nat} (h : w.mapTurned w' b) : Within b (b + 1) w w' := by
  have g := h.grown
  exact ⟨g.os, g.tape, g.output, g.size, fun k hk ho => g.block k hk (fun e => by injection e; omega)⟩
theorem MapOf.store {w : World} {b n : Nat} {f : Int → Option (Int × Int)} (h : MapOf w b n f) (m : Int × Int) (hk : (Lit.int .i64 m.1).wf = true) (hn : n < maxLen) :
    ∃ w', (Instr.mapUpdate 167 (.map (some b)) (.int .i64 m.1) (mv m)).run Try.prog w = .ok () w' ∧ MapOf w' b (n + 1) (upd f m) ∧ Within b (b + 1) w w' := by
  obtain ⟨D, ho, hh, hat⟩ := h
  obtain ⟨w', hrun, ho', ht⟩ := ho.store keyed Try.underlying167 hn (keyOf_int_mk Try.underlying2 hk) (markElem_mk m)
  refine ⟨w', hrun, ⟨_, ho', fun k => ?_, fun k => ?_⟩, turned_within ht⟩
  · by_cases e : k = m.1
    · subst e; rw [has_put_same (k := .int .i64 m.1) ho.isMap trivial]; unfold upd; rw [if_pos rfl]; rfl
    · rw [has_put_other (lit_ne e), hh]; unfold upd; rw [if_neg e]
  · rw [upd_at]
    by_cases e : k = m.1
    · subst e; rw [atKey_put_same (k := .int .i64 m.1) ho.isMap trivial, if_pos rfl]
    · rw [atKey_put_other (lit_ne e), hat, if_neg e]
theorem MapOf.drop {w : World} {b n : Nat} {f : Int → Option (Int × Int)} (h : MapOf w b n f) (k0 : Int) (hk : (Lit.int .i64 k0).wf = true) (ty : TypeId) :
    ∃ w', (Builtin.delete_ #[167, 2] ty #[.map (some b), .int .i64 k0]).run Try.prog w = .ok (.tuple #[]) w' ∧ MapOf w' b n (del f k0) ∧ Within b (b + 1) w w' := by
  obtain ⟨D, ho, hh, hat⟩ := h
  obtain ⟨w', hrun, ho', ht⟩ := ho.drop keyed Try.underlying167 (keyOf_int_mk Try.underlying2 hk) ty
  refine ⟨w', hrun, ⟨_, ho', fun k => ?_, fun k => ?_⟩, turned_within ht⟩
  · by_cases e : k = k0
    · subst e; rw [has_del_same]; unfold del; rw [if_pos rfl]; rfl
    · rw [has_del_other (lit_ne e), hh]; unfold del; rw [if_neg e]
  · rw [del_at]
    by_cases e : k = k0
    · subst e; rw [atKey_del_same, if_pos rfl]
    · rw [atKey_del_other (lit_ne e), hat, if_neg e]
/-- how many -/
theorem MapOf.len {w : World} {b n : Nat} {f : Int → Option (Int × Int)} (h : MapOf w b n f) (ty : TypeId) :
    ∃ s : Nat, s ≤ n ∧ (Builtin.len_ #[167] ty #[.map (some b)]).run Try.prog w = .ok (.int .i64 (s : Int)) w ∧ (s = 0 ↔ ∀ k, f k = none) := by
  obtain ⟨D, ho, hh, hat⟩ := h
  refine ⟨Maps.size D, ho.size_le, ho.len Try.underlying167 ty, ?_⟩
  obtain ⟨es, clock, hb, F, hs, rfl⟩ := ho
  constructor
  · intro h0 k
    have h1 := hh k
    generalize (es.toList.map (WideElems.rg Try.prog 2 markElem)).foldr DataW.insert [] = L at h0 h1
    have : L = [] := List.length_eq_zero_iff.1 h0
    subst this
    cases hf : f k
    · rfl
    · rw [hf] at h1; cases h1
  · intro h0
    have hk := fit_keys F
    have e1 : Maps.size (DataW.map ((es.toList.map (WideElems.rg Try.prog 2 markElem)).foldr DataW.insert [])) = es.toList.length := by simp [Maps.size, length_sorted]
    rw [e1]
    cases hl : es.toList with
    | nil => rfl
    | cons x r =>
      exfalso
      obtain ⟨v, hv⟩ := hk (WideElems.rg Try.prog 2 markElem x) (List.mem_map.2 ⟨x, by rw [hl]; simp, rfl⟩)
      obtain ⟨k, _, hk1, _⟩ := Maps.keyOf_int_inv Try.underlying2 hv
      have h1 := hh k
      rw [h0 k, hl] at h1
      have h2 : Maps.has (DataW.map (((x :: r).map (WideElems.rg Try.prog 2 markElem)).foldr DataW.insert [])) (.int .i64 k) = true := by
        rw [Maps.has_eq, List.map_cons, List.foldr_cons, any_insert, hk1]
        simp [Lit.sameKey]
      rw [h2] at h1
      cases h1
end Go.Proofs.Ytloenigleamcoaa.Mk

set_option linter.unusedSimpArgs false
set_option linter.unusedVariables false
namespace Go.Proofs.Ytloenigleamcoaa.Mk
open Go.RowKit

theorem wf_small {n : Int} (h0 : -1000000000000 ≤ n) (h1 : n ≤ 1000000000000) : (Lit.int .i64 n).wf = true := by
  simp [Lit.wf, IntKind.min, IntKind.max, IntKind.bits, IntKind.signed]; omega
theorem right_get {l : List (Int × Int)} (h : rightB l = true) (k : Nat) (hk : k < l.length) : 1 ≤ l[k].1 ∧ l[k].1 ≤ 5 ∧ 1 ≤ l[k].2 ∧ l[k].2 ≤ 1000000 :=
  (dotB_iff _).1 (right_dot h _ (List.getElem_mem hk))
/-- what byNode leaves -/
def Mapped (w : World) (l : List (Int × Int)) (e : Ending) (w' : World) : Prop :=
  e = .returned (.map (some w.heap.size)) ∧ MapOf w' w.heap.size 5 (mapL l) ∧ Below w.heap.size w w'

set_option maxRecDepth 100000 in
set_option maxHeartbeats 1000000 in
theorem byNode (a : Option Addr) (cap : Nat) (l : List (Int × Int)) (w : World) (hr : rightB l = true) (h : MarksAt w a l) :
    Calls Try.prog 119 #[.slice a l.length cap] w (Mapped w l) := by
  have H := Lib.hid h
  have HR := Lib.hid hr
  have h5 := right_len hr
  clear h hr
  have hmm : ∀ w, (Instr.makeMap 167 (some (.int .i64 5))).run Try.prog w = .ok (.map (some w.heap.size)) (w.alloc (.map #[] 0)) := fun w => by simp [Instr.makeMap, asInt, asIntOf]
  go_enter Try.func119, Try.ntmps119
  go_wp2
  go_loopw [9] (fun i wr => ∃ (k : Nat), k ≤ l.length ∧ i = .int .i64 k ∧ MapOf wr w.heap.size k (mapL (l.take k)) ∧ Below w.heap.size w wr) (fun i _ => l.length - (intOf i).toNat)
  case atStart => exact ⟨0, Nat.zero_le _, rfl, mapOf_made w, (Below.refl _ _).alloc (Nat.le_refl _) _⟩
  case round =>
    obtain ⟨k, hk, rfl, hm, hbel⟩ := hrel
    have HM := Lib.hid hm
    have HB := Lib.hid hbel
    clear hm hbel
    by_cases hlt : k < l.length
    · obtain ⟨g, off, rfl, hg, c0, c1⟩ := (H.out.mono HB.out).cells hlt
      have hq := right_get HR.out k hlt
      have HS := Lib.hid (mapL_take l k hlt)
      generalize l[k] = m at c0 c1 HS hq
      obtain ⟨x, y⟩ := m
      simp only at c0 c1 hq
      obtain ⟨w2, hrun, hm2, hw2⟩ := (HM.out.alloc (.cells #[.int .i64 x, .int .i64 y] 73)).store (x, y) (wf_small (by simp only; omega) (by simp only; omega)) (by unfold maxLen; omega)
      have HM2 := Lib.hid hm2
      have HB2 := Lib.hid ((HB.out.alloc HB.out.size (.cells #[.int .i64 x, .int .i64 y] 73)).trans (hw2.below (Nat.le_refl _) (by have := HB.out.size; simp; omega)))
      clear hm2 hw2
      unfold mv at hrun
      simp only at hrun
      go_wp2
      go_roundw
      case rel => exact ⟨k + 1, by omega, by go_num, by rw [HS.out]; exact HM2.out, HB2.out⟩
      case measure => go_light; simp [intOf]; omega
    · have he : l.take k = l := List.take_of_length_le (by omega)
      rw [he] at HM
      clear he
      go_wp2
      go_ret
      exact ⟨rfl, HM.out.mono (by omega), HB.out⟩

theorem seenOf_right {l : List (Int × Int)} (h : rightB l = true) (n : Int) : seenOf l n = (at_ (mapL l) n).2 := by unfold seenOf; rw [if_pos h, mapL_at h]
set_option maxRecDepth 100000 in
theorem impl_seenOf (a : Option Addr) (cap : Nat) (l : List (Int × Int)) (n : Int) (w : World) (hl : l.length ≤ maxLen) (hn : (Lit.int .i64 n).wf = true) (h : MarksAt w a l) :
    Calls Try.prog 113 #[.slice a l.length cap, .int .i64 n] w fun e w' => e = .returned (.int .i64 (seenOf l n)) ∧ Below w.heap.size w w' := by
  have H := Lib.hid h
  have HN := Lib.hid hn
  clear h hn
  cases hr : rightB l
  · have hs : seenOf l n = 0 := by unfold seenOf; rw [hr]; rfl
    have HS := Lib.hid hs
    clear hs
    go_enter Try.func113, Try.ntmps113
    go_wp2_with (go_at_call 95; refine (seenRight _ _ l _ hl H.out).mono ?_; rintro e w' ⟨rfl, hb⟩)
    go_ret
    exact ⟨ret_i64 HS.out.symm, hb⟩
  · have HS := Lib.hid (seenOf_right hr n)
    have HR := Lib.hid hr
    go_enter Try.func113, Try.ntmps113
    go_wp2_with (go_at_call 95; refine (seenRight _ _ l _ hl H.out).mono ?_; rintro e w' ⟨rfl, hb⟩)
    refine (byNode a cap l _ HR.out (H.out.mono hb)).mono ?_
    rintro e w2 ⟨rfl, hm, hb2⟩
    have hlook := hm.look HN.out
    have HB := Lib.hid (hb.trans (hb2.mono hb.size))
    clear hm hb hb2
    generalize at_ (mapL l) n = m at hlook HS
    obtain ⟨x, y⟩ := m
    unfold mv at hlook
    simp only at hlook
    have hf := field1 x y
    go_wp2
    go_ret
    exact ⟨ret_i64 HS.out.symm, HB.out⟩
end Go.Proofs.Ytloenigleamcoaa.Mk

set_option linter.unusedSimpArgs false
set_option linter.unusedVariables false
namespace Go.Proofs.Ytloenigleamcoaa.Mk
open Go.RowKit

theorem hasB_eq {l : List (Int × Int)} {m : Int × Int} (h : dotB m = true) : hasB l m = decide (m.2 ≤ seenOf l m.1) := by
  unfold hasB seenOf
  have := (dotB_iff m).1 h
  cases hr : rightB l
  · rw [if_neg (by simp)]; simp; omega
  · rw [if_pos rfl, h]; simp
theorem hasB_no {l : List (Int × Int)} {m : Int × Int} (h : dotB m = false) : hasB l m = false := by unfold hasB; rw [h]; simp

set_option maxRecDepth 100000 in
set_option maxHeartbeats 1000000 in
theorem impl_seenHas (a : Option Addr) (cap : Nat) (l : List (Int × Int)) (m : Int × Int) (w : World) (hl : l.length ≤ maxLen) (hw : (Lit.int .i64 m.1).wf = true) (h : MarksAt w a l) :
    Calls Try.prog 96 #[.slice a l.length cap, mv m] w fun e w' => e = .returned (.bool (hasB l m)) ∧ Below w.heap.size w w' := by
  have H := Lib.hid h
  have HW := Lib.hid hw
  clear h hw
  cases hd : dotB m
  · have HH := Lib.hid (hasB_no (l := l) hd)
    obtain ⟨x, y⟩ := m
    unfold mv
    simp only at HW
    go_enter Try.func96, Try.ntmps96
    go_wp2_with fail
    refine wp_region_held_drew (S := fun w' => w'.cell? ⟨w.heap.size, 0, none⟩ = some (.int .i64 x) ∧ w'.cell? ⟨w.heap.size, 1, none⟩ = some (.int .i64 y) ∧ w.heap.size < w'.heap.size) (by kernel_rfl) (by first | (simp [*]; done) | (go_split_ands; refine ⟨?_, ?_, ?_⟩; (rw [hb.cell (by first | (simp; done) | assumption)]; assumption); (rw [hb.cell (by first | (simp; done) | assumption)]; assumption); (have := hb.size; simp at this ⊢; omega))) (fun hHeld => ?_)
    refine wpAnyH_take (i := 0) (v := ?_) rfl (by kernel_rfl) (by kernel_rfl) (by kernel_rfl) (fun _ _ _ h => h) (Or.inl ⟨by rfl, fun w hSw => by (try dsimp only at hSw); go_simp; (try with_reducible rfl)⟩) (by assumption) ?_
    try simp only [Act.put, List.setIfInBounds_toArray, List.set_cons_zero, List.set_cons_succ, List.getElem_toArray, List.getElem_cons_zero, List.getElem_cons_succ]
    refine wpAnyH_ready (rs := [1]) (by kernel_rfl) (by simp) ?_
    refine AllReadyH.cons rfl (fun K hK => ?_) AllReadyH.nil
    go_simp
    go_at_call 112; refine (dotRight (x, y) _).mono ?_; rintro e w1 ⟨rfl, hb⟩; have HB1 := Lib.hid (((Below.refl _ w).alloc (Nat.le_refl _) _).drew.trans (hb.mono (by simp)))
    go_wp2_with fail
    refine hK.out _ _ (by first | (simp [*]; done) | (go_split_ands; refine ⟨?_, ?_, ?_⟩; (rw [hb.cell (by first | (simp; done) | assumption)]; assumption); (rw [hb.cell (by first | (simp; done) | assumption)]; assumption); (have := hb.size; simp at this ⊢; omega))) (fun hHeld => ?_)
    clear hK K
    try simp only [Act.put, List.setIfInBounds_toArray, List.set_cons_zero, List.set_cons_succ, List.getElem_toArray, List.getElem_cons_zero, List.getElem_cons_succ]
    refine wpAnyH_take (i := 2) (v := ?_) rfl (by kernel_rfl) (by kernel_rfl) (by kernel_rfl) (fun _ _ _ h => h) (Or.inl ⟨by rfl, fun w hSw => by (try dsimp only at hSw); go_simp; (try with_reducible rfl)⟩) (by assumption) ?_
    try simp only [Act.put, List.setIfInBounds_toArray, List.set_cons_zero, List.set_cons_succ, List.getElem_toArray, List.getElem_cons_zero, List.getElem_cons_succ]
    refine wpAnyH_take (i := 3) (v := undef) rfl (by kernel_rfl) (by kernel_rfl) (by kernel_rfl) (fun _ _ _ h => h) (Or.inr ⟨by rfl, rfl⟩) (by assumption) ?_
    try simp only [Act.put, List.setIfInBounds_toArray, List.set_cons_zero, List.set_cons_succ, List.getElem_toArray, List.getElem_cons_zero, List.getElem_cons_succ]
    refine wpAnyH_take (i := 4) (v := undef) rfl (by kernel_rfl) (by kernel_rfl) (by kernel_rfl) (fun _ _ _ h => h) (Or.inr ⟨by rfl, rfl⟩) (by assumption) ?_
    try simp only [Act.put, List.setIfInBounds_toArray, List.set_cons_zero, List.set_cons_succ, List.getElem_toArray, List.getElem_cons_zero, List.getElem_cons_succ]
    refine wpAnyH_take (i := 5) (v := undef) rfl (by kernel_rfl) (by kernel_rfl) (by kernel_rfl) (fun _ _ _ h => h) (Or.inr ⟨by rfl, rfl⟩) (by assumption) ?_
    try simp only [Act.put, List.setIfInBounds_toArray, List.set_cons_zero, List.set_cons_succ, List.getElem_toArray, List.getElem_cons_zero, List.getElem_cons_succ]
    refine wpAnyH_take (i := 6) (v := undef) rfl (by kernel_rfl) (by kernel_rfl) (by kernel_rfl) (fun _ _ _ h => h) (Or.inr ⟨by rfl, rfl⟩) (by assumption) ?_
    try simp only [Act.put, List.setIfInBounds_toArray, List.set_cons_zero, List.set_cons_succ, List.getElem_toArray, List.getElem_cons_zero, List.getElem_cons_succ]
    refine wpAnyH_take (i := 7) (v := undef) rfl (by kernel_rfl) (by kernel_rfl) (by kernel_rfl) (fun _ _ _ h => h) (Or.inr ⟨by rfl, rfl⟩) (by assumption) ?_
    try simp only [Act.put, List.setIfInBounds_toArray, List.set_cons_zero, List.set_cons_succ, List.getElem_toArray, List.getElem_cons_zero, List.getElem_cons_succ]
    refine wpAnyH_take (i := 8) (v := undef) rfl (by kernel_rfl) (by kernel_rfl) (by kernel_rfl) (fun _ _ _ h => h) (Or.inr ⟨by rfl, rfl⟩) (by assumption) ?_
    try simp only [Act.put, List.setIfInBounds_toArray, List.set_cons_zero, List.set_cons_succ, List.getElem_toArray, List.getElem_cons_zero, List.getElem_cons_succ]
    refine wpAnyH_take (i := 9) (v := undef) rfl (by kernel_rfl) (by kernel_rfl) (by kernel_rfl) (fun _ _ _ h => h) (Or.inr ⟨by rfl, rfl⟩) (by assumption) ?_
    try simp only [Act.put, List.setIfInBounds_toArray, List.set_cons_zero, List.set_cons_succ, List.getElem_toArray, List.getElem_cons_zero, List.getElem_cons_succ]
    refine wpAnyH_take (i := 10) (v := ?_) rfl (by kernel_rfl) (by kernel_rfl) (by kernel_rfl) (fun _ _ _ h => h) (Or.inl ⟨by rfl, fun w hSw => by (try dsimp only at hSw); go_simp; (try with_reducible rfl)⟩) (by assumption) ?_
    try simp only [Act.put, List.setIfInBounds_toArray, List.set_cons_zero, List.set_cons_succ, List.getElem_toArray, List.getElem_cons_zero, List.getElem_cons_succ]
    refine wpAnyH_take (i := 11) (v := ?_) rfl (by kernel_rfl) (by kernel_rfl) (by kernel_rfl) (fun _ _ _ h => h) (Or.inl ⟨by rfl, fun w hSw => by (try dsimp only at hSw); go_simp; (try with_reducible rfl)⟩) (by assumption) ?_
    try simp only [Act.put, List.setIfInBounds_toArray, List.set_cons_zero, List.set_cons_succ, List.getElem_toArray, List.getElem_cons_zero, List.getElem_cons_succ]
    refine wpAnyH_done (by kernel_rfl) ?_ _
    go_wp2
    go_ret
    exact ⟨ret_bool HH.out.symm, HB1.out⟩
  · have HH := Lib.hid (hasB_eq (l := l) hd)
    obtain ⟨x, y⟩ := m
    unfold mv
    simp only at HW HH
    go_enter Try.func96, Try.ntmps96
    go_wp2_with fail
    refine wp_region_held_drew (S := fun w' => w'.cell? ⟨w.heap.size, 0, none⟩ = some (.int .i64 x) ∧ w'.cell? ⟨w.heap.size, 1, none⟩ = some (.int .i64 y) ∧ w.heap.size < w'.heap.size) (by kernel_rfl) (by first | (simp [*]; done) | (go_split_ands; refine ⟨?_, ?_, ?_⟩; (rw [hb.cell (by first | (simp; done) | assumption)]; assumption); (rw [hb.cell (by first | (simp; done) | assumption)]; assumption); (have := hb.size; simp at this ⊢; omega))) (fun hHeld => ?_)
    refine wpAnyH_take (i := 0) (v := ?_) rfl (by kernel_rfl) (by kernel_rfl) (by kernel_rfl) (fun _ _ _ h => h) (Or.inl ⟨by rfl, fun w hSw => by (try dsimp only at hSw); go_simp; (try with_reducible rfl)⟩) (by assumption) ?_
    try simp only [Act.put, List.setIfInBounds_toArray, List.set_cons_zero, List.set_cons_succ, List.getElem_toArray, List.getElem_cons_zero, List.getElem_cons_succ]
    refine wpAnyH_ready (rs := [1]) (by kernel_rfl) (by simp) ?_
    refine AllReadyH.cons rfl (fun K hK => ?_) AllReadyH.nil
    go_simp
    go_at_call 112; refine (dotRight (x, y) _).mono ?_; rintro e w1 ⟨rfl, hb⟩; have HB1 := Lib.hid (((Below.refl _ w).alloc (Nat.le_refl _) _).drew.trans (hb.mono (by simp)))
    go_wp2_with fail
    refine hK.out _ _ (by first | (simp [*]; done) | (go_split_ands; refine ⟨?_, ?_, ?_⟩; (rw [hb.cell (by first | (simp; done) | assumption)]; assumption); (rw [hb.cell (by first | (simp; done) | assumption)]; assumption); (have := hb.size; simp at this ⊢; omega))) (fun hHeld => ?_)
    clear hK K
    try simp only [Act.put, List.setIfInBounds_toArray, List.set_cons_zero, List.set_cons_succ, List.getElem_toArray, List.getElem_cons_zero, List.getElem_cons_succ]
    refine wpAnyH_take (i := 2) (v := ?_) rfl (by kernel_rfl) (by kernel_rfl) (by kernel_rfl) (fun _ _ _ h => h) (Or.inl ⟨by rfl, fun w hSw => by (try dsimp only at hSw); go_simp; (try with_reducible rfl)⟩) (by assumption) ?_
    try simp only [Act.put, List.setIfInBounds_toArray, List.set_cons_zero, List.set_cons_succ, List.getElem_toArray, List.getElem_cons_zero, List.getElem_cons_succ]
    refine wpAnyH_take (i := 3) (v := ?_) rfl (by kernel_rfl) (by kernel_rfl) (by kernel_rfl) (fun _ _ _ h => h) (Or.inl ⟨by rfl, fun w hSw => by (try dsimp only at hSw); go_simp; (try with_reducible rfl)⟩) (by assumption) ?_
    try simp only [Act.put, List.setIfInBounds_toArray, List.set_cons_zero, List.set_cons_succ, List.getElem_toArray, List.getElem_cons_zero, List.getElem_cons_succ]
    refine wpAnyH_take (i := 4) (v := ?_) rfl (by kernel_rfl) (by kernel_rfl) (by kernel_rfl) (fun _ _ _ h => h) (Or.inl ⟨by rfl, fun w hSw => by (try dsimp only at hSw); go_simp; (try with_reducible rfl)⟩) (by assumption) ?_
    try simp only [Act.put, List.setIfInBounds_toArray, List.set_cons_zero, List.set_cons_succ, List.getElem_toArray, List.getElem_cons_zero, List.getElem_cons_succ]
    refine wpAnyH_take (i := 5) (v := ?_) rfl (by kernel_rfl) (by kernel_rfl) (by kernel_rfl) (fun _ _ _ h => h) (Or.inl ⟨by rfl, fun w hSw => by (try dsimp only at hSw); go_simp; (try with_reducible rfl)⟩) (by assumption) ?_
    try simp only [Act.put, List.setIfInBounds_toArray, List.set_cons_zero, List.set_cons_succ, List.getElem_toArray, List.getElem_cons_zero, List.getElem_cons_succ]
    refine wpAnyH_take (i := 6) (v := ?_) rfl (by kernel_rfl) (by kernel_rfl) (by kernel_rfl) (fun _ _ _ h => h) (Or.inl ⟨by rfl, fun w hSw => by (try dsimp only at hSw); go_simp; (try with_reducible rfl)⟩) (by assumption) ?_
    try simp only [Act.put, List.setIfInBounds_toArray, List.set_cons_zero, List.set_cons_succ, List.getElem_toArray, List.getElem_cons_zero, List.getElem_cons_succ]
    refine wpAnyH_take (i := 7) (v := ?_) rfl (by kernel_rfl) (by kernel_rfl) (by kernel_rfl) (fun _ _ _ h => h) (Or.inl ⟨by rfl, fun w hSw => by (try dsimp only at hSw); go_simp; (try with_reducible rfl)⟩) (by assumption) ?_
    try simp only [Act.put, List.setIfInBounds_toArray, List.set_cons_zero, List.set_cons_succ, List.getElem_toArray, List.getElem_cons_zero, List.getElem_cons_succ]
    refine wpAnyH_ready (rs := [8]) (by kernel_rfl) (by simp) ?_
    refine AllReadyH.cons rfl (fun K hK => ?_) AllReadyH.nil
    go_simp
    go_at_call 113; refine (impl_seenOf a cap l x _ hl HW.out (H.out.mono HB1.out)).mono ?_; rintro e w2 ⟨rfl, hb⟩; have HB2 := Lib.hid (HB1.out.trans (hb.mono HB1.out.size))
    go_wp2_with fail
    refine hK.out _ _ (by first | (simp [*]; done) | (go_split_ands; refine ⟨?_, ?_, ?_⟩; (rw [hb.cell (by first | (simp; done) | assumption)]; assumption); (rw [hb.cell (by first | (simp; done) | assumption)]; assumption); (have := hb.size; simp at this ⊢; omega))) (fun hHeld => ?_)
    clear hK K
    try simp only [Act.put, List.setIfInBounds_toArray, List.set_cons_zero, List.set_cons_succ, List.getElem_toArray, List.getElem_cons_zero, List.getElem_cons_succ]
    refine wpAnyH_take (i := 9) (v := ?_) rfl (by kernel_rfl) (by kernel_rfl) (by kernel_rfl) (fun _ _ _ h => h) (Or.inl ⟨by rfl, fun w hSw => by (try dsimp only at hSw); go_simp; (try with_reducible rfl)⟩) (by assumption) ?_
    try simp only [Act.put, List.setIfInBounds_toArray, List.set_cons_zero, List.set_cons_succ, List.getElem_toArray, List.getElem_cons_zero, List.getElem_cons_succ]
    refine wpAnyH_take (i := 10) (v := ?_) rfl (by kernel_rfl) (by kernel_rfl) (by kernel_rfl) (fun _ _ _ h => h) (Or.inl ⟨by rfl, fun w hSw => by (try dsimp only at hSw); go_simp; (try with_reducible rfl)⟩) (by assumption) ?_
    try simp only [Act.put, List.setIfInBounds_toArray, List.set_cons_zero, List.set_cons_succ, List.getElem_toArray, List.getElem_cons_zero, List.getElem_cons_succ]
    refine wpAnyH_take (i := 11) (v := ?_) rfl (by kernel_rfl) (by kernel_rfl) (by kernel_rfl) (fun _ _ _ h => h) (Or.inl ⟨by rfl, fun w hSw => by (try dsimp only at hSw); go_simp; (try with_reducible rfl)⟩) (by assumption) ?_
    try simp only [Act.put, List.setIfInBounds_toArray, List.set_cons_zero, List.set_cons_succ, List.getElem_toArray, List.getElem_cons_zero, List.getElem_cons_succ]
    refine wpAnyH_done (by kernel_rfl) ?_ _
    go_wp2
    go_ret
    exact ⟨ret_bool HH.out.symm, HB2.out⟩
end Go.Proofs.Ytloenigleamcoaa.Mk

set_option linter.unusedSimpArgs false
set_option linter.unusedVariables false
namespace Go.Proofs.Ytloenigleamcoaa.Sb
open Go.RowKit Go.Proofs.Ytloenigleamcoaa.Mk Go.Proofs.Ytloenigleamcoaa.Rw

def ordI (a b : Int × Int) : Int := orI (cmpI a.1 b.1) (cmpI a.2 b.2)
theorem ordI_less (a b : Int × Int) : lessB a b = decide (ordI a b < 0) := by
  unfold lessB ordI orI cmpI
  rcases Int.lt_trichotomy a.1 b.1 with h | h | h
  · simp [h]
  · rw [h]
    rcases Int.lt_trichotomy a.2 b.2 with k | k | k <;> simp [k] <;> omega
  · have : ¬ a.1 < b.1 := by omega
    have h2 : ¬ a.1 = b.1 := by omega
    simp [h, this, h2]
theorem ordI_zero (a b : Int × Int) : ordI a b = 0 ↔ a = b := by
  unfold ordI orI cmpI
  obtain ⟨x, y⟩ := a
  obtain ⟨u, v⟩ := b
  simp only [Prod.mk.injEq]
  constructor
  · intro h
    rcases Int.lt_trichotomy x u with k | k | k
    · simp [k] at h
    · subst k
      rcases Int.lt_trichotomy y v with q | q | q
      · simp [q] at h
      · exact ⟨rfl, q⟩
      · have : ¬ y < v := by omega
        simp [q, this] at h
    · have : ¬ x < u := by omega
      simp [k, this] at h
  · rintro ⟨rfl, rfl⟩
    simp

set_option maxRecDepth 100000 in
set_option maxHeartbeats 1000000 in
theorem sibOrder (a b : Sib) (w : World) : Calls Try.prog 114 #[sv a, sv b] w fun e w' => e = .returned (.int .i64 (ordI a.1 b.1)) ∧ Below w.heap.size w w' := by
  obtain ⟨⟨n, m⟩, g, d⟩ := a
  obtain ⟨⟨n', m'⟩, g', d'⟩ := b
  have HV := Lib.hid (show ordI (n, m) (n', m') = orI (cmpI n n') (cmpI m m') from rfl)
  unfold sv
  dsimp only
  have HX := Lib.hid (((Below.refl w.heap.size w).alloc (Nat.le_refl _) (.cells #[.int .i64 n, .int .i64 m, .bool g, .string d] 97)).alloc (by simp) (.cells #[.int .i64 n', .int .i64 m', .bool g', .string d'] 97))
  have x0 : ((w.alloc (.cells #[.int .i64 n, .int .i64 m, .bool g, .string d] 97)).alloc (.cells #[.int .i64 n', .int .i64 m', .bool g', .string d'] 97)).cell? ⟨w.heap.size, 0, none⟩ = some (.int .i64 n) := by simp
  have x1 : ((w.alloc (.cells #[.int .i64 n, .int .i64 m, .bool g, .string d] 97)).alloc (.cells #[.int .i64 n', .int .i64 m', .bool g', .string d'] 97)).cell? ⟨w.heap.size, 1, none⟩ = some (.int .i64 m) := by simp
  have y0 : ((w.alloc (.cells #[.int .i64 n, .int .i64 m, .bool g, .string d] 97)).alloc (.cells #[.int .i64 n', .int .i64 m', .bool g', .string d'] 97)).cell? ⟨w.heap.size + 1, 0, none⟩ = some (.int .i64 n') := by simp
  have y1 : ((w.alloc (.cells #[.int .i64 n, .int .i64 m, .bool g, .string d] 97)).alloc (.cells #[.int .i64 n', .int .i64 m', .bool g', .string d'] 97)).cell? ⟨w.heap.size + 1, 1, none⟩ = some (.int .i64 m') := by simp
  have ya : w.heap.size < ((w.alloc (.cells #[.int .i64 n, .int .i64 m, .bool g, .string d] 97)).alloc (.cells #[.int .i64 n', .int .i64 m', .bool g', .string d'] 97)).heap.size := by simp; omega
  have yb : w.heap.size + 1 < ((w.alloc (.cells #[.int .i64 n, .int .i64 m, .bool g, .string d] 97)).alloc (.cells #[.int .i64 n', .int .i64 m', .bool g', .string d'] 97)).heap.size := by simp
  go_enter Try.func114, Try.ntmps114
  go_wp2_with fail
  generalize (w.alloc (.cells #[.int .i64 n, .int .i64 m, .bool g, .string d] 97)).alloc (.cells #[.int .i64 n', .int .i64 m', .bool g', .string d'] 97) = wa at x0 x1 y0 y1 ya yb HX ⊢
  refine wp_region_held_drew (S := fun w' => w'.cell? ⟨w.heap.size, 0, none⟩ = some (.int .i64 n) ∧ w'.cell? ⟨w.heap.size, 1, none⟩ = some (.int .i64 m) ∧ w'.cell? ⟨w.heap.size + 1, 0, none⟩ = some (.int .i64 n') ∧ w'.cell? ⟨w.heap.size + 1, 1, none⟩ = some (.int .i64 m')) (by kernel_rfl) (by first | exact ⟨x0, x1, y0, y1⟩ | assumption | (simp [*]; done) | exact ⟨z0, z1, z2, z3⟩) (fun hHeld => ?_)
  refine wpAnyH_take (i := 0) (v := ?_) rfl (by kernel_rfl) (by kernel_rfl) (by kernel_rfl) (fun _ _ _ h => h) (Or.inl ⟨by rfl, fun w hSw => by (try dsimp only at hSw); go_simp; (try with_reducible rfl)⟩) (by assumption) ?_
  try simp only [Act.put, List.setIfInBounds_toArray, List.set_cons_zero, List.set_cons_succ, List.getElem_toArray, List.getElem_cons_zero, List.getElem_cons_succ]
  refine wpAnyH_take (i := 1) (v := ?_) rfl (by kernel_rfl) (by kernel_rfl) (by kernel_rfl) (fun _ _ _ h => h) (Or.inl ⟨by rfl, fun w hSw => by (try dsimp only at hSw); go_simp; (try with_reducible rfl)⟩) (by assumption) ?_
  try simp only [Act.put, List.setIfInBounds_toArray, List.set_cons_zero, List.set_cons_succ, List.getElem_toArray, List.getElem_cons_zero, List.getElem_cons_succ]
  refine wpAnyH_take (i := 2) (v := ?_) rfl (by kernel_rfl) (by kernel_rfl) (by kernel_rfl) (fun _ _ _ h => h) (Or.inl ⟨by rfl, fun w hSw => by (try dsimp only at hSw); go_simp; (try with_reducible rfl)⟩) (by assumption) ?_
  try simp only [Act.put, List.setIfInBounds_toArray, List.set_cons_zero, List.set_cons_succ, List.getElem_toArray, List.getElem_cons_zero, List.getElem_cons_succ]
  refine wpAnyH_take (i := 3) (v := ?_) rfl (by kernel_rfl) (by kernel_rfl) (by kernel_rfl) (fun _ _ _ h => h) (Or.inl ⟨by rfl, fun w hSw => by (try dsimp only at hSw); go_simp; (try with_reducible rfl)⟩) (by assumption) ?_
  try simp only [Act.put, List.setIfInBounds_toArray, List.set_cons_zero, List.set_cons_succ, List.getElem_toArray, List.getElem_cons_zero, List.getElem_cons_succ]
  refine wpAnyH_take (i := 4) (v := ?_) rfl (by kernel_rfl) (by kernel_rfl) (by kernel_rfl) (fun _ _ _ h => h) (Or.inl ⟨by rfl, fun w hSw => by (try dsimp only at hSw); go_simp; (try with_reducible rfl)⟩) (by assumption) ?_
  try simp only [Act.put, List.setIfInBounds_toArray, List.set_cons_zero, List.set_cons_succ, List.getElem_toArray, List.getElem_cons_zero, List.getElem_cons_succ]
  refine wpAnyH_take (i := 5) (v := ?_) rfl (by kernel_rfl) (by kernel_rfl) (by kernel_rfl) (fun _ _ _ h => h) (Or.inl ⟨by rfl, fun w hSw => by (try dsimp only at hSw); go_simp; (try with_reducible rfl)⟩) (by assumption) ?_
  try simp only [Act.put, List.setIfInBounds_toArray, List.set_cons_zero, List.set_cons_succ, List.getElem_toArray, List.getElem_cons_zero, List.getElem_cons_succ]
  refine wpAnyH_take (i := 7) (v := ?_) rfl (by kernel_rfl) (by kernel_rfl) (by kernel_rfl) (fun _ _ _ h => h) (Or.inl ⟨by rfl, fun w hSw => by (try dsimp only at hSw); go_simp; (try with_reducible rfl)⟩) (by assumption) ?_
  try simp only [Act.put, List.setIfInBounds_toArray, List.set_cons_zero, List.set_cons_succ, List.getElem_toArray, List.getElem_cons_zero, List.getElem_cons_succ]
  refine wpAnyH_take (i := 8) (v := ?_) rfl (by kernel_rfl) (by kernel_rfl) (by kernel_rfl) (fun _ _ _ h => h) (Or.inl ⟨by rfl, fun w hSw => by (try dsimp only at hSw); go_simp; (try with_reducible rfl)⟩) (by assumption) ?_
  try simp only [Act.put, List.setIfInBounds_toArray, List.set_cons_zero, List.set_cons_succ, List.getElem_toArray, List.getElem_cons_zero, List.getElem_cons_succ]
  refine wpAnyH_take (i := 9) (v := ?_) rfl (by kernel_rfl) (by kernel_rfl) (by kernel_rfl) (fun _ _ _ h => h) (Or.inl ⟨by rfl, fun w hSw => by (try dsimp only at hSw); go_simp; (try with_reducible rfl)⟩) (by assumption) ?_
  try simp only [Act.put, List.setIfInBounds_toArray, List.set_cons_zero, List.set_cons_succ, List.getElem_toArray, List.getElem_cons_zero, List.getElem_cons_succ]
  refine wpAnyH_take (i := 10) (v := ?_) rfl (by kernel_rfl) (by kernel_rfl) (by kernel_rfl) (fun _ _ _ h => h) (Or.inl ⟨by rfl, fun w hSw => by (try dsimp only at hSw); go_simp; (try with_reducible rfl)⟩) (by assumption) ?_
  try simp only [Act.put, List.setIfInBounds_toArray, List.set_cons_zero, List.set_cons_succ, List.getElem_toArray, List.getElem_cons_zero, List.getElem_cons_succ]
  refine wpAnyH_take (i := 11) (v := ?_) rfl (by kernel_rfl) (by kernel_rfl) (by kernel_rfl) (fun _ _ _ h => h) (Or.inl ⟨by rfl, fun w hSw => by (try dsimp only at hSw); go_simp; (try with_reducible rfl)⟩) (by assumption) ?_
  try simp only [Act.put, List.setIfInBounds_toArray, List.set_cons_zero, List.set_cons_succ, List.getElem_toArray, List.getElem_cons_zero, List.getElem_cons_succ]
  refine wpAnyH_take (i := 12) (v := ?_) rfl (by kernel_rfl) (by kernel_rfl) (by kernel_rfl) (fun _ _ _ h => h) (Or.inl ⟨by rfl, fun w hSw => by (try dsimp only at hSw); go_simp; (try with_reducible rfl)⟩) (by assumption) ?_
  try simp only [Act.put, List.setIfInBounds_toArray, List.set_cons_zero, List.set_cons_succ, List.getElem_toArray, List.getElem_cons_zero, List.getElem_cons_succ]
  refine wpAnyH_ready (rs := [6]) (by kernel_rfl) (by simp) ?_
  refine AllReadyH.cons rfl (fun K hK => ?_) AllReadyH.nil
  go_simp
  go_at_call 121; refine (compare n n' _).mono ?_; rintro e w1 ⟨rfl, rfl⟩
  go_wp2_with fail
  refine hK.out _ _ (by first | exact ⟨x0, x1, y0, y1⟩ | assumption | (simp [*]; done) | exact ⟨z0, z1, z2, z3⟩) (fun hHeld => ?_)
  clear hK K
  try simp only [Act.put, List.setIfInBounds_toArray, List.set_cons_zero, List.set_cons_succ, List.getElem_toArray, List.getElem_cons_zero, List.getElem_cons_succ]
  refine wpAnyH_ready (rs := [13]) (by kernel_rfl) (by simp) ?_
  refine AllReadyH.cons rfl (fun K hK => ?_) AllReadyH.nil
  go_simp
  go_at_call 121; refine (compare m m' _).mono ?_; rintro e w1 ⟨rfl, rfl⟩
  go_wp2_with fail
  refine hK.out _ _ (by first | exact ⟨x0, x1, y0, y1⟩ | assumption | (simp [*]; done) | exact ⟨z0, z1, z2, z3⟩) (fun hHeld => ?_)
  clear hK K
  try simp only [Act.put, List.setIfInBounds_toArray, List.set_cons_zero, List.set_cons_succ, List.getElem_toArray, List.getElem_cons_zero, List.getElem_cons_succ]
  refine wpAnyH_ready (rs := [14]) (by kernel_rfl) (by simp) ?_
  refine AllReadyH.cons rfl (fun K hK => ?_) AllReadyH.nil
  go_simp
  have hsw := (step_alloc wa (.cells #[.int .i64 (cmpI n n'), .int .i64 (cmpI m m')] 3)).drew
  have z0 := (hsw.cell (p := ⟨w.heap.size, 0, none⟩) ya).trans x0; have z1 := (hsw.cell (p := ⟨w.heap.size, 1, none⟩) ya).trans x1; have z2 := (hsw.cell (p := ⟨w.heap.size + 1, 0, none⟩) yb).trans y0; have z3 := (hsw.cell (p := ⟨w.heap.size + 1, 1, none⟩) yb).trans y1
  go_wp2_with fail
  refine hK.out _ _ (by first | exact ⟨x0, x1, y0, y1⟩ | assumption | (simp [*]; done) | exact ⟨z0, z1, z2, z3⟩) (fun hHeld => ?_)
  clear hK K
  try simp only [Act.put, List.setIfInBounds_toArray, List.set_cons_zero, List.set_cons_succ, List.getElem_toArray, List.getElem_cons_zero, List.getElem_cons_succ]
  refine wpAnyH_ready (rs := [15]) (by kernel_rfl) (by simp) ?_
  refine AllReadyH.cons rfl (fun K hK => ?_) AllReadyH.nil
  go_simp
  go_at_call 120; refine (or2 wa.heap.size (cmpI n n') (cmpI m m') _ (by simp) (by simp)).mono ?_; rintro e w1 ⟨rfl, rfl⟩; have z0 := (hsw.cell (p := ⟨w.heap.size, 0, none⟩) ya).trans x0; have z1 := (hsw.cell (p := ⟨w.heap.size, 1, none⟩) ya).trans x1; have z2 := (hsw.cell (p := ⟨w.heap.size + 1, 0, none⟩) yb).trans y0; have z3 := (hsw.cell (p := ⟨w.heap.size + 1, 1, none⟩) yb).trans y1
  go_wp2_with fail
  refine hK.out _ _ (by first | exact ⟨x0, x1, y0, y1⟩ | assumption | (simp [*]; done) | exact ⟨z0, z1, z2, z3⟩) (fun hHeld => ?_)
  clear hK K
  try simp only [Act.put, List.setIfInBounds_toArray, List.set_cons_zero, List.set_cons_succ, List.getElem_toArray, List.getElem_cons_zero, List.getElem_cons_succ]
  refine wpAnyH_take (i := 16) (v := ?_) rfl (by kernel_rfl) (by kernel_rfl) (by kernel_rfl) (fun _ _ _ h => h) (Or.inl ⟨by rfl, fun w hSw => by (try dsimp only at hSw); go_simp; (try with_reducible rfl)⟩) (by assumption) ?_
  try simp only [Act.put, List.setIfInBounds_toArray, List.set_cons_zero, List.set_cons_succ, List.getElem_toArray, List.getElem_cons_zero, List.getElem_cons_succ]
  refine wpAnyH_done (by kernel_rfl) ?_ _
  go_wp2
  go_ret
  exact ⟨ret_i64 HV.out.symm, HX.out.trans (hsw.mono HX.out.size)⟩

def ordF : Value := .func (.func 114) #[] #[]
theorem sortedSibs (a : Option Addr) (n cap : Nat) (w : World) : Calls Try.prog 98 #[.slice a n cap] w fun e w' => e = .returned (.agg #[.slice a n cap, ordF]) ∧ Below w.heap.size w w' := by
  unfold ordF
  go_enter Try.func98, Try.ntmps98
  go_wp2
  refine bodyPost_ret (v := .agg #[.slice a n cap, .func (.func 114) #[] #[]]) (by simp [results, Try.results98, go_sem]) rfl ⟨rfl, ?_⟩
  repeat (first | refine Below.setCell ?_ (by simp) _ | refine Below.alloc ?_ (by simp) _)
  exact Below.refl _ _

theorem less_ord {a b : Int × Int} (h : lessB a b = false) : (0 : Int) ≤ ordI a b := by rw [ordI_less] at h; simpa using h
theorem less_ord' {a b : Int × Int} (h : lessB a b = true) : ¬ (0 : Int) ≤ ordI a b := by
  rw [ordI_less] at h
  have : ordI a b < 0 := by simpa using h
  omega
set_option maxRecDepth 100000 in
set_option maxHeartbeats 1000000 in
theorem right_ (a : Option Addr) (cap : Nat) (s : List Sib) (w : World) (hs : s.length ≤ maxLen) (h' : SibsAt w a s) :
    Calls Try.prog 99 #[.agg #[.slice a s.length cap, ordF]] w fun e w' => e = .returned (.bool (decide (Inc s))) ∧ Below w.heap.size w w' := by
  have H' := Lib.hid h'
  clear h'
  have hsm := hs
  unfold maxLen at hsm
  have hb0 := Lib.hid (step_alloc w (.cells #[.slice a s.length cap, .func (.func 114) #[] #[]] 148))
  unfold ordF
  go_enter Try.func99, Try.ntmps99
  go_wp2
  go_loopw [3] (fun i wr => ∃ (j : Nat), j ≤ s.length ∧ i = .int .i64 ((j : Int) + 1) ∧ (∀ q, q < j → q + 1 < s.length → lessB (s.getD q z0).1 (s.getD (q + 1) z0).1 = true) ∧ Below (w.heap.size + 1) (w.alloc (.cells #[.slice a s.length cap, .func (.func 114) #[] #[]] 148)) wr) (fun i _ => s.length + 1 - (intOf i).toNat)
  case atStart => exact ⟨0, by omega, rfl, fun q h => by omega, Below.refl _ _⟩
  case round =>
    obtain ⟨j, hj, rfl, hu, hbel⟩ := hrel
    have HU := Lib.hid hu
    have HB := Lib.hid hbel
    have HW := Lib.hid (hb0.out.trans (hbel.mono (by simp)))
    have hwz : w.heap.size < wr.heap.size := by have := hbel.size; simp at this; omega
    have b0 : wr.cell? ⟨w.heap.size, 0, none⟩ = some (.slice a s.length cap) := (hbel.cell (p := ⟨w.heap.size, 0, none⟩) (by simp)).trans (by rw [World.cell?_alloc_mark]; rfl)
    have b1 : wr.cell? ⟨w.heap.size, 1, none⟩ = some (.func (.func 114) #[] #[]) := (hbel.cell (p := ⟨w.heap.size, 1, none⟩) (by simp)).trans (by rw [World.cell?_alloc_mark]; rfl)
    clear hu hbel
    by_cases hlt : j + 1 < s.length
    rotate_left
    · have HR := Lib.hid (decide_eq_true (show Inc s from fun q hq => HU.out q (by omega) hq))
      have hge : ¬ (j : Int) + 1 < (s.length : Int) := by omega
      go_wp2
      go_ret
      exact ⟨ret_bool HR.out.symm, HW.out⟩
    obtain ⟨g, off, rfl, hg, c0, c1, c2, c3⟩ := (H'.out.mono HW.out).cells hlt
    obtain ⟨g2, off2, hgo, _, p0, p1, p2, p3⟩ := (H'.out.mono HW.out).cells (show j < s.length by omega)
    obtain ⟨rfl, rfl⟩ : g = g2 ∧ off = off2 := by simpa using hgo
    obtain ⟨x, hx⟩ : ∃ x, s[j + 1] = x := ⟨_, rfl⟩
    rw [hx] at c0 c1 c2 c3
    obtain ⟨y, hy⟩ : ∃ y, s[j]'(by omega) = y := ⟨_, rfl⟩
    rw [hy] at p0 p1 p2 p3
    have HE := Lib.hid hx
    have HP := Lib.hid hy
    clear hx hy hgo
    obtain ⟨⟨n, m⟩, gn, d⟩ := x
    obtain ⟨⟨pn, pm⟩, pg, pd⟩ := y
    dsimp only at c0 c1 c2 c3 p0 p1 p2 p3
    have hlt' : (j : Int) + 1 < (s.length : Int) := by omega
    have hwj : IntKind.i64.wrap (j : Int) = (j : Int) := by rw [IntKind.wrap_i64]; omega
    have i0 : (0 : Int) ≤ (j : Int) := by omega
    have i1 : (j : Int) < (s.length : Int) := by omega
    have i2 : (0 : Int) ≤ (j : Int) + 1 := by omega
    have hjn : ((j : Int) + 1).toNat = j + 1 := by omega
    cases hless : lessB (pn, pm) (n, m)
    · have HR := Lib.hid (decide_eq_false (show ¬ Inc s from fun q => by have := q j hlt; rw [getD_eq s j (by omega), getD_eq s (j + 1) hlt, HP.out, HE.out, hless] at this; cases this))
      have hge := less_ord hless
      go_wp2_with fail
      refine wp_region_held_drew (S := fun w' => w'.cell? ⟨w.heap.size, 0, none⟩ = some (.slice (some ⟨g, off, none⟩) s.length cap) ∧ w'.cell? ⟨w.heap.size, 1, none⟩ = some (.func (.func 114) #[] #[]) ∧ w'.cell? ⟨g, off + j * 4, none⟩ = some (.int .i64 pn) ∧ w'.cell? ⟨g, off + j * 4 + 1, none⟩ = some (.int .i64 pm) ∧ w'.cell? ⟨g, off + j * 4 + 2, none⟩ = some (.bool pg) ∧ w'.cell? ⟨g, off + j * 4 + 3, none⟩ = some (.string pd) ∧ w'.cell? ⟨g, off + (j + 1) * 4, none⟩ = some (.int .i64 n) ∧ w'.cell? ⟨g, off + (j + 1) * 4 + 1, none⟩ = some (.int .i64 m) ∧ w'.cell? ⟨g, off + (j + 1) * 4 + 2, none⟩ = some (.bool gn) ∧ w'.cell? ⟨g, off + (j + 1) * 4 + 3, none⟩ = some (.string d)) (by kernel_rfl) (by first | exact ⟨b0, b1, p0, p1, p2, p3, c0, c1, c2, c3⟩ | assumption | (go_split_ands; refine ⟨?_, ?_, ?_, ?_, ?_, ?_, ?_, ?_, ?_, ?_⟩ <;> (rw [hb.cell (by first | exact hwz | exact hg)]; assumption))) (fun hHeld => ?_)
      refine wpAnyH_take (i := 0) (v := ?_) rfl (by kernel_rfl) (by kernel_rfl) (by kernel_rfl) (fun _ _ _ h => h) (Or.inl ⟨by rfl, fun w hSw => by (try dsimp only at hSw); go_simp; (try with_reducible rfl)⟩) (by assumption) ?_
      try simp only [Act.put, List.setIfInBounds_toArray, List.set_cons_zero, List.set_cons_succ, List.getElem_toArray, List.getElem_cons_zero, List.getElem_cons_succ]
      refine wpAnyH_take (i := 1) (v := ?_) rfl (by kernel_rfl) (by kernel_rfl) (by kernel_rfl) (fun _ _ _ h => h) (Or.inl ⟨by rfl, fun w hSw => by (try dsimp only at hSw); go_simp; (try with_reducible rfl)⟩) (by assumption) ?_
      try simp only [Act.put, List.setIfInBounds_toArray, List.set_cons_zero, List.set_cons_succ, List.getElem_toArray, List.getElem_cons_zero, List.getElem_cons_succ]
      refine wpAnyH_take (i := 2) (v := ?_) rfl (by kernel_rfl) (by kernel_rfl) (by kernel_rfl) (fun _ _ _ h => h) (Or.inl ⟨by rfl, fun w hSw => by (try dsimp only at hSw); go_simp; (try with_reducible rfl)⟩) (by assumption) ?_
      try simp only [Act.put, List.setIfInBounds_toArray, List.set_cons_zero, List.set_cons_succ, List.getElem_toArray, List.getElem_cons_zero, List.getElem_cons_succ]
      refine wpAnyH_take (i := 3) (v := ?_) rfl (by kernel_rfl) (by kernel_rfl) (by kernel_rfl) (fun _ _ _ h => h) (Or.inl ⟨by rfl, fun w hSw => by (try dsimp only at hSw); go_simp; (try with_reducible rfl)⟩) (by assumption) ?_
      try simp only [Act.put, List.setIfInBounds_toArray, List.set_cons_zero, List.set_cons_succ, List.getElem_toArray, List.getElem_cons_zero, List.getElem_cons_succ]
      refine wpAnyH_take (i := 4) (v := ?_) rfl (by kernel_rfl) (by kernel_rfl) (by kernel_rfl) (fun _ _ _ h => h) (Or.inl ⟨by rfl, fun w hSw => by (try dsimp only at hSw); go_simp; (try with_reducible rfl)⟩) (by assumption) ?_
      try simp only [Act.put, List.setIfInBounds_toArray, List.set_cons_zero, List.set_cons_succ, List.getElem_toArray, List.getElem_cons_zero, List.getElem_cons_succ]
      refine wpAnyH_take (i := 5) (v := ?_) rfl (by kernel_rfl) (by kernel_rfl) (by kernel_rfl) (fun _ _ _ h => h) (Or.inl ⟨by rfl, fun w hSw => by (try dsimp only at hSw); go_simp; (try with_reducible rfl)⟩) (by assumption) ?_
      try simp only [Act.put, List.setIfInBounds_toArray, List.set_cons_zero, List.set_cons_succ, List.getElem_toArray, List.getElem_cons_zero, List.getElem_cons_succ]
      refine wpAnyH_take (i := 6) (v := ?_) rfl (by kernel_rfl) (by kernel_rfl) (by kernel_rfl) (fun _ _ _ h => h) (Or.inl ⟨by rfl, fun w hSw => by (try dsimp only at hSw); go_simp; (try with_reducible rfl)⟩) (by assumption) ?_
      try simp only [Act.put, List.setIfInBounds_toArray, List.set_cons_zero, List.set_cons_succ, List.getElem_toArray, List.getElem_cons_zero, List.getElem_cons_succ]
      refine wpAnyH_take (i := 7) (v := ?_) rfl (by kernel_rfl) (by kernel_rfl) (by kernel_rfl) (fun _ _ _ h => h) (Or.inl ⟨by rfl, fun w hSw => by (try dsimp only at hSw); go_simp; (try with_reducible rfl)⟩) (by assumption) ?_
      try simp only [Act.put, List.setIfInBounds_toArray, List.set_cons_zero, List.set_cons_succ, List.getElem_toArray, List.getElem_cons_zero, List.getElem_cons_succ]
      refine wpAnyH_take (i := 8) (v := ?_) rfl (by kernel_rfl) (by kernel_rfl) (by kernel_rfl) (fun _ _ _ h => h) (Or.inl ⟨by rfl, fun w hSw => by (try dsimp only at hSw); go_simp; (try with_reducible rfl)⟩) (by assumption) ?_
      try simp only [Act.put, List.setIfInBounds_toArray, List.set_cons_zero, List.set_cons_succ, List.getElem_toArray, List.getElem_cons_zero, List.getElem_cons_succ]
      refine wpAnyH_take (i := 9) (v := ?_) rfl (by kernel_rfl) (by kernel_rfl) (by kernel_rfl) (fun _ _ _ h => h) (Or.inl ⟨by rfl, fun w hSw => by (try dsimp only at hSw); go_simp; (try with_reducible rfl)⟩) (by assumption) ?_
      try simp only [Act.put, List.setIfInBounds_toArray, List.set_cons_zero, List.set_cons_succ, List.getElem_toArray, List.getElem_cons_zero, List.getElem_cons_succ]
      refine wpAnyH_take (i := 10) (v := ?_) rfl (by kernel_rfl) (by kernel_rfl) (by kernel_rfl) (fun _ _ _ h => h) (Or.inl ⟨by rfl, fun w hSw => by (try dsimp only at hSw); go_simp; (try with_reducible rfl)⟩) (by assumption) ?_
      try simp only [Act.put, List.setIfInBounds_toArray, List.set_cons_zero, List.set_cons_succ, List.getElem_toArray, List.getElem_cons_zero, List.getElem_cons_succ]
      refine wpAnyH_take (i := 11) (v := ?_) rfl (by kernel_rfl) (by kernel_rfl) (by kernel_rfl) (fun _ _ _ h => h) (Or.inl ⟨by rfl, fun w hSw => by (try dsimp only at hSw); go_simp; (try with_reducible rfl)⟩) (by assumption) ?_
      try simp only [Act.put, List.setIfInBounds_toArray, List.set_cons_zero, List.set_cons_succ, List.getElem_toArray, List.getElem_cons_zero, List.getElem_cons_succ]
      refine wpAnyH_take (i := 12) (v := ?_) rfl (by kernel_rfl) (by kernel_rfl) (by kernel_rfl) (fun _ _ _ h => h) (Or.inl ⟨by rfl, fun w hSw => by (try dsimp only at hSw); go_simp; (try with_reducible rfl)⟩) (by assumption) ?_
      try simp only [Act.put, List.setIfInBounds_toArray, List.set_cons_zero, List.set_cons_succ, List.getElem_toArray, List.getElem_cons_zero, List.getElem_cons_succ]
      refine wpAnyH_ready (rs := [13]) (by kernel_rfl) (by simp) ?_
      refine AllReadyH.cons rfl (fun K hK => ?_) AllReadyH.nil
      go_simp
      go_at_call 114; refine (sibOrder ((pn, pm), pg, pd) ((n, m), gn, d) _).mono ?_; rintro e w1 ⟨rfl, hb⟩; have HQ := Lib.hid (HB.out.drew.trans (hb.mono hwz)); have HV := Lib.hid (HW.out.drew.trans (hb.mono HW.out.size))
      go_wp2_with fail
      refine hK.out _ _ (by first | exact ⟨b0, b1, p0, p1, p2, p3, c0, c1, c2, c3⟩ | assumption | (go_split_ands; refine ⟨?_, ?_, ?_, ?_, ?_, ?_, ?_, ?_, ?_, ?_⟩ <;> (rw [hb.cell (by first | exact hwz | exact hg)]; assumption))) (fun hHeld => ?_)
      clear hK K
      try simp only [Act.put, List.setIfInBounds_toArray, List.set_cons_zero, List.set_cons_succ, List.getElem_toArray, List.getElem_cons_zero, List.getElem_cons_succ]
      refine wpAnyH_take (i := 14) (v := ?_) rfl (by kernel_rfl) (by kernel_rfl) (by kernel_rfl) (fun _ _ _ h => h) (Or.inl ⟨by rfl, fun w hSw => by (try dsimp only at hSw); go_simp; (try with_reducible rfl)⟩) (by assumption) ?_
      try simp only [Act.put, List.setIfInBounds_toArray, List.set_cons_zero, List.set_cons_succ, List.getElem_toArray, List.getElem_cons_zero, List.getElem_cons_succ]
      refine wpAnyH_done (by kernel_rfl) ?_ _
      go_wp2
      go_ret
      exact ⟨ret_bool HR.out.symm, HV.out⟩
    · have HR := Lib.hid (show ∀ q, q < j + 1 → q + 1 < s.length → lessB (s.getD q z0).1 (s.getD (q + 1) z0).1 = true from fun q h1 h2 => by
        by_cases e : q = j
        · subst e; rw [getD_eq s q (by omega), getD_eq s (q + 1) hlt, HP.out, HE.out]; exact hless
        · exact HU.out q (by omega) h2)
      have hge := less_ord' hless
      go_wp2_with fail
      refine wp_region_held_drew (S := fun w' => w'.cell? ⟨w.heap.size, 0, none⟩ = some (.slice (some ⟨g, off, none⟩) s.length cap) ∧ w'.cell? ⟨w.heap.size, 1, none⟩ = some (.func (.func 114) #[] #[]) ∧ w'.cell? ⟨g, off + j * 4, none⟩ = some (.int .i64 pn) ∧ w'.cell? ⟨g, off + j * 4 + 1, none⟩ = some (.int .i64 pm) ∧ w'.cell? ⟨g, off + j * 4 + 2, none⟩ = some (.bool pg) ∧ w'.cell? ⟨g, off + j * 4 + 3, none⟩ = some (.string pd) ∧ w'.cell? ⟨g, off + (j + 1) * 4, none⟩ = some (.int .i64 n) ∧ w'.cell? ⟨g, off + (j + 1) * 4 + 1, none⟩ = some (.int .i64 m) ∧ w'.cell? ⟨g, off + (j + 1) * 4 + 2, none⟩ = some (.bool gn) ∧ w'.cell? ⟨g, off + (j + 1) * 4 + 3, none⟩ = some (.string d)) (by kernel_rfl) (by first | exact ⟨b0, b1, p0, p1, p2, p3, c0, c1, c2, c3⟩ | assumption | (go_split_ands; refine ⟨?_, ?_, ?_, ?_, ?_, ?_, ?_, ?_, ?_, ?_⟩ <;> (rw [hb.cell (by first | exact hwz | exact hg)]; assumption))) (fun hHeld => ?_)
      refine wpAnyH_take (i := 0) (v := ?_) rfl (by kernel_rfl) (by kernel_rfl) (by kernel_rfl) (fun _ _ _ h => h) (Or.inl ⟨by rfl, fun w hSw => by (try dsimp only at hSw); go_simp; (try with_reducible rfl)⟩) (by assumption) ?_
      try simp only [Act.put, List.setIfInBounds_toArray, List.set_cons_zero, List.set_cons_succ, List.getElem_toArray, List.getElem_cons_zero, List.getElem_cons_succ]
      refine wpAnyH_take (i := 1) (v := ?_) rfl (by kernel_rfl) (by kernel_rfl) (by kernel_rfl) (fun _ _ _ h => h) (Or.inl ⟨by rfl, fun w hSw => by (try dsimp only at hSw); go_simp; (try with_reducible rfl)⟩) (by assumption) ?_
      try simp only [Act.put, List.setIfInBounds_toArray, List.set_cons_zero, List.set_cons_succ, List.getElem_toArray, List.getElem_cons_zero, List.getElem_cons_succ]
      refine wpAnyH_take (i := 2) (v := ?_) rfl (by kernel_rfl) (by kernel_rfl) (by kernel_rfl) (fun _ _ _ h => h) (Or.inl ⟨by rfl, fun w hSw => by (try dsimp only at hSw); go_simp; (try with_reducible rfl)⟩) (by assumption) ?_
      try simp only [Act.put, List.setIfInBounds_toArray, List.set_cons_zero, List.set_cons_succ, List.getElem_toArray, List.getElem_cons_zero, List.getElem_cons_succ]
      refine wpAnyH_take (i := 3) (v := ?_) rfl (by kernel_rfl) (by kernel_rfl) (by kernel_rfl) (fun _ _ _ h => h) (Or.inl ⟨by rfl, fun w hSw => by (try dsimp only at hSw); go_simp; (try with_reducible rfl)⟩) (by assumption) ?_
      try simp only [Act.put, List.setIfInBounds_toArray, List.set_cons_zero, List.set_cons_succ, List.getElem_toArray, List.getElem_cons_zero, List.getElem_cons_succ]
      refine wpAnyH_take (i := 4) (v := ?_) rfl (by kernel_rfl) (by kernel_rfl) (by kernel_rfl) (fun _ _ _ h => h) (Or.inl ⟨by rfl, fun w hSw => by (try dsimp only at hSw); go_simp; (try with_reducible rfl)⟩) (by assumption) ?_
      try simp only [Act.put, List.setIfInBounds_toArray, List.set_cons_zero, List.set_cons_succ, List.getElem_toArray, List.getElem_cons_zero, List.getElem_cons_succ]
      refine wpAnyH_take (i := 5) (v := ?_) rfl (by kernel_rfl) (by kernel_rfl) (by kernel_rfl) (fun _ _ _ h => h) (Or.inl ⟨by rfl, fun w hSw => by (try dsimp only at hSw); go_simp; (try with_reducible rfl)⟩) (by assumption) ?_
      try simp only [Act.put, List.setIfInBounds_toArray, List.set_cons_zero, List.set_cons_succ, List.getElem_toArray, List.getElem_cons_zero, List.getElem_cons_succ]
      refine wpAnyH_take (i := 6) (v := ?_) rfl (by kernel_rfl) (by kernel_rfl) (by kernel_rfl) (fun _ _ _ h => h) (Or.inl ⟨by rfl, fun w hSw => by (try dsimp only at hSw); go_simp; (try with_reducible rfl)⟩) (by assumption) ?_
      try simp only [Act.put, List.setIfInBounds_toArray, List.set_cons_zero, List.set_cons_succ, List.getElem_toArray, List.getElem_cons_zero, List.getElem_cons_succ]
      refine wpAnyH_take (i := 7) (v := ?_) rfl (by kernel_rfl) (by kernel_rfl) (by kernel_rfl) (fun _ _ _ h => h) (Or.inl ⟨by rfl, fun w hSw => by (try dsimp only at hSw); go_simp; (try with_reducible rfl)⟩) (by assumption) ?_
      try simp only [Act.put, List.setIfInBounds_toArray, List.set_cons_zero, List.set_cons_succ, List.getElem_toArray, List.getElem_cons_zero, List.getElem_cons_succ]
      refine wpAnyH_take (i := 8) (v := ?_) rfl (by kernel_rfl) (by kernel_rfl) (by kernel_rfl) (fun _ _ _ h => h) (Or.inl ⟨by rfl, fun w hSw => by (try dsimp only at hSw); go_simp; (try with_reducible rfl)⟩) (by assumption) ?_
      try simp only [Act.put, List.setIfInBounds_toArray, List.set_cons_zero, List.set_cons_succ, List.getElem_toArray, List.getElem_cons_zero, List.getElem_cons_succ]
      refine wpAnyH_take (i := 9) (v := ?_) rfl (by kernel_rfl) (by kernel_rfl) (by kernel_rfl) (fun _ _ _ h => h) (Or.inl ⟨by rfl, fun w hSw => by (try dsimp only at hSw); go_simp; (try with_reducible rfl)⟩) (by assumption) ?_
      try simp only [Act.put, List.setIfInBounds_toArray, List.set_cons_zero, List.set_cons_succ, List.getElem_toArray, List.getElem_cons_zero, List.getElem_cons_succ]
      refine wpAnyH_take (i := 10) (v := ?_) rfl (by kernel_rfl) (by kernel_rfl) (by kernel_rfl) (fun _ _ _ h => h) (Or.inl ⟨by rfl, fun w hSw => by (try dsimp only at hSw); go_simp; (try with_reducible rfl)⟩) (by assumption) ?_
      try simp only [Act.put, List.setIfInBounds_toArray, List.set_cons_zero, List.set_cons_succ, List.getElem_toArray, List.getElem_cons_zero, List.getElem_cons_succ]
      refine wpAnyH_take (i := 11) (v := ?_) rfl (by kernel_rfl) (by kernel_rfl) (by kernel_rfl) (fun _ _ _ h => h) (Or.inl ⟨by rfl, fun w hSw => by (try dsimp only at hSw); go_simp; (try with_reducible rfl)⟩) (by assumption) ?_
      try simp only [Act.put, List.setIfInBounds_toArray, List.set_cons_zero, List.set_cons_succ, List.getElem_toArray, List.getElem_cons_zero, List.getElem_cons_succ]
      refine wpAnyH_take (i := 12) (v := ?_) rfl (by kernel_rfl) (by kernel_rfl) (by kernel_rfl) (fun _ _ _ h => h) (Or.inl ⟨by rfl, fun w hSw => by (try dsimp only at hSw); go_simp; (try with_reducible rfl)⟩) (by assumption) ?_
      try simp only [Act.put, List.setIfInBounds_toArray, List.set_cons_zero, List.set_cons_succ, List.getElem_toArray, List.getElem_cons_zero, List.getElem_cons_succ]
      refine wpAnyH_ready (rs := [13]) (by kernel_rfl) (by simp) ?_
      refine AllReadyH.cons rfl (fun K hK => ?_) AllReadyH.nil
      go_simp
      go_at_call 114; refine (sibOrder ((pn, pm), pg, pd) ((n, m), gn, d) _).mono ?_; rintro e w1 ⟨rfl, hb⟩; have HQ := Lib.hid (HB.out.drew.trans (hb.mono hwz)); have HV := Lib.hid (HW.out.drew.trans (hb.mono HW.out.size))
      go_wp2_with fail
      refine hK.out _ _ (by first | exact ⟨b0, b1, p0, p1, p2, p3, c0, c1, c2, c3⟩ | assumption | (go_split_ands; refine ⟨?_, ?_, ?_, ?_, ?_, ?_, ?_, ?_, ?_, ?_⟩ <;> (rw [hb.cell (by first | exact hwz | exact hg)]; assumption))) (fun hHeld => ?_)
      clear hK K
      try simp only [Act.put, List.setIfInBounds_toArray, List.set_cons_zero, List.set_cons_succ, List.getElem_toArray, List.getElem_cons_zero, List.getElem_cons_succ]
      refine wpAnyH_take (i := 14) (v := ?_) rfl (by kernel_rfl) (by kernel_rfl) (by kernel_rfl) (fun _ _ _ h => h) (Or.inl ⟨by rfl, fun w hSw => by (try dsimp only at hSw); go_simp; (try with_reducible rfl)⟩) (by assumption) ?_
      try simp only [Act.put, List.setIfInBounds_toArray, List.set_cons_zero, List.set_cons_succ, List.getElem_toArray, List.getElem_cons_zero, List.getElem_cons_succ]
      refine wpAnyH_done (by kernel_rfl) ?_ _
      go_wp2
      go_roundw
      case rel => exact ⟨j + 1, by omega, by go_num, HR.out, HQ.out⟩
      case measure => go_light; simp [intOf]; omega

def WfDots (s : List Sib) : Prop := ∀ x ∈ s, (Lit.int .i64 x.1.1).wf = true
theorem all_step {l : List (Int × Int)} {s : List Sib} {k : Nat} (hk : k < s.length) (u : ∀ x ∈ s.take k, sibOk l x = true) (h : sibOk l s[k] = true) : ∀ x ∈ s.take (k + 1), sibOk l x = true := by
  intro x hx
  rw [List.take_succ_eq_append_getElem hk] at hx
  rcases List.mem_append.1 hx with hx | hx
  · exact u x hx
  · simp at hx; rw [hx]; exact h
theorem setB_inc {l : List (Int × Int)} {s : List Sib} (hr : rightB l = true) (h8 : s.length ≤ 8) (hu : ∀ x ∈ s, sibOk l x = true) : setB l s = decide (Inc s) := by
  unfold setB
  by_cases h : Inc s
  · rw [decide_eq_true h, decide_eq_true ⟨hr, h8, hu, h⟩]
  · rw [decide_eq_false h, decide_eq_false (fun q => h q.2.2.2)]
set_option maxRecDepth 100000 in
set_option maxHeartbeats 2000000 in
theorem impl_setRight (a b : Option Addr) (cap cap' : Nat) (l : List (Int × Int)) (s : List Sib) (w : World) (hl : l.length ≤ maxLen) (hs : s.length ≤ maxLen) (hd : SmallData s) (hwd : WfDots s) (h : MarksAt w a l) (h' : SibsAt w b s) :
    Calls Try.prog 66 #[.agg #[.slice a l.length cap, .slice b s.length cap']] w fun e w' => e = .returned (.bool (setB l s)) ∧ Below w.heap.size w w' := by
  have H := Lib.hid h
  have H' := Lib.hid h'
  have HD := Lib.hid hd
  have hsm := hs
  unfold maxLen at hsm
  have HF := Lib.hid hwd
  clear h h' hd hwd
  have hb0 := Lib.hid (step_alloc w (.cells #[.slice a l.length cap, .slice b s.length cap'] 33))
  cases hr : rightB l
  · have HR := Lib.hid (not_right (s := s) hr)
    go_enter Try.func66, Try.ntmps66
    go_wp2_with (go_at_call 95; refine (seenRight a cap l _ hl (H.out.mono hb0.out)).mono ?_; rintro e w1 ⟨rfl, hb⟩; rw [hr]; have HB1 := Lib.hid (hb0.out.trans (hb.mono (by simp))))
    go_ret
    exact ⟨ret_bool HR.out.symm, HB1.out⟩
  by_cases h8 : s.length ≤ 8
  rotate_left
  · have h8' : (8 : Int) < (s.length : Int) := by omega
    have HR := Lib.hid (not_short (l := l) h8)
    go_enter Try.func66, Try.ntmps66
    go_wp2_with (go_at_call 95; refine (seenRight a cap l _ hl (H.out.mono hb0.out)).mono ?_; rintro e w1 ⟨rfl, hb⟩; rw [hr]; have HB1 := Lib.hid (hb0.out.trans (hb.mono (by simp))); have hc := hb.cell (p := ⟨w.heap.size, 1, none⟩) (by simp))
    go_ret
    exact ⟨ret_bool HR.out.symm, HB1.out⟩
  have h8' : (s.length : Int) ≤ 8 := by omega
  go_enter Try.func66, Try.ntmps66
  go_wp2_with (go_at_call 95; refine (seenRight a cap l _ hl (H.out.mono hb0.out)).mono ?_; rintro e w1 ⟨rfl, hb⟩; rw [hr]; have HB1 := Lib.hid ((Below.refl _ (w.alloc (.cells #[.slice a l.length cap, .slice b s.length cap'] 33))).trans hb); have hc := hb.cell (p := ⟨w.heap.size, 1, none⟩) (by simp))
  clear hc hb
  go_loopw [18] (fun i wr => ∃ (k : Nat), k ≤ s.length ∧ i = .int .i64 k ∧ (∀ x ∈ s.take k, sibOk l x = true) ∧ Below (w.heap.size + 1) (w.alloc (.cells #[.slice a l.length cap, .slice b s.length cap'] 33)) wr) (fun i _ => s.length - (intOf i).toNat)
  case atStart => exact ⟨0, Nat.zero_le _, rfl, fun x hx => by simp at hx, by have := HB1.out; simpa using this⟩
  case round =>
    obtain ⟨k, hk, rfl, hu, hbel⟩ := hrel
    have HU := Lib.hid hu
    have HB := Lib.hid hbel
    have HW := Lib.hid (hb0.out.trans (hbel.mono (by simp)))
    have hwz : w.heap.size < wr.heap.size := by have := hbel.size; simp at this; omega
    have b0 : wr.cell? ⟨w.heap.size, 0, none⟩ = some (.slice a l.length cap) := (hbel.cell (p := ⟨w.heap.size, 0, none⟩) (by simp)).trans (by rw [World.cell?_alloc_mark]; rfl)
    have b1 : wr.cell? ⟨w.heap.size, 1, none⟩ = some (.slice b s.length cap') := (hbel.cell (p := ⟨w.heap.size, 1, none⟩) (by simp)).trans (by rw [World.cell?_alloc_mark]; rfl)
    clear hu hbel HB1
    by_cases hlt : k < s.length
    rotate_left
    · have HR := Lib.hid (setB_inc hr h8 (fun x hx => HU.out x (by rw [List.take_of_length_le (by omega)]; exact hx)))
      go_wp2_with fail
      refine (sortedSibs b s.length cap' _).mono ?_
      rintro e w1 ⟨rfl, hb1⟩
      have HV := Lib.hid (HW.out.trans (hb1.mono HW.out.size))
      clear hb1
      go_wp2_with fail
      refine (right_ b cap' s _ hs (H'.out.mono HV.out)).mono ?_
      rintro e w2 ⟨rfl, hb2⟩
      have HV2 := Lib.hid (HV.out.trans (hb2.mono HV.out.size))
      clear hb2
      go_wp2
      go_ret
      exact ⟨ret_bool HR.out.symm, HV2.out⟩
    obtain ⟨g, off, rfl, hg, c0, c1, c2, c3⟩ := (H'.out.mono HW.out).cells hlt
    have hsz := HD.out s[k] (List.getElem_mem hlt)
    have hwf := HF.out s[k] (List.getElem_mem hlt)
    obtain ⟨x, hx⟩ : ∃ x, s[k] = x := ⟨_, rfl⟩
    rw [hx] at c0 c1 c2 c3 hsz hwf
    have HE := Lib.hid hx
    clear hx
    obtain ⟨⟨n, m⟩, gn, d⟩ := x
    dsimp only at c0 c1 c2 c3 hsz hwf
    have HX := Lib.hid (HW.out.alloc HW.out.size (.cells #[.int .i64 n, .int .i64 m, .bool gn, .string d] 97))
    have HY := Lib.hid (HB.out.alloc (show w.heap.size + 1 ≤ wr.heap.size by omega) (.cells #[.int .i64 n, .int .i64 m, .bool gn, .string d] 97))
    cases hhas : hasB l (n, m)
    · have HR := Lib.hid (not_ok hlt (ok_has (l := l) (by rw [HE.out]; exact hhas)))
      go_wp2_with fail
      refine (impl_seenHas a cap l (n, m) _ hl hwf (H.out.mono HX.out)).mono ?_
      rintro e w1 ⟨rfl, hb⟩
      rw [hhas]
      have HV := Lib.hid (HX.out.trans (hb.mono HX.out.size))
      clear hb
      go_wp2
      go_ret
      exact ⟨ret_bool HR.out.symm, HV.out⟩
    cases hcont : contB d gn
    · have HR := Lib.hid (not_ok hlt (ok_cont (l := l) (by rw [HE.out]; exact hcont)))
      go_wp2_with fail
      refine (impl_seenHas a cap l (n, m) _ hl hwf (H.out.mono HX.out)).mono ?_
      rintro e w1 ⟨rfl, hb⟩
      rw [hhas]
      have HV := Lib.hid (HX.out.trans (hb.mono HX.out.size))
      obtain ⟨hc, _⟩ := bcell hb
      clear hb
      go_wp2_with (go_at_call 97; refine (contentRight d gn _ hsz).mono ?_; rintro e w2 ⟨rfl, rfl⟩; rw [hcont])
      go_ret
      exact ⟨ret_bool HR.out.symm, HV.out⟩
    · have HR := Lib.hid (all_step hlt HU.out (ok_yes (l := l) (by rw [HE.out]; exact hhas) (by rw [HE.out]; exact hcont)))
      go_wp2_with fail
      refine (impl_seenHas a cap l (n, m) _ hl hwf (H.out.mono HX.out)).mono ?_
      rintro e w1 ⟨rfl, hb⟩
      rw [hhas]
      have HV := Lib.hid (HY.out.trans (hb.mono (by simp; omega)))
      obtain ⟨hc, _⟩ := bcell hb
      clear hb
      go_wp2_with (go_at_call 97; refine (contentRight d gn _ hsz).mono ?_; rintro e w2 ⟨rfl, rfl⟩; rw [hcont])
      clear hc
      go_roundw
      case rel => exact ⟨k + 1, by omega, by go_num, HR.out, HV.out⟩
      case measure => go_light; simp [intOf]; omega
end Go.Proofs.Ytloenigleamcoaa.Sb

set_option linter.unusedSimpArgs false
set_option linter.unusedVariables false
namespace Go.Proofs.Ytloenigleamcoaa.Sb
open Go.RowKit Go.Proofs.Ytloenigleamcoaa.Mk Go.Proofs.Ytloenigleamcoaa.Nu Go.Proofs.Ytloenigleamcoaa.Ge Go.Proofs.Ytloenigleamcoaa.Pn Go.Proofs.Ytloenigleamcoaa.Se Go.Proofs.Ytloenigleamcoaa.Rw

theorem cut_end {s : ByteArray} {a : Int} (h : (cutT s (readN s a)).2.2 = 0) : ∃ m : Nat, (cutT s (readN s a)).2.1 = (m : Int) ∧ m ≤ s.size := by
  rcases readN_cases s a with h5 | ⟨n, a4, h5⟩
  · obtain ⟨c, hc, hr⟩ := readN_bad s _ h5
    rw [hr, cut_bad s 0 0 c hc] at h; exact absurd h hc
  obtain ⟨m, hm, hm2⟩ := readN_at s a (by rw [h5])
  rw [h5] at hm h ⊢
  simp only at hm
  subst hm
  by_cases hn : n < 0 ∨ 8000 < n
  · rw [cut_range s n _ hn] at h; cases h
  obtain ⟨k, rfl⟩ : ∃ k : Nat, n = (k : Int) := ⟨n.toNat, by omega⟩
  by_cases hk : m + k ≤ s.size
  · rw [cut_ok s k m (by omega) hk]
    exact ⟨m + k, by simp only; omega, hk⟩
  · rw [cut_short s k m (by omega) (by omega)] at h; cases h
def AtIn (t : ByteArray) (st : Int × Bool) : Prop := ∃ n : Nat, st.1 = (n : Int) ∧ n ≤ t.size
theorem numR_in {t : ByteArray} {st : Int × Bool} (h : AtIn t st) : AtIn t (numR t st).2 := by
  unfold numR
  split
  · exact h
  · split
    · rename_i h0
      exact readN_at t st.1 h0
    · exact h
theorem textR_in {t : ByteArray} {st : Int × Bool} (h : AtIn t st) : AtIn t (textR t st).2 := by
  unfold textR
  split
  · exact h
  · split
    · rename_i h0
      exact cut_end h0
    · exact h
theorem textR_len {t : ByteArray} (st : Int × Bool) (h : t.size ≤ 8000) : (textR t st).1.size ≤ 8000 := by
  unfold textR
  split
  · exact Nat.zero_le _
  · split
    · unfold cutT
      split
      · exact Nat.zero_le _
      · split
        · exact Nat.zero_le _
        · split
          · exact Nat.zero_le _
          · rw [ByteArray.size_extract]; omega
    · exact Nat.zero_le _
/-- the model's way through a body -/
theorem rd_chain {t : ByteArray} {x1 x2 x3 x4 x6 : Int} {ky : ByteArray} {q1 q2 q3 q4 q5 q6 : Int × Bool} (h1 : numR t (0, false) = (x1, q1)) (h2 : numR t q1 = (x2, q2)) (h3 : numR t q2 = (x3, q3)) (h4 : numR t q3 = (x4, q4)) (h5 : textR t q4 = (ky, q5)) (h6 : numR t q5 = (x6, q6))
    {m : MsgD} {e : Int} (h : rdM t 0 = some (m, e)) : q6.2 = false ∧ m = ⟨x1, x2, x3, x4, ky, x6, m.l, m.s⟩ ∧ setAt t q6.1 = some ((m.l, m.s), e) := by
  obtain ⟨a1, a2, a3, a4, a5, a6, r1, r2, r3, r4, r5, r6, r7⟩ := rdM_inv h
  rw [numR_ok r1] at h1
  simp only [Prod.mk.injEq] at h1
  obtain ⟨rfl, rfl⟩ := h1
  rw [numR_ok r2] at h2
  simp only [Prod.mk.injEq] at h2
  obtain ⟨rfl, rfl⟩ := h2
  rw [numR_ok r3] at h3
  simp only [Prod.mk.injEq] at h3
  obtain ⟨rfl, rfl⟩ := h3
  rw [numR_ok r4] at h4
  simp only [Prod.mk.injEq] at h4
  obtain ⟨rfl, rfl⟩ := h4
  rw [textR_ok r5] at h5
  simp only [Prod.mk.injEq] at h5
  obtain ⟨rfl, rfl⟩ := h5
  rw [numR_ok r6] at h6
  simp only [Prod.mk.injEq] at h6
  obtain ⟨rfl, rfl⟩ := h6
  exact ⟨rfl, rfl, r7⟩
theorem spec_reads {s : ByteArray} {x1 x2 x3 x4 x6 : Int} {ky : ByteArray} {q1 q2 q3 q4 q5 q6 : Int × Bool} (h1 : numR (unT s) (0, false) = (x1, q1)) (h2 : numR (unT s) q1 = (x2, q2)) (h3 : numR (unT s) q2 = (x3, q3)) (h4 : numR (unT s) q3 = (x4, q4)) (h5 : textR (unT s) q4 = (ky, q5)) (h6 : numR (unT s) q5 = (x6, q6))
    {n : Nat} (hn : q6.1 = (n : Int)) {m : MsgD} (h : mr s = some m) :
    q6.2 = false ∧ srC ((unT s).extract n (unT s).size) = 0 ∧ msgBytes x1 x2 x3 x4 ky x6 (srL ((unT s).extract n (unT s).size)) (srS ((unT s).extract n (unT s).size)) = s := by
  obtain ⟨hu, hr, hm⟩ := mr_some h
  obtain ⟨e1, e2, e3⟩ := rd_chain h1 h2 h3 h4 h5 h6 hr
  rw [hn] at e3
  obtain ⟨e4, e5, e6⟩ := set_tail e3 (unT_size s)
  refine ⟨e1, e6, ?_⟩
  rw [e4, e5]
  have := mr_bytes h
  rw [e2] at this
  exact this
theorem spec_no {s : ByteArray} {x1 x2 x3 x4 x6 : Int} {ky : ByteArray} {q1 q2 q3 q4 q5 q6 : Int × Bool} (h1 : numR (unT s) (0, false) = (x1, q1)) (h2 : numR (unT s) q1 = (x2, q2)) (h3 : numR (unT s) q2 = (x3, q3)) (h4 : numR (unT s) q3 = (x4, q4)) (h5 : textR (unT s) q4 = (ky, q5)) (h6 : numR (unT s) q5 = (x6, q6))
    {n : Nat} (hn : q6.1 = (n : Int)) (h : ¬ (q6.2 = false ∧ srC ((unT s).extract n (unT s).size) = 0 ∧ msgBytes x1 x2 x3 x4 ky x6 (srL ((unT s).extract n (unT s).size)) (srS ((unT s).extract n (unT s).size)) = s)) : mr s = none := by
  cases hm : mr s with
  | none => rfl
  | some m => exact absurd (spec_reads h1 h2 h3 h4 h5 h6 hn hm) h
theorem set_small {l : List (Int × Int)} {s : List Sib} (h : setB l s = true) : SmallData s ∧ WfDots s := by
  obtain ⟨_, _, h3, _⟩ := setOk_of h
  refine ⟨fun x hx => ?_, fun x hx => ?_⟩
  · have := (ok_dot (h3 x hx)).2
    unfold maxLen; omega
  · have := (dotB_iff x.1).1 (ok_dot (h3 x hx)).1
    exact WalkArith.wf_i64 (by omega)
theorem sr_small (s : ByteArray) : SmallData (srS s) := by
  by_cases h8 : 8000 < s.size
  · rw [(sr_size h8).2.1]; intro x hx; cases hx
  · cases h : setAt s 0 with
    | none => rw [(sr_none h8 h).2.1]; intro x hx; cases hx
    | some p =>
      obtain ⟨⟨l, ss⟩, e⟩ := p
      by_cases he : e = (s.size : Int)
      · rw [(sr_yes h8 h he).2.1]
        obtain ⟨_, _, _, hs⟩ := setAt_inv h
        exact (set_small hs).1
      · rw [(sr_more h8 h he).2.1]; intro x hx; cases hx
theorem read_no {s : ByteArray} {w w' : World} {e : Ending} {c : Int} (h : mr s = none) (hc : mrC s = c) (hg : GivesMO w 0 0 0 0 ⟨#[]⟩ 0 [] [] c e w') :
    GivesMO w (mrK s) (mrF s) (mrT s) (mrQ s) (mrY s) (mrO s) (mrL s) (mrS s) (mrC s) e w' := by
  rw [hc]
  unfold mrK mrF mrT mrQ mrY mrO mrL mrS
  rw [h]
  exact hg
theorem read_yes {s : ByteArray} {w w' : World} {e : Ending} {m : MsgD} (h : mr s = some m) (hg : GivesMO w m.kd m.fr m.tq m.rq m.ky m.ow m.l m.s 0 e w') :
    GivesMO w (mrK s) (mrF s) (mrT s) (mrQ s) (mrY s) (mrO s) (mrL s) (mrS s) (mrC s) e w' := by
  have hu := (mr_some h).1
  unfold mrK mrF mrT mrQ mrY mrO mrL mrS mrC
  rw [h, if_pos hu]
  exact hg
theorem mrC_bad {s : ByteArray} (h : unC s ≠ 0) : mr s = none ∧ mrC s = unC s := ⟨if_neg h, if_neg h⟩
theorem mrC_three {s : ByteArray} (hu : unC s = 0) (h : mr s = none) : mrC s = 3 := by unfold mrC; rw [if_pos hu, h]
end Go.Proofs.Ytloenigleamcoaa.Sb

set_option linter.unusedSimpArgs false
set_option linter.unusedVariables false
namespace Go.Proofs.Ytloenigleamcoaa.Mk
open Go.RowKit

set_option maxRecDepth 100000 in
set_option maxHeartbeats 1000000 in
theorem spec_seenHas (a : Option Addr) (cap : Nat) (l : List (Int × Int)) (m : Int × Int) (w : World) (hl : l.length ≤ maxLen) (h : MarksAt w a l) :
    Calls Try.prog 58 #[.slice a l.length cap, mv m] w fun e w' => e = .returned (.bool (hasB l m)) ∧ Below w.heap.size w w' := by
  have H := Lib.hid h
  clear h
  cases hr : rightB l
  · have HH := Lib.hid (show hasB l m = false by unfold hasB; rw [hr]; rfl)
    obtain ⟨x, y⟩ := m
    unfold mv
    go_enter Try.func58, Try.ntmps58
    go_wp2_with fail
    refine wp_region_held_drew (S := fun w' => w'.cell? ⟨w.heap.size, 0, none⟩ = some (.int .i64 x) ∧ w'.cell? ⟨w.heap.size, 1, none⟩ = some (.int .i64 y) ∧ w.heap.size < w'.heap.size) (by kernel_rfl) (by first | (simp [*]; done) | (go_split_ands; refine ⟨?_, ?_, ?_⟩; (rw [hb.cell (by first | (simp; done) | assumption)]; assumption); (rw [hb.cell (by first | (simp; done) | assumption)]; assumption); (have := hb.size; simp at this ⊢; omega))) (fun hHeld => ?_)
    refine wpAnyH_take (i := 0) (v := ?_) rfl (by kernel_rfl) (by kernel_rfl) (by kernel_rfl) (fun _ _ _ h => h) (Or.inl ⟨by rfl, fun w hSw => by (try dsimp only at hSw); go_simp; (try with_reducible rfl)⟩) (by assumption) ?_
    try simp only [Act.put, List.setIfInBounds_toArray, List.set_cons_zero, List.set_cons_succ, List.getElem_toArray, List.getElem_cons_zero, List.getElem_cons_succ]
    refine wpAnyH_ready (rs := [1]) (by kernel_rfl) (by simp) ?_
    refine AllReadyH.cons rfl (fun K hK => ?_) AllReadyH.nil
    go_simp
    go_at_call 57; refine (spec_seenRight a cap l _ hl (H.out.mono ((Below.refl _ w).alloc (Nat.le_refl _) _).drew)).mono ?_; rintro e w1 ⟨rfl, hb⟩; have HB1 := Lib.hid (((Below.refl _ w).alloc (Nat.le_refl _) _).drew.trans (hb.mono (by simp)))
    go_wp2_with fail
    refine hK.out _ _ (by first | (simp [*]; done) | (go_split_ands; refine ⟨?_, ?_, ?_⟩; (rw [hb.cell (by first | (simp; done) | assumption)]; assumption); (rw [hb.cell (by first | (simp; done) | assumption)]; assumption); (have := hb.size; simp at this ⊢; omega))) (fun hHeld => ?_)
    clear hK K
    try simp only [Act.put, List.setIfInBounds_toArray, List.set_cons_zero, List.set_cons_succ, List.getElem_toArray, List.getElem_cons_zero, List.getElem_cons_succ]
    refine wpAnyH_take (i := 2) (v := ?_) rfl (by kernel_rfl) (by kernel_rfl) (by kernel_rfl) (fun _ _ _ h => h) (Or.inl ⟨by rfl, fun w hSw => by (try dsimp only at hSw); go_simp; (try with_reducible rfl)⟩) (by assumption) ?_
    try simp only [Act.put, List.setIfInBounds_toArray, List.set_cons_zero, List.set_cons_succ, List.getElem_toArray, List.getElem_cons_zero, List.getElem_cons_succ]
    refine wpAnyH_take (i := 3) (v := undef) rfl (by kernel_rfl) (by kernel_rfl) (by kernel_rfl) (fun _ _ _ h => h) (Or.inr ⟨by rfl, rfl⟩) (by assumption) ?_
    try simp only [Act.put, List.setIfInBounds_toArray, List.set_cons_zero, List.set_cons_succ, List.getElem_toArray, List.getElem_cons_zero, List.getElem_cons_succ]
    refine wpAnyH_take (i := 4) (v := undef) rfl (by kernel_rfl) (by kernel_rfl) (by kernel_rfl) (fun _ _ _ h => h) (Or.inr ⟨by rfl, rfl⟩) (by assumption) ?_
    try simp only [Act.put, List.setIfInBounds_toArray, List.set_cons_zero, List.set_cons_succ, List.getElem_toArray, List.getElem_cons_zero, List.getElem_cons_succ]
    refine wpAnyH_take (i := 5) (v := ?_) rfl (by kernel_rfl) (by kernel_rfl) (by kernel_rfl) (fun _ _ _ h => h) (Or.inl ⟨by rfl, fun w hSw => by (try dsimp only at hSw); go_simp; (try with_reducible rfl)⟩) (by assumption) ?_
    try simp only [Act.put, List.setIfInBounds_toArray, List.set_cons_zero, List.set_cons_succ, List.getElem_toArray, List.getElem_cons_zero, List.getElem_cons_succ]
    refine wpAnyH_take (i := 6) (v := ?_) rfl (by kernel_rfl) (by kernel_rfl) (by kernel_rfl) (fun _ _ _ h => h) (Or.inl ⟨by rfl, fun w hSw => by (try dsimp only at hSw); go_simp; (try with_reducible rfl)⟩) (by assumption) ?_
    try simp only [Act.put, List.setIfInBounds_toArray, List.set_cons_zero, List.set_cons_succ, List.getElem_toArray, List.getElem_cons_zero, List.getElem_cons_succ]
    refine wpAnyH_take (i := 7) (v := undef) rfl (by kernel_rfl) (by kernel_rfl) (by kernel_rfl) (fun _ _ _ h => h) (Or.inr ⟨by rfl, rfl⟩) (by assumption) ?_
    try simp only [Act.put, List.setIfInBounds_toArray, List.set_cons_zero, List.set_cons_succ, List.getElem_toArray, List.getElem_cons_zero, List.getElem_cons_succ]
    refine wpAnyH_take (i := 8) (v := undef) rfl (by kernel_rfl) (by kernel_rfl) (by kernel_rfl) (fun _ _ _ h => h) (Or.inr ⟨by rfl, rfl⟩) (by assumption) ?_
    try simp only [Act.put, List.setIfInBounds_toArray, List.set_cons_zero, List.set_cons_succ, List.getElem_toArray, List.getElem_cons_zero, List.getElem_cons_succ]
    refine wpAnyH_take (i := 9) (v := undef) rfl (by kernel_rfl) (by kernel_rfl) (by kernel_rfl) (fun _ _ _ h => h) (Or.inr ⟨by rfl, rfl⟩) (by assumption) ?_
    try simp only [Act.put, List.setIfInBounds_toArray, List.set_cons_zero, List.set_cons_succ, List.getElem_toArray, List.getElem_cons_zero, List.getElem_cons_succ]
    refine wpAnyH_take (i := 10) (v := undef) rfl (by kernel_rfl) (by kernel_rfl) (by kernel_rfl) (fun _ _ _ h => h) (Or.inr ⟨by rfl, rfl⟩) (by assumption) ?_
    try simp only [Act.put, List.setIfInBounds_toArray, List.set_cons_zero, List.set_cons_succ, List.getElem_toArray, List.getElem_cons_zero, List.getElem_cons_succ]
    refine wpAnyH_take (i := 11) (v := undef) rfl (by kernel_rfl) (by kernel_rfl) (by kernel_rfl) (fun _ _ _ h => h) (Or.inr ⟨by rfl, rfl⟩) (by assumption) ?_
    try simp only [Act.put, List.setIfInBounds_toArray, List.set_cons_zero, List.set_cons_succ, List.getElem_toArray, List.getElem_cons_zero, List.getElem_cons_succ]
    refine wpAnyH_take (i := 12) (v := undef) rfl (by kernel_rfl) (by kernel_rfl) (by kernel_rfl) (fun _ _ _ h => h) (Or.inr ⟨by rfl, rfl⟩) (by assumption) ?_
    try simp only [Act.put, List.setIfInBounds_toArray, List.set_cons_zero, List.set_cons_succ, List.getElem_toArray, List.getElem_cons_zero, List.getElem_cons_succ]
    refine wpAnyH_take (i := 13) (v := undef) rfl (by kernel_rfl) (by kernel_rfl) (by kernel_rfl) (fun _ _ _ h => h) (Or.inr ⟨by rfl, rfl⟩) (by assumption) ?_
    try simp only [Act.put, List.setIfInBounds_toArray, List.set_cons_zero, List.set_cons_succ, List.getElem_toArray, List.getElem_cons_zero, List.getElem_cons_succ]
    refine wpAnyH_take (i := 14) (v := ?_) rfl (by kernel_rfl) (by kernel_rfl) (by kernel_rfl) (fun _ _ _ h => h) (Or.inl ⟨by rfl, fun w hSw => by (try dsimp only at hSw); go_simp; (try with_reducible rfl)⟩) (by assumption) ?_
    try simp only [Act.put, List.setIfInBounds_toArray, List.set_cons_zero, List.set_cons_succ, List.getElem_toArray, List.getElem_cons_zero, List.getElem_cons_succ]
    refine wpAnyH_take (i := 15) (v := ?_) rfl (by kernel_rfl) (by kernel_rfl) (by kernel_rfl) (fun _ _ _ h => h) (Or.inl ⟨by rfl, fun w hSw => by (try dsimp only at hSw); go_simp; (try with_reducible rfl)⟩) (by assumption) ?_
    try simp only [Act.put, List.setIfInBounds_toArray, List.set_cons_zero, List.set_cons_succ, List.getElem_toArray, List.getElem_cons_zero, List.getElem_cons_succ]
    refine wpAnyH_done (by kernel_rfl) ?_ _
    go_wp2
    go_ret
    exact ⟨ret_bool HH.out.symm, HB1.out⟩
  cases hd : dotB m
  · have HH := Lib.hid (show hasB l m = false by unfold hasB; rw [hd]; simp)
    obtain ⟨x, y⟩ := m
    unfold mv
    go_enter Try.func58, Try.ntmps58
    go_wp2_with fail
    refine wp_region_held_drew (S := fun w' => w'.cell? ⟨w.heap.size, 0, none⟩ = some (.int .i64 x) ∧ w'.cell? ⟨w.heap.size, 1, none⟩ = some (.int .i64 y) ∧ w.heap.size < w'.heap.size) (by kernel_rfl) (by first | (simp [*]; done) | (go_split_ands; refine ⟨?_, ?_, ?_⟩; (rw [hb.cell (by first | (simp; done) | assumption)]; assumption); (rw [hb.cell (by first | (simp; done) | assumption)]; assumption); (have := hb.size; simp at this ⊢; omega))) (fun hHeld => ?_)
    refine wpAnyH_take (i := 0) (v := ?_) rfl (by kernel_rfl) (by kernel_rfl) (by kernel_rfl) (fun _ _ _ h => h) (Or.inl ⟨by rfl, fun w hSw => by (try dsimp only at hSw); go_simp; (try with_reducible rfl)⟩) (by assumption) ?_
    try simp only [Act.put, List.setIfInBounds_toArray, List.set_cons_zero, List.set_cons_succ, List.getElem_toArray, List.getElem_cons_zero, List.getElem_cons_succ]
    refine wpAnyH_ready (rs := [1]) (by kernel_rfl) (by simp) ?_
    refine AllReadyH.cons rfl (fun K hK => ?_) AllReadyH.nil
    go_simp
    go_at_call 57; refine (spec_seenRight a cap l _ hl (H.out.mono ((Below.refl _ w).alloc (Nat.le_refl _) _).drew)).mono ?_; rintro e w1 ⟨rfl, hb⟩; have HB1 := Lib.hid (((Below.refl _ w).alloc (Nat.le_refl _) _).drew.trans (hb.mono (by simp)))
    go_wp2_with fail
    refine hK.out _ _ (by first | (simp [*]; done) | (go_split_ands; refine ⟨?_, ?_, ?_⟩; (rw [hb.cell (by first | (simp; done) | assumption)]; assumption); (rw [hb.cell (by first | (simp; done) | assumption)]; assumption); (have := hb.size; simp at this ⊢; omega))) (fun hHeld => ?_)
    clear hK K
    try simp only [Act.put, List.setIfInBounds_toArray, List.set_cons_zero, List.set_cons_succ, List.getElem_toArray, List.getElem_cons_zero, List.getElem_cons_succ]
    refine wpAnyH_take (i := 2) (v := ?_) rfl (by kernel_rfl) (by kernel_rfl) (by kernel_rfl) (fun _ _ _ h => h) (Or.inl ⟨by rfl, fun w hSw => by (try dsimp only at hSw); go_simp; (try with_reducible rfl)⟩) (by assumption) ?_
    try simp only [Act.put, List.setIfInBounds_toArray, List.set_cons_zero, List.set_cons_succ, List.getElem_toArray, List.getElem_cons_zero, List.getElem_cons_succ]
    refine wpAnyH_take (i := 3) (v := ?_) rfl (by kernel_rfl) (by kernel_rfl) (by kernel_rfl) (fun _ _ _ h => h) (Or.inl ⟨by rfl, fun w hSw => by (try dsimp only at hSw); go_simp; (try with_reducible rfl)⟩) (by assumption) ?_
    try simp only [Act.put, List.setIfInBounds_toArray, List.set_cons_zero, List.set_cons_succ, List.getElem_toArray, List.getElem_cons_zero, List.getElem_cons_succ]
    refine wpAnyH_ready (rs := [4]) (by kernel_rfl) (by simp) ?_
    refine AllReadyH.cons rfl (fun K hK => ?_) AllReadyH.nil
    go_simp
    go_at_call 90; refine (spec_dot (x, y) _).mono ?_; rintro e w2 ⟨rfl, hb⟩; have HB2 := Lib.hid (HB1.out.trans (hb.mono HB1.out.size))
    go_wp2_with fail
    refine hK.out _ _ (by first | (simp [*]; done) | (go_split_ands; refine ⟨?_, ?_, ?_⟩; (rw [hb.cell (by first | (simp; done) | assumption)]; assumption); (rw [hb.cell (by first | (simp; done) | assumption)]; assumption); (have := hb.size; simp at this ⊢; omega))) (fun hHeld => ?_)
    clear hK K
    try simp only [Act.put, List.setIfInBounds_toArray, List.set_cons_zero, List.set_cons_succ, List.getElem_toArray, List.getElem_cons_zero, List.getElem_cons_succ]
    refine wpAnyH_take (i := 5) (v := ?_) rfl (by kernel_rfl) (by kernel_rfl) (by kernel_rfl) (fun _ _ _ h => h) (Or.inl ⟨by rfl, fun w hSw => by (try dsimp only at hSw); go_simp; (try with_reducible rfl)⟩) (by assumption) ?_
    try simp only [Act.put, List.setIfInBounds_toArray, List.set_cons_zero, List.set_cons_succ, List.getElem_toArray, List.getElem_cons_zero, List.getElem_cons_succ]
    refine wpAnyH_take (i := 6) (v := ?_) rfl (by kernel_rfl) (by kernel_rfl) (by kernel_rfl) (fun _ _ _ h => h) (Or.inl ⟨by rfl, fun w hSw => by (try dsimp only at hSw); go_simp; (try with_reducible rfl)⟩) (by assumption) ?_
    try simp only [Act.put, List.setIfInBounds_toArray, List.set_cons_zero, List.set_cons_succ, List.getElem_toArray, List.getElem_cons_zero, List.getElem_cons_succ]
    refine wpAnyH_take (i := 7) (v := undef) rfl (by kernel_rfl) (by kernel_rfl) (by kernel_rfl) (fun _ _ _ h => h) (Or.inr ⟨by rfl, rfl⟩) (by assumption) ?_
    try simp only [Act.put, List.setIfInBounds_toArray, List.set_cons_zero, List.set_cons_succ, List.getElem_toArray, List.getElem_cons_zero, List.getElem_cons_succ]
    refine wpAnyH_take (i := 8) (v := undef) rfl (by kernel_rfl) (by kernel_rfl) (by kernel_rfl) (fun _ _ _ h => h) (Or.inr ⟨by rfl, rfl⟩) (by assumption) ?_
    try simp only [Act.put, List.setIfInBounds_toArray, List.set_cons_zero, List.set_cons_succ, List.getElem_toArray, List.getElem_cons_zero, List.getElem_cons_succ]
    refine wpAnyH_take (i := 9) (v := undef) rfl (by kernel_rfl) (by kernel_rfl) (by kernel_rfl) (fun _ _ _ h => h) (Or.inr ⟨by rfl, rfl⟩) (by assumption) ?_
    try simp only [Act.put, List.setIfInBounds_toArray, List.set_cons_zero, List.set_cons_succ, List.getElem_toArray, List.getElem_cons_zero, List.getElem_cons_succ]
    refine wpAnyH_take (i := 10) (v := undef) rfl (by kernel_rfl) (by kernel_rfl) (by kernel_rfl) (fun _ _ _ h => h) (Or.inr ⟨by rfl, rfl⟩) (by assumption) ?_
    try simp only [Act.put, List.setIfInBounds_toArray, List.set_cons_zero, List.set_cons_succ, List.getElem_toArray, List.getElem_cons_zero, List.getElem_cons_succ]
    refine wpAnyH_take (i := 11) (v := undef) rfl (by kernel_rfl) (by kernel_rfl) (by kernel_rfl) (fun _ _ _ h => h) (Or.inr ⟨by rfl, rfl⟩) (by assumption) ?_
    try simp only [Act.put, List.setIfInBounds_toArray, List.set_cons_zero, List.set_cons_succ, List.getElem_toArray, List.getElem_cons_zero, List.getElem_cons_succ]
    refine wpAnyH_take (i := 12) (v := undef) rfl (by kernel_rfl) (by kernel_rfl) (by kernel_rfl) (fun _ _ _ h => h) (Or.inr ⟨by rfl, rfl⟩) (by assumption) ?_
    try simp only [Act.put, List.setIfInBounds_toArray, List.set_cons_zero, List.set_cons_succ, List.getElem_toArray, List.getElem_cons_zero, List.getElem_cons_succ]
    refine wpAnyH_take (i := 13) (v := undef) rfl (by kernel_rfl) (by kernel_rfl) (by kernel_rfl) (fun _ _ _ h => h) (Or.inr ⟨by rfl, rfl⟩) (by assumption) ?_
    try simp only [Act.put, List.setIfInBounds_toArray, List.set_cons_zero, List.set_cons_succ, List.getElem_toArray, List.getElem_cons_zero, List.getElem_cons_succ]
    refine wpAnyH_take (i := 14) (v := ?_) rfl (by kernel_rfl) (by kernel_rfl) (by kernel_rfl) (fun _ _ _ h => h) (Or.inl ⟨by rfl, fun w hSw => by (try dsimp only at hSw); go_simp; (try with_reducible rfl)⟩) (by assumption) ?_
    try simp only [Act.put, List.setIfInBounds_toArray, List.set_cons_zero, List.set_cons_succ, List.getElem_toArray, List.getElem_cons_zero, List.getElem_cons_succ]
    refine wpAnyH_take (i := 15) (v := ?_) rfl (by kernel_rfl) (by kernel_rfl) (by kernel_rfl) (fun _ _ _ h => h) (Or.inl ⟨by rfl, fun w hSw => by (try dsimp only at hSw); go_simp; (try with_reducible rfl)⟩) (by assumption) ?_
    try simp only [Act.put, List.setIfInBounds_toArray, List.set_cons_zero, List.set_cons_succ, List.getElem_toArray, List.getElem_cons_zero, List.getElem_cons_succ]
    refine wpAnyH_done (by kernel_rfl) ?_ _
    go_wp2
    go_ret
    exact ⟨ret_bool HH.out.symm, HB2.out⟩
  · have HH := Lib.hid (show hasB l m = decide (m.2 ≤ ofL l m.1) by unfold hasB; rw [hd, hr]; simp)
    obtain ⟨x, y⟩ := m
    unfold mv
    go_enter Try.func58, Try.ntmps58
    go_wp2_with fail
    refine wp_region_held_drew (S := fun w' => w'.cell? ⟨w.heap.size, 0, none⟩ = some (.int .i64 x) ∧ w'.cell? ⟨w.heap.size, 1, none⟩ = some (.int .i64 y) ∧ w.heap.size < w'.heap.size) (by kernel_rfl) (by first | assumption | (simp [*]; done) | (go_split_ands; refine ⟨?_, ?_, ?_⟩; (rw [hb.cell (by first | (simp; done) | assumption)]; assumption); (rw [hb.cell (by first | (simp; done) | assumption)]; assumption); (have := hb.size; simp at this ⊢; omega))) (fun hHeld => ?_)
    refine wpAnyH_take (i := 0) (v := ?_) rfl (by kernel_rfl) (by kernel_rfl) (by kernel_rfl) (fun _ _ _ h => h) (Or.inl ⟨by rfl, fun w hSw => by (try dsimp only at hSw); go_simp; (try with_reducible rfl)⟩) (by assumption) ?_
    try simp only [Act.put, List.setIfInBounds_toArray, List.set_cons_zero, List.set_cons_succ, List.getElem_toArray, List.getElem_cons_zero, List.getElem_cons_succ]
    refine wpAnyH_ready (rs := [1]) (by kernel_rfl) (by simp) ?_
    refine AllReadyH.cons rfl (fun K hK => ?_) AllReadyH.nil
    go_simp
    go_at_call 57; refine (spec_seenRight a cap l _ hl (H.out.mono ((Below.refl _ w).alloc (Nat.le_refl _) _).drew)).mono ?_; rintro e w1 ⟨rfl, hb⟩; have HB1 := Lib.hid (((Below.refl _ w).alloc (Nat.le_refl _) _).drew.trans (hb.mono (by simp)))
    go_wp2_with fail
    refine hK.out _ _ (by first | assumption | (simp [*]; done) | (go_split_ands; refine ⟨?_, ?_, ?_⟩; (rw [hb.cell (by first | (simp; done) | assumption)]; assumption); (rw [hb.cell (by first | (simp; done) | assumption)]; assumption); (have := hb.size; simp at this ⊢; omega))) (fun hHeld => ?_)
    clear hK K
    try simp only [Act.put, List.setIfInBounds_toArray, List.set_cons_zero, List.set_cons_succ, List.getElem_toArray, List.getElem_cons_zero, List.getElem_cons_succ]
    refine wpAnyH_take (i := 2) (v := ?_) rfl (by kernel_rfl) (by kernel_rfl) (by kernel_rfl) (fun _ _ _ h => h) (Or.inl ⟨by rfl, fun w hSw => by (try dsimp only at hSw); go_simp; (try with_reducible rfl)⟩) (by assumption) ?_
    try simp only [Act.put, List.setIfInBounds_toArray, List.set_cons_zero, List.set_cons_succ, List.getElem_toArray, List.getElem_cons_zero, List.getElem_cons_succ]
    refine wpAnyH_take (i := 3) (v := ?_) rfl (by kernel_rfl) (by kernel_rfl) (by kernel_rfl) (fun _ _ _ h => h) (Or.inl ⟨by rfl, fun w hSw => by (try dsimp only at hSw); go_simp; (try with_reducible rfl)⟩) (by assumption) ?_
    try simp only [Act.put, List.setIfInBounds_toArray, List.set_cons_zero, List.set_cons_succ, List.getElem_toArray, List.getElem_cons_zero, List.getElem_cons_succ]
    refine wpAnyH_ready (rs := [4]) (by kernel_rfl) (by simp) ?_
    refine AllReadyH.cons rfl (fun K hK => ?_) AllReadyH.nil
    go_simp
    go_at_call 90; refine (spec_dot (x, y) _).mono ?_; rintro e w2 ⟨rfl, hb⟩; have HB2 := Lib.hid (HB1.out.trans (hb.mono HB1.out.size))
    go_wp2_with fail
    refine hK.out _ _ (by first | assumption | (simp [*]; done) | (go_split_ands; refine ⟨?_, ?_, ?_⟩; (rw [hb.cell (by first | (simp; done) | assumption)]; assumption); (rw [hb.cell (by first | (simp; done) | assumption)]; assumption); (have := hb.size; simp at this ⊢; omega))) (fun hHeld => ?_)
    clear hK K
    try simp only [Act.put, List.setIfInBounds_toArray, List.set_cons_zero, List.set_cons_succ, List.getElem_toArray, List.getElem_cons_zero, List.getElem_cons_succ]
    refine wpAnyH_take (i := 5) (v := ?_) rfl (by kernel_rfl) (by kernel_rfl) (by kernel_rfl) (fun _ _ _ h => h) (Or.inl ⟨by rfl, fun w hSw => by (try dsimp only at hSw); go_simp; (try with_reducible rfl)⟩) (by assumption) ?_
    try simp only [Act.put, List.setIfInBounds_toArray, List.set_cons_zero, List.set_cons_succ, List.getElem_toArray, List.getElem_cons_zero, List.getElem_cons_succ]
    refine wpAnyH_take (i := 6) (v := ?_) rfl (by kernel_rfl) (by kernel_rfl) (by kernel_rfl) (fun _ _ _ h => h) (Or.inl ⟨by rfl, fun w hSw => by (try dsimp only at hSw); go_simp; (try with_reducible rfl)⟩) (by assumption) ?_
    try simp only [Act.put, List.setIfInBounds_toArray, List.set_cons_zero, List.set_cons_succ, List.getElem_toArray, List.getElem_cons_zero, List.getElem_cons_succ]
    refine wpAnyH_take (i := 7) (v := ?_) rfl (by kernel_rfl) (by kernel_rfl) (by kernel_rfl) (fun _ _ _ h => h) (Or.inl ⟨by rfl, fun w hSw => by (try dsimp only at hSw); go_simp; (try with_reducible rfl)⟩) (by assumption) ?_
    try simp only [Act.put, List.setIfInBounds_toArray, List.set_cons_zero, List.set_cons_succ, List.getElem_toArray, List.getElem_cons_zero, List.getElem_cons_succ]
    refine wpAnyH_take (i := 8) (v := ?_) rfl (by kernel_rfl) (by kernel_rfl) (by kernel_rfl) (fun _ _ _ h => h) (Or.inl ⟨by rfl, fun w hSw => by (try dsimp only at hSw); go_simp; (try with_reducible rfl)⟩) (by assumption) ?_
    try simp only [Act.put, List.setIfInBounds_toArray, List.set_cons_zero, List.set_cons_succ, List.getElem_toArray, List.getElem_cons_zero, List.getElem_cons_succ]
    refine wpAnyH_take (i := 9) (v := ?_) rfl (by kernel_rfl) (by kernel_rfl) (by kernel_rfl) (fun _ _ _ h => h) (Or.inl ⟨by rfl, fun w hSw => by (try dsimp only at hSw); go_simp; (try with_reducible rfl)⟩) (by assumption) ?_
    try simp only [Act.put, List.setIfInBounds_toArray, List.set_cons_zero, List.set_cons_succ, List.getElem_toArray, List.getElem_cons_zero, List.getElem_cons_succ]
    refine wpAnyH_take (i := 10) (v := ?_) rfl (by kernel_rfl) (by kernel_rfl) (by kernel_rfl) (fun _ _ _ h => h) (Or.inl ⟨by rfl, fun w hSw => by (try dsimp only at hSw); go_simp; (try with_reducible rfl)⟩) (by assumption) ?_
    try simp only [Act.put, List.setIfInBounds_toArray, List.set_cons_zero, List.set_cons_succ, List.getElem_toArray, List.getElem_cons_zero, List.getElem_cons_succ]
    refine wpAnyH_take (i := 11) (v := ?_) rfl (by kernel_rfl) (by kernel_rfl) (by kernel_rfl) (fun _ _ _ h => h) (Or.inl ⟨by rfl, fun w hSw => by (try dsimp only at hSw); go_simp; (try with_reducible rfl)⟩) (by assumption) ?_
    try simp only [Act.put, List.setIfInBounds_toArray, List.set_cons_zero, List.set_cons_succ, List.getElem_toArray, List.getElem_cons_zero, List.getElem_cons_succ]
    refine wpAnyH_ready (rs := [12]) (by kernel_rfl) (by simp) ?_
    refine AllReadyH.cons rfl (fun K hK => ?_) AllReadyH.nil
    go_simp
    go_at_call 91; refine (spec_of a cap l x _ hl (H.out.mono HB2.out)).mono ?_; rintro e w3 ⟨rfl, rfl⟩
    go_wp2_with fail
    refine hK.out _ _ (by first | assumption | (simp [*]; done) | (go_split_ands; refine ⟨?_, ?_, ?_⟩; (rw [hb.cell (by first | (simp; done) | assumption)]; assumption); (rw [hb.cell (by first | (simp; done) | assumption)]; assumption); (have := hb.size; simp at this ⊢; omega))) (fun hHeld => ?_)
    clear hK K
    try simp only [Act.put, List.setIfInBounds_toArray, List.set_cons_zero, List.set_cons_succ, List.getElem_toArray, List.getElem_cons_zero, List.getElem_cons_succ]
    refine wpAnyH_take (i := 13) (v := ?_) rfl (by kernel_rfl) (by kernel_rfl) (by kernel_rfl) (fun _ _ _ h => h) (Or.inl ⟨by rfl, fun w hSw => by (try dsimp only at hSw); go_simp; (try with_reducible rfl)⟩) (by assumption) ?_
    try simp only [Act.put, List.setIfInBounds_toArray, List.set_cons_zero, List.set_cons_succ, List.getElem_toArray, List.getElem_cons_zero, List.getElem_cons_succ]
    refine wpAnyH_take (i := 14) (v := ?_) rfl (by kernel_rfl) (by kernel_rfl) (by kernel_rfl) (fun _ _ _ h => h) (Or.inl ⟨by rfl, fun w hSw => by (try dsimp only at hSw); go_simp; (try with_reducible rfl)⟩) (by assumption) ?_
    try simp only [Act.put, List.setIfInBounds_toArray, List.set_cons_zero, List.set_cons_succ, List.getElem_toArray, List.getElem_cons_zero, List.getElem_cons_succ]
    refine wpAnyH_take (i := 15) (v := ?_) rfl (by kernel_rfl) (by kernel_rfl) (by kernel_rfl) (fun _ _ _ h => h) (Or.inl ⟨by rfl, fun w hSw => by (try dsimp only at hSw); go_simp; (try with_reducible rfl)⟩) (by assumption) ?_
    try simp only [Act.put, List.setIfInBounds_toArray, List.set_cons_zero, List.set_cons_succ, List.getElem_toArray, List.getElem_cons_zero, List.getElem_cons_succ]
    refine wpAnyH_done (by kernel_rfl) ?_ _
    go_wp2
    go_ret
    exact ⟨ret_bool HH.out.symm, HB2.out⟩
end Go.Proofs.Ytloenigleamcoaa.Mk

set_option linter.unusedSimpArgs false
set_option linter.unusedVariables false
namespace Go.Proofs.Ytloenigleamcoaa.Sb
open Go.RowKit Go.Proofs.Ytloenigleamcoaa.Mk Go.Proofs.Ytloenigleamcoaa.Rw

set_option maxRecDepth 100000 in
set_option maxHeartbeats 4000000 in
theorem spec_setRight (a b : Option Addr) (cap cap' : Nat) (l : List (Int × Int)) (s : List Sib) (w : World) (hl : l.length ≤ maxLen) (hs : s.length ≤ maxLen) (hd : SmallData s) (h : MarksAt w a l) (h' : SibsAt w b s) :
    Calls Try.prog 30 #[.agg #[.slice a l.length cap, .slice b s.length cap']] w fun e w' => e = .returned (.bool (setB l s)) ∧ Below w.heap.size w w' := by
  have H := Lib.hid h
  have H' := Lib.hid h'
  have HD := Lib.hid hd
  have hsm := hs
  unfold maxLen at hsm
  clear h h' hd
  have hb0 := Lib.hid (step_alloc w (.cells #[.slice a l.length cap, .slice b s.length cap'] 33))
  cases hr : rightB l
  · have HR := Lib.hid (not_right (s := s) hr)
    go_enter Try.func30, Try.ntmps30
    go_wp2_with (go_at_call 57; refine (spec_seenRight a cap l _ hl (H.out.mono hb0.out)).mono ?_; rintro e w1 ⟨rfl, hb⟩; rw [hr]; have HB1 := Lib.hid (hb0.out.trans (hb.mono (by simp))))
    go_ret
    exact ⟨ret_bool HR.out.symm, HB1.out⟩
  by_cases h8 : s.length ≤ 8
  rotate_left
  · have h8' : (8 : Int) < (s.length : Int) := by omega
    have HR := Lib.hid (not_short (l := l) h8)
    go_enter Try.func30, Try.ntmps30
    go_wp2_with (go_at_call 57; refine (spec_seenRight a cap l _ hl (H.out.mono hb0.out)).mono ?_; rintro e w1 ⟨rfl, hb⟩; rw [hr]; have HB1 := Lib.hid (hb0.out.trans (hb.mono (by simp))); have hc := hb.cell (p := ⟨w.heap.size, 1, none⟩) (by simp))
    go_ret
    exact ⟨ret_bool HR.out.symm, HB1.out⟩
  have h8' : (s.length : Int) ≤ 8 := by omega
  go_enter Try.func30, Try.ntmps30
  go_wp2_with (go_at_call 57; refine (spec_seenRight a cap l _ hl (H.out.mono hb0.out)).mono ?_; rintro e w1 ⟨rfl, hb⟩; rw [hr]; have HB1 := Lib.hid ((Below.refl _ (w.alloc (.cells #[.slice a l.length cap, .slice b s.length cap'] 33))).trans hb); have hc := hb.cell (p := ⟨w.heap.size, 1, none⟩) (by simp))
  clear hc hb
  go_loopw [3] (fun i wr => ∃ (k : Nat), k ≤ s.length ∧ i = .int .i64 k ∧ UpTo l s k ∧ Below (w.heap.size + 1) (w.alloc (.cells #[.slice a l.length cap, .slice b s.length cap'] 33)) wr) (fun i _ => s.length - (intOf i).toNat)
  case atStart => exact ⟨0, Nat.zero_le _, rfl, UpTo.zero _ _, by have := HB1.out; simpa using this⟩
  case round =>
    obtain ⟨k, hk, rfl, hu, hbel⟩ := hrel
    have HU := Lib.hid hu
    have HB := Lib.hid hbel
    have HW := Lib.hid (hb0.out.trans (hbel.mono (by simp)))
    have hwz : w.heap.size < wr.heap.size := by have := hbel.size; simp at this; omega
    have b0 : wr.cell? ⟨w.heap.size, 0, none⟩ = some (.slice a l.length cap) := (hbel.cell (p := ⟨w.heap.size, 0, none⟩) (by simp)).trans (by rw [World.cell?_alloc_mark]; rfl)
    have b1 : wr.cell? ⟨w.heap.size, 1, none⟩ = some (.slice b s.length cap') := (hbel.cell (p := ⟨w.heap.size, 1, none⟩) (by simp)).trans (by rw [World.cell?_alloc_mark]; rfl)
    clear hu hbel HB1
    by_cases hlt : k < s.length
    rotate_left
    · have HR := Lib.hid (HU.out.all (by omega) hr h8)
      go_wp2
      go_ret
      exact ⟨ret_bool HR.out.symm, HW.out⟩
    obtain ⟨g, off, rfl, hg, c0, c1, c2, c3⟩ := (H'.out.mono HW.out).cells hlt
    have hsz := HD.out s[k] (List.getElem_mem hlt)
    obtain ⟨x, hx⟩ : ∃ x, s[k] = x := ⟨_, rfl⟩
    rw [hx] at c0 c1 c2 c3 hsz
    have HE := Lib.hid hx
    clear hx
    obtain ⟨⟨n, m⟩, gn, d⟩ := x
    dsimp only at c0 c1 c2 c3 hsz
    have HX := Lib.hid ((HW.out.alloc HW.out.size (.cells #[.int .i64 n, .int .i64 m, .bool gn, .string d] 97)).drew)
    have HY := Lib.hid ((HB.out.alloc (show w.heap.size + 1 ≤ wr.heap.size by omega) (.cells #[.int .i64 n, .int .i64 m, .bool gn, .string d] 97)).drew)
    have ya : w.heap.size < (wr.alloc (.cells #[.int .i64 n, .int .i64 m, .bool gn, .string d] 97)).heap.size := by simp; omega
    have yb : wr.heap.size < (wr.alloc (.cells #[.int .i64 n, .int .i64 m, .bool gn, .string d] 97)).heap.size := by simp
    have yc : g < (wr.alloc (.cells #[.int .i64 n, .int .i64 m, .bool gn, .string d] 97)).heap.size := by simp; omega
    have hsa := step_alloc wr (.cells #[.int .i64 n, .int .i64 m, .bool gn, .string d] 97)
    have q0 := (hsa.cell (p := ⟨w.heap.size, 0, none⟩) hwz).trans b0
    have q1 := (hsa.cell (p := ⟨w.heap.size, 1, none⟩) hwz).trans b1
    have x0 : (wr.alloc (.cells #[.int .i64 n, .int .i64 m, .bool gn, .string d] 97)).cell? ⟨wr.heap.size, 0, none⟩ = some (.int .i64 n) := by rw [World.cell?_alloc_mark]; rfl
    have x1 : (wr.alloc (.cells #[.int .i64 n, .int .i64 m, .bool gn, .string d] 97)).cell? ⟨wr.heap.size, 1, none⟩ = some (.int .i64 m) := by rw [World.cell?_alloc_mark]; rfl
    have x2 : (wr.alloc (.cells #[.int .i64 n, .int .i64 m, .bool gn, .string d] 97)).cell? ⟨wr.heap.size, 2, none⟩ = some (.bool gn) := by rw [World.cell?_alloc_mark]; rfl
    have x3 : (wr.alloc (.cells #[.int .i64 n, .int .i64 m, .bool gn, .string d] 97)).cell? ⟨wr.heap.size, 3, none⟩ = some (.string d) := by rw [World.cell?_alloc_mark]; rfl
    unfold maxLen at hsz
    cases hhas : hasB l (n, m)
    · have HR := Lib.hid (not_ok hlt (ok_has (l := l) (by rw [HE.out]; exact hhas)))
      go_wp2_with fail
      generalize wr.alloc (.cells #[.int .i64 n, .int .i64 m, .bool gn, .string d] 97) = wa at q0 q1 x0 x1 x2 x3 HX HY ya yb yc ⊢
      refine wp_region_held_drew (S := fun w' => w'.cell? ⟨w.heap.size, 0, none⟩ = some (.slice a l.length cap) ∧ w'.cell? ⟨w.heap.size, 1, none⟩ = some (.slice (some ⟨g, off, none⟩) s.length cap') ∧ w'.cell? ⟨wr.heap.size, 0, none⟩ = some (.int .i64 n) ∧ w'.cell? ⟨wr.heap.size, 1, none⟩ = some (.int .i64 m) ∧ w'.cell? ⟨wr.heap.size, 2, none⟩ = some (.bool gn) ∧ w'.cell? ⟨wr.heap.size, 3, none⟩ = some (.string d)) (by kernel_rfl) (by first | exact ⟨q0, q1, x0, x1, x2, x3⟩ | assumption | (go_split_ands; refine ⟨?_, ?_, ?_, ?_, ?_, ?_⟩ <;> (rw [hb.cell (by first | exact ya1 | exact yb1 | exact yc1 | exact ya | exact yb | exact yc)]; assumption))) (fun hHeld => ?_)
      refine wpAnyH_take (i := 0) (v := ?_) rfl (by kernel_rfl) (by kernel_rfl) (by kernel_rfl) (fun _ _ _ h => h) (Or.inl ⟨by rfl, fun w hSw => by (try dsimp only at hSw); go_simp; (try with_reducible rfl)⟩) (by assumption) ?_
      try simp only [Act.put, List.setIfInBounds_toArray, List.set_cons_zero, List.set_cons_succ, List.getElem_toArray, List.getElem_cons_zero, List.getElem_cons_succ]
      refine wpAnyH_take (i := 1) (v := ?_) rfl (by kernel_rfl) (by kernel_rfl) (by kernel_rfl) (fun _ _ _ h => h) (Or.inl ⟨by rfl, fun w hSw => by (try dsimp only at hSw); go_simp; (try with_reducible rfl)⟩) (by assumption) ?_
      try simp only [Act.put, List.setIfInBounds_toArray, List.set_cons_zero, List.set_cons_succ, List.getElem_toArray, List.getElem_cons_zero, List.getElem_cons_succ]
      refine wpAnyH_take (i := 2) (v := ?_) rfl (by kernel_rfl) (by kernel_rfl) (by kernel_rfl) (fun _ _ _ h => h) (Or.inl ⟨by rfl, fun w hSw => by (try dsimp only at hSw); go_simp; (try with_reducible rfl)⟩) (by assumption) ?_
      try simp only [Act.put, List.setIfInBounds_toArray, List.set_cons_zero, List.set_cons_succ, List.getElem_toArray, List.getElem_cons_zero, List.getElem_cons_succ]
      refine wpAnyH_take (i := 3) (v := ?_) rfl (by kernel_rfl) (by kernel_rfl) (by kernel_rfl) (fun _ _ _ h => h) (Or.inl ⟨by rfl, fun w hSw => by (try dsimp only at hSw); go_simp; (try with_reducible rfl)⟩) (by assumption) ?_
      try simp only [Act.put, List.setIfInBounds_toArray, List.set_cons_zero, List.set_cons_succ, List.getElem_toArray, List.getElem_cons_zero, List.getElem_cons_succ]
      refine wpAnyH_ready (rs := [4]) (by kernel_rfl) (by simp) ?_
      refine AllReadyH.cons rfl (fun K hK => ?_) AllReadyH.nil
      go_simp
      go_at_call 58; refine (spec_seenHas a cap l (n, m) _ hl (H.out.mono HX.out)).mono ?_; rintro e w1 ⟨rfl, hb⟩; rw [hhas]; have HB1 := Lib.hid (HX.out.trans (hb.mono HX.out.size)); have HC1 := Lib.hid (HY.out.trans (hb.mono ya)); have hz1 : wa.heap.size ≤ w1.heap.size := hb.size; have ya1 := Nat.lt_of_lt_of_le ya hz1; have yb1 := Nat.lt_of_lt_of_le yb hz1; have yc1 := Nat.lt_of_lt_of_le yc hz1
      go_wp2_with fail
      refine hK.out _ _ (by first | exact ⟨q0, q1, x0, x1, x2, x3⟩ | assumption | (go_split_ands; refine ⟨?_, ?_, ?_, ?_, ?_, ?_⟩ <;> (rw [hb.cell (by first | exact ya1 | exact yb1 | exact yc1 | exact ya | exact yb | exact yc)]; assumption))) (fun hHeld => ?_)
      clear hK K
      try simp only [Act.put, List.setIfInBounds_toArray, List.set_cons_zero, List.set_cons_succ, List.getElem_toArray, List.getElem_cons_zero, List.getElem_cons_succ]
      refine wpAnyH_take (i := 5) (v := ?_) rfl (by kernel_rfl) (by kernel_rfl) (by kernel_rfl) (fun _ _ _ h => h) (Or.inl ⟨by rfl, fun w hSw => by (try dsimp only at hSw); go_simp; (try with_reducible rfl)⟩) (by assumption) ?_
      try simp only [Act.put, List.setIfInBounds_toArray, List.set_cons_zero, List.set_cons_succ, List.getElem_toArray, List.getElem_cons_zero, List.getElem_cons_succ]
      refine wpAnyH_take (i := 6) (v := ?_) rfl (by kernel_rfl) (by kernel_rfl) (by kernel_rfl) (fun _ _ _ h => h) (Or.inl ⟨by rfl, fun w hSw => by (try dsimp only at hSw); go_simp; (try with_reducible rfl)⟩) (by assumption) ?_
      try simp only [Act.put, List.setIfInBounds_toArray, List.set_cons_zero, List.set_cons_succ, List.getElem_toArray, List.getElem_cons_zero, List.getElem_cons_succ]
      refine wpAnyH_take (i := 7) (v := undef) rfl (by kernel_rfl) (by kernel_rfl) (by kernel_rfl) (fun _ _ _ h => h) (Or.inr ⟨by rfl, rfl⟩) (by assumption) ?_
      try simp only [Act.put, List.setIfInBounds_toArray, List.set_cons_zero, List.set_cons_succ, List.getElem_toArray, List.getElem_cons_zero, List.getElem_cons_succ]
      refine wpAnyH_take (i := 8) (v := undef) rfl (by kernel_rfl) (by kernel_rfl) (by kernel_rfl) (fun _ _ _ h => h) (Or.inr ⟨by rfl, rfl⟩) (by assumption) ?_
      try simp only [Act.put, List.setIfInBounds_toArray, List.set_cons_zero, List.set_cons_succ, List.getElem_toArray, List.getElem_cons_zero, List.getElem_cons_succ]
      refine wpAnyH_take (i := 9) (v := undef) rfl (by kernel_rfl) (by kernel_rfl) (by kernel_rfl) (fun _ _ _ h => h) (Or.inr ⟨by rfl, rfl⟩) (by assumption) ?_
      try simp only [Act.put, List.setIfInBounds_toArray, List.set_cons_zero, List.set_cons_succ, List.getElem_toArray, List.getElem_cons_zero, List.getElem_cons_succ]
      refine wpAnyH_take (i := 10) (v := undef) rfl (by kernel_rfl) (by kernel_rfl) (by kernel_rfl) (fun _ _ _ h => h) (Or.inr ⟨by rfl, rfl⟩) (by assumption) ?_
      try simp only [Act.put, List.setIfInBounds_toArray, List.set_cons_zero, List.set_cons_succ, List.getElem_toArray, List.getElem_cons_zero, List.getElem_cons_succ]
      refine wpAnyH_take (i := 11) (v := ?_) rfl (by kernel_rfl) (by kernel_rfl) (by kernel_rfl) (fun _ _ _ h => h) (Or.inl ⟨by rfl, fun w hSw => by (try dsimp only at hSw); go_simp; (try with_reducible rfl)⟩) (by assumption) ?_
      try simp only [Act.put, List.setIfInBounds_toArray, List.set_cons_zero, List.set_cons_succ, List.getElem_toArray, List.getElem_cons_zero, List.getElem_cons_succ]
      refine wpAnyH_take (i := 12) (v := ?_) rfl (by kernel_rfl) (by kernel_rfl) (by kernel_rfl) (fun _ _ _ h => h) (Or.inl ⟨by rfl, fun w hSw => by (try dsimp only at hSw); go_simp; (try with_reducible rfl)⟩) (by assumption) ?_
      try simp only [Act.put, List.setIfInBounds_toArray, List.set_cons_zero, List.set_cons_succ, List.getElem_toArray, List.getElem_cons_zero, List.getElem_cons_succ]
      refine wpAnyH_take (i := 13) (v := undef) rfl (by kernel_rfl) (by kernel_rfl) (by kernel_rfl) (fun _ _ _ h => h) (Or.inr ⟨by rfl, rfl⟩) (by assumption) ?_
      try simp only [Act.put, List.setIfInBounds_toArray, List.set_cons_zero, List.set_cons_succ, List.getElem_toArray, List.getElem_cons_zero, List.getElem_cons_succ]
      refine wpAnyH_take (i := 14) (v := undef) rfl (by kernel_rfl) (by kernel_rfl) (by kernel_rfl) (fun _ _ _ h => h) (Or.inr ⟨by rfl, rfl⟩) (by assumption) ?_
      try simp only [Act.put, List.setIfInBounds_toArray, List.set_cons_zero, List.set_cons_succ, List.getElem_toArray, List.getElem_cons_zero, List.getElem_cons_succ]
      refine wpAnyH_take (i := 15) (v := undef) rfl (by kernel_rfl) (by kernel_rfl) (by kernel_rfl) (fun _ _ _ h => h) (Or.inr ⟨by rfl, rfl⟩) (by assumption) ?_
      try simp only [Act.put, List.setIfInBounds_toArray, List.set_cons_zero, List.set_cons_succ, List.getElem_toArray, List.getElem_cons_zero, List.getElem_cons_succ]
      refine wpAnyH_take (i := 16) (v := undef) rfl (by kernel_rfl) (by kernel_rfl) (by kernel_rfl) (fun _ _ _ h => h) (Or.inr ⟨by rfl, rfl⟩) (by assumption) ?_
      try simp only [Act.put, List.setIfInBounds_toArray, List.set_cons_zero, List.set_cons_succ, List.getElem_toArray, List.getElem_cons_zero, List.getElem_cons_succ]
      refine wpAnyH_take (i := 17) (v := undef) rfl (by kernel_rfl) (by kernel_rfl) (by kernel_rfl) (fun _ _ _ h => h) (Or.inr ⟨by rfl, rfl⟩) (by assumption) ?_
      try simp only [Act.put, List.setIfInBounds_toArray, List.set_cons_zero, List.set_cons_succ, List.getElem_toArray, List.getElem_cons_zero, List.getElem_cons_succ]
      refine wpAnyH_take (i := 18) (v := undef) rfl (by kernel_rfl) (by kernel_rfl) (by kernel_rfl) (fun _ _ _ h => h) (Or.inr ⟨by rfl, rfl⟩) (by assumption) ?_
      try simp only [Act.put, List.setIfInBounds_toArray, List.set_cons_zero, List.set_cons_succ, List.getElem_toArray, List.getElem_cons_zero, List.getElem_cons_succ]
      refine wpAnyH_take (i := 19) (v := undef) rfl (by kernel_rfl) (by kernel_rfl) (by kernel_rfl) (fun _ _ _ h => h) (Or.inr ⟨by rfl, rfl⟩) (by assumption) ?_
      try simp only [Act.put, List.setIfInBounds_toArray, List.set_cons_zero, List.set_cons_succ, List.getElem_toArray, List.getElem_cons_zero, List.getElem_cons_succ]
      refine wpAnyH_take (i := 20) (v := ?_) rfl (by kernel_rfl) (by kernel_rfl) (by kernel_rfl) (fun _ _ _ h => h) (Or.inl ⟨by rfl, fun w hSw => by (try dsimp only at hSw); go_simp; (try with_reducible rfl)⟩) (by assumption) ?_
      try simp only [Act.put, List.setIfInBounds_toArray, List.set_cons_zero, List.set_cons_succ, List.getElem_toArray, List.getElem_cons_zero, List.getElem_cons_succ]
      refine wpAnyH_take (i := 21) (v := ?_) rfl (by kernel_rfl) (by kernel_rfl) (by kernel_rfl) (fun _ _ _ h => h) (Or.inl ⟨by rfl, fun w hSw => by (try dsimp only at hSw); go_simp; (try with_reducible rfl)⟩) (by assumption) ?_
      try simp only [Act.put, List.setIfInBounds_toArray, List.set_cons_zero, List.set_cons_succ, List.getElem_toArray, List.getElem_cons_zero, List.getElem_cons_succ]
      refine wpAnyH_take (i := 22) (v := undef) rfl (by kernel_rfl) (by kernel_rfl) (by kernel_rfl) (fun _ _ _ h => h) (Or.inr ⟨by rfl, rfl⟩) (by assumption) ?_
      try simp only [Act.put, List.setIfInBounds_toArray, List.set_cons_zero, List.set_cons_succ, List.getElem_toArray, List.getElem_cons_zero, List.getElem_cons_succ]
      refine wpAnyH_take (i := 23) (v := undef) rfl (by kernel_rfl) (by kernel_rfl) (by kernel_rfl) (fun _ _ _ h => h) (Or.inr ⟨by rfl, rfl⟩) (by assumption) ?_
      try simp only [Act.put, List.setIfInBounds_toArray, List.set_cons_zero, List.set_cons_succ, List.getElem_toArray, List.getElem_cons_zero, List.getElem_cons_succ]
      refine wpAnyH_take (i := 24) (v := undef) rfl (by kernel_rfl) (by kernel_rfl) (by kernel_rfl) (fun _ _ _ h => h) (Or.inr ⟨by rfl, rfl⟩) (by assumption) ?_
      try simp only [Act.put, List.setIfInBounds_toArray, List.set_cons_zero, List.set_cons_succ, List.getElem_toArray, List.getElem_cons_zero, List.getElem_cons_succ]
      refine wpAnyH_take (i := 25) (v := undef) rfl (by kernel_rfl) (by kernel_rfl) (by kernel_rfl) (fun _ _ _ h => h) (Or.inr ⟨by rfl, rfl⟩) (by assumption) ?_
      try simp only [Act.put, List.setIfInBounds_toArray, List.set_cons_zero, List.set_cons_succ, List.getElem_toArray, List.getElem_cons_zero, List.getElem_cons_succ]
      refine wpAnyH_take (i := 26) (v := undef) rfl (by kernel_rfl) (by kernel_rfl) (by kernel_rfl) (fun _ _ _ h => h) (Or.inr ⟨by rfl, rfl⟩) (by assumption) ?_
      try simp only [Act.put, List.setIfInBounds_toArray, List.set_cons_zero, List.set_cons_succ, List.getElem_toArray, List.getElem_cons_zero, List.getElem_cons_succ]
      refine wpAnyH_take (i := 27) (v := undef) rfl (by kernel_rfl) (by kernel_rfl) (by kernel_rfl) (fun _ _ _ h => h) (Or.inr ⟨by rfl, rfl⟩) (by assumption) ?_
      try simp only [Act.put, List.setIfInBounds_toArray, List.set_cons_zero, List.set_cons_succ, List.getElem_toArray, List.getElem_cons_zero, List.getElem_cons_succ]
      refine wpAnyH_take (i := 28) (v := undef) rfl (by kernel_rfl) (by kernel_rfl) (by kernel_rfl) (fun _ _ _ h => h) (Or.inr ⟨by rfl, rfl⟩) (by assumption) ?_
      try simp only [Act.put, List.setIfInBounds_toArray, List.set_cons_zero, List.set_cons_succ, List.getElem_toArray, List.getElem_cons_zero, List.getElem_cons_succ]
      refine wpAnyH_take (i := 29) (v := undef) rfl (by kernel_rfl) (by kernel_rfl) (by kernel_rfl) (fun _ _ _ h => h) (Or.inr ⟨by rfl, rfl⟩) (by assumption) ?_
      try simp only [Act.put, List.setIfInBounds_toArray, List.set_cons_zero, List.set_cons_succ, List.getElem_toArray, List.getElem_cons_zero, List.getElem_cons_succ]
      refine wpAnyH_take (i := 30) (v := undef) rfl (by kernel_rfl) (by kernel_rfl) (by kernel_rfl) (fun _ _ _ h => h) (Or.inr ⟨by rfl, rfl⟩) (by assumption) ?_
      try simp only [Act.put, List.setIfInBounds_toArray, List.set_cons_zero, List.set_cons_succ, List.getElem_toArray, List.getElem_cons_zero, List.getElem_cons_succ]
      refine wpAnyH_take (i := 31) (v := undef) rfl (by kernel_rfl) (by kernel_rfl) (by kernel_rfl) (fun _ _ _ h => h) (Or.inr ⟨by rfl, rfl⟩) (by assumption) ?_
      try simp only [Act.put, List.setIfInBounds_toArray, List.set_cons_zero, List.set_cons_succ, List.getElem_toArray, List.getElem_cons_zero, List.getElem_cons_succ]
      refine wpAnyH_take (i := 32) (v := undef) rfl (by kernel_rfl) (by kernel_rfl) (by kernel_rfl) (fun _ _ _ h => h) (Or.inr ⟨by rfl, rfl⟩) (by assumption) ?_
      try simp only [Act.put, List.setIfInBounds_toArray, List.set_cons_zero, List.set_cons_succ, List.getElem_toArray, List.getElem_cons_zero, List.getElem_cons_succ]
      refine wpAnyH_take (i := 33) (v := undef) rfl (by kernel_rfl) (by kernel_rfl) (by kernel_rfl) (fun _ _ _ h => h) (Or.inr ⟨by rfl, rfl⟩) (by assumption) ?_
      try simp only [Act.put, List.setIfInBounds_toArray, List.set_cons_zero, List.set_cons_succ, List.getElem_toArray, List.getElem_cons_zero, List.getElem_cons_succ]
      refine wpAnyH_take (i := 34) (v := undef) rfl (by kernel_rfl) (by kernel_rfl) (by kernel_rfl) (fun _ _ _ h => h) (Or.inr ⟨by rfl, rfl⟩) (by assumption) ?_
      try simp only [Act.put, List.setIfInBounds_toArray, List.set_cons_zero, List.set_cons_succ, List.getElem_toArray, List.getElem_cons_zero, List.getElem_cons_succ]
      refine wpAnyH_take (i := 35) (v := undef) rfl (by kernel_rfl) (by kernel_rfl) (by kernel_rfl) (fun _ _ _ h => h) (Or.inr ⟨by rfl, rfl⟩) (by assumption) ?_
      try simp only [Act.put, List.setIfInBounds_toArray, List.set_cons_zero, List.set_cons_succ, List.getElem_toArray, List.getElem_cons_zero, List.getElem_cons_succ]
      refine wpAnyH_take (i := 36) (v := undef) rfl (by kernel_rfl) (by kernel_rfl) (by kernel_rfl) (fun _ _ _ h => h) (Or.inr ⟨by rfl, rfl⟩) (by assumption) ?_
      try simp only [Act.put, List.setIfInBounds_toArray, List.set_cons_zero, List.set_cons_succ, List.getElem_toArray, List.getElem_cons_zero, List.getElem_cons_succ]
      refine wpAnyH_take (i := 37) (v := ?_) rfl (by kernel_rfl) (by kernel_rfl) (by kernel_rfl) (fun _ _ _ h => h) (Or.inl ⟨by rfl, fun w hSw => by (try dsimp only at hSw); go_simp; (try with_reducible rfl)⟩) (by assumption) ?_
      try simp only [Act.put, List.setIfInBounds_toArray, List.set_cons_zero, List.set_cons_succ, List.getElem_toArray, List.getElem_cons_zero, List.getElem_cons_succ]
      refine wpAnyH_done (by kernel_rfl) ?_ _
      go_wp2
      go_ret
      exact ⟨ret_bool (HR.out).symm, HB1.out⟩
    by_cases h16 : d.size ≤ 16
    rotate_left
    · have h16' : decide ((16 : Int) < (d.size : Int)) = true := decide_eq_true (by omega)
      have HR := Lib.hid (not_ok hlt (ok_cont (l := l) (by rw [HE.out]; unfold contB; simp [h16])))
      go_wp2_with fail
      generalize wr.alloc (.cells #[.int .i64 n, .int .i64 m, .bool gn, .string d] 97) = wa at q0 q1 x0 x1 x2 x3 HX HY ya yb yc ⊢
      refine wp_region_held_drew (S := fun w' => w'.cell? ⟨w.heap.size, 0, none⟩ = some (.slice a l.length cap) ∧ w'.cell? ⟨w.heap.size, 1, none⟩ = some (.slice (some ⟨g, off, none⟩) s.length cap') ∧ w'.cell? ⟨wr.heap.size, 0, none⟩ = some (.int .i64 n) ∧ w'.cell? ⟨wr.heap.size, 1, none⟩ = some (.int .i64 m) ∧ w'.cell? ⟨wr.heap.size, 2, none⟩ = some (.bool gn) ∧ w'.cell? ⟨wr.heap.size, 3, none⟩ = some (.string d)) (by kernel_rfl) (by first | exact ⟨q0, q1, x0, x1, x2, x3⟩ | assumption | (go_split_ands; refine ⟨?_, ?_, ?_, ?_, ?_, ?_⟩ <;> (rw [hb.cell (by first | exact ya1 | exact yb1 | exact yc1 | exact ya | exact yb | exact yc)]; assumption))) (fun hHeld => ?_)
      refine wpAnyH_take (i := 0) (v := ?_) rfl (by kernel_rfl) (by kernel_rfl) (by kernel_rfl) (fun _ _ _ h => h) (Or.inl ⟨by rfl, fun w hSw => by (try dsimp only at hSw); go_simp; (try with_reducible rfl)⟩) (by assumption) ?_
      try simp only [Act.put, List.setIfInBounds_toArray, List.set_cons_zero, List.set_cons_succ, List.getElem_toArray, List.getElem_cons_zero, List.getElem_cons_succ]
      refine wpAnyH_take (i := 1) (v := ?_) rfl (by kernel_rfl) (by kernel_rfl) (by kernel_rfl) (fun _ _ _ h => h) (Or.inl ⟨by rfl, fun w hSw => by (try dsimp only at hSw); go_simp; (try with_reducible rfl)⟩) (by assumption) ?_
      try simp only [Act.put, List.setIfInBounds_toArray, List.set_cons_zero, List.set_cons_succ, List.getElem_toArray, List.getElem_cons_zero, List.getElem_cons_succ]
      refine wpAnyH_take (i := 2) (v := ?_) rfl (by kernel_rfl) (by kernel_rfl) (by kernel_rfl) (fun _ _ _ h => h) (Or.inl ⟨by rfl, fun w hSw => by (try dsimp only at hSw); go_simp; (try with_reducible rfl)⟩) (by assumption) ?_
      try simp only [Act.put, List.setIfInBounds_toArray, List.set_cons_zero, List.set_cons_succ, List.getElem_toArray, List.getElem_cons_zero, List.getElem_cons_succ]
      refine wpAnyH_take (i := 3) (v := ?_) rfl (by kernel_rfl) (by kernel_rfl) (by kernel_rfl) (fun _ _ _ h => h) (Or.inl ⟨by rfl, fun w hSw => by (try dsimp only at hSw); go_simp; (try with_reducible rfl)⟩) (by assumption) ?_
      try simp only [Act.put, List.setIfInBounds_toArray, List.set_cons_zero, List.set_cons_succ, List.getElem_toArray, List.getElem_cons_zero, List.getElem_cons_succ]
      refine wpAnyH_ready (rs := [4]) (by kernel_rfl) (by simp) ?_
      refine AllReadyH.cons rfl (fun K hK => ?_) AllReadyH.nil
      go_simp
      go_at_call 58; refine (spec_seenHas a cap l (n, m) _ hl (H.out.mono HX.out)).mono ?_; rintro e w1 ⟨rfl, hb⟩; rw [hhas]; have HB1 := Lib.hid (HX.out.trans (hb.mono HX.out.size)); have HC1 := Lib.hid (HY.out.trans (hb.mono ya)); have hz1 : wa.heap.size ≤ w1.heap.size := hb.size; have ya1 := Nat.lt_of_lt_of_le ya hz1; have yb1 := Nat.lt_of_lt_of_le yb hz1; have yc1 := Nat.lt_of_lt_of_le yc hz1
      go_wp2_with fail
      refine hK.out _ _ (by first | exact ⟨q0, q1, x0, x1, x2, x3⟩ | assumption | (go_split_ands; refine ⟨?_, ?_, ?_, ?_, ?_, ?_⟩ <;> (rw [hb.cell (by first | exact ya1 | exact yb1 | exact yc1 | exact ya | exact yb | exact yc)]; assumption))) (fun hHeld => ?_)
      clear hK K
      try simp only [Act.put, List.setIfInBounds_toArray, List.set_cons_zero, List.set_cons_succ, List.getElem_toArray, List.getElem_cons_zero, List.getElem_cons_succ]
      refine wpAnyH_take (i := 5) (v := ?_) rfl (by kernel_rfl) (by kernel_rfl) (by kernel_rfl) (fun _ _ _ h => h) (Or.inl ⟨by rfl, fun w hSw => by (try dsimp only at hSw); go_simp; (try with_reducible rfl)⟩) (by assumption) ?_
      try simp only [Act.put, List.setIfInBounds_toArray, List.set_cons_zero, List.set_cons_succ, List.getElem_toArray, List.getElem_cons_zero, List.getElem_cons_succ]
      refine wpAnyH_take (i := 6) (v := ?_) rfl (by kernel_rfl) (by kernel_rfl) (by kernel_rfl) (fun _ _ _ h => h) (Or.inl ⟨by rfl, fun w hSw => by (try dsimp only at hSw); go_simp; (try with_reducible rfl)⟩) (by assumption) ?_
      try simp only [Act.put, List.setIfInBounds_toArray, List.set_cons_zero, List.set_cons_succ, List.getElem_toArray, List.getElem_cons_zero, List.getElem_cons_succ]
      refine wpAnyH_take (i := 7) (v := ?_) rfl (by kernel_rfl) (by kernel_rfl) (by kernel_rfl) (fun _ _ _ h => h) (Or.inl ⟨by rfl, fun w hSw => by (try dsimp only at hSw); go_simp; (try with_reducible rfl)⟩) (by assumption) ?_
      try simp only [Act.put, List.setIfInBounds_toArray, List.set_cons_zero, List.set_cons_succ, List.getElem_toArray, List.getElem_cons_zero, List.getElem_cons_succ]
      refine wpAnyH_take (i := 8) (v := ?_) rfl (by kernel_rfl) (by kernel_rfl) (by kernel_rfl) (fun _ _ _ h => h) (Or.inl ⟨by rfl, fun w hSw => by (try dsimp only at hSw); go_simp; (try with_reducible rfl)⟩) (by assumption) ?_
      try simp only [Act.put, List.setIfInBounds_toArray, List.set_cons_zero, List.set_cons_succ, List.getElem_toArray, List.getElem_cons_zero, List.getElem_cons_succ]
      refine wpAnyH_take (i := 9) (v := ?_) rfl (by kernel_rfl) (by kernel_rfl) (by kernel_rfl) (fun _ _ _ h => h) (Or.inl ⟨by rfl, fun w hSw => by (try dsimp only at hSw); go_simp; (try with_reducible rfl)⟩) (by assumption) ?_
      try simp only [Act.put, List.setIfInBounds_toArray, List.set_cons_zero, List.set_cons_succ, List.getElem_toArray, List.getElem_cons_zero, List.getElem_cons_succ]
      refine wpAnyH_take (i := 10) (v := ?_) rfl (by kernel_rfl) (by kernel_rfl) (by kernel_rfl) (fun _ _ _ h => h) (Or.inl ⟨by rfl, fun w hSw => by (try dsimp only at hSw); go_simp; (try with_reducible rfl)⟩) (by assumption) ?_
      try simp only [Act.put, List.setIfInBounds_toArray, List.set_cons_zero, List.set_cons_succ, List.getElem_toArray, List.getElem_cons_zero, List.getElem_cons_succ]
      refine wpAnyH_take (i := 11) (v := ?_) rfl (by kernel_rfl) (by kernel_rfl) (by kernel_rfl) (fun _ _ _ h => h) (Or.inl ⟨by rfl, fun w hSw => by (try dsimp only at hSw); go_simp; (try with_reducible rfl)⟩) (by assumption) ?_
      try simp only [Act.put, List.setIfInBounds_toArray, List.set_cons_zero, List.set_cons_succ, List.getElem_toArray, List.getElem_cons_zero, List.getElem_cons_succ]
      refine wpAnyH_take (i := 12) (v := ?_) rfl (by kernel_rfl) (by kernel_rfl) (by kernel_rfl) (fun _ _ _ h => h) (Or.inl ⟨by rfl, fun w hSw => by (try dsimp only at hSw); go_simp; (try with_reducible rfl)⟩) (by assumption) ?_
      try simp only [Act.put, List.setIfInBounds_toArray, List.set_cons_zero, List.set_cons_succ, List.getElem_toArray, List.getElem_cons_zero, List.getElem_cons_succ]
      refine wpAnyH_take (i := 13) (v := undef) rfl (by kernel_rfl) (by kernel_rfl) (by kernel_rfl) (fun _ _ _ h => h) (Or.inr ⟨by rfl, rfl⟩) (by assumption) ?_
      try simp only [Act.put, List.setIfInBounds_toArray, List.set_cons_zero, List.set_cons_succ, List.getElem_toArray, List.getElem_cons_zero, List.getElem_cons_succ]
      refine wpAnyH_take (i := 14) (v := undef) rfl (by kernel_rfl) (by kernel_rfl) (by kernel_rfl) (fun _ _ _ h => h) (Or.inr ⟨by rfl, rfl⟩) (by assumption) ?_
      try simp only [Act.put, List.setIfInBounds_toArray, List.set_cons_zero, List.set_cons_succ, List.getElem_toArray, List.getElem_cons_zero, List.getElem_cons_succ]
      refine wpAnyH_take (i := 15) (v := undef) rfl (by kernel_rfl) (by kernel_rfl) (by kernel_rfl) (fun _ _ _ h => h) (Or.inr ⟨by rfl, rfl⟩) (by assumption) ?_
      try simp only [Act.put, List.setIfInBounds_toArray, List.set_cons_zero, List.set_cons_succ, List.getElem_toArray, List.getElem_cons_zero, List.getElem_cons_succ]
      refine wpAnyH_take (i := 16) (v := undef) rfl (by kernel_rfl) (by kernel_rfl) (by kernel_rfl) (fun _ _ _ h => h) (Or.inr ⟨by rfl, rfl⟩) (by assumption) ?_
      try simp only [Act.put, List.setIfInBounds_toArray, List.set_cons_zero, List.set_cons_succ, List.getElem_toArray, List.getElem_cons_zero, List.getElem_cons_succ]
      refine wpAnyH_take (i := 17) (v := undef) rfl (by kernel_rfl) (by kernel_rfl) (by kernel_rfl) (fun _ _ _ h => h) (Or.inr ⟨by rfl, rfl⟩) (by assumption) ?_
      try simp only [Act.put, List.setIfInBounds_toArray, List.set_cons_zero, List.set_cons_succ, List.getElem_toArray, List.getElem_cons_zero, List.getElem_cons_succ]
      refine wpAnyH_take (i := 18) (v := undef) rfl (by kernel_rfl) (by kernel_rfl) (by kernel_rfl) (fun _ _ _ h => h) (Or.inr ⟨by rfl, rfl⟩) (by assumption) ?_
      try simp only [Act.put, List.setIfInBounds_toArray, List.set_cons_zero, List.set_cons_succ, List.getElem_toArray, List.getElem_cons_zero, List.getElem_cons_succ]
      refine wpAnyH_take (i := 19) (v := undef) rfl (by kernel_rfl) (by kernel_rfl) (by kernel_rfl) (fun _ _ _ h => h) (Or.inr ⟨by rfl, rfl⟩) (by assumption) ?_
      try simp only [Act.put, List.setIfInBounds_toArray, List.set_cons_zero, List.set_cons_succ, List.getElem_toArray, List.getElem_cons_zero, List.getElem_cons_succ]
      refine wpAnyH_take (i := 20) (v := ?_) rfl (by kernel_rfl) (by kernel_rfl) (by kernel_rfl) (fun _ _ _ h => h) (Or.inl ⟨by rfl, fun w hSw => by (try dsimp only at hSw); go_simp; (try with_reducible rfl)⟩) (by assumption) ?_
      try simp only [Act.put, List.setIfInBounds_toArray, List.set_cons_zero, List.set_cons_succ, List.getElem_toArray, List.getElem_cons_zero, List.getElem_cons_succ]
      refine wpAnyH_take (i := 21) (v := ?_) rfl (by kernel_rfl) (by kernel_rfl) (by kernel_rfl) (fun _ _ _ h => h) (Or.inl ⟨by rfl, fun w hSw => by (try dsimp only at hSw); go_simp; (try with_reducible rfl)⟩) (by assumption) ?_
      try simp only [Act.put, List.setIfInBounds_toArray, List.set_cons_zero, List.set_cons_succ, List.getElem_toArray, List.getElem_cons_zero, List.getElem_cons_succ]
      refine wpAnyH_take (i := 22) (v := undef) rfl (by kernel_rfl) (by kernel_rfl) (by kernel_rfl) (fun _ _ _ h => h) (Or.inr ⟨by rfl, rfl⟩) (by assumption) ?_
      try simp only [Act.put, List.setIfInBounds_toArray, List.set_cons_zero, List.set_cons_succ, List.getElem_toArray, List.getElem_cons_zero, List.getElem_cons_succ]
      refine wpAnyH_take (i := 23) (v := undef) rfl (by kernel_rfl) (by kernel_rfl) (by kernel_rfl) (fun _ _ _ h => h) (Or.inr ⟨by rfl, rfl⟩) (by assumption) ?_
      try simp only [Act.put, List.setIfInBounds_toArray, List.set_cons_zero, List.set_cons_succ, List.getElem_toArray, List.getElem_cons_zero, List.getElem_cons_succ]
      refine wpAnyH_take (i := 24) (v := undef) rfl (by kernel_rfl) (by kernel_rfl) (by kernel_rfl) (fun _ _ _ h => h) (Or.inr ⟨by rfl, rfl⟩) (by assumption) ?_
      try simp only [Act.put, List.setIfInBounds_toArray, List.set_cons_zero, List.set_cons_succ, List.getElem_toArray, List.getElem_cons_zero, List.getElem_cons_succ]
      refine wpAnyH_take (i := 25) (v := undef) rfl (by kernel_rfl) (by kernel_rfl) (by kernel_rfl) (fun _ _ _ h => h) (Or.inr ⟨by rfl, rfl⟩) (by assumption) ?_
      try simp only [Act.put, List.setIfInBounds_toArray, List.set_cons_zero, List.set_cons_succ, List.getElem_toArray, List.getElem_cons_zero, List.getElem_cons_succ]
      refine wpAnyH_take (i := 26) (v := undef) rfl (by kernel_rfl) (by kernel_rfl) (by kernel_rfl) (fun _ _ _ h => h) (Or.inr ⟨by rfl, rfl⟩) (by assumption) ?_
      try simp only [Act.put, List.setIfInBounds_toArray, List.set_cons_zero, List.set_cons_succ, List.getElem_toArray, List.getElem_cons_zero, List.getElem_cons_succ]
      refine wpAnyH_take (i := 27) (v := undef) rfl (by kernel_rfl) (by kernel_rfl) (by kernel_rfl) (fun _ _ _ h => h) (Or.inr ⟨by rfl, rfl⟩) (by assumption) ?_
      try simp only [Act.put, List.setIfInBounds_toArray, List.set_cons_zero, List.set_cons_succ, List.getElem_toArray, List.getElem_cons_zero, List.getElem_cons_succ]
      refine wpAnyH_take (i := 28) (v := undef) rfl (by kernel_rfl) (by kernel_rfl) (by kernel_rfl) (fun _ _ _ h => h) (Or.inr ⟨by rfl, rfl⟩) (by assumption) ?_
      try simp only [Act.put, List.setIfInBounds_toArray, List.set_cons_zero, List.set_cons_succ, List.getElem_toArray, List.getElem_cons_zero, List.getElem_cons_succ]
      refine wpAnyH_take (i := 29) (v := undef) rfl (by kernel_rfl) (by kernel_rfl) (by kernel_rfl) (fun _ _ _ h => h) (Or.inr ⟨by rfl, rfl⟩) (by assumption) ?_
      try simp only [Act.put, List.setIfInBounds_toArray, List.set_cons_zero, List.set_cons_succ, List.getElem_toArray, List.getElem_cons_zero, List.getElem_cons_succ]
      refine wpAnyH_take (i := 30) (v := undef) rfl (by kernel_rfl) (by kernel_rfl) (by kernel_rfl) (fun _ _ _ h => h) (Or.inr ⟨by rfl, rfl⟩) (by assumption) ?_
      try simp only [Act.put, List.setIfInBounds_toArray, List.set_cons_zero, List.set_cons_succ, List.getElem_toArray, List.getElem_cons_zero, List.getElem_cons_succ]
      refine wpAnyH_take (i := 31) (v := undef) rfl (by kernel_rfl) (by kernel_rfl) (by kernel_rfl) (fun _ _ _ h => h) (Or.inr ⟨by rfl, rfl⟩) (by assumption) ?_
      try simp only [Act.put, List.setIfInBounds_toArray, List.set_cons_zero, List.set_cons_succ, List.getElem_toArray, List.getElem_cons_zero, List.getElem_cons_succ]
      refine wpAnyH_take (i := 32) (v := undef) rfl (by kernel_rfl) (by kernel_rfl) (by kernel_rfl) (fun _ _ _ h => h) (Or.inr ⟨by rfl, rfl⟩) (by assumption) ?_
      try simp only [Act.put, List.setIfInBounds_toArray, List.set_cons_zero, List.set_cons_succ, List.getElem_toArray, List.getElem_cons_zero, List.getElem_cons_succ]
      refine wpAnyH_take (i := 33) (v := undef) rfl (by kernel_rfl) (by kernel_rfl) (by kernel_rfl) (fun _ _ _ h => h) (Or.inr ⟨by rfl, rfl⟩) (by assumption) ?_
      try simp only [Act.put, List.setIfInBounds_toArray, List.set_cons_zero, List.set_cons_succ, List.getElem_toArray, List.getElem_cons_zero, List.getElem_cons_succ]
      refine wpAnyH_take (i := 34) (v := undef) rfl (by kernel_rfl) (by kernel_rfl) (by kernel_rfl) (fun _ _ _ h => h) (Or.inr ⟨by rfl, rfl⟩) (by assumption) ?_
      try simp only [Act.put, List.setIfInBounds_toArray, List.set_cons_zero, List.set_cons_succ, List.getElem_toArray, List.getElem_cons_zero, List.getElem_cons_succ]
      refine wpAnyH_take (i := 35) (v := undef) rfl (by kernel_rfl) (by kernel_rfl) (by kernel_rfl) (fun _ _ _ h => h) (Or.inr ⟨by rfl, rfl⟩) (by assumption) ?_
      try simp only [Act.put, List.setIfInBounds_toArray, List.set_cons_zero, List.set_cons_succ, List.getElem_toArray, List.getElem_cons_zero, List.getElem_cons_succ]
      refine wpAnyH_take (i := 36) (v := undef) rfl (by kernel_rfl) (by kernel_rfl) (by kernel_rfl) (fun _ _ _ h => h) (Or.inr ⟨by rfl, rfl⟩) (by assumption) ?_
      try simp only [Act.put, List.setIfInBounds_toArray, List.set_cons_zero, List.set_cons_succ, List.getElem_toArray, List.getElem_cons_zero, List.getElem_cons_succ]
      refine wpAnyH_take (i := 37) (v := ?_) rfl (by kernel_rfl) (by kernel_rfl) (by kernel_rfl) (fun _ _ _ h => h) (Or.inl ⟨by rfl, fun w hSw => by (try dsimp only at hSw); go_simp; (try with_reducible rfl)⟩) (by assumption) ?_
      try simp only [Act.put, List.setIfInBounds_toArray, List.set_cons_zero, List.set_cons_succ, List.getElem_toArray, List.getElem_cons_zero, List.getElem_cons_succ]
      refine wpAnyH_done (by kernel_rfl) ?_ _
      go_wp2
      go_ret
      exact ⟨ret_bool (HR.out).symm, HB1.out⟩
    have h16' : decide ((16 : Int) < (d.size : Int)) = false := decide_eq_false (by omega)
    by_cases hbad : gn = true ∧ ¬ d.size = 0
    · obtain ⟨rfl, h00⟩ := hbad
      have h01 : d.toList.isEmpty = false := empty_no h00
      have HR := Lib.hid (not_ok hlt (ok_cont (l := l) (by rw [HE.out]; unfold contB; simp [h00])))
      go_wp2_with fail
      generalize wr.alloc (.cells #[.int .i64 n, .int .i64 m, .bool true, .string d] 97) = wa at q0 q1 x0 x1 x2 x3 HX HY ya yb yc ⊢
      refine wp_region_held_drew (S := fun w' => w'.cell? ⟨w.heap.size, 0, none⟩ = some (.slice a l.length cap) ∧ w'.cell? ⟨w.heap.size, 1, none⟩ = some (.slice (some ⟨g, off, none⟩) s.length cap') ∧ w'.cell? ⟨wr.heap.size, 0, none⟩ = some (.int .i64 n) ∧ w'.cell? ⟨wr.heap.size, 1, none⟩ = some (.int .i64 m) ∧ w'.cell? ⟨wr.heap.size, 2, none⟩ = some (.bool true) ∧ w'.cell? ⟨wr.heap.size, 3, none⟩ = some (.string d)) (by kernel_rfl) (by first | exact ⟨q0, q1, x0, x1, x2, x3⟩ | assumption | (go_split_ands; refine ⟨?_, ?_, ?_, ?_, ?_, ?_⟩ <;> (rw [hb.cell (by first | exact ya1 | exact yb1 | exact yc1 | exact ya | exact yb | exact yc)]; assumption))) (fun hHeld => ?_)
      refine wpAnyH_take (i := 0) (v := ?_) rfl (by kernel_rfl) (by kernel_rfl) (by kernel_rfl) (fun _ _ _ h => h) (Or.inl ⟨by rfl, fun w hSw => by (try dsimp only at hSw); go_simp; (try with_reducible rfl)⟩) (by assumption) ?_
      try simp only [Act.put, List.setIfInBounds_toArray, List.set_cons_zero, List.set_cons_succ, List.getElem_toArray, List.getElem_cons_zero, List.getElem_cons_succ]
      refine wpAnyH_take (i := 1) (v := ?_) rfl (by kernel_rfl) (by kernel_rfl) (by kernel_rfl) (fun _ _ _ h => h) (Or.inl ⟨by rfl, fun w hSw => by (try dsimp only at hSw); go_simp; (try with_reducible rfl)⟩) (by assumption) ?_
      try simp only [Act.put, List.setIfInBounds_toArray, List.set_cons_zero, List.set_cons_succ, List.getElem_toArray, List.getElem_cons_zero, List.getElem_cons_succ]
      refine wpAnyH_take (i := 2) (v := ?_) rfl (by kernel_rfl) (by kernel_rfl) (by kernel_rfl) (fun _ _ _ h => h) (Or.inl ⟨by rfl, fun w hSw => by (try dsimp only at hSw); go_simp; (try with_reducible rfl)⟩) (by assumption) ?_
      try simp only [Act.put, List.setIfInBounds_toArray, List.set_cons_zero, List.set_cons_succ, List.getElem_toArray, List.getElem_cons_zero, List.getElem_cons_succ]
      refine wpAnyH_take (i := 3) (v := ?_) rfl (by kernel_rfl) (by kernel_rfl) (by kernel_rfl) (fun _ _ _ h => h) (Or.inl ⟨by rfl, fun w hSw => by (try dsimp only at hSw); go_simp; (try with_reducible rfl)⟩) (by assumption) ?_
      try simp only [Act.put, List.setIfInBounds_toArray, List.set_cons_zero, List.set_cons_succ, List.getElem_toArray, List.getElem_cons_zero, List.getElem_cons_succ]
      refine wpAnyH_ready (rs := [4]) (by kernel_rfl) (by simp) ?_
      refine AllReadyH.cons rfl (fun K hK => ?_) AllReadyH.nil
      go_simp
      go_at_call 58; refine (spec_seenHas a cap l (n, m) _ hl (H.out.mono HX.out)).mono ?_; rintro e w1 ⟨rfl, hb⟩; rw [hhas]; have HB1 := Lib.hid (HX.out.trans (hb.mono HX.out.size)); have HC1 := Lib.hid (HY.out.trans (hb.mono ya)); have hz1 : wa.heap.size ≤ w1.heap.size := hb.size; have ya1 := Nat.lt_of_lt_of_le ya hz1; have yb1 := Nat.lt_of_lt_of_le yb hz1; have yc1 := Nat.lt_of_lt_of_le yc hz1
      go_wp2_with fail
      refine hK.out _ _ (by first | exact ⟨q0, q1, x0, x1, x2, x3⟩ | assumption | (go_split_ands; refine ⟨?_, ?_, ?_, ?_, ?_, ?_⟩ <;> (rw [hb.cell (by first | exact ya1 | exact yb1 | exact yc1 | exact ya | exact yb | exact yc)]; assumption))) (fun hHeld => ?_)
      clear hK K
      try simp only [Act.put, List.setIfInBounds_toArray, List.set_cons_zero, List.set_cons_succ, List.getElem_toArray, List.getElem_cons_zero, List.getElem_cons_succ]
      refine wpAnyH_take (i := 5) (v := ?_) rfl (by kernel_rfl) (by kernel_rfl) (by kernel_rfl) (fun _ _ _ h => h) (Or.inl ⟨by rfl, fun w hSw => by (try dsimp only at hSw); go_simp; (try with_reducible rfl)⟩) (by assumption) ?_
      try simp only [Act.put, List.setIfInBounds_toArray, List.set_cons_zero, List.set_cons_succ, List.getElem_toArray, List.getElem_cons_zero, List.getElem_cons_succ]
      refine wpAnyH_take (i := 6) (v := ?_) rfl (by kernel_rfl) (by kernel_rfl) (by kernel_rfl) (fun _ _ _ h => h) (Or.inl ⟨by rfl, fun w hSw => by (try dsimp only at hSw); go_simp; (try with_reducible rfl)⟩) (by assumption) ?_
      try simp only [Act.put, List.setIfInBounds_toArray, List.set_cons_zero, List.set_cons_succ, List.getElem_toArray, List.getElem_cons_zero, List.getElem_cons_succ]
      refine wpAnyH_take (i := 7) (v := ?_) rfl (by kernel_rfl) (by kernel_rfl) (by kernel_rfl) (fun _ _ _ h => h) (Or.inl ⟨by rfl, fun w hSw => by (try dsimp only at hSw); go_simp; (try with_reducible rfl)⟩) (by assumption) ?_
      try simp only [Act.put, List.setIfInBounds_toArray, List.set_cons_zero, List.set_cons_succ, List.getElem_toArray, List.getElem_cons_zero, List.getElem_cons_succ]
      refine wpAnyH_take (i := 8) (v := ?_) rfl (by kernel_rfl) (by kernel_rfl) (by kernel_rfl) (fun _ _ _ h => h) (Or.inl ⟨by rfl, fun w hSw => by (try dsimp only at hSw); go_simp; (try with_reducible rfl)⟩) (by assumption) ?_
      try simp only [Act.put, List.setIfInBounds_toArray, List.set_cons_zero, List.set_cons_succ, List.getElem_toArray, List.getElem_cons_zero, List.getElem_cons_succ]
      refine wpAnyH_take (i := 9) (v := ?_) rfl (by kernel_rfl) (by kernel_rfl) (by kernel_rfl) (fun _ _ _ h => h) (Or.inl ⟨by rfl, fun w hSw => by (try dsimp only at hSw); go_simp; (try with_reducible rfl)⟩) (by assumption) ?_
      try simp only [Act.put, List.setIfInBounds_toArray, List.set_cons_zero, List.set_cons_succ, List.getElem_toArray, List.getElem_cons_zero, List.getElem_cons_succ]
      refine wpAnyH_take (i := 10) (v := ?_) rfl (by kernel_rfl) (by kernel_rfl) (by kernel_rfl) (fun _ _ _ h => h) (Or.inl ⟨by rfl, fun w hSw => by (try dsimp only at hSw); go_simp; (try with_reducible rfl)⟩) (by assumption) ?_
      try simp only [Act.put, List.setIfInBounds_toArray, List.set_cons_zero, List.set_cons_succ, List.getElem_toArray, List.getElem_cons_zero, List.getElem_cons_succ]
      refine wpAnyH_take (i := 11) (v := ?_) rfl (by kernel_rfl) (by kernel_rfl) (by kernel_rfl) (fun _ _ _ h => h) (Or.inl ⟨by rfl, fun w hSw => by (try dsimp only at hSw); go_simp; (try with_reducible rfl)⟩) (by assumption) ?_
      try simp only [Act.put, List.setIfInBounds_toArray, List.set_cons_zero, List.set_cons_succ, List.getElem_toArray, List.getElem_cons_zero, List.getElem_cons_succ]
      refine wpAnyH_take (i := 12) (v := ?_) rfl (by kernel_rfl) (by kernel_rfl) (by kernel_rfl) (fun _ _ _ h => h) (Or.inl ⟨by rfl, fun w hSw => by (try dsimp only at hSw); go_simp; (try with_reducible rfl)⟩) (by assumption) ?_
      try simp only [Act.put, List.setIfInBounds_toArray, List.set_cons_zero, List.set_cons_succ, List.getElem_toArray, List.getElem_cons_zero, List.getElem_cons_succ]
      refine wpAnyH_take (i := 13) (v := ?_) rfl (by kernel_rfl) (by kernel_rfl) (by kernel_rfl) (fun _ _ _ h => h) (Or.inl ⟨by rfl, fun w hSw => by (try dsimp only at hSw); go_simp; (try with_reducible rfl)⟩) (by assumption) ?_
      try simp only [Act.put, List.setIfInBounds_toArray, List.set_cons_zero, List.set_cons_succ, List.getElem_toArray, List.getElem_cons_zero, List.getElem_cons_succ]
      refine wpAnyH_take (i := 14) (v := ?_) rfl (by kernel_rfl) (by kernel_rfl) (by kernel_rfl) (fun _ _ _ h => h) (Or.inl ⟨by rfl, fun w hSw => by (try dsimp only at hSw); go_simp; (try with_reducible rfl)⟩) (by assumption) ?_
      try simp only [Act.put, List.setIfInBounds_toArray, List.set_cons_zero, List.set_cons_succ, List.getElem_toArray, List.getElem_cons_zero, List.getElem_cons_succ]
      refine wpAnyH_take (i := 15) (v := ?_) rfl (by kernel_rfl) (by kernel_rfl) (by kernel_rfl) (fun _ _ _ h => h) (Or.inl ⟨by rfl, fun w hSw => by (try dsimp only at hSw); go_simp; (try with_reducible rfl)⟩) (by assumption) ?_
      try simp only [Act.put, List.setIfInBounds_toArray, List.set_cons_zero, List.set_cons_succ, List.getElem_toArray, List.getElem_cons_zero, List.getElem_cons_succ]
      refine wpAnyH_take (i := 16) (v := ?_) rfl (by kernel_rfl) (by kernel_rfl) (by kernel_rfl) (fun _ _ _ h => h) (Or.inl ⟨by rfl, fun w hSw => by (try dsimp only at hSw); go_simp; (try with_reducible rfl)⟩) (by assumption) ?_
      try simp only [Act.put, List.setIfInBounds_toArray, List.set_cons_zero, List.set_cons_succ, List.getElem_toArray, List.getElem_cons_zero, List.getElem_cons_succ]
      refine wpAnyH_take (i := 17) (v := ?_) rfl (by kernel_rfl) (by kernel_rfl) (by kernel_rfl) (fun _ _ _ h => h) (Or.inl ⟨by rfl, fun w hSw => by (try dsimp only at hSw); go_simp; (try with_reducible rfl)⟩) (by assumption) ?_
      try simp only [Act.put, List.setIfInBounds_toArray, List.set_cons_zero, List.set_cons_succ, List.getElem_toArray, List.getElem_cons_zero, List.getElem_cons_succ]
      refine wpAnyH_take (i := 18) (v := ?_) rfl (by kernel_rfl) (by kernel_rfl) (by kernel_rfl) (fun _ _ _ h => h) (Or.inl ⟨by rfl, fun w hSw => by (try dsimp only at hSw); go_simp; (try with_reducible rfl)⟩) (by assumption) ?_
      try simp only [Act.put, List.setIfInBounds_toArray, List.set_cons_zero, List.set_cons_succ, List.getElem_toArray, List.getElem_cons_zero, List.getElem_cons_succ]
      refine wpAnyH_take (i := 19) (v := ?_) rfl (by kernel_rfl) (by kernel_rfl) (by kernel_rfl) (fun _ _ _ h => h) (Or.inl ⟨by rfl, fun w hSw => by (try dsimp only at hSw); go_simp; (try with_reducible rfl)⟩) (by assumption) ?_
      try simp only [Act.put, List.setIfInBounds_toArray, List.set_cons_zero, List.set_cons_succ, List.getElem_toArray, List.getElem_cons_zero, List.getElem_cons_succ]
      refine wpAnyH_take (i := 20) (v := ?_) rfl (by kernel_rfl) (by kernel_rfl) (by kernel_rfl) (fun _ _ _ h => h) (Or.inl ⟨by rfl, fun w hSw => by (try dsimp only at hSw); go_simp; (try with_reducible rfl)⟩) (by assumption) ?_
      try simp only [Act.put, List.setIfInBounds_toArray, List.set_cons_zero, List.set_cons_succ, List.getElem_toArray, List.getElem_cons_zero, List.getElem_cons_succ]
      refine wpAnyH_take (i := 21) (v := ?_) rfl (by kernel_rfl) (by kernel_rfl) (by kernel_rfl) (fun _ _ _ h => h) (Or.inl ⟨by rfl, fun w hSw => by (try dsimp only at hSw); go_simp; (try with_reducible rfl)⟩) (by assumption) ?_
      try simp only [Act.put, List.setIfInBounds_toArray, List.set_cons_zero, List.set_cons_succ, List.getElem_toArray, List.getElem_cons_zero, List.getElem_cons_succ]
      refine wpAnyH_take (i := 22) (v := undef) rfl (by kernel_rfl) (by kernel_rfl) (by kernel_rfl) (fun _ _ _ h => h) (Or.inr ⟨by rfl, rfl⟩) (by assumption) ?_
      try simp only [Act.put, List.setIfInBounds_toArray, List.set_cons_zero, List.set_cons_succ, List.getElem_toArray, List.getElem_cons_zero, List.getElem_cons_succ]
      refine wpAnyH_take (i := 23) (v := undef) rfl (by kernel_rfl) (by kernel_rfl) (by kernel_rfl) (fun _ _ _ h => h) (Or.inr ⟨by rfl, rfl⟩) (by assumption) ?_
      try simp only [Act.put, List.setIfInBounds_toArray, List.set_cons_zero, List.set_cons_succ, List.getElem_toArray, List.getElem_cons_zero, List.getElem_cons_succ]
      refine wpAnyH_take (i := 24) (v := undef) rfl (by kernel_rfl) (by kernel_rfl) (by kernel_rfl) (fun _ _ _ h => h) (Or.inr ⟨by rfl, rfl⟩) (by assumption) ?_
      try simp only [Act.put, List.setIfInBounds_toArray, List.set_cons_zero, List.set_cons_succ, List.getElem_toArray, List.getElem_cons_zero, List.getElem_cons_succ]
      refine wpAnyH_take (i := 25) (v := undef) rfl (by kernel_rfl) (by kernel_rfl) (by kernel_rfl) (fun _ _ _ h => h) (Or.inr ⟨by rfl, rfl⟩) (by assumption) ?_
      try simp only [Act.put, List.setIfInBounds_toArray, List.set_cons_zero, List.set_cons_succ, List.getElem_toArray, List.getElem_cons_zero, List.getElem_cons_succ]
      refine wpAnyH_take (i := 26) (v := undef) rfl (by kernel_rfl) (by kernel_rfl) (by kernel_rfl) (fun _ _ _ h => h) (Or.inr ⟨by rfl, rfl⟩) (by assumption) ?_
      try simp only [Act.put, List.setIfInBounds_toArray, List.set_cons_zero, List.set_cons_succ, List.getElem_toArray, List.getElem_cons_zero, List.getElem_cons_succ]
      refine wpAnyH_take (i := 27) (v := undef) rfl (by kernel_rfl) (by kernel_rfl) (by kernel_rfl) (fun _ _ _ h => h) (Or.inr ⟨by rfl, rfl⟩) (by assumption) ?_
      try simp only [Act.put, List.setIfInBounds_toArray, List.set_cons_zero, List.set_cons_succ, List.getElem_toArray, List.getElem_cons_zero, List.getElem_cons_succ]
      refine wpAnyH_take (i := 28) (v := undef) rfl (by kernel_rfl) (by kernel_rfl) (by kernel_rfl) (fun _ _ _ h => h) (Or.inr ⟨by rfl, rfl⟩) (by assumption) ?_
      try simp only [Act.put, List.setIfInBounds_toArray, List.set_cons_zero, List.set_cons_succ, List.getElem_toArray, List.getElem_cons_zero, List.getElem_cons_succ]
      refine wpAnyH_take (i := 29) (v := undef) rfl (by kernel_rfl) (by kernel_rfl) (by kernel_rfl) (fun _ _ _ h => h) (Or.inr ⟨by rfl, rfl⟩) (by assumption) ?_
      try simp only [Act.put, List.setIfInBounds_toArray, List.set_cons_zero, List.set_cons_succ, List.getElem_toArray, List.getElem_cons_zero, List.getElem_cons_succ]
      refine wpAnyH_take (i := 30) (v := undef) rfl (by kernel_rfl) (by kernel_rfl) (by kernel_rfl) (fun _ _ _ h => h) (Or.inr ⟨by rfl, rfl⟩) (by assumption) ?_
      try simp only [Act.put, List.setIfInBounds_toArray, List.set_cons_zero, List.set_cons_succ, List.getElem_toArray, List.getElem_cons_zero, List.getElem_cons_succ]
      refine wpAnyH_take (i := 31) (v := undef) rfl (by kernel_rfl) (by kernel_rfl) (by kernel_rfl) (fun _ _ _ h => h) (Or.inr ⟨by rfl, rfl⟩) (by assumption) ?_
      try simp only [Act.put, List.setIfInBounds_toArray, List.set_cons_zero, List.set_cons_succ, List.getElem_toArray, List.getElem_cons_zero, List.getElem_cons_succ]
      refine wpAnyH_take (i := 32) (v := undef) rfl (by kernel_rfl) (by kernel_rfl) (by kernel_rfl) (fun _ _ _ h => h) (Or.inr ⟨by rfl, rfl⟩) (by assumption) ?_
      try simp only [Act.put, List.setIfInBounds_toArray, List.set_cons_zero, List.set_cons_succ, List.getElem_toArray, List.getElem_cons_zero, List.getElem_cons_succ]
      refine wpAnyH_take (i := 33) (v := undef) rfl (by kernel_rfl) (by kernel_rfl) (by kernel_rfl) (fun _ _ _ h => h) (Or.inr ⟨by rfl, rfl⟩) (by assumption) ?_
      try simp only [Act.put, List.setIfInBounds_toArray, List.set_cons_zero, List.set_cons_succ, List.getElem_toArray, List.getElem_cons_zero, List.getElem_cons_succ]
      refine wpAnyH_take (i := 34) (v := undef) rfl (by kernel_rfl) (by kernel_rfl) (by kernel_rfl) (fun _ _ _ h => h) (Or.inr ⟨by rfl, rfl⟩) (by assumption) ?_
      try simp only [Act.put, List.setIfInBounds_toArray, List.set_cons_zero, List.set_cons_succ, List.getElem_toArray, List.getElem_cons_zero, List.getElem_cons_succ]
      refine wpAnyH_take (i := 35) (v := undef) rfl (by kernel_rfl) (by kernel_rfl) (by kernel_rfl) (fun _ _ _ h => h) (Or.inr ⟨by rfl, rfl⟩) (by assumption) ?_
      try simp only [Act.put, List.setIfInBounds_toArray, List.set_cons_zero, List.set_cons_succ, List.getElem_toArray, List.getElem_cons_zero, List.getElem_cons_succ]
      refine wpAnyH_take (i := 36) (v := undef) rfl (by kernel_rfl) (by kernel_rfl) (by kernel_rfl) (fun _ _ _ h => h) (Or.inr ⟨by rfl, rfl⟩) (by assumption) ?_
      try simp only [Act.put, List.setIfInBounds_toArray, List.set_cons_zero, List.set_cons_succ, List.getElem_toArray, List.getElem_cons_zero, List.getElem_cons_succ]
      refine wpAnyH_take (i := 37) (v := ?_) rfl (by kernel_rfl) (by kernel_rfl) (by kernel_rfl) (fun _ _ _ h => h) (Or.inl ⟨by rfl, fun w hSw => by (try dsimp only at hSw); go_simp; (try with_reducible rfl)⟩) (by assumption) ?_
      try simp only [Act.put, List.setIfInBounds_toArray, List.set_cons_zero, List.set_cons_succ, List.getElem_toArray, List.getElem_cons_zero, List.getElem_cons_succ]
      refine wpAnyH_done (by kernel_rfl) ?_ _
      go_wp2
      go_ret
      exact ⟨ret_bool (HR.out).symm, HB1.out⟩
    have hcont : contB d gn = true := by
      unfold contB
      cases gn <;> simp_all
    rcases k with _ | j
    · simp only [Nat.zero_mul, Nat.add_zero] at c0 c1 c2 c3
      cases gn
      · have HR := Lib.hid (UpTo.one hlt (ok_yes (l := l) (by rw [HE.out]; exact hhas) (by rw [HE.out]; exact hcont)))
        go_wp2_with fail
        generalize wr.alloc (.cells #[.int .i64 n, .int .i64 m, .bool false, .string d] 97) = wa at q0 q1 x0 x1 x2 x3 HX HY ya yb yc ⊢
        refine wp_region_held_drew (S := fun w' => w'.cell? ⟨w.heap.size, 0, none⟩ = some (.slice a l.length cap) ∧ w'.cell? ⟨w.heap.size, 1, none⟩ = some (.slice (some ⟨g, off, none⟩) s.length cap') ∧ w'.cell? ⟨wr.heap.size, 0, none⟩ = some (.int .i64 n) ∧ w'.cell? ⟨wr.heap.size, 1, none⟩ = some (.int .i64 m) ∧ w'.cell? ⟨wr.heap.size, 2, none⟩ = some (.bool false) ∧ w'.cell? ⟨wr.heap.size, 3, none⟩ = some (.string d)) (by kernel_rfl) (by first | exact ⟨q0, q1, x0, x1, x2, x3⟩ | assumption | (go_split_ands; refine ⟨?_, ?_, ?_, ?_, ?_, ?_⟩ <;> (rw [hb.cell (by first | exact ya1 | exact yb1 | exact yc1 | exact ya | exact yb | exact yc)]; assumption))) (fun hHeld => ?_)
        refine wpAnyH_take (i := 0) (v := ?_) rfl (by kernel_rfl) (by kernel_rfl) (by kernel_rfl) (fun _ _ _ h => h) (Or.inl ⟨by rfl, fun w hSw => by (try dsimp only at hSw); go_simp; (try with_reducible rfl)⟩) (by assumption) ?_
        try simp only [Act.put, List.setIfInBounds_toArray, List.set_cons_zero, List.set_cons_succ, List.getElem_toArray, List.getElem_cons_zero, List.getElem_cons_succ]
        refine wpAnyH_take (i := 1) (v := ?_) rfl (by kernel_rfl) (by kernel_rfl) (by kernel_rfl) (fun _ _ _ h => h) (Or.inl ⟨by rfl, fun w hSw => by (try dsimp only at hSw); go_simp; (try with_reducible rfl)⟩) (by assumption) ?_
        try simp only [Act.put, List.setIfInBounds_toArray, List.set_cons_zero, List.set_cons_succ, List.getElem_toArray, List.getElem_cons_zero, List.getElem_cons_succ]
        refine wpAnyH_take (i := 2) (v := ?_) rfl (by kernel_rfl) (by kernel_rfl) (by kernel_rfl) (fun _ _ _ h => h) (Or.inl ⟨by rfl, fun w hSw => by (try dsimp only at hSw); go_simp; (try with_reducible rfl)⟩) (by assumption) ?_
        try simp only [Act.put, List.setIfInBounds_toArray, List.set_cons_zero, List.set_cons_succ, List.getElem_toArray, List.getElem_cons_zero, List.getElem_cons_succ]
        refine wpAnyH_take (i := 3) (v := ?_) rfl (by kernel_rfl) (by kernel_rfl) (by kernel_rfl) (fun _ _ _ h => h) (Or.inl ⟨by rfl, fun w hSw => by (try dsimp only at hSw); go_simp; (try with_reducible rfl)⟩) (by assumption) ?_
        try simp only [Act.put, List.setIfInBounds_toArray, List.set_cons_zero, List.set_cons_succ, List.getElem_toArray, List.getElem_cons_zero, List.getElem_cons_succ]
        refine wpAnyH_ready (rs := [4]) (by kernel_rfl) (by simp) ?_
        refine AllReadyH.cons rfl (fun K hK => ?_) AllReadyH.nil
        go_simp
        go_at_call 58; refine (spec_seenHas a cap l (n, m) _ hl (H.out.mono HX.out)).mono ?_; rintro e w1 ⟨rfl, hb⟩; rw [hhas]; have HB1 := Lib.hid (HX.out.trans (hb.mono HX.out.size)); have HC1 := Lib.hid (HY.out.trans (hb.mono ya)); have hz1 : wa.heap.size ≤ w1.heap.size := hb.size; have ya1 := Nat.lt_of_lt_of_le ya hz1; have yb1 := Nat.lt_of_lt_of_le yb hz1; have yc1 := Nat.lt_of_lt_of_le yc hz1
        go_wp2_with fail
        refine hK.out _ _ (by first | exact ⟨q0, q1, x0, x1, x2, x3⟩ | assumption | (go_split_ands; refine ⟨?_, ?_, ?_, ?_, ?_, ?_⟩ <;> (rw [hb.cell (by first | exact ya1 | exact yb1 | exact yc1 | exact ya | exact yb | exact yc)]; assumption))) (fun hHeld => ?_)
        clear hK K
        try simp only [Act.put, List.setIfInBounds_toArray, List.set_cons_zero, List.set_cons_succ, List.getElem_toArray, List.getElem_cons_zero, List.getElem_cons_succ]
        refine wpAnyH_take (i := 5) (v := ?_) rfl (by kernel_rfl) (by kernel_rfl) (by kernel_rfl) (fun _ _ _ h => h) (Or.inl ⟨by rfl, fun w hSw => by (try dsimp only at hSw); go_simp; (try with_reducible rfl)⟩) (by assumption) ?_
        try simp only [Act.put, List.setIfInBounds_toArray, List.set_cons_zero, List.set_cons_succ, List.getElem_toArray, List.getElem_cons_zero, List.getElem_cons_succ]
        refine wpAnyH_take (i := 6) (v := ?_) rfl (by kernel_rfl) (by kernel_rfl) (by kernel_rfl) (fun _ _ _ h => h) (Or.inl ⟨by rfl, fun w hSw => by (try dsimp only at hSw); go_simp; (try with_reducible rfl)⟩) (by assumption) ?_
        try simp only [Act.put, List.setIfInBounds_toArray, List.set_cons_zero, List.set_cons_succ, List.getElem_toArray, List.getElem_cons_zero, List.getElem_cons_succ]
        refine wpAnyH_take (i := 7) (v := ?_) rfl (by kernel_rfl) (by kernel_rfl) (by kernel_rfl) (fun _ _ _ h => h) (Or.inl ⟨by rfl, fun w hSw => by (try dsimp only at hSw); go_simp; (try with_reducible rfl)⟩) (by assumption) ?_
        try simp only [Act.put, List.setIfInBounds_toArray, List.set_cons_zero, List.set_cons_succ, List.getElem_toArray, List.getElem_cons_zero, List.getElem_cons_succ]
        refine wpAnyH_take (i := 8) (v := ?_) rfl (by kernel_rfl) (by kernel_rfl) (by kernel_rfl) (fun _ _ _ h => h) (Or.inl ⟨by rfl, fun w hSw => by (try dsimp only at hSw); go_simp; (try with_reducible rfl)⟩) (by assumption) ?_
        try simp only [Act.put, List.setIfInBounds_toArray, List.set_cons_zero, List.set_cons_succ, List.getElem_toArray, List.getElem_cons_zero, List.getElem_cons_succ]
        refine wpAnyH_take (i := 9) (v := ?_) rfl (by kernel_rfl) (by kernel_rfl) (by kernel_rfl) (fun _ _ _ h => h) (Or.inl ⟨by rfl, fun w hSw => by (try dsimp only at hSw); go_simp; (try with_reducible rfl)⟩) (by assumption) ?_
        try simp only [Act.put, List.setIfInBounds_toArray, List.set_cons_zero, List.set_cons_succ, List.getElem_toArray, List.getElem_cons_zero, List.getElem_cons_succ]
        refine wpAnyH_take (i := 10) (v := ?_) rfl (by kernel_rfl) (by kernel_rfl) (by kernel_rfl) (fun _ _ _ h => h) (Or.inl ⟨by rfl, fun w hSw => by (try dsimp only at hSw); go_simp; (try with_reducible rfl)⟩) (by assumption) ?_
        try simp only [Act.put, List.setIfInBounds_toArray, List.set_cons_zero, List.set_cons_succ, List.getElem_toArray, List.getElem_cons_zero, List.getElem_cons_succ]
        refine wpAnyH_take (i := 11) (v := ?_) rfl (by kernel_rfl) (by kernel_rfl) (by kernel_rfl) (fun _ _ _ h => h) (Or.inl ⟨by rfl, fun w hSw => by (try dsimp only at hSw); go_simp; (try with_reducible rfl)⟩) (by assumption) ?_
        try simp only [Act.put, List.setIfInBounds_toArray, List.set_cons_zero, List.set_cons_succ, List.getElem_toArray, List.getElem_cons_zero, List.getElem_cons_succ]
        refine wpAnyH_take (i := 12) (v := ?_) rfl (by kernel_rfl) (by kernel_rfl) (by kernel_rfl) (fun _ _ _ h => h) (Or.inl ⟨by rfl, fun w hSw => by (try dsimp only at hSw); go_simp; (try with_reducible rfl)⟩) (by assumption) ?_
        try simp only [Act.put, List.setIfInBounds_toArray, List.set_cons_zero, List.set_cons_succ, List.getElem_toArray, List.getElem_cons_zero, List.getElem_cons_succ]
        refine wpAnyH_take (i := 13) (v := ?_) rfl (by kernel_rfl) (by kernel_rfl) (by kernel_rfl) (fun _ _ _ h => h) (Or.inl ⟨by rfl, fun w hSw => by (try dsimp only at hSw); go_simp; (try with_reducible rfl)⟩) (by assumption) ?_
        try simp only [Act.put, List.setIfInBounds_toArray, List.set_cons_zero, List.set_cons_succ, List.getElem_toArray, List.getElem_cons_zero, List.getElem_cons_succ]
        refine wpAnyH_take (i := 14) (v := ?_) rfl (by kernel_rfl) (by kernel_rfl) (by kernel_rfl) (fun _ _ _ h => h) (Or.inl ⟨by rfl, fun w hSw => by (try dsimp only at hSw); go_simp; (try with_reducible rfl)⟩) (by assumption) ?_
        try simp only [Act.put, List.setIfInBounds_toArray, List.set_cons_zero, List.set_cons_succ, List.getElem_toArray, List.getElem_cons_zero, List.getElem_cons_succ]
        refine wpAnyH_take (i := 15) (v := ?_) rfl (by kernel_rfl) (by kernel_rfl) (by kernel_rfl) (fun _ _ _ h => h) (Or.inl ⟨by rfl, fun w hSw => by (try dsimp only at hSw); go_simp; (try with_reducible rfl)⟩) (by assumption) ?_
        try simp only [Act.put, List.setIfInBounds_toArray, List.set_cons_zero, List.set_cons_succ, List.getElem_toArray, List.getElem_cons_zero, List.getElem_cons_succ]
        refine wpAnyH_take (i := 16) (v := undef) rfl (by kernel_rfl) (by kernel_rfl) (by kernel_rfl) (fun _ _ _ h => h) (Or.inr ⟨by rfl, rfl⟩) (by assumption) ?_
        try simp only [Act.put, List.setIfInBounds_toArray, List.set_cons_zero, List.set_cons_succ, List.getElem_toArray, List.getElem_cons_zero, List.getElem_cons_succ]
        refine wpAnyH_take (i := 17) (v := undef) rfl (by kernel_rfl) (by kernel_rfl) (by kernel_rfl) (fun _ _ _ h => h) (Or.inr ⟨by rfl, rfl⟩) (by assumption) ?_
        try simp only [Act.put, List.setIfInBounds_toArray, List.set_cons_zero, List.set_cons_succ, List.getElem_toArray, List.getElem_cons_zero, List.getElem_cons_succ]
        refine wpAnyH_take (i := 18) (v := undef) rfl (by kernel_rfl) (by kernel_rfl) (by kernel_rfl) (fun _ _ _ h => h) (Or.inr ⟨by rfl, rfl⟩) (by assumption) ?_
        try simp only [Act.put, List.setIfInBounds_toArray, List.set_cons_zero, List.set_cons_succ, List.getElem_toArray, List.getElem_cons_zero, List.getElem_cons_succ]
        refine wpAnyH_take (i := 19) (v := ?_) rfl (by kernel_rfl) (by kernel_rfl) (by kernel_rfl) (fun _ _ _ h => h) (Or.inl ⟨by rfl, fun w hSw => by (try dsimp only at hSw); go_simp; (try with_reducible rfl)⟩) (by assumption) ?_
        try simp only [Act.put, List.setIfInBounds_toArray, List.set_cons_zero, List.set_cons_succ, List.getElem_toArray, List.getElem_cons_zero, List.getElem_cons_succ]
        refine wpAnyH_take (i := 20) (v := ?_) rfl (by kernel_rfl) (by kernel_rfl) (by kernel_rfl) (fun _ _ _ h => h) (Or.inl ⟨by rfl, fun w hSw => by (try dsimp only at hSw); go_simp; (try with_reducible rfl)⟩) (by assumption) ?_
        try simp only [Act.put, List.setIfInBounds_toArray, List.set_cons_zero, List.set_cons_succ, List.getElem_toArray, List.getElem_cons_zero, List.getElem_cons_succ]
        refine wpAnyH_take (i := 21) (v := ?_) rfl (by kernel_rfl) (by kernel_rfl) (by kernel_rfl) (fun _ _ _ h => h) (Or.inl ⟨by rfl, fun w hSw => by (try dsimp only at hSw); go_simp; (try with_reducible rfl)⟩) (by assumption) ?_
        try simp only [Act.put, List.setIfInBounds_toArray, List.set_cons_zero, List.set_cons_succ, List.getElem_toArray, List.getElem_cons_zero, List.getElem_cons_succ]
        refine wpAnyH_take (i := 22) (v := ?_) rfl (by kernel_rfl) (by kernel_rfl) (by kernel_rfl) (fun _ _ _ h => h) (Or.inl ⟨by rfl, fun w hSw => by (try dsimp only at hSw); go_simp; (try with_reducible rfl)⟩) (by assumption) ?_
        try simp only [Act.put, List.setIfInBounds_toArray, List.set_cons_zero, List.set_cons_succ, List.getElem_toArray, List.getElem_cons_zero, List.getElem_cons_succ]
        refine wpAnyH_take (i := 23) (v := ?_) rfl (by kernel_rfl) (by kernel_rfl) (by kernel_rfl) (fun _ _ _ h => h) (Or.inl ⟨by rfl, fun w hSw => by (try dsimp only at hSw); go_simp; (try with_reducible rfl)⟩) (by assumption) ?_
        try simp only [Act.put, List.setIfInBounds_toArray, List.set_cons_zero, List.set_cons_succ, List.getElem_toArray, List.getElem_cons_zero, List.getElem_cons_succ]
        refine wpAnyH_take (i := 24) (v := ?_) rfl (by kernel_rfl) (by kernel_rfl) (by kernel_rfl) (fun _ _ _ h => h) (Or.inl ⟨by rfl, fun w hSw => by (try dsimp only at hSw); go_simp; (try with_reducible rfl)⟩) (by assumption) ?_
        try simp only [Act.put, List.setIfInBounds_toArray, List.set_cons_zero, List.set_cons_succ, List.getElem_toArray, List.getElem_cons_zero, List.getElem_cons_succ]
        refine wpAnyH_take (i := 25) (v := undef) rfl (by kernel_rfl) (by kernel_rfl) (by kernel_rfl) (fun _ _ _ h => h) (Or.inr ⟨by rfl, rfl⟩) (by assumption) ?_
        try simp only [Act.put, List.setIfInBounds_toArray, List.set_cons_zero, List.set_cons_succ, List.getElem_toArray, List.getElem_cons_zero, List.getElem_cons_succ]
        refine wpAnyH_take (i := 26) (v := undef) rfl (by kernel_rfl) (by kernel_rfl) (by kernel_rfl) (fun _ _ _ h => h) (Or.inr ⟨by rfl, rfl⟩) (by assumption) ?_
        try simp only [Act.put, List.setIfInBounds_toArray, List.set_cons_zero, List.set_cons_succ, List.getElem_toArray, List.getElem_cons_zero, List.getElem_cons_succ]
        refine wpAnyH_take (i := 27) (v := undef) rfl (by kernel_rfl) (by kernel_rfl) (by kernel_rfl) (fun _ _ _ h => h) (Or.inr ⟨by rfl, rfl⟩) (by assumption) ?_
        try simp only [Act.put, List.setIfInBounds_toArray, List.set_cons_zero, List.set_cons_succ, List.getElem_toArray, List.getElem_cons_zero, List.getElem_cons_succ]
        refine wpAnyH_take (i := 28) (v := undef) rfl (by kernel_rfl) (by kernel_rfl) (by kernel_rfl) (fun _ _ _ h => h) (Or.inr ⟨by rfl, rfl⟩) (by assumption) ?_
        try simp only [Act.put, List.setIfInBounds_toArray, List.set_cons_zero, List.set_cons_succ, List.getElem_toArray, List.getElem_cons_zero, List.getElem_cons_succ]
        refine wpAnyH_take (i := 29) (v := undef) rfl (by kernel_rfl) (by kernel_rfl) (by kernel_rfl) (fun _ _ _ h => h) (Or.inr ⟨by rfl, rfl⟩) (by assumption) ?_
        try simp only [Act.put, List.setIfInBounds_toArray, List.set_cons_zero, List.set_cons_succ, List.getElem_toArray, List.getElem_cons_zero, List.getElem_cons_succ]
        refine wpAnyH_take (i := 30) (v := undef) rfl (by kernel_rfl) (by kernel_rfl) (by kernel_rfl) (fun _ _ _ h => h) (Or.inr ⟨by rfl, rfl⟩) (by assumption) ?_
        try simp only [Act.put, List.setIfInBounds_toArray, List.set_cons_zero, List.set_cons_succ, List.getElem_toArray, List.getElem_cons_zero, List.getElem_cons_succ]
        refine wpAnyH_take (i := 31) (v := undef) rfl (by kernel_rfl) (by kernel_rfl) (by kernel_rfl) (fun _ _ _ h => h) (Or.inr ⟨by rfl, rfl⟩) (by assumption) ?_
        try simp only [Act.put, List.setIfInBounds_toArray, List.set_cons_zero, List.set_cons_succ, List.getElem_toArray, List.getElem_cons_zero, List.getElem_cons_succ]
        refine wpAnyH_take (i := 32) (v := undef) rfl (by kernel_rfl) (by kernel_rfl) (by kernel_rfl) (fun _ _ _ h => h) (Or.inr ⟨by rfl, rfl⟩) (by assumption) ?_
        try simp only [Act.put, List.setIfInBounds_toArray, List.set_cons_zero, List.set_cons_succ, List.getElem_toArray, List.getElem_cons_zero, List.getElem_cons_succ]
        refine wpAnyH_take (i := 33) (v := undef) rfl (by kernel_rfl) (by kernel_rfl) (by kernel_rfl) (fun _ _ _ h => h) (Or.inr ⟨by rfl, rfl⟩) (by assumption) ?_
        try simp only [Act.put, List.setIfInBounds_toArray, List.set_cons_zero, List.set_cons_succ, List.getElem_toArray, List.getElem_cons_zero, List.getElem_cons_succ]
        refine wpAnyH_take (i := 34) (v := undef) rfl (by kernel_rfl) (by kernel_rfl) (by kernel_rfl) (fun _ _ _ h => h) (Or.inr ⟨by rfl, rfl⟩) (by assumption) ?_
        try simp only [Act.put, List.setIfInBounds_toArray, List.set_cons_zero, List.set_cons_succ, List.getElem_toArray, List.getElem_cons_zero, List.getElem_cons_succ]
        refine wpAnyH_take (i := 35) (v := undef) rfl (by kernel_rfl) (by kernel_rfl) (by kernel_rfl) (fun _ _ _ h => h) (Or.inr ⟨by rfl, rfl⟩) (by assumption) ?_
        try simp only [Act.put, List.setIfInBounds_toArray, List.set_cons_zero, List.set_cons_succ, List.getElem_toArray, List.getElem_cons_zero, List.getElem_cons_succ]
        refine wpAnyH_take (i := 36) (v := ?_) rfl (by kernel_rfl) (by kernel_rfl) (by kernel_rfl) (fun _ _ _ h => h) (Or.inl ⟨by rfl, fun w hSw => by (try dsimp only at hSw); go_simp; (try with_reducible rfl)⟩) (by assumption) ?_
        try simp only [Act.put, List.setIfInBounds_toArray, List.set_cons_zero, List.set_cons_succ, List.getElem_toArray, List.getElem_cons_zero, List.getElem_cons_succ]
        refine wpAnyH_take (i := 37) (v := ?_) rfl (by kernel_rfl) (by kernel_rfl) (by kernel_rfl) (fun _ _ _ h => h) (Or.inl ⟨by rfl, fun w hSw => by (try dsimp only at hSw); go_simp; (try with_reducible rfl)⟩) (by assumption) ?_
        try simp only [Act.put, List.setIfInBounds_toArray, List.set_cons_zero, List.set_cons_succ, List.getElem_toArray, List.getElem_cons_zero, List.getElem_cons_succ]
        refine wpAnyH_done (by kernel_rfl) ?_ _
        go_wp2
        go_roundw
        case rel => exact ⟨1, by omega, by go_num, HR.out, HC1.out⟩
        case measure => go_light; simp [intOf]; omega
      · have h00 : d.size = 0 := Decidable.byContradiction fun q => hbad ⟨rfl, q⟩
        have h01 : d.toList.isEmpty = true := empty_yes h00
        have HR := Lib.hid (UpTo.one hlt (ok_yes (l := l) (by rw [HE.out]; exact hhas) (by rw [HE.out]; exact hcont)))
        go_wp2_with fail
        generalize wr.alloc (.cells #[.int .i64 n, .int .i64 m, .bool true, .string d] 97) = wa at q0 q1 x0 x1 x2 x3 HX HY ya yb yc ⊢
        refine wp_region_held_drew (S := fun w' => w'.cell? ⟨w.heap.size, 0, none⟩ = some (.slice a l.length cap) ∧ w'.cell? ⟨w.heap.size, 1, none⟩ = some (.slice (some ⟨g, off, none⟩) s.length cap') ∧ w'.cell? ⟨wr.heap.size, 0, none⟩ = some (.int .i64 n) ∧ w'.cell? ⟨wr.heap.size, 1, none⟩ = some (.int .i64 m) ∧ w'.cell? ⟨wr.heap.size, 2, none⟩ = some (.bool true) ∧ w'.cell? ⟨wr.heap.size, 3, none⟩ = some (.string d)) (by kernel_rfl) (by first | exact ⟨q0, q1, x0, x1, x2, x3⟩ | assumption | (go_split_ands; refine ⟨?_, ?_, ?_, ?_, ?_, ?_⟩ <;> (rw [hb.cell (by first | exact ya1 | exact yb1 | exact yc1 | exact ya | exact yb | exact yc)]; assumption))) (fun hHeld => ?_)
        refine wpAnyH_take (i := 0) (v := ?_) rfl (by kernel_rfl) (by kernel_rfl) (by kernel_rfl) (fun _ _ _ h => h) (Or.inl ⟨by rfl, fun w hSw => by (try dsimp only at hSw); go_simp; (try with_reducible rfl)⟩) (by assumption) ?_
        try simp only [Act.put, List.setIfInBounds_toArray, List.set_cons_zero, List.set_cons_succ, List.getElem_toArray, List.getElem_cons_zero, List.getElem_cons_succ]
        refine wpAnyH_take (i := 1) (v := ?_) rfl (by kernel_rfl) (by kernel_rfl) (by kernel_rfl) (fun _ _ _ h => h) (Or.inl ⟨by rfl, fun w hSw => by (try dsimp only at hSw); go_simp; (try with_reducible rfl)⟩) (by assumption) ?_
        try simp only [Act.put, List.setIfInBounds_toArray, List.set_cons_zero, List.set_cons_succ, List.getElem_toArray, List.getElem_cons_zero, List.getElem_cons_succ]
        refine wpAnyH_take (i := 2) (v := ?_) rfl (by kernel_rfl) (by kernel_rfl) (by kernel_rfl) (fun _ _ _ h => h) (Or.inl ⟨by rfl, fun w hSw => by (try dsimp only at hSw); go_simp; (try with_reducible rfl)⟩) (by assumption) ?_
        try simp only [Act.put, List.setIfInBounds_toArray, List.set_cons_zero, List.set_cons_succ, List.getElem_toArray, List.getElem_cons_zero, List.getElem_cons_succ]
        refine wpAnyH_take (i := 3) (v := ?_) rfl (by kernel_rfl) (by kernel_rfl) (by kernel_rfl) (fun _ _ _ h => h) (Or.inl ⟨by rfl, fun w hSw => by (try dsimp only at hSw); go_simp; (try with_reducible rfl)⟩) (by assumption) ?_
        try simp only [Act.put, List.setIfInBounds_toArray, List.set_cons_zero, List.set_cons_succ, List.getElem_toArray, List.getElem_cons_zero, List.getElem_cons_succ]
        refine wpAnyH_ready (rs := [4]) (by kernel_rfl) (by simp) ?_
        refine AllReadyH.cons rfl (fun K hK => ?_) AllReadyH.nil
        go_simp
        go_at_call 58; refine (spec_seenHas a cap l (n, m) _ hl (H.out.mono HX.out)).mono ?_; rintro e w1 ⟨rfl, hb⟩; rw [hhas]; have HB1 := Lib.hid (HX.out.trans (hb.mono HX.out.size)); have HC1 := Lib.hid (HY.out.trans (hb.mono ya)); have hz1 : wa.heap.size ≤ w1.heap.size := hb.size; have ya1 := Nat.lt_of_lt_of_le ya hz1; have yb1 := Nat.lt_of_lt_of_le yb hz1; have yc1 := Nat.lt_of_lt_of_le yc hz1
        go_wp2_with fail
        refine hK.out _ _ (by first | exact ⟨q0, q1, x0, x1, x2, x3⟩ | assumption | (go_split_ands; refine ⟨?_, ?_, ?_, ?_, ?_, ?_⟩ <;> (rw [hb.cell (by first | exact ya1 | exact yb1 | exact yc1 | exact ya | exact yb | exact yc)]; assumption))) (fun hHeld => ?_)
        clear hK K
        try simp only [Act.put, List.setIfInBounds_toArray, List.set_cons_zero, List.set_cons_succ, List.getElem_toArray, List.getElem_cons_zero, List.getElem_cons_succ]
        refine wpAnyH_take (i := 5) (v := ?_) rfl (by kernel_rfl) (by kernel_rfl) (by kernel_rfl) (fun _ _ _ h => h) (Or.inl ⟨by rfl, fun w hSw => by (try dsimp only at hSw); go_simp; (try with_reducible rfl)⟩) (by assumption) ?_
        try simp only [Act.put, List.setIfInBounds_toArray, List.set_cons_zero, List.set_cons_succ, List.getElem_toArray, List.getElem_cons_zero, List.getElem_cons_succ]
        refine wpAnyH_take (i := 6) (v := ?_) rfl (by kernel_rfl) (by kernel_rfl) (by kernel_rfl) (fun _ _ _ h => h) (Or.inl ⟨by rfl, fun w hSw => by (try dsimp only at hSw); go_simp; (try with_reducible rfl)⟩) (by assumption) ?_
        try simp only [Act.put, List.setIfInBounds_toArray, List.set_cons_zero, List.set_cons_succ, List.getElem_toArray, List.getElem_cons_zero, List.getElem_cons_succ]
        refine wpAnyH_take (i := 7) (v := ?_) rfl (by kernel_rfl) (by kernel_rfl) (by kernel_rfl) (fun _ _ _ h => h) (Or.inl ⟨by rfl, fun w hSw => by (try dsimp only at hSw); go_simp; (try with_reducible rfl)⟩) (by assumption) ?_
        try simp only [Act.put, List.setIfInBounds_toArray, List.set_cons_zero, List.set_cons_succ, List.getElem_toArray, List.getElem_cons_zero, List.getElem_cons_succ]
        refine wpAnyH_take (i := 8) (v := ?_) rfl (by kernel_rfl) (by kernel_rfl) (by kernel_rfl) (fun _ _ _ h => h) (Or.inl ⟨by rfl, fun w hSw => by (try dsimp only at hSw); go_simp; (try with_reducible rfl)⟩) (by assumption) ?_
        try simp only [Act.put, List.setIfInBounds_toArray, List.set_cons_zero, List.set_cons_succ, List.getElem_toArray, List.getElem_cons_zero, List.getElem_cons_succ]
        refine wpAnyH_take (i := 9) (v := ?_) rfl (by kernel_rfl) (by kernel_rfl) (by kernel_rfl) (fun _ _ _ h => h) (Or.inl ⟨by rfl, fun w hSw => by (try dsimp only at hSw); go_simp; (try with_reducible rfl)⟩) (by assumption) ?_
        try simp only [Act.put, List.setIfInBounds_toArray, List.set_cons_zero, List.set_cons_succ, List.getElem_toArray, List.getElem_cons_zero, List.getElem_cons_succ]
        refine wpAnyH_take (i := 10) (v := ?_) rfl (by kernel_rfl) (by kernel_rfl) (by kernel_rfl) (fun _ _ _ h => h) (Or.inl ⟨by rfl, fun w hSw => by (try dsimp only at hSw); go_simp; (try with_reducible rfl)⟩) (by assumption) ?_
        try simp only [Act.put, List.setIfInBounds_toArray, List.set_cons_zero, List.set_cons_succ, List.getElem_toArray, List.getElem_cons_zero, List.getElem_cons_succ]
        refine wpAnyH_take (i := 11) (v := ?_) rfl (by kernel_rfl) (by kernel_rfl) (by kernel_rfl) (fun _ _ _ h => h) (Or.inl ⟨by rfl, fun w hSw => by (try dsimp only at hSw); go_simp; (try with_reducible rfl)⟩) (by assumption) ?_
        try simp only [Act.put, List.setIfInBounds_toArray, List.set_cons_zero, List.set_cons_succ, List.getElem_toArray, List.getElem_cons_zero, List.getElem_cons_succ]
        refine wpAnyH_take (i := 12) (v := ?_) rfl (by kernel_rfl) (by kernel_rfl) (by kernel_rfl) (fun _ _ _ h => h) (Or.inl ⟨by rfl, fun w hSw => by (try dsimp only at hSw); go_simp; (try with_reducible rfl)⟩) (by assumption) ?_
        try simp only [Act.put, List.setIfInBounds_toArray, List.set_cons_zero, List.set_cons_succ, List.getElem_toArray, List.getElem_cons_zero, List.getElem_cons_succ]
        refine wpAnyH_take (i := 13) (v := ?_) rfl (by kernel_rfl) (by kernel_rfl) (by kernel_rfl) (fun _ _ _ h => h) (Or.inl ⟨by rfl, fun w hSw => by (try dsimp only at hSw); go_simp; (try with_reducible rfl)⟩) (by assumption) ?_
        try simp only [Act.put, List.setIfInBounds_toArray, List.set_cons_zero, List.set_cons_succ, List.getElem_toArray, List.getElem_cons_zero, List.getElem_cons_succ]
        refine wpAnyH_take (i := 14) (v := ?_) rfl (by kernel_rfl) (by kernel_rfl) (by kernel_rfl) (fun _ _ _ h => h) (Or.inl ⟨by rfl, fun w hSw => by (try dsimp only at hSw); go_simp; (try with_reducible rfl)⟩) (by assumption) ?_
        try simp only [Act.put, List.setIfInBounds_toArray, List.set_cons_zero, List.set_cons_succ, List.getElem_toArray, List.getElem_cons_zero, List.getElem_cons_succ]
        refine wpAnyH_take (i := 15) (v := ?_) rfl (by kernel_rfl) (by kernel_rfl) (by kernel_rfl) (fun _ _ _ h => h) (Or.inl ⟨by rfl, fun w hSw => by (try dsimp only at hSw); go_simp; (try with_reducible rfl)⟩) (by assumption) ?_
        try simp only [Act.put, List.setIfInBounds_toArray, List.set_cons_zero, List.set_cons_succ, List.getElem_toArray, List.getElem_cons_zero, List.getElem_cons_succ]
        refine wpAnyH_take (i := 16) (v := ?_) rfl (by kernel_rfl) (by kernel_rfl) (by kernel_rfl) (fun _ _ _ h => h) (Or.inl ⟨by rfl, fun w hSw => by (try dsimp only at hSw); go_simp; (try with_reducible rfl)⟩) (by assumption) ?_
        try simp only [Act.put, List.setIfInBounds_toArray, List.set_cons_zero, List.set_cons_succ, List.getElem_toArray, List.getElem_cons_zero, List.getElem_cons_succ]
        refine wpAnyH_take (i := 17) (v := ?_) rfl (by kernel_rfl) (by kernel_rfl) (by kernel_rfl) (fun _ _ _ h => h) (Or.inl ⟨by rfl, fun w hSw => by (try dsimp only at hSw); go_simp; (try with_reducible rfl)⟩) (by assumption) ?_
        try simp only [Act.put, List.setIfInBounds_toArray, List.set_cons_zero, List.set_cons_succ, List.getElem_toArray, List.getElem_cons_zero, List.getElem_cons_succ]
        refine wpAnyH_take (i := 18) (v := ?_) rfl (by kernel_rfl) (by kernel_rfl) (by kernel_rfl) (fun _ _ _ h => h) (Or.inl ⟨by rfl, fun w hSw => by (try dsimp only at hSw); go_simp; (try with_reducible rfl)⟩) (by assumption) ?_
        try simp only [Act.put, List.setIfInBounds_toArray, List.set_cons_zero, List.set_cons_succ, List.getElem_toArray, List.getElem_cons_zero, List.getElem_cons_succ]
        refine wpAnyH_take (i := 19) (v := ?_) rfl (by kernel_rfl) (by kernel_rfl) (by kernel_rfl) (fun _ _ _ h => h) (Or.inl ⟨by rfl, fun w hSw => by (try dsimp only at hSw); go_simp; (try with_reducible rfl)⟩) (by assumption) ?_
        try simp only [Act.put, List.setIfInBounds_toArray, List.set_cons_zero, List.set_cons_succ, List.getElem_toArray, List.getElem_cons_zero, List.getElem_cons_succ]
        refine wpAnyH_take (i := 20) (v := ?_) rfl (by kernel_rfl) (by kernel_rfl) (by kernel_rfl) (fun _ _ _ h => h) (Or.inl ⟨by rfl, fun w hSw => by (try dsimp only at hSw); go_simp; (try with_reducible rfl)⟩) (by assumption) ?_
        try simp only [Act.put, List.setIfInBounds_toArray, List.set_cons_zero, List.set_cons_succ, List.getElem_toArray, List.getElem_cons_zero, List.getElem_cons_succ]
        refine wpAnyH_take (i := 21) (v := ?_) rfl (by kernel_rfl) (by kernel_rfl) (by kernel_rfl) (fun _ _ _ h => h) (Or.inl ⟨by rfl, fun w hSw => by (try dsimp only at hSw); go_simp; (try with_reducible rfl)⟩) (by assumption) ?_
        try simp only [Act.put, List.setIfInBounds_toArray, List.set_cons_zero, List.set_cons_succ, List.getElem_toArray, List.getElem_cons_zero, List.getElem_cons_succ]
        refine wpAnyH_take (i := 22) (v := ?_) rfl (by kernel_rfl) (by kernel_rfl) (by kernel_rfl) (fun _ _ _ h => h) (Or.inl ⟨by rfl, fun w hSw => by (try dsimp only at hSw); go_simp; (try with_reducible rfl)⟩) (by assumption) ?_
        try simp only [Act.put, List.setIfInBounds_toArray, List.set_cons_zero, List.set_cons_succ, List.getElem_toArray, List.getElem_cons_zero, List.getElem_cons_succ]
        refine wpAnyH_take (i := 23) (v := ?_) rfl (by kernel_rfl) (by kernel_rfl) (by kernel_rfl) (fun _ _ _ h => h) (Or.inl ⟨by rfl, fun w hSw => by (try dsimp only at hSw); go_simp; (try with_reducible rfl)⟩) (by assumption) ?_
        try simp only [Act.put, List.setIfInBounds_toArray, List.set_cons_zero, List.set_cons_succ, List.getElem_toArray, List.getElem_cons_zero, List.getElem_cons_succ]
        refine wpAnyH_take (i := 24) (v := ?_) rfl (by kernel_rfl) (by kernel_rfl) (by kernel_rfl) (fun _ _ _ h => h) (Or.inl ⟨by rfl, fun w hSw => by (try dsimp only at hSw); go_simp; (try with_reducible rfl)⟩) (by assumption) ?_
        try simp only [Act.put, List.setIfInBounds_toArray, List.set_cons_zero, List.set_cons_succ, List.getElem_toArray, List.getElem_cons_zero, List.getElem_cons_succ]
        refine wpAnyH_take (i := 25) (v := undef) rfl (by kernel_rfl) (by kernel_rfl) (by kernel_rfl) (fun _ _ _ h => h) (Or.inr ⟨by rfl, rfl⟩) (by assumption) ?_
        try simp only [Act.put, List.setIfInBounds_toArray, List.set_cons_zero, List.set_cons_succ, List.getElem_toArray, List.getElem_cons_zero, List.getElem_cons_succ]
        refine wpAnyH_take (i := 26) (v := undef) rfl (by kernel_rfl) (by kernel_rfl) (by kernel_rfl) (fun _ _ _ h => h) (Or.inr ⟨by rfl, rfl⟩) (by assumption) ?_
        try simp only [Act.put, List.setIfInBounds_toArray, List.set_cons_zero, List.set_cons_succ, List.getElem_toArray, List.getElem_cons_zero, List.getElem_cons_succ]
        refine wpAnyH_take (i := 27) (v := undef) rfl (by kernel_rfl) (by kernel_rfl) (by kernel_rfl) (fun _ _ _ h => h) (Or.inr ⟨by rfl, rfl⟩) (by assumption) ?_
        try simp only [Act.put, List.setIfInBounds_toArray, List.set_cons_zero, List.set_cons_succ, List.getElem_toArray, List.getElem_cons_zero, List.getElem_cons_succ]
        refine wpAnyH_take (i := 28) (v := undef) rfl (by kernel_rfl) (by kernel_rfl) (by kernel_rfl) (fun _ _ _ h => h) (Or.inr ⟨by rfl, rfl⟩) (by assumption) ?_
        try simp only [Act.put, List.setIfInBounds_toArray, List.set_cons_zero, List.set_cons_succ, List.getElem_toArray, List.getElem_cons_zero, List.getElem_cons_succ]
        refine wpAnyH_take (i := 29) (v := undef) rfl (by kernel_rfl) (by kernel_rfl) (by kernel_rfl) (fun _ _ _ h => h) (Or.inr ⟨by rfl, rfl⟩) (by assumption) ?_
        try simp only [Act.put, List.setIfInBounds_toArray, List.set_cons_zero, List.set_cons_succ, List.getElem_toArray, List.getElem_cons_zero, List.getElem_cons_succ]
        refine wpAnyH_take (i := 30) (v := undef) rfl (by kernel_rfl) (by kernel_rfl) (by kernel_rfl) (fun _ _ _ h => h) (Or.inr ⟨by rfl, rfl⟩) (by assumption) ?_
        try simp only [Act.put, List.setIfInBounds_toArray, List.set_cons_zero, List.set_cons_succ, List.getElem_toArray, List.getElem_cons_zero, List.getElem_cons_succ]
        refine wpAnyH_take (i := 31) (v := undef) rfl (by kernel_rfl) (by kernel_rfl) (by kernel_rfl) (fun _ _ _ h => h) (Or.inr ⟨by rfl, rfl⟩) (by assumption) ?_
        try simp only [Act.put, List.setIfInBounds_toArray, List.set_cons_zero, List.set_cons_succ, List.getElem_toArray, List.getElem_cons_zero, List.getElem_cons_succ]
        refine wpAnyH_take (i := 32) (v := undef) rfl (by kernel_rfl) (by kernel_rfl) (by kernel_rfl) (fun _ _ _ h => h) (Or.inr ⟨by rfl, rfl⟩) (by assumption) ?_
        try simp only [Act.put, List.setIfInBounds_toArray, List.set_cons_zero, List.set_cons_succ, List.getElem_toArray, List.getElem_cons_zero, List.getElem_cons_succ]
        refine wpAnyH_take (i := 33) (v := undef) rfl (by kernel_rfl) (by kernel_rfl) (by kernel_rfl) (fun _ _ _ h => h) (Or.inr ⟨by rfl, rfl⟩) (by assumption) ?_
        try simp only [Act.put, List.setIfInBounds_toArray, List.set_cons_zero, List.set_cons_succ, List.getElem_toArray, List.getElem_cons_zero, List.getElem_cons_succ]
        refine wpAnyH_take (i := 34) (v := undef) rfl (by kernel_rfl) (by kernel_rfl) (by kernel_rfl) (fun _ _ _ h => h) (Or.inr ⟨by rfl, rfl⟩) (by assumption) ?_
        try simp only [Act.put, List.setIfInBounds_toArray, List.set_cons_zero, List.set_cons_succ, List.getElem_toArray, List.getElem_cons_zero, List.getElem_cons_succ]
        refine wpAnyH_take (i := 35) (v := undef) rfl (by kernel_rfl) (by kernel_rfl) (by kernel_rfl) (fun _ _ _ h => h) (Or.inr ⟨by rfl, rfl⟩) (by assumption) ?_
        try simp only [Act.put, List.setIfInBounds_toArray, List.set_cons_zero, List.set_cons_succ, List.getElem_toArray, List.getElem_cons_zero, List.getElem_cons_succ]
        refine wpAnyH_take (i := 36) (v := ?_) rfl (by kernel_rfl) (by kernel_rfl) (by kernel_rfl) (fun _ _ _ h => h) (Or.inl ⟨by rfl, fun w hSw => by (try dsimp only at hSw); go_simp; (try with_reducible rfl)⟩) (by assumption) ?_
        try simp only [Act.put, List.setIfInBounds_toArray, List.set_cons_zero, List.set_cons_succ, List.getElem_toArray, List.getElem_cons_zero, List.getElem_cons_succ]
        refine wpAnyH_take (i := 37) (v := ?_) rfl (by kernel_rfl) (by kernel_rfl) (by kernel_rfl) (fun _ _ _ h => h) (Or.inl ⟨by rfl, fun w hSw => by (try dsimp only at hSw); go_simp; (try with_reducible rfl)⟩) (by assumption) ?_
        try simp only [Act.put, List.setIfInBounds_toArray, List.set_cons_zero, List.set_cons_succ, List.getElem_toArray, List.getElem_cons_zero, List.getElem_cons_succ]
        refine wpAnyH_done (by kernel_rfl) ?_ _
        go_wp2
        go_roundw
        case rel => exact ⟨1, by omega, by go_num, HR.out, HC1.out⟩
        case measure => go_light; simp [intOf]; omega
    · obtain ⟨g2, off2, hgo, _, p0, p1, _, _⟩ := (H'.out.mono HW.out).cells (show j < s.length by omega)
      obtain ⟨rfl, rfl⟩ : g = g2 ∧ off = off2 := by simpa using hgo
      obtain ⟨y, hy⟩ : ∃ y, s[j]'(by omega) = y := ⟨_, rfl⟩
      rw [hy] at p0 p1
      have HP := Lib.hid hy
      clear hy hgo
      obtain ⟨⟨pn, pm⟩, pg, pd⟩ := y
      dsimp only at p0 p1
      replace p0 := (hsa.cell (p := ⟨g, off + j * 4, none⟩) hg).trans p0
      replace p1 := (hsa.cell (p := ⟨g, off + j * 4 + 1, none⟩) hg).trans p1
      have hwj : IntKind.i64.wrap (j : Int) = (j : Int) := by rw [IntKind.wrap_i64]; omega
      have i0 : (0 : Int) ≤ (j : Int) := by omega
      have i1 : (j : Int) < (s.length : Int) := by omega
      have hj0 : decide ((0 : Int) < (j : Int) + 1) = true := decide_eq_true (by omega)
      cases gn
      · go_wp2_with fail
        generalize wr.alloc (.cells #[.int .i64 n, .int .i64 m, .bool false, .string d] 97) = wa at q0 q1 x0 x1 x2 x3 p0 p1 HX HY ya yb yc ⊢
        refine wp_region_held_drew (S := fun w' => w'.cell? ⟨w.heap.size, 0, none⟩ = some (.slice a l.length cap) ∧ w'.cell? ⟨w.heap.size, 1, none⟩ = some (.slice (some ⟨g, off, none⟩) s.length cap') ∧ w'.cell? ⟨wr.heap.size, 0, none⟩ = some (.int .i64 n) ∧ w'.cell? ⟨wr.heap.size, 1, none⟩ = some (.int .i64 m) ∧ w'.cell? ⟨wr.heap.size, 2, none⟩ = some (.bool false) ∧ w'.cell? ⟨wr.heap.size, 3, none⟩ = some (.string d) ∧ w'.cell? ⟨g, off + j * 4, none⟩ = some (.int .i64 pn) ∧ w'.cell? ⟨g, off + j * 4 + 1, none⟩ = some (.int .i64 pm)) (by kernel_rfl) (by first | exact ⟨q0, q1, x0, x1, x2, x3, p0, p1⟩ | assumption | (go_split_ands; refine ⟨?_, ?_, ?_, ?_, ?_, ?_, ?_, ?_⟩ <;> (rw [hb.cell (by first | exact ya1 | exact yb1 | exact yc1 | exact ya | exact yb | exact yc)]; assumption))) (fun hHeld => ?_)
        refine wpAnyH_take (i := 0) (v := ?_) rfl (by kernel_rfl) (by kernel_rfl) (by kernel_rfl) (fun _ _ _ h => h) (Or.inl ⟨by rfl, fun w hSw => by (try dsimp only at hSw); go_simp; (try with_reducible rfl)⟩) (by assumption) ?_
        try simp only [Act.put, List.setIfInBounds_toArray, List.set_cons_zero, List.set_cons_succ, List.getElem_toArray, List.getElem_cons_zero, List.getElem_cons_succ]
        refine wpAnyH_take (i := 1) (v := ?_) rfl (by kernel_rfl) (by kernel_rfl) (by kernel_rfl) (fun _ _ _ h => h) (Or.inl ⟨by rfl, fun w hSw => by (try dsimp only at hSw); go_simp; (try with_reducible rfl)⟩) (by assumption) ?_
        try simp only [Act.put, List.setIfInBounds_toArray, List.set_cons_zero, List.set_cons_succ, List.getElem_toArray, List.getElem_cons_zero, List.getElem_cons_succ]
        refine wpAnyH_take (i := 2) (v := ?_) rfl (by kernel_rfl) (by kernel_rfl) (by kernel_rfl) (fun _ _ _ h => h) (Or.inl ⟨by rfl, fun w hSw => by (try dsimp only at hSw); go_simp; (try with_reducible rfl)⟩) (by assumption) ?_
        try simp only [Act.put, List.setIfInBounds_toArray, List.set_cons_zero, List.set_cons_succ, List.getElem_toArray, List.getElem_cons_zero, List.getElem_cons_succ]
        refine wpAnyH_take (i := 3) (v := ?_) rfl (by kernel_rfl) (by kernel_rfl) (by kernel_rfl) (fun _ _ _ h => h) (Or.inl ⟨by rfl, fun w hSw => by (try dsimp only at hSw); go_simp; (try with_reducible rfl)⟩) (by assumption) ?_
        try simp only [Act.put, List.setIfInBounds_toArray, List.set_cons_zero, List.set_cons_succ, List.getElem_toArray, List.getElem_cons_zero, List.getElem_cons_succ]
        refine wpAnyH_ready (rs := [4]) (by kernel_rfl) (by simp) ?_
        refine AllReadyH.cons rfl (fun K hK => ?_) AllReadyH.nil
        go_simp
        go_at_call 58; refine (spec_seenHas a cap l (n, m) _ hl (H.out.mono HX.out)).mono ?_; rintro e w1 ⟨rfl, hb⟩; rw [hhas]; have HB1 := Lib.hid (HX.out.trans (hb.mono HX.out.size)); have HC1 := Lib.hid (HY.out.trans (hb.mono ya)); have hz1 : wa.heap.size ≤ w1.heap.size := hb.size; have ya1 := Nat.lt_of_lt_of_le ya hz1; have yb1 := Nat.lt_of_lt_of_le yb hz1; have yc1 := Nat.lt_of_lt_of_le yc hz1
        go_wp2_with fail
        refine hK.out _ _ (by first | exact ⟨q0, q1, x0, x1, x2, x3, p0, p1⟩ | assumption | (go_split_ands; refine ⟨?_, ?_, ?_, ?_, ?_, ?_, ?_, ?_⟩ <;> (rw [hb.cell (by first | exact ya1 | exact yb1 | exact yc1 | exact ya | exact yb | exact yc)]; assumption))) (fun hHeld => ?_)
        clear hK K
        try simp only [Act.put, List.setIfInBounds_toArray, List.set_cons_zero, List.set_cons_succ, List.getElem_toArray, List.getElem_cons_zero, List.getElem_cons_succ]
        refine wpAnyH_take (i := 5) (v := ?_) rfl (by kernel_rfl) (by kernel_rfl) (by kernel_rfl) (fun _ _ _ h => h) (Or.inl ⟨by rfl, fun w hSw => by (try dsimp only at hSw); go_simp; (try with_reducible rfl)⟩) (by assumption) ?_
        try simp only [Act.put, List.setIfInBounds_toArray, List.set_cons_zero, List.set_cons_succ, List.getElem_toArray, List.getElem_cons_zero, List.getElem_cons_succ]
        refine wpAnyH_take (i := 6) (v := ?_) rfl (by kernel_rfl) (by kernel_rfl) (by kernel_rfl) (fun _ _ _ h => h) (Or.inl ⟨by rfl, fun w hSw => by (try dsimp only at hSw); go_simp; (try with_reducible rfl)⟩) (by assumption) ?_
        try simp only [Act.put, List.setIfInBounds_toArray, List.set_cons_zero, List.set_cons_succ, List.getElem_toArray, List.getElem_cons_zero, List.getElem_cons_succ]
        refine wpAnyH_take (i := 7) (v := ?_) rfl (by kernel_rfl) (by kernel_rfl) (by kernel_rfl) (fun _ _ _ h => h) (Or.inl ⟨by rfl, fun w hSw => by (try dsimp only at hSw); go_simp; (try with_reducible rfl)⟩) (by assumption) ?_
        try simp only [Act.put, List.setIfInBounds_toArray, List.set_cons_zero, List.set_cons_succ, List.getElem_toArray, List.getElem_cons_zero, List.getElem_cons_succ]
        refine wpAnyH_take (i := 8) (v := ?_) rfl (by kernel_rfl) (by kernel_rfl) (by kernel_rfl) (fun _ _ _ h => h) (Or.inl ⟨by rfl, fun w hSw => by (try dsimp only at hSw); go_simp; (try with_reducible rfl)⟩) (by assumption) ?_
        try simp only [Act.put, List.setIfInBounds_toArray, List.set_cons_zero, List.set_cons_succ, List.getElem_toArray, List.getElem_cons_zero, List.getElem_cons_succ]
        refine wpAnyH_take (i := 9) (v := ?_) rfl (by kernel_rfl) (by kernel_rfl) (by kernel_rfl) (fun _ _ _ h => h) (Or.inl ⟨by rfl, fun w hSw => by (try dsimp only at hSw); go_simp; (try with_reducible rfl)⟩) (by assumption) ?_
        try simp only [Act.put, List.setIfInBounds_toArray, List.set_cons_zero, List.set_cons_succ, List.getElem_toArray, List.getElem_cons_zero, List.getElem_cons_succ]
        refine wpAnyH_take (i := 10) (v := ?_) rfl (by kernel_rfl) (by kernel_rfl) (by kernel_rfl) (fun _ _ _ h => h) (Or.inl ⟨by rfl, fun w hSw => by (try dsimp only at hSw); go_simp; (try with_reducible rfl)⟩) (by assumption) ?_
        try simp only [Act.put, List.setIfInBounds_toArray, List.set_cons_zero, List.set_cons_succ, List.getElem_toArray, List.getElem_cons_zero, List.getElem_cons_succ]
        refine wpAnyH_take (i := 11) (v := ?_) rfl (by kernel_rfl) (by kernel_rfl) (by kernel_rfl) (fun _ _ _ h => h) (Or.inl ⟨by rfl, fun w hSw => by (try dsimp only at hSw); go_simp; (try with_reducible rfl)⟩) (by assumption) ?_
        try simp only [Act.put, List.setIfInBounds_toArray, List.set_cons_zero, List.set_cons_succ, List.getElem_toArray, List.getElem_cons_zero, List.getElem_cons_succ]
        refine wpAnyH_take (i := 12) (v := ?_) rfl (by kernel_rfl) (by kernel_rfl) (by kernel_rfl) (fun _ _ _ h => h) (Or.inl ⟨by rfl, fun w hSw => by (try dsimp only at hSw); go_simp; (try with_reducible rfl)⟩) (by assumption) ?_
        try simp only [Act.put, List.setIfInBounds_toArray, List.set_cons_zero, List.set_cons_succ, List.getElem_toArray, List.getElem_cons_zero, List.getElem_cons_succ]
        refine wpAnyH_take (i := 13) (v := ?_) rfl (by kernel_rfl) (by kernel_rfl) (by kernel_rfl) (fun _ _ _ h => h) (Or.inl ⟨by rfl, fun w hSw => by (try dsimp only at hSw); go_simp; (try with_reducible rfl)⟩) (by assumption) ?_
        try simp only [Act.put, List.setIfInBounds_toArray, List.set_cons_zero, List.set_cons_succ, List.getElem_toArray, List.getElem_cons_zero, List.getElem_cons_succ]
        refine wpAnyH_take (i := 14) (v := ?_) rfl (by kernel_rfl) (by kernel_rfl) (by kernel_rfl) (fun _ _ _ h => h) (Or.inl ⟨by rfl, fun w hSw => by (try dsimp only at hSw); go_simp; (try with_reducible rfl)⟩) (by assumption) ?_
        try simp only [Act.put, List.setIfInBounds_toArray, List.set_cons_zero, List.set_cons_succ, List.getElem_toArray, List.getElem_cons_zero, List.getElem_cons_succ]
        refine wpAnyH_take (i := 15) (v := ?_) rfl (by kernel_rfl) (by kernel_rfl) (by kernel_rfl) (fun _ _ _ h => h) (Or.inl ⟨by rfl, fun w hSw => by (try dsimp only at hSw); go_simp; (try with_reducible rfl)⟩) (by assumption) ?_
        try simp only [Act.put, List.setIfInBounds_toArray, List.set_cons_zero, List.set_cons_succ, List.getElem_toArray, List.getElem_cons_zero, List.getElem_cons_succ]
        refine wpAnyH_take (i := 16) (v := undef) rfl (by kernel_rfl) (by kernel_rfl) (by kernel_rfl) (fun _ _ _ h => h) (Or.inr ⟨by rfl, rfl⟩) (by assumption) ?_
        try simp only [Act.put, List.setIfInBounds_toArray, List.set_cons_zero, List.set_cons_succ, List.getElem_toArray, List.getElem_cons_zero, List.getElem_cons_succ]
        refine wpAnyH_take (i := 17) (v := undef) rfl (by kernel_rfl) (by kernel_rfl) (by kernel_rfl) (fun _ _ _ h => h) (Or.inr ⟨by rfl, rfl⟩) (by assumption) ?_
        try simp only [Act.put, List.setIfInBounds_toArray, List.set_cons_zero, List.set_cons_succ, List.getElem_toArray, List.getElem_cons_zero, List.getElem_cons_succ]
        refine wpAnyH_take (i := 18) (v := undef) rfl (by kernel_rfl) (by kernel_rfl) (by kernel_rfl) (fun _ _ _ h => h) (Or.inr ⟨by rfl, rfl⟩) (by assumption) ?_
        try simp only [Act.put, List.setIfInBounds_toArray, List.set_cons_zero, List.set_cons_succ, List.getElem_toArray, List.getElem_cons_zero, List.getElem_cons_succ]
        refine wpAnyH_take (i := 19) (v := ?_) rfl (by kernel_rfl) (by kernel_rfl) (by kernel_rfl) (fun _ _ _ h => h) (Or.inl ⟨by rfl, fun w hSw => by (try dsimp only at hSw); go_simp; (try with_reducible rfl)⟩) (by assumption) ?_
        try simp only [Act.put, List.setIfInBounds_toArray, List.set_cons_zero, List.set_cons_succ, List.getElem_toArray, List.getElem_cons_zero, List.getElem_cons_succ]
        refine wpAnyH_take (i := 20) (v := ?_) rfl (by kernel_rfl) (by kernel_rfl) (by kernel_rfl) (fun _ _ _ h => h) (Or.inl ⟨by rfl, fun w hSw => by (try dsimp only at hSw); go_simp; (try with_reducible rfl)⟩) (by assumption) ?_
        try simp only [Act.put, List.setIfInBounds_toArray, List.set_cons_zero, List.set_cons_succ, List.getElem_toArray, List.getElem_cons_zero, List.getElem_cons_succ]
        refine wpAnyH_take (i := 21) (v := ?_) rfl (by kernel_rfl) (by kernel_rfl) (by kernel_rfl) (fun _ _ _ h => h) (Or.inl ⟨by rfl, fun w hSw => by (try dsimp only at hSw); go_simp; (try with_reducible rfl)⟩) (by assumption) ?_
        try simp only [Act.put, List.setIfInBounds_toArray, List.set_cons_zero, List.set_cons_succ, List.getElem_toArray, List.getElem_cons_zero, List.getElem_cons_succ]
        refine wpAnyH_take (i := 22) (v := ?_) rfl (by kernel_rfl) (by kernel_rfl) (by kernel_rfl) (fun _ _ _ h => h) (Or.inl ⟨by rfl, fun w hSw => by (try dsimp only at hSw); go_simp; (try with_reducible rfl)⟩) (by assumption) ?_
        try simp only [Act.put, List.setIfInBounds_toArray, List.set_cons_zero, List.set_cons_succ, List.getElem_toArray, List.getElem_cons_zero, List.getElem_cons_succ]
        refine wpAnyH_take (i := 23) (v := ?_) rfl (by kernel_rfl) (by kernel_rfl) (by kernel_rfl) (fun _ _ _ h => h) (Or.inl ⟨by rfl, fun w hSw => by (try dsimp only at hSw); go_simp; (try with_reducible rfl)⟩) (by assumption) ?_
        try simp only [Act.put, List.setIfInBounds_toArray, List.set_cons_zero, List.set_cons_succ, List.getElem_toArray, List.getElem_cons_zero, List.getElem_cons_succ]
        refine wpAnyH_take (i := 24) (v := ?_) rfl (by kernel_rfl) (by kernel_rfl) (by kernel_rfl) (fun _ _ _ h => h) (Or.inl ⟨by rfl, fun w hSw => by (try dsimp only at hSw); go_simp; (try with_reducible rfl)⟩) (by assumption) ?_
        try simp only [Act.put, List.setIfInBounds_toArray, List.set_cons_zero, List.set_cons_succ, List.getElem_toArray, List.getElem_cons_zero, List.getElem_cons_succ]
        refine wpAnyH_take (i := 25) (v := ?_) rfl (by kernel_rfl) (by kernel_rfl) (by kernel_rfl) (fun _ _ _ h => h) (Or.inl ⟨by rfl, fun w hSw => by (try dsimp only at hSw); go_simp; (try with_reducible rfl)⟩) (by assumption) ?_
        try simp only [Act.put, List.setIfInBounds_toArray, List.set_cons_zero, List.set_cons_succ, List.getElem_toArray, List.getElem_cons_zero, List.getElem_cons_succ]
        refine wpAnyH_take (i := 26) (v := ?_) rfl (by kernel_rfl) (by kernel_rfl) (by kernel_rfl) (fun _ _ _ h => h) (Or.inl ⟨by rfl, fun w hSw => by (try dsimp only at hSw); go_simp; (try with_reducible rfl)⟩) (by assumption) ?_
        try simp only [Act.put, List.setIfInBounds_toArray, List.set_cons_zero, List.set_cons_succ, List.getElem_toArray, List.getElem_cons_zero, List.getElem_cons_succ]
        refine wpAnyH_take (i := 27) (v := ?_) rfl (by kernel_rfl) (by kernel_rfl) (by kernel_rfl) (fun _ _ _ h => h) (Or.inl ⟨by rfl, fun w hSw => by (try dsimp only at hSw); go_simp; (try with_reducible rfl)⟩) (by assumption) ?_
        try simp only [Act.put, List.setIfInBounds_toArray, List.set_cons_zero, List.set_cons_succ, List.getElem_toArray, List.getElem_cons_zero, List.getElem_cons_succ]
        refine wpAnyH_take (i := 28) (v := ?_) rfl (by kernel_rfl) (by kernel_rfl) (by kernel_rfl) (fun _ _ _ h => h) (Or.inl ⟨by rfl, fun w hSw => by (try dsimp only at hSw); go_simp; (try with_reducible rfl)⟩) (by assumption) ?_
        try simp only [Act.put, List.setIfInBounds_toArray, List.set_cons_zero, List.set_cons_succ, List.getElem_toArray, List.getElem_cons_zero, List.getElem_cons_succ]
        refine wpAnyH_take (i := 29) (v := ?_) rfl (by kernel_rfl) (by kernel_rfl) (by kernel_rfl) (fun _ _ _ h => h) (Or.inl ⟨by rfl, fun w hSw => by (try dsimp only at hSw); go_simp; (try with_reducible rfl)⟩) (by assumption) ?_
        try simp only [Act.put, List.setIfInBounds_toArray, List.set_cons_zero, List.set_cons_succ, List.getElem_toArray, List.getElem_cons_zero, List.getElem_cons_succ]
        refine wpAnyH_take (i := 30) (v := ?_) rfl (by kernel_rfl) (by kernel_rfl) (by kernel_rfl) (fun _ _ _ h => h) (Or.inl ⟨by rfl, fun w hSw => by (try dsimp only at hSw); go_simp; (try with_reducible rfl)⟩) (by assumption) ?_
        try simp only [Act.put, List.setIfInBounds_toArray, List.set_cons_zero, List.set_cons_succ, List.getElem_toArray, List.getElem_cons_zero, List.getElem_cons_succ]
        refine wpAnyH_take (i := 31) (v := ?_) rfl (by kernel_rfl) (by kernel_rfl) (by kernel_rfl) (fun _ _ _ h => h) (Or.inl ⟨by rfl, fun w hSw => by (try dsimp only at hSw); go_simp; (try with_reducible rfl)⟩) (by assumption) ?_
        try simp only [Act.put, List.setIfInBounds_toArray, List.set_cons_zero, List.set_cons_succ, List.getElem_toArray, List.getElem_cons_zero, List.getElem_cons_succ]
        refine wpAnyH_take (i := 32) (v := ?_) rfl (by kernel_rfl) (by kernel_rfl) (by kernel_rfl) (fun _ _ _ h => h) (Or.inl ⟨by rfl, fun w hSw => by (try dsimp only at hSw); go_simp; (try with_reducible rfl)⟩) (by assumption) ?_
        try simp only [Act.put, List.setIfInBounds_toArray, List.set_cons_zero, List.set_cons_succ, List.getElem_toArray, List.getElem_cons_zero, List.getElem_cons_succ]
        refine wpAnyH_take (i := 33) (v := ?_) rfl (by kernel_rfl) (by kernel_rfl) (by kernel_rfl) (fun _ _ _ h => h) (Or.inl ⟨by rfl, fun w hSw => by (try dsimp only at hSw); go_simp; (try with_reducible rfl)⟩) (by assumption) ?_
        try simp only [Act.put, List.setIfInBounds_toArray, List.set_cons_zero, List.set_cons_succ, List.getElem_toArray, List.getElem_cons_zero, List.getElem_cons_succ]
        refine wpAnyH_ready (rs := [34]) (by kernel_rfl) (by simp) ?_
        refine AllReadyH.cons rfl (fun K hK => ?_) AllReadyH.nil
        go_simp
        go_at_call 59; refine (spec_less (pn, pm) (n, m) _).mono ?_; rintro e w2 ⟨rfl, hb⟩; have HB2 := Lib.hid (HB1.out.trans (hb.mono HB1.out.size)); have HC2 := Lib.hid (HC1.out.trans (hb.mono ya1))
        go_wp2_with fail
        refine hK.out _ _ (by first | exact ⟨q0, q1, x0, x1, x2, x3, p0, p1⟩ | assumption | (go_split_ands; refine ⟨?_, ?_, ?_, ?_, ?_, ?_, ?_, ?_⟩ <;> (rw [hb.cell (by first | exact ya1 | exact yb1 | exact yc1 | exact ya | exact yb | exact yc)]; assumption))) (fun hHeld => ?_)
        clear hK K
        try simp only [Act.put, List.setIfInBounds_toArray, List.set_cons_zero, List.set_cons_succ, List.getElem_toArray, List.getElem_cons_zero, List.getElem_cons_succ]
        refine wpAnyH_take (i := 35) (v := ?_) rfl (by kernel_rfl) (by kernel_rfl) (by kernel_rfl) (fun _ _ _ h => h) (Or.inl ⟨by rfl, fun w hSw => by (try dsimp only at hSw); go_simp; (try with_reducible rfl)⟩) (by assumption) ?_
        try simp only [Act.put, List.setIfInBounds_toArray, List.set_cons_zero, List.set_cons_succ, List.getElem_toArray, List.getElem_cons_zero, List.getElem_cons_succ]
        refine wpAnyH_take (i := 36) (v := ?_) rfl (by kernel_rfl) (by kernel_rfl) (by kernel_rfl) (fun _ _ _ h => h) (Or.inl ⟨by rfl, fun w hSw => by (try dsimp only at hSw); go_simp; (try with_reducible rfl)⟩) (by assumption) ?_
        try simp only [Act.put, List.setIfInBounds_toArray, List.set_cons_zero, List.set_cons_succ, List.getElem_toArray, List.getElem_cons_zero, List.getElem_cons_succ]
        refine wpAnyH_take (i := 37) (v := ?_) rfl (by kernel_rfl) (by kernel_rfl) (by kernel_rfl) (fun _ _ _ h => h) (Or.inl ⟨by rfl, fun w hSw => by (try dsimp only at hSw); go_simp; (try with_reducible rfl)⟩) (by assumption) ?_
        try simp only [Act.put, List.setIfInBounds_toArray, List.set_cons_zero, List.set_cons_succ, List.getElem_toArray, List.getElem_cons_zero, List.getElem_cons_succ]
        refine wpAnyH_done (by kernel_rfl) ?_ _
        cases hless : lessB (pn, pm) (n, m)
        · have HR := Lib.hid (not_inc (l := l) hlt (by rw [HP.out, HE.out]; exact hless))
          go_wp2
          go_ret
          exact ⟨ret_bool HR.out.symm, HB2.out⟩
        · have HR := Lib.hid (HU.out.succ hlt (ok_yes (l := l) (by rw [HE.out]; exact hhas) (by rw [HE.out]; exact hcont)) (by rw [HP.out, HE.out]; exact hless))
          go_wp2
          go_roundw
          case rel => exact ⟨j + 1 + 1, by omega, by go_num, HR.out, HC2.out⟩
          case measure => go_light; simp [intOf]; omega
      · have h00 : d.size = 0 := Decidable.byContradiction fun q => hbad ⟨rfl, q⟩
        have h01 : d.toList.isEmpty = true := empty_yes h00
        go_wp2_with fail
        generalize wr.alloc (.cells #[.int .i64 n, .int .i64 m, .bool true, .string d] 97) = wa at q0 q1 x0 x1 x2 x3 p0 p1 HX HY ya yb yc ⊢
        refine wp_region_held_drew (S := fun w' => w'.cell? ⟨w.heap.size, 0, none⟩ = some (.slice a l.length cap) ∧ w'.cell? ⟨w.heap.size, 1, none⟩ = some (.slice (some ⟨g, off, none⟩) s.length cap') ∧ w'.cell? ⟨wr.heap.size, 0, none⟩ = some (.int .i64 n) ∧ w'.cell? ⟨wr.heap.size, 1, none⟩ = some (.int .i64 m) ∧ w'.cell? ⟨wr.heap.size, 2, none⟩ = some (.bool true) ∧ w'.cell? ⟨wr.heap.size, 3, none⟩ = some (.string d) ∧ w'.cell? ⟨g, off + j * 4, none⟩ = some (.int .i64 pn) ∧ w'.cell? ⟨g, off + j * 4 + 1, none⟩ = some (.int .i64 pm)) (by kernel_rfl) (by first | exact ⟨q0, q1, x0, x1, x2, x3, p0, p1⟩ | assumption | (go_split_ands; refine ⟨?_, ?_, ?_, ?_, ?_, ?_, ?_, ?_⟩ <;> (rw [hb.cell (by first | exact ya1 | exact yb1 | exact yc1 | exact ya | exact yb | exact yc)]; assumption))) (fun hHeld => ?_)
        refine wpAnyH_take (i := 0) (v := ?_) rfl (by kernel_rfl) (by kernel_rfl) (by kernel_rfl) (fun _ _ _ h => h) (Or.inl ⟨by rfl, fun w hSw => by (try dsimp only at hSw); go_simp; (try with_reducible rfl)⟩) (by assumption) ?_
        try simp only [Act.put, List.setIfInBounds_toArray, List.set_cons_zero, List.set_cons_succ, List.getElem_toArray, List.getElem_cons_zero, List.getElem_cons_succ]
        refine wpAnyH_take (i := 1) (v := ?_) rfl (by kernel_rfl) (by kernel_rfl) (by kernel_rfl) (fun _ _ _ h => h) (Or.inl ⟨by rfl, fun w hSw => by (try dsimp only at hSw); go_simp; (try with_reducible rfl)⟩) (by assumption) ?_
        try simp only [Act.put, List.setIfInBounds_toArray, List.set_cons_zero, List.set_cons_succ, List.getElem_toArray, List.getElem_cons_zero, List.getElem_cons_succ]
        refine wpAnyH_take (i := 2) (v := ?_) rfl (by kernel_rfl) (by kernel_rfl) (by kernel_rfl) (fun _ _ _ h => h) (Or.inl ⟨by rfl, fun w hSw => by (try dsimp only at hSw); go_simp; (try with_reducible rfl)⟩) (by assumption) ?_
        try simp only [Act.put, List.setIfInBounds_toArray, List.set_cons_zero, List.set_cons_succ, List.getElem_toArray, List.getElem_cons_zero, List.getElem_cons_succ]
        refine wpAnyH_take (i := 3) (v := ?_) rfl (by kernel_rfl) (by kernel_rfl) (by kernel_rfl) (fun _ _ _ h => h) (Or.inl ⟨by rfl, fun w hSw => by (try dsimp only at hSw); go_simp; (try with_reducible rfl)⟩) (by assumption) ?_
        try simp only [Act.put, List.setIfInBounds_toArray, List.set_cons_zero, List.set_cons_succ, List.getElem_toArray, List.getElem_cons_zero, List.getElem_cons_succ]
        refine wpAnyH_ready (rs := [4]) (by kernel_rfl) (by simp) ?_
        refine AllReadyH.cons rfl (fun K hK => ?_) AllReadyH.nil
        go_simp
        go_at_call 58; refine (spec_seenHas a cap l (n, m) _ hl (H.out.mono HX.out)).mono ?_; rintro e w1 ⟨rfl, hb⟩; rw [hhas]; have HB1 := Lib.hid (HX.out.trans (hb.mono HX.out.size)); have HC1 := Lib.hid (HY.out.trans (hb.mono ya)); have hz1 : wa.heap.size ≤ w1.heap.size := hb.size; have ya1 := Nat.lt_of_lt_of_le ya hz1; have yb1 := Nat.lt_of_lt_of_le yb hz1; have yc1 := Nat.lt_of_lt_of_le yc hz1
        go_wp2_with fail
        refine hK.out _ _ (by first | exact ⟨q0, q1, x0, x1, x2, x3, p0, p1⟩ | assumption | (go_split_ands; refine ⟨?_, ?_, ?_, ?_, ?_, ?_, ?_, ?_⟩ <;> (rw [hb.cell (by first | exact ya1 | exact yb1 | exact yc1 | exact ya | exact yb | exact yc)]; assumption))) (fun hHeld => ?_)
        clear hK K
        try simp only [Act.put, List.setIfInBounds_toArray, List.set_cons_zero, List.set_cons_succ, List.getElem_toArray, List.getElem_cons_zero, List.getElem_cons_succ]
        refine wpAnyH_take (i := 5) (v := ?_) rfl (by kernel_rfl) (by kernel_rfl) (by kernel_rfl) (fun _ _ _ h => h) (Or.inl ⟨by rfl, fun w hSw => by (try dsimp only at hSw); go_simp; (try with_reducible rfl)⟩) (by assumption) ?_
        try simp only [Act.put, List.setIfInBounds_toArray, List.set_cons_zero, List.set_cons_succ, List.getElem_toArray, List.getElem_cons_zero, List.getElem_cons_succ]
        refine wpAnyH_take (i := 6) (v := ?_) rfl (by kernel_rfl) (by kernel_rfl) (by kernel_rfl) (fun _ _ _ h => h) (Or.inl ⟨by rfl, fun w hSw => by (try dsimp only at hSw); go_simp; (try with_reducible rfl)⟩) (by assumption) ?_
        try simp only [Act.put, List.setIfInBounds_toArray, List.set_cons_zero, List.set_cons_succ, List.getElem_toArray, List.getElem_cons_zero, List.getElem_cons_succ]
        refine wpAnyH_take (i := 7) (v := ?_) rfl (by kernel_rfl) (by kernel_rfl) (by kernel_rfl) (fun _ _ _ h => h) (Or.inl ⟨by rfl, fun w hSw => by (try dsimp only at hSw); go_simp; (try with_reducible rfl)⟩) (by assumption) ?_
        try simp only [Act.put, List.setIfInBounds_toArray, List.set_cons_zero, List.set_cons_succ, List.getElem_toArray, List.getElem_cons_zero, List.getElem_cons_succ]
        refine wpAnyH_take (i := 8) (v := ?_) rfl (by kernel_rfl) (by kernel_rfl) (by kernel_rfl) (fun _ _ _ h => h) (Or.inl ⟨by rfl, fun w hSw => by (try dsimp only at hSw); go_simp; (try with_reducible rfl)⟩) (by assumption) ?_
        try simp only [Act.put, List.setIfInBounds_toArray, List.set_cons_zero, List.set_cons_succ, List.getElem_toArray, List.getElem_cons_zero, List.getElem_cons_succ]
        refine wpAnyH_take (i := 9) (v := ?_) rfl (by kernel_rfl) (by kernel_rfl) (by kernel_rfl) (fun _ _ _ h => h) (Or.inl ⟨by rfl, fun w hSw => by (try dsimp only at hSw); go_simp; (try with_reducible rfl)⟩) (by assumption) ?_
        try simp only [Act.put, List.setIfInBounds_toArray, List.set_cons_zero, List.set_cons_succ, List.getElem_toArray, List.getElem_cons_zero, List.getElem_cons_succ]
        refine wpAnyH_take (i := 10) (v := ?_) rfl (by kernel_rfl) (by kernel_rfl) (by kernel_rfl) (fun _ _ _ h => h) (Or.inl ⟨by rfl, fun w hSw => by (try dsimp only at hSw); go_simp; (try with_reducible rfl)⟩) (by assumption) ?_
        try simp only [Act.put, List.setIfInBounds_toArray, List.set_cons_zero, List.set_cons_succ, List.getElem_toArray, List.getElem_cons_zero, List.getElem_cons_succ]
        refine wpAnyH_take (i := 11) (v := ?_) rfl (by kernel_rfl) (by kernel_rfl) (by kernel_rfl) (fun _ _ _ h => h) (Or.inl ⟨by rfl, fun w hSw => by (try dsimp only at hSw); go_simp; (try with_reducible rfl)⟩) (by assumption) ?_
        try simp only [Act.put, List.setIfInBounds_toArray, List.set_cons_zero, List.set_cons_succ, List.getElem_toArray, List.getElem_cons_zero, List.getElem_cons_succ]
        refine wpAnyH_take (i := 12) (v := ?_) rfl (by kernel_rfl) (by kernel_rfl) (by kernel_rfl) (fun _ _ _ h => h) (Or.inl ⟨by rfl, fun w hSw => by (try dsimp only at hSw); go_simp; (try with_reducible rfl)⟩) (by assumption) ?_
        try simp only [Act.put, List.setIfInBounds_toArray, List.set_cons_zero, List.set_cons_succ, List.getElem_toArray, List.getElem_cons_zero, List.getElem_cons_succ]
        refine wpAnyH_take (i := 13) (v := ?_) rfl (by kernel_rfl) (by kernel_rfl) (by kernel_rfl) (fun _ _ _ h => h) (Or.inl ⟨by rfl, fun w hSw => by (try dsimp only at hSw); go_simp; (try with_reducible rfl)⟩) (by assumption) ?_
        try simp only [Act.put, List.setIfInBounds_toArray, List.set_cons_zero, List.set_cons_succ, List.getElem_toArray, List.getElem_cons_zero, List.getElem_cons_succ]
        refine wpAnyH_take (i := 14) (v := ?_) rfl (by kernel_rfl) (by kernel_rfl) (by kernel_rfl) (fun _ _ _ h => h) (Or.inl ⟨by rfl, fun w hSw => by (try dsimp only at hSw); go_simp; (try with_reducible rfl)⟩) (by assumption) ?_
        try simp only [Act.put, List.setIfInBounds_toArray, List.set_cons_zero, List.set_cons_succ, List.getElem_toArray, List.getElem_cons_zero, List.getElem_cons_succ]
        refine wpAnyH_take (i := 15) (v := ?_) rfl (by kernel_rfl) (by kernel_rfl) (by kernel_rfl) (fun _ _ _ h => h) (Or.inl ⟨by rfl, fun w hSw => by (try dsimp only at hSw); go_simp; (try with_reducible rfl)⟩) (by assumption) ?_
        try simp only [Act.put, List.setIfInBounds_toArray, List.set_cons_zero, List.set_cons_succ, List.getElem_toArray, List.getElem_cons_zero, List.getElem_cons_succ]
        refine wpAnyH_take (i := 16) (v := ?_) rfl (by kernel_rfl) (by kernel_rfl) (by kernel_rfl) (fun _ _ _ h => h) (Or.inl ⟨by rfl, fun w hSw => by (try dsimp only at hSw); go_simp; (try with_reducible rfl)⟩) (by assumption) ?_
        try simp only [Act.put, List.setIfInBounds_toArray, List.set_cons_zero, List.set_cons_succ, List.getElem_toArray, List.getElem_cons_zero, List.getElem_cons_succ]
        refine wpAnyH_take (i := 17) (v := ?_) rfl (by kernel_rfl) (by kernel_rfl) (by kernel_rfl) (fun _ _ _ h => h) (Or.inl ⟨by rfl, fun w hSw => by (try dsimp only at hSw); go_simp; (try with_reducible rfl)⟩) (by assumption) ?_
        try simp only [Act.put, List.setIfInBounds_toArray, List.set_cons_zero, List.set_cons_succ, List.getElem_toArray, List.getElem_cons_zero, List.getElem_cons_succ]
        refine wpAnyH_take (i := 18) (v := ?_) rfl (by kernel_rfl) (by kernel_rfl) (by kernel_rfl) (fun _ _ _ h => h) (Or.inl ⟨by rfl, fun w hSw => by (try dsimp only at hSw); go_simp; (try with_reducible rfl)⟩) (by assumption) ?_
        try simp only [Act.put, List.setIfInBounds_toArray, List.set_cons_zero, List.set_cons_succ, List.getElem_toArray, List.getElem_cons_zero, List.getElem_cons_succ]
        refine wpAnyH_take (i := 19) (v := ?_) rfl (by kernel_rfl) (by kernel_rfl) (by kernel_rfl) (fun _ _ _ h => h) (Or.inl ⟨by rfl, fun w hSw => by (try dsimp only at hSw); go_simp; (try with_reducible rfl)⟩) (by assumption) ?_
        try simp only [Act.put, List.setIfInBounds_toArray, List.set_cons_zero, List.set_cons_succ, List.getElem_toArray, List.getElem_cons_zero, List.getElem_cons_succ]
        refine wpAnyH_take (i := 20) (v := ?_) rfl (by kernel_rfl) (by kernel_rfl) (by kernel_rfl) (fun _ _ _ h => h) (Or.inl ⟨by rfl, fun w hSw => by (try dsimp only at hSw); go_simp; (try with_reducible rfl)⟩) (by assumption) ?_
        try simp only [Act.put, List.setIfInBounds_toArray, List.set_cons_zero, List.set_cons_succ, List.getElem_toArray, List.getElem_cons_zero, List.getElem_cons_succ]
        refine wpAnyH_take (i := 21) (v := ?_) rfl (by kernel_rfl) (by kernel_rfl) (by kernel_rfl) (fun _ _ _ h => h) (Or.inl ⟨by rfl, fun w hSw => by (try dsimp only at hSw); go_simp; (try with_reducible rfl)⟩) (by assumption) ?_
        try simp only [Act.put, List.setIfInBounds_toArray, List.set_cons_zero, List.set_cons_succ, List.getElem_toArray, List.getElem_cons_zero, List.getElem_cons_succ]
        refine wpAnyH_take (i := 22) (v := ?_) rfl (by kernel_rfl) (by kernel_rfl) (by kernel_rfl) (fun _ _ _ h => h) (Or.inl ⟨by rfl, fun w hSw => by (try dsimp only at hSw); go_simp; (try with_reducible rfl)⟩) (by assumption) ?_
        try simp only [Act.put, List.setIfInBounds_toArray, List.set_cons_zero, List.set_cons_succ, List.getElem_toArray, List.getElem_cons_zero, List.getElem_cons_succ]
        refine wpAnyH_take (i := 23) (v := ?_) rfl (by kernel_rfl) (by kernel_rfl) (by kernel_rfl) (fun _ _ _ h => h) (Or.inl ⟨by rfl, fun w hSw => by (try dsimp only at hSw); go_simp; (try with_reducible rfl)⟩) (by assumption) ?_
        try simp only [Act.put, List.setIfInBounds_toArray, List.set_cons_zero, List.set_cons_succ, List.getElem_toArray, List.getElem_cons_zero, List.getElem_cons_succ]
        refine wpAnyH_take (i := 24) (v := ?_) rfl (by kernel_rfl) (by kernel_rfl) (by kernel_rfl) (fun _ _ _ h => h) (Or.inl ⟨by rfl, fun w hSw => by (try dsimp only at hSw); go_simp; (try with_reducible rfl)⟩) (by assumption) ?_
        try simp only [Act.put, List.setIfInBounds_toArray, List.set_cons_zero, List.set_cons_succ, List.getElem_toArray, List.getElem_cons_zero, List.getElem_cons_succ]
        refine wpAnyH_take (i := 25) (v := ?_) rfl (by kernel_rfl) (by kernel_rfl) (by kernel_rfl) (fun _ _ _ h => h) (Or.inl ⟨by rfl, fun w hSw => by (try dsimp only at hSw); go_simp; (try with_reducible rfl)⟩) (by assumption) ?_
        try simp only [Act.put, List.setIfInBounds_toArray, List.set_cons_zero, List.set_cons_succ, List.getElem_toArray, List.getElem_cons_zero, List.getElem_cons_succ]
        refine wpAnyH_take (i := 26) (v := ?_) rfl (by kernel_rfl) (by kernel_rfl) (by kernel_rfl) (fun _ _ _ h => h) (Or.inl ⟨by rfl, fun w hSw => by (try dsimp only at hSw); go_simp; (try with_reducible rfl)⟩) (by assumption) ?_
        try simp only [Act.put, List.setIfInBounds_toArray, List.set_cons_zero, List.set_cons_succ, List.getElem_toArray, List.getElem_cons_zero, List.getElem_cons_succ]
        refine wpAnyH_take (i := 27) (v := ?_) rfl (by kernel_rfl) (by kernel_rfl) (by kernel_rfl) (fun _ _ _ h => h) (Or.inl ⟨by rfl, fun w hSw => by (try dsimp only at hSw); go_simp; (try with_reducible rfl)⟩) (by assumption) ?_
        try simp only [Act.put, List.setIfInBounds_toArray, List.set_cons_zero, List.set_cons_succ, List.getElem_toArray, List.getElem_cons_zero, List.getElem_cons_succ]
        refine wpAnyH_take (i := 28) (v := ?_) rfl (by kernel_rfl) (by kernel_rfl) (by kernel_rfl) (fun _ _ _ h => h) (Or.inl ⟨by rfl, fun w hSw => by (try dsimp only at hSw); go_simp; (try with_reducible rfl)⟩) (by assumption) ?_
        try simp only [Act.put, List.setIfInBounds_toArray, List.set_cons_zero, List.set_cons_succ, List.getElem_toArray, List.getElem_cons_zero, List.getElem_cons_succ]
        refine wpAnyH_take (i := 29) (v := ?_) rfl (by kernel_rfl) (by kernel_rfl) (by kernel_rfl) (fun _ _ _ h => h) (Or.inl ⟨by rfl, fun w hSw => by (try dsimp only at hSw); go_simp; (try with_reducible rfl)⟩) (by assumption) ?_
        try simp only [Act.put, List.setIfInBounds_toArray, List.set_cons_zero, List.set_cons_succ, List.getElem_toArray, List.getElem_cons_zero, List.getElem_cons_succ]
        refine wpAnyH_take (i := 30) (v := ?_) rfl (by kernel_rfl) (by kernel_rfl) (by kernel_rfl) (fun _ _ _ h => h) (Or.inl ⟨by rfl, fun w hSw => by (try dsimp only at hSw); go_simp; (try with_reducible rfl)⟩) (by assumption) ?_
        try simp only [Act.put, List.setIfInBounds_toArray, List.set_cons_zero, List.set_cons_succ, List.getElem_toArray, List.getElem_cons_zero, List.getElem_cons_succ]
        refine wpAnyH_take (i := 31) (v := ?_) rfl (by kernel_rfl) (by kernel_rfl) (by kernel_rfl) (fun _ _ _ h => h) (Or.inl ⟨by rfl, fun w hSw => by (try dsimp only at hSw); go_simp; (try with_reducible rfl)⟩) (by assumption) ?_
        try simp only [Act.put, List.setIfInBounds_toArray, List.set_cons_zero, List.set_cons_succ, List.getElem_toArray, List.getElem_cons_zero, List.getElem_cons_succ]
        refine wpAnyH_take (i := 32) (v := ?_) rfl (by kernel_rfl) (by kernel_rfl) (by kernel_rfl) (fun _ _ _ h => h) (Or.inl ⟨by rfl, fun w hSw => by (try dsimp only at hSw); go_simp; (try with_reducible rfl)⟩) (by assumption) ?_
        try simp only [Act.put, List.setIfInBounds_toArray, List.set_cons_zero, List.set_cons_succ, List.getElem_toArray, List.getElem_cons_zero, List.getElem_cons_succ]
        refine wpAnyH_take (i := 33) (v := ?_) rfl (by kernel_rfl) (by kernel_rfl) (by kernel_rfl) (fun _ _ _ h => h) (Or.inl ⟨by rfl, fun w hSw => by (try dsimp only at hSw); go_simp; (try with_reducible rfl)⟩) (by assumption) ?_
        try simp only [Act.put, List.setIfInBounds_toArray, List.set_cons_zero, List.set_cons_succ, List.getElem_toArray, List.getElem_cons_zero, List.getElem_cons_succ]
        refine wpAnyH_ready (rs := [34]) (by kernel_rfl) (by simp) ?_
        refine AllReadyH.cons rfl (fun K hK => ?_) AllReadyH.nil
        go_simp
        go_at_call 59; refine (spec_less (pn, pm) (n, m) _).mono ?_; rintro e w2 ⟨rfl, hb⟩; have HB2 := Lib.hid (HB1.out.trans (hb.mono HB1.out.size)); have HC2 := Lib.hid (HC1.out.trans (hb.mono ya1))
        go_wp2_with fail
        refine hK.out _ _ (by first | exact ⟨q0, q1, x0, x1, x2, x3, p0, p1⟩ | assumption | (go_split_ands; refine ⟨?_, ?_, ?_, ?_, ?_, ?_, ?_, ?_⟩ <;> (rw [hb.cell (by first | exact ya1 | exact yb1 | exact yc1 | exact ya | exact yb | exact yc)]; assumption))) (fun hHeld => ?_)
        clear hK K
        try simp only [Act.put, List.setIfInBounds_toArray, List.set_cons_zero, List.set_cons_succ, List.getElem_toArray, List.getElem_cons_zero, List.getElem_cons_succ]
        refine wpAnyH_take (i := 35) (v := ?_) rfl (by kernel_rfl) (by kernel_rfl) (by kernel_rfl) (fun _ _ _ h => h) (Or.inl ⟨by rfl, fun w hSw => by (try dsimp only at hSw); go_simp; (try with_reducible rfl)⟩) (by assumption) ?_
        try simp only [Act.put, List.setIfInBounds_toArray, List.set_cons_zero, List.set_cons_succ, List.getElem_toArray, List.getElem_cons_zero, List.getElem_cons_succ]
        refine wpAnyH_take (i := 36) (v := ?_) rfl (by kernel_rfl) (by kernel_rfl) (by kernel_rfl) (fun _ _ _ h => h) (Or.inl ⟨by rfl, fun w hSw => by (try dsimp only at hSw); go_simp; (try with_reducible rfl)⟩) (by assumption) ?_
        try simp only [Act.put, List.setIfInBounds_toArray, List.set_cons_zero, List.set_cons_succ, List.getElem_toArray, List.getElem_cons_zero, List.getElem_cons_succ]
        refine wpAnyH_take (i := 37) (v := ?_) rfl (by kernel_rfl) (by kernel_rfl) (by kernel_rfl) (fun _ _ _ h => h) (Or.inl ⟨by rfl, fun w hSw => by (try dsimp only at hSw); go_simp; (try with_reducible rfl)⟩) (by assumption) ?_
        try simp only [Act.put, List.setIfInBounds_toArray, List.set_cons_zero, List.set_cons_succ, List.getElem_toArray, List.getElem_cons_zero, List.getElem_cons_succ]
        refine wpAnyH_done (by kernel_rfl) ?_ _
        cases hless : lessB (pn, pm) (n, m)
        · have HR := Lib.hid (not_inc (l := l) hlt (by rw [HP.out, HE.out]; exact hless))
          go_wp2
          go_ret
          exact ⟨ret_bool HR.out.symm, HB2.out⟩
        · have HR := Lib.hid (HU.out.succ hlt (ok_yes (l := l) (by rw [HE.out]; exact hhas) (by rw [HE.out]; exact hcont)) (by rw [HP.out, HE.out]; exact hless))
          go_wp2
          go_roundw
          case rel => exact ⟨j + 1 + 1, by omega, by go_num, HR.out, HC2.out⟩
          case measure => go_light; simp [intOf]; omega
end Go.Proofs.Ytloenigleamcoaa.Sb

set_option linter.unusedSimpArgs false
set_option linter.unusedVariables false
namespace Go.Proofs.Ytloenigleamcoaa.Sb
open Go.RowKit Go.Proofs.Ytloenigleamcoaa.Mk Go.Proofs.Ytloenigleamcoaa.Rw

theorem spec_time (n : Int) (w : World) : Calls Try.prog 28 #[.int .i64 n] w fun e w' => e = .returned (.bool (isB n 0 1000000)) ∧ w = w' := by
  go_enter Try.func28, Try.ntmps28
  go_wp2_with (go_at_call 26; refine (spec_is _ _ _ _).mono ?_; rintro e w' ⟨rfl, rfl⟩)
  go_ret
  exact ⟨rfl, rfl⟩
set_option maxRecDepth 100000 in
set_option maxHeartbeats 400000 in
theorem spec_msgRight (kd fr tq rq : Int) (ky : ByteArray) (ow : Int) (a b : Option Addr) (cap cap' : Nat) (l : List (Int × Int)) (s : List Sib) (w : World) (hl : l.length ≤ maxLen) (hs : s.length ≤ maxLen) (hd : SmallData s) (hy : ky.size ≤ maxLen) (h : MarksAt w a l) (h' : SibsAt w b s) :
    Calls Try.prog 8 #[.agg #[.int .i64 kd, .int .i64 fr, .int .i64 tq, .int .i64 rq, .string ky, .int .i64 ow, .slice a l.length cap, .slice b s.length cap']] w fun e w' => e = .returned (.bool (msgB kd fr tq rq ky ow l s)) ∧ Below w.heap.size w w' := by
  have H := Lib.hid h
  have H' := Lib.hid h'
  have HS := Lib.hid hd
  have D := Lib.hid (show Base w _ from step_alloc w (.cells #[.int .i64 kd, .int .i64 fr, .int .i64 tq, .int .i64 rq, .string ky, .int .i64 ow, .slice a l.length cap, .slice b s.length cap'] 35))
  have X := Lib.hid (Cells.new w #[.int .i64 kd, .int .i64 fr, .int .i64 tq, .int .i64 rq, .string ky, .int .i64 ow, .slice a l.length cap, .slice b s.length cap'] 35)
  simp only [List.toList_toArray] at X
  clear h h' hd
  go_enter Try.func8, Try.ntmps8
  go_wp2_with fail
  refine (spec_is kd 1 4 _).mono ?_
  rintro e w' ⟨rfl, rfl⟩
  cases hc : isB kd 1 4
  · have HC := Lib.hid (show msgB kd fr tq rq ky ow l s = false by unfold msgB; rw [kind_no hc]; simp)
    clear hc
    go_wp2
    go_ret
    exact ⟨ret_bool HC.out.symm, D.out⟩
  have C0 := Lib.hid hc
  clear hc
  go_wp2_with fail
  refine (spec_node fr _).mono ?_
  rintro e w' ⟨rfl, rfl⟩
  cases hc : isB fr 1 5
  · have HC := Lib.hid (show msgB kd fr tq rq ky ow l s = false by unfold msgB; unfold hdB; rw [nodeB_is] at hc; rw [hc]; simp)
    clear hc
    go_wp2
    go_ret
    exact ⟨ret_bool HC.out.symm, D.out⟩
  have C1 := Lib.hid hc
  clear hc
  go_wp2_with fail
  refine (spec_node tq _).mono ?_
  rintro e w' ⟨rfl, rfl⟩
  cases hc : isB tq 1 5
  · have HC := Lib.hid (show msgB kd fr tq rq ky ow l s = false by unfold msgB; unfold hdB; rw [nodeB_is] at hc; rw [hc]; simp)
    clear hc
    go_wp2
    go_ret
    exact ⟨ret_bool HC.out.symm, D.out⟩
  have C2 := Lib.hid hc
  clear hc
  go_wp2_with fail
  refine (spec_node ow _).mono ?_
  rintro e w' ⟨rfl, rfl⟩
  cases hc : isB ow 1 5
  · have HC := Lib.hid (show msgB kd fr tq rq ky ow l s = false by unfold msgB; unfold hdB; rw [nodeB_is] at hc; rw [hc]; simp)
    clear hc
    go_wp2
    go_ret
    exact ⟨ret_bool HC.out.symm, D.out⟩
  have C3 := Lib.hid hc
  clear hc
  go_wp2_with fail
  refine (spec_time rq _).mono ?_
  rintro e w' ⟨rfl, rfl⟩
  cases hc : isB rq 0 1000000
  · have HC := Lib.hid (show msgB kd fr tq rq ky ow l s = false by unfold msgB; unfold hdB; unfold isB at hc; rw [Bool.and_assoc _ (decide (0 ≤ rq)) (decide (rq ≤ 1000000)), hc]; simp)
    clear hc
    go_wp2
    go_ret
    exact ⟨ret_bool HC.out.symm, D.out⟩
  have C4 := Lib.hid hc
  clear hc
  go_wp2_with fail
  refine (Nm.spec_NameRight ky hy _).mono ?_
  rintro e w' ⟨rfl, rfl⟩
  cases hc : Nm.nameB ky
  · have HC := Lib.hid (show msgB kd fr tq rq ky ow l s = false by unfold msgB; unfold hdB; rw [hc]; simp)
    clear hc
    go_wp2
    go_ret
    exact ⟨ret_bool HC.out.symm, D.out⟩
  have C5 := Lib.hid hc
  clear hc
  go_wp2_with fail
  generalize w.alloc (.cells #[.int .i64 kd, .int .i64 fr, .int .i64 tq, .int .i64 rq, .string ky, .int .i64 ow, .slice a l.length cap, .slice b s.length cap'] 35) = w0 at D X ⊢
  refine (spec_setRight a b cap cap' l s w0 hl hs HS.out (H.out.mono D.out) (H'.out.mono D.out)).mono ?_
  rintro e w1 ⟨rfl, hb⟩
  replace D := Lib.hid (D.out.below hb)
  replace X := Lib.hid (X.out.below hb)
  clear hb
  cases hc : setB l s
  · have HC := Lib.hid (show msgB kd fr tq rq ky ow l s = false by unfold msgB; rw [kind_ill hc]; simp)
    clear hc
    go_wp2
    go_ret
    exact ⟨ret_bool HC.out.symm, D.out⟩
  have HH := Lib.hid (show msgB kd fr tq rq ky ow l s = kindB kd rq l s by
    have e4 := C4.out
    unfold isB at e4
    simp only [Bool.and_eq_true, decide_eq_true_eq] at e4
    unfold msgB hdB; rw [show nodeB fr = true from C1.out, show nodeB tq = true from C2.out, show nodeB ow = true from C3.out, C5.out, decide_eq_true e4.1, decide_eq_true e4.2]; simp)
  have C6 := Lib.hid hc
  clear hc
  obtain ⟨x0, x1, x2, x3, x4, x5, x6, x7, _⟩ := X.out.c8
  rcases isB_four C0.out with hk | hk | hk | hk
  · have HK := Lib.hid (HH.out.trans (kind_1 hk C6.out))
    subst hk
    clear C0 C1 C2 C3 C4 C5 C6 HH
    by_cases h1 : 0 < rq <;> by_cases h2 : l.length = 0
    all_goals go_wp2
    all_goals go_ret
    all_goals exact ⟨ret_bool (by rw [HK.out] <;> first | (simp [h1, h2]; done) | (simp [h1, h2]; omega) | (simp; omega)), D.out⟩
  · have HK := Lib.hid (HH.out.trans (kind_2 hk C6.out))
    subst hk
    clear C0 C1 C2 C3 C4 C5 C6 HH
    by_cases h1 : 0 < rq
    all_goals go_wp2
    all_goals go_ret
    all_goals exact ⟨ret_bool (by rw [HK.out] <;> first | (simp [h1]; done) | (simp [h1]; omega) | (simp; omega) | (simp; intros; omega)), D.out⟩
  · have HK := Lib.hid (HH.out.trans (kind_3 hk C6.out))
    subst hk
    clear C0 C1 C2 C3 C4 C5 C6 HH
    by_cases h1 : 0 < l.length
    all_goals go_wp2
    all_goals go_ret
    all_goals exact ⟨ret_bool (by rw [HK.out] <;> first | (simp [h1]; done) | (simp [h1]; omega) | (simp; omega) | (simp; intros; omega)), D.out⟩
  · have HK := Lib.hid (HH.out.trans (kind_4 hk C6.out))
    subst hk
    clear C0 C1 C2 C3 C4 C5 C6 HH
    by_cases h1 : 0 < l.length <;> by_cases h2 : s.length = 0
    all_goals go_wp2
    all_goals go_ret
    all_goals exact ⟨ret_bool (by rw [HK.out] <;> first | (simp [h1, h2]; done) | (simp [h1, h2]; omega) | (simp; omega)), D.out⟩
end Go.Proofs.Ytloenigleamcoaa.Sb

set_option linter.unusedSimpArgs false
set_option linter.unusedVariables false
namespace Go.Proofs.Ytloenigleamcoaa.Mk
open Go.RowKit

theorem ret_str {a b : ByteArray} (h : a = b) : Ending.returned (.string a) = .returned (.string b) := by rw [h]
theorem wf_dot {m : Int × Int} (h : dotB m = true) : (Lit.int .i64 m.1).wf = true ∧ (Lit.int .i64 m.2).wf = true := by
  have := (dotB_iff m).1 h
  exact ⟨WalkArith.wf_i64 (by omega), WalkArith.wf_i64 (by omega)⟩
set_option maxRecDepth 100000 in
set_option maxHeartbeats 2000000 in
theorem spec_bytes (a : Option Addr) (cap : Nat) (l : List (Int × Int)) (w : World) (hr : rightB l = true) (h : MarksAt w a l) :
    Calls Try.prog 93 #[.slice a l.length cap] w fun e w' => e = .returned (.string (bytesV l)) ∧ Below w.heap.size w w' := by
  have H := Lib.hid h
  have HR := Lib.hid hr
  have h5 := right_len hr
  clear h hr
  go_enter Try.func93, Try.ntmps93
  go_wp2_with fail
  refine (Nu.spec_PutNum (l.length : Int) (WalkArith.wf_i64 (by omega)) _).mono ?_
  rintro e w0 ⟨rfl, hb0⟩
  rw [Nu.numS_mk]
  have HB0 := Lib.hid hb0
  clear hb0
  go_wp2
  go_loopw [3, 4] (fun z i wr => ∃ (k : Nat) (t : ByteArray), k ≤ l.length ∧ i = .int .i64 k ∧ z = .string t ∧ upTo l k t ∧ Below w.heap.size w wr) (fun _ i _ => l.length - (intOf i).toNat)
  case atStart => exact ⟨0, _, Nat.zero_le _, rfl, rfl, upTo_zero l h5, HB0.out⟩
  case round =>
    obtain ⟨k, t, hk, rfl, rfl, ht, hbel⟩ := hrel
    have HT := Lib.hid ht
    have hts := ht.2
    have HB := Lib.hid hbel
    clear ht hbel
    by_cases hlt : k < l.length
    · obtain ⟨g, off, rfl, hg, c0, c1⟩ := (H.out.mono HB.out).cells hlt
      have hd := right_dot HR.out _ (List.getElem_mem hlt)
      have HN := Lib.hid (upTo_next HT.out hlt hd)
      have hw := wf_dot hd
      have hm := (dotB_iff _).1 hd
      clear hd
      generalize l[k] = m at c0 c1 HN hw hm
      obtain ⟨x, y⟩ := m
      simp only at c0 c1 HN hw hm
      have Wx := Lib.hid hw.1
      have Wy := Lib.hid hw.2
      have sx := Nu.numS_size_of x (by omega)
      have sy := Nu.numS_size_of y (by omega)
      have i0 : (0 : Int) ≤ (k : Int) := by omega
      have i1 : (k : Int) < (l.length : Int) := by omega
      have z1 : ¬ 9223372036854775807 < t.size + (Nu.numS x).size := by omega
      have z2 : ¬ 9223372036854775807 < t.size + (Nu.numS x).size + (Nu.numS y).size := by omega
      clear hw
      go_wp2_with fail
      refine wp_region_held_drew (S := (fun w' => w'.cell? ⟨g, off + k * 2, none⟩ = some (.int .i64 x) ∧ w'.cell? ⟨g, off + k * 2 + 1, none⟩ = some (.int .i64 y) ∧ g < w'.heap.size)) (by kernel_rfl) (by first | exact ⟨c0, c1, hg⟩ | (go_split_ands; refine ⟨?_, ?_, ?_⟩; (rw [hb.cell (by assumption)]; assumption); (rw [hb.cell (by assumption)]; assumption); (have := hb.size; omega))) (fun hHeld => ?_)
      refine wpAnyH_take (i := 0) (v := ?_) rfl (by kernel_rfl) (by kernel_rfl) (by kernel_rfl) (fun _ _ _ h => h) (Or.inl ⟨by rfl, fun w hSw => by (try dsimp only at hSw); go_simp; (try with_reducible rfl)⟩) (by assumption) ?_
      try simp only [Act.put, List.setIfInBounds_toArray, List.set_cons_zero, List.set_cons_succ, List.getElem_toArray, List.getElem_cons_zero, List.getElem_cons_succ]
      refine wpAnyH_take (i := 1) (v := ?_) rfl (by kernel_rfl) (by kernel_rfl) (by kernel_rfl) (fun _ _ _ h => h) (Or.inl ⟨by rfl, fun w hSw => by (try dsimp only at hSw); go_simp; (try with_reducible rfl)⟩) (by assumption) ?_
      try simp only [Act.put, List.setIfInBounds_toArray, List.set_cons_zero, List.set_cons_succ, List.getElem_toArray, List.getElem_cons_zero, List.getElem_cons_succ]
      refine wpAnyH_take (i := 2) (v := ?_) rfl (by kernel_rfl) (by kernel_rfl) (by kernel_rfl) (fun _ _ _ h => h) (Or.inl ⟨by rfl, fun w hSw => by (try dsimp only at hSw); go_simp; (try with_reducible rfl)⟩) (by assumption) ?_
      try simp only [Act.put, List.setIfInBounds_toArray, List.set_cons_zero, List.set_cons_succ, List.getElem_toArray, List.getElem_cons_zero, List.getElem_cons_succ]
      refine wpAnyH_take (i := 3) (v := ?_) rfl (by kernel_rfl) (by kernel_rfl) (by kernel_rfl) (fun _ _ _ h => h) (Or.inl ⟨by rfl, fun w hSw => by (try dsimp only at hSw); go_simp; (try with_reducible rfl)⟩) (by assumption) ?_
      try simp only [Act.put, List.setIfInBounds_toArray, List.set_cons_zero, List.set_cons_succ, List.getElem_toArray, List.getElem_cons_zero, List.getElem_cons_succ]
      refine wpAnyH_take (i := 4) (v := ?_) rfl (by kernel_rfl) (by kernel_rfl) (by kernel_rfl) (fun _ _ _ h => h) (Or.inl ⟨by rfl, fun w hSw => by (try dsimp only at hSw); go_simp; (try with_reducible rfl)⟩) (by assumption) ?_
      try simp only [Act.put, List.setIfInBounds_toArray, List.set_cons_zero, List.set_cons_succ, List.getElem_toArray, List.getElem_cons_zero, List.getElem_cons_succ]
      refine wpAnyH_take (i := 5) (v := ?_) rfl (by kernel_rfl) (by kernel_rfl) (by kernel_rfl) (fun _ _ _ h => h) (Or.inl ⟨by rfl, fun w hSw => by (try dsimp only at hSw); go_simp; (try with_reducible rfl)⟩) (by assumption) ?_
      try simp only [Act.put, List.setIfInBounds_toArray, List.set_cons_zero, List.set_cons_succ, List.getElem_toArray, List.getElem_cons_zero, List.getElem_cons_succ]
      refine wpAnyH_take (i := 8) (v := ?_) rfl (by kernel_rfl) (by kernel_rfl) (by kernel_rfl) (fun _ _ _ h => h) (Or.inl ⟨by rfl, fun w hSw => by (try dsimp only at hSw); go_simp; (try with_reducible rfl)⟩) (by assumption) ?_
      try simp only [Act.put, List.setIfInBounds_toArray, List.set_cons_zero, List.set_cons_succ, List.getElem_toArray, List.getElem_cons_zero, List.getElem_cons_succ]
      refine wpAnyH_take (i := 9) (v := ?_) rfl (by kernel_rfl) (by kernel_rfl) (by kernel_rfl) (fun _ _ _ h => h) (Or.inl ⟨by rfl, fun w hSw => by (try dsimp only at hSw); go_simp; (try with_reducible rfl)⟩) (by assumption) ?_
      try simp only [Act.put, List.setIfInBounds_toArray, List.set_cons_zero, List.set_cons_succ, List.getElem_toArray, List.getElem_cons_zero, List.getElem_cons_succ]
      refine wpAnyH_take (i := 10) (v := ?_) rfl (by kernel_rfl) (by kernel_rfl) (by kernel_rfl) (fun _ _ _ h => h) (Or.inl ⟨by rfl, fun w hSw => by (try dsimp only at hSw); go_simp; (try with_reducible rfl)⟩) (by assumption) ?_
      try simp only [Act.put, List.setIfInBounds_toArray, List.set_cons_zero, List.set_cons_succ, List.getElem_toArray, List.getElem_cons_zero, List.getElem_cons_succ]
      refine wpAnyH_take (i := 11) (v := ?_) rfl (by kernel_rfl) (by kernel_rfl) (by kernel_rfl) (fun _ _ _ h => h) (Or.inl ⟨by rfl, fun w hSw => by (try dsimp only at hSw); go_simp; (try with_reducible rfl)⟩) (by assumption) ?_
      try simp only [Act.put, List.setIfInBounds_toArray, List.set_cons_zero, List.set_cons_succ, List.getElem_toArray, List.getElem_cons_zero, List.getElem_cons_succ]
      refine wpAnyH_take (i := 12) (v := ?_) rfl (by kernel_rfl) (by kernel_rfl) (by kernel_rfl) (fun _ _ _ h => h) (Or.inl ⟨by rfl, fun w hSw => by (try dsimp only at hSw); go_simp; (try with_reducible rfl)⟩) (by assumption) ?_
      try simp only [Act.put, List.setIfInBounds_toArray, List.set_cons_zero, List.set_cons_succ, List.getElem_toArray, List.getElem_cons_zero, List.getElem_cons_succ]
      refine wpAnyH_ready (rs := [6]) (by kernel_rfl) (by simp) ?_
      refine AllReadyH.cons rfl (fun K hK => ?_) AllReadyH.nil
      go_simp
      go_at_call 61; refine (Nu.spec_PutNum x Wx.out _).mono ?_; rintro e w1 ⟨rfl, hb⟩; rw [Nu.numS_mk]; have HB1 := Lib.hid (HB.out.drew.trans (hb.mono HB.out.size))
      go_wp2_with fail
      refine hK.out _ _ (by first | exact ⟨c0, c1, hg⟩ | (go_split_ands; refine ⟨?_, ?_, ?_⟩; (rw [hb.cell (by assumption)]; assumption); (rw [hb.cell (by assumption)]; assumption); (have := hb.size; omega))) (fun hHeld => ?_)
      clear hK K
      try simp only [Act.put, List.setIfInBounds_toArray, List.set_cons_zero, List.set_cons_succ, List.getElem_toArray, List.getElem_cons_zero, List.getElem_cons_succ]
      refine wpAnyH_take (i := 7) (v := ?_) rfl (by kernel_rfl) (by kernel_rfl) (by kernel_rfl) (fun _ _ _ h => h) (Or.inl ⟨by rfl, fun w hSw => by (try dsimp only at hSw); go_simp; (try with_reducible rfl)⟩) (by assumption) ?_
      try simp only [Act.put, List.setIfInBounds_toArray, List.set_cons_zero, List.set_cons_succ, List.getElem_toArray, List.getElem_cons_zero, List.getElem_cons_succ]
      refine wpAnyH_ready (rs := [13]) (by kernel_rfl) (by simp) ?_
      refine AllReadyH.cons rfl (fun K hK => ?_) AllReadyH.nil
      go_simp
      go_at_call 61; refine (Nu.spec_PutNum y Wy.out _).mono ?_; rintro e w2 ⟨rfl, hb⟩; rw [Nu.numS_mk]; have HB2 := Lib.hid (HB1.out.trans (hb.mono HB1.out.size))
      go_wp2_with fail
      refine hK.out _ _ (by first | exact ⟨c0, c1, hg⟩ | (go_split_ands; refine ⟨?_, ?_, ?_⟩; (rw [hb.cell (by assumption)]; assumption); (rw [hb.cell (by assumption)]; assumption); (have := hb.size; omega))) (fun hHeld => ?_)
      clear hK K
      try simp only [Act.put, List.setIfInBounds_toArray, List.set_cons_zero, List.set_cons_succ, List.getElem_toArray, List.getElem_cons_zero, List.getElem_cons_succ]
      refine wpAnyH_take (i := 14) (v := ?_) rfl (by kernel_rfl) (by kernel_rfl) (by kernel_rfl) (fun _ _ _ h => h) (Or.inl ⟨by rfl, fun w hSw => by (try dsimp only at hSw); go_simp; (try with_reducible rfl)⟩) (by assumption) ?_
      try simp only [Act.put, List.setIfInBounds_toArray, List.set_cons_zero, List.set_cons_succ, List.getElem_toArray, List.getElem_cons_zero, List.getElem_cons_succ]
      refine wpAnyH_take (i := 15) (v := ?_) rfl (by kernel_rfl) (by kernel_rfl) (by kernel_rfl) (fun _ _ _ h => h) (Or.inl ⟨by rfl, fun w hSw => by (try dsimp only at hSw); go_simp; (try with_reducible rfl)⟩) (by assumption) ?_
      try simp only [Act.put, List.setIfInBounds_toArray, List.set_cons_zero, List.set_cons_succ, List.getElem_toArray, List.getElem_cons_zero, List.getElem_cons_succ]
      refine wpAnyH_done (by kernel_rfl) ?_ _
      go_wp2
      go_roundw
      case rel => exact ⟨k + 1, _, by omega, by go_num, rfl, HN.out, HB2.out⟩
      case measure => go_light; simp [intOf]; omega
    · go_wp2
      go_ret
      exact ⟨ret_str (upTo_end HT.out (by omega) HR.out), HB.out⟩
end Go.Proofs.Ytloenigleamcoaa.Mk
