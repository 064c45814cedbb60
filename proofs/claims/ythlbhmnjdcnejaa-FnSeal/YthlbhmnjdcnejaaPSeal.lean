/- The law of sealed strings: a seal is opened again; with one byte changed it is refused; a CRC goes on. No condition. -/
import Derived.Test.YthlbhmnjdcnejaaSealMath
import Derived.Test.YthlbhmnjdcnejaaPSealDraw
import Derived.Deep.RegionWith
namespace Go.Proofs.Ythlbhmnjdcnejaa.Se
open Go.RowKit Nu Cr Dr

theorem _root_.Go.Proofs.Ythlbhmnjdcnejaa.Dr.Bytes8.mono {w : World} {B B' : Nat} {a : Option Addr} {len : Nat} (h : Bytes8 w B a len) (hB : B ≤ B') : Bytes8 w B' a len := by
  rcases h with h | ⟨b, off, rfl, hb, hc⟩
  · exact .inl h
  · exact .inr ⟨b, off, rfl, by omega, hc⟩

theorem field5 (W : World) : (Instr.field 27 (.agg #[.string ⟨#[]⟩, .int .i64 0, .int .i64 5]) 2).run Try.prog W = .ok (.int .i64 5) W := by kernel_rfl
/-- block g begins with the bytes l, which may be written -/
structure Seg8 (w : World) (g : Nat) (l : List UInt8) : Prop where
  cell : ∀ j (h : j < l.length), w.cell? ⟨g, j, none⟩ = some (bv l[j])
  free : ∀ j, j < l.length → w.frozen? ⟨g, j, none⟩ = false
theorem Seg8.string {w : World} {g : Nat} {l : List UInt8} (h : Seg8 w g l) (c : Nat) :
    (convert 22 9 (.slice (some ⟨g, 0, none⟩) l.length c)).run Try.prog w = .ok (.string ⟨l.toArray⟩) w := by
  refine run_convert_bytes_back (P := Try.prog) w 22 9 5 ⟨g, 0, none⟩ c l Try.underlying22 Try.underlying5 Try.underlying9 (fun j hj => ?_)
  have e : (⟨g, 0, none⟩ : Addr).add j = ⟨g, j, none⟩ := by unfold Addr.add; split <;> simp_all
  rw [e]; exact h.cell j hj
theorem Seg8.set {w : World} {g : Nat} {l : List UInt8} (h : Seg8 w g l) (k : Nat) (hk : k < l.length) (b : UInt8) : Seg8 (w.setCell ⟨g, k, none⟩ (bv b)) g (l.set k b) := by
  constructor
  · intro j hj
    have hj' : j < l.length := by simpa using hj
    by_cases e : j = k
    · subst e
      rw [World.cell?_setCell_same _ _ _ (h.cell j hj'), List.getElem_set_self]
    · rw [World.cell?_setCell_other _ _ _ _ (by intro hh; injection hh with _ h2; exact e h2.symm), h.cell j hj', List.getElem_set_ne (fun hh => e hh.symm)]
  · intro j hj
    rw [World.frozen?_setCell]; exact h.free j (by simpa using hj)
theorem Seg8.below {w w' : World} {g : Nat} {l : List UInt8} (h : Seg8 w g l) (hb : Below w.heap.size w w') (hg : g < w.heap.size) : Seg8 w' g l :=
  ⟨fun j hj => (hb.cell (p := ⟨g, j, none⟩) hg).trans (h.cell j hj), fun j hj => (hb.frozen (p := ⟨g, j, none⟩) hg).trans (h.free j hj)⟩
/-- a string's bytes laid in new memory -/
theorem bytes_of (w : World) (s : ByteArray) : ∃ (c : Nat) (w' : World), (convert 9 22 (.string s)).run Try.prog w = .ok (.slice (some ⟨w.heap.size, 0, none⟩) s.size c) w' ∧ Seg8 w' w.heap.size s.data.toList ∧ Below w.heap.size w w' ∧ w.heap.size < w'.heap.size := by
  refine ⟨_, _, run_bytes_of_string w 9 22 5 s Try.underlying9 Try.underlying22 Try.underlying5, ⟨fun j hj => ?_, fun j hj => ?_⟩, (Below.refl _ _).drew.alloc (Nat.le_refl _) _, by simp⟩
  · have := World.cell?_alloc_mark w.drew (bytesRow s (grownCap w s.size 0 5)) 5 ((bytesRow s (grownCap w s.size 0 5)).size, (bytesRow s (grownCap w s.size 0 5)).size + 1) j
    exact this.trans (bytesRow_at s _ j (by simpa using hj))
  · have := World.frozen?_alloc_mark w.drew (bytesRow s (grownCap w s.size 0 5)) 5 (bytesRow s (grownCap w s.size 0 5)).size ((bytesRow s (grownCap w s.size 0 5)).size + 1) j
    refine this.trans ?_
    have hle : s.data.toList.length ≤ (bytesRow s (grownCap w s.size 0 5)).size := by unfold bytesRow; simp
    simp; omega

set_option maxRecDepth 100000 in
set_option maxHeartbeats 4000000 in
theorem law_FnSeal (a0 a1 : Option Addr) (len0 cap0 len1 cap1 : Nat) (w : World) (hl0 : len0 ≤ 1048576) (hl1 : len1 ≤ 1048576) (h0 : Bytes8 w w.heap.size a0 len0) (h1 : Bytes8 w w.heap.size a1 len1) :
    Calls Try.prog 3 #[.slice a0 len0 cap0, .slice a1 len1 cap1] w fun e w' => e = .returned (.bool true) ∧ Below w.heap.size w w' := by
  have H1 := Lib.hid h1
  have HD := Lib.hid (drawSeal w a0 len0 cap0 hl0 h0)
  have d0 : decide (1048576 < (len0 : Int)) = false := by simp; omega
  have d1 : decide (1048576 < (len1 : Int)) = false := by simp; omega
  clear h0 h1
  go_enter Try.func3, Try.ntmps3
  go_wp2_with fail
  refine HD.out.mono ?_
  rintro e w1 ⟨t, ht, rfl, hb1⟩
  have HB1 := Lib.hid hb1
  have htm : t.size ≤ maxLen := by unfold maxLen; omega
  clear hb1 HD
  by_cases hlong : 7996 < t.size
  · have K1 := fun W => impl_Seal t htm W
    have K2 := fun W => spec_Seal t htm W
    rw [sealed_long t hlong] at K1 K2
    have HK1 := Lib.hid K1
    have HK2 := Lib.hid K2
    clear K1 K2 htm
    go_wp2_with fail
    refine (HK1.out _).mono ?_
    rintro e w2 ⟨rfl, hb2⟩
    have HB2 := Lib.hid (HB1.out.trans (hb2.mono HB1.out.size))
    clear hb2
    go_wp2_with fail
    refine (HK2.out _).mono ?_
    rintro e w3 ⟨rfl, hb3⟩
    have HB3 := Lib.hid (HB2.out.trans (hb3.mono HB2.out.size))
    clear hb3 HK1 HK2
    -- the tail: a CRC goes on
    have hBy := Lib.hid (H1.out.below HB3.out)
    go_wp2_with fail
    refine (drawCrcMore w3 a1 len1 cap1 hl1 (hBy.out.mono HB3.out.size)).mono ?_
    rintro e wc1 ⟨x, u, hx, hu, rfl, hbc⟩
    have HC := Lib.hid (HB3.out.trans (hbc.mono HB3.out.size))
    clear hbc
    by_cases hbig : 8000 < t.size + u.size
    · have b1 : (8000 : Int) < (t.size : Int) + (u.size : Int) := by omega
      go_wp2
      go_ret
      exact ⟨rfl, HC.out⟩
    · have b1 : decide ((8000 : Int) < (t.size : Int) + (u.size : Int)) = false := by simp; omega
      have HQ := Lib.hid (crc_more t u (by omega))
      have hcl := crcN_lt t
      have hcw : (Lit.int .i64 (crc t)).wf = true := WalkArith.wf_i64 (by rw [crc_eq]; omega)
      have htm : t.size ≤ maxLen := by unfold maxLen; omega
      have hum : u.size ≤ maxLen := by unfold maxLen; omega
      have htu : (t ++ u).size ≤ maxLen := by rw [ByteArray.size_append]; unfold maxLen; omega
      have K1 := Lib.hid (impl_CrcMore x hx u hum wc1)
      have K2 := Lib.hid (spec_CrcMore x hx u hum wc1)
      have K3 := Lib.hid (impl_Crc t htm wc1)
      have K4 := Lib.hid (impl_CrcMore (crc t) hcw u hum wc1)
      have K5 := Lib.hid (impl_Crc (t ++ u) htu wc1)
      clear hcw htm hum htu hcl hx
      go_wp2_with fail
      refine K1.out.mono ?_
      rintro e w' ⟨rfl, rfl⟩
      go_wp2_with fail
      refine K2.out.mono ?_
      rintro e w' ⟨rfl, rfl⟩
      go_wp2_with fail
      refine K3.out.mono ?_
      rintro e w' ⟨rfl, rfl⟩
      go_wp2_with fail
      refine K4.out.mono ?_
      rintro e w' ⟨rfl, rfl⟩
      go_wp2_with fail
      refine K5.out.mono ?_
      rintro e w' ⟨rfl, rfl⟩
      rw [HQ.out]
      go_wp2
      go_ret
      exact ⟨rfl, HC.out⟩
  · have K1 := fun W => impl_Seal t htm W
    have K2 := fun W => spec_Seal t htm W
    have hzz : (sealed t).size = t.size + 4 := by rw [sealed_short t hlong, ByteArray.size_append]; rfl
    have hdd : (sealed t).data.toList = t.data.toList ++ fourL (crcN t) := by rw [sealed_short t hlong, ByteArray.data_append]; simp [four]
    have K3 := fun W => impl_Unseal (sealed t) (by rw [hzz]; unfold maxLen; omega) W
    have hop : unsealed (sealed t) = out t 0 0 := by rw [sealed_short t hlong]; exact (seal_open t hlong).symm
    rw [hop] at K3
    unfold out at K3
    have HDD := Lib.hid hdd
    have hs4 : 4 ≤ (sealed t).size := by omega
    have hs8 : (sealed t).size ≤ 8000 := by omega
    have hne : (sealed t).toList.isEmpty = false := by
      rw [ByteArray.toList_eq, hdd]; simp [fourL]
    clear hop hdd hzz
    generalize sealed t = sq at K1 K2 K3 HDD hs4 hs8 hne
    have HK1 := Lib.hid K1
    have HK2 := Lib.hid K2
    have HK3 := Lib.hid K3
    clear K1 K2 K3 htm
    go_wp2_with fail
    refine (HK1.out _).mono ?_
    rintro e w2 ⟨rfl, hb2⟩
    have HB2 := Lib.hid (HB1.out.trans (hb2.mono HB1.out.size))
    clear hb2
    go_wp2_with fail
    refine (HK2.out _).mono ?_
    rintro e w3 ⟨rfl, hb3⟩
    have HB3 := Lib.hid (HB2.out.trans (hb3.mono HB2.out.size))
    clear hb3 HK1 HK2
    obtain ⟨c, w4, hcv, hseg, hb4, hz4⟩ := bytes_of w3 sq
    have HSG := Lib.hid hseg
    have HB4 := Lib.hid (HB3.out.trans (hb4.mono HB3.out.size))
    have hB3s := HB3.out.size
    clear hseg hb4
    obtain ⟨r1, hr1, C1⟩ := lwAt w4 w.heap.size a1 len1 cap1 0 sq.size hl1 (by omega) (by omega) (H1.out.below HB4.out)
    obtain ⟨r2, hr2, C2⟩ := lwAt w4 w.heap.size a1 len1 cap1 1 255 hl1 (by omega) (by omega) (H1.out.below HB4.out)
    have hr1' : r1 < sq.data.toList.length := by rw [size_data]; omega
    have hr2' : r2 < 255 := by omega
    have hlr : (r1 : Int) < (sq.size : Int) := by rw [size_data] at hr1'; omega
    have HC1 := Lib.hid (C1 w4 (Below.refl _ _))
    have HC2 := Lib.hid C2
    clear C1 C2 hr1 hr2
    go_wp2_with fail
    refine HC1.out.mono ?_
    rintro e w' ⟨rfl, rfl⟩
    have e1 := HSG.out.cell r1 hr1'
    have e2 := HSG.out.free r1 hr1'
    obtain ⟨xb, hxe⟩ : ∃ xb : Nat, xb = (sq.data.toList[r1]).toNat := ⟨_, rfl⟩
    have hxb : xb < 256 := by rw [hxe]; exact UInt8.toNat_lt _
    unfold bv at e1
    rw [← hxe] at e1
    have HXE := Lib.hid hxe
    clear hxe
    have hxo := u8_xor_nat xb (1 + r2) (by omega) (by omega)
    rw [show ((1 + r2 : Nat) : Int) = 1 + (r2 : Int) by omega] at hxo
    have hy : xb ^^^ (1 + r2) < 256 := Nat.xor_lt_two_pow (n := 8) (by omega) (by omega)
    have hyne : xb ^^^ (1 + r2) ≠ xb := fun he => by
      have h2 : (1 + r2) ^^^ xb = 0 ^^^ xb := by rw [Nat.xor_comm, he, Nat.zero_xor]
      have := xor_inj h2
      omega
    generalize xb ^^^ (1 + r2) = y at hxo hy hyne
    have q0 : (0 : Int) ≤ (r1 : Int) := by omega
    have q1 : IntKind.i64.wrap (1 + (r2 : Int)) = 1 + (r2 : Int) := IntWalk.i64_in _ (by omega)
    have q2 : IntKind.u8.wrap (1 + (r2 : Int)) = 1 + (r2 : Int) := by rw [IntKind.wrap_u8']; omega
    have q3 : (1 + (r2 : Int)) % 256 = 1 + (r2 : Int) := by omega
    have hs5 : Seg8 (w4.setCell ⟨w3.heap.size, r1, none⟩ (.int .u8 (y : Int))).drew w3.heap.size (sq.data.toList.set r1 (UInt8.ofNat y)) := by
      have := HSG.out.set r1 hr1' (UInt8.ofNat y)
      rw [← bv_of y hy] at this
      exact ⟨this.cell, this.free⟩
    have hlen5 : (sq.data.toList.set r1 (UInt8.ofNat y)).length = sq.size := by rw [List.length_set, size_data]
    have hg5 : w3.heap.size < (w4.setCell ⟨w3.heap.size, r1, none⟩ (.int .u8 (y : Int))).drew.heap.size := by simpa [World.setCell] using hz4
    have HB5 := Lib.hid ((HB4.out.setCell (p := ⟨w3.heap.size, r1, none⟩) hB3s (.int .u8 (y : Int))).drew)
    have hbad : out ⟨#[]⟩ 0 5 = unsealed ⟨(sq.data.toList.set r1 (UInt8.ofNat y)).toArray⟩ := by
      have hr0 := hr1'
      have hx0 := HXE.out
      have hdd := HDD.out
      refine seal_bad t hlong _ r1 (UInt8.ofNat y) (by rw [← hdd]; exact hr0) ?_ (by rw [← hdd])
      intro he
      apply hyne
      have h3 : (UInt8.ofNat y).toNat = xb := by
        rw [he, hx0]; congr 1; simp only [hdd]
      rw [toNat_ofNat y hy] at h3; exact h3
    have hsz' : (⟨(sq.data.toList.set r1 (UInt8.ofNat y)).toArray⟩ : ByteArray).size = sq.size := by rw [← size_data, ← size_data]; simp
    have K6 := fun W => impl_Unseal ⟨(sq.data.toList.set r1 (UInt8.ofNat y)).toArray⟩ (by rw [hsz']; unfold maxLen; omega) W
    rw [← hbad] at K6
    unfold out at K6
    have HK6 := Lib.hid K6
    have HS5 := Lib.hid hs5
    have HL5 := Lib.hid hlen5
    clear K6 hbad hsz' hs5 hyne HXE hlen5
    generalize sq.data.toList.set r1 (UInt8.ofNat y) = l5 at HK6 HS5 HL5
    go_wp2_with fail
    go_region_with (go_at_call 7; refine (HC2.out _ (by first | exact Below.refl _ _ | exact (Below.refl _ _).drew)).mono ?_; rintro e w' ⟨rfl, rfl⟩)
    all_goals
      generalize (w4.setCell ⟨w3.heap.size, r1, none⟩ (.int .u8 (y : Int))).drew = w5 at HB5 HS5 hg5 ⊢
      clear e1 e2 hcv hxo q1 q2 q3
      go_wp2_with fail
      refine (HK3.out _).mono ?_
      rintro e w6 ⟨rfl, hb6⟩
      have hcv2 := (HS5.out.below hb6 hg5).string c
      rw [HL5.out] at hcv2
      have HB6 := Lib.hid (HB5.out.trans (hb6.mono HB5.out.size))
      clear hb6
      go_wp2_with fail
      refine (HK6.out _).mono ?_
      rintro e w7 ⟨rfl, hb7⟩
      have HB7 := Lib.hid (HB6.out.trans (hb7.mono HB6.out.size))
      clear hb7 hcv2
      have hfd := field5
      -- the tail: a CRC goes on
      have hBy := Lib.hid (H1.out.below HB7.out)
      go_wp2_with fail
      refine (drawCrcMore w7 a1 len1 cap1 hl1 (hBy.out.mono HB7.out.size)).mono ?_
      rintro e wc2 ⟨x, u, hx, hu, rfl, hbc⟩
      have HC := Lib.hid (HB7.out.trans (hbc.mono HB7.out.size))
      clear hbc
      by_cases hbig : 8000 < t.size + u.size
      · have b1 : (8000 : Int) < (t.size : Int) + (u.size : Int) := by omega
        go_wp2
        go_ret
        exact ⟨rfl, HC.out⟩
      · have b1 : decide ((8000 : Int) < (t.size : Int) + (u.size : Int)) = false := by simp; omega
        have HQ := Lib.hid (crc_more t u (by omega))
        have hcl := crcN_lt t
        have hcw : (Lit.int .i64 (crc t)).wf = true := WalkArith.wf_i64 (by rw [crc_eq]; omega)
        have htm : t.size ≤ maxLen := by unfold maxLen; omega
        have hum : u.size ≤ maxLen := by unfold maxLen; omega
        have htu : (t ++ u).size ≤ maxLen := by rw [ByteArray.size_append]; unfold maxLen; omega
        have K1 := Lib.hid (impl_CrcMore x hx u hum wc2)
        have K2 := Lib.hid (spec_CrcMore x hx u hum wc2)
        have K3 := Lib.hid (impl_Crc t htm wc2)
        have K4 := Lib.hid (impl_CrcMore (crc t) hcw u hum wc2)
        have K5 := Lib.hid (impl_Crc (t ++ u) htu wc2)
        clear hcw htm hum htu hcl hx
        go_wp2_with fail
        refine K1.out.mono ?_
        rintro e w' ⟨rfl, rfl⟩
        go_wp2_with fail
        refine K2.out.mono ?_
        rintro e w' ⟨rfl, rfl⟩
        go_wp2_with fail
        refine K3.out.mono ?_
        rintro e w' ⟨rfl, rfl⟩
        go_wp2_with fail
        refine K4.out.mono ?_
        rintro e w' ⟨rfl, rfl⟩
        go_wp2_with fail
        refine K5.out.mono ?_
        rintro e w' ⟨rfl, rfl⟩
        rw [HQ.out]
        go_wp2
        go_ret
        exact ⟨rfl, HC.out⟩
end Go.Proofs.Ythlbhmnjdcnejaa.Se
