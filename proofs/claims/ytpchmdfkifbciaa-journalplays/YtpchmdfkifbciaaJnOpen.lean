/- What Open of package journal answers of a device whose power is on. Conditions: the device lies in memory. -/
import Derived.Test.YtpchmdfkifbciaaJnTake
import Derived.Test.YtpchmdfkifbciaaJnSame
namespace Go.Proofs.Ytpchmdfkifbciaa
open Go.RowKit

/-- The image is one frame, and nothing is behind it. -/
def imgOk (im : List UInt8) : Prop := unfE im = 0 ∧ im.length ≤ wordV im + 8
def openE (S : DS) (q p : Nat) : Int := if q = 8 then 0 else if q = 4 then writeE S (cutE S (p : Nat)) else 5
def openS (S : DS) (q p : Nat) : DS := if q = 4 then writeS S (cutS S (p : Nat)) S else S
/-- What Open answers where the image is right. -/
def OpenV (w : World) (db : Nat) (RD : Nat → Prop) (S : DS) (e : Ending) (w' : World) : Prop :=
  ∃ rs p, Fr S.log rs p ∧ unfE (S.log.drop p) ≠ 0 ∧
    (openE S (unfE (S.log.drop p)) p = 0 → ∃ jb R', e = .returned (.tuple #[.pointer (some ⟨jb, 0, none⟩), .int .i64 0]) ∧ Jd w' jb db R' (openS S (unfE (S.log.drop p)) p) ⟨unfD S.image, rs, false⟩ ∧ But RD w w' ∧ ∀ k, R' k → RD k ∨ w.heap.size ≤ k) ∧
    (openE S (unfE (S.log.drop p)) p ≠ 0 → e = .returned (.tuple #[.pointer none, .int .i64 (openE S (unfE (S.log.drop p)) p)]) ∧ Step w db RD w' (openS S (unfE (S.log.drop p)) p))
theorem Jd.dk {w : World} {jb db : Nat} {R : Nat → Prop} {S : DS} {J : JS} (h : Jd w jb db R S J) : ∃ RD, Dk w db RD S ∧ ∀ k, RD k → R k := by
  obtain ⟨RJ, RD, h, e⟩ := h
  exact ⟨RD, h.d, fun k hk => (e k).2 (.inr hk)⟩
set_option maxHeartbeats 1600000 in
theorem open_bad (db : Nat) (RD : Nat → Prop) (S : DS) (c : Nat) (w : World) (hd : Dk w db RD S) (hon : S.off = false) (hc : (unfE S.image ≠ 0 ∧ c = unfE S.image) ∨ (unfE S.image = 0 ∧ wordV S.image + 8 < S.image.length ∧ c = 4)) :
    Calls Try.prog 27 #[.pointer (some ⟨db, 0, none⟩)] w fun e w' => e = .returned (.tuple #[.pointer none, .int .i64 (c : Nat)]) ∧ Below w.heap.size w w' := by
  have HD := hid hd
  have HN := hid hon
  have HC := hid hc
  have hil := hd.ok.image
  have hc0 : ((c : Int) == 0) = false := by
    rcases hc with ⟨h1, h2⟩ | ⟨h1, h2, h3⟩
    · simp; omega
    · simp; omega
  clear hd hon hc
  go_enter Try.func27, Try.ntmps27
  go_wp2_with fail
  refine (image_any db RD S _ HD.out).mono ?_
  rw [toldL_on HN.out, toldE_on HN.out]
  rintro e w1 ⟨va1, vc1, rfl, ho1, hb1⟩
  have HO1 := hid ho1
  have HB1 := hid hb1
  clear ho1 hb1
  go_wp2_with fail
  refine (log_any db RD S _ (HD.out.below HB1.out)).mono ?_
  rw [toldL_on HN.out, toldE_on HN.out]
  rintro e w2 ⟨va2, vc2, rfl, ho2, hb2⟩
  have HB2 := hid (HB1.out.trans (hb2.mono HB1.out.size))
  have HI := hid (HO1.out.bts.below hb2)
  clear ho2 hb2
  go_wp2_with fail
  have hbad : Calls Try.prog 53 #[.slice va1 S.image.length vc1] w2 fun e w' => e = .returned (.tuple #[.slice none 0 0, .int .i64 (c : Nat)]) ∧ Below w2.heap.size w2 w' := by
    rcases HC.out with ⟨h1, rfl⟩ | ⟨h1, h2, rfl⟩
    · exact only_bad _ S.image _ HI.out (by omega) h1
    · exact only_more _ S.image _ HI.out (by omega) h1 h2
  refine hbad.mono ?_
  rintro e w3 ⟨rfl, hb3⟩
  have HB3 := hid (HB2.out.trans (hb3.mono HB2.out.size))
  clear hb3 hbad
  go_wp2
  go_ret2
  exact ⟨rfl, HB3.out⟩
set_option maxHeartbeats 1600000 in
theorem open_any (db : Nat) (RD : Nat → Prop) (S : DS) (w : World) (hd : Dk w db RD S) (hon : S.off = false) (hi : imgOk S.image) :
    Calls Try.prog 27 #[.pointer (some ⟨db, 0, none⟩)] w (OpenV w db RD S) := by
  have HD := hid hd
  have HN := hid hon
  have HC := hid hi
  have hil := hd.ok.image
  have hll := hd.ok.log
  have hdlt := hd.lt
  clear hd hon hi
  go_enter Try.func27, Try.ntmps27
  go_wp2_with fail
  refine (image_any db RD S _ HD.out).mono ?_
  rw [toldL_on HN.out, toldE_on HN.out]
  rintro e w1 ⟨va1, vc1, rfl, ho1, hb1⟩
  have HO1 := hid ho1
  have HB1 := hid hb1
  clear ho1 hb1
  go_wp2_with fail
  refine (log_any db RD S _ (HD.out.below HB1.out)).mono ?_
  rw [toldL_on HN.out, toldE_on HN.out]
  rintro e w2 ⟨va2, vc2, rfl, ho2, hb2⟩
  have HB2 := hid (HB1.out.trans (hb2.mono HB1.out.size))
  have HI := hid (HO1.out.bts.below hb2)
  have HO2 := hid (ho2.lower HB1.out.size)
  have HLB := hid HO2.out.lt
  clear ho2 hb2
  go_wp2_with fail
  refine (only_ok _ S.image _ HI.out (by omega) HC.out.1 HC.out.2).mono ?_
  rintro e w3 ⟨va3, vc3, rfl, ho3, hb3⟩
  have HB3 := hid (HB2.out.trans (hb3.mono HB2.out.size))
  have HIB := hid ho3.lt
  have HO3 := hid (ho3.lower (Nat.zero_le _))
  have HL3 := hid (HO2.out.bts.below hb3)
  have hs2 := HB2.out.size
  have hs23 := hb3.size
  clear ho3 hb3 HO2 HI HO1 HB1 HB2
  go_wp2_with fail
  obtain ⟨w4, hw4⟩ : ∃ w4, w4 = w3.alloc (.cells #[.pointer (some ⟨db, 0, none⟩), .slice va3 (unfD S.image).length vc3, .slice none 0 0, .int .i64 0, .bool false] 69) := ⟨_, rfl⟩
  rw [← hw4]
  have hs3 := HB3.out.size
  have hb4 : Below w3.heap.size w3 w4 := by rw [hw4]; exact (Below.refl _ _).alloc (Nat.le_refl _) _
  have hs4 : w4.heap.size = w3.heap.size + 1 := by rw [hw4]; simp
  have hh4 : w4.heap[w3.heap.size]? = some (.cells #[.pointer (some ⟨db, 0, none⟩), .slice va3 (unfD S.image).length vc3, .slice none 0 0, .int .i64 0, .bool false] 69 (0, 0)) := by rw [hw4]; exact heap_alloc_new _ _
  have hj : Jd w4 w3.heap.size db (fun k => (k = w3.heap.size ∨ (Value.slice va3 (unfD S.image).length vc3).ownBlock = some k) ∨ RD k) S ⟨unfD S.image, [], false⟩ := by
    refine ⟨fun k => k = w3.heap.size ∨ (Value.slice va3 (unfD S.image).length vc3).ownBlock = some k, RD, ⟨⟨.slice va3 (unfD S.image).length vc3, .slice none 0 0, [], .inl rfl, ?_, hh4, HO3.out.below hb4, (fun k hk => .inr hk), Rws.nil _ _⟩, (HD.out.below HB3.out).below hb4, ?_⟩, fun _ => Iff.rfl⟩
    · intro k hk
      rcases hk with hk | hk
      · omega
      · have := HIB.out k hk; omega
    · intro k hk h
      have := HD.out.rlt _ h
      rcases hk with hk | hk
      · omega
      · have := HIB.out k hk; omega
  have hov : Out (fun k => (k = w3.heap.size ∨ (Value.slice va3 (unfD S.image).length vc3).ownBlock = some k) ∨ RD k) (.slice va2 S.log.length vc2) := by
    intro k hk h
    have h1 := HLB.out k hk
    rcases h with (h | h) | h
    · omega
    · have := HIB.out k h; omega
    · have := HD.out.rlt _ h; omega
  have HJ := hid hj
  have HOV := hid hov
  have HB4 := hid hb4
  clear hj hov hb4 hh4 hw4
  refine (take_any w3.heap.size db _ S (unfD S.image) S.log _ _ HJ.out (HL3.out.below HB4.out) HOV.out (by omega)).mono ?_
  rintro e w5 ⟨rs, p, hfr, hne, h8, h4, h5⟩
  have HFR := hid hfr
  have HNE := hid hne
  have hpre : ∀ (S' : DS) (J' : JS), JStep w4 w3.heap.size db (fun k => (k = w3.heap.size ∨ (Value.slice va3 (unfD S.image).length vc3).ownBlock = some k) ∨ RD k) w5 S' J' → ∃ R', Jd w5 w3.heap.size db R' S' J' ∧ But RD w w5 ∧ ∀ k, R' k → RD k ∨ w.heap.size ≤ k := by
    rintro S' J' ⟨R', d', t', r'⟩
    have hb := HB3.out.trans (HB4.out.mono hs3)
    refine ⟨R', d', (But.of_below hb).trans t' ?_, fun k hk => ?_⟩
    · intro k hk
      rcases hk with (h | h) | h
      · exact .inr (by omega)
      · exact .inr (by have := HIB.out k h; omega)
      · exact .inl h
    · rcases r' k hk with ((h | h) | h) | h
      · exact .inr (by omega)
      · exact .inr (by have := HIB.out k h; omega)
      · exact .inl h
      · exact .inr (by omega)
  have hstep : ∀ (S' : DS) (J' : JS), JStep w4 w3.heap.size db (fun k => (k = w3.heap.size ∨ (Value.slice va3 (unfD S.image).length vc3).ownBlock = some k) ∨ RD k) w5 S' J' → Step w db RD w5 S' := by
    intro S' J' h
    obtain ⟨R', d', t', r'⟩ := hpre S' J' h
    obtain ⟨RD', dd, hrd⟩ := d'.dk
    exact ⟨RD', dd, t', fun k hk => r' k (hrd k hk)⟩
  have HP := hid hpre
  have HST := hid hstep
  clear hpre hstep hfr hne
  rcases unfE_cases (S.log.drop p) with h0 | hq | hq | hq
  · exact absurd h0 HNE.out
  · obtain ⟨rfl, hs⟩ := h4 hq
    have HS := hid hs
    have HQ := hid hq
    clear hs hq h4 h5 h8
    have hE : openE S (unfE (S.log.drop p)) p = writeE S (cutE S (p : Nat)) := by rw [HQ.out]; rfl
    have hS : openS S (unfE (S.log.drop p)) p = writeS S (cutS S (p : Nat)) S := by rw [HQ.out]; rfl
    have HE := hid hE
    have HSS := hid hS
    clear hE hS
    obtain ⟨er, her⟩ : ∃ er, er = writeE S (cutE S (p : Nat)) := ⟨_, rfl⟩
    rw [← her] at HS HE ⊢
    clear her
    by_cases h0 : er = 0
    · subst h0
      go_wp2
      go_ret2
      obtain ⟨R', d', t', r'⟩ := HP.out _ _ HS.out
      refine ⟨rs, p, HFR.out, HNE.out, (fun _ => ⟨w3.heap.size, R', rfl, ?_, t', r'⟩), (fun h => absurd HE.out h)⟩
      rw [HSS.out]; exact d'
    · have h0' : (er == 0) = false := by simpa using h0
      go_wp2
      go_ret2
      refine ⟨rs, p, HFR.out, HNE.out, (fun h => absurd (HE.out.symm.trans h) h0), (fun _ => ⟨by rw [HE.out]; rfl, ?_⟩)⟩
      rw [HSS.out]; exact HST.out _ _ HS.out
  · obtain ⟨rfl, hs⟩ := h5 hq
    have HS := hid hs
    have HQ := hid hq
    clear hs hq h4 h5 h8
    go_wp2
    go_ret2
    refine ⟨rs, p, HFR.out, HNE.out, (fun h => by rw [HQ.out] at h; cases h), (fun _ => ⟨by rw [HQ.out]; rfl, ?_⟩)⟩
    rw [HQ.out]; exact HST.out _ _ HS.out
  · obtain ⟨rfl, hs⟩ := h8 hq
    have HS := hid hs
    have HQ := hid hq
    clear hs hq h4 h5 h8
    go_wp2
    go_ret2
    obtain ⟨R', d', t', r'⟩ := HP.out _ _ HS.out
    refine ⟨rs, p, HFR.out, HNE.out, (fun _ => ⟨w3.heap.size, R', rfl, ?_, t', r'⟩), (fun h => absurd (by rw [HQ.out]; rfl) h)⟩
    rw [HQ.out]; exact d'
end Go.Proofs.Ytpchmdfkifbciaa
