/- Offer, of one that has nobody else to send to. -/
import Derived.Test.YtjimneaimnjanaaCoTick
import Derived.Test.YtjimneaimnjanaaCoEntry
namespace Go.Proofs.Ytjimneaimnjanaa
open Go.RowKit
set_option linter.unusedVariables false
set_option linter.unusedSimpArgs false

set_option maxRecDepth 100000 in
set_option maxHeartbeats 1600000 in
theorem mayOffer_none (b : Nat) (lv : Value) (D : CoD) (kind : Int) (s : ByteArray) (w : World) (h : Co w 0 b lv D) (hr : D.role ≠ 2) :
    Calls Try.prog 63 #[.pointer (some ⟨b, 0, none⟩), .int .i64 kind, .string s] w fun e w' => e = .returned (.int .i64 8) ∧ Below w.heap.size w w' := by
  have c8 : w.cell? ⟨b, 8, none⟩ = some (.int .i64 D.role) := h.cell 8
  have hd : (D.role == 2) = false := by simpa using hr
  clear h
  go_enter Try.func63, Try.ntmps63
  go_wp2_with fail
  go_ret
  exact ⟨rfl, Below.refl _ _⟩
set_option maxRecDepth 100000 in
set_option maxHeartbeats 1600000 in
theorem mayOffer_nil (kind : Int) (s : ByteArray) (w : World) :
    Calls Try.prog 63 #[.pointer none, .int .i64 kind, .string s] w fun e w' => e = .returned (.int .i64 8) ∧ w' = w := by
  go_enter Try.func63, Try.ntmps63
  go_wp2_with fail
  go_ret
  exact ⟨rfl, rfl⟩
set_option maxRecDepth 100000 in
set_option maxHeartbeats 1600000 in
theorem mayOffer_arg (b : Nat) (lv : Value) (D : CoD) (kind : Int) (s : ByteArray) (w : World) (h : Co w 0 b lv D) (hr : D.role = 2) (he : entB kind s = false) :
    Calls Try.prog 63 #[.pointer (some ⟨b, 0, none⟩), .int .i64 kind, .string s] w fun e w' => e = .returned (.int .i64 1) ∧ Below w.heap.size w w' := by
  have c8 : w.cell? ⟨b, 8, none⟩ = some (.int .i64 2) := by rw [← hr]; exact h.cell 8
  have HE := hid (fun Y => mayEntry_any kind s Y)
  rw [he] at HE
  clear h
  go_enter Try.func63, Try.ntmps63
  go_wp2_with (go_at_call 100; refine (HE.out _).mono ?_; rintro e w2 ⟨rfl, hb2⟩; have B2 := hid hb2; clear hb2)
  go_ret
  exact ⟨rfl, B2.out⟩
set_option maxRecDepth 100000 in
set_option maxHeartbeats 1600000 in
theorem mayOffer_plain (b : Nat) (lv : Value) (D : CoD) (kind : Int) (s : ByteArray) (w : World) (h : Co w 0 b lv D) (hr : D.role = 2) (he : entB kind s = true) (hk : kind ≠ 2) (hl : D.log.length ≤ 4095) :
    Calls Try.prog 63 #[.pointer (some ⟨b, 0, none⟩), .int .i64 kind, .string s] w fun e w' => e = .returned (.int .i64 0) ∧ Below w.heap.size w w' := by
  have c8 : w.cell? ⟨b, 8, none⟩ = some (.int .i64 2) := by rw [← hr]; exact h.cell 8
  have HE := hid (fun Y => mayEntry_any kind s Y)
  rw [he] at HE
  have H := hid h
  have HF := hid (fun Y (hY : Co Y 0 b lv D) => isFull_any 0 b lv D Y hY)
  rw [decide_eq_false (show ¬ (4096 : Int) ≤ D.log.length by omega)] at HF
  have hd : (kind == 2) = false := by simpa using hk
  clear h
  go_enter Try.func63, Try.ntmps63
  go_wp2_with (first | (go_at_call 100; refine (HE.out _).mono ?_; rintro e w2 ⟨rfl, hb2⟩; have B2 := hid hb2; clear hb2) | (go_at_call 103; refine (HF.out _ (H.out.below B2.out)).mono ?_; rintro e w3 ⟨rfl, hw3⟩; replace hw3 := hw3.symm; subst hw3))
  go_ret
  exact ⟨rfl, B2.out⟩
set_option maxRecDepth 100000 in
set_option maxHeartbeats 4000000 in
theorem offer_err (b : Nat) (lv : Value) (D : CoD) (kind er : Int) (s : ByteArray) (w : World) (h : Co w 0 b lv D) (her : er ≠ 0)
    (hm : ∀ Y, Co Y 0 b lv D → Calls Try.prog 63 #[.pointer (some ⟨b, 0, none⟩), .int .i64 kind, .string s] Y fun e w' => e = .returned (.int .i64 er) ∧ Below Y.heap.size Y w') :
    Calls Try.prog 27 #[.pointer (some ⟨b, 0, none⟩), .int .i64 kind, .string s] w fun e w' => ∃ v, e = .returned (.tuple #[v, .int .i64 er]) ∧ CRet w b lv v w' D ⟨false, [], []⟩ := by
  have H := hid h
  obtain ⟨w1, hw1⟩ : ∃ w1, w1 = (w.alloc wd0).alloc wd0 := ⟨_, rfl⟩
  have B1 : Hid (Below w.heap.size w w1) := hid (by rw [hw1]; exact ((Below.refl _ _).alloc (Nat.le_refl _) _).alloc (by simp) _)
  have hR : w1.heap[w.heap.size]? = some wd0 := by rw [hw1]; exact heap_alloc2_old _ _ _
  have hWb : w1.heap[w.heap.size + 1]? = some wd0 := by rw [hw1]; exact heap_alloc2_new _ _ _
  have hsz1 : w1.heap.size = w.heap.size + 2 := by rw [hw1]; simp
  have HW1 := hid hw1
  unfold wd0 at HW1
  clear hw1
  have HM := hid hm
  have hd : (er == 0) = false := by simpa using her
  clear h hm
  go_enter Try.func27, Try.ntmps27
  go_upto_region 2 with fail
  rw [← HW1.out]
  obtain ⟨R, hRe⟩ : ∃ R, R = w.heap.size := ⟨_, rfl⟩
  obtain ⟨wb, hwbe⟩ : ∃ wb, wb = w.heap.size + 1 := ⟨_, rfl⟩
  have HPL : Hid (w.heap.size ≤ R ∧ w.heap.size ≤ wb ∧ R ≠ wb ∧ w1.heap.size = wb + 1 ∧ R < w1.heap.size) := hid ⟨by omega, by omega, by omega, by omega, by omega⟩
  rw [← hwbe] at hWb
  rw [← hRe] at hR
  rw [← hwbe, ← hRe]
  clear HW1 hRe hwbe hsz1
  have HR := hid hR
  have K1 := hid (wd_new hWb)
  clear hR hWb
  have C1 := hid (CK.refl (H.out.below B1.out) K1.out)
  go_upto_region 4 with (go_at_call 63; refine (HM.out _ C1.out.co).mono ?_; rintro e w2 ⟨rfl, hb2⟩; have B2 := hid hb2; clear hb2)
  have C3 := hid (C1.out.below B2.out)
  have hwb3 := C3.out.wd.head
  have hR3 : w2.heap[R]? = some wd0 := (B2.out.block R HPL.out.2.2.2.2).trans HR.out
  go_wp2_with (first | (refine wpl_loadW rfl _ rfl wb rfl _ _ _ _ _ hwb3 ?_) | (refine wpl_storeW rfl _ _ rfl R _ _ _ rfl rfl rfl rfl rfl _ _ _ _ hR3 ?_))
  (try simp only [Exit.inBlock, Exit.then])
  refine bodyPost_ret (results_wordE rfl _ _ R _ _ _ _ _ rfl (setRow_heap _ _ _ _ _ _ hR3)) rfl ?_
  refine ⟨_, rfl, CRet.of B1.out HPL.out.1 HPL.out.2.1 hR3 C3.out.co C3.out.wd ?_ (.refl _ _) (.refl _ _) (.refl _ _) _⟩
  exact ⟨C3.out.bt.os, C3.out.bt.tape, C3.out.bt.output, C3.out.bt.size, fun q hq hn => C3.out.bt.block q hq fun e => hn (e.elim .inl (fun e => .inr (.inl e)))⟩
theorem ComI.put {D : CoD} (h : ComI D) (hl : D.log.length ≤ 999999) (kind : Int) (s : ByteArray) : ComI (putD D kind s) := by
  have e : (putD D kind s).log.length = D.log.length + 1 := by simp [putD]
  refine ⟨⟨h.i.lo, h.i.hi, by rw [e]; omega⟩, h.lo, ?_, fun n hn => ?_⟩
  · rw [e]; have := h.hi; show D.told ≤ D.bi + _; omega
  · rw [e]; have := h.mt n hn; show D.mt n ≤ D.bi + _; omega
/-- What an offer leaves of one that has nobody else to send to. -/
def offD (D : CoD) (kind : Int) (s : ByteArray) : CoD := comE (putD D kind s)
def offW (D : CoD) (kind : Int) (s : ByteArray) : WdD := comW (putD D kind s) ⟨true, [], []⟩
set_option maxRecDepth 100000 in
set_option maxHeartbeats 4000000 in
theorem offer_alone (b : Nat) (lv : Value) (D : CoD) (kind : Int) (s : ByteArray) (w : World) (h : Co w 0 b lv D) (hi : ComI D) (hl : D.log.length ≤ 4095) (h0 : 0 ≤ D.self) (h1 : D.self ≤ 255) (hs : (vNow (putD D kind s)).size ≤ 999999) (hs0 : (vNow D).size ≤ 999999) (ho : oRow (putD D kind s) = []) (ho2 : oRow (offD D kind s) = []) (hs2 : (vNow (offD D kind s)).size ≤ 999999) (hi2 : CoI (offD D kind s))
    (hm : ∀ Y, Co Y 0 b lv D → Calls Try.prog 63 #[.pointer (some ⟨b, 0, none⟩), .int .i64 kind, .string s] Y fun e w' => e = .returned (.int .i64 0) ∧ Below Y.heap.size Y w') :
    Calls Try.prog 27 #[.pointer (some ⟨b, 0, none⟩), .int .i64 kind, .string s] w fun e w' => ∃ v, e = .returned (.tuple #[v, .int .i64 0]) ∧ CRet w b lv v w' (offD D kind s) (offW D kind s) := by
  have H := hid h
  obtain ⟨w1, hw1⟩ : ∃ w1, w1 = (w.alloc wd0).alloc wd0 := ⟨_, rfl⟩
  have B1 : Hid (Below w.heap.size w w1) := hid (by rw [hw1]; exact ((Below.refl _ _).alloc (Nat.le_refl _) _).alloc (by simp) _)
  have hR : w1.heap[w.heap.size]? = some wd0 := by rw [hw1]; exact heap_alloc2_old _ _ _
  have hWb : w1.heap[w.heap.size + 1]? = some wd0 := by rw [hw1]; exact heap_alloc2_new _ _ _
  have hsz1 : w1.heap.size = w.heap.size + 2 := by rw [hw1]; simp
  have HW1 := hid hw1
  unfold wd0 at HW1
  clear hw1
  have HM := hid hm
  have HI := hid hi
  have HSZ := hid hs
  have HO := hid ho
  have HO2 := hid (And.intro ho2 (And.intro hs2 hi2))
  clear h hm hi hs ho ho2 hs2 hi2
  go_enter Try.func27, Try.ntmps27
  go_upto_region 2 with fail
  rw [← HW1.out]
  obtain ⟨R, hRe⟩ : ∃ R, R = w.heap.size := ⟨_, rfl⟩
  obtain ⟨wb, hwbe⟩ : ∃ wb, wb = w.heap.size + 1 := ⟨_, rfl⟩
  have HPL : Hid (w.heap.size ≤ R ∧ w.heap.size ≤ wb ∧ R ≠ wb ∧ w1.heap.size = wb + 1 ∧ R < w1.heap.size) := hid ⟨by omega, by omega, by omega, by omega, by omega⟩
  rw [← hwbe] at hWb
  rw [← hRe] at hR
  rw [← hwbe, ← hRe]
  clear HW1 hRe hwbe hsz1
  have HR := hid hR
  have K1 := hid (wd_new hWb)
  clear hR hWb
  have C1 := hid (CK.refl (H.out.below B1.out) K1.out)
  go_upto_region 6 with (first | (go_at_call 63; refine (HM.out _ C1.out.co).mono ?_; rintro e w2 ⟨rfl, hb2⟩; have B2 := hid hb2; have C2 := hid (C1.out.below hb2); clear hb2) | (go_at_call 16; refine (last_any 0 b lv D _ C2.out.co HI.out.i).mono ?_; rintro e w3 ⟨rfl, m3, rfl⟩) | (go_at_call 49; refine (votersAt_any 0 b lv D D.log.length _ (C2.out.below (belowN _ _)).co HI.out.i (Nat.le_refl _)).mono ?_; rintro e w4 ⟨rfl, hw4⟩; replace hw4 := hw4.symm; subst hw4))
  have C5 := hid (C2.out.below (belowN w2 m3))
  obtain ⟨w5, hw5⟩ : ∃ w5, w5 = w2.drewN m3 := ⟨_, rfl⟩
  have hR5 : w5.heap[R]? = some wd0 := by rw [hw5]; exact (B2.out.block R HPL.out.2.2.2.2).trans HR.out
  rw [← hw5] at C5
  rw [← hw5]
  clear hw5 C2 B2
  have R5 := hid hR5
  clear hR5
  have HP := hid (put_any b wb lv _ _ D _ kind s w5 C5.out.co C5.out.wd (by omega))
  have HIP := hid (HI.out.put (by omega) kind s)
  have hlp : (putD D kind s).log.length = D.log.length + 1 := by simp [putD]
  have HLP := hid hlp
  clear hlp
  obtain ⟨D1, hD1⟩ : ∃ D1, D1 = putD D kind s := ⟨_, rfl⟩
  have HF : Hid (offD D kind s = comE D1 ∧ offW D kind s = comW D1 ⟨true, [], []⟩ ∧ D1.self = D.self) := hid (by rw [hD1]; exact ⟨rfl, rfl, rfl⟩)
  rw [HF.out.1] at HO2
  rw [← hD1] at HP HIP HLP HSZ HO
  clear hD1
  have HOT := hid (fun Y lv6 (hY : Co Y 0 b lv6 D1) => others_any 0 b lv6 D1 Y hY HIP.out.i HSZ.out)
  rw [HO.out] at HOT
  have hself := HF.out.2.2
  go_wp2_with (first | (go_at_call 64; refine HP.out.mono ?_; rintro e w6 ⟨rfl, hst6⟩; obtain ⟨lv6, ms6, ns6, hc6, hd6, hbt6, p1, p2, p3⟩ := hst6; have HC6 := hid hc6; have HD6 := hid hd6; have HG6 := hid (And.intro hbt6 (And.intro p1 (And.intro p2 p3))); clear hc6 hd6 hbt6 p1 p2 p3) | (go_at_call 65; refine (HOT.out _ lv6 HC6.out).mono ?_; rintro e w8 ⟨v8, rfl, hb8, ho8⟩; obtain ⟨va8, vc8, rfl⟩ := own_shape ho8; have B8 := hid hb8; clear hb8 ho8))
  go_loopw [12, 32] (fun _ iv wr => iv = .int .i64 0 ∧ wr = w8) (fun _ _ _ => 0)
  case atStart => exact ⟨rfl, rfl⟩
  case round =>
    obtain ⟨rfl, hwr⟩ := hrel
    replace hwr := hwr.symm
    subst hwr
    have HCM := hid (commit_any b wb lv6 ms6 ns6 D1 _ w8 (HC6.out.below B8.out) (HD6.out.below B8.out) HIP.out HSZ.out (by rw [hself]; exact h0) (by rw [hself]; exact h1) (by rw [HLP.out]; show 0 + _ ≤ _; omega))
    go_upto_region 15 with (first | (go_at_call 68; refine HCM.out.mono ?_; rintro e w9 ⟨rfl, hst9⟩; obtain ⟨lv9, ms9, ns9, hc9, hd9, hbt9, p1, p2, p3⟩ := hst9; have HC9 := hid hc9; have HD9 := hid hd9; have HG9 := hid (And.intro hbt9 (And.intro p1 (And.intro p2 p3))); clear hc9 hd9 hbt9 p1 p2 p3) | (go_at_call 69; refine (spread_alone b lv9 _ _ _ HC9.out HO2.out.2.2 HO2.out.2.1 HO2.out.1).mono ?_; rintro e w10 ⟨rfl, hb10⟩; have B10 := hid hb10; clear hb10))
    have ST : Hid (CStep w5 b wb lv (.slice none 0 0) (.slice none 0 0) w10 (offD D kind s) (offW D kind s)) := hid (by
      rw [HF.out.1, HF.out.2.1]
      exact CStep.glue HG6.out.1 HG6.out.2.1 HG6.out.2.2.1 HG6.out.2.2.2 (CStep.pre B8.out (CStep.glue HG9.out.1 HG9.out.2.1 HG9.out.2.2.1 HG9.out.2.2.2 (CStep.of_below HC9.out HD9.out B10.out))))
    obtain ⟨lv4, ms4, ns4, hc4, hd4, hb4, n1, n2, n3⟩ := ST.out
    have hwb4 := hd4.head
    have hR4 : w10.heap[R]? = some wd0 := (hb4.block R (lt_of_block R5.out) (by
      rintro (e | e | e | e | e)
      · have := C1.out.co.head; rw [← e, HR.out] at this; cases this
      · exact HPL.out.2.2.1 e
      · exact own_ne C5.out.co.log R5.out (by decide) e
      · cases e
      · cases e)).trans R5.out
    obtain ⟨ma4, mc4, rfl⟩ := own_shape hd4.mails
    obtain ⟨na4, nc4, rfl⟩ := own_shape hd4.news
    have HFF := hid (And.intro hc4 (And.intro hd4 (And.intro hb4 (And.intro n1 (And.intro n2 n3)))))
    clear hc4 hd4 hb4 n1 n2 n3
    go_wp2_with (first | (refine wpl_loadW rfl _ rfl wb rfl _ _ _ _ _ hwb4 ?_) | (refine wpl_storeW rfl _ _ rfl R _ _ _ rfl rfl rfl rfl rfl _ _ _ _ hR4 ?_))
    (try simp only [Exit.inBlock, Exit.then])
    refine bodyPost_ret (results_wordE rfl _ _ R _ _ _ _ _ rfl (setRow_heap _ _ _ _ _ _ hR4)) rfl ?_
    obtain ⟨hc4, hd4, hb4, n1, n2, n3⟩ := HFF.out
    refine ⟨_, rfl, CRet.of B1.out HPL.out.1 HPL.out.2.1 hR4 hc4 hd4 ?_ ((Nw.refl w1 lv).trans n1 C5.out.bt.size) ((Nw.refl w1 _).trans n2 C5.out.bt.size) ((Nw.refl w1 _).trans n3 C5.out.bt.size) _⟩
    have hx := C5.out.bt
    exact Bt.trans ⟨hx.os, hx.tape, hx.output, hx.size, fun q hq hn => hx.block q hq fun e => hn (e.elim .inl (fun e => .inr (.inl e)))⟩ hb4 (fun q hq => .inl hq)
set_option maxRecDepth 100000 in
set_option maxHeartbeats 4000000 in
theorem offer_nil (kind : Int) (s : ByteArray) (w : World) :
    Calls Try.prog 27 #[.pointer none, .int .i64 kind, .string s] w fun e w' => e = .returned (.tuple #[.agg #[.bool false, .slice none 0 0, .slice none 0 0], .int .i64 8]) ∧ Below w.heap.size w w' := by
  obtain ⟨w1, hw1⟩ : ∃ w1, w1 = (w.alloc wd0).alloc wd0 := ⟨_, rfl⟩
  have B1 : Hid (Below w.heap.size w w1) := hid (by rw [hw1]; exact ((Below.refl _ _).alloc (Nat.le_refl _) _).alloc (by simp) _)
  have hR : w1.heap[w.heap.size]? = some wd0 := by rw [hw1]; exact heap_alloc2_old _ _ _
  have hWb : w1.heap[w.heap.size + 1]? = some wd0 := by rw [hw1]; exact heap_alloc2_new _ _ _
  have HW1 := hid hw1
  unfold wd0 at HW1
  clear hw1
  go_enter Try.func27, Try.ntmps27
  go_upto_region 2 with fail
  rw [← HW1.out]
  go_wp2_with (first | (go_at_call 63; refine (mayOffer_nil _ _ _).mono ?_; rintro e w2 ⟨rfl, hw2⟩; replace hw2 := hw2.symm; subst hw2) | (refine wpl_loadW rfl _ rfl (w.heap.size + 1) rfl _ _ _ _ _ hWb ?_) | (refine wpl_storeW rfl _ _ rfl w.heap.size _ _ _ rfl rfl rfl rfl rfl _ _ _ _ hR ?_))
  (try simp only [Exit.inBlock, Exit.then])
  refine bodyPost_ret (results_wordE rfl _ _ w.heap.size _ _ _ _ _ rfl (setRow_heap _ _ _ _ _ _ hR)) rfl ?_
  exact ⟨rfl, ⟨B1.out.os, B1.out.tape, B1.out.output, by simpa using B1.out.size, fun q hq => (setRow_other _ _ _ _ (by omega)).trans (B1.out.block q hq)⟩⟩
end Go.Proofs.Ytjimneaimnjanaa
