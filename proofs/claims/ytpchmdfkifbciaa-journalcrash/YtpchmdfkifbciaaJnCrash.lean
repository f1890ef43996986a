/- JournalCrash answers true for any calls and any number; nothing that was there has turned. -/
import Derived.Test.YtpchmdfkifbciaaJnCrashS
import Derived.Test.YtpchmdfkifbciaaJnLives
import Derived.Test.YtpchmdfkifbciaaJnParam
namespace Go.Proofs.Ytpchmdfkifbciaa
open Go.RowKit

theorem Try.underlyingSS : Try.prog.underlying 51 = some (.slice 9) := by kernel_rfl
theorem Try.infoS : (Try.prog.info? 9).map (fun i => (i.zero, i.size, i.bytes)) = some (some (.string ⟨#[]⟩), 1, 16) := by kernel_rfl
/-- A journal, its device, a row of texts and a row of rows of the law's own. -/
structure CW (B : Nat) (w0 w : World) (jb db : Nat) (R : Nat → Prop) (S : DS) (J : JS) (iv : Value) (ni : Nat) (ivs : List Value) (av : Value) (all : List (List UInt8)) (avs : List Value) : Prop where
  jd : Jd w jb db R S J
  above : ∀ k, R k → B ≤ k
  below : Below B w0 w
  io : w.ownsRow B 9 1 iv ni ivs
  iout : Out R iv
  ao : w.ownsRow B 34 1 av all.length avs
  aout : Out R av
  rows : ∀ i (_ : i < all.length), ∃ u, avs[i]? = some u ∧ Bts w0 u all[i]
theorem CW.later {B : Nat} {w0 w w' : World} {jb db : Nat} {R : Nat → Prop} {S : DS} {J : JS} {iv : Value} {ni : Nat} {ivs : List Value} {av : Value} {all : List (List UInt8)} {avs : List Value} (h : CW B w0 w jb db R S J iv ni ivs av all avs) (hB : B ≤ w0.heap.size) (hb : Below w.heap.size w w') : CW B w0 w' jb db R S J iv ni ivs av all avs :=
  ⟨h.jd.below hb, h.above, h.below.trans (hb.mono (Nat.le_trans hB h.below.size)), ownsRow_blk h.io fun k hk => hb.block k (ownsRow_lt h.io k hk).2, h.iout, ownsRow_blk h.ao fun k hk => hb.block k (ownsRow_lt h.ao k hk).2, h.aout, h.rows⟩
theorem CW.step {B : Nat} {w0 w w' : World} {jb db : Nat} {R : Nat → Prop} {S S' : DS} {J J' : JS} {iv : Value} {ni : Nat} {ivs : List Value} {av : Value} {all : List (List UInt8)} {avs : List Value} (h : CW B w0 w jb db R S J iv ni ivs av all avs) (hB : B ≤ w0.heap.size) (hs : JStep w jb db R w' S' J') : ∃ R', CW B w0 w' jb db R' S' J' iv ni ivs av all avs := by
  obtain ⟨R1, a1, a2, a3⟩ := hs.at h.below hB h.above
  obtain ⟨R', d', t', r'⟩ := hs
  have hsz := h.below.size
  refine ⟨R', d', fun k hk => ?_, a3, ownsRow_blk h.io fun k hk => t'.block k (ownsRow_lt h.io k hk).2 (h.iout k hk), fun k hk h' => ?_, ownsRow_blk h.ao fun k hk => t'.block k (ownsRow_lt h.ao k hk).2 (h.aout k hk), fun k hk h' => ?_, h.rows⟩
  · rcases r' k hk with h' | h'
    · exact h.above k h'
    · omega
  · rcases r' k h' with h'' | h''
    · exact h.iout k hk h''
    · have := (ownsRow_lt h.io k hk).2; omega
  · rcases r' k h' with h'' | h''
    · exact h.aout k hk h''
    · have := (ownsRow_lt h.ao k hk).2; omega
theorem ne_rows {w : World} {B B' : Nat} {iv av : Value} {ni na : Nat} {ivs avs : List Value} (hi : w.ownsRow B 9 1 iv ni ivs) (ha : w.ownsRow B' 34 1 av na avs) : ∀ k, iv.ownBlock = some k → av.ownBlock ≠ some k := by
  intro k hk e
  obtain ⟨-, hh | ⟨g, cap, cur, e1, -, e2, -⟩⟩ := ha
  · rw [hh.1] at e; cases e
  · rw [e1] at e
    cases e
    exact ownsRow_ne hi e2 (by decide) _ hk rfl
/-- The row of rows has grown by one. -/
theorem CW.growA {B : Nat} {w0 w w' : World} {jb db : Nat} {R : Nat → Prop} {S : DS} {J : JS} {iv : Value} {ni : Nat} {ivs : List Value} {av av' u : Value} {all : List (List UInt8)} {avs : List Value} {b : List UInt8} (h : CW B w0 w jb db R S J iv ni ivs av all avs) (hB : B ≤ w0.heap.size) (hu : Bts w0 u b)
    (hg : w.grownBy w' av.ownBlock) (ho : w'.ownsRow B 34 1 av' (all.length + 1) (avs ++ [u])) (hat : av'.ownBlock = av.ownBlock ∨ av'.ownBlock = some w.heap.size) : CW B w0 w' jb db R S J iv ni ivs av' (all ++ [b]) (avs ++ [u]) := by
  have t : But (fun k => av.ownBlock = some k) w w' := But.grown hg fun _ h => h
  have hsz := h.below.size
  refine ⟨h.jd.but t fun k hk hk' => h.aout k hk' hk, h.above, h.below.trans (t.below (by omega) fun k hk => (ownsRow_lt h.ao k hk).1), ownsRow_blk h.io fun k hk => t.block k (ownsRow_lt h.io k hk).2 (ne_rows h.io h.ao k hk), h.iout, by rw [List.length_append]; exact ho, fun k hk h' => ?_, fun i hi => ?_⟩
  · rcases hat with e | e
    · rw [e] at hk; exact h.aout k hk h'
    · rw [e] at hk; cases hk; exact absurd (h.jd.rlt _ h') (by omega)
  · have hvl : avs.length = all.length := by have := h.ao.1; omega
    by_cases hlt : i < all.length
    · obtain ⟨x, g1, g2⟩ := h.rows i hlt
      refine ⟨x, by rw [List.getElem?_append_left (by omega)]; exact g1, ?_⟩
      rw [List.getElem_append_left hlt]; exact g2
    · obtain rfl : i = all.length := by simp at hi; omega
      refine ⟨u, by rw [List.getElem?_append_right (by omega), hvl]; simp, ?_⟩
      have er : (all ++ [b])[all.length] = b := by simp
      rw [er]; exact hu
/-- The row of texts has grown by one; the row of rows ivs empty. -/
theorem CW.growI {B : Nat} {w0 w w' : World} {jb db : Nat} {R : Nat → Prop} {S : DS} {J : JS} {iv iv' : Value} {ni : Nat} {ivs ivs' : List Value} {av : Value} {all : List (List UInt8)} {avs : List Value} (h : CW B w0 w jb db R S J iv ni ivs av all avs) (hB : B ≤ w0.heap.size)
    (hg : w.grownBy w' iv.ownBlock) (ho : w'.ownsRow B 9 1 iv' (ni + 1) ivs') (hat : iv'.ownBlock = iv.ownBlock ∨ iv'.ownBlock = some w.heap.size) : CW B w0 w' jb db R S J iv' (ni + 1) ivs' (.slice none 0 0) [] [] := by
  have t : But (fun k => iv.ownBlock = some k) w w' := But.grown hg fun _ h => h
  have hsz := h.below.size
  refine ⟨h.jd.but t fun k hk hk' => h.iout k hk' hk, h.above, h.below.trans (t.below (by omega) fun k hk => (ownsRow_lt h.io k hk).1), ho, fun k hk h' => ?_, World.ownsRow_nil _ _ _ _, (fun k hk => by cases hk), (fun i hi => by simp at hi)⟩
  rcases hat with e | e
  · rw [e] at hk; exact h.iout k hk h'
  · rw [e] at hk; cases hk; exact absurd (h.jd.rlt _ h') (by omega)
theorem CW.jn {B : Nat} {w0 w : World} {jb db : Nat} {R : Nat → Prop} {S : DS} {J : JS} {iv : Value} {ni : Nat} {ivs : List Value} {av : Value} {all : List (List UInt8)} {avs : List Value} (h : CW B w0 w jb db R S J iv ni ivs av all avs) : ∃ RJ, Jn w jb db RJ J := by
  obtain ⟨RJ, RD, h, -⟩ := h.jd; exact ⟨RJ, h.j⟩
theorem CW.btss {B : Nat} {w0 w : World} {jb db : Nat} {R : Nat → Prop} {S : DS} {J : JS} {iv : Value} {ni : Nat} {ivs : List Value} {av : Value} {all : List (List UInt8)} {avs : List Value} (h : CW B w0 w jb db R S J iv ni ivs av all avs) (hB : B = w0.heap.size) : Btss w av all := by
  subst hB
  obtain ⟨h1, h2 | ⟨g, cap, cur, rfl, h3, h4, h5, h6, h7, h8⟩⟩ := h.ao
  · obtain ⟨rfl, h0⟩ := h2
    exact ⟨none, 0, 0, rfl, h0.symm, Nat.le_refl _, by omega, (fun _ => rfl), (fun ad h => by cases h)⟩
  · refine ⟨some ⟨g, 0, none⟩, all.length, cap, rfl, rfl, h5, by unfold maxLen at h6; omega, (fun h => by cases h), ?_⟩
    intro ad had j hj
    obtain rfl := Option.some.inj had
    obtain ⟨u, g1, g2⟩ := h.rows j hj
    exact ⟨u, World.ownsRow.cells h.ao rfl j u g1, g2.below h.below⟩
theorem Btss.take' {w : World} {ao : Option Addr} {m cap n : Nat} {ls : List (List UInt8)} (h : Btss w (.slice ao m cap) ls) (hn : n ≤ ls.length) : Btss w (.slice ao n cap) (ls.take n) := by
  obtain ⟨ao1, n1, cap1, e, h1, h2, h3, h4, h5⟩ := h
  cases e
  refine ⟨_, _, _, rfl, by simp; omega, by omega, h3, h4, fun ad had j hj => ?_⟩
  obtain ⟨u, g1, g2⟩ := h5 ad had j (by simp at hj; omega)
  exact ⟨u, g1, by simpa using g2⟩
theorem btss_of_rows {w : World} {B : Nat} {av : Value} {all : List (List UInt8)} {avs : List Value} (h : w.ownsRow B 34 1 av all.length avs) (hr : ∀ i (_ : i < all.length), ∃ u, avs[i]? = some u ∧ Bts w u all[i]) : Btss w av all := by
  obtain ⟨h1, h2 | ⟨g, cap, cur, rfl, h3, h4, h5, h6, h7, h8⟩⟩ := h
  · obtain ⟨rfl, h0⟩ := h2
    exact ⟨none, 0, 0, rfl, h0.symm, Nat.le_refl _, by omega, (fun _ => rfl), (fun ad h => by cases h)⟩
  · refine ⟨some ⟨g, 0, none⟩, all.length, cap, rfl, rfl, h5, by unfold maxLen at h6; omega, (fun h => by cases h), ?_⟩
    intro ad had j hj
    obtain rfl := Option.some.inj had
    obtain ⟨u, g1, g2⟩ := hr j hj
    exact ⟨u, World.ownsRow.cells (v := .slice (some ⟨g, 0, none⟩) all.length cap) ⟨h1, .inr ⟨g, cap, cur, rfl, h3, h4, h5, h6, h7, h8⟩⟩ rfl j u g1, g2⟩
theorem last_cell {w : World} {B ni ic : Nat} {ia : Option Addr} {ivs : List Value} {x : Value} (h : w.ownsRow B 9 1 (.slice ia ni ic) ni ivs) (hl : ∃ ivs0, ivs = ivs0 ++ [x]) : ∃ gi mi, ia = some ⟨gi, 0, none⟩ ∧ ni = mi + 1 ∧ w.cell? ⟨gi, mi, none⟩ = some x := by
  obtain ⟨ivs0, rfl⟩ := hl
  have hlen := h.1
  simp at hlen
  obtain ⟨h1, h2 | ⟨g, cap, cur, e, h3, h4, h5, h6, h7, h8⟩⟩ := h
  · omega
  · simp at e
    obtain ⟨rfl, rfl⟩ := e
    refine ⟨g, ivs0.length, rfl, by omega, ?_⟩
    have hc := World.ownsRow.cells (w := w) (v := .slice (some ⟨g, 0, none⟩) ni ic) ⟨h1, .inr ⟨g, ic, cur, rfl, h3, h4, h5, h6, h7, h8⟩⟩ rfl ivs0.length x (by simp)
    simpa [Addr.add_lit] using hc
/-- Open, where the log has whole frames and a beginning of one more, or nothing, behind them. -/
theorem open_ok (db : Nat) (RD : Nat → Prop) (S : DS) (w : World) (d : Dk w db RD S) (hon : S.off = false) (hleft : S.left = -1) (hi : imgOk S.image) (ls : List (List UInt8)) (t : List UInt8) (hl : S.log = framesB ls ++ t) (hs : ∀ r ∈ ls, r.length ≤ 1048576) (ht : unfE t = 8 ∨ unfE t = 4) :
    Calls Try.prog 27 #[.pointer (some ⟨db, 0, none⟩)] w fun e w' => ∃ jb S' R', e = .returned (.tuple #[.pointer (some ⟨jb, 0, none⟩), .int .i64 0]) ∧ Jd w' jb db R' S' ⟨unfD S.image, ls, false⟩ ∧ But RD w w' ∧ ∀ k, R' k → RD k ∨ w.heap.size ≤ k := by
  refine (open_any db RD S w d hon hi).mono ?_
  rintro e w' ⟨rs, p, hfr, hne, h1, -⟩
  have htn : unfE t ≠ 0 := by rcases ht with h | h <;> rw [h] <;> decide
  obtain ⟨rfl, rfl, hdr⟩ := hfr.all ls t hl hs htn hne
  rw [hdr] at h1
  have hcut : ¬ (((framesB rs).length : Int) < 0 ∨ (S.log.length : Int) < ((framesB rs).length : Int)) := by rw [hl]; simp; omega
  have e1 : openE S (unfE t) (framesB rs).length = 0 := by
    unfold openE
    rcases ht with h | h
    · rw [if_pos h]
    · rw [if_neg (by rw [h]; decide), if_pos h]
      unfold writeE cutE
      rw [hon, if_neg hcut]; simp [hleft]
  obtain ⟨jb, R', rfl, d', t', r'⟩ := h1 e1
  exact ⟨jb, _, R', rfl, d', t', r'⟩
theorem bts_back {B : Nat} {w0 w1 : World} {u : Value} {b : List UInt8} (h : Bts w1 u b) (hb : Below B w0 w1) (ho : Old B u b) : Bts w0 u b := by
  by_cases hn : b = []
  · subst hn; exact h.nil_any
  · exact h.blk fun k hk => (hb.block k (ho hn k hk)).symm
theorem one_cell {w : World} {g : Nat} {u : Value} (h : w.cell? ⟨g, 0, none⟩ = some u) : ∀ j x, [u][j]? = some x → w.cell? ((⟨g, 0, none⟩ : Addr).add j) = some x := by
  intro j x hj
  match j with
  | 0 => simp at hj; subst hj; exact h
  | j + 1 => simp at hj
theorem one_one (va : Option Addr) (n c : Nat) : ∀ u ∈ [Value.slice va n c], u.oneCell' = true := by intro u hu; simp at hu; subst hu; rfl
theorem one_str (s : ByteArray) : ∀ u ∈ [Value.string s], u.oneCell' = true := by intro u hu; simp at hu; subst hu; rfl
theorem addJ_image (S : DS) (J : JS) (b : List UInt8) : (addJ S J b).image = J.image := by unfold addJ dn; (repeat' split) <;> rfl
theorem syncJ_image (S : DS) (J : JS) : (syncJ S J).image = J.image := by unfold syncJ dn; (repeat' split) <;> rfl
set_option linter.unusedSimpArgs false in
set_option maxRecDepth 100000 in
set_option maxHeartbeats 6400000 in
theorem crash_law (lv : Value) (os : List JOp) (keep : Int) (w : World) (hl : JOps w lv os) :
    Calls Try.prog 4 #[lv, .int .i64 keep] w fun e w' => e = .returned (.bool true) ∧ Below w.heap.size w w' := by
  have kc := fun (w : World) (C : Array Value) (n c : Nat) => Lib.run_convert_bytes_const (P := Try.prog) w 34 5 C n c Try.underlyingB Try.underlyingU
  have HLS := hid hl
  obtain ⟨ao, n, cap, rfl, rfl, hc, hcap, hnone, -⟩ := hl
  obtain ⟨f1, f2, f3⟩ := calm_format 300 [102, 105, 114, 115, 116] (by simp) (by simp [sec])
  have F1 := hid f1
  have F2 := hid f2
  have F3 := hid f3
  clear f1 f2 f3
  go_enter Try.func4, Try.ntmps4
  go_wp2_with fail
  refine (new_ok 300 _ (by omega) (by omega)).mono ?_
  rintro e w2 ⟨db, RD, rfl, hd2, hr2, hb2⟩
  have HA2 := hid (At.new hd2 hr2 hb2)
  clear hd2 hr2 hb2
  go_wp2_with fail
  refine (At.format_new HA2.out (Nat.le_refl _) ((Below.refl _ _).alloc (Nat.le_refl _) _) _ [102, 105, 114, 115, 116] (bts_block [102, 105, 114, 115, 116] (heap_alloc_new w2 _) rfl 5 rfl (by omega)) (fun k hk => new_block hk) F1.out).mono ?_
  rw [F2.out]
  rintro e w3 ⟨jb, rfl, ha3⟩
  obtain ⟨S3, hS3⟩ : ∃ S3, S3 = (saveR (newS 300) J0 [102, 105, 114, 115, 116]).2.1 := ⟨_, rfl⟩
  rw [← hS3] at ha3 F3
  clear hS3 F1 F2 HA2
  have HCI := hid (ci_start S3 F3.out)
  obtain ⟨R3, jd3, ab3, be3⟩ := ha3
  have HCW : Hid (CW w.heap.size w (w3.alloc (.cells #[.string ⟨#[102, 105, 114, 115, 116]⟩] 9)) jb db R3 S3 ⟨[102, 105, 114, 115, 116], [], false⟩ (.slice (some ⟨w3.heap.size, 0, none⟩) 1 1) 1 [.string ⟨#[102, 105, 114, 115, 116]⟩] (.slice none 0 0) [] []) := hid (by
    have hb : Below w3.heap.size w3 (w3.alloc (.cells #[.string ⟨#[102, 105, 114, 115, 116]⟩] 9)) := (Below.refl _ _).alloc (Nat.le_refl _) _
    refine ⟨jd3.below hb, ab3, be3.trans (hb.mono be3.size), ⟨rfl, .inr ⟨w3.heap.size, 1, _, rfl, be3.size, heap_alloc_new _ _, Nat.le_refl _, by decide, rfl, rfl⟩⟩, ?_, World.ownsRow_nil _ _ _ _, (fun k hk => by cases hk), (fun i hi => by simp at hi)⟩
    intro k hk h
    cases hk
    exact absurd (jd3.rlt _ h) (Nat.lt_irrefl _))
  clear jd3 ab3 be3 F3
  go_wp2_with fail
  go_loopw [8, 9, 10, 11, 12, 13, 14, 35] (fun iv av nv _ _ _ _ xv wr => ∃ (i n ni : Nat) (S : DS) (J : JS) (R : Nat → Prop) (ia aa : Option Addr) (ic ac : Nat) (ivs avs : List Value) (all : List (List UInt8)), iv = .slice ia ni ic ∧ av = .slice aa all.length ac ∧ nv = .int .i64 n ∧ xv = .int .i64 i ∧ i ≤ os.length ∧ all.length ≤ i ∧ ni ≤ i + 1 ∧ i ≤ 60 ∧ (∃ ivs0, ivs = ivs0 ++ [.string ⟨J.image.toArray⟩]) ∧ CI S J all n ∧ CW w.heap.size w wr jb db R S J (.slice ia ni ic) ni ivs (.slice aa all.length ac) all avs) (fun _ _ _ _ _ _ _ xv _ => os.length - (intOf xv).toNat)
  case atStart => exact ⟨0, 0, 1, S3, _, R3, _, none, 1, 0, _, [], [], rfl, rfl, rfl, rfl, Nat.zero_le _, Nat.le_refl _, Nat.le_refl _, by omega, ⟨[], rfl⟩, HCI.out, HCW.out⟩
  case round =>
    obtain ⟨i, n, ni, S, J, R, ia, aa, ic, ac, ivs, avs, all, rfl, rfl, rfl, rfl, hi, hal, hnl, hi60, hiv, hci, hcw⟩ := hrel
    have HIV := hid hiv
    have HAC : Hid (all.length ≤ ac) := hid (by
      obtain ⟨-, h2 | ⟨g, cap, cur, e, -, -, h, -⟩⟩ := hcw.ao
      · have := h2.2; omega
      · simp at e; omega)
    clear hiv HCI HCW
    by_cases hlt : (i : Int) < (os.length : Int)
    · have hao : ∃ ad, ao = some ad := by cases ao with | none => exact absurd (hnone rfl) (by omega) | some ad => exact ⟨ad, rfl⟩
      obtain ⟨ad, rfl⟩ := hao
      obtain ⟨hon, ua, uc, g0, g1, g2, g3⟩ := HLS.out.get i (by omega)
      obtain ⟨o, ho⟩ : ∃ o, o = os[i] := ⟨_, rfl⟩
      rw [← ho] at hon g0 g1 g2 g3
      have k0 := cell_later hcw.below g0
      have k1 := cell_later hcw.below g1
      have k2 := cell_later hcw.below g2
      have HOB := hid g3
      have HON := hid hon
      clear ho hon g0 g1 g2 g3
      by_cases h60 : (60 : Int) ≤ (i : Int)
      · have HCI := hid hci
        have HCX := hid (hcw.later (Nat.le_refl _) ((Below.refl _ _).alloc (Nat.le_refl _) (.cells #[.int .i64 o.kind, .int .i64 o.n, .slice ua o.m.length uc] 40)))
        clear hci hcw
        have hci := HCI.out
        obtain ⟨x1, x2, x3, x4, kk, tt, x5, x6, x7, x8, x9⟩ := ci_crash hci keep
        have X1 := hid x1
        have X2 := hid x2
        have X3 := hid x3
        have X4 := hid x4
        have X7 := hid x7
        have X8 := hid x8
        have X9 := hid x9
        have HIM := hid hci.ism
        have HSM := hid hci.sm
        clear hci x1 x2 x3 x4 x7 x8 x9 HCI
        go_wp2_with fail
        refine (HCX.out.jd.disk fun RD d => crash_any db RD S keep _ d).mono ?_
        rintro e w5 ⟨rfl, hs5⟩
        obtain ⟨R5, hc5⟩ := HCX.out.step (Nat.le_refl _) hs5
        have HC5 := hid hc5
        clear hs5 hc5 HCX
        obtain ⟨RD5, dk5, rd5⟩ := HC5.out.jd.dk
        have DK5 := hid dk5
        have RR5 := hid rd5
        clear dk5 rd5
        go_wp2_with fail
        refine (open_ok db RD5 (crashS S keep) _ DK5.out X1.out X2.out X3.out (all.take kk) tt X7.out X9.out X8.out).mono ?_
        rw [X4.out]
        rintro e w6 ⟨jb6, S6, R6, rfl, jd6, t6, r6⟩
        have hb6 : Below w.heap.size w w6 := HC5.out.below.trans (t6.below HC5.out.below.size fun k hk => HC5.out.above k (RR5.out k hk))
        have hi6 : w6.ownsRow w.heap.size 9 1 (.slice ia ni ic) ni ivs := ownsRow_blk HC5.out.io fun k hk => t6.block k (ownsRow_lt HC5.out.io k hk).2 fun h => HC5.out.iout k hk (RR5.out k h)
        have ha6 : w6.ownsRow w.heap.size 34 1 (.slice aa all.length ac) all.length avs := ownsRow_blk HC5.out.ao fun k hk => t6.block k (ownsRow_lt HC5.out.ao k hk).2 fun h => HC5.out.aout k hk (RR5.out k h)
        have HT6 : Hid (Btss w6 (.slice aa all.length ac) all) := hid (btss_of_rows ha6 fun i hi => by obtain ⟨u, g1, g2⟩ := HC5.out.rows i hi; exact ⟨u, g1, g2.below hb6⟩)
        obtain ⟨RJ6, RD6, jdv6, -⟩ := jd6
        have HJ6 := hid jdv6.j
        have HB6 := hid hb6
        obtain ⟨gi, mi, hia, hni, kst⟩ := last_cell hi6 HIV.out
        subst hia
        subst hni
        have KST := hid kst
        clear hb6 hi6 ha6 jdv6 t6 r6 HC5 DK5 RR5 kst
        go_wp2_with fail
        have hmi : (0 : Int) ≤ (mi : Int) ∧ (mi : Int) < (mi : Int) + 1 := by omega
        have hwm : IntKind.i64.wrap (mi : Int) = (mi : Int) := IntWalk.i64_in _ ⟨by omega, by omega⟩
        refine wp_region_held_drew (S := fun W => W.cell? ⟨gi, mi, none⟩ = some (.string ⟨J.image.toArray⟩)) (by kernel_rfl) KST.out (fun hHeld => ?_)
        refine wpAnyH_take (i := 0) (v := ?fv0) rfl (by kernel_rfl) (by kernel_rfl) (by kernel_rfl) (fun _ _ _ h => h) (Or.inl ⟨by rfl, ?fy0⟩) (by assumption) ?fr0
        case fy0 => (intro w hSw; (try dsimp only at hSw); go_simp; try with_reducible rfl)
        (try simp only [Act.put, List.setIfInBounds_toArray, List.set_cons_zero, List.set_cons_succ, List.getElem_toArray, List.getElem_cons_succ, List.getElem_cons_zero])
        refine wpAnyH_take (i := 1) (v := .bool false) rfl (by kernel_rfl) (by kernel_rfl) (by kernel_rfl) (fun _ _ _ h => h) (Or.inl ⟨by rfl, ?fy1⟩) (by assumption) ?fr1
        case fy1 => (intro w hSw; (try dsimp only at hSw); go_simp; try with_reducible rfl)
        (try simp only [Act.put, List.setIfInBounds_toArray, List.set_cons_zero, List.set_cons_succ, List.getElem_toArray, List.getElem_cons_succ, List.getElem_cons_zero])
        refine wpAnyH_take (i := 2) (v := .bool false) rfl (by kernel_rfl) (by kernel_rfl) (by kernel_rfl) (fun _ _ _ h => h) (Or.inl ⟨by rfl, ?fy2⟩) (by assumption) ?fr2
        case fy2 => (intro w hSw; (try dsimp only at hSw); go_simp; try with_reducible rfl)
        (try simp only [Act.put, List.setIfInBounds_toArray, List.set_cons_zero, List.set_cons_succ, List.getElem_toArray, List.getElem_cons_succ, List.getElem_cons_zero])
        refine wpAnyH_take (i := 3) (v := ?fv3) rfl (by kernel_rfl) (by kernel_rfl) (by kernel_rfl) (fun _ _ _ h => h) (Or.inl ⟨by rfl, ?fy3⟩) (by assumption) ?fr3
        case fy3 => (intro w hSw; (try dsimp only at hSw); go_simp; try with_reducible rfl)
        (try simp only [Act.put, List.setIfInBounds_toArray, List.set_cons_zero, List.set_cons_succ, List.getElem_toArray, List.getElem_cons_succ, List.getElem_cons_zero])
        refine wpAnyH_take (i := 6) (v := ?fv6) rfl (by kernel_rfl) (by kernel_rfl) (by kernel_rfl) (fun _ _ _ h => h) (Or.inl ⟨by rfl, ?fy6⟩) (by assumption) ?fr6
        case fy6 => (intro w hSw; (try dsimp only at hSw); go_simp; try with_reducible rfl)
        (try simp only [Act.put, List.setIfInBounds_toArray, List.set_cons_zero, List.set_cons_succ, List.getElem_toArray, List.getElem_cons_succ, List.getElem_cons_zero])
        refine wpAnyH_take (i := 7) (v := ?fv7) rfl (by kernel_rfl) (by kernel_rfl) (by kernel_rfl) (fun _ _ _ h => h) (Or.inl ⟨by rfl, ?fy7⟩) (by assumption) ?fr7
        case fy7 => (intro w hSw; (try dsimp only at hSw); go_simp; try with_reducible rfl)
        (try simp only [Act.put, List.setIfInBounds_toArray, List.set_cons_zero, List.set_cons_succ, List.getElem_toArray, List.getElem_cons_succ, List.getElem_cons_zero])
        refine wpAnyH_take (i := 8) (v := ?fv8) rfl (by kernel_rfl) (by kernel_rfl) (by kernel_rfl) (fun _ _ _ h => h) (Or.inl ⟨by rfl, ?fy8⟩) (by assumption) ?fr8
        case fy8 => (intro w hSw; (try dsimp only at hSw); go_simp; try with_reducible rfl)
        (try simp only [Act.put, List.setIfInBounds_toArray, List.set_cons_zero, List.set_cons_succ, List.getElem_toArray, List.getElem_cons_succ, List.getElem_cons_zero])
        refine wpAnyH_take (i := 9) (v := ?fv9) rfl (by kernel_rfl) (by kernel_rfl) (by kernel_rfl) (fun _ _ _ h => h) (Or.inl ⟨by rfl, ?fy9⟩) (by assumption) ?fr9
        case fy9 => (intro w hSw; (try dsimp only at hSw); go_simp; try with_reducible rfl)
        (try simp only [Act.put, List.setIfInBounds_toArray, List.set_cons_zero, List.set_cons_succ, List.getElem_toArray, List.getElem_cons_succ, List.getElem_cons_zero])
        refine wpAnyH_take (i := 10) (v := .pointer (some ⟨gi, mi, none⟩)) rfl (by kernel_rfl) (by kernel_rfl) (by kernel_rfl) (fun _ _ _ h => h) (Or.inl ⟨by rfl, ?fy10⟩) (by assumption) ?fr10
        case fy10 => (intro w hSw; (try dsimp only at hSw); go_simp; try with_reducible rfl)
        (try simp only [Act.put, List.setIfInBounds_toArray, List.set_cons_zero, List.set_cons_succ, List.getElem_toArray, List.getElem_cons_succ, List.getElem_cons_zero])
        refine wpAnyH_take (i := 11) (v := .string ⟨J.image.toArray⟩) rfl (by kernel_rfl) (by kernel_rfl) (by kernel_rfl) (fun _ _ _ h => h) (Or.inl ⟨by rfl, ?fy11⟩) (by assumption) ?fr11
        case fy11 => (intro w hSw; (try dsimp only at hSw); go_simp; try with_reducible rfl)
        (try simp only [Act.put, List.setIfInBounds_toArray, List.set_cons_zero, List.set_cons_succ, List.getElem_toArray, List.getElem_cons_succ, List.getElem_cons_zero])
        refine wpAnyH_ready (rs := [4]) (by kernel_rfl) (by simp) ?_
        refine AllReadyH.cons rfl (fun K hK => ?_) AllReadyH.nil
        rw [if_pos (by rfl)]
        go_wp2_with fail
        have HJD : Hid (Jn w6.drew jb6 db RJ6 ⟨J.image, all.take kk, false⟩) := hid (HJ6.out.but (w' := w6.drew) (But.of_below (R := fun _ => False) ⟨rfl, rfl, rfl, Nat.le_refl _, fun _ _ => rfl⟩) fun _ _ h => h)
        refine (jimage_any jb6 db RJ6 _ _ HJD.out (show J.image.length ≤ _ by have := HIM.out; omega)).mono ?_
        rintro e w7 ⟨xa, xc, rfl, ho7, hb7⟩
        have sI := conv_string w7 _ _ ho7.bts
        have HSD : Hid (w7.cell? ⟨gi, mi, none⟩ = some (.string ⟨J.image.toArray⟩)) := hid (cell_later hb7 KST.out)
        have HJ7 := hid (HJD.out.but (But.of_below (R := fun _ => False) hb7) fun _ _ h => h)
        have HT7 := hid ((show Btss w6.drew _ _ from HT6.out).below hb7)
        have HB7 : Hid (Below w.heap.size w w7) := hid ((show Below w.heap.size w w6.drew from ⟨HB6.out.os, HB6.out.tape, HB6.out.output, HB6.out.size, HB6.out.block⟩).trans (hb7.mono HB6.out.size))
        clear ho7 hb7
        go_wp2_with fail
        refine hK.out _ _ HSD.out (fun hHeld => ?_)
        try clear hK K
        (try simp only [Act.put, List.setIfInBounds_toArray, List.set_cons_zero, List.set_cons_succ, List.getElem_toArray, List.getElem_cons_succ, List.getElem_cons_zero])
        refine wpAnyH_ready (rs := [5]) (by kernel_rfl) (by simp) ?_
        refine AllReadyH.cons rfl (fun K hK => ?_) AllReadyH.nil
        rw [if_pos (by rfl)]
        go_simp
        refine hK.out _ _ HSD.out (fun hHeld => ?_)
        try clear hK K
        (try simp only [Act.put, List.setIfInBounds_toArray, List.set_cons_zero, List.set_cons_succ, List.getElem_toArray, List.getElem_cons_succ, List.getElem_cons_zero])
        refine wpAnyH_take (i := 12) (v := .bool false) rfl (by kernel_rfl) (by kernel_rfl) (by kernel_rfl) (fun _ _ _ h => h) (Or.inl ⟨by rfl, ?fy12⟩) (by assumption) ?fr12
        case fy12 => (intro w hSw; (try dsimp only at hSw); go_simp; try with_reducible rfl)
        (try simp only [Act.put, List.setIfInBounds_toArray, List.set_cons_zero, List.set_cons_succ, List.getElem_toArray, List.getElem_cons_succ, List.getElem_cons_zero])
        refine wpAnyH_take (i := 13) (v := .bool false) rfl (by kernel_rfl) (by kernel_rfl) (by kernel_rfl) (fun _ _ _ h => h) (Or.inl ⟨by rfl, ?fy13⟩) (by assumption) ?fr13
        case fy13 => (intro w hSw; (try dsimp only at hSw); go_simp; try with_reducible rfl)
        (try simp only [Act.put, List.setIfInBounds_toArray, List.set_cons_zero, List.set_cons_succ, List.getElem_toArray, List.getElem_cons_succ, List.getElem_cons_zero])
        refine wpAnyH_done (by kernel_rfl) ?_ _
        go_wp2_with fail
        have hkl : (all.take kk).length = kk := by simp; omega
        have HKL := hid hkl
        refine (records_any jb6 db RJ6 _ _ HJ7.out (by intro r hr; have := X9.out r hr; omega) (by rw [HKL.out]; omega)).mono ?_
        simp only [HKL.out]
        rintro e w8 ⟨ga, gc, rfl, ⟨gvs, hr8⟩, hb8⟩
        have HG8 := hid hr8.btss
        have HT8 := hid ((HT7.out.below hb8).take' (n := kk) (by omega))
        have HB8 := hid (HB7.out.trans (hb8.mono HB7.out.size))
        clear hr8 hb8
        have hk1 : (n : Int) ≤ (kk : Int) := by omega
        have hk2 : (kk : Int) ≤ (all.length : Int) := by omega
        have hk3 : (kk : Int) ≤ (ac : Int) := by have := HAC.out; omega
        have hk0 : (0 : Int) ≤ (kk : Int) := by omega
        go_wp2_with (first
          | (go_at_call 30; refine (jsame_any _ _ (all.take kk) _ HG8.out HT8.out).mono ?_; rintro e w9 ⟨rfl, hb9⟩; have HB9 := hid (HB8.out.trans (hb9.mono HB8.out.size)); clear hb9)
          | (go_at_call 25; refine (jlives_any _).mono ?_; rintro e w10 ⟨rfl, hb10⟩; have HB10 := hid (HB9.out.trans (hb10.mono HB9.out.size)); clear hb10))
        go_ret
        exact ⟨rfl, HB10.out⟩
      · have h60f : decide ((60 : Int) ≤ (i : Int)) = false := by simp; omega
        have hi59 : i < 60 := by omega
        obtain ⟨RJ, hjn⟩ := hcw.jn
        have HJN := hid (hjn.but (But.of_below (R := fun _ => False) ((Below.refl _ _).alloc (Nat.le_refl _) (.cells #[.int .i64 o.kind, .int .i64 o.n, .slice ua o.m.length uc] 40))) fun _ _ h => h)
        have HCW := hid (hcw.later (Nat.le_refl _) ((Below.refl _ _).alloc (Nat.le_refl _) (.cells #[.int .i64 o.kind, .int .i64 o.n, .slice ua o.m.length uc] 40)))
        clear hjn h60
        cases hdn : J.down with
        | true =>
          have HCI := hid hci
          have HCX := HCW
          have HDN := hid hdn
          clear hci hcw hdn
          go_wp2_with (go_at_call 26; refine (down_any jb db RJ J _ HJN.out).mono ?_; rw [HDN.out]; rintro e w4 ⟨rfl, rfl⟩)
          have hci := HCI.out
          obtain ⟨x1, x2, x3, x4, kk, tt, x5, x6, x7, x8, x9⟩ := ci_crash hci keep
          have X1 := hid x1
          have X2 := hid x2
          have X3 := hid x3
          have X4 := hid x4
          have X7 := hid x7
          have X8 := hid x8
          have X9 := hid x9
          have HIM := hid hci.ism
          have HSM := hid hci.sm
          clear hci x1 x2 x3 x4 x7 x8 x9 HCI
          go_wp2_with fail
          refine (HCX.out.jd.disk fun RD d => crash_any db RD S keep _ d).mono ?_
          rintro e w5 ⟨rfl, hs5⟩
          obtain ⟨R5, hc5⟩ := HCX.out.step (Nat.le_refl _) hs5
          have HC5 := hid hc5
          clear hs5 hc5 HCX
          obtain ⟨RD5, dk5, rd5⟩ := HC5.out.jd.dk
          have DK5 := hid dk5
          have RR5 := hid rd5
          clear dk5 rd5
          go_wp2_with fail
          refine (open_ok db RD5 (crashS S keep) _ DK5.out X1.out X2.out X3.out (all.take kk) tt X7.out X9.out X8.out).mono ?_
          rw [X4.out]
          rintro e w6 ⟨jb6, S6, R6, rfl, jd6, t6, r6⟩
          have hb6 : Below w.heap.size w w6 := HC5.out.below.trans (t6.below HC5.out.below.size fun k hk => HC5.out.above k (RR5.out k hk))
          have hi6 : w6.ownsRow w.heap.size 9 1 (.slice ia ni ic) ni ivs := ownsRow_blk HC5.out.io fun k hk => t6.block k (ownsRow_lt HC5.out.io k hk).2 fun h => HC5.out.iout k hk (RR5.out k h)
          have ha6 : w6.ownsRow w.heap.size 34 1 (.slice aa all.length ac) all.length avs := ownsRow_blk HC5.out.ao fun k hk => t6.block k (ownsRow_lt HC5.out.ao k hk).2 fun h => HC5.out.aout k hk (RR5.out k h)
          have HT6 : Hid (Btss w6 (.slice aa all.length ac) all) := hid (btss_of_rows ha6 fun i hi => by obtain ⟨u, g1, g2⟩ := HC5.out.rows i hi; exact ⟨u, g1, g2.below hb6⟩)
          obtain ⟨RJ6, RD6, jdv6, -⟩ := jd6
          have HJ6 := hid jdv6.j
          have HB6 := hid hb6
          obtain ⟨gi, mi, hia, hni, kst⟩ := last_cell hi6 HIV.out
          subst hia
          subst hni
          have KST := hid kst
          clear hb6 hi6 ha6 jdv6 t6 r6 HC5 DK5 RR5 kst
          go_wp2_with fail
          have hmi : (0 : Int) ≤ (mi : Int) ∧ (mi : Int) < (mi : Int) + 1 := by omega
          have hwm : IntKind.i64.wrap (mi : Int) = (mi : Int) := IntWalk.i64_in _ ⟨by omega, by omega⟩
          refine wp_region_held_drew (S := fun W => W.cell? ⟨gi, mi, none⟩ = some (.string ⟨J.image.toArray⟩)) (by kernel_rfl) KST.out (fun hHeld => ?_)
          refine wpAnyH_take (i := 0) (v := ?hv0) rfl (by kernel_rfl) (by kernel_rfl) (by kernel_rfl) (fun _ _ _ h => h) (Or.inl ⟨by rfl, ?hy0⟩) (by assumption) ?hr0
          case hy0 => (intro w hSw; (try dsimp only at hSw); go_simp; try with_reducible rfl)
          (try simp only [Act.put, List.setIfInBounds_toArray, List.set_cons_zero, List.set_cons_succ, List.getElem_toArray, List.getElem_cons_succ, List.getElem_cons_zero])
          refine wpAnyH_take (i := 1) (v := .bool false) rfl (by kernel_rfl) (by kernel_rfl) (by kernel_rfl) (fun _ _ _ h => h) (Or.inl ⟨by rfl, ?hy1⟩) (by assumption) ?hr1
          case hy1 => (intro w hSw; (try dsimp only at hSw); go_simp; try with_reducible rfl)
          (try simp only [Act.put, List.setIfInBounds_toArray, List.set_cons_zero, List.set_cons_succ, List.getElem_toArray, List.getElem_cons_succ, List.getElem_cons_zero])
          refine wpAnyH_take (i := 2) (v := .bool false) rfl (by kernel_rfl) (by kernel_rfl) (by kernel_rfl) (fun _ _ _ h => h) (Or.inl ⟨by rfl, ?hy2⟩) (by assumption) ?hr2
          case hy2 => (intro w hSw; (try dsimp only at hSw); go_simp; try with_reducible rfl)
          (try simp only [Act.put, List.setIfInBounds_toArray, List.set_cons_zero, List.set_cons_succ, List.getElem_toArray, List.getElem_cons_succ, List.getElem_cons_zero])
          refine wpAnyH_take (i := 3) (v := ?hv3) rfl (by kernel_rfl) (by kernel_rfl) (by kernel_rfl) (fun _ _ _ h => h) (Or.inl ⟨by rfl, ?hy3⟩) (by assumption) ?hr3
          case hy3 => (intro w hSw; (try dsimp only at hSw); go_simp; try with_reducible rfl)
          (try simp only [Act.put, List.setIfInBounds_toArray, List.set_cons_zero, List.set_cons_succ, List.getElem_toArray, List.getElem_cons_succ, List.getElem_cons_zero])
          refine wpAnyH_take (i := 6) (v := ?hv6) rfl (by kernel_rfl) (by kernel_rfl) (by kernel_rfl) (fun _ _ _ h => h) (Or.inl ⟨by rfl, ?hy6⟩) (by assumption) ?hr6
          case hy6 => (intro w hSw; (try dsimp only at hSw); go_simp; try with_reducible rfl)
          (try simp only [Act.put, List.setIfInBounds_toArray, List.set_cons_zero, List.set_cons_succ, List.getElem_toArray, List.getElem_cons_succ, List.getElem_cons_zero])
          refine wpAnyH_take (i := 7) (v := ?hv7) rfl (by kernel_rfl) (by kernel_rfl) (by kernel_rfl) (fun _ _ _ h => h) (Or.inl ⟨by rfl, ?hy7⟩) (by assumption) ?hr7
          case hy7 => (intro w hSw; (try dsimp only at hSw); go_simp; try with_reducible rfl)
          (try simp only [Act.put, List.setIfInBounds_toArray, List.set_cons_zero, List.set_cons_succ, List.getElem_toArray, List.getElem_cons_succ, List.getElem_cons_zero])
          refine wpAnyH_take (i := 8) (v := ?hv8) rfl (by kernel_rfl) (by kernel_rfl) (by kernel_rfl) (fun _ _ _ h => h) (Or.inl ⟨by rfl, ?hy8⟩) (by assumption) ?hr8
          case hy8 => (intro w hSw; (try dsimp only at hSw); go_simp; try with_reducible rfl)
          (try simp only [Act.put, List.setIfInBounds_toArray, List.set_cons_zero, List.set_cons_succ, List.getElem_toArray, List.getElem_cons_succ, List.getElem_cons_zero])
          refine wpAnyH_take (i := 9) (v := ?hv9) rfl (by kernel_rfl) (by kernel_rfl) (by kernel_rfl) (fun _ _ _ h => h) (Or.inl ⟨by rfl, ?hy9⟩) (by assumption) ?hr9
          case hy9 => (intro w hSw; (try dsimp only at hSw); go_simp; try with_reducible rfl)
          (try simp only [Act.put, List.setIfInBounds_toArray, List.set_cons_zero, List.set_cons_succ, List.getElem_toArray, List.getElem_cons_succ, List.getElem_cons_zero])
          refine wpAnyH_take (i := 10) (v := .pointer (some ⟨gi, mi, none⟩)) rfl (by kernel_rfl) (by kernel_rfl) (by kernel_rfl) (fun _ _ _ h => h) (Or.inl ⟨by rfl, ?hy10⟩) (by assumption) ?hr10
          case hy10 => (intro w hSw; (try dsimp only at hSw); go_simp; try with_reducible rfl)
          (try simp only [Act.put, List.setIfInBounds_toArray, List.set_cons_zero, List.set_cons_succ, List.getElem_toArray, List.getElem_cons_succ, List.getElem_cons_zero])
          refine wpAnyH_take (i := 11) (v := .string ⟨J.image.toArray⟩) rfl (by kernel_rfl) (by kernel_rfl) (by kernel_rfl) (fun _ _ _ h => h) (Or.inl ⟨by rfl, ?hy11⟩) (by assumption) ?hr11
          case hy11 => (intro w hSw; (try dsimp only at hSw); go_simp; try with_reducible rfl)
          (try simp only [Act.put, List.setIfInBounds_toArray, List.set_cons_zero, List.set_cons_succ, List.getElem_toArray, List.getElem_cons_succ, List.getElem_cons_zero])
          refine wpAnyH_ready (rs := [4]) (by kernel_rfl) (by simp) ?_
          refine AllReadyH.cons rfl (fun K hK => ?_) AllReadyH.nil
          rw [if_pos (by rfl)]
          go_wp2_with fail
          have HJD : Hid (Jn w6.drew jb6 db RJ6 ⟨J.image, all.take kk, false⟩) := hid (HJ6.out.but (w' := w6.drew) (But.of_below (R := fun _ => False) ⟨rfl, rfl, rfl, Nat.le_refl _, fun _ _ => rfl⟩) fun _ _ h => h)
          refine (jimage_any jb6 db RJ6 _ _ HJD.out (show J.image.length ≤ _ by have := HIM.out; omega)).mono ?_
          rintro e w7 ⟨xa, xc, rfl, ho7, hb7⟩
          have sI := conv_string w7 _ _ ho7.bts
          have HSD : Hid (w7.cell? ⟨gi, mi, none⟩ = some (.string ⟨J.image.toArray⟩)) := hid (cell_later hb7 KST.out)
          have HJ7 := hid (HJD.out.but (But.of_below (R := fun _ => False) hb7) fun _ _ h => h)
          have HT7 := hid ((show Btss w6.drew _ _ from HT6.out).below hb7)
          have HB7 : Hid (Below w.heap.size w w7) := hid ((show Below w.heap.size w w6.drew from ⟨HB6.out.os, HB6.out.tape, HB6.out.output, HB6.out.size, HB6.out.block⟩).trans (hb7.mono HB6.out.size))
          clear ho7 hb7
          go_wp2_with fail
          refine hK.out _ _ HSD.out (fun hHeld => ?_)
          try clear hK K
          (try simp only [Act.put, List.setIfInBounds_toArray, List.set_cons_zero, List.set_cons_succ, List.getElem_toArray, List.getElem_cons_succ, List.getElem_cons_zero])
          refine wpAnyH_ready (rs := [5]) (by kernel_rfl) (by simp) ?_
          refine AllReadyH.cons rfl (fun K hK => ?_) AllReadyH.nil
          rw [if_pos (by rfl)]
          go_simp
          refine hK.out _ _ HSD.out (fun hHeld => ?_)
          try clear hK K
          (try simp only [Act.put, List.setIfInBounds_toArray, List.set_cons_zero, List.set_cons_succ, List.getElem_toArray, List.getElem_cons_succ, List.getElem_cons_zero])
          refine wpAnyH_take (i := 12) (v := .bool false) rfl (by kernel_rfl) (by kernel_rfl) (by kernel_rfl) (fun _ _ _ h => h) (Or.inl ⟨by rfl, ?hy12⟩) (by assumption) ?hr12
          case hy12 => (intro w hSw; (try dsimp only at hSw); go_simp; try with_reducible rfl)
          (try simp only [Act.put, List.setIfInBounds_toArray, List.set_cons_zero, List.set_cons_succ, List.getElem_toArray, List.getElem_cons_succ, List.getElem_cons_zero])
          refine wpAnyH_take (i := 13) (v := .bool false) rfl (by kernel_rfl) (by kernel_rfl) (by kernel_rfl) (fun _ _ _ h => h) (Or.inl ⟨by rfl, ?hy13⟩) (by assumption) ?hr13
          case hy13 => (intro w hSw; (try dsimp only at hSw); go_simp; try with_reducible rfl)
          (try simp only [Act.put, List.setIfInBounds_toArray, List.set_cons_zero, List.set_cons_succ, List.getElem_toArray, List.getElem_cons_succ, List.getElem_cons_zero])
          refine wpAnyH_done (by kernel_rfl) ?_ _
          go_wp2_with fail
          have hkl : (all.take kk).length = kk := by simp; omega
          have HKL := hid hkl
          refine (records_any jb6 db RJ6 _ _ HJ7.out (by intro r hr; have := X9.out r hr; omega) (by rw [HKL.out]; omega)).mono ?_
          simp only [HKL.out]
          rintro e w8 ⟨ga, gc, rfl, ⟨gvs, hr8⟩, hb8⟩
          have HG8 := hid hr8.btss
          have HT8 := hid ((HT7.out.below hb8).take' (n := kk) (by omega))
          have HB8 := hid (HB7.out.trans (hb8.mono HB7.out.size))
          clear hr8 hb8
          have hk1 : (n : Int) ≤ (kk : Int) := by omega
          have hk2 : (kk : Int) ≤ (all.length : Int) := by omega
          have hk3 : (kk : Int) ≤ (ac : Int) := by have := HAC.out; omega
          have hk0 : (0 : Int) ≤ (kk : Int) := by omega
          go_wp2_with (first
            | (go_at_call 30; refine (jsame_any _ _ (all.take kk) _ HG8.out HT8.out).mono ?_; rintro e w9 ⟨rfl, hb9⟩; have HB9 := hid (HB8.out.trans (hb9.mono HB8.out.size)); clear hb9)
            | (go_at_call 25; refine (jlives_any _).mono ?_; rintro e w10 ⟨rfl, hb10⟩; have HB10 := hid (HB9.out.trans (hb10.mono HB9.out.size)); clear hb10))
          go_ret
          exact ⟨rfl, HB10.out⟩
        | false =>
          have HDN := hid hdn
          have HCI := hid hci
          have hszj := ci_size hci hcw.jd.ok hdn
          have HSZ := hid hszj
          clear hci hcw hdn hszj
          go_wp2_with (go_at_call 26; refine (down_any jb db RJ J _ HJN.out).mono ?_; rw [HDN.out]; rintro e w4 ⟨rfl, hw4⟩; subst hw4)
          refine (small_any _ o.m _ (HOB.out.below HCW.out.below)).mono ?_
          rintro e w5 ⟨sa, sn, sc, rfl, hs1, hs2, rfl⟩
          have HSO := hid (ownB_small hs2 (old_of HOB.out))
          have HSB := hid hs1
          obtain ⟨b, hb⟩ : ∃ b, b = o.m.take 3000 := ⟨_, rfl⟩
          have hb3 : b.length ≤ 3000 := by rw [hb]; simp; omega
          rw [← hb] at HSO HSB
          clear hb hs1 hs2
          have HB0 := hid (bts_back HSB.out HCW.out.below HSO.out)
          have HSTAY : Hid (∀ w', But R (wr.alloc (.cells #[.int .i64 o.kind, .int .i64 o.n, .slice ua o.m.length uc] 40)) w' → Bts w' (.slice sa sn sc) b) := hid (stay HSB.out fun hr k hk h => by have := HSO.out hr k hk; have := HCW.out.above k h; omega)
          have hon := HON.out
          by_cases k1' : o.kind = 1
          · have e1 : (o.kind == 1) = true := by simpa using k1'
            clear k1'
            rcases ci_add HCI.out HDN.out b hb3 with ⟨he | he, hci'⟩ | ⟨he, hci'⟩
            · have HE := hid he
              have HCI' := hid hci'
              clear he hci'
              go_wp2_with fail
              refine (add_any jb db R S J _ b _ HCW.out.jd HSB.out HSTAY.out HSZ.out).mono ?_
              rw [HE.out]
              rintro e w6 ⟨rfl, hs6⟩
              obtain ⟨R6, hc6⟩ := HCW.out.step (Nat.le_refl _) hs6
              have HC6 := hid hc6
              have HC7 := hid (hc6.later (Nat.le_refl _) ((Below.refl _ _).alloc (Nat.le_refl _) (.cells #[.slice sa sn sc] 34)))
              have HCC : Hid ((w6.alloc (.cells #[.slice sa sn sc] 34)).cell? ⟨w6.heap.size, 0, none⟩ = some (.slice sa sn sc)) := hid (by rw [cell_of_row _ _ _ _ _ _ (heap_alloc_new _ _)]; rfl)
              clear hs6 hc6
              go_wp2_with (at_builtin; obtain ⟨i0, hi0, hz0, hz1, hz2⟩ := info_parts Try.infoBB; refine wpList_append_own_at _ rfl _ _ 35 rfl w.heap.size 34 i0 (.slice none 0 0) 1 24 Try.underlyingBB hi0 hz0 hz1 hz2 rfl (by decide) (.slice aa all.length ac) all.length avs rfl HC7.out.ao ⟨w6.heap.size, 0, none⟩ 1 1 [.slice sa sn sc] rfl rfl (one_cell HCC.out) (one_one _ _ _) (by unfold maxLen; omega) (by omega) HC7.out.below.size ?_; clear hi0 hz0 hz1 hz2; intro v8 w8 ho8 hg8 _ hat8; obtain ⟨va8, vc8, rfl⟩ := ownsRow_shape ho8; have HC8 := hid (HC7.out.growA (Nat.le_refl _) HB0.out hg8 ho8 hat8); clear ho8 hg8 hat8)
              go_roundw
              case rel => exact ⟨i + 1, n, ni, _, _, R6, ia, va8, ic, vc8, ivs, _, all ++ [b], rfl, by rw [List.length_append]; rfl, rfl, by go_num, by omega, by rw [List.length_append]; simp; omega, by omega, by omega, by rw [addJ_image]; exact HIV.out, HCI'.out, by rw [List.length_append]; exact HC8.out⟩
              case measure => simp [intOf]; omega
            · have HE := hid he
              have HCI' := hid hci'
              clear he hci'
              go_wp2_with fail
              refine (add_any jb db R S J _ b _ HCW.out.jd HSB.out HSTAY.out HSZ.out).mono ?_
              rw [HE.out]
              rintro e w6 ⟨rfl, hs6⟩
              obtain ⟨R6, hc6⟩ := HCW.out.step (Nat.le_refl _) hs6
              have HC6 := hid hc6
              have HC7 := hid (hc6.later (Nat.le_refl _) ((Below.refl _ _).alloc (Nat.le_refl _) (.cells #[.slice sa sn sc] 34)))
              have HCC : Hid ((w6.alloc (.cells #[.slice sa sn sc] 34)).cell? ⟨w6.heap.size, 0, none⟩ = some (.slice sa sn sc)) := hid (by rw [cell_of_row _ _ _ _ _ _ (heap_alloc_new _ _)]; rfl)
              clear hs6 hc6
              go_wp2_with (at_builtin; obtain ⟨i0, hi0, hz0, hz1, hz2⟩ := info_parts Try.infoBB; refine wpList_append_own_at _ rfl _ _ 35 rfl w.heap.size 34 i0 (.slice none 0 0) 1 24 Try.underlyingBB hi0 hz0 hz1 hz2 rfl (by decide) (.slice aa all.length ac) all.length avs rfl HC7.out.ao ⟨w6.heap.size, 0, none⟩ 1 1 [.slice sa sn sc] rfl rfl (one_cell HCC.out) (one_one _ _ _) (by unfold maxLen; omega) (by omega) HC7.out.below.size ?_; clear hi0 hz0 hz1 hz2; intro v8 w8 ho8 hg8 _ hat8; obtain ⟨va8, vc8, rfl⟩ := ownsRow_shape ho8; have HC8 := hid (HC7.out.growA (Nat.le_refl _) HB0.out hg8 ho8 hat8); clear ho8 hg8 hat8)
              go_roundw
              case rel => exact ⟨i + 1, n, ni, _, _, R6, ia, va8, ic, vc8, ivs, _, all ++ [b], rfl, by rw [List.length_append]; rfl, rfl, by go_num, by omega, by rw [List.length_append]; simp; omega, by omega, by omega, by rw [addJ_image]; exact HIV.out, HCI'.out, by rw [List.length_append]; exact HC8.out⟩
              case measure => simp [intOf]; omega
            · have HE := hid he
              have HCI' := hid hci'
              clear he hci'
              go_wp2_with fail
              refine (add_any jb db R S J _ b _ HCW.out.jd HSB.out HSTAY.out HSZ.out).mono ?_
              rw [HE.out]
              rintro e w6 ⟨rfl, hs6⟩
              obtain ⟨R6, hc6⟩ := HCW.out.step (Nat.le_refl _) hs6
              have HC6 := hid hc6
              clear hs6 hc6
              go_wp2
              go_roundw
              case rel => exact ⟨i + 1, n, ni, _, _, R6, ia, aa, ic, ac, ivs, avs, all, rfl, rfl, rfl, by go_num, by omega, by omega, by omega, by omega, by rw [addJ_image]; exact HIV.out, HCI'.out, HC6.out⟩
              case measure => simp [intOf]; omega
          · have e1 : (o.kind == 1) = false := by simpa using k1'
            clear k1'
            by_cases k2' : o.kind = 2
            · have e2 : (o.kind == 2) = true := by simpa using k2'
              clear k2'
              rcases ci_sync HCI.out HDN.out with ⟨he, hci'⟩ | ⟨he, hci'⟩
              all_goals
                have HE := hid he
                have HCI' := hid hci'
                clear he hci'
                go_wp2_with fail
                refine (jsync_any jb db R S J _ HCW.out.jd).mono ?_
                rw [HE.out]
                rintro e w6 ⟨rfl, hs6⟩
                obtain ⟨R6, hc6⟩ := HCW.out.step (Nat.le_refl _) hs6
                have HC6 := hid hc6
                clear hs6 hc6
                go_wp2
                go_roundw
                case rel => exact ⟨i + 1, _, ni, _, _, R6, ia, aa, ic, ac, ivs, avs, all, rfl, rfl, rfl, by go_num, by omega, by omega, by omega, by omega, by rw [syncJ_image]; exact HIV.out, HCI'.out, HC6.out⟩
                case measure => simp [intOf]; omega
            · have e2 : (o.kind == 2) = false := by simpa using k2'
              clear k2'
              by_cases k3' : o.kind = 3
              · have e3 : (o.kind == 3) = true := by simpa using k3'
                clear k3'
                rcases ci_save HCI.out HDN.out b hb3 with ⟨he, hjm, hci'⟩ | ⟨he, hjm, hci'⟩
                · have HE := hid he
                  have HCI' := hid hci'
                  have HJM := hid hjm
                  clear he hci' hjm
                  go_wp2_with fail
                  refine (save_any jb db R S J _ b _ HCW.out.jd HSB.out HSTAY.out).mono ?_
                  rw [HE.out]
                  rintro e w6 ⟨rfl, hs6⟩
                  obtain ⟨R6, hc6⟩ := HCW.out.step (Nat.le_refl _) hs6
                  have HC6 := hid hc6
                  have sB := conv_string w6 _ _ (HB0.out.below hc6.below)
                  have HC7 := hid (hc6.later (Nat.le_refl _) ((Below.refl _ _).alloc (Nat.le_refl _) (.cells #[.string ⟨b.toArray⟩] 9)))
                  have HCC : Hid ((w6.alloc (.cells #[.string ⟨b.toArray⟩] 9)).cell? ⟨w6.heap.size, 0, none⟩ = some (.string ⟨b.toArray⟩)) := hid (by rw [cell_of_row _ _ _ _ _ _ (heap_alloc_new _ _)]; rfl)
                  clear hs6 hc6
                  go_wp2_with (at_builtin; obtain ⟨i0, hi0, hz0, hz1, hz2⟩ := info_parts Try.infoS; refine wpList_append_own_at _ rfl _ _ 51 rfl w.heap.size 9 i0 (.string ⟨#[]⟩) 1 16 Try.underlyingSS hi0 hz0 hz1 hz2 rfl (by decide) (.slice ia ni ic) ni ivs rfl HC7.out.io ⟨w6.heap.size, 0, none⟩ 1 1 [.string ⟨b.toArray⟩] rfl rfl (one_cell HCC.out) (one_str _) (by unfold maxLen; omega) (by omega) HC7.out.below.size ?_; clear hi0 hz0 hz1 hz2; intro v8 w8 ho8 hg8 _ hat8; obtain ⟨va8, vc8, rfl⟩ := ownsRow_shape ho8; have HC8 := hid (HC7.out.growI (Nat.le_refl _) hg8 ho8 hat8); clear ho8 hg8 hat8)
                  go_roundw
                  case rel => exact ⟨i + 1, 0, ni + 1, _, _, R6, va8, none, vc8, 0, _, [], [], rfl, rfl, rfl, by go_num, by omega, Nat.zero_le _, by omega, by omega, by rw [HJM.out]; exact ⟨ivs, rfl⟩, HCI'.out, HC8.out⟩
                  case measure => simp [intOf]; omega
                · obtain ⟨er, her⟩ : ∃ er, er = (saveR S J b).1 := ⟨_, rfl⟩
                  rw [← her] at he
                  have her0 : (er == 0) = false := by rcases he with rfl | rfl | rfl <;> rfl
                  have HE := hid her.symm
                  have HCI' := hid hci'
                  have HJM := hid hjm
                  clear he hci' hjm her
                  go_wp2_with fail
                  refine (save_any jb db R S J _ b _ HCW.out.jd HSB.out HSTAY.out).mono ?_
                  rw [HE.out]
                  rintro e w6 ⟨rfl, hs6⟩
                  obtain ⟨R6, hc6⟩ := HCW.out.step (Nat.le_refl _) hs6
                  have HC6 := hid hc6
                  clear hs6 hc6
                  go_wp2
                  go_roundw
                  case rel => exact ⟨i + 1, n, ni, _, _, R6, ia, aa, ic, ac, ivs, avs, all, rfl, rfl, rfl, by go_num, by omega, by omega, by omega, by omega, by rw [HJM.out]; exact HIV.out, HCI'.out, HC6.out⟩
                  case measure => simp [intOf]; omega
              · have e3 : (o.kind == 3) = false := by simpa using k3'
                clear k3'
                by_cases k4' : o.kind = 4
                · have e4 : (o.kind == 4) = true := by simpa using k4'
                  clear k4'
                  go_wp2_with fail
                  refine (HCW.out.jd.disk fun RD d => stop_any db RD S o.n _ d HON.out).mono ?_
                  rintro e w6 ⟨rfl, hs6⟩
                  obtain ⟨R6, hc6⟩ := HCW.out.step (Nat.le_refl _) hs6
                  have HC6 := hid hc6
                  clear hs6 hc6
                  go_wp2
                  go_roundw
                  case rel => exact ⟨i + 1, n, ni, _, _, R6, ia, aa, ic, ac, ivs, avs, all, rfl, rfl, rfl, by go_num, by omega, by omega, by omega, by omega, HIV.out, ci_stop HCI.out o.n, HC6.out⟩
                  case measure => simp [intOf]; omega
                · have e4 : (o.kind == 4) = false := by simpa using k4'
                  clear k4'
                  go_wp2
                  go_roundw
                  case rel => exact ⟨i + 1, n, ni, _, _, R, ia, aa, ic, ac, ivs, avs, all, rfl, rfl, rfl, by go_num, by omega, by omega, by omega, by omega, HIV.out, HCI.out, HCW.out⟩
                  case measure => simp [intOf]; omega
    · have HCI := hid hci
      have HCX := hid hcw
      clear hci hcw
      have hci := HCI.out
      obtain ⟨x1, x2, x3, x4, kk, tt, x5, x6, x7, x8, x9⟩ := ci_crash hci keep
      have X1 := hid x1
      have X2 := hid x2
      have X3 := hid x3
      have X4 := hid x4
      have X7 := hid x7
      have X8 := hid x8
      have X9 := hid x9
      have HIM := hid hci.ism
      have HSM := hid hci.sm
      clear hci x1 x2 x3 x4 x7 x8 x9 HCI
      go_wp2_with fail
      refine (HCX.out.jd.disk fun RD d => crash_any db RD S keep _ d).mono ?_
      rintro e w5 ⟨rfl, hs5⟩
      obtain ⟨R5, hc5⟩ := HCX.out.step (Nat.le_refl _) hs5
      have HC5 := hid hc5
      clear hs5 hc5 HCX
      obtain ⟨RD5, dk5, rd5⟩ := HC5.out.jd.dk
      have DK5 := hid dk5
      have RR5 := hid rd5
      clear dk5 rd5
      go_wp2_with fail
      refine (open_ok db RD5 (crashS S keep) _ DK5.out X1.out X2.out X3.out (all.take kk) tt X7.out X9.out X8.out).mono ?_
      rw [X4.out]
      rintro e w6 ⟨jb6, S6, R6, rfl, jd6, t6, r6⟩
      have hb6 : Below w.heap.size w w6 := HC5.out.below.trans (t6.below HC5.out.below.size fun k hk => HC5.out.above k (RR5.out k hk))
      have hi6 : w6.ownsRow w.heap.size 9 1 (.slice ia ni ic) ni ivs := ownsRow_blk HC5.out.io fun k hk => t6.block k (ownsRow_lt HC5.out.io k hk).2 fun h => HC5.out.iout k hk (RR5.out k h)
      have ha6 : w6.ownsRow w.heap.size 34 1 (.slice aa all.length ac) all.length avs := ownsRow_blk HC5.out.ao fun k hk => t6.block k (ownsRow_lt HC5.out.ao k hk).2 fun h => HC5.out.aout k hk (RR5.out k h)
      have HT6 : Hid (Btss w6 (.slice aa all.length ac) all) := hid (btss_of_rows ha6 fun i hi => by obtain ⟨u, g1, g2⟩ := HC5.out.rows i hi; exact ⟨u, g1, g2.below hb6⟩)
      obtain ⟨RJ6, RD6, jdv6, -⟩ := jd6
      have HJ6 := hid jdv6.j
      have HB6 := hid hb6
      obtain ⟨gi, mi, hia, hni, kst⟩ := last_cell hi6 HIV.out
      subst hia
      subst hni
      have KST := hid kst
      clear hb6 hi6 ha6 jdv6 t6 r6 HC5 DK5 RR5 kst
      go_wp2_with fail
      have hmi : (0 : Int) ≤ (mi : Int) ∧ (mi : Int) < (mi : Int) + 1 := by omega
      have hwm : IntKind.i64.wrap (mi : Int) = (mi : Int) := IntWalk.i64_in _ ⟨by omega, by omega⟩
      refine wp_region_held_drew (S := fun W => W.cell? ⟨gi, mi, none⟩ = some (.string ⟨J.image.toArray⟩)) (by kernel_rfl) KST.out (fun hHeld => ?_)
      refine wpAnyH_take (i := 0) (v := ?gv0) rfl (by kernel_rfl) (by kernel_rfl) (by kernel_rfl) (fun _ _ _ h => h) (Or.inl ⟨by rfl, ?gy0⟩) (by assumption) ?gr0
      case gy0 => (intro w hSw; (try dsimp only at hSw); go_simp; try with_reducible rfl)
      (try simp only [Act.put, List.setIfInBounds_toArray, List.set_cons_zero, List.set_cons_succ, List.getElem_toArray, List.getElem_cons_succ, List.getElem_cons_zero])
      refine wpAnyH_take (i := 1) (v := .bool false) rfl (by kernel_rfl) (by kernel_rfl) (by kernel_rfl) (fun _ _ _ h => h) (Or.inl ⟨by rfl, ?gy1⟩) (by assumption) ?gr1
      case gy1 => (intro w hSw; (try dsimp only at hSw); go_simp; try with_reducible rfl)
      (try simp only [Act.put, List.setIfInBounds_toArray, List.set_cons_zero, List.set_cons_succ, List.getElem_toArray, List.getElem_cons_succ, List.getElem_cons_zero])
      refine wpAnyH_take (i := 2) (v := .bool false) rfl (by kernel_rfl) (by kernel_rfl) (by kernel_rfl) (fun _ _ _ h => h) (Or.inl ⟨by rfl, ?gy2⟩) (by assumption) ?gr2
      case gy2 => (intro w hSw; (try dsimp only at hSw); go_simp; try with_reducible rfl)
      (try simp only [Act.put, List.setIfInBounds_toArray, List.set_cons_zero, List.set_cons_succ, List.getElem_toArray, List.getElem_cons_succ, List.getElem_cons_zero])
      refine wpAnyH_take (i := 3) (v := ?gv3) rfl (by kernel_rfl) (by kernel_rfl) (by kernel_rfl) (fun _ _ _ h => h) (Or.inl ⟨by rfl, ?gy3⟩) (by assumption) ?gr3
      case gy3 => (intro w hSw; (try dsimp only at hSw); go_simp; try with_reducible rfl)
      (try simp only [Act.put, List.setIfInBounds_toArray, List.set_cons_zero, List.set_cons_succ, List.getElem_toArray, List.getElem_cons_succ, List.getElem_cons_zero])
      refine wpAnyH_take (i := 6) (v := ?gv6) rfl (by kernel_rfl) (by kernel_rfl) (by kernel_rfl) (fun _ _ _ h => h) (Or.inl ⟨by rfl, ?gy6⟩) (by assumption) ?gr6
      case gy6 => (intro w hSw; (try dsimp only at hSw); go_simp; try with_reducible rfl)
      (try simp only [Act.put, List.setIfInBounds_toArray, List.set_cons_zero, List.set_cons_succ, List.getElem_toArray, List.getElem_cons_succ, List.getElem_cons_zero])
      refine wpAnyH_take (i := 7) (v := ?gv7) rfl (by kernel_rfl) (by kernel_rfl) (by kernel_rfl) (fun _ _ _ h => h) (Or.inl ⟨by rfl, ?gy7⟩) (by assumption) ?gr7
      case gy7 => (intro w hSw; (try dsimp only at hSw); go_simp; try with_reducible rfl)
      (try simp only [Act.put, List.setIfInBounds_toArray, List.set_cons_zero, List.set_cons_succ, List.getElem_toArray, List.getElem_cons_succ, List.getElem_cons_zero])
      refine wpAnyH_take (i := 8) (v := ?gv8) rfl (by kernel_rfl) (by kernel_rfl) (by kernel_rfl) (fun _ _ _ h => h) (Or.inl ⟨by rfl, ?gy8⟩) (by assumption) ?gr8
      case gy8 => (intro w hSw; (try dsimp only at hSw); go_simp; try with_reducible rfl)
      (try simp only [Act.put, List.setIfInBounds_toArray, List.set_cons_zero, List.set_cons_succ, List.getElem_toArray, List.getElem_cons_succ, List.getElem_cons_zero])
      refine wpAnyH_take (i := 9) (v := ?gv9) rfl (by kernel_rfl) (by kernel_rfl) (by kernel_rfl) (fun _ _ _ h => h) (Or.inl ⟨by rfl, ?gy9⟩) (by assumption) ?gr9
      case gy9 => (intro w hSw; (try dsimp only at hSw); go_simp; try with_reducible rfl)
      (try simp only [Act.put, List.setIfInBounds_toArray, List.set_cons_zero, List.set_cons_succ, List.getElem_toArray, List.getElem_cons_succ, List.getElem_cons_zero])
      refine wpAnyH_take (i := 10) (v := .pointer (some ⟨gi, mi, none⟩)) rfl (by kernel_rfl) (by kernel_rfl) (by kernel_rfl) (fun _ _ _ h => h) (Or.inl ⟨by rfl, ?gy10⟩) (by assumption) ?gr10
      case gy10 => (intro w hSw; (try dsimp only at hSw); go_simp; try with_reducible rfl)
      (try simp only [Act.put, List.setIfInBounds_toArray, List.set_cons_zero, List.set_cons_succ, List.getElem_toArray, List.getElem_cons_succ, List.getElem_cons_zero])
      refine wpAnyH_take (i := 11) (v := .string ⟨J.image.toArray⟩) rfl (by kernel_rfl) (by kernel_rfl) (by kernel_rfl) (fun _ _ _ h => h) (Or.inl ⟨by rfl, ?gy11⟩) (by assumption) ?gr11
      case gy11 => (intro w hSw; (try dsimp only at hSw); go_simp; try with_reducible rfl)
      (try simp only [Act.put, List.setIfInBounds_toArray, List.set_cons_zero, List.set_cons_succ, List.getElem_toArray, List.getElem_cons_succ, List.getElem_cons_zero])
      refine wpAnyH_ready (rs := [4]) (by kernel_rfl) (by simp) ?_
      refine AllReadyH.cons rfl (fun K hK => ?_) AllReadyH.nil
      rw [if_pos (by rfl)]
      go_wp2_with fail
      have HJD : Hid (Jn w6.drew jb6 db RJ6 ⟨J.image, all.take kk, false⟩) := hid (HJ6.out.but (w' := w6.drew) (But.of_below (R := fun _ => False) ⟨rfl, rfl, rfl, Nat.le_refl _, fun _ _ => rfl⟩) fun _ _ h => h)
      refine (jimage_any jb6 db RJ6 _ _ HJD.out (show J.image.length ≤ _ by have := HIM.out; omega)).mono ?_
      rintro e w7 ⟨xa, xc, rfl, ho7, hb7⟩
      have sI := conv_string w7 _ _ ho7.bts
      have HSD : Hid (w7.cell? ⟨gi, mi, none⟩ = some (.string ⟨J.image.toArray⟩)) := hid (cell_later hb7 KST.out)
      have HJ7 := hid (HJD.out.but (But.of_below (R := fun _ => False) hb7) fun _ _ h => h)
      have HT7 := hid ((show Btss w6.drew _ _ from HT6.out).below hb7)
      have HB7 : Hid (Below w.heap.size w w7) := hid ((show Below w.heap.size w w6.drew from ⟨HB6.out.os, HB6.out.tape, HB6.out.output, HB6.out.size, HB6.out.block⟩).trans (hb7.mono HB6.out.size))
      clear ho7 hb7
      go_wp2_with fail
      refine hK.out _ _ HSD.out (fun hHeld => ?_)
      try clear hK K
      (try simp only [Act.put, List.setIfInBounds_toArray, List.set_cons_zero, List.set_cons_succ, List.getElem_toArray, List.getElem_cons_succ, List.getElem_cons_zero])
      refine wpAnyH_ready (rs := [5]) (by kernel_rfl) (by simp) ?_
      refine AllReadyH.cons rfl (fun K hK => ?_) AllReadyH.nil
      rw [if_pos (by rfl)]
      go_simp
      refine hK.out _ _ HSD.out (fun hHeld => ?_)
      try clear hK K
      (try simp only [Act.put, List.setIfInBounds_toArray, List.set_cons_zero, List.set_cons_succ, List.getElem_toArray, List.getElem_cons_succ, List.getElem_cons_zero])
      refine wpAnyH_take (i := 12) (v := .bool false) rfl (by kernel_rfl) (by kernel_rfl) (by kernel_rfl) (fun _ _ _ h => h) (Or.inl ⟨by rfl, ?gy12⟩) (by assumption) ?gr12
      case gy12 => (intro w hSw; (try dsimp only at hSw); go_simp; try with_reducible rfl)
      (try simp only [Act.put, List.setIfInBounds_toArray, List.set_cons_zero, List.set_cons_succ, List.getElem_toArray, List.getElem_cons_succ, List.getElem_cons_zero])
      refine wpAnyH_take (i := 13) (v := .bool false) rfl (by kernel_rfl) (by kernel_rfl) (by kernel_rfl) (fun _ _ _ h => h) (Or.inl ⟨by rfl, ?gy13⟩) (by assumption) ?gr13
      case gy13 => (intro w hSw; (try dsimp only at hSw); go_simp; try with_reducible rfl)
      (try simp only [Act.put, List.setIfInBounds_toArray, List.set_cons_zero, List.set_cons_succ, List.getElem_toArray, List.getElem_cons_succ, List.getElem_cons_zero])
      refine wpAnyH_done (by kernel_rfl) ?_ _
      go_wp2_with fail
      have hkl : (all.take kk).length = kk := by simp; omega
      have HKL := hid hkl
      refine (records_any jb6 db RJ6 _ _ HJ7.out (by intro r hr; have := X9.out r hr; omega) (by rw [HKL.out]; omega)).mono ?_
      simp only [HKL.out]
      rintro e w8 ⟨ga, gc, rfl, ⟨gvs, hr8⟩, hb8⟩
      have HG8 := hid hr8.btss
      have HT8 := hid ((HT7.out.below hb8).take' (n := kk) (by omega))
      have HB8 := hid (HB7.out.trans (hb8.mono HB7.out.size))
      clear hr8 hb8
      have hk1 : (n : Int) ≤ (kk : Int) := by omega
      have hk2 : (kk : Int) ≤ (all.length : Int) := by omega
      have hk3 : (kk : Int) ≤ (ac : Int) := by have := HAC.out; omega
      have hk0 : (0 : Int) ≤ (kk : Int) := by omega
      go_wp2_with (first
        | (go_at_call 30; refine (jsame_any _ _ (all.take kk) _ HG8.out HT8.out).mono ?_; rintro e w9 ⟨rfl, hb9⟩; have HB9 := hid (HB8.out.trans (hb9.mono HB8.out.size)); clear hb9)
        | (go_at_call 25; refine (jlives_any _).mono ?_; rintro e w10 ⟨rfl, hb10⟩; have HB10 := hid (HB9.out.trans (hb10.mono HB9.out.size)); clear hb10))
      go_ret
      exact ⟨rfl, HB10.out⟩
end Go.Proofs.Ytpchmdfkifbciaa
