/- What the document's Read of any bytes gives: the store that they are, or none. Conditions: the bytes lie in memory. -/
import Derived.Test.YtabmnelenfghhaaBkEncDec
import Derived.Test.YtabmnelenfghhaaBkRApplyB
import Derived.Test.YtabmnelenfghhaaBkRMay
import Derived.Deep.CutBlock
import Derived.Deep.CutRange
namespace Go.Proofs.Ytabmnelenfghhaa
open Go.RowKit
set_option linter.unusedVariables false
set_option linter.unusedSimpArgs false

/-- The value v is a slice of the bytes r, in whatever world where w's blocks are. -/
def BtW (w : World) (v : Value) (r : List UInt8) : Prop := ∀ W, Below w.heap.size w W → Bts W v r
theorem BtW.cap {w : World} {a : Option Addr} {n c : Nat} {r : List UInt8} (h : BtW w (.slice a n c) r) : n = r.length ∧ r.length ≤ c ∧ (c : Int) ≤ 9223372036854775807 := by
  obtain ⟨_, _, _, e, h1, h2, h3, -⟩ := h w (Below.refl _ _)
  cases e
  exact ⟨h1, by omega, by omega⟩
theorem BtW.at {w : World} {a : Option Addr} {n c : Nat} {r : List UInt8} (h : BtW w (.slice a n c) r) (k : Nat) (hk : k < r.length) : ∃ ad, a = some ad ∧ ∀ W, Below w.heap.size w W → W.cell? (ad.add k) = some (.int .u8 (r[k].toNat : Int)) := by
  obtain ⟨_, _, _, e, h1, h2, h3, h4, h5⟩ := h w (Below.refl _ _)
  cases e
  cases a with
  | none => have := h4 rfl; omega
  | some ad =>
    refine ⟨ad, rfl, fun W hW => ?_⟩
    obtain ⟨_, _, _, e', _, _, _, _, g5⟩ := h W hW
    cases e'
    exact g5 ad rfl k hk
theorem Try.elemBB : Try.prog.elem 25 = 5 := by kernel_rfl
theorem Try.underlyingB' : Try.prog.underlying 25 = some (.slice (Try.prog.elem 25)) := by rw [Try.elemBB]; exact Try.underlyingB
theorem textB_posR (s : ByteArray) : 1 ≤ (textB s).length := by unfold textB; have := numB_pos s.size; rw [List.length_append]; omega
theorem BtW.from {w : World} {a : Option Addr} {c : Nat} {l : List UInt8} (h : BtW w (.slice a l.length c) l) (k : Nat) (hk : k ≤ l.length) (r : List UInt8) (hr : r = l.drop k) :
    ∃ a', (∀ W, (Instr.slice 25 (.slice a l.length c) (some (.int .i64 (k : Int))) none none).run Try.prog W = .ok (.slice a' r.length (c - k)) W) ∧ BtW w (.slice a' r.length (c - k)) r := by
  have hl : r.length = l.length - k := by rw [hr]; simp
  obtain ⟨i, hi, hz0, hz1, hz2⟩ := info_parts Try.infoB
  refine ⟨if c = k then a else a.map (·.add k), fun W => ?_, fun W hW => ?_⟩
  · have := run_slice_l (P := Try.prog) W 25 a l.length c Try.underlyingB' .i64 (k : Int) (by omega) (by omega)
    rw [this, Try.elemBB]
    simp [sizeOf, typeInfo, hi, hz1, sliced, hl]
  · have := (h W hW).sub (k := k) (n := l.length - k) (ao' := if c = k then a else a.map (·.add k)) (by omega) (fun hc => if_neg hc) (fun hc => if_pos hc)
    rw [hl]
    rw [hr]
    rwa [List.take_of_length_le (by simp)] at this
theorem text_left (l r : List UInt8) (h : textS (some l) = some r) : r.length < l.length ∧ r = l.drop (l.length - r.length) := by
  have e := text_only l r h
  have hp := textB_posR ⟨(textV (some l)).toArray⟩
  generalize textB ⟨(textV (some l)).toArray⟩ = t at e hp
  have hl : l.length = t.length + r.length := by rw [e]; simp
  refine ⟨by omega, ?_⟩
  rw [show l.length - r.length = t.length by omega, e]; simp
theorem num_left (l r : List UInt8) (h : numS (some l) = some r) : r.length < l.length ∧ r = l.drop (l.length - r.length) := numR_left l r h
/-- A cell whose text and first m marks are read. -/
def pcC (tx : ByteArray) (f : Nat → Int) (m : Nat) : CellD := ⟨tx, fun k => if k.val < m then f k.val else 0⟩
theorem pc_zero (tx : ByteArray) (f : Nat → Int) : setText zeroC tx = pcC tx f 0 := by
  unfold setText pcC zeroC
  simp
theorem pc_succ (tx : ByteArray) (f : Nat → Int) (m : Nat) (hm : m < 4) : setMark (pcC tx f m) ⟨m, hm⟩ (f m) = pcC tx f (m + 1) := by
  unfold setMark pcC
  simp only [CellD.mk.injEq, true_and]
  funext k
  by_cases h : k = ⟨m, hm⟩
  · subst h; simp
  · have hv : k.val ≠ m := fun e => h (Fin.ext e)
    rw [if_neg h]
    by_cases h2 : k.val < m
    · rw [if_pos h2, if_pos (by omega)]
    · rw [if_neg h2, if_neg (by omega)]
theorem pc_four (s : Option (List UInt8)) (tx : ByteArray) (f : Nat → Int) (h1 : tx = ⟨(textV s).toArray⟩) (h2 : ∀ j, j < 4 → f j = tcN s j) : pcC tx f 4 = tcC s := by
  unfold pcC tcC
  rw [h1]
  congr 1
  funext k
  rw [if_pos k.isLt, h2 k.val k.isLt]
theorem set_mid {α : Type} (A B : List α) (x y : α) (i : Nat) (hi : A.length = i) : (A ++ x :: B).set i y = A ++ y :: B := by
  subst hi
  induction A with
  | nil => rfl
  | cons a A ih => simp
theorem get_mid {α : Type} (A B : List α) (x : α) (i : Nat) (hi : A.length = i) (h : i < (A ++ x :: B).length) : (A ++ x :: B)[i] = x := by
  subst hi
  simp
theorem RSt.fr {w : World} {base X : Nat} {vt vm : Value} {ks : List Nat} {S : StD} (h : RSt w base X vt vm ks S) (b : Bool) : RSt (w.setCell ⟨X, 2, none⟩ (.bool b)) base X vt vm ks { S with fr := b } := by
  have k : Kt [108] w (w.setCell ⟨X, 2, none⟩ (.bool b)) := (Kt.refl _ _).set X 2 _ h.head (by simp)
  refine ⟨?_, own_kt h.texts k (by decide), own_kt h.rows k (by decide), h.n, fun j h1 h2 => ?_, h.nd⟩
  · have := heap_setCell_same w X 2 _ 108 (.bool b) h.head
    rw [this]; simp
  · obtain ⟨a, b⟩ := h.marks j h1 h2
    exact ⟨a, (k _ _ _ _ b (by decide)).trans b⟩
/-- The document's store, the first i cells read. -/
def LI (w : World) (base X gt gm tc mc cnt : Nat) (ks : List Nat) (n1 n2 : Int) (fr : Bool) (L : List CellD) (W : World) : Prop := RSt W base X (.slice (some ⟨gt, 0, none⟩) cnt tc) (.slice (some ⟨gm, 0, none⟩) cnt mc) ks ⟨n1, n2, fr, L⟩ ∧ Below w.heap.size w W
theorem LI.len {w : World} {base X gt gm tc mc cnt : Nat} {ks : List Nat} {n1 n2 : Int} {fr : Bool} {L : List CellD} {W : World} (h : LI w base X gt gm tc mc cnt ks n1 n2 fr L W) : ks.length = L.length := h.1.n
theorem LI.cells {w : World} {base X gt gm tc mc cnt : Nat} {ks : List Nat} {n1 n2 : Int} {fr : Bool} {L : List CellD} {W : World} (h : LI w base X gt gm tc mc cnt ks n1 n2 fr L W) : W.cell? ⟨X, 3, none⟩ = some (.slice (some ⟨gt, 0, none⟩) cnt tc) ∧ W.cell? ⟨X, 4, none⟩ = some (.slice (some ⟨gm, 0, none⟩) cnt mc) := by
  constructor <;> (rw [cell_of_row _ _ _ _ _ _ h.1.head]; rfl)
theorem LI.text {w : World} {base X gt gm tc mc cnt : Nat} {ks : List Nat} {n1 n2 : Int} {fr : Bool} {A B : List CellD} {x : CellD} {W : World} (h : LI w base X gt gm tc mc cnt ks n1 n2 fr (A ++ x :: B) W) (i : Nat) (hi : A.length = i) (hb : w.heap.size ≤ base) (s : ByteArray) :
    (W.cell? ⟨gt, i, none⟩ = some (.string x.text) ∧ W.frozen? ⟨gt, i, none⟩ = false) ∧ LI w base X gt gm tc mc cnt ks n1 n2 fr (A ++ setText x s :: B) (W.setCell ⟨gt, i, none⟩ (.string s)) := by
  have hiL : i < (A ++ x :: B).length := by rw [List.length_append, List.length_cons]; omega
  have e := get_mid A B x i hi hiL
  refine ⟨⟨?_, ?_⟩, ?_, ?_⟩
  · have := h.1.textAt i hiL
    simp only [e] at this
    exact this
  · obtain ⟨cur, hc⟩ := own_typed h.1.texts (q := gt) rfl
    exact frozen_of_row _ _ _ _ _ hc
  · have := h.1.text i hiL s
    simp only [e] at this
    unfold StD.put at this
    simp only [set_mid A B x (setText x s) i hi] at this
    exact this
  · exact h.2.setCell (p := ⟨gt, i, none⟩) (by have := (h.1.texts.lt gt rfl).1; show w.heap.size ≤ gt; omega) _
theorem LI.mark {w : World} {base X gt gm tc mc cnt : Nat} {ks : List Nat} {n1 n2 : Int} {fr : Bool} {A B : List CellD} {x : CellD} {W : World} (h : LI w base X gt gm tc mc cnt ks n1 n2 fr (A ++ x :: B) W) (i : Nat) (hi : A.length = i) (hb : w.heap.size ≤ base) (k : Nat) (hk : k < 4) (n : Int) (y : CellD) (hy : setMark x ⟨k, hk⟩ n = y) :
    ∃ kb old, (W.cell? ⟨gm, i, none⟩ = some (.slice (some ⟨kb, 0, none⟩) 4 4) ∧ W.cell? ⟨kb, k, none⟩ = some old ∧ W.frozen? ⟨kb, k, none⟩ = false) ∧ LI w base X gt gm tc mc cnt ks n1 n2 fr (A ++ y :: B) (W.setCell ⟨kb, k, none⟩ (.int .i64 n)) := by
  subst hy
  have hiL : i < (A ++ x :: B).length := by rw [List.length_append, List.length_cons]; omega
  have hiK : i < ks.length := by rw [h.len]; exact hiL
  have e := get_mid A B x i hi hiL
  refine ⟨ks[i], _, ⟨h.1.rowAt i hiK, h.1.markAt i hiK hiL ⟨k, hk⟩, ?_⟩, ?_, ?_⟩
  · exact frozen_of_row _ _ _ _ _ (h.1.marks i hiK hiL).2
  · have := h.1.mark i hiL hiK ⟨k, hk⟩ n
    simp only [e] at this
    unfold StD.put at this
    simp only [set_mid A B x (setMark x ⟨k, hk⟩ n) i hi] at this
    exact this
  · exact h.2.setCell (p := ⟨ks[i], k, none⟩) (by have := (h.1.marks i hiK hiL).1; show w.heap.size ≤ ks[i]; omega) _
/-- The first m marks are not too great. -/
def MkI (s : Option (List UInt8)) (m : Nat) : Prop := ∀ j, j < m → numV (tcS s j) ≤ 1099511627776
theorem mk_zero (s : Option (List UInt8)) : MkI s 0 := fun j hj => by omega
theorem mk_next {s : Option (List UInt8)} {m nn : Nat} (h : MkI s m) (hv : numV (tcS s m) = nn) (hn : (nn : Int) ≤ 1099511627776) : MkI s (m + 1) := fun j hj => by
  rcases Nat.lt_or_ge j m with h1 | h1
  · exact h j h1
  · have e : j = m := by omega
    rw [e, hv]; omega
theorem co_next {s : Option (List UInt8)} {i : Nat} (h : ∀ j, j < i → COk (tcC (rdS s j))) (hc : COk (tcC (rdS s i))) : ∀ j, j < i + 1 → COk (tcC (rdS s j)) := fun j hj => by
  rcases Nat.lt_or_ge j i with h1 | h1
  · exact h j h1
  · have e : j = i := by omega
    rw [e]; exact hc
theorem ck_of {s : Option (List UInt8)} {tx : ByteArray} (h1 : tx = ⟨(textV s).toArray⟩) (h2 : isTextB tx = true) (h3 : MkI s 4) : COk (tcC s) := by
  refine ⟨?_, fun k => ?_⟩
  · unfold tcC; simp only; rw [← h1]; exact h2
  · have := h3 k.val k.isLt
    unfold tcC
    simp only
    rw [tcN_of this]; omega
/-- What Read leaves. -/
def RdP (l : List UInt8) (w : World) (e : Ending) (w' : World) : Prop :=
  (dcOk l = false ∧ ∃ p, e = .returned (.tuple #[p, .bool false]) ∧ Below w.heap.size w w') ∨
  (dcOk l = true ∧ ∃ base X vt vm ks, e = .returned (.tuple #[.pointer (some ⟨X, 0, none⟩), .bool true]) ∧ RSt w' base X vt vm ks (dcD l) ∧ Below w.heap.size w w')
set_option maxRecDepth 100000 in
set_option maxHeartbeats 8000000 in
theorem rread_any (v : Value) (l : List UInt8) (w : World) (hv : Bts w v l) (hl : l.length ≤ 5000) :
    Calls Try.prog 23 #[v] w (RdP l w) := by
  have HV := hid hv
  have HW0 : Hid (BtW w v l) := hid fun W hW => hv.below hW
  obtain ⟨va, vc, rfl⟩ := hv.shape
  clear hv
  have HTK := hid (takeN_eq l)
  go_enter Try.func23, Try.ntmps23
  go_wp2_with fail
  refine (takeNum_any _ l _ HV.out).mono ?_
  rintro e w1 ⟨rfl, hb1⟩
  rw [HTK.out]
  have HB := hid hb1
  clear hb1 HV HTK
  have HN1 : Hid (numV (some l) = (numR (some l)).1) := hid (by unfold numV; with_reducible rfl)
  have HS1 : Hid (numS (some l) = (numR (some l)).2) := hid (by unfold numS; with_reducible rfl)
  have hn1 : ((numR (some l)).1 : Int) ≤ 18446744073709551615 := by have := numR_lt (some l); omega
  generalize (numR (some l)).1 = n1 at *
  generalize (numR (some l)).2 = s1 at *
  cases s1 with
  | none =>
    have HNO := hid (no_num1 HS1.out)
    simp only [kOf]
    go_wp2_with fail
    go_ret2
    exact .inl ⟨HNO.out, _, rfl, HB.out⟩
  | some r1 =>
    obtain ⟨hr1l, hr1d⟩ := num_left l r1 HS1.out
    obtain ⟨k1, hk1⟩ : ∃ k : Nat, k = l.length - r1.length := ⟨_, rfl⟩
    have hkk : kOf l (some r1) = k1 := hk1.symm
    rw [← hk1] at hr1d
    rw [hkk]
    have hk0 : ((k1 : Int) == 0) = false := by simp; omega
    have hk1l : k1 ≤ l.length := by omega
    obtain ⟨a1, hsl1, hW1⟩ := HW0.out.from k1 hk1l r1 hr1d
    have HW1 := hid hW1
    have hr1L : r1.length ≤ 5000 := by omega
    clear hW1 hkk hk1 hr1d hr1l HW0
    have HT2 := hid (takeN_eq r1)
    go_wp2_with fail
    refine (takeNum_any _ r1 _ (HW1.out _ HB.out)).mono ?_
    rintro e w2 ⟨rfl, hb2⟩
    rw [HT2.out]
    have HB2 := hid (HB.out.trans (hb2.mono HB.out.size))
    clear hb2 HT2 HB hk0 hsl1
    have HB := HB2
    clear HB2
    have HN2 : Hid (numV (numS (some l)) = (numR (some r1)).1) := hid (by rw [HS1.out]; unfold numV; with_reducible rfl)
    have HS2 : Hid (numS (some r1) = (numR (some r1)).2) := hid (by unfold numS; with_reducible rfl)
    have HR : Hid (dcR l = (numR (some r1)).2) := hid (by unfold dcR; rw [HS1.out]; exact HS2.out)
    have hn2 : ((numR (some r1)).1 : Int) ≤ 18446744073709551615 := by have := numR_lt (some r1); omega
    generalize (numR (some r1)).1 = n2 at *
    generalize (numR (some r1)).2 = s2 at *
    cases s2 with
    | none =>
      have HNO := hid (no_num2 HR.out)
      simp only [kOf]
      go_wp2_with fail
      go_ret2
      exact .inl ⟨HNO.out, _, rfl, HB.out⟩
    | some r2 =>
      obtain ⟨hr2l, hr2d⟩ := num_left r1 r2 HS2.out
      obtain ⟨k2, hk2⟩ : ∃ k : Nat, k = r1.length - r2.length := ⟨_, rfl⟩
      have hkk : kOf r1 (some r2) = k2 := hk2.symm
      rw [← hk2] at hr2d
      rw [hkk]
      clear hkk
      have hk0 : ((k2 : Int) == 0) = false := by simp; omega
      have hk2l : k2 ≤ r1.length := by omega
      cases r2 with
      | nil =>
        have HNO := hid (no_bool HR.out)
        have hke : ((r1.length : Int) == (k2 : Int)) = true := by simp at hk2 ⊢; omega
        clear hk2 hr2d hr2l
        go_wp2_with fail
        go_ret2
        exact .inl ⟨HNO.out, _, rfl, HB.out⟩
      | cons c q =>
        have hke : ((r1.length : Int) == (k2 : Int)) = false := by simp at hk2 hr2l ⊢; omega
        have hk2lt : k2 < r1.length := by simp at hk2 hr2l; omega
        have hcc : r1[k2] = c := by
          have := List.getElem?_drop (xs := r1) (i := k2) (j := 0)
          rw [← hr2d] at this
          simp [hk2lt] at this
          exact this.symm
        obtain ⟨ad1, rfl, hcell⟩ := HW1.out.at k2 hk2lt
        rw [hcc] at hcell
        have HCELL := hid hcell
        have hqd : q = r1.drop (k2 + 1) := by rw [← List.drop_drop, ← hr2d]; rfl
        clear hcell hcc hk2 hr2l hr2d
        have hkI : (k2 : Int) < (r1.length : Int) := by omega
        have c1 := HCELL.out _ HB.out
        by_cases hc1 : (1 : Int) < (c.toNat : Int)
        · have HNO := hid (no_byte HR.out (by omega))
          generalize c.toNat = cn at *
          go_wp2_with fail
          go_ret2
          exact .inl ⟨HNO.out, _, rfl, HB.out⟩
        · by_cases ht : (256 : Int) < (n2 : Int)
          · have HNO := hid (no_span n1 n2 HN1.out HN2.out (by omega) (by omega) (by omega))
            generalize c.toNat = cn at *
            go_wp2_with fail
            go_ret2
            exact .inl ⟨HNO.out, _, rfl, HB.out⟩
          · by_cases hft : (n2 : Int) ≤ (n1 : Int)
            · have HNO := hid (no_span n1 n2 HN1.out HN2.out (by omega) (by omega) (by omega))
              generalize c.toNat = cn at *
              go_wp2_with fail
              go_ret2
              exact .inl ⟨HNO.out, _, rfl, HB.out⟩
            · obtain ⟨hF, hT, hM, hN⟩ := yes_span n1 n2 HN1.out HN2.out (by omega)
              obtain ⟨hS, hBv⟩ := dcS_of HR.out (by omega)
              have hm : mayBeB ((n1 : Int), (n2 : Int)) = true := by rw [← hF, ← hT]; exact hM
              have HD : Hid (dcD l = ⟨n1, n2, c.toNat == 1, rdL (some q) (n2 - n1)⟩) := hid (by unfold dcD; rw [hF, hT, hBv, hS, hN])
              have HM := hid hM
              have HS := hid hS
              have HNN := hid hN
              have HMB := hid hm
              clear hF hT hM hN hS hBv hm HN1 HN2 HS1 HS2 HR
              have i1 : wrap64 (n1 : Int) = (n1 : Int) := w64_of _ (by omega)
              have i2 : wrap64 (n2 : Int) = (n2 : Int) := w64_of _ (by omega)
              have hql : q.length ≤ 5000 := by rw [hqd]; simp; omega
              obtain ⟨a2, hsl2, hW2⟩ := HW1.out.from (k2 + 1) (by omega) q hqd
              have HW2 := hid hW2
              have HBI : Hid (((c.toNat : Int) == 1) = (c.toNat == 1)) := hid (by
                rcases (show c.toNat = 0 ∨ c.toNat = 1 by omega) with h | h <;> simp [h])
              clear hW2 hqd
              generalize c.toNat = cn at *
              go_wp2_with fail
              refine (rnew_any ((n1 : Int), (n2 : Int)) _ HMB.out).mono ?_
              rintro e w3 ⟨X, vt, vm, ks, rfl, hX, hr3, hb3⟩
              have HB3 := hid (HB.out.trans (hb3.mono HB.out.size))
              obtain ⟨cnt, hcnt⟩ : ∃ cnt : Nat, cnt = n2 - n1 := ⟨_, rfl⟩
              have hcn0 : 0 < cnt := by omega
              have hcn1 : cnt ≤ 256 := by omega
              have hr3' : RSt w3 w2.heap.size X vt vm ks ⟨n1, n2, false, List.replicate cnt zeroC⟩ := by
                have e : ((n2 : Int) - (n1 : Int)).toNat = cnt := by omega
                simp only [e] at hr3
                exact hr3
              rw [← hcnt] at HD HNN
              have hXw : w.heap.size ≤ X := Nat.le_trans HB.out.size hX
              have hbw : w.heap.size ≤ w2.heap.size := HB.out.size
              generalize w2.heap.size = base at *
              obtain ⟨gt, tc, rfl, hgt⟩ := own_some hr3'.texts (by simp; omega)
              obtain ⟨gm, mc, rfl, hgm⟩ := own_some hr3'.rows (by simp; omega)
              rw [show (⟨n1, n2, false, List.replicate cnt zeroC⟩ : StD).cells.length = cnt by simp] at hr3'
              have R3 := hid hr3'
              have c3 := HCELL.out _ HB3.out
              have f3 : w3.cell? ⟨X, 2, none⟩ = some (.bool false) := by rw [cell_of_row _ _ _ _ _ _ hr3'.head]; rfl
              have z3 : w3.frozen? ⟨X, 2, none⟩ = false := frozen_of_row _ _ _ _ _ hr3'.head
              clear hr3 hr3' hb3 hcnt HB c1 i1 i2 hX
              go_upto_region 10 with fail
              rw [HBI.out]
              clear HBI
              generalize (cn == 1) = fr at *
              obtain ⟨w4, hw4⟩ : ∃ w4, w4 = w3.setCell ⟨X, 2, none⟩ (.bool fr) := ⟨_, rfl⟩
              have R4 : Hid (RSt w4 base X (.slice (some ⟨gt, 0, none⟩) cnt tc) (.slice (some ⟨gm, 0, none⟩) cnt mc) ks ⟨n1, n2, fr, List.replicate cnt zeroC⟩) := hid (by rw [hw4]; exact R3.out.fr fr)
              have HB4 : Hid (Below w.heap.size w w4) := hid (by rw [hw4]; exact HB3.out.setCell (p := ⟨X, 2, none⟩) hXw _)
              rw [← hw4]
              clear hw4 R3 HB3 c3 f3 z3
              have hwk : IntKind.i64.wrap ((k2 : Int) + 1) = (k2 : Int) + 1 := IntWalk.i64_in _ ⟨by omega, by omega⟩
              have hsl2' : ∀ W, (Instr.slice 25 (.slice (some ad1) r1.length (vc - k1)) (some (.int .i64 ((k2 : Int) + 1))) none none).run Try.prog W = .ok (.slice a2 q.length (vc - k1 - (k2 + 1))) W := fun W => by
                have := hsl2 W
                rwa [show ((k2 + 1 : Nat) : Int) = (k2 : Int) + 1 by simp] at this
              have x3 : w4.cell? ⟨X, 3, none⟩ = some (.slice (some ⟨gt, 0, none⟩) cnt tc) := by rw [cell_of_row _ _ _ _ _ _ R4.out.head]; rfl
              generalize vc - k1 - (k2 + 1) = cq at *
              go_upto_region 12 with fail
              clear x3 hsl2 hsl2' hwk HW1 HCELL
              have L0 : Hid (LI w base X gt gm tc mc cnt ks n1 n2 fr (rdL (some q) 0 ++ List.replicate (cnt - 0) zeroC) w4) := hid ⟨R4.out, HB4.out⟩
              have HKL := hid R4.out.n
              clear R4 HB4
              go_loopw [0, 8, 9, 10, 11, 12, 13, 76] (fun bv _ _ _ _ _ _ iv wr => ∃ (i : Nat) (a : Option Addr) (cc : Nat) (r : List UInt8), iv = .int .i64 i ∧ i ≤ cnt ∧ bv = .slice a r.length cc ∧ BtW w (.slice a r.length cc) r ∧ r.length ≤ 5000 ∧ rdS (some q) i = some r ∧ (∀ j, j < i → COk (tcC (rdS (some q) j))) ∧ LI w base X gt gm tc mc cnt ks n1 n2 fr (rdL (some q) i ++ List.replicate (cnt - i) zeroC) wr) (fun _ _ _ _ _ _ _ iv _ => cnt - (intOf iv).toNat)
              case atStart => exact ⟨0, a2, cq, q, rfl, Nat.zero_le _, rfl, HW2.out, hql, rfl, (fun j hj => by omega), L0.out⟩
              case round =>
                obtain ⟨i, a, cc, r, rfl, hi, rfl, hbw, hrl, hrd, hco, hLI⟩ := hrel
                have HBW := hid hbw
                have HRD := hid hrd
                have HCO := hid hco
                have HLI := hid hLI
                clear hbw hrd hco hLI L0 HW2
                by_cases hlt : (i : Int) < (cnt : Int)
                · go_upto_region 14 with fail
                  have hiN : i < dcN l := by rw [HNN.out]; omega
                  obtain ⟨B, hB⟩ : ∃ B, List.replicate (cnt - i) zeroC = zeroC :: B ∧ B = List.replicate (cnt - (i + 1)) zeroC := ⟨_, by rw [show cnt - i = (cnt - (i + 1)) + 1 by omega, List.replicate_succ], rfl⟩
                  rw [hB.1] at HLI
                  have HBB := hid hB.2
                  clear hB
                  have HAL := hid (rdL_len (some q) i)
                  have HRS := hid (rdL_succ (some q) i)
                  have HNC : Hid (∀ j, j ≤ 4 → tcS (some r) j = none → dcOk l = false) := hid fun j hj h => no_rest (i := i + 1) (by
                    show rdS (dcS l) (i + 1) = none
                    rw [HS.out]
                    show tcS (rdS (some q) i) 4 = none
                    rw [HRD.out]; exact tcS_dead h 4 hj) (by omega)
                  have HNB : Hid (noBlockB (tcC (some r)) = true → dcOk l = false) := hid fun h => no_cell (i := i) (by rw [HS.out, HRD.out]; exact h) hiN
                  have HT0 := hid (text_left r)
                  go_wp2_with fail
                  refine (takeText_any _ r _ (HBW.out _ HLI.out.2)).mono ?_
                  rintro e w5 ⟨rfl, hb5⟩
                  have HL5 : Hid (LI w base X gt gm tc mc cnt ks n1 n2 fr (rdL (some q) i ++ zeroC :: B) w5) := hid ⟨HLI.out.1.below hb5, HLI.out.2.trans (hb5.mono HLI.out.2.size)⟩
                  clear hb5 HLI
                  have HTX : Hid (∃ tx : ByteArray, tx = ⟨(textV (some r)).toArray⟩) := hid ⟨_, rfl⟩
                  clear HTX
                  obtain ⟨tx, htx⟩ : ∃ tx : ByteArray, tx = ⟨(textV (some r)).toArray⟩ := ⟨_, rfl⟩
                  rw [← htx]
                  have HTX := hid htx
                  have htz : (tx.size : Int) ≤ 1048576 := by rw [htx]; exact text_size (some r)
                  clear htx
                  have HTS : Hid (tcS (some r) 0 = textS (some r)) := hid rfl
                  generalize textS (some r) = t0 at *
                  cases t0 with
                  | none =>
                    have HNO := hid (HNC.out 0 (by omega) HTS.out)
                    have HB := hid HL5.out.2
                    simp only [kOf]
                    go_wp2_with fail
                    go_ret2
                    exact .inl ⟨HNO.out, _, rfl, HB.out⟩
                  | some p0 =>
                    obtain ⟨hpl, hpd⟩ := HT0.out p0 rfl
                    obtain ⟨k5, hk5⟩ : ∃ k : Nat, k = r.length - p0.length := ⟨_, rfl⟩
                    have hkk : kOf r (some p0) = k5 := hk5.symm
                    rw [← hk5] at hpd
                    rw [hkk]
                    have hk0' : ((k5 : Int) == 0) = false := by simp; omega
                    have hk5l : k5 ≤ r.length := by omega
                    obtain ⟨a5, hsl5, hW5⟩ := HBW.out.from k5 hk5l p0 hpd
                    have HW5 := hid hW5
                    have hp0l : p0.length ≤ 5000 := by omega
                    clear hW5 hkk hk5 hpd hpl HT0
                    cases hit : isTextB tx with
                    | false =>
                      have HNO := hid (HNB.out (no_text (by rw [← HTX.out]; exact hit)))
                      have HB := hid HL5.out.2
                      have HIT := hid hit
                      clear hit
                      go_wp2_with (go_at_call 58; refine (risText_any tx _ (by omega)).mono ?_; rintro e w6 ⟨rfl, rfl⟩; rw [HIT.out])
                      go_ret2
                      exact .inl ⟨HNO.out, _, rfl, HB.out⟩
                    | true =>
                      have HIT := hid hit
                      clear hit
                      obtain ⟨⟨t3, z3⟩, hL6⟩ := HL5.out.text i HAL.out hbw tx
                      obtain ⟨x3, -⟩ := HL5.out.cells
                      have htI : (tx.size : Int) ≤ 9223372036854775807 := by omega
                      go_upto_region 18 with (go_at_call 58; refine (risText_any tx _ (by omega)).mono ?_; rintro e w6 ⟨rfl, rfl⟩; rw [HIT.out])
                      obtain ⟨f, hf⟩ : ∃ f : Nat → Int, ∀ j, f j = tcN (some r) j := ⟨fun j => tcN (some r) j, fun _ => rfl⟩
                      have HF := hid hf
                      clear hf
                      obtain ⟨w7, hw7⟩ : ∃ w7, w7 = w6.setCell ⟨gt, i, none⟩ (.string tx) := ⟨_, rfl⟩
                      have HL7 : Hid (LI w base X gt gm tc mc cnt ks n1 n2 fr (rdL (some q) i ++ pcC tx f 0 :: B) w7) := hid (by rw [← pc_zero, hw7]; exact hL6)
                      rw [← hw7]
                      clear hw7 hL6 HL5 t3 z3 x3
                      obtain ⟨cp0, hcp0⟩ : ∃ cp, cp = cc - k5 := ⟨_, rfl⟩
                      rw [← hcp0] at hsl5 HW5
                      clear hcp0
                      go_wp2_with fail
                      clear hsl5
                      go_loopw [0, 11, 12, 13] (fun bv mv _ _ wr => ∃ (m : Nat) (a : Option Addr) (cp : Nat) (p : List UInt8), mv = .int .i64 m ∧ m ≤ 4 ∧ bv = .slice a p.length cp ∧ BtW w (.slice a p.length cp) p ∧ p.length ≤ 5000 ∧ tcS (some r) m = some p ∧ MkI (some r) m ∧ LI w base X gt gm tc mc cnt ks n1 n2 fr (rdL (some q) i ++ pcC tx f m :: B) wr) (fun _ mv _ _ _ => 4 - (intOf mv).toNat)
                      case atStart => exact ⟨0, a5, cp0, p0, rfl, Nat.zero_le _, rfl, HW5.out, hp0l, HTS.out, mk_zero _, HL7.out⟩
                      case round =>
                        obtain ⟨m, a6, cp, p, rfl, hm4, rfl, hbp, hplen, htm, hmk, hLm⟩ := hrel
                        have HBP := hid hbp
                        have HTM := hid htm
                        have HMK := hid hmk
                        have HLM := hid hLm
                        clear hbp htm hmk hLm HL7 HW5
                        by_cases hlt4 : (m : Int) < 4
                        · have HTN := hid (takeN_eq p)
                          have HNL := hid (num_left p)
                          go_wp2_with fail
                          refine (takeNum_any _ p _ (HBP.out _ HLM.out.2)).mono ?_
                          rintro e w8 ⟨rfl, hb8⟩
                          rw [HTN.out]
                          have HL8 : Hid (LI w base X gt gm tc mc cnt ks n1 n2 fr (rdL (some q) i ++ pcC tx f m :: B) w8) := hid ⟨HLM.out.1.below hb8, HLM.out.2.trans (hb8.mono HLM.out.2.size)⟩
                          clear hb8 HLM HTN
                          have HNV : Hid (numV (tcS (some r) m) = (numR (some p)).1) := hid (by rw [HTM.out]; unfold numV; with_reducible rfl)
                          have HNS : Hid (tcS (some r) (m + 1) = (numR (some p)).2) := hid (by show numS (tcS (some r) m) = _; rw [HTM.out]; unfold numS; with_reducible rfl)
                          have HNQ : Hid (numS (some p) = (numR (some p)).2) := hid (by unfold numS; with_reducible rfl)
                          have hnb : ((numR (some p)).1 : Int) ≤ 18446744073709551615 := by have := numR_lt (some p); omega
                          generalize (numR (some p)).1 = nn at *
                          generalize (numR (some p)).2 = sn at *
                          cases sn with
                          | none =>
                            have HNO := hid (HNC.out (m + 1) (by omega) HNS.out)
                            have HB := hid HL8.out.2
                            simp only [kOf]
                            go_wp2_with fail
                            go_ret2
                            exact .inl ⟨HNO.out, _, rfl, HB.out⟩
                          | some p1 =>
                            obtain ⟨hpl1, hpd1⟩ := HNL.out p1 HNQ.out
                            obtain ⟨k6, hk6⟩ : ∃ k : Nat, k = p.length - p1.length := ⟨_, rfl⟩
                            have hkk : kOf p (some p1) = k6 := hk6.symm
                            rw [← hk6] at hpd1
                            rw [hkk]
                            have hk60 : ((k6 : Int) == 0) = false := by simp; omega
                            have hk6l : k6 ≤ p.length := by omega
                            obtain ⟨a7, hsl7, hW7⟩ := HBP.out.from k6 hk6l p1 hpd1
                            have HW7 := hid hW7
                            have hp1l : p1.length ≤ 5000 := by omega
                            clear hW7 hkk hk6 hpd1 hpl1 HNL
                            by_cases hbig : (1099511627776 : Int) < (nn : Int)
                            · have HNO := hid (HNB.out (no_mark (j := m) (by omega) (by rw [HNV.out]; omega) (by rw [HNV.out]; omega)))
                              have HB := hid HL8.out.2
                              go_wp2_with fail
                              go_ret2
                              exact .inl ⟨HNO.out, _, rfl, HB.out⟩
                            · have hnn : (nn : Int) ≤ 1099511627776 := by omega
                              have HFM : Hid (f m = (nn : Int)) := hid (by rw [HF.out m, tcN_of (by rw [HNV.out]; omega), HNV.out])
                              obtain ⟨kb, old, ⟨y0, y1, y2⟩, hL9⟩ := HL8.out.mark i HAL.out hbw m (by omega) (nn : Int) (pcC tx f (m + 1)) (by rw [← HFM.out]; exact pc_succ tx f m (by omega))
                              have HL9 := hid hL9
                              obtain ⟨-, x4⟩ := HL8.out.cells
                              have HMK1 := hid (mk_next HMK.out HNV.out hnn)
                              clear hL9
                              obtain ⟨cp1, hcp1⟩ : ∃ c, c = cp - k6 := ⟨_, rfl⟩
                              rw [← hcp1] at hsl7 HW7
                              clear hcp1
                              go_wp2_with fail
                              go_roundw
                              case rel => exact ⟨m + 1, a7, cp1, p1, by go_num, by omega, rfl, HW7.out, hp1l, HNS.out, HMK1.out, HL9.out⟩
                              case measure => simp [intOf]; omega
                        · obtain rfl : m = 4 := by omega
                          have hC : pcC tx f 4 = tcC (some r) := pc_four _ tx f HTX.out fun j _ => HF.out j
                          have HCK := hid (ck_of HTX.out HIT.out HMK.out)
                          rw [hC] at HLM
                          clear hC
                          go_wp2_with fail
                          go_roundw
                          case rel =>
                            refine ⟨i + 1, a6, cp, p, by go_num, by omega, rfl, HBP.out, hplen, ?_, ?_, ?_⟩
                            · show tcS (rdS (some q) i) 4 = some p
                              rw [HRD.out]; exact HTM.out
                            · exact co_next HCO.out (by rw [HRD.out]; exact HCK.out)
                            · rw [HRS.out, HRD.out, List.append_assoc, ← HBB.out]; exact HLM.out
                          case measure => simp [intOf]; omega
                · obtain rfl : i = cnt := by omega
                  have hdk : dcOk l = (r.length == 0) := yes_all HM.out (by rw [HS.out, HNN.out]; exact HCO.out) r (by rw [HS.out, HNN.out]; exact HRD.out)
                  have HDK := hid hdk
                  have hL : rdL (some q) i ++ List.replicate (i - i) zeroC = rdL (some q) i := by simp
                  rw [hL] at HLI
                  have HLE : Hid (((r.length : Int) == 0) = (r.length == 0)) := hid (by cases r <;> simp; omega)
                  clear hL hdk
                  go_wp2_with fail
                  go_ret2
                  rw [HLE.out]
                  cases hz : (r.length == 0) with
                  | true => exact .inr ⟨by rw [HDK.out, hz], base, X, _, _, ks, rfl, by rw [HD.out]; exact HLI.out.1, HLI.out.2⟩
                  | false => exact .inl ⟨by rw [HDK.out, hz], _, rfl, HLI.out.2⟩
end Go.Proofs.Ytabmnelenfghhaa
