/- Plain facts: a command that is laid is taken again, and of its bytes without the last one none is. -/
import Derived.Test.YthhcpoafnmhnhaaGreatBkLay
import Derived.Test.YthhcpoafnmhnhaaGreatBkTake
import Derived.Test.YthhcpoafnmhnhaaGreatOct
namespace Go.Proofs.YthhcpoafnmhnhaaGreat
open Go.RowKit
set_option linter.unusedVariables false
set_option linter.unusedSimpArgs false

theorem ofNat_byte (n : Nat) (h : n < 256) : (UInt8.ofNat n).toNat = n := by rw [UInt8.toNat_ofNat', Nat.mod_eq_of_lt (by simpa using h)]
theorem tk_ints (k : UInt8) (a b c d : Int) (ha : I64 a) (hb : I64 b) (hc : I64 c) (hd : I64 d) (t : List UInt8) (s : Option (List UInt8)) (hs : s = some (k :: ([a, b, c, d].flatMap intB ++ t))) :
    byteR s = k ∧ intV (tkS s 0) = a ∧ intV (tkS s 1) = b ∧ intV (tkS s 2) = c ∧ intV (tkS s 3) = d ∧ tkS s 4 = some t := by
  have e : [a, b, c, d].flatMap intB ++ t = intB a ++ (intB b ++ (intB c ++ (intB d ++ t))) := by simp
  rw [e] at hs
  have h0 : tkS s 0 = some (intB a ++ (intB b ++ (intB c ++ (intB d ++ t)))) := by rw [hs]; rfl
  obtain ⟨u0, v0⟩ := int_back a ha.1 (by have := ha.2; omega) (intB b ++ (intB c ++ (intB d ++ t)))
  have h1 : tkS s 1 = some (intB b ++ (intB c ++ (intB d ++ t))) := by show intS (tkS s 0) = _; rw [h0]; exact v0
  obtain ⟨u1, v1⟩ := int_back b hb.1 (by have := hb.2; omega) (intB c ++ (intB d ++ t))
  have h2 : tkS s 2 = some (intB c ++ (intB d ++ t)) := by show intS (tkS s 1) = _; rw [h1]; exact v1
  obtain ⟨u2, v2⟩ := int_back c hc.1 (by have := hc.2; omega) (intB d ++ t)
  have h3 : tkS s 3 = some (intB d ++ t) := by show intS (tkS s 2) = _; rw [h2]; exact v2
  obtain ⟨u3, v3⟩ := int_back d hd.1 (by have := hd.2; omega) t
  have h4 : tkS s 4 = some t := by show intS (tkS s 3) = _; rw [h3]; exact v3
  refine ⟨by rw [hs]; rfl, by rw [h0]; exact u0, by rw [h1]; exact u1, by rw [h2]; exact u2, by rw [h3]; exact u3, h4⟩
theorem textB_pos (s : ByteArray) : 1 ≤ (textB s).length := by unfold textB; have := numB_pos s.size; rw [List.length_append]; omega
/-- What is laid is taken. -/
theorem take_back (c : CmdD) (h : LayI c) (more : List UInt8) : takeC (some (cmdB c ++ more)) = c ∧ (tkG (some (cmdB c ++ more))).2 = some more := by
  obtain ⟨⟨h0, h1⟩, hn, hd, hl⟩ := h
  have hs : (some (cmdB c ++ more)) = some (UInt8.ofNat c.op.toNat :: ([c.client, c.seq, c.from', c.to].flatMap intB ++ (listB textB c.data ++ more))) := by
    unfold cmdB cmdN; simp
  obtain ⟨e0, e1, e2, e3, e4, e5⟩ := tk_ints (UInt8.ofNat c.op.toNat) c.client c.seq c.from' c.to (hn _ (by simp [cmdN])) (hn _ (by simp [cmdN])) (hn _ (by simp [cmdN])) (hn _ (by simp [cmdN])) _ _ hs
  have hg : tkG (some (cmdB c ++ more)) = (some (c.data.map fun s => s.data.toList), some more) := by
    unfold tkG
    rw [e5]
    exact getR_back textB (fun s => s.data.toList) textV textS c.data more hl (fun x _ => textB_pos x) fun x hx t => text_back x (hd x hx) t
  refine ⟨?_, by rw [hg]⟩
  unfold takeC
  rw [hg]
  simp only
  rw [e0, e1, e2, e3, e4, map_eta, ofNat_byte _ (by omega), Int.toNat_of_nonneg h0]
/-- Without the last byte nothing is taken. -/
theorem take_cut (c : CmdD) (h : LayI c) : takeC (some ((cmdB c).take ((cmdB c).length - 1))) = zeroCmd ∧ (tkG (some ((cmdB c).take ((cmdB c).length - 1)))).2 = none := by
  obtain ⟨⟨h0, h1⟩, hn, hd, hl⟩ := h
  have hp : 1 ≤ (listB textB c.data).length := by unfold listB; have := numB_pos c.data.length; rw [List.length_append]; omega
  have hs : (some ((cmdB c).take ((cmdB c).length - 1))) = some (UInt8.ofNat c.op.toNat :: ([c.client, c.seq, c.from', c.to].flatMap intB ++ (listB textB c.data).take ((listB textB c.data).length - 1))) := by
    unfold cmdB cmdN
    congr 1
    rw [List.length_cons, List.length_append, show ∀ a b : Nat, 1 ≤ b → a + b + 1 - 1 = (a + (b - 1) + 1) - 1 + 1 from fun a b h => by omega, List.take_succ_cons]
    · congr 1
      rw [Nat.add_sub_cancel, List.take_append, List.take_of_length_le (by omega), Nat.add_sub_cancel_left]
    · exact hp
  obtain ⟨e0, e1, e2, e3, e4, e5⟩ := tk_ints (UInt8.ofNat c.op.toNat) c.client c.seq c.from' c.to (hn _ (by simp [cmdN])) (hn _ (by simp [cmdN])) (hn _ (by simp [cmdN])) (hn _ (by simp [cmdN])) _ _ hs
  have hg : tkG (some ((cmdB c).take ((cmdB c).length - 1))) = (none, none) := by
    unfold tkG
    rw [e5]
    exact getR_cut c.data _ hd hl (by omega)
  refine ⟨?_, by rw [hg]⟩
  unfold takeC
  rw [hg]
end Go.Proofs.YthhcpoafnmhnhaaGreat
