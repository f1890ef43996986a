/- A loop over an iterator that tells its body something of the memory of what it hands out (the kit's laws tell nothing of it): the iterator's contract, and the loop's rule. -/
import Derived.RangeFuncNested
namespace Go.Proofs.Ythhcpoafnmhnhaa
open Go.RowKit
variable {F : Fence} {n : Nat} {P : Program}

/-- A record that was ready, in another state. -/
abbrev inState (r : Loop) (s : LoopState) (j : Option Code) : Obj := .loop { r with state := s, pending := j }
/-- What a round's body owes at its end. -/
def endsR (l : Nat) (r : Loop) (R : Ending → World → Prop) : Exit → Act → World → Prop
  | .normal, _, W => W.heap[l]? = some (inState r .busy none) ∧ R (.returned (.bool true)) (W.putObj l (inState r .ready none))
  | .ret, _, W => W.heap[l]? = some (inState r .busy none) ∧ R (.returned (.bool false)) (W.putObj l (inState r .done (some .ret)))
  | .exit i, _, W => W.heap[l]? = some (inState r .busy none) ∧ R (.returned (.bool false)) (W.putObj l (inState r .done (some (.exit i))))
  | .goto t, _, W => W.heap[l]? = some (inState r .busy none) ∧ R (.returned (.bool false)) (W.putObj l (inState r .done (some (.goto t))))
  | .panic _, _, _ => False
  | .outgrown, _, _ => False
theorem ends_by {l : Nat} {r : Loop} {R : Ending → World → Prop} {W : World} (j : Option Code) (h : W.heap[l]? = some (inState r .busy none)) (hR : R (.returned (.bool j.isNone)) (W.putObj l (inState r (if j.isNone then .ready else .done) j))) :
    ∃ v W', (Instr.endRound l j).run P W = .ok v W' ∧ R (.returned v) W' := ⟨_, _, run_endRound j h, hR⟩
/-- A call of yield, from the walk of what stands in the loop. -/
theorem yield_of {l : Nat} {r : Loop} {W : World} {args : Array Value} {R : Ending → World → Prop} (hl : W.heap[l]? = some (inState r .ready none)) (hF : F.fn r.fn) (hs : args.size = r.params.size)
    (h : r.assign.wpIn (F.inRound l) n P (Exit.then (fun a W1 => W1.heap[l]? = some (inState r .ready none) ∧ r.body.wpIn (F.inRound l) n P (endsR l r R) a (W1.putObj l (inState r .busy none))) (fun _ _ _ => False))
      { tmps := (r.params.zip args).foldl (fun t (p, v) => t.setIfInBounds p v) r.tmps, defers := [] } W) : YieldAt F n P l args W R := by
  refine ⟨_, _, _, _, run_yield hl hs, roundIn_of_wpIn hF (wpIn_mono h ?_)⟩
  intro e a W1 he
  cases e with
  | normal =>
    refine ⟨_, run_beginRound he.1 rfl, wpIn_mono he.2 ?_⟩
    intro e2 a2 W2 h2
    cases e2 with
    | normal => exact ends_by none h2.1 h2.2
    | ret => exact ends_by (some .ret) h2.1 h2.2
    | exit i => exact ends_by (some (.exit i)) h2.1 h2.2
    | goto t => exact ends_by (some (.goto t)) h2.1 h2.2
    | panic c => exact h2
    | outgrown => exact h2
  | ret => exact he
  | exit i => exact he
  | goto t => exact he
  | panic c => exact he
  | outgrown => exact he

/-- What an iterator does that hands out each x with M x: it calls yield so long as that goes on. -/
def SeqTells {α : Type} (F : Fence) (n : Nat) (P : Program) (g : Nat) (lb : Array Value) (encs : α → Array Value) (M : α → World → Prop) (Kp : World → World → Prop) (S Sp : List α → Prop) (N : Nat) (w : World) : Prop :=
  ∀ (l : Nat) (J Jx : List α → World → Prop) (W : World), Below w.heap.size w W → AbidesFrom W.heap.size J → AbidesFrom W.heap.size Jx →
    (∀ pre x V, J pre V → M x V → pre.length < N → YieldAt F (n - 1) P l (encs x) V fun e V' =>
      (e = .returned (.bool true) ∧ J (pre ++ [x]) V' ∧ Kp V V') ∨ (e = .returned (.bool false) ∧ Jx (pre ++ [x]) V')) →
    J [] W →
    CallsIn F n P g (#[.func (.yield l) #[] #[]] ++ lb) W fun e W' => (∃ v, e = .returned v) ∧ ((∃ xs, S xs ∧ J xs W') ∨ ∃ pre, Sp pre ∧ Jx pre W')

/-- What the loop keeps beside the caller's own words: its record (in a state), and the block of what is deferred. -/
structure Kept2 (l d : Nat) (o : Obj) (W : World) : Prop where
  rec' : W.heap[l]? = some o
  dfr : W.heap[d]? = some (.deferred (some []))
theorem Kept2.grown {l d : Nat} {o : Obj} (ho : o.isWalk = false) {A B : World} {row : Option Nat} (h : Kept2 l d o A) (hg : A.grownBy B row) (hr : ∀ k, row = some k → ∃ o : Obj, A.heap[k]? = some o ∧ o.isWalk = true) : Kept2 l d o B :=
  ⟨(grownBy_keeps hg hr h.rec' ho).trans h.rec', (grownBy_keeps hg hr h.dfr rfl).trans h.dfr⟩
theorem Kept2.put {l d : Nat} {o o' : Obj} {W : World} (h : Kept2 l d o W) (hne : d ≠ l) : Kept2 l d o' (W.putObj l o') :=
  ⟨World.putObj_heap_same (Array.getElem?_eq_some_iff.1 h.rec').1, (World.putObj_heap_other hne).trans h.dfr⟩
theorem Kept2.from {l d B : Nat} {o : Obj} (ho : o.isCells = false) {W W' : World} (h : Kept2 l d o W) (hk : KeepsFrom B W W') (h1 : B ≤ l) (h2 : B ≤ d) : Kept2 l d o W' :=
  ⟨hk.same _ _ h1 h.rec' ho, hk.same _ _ h2 h.dfr rfl⟩

/-- The loop's rule. -/
theorem range_tells {α : Type} {g : Operand} {ps : Array Tmp} {assign body : Code} {Q : Exit → Act → World → Prop} {a : Act} {w : World}
    (hro : F.round = none) (h1 : 1 ≤ n) {gf : Nat} {lb : Array Value} (hg : a.eval g = .func (.func gf) #[] lb) (hFg : F.fn gf) (eg : ∀ args w, (callFunc gf args).run P w = .ok (.enter gf args) w)
    {encs : α → Array Value} {M : α → World → Prop} {Kp : World → World → Prop} {S Sp : List α → Prop} {N : Nat} {w0 : World} (hseq : SeqTells F (n - 1) P gf lb encs M Kp S Sp N w0)
    (hKt : ∀ {A B C : World}, Kp A B → Kp B C → Kp A C) (hKb : ∀ (W : World) (l : Nat) (o o' : Obj), w.heap.size ≤ l → W.heap[l]? = some o → o.isCells = false → o.isWalk = false → Kp W (W.putObj l o'))
    (hb0 : Below w0.heap.size w0 w) (hps : ∀ x, (encs x).size = ps.size)
    (I : List α → World → Prop) (Ix : Code → List α → World → Prop) (hI : OwnFrom w.heap.size I) (hIx : ∀ c, OwnFrom w.heap.size (Ix c)) (h0 : I [] w)
    (Ax : α → Act → World → Prop) (hAx : ∀ x a', OwnFrom w.heap.size (fun (_ : Unit) W => Ax x a' W))
    (hassign : ∀ (l : Nat) (pre : List α) (x : α) (W : World) (K : Act → World → Prop), I pre W → M x W → (∀ a' W', KeepsFrom w.heap.size W W' → Kp W W' → I pre W' → Ax x a' W' → K a' W') →
      assign.wpIn (F.inRound l) (n - 1 - 1) P (Exit.then K (fun _ _ _ => False)) { tmps := (ps.zip (encs x)).foldl (fun t (p, v) => t.setIfInBounds p v) a.tmps, defers := [] } W)
    (hbody : ∀ (l : Nat) (pre : List α) (x : α) (a' : Act) (W : World), w.heap.size ≤ l → (∃ r, W.heap[l]? = some (.loop r)) → I pre W → Ax x a' W → pre.length < N →
      body.wpIn (F.inRound l) (n - 1 - 1) P (ownPostG w.heap.size Kp I Ix (pre ++ [x]) W) a' W)
    (hdone : ∀ (D : Nat) (xs : List α) (W : World), w.heap.size ≤ D → S xs → I xs W → W.heap[D]? = some (.deferred (some [])) → Q .normal { a with defers := { target := .collected D, args := #[] } :: a.defers } W)
    (hstop : ∀ (D : Nat) (c : Code) (pre : List α) (W : World), w.heap.size ≤ D → Sp pre → Ix c pre W → W.heap[D]? = some (.deferred (some [])) → c.wpIn F n P Q { a with defers := { target := .collected D, args := #[] } :: a.defers } W) :
    (Code.rangeFunc g ps assign body).wpIn F n P Q a w := by
  refine wpIn_rangeFunc fun fn hfn => ?_
  rw [hro]
  obtain ⟨r, hr⟩ : ∃ r : Loop, r = { state := .ready, pending := none, fn, tmps := a.tmps, params := ps, assign, body, defers := w.heap.size } := ⟨_, rfl⟩
  obtain ⟨V, hV⟩ : ∃ V, V = (w.alloc (.deferred (some []))).alloc (inState r .ready none) := ⟨_, rfl⟩
  obtain ⟨d, hd⟩ : ∃ d, d = w.heap.size := ⟨_, rfl⟩
  have hVs : V.heap.size = d + 2 := by rw [hV, hd]; simp
  have k0 : Kept2 (d + 1) d (inState r .ready none) V := by
    constructor
    · rw [hV, hd]; simpa using World.alloc_heap_new (w.alloc (.deferred (some []))) (inState r .ready none)
    · rw [hV, hd]; exact (Below.heap_alloc _ _ _ (by simp)).trans (World.alloc_heap_new w _)
  have i0 : I [] V := by rw [hV]; exact hI.alloc _ (hI.alloc _ h0)
  have b0 : Below w0.heap.size w0 V := by
    rw [hV]; exact hb0.trans ((((Below.refl _ w).alloc (Nat.le_refl _) _).alloc (by simp) _).mono hb0.size)
  refine ⟨d + 1, [{ target := .collected d, args := #[] }], V, { target := .fn (.func gf) lb, args := #[.func (.yield (d + 1)) #[] #[]] }, V, gf, #[.func (.yield (d + 1)) #[] #[]] ++ lb, V, ?_, ?_, ?_, ?_, fun _ => h1, ?_⟩
  · rw [hV, hd, hr]; exact run_enterLoop_outer _ _ _ _ _
  · simp only [resolve, hg]
    simp [go_sem]
  · intro f' hf'
    simp [Target.leads] at hf'
    exact hf' ▸ hFg
  · simp [invoke, go_sem, eg]
  have far : ∀ {A : World} {row : Option Nat}, (∀ k, row = some k → V.heap.size ≤ k ∧ ∃ o : Obj, A.heap[k]? = some o ∧ o.isWalk = true) → ∀ k, row = some k → w.heap.size ≤ k ∧ ∃ o : Obj, A.heap[k]? = some o ∧ o.isCells = false := by
    intro A row h k e
    obtain ⟨p, o, q, z⟩ := h k e
    exact ⟨by omega, o, q, Obj.not_cells_of_walk z⟩
  refine (hseq (d + 1) (fun pre W => I pre W ∧ Kept2 (d + 1) d (inState r .ready none) W) (fun pre W => ∃ c, Ix c pre W ∧ Kept2 (d + 1) d (inState r .done (some c)) W) V b0 ?_ ?_ ?_ ⟨i0, k0⟩).mono ?_
  · intro s A B row hs hg' hw
    exact ⟨hI s A B row hs.1 hg' (far hw), hs.2.grown rfl hg' fun k e => (hw k e).2⟩
  · rintro s A B row ⟨c, hc, hk⟩ hg' hw
    exact ⟨c, hIx c s A B row hc hg' (far hw), hk.grown rfl hg' fun k e => (hw k e).2⟩
  · rintro pre x W ⟨hi, hk⟩ hM hlen
    refine yield_of hk.rec' (by rw [hr]; exact hfn) (by rw [hr]; exact hps x) ?_
    rw [hr]
    refine hassign _ pre x W _ hi hM ?_
    rw [← hr]
    intro a' W' kf kp hi' hax
    have k1 := hk.from rfl kf (by omega) (by omega)
    have k2 : Kept2 (d + 1) d (inState r .busy none) (W'.putObj (d + 1) (inState r .busy none)) := k1.put (by omega)
    refine ⟨k1.rec', ?_⟩
    have hp2 : Kp W (W'.putObj (d + 1) (inState r .busy none)) := hKt kp (hKb _ _ _ _ (by omega) k1.rec' rfl rfl)
    have hB := hbody (d + 1) pre x a' (W'.putObj (d + 1) (inState r .busy none)) (by omega) ⟨_, k2.rec'⟩ (hI.putObj _ hi' (by omega) k1.rec' rfl) ((hAx x a').putObj (s := ()) _ hax (by omega) k1.rec' rfl) hlen
    have body_eq : r.body = body := by rw [hr]
    rw [body_eq]
    refine wpIn_mono hB ?_
    intro e a3 W3 he
    cases e with
    | normal =>
      obtain ⟨kf3, kp3, hi3⟩ := he
      have k3 := k2.from rfl kf3 (by omega) (by omega)
      exact ⟨k3.rec', .inl ⟨rfl, ⟨hI.putObj _ hi3 (by omega) k3.rec' rfl, k3.put (by omega)⟩, hKt (hKt hp2 kp3) (hKb _ _ _ _ (by omega) k3.rec' rfl rfl)⟩⟩
    | ret =>
      have k3 := k2.from rfl he.1 (by omega) (by omega)
      exact ⟨k3.rec', .inr ⟨rfl, _, (hIx _).putObj _ he.2 (by omega) k3.rec' rfl, k3.put (by omega)⟩⟩
    | exit i =>
      have k3 := k2.from rfl he.1 (by omega) (by omega)
      exact ⟨k3.rec', .inr ⟨rfl, _, (hIx _).putObj _ he.2 (by omega) k3.rec' rfl, k3.put (by omega)⟩⟩
    | goto t =>
      have k3 := k2.from rfl he.1 (by omega) (by omega)
      exact ⟨k3.rec', .inr ⟨rfl, _, (hIx _).putObj _ he.2 (by omega) k3.rec' rfl, k3.put (by omega)⟩⟩
    | panic c => exact he
    | outgrown => exact he
  · rintro e W' ⟨⟨v, rfl⟩, ⟨xs, hS, hi, hk⟩ | ⟨pre, hSp, c, hi, hk⟩⟩
    · exact ⟨none, _, run_endLoop hk.rec' (by simp), by rw [hd] at hk ⊢; exact hdone _ xs _ (Nat.le_refl _) hS (hI.putObj _ hi (by omega) hk.rec' rfl) ((World.putObj_heap_other (by omega)).trans hk.dfr)⟩
    · exact ⟨some c, _, run_endLoop hk.rec' (by simp), by rw [hd] at hk ⊢; exact hstop _ c pre _ (Nat.le_refl _) hSp ((hIx c).putObj _ hi (by omega) hk.rec' rfl) ((World.putObj_heap_other (by omega)).trans hk.dfr)⟩
end Go.Proofs.Ythhcpoafnmhnhaa
