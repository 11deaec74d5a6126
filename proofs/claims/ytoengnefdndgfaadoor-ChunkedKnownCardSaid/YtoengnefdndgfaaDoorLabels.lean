/- A scope in which the run jumps to several labels: what holds at each jump, and a measure that every pass from a label lowers. (The library's law is for one label.) Nothing of the program is read here. -/
import Derived.Scope
import Derived.WalkMore
namespace Go.Proofs.YtoengnefdndgfaaDoor
/-- as Q; by a goto to label l: J l -/
def jumps (J : Nat → Act → World → Prop) (Q : Exit → Act → World → Prop) : Exit → Act → World → Prop
  | .goto l, a, w => J l a w
  | e, a, w => Q e a w
section
variable {P : Program} {a : Act} {w : World} {Q : Exit → Act → World → Prop}
theorem wp_scope_labels {c : Code} (R : Nat → Code) (J : Nat → Act → World → Prop) (μ : Nat → Act → World → Nat) (hf : ∀ l a w, J l a w → findLabel c l = some (R l))
    (first : c.wp P (jumps J Q) a w)
    (pass : ∀ l a w, J l a w → (R l).wp P (jumps (fun l' a' w' => J l' a' w' ∧ μ l' a' w' < μ l a w) Q) a w) : (Code.scope c).wp P Q a w := by
  intro b k cs
  have hg : ∀ l a w, J l a w → gotoIn l (.inScope c :: k) = some (.code (R l) :: .inScope c :: k) := fun l a w h => by simp [gotoIn, hf l a w h]
  have key : ∀ n l a w, μ l a w = n → J l a w → ∃ e a' w', Q e a' w' ∧ Arrives P (lone (b.at a (.code (R l) :: .inScope c :: k)) cs w) b k cs e a' w' := by
    intro n
    induction n using Nat.strongRecOn with
    | _ n ih =>
      intro l a w hn hJ
      obtain ⟨e, a₁, w₁, hq, harr⟩ := pass l a w hJ b (.inScope c :: k) cs
      cases e with
      | normal => exact ⟨.normal, a₁, w₁, hq, Steps.trans harr (.one step_inScope)⟩
      | exit id => exact ⟨.exit id, a₁, w₁, hq, fun k' hk => harr k' (by simp [exitTo, hk])⟩
      | goto l' =>
        obtain ⟨hJ', hlt⟩ := hq
        obtain ⟨e₂, a₂, w₂, hq₂, harr₂⟩ := ih _ (by omega) l' a₁ w₁ rfl hJ'
        exact ⟨e₂, a₂, w₂, hq₂, .of_steps (harr _ (hg l' a₁ w₁ hJ')) harr₂⟩
      | ret => exact ⟨_, a₁, w₁, hq, harr⟩
      | panic ch => exact ⟨_, a₁, w₁, hq, harr⟩
      | outgrown => exact ⟨_, a₁, w₁, hq, harr⟩
  obtain ⟨e, a₁, w₁, hq, harr⟩ := first b (.inScope c :: k) cs
  cases e with
  | normal => exact ⟨.normal, a₁, w₁, hq, .head step_scope (Steps.trans harr (.one step_inScope))⟩
  | exit id => exact ⟨.exit id, a₁, w₁, hq, fun k' hk => .head step_scope (harr k' (by simp [exitTo, hk]))⟩
  | goto l' =>
    obtain ⟨e₂, a₂, w₂, hq₂, harr₂⟩ := key _ l' a₁ w₁ rfl hq
    exact ⟨e₂, a₂, w₂, hq₂, .of_steps (.head step_scope (harr _ (hg l' a₁ w₁ hq))) harr₂⟩
  | ret => exact ⟨_, a₁, w₁, hq, .of_steps (.one step_scope) harr⟩
  | panic ch => exact ⟨_, a₁, w₁, hq, .of_steps (.one step_scope) harr⟩
  | outgrown => exact ⟨_, a₁, w₁, hq, .of_steps (.one step_scope) harr⟩
/-- four labels: what holds at each, and each one's measure -/
def four (J0 J1 J2 J3 : Act → World → Prop) (l : Nat) (a : Act) (w : World) : Prop := (l = 0 ∧ J0 a w) ∨ (l = 1 ∧ J1 a w) ∨ (l = 2 ∧ J2 a w) ∨ (l = 3 ∧ J3 a w)
theorem wp_scope_four {c r0 r1 r2 r3 : Code} (J0 J1 J2 J3 : Act → World → Prop) (μ : Nat → Act → World → Nat)
    (h0 : findLabel c 0 = some (Code.skip.seq r0)) (h1 : findLabel c 1 = some (Code.skip.seq r1)) (h2 : findLabel c 2 = some (Code.skip.seq r2)) (h3 : findLabel c 3 = some (Code.skip.seq r3))
    (first : (∀ a w, J0 a w → r0.wp P (jumps (four J0 J1 J2 J3) Q) a w) → c.wp P (jumps (four J0 J1 J2 J3) Q) a w)
    (p0 : ∀ a w, J0 a w → r0.wp P (jumps (fun l' a' w' => four J0 J1 J2 J3 l' a' w' ∧ μ l' a' w' < μ 0 a w) Q) a w)
    (p1 : ∀ a w, J1 a w → r1.wp P (jumps (fun l' a' w' => four J0 J1 J2 J3 l' a' w' ∧ μ l' a' w' < μ 1 a w) Q) a w)
    (p2 : ∀ a w, J2 a w → r2.wp P (jumps (fun l' a' w' => four J0 J1 J2 J3 l' a' w' ∧ μ l' a' w' < μ 2 a w) Q) a w)
    (p3 : ∀ a w, J3 a w → r3.wp P (jumps (fun l' a' w' => four J0 J1 J2 J3 l' a' w' ∧ μ l' a' w' < μ 3 a w) Q) a w) : (Code.scope c).wp P Q a w := by
  refine wp_scope_labels (fun l => if l = 0 then Code.skip.seq r0 else if l = 1 then Code.skip.seq r1 else if l = 2 then Code.skip.seq r2 else Code.skip.seq r3) (four J0 J1 J2 J3) μ ?_ (first fun a w h => Code.wp_mono (fun e a' w' hq => ?_) (p0 a w h)) ?_
  · rintro l a w (⟨rfl, _⟩ | ⟨rfl, _⟩ | ⟨rfl, _⟩ | ⟨rfl, _⟩)
    · exact h0
    · exact h1
    · exact h2
    · exact h3
  · cases e with
    | goto l => exact hq.1
    | normal => exact hq
    | exit id => exact hq
    | ret => exact hq
    | panic ch => exact hq
    | outgrown => exact hq
  · rintro l a w (⟨rfl, h⟩ | ⟨rfl, h⟩ | ⟨rfl, h⟩ | ⟨rfl, h⟩)
    · exact wp_seq (wp_skip (p0 a w h))
    · exact wp_seq (wp_skip (p1 a w h))
    · exact wp_seq (wp_skip (p2 a w h))
    · exact wp_seq (wp_skip (p3 a w h))
theorem four0 {J0 J1 J2 J3 : Act → World → Prop} {a : Act} {w : World} (h : J0 a w) : four J0 J1 J2 J3 0 a w := .inl ⟨rfl, h⟩
theorem four1 {J0 J1 J2 J3 : Act → World → Prop} {a : Act} {w : World} (h : J1 a w) : four J0 J1 J2 J3 1 a w := .inr (.inl ⟨rfl, h⟩)
theorem four2 {J0 J1 J2 J3 : Act → World → Prop} {a : Act} {w : World} (h : J2 a w) : four J0 J1 J2 J3 2 a w := .inr (.inr (.inl ⟨rfl, h⟩))
theorem four3 {J0 J1 J2 J3 : Act → World → Prop} {a : Act} {w : World} (h : J3 a w) : four J0 J1 J2 J3 3 a w := .inr (.inr (.inr ⟨rfl, h⟩))
end
end Go.Proofs.YtoengnefdndgfaaDoor
