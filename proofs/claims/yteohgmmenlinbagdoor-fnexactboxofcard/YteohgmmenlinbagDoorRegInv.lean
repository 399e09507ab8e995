/- A region that draws its order, walked by an invariant: whatever operation comes up, it keeps the invariant. No program is named here. -/
import Derived.Test.YteohgmmenlinbagDoorRows
import Derived.WalkKit
import Derived.Below
import Derived.WalkSpells
import Derived.Outline
import Derived.BigRegion
namespace Go.Proofs.YteohgmmenlinbagDoor
open Go.RowKit

theorem all_listed {ops : Array Oper} {md : Region.Mode} {listed : Array Bool} (hsz : listed.size = ops.size) (hac : ∀ i o, ops[i]? = some o → ∀ e ∈ o.after, Region.binds md e = true → e.on < i)
    (hr : Region.ready md ops listed = []) : ∀ i, i < ops.size → listed.getD i false = true := by
  intro i
  induction i using Nat.strongRecOn with
  | ind i ih =>
    intro hi
    have ho : ops[i]? = some ops[i] := Array.getElem?_eq_getElem hi
    have hn : i ∉ Region.ready md ops listed := by rw [hr]; simp
    rw [mem_ready] at hn
    cases hl : listed.getD i false with
    | true => rfl
    | false =>
      exfalso
      apply hn
      refine ⟨?_, _, ho, fun e he hb => ?_⟩
      · have hi' : i < listed.size := by omega
        simp only [Array.getD_eq_getD_getElem?, Array.getElem?_eq_getElem hi', Option.getD_some] at hl ⊢
        exact hl
      · have hlt := hac i _ ho e he hb
        exact ih e.on hlt (by omega)

theorem any_inv {P : Program} {ops : Array Oper} {md : Region.Mode} {Q : Exit → Act → World → Prop} (I : (Nat → Bool) → Act → World → Prop)
    (hac : ∀ i o, ops[i]? = some o → ∀ e ∈ o.after, Region.binds md e = true → e.on < i)
    (hs : ∀ f a w i o, I f a w → ops[i]? = some o → f i = false → (∀ e ∈ o.after, Region.binds md e = true → f e.on = true) → wpOp P ops Q i (fun a' w' => I (fun j => j == i || f j) a' w') a w)
    (he : ∀ f a w, I f a w → (∀ i, i < ops.size → f i = true) → Q .normal a w) :
    ∀ (fuel : Nat) (listed : Array Bool) (a : Act) (w : World), listed.size = ops.size → listed.toList.count false ≤ fuel → I (fun j => listed.getD j false) a w → wpAny P md ops Q fuel listed a w := by
  intro fuel
  induction fuel with
  | zero =>
    intro listed a w hsz hc hI
    have hall : ∀ i, i < ops.size → listed.getD i false = true := by
      intro i hi
      have hi' : i < listed.size := by omega
      have h0 : listed.toList.count false = 0 := by omega
      rw [List.count_eq_zero] at h0
      cases hb : listed[i] with
      | true => simp [Array.getElem?_eq_getElem hi', hb]
      | false => exact absurd (by rw [← hb]; simp) h0
    refine ⟨?_, he _ _ _ hI hall⟩
    apply List.eq_nil_iff_forall_not_mem.2
    intro i hi
    rw [mem_ready] at hi
    obtain ⟨h0, o, ho, _⟩ := hi
    have hlt : i < ops.size := (Array.getElem?_eq_some_iff.1 ho).1
    have hi' : i < listed.size := by omega
    have := hall i hlt
    simp only [Array.getD_eq_getD_getElem?, Array.getElem?_eq_getElem hi', Option.getD_some] at h0 this
    rw [h0] at this
    cases this
  | succ fuel ih =>
    intro listed a w hsz hc hI
    refine ⟨fun hr => he _ _ _ hI (all_listed hsz hac hr), fun i hi => ?_⟩
    rw [mem_ready] at hi
    obtain ⟨h0, o, ho, hall⟩ := hi
    have hlt : i < ops.size := (Array.getElem?_eq_some_iff.1 ho).1
    have hi' : i < listed.size := by omega
    have hf : listed.getD i false = false := by
      simp only [Array.getD_eq_getD_getElem?, Array.getElem?_eq_getElem hi', Option.getD_some] at h0 ⊢
      exact h0
    refine wpOp_mono (fun a' w' hI' => ih _ a' w' (by simpa using hsz) ?_ ?_) (hs _ a w i o hI ho hf hall)
    · have hb : listed[i] = false := by
        simpa only [Array.getD_eq_getD_getElem?, Array.getElem?_eq_getElem hi', Option.getD_some] using hf
      have e : (listed.setIfInBounds i true).toList = listed.toList.set i true := by simp
      rw [e]
      have hl : i < listed.toList.length := by simpa using hi'
      have := List.count_set (a := true) (b := false) hl
      rw [this]
      have hb2 : listed.toList[i] = false := by simpa using hb
      have h1 : (true == false) = false := rfl
      simp only [hb2, beq_self_eq_true, if_true, h1, Bool.false_eq_true, if_false]
      omega
    · have e : (fun j => (listed.setIfInBounds i true).getD j false) = fun j => j == i || listed.getD j false := by
        funext j
        by_cases hij : j = i
        · subst hij
          simp [hi']
        · rw [getD_set_ne false (Ne.symm hij)]
          simp [hij]
      rw [e]
      exact hI'

/-- Every edge goes back. -/
def backB (md : Region.Mode) (ops : Array Oper) : Bool :=
  (List.range ops.size).all fun i => ((ops[i]?).map fun o => o.after.all fun e => !Region.binds md e || decide (e.on < i)).getD true

theorem back_of {md : Region.Mode} {ops : Array Oper} (h : backB md ops = true) : ∀ i o, ops[i]? = some o → ∀ e ∈ o.after, Region.binds md e = true → e.on < i := by
  intro i o ho e he hb
  have hlt : i < ops.size := (Array.getElem?_eq_some_iff.1 ho).1
  unfold backB at h
  rw [List.all_eq_true] at h
  have := h i (List.mem_range.2 hlt)
  rw [ho] at this
  simp only [Option.map_some, Option.getD_some, Array.all_eq_true_iff_forall_mem, Bool.or_eq_true, Bool.not_eq_true', decide_eq_true_eq] at this
  rcases this e he with h1 | h1
  · rw [hb] at h1; cases h1
  · exact h1

theorem region_inv {P : Program} {id : Nat} {ops : Array Oper} {Q : Exit → Act → World → Prop} {a : Act} {w : World} (hm : P.follows .mixedOrders = true) (hB : backB .any ops = true) (I : (Nat → Bool) → Act → World → Prop)
    (h0 : I (fun _ => false) a w.drew)
    (hs : ∀ f a w i o, I f a w → ops[i]? = some o → f i = false → (∀ e ∈ o.after, Region.binds .any e = true → f e.on = true) → wpOp P ops Q i (fun a' w' => I (fun j => j == i || f j) a' w') a w)
    (he : ∀ f a w, I f a w → (∀ i, i < ops.size → f i = true) → Q .normal a w) : (Code.region id ops true).wp P Q a w := by
  refine wp_region_any hm (any_inv I (back_of hB) hs he ops.size _ a _ (by simp) ?_ ?_)
  · simp
  · have e : (fun j => (Array.replicate ops.size false).getD j false) = fun _ => false := by
      funext j
      rw [Array.getD_eq_getD_getElem?]
      by_cases hj : j < ops.size
      · simp [hj]
      · rw [Array.getElem?_eq_none (by simp; omega)]; rfl
    rw [e]
    exact h0

def upd (f : Nat → Bool) (i : Nat) : Nat → Bool := fun j => j == i || f j
theorem upd_ne {f : Nat → Bool} {i j : Nat} (h : j ≠ i) (hu : upd f i j = true) : f j = true := by
  unfold upd at hu
  simpa [h] using hu
theorem upd_same {f : Nat → Bool} {i j : Nat} (h : j ≠ i) : upd f i j = f j := by
  unfold upd
  simp [h]
theorem upd_of {f : Nat → Bool} {i j : Nat} (h : f j = true) : upd f i j = true := by
  unfold upd
  simp [h]
theorem upd_self {f : Nat → Bool} {i : Nat} : upd f i i = true := by
  unfold upd
  simp

/-- Each operation, whenever it may come up, keeps the invariant. -/
def stepsOk (P : Program) (Q : Exit → Act → World → Prop) (I : (Nat → Bool) → Act → World → Prop) : Nat → List Oper → Prop
  | _, [] => True
  | i, o :: l => (∀ f a w, I f a w → f i = false → (o.after.all fun e => !Region.binds .any e || f e.on) = true → ∀ K : Act → World → Prop, (∀ a' w', I (upd f i) a' w' → K a' w') → o.wp P a w K Q) ∧ stepsOk P Q I (i + 1) l

theorem stepsOk_at {P : Program} {Q : Exit → Act → World → Prop} {I : (Nat → Bool) → Act → World → Prop} : ∀ (l : List Oper) (k i : Nat) (o : Oper), stepsOk P Q I k l → l[i]? = some o →
    ∀ f a w, I f a w → f (k + i) = false → (o.after.all fun e => !Region.binds .any e || f e.on) = true → o.wp P a w (fun a' w' => I (upd f (k + i)) a' w') Q
  | [], _, _, _, _, h => by simp at h
  | o' :: l, k, 0, o, hs, h => by
    simp at h
    subst h
    intro f a w h1 h2 h3
    exact hs.1 f a w h1 h2 h3 _ (fun _ _ h => h)
  | o' :: l, k, i + 1, o, hs, h => by
    have := stepsOk_at l (k + 1) i o hs.2 (by simpa using h)
    rw [show k + (i + 1) = k + 1 + i by omega]
    exact this

theorem dep_of {o : Oper} {f : Nat → Bool} (h : (o.after.all fun e => !Region.binds .any e || f e.on) = true) {e : Edge} (he : e ∈ o.after) (hb : Region.binds .any e = true) : f e.on = true := by
  rw [Array.all_eq_true_iff_forall_mem] at h
  have := h e he
  rw [hb] at this
  simpa using this

/-- The rule for a region without guards, its operations written out. -/
theorem region_steps {P : Program} {id : Nat} {l : List Oper} {Q : Exit → Act → World → Prop} {a : Act} {w : World} (hm : P.follows .mixedOrders = true) (hB : backB .any l.toArray = true) (hG : (l.all fun o => o.guard.isNone) = true)
    (I : Act → (Nat → Bool) → Act → World → Prop)
    (h0 : I a (fun _ => false) a w.drew) (hs : stepsOk P Q (I a) 0 l)
    (he : ∀ f a' w', I a f a' w' → (∀ i, i < l.length → f i = true) → Q .normal a' w') : (Code.region id l.toArray true).wp P Q a w := by
  refine region_inv hm hB (I a) h0 (fun f a' w' i o hI ho hf hd => ?_) (fun f a' w' hI hall => he f a' w' hI (by simpa using hall))
  have hol : l[i]? = some o := by simpa using ho
  have hg : o.guard = none := by
    rw [List.all_eq_true] at hG
    simpa using hG o (List.mem_of_getElem? hol)
  have hw : Region.wanted o (yielded l.toArray a'.tmps) = true := by
    unfold Region.wanted
    rw [hg]
  unfold wpOp
  simp only [ho, hw, if_true]
  refine .inl ?_
  have := stepsOk_at l 0 i o hs hol f a' w' hI (by simpa using hf) (by
    rw [Array.all_eq_true_iff_forall_mem]
    intro e he'
    cases hb : Region.binds .any e
    · rfl
    · simpa using hd e he' hb)
  rw [Nat.zero_add] at this
  exact this

end Go.Proofs.YteohgmmenlinbagDoor
