/- Regions that store into several blocks: what stays. No program is named here. -/
import Derived.Test.YteohgmmenlinbacDoorJA
import Derived.Test.YteohgmmenlinbacDoorJB
namespace Go.Proofs.YteohgmmenlinbacDoor
open Go.RowKit
set_option linter.unusedVariables false

/-- All blocks but these are as they were. -/
structure KeepL (bs : List Nat) (w w' : World) : Prop where
  os : w'.os = w.os
  tape : w'.tape = w.tape
  output : w'.output = w.output
  size : w.heap.size ≤ w'.heap.size
  block : ∀ k, k < w.heap.size → k ∉ bs → w'.heap[k]? = w.heap[k]?

theorem KeepL.refl (bs : List Nat) (w : World) : KeepL bs w w := ⟨rfl, rfl, rfl, Nat.le_refl _, fun _ _ _ => rfl⟩
theorem KeepL.drew {bs : List Nat} {u w : World} (h : KeepL bs u w) : KeepL bs u w.drew := ⟨h.os, h.tape, h.output, h.size, h.block⟩
theorem KeepL.bel {bs : List Nat} {u w w' : World} (h : KeepL bs u w) (q : Below w.heap.size w w') : KeepL bs u w' :=
  ⟨q.os.trans h.os, q.tape.trans h.tape, q.output.trans h.output, Nat.le_trans h.size q.size, fun k hk hb => (q.block k (Nat.lt_of_lt_of_le hk h.size)).trans (h.block k hk hb)⟩
theorem KeepL.alloc {bs : List Nat} {u w : World} (h : KeepL bs u w) (o : Obj) : KeepL bs u (w.alloc o) := h.bel ((Below.refl _ _).alloc (Nat.le_refl _) _)
theorem KeepL.new {bs : List Nat} {u w : World} (h : KeepL bs u w) {p : Addr} (hp : u.heap.size ≤ p.block) (v : Value) : KeepL bs u (w.setCell p v) :=
  ⟨h.os, h.tape, h.output, by simpa [World.setCell] using h.size, fun k hk hb => (Below.heap_setCell _ _ _ _ (by omega)).trans (h.block k hk hb)⟩
theorem KeepL.set {bs : List Nat} {u w : World} (h : KeepL bs u w) {p : Addr} (hp : p.block ∈ bs) (v : Value) : KeepL bs u (w.setCell p v) :=
  ⟨h.os, h.tape, h.output, by simpa [World.setCell] using h.size, fun k hk hb => (Below.heap_setCell _ _ _ _ (fun e => hb (by rw [e]; exact hp))).trans (h.block k hk hb)⟩
theorem KeepL.cell {bs : List Nat} {w w' : World} (h : KeepL bs w w') {p : Addr} (hs : p.block < w.heap.size) (hp : p.block ∉ bs) : w'.cell? p = w.cell? p :=
  World.cell?_of_block (w := w) (h.block p.block hs hp)
theorem KeepL.frozen {bs : List Nat} {w w' : World} (h : KeepL bs w w') {p : Addr} (hs : p.block < w.heap.size) (hp : p.block ∉ bs) : w'.frozen? p = w.frozen? p :=
  World.frozen?_of_block (w := w) (h.block p.block hs hp)
theorem KeepL.below {bs : List Nat} {B : Nat} {w w' : World} (h : KeepL bs w w') (hb : ∀ b ∈ bs, B ≤ b) (hB : B ≤ w.heap.size) : Below B w w' :=
  ⟨h.os, h.tape, h.output, h.size, fun k hk => h.block k (by omega) (fun e => by have := hb k e; omega)⟩

theorem PairsAt.keepL {bs : List Nat} {w w' : World} {a : Option Addr} {ps : List (Int × Int)} (h : PairsAt w a ps) (q : KeepL bs w w') {n : Nat} (hn : ∀ rb ro, a = some ⟨rb, ro, none⟩ → rb < n) (hb : ∀ b ∈ bs, n ≤ b) : PairsAt w' a ps := by
  refine ⟨h.1, ?_⟩
  rcases h.2 with e | ⟨rb, ro, ha, hlt, hc⟩
  · exact .inl e
  · have hr := hn rb ro ha
    have hne : rb ∉ bs := fun e => by have := hb rb e; omega
    exact .inr ⟨rb, ro, ha, Nat.lt_of_lt_of_le hlt q.size, fun i p hp => ⟨(q.cell (p := ⟨rb, ro + i * 2, none⟩) hlt hne).trans (hc i p hp).1, (q.cell (p := ⟨rb, ro + i * 2 + 1, none⟩) hlt hne).trans (hc i p hp).2⟩⟩

theorem Facts.keepL {bs : List Nat} {W W' : World} {l : List Fact} (h : Facts W l) (q : KeepL bs W W') (hf : ∀ f ∈ l, ∀ b ∈ bs, f.free (some b)) : Facts W' l := by
  intro f hl
  have hh := h f hl
  have hfb := hf f hl
  cases f with
  | own k vs =>
    have hk : k ∉ bs := fun e => hfb k e rfl
    have hh' : Own W k vs := hh
    exact ⟨Nat.lt_of_lt_of_le hh'.lt q.size, fun i v hv => (q.cell (p := ⟨k, i, none⟩) hh'.lt hk).trans (hh'.cell i v hv), fun i v hv => (q.frozen (p := ⟨k, i, none⟩) hh'.lt hk).trans (hh'.frz i v hv)⟩
  | has a ps o' =>
    refine ⟨hh.1, hh.2.imp id fun ⟨G, e1, e2, e3⟩ => ⟨G, e1, e2, ?_⟩⟩
    have hk : G ∉ bs := fun e => hfb G e G e1 rfl
    exact ⟨Nat.lt_of_lt_of_le e3.lt q.size, fun i p hp => ⟨(q.cell (p := ⟨G, i * 2, none⟩) e3.lt hk).trans (e3.cell i p hp).1, (q.cell (p := ⟨G, i * 2 + 1, none⟩) e3.lt hk).trans (e3.cell i p hp).2⟩,
      fun i p hp => ⟨(q.frozen (p := ⟨G, i * 2, none⟩) e3.lt hk).trans (e3.frz i p hp).1, (q.frozen (p := ⟨G, i * 2 + 1, none⟩) e3.lt hk).trans (e3.frz i p hp).2⟩⟩
  | args n a ps =>
    obtain ⟨h1, h2⟩ := hh
    refine ⟨?_, h2⟩
    rcases h2 with e | ⟨rb', ro', ha', hlt'⟩
    · exact ⟨h1.1, .inl e⟩
    · exact h1.keepL q (n := n) (fun rb ro ha => by rw [ha] at ha'; injection ha' with ha'; injection ha' with e1 e2; omega) (fun b hb => hfb b hb b rfl)
  | bel w => exact ⟨q.os.trans hh.os, q.tape.trans hh.tape, q.output.trans hh.output, Nat.le_trans hh.size q.size, fun k hk => (q.block k (Nat.lt_of_lt_of_le hk hh.size) (fun e => by have := hfb k e k rfl; omega)).trans (hh.block k hk)⟩
  | num p => exact hh

/-- All of these facts are free of o. -/
def freeAll (o : Option Nat) : List Fact → Prop
  | [] => True
  | f :: l => f.free o ∧ freeAll o l
/-- All of these facts but the one at i are free of o. -/
def freeBut (o : Option Nat) : Nat → List Fact → Prop
  | _, [] => True
  | 0, _ :: l => freeAll o l
  | i + 1, f :: l => f.free o ∧ freeBut o i l
theorem freeAll_mem {o : Option Nat} : ∀ {l : List Fact}, freeAll o l → ∀ f ∈ l, f.free o
  | [], _, f, hf => by cases hf
  | g :: l, h, f, hf => by
    rcases List.mem_cons.1 hf with rfl | hf
    · exact h.1
    · exact freeAll_mem h.2 f hf
theorem freeBut_at {o : Option Nat} : ∀ {l : List Fact} {i : Nat}, freeBut o i l → ∀ j f, j ≠ i → l[j]? = some f → f.free o
  | [], _, _, j, f, _, hf => by simp at hf
  | g :: l, 0, h, 0, f, hj, hf => absurd rfl hj
  | g :: l, 0, h, j + 1, f, hj, hf => freeAll_mem h f (List.mem_of_getElem? (by simpa using hf))
  | g :: l, i + 1, h, 0, f, hj, hf => by simp at hf; subst hf; exact h.1
  | g :: l, i + 1, h, j + 1, f, hj, hf => freeBut_at h.2 j f (by omega) (by simpa using hf)
theorem Facts.marked {W W' : World} {o : Option Nat} {l : List Fact} (h : Facts W l) (q : KeepO o W W') (i : Nat) {f2 : Fact} (hf : freeBut o i l) (hn : f2.holds W') : Facts W' (l.set i f2) := h.mark q i (freeBut_at hf) hn

/-- Two new cell blocks, at their numbers. -/
theorem Facts.cells2 {W : World} {l : List Fact} (h : Facts W l) (c d : Array Value) (t u : TypeId) : Facts ((W.alloc (.cells c t)).alloc (.cells d u)) (l ++ [.own W.heap.size c.toList] ++ [.own (W.heap.size + 1) d.toList]) := by
  have := (h.cells c t).cells d u
  simp only [World.size_alloc] at this
  exact this

/-- Several slices of pairs, each in a block of its own. -/
def HasL (W : World) (cs : List (Option Addr × List (Int × Int) × Option Nat)) : Prop := ∀ c ∈ cs, HasO W c.1 c.2.1 c.2.2
theorem HasL.below {W W' : World} {cs : List (Option Addr × List (Int × Int) × Option Nat)} (h : HasL W cs) (q : Below W.heap.size W W') : HasL W' cs := fun c hc => (h c hc).below q
theorem HasL.keepO {W W' : World} {b : Nat} {cs : List (Option Addr × List (Int × Int) × Option Nat)} (h : HasL W cs) (q : KeepO (some b) W W') (hn : ∀ c ∈ cs, ∀ G, c.2.2 = some G → G ≠ b) : HasL W' cs :=
  fun c hc => (h c hc).keepO q (fun G hG e => hn c hc G hG (Option.some.inj e).symm)
theorem HasL.lt {W : World} {cs : List (Option Addr × List (Int × Int) × Option Nat)} (h : HasL W cs) : ∀ c ∈ cs, ∀ G, c.2.2 = some G → G < W.heap.size := fun c hc G hG => (h c hc).lt G hG
theorem HasL.one {W : World} {a : Option Addr} {ps : List (Int × Int)} {o : Option Nat} (h : HasO W a ps o) : HasL W [(a, ps, o)] := fun c hc => by simp at hc; subst hc; exact h
theorem HasL.two {W : World} {a b : Option Addr} {ps qs : List (Int × Int)} {o u : Option Nat} (h : HasO W a ps o) (k : HasO W b qs u) : HasL W [(a, ps, o), (b, qs, u)] := fun c hc => by
  simp at hc
  rcases hc with rfl | rfl
  · exact h
  · exact k
theorem from_one {n : Nat} {a : Option Addr} {ps : List (Int × Int)} {o : Option Nat} (h : ∀ G, o = some G → n ≤ G) : ∀ c ∈ [(a, ps, o)], ∀ G, c.2.2 = some G → n ≤ G := fun c hc => by simp at hc; subst hc; exact h
theorem from_two {n : Nat} {a b : Option Addr} {ps qs : List (Int × Int)} {o u : Option Nat} (h : ∀ G, o = some G → n ≤ G) (k : ∀ G, u = some G → n ≤ G) : ∀ c ∈ [(a, ps, o), (b, qs, u)], ∀ G, c.2.2 = some G → n ≤ G := fun c hc => by
  simp at hc
  rcases hc with rfl | rfl
  · exact h
  · exact k

end Go.Proofs.YteohgmmenlinbacDoor
