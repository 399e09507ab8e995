/- A door's frame: the library's table in its variable, as the row's condition lays it; a part of a float that came in. -/
import Derived.Test.YteohgmmenlinbaaDoorFrame
import Derived.Test.YteohgmmenlinbaaDoorTZ
import Derived.Test.YteohgmmenlinbaaDoorTie
import Derived.Lib.LaidTab
import Derived.LaidMore
import Derived.Stop.Joined
namespace Go.Proofs.YteohgmmenlinbaaDoor
open Go.ChangeShapes Go.WideShapes Go.ChangeAt Go.RowKit Go.Joins Go.Deep
set_option linter.unusedVariables false

abbrev laid1 : List (String × DataW Unit) := [("math/bits.deBruijn64tab", Rows.laid_math_bits_deBruijn64tab)]

theorem gTab : Tryd.prog.globalNamed "math/bits.deBruijn64tab" = some 0 := by kernel_rfl
theorem tTab : (Tryd.prog.globals[0]?).map (·.type) = some 61 := by kernel_rfl

theorem tab_of_laid {W : World} (h : laidMetH Tryd.prog laid1 W) : TabAt 0 Lib.deBruijn64tab W ∧ 0 < W.heap.size := by
  rw [MakeChecks.laidMetH_plain _ _ _ (by kernel_rfl)] at h
  have hT := Lib.tabIs_of_head (k := .u8) (zs := Lib.deBruijn64tab.map Int.ofNat) (rest := []) gTab tTab Tryd.underlying61 Tryd.underlying5 (by kernel_rfl) (by kernel_rfl) h
  have key : TabAt 0 Lib.deBruijn64tab W := by
    intro j hj
    have := hT.cell gTab j (by simpa using hj)
    rw [this]
    congr 2
    simp [List.getD, hj]
  refine ⟨key, ?_⟩
  have h0 := key 0 (by decide)
  rcases Nat.eq_zero_or_pos W.heap.size with e | e
  · exfalso
    unfold World.cell? at h0
    rw [Array.getElem?_eq_none (by omega)] at h0
    cases h0
  · exact e

theorem door_met (os : Os) (args : Array Value) : laidMetH Tryd.prog laid1 ((World.doorLaid Tryd.prog 14 os).forCall (fun _ _ => 0) ⟨#[], args, []⟩).memory :=
  laidMetH_of_parts3 (fuel := 8) (laidMet_of_run' 8 (by kernel_rfl) (by kernel_rfl)) (by kernel_rfl) (by kernel_rfl)

section
variable {H : Type} {enc : TypeId × Value → H} {P : Program} {w : World} {base : Nat} {spare : Nat → Bool} {held : Bool}
/-- A part of a float that came by value. -/
theorem open_part {r : Reach} {b0 : Nat} {t : TypeId} {f0 f1 f2 : Field} {v : Value} {d : DataW H} {p : List MemPlace} (hs : P.underlying t = some (.struct #[f0, f1, f2])) (hone : oneCellFields P #[f0, f1, f2] = true) (hC : P.cellsOf t = 3)
    (e0 : P.underlying f0.type = some .bool) (e1 : P.underlying f1.type = some (.int .u64)) (e2 : P.underlying f2.type = some (.int .i64))
    (hv : Value.okWide P w r b0 t v) (h : DataW.Trod enc P w base spare held t v d p) :
    ∃ (bl : Bool) (s : Nat) (p : Int), v = .agg #[.bool bl, .int .u64 s, .int .i64 p] ∧ s < 18446744073709551616 ∧ (Lit.int .i64 p).wf = true := by
  obtain ⟨c0, c1, c2, y0, y1, y2, m, rfl, rfl, rfl, hy0, hy1, hy2⟩ := open_agg3 hs hone hC hv h
  obtain ⟨a, q0, _⟩ := DataW.trod_bool e0 hy0
  obtain ⟨b, q1, _, wb⟩ := DataW.trod_int e1 hy1
  obtain ⟨c, q2, _, wc⟩ := DataW.trod_int e2 hy2
  simp at q0 q1 q2
  subst q0 q1 q2
  have hb : 0 ≤ b ∧ b ≤ 18446744073709551615 := by
    simp only [Lit.wf, IntKind.min, IntKind.max, IntKind.signed, IntKind.bits, Bool.and_eq_true] at wb
    simpa using wb
  exact ⟨a, b.toNat, c, by rw [show ((b.toNat : Nat) : Int) = b by omega], by omega, wc⟩
end

end Go.Proofs.YteohgmmenlinbaaDoor
