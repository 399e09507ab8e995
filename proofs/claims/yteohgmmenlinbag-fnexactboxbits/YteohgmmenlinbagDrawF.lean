/- The contract of the model's 'l5Open'. -/
import Derived.Test.YteohgmmenlinbagDrawD
namespace Go.Proofs.Yteohgmmenlinbag
open Go.ChangeShapes Go.WideShapes Go.ChangeAt Go.RowKit
set_option linter.unusedVariables false

/-- The bytes of a code: what the law is handed. -/
def Code8 (w : World) (a : Option Addr) (len : Nat) : Prop :=
  len = 0 ∨ ∃ rb ro, a = some ⟨rb, ro, none⟩ ∧ rb < w.heap.size ∧ ∀ j, j < len → ∃ z : Int, 0 ≤ z ∧ z ≤ 255 ∧ w.cell? ⟨rb, ro + j, none⟩ = some (.int .u8 z)

theorem code8_of {w : World} {x : Addr} {len cap : Nat} {zs : List Int} (hl : len ≤ cap) (hz : zs.length = cap) (hcell : ∀ i, i < zs.length → w.cell? (x.add i) = some (.int .u8 (zs.getD i 0)))
    (hwf : ∀ n ∈ zs, (Lit.int .u8 n).wf = true) : Code8 w (some x) len := by
  by_cases h0 : len = 0
  · exact .inl h0
  · obtain ⟨b, off, rfl, hc⟩ := ints_at hcell (by omega)
    refine .inr ⟨b, off, rfl, ?_, fun j hj => ?_⟩
    · have h := hc 0 (by omega)
      rcases Nat.lt_or_ge b w.heap.size with hb | hb
      · exact hb
      · simp [World.cell?, Array.getElem?_eq_none hb] at h
    · refine ⟨zs.getD j 0, ?_, ?_, hc j (by omega)⟩ <;>
        have hm : zs.getD j 0 ∈ zs := by rw [List.getD_eq_getElem?_getD, List.getElem?_eq_getElem (show j < zs.length by omega)]; exact List.getElem_mem _
      · have := bounds_u8 (hwf _ hm); omega
      · have := bounds_u8 (hwf _ hm); omega

theorem rd_new {w : World} {a : Option Addr} {len n cap : Nat} {t : TypeId} (hc : Code8 w a len) (hn : n ≤ len) (h2 : n ≤ 2000) : Rd (w.alloc (.cells #[.slice a n cap, .int .i64 0] t)) w.heap.size 0 := by
  refine ⟨by simp, a, n, cap, 0, h2, Int.le_refl _, Int.le_refl _, ?_, ?_, by simp, ?_⟩
  · rw [World.cell?_alloc_new]; rfl
  · rw [World.cell?_alloc_new]; rfl
  · rcases hc with hc | ⟨rb, ro, ha, hlt, hcell⟩
    · exact .inl (by omega)
    · refine .inr ⟨rb, ro, ha, hlt, fun j hj => ?_⟩
      obtain ⟨z, z0, z1, hz⟩ := hcell j (by omega)
      exact ⟨z, z0, z1, (World.cell?_alloc_lt _ _ _ hlt).trans hz⟩

end Go.Proofs.Yteohgmmenlinbag
