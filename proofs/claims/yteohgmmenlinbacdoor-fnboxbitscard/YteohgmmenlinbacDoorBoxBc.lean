/- The closure of the program's BoxBits: its contract. -/
import Derived.Test.YteohgmmenlinbacDoorBoxB
import Derived.Test.YteohgmmenlinbacDoorAppF
import Derived.Test.YteohgmmenlinbacDoorJB
namespace Go.Proofs.YteohgmmenlinbacDoor
open Go.ChangeShapes Go.WideShapes Go.ChangeAt Go.RowKit
set_option linter.unusedVariables false

theorem ownsRow_cells {W : World} {base : Nat} {e : TypeId} {size : Nat} {v : Value} {n : Nat} {xs : List Value} (h : W.ownsRow base e size v n xs) : ∀ (j : Nat) (o : Obj), v.ownBlock = some j → W.heap[j]? = some o → o.isCells = true := by
  intro j o hj ho
  rcases h.2 with ⟨rfl, _⟩ | ⟨g, cap, cur, rfl, _, hg, _⟩
  · cases hj
  · obtain rfl : g = j := Option.some.inj hj
    rw [hg] at ho
    obtain rfl := Option.some.inj ho
    rfl

/-- A list that has grown. -/
def ClOut (w : World) (n0 : Nat) (zs : List Int) (e : Ending) (w' : World) : Prop :=
  ∃ v', e = .returned v' ∧ w'.ownsRow n0 38 1 v' zs.length (uvals zs) ∧ (∃ g c, v' = .slice (some ⟨g, 0, none⟩) zs.length c) ∧ Below n0 w w' ∧ KeepsOthers w w'

set_option maxRecDepth 100000 in
set_option maxHeartbeats 8000000 in
theorem bitsTake0 (w : World) (C k0 n0 : Nat) (n lo up g : Int) (hC : Own w C [.int .i64 n]) (hCn : C < n0) (hn0 : n0 ≤ w.heap.size) (wl : (Lit.int .i64 lo).wf = true) (wh : (Lit.int .i64 up).wf = true) :
    Calls Tryd.prog 15 #[.slice (some ⟨k0, 0, none⟩) 0 0, .agg #[.int .i64 lo, .int .i64 up, .int .u64 g], .pointer (some ⟨C, 0, none⟩)] w (ClOut w n0 ([] ++ [bitsI n lo, bitsI n up])) := by
  obtain ⟨i0, hi, hz0, hz1, hz2⟩ := info_parts infoU64
  have F0 : Facts (w.alloc (.cells #[.int .i64 lo, .int .i64 up, .int .u64 g] 45)) [.own C [.int .i64 n], .own w.heap.size [.int .i64 lo, .int .i64 up, .int .u64 g]] := ((Facts.nil w).pushOwn hC).cells _ _
  have B0 : Below n0 w (w.alloc (.cells #[.int .i64 lo, .int .i64 up, .int .u64 g] 45)) := (Below.refl _ w).alloc hn0 _
  have S0 : n0 ≤ (w.alloc (.cells #[.int .i64 lo, .int .i64 up, .int .u64 g] 45)).heap.size := by simp; omega
  have KP0 : KeepsOthers w (w.alloc (.cells #[.int .i64 lo, .int .i64 up, .int .u64 g] 45)) := KeepsOthers.alloc _ _
  have sb := fun W => implBits W n lo wl
  have sb2 := fun W => implBits W n up wh
  generalize bitsI n lo = z1 at *
  generalize bitsI n up = z2 at *
  clear hC
  go_enter Tryd.func15, Tryd.ntmps15
  go_wp2
  refine region_steps (by kernel_rfl) (by kernel_rfl) (by kernel_rfl) (fun A0 f act W => ∃ (x5 : Value) (x6 : Value) (x7 : Value) (x8 : Value) (x9 : Value) (x10 : Value) (x11 : Value) (x12 : Value) (x13 : Value) (x14 : Value) (x15 : Value) (x16 : Value) (x17 : Value) (x18 : Value) (k : Nat) (v1 : Value), act = { tmps := #[.slice (some ⟨k0, 0, none⟩) 0 0, .agg #[.int .i64 lo, .int .i64 up, .int .u64 g], .pointer (some ⟨C, 0, none⟩), undef, .pointer (some ⟨w.heap.size, 0, none⟩), x5, x6, x7, x8, x9, x10, x11, x12, x13, x14, x15, x16, x17, x18], defers := [] } ∧ (f 0 = true → x6 = .slice (some ⟨k0, 0, none⟩) 0 0) ∧ (f 1 = true → x7 = .int .i64 n) ∧ (f 2 = true → x8 = .pointer (some ⟨w.heap.size, 0, none⟩)) ∧ (f 3 = true → x9 = .pointer (some ⟨w.heap.size, 0, none⟩)) ∧ (f 4 = true → x10 = .int .i64 lo) ∧ (f 5 = true → x11 = .int .u64 z1) ∧ (f 6 = true → x12 = .int .i64 n) ∧ (f 7 = true → x13 = .pointer (some ⟨w.heap.size, 0, none⟩)) ∧ (f 8 = true → x14 = .pointer (some ⟨w.heap.size, 1, none⟩)) ∧ (f 9 = true → x15 = .int .i64 up) ∧ (f 10 = true → x16 = .int .u64 z2) ∧ (f 11 = true → x17 = .slice (some ⟨k, 0, none⟩) 2 2) ∧ (f 12 = true → x18 = v1) ∧ (f 13 = true → x5 = v1) ∧ True ∧ (f 12 = true → W.ownsRow n0 38 1 v1 (0 + 2) ([] ++ [.int .u64 z1, .int .u64 z2]) ∧ ∃ g c, v1 = .slice (some ⟨g, 0, none⟩) (0 + 2) c) ∧ (f 11 = true → f 12 = false → ∀ j u, ([.int .u64 z1, .int .u64 z2] : List Value)[j]? = some u → W.cell? ((⟨k, 0, none⟩ : Addr).add j) = some u) ∧ (f 12 = true → f 11 = true) ∧ True ∧ (f 12 = true → f 0 = true) ∧ Facts W [.own C [.int .i64 n], .own w.heap.size [.int .i64 lo, .int .i64 up, .int .u64 g]] ∧ Below n0 w W ∧ n0 ≤ W.heap.size ∧ KeepsOthers w W ∧ (f 11 = true → f 5 = true) ∧ (f 11 = true → f 10 = true) ∧ (f 13 = true → f 12 = true)) ?_ ⟨?_, ?_, ?_, ?_, ?_, ?_, ?_, ?_, ?_, ?_, ?_, ?_, ?_, ?_, trivial⟩ ?_
  · exact ⟨.slice none 0 0, undef, undef, undef, undef, undef, undef, undef, undef, undef, undef, undef, undef, undef, 0, undef, rfl, (fun h => (by cases h)), (fun h => (by cases h)), (fun h => (by cases h)), (fun h => (by cases h)), (fun h => (by cases h)), (fun h => (by cases h)), (fun h => (by cases h)), (fun h => (by cases h)), (fun h => (by cases h)), (fun h => (by cases h)), (fun h => (by cases h)), (fun h => (by cases h)), (fun h => (by cases h)), (fun h => (by cases h)), trivial, (fun h => (by cases h)), (fun h => (by cases h)), (fun h => (by cases h)), trivial, (fun h => (by cases h)), (F0).drew, (B0).drew, S0, KP0.trans (KeepsOthers.drew _), (fun h => (by cases h)), (fun h => (by cases h)), (fun h => (by cases h))⟩
  · rintro f act W ⟨x5, x6, x7, x8, x9, x10, x11, x12, x13, x14, x15, x16, x17, x18, k, v1, rfl, h0, h1, h2, h3, h4, h5, h6, h7, h8, h9, h10, h11, h12, h13, m0, m1, cl, ib, z5, a0, fx, hB, hS, kp, bc5, bc10, late13⟩ hf hd K_ hK
    go_simp
    refine hK _ _ ?_
    exact ⟨x5, _, x7, x8, x9, x10, x11, x12, x13, x14, x15, x16, x17, x18, k, v1, rfl, fun _ => rfl, fun h => h1 (upd_ne (by decide) h), fun h => h2 (upd_ne (by decide) h), fun h => h3 (upd_ne (by decide) h), fun h => h4 (upd_ne (by decide) h), fun h => h5 (upd_ne (by decide) h), fun h => h6 (upd_ne (by decide) h), fun h => h7 (upd_ne (by decide) h), fun h => h8 (upd_ne (by decide) h), fun h => h9 (upd_ne (by decide) h), fun h => h10 (upd_ne (by decide) h), fun h => h11 (upd_ne (by decide) h), fun h => h12 (upd_ne (by decide) h), fun h => h13 (upd_ne (by decide) h), trivial, fun h => m1 (upd_ne (by decide) h), fun h h' => cl (upd_ne (by decide) h) (by rw [upd_same (by decide)] at h'; exact h'), fun h => upd_of (ib (upd_ne (by decide) h)), trivial, fun _ => upd_self, fx, hB, hS, kp, fun h => upd_of (bc5 (upd_ne (by decide) h)), fun h => upd_of (bc10 (upd_ne (by decide) h)), fun h => upd_of (late13 (upd_ne (by decide) h))⟩
  · rintro f act W ⟨x5, x6, x7, x8, x9, x10, x11, x12, x13, x14, x15, x16, x17, x18, k, v1, rfl, h0, h1, h2, h3, h4, h5, h6, h7, h8, h9, h10, h11, h12, h13, m0, m1, cl, ib, z5, a0, fx, hB, hS, kp, bc5, bc10, late13⟩ hf hd K_ hK
    have y0 := (fx.own 0 rfl).cell 0 _ rfl
    go_simp
    refine hK _ _ ?_
    exact ⟨x5, x6, _, x8, x9, x10, x11, x12, x13, x14, x15, x16, x17, x18, k, v1, rfl, fun h => h0 (upd_ne (by decide) h), fun _ => rfl, fun h => h2 (upd_ne (by decide) h), fun h => h3 (upd_ne (by decide) h), fun h => h4 (upd_ne (by decide) h), fun h => h5 (upd_ne (by decide) h), fun h => h6 (upd_ne (by decide) h), fun h => h7 (upd_ne (by decide) h), fun h => h8 (upd_ne (by decide) h), fun h => h9 (upd_ne (by decide) h), fun h => h10 (upd_ne (by decide) h), fun h => h11 (upd_ne (by decide) h), fun h => h12 (upd_ne (by decide) h), fun h => h13 (upd_ne (by decide) h), trivial, fun h => m1 (upd_ne (by decide) h), fun h h' => cl (upd_ne (by decide) h) (by rw [upd_same (by decide)] at h'; exact h'), fun h => upd_of (ib (upd_ne (by decide) h)), trivial, fun h => upd_of (a0 (upd_ne (by decide) h)), fx, hB, hS, kp, fun h => upd_of (bc5 (upd_ne (by decide) h)), fun h => upd_of (bc10 (upd_ne (by decide) h)), fun h => upd_of (late13 (upd_ne (by decide) h))⟩
  · rintro f act W ⟨x5, x6, x7, x8, x9, x10, x11, x12, x13, x14, x15, x16, x17, x18, k, v1, rfl, h0, h1, h2, h3, h4, h5, h6, h7, h8, h9, h10, h11, h12, h13, m0, m1, cl, ib, z5, a0, fx, hB, hS, kp, bc5, bc10, late13⟩ hf hd K_ hK
    go_simp
    refine hK _ _ ?_
    exact ⟨x5, x6, x7, _, x9, x10, x11, x12, x13, x14, x15, x16, x17, x18, k, v1, rfl, fun h => h0 (upd_ne (by decide) h), fun h => h1 (upd_ne (by decide) h), fun _ => rfl, fun h => h3 (upd_ne (by decide) h), fun h => h4 (upd_ne (by decide) h), fun h => h5 (upd_ne (by decide) h), fun h => h6 (upd_ne (by decide) h), fun h => h7 (upd_ne (by decide) h), fun h => h8 (upd_ne (by decide) h), fun h => h9 (upd_ne (by decide) h), fun h => h10 (upd_ne (by decide) h), fun h => h11 (upd_ne (by decide) h), fun h => h12 (upd_ne (by decide) h), fun h => h13 (upd_ne (by decide) h), trivial, fun h => m1 (upd_ne (by decide) h), fun h h' => cl (upd_ne (by decide) h) (by rw [upd_same (by decide)] at h'; exact h'), fun h => upd_of (ib (upd_ne (by decide) h)), trivial, fun h => upd_of (a0 (upd_ne (by decide) h)), fx, hB, hS, kp, fun h => upd_of (bc5 (upd_ne (by decide) h)), fun h => upd_of (bc10 (upd_ne (by decide) h)), fun h => upd_of (late13 (upd_ne (by decide) h))⟩
  · rintro f act W ⟨x5, x6, x7, x8, x9, x10, x11, x12, x13, x14, x15, x16, x17, x18, k, v1, rfl, h0, h1, h2, h3, h4, h5, h6, h7, h8, h9, h10, h11, h12, h13, m0, m1, cl, ib, z5, a0, fx, hB, hS, kp, bc5, bc10, late13⟩ hf hd K_ hK
    have e2 := h2 (dep_of hd (e := ⟨2, .data⟩) (by simp) rfl)
    subst e2
    go_simp
    refine hK _ _ ?_
    exact ⟨x5, x6, x7, _, _, x10, x11, x12, x13, x14, x15, x16, x17, x18, k, v1, rfl, fun h => h0 (upd_ne (by decide) h), fun h => h1 (upd_ne (by decide) h), fun _ => rfl, fun _ => rfl, fun h => h4 (upd_ne (by decide) h), fun h => h5 (upd_ne (by decide) h), fun h => h6 (upd_ne (by decide) h), fun h => h7 (upd_ne (by decide) h), fun h => h8 (upd_ne (by decide) h), fun h => h9 (upd_ne (by decide) h), fun h => h10 (upd_ne (by decide) h), fun h => h11 (upd_ne (by decide) h), fun h => h12 (upd_ne (by decide) h), fun h => h13 (upd_ne (by decide) h), trivial, fun h => m1 (upd_ne (by decide) h), fun h h' => cl (upd_ne (by decide) h) (by rw [upd_same (by decide)] at h'; exact h'), fun h => upd_of (ib (upd_ne (by decide) h)), trivial, fun h => upd_of (a0 (upd_ne (by decide) h)), fx, hB, hS, kp, fun h => upd_of (bc5 (upd_ne (by decide) h)), fun h => upd_of (bc10 (upd_ne (by decide) h)), fun h => upd_of (late13 (upd_ne (by decide) h))⟩
  · rintro f act W ⟨x5, x6, x7, x8, x9, x10, x11, x12, x13, x14, x15, x16, x17, x18, k, v1, rfl, h0, h1, h2, h3, h4, h5, h6, h7, h8, h9, h10, h11, h12, h13, m0, m1, cl, ib, z5, a0, fx, hB, hS, kp, bc5, bc10, late13⟩ hf hd K_ hK
    have e3 := h3 (dep_of hd (e := ⟨3, .data⟩) (by simp) rfl)
    subst e3
    have y0 := (fx.own 1 rfl).cell 0 _ rfl
    go_simp
    refine hK _ _ ?_
    exact ⟨x5, x6, x7, x8, _, _, x11, x12, x13, x14, x15, x16, x17, x18, k, v1, rfl, fun h => h0 (upd_ne (by decide) h), fun h => h1 (upd_ne (by decide) h), fun h => h2 (upd_ne (by decide) h), fun _ => rfl, fun _ => rfl, fun h => h5 (upd_ne (by decide) h), fun h => h6 (upd_ne (by decide) h), fun h => h7 (upd_ne (by decide) h), fun h => h8 (upd_ne (by decide) h), fun h => h9 (upd_ne (by decide) h), fun h => h10 (upd_ne (by decide) h), fun h => h11 (upd_ne (by decide) h), fun h => h12 (upd_ne (by decide) h), fun h => h13 (upd_ne (by decide) h), trivial, fun h => m1 (upd_ne (by decide) h), fun h h' => cl (upd_ne (by decide) h) (by rw [upd_same (by decide)] at h'; exact h'), fun h => upd_of (ib (upd_ne (by decide) h)), trivial, fun h => upd_of (a0 (upd_ne (by decide) h)), fx, hB, hS, kp, fun h => upd_of (bc5 (upd_ne (by decide) h)), fun h => upd_of (bc10 (upd_ne (by decide) h)), fun h => upd_of (late13 (upd_ne (by decide) h))⟩
  · rintro f act W ⟨x5, x6, x7, x8, x9, x10, x11, x12, x13, x14, x15, x16, x17, x18, k, v1, rfl, h0, h1, h2, h3, h4, h5, h6, h7, h8, h9, h10, h11, h12, h13, m0, m1, cl, ib, z5, a0, fx, hB, hS, kp, bc5, bc10, late13⟩ hf hd K_ hK
    have e1 := h1 (dep_of hd (e := ⟨1, .data⟩) (by simp) rfl)
    subst e1
    have e4 := h4 (dep_of hd (e := ⟨4, .data⟩) (by simp) rfl)
    subst e4
    go_simp
    refine (sb _).mono ?_
    rintro e W2 ⟨rfl, q⟩
    refine hK _ _ ?_
    exact ⟨x5, x6, _, x8, x9, _, _, x12, x13, x14, x15, x16, x17, x18, k, v1, rfl, fun h => h0 (upd_ne (by decide) h), fun _ => rfl, fun h => h2 (upd_ne (by decide) h), fun h => h3 (upd_ne (by decide) h), fun _ => rfl, fun _ => rfl, fun h => h6 (upd_ne (by decide) h), fun h => h7 (upd_ne (by decide) h), fun h => h8 (upd_ne (by decide) h), fun h => h9 (upd_ne (by decide) h), fun h => h10 (upd_ne (by decide) h), fun h => h11 (upd_ne (by decide) h), fun h => h12 (upd_ne (by decide) h), fun h => h13 (upd_ne (by decide) h), trivial, fun h => absurd (bc5 (ib (upd_ne (by decide) h))) (by rw [hf]; decide), fun h _ => absurd (bc5 (upd_ne (by decide) h)) (by rw [hf]; decide), fun h => upd_of (ib (upd_ne (by decide) h)), trivial, fun h => upd_of (a0 (upd_ne (by decide) h)), fx.below q, hB.trans (q.mono hS), Nat.le_trans hS q.size, kp.trans (KeepsOthers.of_grownBy (grown_of_below q) (fun _ _ e _ => by cases e)), fun _ => upd_self, fun h => upd_of (bc10 (upd_ne (by decide) h)), fun h => upd_of (late13 (upd_ne (by decide) h))⟩
  · rintro f act W ⟨x5, x6, x7, x8, x9, x10, x11, x12, x13, x14, x15, x16, x17, x18, k, v1, rfl, h0, h1, h2, h3, h4, h5, h6, h7, h8, h9, h10, h11, h12, h13, m0, m1, cl, ib, z5, a0, fx, hB, hS, kp, bc5, bc10, late13⟩ hf hd K_ hK
    have y0 := (fx.own 0 rfl).cell 0 _ rfl
    go_simp
    refine hK _ _ ?_
    exact ⟨x5, x6, x7, x8, x9, x10, x11, _, x13, x14, x15, x16, x17, x18, k, v1, rfl, fun h => h0 (upd_ne (by decide) h), fun h => h1 (upd_ne (by decide) h), fun h => h2 (upd_ne (by decide) h), fun h => h3 (upd_ne (by decide) h), fun h => h4 (upd_ne (by decide) h), fun h => h5 (upd_ne (by decide) h), fun _ => rfl, fun h => h7 (upd_ne (by decide) h), fun h => h8 (upd_ne (by decide) h), fun h => h9 (upd_ne (by decide) h), fun h => h10 (upd_ne (by decide) h), fun h => h11 (upd_ne (by decide) h), fun h => h12 (upd_ne (by decide) h), fun h => h13 (upd_ne (by decide) h), trivial, fun h => m1 (upd_ne (by decide) h), fun h h' => cl (upd_ne (by decide) h) (by rw [upd_same (by decide)] at h'; exact h'), fun h => upd_of (ib (upd_ne (by decide) h)), trivial, fun h => upd_of (a0 (upd_ne (by decide) h)), fx, hB, hS, kp, fun h => upd_of (bc5 (upd_ne (by decide) h)), fun h => upd_of (bc10 (upd_ne (by decide) h)), fun h => upd_of (late13 (upd_ne (by decide) h))⟩
  · rintro f act W ⟨x5, x6, x7, x8, x9, x10, x11, x12, x13, x14, x15, x16, x17, x18, k, v1, rfl, h0, h1, h2, h3, h4, h5, h6, h7, h8, h9, h10, h11, h12, h13, m0, m1, cl, ib, z5, a0, fx, hB, hS, kp, bc5, bc10, late13⟩ hf hd K_ hK
    go_simp
    refine hK _ _ ?_
    exact ⟨x5, x6, x7, x8, x9, x10, x11, x12, _, x14, x15, x16, x17, x18, k, v1, rfl, fun h => h0 (upd_ne (by decide) h), fun h => h1 (upd_ne (by decide) h), fun h => h2 (upd_ne (by decide) h), fun h => h3 (upd_ne (by decide) h), fun h => h4 (upd_ne (by decide) h), fun h => h5 (upd_ne (by decide) h), fun h => h6 (upd_ne (by decide) h), fun _ => rfl, fun h => h8 (upd_ne (by decide) h), fun h => h9 (upd_ne (by decide) h), fun h => h10 (upd_ne (by decide) h), fun h => h11 (upd_ne (by decide) h), fun h => h12 (upd_ne (by decide) h), fun h => h13 (upd_ne (by decide) h), trivial, fun h => m1 (upd_ne (by decide) h), fun h h' => cl (upd_ne (by decide) h) (by rw [upd_same (by decide)] at h'; exact h'), fun h => upd_of (ib (upd_ne (by decide) h)), trivial, fun h => upd_of (a0 (upd_ne (by decide) h)), fx, hB, hS, kp, fun h => upd_of (bc5 (upd_ne (by decide) h)), fun h => upd_of (bc10 (upd_ne (by decide) h)), fun h => upd_of (late13 (upd_ne (by decide) h))⟩
  · rintro f act W ⟨x5, x6, x7, x8, x9, x10, x11, x12, x13, x14, x15, x16, x17, x18, k, v1, rfl, h0, h1, h2, h3, h4, h5, h6, h7, h8, h9, h10, h11, h12, h13, m0, m1, cl, ib, z5, a0, fx, hB, hS, kp, bc5, bc10, late13⟩ hf hd K_ hK
    have e7 := h7 (dep_of hd (e := ⟨7, .data⟩) (by simp) rfl)
    subst e7
    go_simp
    refine hK _ _ ?_
    exact ⟨x5, x6, x7, x8, x9, x10, x11, x12, _, _, x15, x16, x17, x18, k, v1, rfl, fun h => h0 (upd_ne (by decide) h), fun h => h1 (upd_ne (by decide) h), fun h => h2 (upd_ne (by decide) h), fun h => h3 (upd_ne (by decide) h), fun h => h4 (upd_ne (by decide) h), fun h => h5 (upd_ne (by decide) h), fun h => h6 (upd_ne (by decide) h), fun _ => rfl, fun _ => rfl, fun h => h9 (upd_ne (by decide) h), fun h => h10 (upd_ne (by decide) h), fun h => h11 (upd_ne (by decide) h), fun h => h12 (upd_ne (by decide) h), fun h => h13 (upd_ne (by decide) h), trivial, fun h => m1 (upd_ne (by decide) h), fun h h' => cl (upd_ne (by decide) h) (by rw [upd_same (by decide)] at h'; exact h'), fun h => upd_of (ib (upd_ne (by decide) h)), trivial, fun h => upd_of (a0 (upd_ne (by decide) h)), fx, hB, hS, kp, fun h => upd_of (bc5 (upd_ne (by decide) h)), fun h => upd_of (bc10 (upd_ne (by decide) h)), fun h => upd_of (late13 (upd_ne (by decide) h))⟩
  · rintro f act W ⟨x5, x6, x7, x8, x9, x10, x11, x12, x13, x14, x15, x16, x17, x18, k, v1, rfl, h0, h1, h2, h3, h4, h5, h6, h7, h8, h9, h10, h11, h12, h13, m0, m1, cl, ib, z5, a0, fx, hB, hS, kp, bc5, bc10, late13⟩ hf hd K_ hK
    have e8 := h8 (dep_of hd (e := ⟨8, .data⟩) (by simp) rfl)
    subst e8
    have y0 := (fx.own 1 rfl).cell 1 _ rfl
    go_simp
    refine hK _ _ ?_
    exact ⟨x5, x6, x7, x8, x9, x10, x11, x12, x13, _, _, x16, x17, x18, k, v1, rfl, fun h => h0 (upd_ne (by decide) h), fun h => h1 (upd_ne (by decide) h), fun h => h2 (upd_ne (by decide) h), fun h => h3 (upd_ne (by decide) h), fun h => h4 (upd_ne (by decide) h), fun h => h5 (upd_ne (by decide) h), fun h => h6 (upd_ne (by decide) h), fun h => h7 (upd_ne (by decide) h), fun _ => rfl, fun _ => rfl, fun h => h10 (upd_ne (by decide) h), fun h => h11 (upd_ne (by decide) h), fun h => h12 (upd_ne (by decide) h), fun h => h13 (upd_ne (by decide) h), trivial, fun h => m1 (upd_ne (by decide) h), fun h h' => cl (upd_ne (by decide) h) (by rw [upd_same (by decide)] at h'; exact h'), fun h => upd_of (ib (upd_ne (by decide) h)), trivial, fun h => upd_of (a0 (upd_ne (by decide) h)), fx, hB, hS, kp, fun h => upd_of (bc5 (upd_ne (by decide) h)), fun h => upd_of (bc10 (upd_ne (by decide) h)), fun h => upd_of (late13 (upd_ne (by decide) h))⟩
  · rintro f act W ⟨x5, x6, x7, x8, x9, x10, x11, x12, x13, x14, x15, x16, x17, x18, k, v1, rfl, h0, h1, h2, h3, h4, h5, h6, h7, h8, h9, h10, h11, h12, h13, m0, m1, cl, ib, z5, a0, fx, hB, hS, kp, bc5, bc10, late13⟩ hf hd K_ hK
    have e6 := h6 (dep_of hd (e := ⟨6, .data⟩) (by simp) rfl)
    subst e6
    have e9 := h9 (dep_of hd (e := ⟨9, .data⟩) (by simp) rfl)
    subst e9
    go_simp
    refine (sb2 _).mono ?_
    rintro e W2 ⟨rfl, q⟩
    refine hK _ _ ?_
    exact ⟨x5, x6, x7, x8, x9, x10, x11, _, x13, x14, _, _, x17, x18, k, v1, rfl, fun h => h0 (upd_ne (by decide) h), fun h => h1 (upd_ne (by decide) h), fun h => h2 (upd_ne (by decide) h), fun h => h3 (upd_ne (by decide) h), fun h => h4 (upd_ne (by decide) h), fun h => h5 (upd_ne (by decide) h), fun _ => rfl, fun h => h7 (upd_ne (by decide) h), fun h => h8 (upd_ne (by decide) h), fun _ => rfl, fun _ => rfl, fun h => h11 (upd_ne (by decide) h), fun h => h12 (upd_ne (by decide) h), fun h => h13 (upd_ne (by decide) h), trivial, fun h => absurd (bc10 (ib (upd_ne (by decide) h))) (by rw [hf]; decide), fun h _ => absurd (bc10 (upd_ne (by decide) h)) (by rw [hf]; decide), fun h => upd_of (ib (upd_ne (by decide) h)), trivial, fun h => upd_of (a0 (upd_ne (by decide) h)), fx.below q, hB.trans (q.mono hS), Nat.le_trans hS q.size, kp.trans (KeepsOthers.of_grownBy (grown_of_below q) (fun _ _ e _ => by cases e)), fun h => upd_of (bc5 (upd_ne (by decide) h)), fun _ => upd_self, fun h => upd_of (late13 (upd_ne (by decide) h))⟩
  · rintro f act W ⟨x5, x6, x7, x8, x9, x10, x11, x12, x13, x14, x15, x16, x17, x18, k, v1, rfl, h0, h1, h2, h3, h4, h5, h6, h7, h8, h9, h10, h11, h12, h13, m0, m1, cl, ib, z5, a0, fx, hB, hS, kp, bc5, bc10, late13⟩ hf hd K_ hK
    have e5 := h5 (dep_of hd (e := ⟨5, .data⟩) (by simp) rfl)
    subst e5
    have e10 := h10 (dep_of hd (e := ⟨10, .data⟩) (by simp) rfl)
    subst e10
    have f6 : f 12 = false := by cases h : f 12; rfl; exact absurd (ib h) (by rw [hf]; decide)
    have R0 := trivial
    go_simp
    refine hK _ _ ?_
    exact ⟨x5, x6, x7, x8, x9, x10, _, x12, x13, x14, x15, _, _, x18, W.heap.size, v1, rfl, fun h => h0 (upd_ne (by decide) h), fun h => h1 (upd_ne (by decide) h), fun h => h2 (upd_ne (by decide) h), fun h => h3 (upd_ne (by decide) h), fun h => h4 (upd_ne (by decide) h), fun _ => rfl, fun h => h6 (upd_ne (by decide) h), fun h => h7 (upd_ne (by decide) h), fun h => h8 (upd_ne (by decide) h), fun h => h9 (upd_ne (by decide) h), fun _ => rfl, fun _ => rfl, fun h => absurd (ib (upd_ne (by decide) h)) (by rw [hf]; decide), fun h => h13 (upd_ne (by decide) h), trivial, fun h => absurd (ib (upd_ne (by decide) h)) (by rw [hf]; decide), fun _ _ => cell_two_new W _ _ _, fun _ => upd_self, trivial, fun h => upd_of (a0 (upd_ne (by decide) h)), fx.alloc _, hB.alloc hS _, (by simp; omega), kp.trans (KeepsOthers.alloc _ _), fun _ => upd_of (dep_of hd (e := ⟨5, .data⟩) (by simp) rfl), fun _ => upd_of (dep_of hd (e := ⟨10, .data⟩) (by simp) rfl), fun h => upd_of (late13 (upd_ne (by decide) h))⟩
  · rintro f act W ⟨x5, x6, x7, x8, x9, x10, x11, x12, x13, x14, x15, x16, x17, x18, k, v1, rfl, h0, h1, h2, h3, h4, h5, h6, h7, h8, h9, h10, h11, h12, h13, m0, m1, cl, ib, z5, a0, fx, hB, hS, kp, bc5, bc10, late13⟩ hf hd K_ hK
    have e0 := h0 (dep_of hd (e := ⟨0, .data⟩) (by simp) rfl)
    subst e0
    have e11 := h11 (dep_of hd (e := ⟨11, .data⟩) (by simp) rfl)
    subst e11
    have d5 := dep_of hd (e := ⟨11, .data⟩) (by simp) rfl
    refine oper_append_first (.tmp 6) (.tmp 17) 28 rfl n0 38 i0 (.int .u64 0) 1 8 Tryd.underlying28 hi hz0 hz1 hz2 rfl (by decide) ⟨k0, 0, none⟩ rfl ⟨k, 0, none⟩ 2 2 [_, _] rfl rfl (cl d5 hf) (fun u hu => by simp at hu; rcases hu with rfl | rfl <;> rfl) (by decide) (by unfold maxLen; omega) (by omega) hS ?_
    intro v2 W2 r1 r2
    have qq : Below W.heap.size W W2 := ⟨r2.os, r2.tape, r2.output, r2.size, fun j hj => r2.block j hj (by simp)⟩
    refine hK _ _ ?_
    exact ⟨x5, _, x7, x8, x9, x10, x11, x12, x13, x14, x15, x16, _, _, k, v2, rfl, fun _ => rfl, fun h => h1 (upd_ne (by decide) h), fun h => h2 (upd_ne (by decide) h), fun h => h3 (upd_ne (by decide) h), fun h => h4 (upd_ne (by decide) h), fun h => h5 (upd_ne (by decide) h), fun h => h6 (upd_ne (by decide) h), fun h => h7 (upd_ne (by decide) h), fun h => h8 (upd_ne (by decide) h), fun h => h9 (upd_ne (by decide) h), fun h => h10 (upd_ne (by decide) h), fun _ => rfl, fun _ => rfl, fun h => absurd (late13 (upd_ne (by decide) h)) (by rw [hf]; decide), trivial, fun _ => ⟨r1, grown_form2 (n := 0) r1⟩, fun _ h' => (by rw [upd_self] at h'; cases h'), fun _ => upd_of d5, trivial, fun _ => upd_of (dep_of hd (e := ⟨0, .data⟩) (by simp) rfl), fx.below qq, hB.trans (qq.mono hS), Nat.le_trans hS qq.size, kp.trans (KeepsOthers.of_grownBy r2 (fun _ _ e _ => by cases e)), fun h => upd_of (bc5 (upd_ne (by decide) h)), fun h => upd_of (bc10 (upd_ne (by decide) h)), fun _ => upd_self⟩
  · rintro f act W ⟨x5, x6, x7, x8, x9, x10, x11, x12, x13, x14, x15, x16, x17, x18, k, v1, rfl, h0, h1, h2, h3, h4, h5, h6, h7, h8, h9, h10, h11, h12, h13, m0, m1, cl, ib, z5, a0, fx, hB, hS, kp, bc5, bc10, late13⟩ hf hd K_ hK
    have e12 := (h12 (dep_of hd (e := ⟨12, .data⟩) (by simp) rfl)).symm
    subst e12
    go_simp
    refine hK _ _ ?_
    exact ⟨_, x6, x7, x8, x9, x10, x11, x12, x13, x14, x15, x16, x17, _, k, v1, rfl, fun h => h0 (upd_ne (by decide) h), fun h => h1 (upd_ne (by decide) h), fun h => h2 (upd_ne (by decide) h), fun h => h3 (upd_ne (by decide) h), fun h => h4 (upd_ne (by decide) h), fun h => h5 (upd_ne (by decide) h), fun h => h6 (upd_ne (by decide) h), fun h => h7 (upd_ne (by decide) h), fun h => h8 (upd_ne (by decide) h), fun h => h9 (upd_ne (by decide) h), fun h => h10 (upd_ne (by decide) h), fun h => h11 (upd_ne (by decide) h), fun _ => rfl, fun _ => rfl, trivial, fun h => m1 (upd_ne (by decide) h), fun h h' => cl (upd_ne (by decide) h) (by rw [upd_same (by decide)] at h'; exact h'), fun h => upd_of (ib (upd_ne (by decide) h)), trivial, fun h => upd_of (a0 (upd_ne (by decide) h)), fx, hB, hS, kp, fun h => upd_of (bc5 (upd_ne (by decide) h)), fun h => upd_of (bc10 (upd_ne (by decide) h)), fun _ => upd_of (dep_of hd (e := ⟨12, .data⟩) (by simp) rfl)⟩
  rintro f act WZ ⟨x5, x6, x7, x8, x9, x10, x11, x12, x13, x14, x15, x16, x17, x18, k, v1, rfl, h0, h1, h2, h3, h4, h5, h6, h7, h8, h9, h10, h11, h12, h13, m0, m1, cl, ib, z5, a0, fx, hB, hS, kp, bc5, bc10, late13⟩ hall
  have e0 := h0 (hall 0 (by decide))
  subst e0
  have e1 := h1 (hall 1 (by decide))
  subst e1
  have e2 := h2 (hall 2 (by decide))
  subst e2
  have e3 := h3 (hall 3 (by decide))
  subst e3
  have e4 := h4 (hall 4 (by decide))
  subst e4
  have e5 := h5 (hall 5 (by decide))
  subst e5
  have e6 := h6 (hall 6 (by decide))
  subst e6
  have e7 := h7 (hall 7 (by decide))
  subst e7
  have e8 := h8 (hall 8 (by decide))
  subst e8
  have e9 := h9 (hall 9 (by decide))
  subst e9
  have e10 := h10 (hall 10 (by decide))
  subst e10
  have e11 := h11 (hall 11 (by decide))
  subst e11
  obtain ⟨R1, g_, c, ev⟩ := m1 (hall 12 (by decide))
  have e12 := h12 (hall 12 (by decide))
  subst e12
  have e13 := h13 (hall 13 (by decide))
  subst e13
  try dsimp only
  rw [ev] at R1 ⊢
  go_wp2
  go_ret
  exact ⟨_, rfl, R1, ⟨g_, c, by rfl⟩, hB, kp⟩

set_option maxRecDepth 100000 in
set_option maxHeartbeats 8000000 in
theorem bitsTake (w : World) (C n0 : Nat) (n lo up g : Int) (v : Value) (zs : List Int) (hC : Own w C [.int .i64 n]) (hCn : C < n0) (hn0 : n0 ≤ w.heap.size) (wl : (Lit.int .i64 lo).wf = true) (wh : (Lit.int .i64 up).wf = true) (R : w.ownsRow n0 38 1 v zs.length (uvals zs)) (hz : zs.length ≤ 100) :
    Calls Tryd.prog 15 #[v, .agg #[.int .i64 lo, .int .i64 up, .int .u64 g], .pointer (some ⟨C, 0, none⟩)] w (ClOut w n0 (zs ++ [bitsI n lo, bitsI n up])) := by
  obtain ⟨i0, hi, hz0, hz1, hz2⟩ := info_parts infoU64
  have F0 : Facts (w.alloc (.cells #[.int .i64 lo, .int .i64 up, .int .u64 g] 45)) [.own C [.int .i64 n], .own w.heap.size [.int .i64 lo, .int .i64 up, .int .u64 g]] := ((Facts.nil w).pushOwn hC).cells _ _
  have B0 : Below n0 w (w.alloc (.cells #[.int .i64 lo, .int .i64 up, .int .u64 g] 45)) := (Below.refl _ w).alloc hn0 _
  have S0 : n0 ≤ (w.alloc (.cells #[.int .i64 lo, .int .i64 up, .int .u64 g] 45)).heap.size := by simp; omega
  have KP0 : KeepsOthers w (w.alloc (.cells #[.int .i64 lo, .int .i64 up, .int .u64 g] 45)) := KeepsOthers.alloc _ _
  have R0 : (w.alloc (.cells #[.int .i64 lo, .int .i64 up, .int .u64 g] 45)).ownsRow n0 38 1 v zs.length (uvals zs) := ownsRow_below R ((Below.refl _ w).alloc (Nat.le_refl _) _)
  have hfr : ∀ f ∈ ([.own C [.int .i64 n], .own w.heap.size [.int .i64 lo, .int .i64 up, .int .u64 g]] : List Fact), f.free v.ownBlock := by
    intro f hf
    simp only [List.mem_cons, List.not_mem_nil, or_false] at hf
    rcases hf with rfl | rfl
    · intro e; have := ownsRow_lt R C e; omega
    · intro e; have := ownsRow_lt R _ e; omega
  have sb := fun W => implBits W n lo wl
  have sb2 := fun W => implBits W n up wh
  generalize bitsI n lo = z1 at *
  generalize bitsI n up = z2 at *
  clear hC R
  go_enter Tryd.func15, Tryd.ntmps15
  go_wp2
  refine region_steps (by kernel_rfl) (by kernel_rfl) (by kernel_rfl) (fun A0 f act W => ∃ (x5 : Value) (x6 : Value) (x7 : Value) (x8 : Value) (x9 : Value) (x10 : Value) (x11 : Value) (x12 : Value) (x13 : Value) (x14 : Value) (x15 : Value) (x16 : Value) (x17 : Value) (x18 : Value) (k : Nat) (v1 : Value), act = { tmps := #[v, .agg #[.int .i64 lo, .int .i64 up, .int .u64 g], .pointer (some ⟨C, 0, none⟩), undef, .pointer (some ⟨w.heap.size, 0, none⟩), x5, x6, x7, x8, x9, x10, x11, x12, x13, x14, x15, x16, x17, x18], defers := [] } ∧ (f 0 = true → x6 = v) ∧ (f 1 = true → x7 = .int .i64 n) ∧ (f 2 = true → x8 = .pointer (some ⟨w.heap.size, 0, none⟩)) ∧ (f 3 = true → x9 = .pointer (some ⟨w.heap.size, 0, none⟩)) ∧ (f 4 = true → x10 = .int .i64 lo) ∧ (f 5 = true → x11 = .int .u64 z1) ∧ (f 6 = true → x12 = .int .i64 n) ∧ (f 7 = true → x13 = .pointer (some ⟨w.heap.size, 0, none⟩)) ∧ (f 8 = true → x14 = .pointer (some ⟨w.heap.size, 1, none⟩)) ∧ (f 9 = true → x15 = .int .i64 up) ∧ (f 10 = true → x16 = .int .u64 z2) ∧ (f 11 = true → x17 = .slice (some ⟨k, 0, none⟩) 2 2) ∧ (f 12 = true → x18 = v1) ∧ (f 13 = true → x5 = v1) ∧ (f 12 = false → W.ownsRow n0 38 1 v zs.length (uvals zs)) ∧ (f 12 = true → W.ownsRow n0 38 1 v1 (zs.length + 2) ((uvals zs) ++ [.int .u64 z1, .int .u64 z2]) ∧ ∃ g c, v1 = .slice (some ⟨g, 0, none⟩) (zs.length + 2) c) ∧ (f 11 = true → f 12 = false → ∀ j u, ([.int .u64 z1, .int .u64 z2] : List Value)[j]? = some u → W.cell? ((⟨k, 0, none⟩ : Addr).add j) = some u) ∧ (f 12 = true → f 11 = true) ∧ True ∧ (f 12 = true → f 0 = true) ∧ Facts W [.own C [.int .i64 n], .own w.heap.size [.int .i64 lo, .int .i64 up, .int .u64 g]] ∧ Below n0 w W ∧ n0 ≤ W.heap.size ∧ KeepsOthers w W ∧ (f 11 = true → f 5 = true) ∧ (f 11 = true → f 10 = true) ∧ (f 13 = true → f 12 = true)) ?_ ⟨?_, ?_, ?_, ?_, ?_, ?_, ?_, ?_, ?_, ?_, ?_, ?_, ?_, ?_, trivial⟩ ?_
  · exact ⟨.slice none 0 0, undef, undef, undef, undef, undef, undef, undef, undef, undef, undef, undef, undef, undef, 0, undef, rfl, (fun h => (by cases h)), (fun h => (by cases h)), (fun h => (by cases h)), (fun h => (by cases h)), (fun h => (by cases h)), (fun h => (by cases h)), (fun h => (by cases h)), (fun h => (by cases h)), (fun h => (by cases h)), (fun h => (by cases h)), (fun h => (by cases h)), (fun h => (by cases h)), (fun h => (by cases h)), (fun h => (by cases h)), fun _ => R0, (fun h => (by cases h)), (fun h => (by cases h)), (fun h => (by cases h)), trivial, (fun h => (by cases h)), (F0).drew, (B0).drew, S0, KP0.trans (KeepsOthers.drew _), (fun h => (by cases h)), (fun h => (by cases h)), (fun h => (by cases h))⟩
  · rintro f act W ⟨x5, x6, x7, x8, x9, x10, x11, x12, x13, x14, x15, x16, x17, x18, k, v1, rfl, h0, h1, h2, h3, h4, h5, h6, h7, h8, h9, h10, h11, h12, h13, m0, m1, cl, ib, z5, a0, fx, hB, hS, kp, bc5, bc10, late13⟩ hf hd K_ hK
    go_simp
    refine hK _ _ ?_
    exact ⟨x5, _, x7, x8, x9, x10, x11, x12, x13, x14, x15, x16, x17, x18, k, v1, rfl, fun _ => rfl, fun h => h1 (upd_ne (by decide) h), fun h => h2 (upd_ne (by decide) h), fun h => h3 (upd_ne (by decide) h), fun h => h4 (upd_ne (by decide) h), fun h => h5 (upd_ne (by decide) h), fun h => h6 (upd_ne (by decide) h), fun h => h7 (upd_ne (by decide) h), fun h => h8 (upd_ne (by decide) h), fun h => h9 (upd_ne (by decide) h), fun h => h10 (upd_ne (by decide) h), fun h => h11 (upd_ne (by decide) h), fun h => h12 (upd_ne (by decide) h), fun h => h13 (upd_ne (by decide) h), fun h => m0 (by rw [upd_same (by decide)] at h; exact h), fun h => m1 (upd_ne (by decide) h), fun h h' => cl (upd_ne (by decide) h) (by rw [upd_same (by decide)] at h'; exact h'), fun h => upd_of (ib (upd_ne (by decide) h)), trivial, fun _ => upd_self, fx, hB, hS, kp, fun h => upd_of (bc5 (upd_ne (by decide) h)), fun h => upd_of (bc10 (upd_ne (by decide) h)), fun h => upd_of (late13 (upd_ne (by decide) h))⟩
  · rintro f act W ⟨x5, x6, x7, x8, x9, x10, x11, x12, x13, x14, x15, x16, x17, x18, k, v1, rfl, h0, h1, h2, h3, h4, h5, h6, h7, h8, h9, h10, h11, h12, h13, m0, m1, cl, ib, z5, a0, fx, hB, hS, kp, bc5, bc10, late13⟩ hf hd K_ hK
    have y0 := (fx.own 0 rfl).cell 0 _ rfl
    go_simp
    refine hK _ _ ?_
    exact ⟨x5, x6, _, x8, x9, x10, x11, x12, x13, x14, x15, x16, x17, x18, k, v1, rfl, fun h => h0 (upd_ne (by decide) h), fun _ => rfl, fun h => h2 (upd_ne (by decide) h), fun h => h3 (upd_ne (by decide) h), fun h => h4 (upd_ne (by decide) h), fun h => h5 (upd_ne (by decide) h), fun h => h6 (upd_ne (by decide) h), fun h => h7 (upd_ne (by decide) h), fun h => h8 (upd_ne (by decide) h), fun h => h9 (upd_ne (by decide) h), fun h => h10 (upd_ne (by decide) h), fun h => h11 (upd_ne (by decide) h), fun h => h12 (upd_ne (by decide) h), fun h => h13 (upd_ne (by decide) h), fun h => m0 (by rw [upd_same (by decide)] at h; exact h), fun h => m1 (upd_ne (by decide) h), fun h h' => cl (upd_ne (by decide) h) (by rw [upd_same (by decide)] at h'; exact h'), fun h => upd_of (ib (upd_ne (by decide) h)), trivial, fun h => upd_of (a0 (upd_ne (by decide) h)), fx, hB, hS, kp, fun h => upd_of (bc5 (upd_ne (by decide) h)), fun h => upd_of (bc10 (upd_ne (by decide) h)), fun h => upd_of (late13 (upd_ne (by decide) h))⟩
  · rintro f act W ⟨x5, x6, x7, x8, x9, x10, x11, x12, x13, x14, x15, x16, x17, x18, k, v1, rfl, h0, h1, h2, h3, h4, h5, h6, h7, h8, h9, h10, h11, h12, h13, m0, m1, cl, ib, z5, a0, fx, hB, hS, kp, bc5, bc10, late13⟩ hf hd K_ hK
    go_simp
    refine hK _ _ ?_
    exact ⟨x5, x6, x7, _, x9, x10, x11, x12, x13, x14, x15, x16, x17, x18, k, v1, rfl, fun h => h0 (upd_ne (by decide) h), fun h => h1 (upd_ne (by decide) h), fun _ => rfl, fun h => h3 (upd_ne (by decide) h), fun h => h4 (upd_ne (by decide) h), fun h => h5 (upd_ne (by decide) h), fun h => h6 (upd_ne (by decide) h), fun h => h7 (upd_ne (by decide) h), fun h => h8 (upd_ne (by decide) h), fun h => h9 (upd_ne (by decide) h), fun h => h10 (upd_ne (by decide) h), fun h => h11 (upd_ne (by decide) h), fun h => h12 (upd_ne (by decide) h), fun h => h13 (upd_ne (by decide) h), fun h => m0 (by rw [upd_same (by decide)] at h; exact h), fun h => m1 (upd_ne (by decide) h), fun h h' => cl (upd_ne (by decide) h) (by rw [upd_same (by decide)] at h'; exact h'), fun h => upd_of (ib (upd_ne (by decide) h)), trivial, fun h => upd_of (a0 (upd_ne (by decide) h)), fx, hB, hS, kp, fun h => upd_of (bc5 (upd_ne (by decide) h)), fun h => upd_of (bc10 (upd_ne (by decide) h)), fun h => upd_of (late13 (upd_ne (by decide) h))⟩
  · rintro f act W ⟨x5, x6, x7, x8, x9, x10, x11, x12, x13, x14, x15, x16, x17, x18, k, v1, rfl, h0, h1, h2, h3, h4, h5, h6, h7, h8, h9, h10, h11, h12, h13, m0, m1, cl, ib, z5, a0, fx, hB, hS, kp, bc5, bc10, late13⟩ hf hd K_ hK
    have e2 := h2 (dep_of hd (e := ⟨2, .data⟩) (by simp) rfl)
    subst e2
    go_simp
    refine hK _ _ ?_
    exact ⟨x5, x6, x7, _, _, x10, x11, x12, x13, x14, x15, x16, x17, x18, k, v1, rfl, fun h => h0 (upd_ne (by decide) h), fun h => h1 (upd_ne (by decide) h), fun _ => rfl, fun _ => rfl, fun h => h4 (upd_ne (by decide) h), fun h => h5 (upd_ne (by decide) h), fun h => h6 (upd_ne (by decide) h), fun h => h7 (upd_ne (by decide) h), fun h => h8 (upd_ne (by decide) h), fun h => h9 (upd_ne (by decide) h), fun h => h10 (upd_ne (by decide) h), fun h => h11 (upd_ne (by decide) h), fun h => h12 (upd_ne (by decide) h), fun h => h13 (upd_ne (by decide) h), fun h => m0 (by rw [upd_same (by decide)] at h; exact h), fun h => m1 (upd_ne (by decide) h), fun h h' => cl (upd_ne (by decide) h) (by rw [upd_same (by decide)] at h'; exact h'), fun h => upd_of (ib (upd_ne (by decide) h)), trivial, fun h => upd_of (a0 (upd_ne (by decide) h)), fx, hB, hS, kp, fun h => upd_of (bc5 (upd_ne (by decide) h)), fun h => upd_of (bc10 (upd_ne (by decide) h)), fun h => upd_of (late13 (upd_ne (by decide) h))⟩
  · rintro f act W ⟨x5, x6, x7, x8, x9, x10, x11, x12, x13, x14, x15, x16, x17, x18, k, v1, rfl, h0, h1, h2, h3, h4, h5, h6, h7, h8, h9, h10, h11, h12, h13, m0, m1, cl, ib, z5, a0, fx, hB, hS, kp, bc5, bc10, late13⟩ hf hd K_ hK
    have e3 := h3 (dep_of hd (e := ⟨3, .data⟩) (by simp) rfl)
    subst e3
    have y0 := (fx.own 1 rfl).cell 0 _ rfl
    go_simp
    refine hK _ _ ?_
    exact ⟨x5, x6, x7, x8, _, _, x11, x12, x13, x14, x15, x16, x17, x18, k, v1, rfl, fun h => h0 (upd_ne (by decide) h), fun h => h1 (upd_ne (by decide) h), fun h => h2 (upd_ne (by decide) h), fun _ => rfl, fun _ => rfl, fun h => h5 (upd_ne (by decide) h), fun h => h6 (upd_ne (by decide) h), fun h => h7 (upd_ne (by decide) h), fun h => h8 (upd_ne (by decide) h), fun h => h9 (upd_ne (by decide) h), fun h => h10 (upd_ne (by decide) h), fun h => h11 (upd_ne (by decide) h), fun h => h12 (upd_ne (by decide) h), fun h => h13 (upd_ne (by decide) h), fun h => m0 (by rw [upd_same (by decide)] at h; exact h), fun h => m1 (upd_ne (by decide) h), fun h h' => cl (upd_ne (by decide) h) (by rw [upd_same (by decide)] at h'; exact h'), fun h => upd_of (ib (upd_ne (by decide) h)), trivial, fun h => upd_of (a0 (upd_ne (by decide) h)), fx, hB, hS, kp, fun h => upd_of (bc5 (upd_ne (by decide) h)), fun h => upd_of (bc10 (upd_ne (by decide) h)), fun h => upd_of (late13 (upd_ne (by decide) h))⟩
  · rintro f act W ⟨x5, x6, x7, x8, x9, x10, x11, x12, x13, x14, x15, x16, x17, x18, k, v1, rfl, h0, h1, h2, h3, h4, h5, h6, h7, h8, h9, h10, h11, h12, h13, m0, m1, cl, ib, z5, a0, fx, hB, hS, kp, bc5, bc10, late13⟩ hf hd K_ hK
    have e1 := h1 (dep_of hd (e := ⟨1, .data⟩) (by simp) rfl)
    subst e1
    have e4 := h4 (dep_of hd (e := ⟨4, .data⟩) (by simp) rfl)
    subst e4
    go_simp
    refine (sb _).mono ?_
    rintro e W2 ⟨rfl, q⟩
    refine hK _ _ ?_
    exact ⟨x5, x6, _, x8, x9, _, _, x12, x13, x14, x15, x16, x17, x18, k, v1, rfl, fun h => h0 (upd_ne (by decide) h), fun _ => rfl, fun h => h2 (upd_ne (by decide) h), fun h => h3 (upd_ne (by decide) h), fun _ => rfl, fun _ => rfl, fun h => h6 (upd_ne (by decide) h), fun h => h7 (upd_ne (by decide) h), fun h => h8 (upd_ne (by decide) h), fun h => h9 (upd_ne (by decide) h), fun h => h10 (upd_ne (by decide) h), fun h => h11 (upd_ne (by decide) h), fun h => h12 (upd_ne (by decide) h), fun h => h13 (upd_ne (by decide) h), fun h => ownsRow_below (m0 (by rw [upd_same (by decide)] at h; exact h)) q, fun h => absurd (bc5 (ib (upd_ne (by decide) h))) (by rw [hf]; decide), fun h _ => absurd (bc5 (upd_ne (by decide) h)) (by rw [hf]; decide), fun h => upd_of (ib (upd_ne (by decide) h)), trivial, fun h => upd_of (a0 (upd_ne (by decide) h)), fx.below q, hB.trans (q.mono hS), Nat.le_trans hS q.size, kp.trans (KeepsOthers.of_grownBy (grown_of_below q) (fun _ _ e _ => by cases e)), fun _ => upd_self, fun h => upd_of (bc10 (upd_ne (by decide) h)), fun h => upd_of (late13 (upd_ne (by decide) h))⟩
  · rintro f act W ⟨x5, x6, x7, x8, x9, x10, x11, x12, x13, x14, x15, x16, x17, x18, k, v1, rfl, h0, h1, h2, h3, h4, h5, h6, h7, h8, h9, h10, h11, h12, h13, m0, m1, cl, ib, z5, a0, fx, hB, hS, kp, bc5, bc10, late13⟩ hf hd K_ hK
    have y0 := (fx.own 0 rfl).cell 0 _ rfl
    go_simp
    refine hK _ _ ?_
    exact ⟨x5, x6, x7, x8, x9, x10, x11, _, x13, x14, x15, x16, x17, x18, k, v1, rfl, fun h => h0 (upd_ne (by decide) h), fun h => h1 (upd_ne (by decide) h), fun h => h2 (upd_ne (by decide) h), fun h => h3 (upd_ne (by decide) h), fun h => h4 (upd_ne (by decide) h), fun h => h5 (upd_ne (by decide) h), fun _ => rfl, fun h => h7 (upd_ne (by decide) h), fun h => h8 (upd_ne (by decide) h), fun h => h9 (upd_ne (by decide) h), fun h => h10 (upd_ne (by decide) h), fun h => h11 (upd_ne (by decide) h), fun h => h12 (upd_ne (by decide) h), fun h => h13 (upd_ne (by decide) h), fun h => m0 (by rw [upd_same (by decide)] at h; exact h), fun h => m1 (upd_ne (by decide) h), fun h h' => cl (upd_ne (by decide) h) (by rw [upd_same (by decide)] at h'; exact h'), fun h => upd_of (ib (upd_ne (by decide) h)), trivial, fun h => upd_of (a0 (upd_ne (by decide) h)), fx, hB, hS, kp, fun h => upd_of (bc5 (upd_ne (by decide) h)), fun h => upd_of (bc10 (upd_ne (by decide) h)), fun h => upd_of (late13 (upd_ne (by decide) h))⟩
  · rintro f act W ⟨x5, x6, x7, x8, x9, x10, x11, x12, x13, x14, x15, x16, x17, x18, k, v1, rfl, h0, h1, h2, h3, h4, h5, h6, h7, h8, h9, h10, h11, h12, h13, m0, m1, cl, ib, z5, a0, fx, hB, hS, kp, bc5, bc10, late13⟩ hf hd K_ hK
    go_simp
    refine hK _ _ ?_
    exact ⟨x5, x6, x7, x8, x9, x10, x11, x12, _, x14, x15, x16, x17, x18, k, v1, rfl, fun h => h0 (upd_ne (by decide) h), fun h => h1 (upd_ne (by decide) h), fun h => h2 (upd_ne (by decide) h), fun h => h3 (upd_ne (by decide) h), fun h => h4 (upd_ne (by decide) h), fun h => h5 (upd_ne (by decide) h), fun h => h6 (upd_ne (by decide) h), fun _ => rfl, fun h => h8 (upd_ne (by decide) h), fun h => h9 (upd_ne (by decide) h), fun h => h10 (upd_ne (by decide) h), fun h => h11 (upd_ne (by decide) h), fun h => h12 (upd_ne (by decide) h), fun h => h13 (upd_ne (by decide) h), fun h => m0 (by rw [upd_same (by decide)] at h; exact h), fun h => m1 (upd_ne (by decide) h), fun h h' => cl (upd_ne (by decide) h) (by rw [upd_same (by decide)] at h'; exact h'), fun h => upd_of (ib (upd_ne (by decide) h)), trivial, fun h => upd_of (a0 (upd_ne (by decide) h)), fx, hB, hS, kp, fun h => upd_of (bc5 (upd_ne (by decide) h)), fun h => upd_of (bc10 (upd_ne (by decide) h)), fun h => upd_of (late13 (upd_ne (by decide) h))⟩
  · rintro f act W ⟨x5, x6, x7, x8, x9, x10, x11, x12, x13, x14, x15, x16, x17, x18, k, v1, rfl, h0, h1, h2, h3, h4, h5, h6, h7, h8, h9, h10, h11, h12, h13, m0, m1, cl, ib, z5, a0, fx, hB, hS, kp, bc5, bc10, late13⟩ hf hd K_ hK
    have e7 := h7 (dep_of hd (e := ⟨7, .data⟩) (by simp) rfl)
    subst e7
    go_simp
    refine hK _ _ ?_
    exact ⟨x5, x6, x7, x8, x9, x10, x11, x12, _, _, x15, x16, x17, x18, k, v1, rfl, fun h => h0 (upd_ne (by decide) h), fun h => h1 (upd_ne (by decide) h), fun h => h2 (upd_ne (by decide) h), fun h => h3 (upd_ne (by decide) h), fun h => h4 (upd_ne (by decide) h), fun h => h5 (upd_ne (by decide) h), fun h => h6 (upd_ne (by decide) h), fun _ => rfl, fun _ => rfl, fun h => h9 (upd_ne (by decide) h), fun h => h10 (upd_ne (by decide) h), fun h => h11 (upd_ne (by decide) h), fun h => h12 (upd_ne (by decide) h), fun h => h13 (upd_ne (by decide) h), fun h => m0 (by rw [upd_same (by decide)] at h; exact h), fun h => m1 (upd_ne (by decide) h), fun h h' => cl (upd_ne (by decide) h) (by rw [upd_same (by decide)] at h'; exact h'), fun h => upd_of (ib (upd_ne (by decide) h)), trivial, fun h => upd_of (a0 (upd_ne (by decide) h)), fx, hB, hS, kp, fun h => upd_of (bc5 (upd_ne (by decide) h)), fun h => upd_of (bc10 (upd_ne (by decide) h)), fun h => upd_of (late13 (upd_ne (by decide) h))⟩
  · rintro f act W ⟨x5, x6, x7, x8, x9, x10, x11, x12, x13, x14, x15, x16, x17, x18, k, v1, rfl, h0, h1, h2, h3, h4, h5, h6, h7, h8, h9, h10, h11, h12, h13, m0, m1, cl, ib, z5, a0, fx, hB, hS, kp, bc5, bc10, late13⟩ hf hd K_ hK
    have e8 := h8 (dep_of hd (e := ⟨8, .data⟩) (by simp) rfl)
    subst e8
    have y0 := (fx.own 1 rfl).cell 1 _ rfl
    go_simp
    refine hK _ _ ?_
    exact ⟨x5, x6, x7, x8, x9, x10, x11, x12, x13, _, _, x16, x17, x18, k, v1, rfl, fun h => h0 (upd_ne (by decide) h), fun h => h1 (upd_ne (by decide) h), fun h => h2 (upd_ne (by decide) h), fun h => h3 (upd_ne (by decide) h), fun h => h4 (upd_ne (by decide) h), fun h => h5 (upd_ne (by decide) h), fun h => h6 (upd_ne (by decide) h), fun h => h7 (upd_ne (by decide) h), fun _ => rfl, fun _ => rfl, fun h => h10 (upd_ne (by decide) h), fun h => h11 (upd_ne (by decide) h), fun h => h12 (upd_ne (by decide) h), fun h => h13 (upd_ne (by decide) h), fun h => m0 (by rw [upd_same (by decide)] at h; exact h), fun h => m1 (upd_ne (by decide) h), fun h h' => cl (upd_ne (by decide) h) (by rw [upd_same (by decide)] at h'; exact h'), fun h => upd_of (ib (upd_ne (by decide) h)), trivial, fun h => upd_of (a0 (upd_ne (by decide) h)), fx, hB, hS, kp, fun h => upd_of (bc5 (upd_ne (by decide) h)), fun h => upd_of (bc10 (upd_ne (by decide) h)), fun h => upd_of (late13 (upd_ne (by decide) h))⟩
  · rintro f act W ⟨x5, x6, x7, x8, x9, x10, x11, x12, x13, x14, x15, x16, x17, x18, k, v1, rfl, h0, h1, h2, h3, h4, h5, h6, h7, h8, h9, h10, h11, h12, h13, m0, m1, cl, ib, z5, a0, fx, hB, hS, kp, bc5, bc10, late13⟩ hf hd K_ hK
    have e6 := h6 (dep_of hd (e := ⟨6, .data⟩) (by simp) rfl)
    subst e6
    have e9 := h9 (dep_of hd (e := ⟨9, .data⟩) (by simp) rfl)
    subst e9
    go_simp
    refine (sb2 _).mono ?_
    rintro e W2 ⟨rfl, q⟩
    refine hK _ _ ?_
    exact ⟨x5, x6, x7, x8, x9, x10, x11, _, x13, x14, _, _, x17, x18, k, v1, rfl, fun h => h0 (upd_ne (by decide) h), fun h => h1 (upd_ne (by decide) h), fun h => h2 (upd_ne (by decide) h), fun h => h3 (upd_ne (by decide) h), fun h => h4 (upd_ne (by decide) h), fun h => h5 (upd_ne (by decide) h), fun _ => rfl, fun h => h7 (upd_ne (by decide) h), fun h => h8 (upd_ne (by decide) h), fun _ => rfl, fun _ => rfl, fun h => h11 (upd_ne (by decide) h), fun h => h12 (upd_ne (by decide) h), fun h => h13 (upd_ne (by decide) h), fun h => ownsRow_below (m0 (by rw [upd_same (by decide)] at h; exact h)) q, fun h => absurd (bc10 (ib (upd_ne (by decide) h))) (by rw [hf]; decide), fun h _ => absurd (bc10 (upd_ne (by decide) h)) (by rw [hf]; decide), fun h => upd_of (ib (upd_ne (by decide) h)), trivial, fun h => upd_of (a0 (upd_ne (by decide) h)), fx.below q, hB.trans (q.mono hS), Nat.le_trans hS q.size, kp.trans (KeepsOthers.of_grownBy (grown_of_below q) (fun _ _ e _ => by cases e)), fun h => upd_of (bc5 (upd_ne (by decide) h)), fun _ => upd_self, fun h => upd_of (late13 (upd_ne (by decide) h))⟩
  · rintro f act W ⟨x5, x6, x7, x8, x9, x10, x11, x12, x13, x14, x15, x16, x17, x18, k, v1, rfl, h0, h1, h2, h3, h4, h5, h6, h7, h8, h9, h10, h11, h12, h13, m0, m1, cl, ib, z5, a0, fx, hB, hS, kp, bc5, bc10, late13⟩ hf hd K_ hK
    have e5 := h5 (dep_of hd (e := ⟨5, .data⟩) (by simp) rfl)
    subst e5
    have e10 := h10 (dep_of hd (e := ⟨10, .data⟩) (by simp) rfl)
    subst e10
    have f6 : f 12 = false := by cases h : f 12; rfl; exact absurd (ib h) (by rw [hf]; decide)
    have R0 := m0 f6
    go_simp
    refine hK _ _ ?_
    exact ⟨x5, x6, x7, x8, x9, x10, _, x12, x13, x14, x15, _, _, x18, W.heap.size, v1, rfl, fun h => h0 (upd_ne (by decide) h), fun h => h1 (upd_ne (by decide) h), fun h => h2 (upd_ne (by decide) h), fun h => h3 (upd_ne (by decide) h), fun h => h4 (upd_ne (by decide) h), fun _ => rfl, fun h => h6 (upd_ne (by decide) h), fun h => h7 (upd_ne (by decide) h), fun h => h8 (upd_ne (by decide) h), fun h => h9 (upd_ne (by decide) h), fun _ => rfl, fun _ => rfl, fun h => absurd (ib (upd_ne (by decide) h)) (by rw [hf]; decide), fun h => h13 (upd_ne (by decide) h), fun _ => ownsRow_below R0 ((Below.refl _ W).alloc (Nat.le_refl _) _), fun h => absurd (ib (upd_ne (by decide) h)) (by rw [hf]; decide), fun _ _ => cell_two_new W _ _ _, fun _ => upd_self, trivial, fun h => upd_of (a0 (upd_ne (by decide) h)), fx.alloc _, hB.alloc hS _, (by simp; omega), kp.trans (KeepsOthers.alloc _ _), fun _ => upd_of (dep_of hd (e := ⟨5, .data⟩) (by simp) rfl), fun _ => upd_of (dep_of hd (e := ⟨10, .data⟩) (by simp) rfl), fun h => upd_of (late13 (upd_ne (by decide) h))⟩
  · rintro f act W ⟨x5, x6, x7, x8, x9, x10, x11, x12, x13, x14, x15, x16, x17, x18, k, v1, rfl, h0, h1, h2, h3, h4, h5, h6, h7, h8, h9, h10, h11, h12, h13, m0, m1, cl, ib, z5, a0, fx, hB, hS, kp, bc5, bc10, late13⟩ hf hd K_ hK
    have e0 := (h0 (dep_of hd (e := ⟨0, .data⟩) (by simp) rfl)).symm
    subst e0
    have e11 := h11 (dep_of hd (e := ⟨11, .data⟩) (by simp) rfl)
    subst e11
    have d5 := dep_of hd (e := ⟨11, .data⟩) (by simp) rfl
    have R0 := m0 hf
    refine oper_append_own (.tmp 6) (.tmp 17) 28 rfl n0 38 i0 (.int .u64 0) 1 8 Tryd.underlying28 hi hz0 hz1 hz2 rfl (by decide) v _ _ rfl R0 ⟨k, 0, none⟩ 2 2 [_, _] rfl rfl (cl d5 hf) (fun u hu => by simp at hu; rcases hu with rfl | rfl <;> rfl) (by unfold maxLen; omega) (by omega) hS ?_
    intro v2 W2 r1 r2
    obtain ⟨cc, hcc, hkk⟩ := Keep.of_grown r2 R0 hS
    refine hK _ _ ?_
    exact ⟨x5, _, x7, x8, x9, x10, x11, x12, x13, x14, x15, x16, _, _, k, v2, rfl, fun _ => rfl, fun h => h1 (upd_ne (by decide) h), fun h => h2 (upd_ne (by decide) h), fun h => h3 (upd_ne (by decide) h), fun h => h4 (upd_ne (by decide) h), fun h => h5 (upd_ne (by decide) h), fun h => h6 (upd_ne (by decide) h), fun h => h7 (upd_ne (by decide) h), fun h => h8 (upd_ne (by decide) h), fun h => h9 (upd_ne (by decide) h), fun h => h10 (upd_ne (by decide) h), fun _ => rfl, fun _ => rfl, fun h => absurd (late13 (upd_ne (by decide) h)) (by rw [hf]; decide), fun h => (by rw [upd_self] at h; cases h), fun _ => ⟨r1, grown_form2 r1⟩, fun _ h' => (by rw [upd_self] at h'; cases h'), fun _ => upd_of d5, trivial, fun _ => upd_of (dep_of hd (e := ⟨0, .data⟩) (by simp) rfl), (fun f hf' => f.keep (fx f hf') ⟨r2.os, r2.tape, r2.output, r2.size, fun j hj hn => r2.block j hj (fun e => hn e.symm)⟩ (hfr f hf')), hB.trans (hkk.below hcc hS), Nat.le_trans hS hkk.size, kp.trans (KeepsOthers.of_grownBy r2 (ownsRow_cells R0)), fun h => upd_of (bc5 (upd_ne (by decide) h)), fun h => upd_of (bc10 (upd_ne (by decide) h)), fun _ => upd_self⟩
  · rintro f act W ⟨x5, x6, x7, x8, x9, x10, x11, x12, x13, x14, x15, x16, x17, x18, k, v1, rfl, h0, h1, h2, h3, h4, h5, h6, h7, h8, h9, h10, h11, h12, h13, m0, m1, cl, ib, z5, a0, fx, hB, hS, kp, bc5, bc10, late13⟩ hf hd K_ hK
    have e12 := (h12 (dep_of hd (e := ⟨12, .data⟩) (by simp) rfl)).symm
    subst e12
    go_simp
    refine hK _ _ ?_
    exact ⟨_, x6, x7, x8, x9, x10, x11, x12, x13, x14, x15, x16, x17, _, k, v1, rfl, fun h => h0 (upd_ne (by decide) h), fun h => h1 (upd_ne (by decide) h), fun h => h2 (upd_ne (by decide) h), fun h => h3 (upd_ne (by decide) h), fun h => h4 (upd_ne (by decide) h), fun h => h5 (upd_ne (by decide) h), fun h => h6 (upd_ne (by decide) h), fun h => h7 (upd_ne (by decide) h), fun h => h8 (upd_ne (by decide) h), fun h => h9 (upd_ne (by decide) h), fun h => h10 (upd_ne (by decide) h), fun h => h11 (upd_ne (by decide) h), fun _ => rfl, fun _ => rfl, fun h => m0 (by rw [upd_same (by decide)] at h; exact h), fun h => m1 (upd_ne (by decide) h), fun h h' => cl (upd_ne (by decide) h) (by rw [upd_same (by decide)] at h'; exact h'), fun h => upd_of (ib (upd_ne (by decide) h)), trivial, fun h => upd_of (a0 (upd_ne (by decide) h)), fx, hB, hS, kp, fun h => upd_of (bc5 (upd_ne (by decide) h)), fun h => upd_of (bc10 (upd_ne (by decide) h)), fun _ => upd_of (dep_of hd (e := ⟨12, .data⟩) (by simp) rfl)⟩
  rintro f act WZ ⟨x5, x6, x7, x8, x9, x10, x11, x12, x13, x14, x15, x16, x17, x18, k, v1, rfl, h0, h1, h2, h3, h4, h5, h6, h7, h8, h9, h10, h11, h12, h13, m0, m1, cl, ib, z5, a0, fx, hB, hS, kp, bc5, bc10, late13⟩ hall
  have e0 := (h0 (hall 0 (by decide))).symm
  subst e0
  have e1 := h1 (hall 1 (by decide))
  subst e1
  have e2 := h2 (hall 2 (by decide))
  subst e2
  have e3 := h3 (hall 3 (by decide))
  subst e3
  have e4 := h4 (hall 4 (by decide))
  subst e4
  have e5 := h5 (hall 5 (by decide))
  subst e5
  have e6 := h6 (hall 6 (by decide))
  subst e6
  have e7 := h7 (hall 7 (by decide))
  subst e7
  have e8 := h8 (hall 8 (by decide))
  subst e8
  have e9 := h9 (hall 9 (by decide))
  subst e9
  have e10 := h10 (hall 10 (by decide))
  subst e10
  have e11 := h11 (hall 11 (by decide))
  subst e11
  obtain ⟨R1, g_, c, ev⟩ := m1 (hall 12 (by decide))
  have e12 := h12 (hall 12 (by decide))
  subst e12
  have e13 := h13 (hall 13 (by decide))
  subst e13
  try dsimp only
  rw [ev] at R1 ⊢
  go_wp2
  go_ret
  exact ⟨_, rfl, by rw [uvals_snoc, List.length_append]; exact R1, ⟨g_, c, by rw [List.length_append]; rfl⟩, hB, kp⟩

end Go.Proofs.YteohgmmenlinbacDoor
