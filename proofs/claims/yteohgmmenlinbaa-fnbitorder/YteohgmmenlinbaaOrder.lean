/- FnBitOrder's walk: it returns true, whatever bytes come in. -/
import Derived.Test.YteohgmmenlinbaaImplP
import Derived.Test.YteohgmmenlinbaaSpecP
import Derived.Test.YteohgmmenlinbaaLess
import Derived.Test.YteohgmmenlinbaaDrawJ
namespace Go.Proofs.Yteohgmmenlinbaa
open Go.ChangeShapes Go.WideShapes Go.ChangeAt Go.RowKit
set_option linter.unusedVariables false

theorem drawPart (w : World) (a : Option Addr) (len cap : Nat) (hc : Code8 w a len) (hl : len ≤ cap) (hm : len ≤ 1048576) :
    Calls Try.prog 18 #[.slice a len cap] w (WOrdOut w) := by
  have ho := widthOrd w a len cap hc hl hm
  go_enter Try.func18, Try.ntmps18
  go_wp2_with (go_at_call 56; go_must (refine ho.mono ?_); clear ho hc; rintro e w1 ⟨x, y, rfl, x0, x1, wy, hb⟩)
  go_ret2
  exact ⟨x, y, rfl, x0, x1, wy, hb⟩

theorem Code8.below {w w' : World} {a : Option Addr} {len : Nat} (h : Code8 w a len) (q : Below w.heap.size w w') : Code8 w' a len := by
  rcases h with h | ⟨rb, ro, ha, hlt, hcell⟩
  · exact .inl h
  · refine .inr ⟨rb, ro, ha, Nat.lt_of_lt_of_le hlt q.size, fun j hj => ?_⟩
    obtain ⟨z, z0, z1, hz⟩ := hcell j hj
    exact ⟨z, z0, z1, (q.cell (p := ⟨rb, ro + j, none⟩) hlt).trans hz⟩

theorem walkOrder (w : World) (a : Option Addr) (len cap : Nat) (hc : len ≤ 1048576 → Code8 w a len) (hl : len ≤ cap) (hm : len ≤ maxLen)
    (a2 : Option Addr) (len2 cap2 : Nat) (hc2 : len2 ≤ 1048576 → Code8 w a2 len2) (hl2 : len2 ≤ cap2) (hm2 : len2 ≤ maxLen) :
    Calls Try.prog 4 #[.slice a len cap, .slice a2 len2 cap2] w fun e w' => e = .returned (.bool true) ∧ Below w.heap.size w w' := by
  unfold maxLen at hm hm2
  by_cases hbig : 1048576 < len
  · have hbig' : 1048576 < (len : Int) := by omega
    go_enter Try.func4, Try.ntmps4
    go_wp2
    go_ret
    exact ⟨rfl, Below.refl _ _⟩
  by_cases hbig2 : 1048576 < len2
  · have hbig' : 1048576 < (len2 : Int) := by omega
    have hb3 : ¬ 1048576 < (len : Int) := by omega
    go_enter Try.func4, Try.ntmps4
    go_wp2
    go_ret
    exact ⟨rfl, Below.refl _ _⟩
  have ho := drawPart w a len cap (hc (by omega)) hl (by omega)
  have hC2 := hc2 (by omega)
  have hd2 := fun W q => drawPart W a2 len2 cap2 (Code8.below hC2 q) hl2 (by omega)
  have hb3 : ¬ 1048576 < (len : Int) := by omega
  have hb4 : ¬ 1048576 < (len2 : Int) := by omega
  clear hc hm hc2 hm2 hC2
  go_enter Try.func4, Try.ntmps4
  go_wp2_with first
    | (go_at_call 18; refine ho.mono ?_; clear ho; rintro e w1 ⟨n, x, rfl, n0, n1, wx, hb⟩)
    | (go_at_call 18; refine (hd2 _ hb).mono ?_; clear hd2; rintro e w2 ⟨n2, y, rfl, n3, n4, wy, hb2⟩; replace hb := hb.trans (hb2.mono hb.size); clear hb2 n3 n4)
  have h1 := fun W => implPart W n x wx
  have h2 := fun W => implPart W n y wy
  have h3 := fun W => specPart W n x wx
  have hB : Hid (Below w.heap.size w w2) := hb
  clear hb
  by_cases fx : finI n x = true
  · rw [if_pos fx, fx] at h1 h3
    obtain ⟨F, L, ex, L0, hF, hL, s1, p1⟩ := part_parts fx
    by_cases fy : finI n y = true
    · rw [if_pos fy, fy] at h2
      obtain ⟨F', L', ey, _, rfl, rfl, s2, p2⟩ := part_parts fy
      subst hF hL
      have hlt := less_part (F := fracI n) (L := leastI n) (by omega) x y
      have hp := fun W => pbLess W (decide (x < 0)) (decide (y < 0)) (magN (fracI n) x.natAbs) (magN (fracI n) y.natAbs) (leastI n + (expN (fracI n) x.natAbs : Nat)) (leastI n + (expN (fracI n) y.natAbs : Nat)) s1 s2 (by omega) (by omega) (by omega) (by omega)
      rw [hlt] at hp
      rw [ex] at h1 h3
      rw [ey] at h2
      clear hlt ex ey s1 s2 p1 p2 L0 fx fy
      generalize (magN (fracI n) x.natAbs : Nat) = sx at *
      generalize (magN (fracI n) y.natAbs : Nat) = sy at *
      generalize leastI n + (expN (fracI n) x.natAbs : Nat) = px at *
      generalize leastI n + (expN (fracI n) y.natAbs : Nat) = py at *
      generalize decide (x < 0) = bx at *
      generalize decide (y < 0) = by' at *
      go_wp2_with first
        | (go_at_call 19; refine (h1 _).mono ?_; clear h1; rintro e w3 ⟨rfl, q⟩; replace hB : Hid (Below w.heap.size w w3) := hB.out.trans (q.mono hB.out.size); clear q)
        | (go_at_call 19; refine (h2 _).mono ?_; clear h2; rintro e w4 ⟨rfl, q⟩; have o3 := (Own.new w3 _ _).below q; have hs3 := hB.out.size; replace hB : Hid (Below w.heap.size w w4) := (hB.out.alloc hB.out.size _).trans (q.mono (by simp; omega)); clear q)
        | (go_at_call 20; refine (h3 _).mono ?_; clear h3; rintro e w5 ⟨rfl, q⟩; have o4 := (Own.new w4 _ _).below q; replace o3 := (o3.alloc _).below q; have hs4 := hB.out.size; replace hB : Hid (Below w.heap.size w w5) := (hB.out.alloc hB.out.size _).trans (q.mono (by simp; omega)); clear q; have c0 := (o3.alloc (.cells #[.bool bx, .int .u64 sx, .int .i64 px] 42)).cell 0 _ rfl; have c1 := (o3.alloc (.cells #[.bool bx, .int .u64 sx, .int .i64 px] 42)).cell 1 _ rfl; have c2 := (o3.alloc (.cells #[.bool bx, .int .u64 sx, .int .i64 px] 42)).cell 2 _ rfl; have d0 := (o4.alloc (.cells #[.bool bx, .int .u64 sx, .int .i64 px] 42)).cell 0 _ rfl; have d1 := (o4.alloc (.cells #[.bool bx, .int .u64 sx, .int .i64 px] 42)).cell 1 _ rfl; have d2 := (o4.alloc (.cells #[.bool bx, .int .u64 sx, .int .i64 px] 42)).cell 2 _ rfl)
        | (go_at_call 21; refine (hp _).mono ?_; clear hp; rintro e w6 ⟨rfl, q⟩; have hs5 := hB.out.size; replace hB : Hid (Below w.heap.size w w6) := (hB.out.alloc hB.out.size _).trans (q.mono (by simp; omega)); clear q)
      go_ret
      exact ⟨rfl, hB.out⟩
    · rw [if_neg fy] at h2
      rw [Bool.not_eq_true] at fy
      rw [fy] at h2
      rw [ex] at h1 h3
      unfold noPart at h2
      clear ex s1 p1 L0 hF hL fx fy
      generalize (magN F x.natAbs : Nat) = sx at *
      generalize L + (expN F x.natAbs : Nat) = px at *
      generalize decide (x < 0) = bx at *
      go_wp2_with first
        | (go_at_call 19; refine (h1 _).mono ?_; clear h1; rintro e w3 ⟨rfl, q⟩; replace hB : Hid (Below w.heap.size w w3) := hB.out.trans (q.mono hB.out.size); clear q)
        | (go_at_call 19; refine (h2 _).mono ?_; clear h2; rintro e w4 ⟨rfl, q⟩; have o3 := (Own.new w3 _ _).below q; have hs3 := hB.out.size; replace hB : Hid (Below w.heap.size w w4) := (hB.out.alloc hB.out.size _).trans (q.mono (by simp; omega)); clear q)
        | (go_at_call 20; refine (h3 _).mono ?_; clear h3; rintro e w5 ⟨rfl, q⟩; have o4 := (Own.new w4 _ _).below q; replace o3 := (o3.alloc _).below q; have hs4 := hB.out.size; replace hB : Hid (Below w.heap.size w w5) := (hB.out.alloc hB.out.size _).trans (q.mono (by simp; omega)); clear q; have c0 := (o3.alloc (.cells #[.bool bx, .int .u64 sx, .int .i64 px] 42)).cell 0 _ rfl; have c1 := (o3.alloc (.cells #[.bool bx, .int .u64 sx, .int .i64 px] 42)).cell 1 _ rfl; have c2 := (o3.alloc (.cells #[.bool bx, .int .u64 sx, .int .i64 px] 42)).cell 2 _ rfl; have d0 := (o4.alloc (.cells #[.bool bx, .int .u64 sx, .int .i64 px] 42)).cell 0 _ rfl; have d1 := (o4.alloc (.cells #[.bool bx, .int .u64 sx, .int .i64 px] 42)).cell 1 _ rfl; have d2 := (o4.alloc (.cells #[.bool bx, .int .u64 sx, .int .i64 px] 42)).cell 2 _ rfl)
      go_ret
      exact ⟨rfl, hB.out.alloc hB.out.size _⟩
  · rw [if_neg fx] at h1 h3
    rw [Bool.not_eq_true] at fx
    rw [fx] at h1 h3
    generalize hv : (if finI n y = true then partV n y else noPart) = v at h2
    have hv2 : ∃ b s p, v = .agg #[.bool b, .int .u64 s, .int .i64 p] := by subst hv; split <;> exact ⟨_, _, _, rfl⟩
    obtain ⟨b2, s2, p2, rfl⟩ := hv2
    generalize finI n y = ky at *
    clear hv fx
    unfold noPart at h1 h3
    go_wp2_with first
      | (go_at_call 19; refine (h1 _).mono ?_; clear h1; rintro e w3 ⟨rfl, q⟩; replace hB : Hid (Below w.heap.size w w3) := hB.out.trans (q.mono hB.out.size); clear q)
      | (go_at_call 19; refine (h2 _).mono ?_; clear h2; rintro e w4 ⟨rfl, q⟩; have o3 := (Own.new w3 _ _).below q; have hs3 := hB.out.size; replace hB : Hid (Below w.heap.size w w4) := (hB.out.alloc hB.out.size _).trans (q.mono (by simp; omega)); clear q)
      | (go_at_call 20; refine (h3 _).mono ?_; clear h3; rintro e w5 ⟨rfl, q⟩; have o4 := (Own.new w4 _ _).below q; replace o3 := (o3.alloc _).below q; have hs4 := hB.out.size; replace hB : Hid (Below w.heap.size w w5) := (hB.out.alloc hB.out.size _).trans (q.mono (by simp; omega)); clear q; have c0 := (o3.alloc (.cells #[.bool false, .int .u64 0, .int .i64 0] 42)).cell 0 _ rfl; have c1 := (o3.alloc (.cells #[.bool false, .int .u64 0, .int .i64 0] 42)).cell 1 _ rfl; have c2 := (o3.alloc (.cells #[.bool false, .int .u64 0, .int .i64 0] 42)).cell 2 _ rfl; have d0 := (o4.alloc (.cells #[.bool false, .int .u64 0, .int .i64 0] 42)).cell 0 _ rfl; have d1 := (o4.alloc (.cells #[.bool false, .int .u64 0, .int .i64 0] 42)).cell 1 _ rfl; have d2 := (o4.alloc (.cells #[.bool false, .int .u64 0, .int .i64 0] 42)).cell 2 _ rfl)
    go_ret
    exact ⟨rfl, hB.out.alloc hB.out.size _⟩

end Go.Proofs.Yteohgmmenlinbaa
