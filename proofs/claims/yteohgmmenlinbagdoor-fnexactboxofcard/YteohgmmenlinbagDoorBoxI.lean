/- The program's walk over the coordinates of a box: the iterator's contract. -/
import Derived.RangeFuncNested
import Derived.RangeFuncBound
import Derived.RangeFuncCalls
import Derived.RangeFuncLeaves
import Derived.Shelf.Abstract
import Derived.Shelf.RegionOpen
import Derived.WalkKit
import Derived.OwnWalkIn
import Derived.TacticsInMore
import Derived.LoopNIn
import Derived.LoopIn
import Derived.Test.YteohgmmenlinbagDoorSpan
import Derived.Test.YteohgmmenlinbagDoorBoxA
namespace Go.Proofs.YteohgmmenlinbagDoor
open Go.RowKit Go.Shelf
attribute [local go_sem] Oper.semAt_some
set_option linter.unusedVariables false

/-- The first k coordinates of so many. -/
def uptoF (len k : Nat) : List (Fin len) := (List.finRange len).take k
theorem uptoF_succ {len k : Nat} (h : k < len) : uptoF len (k + 1) = uptoF len k ++ [⟨k, h⟩] := by
  simp [uptoF, List.take_add_one, h]
theorem uptoF_length {len k : Nat} (h : k ≤ len) : (uptoF len k).length = k := by simp [uptoF]; omega

abbrev encP (los his : Nat → Int) {len : Nat} (x : Fin len) : Array Value := #[.int .i64 (x.1 : Int), .agg #[.int .i64 (los x.1), .int .i64 (his x.1), .int .u64 (gapI (los x.1) (his x.1))]]

/-- All blocks below n₀ but V are as they were. -/
structure BelowX (V n₀ : Nat) (w w' : World) : Prop where
  os : w'.os = w.os
  tape : w'.tape = w.tape
  output : w'.output = w.output
  size : w.heap.size ≤ w'.heap.size
  block : ∀ k, k < n₀ → k ≠ V → w'.heap[k]? = w.heap[k]?

theorem BelowX.refl (V n₀ : Nat) (w : World) : BelowX V n₀ w w := ⟨rfl, rfl, rfl, Nat.le_refl _, fun _ _ _ => rfl⟩
theorem BelowX.trans {V n₀ : Nat} {a b c : World} (h : BelowX V n₀ a b) (k : BelowX V n₀ b c) : BelowX V n₀ a c :=
  ⟨k.os.trans h.os, k.tape.trans h.tape, k.output.trans h.output, Nat.le_trans h.size k.size, fun i hi hv => (k.block i hi hv).trans (h.block i hi hv)⟩
theorem BelowX.of {V n₀ n : Nat} {a b : World} (h : Below n a b) (hn : n₀ ≤ n) : BelowX V n₀ a b := ⟨h.os, h.tape, h.output, h.size, fun k hk _ => h.block k (by omega)⟩
theorem BelowX.cell {V n₀ : Nat} {w w' : World} (h : BelowX V n₀ w w') {p : Addr} (h1 : p.block < n₀) (h2 : p.block ≠ V) : w'.cell? p = w.cell? p := by
  simp only [World.cell?, h.block p.block h1 h2]
theorem BelowX.setCell {V n₀ i : Nat} {a w : World} (h : BelowX V n₀ a w) (u : Value) : BelowX V n₀ a (w.setCell ⟨V, i, none⟩ u) :=
  h.trans ⟨rfl, rfl, rfl, by simp [World.setCell], fun k hk hv => Below.heap_setCell _ _ _ _ hv⟩
theorem belowX_b {V n₀ : Nat} {w : World} (hn : n₀ ≤ w.heap.size) (W : World) (l : Nat) (o o' : Obj) (hl : w.heap.size ≤ l) (h : W.heap[l]? = some o) (h1 : o.isCells = false) (h2 : o.isWalk = false) : BelowX V n₀ W (W.putObj l o') :=
  .of (belowK_b hn W l o o' hl h h1 h2) (Nat.le_refl _)

/-- The pairs of a box lie so, in a block below n₀ that is not V. -/
def LiesP (V n₀ : Nat) (W : World) (a : Option Addr) (len : Nat) (los his : Nat → Int) : Prop :=
  (∀ j, j < len → (Lit.int .i64 (los j)).wf = true ∧ (Lit.int .i64 (his j)).wf = true) ∧ (len = 0 ∨ ∃ rb ro, a = some ⟨rb, ro, none⟩ ∧ (rb < n₀ ∧ rb ≠ V) ∧ ∀ j, j < len → W.cell? ⟨rb, ro + j * 2, none⟩ = some (.int .i64 (los j)) ∧ W.cell? ⟨rb, ro + j * 2 + 1, none⟩ = some (.int .i64 (his j)))

theorem LiesP.below {V n₀ : Nat} {W W' : World} {a : Option Addr} {len : Nat} {los his : Nat → Int} (h : LiesP V n₀ W a len los his) (q : BelowX V n₀ W W') : LiesP V n₀ W' a len los his := by
  refine ⟨h.1, ?_⟩
  rcases h.2 with h | ⟨rb, ro, ha, hlt, hc⟩
  · exact .inl h
  · exact .inr ⟨rb, ro, ha, hlt, fun j hj => ⟨(q.cell (p := ⟨rb, ro + j * 2, none⟩) hlt.1 hlt.2).trans (hc j hj).1, (q.cell (p := ⟨rb, ro + j * 2 + 1, none⟩) hlt.1 hlt.2).trans (hc j hj).2⟩⟩

theorem LiesP.mono {V n₀ n₁ : Nat} {W : World} {a : Option Addr} {len : Nat} {los his : Nat → Int} (h : LiesP V n₀ W a len los his) (hn : n₀ ≤ n₁) : LiesP V n₁ W a len los his :=
  ⟨h.1, h.2.imp id fun ⟨rb, ro, ha, hlt, hc⟩ => ⟨rb, ro, ha, ⟨by omega, hlt.2⟩, hc⟩⟩

theorem PairsAt.lies {W : World} {a : Option Addr} {ps : List (Int × Int)} (h : PairsAt W a ps) {V n₀ : Nat} (hV : W.heap.size ≤ V) (hn : W.heap.size ≤ n₀) : LiesP V n₀ W a ps.length (fun j => (ps[j]?.getD (0, 0)).1) (fun j => (ps[j]?.getD (0, 0)).2) := by
  refine ⟨fun j hj => ?_, ?_⟩
  · have := h.1 ps[j] (List.getElem_mem hj)
    dsimp only
    rw [List.getElem?_eq_getElem hj]
    exact this
  · rcases h.2 with h | ⟨rb, ro, ha, hlt, hc⟩
    · exact .inl (by rw [h]; rfl)
    · refine .inr ⟨rb, ro, ha, ⟨by omega, by omega⟩, fun j hj => ?_⟩
      dsimp only
      rw [List.getElem?_eq_getElem hj]
      exact hc j ps[j] (List.getElem?_eq_getElem hj)

theorem grown_of_below {W W' : World} (q : Below W.heap.size W W') : W.grownBy W' none := ⟨q.os, q.tape, q.output, q.size, fun k hk _ => q.block k hk⟩
theorem keeps_of_below {B : Nat} {W W' : World} (q : Below W.heap.size W W') : KeepsFrom B W W' := .of_grownBy (grown_of_below q) (fun _ e => by cases e)

set_option maxRecDepth 100000 in
set_option maxHeartbeats 2000000 in
theorem spans1_in (n : Nat) (hn : 1 ≤ n) (l Bn V n₀ len cap : Nat) (a : Option Addr) (los his : Nat → Int) (hl : len ≤ cap) (hm : len ≤ 1048576) (hBn : Bn < n₀ ∧ Bn ≠ V) (J Jx : List (Fin len) → World → Prop)
    (hJ : ∀ s A B, J s A → Below A.heap.size A B → J s B)
    (hY : ∀ pre x W, J pre W → pre.length < len → YieldAt Fence.wide (n - 1) Tryd.prog l (encP los his x) W fun e W' => (e = .returned (.bool true) ∧ J (pre ++ [x]) W' ∧ BelowX V n₀ W W') ∨ (e = .returned (.bool false) ∧ Jx (pre ++ [x]) W'))
    (W : World) (hBs : W.cell? ⟨Bn, 0, none⟩ = some (.slice a len cap)) (hc : LiesP V n₀ W a len los his) (h0 : J [] W) (hn0 : n₀ ≤ W.heap.size) :
    CallsIn Fence.wide n Tryd.prog 48 #[.func (.yield l) #[] #[], .pointer (some ⟨Bn, 0, none⟩)] W fun e W' => (∃ v, e = .returned v) ∧
      ((∃ ys, ys = uptoF len len ∧ J ys W') ∨ (∃ pre, (∃ k, k ≤ len ∧ pre = uptoF len k) ∧ Jx pre W')) := by
  refine callsIn_of_wp Tryd.func48 rfl trivial ?_ rfl
  simp only [Tryd.ntmps48, List.size_toArray, List.length_cons, List.length_nil, Nat.reduceAdd, Nat.reduceSub, Array.replicate_succ, Array.replicate_zero, List.push_toArray, List.append_toArray, List.nil_append, List.cons_append]
  gi_wp2
  gi_loopw [7] (fun i wr => ∃ k : Nat, k ≤ len ∧ i = .int .i64 k ∧ J (uptoF len k) wr ∧ BelowX V n₀ W wr)
    (fun i _ => len - (intOf i).toNat)
  case atStart => exact ⟨0, Nat.zero_le _, rfl, h0, BelowX.refl _ _ _⟩
  case round =>
    obtain ⟨k, hk, rfl, hJs, hnx⟩ := hrel
    by_cases hlt : k < len
    · have hcx := (hc.below hnx)
      have hw := hcx.1 k hlt
      obtain ⟨rb, ro, rfl, hrb, hcs⟩ := hcx.2.resolve_left (by omega)
      have hBx := (hnx.cell (p := ⟨Bn, 0, none⟩) hBn.1 hBn.2).trans hBs
      have c0 := (hcs k hlt).1
      have c1 := (hcs k hlt).2
      clear hcs hcx hc hBs
      obtain ⟨lo, hlo⟩ : ∃ lo, los k = lo := ⟨_, rfl⟩
      obtain ⟨hi, hhi⟩ : ∃ hi, his k = hi := ⟨_, rfl⟩
      rw [hlo] at c0 hw
      rw [hhi] at c1 hw
      have hil : (k : Int) < len := by omega
      gi_wp2_with (refine ⟨trivial, ?_⟩; gi_at_call 49; refine (callsIn_wide.2 (spanOf _ lo hi hw.1 hw.2)).mono ?_; rintro e w2 ⟨rfl, q⟩; have hJ2 := hJ _ _ _ hJs q; obtain ⟨fn, tmps, assign, body, hy, hR⟩ := hY _ ⟨k, hlt⟩ w2 hJ2 (by rw [uptoF_length hk]; exact hlt); dsimp only [encP] at hy; rw [hlo, hhi] at hy)
      refine hR.mono ?_
      rintro e W3 (⟨rfl, hJ3, hk3⟩ | ⟨rfl, hJx3⟩)
      · gi_wp2
        go_roundw
        case rel => exact ⟨k + 1, by omega, by go_num, by rw [uptoF_succ hlt]; exact hJ3, hnx.trans ((BelowX.of q (Nat.le_trans hn0 hnx.size)).trans hk3)⟩
        case measure => simp [intOf]; omega
      · gi_wp2
        refine bodyPost_ret (results_none rfl _ _ _) rfl ?_
        exact ⟨⟨_, rfl⟩, .inr ⟨_, ⟨k + 1, by omega, (uptoF_succ hlt).symm⟩, hJx3⟩⟩
    · obtain rfl : k = len := by omega
      gi_wp2
      go_end0
      exact ⟨⟨_, rfl⟩, .inl ⟨_, rfl, hJs⟩⟩

theorem spans_stops (n : Nat) (hn : 1 ≤ n) (Bn V n₀ len cap : Nat) (a : Option Addr) (los his : Nat → Int) (hl : len ≤ cap) (hm : len ≤ 1048576) (w : World) (hBn : Bn < n₀ ∧ Bn ≠ V) (hn0 : n₀ ≤ w.heap.size) (hBs : w.cell? ⟨Bn, 0, none⟩ = some (.slice a len cap)) (hc : LiesP V n₀ w a len los his) :
    SeqStopsK Fence.wide n Tryd.prog 48 #[.pointer (some ⟨Bn, 0, none⟩)] (encP los his (len := len)) (BelowX V n₀) (fun ys => ys = uptoF len len) (fun pre => ∃ k, k ≤ len ∧ pre = uptoF len k) len w :=
  fun l J Jx W hW hJ _ hY h0 => spans1_in n hn l Bn V n₀ len cap a los his hl hm hBn J Jx (fun s A B hA q => hJ s A B none hA (grown_of_below q) (fun _ e => by cases e)) hY W
    ((hW.cell (p := ⟨Bn, 0, none⟩) (Nat.lt_of_lt_of_le hBn.1 hn0)).trans hBs) (hc.below (BelowX.of hW hn0)) h0 (Nat.le_trans hn0 hW.size)

theorem spans_in (n : Nat) (a : Option Addr) (len cap : Nat) (w : World) :
    CallsIn Fence.wide n Tryd.prog 43 #[.agg #[.slice a len cap]] w fun e w' => e = .returned (.func (.func 48) #[] #[.pointer (some ⟨w.heap.size, 0, none⟩)]) ∧ w' = w.alloc (.cells #[.slice a len cap] 25) := by
  refine callsIn_of_wp Tryd.func43 rfl trivial ?_ rfl
  simp only [Tryd.ntmps43, List.size_toArray, List.length_cons, List.length_nil, Nat.reduceAdd, Nat.reduceSub, Array.replicate_succ, Array.replicate_zero, List.push_toArray, List.append_toArray, List.nil_append, List.cons_append]
  gi_wp2
  go_ret
  exact ⟨rfl, rfl⟩

end Go.Proofs.YteohgmmenlinbagDoor
