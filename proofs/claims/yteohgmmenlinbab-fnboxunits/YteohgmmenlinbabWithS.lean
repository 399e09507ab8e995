/- The model's l4With: its contract. -/
import Derived.Test.YteohgmmenlinbabWith
import Derived.Deep.RegionLaw
namespace Go.Proofs.Yteohgmmenlinbab
open Go.ChangeShapes Go.WideShapes Go.ChangeAt Go.RowKit
set_option linter.unusedVariables false

/-- append onto a row of the call's own, as one step of a region that draws. -/
theorem step_append_own {P : Program} {ops : Array Oper} {o : Oper} {a : Act} {w : World} {K : Act → World → Prop} {Q : Exit → Act → World → Prop} {E : Prop}
    (hg : o.guard = none) (s x : Operand) (t : TypeId) (hop : o.op = Op.call { callee := Callee.builtin Builtin.append, args := #[s, x], argTypes := #[t, t] })
    (base : Nat) (e : TypeId) (i : TypeInfo) (z : Value) (size bytes : Nat) (h1 : P.underlying t = some (.slice e)) (h2 : P.info? e = some i) (h3 : i.zero = some z) (h4 : i.size = size) (h5 : i.bytes = bytes) (h6 : z.cells.size = size) (h7 : 0 < size)
    (v : Value) (n : Nat) (xs : List Value) (hs : a.eval s = v) (hown : w.ownsRow base e size v n xs)
    (ad : Addr) (m c : Nat) (news : List Value) (hx : a.eval x = .slice (some ad) m c) (hn : news.length = m * size) (hc : ∀ j u, news[j]? = some u → w.cell? (ad.add j) = some u) (h1c : ∀ u ∈ news, u.oneCell' = true)
    (b1 : n + m ≤ maxLen) (b2 : (n + m) * bytes ≤ 140737488355328) (hbase : base ≤ w.heap.size)
    (hK : ∀ v' w', w'.ownsRow base e size v' (n + m) (xs ++ news) → w.grownBy w' v.ownBlock → K (a.put o.dst v') w') :
    if Region.wanted o (yielded ops a.tmps) = true then Oper.wp P o a w K Q else E := by
  have hw : Region.wanted o (yielded ops a.tmps) = true := by simp [Region.wanted, hg]
  rw [if_pos hw]
  obtain ⟨v', w', hrun, r1, r2, _⟩ := run_append_own (P := P) w base t o.type e i z size bytes h1 h2 h3 h4 h5 h6 h7 v n xs hown ad m c news hn hc h1c b1 b2 hbase
  unfold Oper.wp
  simp [execOp, hop, resolve, invoke, builtin, hs, hx, hrun, Result.andThen]
  exact hK v' w' r1 r2

theorem App.drew {l : List Fact} {R K : Nat} {out : List (Int × Int)} {v : Value} {W : World} (h : App l R K out v W) : App l R K out v W.drew := h.below ((Below.refl _ _).drew)

theorem take_set {ps : List (Int × Int)} {i : Nat} (h : i < ps.length) : ps.take (i + 1) = ps.take i ++ [((at2 ps i).1, (at2 ps i).2)] := by
  rw [List.take_add_one, at2_get h]
  rfl

set_option maxRecDepth 100000 in
set_option maxHeartbeats 2000000 in
theorem l4With (w : World) (rb ro : Nat) (ps : List (Int × Int)) (cap k : Nat) (x y : Int) (wx : (Lit.int .i64 x).wf = true) (wy : (Lit.int .i64 y).wf = true) (h : PairsAt w (some ⟨rb, ro, none⟩) ps) (hk : k < ps.length) (hl : ps.length ≤ cap) (hm : ps.length ≤ 1048576) :
    Calls Try.prog 62 #[.agg #[.slice (some ⟨rb, ro, none⟩) ps.length cap], .int .i64 (k : Int), .agg #[.int .i64 x, .int .i64 y]] w (BoxNewC w (ps.set k (x, y))) := by
  have q0 : Below w.heap.size w (((w.alloc (.cells #[.slice (some ⟨rb, ro, none⟩) ps.length cap] 41)).alloc (.cells #[.int .i64 x, .int .i64 y] 24)).alloc (.cells #[.slice none 0 0] 41)) := (((Below.refl _ w).alloc (Nat.le_refl _) _).alloc (by simp) _).alloc (by simp; omega) _
  have oB := ((Own.new w #[.slice (some ⟨rb, ro, none⟩) ps.length cap] 41).alloc (.cells #[.int .i64 x, .int .i64 y] 24)).alloc (.cells #[.slice none 0 0] 41)
  have oP := ((Own.new (w.alloc (.cells #[.slice (some ⟨rb, ro, none⟩) ps.length cap] 41)) #[.int .i64 x, .int .i64 y] 24)).alloc (.cells #[.slice none 0 0] 41)
  have oR := Own.new ((w.alloc (.cells #[.slice (some ⟨rb, ro, none⟩) ps.length cap] 41)).alloc (.cells #[.int .i64 x, .int .i64 y] 24)) #[.slice none 0 0] 41
  simp only [World.size_alloc] at oP oR
  obtain ⟨len, hlen⟩ : ∃ len, ps.length = len := ⟨_, rfl⟩
  rw [hlen] at q0 oB oP oR hk hl hm ⊢
  have F0 : Facts _ [.bel w, .own w.heap.size [.slice (some ⟨rb, ro, none⟩) len cap], .own (w.heap.size + 1) [.int .i64 x, .int .i64 y], .args w.heap.size (some ⟨rb, ro, none⟩) ps] :=
    ((((Facts.nil _).push (f := .bel w) q0).push (f := .own _ _) oB).push (f := .own _ _) oP).push (f := .args _ _ _) (Fact.below (.args w.heap.size (some ⟨rb, ro, none⟩) ps) (args_of h rfl) q0)
  have A0 : Hid (App [.bel w, .own w.heap.size [.slice (some ⟨rb, ro, none⟩) len cap], .own (w.heap.size + 1) [.int .i64 x, .int .i64 y], .args w.heap.size (some ⟨rb, ro, none⟩) ps] (w.heap.size + 2) (w.heap.size + 3) [] (.slice none 0 0) ((((w.alloc (.cells #[.slice (some ⟨rb, ro, none⟩) len cap] 41)).alloc (.cells #[.int .i64 x, .int .i64 y] 24)).alloc (.cells #[.slice none 0 0] 41)).alloc (.cells #[.slice none 0 0] 41))) := by
    have := App.start F0 (fun f hf c hc => by
      simp only [World.size_alloc] at hc
      simp only [List.mem_cons, List.not_mem_nil, or_false] at hf
      rcases hf with rfl | rfl | rfl | rfl
      · intro G hG; have := Option.some.inj hG; omega
      · intro hG; have := Option.some.inj hG; omega
      · intro hG; have := Option.some.inj hG; omega
      · intro G hG; have := Option.some.inj hG; omega) oR
    simp only [World.size_alloc] at this
    exact this
  have hset : (ps.set k (x, y)).length = len := by rw [List.length_set]; exact hlen
  have hgw : ∀ i, i < len → (Lit.int .i64 (at2 (ps.set k (x, y)) i).1).wf = true ∧ (Lit.int .i64 (at2 (ps.set k (x, y)) i).2).wf = true := fun i hi => by
    rcases at2_set (x := x) (y := y) (by rw [hlen]; exact hk) _ (List.mem_of_getElem? (at2_get (ps := ps.set k (x, y)) (i := i) (by omega))) with e | e
    · exact h.1 _ e
    · rw [e]; exact ⟨wx, wy⟩
  have hsk : at2 (ps.set k (x, y)) k = (x, y) := at2_of (by rw [List.getElem?_set_self (by omega)])
  have hso : ∀ i, i < len → i ≠ k → at2 (ps.set k (x, y)) i = at2 ps i := fun i hi hne => by unfold at2; rw [List.getElem?_set_ne (Ne.symm hne)]
  have tkH : Hid (∀ i, i < len → (ps.set k (x, y)).take (i + 1) = (ps.set k (x, y)).take i ++ [((at2 (ps.set k (x, y)) i).1, (at2 (ps.set k (x, y)) i).2)]) := fun i hi => take_set (by omega)
  have H : Hid ((ps.set k (x, y)).length = len ∧ (∀ i, i < len → (Lit.int .i64 (at2 (ps.set k (x, y)) i).1).wf = true ∧ (Lit.int .i64 (at2 (ps.set k (x, y)) i).2).wf = true) ∧ at2 (ps.set k (x, y)) k = (x, y) ∧ ∀ i, i < len → i ≠ k → at2 (ps.set k (x, y)) i = at2 ps i) := ⟨hset, hgw, hsk, hso⟩
  clear hset hgw hsk hso F0 oB oP oR q0 h
  generalize ps.set k (x, y) = L at *
  have hlH : Hid (ps.length = len) := hlen
  clear hlen
  obtain ⟨i0, hi, hz0, hz1, hz2⟩ := info_parts infoPair
  go_enter Try.func62, Try.ntmps62
  go_wp2
  go_loopg [8] len (fun gq iv wr => ∃ (i : Nat) (v : Value), i + gq = len ∧ iv = .int .i64 i ∧ Hid (App [.bel w, .own w.heap.size [.slice (some ⟨rb, ro, none⟩) len cap], .own (w.heap.size + 1) [.int .i64 x, .int .i64 y], .args w.heap.size (some ⟨rb, ro, none⟩) ps] (w.heap.size + 2) (w.heap.size + 3) (L.take i) v wr))
  case atStart => exact ⟨0, _, by omega, rfl, A0⟩
  case round =>
    clear A0
    obtain ⟨i, v, hi', rfl, A⟩ := hrel
    have b0 := (A.out.facts.own 1 rfl).cell 0 _ rfl
    by_cases hlast : i < len
    · have hil : (i : Int) < len := by omega
      have hlt2 : (L.take i).length = i := by rw [List.length_take, H.out.1]; omega
      have e0 := A.out.box.cell 0 v rfl
      by_cases hik : i = k
      · subst hik
        have p0 := (A.out.facts.own 2 rfl).cell 0 _ rfl
        have p1 := (A.out.facts.own 2 rfl).cell 1 _ rfl
        have hnx : Hid (L.take (i + 1) = L.take i ++ [(x, y)]) := by show L.take (i + 1) = _; rw [tkH.out i hlast, H.out.2.2.1]
        have A6 : Hid _ := App.below A.out ((Below.refl _ _).alloc (Nat.le_refl _) (.cells #[.int .i64 x, .int .i64 y] 24))
        generalize L.take i = out at *
        go_wp2_with first
          | (at_builtin; (refine wpList_append_own _ rfl _ _ 39 rfl (w.heap.size + 3 + 1) 24 i0 (.agg #[.int .i64 0, .int .i64 0]) 2 16 Try.underlying39 hi hz0 hz1 hz2 rfl (by decide) _ _ _ rfl A6.out.row ⟨_, 0, none⟩ 1 1 [_, _] rfl rfl (cell_two_at (by first | rfl | simp)) (fun u hu => by simp at hu; rcases hu with rfl | rfl <;> rfl) (by rw [hlt2]; unfold maxLen; omega) (by rw [hlt2]; omega) (by have := A6.out.box.lt; omega) ?_); intro v' w7 hown' hgrow hnil
             have o7 := A6.out.boxKeep hgrow
             have g0 := o7.cell 0 v rfl
             have g1 := o7.frz 0 v rfl
             have FA : Hid _ := App.append A6.out hgrow hown' ⟨wx, wy⟩
             have hex : ∃ g cap, v' = .slice (some ⟨g, 0, none⟩) (out.length + 1) cap := (by rcases hown'.2 with ⟨_, q⟩ | ⟨g, cap, _, q, _⟩ <;> first | omega | exact ⟨_, _, q⟩)
             obtain ⟨g7, cap7, hv7⟩ := hex
             rw [hv7]
             rw [hv7] at FA
             clear hown' hgrow hnil A6 o7)
        go_roundg (len - (i + 1))
        case measure => omega
        case rel => exact ⟨i + 1, _, by omega, by go_num, by rw [hnx.out]; have f := FA.out; rw [hlt2] at f; exact f⟩
      · have hik' : ¬ (i : Int) = k := by omega
        have hA := A.out.facts.args 3 rfl
        obtain ⟨sb, so, hb, hlt', c0, c1⟩ := hA.atD (i := i) (by rw [hlH.out]; exact hlast)
        injection hb with hb
        injection hb with e1 e2
        subst e1 e2
        have hgw := H.out.2.1 i hlast
        have hnx : Hid (L.take (i + 1) = L.take i ++ [((at2 ps i).1, (at2 ps i).2)]) := by show L.take (i + 1) = _; rw [tkH.out i hlast, H.out.2.2.2 i hlast hik]
        rw [H.out.2.2.2 i hlast hik] at hgw
        generalize (at2 ps i).1 = u at *
        generalize (at2 ps i).2 = z at *
        generalize L.take i = out at *
        clear hA
        have A6 : Hid (App _ _ _ out v ((wr.drew).alloc (.cells #[.int .i64 u, .int .i64 z] 24))) := App.below A.out.drew ((Below.refl _ _).alloc (Nat.le_refl _) (.cells #[.int .i64 u, .int .i64 z] 24))
        have e3 := A6.out.box.cell 0 v rfl
        have e4 := A.out.box.lt
        go_wp2
        go_region_law (refine step_append_own rfl (.tmp 26) (.tmp 32) 39 rfl (w.heap.size + 3 + 1) 24 i0 (.agg #[.int .i64 0, .int .i64 0]) 2 16 Try.underlying39 hi hz0 hz1 hz2 rfl (by decide) v _ _ (by simp [Act.eval]) A6.out.row ⟨_, 0, none⟩ 1 1 [_, _] (by simp [Act.eval]; rfl) rfl (cell_two_at (by first | rfl | simp)) (fun u hu => by simp at hu; rcases hu with rfl | rfl <;> rfl) (by rw [hlt2]; unfold maxLen; omega) (by rw [hlt2]; omega) A6.out.box.lt ?_; intro v' w7 hown' hgrow; have o7 := A6.out.boxKeep hgrow; have g0 := o7.cell 0 v rfl; have g1 := o7.frz 0 v rfl; have FA : Hid _ := App.append A6.out hgrow hown' hgw; have hex : ∃ g cap, v' = .slice (some ⟨g, 0, none⟩) (out.length + 1) cap := (by rcases hown'.2 with ⟨_, q⟩ | ⟨g, cap, _, q, _⟩ <;> first | omega | exact ⟨_, _, q⟩); obtain ⟨g7, cap7, hv7⟩ := hex; rw [hv7]; rw [hv7] at FA; clear hown' hgrow o7)
        all_goals go_wp2
        all_goals
          go_roundg (len - (i + 1))
          case measure => omega
          case rel => exact ⟨i + 1, _, by omega, by go_num, by rw [hnx.out]; have f := FA.out; rw [hlt2] at f; exact f⟩
    · have hil : ¬ (i : Int) < len := by omega
      obtain rfl : i = len := by omega
      have ht : L.take i = L := by rw [List.take_of_length_le (by rw [H.out.1]; omega)]
      rw [ht] at A
      clear ht
      have e0 := A.out.box.cell 0 v rfl
      have e1 := A.out.res.cell 0 _ rfl
      have e2 := A.out.res.frz 0 _ rfl
      obtain ⟨a, c, o, hv, hc, hp, ho⟩ := ownsRow_has A.out.row A.out.wf
      rcases hp.2 with ⟨e, _⟩ | ⟨G, e3, e4, oG⟩
      · exfalso
        have := H.out.1
        rw [e] at this
        simp at this
        omega
      · subst e4
        have hG := ho G e3
        rw [H.out.1] at hc hv
        rw [hv] at e0 A
        have oR := A.out.res
        have bel := A.out.facts.bel 0 rfl
        have hLi : Hid (L.length = i) := H.out.1
        clear hv hp ho A H tkH hlH
        go_wp2
        have oG3 := oG.other (j := w.heap.size + 2) (k := 0) (.slice (some ⟨G, 0, none⟩) i c) (by omega)
        have oR3 := oR.set (i := 0) (.slice (some ⟨G, 0, none⟩) i c) (by simp)
        have c3 := oR3.cell 0 _ rfl
        refine bodyPost_ret (v := .agg #[.slice (some ⟨G, 0, none⟩) i c]) ?_ rfl ⟨G, c, by rw [hLi.out], by rw [hLi.out]; exact hc, by omega, oG3, ?_⟩
        · simp [results, Try.f62, go_sem, c3]
        · exact bel.setCell (p := ⟨w.heap.size + 2, 0, none⟩) (by simp) _

end Go.Proofs.Yteohgmmenlinbab
