/- The walk of the exact law of BoxOf: it returns true. -/
import Derived.Test.YteohgmmenlinbagDoorOfI
import Derived.Test.YteohgmmenlinbagDoorOfS
import Derived.Test.YteohgmmenlinbagDoorToU
import Derived.Test.YteohgmmenlinbagDoorBoxE
import Derived.Test.YteohgmmenlinbagDoorMark
namespace Go.Proofs.YteohgmmenlinbagDoor
open Go.ChangeShapes Go.WideShapes Go.ChangeAt Go.RowKit
set_option linter.unusedVariables false

theorem box_len (n : Int) (zs : List Int) : (boxU n zs).length ≤ 6 := by
  unfold boxU
  by_cases h : codeU n zs = 0
  · rw [if_pos h]
    unfold codeU at h
    by_cases hc : countU n zs = true
    · unfold countU at hc
      simp only [Bool.and_eq_true, decide_eq_true_eq] at hc
      unfold pairsU
      rw [madeL_length]
      omega
    · rw [if_neg hc] at h
      omega
  · rw [if_neg h]
    simp

theorem toU2 (w : World) (a : Option Addr) (zs : List Int) (len cap : Nat) (hlen : zs.length = len) (h : UAt w a zs) (hl : len ≤ cap) (hm : len ≤ 1048576) :
    Calls Tryd.prog 5 #[.slice a len cap] w fun e w' => ∃ G, e = .returned (.slice (some ⟨G, 0, none⟩) len len) ∧ w.heap.size ≤ G ∧ OwnU w' G zs ∧ Below w.heap.size w w' :=
  (toU w a zs len cap hlen h hl hm).mono fun e w' ⟨he, o, q⟩ => ⟨_, he, Nat.le_refl _, o, q⟩

theorem OwnU.below {W W' : World} {G : Nat} {zs : List Int} (h : OwnU W G zs) (q : Below W.heap.size W W') : OwnU W' G zs := h.keepO (KeepO.of_below none q) (fun e => by cases e)
theorem OwnU.hasU {W : World} {G : Nat} {zs : List Int} (h : OwnU W G zs) : HasU W (some ⟨G, 0, none⟩) zs (some G) := .inr ⟨G, rfl, rfl, h⟩

set_option maxRecDepth 100000 in
set_option maxHeartbeats 4000000 in
theorem walkExBoxOf (w : World) (n : Int) (wn : (Lit.int .i64 n).wf = true) (a : Option Addr) (zs : List Int) (cap : Nat) (h : UAt w a zs) (hz : ∀ z ∈ zs, 0 ≤ z ∧ z ≤ 18446744073709551615) (hl : zs.length ≤ cap) (hx : zs.length ≤ maxLen) (hE : ErrT w) :
    Calls Tryd.prog 3 #[.int .i64 n, .slice a zs.length cap] w fun e w' => e = .returned (.bool true) ∧ Below w.heap.size w w' := by
  unfold maxLen at hx
  have hp := hE.pos
  have HE : Hid (ErrT w) := hE
  obtain ⟨len, hlen⟩ : ∃ len, zs.length = len := ⟨_, rfl⟩
  rw [hlen] at hl hx ⊢
  by_cases hm : len ≤ 1048576
  · have hbig : ¬ (1048576 : Int) < len := by omega
    have L6 := box_len n zs
    have hs := fun W (G : Nat) (x : OwnU W G zs) => specBoxOf W n (some ⟨G, 0, none⟩) zs len len hlen x.hasU.at hz (Nat.le_refl _) hm
    have hi := fun W (G : Nat) (x : OwnU W G zs) (y : ErrT W) => implBoxOf W n (some ⟨G, 0, none⟩) zs len len hlen x.hasU.at hz (Nat.le_refl _) hm y
    have t1 := fun W (q : Below w.heap.size w W) => toU2 W a zs len cap hlen (h.below q) hl hm
    have m1 := fun W (G : Nat) (x : OwnU W G zs) => markU W (some ⟨G, 0, none⟩) zs (some G) len len 1 hlen x.hasU (Nat.le_refl _) hm (by omega) (by omega)
    have eu := fun W (G G' : Nat) (x : OwnU W G zs) (y : OwnU W G' zs) => eqU W (some ⟨G, 0, none⟩) (some ⟨G', 0, none⟩) zs len len len hlen x.hasU.at y.hasU.at (Nat.le_refl _) (Nat.le_refl _) hm
    clear h hz hlen hE
    unfold BoxOutV at hs hi
    generalize codeU n zs = c at *
    generalize boxU n zs = P at *
    obtain ⟨m, hm2⟩ : ∃ m, P.length = m := ⟨_, rfl⟩
    have eb := fun W (b b' : Option Addr) (d d' : Nat) (x : PairsAt W b P) (y : PairsAt W b' P) (k1 : m ≤ d) (k2 : m ≤ d') => eqBox W b b' P m d d' hm2 x y k1 k2 (by omega)
    have m2 := fun W b o d (x : HasO W b P o) (hd : m ≤ d) => markBox W b P o m d 1 hm2 x hd (by omega) (by omega) (by omega)
    have hd := fun W b d (x : PairsAt W b (marks 1 m)) (h1 : m ≤ d) => heldBox W b m d 1 x h1 (by omega) (by omega) (by omega)
    rw [hm2] at hs hi L6
    clear hm2
    have hk1 : ¬ (1 + (len : Int)) < 0 := by omega
    have hk2 : ¬ (1 + 2 * (m : Int)) < 0 := by omega
    have F : Facts w [.bel w] := (Facts.nil _).push (f := .bel w) (Below.refl _ _)
    have t2 := t1
    have t3 := t1
    have t4 := t1
    have hi2 := hi
    have eb2 := eb
    have eb3 := eb
    have hd2 := hd
    go_enter Tryd.func3, Tryd.ntmps3
    go_wp2_with first
      | (go_at_call 5; refine (t1 _ (F.bel 0 rfl)).mono ?_; clear t1; rintro e w1 ⟨G1, rfl, hG1, oy, q⟩; replace F := F.below q; clear q hG1)
      | (go_at_call 4; refine (hs _ _ oy).mono ?_; clear hs oy; rintro e w2 ⟨a5, c5, o5, rfl, hc5, hh, hg5, q⟩
         have n2 : Hid (w.heap.size ≤ w2.heap.size ∧ ∀ G, o5 = some G → w.heap.size ≤ G ∧ G < w2.heap.size) := ⟨Nat.le_trans (F.bel 0 rfl).size q.size, fun G hG => ⟨Nat.le_trans (F.bel 0 rfl).size (hg5 G hG), hh.lt G hG⟩⟩
         replace F := ((F.below q).pushHas hh).cells #[.slice a5 m c5] 25; clear q hh hg5)
      | (go_at_call 5; refine (t2 _ (F.bel 0 rfl)).mono ?_; clear t2; rintro e w3 ⟨Gx, rfl, hGx, ox, q⟩
         have n3 : Hid (w2.heap.size < Gx ∧ Gx < w3.heap.size) := ⟨by have := hGx; simp only [World.size_alloc] at this; omega, ox.lt⟩
         replace F := F.below q; clear q hGx)
      | (go_at_call 6; refine (hi _ _ ox (HE.out.below hp (F.bel 0 rfl))).mono ?_; clear hi; rintro e w4 ⟨ag, cg, og, rfl, hcg, hh, hgg, q⟩
         have n4 : Hid (w3.heap.size ≤ w4.heap.size ∧ ∀ G, og = some G → w3.heap.size ≤ G ∧ G < w4.heap.size) := ⟨q.size, fun G hG => ⟨hgg G hG, hh.lt G hG⟩⟩
         have qa : Below w4.heap.size w4 (w4.alloc (.cells #[.slice ag m cg] 25)) := (Below.refl _ _).alloc (Nat.le_refl _) _
         replace ox := (ox.below q).below qa
         replace F := ((F.below q).pushHas hh).cells #[.slice ag m cg] 25; clear q qa hh hgg; have c5' := (F.own 2 rfl).cell 0 _ rfl)
      | (go_at_call 7; refine (eb _ _ _ _ _ (F.has 3 rfl).at (F.has 1 rfl).at hcg hc5).mono ?_; clear eb c5'; rintro e w5 ⟨rfl, q⟩; replace ox := ox.below q; replace F := F.below q; clear q)
      | (go_at_call 5; refine (t3 _ (F.bel 0 rfl)).mono ?_; clear t3; rintro e w6 ⟨G3, rfl, hG3, o3, q⟩; replace ox := ox.below q; replace F := F.below q; clear q hG3)
      | (go_at_call 8; refine (eu _ _ _ ox o3).mono ?_; clear eu o3; rintro e w7 ⟨rfl, q⟩; replace ox := ox.below q; replace F := F.below q; clear q)
      | (go_at_call 9; refine (m1 _ _ ox).mono ?_; clear m1 ox; rintro e w8 ⟨rfl, -, q⟩
         replace F : Facts w8 _ := fun f hf => f.keep (F f hf) q (by
           have n2' := n2.out
           have n3' := n3.out
           have n4' := n4.out
           simp only [List.mem_cons, List.not_mem_nil, or_false, List.nil_append, List.cons_append] at hf
           rcases hf with rfl | rfl | rfl | rfl | rfl
           · intro G hG; have := Option.some.inj hG; omega
           · intro G hG e; have := Option.some.inj e; have := n2'.2 G hG; omega
           · intro hG; have := Option.some.inj hG; omega
           · intro G hG e; have := Option.some.inj e; have := n4'.2 G hG; omega
           · intro hG; have := Option.some.inj hG; omega)
         clear q; have c8' := (F.own 4 rfl).cell 0 _ rfl; have c5' := (F.own 2 rfl).cell 0 _ rfl)
      | (go_at_call 7; refine (eb2 _ _ _ _ _ (F.has 3 rfl).at (F.has 1 rfl).at hcg hc5).mono ?_; clear eb2 c5' c8'; rintro e w9 ⟨rfl, q⟩; replace F := F.below q; clear q; have c8' := (F.own 4 rfl).cell 0 _ rfl)
      | (go_at_call 10; refine (m2 _ _ _ _ (F.has 3 rfl) hcg).mono ?_; clear m2 c8'; rintro e w10 ⟨rfl, hp', q⟩
         replace F := F.mark q 3 (f2 := .has _ _ _) (by
           have n2' := n2.out
           have n3' := n3.out
           have n4' := n4.out
           intro j f hj hf
           match j, hj, hf with
           | 0, _, rfl => intro G hG; have := n4'.2 G hG; omega
           | 1, _, rfl => intro G hG e; have := n2'.2 G hG; have := n4'.2 G e; omega
           | 2, _, rfl => intro hG; have := n4'.2 _ hG; omega
           | 3, hj, _ => exact absurd rfl hj
           | 4, _, rfl => intro hG; have := n4'.2 _ hG; omega
           | k + 5, _, hf => simp at hf) hp'
         clear q hp'; have c8' := (F.own 4 rfl).cell 0 _ rfl)
      | (go_at_call 11; refine (hd _ _ _ (F.has 3 rfl).at hcg).mono ?_; clear hd c8'; rintro e w11 ⟨rfl, q⟩; replace F := F.below q; clear q)
      | (go_at_call 5; refine (t4 _ (F.bel 0 rfl)).mono ?_; clear t4; rintro e w12 ⟨G4, rfl, hG4, o4, q⟩; replace F := F.below q; clear q hG4)
      | (go_at_call 6; refine (hi2 _ _ o4 (HE.out.below hp (F.bel 0 rfl))).mono ?_; clear hi2 o4; rintro e w13 ⟨ah, ch, oh, rfl, hch, hh4, hgh, q⟩
         have qa : Below w13.heap.size w13 (w13.alloc (.cells #[.slice ah m ch] 25)) := (Below.refl _ _).alloc (Nat.le_refl _) _
         replace hh4 := hh4.below qa; replace F := (F.below q).below qa; clear q qa hgh; have c5' := (F.own 2 rfl).cell 0 _ rfl)
      | (go_at_call 7; refine (eb3 _ _ _ _ _ hh4.at (F.has 1 rfl).at hch hc5).mono ?_; clear eb3 c5' hh4; rintro e w14 ⟨rfl, q⟩; replace F := F.below q; clear q; have c8' := (F.own 4 rfl).cell 0 _ rfl)
      | (go_at_call 11; refine (hd2 _ _ _ (F.has 3 rfl).at hcg).mono ?_; clear hd2 c8'; rintro e w15 ⟨rfl, q⟩; replace F := F.below q; clear q)
    go_ret
    exact ⟨rfl, F.bel 0 rfl⟩
  · have hbig : (1048576 : Int) < len := by omega
    clear h hz hlen
    go_enter Tryd.func3, Tryd.ntmps3
    go_wp2
    go_ret
    exact ⟨rfl, Below.refl _ _⟩

end Go.Proofs.YteohgmmenlinbagDoor
