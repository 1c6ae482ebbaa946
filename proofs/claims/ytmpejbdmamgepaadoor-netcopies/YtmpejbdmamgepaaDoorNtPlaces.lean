/-
  The contract of places: those numbers of which something holds.
-/
import Derived.Test.YtmpejbdmamgepaaDoorNtModel
import Derived.Shelf.Abstract
namespace Go.Proofs
open Go.RowKit Go.Shelf

theorem Tryd.infoIntR : (Tryd.prog.info? 3).map (fun i => (i.zero, i.size, i.bytes)) = some (some (.int .i64 0), 1, 8) := by kernel_rfl
/-- Numbers as they lie in memory. -/
def Rk.nums (l : List Nat) : List Value := l.map fun i : Nat => Value.int .i64 (i : Int)
theorem Rk.nums_snoc (l : List Nat) (i : Nat) : Rk.nums (l ++ [i]) = Rk.nums l ++ [.int .i64 (i : Int)] := by simp [Rk.nums]
theorem Rk.own_shape {w : World} {B : Nat} {e : TypeId} {size : Nat} {v : Value} {n : Nat} {cs : List Value} (h : w.ownsRow B e size v n cs) : ∃ a c, v = .slice a n c := by
  rcases h.2 with ⟨rfl, rfl⟩ | ⟨g, cap, cur, rfl, _⟩
  · exact ⟨none, 0, rfl⟩
  · exact ⟨_, _, rfl⟩
theorem Rk.own_below {w w' : World} {B : Nat} {e : TypeId} {size : Nat} {v : Value} {n : Nat} {cs : List Value} (h : w.ownsRow B e size v n cs) (hb : Below w.heap.size w w') : w'.ownsRow B e size v n cs := by
  rcases h with ⟨hl, h | ⟨g, cap, cur, rfl, hB, hg, h4⟩⟩
  · exact ⟨hl, .inl h⟩
  · exact ⟨hl, .inr ⟨g, cap, cur, rfl, hB, by rw [hb.block g (Array.getElem?_eq_some_iff.1 hg).1]; exact hg, h4⟩⟩
theorem Rk.below_grown {B : Nat} {a w w' : World} {v : Value} {e : TypeId} {size n : Nat} {cs : List Value} (h : Below B a w) (hB : B ≤ w.heap.size) (ho : w.ownsRow B e size v n cs) (hg : w.grownBy w' v.ownBlock) : Below B a w' :=
  h.trans ⟨hg.os, hg.tape, hg.output, hg.size, fun j hj => hg.block j (by omega) (by
    intro he
    rcases ho.2 with ⟨rfl, _⟩ | ⟨g, cap, cur, rfl, h1, _⟩
    · simp [Value.ownBlock] at he
    · simp [Value.ownBlock] at he
      omega)⟩
theorem Rk.one_cell (w : World) (i : Int) (t : TypeId) : ∀ j u, [Value.int .i64 i][j]? = some u → (w.alloc (.cells #[.int .i64 i] t)).cell? ((⟨w.heap.size, 0, none⟩ : Addr).add j) = some u := by
  intro j u hj
  match j, hj with
  | 0, hj => simp at hj; subst hj; simp [Addr.add]
theorem Rk.one_one (i : Int) : ∀ u ∈ [Value.int .i64 i], u.oneCell' = true := by intro u hu; simp at hu; subst hu; rfl
/-- What is asked of what is handed to things. -/
def Rk.Hold (g : Nat) (lb : Array Value) (p : Nat → Bool) (n : Nat) (w : World) : Prop :=
  ∀ (W : World) (i : Nat), i < n → Below w.heap.size w W → Calls Tryd.prog g (#[.int .i64 (i : Int)] ++ lb) W fun e w' => e = .returned (.bool (p i)) ∧ Below W.heap.size W w'

set_option maxHeartbeats 4000000 in
theorem Tryd.places_any (p : Nat → Bool) (g : Nat) (lb : Array Value) (eg : ∀ args w, (callFunc g args).run Tryd.prog w = .ok (.enter g args) w) (n : Nat) (w : World) (hp : Rk.Hold g lb p n w) (hn : n ≤ 1000) :
    Calls Tryd.prog 31 #[.int .i64 n, .func (.func g) #[] lb] w fun e w' => ∃ v, e = .returned v ∧ w'.ownsRow w.heap.size 3 1 v ((List.range n).filter p).length (Rk.nums ((List.range n).filter p)) ∧ Below w.heap.size w w' := by
  obtain ⟨i0, hi, hz0, hz1, hz2⟩ := info_parts Tryd.infoIntR
  have HP : Hid _ := hp
  clear hp
  go_enter Tryd.func31, Tryd.ntmps31
  go_wp2
  go_loopg [5, 8] n (fun gk s5 s8 wr => ∃ (k r : Nat) (L : List Nat), gk + k = n ∧ s8 = .int .i64 k ∧ r ≤ k ∧ Hid (L = (List.range k).filter p ∧ L.length = r ∧ Below w.heap.size w wr) ∧ wr.ownsRow w.heap.size 3 1 s5 r (Rk.nums L))
  case atStart => exact ⟨0, 0, [], by omega, rfl, Nat.le_refl _, ⟨rfl, rfl, Below.refl _ w⟩, World.ownsRow_nil _ _ _ _⟩
  case round =>
    obtain ⟨k, r, L, hk, rfl, hr, HB, hown⟩ := hrel
    obtain ⟨av, cv, rfl⟩ := Rk.own_shape hown
    by_cases hlt : k < n
    · have hd : decide ((k : Int) < n) = true := decide_eq_true (by omega)
      have hcall := HP.out wr k hlt HB.out.2.2
      have HF : Hid ((List.range (k + 1)).filter p = L ++ if p k = true then [k] else []) := by
        show _ = _
        rw [List.range_succ, List.filter_append, ← HB.out.1]
        cases hq : p k <;> simp [hq]
      cases hq : p k with
      | false =>
        rw [hq] at hcall HF
        clear hq
        go_wp2_with (go_at_fn g; refine hcall.mono ?_; rintro e w1 ⟨rfl, hb⟩)
        go_roundg (gk - 1)
        case measure => omega
        case rel =>
          refine ⟨k + 1, r, L, by omega, by go_num, by omega, ⟨?_, HB.out.2.1, HB.out.2.2.trans (hb.mono HB.out.2.2.size)⟩, Rk.own_below hown hb⟩
          rw [HF.out]; simp
      | true =>
        rw [hq] at hcall HF
        clear hq
        go_wp2_with (first
          | (go_at_fn g; refine hcall.mono ?_; rintro e W1 ⟨rfl, hb⟩; have own1 := Rk.own_below hown hb; have B1 : Hid (Below w.heap.size w W1) := HB.out.2.2.trans (hb.mono HB.out.2.2.size); have hs1 : w.heap.size ≤ W1.heap.size := B1.out.size; clear hb hown hcall)
          | (at_builtin; refine wpList_append_own _ rfl _ _ 39 rfl w.heap.size 3 i0 (.int .i64 0) 1 8 Tryd.underlying39 hi hz0 hz1 hz2 rfl (by decide) _ _ _ rfl (own1.alloc _) ⟨W1.heap.size, 0, none⟩ 1 1 [.int .i64 k] rfl rfl (Rk.one_cell W1 k 3) (Rk.one_one k) ?c3 ?c4 ?c5 ?_))
        case c3 => unfold maxLen; omega
        case c4 => omega
        case c5 => simp; omega
        intro v' W2 own2 g2 _
        obtain ⟨a2, c2, rfl⟩ := Rk.own_shape own2
        go_wp2
        go_roundg (gk - 1)
        case measure => omega
        case rel =>
          refine ⟨k + 1, r + 1, L ++ [k], by omega, by go_num, by omega, ⟨?_, by simp [HB.out.2.1], Rk.below_grown (B1.out.alloc hs1 _) (by simp; omega) (own1.alloc _) g2⟩, ?_⟩
          · rw [HF.out]; simp
          · rw [Rk.nums_snoc]; exact own2
    · have hd : decide ((k : Int) < n) = false := decide_eq_false (by omega)
      go_wp2
      go_ret
      obtain rfl : k = n := by omega
      rw [← HB.out.1, HB.out.2.1]
      exact ⟨_, rfl, hown, HB.out.2.2⟩

end Go.Proofs
