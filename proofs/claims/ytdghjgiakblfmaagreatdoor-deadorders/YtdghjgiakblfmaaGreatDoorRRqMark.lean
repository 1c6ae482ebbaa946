import Derived.Test.YtdghjgiakblfmaaGreatDoorRAcAlike
import Derived.Deep.OwnRows
import Derived.WalkMore
namespace Go.Proofs
open Go.RowKit Go.Shelf
theorem Tryz.infoBoolQ : (Tryz.prog.info? 4).map (fun i => (i.zero, i.size, i.bytes)) = some (some (.bool false), 1, 1) := by kernel_rfl
def Rq.row (n : Nat) : Array Value := ((List.replicate n false).map Value.bool).toArray
theorem Rq.make_bools (n : Nat) (hn : n ≤ 64) (w : World) : (Instr.makeSlice 151 (.int .i64 (n : Int)) (.int .i64 (n : Int))).run Tryz.prog w = .ok (.slice (some ⟨w.heap.size, 0, none⟩) n n) (w.alloc (.cells (Rq.row n) 4)) := by
 have h := run_make_row' (P := Tryz.prog) 151 4 (.bool false) 1 Tryz.underlying151 Tryz.infoBoolQ rfl .i64 .i64 n (by omega) (by omega) w
 rw [h, show madeCells #[Value.bool false] n = Rq.row n from ?_]
 apply Array.toList_inj.1
 rw [toList_madeCells_one]
 simp [Rq.row]
theorem Rq.row_bits (w : World) (n : Nat) : Rq.Bits (w.alloc (.cells (Rq.row n) 4)) w.heap.size (List.replicate n false) := heap_alloc_new w (.cells (Rq.row n) 4)
set_option maxHeartbeats 4000000 in
theorem Tryz.mark_any (n a0 : Nat) (a : Option Addr) (c : Nat) (es : List (Nat × Nat)) (w : World) (hn : n ≤ 64) (ha : a0 < n) (hes : ∀ e, e ∈ es → e.1 < n ∧ e.2 < n) (hE : Rk.Eds w w.heap.size a (Rk.up es)) (hm : es.length ≤ 1000000000000000) :
  Calls Tryz.prog 130 #[.int .i64 n, .slice a es.length c, .int .i64 a0] w fun e w' =>
   e = .returned (.slice (some ⟨w.heap.size, 0, none⟩) n n) ∧ Rq.Bits w' w.heap.size ((List.range n).map (Rk.met es a0)) ∧ Below w.heap.size w w' := by
 have HE : Hid (Rk.Eds w w.heap.size a (Rk.up es) ∧ ∀ e, e ∈ es → e.1 < n ∧ e.2 < n) := ⟨hE, hes⟩
 have ha' : (a0 : Int) < n := by omega
 have hmk := Rq.make_bools n hn
 obtain ⟨m, hmm⟩ : ∃ m, es.length = m := ⟨_, rfl⟩
 rw [hmm] at hm ⊢
 have HM : Hid (es.length = m) := hmm
 have X1 := Rq.row_bits w n
 have B1 : Below w.heap.size w (w.alloc (.cells (Rq.row n) 4)) := (Below.refl _ w).alloc (Nat.le_refl _) _
 have c1 : (w.alloc (.cells (Rq.row n) 4)).cell? ⟨w.heap.size, a0, none⟩ = some (.bool false) := X1.cell a0 false (by simp [ha])
 have f1 := X1.frozen a0
 have X2 : Hid (Rq.Bits (w.alloc (.cells ((Rq.row n).setIfInBounds a0 (.bool true)) 4)) w.heap.size ((List.replicate n false).set a0 true)) := by
  have := heap_alloc_new w (.cells ((Rq.row n).setIfInBounds a0 (.bool true)) 4)
  show _ = _
  rw [this, Rq.row, List.setIfInBounds_toArray, List.map_set]
 have B2 : Hid (Below w.heap.size w (w.alloc (.cells ((Rq.row n).setIfInBounds a0 (.bool true)) 4))) := (Below.refl _ w).alloc (Nat.le_refl _) _
 clear hE hes hmm X1 B1
 go_enter Tryz.func130, Tryz.ntmps130
 go_wp2
 go_step3
 go_wp2
 go_step3
 go_wp2
 clear hmk
 go_loopg [] 64 (fun gk wr => ∃ bs, Rk.left bs ≤ gk ∧ Hid (Rk.Way es n a0 bs ∧ Rq.Bits wr w.heap.size bs ∧ Below w.heap.size w wr))
 case atStart => exact ⟨_, by have := Rk.left_le ((List.replicate n false).set a0 true); simp at this; omega, Rk.Way.start es ha, X2.out, B2.out⟩
 case round =>
  obtain ⟨bs, hbl, HB⟩ := hrel
  clear X2 B2 c1 f1
  go_wp2
  go_loopg [17] m (fun gi i wi => ∃ k : Nat, gi + k = m ∧ i = .int .i64 k ∧ Hid (Rq.Bits wi w.heap.size bs ∧ Below w.heap.size w wi ∧ ∀ j (h : j < es.length), j < k → Rk.on bs es[j].1 → Rk.on bs es[j].2))
  case atStart => exact ⟨0, by omega, rfl, HB.out.2.1, HB.out.2.2, fun j _ h => by omega⟩
  case round =>
   obtain ⟨k, hk, rfl, HI⟩ := hrel
   by_cases hlt : k < m
   ·have hd : decide ((k : Int) < m) = true := decide_eq_true (by omega)
    have hkl : k < es.length := by rw [HM.out]; exact hlt
    obtain ⟨q, off, rfl, hq, h0, h1⟩ := HE.out.1 k (by rw [Rk.up_length]; exact hkl)
    obtain ⟨e, he⟩ : ∃ x, es[k] = x := ⟨_, rfl⟩
    obtain ⟨x, y⟩ := e
    have hxy := HE.out.2 _ (List.getElem_mem hkl)
    rw [he] at hxy
    obtain ⟨hx, hy⟩ : x < n ∧ y < n := hxy
    rw [Rk.up_get, he] at h0 h1
    have hc0 : wr.cell? ⟨q, off + k * 2, none⟩ = some (.int .i64 x) := by rw [HI.out.2.1.cell (p := ⟨q, off + k * 2, none⟩) hq]; exact h0
    have hc1 : wr.cell? ⟨q, off + k * 2 + 1, none⟩ = some (.int .i64 y) := by rw [HI.out.2.1.cell (p := ⟨q, off + k * 2 + 1, none⟩) hq]; exact h1
    have HX : Hid (es[k] = (x, y)) := he
    have hz : w.heap.size < wr.heap.size := HI.out.1.lt
    have hqz : q < wr.heap.size := by omega
    have hx' : (x : Int) < n := by omega
    have hy' : (y : Int) < n := by omega
    have hu := Tryz.underlying128
    obtain ⟨b1, hb1⟩ : ∃ b, bs[x]? = some b := ⟨_, List.getElem?_eq_getElem (by rw [HB.out.1.1]; exact hx)⟩
    obtain ⟨b2, hb2⟩ : ∃ b, bs[y]? = some b := ⟨_, List.getElem?_eq_getElem (by rw [HB.out.1.1]; exact hy)⟩
    have k1 := HI.out.1.cell x b1 hb1
    have k2 := HI.out.1.cell y b2 hb2
    have f2 := HI.out.1.frozen y
    have H12 : Hid (bs[x]? = some b1 ∧ bs[y]? = some b2) := ⟨hb1, hb2⟩
    have HA : Hid (Below w.heap.size w (wr.alloc (.cells #[.int .i64 x, .int .i64 y] 128)) ∧ Rq.Bits (wr.alloc (.cells #[.int .i64 x, .int .i64 y] 128)) w.heap.size bs) :=
     ⟨HI.out.2.1.alloc (by omega) _, HI.out.1.keep (Below.heap_alloc _ _ _ hz)⟩
    clear h0 h1 he hb1 hb2
    have hrel2 : (b1 = true → b2 = true) → ∀ j (h : j < es.length), j < k + 1 → Rk.on bs es[j].1 → Rk.on bs es[j].2 := by
     intro hi j hj hj2 ho
     by_cases hjk : j = k
     ·subst hjk
      rw [HX.out] at ho ⊢
      have h1 := H12.out.1
      have h2 := H12.out.2
      have : b1 = true := by unfold Rk.on at ho; rw [h1] at ho; exact Option.some.inj ho
      rw [hi this] at h2
      exact h2
     ·exact HI.out.2.2 j hj (by omega) ho
    have HR : Hid _ := hrel2
    clear hrel2
    cases b1
    ·go_wp2
     go_roundg (gk - 1)
     case measure => omega
     case rel => exact ⟨k + 1, by omega, by go_num, HA.out.2, HA.out.1, HR.out (by simp)⟩
    ·cases b2
     ·go_wp2
      go_roundg (Rk.left (bs.set y true))
      case measure => have := Rk.left_set bs y H12.out.2; omega
      case rel =>
       refine ⟨bs.set y true, Nat.le_refl _, HB.out.1.mark (by rw [← HX.out]; exact List.getElem_mem hkl) H12.out.1 hy, ?_, ?_⟩
       ·exact (HI.out.1.put y true).keep (Below.heap_alloc _ _ _ (by simpa using hz))
       ·exact (HI.out.2.1.setCell (p := ⟨w.heap.size, y, none⟩) (Nat.le_refl _) _).alloc (by simp; omega) _
     ·go_wp2
      go_roundg (gk - 1)
      case measure => omega
      case rel => exact ⟨k + 1, by omega, by go_num, HA.out.2, HA.out.1, HR.out (by simp)⟩
   ·have hd : decide ((k : Int) < m) = false := decide_eq_false (by omega)
    go_wp2
    rw [Exit.noGoto_ret]
    go_ret
    refine ⟨rfl, ?_, HI.out.2.1⟩
    have hall : Rk.Shut es bs := by
     intro e he
     obtain ⟨j, hj, rfl⟩ := List.getElem_of_mem he
     exact HI.out.2.2 j hj (by rw [HM.out] at hj; omega)
    rw [← HB.out.1.done hall]
    exact HI.out.1
end Go.Proofs
namespace Go.Proofs
open Go.RowKit Go.Shelf
theorem Tryz.infoIntQ : (Tryz.prog.info? 3).map (fun i => (i.zero, i.size, i.bytes)) = some (some (.int .i64 0), 1, 8) := by kernel_rfl
def Rq.nums (l : List Nat) : List Value := l.map fun i : Nat => Value.int .i64 (i : Int)
theorem Rq.nums_snoc (l : List Nat) (i : Nat) : Rq.nums (l ++ [i]) = Rq.nums l ++ [.int .i64 (i : Int)] := by simp [Rq.nums]
theorem Rq.own_shape {w : World} {B : Nat} {e : TypeId} {size : Nat} {v : Value} {n : Nat} {cs : List Value} (h : w.ownsRow B e size v n cs) : ∃ a c, v = .slice a n c := by
 rcases h.2 with ⟨rfl, rfl⟩ | ⟨g, cap, cur, rfl, _⟩
 ·exact ⟨none, 0, rfl⟩
 ·exact ⟨_, _, rfl⟩
theorem Rq.own_below {w w' : World} {B : Nat} {e : TypeId} {size : Nat} {v : Value} {n : Nat} {cs : List Value} (h : w.ownsRow B e size v n cs) (hb : Below w.heap.size w w') : w'.ownsRow B e size v n cs := by
 rcases h with ⟨hl, h | ⟨g, cap, cur, rfl, hB, hg, h4⟩⟩
 ·exact ⟨hl, .inl h⟩
 ·exact ⟨hl, .inr ⟨g, cap, cur, rfl, hB, by rw [hb.block g (Array.getElem?_eq_some_iff.1 hg).1]; exact hg, h4⟩⟩
theorem Rq.below_grown {B : Nat} {a w w' : World} {v : Value} {e : TypeId} {size n : Nat} {cs : List Value} (h : Below B a w) (hB : B ≤ w.heap.size) (ho : w.ownsRow B e size v n cs) (hg : w.grownBy w' v.ownBlock) : Below B a w' :=
 h.trans ⟨hg.os, hg.tape, hg.output, hg.size, fun j hj => hg.block j (by omega) (by
  intro he
  rcases ho.2 with ⟨rfl, _⟩ | ⟨g, cap, cur, rfl, h1, _⟩
  ·simp [Value.ownBlock] at he
  ·simp [Value.ownBlock] at he
   omega)⟩
theorem Rq.one_cell (w : World) (i : Int) (t : TypeId) : ∀ j u, [Value.int .i64 i][j]? = some u → (w.alloc (.cells #[.int .i64 i] t)).cell? ((⟨w.heap.size, 0, none⟩ : Addr).add j) = some u := by
 intro j u hj
 match j, hj with
 | 0, hj => simp at hj; subst hj; simp [Addr.add]
theorem Rq.one_one (i : Int) : ∀ u ∈ [Value.int .i64 i], u.oneCell' = true := by intro u hu; simp at hu; subst hu; rfl
def Rq.Hold (g : Nat) (lb : Array Value) (p : Nat → Bool) (n : Nat) (w : World) : Prop :=
 ∀ (W : World) (i : Nat), i < n → Below w.heap.size w W → Calls Tryz.prog g (#[.int .i64 (i : Int)] ++ lb) W fun e w' => e = .returned (.bool (p i)) ∧ Below W.heap.size W w'
set_option maxHeartbeats 4000000 in
theorem Tryz.things_any (p : Nat → Bool) (g : Nat) (lb : Array Value) (eg : ∀ args w, (callFunc g args).run Tryz.prog w = .ok (.enter g args) w) (n : Nat) (w : World) (hp : Rq.Hold g lb p n w) (hn : n ≤ 64) :
  Calls Tryz.prog 106 #[.int .i64 n, .func (.func g) #[] lb] w fun e w' => ∃ v, e = .returned v ∧ w'.ownsRow w.heap.size 3 1 v ((List.range n).filter p).length (Rq.nums ((List.range n).filter p)) ∧ Below w.heap.size w w' := by
 obtain ⟨i0, hi, hz0, hz1, hz2⟩ := info_parts Tryz.infoIntQ
 have HP : Hid _ := hp
 clear hp
 go_enter Tryz.func106, Tryz.ntmps106
 go_wp2
 go_loopg [5, 8] n (fun gk s5 s8 wr => ∃ (k r : Nat) (L : List Nat), gk + k = n ∧ s8 = .int .i64 k ∧ r ≤ k ∧ Hid (L = (List.range k).filter p ∧ L.length = r ∧ Below w.heap.size w wr) ∧ wr.ownsRow w.heap.size 3 1 s5 r (Rq.nums L))
 case atStart => exact ⟨0, 0, [], by omega, rfl, Nat.le_refl _, ⟨rfl, rfl, Below.refl _ w⟩, World.ownsRow_nil _ _ _ _⟩
 case round =>
  obtain ⟨k, r, L, hk, rfl, hr, HB, hown⟩ := hrel
  obtain ⟨av, cv, rfl⟩ := Rq.own_shape hown
  by_cases hlt : k < n
  ·have hd : decide ((k : Int) < n) = true := decide_eq_true (by omega)
   have hcall := HP.out wr k hlt HB.out.2.2
   have HF : Hid ((List.range (k + 1)).filter p = L ++ if p k = true then [k] else []) := by
     show _ = _
     rw [List.range_succ, List.filter_append, ← HB.out.1]
     cases hq : p k <;> simp [hq]
   cases hq : p k with
   | false =>
     rw [hq] at hcall HF
     clear hq
     go_wp2_with (go_at_fn g; refine hcall.mono ?_; rintro e w1 ⟨rfl, hb⟩)
     go_roundg (gk - 1)
     case measure => omega
     case rel =>
      refine ⟨k + 1, r, L, by omega, by go_num, by omega, ⟨?_, HB.out.2.1, HB.out.2.2.trans (hb.mono HB.out.2.2.size)⟩, Rq.own_below hown hb⟩
      rw [HF.out]; simp
   | true =>
     rw [hq] at hcall HF
     clear hq
     go_wp2_with (first
      | (go_at_fn g; refine hcall.mono ?_; rintro e W1 ⟨rfl, hb⟩; have own1 := Rq.own_below hown hb; have B1 : Hid (Below w.heap.size w W1) := HB.out.2.2.trans (hb.mono HB.out.2.2.size); have hs1 : w.heap.size ≤ W1.heap.size := B1.out.size; clear hb hown hcall)
      | (at_builtin; refine wpList_append_own _ rfl _ _ 51 rfl w.heap.size 3 i0 (.int .i64 0) 1 8 Tryz.underlying51 hi hz0 hz1 hz2 rfl (by decide) _ _ _ rfl (own1.alloc _) ⟨W1.heap.size, 0, none⟩ 1 1 [.int .i64 k] rfl rfl (Rq.one_cell W1 k 3) (Rq.one_one k) ?c3 ?c4 ?c5 ?_))
     case c3 => unfold maxLen; omega
     case c4 => omega
     case c5 => simp; omega
     intro v' W2 own2 g2 _
     obtain ⟨a2, c2, rfl⟩ := Rq.own_shape own2
     go_wp2
     go_roundg (gk - 1)
     case measure => omega
     case rel =>
      refine ⟨k + 1, r + 1, L ++ [k], by omega, by go_num, by omega, ⟨?_, by simp [HB.out.2.1], Rq.below_grown (B1.out.alloc hs1 _) (by simp; omega) (own1.alloc _) g2⟩, ?_⟩
      ·rw [HF.out]; simp
      ·rw [Rq.nums_snoc]; exact own2
  ·have hd : decide ((k : Int) < n) = false := decide_eq_false (by omega)
   go_wp2
   go_ret
   obtain rfl : k = n := by omega
   rw [← HB.out.1, HB.out.2.1]
   exact ⟨_, rfl, hown, HB.out.2.2⟩
end Go.Proofs
