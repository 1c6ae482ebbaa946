import Derived.Test.YtdghjgiakblfmaaGreatDoorRAcAlike
import Derived.Deep.OwnRows
import Derived.WalkMore
namespace Go.Proofs
open Go.RowKit Go.Shelf
theorem Tryz.infoBoolQ : (Tryz.prog.info? 4).map (fun i => (i.zero, i.size, i.bytes)) = some (some (.bool false), 1, 1) := by kernel_rfl
def Rq.row (n : Nat) : Array Value := ((List.replicate n false).map Value.bool).toArray
theorem Rq.make_bools (n : Nat) (hn : n ≤ 64) (w : World) : (Instr.makeSlice 151 (.int .i64 (n : Int)) (.int .i64 (n : Int))).run Tryz.prog w = .ok (.slice (some ⟨w.heap.size, 0, none⟩) n n) (w.alloc (.cells (Rq.row n) 4)) := by
 have h := run_make_row' (P := Tryz.prog) 151 4 (.bool false) 1 Tryz.underlying151 Tryz.infoBoolQ rfl .i64 .i64 n (by omega) (by omega) w
 rw [h, show madeCells #[Value.bool false] n = Rq.row n from ?_]
 apply Array.toList_inj.1
 rw [toList_madeCells_one]
 simp [Rq.row]
theorem Rq.row_bits (w : World) (n : Nat) : Rq.Bits (w.alloc (.cells (Rq.row n) 4)) w.heap.size (List.replicate n false) := heap_alloc_new w (.cells (Rq.row n) 4)
set_option maxHeartbeats 4000000 in
theorem Tryz.mark_any (n a0 : Nat) (a : Option Addr) (c : Nat) (es : List (Nat × Nat)) (w : World) (hn : n ≤ 64) (ha : a0 < n) (hes : ∀ e, e ∈ es → e.1 < n ∧ e.2 < n) (hE : Rk.Eds w w.heap.size a (Rk.up es)) (hm : es.length ≤ 1000000000000000) :
  Calls Tryz.prog 130 #[.int .i64 n, .slice a es.length c, .int .i64 a0] w fun e w' =>
   e = .returned (.slice (some ⟨w.heap.size, 0, none⟩) n n) ∧ Rq.Bits w' w.heap.size ((List.range n).map (Rk.met es a0)) ∧ Below w.heap.size w w' := by
 have HE : Hid (Rk.Eds w w.heap.size a (Rk.up es) ∧ ∀ e, e ∈ es → e.1 < n ∧ e.2 < n) := ⟨hE, hes⟩
 have ha' : (a0 : Int) < n := by omega
 have hmk := Rq.make_bools n hn
 obtain ⟨m, hmm⟩ : ∃ m, es.length = m := ⟨_, rfl⟩
 rw [hmm] at hm ⊢
 have HM : Hid (es.length = m) := hmm
 have X1 := Rq.row_bits w n
 have B1 : Below w.heap.size w (w.alloc (.cells (Rq.row n) 4)) := (Below.refl _ w).alloc (Nat.le_refl _) _
 have c1 : (w.alloc (.cells (Rq.row n) 4)).cell? ⟨w.heap.size, a0, none⟩ = some (.bool false) := X1.cell a0 false (by simp [ha])
 have f1 := X1.frozen a0
 have X2 : Hid (Rq.Bits (w.alloc (.cells ((Rq.row n).setIfInBounds a0 (.bool true)) 4)) w.heap.size ((List.replicate n false).set a0 true)) := by
  have := heap_alloc_new w (.cells ((Rq.row n).setIfInBounds a0 (.bool true)) 4)
  show _ = _
  rw [this, Rq.row, List.setIfInBounds_toArray, List.map_set]
 have B2 : Hid (Below w.heap.size w (w.alloc (.cells ((Rq.row n).setIfInBounds a0 (.bool true)) 4))) := (Below.refl _ w).alloc (Nat.le_refl _) _
 clear hE hes hmm X1 B1
 go_enter Tryz.func130, Tryz.ntmps130
 go_wp2
 go_step3
 go_wp2
 go_step3
 go_wp2
 clear hmk
 go_loopg [] 64 (fun gk wr => ∃ bs, Rk.left bs ≤ gk ∧ Hid (Rk.Way es n a0 bs ∧ Rq.Bits wr w.heap.size bs ∧ Below w.heap.size w wr))
 case atStart => exact ⟨_, by have := Rk.left_le ((List.replicate n false).set a0 true); simp at this; omega, Rk.Way.start es ha, X2.out, B2.out⟩
 case round =>
  obtain ⟨bs, hbl, HB⟩ := hrel
  clear X2 B2 c1 f1
  go_wp2
  go_loopg [17] m (fun gi i wi => ∃ k : Nat, gi + k = m ∧ i = .int .i64 k ∧ Hid (Rq.Bits wi w.heap.size bs ∧ Below w.heap.size w wi ∧ ∀ j (h : j < es.length), j < k → Rk.on bs es[j].1 → Rk.on bs es[j].2))
  case atStart => exact ⟨0, by omega, rfl, HB.out.2.1, HB.out.2.2, fun j _ h => by omega⟩
  case round =>
   obtain ⟨k, hk, rfl, HI⟩ := hrel
   by_cases hlt : k < m
   ·have hd : decide ((k : Int) < m) = true := decide_eq_true (by omega)
    have hkl : k < es.length := by rw [HM.out]; exact hlt
    obtain ⟨q, off, rfl, hq, h0, h1⟩ := HE.out.1 k (by rw [Rk.up_length]; exact hkl)
    obtain ⟨e, he⟩ : ∃ x, es[k] = x := ⟨_, rfl⟩
    obtain ⟨x, y⟩ := e
    have hxy := HE.out.2 _ (List.getElem_mem hkl)
    rw [he] at hxy
    obtain ⟨hx, hy⟩ : x < n ∧ y < n := hxy
    rw [Rk.up_get, he] at h0 h1
    have hc0 : wr.cell? ⟨q, off + k * 2, none⟩ = some (.int .i64 x) := by rw [HI.out.2.1.cell (p := ⟨q, off + k * 2, none⟩) hq]; exact h0
    have hc1 : wr.cell? ⟨q, off + k * 2 + 1, none⟩ = some (.int .i64 y) := by rw [HI.out.2.1.cell (p := ⟨q, off + k * 2 + 1, none⟩) hq]; exact h1
    have HX : Hid (es[k] = (x, y)) := he
    have hz : w.heap.size < wr.heap.size := HI.out.1.lt
    have hqz : q < wr.heap.size := by omega
    have hx' : (x : Int) < n := by omega
    have hy' : (y : Int) < n := by omega
    have hu := Tryz.underlying128
    obtain ⟨b1, hb1⟩ : ∃ b, bs[x]? = some b := ⟨_, List.getElem?_eq_getElem (by rw [HB.out.1.1]; exact hx)⟩
    obtain ⟨b2, hb2⟩ : ∃ b, bs[y]? = some b := ⟨_, List.getElem?_eq_getElem (by rw [HB.out.1.1]; exact hy)⟩
    have k1 := HI.out.1.cell x b1 hb1
    have k2 := HI.out.1.cell y b2 hb2
    have f2 := HI.out.1.frozen y
    have H12 : Hid (bs[x]? = some b1 ∧ bs[y]? = some b2) := ⟨hb1, hb2⟩
    have HA : Hid (Below w.heap.size w (wr.alloc (.cells #[.int .i64 x, .int .i64 y] 128)) ∧ Rq.Bits (wr.alloc (.cells #[.int .i64 x, .int .i64 y] 128)) w.heap.size bs) :=
     ⟨HI.out.2.1.alloc (by omega) _, HI.out.1.keep (Below.heap_alloc _ _ _ hz)⟩
    clear h0 h1 he hb1 hb2
    have hrel2 : (b1 = true → b2 = true) → ∀ j (h : j < es.length), j < k + 1 → Rk.on bs es[j].1 → Rk.on bs es[j].2 := by
     intro hi j hj hj2 ho
     by_cases hjk : j = k
     ·subst hjk
      rw [HX.out] at ho ⊢
      have h1 := H12.out.1
      have h2 := H12.out.2
      have : b1 = true := by unfold Rk.on at ho; rw [h1] at ho; exact Option.some.inj ho
      rw [hi this] at h2
      exact h2
     ·exact HI.out.2.2 j hj (by omega) ho
    have HR : Hid _ := hrel2
    clear hrel2
    cases b1
    ·go_wp2
     go_roundg (gk - 1)
     case measure => omega
     case rel => exact ⟨k + 1, by omega, by go_num, HA.out.2, HA.out.1, HR.out (by simp)⟩
    ·cases b2
     ·go_wp2
      go_roundg (Rk.left (bs.set y true))
      case measure => have := Rk.left_set bs y H12.out.2; omega
      case rel =>
       refine ⟨bs.set y true, Nat.le_refl _, HB.out.1.mark (by rw [← HX.out]; exact List.getElem_mem hkl) H12.out.1 hy, ?_, ?_⟩
       ·exact (HI.out.1.put y true).keep (Below.heap_alloc _ _ _ (by simpa using hz))
       ·exact (HI.out.2.1.setCell (p := ⟨w.heap.size, y, none⟩) (Nat.le_refl _) _).alloc (by simp; omega) _
     ·go_wp2
      go_roundg (gk - 1)
      case measure => omega
      case rel => exact ⟨k + 1, by omega, by go_num, HA.out.2, HA.out.1, HR.out (by simp)⟩
   ·have hd : decide ((k : Int) < m) = false := decide_eq_false (by omega)
    go_wp2
    rw [Exit.noGoto_ret]
    go_ret
    refine ⟨rfl, ?_, HI.out.2.1⟩
    have hall : Rk.Shut es bs := by
     intro e he
     obtain ⟨j, hj, rfl⟩ := List.getElem_of_mem he
     exact HI.out.2.2 j hj (by rw [HM.out] at hj; omega)
    rw [← HB.out.1.done hall]
    exact HI.out.1
end Go.Proofs
namespace Go.Proofs
open Go.RowKit Go.Shelf
theorem Tryz.infoIntQ : (Tryz.prog.info? 3).map (fun i => (i.zero, i.size, i.bytes)) = some (some (.int .i64 0), 1, 8) := by kernel_rfl
def Rq.nums (l : List Nat) : List Value := l.map fun i : Nat => Value.int .i64 (i : Int)
theorem Rq.nums_snoc (l : List Nat) (i : Nat) : Rq.nums (l ++ [i]) = Rq.nums l ++ [.int .i64 (i : Int)] := by simp [Rq.nums]
theorem Rq.own_shape {w : World} {B : Nat} {e : TypeId} {size : Nat} {v : Value} {n : Nat} {cs : List Value} (h : w.ownsRow B e size v n cs) : ∃ a c, v = .slice a n c := by
 rcases h.2 with ⟨rfl, rfl⟩ | ⟨g, cap, cur, rfl, _⟩
 ·exact ⟨none, 0, rfl⟩
 ·exact ⟨_, _, rfl⟩
theorem Rq.own_below {w w' : World} {B : Nat} {e : TypeId} {size : Nat} {v : Value} {n : Nat} {cs : List Value} (h : w.ownsRow B e size v n cs) (hb : Below w.heap.size w w') : w'.ownsRow B e size v n cs := by
 rcases h with ⟨hl, h | ⟨g, cap, cur, rfl, hB, hg, h4⟩⟩
 ·exact ⟨hl, .inl h⟩
 ·exact ⟨hl, .inr ⟨g, cap, cur, rfl, hB, by rw [hb.block g (Array.getElem?_eq_some_iff.1 hg).1]; exact hg, h4⟩⟩
theorem Rq.below_grown {B : Nat} {a w w' : World} {v : Value} {e : TypeId} {size n : Nat} {cs : List Value} (h : Below B a w) (hB : B ≤ w.heap.size) (ho : w.ownsRow B e size v n cs) (hg : w.grownBy w' v.ownBlock) : Below B a w' :=
 h.trans ⟨hg.os, hg.tape, hg.output, hg.size, fun j hj => hg.block j (by omega) (by
  intro he
  rcases ho.2 with ⟨rfl, _⟩ | ⟨g, cap, cur, rfl, h1, _⟩
  ·simp [Value.ownBlock] at he
  ·simp [Value.ownBlock] at he
   omega)⟩
theorem Rq.one_cell (w : World) (i : Int) (t : TypeId) : ∀ j u, [Value.int .i64 i][j]? = some u → (w.alloc (.cells #[.int .i64 i] t)).cell? ((⟨w.heap.size, 0, none⟩ : Addr).add j) = some u := by
 intro j u hj
 match j, hj with
 | 0, hj => simp at hj; subst hj; simp [Addr.add]
theorem Rq.one_one (i : Int) : ∀ u ∈ [Value.int .i64 i], u.oneCell' = true := by intro u hu; simp at hu; subst hu; rfl
def Rq.Hold (g : Nat) (lb : Array Value) (p : Nat → Bool) (n : Nat) (w : World) : Prop :=
 ∀ (W : World) (i : Nat), i < n → Below w.heap.size w W → Calls Tryz.prog g (#[.int .i64 (i : Int)] ++ lb) W fun e w' => e = .returned (.bool (p i)) ∧ Below W.heap.size W w'
set_option maxHeartbeats 4000000 in
theorem Tryz.things_any (p : Nat → Bool) (g : Nat) (lb : Array Value) (eg : ∀ args w, (callFunc g args).run Tryz.prog w = .ok (.enter g args) w) (n : Nat) (w : World) (hp : Rq.Hold g lb p n w) (hn : n ≤ 64) :
  Calls Tryz.prog 106 #[.int .i64 n, .func (.func g) #[] lb] w fun e w' => ∃ v, e = .returned v ∧ w'.ownsRow w.heap.size 3 1 v ((List.range n).filter p).length (Rq.nums ((List.range n).filter p)) ∧ Below w.heap.size w w' := by
 obtain ⟨i0, hi, hz0, hz1, hz2⟩ := info_parts Tryz.infoIntQ
 have HP : Hid _ := hp
 clear hp
 go_enter Tryz.func106, Tryz.ntmps106
 go_wp2
 go_loopg [5, 8] n (fun gk s5 s8 wr => ∃ (k r : Nat) (L : List Nat), gk + k = n ∧ s8 = .int .i64 k ∧ r ≤ k ∧ Hid (L = (List.range k).filter p ∧ L.length = r ∧ Below w.heap.size w wr) ∧ wr.ownsRow w.heap.size 3 1 s5 r (Rq.nums L))
 case atStart => exact ⟨0, 0, [], by omega, rfl, Nat.le_refl _, ⟨rfl, rfl, Below.refl _ w⟩, World.ownsRow_nil _ _ _ _⟩
 case round =>
  obtain ⟨k, r, L, hk, rfl, hr, HB, hown⟩ := hrel
  obtain ⟨av, cv, rfl⟩ := Rq.own_shape hown
  by_cases hlt : k < n
  ·have hd : decide ((k : Int) < n) = true := decide_eq_true (by omega)
   have hcall := HP.out wr k hlt HB.out.2.2
   have HF : Hid ((List.range (k + 1)).filter p = L ++ if p k = true then [k] else []) := by
     show _ = _
     rw [List.range_succ, List.filter_append, ← HB.out.1]
     cases hq : p k <;> simp [hq]
   cases hq : p k with
   | false =>
     rw [hq] at hcall HF
     clear hq
     go_wp2_with (go_at_fn g; refine hcall.mono ?_; rintro e w1 ⟨rfl, hb⟩)
     go_roundg (gk - 1)
     case measure => omega
     case rel =>
      refine ⟨k + 1, r, L, by omega, by go_num, by omega, ⟨?_, HB.out.2.1, HB.out.2.2.trans (hb.mono HB.out.2.2.size)⟩, Rq.own_below hown hb⟩
      rw [HF.out]; simp
   | true =>
     rw [hq] at hcall HF
     clear hq
     go_wp2_with (first
      | (go_at_fn g; refine hcall.mono ?_; rintro e W1 ⟨rfl, hb⟩; have own1 := Rq.own_below hown hb; have B1 : Hid (Below w.heap.size w W1) := HB.out.2.2.trans (hb.mono HB.out.2.2.size); have hs1 : w.heap.size ≤ W1.heap.size := B1.out.size; clear hb hown hcall)
      | (at_builtin; refine wpList_append_own _ rfl _ _ 51 rfl w.heap.size 3 i0 (.int .i64 0) 1 8 Tryz.underlying51 hi hz0 hz1 hz2 rfl (by decide) _ _ _ rfl (own1.alloc _) ⟨W1.heap.size, 0, none⟩ 1 1 [.int .i64 k] rfl rfl (Rq.one_cell W1 k 3) (Rq.one_one k) ?c3 ?c4 ?c5 ?_))
     case c3 => unfold maxLen; omega
     case c4 => omega
     case c5 => simp; omega
     intro v' W2 own2 g2 _
     obtain ⟨a2, c2, rfl⟩ := Rq.own_shape own2
     go_wp2
     go_roundg (gk - 1)
     case measure => omega
     case rel =>
      refine ⟨k + 1, r + 1, L ++ [k], by omega, by go_num, by omega, ⟨?_, by simp [HB.out.2.1], Rq.below_grown (B1.out.alloc hs1 _) (by simp; omega) (own1.alloc _) g2⟩, ?_⟩
      ·rw [HF.out]; simp
      ·rw [Rq.nums_snoc]; exact own2
  ·have hd : decide ((k : Int) < n) = false := decide_eq_false (by omega)
   go_wp2
   go_ret
   obtain rfl : k = n := by omega
   rw [← HB.out.1, HB.out.2.1]
   exact ⟨_, rfl, hown, HB.out.2.2⟩
end Go.Proofs
namespace Go.Proofs
open Go.RowKit Go.Shelf
theorem Rk.enters_goes : ∀ args w, (callFunc 131 args).run Tryz.prog w = .ok (.enter 131 args) w := enters_of Tryz.func131 (by kernel_rfl) rfl
theorem Rk.enters_round : ∀ args w, (callFunc 107 args).run Tryz.prog w = .ok (.enter 107 args) w := enters_of Tryz.func107 (by kernel_rfl) rfl
noncomputable def Rk.backB (es : List (Nat × Nat)) (i : Nat) (x : Int × Int) : Bool := decide (x.2 = (i : Int)) && Rk.met es i x.1.toNat
theorem Rk.back_any (es : List (Nat × Nat)) (i : Nat) : (Rk.up es).any (Rk.backB es i) = Rk.lead es i i := by
 rw [Bool.eq_iff_iff, Rk.lead_iff, List.any_eq_true]
 constructor
 ·rintro ⟨x, hx, h⟩
  obtain ⟨e, he, rfl⟩ := List.mem_map.1 hx
  simp only [Rk.backB, Bool.and_eq_true, decide_eq_true_eq, Int.toNat_natCast, Rk.met_iff] at h
  have h2 : e.2 = i := by omega
  exact ⟨e.1, h.2, by rw [← h2]; exact he⟩
 ·rintro ⟨b, h, m⟩
  refine ⟨((b : Int), (i : Int)), List.mem_map.2 ⟨(b, i), m, rfl⟩, ?_⟩
  simp [Rk.backB, Rk.met_iff, h]
set_option maxHeartbeats 2000000 in
theorem Rk.goes_pred (bi bm g n i : Nat) (es : List (Nat × Nat)) (w : World) (hes : ∀ e, e ∈ es → e.1 < n ∧ e.2 < n) (hbi : bi < w.heap.size) (hbm : bm < w.heap.size) (hci : w.cell? ⟨bi, 0, none⟩ = some (.int .i64 i)) (hcm : w.cell? ⟨bm, 0, none⟩ = some (.slice (some ⟨g, 0, none⟩) n n))
  (hb : Rq.Bits w g ((List.range n).map (Rk.met es i))) : Rk.Pred 131 #[.pointer (some ⟨bi, 0, none⟩), .pointer (some ⟨bm, 0, none⟩)] (Rk.backB es i) (Rk.up es) w := by
 intro W x y hxy hW
 show Calls Tryz.prog 131 #[.agg #[.int .i64 x, .int .i64 y], .pointer (some ⟨bi, 0, none⟩), .pointer (some ⟨bm, 0, none⟩)] W _
 obtain ⟨e, he, hee⟩ := List.mem_map.1 hxy
 obtain ⟨x, y⟩ := e
 simp only [Prod.mk.injEq] at hee
 obtain ⟨rfl, rfl⟩ := hee
 obtain ⟨hx, hy⟩ : x < n ∧ y < n := hes _ he
 have B0 : Hid (Below w.heap.size w (W.alloc (.cells #[.int .i64 x, .int .i64 y] 128))) := hW.alloc hW.size _
 have ci : W.cell? ⟨bi, 0, none⟩ = some (.int .i64 i) := (hW.cell (p := ⟨bi, 0, none⟩) hbi).trans hci
 have cm : W.cell? ⟨bm, 0, none⟩ = some (.slice (some ⟨g, 0, none⟩) n n) := (hW.cell (p := ⟨bm, 0, none⟩) hbm).trans hcm
 have cx : W.cell? ⟨g, x, none⟩ = some (.bool (Rk.met es i x)) := (hb.below hW hb.lt).cell x _ (by simp [hx])
 have hz := hW.size
 have z1 : bi < W.heap.size := by omega
 have z2 : bm < W.heap.size := by omega
 have z3 : g < W.heap.size := by have := hb.lt; omega
 have hx' : (x : Int) < n := by omega
 have HR : Hid (Rk.backB es i ((x : Int), (y : Int)) = (decide ((y : Int) = i) && Rk.met es i x)) := rfl
 obtain ⟨q, hq⟩ : ∃ q, Rk.met es i x = q := ⟨_, rfl⟩
 rw [HR.out, hq]
 rw [hq] at cx
 clear hW hb hci hcm hq HR hxy he hes
 by_cases hyi : y = i
 ·subst hyi
  go_enter Tryz.func131, Tryz.ntmps131
  go_wp2
  go_ret
  exact ⟨by simp, B0.out⟩
 ·have hd : ((y : Int) == (i : Int)) = false := by simp; omega
  have hd2 : decide ((y : Int) = (i : Int)) = false := by simp; omega
  rw [hd2]
  clear hyi hd2
  go_enter Tryz.func131, Tryz.ntmps131
  go_wp2
  go_ret
  exact ⟨by simp, B0.out⟩
set_option maxHeartbeats 4000000 in
theorem Tryz.goes_any (n i : Nat) (a : Option Addr) (c : Nat) (es : List (Nat × Nat)) (w : World) (hn : n ≤ 64) (hi : i < n) (hes : ∀ e, e ∈ es → e.1 < n ∧ e.2 < n) (hE : Rk.Eds w w.heap.size a (Rk.up es)) (hm : es.length ≤ 1000000000000000) :
  Calls Tryz.prog 108 #[.int .i64 n, .slice a es.length c, .int .i64 i] w fun e w' => e = .returned (.bool (Rk.lead es i i)) ∧ Below w.heap.size w w' := by
 have A0 : Below w.heap.size w (w.alloc (.cells #[.int .i64 i] 3)) := (Below.refl _ w).alloc (Nat.le_refl _) _
 have E0 := (hE.below A0).wider (B' := (w.alloc (.cells #[.int .i64 i] 3)).heap.size) (by simp)
 have H1 : Hid _ := Tryz.mark_any n i a c es (w.alloc (.cells #[.int .i64 i] 3)) hn hi hes E0 hm
 have HX : Hid (Below w.heap.size w (w.alloc (.cells #[.int .i64 i] 3)) ∧ Rk.Eds (w.alloc (.cells #[.int .i64 i] 3)) (w.heap.size + 1) a (Rk.up es) ∧ (∀ e, e ∈ es → e.1 < n ∧ e.2 < n) ∧ es.length ≤ 1000000000000000 ∧ (Rk.up es).length = es.length) := ⟨A0, by simpa using E0, hes, hm, Rk.up_length es⟩
 obtain ⟨q, hq⟩ : ∃ q, Rk.lead es i i = q := ⟨_, rfl⟩
 have HQ : Hid (Rk.lead es i i = q) := hq
 obtain ⟨m, hmm⟩ : ∃ m, es.length = m := ⟨_, rfl⟩
 rw [hq]
 rw [hmm] at H1 HX ⊢
 clear hE hes hm A0 E0 hq hmm
 go_enter Tryz.func108, Tryz.ntmps108
 go_wp2_with fail
 refine Calls.mono H1.out ?_
 rintro e W1 ⟨rfl, hbits, hb⟩
 have hs1 : w.heap.size + 1 < W1.heap.size := by have := hbits.lt; simpa using this
 have B2 : Below w.heap.size w (W1.alloc (.cells #[.slice (some ⟨w.heap.size + 1, 0, none⟩) n n] 151)) := (HX.out.1.trans (hb.mono (by simp))).alloc (by omega) _
 have A2 : Below W1.heap.size W1 (W1.alloc (.cells #[.slice (some ⟨w.heap.size + 1, 0, none⟩) n n] 151)) := (Below.refl _ W1).alloc (Nat.le_refl _) _
 have hci : (W1.alloc (.cells #[.slice (some ⟨w.heap.size + 1, 0, none⟩) n n] 151)).cell? ⟨w.heap.size, 0, none⟩ = some (.int .i64 i) := by
  rw [A2.cell (p := ⟨w.heap.size, 0, none⟩) (by show w.heap.size < _; omega), hb.cell (p := ⟨w.heap.size, 0, none⟩) (by simp)]
  simp
 have HP := Rk.goes_pred w.heap.size W1.heap.size (w.heap.size + 1) n i es (W1.alloc (.cells #[.slice (some ⟨w.heap.size + 1, 0, none⟩) n n] 151)) HX.out.2.2.1 (by simp; omega) (by simp) hci (by simp)
  (by simpa using hbits.below A2 (by simpa using hs1))
 have HE := ((HX.out.2.1.below (by simpa using hb)).below (A2.mono (by omega))).wider (B' := (W1.alloc (.cells #[.slice (some ⟨w.heap.size + 1, 0, none⟩) n n] 151)).heap.size) (by simp; omega)
 have hc := Tryz.contains_any (Rk.backB es i) 131 #[.pointer (some ⟨w.heap.size, 0, none⟩), .pointer (some ⟨W1.heap.size, 0, none⟩)] Rk.enters_goes a c (Rk.up es) _ HP HE (by rw [HX.out.2.2.2.2]; exact HX.out.2.2.2.1)
 rw [Rk.back_any, HQ.out, HX.out.2.2.2.2] at hc
 have HC : Hid _ := hc
 have HB2 : Hid _ := B2
 have HA2 : Hid _ := A2
 clear hbits hb B2 A2 hci HP HE hc H1 HX
 go_wp2_with fail
 refine Calls.mono HC.out ?_
 rintro e W2 ⟨rfl, hb2⟩
 have B3 : Hid (Below w.heap.size w W2) := HB2.out.trans (hb2.mono (by simp; omega))
 clear hb2
 go_wp2
 go_ret
 exact ⟨rfl, B3.out⟩
end Go.Proofs
namespace Go.Proofs
open Go.RowKit Go.Shelf
theorem Rk.inB_iff (n i : Int) : Rk.inB n i = true ↔ 0 ≤ i ∧ i < n := by simp [Rk.inB]
theorem Rk.chk_ok {n : Int} {rs : List (Int × Int)} (h : Rk.chk n rs = 0) : ∃ (k : Nat) (es : List (Nat × Nat)), n = k ∧ k ≤ 64 ∧ rs = Rk.up es ∧ es.length ≤ 256 ∧ ∀ e, e ∈ es → e.1 < k ∧ e.2 < k := by
 unfold Rk.chk at h
 split at h
 ·simp at h
 ·next h1 =>
  split at h
  ·simp at h
  ·next h2 =>
   split at h
   ·simp at h
   ·next h3 =>
    obtain ⟨k, rfl⟩ : ∃ k : Nat, n = k := ⟨n.toNat, by omega⟩
    rw [Bool.not_eq_true, List.any_eq_false] at h3
    have hr : ∀ e, e ∈ rs → 0 ≤ e.1 ∧ e.1 < k ∧ 0 ≤ e.2 ∧ e.2 < k := by
     intro e he
     have := h3 e he
     simp only [Rk.outB, Bool.or_eq_true, Bool.not_eq_true', not_or, Bool.not_eq_false, Rk.inB_iff] at this
     exact ⟨this.1.1, this.1.2, this.2.1, this.2.2⟩
    refine ⟨k, rs.map fun e => (e.1.toNat, e.2.toNat), rfl, by omega, ?_, by simp; omega, ?_⟩
    ·rw [Rk.up, List.map_map]
     symm
     refine (List.map_congr_left (fun e he => ?_)).trans (List.map_id rs)
     have := hr e he
     obtain ⟨x, y⟩ := e
     simp only [Function.comp_apply, id_eq, Prod.mk.injEq]
     omega
    ·intro e he
     obtain ⟨x, hx, rfl⟩ := List.mem_map.1 he
     have := hr x hx
     simp only
     omega
end Go.Proofs
namespace Go.Proofs
open Go.RowKit Go.Shelf
theorem Rk.own_wider {w : World} {B B' : Nat} {e : TypeId} {size : Nat} {v : Value} {n : Nat} {cs : List Value} (h : w.ownsRow B e size v n cs) (hB : B' ≤ B) : w.ownsRow B' e size v n cs := by
 rcases h with ⟨hl, h | ⟨g, cap, cur, h1, h2, h3⟩⟩
 ·exact ⟨hl, .inl h⟩
 ·exact ⟨hl, .inr ⟨g, cap, cur, h1, Nat.le_trans hB h2, h3⟩⟩
set_option maxHeartbeats 2000000 in
theorem Rk.round_hold (bn bl n c : Nat) (a : Option Addr) (es : List (Nat × Nat)) (w : World) (hn : n ≤ 64) (hes : ∀ e, e ∈ es → e.1 < n ∧ e.2 < n) (hbn : bn < w.heap.size) (hbl : bl < w.heap.size) (hcn : w.cell? ⟨bn, 0, none⟩ = some (.int .i64 n)) (hcl : w.cell? ⟨bl, 0, none⟩ = some (.slice a es.length c))
  (hE : Rk.Eds w w.heap.size a (Rk.up es)) (hm : es.length ≤ 1000000000000000) : Rq.Hold 107 #[.pointer (some ⟨bn, 0, none⟩), .pointer (some ⟨bl, 0, none⟩)] (fun i => Rk.lead es i i) n w := by
 intro W i hi hW
 show Calls Tryz.prog 107 #[.int .i64 i, .pointer (some ⟨bn, 0, none⟩), .pointer (some ⟨bl, 0, none⟩)] W _
 have c0 : W.cell? ⟨bn, 0, none⟩ = some (.int .i64 n) := (hW.cell (p := ⟨bn, 0, none⟩) hbn).trans hcn
 have c1 : W.cell? ⟨bl, 0, none⟩ = some (.slice a es.length c) := (hW.cell (p := ⟨bl, 0, none⟩) hbl).trans hcl
 have H1 : Hid _ := Tryz.goes_any n i a c es W hn hi hes ((hE.below hW).wider hW.size) hm
 clear hcn hcl hE hW hes
 go_enter Tryz.func107, Tryz.ntmps107
 go_wp2_with fail
 refine Calls.mono H1.out ?_
 rintro e W2 ⟨rfl, hb⟩
 go_wp2
 go_ret
 exact ⟨rfl, hb⟩
set_option maxHeartbeats 4000000 in
theorem Tryz.round_err (n err : Int) (a : Option Addr) (c : Nat) (rs : List (Int × Int)) (w : World) (hE : Rk.Eds w w.heap.size a rs) (hm : rs.length ≤ 1000000000000000) (he : Rk.chk n rs = err) (h0 : err ≠ 0) :
  Calls Tryz.prog 79 #[.int .i64 n, .slice a rs.length c] w fun e w' => e = .returned (.tuple #[.slice none 0 0, .int .i64 err]) ∧ Below w.heap.size w w' := by
 have A0 : Below w.heap.size w ((w.alloc (.cells #[.int .i64 n] 3)).alloc (.cells #[.slice a rs.length c] 127)) := ((Below.refl _ w).alloc (Nat.le_refl _) _).alloc (by simp) _
 have H1 : Hid _ := Tryz.rkCheck_any n a c rs ((w.alloc (.cells #[.int .i64 n] 3)).alloc (.cells #[.slice a rs.length c] 127)) ((hE.below A0).wider A0.size) hm
 rw [he] at H1
 have hd : (err == 0) = false := by simpa using h0
 have HA : Hid _ := A0
 obtain ⟨m, hmm⟩ : ∃ m, rs.length = m := ⟨_, rfl⟩
 rw [hmm] at H1 HA ⊢
 clear hE hm he hmm h0 A0
 go_enter Tryz.func79, Tryz.ntmps79
 go_wp2_with fail
 refine Calls.mono H1.out ?_
 rintro e W1 ⟨rfl, hb⟩
 go_wp2
 go_ret2
 exact ⟨rfl, HA.out.trans (hb.mono HA.out.size)⟩
set_option maxHeartbeats 4000000 in
theorem Tryz.round_ok (n : Nat) (a : Option Addr) (c : Nat) (es : List (Nat × Nat)) (w : World) (hn : n ≤ 64) (hes : ∀ e, e ∈ es → e.1 < n ∧ e.2 < n) (hE : Rk.Eds w w.heap.size a (Rk.up es)) (hm : es.length ≤ 1000000000000000) (hck : Rk.chk n (Rk.up es) = 0) :
  Calls Tryz.prog 79 #[.int .i64 n, .slice a es.length c] w fun e w' => ∃ v, e = .returned (.tuple #[v, .int .i64 0]) ∧
   w'.ownsRow w.heap.size 3 1 v ((List.range n).filter (fun i => Rk.lead es i i)).length (Rq.nums ((List.range n).filter (fun i => Rk.lead es i i))) ∧ Below w.heap.size w w' := by
 have A0 : Below w.heap.size w ((w.alloc (.cells #[.int .i64 n] 3)).alloc (.cells #[.slice a es.length c] 127)) := ((Below.refl _ w).alloc (Nat.le_refl _) _).alloc (by simp) _
 have E0 := (hE.below A0).wider A0.size
 have H1 : Hid _ := Tryz.rkCheck_any n a c (Rk.up es) ((w.alloc (.cells #[.int .i64 n] 3)).alloc (.cells #[.slice a es.length c] 127)) E0 (by rw [Rk.up_length]; exact hm)
 rw [hck, Rk.up_length] at H1
 have HX : Hid (Below w.heap.size w ((w.alloc (.cells #[.int .i64 n] 3)).alloc (.cells #[.slice a es.length c] 127)) ∧ n ≤ 64 ∧ (∀ e, e ∈ es → e.1 < n ∧ e.2 < n) ∧ Rk.Eds ((w.alloc (.cells #[.int .i64 n] 3)).alloc (.cells #[.slice a es.length c] 127)) (w.heap.size + 2) a (Rk.up es) ∧ es.length ≤ 1000000000000000) :=
  ⟨A0, hn, hes, by simpa using E0, hm⟩
 clear hE hm hn hes hck A0 E0
 go_enter Tryz.func79, Tryz.ntmps79
 go_wp2_with fail
 refine Calls.mono H1.out ?_
 rintro e W1 ⟨rfl, hb⟩
 have hb' : Below (w.heap.size + 2) ((w.alloc (.cells #[.int .i64 n] 3)).alloc (.cells #[.slice a es.length c] 127)) W1 := by simpa using hb
 have hs := hb'.size
 have hz : w.heap.size + 2 ≤ W1.heap.size := by simpa using hs
 have k0 : W1.cell? ⟨w.heap.size, 0, none⟩ = some (.int .i64 n) := by rw [hb'.cell (p := ⟨w.heap.size, 0, none⟩) (by show w.heap.size < _; omega)]; simp
 have k1 : W1.cell? ⟨w.heap.size + 1, 0, none⟩ = some (.slice a es.length c) := by rw [hb'.cell (p := ⟨w.heap.size + 1, 0, none⟩) (by show w.heap.size + 1 < _; omega)]; simp
 have H2 : Hid _ := Tryz.things_any (fun i => Rk.lead es i i) 107 #[.pointer (some ⟨w.heap.size, 0, none⟩), .pointer (some ⟨w.heap.size + 1, 0, none⟩)] Rk.enters_round n W1
  (Rk.round_hold w.heap.size (w.heap.size + 1) n c a es W1 HX.out.2.1 HX.out.2.2.1 (by omega) (by omega) k0 k1 ((HX.out.2.2.2.1.below hb').wider hz) HX.out.2.2.2.2) HX.out.2.1
 have HB : Hid (Below w.heap.size w W1) := HX.out.1.trans (hb'.mono (by omega))
 clear hb hb' hs H1 HX
 go_wp2_with fail
 refine Calls.mono H2.out ?_
 rintro e W4 ⟨v, rfl, hown, hb4⟩
 obtain ⟨av, cv, rfl⟩ := Rq.own_shape hown
 go_wp2
 go_ret2
 exact ⟨_, rfl, Rk.own_wider hown HB.out.size, HB.out.trans (hb4.mono HB.out.size)⟩
end Go.Proofs
namespace Go.Proofs
open Go.RowKit Go.Shelf
namespace Ac
def inR (n : Nat) (l : Int × Int) : Bool := decide (-1 ≤ l.1 ∧ -1 ≤ l.2 ∧ l.1 < n ∧ l.2 < n)
def insL (ls : List (Int × Int)) (n : Nat) : List Nat := (List.range (n + 1)).map fun i : Nat => ls.countP fun l => decide (l.2 + 1 = (i : Int))
def outsL (ls : List (Int × Int)) (n : Nat) : List Nat := (List.range (n + 1)).map fun i : Nat => ls.countP fun l => decide (l.1 + 1 = (i : Int))
def bet (ls : List (Int × Int)) : List (Int × Int) := ls.filter fun l => decide (0 ≤ l.1) && decide (0 ≤ l.2)
theorem insL_length (ls : List (Int × Int)) (n : Nat) : (insL ls n).length = n + 1 := by simp [insL]
theorem outsL_length (ls : List (Int × Int)) (n : Nat) : (outsL ls n).length = n + 1 := by simp [outsL]
theorem insL_at (ls : List (Int × Int)) (n i : Nat) (h : i < n + 1) : (insL ls n)[i]? = some (ls.countP fun l => decide (l.2 + 1 = (i : Int))) := by
 unfold insL
 rw [List.getElem?_map, List.getElem?_range h]
 rfl
theorem outsL_at (ls : List (Int × Int)) (n i : Nat) (h : i < n + 1) : (outsL ls n)[i]? = some (ls.countP fun l => decide (l.1 + 1 = (i : Int))) := by
 unfold outsL
 rw [List.getElem?_map, List.getElem?_range h]
 rfl
theorem insL_snoc (ls : List (Int × Int)) (n : Nat) (l : Int × Int) (k c : Nat) (hk : (k : Int) = l.2 + 1) (hn : k < n + 1) (hc : (insL ls n)[k]? = some c) : insL (ls ++ [l]) n = (insL ls n).set k (c + 1) := by
 apply List.ext_getElem?
 intro i
 rcases Nat.lt_or_ge i (n + 1) with hi | hi
 ·rw [insL_at _ _ _ hi, List.getElem?_set, insL_length]
  rw [insL_at _ _ _ hn, Option.some.injEq] at hc
  by_cases h : k = i
  ·subst h
   rw [if_pos rfl, if_pos hi, List.countP_append, hc]
   simp [hk]
  ·rw [if_neg h, insL_at _ _ _ hi, List.countP_append]
   have : ¬ l.2 + 1 = (i : Int) := by omega
   simp [this]
 ·rw [List.getElem?_eq_none (by rw [insL_length]; exact hi), List.getElem?_eq_none (by rw [List.length_set, insL_length]; exact hi)]
theorem outsL_snoc (ls : List (Int × Int)) (n : Nat) (l : Int × Int) (k c : Nat) (hk : (k : Int) = l.1 + 1) (hn : k < n + 1) (hc : (outsL ls n)[k]? = some c) : outsL (ls ++ [l]) n = (outsL ls n).set k (c + 1) := by
 apply List.ext_getElem?
 intro i
 rcases Nat.lt_or_ge i (n + 1) with hi | hi
 ·rw [outsL_at _ _ _ hi, List.getElem?_set, outsL_length]
  rw [outsL_at _ _ _ hn, Option.some.injEq] at hc
  by_cases h : k = i
  ·subst h
   rw [if_pos rfl, if_pos hi, List.countP_append, hc]
   simp [hk]
  ·rw [if_neg h, outsL_at _ _ _ hi, List.countP_append]
   have : ¬ l.1 + 1 = (i : Int) := by omega
   simp [this]
 ·rw [List.getElem?_eq_none (by rw [outsL_length]; exact hi), List.getElem?_eq_none (by rw [List.length_set, outsL_length]; exact hi)]
theorem bet_snoc (ls : List (Int × Int)) (l : Int × Int) : bet (ls ++ [l]) = bet ls ++ if (decide (0 ≤ l.1) && decide (0 ≤ l.2)) = true then [l] else [] := by
 unfold bet
 rw [List.filter_append]
 congr 1
 cases h : (decide (0 ≤ l.1) && decide (0 ≤ l.2)) <;> simp [h]
def around (T : Ac) : List Ac := .mk 0 0 0 0 (.mk 0 0 []) [] [] [] [] [] :: T.ks
def joinedAt (T : Ac) (i : Nat) : Bool := ((T.around[i]?).map fun k => joinedB k.kind k.a k.cs.length (((insL T.ls T.ks.length)[i]?).getD 0 : Nat) (((outsL T.ls T.ks.length)[i]?).getD 0 : Nat)).getD true
noncomputable def freeB (n : Nat) (rs : List (Int × Int)) : Bool := if Rk.chk n rs ≠ 0 then false else ((List.range n).filter fun i => Rk.lead (rs.map fun e => (e.1.toNat, e.2.toNat)) i i).isEmpty
noncomputable def linkedB (T : Ac) : Bool := !decide (T.ks.length = 0) && decide (T.ls.length ≤ 40) && T.ls.all (inR T.ks.length) && (List.range (T.ks.length + 1)).all T.joinedAt && freeB T.ks.length (bet T.ls)
end Ac
end Go.Proofs
