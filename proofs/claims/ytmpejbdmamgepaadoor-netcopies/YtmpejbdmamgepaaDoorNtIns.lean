/-
  Ins and Outs.
-/
import Derived.Test.YtmpejbdmamgepaaDoorNtPlaces
import Derived.Lib.Hide
namespace Go.Proofs
open Go.RowKit Go.Shelf

/-- A box that holds a process. -/
theorem Nt.box_net {w1 : World} {b : Nat} {v u : Value} (h : w1.heap[b]? = some (.cells #[v, u] 25 (0, 0))) : w1.cell? ⟨b, 0, none⟩ = some v ∧ w1.cell? ⟨b, 1, none⟩ = some u := ⟨by simp [World.cell?, h], by simp [World.cell?, h]⟩

set_option maxRecDepth 20000 in
set_option maxHeartbeats 1600000 in
theorem Tryd.ins1_any (i : Int) (k : Nat) (bn bi : Nat) (_an : Option Addr) (_n _cn : Nat) (af : Option Addr) (cf B d : Nat) (fs : List Fl) (w : World) (hF : Nt.Fls w B d af fs) (_hB : B ≤ w.heap.size) (hk : k < fs.length) (_hl : fs.length ≤ 100)
    (c1 : w.cell? ⟨bn, 1, none⟩ = some (.slice af fs.length cf)) (ci : w.cell? ⟨bi, 0, none⟩ = some (.int .i64 i)) :
    Calls Tryd.prog 32 #[.int .i64 k, .pointer (some ⟨bn, 0, none⟩), .pointer (some ⟨bi, 0, none⟩)] w fun e w' => e = .returned (.bool (decide (fs[k].to = i))) ∧ Below w.heap.size w w' := by
  obtain ⟨q, off, u, rfl, hq, h0, h1, h2, h3, h4, h5, h6⟩ := hF k hk
  obtain ⟨x1, hx1⟩ : ∃ x, fs[k].to = x := ⟨_, rfl⟩
  rw [hx1] at h1 ⊢
  obtain ⟨m, hm⟩ : ∃ m, fs.length = m := ⟨_, rfl⟩
  rw [hm] at c1
  have hkm : (k : Int) < m := by omega
  have hk0 : (0 : Int) ≤ k := by omega
  have B0 : Hid (∀ j, Below w.heap.size w (w.drewN j)) := fun j => Tk.below_drewN (Below.refl _ w) j
  clear h0 h2 h3 h4 h5 h6 hx1 hF hk hm
  go_enter Tryd.func32, Tryd.ntmps32
  go_wp2
  go_quiet (fail)
  go_wp2
  go_ret
  exact ⟨Tk.ret_bool rfl, by first | exact B0.out _ | exact Below.refl _ w⟩
set_option maxRecDepth 20000 in
set_option maxHeartbeats 1600000 in
theorem Tryd.outs1_any (i : Int) (k : Nat) (bn bi : Nat) (_an : Option Addr) (_n _cn : Nat) (af : Option Addr) (cf B d : Nat) (fs : List Fl) (w : World) (hF : Nt.Fls w B d af fs) (_hB : B ≤ w.heap.size) (hk : k < fs.length) (_hl : fs.length ≤ 100)
    (c1 : w.cell? ⟨bn, 1, none⟩ = some (.slice af fs.length cf)) (ci : w.cell? ⟨bi, 0, none⟩ = some (.int .i64 i)) :
    Calls Tryd.prog 33 #[.int .i64 k, .pointer (some ⟨bn, 0, none⟩), .pointer (some ⟨bi, 0, none⟩)] w fun e w' => e = .returned (.bool (decide (fs[k].fr = i))) ∧ Below w.heap.size w w' := by
  obtain ⟨q, off, u, rfl, hq, h0, h1, h2, h3, h4, h5, h6⟩ := hF k hk
  obtain ⟨x1, hx1⟩ : ∃ x, fs[k].fr = x := ⟨_, rfl⟩
  rw [hx1] at h0 ⊢
  obtain ⟨m, hm⟩ : ∃ m, fs.length = m := ⟨_, rfl⟩
  rw [hm] at c1
  have hkm : (k : Int) < m := by omega
  have hk0 : (0 : Int) ≤ k := by omega
  have B0 : Hid (∀ j, Below w.heap.size w (w.drewN j)) := fun j => Tk.below_drewN (Below.refl _ w) j
  clear h1 h2 h3 h4 h5 h6 hx1 hF hk hm
  go_enter Tryd.func33, Tryd.ntmps33
  go_wp2
  go_quiet (fail)
  go_wp2
  go_ret
  exact ⟨Tk.ret_bool rfl, by first | exact B0.out _ | exact Below.refl _ w⟩

theorem Nt.enters_ins : ∀ args w, (callFunc 32 args).run Tryd.prog w = .ok (.enter 32 args) w := enters_of Tryd.func32 (by kernel_rfl) rfl
theorem Nt.enters_outs : ∀ args w, (callFunc 33 args).run Tryd.prog w = .ok (.enter 33 args) w := enters_of Tryd.func33 (by kernel_rfl) rfl

/-- What Ins, Outs and other lists of places come to: a row of the call's own. -/
def Nt.Gives (l : List Nat) (w : World) (e : Ending) (w' : World) : Prop := ∃ v, e = .returned v ∧ w'.ownsRow w.heap.size 3 1 v l.length (Rk.nums l) ∧ Below w.heap.size w w'
theorem Nt.own_lower {w : World} {B B' : Nat} {e : TypeId} {size : Nat} {v : Value} {n : Nat} {cs : List Value} (h : w.ownsRow B e size v n cs) (hB : B' ≤ B) : w.ownsRow B' e size v n cs := by
  rcases h with ⟨hl, h | ⟨g, cap, cur, rfl, hB2, hg, h4⟩⟩
  · exact ⟨hl, .inl h⟩
  · exact ⟨hl, .inr ⟨g, cap, cur, rfl, by omega, hg, h4⟩⟩

set_option maxHeartbeats 1600000 in
theorem Tryd.nIns_any (i : Int) (an : Option Addr) (n cn : Nat) (af : Option Addr) (cf d : Nat) (fs : List Fl) (w : World) (hF : Nt.Fls w w.heap.size d af fs) (hl : fs.length ≤ 100) :
    Calls Tryd.prog 14 #[.agg #[.slice an n cn, .slice af fs.length cf], .int .i64 i] w fun e w' => Nt.Gives (Nt.insL fs i) w e w' := by
  obtain ⟨w1, hw1⟩ : ∃ x, (w.alloc (.cells #[.slice an n cn, .slice af fs.length cf] 25)).alloc (.cells #[.int .i64 i] 3) = x := ⟨_, rfl⟩
  have A1 : Below w.heap.size w w1 := by rw [← hw1]; exact ((Below.refl _ w).alloc (Nat.le_refl _) _).alloc (by simp) _
  have hs1 : w1.heap.size = w.heap.size + 2 := by rw [← hw1]; simp
  have C1 : w1.cell? ⟨w.heap.size + 1, 0, none⟩ = some (.int .i64 i) := by
    rw [← hw1]
    have := heap_alloc_new (w.alloc (.cells #[.slice an n cn, .slice af fs.length cf] 25)) (.cells #[.int .i64 i] 3)
    simp at this
    simp [World.cell?, this]
  have C0 : w1.cell? ⟨w.heap.size, 1, none⟩ = some (.slice af fs.length cf) := by
    have : w1.heap[w.heap.size]? = some (.cells #[.slice an n cn, .slice af fs.length cf] 25 (0, 0)) := by rw [← hw1, Below.heap_alloc _ _ _ (by simp)]; exact heap_alloc_new w _
    simp [World.cell?, this]
  have h := Tryd.places_any (fun k => decide ((fs[k]?.map Fl.to) = some i)) 32 #[.pointer (some ⟨w.heap.size, 0, none⟩), .pointer (some ⟨w.heap.size + 1, 0, none⟩)] Nt.enters_ins fs.length w1 (fun W k hk hb => by
    have h := Tryd.ins1_any i k w.heap.size (w.heap.size + 1) an n cn af cf w.heap.size d fs W (hF.below (A1.trans (hb.mono (by omega)))) (by have := hb.size; omega) hk hl
      (by rw [hb.cell (p := ⟨w.heap.size, 1, none⟩) (by show w.heap.size < w1.heap.size; omega)]; exact C0) (by rw [hb.cell (p := ⟨w.heap.size + 1, 0, none⟩) (by show w.heap.size + 1 < w1.heap.size; omega)]; exact C1)
    refine h.mono fun e w' h => ⟨?_, h.2⟩
    show e = Ending.returned (Value.bool (decide ((fs[k]?.map Fl.to) = some i)))
    rw [h.1, List.getElem?_eq_getElem hk]
    simp) (by omega)
  obtain ⟨l, hl2⟩ : ∃ l, Nt.insL fs i = l := ⟨_, rfl⟩
  rw [show (List.range fs.length).filter (fun k => decide ((fs[k]?.map Fl.to) = some i)) = Nt.insL fs i from rfl, hl2] at h
  obtain ⟨m, hm⟩ : ∃ n, fs.length = n := ⟨_, rfl⟩
  rw [hm] at h hw1
  rw [hl2, hm]
  have HC : Hid _ := h
  have H1 : Hid ((w.alloc (.cells #[.slice an n cn, .slice af m cf] 25)).alloc (.cells #[.int .i64 i] 3) = w1) := hw1
  have HA : Hid (Below w.heap.size w w1) := A1
  clear h hF hl hl2 hm hw1 A1 hs1 C1 C0
  go_enter Tryd.func14, Tryd.ntmps14
  go_wp2_with fail
  rw [H1.out]
  refine Calls.mono HC.out ?_
  rintro e W ⟨v, rfl, how, hb⟩
  have B2 : Hid (W.ownsRow w.heap.size 3 1 v l.length (Rk.nums l) ∧ Below w.heap.size w W) := ⟨Nt.own_lower how HA.out.size, HA.out.trans (hb.mono HA.out.size)⟩
  clear hb HC how
  go_wp2
  go_ret
  exact ⟨v, rfl, B2.out.1, B2.out.2⟩

set_option maxHeartbeats 1600000 in
theorem Tryd.nOuts_any (i : Int) (an : Option Addr) (n cn : Nat) (af : Option Addr) (cf d : Nat) (fs : List Fl) (w : World) (hF : Nt.Fls w w.heap.size d af fs) (hl : fs.length ≤ 100) :
    Calls Tryd.prog 16 #[.agg #[.slice an n cn, .slice af fs.length cf], .int .i64 i] w fun e w' => Nt.Gives (Nt.outsL fs i) w e w' := by
  obtain ⟨w1, hw1⟩ : ∃ x, (w.alloc (.cells #[.slice an n cn, .slice af fs.length cf] 25)).alloc (.cells #[.int .i64 i] 3) = x := ⟨_, rfl⟩
  have A1 : Below w.heap.size w w1 := by rw [← hw1]; exact ((Below.refl _ w).alloc (Nat.le_refl _) _).alloc (by simp) _
  have hs1 : w1.heap.size = w.heap.size + 2 := by rw [← hw1]; simp
  have C1 : w1.cell? ⟨w.heap.size + 1, 0, none⟩ = some (.int .i64 i) := by
    rw [← hw1]
    have := heap_alloc_new (w.alloc (.cells #[.slice an n cn, .slice af fs.length cf] 25)) (.cells #[.int .i64 i] 3)
    simp at this
    simp [World.cell?, this]
  have C0 : w1.cell? ⟨w.heap.size, 1, none⟩ = some (.slice af fs.length cf) := by
    have : w1.heap[w.heap.size]? = some (.cells #[.slice an n cn, .slice af fs.length cf] 25 (0, 0)) := by rw [← hw1, Below.heap_alloc _ _ _ (by simp)]; exact heap_alloc_new w _
    simp [World.cell?, this]
  have h := Tryd.places_any (fun k => decide ((fs[k]?.map Fl.fr) = some i)) 33 #[.pointer (some ⟨w.heap.size, 0, none⟩), .pointer (some ⟨w.heap.size + 1, 0, none⟩)] Nt.enters_outs fs.length w1 (fun W k hk hb => by
    have h := Tryd.outs1_any i k w.heap.size (w.heap.size + 1) an n cn af cf w.heap.size d fs W (hF.below (A1.trans (hb.mono (by omega)))) (by have := hb.size; omega) hk hl
      (by rw [hb.cell (p := ⟨w.heap.size, 1, none⟩) (by show w.heap.size < w1.heap.size; omega)]; exact C0) (by rw [hb.cell (p := ⟨w.heap.size + 1, 0, none⟩) (by show w.heap.size + 1 < w1.heap.size; omega)]; exact C1)
    refine h.mono fun e w' h => ⟨?_, h.2⟩
    show e = Ending.returned (Value.bool (decide ((fs[k]?.map Fl.fr) = some i)))
    rw [h.1, List.getElem?_eq_getElem hk]
    simp) (by omega)
  obtain ⟨l, hl2⟩ : ∃ l, Nt.outsL fs i = l := ⟨_, rfl⟩
  rw [show (List.range fs.length).filter (fun k => decide ((fs[k]?.map Fl.fr) = some i)) = Nt.outsL fs i from rfl, hl2] at h
  obtain ⟨m, hm⟩ : ∃ n, fs.length = n := ⟨_, rfl⟩
  rw [hm] at h hw1
  rw [hl2, hm]
  have HC : Hid _ := h
  have H1 : Hid ((w.alloc (.cells #[.slice an n cn, .slice af m cf] 25)).alloc (.cells #[.int .i64 i] 3) = w1) := hw1
  have HA : Hid (Below w.heap.size w w1) := A1
  clear h hF hl hl2 hm hw1 A1 hs1 C1 C0
  go_enter Tryd.func16, Tryd.ntmps16
  go_wp2_with fail
  rw [H1.out]
  refine Calls.mono HC.out ?_
  rintro e W ⟨v, rfl, how, hb⟩
  have B2 : Hid (W.ownsRow w.heap.size 3 1 v l.length (Rk.nums l) ∧ Below w.heap.size w W) := ⟨Nt.own_lower how HA.out.size, HA.out.trans (hb.mono HA.out.size)⟩
  clear hb HC how
  go_wp2
  go_ret
  exact ⟨v, rfl, B2.out.1, B2.out.2⟩

end Go.Proofs
