/-
  Rule 2: wrongFlows.
-/
import Derived.Test.YtiedlccnlkhnkaaDoorNtTwo
namespace Go.Proofs
open Go.RowKit Go.Shelf

/-- An array in a new block. -/
theorem Nt.arr_new (W w2 : World) (cs : Array Value) (h : (W.alloc (.cells Tryd.zeroCells101 101)).setRow W.heap.size cs = w2) : w2.heap[W.heap.size]? = some (.cells cs 101 (0, 0)) ∧ Below W.heap.size W w2 ∧ w2.heap.size = W.heap.size + 1 := by
  subst h
  refine ⟨setRow_heap _ _ _ _ _ _ (heap_alloc_new W _), Tk.below_row ((Below.refl _ W).alloc (Nat.le_refl _) _) (Nat.le_refl _) _, by simp [World.setRow]⟩

set_option maxRecDepth 20000 in
set_option maxHeartbeats 4000000 in
theorem Tryd.wrongFlows_any (an : Option Addr) (cn : Nat) (af : Option Addr) (cf d : Nat) (ns : List Nd) (fs : List Fl) (w : World) (hH : Nt.Has w w.heap.size d an af ns fs) (hO : Tk.Ops w) (hn : ns.length ≤ 24) :
    Calls Tryd.prog 36 #[.agg #[.slice an ns.length cn, .slice af fs.length cf]] w fun e w' => Nt.Gives (Nt.wrong2 ns fs) w e w' := by
  obtain ⟨w1, hw1⟩ : ∃ x, w.alloc (.cells #[.slice an ns.length cn, .slice af fs.length cf] 25) = x := ⟨_, rfl⟩
  have A1 : Below w.heap.size w w1 := by rw [← hw1]; exact (Below.refl _ w).alloc (Nat.le_refl _) _
  have C0 : w1.heap[w.heap.size]? = some (.cells #[.slice an ns.length cn, .slice af fs.length cf] 25 (0, 0)) := by rw [← hw1]; exact heap_alloc_new w _
  have hc := Tryd.count_any an ns.length cn af cf d fs w1 ((hH.fls.below A1).wider A1.size) hH.flen hn
  obtain ⟨n, hnn⟩ : ∃ n, ns.length = n := ⟨_, rfl⟩
  obtain ⟨m, hmm⟩ : ∃ n, fs.length = n := ⟨_, rfl⟩
  obtain ⟨l, hl⟩ : ∃ l, Nt.wrong2 ns fs = l := ⟨_, rfl⟩
  have HP : Hid (∀ (w2 : World) (cs : Array Value) (bj : Nat), Below w1.heap.size w1 w2 → Nt.Joints cs fs n → w2.heap[bj]? = some (.cells cs 101 (0, 0)) →
      Calls Tryd.prog 52 #[.int .i64 m, .func (.func 59) #[] #[.pointer (some ⟨w.heap.size, 0, none⟩), .pointer (some ⟨bj, 0, none⟩)]] w2 fun e w' => ∃ v, e = .returned v ∧ w'.ownsRow w2.heap.size 3 1 v l.length (Rk.nums l) ∧ Below w2.heap.size w2 w') := fun w2 cs bj hb2 hJ hbj => by
    have hb1 : Below w.heap.size w w2 := A1.trans (hb2.mono A1.size)
    have h := Tryd.places_any (fun i => !((fs[i]?.map (Nt.twoB ns fs)).getD true)) 59 #[.pointer (some ⟨w.heap.size, 0, none⟩), .pointer (some ⟨bj, 0, none⟩)] Nt.enters_flows fs.length w2 (fun W k hk hb => by
      have hbw : Below w.heap.size w W := hb1.trans (hb.mono hb1.size)
      have h := Tryd.flows1_any k w.heap.size bj an cn af cf w.heap.size d ns fs cs W (hH.below hbw) hbw.size hk hn (hO.below hbw hO.lt) (by rw [hnn]; exact hJ)
        ⟨by rw [(hb2.trans (hb.mono hb2.size)).block _ (Nt.lt_of C0)]; exact C0, by rw [hb.block _ (Nt.lt_of hbj)]; exact hbj⟩
      refine h.mono fun e w' h => ⟨?_, h.2⟩
      show e = Ending.returned (Value.bool (!((fs[k]?.map (Nt.twoB ns fs)).getD true)))
      rw [h.1, List.getElem?_eq_getElem hk]
      rfl) (by have := hH.flen; omega)
    rw [show (List.range fs.length).filter (fun i => !((fs[i]?.map (Nt.twoB ns fs)).getD true)) = l from hl, hmm] at h
    exact h
  have HBX : Hid (∀ w2, Below w1.heap.size w1 w2 → w2.cell? ⟨w.heap.size, 0, none⟩ = some (.slice an n cn) ∧ w2.cell? ⟨w.heap.size, 1, none⟩ = some (.slice af m cf)) := fun w2 hb => by
    have := Nt.box2 ((hb.block _ (Nt.lt_of C0)).trans C0)
    rw [hnn, hmm] at this
    exact this
  rw [hnn, hmm] at hc hw1
  rw [hl, hnn, hmm]
  have HC : Hid _ := hc
  have H1 : Hid (w.alloc (.cells #[.slice an n cn, .slice af m cf] 25) = w1) := hw1
  have HA : Hid (Below w.heap.size w w1) := A1
  have HL : Hid (fs.length = m ∧ m ≤ 100) := ⟨hmm, by have := hH.flen; omega⟩
  clear hc hH hO hn hnn hmm hl hw1 A1 C0
  go_enter Tryd.func36, Tryd.ntmps36
  go_wp2_with fail
  rw [H1.out]
  refine Calls.mono HC.out ?_
  rintro e W1 ⟨cs, rfl, hJ, hb⟩
  have B1 : Hid (Below w1.heap.size w1 W1) := hb
  have HJ : Hid (Nt.Joints cs fs n) := hJ
  have hi : (Tryd.prog.info? 101).map (·.size) = some cs.size := by rw [hJ.1]; kernel_rfl
  have hi1 : Tryd.zeroCells101.size = cs.size := by rw [hJ.1]; kernel_rfl
  obtain ⟨w2, hw2⟩ : ∃ x, (W1.alloc (.cells Tryd.zeroCells101 101)).setRow W1.heap.size cs = x := ⟨_, rfl⟩
  have HN : Hid _ := Nt.arr_new W1 w2 cs hw2
  have HW2 : Hid ((W1.alloc (.cells Tryd.zeroCells101 101)).setRow W1.heap.size cs = w2) := hw2
  have B2 : Hid (Below w1.heap.size w1 w2) := B1.out.trans (HN.out.2.1.mono B1.out.size)
  have HZ : Hid _ := heap_alloc_new W1 (.cells Tryd.zeroCells101 101)
  obtain ⟨p0, p1⟩ := HBX.out w2 B2.out
  clear hb hJ HC hw2
  go_wp2_with (refine wpList_store_row rfl 101 _ _ rfl W1.heap.size cs rfl rfl 101 Tryd.zeroCells101 (by exact HZ.out) hi hi1 HJ.out.2.1 ?_; rw [HW2.out])
  refine Calls.mono (HP.out w2 cs W1.heap.size B2.out HJ.out HN.out.1) ?_
  rintro e W3 ⟨v, rfl, how, hb3⟩
  have B3 : Hid (W3.ownsRow w.heap.size 3 1 v l.length (Rk.nums l) ∧ Below w.heap.size w W3) := ⟨Nt.own_lower how (Nat.le_trans HA.out.size B2.out.size), HA.out.trans ((B2.out.trans (hb3.mono B2.out.size)).mono HA.out.size)⟩
  clear hb3 HP how
  go_wp2
  go_ret
  exact ⟨v, rfl, B3.out.1, B3.out.2⟩

end Go.Proofs
