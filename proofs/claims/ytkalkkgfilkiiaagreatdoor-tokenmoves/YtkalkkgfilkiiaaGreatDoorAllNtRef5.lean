/-
  The document's Reach: which nodes are led to from one.
-/
import Derived.Test.YtkalkkgfilkiiaaGreatDoorAllNtThreeR
import Derived.Test.YtkalkkgfilkiiaaGreatDoorAllNtIns
import Derived.Deep.DeepCutAuto
import Derived.Deep.OwnRows
import Derived.WalkMore
import Derived.Test.YtkalkkgfilkiiaaGreatDoorNtRef4
import Derived.Test.YtkalkkgfilkiiaaGreatDoorNtAll
namespace Go.Proofs
open Go.RowKit Go.Shelf

/-- Marks in a block of their own. -/
def Rk.Bits (w : World) (g : Nat) (bs : List Bool) : Prop := w.heap[g]? = some (.cells (bs.map Value.bool).toArray 4 (0, 0))
theorem Rk.Bits.lt {w : World} {g : Nat} {bs : List Bool} (h : Rk.Bits w g bs) : g < w.heap.size := (Array.getElem?_eq_some_iff.1 h).1
theorem Rk.Bits.cell {w : World} {g : Nat} {bs : List Bool} (h : Rk.Bits w g bs) (j : Nat) (b : Bool) (hj : bs[j]? = some b) : w.cell? ⟨g, j, none⟩ = some (.bool b) := by
  unfold Rk.Bits at h
  simp [World.cell?, h, hj]
theorem Rk.Bits.frozen {w : World} {g : Nat} {bs : List Bool} (h : Rk.Bits w g bs) (j : Nat) : w.frozen? ⟨g, j, none⟩ = false := by
  unfold Rk.Bits at h
  simp [World.frozen?, h]
theorem Rk.Bits.put {w : World} {g : Nat} {bs : List Bool} (h : Rk.Bits w g bs) (j : Nat) (b : Bool) : Rk.Bits (w.setCell ⟨g, j, none⟩ (.bool b)) g (bs.set j b) := by
  unfold Rk.Bits at *
  simp [World.setCell, Array.getElem?_modify, h]
theorem Rk.Bits.keep {w w' : World} {g : Nat} {bs : List Bool} (h : Rk.Bits w g bs) (hk : w'.heap[g]? = w.heap[g]?) : Rk.Bits w' g bs := by unfold Rk.Bits; rw [hk]; exact h
theorem Tryz.infoBool : (Tryz.prog.info? 4).map (fun i => (i.zero, i.size, i.bytes)) = some (some (.bool false), 1, 1) := by kernel_rfl
theorem Nt.box2' {W : World} {b : Nat} {v u : Value} {t : TypeId} (h : W.heap[b]? = some (.cells #[v, u] t (0, 0))) : W.cell? ⟨b, 0, none⟩ = some v ∧ W.cell? ⟨b, 1, none⟩ = some u := ⟨by simp [World.cell?, h], by simp [World.cell?, h]⟩
def Rk.row (n : Nat) : Array Value := ((List.replicate n false).map Value.bool).toArray
theorem Rk.make_bools (n : Nat) (hn : n ≤ 64) (w : World) : (Instr.makeSlice 96 (.int .i64 (n : Int)) (.int .i64 (n : Int))).run Tryz.prog w = .ok (.slice (some ⟨w.heap.size, 0, none⟩) n n) (w.alloc (.cells (Rk.row n) 4)) := by
  have h := run_make_row' (P := Tryz.prog) 96 4 (.bool false) 1 Tryz.underlying96 Tryz.infoBool rfl .i64 .i64 n (by omega) (by omega) w
  rw [h, show madeCells #[Value.bool false] n = Rk.row n from ?_]
  apply Array.toList_inj.1
  rw [toList_madeCells_one]
  simp [Rk.row]
theorem Rk.row_bits (w : World) (n : Nat) : Rk.Bits (w.alloc (.cells (Rk.row n) 4)) w.heap.size (List.replicate n false) := heap_alloc_new w (.cells (Rk.row n) 4)
theorem Rk.drop_at {α : Type} (l : List α) (k : Nat) (h : k < l.length) : l.drop k = l[k] :: l.drop (k + 1) := List.drop_eq_getElem_cons h

set_option maxRecDepth 20000 in
set_option maxHeartbeats 8000000 in
theorem Tryz.rReach_any (a0 : Nat) (an : Option Addr) (cn : Nat) (af : Option Addr) (cf d : Nat) (ns : List Nd) (fs : List Fl) (w : World) (hH : Nt.Has w w.heap.size d an af ns fs) (hn24 : ns.length ≤ 24) (hes : ∀ f, f ∈ fs → 0 ≤ f.fr ∧ f.fr < ns.length ∧ 0 ≤ f.to ∧ f.to < ns.length) (ha : a0 < ns.length) :
    Calls Tryz.prog 36 #[.agg #[.slice an ns.length cn, .slice af fs.length cf], .int .i64 a0] w fun e w' => ∃ g, e = .returned (.slice (some ⟨g, 0, none⟩) ns.length ns.length) ∧ w.heap.size ≤ g ∧ Rk.Bits w' g ((List.range ns.length).map (Rk.met (Nt.edges fs) a0)) ∧ Below w.heap.size w w' := by
  obtain ⟨w0, hw0⟩ : ∃ x, w.alloc (.cells #[.slice an ns.length cn, .slice af fs.length cf] 25) = x := ⟨_, rfl⟩
  have A0 : Below w.heap.size w w0 := by rw [← hw0]; exact (Below.refl _ w).alloc (Nat.le_refl _) _
  have G0 : w0.heap[w.heap.size]? = some (.cells #[.slice an ns.length cn, .slice af fs.length cf] 25 (0, 0)) := by rw [← hw0]; exact heap_alloc_new w _
  have hs0 : w0.heap.size = w.heap.size + 1 := by rw [← hw0]; simp
  have hmet := Nt.sweeps_met (Nt.edges_lt hes) ha
  have hmk := Rk.make_bools ns.length (by omega)
  obtain ⟨es, hE⟩ : ∃ l, Nt.edges fs = l := ⟨_, rfl⟩
  rw [hE] at hmet
  have HES : Hid (∀ k (h : k < fs.length), ∃ x y : Nat, x < ns.length ∧ y < ns.length ∧ fs[k].fr = x ∧ fs[k].to = y ∧ es[k]? = some (x, y)) := fun k hk => by
    have := hes _ (List.getElem_mem hk)
    refine ⟨fs[k].fr.toNat, fs[k].to.toNat, by omega, by omega, by omega, by omega, ?_⟩
    rw [← hE, List.getElem?_eq_getElem (by rw [Nt.edges_length]; exact hk), Nt.edges_get fs k hk]
  have hel : es.length = fs.length := by rw [← hE, Nt.edges_length]
  obtain ⟨n, hnn⟩ : ∃ n, ns.length = n := ⟨_, rfl⟩
  obtain ⟨m, hmm⟩ : ∃ n, fs.length = n := ⟨_, rfl⟩
  have HFL : Hid (Nt.Fls w w.heap.size d af fs) := hH.fls
  have hm100 : m ≤ 100 := by have := hH.flen; omega
  rw [hnn] at hn24 ha hmet hmk HES
  rw [hnn, hmm] at hw0 G0
  rw [hE, hnn, hmm]
  have ha' : (a0 : Int) < n := by omega
  have ha0 : (0 : Int) ≤ a0 := by omega
  have H0 : Hid (w.alloc (.cells #[.slice an n cn, .slice af m cf] 25) = w0) := hw0
  obtain ⟨w1, hw1⟩ : ∃ x, w0.alloc (.cells (Rk.row n) 4) = x := ⟨_, rfl⟩
  have X1 : Rk.Bits w1 w0.heap.size (List.replicate n false) := by rw [← hw1]; exact Rk.row_bits w0 n
  have A1 : Below w.heap.size w w1 := by rw [← hw1]; exact A0.alloc A0.size _
  have G1 : w1.heap[w.heap.size]? = some (.cells #[.slice an n cn, .slice af m cf] 25 (0, 0)) := by rw [← hw1, Below.heap_alloc _ _ _ ((Array.getElem?_eq_some_iff.1 G0).1)]; exact G0
  have k0 := X1.cell a0 false (by simp [ha])
  have k1 := X1.frozen a0
  have Y1 : Rk.Bits (w1.setCell ⟨w0.heap.size, a0, none⟩ (.bool true)) w0.heap.size ((List.replicate n false).set a0 true) := X1.put a0 true
  obtain ⟨w2, hw2⟩ : ∃ x, w1.setCell ⟨w0.heap.size, a0, none⟩ (.bool true) = x := ⟨_, rfl⟩
  rw [hw2] at Y1
  -- what a world on the way holds
  have HK2 : Hid (w2.heap[w.heap.size]? = some (.cells #[.slice an n cn, .slice af m cf] 25 (0, 0)) ∧ Below w.heap.size w w2 ∧ Rk.Bits w2 w0.heap.size ((List.replicate n false).set a0 true)) := by
    refine ⟨?_, ?_, Y1⟩
    · rw [← hw2, Below.heap_setCell _ _ _ _ (by show w.heap.size ≠ w0.heap.size; omega)]; exact G1
    · rw [← hw2]; exact A1.setCell (p := ⟨w0.heap.size, a0, none⟩) (by show w.heap.size ≤ w0.heap.size; omega) _
  have HW1 : Hid (w0.alloc (.cells (Rk.row n) 4) = w1) := hw1
  have HW2 : Hid (w1.setCell ⟨w0.heap.size, a0, none⟩ (.bool true) = w2) := hw2
  have HM : Hid (Rk.sweeps es n ((List.replicate n false).set a0 true) = (List.range n).map (Rk.met es a0) ∧ es.length = m ∧ w0.heap.size = w.heap.size + 1 ∧ fs.length = m) := ⟨hmet, by omega, hs0, hmm⟩
  obtain ⟨p0, p1⟩ := Nt.box2' G0
  obtain ⟨p2, p3⟩ := Nt.box2' G1
  obtain ⟨b2, hb2⟩ : ∃ z, w0.heap.size = z := ⟨_, rfl⟩
  have HB2 : Hid (w0.heap.size = b2) := hb2
  have hlt0 : w.heap.size < w0.heap.size := by omega
  clear hH hes hmet hE hel hnn hmm A0 G0 A1 G1 X1 Y1 hw0 hw1 hw2 hs0 hb2
  go_enter Tryz.func36, Tryz.ntmps36
  go_upto_region 1 with fail
  rw [H0.out]
  go_upto_region 2 with fail
  rw [HW1.out]
  go_upto_region 3 with fail
  rw [HW2.out]
  obtain ⟨q0, q1⟩ := Nt.box2' HK2.out.1
  clear p0 p1 p2 p3 k0 k1 hmk H0 HW1 HW2
  rw [HB2.out]
  rw [HB2.out] at HK2 HM
  go_wp2
  go_loopg [18] n (fun gk s18 wr => ∃ (j : Nat) (cur : List Bool), gk + j = n ∧ s18 = .int .i64 j ∧ Hid (Rk.sweeps es (n - j) cur = (List.range n).map (Rk.met es a0) ∧ cur.length = n ∧ Rk.Bits wr b2 cur ∧ Below w.heap.size w wr ∧ wr.heap[w.heap.size]? = some (.cells #[.slice an n cn, .slice af m cf] 25 (0, 0))))
  case atStart => exact ⟨0, _, by omega, rfl, HM.out.1, by simp, HK2.out.2.2, HK2.out.2.1, HK2.out.1⟩
  case round =>
    obtain ⟨j, cur, hj, rfl, HI⟩ := hrel
    clear q0 q1
    by_cases hlt : j < n
    · have hd : decide ((j : Int) < n) = true := decide_eq_true (by omega)
      obtain ⟨q0, q1⟩ := Nt.box2' HI.out.2.2.2.2
      have HSW : Hid (Rk.sweeps es (n - (j + 1)) (Rk.sweep es cur) = (List.range n).map (Rk.met es a0)) := by
        show _ = _
        rw [← HI.out.1, show n - j = (n - (j + 1)) + 1 by omega, Rk.sweeps]
      obtain ⟨g1, hg1⟩ : ∃ x, gk = x := ⟨_, rfl⟩
      go_wp2
      go_loopg [23] m (fun gk s23 wr => ∃ (k : Nat) (cu2 : List Bool), gk + k = m ∧ s23 = .int .i64 k ∧ Hid (Rk.sweep (es.drop k) cu2 = Rk.sweep es cur ∧ cu2.length = n ∧ Rk.Bits wr b2 cu2 ∧ Below w.heap.size w wr ∧ wr.heap[w.heap.size]? = some (.cells #[.slice an n cn, .slice af m cf] 25 (0, 0))))
      case atStart => exact ⟨0, cur, by omega, rfl, rfl, HI.out.2.1, HI.out.2.2.1, HI.out.2.2.2.1, HI.out.2.2.2.2⟩
      case round =>
        obtain ⟨k, cu2, hk, rfl, HJ⟩ := hrel
        clear q0 q1
        by_cases hlt2 : k < m
        · have hd2 : decide ((k : Int) < m) = true := decide_eq_true (by omega)
          have hkl : k < fs.length := by rw [HM.out.2.2.2]; exact hlt2
          obtain ⟨q, off, u, rfl, hq, h0, h1, h2, h3, h4, h5, h6⟩ := HFL.out k hkl
          obtain ⟨x, y, hx, hy, hfx, hfy, hek⟩ := HES.out k hkl
          obtain ⟨au, cu, rfl⟩ := h6.shape
          rw [hfx] at h0
          rw [hfy] at h1
          obtain ⟨nu, hnu⟩ : ∃ n, fs[k].c.ks.length = n := ⟨_, rfl⟩
          obtain ⟨els, hel⟩ : ∃ x, fs[k].els = x := ⟨_, rfl⟩
          obtain ⟨op, hop⟩ : ∃ x, fs[k].c.op = x := ⟨_, rfl⟩
          obtain ⟨num, hnum⟩ : ∃ x, fs[k].c.num = x := ⟨_, rfl⟩
          rw [hnu] at h5
          rw [hel] at h2
          rw [hop] at h3
          rw [hnum] at h4
          have hc : ∀ o, wr.cell? ⟨q, o, none⟩ = w.cell? ⟨q, o, none⟩ := fun o => HJ.out.2.2.2.1.cell (p := ⟨q, o, none⟩) hq
          have c0 := (hc _).trans h0
          have c1 := (hc _).trans h1
          have c2 := (hc _).trans h2
          have c3 := (hc _).trans h3
          have c4 := (hc _).trans h4
          have c5 := (hc _).trans h5
          have hx' : (x : Int) < n := by omega
          have hy' : (y : Int) < n := by omega
          have hx0 : (0 : Int) ≤ x := by omega
          have hy0 : (0 : Int) ≤ y := by omega
          have hz : b2 < wr.heap.size := HJ.out.2.2.1.lt
          have hu := Tryz.underlying73
          obtain ⟨b1, hb1⟩ : ∃ b, cu2[x]? = some b := ⟨_, List.getElem?_eq_getElem (by rw [HJ.out.2.1]; exact hx)⟩
          obtain ⟨b3, hb3⟩ : ∃ b, cu2[y]? = some b := ⟨_, List.getElem?_eq_getElem (by rw [HJ.out.2.1]; exact hy)⟩
          have k1 := HJ.out.2.2.1.cell x b1 hb1
          have k2 := HJ.out.2.2.1.cell y b3 hb3
          have f2 := HJ.out.2.2.1.frozen y
          have hbx : w.heap.size < wr.heap.size := (Array.getElem?_eq_some_iff.1 HJ.out.2.2.2.2).1
          have HNX : Hid (Rk.sweep (es.drop (k + 1)) (if b1 = true then cu2.set y true else cu2) = Rk.sweep es cur) := by
            show _ = _
            rw [← HJ.out.1, Rk.drop_at es k (by rw [HM.out.2.1]; exact hlt2), Rk.sweep]
            obtain ⟨hh, he⟩ := List.getElem?_eq_some_iff.1 hek
            rw [he]
            congr 1
            simp only [hb1, Option.some.injEq]
          have HA : Hid (Rk.Bits (wr.alloc (.cells #[.int .i64 (x : Int), .int .i64 (y : Int), .bool els, .int .i64 op, .int .i64 num, .slice au nu cu] 73)) b2 cu2 ∧ Below w.heap.size w (wr.alloc (.cells #[.int .i64 (x : Int), .int .i64 (y : Int), .bool els, .int .i64 op, .int .i64 num, .slice au nu cu] 73)) ∧ (wr.alloc (.cells #[.int .i64 (x : Int), .int .i64 (y : Int), .bool els, .int .i64 op, .int .i64 num, .slice au nu cu] 73)).heap[w.heap.size]? = some (.cells #[.slice an n cn, .slice (some ⟨q, off, none⟩) m cf] 25 (0, 0))) :=
            ⟨HJ.out.2.2.1.keep (Below.heap_alloc _ _ _ hz), HJ.out.2.2.2.1.alloc HJ.out.2.2.2.1.size _, by rw [Below.heap_alloc _ _ _ hbx]; exact HJ.out.2.2.2.2⟩
          have hne : w.heap.size ≠ b2 := by have := HM.out.2.2.1; omega
          have HS : Hid (Rk.Bits ((wr.setCell ⟨b2, y, none⟩ (.bool true)).alloc (.cells #[.int .i64 (x : Int), .int .i64 (y : Int), .bool els, .int .i64 op, .int .i64 num, .slice au nu cu] 73)) b2 (cu2.set y true) ∧ Below w.heap.size w ((wr.setCell ⟨b2, y, none⟩ (.bool true)).alloc (.cells #[.int .i64 (x : Int), .int .i64 (y : Int), .bool els, .int .i64 op, .int .i64 num, .slice au nu cu] 73)) ∧ ((wr.setCell ⟨b2, y, none⟩ (.bool true)).alloc (.cells #[.int .i64 (x : Int), .int .i64 (y : Int), .bool els, .int .i64 op, .int .i64 num, .slice au nu cu] 73)).heap[w.heap.size]? = some (.cells #[.slice an n cn, .slice (some ⟨q, off, none⟩) m cf] 25 (0, 0))) :=
            ⟨(HJ.out.2.2.1.put y true).keep (Below.heap_alloc _ _ _ (by simpa using hz)), (HJ.out.2.2.2.1.setCell (p := ⟨b2, y, none⟩) (by show w.heap.size ≤ b2; have := HM.out.2.2.1; omega) _).alloc (by simpa using HJ.out.2.2.2.1.size) _, by rw [Below.heap_alloc _ _ _ (by simpa using hbx), Below.heap_setCell _ _ _ _ hne]; exact HJ.out.2.2.2.2⟩
          clear h0 h1 h2 h3 h4 h5 h6 hc hnu hel hop hnum hq hfx hfy hek hb1 hb3
          cases b1
          · go_wp2
            go_roundg (gk - 1)
            case measure => omega
            case rel => exact ⟨k + 1, _, by omega, by go_num, HNX.out, HJ.out.2.1, HA.out.1, HA.out.2.1, HA.out.2.2⟩
          · go_wp2
            go_roundg (gk - 1)
            case measure => omega
            case rel => exact ⟨k + 1, _, by omega, by go_num, HNX.out, by simpa using HJ.out.2.1, HS.out.1, HS.out.2.1, HS.out.2.2⟩
        · have hd2 : decide ((k : Int) < m) = false := decide_eq_false (by omega)
          have HF : Hid (cu2 = Rk.sweep es cur) := by
            show _ = _
            rw [← HJ.out.1, List.drop_of_length_le (by rw [HM.out.2.1]; omega)]
            rfl
          go_wp2
          go_roundg (g1 - 1)
          case measure => omega
          case rel => exact ⟨j + 1, cu2, by omega, by go_num, by rw [HF.out]; exact HSW.out, HJ.out.2.1, HJ.out.2.2.1, HJ.out.2.2.2.1, HJ.out.2.2.2.2⟩
    · have hd : decide ((j : Int) < n) = false := decide_eq_false (by omega)
      have HF : Hid (cur = (List.range n).map (Rk.met es a0)) := by
        show _ = _
        rw [← HI.out.1, show n - j = 0 by omega]
        rfl
      go_wp2
      go_ret
      exact ⟨b2, rfl, by have := HM.out.2.2.1; omega, by rw [← HF.out]; exact HI.out.2.2.1, HI.out.2.2.2.1⟩

end Go.Proofs

namespace Go.Proofs
open Go.RowKit Go.Shelf

/-- The first place of which it holds, of so many. -/
theorem Nt.head_filter {n : Nat} {p : Nat → Bool} {k : Nat} (hk : k < n) (hp : p k = true) (h : ∀ i, i < k → p i = false) : ((List.range n).filter p).headD 0 = k ∧ (List.range n).filter p ≠ [] := by
  have e : (List.range n).filter p = k :: ((List.range n).filter p).tail := by
    have h1 : List.range n = List.range k ++ (k :: (List.range (n - k - 1)).map (k + 1 + ·)) := by
      rw [show List.range n = List.range (k + (1 + (n - k - 1))) by congr 1; omega, List.range_add, List.range_add]
      simp [Function.comp_def, Nat.add_assoc]
    rw [h1, List.filter_append, List.filter_cons_of_pos hp]
    have h2 : (List.range k).filter p = [] := List.filter_eq_nil_iff.2 fun i hi => by rw [h i (List.mem_range.1 hi)]; simp
    rw [h2]
    rfl
  rw [e]
  exact ⟨rfl, by simp⟩
theorem Nt.filter_none {n : Nat} {p : Nat → Bool} (h : ∀ i, i < n → p i = false) : (List.range n).filter p = [] := List.filter_eq_nil_iff.2 fun i hi => by rw [h i (List.mem_range.1 hi)]; simp
theorem Nt.check_at {ns : List Nd} {fs : List Fl} {j a : Nat} (hj : j < 4) (hb : ∀ i, i < j → Nt.wrongAt ns fs i = []) (h : Nt.wrongAt ns fs j ≠ []) (ha : (Nt.wrongAt ns fs j).headD 0 = a) : Nt.checkN ns fs = (j + 1, a) := by
  rw [Nt.checkN, Nt.broken_at hj hb h, ← ha]
theorem Nt.check_none {ns : List Nd} {fs : List Fl} (hb : ∀ i, i < 4 → Nt.wrongAt ns fs i = []) : Nt.checkN ns fs = (0, 0) := by rw [Nt.checkN, Nt.broken_none hb]; rfl
/-- The first of a kind is ahead of all others. -/
theorem Nt.first_le {ns : List Nd} {k : Int} {i : Nat} (hi : i < ns.length) (hk : ns[i].kind = k) : 0 ≤ Nt.firstI ns k ∧ Nt.firstI ns k ≤ i := by
  unfold Nt.firstI
  cases h : ns.findIdx? (fun x => decide (x.kind = k)) with
  | none =>
    have := List.findIdx?_eq_none_iff.1 h ns[i] (List.getElem_mem hi)
    simp [hk] at this
  | some j =>
    obtain ⟨hj, _, h2⟩ := List.findIdx?_eq_some_iff_getElem.1 h
    refine ⟨by simp, ?_⟩
    rcases Nat.lt_or_ge i j with hlt | hge
    · have := h2 i hlt
      simp [hk] at this
    · simp; exact hge
/-- Rule 3 at a node, as the document says it. -/
theorem Nt.joint_eq {ns : List Nd} {fs : List Fl} {i : Nat} (hi : i < ns.length) : (!Nt.jointB ns fs i) = (!Nt.threeB ns fs i || (decide (ns[i].kind = 1) && decide (Nt.firstI ns 1 < (i : Int))) || (decide (ns[i].kind = 2) && decide (Nt.firstI ns 2 < (i : Int)))) := by
  unfold Nt.jointB
  rw [Nt.kindAt_get ns i hi]
  have h1 : ns[i].kind = 1 → (!decide ((i : Int) = Nt.firstI ns 1)) = decide (Nt.firstI ns 1 < (i : Int)) := fun hk => by
    have := Nt.first_le hi hk
    rw [← decide_not]
    exact decide_eq_decide.2 (by omega)
  have h2 : ns[i].kind = 2 → (!decide ((i : Int) = Nt.firstI ns 2)) = decide (Nt.firstI ns 2 < (i : Int)) := fun hk => by
    have := Nt.first_le hi hk
    rw [← decide_not]
    exact decide_eq_decide.2 (by omega)
  by_cases k1 : ns[i].kind = 1
  · rw [h1 k1, decide_eq_true k1, decide_eq_false (show ¬ ns[i].kind = 2 by omega)]
    cases Nt.threeB ns fs i <;> cases decide (Nt.firstI ns 1 < (i : Int)) <;> rfl
  · by_cases k2 : ns[i].kind = 2
    · rw [h2 k2, decide_eq_true k2, decide_eq_false k1]
      cases Nt.threeB ns fs i <;> cases decide (Nt.firstI ns 2 < (i : Int)) <;> rfl
    · rw [decide_eq_false k1, decide_eq_false k2]
      cases Nt.threeB ns fs i <;> rfl

/-- The worlds that the document's Check goes through: its box, and its answer's. -/
structure Nt.Kw (w : World) (box : Array Value) (W : World) : Prop where
  below : Below w.heap.size w W
  box : W.heap[w.heap.size]? = some (.cells box 25 (0, 0))
  ans : W.heap[w.heap.size + 1]? = some (.cells #[.int .i64 0, .int .i64 0] 57 (0, 0))
theorem Nt.Kw.next {w : World} {box : Array Value} {W W' : World} (h : Nt.Kw w box W) (hb : Below W.heap.size W W') : Nt.Kw w box W' :=
  ⟨h.below.trans (hb.mono h.below.size), by rw [hb.block _ (Nt.lt_of h.box)]; exact h.box, by rw [hb.block _ (Nt.lt_of h.ans)]; exact h.ans⟩
theorem Nt.Kw.alloc {w : World} {box : Array Value} {W : World} (h : Nt.Kw w box W) (o : Obj) : Nt.Kw w box (W.alloc o) := h.next ((Below.refl _ W).alloc (Nat.le_refl _) o)
/-- What is stored as the answer, and what the call then comes to. -/
theorem Nt.Kw.ends {w : World} {box : Array Value} {W : World} (h : Nt.Kw w box W) (r a : Int) (tmps : Array Value) (ht : tmps.getD 2 undef = .pointer (some ⟨w.heap.size + 1, 0, none⟩)) :
    (results Tryz.f19 tmps).run Tryz.prog (W.setRow (w.heap.size + 1) #[.int .i64 r, .int .i64 a]) = .ok (.agg #[.int .i64 r, .int .i64 a]) (W.setRow (w.heap.size + 1) #[.int .i64 r, .int .i64 a]) ∧ Below w.heap.size w (W.setRow (w.heap.size + 1) #[.int .i64 r, .int .i64 a]) :=
  ⟨results_cell_row Tryz.results19 _ _ (w.heap.size + 1) 57 #[.int .i64 r, .int .i64 a] (0, 0) _ ht (setRow_heap _ _ _ _ _ _ h.ans) Tryz.underlying57 rfl (by kernel_rfl), Tk.below_row h.below (by omega) _⟩


end Go.Proofs
