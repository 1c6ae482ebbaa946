import Derived.Test.YtndfbgfpnjnmlaaGreatDoorRGmMoves
import Derived.Test.YtndfbgfpnjnmlaaGreatDoorRGmDXor
namespace Go.Proofs
open Go.RowKit Go.Shelf
namespace Gm
def doR (ce : Int) (steps : List (Mv × List Int)) (i : Int) : List Int × (Int × Int × Int) × Int :=
 if ce ≠ 0 then (zeros, (0, 0, 0), ce) else if i < 0 ∨ (steps.length : Int) ≤ i then (zeros, (0, 0, 0), 6) else match steps[i.toNat]? with
  | none => (zeros, (0, 0, 0), 6)
  | some p => (p.2, (p.1.k, p.1.ln, p.1.la), 0)
theorem goes_to (want : Int) : ∀ (a : List (Mv × List Int)) (p : List Mv × List Int) (k : Nat), (want = p.1.length + k) → (h : k < a.length) → (goes want p a).2 = a[k].2
 | [], p, k, _, h => by simp at h
 | (m, t) :: r, p, 0, hw, h => by
   rw [goes, if_pos (by omega)]
   have : ∀ (r : List (Mv × List Int)) (p : List Mv × List Int), want < p.1.length → (goes want p r).2 = p.2 := by
    intro r
    induction r with
    | nil => intro p _; rfl
    | cons x r ih =>
      intro p hp
      obtain ⟨m', t'⟩ := x
      rw [goes, ih _ (by simp; omega), if_neg (by omega)]
   rw [this r _ (by simp; omega)]; rfl
 | (m, t) :: r, p, k + 1, hw, h => by
   rw [goes, goes_to want r _ k (by simp; omega) (by simpa using h)]; rfl
theorem results3 {fn : Func} {p u v : Tmp} {ty ty' : TypeId} (h : fn.results = #[.cell p ty, .cell u ty', .tmp v]) (tmps : Array Value) (w : World) (q q' : Nat) (cs cs' : Array Value)
  (hp : tmps.getD p undef = .pointer (some ⟨q, 0, none⟩)) (hr : (loadVar ty ⟨q, 0, none⟩).run Tryz.prog w = .ok (.agg cs) w) (hp' : tmps.getD u undef = .pointer (some ⟨q', 0, none⟩)) (hr' : (loadVar ty' ⟨q', 0, none⟩).run Tryz.prog w = .ok (.agg cs') w) :
  (results fn tmps).run Tryz.prog w = .ok (.tuple #[.agg cs, .agg cs', tmps.getD v undef]) w := by
 have e1 : tmps[p]?.getD undef = .pointer (some ⟨q, 0, none⟩) := by simpa using hp
 have e2 : tmps[u]?.getD undef = .pointer (some ⟨q', 0, none⟩) := by simpa using hp'
 simp [results, h, e1, e2, asAddr, hr, hr']
theorem mvs_get : ∀ (ms : List Mv) (k o : Nat) (h : k < ms.length), o < 5 → (mvs ms)[k * 5 + o]? = (mvC ms[k])[o]?
 | [], k, o, h, _ => by simp at h
 | m :: r, 0, o, h, ho => by
   have : mvs (m :: r) = mvC m ++ mvs r := by simp [mvs]
   rw [this, List.getElem?_append_left (by simp [mvC]; omega)]
   simp
 | m :: r, k + 1, o, h, ho => by
   have : mvs (m :: r) = mvC m ++ mvs r := by simp [mvs]
   rw [this, List.getElem?_append_right (by simp [mvC]; omega)]
   have e : (k + 1) * 5 + o - (mvC m).length = k * 5 + o := by simp [mvC]; omega
   rw [e, mvs_get r k o (by simpa using h) ho]
   simp
def labC (x : Int × Int × Int) : Array Value := #[.int .i64 x.1, .int .i64 x.2.1, .int .i64 x.2.2]
end Gm
set_option maxRecDepth 20000 in
set_option maxHeartbeats 32000000 in
theorem Tryz.tDo_any (an : Option Addr) (n cn : Nat) (af : Option Addr) (m cf : Nat) (l : List Int) (i : Int) (X : World) (d : Nat) (ns : List Nd) (fs : List Fl) (hH : Nt.Has X X.heap.size d an af ns fs) (hn : ns.length = n) (hm : fs.length = m) (hll : l.length = 49) (hO : Tk.Ops X) :
  Calls Tryz.prog 16 #[.agg #[.slice an n cn, .slice af m cf], .agg (Gm.ints l).toArray, .int .i64 i] X fun e w' => e = .returned (.tuple #[.agg (Gm.ints (Gm.doR (Gm.checkE ns fs l) (Gm.allS ns fs l) i).1).toArray, .agg (Gm.labC (Gm.doR (Gm.checkE ns fs l) (Gm.allS ns fs l) i).2.1), .int .i64 (Gm.doR (Gm.checkE ns fs l) (Gm.allS ns fs l) i).2.2]) ∧ Below X.heap.size X w' := by
 obtain ⟨w1, hw1⟩ : ∃ z, (((X.alloc (.cells #[.slice an n cn, .slice af m cf] 25)).alloc (.cells (Gm.ints l).toArray 29)).alloc (.cells #[.int .i64 0, .int .i64 0, .int .i64 0, .int .i64 0, .int .i64 0, .int .i64 0, .int .i64 0, .int .i64 0, .int .i64 0, .int .i64 0, .int .i64 0, .int .i64 0, .int .i64 0, .int .i64 0, .int .i64 0, .int .i64 0, .int .i64 0, .int .i64 0, .int .i64 0, .int .i64 0, .int .i64 0, .int .i64 0, .int .i64 0, .int .i64 0, .int .i64 0, .int .i64 0, .int .i64 0, .int .i64 0, .int .i64 0, .int .i64 0, .int .i64 0, .int .i64 0, .int .i64 0, .int .i64 0, .int .i64 0, .int .i64 0, .int .i64 0, .int .i64 0, .int .i64 0, .int .i64 0, .int .i64 0, .int .i64 0, .int .i64 0, .int .i64 0, .int .i64 0, .int .i64 0, .int .i64 0, .int .i64 0, .int .i64 0] 29)).alloc (.cells #[.int .i64 0, .int .i64 0, .int .i64 0] 46) = z := ⟨_, rfl⟩
 have A1 : Below X.heap.size X w1 := by rw [← hw1]; exact ((((Below.refl _ X).alloc (Nat.le_refl _) _).alloc (by simp) _).alloc (by simp; omega) _).alloc (by simp; omega) _
 have P0 : w1.heap[X.heap.size]? = some (.cells #[.slice an n cn, .slice af m cf] 25 (0, 0)) := by
  rw [← hw1, Below.heap_alloc _ _ _ (by simp; omega), Below.heap_alloc _ _ _ (by simp; omega), Below.heap_alloc _ _ _ (by simp)]; exact heap_alloc_new X _
 have P1 : w1.heap[X.heap.size + 1]? = some (.cells (Gm.ints l).toArray 29 (0, 0)) := by
  rw [← hw1, Below.heap_alloc _ _ _ (by simp), Below.heap_alloc _ _ _ (by simp)]
  have := heap_alloc_new (X.alloc (.cells #[.slice an n cn, .slice af m cf] 25)) (.cells (Gm.ints l).toArray 29)
  simpa using this
 have P2 : w1.heap[X.heap.size + 1 + 1]? = some (.cells #[.int .i64 0, .int .i64 0, .int .i64 0, .int .i64 0, .int .i64 0, .int .i64 0, .int .i64 0, .int .i64 0, .int .i64 0, .int .i64 0, .int .i64 0, .int .i64 0, .int .i64 0, .int .i64 0, .int .i64 0, .int .i64 0, .int .i64 0, .int .i64 0, .int .i64 0, .int .i64 0, .int .i64 0, .int .i64 0, .int .i64 0, .int .i64 0, .int .i64 0, .int .i64 0, .int .i64 0, .int .i64 0, .int .i64 0, .int .i64 0, .int .i64 0, .int .i64 0, .int .i64 0, .int .i64 0, .int .i64 0, .int .i64 0, .int .i64 0, .int .i64 0, .int .i64 0, .int .i64 0, .int .i64 0, .int .i64 0, .int .i64 0, .int .i64 0, .int .i64 0, .int .i64 0, .int .i64 0, .int .i64 0, .int .i64 0] 29 (0, 0)) := by
  rw [← hw1, Below.heap_alloc _ _ _ (by simp)]
  have := heap_alloc_new ((X.alloc (.cells #[.slice an n cn, .slice af m cf] 25)).alloc (.cells (Gm.ints l).toArray 29)) (.cells #[.int .i64 0, .int .i64 0, .int .i64 0, .int .i64 0, .int .i64 0, .int .i64 0, .int .i64 0, .int .i64 0, .int .i64 0, .int .i64 0, .int .i64 0, .int .i64 0, .int .i64 0, .int .i64 0, .int .i64 0, .int .i64 0, .int .i64 0, .int .i64 0, .int .i64 0, .int .i64 0, .int .i64 0, .int .i64 0, .int .i64 0, .int .i64 0, .int .i64 0, .int .i64 0, .int .i64 0, .int .i64 0, .int .i64 0, .int .i64 0, .int .i64 0, .int .i64 0, .int .i64 0, .int .i64 0, .int .i64 0, .int .i64 0, .int .i64 0, .int .i64 0, .int .i64 0, .int .i64 0, .int .i64 0, .int .i64 0, .int .i64 0, .int .i64 0, .int .i64 0, .int .i64 0, .int .i64 0, .int .i64 0, .int .i64 0] 29)
  simpa using this
 have P3 : w1.heap[X.heap.size + 1 + 1 + 1]? = some (.cells #[.int .i64 0, .int .i64 0, .int .i64 0] 46 (0, 0)) := by
  rw [← hw1]
  have := heap_alloc_new (((X.alloc (.cells #[.slice an n cn, .slice af m cf] 25)).alloc (.cells (Gm.ints l).toArray 29)).alloc (.cells #[.int .i64 0, .int .i64 0, .int .i64 0, .int .i64 0, .int .i64 0, .int .i64 0, .int .i64 0, .int .i64 0, .int .i64 0, .int .i64 0, .int .i64 0, .int .i64 0, .int .i64 0, .int .i64 0, .int .i64 0, .int .i64 0, .int .i64 0, .int .i64 0, .int .i64 0, .int .i64 0, .int .i64 0, .int .i64 0, .int .i64 0, .int .i64 0, .int .i64 0, .int .i64 0, .int .i64 0, .int .i64 0, .int .i64 0, .int .i64 0, .int .i64 0, .int .i64 0, .int .i64 0, .int .i64 0, .int .i64 0, .int .i64 0, .int .i64 0, .int .i64 0, .int .i64 0, .int .i64 0, .int .i64 0, .int .i64 0, .int .i64 0, .int .i64 0, .int .i64 0, .int .i64 0, .int .i64 0, .int .i64 0, .int .i64 0] 29)) (.cells #[.int .i64 0, .int .i64 0, .int .i64 0] 46)
  simpa using this
 have hu := Tryz.underlying29
 have huL := Tryz.underlying46
 have e1 : (Tryz.prog.info? 29).map (·.size) = some (Gm.ints l).toArray.size := by
  have h : (Gm.ints l).toArray.size = 49 := by simpa [Gm.ints_length] using hll
  rw [h]; show _ = _; kernel_rfl
 have k0 : w1.cell? ⟨X.heap.size, 0, none⟩ = some (.slice an n cn) := by simp [World.cell?, P0]
 have k1 : w1.cell? ⟨X.heap.size, 1, none⟩ = some (.slice af m cf) := by simp [World.cell?, P0]
 have CC : Hid _ := Tryz.tCheck_any an n cn af m cf l w1 d ns fs ((hH.below A1).wider A1.size) hn hm hll (hO.below A1 hO.lt)
 obtain ⟨ce, hce⟩ : ∃ z, Gm.checkE ns fs l = z := ⟨_, rfl⟩
 rw [hce] at CC
 obtain ⟨⟨R1, R2, R3⟩, hR⟩ : ∃ z, Gm.doR (Gm.checkE ns fs l) (Gm.allS ns fs l) i = z := ⟨_, rfl⟩
 rw [hR]
 have HBOX : Hid (∀ W, Below w1.heap.size w1 W → W.cell? ⟨X.heap.size, 0, none⟩ = some (.slice an n cn) ∧ W.cell? ⟨X.heap.size, 1, none⟩ = some (.slice af m cf) ∧ W.heap[X.heap.size + 1]? = some (.cells (Gm.ints l).toArray 29 (0, 0)) ∧ W.heap[X.heap.size + 1 + 1]? = some (.cells #[.int .i64 0, .int .i64 0, .int .i64 0, .int .i64 0, .int .i64 0, .int .i64 0, .int .i64 0, .int .i64 0, .int .i64 0, .int .i64 0, .int .i64 0, .int .i64 0, .int .i64 0, .int .i64 0, .int .i64 0, .int .i64 0, .int .i64 0, .int .i64 0, .int .i64 0, .int .i64 0, .int .i64 0, .int .i64 0, .int .i64 0, .int .i64 0, .int .i64 0, .int .i64 0, .int .i64 0, .int .i64 0, .int .i64 0, .int .i64 0, .int .i64 0, .int .i64 0, .int .i64 0, .int .i64 0, .int .i64 0, .int .i64 0, .int .i64 0, .int .i64 0, .int .i64 0, .int .i64 0, .int .i64 0, .int .i64 0, .int .i64 0, .int .i64 0, .int .i64 0, .int .i64 0, .int .i64 0, .int .i64 0, .int .i64 0] 29 (0, 0)) ∧ W.heap[X.heap.size + 1 + 1 + 1]? = some (.cells #[.int .i64 0, .int .i64 0, .int .i64 0] 46 (0, 0)) ∧ Below X.heap.size X W) := fun W hW => by
  have h0 : W.heap[X.heap.size]? = some (.cells #[.slice an n cn, .slice af m cf] 25 (0, 0)) := by rw [hW.block _ (Gm.blk_lt P0)]; exact P0
  exact ⟨by simp [World.cell?, h0], by simp [World.cell?, h0], by rw [hW.block _ (Gm.blk_lt P1)]; exact P1, by rw [hW.block _ (Gm.blk_lt P2)]; exact P2, by rw [hW.block _ (Gm.blk_lt P3)]; exact P3, A1.trans (hW.mono A1.size)⟩
 have HW1 : Hid _ := hw1
 have HZ : Hid (∀ W (t : Int), Below w1.heap.size w1 W → Gm.zeros = R1 ∧ (0, 0, 0) = R2 ∧ t = R3 → True) := fun _ _ _ _ => trivial
 clear HZ
 by_cases hc0 : ce = 0
 case neg =>
  have e0 : (ce != 0) = true := by simpa using hc0
  have HE : Hid (Gm.zeros = R1 ∧ (0, 0, 0) = R2 ∧ ce = R3) := by
   unfold Gm.doR at hR
   rw [hce, if_pos hc0] at hR
   injection hR with h1 h2
   injection h2 with h2 h3
   exact ⟨h1, h2, h3⟩
  clear hw1 P0 A1 hce hR hH hn hm hll hO hc0 P2 P3
  go_enter Tryz.func16, Tryz.ntmps16
  go_upto_region 1 with fail
  rw [HW1.out]
  clear HW1
  go_wp2_with (first
   | refine wpList_load_row rfl 29 _ rfl _ rfl 29 (Gm.ints l).toArray (0, 0) _ P1 hu rfl e1 ?_
   | fail)
  refine Calls.mono CC.out ?_
  rintro e W2 ⟨rfl, b2⟩
  obtain ⟨-, -, -, N2, N3, hBX⟩ := HBOX.out W2 b2
  have HBX : Hid (Below X.heap.size X W2) := hBX
  have N3' : (W2.setRow (X.heap.size + 1 + 1) #[.int .i64 0, .int .i64 0, .int .i64 0, .int .i64 0, .int .i64 0, .int .i64 0, .int .i64 0, .int .i64 0, .int .i64 0, .int .i64 0, .int .i64 0, .int .i64 0, .int .i64 0, .int .i64 0, .int .i64 0, .int .i64 0, .int .i64 0, .int .i64 0, .int .i64 0, .int .i64 0, .int .i64 0, .int .i64 0, .int .i64 0, .int .i64 0, .int .i64 0, .int .i64 0, .int .i64 0, .int .i64 0, .int .i64 0, .int .i64 0, .int .i64 0, .int .i64 0, .int .i64 0, .int .i64 0, .int .i64 0, .int .i64 0, .int .i64 0, .int .i64 0, .int .i64 0, .int .i64 0, .int .i64 0, .int .i64 0, .int .i64 0, .int .i64 0, .int .i64 0, .int .i64 0, .int .i64 0, .int .i64 0, .int .i64 0]).heap[X.heap.size + 1 + 1 + 1]? = some (.cells #[.int .i64 0, .int .i64 0, .int .i64 0] 46 (0, 0)) := by rw [setRow_other _ _ _ _ (by omega)]; exact N3
  clear b2 P1 k0 k1 CC hBX
  go_wp2_with (first
   | refine wpList_store_row rfl 29 _ _ rfl (X.heap.size + 1 + 1) #[.int .i64 0, .int .i64 0, .int .i64 0, .int .i64 0, .int .i64 0, .int .i64 0, .int .i64 0, .int .i64 0, .int .i64 0, .int .i64 0, .int .i64 0, .int .i64 0, .int .i64 0, .int .i64 0, .int .i64 0, .int .i64 0, .int .i64 0, .int .i64 0, .int .i64 0, .int .i64 0, .int .i64 0, .int .i64 0, .int .i64 0, .int .i64 0, .int .i64 0, .int .i64 0, .int .i64 0, .int .i64 0, .int .i64 0, .int .i64 0, .int .i64 0, .int .i64 0, .int .i64 0, .int .i64 0, .int .i64 0, .int .i64 0, .int .i64 0, .int .i64 0, .int .i64 0, .int .i64 0, .int .i64 0, .int .i64 0, .int .i64 0, .int .i64 0, .int .i64 0, .int .i64 0, .int .i64 0, .int .i64 0, .int .i64 0] rfl rfl 29 _ N2 (by kernel_rfl) rfl (by kernel_rfl) ?_
   | refine wpList_store_row rfl 46 _ _ rfl (X.heap.size + 1 + 1 + 1) #[.int .i64 0, .int .i64 0, .int .i64 0] rfl rfl 46 _ N3' (by kernel_rfl) rfl (by kernel_rfl) ?_)
  refine bodyPost_ret (Gm.results3 Tryz.results16 _ _ (X.heap.size + 1 + 1) (X.heap.size + 1 + 1 + 1) #[.int .i64 0, .int .i64 0, .int .i64 0, .int .i64 0, .int .i64 0, .int .i64 0, .int .i64 0, .int .i64 0, .int .i64 0, .int .i64 0, .int .i64 0, .int .i64 0, .int .i64 0, .int .i64 0, .int .i64 0, .int .i64 0, .int .i64 0, .int .i64 0, .int .i64 0, .int .i64 0, .int .i64 0, .int .i64 0, .int .i64 0, .int .i64 0, .int .i64 0, .int .i64 0, .int .i64 0, .int .i64 0, .int .i64 0, .int .i64 0, .int .i64 0, .int .i64 0, .int .i64 0, .int .i64 0, .int .i64 0, .int .i64 0, .int .i64 0, .int .i64 0, .int .i64 0, .int .i64 0, .int .i64 0, .int .i64 0, .int .i64 0, .int .i64 0, .int .i64 0, .int .i64 0, .int .i64 0, .int .i64 0, .int .i64 0] #[.int .i64 0, .int .i64 0, .int .i64 0] rfl (run_loadVar_row _ (X.heap.size + 1 + 1) 29 29 #[.int .i64 0, .int .i64 0, .int .i64 0, .int .i64 0, .int .i64 0, .int .i64 0, .int .i64 0, .int .i64 0, .int .i64 0, .int .i64 0, .int .i64 0, .int .i64 0, .int .i64 0, .int .i64 0, .int .i64 0, .int .i64 0, .int .i64 0, .int .i64 0, .int .i64 0, .int .i64 0, .int .i64 0, .int .i64 0, .int .i64 0, .int .i64 0, .int .i64 0, .int .i64 0, .int .i64 0, .int .i64 0, .int .i64 0, .int .i64 0, .int .i64 0, .int .i64 0, .int .i64 0, .int .i64 0, .int .i64 0, .int .i64 0, .int .i64 0, .int .i64 0, .int .i64 0, .int .i64 0, .int .i64 0, .int .i64 0, .int .i64 0, .int .i64 0, .int .i64 0, .int .i64 0, .int .i64 0, .int .i64 0, .int .i64 0] (0, 0) _ (by rw [setRow_other _ _ _ _ (by omega)]; exact setRow_heap _ _ _ _ _ _ N2) hu rfl (by kernel_rfl)) rfl (run_loadVar_row _ (X.heap.size + 1 + 1 + 1) 46 46 #[.int .i64 0, .int .i64 0, .int .i64 0] (0, 0) _ (setRow_heap _ _ _ _ _ _ N3') huL rfl (by kernel_rfl))) rfl ⟨?_, Tk.below_row (Tk.below_row HBX.out (by omega) _) (by omega) _⟩
  rw [← HE.out.1, ← HE.out.2.1, ← HE.out.2.2]
  rfl
 case pos =>
 have e0 : (ce != 0) = false := by simpa using hc0
 obtain ⟨hRt, hS, hQ⟩ := Gm.check_ok hll (by rw [hce]; exact hc0)
 obtain ⟨St, hSt⟩ : ∃ z, Gm.stepsL ns fs l = z := ⟨_, rfl⟩
 have hall : Gm.allS ns fs l = St := by unfold Gm.allS; rw [hce, if_neg (by simpa using hc0)]; exact hSt
 obtain ⟨gm, hgm⟩ : ∃ z, (Gm.goes i ([], Gm.zeros) St).2 = z := ⟨_, rfl⟩
 have hml : (Gm.goes i ([], Gm.zeros) St).1 = St.map (·.1) := by rw [Gm.goes_moves]; rfl
 have HCP : Hid (∀ W, Below w1.heap.size w1 W → Calls Tryz.prog 27 #[.agg #[.slice an n cn, .slice af m cf], .agg (Gm.ints l).toArray, .int .i64 i] W fun e w' => ∃ (b : Nat) (v : Value), e = .returned (.pointer (some ⟨b, 0, none⟩)) ∧ Hid (Gm.At w' b an n cn af m cf l v i gm ∧ w'.ownsRow W.heap.size 80 5 v St.length (Gm.mvs (St.map (·.1))) ∧ Below w1.heap.size w1 w' ∧ W.heap.size ≤ b)) := fun W hW => by
  have hXW : Below X.heap.size X W := A1.trans (hW.mono A1.size)
  refine (Tryz.play_any an n cn af m cf l i W d ns fs ((hH.below hXW).wider hXW.size) hn hm hRt hS hQ (hO.below hXW hO.lt)).mono fun e w' ⟨b, v, he, h⟩ => ⟨b, v, he, ?_⟩
  have hh := h.out
  rw [hSt, hml, hgm, List.length_map] at hh
  exact ⟨hh.1, hh.2.1, hW.trans (hh.2.2.1.mono hW.size), hh.2.2.2⟩
 obtain ⟨ln, hln⟩ : ∃ z, St.length = z := ⟨_, rfl⟩
 rw [hln] at HCP
 have hRR : (if i < 0 ∨ (ln : Int) ≤ i then (Gm.zeros, ((0 : Int), (0 : Int), (0 : Int)), (6 : Int)) else match St[i.toNat]? with | none => (Gm.zeros, (0, 0, 0), 6) | some p => (p.2, (p.1.k, p.1.ln, p.1.la), 0)) = (R1, R2, R3) := by
  rw [← hR]; unfold Gm.doR
  rw [hce, if_neg (show ¬ ce ≠ 0 by simpa using hc0), hall, hln]
 have HI49 : Hid (∀ t : List Int, t.length = 49 → (Tryz.prog.info? 29).map (·.size) = some (Gm.ints t).length ∧ (Tryz.prog.info? 29).map (·.size) = some (Gm.ints t).toArray.size ∧ (#[.int .i64 0, .int .i64 0, .int .i64 0, .int .i64 0, .int .i64 0, .int .i64 0, .int .i64 0, .int .i64 0, .int .i64 0, .int .i64 0, .int .i64 0, .int .i64 0, .int .i64 0, .int .i64 0, .int .i64 0, .int .i64 0, .int .i64 0, .int .i64 0, .int .i64 0, .int .i64 0, .int .i64 0, .int .i64 0, .int .i64 0, .int .i64 0, .int .i64 0, .int .i64 0, .int .i64 0, .int .i64 0, .int .i64 0, .int .i64 0, .int .i64 0, .int .i64 0, .int .i64 0, .int .i64 0, .int .i64 0, .int .i64 0, .int .i64 0, .int .i64 0, .int .i64 0, .int .i64 0, .int .i64 0, .int .i64 0, .int .i64 0, .int .i64 0, .int .i64 0, .int .i64 0, .int .i64 0, .int .i64 0, .int .i64 0] : Array Value).size = (Gm.ints t).toArray.size ∧ (Gm.ints t).toArray.all (·.oneCell') = true) := fun t ht => by
  have h : (Gm.ints t).toArray.size = 49 := by simpa [Gm.ints_length] using ht
  have h' : (Gm.ints t).length = 49 := by simpa [Gm.ints_length] using ht
  refine ⟨by rw [h']; kernel_rfl, by rw [h]; kernel_rfl, by rw [h]; rfl, all_oneCell_toArray (Gm.ints_one t)⟩
 have HRX : Hid _ := hRR
 have HGM : Hid ((Gm.goes i ([], Gm.zeros) St).2 = gm ∧ St.length = ln) := ⟨hgm, hln⟩
 clear hw1 P0 A1 hce hR hH hn hm hll hO hc0 P2 P3 hRt hS hQ hSt hall hgm hml hRR hln
 go_enter Tryz.func16, Tryz.ntmps16
 go_upto_region 1 with fail
 rw [HW1.out]
 clear HW1
 go_wp2_with (first
  | refine wpList_load_row rfl 29 _ rfl _ rfl 29 (Gm.ints l).toArray (0, 0) _ P1 hu rfl e1 ?_
  | fail)
 refine Calls.mono CC.out ?_
 rintro e W2 ⟨rfl, b2⟩
 obtain ⟨j0, j1, PP, -, -, -⟩ := HBOX.out W2 b2
 have HX3 : Hid (X.heap.size + 1 + 1 + 1 < W2.heap.size) := Gm.blk_lt (HBOX.out W2 b2).2.2.2.2.1
 have HC2 : Hid _ := HCP.out W2 b2
 clear b2 P1 k0 k1 CC HCP
 go_wp2_with (first
  | refine wpList_load_row rfl 29 _ rfl _ rfl 29 (Gm.ints l).toArray (0, 0) _ PP hu rfl e1 ?_
  | fail)
 refine Calls.mono HC2.out ?_
 rintro e W3 ⟨b, v, rfl, H3⟩
 obtain ⟨va, vc, rfl⟩ := Rk.own_shape H3.out.2.1
 have c51 := H3.out.1.mv
 obtain ⟨-, -, -, N2, N3, hBX⟩ := HBOX.out W3 H3.out.2.2.1
 have HBX : Hid (Below X.heap.size X W3) := hBX
 clear j0 j1 PP HC2 hBX
 by_cases hi0 : i < 0
 ·have d0 : decide (i < 0) = true := decide_eq_true hi0
  have HE : Hid (Gm.zeros = R1 ∧ (0, 0, 0) = R2 ∧ 6 = R3) := by
   have h := HRX.out
   rw [if_pos (.inl hi0)] at h
   injection h with h1 h2
   injection h2 with h2 h3
   exact ⟨h1, h2, h3⟩
  have N3' : (W3.setRow (X.heap.size + 1 + 1) #[.int .i64 0, .int .i64 0, .int .i64 0, .int .i64 0, .int .i64 0, .int .i64 0, .int .i64 0, .int .i64 0, .int .i64 0, .int .i64 0, .int .i64 0, .int .i64 0, .int .i64 0, .int .i64 0, .int .i64 0, .int .i64 0, .int .i64 0, .int .i64 0, .int .i64 0, .int .i64 0, .int .i64 0, .int .i64 0, .int .i64 0, .int .i64 0, .int .i64 0, .int .i64 0, .int .i64 0, .int .i64 0, .int .i64 0, .int .i64 0, .int .i64 0, .int .i64 0, .int .i64 0, .int .i64 0, .int .i64 0, .int .i64 0, .int .i64 0, .int .i64 0, .int .i64 0, .int .i64 0, .int .i64 0, .int .i64 0, .int .i64 0, .int .i64 0, .int .i64 0, .int .i64 0, .int .i64 0, .int .i64 0, .int .i64 0]).heap[X.heap.size + 1 + 1 + 1]? = some (.cells #[.int .i64 0, .int .i64 0, .int .i64 0] 46 (0, 0)) := by rw [setRow_other _ _ _ _ (by omega)]; exact N3
  clear hi0 HRX
  go_wp2_with (first
   | refine wpList_store_row rfl 29 _ _ rfl (X.heap.size + 1 + 1) #[.int .i64 0, .int .i64 0, .int .i64 0, .int .i64 0, .int .i64 0, .int .i64 0, .int .i64 0, .int .i64 0, .int .i64 0, .int .i64 0, .int .i64 0, .int .i64 0, .int .i64 0, .int .i64 0, .int .i64 0, .int .i64 0, .int .i64 0, .int .i64 0, .int .i64 0, .int .i64 0, .int .i64 0, .int .i64 0, .int .i64 0, .int .i64 0, .int .i64 0, .int .i64 0, .int .i64 0, .int .i64 0, .int .i64 0, .int .i64 0, .int .i64 0, .int .i64 0, .int .i64 0, .int .i64 0, .int .i64 0, .int .i64 0, .int .i64 0, .int .i64 0, .int .i64 0, .int .i64 0, .int .i64 0, .int .i64 0, .int .i64 0, .int .i64 0, .int .i64 0, .int .i64 0, .int .i64 0, .int .i64 0, .int .i64 0] rfl rfl 29 _ N2 (by kernel_rfl) rfl (by kernel_rfl) ?_
   | refine wpList_store_row rfl 46 _ _ rfl (X.heap.size + 1 + 1 + 1) #[.int .i64 0, .int .i64 0, .int .i64 0] rfl rfl 46 _ N3' (by kernel_rfl) rfl (by kernel_rfl) ?_)
  refine bodyPost_ret (Gm.results3 Tryz.results16 _ _ (X.heap.size + 1 + 1) (X.heap.size + 1 + 1 + 1) #[.int .i64 0, .int .i64 0, .int .i64 0, .int .i64 0, .int .i64 0, .int .i64 0, .int .i64 0, .int .i64 0, .int .i64 0, .int .i64 0, .int .i64 0, .int .i64 0, .int .i64 0, .int .i64 0, .int .i64 0, .int .i64 0, .int .i64 0, .int .i64 0, .int .i64 0, .int .i64 0, .int .i64 0, .int .i64 0, .int .i64 0, .int .i64 0, .int .i64 0, .int .i64 0, .int .i64 0, .int .i64 0, .int .i64 0, .int .i64 0, .int .i64 0, .int .i64 0, .int .i64 0, .int .i64 0, .int .i64 0, .int .i64 0, .int .i64 0, .int .i64 0, .int .i64 0, .int .i64 0, .int .i64 0, .int .i64 0, .int .i64 0, .int .i64 0, .int .i64 0, .int .i64 0, .int .i64 0, .int .i64 0, .int .i64 0] #[.int .i64 0, .int .i64 0, .int .i64 0] rfl (run_loadVar_row _ (X.heap.size + 1 + 1) 29 29 #[.int .i64 0, .int .i64 0, .int .i64 0, .int .i64 0, .int .i64 0, .int .i64 0, .int .i64 0, .int .i64 0, .int .i64 0, .int .i64 0, .int .i64 0, .int .i64 0, .int .i64 0, .int .i64 0, .int .i64 0, .int .i64 0, .int .i64 0, .int .i64 0, .int .i64 0, .int .i64 0, .int .i64 0, .int .i64 0, .int .i64 0, .int .i64 0, .int .i64 0, .int .i64 0, .int .i64 0, .int .i64 0, .int .i64 0, .int .i64 0, .int .i64 0, .int .i64 0, .int .i64 0, .int .i64 0, .int .i64 0, .int .i64 0, .int .i64 0, .int .i64 0, .int .i64 0, .int .i64 0, .int .i64 0, .int .i64 0, .int .i64 0, .int .i64 0, .int .i64 0, .int .i64 0, .int .i64 0, .int .i64 0, .int .i64 0] (0, 0) _ (by rw [setRow_other _ _ _ _ (by omega)]; exact setRow_heap _ _ _ _ _ _ N2) hu rfl (by kernel_rfl)) rfl (run_loadVar_row _ (X.heap.size + 1 + 1 + 1) 46 46 #[.int .i64 0, .int .i64 0, .int .i64 0] (0, 0) _ (setRow_heap _ _ _ _ _ _ N3') huL rfl (by kernel_rfl))) rfl ⟨?_, Tk.below_row (Tk.below_row HBX.out (by omega) _) (by omega) _⟩
  rw [← HE.out.1, ← HE.out.2.1, ← HE.out.2.2]
  rfl
 have d0 : decide (i < 0) = false := decide_eq_false hi0
 by_cases hil : (ln : Int) ≤ i
 ·have d1 : decide ((ln : Int) ≤ i) = true := decide_eq_true hil
  have HE : Hid (Gm.zeros = R1 ∧ (0, 0, 0) = R2 ∧ 6 = R3) := by
   have h := HRX.out
   rw [if_pos (.inr hil)] at h
   injection h with h1 h2
   injection h2 with h2 h3
   exact ⟨h1, h2, h3⟩
  have N3' : (W3.setRow (X.heap.size + 1 + 1) #[.int .i64 0, .int .i64 0, .int .i64 0, .int .i64 0, .int .i64 0, .int .i64 0, .int .i64 0, .int .i64 0, .int .i64 0, .int .i64 0, .int .i64 0, .int .i64 0, .int .i64 0, .int .i64 0, .int .i64 0, .int .i64 0, .int .i64 0, .int .i64 0, .int .i64 0, .int .i64 0, .int .i64 0, .int .i64 0, .int .i64 0, .int .i64 0, .int .i64 0, .int .i64 0, .int .i64 0, .int .i64 0, .int .i64 0, .int .i64 0, .int .i64 0, .int .i64 0, .int .i64 0, .int .i64 0, .int .i64 0, .int .i64 0, .int .i64 0, .int .i64 0, .int .i64 0, .int .i64 0, .int .i64 0, .int .i64 0, .int .i64 0, .int .i64 0, .int .i64 0, .int .i64 0, .int .i64 0, .int .i64 0, .int .i64 0]).heap[X.heap.size + 1 + 1 + 1]? = some (.cells #[.int .i64 0, .int .i64 0, .int .i64 0] 46 (0, 0)) := by rw [setRow_other _ _ _ _ (by omega)]; exact N3
  clear hi0 HRX hil
  go_upto_region 6 with fail
  go_wp2_with (first
   | refine wpList_store_row rfl 29 _ _ rfl (X.heap.size + 1 + 1) #[.int .i64 0, .int .i64 0, .int .i64 0, .int .i64 0, .int .i64 0, .int .i64 0, .int .i64 0, .int .i64 0, .int .i64 0, .int .i64 0, .int .i64 0, .int .i64 0, .int .i64 0, .int .i64 0, .int .i64 0, .int .i64 0, .int .i64 0, .int .i64 0, .int .i64 0, .int .i64 0, .int .i64 0, .int .i64 0, .int .i64 0, .int .i64 0, .int .i64 0, .int .i64 0, .int .i64 0, .int .i64 0, .int .i64 0, .int .i64 0, .int .i64 0, .int .i64 0, .int .i64 0, .int .i64 0, .int .i64 0, .int .i64 0, .int .i64 0, .int .i64 0, .int .i64 0, .int .i64 0, .int .i64 0, .int .i64 0, .int .i64 0, .int .i64 0, .int .i64 0, .int .i64 0, .int .i64 0, .int .i64 0, .int .i64 0] rfl rfl 29 _ N2 (by kernel_rfl) rfl (by kernel_rfl) ?_
   | refine wpList_store_row rfl 46 _ _ rfl (X.heap.size + 1 + 1 + 1) #[.int .i64 0, .int .i64 0, .int .i64 0] rfl rfl 46 _ N3' (by kernel_rfl) rfl (by kernel_rfl) ?_)
  refine bodyPost_ret (Gm.results3 Tryz.results16 _ _ (X.heap.size + 1 + 1) (X.heap.size + 1 + 1 + 1) #[.int .i64 0, .int .i64 0, .int .i64 0, .int .i64 0, .int .i64 0, .int .i64 0, .int .i64 0, .int .i64 0, .int .i64 0, .int .i64 0, .int .i64 0, .int .i64 0, .int .i64 0, .int .i64 0, .int .i64 0, .int .i64 0, .int .i64 0, .int .i64 0, .int .i64 0, .int .i64 0, .int .i64 0, .int .i64 0, .int .i64 0, .int .i64 0, .int .i64 0, .int .i64 0, .int .i64 0, .int .i64 0, .int .i64 0, .int .i64 0, .int .i64 0, .int .i64 0, .int .i64 0, .int .i64 0, .int .i64 0, .int .i64 0, .int .i64 0, .int .i64 0, .int .i64 0, .int .i64 0, .int .i64 0, .int .i64 0, .int .i64 0, .int .i64 0, .int .i64 0, .int .i64 0, .int .i64 0, .int .i64 0, .int .i64 0] #[.int .i64 0, .int .i64 0, .int .i64 0] rfl (run_loadVar_row _ (X.heap.size + 1 + 1) 29 29 #[.int .i64 0, .int .i64 0, .int .i64 0, .int .i64 0, .int .i64 0, .int .i64 0, .int .i64 0, .int .i64 0, .int .i64 0, .int .i64 0, .int .i64 0, .int .i64 0, .int .i64 0, .int .i64 0, .int .i64 0, .int .i64 0, .int .i64 0, .int .i64 0, .int .i64 0, .int .i64 0, .int .i64 0, .int .i64 0, .int .i64 0, .int .i64 0, .int .i64 0, .int .i64 0, .int .i64 0, .int .i64 0, .int .i64 0, .int .i64 0, .int .i64 0, .int .i64 0, .int .i64 0, .int .i64 0, .int .i64 0, .int .i64 0, .int .i64 0, .int .i64 0, .int .i64 0, .int .i64 0, .int .i64 0, .int .i64 0, .int .i64 0, .int .i64 0, .int .i64 0, .int .i64 0, .int .i64 0, .int .i64 0, .int .i64 0] (0, 0) _ (by rw [setRow_other _ _ _ _ (by omega)]; exact setRow_heap _ _ _ _ _ _ N2) hu rfl (by kernel_rfl)) rfl (run_loadVar_row _ (X.heap.size + 1 + 1 + 1) 46 46 #[.int .i64 0, .int .i64 0, .int .i64 0] (0, 0) _ (setRow_heap _ _ _ _ _ _ N3') huL rfl (by kernel_rfl))) rfl ⟨?_, Tk.below_row (Tk.below_row HBX.out (by omega) _) (by omega) _⟩
  rw [← HE.out.1, ← HE.out.2.1, ← HE.out.2.2]
  rfl
 have d1 : decide ((ln : Int) ≤ i) = false := decide_eq_false hil
 obtain ⟨k, rfl⟩ : ∃ k : Nat, i = (k : Int) := ⟨i.toNat, by omega⟩
 have hkl : k < ln := by omega
 have hks : k < St.length := by rw [HGM.out.2]; exact hkl
 obtain ⟨⟨⟨q1, q2, q3, q4, q5⟩, ts⟩, hsk⟩ : ∃ z, St[k] = z := ⟨_, rfl⟩
 have HE : Hid (ts = R1 ∧ (q3, q4, q5) = R2 ∧ 0 = R3 ∧ gm = ts) := by
  have h := HRX.out
  rw [if_neg (by omega), Int.toNat_natCast, List.getElem?_eq_getElem hks, hsk] at h
  injection h with h1 h2
  injection h2 with h2 h3
  refine ⟨h1, h2, h3, ?_⟩
  have h4 := Gm.goes_to (k : Int) St ([], Gm.zeros) k (by simp) hks
  rw [hsk, HGM.out.1] at h4
  exact h4
 obtain ⟨gv, HGV⟩ : ∃ gv, Hid (va = some ⟨gv, 0, none⟩ ∧ W2.heap.size ≤ gv ∧ ∀ o x, o < 5 → (Gm.mvC ⟨q1, q2, q3, q4, q5⟩)[o]? = some x → W3.cell? ⟨gv, k * 5 + o, none⟩ = some x) := by
  rcases H3.out.2.1.2 with ⟨e, hz⟩ | ⟨g, cap, cur, e, hB, hg, h4, h5, h6, h7⟩
  ·omega
  ·obtain ⟨e1', -, -⟩ := Value.slice.inj e
   refine ⟨g, e1', hB, fun o x ho hx => ?_⟩
   simp only [World.cell?, hg]
   have h8 : (Gm.mvs (St.map (·.1)))[k * 5 + o]? = some x := by
    rw [Gm.mvs_get _ k o (by rw [List.length_map]; exact hks) ho, List.getElem_map, hsk]
    exact hx
   rw [← h7, List.getElem?_take] at h8
   split at h8
   ·rw [Array.getElem?_toList] at h8; exact h8
   ·simp at h8
 obtain ⟨hva, hgvW, hmv⟩ := HGV.out
 subst hva
 have m2 : W3.cell? ⟨gv, k * 5 + 2, none⟩ = some (.int .i64 q3) := hmv 2 _ (by omega) rfl
 have m3 : W3.cell? ⟨gv, k * 5 + 3, none⟩ = some (.int .i64 q4) := hmv 3 _ (by omega) rfl
 have m4 : W3.cell? ⟨gv, k * 5 + 4, none⟩ = some (.int .i64 q5) := hmv 4 _ (by omega) rfl
 have hgl := H3.out.1.tl
 obtain ⟨f0, f1, f2, f3⟩ := HI49.out gm hgl
 have hX3 : X.heap.size + 1 + 1 + 1 < W2.heap.size := HX3.out
 have hbW := H3.out.2.2.2
 have HSK : Hid (∀ V : World, (∀ kk, kk ≠ X.heap.size + 1 + 1 → kk ≠ X.heap.size + 1 + 1 + 1 → V.heap[kk]? = W3.heap[kk]?) → V.rangeAt b 53 (Gm.ints gm) ∧ V.cell? ⟨b, 51, none⟩ = some (.slice (some ⟨gv, 0, none⟩) ln vc) ∧ V.cell? ⟨gv, k * 5 + 2, none⟩ = some (.int .i64 q3) ∧ V.cell? ⟨gv, k * 5 + 3, none⟩ = some (.int .i64 q4) ∧ V.cell? ⟨gv, k * 5 + 4, none⟩ = some (.int .i64 q5)) := fun V hV => by
  have hb' := hV b (by omega) (by omega)
  have hg' := hV gv (by omega) (by omega)
  refine ⟨(H3.out.1.keep hb').en, (H3.out.1.keep hb').mv, ?_, ?_, ?_⟩
  ·rw [World.cell?_of_block (w := W3) (a := ⟨gv, k * 5 + 2, none⟩) hg']; exact m2
  ·rw [World.cell?_of_block (w := W3) (a := ⟨gv, k * 5 + 3, none⟩) hg']; exact m3
  ·rw [World.cell?_of_block (w := W3) (a := ⟨gv, k * 5 + 4, none⟩) hg']; exact m4
 have N2d : W3.drew.heap[X.heap.size + 1 + 1]? = some (.cells #[.int .i64 0, .int .i64 0, .int .i64 0, .int .i64 0, .int .i64 0, .int .i64 0, .int .i64 0, .int .i64 0, .int .i64 0, .int .i64 0, .int .i64 0, .int .i64 0, .int .i64 0, .int .i64 0, .int .i64 0, .int .i64 0, .int .i64 0, .int .i64 0, .int .i64 0, .int .i64 0, .int .i64 0, .int .i64 0, .int .i64 0, .int .i64 0, .int .i64 0, .int .i64 0, .int .i64 0, .int .i64 0, .int .i64 0, .int .i64 0, .int .i64 0, .int .i64 0, .int .i64 0, .int .i64 0, .int .i64 0, .int .i64 0, .int .i64 0, .int .i64 0, .int .i64 0, .int .i64 0, .int .i64 0, .int .i64 0, .int .i64 0, .int .i64 0, .int .i64 0, .int .i64 0, .int .i64 0, .int .i64 0, .int .i64 0] 29 (0, 0)) := N2
 have N3d : W3.drew.heap[X.heap.size + 1 + 1 + 1]? = some (.cells #[.int .i64 0, .int .i64 0, .int .i64 0] 46 (0, 0)) := N3
 have N3' : (W3.drew.setRow (X.heap.size + 1 + 1) (Gm.ints gm).toArray).heap[X.heap.size + 1 + 1 + 1]? = some (.cells #[.int .i64 0, .int .i64 0, .int .i64 0] 46 (0, 0)) := by rw [setRow_other _ _ _ _ (by omega)]; exact N3
 have N2' : (W3.drew.setRow (X.heap.size + 1 + 1 + 1) #[.int .i64 q3, .int .i64 q4, .int .i64 q5]).heap[X.heap.size + 1 + 1]? = some (.cells #[.int .i64 0, .int .i64 0, .int .i64 0, .int .i64 0, .int .i64 0, .int .i64 0, .int .i64 0, .int .i64 0, .int .i64 0, .int .i64 0, .int .i64 0, .int .i64 0, .int .i64 0, .int .i64 0, .int .i64 0, .int .i64 0, .int .i64 0, .int .i64 0, .int .i64 0, .int .i64 0, .int .i64 0, .int .i64 0, .int .i64 0, .int .i64 0, .int .i64 0, .int .i64 0, .int .i64 0, .int .i64 0, .int .i64 0, .int .i64 0, .int .i64 0, .int .i64 0, .int .i64 0, .int .i64 0, .int .i64 0, .int .i64 0, .int .i64 0, .int .i64 0, .int .i64 0, .int .i64 0, .int .i64 0, .int .i64 0, .int .i64 0, .int .i64 0, .int .i64 0, .int .i64 0, .int .i64 0, .int .i64 0, .int .i64 0] 29 (0, 0)) := by rw [setRow_other _ _ _ _ (by omega)]; exact N2
 have hk1 : (k : Int) < ln := by omega
 have hk0 : (0 : Int) ≤ k := by omega
 clear hi0 hil HRX hkl hks hsk hmv HGV N2 N3 HBOX hgl
 go_upto_region 7 with fail
 clear c51
 refine wp_region_held_drew (S := (fun V => V.rangeAt b 53 (Gm.ints gm) ∧ V.cell? ⟨b, 51, none⟩ = some (.slice (some ⟨gv, 0, none⟩) ln vc) ∧ V.cell? ⟨gv, k * 5 + 2, none⟩ = some (.int .i64 q3) ∧ V.cell? ⟨gv, k * 5 + 3, none⟩ = some (.int .i64 q4) ∧ V.cell? ⟨gv, k * 5 + 4, none⟩ = some (.int .i64 q5))) (by kernel_rfl) ?_ (fun hHeld => ?_)
 ·exact HSK.out _ (fun _ _ _ => rfl)
 refine Nt.takeS (v := ?va0) 0 36 rfl rfl (by kernel_rfl) (by kernel_rfl) (by kernel_rfl) (fun _ _ _ h => h) (Or.inl ⟨by rfl, ?ya0⟩) hHeld ?ra0
 case ya0 => (intro w hSw; (try dsimp only at hSw); go_simp; all_goals (with_reducible rfl))
 simp only [List.set_cons_succ, List.set_cons_zero]
 refine Nt.takeS (v := ?va1) 1 37 rfl rfl (by kernel_rfl) (by kernel_rfl) (by kernel_rfl) (fun _ _ _ h => h) (Or.inl ⟨by rfl, ?ya1⟩) hHeld ?ra1
 case ya1 => (intro w hSw; (try dsimp only at hSw); go_simp; all_goals (with_reducible rfl))
 simp only [List.set_cons_succ, List.set_cons_zero]
 refine Nt.takeS (v := ?va2) 2 38 rfl rfl (by kernel_rfl) (by kernel_rfl) (by kernel_rfl) (fun _ _ _ h => h) (Or.inl ⟨by rfl, ?ya2⟩) hHeld ?ra2
 case ya2 => (intro w hSw; (try dsimp only at hSw); go_simp; all_goals (with_reducible rfl))
 simp only [List.set_cons_succ, List.set_cons_zero]
 refine Nt.takeS 3 39 rfl rfl (by kernel_rfl) (by kernel_rfl) (by kernel_rfl) (fun _ _ _ h => h) (yieldsIf_load_mid (by rfl) _ _ rfl _ _ rfl (Gm.ints gm) _ (fun _ hw => hw.1) hu rfl f0) hHeld ?_
 simp only [List.set_cons_succ, List.set_cons_zero]
 refine Nt.takeS (v := ?va4) 4 40 rfl rfl (by kernel_rfl) (by kernel_rfl) (by kernel_rfl) (fun _ _ _ h => h) (Or.inl ⟨by rfl, ?ya4⟩) hHeld ?ra4
 case ya4 => (intro w hSw; (try dsimp only at hSw); go_simp; all_goals (with_reducible rfl))
 simp only [List.set_cons_succ, List.set_cons_zero]
 refine Nt.takeS (v := ?va5) 5 41 rfl rfl (by kernel_rfl) (by kernel_rfl) (by kernel_rfl) (fun _ _ _ h => h) (Or.inl ⟨by rfl, ?ya5⟩) hHeld ?ra5
 case ya5 => (intro w hSw; (try dsimp only at hSw); go_simp; all_goals (with_reducible rfl))
 simp only [List.set_cons_succ, List.set_cons_zero]
 refine Nt.takeS (v := ?va6) 6 42 rfl rfl (by kernel_rfl) (by kernel_rfl) (by kernel_rfl) (fun _ _ _ h => h) (Or.inl ⟨by rfl, ?ya6⟩) hHeld ?ra6
 case ya6 => (intro w hSw; (try dsimp only at hSw); go_simp; all_goals (with_reducible rfl))
 simp only [List.set_cons_succ, List.set_cons_zero]
 refine Nt.takeS (v := ?va7) 7 43 rfl rfl (by kernel_rfl) (by kernel_rfl) (by kernel_rfl) (fun _ _ _ h => h) (Or.inl ⟨by rfl, ?ya7⟩) hHeld ?ra7
 case ya7 => (intro w hSw; (try dsimp only at hSw); go_simp; all_goals (with_reducible rfl))
 simp only [List.set_cons_succ, List.set_cons_zero]
 refine Nt.takeS (v := ?va8) 8 44 rfl rfl (by kernel_rfl) (by kernel_rfl) (by kernel_rfl) (fun _ _ _ h => h) (Or.inl ⟨by rfl, ?ya8⟩) hHeld ?ra8
 case ya8 => (intro w hSw; (try dsimp only at hSw); go_simp; all_goals (with_reducible rfl))
 simp only [List.set_cons_succ, List.set_cons_zero]
 refine Nt.takeS (v := ?va9) 9 45 rfl rfl (by kernel_rfl) (by kernel_rfl) (by kernel_rfl) (fun _ _ _ h => h) (Or.inl ⟨by rfl, ?ya9⟩) hHeld ?ra9
 case ya9 => (intro w hSw; (try dsimp only at hSw); go_simp; all_goals (with_reducible rfl))
 simp only [List.set_cons_succ, List.set_cons_zero]
 refine Nt.takeS (v := ?va10) 10 46 rfl rfl (by kernel_rfl) (by kernel_rfl) (by kernel_rfl) (fun _ _ _ h => h) (Or.inl ⟨by rfl, ?ya10⟩) hHeld ?ra10
 case ya10 => (intro w hSw; (try dsimp only at hSw); go_simp; all_goals (with_reducible rfl))
 simp only [List.set_cons_succ, List.set_cons_zero]
 refine Nt.takeS (v := ?va11) 11 47 rfl rfl (by kernel_rfl) (by kernel_rfl) (by kernel_rfl) (fun _ _ _ h => h) (Or.inl ⟨by rfl, ?ya11⟩) hHeld ?ra11
 case ya11 => (intro w hSw; (try dsimp only at hSw); go_simp; all_goals (with_reducible rfl))
 simp only [List.set_cons_succ, List.set_cons_zero]
 refine wpAnyH_ready (rs := [12]) (by kernel_rfl) (by simp) ?_
 refine AllReadyH.cons rfl (fun K hK => ?_) AllReadyH.nil
 refine Gm.step_row rfl 29 _ _ rfl (X.heap.size + 1 + 1) (Gm.ints gm).toArray rfl rfl 29 _ N2d f1 f2 f3 ?_
 refine hK.out _ _ ?_ (fun hTe => ?_)
 ·exact HSK.out _ (fun kk h1 h2 => setRow_other _ _ _ _ h1)
 clear hK K
 refine wpAnyH_ready (rs := [13]) (by kernel_rfl) (by simp) ?_
 refine AllReadyH.cons rfl (fun K hK => ?_) AllReadyH.nil
 refine Gm.step_row rfl 46 _ _ rfl (X.heap.size + 1 + 1 + 1) #[.int .i64 q3, .int .i64 q4, .int .i64 q5] rfl rfl 46 _ N3' (by kernel_rfl) rfl (by kernel_rfl) ?_
 refine hK.out _ _ ?_ (fun hTf => ?_)
 ·exact HSK.out _ (fun kk h1 h2 => (setRow_other _ _ _ _ h2).trans (setRow_other _ _ _ _ h1))
 clear hK K
 refine Nt.takeS (v := ?vb14) 14 8 rfl rfl (by kernel_rfl) (by kernel_rfl) (by kernel_rfl) (fun _ _ _ h => h) (Or.inl ⟨by rfl, ?yb14⟩) hTf ?rb14
 case yb14 => (intro w hSw; (try dsimp only at hSw); go_simp; all_goals (with_reducible rfl))
 simp only [List.set_cons_succ, List.set_cons_zero]
 refine wpAnyH_done (by kernel_rfl) ?_ _
 go_wp2_with fail
 refine bodyPost_ret (Gm.results3 Tryz.results16 _ _ (X.heap.size + 1 + 1) (X.heap.size + 1 + 1 + 1) (Gm.ints gm).toArray #[.int .i64 q3, .int .i64 q4, .int .i64 q5] rfl (run_loadVar_row _ (X.heap.size + 1 + 1) 29 29 (Gm.ints gm).toArray (0, 0) _ (by rw [setRow_other _ _ _ _ (by omega)]; exact setRow_heap _ _ _ _ _ _ N2d) hu rfl f1) rfl (run_loadVar_row _ (X.heap.size + 1 + 1 + 1) 46 46 #[.int .i64 q3, .int .i64 q4, .int .i64 q5] (0, 0) _ (setRow_heap _ _ _ _ _ _ N3') huL rfl (by kernel_rfl))) rfl ⟨?_, Tk.below_row (Tk.below_row HBX.out.drew (by omega) _) (by omega) _⟩
 rw [← HE.out.1, ← HE.out.2.1, ← HE.out.2.2.1, HE.out.2.2.2]
 rfl
end Go.Proofs
