import Derived.Test.YtndfbgfpnjnmlaaGreatDoorRGmCatch
namespace Go.Proofs
open Go.RowKit Go.Shelf
theorem Gm.chosen_mem (fs : List Fl) (l : List Int) (P : Nat → Prop) : ∀ (a : List Nat) (o : Nat), P o → (∀ f ∈ a, P f) → P (Gm.chosen fs l a o).1
 | [], o, ho, _ => by rw [Gm.chosen]; exact ho
 | f :: r, o, ho, h => by
   rw [Gm.chosen]
   have hf := h f (by simp)
   have hr : ∀ g ∈ r, P g := fun g hg => h g (by simp [hg])
   cases fs[f]? with
   | none => exact ho
   | some x =>
     show P (if _ then _ else _ : Nat × Int).1
     split
     ·exact Gm.chosen_mem fs l P r f hf hr
     ·split
      ·exact hf
      ·exact Gm.chosen_mem fs l P r o ho hr
set_option maxRecDepth 20000 in
set_option maxHeartbeats 16000000 in
theorem Tryz.choose_any (w0 : World) (B b : Nat) (an : Option Addr) (n cn : Nat) (af : Option Addr) (m cf : Nat) (l : List Int) (want : Int) (p : List Mv × List Int) (i : Nat) (a c : List Nat) (va vc : Value) (X : World) (hG : Gm.G w0 B b an n cn af m cf l want p.1 p.2 X) (hl : p.1.length ≤ 5000)
    (ha : Gm.Ints X va (a.map fun x : Nat => (x : Int))) (hc : Gm.Ints X vc (c.map fun x : Nat => (x : Int))) (ha4 : ∀ f ∈ a, f < 40) (hal : a.length ≤ 100) (hcl : c.length ≤ 100) (hS : Gm.Small l)
    (d : Nat) (fs : List Fl) (hF : Nt.Fls w0 b d af fs) (hm : fs.length = m) (hm1 : m ≤ 40) (hcf : ∀ f ∈ c, f < fs.length) (hsz : ∀ x, x ∈ fs → x.c.size ≤ 2147483647) (hO : Tk.Ops w0) (hOb : 0 < b) :
    Calls Tryz.prog 59 #[.pointer (some ⟨b, 0, none⟩), .int .i64 i, va, vc] X fun e' w' => e' = .returned (.tuple #[]) ∧ Gm.G w0 B b an n cn af m cf l want (Gm.goes want p (Gm.chooseS fs l i a c)).1 (Gm.goes want p (Gm.chooseS fs l i a c)).2 w' ∧ Gm.KeepI X w' := by
  obtain ⟨R, hR⟩ : ∃ R, Gm.goes want p (Gm.chooseS fs l i a c) = R := ⟨_, rfl⟩
  rw [hR]
  have HC : Hid _ := Tryz.chosen_any w0 B b an n cn af m cf l want p.1 p.2 c vc X hG hc hcl d fs hF hm (by omega) hcf hsz hO hOb
  have hf40 : (Gm.chosen fs l c 0).1 < 40 := Gm.chosen_mem fs l (· < 40) c 0 (by omega) fun f hf => by have := hcf f hf; omega
  obtain ⟨q, hq⟩ : ∃ z, Gm.chosen fs l c 0 = z := ⟨_, rfl⟩
  obtain ⟨f, fe⟩ := q
  rw [hq] at HC hf40
  have hf4 : f < 40 := hf40
  have HRR : Hid ((if fe ≠ 0 then Gm.goes want p (Gm.fault l i fe) else Gm.goes want p (match Gm.pass l a [f] with | none => [] | some t => [((⟨i, (f : Nat), 0, 0, 0⟩ : Mv), t)])) = R) := by
    show _ = R
    rw [← hR]
    unfold Gm.chooseS
    rw [hq]
    by_cases h : fe = 0
    · rw [if_neg (by simpa using h), if_neg (by simpa using h)]
      simp only
      first | done | rfl
    · rw [if_pos h, if_pos h]
  have HG : Hid (Gm.G w0 B b an n cn af m cf l want p.1 p.2 X ∧ p.1.length ≤ 5000 ∧ l.length = 49) := ⟨hG, hl, hS.1⟩
  have HP : Hid (∀ W1, Gm.G w0 B b an n cn af m cf l want p.1 p.2 W1 → Gm.KeepI X W1 → ∀ vf, Gm.Ints W1 vf ([f].map fun x : Nat => (x : Int)) → Calls Tryz.prog 61 #[.pointer (some ⟨b, 0, none⟩), va, vf] W1 fun e w' => e = .returned (Gm.passV (Gm.pass l a [f])) ∧ Below W1.heap.size W1 w') := fun W1 h1 hk vf hv =>
    Gm.G.pass h1 a [f] va vf (ha.keepI hk) hv ha4 (by simpa using hf4) hal (by simp) hS
  have hu := Tryz.underlying29
  have HI49 : Hid (∀ t : List Int, t.length = 49 → (Tryz.prog.info? 29).map (·.size) = some (Gm.ints t).toArray.size ∧ (#[.int .i64 0, .int .i64 0, .int .i64 0, .int .i64 0, .int .i64 0, .int .i64 0, .int .i64 0, .int .i64 0, .int .i64 0, .int .i64 0, .int .i64 0, .int .i64 0, .int .i64 0, .int .i64 0, .int .i64 0, .int .i64 0, .int .i64 0, .int .i64 0, .int .i64 0, .int .i64 0, .int .i64 0, .int .i64 0, .int .i64 0, .int .i64 0, .int .i64 0, .int .i64 0, .int .i64 0, .int .i64 0, .int .i64 0, .int .i64 0, .int .i64 0, .int .i64 0, .int .i64 0, .int .i64 0, .int .i64 0, .int .i64 0, .int .i64 0, .int .i64 0, .int .i64 0, .int .i64 0, .int .i64 0, .int .i64 0, .int .i64 0, .int .i64 0, .int .i64 0, .int .i64 0, .int .i64 0, .int .i64 0, .int .i64 0] : Array Value).size = (Gm.ints t).toArray.size ∧ (Gm.ints t).toArray.all (·.oneCell') = true) := fun t ht => by
    have h : (Gm.ints t).toArray.size = 49 := by simpa [Gm.ints_length] using ht
    refine ⟨by rw [h]; kernel_rfl, by rw [h]; rfl, all_oneCell_toArray (Gm.ints_one t)⟩
  clear hG hl ha hc ha4 hal hcl hS hF hm hm1 hcf hsz hO hOb hf40 hq hR
  by_cases hfe : fe = 0
  · have e0 : (fe != 0) = false := by simpa using hfe
    have HR2 : Hid (Gm.goes want p (match Gm.pass l a [f] with | none => [] | some t => [((⟨i, (f : Nat), 0, 0, 0⟩ : Mv), t)]) = R) := by
      have := HRR.out
      rw [if_neg (by simpa using hfe)] at this
      exact this
    clear HRR hfe
    go_enter Tryz.func59, Tryz.ntmps59
    go_wp2_with fail
    refine Calls.mono HC.out ?_
    rintro e wr ⟨rfl, b1⟩
    obtain ⟨W1, hW1⟩ : ∃ z, wr.alloc (.cells #[.int .i64 f] 3) = z := ⟨_, rfl⟩
    have A1 : Below wr.heap.size wr W1 := by rw [← hW1]; exact (Below.refl _ wr).alloc (Nat.le_refl _) _
    have N1 : W1.heap[wr.heap.size]? = some (.cells #[.int .i64 f] 3 (0, 0)) := by rw [← hW1]; exact heap_alloc_new wr _
    have hI1 : Gm.Ints W1 (.slice (some ⟨wr.heap.size, 0, none⟩) 1 1) ([f].map fun x : Nat => (x : Int)) := ⟨_, _, rfl, fun k hk => ⟨wr.heap.size, 0, _, _, rfl, N1, by
      have hk0 : k = 0 := by simpa using hk
      subst hk0
      simp [World.cell?, N1]⟩⟩
    have hX1 : Below X.heap.size X W1 := b1.trans (A1.mono b1.size)
    have HK1 : Hid (Gm.KeepI X W1) := Gm.KeepI.below hX1
    have HG1 : Hid (Gm.G w0 B b an n cn af m cf l want p.1 p.2 W1) := HG.out.1.below hX1
    have HPC : Hid _ := HP.out W1 HG1.out HK1.out _ hI1
    obtain ⟨o, ho⟩ : ∃ z, Gm.pass l a [f] = z := ⟨_, rfl⟩
    have HO : Hid (Gm.pass l a [f] = o) := ho
    rw [ho] at HPC
    have HW1 : Hid _ := hW1
    clear hW1 A1 N1 hI1 ho b1 hX1 HC HP
    cases o with
    | none =>
      obtain ⟨e1, e2, e3⟩ := HI49.out Gm.zeros (by kernel_rfl)
      go_wp2_with fail
      rw [HW1.out]
      refine Calls.mono HPC.out ?_
      rintro e W2 ⟨rfl, b2⟩
      have N2a : (W2.alloc (.cells #[.int .i64 0, .int .i64 0, .int .i64 0, .int .i64 0, .int .i64 0, .int .i64 0, .int .i64 0, .int .i64 0, .int .i64 0, .int .i64 0, .int .i64 0, .int .i64 0, .int .i64 0, .int .i64 0, .int .i64 0, .int .i64 0, .int .i64 0, .int .i64 0, .int .i64 0, .int .i64 0, .int .i64 0, .int .i64 0, .int .i64 0, .int .i64 0, .int .i64 0, .int .i64 0, .int .i64 0, .int .i64 0, .int .i64 0, .int .i64 0, .int .i64 0, .int .i64 0, .int .i64 0, .int .i64 0, .int .i64 0, .int .i64 0, .int .i64 0, .int .i64 0, .int .i64 0, .int .i64 0, .int .i64 0, .int .i64 0, .int .i64 0, .int .i64 0, .int .i64 0, .int .i64 0, .int .i64 0, .int .i64 0, .int .i64 0] 29)).heap[W2.heap.size]? = some (.cells #[.int .i64 0, .int .i64 0, .int .i64 0, .int .i64 0, .int .i64 0, .int .i64 0, .int .i64 0, .int .i64 0, .int .i64 0, .int .i64 0, .int .i64 0, .int .i64 0, .int .i64 0, .int .i64 0, .int .i64 0, .int .i64 0, .int .i64 0, .int .i64 0, .int .i64 0, .int .i64 0, .int .i64 0, .int .i64 0, .int .i64 0, .int .i64 0, .int .i64 0, .int .i64 0, .int .i64 0, .int .i64 0, .int .i64 0, .int .i64 0, .int .i64 0, .int .i64 0, .int .i64 0, .int .i64 0, .int .i64 0, .int .i64 0, .int .i64 0, .int .i64 0, .int .i64 0, .int .i64 0, .int .i64 0, .int .i64 0, .int .i64 0, .int .i64 0, .int .i64 0, .int .i64 0, .int .i64 0, .int .i64 0, .int .i64 0] 29 (0, 0)) := heap_alloc_new W2 _
      obtain ⟨W3, hW3⟩ : ∃ z, (W2.alloc (.cells #[.int .i64 0, .int .i64 0, .int .i64 0, .int .i64 0, .int .i64 0, .int .i64 0, .int .i64 0, .int .i64 0, .int .i64 0, .int .i64 0, .int .i64 0, .int .i64 0, .int .i64 0, .int .i64 0, .int .i64 0, .int .i64 0, .int .i64 0, .int .i64 0, .int .i64 0, .int .i64 0, .int .i64 0, .int .i64 0, .int .i64 0, .int .i64 0, .int .i64 0, .int .i64 0, .int .i64 0, .int .i64 0, .int .i64 0, .int .i64 0, .int .i64 0, .int .i64 0, .int .i64 0, .int .i64 0, .int .i64 0, .int .i64 0, .int .i64 0, .int .i64 0, .int .i64 0, .int .i64 0, .int .i64 0, .int .i64 0, .int .i64 0, .int .i64 0, .int .i64 0, .int .i64 0, .int .i64 0, .int .i64 0, .int .i64 0] 29)).setRow W2.heap.size (Gm.ints Gm.zeros).toArray = z := ⟨_, rfl⟩
      have B3 : Below W1.heap.size W1 W3 := by rw [← hW3]; exact Tk.below_row (b2.alloc b2.size _) b2.size _
      have HN : Hid (Gm.G w0 B b an n cn af m cf l want R.1 R.2 W3 ∧ Gm.KeepI X W3) := by
        have h1 := HR2.out
        rw [HO.out] at h1
        have h2 : p = R := h1
        rw [← h2]
        exact ⟨HG1.out.below B3, HK1.out.trans (Gm.KeepI.below B3)⟩
      have HW3 : Hid _ := hW3
      clear b2 B3 hW3 HPC
      unfold Gm.passV
      go_upto_region 4 with (refine wpList_store_row rfl 29 _ _ rfl W2.heap.size (Gm.ints Gm.zeros).toArray rfl rfl 29 _ N2a e1 e2 e3 ?_; rw [HW3.out])
      go_wp2
      go_end0
      exact ⟨rfl, HN.out⟩
    | some t =>
      have htl : t.length = 49 := by rw [Gm.pass_length HO.out]; exact HG.out.2.2
      obtain ⟨e1, e2, e3⟩ := HI49.out t htl
      go_wp2_with fail
      rw [HW1.out]
      refine Calls.mono HPC.out ?_
      rintro e W2 ⟨rfl, b2⟩
      have N2a : (W2.alloc (.cells #[.int .i64 0, .int .i64 0, .int .i64 0, .int .i64 0, .int .i64 0, .int .i64 0, .int .i64 0, .int .i64 0, .int .i64 0, .int .i64 0, .int .i64 0, .int .i64 0, .int .i64 0, .int .i64 0, .int .i64 0, .int .i64 0, .int .i64 0, .int .i64 0, .int .i64 0, .int .i64 0, .int .i64 0, .int .i64 0, .int .i64 0, .int .i64 0, .int .i64 0, .int .i64 0, .int .i64 0, .int .i64 0, .int .i64 0, .int .i64 0, .int .i64 0, .int .i64 0, .int .i64 0, .int .i64 0, .int .i64 0, .int .i64 0, .int .i64 0, .int .i64 0, .int .i64 0, .int .i64 0, .int .i64 0, .int .i64 0, .int .i64 0, .int .i64 0, .int .i64 0, .int .i64 0, .int .i64 0, .int .i64 0, .int .i64 0] 29)).heap[W2.heap.size]? = some (.cells #[.int .i64 0, .int .i64 0, .int .i64 0, .int .i64 0, .int .i64 0, .int .i64 0, .int .i64 0, .int .i64 0, .int .i64 0, .int .i64 0, .int .i64 0, .int .i64 0, .int .i64 0, .int .i64 0, .int .i64 0, .int .i64 0, .int .i64 0, .int .i64 0, .int .i64 0, .int .i64 0, .int .i64 0, .int .i64 0, .int .i64 0, .int .i64 0, .int .i64 0, .int .i64 0, .int .i64 0, .int .i64 0, .int .i64 0, .int .i64 0, .int .i64 0, .int .i64 0, .int .i64 0, .int .i64 0, .int .i64 0, .int .i64 0, .int .i64 0, .int .i64 0, .int .i64 0, .int .i64 0, .int .i64 0, .int .i64 0, .int .i64 0, .int .i64 0, .int .i64 0, .int .i64 0, .int .i64 0, .int .i64 0, .int .i64 0] 29 (0, 0)) := heap_alloc_new W2 _
      obtain ⟨W3, hW3⟩ : ∃ z, (W2.alloc (.cells #[.int .i64 0, .int .i64 0, .int .i64 0, .int .i64 0, .int .i64 0, .int .i64 0, .int .i64 0, .int .i64 0, .int .i64 0, .int .i64 0, .int .i64 0, .int .i64 0, .int .i64 0, .int .i64 0, .int .i64 0, .int .i64 0, .int .i64 0, .int .i64 0, .int .i64 0, .int .i64 0, .int .i64 0, .int .i64 0, .int .i64 0, .int .i64 0, .int .i64 0, .int .i64 0, .int .i64 0, .int .i64 0, .int .i64 0, .int .i64 0, .int .i64 0, .int .i64 0, .int .i64 0, .int .i64 0, .int .i64 0, .int .i64 0, .int .i64 0, .int .i64 0, .int .i64 0, .int .i64 0, .int .i64 0, .int .i64 0, .int .i64 0, .int .i64 0, .int .i64 0, .int .i64 0, .int .i64 0, .int .i64 0, .int .i64 0] 29)).setRow W2.heap.size (Gm.ints t).toArray = z := ⟨_, rfl⟩
      have N3 : W3.heap[W2.heap.size]? = some (.cells (Gm.ints t).toArray 29 (0, 0)) := by rw [← hW3]; exact setRow_heap _ _ _ _ _ _ N2a
      have B3 : Below W1.heap.size W1 W3 := by rw [← hW3]; exact Tk.below_row (b2.alloc b2.size _) b2.size _
      have HK3 : Hid (Gm.KeepI X W3) := HK1.out.trans (Gm.KeepI.below B3)
      have HA : Hid _ := Tryz.add_any w0 B b an n cn af m cf l want p.1 p.2 t ⟨i, (f : Nat), 0, 0, 0⟩ W3 (HG1.out.below B3) htl (by have := HG.out.2.1; omega)
      have HW3 : Hid _ := hW3
      clear b2 B3 hW3 HPC
      unfold Gm.passV
      go_upto_region 4 with (refine wpList_store_row rfl 29 _ _ rfl W2.heap.size (Gm.ints t).toArray rfl rfl 29 _ N2a e1 e2 e3 ?_; rw [HW3.out])
      go_wp2_with (first
        | refine wpList_load_row rfl 29 _ rfl _ rfl 29 (Gm.ints t).toArray (0, 0) _ N3 hu rfl e1 ?_
        | fail)
      refine Calls.mono HA.out ?_
      rintro e W4 ⟨rfl, g4, k4⟩
      have HN : Hid (Gm.G w0 B b an n cn af m cf l want R.1 R.2 W4 ∧ Gm.KeepI X W4) := by
        have h1 := HR2.out
        rw [HO.out] at h1
        have h2 : Gm.goes want p [((⟨i, (f : Nat), 0, 0, 0⟩ : Mv), t)] = R := h1
        rw [← h2]
        exact ⟨g4, HK3.out.trans k4⟩
      clear g4 k4 HA
      go_wp2
      go_end0
      exact ⟨rfl, HN.out⟩
  · have e0 : (fe != 0) = true := by simpa using hfe
    have HR2 : Hid (Gm.goes want p (Gm.fault l i fe) = R) := by
      have := HRR.out
      rw [if_pos hfe] at this
      exact this
    clear HRR hfe HP HI49 hu
    go_enter Tryz.func59, Tryz.ntmps59
    go_wp2_with fail
    refine Calls.mono HC.out ?_
    rintro e W1 ⟨rfl, b1⟩
    have HA : Hid _ := Tryz.fault_any w0 B b an n cn af m cf l want p i fe W1 (HG.out.1.below b1) (by have := HG.out.2.1; omega)
    have HK1 : Hid (Gm.KeepI X W1) := Gm.KeepI.below b1
    clear b1 HC
    go_wp2_with fail
    refine Calls.mono HA.out ?_
    rintro e W4 ⟨rfl, g4, k4⟩
    have HN : Hid (Gm.G w0 B b an n cn af m cf l want R.1 R.2 W4 ∧ Gm.KeepI X W4) := by
      rw [← HR2.out]
      exact ⟨g4, HK1.out.trans k4⟩
    clear g4 k4 HA
    go_wp2
    exact bodyPost_ret (results_none Tryz.results59 _ _ _) rfl ⟨rfl, HN.out⟩
end Go.Proofs
namespace Go.Proofs
open Go.RowKit Go.Shelf
set_option maxRecDepth 20000 in
set_option maxHeartbeats 16000000 in
theorem Tryz.assign_any (w0 : World) (B b : Nat) (an : Option Addr) (n cn : Nat) (af : Option Addr) (m cf : Nat) (l : List Int) (want : Int) (p : List Mv × List Int) (i : Nat) (a c : List Nat) (va vc : Value) (X : World) (hG : Gm.G w0 B b an n cn af m cf l want p.1 p.2 X) (hl : p.1.length ≤ 5000)
  (ha : Gm.Ints X va (a.map fun x : Nat => (x : Int))) (hc : Gm.Ints X vc (c.map fun x : Nat => (x : Int))) (ha4 : ∀ f ∈ a, f < 40) (hc4 : ∀ f ∈ c, f < 40) (hal : a.length ≤ 100) (hcl : c.length ≤ 100) (hS : Gm.Small l)
  (d : Nat) (ns : List Nd) (hN : Nt.Nds w0 b d an ns) (hn : ns.length = n) (_hn1 : n ≤ 100) (hi : i < ns.length) (x : Nat) (hx : ns[i].a = (x : Int)) (hx4 : x < 4) (hsz : ns[i].t.size ≤ 2147483647) (hO : Tk.Ops w0) (hOb : 0 < b) :
  Calls Tryz.prog 58 #[.pointer (some ⟨b, 0, none⟩), .int .i64 i, va, vc] X fun e' w' => e' = .returned (.tuple #[]) ∧ Gm.G w0 B b an n cn af m cf l want (Gm.goes want p (Gm.assignS l i x ns[i].t a c)).1 (Gm.goes want p (Gm.assignS l i x ns[i].t a c)).2 w' ∧ Gm.KeepI X w' := by
 obtain ⟨R, hR⟩ : ∃ R, Gm.goes want p (Gm.assignS l i x ns[i].t a c) = R := ⟨_, rfl⟩
 rw [hR]
 obtain ⟨v, hA, _⟩ := hG.game
 have hle : B ≤ X.heap.size := Nat.le_trans hG.le hG.fr.size
 have hlt := hG.lt
 have hOX : Tk.Ops X := Gm.ops_fr hO hOb hG.lt hG.fr
 obtain ⟨x0, hx0⟩ : ∃ z, l.getD 40 0 = z := ⟨_, rfl⟩
 obtain ⟨x1, hx1⟩ : ∃ z, l.getD 41 0 = z := ⟨_, rfl⟩
 obtain ⟨x2, hx2⟩ : ∃ z, l.getD 42 0 = z := ⟨_, rfl⟩
 obtain ⟨x3, hx3⟩ : ∃ z, l.getD 43 0 = z := ⟨_, rfl⟩
 have hst : ∀ j, j < 49 → X.cell? ⟨b, 2 + j, none⟩ = some (.int .i64 (l.getD j 0)) := fun j hj => hA.st j _ (by
  have := Gm.ints_get (t := l) (f := j) (by have := hA.ll; omega)
  simpa using this)
 obtain ⟨g, off, u, han, hgb, c0, c1, c2, c3, c4, hT⟩ := Gm.nds_fr hN hG.lt hG.fr i hi
 subst han
 obtain ⟨ua, uc, rfl⟩ := hT.shape
 obtain ⟨T, hTT⟩ : ∃ z, ns[i].t = z := ⟨_, rfl⟩
 obtain ⟨kd, hkd⟩ : ∃ z, ns[i].kind = z := ⟨_, rfl⟩
 rw [hTT] at c2 c3 c4 hT hsz hR
 rw [hkd] at c0
 rw [hx] at c1
 obtain ⟨p1, hp1⟩ : ∃ z, T.op = z := ⟨_, rfl⟩
 obtain ⟨p2, hp2⟩ : ∃ z, T.num = z := ⟨_, rfl⟩
 obtain ⟨un, hun⟩ : ∃ z, T.ks.length = z := ⟨_, rfl⟩
 rw [hp1] at c2
 rw [hp2] at c3
 rw [hun] at c4 hT
 obtain ⟨⟨nv, fe⟩, htr⟩ : ∃ z, T.numR x0 x1 x2 x3 = z := ⟨_, rfl⟩
 have hnum : Gm.num l T = (nv, fe) := by unfold Gm.num; rw [hx0, hx1, hx2, hx3]; exact htr
 have HRR : Hid ((if fe ≠ 0 then Gm.goes want p (Gm.fault l i fe) else Gm.goes want p (match Gm.pass l a c with | none => [] | some t => [((⟨i, 0, 2, i, 0⟩ : Mv), t.set (40 + x) nv)])) = R) := by
  show _ = R
  rw [← hR]
  unfold Gm.assignS
  rw [hnum]
  by_cases h : fe = 0
  ·rw [if_neg (by simpa using h), if_neg (by simpa using h)]
   simp only [Int.toNat_natCast]
   first | done | rfl
  ·rw [if_pos h, if_pos h]
 have kb0 := hA.net0
 -- the node's box
 obtain ⟨W1, hW1⟩ : ∃ z, (X.alloc (.cells #[.int .i64 0, .int .i64 0, .int .i64 0, .int .i64 0, .slice none 0 0] 70)).setRow X.heap.size #[.int .i64 kd, .int .i64 x, .int .i64 p1, .int .i64 p2, .slice ua un uc] = z := ⟨_, rfl⟩
 have Na : (X.alloc (.cells #[.int .i64 0, .int .i64 0, .int .i64 0, .int .i64 0, .slice none 0 0] 70)).heap[X.heap.size]? = some (.cells #[.int .i64 0, .int .i64 0, .int .i64 0, .int .i64 0, .slice none 0 0] 70 (0, 0)) := heap_alloc_new X _
 have N1 : W1.heap[X.heap.size]? = some (.cells #[.int .i64 kd, .int .i64 x, .int .i64 p1, .int .i64 p2, .slice ua un uc] 70 (0, 0)) := by rw [← hW1]; exact setRow_heap _ _ _ _ _ _ Na
 have hB1 : Below X.heap.size X W1 := by rw [← hW1]; exact Tk.below_row ((Below.refl _ X).alloc (Nat.le_refl _) _) (Nat.le_refl _) _
 have CT : Hid (∀ V, Below W1.heap.size W1 V → Calls Tryz.prog 83 #[.agg #[.int .i64 p1, .int .i64 p2, .slice ua un uc], .agg #[.int .i64 x0, .int .i64 x1, .int .i64 x2, .int .i64 x3]] V fun e w' => e = .returned (.tuple #[.int .i64 nv, .int .i64 fe]) ∧ Below W1.heap.size W1 w') := fun V hV => by
  have hXV : Below X.heap.size X V := hB1.trans (hV.mono hB1.size)
  have h := Tryz.numberW_any d T (.slice ua un uc) x0 x1 x2 x3 V ((hT.below (hXV.mono (by omega))).wider (by have := hXV.size; omega)) (hOX.below hXV hOX.lt) hsz
  rw [htr, hp1, hp2] at h
  exact h.mono fun _ _ q => ⟨q.1, hV.trans (q.2.mono hV.size)⟩
 have CF : Hid (∀ V, Below W1.heap.size W1 V → V.cell? ⟨X.heap.size, 2, none⟩ = some (.int .i64 p1) ∧ V.cell? ⟨X.heap.size, 3, none⟩ = some (.int .i64 p2) ∧ V.cell? ⟨X.heap.size, 4, none⟩ = some (.slice ua un uc) ∧ V.cell? ⟨b, 42, none⟩ = some (.int .i64 x0) ∧ V.cell? ⟨b, 43, none⟩ = some (.int .i64 x1) ∧ V.cell? ⟨b, 44, none⟩ = some (.int .i64 x2) ∧ V.cell? ⟨b, 45, none⟩ = some (.int .i64 x3)) := fun V hV => by
  have hXV : Below X.heap.size X V := hB1.trans (hV.mono hB1.size)
  have hbx : V.heap[X.heap.size]? = some (.cells #[.int .i64 kd, .int .i64 x, .int .i64 p1, .int .i64 p2, .slice ua un uc] 70 (0, 0)) := by rw [hV.block _ (Gm.blk_lt N1)]; exact N1
  have hcb : ∀ o, V.cell? ⟨b, o, none⟩ = X.cell? ⟨b, o, none⟩ := fun o => hXV.cell (p := ⟨b, o, none⟩) (by show b < _; omega)
  rw [hcb, hcb, hcb, hcb]
  exact ⟨by simp [World.cell?, hbx], by simp [World.cell?, hbx], by simp [World.cell?, hbx], by rw [← hx0]; exact hst 40 (by omega), by rw [← hx1]; exact hst 41 (by omega), by rw [← hx2]; exact hst 42 (by omega), by rw [← hx3]; exact hst 43 (by omega)⟩
 have BR : Hid (Below W1.heap.size W1 W1) := Below.refl _ _
 have HG : Hid (Gm.G w0 B b (some ⟨g, off, none⟩) n cn af m cf l want p.1 p.2 X ∧ p.1.length ≤ 5000 ∧ l.length = 49 ∧ Below X.heap.size X W1 ∧ W1.heap[X.heap.size]? = some (.cells #[.int .i64 kd, .int .i64 x, .int .i64 p1, .int .i64 p2, .slice ua un uc] 70 (0, 0))) := ⟨hG, hl, hS.1, hB1, N1⟩
 have HP : Hid (∀ W1, Gm.G w0 B b (some ⟨g, off, none⟩) n cn af m cf l want p.1 p.2 W1 → Gm.KeepI X W1 → Calls Tryz.prog 61 #[.pointer (some ⟨b, 0, none⟩), va, vc] W1 fun e w' => e = .returned (Gm.passV (Gm.pass l a c)) ∧ Below W1.heap.size W1 w') := fun W1 h1 hk =>
  Gm.G.pass h1 a c va vc (ha.keepI hk) (hc.keepI hk) ha4 hc4 hal hcl hS
 have hu := Tryz.underlying29
 have HI49 : Hid (∀ t : List Int, t.length = 49 → (Tryz.prog.info? 29).map (·.size) = some (Gm.ints t).toArray.size ∧ (#[.int .i64 0, .int .i64 0, .int .i64 0, .int .i64 0, .int .i64 0, .int .i64 0, .int .i64 0, .int .i64 0, .int .i64 0, .int .i64 0, .int .i64 0, .int .i64 0, .int .i64 0, .int .i64 0, .int .i64 0, .int .i64 0, .int .i64 0, .int .i64 0, .int .i64 0, .int .i64 0, .int .i64 0, .int .i64 0, .int .i64 0, .int .i64 0, .int .i64 0, .int .i64 0, .int .i64 0, .int .i64 0, .int .i64 0, .int .i64 0, .int .i64 0, .int .i64 0, .int .i64 0, .int .i64 0, .int .i64 0, .int .i64 0, .int .i64 0, .int .i64 0, .int .i64 0, .int .i64 0, .int .i64 0, .int .i64 0, .int .i64 0, .int .i64 0, .int .i64 0, .int .i64 0, .int .i64 0, .int .i64 0, .int .i64 0] : Array Value).size = (Gm.ints t).toArray.size ∧ (Gm.ints t).toArray.all (·.oneCell') = true) := fun t ht => by
  have h : (Gm.ints t).toArray.size = 49 := by simpa [Gm.ints_length] using ht
  refine ⟨by rw [h]; kernel_rfl, by rw [h]; rfl, all_oneCell_toArray (Gm.ints_one t)⟩
 have hin : (i : Int) < n := by omega
 have hi0 : (0 : Int) ≤ i := by omega
 have i1 : (x : Int) < 4 := by omega
 have i0 : (0 : Int) ≤ x := by omega
 have HW1 : Hid _ := hW1
 have HHX : Hid (x < 4) := hx4
 clear hG hl ha hc ha4 hc4 hal hcl hS hN hn hx hsz hO hOb hR hA hle hlt hOX hx0 hx1 hx2 hx3 hst hTT hkd hT hp1 hp2 hun htr hnum hW1 N1 hB1 hx4 hgb hi _hn1
 go_enter Tryz.func58, Tryz.ntmps58
 go_upto_region 1 with (refine wpList_store_row rfl 70 _ _ rfl X.heap.size #[.int .i64 kd, .int .i64 x, .int .i64 p1, .int .i64 p2, .slice ua un uc] rfl rfl 70 _ Na (by kernel_rfl) rfl (by kernel_rfl) ?_; rw [HW1.out])
 clear Na c0 c1 c2 c3 c4 kb0
 go_region_held3 (fun V => V.cell? ⟨X.heap.size, 2, none⟩ = some (.int .i64 p1) ∧ V.cell? ⟨X.heap.size, 3, none⟩ = some (.int .i64 p2) ∧ V.cell? ⟨X.heap.size, 4, none⟩ = some (.slice ua un uc) ∧ V.cell? ⟨b, 42, none⟩ = some (.int .i64 x0) ∧ V.cell? ⟨b, 43, none⟩ = some (.int .i64 x1) ∧ V.cell? ⟨b, 44, none⟩ = some (.int .i64 x2) ∧ V.cell? ⟨b, 45, none⟩ = some (.int .i64 x3))
  (first | exact CF.out _ B3.out | exact CF.out _ BR.out.drew | exact CF.out _ BR.out)
  (first
  | (go_simp; go_at_call 83; refine Calls.mono (CT.out _ ?_) ?_; (first | exact BR.out | exact BR.out.drew | exact Tk.below_drewN BR.out _); rintro e W3 ⟨rfl, b3⟩; have B3 : Hid (Below W1.heap.size W1 W3) := b3; clear b3))
 all_goals
  rename World => wr
  have hX3 : Below X.heap.size X wr := HG.out.2.2.2.1.trans (B3.out.mono HG.out.2.2.2.1.size)
  have HG1 : Hid (Gm.G w0 B b (some ⟨g, off, none⟩) n cn af m cf l want p.1 p.2 wr) := HG.out.1.below hX3
  have HK1 : Hid (Gm.KeepI X wr) := Gm.KeepI.below hX3
  have HNB : Hid (wr.heap[X.heap.size]? = some (.cells #[.int .i64 kd, .int .i64 x, .int .i64 p1, .int .i64 p2, .slice ua un uc] 70 (0, 0))) := by
   show wr.heap[X.heap.size]? = _
   rw [B3.out.block _ (Gm.blk_lt HG.out.2.2.2.2)]; exact HG.out.2.2.2.2
  clear CT CF BR B3 hX3
  go_simp
  by_cases hfe : fe = 0
  ·have e0 : (fe != 0) = false := by simpa using hfe
   have HR2 : Hid (Gm.goes want p (match Gm.pass l a c with | none => [] | some t => [((⟨i, 0, 2, i, 0⟩ : Mv), t.set (40 + x) nv)]) = R) := by
     have := HRR.out
     rw [if_neg (by simpa using hfe)] at this
     exact this
   have HPC : Hid _ := HP.out wr HG1.out HK1.out
   obtain ⟨o, ho⟩ : ∃ z, Gm.pass l a c = z := ⟨_, rfl⟩
   have HO : Hid (Gm.pass l a c = o) := ho
   rw [ho] at HPC
   clear HRR hfe HP ho
   cases o with
   | none =>
     obtain ⟨e1, e2, e3⟩ := HI49.out Gm.zeros (by kernel_rfl)
     go_wp2_with fail
     refine Calls.mono HPC.out ?_
     rintro e W2 ⟨rfl, b2⟩
     have N2a : (W2.alloc (.cells #[.int .i64 0, .int .i64 0, .int .i64 0, .int .i64 0, .int .i64 0, .int .i64 0, .int .i64 0, .int .i64 0, .int .i64 0, .int .i64 0, .int .i64 0, .int .i64 0, .int .i64 0, .int .i64 0, .int .i64 0, .int .i64 0, .int .i64 0, .int .i64 0, .int .i64 0, .int .i64 0, .int .i64 0, .int .i64 0, .int .i64 0, .int .i64 0, .int .i64 0, .int .i64 0, .int .i64 0, .int .i64 0, .int .i64 0, .int .i64 0, .int .i64 0, .int .i64 0, .int .i64 0, .int .i64 0, .int .i64 0, .int .i64 0, .int .i64 0, .int .i64 0, .int .i64 0, .int .i64 0, .int .i64 0, .int .i64 0, .int .i64 0, .int .i64 0, .int .i64 0, .int .i64 0, .int .i64 0, .int .i64 0, .int .i64 0] 29)).heap[W2.heap.size]? = some (.cells #[.int .i64 0, .int .i64 0, .int .i64 0, .int .i64 0, .int .i64 0, .int .i64 0, .int .i64 0, .int .i64 0, .int .i64 0, .int .i64 0, .int .i64 0, .int .i64 0, .int .i64 0, .int .i64 0, .int .i64 0, .int .i64 0, .int .i64 0, .int .i64 0, .int .i64 0, .int .i64 0, .int .i64 0, .int .i64 0, .int .i64 0, .int .i64 0, .int .i64 0, .int .i64 0, .int .i64 0, .int .i64 0, .int .i64 0, .int .i64 0, .int .i64 0, .int .i64 0, .int .i64 0, .int .i64 0, .int .i64 0, .int .i64 0, .int .i64 0, .int .i64 0, .int .i64 0, .int .i64 0, .int .i64 0, .int .i64 0, .int .i64 0, .int .i64 0, .int .i64 0, .int .i64 0, .int .i64 0, .int .i64 0, .int .i64 0] 29 (0, 0)) := heap_alloc_new W2 _
     obtain ⟨W3, hW3⟩ : ∃ z, (W2.alloc (.cells #[.int .i64 0, .int .i64 0, .int .i64 0, .int .i64 0, .int .i64 0, .int .i64 0, .int .i64 0, .int .i64 0, .int .i64 0, .int .i64 0, .int .i64 0, .int .i64 0, .int .i64 0, .int .i64 0, .int .i64 0, .int .i64 0, .int .i64 0, .int .i64 0, .int .i64 0, .int .i64 0, .int .i64 0, .int .i64 0, .int .i64 0, .int .i64 0, .int .i64 0, .int .i64 0, .int .i64 0, .int .i64 0, .int .i64 0, .int .i64 0, .int .i64 0, .int .i64 0, .int .i64 0, .int .i64 0, .int .i64 0, .int .i64 0, .int .i64 0, .int .i64 0, .int .i64 0, .int .i64 0, .int .i64 0, .int .i64 0, .int .i64 0, .int .i64 0, .int .i64 0, .int .i64 0, .int .i64 0, .int .i64 0, .int .i64 0] 29)).setRow W2.heap.size (Gm.ints Gm.zeros).toArray = z := ⟨_, rfl⟩
     have B3 : Below wr.heap.size wr W3 := by rw [← hW3]; exact Tk.below_row (b2.alloc b2.size _) b2.size _
     have HN : Hid (Gm.G w0 B b (some ⟨g, off, none⟩) n cn af m cf l want R.1 R.2 W3 ∧ Gm.KeepI X W3) := by
      have h1 := HR2.out
      rw [HO.out] at h1
      have h2 : p = R := h1
      rw [← h2]
      exact ⟨HG1.out.below B3, HK1.out.trans (Gm.KeepI.below B3)⟩
     have HW3 : Hid _ := hW3
     clear b2 B3 hW3 HPC
     unfold Gm.passV
     go_upto_region 5 with (refine wpList_store_row rfl 29 _ _ rfl W2.heap.size (Gm.ints Gm.zeros).toArray rfl rfl 29 _ N2a e1 e2 e3 ?_; rw [HW3.out])
     go_wp2
     go_end0
     exact ⟨rfl, HN.out⟩
   | some t =>
     have htl : t.length = 49 := by rw [Gm.pass_length HO.out]; exact HG.out.2.2.1
     obtain ⟨e1, e2, e3⟩ := HI49.out t htl
     go_wp2_with fail
     refine Calls.mono HPC.out ?_
     rintro e W2 ⟨rfl, b2⟩
     have N2a : (W2.alloc (.cells #[.int .i64 0, .int .i64 0, .int .i64 0, .int .i64 0, .int .i64 0, .int .i64 0, .int .i64 0, .int .i64 0, .int .i64 0, .int .i64 0, .int .i64 0, .int .i64 0, .int .i64 0, .int .i64 0, .int .i64 0, .int .i64 0, .int .i64 0, .int .i64 0, .int .i64 0, .int .i64 0, .int .i64 0, .int .i64 0, .int .i64 0, .int .i64 0, .int .i64 0, .int .i64 0, .int .i64 0, .int .i64 0, .int .i64 0, .int .i64 0, .int .i64 0, .int .i64 0, .int .i64 0, .int .i64 0, .int .i64 0, .int .i64 0, .int .i64 0, .int .i64 0, .int .i64 0, .int .i64 0, .int .i64 0, .int .i64 0, .int .i64 0, .int .i64 0, .int .i64 0, .int .i64 0, .int .i64 0, .int .i64 0, .int .i64 0] 29)).heap[W2.heap.size]? = some (.cells #[.int .i64 0, .int .i64 0, .int .i64 0, .int .i64 0, .int .i64 0, .int .i64 0, .int .i64 0, .int .i64 0, .int .i64 0, .int .i64 0, .int .i64 0, .int .i64 0, .int .i64 0, .int .i64 0, .int .i64 0, .int .i64 0, .int .i64 0, .int .i64 0, .int .i64 0, .int .i64 0, .int .i64 0, .int .i64 0, .int .i64 0, .int .i64 0, .int .i64 0, .int .i64 0, .int .i64 0, .int .i64 0, .int .i64 0, .int .i64 0, .int .i64 0, .int .i64 0, .int .i64 0, .int .i64 0, .int .i64 0, .int .i64 0, .int .i64 0, .int .i64 0, .int .i64 0, .int .i64 0, .int .i64 0, .int .i64 0, .int .i64 0, .int .i64 0, .int .i64 0, .int .i64 0, .int .i64 0, .int .i64 0, .int .i64 0] 29 (0, 0)) := heap_alloc_new W2 _
     obtain ⟨W3, hW3⟩ : ∃ z, (W2.alloc (.cells #[.int .i64 0, .int .i64 0, .int .i64 0, .int .i64 0, .int .i64 0, .int .i64 0, .int .i64 0, .int .i64 0, .int .i64 0, .int .i64 0, .int .i64 0, .int .i64 0, .int .i64 0, .int .i64 0, .int .i64 0, .int .i64 0, .int .i64 0, .int .i64 0, .int .i64 0, .int .i64 0, .int .i64 0, .int .i64 0, .int .i64 0, .int .i64 0, .int .i64 0, .int .i64 0, .int .i64 0, .int .i64 0, .int .i64 0, .int .i64 0, .int .i64 0, .int .i64 0, .int .i64 0, .int .i64 0, .int .i64 0, .int .i64 0, .int .i64 0, .int .i64 0, .int .i64 0, .int .i64 0, .int .i64 0, .int .i64 0, .int .i64 0, .int .i64 0, .int .i64 0, .int .i64 0, .int .i64 0, .int .i64 0, .int .i64 0] 29)).setRow W2.heap.size (Gm.ints t).toArray = z := ⟨_, rfl⟩
     have N3 : W3.heap[W2.heap.size]? = some (.cells (Gm.ints t).toArray 29 (0, 0)) := by rw [← hW3]; exact setRow_heap _ _ _ _ _ _ N2a
     have B3 : Below wr.heap.size wr W3 := by rw [← hW3]; exact Tk.below_row (b2.alloc b2.size _) b2.size _
     obtain ⟨W5, hW5⟩ : ∃ z, W3.setCell ⟨W2.heap.size, 40 + x, none⟩ (.int .i64 nv) = z := ⟨_, rfl⟩
     have N5 : W5.heap[W2.heap.size]? = some (.cells (Gm.ints (t.set (40 + x) nv)).toArray 29 (0, 0)) := by rw [← hW5]; exact Gm.put_row N3
     have B5 : Below wr.heap.size wr W5 := by rw [← hW5]; exact B3.setCell (p := ⟨W2.heap.size, 40 + x, none⟩) b2.size _
     have k1 : W3.cell? ⟨X.heap.size, 1, none⟩ = some (.int .i64 x) := by
      have h := HNB.out
      rw [← B3.block _ (Gm.blk_lt h)] at h
      simp [World.cell?, h]
     have cx : W3.cell? ⟨W2.heap.size, 40 + x, none⟩ = some (.int .i64 (t.getD (40 + x) 0)) := by
      simp only [World.cell?, N3]
      rw [Gm.ints_get (by have := HHX.out; omega)]
      rfl
     have fx : W3.frozen? ⟨W2.heap.size, 40 + x, none⟩ = false := by simp [World.frozen?, N3]
     have hsl : (t.set (40 + x) nv).length = 49 := by simpa using htl
     have e5 : (Tryz.prog.info? 29).map (·.size) = some (Gm.ints (t.set (40 + x) nv)).toArray.size := (HI49.out _ hsl).1
     have HK5 : Hid (Gm.KeepI X W5) := HK1.out.trans (Gm.KeepI.below B5)
     have HA : Hid _ := Tryz.add_any w0 B b (some ⟨g, off, none⟩) n cn af m cf l want p.1 p.2 (t.set (40 + x) nv) ⟨i, 0, 2, i, 0⟩ W5 (HG1.out.below B5) hsl (by have := HG.out.2.1; omega)
     have HW3 : Hid _ := hW3
     have HW5 : Hid _ := hW5
     clear b2 B3 hW3 HPC B5 hW5 N3 htl hsl
     unfold Gm.passV
     go_upto_region 5 with (refine wpList_store_row rfl 29 _ _ rfl W2.heap.size (Gm.ints t).toArray rfl rfl 29 _ N2a e1 e2 e3 ?_; rw [HW3.out])
     clear N2a e2 e3
     go_upto_region 7 with fail
     rw [HW5.out]
     go_wp2_with (first
      | refine wpList_load_row rfl 29 _ rfl _ rfl 29 (Gm.ints (t.set (40 + x) nv)).toArray (0, 0) _ N5 hu rfl e5 ?_
      | fail)
     refine Calls.mono HA.out ?_
     rintro e W6 ⟨rfl, g4, k4⟩
     have HN : Hid (Gm.G w0 B b (some ⟨g, off, none⟩) n cn af m cf l want R.1 R.2 W6 ∧ Gm.KeepI X W6) := by
      have h1 := HR2.out
      rw [HO.out] at h1
      have h2 : Gm.goes want p [((⟨i, 0, 2, i, 0⟩ : Mv), t.set (40 + x) nv)] = R := h1
      rw [← h2]
      exact ⟨g4, HK5.out.trans k4⟩
     clear g4 k4 HA
     go_wp2
     go_end0
     exact ⟨rfl, HN.out⟩
  ·have e0 : (fe != 0) = true := by simpa using hfe
   have HR2 : Hid (Gm.goes want p (Gm.fault l i fe) = R) := by
     have := HRR.out
     rw [if_pos hfe] at this
     exact this
   have HA : Hid _ := Tryz.fault_any w0 B b (some ⟨g, off, none⟩) n cn af m cf l want p i fe wr HG1.out (by have := HG.out.2.1; omega)
   clear HRR hfe HP HI49 hu
   go_wp2_with fail
   refine Calls.mono HA.out ?_
   rintro e W4 ⟨rfl, g4, k4⟩
   have HN : Hid (Gm.G w0 B b (some ⟨g, off, none⟩) n cn af m cf l want R.1 R.2 W4 ∧ Gm.KeepI X W4) := by
     rw [← HR2.out]
     exact ⟨g4, HK1.out.trans k4⟩
   clear g4 k4 HA
   go_wp2
   exact bodyPost_ret (results_none Tryz.results58 _ _ _) rfl ⟨rfl, HN.out⟩
end Go.Proofs
