import Derived.Test.YtndfbgfpnjnmlaaGreatDoorRGmAdd
namespace Go.Proofs
open Go.RowKit Go.Shelf
theorem Gm.nds_fr {w0 W : World} {B b d : Nat} {an : Option Addr} {ns : List Nd} (h : Nt.Nds w0 b d an ns) (hb : b < B) (hf : Gm.Fr B b w0 W) : Nt.Nds W b d an ns := fun j hj => by
 obtain ⟨g, off, u, h1, h2, c0, c1, c2, c3, c4, hT⟩ := h j hj
 have hc : ∀ o, W.cell? ⟨g, o, none⟩ = w0.cell? ⟨g, o, none⟩ := fun o => World.cell?_of_block (w := w0) (hf.block g (by omega) (by omega))
 exact ⟨g, off, u, h1, h2, by rw [hc]; exact c0, by rw [hc]; exact c1, by rw [hc]; exact c2, by rw [hc]; exact c3, by rw [hc]; exact c4, hT.keep fun k hk => hf.block k (by omega) (by omega)⟩
theorem Gm.fls_fr {w0 W : World} {B b d : Nat} {af : Option Addr} {fs : List Fl} (h : Nt.Fls w0 b d af fs) (hb : b < B) (hf : Gm.Fr B b w0 W) : Nt.Fls W b d af fs := fun j hj => by
 obtain ⟨g, off, u, h1, h2, c0, c1, c2, c3, c4, c5, hT⟩ := h j hj
 have hc : ∀ o, W.cell? ⟨g, o, none⟩ = w0.cell? ⟨g, o, none⟩ := fun o => World.cell?_of_block (w := w0) (hf.block g (by omega) (by omega))
 exact ⟨g, off, u, h1, h2, by rw [hc]; exact c0, by rw [hc]; exact c1, by rw [hc]; exact c2, by rw [hc]; exact c3, by rw [hc]; exact c4, by rw [hc]; exact c5, hT.keep fun k hk => hf.block k (by omega) (by omega)⟩
theorem Gm.G.pass {w0 : World} {B b : Nat} {an : Option Addr} {n cn : Nat} {af : Option Addr} {m cf : Nat} {l : List Int} {want : Int} {ms : List Mv} {tt : List Int} {X : World} (h : Gm.G w0 B b an n cn af m cf l want ms tt X) (a c : List Nat) (va vc : Value)
  (ha : Gm.Ints X va (a.map fun x : Nat => (x : Int))) (hc : Gm.Ints X vc (c.map fun x : Nat => (x : Int))) (ha4 : ∀ f ∈ a, f < 40) (hc4 : ∀ f ∈ c, f < 40) (hal : a.length ≤ 100) (hcl : c.length ≤ 100) (hS : Gm.Small l) :
  Calls Tryz.prog 61 #[.pointer (some ⟨b, 0, none⟩), va, vc] X fun e w' => e = .returned (Gm.passV (Gm.pass l a c)) ∧ Below X.heap.size X w' := by
 obtain ⟨v, hA, _⟩ := h.game
 exact Tryz.pass_any b an n cn af m cf l v want tt X hA a c va vc ha hc ha4 hc4 hal hcl hS
set_option maxRecDepth 20000 in
set_option maxHeartbeats 16000000 in
theorem Tryz.merge_any (w0 : World) (B b : Nat) (an : Option Addr) (n cn : Nat) (af : Option Addr) (m cf : Nat) (l : List Int) (want : Int) (p : List Mv × List Int) (i : Nat) (a c : List Nat) (va vc : Value) (X : World) (hG : Gm.G w0 B b an n cn af m cf l want p.1 p.2 X) (hl : p.1.length ≤ 5000)
  (ha : Gm.Ints X va (a.map fun x : Nat => (x : Int))) (hc : Gm.Ints X vc (c.map fun x : Nat => (x : Int))) (ha4 : ∀ f ∈ a, f < 40) (hc4 : ∀ f ∈ c, f < 40) (hal : a.length ≤ 100) (hcl : c.length ≤ 100) (hS : Gm.Small l) :
  Calls Tryz.prog 60 #[.pointer (some ⟨b, 0, none⟩), .int .i64 i, va, vc] X fun e' w' => e' = .returned (.tuple #[]) ∧ Gm.G w0 B b an n cn af m cf l want (Gm.goes want p (Gm.mergeS l i c a)).1 (Gm.goes want p (Gm.mergeS l i c a)).2 w' ∧ Gm.KeepI X w' := by
 obtain ⟨R, hR⟩ : ∃ R, Gm.goes want p (Gm.mergeS l i c a) = R := ⟨_, rfl⟩
 rw [hR]
 have HIV : Hid (∀ W, Gm.KeepI X W → Gm.Ints W vc (c.map fun x : Nat => (x : Int))) := fun W hk => hc.keepI hk
 obtain ⟨aa, ca, rfl, ha⟩ := ha
 obtain ⟨na, hna⟩ : ∃ z, a.length = z := ⟨_, rfl⟩
 rw [List.length_map, hna]
 have hna1 : na ≤ 100 := by omega
 have HIA : Hid (∀ W, Gm.KeepI X W → ∀ j, j < na → ∃ (g off f : Nat), a[j]? = some f ∧ f < 40 ∧ aa = some ⟨g, off, none⟩ ∧ W.cell? ⟨g, off + j, none⟩ = some (.int .i64 f)) := fun W hk j hj => by
  obtain ⟨g, off, cs, fr, h1, h2, h3⟩ := ha j (by rw [List.length_map]; omega)
  have hja : j < a.length := by omega
  refine ⟨g, off, a[j], List.getElem?_eq_getElem hja, ha4 _ (List.getElem_mem hja), h1, ?_⟩
  rw [World.cell?_of_block (w := X) (a := ⟨g, off + j, none⟩) (hk g cs _ fr h2 (by decide) (by decide)), h3]
  simp
 have HHY : Hid (Gm.Small l ∧ (∀ f ∈ c, f < 40) ∧ c.length ≤ 100 ∧ p.1.length ≤ 5000 ∧ a.length = na ∧ l.length = 49) := ⟨hS, hc4, hcl, hl, hna, hS.1⟩
 have H0 : Hid (Gm.goes want p (Gm.mergeS l i c a) = R ∧ Gm.G w0 B b an n cn af m cf l want p.1 p.2 X) := ⟨hR, hG⟩
 have hu := Tryz.underlying29
 have HI49 : Hid (∀ t : List Int, t.length = 49 → (Tryz.prog.info? 29).map (·.size) = some (Gm.ints t).toArray.size ∧ (#[.int .i64 0, .int .i64 0, .int .i64 0, .int .i64 0, .int .i64 0, .int .i64 0, .int .i64 0, .int .i64 0, .int .i64 0, .int .i64 0, .int .i64 0, .int .i64 0, .int .i64 0, .int .i64 0, .int .i64 0, .int .i64 0, .int .i64 0, .int .i64 0, .int .i64 0, .int .i64 0, .int .i64 0, .int .i64 0, .int .i64 0, .int .i64 0, .int .i64 0, .int .i64 0, .int .i64 0, .int .i64 0, .int .i64 0, .int .i64 0, .int .i64 0, .int .i64 0, .int .i64 0, .int .i64 0, .int .i64 0, .int .i64 0, .int .i64 0, .int .i64 0, .int .i64 0, .int .i64 0, .int .i64 0, .int .i64 0, .int .i64 0, .int .i64 0, .int .i64 0, .int .i64 0, .int .i64 0, .int .i64 0, .int .i64 0] : Array Value).size = (Gm.ints t).toArray.size ∧ (Gm.ints t).toArray.all (·.oneCell') = true) := fun t ht => by
  have h : (Gm.ints t).toArray.size = 49 := by simpa [Gm.ints_length] using ht
  refine ⟨by rw [h]; kernel_rfl, by rw [h]; rfl, all_oneCell_toArray (Gm.ints_one t)⟩
 clear hR hG hl ha hc ha4 hc4 hal hcl hS hna
 go_enter Tryz.func60, Tryz.ntmps60
 go_wp2
 go_loopg [9, 10, 11, 14] na (fun gk _ _ _ s14 wr => ∃ (j : Nat) (p' : List Mv × List Int), s14 = .int .i64 j ∧ gk + j = na ∧ Hid (Gm.goes want p' (Gm.mergeS l i c (a.drop j)) = R ∧ Gm.G w0 B b an n cn af m cf l want p'.1 p'.2 wr ∧ Gm.KeepI X wr ∧ p'.1.length ≤ p.1.length + j))
 case atStart => exact ⟨0, p, rfl, by omega, H0.out.1, H0.out.2, Gm.KeepI.refl _, by omega⟩
 case round =>
  obtain ⟨j, p', rfl, hj, HJ⟩ := hrel
  clear H0
  by_cases hlt : j < na
  ·have hd : decide ((j : Int) < na) = true := decide_eq_true (by omega)
   obtain ⟨g, off, f, haf, hf4, rfl, hcf⟩ := HIA.out wr HJ.out.2.2.1 j hlt
   have hdr : a.drop j = f :: a.drop (j + 1) := by
     obtain ⟨h1, h2⟩ := List.getElem?_eq_some_iff.1 haf
     rw [← h2]; exact List.drop_eq_getElem_cons h1
   have j1 : (j : Int) < na := by omega
   have j0 : (0 : Int) ≤ j := by omega
   obtain ⟨W1, hW1⟩ : ∃ z, wr.alloc (.cells #[.int .i64 f] 3) = z := ⟨_, rfl⟩
   have A1 : Below wr.heap.size wr W1 := by rw [← hW1]; exact (Below.refl _ wr).alloc (Nat.le_refl _) _
   have N1 : W1.heap[wr.heap.size]? = some (.cells #[.int .i64 f] 3 (0, 0)) := by rw [← hW1]; exact heap_alloc_new wr _
   have hI1 : Gm.Ints W1 (.slice (some ⟨wr.heap.size, 0, none⟩) 1 1) ([f].map fun x : Nat => (x : Int)) := ⟨_, _, rfl, fun k hk => ⟨wr.heap.size, 0, _, _, rfl, N1, by
     have hk0 : k = 0 := by simpa using hk
     subst hk0
     simp [World.cell?, N1]⟩⟩
   have HK1 : Hid (Gm.KeepI X W1) := HJ.out.2.2.1.trans (Gm.KeepI.below A1)
   have HG1 : Hid (Gm.G w0 B b an n cn af m cf l want p'.1 p'.2 W1) := HJ.out.2.1.below A1
   have HC : Hid _ := Gm.G.pass HG1.out [f] c _ vc hI1 (HIV.out W1 HK1.out) (by simpa using hf4) HHY.out.2.1 (by simp) HHY.out.2.2.1 HHY.out.1
   obtain ⟨o, ho⟩ : ∃ z, Gm.pass l [f] c = z := ⟨_, rfl⟩
   have HO : Hid (Gm.pass l [f] c = o) := ho
   rw [ho] at HC
   have HGO : Hid (Gm.goes want p' ((match Gm.pass l [f] c with | none => [] | some t => [((⟨i, (f : Nat), 0, 0, 0⟩ : Mv), t)]) ++ Gm.mergeS l i c (a.drop (j + 1))) = R) := by
     have := HJ.out.1
     rw [hdr, Gm.mergeS] at this
     exact this
   have HLN : Hid (p'.1.length ≤ 5000 + j ∧ p'.1.length ≤ p.1.length + j) := by have h1 := HJ.out.2.2.2; have h2 := HHY.out.2.2.2.1; exact ⟨by omega, by omega⟩
   have HW1 : Hid _ := hW1
   clear hW1 A1 N1 hI1 ho hdr haf HJ
   cases o with
   | none =>
     obtain ⟨e1, e2, e3⟩ := HI49.out Gm.zeros (by kernel_rfl)
     go_wp2_with fail
     rw [HW1.out]
     refine Calls.mono HC.out ?_
     rintro e W2 ⟨rfl, b2⟩
     have N2a : (W2.alloc (.cells #[.int .i64 0, .int .i64 0, .int .i64 0, .int .i64 0, .int .i64 0, .int .i64 0, .int .i64 0, .int .i64 0, .int .i64 0, .int .i64 0, .int .i64 0, .int .i64 0, .int .i64 0, .int .i64 0, .int .i64 0, .int .i64 0, .int .i64 0, .int .i64 0, .int .i64 0, .int .i64 0, .int .i64 0, .int .i64 0, .int .i64 0, .int .i64 0, .int .i64 0, .int .i64 0, .int .i64 0, .int .i64 0, .int .i64 0, .int .i64 0, .int .i64 0, .int .i64 0, .int .i64 0, .int .i64 0, .int .i64 0, .int .i64 0, .int .i64 0, .int .i64 0, .int .i64 0, .int .i64 0, .int .i64 0, .int .i64 0, .int .i64 0, .int .i64 0, .int .i64 0, .int .i64 0, .int .i64 0, .int .i64 0, .int .i64 0] 29)).heap[W2.heap.size]? = some (.cells #[.int .i64 0, .int .i64 0, .int .i64 0, .int .i64 0, .int .i64 0, .int .i64 0, .int .i64 0, .int .i64 0, .int .i64 0, .int .i64 0, .int .i64 0, .int .i64 0, .int .i64 0, .int .i64 0, .int .i64 0, .int .i64 0, .int .i64 0, .int .i64 0, .int .i64 0, .int .i64 0, .int .i64 0, .int .i64 0, .int .i64 0, .int .i64 0, .int .i64 0, .int .i64 0, .int .i64 0, .int .i64 0, .int .i64 0, .int .i64 0, .int .i64 0, .int .i64 0, .int .i64 0, .int .i64 0, .int .i64 0, .int .i64 0, .int .i64 0, .int .i64 0, .int .i64 0, .int .i64 0, .int .i64 0, .int .i64 0, .int .i64 0, .int .i64 0, .int .i64 0, .int .i64 0, .int .i64 0, .int .i64 0, .int .i64 0] 29 (0, 0)) := heap_alloc_new W2 _
     obtain ⟨W3, hW3⟩ : ∃ z, (W2.alloc (.cells #[.int .i64 0, .int .i64 0, .int .i64 0, .int .i64 0, .int .i64 0, .int .i64 0, .int .i64 0, .int .i64 0, .int .i64 0, .int .i64 0, .int .i64 0, .int .i64 0, .int .i64 0, .int .i64 0, .int .i64 0, .int .i64 0, .int .i64 0, .int .i64 0, .int .i64 0, .int .i64 0, .int .i64 0, .int .i64 0, .int .i64 0, .int .i64 0, .int .i64 0, .int .i64 0, .int .i64 0, .int .i64 0, .int .i64 0, .int .i64 0, .int .i64 0, .int .i64 0, .int .i64 0, .int .i64 0, .int .i64 0, .int .i64 0, .int .i64 0, .int .i64 0, .int .i64 0, .int .i64 0, .int .i64 0, .int .i64 0, .int .i64 0, .int .i64 0, .int .i64 0, .int .i64 0, .int .i64 0, .int .i64 0, .int .i64 0] 29)).setRow W2.heap.size (Gm.ints Gm.zeros).toArray = z := ⟨_, rfl⟩
     have B3 : Below W1.heap.size W1 W3 := by rw [← hW3]; exact Tk.below_row (b2.alloc b2.size _) b2.size _
     have HN : Hid (Gm.goes want p' (Gm.mergeS l i c (a.drop (j + 1))) = R ∧ Gm.G w0 B b an n cn af m cf l want p'.1 p'.2 W3 ∧ Gm.KeepI X W3 ∧ p'.1.length ≤ p.1.length + (j + 1)) := by
      have h1 := HGO.out
      rw [HO.out] at h1
      exact ⟨h1, HG1.out.below B3, HK1.out.trans (Gm.KeepI.below B3), by have := HLN.out.2; omega⟩
     have HW3 : Hid _ := hW3
     clear b2 B3 hW3 HC HGO hcf
     unfold Gm.passV
     go_upto_region 4 with (refine wpList_store_row rfl 29 _ _ rfl W2.heap.size (Gm.ints Gm.zeros).toArray rfl rfl 29 _ N2a e1 e2 e3 ?_; rw [HW3.out])
     go_wp2
     go_roundg (gk - 1)
     case measure => omega
     case rel => exact ⟨j + 1, p', by go_num, by omega, HN.out⟩
   | some t =>
     have htl : t.length = 49 := by rw [Gm.pass_length HO.out]; exact HHY.out.2.2.2.2.2
     obtain ⟨e1, e2, e3⟩ := HI49.out t htl
     go_wp2_with fail
     rw [HW1.out]
     refine Calls.mono HC.out ?_
     rintro e W2 ⟨rfl, b2⟩
     have N2a : (W2.alloc (.cells #[.int .i64 0, .int .i64 0, .int .i64 0, .int .i64 0, .int .i64 0, .int .i64 0, .int .i64 0, .int .i64 0, .int .i64 0, .int .i64 0, .int .i64 0, .int .i64 0, .int .i64 0, .int .i64 0, .int .i64 0, .int .i64 0, .int .i64 0, .int .i64 0, .int .i64 0, .int .i64 0, .int .i64 0, .int .i64 0, .int .i64 0, .int .i64 0, .int .i64 0, .int .i64 0, .int .i64 0, .int .i64 0, .int .i64 0, .int .i64 0, .int .i64 0, .int .i64 0, .int .i64 0, .int .i64 0, .int .i64 0, .int .i64 0, .int .i64 0, .int .i64 0, .int .i64 0, .int .i64 0, .int .i64 0, .int .i64 0, .int .i64 0, .int .i64 0, .int .i64 0, .int .i64 0, .int .i64 0, .int .i64 0, .int .i64 0] 29)).heap[W2.heap.size]? = some (.cells #[.int .i64 0, .int .i64 0, .int .i64 0, .int .i64 0, .int .i64 0, .int .i64 0, .int .i64 0, .int .i64 0, .int .i64 0, .int .i64 0, .int .i64 0, .int .i64 0, .int .i64 0, .int .i64 0, .int .i64 0, .int .i64 0, .int .i64 0, .int .i64 0, .int .i64 0, .int .i64 0, .int .i64 0, .int .i64 0, .int .i64 0, .int .i64 0, .int .i64 0, .int .i64 0, .int .i64 0, .int .i64 0, .int .i64 0, .int .i64 0, .int .i64 0, .int .i64 0, .int .i64 0, .int .i64 0, .int .i64 0, .int .i64 0, .int .i64 0, .int .i64 0, .int .i64 0, .int .i64 0, .int .i64 0, .int .i64 0, .int .i64 0, .int .i64 0, .int .i64 0, .int .i64 0, .int .i64 0, .int .i64 0, .int .i64 0] 29 (0, 0)) := heap_alloc_new W2 _
     obtain ⟨W3, hW3⟩ : ∃ z, (W2.alloc (.cells #[.int .i64 0, .int .i64 0, .int .i64 0, .int .i64 0, .int .i64 0, .int .i64 0, .int .i64 0, .int .i64 0, .int .i64 0, .int .i64 0, .int .i64 0, .int .i64 0, .int .i64 0, .int .i64 0, .int .i64 0, .int .i64 0, .int .i64 0, .int .i64 0, .int .i64 0, .int .i64 0, .int .i64 0, .int .i64 0, .int .i64 0, .int .i64 0, .int .i64 0, .int .i64 0, .int .i64 0, .int .i64 0, .int .i64 0, .int .i64 0, .int .i64 0, .int .i64 0, .int .i64 0, .int .i64 0, .int .i64 0, .int .i64 0, .int .i64 0, .int .i64 0, .int .i64 0, .int .i64 0, .int .i64 0, .int .i64 0, .int .i64 0, .int .i64 0, .int .i64 0, .int .i64 0, .int .i64 0, .int .i64 0, .int .i64 0] 29)).setRow W2.heap.size (Gm.ints t).toArray = z := ⟨_, rfl⟩
     have N3 : W3.heap[W2.heap.size]? = some (.cells (Gm.ints t).toArray 29 (0, 0)) := by rw [← hW3]; exact setRow_heap _ _ _ _ _ _ N2a
     have B3 : Below W1.heap.size W1 W3 := by rw [← hW3]; exact Tk.below_row (b2.alloc b2.size _) b2.size _
     have HK3 : Hid (Gm.KeepI X W3) := HK1.out.trans (Gm.KeepI.below B3)
     have HA : Hid _ := Tryz.add_any w0 B b an n cn af m cf l want p'.1 p'.2 t ⟨i, (f : Nat), 0, 0, 0⟩ W3 (HG1.out.below B3) htl (by have := HLN.out.1; omega)
     have HW3 : Hid _ := hW3
     clear b2 B3 hW3 HC hcf
     unfold Gm.passV
     go_upto_region 4 with (refine wpList_store_row rfl 29 _ _ rfl W2.heap.size (Gm.ints t).toArray rfl rfl 29 _ N2a e1 e2 e3 ?_; rw [HW3.out])
     go_wp2_with (first
      | refine wpList_load_row rfl 29 _ rfl _ rfl 29 (Gm.ints t).toArray (0, 0) _ N3 hu rfl e1 ?_
      | fail)
     refine Calls.mono HA.out ?_
     rintro e W4 ⟨rfl, g4, k4⟩
     have HN : Hid (Gm.goes want (p'.1 ++ [⟨i, (f : Nat), 0, 0, 0⟩], if (p'.1.length : Int) = want then t else p'.2) (Gm.mergeS l i c (a.drop (j + 1))) = R ∧ Gm.G w0 B b an n cn af m cf l want (p'.1 ++ [⟨i, (f : Nat), 0, 0, 0⟩]) (if (p'.1.length : Int) = want then t else p'.2) W4 ∧ Gm.KeepI X W4 ∧ (p'.1 ++ [(⟨i, (f : Nat), 0, 0, 0⟩ : Mv)]).length ≤ p.1.length + (j + 1)) := by
      have h1 := HGO.out
      rw [HO.out] at h1
      exact ⟨h1, g4, HK3.out.trans k4, by have := HLN.out.2; simp; omega⟩
     clear g4 k4 HA HGO
     go_wp2
     go_roundg (gk - 1)
     case measure => omega
     case rel => exact ⟨j + 1, (p'.1 ++ [(⟨i, (f : Nat), 0, 0, 0⟩ : Mv)], if (p'.1.length : Int) = want then t else p'.2), by go_num, by omega, HN.out⟩
  ·obtain rfl : j = na := by omega
   have hd : decide ((j : Int) < j) = false := decide_eq_false (by omega)
   have HE : Hid (p' = R) := by
     have h1 := HJ.out.1
     rw [List.drop_eq_nil_of_le (by rw [HHY.out.2.2.2.2.1]; exact Nat.le_refl _), Gm.mergeS] at h1
     exact h1
   have HN : Hid (Gm.G w0 B b an n cn af m cf l want R.1 R.2 wr ∧ Gm.KeepI X wr) := by rw [← HE.out]; exact ⟨HJ.out.2.1, HJ.out.2.2.1⟩
   clear HJ
   go_wp2
   go_end0
   exact ⟨rfl, HN.out⟩
end Go.Proofs
namespace Go.Proofs
open Go.RowKit Go.Shelf
theorem Gm.G.box {w0 : World} {B b : Nat} {an : Option Addr} {n cn : Nat} {af : Option Addr} {m cf : Nat} {l : List Int} {want : Int} {ms : List Mv} {tt : List Int} {W : World} (h : Gm.G w0 B b an n cn af m cf l want ms tt W) {q : Nat} {cs : Array Value} {z : Nat × Nat} (hq : W.heap[q]? = some (.cells cs 29 z)) (hB : B ≤ q) (o : Nat) (v : Value) : Gm.G w0 B b an n cn af m cf l want ms tt (W.setCell ⟨q, o, none⟩ v) := by
 obtain ⟨u, h1, h2⟩ := h.game
 have hlt := h.lt
 have blk : ∀ k, k ≠ q → (W.setCell ⟨q, o, none⟩ v).heap[k]? = W.heap[k]? := fun k hk => Below.heap_setCell _ _ _ _ hk
 refine ⟨⟨u, h1.keep (blk b (by omega)), h2.1, h2.2.imp id fun ⟨g, cap, cur, hv, e1, e2, e3⟩ => ⟨g, cap, cur, hv, e1, (blk g fun e => ?_).trans e2, e3⟩⟩, h.fr.trans ⟨rfl, rfl, rfl, by simp [World.setCell], fun k h3 _ => blk k (by omega)⟩, h.lt, h.le⟩
 rw [e, hq] at e2
 injection e2 with e2
 injection e2 with _ e2
 exact absurd e2 (by decide)
set_option maxRecDepth 20000 in
set_option maxHeartbeats 16000000 in
theorem Tryz.task_any (w0 : World) (B b : Nat) (an : Option Addr) (n cn : Nat) (af : Option Addr) (m cf : Nat) (l : List Int) (want : Int) (p : List Mv × List Int) (i : Nat) (a c : List Nat) (va vc : Value) (X : World) (hG : Gm.G w0 B b an n cn af m cf l want p.1 p.2 X) (hl : p.1.length ≤ 5000)
   (ha : Gm.Ints X va (a.map fun x : Nat => (x : Int))) (hc : Gm.Ints X vc (c.map fun x : Nat => (x : Int))) (ha4 : ∀ f ∈ a, f < 40) (hc4 : ∀ f ∈ c, f < 40) (hal : a.length ≤ 100) (hcl : c.length ≤ 100) (hS : Gm.Small l)
   (d : Nat) (ns : List Nd) (hN : Nt.Nds w0 b d an ns) (hn : ns.length = n) (_hn1 : n ≤ 100) (hi : i < ns.length) (x : Nat) (hx : ns[i].a = (x : Int)) (hx4 : x < 4) :
   Calls Tryz.prog 57 #[.pointer (some ⟨b, 0, none⟩), .int .i64 i, va, vc] X fun e' w' => e' = .returned (.tuple #[]) ∧ Gm.G w0 B b an n cn af m cf l want (Gm.goes want p (Gm.taskS l i x a c)).1 (Gm.goes want p (Gm.taskS l i x a c)).2 w' ∧ Gm.KeepI X w' := by
 obtain ⟨R, hR⟩ : ∃ R, Gm.goes want p (Gm.taskS l i x a c) = R := ⟨_, rfl⟩
 rw [hR]
 have HC : Hid _ := hG.pass a c va vc ha hc ha4 hc4 hal hcl hS
 obtain ⟨o, ho⟩ : ∃ z, Gm.pass l a c = z := ⟨_, rfl⟩
 have HO : Hid (Gm.pass l a c = o ∧ l.length = 49 ∧ p.1.length ≤ 5000) := ⟨ho, hS.1, hl⟩
 rw [ho] at HC
 have HRR : Hid (Gm.goes want p (Gm.taskS l i x a c) = R) := hR
 have HG : Hid (Gm.G w0 B b an n cn af m cf l want p.1 p.2 X) := hG
 have hin : (i : Int) < n := by omega
 have hi0 : (0 : Int) ≤ i := by omega
 obtain ⟨g, off, gu, han, hgb, -⟩ := hN i hi
 subst han
 have HNC : Hid (∀ (W : World) (p' : List Mv × List Int), Gm.G w0 B b (some ⟨g, off, none⟩) n cn af m cf l want p'.1 p'.2 W → W.cell? ⟨g, off + i * 5 + 1, none⟩ = some (.int .i64 (x : Int)) ∧ W.cell? ⟨b, 0, none⟩ = some (.slice (some ⟨g, off, none⟩) n cn)) := fun W p' h => by
   obtain ⟨g', off', u', hga, hgb', k0, k1, -⟩ := Gm.nds_fr hN h.lt h.fr i hi
   simp only [Option.some.injEq, Addr.mk.injEq, and_true] at hga
   obtain ⟨rfl, rfl⟩ := hga
   obtain ⟨v, hA, _⟩ := h.game
   rw [hx] at k1
   exact ⟨k1, hA.net0⟩
 have hu := Tryz.underlying29
 have HI49 : Hid (∀ t : List Int, t.length = 49 → (Tryz.prog.info? 29).map (·.size) = some (Gm.ints t).toArray.size ∧ (#[.int .i64 0, .int .i64 0, .int .i64 0, .int .i64 0, .int .i64 0, .int .i64 0, .int .i64 0, .int .i64 0, .int .i64 0, .int .i64 0, .int .i64 0, .int .i64 0, .int .i64 0, .int .i64 0, .int .i64 0, .int .i64 0, .int .i64 0, .int .i64 0, .int .i64 0, .int .i64 0, .int .i64 0, .int .i64 0, .int .i64 0, .int .i64 0, .int .i64 0, .int .i64 0, .int .i64 0, .int .i64 0, .int .i64 0, .int .i64 0, .int .i64 0, .int .i64 0, .int .i64 0, .int .i64 0, .int .i64 0, .int .i64 0, .int .i64 0, .int .i64 0, .int .i64 0, .int .i64 0, .int .i64 0, .int .i64 0, .int .i64 0, .int .i64 0, .int .i64 0, .int .i64 0, .int .i64 0, .int .i64 0, .int .i64 0] : Array Value).size = (Gm.ints t).toArray.size ∧ (Gm.ints t).toArray.all (·.oneCell') = true) := fun t ht => by
   have h : (Gm.ints t).toArray.size = 49 := by simpa [Gm.ints_length] using ht
   refine ⟨by rw [h]; kernel_rfl, by rw [h]; rfl, all_oneCell_toArray (Gm.ints_one t)⟩
 clear hG hl ha hc ha4 hc4 hal hcl hS ho hR hN hn hx
 cases o with
 | none =>
   obtain ⟨e1, e2, e3⟩ := HI49.out Gm.zeros (by kernel_rfl)
   go_enter Tryz.func57, Tryz.ntmps57
   go_wp2_with fail
   refine Calls.mono HC.out ?_
   rintro e W2 ⟨rfl, b2⟩
   have N2a : (W2.alloc (.cells #[.int .i64 0, .int .i64 0, .int .i64 0, .int .i64 0, .int .i64 0, .int .i64 0, .int .i64 0, .int .i64 0, .int .i64 0, .int .i64 0, .int .i64 0, .int .i64 0, .int .i64 0, .int .i64 0, .int .i64 0, .int .i64 0, .int .i64 0, .int .i64 0, .int .i64 0, .int .i64 0, .int .i64 0, .int .i64 0, .int .i64 0, .int .i64 0, .int .i64 0, .int .i64 0, .int .i64 0, .int .i64 0, .int .i64 0, .int .i64 0, .int .i64 0, .int .i64 0, .int .i64 0, .int .i64 0, .int .i64 0, .int .i64 0, .int .i64 0, .int .i64 0, .int .i64 0, .int .i64 0, .int .i64 0, .int .i64 0, .int .i64 0, .int .i64 0, .int .i64 0, .int .i64 0, .int .i64 0, .int .i64 0, .int .i64 0] 29)).heap[W2.heap.size]? = some (.cells #[.int .i64 0, .int .i64 0, .int .i64 0, .int .i64 0, .int .i64 0, .int .i64 0, .int .i64 0, .int .i64 0, .int .i64 0, .int .i64 0, .int .i64 0, .int .i64 0, .int .i64 0, .int .i64 0, .int .i64 0, .int .i64 0, .int .i64 0, .int .i64 0, .int .i64 0, .int .i64 0, .int .i64 0, .int .i64 0, .int .i64 0, .int .i64 0, .int .i64 0, .int .i64 0, .int .i64 0, .int .i64 0, .int .i64 0, .int .i64 0, .int .i64 0, .int .i64 0, .int .i64 0, .int .i64 0, .int .i64 0, .int .i64 0, .int .i64 0, .int .i64 0, .int .i64 0, .int .i64 0, .int .i64 0, .int .i64 0, .int .i64 0, .int .i64 0, .int .i64 0, .int .i64 0, .int .i64 0, .int .i64 0, .int .i64 0] 29 (0, 0)) := heap_alloc_new W2 _
   obtain ⟨W3, hW3⟩ : ∃ z, (W2.alloc (.cells #[.int .i64 0, .int .i64 0, .int .i64 0, .int .i64 0, .int .i64 0, .int .i64 0, .int .i64 0, .int .i64 0, .int .i64 0, .int .i64 0, .int .i64 0, .int .i64 0, .int .i64 0, .int .i64 0, .int .i64 0, .int .i64 0, .int .i64 0, .int .i64 0, .int .i64 0, .int .i64 0, .int .i64 0, .int .i64 0, .int .i64 0, .int .i64 0, .int .i64 0, .int .i64 0, .int .i64 0, .int .i64 0, .int .i64 0, .int .i64 0, .int .i64 0, .int .i64 0, .int .i64 0, .int .i64 0, .int .i64 0, .int .i64 0, .int .i64 0, .int .i64 0, .int .i64 0, .int .i64 0, .int .i64 0, .int .i64 0, .int .i64 0, .int .i64 0, .int .i64 0, .int .i64 0, .int .i64 0, .int .i64 0, .int .i64 0] 29)).setRow W2.heap.size (Gm.ints Gm.zeros).toArray = z := ⟨_, rfl⟩
   have B3 : Below X.heap.size X W3 := by rw [← hW3]; exact Tk.below_row (b2.alloc b2.size _) b2.size _
   have HN : Hid (Gm.G w0 B b (some ⟨g, off, none⟩) n cn af m cf l want R.1 R.2 W3 ∧ Gm.KeepI X W3) := by
    have h1 := HRR.out
    unfold Gm.taskS at h1
    rw [HO.out.1] at h1
    have h2 : p = R := h1
    rw [← h2]
    exact ⟨HG.out.below B3, Gm.KeepI.below B3⟩
   have HW3 : Hid _ := hW3
   clear b2 B3 hW3 HC
   unfold Gm.passV
   go_upto_region 1 with (refine wpList_store_row rfl 29 _ _ rfl W2.heap.size (Gm.ints Gm.zeros).toArray rfl rfl 29 _ N2a e1 e2 e3 ?_; rw [HW3.out])
   go_wp2
   exact bodyPost_ret (results_none Tryz.results57 _ _ _) rfl ⟨rfl, HN.out⟩
 | some t =>
   have htl : t.length = 49 := by rw [Gm.pass_length HO.out.1]; exact HO.out.2.1
   obtain ⟨e1, e2, e3⟩ := HI49.out t htl
   go_enter Tryz.func57, Tryz.ntmps57
   go_wp2_with fail
   refine Calls.mono HC.out ?_
   rintro e W2 ⟨rfl, b2⟩
   have N2a : (W2.alloc (.cells #[.int .i64 0, .int .i64 0, .int .i64 0, .int .i64 0, .int .i64 0, .int .i64 0, .int .i64 0, .int .i64 0, .int .i64 0, .int .i64 0, .int .i64 0, .int .i64 0, .int .i64 0, .int .i64 0, .int .i64 0, .int .i64 0, .int .i64 0, .int .i64 0, .int .i64 0, .int .i64 0, .int .i64 0, .int .i64 0, .int .i64 0, .int .i64 0, .int .i64 0, .int .i64 0, .int .i64 0, .int .i64 0, .int .i64 0, .int .i64 0, .int .i64 0, .int .i64 0, .int .i64 0, .int .i64 0, .int .i64 0, .int .i64 0, .int .i64 0, .int .i64 0, .int .i64 0, .int .i64 0, .int .i64 0, .int .i64 0, .int .i64 0, .int .i64 0, .int .i64 0, .int .i64 0, .int .i64 0, .int .i64 0, .int .i64 0] 29)).heap[W2.heap.size]? = some (.cells #[.int .i64 0, .int .i64 0, .int .i64 0, .int .i64 0, .int .i64 0, .int .i64 0, .int .i64 0, .int .i64 0, .int .i64 0, .int .i64 0, .int .i64 0, .int .i64 0, .int .i64 0, .int .i64 0, .int .i64 0, .int .i64 0, .int .i64 0, .int .i64 0, .int .i64 0, .int .i64 0, .int .i64 0, .int .i64 0, .int .i64 0, .int .i64 0, .int .i64 0, .int .i64 0, .int .i64 0, .int .i64 0, .int .i64 0, .int .i64 0, .int .i64 0, .int .i64 0, .int .i64 0, .int .i64 0, .int .i64 0, .int .i64 0, .int .i64 0, .int .i64 0, .int .i64 0, .int .i64 0, .int .i64 0, .int .i64 0, .int .i64 0, .int .i64 0, .int .i64 0, .int .i64 0, .int .i64 0, .int .i64 0, .int .i64 0] 29 (0, 0)) := heap_alloc_new W2 _
   obtain ⟨W3, hW3⟩ : ∃ z, (W2.alloc (.cells #[.int .i64 0, .int .i64 0, .int .i64 0, .int .i64 0, .int .i64 0, .int .i64 0, .int .i64 0, .int .i64 0, .int .i64 0, .int .i64 0, .int .i64 0, .int .i64 0, .int .i64 0, .int .i64 0, .int .i64 0, .int .i64 0, .int .i64 0, .int .i64 0, .int .i64 0, .int .i64 0, .int .i64 0, .int .i64 0, .int .i64 0, .int .i64 0, .int .i64 0, .int .i64 0, .int .i64 0, .int .i64 0, .int .i64 0, .int .i64 0, .int .i64 0, .int .i64 0, .int .i64 0, .int .i64 0, .int .i64 0, .int .i64 0, .int .i64 0, .int .i64 0, .int .i64 0, .int .i64 0, .int .i64 0, .int .i64 0, .int .i64 0, .int .i64 0, .int .i64 0, .int .i64 0, .int .i64 0, .int .i64 0, .int .i64 0] 29)).setRow W2.heap.size (Gm.ints t).toArray = z := ⟨_, rfl⟩
   have N3 : W3.heap[W2.heap.size]? = some (.cells (Gm.ints t).toArray 29 (0, 0)) := by rw [← hW3]; exact setRow_heap _ _ _ _ _ _ N2a
   have B3 : Below X.heap.size X W3 := by rw [← hW3]; exact Tk.below_row (b2.alloc b2.size _) b2.size _
   have HN : Hid (Gm.goes want p (((List.range 2).map fun r : Nat => ((⟨i, (r : Nat), 1, i, (r : Nat)⟩ : Mv), t.set (40 + x) (r : Nat))).drop 0) = R ∧ Gm.G w0 B b (some ⟨g, off, none⟩) n cn af m cf l want p.1 p.2 W3 ∧ Gm.KeepI X W3 ∧ W3.heap[W2.heap.size]? = some (.cells (Gm.ints t).toArray 29 (0, 0)) ∧ (∀ z : Int, t.set (40 + x) z = t.set (40 + x) z) ∧ t.length = 49 ∧ p.1.length ≤ 5000 + 0 ∧ X.heap.size ≤ W2.heap.size) := by
    have h1 := HRR.out
    unfold Gm.taskS at h1
    rw [HO.out.1] at h1
    exact ⟨h1, HG.out.below B3, Gm.KeepI.below B3, N3, fun _ => rfl, htl, HO.out.2.2, b2.size⟩
   have HW3 : Hid _ := hW3
   obtain ⟨q, hq⟩ : ∃ z, W2.heap.size = z := ⟨_, rfl⟩
   have HQ : Hid (W2.heap.size = q) := hq
   clear b2 B3 hW3 HC N3 hq
   unfold Gm.passV
   go_upto_region 1 with (refine wpList_store_row rfl 29 _ _ rfl W2.heap.size (Gm.ints t).toArray rfl rfl 29 _ N2a e1 e2 e3 ?_; rw [HW3.out])
   rw [HQ.out] at HN ⊢
   go_wp2
   go_loopg [10, 20] 2 (fun gk _ s20 wr => ∃ (j : Nat) (p' : List Mv × List Int) (u : List Int), s20 = .int .i64 j ∧ gk + j = 2 ∧ Hid (Gm.goes want p' (((List.range 2).map fun r : Nat => ((⟨i, (r : Nat), 1, i, (r : Nat)⟩ : Mv), t.set (40 + x) (r : Nat))).drop j) = R ∧ Gm.G w0 B b (some ⟨g, off, none⟩) n cn af m cf l want p'.1 p'.2 wr ∧ Gm.KeepI X wr ∧ wr.heap[q]? = some (.cells (Gm.ints u).toArray 29 (0, 0)) ∧ (∀ z : Int, u.set (40 + x) z = t.set (40 + x) z) ∧ u.length = 49 ∧ p'.1.length ≤ 5000 + j ∧ X.heap.size ≤ q))
   case atStart => exact ⟨0, p, t, rfl, by omega, HN.out.1, HN.out.2.1, HN.out.2.2.1, HN.out.2.2.2.1, fun _ => rfl, HN.out.2.2.2.2.2⟩
   case round =>
    obtain ⟨j, p', u, rfl, hj, HJ⟩ := hrel
    clear HN e1 e2 e3
    by_cases hlt : j < 2
    ·have hd : decide ((j : Int) < 2) = true := decide_eq_true (by omega)
     obtain ⟨k1, k2⟩ := HNC.out wr p' HJ.out.2.1
     have cx : wr.cell? ⟨q, 40 + x, none⟩ = some (.int .i64 (u.getD (40 + x) 0)) := by
      have h1 := HJ.out.2.2.2.1
      simp only [World.cell?, h1]
      rw [Gm.ints_get (by have := HJ.out.2.2.2.2.2.1; omega)]
      rfl
     have fx : wr.frozen? ⟨q, 40 + x, none⟩ = false := by simp [World.frozen?, HJ.out.2.2.2.1]
     obtain ⟨W5, hW5⟩ : ∃ z, wr.setCell ⟨q, 40 + x, none⟩ (.int .i64 (j : Int)) = z := ⟨_, rfl⟩
     have N5 : W5.heap[q]? = some (.cells (Gm.ints (u.set (40 + x) (j : Int))).toArray 29 (0, 0)) := by rw [← hW5]; exact Gm.put_row HJ.out.2.2.2.1
     have i1 : (x : Int) < 4 := by omega
     have i0 : (0 : Int) ≤ x := by omega
     have HB5 : Hid (Gm.G w0 B b (some ⟨g, off, none⟩) n cn af m cf l want p'.1 p'.2 W5 ∧ Gm.KeepI X W5) := by
      rw [← hW5]
      have h1 := HG.out.fr.size
      have h2 := HG.out.le
      have h3 := HJ.out.2.2.2.2.2.2.2
      exact ⟨HJ.out.2.1.box HJ.out.2.2.2.1 (by omega) _ _, fun g' cs ty fr hg' n1 n2 => (Below.heap_setCell _ _ _ _ (by have := (Array.getElem?_eq_some_iff.1 hg').1; show g' ≠ q; omega)).trans (HJ.out.2.2.1 g' cs ty fr hg' n1 n2)⟩
     have hul : (u.set (40 + x) (j : Int)).length = 49 := by simpa using HJ.out.2.2.2.2.2.1
     obtain ⟨e1, e2, e3⟩ := HI49.out (u.set (40 + x) (j : Int)) hul
     have HA : Hid _ := Tryz.add_any w0 B b (some ⟨g, off, none⟩) n cn af m cf l want p'.1 p'.2 (u.set (40 + x) (j : Int)) ⟨i, (j : Nat), 1, i, (j : Nat)⟩ W5 HB5.out.1 hul (by have := HJ.out.2.2.2.2.2.2.1; omega)
     have HW5 : Hid _ := hW5
     have HN5 : Hid (W5.heap[q]? = some (.cells (Gm.ints (u.set (40 + x) (j : Int))).toArray 29 (0, 0))) := N5
     have HST : Hid (∀ r' : List (Mv × List Int), True) := fun _ => trivial
     clear hW5
     go_upto_region 6 with fail
     rw [HW5.out]
     go_wp2_with (first
      | refine wpList_load_row rfl 29 _ rfl _ rfl 29 (Gm.ints (u.set (40 + x) (j : Int))).toArray (0, 0) _ N5 hu rfl e1 ?_
      | fail)
     refine Calls.mono HA.out ?_
     rintro e W6 ⟨rfl, g6, k6⟩
     have HN : Hid (Gm.goes want (p'.1 ++ [(⟨i, (j : Nat), 1, i, (j : Nat)⟩ : Mv)], if (p'.1.length : Int) = want then u.set (40 + x) (j : Int) else p'.2) (((List.range 2).map fun r : Nat => ((⟨i, (r : Nat), 1, i, (r : Nat)⟩ : Mv), t.set (40 + x) (r : Nat))).drop (j + 1)) = R ∧ Gm.G w0 B b (some ⟨g, off, none⟩) n cn af m cf l want (p'.1 ++ [(⟨i, (j : Nat), 1, i, (j : Nat)⟩ : Mv)]) (if (p'.1.length : Int) = want then u.set (40 + x) (j : Int) else p'.2) W6 ∧ Gm.KeepI X W6 ∧ W6.heap[q]? = some (.cells (Gm.ints (u.set (40 + x) (j : Int))).toArray 29 (0, 0)) ∧ (∀ z : Int, (u.set (40 + x) (j : Int)).set (40 + x) z = t.set (40 + x) z) ∧ (u.set (40 + x) (j : Int)).length = 49 ∧ (p'.1 ++ [(⟨i, (j : Nat), 1, i, (j : Nat)⟩ : Mv)]).length ≤ 5000 + (j + 1) ∧ X.heap.size ≤ q) := by
      refine ⟨?_, g6, HB5.out.2.trans k6, ?_, fun z => ?_, hul, by have := HJ.out.2.2.2.2.2.2.1; simp; omega, HJ.out.2.2.2.2.2.2.2⟩
      ·have h1 := HJ.out.1
       rw [List.drop_eq_getElem_cons (by simpa using hlt)] at h1
       simp only [List.getElem_map, List.getElem_range] at h1
       rw [Gm.goes] at h1
       rw [HJ.out.2.2.2.2.1]
       exact h1
      ·rw [k6 q _ _ _ HN5.out (by decide) (by decide)]; exact HN5.out
      ·rw [List.set_set]; exact HJ.out.2.2.2.2.1 z
     clear g6 k6 HA HJ
     go_wp2
     go_roundg (gk - 1)
     case measure => omega
     case rel => exact ⟨j + 1, (p'.1 ++ [(⟨i, (j : Nat), 1, i, (j : Nat)⟩ : Mv)], if (p'.1.length : Int) = want then u.set (40 + x) (j : Int) else p'.2), u.set (40 + x) (j : Int), by go_num, by omega, HN.out⟩
    ·obtain rfl : j = 2 := by omega
     have HE : Hid (Gm.G w0 B b (some ⟨g, off, none⟩) n cn af m cf l want R.1 R.2 wr ∧ Gm.KeepI X wr) := by
      have h1 := HJ.out.1
      have h2 : p' = R := h1
      rw [← h2]
      exact ⟨HJ.out.2.1, HJ.out.2.2.1⟩
     clear HJ
     go_wp2
     go_end0
     exact ⟨rfl, HE.out⟩
end Go.Proofs
