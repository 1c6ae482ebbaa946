/-
  net.Copy, walked.
-/
import Derived.Test.YtmpejbdmamgepaaDoorNtCopyP
import Derived.Test.YtmpejbdmamgepaaDoorNtThreeC
import Derived.Deep.DeepCutAuto
import Derived.Deep.RegionHeld3
namespace Go.Proofs
open Go.RowKit Go.Shelf

/-- What stands once nodes and flows are cloned: the copy's box, its rows. -/
def Cp.Got (w w2 : World) (d n m : Nat) (ns : List Nd) (fs : List Fl) (bc : Nat) (wx : World) : Prop :=
  Below w2.heap.size w2 wx ∧ ∃ a1 c1 a2 c2 gn gf, w2.heap.size ≤ bc ∧ wx.heap[bc]? = some (.cells #[.slice a1 n c1, .slice a2 m c2] 25 (0, 0)) ∧ Pt.NRow w w.heap.size d ns a1 w2.heap.size gn wx ∧ Pt.FRow w w.heap.size d fs a2 w2.heap.size gf wx

theorem Cp.put2 {W : World} {b : Nat} {x y u v : Value} {t : TypeId} {z : Nat × Nat} (h : W.heap[b]? = some (.cells #[x, y] t z)) : ((W.setCell ⟨b, 0, none⟩ u).setCell ⟨b, 1, none⟩ v).heap[b]? = some (.cells #[u, v] t z) := by
  simp [World.setCell, Array.getElem?_modify, h]

/-- A copy of a process: where its terms lie, what its nodes and flows are. -/
structure Cp.Made (w : World) (d : Nat) (ns : List Nd) (fs : List Fl) (a1 a2 : Option Addr) (gn gf : Nat) (L : List Pl) (W : World) : Prop where
  inv : Pt.Inv w.heap.size d w L [] W
  nat : ∀ j (h : j < ns.length), a1 = some ⟨gn, 0, none⟩ ∧ (⟨gn, j * 5 + 2, ns[j].t⟩ : Pl) ∈ L ∧ W.cell? ⟨gn, j * 5, none⟩ = some (.int .i64 ns[j].kind) ∧ W.cell? ⟨gn, j * 5 + 1, none⟩ = some (.int .i64 ns[j].a) ∧ ∃ cs, W.heap[gn]? = some (.cells cs 37 (0, 0))
  fat : ∀ j (h : j < fs.length), a2 = some ⟨gf, 0, none⟩ ∧ (⟨gf, j * 6 + 3, fs[j].c⟩ : Pl) ∈ L ∧ W.cell? ⟨gf, j * 6, none⟩ = some (.int .i64 fs[j].fr) ∧ W.cell? ⟨gf, j * 6 + 1, none⟩ = some (.int .i64 fs[j].to) ∧ W.cell? ⟨gf, j * 6 + 2, none⟩ = some (.bool fs[j].els) ∧ ∃ cs, W.heap[gf]? = some (.cells cs 47 (0, 0))
theorem Cp.rows_ne {w W : World} {B d A gn gf : Nat} {ns : List Nd} {fs : List Fl} {an af : Option Addr} (hn : Pt.NRow w B d ns an A gn W) (hf : Pt.FRow w B d fs af A gf W) : ∀ j (_ : j < ns.length) k (_ : k < fs.length), gn ≠ gf := fun j hj k hk e => by
  obtain ⟨_, _, c1, h1, _⟩ := hn j hj
  obtain ⟨_, _, c2, h2, _⟩ := hf k hk
  rw [e, h2] at h1
  injection h1 with h1
  injection h1 with _ h1
  exact absurd h1 (by decide)
theorem Cp.mem {gn gf : Nat} {ns : List Nd} {fs : List Fl} {x : Pl} (hx : x ∈ Pt.rowP gn 5 2 (ns.map Nd.t) ++ Pt.rowP gf 6 3 (fs.map Fl.c)) : (∃ j, ∃ h : j < ns.length, x = ⟨gn, j * 5 + 2, ns[j].t⟩) ∨ ∃ j, ∃ h : j < fs.length, x = ⟨gf, j * 6 + 3, fs[j].c⟩ := by
  rcases List.mem_append.1 hx with hx | hx
  · obtain ⟨j, hj, rfl⟩ := Pt.mem_rowP.1 hx
    rw [List.length_map] at hj
    exact .inl ⟨j, hj, by simp⟩
  · obtain ⟨j, hj, rfl⟩ := Pt.mem_rowP.1 hx
    rw [List.length_map] at hj
    exact .inr ⟨j, hj, by simp⟩
/-- What is kept while the terms are copied makes the copy. -/
theorem Cp.made {w w2 wc W : World} {d gn gf : Nat} {ns : List Nd} {fs : List Fl} {a1 a2 : Option Addr} {L : List Pl} (hN : Pt.NRow w w.heap.size d ns a1 w2.heap.size gn wc) (hF : Pt.FRow w w.heap.size d fs a2 w2.heap.size gf wc)
    (hL : ∀ x ∈ Pt.rowP gn 5 2 (ns.map Nd.t) ++ Pt.rowP gf 6 3 (fs.map Fl.c), x ∈ L) (hI : Pt.Inv w.heap.size d w L [] W) (hK : Pt.Kept wc (Pt.rowP gn 5 2 (ns.map Nd.t) ++ Pt.rowP gf 6 3 (fs.map Fl.c)) L W) : Cp.Made w d ns fs a1 a2 gn gf L W := by
  have hne := Cp.rows_ne hN hF
  refine ⟨hI, fun j hj => ?_, fun j hj => ?_⟩
  · obtain ⟨h1, h2, cur, h3, k0, k1, -⟩ := hN j hj
    obtain ⟨cs, hc, hcs⟩ := hK.at_ gn cur _ h3 (by decide)
    have key : ∀ o, (∀ k, o ≠ k * 5 + 4) → cs[o]? = cur[o]? := fun o ho => hcs o fun x hx he => by
      rcases Cp.mem hx with ⟨k, hk, rfl⟩ | ⟨k, hk, rfl⟩
      · exact ho k he.2.symm
      · exact hne j hj k hk he.1.symm
    refine ⟨h1, hL _ (List.mem_append_left _ (Pt.mem_rowP.2 ⟨j, by rw [List.length_map]; exact hj, by simp⟩)), ?_, ?_, cs, hc⟩
    · simp only [World.cell?, hc]; rw [key _ (fun k => by omega)]; exact k0
    · simp only [World.cell?, hc]; rw [key _ (fun k => by omega)]; exact k1
  · obtain ⟨h1, h2, cur, h3, k0, k1, k2, -⟩ := hF j hj
    obtain ⟨cs, hc, hcs⟩ := hK.at_ gf cur _ h3 (by decide)
    have key : ∀ o, (∀ k, o ≠ k * 6 + 5) → cs[o]? = cur[o]? := fun o ho => hcs o fun x hx he => by
      rcases Cp.mem hx with ⟨k, hk, rfl⟩ | ⟨k, hk, rfl⟩
      · exact hne k hk j hj he.1
      · exact ho k he.2.symm
    refine ⟨h1, hL _ (List.mem_append_right _ (Pt.mem_rowP.2 ⟨j, by rw [List.length_map]; exact hj, by simp⟩)), ?_, ?_, ?_, cs, hc⟩
    · simp only [World.cell?, hc]; rw [key _ (fun k => by omega)]; exact k0
    · simp only [World.cell?, hc]; rw [key _ (fun k => by omega)]; exact k1
    · simp only [World.cell?, hc]; rw [key _ (fun k => by omega)]; exact k2
theorem Cp.Made.row {w W : World} {d gn gf : Nat} {ns : List Nd} {fs : List Fl} {a1 a2 : Option Addr} {L : List Pl} (h : Cp.Made w d ns fs a1 a2 gn gf L W) {g : Nat} (hg : w.heap.size ≤ g) (cs : Array Value) (hx : ∀ x ∈ L, x.b ≠ g) : Cp.Made w d ns fs a1 a2 gn gf L (W.setRow g cs) := by
  have blk : ∀ k, k ≠ g → (W.setRow g cs).heap[k]? = W.heap[k]? := fun k hk => setRow_other _ _ _ _ hk
  refine ⟨h.inv.keep (Tk.below_row (Below.refl _ _) hg cs) fun x hx' => blk _ (hx x hx'), fun j hj => ?_, fun j hj => ?_⟩
  · obtain ⟨h1, h2, h3, h4, c, h5⟩ := h.nat j hj
    have hb := blk gn (hx _ h2)
    exact ⟨h1, h2, by rw [World.cell?_of_block (w := W) hb]; exact h3, by rw [World.cell?_of_block (w := W) hb]; exact h4, c, by rw [hb]; exact h5⟩
  · obtain ⟨h1, h2, h3, h4, h4', c, h5⟩ := h.fat j hj
    have hb := blk gf (hx _ h2)
    exact ⟨h1, h2, by rw [World.cell?_of_block (w := W) hb]; exact h3, by rw [World.cell?_of_block (w := W) hb]; exact h4, by rw [World.cell?_of_block (w := W) hb]; exact h4', c, by rw [hb]; exact h5⟩

set_option maxRecDepth 20000 in
set_option maxHeartbeats 16000000 in
theorem Tryd.ncopy_any (an : Option Addr) (cn : Nat) (af : Option Addr) (cf d : Nat) (ns : List Nd) (fs : List Fl) (w : World) (hN : Nt.Nds w w.heap.size d an ns) (hF : Nt.Fls w w.heap.size d af fs) (hn : ns.length ≤ 60) (hm : fs.length ≤ 100) (hnz : ∀ x, x ∈ ns → x.t.size ≤ 3000) (hfz : ∀ x, x ∈ fs → x.c.size ≤ 3000) :
    Calls Tryd.prog 22 #[.agg #[.slice an ns.length cn, .slice af fs.length cf]] w fun e w' => ∃ a1 c1 a2 c2 gn gf L, e = .returned (.agg #[.slice a1 ns.length c1, .slice a2 fs.length c2]) ∧ Hid (Cp.Made w d ns fs a1 a2 gn gf L w') := by
  obtain ⟨w2, hw2⟩ : ∃ x, (w.alloc (.cells #[.slice an ns.length cn, .slice af fs.length cf] 25)).alloc (.cells #[.slice none 0 0, .slice none 0 0] 25) = x := ⟨_, rfl⟩
  have A2 : Below w.heap.size w w2 := by rw [← hw2]; exact ((Below.refl _ w).alloc (Nat.le_refl _) _).alloc (by simp) _
  have S2 : w2.heap.size = w.heap.size + 2 := by rw [← hw2]; simp
  have G0 : w2.heap[w.heap.size]? = some (.cells #[.slice an ns.length cn, .slice af fs.length cf] 25 (0, 0)) := by
    rw [← hw2, Below.heap_alloc _ _ _ (by simp)]; exact heap_alloc_new w _
  have G1 : w2.heap[w.heap.size + 1]? = some (.cells #[.slice none 0 0, .slice none 0 0] 25 (0, 0)) := by
    rw [← hw2]
    have := heap_alloc_new (w.alloc (.cells #[.slice an ns.length cn, .slice af fs.length cf] 25)) (.cells #[.slice none 0 0, .slice none 0 0] 25)
    simpa using this
  obtain ⟨n, hnn⟩ : ∃ n, ns.length = n := ⟨_, rfl⟩
  obtain ⟨m, hmm⟩ : ∃ n, fs.length = n := ⟨_, rfl⟩
  have CF : Hid (∀ W, Below w2.heap.size w2 W → W.cell? ⟨w.heap.size, 0, none⟩ = some (.slice an n cn) ∧ W.cell? ⟨w.heap.size, 1, none⟩ = some (.slice af m cf)) := fun W hb => by
    have e1 := (hb.block w.heap.size (by omega)).trans G0
    rw [hnn, hmm] at e1
    exact ⟨by simp [World.cell?, e1], by simp [World.cell?, e1]⟩
  have CN : Hid (∀ W, Below w2.heap.size w2 W → Calls Tryd.prog 37 #[.slice an n cn] W fun e w' => ∃ a c g, e = .returned (.slice a n c) ∧ Hid (Below w2.heap.size w2 w') ∧ Nt.Old W w' ∧ Hid (Below W.heap.size W w') ∧ Hid (Pt.NRow w w.heap.size d ns a W.heap.size g w')) := fun W hb => by
    have hbw : Below w.heap.size w W := A2.trans (hb.mono A2.size)
    have h := Tryd.cloneNodes (cn := cn) hN (by omega) W hbw
    rw [hnn] at h
    refine h.mono fun e w' ⟨a, c, g, he, h1, h2⟩ => ?_
    exact ⟨a, c, g, he, hb.trans (h1.out.mono hb.size), Nt.Old.of h1.out, h1, h2.out⟩
  have CG : Hid (∀ W, Below w2.heap.size w2 W → Calls Tryd.prog 38 #[.slice af m cf] W fun e w' => ∃ a c g, e = .returned (.slice a m c) ∧ Hid (Below w2.heap.size w2 w') ∧ Nt.Old W w' ∧ Hid (Below W.heap.size W w') ∧ Hid (Pt.FRow w w.heap.size d fs a W.heap.size g w')) := fun W hb => by
    have hbw : Below w.heap.size w W := A2.trans (hb.mono A2.size)
    have h := Tryd.cloneFlows (cf := cf) hF (by omega) W hbw
    rw [hmm] at h
    refine h.mono fun e w' ⟨a, c, g, he, h1, h2⟩ => ?_
    exact ⟨a, c, g, he, hb.trans (h1.out.mono hb.size), Nt.Old.of h1.out, h1, h2.out⟩
  have HH : Hid (Below w.heap.size w w2 ∧ w2.heap.size = w.heap.size + 2 ∧ w2.heap[w.heap.size + 1]? = some (.cells #[.slice none 0 0, .slice none 0 0] 25 (0, 0)) ∧ ns.length = n ∧ fs.length = m ∧ n ≤ 60 ∧ m ≤ 100 ∧ (∀ x, x ∈ ns → x.t.size ≤ 3000) ∧ ∀ x, x ∈ fs → x.c.size ≤ 3000) := ⟨A2, S2, G1, hnn, hmm, by omega, by omega, hnz, hfz⟩
  rw [hnn, hmm] at hw2 ⊢
  have H2 : Hid ((w.alloc (.cells #[.slice an n cn, .slice af m cf] 25)).alloc (.cells #[.slice none 0 0, .slice none 0 0] 25) = w2) := hw2
  have BR : Hid (Below w2.heap.size w2 w2) := Below.refl _ _
  clear hN hF hn hm hnz hfz hw2 A2 S2 G0 G1 hnn hmm
  go_enter Tryd.func22, Tryd.ntmps22
  go_upto_region 1 with fail
  rw [H2.out]
  go_cut [3] (fun s3 wx => ∃ bc : Nat, s3 = .pointer (some ⟨bc, 0, none⟩) ∧ Hid (Cp.Got w w2 d n m ns fs bc wx))
  case first =>
    have hws : w.heap.size < w2.heap.size := by have := HH.out.2.1; omega
    clear HH H2
    go_region_held3 (fun W => W.cell? ⟨w.heap.size, 0, none⟩ = some (.slice an n cn) ∧ W.cell? ⟨w.heap.size, 1, none⟩ = some (.slice af m cf))
      (first | (refine CF.out _ ?_; (repeat (first | exact B4.out | exact B3.out | exact BR.out | apply Nt.al | apply Nt.dr | (refine Nt.st ?_ _ _ _ (by first | omega | (simp; omega) | (have := B3.out.size; omega)))))))
      (first
      | (go_simp; go_at_call 37; refine Calls.mono (CN.out _ ?_) ?_; (repeat (first | exact B4.out | exact B3.out | exact BR.out | apply Nt.al | apply Nt.dr | (refine Nt.sr ?_ _ _ (by first | omega | (simp; omega) | (simp))))); rintro e W3 ⟨a3, c3, g3, rfl, B3, ⟨z3, y3, s3⟩, BB3, I3⟩; have x3 := (CF.out W3 B3.out).1; have x4 := (CF.out W3 B3.out).2; have gq3 : w.heap.size < W3.heap.size := Nat.lt_of_lt_of_le hws B3.out.size; (try simp at s3); (first | (have q3a : w2.heap.size < W3.heap.size := by omega) | skip); clear s3)
      | (go_simp; go_at_call 38; refine Calls.mono (CG.out _ ?_) ?_; (repeat (first | exact B4.out | exact B3.out | exact BR.out | apply Nt.al | apply Nt.dr | (refine Nt.sr ?_ _ _ (by first | omega | (simp; omega) | (simp))))); rintro e W4 ⟨a4, c4, g4, rfl, B4, ⟨z4, y4, s4⟩, BB4, I4⟩; have x5 := (CF.out W4 B4.out).1; have x6 := (CF.out W4 B4.out).2; have gq4 : w.heap.size < W4.heap.size := Nat.lt_of_lt_of_le hws B4.out.size; (try simp at s4); (first | (have q4a : w2.heap.size < W4.heap.size := by omega) | skip); (first | (have q4c : W3.heap.size < W4.heap.size := by omega) | skip); clear s4))
    · go_wp2_with fail
      go_meet
      have b34 := BB4.out
      refine ⟨_, rfl, B4.out.alloc B4.out.size _, a3, c3, a4, c4, g3, g4, B4.out.size, heap_alloc_new _ _, (I3.out.lower (by first | simp | skip)).keep fun k hk hA => ?_, (I4.out.lower B3.out.size).keep fun k hk _ => Below.heap_alloc _ _ _ hk⟩
      rw [Below.heap_alloc _ _ _ (Nat.lt_of_lt_of_le hk b34.size), b34.block k hk]
    · go_wp2_with fail
      go_meet
      have b34 := BB4.out
      have hs4 := b34.size
      simp at hs4
      have hz : W4.heap[W3.heap.size]? = some (.cells #[.slice none 0 0, .slice none 0 0] 25 (0, 0)) := (b34.block _ (by simp)).trans (heap_alloc_new W3 _)
      have blk : ∀ k, k ≠ W3.heap.size → ((W4.setCell ⟨W3.heap.size, 0, none⟩ (.slice a3 n c3)).setCell ⟨W3.heap.size, 1, none⟩ (.slice a4 m c4)).heap[k]? = W4.heap[k]? := fun k hk => by rw [Below.heap_setCell _ _ _ _ hk, Below.heap_setCell _ _ _ _ hk]
      refine ⟨_, rfl, (B4.out.setCell (p := ⟨W3.heap.size, 0, none⟩) B3.out.size _).setCell (p := ⟨W3.heap.size, 1, none⟩) B3.out.size _, a3, c3, a4, c4, g3, g4, B3.out.size, Cp.put2 hz, (I3.out.lower (by first | simp | skip)).keep fun k hk _ => ?_, (I4.out.lower (A' := W3.heap.size + 1) (by simp)).keep (fun k hk hA => blk k (by omega)) |>.lower (by have := B3.out.size; omega)⟩
      rw [blk k (by omega), b34.block k (by simp; omega)]
      exact Below.heap_alloc _ _ _ hk
    · go_wp2_with fail
      go_meet
      have b34 := BB4.out
      have b23 := BB3.out
      have hs4 := b34.size
      have hs3 := b23.size
      simp at hs3
      have hz : W4.heap[w2.heap.size]? = some (.cells #[.slice none 0 0, .slice none 0 0] 25 (0, 0)) := by
        rw [b34.block _ (by omega), b23.block _ (by simp)]
        exact heap_alloc_new _ _
      have blk : ∀ k, k ≠ w2.heap.size → ((W4.setCell ⟨w2.heap.size, 0, none⟩ (.slice a3 n c3)).setCell ⟨w2.heap.size, 1, none⟩ (.slice a4 m c4)).heap[k]? = W4.heap[k]? := fun k hk => by rw [Below.heap_setCell _ _ _ _ hk, Below.heap_setCell _ _ _ _ hk]
      refine ⟨_, rfl, (B4.out.setCell (p := ⟨w2.heap.size, 0, none⟩) (Nat.le_refl _) _).setCell (p := ⟨w2.heap.size, 1, none⟩) (Nat.le_refl _) _, a3, c3, a4, c4, g3, g4, Nat.le_refl _, Cp.put2 hz, ((I3.out.lower (A' := w2.heap.size + 1) (by simp)).keep fun k hk hA => ?_) |>.lower (by omega), (I4.out.lower (A' := w2.heap.size + 1) (by omega)).keep (fun k hk hA => blk k (by omega)) |>.lower (by omega)⟩
      rw [blk k (by omega), b34.block k hk]
  case rest =>
  rename World => wc
  obtain ⟨bc, rfl, HG⟩ := hcut
  obtain ⟨hbc, a1, c1, a2, c2, gn, gf, hbcl, hbox, hNR, hFR⟩ := HG.out
  obtain ⟨i0, hi, hz0, hz1, hz2⟩ := info_parts Tryd.infoPtr
  obtain ⟨Q, hQ⟩ : ∃ Q, Pt.rowP gn 5 2 (ns.map Nd.t) ++ Pt.rowP gf 6 3 (fs.map Fl.c) = Q := ⟨_, rfl⟩
  have hB0 : Below w.heap.size w wc := HH.out.1.trans (hbc.mono HH.out.1.size)
  have hbeg := Pt.begin hB0 HH.out.1.size hNR hFR
  rw [hQ] at hbeg
  have HQ : Hid (Pt.rowP gn 5 2 (ns.map Nd.t) ++ Pt.rowP gf 6 3 (fs.map Fl.c) = Q ∧ Pt.NRow w w.heap.size d ns a1 w2.heap.size gn wc ∧ Pt.FRow w w.heap.size d fs a2 w2.heap.size gf wc ∧ Below w2.heap.size w2 wc ∧ w2.heap.size ≤ bc) := ⟨hQ, hNR, hFR, hbc, hbcl⟩
  have HQG : Hid (Q.length = n + m ∧ (∀ j, j < n → a1 = some ⟨gn, 0, none⟩ ∧ Pt.ptrs (Q.take (j + 1)) = Pt.ptrs (Q.take j) ++ [.pointer (some ⟨gn, j * 5 + 2, none⟩)]) ∧ (∀ j, j < m → a2 = some ⟨gf, 0, none⟩ ∧ Pt.ptrs (Q.take (n + j + 1)) = Pt.ptrs (Q.take (n + j)) ++ [.pointer (some ⟨gf, j * 6 + 3, none⟩)]) ∧ Pt.wt Q ≤ 1000000) := by
    obtain ⟨-, -, -, hnn, hmm, hn6, hm1, hnz, hfz⟩ := HH.out
    have hl1 : (Pt.rowP gn 5 2 (ns.map Nd.t)).length = n := by rw [Pt.rowP_len, List.length_map]; exact hnn
    have hl2 : (Pt.rowP gf 6 3 (fs.map Fl.c)).length = m := by rw [Pt.rowP_len, List.length_map]; exact hmm
    refine ⟨by rw [← hQ, List.length_append]; omega, fun j hj => ⟨(hNR j (by omega)).1, ?_⟩, fun j hj => ⟨(hFR j (by omega)).1, ?_⟩, ?_⟩
    · refine Pt.ptrs_take Q j ⟨gn, j * 5 + 2, ns[j].t⟩ ?_
      rw [← hQ, List.getElem?_append_left (by omega), Pt.rowP_get j (by rw [List.length_map]; omega)]
      simp
    · refine Pt.ptrs_take Q (n + j) ⟨gf, j * 6 + 3, fs[j].c⟩ ?_
      rw [← hQ, List.getElem?_append_right (by omega), hl1, show n + j - n = j by omega, Pt.rowP_get j (by rw [List.length_map]; omega)]
      simp
    · have hw := Pt.wt_le Q 3000 fun x hx => by
        rw [← hQ] at hx
        rcases Cp.mem hx with ⟨j, hj, rfl⟩ | ⟨j, hj, rfl⟩
        · exact hnz _ (List.getElem_mem hj)
        · exact hfz _ (List.getElem_mem hj)
      have hl : Q.length = n + m := by rw [← hQ, List.length_append]; omega
      rw [hl] at hw
      omega
  have HBX : Hid (∀ W L, Pt.Kept wc Q L W → W.heap[bc]? = some (.cells #[.slice a1 n c1, .slice a2 m c2] 25 (0, 0)) ∧ W.cell? ⟨bc, 0, none⟩ = some (.slice a1 n c1) ∧ W.cell? ⟨bc, 1, none⟩ = some (.slice a2 m c2)) := fun W L hK => by
    obtain ⟨cs, hc, hcs⟩ := hK.at_ bc _ _ hbox (by decide)
    have e : cs = #[.slice a1 n c1, .slice a2 m c2] := Array.ext_getElem? fun o => hcs o fun x hx he => by
      rw [← hQ] at hx
      rcases Cp.mem hx with ⟨j, hj, rfl⟩ | ⟨j, hj, rfl⟩
      · obtain ⟨_, _, cur, h3, _⟩ := hNR j hj
        have he1 : gn = bc := he.1
        rw [he1, hbox] at h3
        injection h3 with h3
        injection h3 with _ h3
        exact absurd h3 (by decide)
      · obtain ⟨_, _, cur, h3, _⟩ := hFR j hj
        have he1 : gf = bc := he.1
        rw [he1, hbox] at h3
        injection h3 with h3
        injection h3 with _ h3
        exact absurd h3 (by decide)
    subst e
    exact ⟨hc, by simp [World.cell?, hc], by simp [World.cell?, hc]⟩
  have HJ0 : Hid (Pt.Inv w.heap.size d w Q (Pt.pls Q) wc ∧ wc.ownsRow w.heap.size 66 1 (.slice none 0 0) 0 (Pt.ptrs (Q.take 0)) ∧ w.heap.size ≤ wc.heap.size ∧ Pt.Kept wc Q Q wc) := ⟨hbeg, ⟨by simp [Pt.ptrs], .inl ⟨rfl, rfl⟩⟩, hB0.size, Pt.Kept.refl _ _⟩
  have hn6 : n ≤ 60 := HH.out.2.2.2.2.2.1
  have hm1 : m ≤ 100 := HH.out.2.2.2.2.2.2.1
  obtain ⟨-, p0, p1⟩ := HBX.out wc Q (Pt.Kept.refl _ _)
  clear hbc hbox hNR hFR hbeg hQ hB0 CF CN CG BR H2 HG hbcl
  go_wp2
  go_loopg [4, 5, 17] n (fun gk s4 _ s17 wr => ∃ (a : Option Addr) (c j : Nat), s4 = .slice a j c ∧ s17 = .int .i64 j ∧ gk + j = n ∧ Hid (Pt.Inv w.heap.size d w Q (Pt.pls Q) wr ∧ wr.ownsRow w.heap.size 66 1 (.slice a j c) j (Pt.ptrs (Q.take j)) ∧ w.heap.size ≤ wr.heap.size ∧ Pt.Kept wc Q Q wr))
  case atStart => exact ⟨none, 0, 0, rfl, rfl, by omega, HJ0.out⟩
  case round =>
    obtain ⟨a, c, j, rfl, rfl, hj, HJ⟩ := hrel
    clear p0 p1 HJ0
    by_cases hlt : j < n
    · have hd : decide ((j : Int) < n) = true := decide_eq_true (by omega)
      obtain ⟨-, p0, p1⟩ := HBX.out wr Q HJ.out.2.2.2
      have hown := HJ.out.2.1
      obtain ⟨ha1, hpt⟩ := HQG.out.2.1 j hlt
      have HPT : Hid (Pt.ptrs (Q.take (j + 1)) = Pt.ptrs (Q.take j) ++ [.pointer (some ⟨gn, j * 5 + 2, none⟩)]) := hpt
      have HA1 : Hid (a1 = some ⟨gn, 0, none⟩) := ha1
      rw [ha1] at p0
      have HBs : Hid (w.heap.size ≤ wr.heap.size) := HJ.out.2.2.1
      clear ha1 hpt
      go_wp2_with (at_builtin; refine wpList_append_own _ rfl _ _ 65 rfl w.heap.size 66 i0 (.pointer none) 1 8 Tryd.underlying65 hi hz0 hz1 hz2 rfl (by decide) _ _ _ rfl (hown.alloc _) ⟨wr.heap.size, 0, none⟩ 1 1 [.pointer (some ⟨gn, j * 5 + 2, none⟩)] rfl rfl (Pt.one_cell wr _ 66) (Pt.one_one _) ?c3 ?c4 ?c5 ?_)
      case c3 => unfold maxLen; omega
      case c4 => omega
      case c5 => have := HBs.out; simp; omega
      intro v' W5 own2 g2 _
      obtain ⟨a3, c3, rfl⟩ := Rk.own_shape own2
      have HN : Hid (Pt.Inv w.heap.size d w Q (Pt.pls Q) W5 ∧ W5.ownsRow w.heap.size 66 1 (.slice a3 (j + 1) c3) (j + 1) (Pt.ptrs (Q.take (j + 1))) ∧ w.heap.size ≤ W5.heap.size ∧ Pt.Kept wc Q Q W5) := by
        obtain ⟨q1, q2, q3⟩ := Pt.push HJ.out.1 hown HBs.out g2
        exact ⟨q1, by rw [HPT.out]; exact own2, q3, HJ.out.2.2.2.push hown g2⟩
      clear hown own2 g2 HJ p0 p1
      go_wp2
      go_roundg (gk - 1)
      case measure => omega
      case rel => exact ⟨a3, c3, j + 1, by first | rfl | go_num, by go_num, by omega, HN.out⟩
    · obtain rfl : j = n := by omega
      have hd : decide ((j : Int) < j) = false := decide_eq_false (by omega)
      obtain ⟨-, p0, p1⟩ := HBX.out wr Q HJ.out.2.2.2
      have HJ1 : Hid (Pt.Inv w.heap.size d w Q (Pt.pls Q) wr ∧ wr.ownsRow w.heap.size 66 1 (.slice a j c) j (Pt.ptrs (Q.take (j + 0))) ∧ w.heap.size ≤ wr.heap.size ∧ Pt.Kept wc Q Q wr) := HJ.out
      clear HJ
      go_wp2
      go_loopg [4, 6, 32] m (fun gk s4 _ s32 wi => ∃ (a : Option Addr) (c k jk : Nat), s4 = .slice a jk c ∧ s32 = .int .i64 k ∧ gk + k = m ∧ jk = j + k ∧ Hid (Pt.Inv w.heap.size d w Q (Pt.pls Q) wi ∧ wi.ownsRow w.heap.size 66 1 (.slice a jk c) jk (Pt.ptrs (Q.take (j + k))) ∧ w.heap.size ≤ wi.heap.size ∧ Pt.Kept wc Q Q wi))
      case atStart => exact ⟨a, c, 0, j, rfl, rfl, by omega, by omega, HJ1.out⟩
      case round =>
        obtain ⟨ai, ci, k, jk, rfl, rfl, hk, hjk, HJ⟩ := hrel
        clear p0 p1 HJ1
        by_cases hltk : k < m
        · have hd2 : decide ((k : Int) < m) = true := decide_eq_true (by omega)
          rename World => wi
          obtain ⟨-, p0, p1⟩ := HBX.out wi Q HJ.out.2.2.2
          have hown := HJ.out.2.1
          obtain ⟨ha2, hpt⟩ := HQG.out.2.2.1 k hltk
          have HPT : Hid (Pt.ptrs (Q.take (j + k + 1)) = Pt.ptrs (Q.take (j + k)) ++ [.pointer (some ⟨gf, k * 6 + 3, none⟩)]) := hpt
          rw [ha2] at p1
          have HBs : Hid (w.heap.size ≤ wi.heap.size) := HJ.out.2.2.1
          have HJK : Hid (jk = j + k) := hjk
          have hjk2 : jk ≤ 160 := by omega
          clear ha2 hpt hjk
          go_wp2_with (at_builtin; refine wpList_append_own _ rfl _ _ 65 rfl w.heap.size 66 i0 (.pointer none) 1 8 Tryd.underlying65 hi hz0 hz1 hz2 rfl (by decide) _ _ _ rfl (hown.alloc _) ⟨wi.heap.size, 0, none⟩ 1 1 [.pointer (some ⟨gf, k * 6 + 3, none⟩)] rfl rfl (Pt.one_cell wi _ 66) (Pt.one_one _) ?c3 ?c4 ?c5 ?_)
          case c3 => unfold maxLen; omega
          case c4 => omega
          case c5 => have := HBs.out; simp; omega
          intro v' W5 own2 g2 _
          obtain ⟨a3, c3, rfl⟩ := Rk.own_shape own2
          have HN : Hid (Pt.Inv w.heap.size d w Q (Pt.pls Q) W5 ∧ W5.ownsRow w.heap.size 66 1 (.slice a3 (jk + 1) c3) (jk + 1) (Pt.ptrs (Q.take (j + (k + 1)))) ∧ w.heap.size ≤ W5.heap.size ∧ Pt.Kept wc Q Q W5) := by
            obtain ⟨q1, q2, q3⟩ := Pt.push HJ.out.1 hown HBs.out g2
            exact ⟨q1, by rw [← Nat.add_assoc, HPT.out]; exact own2, q3, HJ.out.2.2.2.push hown g2⟩
          clear hown own2 g2 HJ p0 p1
          go_wp2
          go_roundg (gk - 1)
          case measure => omega
          case rel => exact ⟨a3, c3, k + 1, jk + 1, by first | rfl | go_num, by go_num, by omega, by have := HJK.out; omega, HN.out⟩
        · obtain rfl : k = m := by omega
          have hd2 : decide ((k : Int) < k) = false := decide_eq_false (by omega)
          rename World => wi
          have hpc : Hid _ := Tryd.npart_any w.heap.size d w wi Q Q (.slice ai jk ci) HJ.out.1 (fun _ h => h) (by
            have h1 := HJ.out.2.1
            rw [List.take_of_length_le (by rw [HQG.out.1]; omega)] at h1
            rw [HQG.out.1, ← hjk]
            exact h1) HQG.out.2.2.2 HJ.out.2.2.1 wc Q HJ.out.2.2.2
          clear hjk
          go_wp2_with fail
          refine Calls.mono hpc.out ?_
          rintro e W6 ⟨rfl, H6⟩
          obtain ⟨L', hLL, hIn, hKe⟩ := H6.out
          obtain ⟨-, p0, p1⟩ := HBX.out W6 L' hKe
          have N2 : W6.heap[w.heap.size + 1]? = some (.cells #[.slice none 0 0, .slice none 0 0] 25 (0, 0)) := by
            obtain ⟨cs, hc, hcs⟩ := hKe.at_ (w.heap.size + 1) _ _ ((HQ.out.2.2.2.1.block _ (by have := HH.out.2.1; omega)).trans HH.out.2.2.1) (by decide)
            have e : cs = #[.slice none 0 0, .slice none 0 0] := Array.ext_getElem? fun o => hcs o fun x hx he => by
              rw [← HQ.out.1] at hx
              have hs := HH.out.2.1
              rcases Cp.mem hx with ⟨j', hj', rfl⟩ | ⟨j', hj', rfl⟩
              · have h2 := (HQ.out.2.1 j' hj').2.1
                have he1 : gn = w.heap.size + 1 := he.1
                omega
              · have h2 := (HQ.out.2.2.1 j' hj').2.1
                have he1 : gf = w.heap.size + 1 := he.1
                omega
            subst e
            exact hc
          have HM : Hid (∃ L, Cp.Made w d ns fs a1 a2 gn gf L (W6.setRow (w.heap.size + 1) #[.slice a1 j c1, .slice a2 k c2])) := by
            have hs := HH.out.2.1
            have h1 := hLL
            rw [← HQ.out.1] at h1
            have h2 := hKe
            rw [← HQ.out.1] at h2
            refine ⟨L', (Cp.made HQ.out.2.1 HQ.out.2.2.1 h1 hIn h2).row (by omega) _ fun x hx e => ?_⟩
            rcases hKe.new x hx with hm | hm
            · rw [← HQ.out.1] at hm
              rcases Cp.mem hm with ⟨j', hj', rfl⟩ | ⟨j', hj', rfl⟩
              · have h3 := (HQ.out.2.1 j' hj').2.1
                simp only at e; omega
              · have h3 := (HQ.out.2.2.1 j' hj').2.1
                simp only at e; omega
            · have h3 := HQ.out.2.2.2.1.size
              omega
          have hu := Tryd.underlying25
          clear hLL hIn hKe H6 hpc HJ
          go_wp2_with (refine wpList_store_row rfl 25 _ _ rfl (w.heap.size + 1) #[.slice a1 j c1, .slice a2 k c2] rfl rfl 25 _ N2 (by kernel_rfl) rfl (by kernel_rfl) ?_)
          obtain ⟨L, hM⟩ := HM.out
          refine bodyPost_ret (v := .agg #[.slice a1 j c1, .slice a2 k c2]) (results_cell_row Tryd.results22 _ _ (w.heap.size + 1) 25 #[.slice a1 j c1, .slice a2 k c2] (0, 0) _ rfl (setRow_heap _ _ _ _ _ _ N2) hu rfl (by kernel_rfl)) rfl ⟨a1, c1, a2, c2, gn, gf, L, rfl, hM⟩

end Go.Proofs
