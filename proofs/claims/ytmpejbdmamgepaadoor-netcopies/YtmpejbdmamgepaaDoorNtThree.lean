/-
  Rule 3: leadsToCatches, jointRight.
-/
import Derived.Test.YtmpejbdmamgepaaDoorNtTwo
namespace Go.Proofs
open Go.RowKit Go.Shelf

theorem Tk.cell_lt' {w : World} {g o : Nat} {v : Value} (h : w.cell? ⟨g, o, none⟩ = some v) : g < w.heap.size := by
  rcases Nat.lt_or_ge g w.heap.size with h1 | h1
  · exact h1
  · unfold World.cell? at h
    simp [h1] at h

def Nt.otherB (ns : List Nd) (i : Int) (f : Fl) : Bool := decide (f.fr = i) && !decide (Nt.kindAt ns f.to.toNat = 8)

set_option maxRecDepth 20000 in
set_option maxHeartbeats 4000000 in
theorem Tryd.leads_any (i : Int) (an : Option Addr) (cn : Nat) (af : Option Addr) (cf d : Nat) (ns : List Nd) (fs : List Fl) (w : World) (hH : Nt.Has w w.heap.size d an af ns fs) (hto : ∀ f, f ∈ fs → 0 ≤ f.to ∧ f.to < ns.length) :
    Calls Tryd.prog 64 #[.agg #[.slice an ns.length cn, .slice af fs.length cf], .int .i64 i] w fun e w' => e = .returned (.bool (!fs.any (Nt.otherB ns i))) ∧ Below w.heap.size w w' := by
  obtain ⟨w1, hw1⟩ : ∃ x, w.alloc (.cells #[.slice an ns.length cn, .slice af fs.length cf] 25) = x := ⟨_, rfl⟩
  have A1 : Below w.heap.size w w1 := by rw [← hw1]; exact (Below.refl _ w).alloc (Nat.le_refl _) _
  have C0 : w1.heap[w.heap.size]? = some (.cells #[.slice an ns.length cn, .slice af fs.length cf] 25 (0, 0)) := by rw [← hw1]; exact heap_alloc_new w _
  obtain ⟨n, hnn⟩ : ∃ n, ns.length = n := ⟨_, rfl⟩
  obtain ⟨m, hmm⟩ : ∃ n, fs.length = n := ⟨_, rfl⟩
  obtain ⟨r, hr⟩ : ∃ r, fs.any (Nt.otherB ns i) = r := ⟨_, rfl⟩
  have NK : Hid (∀ x : Nat, x < n → ∃ g o2, an = some ⟨g, o2, none⟩ ∧ ∀ W, Below w.heap.size w W → W.cell? ⟨g, o2 + x * 5, none⟩ = some (.int .i64 (Nt.kindAt ns x))) := fun x hx => by
    obtain ⟨g, o2, u', e1, e2, e3, _⟩ := hH.nds x (by omega)
    exact ⟨g, o2, e1, fun W hb => by rw [hb.cell (p := ⟨g, o2 + x * 5, none⟩) e2, Nt.kindAt_get ns x (by omega)]; exact e3⟩
  have HBX : Hid (∀ w2, Below w1.heap.size w1 w2 → w2.cell? ⟨w.heap.size, 0, none⟩ = some (.slice an n cn) ∧ w2.cell? ⟨w.heap.size, 1, none⟩ = some (.slice af m cf)) := fun w2 hb => by
    have := Nt.box2 ((hb.block _ (Nt.lt_of C0)).trans C0)
    rw [hnn, hmm] at this
    exact this
  have HF : Hid (Nt.Fls w w.heap.size d af fs ∧ fs.length = m ∧ m ≤ 100 ∧ n ≤ 100 ∧ (∀ f, f ∈ fs → 0 ≤ f.to ∧ f.to < n) ∧ fs.any (Nt.otherB ns i) = r) := ⟨hH.fls, hmm, by have := hH.flen; omega, by have := hH.nlen; omega, fun f hf => by have := hto f hf; omega, hr⟩
  rw [hnn, hmm] at hw1
  rw [hr, hnn, hmm]
  have H1 : Hid (w.alloc (.cells #[.slice an n cn, .slice af m cf] 25) = w1) := hw1
  have HA : Hid (Below w.heap.size w w1 ∧ w.heap.size < w1.heap.size) := ⟨A1, Nt.lt_of C0⟩
  have hm100 : m ≤ 100 := HF.out.2.2.1
  clear hH hto hnn hmm hr hw1 A1 C0
  go_enter Tryd.func64, Tryd.ntmps64
  go_wp2
  rw [H1.out]
  go_loopg [10] m (fun gk s10 wr => ∃ k : Nat, gk + k = m ∧ s10 = .int .i64 k ∧ Hid (Below w1.heap.size w1 wr ∧ (fs.take k).any (Nt.otherB ns i) = false))
  case atStart => exact ⟨0, by omega, rfl, Below.refl _ _, by simp⟩
  case round =>
    obtain ⟨k, hk, rfl, HI⟩ := hrel
    clear H1
    by_cases hlt : k < m
    · have hd : decide ((k : Int) < m) = true := decide_eq_true (by omega)
      have hkl : k < fs.length := by rw [HF.out.2.1]; exact hlt
      obtain ⟨q, off, u, hqa, hq, h0, h1, h2, h3, h4, h5, h6⟩ := HF.out.1 k hkl
      obtain ⟨au, cu, rfl⟩ := h6.shape
      obtain ⟨f, hf⟩ : ∃ f, fs[k] = f := ⟨_, rfl⟩
      have htn := HF.out.2.2.2.2.1 _ (List.getElem_mem hkl)
      rw [hf] at h0 h1 h2 h3 h4 h5 htn
      obtain ⟨nu, hnu⟩ : ∃ n, f.c.ks.length = n := ⟨_, rfl⟩
      obtain ⟨fr, hfr⟩ : ∃ x, f.fr = x := ⟨_, rfl⟩
      obtain ⟨x, hx⟩ : ∃ x : Nat, f.to = x := ⟨f.to.toNat, by omega⟩
      obtain ⟨els, hel⟩ : ∃ x, f.els = x := ⟨_, rfl⟩
      obtain ⟨op, hop⟩ : ∃ x, f.c.op = x := ⟨_, rfl⟩
      obtain ⟨num, hnum⟩ : ∃ x, f.c.num = x := ⟨_, rfl⟩
      rw [hx] at htn
      have hxn : x < n := by omega
      have hxn' : (x : Int) < n := by omega
      have hx0 : (0 : Int) ≤ x := by omega
      rw [hnu] at h5
      rw [hfr] at h0
      rw [hx] at h1
      rw [hel] at h2
      rw [hop] at h3
      rw [hnum] at h4
      have hbw : Below w.heap.size w wr := HA.out.1.trans (HI.out.1.mono HA.out.1.size)
      have hc : ∀ o, wr.cell? ⟨q, o, none⟩ = w.cell? ⟨q, o, none⟩ := fun o => hbw.cell (p := ⟨q, o, none⟩) hq
      have c0 := (hc _).trans h0
      have c1 := (hc _).trans h1
      have c2 := (hc _).trans h2
      have c3 := (hc _).trans h3
      have c4 := (hc _).trans h4
      have c5 := (hc _).trans h5
      obtain ⟨gn, on, hga, hnk⟩ := NK.out x hxn
      have hkc := hnk wr hbw
      obtain ⟨kx, hkx⟩ : ∃ z, Nt.kindAt ns x = z := ⟨_, rfl⟩
      rw [hkx] at hkc
      have hgl : gn < wr.heap.size := Tk.cell_lt' hkc
      obtain ⟨p0, p1⟩ := HBX.out wr HI.out.1
      have hbl : w.heap.size < wr.heap.size := by have := HA.out.2; have := HI.out.1.size; omega
      have HO : Hid (Nt.otherB ns i fs[k] = (decide (fr = i) && !decide (kx = 8))) := by show _ = _; rw [hf, Nt.otherB, hfr, hx, Int.toNat_natCast, hkx]
      have BN : Hid (Below w1.heap.size w1 (wr.alloc (.cells #[.int .i64 fr, .int .i64 (x : Int), .bool els, .int .i64 op, .int .i64 num, .slice au nu cu] 47))) := HI.out.1.alloc HI.out.1.size _
      have hu := Tryd.underlying47
      subst hqa
      subst hga
      clear h0 h1 h2 h3 h4 h5 h6 hc hf hnu hfr hx hel hop hnum hq htn hnk hkx hbw
      by_cases hfi : fr = i
      · have e1 : (fr == i) = true := by simpa using hfi
        have d1 : decide (fr = i) = true := decide_eq_true hfi
        rw [d1] at HO
        clear hfi d1
        by_cases h8 : kx = 8
        · subst h8
          have HN : Hid ((fs.take (k + 1)).any (Nt.otherB ns i) = false) := by
            show _ = _
            rw [Tm.take_snoc _ _ hkl, List.any_append, HI.out.2]
            simp [HO.out]
          go_wp2
          go_roundg (gk - 1)
          case measure => omega
          case rel => exact ⟨k + 1, by omega, by go_num, BN.out, HN.out⟩
        · have e8 : (kx == 8) = false := by simpa using h8
          have HN : Hid (r = true) := by
            show _ = _
            rw [← HF.out.2.2.2.2.2]
            exact List.any_eq_true.2 ⟨fs[k], List.getElem_mem hkl, by rw [HO.out, decide_eq_false h8]; rfl⟩
          clear h8
          go_wp2
          go_ret
          exact ⟨Tk.ret_bool (by rw [HN.out]; rfl), HA.out.1.trans (BN.out.mono HA.out.1.size)⟩
      · have e1 : (fr == i) = false := by simpa using hfi
        have HN : Hid ((fs.take (k + 1)).any (Nt.otherB ns i) = false) := by
          show _ = _
          rw [Tm.take_snoc _ _ hkl, List.any_append, HI.out.2]
          simp [HO.out, hfi]
        clear hfi
        go_wp2
        go_roundg (gk - 1)
        case measure => omega
        case rel => exact ⟨k + 1, by omega, by go_num, BN.out, HN.out⟩
    · have hd : decide ((k : Int) < m) = false := decide_eq_false (by omega)
      go_wp2
      go_ret
      have := HI.out.2
      rw [List.take_of_length_le (by rw [HF.out.2.1]; omega), HF.out.2.2.2.2.2] at this
      exact ⟨Tk.ret_bool (by rw [this]; rfl), HA.out.1.trans (HI.out.1.mono HA.out.1.size)⟩

end Go.Proofs
