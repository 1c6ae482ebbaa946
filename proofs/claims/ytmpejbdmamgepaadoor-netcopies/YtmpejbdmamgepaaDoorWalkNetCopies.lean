/-
  The walk of NetCopies: a copy is the same, and shares nothing.
-/
import Derived.Test.YtmpejbdmamgepaaDoorNtCopyL
import Derived.Test.YtmpejbdmamgepaaDoorNtPlain
import Derived.Test.YtmpejbdmamgepaaDoorNtLine
import Derived.Test.YtmpejbdmamgepaaDoorNtLarge
namespace Go.Proofs
open Go.RowKit Go.Shelf

/-- What holds while the first copy is written into. -/
structure Cp.Ctx (w R : World) (B0 bx bd : Nat) (n m : Nat) (a1 a2 : Option Addr) (c1 c2 gn gf : Nat) (L : List Pl) : Prop where
  nat : ∀ j, j < n → a1 = some ⟨gn, 0, none⟩ ∧ ∃ T, (⟨gn, j * 5 + 2, T⟩ : Pl) ∈ L ∧ T.size ≤ 3000 ∧ (∃ v, R.cell? ⟨gn, j * 5, none⟩ = some v)
  fat : ∀ j, j < m → a2 = some ⟨gf, 0, none⟩ ∧ ∃ T, (⟨gf, j * 6 + 3, T⟩ : Pl) ∈ L ∧ T.size ≤ 3000 ∧ (∃ v, R.cell? ⟨gf, j * 6 + 1, none⟩ = some v)
  old : ∀ x ∈ L, B0 ≤ x.b ∧ x.b < bx
  inv : ∃ B d w', Pt.Inv B d w' L [] R
  box : ∀ W, Cp.Live R L W → W.cell? ⟨bx, 0, none⟩ = some (.slice a1 n c1) ∧ W.cell? ⟨bx, 1, none⟩ = some (.slice a2 m c2)

end Go.Proofs
namespace Go.Proofs.YtmpejbdmamgepaaDoor.NetCopies
open Go.RowKit Go.Shelf

set_option maxRecDepth 20000 in
set_option maxHeartbeats 16000000 in
theorem walk (an : Option Addr) (cn : Nat) (af : Option Addr) (cf : Nat) (ns : List Nd) (fs : List Fl) (d : Nat) (w : World) (hN : Nt.Nds w w.heap.size d an ns) (hF : Nt.Fls w w.heap.size d af fs) (hO : Tk.Ops w) :
    Calls Tryd.prog 5 #[.agg #[.slice an ns.length cn, .slice af fs.length cf]] w fun e w' => e = .returned (.bool true) ∧ Below w.heap.size w w' := by
  obtain ⟨w0, hw0⟩ : ∃ x, w.alloc (.cells #[.slice an ns.length cn, .slice af fs.length cf] 25) = x := ⟨_, rfl⟩
  have A0 : Below w.heap.size w w0 := by rw [← hw0]; exact (Below.refl _ w).alloc (Nat.le_refl _) _
  have G0 : w0.heap[w.heap.size]? = some (.cells #[.slice an ns.length cn, .slice af fs.length cf] 25 (0, 0)) := by rw [← hw0]; exact heap_alloc_new w _
  have hlg := Tryd.nlarge_any an cn af cf d ns fs w0 ((hN.below A0).wider A0.size) ((hF.below A0).wider A0.size)
  have HLN : Hid (∀ W, Below w.heap.size w W → Calls Tryd.prog 10 #[] W fun e w' => e = .returned (.bool true) ∧ Hid (Below w.heap.size w w')) := fun W hb => (Tryd.line_any W (hO.below hb hO.lt)).mono fun e w' h => ⟨h.1, hb.trans (h.2.mono hb.size)⟩
  obtain ⟨n, hnn⟩ : ∃ n, ns.length = n := ⟨_, rfl⟩
  obtain ⟨m, hmm⟩ : ∃ n, fs.length = n := ⟨_, rfl⟩
  have HBX : Hid (∀ W, Below w0.heap.size w0 W → W.cell? ⟨w.heap.size, 0, none⟩ = some (.slice an n cn) ∧ W.cell? ⟨w.heap.size, 1, none⟩ = some (.slice af m cf)) := fun W hb => by
    have := Nt.box2 ((hb.block _ (Nt.lt_of G0)).trans G0)
    rw [hnn, hmm] at this
    exact this
  have HNF : Hid (Nt.Nds w w.heap.size d an ns ∧ Nt.Fls w w.heap.size d af fs ∧ Tk.Ops w ∧ ns.length = n ∧ fs.length = m) := ⟨hN, hF, hO, hnn, hmm⟩
  rw [hnn, hmm] at hlg hw0 ⊢
  have HL : Hid _ := hlg
  have H0 : Hid (w.alloc (.cells #[.slice an n cn, .slice af m cf] 25) = w0) := hw0
  have HA : Hid (Below w.heap.size w w0) := A0
  clear hlg hw0 A0 G0 hN hF hO hnn hmm
  go_enter Tryd.func5, Tryd.ntmps5
  go_wp2_with fail
  rw [H0.out]
  refine Calls.mono HL.out ?_
  rintro e W1 ⟨hb1, rfl | ⟨rfl, hn60, hm100, hnz, hfz⟩⟩
  · have B1 : Hid (Below w.heap.size w W1) := HA.out.trans (hb1.mono HA.out.size)
    clear hb1 HL H0
    go_wp2_with fail
    refine Calls.mono (HLN.out W1 B1.out) ?_
    rintro e W2 ⟨rfl, B2⟩
    clear HLN
    go_wp2
    go_ret
    exact ⟨rfl, B2.out⟩
  have B1 : Hid (Below w0.heap.size w0 W1) := hb1
  have HZ : Hid (ns.length ≤ 60 ∧ fs.length ≤ 100 ∧ (∀ x, x ∈ ns → x.t.size ≤ 3000) ∧ ∀ x, x ∈ fs → x.c.size ≤ 3000) := ⟨hn60, hm100, hnz, hfz⟩
  have HT : Hid (∀ W, Below w0.heap.size w0 W → Below w.heap.size w W) := fun W hb => HA.out.trans (hb.mono HA.out.size)
  have HC : Hid (∀ W, Below w0.heap.size w0 W → Calls Tryd.prog 22 #[.agg #[.slice an n cn, .slice af m cf]] W fun e w' => ∃ a1 c1 a2 c2 gn gf L, e = .returned (.agg #[.slice a1 n c1, .slice a2 m c2]) ∧ Hid (Cp.Made W d ns fs a1 a2 gn gf L w')) := fun W hb => by
    have hbw := HT.out W hb
    have h := Tryd.ncopy_any an cn af cf d ns fs W ((HNF.out.1.below hbw).wider hbw.size) ((HNF.out.2.1.below hbw).wider hbw.size) HZ.out.1 HZ.out.2.1 HZ.out.2.2.1 HZ.out.2.2.2
    rw [HNF.out.2.2.2.1, HNF.out.2.2.2.2] at h
    exact h
  have hn' : n ≤ 60 := by rw [← HNF.out.2.2.2.1]; exact hn60
  have hm' : m ≤ 100 := by rw [← HNF.out.2.2.2.2]; exact hm100
  obtain ⟨p0, p1⟩ := HBX.out W1 B1.out
  clear hb1 HL H0 hn60 hm100 hnz hfz
  go_wp2_with fail
  refine Calls.mono (HC.out W1 B1.out) ?_
  rintro e W2 ⟨a1, c1, a2, c2, gn, gf, L, rfl, M2⟩
  obtain ⟨W3, hW3⟩ : ∃ z, W2.alloc (.cells #[.slice a1 n c1, .slice a2 m c2] 25) = z := ⟨_, rfl⟩
  have B2 : Hid (Below w0.heap.size w0 W2) := B1.out.trans (M2.out.inv.below.mono B1.out.size)
  have B3 : Hid (Below w0.heap.size w0 W3) := by rw [← hW3]; exact B2.out.alloc B2.out.size _
  have HW3 : Hid (W2.alloc (.cells #[.slice a1 n c1, .slice a2 m c2] 25) = W3) := hW3
  have HB23 : Hid (Below W2.heap.size W2 W3) := by rw [← hW3]; exact (Below.refl _ _).alloc (Nat.le_refl _) _
  clear p0 p1 hW3
  obtain ⟨p0, p1⟩ := HBX.out W3 B3.out
  go_upto_region 4 with fail
  rw [HW3.out]
  go_wp2_with fail
  refine Calls.mono (HC.out W3 B3.out) ?_
  rintro e W4 ⟨a3, c3, a4, c4, gm, gg, L2, rfl, M4⟩
  clear p0 p1 HC
  obtain ⟨W5, hW5⟩ : ∃ z, W4.alloc (.cells #[.slice a3 n c3, .slice a4 m c4] 25) = z := ⟨_, rfl⟩
  have S3 : W3.heap.size = W2.heap.size + 1 := by rw [← HW3.out]; simp
  have S5 : W5.heap.size = W4.heap.size + 1 := by rw [← hW5]; simp
  have B34 : Below W3.heap.size W3 W4 := M4.out.inv.below
  have B35 : Below W3.heap.size W3 W5 := by rw [← hW5]; exact B34.alloc B34.size _
  have hc5 : W5.heap[W2.heap.size]? = some (.cells #[.slice a1 n c1, .slice a2 m c2] 25 (0, 0)) := by
    rw [B35.block _ (by omega), ← HW3.out]; exact heap_alloc_new W2 _
  have hd5 : W5.heap[W4.heap.size]? = some (.cells #[.slice a3 n c3, .slice a4 m c4] 25 (0, 0)) := by rw [← hW5]; exact heap_alloc_new W4 _
  have hb25 : ∀ k, k < W2.heap.size → W5.heap[k]? = W2.heap[k]? := fun k hk => by
    rw [B35.block k (by omega), ← HW3.out]; exact Below.heap_alloc _ _ _ hk
  have B5 : Hid (Below w0.heap.size w0 W5) := B3.out.trans (B35.mono B3.out.size)
  have HP : Hid (∀ W, Below W5.heap.size W5 W → Nt.Has W W.heap.size 3000 a1 a2 ns fs) := fun W hb => M2.out.has HZ.out.1 HZ.out.2.1 HZ.out.2.2.1 HZ.out.2.2.2 (fun k _ hk => by rw [hb.block k (by have := B34.size; omega)]; exact hb25 k hk) (by have := B34.size; have := hb.size; omega)
  have HD : Hid (∀ W : World, (∀ k, W3.heap.size ≤ k → k < W4.heap.size → W.heap[k]? = W4.heap[k]?) → W4.heap.size ≤ W.heap.size → Nt.Has W W.heap.size 3000 a3 a4 ns fs) := fun W hk hs => M4.out.has HZ.out.1 HZ.out.2.1 HZ.out.2.2.1 HZ.out.2.2.2 hk hs
  have HNN : Hid (∀ W : World, Below w.heap.size w W → Nt.Has W W.heap.size d an af ns fs) := fun W hb => ⟨(HNF.out.1.below hb).wider hb.size, (HNF.out.2.1.below hb).wider hb.size, by have := HZ.out.1; omega, HZ.out.2.1, fun x hx => by have := HZ.out.2.2.1 x hx; omega, fun x hx => by have := HZ.out.2.2.2 x hx; omega⟩
  have HPL : Hid (∀ (a a' : Option Addr) (c c' dd : Nat) (W : World), Nt.Has W W.heap.size dd a a' ns fs → Below w.heap.size w W → Calls Tryd.prog 23 #[.agg #[.slice a n c, .slice a' m c'], .agg #[.slice an n cn, .slice af m cf]] W fun e w' => e = .returned (.bool true) ∧ Hid (Below W.heap.size W w')) := fun a a' c c' dd W h1 hb => by
    have h := Tryd.plainNet_any dd d W.heap.size a c a' c' ns fs an cn af cf ns fs W h1 (HNN.out W hb) (Nat.le_refl _)
    rw [HNF.out.2.2.2.1, HNF.out.2.2.2.2] at h
    refine h.mono fun e w' ⟨⟨r, he, hr⟩, hb⟩ => ?_
    obtain rfl : r = true := hr.2 ⟨rfl, rfl⟩
    exact ⟨he, hb⟩
  obtain ⟨p0, p1⟩ := HBX.out W5 B5.out
  have HW5 : Hid (W4.alloc (.cells #[.slice a3 n c3, .slice a4 m c4] 25) = W5) := hW5
  obtain ⟨q0, q1⟩ : W5.cell? ⟨W2.heap.size, 0, none⟩ = some (.slice a1 n c1) ∧ W5.cell? ⟨W2.heap.size, 1, none⟩ = some (.slice a2 m c2) := ⟨by simp [World.cell?, hc5], by simp [World.cell?, hc5]⟩
  have HX : Hid (W3.heap.size = W2.heap.size + 1 ∧ W5.heap.size = W4.heap.size + 1 ∧ Below W3.heap.size W3 W4 ∧ Below W3.heap.size W3 W5 ∧ W5.heap[W2.heap.size]? = some (.cells #[.slice a1 n c1, .slice a2 m c2] 25 (0, 0)) ∧ W5.heap[W4.heap.size]? = some (.cells #[.slice a3 n c3, .slice a4 m c4] 25 (0, 0)) ∧ ∀ k, k < W2.heap.size → W5.heap[k]? = W2.heap[k]?) := ⟨S3, S5, B34, B35, hc5, hd5, hb25⟩
  clear S3 S5 B34 B35 hc5 hd5 hb25 hW5 HW3
  go_upto_region 5 with fail
  rw [HW5.out]
  go_wp2_with fail
  refine Calls.mono (HPL.out a1 a2 c1 c2 3000 W5 (HP.out W5 (Below.refl _ _)) (HT.out W5 B5.out)) ?_
  rintro e R ⟨rfl, B6⟩
  have BR : Hid (Below w0.heap.size w0 R) := B5.out.trans (B6.out.mono B5.out.size)
  have HR : Hid (Cp.Ctx w R W1.heap.size W2.heap.size W4.heap.size n m a1 a2 c1 c2 gn gf L) := by
    obtain ⟨x1, x2, x3, x4, x5, x6, x7⟩ := HX.out
    have hs34 := x3.size
    have hbR := B6.out
    have hsR := hbR.size
    have b2R : ∀ k, k < W2.heap.size → R.heap[k]? = W2.heap[k]? := fun k hk => by rw [hbR.block k (by omega)]; exact x7 k hk
    have b23 : Below W2.heap.size W2 R := ((HB23.out.trans (x4.mono (by omega))).trans (hbR.mono (by omega)))
    have lt : ∀ x ∈ L, x.b < W2.heap.size := fun x hx => by
      obtain ⟨⟨cs, ty, hc, _⟩, _⟩ := M2.out.inv.at_ x hx
      exact (Array.getElem?_eq_some_iff.1 hc).1
    have hinv : Pt.Inv W1.heap.size d W1 L [] R := M2.out.inv.keep (b23.mono M2.out.inv.below.size) fun x hx => b2R _ (lt x hx)
    refine ⟨fun j hj => ?_, fun j hj => ?_, fun x hx => ⟨(M2.out.inv.at_ x hx).2.1, lt x hx⟩, ⟨_, _, _, hinv⟩, fun W hl => ?_⟩
    · have hjl : j < ns.length := by rw [HNF.out.2.2.2.1]; exact hj
      obtain ⟨h1, h2, h3, -⟩ := M2.out.nat j hjl
      exact ⟨h1, _, h2, HZ.out.2.2.1 _ (List.getElem_mem hjl), _, by rw [World.cell?_of_block (w := W2) (b2R gn (lt _ h2))]; exact h3⟩
    · have hjl : j < fs.length := by rw [HNF.out.2.2.2.2]; exact hj
      obtain ⟨h1, h2, _, h3, -⟩ := M2.out.fat j hjl
      exact ⟨h1, _, h2, HZ.out.2.2.2 _ (List.getElem_mem hjl), _, by rw [World.cell?_of_block (w := W2) (b2R gf (lt _ h2))]; exact h3⟩
    · have e := hl.others W2.heap.size (fun x hx => by have := lt x hx; omega)
      rw [hbR.block _ (by omega), x5] at e
      exact ⟨by simp [World.cell?, e], by simp [World.cell?, e]⟩
  have HLV : Hid (Cp.Live R L R) := by obtain ⟨_, _, _, hi⟩ := HR.out.inv; exact Cp.Live.refl hi
  have HV : Hid (∀ W, Cp.Live R L W → Below w.heap.size w W ∧ (W.cell? ⟨w.heap.size, 0, none⟩ = some (.slice an n cn) ∧ W.cell? ⟨w.heap.size, 1, none⟩ = some (.slice af m cf)) ∧ (W.cell? ⟨W4.heap.size, 0, none⟩ = some (.slice a3 n c3) ∧ W.cell? ⟨W4.heap.size, 1, none⟩ = some (.slice a4 m c4)) ∧ Nt.Has W W.heap.size 3000 a3 a4 ns fs) := fun W hl => by
    obtain ⟨x1, x2, x3, x4, x5, x6, x7⟩ := HX.out
    have hs34 := x3.size
    have hbR := B6.out
    have hsR := hbR.size
    have hsz := hl.size
    have s01 := B1.out.size
    have s12 := M2.out.inv.below.size
    have hlt0 : w.heap.size < w0.heap.size := by have := (HBX.out w0 (Below.refl _ _)).1; exact Tk.cell_lt' this
    have hk : ∀ k, k < W1.heap.size ∨ W2.heap.size ≤ k → W.heap[k]? = R.heap[k]? := fun k hk => hl.others k fun x hx e => by have := HR.out.old x hx; omega
    have hbw : Below w.heap.size w W := by
      have hb := HT.out R BR.out
      exact ⟨hl.os.trans hb.os, hl.tape.trans hb.tape, hl.output.trans hb.output, by have := hb.size; omega, fun k hk' => by rw [hk k (.inl (by omega))]; exact hb.block k hk'⟩
    refine ⟨hbw, ?_, ?_, HD.out W (fun k h1 h2 => ?_) (by omega)⟩
    · have e := hk w.heap.size (.inl (by omega))
      have := HBX.out R BR.out
      exact ⟨by rw [World.cell?_of_block (w := R) e]; exact this.1, by rw [World.cell?_of_block (w := R) e]; exact this.2⟩
    · have e := hk W4.heap.size (.inr (by omega))
      rw [hbR.block _ (by omega), x6] at e
      exact ⟨by simp [World.cell?, e], by simp [World.cell?, e]⟩
    · rw [hk k (.inr (by omega)), hbR.block k (by omega), ← HW5.out]
      exact Below.heap_alloc _ _ _ h2
  clear p0 p1 q0 q1 HP HD HX M2 M4 B1 B2 B3 B5 B6 BR HW5 HB23 HNN HA HBX HT
  obtain ⟨q0, q1⟩ := HR.out.box R HLV.out
  go_wp2
  go_loopg [5, 6, 23, 34] n (fun gk _ _ s23 _ wr => ∃ j : Nat, gk + j = n ∧ s23 = .int .i64 j ∧ Hid (Cp.Live R L wr))
  case atStart => exact ⟨0, by omega, rfl, HLV.out⟩
  case round =>
    obtain ⟨j, hj, rfl, HJ⟩ := hrel
    clear q0 q1 HLV
    by_cases hlt : j < n
    · have hd : decide ((j : Int) < n) = true := decide_eq_true (by omega)
      obtain ⟨ha1, T, hT, hTz, vk, hvk⟩ := HR.out.nat j hlt
      obtain ⟨_, _, _, hinv⟩ := HR.out.inv
      obtain ⟨ak, ck, hkc, hkp⟩ := Cp.kids_of hinv hT
      obtain ⟨lk, hlk⟩ : ∃ z, T.ks.length = z := ⟨_, rfl⟩
      rw [hlk] at hkc hkp
      have hlk3 : lk ≤ 3000 := by have := Tm.length_le_sizes T.ks; have := T.size_eq; omega
      have HK : Hid (∀ W, Cp.Live R L W → W.cell? ⟨W2.heap.size, 0, none⟩ = some (.slice (some ⟨gn, 0, none⟩) n c1) ∧ W.cell? ⟨gn, j * 5 + 2 + 2, none⟩ = some (.slice ak lk ck)) := fun W hl => by
        have h1 := (HR.out.box W hl).1
        rw [ha1] at h1
        exact ⟨h1, (hl.kidsCell hT).trans hkc⟩
      have HKP : Hid (∀ k, k < lk → ∃ g T', ak = some ⟨g, 0, none⟩ ∧ (⟨g, k * 3, T'⟩ : Pl) ∈ L) := hkp
      have HKS : Hid (∀ W, Cp.Live R L W → (∃ u, W.cell? ⟨gn, j * 5, none⟩ = some u) ∧ W.frozen? ⟨gn, j * 5, none⟩ = false ∧ Cp.Live R L (W.setCell ⟨gn, j * 5, none⟩ (.int .i64 (-9)))) := fun W hl => by
        have h1 := hl.cell hT hvk
        exact ⟨h1.1, h1.2, hl.put hT (Cp.node_free hinv (fun j hj => by obtain ⟨_, T, h, _⟩ := HR.out.nat j hj; exact ⟨T, h⟩) hlt) _⟩
      have HKO : Hid (∀ W, Cp.Live R L W → ∀ g k T', (⟨g, k * 3, T'⟩ : Pl) ∈ L → (∃ u, W.cell? ⟨g, k * 3, none⟩ = some u) ∧ W.frozen? ⟨g, k * 3, none⟩ = false ∧ Cp.Live R L (W.setCell ⟨g, k * 3, none⟩ (.int .i64 (-9)))) := fun W hl g k T' hm => by
        obtain ⟨_, _, c0, _⟩ := hinv.at_ _ hm
        have h1 := hl.cell hm c0
        exact ⟨h1.1, h1.2, hl.put hm (Cp.op_free hinv hm) _⟩
      clear ha1 hT hTz hvk hinv hkc hkp hlk
      obtain ⟨r0, r1⟩ := HK.out wr HJ.out
      go_wp2
      go_loopg [6, 34] lk (fun gi _ s34 wi => ∃ k : Nat, gi + k = lk ∧ s34 = .int .i64 k ∧ Hid (Cp.Live R L wi))
      case atStart => exact ⟨0, by omega, rfl, HJ.out⟩
      case round =>
        obtain ⟨k, hk, rfl, HI⟩ := hrel
        clear r0 r1 HJ
        rename World => wi
        by_cases hltk : k < lk
        · have hd2 : decide ((k : Int) < lk) = true := decide_eq_true (by omega)
          obtain ⟨g, T', rfl, hm⟩ := HKP.out k hltk
          obtain ⟨r0, r1⟩ := HK.out wi HI.out
          obtain ⟨⟨u, s0⟩, s1, hl2⟩ := HKO.out wi HI.out g k T' hm
          have HL2 : Hid _ := hl2
          clear hl2 hm
          go_wp2
          go_roundg (gk - 1)
          case measure => omega
          case rel => exact ⟨k + 1, by omega, by go_num, HL2.out⟩
        · obtain rfl : k = lk := by omega
          have hd2 : decide ((k : Int) < k) = false := decide_eq_false (by omega)
          obtain ⟨r0, r1⟩ := HK.out wi HI.out
          obtain ⟨⟨u, s0⟩, s1, hl2⟩ := HKS.out wi HI.out
          have HL2 : Hid _ := hl2
          clear hl2
          go_wp2
          go_roundg (n - j - 1)
          case measure => omega
          case rel => exact ⟨j + 1, by omega, by go_num, HL2.out⟩
    · obtain rfl : j = n := by omega
      have hd : decide ((j : Int) < j) = false := decide_eq_false (by omega)
      obtain ⟨q0, q1⟩ := HR.out.box wr HJ.out
      go_wp2
      go_loopg [7, 8, 57, 68] m (fun gk _ _ s57 _ wz => ∃ l : Nat, gk + l = m ∧ s57 = .int .i64 l ∧ Hid (Cp.Live R L wz))
      case atStart => exact ⟨0, by omega, rfl, HJ.out⟩
      case round =>
        obtain ⟨l, hl, rfl, HZJ⟩ := hrel
        clear q0 q1 HJ
        rename World => wz
        by_cases hltl : l < m
        · have hd2 : decide ((l : Int) < m) = true := decide_eq_true (by omega)
          obtain ⟨ha2, T, hT, hTz, vk, hvk⟩ := HR.out.fat l hltl
          obtain ⟨_, _, _, hinv⟩ := HR.out.inv
          obtain ⟨ak, ck, hkc, hkp⟩ := Cp.kids_of hinv hT
          obtain ⟨lk, hlk⟩ : ∃ z, T.ks.length = z := ⟨_, rfl⟩
          rw [hlk] at hkc hkp
          have hlk3 : lk ≤ 3000 := by have := Tm.length_le_sizes T.ks; have := T.size_eq; omega
          have HK : Hid (∀ W, Cp.Live R L W → W.cell? ⟨W2.heap.size, 1, none⟩ = some (.slice (some ⟨gf, 0, none⟩) m c2) ∧ W.cell? ⟨gf, l * 6 + 3 + 2, none⟩ = some (.slice ak lk ck)) := fun W hl => by
            have h1 := (HR.out.box W hl).2
            rw [ha2] at h1
            exact ⟨h1, (hl.kidsCell hT).trans hkc⟩
          have HKP : Hid (∀ k, k < lk → ∃ g T', ak = some ⟨g, 0, none⟩ ∧ (⟨g, k * 3, T'⟩ : Pl) ∈ L) := hkp
          have HKS : Hid (∀ W, Cp.Live R L W → (∃ u, W.cell? ⟨gf, l * 6 + 1, none⟩ = some u) ∧ W.frozen? ⟨gf, l * 6 + 1, none⟩ = false ∧ Cp.Live R L (W.setCell ⟨gf, l * 6 + 1, none⟩ (.int .i64 (-9)))) := fun W hl => by
            have h1 := hl.cell hT hvk
            exact ⟨h1.1, h1.2, hl.put hT (Cp.flow_free hinv (fun j hj => by obtain ⟨_, T, h, _⟩ := HR.out.fat j hj; exact ⟨T, h⟩) hltl) _⟩
          have HKO : Hid (∀ W, Cp.Live R L W → ∀ g k T', (⟨g, k * 3, T'⟩ : Pl) ∈ L → (∃ u, W.cell? ⟨g, k * 3, none⟩ = some u) ∧ W.frozen? ⟨g, k * 3, none⟩ = false ∧ Cp.Live R L (W.setCell ⟨g, k * 3, none⟩ (.int .i64 (-9)))) := fun W hl g k T' hm => by
            obtain ⟨_, _, c0, _⟩ := hinv.at_ _ hm
            have h1 := hl.cell hm c0
            exact ⟨h1.1, h1.2, hl.put hm (Cp.op_free hinv hm) _⟩
          clear ha2 hT hTz hvk hinv hkc hkp hlk
          obtain ⟨r0, r1⟩ := HK.out wz HZJ.out
          go_wp2
          go_loopg [8, 68] lk (fun gi _ s68 wi => ∃ k : Nat, gi + k = lk ∧ s68 = .int .i64 k ∧ Hid (Cp.Live R L wi))
          case atStart => exact ⟨0, by omega, rfl, HZJ.out⟩
          case round =>
            obtain ⟨k, hk, rfl, HI⟩ := hrel
            clear r0 r1 HZJ
            rename World => wi
            by_cases hltk : k < lk
            · have hd3 : decide ((k : Int) < lk) = true := decide_eq_true (by omega)
              obtain ⟨g, T', rfl, hm⟩ := HKP.out k hltk
              obtain ⟨r0, r1⟩ := HK.out wi HI.out
              obtain ⟨⟨u, s0⟩, s1, hl2⟩ := HKO.out wi HI.out g k T' hm
              have HL2 : Hid _ := hl2
              clear hl2 hm
              go_wp2
              go_roundg (gk - 1)
              case measure => omega
              case rel => exact ⟨k + 1, by omega, by go_num, HL2.out⟩
            · obtain rfl : k = lk := by omega
              have hd3 : decide ((k : Int) < k) = false := decide_eq_false (by omega)
              obtain ⟨r0, r1⟩ := HK.out wi HI.out
              obtain ⟨⟨u, s0⟩, s1, hl2⟩ := HKS.out wi HI.out
              have HL2 : Hid _ := hl2
              clear hl2
              go_wp2
              go_roundg (m - l - 1)
              case measure => omega
              case rel => exact ⟨l + 1, by omega, by go_num, HL2.out⟩
        · obtain rfl : l = m := by omega
          have hd2 : decide ((l : Int) < l) = false := decide_eq_false (by omega)
          obtain ⟨hbw, ⟨p0, p1⟩, ⟨t0, t1⟩, hhas⟩ := HV.out wz HZJ.out
          have HBW : Hid _ := hbw
          have HHS : Hid _ := hhas
          clear hbw hhas
          go_wp2_with fail
          refine Calls.mono (HPL.out a3 a4 c3 c4 3000 wz HHS.out HBW.out) ?_
          rintro e W8 ⟨rfl, B8⟩
          have HB8 : Hid (Below w.heap.size w W8) := HBW.out.trans (B8.out.mono HBW.out.size)
          clear p0 p1 t0 t1 HHS HPL
          go_wp2_with fail
          refine Calls.mono (HLN.out W8 HB8.out) ?_
          rintro e W9 ⟨rfl, B9⟩
          clear HLN
          go_wp2
          go_ret
          exact ⟨rfl, B9.out⟩

end Go.Proofs.YtmpejbdmamgepaaDoor.NetCopies
