import Derived.Test.YtndfbgfpnjnmlaaGreatDoorRGmDChoose
namespace Go.Proofs
open Go.RowKit Go.Shelf
namespace Gm
def xorD (fs : List Fl) (l : List Int) (i : Nat) (a c : List Nat) : List (Mv × List Int) :=
 if c.length = 1 then mergeS l i c a else if l.getD (a.headD 0) 0 = 0 then [] else if (chooseD fs l c).2 ≠ 0 then fault l i (chooseD fs l c).2 else more ⟨i, ((chooseD fs l c).1 : Nat), 0, 0, 0⟩ (pass l a [(chooseD fs l c).1])
theorem step_row {ops : Array Oper} {o : Oper} {a : Act} {w : World} {K : Act → World → Prop} {Q : Exit → Act → World → Prop} {E : Prop} (hg : o.guard = none) (ty : TypeId) (x y : Operand) (hop : o.op = .store ty x y) (g : Nat) (cells : Array Value) (hx : a.eval x = .pointer (some ⟨g, 0, none⟩)) (hy : a.eval y = .agg cells)
  (t : TypeId) (old : Array Value) (hgb : w.heap[g]? = some (.cells old t (0, 0))) (hi : (Tryz.prog.info? ty).map (·.size) = some cells.size) (hold : old.size = cells.size) (h1 : cells.all (·.oneCell') = true) (hK : K (a.put o.dst undef) (w.setRow g cells)) :
  if Region.wanted o (yielded ops a.tmps) = true then Oper.wp Tryz.prog o a w K Q else E := by
 rw [if_pos (by simp [Region.wanted, hg])]
 exact wp_store_row ty x y hop g cells hx hy t old hgb hi hold h1 hK
theorem mergeS_cons (l : List Int) (i : Nat) (b : List Nat) (f : Nat) (r : List Nat) : mergeS l i b (f :: r) = more ⟨i, (f : Nat), 0, 0, 0⟩ (pass l [f] b) ++ mergeS l i b r := by
 rw [mergeS]
 cases pass l [f] b <;> rfl
theorem chA_mem (fs : List Fl) (l : List Int) (P : Nat → Prop) : ∀ (a : List Nat), P 0 → (∀ f ∈ a, P f) → ∀ p, chA fs l a = some p → P p.1
 | [], _, _, p, h => by cases h
 | f :: r, h0, h, p, hp => by
   rw [chA] at hp
   have hr : ∀ g ∈ r, P g := fun g hg => h g (by simp [hg])
   cases hf : fs[f]? with
   | none => rw [hf] at hp; cases hp
   | some x =>
     rw [hf] at hp
     simp only at hp
     split at hp
     ·exact chA_mem fs l P r h0 hr p hp
     ·split at hp
      ·cases hp; exact h0
      ·split at hp
       ·cases hp; exact h f (by simp)
       ·exact chA_mem fs l P r h0 hr p hp
theorem chB_mem (fs : List Fl) (P : Nat → Prop) : ∀ (a : List Nat), P 0 → (∀ f ∈ a, P f) → P (chB fs a)
 | [], h0, _ => h0
 | f :: r, h0, h => by
   rw [chB]
   cases fs[f]? with
   | none => exact h0
   | some x =>
     show P (if _ then _ else _)
     split
     ·exact h f (by simp)
     ·exact chB_mem fs P r h0 fun g hg => h g (by simp [hg])
theorem chooseD_mem (fs : List Fl) (l : List Int) (P : Nat → Prop) (a : List Nat) (h0 : P 0) (h : ∀ f ∈ a, P f) : P (chooseD fs l a).1 := by
 unfold chooseD
 cases hc : chA fs l a with
 | none => exact chB_mem fs P a h0 h
 | some p => exact chA_mem fs l P a h0 h p hc
end Gm
set_option maxRecDepth 20000 in
set_option maxHeartbeats 32000000 in
theorem Tryz.rxor_any (w0 : World) (B b : Nat) (an : Option Addr) (n cn : Nat) (af : Option Addr) (m cf : Nat) (l : List Int) (ss : List (Mv × List Int)) (i : Nat) (a c : List Nat) (va vc : Value) (X : World) (hG : Gm.D w0 B b an n cn af m cf l ss X) (hl : ss.length ≤ 5000)
    (ha : Gm.Ints X va (a.map fun x : Nat => (x : Int))) (hc : Gm.Ints X vc (c.map fun x : Nat => (x : Int))) (ha4 : ∀ f ∈ a, f < 40) (hal : a.length ≤ 100) (hcl : c.length ≤ 100) (hS : Gm.Small l) (ha0 : a ≠ [])
    (d : Nat) (fs : List Fl) (hF : Nt.Fls w0 b d af fs) (hm : fs.length = m) (hm1 : m ≤ 40) (hcf : ∀ f ∈ c, f < fs.length) (hsz : ∀ x, x ∈ fs → x.c.size ≤ 2147483647) :
    Calls Tryz.prog 45 #[.pointer (some ⟨b, 0, none⟩), .int .i64 i, va, vc] X fun e' w' => e' = .returned (.tuple #[]) ∧ Gm.D w0 B b an n cn af m cf l (ss ++ Gm.xorD fs l i a c) w' ∧ Gm.KeepD X w' := by
  obtain ⟨R, hR⟩ : ∃ R, ss ++ Gm.xorD fs l i a c = R := ⟨_, rfl⟩
  rw [hR]
  obtain ⟨v, hA, hO⟩ := hG.game
  have hll := hA.ll
  have hbX : b < X.heap.size := hA.lt
  have hc4 : ∀ f ∈ c, f < 40 := fun f hf => by have := hcf f hf; omega
  have hu := Tryz.underlying32
  have hi5 : (Tryz.prog.info? 32).map (·.size) = some (Gm.ints l).length := by rw [Gm.ints_length, hll]; show _ = _; kernel_rfl
  have HG : Hid (Gm.D w0 B b an n cn af m cf l ss X ∧ ss.length ≤ 5000 ∧ l.length = 49 ∧ Gm.Small l) := ⟨hG, hl, hll, hS⟩
  have HLa : Hid (∀ W, Gm.KeepD X W → Gm.Ints W va (a.map fun x : Nat => (x : Int))) := fun W hk => ha.keepD hk
  have HLc : Hid (∀ W, Gm.KeepD X W → Gm.Ints W vc (c.map fun x : Nat => (x : Int))) := fun W hk => hc.keepD hk
  have HB4 : Hid ((∀ f ∈ a, f < 40) ∧ (∀ f ∈ c, f < 40) ∧ a.length ≤ 100 ∧ c.length ≤ 100) := ⟨ha4, hc4, hal, hcl⟩
  obtain ⟨ac, cc, rfl, hc'⟩ := id hc
  obtain ⟨aa, ca, rfl, ha'⟩ := id ha
  obtain ⟨na, hna⟩ : ∃ z, a.length = z := ⟨_, rfl⟩
  obtain ⟨nc, hnc⟩ : ∃ z, c.length = z := ⟨_, rfl⟩
  rw [List.length_map, hna] at HLa
  rw [List.length_map, hnc] at HLc
  rw [List.length_map, List.length_map, hna, hnc]
  have hna1 : na ≤ 100 := by omega
  by_cases hn1 : nc = 1
  · have e1 : ((nc : Int) == 1) = true := by simp [hn1]
    have HRR : Hid (ss ++ Gm.mergeS l i c (a.drop 0) = R) := by
      show _ = R
      rw [← hR]; unfold Gm.xorD
      rw [if_pos (by rw [hnc]; exact hn1)]; rfl
    have HIA : Hid (∀ W, Gm.KeepD X W → ∀ j, j < na → ∃ (g off f : Nat), a[j]? = some f ∧ f < 40 ∧ aa = some ⟨g, off, none⟩ ∧ W.cell? ⟨g, off + j, none⟩ = some (.int .i64 f)) := fun W hk j hj => by
      obtain ⟨g, off, cs, fr, h1, h2, h3⟩ := ha' j (by rw [List.length_map]; omega)
      have hja : j < a.length := by omega
      refine ⟨g, off, a[j], List.getElem?_eq_getElem hja, ha4 _ (List.getElem_mem hja), h1, ?_⟩
      rw [World.cell?_of_block (w := X) (a := ⟨g, off + j, none⟩) (hk g cs _ fr h2 (by decide) (by decide)), h3]
      simp
    have HNA : Hid (a.length = na) := hna
    have HCA : Hid (∀ (W : World) (s' : List (Mv × List Int)), Gm.D w0 B b an n cn af m cf l s' W → s'.length ≤ 6000 → Gm.KeepD X W → ∀ f, f < 40 → ∀ vf, Gm.Ints W vf ([f].map fun x : Nat => (x : Int)) → Calls Tryz.prog 29 #[.pointer (some ⟨b, 0, none⟩), .agg (Gm.stC ⟨i, (f : Nat), 0, 0, 0⟩ l).toArray, vf, .slice ac nc cc] W fun e' w' => e' = .returned (.tuple #[]) ∧ Gm.D w0 B b an n cn af m cf l (Gm.passS s' ⟨i, (f : Nat), 0, 0, 0⟩ l [f] c) w' ∧ Gm.KeepD W w') := fun W s' h hs hk f hf vf hv =>
      Tryz.radd_any w0 B b an n cn af m cf l s' ⟨i, (f : Nat), 0, 0, 0⟩ l [f] c vf (.slice ac nc cc) W h (by omega) hv (HLc.out W hk) (by simpa using hf) HB4.out.2.1 (by simp) HB4.out.2.2.2 HG.out.2.2.2 rfl
    clear hG hl ha hc ha4 hc4 hal hcl hS ha0 hF hm hm1 hcf hsz hA hO ha' hc' hna hnc hR hn1
    go_enter Tryz.func45, Tryz.ntmps45
    go_wp2
    go_loopg [9, 16] na (fun gk _ s16 wr => ∃ (j : Nat) (s' : List (Mv × List Int)), s16 = .int .i64 j ∧ gk + j = na ∧ Hid (s' ++ Gm.mergeS l i c (a.drop j) = R ∧ Gm.D w0 B b an n cn af m cf l s' wr ∧ Gm.KeepD X wr ∧ s'.length ≤ ss.length + j))
    case atStart => exact ⟨0, ss, rfl, by omega, HRR.out, HG.out.1, Gm.KeepD.refl _, by omega⟩
    case round =>
      obtain ⟨j, s', rfl, hj, HJ⟩ := hrel
      clear HRR
      by_cases hlt : j < na
      · have hd : decide ((j : Int) < na) = true := decide_eq_true (by omega)
        obtain ⟨g, off, f, haf, hf4, rfl, hcf⟩ := HIA.out wr HJ.out.2.2.1 j hlt
        have hdr : a.drop j = f :: a.drop (j + 1) := by
          obtain ⟨h1, h2⟩ := List.getElem?_eq_some_iff.1 haf
          rw [← h2]; exact List.drop_eq_getElem_cons h1
        have j1 : (j : Int) < na := by omega
        have j0 : (0 : Int) ≤ j := by omega
        obtain ⟨v', hA', -⟩ := HJ.out.2.1.game
        have hst := hA'.st
        have hbt := Gm.built_step3 i (f : Nat) l HG.out.2.2.1
        obtain ⟨W1, hW1⟩ : ∃ z, wr.alloc (.cells #[.int .i64 f] 3) = z := ⟨_, rfl⟩
        have A1 : Below wr.heap.size wr W1 := by rw [← hW1]; exact (Below.refl _ wr).alloc (Nat.le_refl _) _
        have N1 : W1.heap[wr.heap.size]? = some (.cells #[.int .i64 f] 3 (0, 0)) := by rw [← hW1]; exact heap_alloc_new wr _
        have hI1 : Gm.Ints W1 (.slice (some ⟨wr.heap.size, 0, none⟩) 1 1) ([f].map fun x : Nat => (x : Int)) := ⟨_, _, rfl, fun k hk => ⟨wr.heap.size, 0, _, _, rfl, N1, by
          have hk0 : k = 0 := by simpa using hk
          subst hk0
          simp [World.cell?, N1]⟩⟩
        have HK1 : Hid (Gm.KeepD X W1) := HJ.out.2.2.1.trans (Gm.KeepD.below A1)
        have HC : Hid _ := HCA.out W1 s' (HJ.out.2.1.below A1) (by have h1 := HJ.out.2.2.2; have h2 := HG.out.2.1; omega) HK1.out f hf4 _ hI1
        have HGO : Hid (Gm.passS s' ⟨i, (f : Nat), 0, 0, 0⟩ l [f] c ++ Gm.mergeS l i c (a.drop (j + 1)) = R ∧ (Gm.passS s' ⟨i, (f : Nat), 0, 0, 0⟩ l [f] c).length ≤ ss.length + (j + 1)) := by
          refine ⟨?_, ?_⟩
          · have := HJ.out.1
            rw [hdr, Gm.mergeS_cons, ← List.append_assoc] at this
            exact this
          · unfold Gm.passS
            rw [List.length_append]
            have h1 := HJ.out.2.2.2
            have h2 : (Gm.more ⟨i, (f : Nat), 0, 0, 0⟩ (Gm.pass l [f] c)).length ≤ 1 := by cases Gm.pass l [f] c <;> simp [Gm.more]
            omega
        have HW1 : Hid _ := hW1
        clear hW1 A1 N1 hI1 hdr haf HJ hA'
        go_wp2_with (first
          | refine wpList_load_mid rfl 32 _ rfl b 2 rfl (Gm.ints l) _ hst hu rfl hi5 ?_
          | refine wpList_buildTo rfl 61 _ rfl (some 27) rfl (Gm.stC ⟨i, (f : Nat), 0, 0, 0⟩ l).toArray (Eq.trans (congrArg (Tryz.prog.built 61) (by kernel_rfl)) hbt) ?_
          | fail)
        rw [HW1.out]
        refine Calls.mono HC.out ?_
        rintro e W4 ⟨rfl, g4, k4⟩
        have HN : Hid (Gm.passS s' ⟨i, (f : Nat), 0, 0, 0⟩ l [f] c ++ Gm.mergeS l i c (a.drop (j + 1)) = R ∧ Gm.D w0 B b an n cn af m cf l (Gm.passS s' ⟨i, (f : Nat), 0, 0, 0⟩ l [f] c) W4 ∧ Gm.KeepD X W4 ∧ (Gm.passS s' ⟨i, (f : Nat), 0, 0, 0⟩ l [f] c).length ≤ ss.length + (j + 1)) := ⟨HGO.out.1, g4, HK1.out.trans k4, HGO.out.2⟩
        clear g4 k4 HC HGO hst hbt HW1 hcf
        go_wp2
        go_roundg (gk - 1)
        case measure => omega
        case rel => exact ⟨j + 1, Gm.passS s' ⟨i, (f : Nat), 0, 0, 0⟩ l [f] c, by go_num, by omega, HN.out⟩
      · obtain rfl : j = na := by omega
        have hd : decide ((j : Int) < j) = false := decide_eq_false (by omega)
        have HN : Hid (Gm.D w0 B b an n cn af m cf l R wr ∧ Gm.KeepD X wr) := by
          have h1 := HJ.out.1
          rw [List.drop_eq_nil_of_le (by rw [HNA.out]; exact Nat.le_refl _), Gm.mergeS, List.append_nil] at h1
          rw [← h1]
          exact ⟨HJ.out.2.1, HJ.out.2.2.1⟩
        clear HJ
        go_wp2
        exact bodyPost_ret (results_none Tryz.results45 _ _ _) rfl ⟨rfl, HN.out⟩
  · have e1 : ((nc : Int) == 1) = false := by simp; omega
    have hna0 : 0 < na := by rw [← hna]; exact List.length_pos_iff.2 ha0
    obtain ⟨g0, off0, cs0, fr0, h1, h2, h3⟩ := ha' 0 (by rw [List.length_map]; omega)
    subst h1
    obtain ⟨f0, hf0⟩ : ∃ z, a.headD 0 = z := ⟨_, rfl⟩
    have ef0 : (a.map fun x : Nat => (x : Int))[0]'(by rw [List.length_map]; omega) = (f0 : Int) := by
      cases a with
      | nil => exact absurd rfl ha0
      | cons x r =>
        have : x = f0 := by simpa using hf0
        simp [this]
    rw [ef0, Nat.add_zero] at h3
    have hf40 : f0 < 40 := by
      cases a with
      | nil => exact absurd rfl ha0
      | cons x r => rw [← hf0]; exact ha4 x (by simp)
    obtain ⟨y, hy⟩ : ∃ z, l.getD f0 0 = z := ⟨_, rfl⟩
    have ky : X.cell? ⟨b, 2 + f0, none⟩ = some (.int .i64 y) := by
      rw [← hy]
      refine hA.st f0 _ ?_
      have := Gm.ints_get (t := l) (f := f0) (by omega)
      simpa using this
    have hcell0 : X.cell? ⟨g0, off0, none⟩ = some (.int .i64 f0) := h3
    have i1 : (f0 : Int) < 40 := by omega
    have i0 : (0 : Int) ≤ f0 := by omega
    have hn0 : (0 : Int) < na := by omega
    obtain ⟨⟨cf1, fe⟩, hch⟩ : ∃ z, Gm.chooseD fs l c = z := ⟨_, rfl⟩
    have hcf40 : cf1 < 40 := by
      have := Gm.chooseD_mem fs l (· < 40) c (by omega) hc4
      rw [hch] at this
      exact this
    have HRR : Hid ((if y = 0 then ss else if fe ≠ 0 then ss ++ Gm.fault l i fe else Gm.passS ss ⟨i, (cf1 : Nat), 0, 0, 0⟩ l a [cf1]) = R) := by
      have hxd : Gm.xorD fs l i a c = if y = 0 then [] else if fe ≠ 0 then Gm.fault l i fe else Gm.more ⟨i, (cf1 : Nat), 0, 0, 0⟩ (Gm.pass l a [cf1]) := by
        unfold Gm.xorD
        rw [if_neg (show ¬ c.length = 1 by rw [hnc]; exact hn1), hf0, hy, hch]
      show _ = R
      rw [← hR, hxd]
      by_cases h : y = 0
      · simp only [if_pos h, List.append_nil]
      · by_cases h' : fe = 0
        · simp only [if_neg h, if_neg (show ¬ fe ≠ 0 by simpa using h')]; rfl
        · simp only [if_neg h, if_pos (show fe ≠ 0 from h')]
    have HCH : Hid (∀ W, Below X.heap.size X W → Calls Tryz.prog 68 #[.agg #[.slice an n cn, .slice af m cf], .slice ac nc cc, .agg #[.int .i64 (l.getD 40 0), .int .i64 (l.getD 41 0), .int .i64 (l.getD 42 0), .int .i64 (l.getD 43 0)]] W fun e w' => e = .returned (.agg #[.int .i64 (cf1 : Nat), .int .i64 fe]) ∧ Hid (Below X.heap.size X w' ∧ Below W.heap.size W w')) := fun W hW => by
      have hbB := hG.lt
      have hBw : B ≤ X.heap.size := Nat.le_trans hG.le hG.fr.size
      have h := Tryz.rchoose_any an n cn af m cf l c (.slice ac nc cc) W (HLc.out W (Gm.KeepD.below hW)) hcl d fs (((Gm.fls_fr hF hG.lt hG.fr).below (hW.mono (by omega))).wider (by have := hW.size; omega)) hm (by omega) hcf hsz
      rw [hch] at h
      exact h.mono fun _ _ q => ⟨q.1, hW.trans (q.2.mono hW.size), q.2⟩
    obtain ⟨x0, hx0⟩ : ∃ z, l.getD 40 0 = z := ⟨_, rfl⟩
    obtain ⟨x1, hx1⟩ : ∃ z, l.getD 41 0 = z := ⟨_, rfl⟩
    obtain ⟨x2, hx2⟩ : ∃ z, l.getD 42 0 = z := ⟨_, rfl⟩
    obtain ⟨x3, hx3⟩ : ∃ z, l.getD 43 0 = z := ⟨_, rfl⟩
    rw [hx0, hx1, hx2, hx3] at HCH
    have hst0 : ∀ j, j < 49 → X.cell? ⟨b, 2 + j, none⟩ = some (.int .i64 (l.getD j 0)) := fun j hj => hA.st j _ (by
      have := Gm.ints_get (t := l) (f := j) (by omega)
      simpa using this)
    have CF : Hid (∀ V, Below X.heap.size X V → V.cell? ⟨b, 0, none⟩ = some (.slice an n cn) ∧ V.cell? ⟨b, 1, none⟩ = some (.slice af m cf) ∧ V.cell? ⟨b, 42, none⟩ = some (.int .i64 x0) ∧ V.cell? ⟨b, 43, none⟩ = some (.int .i64 x1) ∧ V.cell? ⟨b, 44, none⟩ = some (.int .i64 x2) ∧ V.cell? ⟨b, 45, none⟩ = some (.int .i64 x3)) := fun V hV => by
      have hcb : ∀ o, V.cell? ⟨b, o, none⟩ = X.cell? ⟨b, o, none⟩ := fun o => hV.cell (p := ⟨b, o, none⟩) hbX
      rw [hcb, hcb, hcb, hcb, hcb, hcb]
      exact ⟨hA.net0, hA.net1, by rw [← hx0]; exact hst0 40 (by omega), by rw [← hx1]; exact hst0 41 (by omega), by rw [← hx2]; exact hst0 42 (by omega), by rw [← hx3]; exact hst0 43 (by omega)⟩
    have HST : Hid (∀ V, Below X.heap.size X V → V.rangeAt b 2 (Gm.ints l)) := fun V hV => (hA.keep (hV.block b hbX)).st
    have HCA : Hid (∀ W, Below X.heap.size X W → ∀ vf, Gm.Ints W vf ([cf1].map fun x : Nat => (x : Int)) → Calls Tryz.prog 29 #[.pointer (some ⟨b, 0, none⟩), .agg (Gm.stC ⟨i, (cf1 : Nat), 0, 0, 0⟩ l).toArray, .slice (some ⟨g0, off0, none⟩) na ca, vf] W fun e' w' => e' = .returned (.tuple #[]) ∧ Gm.D w0 B b an n cn af m cf l (Gm.passS ss ⟨i, (cf1 : Nat), 0, 0, 0⟩ l a [cf1]) w' ∧ Gm.KeepD W w') := fun W hW vf hv =>
      Tryz.radd_any w0 B b an n cn af m cf l ss ⟨i, (cf1 : Nat), 0, 0, 0⟩ l a [cf1] (.slice (some ⟨g0, off0, none⟩) na ca) vf W (hG.below hW) (by omega) (HLa.out W (Gm.KeepD.below hW)) hv HB4.out.1 (by simpa using hcf40) HB4.out.2.2.1 (by simp) hS rfl
    have HFA : Hid (∀ W, Below X.heap.size X W → Calls Tryz.prog 67 #[.pointer (some ⟨b, 0, none⟩), .int .i64 i, .int .i64 fe] W fun e' w' => e' = .returned (.tuple #[]) ∧ Gm.D w0 B b an n cn af m cf l (ss ++ Gm.fault l i fe) w' ∧ Gm.KeepD W w') := fun W hW => Tryz.rfault_any w0 B b an n cn af m cf l ss i fe W (hG.below hW) (by omega)
    have hbt := Gm.built_step3 i (cf1 : Nat) l hll
    have huC := Tryz.underlying119
    clear hG hl ha hc ha4 hc4 hal hcl hS ha0 hF hm hm1 hcf hsz hA hO ha' hc' hna hnc hR hn1 h2 h3 hf0 ef0 hf40 hy hch hx0 hx1 hx2 hx3 hst0 hcf40
    go_enter Tryz.func45, Tryz.ntmps45
    go_upto_region 6 with fail
    go_quiet (fail)
    obtain ⟨Y, hY⟩ : ∃ z, X.drewN nq = z := ⟨_, rfl⟩
    have BY : Hid (Below X.heap.size X Y) := by show Below _ _ _; rw [← hY]; exact ⟨rfl, rfl, rfl, Nat.le_refl _, fun _ _ => rfl⟩
    rw [hY]
    clear hY hcell0 ky
    by_cases hy0 : y = 0
    · have e0 : (y == 0) = true := by simpa using hy0
      have HN : Hid (Gm.D w0 B b an n cn af m cf l R Y ∧ Gm.KeepD X Y) := by
        have h1 := HRR.out
        rw [if_pos hy0] at h1
        rw [← h1]
        exact ⟨HG.out.1.below BY.out, Gm.KeepD.below BY.out⟩
      clear HRR hy0
      go_wp2
      exact bodyPost_ret (results_none Tryz.results45 _ _ _) rfl ⟨rfl, HN.out⟩
    · have e0 : (y == 0) = false := by simpa using hy0
      have HR2 : Hid ((if fe ≠ 0 then ss ++ Gm.fault l i fe else Gm.passS ss ⟨i, (cf1 : Nat), 0, 0, 0⟩ l a [cf1]) = R) := by
        have h1 := HRR.out
        rw [if_neg hy0] at h1
        exact h1
      clear HRR hy0
      go_upto_region 7 with fail
      go_cut [10] (fun s10 wx => ∃ q : Nat, s10 = .pointer (some ⟨q, 0, none⟩) ∧ Hid (wx.heap[q]? = some (.cells #[.int .i64 (cf1 : Nat), .int .i64 fe] 119 (0, 0)) ∧ Below X.heap.size X wx ∧ X.heap.size ≤ q))
      case first =>
        clear HG HLa HLc HB4 HR2 HST HCA HFA hbt
        refine wp_region_held_drew (S := (fun V => V.cell? ⟨b, 0, none⟩ = some (.slice an n cn) ∧ V.cell? ⟨b, 1, none⟩ = some (.slice af m cf) ∧ V.cell? ⟨b, 42, none⟩ = some (.int .i64 x0) ∧ V.cell? ⟨b, 43, none⟩ = some (.int .i64 x1) ∧ V.cell? ⟨b, 44, none⟩ = some (.int .i64 x2) ∧ V.cell? ⟨b, 45, none⟩ = some (.int .i64 x3))) (by kernel_rfl) ?_ (fun hHeld => ?_)
        · exact CF.out _ BY.out.drew
        refine Nt.takeS (v := ?va0) 0 43 rfl rfl (by kernel_rfl) (by kernel_rfl) (by kernel_rfl) (fun _ _ _ h => h) (Or.inl ⟨by rfl, ?ya0⟩) hHeld ?ra0
        case ya0 => (intro w hSw; (try dsimp only at hSw); go_simp; all_goals (with_reducible rfl))
        simp only [List.set_cons_succ, List.set_cons_zero]
        refine Nt.takeS (v := ?va1) 1 44 rfl rfl (by kernel_rfl) (by kernel_rfl) (by kernel_rfl) (fun _ _ _ h => h) (Or.inl ⟨by rfl, ?ya1⟩) hHeld ?ra1
        case ya1 => (intro w hSw; (try dsimp only at hSw); go_simp; all_goals (with_reducible rfl))
        simp only [List.set_cons_succ, List.set_cons_zero]
        refine Nt.takeS (v := ?va2) 2 45 rfl rfl (by kernel_rfl) (by kernel_rfl) (by kernel_rfl) (fun _ _ _ h => h) (Or.inl ⟨by rfl, ?ya2⟩) hHeld ?ra2
        case ya2 => (intro w hSw; (try dsimp only at hSw); go_simp; all_goals (with_reducible rfl))
        simp only [List.set_cons_succ, List.set_cons_zero]
        refine Nt.takeS (v := ?va3) 3 46 rfl rfl (by kernel_rfl) (by kernel_rfl) (by kernel_rfl) (fun _ _ _ h => h) (Or.inl ⟨by rfl, ?ya3⟩) hHeld ?ra3
        case ya3 => (intro w hSw; (try dsimp only at hSw); go_simp; all_goals (with_reducible rfl))
        simp only [List.set_cons_succ, List.set_cons_zero]
        refine Nt.takeS (v := ?va4) 4 47 rfl rfl (by kernel_rfl) (by kernel_rfl) (by kernel_rfl) (fun _ _ _ h => h) (Or.inl ⟨by rfl, ?ya4⟩) hHeld ?ra4
        case ya4 => (intro w hSw; (try dsimp only at hSw); go_simp; all_goals (with_reducible rfl))
        simp only [List.set_cons_succ, List.set_cons_zero]
        refine Nt.takeS (v := ?va5) 5 48 rfl rfl (by kernel_rfl) (by kernel_rfl) (by kernel_rfl) (fun _ _ _ h => h) (Or.inl ⟨by rfl, ?ya5⟩) hHeld ?ra5
        case ya5 => (intro w hSw; (try dsimp only at hSw); go_simp; all_goals (with_reducible rfl))
        simp only [List.set_cons_succ, List.set_cons_zero]
        refine Nt.takeS (v := ?va6) 6 49 rfl rfl (by kernel_rfl) (by kernel_rfl) (by kernel_rfl) (fun _ _ _ h => h) (Or.inl ⟨by rfl, ?ya6⟩) hHeld ?ra6
        case ya6 => (intro w hSw; (try dsimp only at hSw); go_simp; all_goals (with_reducible rfl))
        simp only [List.set_cons_succ, List.set_cons_zero]
        refine Nt.takeS (v := ?va7) 7 50 rfl rfl (by kernel_rfl) (by kernel_rfl) (by kernel_rfl) (fun _ _ _ h => h) (Or.inl ⟨by rfl, ?ya7⟩) hHeld ?ra7
        case ya7 => (intro w hSw; (try dsimp only at hSw); go_simp; all_goals (with_reducible rfl))
        simp only [List.set_cons_succ, List.set_cons_zero]
        refine Nt.takeS (v := ?va8) 8 51 rfl rfl (by kernel_rfl) (by kernel_rfl) (by kernel_rfl) (fun _ _ _ h => h) (Or.inl ⟨by rfl, ?ya8⟩) hHeld ?ra8
        case ya8 => (intro w hSw; (try dsimp only at hSw); go_simp; all_goals (with_reducible rfl))
        simp only [List.set_cons_succ, List.set_cons_zero]
        refine Nt.takeS (v := ?va9) 9 52 rfl rfl (by kernel_rfl) (by kernel_rfl) (by kernel_rfl) (fun _ _ _ h => h) (Or.inl ⟨by rfl, ?ya9⟩) hHeld ?ra9
        case ya9 => (intro w hSw; (try dsimp only at hSw); go_simp; all_goals (with_reducible rfl))
        simp only [List.set_cons_succ, List.set_cons_zero]
        refine wpAnyH_ready (rs := [10, 11]) (by kernel_rfl) (by simp) ?_
        refine AllReadyH.cons rfl (fun K hK => ?_) (AllReadyH.cons rfl (fun K hK => ?_) AllReadyH.nil)
        · go_simp
          go_at_call 68
          refine Calls.mono (HCH.out _ BY.out.drew) ?_
          rintro e W5 ⟨rfl, H5⟩
          go_wp2_with fail
          refine hK.out _ _ ?_ (fun hTe => ?_)
          · exact CF.out _ H5.out.1
          clear hK K
          first | refine Nt.normS 53 rfl ?_ | skip
          first | (simp only [List.set_cons_succ, List.set_cons_zero]) | skip
          refine wpAnyH_ready (rs := [11]) (by kernel_rfl) (by simp) ?_
          refine AllReadyH.cons rfl (fun K hK => ?_) AllReadyH.nil
          go_simp
          refine hK.out _ _ ?_ (fun hTf => ?_)
          · exact CF.out _ (H5.out.1.alloc H5.out.1.size _)
          clear hK K
          first | refine Nt.normS 10 rfl ?_ | skip
          first | (simp only [List.set_cons_succ, List.set_cons_zero]) | skip
          refine wpAnyH_ready (rs := [12]) (by kernel_rfl) (by simp) ?_
          refine AllReadyH.cons rfl (fun K hK => ?_) AllReadyH.nil
          refine Gm.step_row rfl 119 _ _ rfl (W5.heap.size) #[.int .i64 (cf1 : Nat), .int .i64 fe] rfl rfl 119 #[.int .i64 0, .int .i64 0] (heap_alloc_new W5 _) (by kernel_rfl) rfl (by kernel_rfl) ?_
          refine hK.out _ _ ?_ (fun hTg => ?_)
          · exact CF.out _ (Tk.below_row (H5.out.1.alloc H5.out.1.size _) H5.out.1.size _)
          clear hK K
          refine wpAnyH_done (by kernel_rfl) ?_ _
          go_wp2_with fail
          go_meet
          exact ⟨_, rfl, setRow_heap _ _ _ _ _ _ (heap_alloc_new W5 _), Tk.below_row (H5.out.1.alloc H5.out.1.size _) H5.out.1.size _, H5.out.1.size⟩
        · go_simp
          refine hK.out _ _ ?_ (fun hTe => ?_)
          · exact CF.out _ (BY.out.drew.alloc BY.out.size _)
          clear hK K
          first | refine Nt.normS 10 rfl ?_ | skip
          first | (simp only [List.set_cons_succ, List.set_cons_zero]) | skip
          refine wpAnyH_ready (rs := [10]) (by kernel_rfl) (by simp) ?_
          refine AllReadyH.cons rfl (fun K hK => ?_) AllReadyH.nil
          go_simp
          go_at_call 68
          refine Calls.mono (HCH.out _ (BY.out.drew.alloc BY.out.size _)) ?_
          rintro e W5 ⟨rfl, H5⟩
          go_wp2_with fail
          refine hK.out _ _ ?_ (fun hTf => ?_)
          · exact CF.out _ H5.out.1
          clear hK K
          first | refine Nt.normS 53 rfl ?_ | skip
          first | (simp only [List.set_cons_succ, List.set_cons_zero]) | skip
          have NQ : W5.heap[Y.heap.size]? = some (.cells #[.int .i64 0, .int .i64 0] 119 (0, 0)) := by rw [H5.out.2.block _ (by simp)]; exact heap_alloc_new Y.drew _
          refine wpAnyH_ready (rs := [12]) (by kernel_rfl) (by simp) ?_
          refine AllReadyH.cons rfl (fun K hK => ?_) AllReadyH.nil
          refine Gm.step_row rfl 119 _ _ rfl (Y.heap.size) #[.int .i64 (cf1 : Nat), .int .i64 fe] rfl rfl 119 #[.int .i64 0, .int .i64 0] NQ (by kernel_rfl) rfl (by kernel_rfl) ?_
          refine hK.out _ _ ?_ (fun hTg => ?_)
          · exact CF.out _ (Tk.below_row H5.out.1 BY.out.size _)
          clear hK K
          refine wpAnyH_done (by kernel_rfl) ?_ _
          go_wp2_with fail
          go_meet
          exact ⟨_, rfl, setRow_heap _ _ _ _ _ _ NQ, Tk.below_row H5.out.1 BY.out.size _, BY.out.size⟩
      case rest =>
      rename World => wc
      obtain ⟨q, rfl, HC⟩ := hcut
      have kq0 : wc.cell? ⟨q, 0, none⟩ = some (.int .i64 (cf1 : Nat)) := by have := HC.out.1; simp [World.cell?, this]
      have kq1 : wc.cell? ⟨q, 1, none⟩ = some (.int .i64 fe) := by have := HC.out.1; simp [World.cell?, this]
      by_cases hfe : fe = 0
      · have e2 : (fe != 0) = false := by simpa using hfe
        have HN0 : Hid (Gm.passS ss ⟨i, (cf1 : Nat), 0, 0, 0⟩ l a [cf1] = R) := by
          have h1 := HR2.out
          rw [if_neg (by simpa using hfe)] at h1
          exact h1
        have SQ : Hid (∀ V, Below wc.heap.size wc V → V.cell? ⟨q, 0, none⟩ = some (.int .i64 (cf1 : Nat)) ∧ V.rangeAt b 2 (Gm.ints l)) := fun V hV => by
          refine ⟨?_, HST.out V (HC.out.2.1.trans (hV.mono HC.out.2.1.size))⟩
          rw [hV.cell (p := ⟨q, 0, none⟩) (Gm.blk_lt HC.out.1)]; exact kq0
        have HI1 : Hid (Gm.Ints (wc.drew.alloc (.cells #[.int .i64 (cf1 : Nat)] 3)) (.slice (some ⟨wc.heap.size, 0, none⟩) 1 1) ([cf1].map fun x : Nat => (x : Int)) ∧ Below X.heap.size X (wc.drew.alloc (.cells #[.int .i64 (cf1 : Nat)] 3)) ∧ Below wc.heap.size wc (wc.drew.alloc (.cells #[.int .i64 (cf1 : Nat)] 3))) := by
          have B5 : Below wc.heap.size wc (wc.drew.alloc (.cells #[.int .i64 (cf1 : Nat)] 3)) := (Below.refl _ wc).drew.alloc (Nat.le_refl _) _
          have N5 := heap_alloc_new wc.drew (.cells #[.int .i64 (cf1 : Nat)] 3)
          refine ⟨⟨_, _, rfl, fun k hk => ⟨wc.heap.size, 0, _, _, rfl, N5, ?_⟩⟩, HC.out.2.1.trans (B5.mono HC.out.2.1.size), B5⟩
          have hk0 : k = 0 := by simpa using hk
          subst hk0
          simp only [World.cell?]
          rw [show (wc.drew.alloc (.cells #[.int .i64 (cf1 : Nat)] 3)).heap[wc.heap.size]? = _ from N5]
          rfl
        have HCQ : Hid (∀ W V, Below X.heap.size X W → Gm.D w0 B b an n cn af m cf l R V → Gm.KeepD W V → W.heap[q]? = some (.cells #[.int .i64 (cf1 : Nat), .int .i64 fe] 119 (0, 0)) → V.cell? ⟨q, 0, none⟩ = some (.int .i64 (cf1 : Nat)) ∧ V.rangeAt b 2 (Gm.ints l)) := fun W V hW hD hK hq => by
          obtain ⟨v', hA', -⟩ := hD.game
          refine ⟨?_, hA'.st⟩
          have := (hK q _ _ _ hq (by decide) (by decide)).trans hq
          simp [World.cell?, this]
        clear HR2 HFA HCH CF
        go_upto_region 10 with fail
        refine wp_region_held_drew (S := (fun V => V.cell? ⟨q, 0, none⟩ = some (.int .i64 (cf1 : Nat)) ∧ V.rangeAt b 2 (Gm.ints l))) (by kernel_rfl) ?_ (fun hHeld => ?_)
        · exact SQ.out _ (Below.refl _ wc).drew
        refine Nt.takeS (v := ?vb0) 0 62 rfl rfl (by kernel_rfl) (by kernel_rfl) (by kernel_rfl) (fun _ _ _ h => h) (Or.inl ⟨by rfl, ?yb0⟩) hHeld ?rb0
        case yb0 => (intro w hSw; (try dsimp only at hSw); go_simp; all_goals (with_reducible rfl))
        simp only [List.set_cons_succ, List.set_cons_zero]
        refine Nt.takeS (v := ?vb1) 1 63 rfl rfl (by kernel_rfl) (by kernel_rfl) (by kernel_rfl) (fun _ _ _ h => h) (Or.inl ⟨by rfl, ?yb1⟩) hHeld ?rb1
        case yb1 => (intro w hSw; (try dsimp only at hSw); go_simp; all_goals (with_reducible rfl))
        simp only [List.set_cons_succ, List.set_cons_zero]
        refine Nt.takeS (v := ?vb2) 2 64 rfl rfl (by kernel_rfl) (by kernel_rfl) (by kernel_rfl) (fun _ _ _ h => h) (Or.inl ⟨by rfl, ?yb2⟩) hHeld ?rb2
        case yb2 => (intro w hSw; (try dsimp only at hSw); go_simp; all_goals (with_reducible rfl))
        simp only [List.set_cons_succ, List.set_cons_zero]
        refine Nt.takeS (v := ?vb3) 3 65 rfl rfl (by kernel_rfl) (by kernel_rfl) (by kernel_rfl) (fun _ _ _ h => h) (Or.inl ⟨by rfl, ?yb3⟩) hHeld ?rb3
        case yb3 => (intro w hSw; (try dsimp only at hSw); go_simp; all_goals (with_reducible rfl))
        simp only [List.set_cons_succ, List.set_cons_zero]
        refine Nt.takeS (v := ?vb4) 4 66 rfl rfl (by kernel_rfl) (by kernel_rfl) (by kernel_rfl) (fun _ _ _ h => h) (Or.inl ⟨by rfl, ?yb4⟩) hHeld ?rb4
        case yb4 => (intro w hSw; (try dsimp only at hSw); go_simp; all_goals (with_reducible rfl))
        simp only [List.set_cons_succ, List.set_cons_zero]
        refine Nt.takeS (v := ?vb5) 5 67 rfl rfl (by kernel_rfl) (by kernel_rfl) (by kernel_rfl) (fun _ _ _ h => h) (Or.inl ⟨by rfl, ?yb5⟩) hHeld ?rb5
        case yb5 => (intro w hSw; (try dsimp only at hSw); go_simp; all_goals (with_reducible rfl))
        simp only [List.set_cons_succ, List.set_cons_zero]
        refine Nt.takeS (v := ?vb6) 6 68 rfl rfl (by kernel_rfl) (by kernel_rfl) (by kernel_rfl) (fun _ _ _ h => h) (Or.inl ⟨by rfl, ?yb6⟩) hHeld ?rb6
        case yb6 => (intro w hSw; (try dsimp only at hSw); go_simp; all_goals (with_reducible rfl))
        simp only [List.set_cons_succ, List.set_cons_zero]
        refine Nt.takeS 7 69 rfl rfl (by kernel_rfl) (by kernel_rfl) (by kernel_rfl) (fun _ _ _ h => h) (yieldsIf_load_mid (by rfl) _ _ rfl _ _ rfl (Gm.ints l) _ (fun _ hw => hw.2) hu rfl hi5) hHeld ?_
        simp only [List.set_cons_succ, List.set_cons_zero]
        refine Nt.takeS 8 70 rfl rfl (by kernel_rfl) (by kernel_rfl) (by kernel_rfl) (fun _ _ _ h => h) (Gm.yields_build (by rfl) 61 _ rfl (Gm.stC ⟨i, (cf1 : Nat), 0, 0, 0⟩ l).toArray (Eq.trans (congrArg (Tryz.prog.built 61) (by kernel_rfl)) hbt)) hHeld ?_
        simp only [List.set_cons_succ, List.set_cons_zero]
        refine Nt.takeS (v := ?vb9) 9 71 rfl rfl (by kernel_rfl) (by kernel_rfl) (by kernel_rfl) (fun _ _ _ h => h) (Or.inl ⟨by rfl, ?yb9⟩) hHeld ?rb9
        case yb9 => (intro w hSw; (try dsimp only at hSw); go_simp; all_goals (with_reducible rfl))
        simp only [List.set_cons_succ, List.set_cons_zero]
        refine Nt.takeS (v := ?vb10) 10 72 rfl rfl (by kernel_rfl) (by kernel_rfl) (by kernel_rfl) (fun _ _ _ h => h) (Or.inl ⟨by rfl, ?yb10⟩) hHeld ?rb10
        case yb10 => (intro w hSw; (try dsimp only at hSw); go_simp; all_goals (with_reducible rfl))
        simp only [List.set_cons_succ, List.set_cons_zero]
        refine Nt.takeS (v := ?vb11) 11 73 rfl rfl (by kernel_rfl) (by kernel_rfl) (by kernel_rfl) (fun _ _ _ h => h) (Or.inl ⟨by rfl, ?yb11⟩) hHeld ?rb11
        case yb11 => (intro w hSw; (try dsimp only at hSw); go_simp; all_goals (with_reducible rfl))
        simp only [List.set_cons_succ, List.set_cons_zero]
        refine wpAnyH_ready (rs := [12]) (by kernel_rfl) (by simp) ?_
        refine AllReadyH.cons rfl (fun K hK => ?_) AllReadyH.nil
        go_simp
        refine hK.out _ _ ?_ (fun hTe => ?_)
        · exact SQ.out _ HI1.out.2.2
        clear hK K
        first | refine Nt.normS 74 rfl ?_ | skip
        first | (simp only [List.set_cons_succ, List.set_cons_zero]) | skip
        refine wpAnyH_ready (rs := [13]) (by kernel_rfl) (by simp) ?_
        refine AllReadyH.cons rfl (fun K hK => ?_) AllReadyH.nil
        go_simp
        go_at_call 29
        refine Calls.mono (HCA.out _ HI1.out.2.1 _ HI1.out.1) ?_
        rintro e W6 ⟨rfl, g6, k6⟩
        rw [HN0.out] at g6
        go_wp2_with fail
        refine hK.out _ _ ?_ (fun hTf => ?_)
        · exact HCQ.out _ W6 HI1.out.2.1 g6 k6 (by rw [HI1.out.2.2.block _ (Gm.blk_lt HC.out.1)]; exact HC.out.1)
        clear hK K
        first | refine Nt.normS 75 rfl ?_ | skip
        first | (simp only [List.set_cons_succ, List.set_cons_zero]) | skip
        refine wpAnyH_done (by kernel_rfl) ?_ _
        have HN : Hid (Gm.D w0 B b an n cn af m cf l R W6 ∧ Gm.KeepD X W6) := ⟨g6, (Gm.KeepD.below HI1.out.2.1).trans k6⟩
        clear g6 k6
        go_wp2
        go_end0
        exact ⟨rfl, HN.out⟩
      · have e2 : (fe != 0) = true := by simpa using hfe
        have HFC : Hid _ := HFA.out wc HC.out.2.1
        have HE : Hid (ss ++ Gm.fault l i fe = R) := by
          have h1 := HR2.out
          rw [if_pos hfe] at h1
          exact h1
        rw [HE.out] at HFC
        clear HR2 HFA hfe HE HCA HST
        go_wp2_with fail
        refine Calls.mono HFC.out ?_
        rintro e W4 ⟨rfl, g4, k4⟩
        have HN : Hid (Gm.D w0 B b an n cn af m cf l R W4 ∧ Gm.KeepD X W4) := ⟨g4, (Gm.KeepD.below HC.out.2.1).trans k4⟩
        clear g4 k4 HFC
        go_wp2
        exact bodyPost_ret (results_none Tryz.results45 _ _ _) rfl ⟨rfl, HN.out⟩
end Go.Proofs
