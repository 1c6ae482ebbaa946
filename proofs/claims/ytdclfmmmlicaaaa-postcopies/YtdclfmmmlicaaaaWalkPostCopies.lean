/-
  The walk of PostCopies.
-/
import Derived.Test.YtdclfmmmlicaaaaPsOne
import Derived.Test.YtdclfmmmlicaaaaPsDoes
import Derived.Test.YtdclfmmmlicaaaaPsSteps
import Derived.Test.YtdclfmmmlicaaaaPsArg
namespace Go.Proofs.Ytdclfmmmlicaaaa.PostCopies
open Go.RowKit Go.Shelf Go.Maps

/-- All steps, one behind the other. -/
def run (l : List Ps.Stp) : Ps.Ofc := l.foldl (fun M s => Ps.step M s.1 s.2.1 s.2.2) []
theorem run_snoc (l : List Ps.Stp) (i : Nat) (h : i < l.length) : run (l.take (i + 1)) = Ps.step (run (l.take i)) l[i].1 l[i].2.1 l[i].2.2 := by
  rw [run, Tm.take_snoc _ _ h, List.foldl_append]
  rfl

/-- A pair in blocks of its own. -/
def Pair (B o q : Nat) (M : Ps.Ofc) (F : Nat → Prop) (w : World) : Prop := ∃ E, Ps.Two B E o q M w ∧ (∀ x, E x → B ≤ x ∧ x < w.heap.size) ∧ ∀ x, E x → ¬ F x
theorem Pair.below {B o q : Nat} {M : Ps.Ofc} {F : Nat → Prop} {w w' : World} (h : Pair B o q M F w) (hb : Below w.heap.size w w') : Pair B o q M F w' := by
  obtain ⟨E, h1, h2, h3⟩ := h
  have := hb.size
  exact ⟨E, h1.below hb (Nat.le_refl _), (fun x hx => ⟨(h2 x hx).1, by have := (h2 x hx).2; omega⟩), h3⟩
/-- A step of a pair: what is of F stays. -/
theorem does_pair {B o q : Nat} {M : Ps.Ofc} {F : Nat → Prop} {w : World} (x k m : Int) (hk : (Lit.int .i64 k).wf = true) (hB : B ≤ w.heap.size) (hF : ∀ x, F x → x < w.heap.size) (h : Pair B o q M F w) :
    Calls Try.prog 10 #[.pointer (some ⟨o, 0, none⟩), .pointer (some ⟨q, 0, none⟩), .agg #[.int .i64 x, .int .i64 k, .int .i64 m]] w fun e w' => e = .returned (.bool true) ∧ Pair B o q (Ps.step M x k m) F w' ∧ Below B w w' ∧ ∀ x, F x → w'.heap[x]? = w.heap[x]? := by
  obtain ⟨E, h1, h2, h3⟩ := h
  refine (Try.does_any B E o q M x k m hk w hB h1).mono ?_
  rintro e w' ⟨rfl, E', hE', tw, hbut⟩
  obtain ⟨t1, t2, t3⟩ := Ps.own_step h2 hB hE' tw
  exact ⟨rfl, ⟨_, t1, t2, t3 F hF h3⟩, hbut.below hB (fun y hy he => by have := (h2 y he).1; omega), fun y hy => hbut.block y (hF y hy) (fun he => h3 y he hy)⟩
/-- The blocks of an office. -/
def Blk (o : Nat) (pm : Option Nat) (x : Nat) : Prop := x = o ∨ pm = some x
theorem Blk.lt {o : Nat} {pm : Option Nat} {M : Ps.Ofc} {w : World} (h : Ps.At o pm M w) : ∀ x, Blk o pm x → x < w.heap.size := by
  rintro x (rfl | rfl)
  · exact h.lt
  · exact h.mlt

set_option maxRecDepth 20000 in
set_option maxHeartbeats 16000000 in
theorem walk (a1 : Option Addr) (c1 : Nat) (l : List Ps.Stp) (a2 : Option Addr) (c2 : Nat) (r : List Ps.Stp) (key : Int) (hk : (Lit.int .i64 key).wf = true) (W : World) (hS : Ps.Sts W W.heap.size a1 l) (hR : Ps.Sts W W.heap.size a2 r) :
    Calls Try.prog 6 #[.slice a1 l.length c1, .slice a2 r.length c2, .int .i64 key] W fun e w' => e = .returned (.bool true) ∧ Below W.heap.size W w' := by
  obtain ⟨n, hn⟩ : ∃ n, l.length = n := ⟨_, rfl⟩
  obtain ⟨nr, hnr⟩ : ∃ n, r.length = n := ⟨_, rfl⟩
  obtain ⟨B, hB⟩ : ∃ B, W.heap.size = B := ⟨_, rfl⟩
  have HE : Hid (Ps.Sts W W.heap.size a1 l ∧ l.length = n ∧ W.heap.size = B ∧ Ps.Sts W W.heap.size a2 r ∧ r.length = nr) := ⟨hS, hn, hB, hR, hnr⟩
  rw [hn, hnr, hB]
  have C0 := Try.pNew_any W
  rw [hB] at C0
  have HC0 : Hid _ := C0
  clear hS hn hB C0 hR hnr
  go_enter Try.func6, Try.ntmps6
  go_wp2_with fail
  refine Calls.mono HC0.out ?_
  rintro e W1 ⟨rfl, hA, hb⟩
  have s1 := hA.lt
  have H1 : Hid (Ps.At B none [] W1 ∧ Below B W W1 ∧ B < W1.heap.size) := ⟨hA, hb, s1⟩
  clear hA hb s1 HC0
  have early : Hid (∀ V : World, Below B W V → Calls Try.prog 9 #[] V fun e w' => e = .returned (.bool true) ∧ Below B W w') := fun V hV => (Try.one_any V).mono fun e w' ⟨he, hb⟩ => ⟨he, hV.trans (hb.mono (by have := hV.size; have := HE.out.2.2.1; omega))⟩
  by_cases h100 : 100 < n
  · have d1 : decide (100 < (n : Int)) = true := decide_eq_true (by omega)
    have d1' : decide (100 < n) = true := decide_eq_true h100
    clear h100
    go_wp2_with fail
    refine Calls.mono (early.out W1 H1.out.2.1) ?_
    rintro e W8 ⟨rfl, hb⟩
    have H8 : Hid (Below B W W8) := hb
    clear hb
    go_wp2
    go_ret
    exact ⟨rfl, H8.out⟩
  have d1 : decide (100 < (n : Int)) = false := decide_eq_false (by omega)
  have d1' : decide (100 < n) = false := decide_eq_false h100
  by_cases h100' : 100 < nr
  · have d2 : decide (100 < (nr : Int)) = true := decide_eq_true (by omega)
    have d2' : decide (100 < nr) = true := decide_eq_true h100'
    clear h100'
    go_wp2_with fail
    refine Calls.mono (early.out W1 H1.out.2.1) ?_
    rintro e W8 ⟨rfl, hb⟩
    have H8 : Hid (Below B W W8) := hb
    clear hb
    go_wp2
    go_ret
    exact ⟨rfl, H8.out⟩
  have d2 : decide (100 < (nr : Int)) = false := decide_eq_false (by omega)
  have d2' : decide (100 < nr) = false := decide_eq_false h100'
  obtain ⟨q, hq⟩ : ∃ q, W1.heap.size = q := ⟨_, rfl⟩
  obtain ⟨W2, hW2⟩ : ∃ x, W1.alloc (.cells #[.slice none 0 0] 29) = x := ⟨_, rfl⟩
  have b2 : Below B W W2 := by
    rw [← hW2]
    exact H1.out.2.1.alloc (by have := H1.out.2.2; omega) _
  have pr : Pair B B q (run (l.take 0)) (fun _ => False) W2 := by
    have e1 : W2.heap[q]? = some (.cells #[.slice none 0 0] 29 (0, 0)) := by rw [← hW2, ← hq]; exact heap_alloc_new _ _
    have aB : Ps.At B none [] W2 := by rw [← hW2]; exact H1.out.1.alloc _
    have s2 : W2.heap.size = q + 1 := by rw [← hW2, ← hq]; simp
    have := H1.out.2.2
    exact ⟨_, Ps.two_new aB e1, (by rintro x (rfl | rfl) <;> omega), fun x _ h => h⟩
  have H2 : Hid (Below B W W2 ∧ Pair B B q (run (l.take 0)) (fun _ => False) W2) := ⟨b2, pr⟩
  have HW2 : Hid (W1.alloc (.cells #[.slice none 0 0] 29) = W2 ∧ W1.heap.size = q) := ⟨hW2, hq⟩
  clear hW2 hq b2 pr H1
  go_wp2
  rw [HW2.out.1, HW2.out.2]
  clear HW2
  go_loopg [44] n (fun gk s wr => ∃ i : Nat, gk + i = n ∧ s = .int .i64 i ∧ Hid (Below B W wr ∧ Pair B B q (run (l.take i)) (fun _ => False) wr))
  case atStart => exact ⟨0, by omega, rfl, H2.out.1, H2.out.2⟩
  case round =>
    obtain ⟨i, hi, rfl, HI⟩ := hrel
    clear H2
    by_cases hlt : i < n
    · have hd : decide ((i : Int) < n) = true := decide_eq_true (by omega)
      have hil : i < l.length := by rw [HE.out.2.1]; exact hlt
      obtain ⟨g, off, rfl, hg, k0, k1, k2, kw⟩ := HE.out.1 i hil
      have hrun := run_snoc l i hil
      obtain ⟨⟨x, k, m⟩, hx⟩ : ∃ x, l[i] = x := ⟨_, rfl⟩
      rw [hx] at k0 k1 k2 kw hrun
      simp only at k0 k1 k2 kw hrun
      have hc : ∀ o, wr.cell? ⟨g, o, none⟩ = W.cell? ⟨g, o, none⟩ := fun o => HI.out.1.cell (p := ⟨g, o, none⟩) (by show g < B; have := HE.out.2.2.1; omega)
      rw [← hc] at k0 k1 k2
      have sB : B ≤ wr.heap.size := by have := HI.out.1.size; have := HE.out.2.2.1; omega
      have b0 : Below wr.heap.size wr (wr.alloc (.cells #[.int .i64 x, .int .i64 k, .int .i64 m] 31)) := (Below.refl _ _).alloc (Nat.le_refl _) _
      have C1 : Hid _ := does_pair (F := (fun _ => False)) x k m kw (by have := b0.size; omega) (fun x hx => by have := b0.size; have : x < wr.heap.size := False.elim hx; omega) (HI.out.2.below b0)
      have HB : Hid (Below B W (wr.alloc (.cells #[.int .i64 x, .int .i64 k, .int .i64 m] 31)) ∧ Below wr.heap.size wr (wr.alloc (.cells #[.int .i64 x, .int .i64 k, .int .i64 m] 31))) := ⟨HI.out.1.trans (b0.mono sB), b0⟩
      clear hc hx sB b0 kw
      go_wp2_with fail
      refine Calls.mono C1.out ?_
      rintro e V1 ⟨rfl, hp, hbut, hk1⟩
      have bV1 : Below B W V1 := HB.out.1.trans hbut
      have hkeep : ∀ x, (fun _ => False) x → V1.heap[x]? = wr.heap[x]? := fun x hx => (hk1 x hx).trans (HB.out.2.block x (False.elim hx))
      clear C1 hbut hk1
      rw [← hrun] at hp
      have fin : Hid (Below B W V1 ∧ Pair B B q (run (l.take (i + 1))) (fun _ => False) V1) := ⟨bV1, hp⟩
      clear hp bV1 hkeep hrun
      go_wp2
      go_roundg (gk - 1)
      case measure => omega
      case rel => exact ⟨i + 1, by omega, by go_num, fin.out⟩
    · have hd : decide ((i : Int) < n) = false := decide_eq_false (by omega)
      have hall : l.take i = l := List.take_of_length_le (by rw [HE.out.2.1]; omega)
      obtain ⟨hbr, hpr⟩ := HI.out
      rw [hall] at hpr
      obtain ⟨M1, hM1⟩ : ∃ y, run l = y := ⟨_, rfl⟩
      rw [hM1] at hpr
      obtain ⟨E, tw, e1, e2⟩ := hpr
      obtain ⟨hok, pm, v, h1, h2⟩ := tw
      have HP : Hid (Below B W wr ∧ Ps.Two B E B q M1 wr ∧ (∀ x, E x → B ≤ x ∧ x < wr.heap.size) ∧ Ps.At B pm M1 wr ∧ Ps.Ok M1 ∧ run l = M1 ∧ B ≤ wr.heap.size) := ⟨hbr, ⟨hok, pm, v, h1, h2⟩, e1, h1, hok, hM1, by have := hbr.size; have := HE.out.2.2.1; omega⟩
      clear hbr hM1 e1 e2 hok h1 h2 hall HI
      go_wp2_with fail
      refine Calls.mono (Try.pCopy_any B pm M1 wr HP.out.2.2.2.1) ?_
      rintro e V0 ⟨qc, pmc, rfl, hAc, hqc, hpc, hb0⟩
      have inv0 : Hid (Below B W V0 ∧ Ps.At qc pmc M1 V0 ∧ ∃ M, Pair B B q M (Blk qc pmc) V0) := ⟨HP.out.1.trans (hb0.mono HP.out.2.2.2.2.2.2), hAc, M1, E, HP.out.2.1.below hb0 (Nat.le_refl _), (fun x hx => ⟨(HP.out.2.2.1 x hx).1, Nat.lt_of_lt_of_le (HP.out.2.2.1 x hx).2 hb0.size⟩), (by
        rintro x hx (h | h)
        · have := (HP.out.2.2.1 x hx).2
          omega
        · have := (HP.out.2.2.1 x hx).2
          have := hpc x h
          omega)⟩
      have HM : Hid (run l = M1 ∧ Ps.Ok M1) := ⟨HP.out.2.2.2.2.2.1, HP.out.2.2.2.2.1⟩
      clear hAc hqc hpc hb0 HP
      go_wp2
      go_loopg [57] nr (fun gk s wr => ∃ i : Nat, gk + i = nr ∧ s = .int .i64 i ∧ Hid (Below B W wr ∧ Ps.At qc pmc M1 wr ∧ ∃ M, Pair B B q M (Blk qc pmc) wr))
      case atStart => exact ⟨0, by omega, rfl, inv0.out⟩
      case round =>
        obtain ⟨i, hi, rfl, HI⟩ := hrel
        clear inv0
        by_cases hlt : i < nr
        · have hd : decide ((i : Int) < nr) = true := decide_eq_true (by omega)
          have hil : i < r.length := by rw [HE.out.2.2.2.2]; exact hlt
          obtain ⟨g, off, rfl, hg, k0, k1, k2, kw⟩ := HE.out.2.2.2.1 i hil
          obtain ⟨_, hAc, M, hpM⟩ := HI.out
          have hltF := Blk.lt hAc
          obtain ⟨⟨x, k, m⟩, hx⟩ : ∃ x, r[i] = x := ⟨_, rfl⟩
          rw [hx] at k0 k1 k2 kw
          simp only at k0 k1 k2 kw
          have hc : ∀ o, wr.cell? ⟨g, o, none⟩ = W.cell? ⟨g, o, none⟩ := fun o => HI.out.1.cell (p := ⟨g, o, none⟩) (by show g < B; have := HE.out.2.2.1; omega)
          rw [← hc] at k0 k1 k2
          have sB : B ≤ wr.heap.size := by have := HI.out.1.size; have := HE.out.2.2.1; omega
          have b0 : Below wr.heap.size wr (wr.alloc (.cells #[.int .i64 x, .int .i64 k, .int .i64 m] 31)) := (Below.refl _ _).alloc (Nat.le_refl _) _
          have C1 : Hid _ := does_pair (F := (Blk qc pmc)) x k m kw (by have := b0.size; omega) (fun x hx => by have := b0.size; have : x < wr.heap.size := hltF x hx; omega) (hpM.below b0)
          have HB : Hid (Below B W (wr.alloc (.cells #[.int .i64 x, .int .i64 k, .int .i64 m] 31)) ∧ Below wr.heap.size wr (wr.alloc (.cells #[.int .i64 x, .int .i64 k, .int .i64 m] 31))) := ⟨HI.out.1.trans (b0.mono sB), b0⟩
          clear hc hx sB b0 kw
          go_wp2_with fail
          refine Calls.mono C1.out ?_
          rintro e V1 ⟨rfl, hp, hbut, hk1⟩
          have bV1 : Below B W V1 := HB.out.1.trans hbut
          have hkeep : ∀ x, (Blk qc pmc) x → V1.heap[x]? = wr.heap[x]? := fun x hx => (hk1 x hx).trans (HB.out.2.block x (hltF x hx))
          clear C1 hbut hk1
          have fin : Hid (Below B W V1 ∧ Ps.At qc pmc M1 V1 ∧ ∃ M, Pair B B q M (Blk qc pmc) V1) := ⟨bV1, hAc.keep (hkeep qc (.inl rfl)) (fun b e => hkeep b (.inr e)), _, hp⟩
          clear hp bV1 hkeep hAc hltF hpM
          go_wp2
          go_roundg (gk - 1)
          case measure => omega
          case rel => exact ⟨i + 1, by omega, by go_num, fin.out⟩
        · have hd : decide ((i : Int) < nr) = false := decide_eq_false (by omega)
          have HP : Hid (Below B W wr ∧ Ps.At qc pmc M1 wr ∧ B ≤ wr.heap.size) := ⟨HI.out.1, HI.out.2.1, by have := HI.out.1.size; have := HE.out.2.2.1; omega⟩
          obtain ⟨q2, hq2⟩ : ∃ q, wr.heap.size = q := ⟨_, rfl⟩
          obtain ⟨Y1, hY1⟩ : ∃ x, wr.alloc (.cells #[.slice none 0 0] 29) = x := ⟨_, rfl⟩
          have HY1 : Hid (wr.alloc (.cells #[.slice none 0 0] 29) = Y1 ∧ wr.heap.size = q2) := ⟨hY1, hq2⟩
          have bY : Below wr.heap.size wr Y1 := by rw [← hY1]; exact (Below.refl _ _).alloc (Nat.le_refl _) _
          have eY : Y1.heap[q2]? = some (.cells #[.slice none 0 0] 29 (0, 0)) := by rw [← hY1, ← hq2]; exact heap_alloc_new _ _
          have sY : Y1.heap.size = q2 + 1 := by rw [← hY1, ← hq2]; simp
          have KY : Hid (Below wr.heap.size wr Y1 ∧ Y1.heap[q2]? = some (.cells #[.slice none 0 0] 29 (0, 0)) ∧ Y1.heap.size = q2 + 1) := ⟨bY, eY, sY⟩
          clear HI hq2 hY1 bY eY sY
          go_wp2_with fail
          rw [HY1.out.1, HY1.out.2]
          refine Calls.mono (Try.pNew_any Y1) ?_
          rintro e Y2 ⟨rfl, hA2, hb2⟩
          obtain ⟨o2, ho2⟩ : ∃ o, Y1.heap.size = o := ⟨_, rfl⟩
          rw [ho2] at hA2 ⊢
          have inv1 : Hid (Below B W Y2 ∧ Ps.At qc pmc M1 Y2 ∧ Pair B o2 q2 (run (l.take 0)) (Blk qc pmc) Y2) := by
            have bw : Below wr.heap.size wr Y2 := KY.out.1.trans (hb2.mono KY.out.1.size)
            have hs := HP.out.2.2
            have hw := HY1.out.2
            have hltF := Blk.lt HP.out.2.1
            have sY := KY.out.2.2
            have a2 := hA2.lt
            refine ⟨HP.out.1.trans (bw.mono hs), HP.out.2.1.below bw (Nat.le_refl _), _, Ps.two_new hA2 ((hb2.block q2 (by omega)).trans KY.out.2.1), ?_, ?_⟩
            · rintro x (rfl | rfl) <;> omega
            · rintro x (rfl | rfl) hx
              · have := hltF _ hx
                omega
              · have := hltF _ hx
                omega
          clear hA2 hb2 KY HY1 HP ho2
          go_wp2
          go_loopg [71] n (fun gk s wr => ∃ i : Nat, gk + i = n ∧ s = .int .i64 i ∧ Hid (Below B W wr ∧ Ps.At qc pmc M1 wr ∧ Pair B o2 q2 (run (l.take i)) (Blk qc pmc) wr))
          case atStart => exact ⟨0, by omega, rfl, inv1.out⟩
          case round =>
            obtain ⟨i, hi, rfl, HI⟩ := hrel
            clear inv1
            by_cases hlt : i < n
            · have hd : decide ((i : Int) < n) = true := decide_eq_true (by omega)
              have hil : i < l.length := by rw [HE.out.2.1]; exact hlt
              obtain ⟨g, off, rfl, hg, k0, k1, k2, kw⟩ := HE.out.1 i hil
              have hrun := run_snoc l i hil
              obtain ⟨_, hAc, hpM⟩ := HI.out
              have hltF := Blk.lt hAc
              obtain ⟨⟨x, k, m⟩, hx⟩ : ∃ x, l[i] = x := ⟨_, rfl⟩
              rw [hx] at k0 k1 k2 kw hrun
              simp only at k0 k1 k2 kw hrun
              have hc : ∀ o, wr.cell? ⟨g, o, none⟩ = W.cell? ⟨g, o, none⟩ := fun o => HI.out.1.cell (p := ⟨g, o, none⟩) (by show g < B; have := HE.out.2.2.1; omega)
              rw [← hc] at k0 k1 k2
              have sB : B ≤ wr.heap.size := by have := HI.out.1.size; have := HE.out.2.2.1; omega
              have b0 : Below wr.heap.size wr (wr.alloc (.cells #[.int .i64 x, .int .i64 k, .int .i64 m] 31)) := (Below.refl _ _).alloc (Nat.le_refl _) _
              have C1 : Hid _ := does_pair (F := (Blk qc pmc)) x k m kw (by have := b0.size; omega) (fun x hx => by have := b0.size; have : x < wr.heap.size := hltF x hx; omega) (hpM.below b0)
              have HB : Hid (Below B W (wr.alloc (.cells #[.int .i64 x, .int .i64 k, .int .i64 m] 31)) ∧ Below wr.heap.size wr (wr.alloc (.cells #[.int .i64 x, .int .i64 k, .int .i64 m] 31))) := ⟨HI.out.1.trans (b0.mono sB), b0⟩
              clear hc hx sB b0 kw
              go_wp2_with fail
              refine Calls.mono C1.out ?_
              rintro e V1 ⟨rfl, hp, hbut, hk1⟩
              have bV1 : Below B W V1 := HB.out.1.trans hbut
              have hkeep : ∀ x, (Blk qc pmc) x → V1.heap[x]? = wr.heap[x]? := fun x hx => (hk1 x hx).trans (HB.out.2.block x (hltF x hx))
              clear C1 hbut hk1
              rw [← hrun] at hp
              have fin : Hid (Below B W V1 ∧ Ps.At qc pmc M1 V1 ∧ Pair B o2 q2 (run (l.take (i + 1))) (Blk qc pmc) V1) := ⟨bV1, hAc.keep (hkeep qc (.inl rfl)) (fun b e => hkeep b (.inr e)), hp⟩
              clear hp bV1 hkeep hAc hltF hpM hrun
              go_wp2
              go_roundg (gk - 1)
              case measure => omega
              case rel => exact ⟨i + 1, by omega, by go_num, fin.out⟩
            · have hd : decide ((i : Int) < n) = false := decide_eq_false (by omega)
              have hall : l.take i = l := List.take_of_length_le (by rw [HE.out.2.1]; omega)
              obtain ⟨hbr, hAc, E, tw, e1, e2⟩ := HI.out
              rw [hall, HM.out.1] at tw
              obtain ⟨hok, pm2, v2, h1, h2⟩ := tw
              have HP : Hid (Below B W wr ∧ Ps.At qc pmc M1 wr ∧ Ps.At o2 pm2 M1 wr ∧ B ≤ wr.heap.size) := ⟨hbr, hAc, h1, by have := hbr.size; have := HE.out.2.2.1; omega⟩
              clear hbr hAc e1 e2 hok h1 h2 hall HI
              obtain ⟨⟨ba, bb, bc, bd⟩, hgt⟩ : ∃ y, Ps.get M1 key = y := ⟨_, rfl⟩
              obtain ⟨th, hth⟩ : ∃ y, Ps.has M1 key = y := ⟨_, rfl⟩
              have CW : Hid (∀ (o : Nat) (pm : Option Nat) (V : World), Ps.At o pm M1 V → Calls Try.prog 11 #[.pointer (some ⟨o, 0, none⟩), .int .i64 key] V fun e w' => e = .returned (.tuple #[.agg #[.int .i64 ba, .int .i64 bb, .int .i64 bc, .int .i64 bd], .bool th]) ∧ Below V.heap.size V w') := fun o pm V h => by
                have := Try.pWaiting_any o pm M1 key hk V h
                rw [hgt, hth] at this
                exact this
              clear hgt hth
              go_wp2_with fail
              refine Calls.mono (CW.out qc pmc wr HP.out.2.1) ?_
              rintro e U1 ⟨rfl, hb1⟩
              obtain ⟨U2, hU2⟩ : ∃ y, U1.alloc (.cells #[.int .i64 ba, .int .i64 bb, .int .i64 bc, .int .i64 bd] 33) = y := ⟨_, rfl⟩
              obtain ⟨p1, hp1⟩ : ∃ y, U1.heap.size = y := ⟨_, rfl⟩
              have b2 : Below wr.heap.size wr U2 := by rw [← hU2]; exact hb1.alloc hb1.size _
              have k1 : U2.heap[p1]? = some (.cells #[.int .i64 ba, .int .i64 bb, .int .i64 bc, .int .i64 bd] 33 (0, 0)) := by rw [← hU2, ← hp1]; exact heap_alloc_new _ _
              have HU2 : Hid (U1.alloc (.cells #[.int .i64 ba, .int .i64 bb, .int .i64 bc, .int .i64 bd] 33) = U2 ∧ U1.heap.size = p1) := ⟨hU2, hp1⟩
              have K1 : Hid (U2.heap[p1]? = some (.cells #[.int .i64 ba, .int .i64 bb, .int .i64 bc, .int .i64 bd] 33 (0, 0)) ∧ Below wr.heap.size wr U2 ∧ p1 < U2.heap.size) := ⟨k1, b2, (Array.getElem?_eq_some_iff.1 k1).1⟩
              clear hb1 hU2 hp1 b2 k1
              go_wp2_with fail
              rw [HU2.out.1, HU2.out.2]
              refine Calls.mono (CW.out o2 pm2 U2 (HP.out.2.2.1.below K1.out.2.1 (Nat.le_refl _))) ?_
              rintro e U3 ⟨rfl, hb3⟩
              obtain ⟨U4, hU4⟩ : ∃ y, U3.alloc (.cells #[.int .i64 ba, .int .i64 bb, .int .i64 bc, .int .i64 bd] 33) = y := ⟨_, rfl⟩
              have b4 : Below U2.heap.size U2 U4 := by rw [← hU4]; exact hb3.alloc hb3.size _
              have k4 : U4.heap[U3.heap.size]? = some (.cells #[.int .i64 ba, .int .i64 bb, .int .i64 bc, .int .i64 bd] 33 (0, 0)) := by rw [← hU4]; exact heap_alloc_new _ _
              have k5 := (b4.block p1 K1.out.2.2).trans K1.out.1
              obtain ⟨p2, hp2⟩ : ∃ y, U3.heap.size = y := ⟨_, rfl⟩
              rw [hp2] at k4
              have u0 : U4.cell? ⟨p1, 0, none⟩ = some (.int .i64 ba) := by simp [World.cell?, k5]
              have u1 : U4.cell? ⟨p1, 1, none⟩ = some (.int .i64 bb) := by simp [World.cell?, k5]
              have u2 : U4.cell? ⟨p1, 2, none⟩ = some (.int .i64 bc) := by simp [World.cell?, k5]
              have u3 : U4.cell? ⟨p1, 3, none⟩ = some (.int .i64 bd) := by simp [World.cell?, k5]
              have z0 : U4.cell? ⟨p2, 0, none⟩ = some (.int .i64 ba) := by simp [World.cell?, k4]
              have z1 : U4.cell? ⟨p2, 1, none⟩ = some (.int .i64 bb) := by simp [World.cell?, k4]
              have z2 : U4.cell? ⟨p2, 2, none⟩ = some (.int .i64 bc) := by simp [World.cell?, k4]
              have z3 : U4.cell? ⟨p2, 3, none⟩ = some (.int .i64 bd) := by simp [World.cell?, k4]
              have bU : Below wr.heap.size wr U4 := K1.out.2.1.trans (b4.mono K1.out.2.1.size)
              have H5 : Hid (Below B W U4 ∧ Ps.At qc pmc M1 U4 ∧ Ps.At o2 pm2 M1 U4 ∧ B ≤ U4.heap.size) := ⟨HP.out.1.trans (bU.mono HP.out.2.2.2), HP.out.2.1.below bU (Nat.le_refl _), HP.out.2.2.1.below bU (Nat.le_refl _), Nat.le_trans HP.out.2.2.2 bU.size⟩
              have HU4 : Hid (U3.alloc (.cells #[.int .i64 ba, .int .i64 bb, .int .i64 bc, .int .i64 bd] 33) = U4 ∧ U3.heap.size = p2) := ⟨hU4, hp2⟩
              have hq4 : ∀ W : World, (Op.equalIn 10000 33 (.agg #[.int .i64 ba, .int .i64 bb, .int .i64 bc, .int .i64 bd]) (.agg #[.int .i64 ba, .int .i64 bb, .int .i64 bc, .int .i64 bd])).run Try.prog W = .ok true W := fun W => Ps.arr_eq ba bb bc bd W
              have hg4 := Ps.guard_arr
              clear hb3 hU4 hp2 b4 k4 k5 bU HP K1 CW
              go_upto_region 25 with fail
              rw [HU4.out.1, HU4.out.2]
              go_wp2_with fail
              refine Calls.mono (Try.pKeys_any qc pmc M1 U4 H5.out.2.1 HM.out.2.2) ?_
              rintro e U5 ⟨vk, rfl, hrow, hb5⟩
              obtain ⟨ak, nk, ck, HNK, rfl⟩ := Ps.own_shape' hrow
              have H6 : Hid (Below U4.heap.size U4 U5 ∧ Ps.Nums U5 U5.heap.size ak (Ps.keysS M1)) := ⟨hb5, Ps.nums_of_own hrow⟩
              clear hrow hb5 u0 u1 u2 u3 z0 z1 z2 z3
              go_wp2_with fail
              refine Calls.mono (Try.pKeys_any o2 pm2 M1 U5 (H5.out.2.2.1.below H6.out.1 (Nat.le_refl _)) HM.out.2.2) ?_
              rintro e U6 ⟨vk2, rfl, hrow, hb6⟩
              obtain ⟨ak2, nk2, ck2, HNK2, rfl⟩ := Ps.own_shape' hrow
              have CI := Try.pInts_same ak ak2 ck ck2 (Ps.keysS M1) U6 ((H6.out.2.below hb6).wider hb6.size) (Ps.nums_of_own hrow) (by rw [Ps.keysS_length]; have := HM.out.2.2; omega)
              rw [Ps.keysS_length] at CI
              have CI' : Calls Try.prog 15 #[.slice ak nk ck, .slice ak2 nk2 ck2] U6 fun e w' => e = .returned (.bool true) ∧ Below U6.heap.size U6 w' := by
                rw [HNK.out, HNK2.out]
                exact CI
              have HCI : Hid _ := CI'
              have H7 : Hid (Below B W U6 ∧ B ≤ U6.heap.size) := by
                have k := (H5.out.1.trans (H6.out.1.mono H5.out.2.2.2)).trans (hb6.mono (Nat.le_trans H5.out.2.2.2 H6.out.1.size))
                exact ⟨k, by have := k.size; have := HE.out.2.2.1; omega⟩
              clear hrow hb6 CI CI'
              go_wp2_with fail
              refine Calls.mono HCI.out ?_
              rintro e U7 ⟨rfl, hb7⟩
              have H8 : Hid (Below B W U7) := H7.out.1.trans (hb7.mono H7.out.2)
              clear hb7
              go_wp2_with fail
              refine Calls.mono (early.out U7 H8.out) ?_
              rintro e W8 ⟨rfl, hb⟩
              have H9 : Hid (Below B W W8) := hb
              clear hb
              go_wp2
              go_ret
              exact ⟨rfl, H9.out⟩

end Go.Proofs.Ytdclfmmmlicaaaa.PostCopies
