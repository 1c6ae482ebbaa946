/-
  The walk of PostApart.
-/
import Derived.Test.YtdclfmmmlicaaaaPsOne
import Derived.Test.YtdclfmmmlicaaaaPsDoes
import Derived.Test.YtdclfmmmlicaaaaPsSteps
import Derived.Test.YtdclfmmmlicaaaaPsArg
namespace Go.Proofs.Ytdclfmmmlicaaaa.PostApart
open Go.RowKit Go.Shelf Go.Maps

/-- Both pairs, in blocks of their own, and what is told of the key. -/
def Inv (B o2 q1 q2 : Nat) (key : Int) (w : World) : Prop := ∃ (E1 E2 : Nat → Prop) (M N : Ps.Ofc), Ps.Two B E1 B q1 M w ∧ Ps.Two B E2 o2 q2 N w ∧ (∀ x, E1 x → B ≤ x ∧ x < w.heap.size) ∧ (∀ x, E2 x → B ≤ x ∧ x < w.heap.size) ∧ (∀ x, E1 x → ¬ E2 x) ∧ Ps.has M key = Ps.has N key ∧ Ps.get M key = Ps.get N key ∧ Ps.Only N key
theorem Inv.below {B o2 q1 q2 : Nat} {key : Int} {w w' : World} (h : Inv B o2 q1 q2 key w) (hb : Below w.heap.size w w') : Inv B o2 q1 q2 key w' := by
  obtain ⟨E1, E2, M, N, h1, h2, h3, h4, h5⟩ := h
  have := hb.size
  exact ⟨E1, E2, M, N, h1.below hb (Nat.le_refl _), h2.below hb (Nat.le_refl _), (fun x hx => ⟨(h3 x hx).1, by have := (h3 x hx).2; omega⟩), (fun x hx => ⟨(h4 x hx).1, by have := (h4 x hx).2; omega⟩), h5⟩

set_option maxRecDepth 20000 in
set_option maxHeartbeats 8000000 in
theorem walk (a : Option Addr) (c : Nat) (l : List Ps.Stp) (key : Int) (hk : (Lit.int .i64 key).wf = true) (W : World) (hS : Ps.Sts W W.heap.size a l) : Calls Try.prog 4 #[.slice a l.length c, .int .i64 key] W fun e w' => e = .returned (.bool true) ∧ Below W.heap.size W w' := by
  obtain ⟨n, hn⟩ : ∃ n, l.length = n := ⟨_, rfl⟩
  obtain ⟨B, hB⟩ : ∃ B, W.heap.size = B := ⟨_, rfl⟩
  have HE : Hid (Ps.Sts W W.heap.size a l ∧ l.length = n ∧ W.heap.size = B) := ⟨hS, hn, hB⟩
  rw [hn, hB]
  have C0 := Try.pNew_any W
  rw [hB] at C0
  have HC0 : Hid _ := C0
  clear hS hn hB C0
  go_enter Try.func4, Try.ntmps4
  go_wp2_with fail
  refine Calls.mono HC0.out ?_
  rintro e W1 ⟨rfl, hA, hb⟩
  have s1 := hA.lt
  have H1 : Hid (Ps.At B none [] W1 ∧ Below B W W1 ∧ B < W1.heap.size) := ⟨hA, hb, s1⟩
  clear hA hb s1 HC0
  go_wp2_with fail
  refine Calls.mono (Try.pNew_any W1) ?_
  rintro e W2 ⟨rfl, hA, hb⟩
  obtain ⟨o2, ho2⟩ : ∃ o2, W1.heap.size = o2 := ⟨_, rfl⟩
  rw [ho2] at hA
  have s2 := hA.lt
  have H2 : Hid (Ps.At o2 none [] W2 ∧ Ps.At B none [] W2 ∧ Below B W W2 ∧ B < o2 ∧ o2 < W2.heap.size ∧ W1.heap.size = o2) := ⟨hA, H1.out.1.below hb (Nat.le_refl _), H1.out.2.1.trans (hb.mono (by have := H1.out.2.2; omega)), by have := H1.out.2.2; omega, s2, ho2⟩
  rw [ho2]
  clear hA hb s2 ho2 H1
  by_cases h200 : 200 < n
  · have d1 : decide (200 < (n : Int)) = true := decide_eq_true (by omega)
    have d1' : decide (200 < n) = true := decide_eq_true h200
    clear h200
    go_wp2_with fail
    refine Calls.mono (Try.one_any _) ?_
    rintro e W8 ⟨rfl, hb⟩
    have H8 : Hid (Below B W W8) := H2.out.2.2.1.trans (hb.mono (by have := H2.out.2.2.2; omega))
    clear hb
    go_wp2
    go_ret
    exact ⟨rfl, H8.out⟩
  · have d1 : decide (200 < (n : Int)) = false := decide_eq_false (by omega)
    have d1' : decide (200 < n) = false := decide_eq_false h200
    obtain ⟨q1, hq1⟩ : ∃ q, W2.heap.size = q := ⟨_, rfl⟩
    obtain ⟨W3, hW3⟩ : ∃ x, (W2.alloc (.cells #[.slice none 0 0] 29)).alloc (.cells #[.slice none 0 0] 29) = x := ⟨_, rfl⟩
    have H3 : Hid ((W2.alloc (.cells #[.slice none 0 0] 29)).alloc (.cells #[.slice none 0 0] 29) = W3 ∧ W2.heap.size = q1) := ⟨hW3, hq1⟩
    have b3 : Below B W W3 := by
      rw [← hW3]
      exact (H2.out.2.2.1.alloc (by have := H2.out.2.2.2; omega) _).alloc (by have := H2.out.2.2.2; simp; omega) _
    have inv : Inv B o2 q1 (q1 + 1) key W3 := by
      have s3 : W3.heap.size = q1 + 2 := by rw [← hW3, ← hq1]; simp
      have e1 : W3.heap[q1]? = some (.cells #[.slice none 0 0] 29 (0, 0)) := by
        rw [← hW3, ← hq1]
        exact (Below.heap_alloc _ _ _ (by simp)).trans (heap_alloc_new _ _)
      have e2 : W3.heap[q1 + 1]? = some (.cells #[.slice none 0 0] 29 (0, 0)) := by
        have := heap_alloc_new (W2.alloc (.cells #[.slice none 0 0] 29)) (.cells #[.slice none 0 0] 29)
        rw [hW3] at this
        simpa [hq1] using this
      have aB : Ps.At B none [] W3 := by rw [← hW3]; exact (H2.out.2.1.alloc _).alloc _
      have a2 : Ps.At o2 none [] W3 := by rw [← hW3]; exact (H2.out.1.alloc _).alloc _
      have k := H2.out.2.2.2
      refine ⟨_, _, [], [], Ps.two_new aB e1, Ps.two_new a2 e2, ?_, ?_, ?_, rfl, rfl, fun p hp => by cases hp⟩
      · rintro x (rfl | rfl) <;> omega
      · rintro x (rfl | rfl) <;> omega
      · rintro x (rfl | rfl) (e | e) <;> omega
    have H4 : Hid (Below B W W3 ∧ Inv B o2 q1 (q1 + 1) key W3) := ⟨b3, inv⟩
    clear hW3 hq1 b3 inv
    go_wp2
    rw [H3.out.1, H3.out.2]
    obtain ⟨q2, hq2⟩ : ∃ q2, q1 + 1 = q2 := ⟨_, rfl⟩
    rw [hq2] at H4 ⊢
    clear hq2 H3 H2
    go_loopg [43] n (fun gk s wr => ∃ i : Nat, gk + i = n ∧ s = .int .i64 i ∧ Hid (Below B W wr ∧ Inv B o2 q1 q2 key wr))
    case atStart => exact ⟨0, by omega, rfl, H4.out.1, H4.out.2⟩
    case round =>
      obtain ⟨i, hi, rfl, HI⟩ := hrel
      clear H4
      by_cases hlt : i < n
      · have hd : decide ((i : Int) < n) = true := decide_eq_true (by omega)
        have hil : i < l.length := by rw [HE.out.2.1]; exact hlt
        obtain ⟨g, off, rfl, hg, k0, k1, k2, kw⟩ := HE.out.1 i hil
        obtain ⟨⟨x, k, m⟩, hx⟩ : ∃ x, l[i] = x := ⟨_, rfl⟩
        rw [hx] at k0 k1 k2 kw
        simp only at k0 k1 k2 kw
        have hc : ∀ o, wr.cell? ⟨g, o, none⟩ = W.cell? ⟨g, o, none⟩ := fun o => HI.out.1.cell (p := ⟨g, o, none⟩) (by show g < B; have := HE.out.2.2; omega)
        rw [← hc] at k0 k1 k2
        clear hc hx
        obtain ⟨hbr, E1, E2, M, N, t1, t2, e1, e2, ed, hh, hgt, ho⟩ := HI.out
        have sB : B ≤ wr.heap.size := by have := hbr.size; have := HE.out.2.2; omega
        obtain ⟨p, hp⟩ : ∃ y, wr.heap.size = y := ⟨_, rfl⟩
        obtain ⟨w0, hw0⟩ : ∃ y, wr.alloc (.cells #[.int .i64 x, .int .i64 k, .int .i64 m] 31) = y := ⟨_, rfl⟩
        have b0 : Below wr.heap.size wr w0 := by rw [← hw0]; exact (Below.refl _ _).alloc (Nat.le_refl _) _
        have s0 : w0.heap.size = p + 1 := by rw [← hw0, ← hp]; simp
        have hbl : w0.heap[p]? = some (.cells #[.int .i64 x, .int .i64 k, .int .i64 m] 31 (0, 0)) := by rw [← hw0, ← hp]; exact heap_alloc_new _ _
        have t1' := t1.below b0 (Nat.le_refl _)
        have t2' := t2.below b0 (Nat.le_refl _)
        obtain ⟨hok, pm, v, h1, _⟩ := t1'
        have CK : Hid _ := Try.pKeys_any B pm M w0 h1 hok.2
        have KS : Hid (Below B W w0 ∧ Ps.Two B E1 B q1 M w0 ∧ Ps.Two B E2 o2 q2 N w0 ∧ (∀ x, E1 x → B ≤ x ∧ x < p) ∧ (∀ x, E2 x → B ≤ x ∧ x < p) ∧ (∀ x, E1 x → ¬ E2 x) ∧ Ps.has M key = Ps.has N key ∧ Ps.get M key = Ps.get N key ∧ Ps.Only N key ∧ w0.heap.size = p + 1 ∧ B ≤ p) := ⟨hbr.trans (b0.mono sB), t1.below b0 (Nat.le_refl _), t2', (fun x hx => ⟨(e1 x hx).1, by have := (e1 x hx).2; omega⟩), (fun x hx => ⟨(e2 x hx).1, by have := (e2 x hx).2; omega⟩), ed, hh, hgt, ho, s0, by omega⟩
        have SB : Hid (∀ V : World, V.heap[p]? = w0.heap[p]? → V.cell? ⟨p, 0, none⟩ = some (.int .i64 x) ∧ V.cell? ⟨p, 1, none⟩ = some (.int .i64 k) ∧ V.cell? ⟨p, 2, none⟩ = some (.int .i64 m)) := fun V e => by
          rw [hbl] at e
          simp [World.cell?, e]
        have HW0 : Hid (wr.alloc (.cells #[.int .i64 x, .int .i64 k, .int .i64 m] 31) = w0 ∧ wr.heap.size = p) := ⟨hw0, hp⟩
        clear hbr t1 t2 e1 e2 ed hh hgt ho sB hp hw0 b0 s0 hbl t2' hok h1 HI
        go_upto_region 10 with fail
        rw [HW0.out.1, HW0.out.2]
        go_wp2_with fail
        refine Calls.mono CK.out ?_
        rintro e V1 ⟨vk, rfl, hrow, hb1⟩
        obtain ⟨ak, nk, ck, HNK, rfl⟩ := Ps.own_shape' hrow
        have c1 := SB.out V1 (hb1.block p (by have := KS.out.2.2.2.2.2.2.2.2.2.1; omega))
        have c10 := c1.1
        have c11 := c1.2.1
        have c12 := c1.2.2
        have HB1 : Hid (Below w0.heap.size w0 V1) := hb1
        clear hrow hb1 CK c1
        by_cases h6 : 6 < nk
        · have d6 : decide (6 < (nk : Int)) = true := decide_eq_true (by omega)
          have d6' : decide (6 < nk) = true := decide_eq_true h6
          clear h6
          go_wp2_with fail
          refine Calls.mono (Try.one_any _) ?_
          rintro e W8 ⟨rfl, hb⟩
          have q1' := KS.out.1.trans (HB1.out.mono (by have := KS.out.2.2.2.2.2.2.2.2.2; omega))
          have H8 : Hid (Below B W W8) := q1'.trans (hb.mono (by have := q1'.size; have := HE.out.2.2; omega))
          clear hb q1'
          go_wp2
          go_ret
          exact ⟨rfl, H8.out⟩
        · have d6 : decide (6 < (nk : Int)) = false := decide_eq_false (by omega)
          have d6' : decide (6 < nk) = false := decide_eq_false h6
          have hM6 : M.length < 8 := by have := HNK.out; omega
          have CD : Hid _ := Try.does_any B E1 B q1 M x k m kw V1 (by have := HB1.out.size; have := KS.out.2.2.2.2.2.2.2.2.2; omega) (KS.out.2.1.below HB1.out (Nat.le_refl _))
          have HM6 : Hid (M.length < 8) := hM6
          clear h6 hM6
          go_wp2_with fail
          refine Calls.mono CD.out ?_
          rintro e V2 ⟨rfl, F1, hF1, tw1, hbut1⟩
          have sz1 : p + 1 ≤ V1.heap.size := by have := HB1.out.size; have := KS.out.2.2.2.2.2.2.2.2.2.1; omega
          have pB := KS.out.2.2.2.2.2.2.2.2.2.2
          have e1 : ∀ x, E1 x → B ≤ x ∧ x < V1.heap.size := fun x hx => ⟨(KS.out.2.2.2.1 x hx).1, by have := (KS.out.2.2.2.1 x hx).2; omega⟩
          obtain ⟨tw1', g1', g2'⟩ := Ps.own_step e1 (by omega) hF1 tw1
          have tw2 := (KS.out.2.2.1.below HB1.out (Nat.le_refl _)).but hbut1 (fun x hx he => KS.out.2.2.2.2.2.1 x he hx)
          have c2 := SB.out V2 ((hbut1.block p (by omega) (fun he => by have := (KS.out.2.2.2.1 p he).2; omega)).trans (HB1.out.block p (by have := KS.out.2.2.2.2.2.2.2.2.2.1; omega)))
          have c20 := c2.1
          have c21 := c2.2.1
          have c22 := c2.2.2
          have bV2 : Below B W V2 := (KS.out.1.trans (HB1.out.mono (by have := KS.out.2.2.2.2.2.2.2.2.2; omega))).trans (hbut1.below (by omega) (fun y hy he => by have := (KS.out.2.2.2.1 y he).1; omega))
          have H5 : Hid (Below B W V2 ∧ Ps.Two B (fun x => F1 x ∧ x < V2.heap.size) B q1 (Ps.step M x k m) V2 ∧ Ps.Two B E2 o2 q2 N V2 ∧ (∀ x, (F1 x ∧ x < V2.heap.size) → B ≤ x ∧ x < V2.heap.size) ∧ (∀ x, (F1 x ∧ x < V2.heap.size) → ¬ E2 x) ∧ p + 1 ≤ V2.heap.size) := ⟨bV2, tw1', tw2, g1', g2' E2 (fun x hx => by have := (KS.out.2.2.2.2.1 x hx).2; omega) KS.out.2.2.2.2.2.1, Nat.le_trans sz1 hbut1.size⟩
          clear CD hF1 tw1 hbut1 sz1 pB e1 tw1' g1' g2' tw2 c2 bV2 c10 c11 c12
          by_cases hkk : k = key
          · subst hkk
            have CD : Hid _ := Try.does_any B E2 o2 q2 N x k m kw V2 (by have := H5.out.2.2.2.2.2; have := KS.out.2.2.2.2.2.2.2.2.2; omega) H5.out.2.2.1
            go_wp2_with fail
            refine Calls.mono CD.out ?_
            rintro e V3 ⟨rfl, F2, hF2, tw1, hbut1⟩
            have pB := KS.out.2.2.2.2.2.2.2.2.2.2
            have pS := H5.out.2.2.2.2.2
            have e1 : ∀ x, E2 x → B ≤ x ∧ x < V2.heap.size := fun x hx => ⟨(KS.out.2.2.2.2.1 x hx).1, by have := (KS.out.2.2.2.2.1 x hx).2; omega⟩
            obtain ⟨tw1', g1', g2'⟩ := Ps.own_step e1 (by omega) hF2 tw1
            have tw2 := H5.out.2.1.but hbut1 (fun x hx he => H5.out.2.2.2.2.1 x hx he)
            have bV3 : Below B W V3 := H5.out.1.trans (hbut1.below (by omega) (fun y hy he => by have := (KS.out.2.2.2.2.1 y he).1; omega))
            have hst := Ps.step_key x k m KS.out.2.2.2.2.2.2.1 KS.out.2.2.2.2.2.2.2.1 HM6.out (Nat.lt_of_le_of_lt (KS.out.2.2.2.2.2.2.2.2.1.len H5.out.2.2.1.nodup) (by omega))
            have inv : Inv B o2 q1 q2 k V3 := ⟨_, _, _, _, tw2, tw1', (fun x hx => ⟨(H5.out.2.2.2.1 x hx).1, Nat.lt_of_lt_of_le hx.2 hbut1.size⟩), g1', (fun x hx he => g2' (fun x => F1 x ∧ x < V2.heap.size) (fun x hx => hx.2) (fun x hx he => H5.out.2.2.2.2.1 x he hx) x he hx), hst.1, hst.2, KS.out.2.2.2.2.2.2.2.2.1.step x m⟩
            have H6 : Hid (Below B W V3 ∧ Inv B o2 q1 q2 k V3) := ⟨bV3, inv⟩
            clear CD hF2 tw1 hbut1 pB pS e1 tw1' g1' g2' tw2 bV3 hst inv H5 KS HB1 SB HM6
            obtain ⟨G1, G2, M', N', t1, t2, g1, g2, gd, hh, hgt, ho⟩ := H6.out.2
            obtain ⟨hok, pm', v', a1, _⟩ := t1
            obtain ⟨hok2, pm2, v2, a2, _⟩ := t2
            have HP : Hid (Ps.At B pm' M' V3 ∧ Ps.At o2 pm2 N' V3 ∧ Ps.has M' k = Ps.has N' k ∧ Ps.get M' k = Ps.get N' k) := ⟨a1, a2, hh, hgt⟩
            clear g1 g2 gd hh hgt ho hok hok2 a1 a2
            go_wp2_with fail
            refine Calls.mono (Try.pWaiting_any B pm' M' k hk V3 HP.out.1) ?_
            rintro e U1 ⟨rfl, hb1⟩
            obtain ⟨⟨ba, bb, bc, bd⟩, hgt⟩ : ∃ y, Ps.get M' k = y := ⟨_, rfl⟩
            obtain ⟨th, hth⟩ : ∃ y, Ps.has M' k = y := ⟨_, rfl⟩
            rw [hgt, hth]
            simp only [Bx.val]
            obtain ⟨U2, hU2⟩ : ∃ y, U1.alloc (.cells #[.int .i64 ba, .int .i64 bb, .int .i64 bc, .int .i64 bd] 33) = y := ⟨_, rfl⟩
            obtain ⟨p1, hp1⟩ : ∃ y, U1.heap.size = y := ⟨_, rfl⟩
            have b2 : Below V3.heap.size V3 U2 := by rw [← hU2]; exact hb1.alloc hb1.size _
            have k1 : U2.heap[p1]? = some (.cells #[.int .i64 ba, .int .i64 bb, .int .i64 bc, .int .i64 bd] 33 (0, 0)) := by rw [← hU2, ← hp1]; exact heap_alloc_new _ _
            have C2 := Try.pWaiting_any o2 pm2 N' k hk U2 (HP.out.2.1.below b2 (Nat.le_refl _))
            rw [← HP.out.2.2.1, ← HP.out.2.2.2, hgt, hth] at C2
            simp only [Bx.val] at C2
            have HC2 : Hid _ := C2
            have HU2 : Hid (U1.alloc (.cells #[.int .i64 ba, .int .i64 bb, .int .i64 bc, .int .i64 bd] 33) = U2 ∧ U1.heap.size = p1) := ⟨hU2, hp1⟩
            have K1 : Hid (U2.heap[p1]? = some (.cells #[.int .i64 ba, .int .i64 bb, .int .i64 bc, .int .i64 bd] 33 (0, 0)) ∧ Below V3.heap.size V3 U2 ∧ p1 < U2.heap.size) := ⟨k1, b2, (Array.getElem?_eq_some_iff.1 k1).1⟩
            clear hb1 hgt hth hU2 hp1 b2 k1 C2
            go_wp2_with fail
            rw [HU2.out.1, HU2.out.2]
            refine Calls.mono HC2.out ?_
            rintro e U3 ⟨rfl, hb3⟩
            obtain ⟨U4, hU4⟩ : ∃ y, U3.alloc (.cells #[.int .i64 ba, .int .i64 bb, .int .i64 bc, .int .i64 bd] 33) = y := ⟨_, rfl⟩
            have b4 : Below U2.heap.size U2 U4 := by rw [← hU4]; exact hb3.alloc hb3.size _
            have k4 : U4.heap[U3.heap.size]? = some (.cells #[.int .i64 ba, .int .i64 bb, .int .i64 bc, .int .i64 bd] 33 (0, 0)) := by rw [← hU4]; exact heap_alloc_new _ _
            have k5 := (b4.block p1 K1.out.2.2).trans K1.out.1
            obtain ⟨p2, hp2⟩ : ∃ y, U3.heap.size = y := ⟨_, rfl⟩
            rw [hp2] at k4
            have u0 : U4.cell? ⟨p1, 0, none⟩ = some (.int .i64 ba) := by simp [World.cell?, k5]
            have u1 : U4.cell? ⟨p1, 1, none⟩ = some (.int .i64 bb) := by simp [World.cell?, k5]
            have u2 : U4.cell? ⟨p1, 2, none⟩ = some (.int .i64 bc) := by simp [World.cell?, k5]
            have u3 : U4.cell? ⟨p1, 3, none⟩ = some (.int .i64 bd) := by simp [World.cell?, k5]
            have z0 : U4.cell? ⟨p2, 0, none⟩ = some (.int .i64 ba) := by simp [World.cell?, k4]
            have z1 : U4.cell? ⟨p2, 1, none⟩ = some (.int .i64 bb) := by simp [World.cell?, k4]
            have z2 : U4.cell? ⟨p2, 2, none⟩ = some (.int .i64 bc) := by simp [World.cell?, k4]
            have z3 : U4.cell? ⟨p2, 3, none⟩ = some (.int .i64 bd) := by simp [World.cell?, k4]
            have bU : Below V3.heap.size V3 U4 := K1.out.2.1.trans (b4.mono K1.out.2.1.size)
            have fin : Hid (Below B W U4 ∧ Inv B o2 q1 q2 k U4) := ⟨H6.out.1.trans (bU.mono (by have := H6.out.1.size; have := HE.out.2.2; omega)), H6.out.2.below bU⟩
            have HU4 : Hid (U3.alloc (.cells #[.int .i64 ba, .int .i64 bb, .int .i64 bc, .int .i64 bd] 33) = U4 ∧ U3.heap.size = p2) := ⟨hU4, hp2⟩
            have hq4 : ∀ W : World, (Op.equalIn 10000 33 (.agg #[.int .i64 ba, .int .i64 bb, .int .i64 bc, .int .i64 bd]) (.agg #[.int .i64 ba, .int .i64 bb, .int .i64 bc, .int .i64 bd])).run Try.prog W = .ok true W := fun W => Ps.arr_eq ba bb bc bd W
            have hg4 := Ps.guard_arr
            clear hb3 hU4 hp2 b4 k4 k5 bU
            go_upto_region 17 with fail
            rw [HU4.out.1, HU4.out.2]
            go_wp2
            go_roundg (gk - 1)
            case measure => omega
            case rel => exact ⟨i + 1, by omega, by go_num, fin.out⟩
          · have dk : (k == key) = false := by simpa using hkk
            have hst := Ps.step_other M x k m key hkk
            have inv : Inv B o2 q1 q2 key V2 := ⟨_, E2, _, N, H5.out.2.1, H5.out.2.2.1, H5.out.2.2.2.1, (fun x hx => ⟨(KS.out.2.2.2.2.1 x hx).1, by have := (KS.out.2.2.2.2.1 x hx).2; have := H5.out.2.2.2.2.2; omega⟩), H5.out.2.2.2.2.1, hst.1.trans KS.out.2.2.2.2.2.2.1, hst.2.trans KS.out.2.2.2.2.2.2.2.1, KS.out.2.2.2.2.2.2.2.2.1⟩
            have H6 : Hid (Below B W V2 ∧ Inv B o2 q1 q2 key V2) := ⟨H5.out.1, inv⟩
            clear hst inv H5 KS HB1 SB HM6 hkk
            obtain ⟨G1, G2, M', N', t1, t2, g1, g2, gd, hh, hgt, ho⟩ := H6.out.2
            obtain ⟨hok, pm', v', a1, _⟩ := t1
            obtain ⟨hok2, pm2, v2, a2, _⟩ := t2
            have HP : Hid (Ps.At B pm' M' V2 ∧ Ps.At o2 pm2 N' V2 ∧ Ps.has M' key = Ps.has N' key ∧ Ps.get M' key = Ps.get N' key) := ⟨a1, a2, hh, hgt⟩
            clear g1 g2 gd hh hgt ho hok hok2 a1 a2
            go_wp2_with fail
            refine Calls.mono (Try.pWaiting_any B pm' M' key hk V2 HP.out.1) ?_
            rintro e U1 ⟨rfl, hb1⟩
            obtain ⟨⟨ba, bb, bc, bd⟩, hgt⟩ : ∃ y, Ps.get M' key = y := ⟨_, rfl⟩
            obtain ⟨th, hth⟩ : ∃ y, Ps.has M' key = y := ⟨_, rfl⟩
            rw [hgt, hth]
            simp only [Bx.val]
            obtain ⟨U2, hU2⟩ : ∃ y, U1.alloc (.cells #[.int .i64 ba, .int .i64 bb, .int .i64 bc, .int .i64 bd] 33) = y := ⟨_, rfl⟩
            obtain ⟨p1, hp1⟩ : ∃ y, U1.heap.size = y := ⟨_, rfl⟩
            have b2 : Below V2.heap.size V2 U2 := by rw [← hU2]; exact hb1.alloc hb1.size _
            have k1 : U2.heap[p1]? = some (.cells #[.int .i64 ba, .int .i64 bb, .int .i64 bc, .int .i64 bd] 33 (0, 0)) := by rw [← hU2, ← hp1]; exact heap_alloc_new _ _
            have C2 := Try.pWaiting_any o2 pm2 N' key hk U2 (HP.out.2.1.below b2 (Nat.le_refl _))
            rw [← HP.out.2.2.1, ← HP.out.2.2.2, hgt, hth] at C2
            simp only [Bx.val] at C2
            have HC2 : Hid _ := C2
            have HU2 : Hid (U1.alloc (.cells #[.int .i64 ba, .int .i64 bb, .int .i64 bc, .int .i64 bd] 33) = U2 ∧ U1.heap.size = p1) := ⟨hU2, hp1⟩
            have K1 : Hid (U2.heap[p1]? = some (.cells #[.int .i64 ba, .int .i64 bb, .int .i64 bc, .int .i64 bd] 33 (0, 0)) ∧ Below V2.heap.size V2 U2 ∧ p1 < U2.heap.size) := ⟨k1, b2, (Array.getElem?_eq_some_iff.1 k1).1⟩
            clear hb1 hgt hth hU2 hp1 b2 k1 C2
            go_wp2_with fail
            rw [HU2.out.1, HU2.out.2]
            refine Calls.mono HC2.out ?_
            rintro e U3 ⟨rfl, hb3⟩
            obtain ⟨U4, hU4⟩ : ∃ y, U3.alloc (.cells #[.int .i64 ba, .int .i64 bb, .int .i64 bc, .int .i64 bd] 33) = y := ⟨_, rfl⟩
            have b4 : Below U2.heap.size U2 U4 := by rw [← hU4]; exact hb3.alloc hb3.size _
            have k4 : U4.heap[U3.heap.size]? = some (.cells #[.int .i64 ba, .int .i64 bb, .int .i64 bc, .int .i64 bd] 33 (0, 0)) := by rw [← hU4]; exact heap_alloc_new _ _
            have k5 := (b4.block p1 K1.out.2.2).trans K1.out.1
            obtain ⟨p2, hp2⟩ : ∃ y, U3.heap.size = y := ⟨_, rfl⟩
            rw [hp2] at k4
            have u0 : U4.cell? ⟨p1, 0, none⟩ = some (.int .i64 ba) := by simp [World.cell?, k5]
            have u1 : U4.cell? ⟨p1, 1, none⟩ = some (.int .i64 bb) := by simp [World.cell?, k5]
            have u2 : U4.cell? ⟨p1, 2, none⟩ = some (.int .i64 bc) := by simp [World.cell?, k5]
            have u3 : U4.cell? ⟨p1, 3, none⟩ = some (.int .i64 bd) := by simp [World.cell?, k5]
            have z0 : U4.cell? ⟨p2, 0, none⟩ = some (.int .i64 ba) := by simp [World.cell?, k4]
            have z1 : U4.cell? ⟨p2, 1, none⟩ = some (.int .i64 bb) := by simp [World.cell?, k4]
            have z2 : U4.cell? ⟨p2, 2, none⟩ = some (.int .i64 bc) := by simp [World.cell?, k4]
            have z3 : U4.cell? ⟨p2, 3, none⟩ = some (.int .i64 bd) := by simp [World.cell?, k4]
            have bU : Below V2.heap.size V2 U4 := K1.out.2.1.trans (b4.mono K1.out.2.1.size)
            have fin : Hid (Below B W U4 ∧ Inv B o2 q1 q2 key U4) := ⟨H6.out.1.trans (bU.mono (by have := H6.out.1.size; have := HE.out.2.2; omega)), H6.out.2.below bU⟩
            have HU4 : Hid (U3.alloc (.cells #[.int .i64 ba, .int .i64 bb, .int .i64 bc, .int .i64 bd] 33) = U4 ∧ U3.heap.size = p2) := ⟨hU4, hp2⟩
            have hq4 : ∀ W : World, (Op.equalIn 10000 33 (.agg #[.int .i64 ba, .int .i64 bb, .int .i64 bc, .int .i64 bd]) (.agg #[.int .i64 ba, .int .i64 bb, .int .i64 bc, .int .i64 bd])).run Try.prog W = .ok true W := fun W => Ps.arr_eq ba bb bc bd W
            have hg4 := Ps.guard_arr
            clear hb3 hU4 hp2 b4 k4 k5 bU
            go_upto_region 17 with fail
            rw [HU4.out.1, HU4.out.2]
            go_wp2
            go_roundg (gk - 1)
            case measure => omega
            case rel => exact ⟨i + 1, by omega, by go_num, fin.out⟩
      · have hd : decide ((i : Int) < n) = false := decide_eq_false (by omega)
        go_wp2_with fail
        refine Calls.mono (Try.one_any _) ?_
        rintro e W8 ⟨rfl, hb⟩
        have H8 : Hid (Below B W W8) := HI.out.1.trans (hb.mono (by have := HI.out.1.size; have := HE.out.2.2; omega))
        clear hb
        go_wp2
        go_ret
        exact ⟨rfl, H8.out⟩

end Go.Proofs.Ytdclfmmmlicaaaa.PostApart
