/-
  The walk of TreeParses: the element of any text, or where and why it is none.
-/
import Derived.Test.YtbcafacolohgbaaDoorTrElemP
import Derived.Test.YtbcafacolohgbaaDoorTrBackC
namespace Go.Proofs.YtbcafacolohgbaaDoor.TreeParses
open Go.RowKit
open Go.Proofs.Mk

theorem zero_at (W : World) : Tr.At W El.zero none 0 none 0 := Tr.At.of (d := 1) (El.Lies.leaf 0 (.inl ⟨none, 0, rfl, rfl⟩) none 0 rfl)

set_option maxHeartbeats 8000000 in
set_option maxRecDepth 20000 in
theorem walk (s : ByteArray) (w : World) (hE : Mk.Esc w) :
    Calls Tryd.prog 4 #[.string s] w fun e w' => e = .returned (.bool true) ∧ Below w.heap.size w w' := by
  have h0 : 0 < w.heap.size := by obtain ⟨t, fz, h⟩ := hE; exact (Array.getElem?_eq_some_iff.1 h).1
  have HEW : Hid (∀ W, Below w.heap.size w W → Mk.Esc W) := fun W hW => Tr.esc_below hE hW h0
  have HK : Hid (∀ W, Below w.heap.size w W → Calls Tryd.prog 9 #[] W fun e w' => e = .returned (.bool true) ∧ Below w.heap.size w w') := fun W hW => (Tryd.kids_any W (HEW.out W hW)).mono fun e w' ⟨he, hb⟩ => ⟨he, hW.trans (hb.mono hW.size)⟩
  have BR : Hid (Below w.heap.size w w) := Below.refl _ _
  by_cases hl : 21000 < s.size
  · have hd : decide ((21000 : Int) < s.size) = true := decide_eq_true (by omega)
    clear hE h0 hl
    go_enter Tryd.func4, Tryd.ntmps4
    go_wp2_with fail
    refine Calls.mono (HK.out _ BR.out) ?_
    rintro e W2 ⟨rfl, b2⟩
    have B2 : Hid (Below w.heap.size w W2) := b2
    clear b2
    go_wp2
    go_ret
    exact ⟨rfl, B2.out⟩
  · have hd : decide ((21000 : Int) < s.size) = false := decide_eq_false (by omega)
    have hs : s.size ≤ 140737488355328 := by omega
    obtain ⟨E, k, er, HX, HP, HQ⟩ : ∃ (E : El) (k : Nat) (er : Int), Hid (E.Reach ∧ E.weight ≤ 100000) ∧ Hid (∀ W, Below w.heap.size w W → Calls Tryd.prog 14 #[.string s] W fun e w' => Below W.heap.size W w' ∧ ∃ b d b' d', e = .returned (.tuple #[.agg #[.string E.name, .slice b E.attrs.length d, .slice b' E.kids.length d', .string E.text], .int .i64 k, .int .i64 er]) ∧ Tr.At w' E b d b' d') ∧
        Hid (∀ W, Calls Tryd.prog 15 #[.string s] W fun e w' => Below W.heap.size W w' ∧ ∃ b d b' d', e = .returned (.agg #[.string E.name, .slice b E.attrs.length d, .slice b' E.kids.length d', .string E.text, .int .i64 er, .int .i64 k]) ∧ Tr.At w' E b d b' d') := by
      obtain ⟨⟨o, k, er⟩, ho⟩ : ∃ o, El.parseL s = o := ⟨_, rfl⟩
      cases o with
      | none =>
        refine ⟨El.zero, k, er, ⟨by rw [El.reach_eq]; simp [El.zero, El.name, El.text, El.attrs, El.kids, El.Reachs, Mk.AttrsSmall, show (⟨#[]⟩ : ByteArray).size = 0 from rfl], by rw [El.weight_eq]; simp [El.zero, El.attrs, El.kids, El.text, El.weights, El.attrsW, show (⟨#[]⟩ : ByteArray).size = 0 from rfl]⟩, fun W hW => ?_, fun W => ?_⟩
        · refine (Tr.parse_none ho W (HEW.out W hW) hs).mono fun e w' ⟨hb, he⟩ => ⟨hb, none, 0, none, 0, he, zero_at w'⟩
        · refine (Tryd.rparse_any s W hs).mono fun e w' ⟨hb, he⟩ => ⟨hb, none, 0, none, 0, ?_, zero_at w'⟩
          unfold Dc.PEnd at he
          rw [ho] at he
          exact he
      | some E =>
        have hg := El.parse_good ho
        refine ⟨E, 0, 0, ⟨El.reach_form E hg.1 (by omega), by omega⟩, fun W hW => Tr.parse_some ho W (HEW.out W hW) hs, fun W => ?_⟩
        refine (Tryd.rparse_any s W hs).mono fun e w' ⟨hb, he⟩ => ⟨hb, ?_⟩
        unfold Dc.PEnd at he
        rw [ho] at he
        obtain ⟨va, vk, d, he, hl⟩ := he
        obtain ⟨b, x, b', x', rfl, rfl⟩ := hl.shape
        exact ⟨b, x, b', x', he, Tr.At.of hl⟩
    obtain ⟨nm, hnm⟩ : ∃ z, E.name = z := ⟨_, rfl⟩
    obtain ⟨tx, htx⟩ : ∃ z, E.text = z := ⟨_, rfl⟩
    obtain ⟨m, hm⟩ : ∃ z, E.attrs.length = z := ⟨_, rfl⟩
    obtain ⟨n, hn⟩ : ∃ z, E.kids.length = z := ⟨_, rfl⟩
    have HED : Hid (E.name = nm ∧ E.text = tx ∧ E.attrs.length = m ∧ E.kids.length = n) := ⟨hnm, htx, hm, hn⟩
    rw [hnm, htx, hm, hn] at HP HQ
    clear hE h0 hl hnm htx hm hn hs
    go_enter Tryd.func4, Tryd.ntmps4
    go_wp2_with fail
    refine Calls.mono (HP.out _ BR.out) ?_
    rintro e W2 ⟨b2, pa, pc, pk, pd, rfl, at2⟩
    obtain ⟨W3, hW3⟩ : ∃ x, W2.alloc (.cells #[.string nm, .slice pa m pc, .slice pk n pd, .string tx] 25) = x := ⟨_, rfl⟩
    have A3 : Below W2.heap.size W2 W3 := by rw [← hW3]; exact (Below.refl _ W2).alloc (Nat.le_refl _) _
    have N3 : W3.heap[W2.heap.size]? = some (.cells #[.string nm, .slice pa m pc, .slice pk n pd, .string tx] 25 (0, 0)) := by rw [← hW3]; exact heap_alloc_new W2 _
    have HW3 : Hid _ := hW3
    have HN3 : Hid (Below w.heap.size w W3 ∧ Tr.At W3 E pa pc pk pd ∧ W3.heap[W2.heap.size]? = some (.cells #[.string nm, .slice pa m pc, .slice pk n pd, .string tx] 25 (0, 0))) := ⟨b2.trans (A3.mono b2.size), at2.later A3, N3⟩
    clear b2 at2 hW3 A3 N3 HP
    go_upto_region 4 with fail
    rw [HW3.out]
    go_wp2_with fail
    refine Calls.mono (HQ.out _) ?_
    rintro e W4 ⟨b4, qa, qc, qk, qd, rfl, at4⟩
    obtain ⟨W5, hW5⟩ : ∃ x, W4.alloc (.cells #[.string nm, .slice qa m qc, .slice qk n qd, .string tx, .int .i64 er, .int .i64 k] 46) = x := ⟨_, rfl⟩
    have A5 : Below W4.heap.size W4 W5 := by rw [← hW5]; exact (Below.refl _ W4).alloc (Nat.le_refl _) _
    have N5 : W5.heap[W4.heap.size]? = some (.cells #[.string nm, .slice qa m qc, .slice qk n qd, .string tx, .int .i64 er, .int .i64 k] 46 (0, 0)) := by rw [← hW5]; exact heap_alloc_new W4 _
    have B35 : Below W3.heap.size W3 W5 := b4.trans (A5.mono b4.size)
    have HW5 : Hid _ := hW5
    have B5 : Hid (Below w.heap.size w W5) := HN3.out.1.trans (B35.mono HN3.out.1.size)
    have ATP : Hid (Tr.At W5 E pa pc pk pd) := HN3.out.2.1.later B35
    have ATQ : Hid (Tr.At W5 E qa qc qk qd) := at4.later A5
    have CB : Hid (∀ V, Below W5.heap.size W5 V → (V.cell? ⟨W2.heap.size, 0, none⟩ = some (.string nm) ∧ V.cell? ⟨W2.heap.size, 1, none⟩ = some (.slice pa m pc) ∧ V.cell? ⟨W2.heap.size, 2, none⟩ = some (.slice pk n pd) ∧ V.cell? ⟨W2.heap.size, 3, none⟩ = some (.string tx)) ∧
        V.cell? ⟨W4.heap.size, 0, none⟩ = some (.string nm) ∧ V.cell? ⟨W4.heap.size, 1, none⟩ = some (.slice qa m qc) ∧ V.cell? ⟨W4.heap.size, 2, none⟩ = some (.slice qk n qd) ∧ V.cell? ⟨W4.heap.size, 3, none⟩ = some (.string tx) ∧ V.cell? ⟨W4.heap.size, 4, none⟩ = some (.int .i64 er) ∧ V.cell? ⟨W4.heap.size, 5, none⟩ = some (.int .i64 k)) := fun V hV => by
      have e1 := HN3.out.2.2
      have h1 := (Array.getElem?_eq_some_iff.1 e1).1
      have e2 : V.heap[W2.heap.size]? = _ := ((hV.block _ (Nat.lt_of_lt_of_le h1 B35.size)).trans (B35.block _ h1)).trans e1
      have e3 : V.heap[W4.heap.size]? = _ := (hV.block _ (Array.getElem?_eq_some_iff.1 N5).1).trans N5
      simp [World.cell?, e2, e3]
    have CR : Hid (∀ V, Below W5.heap.size W5 V → Calls Tryd.prog 12 #[.agg #[.string nm, .slice pa m pc, .slice pk n pd, .string tx]] V fun e w' => Hid (Below W5.heap.size W5 w') ∧ ∃ b d b' d', e = .returned (.agg #[.string nm, .slice b m d, .slice b' n d', .string tx]) ∧ Hid (Tr.At w' E b d b' d')) := fun V hV => by
      have := (ATP.out.later hV).ref HX.out.2
      rw [HED.out.1, HED.out.2.1, HED.out.2.2.1, HED.out.2.2.2] at this
      exact this.mono fun e w' ⟨hb, b, d, b', d', he, h⟩ => ⟨hV.trans (hb.mono hV.size), b, d, b', d', he, h⟩
    have CS : Hid (∀ V b d b' d', Below W5.heap.size W5 V → Tr.At V E b d b' d' → Calls Tryd.prog 16 #[.agg #[.string nm, .slice b m d, .slice b' n d', .string tx], .agg #[.string nm, .slice qa m qc, .slice qk n qd, .string tx]] V fun e w' => e = .returned (.bool true) ∧ Hid (Below W5.heap.size W5 w')) := fun V b d b' d' hV h1 => by
      have := h1.same (ATQ.out.later hV) HX.out.1
      rw [HED.out.1, HED.out.2.1, HED.out.2.2.1, HED.out.2.2.2] at this
      exact this.mono fun e w' ⟨he, hb⟩ => ⟨he, hV.trans (hb.mono hV.size)⟩
    have CK : Hid (∀ V, Below W5.heap.size W5 V → Calls Tryd.prog 9 #[] V fun e w' => e = .returned (.bool true) ∧ Hid (Below W5.heap.size W5 w')) := fun V hV => by
      have hw := B5.out.trans (hV.mono B5.out.size)
      exact (Tryd.kids_any V (HEW.out V hw)).mono fun e w' ⟨he, hb⟩ => ⟨he, hV.trans (hb.mono hV.size)⟩
    have BR5 : Hid (Below W5.heap.size W5 W5) := Below.refl _ _
    have ek : ((k : Int) == k) = true := beq_self_eq_true _
    have ee : ((er : Int) == er) = true := beq_self_eq_true _
    clear b4 at4 hW5 A5 N5 B35 HQ HN3 HK HEW BR
    go_upto_region 5 with fail
    rw [HW5.out]
    go_region_held3 (fun V => (V.cell? ⟨W2.heap.size, 0, none⟩ = some (.string nm) ∧ V.cell? ⟨W2.heap.size, 1, none⟩ = some (.slice pa m pc) ∧ V.cell? ⟨W2.heap.size, 2, none⟩ = some (.slice pk n pd) ∧ V.cell? ⟨W2.heap.size, 3, none⟩ = some (.string tx)) ∧
        V.cell? ⟨W4.heap.size, 0, none⟩ = some (.string nm) ∧ V.cell? ⟨W4.heap.size, 1, none⟩ = some (.slice qa m qc) ∧ V.cell? ⟨W4.heap.size, 2, none⟩ = some (.slice qk n qd) ∧ V.cell? ⟨W4.heap.size, 3, none⟩ = some (.string tx) ∧ V.cell? ⟨W4.heap.size, 4, none⟩ = some (.int .i64 er) ∧ V.cell? ⟨W4.heap.size, 5, none⟩ = some (.int .i64 k))
      (first | exact CB.out _ B8.out | exact CB.out _ B7.out | exact CB.out _ B6.out | exact CB.out _ BR5.out.drew | exact CB.out _ BR5.out)
      (first
      | (go_simp; go_at_call 12; refine Calls.mono (CR.out _ BR5.out.drew) ?_; rintro e V6 ⟨B6, b1, d1, b2, d2, rfl, AT6⟩)
      | (go_simp; go_at_call 16; refine Calls.mono (CS.out _ _ _ _ _ B6.out AT6.out) ?_; rintro e V7 ⟨rfl, B7⟩)
      | (go_simp; go_at_call 9; refine Calls.mono (CK.out _ B7.out) ?_; rintro e V8 ⟨rfl, B8⟩)
      | fail)
    all_goals
      have BZ : Hid (Below w.heap.size w V8) := B5.out.trans (B8.out.mono B5.out.size)
      go_wp2
      go_ret
      exact ⟨rfl, BZ.out⟩

end Go.Proofs.YtbcafacolohgbaaDoor.TreeParses
