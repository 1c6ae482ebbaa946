import Derived.Test.YtehmmfmofdgheaaDoorIxWriteE
import Derived.Test.YtehmmfmofdgheaaDoorIxParse
import Derived.Test.YtehmmfmofdgheaaDoorIxRRead
/-
  infix: Text of any term.
-/
namespace Go.Proofs
open Go.RowKit

theorem Ix.txt_pos (n : Nat) (T : Tm) (h : T.allForm = true) : 1 ≤ (Ix.txt (n + 1) T).length := by
  cases Ix.how_of h with
  | leaf hw h8 hk ho => rw [Ix.txt_leaf n h8]; exact Tm.txt_pos T h
  | neg hw h7 hk => rw [Ix.txt_neg n h7]; simp
  | not hw h3 hk => rw [Ix.txt_not n h3]; simp
  | ne hw h4 ho hk hk2 => rw [Ix.txt_ne n h4 ho]; simp; omega
  | two o hw hro ho hk ht hd1 h1 h2 h3 hlo => rw [Ix.txt_two n (by omega) (by omega) ho]; simp; omega

set_option maxHeartbeats 4000000 in
set_option maxRecDepth 20000 in
theorem Tryd.infixText_any (d : Nat) (T : Tm) (v : Value) (w : World) (hT : Tm.Lies w w.heap.size d v T) (hE : Ix.WEnv w.heap.size w) (hsz : T.size ≤ 1000000) :
    Calls Tryd.prog 16 #[.agg #[.int .i64 T.op, .int .i64 T.num, v]] w fun e w' => e = .returned (.tuple #[.string ⟨(Ix.textI T).1.toArray⟩, .int .i64 (Ix.textI T).2]) ∧ Below w.heap.size w w' := by
  obtain ⟨a, cap, rfl⟩ := hT.shape
  obtain ⟨o, ho⟩ : ∃ o, T.op = o := ⟨_, rfl⟩
  obtain ⟨m, hm⟩ : ∃ m, T.num = m := ⟨_, rfl⟩
  obtain ⟨n, hn⟩ : ∃ n, T.ks.length = n := ⟨_, rfl⟩
  rw [hn] at hT ⊢
  obtain ⟨w0, hw0⟩ : ∃ w0, w.alloc (.cells #[.int .i64 T.op, .int .i64 T.num, .slice a n cap] 37) = w0 := ⟨_, rfl⟩
  have A0 : Below w.heap.size w w0 := by rw [← hw0]; exact (Below.refl _ w).alloc (Nat.le_refl _) _
  have C0 : w0.heap[w.heap.size]? = some (.cells #[.int .i64 T.op, .int .i64 T.num, .slice a n cap] 37 (0, 0)) := by rw [← hw0]; exact heap_alloc_new w _
  have H1 : Hid _ := Tryd.text_any d T (.slice a n cap) w0 ((hT.below A0).wider A0.size) (hE.below A0).ops ((hE.below A0).pow w0 (Below.refl _ _)) hsz
  obtain ⟨r, hr⟩ : ∃ r, T.textR.2 = r := ⟨_, rfl⟩
  have HWR : Hid (∀ W1 : World, Below w.heap.size w W1 → r = 0 → Calls Tryd.prog 30 #[.slice none 0 0, .agg #[.int .i64 T.op, .int .i64 T.num, .slice a n cap], .int .i64 (1 : Nat)] W1 fun e w' => ∃ v', e = .returned v' ∧ Hid (Ix.R w.heap.size w' v' (Ix.textI T).1 ∧ Below w.heap.size w w' ∧ Ix.textI T = ((Ix.textI T).1, 0) ∧ 1 ≤ (Ix.textI T).1.length)) := fun W1 hb h0 => by
    have hw : T.wrongR = 0 := by
      refine Classical.byContradiction fun h => ?_
      rw [← hr] at h0
      unfold Tm.textR at h0
      rw [if_pos h] at h0
      exact h h0
    have hw2 := Tm.wrong_zero hw
    have hd : T.depth ≤ 24 := by
      refine Nat.le_of_not_lt fun h => ?_
      unfold Tm.wrongR at hw
      rw [if_pos h] at hw
      exact absurd hw (by decide)
    have hR : Ix.R w.heap.size W1 (.slice none 0 0) [] := World.ownsRow_nil _ _ _ _
    have := Ix.write_all 24 d w.heap.size 1 T (.slice a n cap) [] (.slice none 0 0) W1 (hT.below hb) hw2.2 hd hb.size (hE.below hb) hR (by simp; omega) (by decide) (by decide)
    have e1 : Ix.kidOf (Ix.txt 24) 1 T = Ix.txt 24 T := by unfold Ix.kidOf; rw [if_neg (by have := (Ix.rowT_ok T).1; omega)]
    have e2 : Ix.textI T = (Ix.txt 24 T, 0) := by unfold Ix.textI; rw [if_pos (by rw [hr]; exact h0)]
    refine this.mono fun e w' ⟨v', z0, z1, z2⟩ => ⟨v', z0, ?_⟩
    rw [e1, List.nil_append] at z1
    rw [e2]
    exact ⟨z1, hb.trans (z2.low hR hb.size), rfl, Ix.txt_pos 23 T hw2.2⟩
  have HX : Hid (r ≠ 0 → Ix.textI T = ([], r)) := fun h => by unfold Ix.textI; rw [if_neg (by rw [hr]; exact h), hr]
  have HA : Hid (Below w.heap.size w w0) := A0
  have HW0 : Hid (w.alloc (.cells #[.int .i64 T.op, .int .i64 T.num, .slice a n cap] 37) = w0) := hw0
  have HC : Hid (w0.heap[w.heap.size]? = some (.cells #[.int .i64 T.op, .int .i64 T.num, .slice a n cap] 37 (0, 0))) := C0
  obtain ⟨tx, htx⟩ : ∃ z, T.textR.1 = z := ⟨_, rfl⟩
  rw [hr, htx] at H1
  rw [ho, hm] at H1 HWR HW0 HC
  rw [ho, hm]
  obtain ⟨q, hq⟩ : ∃ z, Ix.textI T = z := ⟨_, rfl⟩
  obtain ⟨q1, q2⟩ := q
  rw [hq] at HWR HX ⊢
  obtain ⟨⟨z0, z1, z2⟩, -⟩ := Tk.row3 HC.out
  clear hw0 hT ho hm hr A0 C0 hn hE hsz hq htx
  go_enter Tryd.func16, Tryd.ntmps16
  go_upto_region 1 with fail
  rw [HW0.out]
  go_wp2_with fail
  refine Calls.mono H1.out ?_
  rintro e W1 ⟨rfl, b1⟩
  have B1 : Hid (Below w.heap.size w W1) := HA.out.trans (b1.mono HA.out.size)
  have hbx : W1.heap[w.heap.size]? = some (.cells #[.int .i64 o, .int .i64 m, .slice a n cap] 37 (0, 0)) := by
    rw [b1.block _ (Array.getElem?_eq_some_iff.1 HC.out).1]; exact HC.out
  obtain ⟨⟨y0, y1, y2⟩, -⟩ := Tk.row3 hbx
  clear b1 H1 HW0 z0 z1 z2 hbx
  by_cases h0 : r = 0
  · have H2 : Hid _ := HWR.out W1 B1.out h0
    subst h0
    go_wp2_with fail
    refine Calls.mono H2.out ?_
    rintro e W2 ⟨v2, rfl, H3⟩
    have R2 : Hid (Ix.R w.heap.size W2 v2 q1) := H3.out.1
    have HQ : Hid (Below w.heap.size w W2 ∧ (q1, q2) = ((q1, (0 : Int)))) := ⟨H3.out.2.1, H3.out.2.2.1⟩
    have HP : Hid (1 ≤ q1.length) := H3.out.2.2.2
    clear H3
    rcases R2.out with ⟨hl, ⟨rfl, hz⟩ | ⟨g, cc, cur, rfl, hB2, hg⟩⟩
    · exact absurd hz (by have := HP.out; omega)
    · have hcv := run_convert_bytes_back (P := Tryd.prog) W2 71 9 5 ⟨g, 0, none⟩ cc q1 Tryd.underlying71 Tryd.underlying5 Tryd.underlying9 (fun j hj => World.ownsRow.cells R2.out (g := g) rfl j _ (by simp [Lib.byteCells, hj]))
      clear R2 hl hB2 hg
      go_wp2
      go_ret2
      have e2 : q2 = 0 := (Prod.mk.inj HQ.out.2).2
      exact ⟨by rw [e2]; rfl, HQ.out.1⟩
  · have hne : (r != 0) = true := by simpa using h0
    have HQ : Hid ((q1, q2) = ([], r)) := HX.out h0
    have HN : Hid (r ≠ 0) := h0
    clear h0 HWR HX
    go_wp2
    go_ret2
    have e1 : q1 = [] := (Prod.mk.inj HQ.out).1
    have e2 : q2 = r := (Prod.mk.inj HQ.out).2
    exact ⟨by rw [e1, e2]; rfl, B1.out⟩

end Go.Proofs

/-
  infix: the statements' small case, as closed facts.
-/
namespace Go.Proofs
open Go.RowKit

namespace Ix
def mixS : List UInt8 := [110, 111, 116, 32, 36, 48, 32, 43, 32, 49, 32, 61, 32, 50, 32, 111, 114, 32, 36, 49, 32, 60, 32, 51]
def mixT : Tm := .mk 14 0 [.mk 4 0 [.mk 10 0 [.mk 5 0 [.mk 2 0 [], .mk 1 1 []], .mk 1 2 []]], .mk 11 0 [.mk 2 1 [], .mk 1 3 []]]
theorem mix_parse : parse mixS = (mixT, 0, 0) := by kernel_rfl
theorem mix_text : textI mixT = ([36, 48, 32, 43, 32, 49, 32, 33, 61, 32, 50, 32, 111, 114, 32, 36, 49, 32, 60, 32, 51], 0) := by kernel_rfl
end Ix

end Go.Proofs

/-
  infix: the statements' small case.
-/
namespace Go.Proofs
open Go.RowKit

set_option maxHeartbeats 4000000 in
set_option maxRecDepth 20000 in
theorem Tryd.mixed29_any (w : World) (hE : Ix.WEnv w.heap.size w) :
    Calls Tryd.prog 10 #[] w fun e w' => e = .returned (.bool true) ∧ Below w.heap.size w w' := by
  have H1 : Hid _ := Tryd.iparse_any Ix.mixS w hE.tabs hE.ops hE.b2 hE.pow (by decide)
  have HE : Hid (∀ (W : World) (d : Nat) (v : Value), Below w.heap.size w W → Tm.LiesIn W w.heap.size W.heap.size d v Ix.mixT → ∀ Z : World, Below W.heap.size W Z → Calls Tryd.prog 16 #[.agg #[.int .i64 14, .int .i64 0, v]] Z fun e w' => e = .returned (.tuple #[.string ⟨#[36, 48, 32, 43, 32, 49, 32, 33, 61, 32, 50, 32, 111, 114, 32, 36, 49, 32, 60, 32, 51]⟩, .int .i64 0]) ∧ Hid (Below Z.heap.size Z w')) := fun W d v hb hl Z hz => by
    have := Tryd.infixText_any d Ix.mixT v Z ((hl.lies.below hz).wider hz.size) (by
      have h1 := (hE.below hb).below (hz.mono hb.size)
      exact ⟨h1.tabs, h1.ops, fun Y hY => h1.pow Y (hY.mono (Nat.le_trans hb.size hz.size)), Nat.lt_of_lt_of_le h1.b1 (Nat.le_trans hb.size hz.size), Nat.lt_of_lt_of_le h1.b2 (Nat.le_trans hb.size hz.size), Nat.lt_of_lt_of_le h1.b3 (Nat.le_trans hb.size hz.size)⟩) (by decide)
    rw [Ix.mix_text] at this
    exact this
  clear hE
  unfold Ix.PTold at H1
  rw [Ix.mix_parse] at H1
  go_enter Tryd.func10, Tryd.ntmps10
  go_wp2_with fail
  refine Calls.mono H1.out ?_
  rintro e W1 ⟨op, n, a, len, cap, rfl, hb, rfl, rfl, d, hl⟩
  have HB : Hid (Below w.heap.size w W1) := hb
  obtain ⟨W2, hW2⟩ : ∃ z, W1.alloc (.cells #[.int .i64 14, .int .i64 0, .slice a len cap] 37) = z := ⟨_, rfl⟩
  have HW2 : Hid (W1.alloc (.cells #[.int .i64 14, .int .i64 0, .slice a len cap] 37) = W2) := hW2
  have B2 : Hid (Below W1.heap.size W1 W2) := by show Below _ _ _; rw [← hW2]; exact (Below.refl _ W1).alloc (Nat.le_refl _) _
  have hT2 : W2.heap[W1.heap.size]? = some (.cells #[.int .i64 14, .int .i64 0, .slice a len cap] 37 (0, 0)) := by rw [← hW2]; exact heap_alloc_new W1 _
  have HT2 : Hid _ := hT2
  have H2 : Hid _ := HE.out W1 d _ hb hl W2 B2.out
  have hlt : Hid (W1.heap.size < W2.heap.size) := (Array.getElem?_eq_some_iff.1 hT2).1
  obtain ⟨⟨y0, y1, y2⟩, -⟩ := Tk.row3 hT2
  clear hW2 hT2 hb hl HE H1
  simp only [show Ix.mixT.op = 14 from rfl, show Ix.mixT.num = 0 from rfl]
  go_upto_region 2 with fail
  rw [HW2.out]
  go_wp2_with fail
  refine Calls.mono H2.out ?_
  rintro e W3 ⟨rfl, H3⟩
  have HT3 : W3.heap[W1.heap.size]? = some (.cells #[.int .i64 14, .int .i64 0, .slice a len cap] 37 (0, 0)) := (H3.out.block _ hlt.out).trans HT2.out
  obtain ⟨⟨x0, x1, x2⟩, -⟩ := Tk.row3 HT3
  clear HT3
  go_wp2
  go_ret
  exact ⟨rfl, HB.out.trans (B2.out.trans (H3.out.mono B2.out.size) |>.mono HB.out.size)⟩

end Go.Proofs

/-
  The walk of InfixTokens: the tokens of any text, or where it has none.
-/
namespace Go.Proofs.YtehmmfmofdgheaaDoor.InfixTokens
open Go.RowKit

theorem tok_at {T : TypeId} {W : World} {B n c : Nat} {a : Option Addr} {L : List Ix.Tok} (h : W.ownsRow B T 3 (.slice a n c) n (Ix.cells L)) (hn : n = L.length) (k : Nat) (hk : k < L.length) :
    ∃ g, a = some ⟨g, 0, none⟩ ∧ W.cell? ⟨g, k * 3, none⟩ = some (.int .i64 L[k].kind) ∧ W.cell? ⟨g, k * 3 + 1, none⟩ = some (.int .i64 (L[k].at_ : Nat)) ∧ W.cell? ⟨g, k * 3 + 2, none⟩ = some (.string ⟨L[k].text.toArray⟩) := by
  have hh := h
  rcases h with ⟨hl, ⟨hv, hz⟩ | ⟨g, cc, cur, hv, hB2, hg⟩⟩
  · omega
  · obtain ⟨rfl, -, rfl⟩ := Value.slice.inj hv
    obtain ⟨c0, c1, c2⟩ := Ix.cells_get L k hk
    have q := fun j u => World.ownsRow.cells hh (g := g) rfl j u
    refine ⟨g, rfl, ?_, ?_, ?_⟩
    · have h0 := q _ _ c0
      unfold Addr.add at h0
      split at h0
      · rename_i hz; rw [hz]; exact h0
      · simpa using h0
    · simpa [Addr.add] using q _ _ c1
    · simpa [Addr.add] using q _ _ c2

set_option maxHeartbeats 8000000 in
set_option maxRecDepth 20000 in
theorem walk (ls : List UInt8) (w : World) (hE : Ix.WEnv w.heap.size w) (hlz : ls.length ≤ 9223372036854775807) :
    Calls Tryd.prog 3 #[.string ⟨ls.toArray⟩] w fun e w' => e = .returned (.bool true) ∧ Below w.heap.size w w' := by
  obtain ⟨s, hs⟩ : ∃ s : ByteArray, s = ⟨ls.toArray⟩ := ⟨_, rfl⟩
  have hsz : s.size = ls.length := by rw [hs]; simp [ByteArray.size]
  have HSZ : Hid (s.size = ls.length) := hsz
  have hs9 : s.size ≤ 9223372036854775807 := by omega
  have HH : Hid (∀ W, Below w.heap.size w W → Calls Tryd.prog 10 #[] W fun e w' => e = .returned (.bool true) ∧ Hid (Below w.heap.size w w')) := fun W hW => by
    have h1 := hE.below hW
    exact (Tryd.mixed29_any W ⟨h1.tabs, h1.ops, fun Y hY => h1.pow Y (hY.mono hW.size), Nat.lt_of_lt_of_le h1.b1 hW.size, Nat.lt_of_lt_of_le h1.b2 hW.size, Nat.lt_of_lt_of_le h1.b3 hW.size⟩).mono fun e w' ⟨he, hb⟩ => ⟨he, hW.trans (hb.mono hW.size)⟩
  have H1 : Hid (Calls Tryd.prog 9 #[.string s] w fun e w' => Ix.Tokd ls w e w') := by
    have := Tryd.tokens_any ls w hE.tabs hE.ops hlz
    rw [← hs] at this
    exact this
  have H2 : Hid (ls.length ≤ 4000 → ∀ W, Calls Tryd.prog 11 #[.string s] W fun e w' => Ix.RTokd ls W e w') := fun h W => by
    have := Tryd.rread_any ls W (by omega)
    rw [← hs] at this
    exact this
  rw [← hs]
  clear hE hlz hs hsz
  by_cases hlong : 20000 < s.size
  · go_enter Tryd.func3, Tryd.ntmps3
    go_wp2_with fail
    refine Calls.mono H1.out ?_
    rintro e W1 ⟨a1, n1, c1, p1, e1, rfl, b1, h1⟩
    rw [if_pos (by have := HSZ.out; omega)] at h1
    obtain ⟨rfl, rfl, rfl, rfl, rfl⟩ := h1
    have HM : Hid (Calls Tryd.prog 10 #[] W1 fun e w' => e = .returned (.bool true) ∧ Hid (Below w.heap.size w w')) := HH.out W1 b1
    clear b1
    go_wp2_with fail
    refine Calls.mono HM.out ?_
    rintro e W2 ⟨rfl, b2⟩
    go_wp2
    go_ret
    exact ⟨rfl, b2.out⟩
  by_cases hmid : 4000 < s.size
  · go_enter Tryd.func3, Tryd.ntmps3
    go_wp2_with fail
    refine Calls.mono H1.out ?_
    rintro e W1 ⟨a1, n1, c1, p1, e1, rfl, b1, h1⟩
    have HM : Hid (Calls Tryd.prog 10 #[] W1 fun e w' => e = .returned (.bool true) ∧ Hid (Below w.heap.size w w')) := HH.out W1 b1
    clear b1 h1
    go_wp2_with fail
    refine Calls.mono HM.out ?_
    rintro e W2 ⟨rfl, b2⟩
    go_wp2
    go_ret
    exact ⟨rfl, b2.out⟩
  go_enter Tryd.func3, Tryd.ntmps3
  go_wp2_with fail
  refine Calls.mono H1.out ?_
  rintro e W1 ⟨a1, n1, c1, p1, e1, rfl, b1, h1⟩
  rw [if_neg (by have := HSZ.out; omega)] at h1
  have HB1 : Hid (Below w.heap.size w W1) := b1
  have HT1 : Hid _ := h1
  have HR : Hid _ := H2.out (by have := HSZ.out; omega) W1
  clear b1 h1 H1 H2
  go_wp2_with fail
  refine Calls.mono HR.out ?_
  rintro e W2 ⟨a2, n2, c2, bad, rfl, b2, h2⟩
  have HB2 : Hid (Below W1.heap.size W1 W2) := b2
  obtain ⟨W3, hW3⟩ : ∃ z, W2.alloc (.cells #[.slice a2 n2 c2, .int .i64 bad] 29) = z := ⟨_, rfl⟩
  have HW3 : Hid (W2.alloc (.cells #[.slice a2 n2 c2, .int .i64 bad] 29) = W3) := hW3
  have b3 : Below W2.heap.size W2 W3 := by rw [← hW3]; exact (Below.refl _ W2).alloc (Nat.le_refl _) _
  have n3 : W3.heap[W2.heap.size]? = some (.cells #[.slice a2 n2 c2, .int .i64 bad] 29 (0, 0)) := by rw [← hW3]; exact heap_alloc_new W2 _
  obtain ⟨r0, r1⟩ := (Ix.row2 n3).1
  have HB3 : Hid (Below w.heap.size w W3 ∧ Below W1.heap.size W1 W3 ∧ Below W2.heap.size W2 W3) := ⟨HB1.out.trans (b2.mono HB1.out.size |>.trans (b3.mono (Nat.le_trans HB1.out.size b2.size))), b2.trans (b3.mono b2.size), b3⟩
  have HN3 : Hid _ := n3
  have HM3 : Hid (∀ W, Below W3.heap.size W3 W → (Calls Tryd.prog 10 #[] W fun e w' => e = .returned (.bool true) ∧ Hid (Below w.heap.size w w'))) := fun W hW => HH.out W (HB3.out.1.trans (hW.mono HB3.out.1.size))
  clear hW3 b3 n3 b2 HR HH
  go_upto_region 7 with fail
  rw [HW3.out]
  cases hq : Ix.toksR ls with
  | error b =>
    rw [hq] at h2
    have h1 := HT1.out
    rw [hq] at h1
    obtain ⟨rfl, rfl, rfl, rfl⟩ := h2
    obtain ⟨rfl, rfl, rfl, rfl, rfl⟩ := h1
    have HM4 : Hid (Calls Tryd.prog 10 #[] W3 fun e w' => e = .returned (.bool true) ∧ Hid (Below w.heap.size w w')) := HM3.out W3 (Below.refl _ _)
    clear HM3 hq HT1
    go_wp2_with fail
    refine Calls.mono HM4.out ?_
    rintro e W4 ⟨rfl, b4⟩
    go_wp2
    go_ret
    exact ⟨rfl, b4.out⟩
  | ok L =>
    rw [hq] at h2
    have h1 := HT1.out
    rw [hq] at h1
    obtain ⟨rfl, rfl, o2⟩ := h2
    obtain ⟨rfl, rfl, rfl, o1⟩ := h1
    have HT : Hid (∀ (W : World), Below W3.heap.size W3 W → ∀ k (hk : k < L.length), (∃ g, a1 = some ⟨g, 0, none⟩ ∧ W.cell? ⟨g, k * 3, none⟩ = some (.int .i64 L[k].kind) ∧ W.cell? ⟨g, k * 3 + 1, none⟩ = some (.int .i64 (L[k].at_ : Nat)) ∧ W.cell? ⟨g, k * 3 + 2, none⟩ = some (.string ⟨L[k].text.toArray⟩)) ∧
        (∃ g, a2 = some ⟨g, 0, none⟩ ∧ W.cell? ⟨g, k * 3, none⟩ = some (.int .i64 L[k].kind) ∧ W.cell? ⟨g, k * 3 + 1, none⟩ = some (.int .i64 (L[k].at_ : Nat)) ∧ W.cell? ⟨g, k * 3 + 2, none⟩ = some (.string ⟨L[k].text.toArray⟩))) := fun W hW k hk =>
      ⟨tok_at (Ix.own_below o1 (HB3.out.2.1.trans (hW.mono HB3.out.2.1.size))) rfl k hk, tok_at (Ix.own_below o2 (HB3.out.2.2.trans (hW.mono HB3.out.2.2.size))) rfl k hk⟩
    have hlen : L.length ≤ 9223372036854775807 := by
      rcases o1 with ⟨hl, ⟨hv, hz⟩ | ⟨g, cc, cur, hv, hB2, hg, hnc, hcm, -⟩⟩
      · omega
      · unfold maxLen at hcm; omega
    have HL : Hid (L.length ≤ 9223372036854775807) := hlen
    obtain ⟨n, hn⟩ : ∃ z, L.length = z := ⟨_, rfl⟩
    rw [hn] at HN3 r0 hlen ⊢
    have HLN : Hid (L.length = n) := hn
    clear hq HT1 o1 o2 hn
    go_upto_region 12 with fail
    clear r0 r1
    go_loopg [72] n (fun g i wr => ∃ k : Nat, g + k = n ∧ i = .int .i64 k ∧ Hid (Below W3.heap.size W3 wr))
    case atStart => exact ⟨0, by omega, rfl, Below.refl _ _⟩
    case round =>
      obtain ⟨k, hg, rfl, HI⟩ := hrel
      by_cases hk : k < n
      · obtain ⟨⟨g1, rfl, p0, p1, p2⟩, g2, rfl, q0, q1, q2⟩ := HT.out wr HI.out k (by rw [HLN.out]; exact hk)
        obtain ⟨kd, hkd⟩ : ∃ z, (L[k]'(by rw [HLN.out]; exact hk)).kind = z := ⟨_, rfl⟩
        obtain ⟨at1, hat⟩ : ∃ z, (L[k]'(by rw [HLN.out]; exact hk)).at_ = z := ⟨_, rfl⟩
        obtain ⟨tx, htx⟩ : ∃ z : ByteArray, (⟨(L[k]'(by rw [HLN.out]; exact hk)).text.toArray⟩ : ByteArray) = z := ⟨_, rfl⟩
        rw [hkd] at p0 q0
        rw [hat] at p1 q1
        rw [htx] at p2 q2
        have n4 : wr.heap[W2.heap.size]? = some (.cells #[.slice (some ⟨g2, 0, none⟩) n c2, .int .i64 (-1)] 29 (0, 0)) := (HI.out.block _ (Array.getElem?_eq_some_iff.1 HN3.out).1).trans HN3.out
        obtain ⟨r0, r1⟩ := (Ix.row2 n4).1
        have e1 : (kd != kd) = false := by simp
        have e2 : ((at1 : Int) != (at1 : Int)) = false := by simp
        clear hkd hat htx n4
        go_upto_region 14 with fail
        go_quiet (fail)
        go_wp2
        go_roundg (gk - 1)
        case measure => omega
        case rel =>
          refine ⟨k + 1, by omega, by go_num, ?_⟩
          show Below _ _ _
          exact HI.out.trans ⟨rfl, rfl, rfl, Nat.le_refl _, fun _ _ => rfl⟩
      · have HM5 : Hid (Calls Tryd.prog 10 #[] wr fun e w' => e = .returned (.bool true) ∧ Hid (Below w.heap.size w w')) := HM3.out wr HI.out
        clear HM3
        go_wp2_with fail
        refine Calls.mono HM5.out ?_
        rintro e W4 ⟨rfl, b4⟩
        go_wp2
        go_ret
        exact ⟨rfl, b4.out⟩

end Go.Proofs.YtehmmfmofdgheaaDoor.InfixTokens
