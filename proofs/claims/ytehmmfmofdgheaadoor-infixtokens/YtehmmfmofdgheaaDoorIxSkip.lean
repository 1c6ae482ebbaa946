/-
  infix: the contracts of the reader's place, skip and operator.
-/
import Derived.Test.YtehmmfmofdgheaaDoorIxTokens
namespace Go.Proofs
open Go.RowKit

/-- A reader in block b: the tokens that are left, which lie below B. -/
def Ix.At (B b : Nat) (l : List Ix.Tok) (w : World) : Prop :=
  ∃ a cap, w.heap[b]? = some (.cells #[.slice a l.length cap] 63 (0, 0)) ∧ l.length ≤ cap ∧ cap ≤ 9223372036854775807 ∧ l.length ≤ 2000 ∧ B ≤ b ∧ (l = [] ∨ ∃ g off, a = some ⟨g, off, none⟩ ∧ g < B ∧
    ∀ j (h : j < l.length), w.cell? ⟨g, off + j * 3, none⟩ = some (.int .i64 l[j].kind) ∧ w.cell? ⟨g, off + j * 3 + 1, none⟩ = some (.int .i64 (l[j].at_ : Nat)) ∧ w.cell? ⟨g, off + j * 3 + 2, none⟩ = some (.string ⟨l[j].text.toArray⟩))
theorem Ix.At.lt {B b : Nat} {l : List Ix.Tok} {w : World} (h : Ix.At B b l w) : b < w.heap.size := by
  obtain ⟨a, cap, h, _⟩ := h
  exact (Array.getElem?_eq_some_iff.1 h).1
theorem Ix.At.len {B b : Nat} {l : List Ix.Tok} {w : World} (h : Ix.At B b l w) : l.length ≤ 2000 := by
  obtain ⟨a, cap, _, _, _, h, _⟩ := h
  exact h
theorem Ix.At.base {B b : Nat} {l : List Ix.Tok} {w : World} (h : Ix.At B b l w) : B ≤ b := by
  obtain ⟨a, cap, _, _, _, _, h, _⟩ := h
  exact h
theorem Ix.At.keep {B b : Nat} {l : List Ix.Tok} {w w' : World} (h : Ix.At B b l w) (hk : ∀ k, k < B → w'.heap[k]? = w.heap[k]?) (hb : w'.heap[b]? = w.heap[b]?) : Ix.At B b l w' := by
  obtain ⟨a, cap, h1, h2, h3, h4, h5, h6⟩ := h
  refine ⟨a, cap, hb.trans h1, h2, h3, h4, h5, h6.elim .inl fun ⟨g, off, ha, hg, hr⟩ => .inr ⟨g, off, ha, hg, fun j hj => ?_⟩⟩
  have hc : ∀ o, w'.cell? ⟨g, o, none⟩ = w.cell? ⟨g, o, none⟩ := fun o => World.cell?_of_block (w := w) (hk g hg)
  rw [hc, hc, hc]
  exact hr j hj
theorem Ix.At.below {B b : Nat} {l : List Ix.Tok} {w w' : World} (h : Ix.At B b l w) (hb : Below w.heap.size w w') : Ix.At B b l w' :=
  h.keep (fun k hk => hb.block k (Nat.lt_trans hk (Nat.lt_of_le_of_lt h.base h.lt))) (hb.block b h.lt)
/-- One is taken off. -/
theorem Ix.At.tail {B b : Nat} {x : Ix.Tok} {l : List Ix.Tok} {w : World} {g off cap : Nat} (hc : w.heap[b]? = some (.cells #[.slice (some ⟨g, off, none⟩) (l.length + 1) cap] 63 (0, 0))) (_h1 : l.length + 1 ≤ cap) (h2 : cap ≤ 9223372036854775807) (h3 : l.length + 1 ≤ 2000) (h4 : B ≤ b) (h5 : g < B)
    (hr : ∀ j (h : j < (x :: l).length), w.cell? ⟨g, off + j * 3, none⟩ = some (.int .i64 (x :: l)[j].kind) ∧ w.cell? ⟨g, off + j * 3 + 1, none⟩ = some (.int .i64 ((x :: l)[j].at_ : Nat)) ∧ w.cell? ⟨g, off + j * 3 + 2, none⟩ = some (.string ⟨(x :: l)[j].text.toArray⟩))
    {a : Option Addr} {c' : Nat} (hc1 : l.length ≤ c') (hc2 : c' ≤ cap) (ha : l = [] ∨ a = some ⟨g, off + 3, none⟩) : Ix.At B b l (w.setCell ⟨b, 0, none⟩ (.slice a l.length c')) := by
  refine ⟨a, c', by simp [World.setCell, Array.getElem?_modify, hc], by omega, by omega, by omega, h4, ha.elim .inl fun ha => .inr ⟨g, off + 3, ha, h5, fun j hj => ?_⟩⟩
  have hb : (w.setCell ⟨b, 0, none⟩ (.slice a l.length c')).heap[g]? = w.heap[g]? := Below.heap_setCell _ _ _ _ (by simp; omega)
  have hcc : ∀ o, (w.setCell ⟨b, 0, none⟩ (.slice a l.length c')).cell? ⟨g, o, none⟩ = w.cell? ⟨g, o, none⟩ := fun o => World.cell?_of_block (w := w) hb
  have := hr (j + 1) (by simpa using hj)
  rw [hcc, hcc, hcc]
  rw [show off + 3 + j * 3 = off + (j + 1) * 3 by omega]
  simpa using this

/-- The first token that is left has this text. -/
def Ix.headB (l : List Ix.Tok) (p : List UInt8) : Bool := match l with | [] => false | x :: _ => x.text == p
def Ix.skipL (l : List Ix.Tok) (p : List UInt8) : List Ix.Tok := if Ix.headB l p = true then l.drop 1 else l

set_option maxHeartbeats 4000000 in
set_option maxRecDepth 20000 in
theorem Tryd.iskip_any (B b : Nat) (l : List Ix.Tok) (p : ByteArray) (w : World) (h : Ix.At B b l w) :
    Calls Tryd.prog 60 #[.pointer (some ⟨b, 0, none⟩), .string p] w fun e w' => e = .returned (.bool (Ix.headB l p.data.toList)) ∧ Ix.At B b (Ix.skipL l p.data.toList) w' ∧ Tk.But (fun k => k = b) w w' := by
  have HA : Hid (Ix.At B b l w) := h
  obtain ⟨a, cap, h1, h2, h3, h4, h5, h6⟩ := h
  have c0 : w.cell? ⟨b, 0, none⟩ = some (.slice a l.length cap) := by simp [World.cell?, h1]
  have f0 : w.frozen? ⟨b, 0, none⟩ = false := by simp [World.frozen?, h1]
  have HC : Hid _ := h1
  cases l with
  | nil =>
    simp only [List.length_nil] at c0
    clear h1 h6
    go_enter Tryd.func60, Tryd.ntmps60
    go_wp2
    go_ret
    exact ⟨rfl, HA.out, Tk.But.refl _ _⟩
  | cons x l =>
    obtain ⟨g, off, rfl, hg, hr⟩ := h6.resolve_left (List.cons_ne_nil _ _)
    have HR : Hid _ := hr
    obtain ⟨r0, r1, r2⟩ := hr 0 (by simp)
    simp only [List.getElem_cons_zero, Nat.zero_mul, Nat.add_zero] at r0 r1 r2
    obtain ⟨n, hn⟩ : ∃ n, l.length = n := ⟨_, rfl⟩
    have HN : Hid (l.length = n) := hn
    simp only [List.length_cons, hn] at c0 h2 h4
    obtain ⟨ts, hts⟩ : ∃ s : ByteArray, s = ⟨x.text.toArray⟩ := ⟨_, rfl⟩
    rw [← hts] at r2
    have HT : Hid (Ix.headB (x :: l) p.data.toList = (ts.toList == p.toList)) := by show _ = _; rw [hts, Lib.toList_data, Lib.toList_data]; rfl
    clear hr h1 hn hts h6
    by_cases he : ts.toList = p.toList
    · have e1 : (ts.toList == p.toList) = true := by simpa using he
      have HX : Hid (Ix.headB (x :: l) p.data.toList = true) := by show _ = _; rw [HT.out, e1]
      clear he
      go_enter Tryd.func60, Tryd.ntmps60
      go_wp2
      all_goals
        go_ret
        refine ⟨by rw [HX.out]; rfl, ?_, (Tk.But.refl _ w).setCell (E := fun k => k = b) (p := ⟨b, 0, none⟩) rfl _⟩
        unfold Ix.skipL
        rw [HX.out, if_pos rfl, List.drop_one, List.tail_cons]
        have hnn := HN.out
        have h9 := HC.out
        simp only [List.length_cons] at h9
        rw [← hnn]
        exact Ix.At.tail (x := x) (l := l) h9 (by omega) h3 (by omega) h5 hg HR.out (by omega) (by omega) (by first | exact .inr rfl | exact .inl (List.length_eq_zero_iff.1 (by omega)))
    · have e1 : (ts.toList == p.toList) = false := by simpa using he
      have HX : Hid (Ix.headB (x :: l) p.data.toList = false) := by show _ = _; rw [HT.out, e1]
      clear he
      go_enter Tryd.func60, Tryd.ntmps60
      go_wp2
      go_ret
      refine ⟨by rw [HX.out]; rfl, ?_, Tk.But.refl _ _⟩
      unfold Ix.skipL
      rw [HX.out, if_neg (by decide)]
      exact HA.out

end Go.Proofs
