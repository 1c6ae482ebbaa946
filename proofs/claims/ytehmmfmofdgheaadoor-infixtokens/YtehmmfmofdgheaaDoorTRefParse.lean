/-
  The contract of the document's Parse, out of read's.
-/
import Derived.Test.YtehmmfmofdgheaaDoorTmRead
import Derived.Test.YtehmmfmofdgheaaDoorTParse
namespace Go.Proofs
open Go.RowKit

/-- What the document's read answers. -/
def Tk.Got4 (L i : Nat) (s : ByteArray) (o : Option (Tm × List UInt8)) (w : World) (e : Ending) (w' : World) : Prop :=
  ∃ (op n : Int) (a : Option Addr) (len cap : Nat) (en : Int), e = .returned (.agg #[.int .i64 op, .int .i64 n, .slice a len cap, .int .i64 en]) ∧ Below w.heap.size w w' ∧
    match o with
    | none => en = -1
    | some (T, r) => en = ((s.size - r.length : Nat) : Int) ∧ r.length ≤ s.size - i ∧ op = T.op ∧ n = T.num ∧ Tm.LiesIn w' w.heap.size w'.heap.size L (.slice a len cap) T
def Tk.ReadC (L : Nat) : Prop := ∀ (s : ByteArray) (i : Nat) (w : World), i ≤ s.size → s.size ≤ 20000 → Calls Tryd.prog 59 #[.string s, .int .i64 i, .int .i64 (25 - (L : Int))] w fun e w' => Tk.Got4 L i s (Tk.readF L (s.data.toList.drop i)) w e w'

set_option maxHeartbeats 4000000 in
set_option maxRecDepth 20000 in
theorem Tryd.refParse_of (hrd : Tk.ReadC 24) (l : List UInt8) (w : World) (hl : l.length ≤ 1000000) :
    Calls Tryd.prog 37 #[.string ⟨l.toArray⟩] w fun e w' => Tk.Parsed (Tk.parseR l) w e w' := by
  rw [← Tk.parse_same]
  obtain ⟨s, hs⟩ : ∃ s : ByteArray, s = ⟨l.toArray⟩ := ⟨_, rfl⟩
  have hsz : s.size = l.length := by rw [hs]; simp [ByteArray.size]
  rw [← hs]
  obtain ⟨pr, hpr⟩ : ∃ x, Tk.refParseR l = x := ⟨_, rfl⟩
  have HPR : Hid (Tk.refParseR l = pr) := hpr
  rw [hpr]
  clear hpr
  have HN0 : Hid ((w.alloc (.cells #[.int .i64 0, .int .i64 0, .slice none 0 0] 37)).heap[w.heap.size]? = some (.cells #[.int .i64 0, .int .i64 0, .slice none 0 0] 37 (0, 0))) := heap_alloc_new w _
  have HB0 : Hid (Below w.heap.size w (w.alloc (.cells #[.int .i64 0, .int .i64 0, .slice none 0 0] 37))) := (Below.refl _ w).alloc (Nat.le_refl _) _
  have S0 : Hid ((w.alloc (.cells #[.int .i64 0, .int .i64 0, .slice none 0 0] 37)).heap.size = w.heap.size + 1) := by show _ = _; simp
  by_cases hbig : 20000 < l.length
  · have hb : 20000 < s.size := by omega
    have HE : Hid (.error 2 = pr) := by have := HPR.out; unfold Tk.refParseR at this; rw [if_pos hbig] at this; exact this
    have hs6 : s.size ≤ 1000000 := by omega
    clear hbig hs hsz hl HPR hrd
    go_enter Tryd.func37, Tryd.ntmps37
    go_wp2
    refine bodyPost_ret (Tk.results_term Tryd.results37 _ _ w.heap.size _ _ _ rfl HN0.out) rfl ?_
    rw [← HE.out]
    exact ⟨_, _, _, _, _, _, rfl, HB0.out, rfl, rfl, rfl, rfl, rfl, rfl⟩
  · have hb : s.size ≤ 20000 := by omega
    have HE : Hid ((match Tk.readF 24 l with | some (t, []) => .ok t | _ => .error 4) = pr) := by have := HPR.out; unfold Tk.refParseR at this; rw [if_neg hbig] at this; exact this
    have HC : Hid (Calls Tryd.prog 59 #[.string s, .int .i64 0, .int .i64 1] (w.alloc (.cells #[.int .i64 0, .int .i64 0, .slice none 0 0] 37)) fun e w' => Tk.Got4 24 0 s (Tk.readF 24 l) (w.alloc (.cells #[.int .i64 0, .int .i64 0, .slice none 0 0] 37)) e w') := by
      have := hrd s 0 (w.alloc (.cells #[.int .i64 0, .int .i64 0, .slice none 0 0] 37)) (by omega) hb
      rw [hs] at this ⊢
      exact this
    have HSZ : Hid (s.size = l.length) := hsz
    clear hs hsz hl hbig HPR hrd
    go_enter Tryd.func37, Tryd.ntmps37
    go_wp2_with fail
    refine Calls.mono HC.out ?_
    rintro e W2 ⟨op', n', a', len', cap', en, rfl, b2, h2⟩
    have B2 : Hid (Below w.heap.size w (W2.alloc (.cells #[.int .i64 op', .int .i64 n', .slice a' len' cap', .int .i64 en] 98))) := (HB0.out.trans (b2.mono (by have := S0.out; omega))).alloc (by have := b2.size; have := S0.out; omega) _
    have N2 : Hid ((W2.alloc (.cells #[.int .i64 op', .int .i64 n', .slice a' len' cap', .int .i64 en] 98)).heap[w.heap.size]? = some (.cells #[.int .i64 0, .int .i64 0, .slice none 0 0] 37 (0, 0))) := (Below.heap_alloc _ _ _ (by have := b2.size; have := S0.out; omega)).trans ((b2.block w.heap.size (by have := S0.out; omega)).trans HN0.out)
    obtain ⟨⟨z0, z1, z2⟩, y0, y1, y2⟩ := Tk.row3 N2.out
    cases hq : Tk.readF 24 l with
    | none =>
      have HE2 : Hid (.error 4 = pr) := by have := HE.out; rw [hq] at this; exact this
      rw [hq] at h2
      obtain rfl : en = -1 := h2
      have hne : ((-1 : Int) != s.size) = true := by simp
      clear hq b2
      go_wp2
      refine bodyPost_ret (Tk.results_term Tryd.results37 _ _ w.heap.size _ _ _ rfl (Tk.put3 N2.out)) rfl ?_
      rw [← HE2.out]
      exact ⟨_, _, _, _, _, _, rfl, Tk.bsetCell (Tk.bsetCell (Tk.bsetCell B2.out (Nat.le_refl _) _) (Nat.le_refl _) _) (Nat.le_refl _) _, rfl, rfl, rfl, rfl, rfl, rfl⟩
    | some p =>
      obtain ⟨T, r⟩ := p
      rw [hq] at h2
      obtain ⟨rfl, hrl, rfl, rfl, hli⟩ := h2
      have HLI : Hid (Tm.LiesIn W2 (w.heap.size + 1) W2.heap.size 24 (.slice a' len' cap') T) := hli.wider (by have := S0.out; omega) (Nat.le_refl _)
      by_cases he : r = []
      · subst he
        have HE2 : Hid (.ok T = pr) := by have := HE.out; rw [hq] at this; exact this
        simp only [List.length_nil, Nat.sub_zero] at *
        have hne : ((s.size : Int) != s.size) = false := by simp
        clear hq b2 hli hrl
        go_wp2
        refine bodyPost_ret (Tk.results_term Tryd.results37 _ _ w.heap.size _ _ _ rfl (Tk.put3 N2.out)) rfl ?_
        rw [← HE2.out]
        refine ⟨T.op, T.num, a', len', cap', 0, rfl, Tk.bsetCell (Tk.bsetCell (Tk.bsetCell B2.out (Nat.le_refl _) _) (Nat.le_refl _) _) (Nat.le_refl _) _, rfl, rfl, rfl, ?_⟩
        have e6 : ∀ q, q ≠ w.heap.size → q < W2.heap.size → ((((W2.alloc (.cells #[.int .i64 T.op, .int .i64 T.num, .slice a' len' cap', .int .i64 s.size] 98)).setCell ⟨w.heap.size, 0, none⟩ (.int .i64 T.op)).setCell ⟨w.heap.size, 1, none⟩ (.int .i64 T.num)).setCell ⟨w.heap.size, 2, none⟩ (.slice a' len' cap')).heap[q]? = W2.heap[q]? := fun q hq hq' =>
          (Below.heap_setCell _ _ _ _ hq).trans ((Below.heap_setCell _ _ _ _ hq).trans ((Below.heap_setCell _ _ _ _ hq).trans (Below.heap_alloc _ _ _ hq')))
        exact (HLI.out.keep fun q h1 h2 => e6 q (by omega) h2).wider (by omega) (by simp [World.setCell])
      · have HE2 : Hid (.error 4 = pr) := by
          have := HE.out; rw [hq] at this
          cases r with
          | nil => exact (he rfl).elim
          | cons c r => exact this
        have hlp : 0 < r.length := List.length_pos_iff.2 he
        have hne : (((s.size - r.length : Nat) : Int) != s.size) = true := by simp; omega
        obtain ⟨en, hen⟩ : ∃ x : Int, ((s.size - r.length : Nat) : Int) = x := ⟨_, rfl⟩
        rw [hen] at hne B2 N2 z0 z1 z2 y0 y1 y2 ⊢
        clear hq b2 hli hrl he hlp hen
        go_wp2
        refine bodyPost_ret (Tk.results_term Tryd.results37 _ _ w.heap.size _ _ _ rfl (Tk.put3 N2.out)) rfl ?_
        rw [← HE2.out]
        exact ⟨_, _, _, _, _, _, rfl, Tk.bsetCell (Tk.bsetCell (Tk.bsetCell B2.out (Nat.le_refl _) _) (Nat.le_refl _) _) (Nat.le_refl _) _, rfl, rfl, rfl, rfl, rfl, rfl⟩

end Go.Proofs
