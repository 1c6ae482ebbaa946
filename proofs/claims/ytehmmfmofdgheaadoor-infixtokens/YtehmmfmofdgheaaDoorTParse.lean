/-
  The contract of Parse.
-/
import Derived.Test.YtehmmfmofdgheaaDoorTTerm
namespace Go.Proofs
open Go.RowKit

/-- What Parse answers. -/
def Tk.Parsed (r : Except Int Tm) (w : World) (e : Ending) (w' : World) : Prop :=
  ∃ (op n : Int) (a : Option Addr) (len cap : Nat) (err : Int), e = .returned (.tuple #[.agg #[.int .i64 op, .int .i64 n, .slice a len cap], .int .i64 err]) ∧ Below w.heap.size w w' ∧
    match r with
    | .error x => err = x ∧ op = 0 ∧ n = 0 ∧ a = none ∧ len = 0 ∧ cap = 0
    | .ok T => err = 0 ∧ op = T.op ∧ n = T.num ∧ Tm.LiesIn w' w.heap.size w'.heap.size 24 (.slice a len cap) T

set_option maxHeartbeats 4000000 in
set_option maxRecDepth 20000 in
theorem Tryd.parse_any (l : List UInt8) (w : World) (hO : Tk.Ops w) (hl : l.length ≤ 1000000) :
    Calls Tryd.prog 58 #[.string ⟨l.toArray⟩] w fun e w' => Tk.Parsed (Tk.parseR l) w e w' := by
  obtain ⟨s, hs⟩ : ∃ s : ByteArray, s = ⟨l.toArray⟩ := ⟨_, rfl⟩
  have hsz : s.size = l.length := by rw [hs]; simp [ByteArray.size]
  rw [← hs]
  obtain ⟨pr, hpr⟩ : ∃ x, Tk.parseR l = x := ⟨_, rfl⟩
  have HPR : Hid (Tk.parseR l = pr) := hpr
  rw [hpr]
  clear hpr
  have HN0 : Hid ((w.alloc (.cells #[.int .i64 0, .int .i64 0, .slice none 0 0] 37)).heap[w.heap.size]? = some (.cells #[.int .i64 0, .int .i64 0, .slice none 0 0] 37 (0, 0))) := heap_alloc_new w _
  have HB0 : Hid (Below w.heap.size w (w.alloc (.cells #[.int .i64 0, .int .i64 0, .slice none 0 0] 37))) := (Below.refl _ w).alloc (Nat.le_refl _) _
  by_cases hbig : 20000 < l.length
  · have hb : 20000 < s.size := by omega
    have HE : Hid (.error 2 = pr) := by have := HPR.out; unfold Tk.parseR at this; rw [if_pos hbig] at this; exact this
    have hs6 : s.size ≤ 1000000 := by omega
    clear hbig hs hsz hl HPR hO
    go_enter Tryd.func58, Tryd.ntmps58
    go_wp2
    refine bodyPost_ret (Tk.results_term Tryd.results58 _ _ w.heap.size _ _ _ rfl HN0.out) rfl ?_
    rw [← HE.out]
    exact ⟨_, _, _, _, _, _, rfl, HB0.out, rfl, rfl, rfl, rfl, rfl, rfl⟩
  · have hb : s.size ≤ 20000 := by omega
    have HE : Hid ((match Tk.termF 24 l with | some (t, []) => .ok t | _ => .error 4) = pr) := by have := HPR.out; unfold Tk.parseR at this; rw [if_neg hbig] at this; exact this
    have B1 : Hid (Below w.heap.size w ((w.alloc (.cells #[.int .i64 0, .int .i64 0, .slice none 0 0] 37)).alloc (.cells #[.string s] 117))) := HB0.out.alloc (by simp) _
    have R1 : Hid (Tk.Rd (w.heap.size + 1) l ((w.alloc (.cells #[.int .i64 0, .int .i64 0, .slice none 0 0] 37)).alloc (.cells #[.string s] 117))) := by
      have := heap_alloc_new (w.alloc (.cells #[.int .i64 0, .int .i64 0, .slice none 0 0] 37)) (.cells #[.string s] 117)
      show Tk.Rd _ _ _
      unfold Tk.Rd
      rw [← hs]
      simpa using this
    have O1 : Hid (Tk.Ops ((w.alloc (.cells #[.int .i64 0, .int .i64 0, .slice none 0 0] 37)).alloc (.cells #[.string s] 117))) := hO.below B1.out hO.lt
    have N1 : Hid (((w.alloc (.cells #[.int .i64 0, .int .i64 0, .slice none 0 0] 37)).alloc (.cells #[.string s] 117)).heap[w.heap.size]? = some (.cells #[.int .i64 0, .int .i64 0, .slice none 0 0] 37 (0, 0))) := (Below.heap_alloc _ _ _ (by simp)).trans HN0.out
    have S1 : Hid (((w.alloc (.cells #[.int .i64 0, .int .i64 0, .slice none 0 0] 37)).alloc (.cells #[.string s] 117)).heap.size = w.heap.size + 2) := by show _ = _; simp
    have HC : Hid (Calls Tryd.prog 74 #[.pointer (some ⟨w.heap.size + 1, 0, none⟩), .int .i64 24] ((w.alloc (.cells #[.int .i64 0, .int .i64 0, .slice none 0 0] 37)).alloc (.cells #[.string s] 117)) fun e w' => Tk.Read 24 (w.heap.size + 1) (Tk.termF 24 l) ((w.alloc (.cells #[.int .i64 0, .int .i64 0, .slice none 0 0] 37)).alloc (.cells #[.string s] 117)) e w') :=
      Tryd.term_any 24 (by omega) (w.heap.size + 1) l _ R1.out O1.out (by have := hO.lt; omega) (by omega)
    clear hs hsz hl hbig HPR hO
    go_enter Tryd.func58, Tryd.ntmps58
    go_wp2_with fail
    refine Calls.mono HC.out ?_
    rintro e W2 ⟨op', n', a', len', cap', rfl, b2, h2⟩
    obtain ⟨X, hX⟩ : ∃ X, X = (Obj.cells #[.int .i64 op', .int .i64 n', .slice a' len' cap'] 37) := ⟨_, rfl⟩
    have hs2 : w.heap.size + 2 ≤ W2.heap.size := by have := b2.size; rw [S1.out] at this; exact this
    have B2 : Hid (Below w.heap.size w (W2.alloc X)) := (B1.out.trans (b2.below (by have := S1.out; omega) (fun k hk => by omega))).alloc (by omega) _
    have N2 : Hid ((W2.alloc X).heap[w.heap.size]? = some (.cells #[.int .i64 0, .int .i64 0, .slice none 0 0] 37 (0, 0))) := (Below.heap_alloc _ _ _ (by omega)).trans ((b2.block w.heap.size (by have := S1.out; omega) (by omega)).trans N1.out)
    rw [hX] at B2 N2
    obtain ⟨⟨z0, z1, z2⟩, y0, y1, y2⟩ := Tk.row3 N2.out
    cases hq : Tk.termF 24 l with
    | none =>
      have HE2 : Hid (.error 4 = pr) := by have := HE.out; rw [hq] at this; exact this
      simp only [Option.isSome_none]
      clear hq h2 b2 hX
      go_wp2
      refine bodyPost_ret (Tk.results_term Tryd.results58 _ _ w.heap.size _ _ _ rfl (Tk.put3 N2.out)) rfl ?_
      rw [← HE2.out]
      exact ⟨_, _, _, _, _, _, rfl, Tk.bsetCell (Tk.bsetCell (Tk.bsetCell B2.out (Nat.le_refl _) _) (Nat.le_refl _) _) (Nat.le_refl _) _, rfl, rfl, rfl, rfl, rfl, rfl⟩
    | some p =>
      obtain ⟨T, r⟩ := p
      obtain ⟨rfl, rfl, hr, hrl, hli⟩ := h2 T r hq
      have hr' : Tk.Rd (w.heap.size + 1) r (W2.alloc X) := hr.keep (Below.heap_alloc _ _ _ hr.lt)
      rw [hX] at hr'
      have c0 := hr'.c0
      obtain ⟨rs, hrs⟩ : ∃ s : ByteArray, s = ⟨r.toArray⟩ := ⟨_, rfl⟩
      rw [← hrs] at c0
      have HLI : Hid (Tm.LiesIn W2 (w.heap.size + 1) W2.heap.size 24 (.slice a' len' cap') T) := hli.wider (by have := S1.out; omega) (Nat.le_refl _)
      simp only [Option.isSome_some]
      by_cases he : r = []
      · subst he
        have HE2 : Hid (.ok T = pr) := by have := HE.out; rw [hq] at this; exact this
        subst hrs
        clear hq h2 b2 hX hr hr' hli hrl
        go_wp2
        refine bodyPost_ret (Tk.results_term Tryd.results58 _ _ w.heap.size _ _ _ rfl (Tk.put3 N2.out)) rfl ?_
        rw [← HE2.out]
        refine ⟨T.op, T.num, a', len', cap', 0, rfl, Tk.bsetCell (Tk.bsetCell (Tk.bsetCell B2.out (Nat.le_refl _) _) (Nat.le_refl _) _) (Nat.le_refl _) _, rfl, rfl, rfl, ?_⟩
        have e6 : ∀ q, q ≠ w.heap.size → q < W2.heap.size → ((((W2.alloc (.cells #[.int .i64 T.op, .int .i64 T.num, .slice a' len' cap'] 37)).setCell ⟨w.heap.size, 0, none⟩ (.int .i64 T.op)).setCell ⟨w.heap.size, 1, none⟩ (.int .i64 T.num)).setCell ⟨w.heap.size, 2, none⟩ (.slice a' len' cap')).heap[q]? = W2.heap[q]? := fun q hq hq' =>
          (Below.heap_setCell _ _ _ _ hq).trans ((Below.heap_setCell _ _ _ _ hq).trans ((Below.heap_setCell _ _ _ _ hq).trans (Below.heap_alloc _ _ _ hq')))
        exact (HLI.out.keep fun q h1 h2 => e6 q (by omega) h2).wider (by omega) (by simp [World.setCell])
      · have HE2 : Hid (.error 4 = pr) := by
          have := HE.out; rw [hq] at this
          cases r with
          | nil => exact (he rfl).elim
          | cons c r => exact this
        have hne : rs.toList.isEmpty = false := by
          rw [hrs, Lib.toList_data]
          cases r with
          | nil => exact (he rfl).elim
          | cons c r => rfl
        clear hq h2 b2 hX hr hr' hli hrl he hrs
        go_wp2
        refine bodyPost_ret (Tk.results_term Tryd.results58 _ _ w.heap.size _ _ _ rfl (Tk.put3 N2.out)) rfl ?_
        rw [← HE2.out]
        exact ⟨_, _, _, _, _, _, rfl, Tk.bsetCell (Tk.bsetCell (Tk.bsetCell B2.out (Nat.le_refl _) _) (Nat.le_refl _) _) (Nat.le_refl _) _, rfl, rfl, rfl, rfl, rfl, rfl⟩

end Go.Proofs
