/-
  The contracts of the reader's skip and word.
-/
import Derived.Test.YtehmmfmofdgheaaDoorTmParse
import Derived.Test.YtehmmfmofdgheaaDoorTStep
import Derived.Lib.Strings
import Derived.Lib.IndexBytes
namespace Go.Proofs
open Go.RowKit

/-- A reader in block b: what is left of its text. -/
def Tk.Rd (b : Nat) (l : List UInt8) (w : World) : Prop := w.heap[b]? = some (.cells #[.string ⟨l.toArray⟩] 117 (0, 0))
theorem Tk.Rd.c0 {b : Nat} {l : List UInt8} {w : World} (h : Tk.Rd b l w) : w.cell? ⟨b, 0, none⟩ = some (.string ⟨l.toArray⟩) := by simp only [Tk.Rd] at h; simp [World.cell?, h]
theorem Tk.Rd.f0 {b : Nat} {l : List UInt8} {w : World} (h : Tk.Rd b l w) : w.frozen? ⟨b, 0, none⟩ = false := by simp only [Tk.Rd] at h; simp [World.frozen?, h]
theorem Tk.Rd.lt {b : Nat} {l : List UInt8} {w : World} (h : Tk.Rd b l w) : b < w.heap.size := (Array.getElem?_eq_some_iff.1 h).1
theorem Tk.Rd.put {b : Nat} {l : List UInt8} {w : World} (h : Tk.Rd b l w) (l' : List UInt8) : Tk.Rd b l' (w.setCell ⟨b, 0, none⟩ (.string ⟨l'.toArray⟩)) := by
  unfold Tk.Rd at *
  simp [World.setCell, Array.getElem?_modify, h]
theorem Tk.Rd.keep {b : Nat} {l : List UInt8} {w w' : World} (h : Tk.Rd b l w) (hk : w'.heap[b]? = w.heap[b]?) : Tk.Rd b l w' := by unfold Tk.Rd; rw [hk]; exact h

/-- What skip leaves. -/
def Tk.skipL (l p : List UInt8) : List UInt8 := Lib.trimPrefix l p

set_option maxHeartbeats 800000 in
theorem Tryd.skip_any (b : Nat) (l : List UInt8) (p : ByteArray) (w : World) (h : Tk.Rd b l w) :
    Calls Tryd.prog 82 #[.pointer (some ⟨b, 0, none⟩), .string p] w fun e w' => e = .returned (.bool (Lib.hasPrefix l p.data.toList)) ∧ Tk.Rd b (Tk.skipL l p.data.toList) w' ∧ Tk.But (fun k => k = b) w w' := by
  have c0 := h.c0
  have f0 := h.f0
  have HR : Hid (Tk.Rd b l w) := h
  have h1 := fun W => Tryd.cutPrefix ⟨l.toArray⟩ p W
  have H1 : Hid _ := h1
  clear h h1
  go_enter Tryd.func82, Tryd.ntmps82
  go_wp2_with fail
  refine Calls.mono (H1.out _) ?_
  rintro e W1 ⟨rfl, rfl⟩
  go_wp2
  go_ret
  exact ⟨rfl, HR.out.put _, (Tk.But.refl _ W1).setCell (E := fun k => k = b) (p := ⟨b, 0, none⟩) rfl _⟩

theorem Tk.ext_take (l : List UInt8) (e : Nat) : (⟨l.toArray⟩ : ByteArray).extract 0 e = ⟨(l.take e).toArray⟩ := by
  refine (Tk.ba_eq' ?_)
  rw [Lib.extract_data]
  simp
theorem Tk.ext_drop (l : List UInt8) (e : Nat) : (⟨l.toArray⟩ : ByteArray).extract e (⟨l.toArray⟩ : ByteArray).size = ⟨(l.drop e).toArray⟩ := by
  refine (Tk.ba_eq' ?_)
  rw [Lib.extract_data]
  simp only [ByteArray.size, List.size_toArray]
  exact List.take_of_length_le (by simp)

set_option maxHeartbeats 4000000 in
set_option maxRecDepth 20000 in
theorem Tryd.word_any (b : Nat) (l : List UInt8) (w : World) (h : Tk.Rd b l w) (hl : l.length ≤ 20000) :
    Calls Tryd.prog 85 #[.pointer (some ⟨b, 0, none⟩)] w fun e w' => e = .returned (.string ⟨(Tk.wordL l).toArray⟩) ∧ Tk.Rd b (l.drop (Tk.wordL l).length) w' ∧ Tk.But (fun k => k = b) w w' := by
  have c0 := h.c0
  have f0 := h.f0
  have HR : Hid (Tk.Rd b l w) := h
  obtain ⟨s, hs⟩ : ∃ s : ByteArray, s = ⟨l.toArray⟩ := ⟨_, rfl⟩
  have hsz : s.size = l.length := by rw [hs]; simp [ByteArray.size]
  rw [← hs] at c0
  have HS : Hid (s = ⟨l.toArray⟩) := hs
  have HG : Hid (∀ j (h : j < s.size) (h' : j < l.length), s[j] = l[j]) := by intro j h h'; subst hs; rfl
  have hblt := HR.out.lt
  have HSZ : Hid (s.size = l.length) := hsz
  have hs20 : s.size ≤ 20000 := by omega
  clear h hs hsz hl
  go_enter Tryd.func85, Tryd.ntmps85
  go_wp2
  go_loopw [3, 4, 5] (fun en i r wr => ∃ pos : Nat, en = .int .i64 s.size ∧ wr.heap[w.heap.size]? = some (.stringIter s pos) ∧ Below w.heap.size w wr ∧ pos ≤ s.size ∧ ∀ j (h : j < s.size), j < pos → Tk.wordB s[j] = true) (fun _ _ _ wr => s.size - wr.iterPos w.heap.size)
  case atStart =>
    refine ⟨0, rfl, ?_, (Below.refl _ w).alloc (Nat.le_refl _) _, by omega, fun j h hj => by omega⟩
    have := World.iter_heap w s 0
    simpa using this
  case round =>
    obtain ⟨pos, rfl, hit, hbw, hps, hall⟩ := hrel
    have HA : Hid (∀ j (h : j < s.size), j < pos → Tk.wordB s[j] = true) := hall
    have HBW : Hid (Below w.heap.size w wr) := hbw
    clear hall
    by_cases hlt : pos < s.size
    · by_cases ha : (s[pos]'hlt).toNat < 128
      · have hnx : ∀ ty, (Instr.next (.pointer (some ⟨w.heap.size, 0, none⟩)) true ty).run Tryd.prog wr = _ := fun ty => Lib.run_next_ascii_at wr w.heap.size s pos ty hit hlt ha
        have hit2 := Lib.iterAt_heap wr w.heap.size s pos (pos + 1) hit
        have hbw2 := Lib.below_iterAt hbw (k := w.heap.size) (by omega) s (pos + 1)
        have W1 : Hid (Below w.heap.size w (wr.iterAt w.heap.size s (pos + 1))) := hbw2
        have R1 : Tk.Rd b l (wr.iterAt w.heap.size s (pos + 1)) := HR.out.keep (W1.out.block b hblt)
        have cb : (wr.iterAt w.heap.size s (pos + 1)).cell? ⟨b, 0, none⟩ = some (.string s) := by have := R1.c0; rw [← HS.out] at this; exact this
        have fb := R1.f0
        have HR1 : Hid (Tk.Rd b l (wr.iterAt w.heap.size s (pos + 1))) := R1
        clear R1
        by_cases hw : Tk.wordB s[pos] = true
        · have e1 : ((s[pos].toNat : Int) == 32) = false := by
            unfold Tk.wordB at hw
            simp only [Bool.and_eq_true, bne_iff_ne, ne_eq] at hw
            refine beq_eq_false_iff_ne.2 fun e => hw.1 (UInt8.toNat_inj.1 ?_)
            show s[pos].toNat = 32
            omega
          have e2 : ((s[pos].toNat : Int) == 41) = false := by
            unfold Tk.wordB at hw
            simp only [Bool.and_eq_true, bne_iff_ne, ne_eq] at hw
            refine beq_eq_false_iff_ne.2 fun e => hw.2 (UInt8.toNat_inj.1 ?_)
            show s[pos].toNat = 41
            omega
          have HWB : Hid (Tk.wordB s[pos] = true) := hw
          clear hw
          go_wp2
          go_roundw
          case rel =>
            refine ⟨pos + 1, rfl, hit2, hbw2, by omega, fun j h hj => ?_⟩
            by_cases e : j = pos
            · subst e; exact HWB.out
            · exact HA.out j h (by omega)
          case measure =>
            simp only [World.iterPos, hit2, hit]
            omega
        · have HE : Hid ((Tk.wordL l).length = pos) := Tk.word_len l pos (by have := HSZ.out; omega) (fun j h hj => by have := HA.out j (by have := HSZ.out; omega) hj; rw [HG.out j (by have := HSZ.out; omega) h] at this; exact this) (.inr ⟨by have := HSZ.out; omega, by rw [← HG.out pos hlt (by have := HSZ.out; omega)]; simpa using hw⟩)
          have hc : ((s[pos].toNat : Int) == 32) = true ∨ (((s[pos].toNat : Int) == 32) = false ∧ ((s[pos].toNat : Int) == 41) = true) := by
            unfold Tk.wordB at hw
            by_cases h32 : s[pos] = 32
            · left; rw [h32]; rfl
            · right
              have h41 : s[pos] = 41 := by
                simp [h32] at hw
                exact hw
              rw [h41]
              exact ⟨rfl, rfl⟩
          clear hw
          rcases hc with e1 | ⟨e1, e2⟩
          all_goals
            go_wp2
            go_ret
            refine ⟨?_, ?_, ?_⟩
            · rw [Tk.word_take l, HE.out, ← Tk.ext_take l pos, ← HS.out]; rfl
            · have := HR1.out.put (l.drop (Tk.wordL l).length)
              rw [HE.out] at this ⊢
              rw [← Tk.ext_drop l pos, ← HS.out] at this
              exact this
            · exact (Tk.But.of_below W1.out).setCell (E := fun k => k = b) (p := ⟨b, 0, none⟩) rfl _
      · have hdc := Tk.decode_cont s pos hlt ha
        obtain ⟨wd, hwd⟩ : ∃ k, (Utf8.decode s pos).2 = k := ⟨_, rfl⟩
        obtain ⟨rn, hrn⟩ : ∃ k, (Utf8.decode s pos).1 = k := ⟨_, rfl⟩
        have hhi := (decode_high s pos hlt (by omega)).1
        have hnx0 := fun ty => Lib.run_next_any_at (P := Tryd.prog) wr w.heap.size s pos ty hit hlt
        rw [hwd, hrn] at hnx0
        rw [hwd] at hdc
        rw [hrn] at hhi
        have hnx := hnx0
        have hit2 := Lib.iterAt_heap wr w.heap.size s pos (pos + wd) hit
        have hbw2 := Lib.below_iterAt hbw (k := w.heap.size) (by omega) s (pos + wd)
        have e1 : ((rn : Int) == 32) = false := by simp; omega
        have e2 : ((rn : Int) == 41) = false := by simp; omega
        have HDC : Hid _ := hdc
        have hb1 := hdc.1
        have hb2 := hdc.2.1
        clear hdc hwd hrn hnx0
        go_wp2
        go_roundw
        case rel =>
          refine ⟨pos + wd, rfl, hit2, hbw2, hb1, fun j h hj => ?_⟩
          by_cases e : j < pos
          · exact HA.out j h e
          · exact Tk.wordB_high (HDC.out.2.2 j h (by omega) hj)
        case measure =>
          simp only [World.iterPos, hit2, hit]
          omega
    · have hnx : ∀ ty, (Instr.next (.pointer (some ⟨w.heap.size, 0, none⟩)) true ty).run Tryd.prog wr = _ := fun ty => Lib.run_next_end_at wr w.heap.size s pos ty hit hlt
      have HE : Hid ((Tk.wordL l).length = s.size) := by
        show _ = _
        rw [HSZ.out]
        exact Tk.word_len l l.length (Nat.le_refl _) (fun j h hj => by have := HA.out j (by have := HSZ.out; omega) (by have := HSZ.out; omega); rw [HG.out j (by have := HSZ.out; omega) h] at this; exact this) (.inl rfl)
      have R1 : Tk.Rd b l wr := HR.out.keep (hbw.block b hblt)
      have cb : wr.cell? ⟨b, 0, none⟩ = some (.string s) := by have := R1.c0; rw [← HS.out] at this; exact this
      have fb := R1.f0
      have HR1 : Hid (Tk.Rd b l wr) := R1
      clear R1 hps hlt hit hbw
      go_wp2
      go_ret
      refine ⟨?_, ?_, ?_⟩
      · rw [Tk.word_take l, HE.out, HSZ.out, List.take_length, ← HS.out]; rfl
      · have := HR1.out.put []
        rw [HE.out, HSZ.out, List.drop_length]
        exact this
      · exact (Tk.But.of_below HBW.out).setCell (E := fun k => k = b) (p := ⟨b, 0, none⟩) rfl _

end Go.Proofs
