/-
  The contracts of the reader's digits and named.
-/
import Derived.Test.YtehmmfmofdgheaaDoorTRdr
namespace Go.Proofs
open Go.RowKit

/-- digits' answer. -/
def Tk.digV (o : Option Nat) : Int × Bool := match o with | none => (0, false) | some n => ((n : Int), true)

set_option maxHeartbeats 4000000 in
set_option maxRecDepth 20000 in
theorem Tryd.digits_any (l : List UInt8) (most : Nat) (hm : most ≤ 1099511627776) (w : World) (hl : l.length ≤ 20000) :
    Calls Tryd.prog 90 #[.string ⟨l.toArray⟩, .int .i64 most] w fun e w' => e = .returned (.tuple #[.int .i64 (Tk.digV (Tk.digL most l)).1, .bool (Tk.digV (Tk.digL most l)).2]) ∧ Below w.heap.size w w' := by
  obtain ⟨s, hs⟩ : ∃ s : ByteArray, s = ⟨l.toArray⟩ := ⟨_, rfl⟩
  have hsz : s.size = l.length := by rw [hs]; simp [ByteArray.size]
  rw [← hs]
  have HG : Hid (∀ j (h : j < s.size), l.drop j = s[j] :: l.drop (j + 1)) := by
    intro j h
    have hj : j < l.length := by omega
    rw [List.drop_eq_getElem_cons hj]
    subst hs
    rfl
  have HSZ : Hid (s.size = l.length) := hsz
  have hs20 : s.size ≤ 20000 := by omega
  clear hs hsz hl
  by_cases hemp : l = []
  · have HX : Hid (Tk.digV (Tk.digL most l) = (0, false)) := by show _ = _; subst hemp; rfl
    have hse : s.size = 0 := by rw [HSZ.out, hemp]; rfl
    obtain rfl : s = ⟨#[]⟩ := by
      obtain ⟨⟨x⟩⟩ := s
      have : x.length = 0 := hse
      rw [List.length_eq_zero_iff.1 this]
    have hnx : ∀ (wr : World) ty, wr.heap[w.heap.size]? = some (.stringIter ⟨#[]⟩ 0) → (Instr.next (.pointer (some ⟨w.heap.size, 0, none⟩)) true ty).run Tryd.prog wr = _ := fun wr ty hit => Lib.run_next_end_at wr w.heap.size ⟨#[]⟩ 0 ty hit (by decide)
    clear hemp hse HG hs20
    go_enter Tryd.func90, Tryd.ntmps90
    go_wp2
    go_loopw [6, 7, 8] (fun nn i r wr => nn = .int .i64 0 ∧ wr.heap[w.heap.size]? = some (.stringIter ⟨#[]⟩ 0) ∧ Below w.heap.size w wr) (fun _ _ _ _ => 0)
    case atStart =>
      refine ⟨rfl, ?_, (Below.refl _ w).alloc (Nat.le_refl _) _⟩
      have := World.iter_heap w ⟨#[]⟩ 0
      simpa using this
    case round =>
      obtain ⟨rfl, hit, hbw⟩ := hrel
      have hnx' := fun ty => hnx wr ty hit
      clear hnx
      go_wp2
      go_ret2
      exact ⟨by rw [HX.out]; rfl, hbw⟩
  · have hne : s.toList.isEmpty = false := by
      cases he : s.toList.isEmpty
      · rfl
      · exfalso
        have h0 : s.toList = [] := List.isEmpty_iff.1 he
        rw [Lib.toList_data] at h0
        have : s.size = 0 := by show s.data.toList.length = 0; rw [h0]; rfl
        rw [HSZ.out] at this
        exact hemp (List.length_eq_zero_iff.1 this)
    have HD : Hid (Tk.digL most l = Tk.digF most 0 true l) := by show _ = _; unfold Tk.digL; rw [if_neg hemp]
    clear hemp
    go_enter Tryd.func90, Tryd.ntmps90
    go_wp2
    go_loopw [6, 7, 8] (fun nn i r wr => ∃ pos n : Nat, nn = .int .i64 n ∧ n ≤ 1099511627776 ∧ wr.heap[w.heap.size]? = some (.stringIter s pos) ∧ Below w.heap.size w wr ∧ pos ≤ s.size ∧ Hid (Tk.digF most 0 true l = Tk.digF most n (pos == 0) (l.drop pos))) (fun _ _ _ wr => s.size - wr.iterPos w.heap.size)
    case atStart =>
      refine ⟨0, 0, rfl, by omega, ?_, (Below.refl _ w).alloc (Nat.le_refl _) _, by omega, rfl⟩
      have := World.iter_heap w s 0
      simpa using this
    case round =>
      obtain ⟨pos, n, rfl, hnb, hit, hbw, hps, HR⟩ := hrel
      have HBW : Hid (Below w.heap.size w wr) := hbw
      by_cases hlt : pos < s.size
      · have hdrop := HG.out pos hlt
        by_cases ha : (s[pos]'hlt).toNat < 128
        · have hnx : ∀ ty, (Instr.next (.pointer (some ⟨w.heap.size, 0, none⟩)) true ty).run Tryd.prog wr = _ := fun ty => Lib.run_next_ascii_at wr w.heap.size s pos ty hit hlt ha
          have hit2 := Lib.iterAt_heap wr w.heap.size s pos (pos + 1) hit
          have hbw2 := Lib.below_iterAt hbw (k := w.heap.size) (by omega) s (pos + 1)
          have HB2 : Hid _ := hbw2
          obtain ⟨c, hc⟩ : ∃ c, (s[pos]'hlt).toNat = c := ⟨_, rfl⟩
          have HC : Hid ((s[pos]'hlt).toNat = c) := hc
          rw [hdrop] at HR
          simp only [Tk.digF, hc] at HR
          by_cases hbad : c < 48 ∨ 57 < c ∨ ((pos == 0) = false ∧ n = 0)
          · have HX : Hid (Tk.digV (Tk.digL most l) = (0, false)) := by show _ = _; rw [HD.out, HR.out, if_pos hbad]; rfl
            have hcs : (decide ((c : Int) < 48) = true) ∨ (decide ((c : Int) < 48) = false ∧ decide ((57 : Int) < c) = true) ∨ (decide ((c : Int) < 48) = false ∧ decide ((57 : Int) < c) = false ∧ (pos == 0) = false ∧ ((n : Int) == 0) = true) := by
              rcases hbad with h | h | ⟨h, h'⟩
              · exact .inl (decide_eq_true (by omega))
              · exact .inr (.inl ⟨decide_eq_false (by omega), decide_eq_true (by omega)⟩)
              · by_cases h1 : c < 48
                · exact .inl (decide_eq_true (by omega))
                · by_cases h2 : 57 < c
                  · exact .inr (.inl ⟨decide_eq_false (by omega), decide_eq_true (by omega)⟩)
                  · exact .inr (.inr ⟨decide_eq_false (by omega), decide_eq_false (by omega), h, by subst h'; rfl⟩)
            clear hbad hdrop HR hit2 hbw2
            rcases hcs with e1 | ⟨e1, e2⟩ | ⟨e1, e2, e3, e4⟩
            · go_wp2
              go_ret2
              exact ⟨by rw [HX.out]; rfl, HB2.out⟩
            · go_wp2
              go_ret2
              exact ⟨by rw [HX.out]; rfl, HB2.out⟩
            · have hpp : 0 < pos := Nat.pos_of_ne_zero (beq_eq_false_iff_ne.1 e3)
              clear e3
              go_wp2
              go_ret2
              exact ⟨by rw [HX.out]; rfl, HB2.out⟩
          · have e1 : decide ((c : Int) < 48) = false := decide_eq_false (by omega)
            have e2 : decide ((57 : Int) < c) = false := decide_eq_false (by omega)
            have HR2 : Hid (Tk.digF most 0 true l = if most < n * 10 + (c - 48) then none else Tk.digF most (n * 10 + (c - 48)) false (l.drop (pos + 1))) := by show _ = _; rw [HR.out, if_neg hbad]
            have hcs : (pos == 0) = true ∨ ((pos == 0) = false ∧ ((n : Int) == 0) = false) := by
              cases hp : (pos == 0)
              · right
                refine ⟨rfl, ?_⟩
                refine beq_eq_false_iff_ne.2 fun e => hbad (.inr (.inr ⟨hp, by omega⟩))
              · exact .inl rfl
            have hc1 : 48 ≤ c := by omega
            have hc2 : c ≤ 57 := by omega
            clear hbad HR hdrop
            by_cases hbig : most < n * 10 + (c - 48)
            · have e5 : decide ((most : Int) < (n : Int) * 10 + ((c : Int) - 48)) = true := decide_eq_true (by omega)
              have HX : Hid (Tk.digV (Tk.digL most l) = (0, false)) := by show _ = _; rw [HD.out, HR2.out, if_pos hbig]; rfl
              clear hit2 hbw2
              have hcs' : ¬ 0 < pos ∨ (0 < pos ∧ ((n : Int) == 0) = false) := by
                rcases hcs with e3 | ⟨e3, e4⟩
                · exact .inl (by have := beq_iff_eq.1 e3; omega)
                · exact .inr ⟨Nat.pos_of_ne_zero (beq_eq_false_iff_ne.1 e3), e4⟩
              clear hcs
              rcases hcs' with e3 | ⟨e3, e4⟩
              all_goals
                go_wp2
                go_ret2
                exact ⟨by rw [HX.out]; rfl, HB2.out⟩
            · have e5 : decide ((most : Int) < (n : Int) * 10 + ((c : Int) - 48)) = false := decide_eq_false (by omega)
              have HX : Hid (Tk.digF most 0 true l = Tk.digF most (n * 10 + (c - 48)) ((pos + 1) == 0) (l.drop (pos + 1))) := by show _ = _; rw [HR2.out, if_neg hbig]; rfl
              have hnn : n * 10 + (c - 48) ≤ 1099511627776 := by omega
              have hcs' : ¬ 0 < pos ∨ (0 < pos ∧ ((n : Int) == 0) = false) := by
                rcases hcs with e3 | ⟨e3, e4⟩
                · exact .inl (by have := beq_iff_eq.1 e3; omega)
                · exact .inr ⟨Nat.pos_of_ne_zero (beq_eq_false_iff_ne.1 e3), e4⟩
              clear hcs
              rcases hcs' with e3 | ⟨e3, e4⟩
              all_goals
                go_wp2
                go_roundw
                case rel => exact ⟨pos + 1, n * 10 + (c - 48), by go_num, hnn, hit2, hbw2, by omega, HX.out⟩
                case measure =>
                  simp only [World.iterPos, hit2, hit]
                  omega
        · have hhi := (decode_high s pos hlt (by omega)).1
          obtain ⟨rn, hrn⟩ : ∃ k, (Utf8.decode s pos).1 = k := ⟨_, rfl⟩
          have hnx := fun ty => Lib.run_next_any_at (P := Tryd.prog) wr w.heap.size s pos ty hit hlt
          rw [hrn] at hnx hhi
          have hbw2 := Lib.below_iterAt hbw (k := w.heap.size) (by omega) s (pos + (Utf8.decode s pos).2)
          have HB2 : Hid _ := hbw2
          have e1 : decide ((rn : Int) < 48) = false := decide_eq_false (by omega)
          have e2 : decide ((57 : Int) < rn) = true := decide_eq_true (by omega)
          rw [hdrop] at HR
          simp only [Tk.digF] at HR
          have HX : Hid (Tk.digV (Tk.digL most l) = (0, false)) := by show _ = _; rw [HD.out, HR.out, if_pos (by omega)]; rfl
          clear hdrop HR hbw2 hrn
          go_wp2
          go_ret2
          exact ⟨by rw [HX.out]; rfl, HB2.out⟩
      · have hnx : ∀ ty, (Instr.next (.pointer (some ⟨w.heap.size, 0, none⟩)) true ty).run Tryd.prog wr = _ := fun ty => Lib.run_next_end_at wr w.heap.size s pos ty hit hlt
        have HX : Hid (Tk.digV (Tk.digL most l) = ((n : Int), true)) := by
          show _ = _
          rw [HD.out, HR.out, List.drop_eq_nil_of_le (by have := HSZ.out; omega)]
          rfl
        go_wp2
        go_ret2
        exact ⟨by rw [HX.out]; rfl, HBW.out⟩

end Go.Proofs
