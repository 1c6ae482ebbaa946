/-
  The contract of the document's Leads.
-/
import Derived.Test.YtkbenpgmadnkcaaRkRef1
namespace Go.Proofs
open Go.RowKit Go.Shelf

theorem Rk.drop_at {α : Type} (l : List α) (k : Nat) (h : k < l.length) : l.drop k = l[k] :: l.drop (k + 1) := List.drop_eq_getElem_cons h

set_option maxHeartbeats 8000000 in
theorem Try.rleads_any (n x0 y0 : Nat) (a : Option Addr) (c : Nat) (es : List (Nat × Nat)) (w : World) (hn : n ≤ 64) (hy0 : y0 < n) (hes : ∀ e, e ∈ es → e.1 < n ∧ e.2 < n) (hE : Rk.Eds w w.heap.size a (Rk.up es)) (hm : es.length ≤ 1000000000000000) :
    Calls Try.prog 25 #[.int .i64 n, .slice a es.length c, .int .i64 x0, .int .i64 y0] w fun e w' => e = .returned (.bool (Rk.lead es x0 y0)) ∧ Below w.heap.size w w' := by
  have HE : Hid (Rk.Eds w w.heap.size a (Rk.up es) ∧ ∀ e, e ∈ es → e.1 < n ∧ e.2 < n) := ⟨hE, hes⟩
  have hy0' : (y0 : Int) < n := by omega
  have hmk := Rk.make_bools n hn
  obtain ⟨m, hmm⟩ : ∃ m, es.length = m := ⟨_, rfl⟩
  rw [hmm] at hm ⊢
  have HM : Hid (es.length = m) := hmm
  have X1 : Hid (Rk.Bits (w.alloc (.cells (Rk.row n) 4)) w.heap.size (List.replicate n false)) := Rk.row_bits w n
  have B1 : Hid (Below w.heap.size w (w.alloc (.cells (Rk.row n) 4))) := (Below.refl _ w).alloc (Nat.le_refl _) _
  have HS : Hid (Rk.sweeps es n (Rk.first x0 es (List.replicate n false)) = (List.range n).map (Rk.lead es x0)) := Rk.sweeps_eq hes x0
  obtain ⟨r, hr⟩ : ∃ r, Rk.lead es x0 y0 = r := ⟨_, rfl⟩
  have HR : Hid (Rk.lead es x0 y0 = r) := hr
  rw [hr]
  clear hE hes hmm hr
  go_enter Try.func25, Try.ntmps25
  go_wp2
  clear hmk
  go_loopg [19] m (fun gk s19 wr => ∃ (k : Nat) (cur : List Bool), gk + k = m ∧ s19 = .int .i64 k ∧ Hid (Rk.first x0 (es.drop k) cur = Rk.first x0 es (List.replicate n false) ∧ cur.length = n ∧ Rk.Bits wr w.heap.size cur ∧ Below w.heap.size w wr))
  case atStart => exact ⟨0, _, by omega, rfl, rfl, by simp, X1.out, B1.out⟩
  case round =>
    obtain ⟨k, cur, hk, rfl, HI⟩ := hrel
    clear X1 B1
    by_cases hlt : k < m
    · have hd : decide ((k : Int) < m) = true := decide_eq_true (by omega)
      have hkl : k < es.length := by rw [HM.out]; exact hlt
      obtain ⟨q, off, rfl, hq, h0, h1⟩ := HE.out.1 k (by rw [Rk.up_length]; exact hkl)
      obtain ⟨e, he⟩ : ∃ x, es[k] = x := ⟨_, rfl⟩
      obtain ⟨x, y⟩ := e
      have hxy := HE.out.2 _ (List.getElem_mem hkl)
      rw [he] at hxy
      obtain ⟨hx, hy⟩ : x < n ∧ y < n := hxy
      rw [Rk.up_get, he] at h0 h1
      have hc0 : wr.cell? ⟨q, off + k * 2, none⟩ = some (.int .i64 x) := by rw [HI.out.2.2.2.cell (p := ⟨q, off + k * 2, none⟩) hq]; exact h0
      have hc1 : wr.cell? ⟨q, off + k * 2 + 1, none⟩ = some (.int .i64 y) := by rw [HI.out.2.2.2.cell (p := ⟨q, off + k * 2 + 1, none⟩) hq]; exact h1
      have HX : Hid (es[k] = (x, y)) := he
      have hz : w.heap.size < wr.heap.size := HI.out.2.2.1.lt
      have hqz : q < wr.heap.size := by omega
      have hx' : (x : Int) < n := by omega
      have hy' : (y : Int) < n := by omega
      have hu := Try.underlying46
      obtain ⟨b1, hb1⟩ : ∃ b, cur[x]? = some b := ⟨_, List.getElem?_eq_getElem (by rw [HI.out.2.1]; exact hx)⟩
      obtain ⟨b2, hb2⟩ : ∃ b, cur[y]? = some b := ⟨_, List.getElem?_eq_getElem (by rw [HI.out.2.1]; exact hy)⟩
      have k1 := HI.out.2.2.1.cell x b1 hb1
      have k2 := HI.out.2.2.1.cell y b2 hb2
      have f2 := HI.out.2.2.1.frozen y
      have HC1 : Hid (cur[x]? = some b1) := hb1
      have HA : Hid (Below w.heap.size w (wr.alloc (.cells #[.int .i64 x, .int .i64 y] 46)) ∧ Rk.Bits (wr.alloc (.cells #[.int .i64 x, .int .i64 y] 46)) w.heap.size cur) :=
        ⟨HI.out.2.2.2.alloc (by omega) _, HI.out.2.2.1.keep (Below.heap_alloc _ _ _ hz)⟩
      have HS2 : Hid (Below w.heap.size w ((wr.setCell ⟨w.heap.size, y, none⟩ (.bool true)).alloc (.cells #[.int .i64 x, .int .i64 y] 46)) ∧ Rk.Bits ((wr.setCell ⟨w.heap.size, y, none⟩ (.bool true)).alloc (.cells #[.int .i64 x, .int .i64 y] 46)) w.heap.size (cur.set y true)) :=
        ⟨(HI.out.2.2.2.setCell (p := ⟨w.heap.size, y, none⟩) (Nat.le_refl _) _).alloc (by simp; omega) _, (HI.out.2.2.1.put y true).keep (Below.heap_alloc _ _ _ (by simpa using hz))⟩
      clear h0 h1 he hb1 hb2
      have HN : Hid (Rk.first x0 (es.drop (k + 1)) (if x = x0 then cur.set y true else cur) = Rk.first x0 es (List.replicate n false)) := by
        show _ = _
        rw [← HI.out.1, Rk.drop_at es k hkl, HX.out]
        rfl
      by_cases hxx : x = x0
      · subst hxx
        rw [if_pos rfl] at HN
        go_wp2
        go_roundg (gk - 1)
        case measure => omega
        case rel => exact ⟨k + 1, _, by omega, by go_num, HN.out, by simpa using HI.out.2.1, HS2.out.2, HS2.out.1⟩
      · rw [if_neg hxx] at HN
        have hd2 : ((x : Int) == (x0 : Int)) = false := by simp; omega
        go_wp2
        go_roundg (gk - 1)
        case measure => omega
        case rel => exact ⟨k + 1, _, by omega, by go_num, HN.out, HI.out.2.1, HA.out.2, HA.out.1⟩
    · have hd : decide ((k : Int) < m) = false := decide_eq_false (by omega)
      have HJ : Hid (Rk.sweeps es n cur = (List.range n).map (Rk.lead es x0) ∧ cur.length = n ∧ Rk.Bits wr w.heap.size cur ∧ Below w.heap.size w wr) := by
        have h1 := HI.out.1
        rw [List.drop_eq_nil_of_le (by rw [HM.out]; omega)] at h1
        have h2 : cur = Rk.first x0 es (List.replicate n false) := h1
        refine ⟨?_, HI.out.2⟩
        rw [h2]
        exact HS.out
      clear HI HS
      go_wp2
      go_loopg [12] n (fun gk s12 wr => ∃ (k : Nat) (cur : List Bool), gk + k = n ∧ s12 = .int .i64 k ∧ Hid (Rk.sweeps es (n - k) cur = (List.range n).map (Rk.lead es x0) ∧ cur.length = n ∧ Rk.Bits wr w.heap.size cur ∧ Below w.heap.size w wr))
      case atStart => exact ⟨0, _, by omega, rfl, HJ.out⟩
      case round =>
        obtain ⟨k', cur', hk', rfl, HO⟩ := hrel
        clear HJ hd
        by_cases hlt' : k' < n
        · have hd : decide ((k' : Int) < n) = true := decide_eq_true (by omega)
          have hgg : gk = n - k' := by omega
          subst hgg
          go_wp2
          go_loopg [39] m (fun gi s39 wr => ∃ (k : Nat) (cur : List Bool), gi + k = m ∧ s39 = .int .i64 k ∧ Hid (Rk.sweep (es.drop k) cur = Rk.sweep es cur' ∧ cur.length = n ∧ Rk.Bits wr w.heap.size cur ∧ Below w.heap.size w wr))
          case atStart => exact ⟨0, _, by omega, rfl, rfl, HO.out.2⟩
          case round =>
            clear hk hlt
            obtain ⟨k, cur, hk, rfl, HI⟩ := hrel
            clear hd
            by_cases hlt : k < m
            · have hd : decide ((k : Int) < m) = true := decide_eq_true (by omega)
              have hkl : k < es.length := by rw [HM.out]; exact hlt
              obtain ⟨q, off, rfl, hq, h0, h1⟩ := HE.out.1 k (by rw [Rk.up_length]; exact hkl)
              obtain ⟨e, he⟩ : ∃ x, es[k] = x := ⟨_, rfl⟩
              obtain ⟨x, y⟩ := e
              have hxy := HE.out.2 _ (List.getElem_mem hkl)
              rw [he] at hxy
              obtain ⟨hx, hy⟩ : x < n ∧ y < n := hxy
              rw [Rk.up_get, he] at h0 h1
              have hc0 : wr.cell? ⟨q, off + k * 2, none⟩ = some (.int .i64 x) := by rw [HI.out.2.2.2.cell (p := ⟨q, off + k * 2, none⟩) hq]; exact h0
              have hc1 : wr.cell? ⟨q, off + k * 2 + 1, none⟩ = some (.int .i64 y) := by rw [HI.out.2.2.2.cell (p := ⟨q, off + k * 2 + 1, none⟩) hq]; exact h1
              have HX : Hid (es[k] = (x, y)) := he
              have hz : w.heap.size < wr.heap.size := HI.out.2.2.1.lt
              have hqz : q < wr.heap.size := by omega
              have hx' : (x : Int) < n := by omega
              have hy' : (y : Int) < n := by omega
              have hu := Try.underlying46
              obtain ⟨b1, hb1⟩ : ∃ b, cur[x]? = some b := ⟨_, List.getElem?_eq_getElem (by rw [HI.out.2.1]; exact hx)⟩
              obtain ⟨b2, hb2⟩ : ∃ b, cur[y]? = some b := ⟨_, List.getElem?_eq_getElem (by rw [HI.out.2.1]; exact hy)⟩
              have k1 := HI.out.2.2.1.cell x b1 hb1
              have k2 := HI.out.2.2.1.cell y b2 hb2
              have f2 := HI.out.2.2.1.frozen y
              have HC1 : Hid (cur[x]? = some b1) := hb1
              have HA : Hid (Below w.heap.size w (wr.alloc (.cells #[.int .i64 x, .int .i64 y] 46)) ∧ Rk.Bits (wr.alloc (.cells #[.int .i64 x, .int .i64 y] 46)) w.heap.size cur) :=
                ⟨HI.out.2.2.2.alloc (by omega) _, HI.out.2.2.1.keep (Below.heap_alloc _ _ _ hz)⟩
              have HS2 : Hid (Below w.heap.size w ((wr.setCell ⟨w.heap.size, y, none⟩ (.bool true)).alloc (.cells #[.int .i64 x, .int .i64 y] 46)) ∧ Rk.Bits ((wr.setCell ⟨w.heap.size, y, none⟩ (.bool true)).alloc (.cells #[.int .i64 x, .int .i64 y] 46)) w.heap.size (cur.set y true)) :=
                ⟨(HI.out.2.2.2.setCell (p := ⟨w.heap.size, y, none⟩) (Nat.le_refl _) _).alloc (by simp; omega) _, (HI.out.2.2.1.put y true).keep (Below.heap_alloc _ _ _ (by simpa using hz))⟩
              clear h0 h1 he hb1 hb2
              have HN : Hid (Rk.sweep (es.drop (k + 1)) (if cur[x]? = some true then cur.set y true else cur) = Rk.sweep es cur') := by
                show _ = _
                rw [← HI.out.1, Rk.drop_at es k hkl, HX.out]
                rfl
              cases b1
              · rw [if_neg (by rw [HC1.out]; simp)] at HN
                go_wp2
                go_roundg (gk - 1)
                case measure => omega
                case rel => exact ⟨k + 1, _, by omega, by go_num, HN.out, HI.out.2.1, HA.out.2, HA.out.1⟩
              · rw [if_pos HC1.out] at HN
                go_wp2
                go_roundg (gk - 1)
                case measure => omega
                case rel => exact ⟨k + 1, _, by omega, by go_num, HN.out, by simpa using HI.out.2.1, HS2.out.2, HS2.out.1⟩
            · have hd : decide ((k : Int) < m) = false := decide_eq_false (by omega)
              have HN : Hid (Rk.sweeps es (n - (k' + 1)) cur = (List.range n).map (Rk.lead es x0) ∧ cur.length = n ∧ Rk.Bits wr w.heap.size cur ∧ Below w.heap.size w wr) := by
                have h1 := HI.out.1
                rw [List.drop_eq_nil_of_le (by rw [HM.out]; omega)] at h1
                have h2 : cur = Rk.sweep es cur' := h1
                refine ⟨?_, HI.out.2⟩
                have h3 := HO.out.1
                rw [show n - k' = (n - (k' + 1)) + 1 by omega] at h3
                rw [h2]
                exact h3
              go_wp2
              go_roundg (n - (k' + 1))
              case measure => omega
              case rel => exact ⟨k' + 1, _, by omega, by go_num, HN.out⟩
        · have hd : decide ((k' : Int) < n) = false := decide_eq_false (by omega)
          have hfin : cur' = (List.range n).map (Rk.lead es x0) := by
            have := HO.out.1
            rw [show n - k' = 0 by omega] at this
            exact this
          have hcell := HO.out.2.2.1.cell y0 r (by rw [hfin]; simp [hy0, HR.out])
          go_wp2
          go_ret
          exact ⟨rfl, HO.out.2.2.2⟩

end Go.Proofs
