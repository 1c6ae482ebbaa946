/-
  The contracts of the document's free and Order.
-/
import Derived.Test.YtkbenpgmadnkcaaRkRef4
namespace Go.Proofs
open Go.RowKit Go.Shelf

set_option maxHeartbeats 4000000 in
theorem Try.rfree_any (g n i c cl : Nat) (tk : List Bool) (a : Option Addr) (es : List (Nat × Nat)) (w : World) (hes : ∀ e, e ∈ es → e.1 < n ∧ e.2 < n) (hl : tk.length = n) (hin : i < n) (hb : Rk.Bits w g tk) (hE : Rk.Eds w w.heap.size a (Rk.up es)) (hm : es.length ≤ 1000000000000000) :
    Calls Try.prog 31 #[.slice a es.length cl, .slice (some ⟨g, 0, none⟩) n c, .int .i64 i] w fun e w' => e = .returned (.bool (Rk.nextB es tk i)) ∧ Below w.heap.size w w' := by
  obtain ⟨m, hmm⟩ : ∃ m, es.length = m := ⟨_, rfl⟩
  have HE : Hid (Rk.Eds w w.heap.size a (Rk.up es) ∧ (∀ e, e ∈ es → e.1 < n ∧ e.2 < n) ∧ es.length = m ∧ tk.length = n ∧ Rk.Bits w g tk) := ⟨hE, hes, hmm, hl, hb⟩
  rw [hmm] at hm ⊢
  have hg : g < w.heap.size := hb.lt
  have hin' : (i : Int) < n := by omega
  obtain ⟨bi, hbi⟩ : ∃ b, tk[i]? = some b := ⟨_, List.getElem?_eq_getElem (by rw [hl]; exact hin)⟩
  have HI0 : Hid (tk[i]? = some bi) := hbi
  obtain ⟨r, hr⟩ : ∃ r, Rk.nextB es tk i = r := ⟨_, rfl⟩
  have HR : Hid ((!bi && !(es.any fun e => decide (e.2 = i) && !(tk[e.1]?.getD false))) = r) := by show _ = r; rw [← hr]; unfold Rk.nextB Rk.freeB; rw [hbi]; rfl
  rw [hr]
  clear hE hes hmm hl hb hr hbi
  go_enter Try.func31, Try.ntmps31
  go_wp2
  go_loopg [11] m (fun gk s wr => ∃ k : Nat, gk + k = m ∧ s = .int .i64 k ∧ Hid (((es.take k).any fun e => decide (e.2 = i) && !(tk[e.1]?.getD false)) = false ∧ Below w.heap.size w wr))
  case atStart => exact ⟨0, by omega, rfl, by simp, Below.refl _ _⟩
  case round =>
    obtain ⟨k, hk, rfl, HI⟩ := hrel
    by_cases hlt : k < m
    · have hd : decide ((k : Int) < m) = true := decide_eq_true (by omega)
      have hkl : k < es.length := by rw [HE.out.2.2.1]; exact hlt
      obtain ⟨q, off, rfl, hq, h0, h1⟩ := HE.out.1 k (by rw [Rk.up_length]; exact hkl)
      obtain ⟨e, he⟩ : ∃ x, es[k] = x := ⟨_, rfl⟩
      obtain ⟨x, y⟩ := e
      have hxy := HE.out.2.1 _ (List.getElem_mem hkl)
      rw [he] at hxy
      obtain ⟨hx, hy⟩ : x < n ∧ y < n := hxy
      rw [Rk.up_get, he] at h0 h1
      have hc0 : wr.cell? ⟨q, off + k * 2, none⟩ = some (.int .i64 x) := by rw [HI.out.2.cell (p := ⟨q, off + k * 2, none⟩) hq]; exact h0
      have hc1 : wr.cell? ⟨q, off + k * 2 + 1, none⟩ = some (.int .i64 y) := by rw [HI.out.2.cell (p := ⟨q, off + k * 2 + 1, none⟩) hq]; exact h1
      have HX : Hid (es[k] = (x, y)) := he
      have hz : w.heap.size ≤ wr.heap.size := HI.out.2.size
      have hqz : q < wr.heap.size := by omega
      have hgz : g < wr.heap.size := by omega
      have hx' : (x : Int) < n := by omega
      have hu := Try.underlying46
      obtain ⟨b1, hb1⟩ : ∃ b, tk[x]? = some b := ⟨_, List.getElem?_eq_getElem (by rw [HE.out.2.2.2.1]; exact hx)⟩
      have k1 := (HE.out.2.2.2.2.below HI.out.2 hg).cell x b1 hb1
      have HC1 : Hid (tk[x]? = some b1) := hb1
      have HA : Hid (Below w.heap.size w (wr.alloc (.cells #[.int .i64 x, .int .i64 y] 46))) := HI.out.2.alloc hz _
      have Hno : Hid ((decide (y = i) && !b1) = false → ((es.take (k + 1)).any fun e => decide (e.2 = i) && !(tk[e.1]?.getD false)) = false) := fun h => by
        rw [Tm.take_snoc _ _ hkl, List.any_append, HI.out.1, HX.out]
        simp only [List.any_cons, List.any_nil, Bool.or_false, Bool.false_or, HC1.out, Option.getD_some]
        exact h
      have Hyes : Hid ((decide (y = i) && !b1) = true → r = false) := fun h => by
        have : (es.any fun e => decide (e.2 = i) && !(tk[e.1]?.getD false)) = true := List.any_eq_true.2 ⟨es[k], List.getElem_mem hkl, by rw [HX.out]; simp only [HC1.out, Option.getD_some]; exact h⟩
        rw [← HR.out, this]
        simp
      clear h0 h1 he hb1
      by_cases hyi : y = i
      · have hyi' : ((y : Int) == (i : Int)) = true := by simp; omega
        cases b1
        · have hr : r = false := Hyes.out (by simp [hyi])
          subst hr
          clear hyi
          go_wp2
          go_ret
          exact ⟨rfl, HA.out⟩
        · have HN : Hid _ := Hno.out (by simp)
          clear hyi
          go_wp2
          go_roundg (gk - 1)
          case measure => omega
          case rel => exact ⟨k + 1, by omega, by go_num, HN.out, HA.out⟩
      · have hyi' : ((y : Int) == (i : Int)) = false := by simp; omega
        have HN : Hid _ := Hno.out (by simp [hyi])
        clear hyi
        go_wp2
        go_roundg (gk - 1)
        case measure => omega
        case rel => exact ⟨k + 1, by omega, by go_num, HN.out, HA.out⟩
    · have hd : decide ((k : Int) < m) = false := decide_eq_false (by omega)
      have hr : r = !bi := by
        rw [← HR.out]
        have := HI.out.1
        rw [List.take_of_length_le (by rw [HE.out.2.2.1]; omega)] at this
        rw [this]
        simp
      have kc := (HE.out.2.2.2.2.below HI.out.2 hg).cell i bi HI0.out
      subst hr
      go_wp2
      go_ret
      exact ⟨rfl, HI.out.2⟩

end Go.Proofs
