/-
  The contract of markFrom.
-/
import Derived.Test.YtkbenpgmadnkcaaRkCheck
import Derived.Deep.OwnRows
import Derived.WalkMore
namespace Go.Proofs
open Go.RowKit Go.Shelf

theorem Try.infoBool : (Try.prog.info? 4).map (fun i => (i.zero, i.size, i.bytes)) = some (some (.bool false), 1, 1) := by kernel_rfl
/-- A new row of marks, none set. -/
def Rk.row (n : Nat) : Array Value := ((List.replicate n false).map Value.bool).toArray
theorem Rk.make_bools (n : Nat) (hn : n ≤ 64) (w : World) : (Instr.makeSlice 43 (.int .i64 (n : Int)) (.int .i64 (n : Int))).run Try.prog w = .ok (.slice (some ⟨w.heap.size, 0, none⟩) n n) (w.alloc (.cells (Rk.row n) 4)) := by
  have h := run_make_row' (P := Try.prog) 43 4 (.bool false) 1 Try.underlying43 Try.infoBool rfl .i64 .i64 n (by omega) (by omega) w
  rw [h, show madeCells #[Value.bool false] n = Rk.row n from ?_]
  apply Array.toList_inj.1
  rw [toList_madeCells_one]
  simp [Rk.row]
theorem Rk.row_bits (w : World) (n : Nat) : Rk.Bits (w.alloc (.cells (Rk.row n) 4)) w.heap.size (List.replicate n false) := heap_alloc_new w (.cells (Rk.row n) 4)

set_option maxHeartbeats 4000000 in
theorem Try.mark_any (n a0 : Nat) (a : Option Addr) (c : Nat) (es : List (Nat × Nat)) (w : World) (hn : n ≤ 64) (ha : a0 < n) (hes : ∀ e, e ∈ es → e.1 < n ∧ e.2 < n) (hE : Rk.Eds w w.heap.size a (Rk.up es)) (hm : es.length ≤ 1000000000000000) :
    Calls Try.prog 22 #[.int .i64 n, .slice a es.length c, .int .i64 a0] w fun e w' =>
      e = .returned (.slice (some ⟨w.heap.size, 0, none⟩) n n) ∧ Rk.Bits w' w.heap.size ((List.range n).map (Rk.met es a0)) ∧ Below w.heap.size w w' := by
  have HE : Hid (Rk.Eds w w.heap.size a (Rk.up es) ∧ ∀ e, e ∈ es → e.1 < n ∧ e.2 < n) := ⟨hE, hes⟩
  have ha' : (a0 : Int) < n := by omega
  have hmk := Rk.make_bools n hn
  obtain ⟨m, hmm⟩ : ∃ m, es.length = m := ⟨_, rfl⟩
  rw [hmm] at hm ⊢
  have HM : Hid (es.length = m) := hmm
  have X1 := Rk.row_bits w n
  have B1 : Below w.heap.size w (w.alloc (.cells (Rk.row n) 4)) := (Below.refl _ w).alloc (Nat.le_refl _) _
  have c1 : (w.alloc (.cells (Rk.row n) 4)).cell? ⟨w.heap.size, a0, none⟩ = some (.bool false) := X1.cell a0 false (by simp [ha])
  have f1 := X1.frozen a0
  have X2 : Hid (Rk.Bits (w.alloc (.cells ((Rk.row n).setIfInBounds a0 (.bool true)) 4)) w.heap.size ((List.replicate n false).set a0 true)) := by
    have := heap_alloc_new w (.cells ((Rk.row n).setIfInBounds a0 (.bool true)) 4)
    show _ = _
    rw [this, Rk.row, List.setIfInBounds_toArray, List.map_set]
  have B2 : Hid (Below w.heap.size w (w.alloc (.cells ((Rk.row n).setIfInBounds a0 (.bool true)) 4))) := (Below.refl _ w).alloc (Nat.le_refl _) _
  clear hE hes hmm X1 B1
  go_enter Try.func22, Try.ntmps22
  go_wp2
  go_step3
  go_wp2
  go_step3
  go_wp2
  clear hmk
  go_loopg [] 64 (fun gk wr => ∃ bs, Rk.left bs ≤ gk ∧ Hid (Rk.Way es n a0 bs ∧ Rk.Bits wr w.heap.size bs ∧ Below w.heap.size w wr))
  case atStart => exact ⟨_, by have := Rk.left_le ((List.replicate n false).set a0 true); simp at this; omega, Rk.Way.start es ha, X2.out, B2.out⟩
  case round =>
    obtain ⟨bs, hbl, HB⟩ := hrel
    clear X2 B2 c1 f1
    go_wp2
    go_loopg [17] m (fun gi i wi => ∃ k : Nat, gi + k = m ∧ i = .int .i64 k ∧ Hid (Rk.Bits wi w.heap.size bs ∧ Below w.heap.size w wi ∧ ∀ j (h : j < es.length), j < k → Rk.on bs es[j].1 → Rk.on bs es[j].2))
    case atStart => exact ⟨0, by omega, rfl, HB.out.2.1, HB.out.2.2, fun j _ h => by omega⟩
    case round =>
      obtain ⟨k, hk, rfl, HI⟩ := hrel
      by_cases hlt : k < m
      · have hd : decide ((k : Int) < m) = true := decide_eq_true (by omega)
        have hkl : k < es.length := by rw [HM.out]; exact hlt
        obtain ⟨q, off, rfl, hq, h0, h1⟩ := HE.out.1 k (by rw [Rk.up_length]; exact hkl)
        obtain ⟨e, he⟩ : ∃ x, es[k] = x := ⟨_, rfl⟩
        obtain ⟨x, y⟩ := e
        have hxy := HE.out.2 _ (List.getElem_mem hkl)
        rw [he] at hxy
        obtain ⟨hx, hy⟩ : x < n ∧ y < n := hxy
        rw [Rk.up_get, he] at h0 h1
        have hc0 : wr.cell? ⟨q, off + k * 2, none⟩ = some (.int .i64 x) := by rw [HI.out.2.1.cell (p := ⟨q, off + k * 2, none⟩) hq]; exact h0
        have hc1 : wr.cell? ⟨q, off + k * 2 + 1, none⟩ = some (.int .i64 y) := by rw [HI.out.2.1.cell (p := ⟨q, off + k * 2 + 1, none⟩) hq]; exact h1
        have HX : Hid (es[k] = (x, y)) := he
        have hz : w.heap.size < wr.heap.size := HI.out.1.lt
        have hqz : q < wr.heap.size := by omega
        have hx' : (x : Int) < n := by omega
        have hy' : (y : Int) < n := by omega
        have hu := Try.underlying45
        obtain ⟨b1, hb1⟩ : ∃ b, bs[x]? = some b := ⟨_, List.getElem?_eq_getElem (by rw [HB.out.1.1]; exact hx)⟩
        obtain ⟨b2, hb2⟩ : ∃ b, bs[y]? = some b := ⟨_, List.getElem?_eq_getElem (by rw [HB.out.1.1]; exact hy)⟩
        have k1 := HI.out.1.cell x b1 hb1
        have k2 := HI.out.1.cell y b2 hb2
        have f2 := HI.out.1.frozen y
        have H12 : Hid (bs[x]? = some b1 ∧ bs[y]? = some b2) := ⟨hb1, hb2⟩
        have HA : Hid (Below w.heap.size w (wr.alloc (.cells #[.int .i64 x, .int .i64 y] 45)) ∧ Rk.Bits (wr.alloc (.cells #[.int .i64 x, .int .i64 y] 45)) w.heap.size bs) :=
          ⟨HI.out.2.1.alloc (by omega) _, HI.out.1.keep (Below.heap_alloc _ _ _ hz)⟩
        clear h0 h1 he hb1 hb2
        have hrel2 : (b1 = true → b2 = true) → ∀ j (h : j < es.length), j < k + 1 → Rk.on bs es[j].1 → Rk.on bs es[j].2 := by
          intro hi j hj hj2 ho
          by_cases hjk : j = k
          · subst hjk
            rw [HX.out] at ho ⊢
            have h1 := H12.out.1
            have h2 := H12.out.2
            have : b1 = true := by unfold Rk.on at ho; rw [h1] at ho; exact Option.some.inj ho
            rw [hi this] at h2
            exact h2
          · exact HI.out.2.2 j hj (by omega) ho
        have HR : Hid _ := hrel2
        clear hrel2
        cases b1
        · go_wp2
          go_roundg (gk - 1)
          case measure => omega
          case rel => exact ⟨k + 1, by omega, by go_num, HA.out.2, HA.out.1, HR.out (by simp)⟩
        · cases b2
          · go_wp2
            go_roundg (Rk.left (bs.set y true))
            case measure => have := Rk.left_set bs y H12.out.2; omega
            case rel =>
              refine ⟨bs.set y true, Nat.le_refl _, HB.out.1.mark (by rw [← HX.out]; exact List.getElem_mem hkl) H12.out.1 hy, ?_, ?_⟩
              · exact (HI.out.1.put y true).keep (Below.heap_alloc _ _ _ (by simpa using hz))
              · exact (HI.out.2.1.setCell (p := ⟨w.heap.size, y, none⟩) (Nat.le_refl _) _).alloc (by simp; omega) _
          · go_wp2
            go_roundg (gk - 1)
            case measure => omega
            case rel => exact ⟨k + 1, by omega, by go_num, HA.out.2, HA.out.1, HR.out (by simp)⟩
      · have hd : decide ((k : Int) < m) = false := decide_eq_false (by omega)
        go_wp2
        rw [Exit.noGoto_ret]
        go_ret
        refine ⟨rfl, ?_, HI.out.2.1⟩
        have hall : Rk.Shut es bs := by
          intro e he
          obtain ⟨j, hj, rfl⟩ := List.getElem_of_mem he
          exact HI.out.2.2 j hj (by rw [HM.out] at hj; omega)
        rw [← HB.out.1.done hall]
        exact HI.out.1
end Go.Proofs
