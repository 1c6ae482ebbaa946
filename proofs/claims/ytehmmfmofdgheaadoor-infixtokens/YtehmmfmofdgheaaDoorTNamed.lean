/-
  The contracts of named and leaf.
-/
import Derived.Test.YtehmmfmofdgheaaDoorTDig
import Derived.Test.YtehmmfmofdgheaaDoorAllTChk
namespace Go.Proofs
open Go.RowKit

/-- An operator's text. -/
def Tk.opT (k : Nat) : List UInt8 := match k with
  | 2 => [36] | 3 => [110, 101, 103] | 4 => [110, 111, 116] | 5 => [97, 100, 100] | 6 => [115, 117, 98] | 7 => [109, 117, 108] | 8 => [100, 105, 118] | 9 => [109, 111, 100] | 10 => [101, 113] | 11 => [108, 116] | 12 => [108, 101]
  | 13 => [97, 110, 100] | 14 => [111, 114] | _ => []
theorem Tk.named_hit (l : List UInt8) (k : Nat) (hk : k < 15) (h0 : 0 < Tm.kidsOf (k : Int)) (h : Tk.opT k = l) : Tk.namedL l = k := by
  subst h
  obtain rfl | rfl | rfl | rfl | rfl | rfl | rfl | rfl | rfl | rfl | rfl | rfl | rfl | rfl | rfl : k = 0 ∨ k = 1 ∨ k = 2 ∨ k = 3 ∨ k = 4 ∨ k = 5 ∨ k = 6 ∨ k = 7 ∨ k = 8 ∨ k = 9 ∨ k = 10 ∨ k = 11 ∨ k = 12 ∨ k = 13 ∨ k = 14 := by omega
  all_goals first | rfl | (simp [Tm.kidsOf] at h0)
theorem Tk.named_none (l : List UInt8) (h : ∀ k : Nat, k < 15 → ¬ (0 < Tm.kidsOf k ∧ Tk.opT k = l)) : Tk.namedL l = 0 := by
  have g : ∀ k : Nat, 3 ≤ k → k < 15 → ∀ m, m = Tk.opT k → ¬ l = m := fun k h3 hk m hm e => h k hk ⟨by unfold Tm.kidsOf; split <;> (try split) <;> omega, by rw [← hm, e]⟩
  unfold Tk.namedL
  rw [if_neg (g 3 (by omega) (by omega) [110, 101, 103] rfl), if_neg (g 4 (by omega) (by omega) [110, 111, 116] rfl), if_neg (g 5 (by omega) (by omega) [97, 100, 100] rfl), if_neg (g 6 (by omega) (by omega) [115, 117, 98] rfl), if_neg (g 7 (by omega) (by omega) [109, 117, 108] rfl),
    if_neg (g 8 (by omega) (by omega) [100, 105, 118] rfl), if_neg (g 9 (by omega) (by omega) [109, 111, 100] rfl), if_neg (g 10 (by omega) (by omega) [101, 113] rfl), if_neg (g 11 (by omega) (by omega) [108, 116] rfl), if_neg (g 12 (by omega) (by omega) [108, 101] rfl),
    if_neg (g 13 (by omega) (by omega) [97, 110, 100] rfl), if_neg (g 14 (by omega) (by omega) [111, 114] rfl)]
theorem Tk.named_range (l : List UInt8) : Tk.namedL l = 0 ∨ 3 ≤ Tk.namedL l ∧ Tk.namedL l ≤ 14 := by
  by_cases h : ∃ k : Nat, k < 15 ∧ 0 < Tm.kidsOf k ∧ Tk.opT k = l
  · obtain ⟨k, hk, h0, he⟩ := h
    rw [Tk.named_hit l k hk h0 he]
    by_cases h3 : k < 3
    · rw [show Tm.kidsOf k = 0 from if_pos (by omega)] at h0; omega
    · exact .inr (by omega)
  · exact .inl (Tk.named_none l fun k hk hh => h ⟨k, hk, hh.1, hh.2⟩)

theorem Tryd.ops_index (k : Nat) (hk : k < 15) : ∃ x y z : Int, ∀ w : World, (Instr.index 111 (.agg Tk.opVals) (.int .i64 k)).run Tryd.prog w = .ok (.agg #[.string ⟨(Tk.opT k).toArray⟩, .int .i64 (Tm.kidsOf k), .int .i64 x, .int .i64 y, .int .i64 z]) w := by
  refine ⟨(Tm.askedOf k), (Tm.mostOf k), (if k = 0 then 0 else Tm.isOf k), fun _ => ?_⟩
  obtain rfl | rfl | rfl | rfl | rfl | rfl | rfl | rfl | rfl | rfl | rfl | rfl | rfl | rfl | rfl : k = 0 ∨ k = 1 ∨ k = 2 ∨ k = 3 ∨ k = 4 ∨ k = 5 ∨ k = 6 ∨ k = 7 ∨ k = 8 ∨ k = 9 ∨ k = 10 ∨ k = 11 ∨ k = 12 ∨ k = 13 ∨ k = 14 := by omega
  all_goals kernel_rfl

set_option maxHeartbeats 2000000 in
set_option maxRecDepth 20000 in
theorem Tryd.named_any (l : List UInt8) (w : World) (h : Tk.Ops w) :
    Calls Tryd.prog 89 #[.string ⟨l.toArray⟩] w fun e w' => e = .returned (.int .i64 (Tk.namedL l)) ∧ Below w.heap.size w w' := by
  obtain ⟨t, fz, hE⟩ := h
  obtain ⟨s, hs⟩ : ∃ s : ByteArray, s = ⟨l.toArray⟩ := ⟨_, rfl⟩
  have HS : Hid (s = ⟨l.toArray⟩) := hs
  rw [← hs]
  clear hs
  have hu := Tryd.underlying111
  have HI : Hid (∀ k : Nat, k < 15 → ∃ x y z : Int, ∀ w : World, (Instr.index 111 (.agg Tk.opVals) (.int .i64 k)).run Tryd.prog w = .ok (.agg #[.string ⟨(Tk.opT k).toArray⟩, .int .i64 (Tm.kidsOf k), .int .i64 x, .int .i64 y, .int .i64 z]) w) := Tryd.ops_index
  go_enter Tryd.func89, Tryd.ntmps89
  go_wp2_with (refine wpList_load_row rfl 111 _ rfl 1 rfl t Tk.opVals fz _ hE hu rfl (by kernel_rfl) ?_)
  go_loopg [6] 15 (fun g i wr => ∃ k : Nat, g + k = 15 ∧ i = .int .i64 k ∧ Below w.heap.size w wr ∧ Hid (∀ j : Nat, j < k → ¬ (0 < Tm.kidsOf j ∧ Tk.opT j = l)))
  case atStart => exact ⟨0, by omega, rfl, Below.refl _ _, fun j hj => by omega⟩
  case round =>
    obtain ⟨k, hg, rfl, hbw, HN⟩ := hrel
    by_cases hk : k < 15
    · obtain ⟨x, y, z, ix⟩ := HI.out k hk
      have kz : ((Tm.kidsOf k : Nat) : Int) = (if k < 3 then 0 else if k < 5 then 1 else 2 : Nat) := by unfold Tm.kidsOf; (repeat' split) <;> omega
      by_cases h3 : k < 3
      · rw [if_pos h3] at kz
        rw [kz] at ix
        clear kz
        go_wp2
        go_roundg (gk - 1)
        case measure => omega
        case rel =>
          refine ⟨k + 1, by omega, by go_num, hbw.alloc hbw.size _, fun j hj => ?_⟩
          by_cases e : j = k
          · subst e; rintro ⟨h, _⟩; unfold Tm.kidsOf at h; rw [if_pos (by omega)] at h; omega
          · exact HN.out j (by omega)
      · obtain ⟨q, hq⟩ : ∃ q : Nat, (if k < 3 then 0 else if k < 5 then 1 else 2 : Nat) = q := ⟨_, rfl⟩
        have hq0 : 0 < q := by subst hq; (repeat' split) <;> omega
        rw [hq] at kz
        rw [kz] at ix
        have HK : Hid (0 < Tm.kidsOf k) := by show _ < _; omega
        clear kz hq
        obtain ⟨tx, htx⟩ : ∃ s : ByteArray, s = ⟨(Tk.opT k).toArray⟩ := ⟨_, rfl⟩
        have HT : Hid (tx = ⟨(Tk.opT k).toArray⟩) := htx
        rw [← htx] at ix
        clear htx
        by_cases he : tx = s
        · have HR : Hid (Tk.namedL l = k) := Tk.named_hit l k hk HK.out (by have := HT.out.symm.trans (he.trans HS.out); simpa using this)
          have e1 : (tx.toList == s.toList) = true := by rw [he]; simp
          clear he
          go_wp2
          go_ret
          exact ⟨by rw [HR.out]; rfl, hbw.alloc hbw.size _⟩
        · have e1 : (tx.toList == s.toList) = false := beq_eq_false_iff_ne.2 fun e => he (by rw [Lib.toList_data, Lib.toList_data] at e; obtain ⟨⟨a⟩⟩ := tx; obtain ⟨⟨b⟩⟩ := s; simpa using e)
          have HX : Hid (Tk.opT k ≠ l) := by intro e; exact he (by rw [HT.out, HS.out, e])
          clear he
          go_wp2
          go_roundg (gk - 1)
          case measure => omega
          case rel =>
            refine ⟨k + 1, by omega, by go_num, hbw.alloc hbw.size _, fun j hj => ?_⟩
            by_cases e : j = k
            · subst e; exact fun hh => HX.out hh.2
            · exact HN.out j (by omega)
    · have HR : Hid (Tk.namedL l = 0) := Tk.named_none l fun j hj => HN.out j (by omega)
      go_wp2
      go_ret
      exact ⟨by rw [HR.out]; rfl, hbw⟩

end Go.Proofs
