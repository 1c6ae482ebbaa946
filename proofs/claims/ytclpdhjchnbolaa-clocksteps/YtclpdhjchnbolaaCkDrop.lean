/-
  slices.Delete of one alarm.
-/
import Derived.Test.YtclpdhjchnbolaaCkDel
namespace Go.Proofs
open Go.RowKit Go.Shelf Go.Sort

theorem Ck.zeroAl (w : World) : (zeroValue 62).run Try.prog w = .ok (.agg #[.int .i64 0, .int .i64 0]) w := by kernel_rfl
theorem Ck.cells_one' (M : List Ck.Al) : ∀ u ∈ Ck.cells M, u.oneCell' = true := fun u hu => by
  obtain ⟨a, _, ha⟩ := List.mem_flatMap.1 hu
  simp [Ck.enc] at ha
  rcases ha with rfl | rfl <;> rfl

/-- What lies behind a row may be written. -/
theorem Ck.own_behind {w : World} {B g m cap : Nat} {cs : List Value} {T : TypeId} (h : w.ownsRow B T 2 (.slice (some ⟨g, 0, none⟩) m cap) m cs) (a b : Value) : (w.setCells g (m * 2) [a, b]).ownsRow B T 2 (.slice (some ⟨g, 0, none⟩) m cap) m cs := by
  refine ⟨h.1, ?_⟩
  rcases h.2 with ⟨e, _⟩ | ⟨g', cap', cur, e, h3, h4, h5, h6, h7, h8⟩
  · cases e
  · simp only [Value.slice.injEq, Option.some.injEq, Addr.mk.injEq] at e
    obtain ⟨⟨rfl, -, -⟩, -, rfl⟩ := e
    refine .inr ⟨g, cap, (cur.setIfInBounds (m * 2) a).setIfInBounds (m * 2 + 1) b, rfl, h3, ?_, h5, h6, by simpa using h7, ?_⟩
    · simp [World.setCells, World.setCell, Array.getElem?_modify, h4]
    · rw [← h8]
      apply List.ext_getElem?
      intro k
      rw [List.getElem?_take, List.getElem?_take, Array.getElem?_toList, Array.getElem?_toList]
      by_cases hk : k < m * 2
      · rw [if_pos hk, if_pos hk, Array.getElem?_setIfInBounds_ne (by omega), Array.getElem?_setIfInBounds_ne (by omega)]
      · rw [if_neg hk, if_neg hk]

set_option maxRecDepth 20000 in
set_option maxHeartbeats 4000000 in
theorem Try.delete_any {B g n cap i p : Nat} {L : List Ck.Al} (w : World) (h : w.ownsRow B 62 2 (.slice (some ⟨g, 0, none⟩) n cap) n (Ck.cells L)) (hn : L.length = n) (hi : i < n) (hp : i + 1 = p) (h64 : n ≤ 64)
    (hnews : ∀ j u, (Ck.cells (L.drop p))[j]? = some u → w.cell? ((⟨g, p * 2, none⟩ : Addr).add j) = some u) :
    Calls Try.prog 32 #[.slice (some ⟨g, 0, none⟩) n cap, .int .i64 i, .int .i64 p] w fun e w' => e = .returned (.slice (some ⟨g, 0, none⟩) (i + (n - p)) cap) ∧ w'.ownsRow B 62 2 (.slice (some ⟨g, 0, none⟩) (i + (n - p)) cap) (i + (n - p)) (Ck.cells (L.take i ++ L.drop p)) ∧ Tk.But (fun x => x = g) w w' := by
  obtain ⟨i0, hi0, hz0, hz1, hz2⟩ := info_parts Ck.infoAl
  have own1 := Ck.own_first h hn (Nat.le_of_lt hi)
  have HC : Hid (n ≤ cap) := by
    rcases h.2 with ⟨e, _⟩ | ⟨g', cap', cur, e, h3, h4, h5, _⟩
    · cases e
    · simp only [Value.slice.injEq, Option.some.injEq, Addr.mk.injEq] at e
      obtain ⟨_, _, rfl⟩ := e
      exact h5
  have hnc : n ≤ cap := HC.out
  have HL2 : Hid ((Ck.cells (L.drop p)).length = (n - p) * 2) := by show _ = _; rw [Ck.cells_length, List.length_drop]; omega
  obtain ⟨A, hA, hsrc⟩ : ∃ A : Addr, (if cap = p then some (⟨g, 0, none⟩ : Addr) else some ⟨g, p * 2, none⟩) = some A ∧ Hid (∀ j u, (Ck.cells (L.drop p))[j]? = some u → w.cell? (A.add j) = some u) := by
    by_cases hcp : cap = p
    · refine ⟨⟨g, 0, none⟩, by simp [hcp], fun j u hj => ?_⟩
      have h0 : (Ck.cells (L.drop p)).length = 0 := by rw [HL2.out]; omega
      rw [List.length_eq_zero_iff.1 h0] at hj
      simp at hj
    · exact ⟨⟨g, p * 2, none⟩, by simp [hcp], hnews⟩
  have O1 : Hid (w.ownsRow B 62 2 (.slice (some ⟨g, 0, none⟩) i cap) i (Ck.cells (L.take i))) := own1
  have hi' : (0 : Int) ≤ i := by omega
  have hp' : (0 : Int) ≤ p := by omega
  have hip : (i : Int) ≤ p := by omega
  have hip' : i ≤ p := by omega
  have hpn : (p : Int) ≤ n := by omega
  have hpn' : p ≤ n := by omega
  have hnc' : (n : Int) ≤ cap := by omega
  have hic' : (i : Int) ≤ cap := by omega
  have hic : i ≤ cap := by omega
  have hne : ((i : Int) == (p : Int)) = false := by simp; omega
  have hne' : (i == p) = false := by simp; omega
  have hroom : Hid (i + (n - p) ≤ cap) := by show _ ≤ _; omega
  have HPP : Hid (i + 1 = p) := hp
  clear h own1 hnews hp
  go_enter Try.func32, Try.ntmps32
  go_upto_region 5 with fail
  go_region_law (first
    | ((with_reducible refine Ck.at_op (Op.call { callee := Callee.builtin Builtin.append, args := #[.tmp 22, .tmp 25], argTypes := #[55, 55] }) ?hop ?_); (case hop => with_reducible rfl); refine Ck.step_fits rfl (.tmp 22) (.tmp 25) 55 rfl B 62 i0 2 Try.underlying55 hi0 hz1 g i cap (Ck.cells (L.take i)) (by simp [Act.eval, Act.put]) (by exact O1.out) A (n - p) (cap - p) (Ck.cells (L.drop p)) (by simp [Act.eval, Act.put]) (by exact HL2.out) (by exact hsrc.out) (Ck.cells_one' _) (by exact hroom.out) ?_; intro w5 own5 hgrow)
    | fail)
  all_goals
    obtain ⟨m, hm⟩ : ∃ m, i + (n - p) = m := ⟨_, rfl⟩
    rw [hm] at own5 ⊢
    have hmn : m + 1 = n := by have := HPP.out; omega
    have hcell : ∀ j, j < 2 → (w5.cell? ⟨g, m * 2 + j, none⟩).isSome = true ∧ w5.frozen? ⟨g, m * 2 + j, none⟩ = false := by
      rcases own5.2 with ⟨e, _⟩ | ⟨g', cap', cur, e, h3, h4, h5, h6, h7, h8⟩
      · cases e
      · simp only [Value.slice.injEq, Option.some.injEq, Addr.mk.injEq] at e
        obtain ⟨⟨rfl, -, -⟩, -, rfl⟩ := e
        intro j hj
        refine ⟨?_, by simp [World.frozen?, h4]⟩
        simp only [World.cell?, h4]
        rw [Array.getElem?_eq_getElem (by omega)]
        rfl
    have hcl : ∀ ty, (Builtin.clear_ #[55] ty #[.slice (some ⟨g, m * 2, none⟩) (n - m) (cap - m)]).run Try.prog w5 = .ok (.tuple #[]) (w5.setCells g (m * 2) [.int .i64 0, .int .i64 0]) := fun ty => by
      rw [show n - m = 1 by omega]
      exact Ck.run_clear w5 _ _ ty _ _ Try.underlying55 Ck.zeroAl rfl rfl g (m * 2) (cap - m) (fun j hj => (hcell j hj).1) (fun j hj => (hcell j hj).2)
    have hmc : ¬ cap = m := by omega
    have hm0 : (0 : Int) ≤ m := by omega
    have hmn1 : (m : Int) ≤ n := by omega
    have hmn2 : m ≤ n := by omega
    have O5 : Hid (w5.ownsRow B 62 2 (.slice (some ⟨g, 0, none⟩) m cap) m (Ck.cells (L.take i) ++ Ck.cells (L.drop p))) := own5
    have HM : Hid (i + (n - p) = m ∧ w.drew.grownBy w5 (some g)) := ⟨hm, hgrow⟩
    clear hm own5 hcell hmn hgrow
    go_wp2
    go_ret
    rw [HM.out.1, Ck.cells_append]
    refine ⟨rfl, Ck.own_behind O5.out _ _, ?_⟩
    have b5 : Tk.But (fun x => x = g) w w5 := ⟨HM.out.2.os, HM.out.2.tape, HM.out.2.output, HM.out.2.size, fun k hk he => HM.out.2.block k hk (fun e => he (Option.some.inj e))⟩
    exact (b5.setCell (p := ⟨g, m * 2, none⟩) rfl _).setCell (p := ⟨g, m * 2 + 1, none⟩) rfl _

end Go.Proofs
