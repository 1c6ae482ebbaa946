/-
  The program's Open and Close.
-/
import Derived.Test.YtdclfmmmlicaaaaPsMem
import Derived.Shelf.SlMaps.Clone
namespace Go.Proofs
open Go.RowKit Go.Shelf Go.Maps

def Ps.openE (M : Ps.Ofc) (k : Int) : Int := if k < 0 ∨ 999 < k then 1 else if Ps.has M k = true then 8 else if 8 ≤ M.length then 5 else 0
def Ps.openM (M : Ps.Ofc) (k : Int) : Ps.Ofc := if Ps.openE M k = 0 then M ++ [(k, Bx.none)] else M
def Ps.closeE (M : Ps.Ofc) (k : Int) : Int := if Ps.has M k = true then 0 else 6

theorem Ps.At.store {o b n : Nat} {M M' : Ps.Ofc} {W W' : World} {D : DataW Bx} (h : Ps.At o (some b) M W) (ho : W'.ownsMap Try.prog 3 Ps.R b n D) (hi : Ps.Is D M') (hg : W.grownBy W' (some b)) : Ps.At o (some b) M' W' ∧ Tk.But (fun x => x = b) W W' := by
  have hb1 : Tk.But (fun x => x = b) W W' := ⟨hg.os, hg.tape, hg.output, hg.size, fun i hi he => hg.block i hi (by intro e; exact he (Option.some.inj e))⟩
  refine ⟨⟨(hb1.block o h.lt (fun e => h.ne e.symm)).trans h.1, (fun e => by cases e), fun b' e => ?_⟩, hb1⟩
  cases e
  exact ⟨D, Ps.tight ho hi, hi⟩
theorem Ps.At.lens {o : Nat} {pm : Option Nat} {M : Ps.Ofc} {w : World} (h : Ps.At o pm M w) (ty : TypeId) : (Builtin.len_ #[49] ty #[.map pm]).run Try.prog w = .ok (.int .i64 (M.length : Int)) w := by
  cases pm with
  | none =>
    rw [h.2.1 rfl]
    exact Maps.len_nil Try.underlying49 ty
  | some b =>
    obtain ⟨D, hD, hi⟩ := h.2.2 b rfl
    rw [← hi.size]
    exact hD.len Try.underlying49 ty
theorem Ps.At.frozen {o : Nat} {pm : Option Nat} {M : Ps.Ofc} {w : World} (h : Ps.At o pm M w) : w.frozen? ⟨o, 0, none⟩ = false := by
  have := h.1
  simp [World.frozen?, this]
theorem Ps.At.fresh {o : Nat} {w : World} (h : Ps.At o none [] w) : Ps.At o (some w.heap.size) [] ((w.alloc (.map #[] 0)).setCell ⟨o, 0, none⟩ (.map (some w.heap.size))) ∧ Tk.But (fun x => x = o) w ((w.alloc (.map #[] 0)).setCell ⟨o, 0, none⟩ (.map (some w.heap.size))) := by
  have hne : w.heap.size ≠ o := by have := h.lt; omega
  have hB : Tk.But (fun x => x = o) w ((w.alloc (.map #[] 0)).setCell ⟨o, 0, none⟩ (.map (some w.heap.size))) := ((Tk.But.refl (fun x => x = o) w).alloc _).setCell (E := fun x => x = o) (p := ⟨o, 0, none⟩) rfl _
  have ho := (h.alloc (.map #[] 0)).1
  have hm : ((w.alloc (.map #[] 0)).setCell ⟨o, 0, none⟩ (.map (some w.heap.size))).heap[w.heap.size]? = some (.map #[] 0) := (Below.heap_setCell _ _ _ _ (by exact hne)).trans (heap_alloc_new _ _)
  refine ⟨⟨?_, fun _ => rfl, fun b hb => ?_⟩, hB⟩
  · simp [World.setCell, Array.getElem?_modify, ho]
  · cases hb
    obtain ⟨es, clock, hh, hr⟩ := World.ownsMap_made (H := Bx) w Try.prog 3 Ps.R
    rw [heap_alloc_new] at hh
    cases hh
    exact ⟨_, ⟨_, _, hm, hr⟩, Ps.is_nil⟩

set_option maxRecDepth 20000 in
set_option maxHeartbeats 1600000 in
theorem Try.pOpen_any (o : Nat) (pm : Option Nat) (M : Ps.Ofc) (k : Int) (hk : (Lit.int .i64 k).wf = true) (w : World) (h : Ps.At o pm M w) :
    Calls Try.prog 16 #[.pointer (some ⟨o, 0, none⟩), .int .i64 k] w fun e w' => e = .returned (.int .i64 (Ps.openE M k)) ∧ (∃ pm', (pm' = pm ∨ ∃ b, pm' = some b ∧ w.heap.size ≤ b) ∧ Ps.At o pm' (Ps.openM M k) w') ∧ Tk.But (fun x => x = o ∨ pm = some x) w w' := by
  by_cases h1 : k < 0
  · have e1 : Ps.openE M k = 1 := by unfold Ps.openE; rw [if_pos (Or.inl h1)]
    have e2 : Ps.openM M k = M := by unfold Ps.openM; rw [e1, if_neg (by omega)]
    rw [e1, e2]
    have d1 : decide (k < 0) = true := decide_eq_true h1
    have H : Hid (Ps.At o pm M w) := h
    clear h e1 e2 h1
    go_enter Try.func16, Try.ntmps16
    go_wp2
    go_ret
    exact ⟨rfl, ⟨pm, .inl rfl, H.out⟩, Tk.But.refl _ _⟩
  have d1 : decide (k < 0) = false := decide_eq_false h1
  by_cases h2 : 999 < k
  · have e1 : Ps.openE M k = 1 := by unfold Ps.openE; rw [if_pos (Or.inr h2)]
    have e2 : Ps.openM M k = M := by unfold Ps.openM; rw [e1, if_neg (by omega)]
    rw [e1, e2]
    have d2 : decide (999 < k) = true := decide_eq_true h2
    have H : Hid (Ps.At o pm M w) := h
    clear h e1 e2 h1 h2
    go_enter Try.func16, Try.ntmps16
    go_wp2
    go_ret
    exact ⟨rfl, ⟨pm, .inl rfl, H.out⟩, Tk.But.refl _ _⟩
  have d2 : decide (999 < k) = false := decide_eq_false h2
  have hor : ¬ (k < 0 ∨ 999 < k) := by omega
  obtain ⟨⟨a, b, c, d⟩, hg⟩ : ∃ x, Ps.get M k = x := ⟨_, rfl⟩
  have c0 := h.cell
  have h3 := h.alloc (.cells #[.int .i64 a, .int .i64 b, .int .i64 c, .int .i64 d] 53)
  have c3 := h3.cell
  have hl3 := h3.lens
  have A3 : Tk.But (fun x => x = o ∨ pm = some x) w (w.alloc (.cells #[.int .i64 a, .int .i64 b, .int .i64 c, .int .i64 d] 53)) := (Tk.But.refl _ w).alloc _
  cases hh : Ps.has M k
  · have hl := h.look hk hg hh
    by_cases h4 : 8 ≤ M.length
    · have e1 : Ps.openE M k = 5 := by unfold Ps.openE; rw [if_neg hor, hh, if_neg (by simp), if_pos h4]
      have e2 : Ps.openM M k = M := by unfold Ps.openM; rw [e1, if_neg (by omega)]
      rw [e1, e2]
      have d4 : decide (8 ≤ (M.length : Int)) = true := decide_eq_true (by omega)
      have d4' : decide (8 ≤ M.length) = true := decide_eq_true h4
      have H : Hid (Ps.At o pm M (w.alloc (.cells #[.int .i64 a, .int .i64 b, .int .i64 c, .int .i64 d] 53)) ∧ Tk.But (fun x => x = o ∨ pm = some x) w (w.alloc (.cells #[.int .i64 a, .int .i64 b, .int .i64 c, .int .i64 d] 53))) := ⟨h3, A3⟩
      clear h h3 e1 e2 h1 h2 h4 hor hg hh A3
      go_enter Try.func16, Try.ntmps16
      go_wp2
      go_ret
      exact ⟨rfl, ⟨pm, .inl rfl, H.out.1⟩, H.out.2⟩
    · have e1 : Ps.openE M k = 0 := by unfold Ps.openE; rw [if_neg hor, hh, if_neg (by simp), if_neg h4]
      have e2 : Ps.openM M k = M ++ [(k, Bx.none)] := by unfold Ps.openM; rw [e1, if_pos rfl]
      rw [e1, e2]
      have d4 : decide (8 ≤ (M.length : Int)) = false := decide_eq_false (by omega)
      have d4' : decide (8 ≤ M.length) = false := decide_eq_false h4
      have hkey : keyOf Try.prog 3 (.int .i64 k) = some (.int .i64 k) := keyOf_int_mk Try.underlying3 hk
      have hn : M.length < maxLen := by unfold maxLen; omega
      have HH : Hid (Ps.has M k = false) := hh
      cases pm with
      | none =>
        have hM := h.2.1 rfl
        subst hM
        have hq := fun W => run_eql_map_nil_sl (P := Try.prog) W 49 _ _ none Try.underlying49
        have hmm := @run_makeMap Try.prog
        obtain ⟨f1, f2⟩ := h3.fresh
        have c4 := (h3.alloc (.map #[] 0)).cell
        have z4 := (h3.alloc (.map #[] 0)).frozen
        have c5 := f1.cell
        obtain ⟨D, hown, hi⟩ := f1.2.2 _ rfl
        have H : Hid (Tk.But (fun x => x = o ∨ none = some x) w (w.alloc (.cells #[.int .i64 a, .int .i64 b, .int .i64 c, .int .i64 d] 53))) := A3
        have hsz : (w.alloc (.cells #[.int .i64 a, .int .i64 b, .int .i64 c, .int .i64 d] 53)).heap.size = w.heap.size + 1 := by simp
        rw [hsz] at f1 f2 c5 hown
        have HF : Hid (Ps.At o (some (w.heap.size + 1)) [] (((w.alloc (.cells #[.int .i64 a, .int .i64 b, .int .i64 c, .int .i64 d] 53)).alloc (.map #[] 0)).setCell ⟨o, 0, none⟩ (.map (some (w.heap.size + 1)))) ∧ Tk.But (fun x => x = o) (w.alloc (.cells #[.int .i64 a, .int .i64 b, .int .i64 c, .int .i64 d] 53)) (((w.alloc (.cells #[.int .i64 a, .int .i64 b, .int .i64 c, .int .i64 d] 53)).alloc (.map #[] 0)).setCell ⟨o, 0, none⟩ (.map (some (w.heap.size + 1)))) ∧ Ps.Is D []) := ⟨f1, f2, hi⟩
        clear h h3 e1 e2 h1 h2 h4 hor hg hh A3 hi f1 f2 hsz
        go_enter Try.func16, Try.ntmps16
        go_wp2_with (first
          | (at_mapUpdate; refine wpList_mapUpdate_own _ rfl _ _ _ 49 rfl 3 53 Ps.law Try.underlying49 Ps.R (w.heap.size + 1) 0 _ rfl hown hn _ _ _ rfl rfl hkey _ [] (Ps.R_val Bx.none) ?_; intro w1 hown1 hgrow1)
          | fail)
        go_ret
        obtain ⟨r1, r2⟩ := HF.out.1.store hown1 (HF.out.2.2.put_new k Bx.none HH.out) hgrow1
        refine ⟨rfl, ⟨some (w.heap.size + 1), .inr ⟨_, rfl, by omega⟩, r1⟩, ?_⟩
        have q1 := H.out.trans (c := (((w.alloc (.cells #[.int .i64 a, .int .i64 b, .int .i64 c, .int .i64 d] 53)).alloc (.map #[] 0)).setCell ⟨o, 0, none⟩ (.map (some (w.heap.size + 1))))) ⟨HF.out.2.1.os, HF.out.2.1.tape, HF.out.2.1.output, HF.out.2.1.size, fun i hi he => HF.out.2.1.block i hi (fun e => he (.inl e))⟩
        exact ⟨r2.os.trans q1.os, r2.tape.trans q1.tape, r2.output.trans q1.output, Nat.le_trans q1.size r2.size, fun i hi he => (r2.block i (Nat.lt_of_lt_of_le hi q1.size) (by intro e; omega)).trans (q1.block i hi he)⟩
      | some B =>
        have hq := fun W => run_eql_map_nil_sl (P := Try.prog) W 49 _ _ (some B) Try.underlying49
        obtain ⟨D, hown, hi⟩ := h3.2.2 B rfl
        have H : Hid (Ps.At o (some B) M (w.alloc (.cells #[.int .i64 a, .int .i64 b, .int .i64 c, .int .i64 d] 53)) ∧ Tk.But (fun x => x = o ∨ some B = some x) w (w.alloc (.cells #[.int .i64 a, .int .i64 b, .int .i64 c, .int .i64 d] 53)) ∧ Ps.Is D M) := ⟨h3, A3, hi⟩
        clear h h3 e1 e2 h1 h2 h4 hor hg hh A3 hi
        go_enter Try.func16, Try.ntmps16
        go_wp2_with (first
          | (at_mapUpdate; refine wpList_mapUpdate_own _ rfl _ _ _ 49 rfl 3 53 Ps.law Try.underlying49 Ps.R B M.length _ rfl hown hn _ _ _ rfl rfl hkey _ [] (Ps.R_val Bx.none) ?_; intro w1 hown1 hgrow1)
          | fail)
        go_ret
        obtain ⟨r1, r2⟩ := H.out.1.store hown1 (H.out.2.2.put_new k Bx.none HH.out) hgrow1
        exact ⟨rfl, ⟨some B, .inl rfl, r1⟩, H.out.2.1.trans ⟨r2.os, r2.tape, r2.output, r2.size, fun i hi he => r2.block i hi (fun e => he (.inr (by rw [e])))⟩⟩
  · have hl := h.look hk hg hh
    have e1 : Ps.openE M k = 8 := by unfold Ps.openE; rw [if_neg hor, hh, if_pos rfl]
    have e2 : Ps.openM M k = M := by unfold Ps.openM; rw [e1, if_neg (by omega)]
    rw [e1, e2]
    have H : Hid (Ps.At o pm M (w.alloc (.cells #[.int .i64 a, .int .i64 b, .int .i64 c, .int .i64 d] 53)) ∧ Tk.But (fun x => x = o ∨ pm = some x) w (w.alloc (.cells #[.int .i64 a, .int .i64 b, .int .i64 c, .int .i64 d] 53))) := ⟨h3, A3⟩
    clear h h3 e1 e2 h1 h2 hor hg hh A3
    go_enter Try.func16, Try.ntmps16
    go_wp2
    go_ret
    exact ⟨rfl, ⟨pm, .inl rfl, H.out.1⟩, H.out.2⟩

set_option maxRecDepth 20000 in
theorem Try.pClose_any (o : Nat) (pm : Option Nat) (M : Ps.Ofc) (k : Int) (hk : (Lit.int .i64 k).wf = true) (w : World) (h : Ps.At o pm M w) :
    Calls Try.prog 19 #[.pointer (some ⟨o, 0, none⟩), .int .i64 k] w fun e w' => e = .returned (.int .i64 (Ps.closeE M k)) ∧ Ps.At o pm (Ps.cut M k) w' ∧ Tk.But (fun x => x = o ∨ pm = some x) w w' := by
  obtain ⟨⟨a, b, c, d⟩, hg⟩ : ∃ x, Ps.get M k = x := ⟨_, rfl⟩
  have c0 := h.cell
  have h3 := h.alloc (.cells #[.int .i64 a, .int .i64 b, .int .i64 c, .int .i64 d] 53)
  have c3 := h3.cell
  have A3 : Tk.But (fun x => x = o ∨ pm = some x) w (w.alloc (.cells #[.int .i64 a, .int .i64 b, .int .i64 c, .int .i64 d] 53)) := (Tk.But.refl _ w).alloc _
  cases hh : Ps.has M k
  · have hl := h.look hk hg hh
    have e1 : Ps.closeE M k = 6 := by unfold Ps.closeE; rw [hh]; rfl
    have e2 : Ps.cut M k = M := by
      have hm : k ∉ Ps.key M := fun e => by rw [Ps.has_iff.2 e] at hh; cases hh
      refine List.filter_eq_self.2 fun p hp => ?_
      have : p.1 ≠ k := fun e => hm (by rw [← e]; exact List.mem_map.2 ⟨p, hp, rfl⟩)
      simp [this]
    rw [e1, e2]
    have H : Hid (Ps.At o pm M (w.alloc (.cells #[.int .i64 a, .int .i64 b, .int .i64 c, .int .i64 d] 53)) ∧ Tk.But (fun x => x = o ∨ pm = some x) w (w.alloc (.cells #[.int .i64 a, .int .i64 b, .int .i64 c, .int .i64 d] 53))) := ⟨h3, A3⟩
    clear h h3 e1 e2 hg hh A3
    go_enter Try.func19, Try.ntmps19
    go_wp2
    go_ret
    exact ⟨rfl, H.out.1, H.out.2⟩
  · have hl := h.look hk hg hh
    have e1 : Ps.closeE M k = 0 := by unfold Ps.closeE; rw [hh]; rfl
    rw [e1]
    have hkey : keyOf Try.prog 3 (.int .i64 k) = some (.int .i64 k) := keyOf_int_mk Try.underlying3 hk
    cases pm with
    | none =>
      rw [h.2.1 rfl] at hh
      cases hh
    | some B =>
      obtain ⟨D, hown, hi⟩ := h3.2.2 B rfl
      have H : Hid (Ps.At o (some B) M (w.alloc (.cells #[.int .i64 a, .int .i64 b, .int .i64 c, .int .i64 d] 53)) ∧ Tk.But (fun x => x = o ∨ some B = some x) w (w.alloc (.cells #[.int .i64 a, .int .i64 b, .int .i64 c, .int .i64 d] 53)) ∧ Ps.Is D M) := ⟨h3, A3, hi⟩
      clear h h3 e1 hg hh A3 hi
      go_enter Try.func19, Try.ntmps19
      go_wp2_with (first
        | (at_delete; refine wpList_delete_own _ rfl _ _ 49 3 rfl 53 Ps.law Try.underlying49 Ps.R B M.length _ rfl hown _ _ rfl hkey ?_; intro w1 hown1 hturn1)
        | fail)
      go_ret
      obtain ⟨r1, r2⟩ := H.out.1.store hown1 (H.out.2.2.del k) hturn1.grown
      exact ⟨rfl, r1, H.out.2.1.trans ⟨r2.os, r2.tape, r2.output, r2.size, fun i hi he => r2.block i hi (fun e => he (.inr (by rw [e])))⟩⟩

end Go.Proofs
