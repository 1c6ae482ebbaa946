import Derived.Test.YtdghjgiakblfmaaGreatDoorRAcTwice
import Derived.Test.YtdghjgiakblfmaaGreatDoorRDdLarge
namespace Go.Proofs
open Go.RowKit
theorem Dd.index40 (cs : Array Value) (j : Nat) (x : Int) (hj : j < 40) (hc : cs[j]? = some (.int .i64 x)) (W : World) : (Instr.index 38 (.agg cs) (.int .i64 j)).run Tryz.prog W = .ok (.int .i64 x) W := by
 simp [Instr.index, go_sem, hc]
 intro h
 omega
theorem Dd.index64 (cs : Array Value) (j : Nat) (x : Int) (hj : j < 64) (hc : cs[j]? = some (.int .i64 x)) (W : World) : (Instr.index 39 (.agg cs) (.int .i64 j)).run Tryz.prog W = .ok (.int .i64 x) W := by
 simp [Instr.index, go_sem, hc]
 intro h
 omega
def Dd.lks (s : List Int) : List Value := Dd.ints (s.take 40)
def Dd.kds (s : List Int) : List Value := Dd.ints (s.drop 40)
theorem Dd.lks_len {s : List Int} (h : s.length = 104) : (Dd.lks s).length = 40 := by simp [Dd.lks, Dd.ints]; omega
theorem Dd.kds_len {s : List Int} (h : s.length = 104) : (Dd.kds s).length = 64 := by simp [Dd.kds, Dd.ints]; omega
theorem Dd.lks_get {s : List Int} (h : s.length = 104) (j : Nat) (hj : j < 40) : (Dd.lks s).toArray[j]? = some (.int .i64 (s.getD j 0)) := by
 simp [Dd.lks, Dd.ints, List.getElem?_map, hj, List.getElem?_eq_getElem (show j < s.length by omega), List.getD_eq_getElem?_getD]
theorem Dd.kds_get {s : List Int} (h : s.length = 104) (j : Nat) (hj : j < 64) : (Dd.kds s).toArray[j]? = some (.int .i64 (s.getD (40 + j) 0)) := by
 simp [Dd.kds, Dd.ints, List.getElem?_map, List.getElem?_drop, List.getElem?_eq_getElem (show 40 + j < s.length by omega), List.getD_eq_getElem?_getD]
theorem Dd.range_lks {W : World} {g : Nat} {s : List Int} (h : Dd.At W g s) : W.rangeAt g 0 (Dd.lks s) := fun j v hv => by
 have hj : j < 40 := by
  have := (List.getElem?_eq_some_iff.1 hv).1
  rw [Dd.lks_len h.len] at this
  exact this
 rw [Nat.zero_add, h.cell j (by omega)]
 have := Dd.lks_get h.len j hj
 rw [List.getElem?_toArray, hv] at this
 exact this.symm
theorem Dd.range_kds {W : World} {g : Nat} {s : List Int} (h : Dd.At W g s) : W.rangeAt g 40 (Dd.kds s) := fun j v hv => by
 have hj : j < 64 := by
  have := (List.getElem?_eq_some_iff.1 hv).1
  rw [Dd.kds_len h.len] at this
  exact this
 rw [h.cell (40 + j) (by omega)]
 have := Dd.kds_get h.len j hj
 rw [List.getElem?_toArray, hv] at this
 exact this.symm
theorem Dd.info40 : (Tryz.prog.info? 38).map (·.size) = some 40 := by kernel_rfl
theorem Dd.info64 : (Tryz.prog.info? 39).map (·.size) = some 64 := by kernel_rfl
theorem Dd.fit_of {T : Ac} (h : Dd.Small T) : T.Fit :=
 have dp : ∀ x : Tm, x.size ≤ 1000 → x.size ≤ 2147483647 ∧ x.depth ≤ 1000 := fun x hx => ⟨by omega, by have := x.depth_le_size; omega⟩
 ⟨dp _ h.t, fun x hx => dp _ (h.c x hx), fun x hx => dp _ (h.n x hx), fun x hx => dp _ (h.f x hx), by have := h.cl; omega, by have := h.kl; omega, by have := h.ll; omega, by have := h.nl; omega, by have := h.fl; omega⟩
theorem Dd.fin_run {ls kk : List (Int × Int)} (hw : Dd.Web ls kk) {s : List Int} (h : Dd.Inv ls kk s) {k : Nat} (hk : k < kk.length) (h1 : s.getD (40 + k) 0 = 1) : Dd.finR true ls kk s k = if Dd.gateB kk k = true then (Dd.zeros, 6) else (Dd.finished ls kk s k, 0) := by
 have hc : Dd.checkI true kk.length ls.length s = 0 := by unfold Dd.checkI; rw [if_pos rfl, if_pos (h.ok hw)]
 have hr : Dd.runsB kk.length s k = true := by
  unfold Dd.runsB
  rw [show ((k : Int)).toNat = k by omega, decide_eq_true (show (0 : Int) ≤ k by omega), decide_eq_true (show (k : Int) < kk.length by omega), decide_eq_true h1]
  rfl
 unfold Dd.finR
 rw [hc, if_neg (by decide), hr, show ((k : Int)).toNat = k by omega]
 by_cases hg : Dd.gateB kk k = true
 ·rw [if_pos (.inr hg), if_pos hg]
 ·rw [if_neg (by rintro (e | e); cases e; exact hg e), if_neg hg]
theorem Dd.cho_run {ls kk : List (Int × Int)} (hw : Dd.Web ls kk) {s : List Int} (h : Dd.Inv ls kk s) {k : Nat} (hk : k < kk.length) (h1 : s.getD (40 + k) 0 = 1) (hg : Dd.gateB kk k = true) {o : Nat} (ho : o < ls.countP fun x => decide (x.1 = (k : Int))) : ∃ c : Nat, (ls[c]?).map Prod.fst = some (k : Int) ∧ Dd.choR true ls kk s k o = (Dd.chose ls kk s k c, 0) := by
 have hc : Dd.checkI true kk.length ls.length s = 0 := by unfold Dd.checkI; rw [if_pos rfl, if_pos (h.ok hw)]
 have hr : Dd.runsB kk.length s k = true := by
  unfold Dd.runsB
  rw [show ((k : Int)).toNat = k by omega, decide_eq_true (show (0 : Int) ≤ k by omega), decide_eq_true (show (k : Int) < kk.length by omega), decide_eq_true h1]
  rfl
 obtain ⟨c, hl, hm⟩ := Dd.linkAt_some k ls 0 o (by omega) (by omega)
 refine ⟨c, hm, ?_⟩
 rw [Nat.zero_add] at hl
 unfold Dd.choR
 rw [hc, if_neg (by decide), hr, show ((k : Int)).toNat = k by omega, hg, if_neg (by simp), hl, if_neg (by omega), show ((c : Int)).toNat = c by omega]
theorem Dd.run_run {ls kk : List (Int × Int)} (hw : Dd.Web ls kk) {s : List Int} (h : Dd.Inv ls kk s) : Dd.runL true kk.length ls.length s = Dd.running kk.length s := by
 unfold Dd.runL Dd.checkI
 rw [if_pos rfl, if_pos (h.ok hw), if_neg (by decide)]
theorem Dd.own_at {w : World} {B n c : Nat} {a : Option Addr} {l : List Nat} (h : w.ownsRow B 3 1 (.slice a n c) l.length (Rk.nums l)) (j : Nat) (hj : j < l.length) : ∃ g off, a = some ⟨g, off, none⟩ ∧ g < w.heap.size ∧ w.cell? ⟨g, off + j, none⟩ = some (.int .i64 l[j]) := by
 rcases h with ⟨hl, ⟨_, hn⟩ | ⟨g, cap, cur, hv, hB, hg, h4, h5, h6, h7⟩⟩
 ·omega
 ·obtain ⟨rfl, _, _⟩ := Value.slice.inj hv
  refine ⟨g, 0, rfl, (Array.getElem?_eq_some_iff.1 hg).1, ?_⟩
  rw [Nat.zero_add]
  simp only [World.cell?, hg]
  have h8 : (Rk.nums l)[j]? = some (.int .i64 l[j]) := by simp [Rk.nums, hj]
  rw [← h7, List.getElem?_take] at h8
  split at h8
  ·rw [Array.getElem?_toList] at h8; exact h8
  ·simp at h8
end Go.Proofs
