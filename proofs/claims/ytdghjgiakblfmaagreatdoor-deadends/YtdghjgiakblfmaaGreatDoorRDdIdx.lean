import Derived.Test.YtdghjgiakblfmaaGreatDoorRDdLarge
namespace Go.Proofs
open Go.RowKit
theorem Dd.index40 (cs : Array Value) (j : Nat) (x : Int) (hj : j < 40) (hc : cs[j]? = some (.int .i64 x)) (W : World) : (Instr.index 38 (.agg cs) (.int .i64 j)).run Tryz.prog W = .ok (.int .i64 x) W := by
 simp [Instr.index, go_sem, hc]
 intro h
 omega
theorem Dd.index64 (cs : Array Value) (j : Nat) (x : Int) (hj : j < 64) (hc : cs[j]? = some (.int .i64 x)) (W : World) : (Instr.index 39 (.agg cs) (.int .i64 j)).run Tryz.prog W = .ok (.int .i64 x) W := by
 simp [Instr.index, go_sem, hc]
 intro h
 omega
def Dd.lks (s : List Int) : List Value := Dd.ints (s.take 40)
def Dd.kds (s : List Int) : List Value := Dd.ints (s.drop 40)
theorem Dd.lks_len {s : List Int} (h : s.length = 104) : (Dd.lks s).length = 40 := by simp [Dd.lks, Dd.ints]; omega
theorem Dd.kds_len {s : List Int} (h : s.length = 104) : (Dd.kds s).length = 64 := by simp [Dd.kds, Dd.ints]; omega
theorem Dd.lks_get {s : List Int} (h : s.length = 104) (j : Nat) (hj : j < 40) : (Dd.lks s).toArray[j]? = some (.int .i64 (s.getD j 0)) := by
 simp [Dd.lks, Dd.ints, List.getElem?_map, hj, List.getElem?_eq_getElem (show j < s.length by omega), List.getD_eq_getElem?_getD]
theorem Dd.kds_get {s : List Int} (h : s.length = 104) (j : Nat) (hj : j < 64) : (Dd.kds s).toArray[j]? = some (.int .i64 (s.getD (40 + j) 0)) := by
 simp [Dd.kds, Dd.ints, List.getElem?_map, List.getElem?_drop, List.getElem?_eq_getElem (show 40 + j < s.length by omega), List.getD_eq_getElem?_getD]
theorem Dd.range_lks {W : World} {g : Nat} {s : List Int} (h : Dd.At W g s) : W.rangeAt g 0 (Dd.lks s) := fun j v hv => by
 have hj : j < 40 := by
  have := (List.getElem?_eq_some_iff.1 hv).1
  rw [Dd.lks_len h.len] at this
  exact this
 rw [Nat.zero_add, h.cell j (by omega)]
 have := Dd.lks_get h.len j hj
 rw [List.getElem?_toArray, hv] at this
 exact this.symm
theorem Dd.range_kds {W : World} {g : Nat} {s : List Int} (h : Dd.At W g s) : W.rangeAt g 40 (Dd.kds s) := fun j v hv => by
 have hj : j < 64 := by
  have := (List.getElem?_eq_some_iff.1 hv).1
  rw [Dd.kds_len h.len] at this
  exact this
 rw [h.cell (40 + j) (by omega)]
 have := Dd.kds_get h.len j hj
 rw [List.getElem?_toArray, hv] at this
 exact this.symm
theorem Dd.info40 : (Tryz.prog.info? 38).map (·.size) = some 40 := by kernel_rfl
theorem Dd.info64 : (Tryz.prog.info? 39).map (·.size) = some 64 := by kernel_rfl
theorem Dd.fit_of {T : Ac} (h : Dd.Small T) : T.Fit :=
 have dp : ∀ x : Tm, x.size ≤ 1000 → x.size ≤ 2147483647 ∧ x.depth ≤ 1000 := fun x hx => ⟨by omega, by have := x.depth_le_size; omega⟩
 ⟨dp _ h.t, fun x hx => dp _ (h.c x hx), fun x hx => dp _ (h.n x hx), fun x hx => dp _ (h.f x hx), by have := h.cl; omega, by have := h.kl; omega, by have := h.ll; omega, by have := h.nl; omega, by have := h.fl; omega⟩
theorem Dd.fin_run {ls kk : List (Int × Int)} (hw : Dd.Web ls kk) {s : List Int} (h : Dd.Inv ls kk s) {k : Nat} (hk : k < kk.length) (h1 : s.getD (40 + k) 0 = 1) : Dd.finR true ls kk s k = if Dd.gateB kk k = true then (Dd.zeros, 6) else (Dd.finished ls kk s k, 0) := by
 have hc : Dd.checkI true kk.length ls.length s = 0 := by unfold Dd.checkI; rw [if_pos rfl, if_pos (h.ok hw)]
 have hr : Dd.runsB kk.length s k = true := by
  unfold Dd.runsB
  rw [show ((k : Int)).toNat = k by omega, decide_eq_true (show (0 : Int) ≤ k by omega), decide_eq_true (show (k : Int) < kk.length by omega), decide_eq_true h1]
  rfl
 unfold Dd.finR
 rw [hc, if_neg (by decide), hr, show ((k : Int)).toNat = k by omega]
 by_cases hg : Dd.gateB kk k = true
 ·rw [if_pos (.inr hg), if_pos hg]
 ·rw [if_neg (by rintro (e | e); cases e; exact hg e), if_neg hg]
theorem Dd.cho_run {ls kk : List (Int × Int)} (hw : Dd.Web ls kk) {s : List Int} (h : Dd.Inv ls kk s) {k : Nat} (hk : k < kk.length) (h1 : s.getD (40 + k) 0 = 1) (hg : Dd.gateB kk k = true) {o : Nat} (ho : o < ls.countP fun x => decide (x.1 = (k : Int))) : ∃ c : Nat, (ls[c]?).map Prod.fst = some (k : Int) ∧ Dd.choR true ls kk s k o = (Dd.chose ls kk s k c, 0) := by
 have hc : Dd.checkI true kk.length ls.length s = 0 := by unfold Dd.checkI; rw [if_pos rfl, if_pos (h.ok hw)]
 have hr : Dd.runsB kk.length s k = true := by
  unfold Dd.runsB
  rw [show ((k : Int)).toNat = k by omega, decide_eq_true (show (0 : Int) ≤ k by omega), decide_eq_true (show (k : Int) < kk.length by omega), decide_eq_true h1]
  rfl
 obtain ⟨c, hl, hm⟩ := Dd.linkAt_some k ls 0 o (by omega) (by omega)
 refine ⟨c, hm, ?_⟩
 rw [Nat.zero_add] at hl
 unfold Dd.choR
 rw [hc, if_neg (by decide), hr, show ((k : Int)).toNat = k by omega, hg, if_neg (by simp), hl, if_neg (by omega), show ((c : Int)).toNat = c by omega]
theorem Dd.run_run {ls kk : List (Int × Int)} (hw : Dd.Web ls kk) {s : List Int} (h : Dd.Inv ls kk s) : Dd.runL true kk.length ls.length s = Dd.running kk.length s := by
 unfold Dd.runL Dd.checkI
 rw [if_pos rfl, if_pos (h.ok hw), if_neg (by decide)]
theorem Dd.own_at {w : World} {B n c : Nat} {a : Option Addr} {l : List Nat} (h : w.ownsRow B 3 1 (.slice a n c) l.length (Rk.nums l)) (j : Nat) (hj : j < l.length) : ∃ g off, a = some ⟨g, off, none⟩ ∧ g < w.heap.size ∧ w.cell? ⟨g, off + j, none⟩ = some (.int .i64 l[j]) := by
 rcases h with ⟨hl, ⟨_, hn⟩ | ⟨g, cap, cur, hv, hB, hg, h4, h5, h6, h7⟩⟩
 ·omega
 ·obtain ⟨rfl, _, _⟩ := Value.slice.inj hv
  refine ⟨g, 0, rfl, (Array.getElem?_eq_some_iff.1 hg).1, ?_⟩
  rw [Nat.zero_add]
  simp only [World.cell?, hg]
  have h8 : (Rk.nums l)[j]? = some (.int .i64 l[j]) := by simp [Rk.nums, hj]
  rw [← h7, List.getElem?_take] at h8
  split at h8
  ·rw [Array.getElem?_toList] at h8; exact h8
  ·simp at h8
end Go.Proofs
namespace Go.Proofs
open Go.RowKit
namespace Dd
def exZ : Tm := .mk 0 0 []
def exY : Tm := .mk 10 0 [.mk 2 0 [], .mk 2 0 []]
def ex0 : Ac := .mk 12 0 3 1 exZ [exY, exZ] [] [] [] []
def ex1 : Ac := .mk 5 1 0 0 exZ [] [] [] [] []
def ex2 : Ac := .mk 12 2 4 0 exZ [] [] [] [] []
def exL : List (Int × Int) := [(-1, 0), (0, 1), (0, 2), (1, 2), (2, -1)]
def exT : Ac := .mk 13 0 0 0 exZ [] [ex0, ex1, ex2] exL [] []
def exK : List (Int × Int) := [(12, 3), (5, 0), (12, 4)]
theorem lead_lt {es : List (Nat × Nat)} (h : ∀ e ∈ es, e.1 < e.2) {a b : Nat} (hr : Rk.Reach es a b) : a ≤ b := by
 induction hr with
 | refl => exact Nat.le_refl _
 | step _ m ih => have := h _ m; dsimp only at this; omega
theorem ex_free : Ac.freeB 3 (Ac.bet exL) = true := by
 have hb : Ac.bet exL = [(0, 1), (0, 2), (1, 2)] := by kernel_rfl
 unfold Ac.freeB
 have hc : Rk.chk (3 : Nat) [((0 : Int), (1 : Int)), (0, 2), (1, 2)] = 0 := by kernel_rfl
 rw [hb, hc, if_neg (by decide)]
 rw [List.isEmpty_iff, List.filter_eq_nil_iff]
 intro i _ hi
 rw [Rk.lead_iff] at hi
 obtain ⟨b, h1, h2⟩ := hi
 have hlt : ∀ e ∈ [((0 : Int), (1 : Int)), (0, 2), (1, 2)].map (fun e => (e.1.toNat, e.2.toNat)), e.1 < e.2 := by decide
 have h3 := lead_lt hlt h1
 have h4 := hlt _ h2
 dsimp only at h4
 omega
theorem ex_linked : exT.linkedB = true := by
 have h1 : Ac.freeB exT.ks.length (Ac.bet exT.ls) = true := ex_free
 unfold Ac.linkedB
 rw [h1, Bool.and_true]
 show _ = _
 kernel_rfl
theorem ex_same (T : Ac) (h : T.rest = Ac.zeroOf T.kind) : Ac.Same1 T.rest (Ac.zeroOf T.kind) := by rw [h]; exact ⟨rfl, rfl, rfl, rfl, rfl, rfl, rfl, rfl, rfl⟩
theorem ex_form : exT.Formed := (Ac.formed_13 rfl).2 ⟨by kernel_rfl, ex_linked, ex_same exT (by kernel_rfl), trivial⟩
theorem ex_form0 : ex0.Formed := (Ac.formed_12a rfl rfl).2 ⟨by kernel_rfl, ⟨by decide, by decide⟩, by decide, by kernel_rfl, ⟨by decide, by decide⟩, trivial, trivial, ex_same ex0 (by kernel_rfl), rfl⟩
theorem ex_form1 : ex1.Formed := (Ac.formed_5 rfl).2 ⟨by kernel_rfl, ⟨by decide, by decide⟩, ex_same ex1 (by kernel_rfl), rfl⟩
theorem ex_form2 : ex2.Formed := (Ac.formed_12b rfl (by decide)).2 ⟨by kernel_rfl, ⟨by decide, by decide⟩, by decide, ⟨by decide, by decide⟩, ex_same ex2 (by kernel_rfl), rfl⟩
theorem ex_go : (exT.go Ac.stepF ()).1 = true := by
 have f := (Ac.formB_iff exT).2 ex_form
 have f0 := (Ac.formB_iff ex0).2 ex_form0
 have f1 := (Ac.formB_iff ex1).2 ex_form1
 have f2 := (Ac.formB_iff ex2).2 ex_form2
 have leaf : ∀ x : Ac, x.formB = true → x.ks = [] → (x.go Ac.stepF ()).1 = true := fun x hx hk => by
  rw [Ac.go_eq, if_pos (show (Ac.stepF x ()).1 = true from hx), hk]
  rfl
 rw [Ac.go_eq, if_pos (show (Ac.stepF exT ()).1 = true from f)]
 show (Ac.goes Ac.stepF [ex0, ex1, ex2] _).1 = true
 rw [Ac.goes, if_pos (leaf ex0 f0 rfl), Ac.goes, if_pos (leaf ex1 f1 rfl), Ac.goes, if_pos (leaf ex2 f2 rfl)]
 rfl
theorem ex_web : webB exT = true := by
 have hc : exT.checkC = 0 := by
  have h1 : exT.tooB = false := by kernel_rfl
  have h2 : exT.twiceB = false := by kernel_rfl
  unfold Ac.checkC
  rw [h1, h2, if_neg (by decide), if_neg (fun h => ?_), if_neg (by decide)]
  rcases h with h | h | h
  ·exact absurd h (by decide)
  ·exact absurd h (by decide)
  ·rw [ex_go] at h; cases h
 unfold webB
 rw [hc]
 rfl
def exS : List Int := start exL exK
def exS1 : List Int := chose exL exK exS 0 2
theorem ex_start : startR true exL exK = (exS, 0) := rfl
theorem exS_length : exS.length = 104 := by kernel_rfl
theorem exS1_length : exS1.length = 104 := by kernel_rfl
theorem ex_choose : choR true exL exK exS 0 1 = (exS1, 0) := by
 have h1 : checkI true exK.length exL.length exS = 0 := by kernel_rfl
 have h2 : runsB exK.length exS 0 = true := by kernel_rfl
 have h3 : gateB exK (0 : Int).toNat = true := by kernel_rfl
 have h4 : linkAt 0 exL 0 1 = 2 := by kernel_rfl
 unfold choR
 rw [h1, if_neg (by decide), h2, h3, if_neg (by decide), h4, if_neg (by decide)]
 rfl
theorem ex_run : (runL true exK.length exL.length exS).length = 1 := by kernel_rfl
theorem ex_skip : exS1.getD 41 0 = 3 := by kernel_rfl
theorem ex_over1 : overB true exK.length exL exS1 = true := by kernel_rfl
theorem ex_over0 : overB true exK.length exL exS = false := by kernel_rfl
theorem ex_fit : exT.All Ac.Fit := by
 have leaf : ∀ x : Ac, x.ks = [] → x.Fit → x.All Ac.Fit := fun x hk hf => by rw [Ac.all_eq, hk]; exact ⟨hf, trivial⟩
 have z : exZ.size ≤ 2147483647 ∧ exZ.depth ≤ 1000 := ⟨by decide, by decide⟩
 have y : exY.size ≤ 2147483647 ∧ exY.depth ≤ 1000 := ⟨by decide, by decide⟩
 have nil : ∀ {α : Type} {P : α → Prop}, ∀ x ∈ ([] : List α), P x := fun x hx => by cases hx
 refine ⟨⟨z, nil, nil, nil, by decide, by decide, by decide, by decide, by decide⟩, leaf ex0 rfl ⟨z, fun x hx => ?_, nil, nil, by decide, by decide, by decide, by decide, by decide⟩, leaf ex1 rfl ⟨z, nil, nil, nil, by decide, by decide, by decide, by decide, by decide⟩, leaf ex2 rfl ⟨z, nil, nil, nil, by decide, by decide, by decide, by decide, by decide⟩, trivial⟩
 rcases List.mem_cons.1 hx with rfl | hx
 ·exact y
 ·rcases List.mem_cons.1 hx with rfl | hx
  ·exact z
  ·cases hx
end Dd
end Go.Proofs
