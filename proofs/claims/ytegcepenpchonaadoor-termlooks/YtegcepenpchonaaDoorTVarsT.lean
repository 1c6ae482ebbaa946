/-
  The contract of Vars: a map of what was found, its keys sorted. (The layings were printed by the shelf's own command; the numbers are marks: mkshelf.py.)
-/
import Derived.Test.YtegcepenpchonaaDoorTSize
import Derived.Test.YtegcepenpchonaaDoorTmHas
import Derived.Maps.OwnSet
import Derived.Shelf.SlIterI.Nil
import Derived.Shelf.SortM.Plain
import Derived.Shelf.SortM.SortNone
namespace Go.Proofs
open Go.RowKit Go.Shelf Go.Maps Go.Sort

def Tryd.keysA_ren : Go.Shelf.Ren := ⟨fun | 7 => 34 | 10 => 57 | n => n, fun | 23 => 66 | 26 => 3 | 3 => 68 | 28 => 72 | 0 => 0 | 27 => 71 | 33 => 55 | 4 => 4 | n => n, fun | n => n⟩
theorem Tryd.keysA : Go.Proofs.SlLaysZI.n7 Tryd.prog Tryd.keysA_ren := {
  mixed := by kernel_rfl
  f7 := ⟨Tryd.f34.name, by decide, Tryd.func34.trans (congrArg some (by kernel_rfl))⟩
  f10 := ⟨Tryd.f57.name, by decide, Tryd.func57.trans (congrArg some (by kernel_rfl))⟩
  t0 := Tryd.underlying0
  a0 := Tryd.isAgg0
  z0 := Tryd.sizeOf0
  v0 := Tryd.zeroValue0
  t4 := Tryd.underlying4
  a4 := Tryd.isAgg4
  z4 := Tryd.sizeOf4
  v4 := Tryd.zeroValue4
  t23 := Tryd.underlying66
  a23 := Tryd.isAgg66
  z23 := Tryd.sizeOf66
  v23 := Tryd.zeroValue66
  t26 := Tryd.underlying3
  a26 := Tryd.isAgg3
  z26 := Tryd.sizeOf3
  v26 := Tryd.zeroValue3
  t27 := Tryd.underlying71
  a27 := Tryd.isAgg71
  z27 := Tryd.sizeOf71
  v27 := Tryd.zeroValue71
  t28 := Tryd.underlying72
  a28 := Tryd.isAgg72
  z28 := Tryd.sizeOf72
  v28 := Tryd.zeroValue72
  t33 := Tryd.underlying55
  a33 := Tryd.isAgg55
  z33 := Tryd.sizeOf55
  v33 := Tryd.zeroValue55 }
def Tryd.sortedA_ren : Go.Shelf.Ren := ⟨fun | 6 => 33 | 8 => 55 | 9 => 56 | 11 => 65 | 13 => 67 | 12 => 66 | 23 => 82 | 24 => 83 | 14 => 73 | 15 => 74 | 16 => 75 | 17 => 76 | 18 => 77 | 19 => 78 | 20 => 79 | 21 => 80 | 22 => 81 | 25 => 89 | 26 => 90 | 27 => 91 | 28 => 92 | 29 => 93 | 30 => 94 | 31 => 99 | n => n, fun | 26 => 3 | 28 => 72 | 24 => 47 | 0 => 0 | 3 => 3 | 37 => 100 | 48 => 114 | 50 => 103 | 4 => 4 | 40 => 107 | 39 => 106 | 45 => 95 | 5 => 5 | 9 => 9 | 51 => 121 | 55 => 125 | 57 => 130 | 58 => 33 | 33 => 55 | n => n, fun | n => n⟩
theorem Tryd.sortedA : Go.Proofs.SlLaysZI.n6 Tryd.prog Tryd.sortedA_ren := {
  mixed := by kernel_rfl
  f6 := ⟨Tryd.f33.name, by decide, Tryd.func33.trans (congrArg some (by kernel_rfl))⟩
  f8 := ⟨Tryd.f55.name, by decide, Tryd.func55.trans (congrArg some (by kernel_rfl))⟩
  f11 := ⟨Tryd.f65.name, by decide, Tryd.func65.trans (congrArg some (by kernel_rfl))⟩
  t0 := Tryd.underlying0
  a0 := Tryd.isAgg0
  z0 := Tryd.sizeOf0
  v0 := Tryd.zeroValue0
  t24 := Tryd.underlying47
  a24 := Tryd.isAgg47
  z24 := Tryd.sizeOf47
  v24 := Tryd.zeroValue47
  t26 := Tryd.underlying3
  a26 := Tryd.isAgg3
  z26 := Tryd.sizeOf3
  v26 := Tryd.zeroValue3
  t28 := Tryd.underlying72
  a28 := Tryd.isAgg72
  z28 := Tryd.sizeOf72
  v28 := Tryd.zeroValue72
  i26 := by kernel_rfl }
def Tryd.sortA_ren : Go.Shelf.Ren := ⟨fun | 5 => 56 | 8 => 67 | 7 => 66 | 19 => 82 | 20 => 83 | 10 => 73 | 11 => 74 | 12 => 75 | 13 => 76 | 14 => 77 | 15 => 78 | 16 => 79 | 17 => 80 | 18 => 81 | 30 => 89 | 31 => 90 | 32 => 91 | 33 => 92 | 34 => 93 | 35 => 94 | 40 => 99 | n => n, fun | 23 => 47 | 25 => 3 | 3 => 3 | 32 => 100 | 22 => 47 | 0 => 0 | 44 => 114 | 46 => 103 | 4 => 4 | 36 => 107 | 35 => 106 | 41 => 95 | 5 => 5 | 9 => 9 | 53 => 121 | 57 => 125 | 63 => 130 | 64 => 33 | n => n, fun | n => n⟩
theorem Tryd.sortA : Go.Proofs.SlLaysM.n5 Tryd.prog Tryd.sortA_ren := {
  mixed := by kernel_rfl
  f5 := ⟨Tryd.f56.name, by decide, Tryd.func56.trans (congrArg some (by kernel_rfl))⟩
  f7 := ⟨Tryd.f66.name, by decide, Tryd.func66.trans (congrArg some (by kernel_rfl))⟩
  f8 := Tryd.func67.trans (congrArg some (by kernel_rfl))
  f10 := ⟨Tryd.f73.name, by decide, Tryd.func73.trans (congrArg some (by kernel_rfl))⟩
  f11 := ⟨Tryd.f74.name, by decide, Tryd.func74.trans (congrArg some (by kernel_rfl))⟩
  f12 := ⟨Tryd.f75.name, by decide, Tryd.func75.trans (congrArg some (by kernel_rfl))⟩
  f13 := ⟨Tryd.f76.name, by decide, Tryd.func76.trans (congrArg some (by kernel_rfl))⟩
  f14 := ⟨Tryd.f77.name, by decide, Tryd.func77.trans (congrArg some (by kernel_rfl))⟩
  f15 := ⟨Tryd.f78.name, by decide, Tryd.func78.trans (congrArg some (by kernel_rfl))⟩
  f16 := ⟨Tryd.f79.name, by decide, Tryd.func79.trans (congrArg some (by kernel_rfl))⟩
  f17 := ⟨Tryd.f80.name, by decide, Tryd.func80.trans (congrArg some (by kernel_rfl))⟩
  f18 := ⟨Tryd.f81.name, by decide, Tryd.func81.trans (congrArg some (by kernel_rfl))⟩
  f19 := Tryd.func82.trans (congrArg some (by kernel_rfl))
  f20 := Tryd.func83.trans (congrArg some (by kernel_rfl))
  f30 := ⟨Tryd.f89.name, by decide, Tryd.func89.trans (congrArg some (by kernel_rfl))⟩
  f31 := Tryd.func90.trans (congrArg some (by kernel_rfl))
  f32 := Tryd.func91.trans (congrArg some (by kernel_rfl))
  f33 := ⟨Tryd.f92.name, by decide, Tryd.func92.trans (congrArg some (by kernel_rfl))⟩
  f34 := ⟨Tryd.f93.name, by decide, Tryd.func93.trans (congrArg some (by kernel_rfl))⟩
  f35 := ⟨Tryd.f94.name, by decide, Tryd.func94.trans (congrArg some (by kernel_rfl))⟩
  f40 := ⟨Tryd.f99.name, by decide, Tryd.func99.trans (congrArg some (by kernel_rfl))⟩
  t0 := Tryd.underlying0
  a0 := Tryd.isAgg0
  z0 := Tryd.sizeOf0
  v0 := Tryd.zeroValue0
  t3 := Tryd.underlying3
  a3 := Tryd.isAgg3
  z3 := Tryd.sizeOf3
  v3 := Tryd.zeroValue3
  t4 := Tryd.underlying4
  a4 := Tryd.isAgg4
  z4 := Tryd.sizeOf4
  v4 := Tryd.zeroValue4
  t5 := Tryd.underlying5
  a5 := Tryd.isAgg5
  z5 := Tryd.sizeOf5
  v5 := Tryd.zeroValue5
  t9 := Tryd.underlying9
  a9 := Tryd.isAgg9
  z9 := Tryd.sizeOf9
  v9 := Tryd.zeroValue9
  t22 := Tryd.underlying47
  a22 := Tryd.isAgg47
  z22 := Tryd.sizeOf47
  v22 := Tryd.zeroValue47
  t23 := Tryd.underlying47
  a23 := Tryd.isAgg47
  z23 := Tryd.sizeOf47
  v23 := Tryd.zeroValue47
  t25 := Tryd.underlying3
  a25 := Tryd.isAgg3
  z25 := Tryd.sizeOf3
  v25 := Tryd.zeroValue3
  t32 := Tryd.underlying100
  a32 := Tryd.isAgg100
  z32 := Tryd.sizeOf100
  v32 := Tryd.zeroValue100
  t35 := Tryd.underlying106
  a35 := Tryd.isAgg106
  z35 := Tryd.sizeOf106
  v35 := Tryd.zeroValue106
  t36 := Tryd.underlying107
  a36 := Tryd.isAgg107
  z36 := Tryd.sizeOf107
  v36 := Tryd.zeroValue107
  t41 := Tryd.underlying95
  a41 := Tryd.isAgg95
  z41 := Tryd.sizeOf95
  v41 := Tryd.zeroValue95
  t44 := Tryd.underlying114
  a44 := Tryd.isAgg114
  z44 := Tryd.sizeOf114
  v44 := Tryd.zeroValue114
  t46 := Tryd.underlying103
  a46 := Tryd.isAgg103
  z46 := Tryd.sizeOf103
  v46 := Tryd.zeroValue103
  t53 := Tryd.underlying121
  a53 := Tryd.isAgg121
  z53 := Tryd.sizeOf121
  v53 := Tryd.zeroValue121
  t57 := Tryd.underlying125
  a57 := Tryd.isAgg125
  z57 := Tryd.sizeOf125
  v57 := Tryd.zeroValue125
  t63 := Tryd.underlying130
  a63 := Tryd.isAgg130
  z63 := Tryd.sizeOf130
  v63 := Tryd.zeroValue130
  t64 := Tryd.underlying33
  a64 := Tryd.isAgg33
  z64 := Tryd.sizeOf33
  v64 := Tryd.zeroValue33 }

theorem Tk.law3 : Keyed Tryd.prog 3 := int_keyed Tryd.underlying3

/-- The map's keys are the numbers of a list. -/
def Tk.Keys (D : DataW Unit) (l : List Int) : Prop := ∃ es, D = .map es ∧ (∀ p, p ∈ es → ∃ i, p.1 = Lit.int .i64 i) ∧ (es.map fun p => Go.intOf p.1).Nodup ∧ ∀ x, x ∈ (es.map fun p => Go.intOf p.1) ↔ x ∈ l
theorem Tk.keys_nil : Tk.Keys (.map []) [] := ⟨[], rfl, by simp, by simp, by simp⟩
theorem Tk.Keys.put {D : DataW Unit} {l : List Int} (h : Tk.Keys D l) (n : Int) (d : DataW Unit) : Tk.Keys (D.put (.int .i64 n) d) (l ++ [n]) := by
  obtain ⟨es, rfl, h1, h2, h3⟩ := h
  have P := Go.WideShapes.insert_perm (H := Unit) (Lit.int .i64 n, d) (es.filter fun p => !p.1.sameKey (.int .i64 n))
  have hf : ∀ p, p ∈ (es.filter fun p => !p.1.sameKey (.int .i64 n)) ↔ p ∈ es ∧ Go.intOf p.1 ≠ n := by
    intro p
    rw [List.mem_filter]
    constructor
    · rintro ⟨hp, hq⟩
      refine ⟨hp, fun e => ?_⟩
      obtain ⟨i, hi⟩ := h1 p hp
      rw [hi] at hq e
      simp [Lit.sameKey, Go.intOf] at hq e
      exact hq e
    · rintro ⟨hp, hq⟩
      refine ⟨hp, ?_⟩
      obtain ⟨i, hi⟩ := h1 p hp
      rw [hi] at hq ⊢
      simp [Lit.sameKey, Go.intOf] at hq ⊢
      exact hq
  have PM := P.map (fun p => Go.intOf p.1)
  refine ⟨_, rfl, fun p hp => ?_, ?_, fun x => ?_⟩
  · rcases List.mem_cons.1 (P.mem_iff.1 hp) with rfl | hp
    · exact ⟨n, rfl⟩
    · exact h1 p ((hf p).1 hp).1
  · rw [PM.nodup_iff, List.map_cons, List.nodup_cons]
    refine ⟨fun hm => ?_, h2.sublist (List.filter_sublist.map _)⟩
    obtain ⟨p, hp, he⟩ := List.mem_map.1 hm
    exact ((hf p).1 hp).2 he
  · rw [PM.mem_iff, List.map_cons, List.mem_cons, List.mem_append, List.mem_singleton, ← h3 x]
    constructor
    · rintro (h | h)
      · exact .inr h
      · obtain ⟨p, hp, he⟩ := List.mem_map.1 h
        exact .inl (List.mem_map.2 ⟨p, ((hf p).1 hp).1, he⟩)
    · rintro (h | h)
      · by_cases hx : x = n
        · exact .inl hx
        · obtain ⟨p, hp, he⟩ := List.mem_map.1 h
          exact .inr (List.mem_map.2 ⟨p, (hf p).2 ⟨hp, by rw [he]; exact hx⟩, he⟩)
      · exact .inl h

/-- A map in a box. -/
def Tk.Mb (bf b : Nat) (w : World) : Prop := w.heap[bf]? = some (.cells #[.map (some b)] 66 (0, 0))
theorem Tk.Mb.c0 {bf b : Nat} {w : World} (h : Tk.Mb bf b w) : w.cell? ⟨bf, 0, none⟩ = some (.map (some b)) := by simp only [Tk.Mb] at h; simp [World.cell?, h]
theorem Tk.Mb.lt {bf b : Nat} {w : World} (h : Tk.Mb bf b w) : bf < w.heap.size := (Array.getElem?_eq_some_iff.1 h).1
/-- What was found so far. -/
def Tk.Fd (bf b : Nat) (l : List Int) (w : World) : Prop := Tk.Mb bf b w ∧ ∃ nn D, w.ownsMap Tryd.prog 3 (unitElem (H := Unit)) b nn D ∧ nn ≤ l.length ∧ Tk.Keys D l
theorem Tk.Fd.keep {bf b : Nat} {l : List Int} {w w' : World} (h : Tk.Fd bf b l w) (h1 : w'.heap[bf]? = w.heap[bf]?) (h2 : w'.heap[b]? = w.heap[b]?) : Tk.Fd bf b l w' := by
  obtain ⟨hm, nn, D, ⟨es, clock, hb, hr⟩, h3⟩ := h
  exact ⟨h1.trans hm, nn, D, ⟨es, clock, h2.trans hb, hr⟩, h3⟩
theorem Tk.Fd.lt {bf b : Nat} {l : List Int} {w : World} (h : Tk.Fd bf b l w) : bf < w.heap.size ∧ b < w.heap.size := by
  obtain ⟨hm, nn, D, ho, _⟩ := h
  exact ⟨hm.lt, ho.lt⟩
theorem Tk.Fd.ne {bf b : Nat} {l : List Int} {w : World} (h : Tk.Fd bf b l w) : bf ≠ b := by
  obtain ⟨hm, nn, D, ⟨es, clock, hb, _⟩, _⟩ := h
  intro e
  subst e
  unfold Tk.Mb at hm
  rw [hm] at hb
  cases hb

set_option maxRecDepth 20000 in
set_option maxHeartbeats 1600000 in
theorem Tryd.varClosure_any (op n : Int) (a : Option Addr) (len cap : Nat) (bf b : Nat) (l : List Int) (w : World) (hwf : (Lit.int .i64 n).wf = true) (hl : l.length < 2147483647) (h : Tk.Fd bf b l w) :
    Calls Tryd.prog 32 #[.agg #[.int .i64 op, .int .i64 n, .slice a len cap], .pointer (some ⟨bf, 0, none⟩)] w fun e w' => e = .returned (.tuple #[]) ∧ Tk.Fd bf b (if op = 2 then l ++ [n] else l) w' ∧ Tk.But (fun k => k = b) w w' := by
  have A0 : Below w.heap.size w (w.alloc (.cells #[.int .i64 op, .int .i64 n, .slice a len cap] 24)) := (Below.refl _ w).alloc (Nat.le_refl _) _
  have hlt := h.lt
  have hne := h.ne
  have F0 : Tk.Fd bf b l (w.alloc (.cells #[.int .i64 op, .int .i64 n, .slice a len cap] 24)) := h.keep (A0.block _ hlt.1) (A0.block _ hlt.2)
  have HA : Hid (Below w.heap.size w (w.alloc (.cells #[.int .i64 op, .int .i64 n, .slice a len cap] 24))) := A0
  have HF : Hid (Tk.Fd bf b l (w.alloc (.cells #[.int .i64 op, .int .i64 n, .slice a len cap] 24))) := F0
  have c0 := F0.1.c0
  obtain ⟨hm0, nn, D, hown, hnn, hk⟩ := F0
  have HK : Hid (Tk.Keys D l ∧ nn ≤ l.length) := ⟨hk, hnn⟩
  have hkey : keyOf Tryd.prog 3 (.int .i64 n) = some (.int .i64 n) := keyOf_int_mk Tryd.underlying3 hwf
  have hnm : nn < maxLen := by unfold maxLen; omega
  clear A0 h hm0 hk hnn
  by_cases ho : op = 2
  · subst ho
    rw [if_pos rfl]
    go_enter Tryd.func32, Tryd.ntmps32
    go_wp2_with (first
      | (at_mapUpdate; refine wpList_mapUpdate_own _ rfl _ _ _ 66 rfl 3 68 Tk.law3 Tryd.underlying66 (unitElem (H := Unit)) b nn _ rfl hown hnm _ _ _ rfl rfl hkey _ [] unitElem_mk ?_; intro w1 hown1 hgrow1)
      | fail)
    go_end0
    have hb1 : Tk.But (fun k => k = b) (w.alloc (.cells #[.int .i64 2, .int .i64 n, .slice a len cap] 24)) w1 := ⟨hgrow1.os, hgrow1.tape, hgrow1.output, hgrow1.size, fun i hi he => hgrow1.block i hi (by intro e; exact he (Option.some.inj e))⟩
    refine ⟨rfl, ⟨?_, nn + 1, _, hown1, by have := HK.out.2; simp; omega, HK.out.1.put n _⟩, (Tk.But.of_below HA.out).trans hb1⟩
    exact (hb1.block bf (by have := HA.out.size; omega) hne).trans HF.out.1
  · have hd : (op == 2) = false := by simpa using ho
    rw [if_neg ho]
    clear ho
    go_enter Tryd.func32, Tryd.ntmps32
    go_wp2
    go_end0
    exact ⟨rfl, HF.out, Tk.But.of_below HA.out⟩

theorem Tk.does_vars (bf b B : Nat) (hbf : bf < B) (hb : b < B) : Tk.Does (fun (l : List Int) _ n _ => l.length < 2147483647 ∧ (Lit.int .i64 n).wf = true) 32 #[.pointer (some ⟨bf, 0, none⟩)] (fun l W => Tk.Fd bf b l W) (fun l op n _ => if op = 2 then l ++ [n] else l) (fun k => k = b) B where
  enters := enters_of Tryd.func32 (by kernel_rfl) rfl
  calls := fun l W op n a len cap ho h => Tryd.varClosure_any op n a len cap bf b l W ho.2 ho.1 h
  keeps := fun l W W' h hw => h.keep (hw.block bf hbf) (hw.block b hb)
  below := fun k hk => by omega

mutual
theorem Tm.fold_vars : ∀ (l : List Int) (T : Tm), (∀ x, x ∈ Tm.foldT (fun (l : List Int) op n _ => if op = 2 then l ++ [n] else l) l T ↔ x ∈ l ∨ T.has x = true) ∧ (Tm.foldT (fun (l : List Int) op n _ => if op = 2 then l ++ [n] else l) l T).length ≤ l.length + T.size
  | l, .mk o n ks => by
    rw [Tm.foldT, Tm.size]
    obtain ⟨h1, h2⟩ := Tm.fold_varss (if o = 2 then l ++ [n] else l) ks
    refine ⟨fun x => ?_, ?_⟩
    · rw [h1 x, Tm.has]
      by_cases ho : o = 2
      · simp only [ho, if_pos, List.mem_append, List.mem_singleton, decide_true, Bool.true_and, Bool.or_eq_true, decide_eq_true_eq]
        constructor
        · rintro ((h | h) | h)
          · exact .inl h
          · exact .inr (.inl h.symm)
          · exact .inr (.inr h)
        · rintro (h | h | h)
          · exact .inl (.inl h)
          · exact .inl (.inr h.symm)
          · exact .inr h
      · simp [ho]
    · refine Nat.le_trans h2 ?_
      split
      · simp; omega
      · omega
theorem Tm.fold_varss : ∀ (l : List Int) (ks : List Tm), (∀ x, x ∈ Tm.foldL (fun (l : List Int) op n _ => if op = 2 then l ++ [n] else l) l ks ↔ x ∈ l ∨ Tm.hass x ks = true) ∧ (Tm.foldL (fun (l : List Int) op n _ => if op = 2 then l ++ [n] else l) l ks).length ≤ l.length + Tm.sizes ks
  | l, [] => by simp [Tm.foldL, Tm.hass, Tm.sizes]
  | l, k :: r => by
    rw [Tm.foldL, Tm.sizes]
    obtain ⟨a1, a2⟩ := Tm.fold_vars l k
    obtain ⟨b1, b2⟩ := Tm.fold_varss (Tm.foldT (fun (l : List Int) op n _ => if op = 2 then l ++ [n] else l) l k) r
    refine ⟨fun x => ?_, by omega⟩
    rw [b1 x, a1 x, Tm.hass, Bool.or_eq_true]
    constructor
    · rintro ((h | h) | h)
      · exact .inl h
      · exact .inr (.inl h)
      · exact .inr (.inr h)
    · rintro (h | h | h)
      · exact .inl (.inl h)
      · exact .inl (.inr h)
      · exact .inr h
end

mutual
/-- Are all its numbers Go's? -/
def Tm.wfT : Tm → Prop | .mk _ n ks => (Lit.int .i64 n).wf = true ∧ Tm.wfL ks
def Tm.wfL : List Tm → Prop | [] => True | k :: r => Tm.wfT k ∧ Tm.wfL r
end
mutual
theorem Tm.ok_vars : ∀ (l : List Int) (T : Tm), T.wfT → l.length + T.size ≤ 2147483647 → Tm.okT (fun (l : List Int) _ n _ => l.length < 2147483647 ∧ (Lit.int .i64 n).wf = true) (fun (l : List Int) op n _ => if op = 2 then l ++ [n] else l) l T
  | l, .mk o n ks, hw, hs => by
    rw [Tm.wfT] at hw
    rw [Tm.size] at hs
    rw [Tm.okT]
    refine ⟨⟨by omega, hw.1⟩, Tm.ok_varss _ ks hw.2 ?_⟩
    split
    · simp; omega
    · omega
theorem Tm.ok_varss : ∀ (l : List Int) (ks : List Tm), Tm.wfL ks → l.length + Tm.sizes ks ≤ 2147483647 → Tm.okL (fun (l : List Int) _ n _ => l.length < 2147483647 ∧ (Lit.int .i64 n).wf = true) (fun (l : List Int) op n _ => if op = 2 then l ++ [n] else l) l ks
  | l, [], _, _ => by rw [Tm.okL]; trivial
  | l, k :: r, hw, hs => by
    rw [Tm.wfL] at hw
    rw [Tm.sizes] at hs
    rw [Tm.okL]
    have := (Tm.fold_vars l k).2
    exact ⟨Tm.ok_vars l k hw.1 (by omega), Tm.ok_varss _ r hw.2 (by omega)⟩
end

end Go.Proofs
