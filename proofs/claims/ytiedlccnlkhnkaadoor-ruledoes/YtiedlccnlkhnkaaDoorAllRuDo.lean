/-
  rule.Can, rule.Do and what they call.
-/
import Derived.Test.YtiedlccnlkhnkaaDoorAllRuFns
import Derived.Test.YtiedlccnlkhnkaaDoorTOps
import Derived.Lib.Hide
namespace Go.Proofs
open Go.RowKit Go.Shelf

/-- Numbers that a slice holds, in whatever block. -/
def Ru.Nums (X : World) (u : Value) (l : List Int) : Prop := ∃ a c, u = .slice a l.length c ∧ ∀ j (h : j < l.length), ∃ (g off : Nat) (o : Obj) (_ : Unit), a = some ⟨g, off, none⟩ ∧ X.heap[g]? = some o ∧ X.cell? ⟨g, off + j, none⟩ = some (.int .i64 l[j])
theorem Ru.Ints.nums {X : World} {u : Value} {l : List Int} (h : Ru.Ints X u l) : Ru.Nums X u l := by
  obtain ⟨a, c, hu, h⟩ := h
  refine ⟨a, c, hu, fun j hj => ?_⟩
  obtain ⟨g, off, cs, fr, h1, h2, h3⟩ := h j hj
  exact ⟨g, off, _, (), h1, h2, h3⟩
theorem Ru.Nums.below {X X' : World} {u : Value} {l : List Int} (h : Ru.Nums X u l) {B : Nat} (hb : Below B X X') (hB : X.heap.size ≤ B := by exact Nat.le_refl _) : Ru.Nums X' u l := by
  obtain ⟨a, c, hu, h⟩ := h
  refine ⟨a, c, hu, fun j hj => ?_⟩
  obtain ⟨g, off, o, u0, h1, h2, h3⟩ := h j hj
  have hg := Ru.lt_of h2
  exact ⟨g, off, o, u0, h1, by rw [hb.block g (by omega)]; exact h2, by rw [hb.cell (p := ⟨g, off + j, none⟩) (by show g < B; omega)]; exact h3⟩
/-- Is it no flow's number? -/
def Ru.noB (f : Int) : Bool := decide (f < 0 ∨ 40 ≤ f)
set_option maxRecDepth 20000 in
set_option maxHeartbeats 4000000 in
theorem Tryd.noFlow_any (f : Int) (w : World) : Calls Tryd.prog 48 #[.int .i64 f] w fun e w' => e = .returned (.bool (Ru.noB f)) ∧ w' = w := by
  by_cases h0 : f < 0
  · have hd : decide (f < 0) = true := decide_eq_true h0
    have HB : Hid (Ru.noB f = true) := by show _ = _; simp [Ru.noB]; omega
    clear h0
    go_enter Tryd.func48, Tryd.ntmps48
    go_wp2
    go_ret
    exact ⟨Tk.ret_bool HB.out.symm, rfl⟩
  · have hd : decide (f < 0) = false := decide_eq_false h0
    have HB : Hid (Ru.noB f = decide (40 ≤ f)) := by show _ = _; simp [Ru.noB]; omega
    clear h0
    go_enter Tryd.func48, Tryd.ntmps48
    go_wp2
    go_ret
    exact ⟨Tk.ret_bool HB.out.symm, rfl⟩

set_option maxRecDepth 20000 in
set_option maxHeartbeats 4000000 in
theorem Tryd.rindex_any (u : Value) (l : List Int) (w : World) (hu : Ru.Nums w u l) (hl : l.length ≤ 1000000) :
    Calls Tryd.prog 74 #[u, .func (.func 48) #[] #[]] w fun e w' => (∃ k : Int, e = .returned (.int .i64 k) ∧ decide (0 ≤ k) = l.any Ru.noB) ∧ w' = w := by
  obtain ⟨a, c, rfl, hc⟩ := hu
  obtain ⟨n, hn⟩ : ∃ n, l.length = n := ⟨_, rfl⟩
  rw [hn]
  have HC : Hid ((∀ j (h : j < l.length), ∃ g off, a = some ⟨g, off, none⟩ ∧ w.cell? ⟨g, off + j, none⟩ = some (.int .i64 l[j])) ∧ l.length = n) := ⟨fun j hj => by
    obtain ⟨g, off, cs, fr, h1, h2, h3⟩ := hc j hj
    exact ⟨g, off, h1, h3⟩, hn⟩
  have hn' : n ≤ 1000000 := by omega
  clear hc hn hl
  go_enter Tryd.func74, Tryd.ntmps74
  go_wp2
  go_loopg [5, 8] n (fun gk _ s8 wr => ∃ k : Nat, gk + k = n ∧ s8 = .int .i64 k ∧ w = wr ∧ Hid ((l.take k).any Ru.noB = false))
  case atStart => exact ⟨0, by omega, rfl, rfl, rfl⟩
  case round =>
    obtain ⟨k, hk, rfl, hww, HB⟩ := hrel
    subst hww
    by_cases hlt : k < n
    · have hd : decide ((k : Int) < n) = true := decide_eq_true (by omega)
      have hkl : k < l.length := by rw [HC.out.2]; exact hlt
      obtain ⟨q, off, rfl, h0⟩ := HC.out.1 k hkl
      obtain ⟨x, hx⟩ : ∃ x, l[k] = x := ⟨_, rfl⟩
      rw [hx] at h0
      have HX : Hid (l[k] = x) := hx
      have hcall : Hid _ := Tryd.noFlow_any x w
      clear hx
      cases hq : Ru.noB x with
      | true =>
        rw [hq] at hcall
        have HQ : Hid (Ru.noB x = true) := hq
        clear hq
        go_wp2_with fail
        refine Calls.mono hcall.out ?_
        rintro e w' ⟨rfl, rfl⟩
        go_wp2
        go_ret
        refine ⟨⟨k, rfl, ?_⟩, rfl⟩
        rw [decide_eq_true (by omega)]
        exact (List.any_eq_true.2 ⟨l[k], List.getElem_mem hkl, by rw [HX.out]; exact HQ.out⟩).symm
      | false =>
        rw [hq] at hcall
        have HQ : Hid (Ru.noB x = false) := hq
        clear hq
        go_wp2_with fail
        refine Calls.mono hcall.out ?_
        rintro e w' ⟨rfl, rfl⟩
        go_wp2
        go_roundg (gk - 1)
        case measure => omega
        case rel =>
          refine ⟨k + 1, by omega, by go_num, rfl, ?_⟩
          show (l.take (k + 1)).any Ru.noB = false
          rw [Tm.take_snoc _ _ hkl, List.any_append, HB.out, HX.out]
          simp [HQ.out]
    · have hd : decide ((k : Int) < n) = false := decide_eq_false (by omega)
      have HB2 : Hid (l.any Ru.noB = false) := by
        have := HB.out
        rw [List.take_of_length_le (by rw [HC.out.2]; omega)] at this
        exact this
      go_wp2
      go_ret
      exact ⟨⟨-1, rfl, by rw [HB2.out]; rfl⟩, rfl⟩

set_option maxRecDepth 20000 in
set_option maxHeartbeats 4000000 in
theorem Tryd.rcontains_any (u : Value) (l : List Int) (w : World) (hu : Ru.Nums w u l) (hl : l.length ≤ 1000000) :
    Calls Tryd.prog 47 #[u, .func (.func 48) #[] #[]] w fun e w' => e = .returned (.bool (l.any Ru.noB)) ∧ w' = w := by
  have h : Hid _ := Tryd.rindex_any u l w hu hl
  obtain ⟨r, hr⟩ : ∃ r, l.any Ru.noB = r := ⟨_, rfl⟩
  rw [hr] at h
  rw [hr]
  obtain ⟨a, c, rfl, hc⟩ := hu
  obtain ⟨n, hn⟩ : ∃ n, l.length = n := ⟨_, rfl⟩
  rw [hn] at h
  rw [hn]
  clear hc hn hl hr
  go_enter Tryd.func47, Tryd.ntmps47
  go_wp2_with fail
  refine Calls.mono h.out ?_
  rintro e w' ⟨⟨k, rfl, hk⟩, rfl⟩
  have HK : Hid (decide (0 ≤ k) = r) := hk
  clear hk
  go_wp2
  go_ret
  exact ⟨Tk.ret_bool HK.out, rfl⟩

/-- Numbers as an array. -/
def Ru.arr (T : List Int) : Array Value := (T.map fun x => Value.int .i64 x).toArray
/-- An array of forty numbers in memory. -/
def Ru.Arr (X : World) (b : Nat) (T : List Int) : Prop := X.heap[b]? = some (.cells (Ru.arr T) 56 (0, 0))
theorem Ru.Arr.cell {X : World} {b : Nat} {T : List Int} (h : Ru.Arr X b T) (j : Nat) (x : Int) (hj : T[j]? = some x) : X.cell? ⟨b, j, none⟩ = some (.int .i64 x) := by
  unfold Ru.Arr Ru.arr at h
  simp [World.cell?, h, hj]
theorem Ru.Arr.frozen {X : World} {b : Nat} {T : List Int} (h : Ru.Arr X b T) (j : Nat) : X.frozen? ⟨b, j, none⟩ = false := by
  unfold Ru.Arr at h
  simp [World.frozen?, h]
theorem Ru.Arr.put {X : World} {b : Nat} {T : List Int} (h : Ru.Arr X b T) (j : Nat) (x : Int) : Ru.Arr (X.setCell ⟨b, j, none⟩ (.int .i64 x)) b (T.set j x) := by
  unfold Ru.Arr Ru.arr at *
  simp [World.setCell, Array.getElem?_modify, h]
theorem Ru.Arr.lt {X : World} {b : Nat} {T : List Int} (h : Ru.Arr X b T) : b < X.heap.size := Ru.lt_of h
theorem Ru.Arr.keep {X X' : World} {b : Nat} {T : List Int} (h : Ru.Arr X b T) (hk : X'.heap[b]? = X.heap[b]?) : Ru.Arr X' b T := by unfold Ru.Arr; rw [hk]; exact h
theorem Ru.Arr.below {X X' : World} {b B : Nat} {T : List Int} (h : Ru.Arr X b T) (hb : Below B X X') (hg : b < B) : Ru.Arr X' b T := h.keep (hb.block b hg)
theorem Ru.arr_all (T : List Int) : (Ru.arr T).all (·.oneCell') = true := by
  rw [Array.all_eq_true]
  intro i hi
  simp only [Ru.arr, List.getElem_toArray, List.getElem_map]
  rfl
theorem Ru.arr_size (T : List Int) : (Ru.arr T).size = T.length := by simp [Ru.arr]
def Ru.zs : List Int := List.replicate 40 0

/-- One token taken. -/
def Ru.takeW (T : List Int) (f : Int) : Option (List Int) := if f < 0 ∨ 40 ≤ f ∨ T.getD f.toNat 0 < 1 then none else some (T.set f.toNat (T.getD f.toNat 0 - 1))
def Ru.without (T : List Int) (l : List Int) : Option (List Int) := l.foldlM Ru.takeW T
/-- Forty numbers, as machines have them. -/
def Ru.Fit (T : List Int) : Prop := T.length = 40 ∧ ∀ x, x ∈ T → -9223372036854775808 ≤ x ∧ x ≤ 9223372036854775807
theorem Ru.Fit.at {T : List Int} (h : Ru.Fit T) {j : Nat} (hj : j < 40) : T[j]? = some (T.getD j 0) ∧ -9223372036854775808 ≤ T.getD j 0 ∧ T.getD j 0 ≤ 9223372036854775807 := by
  have hl : j < T.length := by rw [h.1]; exact hj
  have e : T.getD j 0 = T[j] := by simp [List.getD, List.getElem?_eq_getElem hl]
  rw [e, List.getElem?_eq_getElem hl]
  exact ⟨rfl, h.2 _ (List.getElem_mem hl)⟩
theorem Ru.Fit.set {T : List Int} (h : Ru.Fit T) (j : Nat) (x : Int) (hx : -9223372036854775808 ≤ x ∧ x ≤ 9223372036854775807) : Ru.Fit (T.set j x) :=
  ⟨by rw [List.length_set]; exact h.1, fun y hy => by
    rcases List.mem_or_eq_of_mem_set hy with hy | rfl
    · exact h.2 y hy
    · exact hx⟩
theorem Ru.take_fit {T T' : List Int} {f : Int} (h : Ru.Fit T) (ht : Ru.takeW T f = some T') : Ru.Fit T' := by
  unfold Ru.takeW at ht
  split at ht
  · cases ht
  · next hn =>
    obtain rfl := Option.some.inj ht
    have := (h.at (j := f.toNat) (by omega)).2
    exact h.set _ _ (by omega)
theorem Ru.fold_snoc {α : Type} (F : α → Int → Option α) (T : α) (l : List Int) (f : Int) : (l ++ [f]).foldlM F T = (l.foldlM F T).bind fun T' => F T' f := by
  rw [List.foldlM_append]
  cases l.foldlM F T with
  | none => rfl
  | some T' => simp [List.foldlM]
theorem Ru.fold_take_none {α : Type} (F : α → Int → Option α) (T : α) (l : List Int) (k : Nat) (h : (l.take k).foldlM F T = none) : l.foldlM F T = none := by
  rw [← List.take_append_drop k l, List.foldlM_append, h]
  rfl

theorem Ru.without_fit {T R : List Int} {l : List Int} (h : Ru.Fit T) (hr : Ru.without T l = some R) : Ru.Fit R := by
  induction l generalizing T with
  | nil => simp [Ru.without] at hr; rw [← hr]; exact h
  | cons f l ih =>
    rw [Ru.without, List.foldlM_cons] at hr
    cases ht : Ru.takeW T f with
    | none => rw [ht] at hr; cases hr
    | some T' =>
      rw [ht] at hr
      exact ih (Ru.take_fit h ht) hr

theorem Ru.without_no {T R : List Int} {l : List Int} (hr : Ru.without T l = some R) : ∀ f, f ∈ l → Ru.noB f = false := by
  induction l generalizing T with
  | nil => intro f hf; simp at hf
  | cons g l ih =>
    rw [Ru.without, List.foldlM_cons] at hr
    cases ht : Ru.takeW T g with
    | none => rw [ht] at hr; cases hr
    | some T' =>
      rw [ht] at hr
      intro f hf
      rcases List.mem_cons.1 hf with rfl | hf
      · unfold Ru.takeW at ht
        split at ht
        · cases ht
        · next hn => exact decide_eq_false (by omega)
      · exact ih hr f hf

theorem Ru.results2 {fn : Func} {p u : Tmp} (h : fn.results = #[.cell p 56, .tmp u]) (tmps : Array Value) (w : World) (q : Nat) (T : List Int) (hT : T.length = 40)
    (hp : tmps.getD p undef = .pointer (some ⟨q, 0, none⟩)) (hq : Ru.Arr w q T) :
    (results fn tmps).run Tryd.prog w = .ok (.tuple #[.agg (Ru.arr T), tmps.getD u undef]) w := by
  have hp' : tmps[p]?.getD undef = .pointer (some ⟨q, 0, none⟩) := by simpa using hp
  have hr := run_loadVar_row (P := Tryd.prog) w q 56 56 (Ru.arr T) (0, 0) _ hq Tryd.underlying56 rfl (by rw [Ru.arr_size, hT]; kernel_rfl)
  simp [results, h, hp', asAddr, hr]

theorem Ru.zs_arr : Ru.arr Ru.zs = #[.int .i64 0, .int .i64 0, .int .i64 0, .int .i64 0, .int .i64 0, .int .i64 0, .int .i64 0, .int .i64 0, .int .i64 0, .int .i64 0, .int .i64 0, .int .i64 0, .int .i64 0, .int .i64 0, .int .i64 0, .int .i64 0, .int .i64 0, .int .i64 0, .int .i64 0, .int .i64 0, .int .i64 0, .int .i64 0, .int .i64 0, .int .i64 0, .int .i64 0, .int .i64 0, .int .i64 0, .int .i64 0, .int .i64 0, .int .i64 0, .int .i64 0, .int .i64 0, .int .i64 0, .int .i64 0, .int .i64 0, .int .i64 0, .int .i64 0, .int .i64 0, .int .i64 0, .int .i64 0] := by kernel_rfl
theorem Ru.zs_fit : Ru.Fit Ru.zs := ⟨by kernel_rfl, fun x hx => by
  have := List.eq_of_mem_replicate hx
  omega⟩
theorem Ru.Fit.info {T : List Int} (h : Ru.Fit T) : (Tryd.prog.info? 56).map (·.size) = some (Ru.arr T).size := by rw [Ru.arr_size, h.1]; kernel_rfl
/-- No flow's number, or a place. -/
theorem Ru.no_or (f : Int) (h : Ru.noB f = false) : ∃ j : Nat, f = j ∧ j < 40 := by
  have := of_decide_eq_false h
  exact ⟨f.toNat, by omega, by omega⟩
theorem Ru.Arr.row {X : World} {b : Nat} {T : List Int} (h : Ru.Arr X b T) (T' : List Int) : Ru.Arr (X.setRow b (Ru.arr T')) b T' := setRow_heap _ _ _ _ _ _ h
theorem Ru.Arr.other {X : World} {b b' : Nat} {T : List Int} (h : Ru.Arr X b T) (hne : b ≠ b') (p : Nat) (v : Value) : Ru.Arr (X.setCell ⟨b', p, none⟩ v) b T := h.keep (Below.heap_setCell _ _ _ _ hne)

/-- The worlds that without goes through. -/
structure Ru.Ww (w : World) (A B : List Int) (W : World) : Prop where
  below : Below w.heap.size w W
  tok : Ru.Arr W w.heap.size A
  res : Ru.Arr W (w.heap.size + 1) B

set_option maxRecDepth 20000 in
set_option maxHeartbeats 8000000 in
theorem Tryd.without_any (T : List Int) (u : Value) (l : List Int) (w : World) (hT : Ru.Fit T) (hu : Ru.Nums w u l) (hl : l.length ≤ 1000000) :
    Calls Tryd.prog 49 #[.agg (Ru.arr T), u] w fun e w' => e = .returned (.tuple #[.agg (Ru.arr ((Ru.without T l).getD Ru.zs)), .bool (Ru.without T l).isSome]) ∧ Below w.heap.size w w' := by
  obtain ⟨a, c, rfl, hc⟩ := hu
  obtain ⟨n, hn⟩ : ∃ n, l.length = n := ⟨_, rfl⟩
  rw [hn]
  obtain ⟨A, hA⟩ : ∃ A, Ru.arr T = A := ⟨_, rfl⟩
  rw [hA]
  obtain ⟨w2, hw2⟩ : ∃ x, (w.alloc (.cells A 56)).alloc (.cells #[.int .i64 0, .int .i64 0, .int .i64 0, .int .i64 0, .int .i64 0, .int .i64 0, .int .i64 0, .int .i64 0, .int .i64 0, .int .i64 0, .int .i64 0, .int .i64 0, .int .i64 0, .int .i64 0, .int .i64 0, .int .i64 0, .int .i64 0, .int .i64 0, .int .i64 0, .int .i64 0, .int .i64 0, .int .i64 0, .int .i64 0, .int .i64 0, .int .i64 0, .int .i64 0, .int .i64 0, .int .i64 0, .int .i64 0, .int .i64 0, .int .i64 0, .int .i64 0, .int .i64 0, .int .i64 0, .int .i64 0, .int .i64 0, .int .i64 0, .int .i64 0, .int .i64 0, .int .i64 0] 56) = x := ⟨_, rfl⟩
  have K2 : Ru.Ww w T Ru.zs w2 := by
    rw [← hw2]
    refine ⟨((Below.refl _ w).alloc (Nat.le_refl _) _).alloc (by simp) _, ?_, ?_⟩
    · unfold Ru.Arr
      rw [Below.heap_alloc _ _ _ (by simp), hA]
      exact heap_alloc_new w _
    · unfold Ru.Arr
      have := heap_alloc_new (w.alloc (.cells A 56)) (.cells #[.int .i64 0, .int .i64 0, .int .i64 0, .int .i64 0, .int .i64 0, .int .i64 0, .int .i64 0, .int .i64 0, .int .i64 0, .int .i64 0, .int .i64 0, .int .i64 0, .int .i64 0, .int .i64 0, .int .i64 0, .int .i64 0, .int .i64 0, .int .i64 0, .int .i64 0, .int .i64 0, .int .i64 0, .int .i64 0, .int .i64 0, .int .i64 0, .int .i64 0, .int .i64 0, .int .i64 0, .int .i64 0, .int .i64 0, .int .i64 0, .int .i64 0, .int .i64 0, .int .i64 0, .int .i64 0, .int .i64 0, .int .i64 0, .int .i64 0, .int .i64 0, .int .i64 0, .int .i64 0] 56)
      rw [Ru.zs_arr]
      simpa using this
  have HK : Hid (Ru.Ww w T Ru.zs w2) := K2
  have H2 : Hid ((w.alloc (.cells A 56)).alloc (.cells #[.int .i64 0, .int .i64 0, .int .i64 0, .int .i64 0, .int .i64 0, .int .i64 0, .int .i64 0, .int .i64 0, .int .i64 0, .int .i64 0, .int .i64 0, .int .i64 0, .int .i64 0, .int .i64 0, .int .i64 0, .int .i64 0, .int .i64 0, .int .i64 0, .int .i64 0, .int .i64 0, .int .i64 0, .int .i64 0, .int .i64 0, .int .i64 0, .int .i64 0, .int .i64 0, .int .i64 0, .int .i64 0, .int .i64 0, .int .i64 0, .int .i64 0, .int .i64 0, .int .i64 0, .int .i64 0, .int .i64 0, .int .i64 0, .int .i64 0, .int .i64 0, .int .i64 0, .int .i64 0] 56) = w2) := hw2
  have HC : Hid ((∀ j (h : j < l.length), ∃ g off, a = some ⟨g, off, none⟩ ∧ g < w.heap.size ∧ w.cell? ⟨g, off + j, none⟩ = some (.int .i64 l[j])) ∧ l.length = n ∧ Ru.Fit T) := ⟨fun j hj => by
    obtain ⟨g, off, cs, fr, h1, h2, h3⟩ := hc j hj
    exact ⟨g, off, h1, Ru.lt_of h2, h3⟩, hn, hT⟩
  have hn' : n ≤ 1000000 := by omega
  obtain ⟨R, hR⟩ : ∃ R, Ru.without T l = R := ⟨_, rfl⟩
  have HR : Hid (Ru.without T l = R) := hR
  rw [hR]
  have hu := Tryd.underlying56
  clear hc hn hl hT hA hw2 K2 hR
  go_enter Tryd.func49, Tryd.ntmps49
  go_upto_region 1 with fail
  rw [H2.out]
  clear H2
  go_wp2
  go_loopg [10] n (fun gk s10 wr => ∃ (k : Nat) (Tt : List Int), gk + k = n ∧ s10 = .int .i64 k ∧ Hid (Ru.without T (l.take k) = some Tt ∧ Ru.Fit Tt ∧ Ru.Ww w Tt Ru.zs wr))
  case atStart => exact ⟨0, T, by omega, rfl, rfl, HC.out.2.2, HK.out⟩
  case round =>
    obtain ⟨k, Tt, hk, rfl, HB⟩ := hrel
    by_cases hlt : k < n
    · have hd : decide ((k : Int) < n) = true := decide_eq_true (by omega)
      have hkl : k < l.length := by rw [HC.out.2.1]; exact hlt
      obtain ⟨q, off, rfl, hq, h0⟩ := HC.out.1 k hkl
      rw [← HB.out.2.2.below.cell (p := ⟨q, off + k, none⟩) hq] at h0
      obtain ⟨x, hx⟩ : ∃ x, l[k] = x := ⟨_, rfl⟩
      rw [hx] at h0
      have HX : Hid (Ru.without T (l.take (k + 1)) = Ru.takeW Tt x) := by
        show _ = _
        rw [Tm.take_snoc _ _ hkl, hx, Ru.without, Ru.fold_snoc, ← Ru.without, HB.out.1]
        rfl
      have hcall : Hid _ := Tryd.noFlow_any x wr
      clear hx hq
      cases hnb : Ru.noB x with
      | true =>
        rw [hnb] at hcall
        have HN : Hid (R = none) := by
          show _ = _
          rw [← HR.out]
          refine Ru.fold_take_none _ _ _ (k + 1) (HX.out.trans ?_)
          have := of_decide_eq_true hnb
          rw [Ru.takeW, if_pos (by omega)]
        have N2 := HB.out.2.2.res
        rw [Ru.Arr, Ru.zs_arr] at N2
        clear hnb
        go_wp2_with fail
        refine Calls.mono hcall.out ?_
        rintro e w' ⟨rfl, rfl⟩
        clear hcall
        go_upto_region 5 with fail
        go_wp2_with (refine wpList_store_row rfl 56 _ _ rfl (w.heap.size + 1) #[.int .i64 0, .int .i64 0, .int .i64 0, .int .i64 0, .int .i64 0, .int .i64 0, .int .i64 0, .int .i64 0, .int .i64 0, .int .i64 0, .int .i64 0, .int .i64 0, .int .i64 0, .int .i64 0, .int .i64 0, .int .i64 0, .int .i64 0, .int .i64 0, .int .i64 0, .int .i64 0, .int .i64 0, .int .i64 0, .int .i64 0, .int .i64 0, .int .i64 0, .int .i64 0, .int .i64 0, .int .i64 0, .int .i64 0, .int .i64 0, .int .i64 0, .int .i64 0, .int .i64 0, .int .i64 0, .int .i64 0, .int .i64 0, .int .i64 0, .int .i64 0, .int .i64 0, .int .i64 0] rfl rfl 56 _ N2 (by kernel_rfl) rfl (by kernel_rfl) ?_)
        have hf : Ru.Arr (w'.setRow (w.heap.size + 1) #[.int .i64 0, .int .i64 0, .int .i64 0, .int .i64 0, .int .i64 0, .int .i64 0, .int .i64 0, .int .i64 0, .int .i64 0, .int .i64 0, .int .i64 0, .int .i64 0, .int .i64 0, .int .i64 0, .int .i64 0, .int .i64 0, .int .i64 0, .int .i64 0, .int .i64 0, .int .i64 0, .int .i64 0, .int .i64 0, .int .i64 0, .int .i64 0, .int .i64 0, .int .i64 0, .int .i64 0, .int .i64 0, .int .i64 0, .int .i64 0, .int .i64 0, .int .i64 0, .int .i64 0, .int .i64 0, .int .i64 0, .int .i64 0, .int .i64 0, .int .i64 0, .int .i64 0, .int .i64 0]) (w.heap.size + 1) Ru.zs := by rw [← Ru.zs_arr]; exact HB.out.2.2.res.row Ru.zs
        refine bodyPost_ret (Ru.results2 Tryd.results49 _ _ (w.heap.size + 1) Ru.zs (by kernel_rfl) rfl hf) rfl ?_
        rw [HN.out]
        exact ⟨rfl, Tk.below_row HB.out.2.2.below (by omega) _⟩
      | false =>
        rw [hnb] at hcall
        obtain ⟨j, rfl, hj⟩ := Ru.no_or x hnb
        obtain ⟨y, hy⟩ : ∃ y, Tt.getD j 0 = y := ⟨_, rfl⟩
        obtain ⟨t1, t2, t3⟩ := HB.out.2.1.at hj
        rw [hy] at t1 t2 t3
        have z0 := HB.out.2.2.tok.cell j y t1
        have z1 := HB.out.2.2.tok.frozen j
        have hj0 : (0 : Int) ≤ j := by omega
        have hj4 : (j : Int) < 40 := by omega
        by_cases hy1 : y < 1
        · have hdy : decide (y < 1) = true := decide_eq_true hy1
          have HN : Hid (R = none) := by
            show _ = _
            rw [← HR.out]
            refine Ru.fold_take_none _ _ _ (k + 1) (HX.out.trans ?_)
            rw [Ru.takeW, if_pos (by right; right; rw [Int.toNat_natCast, hy]; exact hy1)]
          have N2 := HB.out.2.2.res
          rw [Ru.Arr, Ru.zs_arr] at N2
          clear hnb t1 t2 t3 hy hy1 hj
          go_wp2_with fail
          refine Calls.mono hcall.out ?_
          rintro e w' ⟨rfl, rfl⟩
          clear hcall
          go_upto_region 5 with fail
          go_wp2_with (refine wpList_store_row rfl 56 _ _ rfl (w.heap.size + 1) #[.int .i64 0, .int .i64 0, .int .i64 0, .int .i64 0, .int .i64 0, .int .i64 0, .int .i64 0, .int .i64 0, .int .i64 0, .int .i64 0, .int .i64 0, .int .i64 0, .int .i64 0, .int .i64 0, .int .i64 0, .int .i64 0, .int .i64 0, .int .i64 0, .int .i64 0, .int .i64 0, .int .i64 0, .int .i64 0, .int .i64 0, .int .i64 0, .int .i64 0, .int .i64 0, .int .i64 0, .int .i64 0, .int .i64 0, .int .i64 0, .int .i64 0, .int .i64 0, .int .i64 0, .int .i64 0, .int .i64 0, .int .i64 0, .int .i64 0, .int .i64 0, .int .i64 0, .int .i64 0] rfl rfl 56 _ N2 (by kernel_rfl) rfl (by kernel_rfl) ?_)
          have hf : Ru.Arr (w'.setRow (w.heap.size + 1) #[.int .i64 0, .int .i64 0, .int .i64 0, .int .i64 0, .int .i64 0, .int .i64 0, .int .i64 0, .int .i64 0, .int .i64 0, .int .i64 0, .int .i64 0, .int .i64 0, .int .i64 0, .int .i64 0, .int .i64 0, .int .i64 0, .int .i64 0, .int .i64 0, .int .i64 0, .int .i64 0, .int .i64 0, .int .i64 0, .int .i64 0, .int .i64 0, .int .i64 0, .int .i64 0, .int .i64 0, .int .i64 0, .int .i64 0, .int .i64 0, .int .i64 0, .int .i64 0, .int .i64 0, .int .i64 0, .int .i64 0, .int .i64 0, .int .i64 0, .int .i64 0, .int .i64 0, .int .i64 0]) (w.heap.size + 1) Ru.zs := by rw [← Ru.zs_arr]; exact HB.out.2.2.res.row Ru.zs
          refine bodyPost_ret (Ru.results2 Tryd.results49 _ _ (w.heap.size + 1) Ru.zs (by kernel_rfl) rfl hf) rfl ?_
          rw [HN.out]
          exact ⟨rfl, Tk.below_row HB.out.2.2.below (by omega) _⟩
        · have hdy : decide (y < 1) = false := decide_eq_false hy1
          have hwr : IntKind.i64.wrap (y - 1) = y - 1 := Go.IntWalk.i64_in _ (by omega)
          have HN : Hid (Ru.takeW Tt j = some (Tt.set j (y - 1))) := by
            show _ = _
            rw [Ru.takeW, if_neg (by rw [Int.toNat_natCast, hy]; omega), Int.toNat_natCast, hy]
          have HW : Hid (Ru.Ww w (Tt.set j (y - 1)) Ru.zs (wr.setCell ⟨w.heap.size, j, none⟩ (.int .i64 (y - 1))) ∧ Ru.Fit (Tt.set j (y - 1))) := ⟨⟨HB.out.2.2.below.setCell (p := ⟨w.heap.size, j, none⟩) (Nat.le_refl _) _, HB.out.2.2.tok.put j (y - 1), HB.out.2.2.res.other (by omega) _ _⟩, HB.out.2.1.set _ _ (by omega)⟩
          clear hnb t1 t2 t3 hy hy1 hj
          go_wp2_with fail
          refine Calls.mono hcall.out ?_
          rintro e w' ⟨rfl, rfl⟩
          clear hcall
          go_wp2
          go_roundg (gk - 1)
          case measure => omega
          case rel => exact ⟨k + 1, Tt.set j (y - 1), by omega, by go_num, HX.out.trans HN.out, HW.out.2, HW.out.1⟩
    · have hd : decide ((k : Int) < n) = false := decide_eq_false (by omega)
      have HN : Hid (R = some Tt) := by
        show _ = _
        have := HB.out.1
        rw [List.take_of_length_le (by rw [HC.out.2.1]; omega), HR.out] at this
        exact this
      have N1 := HB.out.2.2.tok
      have N2 := HB.out.2.2.res
      have hi := HB.out.2.1.info
      have hi1 : (Ru.arr Ru.zs).size = (Ru.arr Tt).size := by rw [Ru.arr_size, Ru.arr_size, HB.out.2.1.1]; kernel_rfl
      have ha := Ru.arr_all Tt
      have HF : Hid (Ru.Arr (wr.setRow (w.heap.size + 1) (Ru.arr Tt)) (w.heap.size + 1) Tt) := N2.row Tt
      obtain ⟨A2, hA2⟩ : ∃ A, Ru.arr Tt = A := ⟨_, rfl⟩
      unfold Ru.Arr at N1 N2
      rw [hA2] at N1 hi hi1 ha HF
      have H3 : Hid (Ru.arr Tt = A2) := hA2
      clear hA2
      go_wp2_with (first
        | refine wpList_load_row rfl 56 _ rfl _ rfl 56 A2 (0, 0) _ N1 hu rfl hi ?_
        | refine wpList_store_row rfl 56 _ _ rfl (w.heap.size + 1) A2 rfl rfl 56 _ N2 hi hi1 ha ?_)
      refine bodyPost_ret (Ru.results2 Tryd.results49 _ _ (w.heap.size + 1) Tt HB.out.2.1.1 rfl HF.out) rfl ?_
      rw [HN.out]
      exact ⟨rfl, Tk.below_row HB.out.2.2.below (by omega) _⟩

/-- A rule that is handed over. -/
def Ru.Val (r : Ru) (u1 u2 : Value) : Value := .agg #[.int .i64 r.kd, .int .i64 r.nd, u1, u2]
theorem Ru.box4 {X : World} {b : Nat} {v0 v1 v2 v3 : Value} {T : TypeId} (h : X.heap[b]? = some (.cells #[v0, v1, v2, v3] T (0, 0))) : X.cell? ⟨b, 2, none⟩ = some v2 ∧ X.cell? ⟨b, 3, none⟩ = some v3 := ⟨by simp [World.cell?, h], by simp [World.cell?, h]⟩

set_option maxRecDepth 20000 in
set_option maxHeartbeats 8000000 in
theorem Tryd.can_any (kd nd : Int) (T : List Int) (u1 : Value) (a2 : Option Addr) (n2 c2 : Nat) (l : List Int) (w : World) (hT : Ru.Fit T) (hu : Ru.Nums w u1 l) (hl : l.length ≤ 1000000) :
    Calls Tryd.prog 23 #[.agg #[.int .i64 kd, .int .i64 nd, u1, .slice a2 n2 c2], .agg (Ru.arr T)] w fun e w' => e = .returned (.bool (Ru.without T l).isSome) ∧ Below w.heap.size w w' := by
  obtain ⟨a, c, rfl, hc⟩ := id hu
  obtain ⟨n, hn⟩ : ∃ n, l.length = n := ⟨_, rfl⟩
  rw [hn] at hu
  rw [hn]
  obtain ⟨A, hA⟩ : ∃ A, Ru.arr T = A := ⟨_, rfl⟩
  obtain ⟨w1, hw1⟩ : ∃ x, w.alloc (.cells #[.int .i64 kd, .int .i64 nd, .slice a n c, .slice a2 n2 c2] 53) = x := ⟨_, rfl⟩
  obtain ⟨w2, hw2⟩ : ∃ x, w1.alloc (.cells A 56) = x := ⟨_, rfl⟩
  have A1 : Below w.heap.size w w1 := by rw [← hw1]; exact (Below.refl _ w).alloc (Nat.le_refl _) _
  have A2 : Below w1.heap.size w1 w2 := by rw [← hw2]; exact (Below.refl _ w1).alloc (Nat.le_refl _) _
  have N1 : w1.heap[w.heap.size]? = some (.cells #[.int .i64 kd, .int .i64 nd, .slice a n c, .slice a2 n2 c2] 53 (0, 0)) := by rw [← hw1]; exact heap_alloc_new w _
  have N2 : w2.heap[w1.heap.size]? = some (.cells A 56 (0, 0)) := by rw [← hw2]; exact heap_alloc_new w1 _
  have c0 := (Ru.box4 ((A2.block _ (Ru.lt_of N1)).trans N1)).1
  have hC := Tryd.without_any T (.slice a n c) l w2 hT ((hu.below A1).below A2) hl
  have HF : Hid (∀ R, Ru.without T l = some R → Ru.Fit R) := fun R h => Ru.without_fit hT h
  obtain ⟨R, hR⟩ : ∃ R, Ru.without T l = R := ⟨_, rfl⟩
  rw [hR, hA] at hC
  rw [hR, hA]
  have HA : Hid (Below w.heap.size w w2 ∧ w.alloc (.cells #[.int .i64 kd, .int .i64 nd, .slice a n c, .slice a2 n2 c2] 53) = w1 ∧ w1.alloc (.cells A 56) = w2) := ⟨A1.trans (A2.mono A1.size), hw1, hw2⟩
  have hi : (Tryd.prog.info? 56).map (·.size) = some A.size := by rw [← hA]; exact hT.info
  have HS : Hid (w1.heap.size = w.heap.size + 1) := by show _ = _; rw [← hw1]; simp
  rw [HS.out] at N2
  have hu := Tryd.underlying56
  have HR : Hid (Ru.Fit (R.getD Ru.zs)) := by
    cases hh : R with
    | none => exact Ru.zs_fit
    | some Q => exact HF.out Q (hR.trans hh)
  obtain ⟨S, hS⟩ : ∃ S, Ru.arr (R.getD Ru.zs) = S := ⟨_, rfl⟩
  have hj : (Tryd.prog.info? 56).map (·.size) = some S.size := by rw [← hS]; exact HR.out.info
  have hj1 : (#[.int .i64 0, .int .i64 0, .int .i64 0, .int .i64 0, .int .i64 0, .int .i64 0, .int .i64 0, .int .i64 0, .int .i64 0, .int .i64 0, .int .i64 0, .int .i64 0, .int .i64 0, .int .i64 0, .int .i64 0, .int .i64 0, .int .i64 0, .int .i64 0, .int .i64 0, .int .i64 0, .int .i64 0, .int .i64 0, .int .i64 0, .int .i64 0, .int .i64 0, .int .i64 0, .int .i64 0, .int .i64 0, .int .i64 0, .int .i64 0, .int .i64 0, .int .i64 0, .int .i64 0, .int .i64 0, .int .i64 0, .int .i64 0, .int .i64 0, .int .i64 0, .int .i64 0, .int .i64 0] : Array Value).size = S.size := by rw [← hS, Ru.arr_size, HR.out.1]; kernel_rfl
  have hj2 : S.all (·.oneCell') = true := by rw [← hS]; exact Ru.arr_all _
  rw [hS] at hC
  have HC : Hid _ := hC
  clear hc hn hA hw1 hw2 A1 A2 N1 hC HF hR hS HR hl hT
  go_enter Tryd.func23, Tryd.ntmps23
  go_upto_region 1 with fail
  rw [HA.out.2.1, HA.out.2.2]
  go_wp2_with (first | refine wpList_load_row rfl 56 _ rfl _ rfl 56 A (0, 0) _ N2 hu rfl hi ?_ | fail)
  refine Calls.mono HC.out ?_
  rintro e W ⟨rfl, hb⟩
  have HB : Hid (Below w.heap.size w W) := HA.out.1.trans (hb.mono HA.out.1.size)
  have N3 := heap_alloc_new W (.cells #[.int .i64 0, .int .i64 0, .int .i64 0, .int .i64 0, .int .i64 0, .int .i64 0, .int .i64 0, .int .i64 0, .int .i64 0, .int .i64 0, .int .i64 0, .int .i64 0, .int .i64 0, .int .i64 0, .int .i64 0, .int .i64 0, .int .i64 0, .int .i64 0, .int .i64 0, .int .i64 0, .int .i64 0, .int .i64 0, .int .i64 0, .int .i64 0, .int .i64 0, .int .i64 0, .int .i64 0, .int .i64 0, .int .i64 0, .int .i64 0, .int .i64 0, .int .i64 0, .int .i64 0, .int .i64 0, .int .i64 0, .int .i64 0, .int .i64 0, .int .i64 0, .int .i64 0, .int .i64 0] 56)
  clear hb HC N2
  go_wp2_with (first | refine wpList_store_row rfl 56 _ _ rfl W.heap.size S rfl rfl 56 _ N3 hj hj1 hj2 ?_ | fail)
  go_ret
  exact ⟨rfl, Tk.below_row (HB.out.alloc HB.out.size _) HB.out.size _⟩

end Go.Proofs

namespace Go.Proofs
open Go.RowKit Go.Shelf

/-- One token given. -/
def Ru.giveW (T : List Int) (f : Int) : Option (List Int) := if 3 ≤ T.getD f.toNat 0 then none else some (T.set f.toNat (T.getD f.toNat 0 + 1))
def Ru.doR (b : Bool) (R : Option (List Int)) (gi : List Int) : List Int × Int :=
  if b = true then (Ru.zs, 4) else match R with
    | none => (Ru.zs, 6)
    | some T1 => match gi.foldlM Ru.giveW T1 with
      | none => (Ru.zs, 5)
      | some T2 => (T2, 0)
theorem Ru.doR_bad {b : Bool} {R : Option (List Int)} {gi : List Int} (h : b = true) : Ru.doR b R gi = (Ru.zs, 4) := by subst h; rfl
theorem Ru.doR_full {T : List Int} {gi : List Int} (h : gi.foldlM Ru.giveW T = none) : Ru.doR false (some T) gi = (Ru.zs, 5) := by simp [Ru.doR, h]
theorem Ru.doR_ok {T S : List Int} {gi : List Int} (h : gi.foldlM Ru.giveW T = some S) : Ru.doR false (some T) gi = (S, 0) := by simp [Ru.doR, h]
theorem Ru.give_fit {T T' : List Int} {f : Int} (h : Ru.Fit T) (hf : Ru.noB f = false) (ht : Ru.giveW T f = some T') : Ru.Fit T' := by
  unfold Ru.giveW at ht
  split at ht
  · cases ht
  · next hn =>
    obtain rfl := Option.some.inj ht
    obtain ⟨j, rfl, hj⟩ := Ru.no_or f hf
    have := (h.at hj).2
    rw [Int.toNat_natCast] at *
    exact h.set _ _ (by omega)
def Ru.doP (T ne gi : List Int) : List Int × Int := Ru.doR (ne.any Ru.noB || gi.any Ru.noB) (Ru.without T ne) gi

/-- The worlds that Do goes through. -/
structure Ru.Dw (w : World) (rb : Array Value) (A : List Int) (W : World) : Prop where
  below : Below w.heap.size w W
  rul : W.heap[w.heap.size]? = some (.cells rb 53 (0, 0))
  tok : Ru.Arr W (w.heap.size + 1) A
  res : Ru.Arr W (w.heap.size + 1 + 1) Ru.zs
theorem Ru.Dw.next {w : World} {rb : Array Value} {A : List Int} {W W' : World} (h : Ru.Dw w rb A W) (hb : Below W.heap.size W W') : Ru.Dw w rb A W' :=
  ⟨h.below.trans (hb.mono h.below.size), by rw [hb.block _ (Ru.lt_of h.rul)]; exact h.rul, h.tok.below hb h.tok.lt, h.res.below hb h.res.lt⟩
theorem Ru.Dw.set {w : World} {rb : Array Value} {A : List Int} {W : World} (h : Ru.Dw w rb A W) {b : Nat} (hb : w.heap.size + 1 + 1 < b) (p : Nat) (v : Value) : Ru.Dw w rb A (W.setCell ⟨b, p, none⟩ v) :=
  ⟨h.below.setCell (p := ⟨b, p, none⟩) (by show w.heap.size ≤ b; omega) _, by rw [Below.heap_setCell _ _ _ _ (by show w.heap.size ≠ b; omega)]; exact h.rul, h.tok.other (by omega) _ _, h.res.other (by omega) _ _⟩
/-- What is stored as the answer, and what the call then comes to. -/
theorem Ru.Dw.ends {w : World} {rb : Array Value} {A : List Int} {W : World} (h : Ru.Dw w rb A W) (S : List Int) (hS : S.length = 40) (tmps : Array Value) (ht : tmps.getD 4 undef = .pointer (some ⟨w.heap.size + 1 + 1, 0, none⟩)) :
    (results Tryd.f20 tmps).run Tryd.prog (W.setRow (w.heap.size + 1 + 1) (Ru.arr S)) = .ok (.tuple #[.agg (Ru.arr S), tmps.getD 5 undef]) (W.setRow (w.heap.size + 1 + 1) (Ru.arr S)) ∧ Below w.heap.size w (W.setRow (w.heap.size + 1 + 1) (Ru.arr S)) :=
  ⟨Ru.results2 Tryd.results20 _ _ (w.heap.size + 1 + 1) S hS ht (h.res.row S), Tk.below_row h.below (by omega) _⟩

set_option maxRecDepth 20000 in
set_option maxHeartbeats 16000000 in
theorem Tryd.do_any (kd nd : Int) (T : List Int) (u1 u2 : Value) (ne gi : List Int) (w : World) (hT : Ru.Fit T) (hu1 : Ru.Nums w u1 ne) (hu2 : Ru.Nums w u2 gi) (hl1 : ne.length ≤ 1000000) (hl2 : gi.length ≤ 1000000) :
    Calls Tryd.prog 20 #[.agg #[.int .i64 kd, .int .i64 nd, u1, u2], .agg (Ru.arr T)] w fun e w' => e = .returned (.tuple #[.agg (Ru.arr (Ru.doP T ne gi).1), .int .i64 (Ru.doP T ne gi).2]) ∧ Below w.heap.size w w' := by
  obtain ⟨a, c, rfl, -⟩ := id hu1
  obtain ⟨a2, c2, rfl, hc2⟩ := id hu2
  obtain ⟨n, hn⟩ : ∃ n, ne.length = n := ⟨_, rfl⟩
  obtain ⟨n2, hn2⟩ : ∃ n, gi.length = n := ⟨_, rfl⟩
  rw [hn] at hu1 ⊢
  rw [hn2] at hu2 ⊢
  obtain ⟨A, hA⟩ : ∃ A, Ru.arr T = A := ⟨_, rfl⟩
  obtain ⟨w3, hw3⟩ : ∃ x, ((w.alloc (.cells #[.int .i64 kd, .int .i64 nd, .slice a n c, .slice a2 n2 c2] 53)).alloc (.cells A 56)).alloc (.cells #[.int .i64 0, .int .i64 0, .int .i64 0, .int .i64 0, .int .i64 0, .int .i64 0, .int .i64 0, .int .i64 0, .int .i64 0, .int .i64 0, .int .i64 0, .int .i64 0, .int .i64 0, .int .i64 0, .int .i64 0, .int .i64 0, .int .i64 0, .int .i64 0, .int .i64 0, .int .i64 0, .int .i64 0, .int .i64 0, .int .i64 0, .int .i64 0, .int .i64 0, .int .i64 0, .int .i64 0, .int .i64 0, .int .i64 0, .int .i64 0, .int .i64 0, .int .i64 0, .int .i64 0, .int .i64 0, .int .i64 0, .int .i64 0, .int .i64 0, .int .i64 0, .int .i64 0, .int .i64 0] 56) = x := ⟨_, rfl⟩
  have K3 : Ru.Dw w #[.int .i64 kd, .int .i64 nd, .slice a n c, .slice a2 n2 c2] T w3 := by
    rw [← hw3]
    refine ⟨(((Below.refl _ w).alloc (Nat.le_refl _) _).alloc (by simp) _).alloc (by simp; omega) _, ?_, ?_, ?_⟩
    · rw [Below.heap_alloc _ _ _ (by simp; omega), Below.heap_alloc _ _ _ (by simp)]
      exact heap_alloc_new w _
    · unfold Ru.Arr
      rw [Below.heap_alloc _ _ _ (by simp), hA]
      have := heap_alloc_new (w.alloc (.cells #[.int .i64 kd, .int .i64 nd, .slice a n c, .slice a2 n2 c2] 53)) (.cells A 56)
      simpa using this
    · unfold Ru.Arr
      have := heap_alloc_new ((w.alloc (.cells #[.int .i64 kd, .int .i64 nd, .slice a n c, .slice a2 n2 c2] 53)).alloc (.cells A 56)) (.cells #[.int .i64 0, .int .i64 0, .int .i64 0, .int .i64 0, .int .i64 0, .int .i64 0, .int .i64 0, .int .i64 0, .int .i64 0, .int .i64 0, .int .i64 0, .int .i64 0, .int .i64 0, .int .i64 0, .int .i64 0, .int .i64 0, .int .i64 0, .int .i64 0, .int .i64 0, .int .i64 0, .int .i64 0, .int .i64 0, .int .i64 0, .int .i64 0, .int .i64 0, .int .i64 0, .int .i64 0, .int .i64 0, .int .i64 0, .int .i64 0, .int .i64 0, .int .i64 0, .int .i64 0, .int .i64 0, .int .i64 0, .int .i64 0, .int .i64 0, .int .i64 0, .int .i64 0, .int .i64 0] 56)
      rw [Ru.zs_arr]
      simpa using this
  have B3 : Below w.heap.size w w3 := K3.below
  have C1 : Hid _ := Tryd.rcontains_any (.slice a n c) ne w3 (hu1.below B3) hl1
  have C2 : Hid _ := Tryd.rcontains_any (.slice a2 n2 c2) gi w3 (hu2.below B3) hl2
  have C3 := Tryd.without_any T (.slice a n c) ne w3 hT (hu1.below B3) hl1
  obtain ⟨z1, hz1⟩ : ∃ z, ne.any Ru.noB = z := ⟨_, rfl⟩
  obtain ⟨z2, hz2⟩ : ∃ z, gi.any Ru.noB = z := ⟨_, rfl⟩
  obtain ⟨R, hR⟩ : ∃ R, Ru.without T ne = R := ⟨_, rfl⟩
  obtain ⟨D, hD⟩ : ∃ D, Ru.doP T ne gi = D := ⟨_, rfl⟩
  have HD : Hid (D = Ru.doR (z1 || z2) R gi) := by show _ = _; rw [← hD, Ru.doP, hz1, hz2, hR]
  rw [hz1] at C1
  rw [hz2] at C2
  rw [hR, hA] at C3
  rw [hD, hA]
  have HK : Hid (Ru.Dw w #[.int .i64 kd, .int .i64 nd, .slice a n c, .slice a2 n2 c2] T w3) := K3
  have H3 : Hid (((w.alloc (.cells #[.int .i64 kd, .int .i64 nd, .slice a n c, .slice a2 n2 c2] 53)).alloc (.cells A 56)).alloc (.cells #[.int .i64 0, .int .i64 0, .int .i64 0, .int .i64 0, .int .i64 0, .int .i64 0, .int .i64 0, .int .i64 0, .int .i64 0, .int .i64 0, .int .i64 0, .int .i64 0, .int .i64 0, .int .i64 0, .int .i64 0, .int .i64 0, .int .i64 0, .int .i64 0, .int .i64 0, .int .i64 0, .int .i64 0, .int .i64 0, .int .i64 0, .int .i64 0, .int .i64 0, .int .i64 0, .int .i64 0, .int .i64 0, .int .i64 0, .int .i64 0, .int .i64 0, .int .i64 0, .int .i64 0, .int .i64 0, .int .i64 0, .int .i64 0, .int .i64 0, .int .i64 0, .int .i64 0, .int .i64 0] 56) = w3) := hw3
  have HT : Hid (Ru.Fit T ∧ Ru.arr T = A ∧ (∀ Q, R = some Q → Ru.Fit Q)) := ⟨hT, hA, fun Q h => Ru.without_fit hT (hR.trans h)⟩
  have HC : Hid ((∀ j (h : j < gi.length), ∃ g off, a2 = some ⟨g, off, none⟩ ∧ g < w.heap.size ∧ w.cell? ⟨g, off + j, none⟩ = some (.int .i64 gi[j])) ∧ gi.length = n2 ∧ (z2 = false → ∀ x, x ∈ gi → Ru.noB x = false)) := ⟨fun j hj => by
    obtain ⟨g, off, cs, fr, h1, h2, h3⟩ := hc2 j hj
    exact ⟨g, off, h1, Ru.lt_of h2, h3⟩, hn2, fun hz x hx => by
      have := List.any_eq_false.1 (hz2.trans hz) x hx
      simpa using this⟩
  have hu := Tryd.underlying56
  have hnn2 : n2 ≤ 1000000 := by omega
  have HC3 : Hid _ := C3
  obtain ⟨q2, q3⟩ := Ru.box4 K3.rul
  have N4 := K3.res
  rw [Ru.Arr, Ru.zs_arr] at N4
  clear hu1 hu2 hc2 hn hn2 hA hw3 K3 B3 C3 hz1 hz2 hR hD hl1 hl2 hT
  by_cases hz : (z1 || z2) = true
  · have hDv : D = (Ru.zs, 4) := by rw [HD.out]; exact Ru.doR_bad hz
    subst hDv
    have fin : Hid (∀ (tmps : Array Value), tmps.getD 4 undef = .pointer (some ⟨w.heap.size + 1 + 1, 0, none⟩) → (results Tryd.f20 tmps).run Tryd.prog (w3.setRow (w.heap.size + 1 + 1) #[.int .i64 0, .int .i64 0, .int .i64 0, .int .i64 0, .int .i64 0, .int .i64 0, .int .i64 0, .int .i64 0, .int .i64 0, .int .i64 0, .int .i64 0, .int .i64 0, .int .i64 0, .int .i64 0, .int .i64 0, .int .i64 0, .int .i64 0, .int .i64 0, .int .i64 0, .int .i64 0, .int .i64 0, .int .i64 0, .int .i64 0, .int .i64 0, .int .i64 0, .int .i64 0, .int .i64 0, .int .i64 0, .int .i64 0, .int .i64 0, .int .i64 0, .int .i64 0, .int .i64 0, .int .i64 0, .int .i64 0, .int .i64 0, .int .i64 0, .int .i64 0, .int .i64 0, .int .i64 0]) = .ok (.tuple #[.agg #[.int .i64 0, .int .i64 0, .int .i64 0, .int .i64 0, .int .i64 0, .int .i64 0, .int .i64 0, .int .i64 0, .int .i64 0, .int .i64 0, .int .i64 0, .int .i64 0, .int .i64 0, .int .i64 0, .int .i64 0, .int .i64 0, .int .i64 0, .int .i64 0, .int .i64 0, .int .i64 0, .int .i64 0, .int .i64 0, .int .i64 0, .int .i64 0, .int .i64 0, .int .i64 0, .int .i64 0, .int .i64 0, .int .i64 0, .int .i64 0, .int .i64 0, .int .i64 0, .int .i64 0, .int .i64 0, .int .i64 0, .int .i64 0, .int .i64 0, .int .i64 0, .int .i64 0, .int .i64 0], tmps.getD 5 undef]) (w3.setRow (w.heap.size + 1 + 1) #[.int .i64 0, .int .i64 0, .int .i64 0, .int .i64 0, .int .i64 0, .int .i64 0, .int .i64 0, .int .i64 0, .int .i64 0, .int .i64 0, .int .i64 0, .int .i64 0, .int .i64 0, .int .i64 0, .int .i64 0, .int .i64 0, .int .i64 0, .int .i64 0, .int .i64 0, .int .i64 0, .int .i64 0, .int .i64 0, .int .i64 0, .int .i64 0, .int .i64 0, .int .i64 0, .int .i64 0, .int .i64 0, .int .i64 0, .int .i64 0, .int .i64 0, .int .i64 0, .int .i64 0, .int .i64 0, .int .i64 0, .int .i64 0, .int .i64 0, .int .i64 0, .int .i64 0, .int .i64 0]) ∧ Below w.heap.size w (w3.setRow (w.heap.size + 1 + 1) #[.int .i64 0, .int .i64 0, .int .i64 0, .int .i64 0, .int .i64 0, .int .i64 0, .int .i64 0, .int .i64 0, .int .i64 0, .int .i64 0, .int .i64 0, .int .i64 0, .int .i64 0, .int .i64 0, .int .i64 0, .int .i64 0, .int .i64 0, .int .i64 0, .int .i64 0, .int .i64 0, .int .i64 0, .int .i64 0, .int .i64 0, .int .i64 0, .int .i64 0, .int .i64 0, .int .i64 0, .int .i64 0, .int .i64 0, .int .i64 0, .int .i64 0, .int .i64 0, .int .i64 0, .int .i64 0, .int .i64 0, .int .i64 0, .int .i64 0, .int .i64 0, .int .i64 0, .int .i64 0])) := fun tmps ht => by
      have := HK.out.ends Ru.zs (by kernel_rfl) tmps ht
      rw [Ru.zs_arr] at this
      exact this
    show Calls _ _ _ _ fun e w' => e = .returned (.tuple #[.agg (Ru.arr Ru.zs), .int .i64 4]) ∧ _
    rw [Ru.zs_arr]
    cases z1 with
    | true =>
      clear hz C2 HC3
      go_enter Tryd.func20, Tryd.ntmps20
      go_upto_region 1 with fail
      rw [H3.out]
      go_wp2_with fail
      refine Calls.mono C1.out ?_
      rintro e w' ⟨rfl, rfl⟩
      clear C1 H3
      go_upto_region 2 with fail
      go_wp2_with (refine wpList_store_row rfl 56 _ _ rfl (w.heap.size + 1 + 1) #[.int .i64 0, .int .i64 0, .int .i64 0, .int .i64 0, .int .i64 0, .int .i64 0, .int .i64 0, .int .i64 0, .int .i64 0, .int .i64 0, .int .i64 0, .int .i64 0, .int .i64 0, .int .i64 0, .int .i64 0, .int .i64 0, .int .i64 0, .int .i64 0, .int .i64 0, .int .i64 0, .int .i64 0, .int .i64 0, .int .i64 0, .int .i64 0, .int .i64 0, .int .i64 0, .int .i64 0, .int .i64 0, .int .i64 0, .int .i64 0, .int .i64 0, .int .i64 0, .int .i64 0, .int .i64 0, .int .i64 0, .int .i64 0, .int .i64 0, .int .i64 0, .int .i64 0, .int .i64 0] rfl rfl 56 _ N4 (by kernel_rfl) rfl (by kernel_rfl) ?_)
      exact bodyPost_ret (fin.out _ rfl).1 rfl ⟨rfl, (fin.out #[undef, undef, undef, undef, .pointer (some ⟨w.heap.size + 1 + 1, 0, none⟩)] rfl).2⟩
    | false =>
      have hz2' : z2 = true := by simpa using hz
      subst hz2'
      clear hz HC3
      go_enter Tryd.func20, Tryd.ntmps20
      go_upto_region 1 with fail
      rw [H3.out]
      go_wp2_with fail
      refine Calls.mono C1.out ?_
      rintro e w' ⟨rfl, rfl⟩
      go_wp2_with fail
      refine Calls.mono C2.out ?_
      rintro e w' ⟨rfl, rfl⟩
      clear C1 C2 H3
      go_upto_region 2 with fail
      go_wp2_with (refine wpList_store_row rfl 56 _ _ rfl (w.heap.size + 1 + 1) #[.int .i64 0, .int .i64 0, .int .i64 0, .int .i64 0, .int .i64 0, .int .i64 0, .int .i64 0, .int .i64 0, .int .i64 0, .int .i64 0, .int .i64 0, .int .i64 0, .int .i64 0, .int .i64 0, .int .i64 0, .int .i64 0, .int .i64 0, .int .i64 0, .int .i64 0, .int .i64 0, .int .i64 0, .int .i64 0, .int .i64 0, .int .i64 0, .int .i64 0, .int .i64 0, .int .i64 0, .int .i64 0, .int .i64 0, .int .i64 0, .int .i64 0, .int .i64 0, .int .i64 0, .int .i64 0, .int .i64 0, .int .i64 0, .int .i64 0, .int .i64 0, .int .i64 0, .int .i64 0] rfl rfl 56 _ N4 (by kernel_rfl) rfl (by kernel_rfl) ?_)
      exact bodyPost_ret (fin.out _ rfl).1 rfl ⟨rfl, (fin.out #[undef, undef, undef, undef, .pointer (some ⟨w.heap.size + 1 + 1, 0, none⟩)] rfl).2⟩
  have hz1 : z1 = false := by cases z1 <;> simp at hz ⊢
  have hz2 : z2 = false := by cases z2 <;> simp_all
  subst hz1 hz2
  clear hz N4
  have hi : (Tryd.prog.info? 56).map (·.size) = some A.size := by rw [← HT.out.2.1]; exact HT.out.1.info
  have N3 := HK.out.tok
  rw [Ru.Arr, HT.out.2.1] at N3
  have HRF : Hid (Ru.Fit (R.getD Ru.zs)) := by
    cases hh : R with
    | none => exact Ru.zs_fit
    | some Q => exact HT.out.2.2 Q hh
  obtain ⟨S, hS⟩ : ∃ S, Ru.arr (R.getD Ru.zs) = S := ⟨_, rfl⟩
  have hj : (Tryd.prog.info? 56).map (·.size) = some S.size := by rw [← hS]; exact HRF.out.info
  have hj1 : (#[.int .i64 0, .int .i64 0, .int .i64 0, .int .i64 0, .int .i64 0, .int .i64 0, .int .i64 0, .int .i64 0, .int .i64 0, .int .i64 0, .int .i64 0, .int .i64 0, .int .i64 0, .int .i64 0, .int .i64 0, .int .i64 0, .int .i64 0, .int .i64 0, .int .i64 0, .int .i64 0, .int .i64 0, .int .i64 0, .int .i64 0, .int .i64 0, .int .i64 0, .int .i64 0, .int .i64 0, .int .i64 0, .int .i64 0, .int .i64 0, .int .i64 0, .int .i64 0, .int .i64 0, .int .i64 0, .int .i64 0, .int .i64 0, .int .i64 0, .int .i64 0, .int .i64 0, .int .i64 0] : Array Value).size = S.size := by rw [← hS, Ru.arr_size, HRF.out.1]; kernel_rfl
  have hj2 : S.all (·.oneCell') = true := by rw [← hS]; exact Ru.arr_all _
  have HS : Hid (Ru.arr (R.getD Ru.zs) = S) := hS
  rw [hS] at HC3
  clear hS
  obtain ⟨sm, hsm⟩ : ∃ b, R.isSome = b := ⟨_, rfl⟩
  rw [hsm] at HC3
  have HSM : Hid (R.isSome = sm) := hsm
  clear hsm
  go_enter Tryd.func20, Tryd.ntmps20
  go_upto_region 1 with fail
  rw [H3.out]
  go_wp2_with fail
  refine Calls.mono C1.out ?_
  rintro e w' ⟨rfl, rfl⟩
  go_wp2_with fail
  refine Calls.mono C2.out ?_
  rintro e w' ⟨rfl, rfl⟩
  clear C1 C2 H3
  go_upto_region 3 with fail
  go_wp2_with (first | refine wpList_load_row rfl 56 _ rfl _ rfl 56 A (0, 0) _ N3 hu rfl hi ?_ | fail)
  refine Calls.mono HC3.out ?_
  rintro e W ⟨rfl, hb⟩
  have HKW : Hid (Ru.Dw w #[.int .i64 kd, .int .i64 nd, .slice a n c, .slice a2 n2 c2] T W) := HK.out.next hb
  have N5 := heap_alloc_new W (.cells #[.int .i64 0, .int .i64 0, .int .i64 0, .int .i64 0, .int .i64 0, .int .i64 0, .int .i64 0, .int .i64 0, .int .i64 0, .int .i64 0, .int .i64 0, .int .i64 0, .int .i64 0, .int .i64 0, .int .i64 0, .int .i64 0, .int .i64 0, .int .i64 0, .int .i64 0, .int .i64 0, .int .i64 0, .int .i64 0, .int .i64 0, .int .i64 0, .int .i64 0, .int .i64 0, .int .i64 0, .int .i64 0, .int .i64 0, .int .i64 0, .int .i64 0, .int .i64 0, .int .i64 0, .int .i64 0, .int .i64 0, .int .i64 0, .int .i64 0, .int .i64 0, .int .i64 0, .int .i64 0] 56)
  obtain ⟨W5, hW5⟩ : ∃ x, (W.alloc (.cells #[.int .i64 0, .int .i64 0, .int .i64 0, .int .i64 0, .int .i64 0, .int .i64 0, .int .i64 0, .int .i64 0, .int .i64 0, .int .i64 0, .int .i64 0, .int .i64 0, .int .i64 0, .int .i64 0, .int .i64 0, .int .i64 0, .int .i64 0, .int .i64 0, .int .i64 0, .int .i64 0, .int .i64 0, .int .i64 0, .int .i64 0, .int .i64 0, .int .i64 0, .int .i64 0, .int .i64 0, .int .i64 0, .int .i64 0, .int .i64 0, .int .i64 0, .int .i64 0, .int .i64 0, .int .i64 0, .int .i64 0, .int .i64 0, .int .i64 0, .int .i64 0, .int .i64 0, .int .i64 0] 56)).setRow W.heap.size S = x := ⟨_, rfl⟩
  have HL : Hid (Ru.Dw w #[.int .i64 kd, .int .i64 nd, .slice a n c, .slice a2 n2 c2] T W5 ∧ Ru.Arr W5 W.heap.size (R.getD Ru.zs) ∧ w.heap.size + 1 + 1 < W.heap.size) := by
    refine ⟨?_, ?_, HKW.out.res.lt⟩
    · rw [← hW5]
      exact HKW.out.next (Tk.below_row ((Below.refl _ W).alloc (Nat.le_refl _) _) (Nat.le_refl _) _)
    · rw [← hW5, ← HS.out, Ru.Arr]
      exact setRow_heap _ _ _ _ _ _ N5
  have H5 : Hid ((W.alloc (.cells #[.int .i64 0, .int .i64 0, .int .i64 0, .int .i64 0, .int .i64 0, .int .i64 0, .int .i64 0, .int .i64 0, .int .i64 0, .int .i64 0, .int .i64 0, .int .i64 0, .int .i64 0, .int .i64 0, .int .i64 0, .int .i64 0, .int .i64 0, .int .i64 0, .int .i64 0, .int .i64 0, .int .i64 0, .int .i64 0, .int .i64 0, .int .i64 0, .int .i64 0, .int .i64 0, .int .i64 0, .int .i64 0, .int .i64 0, .int .i64 0, .int .i64 0, .int .i64 0, .int .i64 0, .int .i64 0, .int .i64 0, .int .i64 0, .int .i64 0, .int .i64 0, .int .i64 0, .int .i64 0] 56)).setRow W.heap.size S = W5) := hW5
  clear hb HC3 N3 HK HKW hW5 q2 q3
  cases sm with
  | false =>
    have hR0 : R = none := Option.isNone_iff_eq_none.1 (by rw [Option.isNone_iff_eq_none]; exact Option.not_isSome_iff_eq_none.1 (by rw [HSM.out]; simp))
    have hDv : D = (Ru.zs, 6) := by rw [HD.out, hR0]; rfl
    subst hDv
    have fin : Hid (∀ (tmps : Array Value), tmps.getD 4 undef = .pointer (some ⟨w.heap.size + 1 + 1, 0, none⟩) → (results Tryd.f20 tmps).run Tryd.prog (W5.setRow (w.heap.size + 1 + 1) #[.int .i64 0, .int .i64 0, .int .i64 0, .int .i64 0, .int .i64 0, .int .i64 0, .int .i64 0, .int .i64 0, .int .i64 0, .int .i64 0, .int .i64 0, .int .i64 0, .int .i64 0, .int .i64 0, .int .i64 0, .int .i64 0, .int .i64 0, .int .i64 0, .int .i64 0, .int .i64 0, .int .i64 0, .int .i64 0, .int .i64 0, .int .i64 0, .int .i64 0, .int .i64 0, .int .i64 0, .int .i64 0, .int .i64 0, .int .i64 0, .int .i64 0, .int .i64 0, .int .i64 0, .int .i64 0, .int .i64 0, .int .i64 0, .int .i64 0, .int .i64 0, .int .i64 0, .int .i64 0]) = .ok (.tuple #[.agg #[.int .i64 0, .int .i64 0, .int .i64 0, .int .i64 0, .int .i64 0, .int .i64 0, .int .i64 0, .int .i64 0, .int .i64 0, .int .i64 0, .int .i64 0, .int .i64 0, .int .i64 0, .int .i64 0, .int .i64 0, .int .i64 0, .int .i64 0, .int .i64 0, .int .i64 0, .int .i64 0, .int .i64 0, .int .i64 0, .int .i64 0, .int .i64 0, .int .i64 0, .int .i64 0, .int .i64 0, .int .i64 0, .int .i64 0, .int .i64 0, .int .i64 0, .int .i64 0, .int .i64 0, .int .i64 0, .int .i64 0, .int .i64 0, .int .i64 0, .int .i64 0, .int .i64 0, .int .i64 0], tmps.getD 5 undef]) (W5.setRow (w.heap.size + 1 + 1) #[.int .i64 0, .int .i64 0, .int .i64 0, .int .i64 0, .int .i64 0, .int .i64 0, .int .i64 0, .int .i64 0, .int .i64 0, .int .i64 0, .int .i64 0, .int .i64 0, .int .i64 0, .int .i64 0, .int .i64 0, .int .i64 0, .int .i64 0, .int .i64 0, .int .i64 0, .int .i64 0, .int .i64 0, .int .i64 0, .int .i64 0, .int .i64 0, .int .i64 0, .int .i64 0, .int .i64 0, .int .i64 0, .int .i64 0, .int .i64 0, .int .i64 0, .int .i64 0, .int .i64 0, .int .i64 0, .int .i64 0, .int .i64 0, .int .i64 0, .int .i64 0, .int .i64 0, .int .i64 0]) ∧ Below w.heap.size w (W5.setRow (w.heap.size + 1 + 1) #[.int .i64 0, .int .i64 0, .int .i64 0, .int .i64 0, .int .i64 0, .int .i64 0, .int .i64 0, .int .i64 0, .int .i64 0, .int .i64 0, .int .i64 0, .int .i64 0, .int .i64 0, .int .i64 0, .int .i64 0, .int .i64 0, .int .i64 0, .int .i64 0, .int .i64 0, .int .i64 0, .int .i64 0, .int .i64 0, .int .i64 0, .int .i64 0, .int .i64 0, .int .i64 0, .int .i64 0, .int .i64 0, .int .i64 0, .int .i64 0, .int .i64 0, .int .i64 0, .int .i64 0, .int .i64 0, .int .i64 0, .int .i64 0, .int .i64 0, .int .i64 0, .int .i64 0, .int .i64 0])) := fun tmps ht => by
      have := HL.out.1.ends Ru.zs (by kernel_rfl) tmps ht
      rw [Ru.zs_arr] at this
      exact this
    have N4 := HL.out.1.res
    rw [Ru.Arr, Ru.zs_arr] at N4
    clear hR0
    go_upto_region 4 with (refine wpList_store_row rfl 56 _ _ rfl W.heap.size S rfl rfl 56 _ N5 hj hj1 hj2 ?_; rw [H5.out])
    clear N5 H5
    go_upto_region 5 with fail
    go_wp2_with (refine wpList_store_row rfl 56 _ _ rfl (w.heap.size + 1 + 1) #[.int .i64 0, .int .i64 0, .int .i64 0, .int .i64 0, .int .i64 0, .int .i64 0, .int .i64 0, .int .i64 0, .int .i64 0, .int .i64 0, .int .i64 0, .int .i64 0, .int .i64 0, .int .i64 0, .int .i64 0, .int .i64 0, .int .i64 0, .int .i64 0, .int .i64 0, .int .i64 0, .int .i64 0, .int .i64 0, .int .i64 0, .int .i64 0, .int .i64 0, .int .i64 0, .int .i64 0, .int .i64 0, .int .i64 0, .int .i64 0, .int .i64 0, .int .i64 0, .int .i64 0, .int .i64 0, .int .i64 0, .int .i64 0, .int .i64 0, .int .i64 0, .int .i64 0, .int .i64 0] rfl rfl 56 _ N4 (by kernel_rfl) rfl (by kernel_rfl) ?_)
    refine bodyPost_ret (fin.out _ rfl).1 rfl ⟨?_, (fin.out #[undef, undef, undef, undef, .pointer (some ⟨w.heap.size + 1 + 1, 0, none⟩)] rfl).2⟩
    rw [Ru.zs_arr]
    rfl
  | true =>
    obtain ⟨T1, hT1⟩ : ∃ T1, R = some T1 := Option.isSome_iff_exists.1 HSM.out
    subst hT1
    have HF : Hid (Ru.Fit T1) := HT.out.2.2 T1 rfl
    have HL2 : Hid (Ru.Arr W5 W.heap.size T1) := HL.out.2.1
    have hW : w.heap.size + 1 + 1 < W.heap.size := HL.out.2.2
    obtain ⟨x2, x3⟩ := Ru.box4 HL.out.1.rul
    go_upto_region 4 with (refine wpList_store_row rfl 56 _ _ rfl W.heap.size S rfl rfl 56 _ N5 hj hj1 hj2 ?_; rw [H5.out])
    clear N5 H5 hj hj1 hj2 HS HRF HSM
    go_wp2
    go_loopg [32] n2 (fun gk s32 wr => ∃ (k : Nat) (Tt : List Int), gk + k = n2 ∧ s32 = .int .i64 k ∧ Hid ((gi.take k).foldlM Ru.giveW T1 = some Tt ∧ Ru.Fit Tt ∧ Ru.Dw w #[.int .i64 kd, .int .i64 nd, .slice a n c, .slice a2 n2 c2] T wr ∧ Ru.Arr wr W.heap.size Tt))
    case atStart => exact ⟨0, T1, by omega, rfl, rfl, HF.out, HL.out.1, HL2.out⟩
    case round =>
      obtain ⟨k, Tt, hk, rfl, HB⟩ := hrel
      by_cases hlt : k < n2
      · have hd : decide ((k : Int) < n2) = true := decide_eq_true (by omega)
        have hkl : k < gi.length := by rw [HC.out.2.1]; exact hlt
        obtain ⟨q, off, rfl, hq, h0⟩ := HC.out.1 k hkl
        rw [← HB.out.2.2.1.below.cell (p := ⟨q, off + k, none⟩) hq] at h0
        obtain ⟨x, hx⟩ : ∃ x, gi[k] = x := ⟨_, rfl⟩
        rw [hx] at h0
        have HX : Hid ((gi.take (k + 1)).foldlM Ru.giveW T1 = Ru.giveW Tt x) := by
          show _ = _
          rw [Tm.take_snoc _ _ hkl, hx, Ru.fold_snoc, HB.out.1]
          rfl
        have hnb := HC.out.2.2 (by first | rfl | trivial) x (by rw [← hx]; exact List.getElem_mem hkl)
        clear hx hq
        obtain ⟨j, rfl, hj⟩ := Ru.no_or x hnb
        obtain ⟨y, hy⟩ : ∃ y, Tt.getD j 0 = y := ⟨_, rfl⟩
        obtain ⟨t1, t2, t3⟩ := HB.out.2.1.at hj
        rw [hy] at t1 t2 t3
        have z0 := HB.out.2.2.2.cell j y t1
        have z1 := HB.out.2.2.2.frozen j
        have hj0 : (0 : Int) ≤ j := by omega
        have hj4 : (j : Int) < 40 := by omega
        by_cases hy1 : 3 ≤ y
        · have hdy : decide (3 ≤ y) = true := decide_eq_true hy1
          have hDv : D = (Ru.zs, 5) := by
            rw [HD.out]
            refine Ru.doR_full (Ru.fold_take_none _ _ _ (k + 1) (HX.out.trans ?_))
            rw [Ru.giveW, if_pos (by rw [Int.toNat_natCast, hy]; exact hy1)]
          subst hDv
          have fin : Hid (∀ (tmps : Array Value), tmps.getD 4 undef = .pointer (some ⟨w.heap.size + 1 + 1, 0, none⟩) → (results Tryd.f20 tmps).run Tryd.prog (wr.setRow (w.heap.size + 1 + 1) #[.int .i64 0, .int .i64 0, .int .i64 0, .int .i64 0, .int .i64 0, .int .i64 0, .int .i64 0, .int .i64 0, .int .i64 0, .int .i64 0, .int .i64 0, .int .i64 0, .int .i64 0, .int .i64 0, .int .i64 0, .int .i64 0, .int .i64 0, .int .i64 0, .int .i64 0, .int .i64 0, .int .i64 0, .int .i64 0, .int .i64 0, .int .i64 0, .int .i64 0, .int .i64 0, .int .i64 0, .int .i64 0, .int .i64 0, .int .i64 0, .int .i64 0, .int .i64 0, .int .i64 0, .int .i64 0, .int .i64 0, .int .i64 0, .int .i64 0, .int .i64 0, .int .i64 0, .int .i64 0]) = .ok (.tuple #[.agg #[.int .i64 0, .int .i64 0, .int .i64 0, .int .i64 0, .int .i64 0, .int .i64 0, .int .i64 0, .int .i64 0, .int .i64 0, .int .i64 0, .int .i64 0, .int .i64 0, .int .i64 0, .int .i64 0, .int .i64 0, .int .i64 0, .int .i64 0, .int .i64 0, .int .i64 0, .int .i64 0, .int .i64 0, .int .i64 0, .int .i64 0, .int .i64 0, .int .i64 0, .int .i64 0, .int .i64 0, .int .i64 0, .int .i64 0, .int .i64 0, .int .i64 0, .int .i64 0, .int .i64 0, .int .i64 0, .int .i64 0, .int .i64 0, .int .i64 0, .int .i64 0, .int .i64 0, .int .i64 0], tmps.getD 5 undef]) (wr.setRow (w.heap.size + 1 + 1) #[.int .i64 0, .int .i64 0, .int .i64 0, .int .i64 0, .int .i64 0, .int .i64 0, .int .i64 0, .int .i64 0, .int .i64 0, .int .i64 0, .int .i64 0, .int .i64 0, .int .i64 0, .int .i64 0, .int .i64 0, .int .i64 0, .int .i64 0, .int .i64 0, .int .i64 0, .int .i64 0, .int .i64 0, .int .i64 0, .int .i64 0, .int .i64 0, .int .i64 0, .int .i64 0, .int .i64 0, .int .i64 0, .int .i64 0, .int .i64 0, .int .i64 0, .int .i64 0, .int .i64 0, .int .i64 0, .int .i64 0, .int .i64 0, .int .i64 0, .int .i64 0, .int .i64 0, .int .i64 0]) ∧ Below w.heap.size w (wr.setRow (w.heap.size + 1 + 1) #[.int .i64 0, .int .i64 0, .int .i64 0, .int .i64 0, .int .i64 0, .int .i64 0, .int .i64 0, .int .i64 0, .int .i64 0, .int .i64 0, .int .i64 0, .int .i64 0, .int .i64 0, .int .i64 0, .int .i64 0, .int .i64 0, .int .i64 0, .int .i64 0, .int .i64 0, .int .i64 0, .int .i64 0, .int .i64 0, .int .i64 0, .int .i64 0, .int .i64 0, .int .i64 0, .int .i64 0, .int .i64 0, .int .i64 0, .int .i64 0, .int .i64 0, .int .i64 0, .int .i64 0, .int .i64 0, .int .i64 0, .int .i64 0, .int .i64 0, .int .i64 0, .int .i64 0, .int .i64 0])) := fun tmps ht => by
            have := HB.out.2.2.1.ends Ru.zs (by kernel_rfl) tmps ht
            rw [Ru.zs_arr] at this
            exact this
          have N4 := HB.out.2.2.1.res
          rw [Ru.Arr, Ru.zs_arr] at N4
          clear hnb t1 t2 t3 hy hy1 hj
          go_upto_region 10 with fail
          go_wp2_with (refine wpList_store_row rfl 56 _ _ rfl (w.heap.size + 1 + 1) #[.int .i64 0, .int .i64 0, .int .i64 0, .int .i64 0, .int .i64 0, .int .i64 0, .int .i64 0, .int .i64 0, .int .i64 0, .int .i64 0, .int .i64 0, .int .i64 0, .int .i64 0, .int .i64 0, .int .i64 0, .int .i64 0, .int .i64 0, .int .i64 0, .int .i64 0, .int .i64 0, .int .i64 0, .int .i64 0, .int .i64 0, .int .i64 0, .int .i64 0, .int .i64 0, .int .i64 0, .int .i64 0, .int .i64 0, .int .i64 0, .int .i64 0, .int .i64 0, .int .i64 0, .int .i64 0, .int .i64 0, .int .i64 0, .int .i64 0, .int .i64 0, .int .i64 0, .int .i64 0] rfl rfl 56 _ N4 (by kernel_rfl) rfl (by kernel_rfl) ?_)
          refine bodyPost_ret (fin.out _ rfl).1 rfl ⟨?_, (fin.out #[undef, undef, undef, undef, .pointer (some ⟨w.heap.size + 1 + 1, 0, none⟩)] rfl).2⟩
          rw [Ru.zs_arr]
          rfl
        · have hdy : decide (3 ≤ y) = false := decide_eq_false hy1
          have hwr : IntKind.i64.wrap (y + 1) = y + 1 := Go.IntWalk.i64_in _ (by omega)
          have HN : Hid (Ru.giveW Tt j = some (Tt.set j (y + 1))) := by
            show _ = _
            rw [Ru.giveW, if_neg (by rw [Int.toNat_natCast, hy]; omega), Int.toNat_natCast, hy]
          have HW : Hid (Ru.Dw w #[.int .i64 kd, .int .i64 nd, .slice a n c, .slice (some ⟨q, off, none⟩) n2 c2] T (wr.setCell ⟨W.heap.size, j, none⟩ (.int .i64 (y + 1))) ∧ Ru.Fit (Tt.set j (y + 1)) ∧ Ru.Arr (wr.setCell ⟨W.heap.size, j, none⟩ (.int .i64 (y + 1))) W.heap.size (Tt.set j (y + 1))) := ⟨HB.out.2.2.1.set hW _ _, HB.out.2.1.set _ _ (by omega), HB.out.2.2.2.put j (y + 1)⟩
          clear hnb t1 t2 t3 hy hy1 hj
          go_wp2
          go_roundg (gk - 1)
          case measure => omega
          case rel => exact ⟨k + 1, Tt.set j (y + 1), by omega, by go_num, HX.out.trans HN.out, HW.out.2.1, HW.out.1, HW.out.2.2⟩
      · have hd : decide ((k : Int) < n2) = false := decide_eq_false (by omega)
        have hDv : D = (Tt, 0) := by
          rw [HD.out]
          refine Ru.doR_ok ?_
          have := HB.out.1
          rw [List.take_of_length_le (by rw [HC.out.2.1]; omega)] at this
          exact this
        subst hDv
        have N1 := HB.out.2.2.2
        have N2 := HB.out.2.2.1.res
        have hi2 := HB.out.2.1.info
        have hi1 : (Ru.arr Ru.zs).size = (Ru.arr Tt).size := by rw [Ru.arr_size, Ru.arr_size, HB.out.2.1.1]; kernel_rfl
        have ha := Ru.arr_all Tt
        have fin : Hid _ := fun tmps ht => HB.out.2.2.1.ends Tt HB.out.2.1.1 tmps ht
        obtain ⟨A2, hA2⟩ : ∃ A, Ru.arr Tt = A := ⟨_, rfl⟩
        unfold Ru.Arr at N1 N2
        rw [hA2] at N1 hi2 hi1 ha
        simp only [hA2] at fin
        have H6 : Hid (Ru.arr Tt = A2) := hA2
        clear hA2
        go_wp2_with (first
          | refine wpList_load_row rfl 56 _ rfl _ rfl 56 A2 (0, 0) _ N1 hu rfl hi2 ?_
          | refine wpList_store_row rfl 56 _ _ rfl (w.heap.size + 1 + 1) A2 rfl rfl 56 _ N2 hi2 hi1 ha ?_)
        refine bodyPost_ret (fin.out _ rfl).1 rfl ⟨?_, (fin.out #[undef, undef, undef, undef, .pointer (some ⟨w.heap.size + 1 + 1, 0, none⟩)] rfl).2⟩
        rw [H6.out]
        rfl

end Go.Proofs
