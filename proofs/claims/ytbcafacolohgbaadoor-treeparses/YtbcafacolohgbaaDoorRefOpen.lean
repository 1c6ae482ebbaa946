/-
  The contract of the document's open.
-/
import Derived.Test.YtbcafacolohgbaaDoorRefText
import Derived.Test.YtbcafacolohgbaaDoorRefHas
import Derived.Test.YtbcafacolohgbaaDoorRRead
namespace Go.Proofs
open Go.RowKit
open Go.Proofs.Mk

theorem Mk.below_setRow {B : Nat} {a w : World} (h : Below B a w) {g : Nat} (hg : B ≤ g) (cs : Array Value) : Below B a (w.setRow g cs) :=
  h.trans ⟨rfl, rfl, rfl, by simp [World.setRow], fun k hk => by
    simp only [World.setRow, Array.getElem?_modify]
    rw [if_neg (by omega)]⟩

/-- open's zero answer, and its answer where there is none. -/
def Mk.openZ : Array Value := #[.int .i64 0, .int .i64 0, .string ⟨#[]⟩, .slice none 0 0, .string ⟨#[]⟩, .int .i64 0, .bool false]
def Mk.openBad : Array Value := #[.int .i64 0, .int .i64 0, .string ⟨#[]⟩, .slice none 0 0, .string ⟨#[]⟩, .int .i64 (-1), .bool false]

/-- The blocks that open goes on with: its answer's in block B, its mark's in block bm, the attributes' row behind them. -/
structure Mk.OS (w : World) (bm k : Nat) (nm : List UInt8) (va : Value) (xs : List (ByteArray × ByteArray)) (X : World) : Prop where
  lt : w.heap.size < bm
  res : X.heap[w.heap.size]? = some (.cells Mk.openZ 110 (0, 0))
  mark : X.heap[bm]? = some (.cells #[.int .i64 1, .int .i64 k, .string ⟨nm.toArray⟩, va, .string ⟨#[]⟩] 86 (0, 0))
  own : X.ownsRow (bm + 1) 69 2 va xs.length (Mk.attrCells xs)
  below : Below w.heap.size w X

theorem Mk.OS.size {w : World} {bm k : Nat} {nm : List UInt8} {va : Value} {xs : List (ByteArray × ByteArray)} {X : World} (h : Mk.OS w bm k nm va xs X) : bm < X.heap.size := (Array.getElem?_eq_some_iff.1 h.mark).1
theorem Mk.own_below {w w' : World} {B : Nat} {e : TypeId} {size : Nat} {v : Value} {n : Nat} {cs : List Value} (h : w.ownsRow B e size v n cs) (hb : Below w.heap.size w w') : w'.ownsRow B e size v n cs :=
  h.kept (Mk.grown_of_below hb none) (by cases v.ownBlock <;> simp)
theorem Mk.OS.step {w : World} {bm k : Nat} {nm : List UInt8} {va : Value} {xs : List (ByteArray × ByteArray)} {X X' : World} (h : Mk.OS w bm k nm va xs X) (hb : Below X.heap.size X X') : Mk.OS w bm k nm va xs X' := by
  have hz := h.size
  have hl := h.lt
  exact ⟨h.lt, by rw [hb.block _ (by omega)]; exact h.res, by rw [hb.block _ hz]; exact h.mark, Mk.own_below h.own hb, h.below.trans (hb.mono (by omega))⟩
theorem Mk.OS.alloc {w : World} {bm k : Nat} {nm : List UInt8} {va : Value} {xs : List (ByteArray × ByteArray)} {X : World} (h : Mk.OS w bm k nm va xs X) (o : Obj) : Mk.OS w bm k nm va xs (X.alloc o) :=
  h.step ((Below.refl _ X).alloc (Nat.le_refl _) o)

/-- The attributes' slice, of whichever element type. -/
theorem Mk.attrsAt_own {w : World} {base : Nat} {e : TypeId} {v : Value} {xs : List (ByteArray × ByteArray)} (h : w.ownsRow base e 2 v xs.length (Mk.attrCells xs)) : Mk.AttrsAt w v xs := by
  have hcs := fun (g : Nat) (e : v.ownBlock = some g) => h.cells e
  rcases h.2 with ⟨rfl, hn⟩ | ⟨g, cap, cur, rfl, hb, hg, hc, hm, hs, ht⟩
  · exact .inl ⟨none, 0, rfl, List.length_eq_zero_iff.1 hn⟩
  · refine .inr ⟨g, 0, cap, rfl, hc, (Array.getElem?_eq_some_iff.1 hg).1, fun j hj => ?_⟩
    have hq := Mk.attrCells_get xs j hj
    have h1 := hcs g rfl (j * 2) _ hq.1
    have h2 := hcs g rfl (j * 2 + 1) _ hq.2
    have ea : ∀ n, (⟨g, 0, none⟩ : Addr).add n = ⟨g, n, none⟩ := fun n => by unfold Addr.add; split <;> simp_all
    rw [ea] at h1 h2
    simpa using ⟨h1, h2⟩

theorem Mk.own_setRow {w : World} {B : Nat} {e : TypeId} {size : Nat} {v : Value} {n : Nat} {cs : List Value} (h : w.ownsRow B e size v n cs) {g : Nat} (hg : g < B) (row : Array Value) : (w.setRow g row).ownsRow B e size v n cs := by
  refine ⟨h.1, ?_⟩
  rcases h.2 with h2 | ⟨g', cap, cur, hv, hb, hh, r⟩
  · exact .inl h2
  · refine .inr ⟨g', cap, cur, hv, hb, ?_, r⟩
    simp only [World.setRow, Array.getElem?_modify]
    rw [if_neg (by omega)]
    exact hh

/-- A block of another element type is not the row's. -/
theorem Mk.row_ne {w : World} {B : Nat} {e : TypeId} {size : Nat} {v : Value} {n : Nat} {cs : List Value} (h : w.ownsRow B e size v n cs) {g : Nat} {c : Array Value} {t : TypeId} {fz : Nat × Nat} (hg : w.heap[g]? = some (.cells c t fz)) (hne : t ≠ e) : some g ≠ v.ownBlock := by
  rcases h.2 with ⟨rfl, _⟩ | ⟨g', cap, cur, rfl, _, hgg, _⟩
  · simp [Value.ownBlock]
  · simp only [Value.ownBlock, ne_eq, Option.some.injEq]
    intro e1
    subst e1
    rw [hg] at hgg
    simp only [Option.some.injEq, Obj.cells.injEq] at hgg
    exact hne hgg.2.1

/-- How open ends: what nextL says of an opened element. -/
def Mk.RefOpenEnd (w : World) (s : ByteArray) (k : Nat) (nm : List UInt8) (e : Ending) (w' : World) : Prop :=
  if nameL nm = false then e = .returned (.agg Mk.openBad) else
  match Mk.attrsL (s.data.toList.drop (k + 1 + nm.length)) with
  | none => e = .returned (.agg Mk.openBad)
  | some (xs, m) => if Mk.unlikeB xs = false then e = .returned (.agg Mk.openBad) else
    if Lib.hasPrefix (s.data.toList.drop (k + 1 + nm.length + m)) [47, 62] = true then
      ∃ va, e = .returned (.agg #[.int .i64 1, .int .i64 k, .string ⟨nm.toArray⟩, va, .string ⟨#[]⟩, .int .i64 ((k + 1 + nm.length + m + 2 : Nat) : Int), .bool true]) ∧ w'.ownsRow w.heap.size 69 2 va xs.length (Mk.attrCells xs)
    else if Lib.hasPrefix (s.data.toList.drop (k + 1 + nm.length + m)) [62] = true then
      ∃ va, e = .returned (.agg #[.int .i64 1, .int .i64 k, .string ⟨nm.toArray⟩, va, .string ⟨#[]⟩, .int .i64 ((k + 1 + nm.length + m + 1 : Nat) : Int), .bool false]) ∧ w'.ownsRow w.heap.size 69 2 va xs.length (Mk.attrCells xs)
    else e = .returned (.agg Mk.openBad)

theorem Tryd.infoRAttr : (Tryd.prog.info? 69).map (fun i => (i.zero, i.size, i.bytes)) = some (some (.agg #[.string ⟨#[]⟩, .string ⟨#[]⟩]), 2, 32) := by kernel_rfl

/-- A text that was read up to a stop: either the end is there, or the stop. -/
theorem Mk.textF_stop (stop : UInt8) : ∀ (f : Nat) (l : List UInt8) (o : List UInt8) (m : Nat), l.length ≤ f → Mk.textF stop f l = some (o, m) → m = l.length ∨ (l.drop m).head? = some stop
  | 0, l, o, m, hl, h => by
    simp only [Mk.textF, Option.some.injEq, Prod.mk.injEq] at h
    exact .inl (by omega)
  | f + 1, l, o, m, hl, h => by
    simp only [Mk.textF] at h
    split at h
    · rename_i he
      simp only [Option.some.injEq, Prod.mk.injEq] at h
      exact .inl (by rw [he]; simp; omega)
    · split at h
      · rename_i hh
        simp only [Option.some.injEq, Prod.mk.injEq] at h
        obtain ⟨_, rfl⟩ := h
        exact .inr (by simpa using hh)
      · split at h
        · cases h
        · rename_i hne _ hn0
          split at h
          · cases h
          · rename_i o' m' he
            simp only [Option.some.injEq, Prod.mk.injEq] at h
            have hle := Mk.meant_le l
            have hpos : 0 < l.length := List.length_pos_iff.2 hne
            rcases Mk.textF_stop stop f _ o' m' (by rw [List.length_drop]; omega) he with h1 | h1
            · rw [List.length_drop] at h1
              exact .inl (by omega)
            · rw [List.drop_drop] at h1
              exact .inr (by rw [← h.2]; exact h1)

theorem Mk.text_then {stop : UInt8} {L o : List UInt8} {p m : Nat} (h : Mk.textL stop (L.drop p) = some (o, m)) (hp : p ≤ L.length) : Lib.hasPrefix (L.drop (p + m)) [stop] = decide (p + m < L.length) := by
  have hle := Mk.textL_le h
  rw [List.length_drop] at hle
  rcases Mk.textF_stop stop _ _ o m (Nat.le_refl _) h with h1 | h1
  · rw [List.length_drop] at h1
    rw [List.drop_eq_nil_of_le (by omega)]
    simp [Lib.hasPrefix]
    omega
  · rw [List.drop_drop] at h1
    rw [Mk.pre_one h1]
    have : p + m < L.length := by
      cases hlt : decide (p + m < L.length) with
      | true => simpa using hlt
      | false =>
        rw [List.drop_eq_nil_of_le (by simpa using hlt)] at h1
        cases h1
    simp [this]

/-- More attributes behind a name that is there already, or behind the last that may be: too many, or two alike. -/
theorem Mk.unlike_more {xs : List (ByteArray × ByteArray)} {a : ByteArray × ByteArray} {r : List (ByteArray × ByteArray)} (h : Mk.hasB xs a.1 = true ∨ 64 ≤ xs.length) : Mk.unlikeB (xs ++ a :: r) = false := by
  rcases h with h | h
  · have hn : ¬ ((xs ++ a :: r).map (·.1)).Nodup := by
      intro hd
      simp only [Mk.hasB, List.any_eq_true, decide_eq_true_eq] at h
      obtain ⟨c, hc, he⟩ := h
      rw [List.map_append, List.nodup_append] at hd
      exact hd.2.2 c.1 (List.mem_map_of_mem hc) a.1 (by simp) he
    simp only [Mk.unlikeB, Bool.and_eq_false_iff, decide_eq_false_iff_not]
    exact .inr hn
  · simp only [Mk.unlikeB, Bool.and_eq_false_iff, decide_eq_false_iff_not]
    exact .inl (by rw [List.length_append, List.length_cons]; omega)
theorem Mk.unlike_one {xs : List (ByteArray × ByteArray)} {a : ByteArray × ByteArray} (hx : Mk.unlikeB xs = true) (h : Mk.hasB xs a.1 = false) (h2 : xs.length < 64) : Mk.unlikeB (xs ++ [a]) = true := by
  simp only [Mk.unlikeB, Bool.and_eq_true, decide_eq_true_eq] at hx ⊢
  refine ⟨by rw [List.length_append]; simp; omega, ?_⟩
  rw [List.map_append, List.nodup_append]
  refine ⟨hx.2, by simp, fun c hc d hd => ?_⟩
  simp only [List.map_cons, List.map_nil, List.mem_singleton] at hd
  subst hd
  intro e
  subst e
  obtain ⟨q, hq, he⟩ := List.mem_map.1 hc
  have : Mk.hasB xs a.1 = true := by
    simp only [Mk.hasB, List.any_eq_true, decide_eq_true_eq]
    exact ⟨q, hq, he⟩
  rw [this] at h
  cases h

end Go.Proofs
