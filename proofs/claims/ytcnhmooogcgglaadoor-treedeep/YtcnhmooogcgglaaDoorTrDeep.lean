/-
  The statement's own elements, so many in one another: what they are, and the contract of what builds them.
-/
import Derived.Test.YtcnhmooogcgglaaDoorTrModel
namespace Go.Proofs
open Go.RowKit
open Go.Proofs.Mk

/-- n more elements round one. -/
def El.deepE : Nat → El
  | 0 => .mk ⟨#[97]⟩ [(⟨#[98]⟩, ⟨#[99]⟩)] [] ⟨#[]⟩
  | i + 1 => .mk ⟨#[97]⟩ [] [deepE i] ⟨#[]⟩
theorem El.deepE_name (i : Nat) : (El.deepE i).name = ⟨#[97]⟩ := by cases i <;> rfl
theorem El.deepE_text (i : Nat) : (El.deepE i).text = ⟨#[]⟩ := by cases i <;> rfl

theorem Tr.put4d {X : World} {q : Nat} {a b c d : Value} {t : TypeId} (h : X.heap[q]? = some (.cells #[a, b, c, d] t (0, 0))) (a' b' c' d' : Value) :
    ((((X.setCell ⟨q, 0, none⟩ a').setCell ⟨q, 1, none⟩ b').setCell ⟨q, 2, none⟩ c').setCell ⟨q, 3, none⟩ d').heap[q]? = some (.cells #[a', b', c', d'] t (0, 0)) := by
  simp [World.setCell, Array.getElem?_modify, h]
theorem Tr.row4d {X : World} {q : Nat} {a b c d : Value} {t : TypeId} (h : X.heap[q]? = some (.cells #[a, b, c, d] t (0, 0))) :
    (X.cell? ⟨q, 0, none⟩ = some a ∧ X.cell? ⟨q, 1, none⟩ = some b ∧ X.cell? ⟨q, 2, none⟩ = some c ∧ X.cell? ⟨q, 3, none⟩ = some d) ∧ X.frozen? ⟨q, 0, none⟩ = false ∧ X.frozen? ⟨q, 1, none⟩ = false ∧ X.frozen? ⟨q, 2, none⟩ = false ∧ X.frozen? ⟨q, 3, none⟩ = false := by
  simp [World.cell?, World.frozen?, h]
theorem Tr.keep4d {X : World} {q k : Nat} (h : k ≠ q) (a b c d : Value) :
    ((((X.setCell ⟨q, 0, none⟩ a).setCell ⟨q, 1, none⟩ b).setCell ⟨q, 2, none⟩ c).setCell ⟨q, 3, none⟩ d).heap[k]? = X.heap[k]? := by
  rw [Below.heap_setCell _ _ _ _ h, Below.heap_setCell _ _ _ _ h, Below.heap_setCell _ _ _ _ h, Below.heap_setCell _ _ _ _ h]
theorem Tr.size4d {X : World} {q : Nat} (a b c d : Value) :
    ((((X.setCell ⟨q, 0, none⟩ a).setCell ⟨q, 1, none⟩ b).setCell ⟨q, 2, none⟩ c).setCell ⟨q, 3, none⟩ d).heap.size = X.heap.size := by
  simp [World.setCell]

/-- What stands between two rounds. -/
structure Tr.Dp (w : World) (i : Nat) (va vk : Value) (X : World) : Prop where
  below : Below w.heap.size w X
  size : w.heap.size + 2 < X.heap.size
  res : X.heap[w.heap.size]? = some (.cells #[.string ⟨#[]⟩, .slice none 0 0, .slice none 0 0, .string ⟨#[]⟩] 42 (0, 0))
  var : X.heap[w.heap.size + 2]? = some (.cells #[.string ⟨#[97]⟩, va, vk, .string ⟨#[]⟩] 42 (0, 0))
  lies : El.Lies X (fun k => k ≠ w.heap.size ∧ k ≠ w.heap.size + 2 ∧ k < X.heap.size) (i + 1) va vk (El.deepE i)
theorem Tr.Dp.next {w X : World} {i : Nat} {va vk : Value} (h : Tr.Dp w i va vk X) :
    Tr.Dp w (i + 1) (.slice none 0 0) (.slice (some ⟨X.heap.size, 0, none⟩) 1 1) ((X.alloc (.cells #[.string ⟨#[97]⟩, va, vk, .string ⟨#[]⟩] 42)).setRow (w.heap.size + 2) #[.string ⟨#[97]⟩, .slice none 0 0, .slice (some ⟨X.heap.size, 0, none⟩) 1 1, .string ⟨#[]⟩]) := by
  have hs := h.size
  obtain ⟨Y, hY⟩ : ∃ Y, X.alloc (.cells #[.string ⟨#[97]⟩, va, vk, .string ⟨#[]⟩] 42) = Y := ⟨_, rfl⟩
  have A : Below X.heap.size X Y := by rw [← hY]; exact (Below.refl _ X).alloc (Nat.le_refl _) _
  have N : Y.heap[X.heap.size]? = some (.cells #[.string ⟨#[97]⟩, va, vk, .string ⟨#[]⟩] 42 (0, 0)) := by rw [← hY]; exact heap_alloc_new X _
  have S : Y.heap.size = X.heap.size + 1 := by rw [← hY]; simp
  rw [hY]
  clear hY
  obtain ⟨Z, hZ⟩ : ∃ Z, Y.setRow (w.heap.size + 2) #[.string ⟨#[97]⟩, .slice none 0 0, .slice (some ⟨X.heap.size, 0, none⟩) 1 1, .string ⟨#[]⟩] = Z := ⟨_, rfl⟩
  have hv : Y.heap[w.heap.size + 2]? = some (.cells #[.string ⟨#[97]⟩, va, vk, .string ⟨#[]⟩] 42 (0, 0)) := (A.block _ hs).trans h.var
  have hz1 : Z.heap[w.heap.size + 2]? = some (.cells #[.string ⟨#[97]⟩, .slice none 0 0, .slice (some ⟨X.heap.size, 0, none⟩) 1 1, .string ⟨#[]⟩] 42 (0, 0)) := by rw [← hZ]; simp [World.setRow, Array.getElem?_modify, hv]
  have hz2 : ∀ k, k ≠ w.heap.size + 2 → Z.heap[k]? = Y.heap[k]? := fun k hk => by
    rw [← hZ]; simp only [World.setRow, Array.getElem?_modify]; rw [if_neg (by omega)]
  have hz3 : Z.heap.size = X.heap.size + 1 := by rw [← hZ]; simp [World.setRow, S]
  have hz4 : Below w.heap.size Y Z := by
    rw [← hZ]
    exact ⟨rfl, rfl, rfl, by simp [World.setRow], fun k hk => by simp only [World.setRow, Array.getElem?_modify]; rw [if_neg (by omega)]⟩
  rw [hZ]
  clear hZ
  refine ⟨(h.below.trans (A.mono h.below.size)).trans hz4, by omega, ?_, hz1, ?_⟩
  · rw [hz2 _ (by omega)]; exact (A.block _ (by omega)).trans h.res
  · refine ⟨.inl ⟨none, 0, rfl, rfl⟩, some ⟨X.heap.size, 0, none⟩, 1, rfl, .inr ⟨X.heap.size, 0, rfl, ⟨by omega, by omega, by omega⟩, fun j hj => ?_⟩⟩
    obtain rfl : j = 0 := by have : j < 1 := hj; omega
    obtain ⟨⟨c0, c1, c2, c3⟩, _⟩ := Tr.row4d ((hz2 _ (by omega)).trans N)
    refine ⟨va, vk, ?_, by simpa using c1, by simpa using c2, ?_, ?_⟩
    · have e : ([El.deepE i] : List El)[0].name = ⟨#[97]⟩ := El.deepE_name i
      show _ = some (Value.string ([El.deepE i] : List El)[0].name)
      rw [e]; simpa using c0
    · have e : ([El.deepE i] : List El)[0].text = ⟨#[]⟩ := El.deepE_text i
      show _ = some (Value.string ([El.deepE i] : List El)[0].text)
      rw [e]; simpa using c3
    · show El.Lies _ _ (i + 1) va vk (El.deepE i)
      refine h.lies.keep (fun k hk => ?_) fun k hk => ⟨hk.1, hk.2.1, by omega⟩
      rw [hz2 k hk.2.1]; exact A.block k hk.2.2

set_option maxHeartbeats 8000000 in
set_option maxRecDepth 20000 in
theorem Tryd.deep_any (n : Nat) (w : World) (hn : 1 ≤ n) (hn2 : n ≤ 60) : Calls Tryd.prog 29 #[.int .i64 n] w fun e w' => Below w.heap.size w w' ∧ ∃ va vk, e = .returned (.agg #[.string ⟨#[97]⟩, va, vk, .string ⟨#[]⟩]) ∧ El.Lies w' (· < w'.heap.size) n va vk (El.deepE (n - 1)) := by
  have h0 : Tr.Dp w 0 (.slice (some ⟨w.heap.size + 1, 0, none⟩) 1 1) (.slice none 0 0) (((w.alloc (.cells #[.string ⟨#[]⟩, .slice none 0 0, .slice none 0 0, .string ⟨#[]⟩] 42)).alloc (.cells #[.string ⟨#[98]⟩, .string ⟨#[99]⟩] 67)).alloc (.cells #[.string ⟨#[97]⟩, .slice (some ⟨w.heap.size + 1, 0, none⟩) 1 1, .slice none 0 0, .string ⟨#[]⟩] 42)) := by
    obtain ⟨Y, hY⟩ : ∃ Y, w.alloc (.cells #[.string ⟨#[]⟩, .slice none 0 0, .slice none 0 0, .string ⟨#[]⟩] 42) = Y := ⟨_, rfl⟩
    have A : Below w.heap.size w Y := by rw [← hY]; exact (Below.refl _ w).alloc (Nat.le_refl _) _
    have NY : Y.heap[w.heap.size]? = some (.cells #[.string ⟨#[]⟩, .slice none 0 0, .slice none 0 0, .string ⟨#[]⟩] 42 (0, 0)) := by rw [← hY]; exact heap_alloc_new w _
    have SY : Y.heap.size = w.heap.size + 1 := by rw [← hY]; simp
    rw [hY]
    obtain ⟨Z, hZ⟩ : ∃ Z, Y.alloc (.cells #[.string ⟨#[98]⟩, .string ⟨#[99]⟩] 67) = Z := ⟨_, rfl⟩
    have AZ : Below Y.heap.size Y Z := by rw [← hZ]; exact (Below.refl _ Y).alloc (Nat.le_refl _) _
    have NZ : Z.heap[w.heap.size + 1]? = some (.cells #[.string ⟨#[98]⟩, .string ⟨#[99]⟩] 67 (0, 0)) := by rw [← hZ, ← SY]; exact heap_alloc_new Y _
    have SZ : Z.heap.size = w.heap.size + 2 := by rw [← hZ]; simp [SY]
    rw [hZ]
    obtain ⟨V, hV⟩ : ∃ V, Z.alloc (.cells #[.string ⟨#[97]⟩, .slice (some ⟨w.heap.size + 1, 0, none⟩) 1 1, .slice none 0 0, .string ⟨#[]⟩] 42) = V := ⟨_, rfl⟩
    have AV : Below Z.heap.size Z V := by rw [← hV]; exact (Below.refl _ Z).alloc (Nat.le_refl _) _
    have NV : V.heap[w.heap.size + 2]? = some (.cells #[.string ⟨#[97]⟩, .slice (some ⟨w.heap.size + 1, 0, none⟩) 1 1, .slice none 0 0, .string ⟨#[]⟩] 42 (0, 0)) := by rw [← hV, ← SZ]; exact heap_alloc_new Z _
    have SV : V.heap.size = w.heap.size + 3 := by rw [← hV]; simp [SZ]
    rw [hV]
    refine ⟨(A.trans (AZ.mono A.size)).trans (AV.mono (by omega)), by omega, (AV.block _ (by omega)).trans ((AZ.block _ (by omega)).trans NY), NV, El.Lies.leaf 0 (.inr ?_) none 0 rfl⟩
    refine ⟨w.heap.size + 1, 0, 1, rfl, Nat.le_refl _, ⟨by omega, by omega, by omega⟩, fun j hj => ?_⟩
    obtain rfl : j = 0 := by have : j < 1 := hj; omega
    have NZ' := (AV.block _ (by omega)).trans NZ
    simp [World.cell?, NZ', El.deepE, El.attrs]
  have HD0 : Hid _ := h0
  have hu := Tryd.underlying42
  clear h0
  go_enter Tryd.func29, Tryd.ntmps29
  go_wp2
  go_loopg [4] n (fun g i wr => ∃ j : Nat, g + j = n + 1 ∧ 1 ≤ j ∧ j ≤ n ∧ i = .int .i64 j ∧ Hid (∃ va vk, Tr.Dp w (j - 1) va vk wr))
  case atStart => exact ⟨1, by omega, by omega, by omega, rfl, _, _, HD0.out⟩
  case round =>
    obtain ⟨j, hj, hj1, hj2, rfl, HJ⟩ := hrel
    obtain ⟨va, vk, hD⟩ := HJ.out
    have HD : Hid (Tr.Dp w (j - 1) va vk wr) := hD
    obtain ⟨aa, ca, ak, ck, hva, hvk⟩ := hD.lies.shape
    obtain ⟨la, hla⟩ : ∃ x, (El.deepE (j - 1)).attrs.length = x := ⟨_, rfl⟩
    obtain ⟨lk, hlk⟩ : ∃ x, (El.deepE (j - 1)).kids.length = x := ⟨_, rfl⟩
    rw [hla] at hva
    rw [hlk] at hvk
    subst hva hvk
    clear hla hlk HJ
    have hv := hD.var
    by_cases hjn : j < n
    · have hd : decide ((j : Int) < n) = true := decide_eq_true (by omega)
      have NA : (wr.alloc (.cells #[.string ⟨#[97]⟩, .slice aa la ca, .slice ak lk ck, .string ⟨#[]⟩] 42)).heap[w.heap.size + 2]? = some (.cells #[.string ⟨#[97]⟩, .slice aa la ca, .slice ak lk ck, .string ⟨#[]⟩] 42 (0, 0)) := by rw [Below.heap_alloc _ _ _ hD.size]; exact hv
      have HNA : Hid _ := NA
      have HV : Hid _ := hv
      clear hD NA hv
      go_wp2_with (first | (refine wpList_load_row rfl 42 _ rfl _ rfl 42 _ (0, 0) _ HV.out hu rfl (by kernel_rfl) ?_) | (refine wpList_store_row rfl 42 _ _ rfl (w.heap.size + 2) _ rfl rfl 42 #[.string ⟨#[97]⟩, .slice aa la ca, .slice ak lk ck, .string ⟨#[]⟩] (by exact HNA.out) (by kernel_rfl) rfl (by kernel_rfl) ?_) | fail)
      go_roundg (gk - 1)
      case measure => omega
      case rel => exact ⟨j + 1, by omega, by omega, by omega, by go_num, _, _, by have := HD.out.next; rw [show j - 1 + 1 = j + 1 - 1 by omega] at this; exact this⟩
    · have hd : decide ((j : Int) < n) = false := decide_eq_false (by omega)
      obtain rfl : j = n := by omega
      obtain ⟨⟨f0, f1, f2, f3⟩, y0, y1, y2, y3⟩ := Tr.row4d hD.res
      clear hD
      go_wp2_with (first | (refine wpList_load_row rfl 42 _ rfl _ rfl 42 _ (0, 0) _ hv hu rfl (by kernel_rfl) ?_) | fail)
      refine bodyPost_ret (results_cell_row Tryd.results29 _ _ w.heap.size 42 #[.string ⟨#[97]⟩, .slice aa la ca, .slice ak lk ck, .string ⟨#[]⟩] (0, 0) _ rfl (Tr.put4d HD.out.res _ _ _ _) Tryd.underlying42 rfl (by kernel_rfl)) rfl ⟨?_, _, _, rfl, ?_⟩
      · exact (((HD.out.below.setCell (Nat.le_refl _) _).setCell (Nat.le_refl _) _).setCell (Nat.le_refl _) _).setCell (Nat.le_refl _) _
      · have hl := HD.out.lies
        rw [show j - 1 + 1 = j by omega] at hl
        refine hl.keep (fun k hk => Tr.keep4d hk.1 _ _ _ _) fun k hk => ?_
        show k < _
        rw [Tr.size4d]
        exact hk.2.2

end Go.Proofs
