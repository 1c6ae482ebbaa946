/-
  A block's text as plain bytes; the table of names in memory; writeNode of each kind with kids; write of the kinds without.
-/
import Derived.Test.YtimmgchapcbgfaaDoorBlOut
import Derived.Test.YtimmgchapcbgfaaDoorBlWritable
namespace Go.Proofs
open Go.RowKit

/-- The names of kinds. -/
def Bl.nameL (k : Int) : List UInt8 := if k = 3 then [115, 101, 113] else if k = 4 then [112, 97, 114] else if k = 5 then [97, 108, 116] else if k = 6 then [112, 105, 99, 107] else if k = 7 then [108, 111, 111, 112] else if k = 9 then [119, 101, 98] else []
theorem Bl.nameL_le (k : Int) : (Bl.nameL k).length ≤ 4 := by unfold Bl.nameL; (repeat' split) <;> decide
/-- What the table's initialiser lays. -/
def Bk.names : Array Value := #[.string ⟨#[]⟩, .string ⟨#[]⟩, .string ⟨#[]⟩, .string ⟨#[115, 101, 113]⟩, .string ⟨#[112, 97, 114]⟩, .string ⟨#[97, 108, 116]⟩, .string ⟨#[112, 105, 99, 107]⟩, .string ⟨#[108, 111, 111, 112]⟩, .string ⟨#[]⟩, .string ⟨#[119, 101, 98]⟩, .string ⟨#[]⟩]
/-- The table lies in block 0 as its initialiser lays it. -/
def Bk.Names (w : World) : Prop := ∃ t fz, w.heap[0]? = some (.cells Bk.names t fz)
theorem Bk.Names.lt {w : World} (h : Bk.Names w) : 0 < w.heap.size := by
  obtain ⟨t, fz, h⟩ := h
  exact (Array.getElem?_eq_some_iff.1 h).1
theorem Bk.Names.keep {w w' : World} (h : Bk.Names w) (hk : w'.heap[0]? = w.heap[0]?) : Bk.Names w' := by
  obtain ⟨t, fz, h⟩ := h
  exact ⟨t, fz, by rw [hk]; exact h⟩
theorem Bk.Names.below {w w' : World} {B : Nat} (h : Bk.Names w) (hb : Below B w w') (hB : 0 < B) : Bk.Names w' := h.keep (hb.block 0 hB)
theorem Bk.Names.text {w : World} (h : Bk.Names w) (k : Nat) (hk : k ≤ 10) : w.cell? ⟨0, k, none⟩ = some (.string ⟨(Bl.nameL k).toArray⟩) := by
  obtain ⟨t, fz, h⟩ := h
  obtain rfl | rfl | rfl | rfl | rfl | rfl | rfl | rfl | rfl | rfl | rfl : k = 0 ∨ k = 1 ∨ k = 2 ∨ k = 3 ∨ k = 4 ∨ k = 5 ∨ k = 6 ∨ k = 7 ∨ k = 8 ∨ k = 9 ∨ k = 10 := by omega
  all_goals simp only [World.cell?, h]; rfl

mutual
/-- A block's text. -/
def Bl.textL : Bl → List UInt8
  | .mk k n r ks ls => if k = 1 then [45] else if k = 10 then [42] else if k = 8 then 103 :: Lib.itoa n else if k = 2 then Lib.itoa n
    else 40 :: (Bl.nameL k ++ (Bl.nodeL k n r ++ (Bl.textsL ks ++ ((if k = 9 then Bl.linksL ls else []) ++ [41]))))
def Bl.textsL : List Bl → List UInt8
  | [] => []
  | k :: r => 32 :: (Bl.textL k ++ Bl.textsL r)
end
mutual
/-- No text of it is longer. -/
def Bl.room : Bl → Nat | .mk _ _ _ ks ls => 100 + 68 * ls.length + Bl.rooms ks
def Bl.rooms : List Bl → Nat | [] => 0 | k :: r => Bl.room k + Bl.rooms r
end
theorem Bl.room_eq (T : Bl) : T.room = 100 + 68 * T.ls.length + Bl.rooms T.ks := by cases T; rfl
theorem Bl.textL_eq (T : Bl) : T.textL = if T.kind = 1 then [45] else if T.kind = 10 then [42] else if T.kind = 8 then 103 :: Lib.itoa T.node else if T.kind = 2 then Lib.itoa T.node
    else 40 :: (Bl.nameL T.kind ++ (Bl.nodeL T.kind T.node T.arg ++ (Bl.textsL T.ks ++ ((if T.kind = 9 then Bl.linksL T.ls else []) ++ [41])))) := by cases T; rw [Bl.textL]; rfl
theorem Bl.textsL_snoc (l : List Bl) (a : Bl) : Bl.textsL (l ++ [a]) = Bl.textsL l ++ 32 :: a.textL := by
  induction l with
  | nil => simp [Bl.textsL]
  | cons k r ih => simp only [List.cons_append, Bl.textsL, ih, List.append_assoc]
theorem Bl.textsL_take (l : List Bl) (k : Nat) (h : k < l.length) : Bl.textsL (l.take (k + 1)) = Bl.textsL (l.take k) ++ 32 :: l[k].textL := by rw [Bl.take_snoc l k h, Bl.textsL_snoc]
theorem Bl.rooms_snoc (l : List Bl) (a : Bl) : Bl.rooms (l ++ [a]) = Bl.rooms l + a.room := by
  induction l with
  | nil => simp [Bl.rooms]
  | cons k r ih => simp only [List.cons_append, Bl.rooms, ih]; omega
theorem Bl.rooms_le (l : List Bl) : ∀ k, Bl.rooms (l.take k) ≤ Bl.rooms l := by
  induction l with
  | nil => intro k; simp
  | cons x r ih =>
    intro k
    cases k with
    | zero => simp [Bl.rooms]
    | succ k => simp only [List.take_succ_cons, Bl.rooms]; have := ih k; omega
theorem Bl.rooms_take (l : List Bl) (k : Nat) (h : k < l.length) : Bl.rooms (l.take k) + l[k].room ≤ Bl.rooms l := by
  have := Bl.rooms_le l (k + 1)
  rw [Bl.take_snoc l k h, Bl.rooms_snoc] at this
  exact this
/-- What can be written, of numbers that machines have. -/
def Bl.okB (k n r : Int) (ls : List (Int × Int × Int)) : Bool := Bl.writB k n r ls && (decide (n ≤ 9223372036854775807 ∧ r ≤ 9223372036854775807) && ls.all fun x => decide ((-9223372036854775808 ≤ x.1 ∧ x.1 ≤ 9223372036854775807) ∧ (-9223372036854775808 ≤ x.2.1 ∧ x.2.1 ≤ 9223372036854775807) ∧ (-9223372036854775808 ≤ x.2.2 ∧ x.2.2 ≤ 9223372036854775807)))
theorem Bl.okB_iff {k n r : Int} {ls : List (Int × Int × Int)} (h : Bl.okB k n r ls = true) : (1 ≤ k ∧ k ≤ 10) ∧ (0 ≤ n ∧ n ≤ 9223372036854775807) ∧ (0 ≤ r ∧ r ≤ 9223372036854775807) ∧ ∀ x, x ∈ ls → Bl.I64 x.1 ∧ Bl.I64 x.2.1 ∧ Bl.I64 x.2.2 := by
  simp only [Bl.okB, Bl.writB, Bool.and_eq_true, decide_eq_true_eq, List.all_eq_true] at h
  obtain ⟨⟨⟨h1, h2, h3, h4⟩, -⟩, ⟨h5, h6⟩, h7⟩ := h
  exact ⟨⟨h1, h2⟩, ⟨h3, h5⟩, ⟨h4, h6⟩, h7⟩
theorem Bl.linksL_le (ls : List (Int × Int × Int)) (h : ∀ x, x ∈ ls → Bl.I64 x.1 ∧ Bl.I64 x.2.1 ∧ Bl.I64 x.2.2) : (Bl.linksL ls).length ≤ 68 * ls.length := by
  induction ls with
  | nil => simp [Bl.linksL]
  | cons x r ih =>
    have h1 := h x (by simp)
    have h2 := Bl.linkL_len x h1.1 h1.2.1 h1.2.2
    have h3 := ih fun y hy => h y (by simp [hy])
    simp only [Bl.linksL, List.flatMap_cons, List.length_append, List.length_cons] at h3 ⊢
    omega
theorem Bl.nodeL_le (k n r : Int) (h0 : 0 ≤ n ∧ n ≤ 9223372036854775807) (h1 : 0 ≤ r ∧ r ≤ 9223372036854775807) : (Bl.nodeL k n r).length ≤ 44 := by
  have a1 := Lib.itoa_length_le n (by omega) h0.2
  have a2 := Lib.itoa_length_le r (by omega) h1.2
  unfold Bl.nodeL
  (repeat' split) <;> simp <;> omega
mutual
theorem Bl.text_len : ∀ T : Bl, T.allP Bl.okB = true → T.textL.length + 1 ≤ T.room
  | .mk k n r ks ls, h => by
    rw [Bl.allP, Bool.and_eq_true] at h
    obtain ⟨h1, h2, h3, h4⟩ := Bl.okB_iff h.1
    have a1 := Lib.itoa_length_le n (by omega) h2.2
    have a2 := Bl.nodeL_le k n r h2 h3
    have a3 := Bl.nameL_le k
    have a4 := Bl.linksL_le ls h4
    have a5 := Bl.texts_len ks h.2
    rw [Bl.textL, Bl.room]
    (repeat' split) <;> simp <;> omega
theorem Bl.texts_len : ∀ l : List Bl, Bl.allPs Bl.okB l = true → (Bl.textsL l).length ≤ Bl.rooms l
  | [], _ => by simp [Bl.textsL]
  | k :: r, h => by
    rw [Bl.allPs, Bool.and_eq_true] at h
    have a1 := Bl.text_len k h.1
    have a2 := Bl.texts_len r h.2
    simp only [Bl.textsL, Bl.rooms, List.length_cons, List.length_append]
    omega
end
theorem Bl.allPs_takes (l : List Bl) (h : Bl.allPs Bl.okB l = true) : ∀ k, Bl.allPs Bl.okB (l.take k) = true := by
  induction l with
  | nil => intro k; simp [Bl.allPs]
  | cons x r ih =>
    intro k
    rw [Bl.allPs, Bool.and_eq_true] at h
    cases k with
    | zero => simp [Bl.allPs]
    | succ k => rw [List.take_succ_cons, Bl.allPs, Bool.and_eq_true]; exact ⟨h.1, ih h.2 k⟩

/-- writeNode of each kind with kids. -/
theorem Tryd.writeNode_all (k n r : Int) (hk : k = 3 ∨ k = 4 ∨ k = 5 ∨ k = 6 ∨ k = 7 ∨ k = 9) (h0 : 0 ≤ n ∧ n ≤ 9223372036854775807) (h1 : 0 ≤ r ∧ r ≤ 9223372036854775807) (a : Option Addr) (len c : Nat) (al : Option Addr) (nl cl : Nat) (B : Nat) (out : List UInt8) (sv : Value) (w W : World) (hB : B ≤ w.heap.size)
    (hT : Lib.TabBelow Tryd.prog B w "internal/strconv.uint64pow10" .u64 Lib.pow10Tab) (hX : Bk.Out B out sv w W) (hlen : out.length ≤ 800000000) :
    Calls Tryd.prog 28 #[sv, .agg #[.int .i64 k, .int .i64 n, .int .i64 r, .slice a len c, .slice al nl cl]] W fun e w' => ∃ a' m' c', e = .returned (.slice a' m' c') ∧ Hid (m' = (out ++ Bl.nodeL k n r).length ∧ Bk.Out B (out ++ Bl.nodeL k n r) (.slice a' m' c') w w' ∧ Lib.OthersKept 5 none W w') := by
  have hBW := hX.size hB
  have a1 := Lib.itoa_length_le n (by omega) h0.2
  by_cases h4 : k = 4 ∨ k = 5 ∨ k = 6
  · refine (Tryd.writeNode_one k n r h4 h0.1 h0.2 a len c al nl cl B out sv W hBW (hT.on hX.below) hX.own (by omega)).mono ?_
    rintro e w' ⟨v', he, q, b, o⟩
    have en : Bl.nodeL k n r = 58 :: Lib.itoa n := by unfold Bl.nodeL; rw [if_pos h4]
    rw [en]
    obtain ⟨a', c', rfl⟩ := Tk.own_shape q
    exact ⟨a', _, c', he, rfl, ⟨q, hX.below.trans b, hX.kept.trans o⟩, o⟩
  · by_cases h7 : k = 7
    · subst h7
      refine (Tryd.writeNode_two n r h0.1 h0.2 h1.1 h1.2 a len c al nl cl B out sv W hBW (hT.on hX.below) hX.own (by simp; omega)).mono ?_
      rintro e w' ⟨v', he, q, b, o⟩
      have en : out ++ Bl.nodeL 7 n r = (out ++ 58 :: Lib.itoa n) ++ 47 :: Lib.itoa r := by unfold Bl.nodeL; rw [if_neg h4, if_pos rfl]; simp
      rw [en]
      obtain ⟨a', c', rfl⟩ := Tk.own_shape q
      exact ⟨a', _, c', he, rfl, ⟨q, hX.below.trans b, hX.kept.trans o⟩, o⟩
    · have en : Bl.nodeL k n r = [] := by unfold Bl.nodeL; rw [if_neg h4, if_neg h7]
      rw [en, List.append_nil]
      obtain ⟨sa, sc, rfl⟩ := Tk.own_shape hX.own
      refine (Tryd.writeNode_none k n r (by omega) a len c al nl cl sa out.length sc W).mono ?_
      rintro e w' ⟨he, hw⟩
      have hw' : w' = _ := hw
      subst hw'
      exact ⟨sa, _, sc, he, rfl, hX.alloc hB _, (Lib.OthersKept.refl _ _ W).alloc _⟩

end Go.Proofs
