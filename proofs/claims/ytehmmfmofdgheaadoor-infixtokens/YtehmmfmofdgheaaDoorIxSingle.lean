/-
  infix: what the reader's functions answer; the contract of single, out of row's.
-/
import Derived.Test.YtehmmfmofdgheaaDoorAllIxRev
import Derived.Test.YtehmmfmofdgheaaDoorNtTake
namespace Go.Proofs
open Go.RowKit

/-- The tables, below B. -/
structure Ix.Env (B : Nat) (w : World) : Prop where
  tabs : Ix.Tabs w
  ops : Tk.Ops w
  b1 : 2 < B
  b2 : 0 < B
  b3 : 1 < B
theorem Ix.Env.but {B b : Nat} {w w' : World} (h : Ix.Env B w) (hb : Tk.But (fun k => k = b) w w') (hB : B ≤ b) : Ix.Env B w' := by
  obtain ⟨⟨⟨t, fz, h1⟩, t', fz', h2⟩, ⟨t3, fz3, h3⟩, h4, h5, h6⟩ := h
  exact ⟨⟨⟨t, fz, (hb.block _ (Array.getElem?_eq_some_iff.1 h1).1 (by omega)).trans h1⟩, t', fz', (hb.block _ (Array.getElem?_eq_some_iff.1 h2).1 (by omega)).trans h2⟩,
    ⟨t3, fz3, (hb.block _ (Array.getElem?_eq_some_iff.1 h3).1 (by omega)).trans h3⟩, h4, h5, h6⟩
theorem Ix.Env.below {B : Nat} {w w' : World} (h : Ix.Env B w) (hb : Below w.heap.size w w') : Ix.Env B w' := by
  obtain ⟨⟨⟨t, fz, h1⟩, t', fz', h2⟩, ⟨t3, fz3, h3⟩, h4, h5, h6⟩ := h
  exact ⟨⟨⟨t, fz, (hb.block _ (Array.getElem?_eq_some_iff.1 h1).1).trans h1⟩, t', fz', (hb.block _ (Array.getElem?_eq_some_iff.1 h2).1).trans h2⟩,
    ⟨t3, fz3, (hb.block _ (Array.getElem?_eq_some_iff.1 h3).1).trans h3⟩, h4, h5, h6⟩
theorem Ix.At.but {B b : Nat} {l : List Ix.Tok} {w w' : World} (h : Ix.At B b l w) (hb : Below w.heap.size w w') : Ix.At B b l w' := h.below hb

def Ix.okB : Ix.Res → Bool | .ok _ => true | .error _ => false
/-- What is left, and the term. -/
def Ix.Left (B b : Nat) (l : List Ix.Tok) (w : World) (op n : Int) (v : Value) (w' : World) : Ix.Res → Prop
  | .error r => ∃ k, k ≤ l.length ∧ r = (l.drop k).map Ix.kt ∧ Ix.At B b (l.drop k) w'
  | .ok (T, r) => ∃ k, k ≤ l.length ∧ r = (l.drop k).map Ix.kt ∧ Ix.At B b (l.drop k) w' ∧ op = T.op ∧ n = T.num ∧ ∃ d, Tm.LiesIn w' w.heap.size w'.heap.size d v T
/-- What row and the others answer. -/
def Ix.Told (B b : Nat) (l : List Ix.Tok) (res : Ix.Res) (w : World) (e : Ending) (w' : World) : Prop :=
  ∃ (op n : Int) (a : Option Addr) (len cap : Nat), e = .returned (.tuple #[.agg #[.int .i64 op, .int .i64 n, .slice a len cap], .bool (Ix.okB res)]) ∧ Tk.But (fun k => k = b) w w' ∧ Ix.Left B b l w op n (.slice a len cap) w' res
/-- Numbers and variables are some. -/
def Ix.Good (l : List Ix.Tok) : Prop := ∀ x ∈ l, x.kind = 1 ∨ x.kind = 2 → ∃ T, Tk.parseR x.text = .ok T
theorem Ix.Good.drop {l : List Ix.Tok} (h : Ix.Good l) (k : Nat) : Ix.Good (l.drop k) := fun x hx => h x (List.mem_of_mem_drop hx)
def Ix.RowC (n : Nat) : Prop := ∀ (B b r : Nat) (l : List Ix.Tok) (w : World), Ix.At B b l w → Ix.Env B w → Ix.Good l → 1 ≤ r → r ≤ 8 → 9 * l.length + 9 - r < n →
  Calls Tryd.prog 24 #[.pointer (some ⟨b, 0, none⟩), .int .i64 r] w fun e w' => Ix.Told B b l (Ix.row n r (l.map Ix.kt)) w e w'
theorem Ix.Left.later {B b : Nat} {l : List Ix.Tok} {w w' w'' : World} {op n : Int} {v : Value} {res : Ix.Res} (h : Ix.Left B b l w op n v w' res) (hb : Below w'.heap.size w' w'') : Ix.Left B b l w op n v w'' res := by
  cases res with
  | error r =>
    obtain ⟨k, h1, h2, h3⟩ := h
    exact ⟨k, h1, h2, h3.below hb⟩
  | ok p =>
    obtain ⟨T, r⟩ := p
    obtain ⟨k, h1, h2, h3, h4, h5, d, h6⟩ := h
    exact ⟨k, h1, h2, h3.below hb, h4, h5, d, (h6.keep fun q _ hq => hb.block q hq).wider (Nat.le_refl _) hb.size⟩

/-- A reader with a token left, told by its cells. -/
structure Ix.AtC (B b : Nat) (x : Ix.Tok) (l : List Ix.Tok) (g off cap : Nat) (w : World) : Prop where
  hc : w.heap[b]? = some (.cells #[.slice (some ⟨g, off, none⟩) (l.length + 1) cap] 63 (0, 0))
  h1 : l.length + 1 ≤ cap
  h2 : cap ≤ 9223372036854775807
  h3 : l.length + 1 ≤ 2000
  h4 : B ≤ b
  h5 : g < B
  hr : ∀ j (h : j < (x :: l).length), w.cell? ⟨g, off + j * 3, none⟩ = some (.int .i64 (x :: l)[j].kind) ∧ w.cell? ⟨g, off + j * 3 + 1, none⟩ = some (.int .i64 ((x :: l)[j].at_ : Nat)) ∧ w.cell? ⟨g, off + j * 3 + 2, none⟩ = some (.string ⟨(x :: l)[j].text.toArray⟩)
theorem Ix.At.cons {B b : Nat} {x : Ix.Tok} {l : List Ix.Tok} {w : World} (h : Ix.At B b (x :: l) w) : ∃ g off cap, Ix.AtC B b x l g off cap w := by
  obtain ⟨a, cap, h1, h2, h3, h4, h5, h6⟩ := h
  obtain ⟨g, off, rfl, hg, hr⟩ := h6.resolve_left (List.cons_ne_nil _ _)
  exact ⟨g, off, cap, h1, h2, h3, h4, h5, hg, hr⟩
theorem Ix.AtC.below {B b : Nat} {x : Ix.Tok} {l : List Ix.Tok} {g off cap : Nat} {w w' : World} (h : Ix.AtC B b x l g off cap w) (hb : Below w.heap.size w w') : Ix.AtC B b x l g off cap w' := by
  have hlt := (Array.getElem?_eq_some_iff.1 h.hc).1
  have hgb : w'.heap[g]? = w.heap[g]? := hb.block g (by have := h.h4; have := h.h5; omega)
  refine ⟨(hb.block b hlt).trans h.hc, h.h1, h.h2, h.h3, h.h4, h.h5, fun j hj => ?_⟩
  have hc : ∀ o, w'.cell? ⟨g, o, none⟩ = w.cell? ⟨g, o, none⟩ := fun o => World.cell?_of_block (w := w) hgb
  rw [hc, hc, hc]
  exact h.hr j hj
theorem Ix.AtC.tail {B b : Nat} {x : Ix.Tok} {l : List Ix.Tok} {g off cap : Nat} {w : World} (h : Ix.AtC B b x l g off cap w) {a : Option Addr} {c' : Nat} (hc1 : l.length ≤ c') (hc2 : c' ≤ cap) (ha : l = [] ∨ a = some ⟨g, off + 3, none⟩) : Ix.At B b l (w.setCell ⟨b, 0, none⟩ (.slice a l.length c')) :=
  Ix.At.tail (x := x) h.hc h.h1 h.h2 h.h3 h.h4 h.h5 h.hr hc1 hc2 ha
theorem Ix.AtC.c0 {B b : Nat} {x : Ix.Tok} {l : List Ix.Tok} {g off cap : Nat} {w : World} (h : Ix.AtC B b x l g off cap w) : w.cell? ⟨b, 0, none⟩ = some (.slice (some ⟨g, off, none⟩) (l.length + 1) cap) ∧ w.frozen? ⟨b, 0, none⟩ = false := by
  have := h.hc
  simp [World.cell?, World.frozen?, this]
theorem Ix.AtC.r {B b : Nat} {x : Ix.Tok} {l : List Ix.Tok} {g off cap : Nat} {w : World} (h : Ix.AtC B b x l g off cap w) : w.cell? ⟨g, off, none⟩ = some (.int .i64 x.kind) ∧ w.cell? ⟨g, off + 1, none⟩ = some (.int .i64 (x.at_ : Nat)) ∧ w.cell? ⟨g, off + 2, none⟩ = some (.string ⟨x.text.toArray⟩) := by
  have := h.hr 0 (by simp)
  simpa using this

/-- One taken off: what stands then. -/
structure Ix.Took (B b : Nat) (l : List Ix.Tok) (w w' : World) : Prop where
  at_ : Ix.At B b l w'
  other : ∀ k, k ≠ b → w'.heap[k]? = w.heap[k]?
  but : Tk.But (fun k => k = b) w w'
  size : w'.heap.size = w.heap.size
theorem Ix.AtC.took {B b : Nat} {x : Ix.Tok} {l : List Ix.Tok} {g off cap : Nat} {w w' : World} {m : Nat} (h : Ix.AtC B b x l g off cap w) (hm : l.length = m) (hw : w.setCell ⟨b, 0, none⟩ (.slice (if cap = 1 then some ⟨g, off, none⟩ else some ⟨g, off + 3, none⟩) m (cap - 1)) = w') : Ix.Took B b l w w' := by
  subst hm hw
  have h1 := h.h1
  refine ⟨h.tail (by omega) (by omega) ?_, fun k hk => Below.heap_setCell _ _ _ _ hk, (Tk.But.refl _ w).setCell (E := fun k => k = b) (p := ⟨b, 0, none⟩) rfl _, by simp [World.setCell]⟩
  by_cases hc : cap = 1
  · exact .inl (List.length_eq_zero_iff.1 (by omega))
  · exact .inr (if_neg hc)

/-- Behind an open bracket. -/
def Ix.shutR : Ix.Res → Ix.Res
  | .error r => .error r
  | .ok (_, []) => .error []
  | .ok (T, k2 :: l3) => if k2.2 = [41] then .ok (T, l3) else .error (k2 :: l3)
theorem Ix.single_open (f : List Ix.K → Ix.Res) (k : Ix.K) (l : List Ix.K) (h : ¬ (k.1 = 1 ∨ k.1 = 2)) : Ix.single f (k :: l) = if k.2 = [40] then Ix.shutR (f l) else .error (k :: l) := by
  simp only [Ix.single]
  rw [if_neg h]
  by_cases h2 : k.2 = [40]
  · rw [if_pos h2, if_pos h2]
    cases f l with
    | error r => rfl
    | ok p =>
      obtain ⟨T, l2⟩ := p
      cases l2 <;> rfl
  · rw [if_neg h2, if_neg h2]

theorem Ix.step_row {P : Program} {ops : Array Oper} {o : Oper} {a : Act} {w : World} {K : Act → World → Prop} {Q : Exit → Act → World → Prop} {E : Prop} (hg : o.guard = none) (ty : TypeId) (x y : Operand) (hop : o.op = .store ty x y) (g : Nat) (cells : Array Value) (hx : a.eval x = .pointer (some ⟨g, 0, none⟩)) (hy : a.eval y = .agg cells)
    (t : TypeId) (old : Array Value) (hgb : w.heap[g]? = some (.cells old t (0, 0))) (hi : (P.info? ty).map (·.size) = some cells.size) (hold : old.size = cells.size) (h1 : cells.all (·.oneCell') = true) (hK : K (a.put o.dst undef) (w.setRow g cells)) :
    if Region.wanted o (yielded ops a.tmps) = true then Oper.wp P o a w K Q else E := by
  rw [if_pos (by simp [Region.wanted, hg])]
  exact wp_store_row ty x y hop g cells hx hy t old hgb hi hold h1 hK
theorem Ix.row_at {B b q : Nat} {l : List Ix.Tok} {w : World} {cs : Array Value} (h : Ix.At B b l w) (hq : b < q) : Ix.At B b l (w.setRow q cs).drew :=
  h.keep (w' := (w.setRow q cs).drew) (fun j hj => by have := h.base; exact Ix.setRow_other (by omega) cs) (Ix.setRow_other (by omega) cs)
theorem Ix.row_at' {B b q : Nat} {l : List Ix.Tok} {w : World} {cs : Array Value} (h : Ix.At B b l w) (hq : b < q) : Ix.At B b l (w.setRow q cs) :=
  h.keep (fun j hj => by have := h.base; exact Ix.setRow_other (by omega) cs) (Ix.setRow_other (by omega) cs)
theorem Ix.skip_drop (l : List Ix.Tok) (k : Nat) {z : Bool} {p : List UInt8} (h : Ix.headB (l.drop k) p = z) : Ix.skipL (l.drop k) p = if z = true then l.drop (k + 1) else l.drop k := by
  unfold Ix.skipL
  rw [h, List.drop_drop]
theorem Ix.head_some (l : List Ix.Tok) (k : Nat) {p : List UInt8} (h : Ix.headB (l.drop k) p = true) : k + 1 ≤ l.length := by
  by_cases hk : k < l.length
  · omega
  · rw [List.drop_of_length_le (by omega)] at h; cases h
theorem Ix.shut_drop (T : Tm) (l : List Ix.Tok) (k : Nat) {z : Bool} (h : Ix.headB (l.drop k) [41] = z) : Ix.shutR (.ok (T, (l.drop k).map Ix.kt)) = if z = true then .ok (T, (l.drop (k + 1)).map Ix.kt) else .error ((l.drop k).map Ix.kt) := by
  subst h
  rw [show l.drop (k + 1) = (l.drop k).drop 1 by rw [List.drop_drop]]
  cases l.drop k with
  | nil => rfl
  | cons x r =>
    simp only [List.map_cons, Ix.shutR, Ix.headB, Ix.kt, beq_iff_eq, List.drop_one, List.tail_cons]

theorem Ix.set1_at {B b : Nat} {l : List Ix.Tok} {w : World} (q : Nat) (v : Value) (k : Nat) (h : Ix.At B b l w) (hq : b < q) : Ix.At B b l (w.setCell ⟨q, k, none⟩ v) :=
  h.keep (fun j hj => Below.heap_setCell _ _ _ _ (by have := h.base; simp; omega)) (Below.heap_setCell _ _ _ _ (by simp; omega))
theorem Ix.set3_at {B b : Nat} {l : List Ix.Tok} {w : World} (q : Nat) (x y z : Value) (h : Ix.At B b l w) (hq : b < q) : Ix.At B b l (((w.setCell ⟨q, 0, none⟩ x).setCell ⟨q, 1, none⟩ y).setCell ⟨q, 2, none⟩ z) :=
  Ix.set1_at q z 2 (Ix.set1_at q y 1 (Ix.set1_at q x 0 h hq) hq) hq
/-- What is left, when a result's cell below is written. -/
theorem Ix.left_set {B b q : Nat} {l : List Ix.Tok} {v w w' : World} {op n : Int} {u x y z : Value} {res : Ix.Res} (h : Ix.Left B b l v op n u w' res) (hb : b < q) (hq : q < v.heap.size) (hw : w.heap.size ≤ v.heap.size := by omega) : Ix.Left B b l w op n u (((w'.setCell ⟨q, 0, none⟩ x).setCell ⟨q, 1, none⟩ y).setCell ⟨q, 2, none⟩ z) res := by
  cases res with
  | error r =>
    obtain ⟨k, h1, h2, h3⟩ := h
    exact ⟨k, h1, h2, Ix.set3_at _ _ _ _ h3 hb⟩
  | ok p =>
    obtain ⟨T, r⟩ := p
    obtain ⟨k, h1, h2, h3, h4, h5, d, h6⟩ := h
    exact ⟨k, h1, h2, Ix.set3_at _ _ _ _ h3 hb, h4, h5, d, (h6.keep fun j hj _ => Ix.set3_other w' q (by omega)).wider hw (by simp [World.setCell])⟩

theorem Ix.drop_some (l : List Ix.Tok) (k : Nat) : (l.drop k).map Ix.kt = (l.map Ix.kt).drop k := by rw [List.map_drop]
set_option maxHeartbeats 8000000 in
set_option maxRecDepth 20000 in
theorem Tryd.single_of (n : Nat) (hC : Ix.RowC n) (B b : Nat) (l : List Ix.Tok) (w : World) (h : Ix.At B b l w) (hE : Ix.Env B w) (hG : Ix.Good l) (hn : 9 * l.length + 1 < n + 1) :
    Calls Tryd.prog 38 #[.pointer (some ⟨b, 0, none⟩)] w fun e w' => Ix.Told B b l (Ix.single (Ix.row n 1) (l.map Ix.kt)) w e w' := by
  obtain ⟨w0, hw0⟩ : ∃ x, w.alloc (.cells #[.int .i64 0, .int .i64 0, .slice none 0 0] 37) = x := ⟨_, rfl⟩
  have HW0 : Hid (w.alloc (.cells #[.int .i64 0, .int .i64 0, .slice none 0 0] 37) = w0) := hw0
  have HB0 : Hid (Below w.heap.size w w0) := by rw [← hw0]; exact (Below.refl _ w).alloc (Nat.le_refl _) _
  have HS0 : Hid (w0.heap.size = w.heap.size + 1) := by show _ = _; rw [← hw0]; simp
  have HN0 : Hid (w0.heap[w.heap.size]? = some (.cells #[.int .i64 0, .int .i64 0, .slice none 0 0] 37 (0, 0))) := by rw [← hw0]; exact heap_alloc_new w _
  have HA0 : Hid (Ix.At B b l w0) := h.below HB0.out
  have HE0 : Hid (Ix.Env B w0) := hE.below HB0.out
  have HLT : Hid (b < w.heap.size ∧ B ≤ b) := ⟨h.lt, h.base⟩
  clear hw0
  cases l with
  | nil =>
    obtain ⟨a, cap, hc0, _⟩ := HA0.out
    have c0 : w0.cell? ⟨b, 0, none⟩ = some (.slice a 0 cap) := by simp [World.cell?, hc0]
    clear hc0
    have H1 : Hid (Calls Tryd.prog 60 #[.pointer (some ⟨b, 0, none⟩), .string ⟨#[40]⟩] w0 fun e w' => e = .returned (.bool false) ∧ Ix.At B b [] w' ∧ Tk.But (fun k => k = b) w0 w') := Tryd.iskip_any B b [] ⟨#[40]⟩ w0 HA0.out
    clear h hG hn hC
    go_enter Tryd.func38, Tryd.ntmps38
    go_upto_region 1 with fail
    rw [HW0.out]
    go_wp2_with fail
    refine Calls.mono H1.out ?_
    rintro e W1 ⟨rfl, A1, b1⟩
    have HA1 : Hid (Ix.At B b [] W1 ∧ Tk.But (fun k => k = b) w0 W1) := ⟨A1, b1⟩
    have N1 : Hid (W1.heap[w.heap.size]? = some (.cells #[.int .i64 0, .int .i64 0, .slice none 0 0] 37 (0, 0))) := (b1.block _ (by rw [HS0.out]; omega) (by have := HLT.out.1; omega)).trans HN0.out
    obtain ⟨⟨z0, z1, z2⟩, y0, y1, y2⟩ := Tk.row3 N1.out
    clear A1 b1
    go_wp2
    refine bodyPost_ret (Tk.results_term Tryd.results38 _ _ w.heap.size _ _ _ rfl (Tk.put3 N1.out)) rfl ?_
    refine ⟨0, 0, none, 0, 0, rfl, Ix.but3 ((Tk.But.of_below HB0.out).trans HA1.out.2) _ (Nat.le_refl _) _ _ _, 0, by simp, rfl, Ix.set3_at _ _ _ _ HA1.out.1 HLT.out.1⟩
  | cons x l =>
    obtain ⟨g, off, cap, hAC⟩ := HA0.out.cons
    have HAC : Hid (Ix.AtC B b x l g off cap w0) := hAC
    obtain ⟨c0, f0⟩ := hAC.c0
    obtain ⟨r0, r1, r2⟩ := hAC.r
    have hcap1 := hAC.h1
    have hcap2 := hAC.h2
    have hcap3 := hAC.h3
    obtain ⟨m, hm⟩ : ∃ n, l.length = n := ⟨_, rfl⟩
    have HM : Hid (l.length = m) := hm
    rw [hm] at c0 hcap1 hcap3
    obtain ⟨kd, tx0⟩ : ∃ k, x.kind = k := ⟨_, rfl⟩
    have HKD : Hid (x.kind = kd) := tx0
    rw [tx0] at r0
    clear hAC hm tx0
    by_cases hk : kd = 1 ∨ kd = 2
    · obtain ⟨T, hT⟩ := hG x (by simp) (by rw [HKD.out]; exact hk)
      have hTl := Ix.leaf_len hT
      have h1 := Tryd.parse_any x.text w0 HE0.out.ops (by omega)
      rw [hT] at h1
      have HRS : Hid (Ix.single (Ix.row n 1) ((x :: l).map Ix.kt) = .ok (T, l.map Ix.kt)) := by
        show _ = _
        simp only [List.map_cons, Ix.single, Ix.kt]
        rw [if_pos (by rw [HKD.out]; exact hk), hT]
      obtain ⟨ts, hts⟩ : ∃ s : ByteArray, s = ⟨x.text.toArray⟩ := ⟨_, rfl⟩
      rw [← hts] at r2 h1
      have H1 : Hid (Calls Tryd.prog 58 #[.string ts] w0 fun e w' => Tk.Parsed (.ok T) w0 e w') := h1
      have hkc : ((kd == 1) = true) ∨ ((kd == 1) = false ∧ (kd == 2) = true) := by
        rcases hk with rfl | rfl
        · exact .inl rfl
        · exact .inr ⟨rfl, rfl⟩
      have HRW : Hid (Ix.Told B b (x :: l) (.ok (T, l.map Ix.kt)) w = fun e w' => Ix.Told B b (x :: l) (Ix.single (Ix.row n 1) ((x :: l).map Ix.kt)) w e w') := by show _ = _; rw [HRS.out]
      rw [HRS.out]
      clear hT hTl hts h hG hn hC h1 hk HRW
      rcases hkc with e1 | ⟨e1, e2⟩
      all_goals
        go_enter Tryd.func38, Tryd.ntmps38
        go_upto_region 1 with fail
        rw [HW0.out]
        go_wp2_with fail
        refine Calls.mono H1.out ?_
        rintro e W1 ⟨op1, n1, a1, len1, cap1, err1, rfl, b1, rfl, rfl, rfl, hli⟩
        obtain ⟨o1, ho1⟩ : ∃ z, T.op = z := ⟨_, rfl⟩
        obtain ⟨m1, hm1⟩ : ∃ z, T.num = z := ⟨_, rfl⟩
        rw [ho1, hm1]
        have HO : Hid (T.op = o1 ∧ T.num = m1) := ⟨ho1, hm1⟩
        have HLI : Hid (Tm.LiesIn W1 w0.heap.size W1.heap.size 24 (.slice a1 len1 cap1) T) := hli
        obtain ⟨W2, hW2⟩ : ∃ z, W1.alloc (.cells #[.int .i64 o1, .int .i64 m1, .slice a1 len1 cap1] 37) = z := ⟨_, rfl⟩
        have B2 : Hid (Below w0.heap.size w0 W2) := by rw [← hW2]; exact b1.alloc b1.size _
        have S2 : Hid (W2.heap.size = W1.heap.size + 1 ∧ w0.heap.size ≤ W1.heap.size) := ⟨by rw [← hW2]; simp, b1.size⟩
        have D2 : Hid (W2.heap[W1.heap.size]? = some (.cells #[.int .i64 o1, .int .i64 m1, .slice a1 len1 cap1] 37 (0, 0))) := by rw [← hW2]; exact heap_alloc_new W1 _
        have L2 : Hid (Tm.LiesIn W2 w0.heap.size W1.heap.size 24 (.slice a1 len1 cap1) T) := by rw [← hW2]; exact HLI.out.keep fun k _ hk => Below.heap_alloc _ _ _ hk
        have AC2 : Hid (Ix.AtC B b x l g off cap W2) := HAC.out.below B2.out
        have HW2 : Hid (W1.alloc (.cells #[.int .i64 o1, .int .i64 m1, .slice a1 len1 cap1] 37) = W2) := hW2
        obtain ⟨q0, q1⟩ := AC2.out.c0
        rw [HM.out] at q0
        clear b1 hli hW2 ho1 hm1
        go_upto_region 3 with fail
        rw [HW2.out]
        go_upto_region 4 with fail
        obtain ⟨W3, hW3⟩ : ∃ z, W2.setCell ⟨b, 0, none⟩ (.slice (if cap = 1 then some ⟨g, off, none⟩ else some ⟨g, off + 3, none⟩) m (cap - 1)) = z := ⟨_, rfl⟩
        rw [hW3]
        have K3 : Hid (Ix.Took B b l W2 W3) := Ix.AtC.took AC2.out HM.out hW3
        have hb1 := HLT.out.1
        have hs0 := HS0.out
        have hs2 := S2.out
        have D3 : Hid (W3.heap[W1.heap.size]? = some (.cells #[.int .i64 o1, .int .i64 m1, .slice a1 len1 cap1] 37 (0, 0))) := (K3.out.other _ (by omega)).trans D2.out
        have N3 : Hid (W3.heap[w.heap.size]? = some (.cells #[.int .i64 0, .int .i64 0, .slice none 0 0] 37 (0, 0))) := (K3.out.other _ (by omega)).trans ((B2.out.block _ (by omega)).trans HN0.out)
        have L3 : Hid (Tm.LiesIn W3 w0.heap.size W1.heap.size 24 (.slice a1 len1 cap1) T) := L2.out.keep fun k hk _ => K3.out.other k (by omega)
        have BT : Hid (Tk.But (fun k => k = b) w W3) := (Tk.But.of_below (HB0.out.trans (B2.out.mono HB0.out.size))).trans K3.out.but
        obtain ⟨⟨z0, z1, z2⟩, -⟩ := Tk.row3 D3.out
        obtain ⟨⟨x0, x1, x2⟩, y0, y1, y2⟩ := Tk.row3 N3.out
        clear hW3 q0 q1 c0 f0 r0 r1 r2
        go_wp2
        all_goals
          refine bodyPost_ret (Tk.results_term Tryd.results38 _ _ w.heap.size _ _ _ rfl (Tk.put3 N3.out)) rfl ?_
          refine ⟨o1, m1, a1, len1, cap1, rfl, Ix.but3 BT.out _ (Nat.le_refl _) _ _ _, 1, by simp, by simp, Ix.set3_at _ _ _ _ K3.out.at_ hb1, HO.out.1.symm, HO.out.2.symm, 24, ?_⟩
          exact (L3.out.keep fun k hk _ => Ix.set3_other W3 w.heap.size (by omega)).wider (by omega) (by have := K3.out.size; simp [World.setCell]; omega)
    · have hkc1 : (kd == 1) = false := by rw [beq_eq_false_iff_ne]; omega
      have hkc2 : (kd == 2) = false := by rw [beq_eq_false_iff_ne]; omega
      obtain ⟨hb, hhb⟩ : ∃ z, Ix.headB (x :: l) [40] = z := ⟨_, rfl⟩
      have h1 := Tryd.iskip_any B b (x :: l) ⟨#[40]⟩ w0 HA0.out
      rw [show (⟨#[40]⟩ : ByteArray).data.toList = [40] from rfl, hhb] at h1
      have H1 : Hid (Calls Tryd.prog 60 #[.pointer (some ⟨b, 0, none⟩), .string ⟨#[40]⟩] w0 fun e w' => e = .returned (.bool hb) ∧ Ix.At B b (if hb = true then l else x :: l) w' ∧ Tk.But (fun k => k = b) w0 w') := by
        refine h1.mono fun e w' ⟨q1, q2, q3⟩ => ⟨q1, ?_, q3⟩
        unfold Ix.skipL at q2
        rw [hhb] at q2
        exact q2
      have HRS : Hid (Ix.single (Ix.row n 1) ((x :: l).map Ix.kt) = if hb = true then Ix.shutR (Ix.row n 1 (l.map Ix.kt)) else .error (Ix.kt x :: l.map Ix.kt)) := by
        show _ = _
        rw [List.map_cons, Ix.single_open _ _ _ (by show ¬ (x.kind = 1 ∨ x.kind = 2); rw [HKD.out]; exact hk)]
        have e : (Ix.kt x).2 = [40] ↔ hb = true := by rw [← hhb]; simp [Ix.headB, Ix.kt]
        simp only [e]
      have HC : Hid (hb = true → ∀ W, Ix.At B b l W → Ix.Env B W → Calls Tryd.prog 24 #[.pointer (some ⟨b, 0, none⟩), .int .i64 1] W fun e w' => Ix.Told B b l (Ix.row n 1 (l.map Ix.kt)) W e w') := fun _ W hA hEW => hC B b 1 l W hA hEW (hG.drop 1) (by omega) (by omega) (by simp only [List.length_cons] at hn; omega)
      have hmm : decide (0 < m + 1) = true := by simp
      clear h1 hhb h hE hG hn hC hk
      obtain ⟨rs, hrs⟩ : ∃ z, Ix.single (Ix.row n 1) ((x :: l).map Ix.kt) = z := ⟨_, rfl⟩
      rw [hrs] at HRS ⊢
      clear hrs
      go_enter Tryd.func38, Tryd.ntmps38
      go_upto_region 1 with fail
      rw [HW0.out]
      go_wp2_with fail
      refine Calls.mono H1.out ?_
      rintro e W1 ⟨rfl, A1, b1⟩
      have HA1 : Hid (Ix.At B b (if hb = true then l else x :: l) W1 ∧ Tk.But (fun k => k = b) w0 W1) := ⟨A1, b1⟩
      have N1 : Hid (W1.heap[w.heap.size]? = some (.cells #[.int .i64 0, .int .i64 0, .slice none 0 0] 37 (0, 0))) := (b1.block _ (by rw [HS0.out]; omega) (by have := HLT.out.1; omega)).trans HN0.out
      have BT1 : Hid (Tk.But (fun k => k = b) w W1) := (Tk.But.of_below HB0.out).trans b1
      have HE1 : Hid (Ix.Env B W1) := HE0.out.but b1 HLT.out.2
      clear A1 b1 c0 f0 r0 r1 r2 H1
      cases hb with
      | false =>
        obtain ⟨⟨z0, z1, z2⟩, y0, y1, y2⟩ := Tk.row3 N1.out
        have HR2 : Hid (rs = .error (Ix.kt x :: l.map Ix.kt)) := HRS.out
        go_wp2
        refine bodyPost_ret (Tk.results_term Tryd.results38 _ _ w.heap.size _ _ _ rfl (Tk.put3 N1.out)) rfl ?_
        rw [HR2.out]
        exact ⟨0, 0, none, 0, 0, rfl, Ix.but3 BT1.out _ (Nat.le_refl _) _ _ _, 0, by simp, rfl, Ix.set3_at _ _ _ _ HA1.out.1 HLT.out.1⟩
      | true =>
        have HR2 : Hid (rs = Ix.shutR (Ix.row n 1 (l.map Ix.kt))) := HRS.out
        have HC1 : Hid _ := HC.out rfl W1 HA1.out.1 HE1.out
        obtain ⟨r1, hr1⟩ : ∃ z, Ix.row n 1 (l.map Ix.kt) = z := ⟨_, rfl⟩
        rw [hr1] at HR2 HC1
        clear hr1 HRS HC
        go_wp2_with fail
        refine Calls.mono HC1.out ?_
        rintro e W2 ⟨o2, m2, a2, len2, cap2, rfl, b2, hl2⟩
        have HL2 : Hid (Ix.Left B b l W1 o2 m2 (.slice a2 len2 cap2) W2 r1) := hl2
        have hs1 := BT1.out.size
        have N2 : Hid (W2.heap[w.heap.size]? = some (.cells #[.int .i64 0, .int .i64 0, .slice none 0 0] 37 (0, 0))) := (b2.block _ (Array.getElem?_eq_some_iff.1 N1.out).1 (by have := HLT.out.1; omega)).trans N1.out
        have BT2 : Hid (Tk.But (fun k => k = b) w W2) := BT1.out.trans b2
        obtain ⟨W3, hW3⟩ : ∃ z, W2.alloc (.cells #[.int .i64 o2, .int .i64 m2, .slice a2 len2 cap2] 37) = z := ⟨_, rfl⟩
        have B3 : Hid (Below W2.heap.size W2 W3) := by rw [← hW3]; exact (Below.refl _ W2).alloc (Nat.le_refl _) _
        have D3 : Hid (W3.heap[W2.heap.size]? = some (.cells #[.int .i64 o2, .int .i64 m2, .slice a2 len2 cap2] 37 (0, 0))) := by rw [← hW3]; exact heap_alloc_new W2 _
        have HW3 : Hid (W2.alloc (.cells #[.int .i64 o2, .int .i64 m2, .slice a2 len2 cap2] 37) = W3) := hW3
        have N3 : Hid (W3.heap[w.heap.size]? = some (.cells #[.int .i64 0, .int .i64 0, .slice none 0 0] 37 (0, 0))) := (B3.out.block _ (Array.getElem?_eq_some_iff.1 N2.out).1).trans N2.out
        obtain ⟨⟨z0, z1, z2⟩, -⟩ := Tk.row3 D3.out
        obtain ⟨⟨x0, x1, x2⟩, y0, y1, y2⟩ := Tk.row3 N3.out
        obtain ⟨q2, hq2⟩ : ∃ z, W2.heap.size = z := ⟨_, rfl⟩
        have HQ2 : Hid (W2.heap.size = q2) := hq2
        rw [hq2] at D3 z0 z1 z2
        have BT3 : Hid (Tk.But (fun k => k = b) w W3) := BT2.out.trans (Tk.But.of_below B3.out)
        have HSS : Hid (∀ W : World, W.heap[q2]? = W3.heap[q2]? → W.cell? ⟨q2, 0, none⟩ = some (.int .i64 o2) ∧ W.cell? ⟨q2, 1, none⟩ = some (.int .i64 m2) ∧ W.cell? ⟨q2, 2, none⟩ = some (.slice a2 len2 cap2)) := fun W h => (Tk.row3 (h.trans D3.out)).1
        have HQL : Hid (w.heap.size < q2 ∧ w.heap.size < W1.heap.size) := ⟨by rw [← hq2]; exact (Array.getElem?_eq_some_iff.1 N2.out).1, (Array.getElem?_eq_some_iff.1 N1.out).1⟩
        clear b2 hl2 hW3 hs1 hq2
        cases r1 with
        | error r =>
          obtain ⟨k, hk1, hk2, hk3⟩ := HL2.out
          have HR3 : Hid (rs = .error r) := HR2.out
          have HK : Hid (k ≤ l.length ∧ r = (l.drop k).map Ix.kt ∧ Ix.At B b (l.drop k) W3) := ⟨hk1, hk2, hk3.below B3.out⟩
          clear hk1 hk2 hk3
          rw [show Ix.okB (Except.error r) = false from rfl]
          go_upto_region 8 with fail
          rw [HW3.out, HQ2.out]
          refine wp_region_held_drew (S := (fun W => W.cell? ⟨q2, 0, none⟩ = some (.int .i64 o2) ∧ W.cell? ⟨q2, 1, none⟩ = some (.int .i64 m2) ∧ W.cell? ⟨q2, 2, none⟩ = some (.slice a2 len2 cap2))) (by kernel_rfl) ?_ (fun hHeld => ?_)
          · exact HSS.out _ rfl
          refine Nt.takeS (v := ?va0) 0 65 rfl rfl (by kernel_rfl) (by kernel_rfl) (by kernel_rfl) (fun _ _ _ h => h) (Or.inl ⟨by rfl, ?ya0⟩) hHeld ?ra0
          case ya0 => (intro w hSw; (try dsimp only at hSw); go_simp; all_goals (with_reducible rfl))
          simp only [List.set_cons_succ, List.set_cons_zero]
          refine Nt.takeS (v := ?va1) 1 66 rfl rfl (by kernel_rfl) (by kernel_rfl) (by kernel_rfl) (fun _ _ _ h => h) (Or.inl ⟨by rfl, ?ya1⟩) hHeld ?ra1
          case ya1 => (intro w hSw; (try dsimp only at hSw); go_simp; all_goals (with_reducible rfl))
          simp only [List.set_cons_succ, List.set_cons_zero]
          refine Nt.takeS (v := ?va2) 2 67 rfl rfl (by kernel_rfl) (by kernel_rfl) (by kernel_rfl) (fun _ _ _ h => h) (Or.inl ⟨by rfl, ?ya2⟩) hHeld ?ra2
          case ya2 => (intro w hSw; (try dsimp only at hSw); go_simp; all_goals (with_reducible rfl))
          simp only [List.set_cons_succ, List.set_cons_zero]
          refine Nt.takeS (v := undef) 3 68 rfl rfl (by kernel_rfl) (by kernel_rfl) (by kernel_rfl) (fun _ _ _ h => h) (Or.inr ⟨by rfl, rfl⟩) hHeld ?_
          simp only [List.set_cons_succ, List.set_cons_zero]
          refine Nt.takeS (v := undef) 4 69 rfl rfl (by kernel_rfl) (by kernel_rfl) (by kernel_rfl) (fun _ _ _ h => h) (Or.inr ⟨by rfl, rfl⟩) hHeld ?_
          simp only [List.set_cons_succ, List.set_cons_zero]
          refine Nt.takeS (v := ?va5) 5 70 rfl rfl (by kernel_rfl) (by kernel_rfl) (by kernel_rfl) (fun _ _ _ h => h) (Or.inl ⟨by rfl, ?ya5⟩) hHeld ?ra5
          case ya5 => (intro w hSw; (try dsimp only at hSw); go_simp; all_goals (with_reducible rfl))
          simp only [List.set_cons_succ, List.set_cons_zero]
          refine wpAnyH_ready (rs := [6]) (by kernel_rfl) (by simp) ?_
          refine AllReadyH.cons rfl (fun K hK => ?_) AllReadyH.nil
          refine Ix.step_row rfl 37 _ _ rfl w.heap.size #[.int .i64 o2, .int .i64 m2, .slice a2 len2 cap2] rfl rfl 37 _ N3.out (by kernel_rfl) rfl (by kernel_rfl) ?_
          refine hK.out _ _ ?_ (fun hHeld6 => ?_)
          · exact HSS.out _ (Ix.setRow_other (by have := HQL.out.1; omega) _)
          clear hK K
          first | refine Nt.normS 0 rfl ?_ | skip
          first | (simp only [List.set_cons_zero]) | skip
          refine Nt.takeS (v := ?va7) 7 3 rfl rfl (by kernel_rfl) (by kernel_rfl) (by kernel_rfl) (fun _ _ _ h => h) (Or.inl ⟨by rfl, ?ya7⟩) hHeld6 ?ra7
          case ya7 => (intro w hSw; (try dsimp only at hSw); go_simp; all_goals (with_reducible rfl))
          simp only [List.set_cons_succ, List.set_cons_zero]
          refine wpAnyH_done (by kernel_rfl) ?_ _
          go_wp2
          refine bodyPost_ret (Tk.results_term Tryd.results38 _ _ w.heap.size _ _ _ rfl (by exact setRow_heap _ _ _ _ _ _ N3.out)) rfl ?_
          rw [HR3.out]
          refine ⟨o2, m2, a2, len2, cap2, rfl, Ix.but_drew (Ix.setRow_but BT3.out (.inr (Nat.le_refl _)) _), k + 1, by simp; exact HK.out.1, by simpa using HK.out.2.1, ?_⟩
          rw [List.drop_succ_cons]
          exact Ix.row_at HK.out.2.2 HLT.out.1
        | ok p =>
          obtain ⟨T, r⟩ := p
          obtain ⟨k, hk1, hk2, hk3, hk4, hk5, d, hk6⟩ := HL2.out
          obtain ⟨hb2, hhb2⟩ : ∃ z, Ix.headB (l.drop k) [41] = z := ⟨_, rfl⟩
          have hsk := Ix.skip_drop l k hhb2
          have HR3 : Hid (rs = if hb2 = true then .ok (T, (l.drop (k + 1)).map Ix.kt) else .error ((l.drop k).map Ix.kt)) := by
            show _ = _
            rw [HR2.out, hk2]
            exact Ix.shut_drop T l k hhb2
          have HK : Hid (k ≤ l.length ∧ Ix.At B b (l.drop k) W3 ∧ o2 = T.op ∧ m2 = T.num ∧ Tm.LiesIn W3 W1.heap.size q2 d (.slice a2 len2 cap2) T ∧ (hb2 = true → k + 1 ≤ l.length)) :=
            ⟨hk1, hk3.below B3.out, hk4, hk5, by rw [← HQ2.out]; exact hk6.keep fun j _ hj => B3.out.block j hj, fun h => Ix.head_some l k (by rw [hhb2]; exact h)⟩
          have H5 : Hid (∀ W : World, W.heap = W3.heap → W.os = W3.os → W.tape = W3.tape → W.output = W3.output → Calls Tryd.prog 60 #[.pointer (some ⟨b, 0, none⟩), .string ⟨#[41]⟩] W fun e w' => e = .returned (.bool hb2) ∧ (Ix.At B b (if hb2 = true then l.drop (k + 1) else l.drop k) w' ∧ Tk.But (fun k => k = b) w w' ∧ w'.heap[w.heap.size]? = some (.cells #[.int .i64 0, .int .i64 0, .slice none 0 0] 37 (0, 0)) ∧ w'.heap[q2]? = W3.heap[q2]? ∧ Tm.LiesIn w' W1.heap.size q2 d (.slice a2 len2 cap2) T ∧ q2 < w'.heap.size)) := fun W e1 e2 e3 e4 => by
            have hA : Ix.At B b (l.drop k) W := HK.out.2.1.keep (fun j _ => by rw [e1]) (by rw [e1])
            have hW : Tk.But (fun k => k = b) w W := BT3.out.trans ⟨e2, e3, e4, by rw [e1]; exact Nat.le_refl _, fun j _ _ => by rw [e1]⟩
            refine (Tryd.iskip_any B b (l.drop k) ⟨#[41]⟩ W hA).mono fun e w' ⟨f1, f2, f3⟩ => ?_
            rw [show (⟨#[41]⟩ : ByteArray).data.toList = [41] from rfl] at f1 f2
            rw [hhb2] at f1
            rw [hsk] at f2
            have hq : q2 < W.heap.size := by rw [e1]; exact (Array.getElem?_eq_some_iff.1 D3.out).1
            have hbq := HLT.out.1
            have hws := BT1.out.size
            have hw1 := HQ2.out
            have hw2 := BT2.out.size
            refine ⟨f1, f2, hW.trans f3, ?_, ?_, ?_, Nat.lt_of_lt_of_le hq f3.size⟩
            · rw [f3.block _ (by omega) (by omega), e1]; exact N3.out
            · rw [f3.block _ hq (by omega), e1]
            · exact HK.out.2.2.2.2.1.keep fun j hj1 hj2 => by rw [f3.block j (by omega) (by omega), e1]
          clear hk1 hk2 hk3 hk4 hk5 hk6 hhb2 hsk
          rw [show Ix.okB (Except.ok (T, r)) = true from rfl]
          go_upto_region 8 with fail
          rw [HW3.out, HQ2.out]
          refine wp_region_held_drew (S := (fun W => W.cell? ⟨q2, 0, none⟩ = some (.int .i64 o2) ∧ W.cell? ⟨q2, 1, none⟩ = some (.int .i64 m2) ∧ W.cell? ⟨q2, 2, none⟩ = some (.slice a2 len2 cap2))) (by kernel_rfl) ?_ (fun hHeld => ?_)
          · exact HSS.out _ rfl
          refine Nt.takeS (v := ?vb0) 0 65 rfl rfl (by kernel_rfl) (by kernel_rfl) (by kernel_rfl) (fun _ _ _ h => h) (Or.inl ⟨by rfl, ?yb0⟩) hHeld ?rb0
          case yb0 => (intro w hSw; (try dsimp only at hSw); go_simp; all_goals (with_reducible rfl))
          simp only [List.set_cons_succ, List.set_cons_zero]
          refine Nt.takeS (v := ?vb1) 1 66 rfl rfl (by kernel_rfl) (by kernel_rfl) (by kernel_rfl) (fun _ _ _ h => h) (Or.inl ⟨by rfl, ?yb1⟩) hHeld ?rb1
          case yb1 => (intro w hSw; (try dsimp only at hSw); go_simp; all_goals (with_reducible rfl))
          simp only [List.set_cons_succ, List.set_cons_zero]
          refine Nt.takeS (v := ?vb2) 2 67 rfl rfl (by kernel_rfl) (by kernel_rfl) (by kernel_rfl) (fun _ _ _ h => h) (Or.inl ⟨by rfl, ?yb2⟩) hHeld ?rb2
          case yb2 => (intro w hSw; (try dsimp only at hSw); go_simp; all_goals (with_reducible rfl))
          simp only [List.set_cons_succ, List.set_cons_zero]
          refine Nt.takeS (v := ?vb3) 3 68 rfl rfl (by kernel_rfl) (by kernel_rfl) (by kernel_rfl) (fun _ _ _ h => h) (Or.inl ⟨by rfl, ?yb3⟩) hHeld ?rb3
          case yb3 => (intro w hSw; (try dsimp only at hSw); go_simp; all_goals (with_reducible rfl))
          simp only [List.set_cons_succ, List.set_cons_zero]
          refine wpAnyH_ready (rs := [4]) (by kernel_rfl) (by simp) ?_
          refine AllReadyH.cons rfl (fun K hK => ?_) AllReadyH.nil
          rw [if_pos (by rfl)]
          go_simp
          go_at_call 60
          refine Calls.mono (H5.out _ rfl rfl rfl rfl) ?_
          rintro e W5 ⟨rfl, f5⟩
          have F5 : Hid (Ix.At B b (if hb2 = true then l.drop (k + 1) else l.drop k) W5 ∧ Tk.But (fun k => k = b) w W5 ∧ W5.heap[w.heap.size]? = some (.cells #[.int .i64 0, .int .i64 0, .slice none 0 0] 37 (0, 0)) ∧ W5.heap[q2]? = W3.heap[q2]? ∧ Tm.LiesIn W5 W1.heap.size q2 d (.slice a2 len2 cap2) T ∧ q2 < W5.heap.size) := f5
          clear f5
          go_wp2_with fail
          refine hK.out _ _ ?_ (fun hHeld4 => ?_)
          · exact HSS.out _ F5.out.2.2.2.1
          clear hK K
          first | refine Nt.normS 69 rfl ?_ | skip
          first | (simp only [List.set_cons_succ, List.set_cons_zero]) | skip
          refine Nt.takeS (v := ?vb5) 5 70 rfl rfl (by kernel_rfl) (by kernel_rfl) (by kernel_rfl) (fun _ _ _ h => h) (Or.inl ⟨by rfl, ?yb5⟩) hHeld4 ?rb5
          case yb5 => (intro w hSw; (try dsimp only at hSw); go_simp; all_goals (with_reducible rfl))
          simp only [List.set_cons_succ, List.set_cons_zero]
          refine wpAnyH_ready (rs := [6]) (by kernel_rfl) (by simp) ?_
          refine AllReadyH.cons rfl (fun K hK => ?_) AllReadyH.nil
          refine Ix.step_row rfl 37 _ _ rfl w.heap.size #[.int .i64 o2, .int .i64 m2, .slice a2 len2 cap2] rfl rfl 37 _ F5.out.2.2.1 (by kernel_rfl) rfl (by kernel_rfl) ?_
          refine hK.out _ _ ?_ (fun hHeld6 => ?_)
          · exact HSS.out _ ((Ix.setRow_other (by have := HQL.out.1; omega) _).trans F5.out.2.2.2.1)
          clear hK K
          first | refine Nt.normS 0 rfl ?_ | skip
          first | (simp only [List.set_cons_zero]) | skip
          refine Nt.takeS (v := ?vb7) 7 3 rfl rfl (by kernel_rfl) (by kernel_rfl) (by kernel_rfl) (fun _ _ _ h => h) (Or.inl ⟨by rfl, ?yb7⟩) hHeld6 ?rb7
          case yb7 => (intro w hSw; (try dsimp only at hSw); go_simp; all_goals (with_reducible rfl))
          simp only [List.set_cons_succ, List.set_cons_zero]
          refine wpAnyH_done (by kernel_rfl) ?_ _
          go_wp2
          refine bodyPost_ret (Tk.results_term Tryd.results38 _ _ w.heap.size _ _ _ rfl (by exact setRow_heap _ _ _ _ _ _ F5.out.2.2.1)) rfl ?_
          rw [HR3.out]
          have hBB : Tk.But (fun k => k = b) w (W5.setRow w.heap.size #[.int .i64 o2, .int .i64 m2, .slice a2 len2 cap2]) := Ix.setRow_but F5.out.2.1 (.inr (Nat.le_refl _)) _
          cases hb2 with
          | true =>
            refine ⟨o2, m2, a2, len2, cap2, rfl, hBB, k + 2, by simp; exact HK.out.2.2.2.2.2 rfl, rfl, Ix.row_at' F5.out.1 HLT.out.1, HK.out.2.2.1, HK.out.2.2.2.1, d, ?_⟩
            have h1 := F5.out.2.2.2.2.1
            have hws := BT1.out.size
            have hbl := HQL.out
            exact (h1.keep fun j hj _ => Ix.setRow_other (by omega) _).wider (by omega) (by have := F5.out.2.2.2.2.2; simp [World.setRow]; omega)
          | false =>
            exact ⟨o2, m2, a2, len2, cap2, rfl, hBB, k + 1, by simp; exact HK.out.1, by simp, by rw [List.drop_succ_cons]; exact Ix.row_at' F5.out.1 HLT.out.1⟩

end Go.Proofs
