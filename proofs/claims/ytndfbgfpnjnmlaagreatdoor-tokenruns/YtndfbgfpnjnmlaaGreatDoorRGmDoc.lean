import Derived.Test.YtndfbgfpnjnmlaaGreatDoorRGmPlay
namespace Go.Proofs
open Go.RowKit Go.Shelf
namespace Gm
theorem yields_build {ops : Array Oper} {S : World → Prop} {op : Oper} {a : Act} (hw : Region.wanted op (yielded ops a.tmps) = true) (t : TypeId) (parts : Array (Nat × Operand)) (ho : op.op = .build t parts) (cells : Array Value) (hf : Tryz.prog.built t (parts.map fun (i, x) => (i, a.eval x)).toList = some cells) : YieldsIf Tryz.prog ops S op (.agg cells) a :=
 .inl ⟨hw, fun w _ => by
  unfold execOp
  simp only [ho, Sem.run_bind]
  rw [run_build w t _ cells hf]
  rfl⟩
theorem step_build {ops : Array Oper} {o : Oper} {a : Act} {w : World} {K : Act → World → Prop} {Q : Exit → Act → World → Prop} {E : Prop} (hg : o.guard = none) (t e : TypeId) (len : Nat) (parts : Array (Nat × Operand)) (ho : o.op = .buildSlice t len parts)
  (cells : Array Value) (ie : TypeInfo) (z : Value) (hu : Tryz.prog.underlying t = some (.slice e)) (hie : Tryz.prog.info? e = some ie) (hz : ie.zero = some z) (hsmall : ¬ len * ie.size > 2 ^ 24) (hpos : ¬ len * ie.size = 0)
  (hf : Instr.fill (fun i => some (i * ie.size, ie.size)) ((Array.range (len * ie.size)).map (z.cells[· % z.cells.size]!)) (parts.map fun (i, x) => (i, a.eval x)).toList = some cells)
  (h : K (a.put o.dst (.slice (some ⟨w.heap.size, 0, none⟩) len len)) (w.alloc (.cells cells e))) : if Region.wanted o (yielded ops a.tmps) = true then Oper.wp Tryz.prog o a w K Q else E := by
 rw [if_pos (by simp [Region.wanted, hg])]
 exact wp_buildSlice t e len parts ho cells ie z hu hie hz hsmall hpos hf h
theorem step_load {ops : Array Oper} {o : Oper} {a : Act} {w : World} {K : Act → World → Prop} {Q : Exit → Act → World → Prop} {E : Prop} (hg : o.guard = none) (ty : TypeId) (x : Operand) (ho : o.op = .load ty x) (b p : Nat) (hx : a.eval x = .pointer (some ⟨b, p, none⟩)) (cs : List Value) (d : TypeDesc) (hr : w.rangeAt b p cs) (hu : Tryz.prog.underlying ty = some d) (hd : d.isRow = true) (hi : (Tryz.prog.info? ty).map (·.size) = some cs.length)
  (hK : K (a.put o.dst (.agg cs.toArray)) w) : if Region.wanted o (yielded ops a.tmps) = true then Oper.wp Tryz.prog o a w K Q else E := by
 rw [if_pos (by simp [Region.wanted, hg])]
 unfold Oper.wp execOp
 simp only [ho, hx, Instr.loadAt, Instr.sureAddr, Sem.run_bind, Sem.run_pure, Result.andThen_ok, run_loadVar_mid w b p ty cs d hr hu hd hi]
 exact hK
def stC (m : Mv) (t : List Int) : List Value := mvC m ++ ints t
def stL (ss : List (Mv × List Int)) : List Value := ss.flatMap fun p => stC p.1 p.2
theorem stL_append (a b : List (Mv × List Int)) : stL (a ++ b) = stL a ++ stL b := by simp [stL]
theorem stC_one (m : Mv) (t : List Int) : ∀ v ∈ stC m t, v.oneCell' = true := fun v hv => by
 rcases List.mem_append.1 hv with h | h
 ·simp only [mvC, List.mem_cons, List.not_mem_nil, or_false] at h
  rcases h with rfl | rfl | rfl | rfl | rfl <;> rfl
 ·exact ints_one t v h
theorem stC_length (m : Mv) (t : List Int) (h : t.length = 49) : (stC m t).length = 54 := by simp [stC, mvC, ints_length, h]
theorem built_step4 (p1 p2 p3 p4 p5 : Int) (t : List Int) (h : t.length = 49) : Tryz.prog.built 61 [(0, .int .i64 p1), (1, .int .i64 p2), (2, .agg #[.int .i64 p3, .int .i64 p4, .int .i64 p5]), (3, .agg (ints t).toArray)] = some (stC ⟨p1, p2, p3, p4, p5⟩ t).toArray := by
 exact match t, h with
 | x0 :: x1 :: x2 :: x3 :: x4 :: x5 :: x6 :: x7 :: x8 :: x9 :: x10 :: x11 :: x12 :: x13 :: x14 :: x15 :: x16 :: x17 :: x18 :: x19 :: x20 :: x21 :: x22 :: x23 :: x24 :: x25 :: x26 :: x27 :: x28 :: x29 :: x30 :: x31 :: x32 :: x33 :: x34 :: x35 :: x36 :: x37 :: x38 :: x39 :: x40 :: x41 :: x42 :: x43 :: x44 :: x45 :: x46 :: x47 :: x48 :: [], _ => by show _ = _; kernel_rfl
theorem built_step3 (p1 p2 : Int) (t : List Int) (h : t.length = 49) : Tryz.prog.built 61 [(0, .int .i64 p1), (1, .int .i64 p2), (3, .agg (ints t).toArray)] = some (stC ⟨p1, p2, 0, 0, 0⟩ t).toArray := by
 exact match t, h with
 | x0 :: x1 :: x2 :: x3 :: x4 :: x5 :: x6 :: x7 :: x8 :: x9 :: x10 :: x11 :: x12 :: x13 :: x14 :: x15 :: x16 :: x17 :: x18 :: x19 :: x20 :: x21 :: x22 :: x23 :: x24 :: x25 :: x26 :: x27 :: x28 :: x29 :: x30 :: x31 :: x32 :: x33 :: x34 :: x35 :: x36 :: x37 :: x38 :: x39 :: x40 :: x41 :: x42 :: x43 :: x44 :: x45 :: x46 :: x47 :: x48 :: [], _ => by show _ = _; kernel_rfl
theorem built_step2 (p1 : Int) (t : List Int) (h : t.length = 49) : Tryz.prog.built 61 [(0, .int .i64 p1), (3, .agg (ints t).toArray)] = some (stC ⟨p1, 0, 0, 0, 0⟩ t).toArray := by
 exact match t, h with
 | x0 :: x1 :: x2 :: x3 :: x4 :: x5 :: x6 :: x7 :: x8 :: x9 :: x10 :: x11 :: x12 :: x13 :: x14 :: x15 :: x16 :: x17 :: x18 :: x19 :: x20 :: x21 :: x22 :: x23 :: x24 :: x25 :: x26 :: x27 :: x28 :: x29 :: x30 :: x31 :: x32 :: x33 :: x34 :: x35 :: x36 :: x37 :: x38 :: x39 :: x40 :: x41 :: x42 :: x43 :: x44 :: x45 :: x46 :: x47 :: x48 :: [], _ => by show _ = _; kernel_rfl
theorem infoStep : (Tryz.prog.info? 61).map (fun i => (i.zero, i.size, i.bytes)) = some (some (.agg #[.int .i64 0, .int .i64 0, .int .i64 0, .int .i64 0, .int .i64 0, .int .i64 0, .int .i64 0, .int .i64 0, .int .i64 0, .int .i64 0, .int .i64 0, .int .i64 0, .int .i64 0, .int .i64 0, .int .i64 0, .int .i64 0, .int .i64 0, .int .i64 0, .int .i64 0, .int .i64 0, .int .i64 0, .int .i64 0, .int .i64 0, .int .i64 0, .int .i64 0, .int .i64 0, .int .i64 0, .int .i64 0, .int .i64 0, .int .i64 0, .int .i64 0, .int .i64 0, .int .i64 0, .int .i64 0, .int .i64 0, .int .i64 0, .int .i64 0, .int .i64 0, .int .i64 0, .int .i64 0, .int .i64 0, .int .i64 0, .int .i64 0, .int .i64 0, .int .i64 0, .int .i64 0, .int .i64 0, .int .i64 0, .int .i64 0, .int .i64 0, .int .i64 0, .int .i64 0, .int .i64 0, .int .i64 0]), 54, 432) := by kernel_rfl
theorem fill_step (m : Mv) (t : List Int) (h : t.length = 49) (ie : TypeInfo) (hs : ie.size = 54) : Instr.fill (fun i => some (i * ie.size, ie.size)) ((Array.range (1 * ie.size)).map ((Value.agg #[.int .i64 0, .int .i64 0, .int .i64 0, .int .i64 0, .int .i64 0, .int .i64 0, .int .i64 0, .int .i64 0, .int .i64 0, .int .i64 0, .int .i64 0, .int .i64 0, .int .i64 0, .int .i64 0, .int .i64 0, .int .i64 0, .int .i64 0, .int .i64 0, .int .i64 0, .int .i64 0, .int .i64 0, .int .i64 0, .int .i64 0, .int .i64 0, .int .i64 0, .int .i64 0, .int .i64 0, .int .i64 0, .int .i64 0, .int .i64 0, .int .i64 0, .int .i64 0, .int .i64 0, .int .i64 0, .int .i64 0, .int .i64 0, .int .i64 0, .int .i64 0, .int .i64 0, .int .i64 0, .int .i64 0, .int .i64 0, .int .i64 0, .int .i64 0, .int .i64 0, .int .i64 0, .int .i64 0, .int .i64 0, .int .i64 0, .int .i64 0, .int .i64 0, .int .i64 0, .int .i64 0, .int .i64 0]).cells[· % (Value.agg #[.int .i64 0, .int .i64 0, .int .i64 0, .int .i64 0, .int .i64 0, .int .i64 0, .int .i64 0, .int .i64 0, .int .i64 0, .int .i64 0, .int .i64 0, .int .i64 0, .int .i64 0, .int .i64 0, .int .i64 0, .int .i64 0, .int .i64 0, .int .i64 0, .int .i64 0, .int .i64 0, .int .i64 0, .int .i64 0, .int .i64 0, .int .i64 0, .int .i64 0, .int .i64 0, .int .i64 0, .int .i64 0, .int .i64 0, .int .i64 0, .int .i64 0, .int .i64 0, .int .i64 0, .int .i64 0, .int .i64 0, .int .i64 0, .int .i64 0, .int .i64 0, .int .i64 0, .int .i64 0, .int .i64 0, .int .i64 0, .int .i64 0, .int .i64 0, .int .i64 0, .int .i64 0, .int .i64 0, .int .i64 0, .int .i64 0, .int .i64 0, .int .i64 0, .int .i64 0, .int .i64 0, .int .i64 0]).cells.size]!)) [(0, .agg (stC m t).toArray)] = some (stC m t).toArray := by
 rw [hs]
 exact match t, h with
 | x0 :: x1 :: x2 :: x3 :: x4 :: x5 :: x6 :: x7 :: x8 :: x9 :: x10 :: x11 :: x12 :: x13 :: x14 :: x15 :: x16 :: x17 :: x18 :: x19 :: x20 :: x21 :: x22 :: x23 :: x24 :: x25 :: x26 :: x27 :: x28 :: x29 :: x30 :: x31 :: x32 :: x33 :: x34 :: x35 :: x36 :: x37 :: x38 :: x39 :: x40 :: x41 :: x42 :: x43 :: x44 :: x45 :: x46 :: x47 :: x48 :: [], _ => by show _ = _; kernel_rfl
theorem stC_get5 {m : Mv} {t : List Int} {f : Nat} (h : f < t.length) : (stC m t).toArray[5 + f]? = some (.int .i64 (t.getD f 0)) := by
 have : (stC m t)[5 + f]? = some (.int .i64 (t.getD f 0)) := by
  unfold stC
  rw [List.getElem?_append_right (by simp [mvC])]
  have := ints_get h
  simpa [mvC] using this
 simpa using this
theorem stC_set {m : Mv} {t : List Int} {f : Nat} {x : Int} : (stC m t).toArray.setIfInBounds (5 + f) (.int .i64 x) = (stC m (t.set f x)).toArray := by
 have : (stC m t).set (5 + f) (.int .i64 x) = stC m (t.set f x) := by
  unfold stC ints
  rw [List.set_append_right _ _ (by simp [mvC]), List.map_set]
  simp [mvC]
 simp [this]
theorem put_st {W : World} {q f : Nat} {m : Mv} {t : List Int} {ty : TypeId} {x : Int} (h : W.heap[q]? = some (.cells (stC m t).toArray ty (0, 0))) : (W.setCell ⟨q, 5 + f, none⟩ (.int .i64 x)).heap[q]? = some (.cells (stC m (t.set f x)).toArray ty (0, 0)) := by
 rw [← stC_set]
 simp [World.setCell, Array.getElem?_modify, h]
theorem put_same {q : Nat} {ty : TypeId} {cs : Array Value} : ∀ (vs : List Value) (o : Nat) (W : World), W.heap[q]? = some (.cells cs ty (0, 0)) → (∀ j, (h : j < vs.length) → cs[o + j]? = some vs[j]) → (W.setCells q o vs).heap[q]? = some (.cells cs ty (0, 0))
 | [], _, _, h, _ => h
 | v :: r, o, W, h, hc => by
   rw [World.setCells]
   refine put_same r (o + 1) _ ?_ (fun j hj => by have := hc (j + 1) (by simp; omega); rw [← Nat.add_assoc, Nat.add_right_comm] at this; simpa using this)
   have h0 : cs[o]? = some v := by have := hc 0 (by simp); simpa using this
   rw [set_type h]
   congr 1
   apply congrArg (fun z => Obj.cells z ty (0, 0))
   apply Array.ext_getElem?
   intro i
   rw [Array.getElem?_setIfInBounds]
   split
   ·next he =>
    subst he
    split
    ·exact h0.symm
    ·next hlt => rw [Array.getElem?_eq_none (by omega)]
   ·rfl
structure DAt (X : World) (b : Nat) (an : Option Addr) (n cn : Nat) (af : Option Addr) (m cf : Nat) (l : List Int) (v : Value) : Prop where
 net0 : X.cell? ⟨b, 0, none⟩ = some (.slice an n cn)
 net1 : X.cell? ⟨b, 1, none⟩ = some (.slice af m cf)
 st : X.rangeAt b 2 (ints l)
 mv : X.cell? ⟨b, 51, none⟩ = some v
 th : X.there b 0 52
 ty : ∃ cs, X.heap[b]? = some (.cells cs 87 (0, 0))
 ll : l.length = 49
theorem DAt.lt {X : World} {b : Nat} {an : Option Addr} {n cn : Nat} {af : Option Addr} {m cf : Nat} {l : List Int} {v : Value} (h : DAt X b an n cn af m cf l v) : b < X.heap.size := World.block_lt_of_cell? _ _ h.net0
theorem DAt.keep {X X' : World} {b : Nat} {an : Option Addr} {n cn : Nat} {af : Option Addr} {m cf : Nat} {l : List Int} {v : Value} (h : DAt X b an n cn af m cf l v) (hb : X'.heap[b]? = X.heap[b]?) : DAt X' b an n cn af m cf l v := by
 have hc : ∀ o, X'.cell? ⟨b, o, none⟩ = X.cell? ⟨b, o, none⟩ := fun o => World.cell?_of_block (w := X) hb
 have hf : ∀ o, X'.frozen? ⟨b, o, none⟩ = X.frozen? ⟨b, o, none⟩ := fun o => by simp [World.frozen?, hb]
 exact ⟨by rw [hc]; exact h.net0, by rw [hc]; exact h.net1, fun j u hj => by rw [hc]; exact h.st j u hj, by rw [hc]; exact h.mv, fun j hj => by rw [hc, hf]; exact h.th j hj, by obtain ⟨cs, e⟩ := h.ty; exact ⟨cs, hb.trans e⟩, h.ll⟩
theorem DAt.moves {X : World} {b : Nat} {an : Option Addr} {n cn : Nat} {af : Option Addr} {m cf : Nat} {l : List Int} {v : Value} (h : DAt X b an n cn af m cf l v) (u : Value) : DAt (X.setCell ⟨b, 51, none⟩ u) b an n cn af m cf l u := by
 have ho : ∀ o, o ≠ 51 → (X.setCell ⟨b, 51, none⟩ u).cell? ⟨b, o, none⟩ = X.cell? ⟨b, o, none⟩ := fun o h => World.cell?_setCell_other _ _ _ _ (fun e => h (by injection e with _ e2 _; exact e2.symm))
 refine ⟨by rw [ho _ (by omega)]; exact h.net0, by rw [ho _ (by omega)]; exact h.net1, fun j w hj => ?_, World.cell?_setCell_same _ _ _ h.mv, fun j hj => ?_, by obtain ⟨cs, e⟩ := h.ty; exact ⟨_, set_type e⟩, h.ll⟩
 ·have hl := (List.getElem?_eq_some_iff.1 hj).1
  rw [ints_length, h.ll] at hl
  rw [ho _ (by omega)]; exact h.st j w hj
 ·have h1 := World.there_setCells h.th b 51 [u] j hj
  simpa [World.setCells] using h1
structure D (w0 : World) (B b : Nat) (an : Option Addr) (n cn : Nat) (af : Option Addr) (m cf : Nat) (l : List Int) (ss : List (Mv × List Int)) (W : World) : Prop where
 game : ∃ v, DAt W b an n cn af m cf l v ∧ W.ownsRow B 61 54 v ss.length (stL ss)
 fr : Fr B b w0 W
 lt : b < B
 le : B ≤ w0.heap.size
def KeepD (X W : World) : Prop := ∀ (g : Nat) (cs : Array Value) (ty : TypeId) (fr : Nat × Nat), X.heap[g]? = some (Obj.cells cs ty fr) → ty ≠ 87 → ty ≠ 61 → W.heap[g]? = X.heap[g]?
theorem KeepD.refl (X : World) : KeepD X X := fun _ _ _ _ _ _ _ => rfl
theorem KeepD.trans {X Y Z : World} (h : KeepD X Y) (h' : KeepD Y Z) : KeepD X Z := fun g cs ty fr hg h1 h2 => (h' g cs ty fr ((h g cs ty fr hg h1 h2).trans hg) h1 h2).trans (h g cs ty fr hg h1 h2)
theorem KeepD.below {X Y : World} (h : Below X.heap.size X Y) : KeepD X Y := fun g _ _ _ hg _ _ => h.block g (Array.getElem?_eq_some_iff.1 hg).1
theorem KeepD.other {X Y : World} {b : Nat} (hb : ∀ k, k ≠ b → Y.heap[k]? = X.heap[k]?) {cs : Array Value} {z : Nat × Nat} (h : X.heap[b]? = some (.cells cs 87 z)) : KeepD X Y := fun g cs' ty fr hg h1 _ => hb g fun e => by
 rw [e, h] at hg
 injection hg with hg
 injection hg with _ hg
 exact h1 hg.symm
theorem KeepD.grown {X Y : World} {B : Nat} {v : Value} {n : Nat} {cs : List Value} (ho : X.ownsRow B 61 54 v n cs) (hg : X.grownBy Y v.ownBlock) : KeepD X Y := fun g cs' ty fr h _ h2' => hg.block g (Array.getElem?_eq_some_iff.1 h).1 fun e => by
 rcases ho.2 with ⟨rfl, _⟩ | ⟨g', cap, cur, rfl, _, h2, _⟩
 ·cases e
 ·have e' : g = g' := by simpa [Value.ownBlock] using e
  rw [e', h2] at h
  injection h with h
  injection h with _ h
  exact h2' h.symm
theorem Ints.keepD {X W : World} {u : Value} {l : List Int} (h : Ints X u l) (hk : KeepD X W) : Ints W u l := h.keep fun g cs fr hg => hk g cs _ fr hg (by decide) (by decide)
theorem D.below {w0 : World} {B b : Nat} {an : Option Addr} {n cn : Nat} {af : Option Addr} {m cf : Nat} {l : List Int} {ss : List (Mv × List Int)} {W W' : World} (h : D w0 B b an n cn af m cf l ss W) (hb : Below W.heap.size W W') : D w0 B b an n cn af m cf l ss W' := by
 obtain ⟨v, h1, h2⟩ := h.game
 have hs := h.fr.size
 have hle := h.le
 refine ⟨⟨v, h1.keep (hb.block b h1.lt), ?_⟩, h.fr.trans (Fr.below (by omega) hb), h.lt, h.le⟩
 exact ⟨h2.1, h2.2.imp id fun ⟨g, cap, cur, hv, e1, e2, e3⟩ => ⟨g, cap, cur, hv, e1, (hb.block g (Array.getElem?_eq_some_iff.1 e2).1).trans e2, e3⟩⟩
theorem D.grown {w0 : World} {B b : Nat} {an : Option Addr} {n cn : Nat} {af : Option Addr} {m cf : Nat} {l : List Int} {ss : List (Mv × List Int)} {W W' : World} {v u : Value} {mv : Mv} {t : List Int} (hA : DAt W b an n cn af m cf l v) (hO : W.ownsRow B 61 54 v ss.length (stL ss)) (hf : Fr B b w0 W) (hlt : b < B) (hle : B ≤ w0.heap.size)
  (hg : W.grownBy W' v.ownBlock) (hO' : W'.ownsRow B 61 54 u (ss.length + 1) (stL ss ++ stC mv t)) : DAt W' b an n cn af m cf l v ∧ D w0 B b an n cn af m cf l (ss ++ [(mv, t)]) (W'.setCell ⟨b, 51, none⟩ u) := by
 have hs := hf.size
 have blk : ∀ k, k < B → W'.heap[k]? = W.heap[k]? := fun k hk => hg.block k (by omega) (by intro e; have := (G.row_lt hO e.symm).1; omega)
 have hA' := hA.keep (blk b hlt)
 refine ⟨hA', ⟨u, hA'.moves u, ?_⟩, ?_, hlt, hle⟩
 ·rw [stL_append, List.length_append]
  have : stL [(mv, t)] = stC mv t := by simp [stL]
  rw [this]
  exact ownsRow_setCell_below hO' (by show b < _; exact hlt) _
 ·refine hf.trans ⟨hg.os, hg.tape, hg.output, by have := hg.size; simpa using this, fun k h1 h2 => ?_⟩
  rw [Below.heap_setCell _ _ _ _ h2]
  exact blk k h1
def more (m : Mv) : Option (List Int) → List (Mv × List Int)
 | none => []
 | some u => [(m, u)]
def passS (ss : List (Mv × List Int)) (m : Mv) (t : List Int) (a c : List Nat) : List (Mv × List Int) := ss ++ more m (pass t a c)
end Gm
set_option maxRecDepth 20000 in
set_option maxHeartbeats 32000000 in
theorem Tryz.radd_any (w0 : World) (B b : Nat) (an : Option Addr) (n cn : Nat) (af : Option Addr) (m cf : Nat) (l : List Int) (ss : List (Mv × List Int)) (mv : Mv) (t : List Int) (a c : List Nat) (ra rc : Value) (X : World) (hG : Gm.D w0 B b an n cn af m cf l ss X) (hl : ss.length ≤ 10000)
  (ha : Gm.Ints X ra (a.map fun x : Nat => (x : Int))) (hc : Gm.Ints X rc (c.map fun x : Nat => (x : Int))) (ha4 : ∀ f ∈ a, f < 40) (hc4 : ∀ f ∈ c, f < 40) (hal : a.length ≤ 100) (hcl : c.length ≤ 100) (hS : Gm.Small t) (htl : t.take 40 = l.take 40) :
  Calls Tryz.prog 29 #[.pointer (some ⟨b, 0, none⟩), .agg (Gm.stC mv t).toArray, ra, rc] X fun e' w' => e' = .returned (.tuple #[]) ∧ Gm.D w0 B b an n cn af m cf l (Gm.passS ss mv t a c) w' ∧ Gm.KeepD X w' := by
 obtain ⟨R, hR⟩ : ∃ R, Gm.pass t a c = R := ⟨_, rfl⟩
 have HRR : Hid (Gm.passS ss mv t a c = ss ++ Gm.more mv R) := by show _ = _; unfold Gm.passS; rw [hR]
 obtain ⟨v, hA, hO⟩ := hG.game
 have hll := hA.ll
 have hbX : b < X.heap.size := hA.lt
 obtain ⟨W1, hW1⟩ : ∃ z, X.alloc (.cells (Gm.stC mv t).toArray 61) = z := ⟨_, rfl⟩
 have A1 : Below X.heap.size X W1 := by rw [← hW1]; exact (Below.refl _ X).alloc (Nat.le_refl _) _
 have N1 : W1.heap[X.heap.size]? = some (.cells (Gm.stC mv t).toArray 61 (0, 0)) := by rw [← hW1]; exact heap_alloc_new X _
 have hA1 := hA.keep (A1.block b hbX)
 have hst : W1.rangeAt b 2 (Gm.ints (l.take 40)) := fun j w hj => hA1.st j w (by
  rw [Gm.ints, List.getElem?_map, List.getElem?_take] at hj
  rw [Gm.ints, List.getElem?_map]
  split at hj
  ·exact hj
  ·simp at hj)
 have l40 : (l.take 40).length = 40 := by simp; omega
 have hu40 := Tryz.underlying26
 have hi40 : (Tryz.prog.info? 26).map (·.size) = some (Gm.ints (l.take 40)).length := by rw [Gm.ints_length, l40]; show _ = _; kernel_rfl
 have hi40' : (Tryz.prog.info? 26).map (·.size) = some (Gm.ints (l.take 40)).toArray.size := by simpa using hi40
 have h140 : (Gm.ints (l.take 40)).toArray.all (·.oneCell') = true := all_oneCell_toArray (Gm.ints_one _)
 have hth : W1.there X.heap.size 5 (Gm.ints (l.take 40)).toArray.size := fun j hj => by
  have hj' : j < 40 := by simpa [Gm.ints_length, l40] using hj
  refine ⟨?_, by simp [World.frozen?, N1]⟩
  simp only [World.cell?, N1]
  rw [Gm.stC_get5 (by have := hS.1; omega)]
  rfl
 obtain ⟨W2, hW2⟩ : ∃ z, W1.setCells X.heap.size 5 (Gm.ints (l.take 40)).toArray.toList = z := ⟨_, rfl⟩
 have N2 : W2.heap[X.heap.size]? = some (.cells (Gm.stC mv t).toArray 61 (0, 0)) := by
  rw [← hW2]
  refine Gm.put_same _ 5 W1 N1 fun j hj => ?_
  have hj' : j < 40 := by simpa [Gm.ints_length, l40] using hj
  rw [Gm.stC_get5 (by have := hS.1; omega)]
  have e : t.getD j 0 = (l.take 40)[j]'(by omega) := by
   have : (t.take 40)[j]? = (l.take 40)[j]? := by rw [htl]
   rw [List.getElem?_eq_getElem (l := l.take 40) (by omega), List.getElem?_take, if_pos hj'] at this
   rw [List.getD_eq_getElem?_getD, this]; rfl
  rw [e]
  simp [Gm.ints]
 have A2 : Below X.heap.size X W2 := by
  rw [← hW2]
  obtain ⟨k1, k2, k3, k4, k5⟩ := Gm.setCells_keep X.heap.size (Gm.ints (l.take 40)).toArray.toList 5 W1
  exact ⟨k1.trans A1.os, k2.trans A1.tape, k3.trans A1.output, by rw [k4]; exact A1.size, fun k hk => (k5 k (by omega)).trans (A1.block k hk)⟩
 obtain ⟨aa, ca, rfl, ha⟩ := ha
 obtain ⟨ac, cc, rfl, hc⟩ := hc
 obtain ⟨na, hna⟩ : ∃ z, a.length = z := ⟨_, rfl⟩
 obtain ⟨nc, hnc⟩ : ∃ z, c.length = z := ⟨_, rfl⟩
 rw [List.length_map, List.length_map, hna, hnc]
 have HIA : Hid (∀ W, Below X.heap.size X W → ∀ j, j < na → ∃ (g off f : Nat), a[j]? = some f ∧ f < 40 ∧ aa = some ⟨g, off, none⟩ ∧ W.cell? ⟨g, off + j, none⟩ = some (.int .i64 f)) := fun W hb j hj => by
  obtain ⟨g, off, cs, fr, h1, h2, h3⟩ := ha j (by rw [List.length_map]; omega)
  have hja : j < a.length := by omega
  refine ⟨g, off, a[j], List.getElem?_eq_getElem hja, ha4 _ (List.getElem_mem hja), h1, ?_⟩
  rw [hb.cell (p := ⟨g, off + j, none⟩) (Gm.blk_lt h2), h3]
  simp
 have HIC : Hid (∀ W, Below X.heap.size X W → ∀ j, j < nc → ∃ (g off f : Nat), c[j]? = some f ∧ f < 40 ∧ ac = some ⟨g, off, none⟩ ∧ W.cell? ⟨g, off + j, none⟩ = some (.int .i64 f)) := fun W hb j hj => by
  obtain ⟨g, off, cs, fr, h1, h2, h3⟩ := hc j (by rw [List.length_map]; omega)
  have hja : j < c.length := by omega
  refine ⟨g, off, c[j], List.getElem?_eq_getElem hja, hc4 _ (List.getElem_mem hja), h1, ?_⟩
  rw [hb.cell (p := ⟨g, off + j, none⟩) (Gm.blk_lt h2), h3]
  simp
 have HHY : Hid (Gm.pass t a c = R ∧ a.length = na ∧ c.length = nc) := ⟨hR, hna, hnc⟩
 have HEND : Hid (∀ W, Below X.heap.size X W → R = none → Gm.D w0 B b an n cn af m cf l (Gm.passS ss mv t a c) W ∧ Gm.KeepD X W) := fun W hb h => by
  rw [HRR.out, h]
  exact ⟨by simpa [Gm.more] using hG.below hb, Gm.KeepD.below hb⟩
 have HG : Hid (Gm.D w0 B b an n cn af m cf l ss X) := hG
 have H0 : Hid (Gm.take t a = Gm.take t (a.drop 0) ∧ Gm.Small t ∧ Below X.heap.size X W2 ∧ W2.heap[X.heap.size]? = some (.cells (Gm.stC mv t).toArray 61 (0, 0))) := ⟨rfl, hS, A2, N2⟩
 have HW1 : Hid _ := hW1
 have HW2 : Hid _ := hW2
 have hna1 : na ≤ 100 := by omega
 have hnc1 : nc ≤ 100 := by omega
 have hq1 : ss.length ≤ 10000 := hl
 clear hG ha hc ha4 hc4 hal hcl hS htl hR hA hO hA1 hll l40 hW1 hW2 A1 A2 N1 N2 hna hnc hl
 go_enter Tryz.func29, Tryz.ntmps29
 go_upto_region 1 with fail
 rw [HW1.out]
 go_upto_region 2 with (first
  | refine wpList_load_mid rfl 26 _ rfl b 2 rfl (Gm.ints (l.take 40)) _ hst hu40 rfl hi40 ?_
  | refine wpList_store_mid rfl 26 _ _ rfl X.heap.size 5 (Gm.ints (l.take 40)).toArray rfl rfl hth hi40' h140 ?_)
 rw [HW2.out]
 clear HW1 HW2 hst hu40 hi40 hi40' h140 hth
 go_wp2
 go_loopg [9, 21] na (fun gk _ s21 wr => ∃ (j : Nat) (u : List Int), s21 = .int .i64 j ∧ gk + j = na ∧ Hid (Gm.take t a = Gm.take u (a.drop j) ∧ Gm.Small u ∧ Below X.heap.size X wr ∧ wr.heap[X.heap.size]? = some (.cells (Gm.stC mv u).toArray 61 (0, 0))))
 case atStart => exact ⟨0, t, rfl, by omega, H0.out⟩
 case round =>
  obtain ⟨j, u, rfl, hj, HJ⟩ := hrel
  clear H0
  have HB : Hid (Below X.heap.size X wr) := HJ.out.2.2.1
  by_cases hlt : j < na
  ·have hd : decide ((j : Int) < na) = true := decide_eq_true (by omega)
   obtain ⟨g, off, f, haf, hf4, rfl, hcf⟩ := HIA.out wr HB.out j hlt
   have hdr : a.drop j = f :: a.drop (j + 1) := by
    obtain ⟨h1, h2⟩ := List.getElem?_eq_some_iff.1 haf
    rw [← h2]; exact List.drop_eq_getElem_cons h1
   obtain ⟨x, hx⟩ : ∃ z, u.getD f 0 = z := ⟨_, rfl⟩
   have hbx := HJ.out.2.1.2 f hf4
   rw [hx] at hbx
   have cx : wr.cell? ⟨X.heap.size, 5 + f, none⟩ = some (.int .i64 x) := by
    have h1 := HJ.out.2.2.2
    simp only [World.cell?, h1]
    rw [Gm.stC_get5 (by have := HJ.out.2.1.1; omega), hx]
    rfl
   have fx : wr.frozen? ⟨X.heap.size, 5 + f, none⟩ = false := by simp [World.frozen?, HJ.out.2.2.2]
   have i1 : (f : Int) < 40 := by omega
   have i0 : (0 : Int) ≤ f := by omega
   have j1 : (j : Int) < na := by omega
   have j0 : (0 : Int) ≤ j := by omega
   have HTK : Hid (Gm.take t a = if x = 0 then none else Gm.take (u.set f (x - 1)) (a.drop (j + 1))) := by show _ = _; rw [HJ.out.1, hdr, Gm.take, hx]
   by_cases hx0 : x = 0
   ·have ex : decide (x < 1) = true := decide_eq_true (by omega)
    have HE : Hid (Gm.D w0 B b an n cn af m cf l (Gm.passS ss mv t a c) wr ∧ Gm.KeepD X wr) := by
     refine HEND.out wr HB.out ?_
     rw [← HHY.out.1]; unfold Gm.pass; rw [HTK.out, if_pos hx0]
    clear HJ hx hx0 hbx haf hdr HTK
    go_wp2
    exact bodyPost_ret (results_none Tryz.results29 _ _ _) rfl ⟨rfl, HE.out⟩
   ·have ex : decide (x < 1) = false := decide_eq_false (by omega)
    have HN : Hid (Gm.take t a = Gm.take (u.set f (x - 1)) (a.drop (j + 1)) ∧ Gm.Small (u.set f (x - 1)) ∧ Below X.heap.size X (wr.setCell ⟨X.heap.size, 5 + f, none⟩ (.int .i64 (x - 1))) ∧ (wr.setCell ⟨X.heap.size, 5 + f, none⟩ (.int .i64 (x - 1))).heap[X.heap.size]? = some (.cells (Gm.stC mv (u.set f (x - 1))).toArray 61 (0, 0))) :=
     ⟨by rw [HTK.out, if_neg hx0], HJ.out.2.1.set hf4 (by omega) (by omega), HB.out.setCell (p := ⟨X.heap.size, 5 + f, none⟩) (Nat.le_refl _) _, Gm.put_st HJ.out.2.2.2⟩
    have ew : IntKind.i64.wrap (x - 1) = x - 1 := by rw [IntKind.wrap_i64]; omega
    clear HJ hx hx0 haf hdr HTK HB
    go_wp2
    go_roundg (gk - 1)
    case measure => omega
    case rel => exact ⟨j + 1, u.set f (x - 1), by go_num, by omega, HN.out⟩
  ·obtain rfl : j = na := by omega
   have hd : decide ((j : Int) < j) = false := decide_eq_false (by omega)
   have HT : Hid (Gm.take t a = some u) := by show _ = _; rw [HJ.out.1, List.drop_eq_nil_of_le (by rw [HHY.out.2.1]; exact Nat.le_refl _), Gm.take]
   have HJ2 : Hid (Gm.put u (c.drop 0) = R ∧ Gm.Small u ∧ Below X.heap.size X wr ∧ wr.heap[X.heap.size]? = some (.cells (Gm.stC mv u).toArray 61 (0, 0))) := ⟨by rw [← HHY.out.1]; unfold Gm.pass; rw [HT.out]; rfl, HJ.out.2⟩
   clear HJ HT HB HIA
   go_wp2
   go_loopg [11, 44] nc (fun gk _ s44 wi => ∃ (k : Nat) (u : List Int), s44 = .int .i64 k ∧ gk + k = nc ∧ Hid (Gm.put u (c.drop k) = R ∧ Gm.Small u ∧ Below X.heap.size X wi ∧ wi.heap[X.heap.size]? = some (.cells (Gm.stC mv u).toArray 61 (0, 0))))
   case atStart => exact ⟨0, u, rfl, by omega, HJ2.out⟩
   case round =>
    obtain ⟨k, u, rfl, hk, HJ⟩ := hrel
    clear HJ2
    rename World => wi
    have HB : Hid (Below X.heap.size X wi) := HJ.out.2.2.1
    by_cases hltk : k < nc
    ·have hd2 : decide ((k : Int) < nc) = true := decide_eq_true (by omega)
     obtain ⟨g, off, f, haf, hf4, rfl, hcf⟩ := HIC.out wi HB.out k hltk
     have hdr : c.drop k = f :: c.drop (k + 1) := by
      obtain ⟨h1, h2⟩ := List.getElem?_eq_some_iff.1 haf
      rw [← h2]; exact List.drop_eq_getElem_cons h1
     obtain ⟨x, hx⟩ : ∃ z, u.getD f 0 = z := ⟨_, rfl⟩
     have hbx := HJ.out.2.1.2 f hf4
     rw [hx] at hbx
     have cx : wi.cell? ⟨X.heap.size, 5 + f, none⟩ = some (.int .i64 x) := by
      have h1 := HJ.out.2.2.2
      simp only [World.cell?, h1]
      rw [Gm.stC_get5 (by have := HJ.out.2.1.1; omega), hx]
      rfl
     have fx : wi.frozen? ⟨X.heap.size, 5 + f, none⟩ = false := by simp [World.frozen?, HJ.out.2.2.2]
     have i1 : (f : Int) < 40 := by omega
     have i0 : (0 : Int) ≤ f := by omega
     have j1 : (k : Int) < nc := by omega
     have j0 : (0 : Int) ≤ k := by omega
     have HTK : Hid ((if x = 3 then none else Gm.put (u.set f (x + 1)) (c.drop (k + 1))) = R) := by show _ = _; rw [← HJ.out.1, hdr, Gm.put, hx]
     by_cases hx0 : x = 3
     ·have ex : decide (2 < x) = true := decide_eq_true (by omega)
      have HE : Hid (Gm.D w0 B b an n cn af m cf l (Gm.passS ss mv t a c) wi ∧ Gm.KeepD X wi) := by
       refine HEND.out wi HB.out ?_
       rw [← HTK.out, if_pos hx0]
      clear HJ hx hx0 hbx haf hdr HTK
      go_wp2
      exact bodyPost_ret (results_none Tryz.results29 _ _ _) rfl ⟨rfl, HE.out⟩
     ·have ex : decide (2 < x) = false := decide_eq_false (by omega)
      have HN : Hid (Gm.put (u.set f (x + 1)) (c.drop (k + 1)) = R ∧ Gm.Small (u.set f (x + 1)) ∧ Below X.heap.size X (wi.setCell ⟨X.heap.size, 5 + f, none⟩ (.int .i64 (x + 1))) ∧ (wi.setCell ⟨X.heap.size, 5 + f, none⟩ (.int .i64 (x + 1))).heap[X.heap.size]? = some (.cells (Gm.stC mv (u.set f (x + 1))).toArray 61 (0, 0))) :=
       ⟨by rw [← HTK.out, if_neg hx0], HJ.out.2.1.set hf4 (by omega) (by omega), HB.out.setCell (p := ⟨X.heap.size, 5 + f, none⟩) (Nat.le_refl _) _, Gm.put_st HJ.out.2.2.2⟩
      have ew : IntKind.i64.wrap (x + 1) = x + 1 := by rw [IntKind.wrap_i64]; omega
      clear HJ hx hx0 haf hdr HTK HB
      go_wp2
      go_roundg (gk - 1)
      case measure => omega
      case rel => exact ⟨k + 1, u.set f (x + 1), by go_num, by omega, HN.out⟩
    ·obtain rfl : k = nc := by omega
     have hd2 : decide ((k : Int) < k) = false := decide_eq_false (by omega)
     have HE : Hid (R = some u) := by show _ = _; rw [← HJ.out.1, List.drop_eq_nil_of_le (by rw [HHY.out.2.2]; exact Nat.le_refl _), Gm.put]
     obtain ⟨v, hAX, hOX⟩ := HG.out.game
     obtain ⟨va, vc, rfl⟩ := Rk.own_shape hOX
     have hA := hAX.keep (HB.out.block b hbX)
     have hO := Rk.own_below hOX HB.out
     have HOW : Hid (∀ k, (Value.slice va ss.length vc).ownBlock = some k → k < X.heap.size) := fun k hk => (Gm.G.row_lt hOX hk).2
     obtain ⟨q, hq⟩ : ∃ z, ss.length = z := ⟨_, rfl⟩
     have hq2 : q ≤ 10000 := by omega
     have HOB : Hid (b < X.heap.size) := hbX
     have hul := HJ.out.2.1.1
     have HN : Hid (Gm.D w0 B b an n cn af m cf l ss wi ∧ ss.length = q ∧ Gm.DAt wi b an n cn af m cf l (.slice va q vc) ∧ wi.ownsRow B 61 54 (.slice va q vc) q (Gm.stL ss)) := ⟨HG.out.below HB.out, hq, by rw [← hq]; exact hA, by rw [← hq]; exact hO⟩
     have own5 := HN.out.2.2.2
     have hBw : B ≤ wi.heap.size := by have h1 := HN.out.1.le; have h2 := HN.out.1.fr.size; omega
     have hbw : b < wi.heap.size := hA.lt
     have hr5 : wi.rangeAt X.heap.size 0 (Gm.stC mv u) := fun j w hj => by
      have h1 := HJ.out.2.2.2
      simp only [World.cell?, h1, Nat.zero_add]
      simpa using hj
     have hXw : X.heap.size < wi.heap.size := Gm.blk_lt HJ.out.2.2.2
     have c51 : wi.cell? ⟨b, 51, none⟩ = some (.slice va q vc) := HN.out.2.2.1.mv
     have hus := Tryz.underlying61
     have his : (Tryz.prog.info? 61).map (·.size) = some (Gm.stC mv u).length := by rw [Gm.stC_length mv u hul]; show _ = _; kernel_rfl
     obtain ⟨i0, hi0, hz0, hz1, hz2⟩ := info_parts Gm.infoStep
     have hbs := Gm.fill_step mv u hul i0 hz1
     have hstl : (Gm.stC mv u).length = 1 * 54 := by rw [Gm.stC_length mv u hul]
     have h1st := Gm.stC_one mv u
     obtain ⟨w5, hw5⟩ : ∃ z, wi.drew.alloc (.cells (Gm.stC mv u).toArray 61) = z := ⟨_, rfl⟩
     have B5 : Below wi.heap.size wi w5 := by rw [← hw5]; exact (Below.refl _ wi).drew.alloc (Nat.le_refl _) _
     have hr6 : (wi.drew.alloc (.cells (Gm.stC mv u).toArray 61)).rangeAt X.heap.size 0 (Gm.stC mv u) := by
      rw [hw5]
      exact fun j w hj => by rw [B5.cell (p := ⟨X.heap.size, 0 + j, none⟩) hXw]; exact hr5 j w hj
     have c51' : (wi.drew.alloc (.cells (Gm.stC mv u).toArray 61)).cell? ⟨b, 51, none⟩ = some (.slice va q vc) := by
      rw [hw5, B5.cell (p := ⟨b, 51, none⟩) hbw]; exact c51
     have HO5 : Hid ((wi.drew.alloc (.cells (Gm.stC mv u).toArray 61)).ownsRow B 61 54 (.slice va q vc) q (Gm.stL ss) ∧ (∀ j y, (Gm.stC mv u)[j]? = some y → (wi.drew.alloc (.cells (Gm.stC mv u).toArray 61)).cell? ((⟨wi.heap.size, 0, none⟩ : Addr).add j) = some y) ∧ B ≤ (wi.drew.alloc (.cells (Gm.stC mv u).toArray 61)).heap.size ∧ (wi.drew.alloc (.cells (Gm.stC mv u).toArray 61)).heap.size = wi.heap.size + 1) := by
      refine ⟨?_, World.news_of_block (heap_alloc_new wi.drew (.cells (Gm.stC mv u).toArray 61)), by rw [hw5]; exact Nat.le_trans hBw B5.size, by simp⟩
      rw [hw5]
      exact Rk.own_below own5 B5
     rw [hq] at HOW
     have F6 : Hid (∀ (W6 : World) (y : Value), (wi.drew.alloc (.cells (Gm.stC mv u).toArray 61)).grownBy W6 (Value.slice va q vc).ownBlock → W6.ownsRow B 61 54 y (q + 1) (Gm.stL ss ++ Gm.stC mv u) → (W6.cell? ⟨b, 51, none⟩ = some (.slice va q vc) ∧ W6.frozen? ⟨b, 51, none⟩ = false) ∧ W6.rangeAt X.heap.size 0 (Gm.stC mv u) ∧ (W6.setCell ⟨b, 51, none⟩ y).rangeAt X.heap.size 0 (Gm.stC mv u) ∧ Gm.D w0 B b an n cn af m cf l (Gm.passS ss mv t a c) (W6.setCell ⟨b, 51, none⟩ y) ∧ Gm.KeepD X (W6.setCell ⟨b, 51, none⟩ y)) := fun W6 y hg hO6 => by
      have hq' := HN.out.2.1
      have g5 := HN.out.1.below B5
      rw [hw5] at hg
      have hA5 := HN.out.2.2.1.keep (B5.block b HN.out.2.2.1.lt)
      have hO5 : w5.ownsRow B 61 54 (.slice va q vc) ss.length (Gm.stL ss) := by
       rw [hq', ← hw5]
       exact HO5.out.1
      obtain ⟨k1, k2⟩ := Gm.D.grown (mv := mv) (t := u) hA5 hO5 g5.fr g5.lt g5.le hg (by rw [hq']; exact hO6)
      obtain ⟨cs, hty⟩ := k1.ty
      have hps : Gm.passS ss mv t a c = ss ++ [(mv, u)] := by rw [HRR.out, HE.out]; rfl
      have hrg : W6.rangeAt X.heap.size 0 (Gm.stC mv u) := fun j w hj => by
       have hblk : W6.heap[X.heap.size]? = w5.heap[X.heap.size]? := hg.block _ (Nat.lt_of_lt_of_le hXw B5.size) (fun e => by have := HOW.out _ e.symm; omega)
       rw [World.cell?_of_block (w := w5) (a := ⟨X.heap.size, 0 + j, none⟩) hblk, ← hw5]
       exact hr6 j w hj
      have hne : X.heap.size ≠ b := by have := HOB.out; omega
      rw [hps]
      refine ⟨⟨k1.mv, by have := (k1.th 51 (by omega)).2; simpa using this⟩, hrg, fun j w hj => ?_, k2, (((Gm.KeepD.below HB.out).trans (Gm.KeepD.below B5)).trans (Gm.KeepD.grown hO5 hg)).trans (Gm.KeepD.other (fun k hk => Below.heap_setCell _ _ _ _ hk) hty)⟩
      rw [World.cell?_of_block (w := W6) (a := ⟨X.heap.size, 0 + j, none⟩) (Below.heap_setCell _ _ _ _ hne)]
      exact hrg j w hj
     clear HIC HEND HN HJ HE HRR HHY HG hA hO hAX hOX hq hul hw5 B5 HOW HOB
     go_upto_region 14 with fail
     refine wp_region_held_drew (S := (fun V => V.rangeAt X.heap.size 0 (Gm.stC mv u))) (by kernel_rfl) ?_ (fun hHeld => ?_)
     ·exact hr5
     refine Nt.takeS (v := ?va0) 0 65 rfl rfl (by kernel_rfl) (by kernel_rfl) (by kernel_rfl) (fun _ _ _ h => h) (Or.inl ⟨by rfl, ?ya0⟩) hHeld ?ra0
     case ya0 => (intro w hSw; (try dsimp only at hSw); go_simp; all_goals (with_reducible rfl))
     simp only [List.set_cons_succ, List.set_cons_zero]
     refine Nt.takeS (v := ?va1) 1 66 rfl rfl (by kernel_rfl) (by kernel_rfl) (by kernel_rfl) (fun _ _ _ h => h) (Or.inl ⟨by rfl, ?ya1⟩) hHeld ?ra1
     case ya1 => (intro w hSw; (try dsimp only at hSw); go_simp; all_goals (with_reducible rfl))
     simp only [List.set_cons_succ, List.set_cons_zero]
     refine Nt.takeS (v := ?va2) 2 67 rfl rfl (by kernel_rfl) (by kernel_rfl) (by kernel_rfl) (fun _ _ _ h => h) (Or.inl ⟨by rfl, ?ya2⟩) hHeld ?ra2
     case ya2 => (intro w hSw; (try dsimp only at hSw); go_simp; all_goals (with_reducible rfl))
     simp only [List.set_cons_succ, List.set_cons_zero]
     refine Nt.takeS (v := ?va3) 3 68 rfl rfl (by kernel_rfl) (by kernel_rfl) (by kernel_rfl) (fun _ _ _ h => h) (Or.inl ⟨by rfl, ?ya3⟩) hHeld ?ra3
     case ya3 => (intro w hSw; (try dsimp only at hSw); go_simp; all_goals (with_reducible rfl))
     simp only [List.set_cons_succ, List.set_cons_zero]
     refine Nt.takeS 5 70 rfl rfl (by kernel_rfl) (by kernel_rfl) (by kernel_rfl) (fun _ _ _ h => h) (yieldsIf_load_mid (by rfl) _ _ rfl _ _ rfl (Gm.stC mv u) _ (fun _ hw => hw) hus rfl his) hHeld ?_
     simp only [List.set_cons_succ, List.set_cons_zero]
     refine wpAnyH_ready (rs := [4, 6]) (by kernel_rfl) (by simp) ?_
     refine AllReadyH.cons rfl (fun K hK => ?_) (AllReadyH.cons rfl (fun K hK => ?_) AllReadyH.nil)
     ·go_simp
      refine hK.out _ _ ?_ (fun hTe => ?_)
      ·exact hr5
      clear hK K
      first | refine Nt.normS 69 rfl ?_ | skip
      first | (simp only [List.set_cons_succ, List.set_cons_zero]) | skip
      refine wpAnyH_ready (rs := [6]) (by kernel_rfl) (by simp) ?_
      refine AllReadyH.cons rfl (fun K hK => ?_) AllReadyH.nil
      refine Gm.step_build rfl 40 61 1 _ rfl (Gm.stC mv u).toArray i0 _ Tryz.underlying40 hi0 hz0 (by rw [hz1]; decide) (by rw [hz1]; decide) (Eq.trans (congrArg _ (by kernel_rfl)) hbs) ?_
      refine hK.out _ _ ?_ (fun hTf => ?_)
      ·exact hr6
      clear hK K
      first | refine Nt.normS 71 rfl ?_ | skip
      first | (simp only [List.set_cons_succ, List.set_cons_zero]) | skip
      refine wpAnyH_ready (rs := [7]) (by kernel_rfl) (by simp) ?_
      refine AllReadyH.cons rfl (fun K hK => ?_) AllReadyH.nil
      refine step_append_lies _ rfl _ _ 40 rfl B 61 i0 _ 54 432 Tryz.underlying40 hi0 hz0 hz1 hz2 rfl (by decide) (.slice va q vc) q (Gm.stL ss) rfl HO5.out.1 ⟨wi.heap.size, 0, none⟩ 1 1 (Gm.stC mv u) rfl hstl HO5.out.2.1 h1st (by decide) (by unfold maxLen; omega) (by omega) HO5.out.2.2.1 (wi.heap.size + 1) HO5.out.2.2.2 ?_
      intro g6 c6 W6 o6 q6 hg6 hl6
      obtain ⟨⟨z0, z1⟩, hS6, hS7, RN⟩ := F6.out W6 _ q6 o6
      refine hK.out _ _ ?_ (fun hTg => ?_)
      ·exact hS6
      clear hK K
      first | refine Nt.normS 72 rfl ?_ | skip
      first | (simp only [List.set_cons_succ, List.set_cons_zero]) | skip
      refine Nt.takeS (v := ?va8) 8 73 rfl rfl (by kernel_rfl) (by kernel_rfl) (by kernel_rfl) (fun _ _ _ h => h) (Or.inl ⟨by rfl, ?ya8⟩) hTg ?ra8
      case ya8 => (intro w hSw; (try dsimp only at hSw); go_simp; all_goals (with_reducible rfl))
      simp only [List.set_cons_succ, List.set_cons_zero]
      refine Nt.takeS (v := ?va9) 9 74 rfl rfl (by kernel_rfl) (by kernel_rfl) (by kernel_rfl) (fun _ _ _ h => h) (Or.inl ⟨by rfl, ?ya9⟩) hTg ?ra9
      case ya9 => (intro w hSw; (try dsimp only at hSw); go_simp; all_goals (with_reducible rfl))
      simp only [List.set_cons_succ, List.set_cons_zero]
      refine wpAnyH_ready (rs := [10]) (by kernel_rfl) (by simp) ?_
      refine AllReadyH.cons rfl (fun K hK => ?_) AllReadyH.nil
      go_simp
      refine hK.out _ _ ?_ (fun hTh => ?_)
      ·exact hS7
      clear hK K
      refine wpAnyH_done (by kernel_rfl) ?_ _
      have HRN : Hid _ := RN
      clear RN o6 q6 hg6 hl6 z0 z1 hS6 hS7
      go_wp2
      go_end0
      exact ⟨rfl, HRN.out⟩
     ·refine Gm.step_build rfl 40 61 1 _ rfl (Gm.stC mv u).toArray i0 _ Tryz.underlying40 hi0 hz0 (by rw [hz1]; decide) (by rw [hz1]; decide) (Eq.trans (congrArg _ (by kernel_rfl)) hbs) ?_
      refine hK.out _ _ ?_ (fun hTe => ?_)
      ·exact hr6
      clear hK K
      first | refine Nt.normS 71 rfl ?_ | skip
      first | (simp only [List.set_cons_succ, List.set_cons_zero]) | skip
      refine wpAnyH_ready (rs := [4]) (by kernel_rfl) (by simp) ?_
      refine AllReadyH.cons rfl (fun K hK => ?_) AllReadyH.nil
      go_simp
      refine hK.out _ _ ?_ (fun hTf => ?_)
      ·exact hr6
      clear hK K
      first | refine Nt.normS 69 rfl ?_ | skip
      first | (simp only [List.set_cons_succ, List.set_cons_zero]) | skip
      refine wpAnyH_ready (rs := [7]) (by kernel_rfl) (by simp) ?_
      refine AllReadyH.cons rfl (fun K hK => ?_) AllReadyH.nil
      refine step_append_lies _ rfl _ _ 40 rfl B 61 i0 _ 54 432 Tryz.underlying40 hi0 hz0 hz1 hz2 rfl (by decide) (.slice va q vc) q (Gm.stL ss) rfl HO5.out.1 ⟨wi.heap.size, 0, none⟩ 1 1 (Gm.stC mv u) rfl hstl HO5.out.2.1 h1st (by decide) (by unfold maxLen; omega) (by omega) HO5.out.2.2.1 (wi.heap.size + 1) HO5.out.2.2.2 ?_
      intro g6 c6 W6 o6 q6 hg6 hl6
      obtain ⟨⟨z0, z1⟩, hS6, hS7, RN⟩ := F6.out W6 _ q6 o6
      refine hK.out _ _ ?_ (fun hTg => ?_)
      ·exact hS6
      clear hK K
      first | refine Nt.normS 72 rfl ?_ | skip
      first | (simp only [List.set_cons_succ, List.set_cons_zero]) | skip
      refine Nt.takeS (v := ?vb8) 8 73 rfl rfl (by kernel_rfl) (by kernel_rfl) (by kernel_rfl) (fun _ _ _ h => h) (Or.inl ⟨by rfl, ?yb8⟩) hTg ?rb8
      case yb8 => (intro w hSw; (try dsimp only at hSw); go_simp; all_goals (with_reducible rfl))
      simp only [List.set_cons_succ, List.set_cons_zero]
      refine Nt.takeS (v := ?vb9) 9 74 rfl rfl (by kernel_rfl) (by kernel_rfl) (by kernel_rfl) (fun _ _ _ h => h) (Or.inl ⟨by rfl, ?yb9⟩) hTg ?rb9
      case yb9 => (intro w hSw; (try dsimp only at hSw); go_simp; all_goals (with_reducible rfl))
      simp only [List.set_cons_succ, List.set_cons_zero]
      refine wpAnyH_ready (rs := [10]) (by kernel_rfl) (by simp) ?_
      refine AllReadyH.cons rfl (fun K hK => ?_) AllReadyH.nil
      go_simp
      refine hK.out _ _ ?_ (fun hTh => ?_)
      ·exact hS7
      clear hK K
      refine wpAnyH_done (by kernel_rfl) ?_ _
      have HRN : Hid _ := RN
      clear RN o6 q6 hg6 hl6 z0 z1 hS6 hS7
      go_wp2
      go_end0
      exact ⟨rfl, HRN.out⟩
end Go.Proofs
