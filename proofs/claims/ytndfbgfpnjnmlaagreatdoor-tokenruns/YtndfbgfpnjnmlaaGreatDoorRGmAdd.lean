import Derived.Test.YtndfbgfpnjnmlaaGreatDoorRGmPass
import Derived.Deep.AppendLies
namespace Go.Proofs
open Go.RowKit Go.Shelf
structure Gm.Fr (B b : Nat) (X W : World) : Prop where
 os : W.os = X.os
 tape : W.tape = X.tape
 output : W.output = X.output
 size : X.heap.size ≤ W.heap.size
 block : ∀ k, k < B → k ≠ b → W.heap[k]? = X.heap[k]?
theorem Gm.Fr.refl (B b : Nat) (X : World) : Gm.Fr B b X X := ⟨rfl, rfl, rfl, Nat.le_refl _, fun _ _ _ => rfl⟩
theorem Gm.Fr.trans {B b : Nat} {X Y Z : World} (h : Gm.Fr B b X Y) (h' : Gm.Fr B b Y Z) : Gm.Fr B b X Z :=
 ⟨h'.os.trans h.os, h'.tape.trans h.tape, h'.output.trans h.output, Nat.le_trans h.size h'.size, fun k h1 h2 => (h'.block k h1 h2).trans (h.block k h1 h2)⟩
theorem Gm.Fr.below {B b : Nat} {X Y : World} (hB : B ≤ X.heap.size) (h : Below X.heap.size X Y) : Gm.Fr B b X Y :=
 ⟨h.os, h.tape, h.output, h.size, fun k h1 _ => h.block k (by omega)⟩
structure Gm.G (w0 : World) (B b : Nat) (an : Option Addr) (n cn : Nat) (af : Option Addr) (m cf : Nat) (l : List Int) (want : Int) (ms : List Mv) (tt : List Int) (W : World) : Prop where
 game : ∃ v, Gm.At W b an n cn af m cf l v want tt ∧ W.ownsRow B 80 5 v ms.length (Gm.mvs ms)
 fr : Gm.Fr B b w0 W
 lt : b < B
 le : B ≤ w0.heap.size
def Gm.KeepI (X W : World) : Prop := ∀ (g : Nat) (cs : Array Value) (ty : TypeId) (fr : Nat × Nat), X.heap[g]? = some (Obj.cells cs ty fr) → ty ≠ 82 → ty ≠ 80 → W.heap[g]? = X.heap[g]?
theorem Gm.KeepI.refl (X : World) : Gm.KeepI X X := fun _ _ _ _ _ _ _ => rfl
theorem Gm.KeepI.trans {X Y Z : World} (h : Gm.KeepI X Y) (h' : Gm.KeepI Y Z) : Gm.KeepI X Z := fun g cs ty fr hg h1 h2 => (h' g cs ty fr ((h g cs ty fr hg h1 h2).trans hg) h1 h2).trans (h g cs ty fr hg h1 h2)
theorem Gm.KeepI.below {X Y : World} (h : Below X.heap.size X Y) : Gm.KeepI X Y := fun g _ _ _ hg _ _ => h.block g (Array.getElem?_eq_some_iff.1 hg).1
theorem Gm.KeepI.other {X Y : World} {b : Nat} (hb : ∀ k, k ≠ b → Y.heap[k]? = X.heap[k]?) {cs : Array Value} {z : Nat × Nat} (h : X.heap[b]? = some (.cells cs 82 z)) : Gm.KeepI X Y := fun g cs' ty fr hg h1 _ => hb g fun e => by
 rw [e, h] at hg
 injection hg with hg
 injection hg with _ hg
 exact h1 hg.symm
theorem Gm.KeepI.grown {X Y : World} {B : Nat} {v : Value} {n : Nat} {cs : List Value} (ho : X.ownsRow B 80 5 v n cs) (hg : X.grownBy Y v.ownBlock) : Gm.KeepI X Y := fun g cs' ty fr h _ h2' => hg.block g (Array.getElem?_eq_some_iff.1 h).1 fun e => by
 rcases ho.2 with ⟨rfl, _⟩ | ⟨g', cap, cur, rfl, _, h2, _⟩
 ·cases e
 ·have e' : g = g' := by simpa [Value.ownBlock] using e
  rw [e', h2] at h
  injection h with h
  injection h with _ h
  exact h2' h.symm
theorem Gm.Ints.keepI {X W : World} {u : Value} {l : List Int} (h : Gm.Ints X u l) (hk : Gm.KeepI X W) : Gm.Ints W u l := h.keep fun g cs fr hg => hk g cs _ fr hg (by decide) (by decide)
theorem Gm.G.below {w0 : World} {B b : Nat} {an : Option Addr} {n cn : Nat} {af : Option Addr} {m cf : Nat} {l : List Int} {want : Int} {ms : List Mv} {tt : List Int} {W W' : World} (h : Gm.G w0 B b an n cn af m cf l want ms tt W) (hb : Below W.heap.size W W') : Gm.G w0 B b an n cn af m cf l want ms tt W' := by
 obtain ⟨v, h1, h2⟩ := h.game
 have hs := h.fr.size
 have hle := h.le
 refine ⟨⟨v, h1.keep (hb.block b h1.lt), ?_⟩, h.fr.trans (Gm.Fr.below (by omega) hb), h.lt, h.le⟩
 exact ⟨h2.1, h2.2.imp id fun ⟨g, cap, cur, hv, e1, e2, e3⟩ => ⟨g, cap, cur, hv, e1, (hb.block g (Array.getElem?_eq_some_iff.1 e2).1).trans e2, e3⟩⟩
theorem Gm.setCells_keep (b : Nat) : ∀ (vs : List Value) (o : Nat) (W : World), (W.setCells b o vs).os = W.os ∧ (W.setCells b o vs).tape = W.tape ∧ (W.setCells b o vs).output = W.output ∧ (W.setCells b o vs).heap.size = W.heap.size ∧ ∀ k, k ≠ b → (W.setCells b o vs).heap[k]? = W.heap[k]?
 | [], _, _ => ⟨rfl, rfl, rfl, rfl, fun _ _ => rfl⟩
 | v :: r, o, W => by
   rw [World.setCells]
   obtain ⟨h1, h2, h3, h4, h5⟩ := Gm.setCells_keep b r (o + 1) (W.setCell ⟨b, o, none⟩ v)
   exact ⟨h1, h2, h3, h4.trans (by simp), fun k hk => (h5 k hk).trans (Below.heap_setCell _ _ _ _ hk)⟩
theorem Gm.G.leads {w0 : World} {B b : Nat} {an : Option Addr} {n cn : Nat} {af : Option Addr} {m cf : Nat} {l : List Int} {want : Int} {ms : List Mv} {tt : List Int} {W : World} (h : Gm.G w0 B b an n cn af m cf l want ms tt W) (t : List Int) (ht : t.length = 49) : Gm.G w0 B b an n cn af m cf l want ms t (W.setCells b 53 (Gm.ints t)) := by
 obtain ⟨v, h1, h2⟩ := h.game
 obtain ⟨k1, k2, k3, k4, k5⟩ := Gm.setCells_keep b (Gm.ints t) 53 W
 refine ⟨⟨v, h1.leads t ht, ?_⟩, h.fr.trans ⟨k1, k2, k3, Nat.le_of_eq k4.symm, fun k _ hk => k5 k hk⟩, h.lt, h.le⟩
 exact ⟨h2.1, h2.2.imp id fun ⟨g, cap, cur, hv, e1, e2, e3⟩ => ⟨g, cap, cur, hv, e1, (k5 g (by have := h.lt; omega)).trans e2, e3⟩⟩
theorem Tryz.infoMove : (Tryz.prog.info? 80).map (fun i => (i.zero, i.size, i.bytes)) = some (some (.agg #[.int .i64 0, .int .i64 0, .int .i64 0, .int .i64 0, .int .i64 0]), 5, 40) := by kernel_rfl
theorem Gm.at_op2 {P : Program} {ops : Array Oper} {o : Oper} {a : Act} {w : World} {K : Act → World → Prop} {Q : Exit → Act → World → Prop} {E : Prop} (x : Op) (_hop : o.op = x)
 (h : if Region.wanted o (yielded ops a.tmps) = true then Oper.wp P o a w K Q else E) : if Region.wanted o (yielded ops a.tmps) = true then Oper.wp P o a w K Q else E := h
theorem Gm.G.row_lt {w : World} {B : Nat} {e : TypeId} {size n : Nat} {v : Value} {cs : List Value} (h : w.ownsRow B e size v n cs) {k : Nat} (hk : v.ownBlock = some k) : B ≤ k ∧ k < w.heap.size := by
 rcases h.2 with ⟨rfl, _⟩ | ⟨g, cap, cur, rfl, h1, h2, _⟩
 ·cases hk
 ·have e : g = k := Option.some.inj hk
  subst e
  exact ⟨h1, (Array.getElem?_eq_some_iff.1 h2).1⟩
theorem Gm.G.grown {w0 : World} {B b : Nat} {an : Option Addr} {n cn : Nat} {af : Option Addr} {m cf : Nat} {l : List Int} {want : Int} {ms : List Mv} {tt : List Int} {W W' : World} {v u : Value} {mv : Mv} (hA : Gm.At W b an n cn af m cf l v want tt) (hO : W.ownsRow B 80 5 v ms.length (Gm.mvs ms)) (hf : Gm.Fr B b w0 W) (hlt : b < B) (hle : B ≤ w0.heap.size)
  (hg : W.grownBy W' v.ownBlock) (hO' : W'.ownsRow B 80 5 u (ms.length + 1) (Gm.mvs ms ++ Gm.mvC mv)) : Gm.At W' b an n cn af m cf l v want tt ∧ Gm.G w0 B b an n cn af m cf l want (ms ++ [mv]) tt (W'.setCell ⟨b, 51, none⟩ u) := by
 have hs := hf.size
 have blk : ∀ k, k < B → W'.heap[k]? = W.heap[k]? := fun k hk => hg.block k (by omega) (by intro e; have := (Gm.G.row_lt hO e.symm).1; omega)
 have hA' := hA.keep (blk b hlt)
 refine ⟨hA', ⟨u, hA'.moves u, ?_⟩, ?_, hlt, hle⟩
 ·rw [Gm.mvs_append, List.length_append]
  have : Gm.mvs [mv] = Gm.mvC mv := by simp [Gm.mvs]
  rw [this]
  exact ownsRow_setCell_below hO' (by show b < _; exact hlt) _
 ·refine hf.trans ⟨hg.os, hg.tape, hg.output, by have := hg.size; simpa using this, fun k h1 h2 => ?_⟩
  rw [Below.heap_setCell _ _ _ _ h2]
  exact blk k h1
set_option maxRecDepth 20000 in
set_option maxHeartbeats 16000000 in
theorem Tryz.add_any (w0 : World) (B b : Nat) (an : Option Addr) (n cn : Nat) (af : Option Addr) (m cf : Nat) (l : List Int) (want : Int) (ms : List Mv) (tt t : List Int) (mv : Mv) (X : World) (hG : Gm.G w0 B b an n cn af m cf l want ms tt X) (ht : t.length = 49) (hl : ms.length ≤ 100000) :
  Calls Tryz.prog 62 #[.pointer (some ⟨b, 0, none⟩), .agg #[.int .i64 mv.node, .int .i64 mv.arg, .int .i64 mv.k, .int .i64 mv.ln, .int .i64 mv.la], .agg (Gm.ints t).toArray] X fun e w' => e = .returned (.tuple #[]) ∧ Gm.G w0 B b an n cn af m cf l want (ms ++ [mv]) (if (ms.length : Int) = want then t else tt) w' ∧ Gm.KeepI X w' := by
 obtain ⟨p1, p2, p3, p4, p5⟩ := mv
 obtain ⟨i0, hi0, hz0, hz1, hz2⟩ := info_parts Tryz.infoMove
 obtain ⟨w2, hw2⟩ : ∃ z, (X.alloc (.cells #[.int .i64 p1, .int .i64 p2, .int .i64 p3, .int .i64 p4, .int .i64 p5] 80)).alloc (.cells (Gm.ints t).toArray 29) = z := ⟨_, rfl⟩
 have A2 : Below X.heap.size X w2 := by rw [← hw2]; exact ((Below.refl _ X).alloc (Nat.le_refl _) _).alloc (by simp) _
 have N1 : w2.heap[X.heap.size]? = some (.cells #[.int .i64 p1, .int .i64 p2, .int .i64 p3, .int .i64 p4, .int .i64 p5] 80 (0, 0)) := by
  rw [← hw2, Below.heap_alloc _ _ _ (by simp)]; exact heap_alloc_new X _
 have N2 : w2.heap[X.heap.size + 1]? = some (.cells (Gm.ints t).toArray 29 (0, 0)) := by
  rw [← hw2]
  have := heap_alloc_new (X.alloc (.cells #[.int .i64 p1, .int .i64 p2, .int .i64 p3, .int .i64 p4, .int .i64 p5] 80)) (.cells (Gm.ints t).toArray 29)
  simpa using this
 have G2 := hG.below A2
 obtain ⟨v, hA, hO⟩ := G2.game
 obtain ⟨va, vc, rfl⟩ := Rk.own_shape hO
 obtain ⟨q, hq⟩ : ∃ z, ms.length = z := ⟨_, rfl⟩
 have hq1 : q ≤ 100000 := by omega
 have hu := Tryz.underlying29
 have h49 : (Gm.ints t).toArray.size = 49 := by simpa [Gm.ints_length] using ht
 have hi49 : (Tryz.prog.info? 29).map (·.size) = some (Gm.ints t).toArray.size := by rw [h49]; kernel_rfl
 have h1t : (Gm.ints t).toArray.all (·.oneCell') = true := all_oneCell_toArray (Gm.ints_one t)
 have H2 : Hid _ := hw2
 have HN : Hid (b < B ∧ B ≤ w0.heap.size ∧ Gm.Fr B b w0 w2 ∧ t.length = 49 ∧ ms.length = q ∧ X.heap.size + 1 < w2.heap.size ∧ b < X.heap.size) := by
  refine ⟨G2.lt, G2.le, G2.fr, ht, hq, (Array.getElem?_eq_some_iff.1 N2).1, ?_⟩
  have h1 := hG.lt; have h2 := hG.le; have h3 := hG.fr.size
  omega
 rw [hq] at hA hO ⊢
 obtain ⟨r, hr⟩ : ∃ r, (if (q : Int) = want then t else tt) = r := ⟨_, rfl⟩
 rw [hr]
 have HR : Hid ((if (q : Int) = want then t else tt) = r) := hr
 clear hr
 have c51 := hA.mv
 have c52 := hA.wa
 have HG : Hid (Gm.G w0 B b an n cn af m cf l want ms tt w2) := G2
 have HKX : Hid (Gm.KeepI X w2) := Gm.KeepI.below A2
 have HNN : Hid (w2.heap[X.heap.size]? = some (.cells #[.int .i64 p1, .int .i64 p2, .int .i64 p3, .int .i64 p4, .int .i64 p5] 80 (0, 0)) ∧ w2.heap[X.heap.size + 1]? = some (.cells (Gm.ints t).toArray 29 (0, 0))) := ⟨N1, N2⟩
 clear hG G2 hw2 A2 hA hO ht hl hq N1 N2
 go_enter Tryz.func62, Tryz.ntmps62
 go_upto_region 1 with fail
 rw [H2.out]
 go_quiet (fail)
 obtain ⟨Y, hY⟩ : ∃ z, w2.drewN nq = z := ⟨_, rfl⟩
 have BY : Below w2.heap.size w2 Y := by rw [← hY]; exact ⟨rfl, rfl, rfl, Nat.le_refl _, fun _ _ => rfl⟩
 rw [hY]
 have HGY : Hid (Gm.G w0 B b an n cn af m cf l want ms tt Y) := HG.out.below BY
 have HKY : Hid (Gm.KeepI X Y) := HKX.out.trans (Gm.KeepI.below BY)
 have HNY : Hid (Y.heap[X.heap.size]? = some (.cells #[.int .i64 p1, .int .i64 p2, .int .i64 p3, .int .i64 p4, .int .i64 p5] 80 (0, 0)) ∧ Y.heap[X.heap.size + 1]? = some (.cells (Gm.ints t).toArray 29 (0, 0))) := by
  have h := HN.out.2.2.2.2.2.1
  exact ⟨by rw [BY.block _ (by omega)]; exact HNN.out.1, by rw [BY.block _ h]; exact HNN.out.2⟩
 clear BY hY HG HNN c51 c52 H2
 go_upto_if 15 with fail
 go_cut [] (fun wx => Hid (Gm.G w0 B b an n cn af m cf l want ms r wx ∧ wx.heap[X.heap.size]? = some (.cells #[.int .i64 p1, .int .i64 p2, .int .i64 p3, .int .i64 p4, .int .i64 p5] 80 (0, 0)) ∧ Gm.KeepI X wx))
 case first =>
  by_cases hw : (q : Int) = want
  ·have e1 : ((q : Int) == want) = true := by simpa using hw
   have HE : Hid (r = t) := by show _ = _; rw [← HR.out, if_pos hw]
   obtain ⟨v, hA, hO⟩ := HGY.out.game
   have hth : Y.there b 53 (Gm.ints t).toArray.size := fun j hj => by
    rw [h49] at hj
    have := hA.th (53 + j) (by omega)
    simpa using this
   have N2 := HNY.out.2
   have HF : Hid (Gm.G w0 B b an n cn af m cf l want ms r (Y.setCells b 53 (Gm.ints t).toArray.toList) ∧ (Y.setCells b 53 (Gm.ints t).toArray.toList).heap[X.heap.size]? = some (.cells #[.int .i64 p1, .int .i64 p2, .int .i64 p3, .int .i64 p4, .int .i64 p5] 80 (0, 0)) ∧ Gm.KeepI X (Y.setCells b 53 (Gm.ints t).toArray.toList)) := by
    have e : (Gm.ints t).toArray.toList = Gm.ints t := by simp
    rw [e, HE.out]
    refine ⟨HGY.out.leads t HN.out.2.2.2.1, ?_, ?_⟩
    ·rw [(Gm.setCells_keep b (Gm.ints t) 53 Y).2.2.2.2 _ (by have := HN.out.2.2.2.2.2.2; omega)]
     exact HNY.out.1
    ·obtain ⟨cs, hty⟩ := hA.ty
     exact HKY.out.trans (Gm.KeepI.other (Gm.setCells_keep b (Gm.ints t) 53 Y).2.2.2.2 hty)
   clear hA hO hw
   go_wp2_with (first
    | refine wpList_load_row rfl 29 _ rfl _ rfl 29 (Gm.ints t).toArray (0, 0) _ N2 hu rfl hi49 ?_
    | refine wpList_store_mid rfl 29 _ _ rfl b 53 (Gm.ints t).toArray rfl rfl hth hi49 h1t ?_)
   go_meet
   exact HF.out
  ·have e1 : ((q : Int) == want) = false := by simpa using hw
   have HE : Hid (r = tt) := by show _ = _; rw [← HR.out, if_neg hw]
   have HF : Hid (Gm.G w0 B b an n cn af m cf l want ms r Y) := by rw [HE.out]; exact HGY.out
   clear hw
   go_wp2_with fail
   go_meet
   exact ⟨HF.out, HNY.out.1, HKY.out⟩
 case rest =>
 rename World => wc
 obtain ⟨v, hA, hO⟩ := hcut.1.game
 obtain ⟨va, vc, rfl⟩ := Rk.own_shape hO
 rw [HN.out.2.2.2.2.1] at hA hO
 have hcut2 := hcut.2.1
 have HKC : Hid (Gm.KeepI X wc) := hcut.2.2
 have HC : Hid (Gm.G w0 B b an n cn af m cf l want ms r wc ∧ wc.heap[X.heap.size]? = some (.cells #[.int .i64 p1, .int .i64 p2, .int .i64 p3, .int .i64 p4, .int .i64 p5] 80 (0, 0)) ∧ Gm.At wc b an n cn af m cf l (.slice va q vc) want r ∧ wc.ownsRow B 80 5 (.slice va q vc) q (Gm.mvs ms)) := ⟨hcut.1, hcut2, hA, hO⟩
 have hBw : B ≤ wc.heap.size := by have h1 := hcut.1.le; have h2 := hcut.1.fr.size; omega
 obtain ⟨⟨y0, y1, y2, y3, y4⟩, c51⟩ : (wc.cell? ⟨X.heap.size, 0, none⟩ = some (.int .i64 p1) ∧ wc.cell? ⟨X.heap.size, 1, none⟩ = some (.int .i64 p2) ∧ wc.cell? ⟨X.heap.size, 2, none⟩ = some (.int .i64 p3) ∧ wc.cell? ⟨X.heap.size, 3, none⟩ = some (.int .i64 p4) ∧ wc.cell? ⟨X.heap.size, 4, none⟩ = some (.int .i64 p5)) ∧ wc.cell? ⟨b, 51, none⟩ = some (.slice va q vc) := ⟨by have := hcut2; simp [World.cell?, this], hA.mv⟩
 have hXw : X.heap.size < wc.heap.size := (Array.getElem?_eq_some_iff.1 hcut2).1
 have hbw : b < wc.heap.size := hA.lt
 have F6 : Hid (∀ (W5 W6 : World) (u : Value), Below wc.heap.size wc W5 → W5.grownBy W6 (Value.slice va q vc).ownBlock → W6.ownsRow B 80 5 u (q + 1) (Gm.mvs ms ++ [.int .i64 p1, .int .i64 p2, .int .i64 p3, .int .i64 p4, .int .i64 p5]) → (W6.cell? ⟨b, 51, none⟩ = some (.slice va q vc) ∧ W6.frozen? ⟨b, 51, none⟩ = false) ∧ Gm.G w0 B b an n cn af m cf l want (ms ++ [⟨p1, p2, p3, p4, p5⟩]) r (W6.setCell ⟨b, 51, none⟩ u) ∧ Gm.KeepI X (W6.setCell ⟨b, 51, none⟩ u)) := fun W5 W6 u hb hg hO6 => by
  have hq := HN.out.2.2.2.2.1
  have g5 := HC.out.1.below hb
  have hA5 := HC.out.2.2.1.keep (hb.block b HC.out.2.2.1.lt)
  have hO5 : W5.ownsRow B 80 5 (.slice va q vc) ms.length (Gm.mvs ms) := by
   rw [hq]
   exact ⟨HC.out.2.2.2.1, HC.out.2.2.2.2.imp id fun ⟨g, cap, cur, hv, e1, e2, e3⟩ => ⟨g, cap, cur, hv, e1, (hb.block g (Array.getElem?_eq_some_iff.1 e2).1).trans e2, e3⟩⟩
  obtain ⟨k1, k2⟩ := Gm.G.grown (mv := ⟨p1, p2, p3, p4, p5⟩) hA5 hO5 g5.fr g5.lt g5.le hg (by rw [hq]; exact hO6)
  obtain ⟨cs, hty⟩ := k1.ty
  exact ⟨⟨k1.mv, by have := (k1.th 51 (by omega)).2; simpa using this⟩, k2, ((HKC.out.trans (Gm.KeepI.below hb)).trans (Gm.KeepI.grown hO5 hg)).trans (Gm.KeepI.other (fun k hk => Below.heap_setCell _ _ _ _ hk) hty)⟩
 have own5 : wc.ownsRow B 80 5 (.slice va q vc) q (Gm.mvs ms) := hO
 clear hcut hcut2 HGY HNY hA hO
 go_upto_region 3 with fail
 go_region_law (first
  | ((with_reducible refine Gm.at_op2 (Op.call { callee := Callee.builtin Builtin.append, args := #[.tmp 24, .tmp 26], argTypes := #[38, 38] }) ?hop ?_); (case hop => with_reducible rfl); go_loud (refine step_append_lies _ rfl (.tmp 24) (.tmp 26) 38 rfl B 80 i0 _ 5 40 Tryz.underlying38 hi0 hz0 hz1 hz2 rfl (by decide) (.slice va q vc) q (Gm.mvs ms) (by simp [Act.eval]) (by exact own5.alloc _) ⟨wc.heap.size, 0, none⟩ 1 1 [.int .i64 p1, .int .i64 p2, .int .i64 p3, .int .i64 p4, .int .i64 p5] (by simp [Act.eval]) rfl (by exact World.news_of_block (heap_alloc_new wc (.cells #[.int .i64 p1, .int .i64 p2, .int .i64 p3, .int .i64 p4, .int .i64 p5] 80))) (by simp [Value.oneCell']) (by decide) (by unfold maxLen; omega) (by omega) (by simp; omega) (wc.heap.size + 1) (by simp) ?_); intro g6 c6 W6 o6 q6 hg6 hl6; obtain ⟨⟨z0, z1⟩, RN⟩ := F6.out (wc.alloc (.cells #[.int .i64 p1, .int .i64 p2, .int .i64 p3, .int .i64 p4, .int .i64 p5] 80)) W6 _ ((Below.refl _ wc).alloc (Nat.le_refl _) _) (by exact ⟨q6.os, q6.tape, q6.output, q6.size, q6.block⟩) o6)
  | fail)
 all_goals
  have HRN : Hid _ := RN
  clear RN o6 q6 hg6 hl6 z0 z1
  go_wp2
  go_end0
  exact ⟨rfl, HRN.out⟩
end Go.Proofs
namespace Go.Proofs
open Go.RowKit Go.Shelf
def Gm.goes (want : Int) : List Mv × List Int → List (Mv × List Int) → List Mv × List Int
 | p, [] => p
 | p, (m, t) :: r => Gm.goes want (p.1 ++ [m], if (p.1.length : Int) = want then t else p.2) r
theorem Gm.goes_append (want : Int) : ∀ (a b : List (Mv × List Int)) (p : List Mv × List Int), Gm.goes want p (a ++ b) = Gm.goes want (Gm.goes want p a) b
 | [], b, p => rfl
 | (m, t) :: r, b, p => by rw [List.cons_append, Gm.goes, Gm.goes]; exact Gm.goes_append want r b _
theorem Gm.goes_length (want : Int) : ∀ (a : List (Mv × List Int)) (p : List Mv × List Int), (Gm.goes want p a).1.length = p.1.length + a.length
 | [], p => rfl
 | (m, t) :: r, p => by rw [Gm.goes, Gm.goes_length want r]; simp; omega
theorem Gm.goes_moves (want : Int) : ∀ (a : List (Mv × List Int)) (p : List Mv × List Int), (Gm.goes want p a).1 = p.1 ++ a.map (·.1)
 | [], p => by simp [Gm.goes]
 | (m, t) :: r, p => by rw [Gm.goes, Gm.goes_moves want r]; simp
set_option maxRecDepth 20000 in
set_option maxHeartbeats 16000000 in
theorem Tryz.fault_any (w0 : World) (B b : Nat) (an : Option Addr) (n cn : Nat) (af : Option Addr) (m cf : Nat) (l : List Int) (want : Int) (p : List Mv × List Int) (i : Nat) (e : Int) (X : World) (hG : Gm.G w0 B b an n cn af m cf l want p.1 p.2 X) (hl : p.1.length ≤ 10000) :
  Calls Tryz.prog 84 #[.pointer (some ⟨b, 0, none⟩), .int .i64 i, .int .i64 e] X fun e' w' => e' = .returned (.tuple #[]) ∧ Gm.G w0 B b an n cn af m cf l want (Gm.goes want p (Gm.fault l i e)).1 (Gm.goes want p (Gm.fault l i e)).2 w' ∧ Gm.KeepI X w' := by
 obtain ⟨v, hA, hO⟩ := hG.game
 have hll := hA.ll
 have hst := hA.st
 obtain ⟨w1, hw1⟩ : ∃ z, (X.alloc (.cells #[.int .i64 0, .int .i64 0, .int .i64 0, .int .i64 0, .int .i64 0, .int .i64 0, .int .i64 0, .int .i64 0, .int .i64 0, .int .i64 0, .int .i64 0, .int .i64 0, .int .i64 0, .int .i64 0, .int .i64 0, .int .i64 0, .int .i64 0, .int .i64 0, .int .i64 0, .int .i64 0, .int .i64 0, .int .i64 0, .int .i64 0, .int .i64 0, .int .i64 0, .int .i64 0, .int .i64 0, .int .i64 0, .int .i64 0, .int .i64 0, .int .i64 0, .int .i64 0, .int .i64 0, .int .i64 0, .int .i64 0, .int .i64 0, .int .i64 0, .int .i64 0, .int .i64 0, .int .i64 0, .int .i64 0, .int .i64 0, .int .i64 0, .int .i64 0, .int .i64 0, .int .i64 0, .int .i64 0, .int .i64 0, .int .i64 0] 29)).setRow X.heap.size (Gm.ints l).toArray = z := ⟨_, rfl⟩
 have N1a : (X.alloc (.cells #[.int .i64 0, .int .i64 0, .int .i64 0, .int .i64 0, .int .i64 0, .int .i64 0, .int .i64 0, .int .i64 0, .int .i64 0, .int .i64 0, .int .i64 0, .int .i64 0, .int .i64 0, .int .i64 0, .int .i64 0, .int .i64 0, .int .i64 0, .int .i64 0, .int .i64 0, .int .i64 0, .int .i64 0, .int .i64 0, .int .i64 0, .int .i64 0, .int .i64 0, .int .i64 0, .int .i64 0, .int .i64 0, .int .i64 0, .int .i64 0, .int .i64 0, .int .i64 0, .int .i64 0, .int .i64 0, .int .i64 0, .int .i64 0, .int .i64 0, .int .i64 0, .int .i64 0, .int .i64 0, .int .i64 0, .int .i64 0, .int .i64 0, .int .i64 0, .int .i64 0, .int .i64 0, .int .i64 0, .int .i64 0, .int .i64 0] 29)).heap[X.heap.size]? = some (.cells #[.int .i64 0, .int .i64 0, .int .i64 0, .int .i64 0, .int .i64 0, .int .i64 0, .int .i64 0, .int .i64 0, .int .i64 0, .int .i64 0, .int .i64 0, .int .i64 0, .int .i64 0, .int .i64 0, .int .i64 0, .int .i64 0, .int .i64 0, .int .i64 0, .int .i64 0, .int .i64 0, .int .i64 0, .int .i64 0, .int .i64 0, .int .i64 0, .int .i64 0, .int .i64 0, .int .i64 0, .int .i64 0, .int .i64 0, .int .i64 0, .int .i64 0, .int .i64 0, .int .i64 0, .int .i64 0, .int .i64 0, .int .i64 0, .int .i64 0, .int .i64 0, .int .i64 0, .int .i64 0, .int .i64 0, .int .i64 0, .int .i64 0, .int .i64 0, .int .i64 0, .int .i64 0, .int .i64 0, .int .i64 0, .int .i64 0] 29 (0, 0)) := heap_alloc_new X _
 have N1 : w1.heap[X.heap.size]? = some (.cells (Gm.ints l).toArray 29 (0, 0)) := by rw [← hw1]; exact setRow_heap _ _ _ _ _ _ N1a
 have B1 : Below X.heap.size X w1 := by rw [← hw1]; exact Tk.below_row ((Below.refl _ X).alloc (Nat.le_refl _) _) (Nat.le_refl _) _
 have hu := Tryz.underlying29
 have hi : (Tryz.prog.info? 29).map (·.size) = some (Gm.ints l).length := by rw [Gm.ints_length, hll]; kernel_rfl
 have hi2 : (Tryz.prog.info? 29).map (·.size) = some (Gm.ints l).toArray.size := by simpa using hi
 have hi3 : (#[.int .i64 0, .int .i64 0, .int .i64 0, .int .i64 0, .int .i64 0, .int .i64 0, .int .i64 0, .int .i64 0, .int .i64 0, .int .i64 0, .int .i64 0, .int .i64 0, .int .i64 0, .int .i64 0, .int .i64 0, .int .i64 0, .int .i64 0, .int .i64 0, .int .i64 0, .int .i64 0, .int .i64 0, .int .i64 0, .int .i64 0, .int .i64 0, .int .i64 0, .int .i64 0, .int .i64 0, .int .i64 0, .int .i64 0, .int .i64 0, .int .i64 0, .int .i64 0, .int .i64 0, .int .i64 0, .int .i64 0, .int .i64 0, .int .i64 0, .int .i64 0, .int .i64 0, .int .i64 0, .int .i64 0, .int .i64 0, .int .i64 0, .int .i64 0, .int .i64 0, .int .i64 0, .int .i64 0, .int .i64 0, .int .i64 0] : Array Value).size = (Gm.ints l).toArray.size := by simp [Gm.ints_length, hll]
 have h1c : (Gm.ints l).toArray.all (·.oneCell') = true := all_oneCell_toArray (Gm.ints_one l)
 obtain ⟨w2, hw2⟩ : ∃ z, w1.setCell ⟨X.heap.size, 48, none⟩ (.int .i64 2) = z := ⟨_, rfl⟩
 have N2 : w2.heap[X.heap.size]? = some (.cells (Gm.ints (l.set 48 2)).toArray 29 (0, 0)) := by rw [← hw2]; exact Gm.put_row N1
 have B2 : Below X.heap.size X w2 := by rw [← hw2]; exact B1.setCell (p := ⟨X.heap.size, 48, none⟩) (Nat.le_refl _) _
 have c48 : w1.cell? ⟨X.heap.size, 48, none⟩ = some (.int .i64 (l.getD 48 0)) := by
  simp only [World.cell?, N1]
  rw [Gm.ints_get (by omega)]
  rfl
 have f48 : w1.frozen? ⟨X.heap.size, 48, none⟩ = false := by simp [World.frozen?, N1]
 have hi4 : (Tryz.prog.info? 29).map (·.size) = some (Gm.ints (l.set 48 2)).toArray.size := by
  have : (Gm.ints (l.set 48 2)).toArray.size = (Gm.ints l).toArray.size := by simp [Gm.ints]
  rw [this]; exact hi2
 have HC : Hid _ := Tryz.add_any w0 B b an n cn af m cf l want p.1 p.2 (l.set 48 2) ⟨i, 0, 6, i, e⟩ w2 (hG.below B2) (by simpa using hll) (by omega)
 have HKX : Hid (Gm.KeepI X w2) := Gm.KeepI.below B2
 have HW1 : Hid _ := hw1
 have HW2 : Hid _ := hw2
 clear hG hA hO hll hw1 hw2 N1 B1 B2 hl
 go_enter Tryz.func84, Tryz.ntmps84
 go_upto_region 1 with (first
  | refine wpList_load_mid rfl 29 _ rfl b 2 rfl (Gm.ints l) _ hst hu rfl hi ?_
  | (refine wpList_store_row rfl 29 _ _ rfl X.heap.size (Gm.ints l).toArray rfl rfl 29 _ N1a hi2 hi3 h1c ?_; rw [HW1.out]))
 go_upto_region 2 with fail
 rw [HW2.out]
 go_wp2_with (first
  | refine wpList_load_row rfl 29 _ rfl _ rfl 29 (Gm.ints (l.set 48 2)).toArray (0, 0) _ N2 hu rfl hi4 ?_
  | fail)
 refine Calls.mono HC.out ?_
 rintro e' W3 ⟨rfl, g3, k3⟩
 have HG3 : Hid _ := g3
 have HK3 : Hid (Gm.KeepI X W3) := HKX.out.trans k3
 clear g3 k3 HC
 go_wp2
 go_end0
 exact ⟨rfl, HG3.out, HK3.out⟩
end Go.Proofs
