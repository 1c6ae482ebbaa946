import Derived.Test.YtbcafacolohgbaaDoorTrPar
import Derived.Laws.CopyOwn
import Derived.Deep.RegionLaw
/-
  append to a named slice type, and copy of elements of several cells.
-/
namespace Go.Proofs
open Go.RowKit
open Go.Proofs.Mk

theorem Tr.run_append_types {P : Program} (w : World) (t t' ty e e' : TypeId) (i : TypeInfo) (hi : P.info? e = some i) (ht : P.underlying t = some (.slice e)) (ht' : P.underlying t' = some (.slice e')) (b : Option Addr) (n c : Nat) (x : Value) :
    (Builtin.append_ #[t, t'] ty #[.slice b n c, x]).run P w = (Builtin.append_ #[t, t] ty #[.slice b n c, x]).run P w := by
  simp [Builtin.append_, run_underlying ht, run_underlying ht', sizeOf, typeInfo, hi]

theorem Tr.wpList_append {P : Program} (w : World) {ops : Array Oper} {rest : List Oper} {o : Oper} {a : Act} {Q : Exit → Act → World → Prop} (hgd : o.guard = none) (s x : Operand) (t t' : TypeId)
    (ho : o.op = .call { callee := .builtin .append, args := #[s, x], argTypes := #[t, t'] })
    (base : Nat) (e e' : TypeId) (i : TypeInfo) (z : Value) (size bytes : Nat) (ht : P.underlying t = some (.slice e)) (ht' : P.underlying t' = some (.slice e')) (hi : P.info? e = some i) (hz : i.zero = some z)
    (hsize : i.size = size) (hby : i.bytes = bytes) (hzs : z.cells.size = size) (hsz : 0 < size)
    (v : Value) (n : Nat) (xs : List Value) (hs : a.eval s = v) (hown : w.ownsRow base e size v n xs)
    (ad : Addr) (m c : Nat) (news : List Value) (hx : a.eval x = .slice (some ad) m c) (hl : news.length = m * size) (hnews : ∀ j u, news[j]? = some u → w.cell? (ad.add j) = some u) (h1 : ∀ u ∈ news, u.oneCell' = true)
    (hm : 0 < m) (h63 : n + m ≤ maxLen) (hbytes : (n + m) * bytes ≤ 140737488355328) (hbase : base ≤ w.heap.size) (H : Nat) (hH : w.heap.size = H)
    (h : ∀ g cap w', w'.ownsRow base e size (.slice (some ⟨g, 0, none⟩) (n + m) cap) (n + m) (xs ++ news) → w.grownBy w' v.ownBlock → (v.ownBlock = some g ∨ g = H) → g < w'.heap.size → wpList P ops Q rest (a.put o.dst (.slice (some ⟨g, 0, none⟩) (n + m) cap)) w') : wpList P ops Q (o :: rest) a w := by
  refine wpList_plain hgd fun K hK => ?_
  obtain ⟨g, cap, w', hr, h2, h3, h4, h5⟩ := run_append_lies (P := P) w t o.type base e i z size bytes ht hi hz hsize hby hzs hsz v n xs hown ad m c news hl hnews h1 hm h63 hbytes hbase H hH
  obtain ⟨vb, vc, rfl⟩ := Mk.own_shape hown
  have hr' := (Tr.run_append_types (P := P) w t t' o.type e e' i hi ht ht' vb n vc (.slice (some ad) m c)).trans hr
  unfold Oper.wp execOp
  simp only [ho, resolve, invoke, builtin, Sem.run_bind, Sem.run_pure, Result.andThen_ok, List.map_toArray, List.map_cons, List.map_nil, hs, hx, hr']
  exact hK _ _ (h g cap w' h2 h3 h4 h5)

theorem Tr.run_copy {P : Program} (w : World) (dT sT ty elem : TypeId) (size : Nat) (g o dLen dCap : Nat) (a : Addr) (sLen sCap : Nat) (cur : Array Value) (t : TypeId) (cs : List Value)
    (hu : P.underlying dT = some (.slice elem)) (hs : (P.info? elem).map (·.size) = some size)
    (hg : w.heap[g]? = some (.cells cur t (0, 0))) (hn : cs.length = Nat.min sLen dLen * size)
    (hsrc : ∀ j v, cs[j]? = some v → w.cell? (a.add j) = some v) (hfit : o + cs.length ≤ cur.size) (h1 : ∀ v ∈ cs, v.oneCell' = true) :
    (Builtin.copy_ #[dT, sT] ty #[.slice (some ⟨g, o, none⟩) dLen dCap, .slice (some a) sLen sCap]).run P w =
      .ok (goInt (Nat.min sLen dLen)) (w.setRow g (cur.toList.take o ++ cs ++ cur.toList.drop (o + cs.length)).toArray) := by
  have hl := run_loadCells_list (P := P) w a cs hsrc
  have hst := run_storeCells_at P g o t cs 0 cur w hg (by simpa using hfit) h1
  cases hq : P.info? elem with
  | none => simp [hq] at hs
  | some i =>
    have hi : i.size = size := by simpa [hq] using hs
    simp [Builtin.copy_, run_underlying hu, Builtin.lenOf, Builtin.firstCells, sizeOf, typeInfo, hq, hi, ← hn, hl, hst]

theorem Tr.wpList_copy {P : Program} {w : World} {ops : Array Oper} {rest : List Oper} {o : Oper} {a : Act} {Q : Exit → Act → World → Prop} (hgd : o.guard = none) (d s : Operand) (dT sT : TypeId)
    (ho : o.op = .call { callee := .builtin .copy, args := #[d, s], argTypes := #[dT, sT] }) (elem : TypeId) (size : Nat) (hu : P.underlying dT = some (.slice elem)) (hsz : (P.info? elem).map (·.size) = some size)
    (g off dLen dCap : Nat) (ad : Addr) (sLen sCap : Nat) (hd : a.eval d = .slice (some ⟨g, off, none⟩) dLen dCap) (hs : a.eval s = .slice (some ad) sLen sCap)
    (cur : Array Value) (t : TypeId) (hg : w.heap[g]? = some (.cells cur t (0, 0))) (cs : List Value) (hn : cs.length = Nat.min sLen dLen * size)
    (hsrc : ∀ j v, cs[j]? = some v → w.cell? (ad.add j) = some v) (hfit : off + cs.length ≤ cur.size) (h1 : ∀ v ∈ cs, v.oneCell' = true)
    (h : wpList P ops Q rest (a.put o.dst (goInt (Nat.min sLen dLen))) (w.setRow g (cur.toList.take off ++ (cs ++ cur.toList.drop (off + cs.length))).toArray)) : wpList P ops Q (o :: rest) a w := by
  refine wpList_plain hgd fun K hK => ?_
  have hrun := Tr.run_copy (P := P) w dT sT o.type elem size g off dLen dCap ad sLen sCap cur t cs hu hsz hg hn hsrc hfit h1
  unfold Oper.wp
  simp [execOp, ho, resolve, invoke, builtin, hd, hs, hrun, Result.andThen]
  exact hK _ _ h

/-- A whole row is written over. -/
theorem Tr.wpList_copy_all {P : Program} {w : World} {ops : Array Oper} {rest : List Oper} {o : Oper} {a : Act} {Q : Exit → Act → World → Prop} (hgd : o.guard = none) (d s : Operand) (dT sT : TypeId)
    (ho : o.op = .call { callee := .builtin .copy, args := #[d, s], argTypes := #[dT, sT] }) (elem : TypeId) (size : Nat) (hu : P.underlying dT = some (.slice elem)) (hsz : (P.info? elem).map (·.size) = some size)
    (g k dCap : Nat) (ad : Addr) (sCap : Nat) (hd : a.eval d = .slice (some ⟨g, 0, none⟩) k dCap) (hs : a.eval s = .slice (some ad) k sCap)
    (cur : Array Value) (t : TypeId) (hg : w.heap[g]? = some (.cells cur t (0, 0))) (cs : List Value) (hn : cs.length = k * size)
    (hsrc : ∀ j v, cs[j]? = some v → w.cell? (ad.add j) = some v) (hfit : cur.size = cs.length) (h1 : ∀ v ∈ cs, v.oneCell' = true)
    (h : ∀ w' v, Hid (w'.heap[g]? = some (.cells cs.toArray t (0, 0))) → Hid (w.grownBy w' (some g)) → wpList P ops Q rest (a.put o.dst v) w') : wpList P ops Q (o :: rest) a w := by
  refine Tr.wpList_copy hgd d s dT sT ho elem size hu hsz g 0 k dCap ad k sCap hd hs cur t hg cs (by rw [hn]; simp) hsrc (by omega) h1 ?_
  refine h _ _ ?_ ?_
  · show _ = _
    rw [setRow_heap w g _ _ t _ hg]
    have : cur.toList.drop (0 + cs.length) = [] := List.drop_eq_nil_of_le (by simp; omega)
    rw [this]
    simp
  · exact ⟨rfl, rfl, rfl, by simp [World.setRow], fun j _ hr => setRow_other w g j _ (by intro e; subst e; exact hr rfl)⟩

theorem Tryd.infoElem : (Tryd.prog.info? 25).map (fun i => (i.zero, i.size, i.bytes)) = some (some (.agg #[.string ⟨#[]⟩, .slice none 0 0, .slice none 0 0, .string ⟨#[]⟩]), 4, 80) := by kernel_rfl

end Go.Proofs

/-
  The contract of the stack's push.
-/
namespace Go.Proofs
open Go.RowKit
open Go.Proofs.Mk

set_option maxHeartbeats 4000000 in
theorem Tryd.push_any (bp B gm n : Nat) (vE vO : Value) (cs : List Value) (c0 c1 c2 c3 : Value) (w : World) (hp : w.heap[bp]? = some (.cells #[vE, vO] 76 (0, 0))) (hB : B ≤ w.heap.size)
    (hE : w.ownsRow B 25 4 vE n cs) (hm : w.heap[gm]? = some (.cells #[c0, c1, c2, c3] 25 (0, 0))) (h1 : ∀ u ∈ [c0, c1, c2, c3], u.oneCell' = true) (hn : n ≤ 1000000) :
    Calls Tryd.prog 70 #[.pointer (some ⟨bp, 0, none⟩), .slice (some ⟨gm, 0, none⟩) 1 1] w fun e w' => e = .returned (.tuple #[]) ∧ Tk.But (fun k => k = bp ∨ vE.ownBlock = some k) w w' ∧
      ∃ g cap, (vE.ownBlock = some g ∨ w.heap.size ≤ g) ∧ w'.heap[bp]? = some (.cells #[.slice (some ⟨g, 0, none⟩) (n + 1) cap, vO] 76 (0, 0)) ∧ w'.ownsRow B 25 4 (.slice (some ⟨g, 0, none⟩) (n + 1) cap) (n + 1) (cs ++ [c0, c1, c2, c3]) := by
  obtain ⟨i0, hi, hz0, hz1, hz2⟩ := info_parts Tryd.infoElem
  have k0 : w.cell? ⟨bp, 0, none⟩ = some vE := by simp [World.cell?, hp]
  obtain ⟨ae, ce, rfl⟩ := Mk.own_shape hE
  have hne := Tr.row_ne hE hp (by decide)
  have HP : Hid _ := hp
  have HM : Hid _ := hm
  have HE : Hid _ := hE
  have H1 : Hid _ := h1
  clear hp hm hE h1
  go_enter Tryd.func70, Tryd.ntmps70
  go_wp2_with (at_builtin; refine Tr.wpList_append _ rfl _ _ 73 23 rfl B 25 25 i0 _ 4 80 Tryd.underlying73 Tryd.underlying23 hi hz0 hz1 hz2 rfl (by decide) _ _ _ rfl (by exact HE.out) ⟨gm, 0, none⟩ 1 1 [c0, c1, c2, c3] rfl rfl ?c1 (by exact H1.out) (by decide) ?c3 ?c4 hB _ rfl ?_)
  case c1 => exact World.news_of_block (by exact HM.out)
  case c3 => unfold maxLen; omega
  case c4 => omega
  intro g cap W1 o1 g1 hg hlt
  have P1 : W1.heap[bp]? = some (.cells #[.slice ae n ce, vO] 76 (0, 0)) := (g1.block bp (Array.getElem?_eq_some_iff.1 HP.out).1 (Ne.symm hne)).trans HP.out
  have k1 : W1.cell? ⟨bp, 0, none⟩ = some (.slice ae n ce) := by simp [World.cell?, P1]
  have f1 : W1.frozen? ⟨bp, 0, none⟩ = false := by simp [World.frozen?, P1]
  have O1 : Hid _ := o1
  have G1 : Hid _ := g1
  have HP1 : Hid _ := P1
  clear o1 g1 P1 k0
  go_wp2
  go_end0
  have hgb : g ≠ bp := by
    rcases hg with h | h
    · intro e; subst e; exact hne h
    · have := (Array.getElem?_eq_some_iff.1 HP.out).1; omega
  refine ⟨rfl, ⟨G1.out.os, G1.out.tape, G1.out.output, by have := G1.out.size; simpa [World.setCell] using this, fun k hk he => ?_⟩, g, cap, hg.imp id (fun h => by omega), ?_, ?_⟩
  · rw [Below.heap_setCell _ _ _ _ (by show k ≠ bp; exact fun e => he (.inl e))]
    exact G1.out.block k hk (fun e => he (.inr e.symm))
  · have := HP1.out; simp [World.setCell, Array.getElem?_modify, this]
  · exact Tr.own_kept O1.out fun k hk => Below.heap_setCell _ _ _ _ (by have e : g = k := Option.some.inj hk; show k ≠ bp; omega)

end Go.Proofs

/-
  The contract of the stack's takeOff.
-/
namespace Go.Proofs
open Go.RowKit
open Go.Proofs.Mk

theorem Tr.own_block {X : World} {B : Nat} {e : TypeId} {s g n cap : Nat} {cs : List Value} (h : X.ownsRow B e s (.slice (some ⟨g, 0, none⟩) n cap) n cs) : ∃ cur, B ≤ g ∧ X.heap[g]? = some (.cells cur e (0, 0)) ∧ n ≤ cap ∧ cap ≤ maxLen ∧ cur.size = cap * s ∧ cur.toList.take (n * s) = cs := by
  rcases h.2 with ⟨h0, _⟩ | ⟨g', cap', cur, hv, hb, hg, h1, h2, h3, h4⟩
  · cases h0
  · cases hv
    exact ⟨cur, hb, hg, h1, h2, h3, h4⟩
theorem Tr.own_cut {X : World} {B : Nat} {e : TypeId} {s g n m cap : Nat} {cs ds : List Value} (h : X.ownsRow B e s (.slice (some ⟨g, 0, none⟩) n cap) n (cs ++ ds)) (hm : m ≤ n) (hl : cs.length = m * s) : X.ownsRow B e s (.slice (some ⟨g, 0, none⟩) m cap) m cs := by
  obtain ⟨cur, hb, hg, h1, h2, h3, h4⟩ := Tr.own_block h
  refine ⟨hl, .inr ⟨g, cap, cur, rfl, hb, hg, by omega, h2, h3, ?_⟩⟩
  have := congrArg (List.take (m * s)) h4
  rw [List.take_take, Nat.min_eq_left (Nat.mul_le_mul_right _ hm), ← hl, List.take_left] at this
  rw [← hl]
  exact this
theorem Tr.own_at {X : World} {B : Nat} {e : TypeId} {s g n cap : Nat} {cs : List Value} (h : X.ownsRow B e s (.slice (some ⟨g, 0, none⟩) n cap) n cs) {j : Nat} {u : Value} (hu : cs[j]? = some u) : X.cell? ⟨g, j, none⟩ = some u := by
  have := h.cells rfl j u hu
  have ea : (⟨g, 0, none⟩ : Addr).add j = ⟨g, j, none⟩ := by unfold Addr.add; split <;> simp_all
  rw [ea] at this
  exact this

set_option maxHeartbeats 4000000 in
theorem Tryd.takeOff_none (bp gE cE n : Nat) (vO : Value) (w : World) (hp : w.heap[bp]? = some (.cells #[.slice (some ⟨gE, 0, none⟩) n cE, vO] 76 (0, 0))) (_hn : n ≤ 1000000) :
    Calls Tryd.prog 71 #[.pointer (some ⟨bp, 0, none⟩), .int .i64 n] w fun e w' => e = .returned (.slice none 0 0) ∧ w' = w := by
  have k0 : w.cell? ⟨bp, 0, none⟩ = some (.slice (some ⟨gE, 0, none⟩) n cE) := by simp [World.cell?, hp]
  clear hp
  go_enter Tryd.func71, Tryd.ntmps71
  go_wp2
  go_ret
  exact ⟨rfl, rfl⟩

set_option maxHeartbeats 4000000 in
set_option maxRecDepth 20000 in
theorem Tryd.takeOff_some (bp B gE cE m k : Nat) (vO : Value) (cs ds : List Value) (w : World) (hp : w.heap[bp]? = some (.cells #[.slice (some ⟨gE, 0, none⟩) (m + k) cE, vO] 76 (0, 0))) (_hB : B ≤ w.heap.size)
    (hE : w.ownsRow B 25 4 (.slice (some ⟨gE, 0, none⟩) (m + k) cE) (m + k) (cs ++ ds)) (hl : cs.length = m * 4) (hk : 0 < k) (h1 : ∀ u ∈ ds, u.oneCell' = true) (hn : m + k ≤ 1000000) :
    Calls Tryd.prog 71 #[.pointer (some ⟨bp, 0, none⟩), .int .i64 m] w fun e w' => e = .returned (.slice (some ⟨w.heap.size, 0, none⟩) k k) ∧ Tk.But (fun k => k = bp) w w' ∧ w.heap.size < w'.heap.size ∧
      w'.heap[bp]? = some (.cells #[.slice (some ⟨gE, 0, none⟩) m cE, vO] 76 (0, 0)) ∧ w'.heap[w.heap.size]? = some (.cells ds.toArray 25 (0, 0)) := by
  obtain ⟨i0, hi, hz0, hz1, hz2⟩ := info_parts Tryd.infoElem
  have k0 : w.cell? ⟨bp, 0, none⟩ = some (.slice (some ⟨gE, 0, none⟩) (m + k) cE) := by simp [World.cell?, hp]
  have hd : ((m : Int) == ((m : Int) + k)) = false := beq_eq_false_iff_ne.2 (by omega)
  obtain ⟨cur, hb, hg, hcap, hcm, hsz, htk⟩ := Tr.own_block hE
  have hcap' : m + k ≤ cE := hcap
  have hdl : ds.length = k * 4 := by have := hE.1; rw [List.length_append, hl] at this; omega
  have hbp := (Array.getElem?_eq_some_iff.1 hp).1
  have hgE := (Array.getElem?_eq_some_iff.1 hg).1
  have HP : Hid _ := hp
  have HE : Hid _ := hE
  have H1 : Hid _ := h1
  have HL : Hid (cs.length = m * 4 ∧ ds.length = k * 4 ∧ gE < w.heap.size ∧ bp < w.heap.size ∧ cE ≤ maxLen) := ⟨hl, hdl, hgE, hbp, hcm⟩
  have HC : Hid (∀ j u, ds[j]? = some u → w.cell? ⟨gE, m * 4 + j, none⟩ = some u) := fun j u hu => Tr.own_at hE (by rw [List.getElem?_append_right (by omega), hl, Nat.add_sub_cancel_left]; exact hu)
  clear hp hE h1 hb hg hcap hcm hsz htk hl hdl hgE cur
  go_enter Tryd.func71, Tryd.ntmps71
  go_wp2_with (at_make; refine wpList_make_full _ rfl _ _ 23 rfl w.heap.size 25 i0 _ 4 Tryd.underlying23 hi hz0 hz1 .i64 .i64 _ _ k rfl rfl ?m1 ?m2 ?m3 ?m4 (Nat.le_refl _) ?_)
  case m1 => go_num
  case m2 => go_num
  case m3 => rw [hz2]; omega
  case m4 => unfold maxLen; omega
  intro W1 o1 g1
  obtain ⟨cur, hb, hg, hcap, hcm, hsz, htk⟩ := Tr.own_block o1
  have P1 := (g1.block bp hbp (by simp)).trans HP.out
  have k1 : W1.cell? ⟨bp, 0, none⟩ = some (.slice (some ⟨gE, 0, none⟩) (m + k) cE) := by simp [World.cell?, P1]
  have G1 : Hid _ := g1
  have HG : Hid (W1.heap[w.heap.size]? = some (.cells cur 25 (0, 0)) ∧ cur.size = k * 4) := ⟨hg, hsz⟩
  have HP1 : Hid _ := P1
  clear o1 g1 hb hg hcap hcm hsz htk P1 k0 hi hz0 hz1 hz2 hd i0
  go_wp2_with (refine Tr.wpList_copy_all rfl _ _ 23 73 rfl 25 4 Tryd.underlying23 (by kernel_rfl) w.heap.size k k ⟨gE, m * 4, none⟩ (cE - m) rfl rfl cur 25 (by exact HG.out.1) ds ?c1 ?c2 ?c3 (by exact H1.out) ?_)
  case c1 => exact HL.out.2.1
  case c2 =>
    intro j u hu
    have ea : (⟨gE, m * 4, none⟩ : Addr).add j = ⟨gE, m * 4 + j, none⟩ := by unfold Addr.add; split <;> simp_all
    rw [ea, World.cell?_of_block (w := w) (G1.out.block gE HL.out.2.2.1 (by simp))]
    exact HC.out j u hu
  case c3 => rw [HG.out.2, HL.out.2.1]
  intro W2 vn HR HG2
  have hne : bp ≠ w.heap.size := by omega
  have P2 := (HG2.out.block bp (by have := G1.out.size; omega) (by intro e; exact hne (Option.some.inj e))).trans HP1.out
  have k2 : W2.cell? ⟨bp, 0, none⟩ = some (.slice (some ⟨gE, 0, none⟩) (m + k) cE) := by simp [World.cell?, P2]
  have f2 : W2.frozen? ⟨bp, 0, none⟩ = false := by simp [World.frozen?, P2]
  have HP2 : Hid _ := P2
  clear P2 k1
  go_wp2
  go_ret
  refine ⟨rfl, ⟨HG2.out.os.trans G1.out.os, HG2.out.tape.trans G1.out.tape, HG2.out.output.trans G1.out.output, by have := HG2.out.size; have := G1.out.size; simp [World.setCell]; omega, fun j hj he => ?_⟩, ?_, ?_, ?_⟩
  · rw [Below.heap_setCell _ _ _ _ (by show j ≠ bp; exact he), HG2.out.block j (by have := G1.out.size; omega) (by intro e; have := Option.some.inj e; omega)]
    exact G1.out.block j hj (by simp)
  · have := (Array.getElem?_eq_some_iff.1 HR.out).1; simpa [World.setCell] using this
  · have := HP2.out; simp [World.setCell, Array.getElem?_modify, this]
  · rw [Below.heap_setCell _ _ _ _ (by show w.heap.size ≠ bp; omega)]
    exact HR.out

end Go.Proofs

/-
  The contract of the parser's begin.
-/
namespace Go.Proofs
open Go.RowKit
open Go.Proofs.Mk

theorem Tr.at_op {P : Program} {ops : Array Oper} {o : Oper} {a : Act} {w : World} {K : Act → World → Prop} {Q : Exit → Act → World → Prop} {E : Prop} (x : Op) (_hop : o.op = x)
    (h : if Region.wanted o (yielded ops a.tmps) = true then Oper.wp P o a w K Q else E) : if Region.wanted o (yielded ops a.tmps) = true then Oper.wp P o a w K Q else E := h
theorem Tryd.infoIntR : (Tryd.prog.info? 3).map (fun i => (i.zero, i.size, i.bytes)) = some (some (.int .i64 0), 1, 8) := by kernel_rfl

set_option maxHeartbeats 4000000 in
theorem Tryd.begin_over (bp n c c' : Nat) (o o' : Option Addr) (kd at_ : Int) (nm tx : ByteArray) (va : Value) (w : World) (hbp : bp < w.heap.size) (h0 : w.cell? ⟨bp, 0, none⟩ = some (.slice o n c)) (h1 : w.cell? ⟨bp, 1, none⟩ = some (.slice o' 0 c')) (hn : 0 < n) :
    Calls Tryd.prog 46 #[.pointer (some ⟨bp, 0, none⟩), .agg #[.int .i64 kd, .int .i64 at_, .string nm, va, .string tx]] w fun e w' => e = .returned (.int .i64 4) ∧ Below w.heap.size w w' := by
  have HN : Hid (0 < n) := hn
  go_enter Tryd.func46, Tryd.ntmps46
  go_wp2_with fail
  refine (Tryd.over_any bp o' o 0 c' n c true _ (by rw [World.cell?_of_block (w := w) (Below.heap_alloc _ _ _ hbp)]; exact h0) (by rw [World.cell?_of_block (w := w) (Below.heap_alloc _ _ _ hbp)]; exact h1) (by have := HN.out; simp [this])).mono ?_
  rintro e W1 ⟨rfl, rfl⟩
  go_wp2
  go_ret
  exact ⟨rfl, (Below.refl _ w).alloc (Nat.le_refl _) _⟩

/-- What an inside parser's cells are. -/
structure Tr.In (bp gE cE gO cO n m p : Nat) (ht : ByteArray) (w : World) : Prop where
  h0 : w.cell? ⟨bp, 0, none⟩ = some (.slice (some ⟨gE, 0, none⟩) n cE)
  h1 : w.cell? ⟨bp, 1, none⟩ = some (.slice (some ⟨gO, 0, none⟩) (m + 1) cO)
  h2 : w.cell? ⟨gO, m, none⟩ = some (.int .i64 p)
  h3 : w.cell? ⟨gE, p * 4 + 3, none⟩ = some (.string ht)
  hp : p < n
  hn : n ≤ 1000000
  hm : m ≤ 1000000
theorem Tr.In.heap {bp gE cE gO cO n m p : Nat} {ht : ByteArray} {w w' : World} (h : Tr.In bp gE cE gO cO n m p ht w) (hb : Below w.heap.size w w') : Tr.In bp gE cE gO cO n m p ht w' := by
  have hc : ∀ (a : Addr) (v : Value), w.cell? a = some v → w'.cell? a = some v := fun a v hv => by rw [World.cell?_of_block (w := w) (hb.block _ (Mk.cell_lt hv))]; exact hv
  exact ⟨hc _ _ h.h0, hc _ _ h.h1, hc _ _ h.h2, hc _ _ h.h3, h.hp, h.hn, h.hm⟩

set_option maxHeartbeats 4000000 in
theorem Tryd.begin_text (bp gE cE gO cO n m p : Nat) (ht : ByteArray) (kd at_ : Int) (nm tx : ByteArray) (va : Value) (w : World) (hI : Tr.In bp gE cE gO cO n m p ht w) (hne : ht.data.toList ≠ []) :
    Calls Tryd.prog 46 #[.pointer (some ⟨bp, 0, none⟩), .agg #[.int .i64 kd, .int .i64 at_, .string nm, va, .string tx]] w fun e w' => e = .returned (.int .i64 4) ∧ Below w.heap.size w w' := by
  have A0 : Hid (Below w.heap.size w (w.alloc (.cells #[.int .i64 kd, .int .i64 at_, .string nm, va, .string tx] 78))) := (Below.refl _ w).alloc (Nat.le_refl _) _
  have hI0 := hI.heap A0.out
  obtain ⟨w0, hw0⟩ : ∃ x, w.alloc (.cells #[.int .i64 kd, .int .i64 at_, .string nm, va, .string tx] 78) = x := ⟨_, rfl⟩
  rw [hw0] at hI0
  have HI : Hid _ := hI0
  have HW : Hid (w.alloc (.cells #[.int .i64 kd, .int .i64 at_, .string nm, va, .string tx] 78) = w0) := hw0
  have he : ht.toList.isEmpty = false := by rw [Lib.toList_data]; simpa using hne
  have HA : Hid (Below w.heap.size w w0) := by show Below _ _ _; rw [← hw0]; exact A0.out
  clear hI hI0 hw0 hne A0
  go_enter Tryd.func46, Tryd.ntmps46
  go_wp2_with fail
  rw [HW.out]
  clear HW
  refine (Tryd.over_any bp _ _ (m + 1) _ n _ false _ HI.out.h0 HI.out.h1 (by simp)).mono ?_
  rintro e W1 ⟨rfl, rfl⟩
  go_wp2_with fail
  refine (Tryd.inside_any bp _ (m + 1) _ true _ HI.out.h1 (by simp)).mono ?_
  rintro e W2 ⟨rfl, rfl⟩
  go_wp2_with fail
  refine (Tryd.innermost_any bp gE cE gO cO n m p _ HI.out.h0 HI.out.h1 HI.out.h2 HI.out.hp HI.out.hn HI.out.hm).mono ?_
  rintro e W3 ⟨rfl, b3, hh⟩
  have k3 := (HI.out.heap b3).h3
  have B3 : Hid (Below w.heap.size w W3) := HA.out.trans (b3.mono HA.out.size)
  clear b3 hh
  go_wp2
  go_ret
  exact ⟨rfl, B3.out⟩

set_option maxHeartbeats 4000000 in
theorem Tryd.begin_deep (bp gE cE gO cO n m p : Nat) (ht : ByteArray) (kd at_ : Int) (nm tx : ByteArray) (va : Value) (w : World) (hI : Tr.In bp gE cE gO cO n m p ht w) (hem : ht.data.toList = []) (h24 : m + 1 = 24) :
    Calls Tryd.prog 46 #[.pointer (some ⟨bp, 0, none⟩), .agg #[.int .i64 kd, .int .i64 at_, .string nm, va, .string tx]] w fun e w' => e = .returned (.int .i64 2) ∧ Below w.heap.size w w' := by
  obtain rfl : m = 23 := by omega
  have A0 : Hid (Below w.heap.size w (w.alloc (.cells #[.int .i64 kd, .int .i64 at_, .string nm, va, .string tx] 78))) := (Below.refl _ w).alloc (Nat.le_refl _) _
  have hI0 := hI.heap A0.out
  obtain ⟨w0, hw0⟩ : ∃ x, w.alloc (.cells #[.int .i64 kd, .int .i64 at_, .string nm, va, .string tx] 78) = x := ⟨_, rfl⟩
  rw [hw0] at hI0
  have HI : Hid _ := hI0
  have HW : Hid (w.alloc (.cells #[.int .i64 kd, .int .i64 at_, .string nm, va, .string tx] 78) = w0) := hw0
  have he : ht.toList.isEmpty = true := by rw [Lib.toList_data]; simpa using hem
  have HA : Hid (Below w.heap.size w w0) := by show Below _ _ _; rw [← hw0]; exact A0.out
  clear hI hI0 hw0 hem A0
  go_enter Tryd.func46, Tryd.ntmps46
  go_wp2_with fail
  rw [HW.out]
  refine (Tryd.over_any bp _ _ 24 _ n _ false _ HI.out.h0 HI.out.h1 (by simp)).mono ?_
  rintro e W1 ⟨rfl, rfl⟩
  go_wp2_with fail
  refine (Tryd.inside_any bp _ 24 _ true _ HI.out.h1 (by simp)).mono ?_
  rintro e W2 ⟨rfl, rfl⟩
  go_wp2_with fail
  refine (Tryd.innermost_any bp gE cE gO cO n 23 p _ HI.out.h0 HI.out.h1 HI.out.h2 HI.out.hp HI.out.hn HI.out.hm).mono ?_
  rintro e W3 ⟨rfl, b3, hh⟩
  have k3 := (HI.out.heap b3).h3
  have k1 := (HI.out.heap b3).h1
  have HI3 : Hid _ := HI.out.heap b3
  have B3 : Hid (Below w.heap.size w W3) := HA.out.trans (b3.mono HA.out.size)
  clear b3 hh HW
  go_wp2
  go_ret
  exact ⟨rfl, B3.out⟩

set_option maxHeartbeats 4000000 in
theorem Tryd.begin_wide (bp gE cE gO cO n m p : Nat) (ht : ByteArray) (kd at_ : Int) (nm tx : ByteArray) (va : Value) (w : World) (hI : Tr.In bp gE cE gO cO n m p ht w) (hem : ht.data.toList = []) (h24 : m + 1 ≠ 24) (h64 : n = p + 1 + 64) :
    Calls Tryd.prog 46 #[.pointer (some ⟨bp, 0, none⟩), .agg #[.int .i64 kd, .int .i64 at_, .string nm, va, .string tx]] w fun e w' => e = .returned (.int .i64 2) ∧ Below w.heap.size w w' := by
  have A0 : Hid (Below w.heap.size w (w.alloc (.cells #[.int .i64 kd, .int .i64 at_, .string nm, va, .string tx] 78))) := (Below.refl _ w).alloc (Nat.le_refl _) _
  have hI0 := hI.heap A0.out
  obtain ⟨w0, hw0⟩ : ∃ x, w.alloc (.cells #[.int .i64 kd, .int .i64 at_, .string nm, va, .string tx] 78) = x := ⟨_, rfl⟩
  rw [hw0] at hI0
  have HI : Hid _ := hI0
  have HW : Hid (w.alloc (.cells #[.int .i64 kd, .int .i64 at_, .string nm, va, .string tx] 78) = w0) := hw0
  have he : ht.toList.isEmpty = true := by rw [Lib.toList_data]; simpa using hem
  have HA : Hid (Below w.heap.size w w0) := by show Below _ _ _; rw [← hw0]; exact A0.out
  have hd : (((m : Int) + 1) == 24) = false := beq_eq_false_iff_ne.2 (by omega)
  have HK : Hid (n = p + 1 + 64) := h64
  clear hI hI0 hw0 hem A0 h24 h64
  go_enter Tryd.func46, Tryd.ntmps46
  go_wp2_with fail
  rw [HW.out]
  refine (Tryd.over_any bp _ _ (m + 1) _ n _ false _ HI.out.h0 HI.out.h1 (by simp)).mono ?_
  rintro e W1 ⟨rfl, rfl⟩
  go_wp2_with fail
  refine (Tryd.inside_any bp _ (m + 1) _ true _ HI.out.h1 (by simp)).mono ?_
  rintro e W2 ⟨rfl, rfl⟩
  go_wp2_with fail
  refine (Tryd.innermost_any bp gE cE gO cO n m p _ HI.out.h0 HI.out.h1 HI.out.h2 HI.out.hp HI.out.hn HI.out.hm).mono ?_
  rintro e W3 ⟨rfl, b3, hh⟩
  have k3 := (HI.out.heap b3).h3
  have k1 := (HI.out.heap b3).h1
  have HI3 : Hid _ := HI.out.heap b3
  have B3 : Hid (Below w.heap.size w W3) := HA.out.trans (b3.mono HA.out.size)
  clear b3 hh HW
  go_wp2_with fail
  refine (Tryd.inside_any bp _ (m + 1) _ true _ HI3.out.h1 (by simp)).mono ?_
  rintro e W4 ⟨rfl, rfl⟩
  go_wp2_with fail
  refine (Tryd.pkids_any bp gE cE gO cO n m p _ HI3.out.h0 HI3.out.h1 HI3.out.h2 HI3.out.hp HI3.out.hn HI3.out.hm).mono ?_
  rintro e W5 ⟨rfl, b5, hh5⟩
  have B5 : Hid (Below w.heap.size w W5) := B3.out.trans (b5.mono B3.out.size)
  have hk5 : ((n : Int) - p - 1) = 64 := by have := HK.out; omega
  rw [hk5]
  clear b5 hh5 hk5
  go_wp2
  go_ret
  exact ⟨rfl, B5.out⟩

end Go.Proofs
