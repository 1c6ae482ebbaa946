/-
  block.nodes: which nodes stand in a block by itself.
-/
import Derived.Test.YtemccpfgkbhahaaGreatDoorBlLinked
import Derived.Deep.AppendLies
namespace Go.Proofs
open Go.RowKit

/-- Where a process's flows lead. -/
def Bl.tos (fs : List Fl) (l : List Nat) : List Nat := l.map fun f => ((fs[f]?).map fun x => x.to.toNat).getD 0
/-- The nodes that stand in a block by itself. -/
def Bl.nodesL (fs : List Fl) (k nd : Int) : List Nat :=
  if k = 2 ∨ k = 4 ∨ k = 5 ∨ k = 7 ∨ k = 8 then [nd.toNat] else if k = 6 then nd.toNat :: Bl.tos fs (Nt.outsL fs nd) else []

theorem Bk.own_one {W : World} {B b : Nat} {x : Int} {t : TypeId} (h : W.heap[b]? = some (.cells #[.int .i64 x] t (0, 0))) (hb : B ≤ b) : W.ownsRow B t 1 (.slice (some ⟨b, 0, none⟩) 1 1) 1 [.int .i64 x] :=
  ⟨rfl, .inr ⟨b, 1, _, rfl, hb, h, by omega, by unfold maxLen; omega, rfl, rfl⟩⟩
theorem Bk.grown_but {E : Nat → Prop} {a w w' : World} {g : Nat} (h : Tk.But E a w) (hg : w.grownBy w' (some g)) (he : E g ∨ a.heap.size ≤ g) : Tk.But E a w' :=
  ⟨hg.os.trans h.os, hg.tape.trans h.tape, hg.output.trans h.output, Nat.le_trans h.size hg.size, fun k hk hE => by
    rw [hg.block k (Nat.lt_of_lt_of_le hk h.size) (fun e => by
      have e' : k = g := Option.some.inj e
      rcases he with he | he
      · exact hE (e' ▸ he)
      · omega)]
    exact h.block k hk hE⟩

set_option maxRecDepth 20000 in
set_option maxHeartbeats 8000000 in
theorem Tryz.bnodes_any (k : Int) (i : Nat) (r : Int) (a : Option Addr) (nk c : Nat) (al : Option Addr) (nl cl : Nat) (an : Option Addr) (n cn : Nat) (af : Option Addr) (cf B d : Nat) (fs : List Fl) (w : World) (hF : Nt.Fls w B d af fs) (hB : B ≤ w.heap.size) (hfl : fs.length ≤ 100) (hto : ∀ f, f ∈ fs → 0 ≤ f.to) :
    Calls Tryz.prog 34 #[.agg #[.slice an n cn, .slice af fs.length cf], .agg #[.int .i64 k, .int .i64 (i : Int), .int .i64 r, .slice a nk c, .slice al nl cl]] w fun e w' => Nt.Gives (Bl.nodesL fs k i) w e w' := by
  obtain ⟨m, hm⟩ : ∃ n, fs.length = n := ⟨_, rfl⟩
  rw [hm]
  obtain ⟨W0, hW0⟩ : ∃ z, (w.alloc (.cells #[.slice an n cn, .slice af m cf] 25)).alloc (.cells #[.int .i64 k, .int .i64 (i : Int), .int .i64 r, .slice a nk c, .slice al nl cl] 29) = z := ⟨_, rfl⟩
  have A0 : Below w.heap.size w W0 := by rw [← hW0]; exact ((Below.refl _ w).alloc (Nat.le_refl _) _).alloc (by simp) _
  have S0 : W0.heap.size = w.heap.size + 2 := by rw [← hW0]; simp
  have G1 : W0.heap[w.heap.size]? = some (.cells #[.slice an n cn, .slice af m cf] 25 (0, 0)) := by rw [← hW0, Below.heap_alloc _ _ _ (by simp)]; exact heap_alloc_new w _
  have G2 : W0.heap[w.heap.size + 1]? = some (.cells #[.int .i64 k, .int .i64 (i : Int), .int .i64 r, .slice a nk c, .slice al nl cl] 29 (0, 0)) := by
    rw [← hW0]
    have := heap_alloc_new (w.alloc (.cells #[.slice an n cn, .slice af m cf] 25)) (.cells #[.int .i64 k, .int .i64 (i : Int), .int .i64 r, .slice a nk c, .slice al nl cl] 29)
    simpa using this
  have CF : Hid (∀ W, Tk.But (fun b => b = W0.heap.size) W0 W → (W.cell? ⟨w.heap.size, 0, none⟩ = some (.slice an n cn) ∧ W.cell? ⟨w.heap.size, 1, none⟩ = some (.slice af m cf)) ∧ (W.cell? ⟨w.heap.size + 1, 0, none⟩ = some (.int .i64 k) ∧ W.cell? ⟨w.heap.size + 1, 1, none⟩ = some (.int .i64 (i : Int))) ∧ Below w.heap.size w W) := fun W hb => by
    have e1 := (hb.block _ (by omega) (by omega)).trans G1
    have e2 := (hb.block _ (by omega) (by omega)).trans G2
    exact ⟨⟨by simp [World.cell?, e1], by simp [World.cell?, e1]⟩, ⟨by simp [World.cell?, e2], by simp [World.cell?, e2]⟩, A0.trans (hb.below (by omega) (by intro j hj; omega))⟩
  have BR : Hid (Tk.But (fun b => b = W0.heap.size) W0 W0) := Tk.But.refl _ _
  have HW0 : Hid _ := hW0
  have HS0 : Hid (W0.heap.size = w.heap.size + 2) := S0
  have HF0 : Hid (Nt.Fls w B d af fs ∧ fs.length = m ∧ B ≤ w.heap.size ∧ fs.length ≤ 100 ∧ ∀ f, f ∈ fs → 0 ≤ f.to) := ⟨hF, hm, hB, hfl, hto⟩
  obtain ⟨⟨x0, x1⟩, ⟨y0, y1⟩, HB0⟩ := CF.out W0 BR.out
  have HB : Hid (Below w.heap.size w W0) := HB0
  clear hF hm hB hfl hto hW0 A0 S0 G1 G2 HB0
  by_cases h6 : k = 6
  · subst h6
    obtain ⟨ou, hou⟩ : ∃ l, Nt.outsL fs (i : Int) = l := ⟨_, rfl⟩
    obtain ⟨ol, hol⟩ : ∃ l, ou.length = l := ⟨_, rfl⟩
    have hol100 : ol ≤ 100 := by
      have h := List.length_filter_le (fun k => decide ((fs[k]?.map Fl.fr) = some (i : Int))) (List.range fs.length)
      rw [List.length_range] at h
      have h2 := HF0.out.2.2.2.1
      rw [← hol, ← hou]
      exact Nat.le_trans h h2
    have HNL : Hid (Bl.nodesL fs 6 (i : Int) = i :: Bl.tos fs ou) := by show _ = _; rw [Bl.nodesL, if_neg (by omega), if_pos rfl, hou, Int.toNat_natCast]
    have HOU : Hid (∀ f, f ∈ ou → f < fs.length) := fun f hf => by
      rw [← hou] at hf
      exact List.mem_range.1 (List.mem_filter.1 hf).1
    have HOL : Hid (ou.length = ol) := hol
    obtain ⟨W1, hW1⟩ : ∃ z, W0.alloc (.cells #[.int .i64 (i : Int)] 3) = z := ⟨_, rfl⟩
    have HW1 : Hid _ := hW1
    have S1 : Hid (W1.heap.size = W0.heap.size + 1) := by show _ = _; rw [← hW1]; simp
    have O1 : Hid (W1.ownsRow W0.heap.size 3 1 (.slice (some ⟨W0.heap.size, 0, none⟩) 1 1) 1 [.int .i64 (i : Int)]) := by
      show World.ownsRow _ _ _ _ _ _ _
      rw [← hW1]
      exact Bk.own_one (heap_alloc_new W0 _) (Nat.le_refl _)
    have B1 : Hid (Tk.But (fun b => b = W0.heap.size) W0 W1) := by show Tk.But _ _ _; rw [← hW1]; exact BR.out.alloc _
    have C1 : Hid (Calls Tryz.prog 51 #[.agg #[.slice an n cn, .slice af m cf], .int .i64 (i : Int)] W1 fun e w' => ∃ ao co, e = .returned (.slice ao ol co) ∧ Hid (Below W1.heap.size W1 w' ∧ w'.ownsRow W1.heap.size 3 1 (.slice ao ol co) ol (Rk.nums ou))) := by
      show Calls _ _ _ _ _
      have hb := (CF.out W1 B1.out).2.2
      have h := Tryz.nOuts_any (i : Int) an n cn af cf d fs W1 ((HF0.out.1.below (hb.mono HF0.out.2.2.1)).wider (Nat.le_trans HF0.out.2.2.1 hb.size)) HF0.out.2.2.2.1
      rw [HF0.out.2.1, hou] at h
      refine h.mono ?_
      rintro e w' ⟨v, rfl, ho, hb'⟩
      rw [hol] at ho
      obtain ⟨ao, co, rfl⟩ := Rk.own_shape ho
      exact ⟨ao, co, rfl, hb', ho⟩
    obtain ⟨i0, hi, hz0, hz1, hz2⟩ := info_parts Tryz.infoIntR
    clear hou hol hW1
    go_enter Tryz.func34, Tryz.ntmps34
    go_upto_region 1 with fail
    rw [HW0.out]
    clear HW0
    go_upto_region 10 with fail
    rw [HW1.out]
    clear HW1 x0 x1 y0 y1
    obtain ⟨⟨x0, x1⟩, ⟨y0, y1⟩, -⟩ := CF.out W1 B1.out
    go_wp2_with fail
    refine Calls.mono C1.out ?_
    rintro e W2 ⟨ao, co, rfl, H2⟩
    clear C1 x0 x1 y0 y1
    have B2 : Hid (Tk.But (fun b => b = W0.heap.size) W0 W2) := B1.out.trans (Tk.But.of_below H2.out.1)
    have OW : Hid (W2.ownsRow W0.heap.size 3 1 (.slice (some ⟨W0.heap.size, 0, none⟩) 1 1) 1 [.int .i64 (i : Int)]) := Rk.own_below O1.out H2.out.1
    go_wp2
    go_loopg [5, 7, 29] ol (fun gk s5 _ s29 wr => ∃ (j g cc : Nat), gk + j = ol ∧ s29 = .int .i64 j ∧ s5 = .slice (some ⟨g, 0, none⟩) (j + 1) cc ∧ Hid (Tk.But (fun b => b = W0.heap.size) W2 wr ∧ (g = W0.heap.size ∨ W2.heap.size ≤ g) ∧ wr.ownsRow W0.heap.size 3 1 (.slice (some ⟨g, 0, none⟩) (j + 1) cc) (j + 1) (Rk.nums (i :: Bl.tos fs (ou.take j)))))
    case atStart => exact ⟨0, W0.heap.size, 1, by omega, rfl, rfl, Tk.But.refl _ _, .inl rfl, OW.out⟩
    case round =>
      obtain ⟨j, g, cc, hj, rfl, rfl, HJ⟩ := hrel
      clear B1 O1 OW
      by_cases hjn : j < ol
      · have hd : decide ((j : Int) < ol) = true := decide_eq_true (by omega)
        have hjk : j < ou.length := by rw [HOL.out]; exact hjn
        have hO := H2.out.2
        rcases hO.2 with ⟨_, hz⟩ | ⟨go, cap2, cur, hv, hgB, hgc, hgr⟩
        · omega
        · simp only [Value.slice.injEq] at hv
          obtain ⟨rfl, -, rfl⟩ := hv
          have hoc := hO.cells (g := go) rfl j (.int .i64 (ou[j] : Int)) (by simp [Rk.nums, hjk])
          have hgo : go < W2.heap.size := (Array.getElem?_eq_some_iff.1 hgc).1
          have hgn : go ≠ W0.heap.size := by have := S1.out; omega
          obtain ⟨f, hf⟩ : ∃ f, ou[j] = f := ⟨_, rfl⟩
          have hfl : f < fs.length := by rw [← hf]; exact HOU.out _ (List.getElem_mem hjk)
          rw [hf] at hoc
          have c0 : wr.cell? ⟨go, j, none⟩ = some (.int .i64 (f : Int)) := by
            rw [World.cell?_of_block (w := W2) (a := ⟨go, j, none⟩) (HJ.out.1.block go hgo hgn)]
            have ha : ((⟨go, 0, none⟩ : Addr).add j) = ⟨go, j, none⟩ := by cases j <;> simp [Addr.add]
            rw [← ha]
            exact hoc
          have BW : Hid (Tk.But (fun b => b = W0.heap.size) W0 wr) := B2.out.trans HJ.out.1
          obtain ⟨⟨x0, x1⟩, ⟨y0, y1⟩, hbw⟩ := CF.out wr BW.out
          obtain ⟨q, off, u, rfl, hq, p0, p1, -⟩ := HF0.out.1 f hfl
          obtain ⟨t, ht⟩ : ∃ t : Nat, fs[f].to = t := ⟨fs[f].to.toNat, by have := HF0.out.2.2.2.2 _ (List.getElem_mem hfl); omega⟩
          rw [ht] at p1
          have c1 : wr.cell? ⟨q, off + f * 6 + 1, none⟩ = some (.int .i64 (t : Int)) := by rw [hbw.cell (p := ⟨q, off + f * 6 + 1, none⟩) (by show q < _; have := HF0.out.2.2.1; omega)]; exact p1
          have hfm : (f : Int) < m := by have := HF0.out.2.1; omega
          have hf0 : (0 : Int) ≤ f := by omega
          have hjo : (j : Int) < ol := by omega
          have hj0 : (0 : Int) ≤ j := by omega
          have HT : Hid (Bl.tos fs (ou.take (j + 1)) = Bl.tos fs (ou.take j) ++ [t]) := by
            show _ = _
            rw [Bl.take_snoc _ _ hjk, hf, Bl.tos, Bl.tos, List.map_append, List.map_singleton, List.getElem?_eq_getElem hfl]
            simp [ht]
          have own1 := HJ.out.2.2
          have hsz : W0.heap.size ≤ wr.heap.size := BW.out.size
          clear p0 p1 hbw hO hgc hgr hoc hf ht hq hfl hgo hgn hgB hjk
          go_wp2_with (at_builtin; refine wpList_append_lies _ rfl _ _ 42 rfl W0.heap.size 3 i0 (.int .i64 0) 1 8 Tryz.underlying42 hi hz0 hz1 hz2 rfl (by decide) _ _ _ rfl (own1.alloc _) ⟨wr.heap.size, 0, none⟩ 1 1 [.int .i64 (t : Int)] rfl rfl (Rk.one_cell wr t 3) (Rk.one_one t) (by decide) ?c3 ?c4 ?c5 (wr.heap.size + 1) ?c6 ?_)
          case c3 => unfold maxLen; omega
          case c4 => omega
          case c5 => simp; omega
          case c6 => simp
          intro g6 c6 W6 o6 q6 hg6 hl6
          have P6 : Hid (Tk.But (fun b => b = W0.heap.size) W2 W6 ∧ (g6 = W0.heap.size ∨ W2.heap.size ≤ g6) ∧ W6.ownsRow W0.heap.size 3 1 (.slice (some ⟨g6, 0, none⟩) (j + 1 + 1) c6) (j + 1 + 1) (Rk.nums (i :: Bl.tos fs (ou.take (j + 1))))) := by
            refine ⟨Bk.grown_but (HJ.out.1.alloc _) q6 (HJ.out.2.1), ?_, ?_⟩
            · rcases hg6 with h | h
              · have : g = g6 := by simpa [Value.ownBlock] using h
                rw [← this]
                exact HJ.out.2.1
              · exact .inr (by have := HJ.out.1.size; omega)
            · rw [HT.out, ← List.cons_append, Rk.nums_snoc]
              exact o6
          clear o6 q6 hg6 hl6 own1 x0 x1 y0 y1 c0 c1
          go_wp2
          go_roundg (gk - 1)
          case measure => omega
          case rel => exact ⟨j + 1, g6, c6, by omega, by go_num, rfl, P6.out⟩
      · have hd : decide ((j : Int) < ol) = false := decide_eq_false (by omega)
        have hall : ou.take j = ou := List.take_of_length_le (by rw [HOL.out]; omega)
        have hz := HJ.out
        rw [hall] at hz
        have HZ : Hid (Below w.heap.size w wr ∧ wr.ownsRow w.heap.size 3 1 (.slice (some ⟨g, 0, none⟩) (j + 1) cc) (Bl.nodesL fs 6 (i : Int)).length (Rk.nums (Bl.nodesL fs 6 (i : Int)))) := by
          refine ⟨(CF.out wr (B2.out.trans hz.1)).2.2, ?_⟩
          rw [HNL.out, show (i :: Bl.tos fs ou).length = j + 1 by simp [Bl.tos]; have := HOL.out; omega]
          exact Nt.own_lower hz.2.2 (by have := HS0.out; omega)
        clear hz HJ
        go_wp2
        go_ret
        exact ⟨_, rfl, HZ.out.2, HZ.out.1⟩
  · have e6 : (k == 6) = false := by simpa using h6
    by_cases hk : k = 2 ∨ k = 4 ∨ k = 5 ∨ k = 7 ∨ k = 8
    · have HNL : Hid (Bl.nodesL fs k (i : Int) = [i]) := by show _ = _; rw [Bl.nodesL, if_pos hk, Int.toNat_natCast]
      obtain ⟨W1, hW1⟩ : ∃ z, W0.alloc (.cells #[.int .i64 (i : Int)] 3) = z := ⟨_, rfl⟩
      have HZ : Hid (Below w.heap.size w W1 ∧ W1.ownsRow w.heap.size 3 1 (.slice (some ⟨W0.heap.size, 0, none⟩) 1 1) (Bl.nodesL fs k (i : Int)).length (Rk.nums (Bl.nodesL fs k (i : Int)))) := by
        refine ⟨by rw [← hW1]; exact HB.out.alloc HB.out.size _, ?_⟩
        rw [HNL.out, ← hW1]
        exact Bk.own_one (heap_alloc_new W0 _) (by have := HS0.out; omega)
      have HW1 : Hid _ := hW1
      clear hW1 h6
      rcases hk with rfl | rfl | rfl | rfl | rfl
      all_goals
        go_enter Tryz.func34, Tryz.ntmps34
        go_upto_region 1 with fail
        rw [HW0.out]
        go_wp2
        rw [HW1.out]
        go_ret
        exact ⟨_, rfl, HZ.out.2, HZ.out.1⟩
    · have HNL : Hid (Bl.nodesL fs k (i : Int) = []) := by show _ = _; rw [Bl.nodesL, if_neg hk, if_neg h6]
      have e2 : (k == 2) = false := by simp; omega
      have e4 : (k == 4) = false := by simp; omega
      have e5 : (k == 5) = false := by simp; omega
      have e7 : (k == 7) = false := by simp; omega
      have e8 : (k == 8) = false := by simp; omega
      clear h6 hk
      go_enter Tryz.func34, Tryz.ntmps34
      go_upto_region 1 with fail
      rw [HW0.out]
      go_wp2
      go_ret
      refine ⟨_, rfl, ?_, HB.out⟩
      rw [HNL.out]
      exact World.ownsRow_nil _ _ _ _

end Go.Proofs
