import Derived.Test.YtdghjgiakblfmaaGreatDoorRNtFour
import Derived.Test.YtdghjgiakblfmaaGreatDoorRAllNtOne
namespace Go.Proofs
open Go.RowKit Go.Shelf
noncomputable def Nt.wrongAt (ns : List Nd) (fs : List Fl) : Nat → List Nat
 | 0 => Nt.wrong1 ns fs
 | 1 => Nt.wrong2 ns fs
 | 2 => Nt.wrong3 ns fs
 | _ => Nt.wrong4 ns fs
theorem Nt.broken_at {ns : List Nd} {fs : List Fl} {j : Nat} (hj : j < 4) (hb : ∀ i, i < j → Nt.wrongAt ns fs i = []) (h : Nt.wrongAt ns fs j ≠ []) : Nt.broken ns fs = (j + 1, Nt.wrongAt ns fs j) := by
 unfold Nt.broken
 match j, hj with
 | 0, _ =>
   have h0 : (Nt.wrong1 ns fs).isEmpty = false := by rw [List.isEmpty_eq_false_iff]; exact h
   rw [if_pos h0]; rfl
 | 1, _ =>
   have h0 : Nt.wrong1 ns fs = [] := hb 0 (by omega)
   have h1 : (Nt.wrong2 ns fs).isEmpty = false := by rw [List.isEmpty_eq_false_iff]; exact h
   rw [if_neg (by rw [h0]; simp), if_pos h1]; rfl
 | 2, _ =>
   have h0 : Nt.wrong1 ns fs = [] := hb 0 (by omega)
   have h1 : Nt.wrong2 ns fs = [] := hb 1 (by omega)
   have h2 : (Nt.wrong3 ns fs).isEmpty = false := by rw [List.isEmpty_eq_false_iff]; exact h
   rw [if_neg (by rw [h0]; simp), if_neg (by rw [h1]; simp), if_pos h2]; rfl
 | 3, _ =>
   have h0 : Nt.wrong1 ns fs = [] := hb 0 (by omega)
   have h1 : Nt.wrong2 ns fs = [] := hb 1 (by omega)
   have h2 : Nt.wrong3 ns fs = [] := hb 2 (by omega)
   have h3 : (Nt.wrong4 ns fs).isEmpty = false := by rw [List.isEmpty_eq_false_iff]; exact h
   rw [if_neg (by rw [h0]; simp), if_neg (by rw [h1]; simp), if_neg (by rw [h2]; simp), if_pos h3]; rfl
theorem Nt.broken_none {ns : List Nd} {fs : List Fl} (hb : ∀ i, i < 4 → Nt.wrongAt ns fs i = []) : Nt.broken ns fs = (0, []) := by
 have h0 : Nt.wrong1 ns fs = [] := hb 0 (by omega)
 have h1 : Nt.wrong2 ns fs = [] := hb 1 (by omega)
 have h2 : Nt.wrong3 ns fs = [] := hb 2 (by omega)
 have h3 : Nt.wrong4 ns fs = [] := hb 3 (by omega)
 unfold Nt.broken
 rw [if_neg (by rw [h0]; simp), if_neg (by rw [h1]; simp), if_neg (by rw [h2]; simp), if_neg (by rw [h3]; simp)]
def Nt.rows (r : Nat) (l : List Nat) : List Value := l.flatMap fun a : Nat => [Value.int .i64 (r : Int), Value.int .i64 (a : Int)]
theorem Nt.rows_snoc (r : Nat) (l : List Nat) (a : Nat) : Nt.rows r (l ++ [a]) = Nt.rows r l ++ [.int .i64 (r : Int), .int .i64 (a : Int)] := by simp [Nt.rows]
theorem Nt.infoBroken : (Tryz.prog.info? 134).map (fun i => (i.zero, i.size, i.bytes)) = some (some (.agg #[.int .i64 0, .int .i64 0]), 2, 16) := by kernel_rfl
theorem Nt.two_cell (w : World) (r a : Int) (t : TypeId) : ∀ j u, [Value.int .i64 r, Value.int .i64 a][j]? = some u → (w.alloc (.cells #[.int .i64 r, .int .i64 a] t)).cell? ((⟨w.heap.size, 0, none⟩ : Addr).add j) = some u := by
 intro j u hj
 match j, hj with
 | 0, hj => simp at hj; subst hj; simp [Addr.add]
 | 1, hj => simp at hj; subst hj; simp [Addr.add]
theorem Nt.two_one (r a : Int) : ∀ u ∈ [Value.int .i64 r, Value.int .i64 a], u.oneCell' = true := by
 intro u hu
 simp at hu
 rcases hu with rfl | rfl <;> rfl
theorem Nt.own_cellA {w : World} {B : Nat} {v : Value} {l : List Nat} (h : w.ownsRow B 3 1 v l.length (Rk.nums l)) : ∃ a c, v = .slice a l.length c ∧ ∀ j x, l[j]? = some x → ∃ g, a = some ⟨g, 0, none⟩ ∧ g < w.heap.size ∧ w.cell? ⟨g, j, none⟩ = some (.int .i64 ((x : Nat) : Int)) := by
 rcases h.2 with ⟨hv, hn⟩ | ⟨g, cap, cur, hv, _, hg, h1, _, _, h2⟩
 ·exact ⟨none, 0, by rw [hv, hn], fun j x hx => by have := (List.getElem?_eq_some_iff.1 hx).1; omega⟩
 ·refine ⟨_, _, hv, fun j x hx => ⟨g, rfl, (Array.getElem?_eq_some_iff.1 hg).1, ?_⟩⟩
  obtain ⟨hj, rfl⟩ := List.getElem?_eq_some_iff.1 hx
  have : cur[j]? = some (.int .i64 l[j]) := by
   have h3 : (cur.toList.take (l.length * 1))[j]? = (Rk.nums l)[j]? := by rw [h2]
   rw [List.getElem?_take_of_lt (by omega)] at h3
   rw [← Array.getElem?_toList, h3]
   simp [Rk.nums, hj]
  unfold World.cell?
  rw [hg]
  exact this
theorem Nt.own_nil {w : World} {B : Nat} {e : TypeId} {size : Nat} {v : Value} {k : Nat} {cs : List Value} (h : w.ownsRow B e size v k cs) (hk : 0 < k) : ∃ g c, v = .slice (some ⟨g, 0, none⟩) k c := by
 rcases h.2 with ⟨_, h1⟩ | ⟨g, cap, cur, h1, _⟩
 ·omega
 ·exact ⟨g, cap, h1⟩
def Nt.AllGives (p : Nat × List Nat) (w : World) (e : Ending) (w' : World) : Prop := ∃ v, e = .returned v ∧ w'.ownsRow w.heap.size 134 2 v p.2.length (Nt.rows p.1 p.2) ∧ Below w.heap.size w w'
theorem Nt.wrong_call (j : Nat) (hj : j < 4) (an : Option Addr) (cn : Nat) (af : Option Addr) (cf d : Nat) (ns : List Nd) (fs : List Fl) (w : World) (hH : Nt.Has w w.heap.size d an af ns fs) (hO : Tk.Ops w) (hb : ∀ i, i < j → Nt.wrongAt ns fs i = []) :
  ∃ g, (#[109, 110, 111, 112] : Array Nat)[j]? = some g ∧ (∀ args w, (callFunc g args).run Tryz.prog w = .ok (.enter g args) w) ∧ Calls Tryz.prog g #[.agg #[.slice an ns.length cn, .slice af fs.length cf]] w fun e w' => Nt.Gives (Nt.wrongAt ns fs j) w e w' := by
 have e1 : ∀ h : (0 : Nat) < j, ns.length ≤ 24 ∧ fs.length ≤ 40 := fun h => Nt.one_keeps (by rw [show Nt.wrong1 ns fs = [] from hb 0 h]; rfl)
 have e2 : ∀ h : (1 : Nat) < j, ∀ f, f ∈ fs → 0 ≤ f.fr ∧ f.fr < ns.length ∧ 0 ≤ f.to ∧ f.to < ns.length := fun h f hf => by
  have := Nt.two_keeps (ns := ns) (fs := fs) (by rw [show Nt.wrong2 ns fs = [] from hb 1 h]; rfl) f hf
  exact ⟨this.1, this.2.1, this.2.2.1, this.2.2.2.1⟩
 have e3 : ∀ h : (2 : Nat) < j, 0 ≤ Nt.firstI ns 1 ∧ 0 ≤ Nt.firstI ns 2 := fun h => Nt.three_keeps (fs := fs) (by rw [show Nt.wrong3 ns fs = [] from hb 2 h]; rfl)
 match j, hj with
 | 0, _ => exact ⟨109, rfl, enters_of Tryz.func109 (by kernel_rfl) rfl, Tryz.wrongNodes_any an cn af cf d ns fs w hH hO⟩
 | 1, _ => exact ⟨110, rfl, enters_of Tryz.func110 (by kernel_rfl) rfl, Tryz.wrongFlows_any an cn af cf d ns fs w hH hO (e1 (by omega)).1⟩
 | 2, _ => exact ⟨111, rfl, enters_of Tryz.func111 (by kernel_rfl) rfl, Tryz.wrongJoints_any an cn af cf d ns fs w hH (e1 (by omega)).1 (fun f hf => (e2 (by omega) f hf).2.2)⟩
 | 3, _ => exact ⟨112, rfl, enters_of Tryz.func112 (by kernel_rfl) rfl, Tryz.strayNodes_any an cn af cf d ns fs w hH (e1 (by omega)).1 (e2 (by omega)) (e3 (by omega)).1 (e3 (by omega)).2⟩
theorem Nt.wrong_len {ns : List Nd} {fs : List Fl} (hn : ns.length ≤ 100) (hf : fs.length ≤ 100) (j : Nat) : (Nt.wrongAt ns fs j).length ≤ 101 := by
 have hfil : ∀ (n : Nat) (p : Nat → Bool), ((List.range n).filter p).length ≤ n := fun n p => by have := List.length_filter_le p (List.range n); rwa [List.length_range] at this
 match j with
 | 0 =>
   show (Nt.wrong1 ns fs).length ≤ 101
   unfold Nt.wrong1
   split
   ·simp
   ·exact Nat.le_trans (hfil _ _) (by omega)
 | 1 =>
   show (Nt.wrong2 ns fs).length ≤ 101
   exact Nat.le_trans (hfil _ _) (by omega)
 | 2 =>
   show (Nt.wrong3 ns fs).length ≤ 101
   unfold Nt.wrong3
   rw [List.length_append]
   have := hfil ns.length (fun i => !Nt.jointB ns fs i)
   split <;> simp <;> omega
 | j + 3 =>
   show (Nt.wrong4 ns fs).length ≤ 101
   exact Nat.le_trans (hfil _ _) (by omega)
set_option maxRecDepth 20000 in
set_option maxHeartbeats 8000000 in
theorem Tryz.nAll_any (an : Option Addr) (cn : Nat) (af : Option Addr) (cf d : Nat) (ns : List Nd) (fs : List Fl) (w : World) (hH : Nt.Has w w.heap.size d an af ns fs) (hO : Tk.Ops w) :
  Calls Tryz.prog 80 #[.agg #[.slice an ns.length cn, .slice af fs.length cf]] w fun e w' => Nt.AllGives (Nt.broken ns fs) w e w' := by
 obtain ⟨i0, hi0, hz0, hz1, hz2⟩ := info_parts Nt.infoBroken
 obtain ⟨w1, hw1⟩ : ∃ x, (w.alloc (.cells #[.slice an ns.length cn, .slice af fs.length cf] 30)).alloc (.cells #[.func (.func 109) #[] #[], .func (.func 110) #[] #[], .func (.func 111) #[] #[], .func (.func 112) #[] #[]] 167) = x := ⟨_, rfl⟩
 have A1 : Below w.heap.size w w1 := by rw [← hw1]; exact ((Below.refl _ w).alloc (Nat.le_refl _) _).alloc (by simp) _
 have G0 : w1.heap[w.heap.size]? = some (.cells #[.slice an ns.length cn, .slice af fs.length cf] 30 (0, 0)) := by rw [← hw1, Below.heap_alloc _ _ _ (by simp)]; exact heap_alloc_new w _
 have G1 : w1.heap[w.heap.size + 1]? = some (.cells #[.func (.func 109) #[] #[], .func (.func 110) #[] #[], .func (.func 111) #[] #[], .func (.func 112) #[] #[]] 167 (0, 0)) := by
  rw [← hw1]
  have := heap_alloc_new (w.alloc (.cells #[.slice an ns.length cn, .slice af fs.length cf] 30)) (.cells #[.func (.func 109) #[] #[], .func (.func 110) #[] #[], .func (.func 111) #[] #[], .func (.func 112) #[] #[]] 167)
  simpa using this
 obtain ⟨n, hnn⟩ : ∃ n, ns.length = n := ⟨_, rfl⟩
 obtain ⟨m, hmm⟩ : ∃ n, fs.length = n := ⟨_, rfl⟩
 have HW : Hid (∀ (j : Nat) (W : World), j < 4 → Below w1.heap.size w1 W → (∀ i, i < j → Nt.wrongAt ns fs i = []) → ∃ g, W.cell? ⟨w.heap.size + 1, j, none⟩ = some (.func (.func g) #[] #[]) ∧ (∀ args w, (callFunc g args).run Tryz.prog w = .ok (.enter g args) w) ∧ Calls Tryz.prog g #[.agg #[.slice an n cn, .slice af m cf]] W fun e w' => Nt.Gives (Nt.wrongAt ns fs j) W e w') := fun j W hj hb hbr => by
  have hbw : Below w.heap.size w W := A1.trans (hb.mono A1.size)
  obtain ⟨g, hg, he, hc⟩ := Nt.wrong_call j hj an cn af cf d ns fs W ((hH.below hbw).wider hbw.size) (hO.below hbw hO.lt) hbr
  rw [hnn, hmm] at hc
  refine ⟨g, ?_, he, hc⟩
  have hblk := (hb.block _ (Nt.lt_of G1)).trans G1
  match j, hj, hg with
  | 0, _, hg => simp at hg; subst hg; simp [World.cell?, hblk]
  | 1, _, hg => simp at hg; subst hg; simp [World.cell?, hblk]
  | 2, _, hg => simp at hg; subst hg; simp [World.cell?, hblk]
  | 3, _, hg => simp at hg; subst hg; simp [World.cell?, hblk]
 have HBX : Hid (∀ W, Below w1.heap.size w1 W → W.cell? ⟨w.heap.size, 0, none⟩ = some (.slice an n cn) ∧ W.cell? ⟨w.heap.size, 1, none⟩ = some (.slice af m cf)) := fun W hb => by
  have := Nt.box2 ((hb.block _ (Nt.lt_of G0)).trans G0)
  rw [hnn, hmm] at this
  exact this
 have HLN : Hid (∀ j, (Nt.wrongAt ns fs j).length ≤ 101) := Nt.wrong_len hH.nlen hH.flen
 rw [hnn, hmm] at hw1
 rw [hnn, hmm]
 obtain ⟨p, hp⟩ : ∃ p, Nt.broken ns fs = p := ⟨_, rfl⟩
 rw [hp]
 have HPB : Hid (Nt.broken ns fs = p) := hp
 have H1 : Hid ((w.alloc (.cells #[.slice an n cn, .slice af m cf] 30)).alloc (.cells #[.func (.func 109) #[] #[], .func (.func 110) #[] #[], .func (.func 111) #[] #[], .func (.func 112) #[] #[]] 167) = w1) := hw1
 have HA : Hid (Below w.heap.size w w1) := A1
 clear hH hO hnn hmm hp hw1 A1 G0 G1
 go_enter Tryz.func80, Tryz.ntmps80
 go_wp2
 rw [H1.out]
 go_loopg [12] 4 (fun gk s12 wr => ∃ j : Nat, gk + j = 4 ∧ s12 = .int .i64 j ∧ Hid (Below w1.heap.size w1 wr ∧ ∀ i, i < j → Nt.wrongAt ns fs i = []))
 case atStart => exact ⟨0, by omega, rfl, Below.refl _ _, fun i hi => by omega⟩
 case round =>
  obtain ⟨j, hj, rfl, HI⟩ := hrel
  clear H1
  by_cases hlt : j < 4
  ·have hd : decide ((j : Int) < 4) = true := decide_eq_true (by omega)
   have hdn : decide (j < 4) = true := decide_eq_true hlt
   obtain ⟨g, hgc, eg, hcall⟩ := HW.out j wr hlt HI.out.1 HI.out.2
   obtain ⟨p0, p1⟩ := HBX.out wr HI.out.1
   have hj4 : (j : Int) < 4 := by omega
   have hj0 : (0 : Int) ≤ j := by omega
   have HC : Hid _ := hcall
   obtain ⟨g1, hg1⟩ : ∃ x, gk = x := ⟨_, rfl⟩
   have hwj : IntKind.i64.wrap ((j : Int) + 1) = ((j + 1 : Nat) : Int) := by rw [IntKind.wrap_i64]; omega
   clear hcall
   go_wp2_with fail
   refine Calls.mono HC.out ?_
   rintro e W1 ⟨v, rfl, how, hb1⟩
   obtain ⟨va, vc, rfl, hcs⟩ := Nt.own_cellA how
   obtain ⟨l, hl⟩ : ∃ l, Nt.wrongAt ns fs j = l := ⟨_, rfl⟩
   have B1 : Hid (Below w1.heap.size w1 W1) := HI.out.1.trans (hb1.mono HI.out.1.size)
   have HCS : Hid (∀ k x, l[k]? = some x → ∃ g, va = some ⟨g, 0, none⟩ ∧ g < W1.heap.size ∧ W1.cell? ⟨g, k, none⟩ = some (.int .i64 ((x : Nat) : Int))) := fun k x hk => hcs k x (by rw [hl]; exact hk)
   have hl100 : l.length ≤ 101 := by rw [← hl]; exact HLN.out j
   have HLJ : Hid (Nt.wrongAt ns fs j = l) := hl
   rw [hl]
   obtain ⟨r, hr⟩ : ∃ r, l.length = r := ⟨_, rfl⟩
   rw [hr] at hl100 ⊢
   have HR : Hid (l.length = r) := hr
   clear how hb1 hcs HC hl hr p0 p1 hgc
   go_wp2
   go_loopg [6, 8, 21] r (fun gk s6 _ s21 wr => ∃ k : Nat, gk + k = r ∧ s21 = .int .i64 k ∧ Hid (Below W1.heap.size W1 wr) ∧ wr.ownsRow W1.heap.size 134 2 s6 k (Nt.rows (j + 1) (l.take k)) ∧ (k = 0 → s6 = .slice none 0 0))
   case atStart => exact ⟨0, by omega, rfl, Below.refl _ _, by simpa [Nt.rows] using World.ownsRow_nil _ _ _ _, fun _ => rfl⟩
   case round =>
    obtain ⟨k, hk, rfl, HJ, hown, hnil⟩ := hrel
    by_cases hlt2 : k < r
    ·have hd2 : decide ((k : Int) < r) = true := decide_eq_true (by omega)
     have hkl : k < l.length := by rw [HR.out]; exact hlt2
     obtain ⟨gq, rfl, hgq, hcq⟩ := HCS.out k l[k] (List.getElem?_eq_getElem hkl)
     obtain ⟨x, hx⟩ : ∃ x, l[k] = x := ⟨_, rfl⟩
     rw [hx] at hcq
     have c0 : wr.cell? ⟨gq, k, none⟩ = some (.int .i64 x) := by rw [HJ.out.cell (p := ⟨gq, k, none⟩) hgq]; exact hcq
     have HTK : Hid (Nt.rows (j + 1) (l.take (k + 1)) = Nt.rows (j + 1) (l.take k) ++ [.int .i64 ((j + 1 : Nat) : Int), .int .i64 (x : Int)]) := by show _ = _; rw [Tm.take_snoc _ _ hkl, hx, Nt.rows_snoc]
     obtain ⟨av, cv, rfl⟩ := Rk.own_shape hown
     have hsz : W1.heap.size ≤ wr.heap.size := HJ.out.size
     clear hcq hx hgq
     go_wp2_with (at_builtin; refine wpList_append_own _ rfl _ _ 132 rfl W1.heap.size 134 i0 (.agg #[.int .i64 0, .int .i64 0]) 2 16 Tryz.underlying132 hi0 hz0 hz1 hz2 rfl (by decide) _ _ _ rfl (hown.alloc _) ⟨wr.heap.size, 0, none⟩ 1 1 [.int .i64 ((j + 1 : Nat) : Int), .int .i64 x] rfl rfl (Nt.two_cell wr ((j + 1 : Nat) : Int) x 134) (Nt.two_one ((j + 1 : Nat) : Int) x) ?c3 ?c4 ?c5 ?_)
     case c3 => unfold maxLen; omega
     case c4 => omega
     case c5 => simp; omega
     intro v' W2 own2 g2 _
     obtain ⟨a2, c2', rfl⟩ := Rk.own_shape own2
     have B2 : Hid (Below W1.heap.size W1 W2) := Rk.below_grown (HJ.out.alloc hsz _) (by simp; omega) (hown.alloc _) g2
     have own3 : W2.ownsRow W1.heap.size 134 2 (.slice a2 (k + 1) c2') (k + 1) (Nt.rows (j + 1) (l.take (k + 1))) := by rw [HTK.out]; exact own2
     clear own2 g2 hown
     go_wp2
     go_roundg (gk - 1)
     case measure => omega
     case rel => exact ⟨k + 1, by omega, by go_num, B2.out, own3, fun h => by omega⟩
    ·have hd2 : decide ((k : Int) < r) = false := decide_eq_false (by omega)
     have hkr : k = r := by omega
     have htk : l.take k = l := List.take_of_length_le (by rw [HR.out]; omega)
     rw [htk] at hown
     have B3 : Hid (Below w1.heap.size w1 wr) := B1.out.trans (HJ.out.mono B1.out.size)
     rcases Nat.eq_zero_or_pos k with hk0 | hkp
     ·have hv := hnil hk0
      have HE : Hid (Nt.wrongAt ns fs j = []) := by
       show _ = _
       rw [HLJ.out]
       exact List.eq_nil_of_length_eq_zero (by rw [HR.out]; omega)
      clear hown hnil htk
      subst hv
      go_wp2
      go_roundg (g1 - 1)
      case measure => omega
      case rel =>
       refine ⟨j + 1, by omega, by go_num, B3.out, fun i hi => ?_⟩
       rcases Nat.lt_or_ge i j with h | h
       ·exact HI.out.2 i h
       ·obtain rfl : i = j := by omega
        exact HE.out
     ·obtain ⟨gv, cv, rfl⟩ := Nt.own_nil hown hkp
      have HP2 : Hid (p = (j + 1, l)) := by
       show _ = _
       rw [← HPB.out, Nt.broken_at hlt HI.out.2 (by rw [HLJ.out]; intro h; have := HR.out; rw [h] at this; simp at this; omega), HLJ.out]
      have HO2 : Hid (wr.ownsRow w.heap.size 134 2 (.slice (some ⟨gv, 0, none⟩) k cv) l.length (Nt.rows (j + 1) l)) := by
       show World.ownsRow _ _ _ _ _ _ _
       have h := Nt.own_lower hown (Nat.le_trans HA.out.size B1.out.size)
       rw [hkr] at h ⊢
       rw [HR.out]
       exact h
      clear hown hnil htk
      go_wp2
      go_ret
      rw [HP2.out]
      exact ⟨_, rfl, HO2.out, HA.out.trans (B3.out.mono HA.out.size)⟩
  ·have hd : decide ((j : Int) < 4) = false := decide_eq_false (by omega)
   have hdn : decide (j < 4) = false := decide_eq_false hlt
   have HP2 : Hid (p = (0, [])) := by show _ = _; rw [← HPB.out]; exact Nt.broken_none (fun i hi => HI.out.2 i (by omega))
   go_wp2
   go_ret
   rw [HP2.out]
   exact ⟨_, rfl, World.ownsRow_nil _ _ _ _, HA.out.trans (HI.out.1.mono HA.out.size)⟩
theorem Nt.broken_zero {ns : List Nd} {fs : List Fl} (h : (Nt.broken ns fs).2 = []) : (Nt.broken ns fs).1 = 0 := by
 unfold Nt.broken at h ⊢
 split
 ·next h1 => rw [if_pos h1] at h; simp only at h; rw [h] at h1; simp at h1
 ·next h1 =>
  rw [if_neg h1] at h
  split
  ·next h2 => rw [if_pos h2] at h; simp only at h; rw [h] at h2; simp at h2
  ·next h2 =>
   rw [if_neg h2] at h
   split
   ·next h3 => rw [if_pos h3] at h; simp only at h; rw [h] at h3; simp at h3
   ·next h3 =>
    rw [if_neg h3] at h
    split
    ·next h4 => rw [if_pos h4] at h; simp only at h; rw [h] at h4; simp at h4
    ·rfl
theorem Nt.own_pair {w : World} {B : Nat} {g c r : Nat} {l : List Nat} {n : Nat} (h : w.ownsRow B 134 2 (.slice (some ⟨g, 0, none⟩) n c) l.length (Nt.rows r l)) (j : Nat) (x : Nat) (hx : l[j]? = some x) : w.cell? ⟨g, j * 2, none⟩ = some (.int .i64 (r : Int)) ∧ w.cell? ⟨g, j * 2 + 1, none⟩ = some (.int .i64 (x : Int)) := by
 have hj := (List.getElem?_eq_some_iff.1 hx).1
 rcases h.2 with ⟨hv, _⟩ | ⟨g', cap, cur, hv, _, hg, h1, _, _, h2⟩
 ·simp at hv
 ·simp only [Value.slice.injEq, Option.some.injEq, Addr.mk.injEq, and_true] at hv
  obtain ⟨rfl, rfl, rfl⟩ := hv
  have hget : ∀ k, k < l.length * 2 → cur[k]? = (Nt.rows r l)[k]? := fun k hk => by
   rw [← h2, List.getElem?_take_of_lt hk, Array.getElem?_toList]
  have hrow : ∀ (l : List Nat) (j x : Nat), l[j]? = some x → (Nt.rows r l)[j * 2]? = some (.int .i64 (r : Int)) ∧ (Nt.rows r l)[j * 2 + 1]? = some (.int .i64 (x : Int)) := by
   intro l
   induction l with
   | nil => intro j x h; simp at h
   | cons a l ih =>
     intro j x h
     cases j with
     | zero => simp at h; subst h; simp [Nt.rows]
     | succ j =>
       have := ih j x (by simpa using h)
       have e : Nt.rows r (a :: l) = .int .i64 (r : Int) :: .int .i64 (a : Int) :: Nt.rows r l := by simp [Nt.rows]
       rw [e, show (j + 1) * 2 = j * 2 + 1 + 1 by omega, show j * 2 + 1 + 1 + 1 = (j * 2 + 1) + 1 + 1 by omega]
       simpa using this
  obtain ⟨q0, q1⟩ := hrow l j x hx
  unfold World.cell?
  rw [hg]
  exact ⟨(hget (j * 2) (by omega)).trans q0, (hget (j * 2 + 1) (by omega)).trans q1⟩
set_option maxRecDepth 20000 in
set_option maxHeartbeats 4000000 in
theorem Tryz.nCheck_any (an : Option Addr) (cn : Nat) (af : Option Addr) (cf d : Nat) (ns : List Nd) (fs : List Fl) (w : World) (hH : Nt.Has w w.heap.size d an af ns fs) (hO : Tk.Ops w) :
   Calls Tryz.prog 64 #[.agg #[.slice an ns.length cn, .slice af fs.length cf]] w fun e w' => e = .returned (.tuple #[.int .i64 ((Nt.checkN ns fs).1 : Int), .int .i64 ((Nt.checkN ns fs).2 : Int)]) ∧ Below w.heap.size w w' := by
 have A1 : Below w.heap.size w (w.alloc (.cells #[.slice an ns.length cn, .slice af fs.length cf] 30)) := (Below.refl _ w).alloc (Nat.le_refl _) _
 have h := Tryz.nAll_any an cn af cf d ns fs _ ((hH.below A1).wider A1.size) (hO.below A1 hO.lt)
 obtain ⟨n, hnn⟩ : ∃ n, ns.length = n := ⟨_, rfl⟩
 obtain ⟨m, hmm⟩ : ∃ n, fs.length = n := ⟨_, rfl⟩
 have hck : Nt.checkN ns fs = ((Nt.broken ns fs).1, (Nt.broken ns fs).2.headD 0) := rfl
 have hz : (Nt.broken ns fs).2 = [] → (Nt.broken ns fs).1 = 0 := Nt.broken_zero
 obtain ⟨p, hp⟩ : ∃ p, Nt.broken ns fs = p := ⟨_, rfl⟩
 rw [hp] at h hck hz
 rw [hck]
 rw [hnn, hmm] at h A1 ⊢
 obtain ⟨r, l⟩ := p
 have HC : Hid _ := h
 have HA : Hid _ := A1
 have HZ : Hid (l = [] → r = 0) := hz
 clear h A1 hck hz hp hH hO hnn hmm
 go_enter Tryz.func64, Tryz.ntmps64
 go_wp2_with fail
 refine Calls.mono HC.out ?_
 rintro e W ⟨v, rfl, how, hb⟩
 have B2 : Hid (Below w.heap.size w W) := HA.out.trans (hb.mono HA.out.size)
 clear hb HC
 obtain ⟨av, cv, rfl⟩ := Rk.own_shape how
 cases l with
 | nil =>
   have hr := HZ.out rfl
   subst hr
   clear how
   go_wp2
   go_ret2
   exact ⟨rfl, B2.out⟩
 | cons x l =>
   obtain ⟨g, c, hv⟩ := Nt.own_nil how (by simp)
   simp only [Value.slice.injEq] at hv
   obtain ⟨rfl, -, rfl⟩ := hv
   obtain ⟨c0, c1⟩ := Nt.own_pair how 0 x rfl
   simp only [Nat.zero_mul, Nat.zero_add] at c0 c1
   have hlen : (x :: l).length = l.length + 1 := rfl
   rw [hlen]
   obtain ⟨k, hk⟩ : ∃ k, l.length = k := ⟨_, rfl⟩
   rw [hk]
   have e0 : (((k + 1 : Nat) : Int) == 0) = false := by simp; omega
   have hb0 : (0 : Int) < ((k + 1 : Nat) : Int) := by omega
   have BD : Hid (∀ q, Below w.heap.size w (W.drewN q)) := fun q => Tk.below_drewN B2.out q
   show _
   clear how hlen hk HZ
   go_upto_region 4 with fail
   go_quiet (fail)
   go_wp2
   go_ret2
   exact ⟨rfl, BD.out _⟩
end Go.Proofs
