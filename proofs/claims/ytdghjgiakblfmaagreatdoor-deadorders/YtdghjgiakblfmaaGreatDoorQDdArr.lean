import Derived.Test.YtdghjgiakblfmaaGreatDoorRDdInv
import Derived.Test.YtdghjgiakblfmaaGreatDoorRDdArg
import Derived.OpenShut
import Derived.Test.YtdghjgiakblfmaaGreatDoorRDdIdx
import Derived.Test.YtdghjgiakblfmaaGreatDoorRDdSkips
import Derived.BigQuiet
import Derived.Deep.DeepCutAuto
import Derived.Deep.LoopGhost
namespace Go.Proofs
namespace Dd
theorem Inv.same {ls kk : List (Int × Int)} (hw : Web ls kk) {rk : Nat → Nat} (hf : Free ls rk) {x y : List Int} (hx : Inv ls kk x) (hy : Inv ls kk y) (cx : Calm ls kk x) (cy : Calm ls kk y)
  (hd : ∀ k, k < kk.length → ¬ Auto kk k → (x.getD (40 + k) 0 = 2 ↔ y.getD (40 + k) 0 = 2)) (hg : ∀ i f : Nat, (ls[i]?).map Prod.fst = some (f : Int) → f < kk.length → gateB kk f = true → doesI kk f = 3 → x.getD (40 + f) 0 = 2 → x.getD i 0 = y.getD i 0) : x = y := by
 have k64 := hw.k64
 have l40 := hw.l40
 have one : ∀ f, f < kk.length → x.getD (40 + f) 0 = y.getD (40 + f) 0 → ∀ i : Nat, (ls[i]?).map Prod.fst = some (f : Int) → x.getD i 0 = y.getD i 0 := by
  intro f hfl e i ei
  have vx := hx.kv f (by omega)
  rw [if_pos hfl] at vx
  by_cases q : x.getD (40 + f) 0 < 2
  ·rw [(hx.lo i f ei).2 q, (hy.lo i f ei).2 (by omega)]
  ·by_cases q3 : x.getD (40 + f) 0 = 3
   ·rw [hx.skip i f ei q3, hy.skip i f ei (by omega)]
   ·have q2 : x.getD (40 + f) 0 = 2 := by omega
    by_cases g : gateB kk f = true ∧ doesI kk f = 3
    ·exact hg i f ei hfl g.1 g.2 q2
    ·rw [hx.done i f ei q2 fun a b => g ⟨a, b⟩, hy.done i f ei (by omega) fun a b => g ⟨a, b⟩]
 have kids : ∀ k, k < kk.length → x.getD (40 + k) 0 = y.getD (40 + k) 0 := by
  refine hf.ind fun k hk ih => ?_
  have hs : scan ls x k ls.length = scan ls y k ls.length := scan_congr fun i hi e => by
   obtain ⟨z, e2, e3⟩ := pair_of e
   rcases hw.fr i z e3 with rfl | ⟨f, rfl, hfl⟩
   ·rw [hx.out i e3, hy.out i e3]
   ·exact one f hfl (ih i f e2 hfl) i e3
  by_cases h0 : x.getD (40 + k) 0 = 0
  ·by_cases h1 : y.getD (40 + k) 0 = 0
   ·rw [h0, h1]
   ·obtain ⟨p, hp, _⟩ := hy.fate k hk h1
    rcases cx k hk with e | e
    ·exact absurd h0 e
    ·rw [hs, hp] at e; simp at e
  ·obtain ⟨p, hp, f1, f2, f3⟩ := hx.fate k hk h0
   by_cases h1 : y.getD (40 + k) 0 = 0
   ·rcases cy k hk with e | e
    ·exact absurd h1 e
    ·rw [← hs, hp] at e; simp at e
   ·obtain ⟨p', hp', g1, g2, g3⟩ := hy.fate k hk h1
    obtain rfl : p = p' := by rw [hs, hp'] at hp; exact (Option.some.inj hp).symm
    by_cases d : Dies kk k p
    ·rw [f1 d, g1 d]
    ·by_cases a : Auto kk k
     ·rw [f2 d a, g2 d a]
     ·have := f3 d a
      have := g3 d a
      have := hd k hk a
      omega
 refine ext hx.len hy.len fun i hi => ?_
 by_cases q : i < 40
 ·by_cases r : i < ls.length
  ·have e3 : (ls[i]?).map Prod.fst = some ls[i].1 := by simp [r]
   rcases hw.fr i _ e3 with z | ⟨f, z, hfl⟩
   ·rw [z] at e3; rw [hx.out i e3, hy.out i e3]
   ·rw [z] at e3; exact one f hfl (kids f hfl) i e3
  ·have a := hx.lv i q
   have b := hy.lv i q
   rw [if_neg r] at a b
   omega
 ·by_cases r : i - 40 < kk.length
  ·have := kids (i - 40) r
   rwa [show 40 + (i - 40) = i by omega] at this
  ·have a := hx.kv (i - 40) (by omega)
   have b := hy.kv (i - 40) (by omega)
   rw [if_neg r, show 40 + (i - 40) = i by omega] at a b
   omega
theorem orders {ls kk : List (Int × Int)} (hw : Web ls kk) {rk : Nat → Nat} (hf : Free ls rk) {s x y x2 y2 : List Int} {a b : Nat} (ha : a < kk.length) (hb : b < kk.length)
  (ga : gateB kk a = false) (gb : gateB kk b = false) (hx : After ls kk s a x) (hy : After ls kk s b y) (hx2 : After ls kk x b x2) (hy2 : After ls kk y a y2) (hi : Inv ls kk s) : x2 = y2 := by
 have k64 := hw.k64
 have l40 := hw.l40
 have dx : ∀ k, k < kk.length → ¬ Auto kk k → (x2.getD (40 + k) 0 = 2 ↔ (s.getD (40 + k) 0 = 2 ∨ k = a) ∨ k = b) := fun k hk h => by rw [hx2.d k (by omega) h, hx.d k (by omega) h]
 have dy : ∀ k, k < kk.length → ¬ Auto kk k → (y2.getD (40 + k) 0 = 2 ↔ (s.getD (40 + k) 0 = 2 ∨ k = b) ∨ k = a) := fun k hk h => by rw [hy2.d k (by omega) h, hy.d k (by omega) h]
 refine hx2.inv.same hw hf hy2.inv hx2.calm hy2.calm (fun k hk h => ?_) (fun i f ei hfl hg h3 h2 => ?_)
 ·rw [dx k hk h, dy k hk h]
  constructor
  ·rintro ((h | h) | h)
   ·exact .inl (.inl h)
   ·exact .inr h
   ·exact .inl (.inr h)
  ·rintro ((h | h) | h)
   ·exact .inl (.inl h)
   ·exact .inr h
   ·exact .inl (.inr h)
 ·have na : ¬ Auto kk f := fun h => h.2 h3
  have hfa : f ≠ a := by rintro rfl; rw [ga] at hg; cases hg
  have hfb : f ≠ b := by rintro rfl; rw [gb] at hg; cases hg
  have hs2 : s.getD (40 + f) 0 = 2 := by
   rcases (dx f hfl na).1 h2 with (h | h) | h
   ·exact h
   ·exact absurd h hfa
   ·exact absurd h hfb
  have hi40 : i < 40 := by
   by_cases q : i < ls.length
   ·omega
   ·rw [List.getElem?_eq_none (by omega)] at ei; simp at ei
  have hne : s.getD i 0 ≠ 0 := fun e => by have := (hi.lo i f ei).1 e; omega
  have e1 := hx.l i hi40 hne
  have e2 := hy.l i hi40 hne
  rw [hx2.l i hi40 (by rw [e1]; exact hne), hy2.l i hi40 (by rw [e2]; exact hne), e1, e2]
end Dd
end Go.Proofs
namespace Go.Proofs
open Go.RowKit Go.ChangeShapes Go.WideShapes
theorem Dd.cellsi : Tryz.prog.cellsOf 3 = 1 := by kernel_rfl
theorem Dd.cells_arr2 : Tryz.prog.cellsOf 72 = 2 := by kernel_rfl
theorem Dd.array2 {α : Type} {cs : Array α} (h : cs.size = 2) : ∃ a b, cs = #[a, b] := by
 obtain ⟨l⟩ := cs
 match l, h with
 | [a, b], _ => exact ⟨a, b, rfl⟩
theorem Dd.list2 {α : Type} {l : List α} (h : l.length = 2) : ∃ a b, l = [a, b] := by
 match l, h with
 | [a, b], _ => exact ⟨a, b, rfl⟩
set_option maxRecDepth 100000 in
theorem Dd.open_arr2 {H : Type} {enc : TypeId × Value → H} {W : World} {spare : Nat → Bool} {held : Bool} {r : Reach} {base b0 : Nat} {v : Value} {dd : DataW H} {p : List MemPlace}
  (hv : Value.okWide Tryz.prog W r b0 72 v) (h : DataW.Trod enc Tryz.prog W base spare held 72 v dd p) : ∃ x0 x1, v = .agg #[.int .i64 x0, .int .i64 x1] := by
 obtain ⟨cs, rfl, hs⟩ : ∃ cs, v = .agg cs ∧ cs.size = Tryz.prog.cellsOf 72 := by
  simp only [Value.okWide, Tryz.underlying72] at hv
  obtain ⟨cs, h1, h2, _⟩ := hv
  exact ⟨cs, h1, h2⟩
 rw [Dd.cells_arr2] at hs
 obtain ⟨c0, c1, rfl⟩ := Dd.array2 hs
 obtain ⟨fuel, hf⟩ := h
 obtain ⟨xs, m, _, _, _, hxl, hx⟩ := DataW.trod_array Tryz.underlying72 hf
 obtain ⟨y0, y1, rfl⟩ := Dd.list2 hxl
 rw [Dd.cellsi] at hx
 have g0 : DataW.trod enc Tryz.prog W base spare held m 3 [c0] = some y0 := hx 0 (by decide)
 have g1 : DataW.trod enc Tryz.prog W base spare held m 3 [c1] = some y1 := hx 1 (by decide)
 obtain ⟨n0, e0, _⟩ := DataW.trod_int Tryz.underlying3 g0
 obtain ⟨n1, e1, _⟩ := DataW.trod_int Tryz.underlying3 g1
 rw [(List.cons.inj e0).1, (List.cons.inj e1).1]
 exact ⟨n0, n1, rfl⟩
end Go.Proofs
namespace Go.Proofs.YtdghjgiakblfmaaGreatDoor.DeadOrders
open Go.RowKit
set_option maxRecDepth 100000 in
set_option maxHeartbeats 32000000 in
theorem walk (T : Ac) (V : Ac.Vs) (e dd : Nat) (pa : Option Addr) (pc : Nat) (ps : List Int) (a0 a1 : Int) (w : World) (hT : Ac.Lies w w.heap.size e dd V T) (hP : Dd.Nums w w.heap.size pa ps) (hO : Tk.Ops w) :
    Calls Tryz.prog 8 #[.agg (Ac.row T V), .slice pa ps.length pc, .agg #[.int .i64 a0, .int .i64 a1]] w fun e w' => e = .returned (.bool true) ∧ Below w.heap.size w w' := by
  have h0 : 0 < w.heap.size := by have := hO.lt; omega
  obtain ⟨ka, kc, hvk, hKd⟩ := Dd.kds_of hT
  obtain ⟨la, lc, hvl, hLk⟩ := hT.own.l
  obtain ⟨n, hn⟩ : ∃ n, T.ks.length = n := ⟨_, rfl⟩
  obtain ⟨m, hm⟩ : ∃ n, T.ls.length = n := ⟨_, rfl⟩
  obtain ⟨pn, hpn⟩ : ∃ n, ps.length = n := ⟨_, rfl⟩
  obtain ⟨xs, hxs⟩ : ∃ xs, Ac.row T V = xs := ⟨_, rfl⟩
  have hsz : xs.size = 12 := by rw [← hxs]; rfl
  have x8 : xs[8]? = some (.slice ka n kc) := by rw [← hxs, ← hn, ← hvk]; rfl
  have x9 : xs[9]? = some (.slice la m lc) := by rw [← hxs, ← hm, ← hvl]; rfl
  obtain ⟨w1, hw1⟩ : ∃ z, w.alloc (.cells xs 32) = z := ⟨_, rfl⟩
  have B1 : Below w.heap.size w w1 := by rw [← hw1]; exact (Below.refl _ w).alloc (Nat.le_refl _) _
  have N1 : w1.heap[w.heap.size]? = some (.cells xs 32 (0, 0)) := by rw [← hw1]; exact heap_alloc_new w _
  have hlt1 := (Array.getElem?_eq_some_iff.1 N1).1
  have hs1 : w1.heap.size = w.heap.size + 1 := by rw [← hw1]; simp
  obtain ⟨wq, hwq⟩ : ∃ z, w1.alloc (.cells #[.int .i64 a0, .int .i64 a1] 72) = z := ⟨_, rfl⟩
  have Bq : Below w1.heap.size w1 wq := by rw [← hwq]; exact (Below.refl _ w1).alloc (Nat.le_refl _) _
  have Nq : wq.heap[w.heap.size + 1]? = some (.cells #[.int .i64 a0, .int .i64 a1] 72 (0, 0)) := by rw [← hwq, ← hs1]; exact heap_alloc_new w1 _
  have hltq := (Array.getElem?_eq_some_iff.1 Nq).1
  have N1' := N1
  have N1 : wq.heap[w.heap.size]? = some (.cells xs 32 (0, 0)) := (Bq.block _ hlt1).trans N1'
  have B1' := B1
  have B1 : Below w.heap.size w wq := B1'.trans (Bq.mono B1'.size)
  have hlt1 := (Array.getElem?_eq_some_iff.1 N1).1
  obtain ⟨w2, hw2⟩ : ∃ z, wq.alloc (.cells #[.int .i64 600] 36) = z := ⟨_, rfl⟩
  have B2 : Below wq.heap.size wq w2 := by rw [← hw2]; exact (Below.refl _ wq).alloc (Nat.le_refl _) _
  have R2 : Tk.Rm wq.heap.size ((600 : Nat) : Int) w2 := by rw [← hw2]; exact heap_alloc_new wq _
  have B02 : Below w.heap.size w w2 := B1.trans (B2.mono B1.size)
  have CL0 := Tryz.alarge_any e dd T V 600 wq.heap.size 1 w.heap.size w2 (hT.keep B02.block) (by omega) B02.size R2 (by omega) (by omega)
  rw [hxs] at CL0
  have CL : Hid _ := CL0
  have HX : Hid (∀ W, Below wq.heap.size wq W → W.heap[w.heap.size]? = some (.cells xs 32 (0, 0)) ∧ Below w.heap.size w W ∧ W.rangeAt w.heap.size 0 xs.toList ∧ W.cell? ⟨w.heap.size, 8, none⟩ = some (.slice ka n kc) ∧ W.cell? ⟨w.heap.size, 9, none⟩ = some (.slice la m lc)) := fun W hb => by
    have h := (hb.block _ hlt1).trans N1
    refine ⟨h, B1.trans (hb.mono B1.size), fun j v hv => ?_, ?_, ?_⟩
    · rw [Nat.zero_add]
      simp only [World.cell?, h]
      simpa using hv
    · simp [World.cell?, h, x8]
    · simp [World.cell?, h, x9]
  have H1 : Hid ((w.alloc (.cells xs 32)).alloc (.cells #[.int .i64 a0, .int .i64 a1] 72) = wq) := by show _ = _; rw [hw1]; exact hwq
  have HX2 : Hid (∀ W, Below wq.heap.size wq W → W.cell? ⟨w.heap.size + 1, 0, none⟩ = some (.int .i64 a0) ∧ W.cell? ⟨w.heap.size + 1, 1, none⟩ = some (.int .i64 a1)) := fun W hb => by
    have h := (hb.block _ hltq).trans Nq
    exact ⟨by simp [World.cell?, h], by simp [World.cell?, h]⟩
  have H2 : Hid (wq.alloc (.cells #[.int .i64 600] 36) = w2) := hw2
  have HS : Hid (∀ W, Below w.heap.size w W → Calls Tryz.prog 10 #[] W fun e w' => e = .returned (.bool true) ∧ Below W.heap.size W w') := fun W hb => Tryz.skips_any W (hO.below hb hO.lt)
  have HT : Hid (Ac.Lies w w.heap.size e dd V T ∧ Tk.Ops w ∧ Ac.row T V = xs ∧ T.ks.length = n ∧ T.ls.length = m ∧ Dd.Kds w w.heap.size ka (Dd.kkOf T) ∧ 0 < w.heap.size ∧ V.k = .slice ka n kc) := ⟨hT, hO, hxs, hn, hm, hKd, h0, by rw [← hn]; exact hvk⟩
  have HPI : Hid (Dd.Nums w w.heap.size pa ps ∧ ps.length = pn) := ⟨hP, hpn⟩
  have HBB : Hid (Below wq.heap.size wq w2 ∧ w.heap.size < wq.heap.size) := ⟨B2, hlt1⟩
  have ha := Tryz.underlying32
  have hu := Tryz.underlying41
  have ia : (Tryz.prog.info? 32).map (·.size) = some xs.size := by rw [hsz]; exact Dd.info_act
  have ial : (Tryz.prog.info? 32).map (·.size) = some xs.toList.length := by rw [ia]; simp
  rw [hpn]
  rw [hxs]
  clear hT hP hO hKd hLk hvk hvl hn hm hpn hxs hsz x8 x9 hwq hw2 B1 B2 R2 B02 CL0 hlt1 h0 hw1 hs1 Bq Nq hltq N1' B1'
  go_enter Tryz.func8, Tryz.ntmps8
  go_upto_region 1 with fail
  rw [H1.out]
  go_wp2_with (refine wpList_load_row rfl 32 _ rfl _ rfl 32 _ (0, 0) _ N1 ha rfl ia ?_)
  rw [H2.out]
  refine Calls.mono CL.out ?_
  rintro e' W3 ⟨hb3, ⟨rfl, hsm, k3, hk3, -⟩ | rfl⟩
  rotate_left
  · have HB3 : Hid (Below w.heap.size w W3) := (HX.out W3 (HBB.out.1.trans (hb3.below HBB.out.1.size (by intro i hi; show ¬ i = wq.heap.size; omega)))).2.1
    clear hb3 CL N1
    go_wp2_with fail
    refine Calls.mono (HS.out W3 HB3.out) ?_
    rintro e' W4 ⟨rfl, hb4⟩
    have HB4 : Hid (Below w.heap.size w W4) := HB3.out.trans (hb4.mono HB3.out.size)
    clear hb4
    go_wp2
    go_ret
    exact ⟨rfl, HB4.out⟩
  have HB3 : Hid (Below wq.heap.size wq W3) := HBB.out.1.trans (hb3.below HBB.out.1.size (by intro i hi; show ¬ i = wq.heap.size; omega))
  have HSM : Hid (T.All Dd.Small ∧ T.size ≤ 600) := ⟨hsm, by omega⟩
  clear hb3 CL N1 hsm hk3
  obtain ⟨t0, t1⟩ := HX2.out W3 HB3.out
  by_cases hp60 : 30 < pn
  · have dp : decide ((30 : Int) < pn) = true := decide_eq_true (by omega)
    have dp' : decide (30 < pn) = true := decide_eq_true hp60
    go_wp2_with fail
    refine Calls.mono (HS.out W3 (HX.out W3 HB3.out).2.1) ?_
    rintro e' W4 ⟨rfl, hb4⟩
    have HB4 : Hid (Below w.heap.size w W4) := (HX.out W3 HB3.out).2.1.trans (hb4.mono (HX.out W3 HB3.out).2.1.size)
    clear hb4
    go_wp2
    go_ret
    exact ⟨rfl, HB4.out⟩
  have dp : decide ((30 : Int) < pn) = false := decide_eq_false (by omega)
  have dp' : decide (30 < pn) = false := decide_eq_false hp60
  have HPN : Hid (pn ≤ 30) := by show pn ≤ 30; omega
  by_cases hq0 : a0 < 0
  · have dq : decide (a0 < 0) = true := decide_eq_true hq0
    go_wp2_with fail
    refine Calls.mono (HS.out W3 (HX.out W3 HB3.out).2.1) ?_
    rintro e' W4 ⟨rfl, hb4⟩
    have HB4 : Hid (Below w.heap.size w W4) := (HX.out W3 HB3.out).2.1.trans (hb4.mono (HX.out W3 HB3.out).2.1.size)
    clear hb4
    go_wp2
    go_ret
    exact ⟨rfl, HB4.out⟩
  have dq : decide (a0 < 0) = false := decide_eq_false hq0
  by_cases hq1 : a1 < 0
  · have dr : decide (a1 < 0) = true := decide_eq_true hq1
    go_wp2_with fail
    refine Calls.mono (HS.out W3 (HX.out W3 HB3.out).2.1) ?_
    rintro e' W4 ⟨rfl, hb4⟩
    have HB4 : Hid (Below w.heap.size w W4) := (HX.out W3 HB3.out).2.1.trans (hb4.mono (HX.out W3 HB3.out).2.1.size)
    clear hb4
    go_wp2
    go_ret
    exact ⟨rfl, HB4.out⟩
  have dr : decide (a1 < 0) = false := decide_eq_false hq1
  have CX : Hid (Dd.Ctx w xs (Dd.webB T) T.ls (Dd.kkOf T)) := by
    have h := Dd.ctx dd e T V w HT.out.1 HT.out.2.2.2.2.2.2.1 (by have := HSM.out.2; omega) (Ac.all_mono (fun _ h => Dd.fit_of h) T HSM.out.1) HT.out.2.1
    rw [HT.out.2.2.1] at h
    exact h
  obtain ⟨wb, hwb⟩ : ∃ b, Dd.webB T = b := ⟨_, rfl⟩
  rw [hwb] at CX
  obtain ⟨nx3, -, -, -, -⟩ := HX.out W3 HB3.out
  have C1 : Hid (Calls Tryz.prog 11 #[.agg xs] W3 fun e w' => e = .returned (.tuple #[.agg (Dd.row (Dd.startR wb T.ls (Dd.kkOf T)).1), .int .i64 (Dd.startR wb T.ls (Dd.kkOf T)).2]) ∧ Below W3.heap.size W3 w') := CX.out.start W3 (HX.out W3 HB3.out).2.1
  obtain ⟨s0, hs0⟩ : ∃ s, (Dd.startR wb T.ls (Dd.kkOf T)).1 = s := ⟨_, rfl⟩
  obtain ⟨e0, he0⟩ : ∃ s, (Dd.startR wb T.ls (Dd.kkOf T)).2 = s := ⟨_, rfl⟩
  rw [hs0, he0] at C1
  have HW : Hid (Dd.webB T = wb ∧ (Dd.startR wb T.ls (Dd.kkOf T)).1 = s0 ∧ (Dd.startR wb T.ls (Dd.kkOf T)).2 = e0) := ⟨hwb, hs0, he0⟩
  have hs0l : s0.length = 104 := by
    rw [← hs0]
    cases hq : wb with
    | false => exact Dd.zeros_length
    | true =>
      rw [hq] at hwb
      exact (Dd.start_inv (Dd.rw_of hwb).right.web).1.len
  have HS0 : Hid (s0.length = 104) := hs0l
  have i0 := Dd.info_row hs0l
  have o0 := Dd.row_one s0
  have z0 : (Tryz.zeroCells41).size = (Dd.row s0).size := by rw [Dd.zero_row, Dd.row_size, Dd.row_size, hs0l, Dd.zeros_length]
  clear hwb hs0 he0 hs0l hp60
  go_upto_region 3 with fail
  clear t0 t1
  go_wp2_with (refine wpList_load_row rfl 32 _ rfl _ rfl 32 _ (0, 0) _ nx3 ha rfl ia ?_)
  refine Calls.mono C1.out ?_
  rintro e' W4 ⟨rfl, hb4⟩
  have NZ4 : (W4.alloc (.cells Tryz.zeroCells41 41)).heap[W4.heap.size]? = some (.cells Tryz.zeroCells41 41 (0, 0)) := heap_alloc_new W4 _
  obtain ⟨W5, hW5⟩ : ∃ z, (W4.alloc (.cells Tryz.zeroCells41 41)).setRow W4.heap.size (Dd.row s0) = z := ⟨_, rfl⟩
  have A5 : Dd.At W5 W4.heap.size s0 := by rw [← hW5]; exact ⟨setRow_heap _ _ _ _ _ _ NZ4, HS0.out⟩
  have B5 : Below W4.heap.size W4 W5 := by rw [← hW5]; exact Tk.below_row ((Below.refl _ W4).alloc (Nat.le_refl _) _) (Nat.le_refl _) _
  have hb14 : Below wq.heap.size wq W4 := HB3.out.trans (hb4.mono HB3.out.size)
  obtain ⟨p, hp⟩ : ∃ p, W4.heap.size = p := ⟨_, rfl⟩
  have HP : Hid (W4.heap.size = p) := hp
  have HB5 : Hid (Below wq.heap.size wq W5 ∧ Dd.At W5 p s0 ∧ wq.heap.size ≤ p) := ⟨hb14.trans (B5.mono hb14.size), by rw [← hp]; exact A5, by have := hb14.size; omega⟩
  have HW5 : Hid _ := hW5
  clear hb4 hb14 hW5 A5 B5 hp C1 nx3
  go_upto_region 4 with (refine wpList_store_row rfl 41 _ _ rfl W4.heap.size (Dd.row s0) rfl rfl 41 _ NZ4 i0 z0 o0 ?_)
  rw [HW5.out, HP.out]
  clear HW5 NZ4 HP i0 o0 z0
  cases wb with
  | false =>
    obtain rfl : e0 = 4 := HW.out.2.2.symm
    go_wp2_with fail
    refine Calls.mono (HS.out W5 (HX.out W5 HB5.out.1).2.1) ?_
    rintro e' W6 ⟨rfl, hb6⟩
    have HB6 : Hid (Below w.heap.size w W6) := (HX.out W5 HB5.out.1).2.1.trans (hb6.mono (HX.out W5 HB5.out.1).2.1.size)
    clear hb6
    go_wp2
    go_ret
    exact ⟨rfl, HB6.out⟩
  | true =>
  obtain rfl : e0 = 0 := HW.out.2.2.symm
  have HRW : Hid (Dd.Rw T) := Dd.rw_of HW.out.1
  have HKL : Hid ((Dd.kkOf T).length = n) := by rw [Dd.kkOf_length]; exact HT.out.2.2.2.1
  have n64 : n ≤ 64 := by have := HRW.out.right.web.k64; have := HKL.out; omega
  have m40 : m ≤ 40 := by have := HRW.out.right.web.l40; have := HT.out.2.2.2.2.1; omega
  have HI0 : Hid (Dd.Inv T.ls (Dd.kkOf T) s0 ∧ Dd.Calm T.ls (Dd.kkOf T) s0 ∧ Dd.cnt n s0 ≤ n) := by
    have h := Dd.start_inv HRW.out.right.web
    have hs : Dd.start T.ls (Dd.kkOf T) = s0 := HW.out.2.1
    rw [hs] at h
    exact ⟨h.1, h.2, Dd.cnt_le _ _⟩
  obtain ⟨P0, rfl⟩ : ∃ P : Nat, a0 = P := ⟨a0.toNat, by omega⟩
  obtain ⟨P1, rfl⟩ : ∃ P : Nat, a1 = P := ⟨a1.toNat, by omega⟩
  clear hq0 hq1
  go_upto_region 6 with fail
  go_wp2_with fail
  go_loopg [54] pn (fun gk s54 wr => ∃ (j : Nat) (s : List Int), gk + j = pn ∧ s54 = .int .i64 j ∧ Hid (Dd.Inv T.ls (Dd.kkOf T) s ∧ Dd.Calm T.ls (Dd.kkOf T) s ∧ Dd.At wr p s ∧ Below wq.heap.size wq wr))
  case atStart => exact ⟨0, s0, by omega, rfl, HI0.out.1, HI0.out.2.1, HB5.out.2.1, HB5.out.1⟩
  case round =>
    obtain ⟨q, s, hq, rfl, HJ⟩ := hrel
    obtain ⟨g1, hg1⟩ : ∃ x, gk = x := ⟨_, rfl⟩
    have hpn30 : pn ≤ 30 := HPN.out
    obtain ⟨W6, hW6⟩ : ∃ x, wr = x := ⟨_, rfl⟩
    rw [hg1] at hq
    rw [hW6] at HJ
    rw [hW6]
    obtain ⟨nx6, hbw6, -, c8, c9⟩ := HX.out W6 HJ.out.2.2.2
    have NS6 := HJ.out.2.2.1.h
    have is6 := Dd.info_row HJ.out.1.len
    obtain ⟨L, hL⟩ : ∃ L, Dd.running n s = L := ⟨_, rfl⟩
    obtain ⟨r, hr⟩ : ∃ r, L.length = r := ⟨_, rfl⟩
    have CR : Hid (Calls Tryz.prog 14 #[.agg xs, .agg (Dd.row s)] W6 fun e w' => Nt.Gives L W6 e w') := by
      have h := CX.out.running W6 s hbw6 HJ.out.1.len
      rw [Dd.run_run HRW.out.right.web HJ.out.1, HKL.out, hL] at h
      exact h
    have HLR : Hid (Dd.running n s = L ∧ L.length = r) := ⟨hL, hr⟩
    have HQ : Hid (g1 + q = pn) := hq
    have hrn : r ≤ 64 := by
      have h := List.length_filter_le (fun k => decide (s.getD (40 + k) 0 = 1)) (List.range n)
      rw [← hr, ← hL]
      unfold Dd.running
      rw [List.length_range] at h
      omega
    clear hL hr
    by_cases hlt : q < pn
    · have hd : decide ((q : Int) < pn) = true := decide_eq_true (by omega)
      have hql : q < ps.length := by rw [HPI.out.2]; exact hlt
      obtain ⟨gp, op, rfl, hgp, zp⟩ := HPI.out.1 q hql
      obtain ⟨x, hx⟩ : ∃ x, ps[q] = x := ⟨_, rfl⟩
      rw [hx] at zp
      have z1 : W6.cell? ⟨gp, op + q, none⟩ = some (.int .i64 x) := by rw [hbw6.cell (p := ⟨gp, op + q, none⟩) hgp]; exact zp
      have q0 : (0 : Int) ≤ q := by omega
      have q1 : (q : Int) < pn := by omega
      clear hq hbw6 hx zp hgp hql
      go_wp2_with (first
        | refine wpList_load_row rfl 32 _ rfl _ rfl 32 _ (0, 0) _ nx6 ha rfl ia ?_
        | refine wpList_load_row rfl 41 _ rfl _ rfl 41 (Dd.row s) (0, 0) _ NS6 hu rfl is6 ?_)
      refine Calls.mono CR.out ?_
      rintro e' W7 ⟨v7, rfl, how7, hb7⟩
      rw [HLR.out.2] at how7
      obtain ⟨ra, rc, rfl⟩ := Rk.own_shape how7
      have HB7 : Hid (Dd.At W7 p s ∧ Below wq.heap.size wq W7) := ⟨HJ.out.2.2.1.below hb7 HJ.out.2.2.1.lt, HJ.out.2.2.2.trans (hb7.mono HJ.out.2.2.2.size)⟩
      have HOW : Hid (W7.ownsRow W6.heap.size 3 1 (.slice ra r rc) L.length (Rk.nums L)) := by show World.ownsRow _ _ _ _ _ _ _; rw [HLR.out.2]; exact how7
      obtain ⟨nx7, -, rx7, c8', c9'⟩ := HX.out W7 HB7.out.2
      clear nx6 NS6 is6 CR how7 hb7 c8 c9 z1
      by_cases hr2 : r < 2
      · have e0 : decide ((r : Int) < 2) = true := decide_eq_true (by omega)
        have e0' : decide (r < 2) = true := decide_eq_true hr2
        go_wp2
        go_roundg (g1 - 1)
        case measure => have := HQ.out; omega
        case rel => exact ⟨q + 1, s, by have := HQ.out; omega, by go_num, HJ.out.1, HJ.out.2.1, HB7.out.1, HB7.out.2⟩
      have e0 : decide ((r : Int) < 2) = false := decide_eq_false (by omega)
      have e0' : decide (r < 2) = false := decide_eq_false hr2
      by_cases hx0 : x < 0
      · have e1 : decide (x < 0) = true := decide_eq_true hx0
        go_wp2
        go_roundg (g1 - 1)
        case measure => have := HQ.out; omega
        case rel => exact ⟨q + 1, s, by have := HQ.out; omega, by go_num, HJ.out.1, HJ.out.2.1, HB7.out.1, HB7.out.2⟩
      have e1 : decide (x < 0) = false := decide_eq_false hx0
      obtain ⟨P, rfl⟩ : ∃ P : Nat, x = P := ⟨x.toNat, by omega⟩
      have hr1 : 0 < r := by omega
      have hr0 : ¬ r = 0 := by omega
      obtain ⟨WD, hWD⟩ : ∃ x, W7 = x := ⟨_, rfl⟩
      rw [hWD] at HB7 HOW nx7 rx7 c8' c9'
      rw [hWD]
      clear hWD
      have hPr : P % r < r := Nat.mod_lt _ hr1
      have hPL : P % r < L.length := by rw [HLR.out.2]; exact hPr
      obtain ⟨g7, off7, rfl, hg7, z7⟩ := Dd.own_at HOW.out (P % r) hPL
      obtain ⟨i, hi⟩ : ∃ i, L[P % r] = i := ⟨_, rfl⟩
      rw [hi] at z7
      have HI : Hid (i < n ∧ s.getD (40 + i) 0 = 1) := by
        refine Dd.running_mem.1 ?_
        rw [HLR.out.1, ← hi]
        exact List.getElem_mem _
      obtain ⟨k, hk⟩ : ∃ k, P % r = k := ⟨_, rfl⟩
      have hmod : Int.tmod (P : Int) (r : Int) = (k : Int) := by rw [← hk]; rfl
      rw [hk] at hPr z7
      have k0 : (0 : Int) ≤ k := by omega
      have k1 : (k : Int) < r := by omega
      have hrne : ¬ (r : Int) = 0 := by omega
      clear hPL hi hg7 hk
      have hik : i < (Dd.kkOf T).length := by rw [HKL.out]; exact HI.out.1
      obtain ⟨gk7, ok7, rfl, hgk, y0, y2⟩ := HT.out.2.2.2.2.2.1 i hik
      have hil : i < T.ks.length := by rw [HT.out.2.2.2.1]; exact HI.out.1
      obtain ⟨X, hX⟩ : ∃ X, T.ks[i] = X := ⟨_, rfl⟩
      have hkX : (Dd.kkOf T)[i] = (X.kind, X.a) := by rw [← hX]; simp [Dd.kkOf]
      rw [hkX] at y0 y2
      obtain ⟨K, hK⟩ : ∃ K, X.kind = K := ⟨_, rfl⟩
      have hgate : Dd.gateB (Dd.kkOf T) i = decide (K = 12) := by rw [Dd.gateB_kk T i hil, hX, hK]
      rw [hK] at y0
      have HKK : Hid (Dd.gateB (Dd.kkOf T) i = decide (K = 12) ∧ X.kind = K ∧ i < (Dd.kkOf T).length ∧ gk7 < w.heap.size ∧ w.cell? ⟨gk7, ok7 + i * 12, none⟩ = some (.int .i64 K)) := ⟨hgate, hK, hik, hgk, y0⟩
      have HXX : Hid (∃ h : i < T.ks.length, T.ks[i] = X) := ⟨hil, hX⟩
      have i0 : (0 : Int) ≤ i := by omega
      have i1 : (i : Int) < n := by have := HI.out.1; omega
      obtain ⟨t1, ht1⟩ : ∃ t, (Dd.finR true T.ls (Dd.kkOf T) s i).1 = t := ⟨_, rfl⟩
      obtain ⟨f1, hf1⟩ : ∃ t, (Dd.finR true T.ls (Dd.kkOf T) s i).2 = t := ⟨_, rfl⟩
      have HFN : Hid (if K = 12 then t1 = Dd.zeros ∧ f1 = 6 else Dd.After T.ls (Dd.kkOf T) s i t1 ∧ f1 = 0) := by
        have h := Dd.fin_run HRW.out.right.web HJ.out.1 hik HI.out.2
        rw [hgate] at h
        by_cases hK12 : K = 12
        · rw [if_pos (decide_eq_true hK12)] at h
          rw [h] at ht1 hf1
          show if _ then _ else _
          rw [if_pos hK12]
          exact ⟨ht1.symm, hf1.symm⟩
        · rw [if_neg (by simpa using hK12)] at h
          rw [h] at ht1 hf1
          show if _ then _ else _
          rw [if_neg hK12, ← ht1, ← hf1]
          exact ⟨Dd.After.finish HRW.out.right.web HJ.out.1 hik HI.out.2, rfl⟩
      have ht1l : t1.length = 104 := by
        have h := HFN.out
        split at h
        · rw [h.1]; exact Dd.zeros_length
        · exact h.1.inv.len
      have CF : Hid (Calls Tryz.prog 17 #[.agg xs, .agg (Dd.row s), .int .i64 i] WD fun e w' => e = .returned (.tuple #[.agg (Dd.row t1), .int .i64 f1]) ∧ Below WD.heap.size WD w') := by
        have h := CX.out.finish WD s i (HX.out WD HB7.out.2).2.1 HJ.out.1.len
        unfold Dd.two at h
        rw [ht1, hf1] at h
        exact h
      have NS7 := HB7.out.1.h
      have is7 := Dd.info_row HJ.out.1.len
      have it1 := Dd.info_row ht1l
      have ot1 := Dd.row_one t1
      have zt1 : (Tryz.zeroCells41).size = (Dd.row t1).size := by rw [Dd.zero_row, Dd.row_size, Dd.row_size, ht1l, Dd.zeros_length]
      have HT1 : Hid (t1.length = 104) := ht1l
      clear hkX hX hK hgate hik hil hgk y0 y2 ht1 hf1 ht1l
      go_upto_region 12 with fail
      go_wp2_with (first
        | refine wpList_load_row rfl 32 _ rfl _ rfl 32 _ (0, 0) _ nx7 ha rfl ia ?_
        | refine wpList_load_row rfl 41 _ rfl _ rfl 41 (Dd.row s) (0, 0) _ NS7 hu rfl is7 ?_)
      refine Calls.mono CF.out ?_
      rintro e' W8 ⟨rfl, hb8⟩
      have NZ8 : (W8.alloc (.cells Tryz.zeroCells41 41)).heap[W8.heap.size]? = some (.cells Tryz.zeroCells41 41 (0, 0)) := heap_alloc_new W8 _
      obtain ⟨W9, hW9⟩ : ∃ z, (W8.alloc (.cells Tryz.zeroCells41 41)).setRow W8.heap.size (Dd.row t1) = z := ⟨_, rfl⟩
      have A9 : Dd.At W9 W8.heap.size t1 := by rw [← hW9]; exact ⟨setRow_heap _ _ _ _ _ _ NZ8, HT1.out⟩
      have B9 : Below W8.heap.size W8 W9 := by rw [← hW9]; exact Tk.below_row ((Below.refl _ W8).alloc (Nat.le_refl _) _) (Nat.le_refl _) _
      have B79 : Below WD.heap.size WD W9 := hb8.trans (B9.mono hb8.size)
      obtain ⟨u, hu8⟩ : ∃ u, W8.heap.size = u := ⟨_, rfl⟩
      have HU8 : Hid (W8.heap.size = u) := hu8
      have HB9 : Hid (Below wq.heap.size wq W9 ∧ Dd.At W9 p s ∧ Dd.At W9 u t1 ∧ p ≠ u ∧ wq.heap.size ≤ p ∧ wq.heap.size ≤ u) := by
        have h1 := HB7.out.1.lt
        have h2 := hb8.size
        have h3 := HB7.out.2.size
        have h4 := HB5.out.2.2
        exact ⟨HB7.out.2.trans (B79.mono HB7.out.2.size), HB7.out.1.below B79 HB7.out.1.lt, by rw [← hu8]; exact A9, by omega, h4, by omega⟩
      have HW9 : Hid _ := hW9
      clear hb8 hW9 A9 B9 B79 hu8 nx7 NS7 CF rx7 c8' c9' z7 HOW
      go_upto_region 13 with (refine wpList_store_row rfl 41 _ _ rfl W8.heap.size (Dd.row t1) rfl rfl 41 _ NZ8 it1 zt1 ot1 ?_)
      rw [HW9.out, HU8.out]
      clear HW9 NZ8 HU8 it1 zt1 ot1
      obtain ⟨nx9, hbw9, rx9, d8, d9⟩ := HX.out W9 HB9.out.1
      have yk : W9.cell? ⟨gk7, ok7 + i * 12, none⟩ = some (.int .i64 K) := by rw [hbw9.cell (p := ⟨gk7, ok7 + i * 12, none⟩) HKK.out.2.2.2.1]; exact HKK.out.2.2.2.2
      clear nx9 hbw9 rx9 d9
      go_cut [54, 88] from 54 to 108 (fun s54 s88 wx => s54 = .int .i64 q ∧ ∃ b : Bool, s88 = .bool b ∧ Hid (b = decide (K = 12)) ∧ wx = W9)
      case first =>
        by_cases hK12 : K = 12
        · have eK : (K == 12) = true := by simp [hK12]
          have HY : Hid (true = decide (K = 12)) := (decide_eq_true hK12).symm
          clear hK12
          go_wp2_with fail
          go_meet
          exact ⟨rfl, true, rfl, HY.out, rfl⟩
        · have eK : (K == 12) = false := by simpa using hK12
          have HY : Hid (false = decide (K = 12)) := (decide_eq_false hK12).symm
          clear hK12
          go_wp2_with fail
          go_meet
          exact ⟨rfl, false, rfl, HY.out, rfl⟩
      case rest =>
        rename World => WE
        obtain ⟨rfl, b87, rfl, HB87, hwe⟩ := hcut
        obtain rfl := hwe
        go_upto_if 88 with fail
        go_cut [14, 54] from 54 to 108 (fun s14 s54 wx => s54 = .int .i64 q ∧ ∃ t : List Int, s14 = .int .i64 0 ∧ Hid (Dd.After T.ls (Dd.kkOf T) s i t ∧ Dd.At wx u t ∧ Dd.At wx p s ∧ Below wq.heap.size wq wx))
        case first =>
          cases b87 with
          | false =>
            have hK12 : ¬ K = 12 := of_decide_eq_false HB87.out.symm
            have HAF : Hid (Dd.After T.ls (Dd.kkOf T) s i t1 ∧ f1 = 0) := by
              have h := HFN.out
              rw [if_neg hK12] at h
              exact h
            clear hK12 HFN
            obtain rfl : f1 = 0 := HAF.out.2
            go_wp2_with fail
            go_meet
            exact ⟨rfl, t1, rfl, HAF.out.1, HB9.out.2.2.1, HB9.out.2.1, HB9.out.1⟩
          | true =>
            have hK12 : K = 12 := of_decide_eq_true HB87.out.symm
            have hgt : Dd.gateB (Dd.kkOf T) i = true := by rw [HKK.out.1]; exact decide_eq_true hK12
            obtain ⟨hil, hX⟩ := HXX.out
            have hA3 : X.a = 3 := by
              have h := HJ.out.1.gt i HI.out.2
              by_cases q : X.a = 3
              · exact q
              · exact absurd ⟨hgt, by rw [Dd.doesI_kk T i hil, hX]; exact q⟩ h
            obtain ⟨cn, hcn⟩ : ∃ c, X.cs.length = c := ⟨_, rfl⟩
            have hcn2 : 2 ≤ cn := by
              have h := HRW.out.gate i hil (by rw [hX]; exact HKK.out.2.1.trans hK12) (by rw [hX]; exact hA3)
              rw [hX, hcn] at h
              exact h
            have hcnt : (T.ls.countP fun x => decide (x.1 = (i : Int))) = cn := by
              have h := HRW.out.right.outs i hil (by rw [hX]; exact HKK.out.2.1.trans hK12) (by rw [hX]; exact hA3)
              rw [hX, hcn] at h
              exact h
            have hcn40 : cn ≤ 40 := by
              have h := List.countP_le_length (p := fun x : Int × Int => decide (x.1 = (i : Int))) (l := T.ls)
              have := HT.out.2.2.2.2.1
              omega
            obtain ⟨o, ho⟩ : ∃ o, P % cn = o := ⟨_, rfl⟩
            have hol : o < cn := by rw [← ho]; exact Nat.mod_lt _ (by omega)
            obtain ⟨c, hc1, hc2⟩ := Dd.cho_run HRW.out.right.web HJ.out.1 HKK.out.2.2.1 HI.out.2 hgt (o := o) (by rw [hcnt]; exact hol)
            obtain ⟨t2, ht2⟩ : ∃ t, Dd.chose T.ls (Dd.kkOf T) s i c = t := ⟨_, rfl⟩
            have haf := Dd.After.choose HRW.out.right.web HJ.out.1 HKK.out.2.2.1 HI.out.2 hgt hc1
            rw [ht2] at haf hc2
            have HT2 : Hid (Dd.After T.ls (Dd.kkOf T) s i t2 ∧ t2.length = 104) := ⟨haf, haf.inv.len⟩
            have CC : Hid (∀ W, Below wq.heap.size wq W → Calls Tryz.prog 23 #[.agg xs, .agg (Dd.row s), .int .i64 i, .int .i64 o] W fun e w' => e = .returned (.tuple #[.agg (Dd.row t2), .int .i64 0]) ∧ Below W.heap.size W w') := fun W hb => by
              have h := CX.out.choose W s i o (HX.out W hb).2.1 HJ.out.1.len (by omega) (by omega)
              rw [hc2] at h
              exact h
            have hkd : ∃ ca cc, w.cell? ⟨gk7, ok7 + i * 12 + 7, none⟩ = some (.slice ca cn cc) := by
              have hl := HT.out.1
              cases dd with
              | zero => exact hl.elim
              | succ dd =>
                obtain ⟨g', off', U, h1, h2, h3, h4⟩ := hl.kid HT.out.2.2.2.2.2.2.2 i hil
                obtain ⟨rfl, rfl⟩ : gk7 = g' ∧ ok7 = off' := by simpa using h1
                obtain ⟨ca, cc, hvc, _⟩ := h4.own.c
                rw [hX, hcn] at hvc
                have h7 := h3 7 (by simp [Ac.row])
                rw [h7]
                exact ⟨ca, cc, by rw [← hvc]; simp [Ac.row]⟩
            obtain ⟨ca, cc, hkc⟩ := hkd
            have HSS : Hid (∀ W, (Below wq.heap.size wq W ∧ Dd.At W p s) → (W.rangeAt w.heap.size 0 xs.toList ∧ W.rangeAt p 0 (Dd.ints s) ∧ W.cell? ⟨w.heap.size, 8, none⟩ = some (.slice (some ⟨gk7, ok7, none⟩) n kc) ∧ W.cell? ⟨gk7, ok7 + i * 12 + 7, none⟩ = some (.slice ca cn cc))) := fun W h => by
              have hx := HX.out W h.1
              exact ⟨hx.2.2.1, Dd.range_st h.2, hx.2.2.2.1, by rw [hx.2.1.cell (p := ⟨gk7, ok7 + i * 12 + 7, none⟩) HKK.out.2.2.2.1]; exact hkc⟩
            have jl : (Tryz.prog.info? 41).map (·.size) = some (Dd.ints s).length := Dd.ints_len HJ.out.1.len
            have it2 := Dd.info_row haf.inv.len
            have ot2 := Dd.row_one t2
            have ez2 : (Dd.row t1).size = (Dd.row t2).size := by rw [Dd.row_size, Dd.row_size, haf.inv.len, HT1.out]
            have hmod2 : Int.tmod (P : Int) (cn : Int) = (o : Int) := by rw [← ho]; rfl
            have hcne : ¬ cn = 0 := by omega
            have HD9 : Hid (Below wq.heap.size wq WE.drew ∧ Dd.At WE.drew p s ∧ Dd.At WE.drew u t1) := ⟨HB9.out.1.drew, ⟨HB9.out.2.1.h, HB9.out.2.1.len⟩, ⟨HB9.out.2.2.1.h, HB9.out.2.2.1.len⟩⟩
            clear hK12 hgt hX hA3 hcn hcnt ho hol hc1 hc2 ht2 haf hkc HFN
            go_upto_region 14 with fail
            refine wp_region_held_drew (S := (fun V => V.rangeAt w.heap.size 0 xs.toList ∧ V.rangeAt p 0 (Dd.ints s) ∧ V.cell? ⟨w.heap.size, 8, none⟩ = some (.slice (some ⟨gk7, ok7, none⟩) n kc) ∧ V.cell? ⟨gk7, ok7 + i * 12 + 7, none⟩ = some (.slice ca cn cc))) (by kernel_rfl) ?_ (fun hHeld => ?_)
            · exact HSS.out _ ⟨HD9.out.1, HD9.out.2.1⟩
            refine Nt.takeS (v := .agg xs) 0 90 rfl rfl (by kernel_rfl) (by kernel_rfl) (by kernel_rfl) (fun _ _ _ h => h) (yieldsIf_load_mid (by rfl) 32 _ rfl w.heap.size 0 rfl xs.toList _ (fun _ hw => hw.1) ha rfl ial) hHeld ?_
            simp only [List.set_cons_succ, List.set_cons_zero]
            refine Nt.takeS (v := .agg (Dd.row s)) 1 91 rfl rfl (by kernel_rfl) (by kernel_rfl) (by kernel_rfl) (fun _ _ _ h => h) (yieldsIf_load_mid (by rfl) 41 _ rfl p 0 rfl (Dd.ints s) _ (fun _ hw => hw.2.1) hu rfl jl) hHeld ?_
            simp only [List.set_cons_succ, List.set_cons_zero]
            refine Nt.takeS (v := ?vb2) 2 92 rfl rfl (by kernel_rfl) (by kernel_rfl) (by kernel_rfl) (fun _ _ _ h => h) (Or.inl ⟨by rfl, ?yb2⟩) hHeld ?rb2
            case yb2 => (intro w hSw; (try dsimp only at hSw); go_simp; all_goals (with_reducible rfl))
            simp only [List.set_cons_succ, List.set_cons_zero]
            refine Nt.takeS (v := ?vb3) 3 93 rfl rfl (by kernel_rfl) (by kernel_rfl) (by kernel_rfl) (fun _ _ _ h => h) (Or.inl ⟨by rfl, ?yb3⟩) hHeld ?rb3
            case yb3 => (intro w hSw; (try dsimp only at hSw); go_simp; all_goals (with_reducible rfl))
            simp only [List.set_cons_succ, List.set_cons_zero]
            refine Nt.takeS (v := ?vb4) 4 94 rfl rfl (by kernel_rfl) (by kernel_rfl) (by kernel_rfl) (fun _ _ _ h => h) (Or.inl ⟨by rfl, ?yb4⟩) hHeld ?rb4
            case yb4 => (intro w hSw; (try dsimp only at hSw); go_simp; all_goals (with_reducible rfl))
            simp only [List.set_cons_succ, List.set_cons_zero]
            refine Nt.takeS (v := ?vb5) 5 95 rfl rfl (by kernel_rfl) (by kernel_rfl) (by kernel_rfl) (fun _ _ _ h => h) (Or.inl ⟨by rfl, ?yb5⟩) hHeld ?rb5
            case yb5 => (intro w hSw; (try dsimp only at hSw); go_simp; all_goals (with_reducible rfl))
            simp only [List.set_cons_succ, List.set_cons_zero]
            refine Nt.takeS (v := ?vb6) 6 96 rfl rfl (by kernel_rfl) (by kernel_rfl) (by kernel_rfl) (fun _ _ _ h => h) (Or.inl ⟨by rfl, ?yb6⟩) hHeld ?rb6
            case yb6 => (intro w hSw; (try dsimp only at hSw); go_simp; all_goals (with_reducible rfl))
            simp only [List.set_cons_succ, List.set_cons_zero]
            refine Nt.takeS (v := ?vb7) 7 97 rfl rfl (by kernel_rfl) (by kernel_rfl) (by kernel_rfl) (fun _ _ _ h => h) (Or.inl ⟨by rfl, ?yb7⟩) hHeld ?rb7
            case yb7 => (intro w hSw; (try dsimp only at hSw); go_simp; all_goals (with_reducible rfl))
            simp only [List.set_cons_succ, List.set_cons_zero]
            refine Nt.takeS (v := ?vb8) 8 98 rfl rfl (by kernel_rfl) (by kernel_rfl) (by kernel_rfl) (fun _ _ _ h => h) (Or.inl ⟨by rfl, ?yb8⟩) hHeld ?rb8
            case yb8 => (intro w hSw; (try dsimp only at hSw); go_simp; all_goals (with_reducible rfl))
            simp only [List.set_cons_succ, List.set_cons_zero]
            refine Nt.takeS (v := ?vb9) 9 99 rfl rfl (by kernel_rfl) (by kernel_rfl) (by kernel_rfl) (fun _ _ _ h => h) (Or.inl ⟨by rfl, ?yb9⟩) hHeld ?rb9
            case yb9 => (intro w hSw; (try dsimp only at hSw); go_simp; all_goals (with_reducible rfl))
            simp only [List.set_cons_succ, List.set_cons_zero]
            refine Nt.takeS (v := ?vb10) 10 100 rfl rfl (by kernel_rfl) (by kernel_rfl) (by kernel_rfl) (fun _ _ _ h => h) (Or.inl ⟨by rfl, ?yb10⟩) hHeld ?rb10
            case yb10 => (intro w hSw; (try dsimp only at hSw); go_simp; all_goals (with_reducible rfl))
            simp only [List.set_cons_succ, List.set_cons_zero]
            refine Nt.takeS (v := ?vb11) 11 101 rfl rfl (by kernel_rfl) (by kernel_rfl) (by kernel_rfl) (fun _ _ _ h => h) (Or.inl ⟨by rfl, ?yb11⟩) hHeld ?rb11
            case yb11 => (intro w hSw; (try dsimp only at hSw); go_simp; all_goals (with_reducible rfl))
            simp only [List.set_cons_succ, List.set_cons_zero]
            refine wpAnyH_ready (rs := [12]) (by kernel_rfl) (by simp) ?_
            refine AllReadyH.cons rfl (fun K hK => ?_) AllReadyH.nil
            go_simp
            go_at_call 23
            refine Calls.mono (CC.out _ HD9.out.1) ?_
            rintro e' WA ⟨rfl, hbA⟩
            have HDA : Hid (Below wq.heap.size wq WA ∧ Dd.At WA p s ∧ Dd.At WA u t1) := ⟨HD9.out.1.trans (hbA.mono HD9.out.1.size), HD9.out.2.1.below hbA HD9.out.2.1.lt, HD9.out.2.2.below hbA HD9.out.2.2.lt⟩
            clear hbA
            go_wp2_with fail
            refine hK.out _ _ ?_ (fun hH12 => ?_)
            · exact HSS.out _ ⟨HDA.out.1, HDA.out.2.1⟩
            clear hK K
            first | refine Nt.normS 102 rfl ?_ | skip
            first | (simp only [List.set_cons_succ, List.set_cons_zero]) | skip
            refine Nt.takeS (v := ?vc13) 13 89 rfl rfl (by kernel_rfl) (by kernel_rfl) (by kernel_rfl) (fun _ _ _ h => h) (Or.inl ⟨by rfl, ?yc13⟩) hH12 ?rc13
            case yc13 => (intro w hSw; (try dsimp only at hSw); go_simp; all_goals (with_reducible rfl))
            simp only [List.set_cons_succ, List.set_cons_zero]
            refine Nt.takeS (v := ?vc14) 14 103 rfl rfl (by kernel_rfl) (by kernel_rfl) (by kernel_rfl) (fun _ _ _ h => h) (Or.inl ⟨by rfl, ?yc14⟩) hH12 ?rc14
            case yc14 => (intro w hSw; (try dsimp only at hSw); go_simp; all_goals (with_reducible rfl))
            simp only [List.set_cons_succ, List.set_cons_zero]
            refine Nt.takeS (v := ?vc15) 15 104 rfl rfl (by kernel_rfl) (by kernel_rfl) (by kernel_rfl) (fun _ _ _ h => h) (Or.inl ⟨by rfl, ?yc15⟩) hH12 ?rc15
            case yc15 => (intro w hSw; (try dsimp only at hSw); go_simp; all_goals (with_reducible rfl))
            simp only [List.set_cons_succ, List.set_cons_zero]
            refine wpAnyH_ready (rs := [16]) (by kernel_rfl) (by simp) ?_
            refine AllReadyH.cons rfl (fun K hK => ?_) AllReadyH.nil
            have NRA := HDA.out.2.2.h
            refine Dd.step_row rfl 41 _ _ rfl u (Dd.row t2) rfl rfl 41 _ NRA it2 ez2 ot2 ?_
            refine hK.out _ _ ?_ (fun hH16 => ?_)
            · exact HSS.out _ ⟨Tk.below_row HDA.out.1 HB9.out.2.2.2.2.2 _, HDA.out.2.1.keep (setRow_other _ _ _ _ HB9.out.2.2.2.1)⟩
            clear hK K
            refine Nt.takeS (v := ?vc17) 17 14 rfl rfl (by kernel_rfl) (by kernel_rfl) (by kernel_rfl) (fun _ _ _ h => h) (Or.inl ⟨by rfl, ?yc17⟩) hH16 ?rc17
            case yc17 => (intro w hSw; (try dsimp only at hSw); go_simp; all_goals (with_reducible rfl))
            simp only [List.set_cons_succ, List.set_cons_zero]
            refine wpAnyH_done (by kernel_rfl) ?_ _
            go_wp2_with fail
            have HDF : Hid (Dd.At (WA.setRow u (Dd.row t2)) u t2 ∧ Dd.At (WA.setRow u (Dd.row t2)) p s ∧ Below wq.heap.size wq (WA.setRow u (Dd.row t2))) := ⟨HDA.out.2.2.setRow HT2.out.2, HDA.out.2.1.keep (setRow_other _ _ _ _ HB9.out.2.2.2.1), Tk.below_row HDA.out.1 HB9.out.2.2.2.2.2 _⟩
            go_meet
            exact ⟨rfl, t2, rfl, HT2.out.1, HDF.out.1, HDF.out.2.1, HDF.out.2.2⟩
        case rest =>
          rename World => WF
          obtain ⟨rfl, t, rfl, HAT⟩ := hcut
          have NU := HAT.out.2.1.h
          have NP := HAT.out.2.2.1.h
          have it := Dd.info_row HAT.out.1.inv.len
          have ot := Dd.row_one t
          have ez : (Dd.row s).size = (Dd.row t).size := by rw [Dd.row_size, Dd.row_size, HAT.out.1.inv.len, HJ.out.1.len]
          have HN : Hid (Dd.Inv T.ls (Dd.kkOf T) t ∧ Dd.Calm T.ls (Dd.kkOf T) t ∧ Dd.At (WF.setRow p (Dd.row t)) p t ∧ Below wq.heap.size wq (WF.setRow p (Dd.row t))) :=
            ⟨HAT.out.1.inv, HAT.out.1.calm, HAT.out.2.2.1.setRow HAT.out.1.inv.len, Tk.below_row HAT.out.2.2.2 HB9.out.2.2.2.2.1 _⟩
          go_wp2_with (first
            | refine wpList_load_row rfl 41 _ rfl _ rfl 41 (Dd.row t) (0, 0) _ NU hu rfl it ?_
            | refine wpList_store_row rfl 41 _ _ rfl p (Dd.row t) rfl rfl 41 _ NP it ez ot ?_)
          go_roundg (g1 - 1)
          case measure => have := HQ.out; omega
          case rel => exact ⟨q + 1, t, by have := HQ.out; omega, by go_num, HN.out⟩
    · have hd : decide ((q : Int) < pn) = false := decide_eq_false (by omega)
      clear hq hbw6 c8 c9
      go_wp2_with (first
        | refine wpList_load_row rfl 32 _ rfl _ rfl 32 _ (0, 0) _ nx6 ha rfl ia ?_
        | refine wpList_load_row rfl 41 _ rfl _ rfl 41 (Dd.row s) (0, 0) _ NS6 hu rfl is6 ?_)
      refine Calls.mono CR.out ?_
      rintro e' W7 ⟨v7, rfl, how7, hb7⟩
      rw [HLR.out.2] at how7
      obtain ⟨ra, rc, rfl⟩ := Rk.own_shape how7
      have HB7 : Hid (Dd.At W7 p s ∧ Below wq.heap.size wq W7) := ⟨HJ.out.2.2.1.below hb7 HJ.out.2.2.1.lt, HJ.out.2.2.2.trans (hb7.mono HJ.out.2.2.2.size)⟩
      have HOW : Hid (W7.ownsRow W6.heap.size 3 1 (.slice ra r rc) L.length (Rk.nums L)) := by show World.ownsRow _ _ _ _ _ _ _; rw [HLR.out.2]; exact how7
      obtain ⟨nx7, hbw7, rx7, c8', c9'⟩ := HX.out W7 HB7.out.2
      obtain ⟨t0, t1⟩ := HX2.out W7 HB7.out.2
      clear nx6 NS6 is6 CR how7 hb7
      by_cases hr2 : r < 2
      · have e0 : decide ((r : Int) < 2) = true := decide_eq_true (by omega)
        have e0' : decide (r < 2) = true := decide_eq_true hr2
        have HBW : Hid (Below w.heap.size w W7) := hbw7
        clear hbw7
        go_wp2_with fail
        refine Calls.mono (HS.out _ HBW.out) ?_
        rintro e' W9 ⟨rfl, hb9⟩
        have HB9 : Hid (Below w.heap.size w W9) := HBW.out.trans (hb9.mono HBW.out.size)
        clear hb9
        go_wp2
        go_ret
        exact ⟨rfl, HB9.out⟩
      have e0 : decide ((r : Int) < 2) = false := decide_eq_false (by omega)
      have e0' : decide (r < 2) = false := decide_eq_false hr2
      have hr0 : ¬ r = 0 := by omega
      have pick : ∀ Q : Nat, ∃ i k : Nat, Q % r = k ∧ k < r ∧ (∃ h : k < L.length, L[k] = i) ∧ i < n ∧ s.getD (40 + i) 0 = 1 := fun Q => by
        have h1 : Q % r < r := Nat.mod_lt _ (by omega)
        have h2 : Q % r < L.length := by rw [HLR.out.2]; exact h1
        have h3 := Dd.running_mem.1 (show L[Q % r] ∈ Dd.running n s by rw [HLR.out.1]; exact List.getElem_mem _)
        exact ⟨L[Q % r], Q % r, rfl, h1, ⟨h2, rfl⟩, h3⟩
      obtain ⟨i, ki, hki, hkir, ⟨hkil, hLi⟩, hin, hi1⟩ := pick P0
      obtain ⟨b, kb, hkb, hkbr, ⟨hkbl, hLb⟩, hbn, hb1⟩ := pick P1
      obtain ⟨g7, off7, rfl, hg7, z7⟩ := Dd.own_at HOW.out ki hkil
      obtain ⟨g8, off8, h8, hg8, z8⟩ := Dd.own_at HOW.out kb hkbl
      obtain ⟨rfl, rfl⟩ : g7 = g8 ∧ off7 = off8 := by simpa using h8
      rw [hLi] at z7
      rw [hLb] at z8
      have hmi : Int.tmod (P0 : Int) (r : Int) = (ki : Int) := by rw [← hki]; rfl
      have hmb : Int.tmod (P1 : Int) (r : Int) = (kb : Int) := by rw [← hkb]; rfl
      have f0 : (0 : Int) ≤ ki := by omega
      have f1 : (ki : Int) < r := by omega
      have f2 : (0 : Int) ≤ kb := by omega
      have f3 : (kb : Int) < r := by omega
      have i0 : (0 : Int) ≤ i := by omega
      have i1 : (i : Int) < n := by omega
      have b0 : (0 : Int) ≤ b := by omega
      have b1 : (b : Int) < n := by omega
      have hik : i < (Dd.kkOf T).length := by rw [HKL.out]; exact hin
      have hbk : b < (Dd.kkOf T).length := by rw [HKL.out]; exact hbn
      have hil : i < T.ks.length := by rw [HT.out.2.2.2.1]; exact hin
      have hbl : b < T.ks.length := by rw [HT.out.2.2.2.1]; exact hbn
      obtain ⟨gi, oi, rfl, hgi, yi, -⟩ := HT.out.2.2.2.2.2.1 i hik
      obtain ⟨gb, ob, hgb', hgb, yb, -⟩ := HT.out.2.2.2.2.2.1 b hbk
      obtain ⟨rfl, rfl⟩ : gi = gb ∧ oi = ob := by simpa using hgb'
      obtain ⟨Ki, hKi⟩ : ∃ K, T.ks[i].kind = K := ⟨_, rfl⟩
      obtain ⟨Kb, hKb⟩ : ∃ K, T.ks[b].kind = K := ⟨_, rfl⟩
      have hgti : Dd.gateB (Dd.kkOf T) i = decide (Ki = 12) := by rw [Dd.gateB_kk T i hil, hKi]
      have hgtb : Dd.gateB (Dd.kkOf T) b = decide (Kb = 12) := by rw [Dd.gateB_kk T b hbl, hKb]
      have yi' : W7.cell? ⟨gi, oi + i * 12, none⟩ = some (.int .i64 Ki) := by
        rw [hbw7.cell (p := ⟨gi, oi + i * 12, none⟩) hgi, yi, ← hKi]
        simp [Dd.kkOf]
      have yb' : W7.cell? ⟨gi, oi + b * 12, none⟩ = some (.int .i64 Kb) := by
        rw [hbw7.cell (p := ⟨gi, oi + b * 12, none⟩) hgi, yb, ← hKb]
        simp [Dd.kkOf]
      have HIB : Hid (i < (Dd.kkOf T).length ∧ s.getD (40 + i) 0 = 1 ∧ b < (Dd.kkOf T).length ∧ s.getD (40 + b) 0 = 1 ∧ Dd.gateB (Dd.kkOf T) i = decide (Ki = 12) ∧ Dd.gateB (Dd.kkOf T) b = decide (Kb = 12)) := ⟨hik, hi1, hbk, hb1, hgti, hgtb⟩
      have HBW : Hid (Below w.heap.size w W7) := hbw7
      clear hki hkir hkil hLi hin hi1 hkb hkbr hkbl hLb hbn hb1 hg7 hg8 h8 hik hbk hil hbl hgi yi hgb' hgb yb hKi hKb hgti hgtb hbw7 pick HOW
      by_cases hib : i = b
      · have ei : ((i : Int) == b) = true := by simp [hib]
        have ei' : (i == b) = true := by simp [hib]
        go_wp2_with fail
        refine Calls.mono (HS.out _ HBW.out) ?_
        rintro e' W9 ⟨rfl, hb9⟩
        have HB9 : Hid (Below w.heap.size w W9) := HBW.out.trans (hb9.mono HBW.out.size)
        clear hb9
        go_wp2
        go_ret
        exact ⟨rfl, HB9.out⟩
      have ei : ((i : Int) == b) = false := by simp; omega
      have ei' : (i == b) = false := by simpa using hib
      by_cases hKi : Ki = 12
      · have ek : (Ki == 12) = true := by simp [hKi]
        go_wp2_with fail
        refine Calls.mono (HS.out _ HBW.out) ?_
        rintro e' W9 ⟨rfl, hb9⟩
        have HB9 : Hid (Below w.heap.size w W9) := HBW.out.trans (hb9.mono HBW.out.size)
        clear hb9
        go_wp2
        go_ret
        exact ⟨rfl, HB9.out⟩
      have ek : (Ki == 12) = false := by simpa using hKi
      by_cases hKb : Kb = 12
      · have el : (Kb == 12) = true := by simp [hKb]
        go_wp2_with fail
        refine Calls.mono (HS.out _ HBW.out) ?_
        rintro e' W9 ⟨rfl, hb9⟩
        have HB9 : Hid (Below w.heap.size w W9) := HBW.out.trans (hb9.mono HBW.out.size)
        clear hb9
        go_wp2
        go_ret
        exact ⟨rfl, HB9.out⟩
      have el : (Kb == 12) = false := by simpa using hKb
      have HNG : Hid (i ≠ b ∧ Ki ≠ 12 ∧ Kb ≠ 12) := ⟨hib, hKi, hKb⟩
      clear hKi hKb
      have CF : Hid (∀ (W : World) (l : List Int) (k : Nat), Below wq.heap.size wq W → Dd.Inv T.ls (Dd.kkOf T) l → k < (Dd.kkOf T).length → l.getD (40 + k) 0 = 1 → Dd.gateB (Dd.kkOf T) k = false → Calls Tryz.prog 17 #[.agg xs, .agg (Dd.row l), .int .i64 k] W fun e w' => e = .returned (.tuple #[.agg (Dd.row (Dd.finished T.ls (Dd.kkOf T) l k)), .int .i64 0]) ∧ Below W.heap.size W w') := fun W l k hb hi hk h1 hg => by
        have h := CX.out.finish W l k (HX.out W hb).2.1 hi.len
        rw [Dd.fin_run HRW.out.right.web hi hk h1, hg, if_neg (by decide)] at h
        exact h
      have gi0 : Dd.gateB (Dd.kkOf T) i = false := by rw [HIB.out.2.2.2.2.1]; exact decide_eq_false HNG.out.2.1
      have gb0 : Dd.gateB (Dd.kkOf T) b = false := by rw [HIB.out.2.2.2.2.2]; exact decide_eq_false HNG.out.2.2
      obtain ⟨X1, hX1⟩ : ∃ z, Dd.finished T.ls (Dd.kkOf T) s i = z := ⟨_, rfl⟩
      obtain ⟨Y1, hY1⟩ : ∃ z, Dd.finished T.ls (Dd.kkOf T) s b = z := ⟨_, rfl⟩
      have ax := Dd.After.finish HRW.out.right.web HJ.out.1 HIB.out.1 HIB.out.2.1
      have ay := Dd.After.finish HRW.out.right.web HJ.out.1 HIB.out.2.2.1 HIB.out.2.2.2.1
      rw [hX1] at ax
      rw [hY1] at ay
      have n64' : (Dd.kkOf T).length ≤ 64 := HRW.out.right.web.k64
      have xb1 : X1.getD (40 + b) 0 = 1 := by rw [ax.k b (by have := HIB.out.2.2.1; omega) (Ne.symm HNG.out.1) (by have := HIB.out.2.2.2.1; omega)]; exact HIB.out.2.2.2.1
      have yi1 : Y1.getD (40 + i) 0 = 1 := by rw [ay.k i (by have := HIB.out.1; omega) HNG.out.1 (by have := HIB.out.2.1; omega)]; exact HIB.out.2.1
      have ax2 := Dd.After.finish HRW.out.right.web ax.inv HIB.out.2.2.1 xb1
      have ay2 := Dd.After.finish HRW.out.right.web ay.inv HIB.out.1 yi1
      have hsame : Dd.finished T.ls (Dd.kkOf T) X1 b = Dd.finished T.ls (Dd.kkOf T) Y1 i := by
        obtain ⟨rk, hf⟩ := HRW.out.right.free
        exact Dd.orders HRW.out.right.web hf HIB.out.1 HIB.out.2.2.1 gi0 gb0 ax ay ax2 ay2 HJ.out.1
      obtain ⟨Z, hZ⟩ : ∃ z, Dd.finished T.ls (Dd.kkOf T) X1 b = z := ⟨_, rfl⟩
      rw [hZ] at ax2
      have hZ2 : Dd.finished T.ls (Dd.kkOf T) Y1 i = Z := hsame.symm.trans hZ
      have C1 : Hid (∀ W, Below wq.heap.size wq W → Calls Tryz.prog 17 #[.agg xs, .agg (Dd.row s), .int .i64 i] W fun e w' => e = .returned (.tuple #[.agg (Dd.row X1), .int .i64 0]) ∧ Below W.heap.size W w') := fun W hb => by
        have h := CF.out W s i hb HJ.out.1 HIB.out.1 HIB.out.2.1 gi0
        rw [hX1] at h
        exact h
      have C2 : Hid (∀ W, Below wq.heap.size wq W → Calls Tryz.prog 17 #[.agg xs, .agg (Dd.row s), .int .i64 b] W fun e w' => e = .returned (.tuple #[.agg (Dd.row Y1), .int .i64 0]) ∧ Below W.heap.size W w') := fun W hb => by
        have h := CF.out W s b hb HJ.out.1 HIB.out.2.2.1 HIB.out.2.2.2.1 gb0
        rw [hY1] at h
        exact h
      have C3 : Hid (∀ W, Below wq.heap.size wq W → Calls Tryz.prog 17 #[.agg xs, .agg (Dd.row X1), .int .i64 b] W fun e w' => e = .returned (.tuple #[.agg (Dd.row Z), .int .i64 0]) ∧ Below W.heap.size W w') := fun W hb => by
        have h := CF.out W X1 b hb ax.inv HIB.out.2.2.1 xb1 gb0
        rw [hZ] at h
        exact h
      have C4 : Hid (∀ W, Below wq.heap.size wq W → Calls Tryz.prog 17 #[.agg xs, .agg (Dd.row Y1), .int .i64 i] W fun e w' => e = .returned (.tuple #[.agg (Dd.row Z), .int .i64 0]) ∧ Below W.heap.size W w') := fun W hb => by
        have h := CF.out W Y1 i hb ay.inv HIB.out.1 yi1 gi0
        rw [hZ2] at h
        exact h
      have HLS : Hid (s.length = 104 ∧ X1.length = 104 ∧ Y1.length = 104 ∧ Z.length = 104) := ⟨HJ.out.1.len, ax.inv.len, ay.inv.len, ax2.inv.len⟩
      have iS := Dd.info_row HLS.out.1
      have iX := Dd.info_row HLS.out.2.1
      have iY := Dd.info_row HLS.out.2.2.1
      have iZ := Dd.info_row HLS.out.2.2.2
      have oX := Dd.row_one X1
      have oY := Dd.row_one Y1
      have oZ := Dd.row_one Z
      have zX : (Tryz.zeroCells41).size = (Dd.row X1).size := by rw [Dd.zero_row, Dd.row_size, Dd.row_size, HLS.out.2.1, Dd.zeros_length]
      have zY : (Tryz.zeroCells41).size = (Dd.row Y1).size := by rw [Dd.zero_row, Dd.row_size, Dd.row_size, HLS.out.2.2.1, Dd.zeros_length]
      have xz : (Dd.row X1).size = (Dd.row Z).size := by rw [Dd.row_size, Dd.row_size, HLS.out.2.1, HLS.out.2.2.2]
      have yz : (Dd.row Y1).size = (Dd.row Z).size := by rw [Dd.row_size, Dd.row_size, HLS.out.2.2.1, HLS.out.2.2.2]
      have jZ := Dd.ints_len HLS.out.2.2.2
      have EQ : ∀ W : World, (Op.equalIn 10000 41 (.agg (Dd.row Z)) (.agg (Dd.row Z))).run Tryz.prog W = .ok true W := fun W => by
        rw [Dd.st_eq Z Z HLS.out.2.2.2 HLS.out.2.2.2 W, decide_eq_true rfl]
      clear ax ay ax2 ay2 hX1 hY1 hZ hZ2 hsame xb1 yi1 gi0 gb0 n64' CF
      go_upto_region 26 with fail
      clear z7 z8 hmi hmb yi' yb' t0 t1 c8' c9' rx7
      have NS7 := HB7.out.1.h
      go_wp2_with (first
        | refine wpList_load_row rfl 32 _ rfl _ rfl 32 _ (0, 0) _ nx7 ha rfl ia ?_
        | refine wpList_load_row rfl 41 _ rfl _ rfl 41 (Dd.row s) (0, 0) _ NS7 hu rfl iS ?_)
      refine Calls.mono (C1.out _ HB7.out.2) ?_
      rintro e' W8 ⟨rfl, hb8⟩
      have NZ8 : (W8.alloc (.cells Tryz.zeroCells41 41)).heap[W8.heap.size]? = some (.cells Tryz.zeroCells41 41 (0, 0)) := heap_alloc_new W8 _
      obtain ⟨W9, hW9⟩ : ∃ z, (W8.alloc (.cells Tryz.zeroCells41 41)).setRow W8.heap.size (Dd.row X1) = z := ⟨_, rfl⟩
      have A9 : Dd.At W9 W8.heap.size X1 := by rw [← hW9]; exact ⟨setRow_heap _ _ _ _ _ _ NZ8, HLS.out.2.1⟩
      have B9 : Below W8.heap.size W8 W9 := by rw [← hW9]; exact Tk.below_row ((Below.refl _ W8).alloc (Nat.le_refl _) _) (Nat.le_refl _) _
      have B79 : Below W7.heap.size W7 W9 := hb8.trans (B9.mono hb8.size)
      obtain ⟨u, hu8⟩ : ∃ u, W8.heap.size = u := ⟨_, rfl⟩
      have HU8 : Hid (W8.heap.size = u) := hu8
      have HB9 : Hid (Below wq.heap.size wq W9 ∧ Dd.At W9 p s ∧ Dd.At W9 u X1) := ⟨HB7.out.2.trans (B79.mono HB7.out.2.size), HB7.out.1.below B79 HB7.out.1.lt, by rw [← hu8]; exact A9⟩
      have HW9 : Hid _ := hW9
      have HUu : Hid (wq.heap.size ≤ u) := by
        have h1 := HB7.out.2.size; have h2 := hb8.size
        show _ ≤ _
        omega
      clear hb8 hW9 A9 B9 B79 hu8 nx7 NS7
      go_upto_region 27 with (refine wpList_store_row rfl 41 _ _ rfl W8.heap.size (Dd.row X1) rfl rfl 41 _ NZ8 iX zX oX ?_)
      rw [HW9.out, HU8.out]
      clear HW9 NZ8 HU8
      have nx9 := (HX.out W9 HB9.out.1).1
      have NS9 := HB9.out.2.1.h
      go_wp2_with (first
        | refine wpList_load_row rfl 32 _ rfl _ rfl 32 _ (0, 0) _ nx9 ha rfl ia ?_
        | refine wpList_load_row rfl 41 _ rfl _ rfl 41 (Dd.row s) (0, 0) _ NS9 hu rfl iS ?_)
      refine Calls.mono (C2.out _ HB9.out.1) ?_
      rintro e' WA ⟨rfl, hbA⟩
      have NZA : (WA.alloc (.cells Tryz.zeroCells41 41)).heap[WA.heap.size]? = some (.cells Tryz.zeroCells41 41 (0, 0)) := heap_alloc_new WA _
      obtain ⟨WB, hWB⟩ : ∃ z, (WA.alloc (.cells Tryz.zeroCells41 41)).setRow WA.heap.size (Dd.row Y1) = z := ⟨_, rfl⟩
      have AB : Dd.At WB WA.heap.size Y1 := by rw [← hWB]; exact ⟨setRow_heap _ _ _ _ _ _ NZA, HLS.out.2.2.1⟩
      have BB : Below WA.heap.size WA WB := by rw [← hWB]; exact Tk.below_row ((Below.refl _ WA).alloc (Nat.le_refl _) _) (Nat.le_refl _) _
      have B9B : Below W9.heap.size W9 WB := hbA.trans (BB.mono hbA.size)
      obtain ⟨v, hvA⟩ : ∃ u, WA.heap.size = u := ⟨_, rfl⟩
      have HUA : Hid (WA.heap.size = v) := hvA
      have HBB2 : Hid (Below wq.heap.size wq WB ∧ Dd.At WB u X1 ∧ Dd.At WB v Y1 ∧ u ≠ v ∧ wq.heap.size ≤ v) := ⟨HB9.out.1.trans (B9B.mono HB9.out.1.size), HB9.out.2.2.below B9B HB9.out.2.2.lt, by rw [← hvA]; exact AB, by have h1 := HB9.out.2.2.lt; have h2 := hbA.size; omega, by have h1 := HB9.out.1.size; have h2 := hbA.size; omega⟩
      have HWB : Hid _ := hWB
      clear hbA hWB AB BB B9B hvA nx9 NS9
      go_upto_region 28 with (refine wpList_store_row rfl 41 _ _ rfl WA.heap.size (Dd.row Y1) rfl rfl 41 _ NZA iY zY oY ?_)
      rw [HWB.out, HUA.out]
      clear HWB NZA HUA
      have nxB := (HX.out WB HBB2.out.1).1
      have NSB := HBB2.out.2.1.h
      go_wp2_with (first
        | refine wpList_load_row rfl 32 _ rfl _ rfl 32 _ (0, 0) _ nxB ha rfl ia ?_
        | refine wpList_load_row rfl 41 _ rfl _ rfl 41 (Dd.row X1) (0, 0) _ NSB hu rfl iX ?_)
      refine Calls.mono (C3.out _ HBB2.out.1) ?_
      rintro e' WC ⟨rfl, hbC⟩
      have AC := HBB2.out.2.1.below hbC HBB2.out.2.1.lt
      have NSC := AC.h
      have HBC : Hid (Below wq.heap.size wq (WC.setRow u (Dd.row Z)) ∧ Dd.At (WC.setRow u (Dd.row Z)) u Z ∧ Dd.At (WC.setRow u (Dd.row Z)) v Y1) := ⟨Tk.below_row (HBB2.out.1.trans (hbC.mono HBB2.out.1.size)) HUu.out _, AC.setRow HLS.out.2.2.2, (HBB2.out.2.2.1.below hbC HBB2.out.2.2.1.lt).keep (setRow_other _ _ _ _ (Ne.symm HBB2.out.2.2.2.1))⟩
      obtain ⟨WD, hWD⟩ : ∃ z, WC.setRow u (Dd.row Z) = z := ⟨_, rfl⟩
      rw [hWD] at HBC
      have HWD : Hid _ := hWD
      clear hbC AC nxB NSB hWD
      go_upto_region 29 with (refine wpList_store_row rfl 41 _ _ rfl u (Dd.row Z) rfl rfl 41 _ NSC iZ xz oZ ?_)
      rw [HWD.out]
      clear HWD NSC
      have nxD := (HX.out WD HBC.out.1).1
      have NSD := HBC.out.2.2.h
      go_wp2_with (first
        | refine wpList_load_row rfl 32 _ rfl _ rfl 32 _ (0, 0) _ nxD ha rfl ia ?_
        | refine wpList_load_row rfl 41 _ rfl _ rfl 41 (Dd.row Y1) (0, 0) _ NSD hu rfl iY ?_)
      refine Calls.mono (C4.out _ HBC.out.1) ?_
      rintro e' WE ⟨rfl, hbE⟩
      have AE := HBC.out.2.2.below hbE HBC.out.2.2.lt
      have NSE := AE.h
      have HBE : Hid (Below wq.heap.size wq (WE.setRow v (Dd.row Z)) ∧ Dd.At (WE.setRow v (Dd.row Z)) v Z ∧ Dd.At (WE.setRow v (Dd.row Z)) u Z) := ⟨Tk.below_row (HBC.out.1.trans (hbE.mono HBC.out.1.size)) HBB2.out.2.2.2.2 _, AE.setRow HLS.out.2.2.2, (HBC.out.2.1.below hbE HBC.out.2.1.lt).keep (setRow_other _ _ _ _ HBB2.out.2.2.2.1)⟩
      obtain ⟨WF, hWF⟩ : ∃ z, WE.setRow v (Dd.row Z) = z := ⟨_, rfl⟩
      rw [hWF] at HBE
      have HWF : Hid _ := hWF
      clear hbE AE nxD NSD hWF
      go_upto_region 30 with (refine wpList_store_row rfl 41 _ _ rfl v (Dd.row Z) rfl rfl 41 _ NSE iZ yz oZ ?_)
      rw [HWF.out]
      clear HWF NSE
      have RU := Dd.range_st HBE.out.2.2
      have RV := Dd.range_st HBE.out.2.1
      have HBW2 : Hid (Below w.heap.size w WF) := (HX.out WF HBE.out.1).2.1
      have hqe : ∀ W : World, (Op.equalIn 10000 41 (.agg (Dd.ints Z).toArray) (.agg (Dd.ints Z).toArray)).run Tryz.prog W = .ok true W := fun W => by
        have h := Dd.st_eq Z Z HLS.out.2.2.2 HLS.out.2.2.2 W
        rw [decide_eq_true rfl] at h
        exact h
      go_wp2_with (first
        | refine Dd.load_want (by rfl) 41 _ rfl u 0 rfl (Dd.ints Z) _ RU hu rfl jZ ?_
        | refine Dd.load_want (by rfl) 41 _ rfl v 0 rfl (Dd.ints Z) _ RV hu rfl jZ ?_
        | fail)
      refine Calls.mono (HS.out WF HBW2.out) ?_
      rintro e' WG ⟨rfl, hbG⟩
      have HBG : Hid (Below w.heap.size w WG) := HBW2.out.trans (hbG.mono HBW2.out.size)
      clear hbG RU RV
      go_wp2
      go_ret
      exact ⟨rfl, HBG.out⟩
end Go.Proofs.YtdghjgiakblfmaaGreatDoor.DeadOrders
