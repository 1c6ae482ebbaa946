/-
  rule.All: a process's rules.
-/
import Derived.Test.YtiedlccnlkhnkaaDoorRuRules
import Derived.Test.YtiedlccnlkhnkaaDoorNtAll
import Derived.Laws.AppendOwnNone
namespace Go.Proofs
open Go.RowKit Go.Shelf

/-- A row behind a row of the same kind. -/
theorem Ru.wpList_append_rows {ops : Array Oper} {rest : List Oper} {o : Oper} {a : Act} {w : World} {Q : Exit → Act → World → Prop} (hgd : o.guard = none) (s x : Operand) (t : TypeId)
    (ho : o.op = .call { callee := .builtin .append, args := #[s, x], argTypes := #[t, t] })
    (base : Nat) (e : TypeId) (i : TypeInfo) (z : Value) (bytes : Nat) (ht : Tryd.prog.underlying t = some (.slice e)) (hi : Tryd.prog.info? e = some i) (hz : i.zero = some z)
    (hsize : i.size = 4) (hby : i.bytes = bytes) (hzs : z.cells.size = 4)
    (v : Value) (n : Nat) (xs : List Value) (hs : a.eval s = v) (hown : w.ownsRow base e 4 v n xs)
    (v2 : Value) (m : Nat) (news : List Value) (hx : a.eval x = v2) (hown2 : w.ownsRow base e 4 v2 m news) (h1 : ∀ u ∈ news, u.oneCell' = true)
    (h63 : n + m ≤ maxLen) (hbytes : (n + m) * bytes ≤ 140737488355328) (hbase : base ≤ w.heap.size)
    (h : ∀ v' w', w'.ownsRow base e 4 v' (n + m) (xs ++ news) → w.grownBy w' v.ownBlock → wpList Tryd.prog ops Q rest (a.put o.dst v') w') : wpList Tryd.prog ops Q (o :: rest) a w := by
  rcases hown2 with ⟨hl, ⟨rfl, rfl⟩ | ⟨g, cap, cur, rfl, hB, hg, h4, h5, h6, h7⟩⟩
  · have hn : news = [] := List.eq_nil_of_length_eq_zero (by simpa using hl)
    subst hn
    exact wpList_append_own_none hgd s x t ho base e i 4 ht hi v n xs hs hown hx (h v w (by rw [List.append_nil]; exact hown) (World.grownBy.refl _ _))
  · refine wpList_append_own _ hgd s x t ho base e i z 4 bytes ht hi hz hsize hby hzs (by decide) v n xs hs hown ⟨g, 0, none⟩ m cap news hx hl (fun j u hj => ?_) h1 h63 hbytes hbase (fun v' w' h1 h2 _ => h v' w' h1 h2)
    rw [show (⟨g, 0, none⟩ : Addr).add j = ⟨g, j, none⟩ by simp [Addr.add]; omega]
    simp only [World.cell?, hg]
    rw [← h7, List.getElem?_take] at hj
    split at hj
    · rw [Array.getElem?_toList] at hj; exact hj
    · simp at hj

/-- All rules. -/
def Ru.allP (ns : List Nd) (fs : List Fl) : List Ru := (List.range ns.length).flatMap (Ru.rulesP ns fs)
theorem Ru.ins_len (fs : List Fl) (i : Int) : (Nt.insL fs i).length ≤ fs.length := Nat.le_trans (List.length_filter_le _ _) (by rw [List.length_range]; exact Nat.le_refl _)
theorem Ru.outs_len (fs : List Fl) (i : Int) : (Nt.outsL fs i).length ≤ fs.length := Nat.le_trans (List.length_filter_le _ _) (by rw [List.length_range]; exact Nat.le_refl _)
theorem Ru.rulesP_len (ns : List Nd) (fs : List Fl) (i : Nat) (h : fs.length ≤ 100) : (Ru.rulesP ns fs i).length ≤ 100 := by
  have h1 := Ru.ins_len fs i
  have h2 := Ru.outs_len fs i
  unfold Ru.rulesP
  split
  · simp
  · split
    · simp
    · split
      · rw [List.length_map]; omega
      · split
        · split <;> rw [List.length_map] <;> omega
        · simp
/-- What All comes to. -/
def Ru.AllGives (T : TypeId) (c : Nat) (rs : List Ru) (w : World) (e : Ending) (w' : World) : Prop :=
  Below w.heap.size w w' ∧ ((c ≠ 0 ∧ e = .returned (.tuple #[.slice none 0 0, .int .i64 4])) ∨ (c = 0 ∧ ∃ v, e = .returned (.tuple #[v, .int .i64 0]) ∧ Ru.Row T w.heap.size w' v rs))

set_option maxRecDepth 20000 in
set_option maxHeartbeats 8000000 in
theorem Tryd.rAll_any (an : Option Addr) (cn : Nat) (af : Option Addr) (cf d : Nat) (ns : List Nd) (fs : List Fl) (w : World) (hH : Nt.Has w w.heap.size d an af ns fs) (hO : Tk.Ops w) :
    Calls Tryd.prog 17 #[.agg #[.slice an ns.length cn, .slice af fs.length cf]] w fun e w' => Ru.AllGives 53 (Nt.checkN ns fs).1 (Ru.allP ns fs) w e w' := by
  obtain ⟨i0, hi0, hz0, hz1, hz2⟩ := info_parts Tryd.infoRule
  obtain ⟨w1, hw1⟩ : ∃ x, w.alloc (.cells #[.slice an ns.length cn, .slice af fs.length cf] 25) = x := ⟨_, rfl⟩
  have A1 : Below w.heap.size w w1 := by rw [← hw1]; exact (Below.refl _ w).alloc (Nat.le_refl _) _
  have C0 : w1.heap[w.heap.size]? = some (.cells #[.slice an ns.length cn, .slice af fs.length cf] 25 (0, 0)) := by rw [← hw1]; exact heap_alloc_new w _
  obtain ⟨n, hnn⟩ : ∃ n, ns.length = n := ⟨_, rfl⟩
  obtain ⟨m, hmm⟩ : ∃ n, fs.length = n := ⟨_, rfl⟩
  obtain ⟨c0, hc0⟩ : ∃ c, (Nt.checkN ns fs).1 = c := ⟨_, rfl⟩
  obtain ⟨c1, hc1⟩ : ∃ c, (Nt.checkN ns fs).2 = c := ⟨_, rfl⟩
  have HT : Hid (∀ W, Below w1.heap.size w1 W → Below w.heap.size w W) := fun W hb => A1.trans (hb.mono A1.size)
  have CF : Hid (∀ W, Below w1.heap.size w1 W → W.cell? ⟨w.heap.size, 0, none⟩ = some (.slice an n cn) ∧ W.cell? ⟨w.heap.size, 1, none⟩ = some (.slice af m cf)) := fun W hb => by
    have := Nt.box2 ((hb.block _ (Nt.lt_of C0)).trans C0)
    rw [hnn, hmm] at this
    exact this
  have CC : Hid (Calls Tryd.prog 28 #[.agg #[.slice an n cn, .slice af m cf]] w1 fun e w' => e = .returned (.tuple #[.int .i64 (c0 : Int), .int .i64 (c1 : Int)]) ∧ Below w1.heap.size w1 w') := by
    have h := Tryd.nCheck_any an cn af cf d ns fs w1 ((hH.below A1).wider A1.size) (hO.below A1 hO.lt)
    rw [hc0, hc1, hnn, hmm] at h
    exact h
  have CR : Hid (∀ (k : Nat) (W : World), k < n → Below w1.heap.size w1 W → Calls Tryd.prog 45 #[.agg #[.slice an n cn, .slice af m cf], .int .i64 k] W fun e w' => ∃ v, e = .returned v ∧ Hid (Ru.Row 53 W.heap.size w' v (Ru.rulesP ns fs k) ∧ Below W.heap.size W w')) := fun k W hk hb => by
    have hbw := HT.out W hb
    have h := Tryd.rules_any k an cn af cf d ns fs W ((hH.below hbw).wider hbw.size) (by omega)
    rw [hnn, hmm] at h
    exact h
  have HL : Hid (∀ k, (Ru.rulesP ns fs k).length ≤ 100) := fun k => Ru.rulesP_len ns fs k hH.flen
  have hn100 : n ≤ 100 := by have := hH.nlen; omega
  have HN : Hid (ns.length = n) := hnn
  have HA : Hid (Below w.heap.size w w1) := A1
  rw [hnn, hmm] at hw1
  have H1 : Hid (w.alloc (.cells #[.slice an n cn, .slice af m cf] 25) = w1) := hw1
  obtain ⟨p0, p1⟩ := CF.out w1 (Below.refl _ _)
  rw [hnn, hmm, hc0]
  obtain ⟨G, hG⟩ : ∃ G, Ru.AllGives 53 c0 (Ru.allP ns fs) w = G := ⟨_, rfl⟩
  have HG : Hid (Ru.AllGives 53 c0 (Ru.allP ns fs) w = G) := hG
  rw [hG]
  clear hH hO hw1 A1 C0 hnn hmm hc0 hc1 hG
  cases hz : decide (c0 = 0) with
  | false =>
    have hz' : c0 ≠ 0 := of_decide_eq_false hz
    have e0 : ((c0 : Int) != 0) = true := by simp; omega
    clear hz
    go_enter Tryd.func17, Tryd.ntmps17
    go_upto_region 1 with fail
    rw [H1.out]
    go_wp2_with fail
    refine Calls.mono CC.out ?_
    rintro e W1 ⟨rfl, hb1⟩
    have B1 : Hid (Below w.heap.size w W1) := HT.out W1 hb1
    clear hb1
    go_wp2
    rw [← HG.out]
    exact ⟨B1.out, .inl ⟨hz', rfl⟩⟩
  | true =>
    obtain rfl : c0 = 0 := of_decide_eq_true hz
    clear hz
    go_enter Tryd.func17, Tryd.ntmps17
    go_upto_region 1 with fail
    rw [H1.out]
    go_wp2_with fail
    refine Calls.mono CC.out ?_
    rintro e W1 ⟨rfl, hb1⟩
    have B1 : Hid (Below w1.heap.size w1 W1) := hb1
    obtain ⟨x0, x1⟩ := CF.out W1 hb1
    clear hb1 CC
    go_wp2
    clear p0 p1 x0 x1
    go_loopg [6, 18] n (fun gk s6 s18 wr => ∃ (k r : Nat) (qs : List (Ru × Value × Value)), gk + k = n ∧ s18 = .int .i64 k ∧ r ≤ k * 100 ∧ Hid (qs.map (·.1) = (List.range k).flatMap (Ru.rulesP ns fs) ∧ qs.length = r ∧ Below w1.heap.size w1 wr ∧ ∀ q, q ∈ qs → Ru.Ints wr q.2.1 q.1.ne ∧ Ru.Ints wr q.2.2 q.1.gi) ∧ wr.ownsRow w1.heap.size 53 4 s6 r (Ru.cells qs))
    case atStart => exact ⟨0, 0, [], by omega, rfl, Nat.le_refl _, ⟨rfl, rfl, B1.out, fun q hq => by simp at hq⟩, World.ownsRow_nil _ _ _ _⟩
    case round =>
      obtain ⟨k, r, qs, hk, rfl, hr, HB, hown⟩ := hrel
      obtain ⟨av, cv, rfl⟩ := Rk.own_shape hown
      by_cases hlt : k < n
      · have hd : decide ((k : Int) < n) = true := decide_eq_true (by omega)
        obtain ⟨x0, x1⟩ := CF.out wr HB.out.2.2.1
        have HO : Hid (wr.ownsRow w1.heap.size 53 4 (.slice av r cv) r (Ru.cells qs)) := hown
        clear hown
        go_wp2_with fail
        refine Calls.mono (CR.out k wr hlt HB.out.2.2.1) ?_
        rintro e W3 ⟨v, rfl, X3⟩
        obtain ⟨ps, hps, how, hin⟩ := X3.out.1
        obtain ⟨a3, c3, rfl⟩ := Rk.own_shape how
        obtain ⟨m3, hm3⟩ : ∃ n, ps.length = n := ⟨_, rfl⟩
        have hm100 : m3 ≤ 100 := by have := HL.out k; rw [← hps, List.length_map] at this; omega
        rw [hm3] at how ⊢
        have hsz : w1.heap.size ≤ wr.heap.size := HB.out.2.2.1.size
        have hsz3 : w1.heap.size ≤ W3.heap.size := Nat.le_trans hsz X3.out.2.size
        have own3 := Ru.own_below HO.out X3.out.2
        have how3 : W3.ownsRow w1.heap.size 53 4 (.slice a3 m3 c3) m3 (Ru.cells ps) := Nt.own_lower how hsz
        have hone := Ru.cells_one hin
        have HP : Hid (ps.map (·.1) = Ru.rulesP ns fs k ∧ ps.length = m3 ∧ ∀ q, q ∈ ps → Ru.Ints W3 q.2.1 q.1.ne ∧ Ru.Ints W3 q.2.2 q.1.gi) := ⟨hps, hm3, hin⟩
        clear hps hm3 hin how
        go_wp2_with (at_builtin; refine Ru.wpList_append_rows rfl _ _ 44 rfl w1.heap.size 53 i0 (.agg #[.int .i64 0, .int .i64 0, .slice none 0 0, .slice none 0 0]) 64 Tryd.underlying44 hi0 hz0 hz1 hz2 rfl _ _ _ rfl own3 _ m3 (Ru.cells ps) rfl how3 hone ?c3 ?c4 ?c5 ?_)
        case c3 => unfold maxLen; omega
        case c4 => omega
        case c5 => omega
        intro v' W4 own4 g4
        obtain ⟨a4, c4, rfl⟩ := Rk.own_shape own4
        have HN4 : Hid (∀ q, q ∈ qs ++ ps → Ru.Ints W4 q.2.1 q.1.ne ∧ Ru.Ints W4 q.2.2 q.1.gi) := fun q hq => by
          rcases List.mem_append.1 hq with hq | hq
          · have := HB.out.2.2.2 q hq
            exact ⟨(this.1.below X3.out.2).grown (by decide) own3 g4, (this.2.below X3.out.2).grown (by decide) own3 g4⟩
          · have := HP.out.2.2 q hq
            exact ⟨this.1.grown (by decide) own3 g4, this.2.grown (by decide) own3 g4⟩
        have HB4 : Hid (Below w1.heap.size w1 W4) := Rk.below_grown (HB.out.2.2.1.trans (X3.out.2.mono hsz)) hsz3 own3 g4
        clear own3 g4 how3 hone
        go_wp2
        go_roundg (gk - 1)
        case measure => omega
        case rel =>
          refine ⟨k + 1, r + m3, qs ++ ps, by omega, by go_num, by omega, ⟨?_, by rw [List.length_append, HB.out.2.1, HP.out.2.1], HB4.out, HN4.out⟩, ?_⟩
          · rw [List.map_append, HB.out.1, HP.out.1, List.range_succ, List.flatMap_append]
            simp
          · rw [Ru.cells_append]; exact own4
      · have hd : decide ((k : Int) < n) = false := decide_eq_false (by omega)
        have HO : Hid (wr.ownsRow w1.heap.size 53 4 (.slice av r cv) r (Ru.cells qs)) := hown
        clear hown
        go_wp2
        obtain rfl : k = n := by omega
        rw [← HG.out]
        refine ⟨HT.out _ HB.out.2.2.1, .inr ⟨rfl, _, rfl, qs, ?_, by rw [HB.out.2.1]; exact Nt.own_lower HO.out HA.out.size, HB.out.2.2.2⟩⟩
        rw [HB.out.1, Ru.allP, HN.out]

end Go.Proofs
