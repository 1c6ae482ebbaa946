/-
  The document's rules of a node and of a process; a right process's are the program's.
-/
import Derived.Test.YtiedlccnlkhnkaaDoorRuAll
import Derived.Test.YtiedlccnlkhnkaaDoorNtRef1
import Derived.Deep.RegionHeld3
import Derived.Test.YtiedlccnlkhnkaaDoorRuPlain
import Derived.Test.YtiedlccnlkhnkaaDoorNtRef6
namespace Go.Proofs
open Go.RowKit Go.Shelf

/-- The document's rules of a node. -/
def Ru.pairK (L2 : List Nat) : Int := if 1 < L2.length then 2 else 1
def Ru.nodeP (ns : List Nd) (fs : List Fl) (i : Nat) : List Ru :=
  if Nt.kindAt ns i = 1 then []
  else if Nt.kindAt ns i = 5 then (Nt.insL fs i).flatMap fun a => (Nt.outsL fs i).map fun b => Ru.of (Ru.pairK (Nt.outsL fs i)) i [a] [b]
  else if Nt.kindAt ns i = 7 then (Nt.outsL fs i).map fun f => Ru.of 3 i (Nt.insL fs i) (Nt.outsL fs (Ru.toAt fs f))
  else if Nt.kindAt ns i = 8 then [Ru.of 3 i (Nt.insL fs i) (Nt.outsL fs i)]
  else [Ru.of 1 i (Nt.insL fs i) (Nt.outsL fs i)]

theorem Tryd.infoRule14 : (Tryd.prog.info? 54).map (fun i => (i.zero, i.size, i.bytes)) = some (some (.agg #[.int .i64 0, .int .i64 0, .slice none 0 0, .slice none 0 0]), 4, 64) := by kernel_rfl
theorem Ru.four_cells (W : World) (v0 v1 v2 v3 : Value) (T : TypeId) : ∀ j u, [v0, v1, v2, v3][j]? = some u → (W.alloc (.cells #[v0, v1, v2, v3] T)).cell? ((⟨W.heap.size, 0, none⟩ : Addr).add j) = some u := by
  intro j u hj
  match j, hj with
  | 0, hj => simp at hj; subst hj; simp [Addr.add]
  | 1, hj => simp at hj; subst hj; simp [Addr.add]
  | 2, hj => simp at hj; subst hj; simp [Addr.add]
  | 3, hj => simp at hj; subst hj; simp [Addr.add]
theorem Ru.four_one (k0 k1 : Int) (a1 : Option Addr) (n1 c1 : Nat) (a2 : Option Addr) (n2 c2 : Nat) : ∀ u ∈ [Value.int .i64 k0, .int .i64 k1, .slice a1 n1 c1, .slice a2 n2 c2], u.oneCell' = true := by
  intro u hu
  simp only [List.mem_cons, List.not_mem_nil, or_false] at hu
  rcases hu with rfl | rfl | rfl | rfl <;> rfl
/-- A row that is being made: its rules so far. -/
def Ru.Grow (T : TypeId) (B : Nat) (X : World) (v : Value) (r : Nat) (rs : List Ru) : Prop := Ru.Row T B X v rs ∧ rs.length = r
theorem Ru.Grow.step {T : TypeId} {B : Nat} {X X' X2 : World} {v v' : Value} {r : Nat} {rs : List Ru} (hT : T ≠ 3) (h : Ru.Grow T B X v r rs) (hb : Below X.heap.size X X') (x : Ru) (u1 u2 : Value) (h1 : Ru.Ints X' u1 x.ne) (h2 : Ru.Ints X' u2 x.gi)
    (hcs : ∀ cs, X'.ownsRow B T 4 v r cs → X2.ownsRow B T 4 v' (r + 1) (cs ++ [.int .i64 x.kd, .int .i64 x.nd, u1, u2]) ∧ X'.grownBy X2 v.ownBlock) : Ru.Grow T B X2 v' (r + 1) (rs ++ [x]) := by
  obtain ⟨⟨qs, rfl, ho, hi⟩, hr⟩ := h
  rw [List.length_map] at hr
  rw [hr] at ho
  obtain ⟨h3, h4⟩ := hcs _ (Ru.own_below ho hb)
  refine ⟨?_, by rw [List.length_append, List.length_map, hr]; rfl⟩
  exact Ru.Row.push (ps := [(x, u1, u2)]) hT (Ru.own_below ho hb) hr.symm rfl rfl (by simp [Ru.cells]) (fun q hq => ⟨(hi q hq).1.below hb, (hi q hq).2.below hb⟩) (fun q hq => by rw [List.mem_singleton.1 hq]; exact ⟨h1, h2⟩) h3 h4

set_option maxRecDepth 20000 in
set_option maxHeartbeats 16000000 in
theorem Tryd.rnode_any (i : Nat) (an : Option Addr) (cn : Nat) (af : Option Addr) (cf d : Nat) (ns : List Nd) (fs : List Fl) (w : World) (hH : Nt.Has w w.heap.size d an af ns fs) (hi : i < ns.length) :
    Calls Tryd.prog 46 #[.agg #[.slice an ns.length cn, .slice af fs.length cf], .int .i64 i] w fun e w' => ∃ v, e = .returned v ∧ Hid (Ru.Row 54 w.heap.size w' v (Ru.nodeP ns fs i) ∧ Below w.heap.size w w') := by
  obtain ⟨i0, hi0, hz0, hz1, hz2⟩ := info_parts Tryd.infoRule14
  obtain ⟨w0, hw0⟩ : ∃ x, w.alloc (.cells #[.slice an ns.length cn, .slice af fs.length cf] 25) = x := ⟨_, rfl⟩
  have A0 : Below w.heap.size w w0 := by rw [← hw0]; exact (Below.refl _ w).alloc (Nat.le_refl _) _
  have C0 : w0.heap[w.heap.size]? = some (.cells #[.slice an ns.length cn, .slice af fs.length cf] 25 (0, 0)) := by rw [← hw0]; exact heap_alloc_new w _
  obtain ⟨L1, hL1⟩ : ∃ l, Nt.insL fs i = l := ⟨_, rfl⟩
  obtain ⟨L2, hL2⟩ : ∃ l, Nt.outsL fs i = l := ⟨_, rfl⟩
  have hl1 : L1.length ≤ 100 := by rw [← hL1]; exact Nat.le_trans (Ru.ins_len fs i) hH.flen
  have hl2 : L2.length ≤ 100 := by rw [← hL2]; exact Nat.le_trans (Ru.outs_len fs i) hH.flen
  have hm2 : ∀ f, f ∈ L2 → f < fs.length := fun f hf => by rw [← hL2, Nt.outsL] at hf; exact List.mem_range.1 (List.mem_filter.1 hf).1
  obtain ⟨n1, hn1⟩ : ∃ n, L1.length = n := ⟨_, rfl⟩
  obtain ⟨n2, hn2⟩ : ∃ n, L2.length = n := ⟨_, rfl⟩
  obtain ⟨n, hnn⟩ : ∃ n, ns.length = n := ⟨_, rfl⟩
  obtain ⟨m, hmm⟩ : ∃ n, fs.length = n := ⟨_, rfl⟩
  obtain ⟨R, hR⟩ : ∃ l, Ru.nodeP ns fs i = l := ⟨_, rfl⟩
  have HT : Hid (∀ W, Below w0.heap.size w0 W → Below w.heap.size w W) := fun W hb => A0.trans (hb.mono A0.size)
  have CF : Hid (∀ W, Below w0.heap.size w0 W → W.cell? ⟨w.heap.size, 0, none⟩ = some (.slice an n cn) ∧ W.cell? ⟨w.heap.size, 1, none⟩ = some (.slice af m cf)) := fun W hb => by
    have := Nt.box2 ((hb.block _ (Nt.lt_of C0)).trans C0)
    rw [hnn, hmm] at this
    exact this
  have CI : Hid (∀ W, Below w0.heap.size w0 W → Calls Tryd.prog 25 #[.agg #[.slice an n cn, .slice af m cf], .int .i64 i] W fun e w' => ∃ a c, e = .returned (.slice a n1 c) ∧ Hid (Below W.heap.size W w' ∧ Ru.Ints w' (.slice a n1 c) (L1.map fun n : Nat => (n : Int)))) := fun W hb => by
    have hbw := HT.out W hb
    have h := Tryd.rIns_any i an n cn af cf d fs W ((hH.fls.below hbw).wider hbw.size) hH.flen
    rw [hL1, hmm] at h
    refine h.mono fun e w' ⟨v, hv, hown, hbb⟩ => ?_
    have hI := Ru.ints_nums hown
    obtain ⟨a, c, rfl, -⟩ := id hI
    rw [List.length_map, hn1] at hI hv
    exact ⟨a, c, hv, hbb, hI⟩
  have CO : Hid (∀ (W : World) (t : Int), Below w0.heap.size w0 W → Calls Tryd.prog 26 #[.agg #[.slice an n cn, .slice af m cf], .int .i64 t] W fun e w' => ∃ a n c, e = .returned (.slice a n c) ∧ Hid (Below W.heap.size W w' ∧ Ru.Ints w' (.slice a n c) ((Nt.outsL fs t).map fun n : Nat => (n : Int)))) := fun W t hb => by
    have hbw := HT.out W hb
    have h := Tryd.rOuts_any t an n cn af cf d fs W ((hH.fls.below hbw).wider hbw.size) hH.flen
    rw [hmm] at h
    refine h.mono fun e w' ⟨v, hv, hown, hbb⟩ => ?_
    have hI := Ru.ints_nums hown
    obtain ⟨a, c, rfl, -⟩ := id hI
    exact ⟨a, _, c, hv, hbb, hI⟩
  have HH : Hid (Nt.Has w w.heap.size d an af ns fs ∧ ns.length = n ∧ fs.length = m ∧ i < n ∧ L1.length = n1 ∧ L2.length = n2 ∧ ∀ f, f ∈ L2 → f < fs.length) := ⟨hH, hnn, hmm, by omega, hn1, hn2, hm2⟩
  have HR : Hid (Ru.nodeP ns fs i = R ∧ Nt.insL fs i = L1 ∧ Nt.outsL fs i = L2) := ⟨hR, hL1, hL2⟩
  rw [hnn, hmm] at hw0
  have H0 : Hid (w.alloc (.cells #[.slice an n cn, .slice af m cf] 25) = w0) := hw0
  have HA : Hid (Below w.heap.size w w0) := A0
  obtain ⟨g, off, u, hga, hg, q0, -⟩ := hH.nds i hi
  subst hga
  have HKI : Hid (Nt.kindAt ns i = ns[i].kind) := Nt.kindAt_get ns i hi
  obtain ⟨k, hk⟩ : ∃ k, ns[i].kind = k := ⟨_, rfl⟩
  rw [hk] at q0 HKI
  have HQ : Hid (∀ W, Below w0.heap.size w0 W → W.cell? ⟨g, off + i * 5, none⟩ = some (.int .i64 k)) := fun W hb => by rw [(HT.out W hb).cell (p := ⟨g, off + i * 5, none⟩) hg]; exact q0
  have hi0' : (0 : Int) ≤ i := by omega
  have hin : (i : Int) < n := by omega
  have hn1' : n1 ≤ 100 := by omega
  have hn2' : n2 ≤ 100 := by omega
  obtain ⟨p0, p1⟩ := CF.out w0 (Below.refl _ _)
  rw [hR, hnn, hmm]
  clear hH hi hw0 A0 C0 hL1 hL2 hl1 hl2 hm2 hn1 hn2 hnn hmm hR q0 hg hk
  go_enter Tryd.func46, Tryd.ntmps46
  go_upto_region 1 with fail
  rw [H0.out]
  go_wp2_with fail
  refine Calls.mono (CI.out w0 (Below.refl _ _)) ?_
  rintro e W1 ⟨a1, c1, rfl, X1⟩
  clear p0 p1 CI H0
  obtain ⟨p0, p1⟩ := CF.out W1 X1.out.1
  go_wp2_with fail
  refine Calls.mono (CO.out W1 i X1.out.1) ?_
  rintro e W2 ⟨a2, n2', c2, rfl, X2⟩
  clear p0 p1
  rw [HR.out.2.2] at X2
  obtain rfl : n2' = n2 := by
    obtain ⟨_, _, hv, -⟩ := X2.out.2
    simp only [Value.slice.injEq] at hv
    rw [hv.2.1, List.length_map]
    exact HH.out.2.2.2.2.2.1
  have B2 : Hid (Below w0.heap.size w0 W2) := X1.out.1.trans (X2.out.1.mono X1.out.1.size)
  have HI : Hid (Ru.Ints W2 (.slice a1 n1 c1) (L1.map fun n : Nat => (n : Int)) ∧ Ru.Ints W2 (.slice a2 n2' c2) (L2.map fun n : Nat => (n : Int))) := ⟨X1.out.2.below X2.out.1, X2.out.2⟩
  have q1 := HQ.out W2 B2.out
  obtain ⟨p0, p1⟩ := CF.out W2 B2.out
  clear X1 X2
  by_cases h1 : k = 1
  · have hRv : R = [] := by rw [← HR.out.1, Ru.nodeP, HKI.out, if_pos h1]
    subst h1 hRv
    go_wp2
    go_ret
    exact ⟨_, rfl, Ru.row_nil _ _ _, HT.out W2 B2.out⟩
  have k1 : (k == 1) = false := by simpa using h1
  by_cases h5 : k = 5
  · have hRv : R = L1.flatMap fun a => L2.map fun b => Ru.of (Ru.pairK L2) i [a] [b] := by rw [← HR.out.1, Ru.nodeP, HKI.out, if_neg h1, if_pos h5, HR.out.2.1, HR.out.2.2]
    subst h5
    obtain ⟨kd, hkd⟩ : ∃ z, Ru.pairK L2 = z := ⟨_, rfl⟩
    have HRV : Hid (R = L1.flatMap fun a => L2.map fun b => Ru.of kd i [a] [b]) := by show _ = _; rw [← hkd]; exact hRv
    have hkd2 : (1 < n2' ∧ kd = 2) ∨ (¬ 1 < n2' ∧ kd = 1) := by
      rw [← hkd, Ru.pairK, HH.out.2.2.2.2.2.1]
      by_cases h : 1 < n2'
      · exact .inl ⟨h, by rw [if_pos h]⟩
      · exact .inr ⟨h, by rw [if_neg h]⟩
    have BR : Hid (Below W2.heap.size W2 W2) := Below.refl _ _
    clear hkd hRv h1 k1
    go_wp2
    clear q1 p0 p1
    go_loopg [7, 33] n1 (fun gk s7 s33 wr => ∃ (k r : Nat) (qs : List (Ru × Value × Value)), gk + k = n1 ∧ s33 = .int .i64 k ∧ r ≤ k * 100 ∧ Hid (qs.map (·.1) = (L1.take k).flatMap (fun a => L2.map fun b => Ru.of kd i [a] [b]) ∧ qs.length = r ∧ Below W2.heap.size W2 wr ∧ ∀ q, q ∈ qs → Ru.Ints wr q.2.1 q.1.ne ∧ Ru.Ints wr q.2.2 q.1.gi) ∧ wr.ownsRow W2.heap.size 54 4 s7 r (Ru.cells qs))
    case atStart => exact ⟨0, 0, [], by omega, rfl, Nat.le_refl _, ⟨rfl, rfl, BR.out, fun q hq => by simp at hq⟩, World.ownsRow_nil _ _ _ _⟩
    case round =>
      obtain ⟨k, r, qs, hk, rfl, hr, HB, hown⟩ := hrel
      obtain ⟨av, cv, rfl⟩ := Rk.own_shape hown
      by_cases hlt : k < n1
      · have hd : decide ((k : Int) < n1) = true := decide_eq_true (by omega)
        have hkl : k < L1.length := by rw [HH.out.2.2.2.2.1]; exact hlt
        obtain ⟨a', c', hv, hat⟩ := HI.out.1.below HB.out.2.2.1
        simp only [Value.slice.injEq] at hv
        obtain ⟨rfl, -, rfl⟩ := hv
        obtain ⟨gb, ob, -, -, rfl, -, y0⟩ := hat k (by rw [List.length_map]; exact hkl)
        rw [List.getElem_map] at y0
        obtain ⟨x, hx⟩ : ∃ z, L1[k] = z := ⟨_, rfl⟩
        rw [hx] at y0
        obtain ⟨g3, hg3⟩ : ∃ x, x = gk := ⟨_, rfl⟩
        have HX : Hid (L1[k] = x) := hx
        obtain ⟨W7, hW7⟩ : ∃ x, x = wr := ⟨_, rfl⟩
        subst hg3
        subst hW7
        clear hat hx
        go_wp2
        clear y0
        go_loopg [7, 39] n2' (fun gk s7 s39 wr => ∃ (j r2 : Nat) (qs2 : List (Ru × Value × Value)), gk + j = n2' ∧ s39 = .int .i64 j ∧ r2 ≤ k * 100 + j ∧ Hid (qs2.map (·.1) = (L1.take k).flatMap (fun a => L2.map fun b => Ru.of kd i [a] [b]) ++ (L2.take j).map (fun b => Ru.of kd i [x] [b]) ∧ qs2.length = r2 ∧ Below W2.heap.size W2 wr ∧ ∀ q, q ∈ qs2 → Ru.Ints wr q.2.1 q.1.ne ∧ Ru.Ints wr q.2.2 q.1.gi) ∧ wr.ownsRow W2.heap.size 54 4 s7 r2 (Ru.cells qs2))
        case atStart => exact ⟨0, r, qs, by omega, rfl, by omega, ⟨by rw [HB.out.1]; simp, HB.out.2⟩, hown⟩
        case round =>
          obtain ⟨j, r2, qs2, hj, rfl, hr2, HC, hown2⟩ := hrel
          obtain ⟨av2, cv2, rfl⟩ := Rk.own_shape hown2
          by_cases hlt2 : j < n2'
          · have hd2 : decide ((j : Int) < n2') = true := decide_eq_true (by omega)
            have hjl : j < L2.length := by rw [HH.out.2.2.2.2.2.1]; exact hlt2
            obtain ⟨a', c', hv, hat⟩ := HI.out.2.below HC.out.2.2.1
            simp only [Value.slice.injEq] at hv
            obtain ⟨rfl, -, rfl⟩ := hv
            obtain ⟨gc, oc, -, -, rfl, -, y0⟩ := hat j (by rw [List.length_map]; exact hjl)
            rw [List.getElem_map] at y0
            obtain ⟨y, hy⟩ : ∃ z, L2[j] = z := ⟨_, rfl⟩
            rw [hy] at y0
            have HY : Hid (L2[j] = y) := hy
            have hs2 : W2.heap.size ≤ wr.heap.size := HC.out.2.2.1.size
            obtain ⟨W3, hW3⟩ : ∃ z, (wr.alloc (.cells #[.int .i64 (x : Int)] 3)).alloc (.cells #[.int .i64 (y : Int)] 3) = z := ⟨_, rfl⟩
            have hs3 : W3.heap.size = wr.heap.size + 1 + 1 := by rw [← hW3]; simp
            have AW : Below wr.heap.size wr W3 := by rw [← hW3]; exact ((Below.refl _ wr).alloc (Nat.le_refl _) _).alloc (by simp) _
            have I1 : Ru.Ints W3 (.slice (some ⟨wr.heap.size, 0, none⟩) 1 1) [(x : Int)] := by rw [← hW3]; exact (Ru.ints_one wr x).al _
            have I2 : Ru.Ints W3 (.slice (some ⟨wr.heap.size + 1, 0, none⟩) 1 1) [(y : Int)] := by
              rw [← hW3]
              have := Ru.ints_one (wr.alloc (.cells #[.int .i64 (x : Int)] 3)) y
              rw [show (wr.alloc (.cells #[.int .i64 (x : Int)] 3)).heap.size = wr.heap.size + 1 by simp] at this
              exact this
            have own3 : W3.ownsRow W2.heap.size 54 4 (.slice av2 r2 cv2) r2 (Ru.cells qs2) := Ru.own_below hown2 AW
            have hnw := Ru.four_cells W3 (.int .i64 kd) (.int .i64 i) (.slice (some ⟨wr.heap.size, 0, none⟩) 1 1) (.slice (some ⟨wr.heap.size + 1, 0, none⟩) 1 1) 54
            have hon := Ru.four_one kd i (some ⟨wr.heap.size, 0, none⟩) 1 1 (some ⟨wr.heap.size + 1, 0, none⟩) 1 1
            have HW3 : Hid ((wr.alloc (.cells #[.int .i64 (x : Int)] 3)).alloc (.cells #[.int .i64 (y : Int)] 3) = W3) := hW3
            have HI3 : Hid (Ru.Ints W3 (.slice (some ⟨wr.heap.size, 0, none⟩) 1 1) [(x : Int)] ∧ Ru.Ints W3 (.slice (some ⟨wr.heap.size + 1, 0, none⟩) 1 1) [(y : Int)] ∧ Below wr.heap.size wr W3 ∧ W3.heap.size = wr.heap.size + 1 + 1) := ⟨I1, I2, AW, hs3⟩
            have HO3 : Hid (W3.ownsRow W2.heap.size 54 4 (.slice av2 r2 cv2) r2 (Ru.cells qs2)) := own3
            rw [hs3] at hnw
            rcases hkd2 with ⟨H1, rfl⟩ | ⟨H1, rfl⟩
            · have hdk : decide ((1 : Int) < n2') = true := decide_eq_true (by omega)
              clear hat hy hW3 I1 I2 AW own3 hown2 hs3
              go_wp2_with (at_builtin; rw [HW3.out]; refine wpList_append_own _ rfl _ _ 48 rfl W2.heap.size 54 i0 (.agg #[.int .i64 0, .int .i64 0, .slice none 0 0, .slice none 0 0]) 4 64 Tryd.underlying48 hi0 hz0 hz1 hz2 rfl (by decide) (.slice av2 r2 cv2) r2 (Ru.cells qs2) rfl (HO3.out.alloc _) ⟨wr.heap.size + 1 + 1, 0, none⟩ 1 1 _ rfl rfl hnw hon ?c3 ?c4 ?c5 ?_)
              case c3 => unfold maxLen; omega
              case c4 => omega
              case c5 => (have := HI3.out.2.2.2; simp; omega)
              intro v' W5 own5 g5 _
              obtain ⟨a5, c5, rfl⟩ := Rk.own_shape own5
              have HN : Hid (∀ (kz : Int) (q : Ru × Value × Value), q ∈ qs2 ++ [(Ru.of kz i [x] [y], .slice (some ⟨wr.heap.size, 0, none⟩) 1 1, .slice (some ⟨wr.heap.size + 1, 0, none⟩) 1 1)] → Ru.Ints W5 q.2.1 q.1.ne ∧ Ru.Ints W5 q.2.2 q.1.gi) := fun kz q hq => by
                rcases List.mem_append.1 hq with hq | hq
                · have := HC.out.2.2.2 q hq
                  exact ⟨((this.1.below HI3.out.2.2.1).al _).grown (by decide) (HO3.out.alloc _) g5, ((this.2.below HI3.out.2.2.1).al _).grown (by decide) (HO3.out.alloc _) g5⟩
                · rw [List.mem_singleton.1 hq]
                  exact ⟨(HI3.out.1.al _).grown (by decide) (HO3.out.alloc _) g5, (HI3.out.2.1.al _).grown (by decide) (HO3.out.alloc _) g5⟩
              have HBB : Hid (Below W2.heap.size W2 W5) := Rk.below_grown ((HC.out.2.2.1.trans (HI3.out.2.2.1.mono hs2)).alloc (Nat.le_trans hs2 HI3.out.2.2.1.size) _) (by have := HI3.out.2.2.2; simp; omega) (HO3.out.alloc _) g5
              clear g5
              go_wp2
              go_roundg (gk - 1)
              case measure => omega
              case rel =>
                refine ⟨j + 1, r2 + 1, qs2 ++ [(Ru.of 2 i [x] [y], .slice (some ⟨wr.heap.size, 0, none⟩) 1 1, .slice (some ⟨wr.heap.size + 1, 0, none⟩) 1 1)], by omega, by go_num, by omega, ⟨?_, by rw [List.length_append, HC.out.2.1]; rfl, HBB.out, HN.out _⟩, ?_⟩
                · rw [List.map_append, HC.out.1, Tm.take_snoc _ _ hjl, HY.out, List.map_append, List.append_assoc]
                  rfl
                · rw [Ru.cells_append]
                  exact own5
            · have hdk : decide ((1 : Int) < n2') = false := decide_eq_false (by omega)
              clear hat hy hW3 I1 I2 AW own3 hown2 hs3
              go_wp2_with (at_builtin; rw [HW3.out]; refine wpList_append_own _ rfl _ _ 48 rfl W2.heap.size 54 i0 (.agg #[.int .i64 0, .int .i64 0, .slice none 0 0, .slice none 0 0]) 4 64 Tryd.underlying48 hi0 hz0 hz1 hz2 rfl (by decide) (.slice av2 r2 cv2) r2 (Ru.cells qs2) rfl (HO3.out.alloc _) ⟨wr.heap.size + 1 + 1, 0, none⟩ 1 1 _ rfl rfl hnw hon ?c3 ?c4 ?c5 ?_)
              case c3 => unfold maxLen; omega
              case c4 => omega
              case c5 => (have := HI3.out.2.2.2; simp; omega)
              intro v' W5 own5 g5 _
              obtain ⟨a5, c5, rfl⟩ := Rk.own_shape own5
              have HN : Hid (∀ (kz : Int) (q : Ru × Value × Value), q ∈ qs2 ++ [(Ru.of kz i [x] [y], .slice (some ⟨wr.heap.size, 0, none⟩) 1 1, .slice (some ⟨wr.heap.size + 1, 0, none⟩) 1 1)] → Ru.Ints W5 q.2.1 q.1.ne ∧ Ru.Ints W5 q.2.2 q.1.gi) := fun kz q hq => by
                rcases List.mem_append.1 hq with hq | hq
                · have := HC.out.2.2.2 q hq
                  exact ⟨((this.1.below HI3.out.2.2.1).al _).grown (by decide) (HO3.out.alloc _) g5, ((this.2.below HI3.out.2.2.1).al _).grown (by decide) (HO3.out.alloc _) g5⟩
                · rw [List.mem_singleton.1 hq]
                  exact ⟨(HI3.out.1.al _).grown (by decide) (HO3.out.alloc _) g5, (HI3.out.2.1.al _).grown (by decide) (HO3.out.alloc _) g5⟩
              have HBB : Hid (Below W2.heap.size W2 W5) := Rk.below_grown ((HC.out.2.2.1.trans (HI3.out.2.2.1.mono hs2)).alloc (Nat.le_trans hs2 HI3.out.2.2.1.size) _) (by have := HI3.out.2.2.2; simp; omega) (HO3.out.alloc _) g5
              clear g5
              go_wp2
              go_roundg (gk - 1)
              case measure => omega
              case rel =>
                refine ⟨j + 1, r2 + 1, qs2 ++ [(Ru.of 1 i [x] [y], .slice (some ⟨wr.heap.size, 0, none⟩) 1 1, .slice (some ⟨wr.heap.size + 1, 0, none⟩) 1 1)], by omega, by go_num, by omega, ⟨?_, by rw [List.length_append, HC.out.2.1]; rfl, HBB.out, HN.out _⟩, ?_⟩
                · rw [List.map_append, HC.out.1, Tm.take_snoc _ _ hjl, HY.out, List.map_append, List.append_assoc]
                  rfl
                · rw [Ru.cells_append]
                  exact own5
          · have hd2 : decide ((j : Int) < n2') = false := decide_eq_false (by omega)
            have HN : Hid (qs2.map (·.1) = (L1.take (k + 1)).flatMap (fun a => L2.map fun b => Ru.of kd i [a] [b])) := by
              show _ = _
              rw [HC.out.1, Tm.take_snoc _ _ hkl, HX.out, List.flatMap_append, List.take_of_length_le (l := L2) (by rw [HH.out.2.2.2.2.2.1]; omega)]
              simp
            go_wp2
            go_roundg (g3 - 1)
            case measure => omega
            case rel => exact ⟨k + 1, r2, qs2, by omega, by go_num, by omega, ⟨HN.out, HC.out.2⟩, hown2⟩
      · have hd : decide ((k : Int) < n1) = false := decide_eq_false (by omega)
        have HO : Hid (wr.ownsRow W2.heap.size 54 4 (.slice av r cv) r (Ru.cells qs)) := hown
        clear hown
        go_wp2
        go_ret
        have hbw := HT.out W2 B2.out
        refine ⟨_, rfl, ⟨qs, ?_, by rw [HB.out.2.1]; exact Nt.own_lower HO.out hbw.size, HB.out.2.2.2⟩, hbw.trans (HB.out.2.2.1.mono hbw.size)⟩
        rw [HB.out.1, HRV.out, List.take_of_length_le (by rw [HH.out.2.2.2.2.1]; omega)]
  have k5 : (k == 5) = false := by simpa using h5
  by_cases h7 : k = 7
  · have hRv : R = L2.map fun f => Ru.of 3 i L1 (Nt.outsL fs (Ru.toAt fs f)) := by rw [← HR.out.1, Ru.nodeP, HKI.out, if_neg h1, if_neg h5, if_pos h7, HR.out.2.1, HR.out.2.2]
    subst h7
    have HRV : Hid (R = L2.map fun f => Ru.of 3 i L1 (Nt.outsL fs (Ru.toAt fs f))) := hRv
    have BR : Hid (Below W2.heap.size W2 W2) := Below.refl _ _
    clear hRv h1 k1 h5 k5
    go_wp2
    clear q1 p0 p1
    go_loopg [7, 63] n2' (fun gk s7 s63 wr => ∃ (k : Nat) (qs : List (Ru × Value × Value)), gk + k = n2' ∧ s63 = .int .i64 k ∧ Hid (qs.map (·.1) = (L2.take k).map (fun f => Ru.of 3 i L1 (Nt.outsL fs (Ru.toAt fs f))) ∧ qs.length = k ∧ Below W2.heap.size W2 wr ∧ ∀ q, q ∈ qs → Ru.Ints wr q.2.1 q.1.ne ∧ Ru.Ints wr q.2.2 q.1.gi) ∧ wr.ownsRow W2.heap.size 54 4 s7 k (Ru.cells qs))
    case atStart => exact ⟨0, [], by omega, rfl, ⟨rfl, rfl, BR.out, fun q hq => by simp at hq⟩, World.ownsRow_nil _ _ _ _⟩
    case round =>
      obtain ⟨k, qs, hk, rfl, HB, hown⟩ := hrel
      obtain ⟨av, cv, rfl⟩ := Rk.own_shape hown
      by_cases hlt : k < n2'
      · have hd : decide ((k : Int) < n2') = true := decide_eq_true (by omega)
        have hkl : k < L2.length := by rw [HH.out.2.2.2.2.2.1]; exact hlt
        obtain ⟨a', c', hv, hat⟩ := HI.out.2.below HB.out.2.2.1
        simp only [Value.slice.injEq] at hv
        obtain ⟨rfl, -, rfl⟩ := hv
        obtain ⟨gb, ob, -, -, rfl, -, y0⟩ := hat k (by rw [List.length_map]; exact hkl)
        rw [List.getElem_map] at y0
        obtain ⟨f, hf⟩ : ∃ z, L2[k] = z := ⟨_, rfl⟩
        rw [hf] at y0
        have hfm : f < fs.length := HH.out.2.2.2.2.2.2 f (by rw [← hf]; exact List.getElem_mem hkl)
        obtain ⟨gf, of', uf, rfl, hgf, z0, z1, -⟩ := HH.out.1.fls f hfm
        obtain ⟨t, ht⟩ : ∃ t, fs[f].to = t := ⟨_, rfl⟩
        rw [ht] at z1
        have hta : Ru.toAt fs f = t := by rw [Ru.toAt, List.getElem?_eq_getElem hfm]; exact ht
        have BW0 : Below w0.heap.size w0 wr := B2.out.trans (HB.out.2.2.1.mono B2.out.size)
        have CS : Hid (∀ W, Below W2.heap.size W2 W → W.cell? ⟨w.heap.size, 0, none⟩ = some (.slice (some ⟨g, off, none⟩) n cn) ∧ W.cell? ⟨w.heap.size, 1, none⟩ = some (.slice (some ⟨gf, of', none⟩) m cf) ∧ W.cell? ⟨gf, of' + f * 6 + 1, none⟩ = some (.int .i64 t)) := fun W hb => by
          have hbw : Below w0.heap.size w0 W := B2.out.trans (hb.mono B2.out.size)
          exact ⟨(CF.out W hbw).1, (CF.out W hbw).2, by rw [(HT.out W hbw).cell (p := ⟨gf, of' + f * 6 + 1, none⟩) hgf]; exact z1⟩
        have CO2 : Hid (∀ W, Below wr.heap.size wr W → Calls Tryd.prog 26 #[.agg #[.slice (some ⟨g, off, none⟩) n cn, .slice (some ⟨gf, of', none⟩) m cf], .int .i64 t] W fun e w' => ∃ a n c, e = .returned (.slice a n c) ∧ Hid (Below wr.heap.size wr w' ∧ Ru.Ints w' (.slice a n c) ((Nt.outsL fs t).map fun n : Nat => (n : Int)))) := fun W hb => by
          have hbw : Below w0.heap.size w0 W := BW0.trans (hb.mono BW0.size)
          exact (CO.out W t hbw).mono fun e w' ⟨a, n, c, he, X⟩ => ⟨a, n, c, he, hb.trans (X.out.1.mono hb.size), X.out.2⟩
        have HX : Hid (L2[k] = f ∧ Ru.toAt fs f = t) := ⟨hf, hta⟩
        have HO : Hid (wr.ownsRow W2.heap.size 54 4 (.slice av k cv) k (Ru.cells qs)) := hown
        have hs2 : W2.heap.size ≤ wr.heap.size := HB.out.2.2.1.size
        have BRr : Hid (Below wr.heap.size wr wr) := Below.refl _ _
        have HBW : Hid (∀ W, Below wr.heap.size wr W → Below W2.heap.size W2 W) := fun W hb => HB.out.2.2.1.trans (hb.mono hs2)
        have hf0 : (0 : Int) ≤ f := by omega
        have hfm' : (f : Int) < m := by have := HH.out.2.2.1; omega
        have C3 : Hid (k + 1 ≤ maxLen ∧ (k + 1) * 64 ≤ 140737488355328) := ⟨by unfold maxLen; omega, by omega⟩
        clear hat hown hf hta z0 z1 hgf ht BW0 hfm
        go_upto_region 25 with fail
        go_region_held3 (fun W => W.cell? ⟨w.heap.size, 0, none⟩ = some (.slice (some ⟨g, off, none⟩) n cn) ∧ W.cell? ⟨w.heap.size, 1, none⟩ = some (.slice (some ⟨gf, of', none⟩) m cf) ∧ W.cell? ⟨gf, of' + f * 6 + 1, none⟩ = some (.int .i64 t))
          (first | exact CS.out _ B5.out | exact CS.out _ (HBW.out _ (X4.out.1.alloc X4.out.1.size _)) | exact CS.out _ (HBW.out _ X4.out.1) | exact CS.out _ (HBW.out _ BRr.out.drew) | exact CS.out _ (HBW.out _ BRr.out))
          (first
            | (go_simp; go_at_call 26; refine Calls.mono (CO2.out _ ?_) ?_; (first | exact BRr.out.drew | exact BRr.out); rintro e W4 ⟨a4, n4, c4, rfl, X4⟩)
            | ((with_reducible refine Tk.at_op (Op.call { callee := Callee.builtin Builtin.append, args := #[.tmp 67, .tmp 79], argTypes := #[48, 48] }) ?hop ?_); (case hop => with_reducible rfl); refine Tk.step_own rfl (.tmp 67) (.tmp 79) 48 rfl W2.heap.size 54 i0 (.agg #[.int .i64 0, .int .i64 0, .slice none 0 0, .slice none 0 0]) 4 64 Tryd.underlying48 hi0 hz0 hz1 hz2 rfl (by decide) (.slice av k cv) k (Ru.cells qs) (by simp [Act.eval]) (by exact (Ru.own_below HO.out X4.out.1).alloc _) ⟨W4.heap.size, 0, none⟩ 1 1 [.int .i64 3, .int .i64 i, .slice a1 n1 c1, .slice a4 n4 c4] (by simp [Act.eval]) rfl (by exact Ru.four_cells W4 (.int .i64 3) (.int .i64 i) (.slice a1 n1 c1) (.slice a4 n4 c4) 54) (Ru.four_one 3 i a1 n1 c1 a4 n4 c4) (by exact C3.out.1) (by exact C3.out.2) (by have := X4.out.1.size; simp; omega) ?_; intro v5 W5 own5 g5; have B5 : Hid (Below W2.heap.size W2 W5) := Rk.below_grown ((HBW.out _ X4.out.1).alloc (Nat.le_trans hs2 X4.out.1.size) _) (by have := X4.out.1.size; simp; omega) ((Ru.own_below HO.out X4.out.1).alloc _) g5))
        all_goals
          obtain ⟨a5, c5, rfl⟩ := Rk.own_shape own5
          have own4 := (Ru.own_below HO.out X4.out.1).alloc (.cells #[.int .i64 3, .int .i64 i, .slice a1 n1 c1, .slice a4 n4 c4] 54)
          have HN : Hid (∀ q, q ∈ qs ++ [(Ru.of 3 i L1 (Nt.outsL fs (Ru.toAt fs f)), .slice a1 n1 c1, .slice a4 n4 c4)] → Ru.Ints W5 q.2.1 q.1.ne ∧ Ru.Ints W5 q.2.2 q.1.gi) := fun q hq => by
            rcases List.mem_append.1 hq with hq | hq
            · have := HB.out.2.2.2 q hq
              exact ⟨((this.1.below X4.out.1).al _).grown (by decide) own4 g5, ((this.2.below X4.out.1).al _).grown (by decide) own4 g5⟩
            · rw [List.mem_singleton.1 hq, HX.out.2]
              exact ⟨(((HI.out.1.below HB.out.2.2.1).below X4.out.1).al _).grown (by decide) own4 g5, (X4.out.2.al _).grown (by decide) own4 g5⟩
          have HBB : Hid (Below W2.heap.size W2 W5) := Rk.below_grown ((HB.out.2.2.1.trans (X4.out.1.mono hs2)).alloc (Nat.le_trans hs2 X4.out.1.size) _) (by have := X4.out.1.size; simp; omega) own4 g5
          clear g5 own4
          go_wp2
          go_roundg (gk - 1)
          case measure => omega
          case rel =>
            refine ⟨k + 1, _, by omega, by go_num, ⟨?_, by rw [List.length_append, HB.out.2.1]; rfl, HBB.out, HN.out⟩, ?_⟩
            · rw [List.map_append, HB.out.1, Tm.take_snoc _ _ hkl, HX.out.1, List.map_append]
              rfl
            · rw [Ru.cells_append]
              exact own5
      · have hd : decide ((k : Int) < n2') = false := decide_eq_false (by omega)
        have HO : Hid (wr.ownsRow W2.heap.size 54 4 (.slice av k cv) k (Ru.cells qs)) := hown
        clear hown
        go_wp2
        go_ret
        have hbw := HT.out W2 B2.out
        refine ⟨_, rfl, ⟨qs, ?_, by rw [HB.out.2.1]; exact Nt.own_lower HO.out hbw.size, HB.out.2.2.2⟩, hbw.trans (HB.out.2.2.1.mono hbw.size)⟩
        rw [HB.out.1, HRV.out, List.take_of_length_le (by rw [HH.out.2.2.2.2.2.1]; omega)]
  have k7 : (k == 7) = false := by simpa using h7
  have HN : Hid (∀ kd : Int, R = [Ru.of kd i L1 L2] → Ru.Row 54 w.heap.size (W2.alloc (.cells #[.int .i64 kd, .int .i64 i, .slice a1 n1 c1, .slice a2 n2' c2] 54)) (.slice (some ⟨W2.heap.size, 0, none⟩) 1 1) R ∧ Below w.heap.size w (W2.alloc (.cells #[.int .i64 kd, .int .i64 i, .slice a1 n1 c1, .slice a2 n2' c2] 54))) := fun kd hR => by
    have hbw := HT.out W2 B2.out
    refine ⟨⟨[(Ru.of kd i L1 L2, .slice a1 n1 c1, .slice a2 n2' c2)], hR.symm, ?_, fun q hq => ?_⟩, hbw.alloc hbw.size _⟩
    · exact World.ownsRow_lit W2 _ 1 hbw.size (by unfold maxLen; omega) rfl
    · rw [List.mem_singleton.1 hq]
      exact ⟨HI.out.1.al _, HI.out.2.al _⟩
  by_cases h8 : k = 8
  · have hRv : R = [Ru.of 3 i L1 L2] := by rw [← HR.out.1, Ru.nodeP, HKI.out, if_neg h1, if_neg h5, if_neg h7, if_pos h8, HR.out.2.1, HR.out.2.2]
    subst h8
    have X := HN.out 3 hRv
    have HX : Hid _ := X
    clear X h1 h5 h7 k1 k5 k7 HN
    go_wp2
    go_ret
    exact ⟨_, rfl, HX.out.1, HX.out.2⟩
  · have hRv : R = [Ru.of 1 i L1 L2] := by rw [← HR.out.1, Ru.nodeP, HKI.out, if_neg h1, if_neg h5, if_neg h7, if_neg h8, HR.out.2.1, HR.out.2.2]
    have k8 : (k == 8) = false := by simpa using h8
    have X := HN.out 1 hRv
    have HX : Hid _ := X
    clear X h1 h5 h7 h8 HN
    go_wp2
    go_ret
    exact ⟨_, rfl, HX.out.1, HX.out.2⟩

end Go.Proofs

namespace Go.Proofs
open Go.RowKit Go.Shelf

theorem Ru.gi_len {ns : List Nd} {fs : List Fl} (r : Ru) (h : r ∈ Ru.allP ns fs) : r.gi.length ≤ fs.length + 1 := by
  obtain ⟨i, -, hr⟩ := List.mem_flatMap.1 h
  have h1 := Ru.outs_len fs i
  unfold Ru.rulesP at hr
  split at hr
  · rw [List.mem_singleton.1 hr]; simp [Ru.of]; omega
  · split at hr
    · rw [List.mem_singleton.1 hr]; simp [Ru.of]; omega
    · split at hr
      · obtain ⟨f, -, rfl⟩ := List.mem_map.1 hr
        have := Ru.outs_len fs (Ru.toAt fs f)
        simp [Ru.of]
        omega
      · split at hr
        · split at hr
          · obtain ⟨f, -, rfl⟩ := List.mem_map.1 hr; simp [Ru.of]
          · obtain ⟨f, -, rfl⟩ := List.mem_map.1 hr; simp [Ru.of]; omega
        · simp at hr
/-- All rules, as the document has them. -/
def Ru.allD (ns : List Nd) (fs : List Fl) : List Ru := (List.range ns.length).flatMap (Ru.nodeP ns fs)
theorem Ru.node_rules {ns : List Nd} {fs : List Fl} (h1 : Nt.wrong1 ns fs = []) (h3 : Nt.wrong3 ns fs = []) {i : Nat} (hi : i < ns.length) : Ru.nodeP ns fs i = Ru.rulesP ns fs i := by
  have hk := Ru.kind_at h1 hi
  have hj := Ru.join_at h3 hi
  unfold Ru.nodeP Ru.rulesP
  rw [← Nt.insL_len, ← Nt.outsL_len] at hj
  obtain ⟨k, hkk⟩ : ∃ k, Nt.kindAt ns i = k := ⟨_, rfl⟩
  rw [hkk] at hk hj ⊢
  by_cases e1 : k = 1
  · rw [if_pos e1, if_neg (by omega), if_neg (by omega), if_neg (by omega), if_neg (by omega)]
  rw [if_neg e1]
  by_cases e5 : k = 5
  · subst e5
    have := Ru.join5 hj
    rw [if_pos rfl, if_neg (show ¬ ((5 : Int) = 3 ∨ (5 : Int) = 4 ∨ (5 : Int) = 6 ∨ (5 : Int) = 2) by omega), if_neg (show ¬ (5 : Int) = 8 by omega), if_neg (show ¬ (5 : Int) = 7 by omega), if_pos rfl]
    unfold Ru.pairK
    rcases this with h | h
    · rw [if_pos (by omega), if_pos (by omega)]
      match hL : Nt.insL fs i, h.1 with
      | [a], _ => simp
    · rw [if_neg (by omega), if_neg (by omega)]
      match hL : Nt.outsL fs i, h.2 with
      | [b], _ =>
        simp only [List.map_cons, List.map_nil]
        induction Nt.insL fs i with
        | nil => rfl
        | cons a l ih => simp only [List.flatMap_cons, List.map_cons, ih]; rfl
  rw [if_neg e5]
  by_cases e7 : k = 7
  · subst e7
    rw [if_pos rfl, if_neg (by omega), if_neg (by omega), if_pos rfl]
  rw [if_neg e7]
  by_cases e8 : k = 8
  · rw [if_pos e8, if_neg (by omega), if_pos e8]
  rw [if_neg e8, if_pos (by omega)]
theorem Ru.allD_eq {ns : List Nd} {fs : List Fl} (h : (Nt.checkN ns fs).1 = 0) : Ru.allD ns fs = Ru.allP ns fs := by
  obtain ⟨h1, -, h3, -⟩ := Ru.right_keeps h
  unfold Ru.allD Ru.allP
  have : ∀ l : List Nat, (∀ i, i ∈ l → i < ns.length) → l.flatMap (Ru.nodeP ns fs) = l.flatMap (Ru.rulesP ns fs) := fun l => by
    induction l with
    | nil => intro _; rfl
    | cons a l ih =>
      intro h
      rw [List.flatMap_cons, List.flatMap_cons, Ru.node_rules h1 h3 (h a (by simp)), ih fun i hi => h i (by simp [hi])]
  exact this _ fun i hi => List.mem_range.1 hi
theorem Ru.nodeP_len (ns : List Nd) (fs : List Fl) (i : Nat) (h : fs.length ≤ 100) : (Ru.nodeP ns fs i).length ≤ 10000 := by
  have h1 := Ru.ins_len fs i
  have h2 := Ru.outs_len fs i
  unfold Ru.nodeP
  split
  · simp
  · split
    · have : ∀ l : List Nat, (l.flatMap fun a => (Nt.outsL fs i).map fun b => Ru.of (Ru.pairK (Nt.outsL fs i)) i [a] [b]).length = l.length * (Nt.outsL fs i).length := fun l => by
        induction l with
        | nil => simp
        | cons a l ih => rw [List.flatMap_cons, List.length_append, ih, List.length_map, List.length_cons, Nat.succ_mul, Nat.add_comm]
      rw [this]
      exact Nat.mul_le_mul (Nat.le_trans h1 h) (Nat.le_trans h2 h)
    · split
      · rw [List.length_map]; omega
      · split <;> simp

set_option maxRecDepth 20000 in
set_option maxHeartbeats 8000000 in
theorem Tryd.dAll_any (an : Option Addr) (cn : Nat) (af : Option Addr) (cf d : Nat) (ns : List Nd) (fs : List Fl) (w : World) (hH : Nt.Has w w.heap.size d an af ns fs) :
    Calls Tryd.prog 18 #[.agg #[.slice an ns.length cn, .slice af fs.length cf]] w fun e w' => Ru.AllGives 54 (Nt.checkN ns fs).1 (Ru.allD ns fs) w e w' := by
  obtain ⟨i0, hi0, hz0, hz1, hz2⟩ := info_parts Tryd.infoRule14
  obtain ⟨w1, hw1⟩ : ∃ x, w.alloc (.cells #[.slice an ns.length cn, .slice af fs.length cf] 25) = x := ⟨_, rfl⟩
  have A1 : Below w.heap.size w w1 := by rw [← hw1]; exact (Below.refl _ w).alloc (Nat.le_refl _) _
  have C0 : w1.heap[w.heap.size]? = some (.cells #[.slice an ns.length cn, .slice af fs.length cf] 25 (0, 0)) := by rw [← hw1]; exact heap_alloc_new w _
  obtain ⟨n, hnn⟩ : ∃ n, ns.length = n := ⟨_, rfl⟩
  obtain ⟨m, hmm⟩ : ∃ n, fs.length = n := ⟨_, rfl⟩
  obtain ⟨c0, hc0⟩ : ∃ c, (Nt.checkN ns fs).1 = c := ⟨_, rfl⟩
  obtain ⟨c1, hc1⟩ : ∃ c, (Nt.checkN ns fs).2 = c := ⟨_, rfl⟩
  have HT : Hid (∀ W, Below w1.heap.size w1 W → Below w.heap.size w W) := fun W hb => A1.trans (hb.mono A1.size)
  have CF : Hid (∀ W, Below w1.heap.size w1 W → W.cell? ⟨w.heap.size, 0, none⟩ = some (.slice an n cn) ∧ W.cell? ⟨w.heap.size, 1, none⟩ = some (.slice af m cf)) := fun W hb => by
    have := Nt.box2 ((hb.block _ (Nt.lt_of C0)).trans C0)
    rw [hnn, hmm] at this
    exact this
  have CC : Hid (Calls Tryd.prog 13 #[.agg #[.slice an n cn, .slice af m cf]] w1 fun e w' => e = .returned (.agg #[.int .i64 (c0 : Int), .int .i64 (c1 : Int)]) ∧ Below w1.heap.size w1 w') := by
    have h := Tryd.rCheck_any an cn af cf d ns fs w1 ((hH.below A1).wider A1.size)
    rw [hc0, hc1, hnn, hmm] at h
    exact h
  have CR : Hid (∀ (k : Nat) (W : World), k < n → Below w1.heap.size w1 W → Calls Tryd.prog 46 #[.agg #[.slice an n cn, .slice af m cf], .int .i64 k] W fun e w' => ∃ v, e = .returned v ∧ Hid (Ru.Row 54 W.heap.size w' v (Ru.nodeP ns fs k) ∧ Below W.heap.size W w')) := fun k W hk hb => by
    have hbw := HT.out W hb
    have h := Tryd.rnode_any k an cn af cf d ns fs W ((hH.below hbw).wider hbw.size) (by omega)
    rw [hnn, hmm] at h
    exact h
  have HL : Hid (∀ k, (Ru.nodeP ns fs k).length ≤ 10000) := fun k => Ru.nodeP_len ns fs k hH.flen
  have hn100 : n ≤ 100 := by have := hH.nlen; omega
  have HN : Hid (ns.length = n) := hnn
  have HA : Hid (Below w.heap.size w w1) := A1
  rw [hnn, hmm] at hw1
  have H1 : Hid (w.alloc (.cells #[.slice an n cn, .slice af m cf] 25) = w1) := hw1
  have hfd : ∀ W : World, (Instr.field 40 (.agg #[.int .i64 (c0 : Int), .int .i64 (c1 : Int)]) 0).run Tryd.prog W = .ok (.int .i64 (c0 : Int)) W := fun _ => by kernel_rfl
  have hfd0 : ∀ W : World, (Instr.field 40 (.agg #[.int .i64 0, .int .i64 (c1 : Int)]) 0).run Tryd.prog W = .ok (.int .i64 0) W := fun _ => by kernel_rfl
  obtain ⟨p0, p1⟩ := CF.out w1 (Below.refl _ _)
  rw [hnn, hmm, hc0]
  obtain ⟨G, hG⟩ : ∃ G, Ru.AllGives 54 c0 (Ru.allD ns fs) w = G := ⟨_, rfl⟩
  have HG : Hid (Ru.AllGives 54 c0 (Ru.allD ns fs) w = G) := hG
  rw [hG]
  clear hH hw1 A1 C0 hnn hmm hc0 hc1 hG
  cases hz : decide (c0 = 0) with
  | false =>
    have hz' : c0 ≠ 0 := of_decide_eq_false hz
    have e0 : ((c0 : Int) != 0) = true := by simp; omega
    clear hz
    go_enter Tryd.func18, Tryd.ntmps18
    go_upto_region 1 with fail
    rw [H1.out]
    go_wp2_with fail
    refine Calls.mono CC.out ?_
    rintro e W1 ⟨rfl, hb1⟩
    have B1 : Hid (Below w.heap.size w W1) := HT.out W1 hb1
    clear hb1
    go_wp2
    rw [← HG.out]
    exact ⟨B1.out, .inl ⟨hz', rfl⟩⟩
  | true =>
    obtain rfl : c0 = 0 := of_decide_eq_true hz
    clear hz
    go_enter Tryd.func18, Tryd.ntmps18
    go_upto_region 1 with fail
    rw [H1.out]
    go_wp2_with fail
    refine Calls.mono CC.out ?_
    rintro e W1 ⟨rfl, hb1⟩
    have B1 : Hid (Below w1.heap.size w1 W1) := hb1
    obtain ⟨x0, x1⟩ := CF.out W1 hb1
    clear hb1 CC
    go_wp2
    clear p0 p1 x0 x1
    go_loopg [4, 13] n (fun gk s6 s18 wr => ∃ (k r : Nat) (qs : List (Ru × Value × Value)), gk + k = n ∧ s18 = .int .i64 k ∧ Hid (r ≤ k * 10000 ∧ qs.map (·.1) = (List.range k).flatMap (Ru.nodeP ns fs) ∧ qs.length = r ∧ Below w1.heap.size w1 wr ∧ ∀ q, q ∈ qs → Ru.Ints wr q.2.1 q.1.ne ∧ Ru.Ints wr q.2.2 q.1.gi) ∧ wr.ownsRow w1.heap.size 54 4 s6 r (Ru.cells qs))
    case atStart => exact ⟨0, 0, [], by omega, rfl, ⟨Nat.le_refl _, rfl, rfl, B1.out, fun q hq => by simp at hq⟩, World.ownsRow_nil _ _ _ _⟩
    case round =>
      obtain ⟨k, r, qs, hk, rfl, HB, hown⟩ := hrel
      obtain ⟨av, cv, rfl⟩ := Rk.own_shape hown
      by_cases hlt : k < n
      · have hd : decide ((k : Int) < n) = true := decide_eq_true (by omega)
        obtain ⟨x0, x1⟩ := CF.out wr HB.out.2.2.2.1
        have HO : Hid (wr.ownsRow w1.heap.size 54 4 (.slice av r cv) r (Ru.cells qs)) := hown
        clear hown
        go_wp2_with fail
        refine Calls.mono (CR.out k wr hlt HB.out.2.2.2.1) ?_
        rintro e W3 ⟨v, rfl, X3⟩
        obtain ⟨ps, hps, how, hin⟩ := X3.out.1
        obtain ⟨a3, c3, rfl⟩ := Rk.own_shape how
        obtain ⟨m3, hm3⟩ : ∃ n, ps.length = n := ⟨_, rfl⟩
        have HM : Hid (m3 ≤ 10000) := by have := HL.out k; rw [← hps, List.length_map] at this; show _ ≤ _; omega
        have HBD : Hid (r + m3 ≤ maxLen ∧ (r + m3) * 64 ≤ 140737488355328 ∧ r + m3 ≤ (k + 1) * 10000) := by
          have h1 := HB.out.1
          have h2 := HM.out
          have h3 : k * 10000 ≤ 100 * 10000 := Nat.mul_le_mul (by omega) (Nat.le_refl _)
          refine ⟨by unfold maxLen; omega, by omega, by rw [Nat.succ_mul]; omega⟩
        rw [hm3] at how ⊢
        have hsz : w1.heap.size ≤ wr.heap.size := HB.out.2.2.2.1.size
        have hsz3 : w1.heap.size ≤ W3.heap.size := Nat.le_trans hsz X3.out.2.size
        have own3 := Ru.own_below HO.out X3.out.2
        have how3 : W3.ownsRow w1.heap.size 54 4 (.slice a3 m3 c3) m3 (Ru.cells ps) := Nt.own_lower how hsz
        have hone := Ru.cells_one hin
        have HP : Hid (ps.map (·.1) = Ru.nodeP ns fs k ∧ ps.length = m3 ∧ ∀ q, q ∈ ps → Ru.Ints W3 q.2.1 q.1.ne ∧ Ru.Ints W3 q.2.2 q.1.gi) := ⟨hps, hm3, hin⟩
        clear hps hm3 hin how
        go_wp2_with (at_builtin; refine Ru.wpList_append_rows rfl _ _ 48 rfl w1.heap.size 54 i0 (.agg #[.int .i64 0, .int .i64 0, .slice none 0 0, .slice none 0 0]) 64 Tryd.underlying48 hi0 hz0 hz1 hz2 rfl _ _ _ rfl own3 _ m3 (Ru.cells ps) rfl how3 hone HBD.out.1 HBD.out.2.1 hsz3 ?_)
        intro v' W4 own4 g4
        obtain ⟨a4, c4, rfl⟩ := Rk.own_shape own4
        have HN4 : Hid (∀ q, q ∈ qs ++ ps → Ru.Ints W4 q.2.1 q.1.ne ∧ Ru.Ints W4 q.2.2 q.1.gi) := fun q hq => by
          rcases List.mem_append.1 hq with hq | hq
          · have := HB.out.2.2.2.2 q hq
            exact ⟨(this.1.below X3.out.2).grown (by decide) own3 g4, (this.2.below X3.out.2).grown (by decide) own3 g4⟩
          · have := HP.out.2.2 q hq
            exact ⟨this.1.grown (by decide) own3 g4, this.2.grown (by decide) own3 g4⟩
        have HB4 : Hid (Below w1.heap.size w1 W4) := Rk.below_grown (HB.out.2.2.2.1.trans (X3.out.2.mono hsz)) hsz3 own3 g4
        clear own3 g4 how3 hone
        go_wp2
        go_roundg (gk - 1)
        case measure => omega
        case rel =>
          refine ⟨k + 1, r + m3, qs ++ ps, by omega, by go_num, ⟨HBD.out.2.2, ?_, by rw [List.length_append, HB.out.2.2.1, HP.out.2.1], HB4.out, HN4.out⟩, ?_⟩
          · rw [List.map_append, HB.out.2.1, HP.out.1, List.range_succ, List.flatMap_append]
            simp
          · rw [Ru.cells_append]; exact own4
      · have hd : decide ((k : Int) < n) = false := decide_eq_false (by omega)
        have HO : Hid (wr.ownsRow w1.heap.size 54 4 (.slice av r cv) r (Ru.cells qs)) := hown
        clear hown
        go_wp2
        obtain rfl : k = n := by omega
        rw [← HG.out]
        refine ⟨HT.out _ HB.out.2.2.2.1, .inr ⟨rfl, _, rfl, qs, ?_, by rw [HB.out.2.2.1]; exact Nt.own_lower HO.out HA.out.size, HB.out.2.2.2.2⟩⟩
        rw [HB.out.2.1, Ru.allD, HN.out]

end Go.Proofs
