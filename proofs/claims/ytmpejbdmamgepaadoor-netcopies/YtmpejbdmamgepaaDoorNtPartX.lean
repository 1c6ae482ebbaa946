/-
  nest.Part at terms, walked: all that is shared is copied.
-/
import Derived.Test.YtmpejbdmamgepaaDoorNtPartP
namespace Go.Proofs
open Go.RowKit Go.Shelf

theorem Pt.slice_nil (W : World) (n c : Nat) : (binOp BinOp.neq 33 (.slice none n c) (.slice none 0 0)).run Tryd.prog W = .ok (.bool false) W := by kernel_rfl
theorem Pt.slice_some (W : World) (a : Addr) (n c : Nat) : (binOp BinOp.neq 33 (.slice (some a) n c) (.slice none 0 0)).run Tryd.prog W = .ok (.bool true) W := by kernel_rfl
theorem Pt.live_shape {v : Value} (h : Pt.live v = true) : ∃ a n c, v = .slice (some a) n c := by
  unfold Pt.live at h
  split at h
  · exact ⟨_, _, _, rfl⟩
  · cases h
theorem Pt.len_wt : ∀ l : List Pl, l.length ≤ Pt.wt l
  | [] => by simp [Pt.wt]
  | x :: r => by rw [List.length_cons, Pt.wt]; have := x.T.size_pos; have := Pt.len_wt r; omega
theorem Pt.own_keep {W W' : World} {B : Nat} {e : TypeId} {a : Option Addr} {n c m : Nat} {xs : List Value} (h : W.ownsRow B e 1 (.slice a n c) m xs) (hk : ∀ g, a = some ⟨g, 0, none⟩ → W'.heap[g]? = W.heap[g]?) : W'.ownsRow B e 1 (.slice a n c) m xs := by
  rcases h with ⟨hl, ⟨hv, hn⟩ | ⟨g, cap, cur, hv, h1, h2, h3, h4, h5, h6⟩⟩
  · exact ⟨hl, .inl ⟨hv, hn⟩⟩
  · refine ⟨hl, .inr ⟨g, cap, cur, hv, h1, ?_, h3, h4, h5, h6⟩⟩
    rw [hk g (by simp only [Value.slice.injEq] at hv; exact hv.1)]
    exact h2

theorem Pt.sizes_take : ∀ (ts : List Tm) (j : Nat), Tm.sizes (ts.take j) ≤ Tm.sizes ts
  | [], j => by simp
  | t :: r, 0 => by simp [Tm.sizes]
  | t :: r, j + 1 => by simp only [List.take_succ_cons, Tm.sizes]; have := Pt.sizes_take r j; omega

set_option maxRecDepth 20000 in
set_option maxHeartbeats 16000000 in
theorem Tryd.part_any (B d : Nat) (w W : World) (L Q : List Pl) (v : Value) (h : Pt.Inv B d w L (Pt.pls Q) W) (hQ : ∀ x ∈ Q, x ∈ L) (hv : W.ownsRow B 66 1 v Q.length (Pt.ptrs Q)) (hw : Pt.wt Q ≤ 1000000) (ho : Pt.owe Q ≤ 1000000) (hB : B ≤ W.heap.size) (w0 : World) (L0 : List Pl) (hKp : Pt.Kept w0 L0 L W) :
    Calls Tryd.prog 49 #[v, .func (.func 50) #[] #[], .int .i64 53687091] W fun e w' => e = .returned (.tuple #[]) ∧ ∃ L', (∀ x ∈ L, x ∈ L') ∧ Pt.Inv B d w L' [] w' ∧ Pt.Kept w0 L0 L' w' := by
  obtain ⟨a0, c0, rfl⟩ := Rk.own_shape hv
  obtain ⟨i0, hi, hz0, hz1, hz2⟩ := info_parts Tryd.infoPtr
  have H0 : Hid (Pt.Inv B d w L (Pt.pls Q) W ∧ (∀ x ∈ Q, x ∈ L) ∧ W.ownsRow B 66 1 (.slice a0 Q.length c0) Q.length (Pt.ptrs Q) ∧ Pt.owe Q ≤ 1000000 ∧ Pt.Kept w0 L0 L W) := ⟨h, hQ, hv, ho, hKp⟩
  have hql : Q.length ≤ 1000000 := by
    have key : ∀ l : List Pl, l.length ≤ Pt.wt l := fun l => by
      induction l with
      | nil => simp [Pt.wt]
      | cons x r ih => rw [List.length_cons, Pt.wt]; have := x.T.size_pos; omega
    have := key Q
    omega
  obtain ⟨n0, hn0⟩ : ∃ n, Q.length = n := ⟨_, rfl⟩
  rw [hn0] at hql ⊢
  have HN0 : Hid (Q.length = n0) := hn0
  clear h hQ hv ho hn0 hKp
  go_enter Tryd.func49, Tryd.ntmps49
  go_wp2
  go_loopg [0, 2, 6, 7, 8, 9] (Pt.wt Q) (fun gk s0 s2 _ _ _ _ wr => ∃ (L' Q' : List Pl) (a : Option Addr) (n c m : Nat), s0 = .slice a n c ∧ s2 = .int .i64 ((53687091 : Int) - m) ∧ m ≤ 1000000 ∧ n ≤ 1000000 ∧ Hid (Q'.length = n ∧ Pt.wt Q' ≤ gk ∧ Pt.wt Q' ≤ 1000000 ∧ m + Pt.owe Q' ≤ 1000000 ∧ (∀ x ∈ L, x ∈ L') ∧ (∀ x ∈ Q', x ∈ L') ∧ Pt.Inv B d w L' (Pt.pls Q') wr ∧ wr.ownsRow B 66 1 (.slice a n c) n (Pt.ptrs Q') ∧ B ≤ wr.heap.size ∧ Pt.Kept w0 L0 L' wr))
  case atStart => exact ⟨L, Q, a0, n0, c0, 0, rfl, rfl, by omega, hql, HN0.out, Nat.le_refl _, hw, by have := H0.out.2.2.2.1; omega, fun _ h => h, H0.out.2.1, H0.out.1, by have := H0.out.2.2.1; rw [HN0.out] at this; exact this, hB, H0.out.2.2.2.2⟩
  case round =>
    obtain ⟨L', Q', a, n, c, m, rfl, rfl, hm, hn, HJ⟩ := hrel
    clear H0 HN0 hql
    by_cases hn0 : 0 < n
    · have HJ0 := HJ.out
      obtain ⟨Q0, x, hQx⟩ : ∃ Q0 x, Q' = Q0 ++ [x] := ⟨_, _, (List.dropLast_concat_getLast (by intro e; rw [e] at HJ0; simp at HJ0; omega)).symm⟩
      obtain ⟨k, hk⟩ : ∃ k, Q0.length = k := ⟨_, rfl⟩
      obtain ⟨b, o, T⟩ := x
      have hnk : n = k + 1 := by have := HJ0.1; rw [hQx, List.length_append, hk] at this; simpa using this.symm
      subst hnk
      obtain ⟨-, hwt, hwt2, howe, hsub, hmem, hinv, hown, hBw, hKw⟩ := HJ0
      rw [hQx, Pt.wt_app] at hwt hwt2
      rw [hQx, Pt.owe_app] at howe
      simp only [Pt.wt, Pt.owe] at hwt hwt2 howe
      have hpls : Pt.pls Q' = Pt.pls Q0 ++ [(b, o)] := by rw [hQx]; simp [Pt.pls]
      have hptr : Pt.ptrs Q' = Pt.ptrs Q0 ++ [.pointer (some ⟨b, o, none⟩)] := by rw [hQx]; simp [Pt.ptrs]
      rw [hpls] at hinv
      rw [hptr] at hown
      have hxL : (⟨b, o, T⟩ : Pl) ∈ L' := hmem _ (by rw [hQx]; simp)
      have hown0 := Pt.own_take hown (show k ≤ k + 1 by omega)
      have hlen0 : (Pt.ptrs Q0).length = k := by rw [Pt.ptrs, List.length_map]; exact hk
      rw [List.take_left' hlen0] at hown0
      rcases hown.2 with ⟨_, hz⟩ | ⟨gs, cps, curs, hvs, hgB, hgc, hg1, hg2, hg3, hgr⟩
      · omega
      simp only [Value.slice.injEq] at hvs
      obtain ⟨rfl, -, rfl⟩ := hvs
      have hpc := hown.cells (g := gs) rfl k (.pointer (some ⟨b, o, none⟩)) (by rw [List.getElem?_append_right (by omega), hlen0]; simp)
      have hadd : ((⟨gs, 0, none⟩ : Addr).add k) = ⟨gs, k, none⟩ := by cases k <;> simp [Addr.add]
      rw [hadd] at hpc
      obtain ⟨⟨csb, tyb, hcb, htb⟩, hBb, hc0, hc1, vx, hvx, hdx⟩ := hinv.at_ _ hxL
      have hLies : Tm.Lies wr B d vx T := by
        rcases hdx with ⟨_, h⟩ | ⟨h, _⟩
        · exact h
        · exact (h (by simp)).elim
      have hfz : wr.frozen? ⟨b, o + 2, none⟩ = false := by simp [World.frozen?, show wr.heap[b]? = _ from hcb]
      have hTs := T.size_eq
      obtain ⟨ak, ck, rfl⟩ := hLies.shape
      obtain ⟨nk, hnk⟩ : ∃ z, T.ks.length = z := ⟨_, rfl⟩
      rw [hnk] at hvx
      have hnkb : nk ≤ 1000000 := by have h1 := Tm.length_le_sizes T.ks; omega
      have hvx' : wr.cell? ⟨b, o + 2, none⟩ = some (.slice ak nk ck) := hvx
      have ek : ((k + 1 : Nat) : Int) - 1 = k := by omega
      have ek0 : (0 : Int) ≤ k := by omega
      have ek1 : (k : Int) < ((k + 1 : Nat) : Int) := by omega
      have ekc : (k : Int) ≤ c := by omega
      have hneg : decide ((53687091 : Int) - m - nk < 0) = false := decide_eq_false (by omega)
      have CK : Hid (∀ (W : World) (b' o' : Nat), Calls Tryd.prog 50 #[.pointer (some ⟨b', o', none⟩)] W fun e w' => e = .returned (.pointer (some ⟨b', o' + 2, none⟩)) ∧ w' = W) := fun W b' o' => Tryd.pkids_any b' o' W
      have HI : Hid (Pt.Inv B d w L' (Pt.pls Q0 ++ [(b, o)]) wr ∧ (⟨b, o, T⟩ : Pl) ∈ L' ∧ Tm.Lies wr B d (.slice ak nk ck) T ∧ T.ks.length = nk) := ⟨hinv, hxL, by rw [hnk] at hLies; exact hLies, hnk⟩
      have HO : Hid (wr.ownsRow B 66 1 (.slice (some ⟨gs, 0, none⟩) k c) k (Pt.ptrs Q0) ∧ Q0.length = k ∧ wr.heap[gs]? = some (.cells curs 66 (0, 0)) ∧ B ≤ gs) := ⟨hown0, hk, hgc, hgB⟩
      have HS : Hid (Pt.wt Q0 + T.size ≤ gk ∧ Pt.wt Q0 + T.size ≤ 1000000 ∧ m + (Pt.owe Q0 + (T.size - 1)) ≤ 1000000 ∧ (∀ x ∈ L, x ∈ L') ∧ (∀ x ∈ Q0, x ∈ L') ∧ B ≤ wr.heap.size ∧ T.size = Tm.sizes T.ks + 1 ∧ Pt.Kept w0 L0 L' wr) := ⟨by omega, by omega, by omega, hsub, fun y hy => hmem y (by rw [hQx]; exact List.mem_append_left _ hy), hBw, hTs, hKw⟩
      clear HJ hQx hk hwt hwt2 howe hsub hmem hinv hown hBw hKw hpls hptr hxL hown0 hlen0 hgB hgc hg1 hg2 hg3 hgr hadd hcb htb hBb hc0 hc1 hvx hdx hLies hnk hTs
      go_wp2_with fail
      refine Calls.mono (CK.out _ b o) ?_
      rintro e W1 ⟨rfl, hW1⟩
      subst hW1
      go_wp2_with fail
      have hbH : b < W1.heap.size := World.block_lt_of_cell? _ _ hvx'
      refine Calls.mono (Tryd.cloneKids HI.out.1 HI.out.2.1 HI.out.2.2.1 HI.out.2.2.2 hnkb HS.out.2.2.2.2.2.1) ?_
      rintro e W2 ⟨a', c', rfl, H2⟩
      have hvx2 : W2.cell? ⟨b, o + 2, none⟩ = some (.slice ak nk ck) := by rw [H2.out.1.cell (p := ⟨b, o + 2, none⟩) hbH]; exact hvx'
      have hfz2 : W2.frozen? ⟨b, o + 2, none⟩ = false := by
        have := H2.out.1.block b hbH
        simp only [World.frozen?, this] at hfz ⊢
        exact hfz
      clear hvx' hfz hpc
      go_wp2
      generalize hW3 : W2.setCell ⟨b, o + 2, none⟩ (.slice a' nk c') = W3
      obtain ⟨hb2, us, g, L1, hul, hag, huc, hLL, hkL, hnL, hinv1⟩ := H2.out
      have hgb : 0 < nk → g ≠ b := fun h => by have := (hag h).2; omega
      have hgs : gs < W1.heap.size := (Array.getElem?_eq_some_iff.1 HO.out.2.2.1).1
      have hgsb : gs ≠ b := by
        intro e
        obtain ⟨⟨csb, tyb, hcb, htb⟩, _⟩ := HI.out.1.at_ _ HI.out.2.1
        have h1 := HO.out.2.2.1
        simp only at hcb
        rw [e, hcb] at h1
        injection h1 with h1
        injection h1 with _ h1
        exact htb h1
      have H3 : Hid ((Q0 ++ Pt.todoP g T.ks us 0).length = k ∧ Pt.Inv B d w L1 (Pt.pls Q0 ++ Pt.todo g us) W3 ∧ W3.ownsRow B 66 1 (.slice (some ⟨gs, 0, none⟩) k c) k (Pt.ptrs (Q0 ++ Pt.todoP g T.ks us 0)) ∧ (∀ i (h : i < us.length), W3.cell? ⟨g, i * 3 + 2, none⟩ = some us[i]) ∧ W3.cell? ⟨b, o + 2, none⟩ = some (.slice a' nk c') ∧ B ≤ W3.heap.size ∧ Pt.Kept w0 L0 L1 W3) := by
        have e0 : Pt.todoP g T.ks us 0 = [] := by simp [Pt.todoP]
        rw [e0, List.append_nil]
        have blk : ∀ k, k ≠ b → W3.heap[k]? = W2.heap[k]? := fun k hk => by rw [← hW3]; exact Below.heap_setCell _ _ _ _ hk
        refine ⟨HO.out.2.1, by rw [← hW3]; exact hinv1, Pt.own_keep HO.out.1 fun g' e => ?_, fun i hi => ?_, ?_, ?_, ?_⟩
        · obtain rfl : gs = g' := by simpa using e
          rw [blk gs hgsb, hb2.block gs hgs]
        · rw [World.cell?_of_block (w := W2) (blk g (hgb (by omega)))]
          exact (huc i hi).1
        · rw [← hW3]; exact World.cell?_setCell_same' _ _ _ (by rw [hvx2]; rfl)
        · have h1 := HS.out.2.2.2.2.2.1
          have h2 := hb2.size
          have h3 : W3.heap.size = W2.heap.size := by rw [← hW3]; simp
          omega
        · have h1 := (HS.out.2.2.2.2.2.2.2.more hnL).below hb2
          rw [← hW3]
          exact h1.store (hLL _ HI.out.2.1)
      have HF : Hid (us.length = nk ∧ T.ks.length = nk ∧ (∀ j (hj : j < us.length), Pt.live us[j] = true ∨ ∃ n k, us[j] = .slice none n k) ∧ (∀ x ∈ L, x ∈ L1) ∧ (∀ x ∈ Q0, x ∈ L1) ∧ (∀ y ∈ Pt.kids g T.ks, y ∈ L1) ∧ (⟨b, o, T⟩ : Pl) ∈ L1) := ⟨hul, HI.out.2.2.2, fun j hj => (huc j hj).2, fun x hx => hLL x (HS.out.2.2.2.1 x hx), fun x hx => hLL x (HS.out.2.2.2.2.1 x hx), hkL, hLL _ HI.out.2.1⟩
      have HG : Hid (0 < nk → a' = some ⟨g, 0, none⟩) := fun h => (hag h).1
      have HSZ : Hid (Pt.wt Q0 + Tm.sizes T.ks + 1 ≤ gk ∧ Pt.wt Q0 + Tm.sizes T.ks + 1 ≤ 1000000 ∧ m + (Pt.owe Q0 + Tm.sizes T.ks) ≤ 1000000) := by
        have h1 := HS.out
        exact ⟨by omega, by omega, by omega⟩
      clear H2 HI HO HS hb2 hag huc hLL hkL hnL hinv1 hgb hgs hgsb hvx2 hfz2 hW3 hul hbH
      go_loopg [0, 8, 9, 45] nk (fun gj s0 _ _ s45 wi => ∃ (a2 : Option Addr) (n2 c2 j : Nat), s0 = .slice a2 n2 c2 ∧ s45 = .int .i64 j ∧ j + gj = nk ∧ n2 ≤ 1000000 ∧ Hid ((Q0 ++ Pt.todoP g T.ks us j).length = n2 ∧ Pt.Inv B d w L1 (Pt.pls Q0 ++ Pt.todo g us) wi ∧ wi.ownsRow B 66 1 (.slice a2 n2 c2) n2 (Pt.ptrs (Q0 ++ Pt.todoP g T.ks us j)) ∧ (∀ i (h : i < us.length), wi.cell? ⟨g, i * 3 + 2, none⟩ = some us[i]) ∧ wi.cell? ⟨b, o + 2, none⟩ = some (.slice a' nk c') ∧ B ≤ wi.heap.size ∧ Pt.Kept w0 L0 L1 wi))
      case atStart => exact ⟨some ⟨gs, 0, none⟩, k, c, 0, rfl, rfl, by omega, by omega, H3.out⟩
      case round =>
        obtain ⟨a2, n2, c2, j, rfl, rfl, hj, hn2, HJ⟩ := hrel
        clear H3
        by_cases hjn : j < nk
        · obtain rfl := HG.out (by omega)
          have hd : decide ((j : Int) < nk) = true := decide_eq_true (by omega)
          have hcell := HJ.out.2.2.2.2.1
          have hju : j < us.length := by have := HF.out.1; omega
          have hjk : j < T.ks.length := by have := HF.out.2.1; omega
          have hcu := HJ.out.2.2.2.1 j hju
          have hlv := HF.out.2.2.1 j hju
          have HT : Hid (Pt.todoP g T.ks us (j + 1) = Pt.todoP g T.ks us j ++ if Pt.live us[j] = true then [⟨g, j * 3, T.ks[j]⟩] else []) := Pt.todoP_succ hjk hju
          generalize us[j] = u at hcu hlv HT
          have HW : Hid (∀ j, j ≤ nk → Pt.wt (Pt.todoP g T.ks us j) ≤ Tm.sizes T.ks ∧ Pt.owe (Pt.todoP g T.ks us j) + j ≤ Tm.sizes T.ks) := fun j hj => by
            have h1 := Pt.todoP_wt (g := g) (us := us) (ts := T.ks) (by rw [HF.out.1, HF.out.2.1]) j (by have := HF.out.2.1; omega)
            have h2 := Pt.sizes_take T.ks j
            omega
          have hp1 : (1 : Int) = 1 := rfl
          go_wp2_with fail
          refine Calls.mono (CK.out _ g (j * 3)) ?_
          rintro e W4 ⟨rfl, hW4⟩
          subst hW4
          rcases hlv with hlv | ⟨n9, c9, rfl⟩
          · obtain ⟨a9, n9, c9, rfl⟩ := Pt.live_shape hlv
            have hq : ∀ W : World, (binOp BinOp.neq 33 (.slice (some a9) n9 c9) (.slice none 0 0)).run Tryd.prog W = .ok (.bool true) W := fun W => Pt.slice_some W a9 n9 c9
            have hownI := HJ.out.2.2.1
            have HBs : Hid (B ≤ W4.heap.size) := HJ.out.2.2.2.2.2.1
            go_wp2_with (at_builtin; refine wpList_append_own _ rfl _ _ 65 rfl B 66 i0 (.pointer none) 1 8 Tryd.underlying65 hi hz0 hz1 hz2 rfl (by decide) _ _ _ rfl (hownI.alloc _) ⟨W4.heap.size, 0, none⟩ 1 1 [.pointer (some ⟨g, j * 3, none⟩)] rfl rfl (Pt.one_cell W4 _ 66) (Pt.one_one _) ?c3 ?c4 ?c5 ?_)
            case c3 => unfold maxLen; omega
            case c4 => omega
            case c5 => have := HBs.out; simp; omega
            intro v' W5 own2 g2 _
            obtain ⟨a3, c3, rfl⟩ := Rk.own_shape own2
            have HN : Hid (n2 + 1 ≤ 1000000 ∧ (Q0 ++ Pt.todoP g T.ks us (j + 1)).length = n2 + 1 ∧ Pt.Inv B d w L1 (Pt.pls Q0 ++ Pt.todo g us) W5 ∧ W5.ownsRow B 66 1 (.slice a3 (n2 + 1) c3) (n2 + 1) (Pt.ptrs (Q0 ++ Pt.todoP g T.ks us (j + 1))) ∧ (∀ i (h : i < us.length), W5.cell? ⟨g, i * 3 + 2, none⟩ = some us[i]) ∧ W5.cell? ⟨b, o + 2, none⟩ = some (.slice (some ⟨g, 0, none⟩) nk c') ∧ B ≤ W5.heap.size ∧ Pt.Kept w0 L0 L1 W5) := by
              obtain ⟨p1, p2, p3⟩ := Pt.push HJ.out.2.1 hownI HBs.out g2
              have hT := HT.out
              rw [if_pos hlv] at hT
              have hlen : (Q0 ++ Pt.todoP g T.ks us (j + 1)).length = n2 + 1 := by
                rw [hT, ← List.append_assoc, List.length_append, HJ.out.1]; rfl
              have hw1 := Pt.len_wt (Q0 ++ Pt.todoP g T.ks us (j + 1))
              rw [hlen, Pt.wt_app] at hw1
              have hw2 := (HW.out (j + 1) (by omega)).1
              have hs := HSZ.out.2.1
              have hkg := p2 _ (HF.out.2.2.2.2.2.1 ⟨g, j * 3, T.ks[j]⟩ (Pt.mem_kids.2 ⟨j, hjk, rfl⟩))
              have hkb := p2 _ HF.out.2.2.2.2.2.2
              refine ⟨by omega, hlen, p1, ?_, fun i hi => ?_, ?_, p3, HJ.out.2.2.2.2.2.2.push hownI g2⟩
              · have h1 := own2
                have h2 : Pt.ptrs (Q0 ++ Pt.todoP g T.ks us (j + 1)) = Pt.ptrs (Q0 ++ Pt.todoP g T.ks us j) ++ [.pointer (some ⟨g, j * 3, none⟩)] := by rw [hT]; simp [Pt.ptrs]
                rw [h2]
                exact h1
              · rw [World.cell?_of_block (w := W4) hkg]; exact HJ.out.2.2.2.1 i hi
              · rw [World.cell?_of_block (w := W4) hkb]; exact HJ.out.2.2.2.2.1
            clear hownI own2 g2 HJ hcell hcu HT
            go_wp2
            go_roundg (gk - 1)
            case measure => omega
            case rel => exact ⟨a3, n2 + 1, c3, j + 1, by first | rfl | go_num, by go_num, by omega, HN.out.1, HN.out.2⟩
          · have hq : ∀ W : World, (binOp BinOp.neq 33 (.slice none n9 c9) (.slice none 0 0)).run Tryd.prog W = .ok (.bool false) W := fun W => Pt.slice_nil W n9 c9
            have HT' : Hid (Pt.todoP g T.ks us (j + 1) = Pt.todoP g T.ks us j) := by
              have hT := HT.out
              rw [if_neg (by simp [Pt.live]), List.append_nil] at hT
              exact hT
            clear hcell HT
            go_wp2
            go_roundg (gk - 1)
            case measure => omega
            case rel => exact ⟨a2, n2, c2, j + 1, rfl, by go_num, by omega, hn2, by rw [HT'.out]; exact HJ.out⟩
        · obtain rfl : j = nk := by omega
          have hd : decide ((j : Int) < j) = false := decide_eq_false (by omega)
          have HX : Hid (Pt.wt (Q0 ++ Pt.todoP g T.ks us j) ≤ Pt.wt Q0 + Tm.sizes T.ks ∧ m + j + Pt.owe (Q0 ++ Pt.todoP g T.ks us j) ≤ 1000000 ∧ m + j ≤ 1000000 ∧ (∀ x ∈ Q0 ++ Pt.todoP g T.ks us j, x ∈ L1) ∧ Pt.pls (Q0 ++ Pt.todoP g T.ks us j) = Pt.pls Q0 ++ Pt.todo g us) := by
            have hlk : us.length = T.ks.length := by rw [HF.out.1, HF.out.2.1]
            have h1 := Pt.todoP_wt (g := g) (us := us) (ts := T.ks) hlk j (by have := HF.out.2.1; omega)
            have h2 := Pt.sizes_take T.ks j
            have h3 := HSZ.out
            rw [Pt.wt_app, Pt.owe_app]
            refine ⟨by omega, by omega, by omega, fun x hx => ?_, ?_⟩
            · rcases List.mem_append.1 hx with hx | hx
              · exact HF.out.2.2.2.2.1 x hx
              · exact HF.out.2.2.2.2.2.1 x (Pt.todoP_mem hx)
            · have h4 := Pt.todoP_pls (g := g) hlk
              rw [HF.out.1] at h4
              rw [← h4]; simp [Pt.pls]
          go_wp2
          go_roundg (Pt.wt (Q0 ++ Pt.todoP g T.ks us j))
          case measure => have := HX.out.1; have := HSZ.out.1; omega
          case rel => exact ⟨L1, Q0 ++ Pt.todoP g T.ks us j, a2, n2, c2, m + j, rfl, by go_num, HX.out.2.2.1, hn2, HJ.out.1, Nat.le_refl _, by have := HX.out.1; have := HSZ.out.2.1; omega, HX.out.2.1, HF.out.2.2.2.1, HX.out.2.2.2.1, by rw [HX.out.2.2.2.2]; exact HJ.out.2.1, HJ.out.2.2.1, HJ.out.2.2.2.2.2.1, HJ.out.2.2.2.2.2.2⟩
    · have HZ : Hid (∃ L', (∀ x ∈ L, x ∈ L') ∧ Pt.Inv B d w L' [] wr ∧ Pt.Kept w0 L0 L' wr) := by
        have hq : Q' = [] := List.eq_nil_of_length_eq_zero (by have := HJ.out.1; omega)
        exact ⟨L', HJ.out.2.2.2.2.1, by have := HJ.out.2.2.2.2.2.2.1; rw [hq] at this; exact this, HJ.out.2.2.2.2.2.2.2.2.2⟩
      clear HJ
      go_wp2
      go_end0
      exact ⟨rfl, HZ.out⟩

end Go.Proofs
