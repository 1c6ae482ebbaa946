/-
  The contract of the document's Read.
-/
import Derived.Test.YtbcafacolohgbaaDoorRefRead
namespace Go.Proofs
open Go.RowKit
open Go.Proofs.Mk

set_option maxRecDepth 100000 in
set_option maxHeartbeats 8000000 in
theorem Tryd.refread_any (s : ByteArray) (w : World) (hs : s.size ≤ 20000) :
    Calls Tryd.prog 34 #[.string s] w fun e w' => Below w.heap.size w w' ∧ Mk.RefReadEnd w s e w' := by
  obtain ⟨i0, hi, hz0, hz1, hz2⟩ := info_parts Tryd.infoRMark
  go_enter Tryd.func34, Tryd.ntmps34
  go_wp2
  go_loopg [4] s.size (fun g i wr => ∃ (p : Nat) (qs : List (Mk.MarkV × Value)) (v : Value), g + p = s.size ∧ i = .int .i64 p ∧ Mk.RS w v qs wr ∧ qs.length ≤ 2 * p ∧ (Mk.readL s.data.toList 0 = match Mk.readL (s.data.toList.drop p) p with | .error x => .error x | .ok r => .ok (qs.map (·.1) ++ r)))
  case atStart =>
    refine ⟨0, [], .slice none 0 0, by omega, rfl, ⟨?_, ?_, ⟨World.ownsRow_nil _ _ _ _, fun q hq => by cases hq⟩, ((Below.refl _ w).alloc (Nat.le_refl _) _).alloc (by simp) _⟩, by simp, ?_⟩
    · rw [Lib.alloc_old _ _ _ (by simp)]
      exact heap_alloc_new w _
    · have := heap_alloc_new (w.alloc (.cells #[.slice none 0 0, .int .i64 0] 83)) (.cells #[.slice none 0 0, .int .i64 (-1)] 83)
      simpa using this
    · simp only [List.drop_zero, List.map_nil, List.nil_append]
      cases Mk.readL s.data.toList 0 <;> rfl
  case round =>
    obtain ⟨p, qs, v, hg, rfl, hrs, hql, hrec⟩ := hrel
    have HC : Hid (Mk.readL s.data.toList 0 = match Mk.readL (s.data.toList.drop p) p with | .error x => .error x | .ok r => .ok (qs.map (·.1) ++ r)) := hrec
    have hsz := hrs.size
    obtain ⟨av, cv, hva⟩ := Mk.own_shape hrs.own.row
    subst hva
    have HR : Hid (Mk.RS w (.slice av qs.length cv) qs wr) := hrs
    clear hrs hrec
    by_cases hl : p < s.size
    · have hne : s.data.toList.drop p ≠ [] := by
        intro e
        have := congrArg List.length e
        rw [List.length_drop, Mk.size_list] at this
        simp at this
        omega
      have HNE : Hid (s.data.toList.drop p ≠ []) := hne
      clear hne
      cases hp : Lib.hasPrefix (s.data.toList.drop p) [60, 47]
      · cases hq : Lib.hasPrefix (s.data.toList.drop p) [60]
        · -- a text
          have h60 : ((s[p].toNat : Int) == 60) = false := by rw [← Mk.pre_head hl]; exact hq
          have HX : Hid (Mk.nextL (s.data.toList.drop p) p = _) := Mk.nextL_text hp hq
          go_wp2_with fail
          refine (Tryd.at_any _ _ p false _ (by omega) hs (by decide) hp).mono ?_
          rintro e w' ⟨rfl, rfl⟩
          go_wp2_with fail
          refine (Tryd.reftext_any s p 60 _ (by omega) hs).mono ?_
          cases ht : Mk.textL 60 (s.data.toList.drop p) with
          | none =>
            have HT : Hid (Mk.readL s.data.toList 0 = .error p) := by
              show _ = _
              rw [HC.out, Mk.readL_bad HNE.out (by rw [HX.out, ht])]
            rintro e W3 ⟨rfl, b3⟩
            have R3 : Hid (Mk.RS w (.slice av qs.length cv) qs W3) := HR.out.step b3
            simp only [Mk.gotV]
            have z3 : w.heap.size + 1 < W3.heap.size := R3.out.size
            have c3 := R3.out.c0
            have f3 := R3.out.f0
            have own3 := (R3.out.alloc (.cells #[.int .i64 (-1), .string ⟨#[]⟩] 107)).own.row
            clear b3
            go_wp2_with (at_builtin; refine wpList_append_own _ rfl _ _ 81 rfl (w.heap.size + 2) 86 i0 _ 5 72 Tryd.underlying81 hi hz0 hz1 hz2 rfl (by decide) _ _ _ rfl (own3.alloc _) ⟨W3.heap.size + 1, 0, none⟩ 1 1 [.int .i64 3, .int .i64 p, .string ⟨#[]⟩, .slice none 0 0, .string ⟨#[]⟩] rfl rfl ?c1a ?c2a ?c3a ?c4a ?c5a ?_)
            case c1a =>
              intro j u hj
              match j, hj with
              | 0, hj => simp at hj; subst hj; simp [Addr.add]
              | 1, hj => simp at hj; subst hj; simp [Addr.add]
              | 2, hj => simp at hj; subst hj; simp [Addr.add]
              | 3, hj => simp at hj; subst hj; simp [Addr.add]
              | 4, hj => simp at hj; subst hj; simp [Addr.add]
            case c2a => intro u hu; simp at hu; rcases hu with rfl | rfl | rfl | rfl | rfl <;> rfl
            case c3a => unfold maxLen; omega
            case c4a => omega
            case c5a => simp; omega
            intro v6 W6 O6 g6 _
            obtain ⟨a6, c6, rfl⟩ := Mk.own_shape O6
            obtain ⟨⟨m1, m2⟩, _, _⟩ := Mk.RS.mid (q := ((⟨3, p, ⟨#[]⟩, [], ⟨#[]⟩⟩ : Mk.MarkV), (Value.slice none 0 0))) ((R3.out.alloc (.cells #[.int .i64 (-1), .string ⟨#[]⟩] 107)).alloc (.cells #[.int .i64 3, .int .i64 p, .string ⟨#[]⟩, .slice none 0 0, .string ⟨#[]⟩] 86)) (Mk.own_nil76 _ _) O6 g6
            have P6 : Hid (Mk.RS w (.slice a6 (qs.length + 1) c6) (qs ++ [((⟨3, p, ⟨#[]⟩, [], ⟨#[]⟩⟩ : Mk.MarkV), (Value.slice none 0 0))]) (W6.setCell ⟨w.heap.size + 1, 0, none⟩ (.slice a6 (qs.length + 1) c6))) := Mk.RS.push (q := ((⟨3, p, ⟨#[]⟩, [], ⟨#[]⟩⟩ : Mk.MarkV), (Value.slice none 0 0))) ((R3.out.alloc (.cells #[.int .i64 (-1), .string ⟨#[]⟩] 107)).alloc (.cells #[.int .i64 3, .int .i64 p, .string ⟨#[]⟩, .slice none 0 0, .string ⟨#[]⟩] 86)) (Mk.own_nil76 _ _) O6 g6
            have k60 : W6.cell? ⟨w.heap.size + 1, 0, none⟩ = some (.slice av qs.length cv) := by simp [World.cell?, m2]
            have k61 : W6.frozen? ⟨w.heap.size + 1, 0, none⟩ = false := by simp [World.frozen?, m2]
            have z6 : w.heap.size + 1 < W6.heap.size := (Array.getElem?_eq_some_iff.1 m2).1
            clear m1 m2
            clear O6 g6 own3
            go_wp2_with (first | (refine wpList_store_row rfl 83 _ _ rfl w.heap.size _ rfl rfl 83 #[.slice none 0 0, .int .i64 0] (by exact P6.out.res) (by kernel_rfl) rfl (by kernel_rfl) ?_))
            refine bodyPost_ret (v := .agg #[.slice none 0 0, .int .i64 p]) (results_cell_row Tryd.results34 _ _ w.heap.size 83 #[.slice none 0 0, .int .i64 p] (0, 0) _ rfl (setRow_heap _ _ _ _ _ _ P6.out.res) Tryd.underlying83 rfl (by kernel_rfl)) rfl ⟨Mk.below_setRow P6.out.below (Nat.le_refl _) _, ?_⟩
            unfold Mk.RefReadEnd
            rw [HT.out]
          | some q =>
            obtain ⟨o, m⟩ := q
            have hpos := Mk.nextL_pos HNE.out (show Mk.nextL (s.data.toList.drop p) p = some ([⟨3, p, ⟨#[]⟩, [], ⟨o.toArray⟩⟩], m) by rw [HX.out, ht])
            have hm1 := hpos.1
            have hpm : p + m ≤ s.size := by
              have := hpos.2.1
              rw [List.length_drop, Mk.size_list] at this
              omega
            have HT : Hid (Mk.readL s.data.toList 0 = match Mk.readL (s.data.toList.drop (p + m)) (p + m) with | .error x => .error x | .ok r => .ok ((qs ++ [((⟨3, p, ⟨#[]⟩, [], ⟨o.toArray⟩⟩ : Mk.MarkV), (Value.slice none 0 0))]).map (·.1) ++ r)) := by
              show _ = _
              rw [HC.out, Mk.readL_step HNE.out (show Mk.nextL (s.data.toList.drop p) p = some ([⟨3, p, ⟨#[]⟩, [], ⟨o.toArray⟩⟩], m) by rw [HX.out, ht]), List.drop_drop]
              cases Mk.readL (s.data.toList.drop (p + m)) (p + m) with
              | error x => rfl
              | ok r => simp
            clear hpos
            rintro e W3 ⟨rfl, b3⟩
            have R3 : Hid (Mk.RS w (.slice av qs.length cv) qs W3) := HR.out.step b3
            simp only [Mk.gotV]
            have hneg : decide ((p : Int) + m < 0) = false := decide_eq_false (by omega)
            have z3 : w.heap.size + 1 < W3.heap.size := R3.out.size
            have c3 := R3.out.c0
            have f3 := R3.out.f0
            have own3 := (R3.out.alloc (.cells #[.int .i64 ((p : Int) + m), .string ⟨o.toArray⟩] 107)).own.row
            clear b3
            go_wp2_with (at_builtin; refine wpList_append_own _ rfl _ _ 81 rfl (w.heap.size + 2) 86 i0 _ 5 72 Tryd.underlying81 hi hz0 hz1 hz2 rfl (by decide) _ _ _ rfl (own3.alloc _) ⟨W3.heap.size + 1, 0, none⟩ 1 1 [.int .i64 3, .int .i64 p, .string ⟨#[]⟩, .slice none 0 0, .string ⟨o.toArray⟩] rfl rfl ?c1b ?c2b ?c3b ?c4b ?c5b ?_)
            case c1b =>
              intro j u hj
              match j, hj with
              | 0, hj => simp at hj; subst hj; simp [Addr.add]
              | 1, hj => simp at hj; subst hj; simp [Addr.add]
              | 2, hj => simp at hj; subst hj; simp [Addr.add]
              | 3, hj => simp at hj; subst hj; simp [Addr.add]
              | 4, hj => simp at hj; subst hj; simp [Addr.add]
            case c2b => intro u hu; simp at hu; rcases hu with rfl | rfl | rfl | rfl | rfl <;> rfl
            case c3b => unfold maxLen; omega
            case c4b => omega
            case c5b => simp; omega
            intro v6 W6 O6 g6 _
            obtain ⟨a6, c6, rfl⟩ := Mk.own_shape O6
            obtain ⟨⟨m1, m2⟩, _, _⟩ := Mk.RS.mid (q := ((⟨3, p, ⟨#[]⟩, [], ⟨o.toArray⟩⟩ : Mk.MarkV), (Value.slice none 0 0))) ((R3.out.alloc (.cells #[.int .i64 ((p : Int) + m), .string ⟨o.toArray⟩] 107)).alloc (.cells #[.int .i64 3, .int .i64 p, .string ⟨#[]⟩, .slice none 0 0, .string ⟨o.toArray⟩] 86)) (Mk.own_nil76 _ _) O6 g6
            have P6 : Hid (Mk.RS w (.slice a6 (qs.length + 1) c6) (qs ++ [((⟨3, p, ⟨#[]⟩, [], ⟨o.toArray⟩⟩ : Mk.MarkV), (Value.slice none 0 0))]) (W6.setCell ⟨w.heap.size + 1, 0, none⟩ (.slice a6 (qs.length + 1) c6))) := Mk.RS.push (q := ((⟨3, p, ⟨#[]⟩, [], ⟨o.toArray⟩⟩ : Mk.MarkV), (Value.slice none 0 0))) ((R3.out.alloc (.cells #[.int .i64 ((p : Int) + m), .string ⟨o.toArray⟩] 107)).alloc (.cells #[.int .i64 3, .int .i64 p, .string ⟨#[]⟩, .slice none 0 0, .string ⟨o.toArray⟩] 86)) (Mk.own_nil76 _ _) O6 g6
            have k60 : W6.cell? ⟨w.heap.size + 1, 0, none⟩ = some (.slice av qs.length cv) := by simp [World.cell?, m2]
            have k61 : W6.frozen? ⟨w.heap.size + 1, 0, none⟩ = false := by simp [World.frozen?, m2]
            have z6 : w.heap.size + 1 < W6.heap.size := (Array.getElem?_eq_some_iff.1 m2).1
            clear m1 m2
            clear O6 g6 own3
            go_wp2
            go_roundg (gk - m)
            case measure => omega
            case rel => exact ⟨p + m, _, _, by omega, by go_num, P6.out, by rw [List.length_append]; simp; omega, HT.out⟩
        · -- an opened element
          have h60 : ((s[p].toNat : Int) == 60) = true := by rw [← Mk.pre_head hl]; exact hq
          obtain ⟨nm, hnm⟩ : ∃ nm, Mk.nameOf (s.data.toList.drop (p + 1)) = nm := ⟨_, rfl⟩
          obtain ⟨n1, n2, n3⟩ := Mk.nextL_open hp hq hnm
          go_wp2_with fail
          refine (Tryd.at_any _ _ p false _ (by omega) hs (by decide) hp).mono ?_
          rintro e w' ⟨rfl, rfl⟩
          go_wp2_with fail
          refine (Tryd.refopen_any s p nm _ hnm hl hs).mono ?_
          rintro e W3 ⟨b3, t3⟩
          have R3 : Hid (Mk.RS w (.slice av qs.length cv) qs W3) := HR.out.step b3
          have z3 : w.heap.size + 1 < W3.heap.size := R3.out.size
          unfold Mk.RefOpenEnd at t3
          clear b3 hnm
          by_cases hn : nameL nm = false
          · rw [if_pos hn] at t3
            have HT : Hid (Mk.readL s.data.toList 0 = .error p) := by
              show _ = _
              rw [HC.out, Mk.readL_bad HNE.out (n1 hn)]
            subst t3
            unfold Mk.openBad
            clear n1 n2 n3
            go_wp2_with (first | (refine wpList_store_row rfl 83 _ _ rfl w.heap.size _ rfl rfl 83 #[.slice none 0 0, .int .i64 0] (by exact (R3.out.alloc _).res) (by kernel_rfl) rfl (by kernel_rfl) ?_))
            refine bodyPost_ret (v := .agg #[.slice none 0 0, .int .i64 p]) (results_cell_row Tryd.results34 _ _ w.heap.size 83 #[.slice none 0 0, .int .i64 p] (0, 0) _ rfl (setRow_heap _ _ _ _ _ _ (R3.out.alloc _).res) Tryd.underlying83 rfl (by kernel_rfl)) rfl ⟨Mk.below_setRow (R3.out.alloc _).below (Nat.le_refl _) _, ?_⟩
            unfold Mk.RefReadEnd
            rw [HT.out]
          · rw [if_neg hn] at t3
            have hn' : nameL nm = true := by simpa using hn
            cases ha : Mk.attrsL (s.data.toList.drop (p + 1 + nm.length)) with
            | none =>
              rw [ha] at t3
              have HT : Hid (Mk.readL s.data.toList 0 = .error p) := by
                show _ = _
                rw [HC.out, Mk.readL_bad HNE.out (n2 hn' ha)]
              subst t3
              unfold Mk.openBad
              clear n1 n2 n3
              go_wp2_with (first | (refine wpList_store_row rfl 83 _ _ rfl w.heap.size _ rfl rfl 83 #[.slice none 0 0, .int .i64 0] (by exact (R3.out.alloc _).res) (by kernel_rfl) rfl (by kernel_rfl) ?_))
              refine bodyPost_ret (v := .agg #[.slice none 0 0, .int .i64 p]) (results_cell_row Tryd.results34 _ _ w.heap.size 83 #[.slice none 0 0, .int .i64 p] (0, 0) _ rfl (setRow_heap _ _ _ _ _ _ (R3.out.alloc _).res) Tryd.underlying83 rfl (by kernel_rfl)) rfl ⟨Mk.below_setRow (R3.out.alloc _).below (Nat.le_refl _) _, ?_⟩
              unfold Mk.RefReadEnd
              rw [HT.out]
            | some q =>
              obtain ⟨xs, m⟩ := q
              rw [ha] at t3
              simp only at t3
              by_cases hu : Mk.unlikeB xs = false
              · rw [if_pos hu] at t3
                have HT : Hid (Mk.readL s.data.toList 0 = .error p) := by
                  show _ = _
                  rw [HC.out, Mk.readL_bad HNE.out (by rw [n3 xs m hn' ha, if_pos hu])]
                subst t3
                unfold Mk.openBad
                clear n1 n2 n3
                go_wp2_with (first | (refine wpList_store_row rfl 83 _ _ rfl w.heap.size _ rfl rfl 83 #[.slice none 0 0, .int .i64 0] (by exact (R3.out.alloc _).res) (by kernel_rfl) rfl (by kernel_rfl) ?_))
                refine bodyPost_ret (v := .agg #[.slice none 0 0, .int .i64 p]) (results_cell_row Tryd.results34 _ _ w.heap.size 83 #[.slice none 0 0, .int .i64 p] (0, 0) _ rfl (setRow_heap _ _ _ _ _ _ (R3.out.alloc _).res) Tryd.underlying83 rfl (by kernel_rfl)) rfl ⟨Mk.below_setRow (R3.out.alloc _).below (Nat.le_refl _) _, ?_⟩
                unfold Mk.RefReadEnd
                rw [HT.out]
              · rw [if_neg hu] at t3
                by_cases h1 : Lib.hasPrefix (s.data.toList.drop (p + 1 + nm.length + m)) [47, 62] = true
                · rw [if_pos h1] at t3
                  obtain ⟨vx, rfl, o3⟩ := t3
                  obtain ⟨a7, c7, rfl⟩ := Mk.own_shape o3
                  have hl3 : p + 1 + nm.length + m + 2 ≤ s.size := Mk.drop_pre_bound h1 (by simp)
                  have HT : Hid (Mk.readL s.data.toList 0 = match Mk.readL (s.data.toList.drop (p + 1 + nm.length + m + 2)) (p + 1 + nm.length + m + 2) with | .error x => .error x | .ok r => .ok ((qs ++ [((⟨1, p, ⟨nm.toArray⟩, xs, ⟨#[]⟩⟩ : Mk.MarkV), (Value.slice a7 xs.length c7))] ++ [((⟨2, p, ⟨nm.toArray⟩, [], ⟨#[]⟩⟩ : Mk.MarkV), (Value.slice none 0 0))]).map (·.1) ++ r)) := by
                    show _ = _
                    rw [HC.out, Mk.readL_step HNE.out (show Mk.nextL (s.data.toList.drop p) p = some ([⟨1, p, ⟨nm.toArray⟩, xs, ⟨#[]⟩⟩, ⟨2, p, ⟨nm.toArray⟩, [], ⟨#[]⟩⟩], 1 + nm.length + m + 2) by rw [n3 xs m hn' ha, if_neg hu, if_neg (Mk.not_both h1), if_pos h1]), List.drop_drop]
                    rw [show p + (1 + nm.length + m + 2) = p + 1 + nm.length + m + 2 by omega]
                    cases Mk.readL (s.data.toList.drop (p + 1 + nm.length + m + 2)) (p + 1 + nm.length + m + 2) with
                    | error x => rfl
                    | ok r => simp
                  have hneg : decide ((p : Int) + 1 + nm.length + m + 2 < 0) = false := decide_eq_false (by omega)
                  have hge : decide ((0 : Int) ≤ (p : Int) + 1 + nm.length + m + 2) = true := decide_eq_true (by omega)
                  have c3 := R3.out.c0
                  have f3 := R3.out.f0
                  have own3 := (R3.out.alloc (.cells #[.int .i64 1, .int .i64 p, .string ⟨nm.toArray⟩, .slice a7 xs.length c7, .string ⟨#[]⟩, .int .i64 ((p : Int) + 1 + nm.length + m + 2), .bool true] 110)).own.row
                  have oa3 := Mk.own_base (o3.alloc (.cells #[.int .i64 1, .int .i64 p, .string ⟨nm.toArray⟩, .slice a7 xs.length c7, .string ⟨#[]⟩, .int .i64 ((p : Int) + 1 + nm.length + m + 2), .bool true] 110)) (show w.heap.size + 2 ≤ w'.heap.size by omega)
                  clear n1 n2 n3
                  go_wp2_with (at_builtin; refine wpList_append_own _ rfl _ _ 81 rfl (w.heap.size + 2) 86 i0 _ 5 72 Tryd.underlying81 hi hz0 hz1 hz2 rfl (by decide) _ _ _ rfl (own3.alloc _) ⟨W3.heap.size + 1, 0, none⟩ 1 1 [.int .i64 1, .int .i64 p, .string ⟨nm.toArray⟩, .slice a7 xs.length c7, .string ⟨#[]⟩] rfl rfl ?c1e ?c2e ?c3e ?c4e ?c5e ?_)
                  case c1e =>
                    intro j u hj
                    match j, hj with
                    | 0, hj => simp at hj; subst hj; simp [Addr.add]
                    | 1, hj => simp at hj; subst hj; simp [Addr.add]
                    | 2, hj => simp at hj; subst hj; simp [Addr.add]
                    | 3, hj => simp at hj; subst hj; simp [Addr.add]
                    | 4, hj => simp at hj; subst hj; simp [Addr.add]
                  case c2e => intro u hu; simp at hu; rcases hu with rfl | rfl | rfl | rfl | rfl <;> rfl
                  case c3e => unfold maxLen; omega
                  case c4e => omega
                  case c5e => simp; omega
                  intro v6 W6 O6 g6 _
                  obtain ⟨a6, c6, rfl⟩ := Mk.own_shape O6
                  obtain ⟨⟨m1, m2⟩, _, _⟩ := Mk.RS.mid (q := ((⟨1, p, ⟨nm.toArray⟩, xs, ⟨#[]⟩⟩ : Mk.MarkV), (Value.slice a7 xs.length c7))) ((R3.out.alloc (.cells #[.int .i64 1, .int .i64 p, .string ⟨nm.toArray⟩, .slice a7 xs.length c7, .string ⟨#[]⟩, .int .i64 ((p : Int) + 1 + nm.length + m + 2), .bool true] 110)).alloc (.cells #[.int .i64 1, .int .i64 p, .string ⟨nm.toArray⟩, .slice a7 xs.length c7, .string ⟨#[]⟩] 86)) (oa3.alloc _) O6 g6
                  have P6 : Hid (Mk.RS w (.slice a6 (qs.length + 1) c6) (qs ++ [((⟨1, p, ⟨nm.toArray⟩, xs, ⟨#[]⟩⟩ : Mk.MarkV), (Value.slice a7 xs.length c7))]) (W6.setCell ⟨w.heap.size + 1, 0, none⟩ (.slice a6 (qs.length + 1) c6))) := Mk.RS.push (q := ((⟨1, p, ⟨nm.toArray⟩, xs, ⟨#[]⟩⟩ : Mk.MarkV), (Value.slice a7 xs.length c7))) ((R3.out.alloc (.cells #[.int .i64 1, .int .i64 p, .string ⟨nm.toArray⟩, .slice a7 xs.length c7, .string ⟨#[]⟩, .int .i64 ((p : Int) + 1 + nm.length + m + 2), .bool true] 110)).alloc (.cells #[.int .i64 1, .int .i64 p, .string ⟨nm.toArray⟩, .slice a7 xs.length c7, .string ⟨#[]⟩] 86)) (oa3.alloc _) O6 g6
                  have k60 : W6.cell? ⟨w.heap.size + 1, 0, none⟩ = some (.slice av qs.length cv) := by simp [World.cell?, m2]
                  have k61 : W6.frozen? ⟨w.heap.size + 1, 0, none⟩ = false := by simp [World.frozen?, m2]
                  have z6 : w.heap.size + 1 < W6.heap.size := (Array.getElem?_eq_some_iff.1 m2).1
                  clear m1 m2
                  have zW : W3.heap.size < W6.heap.size := by have := g6.size; simp at this; omega
                  have hopn : W6.heap[W3.heap.size]? = some (.cells #[.int .i64 1, .int .i64 p, .string ⟨nm.toArray⟩, .slice a7 xs.length c7, .string ⟨#[]⟩, .int .i64 ((p : Int) + 1 + nm.length + m + 2), .bool true] 110 (0, 0)) := by
                    rw [g6.block _ (by simp; omega) (Mk.row_ne (own3.alloc (.cells #[.int .i64 1, .int .i64 p, .string ⟨nm.toArray⟩, .slice a7 xs.length c7, .string ⟨#[]⟩] 86)) (c := #[.int .i64 1, .int .i64 p, .string ⟨nm.toArray⟩, .slice a7 xs.length c7, .string ⟨#[]⟩, .int .i64 ((p : Int) + 1 + nm.length + m + 2), .bool true]) (t := 110) (fz := (0, 0)) (by rw [Lib.alloc_old _ _ _ (by simp)]; exact heap_alloc_new W3 _) (by decide)), Lib.alloc_old _ _ _ (by simp)]
                    exact heap_alloc_new W3 _
                  have k62 : W6.cell? ⟨W3.heap.size, 2, none⟩ = some (.string ⟨nm.toArray⟩) := by simp [World.cell?, hopn]
                  have k66 : W6.cell? ⟨W3.heap.size, 6, none⟩ = some (.bool true) := by simp [World.cell?, hopn]
                  clear O6 g6 own3 hopn c3 f3
                  have own6 : (W6.setCell ⟨w.heap.size + 1, 0, none⟩ (.slice a6 (qs.length + 1) c6)).ownsRow (w.heap.size + 2) 86 5 (.slice a6 (qs.length + 1) c6) (qs.length + 1) (Mk.markCells (qs ++ [((⟨1, p, ⟨nm.toArray⟩, xs, ⟨#[]⟩⟩ : Mk.MarkV), (Value.slice a7 xs.length c7))])) := by
                    have := P6.out.own.row
                    rw [List.length_append] at this
                    exact this
                  go_wp2_with (at_builtin; refine wpList_append_own _ rfl _ _ 81 rfl (w.heap.size + 2) 86 i0 _ 5 72 Tryd.underlying81 hi hz0 hz1 hz2 rfl (by decide) _ _ _ rfl (own6.alloc _) ⟨W6.heap.size, 0, none⟩ 1 1 [.int .i64 2, .int .i64 p, .string ⟨nm.toArray⟩, .slice none 0 0, .string ⟨#[]⟩] rfl rfl ?c1g ?c2g ?c3g ?c4g ?c5g ?_)
                  case c1g =>
                    intro j u hj
                    match j, hj with
                    | 0, hj => simp at hj; subst hj; simp [Addr.add, Mk.cell_set_new]
                    | 1, hj => simp at hj; subst hj; simp [Addr.add, Mk.cell_set_new]
                    | 2, hj => simp at hj; subst hj; simp [Addr.add, Mk.cell_set_new]
                    | 3, hj => simp at hj; subst hj; simp [Addr.add, Mk.cell_set_new]
                    | 4, hj => simp at hj; subst hj; simp [Addr.add, Mk.cell_set_new]
                  case c2g => intro u hu; simp at hu; rcases hu with rfl | rfl | rfl | rfl | rfl <;> rfl
                  case c3g => unfold maxLen; omega
                  case c4g => omega
                  case c5g => simp; omega
                  intro v8 W8 O8 g8 _
                  obtain ⟨a8, c8, rfl⟩ := Mk.own_shape O8
                  obtain ⟨⟨m1, m2⟩, _, _⟩ := Mk.RS.mid (q := ((⟨2, p, ⟨nm.toArray⟩, [], ⟨#[]⟩⟩ : Mk.MarkV), (Value.slice none 0 0))) (P6.out.alloc (.cells #[.int .i64 2, .int .i64 p, .string ⟨nm.toArray⟩, .slice none 0 0, .string ⟨#[]⟩] 86)) (Mk.own_nil76 _ _) (by rw [List.length_append]; exact O8) g8
                  have P8 : Hid (Mk.RS w (.slice a8 ((qs.length + 1) + 1) c8) ((qs ++ [((⟨1, p, ⟨nm.toArray⟩, xs, ⟨#[]⟩⟩ : Mk.MarkV), (Value.slice a7 xs.length c7))]) ++ [((⟨2, p, ⟨nm.toArray⟩, [], ⟨#[]⟩⟩ : Mk.MarkV), (Value.slice none 0 0))]) (W8.setCell ⟨w.heap.size + 1, 0, none⟩ (.slice a8 ((qs.length + 1) + 1) c8))) := Mk.RS.push (q := ((⟨2, p, ⟨nm.toArray⟩, [], ⟨#[]⟩⟩ : Mk.MarkV), (Value.slice none 0 0))) (P6.out.alloc (.cells #[.int .i64 2, .int .i64 p, .string ⟨nm.toArray⟩, .slice none 0 0, .string ⟨#[]⟩] 86)) (Mk.own_nil76 _ _) (by rw [List.length_append]; exact O8) g8
                  have k80 : W8.cell? ⟨w.heap.size + 1, 0, none⟩ = some (.slice a6 (qs.length + 1) c6) := by simp [World.cell?, m2]
                  have k81 : W8.frozen? ⟨w.heap.size + 1, 0, none⟩ = false := by simp [World.frozen?, m2]
                  have z8 : w.heap.size + 1 < W8.heap.size := (Array.getElem?_eq_some_iff.1 m2).1
                  clear m1 m2
                  clear O8 g8 own6
                  go_wp2
                  go_roundg (gk - (1 + nm.length + m + 2))
                  case measure => omega
                  case rel => exact ⟨p + 1 + nm.length + m + 2, _, _, by omega, by go_num, P8.out, by rw [List.length_append, List.length_append]; simp; omega, HT.out⟩
                · rw [if_neg h1] at t3
                  have h2 := h1
                  clear h1
                  by_cases h1 : Lib.hasPrefix (s.data.toList.drop (p + 1 + nm.length + m)) [62] = true
                  · rw [if_pos h1] at t3
                    obtain ⟨vx, rfl, o3⟩ := t3
                    obtain ⟨a7, c7, rfl⟩ := Mk.own_shape o3
                    have hl3 : p + 1 + nm.length + m + 1 ≤ s.size := Mk.drop_pre_bound h1 (by simp)
                    have HT : Hid (Mk.readL s.data.toList 0 = match Mk.readL (s.data.toList.drop (p + 1 + nm.length + m + 1)) (p + 1 + nm.length + m + 1) with | .error x => .error x | .ok r => .ok ((qs ++ [((⟨1, p, ⟨nm.toArray⟩, xs, ⟨#[]⟩⟩ : Mk.MarkV), (Value.slice a7 xs.length c7))]).map (·.1) ++ r)) := by
                      show _ = _
                      rw [HC.out, Mk.readL_step HNE.out (show Mk.nextL (s.data.toList.drop p) p = some ([⟨1, p, ⟨nm.toArray⟩, xs, ⟨#[]⟩⟩], 1 + nm.length + m + 1) by rw [n3 xs m hn' ha, if_neg hu, if_pos h1]), List.drop_drop]
                      rw [show p + (1 + nm.length + m + 1) = p + 1 + nm.length + m + 1 by omega]
                      cases Mk.readL (s.data.toList.drop (p + 1 + nm.length + m + 1)) (p + 1 + nm.length + m + 1) with
                      | error x => rfl
                      | ok r => simp
                    have hneg : decide ((p : Int) + 1 + nm.length + m + 1 < 0) = false := decide_eq_false (by omega)
                    have hge : decide ((0 : Int) ≤ (p : Int) + 1 + nm.length + m + 1) = true := decide_eq_true (by omega)
                    have c3 := R3.out.c0
                    have f3 := R3.out.f0
                    have own3 := (R3.out.alloc (.cells #[.int .i64 1, .int .i64 p, .string ⟨nm.toArray⟩, .slice a7 xs.length c7, .string ⟨#[]⟩, .int .i64 ((p : Int) + 1 + nm.length + m + 1), .bool false] 110)).own.row
                    have oa3 := Mk.own_base (o3.alloc (.cells #[.int .i64 1, .int .i64 p, .string ⟨nm.toArray⟩, .slice a7 xs.length c7, .string ⟨#[]⟩, .int .i64 ((p : Int) + 1 + nm.length + m + 1), .bool false] 110)) (show w.heap.size + 2 ≤ w'.heap.size by omega)
                    clear n1 n2 n3
                    go_wp2_with (at_builtin; refine wpList_append_own _ rfl _ _ 81 rfl (w.heap.size + 2) 86 i0 _ 5 72 Tryd.underlying81 hi hz0 hz1 hz2 rfl (by decide) _ _ _ rfl (own3.alloc _) ⟨W3.heap.size + 1, 0, none⟩ 1 1 [.int .i64 1, .int .i64 p, .string ⟨nm.toArray⟩, .slice a7 xs.length c7, .string ⟨#[]⟩] rfl rfl ?c1f ?c2f ?c3f ?c4f ?c5f ?_)
                    case c1f =>
                      intro j u hj
                      match j, hj with
                      | 0, hj => simp at hj; subst hj; simp [Addr.add]
                      | 1, hj => simp at hj; subst hj; simp [Addr.add]
                      | 2, hj => simp at hj; subst hj; simp [Addr.add]
                      | 3, hj => simp at hj; subst hj; simp [Addr.add]
                      | 4, hj => simp at hj; subst hj; simp [Addr.add]
                    case c2f => intro u hu; simp at hu; rcases hu with rfl | rfl | rfl | rfl | rfl <;> rfl
                    case c3f => unfold maxLen; omega
                    case c4f => omega
                    case c5f => simp; omega
                    intro v6 W6 O6 g6 _
                    obtain ⟨a6, c6, rfl⟩ := Mk.own_shape O6
                    obtain ⟨⟨m1, m2⟩, _, _⟩ := Mk.RS.mid (q := ((⟨1, p, ⟨nm.toArray⟩, xs, ⟨#[]⟩⟩ : Mk.MarkV), (Value.slice a7 xs.length c7))) ((R3.out.alloc (.cells #[.int .i64 1, .int .i64 p, .string ⟨nm.toArray⟩, .slice a7 xs.length c7, .string ⟨#[]⟩, .int .i64 ((p : Int) + 1 + nm.length + m + 1), .bool false] 110)).alloc (.cells #[.int .i64 1, .int .i64 p, .string ⟨nm.toArray⟩, .slice a7 xs.length c7, .string ⟨#[]⟩] 86)) (oa3.alloc _) O6 g6
                    have P6 : Hid (Mk.RS w (.slice a6 (qs.length + 1) c6) (qs ++ [((⟨1, p, ⟨nm.toArray⟩, xs, ⟨#[]⟩⟩ : Mk.MarkV), (Value.slice a7 xs.length c7))]) (W6.setCell ⟨w.heap.size + 1, 0, none⟩ (.slice a6 (qs.length + 1) c6))) := Mk.RS.push (q := ((⟨1, p, ⟨nm.toArray⟩, xs, ⟨#[]⟩⟩ : Mk.MarkV), (Value.slice a7 xs.length c7))) ((R3.out.alloc (.cells #[.int .i64 1, .int .i64 p, .string ⟨nm.toArray⟩, .slice a7 xs.length c7, .string ⟨#[]⟩, .int .i64 ((p : Int) + 1 + nm.length + m + 1), .bool false] 110)).alloc (.cells #[.int .i64 1, .int .i64 p, .string ⟨nm.toArray⟩, .slice a7 xs.length c7, .string ⟨#[]⟩] 86)) (oa3.alloc _) O6 g6
                    have k60 : W6.cell? ⟨w.heap.size + 1, 0, none⟩ = some (.slice av qs.length cv) := by simp [World.cell?, m2]
                    have k61 : W6.frozen? ⟨w.heap.size + 1, 0, none⟩ = false := by simp [World.frozen?, m2]
                    have z6 : w.heap.size + 1 < W6.heap.size := (Array.getElem?_eq_some_iff.1 m2).1
                    clear m1 m2
                    have zW : W3.heap.size < W6.heap.size := by have := g6.size; simp at this; omega
                    have hopn : W6.heap[W3.heap.size]? = some (.cells #[.int .i64 1, .int .i64 p, .string ⟨nm.toArray⟩, .slice a7 xs.length c7, .string ⟨#[]⟩, .int .i64 ((p : Int) + 1 + nm.length + m + 1), .bool false] 110 (0, 0)) := by
                      rw [g6.block _ (by simp; omega) (Mk.row_ne (own3.alloc (.cells #[.int .i64 1, .int .i64 p, .string ⟨nm.toArray⟩, .slice a7 xs.length c7, .string ⟨#[]⟩] 86)) (c := #[.int .i64 1, .int .i64 p, .string ⟨nm.toArray⟩, .slice a7 xs.length c7, .string ⟨#[]⟩, .int .i64 ((p : Int) + 1 + nm.length + m + 1), .bool false]) (t := 110) (fz := (0, 0)) (by rw [Lib.alloc_old _ _ _ (by simp)]; exact heap_alloc_new W3 _) (by decide)), Lib.alloc_old _ _ _ (by simp)]
                      exact heap_alloc_new W3 _
                    have k62 : W6.cell? ⟨W3.heap.size, 2, none⟩ = some (.string ⟨nm.toArray⟩) := by simp [World.cell?, hopn]
                    have k66 : W6.cell? ⟨W3.heap.size, 6, none⟩ = some (.bool false) := by simp [World.cell?, hopn]
                    clear O6 g6 own3 hopn c3 f3
                    go_wp2
                    go_roundg (gk - (1 + nm.length + m + 1))
                    case measure => omega
                    case rel => exact ⟨p + 1 + nm.length + m + 1, _, _, by omega, by go_num, P6.out, by rw [List.length_append]; simp; omega, HT.out⟩
                  · rw [if_neg h1] at t3
                    have HT : Hid (Mk.readL s.data.toList 0 = .error p) := by
                      show _ = _
                      rw [HC.out, Mk.readL_bad HNE.out (by rw [n3 xs m hn' ha, if_neg hu, if_neg h1, if_neg h2])]
                    subst t3
                    unfold Mk.openBad
                    clear n1 n2 n3
                    go_wp2_with (first | (refine wpList_store_row rfl 83 _ _ rfl w.heap.size _ rfl rfl 83 #[.slice none 0 0, .int .i64 0] (by exact (R3.out.alloc _).res) (by kernel_rfl) rfl (by kernel_rfl) ?_))
                    refine bodyPost_ret (v := .agg #[.slice none 0 0, .int .i64 p]) (results_cell_row Tryd.results34 _ _ w.heap.size 83 #[.slice none 0 0, .int .i64 p] (0, 0) _ rfl (setRow_heap _ _ _ _ _ _ (R3.out.alloc _).res) Tryd.underlying83 rfl (by kernel_rfl)) rfl ⟨Mk.below_setRow (R3.out.alloc _).below (Nat.le_refl _) _, ?_⟩
                    unfold Mk.RefReadEnd
                    rw [HT.out]
      · -- a closed element
        have hl1 : p + 2 ≤ s.size := Mk.drop_pre_bound hp (by simp)
        obtain ⟨nm, hnm⟩ : ∃ nm, Mk.nameOf (s.data.toList.drop (p + 2)) = nm := ⟨_, rfl⟩
        have hl2 : p + 2 + nm.length ≤ s.size := by
          have := tw_le (p := bofName) (s.data.toList.drop (p + 2))
          rw [List.length_drop, Mk.size_list] at this
          rw [← hnm]
          unfold Mk.nameOf
          omega
        have HX : Hid (Mk.nextL (s.data.toList.drop p) p = _) := Mk.nextL_close hp hnm
        have HNB : Hid (Mk.nameAt (s.data.toList.drop (p + 2)) = if nameL nm = true then some (nm, nm.length) else none) := by
          show _ = _
          unfold Mk.nameAt
          rw [hnm]
        clear hnm
        go_wp2_with fail
        refine (Tryd.at_any _ _ p true _ (by omega) hs (by decide) hp).mono ?_
        rintro e w' ⟨rfl, rfl⟩
        go_wp2_with fail
        refine (Tryd.refname_any s (p + 2) _ hl1 hs).mono ?_
        rw [HNB.out]
        cases hna : nameL nm
        · have HT : Hid (Mk.readL s.data.toList 0 = .error p) := by
            show _ = _
            rw [HC.out, Mk.readL_bad HNE.out (by rw [HX.out, if_pos hna])]
          rintro e W3 ⟨rfl, b3⟩
          have R3 : Hid (Mk.RS w (.slice av qs.length cv) qs W3) := HR.out.step b3
          simp only [Bool.false_eq_true, if_false, Mk.gotV]
          clear b3
          go_wp2_with (first | (refine wpList_store_row rfl 83 _ _ rfl w.heap.size _ rfl rfl 83 #[.slice none 0 0, .int .i64 0] (by exact (R3.out.alloc _).res) (by kernel_rfl) rfl (by kernel_rfl) ?_))
          refine bodyPost_ret (v := .agg #[.slice none 0 0, .int .i64 p]) (results_cell_row Tryd.results34 _ _ w.heap.size 83 #[.slice none 0 0, .int .i64 p] (0, 0) _ rfl (setRow_heap _ _ _ _ _ _ (R3.out.alloc _).res) Tryd.underlying83 rfl (by kernel_rfl)) rfl ⟨Mk.below_setRow (R3.out.alloc _).below (Nat.le_refl _) _, ?_⟩
          unfold Mk.RefReadEnd
          rw [HT.out]
        · rintro e W3 ⟨rfl, b3⟩
          have R3 : Hid (Mk.RS w (.slice av qs.length cv) qs W3) := HR.out.step b3
          simp only [if_true, Mk.gotV]
          have hge : decide ((0 : Int) ≤ (p : Int) + 2 + nm.length) = true := decide_eq_true (by omega)
          clear b3
          cases hp2 : Lib.hasPrefix (s.data.toList.drop (p + 2 + nm.length)) [62]
          · have HT : Hid (Mk.readL s.data.toList 0 = .error p) := by
              show _ = _
              rw [HC.out, Mk.readL_bad HNE.out (by rw [HX.out, if_neg (by rw [hna]; simp), if_pos hp2])]
            go_wp2_with fail
            refine (Tryd.at_any s _ (p + 2 + nm.length) false _ hl2 hs (by decide) hp2).mono ?_
            rintro e w' ⟨rfl, rfl⟩
            go_wp2_with (first | (refine wpList_store_row rfl 83 _ _ rfl w.heap.size _ rfl rfl 83 #[.slice none 0 0, .int .i64 0] (by exact (R3.out.alloc _).res) (by kernel_rfl) rfl (by kernel_rfl) ?_))
            refine bodyPost_ret (v := .agg #[.slice none 0 0, .int .i64 p]) (results_cell_row Tryd.results34 _ _ w.heap.size 83 #[.slice none 0 0, .int .i64 p] (0, 0) _ rfl (setRow_heap _ _ _ _ _ _ (R3.out.alloc _).res) Tryd.underlying83 rfl (by kernel_rfl)) rfl ⟨Mk.below_setRow (R3.out.alloc _).below (Nat.le_refl _) _, ?_⟩
            unfold Mk.RefReadEnd
            rw [HT.out]
          · have hl3 : p + 2 + nm.length + 1 ≤ s.size := Mk.drop_pre_bound hp2 (by simp)
            have HT : Hid (Mk.readL s.data.toList 0 = match Mk.readL (s.data.toList.drop (p + 2 + nm.length + 1)) (p + 2 + nm.length + 1) with | .error x => .error x | .ok r => .ok ((qs ++ [((⟨2, p, ⟨nm.toArray⟩, [], ⟨#[]⟩⟩ : Mk.MarkV), (Value.slice none 0 0))]).map (·.1) ++ r)) := by
              show _ = _
              rw [HC.out, Mk.readL_step HNE.out (show Mk.nextL (s.data.toList.drop p) p = some ([⟨2, p, ⟨nm.toArray⟩, [], ⟨#[]⟩⟩], 2 + nm.length + 1) by rw [HX.out, if_neg (by rw [hna]; simp), if_neg (by rw [hp2]; simp)]), List.drop_drop]
              rw [show p + (2 + nm.length + 1) = p + 2 + nm.length + 1 by omega]
              cases Mk.readL (s.data.toList.drop (p + 2 + nm.length + 1)) (p + 2 + nm.length + 1) with
              | error x => rfl
              | ok r => simp
            have hneg : decide ((p : Int) + 2 + nm.length + 1 < 0) = false := decide_eq_false (by omega)
            have z3 : w.heap.size + 1 < W3.heap.size := R3.out.size
            have c3 := R3.out.c0
            have f3 := R3.out.f0
            have own3 := (R3.out.alloc (.cells #[.int .i64 ((p : Int) + 2 + nm.length), .string ⟨nm.toArray⟩] 107)).own.row
            go_wp2_with fail
            refine (Tryd.at_any s _ (p + 2 + nm.length) true _ hl2 hs (by decide) hp2).mono ?_
            rintro e w' ⟨rfl, rfl⟩
            go_wp2_with (at_builtin; refine wpList_append_own _ rfl _ _ 81 rfl (w.heap.size + 2) 86 i0 _ 5 72 Tryd.underlying81 hi hz0 hz1 hz2 rfl (by decide) _ _ _ rfl (own3.alloc _) ⟨W3.heap.size + 1, 0, none⟩ 1 1 [.int .i64 2, .int .i64 p, .string ⟨nm.toArray⟩, .slice none 0 0, .string ⟨#[]⟩] rfl rfl ?c1d ?c2d ?c3d ?c4d ?c5d ?_)
            case c1d =>
              intro j u hj
              match j, hj with
              | 0, hj => simp at hj; subst hj; simp [Addr.add]
              | 1, hj => simp at hj; subst hj; simp [Addr.add]
              | 2, hj => simp at hj; subst hj; simp [Addr.add]
              | 3, hj => simp at hj; subst hj; simp [Addr.add]
              | 4, hj => simp at hj; subst hj; simp [Addr.add]
            case c2d => intro u hu; simp at hu; rcases hu with rfl | rfl | rfl | rfl | rfl <;> rfl
            case c3d => unfold maxLen; omega
            case c4d => omega
            case c5d => simp; omega
            intro v6 W6 O6 g6 _
            obtain ⟨a6, c6, rfl⟩ := Mk.own_shape O6
            obtain ⟨⟨m1, m2⟩, _, _⟩ := Mk.RS.mid (q := ((⟨2, p, ⟨nm.toArray⟩, [], ⟨#[]⟩⟩ : Mk.MarkV), (Value.slice none 0 0))) ((R3.out.alloc (.cells #[.int .i64 ((p : Int) + 2 + nm.length), .string ⟨nm.toArray⟩] 107)).alloc (.cells #[.int .i64 2, .int .i64 p, .string ⟨nm.toArray⟩, .slice none 0 0, .string ⟨#[]⟩] 86)) (Mk.own_nil76 _ _) O6 g6
            have P6 : Hid (Mk.RS w (.slice a6 (qs.length + 1) c6) (qs ++ [((⟨2, p, ⟨nm.toArray⟩, [], ⟨#[]⟩⟩ : Mk.MarkV), (Value.slice none 0 0))]) (W6.setCell ⟨w.heap.size + 1, 0, none⟩ (.slice a6 (qs.length + 1) c6))) := Mk.RS.push (q := ((⟨2, p, ⟨nm.toArray⟩, [], ⟨#[]⟩⟩ : Mk.MarkV), (Value.slice none 0 0))) ((R3.out.alloc (.cells #[.int .i64 ((p : Int) + 2 + nm.length), .string ⟨nm.toArray⟩] 107)).alloc (.cells #[.int .i64 2, .int .i64 p, .string ⟨nm.toArray⟩, .slice none 0 0, .string ⟨#[]⟩] 86)) (Mk.own_nil76 _ _) O6 g6
            have k60 : W6.cell? ⟨w.heap.size + 1, 0, none⟩ = some (.slice av qs.length cv) := by simp [World.cell?, m2]
            have k61 : W6.frozen? ⟨w.heap.size + 1, 0, none⟩ = false := by simp [World.frozen?, m2]
            have z6 : w.heap.size + 1 < W6.heap.size := (Array.getElem?_eq_some_iff.1 m2).1
            clear m1 m2
            have zW : W3.heap.size < W6.heap.size := by have := g6.size; simp at this; omega
            have hgot : W6.heap[W3.heap.size]? = some (.cells #[.int .i64 ((p : Int) + 2 + nm.length), .string ⟨nm.toArray⟩] 107 (0, 0)) := by
              rw [g6.block _ (by simp; omega) (Mk.row_ne (own3.alloc (.cells #[.int .i64 2, .int .i64 p, .string ⟨nm.toArray⟩, .slice none 0 0, .string ⟨#[]⟩] 86)) (c := #[.int .i64 ((p : Int) + 2 + nm.length), .string ⟨nm.toArray⟩]) (t := 107) (fz := (0, 0)) (by rw [Lib.alloc_old _ _ _ (by simp)]; exact heap_alloc_new W3 _) (by decide)), Lib.alloc_old _ _ _ (by simp)]
              exact heap_alloc_new W3 _
            have k62 : W6.cell? ⟨W3.heap.size, 0, none⟩ = some (.int .i64 ((p : Int) + 2 + nm.length)) := by simp [World.cell?, hgot]
            clear O6 g6 own3 hgot
            go_wp2
            go_roundg (gk - (2 + nm.length + 1))
            case measure => omega
            case rel => exact ⟨p + 2 + nm.length + 1, _, _, by omega, by go_num, P6.out, by rw [List.length_append]; simp; omega, HT.out⟩
    · have HT : Hid (Mk.readL s.data.toList 0 = .ok (qs.map (·.1))) := by
        show _ = _
        rw [HC.out, show s.data.toList.drop p = [] from List.drop_eq_nil_of_le (by rw [Mk.size_list]; omega), Mk.readL_nil]
        simp
      have hdp : decide ((p : Int) < s.size) = false := decide_eq_false (by omega)
      have hu29 := Tryd.underlying83
      go_wp2_with (first | (refine wpList_load_row rfl 83 _ rfl _ rfl 83 _ (0, 0) _ HR.out.out hu29 rfl (by kernel_rfl) ?_) | (refine wpList_store_row rfl 83 _ _ rfl w.heap.size _ rfl rfl 83 #[.slice none 0 0, .int .i64 0] (by exact HR.out.res) (by kernel_rfl) rfl (by kernel_rfl) ?_))
      refine bodyPost_ret (v := .agg #[.slice av qs.length cv, .int .i64 (-1)]) (results_cell_row Tryd.results34 _ _ w.heap.size 83 #[.slice av qs.length cv, .int .i64 (-1)] (0, 0) _ rfl (setRow_heap _ _ _ _ _ _ HR.out.res) Tryd.underlying83 rfl (by kernel_rfl)) rfl ⟨Mk.below_setRow HR.out.below (Nat.le_refl _) _, ?_⟩
      unfold Mk.RefReadEnd
      rw [HT.out]
      exact ⟨_, qs, rfl, rfl, ⟨Mk.own_base (Mk.own_setRow HR.out.own.row (by omega) _) (by omega), fun q hq => Mk.own_base (Mk.own_setRow (HR.out.own.attrs q hq) (by omega) _) (by omega)⟩⟩

end Go.Proofs
