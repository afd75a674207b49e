/-
  spec.RowOk at this seat, walked: it answers rowB. No condition but the length that every text has.
-/
import Derived.Test.YtddijnmdeabjbaaGreatDkV
import Derived.Test.YtddijnmdeabjbaaGreatItV
set_option linter.unusedVariables false
set_option linter.unusedSimpArgs false
set_option maxRecDepth 100000
set_option maxHeartbeats 8000000
namespace Go.Proofs.YtddijnmdeabjbaaGreat.Items
open ChangeShapes WideShapes ChangeAt RowKit Base
def rowN (start next nb : Int) (l : List It) : Bool := Qae start nb l 0 && inB start 0 next && decide (next <= 100000) && decide (l.length <= 80)
theorem rowN_eq (start next : Int) (l : List It) (h0 : -9223372036854775808 <= next) (h1 : next <= 9223372036854775807) : rowN start next (IntKind.i64.wrap (next - 1)) l = rowB start next l := by
 by_cases h : next = -9223372036854775808
 . have e : inB start 0 next = false := by simp only [inB, decide_eq_false_iff_not]; omega
   simp [rowN, rowB, e]
 . have e : IntKind.i64.wrap (next - 1) = next - 1 := by rw [IntKind.wrap_i64]; omega
   rw [e]; rfl
theorem Qfy (start next : Int) (A : Option Addr) (cap : Nat) (l : List It) (hl : l.length <= 9223372036854775807) (hs : ∀ x ∈ l, x.key.size <= 9223372036854775807 /\ x.text.size <= 9223372036854775807)
 (nb : Int) (hnb : Hid (IntKind.i64.wrap (next - 1) = nb)) (w : World) (hA : l = [] ∨ ∃ b o, A = some ⟨b, o, none⟩ /\ b < w.heap.size /\ In w b o l) :
 Calls Tryz.prog 89 #[.agg #[.int .i64 start, .int .i64 next, .slice A l.length cap]] w fun e w' => e = .returned (.bool (rowN start next nb l)) /\ Below w.heap.size w w' := by
 have HA : Hid (l = [] ∨ ∃ b o, A = some ⟨b, o, none⟩ /\ b < w.heap.size /\ In w b o l) := hA
 clear hA
 go_enter Tryz.func89, Tryz.ntmps89
 go_wp2
 go_loopw [3] (fun i w' => ∃ (n : Nat), i = .int .i64 (n : Int) /\ n <= l.length /\ Below w.heap.size w w' /\ w.heap.size < w'.heap.size /\ w'.cell? ⟨w.heap.size, 0, none⟩ = some (.int .i64 start) /\ w'.cell? ⟨w.heap.size, 1, none⟩ = some (.int .i64 next) /\ w'.cell? ⟨w.heap.size, 2, none⟩ = some (.slice A l.length cap) /\
  Hid (Qae start nb l n = Qae start nb l 0)) (fun i _ => l.length - (intOf i).toNat)
 case atStart => exact ⟨0, rfl, by omega, by repeat (first | exact Below.refl _ _ | refine via0 (by assumption) ?_ | refine Below.drew ?_ | refine Qaa ?_ _), by simp, by simp, by simp, by simp, rfl⟩
 case round =>
  obtain ⟨n, rfl, hn, hbl, hsz, b0, b1, b2, hch⟩ := hrel
  by_cases hlt : n < l.length
  . obtain ⟨b, o, rfl, hbs, hin⟩ : ∃ b o, A = some ⟨b, o, none⟩ /\ b < w.heap.size /\ In w b o l := by
     rcases HA.out with h | h
     . subst h; simp at hlt
     . exact h
    have hb1 : b < wr.heap.size := Nat.lt_of_lt_of_le hbs hbl.size
    have hIn := hin.below hbs hbl
    have hi0 : (0 : Int) <= (n : Int) := by omega
    have hi1 : (n : Int) < (l.length : Int) := by omega
    have hst := Qeh (start := start) (nb := nb) hlt
    obtain ⟨c0, c1, c2, c3, c4⟩ := hIn.get n hlt
    obtain ⟨hk, ht⟩ := hs l[n] (List.getElem_mem hlt)
    cases hp : Qb8 l[n]
    . have h1 : Hid (Qd6 l[n].key l[n].text l[n].who l[n].time = false) := hp
      have hF : Hid (Qae start nb l 0 = false) := by show Qae start nb l 0 = false; rw [← hch.out, hst, hp]; rfl
      clear hst hp
      go_wp2
      refine wp_region_noPanic ?_
      refine wp_region_held_drew (S := (fun w' => w'.cell? ⟨w.heap.size, 0, none⟩ = some (.int .i64 start) /\ w'.cell? ⟨w.heap.size, 1, none⟩ = some (.int .i64 next) /\ w'.cell? ⟨w.heap.size, 2, none⟩ = some (.slice (some ⟨b, o, none⟩) l.length cap) /\ w'.cell? ⟨b, o + n * 5, none⟩ = some (.int .i64 l[n].off) /\ w'.cell? ⟨b, o + n * 5 + 1, none⟩ = some (.string l[n].key) /\ w'.cell? ⟨b, o + n * 5 + 2, none⟩ = some (.string l[n].text) /\ w'.cell? ⟨b, o + n * 5 + 3, none⟩ = some (.int .i64 l[n].who) /\ w'.cell? ⟨b, o + n * 5 + 4, none⟩ = some (.int .i64 l[n].time) /\ w.heap.size < w'.heap.size /\ b < w'.heap.size)) (by kernel_rfl) ?_ (fun hH => ?_)
      . (refine ⟨?_, ?_, ?_, ?_, ?_, ?_, ?_, ?_, ?_, ?_⟩<;>first | assumption | (simp; done))
      refine ztk [0,1,2,3,4] ?_; repeat (refine ztn (h := ?_); try simp only [zX,zY])
      refine zte ?_
      refine zR1 5 (fun K hK => ?_)
      simp only [zG]
      go_simp
      (go_at_call 116; refine (Qbl false _ _ _ _ _ hk ht h1 _).mono ?_; rintro e w1 ⟨rfl, g1⟩; obtain ⟨k1, m1⟩ := Qaf g1; have s1 := g1.size)
      refine hK.out _ _ ?_ (fun hH => ?_)
      . first | (go_split_ands; refine ⟨?_, ?_, ?_, ?_, ?_, ?_, ?_, ?_, ?_, ?_⟩<;>assumption) | (go_split_ands; refine ⟨?_, ?_, ?_, ?_, ?_, ?_, ?_, ?_, ?_, ?_⟩<;>first | assumption | exact (k1 _ _ (by assumption)).trans (by assumption) | exact Nat.lt_of_lt_of_le (by assumption) s1)
      clear hK K
      try simp only [zX,zY]
      refine ztk [6,7,8,9,10,11,12,13,14,15,16,17,18,19,20,21,22,23,24,25,26,27,28,29,30,31,32,33,34,35,36,37,38,39,40,41] ?_; repeat ((first | refine ztn (h := ?_) | refine ztu (h := ?_)); try simp only [zX,zY])
      refine zte ?_
      refine zdn ?_
      go_wp2
      go_ret
      exact ⟨by rw [show rowN start next nb l = false from by unfold rowN; rw [hF.out]; rfl]; rfl, via0 g1 hbl.drew⟩
    . have h1 : Hid (Qd6 l[n].key l[n].text l[n].who l[n].time = true) := hp
      cases h2' : inB l[n].off start nb
      . have h2 : Hid (inB l[n].off start nb = false) := h2'
        have hF : Hid (Qae start nb l 0 = false) := by show Qae start nb l 0 = false; rw [← hch.out, hst, hp, h2']; rfl
        clear hst hp h2'
        go_wp2
        refine wp_region_noPanic ?_
        refine wp_region_held_drew (S := (fun w' => w'.cell? ⟨w.heap.size, 0, none⟩ = some (.int .i64 start) /\ w'.cell? ⟨w.heap.size, 1, none⟩ = some (.int .i64 next) /\ w'.cell? ⟨w.heap.size, 2, none⟩ = some (.slice (some ⟨b, o, none⟩) l.length cap) /\ w'.cell? ⟨b, o + n * 5, none⟩ = some (.int .i64 l[n].off) /\ w'.cell? ⟨b, o + n * 5 + 1, none⟩ = some (.string l[n].key) /\ w'.cell? ⟨b, o + n * 5 + 2, none⟩ = some (.string l[n].text) /\ w'.cell? ⟨b, o + n * 5 + 3, none⟩ = some (.int .i64 l[n].who) /\ w'.cell? ⟨b, o + n * 5 + 4, none⟩ = some (.int .i64 l[n].time) /\ w.heap.size < w'.heap.size /\ b < w'.heap.size)) (by kernel_rfl) ?_ (fun hH => ?_)
        . (refine ⟨?_, ?_, ?_, ?_, ?_, ?_, ?_, ?_, ?_, ?_⟩<;>first | assumption | (simp; done))
        refine ztk [0,1,2,3,4] ?_; repeat (refine ztn (h := ?_); try simp only [zX,zY])
        refine zte ?_
        refine zR1 5 (fun K hK => ?_)
        simp only [zG]
        go_simp
        (go_at_call 116; refine (Qbl true _ _ _ _ _ hk ht h1 _).mono ?_; rintro e w1 ⟨rfl, g1⟩; obtain ⟨k1, m1⟩ := Qaf g1; have s1 := g1.size)
        refine hK.out _ _ ?_ (fun hH => ?_)
        . first | (go_split_ands; refine ⟨?_, ?_, ?_, ?_, ?_, ?_, ?_, ?_, ?_, ?_⟩<;>assumption) | (go_split_ands; refine ⟨?_, ?_, ?_, ?_, ?_, ?_, ?_, ?_, ?_, ?_⟩<;>first | assumption | exact (k1 _ _ (by assumption)).trans (by assumption) | exact Nat.lt_of_lt_of_le (by assumption) s1)
        clear hK K
        try simp only [zX,zY]
        refine ztk [6,7,8,9,10,11,12,13,14,15,16,17] ?_; repeat (refine ztn (h := ?_); try simp only [zX,zY])
        refine zte ?_
        refine' wpAnyH_take (i := 18) (v := _) rfl (by kernel_rfl) (by kernel_rfl) (by kernel_rfl) (fun _ _ _ h => h) (Or.inl ⟨by rfl, ?hy28⟩) (by assumption) ?rest28
        case hy28 => (intro w hSw; (try dsimp only at hSw); go_simp<;>(rw [hnb.out]<;>with_reducible rfl))
        try simp only [zX,zY]
        refine zR1 19 (fun K hK => ?_)
        simp only [zG]
        go_simp
        (go_at_call 18; refine (in_is false _ _ _ h2 _).mono ?_; rintro e w' ⟨rfl, rfl⟩)
        refine hK.out _ _ ?_ (fun hH => ?_)
        . first | (go_split_ands; refine ⟨?_, ?_, ?_, ?_, ?_, ?_, ?_, ?_, ?_, ?_⟩<;>assumption) | (go_split_ands; refine ⟨?_, ?_, ?_, ?_, ?_, ?_, ?_, ?_, ?_, ?_⟩<;>first | assumption | exact (k1 _ _ (by assumption)).trans (by assumption) | exact Nat.lt_of_lt_of_le (by assumption) s1)
        clear hK K
        try simp only [zX,zY]
        refine ztk [20,21,22,23,24,25,26,27,28,29,30,31,32,33,34,35,36,37,38,39,40,41] ?_; repeat ((first | refine ztn (h := ?_) | refine ztu (h := ?_)); try simp only [zX,zY])
        refine zte ?_
        refine zdn ?_
        go_wp2
        go_ret
        exact ⟨by rw [show rowN start next nb l = false from by unfold rowN; rw [hF.out]; rfl]; rfl, via0 g1 hbl.drew⟩
      . have h2 : Hid (inB l[n].off start nb = true) := h2'
        by_cases hz : n = 0
        . have ho : ordB l n l[n].off = true := by subst hz; exact ordB_zero l _
          have hd : Hid (decide (0 < n) = false) := decide_eq_false (by omega)
          have hF : Hid (Qae start nb l (n + 1) = Qae start nb l 0) := by show Qae start nb l (n + 1) = Qae start nb l 0; rw [← hch.out, hst, hp, h2', ho]; rfl
          clear hst hp h2' ho hz
          go_wp2
          refine wp_region_noPanic ?_
          refine wp_region_held_drew (S := (fun w' => w'.cell? ⟨w.heap.size, 0, none⟩ = some (.int .i64 start) /\ w'.cell? ⟨w.heap.size, 1, none⟩ = some (.int .i64 next) /\ w'.cell? ⟨w.heap.size, 2, none⟩ = some (.slice (some ⟨b, o, none⟩) l.length cap) /\ w'.cell? ⟨b, o + n * 5, none⟩ = some (.int .i64 l[n].off) /\ w'.cell? ⟨b, o + n * 5 + 1, none⟩ = some (.string l[n].key) /\ w'.cell? ⟨b, o + n * 5 + 2, none⟩ = some (.string l[n].text) /\ w'.cell? ⟨b, o + n * 5 + 3, none⟩ = some (.int .i64 l[n].who) /\ w'.cell? ⟨b, o + n * 5 + 4, none⟩ = some (.int .i64 l[n].time) /\ w.heap.size < w'.heap.size /\ b < w'.heap.size)) (by kernel_rfl) ?_ (fun hH => ?_)
          . (refine ⟨?_, ?_, ?_, ?_, ?_, ?_, ?_, ?_, ?_, ?_⟩<;>first | assumption | (simp; done))
          refine ztk [0,1,2,3,4] ?_; repeat (refine ztn (h := ?_); try simp only [zX,zY])
          refine zte ?_
          refine zR1 5 (fun K hK => ?_)
          simp only [zG]
          go_simp
          (go_at_call 116; refine (Qbl true _ _ _ _ _ hk ht h1 _).mono ?_; rintro e w1 ⟨rfl, g1⟩; obtain ⟨k1, m1⟩ := Qaf g1; have s1 := g1.size)
          refine hK.out _ _ ?_ (fun hH => ?_)
          . first | (go_split_ands; refine ⟨?_, ?_, ?_, ?_, ?_, ?_, ?_, ?_, ?_, ?_⟩<;>assumption) | (go_split_ands; refine ⟨?_, ?_, ?_, ?_, ?_, ?_, ?_, ?_, ?_, ?_⟩<;>first | assumption | exact (k1 _ _ (by assumption)).trans (by assumption) | exact Nat.lt_of_lt_of_le (by assumption) s1)
          clear hK K
          try simp only [zX,zY]
          refine ztk [6,7,8,9,10,11,12,13,14,15,16,17] ?_; repeat (refine ztn (h := ?_); try simp only [zX,zY])
          refine zte ?_
          refine' wpAnyH_take (i := 18) (v := _) rfl (by kernel_rfl) (by kernel_rfl) (by kernel_rfl) (fun _ _ _ h => h) (Or.inl ⟨by rfl, ?hy50⟩) (by assumption) ?rest50
          case hy50 => (intro w hSw; (try dsimp only at hSw); go_simp<;>(rw [hnb.out]<;>with_reducible rfl))
          try simp only [zX,zY]
          refine zR1 19 (fun K hK => ?_)
          simp only [zG]
          go_simp
          (go_at_call 18; refine (in_is true _ _ _ h2 _).mono ?_; rintro e w' ⟨rfl, rfl⟩)
          refine hK.out _ _ ?_ (fun hH => ?_)
          . first | (go_split_ands; refine ⟨?_, ?_, ?_, ?_, ?_, ?_, ?_, ?_, ?_, ?_⟩<;>assumption) | (go_split_ands; refine ⟨?_, ?_, ?_, ?_, ?_, ?_, ?_, ?_, ?_, ?_⟩<;>first | assumption | exact (k1 _ _ (by assumption)).trans (by assumption) | exact Nat.lt_of_lt_of_le (by assumption) s1)
          clear hK K
          try simp only [zX,zY]
          refine ztk [20,21,22,23] ?_; repeat (refine ztn (h := ?_); try simp only [zX,zY])
          refine zte ?_
          refine' wpAnyH_take (i := 24) (v := _) rfl (by kernel_rfl) (by kernel_rfl) (by kernel_rfl) (fun _ _ _ h => h) (Or.inl ⟨by rfl, ?hy55⟩) (by assumption) ?rest55
          case hy55 => (intro w hSw; (try dsimp only at hSw); go_simp<;>(rw [hd.out]<;>with_reducible rfl))
          try simp only [zX,zY]
          refine ztk [25,26,27,28,29,30,31,32,33,34,35,36,37,38,39,40,41] ?_; repeat ((first | refine ztn (h := ?_) | refine ztu (h := ?_)); try simp only [zX,zY])
          refine zte ?_
          refine zdn ?_
          go_split_ands
          go_wp2
          exact ⟨⟨n + 1, by go_num, by omega, via0 g1 hbl.drew, by assumption, by assumption, by assumption, by assumption, hF⟩, by simp [intOf]; omega⟩
        . obtain ⟨p, hpn⟩ : ∃ p, n = p + 1 := ⟨n - 1, by omega⟩
          have hpl : p < l.length := by omega
          obtain ⟨p0, _⟩ := hIn.get p hpl
          have ho : ordB l n l[n].off = decide (l[p].off < l[n].off) := by rw [← ordB_succ hpl, ← hpn]
          have hd : Hid (decide (0 < n) = true) := decide_eq_true (by omega)
          have j0 : (0 : Int) <= (p : Int) := by omega
          have j1 : (p : Int) < (l.length : Int) := by omega
          have jw : Hid (IntKind.i64.wrap ((n : Int) - 1) = (p : Int)) := by
           show IntKind.i64.wrap ((n : Int) - 1) = (p : Int)
           rw [IntKind.wrap_i64]; omega
          clear hpn hz
          by_cases h4 : l[p].off < l[n].off
          . rw [decide_eq_true h4] at ho
            have hF : Hid (Qae start nb l (n + 1) = Qae start nb l 0) := by show Qae start nb l (n + 1) = Qae start nb l 0; rw [← hch.out, hst, hp, h2', ho]; rfl
            have h5 : ¬ l[p].off >= l[n].off := by omega
            clear hst hp h2' ho h4
            go_wp2
            refine wp_region_noPanic ?_
            refine wp_region_held_drew (S := (fun w' => w'.cell? ⟨w.heap.size, 0, none⟩ = some (.int .i64 start) /\ w'.cell? ⟨w.heap.size, 1, none⟩ = some (.int .i64 next) /\ w'.cell? ⟨w.heap.size, 2, none⟩ = some (.slice (some ⟨b, o, none⟩) l.length cap) /\ w'.cell? ⟨b, o + n * 5, none⟩ = some (.int .i64 l[n].off) /\ w'.cell? ⟨b, o + n * 5 + 1, none⟩ = some (.string l[n].key) /\ w'.cell? ⟨b, o + n * 5 + 2, none⟩ = some (.string l[n].text) /\ w'.cell? ⟨b, o + n * 5 + 3, none⟩ = some (.int .i64 l[n].who) /\ w'.cell? ⟨b, o + n * 5 + 4, none⟩ = some (.int .i64 l[n].time) /\ w'.cell? ⟨b, o + p * 5, none⟩ = some (.int .i64 l[p].off) /\ w.heap.size < w'.heap.size /\ b < w'.heap.size)) (by kernel_rfl) ?_ (fun hH => ?_)
            . (refine ⟨?_, ?_, ?_, ?_, ?_, ?_, ?_, ?_, ?_, ?_, ?_⟩<;>first | assumption | (simp; done))
            refine ztk [0,1,2,3,4] ?_; repeat (refine ztn (h := ?_); try simp only [zX,zY])
            refine zte ?_
            refine zR1 5 (fun K hK => ?_)
            simp only [zG]
            go_simp
            (go_at_call 116; refine (Qbl true _ _ _ _ _ hk ht h1 _).mono ?_; rintro e w1 ⟨rfl, g1⟩; obtain ⟨k1, m1⟩ := Qaf g1; have s1 := g1.size)
            refine hK.out _ _ ?_ (fun hH => ?_)
            . first | (go_split_ands; refine ⟨?_, ?_, ?_, ?_, ?_, ?_, ?_, ?_, ?_, ?_, ?_⟩<;>assumption) | (go_split_ands; refine ⟨?_, ?_, ?_, ?_, ?_, ?_, ?_, ?_, ?_, ?_, ?_⟩<;>first | assumption | exact (k1 _ _ (by assumption)).trans (by assumption) | exact Nat.lt_of_lt_of_le (by assumption) s1)
            clear hK K
            try simp only [zX,zY]
            refine ztk [6,7,8,9,10,11,12,13,14,15,16,17] ?_; repeat (refine ztn (h := ?_); try simp only [zX,zY])
            refine zte ?_
            refine' wpAnyH_take (i := 18) (v := _) rfl (by kernel_rfl) (by kernel_rfl) (by kernel_rfl) (fun _ _ _ h => h) (Or.inl ⟨by rfl, ?hy76⟩) (by assumption) ?rest76
            case hy76 => (intro w hSw; (try dsimp only at hSw); go_simp<;>(rw [hnb.out]<;>with_reducible rfl))
            try simp only [zX,zY]
            refine zR1 19 (fun K hK => ?_)
            simp only [zG]
            go_simp
            (go_at_call 18; refine (in_is true _ _ _ h2 _).mono ?_; rintro e w' ⟨rfl, rfl⟩)
            refine hK.out _ _ ?_ (fun hH => ?_)
            . first | (go_split_ands; refine ⟨?_, ?_, ?_, ?_, ?_, ?_, ?_, ?_, ?_, ?_, ?_⟩<;>assumption) | (go_split_ands; refine ⟨?_, ?_, ?_, ?_, ?_, ?_, ?_, ?_, ?_, ?_, ?_⟩<;>first | assumption | exact (k1 _ _ (by assumption)).trans (by assumption) | exact Nat.lt_of_lt_of_le (by assumption) s1)
            clear hK K
            try simp only [zX,zY]
            refine ztk [20,21,22,23] ?_; repeat (refine ztn (h := ?_); try simp only [zX,zY])
            refine zte ?_
            refine' wpAnyH_take (i := 24) (v := _) rfl (by kernel_rfl) (by kernel_rfl) (by kernel_rfl) (fun _ _ _ h => h) (Or.inl ⟨by rfl, ?hy81⟩) (by assumption) ?rest81
            case hy81 => (intro w hSw; (try dsimp only at hSw); go_simp<;>(rw [hd.out]<;>with_reducible rfl))
            try simp only [zX,zY]
            refine ztk [25,26,27,28] ?_; repeat (refine ztn (h := ?_); try simp only [zX,zY])
            refine zte ?_
            refine' wpAnyH_take (i := 29) (v := _) rfl (by kernel_rfl) (by kernel_rfl) (by kernel_rfl) (fun _ _ _ h => h) (Or.inl ⟨by rfl, ?hy86⟩) (by assumption) ?rest86
            case hy86 => (intro w hSw; (try dsimp only at hSw); go_simp<;>(rw [jw.out]<;>with_reducible rfl))
            try simp only [zX,zY]
            refine ztk [30,31,32,33,34,35,36,37,38,39,40,41] ?_; repeat (refine ztn (h := ?_); try simp only [zX,zY])
            refine zte ?_
            refine zdn ?_
            go_split_ands
            go_wp2
            exact ⟨⟨n + 1, by go_num, by omega, via0 g1 hbl.drew, by assumption, by assumption, by assumption, by assumption, hF⟩, by simp [intOf]; omega⟩
          . rw [decide_eq_false h4] at ho
            have hF : Hid (Qae start nb l 0 = false) := by show Qae start nb l 0 = false; rw [← hch.out, hst, hp, h2', ho]; rfl
            have h5 : l[p].off >= l[n].off := by omega
            clear hst hp h2' ho h4
            go_wp2
            refine wp_region_noPanic ?_
            refine wp_region_held_drew (S := (fun w' => w'.cell? ⟨w.heap.size, 0, none⟩ = some (.int .i64 start) /\ w'.cell? ⟨w.heap.size, 1, none⟩ = some (.int .i64 next) /\ w'.cell? ⟨w.heap.size, 2, none⟩ = some (.slice (some ⟨b, o, none⟩) l.length cap) /\ w'.cell? ⟨b, o + n * 5, none⟩ = some (.int .i64 l[n].off) /\ w'.cell? ⟨b, o + n * 5 + 1, none⟩ = some (.string l[n].key) /\ w'.cell? ⟨b, o + n * 5 + 2, none⟩ = some (.string l[n].text) /\ w'.cell? ⟨b, o + n * 5 + 3, none⟩ = some (.int .i64 l[n].who) /\ w'.cell? ⟨b, o + n * 5 + 4, none⟩ = some (.int .i64 l[n].time) /\ w'.cell? ⟨b, o + p * 5, none⟩ = some (.int .i64 l[p].off) /\ w.heap.size < w'.heap.size /\ b < w'.heap.size)) (by kernel_rfl) ?_ (fun hH => ?_)
            . (refine ⟨?_, ?_, ?_, ?_, ?_, ?_, ?_, ?_, ?_, ?_, ?_⟩<;>first | assumption | (simp; done))
            refine ztk [0,1,2,3,4] ?_; repeat (refine ztn (h := ?_); try simp only [zX,zY])
            refine zte ?_
            refine zR1 5 (fun K hK => ?_)
            simp only [zG]
            go_simp
            (go_at_call 116; refine (Qbl true _ _ _ _ _ hk ht h1 _).mono ?_; rintro e w1 ⟨rfl, g1⟩; obtain ⟨k1, m1⟩ := Qaf g1; have s1 := g1.size)
            refine hK.out _ _ ?_ (fun hH => ?_)
            . first | (go_split_ands; refine ⟨?_, ?_, ?_, ?_, ?_, ?_, ?_, ?_, ?_, ?_, ?_⟩<;>assumption) | (go_split_ands; refine ⟨?_, ?_, ?_, ?_, ?_, ?_, ?_, ?_, ?_, ?_, ?_⟩<;>first | assumption | exact (k1 _ _ (by assumption)).trans (by assumption) | exact Nat.lt_of_lt_of_le (by assumption) s1)
            clear hK K
            try simp only [zX,zY]
            refine ztk [6,7,8,9,10,11,12,13,14,15,16,17] ?_; repeat (refine ztn (h := ?_); try simp only [zX,zY])
            refine zte ?_
            refine' wpAnyH_take (i := 18) (v := _) rfl (by kernel_rfl) (by kernel_rfl) (by kernel_rfl) (fun _ _ _ h => h) (Or.inl ⟨by rfl, ?hy116⟩) (by assumption) ?rest116
            case hy116 => (intro w hSw; (try dsimp only at hSw); go_simp<;>(rw [hnb.out]<;>with_reducible rfl))
            try simp only [zX,zY]
            refine zR1 19 (fun K hK => ?_)
            simp only [zG]
            go_simp
            (go_at_call 18; refine (in_is true _ _ _ h2 _).mono ?_; rintro e w' ⟨rfl, rfl⟩)
            refine hK.out _ _ ?_ (fun hH => ?_)
            . first | (go_split_ands; refine ⟨?_, ?_, ?_, ?_, ?_, ?_, ?_, ?_, ?_, ?_, ?_⟩<;>assumption) | (go_split_ands; refine ⟨?_, ?_, ?_, ?_, ?_, ?_, ?_, ?_, ?_, ?_, ?_⟩<;>first | assumption | exact (k1 _ _ (by assumption)).trans (by assumption) | exact Nat.lt_of_lt_of_le (by assumption) s1)
            clear hK K
            try simp only [zX,zY]
            refine ztk [20,21,22,23] ?_; repeat (refine ztn (h := ?_); try simp only [zX,zY])
            refine zte ?_
            refine' wpAnyH_take (i := 24) (v := _) rfl (by kernel_rfl) (by kernel_rfl) (by kernel_rfl) (fun _ _ _ h => h) (Or.inl ⟨by rfl, ?hy121⟩) (by assumption) ?rest121
            case hy121 => (intro w hSw; (try dsimp only at hSw); go_simp<;>(rw [hd.out]<;>with_reducible rfl))
            try simp only [zX,zY]
            refine ztk [25,26,27,28] ?_; repeat (refine ztn (h := ?_); try simp only [zX,zY])
            refine zte ?_
            refine' wpAnyH_take (i := 29) (v := _) rfl (by kernel_rfl) (by kernel_rfl) (by kernel_rfl) (fun _ _ _ h => h) (Or.inl ⟨by rfl, ?hy126⟩) (by assumption) ?rest126
            case hy126 => (intro w hSw; (try dsimp only at hSw); go_simp<;>(rw [jw.out]<;>with_reducible rfl))
            try simp only [zX,zY]
            refine ztk [30,31,32,33,34,35,36,37,38,39,40,41] ?_; repeat (refine ztn (h := ?_); try simp only [zX,zY])
            refine zte ?_
            refine zdn ?_
            go_wp2
            go_ret
            exact ⟨by rw [show rowN start next nb l = false from by unfold rowN; rw [hF.out]; rfl]; rfl, via0 g1 hbl.drew⟩
  . have hT : Qae start nb l 0 = true := by rw [← hch.out, Qfn (by omega)]
    have HT : Hid (Qae start nb l 0 = true) := hT
    clear hT hch
    cases h1 : inB start 0 next
    . have hR : Hid (rowN start next nb l = false) := by show rowN start next nb l = false; unfold rowN; rw [h1]; simp
      go_wp2_with (go_at_call 18; refine (in_any _ _ _ _).mono ?_; rintro e w' ⟨rfl, rfl⟩)
      go_ret
      exact ⟨by rw [hR.out]; rfl, hbl⟩
    . by_cases h2 : next <= 100000
      . by_cases h3 : (l.length : Int) <= 80
        . have hR : Hid (rowN start next nb l = true) := by
           show rowN start next nb l = true
           have h3' : l.length <= 80 := by omega
           unfold rowN; rw [HT.out, h1]; simp [h2, h3']
          go_wp2_with (go_at_call 18; refine (in_any _ _ _ _).mono ?_; rintro e w' ⟨rfl, rfl⟩)
          go_ret
          exact ⟨by rw [hR.out]; rfl, hbl⟩
        . have hR : Hid (rowN start next nb l = false) := by
           show rowN start next nb l = false
           have h3' : ¬ l.length <= 80 := by omega
           unfold rowN; simp [h3']
          have h3d : decide ((l.length : Int) <= 80) = false := decide_eq_false h3
          go_wp2_with (go_at_call 18; refine (in_any _ _ _ _).mono ?_; rintro e w' ⟨rfl, rfl⟩)
          go_ret
          exact ⟨by first | (rw [hR.out]; rfl) | (rw [hR.out, ← h3d]; rfl), hbl⟩
      . have hR : Hid (rowN start next nb l = false) := by show rowN start next nb l = false; unfold rowN; simp [h2]
        go_wp2_with (go_at_call 18; refine (in_any _ _ _ _).mono ?_; rintro e w' ⟨rfl, rfl⟩)
        go_ret
        exact ⟨by rw [hR.out]; rfl, hbl⟩
theorem specRowOk_any (start next : Int) (A : Option Addr) (cap : Nat) (l : List It) (hl : l.length <= 9223372036854775807) (hs : ∀ x ∈ l, x.key.size <= 9223372036854775807 /\ x.text.size <= 9223372036854775807)
 (h0 : -9223372036854775808 <= next) (h1 : next <= 9223372036854775807) (w : World) (hA : l = [] ∨ ∃ b o, A = some ⟨b, o, none⟩ /\ b < w.heap.size /\ In w b o l) :
 Calls Tryz.prog 89 #[.agg #[.int .i64 start, .int .i64 next, .slice A l.length cap]] w fun e w' => e = .returned (.bool (rowB start next l)) /\ Below w.heap.size w w' := by
 rw [← rowN_eq start next l h0 h1]
 exact Qfy start next A cap l hl hs _ rfl w hA
end Go.Proofs.YtddijnmdeabjbaaGreat.Items
namespace Go.Proofs.YtddijnmdeabjbaaGreat.Gen
open ChangeShapes WideShapes ChangeAt RowKit Joins Deep Base
def Qds (l : List Mk) (j : Nat) : Int := (l.getD j ⟨0, 0⟩).off
def Qhb (last : Int) (l : List Mk) (j : Nat) : Int := IntKind.i64.wrap (last - IntKind.i64.wrap (IntKind.i64.wrap ((l.length : Int) - 1) - (j : Int)))
def Qdp (last : Int) (l : List Mk) (j : Nat) : Bool := inB (Qds l j) 0 100000 && decide ((l.getD j ⟨0, 0⟩).seq = Qhb last l j) && (decide (j = 0) || decide (Qds l (j - 1) < Qds l j))
def Qar (last : Int) (l : List Mk) (n : Nat) : Bool := (List.range n).all (Qdp last l)
theorem Qb4 (last : Int) (l : List Mk) (n : Nat) : Qar last l (n + 1) = (Qar last l n && Qdp last l n) := by simp [Qar, List.range_succ]
theorem Qbm {last : Int} {l : List Mk} {n : Nat} (h : n < l.length) (hr : Qdp last l n = false) : Qar last l l.length = false := by
 unfold Qar
 rw [List.all_eq_false]
 exact ⟨n, by simpa using h, by simp [hr]⟩
theorem Qe7 {l : List Mk} {n : Nat} (h : n < l.length) : Qds l n = l[n].off := by simp [Qds, h]
theorem Qa1 {last : Int} {l : List Mk} {n : Nat} (h : n < l.length) : Qdp last l n = (inB l[n].off 0 100000 && decide (l[n].seq = Qhb last l n) && (decide (n = 0) || decide (Qds l (n - 1) < l[n].off))) := by
 simp [Qdp, Qe7 h, h]
theorem prev_is {l : List Mk} {n p : Nat} (h : p < l.length) (e : n = p + 1) : Qds l (n - 1) = l[p].off := by subst e; simpa using Qe7 h
theorem seqAt_is {last : Int} (h0 : -1 <= last) (h1 : last <= 100000) {l : List Mk} (hl : l.length <= 1048576) {n : Nat} (hn : n < l.length) : Qhb last l n = last - l.length + 1 + n := by
 unfold Qhb
 have a : IntKind.i64.wrap ((l.length : Int) - 1) = (l.length : Int) - 1 := by rw [IntKind.wrap_i64]; omega
 have b : IntKind.i64.wrap ((l.length : Int) - 1 - (n : Int)) = (l.length : Int) - 1 - n := by rw [IntKind.wrap_i64]; omega
 rw [a, b, IntKind.wrap_i64]; omega
def okB (row who epoch last window : Int) (l : List Mk) : Bool :=
  inB row 0 3 && inB who 0 3 && inB epoch 0 100000 && inB last (-1) 100000 && decide ((l.length : Int) <= window) && decide ((l.length : Int) <= last + 1) && (decide ((l.length : Int) = 0) == decide (last = -1)) && Qar last l l.length
theorem okB_no {row who epoch last window : Int} {l : List Mk} (h : Qar last l l.length = false) : okB row who epoch last window l = false := by simp [okB, h]
theorem okB_yes {row who epoch last window : Int} {l : List Mk} (hl : l.length <= 1048576) (h : Qar last l l.length = true) (h1 : ¬ (l.length : Int) > window) (h2 : ¬ (l.length : Int) > wrap64 (last + 1)) (h3 : ¬ (last >= 0 /\ (l.length : Int) = 0)) :
 okB row who epoch last window l = (inB row 0 3 && (inB who 0 3 && (inB epoch 0 100000 && inB last (-1) 100000))) := by
 cases hL : inB last (-1) 100000
 . simp [okB, hL]
 . have hL' : -1 <= last /\ last <= 100000 := by simpa [inB] using hL
   have e : wrap64 (last + 1) = last + 1 := by simp only [wrap64]; omega
   rw [e] at h2
   have a1 : decide ((l.length : Int) <= window) = true := decide_eq_true (by omega)
   have a2 : decide ((l.length : Int) <= last + 1) = true := decide_eq_true (by omega)
   have a3 : (decide ((l.length : Int) = 0) == decide (last = -1)) = true := by
    by_cases hz : last = -1
    . rw [decide_eq_true hz, decide_eq_true (by omega)]; rfl
    . rw [decide_eq_false hz, decide_eq_false (by omega)]; rfl
   unfold okB
   rw [hL, a1, a2, a3, h]
   simp [Bool.and_assoc]
theorem okB_two {row who epoch last window : Int} {l : List Mk} (hl : l.length <= 1048576) (h2 : (l.length : Int) > wrap64 (last + 1)) : okB row who epoch last window l = false := by
 cases hL : inB last (-1) 100000
 . simp [okB, hL]
 . have hL' : -1 <= last /\ last <= 100000 := by simpa [inB] using hL
   have e : wrap64 (last + 1) = last + 1 := by simp only [wrap64]; omega
   rw [e] at h2
   have a2 : decide ((l.length : Int) <= last + 1) = false := decide_eq_false (by omega)
   unfold okB
   rw [a2]; simp
theorem okB_three {row who epoch last window : Int} {l : List Mk} (h3 : last >= 0) (h4 : (l.length : Int) = 0) : okB row who epoch last window l = false := by
 have a : (decide ((l.length : Int) = 0) == decide (last = -1)) = false := by rw [decide_eq_true h4, decide_eq_false (by omega)]; rfl
 unfold okB
 rw [a]; simp
theorem beqs (a b c d : Int) : ((a == b) = (c == d)) ↔ (decide (a = b) == decide (c = d)) = true := by
 have e1 : (a == b) = decide (a = b) := rfl
 have e2 : (c == d) = decide (c = d) := rfl
 rw [e1, e2]; simp
theorem Qhd (row who epoch last : Int) (h0 : -1 <= last) (h1 : last <= 100000) (A : Option Addr) (cap : Nat) (l : List Mk) (hl : l.length <= 1048576) (w : World) (hA : At w A l) :
 Calls Tryz.prog 174 #[.agg #[.int .i64 row, .int .i64 who, .int .i64 epoch, .int .i64 last, .slice A l.length cap]] w fun e w' => e = .returned (.bool (Qar last l l.length)) /\ Below w.heap.size w w' := by
 have HA : Hid (At w A l) := hA
 clear hA
 go_enter Tryz.func174, Tryz.ntmps174
 go_wp2
 go_loopw [3, 4, 16] (fun s lo i w' => ∃ (n : Nat) (x y : Int), i = .int .i64 (n : Int) /\ s = .int .i64 x /\ lo = .int .i64 y /\ n <= l.length /\ x <= last /\ -2000000 <= x /\ 0 <= y /\ y <= 100001 /\ Hid (x = last - l.length + n) /\ Hid (y = if n = 0 then 0 else Qds l (n - 1) + 1) /\ Hid (Qar last l n = true) /\ Below w.heap.size w w') (fun _ _ i _ => l.length - (intOf i).toNat)
 case atStart => exact ⟨0, _, 0, rfl, rfl, rfl, by omega, by omega, by omega, by omega, by omega, by show _ = _; omega, rfl, rfl, Qaa (Below.refl _ _) _⟩
 case round =>
  obtain ⟨n, x, y, rfl, rfl, rfl, hn, hx0, hx1, hy0, hy1, hx, hy, hR, hbl⟩ := hrel
  by_cases hlt : n < l.length
  . obtain ⟨b, o, rfl, hbs, hin⟩ : ∃ b o, A = some ⟨b, o, none⟩ /\ b < w.heap.size /\ In w b o l := by
     rcases HA.out with h | h
     . subst h; simp at hlt
     . exact h
    obtain ⟨c0, c1⟩ := (hin.below hbs hbl).getMk n hlt
    have hi0 : (0 : Int) <= (n : Int) := by omega
    have hi1 : (n : Int) < (l.length : Int) := by omega
    have HS : Hid (Qhb last l n = x + 1) := by show _ = _; rw [seqAt_is h0 h1 hl hlt, hx.out]; omega
    by_cases hs : l[n].seq = x + 1
    . have hxl : x + 1 <= last := by have := hx.out; omega
      cases hw : inB l[n].off y 100000
      . have hF : Hid (Qar last l l.length = false) := Qbm hlt (by
         rw [Qa1 hlt]
         have hw' : ¬ (y <= l[n].off /\ l[n].off <= 100000) := by simpa [inB] using hw
         have hy' := hy.out
         by_cases hz : n = 0
         . rw [if_pos hz] at hy'
           subst hy'
           simp [hw]
         . rw [if_neg hz] at hy'
           by_cases hq : l[n].off <= 100000
           . have : decide (Qds l (n - 1) < l[n].off) = false := decide_eq_false (by omega)
             rw [this]; simp [hz]
           . have : inB l[n].off 0 100000 = false := by simp [inB]; omega
             rw [this]; simp)
        go_wp2_with (go_at_call 65; refine (within_any _ _ _ _).mono ?_; rw [hw]; rintro e w1 ⟨rfl, rfl⟩)
        go_ret
        exact ⟨by rw [hF.out]; rfl, by repeat (first | exact Below.refl _ _ | assumption | refine via0 (by assumption) ?_ | refine Below.drew ?_ | refine Qaa ?_ _)⟩
      . have hw' : y <= l[n].off /\ l[n].off <= 100000 := by simpa [inB] using hw
        have hF : Hid (Qar last l (n + 1) = true) := by
         show _ = _
         rw [Qb4, hR.out, Qa1 hlt, HS.out, hs]
         have hy' := hy.out
         have a : inB l[n].off 0 100000 = true := by simp [inB]; omega
         rw [a]
         by_cases hz : n = 0
         . simp [hz]
         . rw [if_neg hz] at hy'
           have : decide (Qds l (n - 1) < l[n].off) = true := decide_eq_true (by omega)
           rw [this]; simp
        have hO : Hid (l[n].off + 1 = if n + 1 = 0 then 0 else Qds l (n + 1 - 1) + 1) := by show _ = _; simp [Qe7 hlt]
        obtain ⟨hw1, hw2⟩ := hw'
        go_wp2_with (go_at_call 65; refine (within_any _ _ _ _).mono ?_; rw [hw]; rintro e w1 ⟨rfl, rfl⟩)
        exact ⟨⟨n + 1, x + 1, l[n].off + 1, by go_num, rfl, rfl, by omega, hxl, by omega, by omega, by omega, by have := hx.out; show _ = _; omega, hO, hF, by repeat (first | exact Below.refl _ _ | assumption | refine via0 (by assumption) ?_ | refine Below.drew ?_ | refine Qaa ?_ _)⟩, by simp [intOf]; omega⟩
    . have hF : Hid (Qar last l l.length = false) := Qbm hlt (by rw [Qa1 hlt, HS.out]; simp [hs])
      go_wp2_with fail
      go_ret
      exact ⟨by rw [hF.out]; rfl, by repeat (first | exact Below.refl _ _ | assumption | refine via0 (by assumption) ?_ | refine Below.drew ?_ | refine Qaa ?_ _)⟩
  . obtain rfl : n = l.length := by omega
    go_wp2
    go_ret
    exact ⟨by rw [hR.out]; rfl, hbl⟩
theorem implOk_is (row who epoch last window : Int) (A : Option Addr) (cap : Nat) (l : List Mk) (hl : l.length <= 1048576) (w : World) (hA : At w A l) :
 Calls Tryz.prog 153 #[.agg #[.int .i64 row, .int .i64 who, .int .i64 epoch, .int .i64 last, .slice A l.length cap], .int .i64 window] w fun e w' => e = .returned (.bool (okB row who epoch last window l)) /\ Below w.heap.size w w' := by
 have HA : Hid (At w A l) := hA
 clear hA
 by_cases hL : -1 <= last /\ last <= 100000
 . have HL := hidP hL
   have hr := fun W hW => Qhd row who epoch last HL.out.1 HL.out.2 A cap l hl W hW
   have Hr := hidP hr
   have hb : last + 1 <= 100001 := by omega
   have hb' : 0 <= last + 1 := by omega
   clear hr hL
   have Hok : Hid (∀ a1 a2 a3 a4 a5 a6 a7 a8 : Bool, a1 = inB row 0 3 -> a2 = inB who 0 3 -> a3 = inB epoch 0 100000 -> a4 = inB last (-1) 100000 -> a5 = decide ((l.length : Int) <= window) -> a6 = decide ((l.length : Int) <= last + 1) -> a7 = (decide ((l.length : Int) = 0) == decide (last = -1)) -> a8 = Qar last l l.length -> okB row who epoch last window l = (a1 && a2 && a3 && a4 && a5 && a6 && a7 && a8)) := by
    intro a1 a2 a3 a4 a5 a6 a7 a8 e1 e2 e3 e4 e5 e6 e7 e8
    subst e1 e2 e3 e4 e5 e6 e7 e8
    rfl
   generalize okB row who epoch last window l = ans at *
   generalize Qar last l l.length = rt at *
   go_enter Tryz.func153, Tryz.ntmps153
   go_wp2_with (first
    | (go_at_call 65; refine (within_any _ _ _ _).mono ?_; rintro e w' ⟨rfl, rfl⟩)
    | (go_at_call 174; refine (Hr.out _ (HA.out.below (Qaa (Below.refl _ _) _))).mono ?_; rintro e w1 ⟨rfl, g1⟩))
   all_goals
    go_ret
    refine ⟨?_, by repeat (first | exact Below.refl _ _ | assumption | refine via0 (by assumption) ?_ | refine Below.drew ?_ | refine Qaa ?_ _)⟩
    rw [Hok.out _ _ _ _ _ _ _ _ rfl rfl rfl rfl rfl rfl rfl rfl]
    clear Hok Hr HA
    refine congrArg (fun b : Bool => Ending.returned (Value.bool b)) (?_ : _ = _)
    try simp only [beqs] at *
    (try simp_all)<;>(intros; omega)
 . have h4 : inB last (-1) 100000 = false := by simp only [inB, decide_eq_false_iff_not]; exact hL
   have hF : Hid (okB row who epoch last window l = false) := by show _ = _; simp [okB, h4]
   clear hL
   go_enter Tryz.func153, Tryz.ntmps153
   go_wp2_with (go_at_call 65; refine (within_any _ _ _ _).mono ?_; rintro e w' ⟨rfl, rfl⟩)
   all_goals
    go_ret
    exact ⟨by rw [hF.out]; first | rfl | simp_all, by repeat (first | exact Below.refl _ _ | assumption | refine via0 (by assumption) ?_ | refine Below.drew ?_ | refine Qaa ?_ _)⟩
end Go.Proofs.YtddijnmdeabjbaaGreat.Gen
