/-
  Logs copied, and the program's put. No condition but that there are at most 1048576 entries.
-/
import Derived.Test.YtengolneibbdfaaGreatKeepV
import Derived.Test.YtengolneibbdfaaGreatLCut
import Derived.Test.YtengolneibbdfaaGreatAnsList
namespace Go.Proofs.YtengolneibbdfaaGreat.Gen
open Go.ChangeShapes Go.WideShapes Go.ChangeAt Go.RowKit Go.Joins Go.Deep Base
set_option linter.unusedVariables false
set_option linter.unusedSimpArgs false
theorem newSl_set {B C i : Nat} {W : World} {v u : Value} {l : List En} (h : NewSl B W v l) (hC : C < B) : NewSl B (W.setCell ⟨C, i, none⟩ u) v l := by
  obtain ⟨a, c, F, e, h1, h2, hs, hF⟩ := h
  exact ⟨a, c, F, e, h1, h2, hs.off (Off.of_only ((Only.refl C W).set i u)) (fun x hx => by have := hF x hx; simp; omega), hF⟩
set_option maxRecDepth 100000 in
set_option maxHeartbeats 1000000 in
theorem copied_any (base bt : Int) (A : Option Addr) (cap : Nat) (l : List En) (hl : l.length <= 3000000) (w : World) (hA : At w A l) :
    Calls Tryz.prog 172 #[.agg #[.int .i64 base, .int .i64 bt, .slice A l.length cap]] w fun e w' => ∃ v, e = .returned (.agg #[.int .i64 base, .int .i64 bt, v]) /\ NewSl w.heap.size w' v l /\ Below w.heap.size w w' := by
  have HC : Hid (∀ W : World, Below w.heap.size w W -> Calls Tryz.prog 177 #[.slice A l.length cap] W fun e w' => ∃ v, e = .returned v /\ NewSl W.heap.size w' v l /\ Below W.heap.size W w') := fun W g => copyEn_any A cap l hl W (hA.below g)
  clear hA
  have B0 : Below w.heap.size w ((w.alloc (.cells #[.int .i64 base, .int .i64 bt, .slice A l.length cap] 49)).alloc (.cells #[.int .i64 0, .int .i64 0, .slice none 0 0] 49)) := alloc0 (alloc0 (Below.refl _ _) _) _
  have P0 : Blk ((w.alloc (.cells #[.int .i64 base, .int .i64 bt, .slice A l.length cap] 49)).alloc (.cells #[.int .i64 0, .int .i64 0, .slice none 0 0] 49)) w.heap.size 49 #[.int .i64 base, .int .i64 bt, .slice A l.length cap] := (Blk.new w 49 #[.int .i64 base, .int .i64 bt, .slice A l.length cap]).alloc _
  have R0 : Blk ((w.alloc (.cells #[.int .i64 base, .int .i64 bt, .slice A l.length cap] 49)).alloc (.cells #[.int .i64 0, .int .i64 0, .slice none 0 0] 49)) (w.heap.size + 1) 49 #[.int .i64 0, .int .i64 0, .slice none 0 0] := by have := Blk.new (w.alloc (.cells #[.int .i64 base, .int .i64 bt, .slice A l.length cap] 49)) 49 #[.int .i64 0, .int .i64 0, .slice none 0 0]; rwa [World.size_alloc] at this
  go_enter Tryz.func172, Tryz.ntmps172
  go_wp2_with fail
  refine (HC.out _ B0).mono ?_
  rintro e w1 ⟨v, rfl, n1, g1⟩
  have B1 := via0 g1 B0
  replace P0 := P0.below g1 P0.lt
  replace R0 := R0.below g1 R0.lt
  have n2 : NewSl (w.heap.size + 1 + 1) w1 v l := by simpa using n1
  obtain ⟨a, c, rfl⟩ : ∃ a c, v = .slice a l.length c := by obtain ⟨a, c, F, e, _⟩ := n1; exact ⟨a, c, e⟩
  have N2 := hidP n2
  obtain ⟨u0, u1, u2⟩ := P0.row3
  obtain ⟨x0, x1, x2⟩ := R0.row3
  have fp := fun i => P0.thaw i
  have fr := fun i => R0.thaw i
  have q1 := P0.lt
  have q2 := R0.lt
  clear n1 n2 g1
  go_wp2
  refine bodyPost_ret (v := .agg #[.int .i64 base, .int .i64 bt, .slice a l.length c]) (by simp [results, Tryz.results172, go_sem, *]) rfl ⟨_, rfl, ?_, ?_⟩
  . exact newSl_mono (newSl_set (newSl_set (newSl_set (newSl_set N2.out (by omega)) (by omega)) (by omega)) (by omega)) (by omega)
  . exact bl_set (bl_set (bl_set (bl_set B1 (by omega) _) (by omega) _) (by omega) _) (by omega) _
set_option maxRecDepth 100000 in
set_option maxHeartbeats 2000000 in
theorem l8Copy_any (base bt : Int) (A : Option Addr) (cap : Nat) (l : List En) (hl : l.length <= 3000000) (w : World) (hA : At w A l) :
    Calls Tryz.prog 167 #[.agg #[.int .i64 base, .int .i64 bt, .slice A l.length cap]] w fun e w' => ∃ v, e = .returned (.agg #[.int .i64 base, .int .i64 bt, v]) /\ w'.ownsRow (w.heap.size + 2) 129 9 v l.length (flat l) /\ Below w.heap.size w w' := by
  have B0 : Below w.heap.size w ((w.alloc (.cells #[.int .i64 base, .int .i64 bt, .slice A l.length cap] 49)).alloc (.cells #[.int .i64 0, .int .i64 0, .slice none 0 0] 49)) := alloc0 (alloc0 (Below.refl _ _) _) _
  have P0 : Blk ((w.alloc (.cells #[.int .i64 base, .int .i64 bt, .slice A l.length cap] 49)).alloc (.cells #[.int .i64 0, .int .i64 0, .slice none 0 0] 49)).drew w.heap.size 49 #[.int .i64 base, .int .i64 bt, .slice A l.length cap] := (Blk.new w 49 #[.int .i64 base, .int .i64 bt, .slice A l.length cap]).alloc _
  have R0 : Blk ((w.alloc (.cells #[.int .i64 base, .int .i64 bt, .slice A l.length cap] 49)).alloc (.cells #[.int .i64 0, .int .i64 0, .slice none 0 0] 49)).drew (w.heap.size + 1) 49 #[.int .i64 0, .int .i64 0, .slice none 0 0] := by have := Blk.new (w.alloc (.cells #[.int .i64 base, .int .i64 bt, .slice A l.length cap] 49)) 49 #[.int .i64 0, .int .i64 0, .slice none 0 0]; rwa [World.size_alloc] at this
  have P1 : Blk (((w.alloc (.cells #[.int .i64 base, .int .i64 bt, .slice A l.length cap] 49)).alloc (.cells #[.int .i64 0, .int .i64 0, .slice none 0 0] 49)).alloc (.cells #[] 129)).drew w.heap.size 49 #[.int .i64 base, .int .i64 bt, .slice A l.length cap] := P0.alloc _
  have R1 : Blk (((w.alloc (.cells #[.int .i64 base, .int .i64 bt, .slice A l.length cap] 49)).alloc (.cells #[.int .i64 0, .int .i64 0, .slice none 0 0] 49)).alloc (.cells #[] 129)).drew (w.heap.size + 1) 49 #[.int .i64 0, .int .i64 0, .slice none 0 0] := R0.alloc _
  have B1 : Below w.heap.size w (((w.alloc (.cells #[.int .i64 base, .int .i64 bt, .slice A l.length cap] 49)).alloc (.cells #[.int .i64 0, .int .i64 0, .slice none 0 0] 49)).alloc (.cells #[] 129)).drew := (alloc0 B0 _).drew
  have hown0 : (((w.alloc (.cells #[.int .i64 base, .int .i64 bt, .slice A l.length cap] 49)).alloc (.cells #[.int .i64 0, .int .i64 0, .slice none 0 0] 49)).alloc (.cells #[] 129)).drew.ownsRow (w.heap.size + 1 + 1) 129 9 (.slice (some ⟨w.heap.size + 1 + 1, 0, none⟩) 0 0) 0 (flat ([] : List En)) :=
    own_noneE (W := (w.alloc (.cells #[.int .i64 base, .int .i64 bt, .slice A l.length cap] 49)).alloc (.cells #[.int .i64 0, .int .i64 0, .slice none 0 0] 49)) (by simp) (by simp)
  obtain ⟨v, w2, hr, hown, hbl⟩ := copy_els (w.heap.size + 1 + 1) (.slice (some ⟨w.heap.size + 1 + 1, 0, none⟩) 0 0) l A cap l.length _ rfl (by show w.heap.size + 1 + 1 <= (((w.alloc (.cells #[.int .i64 base, .int .i64 bt, .slice A l.length cap] 49)).alloc (.cells #[.int .i64 0, .int .i64 0, .slice none 0 0] 49)).alloc (.cells #[] 129)).heap.size; simp) hown0 (fun k e => by simp [Value.ownBlock] at e; omega) (hA.below B1) hl
  have P2 := P1.below hbl (by omega)
  have R2 := R1.below hbl (by omega)
  have B2 : Below w.heap.size w w2 := B1.trans (hbl.mono (by omega))
  obtain ⟨a, c, rfl, hc⟩ := owns_form hown
  have hf := owns_far hown (C := w.heap.size + 1) (by omega)
  have O3 := hidP (owns_set (owns_set (owns_set hown hf (i := 0) (u := .int .i64 base)) hf (i := 1) (u := .int .i64 bt)) hf (i := 2) (u := .slice a l.length c))
  obtain ⟨x0, x1, x2⟩ := R2.row3
  have fr := fun i => R2.thaw i
  have q2 := R2.lt
  have P3 : Blk (((w2.setCell ⟨w.heap.size + 1, 0, none⟩ (.int .i64 base)).setCell ⟨w.heap.size + 1, 1, none⟩ (.int .i64 bt)).setCell ⟨w.heap.size + 1, 2, none⟩ (.slice a l.length c)) w.heap.size 49 #[.int .i64 base, .int .i64 bt, .slice A l.length cap] := ((P2.other (by omega) _ _).other (by omega) _ _).other (by omega) _ _
  clear hA hown hown0 hbl B0 B1 R0 R1 hf hc
  go_enter Tryz.func167, Tryz.ntmps167
  go_wp2_with fail
  refine wp_region_noPanic ?_
  refine wp_region_held_drew (S := (fun (W : World) => W.cell? ⟨w.heap.size, 0, none⟩ = some (.int .i64 base) /\ W.cell? ⟨w.heap.size, 1, none⟩ = some (.int .i64 bt) /\ W.cell? ⟨w.heap.size, 2, none⟩ = some (.slice A l.length cap))) (by kernel_rfl) ?_ (fun hH => ?_)
  . exact P0.row3
  refine ztk [0,1,2,3,5,6] ?_; repeat (refine ztn (h := ?_); try simp only [zX,zY])
  refine zte ?_
  refine zR1 4 (fun K hK => ?_)
  simp only [zG]
  go_simp
  refine hK.out _ _ ?_ (fun hH => ?_)
  . exact P1.row3
  clear hK K
  try simp only [zX,zY]
  refine zR1 7 (fun K hK => ?_)
  simp only [zG]
  rw [if_pos (by rfl)]; refine wp_append_is _ _ _ (by rfl) _ _ _ (by rfl) (by rfl) hr ?_
  refine hK.out _ _ ?_ (fun hH => ?_)
  . exact P2.row3
  clear hK K
  try simp only [zX,zY]
  refine zt1 8 ?_; refine ztn (h := ?_); try simp only [zX,zY]
  refine zte ?_
  refine zR1 9 (fun K hK => ?_)
  simp only [zG]
  go_simp
  refine hK.out _ _ ?_ (fun hH => ?_)
  . exact P3.row3
  clear hK K
  try simp only [zX,zY]
  refine zdn ?_
  go_wp2
  refine bodyPost_ret (v := .agg #[.int .i64 base, .int .i64 bt, .slice a l.length c]) (by simp [results, Tryz.results167, go_sem, *]) rfl ⟨_, rfl, O3.out, ?_⟩
  exact bl_set (bl_set (bl_set B2 (by omega) _) (by omega) _) (by omega) _
end Go.Proofs.YtengolneibbdfaaGreat.Gen

/-
  Logs: what the laws' sz, to and eq functions of them do; a log opened. No condition but that there are at most 1048576 entries, and the length that every text has.
-/
namespace Go.Proofs.YtengolneibbdfaaGreat.Gen
open Go.ChangeShapes Go.WideShapes Go.ChangeAt Go.RowKit Go.Joins Go.Deep Base
set_option linter.unusedVariables false
theorem At.hid {α : Type} [Cel α] {w : World} {A : Option Addr} {l : List α} (hA : At w A l) : Hid (∀ W : World, Below w.heap.size w W -> At W A l) := fun W hW => hA.below hW
theorem szLog_any (base bt : Int) (A : Option Addr) (cap : Nat) (l : List En) (hl : l.length <= 9223372036854775807) (hr : ∀ x ∈ l, x.fit) (left : Int) (h0 : 0 <= left) (h1 : left <= 1048576) (w : World) (hA : At w A l) :
    Calls Tryz.prog 66 #[.agg #[.int .i64 base, .int .i64 bt, .slice A l.length cap], .int .i64 left] w fun e w' => (∃ r : Int, e = .returned (.int .i64 r) /\ (r < 0 ∨ (0 <= r /\ r = left - (l.length : Int) - (count szEn l : Int)))) /\ Below w.heap.size w w' := by
  have HA := hA.hid
  have Hr := hidP hr
  clear hA hr
  go_enter Tryz.func66, Tryz.ntmps66
  go_wp2_with fail
  refine (szEntryS_any A cap l hl Hr.out left h0 h1 _ (HA.out _ (by repeat (first | exact Below.refl _ _ | assumption | refine via0 (by assumption) ?_ | refine Below.drew ?_ | refine alloc0 ?_ _)))).mono ?_
  rintro e w1 ⟨⟨r, rfl, hr⟩, g1⟩
  have HR := hidP hr
  have B1 : Below w.heap.size w w1 := by repeat (first | exact Below.refl _ _ | assumption | refine via0 (by assumption) ?_ | refine Below.drew ?_ | refine alloc0 ?_ _)
  clear hr
  by_cases hn : r < 0
  . go_wp2
    go_ret
    exact ⟨⟨-1, rfl, .inl (by omega)⟩, B1⟩
  . go_wp2
    go_ret
    exact ⟨⟨r, rfl, HR.out⟩, B1⟩
set_option maxRecDepth 100000 in
theorem toLog_any (base bt : Int) (A : Option Addr) (cap : Nat) (l : List En) (hl : l.length <= 1048576) (w : World) (hA : At w A l) :
    Calls Tryz.prog 79 #[.agg #[.int .i64 base, .int .i64 bt, .slice A l.length cap]] w
      fun e w' => ∃ b, e = .returned (.agg #[.int .i64 base, .int .i64 bt, .slice (some ⟨b, 0, none⟩) l.length l.length]) /\ Below w.heap.size w w' /\ w.heap.size <= b /\ b < w'.heap.size /\ In w' b 0 l /\ w'.there b 0 (l.length * 9) := by
  have HA := hA.hid
  clear hA
  go_enter Tryz.func79, Tryz.ntmps79
  go_wp2_with (go_at_call 48; refine (toEntryS_any A cap l hl _ (HA.out _ ?_)).mono ?_; (repeat (first | exact Below.refl _ _ | assumption | refine via0 (by assumption) ?_ | refine Below.drew ?_ | refine alloc0 ?_ _)); rintro e w1 ⟨rfl, g1, s1, i1, t1⟩; obtain ⟨k1, m1⟩ := bcell g1)
  have i2 : In w1 (w.heap.size + 1 + 1 + 1) 0 l := by simpa using i1
  have t2 : w1.there (w.heap.size + 1 + 1 + 1) 0 (l.length * 9) := by simpa using t1
  have s2 : w.heap.size + 1 + 1 + 1 < w1.heap.size := by simpa using s1
  have g2 : Below w.heap.size w w1 := via0 g1 (by repeat (first | exact Below.refl _ _ | assumption | refine via0 (by assumption) ?_ | refine Below.drew ?_ | refine alloc0 ?_ _))
  refine bodyPost_ret (v := .agg #[.int .i64 base, .int .i64 bt, .slice (some ⟨w.heap.size + 1 + 1 + 1, 0, none⟩) l.length l.length]) (by simp [results, Tryz.results79, go_sem, k1]) rfl ⟨w.heap.size + 1 + 1 + 1, rfl, ?_, by omega, by simp; omega, ?_, ?_⟩
  . exact bl_set (bl_set (bl_set (bl_set (g2) (by omega) _) (by omega) _) (by omega) _) (by omega) _
  . exact In.set (In.set (In.set (In.set (i2) _ _ (by simp)) _ _ (by simp)) _ _ (by simp)) _ _ (by simp)
  . exact there_set (there_set (there_set (there_set (t2) _ _ _) _ _ _) _ _ _) _ _ _
theorem eqLog_same (base bt : Int) (A A' : Option Addr) (cap cap' : Nat) (l : List En) (hl : l.length <= 9223372036854775807) (w : World) (hA : At w A l) (hA' : At w A' l) :
    Calls Tryz.prog 94 #[.agg #[.int .i64 base, .int .i64 bt, .slice A l.length cap], .agg #[.int .i64 base, .int .i64 bt, .slice A' l.length cap']] w fun e w' => e = .returned (.bool true) /\ Below w.heap.size w w' := by
  have HA := hA.hid
  have HA' := hA'.hid
  clear hA hA'
  go_enter Tryz.func94, Tryz.ntmps94
  go_wp2_with (go_at_call 52; refine (eqEntryS_same A A' cap cap' l hl _ (HA.out _ ?_) (HA'.out _ ?_)).mono ?_; (repeat (first | exact Below.refl _ _ | assumption | refine via0 (by assumption) ?_ | refine Below.drew ?_ | refine alloc0 ?_ _)); (repeat (first | exact Below.refl _ _ | assumption | refine via0 (by assumption) ?_ | refine Below.drew ?_ | refine alloc0 ?_ _)); rintro e w1 ⟨rfl, g1⟩)
  go_ret
  refine ⟨rfl, ?_⟩
  repeat (first | exact Below.refl _ _ | assumption | refine via0 (by assumption) ?_ | refine Below.drew ?_ | refine alloc0 ?_ _)
end Go.Proofs.YtengolneibbdfaaGreat.Gen
