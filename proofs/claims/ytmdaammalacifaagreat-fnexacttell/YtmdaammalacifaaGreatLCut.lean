/-
  Entries cut and copied: the three forms of a cut, copyOfEntries, cutOf, and From of both sides. No condition but that there are at most 1048576 entries.
-/
import Derived.WalkSmall
import Derived.Test.YtmdaammalacifaaGreatGUs
set_option linter.unusedVariables false
set_option linter.unusedSimpArgs false
set_option maxRecDepth 100000
set_option maxHeartbeats 8000000
namespace Go.Proofs.YtmdaammalacifaaGreat.Gen
open ChangeShapes WideShapes ChangeAt RowKit Joins Deep Base
def Qe8 (B : Nat) (w : World) (v : Value) (l : List En) : Prop := ∃ a c F, v = .slice a l.length c /\ l.length <= c /\ c <= maxLen /\ Sl w a l F /\ (∀ x ∈ F, B <= x)
theorem newSl_owns {B n : Nat} {W : World} {v : Value} {l : List En} (hn : n = l.length) (h : W.ownsRow B 130 9 v n (flat l)) : Qe8 B W v l := by
 subst hn
 have hf := Qcx (t := 130) h
 have hc : ∃ a c, v = .slice a l.length c /\ l.length <= c /\ c <= maxLen := by
  rcases h.2 with ⟨rfl, h0⟩ | ⟨g, c, cur, rfl, _, _, h1, h2, _⟩
  . exact ⟨none, 0, by rw [h0], by omega, by simp [maxLen]⟩
  . exact ⟨_, c, rfl, h1, h2⟩
 obtain ⟨a, c, rfl, h1, h2⟩ := hc
 obtain ⟨_, F, hs, hF⟩ := Sl.of_fresh hf
 exact ⟨a, c, F, rfl, h1, h2, hs, hF⟩
theorem newSl_mono {B C : Nat} {W : World} {v : Value} {l : List En} (h : Qe8 B W v l) (hC : C <= B) : Qe8 C W v l := by
 obtain ⟨a, c, F, e, h1, h2, hs, hF⟩ := h
 exact ⟨a, c, F, e, h1, h2, hs, fun x hx => Nat.le_trans hC (hF x hx)⟩
theorem own_noneE {B g : Nat} {W : World} (h : B <= W.heap.size) (hg : g = W.heap.size) : (W.alloc (.cells #[] 130)).ownsRow B 130 9 (.slice (some ⟨g, 0, none⟩) 0 0) 0 (flat ([] : List En)) := by
 subst hg
 exact ⟨by simp [flat], .inr ⟨W.heap.size, 0, #[], rfl, h, Blk.new W 130 #[], by simp, by simp [maxLen], rfl, rfl⟩⟩
theorem copy_els (B : Nat) (v : Value) (m : List En) (A : Option Addr) (cap n : Nat) (w : World) (hn : n = m.length) (hB : B <= w.heap.size) (hv : w.ownsRow B 130 9 v 0 (flat ([] : List En))) (hvB : ∀ k, v.ownBlock = some k -> B <= k) (hA : At w A m) (hlen : m.length <= 3000000) :
 ∃ v' w', (Builtin.append_ #[45, 45] 45 #[v, .slice A n cap]).run Tryz.prog w = .ok v' w' /\ w'.ownsRow B 130 9 v' m.length (flat m) /\ Below B w w' := by
 subst hn
 obtain ⟨v', w1, hr, hown, hgrow, hat⟩ := Qa0 (P := Tryz.prog) Tryz.underlying45 infoEn rfl (by decide) (by decide) B v ([] : List En) m A cap w hB hv hA (by simp; omega)
 simp only [List.length_nil, Nat.zero_add, List.nil_append] at hown
 refine ⟨v', w1, hr, hown, ?_⟩
 exact (Below.refl B w).grown hgrow hB (fun k e => hvB k e)
theorem copyEn_any (A : Option Addr) (cap : Nat) (l : List En) (hl : l.length <= 3000000) (w : World) (hA : At w A l) :
 Calls Tryz.prog 120 #[.slice A l.length cap] w fun e w' => ∃ v, e = .returned v /\ Qe8 w.heap.size w' v l /\ Below w.heap.size w w' := by
 obtain ⟨v, w1, hr, hown, hbl⟩ := copy_els w.heap.size (.slice none 0 0) l A cap l.length w rfl (Nat.le_refl _) (World.ownsRow_nil _ _ _ _) (fun k e => by cases e) hA hl
 have HO := hidP (newSl_owns rfl hown)
 have HG := hidP hbl
 clear hown hbl hA
 go_enter Tryz.func120, Tryz.ntmps120
 go_wp2_with (at_builtin; refine Qaj rfl _ _ _ rfl _ _ _ rfl rfl hr ?_)
 go_ret
 exact ⟨v, rfl, HO.out, HG.out⟩
end Go.Proofs.YtmdaammalacifaaGreat.Gen
namespace Go.Proofs.YtmdaammalacifaaGreat.Gen
open ChangeShapes WideShapes ChangeAt RowKit Joins Deep Base
theorem Qc7 {B C i : Nat} {W : World} {v u : Value} {l : List En} (h : Qe8 B W v l) (hC : C < B) : Qe8 B (W.setCell ⟨C, i, none⟩ u) v l := by
 obtain ⟨a, c, F, e, h1, h2, hs, hF⟩ := h
 exact ⟨a, c, F, e, h1, h2, hs.off (Off.of_only ((Only.refl C W).set i u)) (fun x hx => by have := hF x hx; simp; omega), hF⟩
theorem copied_any (base bt : Int) (A : Option Addr) (cap : Nat) (l : List En) (hl : l.length <= 3000000) (w : World) (hA : At w A l) :
 Calls Tryz.prog 115 #[.agg #[.int .i64 base, .int .i64 bt, .slice A l.length cap]] w fun e w' => ∃ v, e = .returned (.agg #[.int .i64 base, .int .i64 bt, v]) /\ Qe8 w.heap.size w' v l /\ Below w.heap.size w w' := by
 have HC : Hid (∀ W : World, Below w.heap.size w W -> Calls Tryz.prog 120 #[.slice A l.length cap] W fun e w' => ∃ v, e = .returned v /\ Qe8 W.heap.size w' v l /\ Below W.heap.size W w') := fun W g => copyEn_any A cap l hl W (hA.below g)
 clear hA
 have B0 : Below w.heap.size w ((w.alloc (.cells #[.int .i64 base, .int .i64 bt, .slice A l.length cap] 47)).alloc (.cells #[.int .i64 0, .int .i64 0, .slice none 0 0] 47)) := Qab (Qab (Below.refl _ _) _) _
 have P0 : Blk ((w.alloc (.cells #[.int .i64 base, .int .i64 bt, .slice A l.length cap] 47)).alloc (.cells #[.int .i64 0, .int .i64 0, .slice none 0 0] 47)) w.heap.size 47 #[.int .i64 base, .int .i64 bt, .slice A l.length cap] := (Blk.new w 47 #[.int .i64 base, .int .i64 bt, .slice A l.length cap]).alloc _
 have R0 : Blk ((w.alloc (.cells #[.int .i64 base, .int .i64 bt, .slice A l.length cap] 47)).alloc (.cells #[.int .i64 0, .int .i64 0, .slice none 0 0] 47)) (w.heap.size + 1) 47 #[.int .i64 0, .int .i64 0, .slice none 0 0] := by have := Blk.new (w.alloc (.cells #[.int .i64 base, .int .i64 bt, .slice A l.length cap] 47)) 47 #[.int .i64 0, .int .i64 0, .slice none 0 0]; rwa [World.size_alloc] at this
 go_enter Tryz.func115, Tryz.ntmps115
 go_wp2_with fail
 refine (HC.out _ B0).mono ?_
 rintro e w1 ⟨v, rfl, n1, g1⟩
 have B1 := via0 g1 B0
 replace P0 := P0.below g1 P0.lt
 replace R0 := R0.below g1 R0.lt
 have n2 : Qe8 (w.heap.size + 1 + 1) w1 v l := by simpa using n1
 obtain ⟨a, c, rfl⟩ : ∃ a c, v = .slice a l.length c := by obtain ⟨a, c, F, e, _⟩ := n1; exact ⟨a, c, e⟩
 have N2 := hidP n2
 obtain ⟨u0, u1, u2⟩ := P0.row3
 obtain ⟨x0, x1, x2⟩ := R0.row3
 have fp := fun i => P0.thaw i
 have fr := fun i => R0.thaw i
 have q1 := P0.lt
 have q2 := R0.lt
 clear n1 n2 g1
 go_wp2
 refine bodyPost_ret (v := .agg #[.int .i64 base, .int .i64 bt, .slice a l.length c]) (by simp [results, Tryz.results115, go_sem, *]) rfl ⟨_, rfl, ?_, ?_⟩
 . exact newSl_mono (Qc7 (Qc7 (Qc7 (Qc7 N2.out (by omega)) (by omega)) (by omega)) (by omega)) (by omega)
 . exact Qal (Qal (Qal (Qal B1 (by omega) _) (by omega) _) (by omega) _) (by omega) _
theorem l8Copy_any (base bt : Int) (A : Option Addr) (cap : Nat) (l : List En) (hl : l.length <= 3000000) (w : World) (hA : At w A l) :
 Calls Tryz.prog 106 #[.agg #[.int .i64 base, .int .i64 bt, .slice A l.length cap]] w fun e w' => ∃ v, e = .returned (.agg #[.int .i64 base, .int .i64 bt, v]) /\ w'.ownsRow (w.heap.size + 2) 130 9 v l.length (flat l) /\ Below w.heap.size w w' := by
 have B0 : Below w.heap.size w ((w.alloc (.cells #[.int .i64 base, .int .i64 bt, .slice A l.length cap] 47)).alloc (.cells #[.int .i64 0, .int .i64 0, .slice none 0 0] 47)) := Qab (Qab (Below.refl _ _) _) _
 have P0 : Blk ((w.alloc (.cells #[.int .i64 base, .int .i64 bt, .slice A l.length cap] 47)).alloc (.cells #[.int .i64 0, .int .i64 0, .slice none 0 0] 47)).drew w.heap.size 47 #[.int .i64 base, .int .i64 bt, .slice A l.length cap] := (Blk.new w 47 #[.int .i64 base, .int .i64 bt, .slice A l.length cap]).alloc _
 have R0 : Blk ((w.alloc (.cells #[.int .i64 base, .int .i64 bt, .slice A l.length cap] 47)).alloc (.cells #[.int .i64 0, .int .i64 0, .slice none 0 0] 47)).drew (w.heap.size + 1) 47 #[.int .i64 0, .int .i64 0, .slice none 0 0] := by have := Blk.new (w.alloc (.cells #[.int .i64 base, .int .i64 bt, .slice A l.length cap] 47)) 47 #[.int .i64 0, .int .i64 0, .slice none 0 0]; rwa [World.size_alloc] at this
 have P1 : Blk (((w.alloc (.cells #[.int .i64 base, .int .i64 bt, .slice A l.length cap] 47)).alloc (.cells #[.int .i64 0, .int .i64 0, .slice none 0 0] 47)).alloc (.cells #[] 130)).drew w.heap.size 47 #[.int .i64 base, .int .i64 bt, .slice A l.length cap] := P0.alloc _
 have R1 : Blk (((w.alloc (.cells #[.int .i64 base, .int .i64 bt, .slice A l.length cap] 47)).alloc (.cells #[.int .i64 0, .int .i64 0, .slice none 0 0] 47)).alloc (.cells #[] 130)).drew (w.heap.size + 1) 47 #[.int .i64 0, .int .i64 0, .slice none 0 0] := R0.alloc _
 have B1 : Below w.heap.size w (((w.alloc (.cells #[.int .i64 base, .int .i64 bt, .slice A l.length cap] 47)).alloc (.cells #[.int .i64 0, .int .i64 0, .slice none 0 0] 47)).alloc (.cells #[] 130)).drew := (Qab B0 _).drew
 have hown0 : (((w.alloc (.cells #[.int .i64 base, .int .i64 bt, .slice A l.length cap] 47)).alloc (.cells #[.int .i64 0, .int .i64 0, .slice none 0 0] 47)).alloc (.cells #[] 130)).drew.ownsRow (w.heap.size + 1 + 1) 130 9 (.slice (some ⟨w.heap.size + 1 + 1, 0, none⟩) 0 0) 0 (flat ([] : List En)) :=
  own_noneE (W := (w.alloc (.cells #[.int .i64 base, .int .i64 bt, .slice A l.length cap] 47)).alloc (.cells #[.int .i64 0, .int .i64 0, .slice none 0 0] 47)) (by simp) (by simp)
 obtain ⟨v, w2, hr, hown, hbl⟩ := copy_els (w.heap.size + 1 + 1) (.slice (some ⟨w.heap.size + 1 + 1, 0, none⟩) 0 0) l A cap l.length _ rfl (by show w.heap.size + 1 + 1 <= (((w.alloc (.cells #[.int .i64 base, .int .i64 bt, .slice A l.length cap] 47)).alloc (.cells #[.int .i64 0, .int .i64 0, .slice none 0 0] 47)).alloc (.cells #[] 130)).heap.size; simp) hown0 (fun k e => by simp [Value.ownBlock] at e; omega) (hA.below B1) hl
 have P2 := P1.below hbl (by omega)
 have R2 := R1.below hbl (by omega)
 have B2 : Below w.heap.size w w2 := B1.trans (hbl.mono (by omega))
 obtain ⟨a, c, rfl, hc⟩ := Qar hown
 have hf := Qev hown (C := w.heap.size + 1) (by omega)
 have O3 := hidP (Qav (Qav (Qav hown hf (i := 0) (u := .int .i64 base)) hf (i := 1) (u := .int .i64 bt)) hf (i := 2) (u := .slice a l.length c))
 obtain ⟨x0, x1, x2⟩ := R2.row3
 have fr := fun i => R2.thaw i
 have q2 := R2.lt
 have P3 : Blk (((w2.setCell ⟨w.heap.size + 1, 0, none⟩ (.int .i64 base)).setCell ⟨w.heap.size + 1, 1, none⟩ (.int .i64 bt)).setCell ⟨w.heap.size + 1, 2, none⟩ (.slice a l.length c)) w.heap.size 47 #[.int .i64 base, .int .i64 bt, .slice A l.length cap] := ((P2.other (by omega) _ _).other (by omega) _ _).other (by omega) _ _
 clear hA hown hown0 hbl B0 B1 R0 R1 hf hc
 go_enter Tryz.func106, Tryz.ntmps106
 go_wp2_with fail
 refine wp_region_noPanic ?_
 refine wp_region_held_drew (S := (fun (W : World) => W.cell? ⟨w.heap.size, 0, none⟩ = some (.int .i64 base) /\ W.cell? ⟨w.heap.size, 1, none⟩ = some (.int .i64 bt) /\ W.cell? ⟨w.heap.size, 2, none⟩ = some (.slice A l.length cap))) (by kernel_rfl) ?_ (fun hH => ?_)
 . exact P0.row3
 refine ztk [0,1,2,3,5,6] ?_; repeat (refine ztn (h := ?_); try simp only [zX,zY])
 refine zte ?_
 refine zR1 4 (fun K hK => ?_)
 simp only [zG]
 go_simp
 refine hK.out _ _ P1.row3 fun hH => ?_; clear hK K; try simp only [zX,zY]
 refine zR1 7 (fun K hK => ?_)
 simp only [zG]
 rw [if_pos (by rfl)]; refine Qaa _ _ _ (by rfl) _ _ _ (by rfl) (by rfl) hr ?_
 refine hK.out _ _ P2.row3 fun hH => ?_; clear hK K; try simp only [zX,zY]
 refine zt1 8 ?_; refine ztn (h := ?_); try simp only [zX,zY]
 refine zte ?_
 refine zR1 9 (fun K hK => ?_)
 simp only [zG]
 go_simp
 refine hK.out _ _ P3.row3 fun hH => ?_; clear hK K; try simp only [zX,zY]
 refine zdn ?_
 go_wp2
 refine bodyPost_ret (v := .agg #[.int .i64 base, .int .i64 bt, .slice a l.length c]) (by simp [results, Tryz.results106, go_sem, *]) rfl ⟨_, rfl, O3.out, ?_⟩
 exact Qal (Qal (Qal B2 (by omega) _) (by omega) _) (by omega) _
end Go.Proofs.YtmdaammalacifaaGreat.Gen
