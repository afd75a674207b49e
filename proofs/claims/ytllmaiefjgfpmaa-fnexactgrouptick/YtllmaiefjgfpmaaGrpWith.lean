/-
  The program's group told of its member set, at this seat. No condition but that its lists have at most 1048576 numbers.
-/
import Derived.Test.YtllmaiefjgfpmaaGrpDrop
import Derived.Test.YtllmaiefjgfpmaaGrpMark
namespace Go.Proofs.Ytllmaiefjgfpmaa.Gen
open Go.ChangeShapes Go.WideShapes Go.ChangeAt Go.RowKit Go.Joins Go.Deep Base
set_option linter.unusedVariables false
set_option linter.unusedSimpArgs false

structure Wi (w W : World) (gen : Int) (vm vb vo : Value) : Prop where
  bl : Below w.heap.size w W
  g : Blk W w.heap.size 26 #[.int .i64 gen, vm, vb, vo]
  r : Blk W (w.heap.size + 1) 26 #[.int .i64 0, .slice none 0 0, .slice none 0 0, .slice none 0 0]
theorem Wi.below {w W W' : World} {gen : Int} {vm vb vo : Value} (h : Wi w W gen vm vb vo) (k : Below W.heap.size W W') : Wi w W' gen vm vb vo := ⟨via0 k h.bl, h.g.below k h.g.lt, h.r.below k h.r.lt⟩
theorem Wi.alloc {w W : World} {gen : Int} {vm vb vo : Value} (h : Wi w W gen vm vb vo) (ob : Obj) : Wi w (W.alloc ob) gen vm vb vo := h.below (alloc0 (Below.refl _ _) _)
theorem Wi.s {w W : World} {gen : Int} {vm vb vo : Value} (h : Wi w W gen vm vb vo) : W.cell? ⟨w.heap.size, 0, none⟩ = some (.int .i64 gen) ∧ W.cell? ⟨w.heap.size, 3, none⟩ = some vo := ⟨h.g.row4.1, h.g.row4.2.2.2⟩
/-- A list of one's own lies below where the next one begins. -/
theorem owns_top {B : Nat} {W : World} {v : Value} {t : TypeId} {k n : Nat} {xs : List Value} (h : W.ownsRow B t k v n xs) : ∀ x, v.ownBlock = some x → x < W.heap.size := fun x hx => owns_lt h hx

theorem owns_ne {B : Nat} {W : World} {v : Value} {t t' : TypeId} {k n p : Nat} {xs : List Value} {vs : Array Value} (h : W.ownsRow B t k v n xs) (hp : Blk W p t' vs) (ht : t ≠ t') : ∀ x, v.ownBlock = some x → x ≠ p := by
  intro x hx e
  subst e
  rcases h.2 with ⟨rfl, rfl⟩ | ⟨g, c, cur, rfl, hB, hg, _⟩
  · cases hx
  · have : g = x := by simpa [Value.ownBlock] using hx
    subst this
    have h2 : W.heap[g]? = _ := hp
    rw [h2] at hg
    cases hg
    exact ht rfl
theorem sl_own {W : World} {a : Option Addr} {l : List Int} {F : List Nat} (h : Sl W a l F) (n c : Nat) : ∀ x ∈ F, (Value.slice a n c).ownBlock = some x := by
  rcases h with ⟨_, rfl⟩ | ⟨b, o, rfl, rfl, _⟩
  · simp
  · simp [Value.ownBlock]
theorem three_gp {Y : World} {B1 B2 B3 q p r : Nat} {a1 a2 a3 : Option Addr} {n1 n2 n3 c1 c2 c3 : Nat} {m b o : List Int} {vs ws : Array Value} (o1 : Y.ownsRow B1 3 1 (.slice a1 n1 c1) n1 (flat m)) (e1 : n1 = m.length) (o2 : Y.ownsRow B2 3 1 (.slice a2 n2 c2) n2 (flat b)) (e2 : n2 = b.length) (o3 : Y.ownsRow B3 3 1 (.slice a3 n3 c3) n3 (flat o)) (e3 : n3 = o.length)
    (h12 : ∀ x, (Value.slice a1 n1 c1).ownBlock = some x → x < B2) (h23 : ∀ x, (Value.slice a2 n2 c2).ownBlock = some x → x < B3) (h13 : ∀ x, (Value.slice a1 n1 c1).ownBlock = some x → x < B3) (k1 : q ≤ B1) (k2 : q ≤ B2) (k3 : q ≤ B3) (hp : Blk Y p 26 vs) (hr : Blk Y r 26 ws) :
    ∃ F, Gp Y a1 a2 a3 m b o F ∧ ∀ x ∈ F, q ≤ x ∧ x ≠ p ∧ x ≠ r := by
  obtain ⟨_, F1, s1, l1⟩ := Sl.of_fresh (fresh_owns_n (α := Int) e1 o1)
  obtain ⟨_, F2, s2, l2⟩ := Sl.of_fresh (fresh_owns_n (α := Int) e2 o2)
  obtain ⟨_, F3, s3, l3⟩ := Sl.of_fresh (fresh_owns_n (α := Int) e3 o3)
  have u1 := sl_own s1 n1 c1
  have u2 := sl_own s2 n2 c2
  have u3 := sl_own s3 n3 c3
  refine ⟨F1 ++ (F2 ++ F3), ⟨F1, F2, F3, rfl, s1, s2, s3, ?_⟩, ?_⟩
  · rw [List.nodup_append, List.nodup_append]
    refine ⟨s1.nodup, ⟨s2.nodup, s3.nodup, fun x hx y hy => ?_⟩, fun x hx y hy => ?_⟩
    · have := h23 x (u2 x hx); have := l3 y hy; omega
    · rcases List.mem_append.1 hy with hy | hy
      · have := h12 x (u1 x hx); have := l2 y hy; omega
      · have := h13 x (u1 x hx); have := l3 y hy; omega
  · intro x hx
    simp only [List.mem_append] at hx
    rcases hx with h | h | h
    · have := l1 x h; exact ⟨by omega, owns_ne o1 hp (by decide) x (u1 x h), owns_ne o1 hr (by decide) x (u1 x h)⟩
    · have := l2 x h; exact ⟨by omega, owns_ne o2 hp (by decide) x (u2 x h), owns_ne o2 hr (by decide) x (u2 x h)⟩
    · have := l3 x h; exact ⟨by omega, owns_ne o3 hp (by decide) x (u3 x h), owns_ne o3 hr (by decide) x (u3 x h)⟩
theorem off_realloc (w : World) (x y : Obj) : Off [w.heap.size] (w.alloc x) (w.alloc y) := ⟨rfl, rfl, rfl, by simp, fun k hk hn => by
  have hk2 : k < w.heap.size := by rw [World.size_alloc] at hk; have : k ≠ w.heap.size := by simpa using hn
                                   omega
  exact (Below.heap_alloc w y k hk2).trans (Below.heap_alloc w x k hk2).symm⟩
/-- A group is stored into a block. -/
abbrev putG (Y : World) (p : Nat) (g v1 v2 v3 : Value) : World := (((Y.setCell ⟨p, 0, none⟩ g).setCell ⟨p, 1, none⟩ v1).setCell ⟨p, 2, none⟩ v2).setCell ⟨p, 3, none⟩ v3
theorem off_putG (Y : World) (p : Nat) (g v1 v2 v3 : Value) : Off [p] Y (putG Y p g v1 v2 v3) := off_setCell (off_setCell (off_setCell (off_setCell (Off.refl _ _) p 0 _ (by simp)) p 1 _ (by simp)) p 2 _ (by simp)) p 3 _ (by simp)
theorem blk_putG {Y : World} {p : Nat} {t : TypeId} {x0 x1 x2 x3 : Value} (h : Blk Y p t #[x0, x1, x2, x3]) (g v1 v2 v3 : Value) : Blk (putG Y p g v1 v2 v3) p t #[g, v1, v2, v3] := (((h.setAt 0 g).setAt 1 v1).setAt 2 v2).setAt 3 v3
theorem Wi.off {w W W' : World} {gen : Int} {vm vb vo : Value} {p : Nat} (h : Wi w W gen vm vb vo) (k : Off [p] W W') (hp : w.heap.size + 1 < p) : Wi w W' gen vm vb vo :=
  ⟨h.bl.trans (k.toBelow (by simp; omega) h.bl.size), h.g.off k (by simp; omega), h.r.off k (by simp; omega)⟩
theorem put_wd {w Y : World} {gen : Int} {vm vb vo : Value} {b : Nat} {a1 a2 a3 : Option Addr} {m bs o : List Int} {F : List Nat} (I : Wi w Y gen vm vb vo) (bM : Blk Y b 26 #[.int .i64 0, .slice none 0 0, .slice none 0 0, .slice none 0 0]) (hG : Gp Y a1 a2 a3 m bs o F) (h0 : w.heap.size + 1 < b) (h1 : w.heap.size + 1 < b) (hF : ∀ x ∈ F, x ≠ b) (v1 v2 v3 : Value) :
    Wi w (putG Y b (.int .i64 gen) v1 v2 v3) gen vm vb vo ∧ Blk (putG Y b (.int .i64 gen) v1 v2 v3) b 26 #[.int .i64 gen, v1, v2, v3] ∧ Gp (putG Y b (.int .i64 gen) v1 v2 v3) a1 a2 a3 m bs o F :=
  ⟨I.off (off_putG _ _ _ _ _ _) h0, blk_putG bM _ _ _ _, hG.off (off_putG _ _ _ _ _ _) (fun x hx => by simpa using hF x hx)⟩

/-- A group is told, its lists in blocks of their own. -/
def ToldG (w w' : World) (e : Ending) (gen : Int) (m b o : List Int) : Prop :=
  ∃ (a1 a2 a3 : Option Addr) (c1 c2 c3 : Nat) (F : List Nat), e = .returned (.agg #[.int .i64 gen, .slice a1 m.length c1, .slice a2 b.length c2, .slice a3 o.length c3]) ∧ Below w.heap.size w w' ∧ Gp w' a1 a2 a3 m b o F ∧ ∀ x ∈ F, w.heap.size ≤ x

set_option maxRecDepth 100000 in
set_option maxHeartbeats 8000000 in
theorem with_any (gen : Int) (hg : I64 gen) (vm vb : Value) (C : Option Addr) (cc : Nat) (o : List Int) (ho : o.length ≤ 1048576) (anew : Bool) (Bs : Nat) (A AN : Option Addr) (cap capN : Nat) (L : List Mb) (N : List Int) (hl : L.length ≤ 1048576) (hN : N.length ≤ 1048576) (hf : hasFirst L) (w : World)
    (hs : Blk w Bs 84 #[.slice A L.length cap, .slice AN N.length capN]) (hA : At w A L) (hAN : At w AN N) (hC : At w C o) :
    Calls Try.prog 36 #[.agg #[.int .i64 gen, vm, vb, .slice C o.length cc], .pointer (some ⟨Bs, 0, none⟩), .bool anew] w fun e w' => ToldG w w' e (if anew then upF gen else gen) (L.map Mb.who) (beatsF L ++ N) o := by
  have HS := hidP hs
  have HA := hidP hA
  have HN := hidP hAN
  have HC := hidP hC
  have Hf := hidP hf
  clear hs hA hAN hC hf
  go_enter Try.func36, Try.ntmps36
  go_wp2_with fail
  have I : Wi w ((w.alloc (.cells #[.int .i64 gen, vm, vb, .slice C o.length cc] 26)).alloc (.cells #[.int .i64 0, .slice none 0 0, .slice none 0 0, .slice none 0 0] 26)).drew gen vm vb (.slice C o.length cc) := ⟨by repeat (first | exact Below.refl _ _ | assumption | refine via0 (by assumption) ?_ | refine Below.drew ?_ | refine alloc0 ?_ _), (Blk.new w 26 #[.int .i64 gen, vm, vb, .slice C o.length cc]).alloc _, by have := Blk.new (w.alloc (.cells #[.int .i64 gen, vm, vb, .slice C o.length cc] 26)) 26 #[.int .i64 0, .slice none 0 0, .slice none 0 0, .slice none 0 0]; rw [World.size_alloc] at this; exact this⟩
  refine wp_region_noPanic ?_
  refine wp_region_held_drew (S := fun (w' : World) => w'.cell? ⟨w.heap.size, 0, none⟩ = some (.int .i64 gen) ∧ w'.cell? ⟨w.heap.size, 3, none⟩ = some (.slice C o.length cc)) (by kernel_rfl) ?_ (fun hH => ?_)
  · exact I.s
  refine' wpAnyH_take (i := 0) (v := _) rfl (by kernel_rfl) (by kernel_rfl) (by kernel_rfl) (fun _ _ _ h => h) (Or.inl ⟨by rfl, ?hy1⟩) (by assumption) ?rest1
  case hy1 => (intro w hSw; (try dsimp only at hSw); go_simp <;> with_reducible rfl)
  try simp only [Act.put, List.setIfInBounds_toArray, List.set_cons_zero, List.set_cons_succ, List.getElem_toArray, List.getElem_cons_succ, List.getElem_cons_zero]
  refine' wpAnyH_take (i := 1) (v := _) rfl (by kernel_rfl) (by kernel_rfl) (by kernel_rfl) (fun _ _ _ h => h) (Or.inl ⟨by rfl, ?hy2⟩) (by assumption) ?rest2
  case hy2 => (intro w hSw; (try dsimp only at hSw); go_simp <;> with_reducible rfl)
  try simp only [Act.put, List.setIfInBounds_toArray, List.set_cons_zero, List.set_cons_succ, List.getElem_toArray, List.getElem_cons_succ, List.getElem_cons_zero]
  refine' wpAnyH_take (i := 2) (v := _) rfl (by kernel_rfl) (by kernel_rfl) (by kernel_rfl) (fun _ _ _ h => h) (Or.inl ⟨by rfl, ?hy3⟩) (by assumption) ?rest3
  case hy3 => (intro w hSw; (try dsimp only at hSw); go_simp <;> with_reducible rfl)
  try simp only [Act.put, List.setIfInBounds_toArray, List.set_cons_zero, List.set_cons_succ, List.getElem_toArray, List.getElem_cons_succ, List.getElem_cons_zero]
  refine' wpAnyH_take (i := 4) (v := _) rfl (by kernel_rfl) (by kernel_rfl) (by kernel_rfl) (fun _ _ _ h => h) (Or.inl ⟨by rfl, ?hy4⟩) (by assumption) ?rest4
  case hy4 => (intro w hSw; (try dsimp only at hSw); go_simp <;> with_reducible rfl)
  try simp only [Act.put, List.setIfInBounds_toArray, List.set_cons_zero, List.set_cons_succ, List.getElem_toArray, List.getElem_cons_succ, List.getElem_cons_zero]
  refine' wpAnyH_take (i := 6) (v := _) rfl (by kernel_rfl) (by kernel_rfl) (by kernel_rfl) (fun _ _ _ h => h) (Or.inl ⟨by rfl, ?hy5⟩) (by assumption) ?rest5
  case hy5 => (intro w hSw; (try dsimp only at hSw); go_simp <;> with_reducible rfl)
  try simp only [Act.put, List.setIfInBounds_toArray, List.set_cons_zero, List.set_cons_succ, List.getElem_toArray, List.getElem_cons_succ, List.getElem_cons_zero]
  refine' wpAnyH_take (i := 7) (v := _) rfl (by kernel_rfl) (by kernel_rfl) (by kernel_rfl) (fun _ _ _ h => h) (Or.inl ⟨by rfl, ?hy6⟩) (by assumption) ?rest6
  case hy6 => (intro w hSw; (try dsimp only at hSw); go_simp <;> with_reducible rfl)
  try simp only [Act.put, List.setIfInBounds_toArray, List.set_cons_zero, List.set_cons_succ, List.getElem_toArray, List.getElem_cons_succ, List.getElem_cons_zero]
  refine wpAnyH_ready (rs := [3, 10]) (by kernel_rfl) (by simp) (AllReadyH.cons rfl (fun K hK => ?_) (AllReadyH.cons rfl (fun K hK => ?_) AllReadyH.nil))
  · simp only [List.getElem_toArray, List.getElem_cons_succ, List.getElem_cons_zero]
    go_simp
    have n1 := I.bl.size; go_at_call 57; refine (clients_any Bs A cap _ L hl _ (HS.out.below I.bl HS.out.lt) (HA.out.below I.bl)).mono ?_; rintro e w1 ⟨v1, rfl, o1, g1⟩; have I := I.below g1; (try have bM := bM.below g1 bM.lt); obtain ⟨a1, c1, rfl, _⟩ := owns_form o1; have O1 := hidP o1; clear o1
    refine hK.out _ _ ?_ (fun hH => ?_)
    · exact I.s
    clear hK K
    try simp only [Act.put, List.setIfInBounds_toArray, List.set_cons_zero, List.set_cons_succ, List.getElem_toArray, List.getElem_cons_succ, List.getElem_cons_zero]
    refine wpAnyH_ready (rs := [5, 10]) (by kernel_rfl) (by simp) (AllReadyH.cons rfl (fun K hK => ?_) (AllReadyH.cons rfl (fun K hK => ?_) AllReadyH.nil))
    · simp only [List.getElem_toArray, List.getElem_cons_succ, List.getElem_cons_zero]
      go_simp
      have n2 := I.bl.size; go_at_call 58; refine (beats_any Bs A AN cap capN L N hl hN Hf.out _ (HS.out.below I.bl HS.out.lt) (HA.out.below I.bl) (HN.out.below I.bl)).mono ?_; rintro e w2 ⟨v2, rfl, o2, g2⟩; have q1 := owns_top O1.out; have I := I.below g2; (try have bM := bM.below g2 bM.lt); have O1 := hidP (owns_below O1.out g2); obtain ⟨a2, c2, rfl, _⟩ := owns_form o2; have O2 := hidP o2; clear o2
      refine hK.out _ _ ?_ (fun hH => ?_)
      · exact I.s
      clear hK K
      try simp only [Act.put, List.setIfInBounds_toArray, List.set_cons_zero, List.set_cons_succ, List.getElem_toArray, List.getElem_cons_succ, List.getElem_cons_zero]
      refine wpAnyH_ready (rs := [8, 10]) (by kernel_rfl) (by simp) (AllReadyH.cons rfl (fun K hK => ?_) (AllReadyH.cons rfl (fun K hK => ?_) AllReadyH.nil))
      · simp only [List.getElem_toArray, List.getElem_cons_succ, List.getElem_cons_zero]
        go_simp
        have n3 := I.bl.size; go_at_call 55; refine (copyOf_any C cc o ho _ (HC.out.below I.bl)).mono ?_; rintro e w3 ⟨v3, rfl, o3, g3⟩; have q2 := owns_top O2.out; have q13 := owns_top O1.out; have I := I.below g3; (try have bM := bM.below g3 bM.lt); have O1 := hidP (owns_below O1.out g3); have O2 := hidP (owns_below O2.out g3); obtain ⟨a3, c3, rfl, _⟩ := owns_form o3; have O3 := hidP o3; clear o3
        refine hK.out _ _ ?_ (fun hH => ?_)
        · exact I.s
        clear hK K
        try simp only [Act.put, List.setIfInBounds_toArray, List.set_cons_zero, List.set_cons_succ, List.getElem_toArray, List.getElem_cons_succ, List.getElem_cons_zero]
        refine' wpAnyH_take (i := 9) (v := _) rfl (by kernel_rfl) (by kernel_rfl) (by kernel_rfl) (fun _ _ _ h => h) (Or.inl ⟨by rfl, ?hy7⟩) (by assumption) ?rest7
        case hy7 => (intro w hSw; (try dsimp only at hSw); go_simp <;> with_reducible rfl)
        try simp only [Act.put, List.setIfInBounds_toArray, List.set_cons_zero, List.set_cons_succ, List.getElem_toArray, List.getElem_cons_succ, List.getElem_cons_zero]
        refine wpAnyH_ready (rs := [10]) (by kernel_rfl) (by simp) (AllReadyH.cons rfl (fun K hK => ?_) AllReadyH.nil)
        simp only [List.getElem_toArray, List.getElem_cons_succ, List.getElem_cons_zero]
        go_simp
        have I3 := I; have hP := I.r.lt; have bM := Blk.new w3 26 #[.int .i64 0, .slice none 0 0, .slice none 0 0, .slice none 0 0]; have I := I.alloc (.cells #[.int .i64 0, .slice none 0 0, .slice none 0 0, .slice none 0 0] 26); have O1 := hidP (owns_alloc O1.out (.cells #[.int .i64 0, .slice none 0 0, .slice none 0 0, .slice none 0 0] 26)); have O2 := hidP (owns_alloc O2.out (.cells #[.int .i64 0, .slice none 0 0, .slice none 0 0, .slice none 0 0] 26)); have O3 := hidP (owns_alloc O3.out (.cells #[.int .i64 0, .slice none 0 0, .slice none 0 0, .slice none 0 0] 26)); obtain ⟨m0, m1, m2, m3⟩ := bM.row4; have y0 := bM.thaw 0; have y1 := bM.thaw 1; have y2 := bM.thaw 2; have y3 := bM.thaw 3; have yl := bM.lt; obtain ⟨F, hG, hF⟩ := three_gp O1.out (by simp) O2.out rfl O3.out rfl q1 q2 q13 n1 n2 n3 bM I.r; have HG := hidP hG; have HF := hidP hF; clear hG hF
        refine hK.out _ _ ?_ (fun hH => ?_)
        · exact I.s
        clear hK K
        try simp only [Act.put, List.setIfInBounds_toArray, List.set_cons_zero, List.set_cons_succ, List.getElem_toArray, List.getElem_cons_succ, List.getElem_cons_zero]
        refine wpAnyH_ready (rs := [11]) (by kernel_rfl) (by simp) (AllReadyH.cons rfl (fun K hK => ?_) AllReadyH.nil)
        simp only [List.getElem_toArray, List.getElem_cons_succ, List.getElem_cons_zero]
        go_simp
        have hG := HG.out.off (off_realloc w3 (.cells #[.int .i64 0, .slice none 0 0, .slice none 0 0, .slice none 0 0] 26) (.cells #[.int .i64 gen, .slice a1 L.length c1, .slice a2 ((beatsF L).length + N.length) c2, .slice a3 o.length c3] 26)) (fun x hx => by simpa using (HF.out x hx).2.1); have HG := hidP hG; clear hG; have I := I3.alloc (.cells #[.int .i64 gen, .slice a1 L.length c1, .slice a2 ((beatsF L).length + N.length) c2, .slice a3 o.length c3] 26); have V := Blk.new w3 26 #[.int .i64 gen, .slice a1 L.length c1, .slice a2 ((beatsF L).length + N.length) c2, .slice a3 o.length c3]; clear bM m0 m1 m2 m3 y0 y1 y2 y3 I3 yl
        refine hK.out _ _ ?_ (fun hH => ?_)
        · exact I.s
        clear hK K
        try simp only [Act.put, List.setIfInBounds_toArray, List.set_cons_zero, List.set_cons_succ, List.getElem_toArray, List.getElem_cons_succ, List.getElem_cons_zero]
        refine wpAnyH_done (by kernel_rfl) ?_ _
        refine NoPanic.normal ?_
        have hPP : w.heap.size + 1 < w3.heap.size := by omega
        clear HS HA HN HC Hf O1 O2 O3 q1 q2 q13 n1 n2 n3
        generalize w3.alloc (.cells #[.int .i64 gen, .slice a1 L.length c1, .slice a2 ((beatsF L).length + N.length) c2, .slice a3 o.length c3] 26) = W at *
        generalize w3.heap.size = P at *
        obtain ⟨m0, m1, m2, m3⟩ := V.row4
        have y0 := V.thaw 0
        obtain ⟨g0, _, _, _⟩ := I.g.row4
        obtain ⟨r0, r1, r2, r3⟩ := I.r.row4
        have x0 := I.r.thaw 0
        have x1 := I.r.thaw 1
        have x2 := I.r.thaw 2
        have x3 := I.r.thaw 3
        have hne1 : P ≠ w.heap.size + 1 := by omega
        have hne2 : w.heap.size + 1 ≠ P := by omega
        have hne3 : w.heap.size ≠ P := by omega
        have HI := hidP I
        have HV := hidP V
        clear I V
        cases anew
        · go_wp2
          have HR := HI.out.r
          have b0 : Blk (W.setCell ⟨w.heap.size + 1, 0, none⟩ (.int .i64 gen)) (w.heap.size + 1) 26 #[.int .i64 gen, .slice none 0 0, .slice none 0 0, .slice none 0 0] := HR.setAt 0 _
          have s0 : (W.setCell ⟨w.heap.size + 1, 0, none⟩ (.int .i64 gen)).cell? ⟨w.heap.size + 1, 0, none⟩ = some (.int .i64 gen) := b0.row4.1
          have b1 : Blk ((W.setCell ⟨w.heap.size + 1, 0, none⟩ (.int .i64 gen)).setCell ⟨w.heap.size + 1, 1, none⟩ (.slice a1 L.length c1)) (w.heap.size + 1) 26 #[.int .i64 gen, .slice a1 L.length c1, .slice none 0 0, .slice none 0 0] := b0.setAt 1 _
          have s1 : ((W.setCell ⟨w.heap.size + 1, 0, none⟩ (.int .i64 gen)).setCell ⟨w.heap.size + 1, 1, none⟩ (.slice a1 L.length c1)).cell? ⟨w.heap.size + 1, 1, none⟩ = some (.slice a1 L.length c1) := b1.row4.2.1
          have b2 : Blk (((W.setCell ⟨w.heap.size + 1, 0, none⟩ (.int .i64 gen)).setCell ⟨w.heap.size + 1, 1, none⟩ (.slice a1 L.length c1)).setCell ⟨w.heap.size + 1, 2, none⟩ (.slice a2 ((beatsF L).length + N.length) c2)) (w.heap.size + 1) 26 #[.int .i64 gen, .slice a1 L.length c1, .slice a2 ((beatsF L).length + N.length) c2, .slice none 0 0] := b1.setAt 2 _
          have s2 : (((W.setCell ⟨w.heap.size + 1, 0, none⟩ (.int .i64 gen)).setCell ⟨w.heap.size + 1, 1, none⟩ (.slice a1 L.length c1)).setCell ⟨w.heap.size + 1, 2, none⟩ (.slice a2 ((beatsF L).length + N.length) c2)).cell? ⟨w.heap.size + 1, 2, none⟩ = some (.slice a2 ((beatsF L).length + N.length) c2) := b2.row4.2.2.1
          have b3 : Blk ((((W.setCell ⟨w.heap.size + 1, 0, none⟩ (.int .i64 gen)).setCell ⟨w.heap.size + 1, 1, none⟩ (.slice a1 L.length c1)).setCell ⟨w.heap.size + 1, 2, none⟩ (.slice a2 ((beatsF L).length + N.length) c2)).setCell ⟨w.heap.size + 1, 3, none⟩ (.slice a3 o.length c3)) (w.heap.size + 1) 26 #[.int .i64 gen, .slice a1 L.length c1, .slice a2 ((beatsF L).length + N.length) c2, .slice a3 o.length c3] := b2.setAt 3 _
          have s3 : ((((W.setCell ⟨w.heap.size + 1, 0, none⟩ (.int .i64 gen)).setCell ⟨w.heap.size + 1, 1, none⟩ (.slice a1 L.length c1)).setCell ⟨w.heap.size + 1, 2, none⟩ (.slice a2 ((beatsF L).length + N.length) c2)).setCell ⟨w.heap.size + 1, 3, none⟩ (.slice a3 o.length c3)).cell? ⟨w.heap.size + 1, 3, none⟩ = some (.slice a3 o.length c3) := b3.row4.2.2.2
          refine bodyPost_ret (v := .agg #[.int .i64 gen, .slice a1 L.length c1, .slice a2 ((beatsF L).length + N.length) c2, .slice a3 o.length c3]) (by simp [results, Try.results36, go_sem, s0, s1, s2, s3]) rfl ?_
          exact ⟨a1, a2, a3, c1, c2, c3, F, by simp, HI.out.bl.trans ((off_putG W (w.heap.size + 1) _ _ _ _).toBelow (by simp) HI.out.bl.size), HG.out.off (off_putG W (w.heap.size + 1) _ _ _ _) (fun x hx => by simpa using (HF.out x hx).2.2), fun x hx => (HF.out x hx).1⟩
        · go_wp2_with (go_at_call 59; refine (oneMore_any gen hg _).mono ?_; rintro e w9 ⟨rfl, h9⟩; subst w9)
          have k1 : Off [P] W (W.setCell ⟨P, 0, none⟩ (.int .i64 (upF gen))) := off_setCell (Off.refl _ _) P 0 _ (by simp)
          have J := HI.out.off k1 hPP
          have HR := J.r
          have b0 : Blk ((W.setCell ⟨P, 0, none⟩ (.int .i64 (upF gen))).setCell ⟨w.heap.size + 1, 0, none⟩ (.int .i64 (upF gen))) (w.heap.size + 1) 26 #[.int .i64 (upF gen), .slice none 0 0, .slice none 0 0, .slice none 0 0] := HR.setAt 0 _
          have s0 : ((W.setCell ⟨P, 0, none⟩ (.int .i64 (upF gen))).setCell ⟨w.heap.size + 1, 0, none⟩ (.int .i64 (upF gen))).cell? ⟨w.heap.size + 1, 0, none⟩ = some (.int .i64 (upF gen)) := b0.row4.1
          have b1 : Blk (((W.setCell ⟨P, 0, none⟩ (.int .i64 (upF gen))).setCell ⟨w.heap.size + 1, 0, none⟩ (.int .i64 (upF gen))).setCell ⟨w.heap.size + 1, 1, none⟩ (.slice a1 L.length c1)) (w.heap.size + 1) 26 #[.int .i64 (upF gen), .slice a1 L.length c1, .slice none 0 0, .slice none 0 0] := b0.setAt 1 _
          have s1 : (((W.setCell ⟨P, 0, none⟩ (.int .i64 (upF gen))).setCell ⟨w.heap.size + 1, 0, none⟩ (.int .i64 (upF gen))).setCell ⟨w.heap.size + 1, 1, none⟩ (.slice a1 L.length c1)).cell? ⟨w.heap.size + 1, 1, none⟩ = some (.slice a1 L.length c1) := b1.row4.2.1
          have b2 : Blk ((((W.setCell ⟨P, 0, none⟩ (.int .i64 (upF gen))).setCell ⟨w.heap.size + 1, 0, none⟩ (.int .i64 (upF gen))).setCell ⟨w.heap.size + 1, 1, none⟩ (.slice a1 L.length c1)).setCell ⟨w.heap.size + 1, 2, none⟩ (.slice a2 ((beatsF L).length + N.length) c2)) (w.heap.size + 1) 26 #[.int .i64 (upF gen), .slice a1 L.length c1, .slice a2 ((beatsF L).length + N.length) c2, .slice none 0 0] := b1.setAt 2 _
          have s2 : ((((W.setCell ⟨P, 0, none⟩ (.int .i64 (upF gen))).setCell ⟨w.heap.size + 1, 0, none⟩ (.int .i64 (upF gen))).setCell ⟨w.heap.size + 1, 1, none⟩ (.slice a1 L.length c1)).setCell ⟨w.heap.size + 1, 2, none⟩ (.slice a2 ((beatsF L).length + N.length) c2)).cell? ⟨w.heap.size + 1, 2, none⟩ = some (.slice a2 ((beatsF L).length + N.length) c2) := b2.row4.2.2.1
          have b3 : Blk (((((W.setCell ⟨P, 0, none⟩ (.int .i64 (upF gen))).setCell ⟨w.heap.size + 1, 0, none⟩ (.int .i64 (upF gen))).setCell ⟨w.heap.size + 1, 1, none⟩ (.slice a1 L.length c1)).setCell ⟨w.heap.size + 1, 2, none⟩ (.slice a2 ((beatsF L).length + N.length) c2)).setCell ⟨w.heap.size + 1, 3, none⟩ (.slice a3 o.length c3)) (w.heap.size + 1) 26 #[.int .i64 (upF gen), .slice a1 L.length c1, .slice a2 ((beatsF L).length + N.length) c2, .slice a3 o.length c3] := b2.setAt 3 _
          have s3 : (((((W.setCell ⟨P, 0, none⟩ (.int .i64 (upF gen))).setCell ⟨w.heap.size + 1, 0, none⟩ (.int .i64 (upF gen))).setCell ⟨w.heap.size + 1, 1, none⟩ (.slice a1 L.length c1)).setCell ⟨w.heap.size + 1, 2, none⟩ (.slice a2 ((beatsF L).length + N.length) c2)).setCell ⟨w.heap.size + 1, 3, none⟩ (.slice a3 o.length c3)).cell? ⟨w.heap.size + 1, 3, none⟩ = some (.slice a3 o.length c3) := b3.row4.2.2.2
          refine bodyPost_ret (v := .agg #[.int .i64 (upF gen), .slice a1 L.length c1, .slice a2 ((beatsF L).length + N.length) c2, .slice a3 o.length c3]) (by simp [results, Try.results36, go_sem, s0, s1, s2, s3]) rfl ?_
          exact ⟨a1, a2, a3, c1, c2, c3, F, by simp, J.bl.trans ((off_putG _ (w.heap.size + 1) _ _ _ _).toBelow (by simp) J.bl.size), (HG.out.off k1 (fun x hx => by simpa using (HF.out x hx).2.1)).off (off_putG _ (w.heap.size + 1) _ _ _ _) (fun x hx => by simpa using (HF.out x hx).2.2), fun x hx => (HF.out x hx).1⟩
      · simp only [List.getElem_toArray, List.getElem_cons_succ, List.getElem_cons_zero]
        go_simp
        have hP := I.r.lt; have bM := Blk.new w2 26 #[.int .i64 0, .slice none 0 0, .slice none 0 0, .slice none 0 0]; have I := I.alloc (.cells #[.int .i64 0, .slice none 0 0, .slice none 0 0, .slice none 0 0] 26); have O1 := hidP (owns_alloc O1.out (.cells #[.int .i64 0, .slice none 0 0, .slice none 0 0, .slice none 0 0] 26)); have O2 := hidP (owns_alloc O2.out (.cells #[.int .i64 0, .slice none 0 0, .slice none 0 0, .slice none 0 0] 26))
        refine hK.out _ _ ?_ (fun hH => ?_)
        · exact I.s
        clear hK K
        try simp only [Act.put, List.setIfInBounds_toArray, List.set_cons_zero, List.set_cons_succ, List.getElem_toArray, List.getElem_cons_succ, List.getElem_cons_zero]
        refine wpAnyH_ready (rs := [8]) (by kernel_rfl) (by simp) (AllReadyH.cons rfl (fun K hK => ?_) AllReadyH.nil)
        simp only [List.getElem_toArray, List.getElem_cons_succ, List.getElem_cons_zero]
        go_simp
        have n3 := I.bl.size; go_at_call 55; refine (copyOf_any C cc o ho _ (HC.out.below I.bl)).mono ?_; rintro e w3 ⟨v3, rfl, o3, g3⟩; have q2 := owns_top O2.out; have q13 := owns_top O1.out; have I := I.below g3; (try have bM := bM.below g3 bM.lt); have O1 := hidP (owns_below O1.out g3); have O2 := hidP (owns_below O2.out g3); obtain ⟨a3, c3, rfl, _⟩ := owns_form o3; have O3 := hidP o3; clear o3; obtain ⟨m0, m1, m2, m3⟩ := bM.row4; have y0 := bM.thaw 0; have y1 := bM.thaw 1; have y2 := bM.thaw 2; have y3 := bM.thaw 3; have yl := bM.lt; obtain ⟨F, hG, hF⟩ := three_gp O1.out (by simp) O2.out rfl O3.out rfl q1 q2 q13 n1 n2 n3 bM I.r; have HG := hidP hG; have HF := hidP hF; clear hG hF
        refine hK.out _ _ ?_ (fun hH => ?_)
        · exact I.s
        clear hK K
        try simp only [Act.put, List.setIfInBounds_toArray, List.set_cons_zero, List.set_cons_succ, List.getElem_toArray, List.getElem_cons_succ, List.getElem_cons_zero]
        refine' wpAnyH_take (i := 9) (v := _) rfl (by kernel_rfl) (by kernel_rfl) (by kernel_rfl) (fun _ _ _ h => h) (Or.inl ⟨by rfl, ?hy8⟩) (by assumption) ?rest8
        case hy8 => (intro w hSw; (try dsimp only at hSw); go_simp <;> with_reducible rfl)
        try simp only [Act.put, List.setIfInBounds_toArray, List.set_cons_zero, List.set_cons_succ, List.getElem_toArray, List.getElem_cons_succ, List.getElem_cons_zero]
        refine wpAnyH_ready (rs := [11]) (by kernel_rfl) (by simp) (AllReadyH.cons rfl (fun K hK => ?_) AllReadyH.nil)
        simp only [List.getElem_toArray, List.getElem_cons_succ, List.getElem_cons_zero]
        go_simp
        obtain ⟨I, V, hG⟩ := put_wd (b := w2.heap.size) I bM HG.out (by omega) (by omega) (fun x hx => (HF.out x hx).2.1) (.slice a1 L.length c1) (.slice a2 ((beatsF L).length + N.length) c2) (.slice a3 o.length c3); dsimp only [putG] at I V hG; have HG := hidP hG; clear hG bM m0 m1 m2 m3 y0 y1 y2 y3 yl
        refine hK.out _ _ ?_ (fun hH => ?_)
        · exact I.s
        clear hK K
        try simp only [Act.put, List.setIfInBounds_toArray, List.set_cons_zero, List.set_cons_succ, List.getElem_toArray, List.getElem_cons_succ, List.getElem_cons_zero]
        refine wpAnyH_done (by kernel_rfl) ?_ _
        refine NoPanic.normal ?_
        have hPP : w.heap.size + 1 < w2.heap.size := by omega
        clear HS HA HN HC Hf O1 O2 O3 q1 q2 q13 n1 n2 n3
        generalize (((w3.setCell ⟨w2.heap.size, 0, none⟩ (.int .i64 gen)).setCell ⟨w2.heap.size, 1, none⟩ (.slice a1 L.length c1)).setCell ⟨w2.heap.size, 2, none⟩ (.slice a2 ((beatsF L).length + N.length) c2)).setCell ⟨w2.heap.size, 3, none⟩ (.slice a3 o.length c3) = W at *
        generalize w2.heap.size = P at *
        obtain ⟨m0, m1, m2, m3⟩ := V.row4
        have y0 := V.thaw 0
        obtain ⟨g0, _, _, _⟩ := I.g.row4
        obtain ⟨r0, r1, r2, r3⟩ := I.r.row4
        have x0 := I.r.thaw 0
        have x1 := I.r.thaw 1
        have x2 := I.r.thaw 2
        have x3 := I.r.thaw 3
        have hne1 : P ≠ w.heap.size + 1 := by omega
        have hne2 : w.heap.size + 1 ≠ P := by omega
        have hne3 : w.heap.size ≠ P := by omega
        have HI := hidP I
        have HV := hidP V
        clear I V
        cases anew
        · go_wp2
          have HR := HI.out.r
          have b0 : Blk (W.setCell ⟨w.heap.size + 1, 0, none⟩ (.int .i64 gen)) (w.heap.size + 1) 26 #[.int .i64 gen, .slice none 0 0, .slice none 0 0, .slice none 0 0] := HR.setAt 0 _
          have s0 : (W.setCell ⟨w.heap.size + 1, 0, none⟩ (.int .i64 gen)).cell? ⟨w.heap.size + 1, 0, none⟩ = some (.int .i64 gen) := b0.row4.1
          have b1 : Blk ((W.setCell ⟨w.heap.size + 1, 0, none⟩ (.int .i64 gen)).setCell ⟨w.heap.size + 1, 1, none⟩ (.slice a1 L.length c1)) (w.heap.size + 1) 26 #[.int .i64 gen, .slice a1 L.length c1, .slice none 0 0, .slice none 0 0] := b0.setAt 1 _
          have s1 : ((W.setCell ⟨w.heap.size + 1, 0, none⟩ (.int .i64 gen)).setCell ⟨w.heap.size + 1, 1, none⟩ (.slice a1 L.length c1)).cell? ⟨w.heap.size + 1, 1, none⟩ = some (.slice a1 L.length c1) := b1.row4.2.1
          have b2 : Blk (((W.setCell ⟨w.heap.size + 1, 0, none⟩ (.int .i64 gen)).setCell ⟨w.heap.size + 1, 1, none⟩ (.slice a1 L.length c1)).setCell ⟨w.heap.size + 1, 2, none⟩ (.slice a2 ((beatsF L).length + N.length) c2)) (w.heap.size + 1) 26 #[.int .i64 gen, .slice a1 L.length c1, .slice a2 ((beatsF L).length + N.length) c2, .slice none 0 0] := b1.setAt 2 _
          have s2 : (((W.setCell ⟨w.heap.size + 1, 0, none⟩ (.int .i64 gen)).setCell ⟨w.heap.size + 1, 1, none⟩ (.slice a1 L.length c1)).setCell ⟨w.heap.size + 1, 2, none⟩ (.slice a2 ((beatsF L).length + N.length) c2)).cell? ⟨w.heap.size + 1, 2, none⟩ = some (.slice a2 ((beatsF L).length + N.length) c2) := b2.row4.2.2.1
          have b3 : Blk ((((W.setCell ⟨w.heap.size + 1, 0, none⟩ (.int .i64 gen)).setCell ⟨w.heap.size + 1, 1, none⟩ (.slice a1 L.length c1)).setCell ⟨w.heap.size + 1, 2, none⟩ (.slice a2 ((beatsF L).length + N.length) c2)).setCell ⟨w.heap.size + 1, 3, none⟩ (.slice a3 o.length c3)) (w.heap.size + 1) 26 #[.int .i64 gen, .slice a1 L.length c1, .slice a2 ((beatsF L).length + N.length) c2, .slice a3 o.length c3] := b2.setAt 3 _
          have s3 : ((((W.setCell ⟨w.heap.size + 1, 0, none⟩ (.int .i64 gen)).setCell ⟨w.heap.size + 1, 1, none⟩ (.slice a1 L.length c1)).setCell ⟨w.heap.size + 1, 2, none⟩ (.slice a2 ((beatsF L).length + N.length) c2)).setCell ⟨w.heap.size + 1, 3, none⟩ (.slice a3 o.length c3)).cell? ⟨w.heap.size + 1, 3, none⟩ = some (.slice a3 o.length c3) := b3.row4.2.2.2
          refine bodyPost_ret (v := .agg #[.int .i64 gen, .slice a1 L.length c1, .slice a2 ((beatsF L).length + N.length) c2, .slice a3 o.length c3]) (by simp [results, Try.results36, go_sem, s0, s1, s2, s3]) rfl ?_
          exact ⟨a1, a2, a3, c1, c2, c3, F, by simp, HI.out.bl.trans ((off_putG W (w.heap.size + 1) _ _ _ _).toBelow (by simp) HI.out.bl.size), HG.out.off (off_putG W (w.heap.size + 1) _ _ _ _) (fun x hx => by simpa using (HF.out x hx).2.2), fun x hx => (HF.out x hx).1⟩
        · go_wp2_with (go_at_call 59; refine (oneMore_any gen hg _).mono ?_; rintro e w9 ⟨rfl, h9⟩; subst w9)
          have k1 : Off [P] W (W.setCell ⟨P, 0, none⟩ (.int .i64 (upF gen))) := off_setCell (Off.refl _ _) P 0 _ (by simp)
          have J := HI.out.off k1 hPP
          have HR := J.r
          have b0 : Blk ((W.setCell ⟨P, 0, none⟩ (.int .i64 (upF gen))).setCell ⟨w.heap.size + 1, 0, none⟩ (.int .i64 (upF gen))) (w.heap.size + 1) 26 #[.int .i64 (upF gen), .slice none 0 0, .slice none 0 0, .slice none 0 0] := HR.setAt 0 _
          have s0 : ((W.setCell ⟨P, 0, none⟩ (.int .i64 (upF gen))).setCell ⟨w.heap.size + 1, 0, none⟩ (.int .i64 (upF gen))).cell? ⟨w.heap.size + 1, 0, none⟩ = some (.int .i64 (upF gen)) := b0.row4.1
          have b1 : Blk (((W.setCell ⟨P, 0, none⟩ (.int .i64 (upF gen))).setCell ⟨w.heap.size + 1, 0, none⟩ (.int .i64 (upF gen))).setCell ⟨w.heap.size + 1, 1, none⟩ (.slice a1 L.length c1)) (w.heap.size + 1) 26 #[.int .i64 (upF gen), .slice a1 L.length c1, .slice none 0 0, .slice none 0 0] := b0.setAt 1 _
          have s1 : (((W.setCell ⟨P, 0, none⟩ (.int .i64 (upF gen))).setCell ⟨w.heap.size + 1, 0, none⟩ (.int .i64 (upF gen))).setCell ⟨w.heap.size + 1, 1, none⟩ (.slice a1 L.length c1)).cell? ⟨w.heap.size + 1, 1, none⟩ = some (.slice a1 L.length c1) := b1.row4.2.1
          have b2 : Blk ((((W.setCell ⟨P, 0, none⟩ (.int .i64 (upF gen))).setCell ⟨w.heap.size + 1, 0, none⟩ (.int .i64 (upF gen))).setCell ⟨w.heap.size + 1, 1, none⟩ (.slice a1 L.length c1)).setCell ⟨w.heap.size + 1, 2, none⟩ (.slice a2 ((beatsF L).length + N.length) c2)) (w.heap.size + 1) 26 #[.int .i64 (upF gen), .slice a1 L.length c1, .slice a2 ((beatsF L).length + N.length) c2, .slice none 0 0] := b1.setAt 2 _
          have s2 : ((((W.setCell ⟨P, 0, none⟩ (.int .i64 (upF gen))).setCell ⟨w.heap.size + 1, 0, none⟩ (.int .i64 (upF gen))).setCell ⟨w.heap.size + 1, 1, none⟩ (.slice a1 L.length c1)).setCell ⟨w.heap.size + 1, 2, none⟩ (.slice a2 ((beatsF L).length + N.length) c2)).cell? ⟨w.heap.size + 1, 2, none⟩ = some (.slice a2 ((beatsF L).length + N.length) c2) := b2.row4.2.2.1
          have b3 : Blk (((((W.setCell ⟨P, 0, none⟩ (.int .i64 (upF gen))).setCell ⟨w.heap.size + 1, 0, none⟩ (.int .i64 (upF gen))).setCell ⟨w.heap.size + 1, 1, none⟩ (.slice a1 L.length c1)).setCell ⟨w.heap.size + 1, 2, none⟩ (.slice a2 ((beatsF L).length + N.length) c2)).setCell ⟨w.heap.size + 1, 3, none⟩ (.slice a3 o.length c3)) (w.heap.size + 1) 26 #[.int .i64 (upF gen), .slice a1 L.length c1, .slice a2 ((beatsF L).length + N.length) c2, .slice a3 o.length c3] := b2.setAt 3 _
          have s3 : (((((W.setCell ⟨P, 0, none⟩ (.int .i64 (upF gen))).setCell ⟨w.heap.size + 1, 0, none⟩ (.int .i64 (upF gen))).setCell ⟨w.heap.size + 1, 1, none⟩ (.slice a1 L.length c1)).setCell ⟨w.heap.size + 1, 2, none⟩ (.slice a2 ((beatsF L).length + N.length) c2)).setCell ⟨w.heap.size + 1, 3, none⟩ (.slice a3 o.length c3)).cell? ⟨w.heap.size + 1, 3, none⟩ = some (.slice a3 o.length c3) := b3.row4.2.2.2
          refine bodyPost_ret (v := .agg #[.int .i64 (upF gen), .slice a1 L.length c1, .slice a2 ((beatsF L).length + N.length) c2, .slice a3 o.length c3]) (by simp [results, Try.results36, go_sem, s0, s1, s2, s3]) rfl ?_
          exact ⟨a1, a2, a3, c1, c2, c3, F, by simp, J.bl.trans ((off_putG _ (w.heap.size + 1) _ _ _ _).toBelow (by simp) J.bl.size), (HG.out.off k1 (fun x hx => by simpa using (HF.out x hx).2.1)).off (off_putG _ (w.heap.size + 1) _ _ _ _) (fun x hx => by simpa using (HF.out x hx).2.2), fun x hx => (HF.out x hx).1⟩
    · simp only [List.getElem_toArray, List.getElem_cons_succ, List.getElem_cons_zero]
      go_simp
      have hP := I.r.lt; have bM := Blk.new w1 26 #[.int .i64 0, .slice none 0 0, .slice none 0 0, .slice none 0 0]; have I := I.alloc (.cells #[.int .i64 0, .slice none 0 0, .slice none 0 0, .slice none 0 0] 26); have O1 := hidP (owns_alloc O1.out (.cells #[.int .i64 0, .slice none 0 0, .slice none 0 0, .slice none 0 0] 26))
      refine hK.out _ _ ?_ (fun hH => ?_)
      · exact I.s
      clear hK K
      try simp only [Act.put, List.setIfInBounds_toArray, List.set_cons_zero, List.set_cons_succ, List.getElem_toArray, List.getElem_cons_succ, List.getElem_cons_zero]
      refine wpAnyH_ready (rs := [5]) (by kernel_rfl) (by simp) (AllReadyH.cons rfl (fun K hK => ?_) AllReadyH.nil)
      simp only [List.getElem_toArray, List.getElem_cons_succ, List.getElem_cons_zero]
      go_simp
      have n2 := I.bl.size; go_at_call 58; refine (beats_any Bs A AN cap capN L N hl hN Hf.out _ (HS.out.below I.bl HS.out.lt) (HA.out.below I.bl) (HN.out.below I.bl)).mono ?_; rintro e w2 ⟨v2, rfl, o2, g2⟩; have q1 := owns_top O1.out; have I := I.below g2; (try have bM := bM.below g2 bM.lt); have O1 := hidP (owns_below O1.out g2); obtain ⟨a2, c2, rfl, _⟩ := owns_form o2; have O2 := hidP o2; clear o2
      refine hK.out _ _ ?_ (fun hH => ?_)
      · exact I.s
      clear hK K
      try simp only [Act.put, List.setIfInBounds_toArray, List.set_cons_zero, List.set_cons_succ, List.getElem_toArray, List.getElem_cons_succ, List.getElem_cons_zero]
      refine wpAnyH_ready (rs := [8]) (by kernel_rfl) (by simp) (AllReadyH.cons rfl (fun K hK => ?_) AllReadyH.nil)
      simp only [List.getElem_toArray, List.getElem_cons_succ, List.getElem_cons_zero]
      go_simp
      have n3 := I.bl.size; go_at_call 55; refine (copyOf_any C cc o ho _ (HC.out.below I.bl)).mono ?_; rintro e w3 ⟨v3, rfl, o3, g3⟩; have q2 := owns_top O2.out; have q13 := owns_top O1.out; have I := I.below g3; (try have bM := bM.below g3 bM.lt); have O1 := hidP (owns_below O1.out g3); have O2 := hidP (owns_below O2.out g3); obtain ⟨a3, c3, rfl, _⟩ := owns_form o3; have O3 := hidP o3; clear o3; obtain ⟨m0, m1, m2, m3⟩ := bM.row4; have y0 := bM.thaw 0; have y1 := bM.thaw 1; have y2 := bM.thaw 2; have y3 := bM.thaw 3; have yl := bM.lt; obtain ⟨F, hG, hF⟩ := three_gp O1.out (by simp) O2.out rfl O3.out rfl q1 q2 q13 n1 n2 n3 bM I.r; have HG := hidP hG; have HF := hidP hF; clear hG hF
      refine hK.out _ _ ?_ (fun hH => ?_)
      · exact I.s
      clear hK K
      try simp only [Act.put, List.setIfInBounds_toArray, List.set_cons_zero, List.set_cons_succ, List.getElem_toArray, List.getElem_cons_succ, List.getElem_cons_zero]
      refine' wpAnyH_take (i := 9) (v := _) rfl (by kernel_rfl) (by kernel_rfl) (by kernel_rfl) (fun _ _ _ h => h) (Or.inl ⟨by rfl, ?hy9⟩) (by assumption) ?rest9
      case hy9 => (intro w hSw; (try dsimp only at hSw); go_simp <;> with_reducible rfl)
      try simp only [Act.put, List.setIfInBounds_toArray, List.set_cons_zero, List.set_cons_succ, List.getElem_toArray, List.getElem_cons_succ, List.getElem_cons_zero]
      refine wpAnyH_ready (rs := [11]) (by kernel_rfl) (by simp) (AllReadyH.cons rfl (fun K hK => ?_) AllReadyH.nil)
      simp only [List.getElem_toArray, List.getElem_cons_succ, List.getElem_cons_zero]
      go_simp
      obtain ⟨I, V, hG⟩ := put_wd (b := w1.heap.size) I bM HG.out (by omega) (by omega) (fun x hx => (HF.out x hx).2.1) (.slice a1 L.length c1) (.slice a2 ((beatsF L).length + N.length) c2) (.slice a3 o.length c3); dsimp only [putG] at I V hG; have HG := hidP hG; clear hG bM m0 m1 m2 m3 y0 y1 y2 y3 yl
      refine hK.out _ _ ?_ (fun hH => ?_)
      · exact I.s
      clear hK K
      try simp only [Act.put, List.setIfInBounds_toArray, List.set_cons_zero, List.set_cons_succ, List.getElem_toArray, List.getElem_cons_succ, List.getElem_cons_zero]
      refine wpAnyH_done (by kernel_rfl) ?_ _
      refine NoPanic.normal ?_
      have hPP : w.heap.size + 1 < w1.heap.size := by omega
      clear HS HA HN HC Hf O1 O2 O3 q1 q2 q13 n1 n2 n3
      generalize (((w3.setCell ⟨w1.heap.size, 0, none⟩ (.int .i64 gen)).setCell ⟨w1.heap.size, 1, none⟩ (.slice a1 L.length c1)).setCell ⟨w1.heap.size, 2, none⟩ (.slice a2 ((beatsF L).length + N.length) c2)).setCell ⟨w1.heap.size, 3, none⟩ (.slice a3 o.length c3) = W at *
      generalize w1.heap.size = P at *
      obtain ⟨m0, m1, m2, m3⟩ := V.row4
      have y0 := V.thaw 0
      obtain ⟨g0, _, _, _⟩ := I.g.row4
      obtain ⟨r0, r1, r2, r3⟩ := I.r.row4
      have x0 := I.r.thaw 0
      have x1 := I.r.thaw 1
      have x2 := I.r.thaw 2
      have x3 := I.r.thaw 3
      have hne1 : P ≠ w.heap.size + 1 := by omega
      have hne2 : w.heap.size + 1 ≠ P := by omega
      have hne3 : w.heap.size ≠ P := by omega
      have HI := hidP I
      have HV := hidP V
      clear I V
      cases anew
      · go_wp2
        have HR := HI.out.r
        have b0 : Blk (W.setCell ⟨w.heap.size + 1, 0, none⟩ (.int .i64 gen)) (w.heap.size + 1) 26 #[.int .i64 gen, .slice none 0 0, .slice none 0 0, .slice none 0 0] := HR.setAt 0 _
        have s0 : (W.setCell ⟨w.heap.size + 1, 0, none⟩ (.int .i64 gen)).cell? ⟨w.heap.size + 1, 0, none⟩ = some (.int .i64 gen) := b0.row4.1
        have b1 : Blk ((W.setCell ⟨w.heap.size + 1, 0, none⟩ (.int .i64 gen)).setCell ⟨w.heap.size + 1, 1, none⟩ (.slice a1 L.length c1)) (w.heap.size + 1) 26 #[.int .i64 gen, .slice a1 L.length c1, .slice none 0 0, .slice none 0 0] := b0.setAt 1 _
        have s1 : ((W.setCell ⟨w.heap.size + 1, 0, none⟩ (.int .i64 gen)).setCell ⟨w.heap.size + 1, 1, none⟩ (.slice a1 L.length c1)).cell? ⟨w.heap.size + 1, 1, none⟩ = some (.slice a1 L.length c1) := b1.row4.2.1
        have b2 : Blk (((W.setCell ⟨w.heap.size + 1, 0, none⟩ (.int .i64 gen)).setCell ⟨w.heap.size + 1, 1, none⟩ (.slice a1 L.length c1)).setCell ⟨w.heap.size + 1, 2, none⟩ (.slice a2 ((beatsF L).length + N.length) c2)) (w.heap.size + 1) 26 #[.int .i64 gen, .slice a1 L.length c1, .slice a2 ((beatsF L).length + N.length) c2, .slice none 0 0] := b1.setAt 2 _
        have s2 : (((W.setCell ⟨w.heap.size + 1, 0, none⟩ (.int .i64 gen)).setCell ⟨w.heap.size + 1, 1, none⟩ (.slice a1 L.length c1)).setCell ⟨w.heap.size + 1, 2, none⟩ (.slice a2 ((beatsF L).length + N.length) c2)).cell? ⟨w.heap.size + 1, 2, none⟩ = some (.slice a2 ((beatsF L).length + N.length) c2) := b2.row4.2.2.1
        have b3 : Blk ((((W.setCell ⟨w.heap.size + 1, 0, none⟩ (.int .i64 gen)).setCell ⟨w.heap.size + 1, 1, none⟩ (.slice a1 L.length c1)).setCell ⟨w.heap.size + 1, 2, none⟩ (.slice a2 ((beatsF L).length + N.length) c2)).setCell ⟨w.heap.size + 1, 3, none⟩ (.slice a3 o.length c3)) (w.heap.size + 1) 26 #[.int .i64 gen, .slice a1 L.length c1, .slice a2 ((beatsF L).length + N.length) c2, .slice a3 o.length c3] := b2.setAt 3 _
        have s3 : ((((W.setCell ⟨w.heap.size + 1, 0, none⟩ (.int .i64 gen)).setCell ⟨w.heap.size + 1, 1, none⟩ (.slice a1 L.length c1)).setCell ⟨w.heap.size + 1, 2, none⟩ (.slice a2 ((beatsF L).length + N.length) c2)).setCell ⟨w.heap.size + 1, 3, none⟩ (.slice a3 o.length c3)).cell? ⟨w.heap.size + 1, 3, none⟩ = some (.slice a3 o.length c3) := b3.row4.2.2.2
        refine bodyPost_ret (v := .agg #[.int .i64 gen, .slice a1 L.length c1, .slice a2 ((beatsF L).length + N.length) c2, .slice a3 o.length c3]) (by simp [results, Try.results36, go_sem, s0, s1, s2, s3]) rfl ?_
        exact ⟨a1, a2, a3, c1, c2, c3, F, by simp, HI.out.bl.trans ((off_putG W (w.heap.size + 1) _ _ _ _).toBelow (by simp) HI.out.bl.size), HG.out.off (off_putG W (w.heap.size + 1) _ _ _ _) (fun x hx => by simpa using (HF.out x hx).2.2), fun x hx => (HF.out x hx).1⟩
      · go_wp2_with (go_at_call 59; refine (oneMore_any gen hg _).mono ?_; rintro e w9 ⟨rfl, h9⟩; subst w9)
        have k1 : Off [P] W (W.setCell ⟨P, 0, none⟩ (.int .i64 (upF gen))) := off_setCell (Off.refl _ _) P 0 _ (by simp)
        have J := HI.out.off k1 hPP
        have HR := J.r
        have b0 : Blk ((W.setCell ⟨P, 0, none⟩ (.int .i64 (upF gen))).setCell ⟨w.heap.size + 1, 0, none⟩ (.int .i64 (upF gen))) (w.heap.size + 1) 26 #[.int .i64 (upF gen), .slice none 0 0, .slice none 0 0, .slice none 0 0] := HR.setAt 0 _
        have s0 : ((W.setCell ⟨P, 0, none⟩ (.int .i64 (upF gen))).setCell ⟨w.heap.size + 1, 0, none⟩ (.int .i64 (upF gen))).cell? ⟨w.heap.size + 1, 0, none⟩ = some (.int .i64 (upF gen)) := b0.row4.1
        have b1 : Blk (((W.setCell ⟨P, 0, none⟩ (.int .i64 (upF gen))).setCell ⟨w.heap.size + 1, 0, none⟩ (.int .i64 (upF gen))).setCell ⟨w.heap.size + 1, 1, none⟩ (.slice a1 L.length c1)) (w.heap.size + 1) 26 #[.int .i64 (upF gen), .slice a1 L.length c1, .slice none 0 0, .slice none 0 0] := b0.setAt 1 _
        have s1 : (((W.setCell ⟨P, 0, none⟩ (.int .i64 (upF gen))).setCell ⟨w.heap.size + 1, 0, none⟩ (.int .i64 (upF gen))).setCell ⟨w.heap.size + 1, 1, none⟩ (.slice a1 L.length c1)).cell? ⟨w.heap.size + 1, 1, none⟩ = some (.slice a1 L.length c1) := b1.row4.2.1
        have b2 : Blk ((((W.setCell ⟨P, 0, none⟩ (.int .i64 (upF gen))).setCell ⟨w.heap.size + 1, 0, none⟩ (.int .i64 (upF gen))).setCell ⟨w.heap.size + 1, 1, none⟩ (.slice a1 L.length c1)).setCell ⟨w.heap.size + 1, 2, none⟩ (.slice a2 ((beatsF L).length + N.length) c2)) (w.heap.size + 1) 26 #[.int .i64 (upF gen), .slice a1 L.length c1, .slice a2 ((beatsF L).length + N.length) c2, .slice none 0 0] := b1.setAt 2 _
        have s2 : ((((W.setCell ⟨P, 0, none⟩ (.int .i64 (upF gen))).setCell ⟨w.heap.size + 1, 0, none⟩ (.int .i64 (upF gen))).setCell ⟨w.heap.size + 1, 1, none⟩ (.slice a1 L.length c1)).setCell ⟨w.heap.size + 1, 2, none⟩ (.slice a2 ((beatsF L).length + N.length) c2)).cell? ⟨w.heap.size + 1, 2, none⟩ = some (.slice a2 ((beatsF L).length + N.length) c2) := b2.row4.2.2.1
        have b3 : Blk (((((W.setCell ⟨P, 0, none⟩ (.int .i64 (upF gen))).setCell ⟨w.heap.size + 1, 0, none⟩ (.int .i64 (upF gen))).setCell ⟨w.heap.size + 1, 1, none⟩ (.slice a1 L.length c1)).setCell ⟨w.heap.size + 1, 2, none⟩ (.slice a2 ((beatsF L).length + N.length) c2)).setCell ⟨w.heap.size + 1, 3, none⟩ (.slice a3 o.length c3)) (w.heap.size + 1) 26 #[.int .i64 (upF gen), .slice a1 L.length c1, .slice a2 ((beatsF L).length + N.length) c2, .slice a3 o.length c3] := b2.setAt 3 _
        have s3 : (((((W.setCell ⟨P, 0, none⟩ (.int .i64 (upF gen))).setCell ⟨w.heap.size + 1, 0, none⟩ (.int .i64 (upF gen))).setCell ⟨w.heap.size + 1, 1, none⟩ (.slice a1 L.length c1)).setCell ⟨w.heap.size + 1, 2, none⟩ (.slice a2 ((beatsF L).length + N.length) c2)).setCell ⟨w.heap.size + 1, 3, none⟩ (.slice a3 o.length c3)).cell? ⟨w.heap.size + 1, 3, none⟩ = some (.slice a3 o.length c3) := b3.row4.2.2.2
        refine bodyPost_ret (v := .agg #[.int .i64 (upF gen), .slice a1 L.length c1, .slice a2 ((beatsF L).length + N.length) c2, .slice a3 o.length c3]) (by simp [results, Try.results36, go_sem, s0, s1, s2, s3]) rfl ?_
        exact ⟨a1, a2, a3, c1, c2, c3, F, by simp, J.bl.trans ((off_putG _ (w.heap.size + 1) _ _ _ _).toBelow (by simp) J.bl.size), (HG.out.off k1 (fun x hx => by simpa using (HF.out x hx).2.1)).off (off_putG _ (w.heap.size + 1) _ _ _ _) (fun x hx => by simpa using (HF.out x hx).2.2), fun x hx => (HF.out x hx).1⟩
  · simp only [List.getElem_toArray, List.getElem_cons_succ, List.getElem_cons_zero]
    go_simp
    have hP := I.r.lt; have bM : Blk (((w.alloc (.cells #[.int .i64 gen, vm, vb, .slice C o.length cc] 26)).alloc (.cells #[.int .i64 0, .slice none 0 0, .slice none 0 0, .slice none 0 0] 26)).alloc (.cells #[.int .i64 0, .slice none 0 0, .slice none 0 0, .slice none 0 0] 26)).drew (w.heap.size + 1 + 1) 26 #[.int .i64 0, .slice none 0 0, .slice none 0 0, .slice none 0 0] := (by have := Blk.new ((w.alloc (.cells #[.int .i64 gen, vm, vb, .slice C o.length cc] 26)).alloc (.cells #[.int .i64 0, .slice none 0 0, .slice none 0 0, .slice none 0 0] 26)) 26 #[.int .i64 0, .slice none 0 0, .slice none 0 0, .slice none 0 0]; simp only [World.size_alloc] at this; exact this); have I := I.alloc (.cells #[.int .i64 0, .slice none 0 0, .slice none 0 0, .slice none 0 0] 26)
    refine hK.out _ _ ?_ (fun hH => ?_)
    · exact I.s
    clear hK K
    try simp only [Act.put, List.setIfInBounds_toArray, List.set_cons_zero, List.set_cons_succ, List.getElem_toArray, List.getElem_cons_succ, List.getElem_cons_zero]
    refine wpAnyH_ready (rs := [3]) (by kernel_rfl) (by simp) (AllReadyH.cons rfl (fun K hK => ?_) AllReadyH.nil)
    simp only [List.getElem_toArray, List.getElem_cons_succ, List.getElem_cons_zero]
    go_simp
    have n1 := I.bl.size; go_at_call 57; refine (clients_any Bs A cap _ L hl _ (HS.out.below I.bl HS.out.lt) (HA.out.below I.bl)).mono ?_; rintro e w1 ⟨v1, rfl, o1, g1⟩; have I := I.below g1; (try have bM := bM.below g1 bM.lt); obtain ⟨a1, c1, rfl, _⟩ := owns_form o1; have O1 := hidP o1; clear o1
    refine hK.out _ _ ?_ (fun hH => ?_)
    · exact I.s
    clear hK K
    try simp only [Act.put, List.setIfInBounds_toArray, List.set_cons_zero, List.set_cons_succ, List.getElem_toArray, List.getElem_cons_succ, List.getElem_cons_zero]
    refine wpAnyH_ready (rs := [5]) (by kernel_rfl) (by simp) (AllReadyH.cons rfl (fun K hK => ?_) AllReadyH.nil)
    simp only [List.getElem_toArray, List.getElem_cons_succ, List.getElem_cons_zero]
    go_simp
    have n2 := I.bl.size; go_at_call 58; refine (beats_any Bs A AN cap capN L N hl hN Hf.out _ (HS.out.below I.bl HS.out.lt) (HA.out.below I.bl) (HN.out.below I.bl)).mono ?_; rintro e w2 ⟨v2, rfl, o2, g2⟩; have q1 := owns_top O1.out; have I := I.below g2; (try have bM := bM.below g2 bM.lt); have O1 := hidP (owns_below O1.out g2); obtain ⟨a2, c2, rfl, _⟩ := owns_form o2; have O2 := hidP o2; clear o2
    refine hK.out _ _ ?_ (fun hH => ?_)
    · exact I.s
    clear hK K
    try simp only [Act.put, List.setIfInBounds_toArray, List.set_cons_zero, List.set_cons_succ, List.getElem_toArray, List.getElem_cons_succ, List.getElem_cons_zero]
    refine wpAnyH_ready (rs := [8]) (by kernel_rfl) (by simp) (AllReadyH.cons rfl (fun K hK => ?_) AllReadyH.nil)
    simp only [List.getElem_toArray, List.getElem_cons_succ, List.getElem_cons_zero]
    go_simp
    have n3 := I.bl.size; go_at_call 55; refine (copyOf_any C cc o ho _ (HC.out.below I.bl)).mono ?_; rintro e w3 ⟨v3, rfl, o3, g3⟩; have q2 := owns_top O2.out; have q13 := owns_top O1.out; have I := I.below g3; (try have bM := bM.below g3 bM.lt); have O1 := hidP (owns_below O1.out g3); have O2 := hidP (owns_below O2.out g3); obtain ⟨a3, c3, rfl, _⟩ := owns_form o3; have O3 := hidP o3; clear o3; obtain ⟨m0, m1, m2, m3⟩ := bM.row4; have y0 := bM.thaw 0; have y1 := bM.thaw 1; have y2 := bM.thaw 2; have y3 := bM.thaw 3; have yl := bM.lt; obtain ⟨F, hG, hF⟩ := three_gp O1.out (by simp) O2.out rfl O3.out rfl q1 q2 q13 n1 n2 n3 bM I.r; have HG := hidP hG; have HF := hidP hF; clear hG hF
    refine hK.out _ _ ?_ (fun hH => ?_)
    · exact I.s
    clear hK K
    try simp only [Act.put, List.setIfInBounds_toArray, List.set_cons_zero, List.set_cons_succ, List.getElem_toArray, List.getElem_cons_succ, List.getElem_cons_zero]
    refine' wpAnyH_take (i := 9) (v := _) rfl (by kernel_rfl) (by kernel_rfl) (by kernel_rfl) (fun _ _ _ h => h) (Or.inl ⟨by rfl, ?hy10⟩) (by assumption) ?rest10
    case hy10 => (intro w hSw; (try dsimp only at hSw); go_simp <;> with_reducible rfl)
    try simp only [Act.put, List.setIfInBounds_toArray, List.set_cons_zero, List.set_cons_succ, List.getElem_toArray, List.getElem_cons_succ, List.getElem_cons_zero]
    refine wpAnyH_ready (rs := [11]) (by kernel_rfl) (by simp) (AllReadyH.cons rfl (fun K hK => ?_) AllReadyH.nil)
    simp only [List.getElem_toArray, List.getElem_cons_succ, List.getElem_cons_zero]
    go_simp
    obtain ⟨I, V, hG⟩ := put_wd (b := w.heap.size + 1 + 1) I bM HG.out (by omega) (by omega) (fun x hx => (HF.out x hx).2.1) (.slice a1 L.length c1) (.slice a2 ((beatsF L).length + N.length) c2) (.slice a3 o.length c3); dsimp only [putG] at I V hG; have HG := hidP hG; clear hG bM m0 m1 m2 m3 y0 y1 y2 y3 yl
    refine hK.out _ _ ?_ (fun hH => ?_)
    · exact I.s
    clear hK K
    try simp only [Act.put, List.setIfInBounds_toArray, List.set_cons_zero, List.set_cons_succ, List.getElem_toArray, List.getElem_cons_succ, List.getElem_cons_zero]
    refine wpAnyH_done (by kernel_rfl) ?_ _
    refine NoPanic.normal ?_
    have hPP : w.heap.size + 1 < w.heap.size + 1 + 1 := by omega
    clear HS HA HN HC Hf O1 O2 O3 q1 q2 q13 n1 n2 n3
    generalize (((w3.setCell ⟨w.heap.size + 1 + 1, 0, none⟩ (.int .i64 gen)).setCell ⟨w.heap.size + 1 + 1, 1, none⟩ (.slice a1 L.length c1)).setCell ⟨w.heap.size + 1 + 1, 2, none⟩ (.slice a2 ((beatsF L).length + N.length) c2)).setCell ⟨w.heap.size + 1 + 1, 3, none⟩ (.slice a3 o.length c3) = W at *
    generalize w.heap.size + 1 + 1 = P at *
    obtain ⟨m0, m1, m2, m3⟩ := V.row4
    have y0 := V.thaw 0
    obtain ⟨g0, _, _, _⟩ := I.g.row4
    obtain ⟨r0, r1, r2, r3⟩ := I.r.row4
    have x0 := I.r.thaw 0
    have x1 := I.r.thaw 1
    have x2 := I.r.thaw 2
    have x3 := I.r.thaw 3
    have hne1 : P ≠ w.heap.size + 1 := by omega
    have hne2 : w.heap.size + 1 ≠ P := by omega
    have hne3 : w.heap.size ≠ P := by omega
    have HI := hidP I
    have HV := hidP V
    clear I V
    cases anew
    · go_wp2
      have HR := HI.out.r
      have b0 : Blk (W.setCell ⟨w.heap.size + 1, 0, none⟩ (.int .i64 gen)) (w.heap.size + 1) 26 #[.int .i64 gen, .slice none 0 0, .slice none 0 0, .slice none 0 0] := HR.setAt 0 _
      have s0 : (W.setCell ⟨w.heap.size + 1, 0, none⟩ (.int .i64 gen)).cell? ⟨w.heap.size + 1, 0, none⟩ = some (.int .i64 gen) := b0.row4.1
      have b1 : Blk ((W.setCell ⟨w.heap.size + 1, 0, none⟩ (.int .i64 gen)).setCell ⟨w.heap.size + 1, 1, none⟩ (.slice a1 L.length c1)) (w.heap.size + 1) 26 #[.int .i64 gen, .slice a1 L.length c1, .slice none 0 0, .slice none 0 0] := b0.setAt 1 _
      have s1 : ((W.setCell ⟨w.heap.size + 1, 0, none⟩ (.int .i64 gen)).setCell ⟨w.heap.size + 1, 1, none⟩ (.slice a1 L.length c1)).cell? ⟨w.heap.size + 1, 1, none⟩ = some (.slice a1 L.length c1) := b1.row4.2.1
      have b2 : Blk (((W.setCell ⟨w.heap.size + 1, 0, none⟩ (.int .i64 gen)).setCell ⟨w.heap.size + 1, 1, none⟩ (.slice a1 L.length c1)).setCell ⟨w.heap.size + 1, 2, none⟩ (.slice a2 ((beatsF L).length + N.length) c2)) (w.heap.size + 1) 26 #[.int .i64 gen, .slice a1 L.length c1, .slice a2 ((beatsF L).length + N.length) c2, .slice none 0 0] := b1.setAt 2 _
      have s2 : (((W.setCell ⟨w.heap.size + 1, 0, none⟩ (.int .i64 gen)).setCell ⟨w.heap.size + 1, 1, none⟩ (.slice a1 L.length c1)).setCell ⟨w.heap.size + 1, 2, none⟩ (.slice a2 ((beatsF L).length + N.length) c2)).cell? ⟨w.heap.size + 1, 2, none⟩ = some (.slice a2 ((beatsF L).length + N.length) c2) := b2.row4.2.2.1
      have b3 : Blk ((((W.setCell ⟨w.heap.size + 1, 0, none⟩ (.int .i64 gen)).setCell ⟨w.heap.size + 1, 1, none⟩ (.slice a1 L.length c1)).setCell ⟨w.heap.size + 1, 2, none⟩ (.slice a2 ((beatsF L).length + N.length) c2)).setCell ⟨w.heap.size + 1, 3, none⟩ (.slice a3 o.length c3)) (w.heap.size + 1) 26 #[.int .i64 gen, .slice a1 L.length c1, .slice a2 ((beatsF L).length + N.length) c2, .slice a3 o.length c3] := b2.setAt 3 _
      have s3 : ((((W.setCell ⟨w.heap.size + 1, 0, none⟩ (.int .i64 gen)).setCell ⟨w.heap.size + 1, 1, none⟩ (.slice a1 L.length c1)).setCell ⟨w.heap.size + 1, 2, none⟩ (.slice a2 ((beatsF L).length + N.length) c2)).setCell ⟨w.heap.size + 1, 3, none⟩ (.slice a3 o.length c3)).cell? ⟨w.heap.size + 1, 3, none⟩ = some (.slice a3 o.length c3) := b3.row4.2.2.2
      refine bodyPost_ret (v := .agg #[.int .i64 gen, .slice a1 L.length c1, .slice a2 ((beatsF L).length + N.length) c2, .slice a3 o.length c3]) (by simp [results, Try.results36, go_sem, s0, s1, s2, s3]) rfl ?_
      exact ⟨a1, a2, a3, c1, c2, c3, F, by simp, HI.out.bl.trans ((off_putG W (w.heap.size + 1) _ _ _ _).toBelow (by simp) HI.out.bl.size), HG.out.off (off_putG W (w.heap.size + 1) _ _ _ _) (fun x hx => by simpa using (HF.out x hx).2.2), fun x hx => (HF.out x hx).1⟩
    · go_wp2_with (go_at_call 59; refine (oneMore_any gen hg _).mono ?_; rintro e w9 ⟨rfl, h9⟩; subst w9)
      have k1 : Off [P] W (W.setCell ⟨P, 0, none⟩ (.int .i64 (upF gen))) := off_setCell (Off.refl _ _) P 0 _ (by simp)
      have J := HI.out.off k1 hPP
      have HR := J.r
      have b0 : Blk ((W.setCell ⟨P, 0, none⟩ (.int .i64 (upF gen))).setCell ⟨w.heap.size + 1, 0, none⟩ (.int .i64 (upF gen))) (w.heap.size + 1) 26 #[.int .i64 (upF gen), .slice none 0 0, .slice none 0 0, .slice none 0 0] := HR.setAt 0 _
      have s0 : ((W.setCell ⟨P, 0, none⟩ (.int .i64 (upF gen))).setCell ⟨w.heap.size + 1, 0, none⟩ (.int .i64 (upF gen))).cell? ⟨w.heap.size + 1, 0, none⟩ = some (.int .i64 (upF gen)) := b0.row4.1
      have b1 : Blk (((W.setCell ⟨P, 0, none⟩ (.int .i64 (upF gen))).setCell ⟨w.heap.size + 1, 0, none⟩ (.int .i64 (upF gen))).setCell ⟨w.heap.size + 1, 1, none⟩ (.slice a1 L.length c1)) (w.heap.size + 1) 26 #[.int .i64 (upF gen), .slice a1 L.length c1, .slice none 0 0, .slice none 0 0] := b0.setAt 1 _
      have s1 : (((W.setCell ⟨P, 0, none⟩ (.int .i64 (upF gen))).setCell ⟨w.heap.size + 1, 0, none⟩ (.int .i64 (upF gen))).setCell ⟨w.heap.size + 1, 1, none⟩ (.slice a1 L.length c1)).cell? ⟨w.heap.size + 1, 1, none⟩ = some (.slice a1 L.length c1) := b1.row4.2.1
      have b2 : Blk ((((W.setCell ⟨P, 0, none⟩ (.int .i64 (upF gen))).setCell ⟨w.heap.size + 1, 0, none⟩ (.int .i64 (upF gen))).setCell ⟨w.heap.size + 1, 1, none⟩ (.slice a1 L.length c1)).setCell ⟨w.heap.size + 1, 2, none⟩ (.slice a2 ((beatsF L).length + N.length) c2)) (w.heap.size + 1) 26 #[.int .i64 (upF gen), .slice a1 L.length c1, .slice a2 ((beatsF L).length + N.length) c2, .slice none 0 0] := b1.setAt 2 _
      have s2 : ((((W.setCell ⟨P, 0, none⟩ (.int .i64 (upF gen))).setCell ⟨w.heap.size + 1, 0, none⟩ (.int .i64 (upF gen))).setCell ⟨w.heap.size + 1, 1, none⟩ (.slice a1 L.length c1)).setCell ⟨w.heap.size + 1, 2, none⟩ (.slice a2 ((beatsF L).length + N.length) c2)).cell? ⟨w.heap.size + 1, 2, none⟩ = some (.slice a2 ((beatsF L).length + N.length) c2) := b2.row4.2.2.1
      have b3 : Blk (((((W.setCell ⟨P, 0, none⟩ (.int .i64 (upF gen))).setCell ⟨w.heap.size + 1, 0, none⟩ (.int .i64 (upF gen))).setCell ⟨w.heap.size + 1, 1, none⟩ (.slice a1 L.length c1)).setCell ⟨w.heap.size + 1, 2, none⟩ (.slice a2 ((beatsF L).length + N.length) c2)).setCell ⟨w.heap.size + 1, 3, none⟩ (.slice a3 o.length c3)) (w.heap.size + 1) 26 #[.int .i64 (upF gen), .slice a1 L.length c1, .slice a2 ((beatsF L).length + N.length) c2, .slice a3 o.length c3] := b2.setAt 3 _
      have s3 : (((((W.setCell ⟨P, 0, none⟩ (.int .i64 (upF gen))).setCell ⟨w.heap.size + 1, 0, none⟩ (.int .i64 (upF gen))).setCell ⟨w.heap.size + 1, 1, none⟩ (.slice a1 L.length c1)).setCell ⟨w.heap.size + 1, 2, none⟩ (.slice a2 ((beatsF L).length + N.length) c2)).setCell ⟨w.heap.size + 1, 3, none⟩ (.slice a3 o.length c3)).cell? ⟨w.heap.size + 1, 3, none⟩ = some (.slice a3 o.length c3) := b3.row4.2.2.2
      refine bodyPost_ret (v := .agg #[.int .i64 (upF gen), .slice a1 L.length c1, .slice a2 ((beatsF L).length + N.length) c2, .slice a3 o.length c3]) (by simp [results, Try.results36, go_sem, s0, s1, s2, s3]) rfl ?_
      exact ⟨a1, a2, a3, c1, c2, c3, F, by simp, J.bl.trans ((off_putG _ (w.heap.size + 1) _ _ _ _).toBelow (by simp) J.bl.size), (HG.out.off k1 (fun x hx => by simpa using (HF.out x hx).2.1)).off (off_putG _ (w.heap.size + 1) _ _ _ _) (fun x hx => by simpa using (HF.out x hx).2.2), fun x hx => (HF.out x hx).1⟩
end Go.Proofs.Ytllmaiefjgfpmaa.Gen
