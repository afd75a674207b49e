/-
  The program's rowOf.packed at this seat.
-/
import Derived.Test.YtnmbbkagjpmhdaaPackLast
import Derived.Test.YtnmbbkagjpmhdaaLengths
import Derived.Test.YtnmbbkagjpmhdaaOwns
import Derived.Test.YtnmbbkagjpmhdaaCopies
namespace Go.Proofs.Ytnmbbkagjpmhdaa.Items
open Go.ChangeShapes Go.WideShapes Go.ChangeAt Go.RowKit Go.Shelf Base
open Gen (region_round round_taken round_next round_next2 round_done hidP)
set_option linter.unusedVariables false
set_option linter.unusedSimpArgs false
attribute [local go_sem] Oper.semAt_some

theorem wpListIn_append_is {F : Fence} {m : Nat} {P : Program} {w w' : World} {ops : Array Oper} {rest : List Oper} {o : Oper} {a : Act} {Q : Exit → Act → World → Prop} (hgd : o.guard = none) (s x : Operand) (t : TypeId)
    (ho : o.op = .call { callee := .builtin .append, args := #[s, x], argTypes := #[t, t] }) (v xv r : Value) (hs : a.eval s = v) (hx : a.eval x = xv)
    (hr : (Builtin.append_ #[t, t] o.type #[v, xv]).run P w = .ok r w') (h : wpListIn F m P ops Q rest (a.put o.dst r) w') : wpListIn F m P ops Q (o :: rest) a w := by
  refine wpListIn_plain hgd fun K hK => ?_
  unfold Oper.wpIn
  refine ⟨by simp [Oper.about, ho, resolve, Target.leads, Sem.run_pure], ?_⟩
  rw [Oper.semAt_plain F _ _ (by rw [ho]; intro c hc'; cases hc')]
  simp [execOp, ho, resolve, invoke, builtin, hs, hx, hr, Result.andThen]
  exact hK _ _ h
theorem map_below {W W' : World} {b n : Nat} {D : DataW Unit} (h : W.ownsMap Try.prog 9 (plainElem (H := Unit) Try.prog 3) b n D) (g : Below W.heap.size W W') : W'.ownsMap Try.prog 9 (plainElem (H := Unit) Try.prog 3) b n D := by
  have hlt := h.lt
  obtain ⟨es, clock, hb, F, hs, hD⟩ := h
  exact ⟨es, clock, (g.block b hlt).trans hb, F, hs, hD⟩
theorem map_set {W : World} {b n C i : Nat} {u : Value} {D : DataW Unit} (h : W.ownsMap Try.prog 9 (plainElem (H := Unit) Try.prog 3) b n D) (hne : b ≠ C) : (W.setCell ⟨C, i, none⟩ u).ownsMap Try.prog 9 (plainElem (H := Unit) Try.prog 3) b n D := by
  obtain ⟨es, clock, hb, F, hs, hD⟩ := h
  exact ⟨es, clock, (Below.heap_setCell W ⟨C, i, none⟩ u b hne).trans hb, F, hs, hD⟩
theorem owns_abides {B C : Nat} {v : Value} {t : TypeId} {k n : Nat} {xs : List Value} {X Y : World} {row : Option Nat} (h : X.ownsRow C t k v n xs) (hg : X.grownBy Y row) (hr : ∀ r, row = some r → B ≤ r ∧ ∃ o : Obj, X.heap[r]? = some o ∧ o.isCells = false) : Y.ownsRow C t k v n xs := by
  refine ⟨h.1, ?_⟩
  rcases h.2 with ⟨rfl, rfl⟩ | ⟨g, c, cur, rfl, hB, hb, hc, hm, hsz, ht⟩
  · exact .inl ⟨rfl, rfl⟩
  · exact .inr ⟨g, c, cur, rfl, hB, blk_abides (show Blk X g t cur from hb) hg hr, hc, hm, hsz, ht⟩
theorem owns_cells {B : Nat} {W : World} {v : Value} {t : TypeId} {k n : Nat} {xs : List Value} (h : W.ownsRow B t k v n xs) (j : Nat) (o : Obj) (e : v.ownBlock = some j) (ho : W.heap[j]? = some o) : o.isCells = true := by
  rcases h.2 with ⟨rfl, rfl⟩ | ⟨g, c, cur, rfl, hB, hb, _⟩
  · cases e
  · have : g = j := by simpa [Value.ownBlock] using e
    subst this
    rw [hb] at ho
    cases ho
    rfl

/-- What a round of packed finds, and leaves: K is kept so far. -/
structure Pk (w : World) (start next length : Int) (A : Option Addr) (cap : Nat) (l : List It) (s1 : Nat) (v : Value) (K : List It) (W : World) : Prop where
  kept : Blk W (s1 + 1) 24 #[v]
  own : W.ownsRow (s1 + 3) 34 5 v K.length (flat K)
  map : W.ownsMap Try.prog 9 (plainElem (H := Unit) Try.prog 3) (w.heap.size + 1 + 1 + 1 + 1) l.length (lastD l)
  bm : Blk W s1 94 #[.map (some (w.heap.size + 1 + 1 + 1 + 1))]
  row : Blk W w.heap.size 63 #[.int .i64 start, .int .i64 next, .slice A l.length cap]
  len : Blk W (w.heap.size + 1) 3 #[.int .i64 length]
  res : Blk W (w.heap.size + 1 + 1) 63 #[.int .i64 0, .int .i64 0, .slice none 0 0]
  sz : s1 + 3 ≤ W.heap.size
  lo : w.heap.size + 5 ≤ s1
  bel : Below w.heap.size w W
section
variable {w W W' : World} {start next length : Int} {A : Option Addr} {cap : Nat} {l K : List It} {s1 : Nat} {v : Value}
theorem Pk.below (h : Pk w start next length A cap l s1 v K W) (g : Below W.heap.size W W') : Pk w start next length A cap l s1 v K W' :=
  ⟨h.kept.below g h.kept.lt, owns_below h.own g, map_below h.map g, h.bm.below g h.bm.lt, h.row.below g h.row.lt, h.len.below g h.len.lt, h.res.below g h.res.lt, Nat.le_trans h.sz g.size, h.lo, h.bel.trans (g.mono h.bel.size)⟩
theorem Pk.alloc (h : Pk w start next length A cap l s1 v K W) (o : Obj) : Pk w start next length A cap l s1 v K (W.alloc o) := h.below ((Below.refl _ W).alloc (Nat.le_refl _) o)
theorem Pk.drew (h : Pk w start next length A cap l s1 v K W) : Pk w start next length A cap l s1 v K W.drew := h.below (Below.drew (Below.refl _ W))
/-- An item is kept. -/
theorem Pk.add {a a' : Option Addr} {c c' : Nat} (h : Pk w start next length A cap l s1 (.slice a K.length c) K W) (y : It) (hg : W.grownBy W' (Value.slice a K.length c).ownBlock)
    (hown : W'.ownsRow (s1 + 3) 34 5 (.slice a' (K.length + 1) c') (K.length + 1) (flat (K ++ [y]))) (hat : (Value.slice a' (K.length + 1) c').ownBlock = (Value.slice a K.length c).ownBlock ∨ (Value.slice a' (K.length + 1) c').ownBlock = some W.heap.size) :
    Pk w start next length A cap l s1 (.slice a' (K.length + 1) c') (K ++ [y]) (W'.setCell ⟨s1 + 1, 0, none⟩ (.slice a' (K.length + 1) c')) ∧ Blk W' (s1 + 1) 24 #[.slice a K.length c] ∧ KeepsOthers W (W'.setCell ⟨s1 + 1, 0, none⟩ (.slice a' (K.length + 1) c')) ∧ Below w.heap.size W (W'.setCell ⟨s1 + 1, 0, none⟩ (.slice a' (K.length + 1) c')) := by
  have lo := h.lo
  have sz := h.sz
  have far : ∀ b, b < s1 + 3 → some b ≠ (Value.slice a K.length c).ownBlock := fun b hb => Gen.owns_far h.own hb
  have farK : some (s1 + 1) ≠ (Value.slice a' (K.length + 1) c').ownBlock := by
    rcases hat with e | e
    · rw [e]; exact far _ (by omega)
    · rw [e]; intro q; have := Option.some.inj q; omega
  have eK := h.kept.kept hg (far _ (by omega))
  have el : (K ++ [y]).length = K.length + 1 := by simp
  have hb : ∀ V, Below w.heap.size V W → w.heap.size ≤ V.heap.size → Below w.heap.size V W' := fun V hV hs => hV.grown hg (by have := hV.size; omega) (fun k e => Nat.le_of_not_lt fun q => far k (by omega) e.symm)
  refine ⟨⟨eK.setAt 0 _, ?_, map_set (h.map.kept hg (far _ (by omega))) (by omega), (h.bm.kept hg (far _ (by omega))).other (by omega) _ _, (h.row.kept hg (far _ (by omega))).other (by omega) _ _, (h.len.kept hg (far _ (by omega))).other (by omega) _ _, (h.res.kept hg (far _ (by omega))).other (by omega) _ _, by simp; have := hg.size; omega, lo, bl_set (hb w h.bel (Nat.le_refl _)) (by omega) _⟩, eK,
    ko_set (KeepsOthers.of_grownBy hg (fun j o e ho => owns_cells h.own j o e ho)) _ _, bl_set (hb W (Below.refl _ _) (by omega)) (by omega) _⟩
  rw [el]
  exact Gen.owns_set hown farK
theorem Pk.abides {B : Nat} {row : Option Nat} {X Y : World} (h : Pk w start next length A cap l s1 v K X) (hB : s1 + 3 ≤ B) (hg : X.grownBy Y row) (hr : ∀ r, row = some r → B ≤ r ∧ ∃ o : Obj, X.heap[r]? = some o ∧ o.isCells = false) : Pk w start next length A cap l s1 v K Y :=
  ⟨blk_abides h.kept hg hr, owns_abides h.own hg hr, h.map.kept hg (fun e => by have := (hr _ e.symm).1; have := h.lo; omega), blk_abides h.bm hg hr, blk_abides h.row hg hr, blk_abides h.len hg hr, blk_abides h.res hg hr, Nat.le_trans h.sz hg.size, h.lo,
    ownFrom_below (β := Unit) (Nat.le_refl _) (by have := h.lo; omega) () X Y row h.bel hg hr⟩
end

set_option maxRecDepth 100000 in
set_option maxHeartbeats 1500000 in
theorem packed_any (start next length : Int) (hlen : 1 ≤ length) (A : Option Addr) (cap : Nat) (l : List It) (hl : l.length ≤ 1048576) (hr : ∀ x ∈ l, x.key.size ≤ 9223372036854775807 ∧ (Lit.int .i64 x.off).wf = true) (w : World) (hA : l = [] ∨ ∃ b o, A = some ⟨b, o, none⟩ ∧ b < w.heap.size ∧ In w b o l) :
    Calls Try.prog 50 #[.agg #[.int .i64 start, .int .i64 next, .slice A l.length cap], .int .i64 length] w fun e w' => ∃ v, e = .returned (.agg #[.int .i64 start, .int .i64 next, v]) ∧ w'.ownsRow w.heap.size 34 5 v (l.filter (keepB (IntKind.i64.wrap (next - 1)) length l)).length (flat (l.filter (keepB (IntKind.i64.wrap (next - 1)) length l))) ∧ Below w.heap.size w w' := by
  refine (callsIn_wide (n := 9)).1 ?_
  refine callsIn_of_wp_marks Try.func50 rfl trivial ?_ rfl
  simp only [Try.ntmps50]
  simp only [List.size_toArray, List.length_cons, List.length_nil, Nat.reduceAdd, Nat.reduceSub, Array.replicate_succ, Array.replicate_zero, List.push_toArray, List.append_toArray, List.nil_append, List.cons_append]
  have HA : Hid (∀ W : World, Below w.heap.size w W → l = [] ∨ ∃ b o, A = some ⟨b, o, none⟩ ∧ b < w.heap.size ∧ In W b o l) := fun W hW => hA.imp id fun ⟨b, o, e, hb, hi⟩ => ⟨b, o, e, hb, hi.below hb hW⟩
  have Hr := hidP hr
  clear hA hr
  gi_wp2_with fail
  refine ⟨trivial, (callsIn_wide.2 (lastNumbers_any start next A cap l hl Hr.out _ ((HA.out _ (by repeat (first | exact Below.refl _ _ | refine alloc0 ?_ _))).imp id fun ⟨b, o, e, hb, hi⟩ => ⟨b, o, e, by simp; omega, hi⟩))).mono ?_⟩
  rintro e w1 ⟨rfl, hown, g1⟩
  have B1 : Below w.heap.size w w1 := via0 g1 (by repeat (first | exact Below.refl _ _ | refine alloc0 ?_ _))
  have r0 : Blk w1 w.heap.size 63 #[.int .i64 start, .int .i64 next, .slice A l.length cap] := (((Blk.new w 63 #[.int .i64 start, .int .i64 next, .slice A l.length cap]).alloc _).alloc _).below g1 (by simp; omega)
  have r1 : Blk w1 (w.heap.size + 1) 3 #[.int .i64 length] := by
    have := ((Blk.new (w.alloc (.cells #[.int .i64 start, .int .i64 next, .slice A l.length cap] 63)) 3 #[.int .i64 length]).alloc (.cells #[.int .i64 0, .int .i64 0, .slice none 0 0] 63)).below g1 (by simp)
    simpa using this
  have r2 : Blk w1 (w.heap.size + 1 + 1) 63 #[.int .i64 0, .int .i64 0, .slice none 0 0] := by
    have := (Blk.new ((w.alloc (.cells #[.int .i64 start, .int .i64 next, .slice A l.length cap] 63)).alloc (.cells #[.int .i64 length] 3)) 63 #[.int .i64 0, .int .i64 0, .slice none 0 0]).below g1 (by simp)
    simpa using this
  simp only [World.size_alloc] at hown ⊢
  have hs1 : w.heap.size + 5 ≤ w1.heap.size := by have := hown.lt; omega
  have HO := hidP hown
  have HB1 := hidP B1
  clear hown B1 g1
  obtain ⟨u0, u1, u2⟩ := r0.row
  have q0 := r0.lt
  gi_wp2_with (refine ⟨trivial, ?_⟩; gi_at_call 59; refine (told_in Fence.wide _ trivial rfl _ _ _ _ _ _).mono ?_; rintro e w' ⟨rfl, rfl⟩)
  have b2 := (Blk.new (w1.alloc (.cells #[.map (some (w.heap.size + 1 + 1 + 1 + 1))] 94)) 24 #[.slice none 0 0]).alloc (.cells #[.int .i64 start, .int .i64 next, .slice A l.length cap] 63)
  have b3 := Blk.new ((w1.alloc (.cells #[.map (some (w.heap.size + 1 + 1 + 1 + 1))] 94)).alloc (.cells #[.slice none 0 0] 24)) 63 #[.int .i64 start, .int .i64 next, .slice A l.length cap]
  have bm := ((Blk.new w1 94 #[.map (some (w.heap.size + 1 + 1 + 1 + 1))]).alloc (.cells #[.slice none 0 0] 24)).alloc (.cells #[.int .i64 start, .int .i64 next, .slice A l.length cap] 63)
  have PK0 : Pk w start next length A cap l w1.heap.size (.slice none 0 0) [] (((w1.alloc (.cells #[.map (some (w.heap.size + 1 + 1 + 1 + 1))] 94)).alloc (.cells #[.slice none 0 0] 24)).alloc (.cells #[.int .i64 start, .int .i64 next, .slice A l.length cap] 63)) :=
    ⟨by simpa using b2, World.ownsRow_nil _ _ _ _, ((HO.out.alloc _).alloc _).alloc _, bm, ((r0.alloc _).alloc _).alloc _, ((r1.alloc _).alloc _).alloc _, ((r2.alloc _).alloc _).alloc _, by simp, hs1, alloc0 (alloc0 (alloc0 HB1.out _) _) _⟩
  have hsz : (((w1.alloc (.cells #[.map (some (w.heap.size + 1 + 1 + 1 + 1))] 94)).alloc (.cells #[.slice none 0 0] 24)).alloc (.cells #[.int .i64 start, .int .i64 next, .slice A l.length cap] 63)).heap.size = w1.heap.size + 3 := by simp
  simp only [World.size_alloc] at b3
  clear b2 bm r0 r1 r2 u0 u1 u2 HO HB1 q0
  generalize (((w1.alloc (.cells #[.map (some (w.heap.size + 1 + 1 + 1 + 1))] 94)).alloc (.cells #[.slice none 0 0] 24)).alloc (.cells #[.int .i64 start, .int .i64 next, .slice A l.length cap] 63)) = W0 at *
  try simp only [World.size_alloc]
  generalize hS1 : w1.heap.size = s1 at *
  have HP0 := hidP PK0
  clear PK0
  refine wpIn_rangeFunc_ownH rfl (by omega) (gf := 72) (lb := #[.pointer (some ⟨s1 + 1 + 1, 0, none⟩)]) rfl trivial (enters_of Try.func72 (by kernel_rfl) rfl)
    (told_stops Fence.wide _ trivial rfl (by omega) (s1 + 1 + 1) w.heap.size cap A l (by omega) W0 (by omega) (by omega) (b3.cell rfl) (HA.out _ HP0.out.bel)) belowK_t (belowK_b (by omega)) (Below.refl _ _) (fun _ => rfl)
    (fun pre W => ∃ v, Pk w start next length A cap l s1 v ((vals pre).filter (keepB (IntKind.i64.wrap (next - 1)) length l)) W)
    (fun _ _ _ => False)
    (fun s X Y row hs hg hr => by obtain ⟨v, hp⟩ := hs; exact ⟨v, hp.abides (by omega) hg hr⟩)
    (fun c s X Y row hs hg hr => hs.elim)
    ⟨_, HP0.out⟩
    (fun x a' W => ∃ Bx, s1 + 1 + 1 < Bx ∧ Blk W Bx 34 #[.int .i64 x.1.off, .string x.1.key, .string x.1.text, .int .i64 x.1.who, .int .i64 x.1.time] ∧ a' = { tmps := #[.agg #[.int .i64 start, .int .i64 next, .slice A l.length cap], .int .i64 length, .pointer (some ⟨w.heap.size, 0, none⟩), .pointer (some ⟨w.heap.size + 1, 0, none⟩), .pointer (some ⟨w.heap.size + 1 + 1, 0, none⟩), .pointer (some ⟨s1, 0, none⟩), .pointer (some ⟨s1 + 1, 0, none⟩), .pointer (some ⟨Bx, 0, none⟩), .agg #[.int .i64 start, .int .i64 next, .slice A l.length cap], .map (some (w.heap.size + 1 + 1 + 1 + 1)), .agg #[.int .i64 start, .int .i64 next, .slice A l.length cap], .func (.func 72) #[] #[.pointer (some ⟨s1 + 1 + 1, 0, none⟩)], x.1.v, undef, undef, undef, undef, undef, undef, undef, undef, undef, undef, undef, undef, undef, undef, undef, undef, undef, undef, undef, undef, undef, undef, undef, undef, undef, undef, undef, undef], defers := [] })
    (fun x a' _ X Y row hs hg hr => by obtain ⟨Bx, h1, h2, h3⟩ := hs; exact ⟨Bx, h1, blk_abides h2 hg hr, h3⟩)
    ?assign ?body ?done ?stop
  case assign =>
    rintro l' pre x W K ⟨v, hp⟩ hK
    dsimp only [It.v] at hK ⊢
    have h1 := hp.sz
    have h2 := hp.lo
    gi_wp2
    exact hK _ _ ((KeepsOthers.alloc _ _).from _) ((Below.refl _ W).alloc (by omega) _) ⟨v, hp.alloc _⟩ ⟨W.heap.size, by omega, Blk.new W _ _, rfl⟩
  case body =>
    rintro l' pre x a0 W hl' hr' ⟨v, hp⟩ ⟨Bx, hBx, bX, rfl⟩ hlt
    have hKl : ((vals pre).filter (keepB (IntKind.i64.wrap (next - 1)) length l)).length ≤ 1048576 := by
      have h1 : ((vals pre).filter (keepB (IntKind.i64.wrap (next - 1)) length l)).length ≤ (vals pre).length := List.length_filter_le _ _
      have h2 : (vals pre).length = pre.length := by simp [vals]
      omega
    generalize hKK : (vals pre).filter (keepB (IntKind.i64.wrap (next - 1)) length l) = K at *
    have HKK := hidP hKK
    clear hKK
    obtain ⟨a, c, rfl, _⟩ := owns_form hp.own
    have Hp := hidP hp
    have hsz1 := hp.sz
    have hlo := hp.lo
    clear hp
    have hm := name_of x.1
    have hm2 := number_of x.1
    have hmx : Try.prog.follows .mixedOrders = true := by kernel_rfl
    have hd : 1 ≤ 9 - 1 - 1 := by omega
    have hkey := WideMaps.keyOf_string_mk (P := Try.prog) Try.underlying9 (s := x.1.key) (by unfold maxLen; have := (Hr.out x.1 x.2).1; omega)
    have SP : Hid (∀ (W' : World) (v' : Value) (K' : List It), Pk w start next length A cap l s1 v' K' W' → Blk W' Bx 34 #[.int .i64 x.1.off, .string x.1.key, .string x.1.text, .int .i64 x.1.who, .int .i64 x.1.time] → (fun (w' : World) => w'.cell? ⟨s1, 0, none⟩ = some (.map (some (w.heap.size + 1 + 1 + 1 + 1))) ∧ (w'.cell? ⟨w.heap.size, 0, none⟩ = some (.int .i64 start) ∧ w'.cell? ⟨w.heap.size, 1, none⟩ = some (.int .i64 next) ∧ w'.cell? ⟨w.heap.size, 2, none⟩ = some (.slice A l.length cap)) ∧ w'.cell? ⟨w.heap.size + 1, 0, none⟩ = some (.int .i64 length) ∧ (w'.cell? ⟨Bx, 0, none⟩ = some (.int .i64 x.1.off) ∧ w'.cell? ⟨Bx, 1, none⟩ = some (.string x.1.key) ∧ w'.cell? ⟨Bx, 2, none⟩ = some (.string x.1.text) ∧ w'.cell? ⟨Bx, 3, none⟩ = some (.int .i64 x.1.who) ∧ w'.cell? ⟨Bx, 4, none⟩ = some (.int .i64 x.1.time)) ∧ (Instr.lookup 94 (.map (some (w.heap.size + 1 + 1 + 1 + 1))) (.string x.1.key) false).run Try.prog w' = .ok (.int .i64 (lastOff l x.1.key.toList)) w') W') := fun W' v' K' hq hx => by
      obtain ⟨c', hrun, hat, _⟩ := hq.map.lookup_int (Maps.string_keyed Try.underlying9) Try.underlying94 Try.underlying3 (Try.zeroValue3 _) hkey
      rw [lastD_at, ← toList_data] at hat
      have : lastOff l x.1.key.toList = c' := by simpa using hat
      subst this
      exact ⟨hq.bm.one.1, hq.row.row, hq.len.one.1, hx.item, hrun⟩
    clear hkey
    dsimp only [It.v]
    gi_wp2
    cases hE : x.1.key.toList.isEmpty
    · have he : Hid (x.1.key.toList.isEmpty = false) := hE
      cases hQ : (x.1.off == lastOff l x.1.key.toList)
      · have hq : Hid ((x.1.off == lastOff l x.1.key.toList) = false) := hQ
        cases hI : (dv x.1.off length == dv (IntKind.i64.wrap (next - 1)) length)
        · have hiu : Hid ((dv x.1.off length == dv (IntKind.i64.wrap (next - 1)) length) = false) := hI
          have HF : Hid (keepB (IntKind.i64.wrap (next - 1)) length l x.1 = false) := by show _ = _; unfold keepB; rw [hQ, hI]; simpa using hE
          clear hE hQ hI
          refine region_round 21 (fun (w' : World) => w'.cell? ⟨s1, 0, none⟩ = some (.map (some (w.heap.size + 1 + 1 + 1 + 1))) ∧ (w'.cell? ⟨w.heap.size, 0, none⟩ = some (.int .i64 start) ∧ w'.cell? ⟨w.heap.size, 1, none⟩ = some (.int .i64 next) ∧ w'.cell? ⟨w.heap.size, 2, none⟩ = some (.slice A l.length cap)) ∧ w'.cell? ⟨w.heap.size + 1, 0, none⟩ = some (.int .i64 length) ∧ (w'.cell? ⟨Bx, 0, none⟩ = some (.int .i64 x.1.off) ∧ w'.cell? ⟨Bx, 1, none⟩ = some (.string x.1.key) ∧ w'.cell? ⟨Bx, 2, none⟩ = some (.string x.1.text) ∧ w'.cell? ⟨Bx, 3, none⟩ = some (.int .i64 x.1.who) ∧ w'.cell? ⟨Bx, 4, none⟩ = some (.int .i64 x.1.time)) ∧ (Instr.lookup 94 (.map (some (w.heap.size + 1 + 1 + 1 + 1))) (.string x.1.key) false).run Try.prog w' = .ok (.int .i64 (lastOff l x.1.key.toList)) w') (by assumption) ?_
          have hH : (fun (w' : World) => w'.cell? ⟨s1, 0, none⟩ = some (.map (some (w.heap.size + 1 + 1 + 1 + 1))) ∧ (w'.cell? ⟨w.heap.size, 0, none⟩ = some (.int .i64 start) ∧ w'.cell? ⟨w.heap.size, 1, none⟩ = some (.int .i64 next) ∧ w'.cell? ⟨w.heap.size, 2, none⟩ = some (.slice A l.length cap)) ∧ w'.cell? ⟨w.heap.size + 1, 0, none⟩ = some (.int .i64 length) ∧ (w'.cell? ⟨Bx, 0, none⟩ = some (.int .i64 x.1.off) ∧ w'.cell? ⟨Bx, 1, none⟩ = some (.string x.1.key) ∧ w'.cell? ⟨Bx, 2, none⟩ = some (.string x.1.text) ∧ w'.cell? ⟨Bx, 3, none⟩ = some (.int .i64 x.1.who) ∧ w'.cell? ⟨Bx, 4, none⟩ = some (.int .i64 x.1.time)) ∧ (Instr.lookup 94 (.map (some (w.heap.size + 1 + 1 + 1 + 1))) (.string x.1.key) false).run Try.prog w' = .ok (.int .i64 (lastOff l x.1.key.toList)) w') _ := SP.out _ _ _ Hp.out.drew bX.drew
          refine' round_taken (i := 0) (v := _) (by kernel_rfl) (by kernel_rfl) rfl (by kernel_rfl) (by decide) (by kernel_rfl) (by kernel_rfl) (fun _ _ _ h => h) (Or.inl ⟨by rfl, ?hy1⟩) (fun _ => rfl) (by assumption) ?rest1
          case hy1 => (intro w hSw; (try dsimp only at hSw); go_simp <;> with_reducible rfl)
          try simp only [Act.put, List.setIfInBounds_toArray, List.set_cons_zero, List.set_cons_succ, List.getElem_toArray, List.getElem_cons_succ, List.getElem_cons_zero]
          refine' round_taken (i := 1) (v := _) (by kernel_rfl) (by kernel_rfl) rfl (by kernel_rfl) (by decide) (by kernel_rfl) (by kernel_rfl) (fun _ _ _ h => h) (Or.inl ⟨by rfl, ?hy2⟩) (fun _ => rfl) (by assumption) ?rest2
          case hy2 => (intro w hSw; (try dsimp only at hSw); go_simp <;> with_reducible rfl)
          try simp only [Act.put, List.setIfInBounds_toArray, List.set_cons_zero, List.set_cons_succ, List.getElem_toArray, List.getElem_cons_succ, List.getElem_cons_zero]
          refine round_next (i := 2) (by kernel_rfl) rfl (fun K hK => ?_)
          simp only [List.getElem_toArray, List.getElem_cons_succ, List.getElem_cons_zero]
          (go_simp; gi_wp2_with (refine ⟨trivial, ?_⟩; gi_at_call 91; refine (CallsIn.inRound l' (callsIn_wide.2 (name_any x.1 _))).mono ?_; rintro e w' ⟨rfl, rfl⟩))
          have hH := (SP.out _ _ _ (Hp.out.alloc (.cells #[.int .i64 x.1.off, .string x.1.key, .string x.1.text, .int .i64 x.1.who, .int .i64 x.1.time] 34)).drew (bX.alloc (.cells #[.int .i64 x.1.off, .string x.1.key, .string x.1.text, .int .i64 x.1.who, .int .i64 x.1.time] 34)).drew)
          refine hK.out _ _ (.inr hH) ?_
          clear hK K
          try simp only [Act.put, List.setIfInBounds_toArray, List.set_cons_zero, List.set_cons_succ, List.getElem_toArray, List.getElem_cons_succ, List.getElem_cons_zero]
          refine' round_taken (i := 3) (v := _) (by kernel_rfl) (by kernel_rfl) rfl (by kernel_rfl) (by decide) (by kernel_rfl) (by kernel_rfl) (fun _ _ _ h => h) (Or.inl ⟨by rfl, ?hy3⟩) (fun _ => rfl) (by assumption) ?rest3
          case hy3 => (intro w hSw; (try dsimp only at hSw); go_simp <;> ((try rw [he.out]) <;> with_reducible rfl))
          try simp only [Act.put, List.setIfInBounds_toArray, List.set_cons_zero, List.set_cons_succ, List.getElem_toArray, List.getElem_cons_succ, List.getElem_cons_zero]
          refine' round_taken (i := 4) (v := _) (by kernel_rfl) (by kernel_rfl) rfl (by kernel_rfl) (by decide) (by kernel_rfl) (by kernel_rfl) (fun _ _ _ h => h) (Or.inl ⟨by rfl, ?hy4⟩) (fun _ => rfl) (by assumption) ?rest4
          case hy4 => (intro w hSw; (try dsimp only at hSw); go_simp <;> with_reducible rfl)
          try simp only [Act.put, List.setIfInBounds_toArray, List.set_cons_zero, List.set_cons_succ, List.getElem_toArray, List.getElem_cons_succ, List.getElem_cons_zero]
          refine' round_taken (i := 5) (v := _) (by kernel_rfl) (by kernel_rfl) rfl (by kernel_rfl) (by decide) (by kernel_rfl) (by kernel_rfl) (fun _ _ _ h => h) (Or.inl ⟨by rfl, ?hy5⟩) (fun _ => rfl) (by assumption) ?rest5
          case hy5 => (intro w hSw; (try dsimp only at hSw); go_simp <;> with_reducible rfl)
          try simp only [Act.put, List.setIfInBounds_toArray, List.set_cons_zero, List.set_cons_succ, List.getElem_toArray, List.getElem_cons_succ, List.getElem_cons_zero]
          refine' round_taken (i := 8) (v := _) (by kernel_rfl) (by kernel_rfl) rfl (by kernel_rfl) (by decide) (by kernel_rfl) (by kernel_rfl) (fun _ _ _ h => h) (Or.inl ⟨by rfl, ?hy6⟩) (fun _ => rfl) (by assumption) ?rest6
          case hy6 => (intro w hSw; (try dsimp only at hSw); go_simp <;> with_reducible rfl)
          try simp only [Act.put, List.setIfInBounds_toArray, List.set_cons_zero, List.set_cons_succ, List.getElem_toArray, List.getElem_cons_succ, List.getElem_cons_zero]
          refine' round_taken (i := 9) (v := _) (by kernel_rfl) (by kernel_rfl) rfl (by kernel_rfl) (by decide) (by kernel_rfl) (by kernel_rfl) (fun _ _ _ h => h) (Or.inl ⟨by rfl, ?hy7⟩) (fun _ => rfl) (by assumption) ?rest7
          case hy7 => (intro w hSw; (try dsimp only at hSw); go_simp <;> with_reducible rfl)
          try simp only [Act.put, List.setIfInBounds_toArray, List.set_cons_zero, List.set_cons_succ, List.getElem_toArray, List.getElem_cons_succ, List.getElem_cons_zero]
          refine' round_taken (i := 6) (v := _) (by kernel_rfl) (by kernel_rfl) rfl (by kernel_rfl) (by decide) (by kernel_rfl) (by kernel_rfl) (fun _ _ _ h => h) (Or.inl ⟨by rfl, ?hy8⟩) (fun _ => rfl) (by assumption) ?rest8
          case hy8 => (intro w hSw; (try dsimp only at hSw); go_simp <;> with_reducible rfl)
          try simp only [Act.put, List.setIfInBounds_toArray, List.set_cons_zero, List.set_cons_succ, List.getElem_toArray, List.getElem_cons_succ, List.getElem_cons_zero]
          refine' round_taken (i := 10) (v := _) (by kernel_rfl) (by kernel_rfl) rfl (by kernel_rfl) (by decide) (by kernel_rfl) (by kernel_rfl) (fun _ _ _ h => h) (Or.inl ⟨by rfl, ?hy9⟩) (fun _ => rfl) (by assumption) ?rest9
          case hy9 => (intro w hSw; (try dsimp only at hSw); go_simp <;> with_reducible rfl)
          try simp only [Act.put, List.setIfInBounds_toArray, List.set_cons_zero, List.set_cons_succ, List.getElem_toArray, List.getElem_cons_succ, List.getElem_cons_zero]
          refine round_next (i := 7) (by kernel_rfl) rfl (fun K hK => ?_)
          simp only [List.getElem_toArray, List.getElem_cons_succ, List.getElem_cons_zero]
          (go_simp; gi_wp2_with (refine ⟨trivial, ?_⟩; gi_at_call 92; refine (CallsIn.inRound l' (callsIn_wide.2 (number_any x.1 _))).mono ?_; rintro e w' ⟨rfl, rfl⟩))
          have hH := (SP.out _ _ _ ((Hp.out.alloc (.cells #[.int .i64 x.1.off, .string x.1.key, .string x.1.text, .int .i64 x.1.who, .int .i64 x.1.time] 34)).alloc (.cells #[.int .i64 x.1.off, .string x.1.key, .string x.1.text, .int .i64 x.1.who, .int .i64 x.1.time] 34)).drew ((bX.alloc (.cells #[.int .i64 x.1.off, .string x.1.key, .string x.1.text, .int .i64 x.1.who, .int .i64 x.1.time] 34)).alloc (.cells #[.int .i64 x.1.off, .string x.1.key, .string x.1.text, .int .i64 x.1.who, .int .i64 x.1.time] 34)).drew)
          refine hK.out _ _ (.inr hH) ?_
          clear hK K
          try simp only [Act.put, List.setIfInBounds_toArray, List.set_cons_zero, List.set_cons_succ, List.getElem_toArray, List.getElem_cons_succ, List.getElem_cons_zero]
          refine round_next (i := 11) (by kernel_rfl) rfl (fun K hK => ?_)
          simp only [List.getElem_toArray, List.getElem_cons_succ, List.getElem_cons_zero]
          (go_simp; gi_wp2_with (refine ⟨trivial, ?_⟩; gi_at_call 91; refine (CallsIn.inRound l' (callsIn_wide.2 (name_any x.1 _))).mono ?_; rintro e w' ⟨rfl, rfl⟩))
          have hH := (SP.out _ _ _ (((Hp.out.alloc (.cells #[.int .i64 x.1.off, .string x.1.key, .string x.1.text, .int .i64 x.1.who, .int .i64 x.1.time] 34)).alloc (.cells #[.int .i64 x.1.off, .string x.1.key, .string x.1.text, .int .i64 x.1.who, .int .i64 x.1.time] 34)).alloc (.cells #[.int .i64 x.1.off, .string x.1.key, .string x.1.text, .int .i64 x.1.who, .int .i64 x.1.time] 34)).drew (((bX.alloc (.cells #[.int .i64 x.1.off, .string x.1.key, .string x.1.text, .int .i64 x.1.who, .int .i64 x.1.time] 34)).alloc (.cells #[.int .i64 x.1.off, .string x.1.key, .string x.1.text, .int .i64 x.1.who, .int .i64 x.1.time] 34)).alloc (.cells #[.int .i64 x.1.off, .string x.1.key, .string x.1.text, .int .i64 x.1.who, .int .i64 x.1.time] 34)).drew)
          refine hK.out _ _ (.inr hH) ?_
          clear hK K
          try simp only [Act.put, List.setIfInBounds_toArray, List.set_cons_zero, List.set_cons_succ, List.getElem_toArray, List.getElem_cons_succ, List.getElem_cons_zero]
          refine' round_taken (i := 12) (v := _) (by kernel_rfl) (by kernel_rfl) rfl (by kernel_rfl) (by decide) (by kernel_rfl) (by kernel_rfl) (fun _ _ _ h => h) (Or.inl ⟨by rfl, ?hy10⟩) (fun _ => rfl) (by assumption) ?rest10
          case hy10 => (intro w hSw; (try dsimp only at hSw); go_simp <;> with_reducible rfl)
          try simp only [Act.put, List.setIfInBounds_toArray, List.set_cons_zero, List.set_cons_succ, List.getElem_toArray, List.getElem_cons_succ, List.getElem_cons_zero]
          refine' round_taken (i := 13) (v := _) (by kernel_rfl) (by kernel_rfl) rfl (by kernel_rfl) (by decide) (by kernel_rfl) (by kernel_rfl) (fun _ _ _ h => h) (Or.inl ⟨by rfl, ?hy11⟩) (fun _ => rfl) (by assumption) ?rest11
          case hy11 => (intro w hSw; (try dsimp only at hSw); go_simp <;> ((try rw [hq.out]) <;> with_reducible rfl))
          try simp only [Act.put, List.setIfInBounds_toArray, List.set_cons_zero, List.set_cons_succ, List.getElem_toArray, List.getElem_cons_succ, List.getElem_cons_zero]
          refine' round_taken (i := 14) (v := _) (by kernel_rfl) (by kernel_rfl) rfl (by kernel_rfl) (by decide) (by kernel_rfl) (by kernel_rfl) (fun _ _ _ h => h) (Or.inl ⟨by rfl, ?hy12⟩) (fun _ => rfl) (by assumption) ?rest12
          case hy12 => (intro w hSw; (try dsimp only at hSw); go_simp <;> with_reducible rfl)
          try simp only [Act.put, List.setIfInBounds_toArray, List.set_cons_zero, List.set_cons_succ, List.getElem_toArray, List.getElem_cons_succ, List.getElem_cons_zero]
          refine' round_taken (i := 15) (v := _) (by kernel_rfl) (by kernel_rfl) rfl (by kernel_rfl) (by decide) (by kernel_rfl) (by kernel_rfl) (fun _ _ _ h => h) (Or.inl ⟨by rfl, ?hy13⟩) (fun _ => rfl) (by assumption) ?rest13
          case hy13 => (intro w hSw; (try dsimp only at hSw); go_simp <;> with_reducible rfl)
          try simp only [Act.put, List.setIfInBounds_toArray, List.set_cons_zero, List.set_cons_succ, List.getElem_toArray, List.getElem_cons_succ, List.getElem_cons_zero]
          refine' round_taken (i := 16) (v := _) (by kernel_rfl) (by kernel_rfl) rfl (by kernel_rfl) (by decide) (by kernel_rfl) (by kernel_rfl) (fun _ _ _ h => h) (Or.inl ⟨by rfl, ?hy14⟩) (fun _ => rfl) (by assumption) ?rest14
          case hy14 => (intro w hSw; (try dsimp only at hSw); go_simp <;> with_reducible rfl)
          try simp only [Act.put, List.setIfInBounds_toArray, List.set_cons_zero, List.set_cons_succ, List.getElem_toArray, List.getElem_cons_succ, List.getElem_cons_zero]
          refine' round_taken (i := 17) (v := _) (by kernel_rfl) (by kernel_rfl) rfl (by kernel_rfl) (by decide) (by kernel_rfl) (by kernel_rfl) (fun _ _ _ h => h) (Or.inl ⟨by rfl, ?hy15⟩) (fun _ => rfl) (by assumption) ?rest15
          case hy15 => (intro w hSw; (try dsimp only at hSw); go_simp <;> with_reducible rfl)
          try simp only [Act.put, List.setIfInBounds_toArray, List.set_cons_zero, List.set_cons_succ, List.getElem_toArray, List.getElem_cons_succ, List.getElem_cons_zero]
          refine' round_taken (i := 18) (v := _) (by kernel_rfl) (by kernel_rfl) rfl (by kernel_rfl) (by decide) (by kernel_rfl) (by kernel_rfl) (fun _ _ _ h => h) (Or.inl ⟨by rfl, ?hy16⟩) (fun _ => rfl) (by assumption) ?rest16
          case hy16 => (intro w hSw; (try dsimp only at hSw); go_simp <;> with_reducible rfl)
          try simp only [Act.put, List.setIfInBounds_toArray, List.set_cons_zero, List.set_cons_succ, List.getElem_toArray, List.getElem_cons_succ, List.getElem_cons_zero]
          refine round_next (i := 19) (by kernel_rfl) rfl (fun K hK => ?_)
          simp only [List.getElem_toArray, List.getElem_cons_succ, List.getElem_cons_zero]
          (go_simp; gi_wp2_with (refine ⟨trivial, ?_⟩; gi_at_call 63; refine (CallsIn.inRound l' (callsIn_wide.2 (inUse_any start next length hlen A l.length cap x.1 _))).mono ?_; rw [hiu.out]; rintro e w7 ⟨rfl, g7⟩; have HP7 := hidP ((((Hp.out.alloc (.cells #[.int .i64 x.1.off, .string x.1.key, .string x.1.text, .int .i64 x.1.who, .int .i64 x.1.time] 34)).alloc (.cells #[.int .i64 x.1.off, .string x.1.key, .string x.1.text, .int .i64 x.1.who, .int .i64 x.1.time] 34)).alloc (.cells #[.int .i64 x.1.off, .string x.1.key, .string x.1.text, .int .i64 x.1.who, .int .i64 x.1.time] 34)).drew.below g7); have bX7 := (((bX.alloc (.cells #[.int .i64 x.1.off, .string x.1.key, .string x.1.text, .int .i64 x.1.who, .int .i64 x.1.time] 34)).alloc (.cells #[.int .i64 x.1.off, .string x.1.key, .string x.1.text, .int .i64 x.1.who, .int .i64 x.1.time] 34)).alloc (.cells #[.int .i64 x.1.off, .string x.1.key, .string x.1.text, .int .i64 x.1.who, .int .i64 x.1.time] 34)).drew.below g7 (((bX.alloc (.cells #[.int .i64 x.1.off, .string x.1.key, .string x.1.text, .int .i64 x.1.who, .int .i64 x.1.time] 34)).alloc (.cells #[.int .i64 x.1.off, .string x.1.key, .string x.1.text, .int .i64 x.1.who, .int .i64 x.1.time] 34)).alloc (.cells #[.int .i64 x.1.off, .string x.1.key, .string x.1.text, .int .i64 x.1.who, .int .i64 x.1.time] 34)).drew.lt; have HK7 := hidP (ko_below (ko_drew (ko_alloc (ko_alloc (ko_alloc (KeepsOthers.refl W) (.cells #[.int .i64 x.1.off, .string x.1.key, .string x.1.text, .int .i64 x.1.who, .int .i64 x.1.time] 34)) (.cells #[.int .i64 x.1.off, .string x.1.key, .string x.1.text, .int .i64 x.1.who, .int .i64 x.1.time] 34)) (.cells #[.int .i64 x.1.off, .string x.1.key, .string x.1.text, .int .i64 x.1.who, .int .i64 x.1.time] 34))) g7); have HB7 := hidP (Below.trans (Below.drew (bl_alloc (by omega) (bl_alloc (by omega) (bl_alloc (by omega) (Below.refl w.heap.size W) (.cells #[.int .i64 x.1.off, .string x.1.key, .string x.1.text, .int .i64 x.1.who, .int .i64 x.1.time] 34)) (.cells #[.int .i64 x.1.off, .string x.1.key, .string x.1.text, .int .i64 x.1.who, .int .i64 x.1.time] 34)) (.cells #[.int .i64 x.1.off, .string x.1.key, .string x.1.text, .int .i64 x.1.who, .int .i64 x.1.time] 34))) (g7.mono (by show w.heap.size ≤ _; simp; omega))); clear g7))
          have hH := (SP.out _ _ _ HP7.out bX7)
          refine hK.out _ _ (.inr hH) ?_
          clear hK K
          try simp only [Act.put, List.setIfInBounds_toArray, List.set_cons_zero, List.set_cons_succ, List.getElem_toArray, List.getElem_cons_succ, List.getElem_cons_zero]
          refine' round_taken (i := 20) (v := _) (by kernel_rfl) (by kernel_rfl) rfl (by kernel_rfl) (by decide) (by kernel_rfl) (by kernel_rfl) (fun _ _ _ h => h) (Or.inl ⟨by rfl, ?hy17⟩) (fun _ => rfl) (by assumption) ?rest17
          case hy17 => (intro w hSw; (try dsimp only at hSw); go_simp <;> with_reducible rfl)
          try simp only [Act.put, List.setIfInBounds_toArray, List.set_cons_zero, List.set_cons_succ, List.getElem_toArray, List.getElem_cons_succ, List.getElem_cons_zero]
          refine round_done (by kernel_rfl) ?_ _
          have hvs : vals (pre ++ [x]) = vals pre ++ [x.1] := vals_snoc _ _
          gi_wp2
          refine ⟨HK7.out.from _, HB7.out, .slice a K.length c, ?_⟩
          rw [hvs, List.filter_append, HKK.out]
          have : [x.1].filter (keepB (IntKind.i64.wrap (next - 1)) length l) = [] := by simp [HF.out]
          rw [this, List.append_nil]
          exact HP7.out
        · have hiu : Hid ((dv x.1.off length == dv (IntKind.i64.wrap (next - 1)) length) = true) := hI
          have HF : Hid (keepB (IntKind.i64.wrap (next - 1)) length l x.1 = true) := by show _ = _; unfold keepB; rw [hI]; simp
          clear hE hQ hI
          refine region_round 21 (fun (w' : World) => w'.cell? ⟨s1, 0, none⟩ = some (.map (some (w.heap.size + 1 + 1 + 1 + 1))) ∧ (w'.cell? ⟨w.heap.size, 0, none⟩ = some (.int .i64 start) ∧ w'.cell? ⟨w.heap.size, 1, none⟩ = some (.int .i64 next) ∧ w'.cell? ⟨w.heap.size, 2, none⟩ = some (.slice A l.length cap)) ∧ w'.cell? ⟨w.heap.size + 1, 0, none⟩ = some (.int .i64 length) ∧ (w'.cell? ⟨Bx, 0, none⟩ = some (.int .i64 x.1.off) ∧ w'.cell? ⟨Bx, 1, none⟩ = some (.string x.1.key) ∧ w'.cell? ⟨Bx, 2, none⟩ = some (.string x.1.text) ∧ w'.cell? ⟨Bx, 3, none⟩ = some (.int .i64 x.1.who) ∧ w'.cell? ⟨Bx, 4, none⟩ = some (.int .i64 x.1.time)) ∧ (Instr.lookup 94 (.map (some (w.heap.size + 1 + 1 + 1 + 1))) (.string x.1.key) false).run Try.prog w' = .ok (.int .i64 (lastOff l x.1.key.toList)) w') (by assumption) ?_
          have hH : (fun (w' : World) => w'.cell? ⟨s1, 0, none⟩ = some (.map (some (w.heap.size + 1 + 1 + 1 + 1))) ∧ (w'.cell? ⟨w.heap.size, 0, none⟩ = some (.int .i64 start) ∧ w'.cell? ⟨w.heap.size, 1, none⟩ = some (.int .i64 next) ∧ w'.cell? ⟨w.heap.size, 2, none⟩ = some (.slice A l.length cap)) ∧ w'.cell? ⟨w.heap.size + 1, 0, none⟩ = some (.int .i64 length) ∧ (w'.cell? ⟨Bx, 0, none⟩ = some (.int .i64 x.1.off) ∧ w'.cell? ⟨Bx, 1, none⟩ = some (.string x.1.key) ∧ w'.cell? ⟨Bx, 2, none⟩ = some (.string x.1.text) ∧ w'.cell? ⟨Bx, 3, none⟩ = some (.int .i64 x.1.who) ∧ w'.cell? ⟨Bx, 4, none⟩ = some (.int .i64 x.1.time)) ∧ (Instr.lookup 94 (.map (some (w.heap.size + 1 + 1 + 1 + 1))) (.string x.1.key) false).run Try.prog w' = .ok (.int .i64 (lastOff l x.1.key.toList)) w') _ := SP.out _ _ _ Hp.out.drew bX.drew
          refine' round_taken (i := 0) (v := _) (by kernel_rfl) (by kernel_rfl) rfl (by kernel_rfl) (by decide) (by kernel_rfl) (by kernel_rfl) (fun _ _ _ h => h) (Or.inl ⟨by rfl, ?hy18⟩) (fun _ => rfl) (by assumption) ?rest18
          case hy18 => (intro w hSw; (try dsimp only at hSw); go_simp <;> with_reducible rfl)
          try simp only [Act.put, List.setIfInBounds_toArray, List.set_cons_zero, List.set_cons_succ, List.getElem_toArray, List.getElem_cons_succ, List.getElem_cons_zero]
          refine' round_taken (i := 1) (v := _) (by kernel_rfl) (by kernel_rfl) rfl (by kernel_rfl) (by decide) (by kernel_rfl) (by kernel_rfl) (fun _ _ _ h => h) (Or.inl ⟨by rfl, ?hy19⟩) (fun _ => rfl) (by assumption) ?rest19
          case hy19 => (intro w hSw; (try dsimp only at hSw); go_simp <;> with_reducible rfl)
          try simp only [Act.put, List.setIfInBounds_toArray, List.set_cons_zero, List.set_cons_succ, List.getElem_toArray, List.getElem_cons_succ, List.getElem_cons_zero]
          refine round_next (i := 2) (by kernel_rfl) rfl (fun K hK => ?_)
          simp only [List.getElem_toArray, List.getElem_cons_succ, List.getElem_cons_zero]
          (go_simp; gi_wp2_with (refine ⟨trivial, ?_⟩; gi_at_call 91; refine (CallsIn.inRound l' (callsIn_wide.2 (name_any x.1 _))).mono ?_; rintro e w' ⟨rfl, rfl⟩))
          have hH := (SP.out _ _ _ (Hp.out.alloc (.cells #[.int .i64 x.1.off, .string x.1.key, .string x.1.text, .int .i64 x.1.who, .int .i64 x.1.time] 34)).drew (bX.alloc (.cells #[.int .i64 x.1.off, .string x.1.key, .string x.1.text, .int .i64 x.1.who, .int .i64 x.1.time] 34)).drew)
          refine hK.out _ _ (.inr hH) ?_
          clear hK K
          try simp only [Act.put, List.setIfInBounds_toArray, List.set_cons_zero, List.set_cons_succ, List.getElem_toArray, List.getElem_cons_succ, List.getElem_cons_zero]
          refine' round_taken (i := 3) (v := _) (by kernel_rfl) (by kernel_rfl) rfl (by kernel_rfl) (by decide) (by kernel_rfl) (by kernel_rfl) (fun _ _ _ h => h) (Or.inl ⟨by rfl, ?hy20⟩) (fun _ => rfl) (by assumption) ?rest20
          case hy20 => (intro w hSw; (try dsimp only at hSw); go_simp <;> ((try rw [he.out]) <;> with_reducible rfl))
          try simp only [Act.put, List.setIfInBounds_toArray, List.set_cons_zero, List.set_cons_succ, List.getElem_toArray, List.getElem_cons_succ, List.getElem_cons_zero]
          refine' round_taken (i := 4) (v := _) (by kernel_rfl) (by kernel_rfl) rfl (by kernel_rfl) (by decide) (by kernel_rfl) (by kernel_rfl) (fun _ _ _ h => h) (Or.inl ⟨by rfl, ?hy21⟩) (fun _ => rfl) (by assumption) ?rest21
          case hy21 => (intro w hSw; (try dsimp only at hSw); go_simp <;> with_reducible rfl)
          try simp only [Act.put, List.setIfInBounds_toArray, List.set_cons_zero, List.set_cons_succ, List.getElem_toArray, List.getElem_cons_succ, List.getElem_cons_zero]
          refine' round_taken (i := 5) (v := _) (by kernel_rfl) (by kernel_rfl) rfl (by kernel_rfl) (by decide) (by kernel_rfl) (by kernel_rfl) (fun _ _ _ h => h) (Or.inl ⟨by rfl, ?hy22⟩) (fun _ => rfl) (by assumption) ?rest22
          case hy22 => (intro w hSw; (try dsimp only at hSw); go_simp <;> with_reducible rfl)
          try simp only [Act.put, List.setIfInBounds_toArray, List.set_cons_zero, List.set_cons_succ, List.getElem_toArray, List.getElem_cons_succ, List.getElem_cons_zero]
          refine' round_taken (i := 8) (v := _) (by kernel_rfl) (by kernel_rfl) rfl (by kernel_rfl) (by decide) (by kernel_rfl) (by kernel_rfl) (fun _ _ _ h => h) (Or.inl ⟨by rfl, ?hy23⟩) (fun _ => rfl) (by assumption) ?rest23
          case hy23 => (intro w hSw; (try dsimp only at hSw); go_simp <;> with_reducible rfl)
          try simp only [Act.put, List.setIfInBounds_toArray, List.set_cons_zero, List.set_cons_succ, List.getElem_toArray, List.getElem_cons_succ, List.getElem_cons_zero]
          refine' round_taken (i := 9) (v := _) (by kernel_rfl) (by kernel_rfl) rfl (by kernel_rfl) (by decide) (by kernel_rfl) (by kernel_rfl) (fun _ _ _ h => h) (Or.inl ⟨by rfl, ?hy24⟩) (fun _ => rfl) (by assumption) ?rest24
          case hy24 => (intro w hSw; (try dsimp only at hSw); go_simp <;> with_reducible rfl)
          try simp only [Act.put, List.setIfInBounds_toArray, List.set_cons_zero, List.set_cons_succ, List.getElem_toArray, List.getElem_cons_succ, List.getElem_cons_zero]
          refine' round_taken (i := 6) (v := _) (by kernel_rfl) (by kernel_rfl) rfl (by kernel_rfl) (by decide) (by kernel_rfl) (by kernel_rfl) (fun _ _ _ h => h) (Or.inl ⟨by rfl, ?hy25⟩) (fun _ => rfl) (by assumption) ?rest25
          case hy25 => (intro w hSw; (try dsimp only at hSw); go_simp <;> with_reducible rfl)
          try simp only [Act.put, List.setIfInBounds_toArray, List.set_cons_zero, List.set_cons_succ, List.getElem_toArray, List.getElem_cons_succ, List.getElem_cons_zero]
          refine' round_taken (i := 10) (v := _) (by kernel_rfl) (by kernel_rfl) rfl (by kernel_rfl) (by decide) (by kernel_rfl) (by kernel_rfl) (fun _ _ _ h => h) (Or.inl ⟨by rfl, ?hy26⟩) (fun _ => rfl) (by assumption) ?rest26
          case hy26 => (intro w hSw; (try dsimp only at hSw); go_simp <;> with_reducible rfl)
          try simp only [Act.put, List.setIfInBounds_toArray, List.set_cons_zero, List.set_cons_succ, List.getElem_toArray, List.getElem_cons_succ, List.getElem_cons_zero]
          refine round_next (i := 7) (by kernel_rfl) rfl (fun K hK => ?_)
          simp only [List.getElem_toArray, List.getElem_cons_succ, List.getElem_cons_zero]
          (go_simp; gi_wp2_with (refine ⟨trivial, ?_⟩; gi_at_call 92; refine (CallsIn.inRound l' (callsIn_wide.2 (number_any x.1 _))).mono ?_; rintro e w' ⟨rfl, rfl⟩))
          have hH := (SP.out _ _ _ ((Hp.out.alloc (.cells #[.int .i64 x.1.off, .string x.1.key, .string x.1.text, .int .i64 x.1.who, .int .i64 x.1.time] 34)).alloc (.cells #[.int .i64 x.1.off, .string x.1.key, .string x.1.text, .int .i64 x.1.who, .int .i64 x.1.time] 34)).drew ((bX.alloc (.cells #[.int .i64 x.1.off, .string x.1.key, .string x.1.text, .int .i64 x.1.who, .int .i64 x.1.time] 34)).alloc (.cells #[.int .i64 x.1.off, .string x.1.key, .string x.1.text, .int .i64 x.1.who, .int .i64 x.1.time] 34)).drew)
          refine hK.out _ _ (.inr hH) ?_
          clear hK K
          try simp only [Act.put, List.setIfInBounds_toArray, List.set_cons_zero, List.set_cons_succ, List.getElem_toArray, List.getElem_cons_succ, List.getElem_cons_zero]
          refine round_next (i := 11) (by kernel_rfl) rfl (fun K hK => ?_)
          simp only [List.getElem_toArray, List.getElem_cons_succ, List.getElem_cons_zero]
          (go_simp; gi_wp2_with (refine ⟨trivial, ?_⟩; gi_at_call 91; refine (CallsIn.inRound l' (callsIn_wide.2 (name_any x.1 _))).mono ?_; rintro e w' ⟨rfl, rfl⟩))
          have hH := (SP.out _ _ _ (((Hp.out.alloc (.cells #[.int .i64 x.1.off, .string x.1.key, .string x.1.text, .int .i64 x.1.who, .int .i64 x.1.time] 34)).alloc (.cells #[.int .i64 x.1.off, .string x.1.key, .string x.1.text, .int .i64 x.1.who, .int .i64 x.1.time] 34)).alloc (.cells #[.int .i64 x.1.off, .string x.1.key, .string x.1.text, .int .i64 x.1.who, .int .i64 x.1.time] 34)).drew (((bX.alloc (.cells #[.int .i64 x.1.off, .string x.1.key, .string x.1.text, .int .i64 x.1.who, .int .i64 x.1.time] 34)).alloc (.cells #[.int .i64 x.1.off, .string x.1.key, .string x.1.text, .int .i64 x.1.who, .int .i64 x.1.time] 34)).alloc (.cells #[.int .i64 x.1.off, .string x.1.key, .string x.1.text, .int .i64 x.1.who, .int .i64 x.1.time] 34)).drew)
          refine hK.out _ _ (.inr hH) ?_
          clear hK K
          try simp only [Act.put, List.setIfInBounds_toArray, List.set_cons_zero, List.set_cons_succ, List.getElem_toArray, List.getElem_cons_succ, List.getElem_cons_zero]
          refine' round_taken (i := 12) (v := _) (by kernel_rfl) (by kernel_rfl) rfl (by kernel_rfl) (by decide) (by kernel_rfl) (by kernel_rfl) (fun _ _ _ h => h) (Or.inl ⟨by rfl, ?hy27⟩) (fun _ => rfl) (by assumption) ?rest27
          case hy27 => (intro w hSw; (try dsimp only at hSw); go_simp <;> with_reducible rfl)
          try simp only [Act.put, List.setIfInBounds_toArray, List.set_cons_zero, List.set_cons_succ, List.getElem_toArray, List.getElem_cons_succ, List.getElem_cons_zero]
          refine' round_taken (i := 13) (v := _) (by kernel_rfl) (by kernel_rfl) rfl (by kernel_rfl) (by decide) (by kernel_rfl) (by kernel_rfl) (fun _ _ _ h => h) (Or.inl ⟨by rfl, ?hy28⟩) (fun _ => rfl) (by assumption) ?rest28
          case hy28 => (intro w hSw; (try dsimp only at hSw); go_simp <;> ((try rw [hq.out]) <;> with_reducible rfl))
          try simp only [Act.put, List.setIfInBounds_toArray, List.set_cons_zero, List.set_cons_succ, List.getElem_toArray, List.getElem_cons_succ, List.getElem_cons_zero]
          refine' round_taken (i := 14) (v := _) (by kernel_rfl) (by kernel_rfl) rfl (by kernel_rfl) (by decide) (by kernel_rfl) (by kernel_rfl) (fun _ _ _ h => h) (Or.inl ⟨by rfl, ?hy29⟩) (fun _ => rfl) (by assumption) ?rest29
          case hy29 => (intro w hSw; (try dsimp only at hSw); go_simp <;> with_reducible rfl)
          try simp only [Act.put, List.setIfInBounds_toArray, List.set_cons_zero, List.set_cons_succ, List.getElem_toArray, List.getElem_cons_succ, List.getElem_cons_zero]
          refine' round_taken (i := 15) (v := _) (by kernel_rfl) (by kernel_rfl) rfl (by kernel_rfl) (by decide) (by kernel_rfl) (by kernel_rfl) (fun _ _ _ h => h) (Or.inl ⟨by rfl, ?hy30⟩) (fun _ => rfl) (by assumption) ?rest30
          case hy30 => (intro w hSw; (try dsimp only at hSw); go_simp <;> with_reducible rfl)
          try simp only [Act.put, List.setIfInBounds_toArray, List.set_cons_zero, List.set_cons_succ, List.getElem_toArray, List.getElem_cons_succ, List.getElem_cons_zero]
          refine' round_taken (i := 16) (v := _) (by kernel_rfl) (by kernel_rfl) rfl (by kernel_rfl) (by decide) (by kernel_rfl) (by kernel_rfl) (fun _ _ _ h => h) (Or.inl ⟨by rfl, ?hy31⟩) (fun _ => rfl) (by assumption) ?rest31
          case hy31 => (intro w hSw; (try dsimp only at hSw); go_simp <;> with_reducible rfl)
          try simp only [Act.put, List.setIfInBounds_toArray, List.set_cons_zero, List.set_cons_succ, List.getElem_toArray, List.getElem_cons_succ, List.getElem_cons_zero]
          refine' round_taken (i := 17) (v := _) (by kernel_rfl) (by kernel_rfl) rfl (by kernel_rfl) (by decide) (by kernel_rfl) (by kernel_rfl) (fun _ _ _ h => h) (Or.inl ⟨by rfl, ?hy32⟩) (fun _ => rfl) (by assumption) ?rest32
          case hy32 => (intro w hSw; (try dsimp only at hSw); go_simp <;> with_reducible rfl)
          try simp only [Act.put, List.setIfInBounds_toArray, List.set_cons_zero, List.set_cons_succ, List.getElem_toArray, List.getElem_cons_succ, List.getElem_cons_zero]
          refine' round_taken (i := 18) (v := _) (by kernel_rfl) (by kernel_rfl) rfl (by kernel_rfl) (by decide) (by kernel_rfl) (by kernel_rfl) (fun _ _ _ h => h) (Or.inl ⟨by rfl, ?hy33⟩) (fun _ => rfl) (by assumption) ?rest33
          case hy33 => (intro w hSw; (try dsimp only at hSw); go_simp <;> with_reducible rfl)
          try simp only [Act.put, List.setIfInBounds_toArray, List.set_cons_zero, List.set_cons_succ, List.getElem_toArray, List.getElem_cons_succ, List.getElem_cons_zero]
          refine round_next (i := 19) (by kernel_rfl) rfl (fun K hK => ?_)
          simp only [List.getElem_toArray, List.getElem_cons_succ, List.getElem_cons_zero]
          (go_simp; gi_wp2_with (refine ⟨trivial, ?_⟩; gi_at_call 63; refine (CallsIn.inRound l' (callsIn_wide.2 (inUse_any start next length hlen A l.length cap x.1 _))).mono ?_; rw [hiu.out]; rintro e w7 ⟨rfl, g7⟩; have HP7 := hidP ((((Hp.out.alloc (.cells #[.int .i64 x.1.off, .string x.1.key, .string x.1.text, .int .i64 x.1.who, .int .i64 x.1.time] 34)).alloc (.cells #[.int .i64 x.1.off, .string x.1.key, .string x.1.text, .int .i64 x.1.who, .int .i64 x.1.time] 34)).alloc (.cells #[.int .i64 x.1.off, .string x.1.key, .string x.1.text, .int .i64 x.1.who, .int .i64 x.1.time] 34)).drew.below g7); have bX7 := (((bX.alloc (.cells #[.int .i64 x.1.off, .string x.1.key, .string x.1.text, .int .i64 x.1.who, .int .i64 x.1.time] 34)).alloc (.cells #[.int .i64 x.1.off, .string x.1.key, .string x.1.text, .int .i64 x.1.who, .int .i64 x.1.time] 34)).alloc (.cells #[.int .i64 x.1.off, .string x.1.key, .string x.1.text, .int .i64 x.1.who, .int .i64 x.1.time] 34)).drew.below g7 (((bX.alloc (.cells #[.int .i64 x.1.off, .string x.1.key, .string x.1.text, .int .i64 x.1.who, .int .i64 x.1.time] 34)).alloc (.cells #[.int .i64 x.1.off, .string x.1.key, .string x.1.text, .int .i64 x.1.who, .int .i64 x.1.time] 34)).alloc (.cells #[.int .i64 x.1.off, .string x.1.key, .string x.1.text, .int .i64 x.1.who, .int .i64 x.1.time] 34)).drew.lt; have HK7 := hidP (ko_below (ko_drew (ko_alloc (ko_alloc (ko_alloc (KeepsOthers.refl W) (.cells #[.int .i64 x.1.off, .string x.1.key, .string x.1.text, .int .i64 x.1.who, .int .i64 x.1.time] 34)) (.cells #[.int .i64 x.1.off, .string x.1.key, .string x.1.text, .int .i64 x.1.who, .int .i64 x.1.time] 34)) (.cells #[.int .i64 x.1.off, .string x.1.key, .string x.1.text, .int .i64 x.1.who, .int .i64 x.1.time] 34))) g7); have HB7 := hidP (Below.trans (Below.drew (bl_alloc (by omega) (bl_alloc (by omega) (bl_alloc (by omega) (Below.refl w.heap.size W) (.cells #[.int .i64 x.1.off, .string x.1.key, .string x.1.text, .int .i64 x.1.who, .int .i64 x.1.time] 34)) (.cells #[.int .i64 x.1.off, .string x.1.key, .string x.1.text, .int .i64 x.1.who, .int .i64 x.1.time] 34)) (.cells #[.int .i64 x.1.off, .string x.1.key, .string x.1.text, .int .i64 x.1.who, .int .i64 x.1.time] 34))) (g7.mono (by show w.heap.size ≤ _; simp; omega))); clear g7))
          have hH := (SP.out _ _ _ HP7.out bX7)
          refine hK.out _ _ (.inr hH) ?_
          clear hK K
          try simp only [Act.put, List.setIfInBounds_toArray, List.set_cons_zero, List.set_cons_succ, List.getElem_toArray, List.getElem_cons_succ, List.getElem_cons_zero]
          refine' round_taken (i := 20) (v := _) (by kernel_rfl) (by kernel_rfl) rfl (by kernel_rfl) (by decide) (by kernel_rfl) (by kernel_rfl) (fun _ _ _ h => h) (Or.inl ⟨by rfl, ?hy34⟩) (fun _ => rfl) (by assumption) ?rest34
          case hy34 => (intro w hSw; (try dsimp only at hSw); go_simp <;> with_reducible rfl)
          try simp only [Act.put, List.setIfInBounds_toArray, List.set_cons_zero, List.set_cons_succ, List.getElem_toArray, List.getElem_cons_succ, List.getElem_cons_zero]
          refine round_done (by kernel_rfl) ?_ _
          have hvs : vals (pre ++ [x]) = vals pre ++ [x.1] := vals_snoc _ _
          have bY := Blk.new w7 34 #[.int .i64 x.1.off, .string x.1.key, .string x.1.text, .int .i64 x.1.who, .int .i64 x.1.time]
          obtain ⟨v', w8, hr8, hown8, hgrow8, hat8⟩ := append_items (s1 + 3) (.slice a K.length c) K [x.1] (some ⟨w7.heap.size, 0, none⟩) 1 (w7.alloc (.cells #[.int .i64 x.1.off, .string x.1.key, .string x.1.text, .int .i64 x.1.who, .int .i64 x.1.time] 34)) (by have := HP7.out.sz; simp; omega) (owns_alloc HP7.out.own _) (.inr ⟨w7.heap.size, 0, rfl, by simp, fun j u hu => bY.cell (i := 0 + j) (by simpa [flat, It.cs] using hu)⟩) (by simp; omega)
          simp only [List.length_cons, List.length_nil, Nat.zero_add] at hown8 hr8
          obtain ⟨a', c', rfl, _⟩ := owns_form hown8
          obtain ⟨P8, eK, k8, b8⟩ := (HP7.out.alloc (.cells #[.int .i64 x.1.off, .string x.1.key, .string x.1.text, .int .i64 x.1.who, .int .i64 x.1.time] 34)).add x.1 hgrow8 hown8 hat8
          have HP8 := hidP P8
          have HK8 := hidP ((ko_alloc HK7.out _).trans k8)
          have HB8 := hidP ((HB7.out.alloc (by have := HP7.out.sz; have := HP7.out.lo; omega) (.cells #[.int .i64 x.1.off, .string x.1.key, .string x.1.text, .int .i64 x.1.who, .int .i64 x.1.time] 34)).trans b8)
          clear P8 k8 b8 hown8 hgrow8 hat8 bY
          obtain ⟨d0, fd0⟩ := eK.one
          obtain ⟨cK, fK⟩ := HP7.out.kept.one
          obtain ⟨y0, y1, y2, y3, y4⟩ := bX7.item
          have qK := HP7.out.kept.lt
          have qX7 := bX7.lt
          gi_wp2_with (gi_at_builtin; refine wpListIn_append_is rfl _ _ _ rfl _ _ _ rfl rfl hr8 ?_)
          refine ⟨HK8.out.from _, HB8.out, .slice a' (K.length + 1) c', ?_⟩
          rw [hvs, List.filter_append, HKK.out]
          have : [x.1].filter (keepB (IntKind.i64.wrap (next - 1)) length l) = [x.1] := by simp [HF.out]
          rw [this]
          exact HP8.out
      · have hq : Hid ((x.1.off == lastOff l x.1.key.toList) = true) := hQ
        have HF : Hid (keepB (IntKind.i64.wrap (next - 1)) length l x.1 = true) := by show _ = _; unfold keepB; rw [hQ]; simp
        clear hE hQ
        refine region_round 21 (fun (w' : World) => w'.cell? ⟨s1, 0, none⟩ = some (.map (some (w.heap.size + 1 + 1 + 1 + 1))) ∧ (w'.cell? ⟨w.heap.size, 0, none⟩ = some (.int .i64 start) ∧ w'.cell? ⟨w.heap.size, 1, none⟩ = some (.int .i64 next) ∧ w'.cell? ⟨w.heap.size, 2, none⟩ = some (.slice A l.length cap)) ∧ w'.cell? ⟨w.heap.size + 1, 0, none⟩ = some (.int .i64 length) ∧ (w'.cell? ⟨Bx, 0, none⟩ = some (.int .i64 x.1.off) ∧ w'.cell? ⟨Bx, 1, none⟩ = some (.string x.1.key) ∧ w'.cell? ⟨Bx, 2, none⟩ = some (.string x.1.text) ∧ w'.cell? ⟨Bx, 3, none⟩ = some (.int .i64 x.1.who) ∧ w'.cell? ⟨Bx, 4, none⟩ = some (.int .i64 x.1.time)) ∧ (Instr.lookup 94 (.map (some (w.heap.size + 1 + 1 + 1 + 1))) (.string x.1.key) false).run Try.prog w' = .ok (.int .i64 (lastOff l x.1.key.toList)) w') (by assumption) ?_
        have hH : (fun (w' : World) => w'.cell? ⟨s1, 0, none⟩ = some (.map (some (w.heap.size + 1 + 1 + 1 + 1))) ∧ (w'.cell? ⟨w.heap.size, 0, none⟩ = some (.int .i64 start) ∧ w'.cell? ⟨w.heap.size, 1, none⟩ = some (.int .i64 next) ∧ w'.cell? ⟨w.heap.size, 2, none⟩ = some (.slice A l.length cap)) ∧ w'.cell? ⟨w.heap.size + 1, 0, none⟩ = some (.int .i64 length) ∧ (w'.cell? ⟨Bx, 0, none⟩ = some (.int .i64 x.1.off) ∧ w'.cell? ⟨Bx, 1, none⟩ = some (.string x.1.key) ∧ w'.cell? ⟨Bx, 2, none⟩ = some (.string x.1.text) ∧ w'.cell? ⟨Bx, 3, none⟩ = some (.int .i64 x.1.who) ∧ w'.cell? ⟨Bx, 4, none⟩ = some (.int .i64 x.1.time)) ∧ (Instr.lookup 94 (.map (some (w.heap.size + 1 + 1 + 1 + 1))) (.string x.1.key) false).run Try.prog w' = .ok (.int .i64 (lastOff l x.1.key.toList)) w') _ := SP.out _ _ _ Hp.out.drew bX.drew
        refine' round_taken (i := 0) (v := _) (by kernel_rfl) (by kernel_rfl) rfl (by kernel_rfl) (by decide) (by kernel_rfl) (by kernel_rfl) (fun _ _ _ h => h) (Or.inl ⟨by rfl, ?hy35⟩) (fun _ => rfl) (by assumption) ?rest35
        case hy35 => (intro w hSw; (try dsimp only at hSw); go_simp <;> with_reducible rfl)
        try simp only [Act.put, List.setIfInBounds_toArray, List.set_cons_zero, List.set_cons_succ, List.getElem_toArray, List.getElem_cons_succ, List.getElem_cons_zero]
        refine' round_taken (i := 1) (v := _) (by kernel_rfl) (by kernel_rfl) rfl (by kernel_rfl) (by decide) (by kernel_rfl) (by kernel_rfl) (fun _ _ _ h => h) (Or.inl ⟨by rfl, ?hy36⟩) (fun _ => rfl) (by assumption) ?rest36
        case hy36 => (intro w hSw; (try dsimp only at hSw); go_simp <;> with_reducible rfl)
        try simp only [Act.put, List.setIfInBounds_toArray, List.set_cons_zero, List.set_cons_succ, List.getElem_toArray, List.getElem_cons_succ, List.getElem_cons_zero]
        refine round_next (i := 2) (by kernel_rfl) rfl (fun K hK => ?_)
        simp only [List.getElem_toArray, List.getElem_cons_succ, List.getElem_cons_zero]
        (go_simp; gi_wp2_with (refine ⟨trivial, ?_⟩; gi_at_call 91; refine (CallsIn.inRound l' (callsIn_wide.2 (name_any x.1 _))).mono ?_; rintro e w' ⟨rfl, rfl⟩))
        have hH := (SP.out _ _ _ (Hp.out.alloc (.cells #[.int .i64 x.1.off, .string x.1.key, .string x.1.text, .int .i64 x.1.who, .int .i64 x.1.time] 34)).drew (bX.alloc (.cells #[.int .i64 x.1.off, .string x.1.key, .string x.1.text, .int .i64 x.1.who, .int .i64 x.1.time] 34)).drew)
        refine hK.out _ _ (.inr hH) ?_
        clear hK K
        try simp only [Act.put, List.setIfInBounds_toArray, List.set_cons_zero, List.set_cons_succ, List.getElem_toArray, List.getElem_cons_succ, List.getElem_cons_zero]
        refine' round_taken (i := 3) (v := _) (by kernel_rfl) (by kernel_rfl) rfl (by kernel_rfl) (by decide) (by kernel_rfl) (by kernel_rfl) (fun _ _ _ h => h) (Or.inl ⟨by rfl, ?hy37⟩) (fun _ => rfl) (by assumption) ?rest37
        case hy37 => (intro w hSw; (try dsimp only at hSw); go_simp <;> ((try rw [he.out]) <;> with_reducible rfl))
        try simp only [Act.put, List.setIfInBounds_toArray, List.set_cons_zero, List.set_cons_succ, List.getElem_toArray, List.getElem_cons_succ, List.getElem_cons_zero]
        refine' round_taken (i := 4) (v := _) (by kernel_rfl) (by kernel_rfl) rfl (by kernel_rfl) (by decide) (by kernel_rfl) (by kernel_rfl) (fun _ _ _ h => h) (Or.inl ⟨by rfl, ?hy38⟩) (fun _ => rfl) (by assumption) ?rest38
        case hy38 => (intro w hSw; (try dsimp only at hSw); go_simp <;> with_reducible rfl)
        try simp only [Act.put, List.setIfInBounds_toArray, List.set_cons_zero, List.set_cons_succ, List.getElem_toArray, List.getElem_cons_succ, List.getElem_cons_zero]
        refine' round_taken (i := 5) (v := _) (by kernel_rfl) (by kernel_rfl) rfl (by kernel_rfl) (by decide) (by kernel_rfl) (by kernel_rfl) (fun _ _ _ h => h) (Or.inl ⟨by rfl, ?hy39⟩) (fun _ => rfl) (by assumption) ?rest39
        case hy39 => (intro w hSw; (try dsimp only at hSw); go_simp <;> with_reducible rfl)
        try simp only [Act.put, List.setIfInBounds_toArray, List.set_cons_zero, List.set_cons_succ, List.getElem_toArray, List.getElem_cons_succ, List.getElem_cons_zero]
        refine' round_taken (i := 8) (v := _) (by kernel_rfl) (by kernel_rfl) rfl (by kernel_rfl) (by decide) (by kernel_rfl) (by kernel_rfl) (fun _ _ _ h => h) (Or.inl ⟨by rfl, ?hy40⟩) (fun _ => rfl) (by assumption) ?rest40
        case hy40 => (intro w hSw; (try dsimp only at hSw); go_simp <;> with_reducible rfl)
        try simp only [Act.put, List.setIfInBounds_toArray, List.set_cons_zero, List.set_cons_succ, List.getElem_toArray, List.getElem_cons_succ, List.getElem_cons_zero]
        refine' round_taken (i := 9) (v := _) (by kernel_rfl) (by kernel_rfl) rfl (by kernel_rfl) (by decide) (by kernel_rfl) (by kernel_rfl) (fun _ _ _ h => h) (Or.inl ⟨by rfl, ?hy41⟩) (fun _ => rfl) (by assumption) ?rest41
        case hy41 => (intro w hSw; (try dsimp only at hSw); go_simp <;> with_reducible rfl)
        try simp only [Act.put, List.setIfInBounds_toArray, List.set_cons_zero, List.set_cons_succ, List.getElem_toArray, List.getElem_cons_succ, List.getElem_cons_zero]
        refine' round_taken (i := 6) (v := _) (by kernel_rfl) (by kernel_rfl) rfl (by kernel_rfl) (by decide) (by kernel_rfl) (by kernel_rfl) (fun _ _ _ h => h) (Or.inl ⟨by rfl, ?hy42⟩) (fun _ => rfl) (by assumption) ?rest42
        case hy42 => (intro w hSw; (try dsimp only at hSw); go_simp <;> with_reducible rfl)
        try simp only [Act.put, List.setIfInBounds_toArray, List.set_cons_zero, List.set_cons_succ, List.getElem_toArray, List.getElem_cons_succ, List.getElem_cons_zero]
        refine' round_taken (i := 10) (v := _) (by kernel_rfl) (by kernel_rfl) rfl (by kernel_rfl) (by decide) (by kernel_rfl) (by kernel_rfl) (fun _ _ _ h => h) (Or.inl ⟨by rfl, ?hy43⟩) (fun _ => rfl) (by assumption) ?rest43
        case hy43 => (intro w hSw; (try dsimp only at hSw); go_simp <;> with_reducible rfl)
        try simp only [Act.put, List.setIfInBounds_toArray, List.set_cons_zero, List.set_cons_succ, List.getElem_toArray, List.getElem_cons_succ, List.getElem_cons_zero]
        refine round_next (i := 7) (by kernel_rfl) rfl (fun K hK => ?_)
        simp only [List.getElem_toArray, List.getElem_cons_succ, List.getElem_cons_zero]
        (go_simp; gi_wp2_with (refine ⟨trivial, ?_⟩; gi_at_call 92; refine (CallsIn.inRound l' (callsIn_wide.2 (number_any x.1 _))).mono ?_; rintro e w' ⟨rfl, rfl⟩))
        have hH := (SP.out _ _ _ ((Hp.out.alloc (.cells #[.int .i64 x.1.off, .string x.1.key, .string x.1.text, .int .i64 x.1.who, .int .i64 x.1.time] 34)).alloc (.cells #[.int .i64 x.1.off, .string x.1.key, .string x.1.text, .int .i64 x.1.who, .int .i64 x.1.time] 34)).drew ((bX.alloc (.cells #[.int .i64 x.1.off, .string x.1.key, .string x.1.text, .int .i64 x.1.who, .int .i64 x.1.time] 34)).alloc (.cells #[.int .i64 x.1.off, .string x.1.key, .string x.1.text, .int .i64 x.1.who, .int .i64 x.1.time] 34)).drew)
        refine hK.out _ _ (.inr hH) ?_
        clear hK K
        try simp only [Act.put, List.setIfInBounds_toArray, List.set_cons_zero, List.set_cons_succ, List.getElem_toArray, List.getElem_cons_succ, List.getElem_cons_zero]
        refine round_next (i := 11) (by kernel_rfl) rfl (fun K hK => ?_)
        simp only [List.getElem_toArray, List.getElem_cons_succ, List.getElem_cons_zero]
        (go_simp; gi_wp2_with (refine ⟨trivial, ?_⟩; gi_at_call 91; refine (CallsIn.inRound l' (callsIn_wide.2 (name_any x.1 _))).mono ?_; rintro e w' ⟨rfl, rfl⟩))
        have hH := (SP.out _ _ _ (((Hp.out.alloc (.cells #[.int .i64 x.1.off, .string x.1.key, .string x.1.text, .int .i64 x.1.who, .int .i64 x.1.time] 34)).alloc (.cells #[.int .i64 x.1.off, .string x.1.key, .string x.1.text, .int .i64 x.1.who, .int .i64 x.1.time] 34)).alloc (.cells #[.int .i64 x.1.off, .string x.1.key, .string x.1.text, .int .i64 x.1.who, .int .i64 x.1.time] 34)).drew (((bX.alloc (.cells #[.int .i64 x.1.off, .string x.1.key, .string x.1.text, .int .i64 x.1.who, .int .i64 x.1.time] 34)).alloc (.cells #[.int .i64 x.1.off, .string x.1.key, .string x.1.text, .int .i64 x.1.who, .int .i64 x.1.time] 34)).alloc (.cells #[.int .i64 x.1.off, .string x.1.key, .string x.1.text, .int .i64 x.1.who, .int .i64 x.1.time] 34)).drew)
        refine hK.out _ _ (.inr hH) ?_
        clear hK K
        try simp only [Act.put, List.setIfInBounds_toArray, List.set_cons_zero, List.set_cons_succ, List.getElem_toArray, List.getElem_cons_succ, List.getElem_cons_zero]
        refine' round_taken (i := 12) (v := _) (by kernel_rfl) (by kernel_rfl) rfl (by kernel_rfl) (by decide) (by kernel_rfl) (by kernel_rfl) (fun _ _ _ h => h) (Or.inl ⟨by rfl, ?hy44⟩) (fun _ => rfl) (by assumption) ?rest44
        case hy44 => (intro w hSw; (try dsimp only at hSw); go_simp <;> with_reducible rfl)
        try simp only [Act.put, List.setIfInBounds_toArray, List.set_cons_zero, List.set_cons_succ, List.getElem_toArray, List.getElem_cons_succ, List.getElem_cons_zero]
        refine' round_taken (i := 13) (v := _) (by kernel_rfl) (by kernel_rfl) rfl (by kernel_rfl) (by decide) (by kernel_rfl) (by kernel_rfl) (fun _ _ _ h => h) (Or.inl ⟨by rfl, ?hy45⟩) (fun _ => rfl) (by assumption) ?rest45
        case hy45 => (intro w hSw; (try dsimp only at hSw); go_simp <;> ((try rw [hq.out]) <;> with_reducible rfl))
        try simp only [Act.put, List.setIfInBounds_toArray, List.set_cons_zero, List.set_cons_succ, List.getElem_toArray, List.getElem_cons_succ, List.getElem_cons_zero]
        refine' round_taken (i := 14) (v := _) (by kernel_rfl) (by kernel_rfl) rfl (by kernel_rfl) (by decide) (by kernel_rfl) (by kernel_rfl) (fun _ _ _ h => h) (Or.inl ⟨by rfl, ?hy46⟩) (fun _ => rfl) (by assumption) ?rest46
        case hy46 => (intro w hSw; (try dsimp only at hSw); go_simp <;> with_reducible rfl)
        try simp only [Act.put, List.setIfInBounds_toArray, List.set_cons_zero, List.set_cons_succ, List.getElem_toArray, List.getElem_cons_succ, List.getElem_cons_zero]
        refine' round_taken (i := 15) (v := _) (by kernel_rfl) (by kernel_rfl) rfl (by kernel_rfl) (by decide) (by kernel_rfl) (by kernel_rfl) (fun _ _ _ h => h) (Or.inl ⟨by rfl, ?hy47⟩) (fun _ => rfl) (by assumption) ?rest47
        case hy47 => (intro w hSw; (try dsimp only at hSw); go_simp <;> with_reducible rfl)
        try simp only [Act.put, List.setIfInBounds_toArray, List.set_cons_zero, List.set_cons_succ, List.getElem_toArray, List.getElem_cons_succ, List.getElem_cons_zero]
        refine round_taken (i := 16) (v := undef) (by kernel_rfl) (by kernel_rfl) rfl (by kernel_rfl) (by decide) (by kernel_rfl) (by kernel_rfl) (fun _ _ _ h => h) (Or.inr ⟨by rfl, rfl⟩) (fun _ => rfl) (by assumption) ?_
        try simp only [Act.put, List.setIfInBounds_toArray, List.set_cons_zero, List.set_cons_succ, List.getElem_toArray, List.getElem_cons_succ, List.getElem_cons_zero]
        refine round_taken (i := 17) (v := undef) (by kernel_rfl) (by kernel_rfl) rfl (by kernel_rfl) (by decide) (by kernel_rfl) (by kernel_rfl) (fun _ _ _ h => h) (Or.inr ⟨by rfl, rfl⟩) (fun _ => rfl) (by assumption) ?_
        try simp only [Act.put, List.setIfInBounds_toArray, List.set_cons_zero, List.set_cons_succ, List.getElem_toArray, List.getElem_cons_succ, List.getElem_cons_zero]
        refine round_taken (i := 18) (v := undef) (by kernel_rfl) (by kernel_rfl) rfl (by kernel_rfl) (by decide) (by kernel_rfl) (by kernel_rfl) (fun _ _ _ h => h) (Or.inr ⟨by rfl, rfl⟩) (fun _ => rfl) (by assumption) ?_
        try simp only [Act.put, List.setIfInBounds_toArray, List.set_cons_zero, List.set_cons_succ, List.getElem_toArray, List.getElem_cons_succ, List.getElem_cons_zero]
        refine round_next (i := 19) (by kernel_rfl) rfl (fun K hK => ?_)
        rw [if_neg (by simp [Region.wanted, yielded])]
        refine ⟨fun _ _ => trivial, ?_⟩
        refine hK.out _ _ (.inr (by assumption)) ?_
        clear hK K
        try simp only [Act.put, List.setIfInBounds_toArray, List.set_cons_zero, List.set_cons_succ, List.getElem_toArray, List.getElem_cons_succ, List.getElem_cons_zero]
        refine' round_taken (i := 20) (v := _) (by kernel_rfl) (by kernel_rfl) rfl (by kernel_rfl) (by decide) (by kernel_rfl) (by kernel_rfl) (fun _ _ _ h => h) (Or.inl ⟨by rfl, ?hy48⟩) (fun _ => rfl) (by assumption) ?rest48
        case hy48 => (intro w hSw; (try dsimp only at hSw); go_simp <;> with_reducible rfl)
        try simp only [Act.put, List.setIfInBounds_toArray, List.set_cons_zero, List.set_cons_succ, List.getElem_toArray, List.getElem_cons_succ, List.getElem_cons_zero]
        refine round_done (by kernel_rfl) ?_ _
        have HP7 := hidP ((((Hp.out.alloc (.cells #[.int .i64 x.1.off, .string x.1.key, .string x.1.text, .int .i64 x.1.who, .int .i64 x.1.time] 34)).alloc (.cells #[.int .i64 x.1.off, .string x.1.key, .string x.1.text, .int .i64 x.1.who, .int .i64 x.1.time] 34)).alloc (.cells #[.int .i64 x.1.off, .string x.1.key, .string x.1.text, .int .i64 x.1.who, .int .i64 x.1.time] 34)).drew)
        have bX7 := (((bX.alloc (.cells #[.int .i64 x.1.off, .string x.1.key, .string x.1.text, .int .i64 x.1.who, .int .i64 x.1.time] 34)).alloc (.cells #[.int .i64 x.1.off, .string x.1.key, .string x.1.text, .int .i64 x.1.who, .int .i64 x.1.time] 34)).alloc (.cells #[.int .i64 x.1.off, .string x.1.key, .string x.1.text, .int .i64 x.1.who, .int .i64 x.1.time] 34)).drew
        have HK7 := hidP (ko_drew (ko_alloc (ko_alloc (ko_alloc (KeepsOthers.refl W) (.cells #[.int .i64 x.1.off, .string x.1.key, .string x.1.text, .int .i64 x.1.who, .int .i64 x.1.time] 34)) (.cells #[.int .i64 x.1.off, .string x.1.key, .string x.1.text, .int .i64 x.1.who, .int .i64 x.1.time] 34)) (.cells #[.int .i64 x.1.off, .string x.1.key, .string x.1.text, .int .i64 x.1.who, .int .i64 x.1.time] 34)))
        have HB7 := hidP (Below.drew (bl_alloc (by omega) (bl_alloc (by omega) (bl_alloc (by omega) (Below.refl w.heap.size W) (.cells #[.int .i64 x.1.off, .string x.1.key, .string x.1.text, .int .i64 x.1.who, .int .i64 x.1.time] 34)) (.cells #[.int .i64 x.1.off, .string x.1.key, .string x.1.text, .int .i64 x.1.who, .int .i64 x.1.time] 34)) (.cells #[.int .i64 x.1.off, .string x.1.key, .string x.1.text, .int .i64 x.1.who, .int .i64 x.1.time] 34)))
        generalize (((W.alloc (.cells #[.int .i64 x.1.off, .string x.1.key, .string x.1.text, .int .i64 x.1.who, .int .i64 x.1.time] 34)).alloc (.cells #[.int .i64 x.1.off, .string x.1.key, .string x.1.text, .int .i64 x.1.who, .int .i64 x.1.time] 34)).alloc (.cells #[.int .i64 x.1.off, .string x.1.key, .string x.1.text, .int .i64 x.1.who, .int .i64 x.1.time] 34)).drew = w7 at *
        have hvs : vals (pre ++ [x]) = vals pre ++ [x.1] := vals_snoc _ _
        have bY := Blk.new w7 34 #[.int .i64 x.1.off, .string x.1.key, .string x.1.text, .int .i64 x.1.who, .int .i64 x.1.time]
        obtain ⟨v', w8, hr8, hown8, hgrow8, hat8⟩ := append_items (s1 + 3) (.slice a K.length c) K [x.1] (some ⟨w7.heap.size, 0, none⟩) 1 (w7.alloc (.cells #[.int .i64 x.1.off, .string x.1.key, .string x.1.text, .int .i64 x.1.who, .int .i64 x.1.time] 34)) (by have := HP7.out.sz; simp; omega) (owns_alloc HP7.out.own _) (.inr ⟨w7.heap.size, 0, rfl, by simp, fun j u hu => bY.cell (i := 0 + j) (by simpa [flat, It.cs] using hu)⟩) (by simp; omega)
        simp only [List.length_cons, List.length_nil, Nat.zero_add] at hown8 hr8
        obtain ⟨a', c', rfl, _⟩ := owns_form hown8
        obtain ⟨P8, eK, k8, b8⟩ := (HP7.out.alloc (.cells #[.int .i64 x.1.off, .string x.1.key, .string x.1.text, .int .i64 x.1.who, .int .i64 x.1.time] 34)).add x.1 hgrow8 hown8 hat8
        have HP8 := hidP P8
        have HK8 := hidP ((ko_alloc HK7.out _).trans k8)
        have HB8 := hidP ((HB7.out.alloc (by have := HP7.out.sz; have := HP7.out.lo; omega) (.cells #[.int .i64 x.1.off, .string x.1.key, .string x.1.text, .int .i64 x.1.who, .int .i64 x.1.time] 34)).trans b8)
        clear P8 k8 b8 hown8 hgrow8 hat8 bY
        obtain ⟨d0, fd0⟩ := eK.one
        obtain ⟨cK, fK⟩ := HP7.out.kept.one
        obtain ⟨y0, y1, y2, y3, y4⟩ := bX7.item
        have qK := HP7.out.kept.lt
        have qX7 := bX7.lt
        gi_wp2_with (gi_at_builtin; refine wpListIn_append_is rfl _ _ _ rfl _ _ _ rfl rfl hr8 ?_)
        refine ⟨HK8.out.from _, HB8.out, .slice a' (K.length + 1) c', ?_⟩
        rw [hvs, List.filter_append, HKK.out]
        have : [x.1].filter (keepB (IntKind.i64.wrap (next - 1)) length l) = [x.1] := by simp [HF.out]
        rw [this]
        exact HP8.out
    · have he : Hid (x.1.key.toList.isEmpty = true) := hE
      have HF : Hid (keepB (IntKind.i64.wrap (next - 1)) length l x.1 = true) := by
        show _ = _
        unfold keepB
        have : x.1.key.toList = [] := by simpa using hE
        simp [this]
      clear hE
      refine region_round 21 (fun (w' : World) => w'.cell? ⟨s1, 0, none⟩ = some (.map (some (w.heap.size + 1 + 1 + 1 + 1))) ∧ (w'.cell? ⟨w.heap.size, 0, none⟩ = some (.int .i64 start) ∧ w'.cell? ⟨w.heap.size, 1, none⟩ = some (.int .i64 next) ∧ w'.cell? ⟨w.heap.size, 2, none⟩ = some (.slice A l.length cap)) ∧ w'.cell? ⟨w.heap.size + 1, 0, none⟩ = some (.int .i64 length) ∧ (w'.cell? ⟨Bx, 0, none⟩ = some (.int .i64 x.1.off) ∧ w'.cell? ⟨Bx, 1, none⟩ = some (.string x.1.key) ∧ w'.cell? ⟨Bx, 2, none⟩ = some (.string x.1.text) ∧ w'.cell? ⟨Bx, 3, none⟩ = some (.int .i64 x.1.who) ∧ w'.cell? ⟨Bx, 4, none⟩ = some (.int .i64 x.1.time)) ∧ (Instr.lookup 94 (.map (some (w.heap.size + 1 + 1 + 1 + 1))) (.string x.1.key) false).run Try.prog w' = .ok (.int .i64 (lastOff l x.1.key.toList)) w') (by assumption) ?_
      have hH : (fun (w' : World) => w'.cell? ⟨s1, 0, none⟩ = some (.map (some (w.heap.size + 1 + 1 + 1 + 1))) ∧ (w'.cell? ⟨w.heap.size, 0, none⟩ = some (.int .i64 start) ∧ w'.cell? ⟨w.heap.size, 1, none⟩ = some (.int .i64 next) ∧ w'.cell? ⟨w.heap.size, 2, none⟩ = some (.slice A l.length cap)) ∧ w'.cell? ⟨w.heap.size + 1, 0, none⟩ = some (.int .i64 length) ∧ (w'.cell? ⟨Bx, 0, none⟩ = some (.int .i64 x.1.off) ∧ w'.cell? ⟨Bx, 1, none⟩ = some (.string x.1.key) ∧ w'.cell? ⟨Bx, 2, none⟩ = some (.string x.1.text) ∧ w'.cell? ⟨Bx, 3, none⟩ = some (.int .i64 x.1.who) ∧ w'.cell? ⟨Bx, 4, none⟩ = some (.int .i64 x.1.time)) ∧ (Instr.lookup 94 (.map (some (w.heap.size + 1 + 1 + 1 + 1))) (.string x.1.key) false).run Try.prog w' = .ok (.int .i64 (lastOff l x.1.key.toList)) w') _ := SP.out _ _ _ Hp.out.drew bX.drew
      refine' round_taken (i := 0) (v := _) (by kernel_rfl) (by kernel_rfl) rfl (by kernel_rfl) (by decide) (by kernel_rfl) (by kernel_rfl) (fun _ _ _ h => h) (Or.inl ⟨by rfl, ?hy49⟩) (fun _ => rfl) (by assumption) ?rest49
      case hy49 => (intro w hSw; (try dsimp only at hSw); go_simp <;> with_reducible rfl)
      try simp only [Act.put, List.setIfInBounds_toArray, List.set_cons_zero, List.set_cons_succ, List.getElem_toArray, List.getElem_cons_succ, List.getElem_cons_zero]
      refine' round_taken (i := 1) (v := _) (by kernel_rfl) (by kernel_rfl) rfl (by kernel_rfl) (by decide) (by kernel_rfl) (by kernel_rfl) (fun _ _ _ h => h) (Or.inl ⟨by rfl, ?hy50⟩) (fun _ => rfl) (by assumption) ?rest50
      case hy50 => (intro w hSw; (try dsimp only at hSw); go_simp <;> with_reducible rfl)
      try simp only [Act.put, List.setIfInBounds_toArray, List.set_cons_zero, List.set_cons_succ, List.getElem_toArray, List.getElem_cons_succ, List.getElem_cons_zero]
      refine round_next (i := 2) (by kernel_rfl) rfl (fun K hK => ?_)
      simp only [List.getElem_toArray, List.getElem_cons_succ, List.getElem_cons_zero]
      (go_simp; gi_wp2_with (refine ⟨trivial, ?_⟩; gi_at_call 91; refine (CallsIn.inRound l' (callsIn_wide.2 (name_any x.1 _))).mono ?_; rintro e w' ⟨rfl, rfl⟩))
      have hH := (SP.out _ _ _ (Hp.out.alloc (.cells #[.int .i64 x.1.off, .string x.1.key, .string x.1.text, .int .i64 x.1.who, .int .i64 x.1.time] 34)).drew (bX.alloc (.cells #[.int .i64 x.1.off, .string x.1.key, .string x.1.text, .int .i64 x.1.who, .int .i64 x.1.time] 34)).drew)
      refine hK.out _ _ (.inr hH) ?_
      clear hK K
      try simp only [Act.put, List.setIfInBounds_toArray, List.set_cons_zero, List.set_cons_succ, List.getElem_toArray, List.getElem_cons_succ, List.getElem_cons_zero]
      refine' round_taken (i := 3) (v := _) (by kernel_rfl) (by kernel_rfl) rfl (by kernel_rfl) (by decide) (by kernel_rfl) (by kernel_rfl) (fun _ _ _ h => h) (Or.inl ⟨by rfl, ?hy51⟩) (fun _ => rfl) (by assumption) ?rest51
      case hy51 => (intro w hSw; (try dsimp only at hSw); go_simp <;> ((try rw [he.out]) <;> with_reducible rfl))
      try simp only [Act.put, List.setIfInBounds_toArray, List.set_cons_zero, List.set_cons_succ, List.getElem_toArray, List.getElem_cons_succ, List.getElem_cons_zero]
      refine' round_taken (i := 4) (v := _) (by kernel_rfl) (by kernel_rfl) rfl (by kernel_rfl) (by decide) (by kernel_rfl) (by kernel_rfl) (fun _ _ _ h => h) (Or.inl ⟨by rfl, ?hy52⟩) (fun _ => rfl) (by assumption) ?rest52
      case hy52 => (intro w hSw; (try dsimp only at hSw); go_simp <;> with_reducible rfl)
      try simp only [Act.put, List.setIfInBounds_toArray, List.set_cons_zero, List.set_cons_succ, List.getElem_toArray, List.getElem_cons_succ, List.getElem_cons_zero]
      refine round_taken (i := 5) (v := undef) (by kernel_rfl) (by kernel_rfl) rfl (by kernel_rfl) (by decide) (by kernel_rfl) (by kernel_rfl) (fun _ _ _ h => h) (Or.inr ⟨by rfl, rfl⟩) (fun _ => rfl) (by assumption) ?_
      try simp only [Act.put, List.setIfInBounds_toArray, List.set_cons_zero, List.set_cons_succ, List.getElem_toArray, List.getElem_cons_succ, List.getElem_cons_zero]
      refine round_taken (i := 6) (v := undef) (by kernel_rfl) (by kernel_rfl) rfl (by kernel_rfl) (by decide) (by kernel_rfl) (by kernel_rfl) (fun _ _ _ h => h) (Or.inr ⟨by rfl, rfl⟩) (fun _ => rfl) (by assumption) ?_
      try simp only [Act.put, List.setIfInBounds_toArray, List.set_cons_zero, List.set_cons_succ, List.getElem_toArray, List.getElem_cons_succ, List.getElem_cons_zero]
      refine round_taken (i := 8) (v := undef) (by kernel_rfl) (by kernel_rfl) rfl (by kernel_rfl) (by decide) (by kernel_rfl) (by kernel_rfl) (fun _ _ _ h => h) (Or.inr ⟨by rfl, rfl⟩) (fun _ => rfl) (by assumption) ?_
      try simp only [Act.put, List.setIfInBounds_toArray, List.set_cons_zero, List.set_cons_succ, List.getElem_toArray, List.getElem_cons_succ, List.getElem_cons_zero]
      refine round_taken (i := 9) (v := undef) (by kernel_rfl) (by kernel_rfl) rfl (by kernel_rfl) (by decide) (by kernel_rfl) (by kernel_rfl) (fun _ _ _ h => h) (Or.inr ⟨by rfl, rfl⟩) (fun _ => rfl) (by assumption) ?_
      try simp only [Act.put, List.setIfInBounds_toArray, List.set_cons_zero, List.set_cons_succ, List.getElem_toArray, List.getElem_cons_succ, List.getElem_cons_zero]
      refine round_taken (i := 10) (v := undef) (by kernel_rfl) (by kernel_rfl) rfl (by kernel_rfl) (by decide) (by kernel_rfl) (by kernel_rfl) (fun _ _ _ h => h) (Or.inr ⟨by rfl, rfl⟩) (fun _ => rfl) (by assumption) ?_
      try simp only [Act.put, List.setIfInBounds_toArray, List.set_cons_zero, List.set_cons_succ, List.getElem_toArray, List.getElem_cons_succ, List.getElem_cons_zero]
      refine round_next (i := 7) (by kernel_rfl) rfl (fun K hK => ?_)
      rw [if_neg (by simp [Region.wanted, yielded])]
      refine ⟨fun _ _ => trivial, ?_⟩
      refine hK.out _ _ (.inr (by assumption)) ?_
      clear hK K
      try simp only [Act.put, List.setIfInBounds_toArray, List.set_cons_zero, List.set_cons_succ, List.getElem_toArray, List.getElem_cons_succ, List.getElem_cons_zero]
      refine round_next (i := 11) (by kernel_rfl) rfl (fun K hK => ?_)
      rw [if_neg (by simp [Region.wanted, yielded])]
      refine ⟨fun _ _ => trivial, ?_⟩
      refine hK.out _ _ (.inr (by assumption)) ?_
      clear hK K
      try simp only [Act.put, List.setIfInBounds_toArray, List.set_cons_zero, List.set_cons_succ, List.getElem_toArray, List.getElem_cons_succ, List.getElem_cons_zero]
      refine round_taken (i := 12) (v := undef) (by kernel_rfl) (by kernel_rfl) rfl (by kernel_rfl) (by decide) (by kernel_rfl) (by kernel_rfl) (fun _ _ _ h => h) (Or.inr ⟨by rfl, rfl⟩) (fun _ => rfl) (by assumption) ?_
      try simp only [Act.put, List.setIfInBounds_toArray, List.set_cons_zero, List.set_cons_succ, List.getElem_toArray, List.getElem_cons_succ, List.getElem_cons_zero]
      refine round_taken (i := 13) (v := undef) (by kernel_rfl) (by kernel_rfl) rfl (by kernel_rfl) (by decide) (by kernel_rfl) (by kernel_rfl) (fun _ _ _ h => h) (Or.inr ⟨by rfl, rfl⟩) (fun _ => rfl) (by assumption) ?_
      try simp only [Act.put, List.setIfInBounds_toArray, List.set_cons_zero, List.set_cons_succ, List.getElem_toArray, List.getElem_cons_succ, List.getElem_cons_zero]
      refine' round_taken (i := 14) (v := _) (by kernel_rfl) (by kernel_rfl) rfl (by kernel_rfl) (by decide) (by kernel_rfl) (by kernel_rfl) (fun _ _ _ h => h) (Or.inl ⟨by rfl, ?hy53⟩) (fun _ => rfl) (by assumption) ?rest53
      case hy53 => (intro w hSw; (try dsimp only at hSw); go_simp <;> with_reducible rfl)
      try simp only [Act.put, List.setIfInBounds_toArray, List.set_cons_zero, List.set_cons_succ, List.getElem_toArray, List.getElem_cons_succ, List.getElem_cons_zero]
      refine' round_taken (i := 15) (v := _) (by kernel_rfl) (by kernel_rfl) rfl (by kernel_rfl) (by decide) (by kernel_rfl) (by kernel_rfl) (fun _ _ _ h => h) (Or.inl ⟨by rfl, ?hy54⟩) (fun _ => rfl) (by assumption) ?rest54
      case hy54 => (intro w hSw; (try dsimp only at hSw); go_simp <;> with_reducible rfl)
      try simp only [Act.put, List.setIfInBounds_toArray, List.set_cons_zero, List.set_cons_succ, List.getElem_toArray, List.getElem_cons_succ, List.getElem_cons_zero]
      refine round_taken (i := 16) (v := undef) (by kernel_rfl) (by kernel_rfl) rfl (by kernel_rfl) (by decide) (by kernel_rfl) (by kernel_rfl) (fun _ _ _ h => h) (Or.inr ⟨by rfl, rfl⟩) (fun _ => rfl) (by assumption) ?_
      try simp only [Act.put, List.setIfInBounds_toArray, List.set_cons_zero, List.set_cons_succ, List.getElem_toArray, List.getElem_cons_succ, List.getElem_cons_zero]
      refine round_taken (i := 17) (v := undef) (by kernel_rfl) (by kernel_rfl) rfl (by kernel_rfl) (by decide) (by kernel_rfl) (by kernel_rfl) (fun _ _ _ h => h) (Or.inr ⟨by rfl, rfl⟩) (fun _ => rfl) (by assumption) ?_
      try simp only [Act.put, List.setIfInBounds_toArray, List.set_cons_zero, List.set_cons_succ, List.getElem_toArray, List.getElem_cons_succ, List.getElem_cons_zero]
      refine round_taken (i := 18) (v := undef) (by kernel_rfl) (by kernel_rfl) rfl (by kernel_rfl) (by decide) (by kernel_rfl) (by kernel_rfl) (fun _ _ _ h => h) (Or.inr ⟨by rfl, rfl⟩) (fun _ => rfl) (by assumption) ?_
      try simp only [Act.put, List.setIfInBounds_toArray, List.set_cons_zero, List.set_cons_succ, List.getElem_toArray, List.getElem_cons_succ, List.getElem_cons_zero]
      refine round_next (i := 19) (by kernel_rfl) rfl (fun K hK => ?_)
      rw [if_neg (by simp [Region.wanted, yielded])]
      refine ⟨fun _ _ => trivial, ?_⟩
      refine hK.out _ _ (.inr (by assumption)) ?_
      clear hK K
      try simp only [Act.put, List.setIfInBounds_toArray, List.set_cons_zero, List.set_cons_succ, List.getElem_toArray, List.getElem_cons_succ, List.getElem_cons_zero]
      refine' round_taken (i := 20) (v := _) (by kernel_rfl) (by kernel_rfl) rfl (by kernel_rfl) (by decide) (by kernel_rfl) (by kernel_rfl) (fun _ _ _ h => h) (Or.inl ⟨by rfl, ?hy55⟩) (fun _ => rfl) (by assumption) ?rest55
      case hy55 => (intro w hSw; (try dsimp only at hSw); go_simp <;> with_reducible rfl)
      try simp only [Act.put, List.setIfInBounds_toArray, List.set_cons_zero, List.set_cons_succ, List.getElem_toArray, List.getElem_cons_succ, List.getElem_cons_zero]
      refine round_done (by kernel_rfl) ?_ _
      have HP7 := hidP ((Hp.out.alloc (.cells #[.int .i64 x.1.off, .string x.1.key, .string x.1.text, .int .i64 x.1.who, .int .i64 x.1.time] 34)).drew)
      have bX7 := (bX.alloc (.cells #[.int .i64 x.1.off, .string x.1.key, .string x.1.text, .int .i64 x.1.who, .int .i64 x.1.time] 34)).drew
      have HK7 := hidP (ko_drew (ko_alloc (KeepsOthers.refl W) (.cells #[.int .i64 x.1.off, .string x.1.key, .string x.1.text, .int .i64 x.1.who, .int .i64 x.1.time] 34)))
      have HB7 := hidP (Below.drew (bl_alloc (by omega) (Below.refl w.heap.size W) (.cells #[.int .i64 x.1.off, .string x.1.key, .string x.1.text, .int .i64 x.1.who, .int .i64 x.1.time] 34)))
      generalize (W.alloc (.cells #[.int .i64 x.1.off, .string x.1.key, .string x.1.text, .int .i64 x.1.who, .int .i64 x.1.time] 34)).drew = w7 at *
      have hvs : vals (pre ++ [x]) = vals pre ++ [x.1] := vals_snoc _ _
      have bY := Blk.new w7 34 #[.int .i64 x.1.off, .string x.1.key, .string x.1.text, .int .i64 x.1.who, .int .i64 x.1.time]
      obtain ⟨v', w8, hr8, hown8, hgrow8, hat8⟩ := append_items (s1 + 3) (.slice a K.length c) K [x.1] (some ⟨w7.heap.size, 0, none⟩) 1 (w7.alloc (.cells #[.int .i64 x.1.off, .string x.1.key, .string x.1.text, .int .i64 x.1.who, .int .i64 x.1.time] 34)) (by have := HP7.out.sz; simp; omega) (owns_alloc HP7.out.own _) (.inr ⟨w7.heap.size, 0, rfl, by simp, fun j u hu => bY.cell (i := 0 + j) (by simpa [flat, It.cs] using hu)⟩) (by simp; omega)
      simp only [List.length_cons, List.length_nil, Nat.zero_add] at hown8 hr8
      obtain ⟨a', c', rfl, _⟩ := owns_form hown8
      obtain ⟨P8, eK, k8, b8⟩ := (HP7.out.alloc (.cells #[.int .i64 x.1.off, .string x.1.key, .string x.1.text, .int .i64 x.1.who, .int .i64 x.1.time] 34)).add x.1 hgrow8 hown8 hat8
      have HP8 := hidP P8
      have HK8 := hidP ((ko_alloc HK7.out _).trans k8)
      have HB8 := hidP ((HB7.out.alloc (by have := HP7.out.sz; have := HP7.out.lo; omega) (.cells #[.int .i64 x.1.off, .string x.1.key, .string x.1.text, .int .i64 x.1.who, .int .i64 x.1.time] 34)).trans b8)
      clear P8 k8 b8 hown8 hgrow8 hat8 bY
      obtain ⟨d0, fd0⟩ := eK.one
      obtain ⟨cK, fK⟩ := HP7.out.kept.one
      obtain ⟨y0, y1, y2, y3, y4⟩ := bX7.item
      have qK := HP7.out.kept.lt
      have qX7 := bX7.lt
      gi_wp2_with (gi_at_builtin; refine wpListIn_append_is rfl _ _ _ rfl _ _ _ rfl rfl hr8 ?_)
      refine ⟨HK8.out.from _, HB8.out, .slice a' (K.length + 1) c', ?_⟩
      rw [hvs, List.filter_append, HKK.out]
      have : [x.1].filter (keepB (IntKind.i64.wrap (next - 1)) length l) = [x.1] := by simp [HF.out]
      rw [this]
      exact HP8.out
  case done =>
    rintro D ys W hD hys ⟨v, hp⟩ hK
    rw [hys] at hp
    obtain ⟨KL, hKL⟩ : ∃ KL, l.filter (keepB (IntKind.i64.wrap (next - 1)) length l) = KL := ⟨_, rfl⟩
    rw [hKL] at hp
    have HKL := hidP hKL
    clear hKL
    obtain ⟨a, c, rfl, _⟩ := owns_form hp.own
    have h1 := hp.sz
    have h2 := hp.lo
    obtain ⟨cK, fK⟩ := hp.kept.one
    obtain ⟨u0, u1, u2⟩ := hp.row.row
    obtain ⟨z0, z1, z2⟩ := hp.res.row
    have fu2 := hp.row.thaw 2
    have fz0 := hp.res.thaw 0
    have fz1 := hp.res.thaw 1
    have fz2 := hp.res.thaw 2
    have q0 := hp.row.lt
    have q2 := hp.res.lt
    have qK := hp.kept.lt
    have Hp := hidP hp
    clear hp
    gi_wp2
    generalize hv : Value.slice a KL.length c = v at *
    have hK' := (ko_set (ko_set (ko_set (ko_set (KeepsOthers.refl W) ⟨w.heap.size, 2, none⟩ v) ⟨w.heap.size + 1 + 1, 0, none⟩ (.int .i64 start)) ⟨w.heap.size + 1 + 1, 1, none⟩ (.int .i64 next)) ⟨w.heap.size + 1 + 1, 2, none⟩ v).same D _ hK rfl
    have eR : Blk _ (w.heap.size + 1 + 1) 63 #[.int .i64 start, .int .i64 next, v] := (((Hp.out.res.other (B' := w.heap.size) (by omega) 2 v).setAt 0 (.int .i64 start)).setAt 1 (.int .i64 next)).setAt 2 v
    refine ⟨by simp, .inl ⟨_, _, rfl, run_takeDeferred hK', ?_⟩⟩
    obtain ⟨d0, d1, d2⟩ := (eR.kept (grownBy_putObj' _ D (.deferred none)) (by intro h; cases h; omega)).row
    have far : ∀ b, b < s1 + 3 → some b ≠ v.ownBlock := fun b hb => Gen.owns_far Hp.out.own hb
    have o4 := Gen.owns_set (C := w.heap.size + 1 + 1) (i := 2) (u := v) (Gen.owns_set (C := w.heap.size + 1 + 1) (i := 1) (u := .int .i64 next) (Gen.owns_set (C := w.heap.size + 1 + 1) (i := 0) (u := .int .i64 start) (Gen.owns_set (C := w.heap.size) (i := 2) (u := v) Hp.out.own (far _ (by omega))) (far _ (by omega))) (far _ (by omega))) (far _ (by omega))
    refine ⟨.agg #[.int .i64 start, .int .i64 next, v], ?_, v, rfl, (by rw [HKL.out]; exact ownsRow_putObj (Gen.owns_mono o4 (by omega)) _ hK' rfl), Below.trans (bl_set (bl_set (bl_set (bl_set Hp.out.bel (by omega) _) (by omega) _) (by omega) _) (by omega) _) (belowK_b (w := w) (Nat.le_refl _) _ D _ _ (by omega) hK' rfl rfl)⟩
    simp [results, Try.f50, go_sem, d0, d1, d2]
  case stop =>
    rintro D c pre W hD hpre h hK
    exact h.elim
end Go.Proofs.Ytnmbbkagjpmhdaa.Items
