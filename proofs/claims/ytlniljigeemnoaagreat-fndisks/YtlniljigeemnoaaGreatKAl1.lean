/-
  Lists of commands; a keeper whose lists lie in given blocks; what commands one behind the other make of a keeper. No condition.
-/
import Derived.Test.YtlniljigeemnoaaGreatKDoP
import Derived.Test.YtlniljigeemnoaaGreatSpecKNew
set_option linter.unusedVariables false
set_option linter.unusedSimpArgs false
set_option maxRecDepth 100000
set_option maxHeartbeats 8000000
namespace Go.Proofs.YtlniljigeemnoaaGreat.Gen
open ChangeShapes WideShapes ChangeAt RowKit Joins Deep Base
open Items (It)
instance : Cel Cq where
  k := 8
  cs x := [.int .i64 x.who, .int .i64 x.seq, .int .i64 x.op, .int .i64 x.a, .int .i64 x.b, .int .i64 x.c, .string x.key, .string x.text]
  len _ := rfl
  one x u hu := by simp at hu; rcases hu with rfl | rfl | rfl | rfl | rfl | rfl | rfl | rfl<;>rfl
theorem In.getCq {w : World} {b o : Nat} {l : List Cq} (h : In w b o l) (i : Nat) (hi : i < l.length) :
 w.cell? ⟨b, o + i * 8, none⟩ = some (.int .i64 l[i].who) /\ w.cell? ⟨b, o + i * 8 + 1, none⟩ = some (.int .i64 l[i].seq) /\ w.cell? ⟨b, o + i * 8 + 2, none⟩ = some (.int .i64 l[i].op) /\ w.cell? ⟨b, o + i * 8 + 3, none⟩ = some (.int .i64 l[i].a) /\ w.cell? ⟨b, o + i * 8 + 4, none⟩ = some (.int .i64 l[i].b) /\ w.cell? ⟨b, o + i * 8 + 5, none⟩ = some (.int .i64 l[i].c) /\ w.cell? ⟨b, o + i * 8 + 6, none⟩ = some (.string l[i].key) /\ w.cell? ⟨b, o + i * 8 + 7, none⟩ = some (.string l[i].text) :=
 ⟨h.cell i hi (f := 0) rfl, h.cell i hi (f := 1) rfl, h.cell i hi (f := 2) rfl, h.cell i hi (f := 3) rfl, h.cell i hi (f := 4) rfl, h.cell i hi (f := 5) rfl, h.cell i hi (f := 6) rfl, h.cell i hi (f := 7) rfl⟩
def okC (c : Cq) : Bool := CmdOk.okB c.who c.seq c.op c.a c.b c.c c.key c.text
theorem okC_R {c : Cq} (h : okC c = true) : c.who < 0 ∨ CqR c := by
 unfold okC CmdOk.okB at h
 split at h
 . left; omega
 . right
   simp only [CmdOk.restB, CmdOk.inB, CmdOk.textB, Bool.and_eq_true, decide_eq_true_eq] at h
   obtain ⟨⟨⟨⟨⟨⟨⟨h1, h2⟩, h3⟩, h4⟩, h5⟩, h6⟩, h7⟩, h8⟩ := h
   exact ⟨h1, ⟨by omega, h2.2⟩, h3, h4, h5, h6, h7.2, h8.2⟩
def stepQ (ro wi le ke : Int) (p : PK) (c : Cq) : PK := if okC c then (doQ ro wi le ke p c).1 else p
def allQ (ro wi le ke : Int) (p : PK) (L : List Cq) : PK := L.foldl (stepQ ro wi le ke) p
theorem Qia (ro wi le ke : Int) (p : PK) (L : List Cq) (n : Nat) (h : n < L.length) : allQ ro wi le ke p (L.take (n + 1)) = stepQ ro wi le ke (allQ ro wi le ke p (L.take n)) L[n] := by
 unfold allQ
 rw [List.take_succ_eq_append_getElem h, List.foldl_append]; rfl
theorem newK_R {ro : Int} {R : Nat} (h : ro = R) (hR : 1 <= R /\ R <= 4) : Kin R 0 (newK true ro) := by
 subst h
 have hr : ((R : Int)).toNat = R := by omega
 simp only [newK, if_true]
 refine ⟨by simp, ?_, by simp, by simp, by simp, ?_, ⟨by show (0 : Int) <= 0; omega, by show (0 : Int) <= 100000; omega⟩, by simp, ?_, by simp, ?_⟩
 . intro r hr
   have := (List.mem_replicate.1 hr).2
   subst this
   rfl
 . intro g hg
   have := (List.mem_replicate.1 hg).2
   subst this
   refine ⟨⟨by show (0 : Int) <= 0; omega, by show (0 : Int) <= 100000; omega⟩, by simp, by simp, ?_, rfl, by simp, ?_⟩
   . intro y hy
     have h1 : y ∈ newO (R : Int) := hy
     unfold newO at h1
     split at h1
     . have h0 := (List.mem_replicate.1 h1).2
       subst h0
       exact ⟨by omega, by omega⟩
     . simp at h1
   . show (newO (R : Int)).length = R
     unfold newO
     rw [if_pos (by simp [inB]; omega)]
     simp
 . intro y hy
   have := (List.mem_replicate.1 hy).2
   subst this
   exact ⟨by omega, by omega⟩
 . intro y hy
   have := (List.mem_replicate.1 hy).2
   subst this
   exact zAn_p
structure KV (W : World) (x : KC) (S : Nat -> Prop) : Prop where
  r : Av W x.rA x.rs S
  ri : ∀ y ∈ x.rs, Av W y.A y.its S
  m : Av W x.mA x.ms S
  mi : ∀ y ∈ x.ms, Av W y.A y.ms S
  g : Av W x.gA x.gs S
  gi : ∀ y ∈ x.gs, Av W y.a1 y.m S /\ Av W y.a2 y.b S /\ Av W y.a3 y.o S
  d : Av W x.dA x.ds S
  l : Av W x.lA x.ls S
section
variable {W W' : World} {x : KC} {S T S' : Nat -> Prop}
theorem KV.at (h : KV W x S) : KAt W x := ⟨h.r.at, fun y hy => (h.ri y hy).at, h.m.at, fun y hy => (h.mi y hy).at, h.g.at, fun y hy => ⟨(h.gi y hy).1.at, (h.gi y hy).2.1.at, (h.gi y hy).2.2.at⟩, h.d.at, h.l.at⟩
theorem KV.offp (h : KV W x S) (k : Offp T W W') (hT : ∀ b, S b -> ¬ T b) : KV W' x S :=
 ⟨h.r.offp k hT, fun y hy => (h.ri y hy).offp k hT, h.m.offp k hT, fun y hy => (h.mi y hy).offp k hT, h.g.offp k hT, fun y hy => ⟨(h.gi y hy).1.offp k hT, (h.gi y hy).2.1.offp k hT, (h.gi y hy).2.2.offp k hT⟩, h.d.offp k hT, h.l.offp k hT⟩
theorem KV.below (h : KV W x S) (k : Below W.heap.size W W') : KV W' x S := h.offp (T := fun _ => False) (Offp.of_below k) (fun _ _ e => e)
theorem KV.mono (h : KV W x S) (s : ∀ b, b < W.heap.size -> S b -> S' b) : KV W x S' :=
 ⟨h.r.mono s, fun y hy => (h.ri y hy).mono s, h.m.mono s, fun y hy => (h.mi y hy).mono s, h.g.mono s, fun y hy => ⟨(h.gi y hy).1.mono s, (h.gi y hy).2.1.mono s, (h.gi y hy).2.2.mono s⟩, h.d.mono s, h.l.mono s⟩
theorem Pl.av {α : Type} [Cel α] {A : Option Addr} {l : List α} {b : Nat} (h : Pl W A l b) (hS : S b) : Av W A l S := .inr ⟨b, 0, h.a, h.lt, h.i, hS⟩
theorem KQ.kv {br bg bd bl : Nat} (h : KQ W x S br bg bd bl) : KV W x S :=
 ⟨h.r.av h.s.1, fun y hy => (h.ri y hy).mono (fun _ _ e => e.1), h.m.mono (fun _ _ e => e.1), fun y hy => (h.mi y hy).mono (fun _ _ e => e.1), h.g.av h.s.2.1, fun y hy => ⟨(h.gi y hy).1.mono (fun _ _ e => e.1), (h.gi y hy).2.1.mono (fun _ _ e => e.1), (h.gi y hy).2.2.mono (fun _ _ e => e.1)⟩, h.d.av h.s.2.2.1, h.l.av h.s.2.2.2⟩
theorem Own.av {α : Type} [Cel α] {P : World -> α -> (Nat -> Prop) -> Prop} {A : Option Addr} {l : List α} (h : Own P W A l S) : Av W A l S :=
 h.imp id fun ⟨b, o, fp, e, hs, hf, hO⟩ => ⟨b, o, e, hO.lt, hO.lst, hs⟩
theorem Own.mem {α : Type} [Cel α] {P : World -> α -> (Nat -> Prop) -> Prop} {A : Option Addr} {l : List α} (h : Own P W A l S) {y : α} (hy : y ∈ l) : ∃ F : Nat -> Prop, P W y F /\ ∀ z, F z -> S z := by
 rcases h with h | ⟨b, o, fp, e, hs, hf, hO⟩
 . subst h; simp at hy
 . obtain ⟨i, hi, rfl⟩ := List.mem_iff_getElem.1 hy
   exact ⟨fp i, hO.sub i hi, hf i⟩
theorem KOwn.kv (h : KOwn W x S) : KV W x S := by
 obtain ⟨col, h⟩ := h
 refine ⟨h.r.av.mono (fun _ _ e => e.1), fun y hy => ?_, h.m.av.mono (fun _ _ e => e.1), fun y hy => ?_, h.g.av.mono (fun _ _ e => e.1), fun y hy => ?_, Av.of_sub h.d (fun _ e => e.1), Av.of_sub h.l (fun _ e => e.1)⟩
 . obtain ⟨F, hF, hS⟩ := h.r.mem hy
   exact Av.of_sub hF (fun z hz => (hS z hz).1)
 . obtain ⟨F, hF, hS⟩ := h.m.mem hy
   exact Av.of_sub hF (fun z hz => (hS z hz).1)
 . obtain ⟨F, ⟨S1, S2, S3, i1, i2, i3, _, _, _, s1, s2, s3⟩, hS⟩ := h.g.mem hy
   exact ⟨Av.of_sub s1 (fun z hz => (hS z (i1 z hz)).1), Av.of_sub s2 (fun z hz => (hS z (i2 z hz)).1), Av.of_sub s3 (fun z hz => (hS z (i3 z hz)).1)⟩
end
theorem Qdq {α : Type} [Cel α] {B g : Nat} {W : World} {t : TypeId} (h : B <= W.heap.size) (hg : g = W.heap.size) : (W.alloc (.cells #[] t)).ownsRow B t (Cel.k α) (.slice (some ⟨g, 0, none⟩) ([] : List α).length 0) ([] : List α).length (flat ([] : List α)) := by
 subst hg
 exact ⟨by simp [flat], .inr ⟨W.heap.size, 0, #[], rfl, h, Blk.new W t #[], by simp, by simp [maxLen], by simp, by simp [flat]⟩⟩
structure Al (w W : World) (PT : Nat) (sc : Array Value) (a : Option Addr) (c : Nat) (xs : List An) (y : KC) (lo hi : Nat) : Prop where
  sb : Blk W w.heap.size 84 sc
  rb : Blk W (w.heap.size + 1) 90 Qab
  kb : Blk W PT 90 y.cells
  kv : KV W y (fun b => lo <= b /\ b < hi)
  hi' : hi <= W.heap.size
  own : W.ownsRow (w.heap.size + 1 + 1) 130 4 (.slice a xs.length c) xs.length (flat xs)
  ob : ∀ z, (Value.slice a xs.length c).ownBlock = some z -> ¬ (lo <= z /\ z < hi) /\ z ≠ PT
  bl : Below w.heap.size w W
  pt : w.heap.size + 1 < PT /\ ¬ (lo <= PT /\ PT < hi)
  lo' : w.heap.size + 1 < lo
section
variable {w W W' : World} {PT : Nat} {sc : Array Value} {a : Option Addr} {c : Nat} {xs : List An} {y : KC} {lo hi : Nat}
theorem Al.below (h : Al w W PT sc a c xs y lo hi) (g : Below W.heap.size W W') : Al w W' PT sc a c xs y lo hi :=
 ⟨h.sb.below g h.sb.lt, h.rb.below g h.rb.lt, h.kb.below g h.kb.lt, h.kv.below g, Nat.le_trans h.hi' g.size, Qaq h.own g, h.ob, via0 g h.bl, h.pt, h.lo'⟩
theorem Al.alloc (h : Al w W PT sc a c xs y lo hi) (ob : Obj) : Al w (W.alloc ob) PT sc a c xs y lo hi := h.below (Qaf (Below.refl _ _) _)
theorem Al.drew (h : Al w W PT sc a c xs y lo hi) : Al w W.drew PT sc a c xs y lo hi := h.below (Below.refl _ _).drew
theorem Al.only {q : Nat} (h : Al w W PT sc a c xs y lo hi) (k : Only q W W') (hq : w.heap.size + 1 < q /\ q ≠ PT /\ ¬ (lo <= q /\ q < hi)) (ho : (Value.slice a xs.length c).ownBlock ≠ some q) : Al w W' PT sc a c xs y lo hi :=
 ⟨h.sb.only k (by omega), h.rb.only k (by omega), h.kb.only k (fun e => hq.2.1 e.symm), h.kv.offp (Offp.of_only k) (fun b hb e => hq.2.2 (e ▸ hb)), Nat.le_trans h.hi' k.size, Qa9 h.own (Offp.of_only k) (fun z hz e => ho (by rw [hz, e])), h.ob, h.bl.trans ((Off.of_only k).toBelow (by simp; omega) h.bl.size), h.pt, h.lo'⟩
theorem Al.setK (h : Al w W PT sc a c xs y lo hi) {y' : KC} {lo2 hi2 : Nat} (k : Only PT W W') (hb : Blk W' PT 90 y'.cells) (hv : KV W y' (fun b => lo2 <= b /\ b < hi2)) (h1 : hi2 <= W.heap.size) (h2 : ∀ z, (Value.slice a xs.length c).ownBlock = some z -> z < lo2) (h3 : PT < lo2) : Al w W' PT sc a c xs y' lo2 hi2 := by
 have hp := h.pt
 exact ⟨h.sb.only k (by omega), h.rb.only k (by omega), hb, hv.offp (Offp.of_only k) (fun b hb e => by omega), Nat.le_trans h1 k.size, Qa9 h.own (Offp.of_only k) (fun z hz e => (h.ob z hz).2 e), fun z hz => ⟨by have := h2 z hz; omega, (h.ob z hz).2⟩, h.bl.trans ((Off.of_only k).toBelow (by simp; omega) h.bl.size), ⟨hp.1, by omega⟩, by omega⟩
theorem Al.app (h : Al w W PT sc a c xs y lo hi) (x : An) (cs : Array Value) (hcs : cs.toList = Cel.cs x) (hx : xs.length <= 1000000) :
 ∃ a2 c2 W2, (Builtin.append_ #[88, 88] 88 #[.slice a xs.length c, .slice (some ⟨W.heap.size, 0, none⟩) 1 1]).run Tryz.prog (W.alloc (.cells cs 130)) = .ok (.slice a2 (xs.length + 1) c2) W2 /\ Al w W2 PT sc a2 c2 (xs ++ [x]) y lo hi := by
 have h1 := h.alloc (.cells cs 130)
 have hX : At (W.alloc (.cells cs 130)) (some ⟨W.heap.size, 0, none⟩) [x] := by
  refine .inr ⟨_, 0, rfl, by simp, fun j u hu => ?_⟩
  rw [Qdc, ← hcs] at hu
  rw [Nat.zero_add]
  exact (Blk.new W 130 cs).cell (by simpa using hu)
 have hsz := h1.bl.size
 have hrl := h1.rb.lt
 obtain ⟨v', W2, hr, hown, hgrow, hob⟩ := Qbd (P := Tryz.prog) (α := An) Tryz.underlying88 infoAn rfl (by decide) (by decide) (w.heap.size + 1 + 1) (.slice a xs.length c) xs [x] (some ⟨W.heap.size, 0, none⟩) 1 _ (by omega) h1.own hX (by simp; omega)
 simp only [List.length_cons, List.length_nil, Nat.zero_add] at hown hr
 obtain ⟨a2, c2, rfl, _⟩ := Qao hown
 have ko := Qb5 hgrow
 have hlo : ∀ z, (Value.slice a xs.length c).ownBlock = some z -> w.heap.size + 1 < z := fun z hz => (h.own.lt z hz).1
 have hlen : (xs ++ [x]).length = xs.length + 1 := by simp
 refine ⟨a2, c2, W2, hr, ⟨h1.sb.offp ko (fun e => by have := hlo _ e; omega), h1.rb.offp ko (fun e => by have := hlo _ e; omega), h1.kb.offp ko (fun e => (h.ob _ e).2 rfl), h1.kv.offp ko (fun b hb e => (h.ob _ e).1 hb), Nat.le_trans h1.hi' ko.size, by rw [hlen]; exact hown, ?_, h1.bl.trans (ko.toBelow (fun z hz => by have := hlo _ hz; omega) h1.bl.size), h.pt, h.lo'⟩⟩
 intro z hz
 rw [hlen] at hz
 rcases hob with h' | h'
 . rw [h'] at hz; exact h.ob z hz
 . rw [h'] at hz
   simp only [World.size_alloc, Option.some.injEq] at hz
   have h2 := h.hi'
   have h3 := h.kb.lt
   exact ⟨by omega, by omega⟩
end
end Go.Proofs.YtlniljigeemnoaaGreat.Gen
