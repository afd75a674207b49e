/-
  Messages, and lists of them, each with its list of entries: how they lie, and that the laws' eq functions find the same the same. No condition but that there are as many as an int counts.
-/
import Derived.Test.YtkmkldjipihceaaGreatEnt
set_option linter.unusedVariables false
set_option linter.unusedSimpArgs false
set_option maxRecDepth 100000
set_option maxHeartbeats 8000000
set_option maxRecDepth 100000
set_option maxHeartbeats 8000000
namespace Go.Proofs.YtkmkldjipihceaaGreat.Gen
open ChangeShapes WideShapes ChangeAt RowKit Joins Deep Base
structure RpC where
  kind : Int
  frm : Int
  too : Int
  term : Int
  index : Int
  iterm : Int
  commit : Int
  A : Option Addr
  cap : Nat
  l : List En
  ok : Bool
  snap : ByteArray
structure RpP where
  kind : Int
  frm : Int
  too : Int
  term : Int
  index : Int
  iterm : Int
  commit : Int
  l : List En
  ok : Bool
  snap : ByteArray
instance : Inhabited RpC := ⟨⟨0, 0, 0, 0, 0, 0, 0, none, 0, [], false, ⟨#[]⟩⟩⟩
instance : Cel RpC where
  k := 10
  cs x := [Value.int .i64 x.kind, Value.int .i64 x.frm, Value.int .i64 x.too, Value.int .i64 x.term, Value.int .i64 x.index, Value.int .i64 x.iterm, Value.int .i64 x.commit, Value.slice x.A x.l.length x.cap, Value.bool x.ok, Value.string x.snap]
  len _ := rfl
  one x u hu := by simp at hu; rcases hu with rfl | rfl | rfl | rfl | rfl | rfl | rfl | rfl | rfl | rfl<;>rfl
def RpC.p (x : RpC) : RpP := ⟨x.kind, x.frm, x.too, x.term, x.index, x.iterm, x.commit, x.l, x.ok, x.snap⟩
def EachP (w : World) (l : List RpC) : Prop := ∀ x ∈ l, At w x.A x.l
theorem EachP.below {w w' : World} {l : List RpC} (h : EachP w l) (hw : Below w.heap.size w w') : EachP w' l := fun x hx => (h x hx).below hw
def rpcP (w : World) (x : RpC) (S : Nat -> Prop) : Prop := Sub w x.A x.l S
theorem Qdg : Firm rpcP := fun w w' x S T h k hd => Sub.offp h k hd
theorem Qgt {S : Nat -> Prop} {w : World} {a : Option Addr} {l : List RpC} (h : Own rpcP w a l S) : EachP w l := h.each (fun x S hx => Sub.at hx)
theorem In.getRpC {w : World} {b o : Nat} {l : List RpC} (h : In w b o l) (i : Nat) (hi : i < l.length) :
 w.cell? ⟨b, o + i * 10, none⟩ = some (Value.int .i64 l[i].kind) /\ w.cell? ⟨b, o + i * 10 + 1, none⟩ = some (Value.int .i64 l[i].frm) /\ w.cell? ⟨b, o + i * 10 + 2, none⟩ = some (Value.int .i64 l[i].too) /\ w.cell? ⟨b, o + i * 10 + 3, none⟩ = some (Value.int .i64 l[i].term) /\ w.cell? ⟨b, o + i * 10 + 4, none⟩ = some (Value.int .i64 l[i].index) /\ w.cell? ⟨b, o + i * 10 + 5, none⟩ = some (Value.int .i64 l[i].iterm) /\ w.cell? ⟨b, o + i * 10 + 6, none⟩ = some (Value.int .i64 l[i].commit) /\ w.cell? ⟨b, o + i * 10 + 7, none⟩ = some (Value.slice l[i].A l[i].l.length l[i].cap) /\ w.cell? ⟨b, o + i * 10 + 8, none⟩ = some (Value.bool l[i].ok) /\ w.cell? ⟨b, o + i * 10 + 9, none⟩ = some (Value.string l[i].snap) :=
 ⟨h.cell i hi (f := 0) rfl, h.cell i hi (f := 1) rfl, h.cell i hi (f := 2) rfl, h.cell i hi (f := 3) rfl, h.cell i hi (f := 4) rfl, h.cell i hi (f := 5) rfl, h.cell i hi (f := 6) rfl, h.cell i hi (f := 7) rfl, h.cell i hi (f := 8) rfl, h.cell i hi (f := 9) rfl⟩
theorem infoRpC : (Tryz.prog.info? 113).map (fun i => (i.zero, i.size, i.bytes)) = some (some (.agg Qgw), 10, 104) := by kernel_rfl
theorem Blk.row10 {W : World} {B : Nat} {t : TypeId} {a b c d e f g h i j : Value} (p : Blk W B t #[a, b, c, d, e, f, g, h, i, j]) : W.cell? ⟨B, 0, none⟩ = some a /\ W.cell? ⟨B, 1, none⟩ = some b /\ W.cell? ⟨B, 2, none⟩ = some c /\ W.cell? ⟨B, 3, none⟩ = some d /\ W.cell? ⟨B, 4, none⟩ = some e /\ W.cell? ⟨B, 5, none⟩ = some f /\ W.cell? ⟨B, 6, none⟩ = some g /\ W.cell? ⟨B, 7, none⟩ = some h /\ W.cell? ⟨B, 8, none⟩ = some i /\ W.cell? ⟨B, 9, none⟩ = some j :=
 ⟨p.cell (by rfl), p.cell (by rfl), p.cell (by rfl), p.cell (by rfl), p.cell (by rfl), p.cell (by rfl), p.cell (by rfl), p.cell (by rfl), p.cell (by rfl), p.cell (by rfl)⟩
theorem eqRpc_same (kind frm too term index iterm commit : Int) (ok : Bool) (snap : ByteArray) (A A' : Option Addr) (cap cap' : Nat) (l : List En) (hl : l.length <= 9223372036854775807) (w : World) (hA : At w A l) (hA' : At w A' l) :
 Calls Tryz.prog 63 #[.agg (Qaf kind frm too term index iterm commit A l.length cap ok snap), .agg (Qaf kind frm too term index iterm commit A' l.length cap' ok snap)] w fun e w' => e = .returned (.bool true) /\ Below w.heap.size w w' := by
 have HA : Hid (∀ W : World, Below w.heap.size w W -> At W A l) := fun W hW => hA.below hW
 have HA' : Hid (∀ W : World, Below w.heap.size w W -> At W A' l) := fun W hW => hA'.below hW
 clear hA hA'
 have p0 : Blk ((w.alloc (.cells (Qaf kind frm too term index iterm commit A l.length cap ok snap) 113)).alloc (.cells (Qaf kind frm too term index iterm commit A' l.length cap' ok snap) 113)) w.heap.size 113 (Qaf kind frm too term index iterm commit A l.length cap ok snap) := (Blk.new w _ _).alloc _
 have r0 : Blk ((w.alloc (.cells (Qaf kind frm too term index iterm commit A l.length cap ok snap) 113)).alloc (.cells (Qaf kind frm too term index iterm commit A' l.length cap' ok snap) 113)) (w.heap.size + 1) 113 (Qaf kind frm too term index iterm commit A' l.length cap' ok snap) := by
  have := Blk.new (w.alloc (.cells (Qaf kind frm too term index iterm commit A l.length cap ok snap) 113)) 113 (Qaf kind frm too term index iterm commit A' l.length cap' ok snap)
  rwa [World.size_alloc] at this
 cases ok
 all_goals
  go_enter Tryz.func63, Tryz.ntmps63
  go_wp2_with fail
  refine (Qdl A A' cap cap' l hl _ (HA.out _ (by repeat (first | exact Below.refl _ _ | assumption | refine via0 (by assumption) ?_ | refine Below.drew ?_ | refine Qab ?_ _))) (HA'.out _ (by repeat (first | exact Below.refl _ _ | assumption | refine via0 (by assumption) ?_ | refine Below.drew ?_ | refine Qab ?_ _)))).mono ?_
  rintro e w1 ⟨rfl, g1⟩
  have B1 : Below w.heap.size w w1 := by repeat (first | exact Below.refl _ _ | assumption | refine via0 (by assumption) ?_ | refine Below.drew ?_ | refine Qab ?_ _)
  have p1 := p0.below g1 p0.lt
  have r1 := r0.below g1 r0.lt
  obtain ⟨d0, d1, d2, d3, d4, d5, d6, d7, d8, d9⟩ := p1.row10
  obtain ⟨e0, e1, e2, e3, e4, e5, e6, e7, e8, e9⟩ := r1.row10
  have q1 := p1.lt
  have q2 := r1.lt
  clear g1
  go_wp2
  go_ret
  exact ⟨rfl, B1⟩
theorem Qel (A A' : Option Addr) (cap cap' : Nat) (l l' : List RpC) (hl : l.length <= 9223372036854775807) (hr : ∀ x ∈ l, x.l.length <= 9223372036854775807) (hsame : l'.map RpC.p = l.map RpC.p) (w : World) (hA : At w A l) (hE : EachP w l) (hA' : At w A' l') (hE' : EachP w l') :
 Calls Tryz.prog 28 #[.slice A l.length cap, .slice A' l.length cap'] w fun e w' => e = .returned (.bool true) /\ Below w.heap.size w w' := by
 have HA := hidP hA
 have HE := hidP hE
 have HA' := hidP hA'
 have HE' := hidP hE'
 have Hr := hidP hr
 have HS := hidP hsame
 have HLL : Hid (l'.length = l.length) := by have := congrArg List.length hsame; show _ = _; simpa using this
 clear hA hE hA' hE' hr hsame
 go_enter Tryz.func28, Tryz.ntmps28
 go_wp2
 go_loopw [5] (fun i w' => ∃ (n : Nat), i = .int .i64 (n : Int) /\ n <= l.length /\ Below w.heap.size w w') (fun i _ => l.length - (intOf i).toNat)
 case atStart => exact ⟨0, rfl, by omega, Below.refl _ _⟩
 case round =>
  obtain ⟨n, rfl, hn, hbl⟩ := hrel
  by_cases hlt : n < l.length
  . have hll := HLL.out
    obtain ⟨b, o, rfl, hbs, hin⟩ : ∃ b o, A = some ⟨b, o, none⟩ /\ b < w.heap.size /\ In w b o l := by
     rcases HA.out with h | h
     . subst h; simp at hlt
     . exact h
    obtain ⟨b', o', rfl, hbs', hin'⟩ : ∃ b o, A' = some ⟨b, o, none⟩ /\ b < w.heap.size /\ In w b o l' := by
     rcases HA'.out with h | h
     . subst h; simp at hll; omega
     . exact h
    have hp : (l'[n]'(by omega)).p = l[n].p := by
     have h1 : (l'.map RpC.p)[n]'(by simp; omega) = (l.map RpC.p)[n]'(by simpa using hlt) := by simp only [HS.out]
     simpa using h1
    obtain ⟨c0, c1, c2, c3, c4, c5, c6, c7, c8, c9⟩ := (hin.below hbs hbl).getRpC n hlt
    obtain ⟨d0, d1, d2, d3, d4, d5, d6, d7, d8, d9⟩ := (hin'.below hbs' hbl).getRpC n (by omega)
    have hat := HE.out _ (List.getElem_mem hlt)
    have hat' := HE'.out _ (List.getElem_mem (show n < l'.length by omega))
    have hms := Hr.out _ (List.getElem_mem hlt)
    generalize l'[n]'(by omega) = y at hp d0 d1 d2 d3 d4 d5 d6 d7 d8 d9 hat'
    generalize l[n] = x at hp c0 c1 c2 c3 c4 c5 c6 c7 c8 c9 hat hms
    obtain ⟨y0, y1, y2, y3, y4, y5, y6, yA, yc, yi, yo, ys⟩ := y
    obtain ⟨x0, x1, x2, x3, x4, x5, x6, xA, xc, xi, xo, xs⟩ := x
    simp only [RpC.p, RpP.mk.injEq] at hp
    obtain ⟨rfl, rfl, rfl, rfl, rfl, rfl, rfl, rfl, rfl, rfl⟩ := hp
    simp only at c0 c1 c2 c3 c4 c5 c6 c7 c8 c9 d0 d1 d2 d3 d4 d5 d6 d7 d8 d9 hat hat' hms
    have Hat := hidP (hat.below hbl)
    have Hat' := hidP (hat'.below hbl)
    clear hat hat' hll
    have hb1 : b < wr.heap.size := Nat.lt_of_lt_of_le hbs hbl.size
    have hb2 : b' < wr.heap.size := Nat.lt_of_lt_of_le hbs' hbl.size
    have hi0 : (0 : Int) <= (n : Int) := by omega
    have hi1 : (n : Int) < (l.length : Int) := by omega
    go_wp2
    go_region_held3 (fun w' => w'.cell? ⟨b, o + n * 10, none⟩ = some (.int .i64 y0) /\ w'.cell? ⟨b, o + n * 10 + 1, none⟩ = some (.int .i64 y1) /\ w'.cell? ⟨b, o + n * 10 + 2, none⟩ = some (.int .i64 y2) /\ w'.cell? ⟨b, o + n * 10 + 3, none⟩ = some (.int .i64 y3) /\ w'.cell? ⟨b, o + n * 10 + 4, none⟩ = some (.int .i64 y4) /\ w'.cell? ⟨b, o + n * 10 + 5, none⟩ = some (.int .i64 y5) /\ w'.cell? ⟨b, o + n * 10 + 6, none⟩ = some (.int .i64 y6) /\ w'.cell? ⟨b, o + n * 10 + 7, none⟩ = some (.slice xA yi.length xc) /\ w'.cell? ⟨b, o + n * 10 + 8, none⟩ = some (.bool yo) /\ w'.cell? ⟨b, o + n * 10 + 9, none⟩ = some (.string ys) /\ w'.cell? ⟨b', o' + n * 10, none⟩ = some (.int .i64 y0) /\ w'.cell? ⟨b', o' + n * 10 + 1, none⟩ = some (.int .i64 y1) /\ w'.cell? ⟨b', o' + n * 10 + 2, none⟩ = some (.int .i64 y2) /\ w'.cell? ⟨b', o' + n * 10 + 3, none⟩ = some (.int .i64 y3) /\ w'.cell? ⟨b', o' + n * 10 + 4, none⟩ = some (.int .i64 y4) /\ w'.cell? ⟨b', o' + n * 10 + 5, none⟩ = some (.int .i64 y5) /\ w'.cell? ⟨b', o' + n * 10 + 6, none⟩ = some (.int .i64 y6) /\ w'.cell? ⟨b', o' + n * 10 + 7, none⟩ = some (.slice yA yi.length yc) /\ w'.cell? ⟨b', o' + n * 10 + 8, none⟩ = some (.bool yo) /\ w'.cell? ⟨b', o' + n * 10 + 9, none⟩ = some (.string ys) /\ wr.heap.size <= w'.heap.size)
     (first | (go_split_ands; refine ⟨?_, ?_, ?_, ?_, ?_, ?_, ?_, ?_, ?_, ?_, ?_, ?_, ?_, ?_, ?_, ?_, ?_, ?_, ?_, ?_, ?_⟩<;>first | assumption | exact (k1 _ _ hb1).trans (by assumption) | exact (k1 _ _ hb2).trans (by assumption) | exact s1 | (simp; done)) | go_keep)
     (first
      | (go_at_call 63; refine (eqRpc_same y0 y1 y2 y3 y4 y5 y6 yo ys _ _ _ _ yi hms _ (Hat.out.below (Below.drew (Below.refl _ _))) (Hat'.out.below (Below.drew (Below.refl _ _)))).mono ?_; rintro e w1 ⟨rfl, g1⟩; obtain ⟨k1, m1⟩ := Qax g1; have s1 := g1.size))
    all_goals
     go_wp2
     exact ⟨⟨n + 1, by go_num, by omega, via0 g1 hbl.drew⟩, by simp [intOf]; omega⟩
  . go_wp2
    go_ret
    exact ⟨rfl, hbl⟩
end Go.Proofs.YtkmkldjipihceaaGreat.Gen
