/-
  Lists of answers: how they lie, what the laws' to, sz, eq, mark and held functions of them do; the argument opened. No condition but that there are at most 1048576, and the length that every text has.
-/
import Derived.Test.YtlniljigeemnoaaGreatAns
import Derived.Test.YtlniljigeemnoaaGreatMarkText
set_option linter.unusedVariables false
set_option linter.unusedSimpArgs false
set_option maxRecDepth 100000
set_option maxHeartbeats 8000000
namespace Go.Proofs.YtlniljigeemnoaaGreat.Gen
open ChangeShapes WideShapes ChangeAt RowKit Joins Deep Base
structure An where
  code : Int
  n : Int
  key : ByteArray
  text : ByteArray
instance : Inhabited An := ⟨⟨0, 0, ⟨#[]⟩, ⟨#[]⟩⟩⟩
instance : Cel An where
  k := 4
  cs x := [.int .i64 x.code, .int .i64 x.n, .string x.key, .string x.text]
  len _ := rfl
  one x u hu := by simp at hu; rcases hu with rfl | rfl | rfl | rfl<;>rfl
theorem In.getAn {w : World} {b o : Nat} {l : List An} (h : In w b o l) (i : Nat) (hi : i < l.length) :
 w.cell? ⟨b, o + i * 4, none⟩ = some (.int .i64 l[i].code) /\ w.cell? ⟨b, o + i * 4 + 1, none⟩ = some (.int .i64 l[i].n) /\ w.cell? ⟨b, o + i * 4 + 2, none⟩ = some (.string l[i].key) /\ w.cell? ⟨b, o + i * 4 + 3, none⟩ = some (.string l[i].text) :=
 ⟨h.cell i hi (f := 0) rfl, h.cell i hi (f := 1) rfl, h.cell i hi (f := 2) rfl, h.cell i hi (f := 3) rfl⟩
theorem infoAn : (Tryz.prog.info? 130).map (fun i => (i.zero, i.size, i.bytes)) = some (some (.agg Qai), 4, 48) := by kernel_rfl
def Qbi (l : List Mk) (seq : Int) (n : Nat) : Option Mk := (l.drop n).find? fun x => decide (x.seq = seq)
theorem Qhj {l : List Mk} {seq : Int} {n : Nat} (h : l.length <= n) : Qbi l seq n = none := by
 unfold Qbi; rw [List.drop_eq_nil_of_le h]; rfl
theorem Qhi {l : List Mk} {seq : Int} {n : Nat} (h : n < l.length) (hx : l[n].seq = seq) : Qbi l seq n = some l[n] := by
 unfold Qbi; rw [List.drop_eq_getElem_cons h, List.find?_cons_of_pos (by simpa using hx)]
theorem Qgo {l : List Mk} {seq : Int} {n : Nat} (h : n < l.length) (hx : ¬ l[n].seq = seq) : Qbi l seq n = Qbi l seq (n + 1) := by
 unfold Qbi; rw [List.drop_eq_getElem_cons h, List.find?_cons_of_neg (by simpa using hx)]
def upC (l : List Mk) (seq : Int) : Int := match Qbi l seq 0 with | some _ => 1 | none => 2
def upO (l : List Mk) (seq : Int) : Int := match Qbi l seq 0 with | some x => x.off | none => 0
def askC (epoch last : Int) (l : List Mk) (ep seq : Int) : Int :=
  if ep < epoch then 4 else if ep > epoch then (if seq = 0 then 0 else 3) else if seq > last then (if wrap64 (seq - 1) = last then 0 else 3) else upC l seq
def askO (epoch last : Int) (l : List Mk) (ep seq : Int) : Int :=
  if ep < epoch then 0 else if ep > epoch then 0 else if seq > last then 0 else upO l seq
theorem Qcg (row who epoch last ep seq : Int) (A : Option Addr) (cap : Nat) (l : List Mk) (hl : l.length <= 1048576) (w : World) (hA : At w A l) :
 Calls Tryz.prog 108 #[.agg (Qam row who epoch last A l.length cap), .int .i64 ep, .int .i64 seq] w fun e w' => e = .returned (.tuple #[.int .i64 (askC epoch last l ep seq), .int .i64 (askO epoch last l ep seq)]) /\ Below w.heap.size w w' := by
 have HA : Hid (At w A l) := hA
 clear hA
 by_cases h1 : ep < epoch
 . have e1 : Hid (askC epoch last l ep seq = 4) := by show _ = _; simp [askC, h1]
   have e2 : Hid (askO epoch last l ep seq = 0) := by show _ = _; simp [askO, h1]
   go_enter Tryz.func108, Tryz.ntmps108
   go_wp2
   go_ret2
   exact ⟨by rw [e1.out, e2.out]; rfl, by repeat (first | exact Below.refl _ _ | assumption | refine via0 (by assumption) ?_ | refine Below.drew ?_ | refine Qaf ?_ _)⟩
 by_cases h2 : ep > epoch
 . by_cases h3 : seq = 0
   . subst h3
     have e1 : Hid (askC epoch last l ep 0 = 0) := by show _ = _; simp [askC, h1, h2]
     have e2 : Hid (askO epoch last l ep 0 = 0) := by show _ = _; simp [askO, h1, h2]
     go_enter Tryz.func108, Tryz.ntmps108
     go_wp2
     go_ret2
     exact ⟨by rw [e1.out, e2.out]; rfl, by repeat (first | exact Below.refl _ _ | assumption | refine via0 (by assumption) ?_ | refine Below.drew ?_ | refine Qaf ?_ _)⟩
   . have e1 : Hid (askC epoch last l ep seq = 3) := by show _ = _; simp [askC, h1, h2, h3]
     have e2 : Hid (askO epoch last l ep seq = 0) := by show _ = _; simp [askO, h1, h2]
     go_enter Tryz.func108, Tryz.ntmps108
     go_wp2
     go_ret2
     exact ⟨by rw [e1.out, e2.out]; rfl, by repeat (first | exact Below.refl _ _ | assumption | refine via0 (by assumption) ?_ | refine Below.drew ?_ | refine Qaf ?_ _)⟩
 by_cases h3 : seq > last
 . by_cases h4 : wrap64 (seq - 1) = last
   all_goals
    have e1 : Hid (askC epoch last l ep seq = if wrap64 (seq - 1) = last then 0 else 3) := by show _ = _; simp [askC, h1, h2, h3]
    have e2 : Hid (askO epoch last l ep seq = 0) := by show _ = _; simp [askO, h1, h2, h3]
    have h4' := hidP h4
    go_enter Tryz.func108, Tryz.ntmps108
    go_wp2
    go_ret2
    exact ⟨by rw [e1.out, e2.out]; simp [h4'.out], by repeat (first | exact Below.refl _ _ | assumption | refine via0 (by assumption) ?_ | refine Below.drew ?_ | refine Qaf ?_ _)⟩
 have e1 : Hid (askC epoch last l ep seq = upC l seq) := by show _ = _; simp [askC, h1, h2, h3]
 have e2 : Hid (askO epoch last l ep seq = upO l seq) := by show _ = _; simp [askO, h1, h2, h3]
 go_enter Tryz.func108, Tryz.ntmps108
 go_wp2
 go_loopw [8] (fun i w' => ∃ (n : Nat), i = .int .i64 (n : Int) /\ n <= l.length /\ w' = w.alloc (.cells (Qam row who epoch last A l.length cap) 124) /\ Hid (Qbi l seq n = Qbi l seq 0)) (fun i _ => l.length - (intOf i).toNat)
 case atStart => exact ⟨0, rfl, by omega, rfl, rfl⟩
 case round =>
  obtain ⟨n, rfl, hn, rfl, hf⟩ := hrel
  by_cases hlt : n < l.length
  . obtain ⟨b, o, rfl, hbs, hin⟩ : ∃ b o, A = some ⟨b, o, none⟩ /\ b < w.heap.size /\ In w b o l := by
     rcases HA.out with h | h
     . subst h; simp at hlt
     . exact h
    obtain ⟨c0, c1⟩ := hin.getMk n hlt
    have hi0 : (0 : Int) <= (n : Int) := by omega
    have hi1 : (n : Int) < (l.length : Int) := by omega
    by_cases hx : l[n].seq = seq
    . have hF : Hid (Qbi l seq 0 = some l[n]) := by show Qbi l seq 0 = some l[n]; rw [← hf.out, Qhi hlt hx]
      have e3 : Hid (upC l seq = 1) := by show _ = _; unfold upC; rw [hF.out]
      have e4 : Hid (upO l seq = l[n].off) := by show _ = _; unfold upO; rw [hF.out]
      go_wp2
      go_region
      all_goals
       go_wp2
       go_ret2
       exact ⟨by rw [e1.out, e2.out, e3.out, e4.out]; rfl, by repeat (first | exact Below.refl _ _ | assumption | refine via0 (by assumption) ?_ | refine Below.drew ?_ | refine Qaf ?_ _)⟩
    . have hF : Hid (Qbi l seq (n + 1) = Qbi l seq 0) := by show _ = _; rw [← hf.out, Qgo hlt hx]
      go_wp2
      exact ⟨⟨n + 1, by go_num, by omega, by first | trivial | rfl, hF⟩, by simp [intOf]; omega⟩
  . have hF : Hid (Qbi l seq 0 = none) := by show Qbi l seq 0 = none; rw [← hf.out, Qhj (by omega)]
    have e3 : Hid (upC l seq = 2) := by show _ = _; unfold upC; rw [hF.out]
    have e4 : Hid (upO l seq = 0) := by show _ = _; unfold upO; rw [hF.out]
    go_wp2
    go_ret2
    exact ⟨by rw [e1.out, e2.out, e3.out, e4.out]; rfl, by repeat (first | exact Below.refl _ _ | assumption | refine via0 (by assumption) ?_ | refine Below.drew ?_ | refine Qaf ?_ _)⟩
end Go.Proofs.YtlniljigeemnoaaGreat.Gen
namespace Go.Proofs.YtlniljigeemnoaaGreat.Items
open ChangeShapes WideShapes ChangeAt RowKit Base
structure It where
  off : Int
  key : ByteArray
  text : ByteArray
  who : Int
  time : Int
def It.cs (x : It) : List Value := [.int .i64 x.off, .string x.key, .string x.text, .int .i64 x.who, .int .i64 x.time]
def flat (l : List It) : List Value := l.flatMap It.cs
theorem It.cs_length (x : It) : x.cs.length = 5 := rfl
theorem Qbq (l : List It) : (flat l).length = l.length * 5 := by
 induction l with
 | nil => rfl
 | cons a l ih => simp only [flat, List.flatMap_cons, List.length_append, List.length_cons] at ih ⊢; rw [ih, It.cs_length]; omega
theorem Qck (l m : List It) : flat (l ++ m) = flat l ++ flat m := by simp [flat]
theorem Qdc (x : It) : flat [x] = x.cs := by simp [flat]
theorem Qb2 (x : It) (l : List It) : flat (x :: l) = x.cs ++ flat l := by simp [flat]
theorem Qdd (l : List It) : ∀ (i : Nat) (h : i < l.length) (f : Nat), f < 5 -> (flat l)[i * 5 + f]? = (l[i].cs)[f]? := by
 induction l with
 | nil => intro i h; simp at h
 | cons a l ih =>
  intro i h f hf
  rw [Qb2]
  cases i with
  | zero => rw [List.getElem?_append_left (by rw [It.cs_length]; omega)]; simp
  | succ i =>
   rw [List.getElem?_append_right (by rw [It.cs_length]; omega), It.cs_length]
   have e : (i + 1) * 5 + f - 5 = i * 5 + f := by omega
   rw [e, ih i (by simpa using h) f hf]; simp
def In (w : World) (b o : Nat) (l : List It) : Prop := w.rangeAt b o (flat l)
theorem In.get {w : World} {b o : Nat} {l : List It} (h : In w b o l) (i : Nat) (hi : i < l.length) :
 w.cell? ⟨b, o + i * 5, none⟩ = some (.int .i64 l[i].off) /\ w.cell? ⟨b, o + i * 5 + 1, none⟩ = some (.string l[i].key) /\ w.cell? ⟨b, o + i * 5 + 2, none⟩ = some (.string l[i].text) /\
 w.cell? ⟨b, o + i * 5 + 3, none⟩ = some (.int .i64 l[i].who) /\ w.cell? ⟨b, o + i * 5 + 4, none⟩ = some (.int .i64 l[i].time) := by
 have g : ∀ f v, f < 5 -> (l[i].cs)[f]? = some v -> w.cell? ⟨b, o + (i * 5 + f), none⟩ = some v := fun f v hf hv => h (i * 5 + f) v (by rw [Qdd l i hi f hf]; exact hv)
 exact ⟨g 0 _ (by omega) rfl, g 1 _ (by omega) rfl, g 2 _ (by omega) rfl, g 3 _ (by omega) rfl, g 4 _ (by omega) rfl⟩
theorem In.below {w w' : World} {b o : Nat} {l : List It} (h : In w b o l) (hb : b < w.heap.size) (hw : Below w.heap.size w w') : In w' b o l :=
 fun j v hv => (hw.cell (p := ⟨b, o + j, none⟩) hb).trans (h j v hv)
theorem via0 {a b c : World} (k : Below b.heap.size b c) (h : Below a.heap.size a b) : Below a.heap.size a c := h.trans (k.mono h.size)
theorem Qaf {a b : World} (h : Below a.heap.size a b) (o : Obj) : Below a.heap.size a (b.alloc o) := h.alloc h.size o
def It.zero : It := ⟨0, ⟨#[]⟩, ⟨#[]⟩, 0, 0⟩
def It.v (x : It) : Value := .agg (Qba x.off x.key x.text x.who x.time)
def partB (k t : ByteArray) (who time : Int) : Bool := textB k && textB t && inB who 0 3 && inB time 0 100000
def itemB (x : It) : Bool := partB x.key x.text x.who x.time
theorem four (p q r s : Bool) : p = false ∨ (p = true /\ q = false) ∨ (p = true /\ q = true /\ r = false) ∨ (p = true /\ q = true /\ r = true /\ s = false) ∨ (p = true /\ q = true /\ r = true /\ s = true) := by
 cases p<;>cases q<;>cases r<;>cases s<;>simp
theorem Qg6 (off who time : Int) (k t : ByteArray) (hk : k.size <= 9223372036854775807) (ht : t.size <= 9223372036854775807) (w : World) :
 Calls Tryz.prog 114 #[.agg (Qba off k t who time)] w fun e w' => e = .returned (.bool (partB k t who time)) /\ Below w.heap.size w w' := by
 rcases four (textB k) (textB t) (inB who 0 3) (inB time 0 100000) with h1 | ⟨h1, h2⟩ | ⟨h1, h2, h3⟩ | ⟨h1, h2, h3, h4⟩ | ⟨h1, h2, h3, h4⟩
 all_goals
  go_enter Tryz.func114, Tryz.ntmps114
  have q1 : w.heap.size < w.heap.size + 1 := Nat.lt_succ_self _
  go_wp2_with (first
   | (go_at_call 30; refine (Qbp _ _ _ _).mono ?_; rintro e w' ⟨rfl, rfl⟩)
   | (go_at_call_of 83 (Value.string k); refine (Qcn k hk _).mono ?_; rintro e w1 ⟨rfl, g1⟩; obtain ⟨c1, f1⟩ := Qfa g1; have s1 := g1.size; try simp at s1; have q1 : w.heap.size < w1.heap.size := by omega)
   | (go_at_call_of 83 (Value.string t); refine (Qcn t ht _).mono ?_; rintro e w1 ⟨rfl, g1⟩; obtain ⟨c1, f1⟩ := Qfa g1; have s1 := g1.size; try simp at s1; have q1 : w.heap.size < w1.heap.size := by omega))
  go_ret
  refine ⟨by simp [partB, *], ?_⟩
  repeat (first | exact Below.refl _ _ | refine via0 (by assumption) ?_ | refine Below.drew ?_ | refine Qaf ?_ _)
def Qe0 (start nb : Int) : Option Int -> List It -> Bool
  | _, [] => true
  | p, x :: l => itemB x && inB x.off start nb && (match p with | none => true | some o => decide (o < x.off)) && Qe0 start nb (some x.off) l
def Qih (l : List It) (n : Nat) : Option Int := match n with
  | 0 => none
  | p + 1 => (l[p]?).map (·.off)
def Qa0 (start nb : Int) (l : List It) (n : Nat) : Bool := Qe0 start nb (Qih l n) (l.drop n)
theorem Qgx {start nb : Int} {l : List It} {n : Nat} (h : l.length <= n) : Qa0 start nb l n = true := by
 unfold Qa0; rw [List.drop_eq_nil_of_le h]; rfl
def ordB (l : List It) (n : Nat) (x : Int) : Bool := match Qih l n with
  | none => true
  | some o => decide (o < x)
theorem Qf8 {start nb : Int} {l : List It} {n : Nat} (h : n < l.length) :
 Qa0 start nb l n = (itemB l[n] && inB l[n].off start nb && ordB l n l[n].off && Qa0 start nb l (n + 1)) := by
 have e2 : Qih l (n + 1) = some l[n].off := by simp [Qih, List.getElem?_eq_getElem h]
 unfold Qa0 ordB
 rw [e2, List.drop_eq_getElem_cons h]
 cases Qih l n<;>rfl
theorem ordB_zero (l : List It) (x : Int) : ordB l 0 x = true := rfl
theorem ordB_succ {l : List It} {p : Nat} (h : p < l.length) (x : Int) : ordB l (p + 1) x = decide (l[p].off < x) := by
 simp [ordB, Qih, List.getElem?_eq_getElem h]
def rowB (start next : Int) (l : List It) : Bool := Qa0 start (next - 1) l 0 && inB start 0 next && decide (next <= 100000) && decide (l.length <= 80)
theorem Qcu (v : Bool) (off who time : Int) (k t : ByteArray) (hk : k.size <= 9223372036854775807) (ht : t.size <= 9223372036854775807) (h : Hid (partB k t who time = v)) (w : World) :
 Calls Tryz.prog 114 #[.agg (Qba off k t who time)] w fun e w' => e = .returned (.bool v) /\ Below w.heap.size w w' := by
 have := Qg6 off who time k t hk ht w
 rw [h.out] at this
 exact this
theorem in_is (v : Bool) (x lo hi : Int) (h : Hid (inB x lo hi = v)) (w : World) :
 Calls Tryz.prog 30 (Qcj x lo hi) w fun e w' => e = .returned (.bool v) /\ w' = w := by
 have := Qbp x lo hi w
 rw [h.out] at this
 exact this
end Go.Proofs.YtlniljigeemnoaaGreat.Items
namespace Go.Proofs.YtlniljigeemnoaaGreat.Gen
open ChangeShapes WideShapes ChangeAt RowKit Joins Deep Base
instance : Cel UInt8 where
  k := 1
  cs x := [.int .u8 (x.toNat : Int)]
  len _ := rfl
  one x u hu := by simp at hu; subst hu; rfl
theorem In.getB {w : World} {b o : Nat} {l : List UInt8} (h : In w b o l) (i : Nat) (hi : i < l.length) : w.cell? ⟨b, o + i, none⟩ = some (.int .u8 (l[i].toNat : Int)) := by
 have := h.cell i hi (f := 0) rfl
 have e : o + i * Cel.k UInt8 + 0 = o + i := by show o + i * 1 + 0 = o + i; omega
 rwa [e] at this
theorem infoB : (Tryz.prog.info? 5).map (fun i => (i.zero, i.size, i.bytes)) = some (some (.int .u8 0), 1, 1) := by kernel_rfl
theorem Qbr (B : Nat) (v : Value) (l m : List UInt8) (A : Option Addr) (cap : Nat) (w : World) (hB : B <= w.heap.size) (hv : w.ownsRow B 5 1 v l.length (flat l)) (hA : At w A m) (hlen : l.length + m.length <= 1000000000) :
 ∃ v' w', (Builtin.append_ #[22, 22] 22 #[v, .slice A m.length cap]).run Tryz.prog w = .ok v' w' /\ w'.ownsRow B 5 1 v' (l.length + m.length) (flat (l ++ m)) /\ w.grownBy w' v.ownBlock /\ (v'.ownBlock = v.ownBlock ∨ v'.ownBlock = some w.heap.size) := by
 obtain ⟨i0, hi, hz0, hz1, hz2⟩ := info_parts infoB
 by_cases h0 : m = []
 . subst h0
   have e0 : ∃ a n c, v = .slice a n c /\ n <= c := by
    rcases hv.2 with ⟨rfl, _⟩ | ⟨g, c, cur, rfl, _, _, h, _⟩
    . exact ⟨_, _, _, rfl, Nat.le_refl _⟩
    . exact ⟨_, _, _, rfl, h⟩
   obtain ⟨a, n, c, rfl, hle⟩ := e0
   exact ⟨_, _, run_append_nothing w 22 22 22 5 i0 Tryz.underlying22 hi a n c hle _ (hz1 ▸ Qfc _ 22 5 Tryz.underlying22 A cap w), by simpa using hv, World.grownBy.refl _ _, .inl rfl⟩
 . obtain ⟨b, o, rfl, hb, hin⟩ := hA.resolve_left h0
   have hm : 0 < m.length := List.length_pos_iff.2 h0
   obtain ⟨g, c, w', hr, h1, h2, h3, h4⟩ := run_append_lies (P := Tryz.prog) w 22 22 B 5 i0 (.int .u8 0) 1 1 Tryz.underlying22 hi hz0 hz1 hz2 rfl (by decide) v l.length (flat l) hv ⟨b, o, none⟩ m.length cap (flat m) (Qbq m)
    (fun j u hu => by rw [Addr.add_mid]; exact hin j u hu) (Qhw m) hm (by simp [maxLen]; omega) (by omega) hB _ rfl
   exact ⟨_, _, hr, by rw [Qck]; exact h1, h2, h3.imp (fun e => by rw [e]; rfl) (fun e => by rw [← e]; rfl)⟩
def u8 (z : Int) : UInt8 := UInt8.ofNat (z % 256).toNat
theorem one_b (w : World) (x : UInt8) (t : TypeId) : At (w.alloc (.cells #[.int .u8 (x.toNat : Int)] t)) (some ⟨w.heap.size, 0, none⟩) [x] := by
 refine .inr ⟨_, _, rfl, by simp, ?_⟩
 intro j v hv
 rw [Qdc] at hv
 have hj : j < 1 := (List.getElem?_eq_some_iff.1 hv).1
 obtain rfl : j = 0 := by omega
 have hv' : some (Value.int .u8 (x.toNat : Int)) = some v := hv
 rw [← hv']
 simp
theorem flat_map1 (l : List UInt8) : flat l = l.map fun b => Value.int .u8 (b.toNat : Int) := by
 induction l with
 | nil => rfl
 | cons x l ih => rw [Qb2, ih]; rfl
theorem Qiu (w : World) (t : TypeId) (s : ByteArray) : Below w.heap.size w (Go.Lib.bytesWorld w t s) :=
 ⟨rfl, rfl, rfl, by rw [Go.Lib.bytesWorld_size]; omega, fun i hi => Go.Lib.bytesWorld_at_old w t s i hi⟩
theorem bytes_at (w : World) (t : TypeId) (s : ByteArray) : At (Go.Lib.bytesWorld w t s) (some ⟨w.heap.size, 0, none⟩) s.data.toList := by
 refine .inr ⟨_, _, rfl, by rw [Go.Lib.bytesWorld_size]; omega, ?_⟩
 intro j v hv
 rw [flat_map1] at hv
 have hj : j < s.size := by have := (List.getElem?_eq_some_iff.1 hv).1; rwa [List.length_map, Array.length_toList] at this
 rw [Nat.zero_add, Go.Lib.bytesWorld_cell w t s j hj]
 rw [← hv, List.getElem?_map, List.getD_eq_getElem?_getD]
 have : j < s.data.toList.length := by rw [Array.length_toList]; exact hj
 simp [List.getElem?_eq_getElem this]
theorem conv_bytes {A : Option Addr} {cap : Nat} {L : List UInt8} {w : World} (hA : At w A L) : (convert 22 9 (.slice A L.length cap)).run Tryz.prog w = .ok (.string ⟨L.toArray⟩) w := by
 rcases hA with h | ⟨b, o, rfl, hb, hin⟩
 . subst h
   cases A with
   | none => rw [List.length_nil, run_convert_bytes_string w 22 9 5 none 0 cap Tryz.underlying22 Tryz.underlying5 Tryz.underlying9]; simp [Conv.bytesToString, go_sem]; rfl
   | some a =>
    have h := run_convert_bytes_back (P := Tryz.prog) w 22 9 5 a cap [] Tryz.underlying22 Tryz.underlying5 Tryz.underlying9 (fun j hj => by simp at hj)
    simpa using h
 . exact run_convert_bytes_back (P := Tryz.prog) w 22 9 5 ⟨b, o, none⟩ cap L Tryz.underlying22 Tryz.underlying5 Tryz.underlying9 (fun j hj => by rw [Addr.add_mid]; simpa using hin.getB j hj)
theorem newL {α : Type} [Cel α] (W : World) (L : List α) (cs : Array Value) (tt : TypeId) (h : cs.toList = flat L) : At (W.alloc (.cells cs tt)) (some ⟨W.heap.size, 0, none⟩) L := by
 refine .inr ⟨_, _, rfl, by simp, ?_⟩
 intro j v hv
 rw [← h] at hv
 exact (Blk.new W tt cs).cell (i := 0 + j) (by simpa using hv)
end Go.Proofs.YtlniljigeemnoaaGreat.Gen
namespace Go.Proofs.YtlniljigeemnoaaGreat.CmdOk
open ChangeShapes WideShapes ChangeAt RowKit Joins Base
def inB (x lo hi : Int) : Bool := decide (lo <= x /\ x <= hi)
theorem Qbp (x lo hi : Int) (w : World) :
 Calls Tryz.prog 30 (Qcj x lo hi) w fun e w' => e = .returned (.bool (inB x lo hi)) /\ w' = w := by
 by_cases h1 : lo <= x<;>by_cases h2 : x <= hi <;>
 . go_enter Tryz.func30, Tryz.ntmps30
   go_wp2
   go_ret
   exact ⟨by simp [inB, h1, h2], rfl⟩
theorem Qes (x lo hi : Int) (w : World) :
 Calls Tryz.prog 29 (Qcj x lo hi) w fun e w' => e = .returned (.bool (inB x lo hi)) /\ w' = w := by
 by_cases h1 : lo <= x<;>by_cases h2 : x <= hi <;>
 . go_enter Tryz.func29, Tryz.ntmps29
   go_wp2
   go_ret
   exact ⟨by simp [inB, h1, h2], rfl⟩
def Qca (x : Nat) : Bool := decide ((97 <= x /\ x <= 122) ∨ (48 <= x /\ x <= 57) ∨ x = 32)
theorem Qex (x : Nat) :
 ((97 : Int) <= x /\ (x : Int) <= 122 /\ Qca x = true) ∨ ((97 : Int) <= x /\ ¬ (x : Int) <= 122 /\ (48 : Int) <= x /\ ¬ (x : Int) <= 57 /\ ((x : Int) == 32) = false /\ Qca x = false) ∨
 (¬ (97 : Int) <= x /\ (48 : Int) <= x /\ (x : Int) <= 57 /\ Qca x = true) ∨ (¬ (97 : Int) <= x /\ (48 : Int) <= x /\ ¬ (x : Int) <= 57 /\ ((x : Int) == 32) = false /\ Qca x = false) ∨
 (¬ (97 : Int) <= x /\ ¬ (48 : Int) <= x /\ ((x : Int) == 32) = true /\ Qca x = true) ∨ (¬ (97 : Int) <= x /\ ¬ (48 : Int) <= x /\ ((x : Int) == 32) = false /\ Qca x = false) := by
 simp only [beq_eq_false_iff_ne, beq_iff_eq, ne_eq, Qca, decide_eq_true_eq, decide_eq_false_iff_not]
 omega
def Qa4 (s : ByteArray) (i : Nat) : Bool := (s.data.toList.drop i).all (fun x => Qca x.toNat)
def textB (s : ByteArray) : Bool := Qa4 s 0 && decide (s.size <= 30)
theorem Qd7 {s : ByteArray} {i : Nat} (h : s.size <= i) : Qa4 s i = true := by
 have : s.data.toList.drop i = [] := List.drop_eq_nil_of_le (by simpa using h)
 simp [Qa4, this]
theorem Qdk {s : ByteArray} {i : Nat} (h : i < s.size) : Qa4 s i = (Qca (s[i]'h).toNat && Qa4 s (i + 1)) := by
 have h' : i < s.data.toList.length := by simpa using h
 unfold Qa4
 rw [List.drop_eq_getElem_cons h', List.all_cons]
 rfl
theorem Qcn (s : ByteArray) (hs : s.size <= 9223372036854775807) (w : World) :
 Calls Tryz.prog 83 #[.string s] w fun e w' => e = .returned (.bool (textB s)) /\ Below w.heap.size w w' := by
 go_enter Tryz.func83, Tryz.ntmps83
 go_wp2
 go_loopw [3] (fun i w' => ∃ n : Nat, i = .int .i64 (n : Int) /\ n <= s.size /\ Qa4 s n = Qa4 s 0 /\ Below w.heap.size w w') (fun i _ => s.size - (intOf i).toNat)
 case atStart => exact ⟨0, rfl, by omega, rfl, Below.refl _ _⟩
 case round =>
  obtain ⟨n, rfl, hn, hE, hb⟩ := hrel
  by_cases hlt : n < s.size
  . have hst := Qdk hlt
    rcases Qex s[n].toNat with ⟨h1, h2, hp⟩ | ⟨h1, h2, h3, h4, h5, hp⟩ | ⟨h1, h2, h3, hp⟩ | ⟨h1, h2, h3, h4, hp⟩ | ⟨h1, h2, h3, hp⟩ | ⟨h1, h2, h3, hp⟩
    . have hE' : Qa4 s (n + 1) = Qa4 s 0 := by rw [← hE, hst, hp]; rfl
      clear hE hst hp
      go_wp2
      exact ⟨⟨n + 1, by go_num, by omega, hE', hb⟩, by simp [intOf]; omega⟩
    . have hE' : textB s = false := by
       have h0 : Qa4 s 0 = false := by rw [← hE, hst, hp]; rfl
       simp [textB, h0]
      clear hE hst hp
      go_wp2
      go_ret
      exact ⟨by first | rfl | (rw [hE']; rfl), hb⟩
    . have hE' : Qa4 s (n + 1) = Qa4 s 0 := by rw [← hE, hst, hp]; rfl
      clear hE hst hp
      go_wp2
      exact ⟨⟨n + 1, by go_num, by omega, hE', hb⟩, by simp [intOf]; omega⟩
    . have hE' : textB s = false := by
       have h0 : Qa4 s 0 = false := by rw [← hE, hst, hp]; rfl
       simp [textB, h0]
      clear hE hst hp
      go_wp2
      go_ret
      exact ⟨by first | rfl | (rw [hE']; rfl), hb⟩
    . have hE' : Qa4 s (n + 1) = Qa4 s 0 := by rw [← hE, hst, hp]; rfl
      clear hE hst hp
      go_wp2
      exact ⟨⟨n + 1, by go_num, by omega, hE', hb⟩, by simp [intOf]; omega⟩
    . have hE' : textB s = false := by
       have h0 : Qa4 s 0 = false := by rw [← hE, hst, hp]; rfl
       simp [textB, h0]
      clear hE hst hp
      go_wp2
      go_ret
      exact ⟨by first | rfl | (rw [hE']; rfl), hb⟩
  . have hE' : Qa4 s 0 = true := by rw [← hE, Qd7 (by omega)]
    have hE2 : textB s = decide (s.size <= 30) := by simp [textB, hE']
    by_cases hl : (s.size : Int) <= 30
    . have : s.size <= 30 := by omega
      go_wp2
      go_ret
      exact ⟨by first | (rw [hE2]; simp [this]; done) | simp, hb⟩
    . have : ¬ s.size <= 30 := by omega
      go_wp2
      go_ret
      exact ⟨by first | (rw [hE2]; simp [this]; done) | simp, hb⟩
theorem own : ownKnob Tryz.prog.godebug = none := by kernel_rfl
theorem laidOut : laidOutB Tryz.prog = true := by kernel_rfl
def restB (who seq op a b c : Int) (k t : ByteArray) : Bool :=
  inB who 0 3 && inB seq 1 100000 && inB op 1 10 && inB a 0 100000 && inB b 0 100000 && inB c 0 100000 && textB k && textB t
def nobodyB (seq op a b c : Int) (k t : ByteArray) : Bool :=
  seq == 0 && op == 0 && a == 0 && b == 0 && c == 0 && k.toList == [] && t.toList == []
def okB (who seq op a b c : Int) (k t : ByteArray) : Bool := if who = -1 then nobodyB seq op a b c k t else restB who seq op a b c k t
theorem eqC (who seq op a b c : Int) (k t : ByteArray) (w : World) :
 (Op.equalIn 10000 105 (.agg (Qad who seq op a b c k t)) (.agg (Qad (-1) 0 0 0 0 0 ⟨#[]⟩ ⟨#[]⟩))).run Tryz.prog w = .ok (who == -1 && nobodyB seq op a b c k t) w := by
 have u3 := Tryz.underlying3
 have us := Tryz.underlying9
 have hS : Tryz.prog.underlying 105 = some (.struct (Tryz.prog.fieldsOf 105)) := by kernel_rfl
 rw [show (10000 : Nat) = 9999 + 1 from rfl, run_equalIn_agg w 9999 105 _ _ hS (by kernel_rfl)]
 simp only [Program.fieldsOf, Tryz.underlying105]
 go_simp
 simp only [nobodyB]
 repeat' split
 all_goals simp_all
theorem eight (p0 p1 p2 p3 p4 p5 p6 p7 : Bool) : p0 = false ∨ (p0 = true /\ p1 = false) ∨ (p0 = true /\ p1 = true /\ p2 = false) ∨ (p0 = true /\ p1 = true /\ p2 = true /\ p3 = false) ∨
 (p0 = true /\ p1 = true /\ p2 = true /\ p3 = true /\ p4 = false) ∨ (p0 = true /\ p1 = true /\ p2 = true /\ p3 = true /\ p4 = true /\ p5 = false) ∨
 (p0 = true /\ p1 = true /\ p2 = true /\ p3 = true /\ p4 = true /\ p5 = true /\ p6 = false) ∨ (p0 = true /\ p1 = true /\ p2 = true /\ p3 = true /\ p4 = true /\ p5 = true /\ p6 = true /\ p7 = false) ∨
 (p0 = true /\ p1 = true /\ p2 = true /\ p3 = true /\ p4 = true /\ p5 = true /\ p6 = true /\ p7 = true) := by
 cases p0<;>cases p1<;>cases p2<;>cases p3<;>cases p4<;>cases p5<;>cases p6<;>cases p7<;>simp
theorem Qic (seq op a b c : Int) (k t : ByteArray) (w : World) :
 Calls Tryz.prog 77 #[.agg (Qad (-1) seq op a b c k t)] w fun e w' => e = .returned (.bool (nobodyB seq op a b c k t)) /\ Below w.heap.size w w' := by
 have heq := eqC (-1) seq op a b c k t
 go_enter Tryz.func77, Tryz.ntmps77
 go_wp2
 go_ret
 exact ⟨by simp, by repeat (first | exact Below.refl _ _ | (refine via (by assumption) (by first | omega | (simp; done) | (simp; omega)) ?_) | refine Below.drew ?_ | refine Below.setCell ?_ (by first | omega | (simp; done) | (simp; omega)) _ | refine Below.alloc ?_ (by first | omega | (simp; done) | (simp; omega)) _)⟩
theorem spec_rest (who seq op a b c : Int) (k t : ByteArray) (hk : k.size <= 9223372036854775807) (ht : t.size <= 9223372036854775807) (hw : ((who : Int) == -1) = false) (w : World) :
 Calls Tryz.prog 77 #[.agg (Qad who seq op a b c k t)] w fun e w' => e = .returned (.bool (restB who seq op a b c k t)) /\ Below w.heap.size w w' := by
 rcases eight (inB who 0 3) (inB seq 1 100000) (inB op 1 10) (inB a 0 100000) (inB b 0 100000) (inB c 0 100000) (textB k) (textB t) with h0 | ⟨h0, h1⟩ | ⟨h0, h1, h2⟩ | ⟨h0, h1, h2, h3⟩ | ⟨h0, h1, h2, h3, h4⟩ | ⟨h0, h1, h2, h3, h4, h5⟩ | ⟨h0, h1, h2, h3, h4, h5, h6⟩ | ⟨h0, h1, h2, h3, h4, h5, h6, h7⟩ | ⟨h0, h1, h2, h3, h4, h5, h6, h7⟩
 all_goals
  go_enter Tryz.func77, Tryz.ntmps77
  go_wp2_with (first
   | (go_at_call 30; refine (Qbp _ _ _ _).mono ?_; rintro e w' ⟨rfl, rfl⟩)
   | (go_at_call_of 83 (Value.string k); refine (Qcn k hk _).mono ?_; rintro e w1 ⟨rfl, g1⟩; obtain ⟨c1, f1⟩ := Qfa g1; have s1 := g1.size; try simp at s1; have q1 : w.heap.size < w1.heap.size := by omega)
   | (go_at_call_of 83 (Value.string t); refine (Qcn t ht _).mono ?_; rintro e w1 ⟨rfl, g1⟩; obtain ⟨c1, f1⟩ := Qfa g1; have s1 := g1.size; try simp at s1; have q1 : w.heap.size < w1.heap.size := by omega))
  go_ret
  refine ⟨by simp [restB, *], ?_⟩
  repeat (first | exact Below.refl _ _ | (refine via (by assumption) (by first | omega | (simp; done) | (simp; omega)) ?_) | refine Below.drew ?_ | refine Below.setCell ?_ (by first | omega | (simp; done) | (simp; omega)) _ | refine Below.alloc ?_ (by first | omega | (simp; done) | (simp; omega)) _)
theorem spec_any (who seq op a b c : Int) (k t : ByteArray) (hk : k.size <= 9223372036854775807) (ht : t.size <= 9223372036854775807) (w : World) :
 Calls Tryz.prog 77 #[.agg (Qad who seq op a b c k t)] w fun e w' => e = .returned (.bool (okB who seq op a b c k t)) /\ Below w.heap.size w w' := by
 unfold okB
 by_cases h : who = -1
 . subst h; rw [if_pos rfl]; exact Qic seq op a b c k t w
 . rw [if_neg h]; exact spec_rest who seq op a b c k t hk ht (by simpa using h) w
end Go.Proofs.YtlniljigeemnoaaGreat.CmdOk
namespace Go.Proofs.YtlniljigeemnoaaGreat.Gen
def numB (n : Nat) : List UInt8 := if h : n < 128 then [UInt8.ofNat n] else UInt8.ofNat (n % 128 + 128) :: numB (n / 128)
termination_by n
decreasing_by omega
theorem Qgc {n : Nat} (h : n < 128) : numB n = [UInt8.ofNat n] := by rw [numB]; simp [h]
theorem numB_big {n : Nat} (h : ¬ n < 128) : numB n = UInt8.ofNat (n % 128 + 128) :: numB (n / 128) := by rw [numB]; simp [h]
theorem numB_le1 {n : Nat} (h : n < 128) : (numB n).length <= 1 := by rw [Qgc h]; simp
theorem Qeg {n k : Nat} (h : (numB (n / 128)).length <= k) (hk : 0 < k) : (numB n).length <= k + 1 := by
 by_cases q : n < 128
 . have := numB_le1 q; omega
 . rw [numB_big q]; simp; omega
theorem Qcv {n : Nat} (h : n < 34359738368) : (numB n).length <= 5 :=
 Qeg (Qeg (Qeg (Qeg (numB_le1 (by omega)) (by omega)) (by omega)) (by omega)) (by omega)
def numI (n : Int) : List UInt8 := if 0 <= n /\ n <= 2147483647 then numB n.toNat else []
theorem Qef {n : Nat} (h : n <= 2147483647) : numI (n : Int) = numB n := by unfold numI; rw [if_pos (by omega)]; simp
theorem Qbc (n : Int) : (numI n).length <= 5 := by
 unfold numI
 split
 . exact Qcv (by omega)
 . simp
def getD : Nat -> Nat -> Nat -> List UInt8 -> Option (Nat × Nat)
  | 0, _, _, _ => none
  | _ + 1, _, _, [] => none
  | f + 1, k, acc, d :: r =>
    if d.toNat < 128 then (if (0 < k /\ d.toNat = 0) ∨ 2147483647 < acc + d.toNat % 128 * 128 ^ k then none else some (acc + d.toNat % 128 * 128 ^ k, k + 1))
    else getD f (k + 1) (acc + d.toNat % 128 * 128 ^ k) r
open ChangeShapes WideShapes ChangeAt RowKit Joins Deep Base
def inB (x lo hi : Int) : Bool := decide (lo <= x /\ x <= hi)
theorem Qes (x lo hi : Int) (w : World) :
 Calls Tryz.prog 29 (Qcj x lo hi) w fun e w' => e = .returned (.bool (inB x lo hi)) /\ w' = w := by
 by_cases h1 : lo <= x
 . by_cases h2 : x <= hi
   . have e : Hid (inB x lo hi = true) := by show _ = _; simp [inB, h1, h2]
     go_enter Tryz.func29, Tryz.ntmps29
     go_wp2
     go_ret
     exact ⟨by rw [e.out]; rfl, rfl⟩
   . have e : Hid (inB x lo hi = false) := by show _ = _; simp [inB, h2]
     have h2' : decide (x <= hi) = false := decide_eq_false h2
     go_enter Tryz.func29, Tryz.ntmps29
     go_wp2
     go_ret
     exact ⟨by rw [e.out]; first | rfl | (rw [← h2']; rfl), rfl⟩
 . have e : Hid (inB x lo hi = false) := by show _ = _; simp [inB, h1]
   go_enter Tryz.func29, Tryz.ntmps29
   go_wp2
   go_ret
   exact ⟨by rw [e.out]; rfl, rfl⟩
theorem Qbp (x lo hi : Int) (w : World) :
 Calls Tryz.prog 30 (Qcj x lo hi) w fun e w' => e = .returned (.bool (inB x lo hi)) /\ w' = w := by
 by_cases h1 : lo <= x
 . by_cases h2 : x <= hi
   . have e : Hid (inB x lo hi = true) := by show _ = _; simp [inB, h1, h2]
     go_enter Tryz.func30, Tryz.ntmps30
     go_wp2
     go_ret
     exact ⟨by rw [e.out]; rfl, rfl⟩
   . have e : Hid (inB x lo hi = false) := by show _ = _; simp [inB, h2]
     have h2' : decide (x <= hi) = false := decide_eq_false h2
     go_enter Tryz.func30, Tryz.ntmps30
     go_wp2
     go_ret
     exact ⟨by rw [e.out]; first | rfl | (rw [← h2']; rfl), rfl⟩
 . have e : Hid (inB x lo hi = false) := by show _ = _; simp [inB, h1]
   go_enter Tryz.func30, Tryz.ntmps30
   go_wp2
   go_ret
   exact ⟨by rw [e.out]; rfl, rfl⟩
theorem append_b (B : Nat) (a : Option Addr) (c : Nat) (xs : List UInt8) (x : UInt8) (z : Int) (hz : (x.toNat : Int) = z) (W : World) (hB : B <= W.heap.size) (hv : W.ownsRow B 5 1 (.slice a xs.length c) xs.length (flat xs)) (hlen : xs.length <= 600000000) :
 ∃ a' c' W', (Builtin.append_ #[22, 22] 22 #[.slice a xs.length c, .slice (some ⟨W.heap.size, 0, none⟩) 1 1]).run Tryz.prog (W.alloc (.cells #[.int .u8 z] 5)) = .ok (.slice a' (xs.length + 1) c') W' /\ W'.ownsRow B 5 1 (.slice a' (xs ++ [x]).length c') (xs ++ [x]).length (flat (xs ++ [x])) /\
  (W.alloc (.cells #[.int .u8 z] 5)).grownBy W' (Value.slice a xs.length c).ownBlock /\ ((Value.slice a' (xs.length + 1) c').ownBlock = (Value.slice a xs.length c).ownBlock ∨ (Value.slice a' (xs.length + 1) c').ownBlock = some (W.heap.size + 1)) := by
 subst hz
 obtain ⟨v', w3, hr, hown3, hgrow, hat⟩ := Qbr B (.slice a xs.length c) xs [x] (some ⟨W.heap.size, 0, none⟩) 1 (W.alloc (.cells #[.int .u8 (x.toNat : Int)] 5)) (by simp; omega) (Qav hv _) (one_b W x 5) (by simp; omega)
 obtain ⟨a', c', rfl, _⟩ := Qao hown3
 refine ⟨a', c', w3, hr, ?_, hgrow, by simpa using hat⟩
 have e : (xs ++ [x]).length = xs.length + [x].length := by simp
 rw [e]
 exact hown3
theorem Qfv {B : Nat} {w W W' : World} {a : Option Addr} {n c k : Nat} {xs : List Value} {t : TypeId} (h : Below B w W) (hO : W.ownsRow B t k (.slice a n c) n xs) (o : Obj) (hB : B <= W.heap.size) (g : (W.alloc o).grownBy W' (Value.slice a n c).ownBlock) : Below B w W' :=
 (h.alloc hB o).grown g (by simp; omega) (fun j e => Nat.le_of_not_lt fun q => Qay hO q e.symm)
theorem Qa1 (n : Int) (w : World) :
 Calls Tryz.prog 48 #[.int .i64 n] w fun e w' => ∃ a c, e = .returned (.slice a (numI n).length c) /\ Below w.heap.size w w' /\ w'.ownsRow w.heap.size 5 1 (.slice a (numI n).length c) (numI n).length (flat (numI n)) := by
 have own0 : Hid ((w.alloc (.cells #[] 5)).ownsRow w.heap.size 5 1 (.slice (some ⟨w.heap.size, 0, none⟩) 0 0) 0 []) := by
  refine ⟨by simp, .inr ⟨w.heap.size, 0, #[], rfl, Nat.le_refl _, Blk.new w 5 #[], by omega, by simp [maxLen], rfl, rfl⟩⟩
 by_cases hn : 0 <= n /\ n <= 2147483647
 . obtain ⟨m0, rfl⟩ : ∃ m : Nat, n = (m : Int) := ⟨n.toNat, by omega⟩
   have hm0 : m0 <= 2147483647 := by omega
   rw [Qef hm0]
   have hin : inB (m0 : Int) 0 2147483647 = true := by simp [inB]; omega
   have hl0 := hidP (Qcv (n := m0) (by omega))
   clear hn
   go_enter Tryz.func48, Tryz.ntmps48
   go_wp2_with fail
   refine (Qbp _ _ _ _).mono ?_
   rintro e w1 ⟨rfl, rfl⟩
   have B1 := Qaf (Below.refl _ w) (.cells #[] 5)
   rw [hin]
   go_wp2
   go_loopw [0, 3] (fun x v W => ∃ (m : Nat) (xs : List UInt8) (a : Option Addr) (c : Nat), x = .int .i64 (m : Int) /\ v = .slice a xs.length c /\ m <= 2147483647 /\ Hid (xs ++ numB m = numB m0) /\ Hid (W.ownsRow w.heap.size 5 1 (.slice a xs.length c) xs.length (flat xs)) /\ Below w.heap.size w W) (fun x _ _ => (intOf x).toNat)
   case atStart => exact ⟨m0, [], _, _, rfl, rfl, hm0, rfl, own0, B1⟩
   case round =>
    obtain ⟨m, xs, a, c, rfl, rfl, hm, hx, hO, hbl⟩ := hrel
    have hxl : xs.length <= 5 := by have h1 := congrArg List.length hx.out; have h2 := hl0.out; rw [List.length_append] at h1; omega
    by_cases hlt : m < 128
    . obtain ⟨a', c', W', hr, hO', hg, _⟩ := append_b w.heap.size a c xs (UInt8.ofNat m) (m : Int) (by rw [UInt8.toNat_ofNat']; omega) wr hbl.size hO.out (by omega)
      have HO := hidP hO'
      have HB := hidP (Qfv hbl hO.out _ hbl.size hg)
      have he : Hid (xs ++ [UInt8.ofNat m] = numB m0) := by show _ = _; rw [← hx.out, Qgc hlt]
      clear hO' hg hO
      go_wp2_with (at_builtin; refine Qae rfl _ _ _ rfl _ _ _ rfl rfl hr ?_)
      go_ret
      have hl : (numB m0).length = xs.length + 1 := by rw [← he.out]; simp
      refine ⟨a', c', by rw [hl]; rfl, HB.out, ?_⟩
      have := HO.out
      rwa [he.out] at this
    . have e8 : ((UInt8.ofNat (m % 128 + 128)).toNat : Int) = (m : Int) % 128 + 128 := by rw [UInt8.toNat_ofNat']; omega
      obtain ⟨a', c', W', hr, hO', hg, _⟩ := append_b w.heap.size a c xs (UInt8.ofNat (m % 128 + 128)) ((m : Int) % 128 + 128) e8 wr hbl.size hO.out (by omega)
      have HO := hidP hO'
      have HB := hidP (Qfv hbl hO.out _ hbl.size hg)
      have he : Hid (xs ++ [UInt8.ofNat (m % 128 + 128)] ++ numB (m / 128) = numB m0) := by show _ = _; rw [← hx.out, numB_big hlt]; simp
      clear hO' hg hO e8
      go_wp2_with (at_builtin; refine Qae rfl _ _ _ rfl _ _ _ rfl rfl hr ?_)
      refine ⟨⟨m / 128, xs ++ [UInt8.ofNat (m % 128 + 128)], a', c', ?_, by simp, by omega, he, HO, HB.out⟩, ?_⟩
      . show Value.int .i64 _ = Value.int .i64 _
        congr 1
      . simp [intOf]; omega
 . have hin : inB n 0 2147483647 = false := by simp [inB]; omega
   have hN : Hid (numI n = []) := by show _ = _; unfold numI; rw [if_neg hn]
   clear hn
   go_enter Tryz.func48, Tryz.ntmps48
   go_wp2_with fail
   refine (Qbp _ _ _ _).mono ?_
   rintro e w1 ⟨rfl, rfl⟩
   have B1 := Qaf (Below.refl _ w) (.cells #[] 5)
   rw [hin]
   go_wp2
   go_ret
   refine ⟨_, _, by rw [hN.out]; rfl, B1, ?_⟩
   rw [hN.out]
   exact own0.out
instance : Cel Int where
  k := 1
  cs x := [.int .i64 x]
  len _ := rfl
  one x u hu := by simp at hu; subst hu; rfl
theorem In.getInt {w : World} {b o : Nat} {l : List Int} (h : In w b o l) (i : Nat) (hi : i < l.length) : w.cell? ⟨b, o + i, none⟩ = some (.int .i64 l[i]) := by
 have := h.cell i hi (f := 0) rfl
 have e : o + i * Cel.k Int + 0 = o + i := by show o + i * 1 + 0 = o + i; omega
 rwa [e] at this
theorem Qdb : (Tryz.prog.info? 3).map (fun i => (i.zero, i.size, i.bytes)) = some (some (.int .i64 0), 1, 8) := by kernel_rfl
end Go.Proofs.YtlniljigeemnoaaGreat.Gen
namespace Go.Proofs.YtlniljigeemnoaaGreat.Items
open ChangeShapes WideShapes ChangeAt RowKit Joins Deep Base
instance : Inhabited It := ⟨⟨0, ⟨#[]⟩, ⟨#[]⟩, 0, 0⟩⟩
abbrev At (w : World) (A : Option Addr) (l : List It) : Prop := l = [] ∨ ∃ b o, A = some ⟨b, o, none⟩ /\ b < w.heap.size /\ In w b o l
theorem At.below {w w' : World} {A : Option Addr} {l : List It} (h : At w A l) (hw : Below w.heap.size w w') : At w' A l :=
 h.imp id fun ⟨b, o, e, hb, hi⟩ => ⟨b, o, e, Nat.lt_of_lt_of_le hb hw.size, hi.below hb hw⟩
def I64 (x : Int) : Prop := -9223372036854775808 <= x /\ x <= 9223372036854775807
theorem i64_of {x : Int} (hx : (Lit.int .i64 x).wf = true) : I64 x := by simpa [I64, Lit.wf, IntKind.min, IntKind.max, IntKind.signed, IntKind.bits] using hx
end Go.Proofs.YtlniljigeemnoaaGreat.Items
namespace Go.Proofs.YtlniljigeemnoaaGreat.Gen
open ChangeShapes WideShapes ChangeAt RowKit Joins Deep Base
def makP (w : World) (x : MC) (S : Nat -> Prop) : Prop := Sub w x.A x.ms S
theorem Qej : Firm makP := fun w w' x S T h k hd => Sub.offp h k hd
theorem Qh9 (B : Nat) (v : Value) (l m : List Mk) (A : Option Addr) (cap : Nat) (w : World) (hB : B <= w.heap.size) (hv : w.ownsRow B 126 2 v l.length (flat l)) (hA : At w A m) (hlen : l.length + m.length <= 3000000) :
 ∃ v' w', (Builtin.append_ #[122, 122] 122 #[v, .slice A m.length cap]).run Tryz.prog w = .ok v' w' /\ w'.ownsRow B 126 2 v' (l.length + m.length) (flat (l ++ m)) /\ w.grownBy w' v.ownBlock /\ (v'.ownBlock = v.ownBlock ∨ v'.ownBlock = some w.heap.size) :=
 Qbd (α := Mk) (P := Tryz.prog) Tryz.underlying122 infoMk rfl (by decide) (by omega) B v l m A cap w hB hv hA hlen
theorem Qa3 (row who epoch last : Int) (A : Option Addr) (cap : Nat) (l : List Mk) (hl : l.length <= 1048576) (w : World) (hA : At w A l) :
 Calls Tryz.prog 89 #[.agg (Qam row who epoch last A l.length cap)] w fun e w' => ∃ v, e = .returned (.agg #[.int .i64 row, .int .i64 who, .int .i64 epoch, .int .i64 last, v]) /\ w'.ownsRow w.heap.size 126 2 v l.length (flat l) /\ Below w.heap.size w w' := by
 have B0 : Below w.heap.size w (((w.alloc (.cells (Qam row who epoch last A l.length cap) 124)).alloc (.cells Qc2 124)).alloc (.cells #[] 126)) := Qaf (Qaf (Qaf (Below.refl _ _) _) _) _
 obtain ⟨v, w1, hr, hown, hgrow, hat⟩ := Qh9 w.heap.size (.slice (some ⟨w.heap.size + 1 + 1, 0, none⟩) 0 0) [] l A cap (((w.alloc (.cells (Qam row who epoch last A l.length cap) 124)).alloc (.cells Qc2 124)).alloc (.cells #[] 126)) B0.size
  ⟨rfl, .inr ⟨w.heap.size + 1 + 1, 0, #[], rfl, by omega, by have := Qek ((w.alloc (.cells (Qam row who epoch last A l.length cap) 124)).alloc (.cells Qc2 124)) (.cells #[] 126); simpa only [World.size_alloc] using this, Nat.le_refl _, by simp [maxLen], rfl, rfl⟩⟩ (hA.below B0) (by simp; omega)
 simp only [List.length_nil, Nat.zero_add, List.nil_append] at hown
 have p0 := (((Blk.new w 124 (Qam row who epoch last A l.length cap)).alloc (.cells Qc2 124)).alloc (.cells #[] 126)).kept hgrow (by intro h; have : w.heap.size = w.heap.size + 1 + 1 := Option.some.inj h; omega)
 have p1 := ((Blk.new (w.alloc (.cells (Qam row who epoch last A l.length cap) 124)) 124 Qc2).alloc (.cells #[] 126)).kept hgrow (by rw [World.size_alloc]; intro h; have : w.heap.size + 1 = w.heap.size + 1 + 1 := Option.some.inj h; omega)
 rw [World.size_alloc] at p1
 have B1 : Below w.heap.size w w1 := B0.grown hgrow B0.size (fun k e => by have : w.heap.size + 1 + 1 = k := Option.some.inj e; omega)
 obtain ⟨c0, c1, c2, c3, c4⟩ := p0.row5
 obtain ⟨d0, d1, d2, d3, d4⟩ := p1.row5
 have f4 := p0.thaw 4
 have g0 := p1.thaw 0
 have g1 := p1.thaw 1
 have g2 := p1.thaw 2
 have g3 := p1.thaw 3
 have g4 := p1.thaw 4
 obtain ⟨a, c, rfl, hc⟩ := Qao hown
 have hn : ∀ k, k < w.heap.size + 1 + 1 -> some k ≠ (Value.slice a l.length c).ownBlock := fun k hk => by
  rcases hat with e | e
  . rw [e]; intro h; have : k = w.heap.size + 1 + 1 := Option.some.inj h; omega
  . rw [e]; intro h; have := Option.some.inj h; simp only [World.size_alloc] at this; omega
 have Hn0 := hidP (hn w.heap.size (by omega))
 have Hn1 := hidP (hn (w.heap.size + 1) (by omega))
 have Hown := hidP hown
 clear hgrow hA hat hown hn
 go_enter Tryz.func89, Tryz.ntmps89
 go_wp2_with (at_builtin; refine Qae rfl _ _ _ rfl _ _ _ rfl rfl hr ?_)
 have p2 : Blk _ (w.heap.size + 1) 124 (Qam row who epoch last a l.length c) := (((((p1.other (B' := w.heap.size) (by omega) 4 (.slice a l.length c)).setAt 0 (.int .i64 row)).setAt 1 (.int .i64 who)).setAt 2 (.int .i64 epoch)).setAt 3 (.int .i64 last)).setAt 4 (.slice a l.length c)
 obtain ⟨e0, e1, e2, e3, e4⟩ := p2.row5
 exact bodyPost_ret (v := .agg (Qam row who epoch last a l.length c)) (by simp [results, Tryz.results89, go_sem, e0, e1, e2, e3, e4]) rfl
  ⟨_, rfl, Qaj (Qaj (Qaj (Qaj (Qaj (Qaj Hown.out Hn0.out) Hn1.out) Hn1.out) Hn1.out) Hn1.out) Hn1.out, Qal (Qal (Qal (Qal (Qal (Qal B1 (Nat.le_refl _) _) (by omega) _) (by omega) _) (by omega) _) (by omega) _) (by omega) _⟩
def mx (a b : Int) : Int := if a > b then a else b
theorem max_any (a b : Int) (w : World) : Calls Tryz.prog 25 #[.int .i64 a, .int .i64 b] w fun e w' => e = .returned (.int .i64 (mx a b)) /\ w' = w := by
 by_cases h : a > b
 . rw [show mx a b = a from if_pos h]
   go_enter Tryz.func25, Tryz.ntmps25
   go_wp2
   go_ret
   exact ⟨rfl, rfl⟩
 . rw [show mx a b = b from if_neg h]
   go_enter Tryz.func25, Tryz.ntmps25
   go_wp2
   go_ret
   exact ⟨rfl, rfl⟩
theorem Qgf {α : Type} [Cel α] {B : Nat} {W : World} {g n c j : Nat} {t : TypeId} {L : List α} (hn : n = L.length) (h : W.ownsRow B t (Cel.k α) (.slice (some ⟨g, 0, none⟩) n c) n (flat L)) (hj : j <= n) :
 Fresh B W (.slice (if c = j then some ⟨g, 0, none⟩ else some ⟨g, j * Cel.k α, none⟩) (n - j) (c - j)) (L.drop j) := by
 subst hn
 obtain ⟨A, c', e, hc, hx⟩ := Qa6 h
 cases e
 refine ⟨_, _, by rw [List.length_drop], by rw [List.length_drop]; omega, ?_⟩
 by_cases hcj : c = j
 . left; exact List.drop_eq_nil_of_le (by omega)
 . rcases hx with hx | ⟨b, o, e, hB, hb, hi, ht⟩
   . left; rw [hx]; simp
   . cases e
     right
     refine ⟨g, j * Cel.k α, by rw [if_neg hcj], hB, hb, by have := hi.drop j; rwa [Nat.zero_add] at this, ?_⟩
     intro i hi'
     rw [List.length_drop, Nat.sub_mul] at hi'
     have hjl : j * Cel.k α <= L.length * Cel.k α := Nat.mul_le_mul_right _ hj
     have := ht (j * Cel.k α + i) (by omega)
     rwa [Nat.zero_add] at this
end Go.Proofs.YtlniljigeemnoaaGreat.Gen
