/-
  Entries cut and copied: the three forms of a cut, copyOfEntries, cutOf, and From of both sides. No condition but that there are at most 1048576 entries.
-/
import Derived.Test.YtengolneibbdfaaGreatAnsList
import Derived.BigQuiet
import Derived.WalkSmall
namespace Go.Proofs.YtengolneibbdfaaGreat.Gen
open Go.ChangeShapes Go.WideShapes Go.ChangeAt Go.RowKit Go.Joins Go.Deep Base
set_option linter.unusedVariables false
set_option linter.unusedSimpArgs false
def NewSl (B : Nat) (w : World) (v : Value) (l : List En) : Prop := ∃ a c F, v = .slice a l.length c /\ l.length <= c /\ c <= maxLen /\ Sl w a l F /\ (∀ x ∈ F, B <= x)
theorem newSl_owns {B n : Nat} {W : World} {v : Value} {l : List En} (hn : n = l.length) (h : W.ownsRow B 129 9 v n (flat l)) : NewSl B W v l := by
  subst hn
  have hf := fresh_owns (t := 129) h
  have hc : ∃ a c, v = .slice a l.length c /\ l.length <= c /\ c <= maxLen := by
    rcases h.2 with ⟨rfl, h0⟩ | ⟨g, c, cur, rfl, _, _, h1, h2, _⟩
    . exact ⟨none, 0, by rw [h0], by omega, by simp [maxLen]⟩
    . exact ⟨_, c, rfl, h1, h2⟩
  obtain ⟨a, c, rfl, h1, h2⟩ := hc
  obtain ⟨_, F, hs, hF⟩ := Sl.of_fresh hf
  exact ⟨a, c, F, rfl, h1, h2, hs, hF⟩
theorem newSl_mono {B C : Nat} {W : World} {v : Value} {l : List En} (h : NewSl B W v l) (hC : C <= B) : NewSl C W v l := by
  obtain ⟨a, c, F, e, h1, h2, hs, hF⟩ := h
  exact ⟨a, c, F, e, h1, h2, hs, fun x hx => Nat.le_trans hC (hF x hx)⟩
theorem own_noneE {B g : Nat} {W : World} (h : B <= W.heap.size) (hg : g = W.heap.size) : (W.alloc (.cells #[] 129)).ownsRow B 129 9 (.slice (some ⟨g, 0, none⟩) 0 0) 0 (flat ([] : List En)) := by
  subst hg
  exact ⟨by simp [flat], .inr ⟨W.heap.size, 0, #[], rfl, h, Blk.new W 129 #[], by simp, by simp [maxLen], rfl, rfl⟩⟩
theorem copy_els (B : Nat) (v : Value) (m : List En) (A : Option Addr) (cap n : Nat) (w : World) (hn : n = m.length) (hB : B <= w.heap.size) (hv : w.ownsRow B 129 9 v 0 (flat ([] : List En))) (hvB : ∀ k, v.ownBlock = some k -> B <= k) (hA : At w A m) (hlen : m.length <= 3000000) :
    ∃ v' w', (Builtin.append_ #[47, 47] 47 #[v, .slice A n cap]).run Tryz.prog w = .ok v' w' /\ w'.ownsRow B 129 9 v' m.length (flat m) /\ Below B w w' := by
  subst hn
  obtain ⟨v', w1, hr, hown, hgrow, hat⟩ := append_els (P := Tryz.prog) Tryz.underlying47 infoEn rfl (by decide) (by decide) B v ([] : List En) m A cap w hB hv hA (by simp; omega)
  simp only [List.length_nil, Nat.zero_add, List.nil_append] at hown
  refine ⟨v', w1, hr, hown, ?_⟩
  exact (Below.refl B w).grown hgrow hB (fun k e => hvB k e)
theorem copyEn_any (A : Option Addr) (cap : Nat) (l : List En) (hl : l.length <= 3000000) (w : World) (hA : At w A l) :
    Calls Tryz.prog 177 #[.slice A l.length cap] w fun e w' => ∃ v, e = .returned v /\ NewSl w.heap.size w' v l /\ Below w.heap.size w w' := by
  obtain ⟨v, w1, hr, hown, hbl⟩ := copy_els w.heap.size (.slice none 0 0) l A cap l.length w rfl (Nat.le_refl _) (World.ownsRow_nil _ _ _ _) (fun k e => by cases e) hA hl
  have HO := hidP (newSl_owns rfl hown)
  have HG := hidP hbl
  clear hown hbl hA
  go_enter Tryz.func177, Tryz.ntmps177
  go_wp2_with (at_builtin; refine wpList_append_is rfl _ _ _ rfl _ _ _ rfl rfl hr ?_)
  go_ret
  exact ⟨v, rfl, HO.out, HG.out⟩
end Go.Proofs.YtengolneibbdfaaGreat.Gen
