import Derived.Test.YtpcdfeccmiiglaaAppAny
import Derived.Test.YtpcdfeccmiiglaaQs
import Derived.Test.YtpcdfeccmiiglaaPlain
import Derived.Deep.AppendLies
import Derived.WalkKit
import Derived.ProofKit
import Derived.OpenShut
import Derived.ShutString
import Derived.ChangeOld
import Derived.Below
import Derived.WalkSpells
import Derived.Deep.QuietTactic
import Derived.BigQuiet
import Derived.Deep.RegionWith
import Derived.Deep.WholeRow
import Derived.Deep.DeepCutAuto
import Derived.Deep.RegionHeld2
import Derived.Deep.AppendLies
import Derived.Deep.RegionLaw
namespace Go.Proofs.Ytpcdfeccmiiglaa
open Go.ChangeShapes Go.WideShapes Go.ChangeAt Go.RowKit

/-- append of any slice (nil too) to an owned row, as one step of a region that draws its order. -/
theorem step_append_any {P : Program} (w : World) {ops : Array Oper} {o : Oper} {a : Act} {K : Act → World → Prop} {Q : Exit → Act → World → Prop} {E : Prop} (hgd : o.guard = none) (s x : Operand) (t : TypeId)
    (ho : o.op = .call { callee := .builtin .append, args := #[s, x], argTypes := #[t, t] })
    (base : Nat) (e : TypeId) (i : TypeInfo) (z : Value) (size bytes : Nat) (ht : P.underlying t = some (.slice e)) (hi : P.info? e = some i) (hz : i.zero = some z)
    (hsize : i.size = size) (hby : i.bytes = bytes) (hzs : z.cells.size = size) (hsz : 0 < size)
    (v : Value) (n : Nat) (xs : List Value) (hs : a.eval s = v) (hown : w.ownsRow base e size v n xs)
    (src : Option Addr) (m c : Nat) (news : List Value) (hx : a.eval x = .slice src m c) (hl : news.length = m * size) (hnews : ∀ ad, src = some ad → ∀ j u, news[j]? = some u → w.cell? (ad.add j) = some u) (hnil : src = none → m = 0) (h1 : ∀ u ∈ news, u.oneCell' = true)
    (h63 : n + m ≤ maxLen) (hbytes : (n + m) * bytes ≤ 140737488355328) (hbase : base ≤ w.heap.size)
    (h : ∀ v' w', w'.ownsRow base e size v' (n + m) (xs ++ news) → w.grownBy w' v.ownBlock → Below base w w' → K (a.put o.dst v') w') :
    if Region.wanted o (yielded ops a.tmps) = true then Oper.wp P o a w K Q else E := by
  have hw : Region.wanted o (yielded ops a.tmps) = true := by simp [Region.wanted, hgd]
  rw [if_pos hw]
  have fin : ∀ v' w', w'.ownsRow base e size v' (n + m) (xs ++ news) → w.grownBy w' v.ownBlock → K (a.put o.dst v') w' := fun v' w' h2 h3 => h v' w' h2 h3 ((Below.refl base w).grown h3 hbase (fun q e => (hown.lt q e).1))
  clear h
  cases src with
  | some ad => exact wp_append_own w s x t ho base e i z size bytes ht hi hz hsize hby hzs hsz v n xs hs hown ad m c news hx hl (hnews ad rfl) h1 h63 hbytes hbase (fun v' w' h2 h3 _ => fin v' w' h2 h3)
  | none =>
    obtain rfl := hnil rfl
    obtain rfl : news = [] := List.eq_nil_of_length_eq_zero (by simpa using hl)
    have hr := run_append_none_any (P := P) (w := w) t o.type e i size ht hi v n c xs hown
    unfold Oper.wp execOp
    simp only [ho, resolve, invoke, builtin, Sem.run_bind, Sem.run_pure, Result.andThen_ok, List.map_toArray, List.map_cons, List.map_nil, hs, hx, hr]
    exact fin v w (by simpa using hown) ⟨rfl, rfl, rfl, Nat.le_refl _, fun _ _ _ => rfl⟩

/-- the cells of a slice of numbers, as news for an append. -/
theorem Sl.news {W X : World} {a : Option Addr} {n : Nat} {xs : List Int} (h : Sl W a n xs) (hb : Below W.heap.size W X) : (∀ ad, a = some ad → ∀ j u, (xs.map (Value.int .i64))[j]? = some u → X.cell? (ad.add j) = some u) ∧ (a = none → n = 0) := by
  obtain ⟨h1, h2⟩ := h
  constructor
  · intro ad e j u hu
    rw [List.getElem?_map] at hu
    obtain ⟨y, hy, rfl⟩ := Option.map_eq_some_iff.1 hu
    obtain ⟨hj, rfl⟩ := List.getElem?_eq_some_iff.1 hy
    obtain ⟨b, off, e2, hb2, hc⟩ := h2 (by omega)
    rw [e] at e2
    cases e2
    have hcell := hc j (by omega)
    have hadd : (Addr.mk b off none).add j = ⟨b, off + j, none⟩ := by cases j <;> simp [Addr.add]
    rw [hadd, hb.cell (p := ⟨b, off + j, none⟩) hb2, hcell]
    simp [gt, hj]
  · intro e
    by_cases hn : n = 0
    · exact hn
    · obtain ⟨b, off, e2, _⟩ := h2 (by omega)
      rw [e] at e2
      cases e2

theorem q4_kept {W X Y : World} {A0 A1 A2 A3 : Addr} {v0 v1 v2 v3 : Value} (h0 : A0.block < W.heap.size) (h1 : A1.block < W.heap.size) (h2 : A2.block < W.heap.size) (h3 : A3.block < W.heap.size) (h : X.cell? A0 = some v0 ∧ X.cell? A1 = some v1 ∧ X.cell? A2 = some v2 ∧ X.cell? A3 = some v3 ∧ Below W.heap.size W X) (g : Below W.heap.size X Y) : Y.cell? A0 = some v0 ∧ Y.cell? A1 = some v1 ∧ Y.cell? A2 = some v2 ∧ Y.cell? A3 = some v3 ∧ Below W.heap.size W Y :=
  ⟨(g.cell h0).trans h.1, (g.cell h1).trans h.2.1, (g.cell h2).trans h.2.2.1, (g.cell h3).trans h.2.2.2.1, (h.2.2.2.2).trans g⟩

theorem ints_one1 {xs : List Int} : ∀ u ∈ xs.map (Value.int .i64), u.oneCell' = true := by
  intro u hu
  obtain ⟨y, _, rfl⟩ := List.mem_map.1 hu
  rfl

theorem ownsR_list {w : World} {B : Nat} {e : TypeId} {v : Value} {n : Nat} {xs : List Int} {k : Int} (h : w.ownsRow B e 1 v n ([] ++ xs.map (Value.int .i64) ++ [.int .i64 k])) : w.ownsRow B e 1 v n ((xs ++ [k]).map (Value.int .i64)) := by
  simpa using h

end Go.Proofs.Ytpcdfeccmiiglaa
