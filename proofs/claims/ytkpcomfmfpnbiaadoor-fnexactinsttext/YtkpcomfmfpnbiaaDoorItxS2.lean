import Derived.Test.YtkpcomfmfpnbiaaDoorItxS1
import Derived.Laws.Concat
import Derived.WalkKit
import Derived.ProofKit
import Derived.OpenShut
import Derived.ShutString
import Derived.ChangeOld
import Derived.Below
import Derived.WalkSpells
import Derived.Deep.QuietTactic
import Derived.BigQuiet
import Derived.Deep.RegionWith
import Derived.Deep.WholeRow
import Derived.Deep.DeepCutAuto
import Derived.Deep.RegionHeld2
import Derived.Deep.AppendLies
import Derived.Deep.RegionLaw
namespace Go.Proofs.YtkpcomfmfpnbiaaDoor
open Go.ChangeShapes Go.WideShapes Go.ChangeAt Go.RowKit

theorem q4_bel {W X : World} {A0 A1 A2 A3 : Addr} {v0 v1 v2 v3 : Value} (h : X.cell? A0 = some v0 ∧ X.cell? A1 = some v1 ∧ X.cell? A2 = some v2 ∧ X.cell? A3 = some v3 ∧ Below W.heap.size W X) : Below W.heap.size W X := h.2.2.2.2

theorem q4_below {W X Y : World} {A0 A1 A2 A3 : Addr} {v0 v1 v2 v3 : Value} (h0 : A0.block < W.heap.size) (h1 : A1.block < W.heap.size) (h2 : A2.block < W.heap.size) (h3 : A3.block < W.heap.size) (h : X.cell? A0 = some v0 ∧ X.cell? A1 = some v1 ∧ X.cell? A2 = some v2 ∧ X.cell? A3 = some v3 ∧ Below W.heap.size W X) (g : Below X.heap.size X Y) : Y.cell? A0 = some v0 ∧ Y.cell? A1 = some v1 ∧ Y.cell? A2 = some v2 ∧ Y.cell? A3 = some v3 ∧ Below W.heap.size W Y := by
  have hz := (h.2.2.2.2).size
  exact ⟨(g.cell (by omega)).trans h.1, (g.cell (by omega)).trans h.2.1, (g.cell (by omega)).trans h.2.2.1, (g.cell (by omega)).trans h.2.2.2.1, (h.2.2.2.2).trans (g.mono hz)⟩

theorem q4_alloc {W X : World} {A0 A1 A2 A3 : Addr} {v0 v1 v2 v3 : Value} (h0 : A0.block < W.heap.size) (h1 : A1.block < W.heap.size) (h2 : A2.block < W.heap.size) (h3 : A3.block < W.heap.size) (h : X.cell? A0 = some v0 ∧ X.cell? A1 = some v1 ∧ X.cell? A2 = some v2 ∧ X.cell? A3 = some v3 ∧ Below W.heap.size W X) (o : Obj) : (X.alloc o).cell? A0 = some v0 ∧ (X.alloc o).cell? A1 = some v1 ∧ (X.alloc o).cell? A2 = some v2 ∧ (X.alloc o).cell? A3 = some v3 ∧ Below W.heap.size W (X.alloc o) := q4_below h0 h1 h2 h3 h ((Below.refl _ _).alloc (Nat.le_refl _) o)

theorem q4_allocd {W X : World} {A0 A1 A2 A3 : Addr} {v0 v1 v2 v3 : Value} (h0 : A0.block < W.heap.size) (h1 : A1.block < W.heap.size) (h2 : A2.block < W.heap.size) (h3 : A3.block < W.heap.size) (h : X.drew.cell? A0 = some v0 ∧ X.drew.cell? A1 = some v1 ∧ X.drew.cell? A2 = some v2 ∧ X.drew.cell? A3 = some v3 ∧ Below W.heap.size W X.drew) (o : Obj) : (X.alloc o).drew.cell? A0 = some v0 ∧ (X.alloc o).drew.cell? A1 = some v1 ∧ (X.alloc o).drew.cell? A2 = some v2 ∧ (X.alloc o).drew.cell? A3 = some v3 ∧ Below W.heap.size W (X.alloc o).drew := q4_alloc h0 h1 h2 h3 h o

theorem q4_set {W X : World} {A0 A1 A2 A3 : Addr} {v0 v1 v2 v3 : Value} (h0 : A0.block < W.heap.size) (h1 : A1.block < W.heap.size) (h2 : A2.block < W.heap.size) (h3 : A3.block < W.heap.size) (h : X.cell? A0 = some v0 ∧ X.cell? A1 = some v1 ∧ X.cell? A2 = some v2 ∧ X.cell? A3 = some v3 ∧ Below W.heap.size W X) {p : Addr} (hp : W.heap.size ≤ p.block) (y : Value) : (X.setCell p y).cell? A0 = some v0 ∧ (X.setCell p y).cell? A1 = some v1 ∧ (X.setCell p y).cell? A2 = some v2 ∧ (X.setCell p y).cell? A3 = some v3 ∧ Below W.heap.size W (X.setCell p y) :=
  ⟨(World.cell?_setCell_other _ _ _ _ (fun e => by rw [e] at hp; omega)).trans h.1, (World.cell?_setCell_other _ _ _ _ (fun e => by rw [e] at hp; omega)).trans h.2.1, (World.cell?_setCell_other _ _ _ _ (fun e => by rw [e] at hp; omega)).trans h.2.2.1, (World.cell?_setCell_other _ _ _ _ (fun e => by rw [e] at hp; omega)).trans h.2.2.2.1, (h.2.2.2.2).setCell hp y⟩

set_option maxRecDepth 100000 in
set_option maxHeartbeats 4000000 in
theorem l5Text_calls (P : Nat) (o a b i : Int) (w : World) (h : ifC o a b i = 0) (c0 : w.cell? ⟨P, 0, none⟩ = some (.int .i64 o)) (c1 : w.cell? ⟨P, 1, none⟩ = some (.int .i64 a)) (c2 : w.cell? ⟨P, 2, none⟩ = some (.int .i64 b)) (c3 : w.cell? ⟨P, 3, none⟩ = some (.int .i64 i)) :
    Calls Tryd.prog 39 #[.pointer (some ⟨P, 0, none⟩)] w fun e w' => e = .returned (.string (itT o a b i)) ∧ Below w.heap.size w w' := by
  obtain ⟨⟨o0, o1⟩, ⟨a0, a1⟩, ⟨b0, b1⟩, i0, i1⟩ := ifC_zero h
  have lt0 : (Addr.mk P 0 none).block < w.heap.size := World.block_lt_of_cell? _ _ c0
  have lt1 : (Addr.mk P 1 none).block < w.heap.size := lt0
  have lt2 : (Addr.mk P 2 none).block < w.heap.size := lt0
  have lt3 : (Addr.mk P 3 none).block < w.heap.size := lt0
  have k0 := kw_size o0 o1
  have k1 := dg_size a
  have k2 := dg_size b
  have k3 := dg_size i
  have HT : Hid (itT o a b i = kw o ++ ⟨#[32]⟩ ++ dg a ++ ⟨#[32]⟩ ++ dg b ++ ⟨#[32]⟩ ++ dg i) := rfl
  have a9 : a ≤ 99 := by omega
  have b9 : b ≤ 99 := by omega
  have i9 : i ≤ 99 := by omega
  have HS0 : Hid (w.drew.cell? ⟨P, 0, none⟩ = some (.int .i64 o) ∧ w.drew.cell? ⟨P, 1, none⟩ = some (.int .i64 a) ∧ w.drew.cell? ⟨P, 2, none⟩ = some (.int .i64 b) ∧ w.drew.cell? ⟨P, 3, none⟩ = some (.int .i64 i) ∧ Below w.heap.size w w.drew) := ⟨c0, c1, c2, c3, (Below.refl _ _).drew⟩
  have zs : (ByteArray.mk #[32]).size = 1 := rfl
  have s0 : ∀ u : World, (Op.stringOp .add (kw o) (ByteArray.mk #[32])).run Tryd.prog u = .ok (.string (kw o ++ ByteArray.mk #[32])) u := fun u => run_string_add_sum u _ _ (by first | omega | (simp only [ByteArray.size_append]; omega))
  have s1 : ∀ u : World, (Op.stringOp .add (kw o ++ ByteArray.mk #[32]) (dg a)).run Tryd.prog u = .ok (.string (kw o ++ ByteArray.mk #[32] ++ dg a)) u := fun u => run_string_add_sum u _ _ (by first | omega | (simp only [ByteArray.size_append]; omega))
  have s2 : ∀ u : World, (Op.stringOp .add (kw o ++ ByteArray.mk #[32] ++ dg a) (ByteArray.mk #[32])).run Tryd.prog u = .ok (.string (kw o ++ ByteArray.mk #[32] ++ dg a ++ ByteArray.mk #[32])) u := fun u => run_string_add_sum u _ _ (by first | omega | (simp only [ByteArray.size_append]; omega))
  have s3 : ∀ u : World, (Op.stringOp .add (kw o ++ ByteArray.mk #[32] ++ dg a ++ ByteArray.mk #[32]) (dg b)).run Tryd.prog u = .ok (.string (kw o ++ ByteArray.mk #[32] ++ dg a ++ ByteArray.mk #[32] ++ dg b)) u := fun u => run_string_add_sum u _ _ (by first | omega | (simp only [ByteArray.size_append]; omega))
  have s4 : ∀ u : World, (Op.stringOp .add (kw o ++ ByteArray.mk #[32] ++ dg a ++ ByteArray.mk #[32] ++ dg b) (ByteArray.mk #[32])).run Tryd.prog u = .ok (.string (kw o ++ ByteArray.mk #[32] ++ dg a ++ ByteArray.mk #[32] ++ dg b ++ ByteArray.mk #[32])) u := fun u => run_string_add_sum u _ _ (by first | omega | (simp only [ByteArray.size_append]; omega))
  have s5 : ∀ u : World, (Op.stringOp .add (kw o ++ ByteArray.mk #[32] ++ dg a ++ ByteArray.mk #[32] ++ dg b ++ ByteArray.mk #[32]) (dg i)).run Tryd.prog u = .ok (.string (kw o ++ ByteArray.mk #[32] ++ dg a ++ ByteArray.mk #[32] ++ dg b ++ ByteArray.mk #[32] ++ dg i)) u := fun u => run_string_add_sum u _ _ (by first | omega | (simp only [ByteArray.size_append]; omega))
  clear h zs
  go_enter Tryd.func39, Tryd.ntmps39
  go_wp2_with fail
  go_region_held2 (fun w' => w'.cell? ⟨P, 0, none⟩ = some (.int .i64 o) ∧ w'.cell? ⟨P, 1, none⟩ = some (.int .i64 a) ∧ w'.cell? ⟨P, 2, none⟩ = some (.int .i64 b) ∧ w'.cell? ⟨P, 3, none⟩ = some (.int .i64 i) ∧ Below w.heap.size w w')
    (first | with_reducible exact HS0.out | with_reducible assumption)
    (first
      | (go_at_call 47; refine (l5Word_calls o _ o0 o1).mono ?_; rintro e wa ⟨rfl, ga⟩; have hsa := q4_below lt0 lt1 lt2 lt3 (by with_reducible assumption) ga; clear ga)
      | (go_at_call_of 49 (Value.int .i64 a); refine (l1Digits_calls a _ a0 a9).mono ?_; rintro e wb ⟨rfl, gb⟩; have hsb := q4_below lt0 lt1 lt2 lt3 (by with_reducible assumption) gb; clear gb)
      | (go_at_call_of 49 (Value.int .i64 b); refine (l1Digits_calls b _ b0 b9).mono ?_; rintro e wc ⟨rfl, gc⟩; have hsc := q4_below lt0 lt1 lt2 lt3 (by with_reducible assumption) gc; clear gc)
      | (go_at_call_of 49 (Value.int .i64 i); refine (l1Digits_calls i _ i0 i9).mono ?_; rintro e wd ⟨rfl, gd⟩; have hsd := q4_below lt0 lt1 lt2 lt3 (by with_reducible assumption) gd; clear gd))
  all_goals go_wp2
  all_goals go_ret
  all_goals exact ⟨ret_str HT.out.symm, q4_bel (by with_reducible assumption)⟩

end Go.Proofs.YtkpcomfmfpnbiaaDoor
