import Derived.Test.YtnibngigbcakkaaGreatF24
import Derived.Test.YtnibngigbcakkaaGreatF25
import Derived.WalkKit
import Derived.ProofKit
import Derived.OpenShut
import Derived.ShutString
import Derived.ChangeOld
import Derived.Below
import Derived.WalkSpells
import Derived.Deep.QuietTactic
import Derived.BigQuiet
import Derived.Deep.RegionWith
import Derived.Deep.WholeRow
import Derived.Deep.DeepCutAuto
import Derived.Deep.RegionHeld2
import Derived.Deep.AppendLies
import Derived.Deep.RegionLaw
namespace Go.Proofs.YtnibngigbcakkaaGreat
open Go.ChangeShapes Go.WideShapes Go.ChangeAt Go.RowKit

theorem own_keep {w u : World} {B m k : Nat} {e : TypeId} {v : Value} {L : List Value} (h : w.ownsRow B e m v k L) (hk : ∀ g, v.ownBlock = some g → u.heap[g]? = w.heap[g]?) : u.ownsRow B e m v k L := by
  obtain ⟨h1, h2⟩ := h
  refine ⟨h1, ?_⟩
  rcases h2 with h2 | ⟨g, cap, cur, hv, hg, hh, r⟩
  · exact .inl h2
  · exact .inr ⟨g, cap, cur, hv, hg, by rw [hk g (by rw [hv]; rfl)]; exact hh, r⟩

theorem own_ge {w : World} {B m k g : Nat} {e : TypeId} {v : Value} {L : List Value} (h : w.ownsRow B e m v k L) (hv : v.ownBlock = some g) : B ≤ g ∧ g < w.heap.size := h.lt g hv

theorem own_cap {w : World} {B n c : Nat} {e : TypeId} {a : Option Addr} {L : List Value} (h : w.ownsRow B e 3 (.slice a n c) n L) : n ≤ c := by
  rcases h.2 with ⟨h', h0⟩ | ⟨g', cap', cur, h', hb, hg, hnc, hcm, hcs, ht⟩
  · omega
  · simp only [Value.slice.injEq] at h'
    omega

theorem CV.outside {w u : World} {B P p : Nat} {s : Int} {v : Value} {n : Nat} {ls : List (Int × Int × Int)} (h : CV w B P s v n ls) (ho : Outside p (p + 1) w u) (hp : p < B) : CV u B P s v n ls := by
  have hB := h.hB
  have e := ho.block P h.lt (.inr (by omega))
  exact ⟨h.hB, by have := ho.size; have := h.lt; omega, (World.cell?_of_block (a := ⟨P, 0, none⟩) e).trans h.c0, (World.cell?_of_block (a := ⟨P, 1, none⟩) e).trans h.c1, (World.frozen?_of_block (a := ⟨P, 0, none⟩) e).trans h.f0, (World.frozen?_of_block (a := ⟨P, 1, none⟩) e).trans h.f1,
    own_keep h.own (fun g hg => ho.block g (own_ge h.own hg).2 (.inr (by have := (own_ge h.own hg).1; omega))), h.len, h.ne⟩

theorem CV.new {w : World} (s : Int) : CV (w.alloc (.cells #[.int .i64 s, .slice none 0 0] 26)) w.heap.size w.heap.size s (.slice none 0 0) 0 [] :=
  ⟨Nat.le_refl _, by simp, by simp, by simp, by simp, by simp, World.ownsRow_nil _ _ _ _, rfl, by simp [Value.ownBlock]⟩

theorem length_fiL_le {s : Int} {ls : List (Int × Int × Int)} (x : Int × Int × Int) (p : Int) (_ : 0 ≤ p) (h : (ls.length : Int) ≤ s) : ((fiL s ls x p).length : Int) ≤ s := by
  have h1 := length_dropL ls x.1 x.2.1
  by_cases hs : s = 0
  · rw [fiL_zero hs]; simp; omega
  · by_cases hf : s ≤ ((dropL ls x.1 x.2.1).length : Int)
    · rw [fiL_full hs rfl hf, List.length_append]
      have h0 : (dropL ls x.1 x.2.1).length ≠ 0 := by omega
      have he : (evL (dropL ls x.1 x.2.1) p).length = (dropL ls x.1 x.2.1).length - 1 := by
        unfold evL
        rw [if_neg h0, List.length_eraseIdx, if_pos (by have := Int.emod_lt_of_pos p (show (0 : Int) < ((dropL ls x.1 x.2.1).length : Int) by omega); have := Int.emod_nonneg p (show ((dropL ls x.1 x.2.1).length : Int) ≠ 0 by omega); omega)]
      rw [he]
      simp
      omega
    · rw [fiL_room hs rfl hf, List.length_append]
      simp
      omega

theorem at5 {wr : World} {t : TypeId} {x y z u v : Int} : ∀ i, i < 5 → (wr.alloc (.cells #[.int .i64 x, .int .i64 y, .int .i64 z, .int .i64 u, .int .i64 v] t)).cell? ⟨wr.heap.size, i, none⟩ = some (.int .i64 (gt [x, y, z, u, v] i)) := by
  intro i hi
  rw [World.cell?_alloc_new]
  rcases (by omega : i = 0 ∨ i = 1 ∨ i = 2 ∨ i = 3 ∨ i = 4) with rfl | rfl | rfl | rfl | rfl <;> rfl

theorem size_of {j : Nat} (h : j < 5) : 0 ≤ gt [0, 1, 2, 3, 6] j ∧ gt [0, 1, 2, 3, 6] j ≤ 6 := by
  rcases (by omega : j = 0 ∨ j = 1 ∨ j = 2 ∨ j = 3 ∨ j = 4) with rfl | rfl | rfl | rfl | rfl <;> decide

/-- what l4Draw gives. -/
def DrewC (p : Nat) (a : Option Addr) (len cap t : Nat) (w : World) (e : Ending) (w' : World) : Prop :=
  ∃ (s : Int) (ra : Option Addr) (n rc : Nat) (ls : List (Int × Int × Int)) (t' : Nat), e = .returned (.agg #[.int .i64 s, .slice ra n rc]) ∧ w'.ownsRow (w.heap.size + 1) 45 3 (.slice ra n rc) n (vs3 ls) ∧ ls.length = n ∧ n ≤ 6 ∧ (n : Int) ≤ s ∧ Src w' p a len cap t' ∧ t' ≤ t + 40 ∧ Outside p (p + 1) w w'

theorem DrewC.mk {p : Nat} {a : Option Addr} {len cap t : Nat} {w w' : World} {s : Int} {ra : Option Addr} {n rc : Nat} {ls : List (Int × Int × Int)} {t' : Nat} (h1 : w'.ownsRow (w.heap.size + 1) 45 3 (.slice ra n rc) n (vs3 ls)) (h2 : ls.length = n) (h3 : n ≤ 6) (h4 : (n : Int) ≤ s) (h5 : Src w' p a len cap t') (h6 : t' ≤ t + 40) (h7 : Outside p (p + 1) w w') :
    DrewC p a len cap t w (.returned (.agg #[.int .i64 s, .slice ra n rc])) w' := ⟨s, ra, n, rc, ls, t', rfl, h1, h2, h3, h4, h5, h6, h7⟩

set_option maxRecDepth 100000 in
set_option maxHeartbeats 4000000 in
theorem l4Draw_calls (p : Nat) (a : Option Addr) (len cap t : Nat) (w : World) (ht : t ≤ 990000) (hs : Src w p a len cap t) :
    Calls Tryz.prog 39 #[.pointer (some ⟨p, 0, none⟩)] w (DrewC p a len cap t w) := by
  have hp : p < w.heap.size := hs.1
  have M0 := (Mo.start p w).alloc2 hp (.int .i64 0) (.slice none 0 0) 26
  have s0 := hs.below (((Below.refl _ _).alloc (Nat.le_refl _) (.cells #[.int .i64 0, .slice none 0 0] 26)).alloc (by simp) (.cells #[.int .i64 0, .int .i64 1, .int .i64 2, .int .i64 3, .int .i64 6] 2))
  have M0' := M0.below ((Below.refl _ _).alloc (Nat.le_refl _) (.cells #[.int .i64 0, .int .i64 1, .int .i64 2, .int .i64 3, .int .i64 6] 2))
  clear M0
  go_enter Tryz.func39, Tryz.ntmps39
  go_wp2_with fail
  refine (l1PickM_calls p a len cap t (w.heap.size + 1) 5 5 [0, 1, 2, 3, 6] _ (by omega) (by omega) (by omega) s0 (by omega) (by simp) rfl (by have := @at5 (w.alloc (.cells #[.int .i64 0, .slice none 0 0] 26)) 2 0 1 2 3 6; simpa using this)).mono ?_
  rintro e w1 ⟨j, hj, rfl, s1, o1⟩
  have M1 := M0'.next o1
  obtain ⟨hz0, hz6⟩ := size_of hj
  generalize hsz : gt [0, 1, 2, 3, 6] j = sz at hz0 hz6
  clear hsz hj M0' s0
  have z1 := o1.size
  simp only [World.size_alloc] at z1
  have V1 := CV.new (w := w1) sz
  have al := (Below.refl w1.heap.size w1).alloc (Nat.le_refl _) (.cells #[.int .i64 sz, .slice none 0 0] 26)
  have s1' := s1.below al
  have M1' := M1.below al
  have hpP : p < w1.heap.size := by omega
  clear o1 s1 M1 al
  go_wp2_with fail
  refine (l1Next_calls p a len cap (t + 1) 6 _ (by omega) (by omega) (by omega) s1').mono ?_
  rintro e w2 ⟨r, rfl, r0, r1, s2, o2⟩
  have V2 := V1.outside o2 hpP
  have M2 := M1'.next o2
  clear V1 M1' s1' o2
  obtain ⟨k0, rfl⟩ : ∃ k : Nat, r = (k : Int) := ⟨r.toNat, by omega⟩
  go_wp2
  go_loopw [4] (fun i wr => ∃ (k : Nat) (ra : Option Addr) (n rc : Nat) (ls : List (Int × Int × Int)) (t' : Nat), k ≤ 5 ∧ i = .int .i64 k ∧ CV wr w1.heap.size w1.heap.size sz (.slice ra n rc) n ls ∧ n ≤ 6 ∧ (n : Int) ≤ sz ∧ Src wr p a len cap t' ∧ t' + 4 * k ≤ t + 30 ∧ Mo p w wr [(w.heap.size, 0, .int .i64 0), (w.heap.size, 1, .slice none 0 0)] []) (fun i _ => (intOf i).toNat)
  case atStart => exact ⟨k0, none, 0, 0, [], t + 1 + 1, by omega, rfl, V2, by omega, by omega, s2, by omega, M2⟩
  case round =>
    clear M2 V2 s2
    obtain ⟨k, ra, n, rc, ls, t', hk, rfl, V, hn, hns, src, htk, M⟩ := hrel
    by_cases hlt : 0 < k
    · have hlt' : (0 : Int) < (k : Int) := by omega
      go_wp2_with fail
      refine (l4DrawLine_calls p a len cap t' _ (by omega) src).mono ?_
      rintro e u1 ⟨d, g, q, rfl, s1, o1⟩
      have V1 := V.outside o1 hpP
      have M1 := M.next o1
      clear V M src o1
      go_wp2_with fail
      refine (l1Next_calls p a len cap (t' + 1 + 1 + 1) 9 _ (by omega) (by omega) (by omega) s1).mono ?_
      rintro e u2 ⟨r, rfl, r0, r1, s2, o2⟩
      have V2 := V1.outside o2 hpP
      have M2 := M1.next o2
      clear V1 M1 s1 o2
      go_wp2_with fail
      refine (l4Fill_V w1.heap.size w1.heap.size sz ra n rc ls d g q r _ hn hns r0 V2).mono ?_
      rintro e u3 ⟨rfl, fa, fc, V3, gB⟩
      have hl := length_fiL_le (d, g, q) r r0 (by rw [V2.len]; exact hns)
      have M3 := M2.belowB gB (by omega) (by simp; omega) (by simp)
      have s3 := s2.belowB gB hpP
      have HV := hide V3
      have HM := hide M3
      have HS := hide s3
      have HL := hide hl
      clear V2 V3 M2 M3 s2 s3 gB hl
      go_wp2
      go_roundw
      case rel => exact ⟨k - 1, fa, _, fc, _, t' + 1 + 1 + 1 + 1, by omega, by go_num, HV.out, by have := HL.out; omega, HL.out, HS.out, by omega, HM.out⟩
      case measure => simp [intOf]; omega
    · have hlt' : ¬ (0 : Int) < (k : Int) := by omega
      have c0 := V.c0
      have c1 := V.c1
      have hl := V.len
      have d0 := M.cell 0 rfl
      have d1 := M.cell 1 rfl
      have e0 := M.fz 0 rfl
      have e1 := M.fz 1 rfl
      have HO := hide M.out
      have HW := hide V.own
      have HS := hide src
      clear M V src
      go_wp2
      exact bodyPost_ret (v := .agg #[.int .i64 sz, .slice ra n rc]) (by simp [results, Tryz.results39, go_sem, d0, d1]) rfl (DrewC.mk
        (own_mono (own_keep HW.out (fun g hg => by rw [Below.heap_setCell _ _ _ _ (by have := (own_ge HW.out hg).1; simp; omega), Below.heap_setCell _ _ _ _ (by have := (own_ge HW.out hg).1; simp; omega)])) (by omega)) hl hn hns ((HS.out.setCell (by exact hp) _).setCell (by exact hp) _) (by omega) ((HO.out.setNew (Nat.le_refl _) _).setNew (Nat.le_refl _) _))

end Go.Proofs.YtnibngigbcakkaaGreat
