import Derived.Test.YtgkjmeogdomgmaaP0
import Derived.Test.YtgkjmeogdomgmaaR4
import Derived.WalkKit
import Derived.ProofKit
import Derived.OpenShut
import Derived.ShutString
import Derived.ChangeOld
import Derived.Below
import Derived.WalkSpells
import Derived.Deep.QuietTactic
import Derived.BigQuiet
import Derived.Deep.RegionWith
import Derived.Deep.WholeRow
import Derived.Deep.DeepCutAuto
import Derived.Deep.RegionHeld2
import Derived.Deep.AppendLies
import Derived.Deep.RegionLaw
namespace Go.Proofs.Ytgkjmeogdomgmaa
open Go.ChangeShapes Go.WideShapes Go.ChangeAt Go.RowKit

theorem al5_at0 (X : World) (v0 v1 v2 v3 v4 : Value) (t : TypeId) : (X.alloc (.cells #[v0, v1, v2, v3, v4] t)).cell? ⟨X.heap.size, 0, none⟩ = some v0 := by simp

theorem al5_at2 (X : World) (v0 v1 v2 v3 v4 : Value) (t : TypeId) : (X.alloc (.cells #[v0, v1, v2, v3, v4] t)).cell? ⟨X.heap.size, 2, none⟩ = some v2 := by simp

theorem al5_at3 (X : World) (v0 v1 v2 v3 v4 : Value) (t : TypeId) : (X.alloc (.cells #[v0, v1, v2, v3, v4] t)).cell? ⟨X.heap.size, 3, none⟩ = some v3 := by simp

theorem al5_at4 (X : World) (v0 v1 v2 v3 v4 : Value) (t : TypeId) : (X.alloc (.cells #[v0, v1, v2, v3, v4] t)).cell? ⟨X.heap.size, 4, none⟩ = some v4 := by simp

theorem TW.alloc {q T : Nat} {a : Option Addr} {n c : Nat} {ss : List (Int × List Int)} {ta : Option Addr} {tn tc : Nat} {ts : List Int} {da : Option Addr} {dn dc : Nat} {ds : List Int} {X : World} (h : TW q T a n c ss ta tn tc ts da dn dc ds X) (o : Obj) : TW q T a n c ss ta tn tc ts da dn dc ds (X.alloc o) := h.below ((Below.refl _ _).alloc (Nat.le_refl _) o)

theorem Src.allocS {X : World} {p : Nat} {a : Option Addr} {len cap t : Nat} (h : Src X p a len cap t) (o : Obj) : Src (X.alloc o) p a len cap t := h.below ((Below.refl _ _).alloc (Nat.le_refl _) o)

theorem Src.set5S {X : World} {p B : Nat} {a : Option Addr} {len cap t : Nat} (h : Src X p a len cap t) (hB : p < B) (v0 v1 v2 v3 v4 : Value) : Src (((((X.setCell ⟨B, 0, none⟩ v0).setCell ⟨B, 1, none⟩ v1).setCell ⟨B, 2, none⟩ v2).setCell ⟨B, 3, none⟩ v3).setCell ⟨B, 4, none⟩ v4) p a len cap t :=
  ((((h.setCell (q := ⟨B, 0, none⟩) hB v0).setCell (q := ⟨B, 1, none⟩) hB v1).setCell (q := ⟨B, 2, none⟩) hB v2).setCell (q := ⟨B, 3, none⟩) hB v3).setCell (q := ⟨B, 4, none⟩) hB v4

theorem Mo.allocS {p : Nat} {w X : World} {cs : List (Nat × Nat × Value)} {fs : List (Nat × Nat × (World → Prop))} (h : Mo p w X cs fs) (o : Obj) : Mo p w (X.alloc o) cs fs := h.below ((Below.refl _ _).alloc (Nat.le_refl _) o)

theorem Mo.set5S {p : Nat} {w X : World} {cs : List (Nat × Nat × Value)} {B : Nat} (h : Mo p w X cs []) (hb : w.heap.size ≤ B) (hc : ∀ c ∈ cs, c.1 ≠ B) (v0 v1 v2 v3 v4 : Value) : Mo p w (((((X.setCell ⟨B, 0, none⟩ v0).setCell ⟨B, 1, none⟩ v1).setCell ⟨B, 2, none⟩ v2).setCell ⟨B, 3, none⟩ v3).setCell ⟨B, 4, none⟩ v4) cs [] :=
  ((((h.off hb hc (by simp) v0).off hb hc (by simp) v1).off hb hc (by simp) v2).off hb hc (by simp) v3).off hb hc (by simp) v4

theorem OTW.tlen {S : Nat → Prop} {a : Option Addr} {n : Nat} {ss : List (Int × List Int)} {ta : Option Addr} {tn tc : Nat} {ts : List Int} {da : Option Addr} {dn : Nat} {ds : List Int} {w : World} (h : OTW S a n ss ta tn tc ts da dn ds w) : ts.length = tn := by
  obtain ⟨S1, S2, S3, _, _, _, _, _, _, _, o2, _⟩ := h
  exact o2.1.1

theorem agT_len (ss : List (Int × List Int)) (ts ds zs : List Int) : (agT ss ts ds zs).length ≤ ts.length + 1 := by
  unfold agT; split <;> simp

theorem adT_len (ss : List (Int × List Int)) (ts ds zs : List Int) : (adT ss ts ds zs).length ≤ ts.length := by
  unfold adT; split <;> simp

theorem TW.s3 {q T : Nat} {a : Option Addr} {n c : Nat} {ss : List (Int × List Int)} {ta : Option Addr} {tn tc : Nat} {ts : List Int} {da : Option Addr} {dn dc : Nat} {ds : List Int} {X : World} (h : TW q T a n c ss ta tn tc ts da dn dc ds X) : X.cell? ⟨q, 0, none⟩ = some (.slice a n c) ∧ X.cell? ⟨q, 1, none⟩ = some (.slice ta tn tc) ∧ X.cell? ⟨q, 2, none⟩ = some (.slice da dn dc) := ⟨h.c0, h.c1, h.c2⟩

theorem outQ {X Y : World} {p : Nat} (hb : Outside p (p + 1) X Y) : (∀ b o, p < b → b < X.heap.size → Y.cell? ⟨b, o, none⟩ = X.cell? ⟨b, o, none⟩) ∧ (∀ b o, p < b → b < X.heap.size → Y.frozen? ⟨b, o, none⟩ = X.frozen? ⟨b, o, none⟩) :=
  ⟨fun b o h hl => World.cell?_of_block (a := ⟨b, o, none⟩) (hb.block b hl (.inr h)), fun b o h hl => World.frozen?_of_block (a := ⟨b, o, none⟩) (hb.block b hl (.inr h))⟩

theorem TV.put {q : Nat} {a : Option Addr} {n c : Nat} {ss : List (Int × List Int)} {ta : Option Addr} {tn tc : Nat} {ts : List Int} {da : Option Addr} {dn dc : Nat} {ds : List Int} {X : World} {x0 x1 x2 : Value} {B : Nat} (h0 : X.cell? ⟨q, 0, none⟩ = some x0) (h1 : X.cell? ⟨q, 1, none⟩ = some x1) (h2 : X.cell? ⟨q, 2, none⟩ = some x2) (hf : ∀ j, X.frozen? ⟨q, j, none⟩ = false) (hB : q < B) (ho : OTW (InR B X.heap.size) a n ss ta tn tc ts da dn ds X) :
    TV q a n c ss ta tn tc ts da dn dc ds (((X.setCell ⟨q, 0, none⟩ (.slice a n c)).setCell ⟨q, 1, none⟩ (.slice ta tn tc)).setCell ⟨q, 2, none⟩ (.slice da dn dc)) := by
  have hq := World.block_lt_of_cell? _ _ h0
  refine ⟨?_, ?_, ?_, fun j => by simpa using hf j, ?_, by simpa using hq⟩
  · rw [World.cell?_setCell_other _ _ _ _ (fun e => by injection e with _ e2; omega), World.cell?_setCell_other _ _ _ _ (fun e => by injection e with _ e2; omega)]
    exact World.cell?_setCell_same _ _ _ h0
  · rw [World.cell?_setCell_other _ _ _ _ (fun e => by injection e with _ e2; omega)]
    exact World.cell?_setCell_same _ _ _ ((World.cell?_setCell_other _ _ _ _ (fun e => by injection e with _ e2; omega)).trans h1)
  · exact World.cell?_setCell_same _ _ _ ((World.cell?_setCell_other _ _ _ _ (fun e => by injection e with _ e2; omega)).trans ((World.cell?_setCell_other _ _ _ _ (fun e => by injection e with _ e2; omega)).trans h2))
  · refine (ho.keep (fun k hS _ => ?_)).mono (fun k hS => ⟨by have := hS.1; omega, by have := hS.2; simpa using this⟩)
    have hk := hS.1
    rw [Below.heap_setCell _ _ _ _ (by simp; omega), Below.heap_setCell _ _ _ _ (by simp; omega), Below.heap_setCell _ _ _ _ (by simp; omega)]

/-- what l3Draw gives. -/
def DrewT (p : Nat) (a : Option Addr) (len cap t : Nat) (w : World) (e : Ending) (w' : World) : Prop :=
  ∃ (ra : Option Addr) (n c : Nat) (ss : List (Int × List Int)) (ta : Option Addr) (tn tc : Nat) (ts : List Int) (da : Option Addr) (dn dc : Nat) (ds : List Int) (t' : Nat), e = .returned (.agg #[.slice ra n c, .slice ta tn tc, .slice da dn dc]) ∧ tn ≤ 4 ∧ tabF ss ts ds = 0 ∧ OTW (InR (w.heap.size + 1 + 1) w'.heap.size) ra n ss ta tn tc ts da dn ds w' ∧ Src w' p a len cap t' ∧ t' ≤ t + 60 ∧ Outside p (p + 1) w w'

set_option maxRecDepth 100000 in
set_option maxHeartbeats 40000000 in
theorem l3Draw_calls (p : Nat) (a : Option Addr) (len cap t : Nat) (w : World) (ht : t ≤ 980000) (hs : Src w p a len cap t) :
    Calls Try.prog 112 #[.pointer (some ⟨p, 0, none⟩)] w (DrewT p a len cap t w) := by
  have hp : p < w.heap.size := hs.1
  have M0 := (Mo.start p w).alloc3 hp (.slice none 0 0) (.slice none 0 0) (.slice none 0 0) 36
  have V0 := TV.new (w.alloc (.cells #[.slice none 0 0, .slice none 0 0, .slice none 0 0] 36)) 36
  have s0 := hs.below (((Below.refl _ _).alloc (Nat.le_refl _) (.cells #[.slice none 0 0, .slice none 0 0, .slice none 0 0] 36)).alloc (by simp) (.cells #[.slice none 0 0, .slice none 0 0, .slice none 0 0] 36))
  have M0' := M0.below ((Below.refl _ _).alloc (Nat.le_refl _) (.cells #[.slice none 0 0, .slice none 0 0, .slice none 0 0] 36))
  simp only [World.size_alloc] at V0
  clear M0
  go_enter Try.func112, Try.ntmps112
  go_wp2_with fail
  refine (l1Next_calls p a len cap t 4 _ (by omega) (by omega) (by omega) s0).mono ?_
  rintro e w1 ⟨r, rfl, r0, r1, s1, o1⟩
  have M1 := M0'.next o1
  have V1 := V0.outside o1 (by omega)
  clear M0' V0 s0 o1
  obtain ⟨K, hK⟩ : ∃ K : Nat, 1 + r = (K : Int) := ⟨(1 + r).toNat, by omega⟩
  have hK4 : K ≤ 4 := by omega
  go_wp2
  go_loopw [4] (fun i wr => ∃ (k : Nat) (ra : Option Addr) (n c : Nat) (ss : List (Int × List Int)) (ta : Option Addr) (tn tc : Nat) (ts : List Int) (da : Option Addr) (dn dc : Nat) (ds : List Int) (t' : Nat), k ≤ 4 ∧ tn + k ≤ 4 ∧ tabF ss ts ds = 0 ∧ i = .int .i64 k ∧ TV (w.heap.size + 1) ra n c ss ta tn tc ts da dn dc ds wr ∧ Src wr p a len cap t' ∧ t' + 3 * k ≤ t + 1 + 12 ∧ Mo p w wr [(w.heap.size, 0, .slice none 0 0), (w.heap.size, 1, .slice none 0 0), (w.heap.size, 2, .slice none 0 0)] []) (fun i _ => (intOf i).toNat)
  case atStart => exact ⟨K, none, 0, 0, [], none, 0, 0, [], none, 0, 0, [], t + 1, hK4, by omega, by decide, by rw [← hK], V1, s1, by omega, M1⟩
  case round =>
    clear M1 V1 s1 r0 r1 hK
    obtain ⟨k, ra, n, c, ss, ta, tn, tc, ts, da, dn, dc, ds, t', hk, htn, htf, rfl, V, src, htk, M⟩ := hrel
    have HTF := hide htf
    clear htf
    by_cases hlt : 0 < k
    · have hlt' : (0 : Int) < (k : Int) := by omega
      have x0 := V.c0
      have x1 := V.c1
      have x2 := V.c2
      have HV := hide (V.tw)
      have HSa := hide (src.below (Below.refl _ _).drew)
      have HSb := hide (src.below (((Below.refl wr.heap.size wr).alloc (Nat.le_refl _) (.cells #[.int .i64 0, .int .i64 0, .slice none 0 0, .slice none 0 0, .slice none 0 0] 38)).drew))
      have HOa := hide (Outside.drew (Outside.refl p (p + 1) wr))
      have HOb := hide (Outside.drew (Outside.alloc p (p + 1) wr (.cells #[.int .i64 0, .int .i64 0, .slice none 0 0, .slice none 0 0, .slice none 0 0] 38)))
      have HCa : Hid (Cs wr.heap.size [.int .i64 0, .int .i64 0, .slice none 0 0, .slice none 0 0, .slice none 0 0] (wr.alloc (.cells #[.int .i64 0, .int .i64 0, .slice none 0 0, .slice none 0 0, .slice none 0 0] 38)).drew) := Cs.loc.below (Below.refl _ _).drew (Cs.alloc wr _ _)
      have HJ0 := hide (HV.out.below (Below.refl _ _).drew).s3
      have HJ1 := hide (HV.out.below (((Below.refl wr.heap.size wr).alloc (Nat.le_refl _) (.cells #[.int .i64 0, .int .i64 0, .slice none 0 0, .slice none 0 0, .slice none 0 0] 38)).drew)).s3
      have HM := hide M
      have htt : t' ≤ 990000 := by omega
      have hqw := V.lt
      have hpw : p < wr.heap.size := src.1
      have HRT := hide (V.o.rt)
      clear V src M
      go_upto_region 5 with fail
      go_cut [5] (fun v wd => ∃ (B t1 : Nat) (zs : List Int) (ra' : Option Addr) (rn' rc' : Nat) (s' : List (Int × List Int)) (xa' : Option Addr) (xn' xc' : Nat) (x' : List Int) (ya' : Option Addr) (yn' yc' : Nat) (y' : List Int), v = .pointer (some ⟨B, 0, none⟩) ∧ w.heap.size + 1 < B ∧ wd.cell? ⟨B, 0, none⟩ = some (.int .i64 (agC ss ts ds zs)) ∧ wd.cell? ⟨B, 2, none⟩ = some (.slice ra' rn' rc') ∧ wd.cell? ⟨B, 3, none⟩ = some (.slice xa' xn' xc') ∧ wd.cell? ⟨B, 4, none⟩ = some (.slice ya' yn' yc') ∧ TW (w.heap.size + 1) wr.heap.size ra n c ss ta tn tc ts da dn dc ds wd ∧ OTW (InR (w.heap.size + 1 + 1) wd.heap.size) ra' rn' s' xa' xn' xc' x' ya' yn' y' wd ∧ Src wd p a len cap t1 ∧ t1 ≤ t' + 3 ∧ Mo p w wd [(w.heap.size, 0, .slice none 0 0), (w.heap.size, 1, .slice none 0 0), (w.heap.size, 2, .slice none 0 0)] [] ∧ xn' ≤ tn + 1 ∧ (agC ss ts ds zs = 0 → tabF s' x' y' = 0))
      case first =>
        go_region_held2 (fun W => W.cell? ⟨w.heap.size + 1, 0, none⟩ = some (.slice ra n c) ∧ W.cell? ⟨w.heap.size + 1, 1, none⟩ = some (.slice ta tn tc) ∧ W.cell? ⟨w.heap.size + 1, 2, none⟩ = some (.slice da dn dc))
         (first | with_reducible assumption | with_reducible exact HJ0.out | with_reducible exact HJ1.out | with_reducible exact HV1.out.s3 | with_reducible exact (HV1.out.below ((Below.refl _ _).alloc (Nat.le_refl _) _)).s3 | with_reducible exact HV2.out.s3 | with_reducible exact (HV2.out.below ((Below.refl _ _).alloc (Nat.le_refl _) _)).s3 | with_reducible exact (HV2.out.set5 (by omega) _ _ _ _ _).s3)
         (first
          | (go_at_call 121; refine (l3Some_calls p a len cap t' false _ htt ?_).mono ?_; (first | with_reducible exact HSa.out | with_reducible exact HSb.out); rintro e u1 ⟨la, lc, zs, t1, rfl, ol, hz, s1, ht1, o1⟩; have o1w : Outside p (p + 1) wr u1 := (by first | with_reducible exact Outside.trans HOa.out o1 | with_reducible exact Outside.trans HOb.out o1); have V1 := HV.out.outside o1w (by omega); have y0 := V1.c0; have y1 := V1.c1; have y2 := V1.c2; have hq1 : w.heap.size + 1 < u1.heap.size := (by have := V1.lt; have := V1.le; omega); have HV1 := hide V1; have HS1 := hide s1; have HM1 := hide (HM.out.next o1w); have HL1 := hide ol.sl; have zu1 := o1.size; (try simp only [World.size_drew, World.size_alloc] at zu1); (try (have K1 := Cs.loc.out (OutS.of_outside o1) (fun j hj e => by have := hj.1; have := e.2; omega) HCa.out; have s0 := K1.cell 0 rfl; have HK1 := hide K1; clear K1 s0)); have zw1 := o1w.size; clear V1 s1 o1 ol hz)
          | (go_at_call 93; refine (specAddTagW_calls ra n c ss ta tn tc ts da dn dc ds la 4 lc zs _ ?_ (by unfold maxLen; omega) ?_).mono ?_; (first | exact HV1.out.o.rt | exact (HV1.out.below ((Below.refl _ _).alloc (Nat.le_refl _) _)).o.rt); (first | exact HL1.out | exact HL1.out.below ((Below.refl _ _).alloc (Nat.le_refl _) _) (Nat.le_refl _)); rintro e u2 ⟨ra', rn', rc', xa', xn', xc', ya', yn', yc', rfl, ot, g2⟩; have gw : Below u1.heap.size u1 u2 := (by first | exact g2 | exact ((Below.refl _ _).alloc (Nat.le_refl _) _).trans (g2.mono (by simp))); have zu2 := gw.size; have zg2 := g2.size; (try simp only [World.size_alloc] at zg2 ot); have HV2 := hide (HV1.out.below gw); have HS2 := hide (HS1.out.below gw); have HM2 := hide (HM1.out.below gw); have HOT := hide ot; have HXN : Hid (xn' ≤ tn + 1) := (by have h1 := ot.tlen; have h2 := agT_len ss ts ds zs; have h3 := HRT.out.2.2.2.1.1; show xn' ≤ tn + 1; omega); (try (have K2 := Cs.loc.below gw HK1.out; have s0 := K2.cell 0 rfl; have s1 := K2.cell 1 rfl; have s2 := K2.cell 2 rfl; have s3 := K2.cell 3 rfl; have s4 := K2.cell 4 rfl; have r0 := K2.fz 0 (by simp); have r1 := K2.fz 1 (by simp); have r2 := K2.fz 2 (by simp); have r3 := K2.fz 3 (by simp); have r4 := K2.fz 4 (by simp); clear K2)); (try (have K3 : Cs u1.heap.size [.int .i64 0, .int .i64 0, .slice none 0 0, .slice none 0 0, .slice none 0 0] u2 := Cs.loc.below g2 (Cs.alloc u1 _ _); have s0 := K3.cell 0 rfl; have s1 := K3.cell 1 rfl; have s2 := K3.cell 2 rfl; have s3 := K3.cell 3 rfl; have s4 := K3.cell 4 rfl; have r0 := K3.fz 0 (by simp); have r1 := K3.fz 1 (by simp); have r2 := K3.fz 2 (by simp); have r3 := K3.fz 3 (by simp); have r4 := K3.fz 4 (by simp); clear K3)); clear ot g2 gw))
        all_goals go_wp2_with fail
        all_goals go_meet
        all_goals (
          refine ⟨_, t1, zs, ra', rn', rc', agS ss ts ds zs, xa', xn', xc', agT ss ts ds zs, ya', yn', yc', agD ss ts ds zs, rfl, ?lt, ?c0, ?c2, ?c3, ?c4, ?tv, ?ow, ?sr, ht1, ?mo, HXN.out, fun h => (ag_right h).1⟩
          case lt => omega
          case c0 => first | (with_reducible exact al5_at0 _ _ _ _ _ _ _) | (with_reducible refine set5_at0 _ _ _ _ _ _ _ ?_; exact ⟨_, s0⟩)
          case c2 => first | (with_reducible exact al5_at2 _ _ _ _ _ _ _) | (with_reducible refine set5_at2 _ _ _ _ _ _ _ ?_; exact ⟨_, s2⟩)
          case c3 => first | (with_reducible exact al5_at3 _ _ _ _ _ _ _) | (with_reducible refine set5_at3 _ _ _ _ _ _ _ ?_; exact ⟨_, s3⟩)
          case c4 => first | (with_reducible exact al5_at4 _ _ _ _ _ _ _) | (with_reducible refine set5_at4 _ _ _ _ _ _ _ ?_; exact ⟨_, s4⟩)
          case tv => first | (with_reducible exact HV2.out.alloc _) | (with_reducible exact HV2.out.set5 (by omega) _ _ _ _ _)
          case ow => first | (with_reducible exact OTW.allocW HOT.out (by omega) (by omega) _) | (with_reducible exact OTW.set5W HOT.out (by omega) (by omega) (by omega) _ _ _ _ _)
          case sr => first | (with_reducible exact HS2.out.allocS _) | (with_reducible exact HS2.out.set5S (by omega) _ _ _ _ _)
          case mo => first | (with_reducible exact HM2.out.allocS _) | (with_reducible exact HM2.out.set5S (by omega) (by simp <;> omega) _ _ _ _ _))
      case rest =>
        obtain ⟨B, t1, zs, ra', rn', rc', s', xa', xn', xc', x', ya', yn', yc', y', rfl, hBq, c0, c2, c3, c4, V, ow, src, ht1, M, hxn, htf'⟩ := hcut
        have HTF' := hide htf'
        clear htf'
        obtain ⟨k', rfl⟩ : ∃ j, k = j + 1 := ⟨k - 1, by omega⟩
        have x0 := V.c0
        have x1 := V.c1
        have x2 := V.c2
        have f0 := V.f 0
        have f1 := V.f 1
        have f2 := V.f 2
        have lq : w.heap.size + 1 < wc.heap.size := (by have := V.lt; have := V.le; omega)
        have lB := World.block_lt_of_cell? _ _ c0
        by_cases hz : agC ss ts ds zs = 0
        · have ez : (agC ss ts ds zs == 0) = true := by simpa using hz
          have HTN := hide (HTF'.out hz)
          have HV := hide (TV.put (c := rc') (dc := yc') V.c0 V.c1 V.c2 V.f (B := w.heap.size + 1 + 1) (by omega) ow)
          have HS := hide (((src.setCell (q := ⟨w.heap.size + 1, 0, none⟩) (by show p < w.heap.size + 1; omega) (.slice ra' rn' rc')).setCell (q := ⟨w.heap.size + 1, 1, none⟩) (by show p < w.heap.size + 1; omega) (.slice xa' xn' xc')).setCell (q := ⟨w.heap.size + 1, 2, none⟩) (by show p < w.heap.size + 1; omega) (.slice ya' yn' yc'))
          have HMM := hide (((M.off (P := w.heap.size + 1) (o := 0) (by omega) (by simp) (by simp) (.slice ra' rn' rc')).off (P := w.heap.size + 1) (o := 1) (by omega) (by simp) (by simp) (.slice xa' xn' xc')).off (P := w.heap.size + 1) (o := 2) (by omega) (by simp) (by simp) (.slice ya' yn' yc'))
          clear V M src ow hz
          go_wp2
          go_roundw
          case rel => exact ⟨k', _, _, _, _, _, _, _, _, _, _, _, _, t1, by omega, by omega, HTN.out, by go_num, HV.out, HS.out, by omega, HMM.out⟩
          case measure => simp [intOf]
        · have ez : (agC ss ts ds zs == 0) = false := by simpa using hz
          have HV := hide V.tv
          have HS := hide src
          have HMM := hide M
          clear V M src ow hz
          go_wp2
          go_roundw
          case rel => exact ⟨k', _, _, _, _, _, _, _, _, _, _, _, _, t1, by omega, by omega, HTF.out, by go_num, HV.out, HS.out, by omega, HMM.out⟩
          case measure => simp [intOf]
    · have hk0 : k = 0 := by omega
      subst hk0
      have hlt' : ¬ (0 : Int) < 0 := by omega
      go_wp2_with fail
      refine (l1Next_calls p a len cap t' 3 _ (by omega) (by omega) (by omega) src).mono ?_
      rintro e w2 ⟨r, rfl, r0, r1, s2, o2⟩
      have M2 := M.next o2
      have V2 := V.outside o2 (by omega)
      clear M V src o2
      obtain ⟨K2, hK2⟩ : ∃ K : Nat, 1 + r = (K : Int) := ⟨(1 + r).toNat, by omega⟩
      have hK3 : K2 ≤ 3 := by omega
      go_wp2
      go_loopw [6] (fun i wr => ∃ (k : Nat) (ra : Option Addr) (n c : Nat) (ss : List (Int × List Int)) (ta : Option Addr) (tn tc : Nat) (ts : List Int) (da : Option Addr) (dn dc : Nat) (ds : List Int) (t' : Nat), k ≤ 3 ∧ tn ≤ 4 ∧ tabF ss ts ds = 0 ∧ i = .int .i64 k ∧ TV (w.heap.size + 1) ra n c ss ta tn tc ts da dn dc ds wr ∧ Src wr p a len cap t' ∧ t' + 3 * k ≤ t + 1 + 12 + 1 + 9 ∧ Mo p w wr [(w.heap.size, 0, .slice none 0 0), (w.heap.size, 1, .slice none 0 0), (w.heap.size, 2, .slice none 0 0)] []) (fun i _ => (intOf i).toNat)
      case atStart => exact ⟨K2, _, _, _, _, _, _, _, _, _, _, _, _, t' + 1, hK3, by omega, HTF.out, by rw [← hK2], V2, s2, by omega, M2⟩
      case round =>
        clear M2 V2 s2 r0 r1 hK2
        obtain ⟨k, ra, n, c, ss, ta, tn, tc, ts, da, dn, dc, ds, t', hk, htn, htf, rfl, V, src, htk, M⟩ := hrel
        have HTF := hide htf
        clear htf
        by_cases hlt : 0 < k
        · have hlt' : (0 : Int) < (k : Int) := by omega
          have x0 := V.c0
          have x1 := V.c1
          have x2 := V.c2
          have HV := hide (V.tw)
          have HSa := hide (src.below (Below.refl _ _).drew)
          have HSb := hide (src.below (((Below.refl wr.heap.size wr).alloc (Nat.le_refl _) (.cells #[.int .i64 0, .int .i64 0, .slice none 0 0, .slice none 0 0, .slice none 0 0] 38)).drew))
          have HOa := hide (Outside.drew (Outside.refl p (p + 1) wr))
          have HOb := hide (Outside.drew (Outside.alloc p (p + 1) wr (.cells #[.int .i64 0, .int .i64 0, .slice none 0 0, .slice none 0 0, .slice none 0 0] 38)))
          have HCa : Hid (Cs wr.heap.size [.int .i64 0, .int .i64 0, .slice none 0 0, .slice none 0 0, .slice none 0 0] (wr.alloc (.cells #[.int .i64 0, .int .i64 0, .slice none 0 0, .slice none 0 0, .slice none 0 0] 38)).drew) := Cs.loc.below (Below.refl _ _).drew (Cs.alloc wr _ _)
          have HJ0 := hide (HV.out.below (Below.refl _ _).drew).s3
          have HJ1 := hide (HV.out.below (((Below.refl wr.heap.size wr).alloc (Nat.le_refl _) (.cells #[.int .i64 0, .int .i64 0, .slice none 0 0, .slice none 0 0, .slice none 0 0] 38)).drew)).s3
          have HM := hide M
          have htt : t' ≤ 990000 := by omega
          have hqw := V.lt
          have hpw : p < wr.heap.size := src.1
          have HRT := hide (V.o.rt)
          clear V src M
          go_upto_region 11 with fail
          go_cut [7] (fun v wd => ∃ (B t1 : Nat) (zs : List Int) (ra' : Option Addr) (rn' rc' : Nat) (s' : List (Int × List Int)) (xa' : Option Addr) (xn' xc' : Nat) (x' : List Int) (ya' : Option Addr) (yn' yc' : Nat) (y' : List Int), v = .pointer (some ⟨B, 0, none⟩) ∧ w.heap.size + 1 < B ∧ wd.cell? ⟨B, 0, none⟩ = some (.int .i64 (adC ss ts ds zs)) ∧ wd.cell? ⟨B, 2, none⟩ = some (.slice ra' rn' rc') ∧ wd.cell? ⟨B, 3, none⟩ = some (.slice xa' xn' xc') ∧ wd.cell? ⟨B, 4, none⟩ = some (.slice ya' yn' yc') ∧ TW (w.heap.size + 1) wr.heap.size ra n c ss ta tn tc ts da dn dc ds wd ∧ OTW (InR (w.heap.size + 1 + 1) wd.heap.size) ra' rn' s' xa' xn' xc' x' ya' yn' y' wd ∧ Src wd p a len cap t1 ∧ t1 ≤ t' + 3 ∧ Mo p w wd [(w.heap.size, 0, .slice none 0 0), (w.heap.size, 1, .slice none 0 0), (w.heap.size, 2, .slice none 0 0)] [] ∧ xn' ≤ tn + 0 ∧ (adC ss ts ds zs = 0 → tabF s' x' y' = 0))
          case first =>
            go_region_held2 (fun W => W.cell? ⟨w.heap.size + 1, 0, none⟩ = some (.slice ra n c) ∧ W.cell? ⟨w.heap.size + 1, 1, none⟩ = some (.slice ta tn tc) ∧ W.cell? ⟨w.heap.size + 1, 2, none⟩ = some (.slice da dn dc))
             (first | with_reducible assumption | with_reducible exact HJ0.out | with_reducible exact HJ1.out | with_reducible exact HV1.out.s3 | with_reducible exact (HV1.out.below ((Below.refl _ _).alloc (Nat.le_refl _) _)).s3 | with_reducible exact HV2.out.s3 | with_reducible exact (HV2.out.below ((Below.refl _ _).alloc (Nat.le_refl _) _)).s3 | with_reducible exact (HV2.out.set5 (by omega) _ _ _ _ _).s3)
             (first
              | (go_at_call 121; refine (l3Some_calls p a len cap t' true _ htt ?_).mono ?_; (first | with_reducible exact HSa.out | with_reducible exact HSb.out); rintro e u1 ⟨la, lc, zs, t1, rfl, ol, hz, s1, ht1, o1⟩; have o1w : Outside p (p + 1) wr u1 := (by first | with_reducible exact Outside.trans HOa.out o1 | with_reducible exact Outside.trans HOb.out o1); have V1 := HV.out.outside o1w (by omega); have y0 := V1.c0; have y1 := V1.c1; have y2 := V1.c2; have hq1 : w.heap.size + 1 < u1.heap.size := (by have := V1.lt; have := V1.le; omega); have HV1 := hide V1; have HS1 := hide s1; have HM1 := hide (HM.out.next o1w); have HL1 := hide ol.sl; have zu1 := o1.size; (try simp only [World.size_drew, World.size_alloc] at zu1); (try (have K1 := Cs.loc.out (OutS.of_outside o1) (fun j hj e => by have := hj.1; have := e.2; omega) HCa.out; have s0 := K1.cell 0 rfl; have HK1 := hide K1; clear K1 s0)); have zw1 := o1w.size; clear V1 s1 o1 ol hz)
              | (go_at_call 122; refine (specAddDomainW_calls ra n c ss ta tn tc ts da dn dc ds la 4 lc zs _ ?_ (by unfold maxLen; omega) ?_).mono ?_; (first | exact HV1.out.o.rt | exact (HV1.out.below ((Below.refl _ _).alloc (Nat.le_refl _) _)).o.rt); (first | exact HL1.out | exact HL1.out.below ((Below.refl _ _).alloc (Nat.le_refl _) _) (Nat.le_refl _)); rintro e u2 ⟨ra', rn', rc', xa', xn', xc', ya', yn', yc', rfl, ot, g2⟩; have gw : Below u1.heap.size u1 u2 := (by first | exact g2 | exact ((Below.refl _ _).alloc (Nat.le_refl _) _).trans (g2.mono (by simp))); have zu2 := gw.size; have zg2 := g2.size; (try simp only [World.size_alloc] at zg2 ot); have HV2 := hide (HV1.out.below gw); have HS2 := hide (HS1.out.below gw); have HM2 := hide (HM1.out.below gw); have HOT := hide ot; have HXN : Hid (xn' ≤ tn + 0) := (by have h1 := ot.tlen; have h2 := adT_len ss ts ds zs; have h3 := HRT.out.2.2.2.1.1; show xn' ≤ tn + 0; omega); (try (have K2 := Cs.loc.below gw HK1.out; have s0 := K2.cell 0 rfl; have s1 := K2.cell 1 rfl; have s2 := K2.cell 2 rfl; have s3 := K2.cell 3 rfl; have s4 := K2.cell 4 rfl; have r0 := K2.fz 0 (by simp); have r1 := K2.fz 1 (by simp); have r2 := K2.fz 2 (by simp); have r3 := K2.fz 3 (by simp); have r4 := K2.fz 4 (by simp); clear K2)); (try (have K3 : Cs u1.heap.size [.int .i64 0, .int .i64 0, .slice none 0 0, .slice none 0 0, .slice none 0 0] u2 := Cs.loc.below g2 (Cs.alloc u1 _ _); have s0 := K3.cell 0 rfl; have s1 := K3.cell 1 rfl; have s2 := K3.cell 2 rfl; have s3 := K3.cell 3 rfl; have s4 := K3.cell 4 rfl; have r0 := K3.fz 0 (by simp); have r1 := K3.fz 1 (by simp); have r2 := K3.fz 2 (by simp); have r3 := K3.fz 3 (by simp); have r4 := K3.fz 4 (by simp); clear K3)); clear ot g2 gw))
            all_goals go_wp2_with fail
            all_goals go_meet
            all_goals (
              refine ⟨_, t1, zs, ra', rn', rc', adS ss ts ds zs, xa', xn', xc', adT ss ts ds zs, ya', yn', yc', adD ss ts ds zs, rfl, ?lt, ?c0, ?c2, ?c3, ?c4, ?tv, ?ow, ?sr, ht1, ?mo, HXN.out, fun h => (ad_right h).1⟩
              case lt => omega
              case c0 => first | (with_reducible exact al5_at0 _ _ _ _ _ _ _) | (with_reducible refine set5_at0 _ _ _ _ _ _ _ ?_; exact ⟨_, s0⟩)
              case c2 => first | (with_reducible exact al5_at2 _ _ _ _ _ _ _) | (with_reducible refine set5_at2 _ _ _ _ _ _ _ ?_; exact ⟨_, s2⟩)
              case c3 => first | (with_reducible exact al5_at3 _ _ _ _ _ _ _) | (with_reducible refine set5_at3 _ _ _ _ _ _ _ ?_; exact ⟨_, s3⟩)
              case c4 => first | (with_reducible exact al5_at4 _ _ _ _ _ _ _) | (with_reducible refine set5_at4 _ _ _ _ _ _ _ ?_; exact ⟨_, s4⟩)
              case tv => first | (with_reducible exact HV2.out.alloc _) | (with_reducible exact HV2.out.set5 (by omega) _ _ _ _ _)
              case ow => first | (with_reducible exact OTW.allocW HOT.out (by omega) (by omega) _) | (with_reducible exact OTW.set5W HOT.out (by omega) (by omega) (by omega) _ _ _ _ _)
              case sr => first | (with_reducible exact HS2.out.allocS _) | (with_reducible exact HS2.out.set5S (by omega) _ _ _ _ _)
              case mo => first | (with_reducible exact HM2.out.allocS _) | (with_reducible exact HM2.out.set5S (by omega) (by simp <;> omega) _ _ _ _ _))
          case rest =>
            obtain ⟨B, t1, zs, ra', rn', rc', s', xa', xn', xc', x', ya', yn', yc', y', rfl, hBq, c0, c2, c3, c4, V, ow, src, ht1, M, hxn, htf'⟩ := hcut
            have HTF' := hide htf'
            clear htf'
            obtain ⟨k', rfl⟩ : ∃ j, k = j + 1 := ⟨k - 1, by omega⟩
            have x0 := V.c0
            have x1 := V.c1
            have x2 := V.c2
            have f0 := V.f 0
            have f1 := V.f 1
            have f2 := V.f 2
            have lq : w.heap.size + 1 < wc.heap.size := (by have := V.lt; have := V.le; omega)
            have lB := World.block_lt_of_cell? _ _ c0
            by_cases hz : adC ss ts ds zs = 0
            · have ez : (adC ss ts ds zs == 0) = true := by simpa using hz
              have HTN := hide (HTF'.out hz)
              have HV := hide (TV.put (c := rc') (dc := yc') V.c0 V.c1 V.c2 V.f (B := w.heap.size + 1 + 1) (by omega) ow)
              have HS := hide (((src.setCell (q := ⟨w.heap.size + 1, 0, none⟩) (by show p < w.heap.size + 1; omega) (.slice ra' rn' rc')).setCell (q := ⟨w.heap.size + 1, 1, none⟩) (by show p < w.heap.size + 1; omega) (.slice xa' xn' xc')).setCell (q := ⟨w.heap.size + 1, 2, none⟩) (by show p < w.heap.size + 1; omega) (.slice ya' yn' yc'))
              have HMM := hide (((M.off (P := w.heap.size + 1) (o := 0) (by omega) (by simp) (by simp) (.slice ra' rn' rc')).off (P := w.heap.size + 1) (o := 1) (by omega) (by simp) (by simp) (.slice xa' xn' xc')).off (P := w.heap.size + 1) (o := 2) (by omega) (by simp) (by simp) (.slice ya' yn' yc'))
              clear V M src ow hz
              go_wp2
              go_roundw
              case rel => exact ⟨k', _, _, _, _, _, _, _, _, _, _, _, _, t1, by omega, by omega, HTN.out, by go_num, HV.out, HS.out, by omega, HMM.out⟩
              case measure => simp [intOf]
            · have ez : (adC ss ts ds zs == 0) = false := by simpa using hz
              have HV := hide V.tv
              have HS := hide src
              have HMM := hide M
              clear V M src ow hz
              go_wp2
              go_roundw
              case rel => exact ⟨k', _, _, _, _, _, _, _, _, _, _, _, _, t1, by omega, by omega, HTF.out, by go_num, HV.out, HS.out, by omega, HMM.out⟩
              case measure => simp [intOf]
        · have hk0 : k = 0 := by omega
          subst hk0
          have hlt' : ¬ (0 : Int) < 0 := by omega
          have c0 := V.c0
          have c1 := V.c1
          have c2 := V.c2
          have d0 := M.cell 0 rfl
          have d1 := M.cell 1 rfl
          have d2 := M.cell 2 rfl
          have e0 := M.fz 0 rfl
          have e1 := M.fz 1 rfl
          have e2 := M.fz 2 rfl
          have HO := hide M.out
          have HV := hide V
          have HS := hide src
          clear M V src
          go_wp2
          refine bodyPost_ret (v := .agg #[.slice ra n c, .slice ta tn tc, .slice da dn dc]) (by simp [results, Try.results112, go_sem, d0, d1, d2]) rfl ⟨ra, n, c, ss, ta, tn, tc, ts, da, dn, dc, ds, t', rfl, htn, HTF.out, ?_, ((HS.out.setCell (by exact hp) _).setCell (by exact hp) _).setCell (by exact hp) _, by omega, ((HO.out.setNew (Nat.le_refl _) _).setNew (Nat.le_refl _) _).setNew (Nat.le_refl _) _⟩
          refine (HV.out.o.keep (fun k hS _ => ?_)).mono (fun k hS => ⟨hS.1, by have := hS.2; simpa using this⟩)
          have hk := hS.1
          rw [Below.heap_setCell _ _ _ _ (by simp; omega), Below.heap_setCell _ _ _ _ (by simp; omega), Below.heap_setCell _ _ _ _ (by simp; omega)]

end Go.Proofs.Ytgkjmeogdomgmaa
