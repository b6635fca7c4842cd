import Derived.Test.YtgkjmeogdomgmaaOpenTabR
import Derived.Test.YtgkjmeogdomgmaaEnterP
import Derived.Test.YtgkjmeogdomgmaaTgP
import Derived.Test.YtgkjmeogdomgmaaTabK
import Derived.Test.YtgkjmeogdomgmaaL3Fault
import Derived.WalkKit
import Derived.ProofKit
import Derived.OpenShut
import Derived.ShutString
import Derived.ChangeOld
import Derived.Below
import Derived.WalkSpells
import Derived.Deep.QuietTactic
import Derived.BigQuiet
import Derived.Deep.RegionWith
import Derived.Deep.WholeRow
import Derived.Deep.DeepCutAuto
import Derived.Deep.RegionHeld2
import Derived.Deep.AppendLies
import Derived.Deep.RegionLaw
namespace Go.Proofs.Ytgkjmeogdomgmaa
open Go.ChangeShapes Go.WideShapes Go.ChangeAt Go.RowKit

def otF (ss : List (Int × List Int)) (ts ds zs : List Int) : Int := if tabF ss ts ds = 0 then fault zs else tabF ss ts ds

def agC (ss : List (Int × List Int)) (ts ds zs : List Int) : Int := if otF ss ts ds zs = 0 then (if thing0 zs = true then (if ts.length = 6 then 7 else etC ss zs) else 1) else otF ss ts ds zs

def agV (ss : List (Int × List Int)) (ts ds zs : List Int) : Int := if agC ss ts ds zs = 0 then (ts.length : Int) + 1 else 0

def agS (ss : List (Int × List Int)) (ts ds zs : List Int) : List (Int × List Int) := if agC ss ts ds zs = 0 then enS ss zs else []

def agT (ss : List (Int × List Int)) (ts ds zs : List Int) : List Int := if agC ss ts ds zs = 0 then ts ++ [(enQ ss zs : Int)] else []

def agD (ss : List (Int × List Int)) (ts ds zs : List Int) : List Int := if agC ss ts ds zs = 0 then ds else []

def adC (ss : List (Int × List Int)) (ts ds zs : List Int) : Int := if otF ss ts ds zs = 0 then (if lowB zs = true then (if ds.length = 4 then 7 else etC ss zs) else 1) else otF ss ts ds zs

def adV (ss : List (Int × List Int)) (ts ds zs : List Int) : Int := if adC ss ts ds zs = 0 then (ds.length : Int) else 0

def adS (ss : List (Int × List Int)) (ts ds zs : List Int) : List (Int × List Int) := if adC ss ts ds zs = 0 then enS ss zs else []

def adT (ss : List (Int × List Int)) (ts ds zs : List Int) : List Int := if adC ss ts ds zs = 0 then ts else []

def adD (ss : List (Int × List Int)) (ts ds zs : List Int) : List Int := if adC ss ts ds zs = 0 then ds ++ [(enQ ss zs : Int)] else []

theorem otF_zero {ss : List (Int × List Int)} {ts ds zs : List Int} (h : otF ss ts ds zs = 0) : tabF ss ts ds = 0 ∧ fault zs = 0 := by
  unfold otF at h
  split at h
  · exact ⟨by assumption, h⟩
  · exact absurd h (by assumption)

theorem things_one {zs : List Int} (h : fault zs = 0) : thingsB [zs] = thing0 zs := by
  simp [thingsB, thingB, thing0, h]

theorem lows_one (zs : List Int) : lowsB [zs] = lowB zs := by simp [lowsB]

theorem lbs_one {w : World} {b : Nat} {la : Option Addr} {ll lc : Nat} {zs : List Int} (hc : w.cell? ⟨b, 0, none⟩ = some (.slice la ll lc)) (hl : ll ≤ maxLen) (hs : Sl w la ll zs) : Lbs w (some ⟨b, 0, none⟩) 1 [zs] :=
  ⟨rfl, fun _ => ⟨b, 0, rfl, World.block_lt_of_cell? _ _ hc, fun i hi => by
    obtain rfl : i = 0 := by omega
    exact ⟨la, ll, lc, hc, hl, hs⟩⟩⟩

/-- what 'openTablesFor' answers. -/
def OTF (ss : List (Int × List Int)) (ts ds zs : List Int) (w : World) (e : Ending) (w' : World) : Prop :=
  ∃ sz mo xa xn xc ya yn yc, e = .returned (.tuple #[.agg #[.int .i64 sz, .map mo, .slice xa xn xc, .slice ya yn yc], .int .i64 (otF ss ts ds zs)]) ∧ Below w.heap.size w w' ∧
    (tabF ss ts ds = 0 → sz = (ss.length : Int) ∧ Led3 w.heap.size mo ss xa xn xc ts ya yn yc ds w')

theorem OTF.mk {ss : List (Int × List Int)} {ts ds zs : List Int} {w w' : World} {e : Ending} (sz : Int) (mo : Option Nat) (xa : Option Addr) (xn xc : Nat) (ya : Option Addr) (yn yc : Nat) (he : e = .returned (.tuple #[.agg #[.int .i64 sz, .map mo, .slice xa xn xc, .slice ya yn yc], .int .i64 (otF ss ts ds zs)])) (hb : Below w.heap.size w w')
    (h : tabF ss ts ds = 0 → sz = (ss.length : Int) ∧ Led3 w.heap.size mo ss xa xn xc ts ya yn yc ds w') : OTF ss ts ds zs w e w' := ⟨sz, mo, xa, xn, xc, ya, yn, yc, he, hb, h⟩

theorem OT.ofS {S1 S2 S3 S : Nat → Prop} {a : Option Addr} {n : Nat} {ss : List (Int × List Int)} {ta : Option Addr} {tn : Nat} {ts : List Int} {da : Option Addr} {dn : Nat} {ds : List Int} {w : World} (o1 : OR S1 a n ss w) (o2 : OS S2 ta tn ts w) (o3 : OS S3 da dn ds w) (h1 : ∀ k, S1 k → S k) (h2 : ∀ k, S2 k → S k) (h3 : ∀ k, S3 k → S k) (h12 : ∀ k, S1 k → ¬ S2 k) (h13 : ∀ k, S1 k → ¬ S3 k) (h23 : ∀ k, S2 k → ¬ S3 k) : OT S a n ss ta tn ts da dn ds w :=
  ⟨S1, S2, S3, h1, h2, h3, h12, h13, h23, o1, o2, o3⟩

set_option maxRecDepth 100000 in
set_option maxHeartbeats 1000000 in
theorem l3Asked_calls (p r : Nat) (a : Option Addr) (n c : Nat) (ss : List (Int × List Int)) (ta : Option Addr) (tn tc : Nat) (ts : List Int) (da : Option Addr) (dn dc : Nat) (ds : List Int) (b : Option Addr) (lb cb : Nat) (zs : List Int) (w : World) (hp : p < w.heap.size)
    (hpc : w.cell? ⟨p, 0, none⟩ = some (.slice a n c)) (hpt : w.cell? ⟨p, 1, none⟩ = some (.slice ta tn tc)) (hpd : w.cell? ⟨p, 2, none⟩ = some (.slice da dn dc)) (hrt : RT w a n ss ta tn ts da dn ds) (hr : r < w.heap.size) (hrc : w.cell? ⟨r, 0, none⟩ = some (.slice b lb cb)) (hlb : lb ≤ maxLen) (hy : Sl w b lb zs) :
    Calls Try.prog 116 #[.pointer (some ⟨p, 0, none⟩), .pointer (some ⟨r, 0, none⟩)] w fun e w' => e = .returned (.int .i64 (otF ss ts ds zs)) ∧ Below w.heap.size w w' := by
  go_enter Try.func116, Try.ntmps116
  go_wp2_with fail
  refine (l3Fault_calls p a n c ss ta tn tc ts da dn dc ds _ hp hpc hpt hpd hrt).mono ?_
  rintro e w1 ⟨rfl, g1⟩
  have HG := hide g1
  by_cases hf : tabF ss ts ds = 0
  · have HE : Hid (otF ss ts ds zs = fault zs) := if_pos hf
    have rc := (g1.cell (p := ⟨r, 0, none⟩) hr).trans hrc
    have hy1 := hy.below g1 (Nat.le_refl _)
    have hr1 : r < w1.heap.size := by have := g1.size; omega
    rw [hf]
    clear g1 hf hrt hy
    go_wp2_with fail
    refine (l1FaultO_calls r 0 b lb cb zs _ hlb hr1 rc hy1).mono ?_
    rintro e w2 ⟨rfl, g2⟩
    have HG2 := hide (HG.out.trans (g2.mono HG.out.size))
    clear g2 hy1
    go_wp2
    go_ret
    exact ⟨by rw [HE.out]; rfl, HG2.out⟩
  · have HE : Hid (otF ss ts ds zs = tabF ss ts ds) := if_neg hf
    have en : (tabF ss ts ds != 0) = true := by simpa using hf
    clear g1 hf hrt hy
    go_wp2
    go_ret
    exact ⟨by rw [HE.out]; rfl, HG.out⟩

end Go.Proofs.Ytgkjmeogdomgmaa
