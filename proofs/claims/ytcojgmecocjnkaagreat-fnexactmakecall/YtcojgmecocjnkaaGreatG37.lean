import Derived.Test.YtcojgmecocjnkaaGreatG25
import Derived.WalkKit
import Derived.ProofKit
import Derived.OpenShut
import Derived.ShutString
import Derived.ChangeOld
import Derived.Below
import Derived.WalkSpells
import Derived.Deep.QuietTactic
import Derived.BigQuiet
import Derived.Deep.RegionWith
import Derived.Deep.WholeRow
import Derived.Deep.DeepCutAuto
import Derived.Deep.RegionHeld2
import Derived.Deep.AppendLies
import Derived.Deep.RegionLaw
namespace Go.Proofs.YtcojgmecocjnkaaGreat
open Go.ChangeShapes Go.WideShapes Go.ChangeAt Go.RowKit

set_option maxRecDepth 100000 in
set_option maxHeartbeats 1000000 in
theorem copiedMemory_C (a : Option Addr) (n c : Nat) (ls : List (Int × Int)) (w : World) (hn : n ≤ 1048576) (hs : Swd w a n ls) :
    Calls Tryz.prog 98 #[.agg #[.slice a n c]] w fun e w' => ∃ ra, e = .returned (.agg #[.slice ra n n]) ∧ OWd (InR w.heap.size w'.heap.size) ra n ls w' ∧ Below w.heap.size w w' := by
  obtain ⟨hlen, hs⟩ := hs
  obtain ⟨i0, hi, hz0, hz1, hz2⟩ := info_parts infoWord
  have hmk : ∀ u : World, (Instr.makeSlice 44 (.int .i64 (n : Int)) (.int .i64 (n : Int))).run Tryz.prog u =
      .ok (.slice (some ⟨u.heap.size, 0, none⟩) n n) (u.alloc (.cells (madeCells #[.int .i64 0, .int .i64 0] (n * 2)) 129)) := fun u => by
    have h := run_make (P := Tryz.prog) u 44 129 i0 (.agg #[.int .i64 0, .int .i64 0]) Tryz.underlying44 hi hz0 .i64 .i64 (n : Int) (n : Int) (by omega) (Int.le_refl _) (by rw [hz2]; omega) (by omega)
    simpa [hz1, Value.cells] using h
  have HB := hide fun o1 o2 o3 => (((Below.refl w.heap.size w).alloc (Nat.le_refl _) o1).alloc (by simp) o2).alloc (by simp; omega) o3
  by_cases hp : 0 < n
  · obtain ⟨b, off, rfl, hb, hc⟩ := hs hp
    have hcp : Sem.run Tryz.prog (Builtin.copy_ #[44, 44] 3 #[.slice (some ⟨w.heap.size + 1 + 1, 0, none⟩) n n, .slice (some ⟨b, off, none⟩) n c])
        (((w.alloc (.cells #[.slice (some ⟨b, off, none⟩) n c] 46)).alloc (.cells #[.slice none 0 0] 46)).alloc (.cells (madeCells #[.int .i64 0, .int .i64 0] (n * 2)) 129)) =
        .ok (.int .i64 n) (((w.alloc (.cells #[.slice (some ⟨b, off, none⟩) n c] 46)).alloc (.cells #[.slice none 0 0] 46)).alloc (.cells (vsw ls).toArray 129)) := by
      have h := copy_w (P := Tryz.prog) ((w.alloc (.cells #[.slice (some ⟨b, off, none⟩) n c] 46)).alloc (.cells #[.slice none 0 0] 46)) 44 44 3 129 129 b off n c ls (madeCells #[.int .i64 0, .int .i64 0] (n * 2)) Tryz.underlying44 infoWord2 (by rw [size_madeCells]) hlen (by simp; omega) (fun j hj => by rw [World.cell?_alloc_past _ _ _ (by simp; omega), World.cell?_alloc_past _ _ _ hb]; exact hc j hj)
      rw [show ((w.alloc (.cells #[.slice (some ⟨b, off, none⟩) n c] 46)).alloc (.cells #[.slice none 0 0] 46)).heap.size = w.heap.size + 1 + 1 from by simp] at h
      exact h
    have HK := hide fun o1 o2 => blk_vsw ((w.alloc o1).alloc o2) ls 129
    simp only [World.size_alloc] at HK
    clear hs hc
    go_enter Tryz.func98, Tryz.ntmps98
    go_wp2
    clear hcp
    refine bodyPost_ret (v := .agg #[.slice (some ⟨w.heap.size + 1 + 1, 0, none⟩) n n]) (by simp [results, Tryz.results98, go_sem]) rfl ⟨_, rfl, ?_, ?_⟩
    · exact OWd.ofBlk (HK.out _ _) ⟨by omega, by simp⟩ hlen hn
    · first
        | exact HB.out _ _ _
        | exact (HB.out _ _ _).setCell (by simp) _
  · have h0 : n = 0 := by omega
    subst h0
    have hl0 : ls = [] := List.length_eq_zero_iff.1 hlen
    subst hl0
    have hcp := fun (u : World) (x y : Option Addr) (p q : Nat) => copy_w0 (P := Tryz.prog) u 44 44 3 129 x y p q Tryz.underlying44 infoWord2
    have hmk0 : ∀ u : World, (Instr.makeSlice 44 (.int .i64 0) (.int .i64 0)).run Tryz.prog u = .ok (.slice (some ⟨u.heap.size, 0, none⟩) 0 0) (u.alloc (.cells (madeCells #[.int .i64 0, .int .i64 0] (0 * 2)) 129)) := hmk
    clear hs hmk
    go_enter Tryz.func98, Tryz.ntmps98
    go_wp2
    refine bodyPost_ret (v := .agg #[.slice (some ⟨w.heap.size + 1 + 1, 0, none⟩) 0 0]) (by simp [results, Tryz.results98, go_sem]) rfl ⟨_, rfl, OWd.nil _ _ _, ?_⟩
    first
      | exact HB.out _ _ _
      | exact (HB.out _ _ _).setCell (by simp) _

set_option maxRecDepth 100000 in
set_option maxHeartbeats 16000000 in
theorem copiedSystem_C (A : SA) (D : SD) (w : World) (hm : szY A D ≤ 1048576) (hr : RS w A D) :
    Calls Tryz.prog 43 #[.agg #[.slice A.a A.n A.c, .slice A.ta A.tn A.tc, .slice A.da A.dn A.dc, .slice A.wa A.wn A.wc, .slice A.xa A.xn A.xc, .int .i64 D.ac, .int .i64 D.cz, .slice A.la A.ln A.lc, .int .i64 D.dv, .slice A.oa A.on A.oc, .slice A.ga A.gn A.gc]] w fun e w' => ∃ B : SA, e = .returned (.agg #[.slice B.a B.n B.c, .slice B.ta B.tn B.tc, .slice B.da B.dn B.dc, .slice B.wa B.wn B.wc, .slice B.xa B.xn B.xc, .int .i64 D.ac, .int .i64 D.cz, .slice B.la B.ln B.lc, .int .i64 D.dv, .slice B.oa B.on B.oc, .slice B.ga B.gn B.gc]) ∧ B.wn ≤ B.wc ∧ OYR (InR w.heap.size w'.heap.size) B D w' ∧ Below w.heap.size w w' := by
  obtain ⟨za, zn, zc, zta, ztn, ztc, zda, zdn, zdc, zwa, zwn, zwc, zxa, zxn, zxc, zla, zln, zlc, zoa, zon, zoc, zga, zgn, zgc⟩ := A
  unfold szY at hm
  obtain ⟨k0, k1, k2, k3, k4, k5, k6, k7⟩ := hr.len
  have hrt := hr.rt
  have hws := hr.ws
  have hxs := hr.xs
  have hls := hr.ls
  have hos := hr.os
  have hgs := hr.gs
  dsimp only at hm k0 k1 k2 k3 k4 k5 k6 k7 hrt hws hxs hls hos hgs ⊢
  clear hr
  obtain ⟨ix, hix, hzx0, hzx1, hzx2⟩ := info_parts infoContext
  have hmk : (Instr.makeSlice 47 (.int .i64 0) (.int .i64 (zxn : Int))).run Tryz.prog ((w.alloc (.cells #[.slice za zn zc, .slice zta ztn ztc, .slice zda zdn zdc, .slice zwa zwn zwc, .slice zxa zxn zxc, .int .i64 D.ac, .int .i64 D.cz, .slice zla zln zlc, .int .i64 D.dv, .slice zoa zon zoc, .slice zga zgn zgc] 53)).alloc (.cells #[.slice none 0 0, .slice none 0 0, .slice none 0 0, .slice none 0 0, .slice none 0 0, .int .i64 0, .int .i64 0, .slice none 0 0, .int .i64 0, .slice none 0 0, .slice none 0 0] 53)) =
      .ok (.slice (some ⟨w.heap.size + 1 + 1, 0, none⟩) 0 zxn) (((w.alloc (.cells #[.slice za zn zc, .slice zta ztn ztc, .slice zda zdn zdc, .slice zwa zwn zwc, .slice zxa zxn zxc, .int .i64 D.ac, .int .i64 D.cz, .slice zla zln zlc, .int .i64 D.dv, .slice zoa zon zoc, .slice zga zgn zgc] 53)).alloc (.cells #[.slice none 0 0, .slice none 0 0, .slice none 0 0, .slice none 0 0, .slice none 0 0, .int .i64 0, .int .i64 0, .slice none 0 0, .int .i64 0, .slice none 0 0, .slice none 0 0] 53)).alloc (.cells (madeCells #[.slice none 0 0, .int .i64 0, .bool false] (zxn * 3)) 122)) := by
    have h := run_make (P := Tryz.prog) ((w.alloc (.cells #[.slice za zn zc, .slice zta ztn ztc, .slice zda zdn zdc, .slice zwa zwn zwc, .slice zxa zxn zxc, .int .i64 D.ac, .int .i64 D.cz, .slice zla zln zlc, .int .i64 D.dv, .slice zoa zon zoc, .slice zga zgn zgc] 53)).alloc (.cells #[.slice none 0 0, .slice none 0 0, .slice none 0 0, .slice none 0 0, .slice none 0 0, .int .i64 0, .int .i64 0, .slice none 0 0, .int .i64 0, .slice none 0 0, .slice none 0 0] 53)) 47 122 ix (.agg #[.slice none 0 0, .int .i64 0, .bool false]) Tryz.underlying47 hix hzx0 .i64 .i64 0 (zxn : Int) (by omega) (by omega) (by rw [hzx2]; omega) (by omega)
    simpa [hzx1, Value.cells] using h
  have M0 := ((Mm.start w).allocC [.slice za zn zc, .slice zta ztn ztc, .slice zda zdn zdc, .slice zwa zwn zwc, .slice zxa zxn zxc, .int .i64 D.ac, .int .i64 D.cz, .slice zla zln zlc, .int .i64 D.dv, .slice zoa zon zoc, .slice zga zgn zgc] 53).allocC [.slice none 0 0, .slice none 0 0, .slice none 0 0, .slice none 0 0, .slice none 0 0, .int .i64 0, .int .i64 0, .slice none 0 0, .int .i64 0, .slice none 0 0, .slice none 0 0] 53
  simp only [World.size_alloc] at M0
  have hown0 := World.ownsRow_made (base := w.heap.size + 1 + 1) (e := 122) (size := 3) ((w.alloc (.cells #[.slice za zn zc, .slice zta ztn ztc, .slice zda zdn zdc, .slice zwa zwn zwc, .slice zxa zxn zxc, .int .i64 D.ac, .int .i64 D.cz, .slice zla zln zlc, .int .i64 D.dv, .slice zoa zon zoc, .slice zga zgn zgc] 53)).alloc (.cells #[.slice none 0 0, .slice none 0 0, .slice none 0 0, .slice none 0 0, .slice none 0 0, .int .i64 0, .int .i64 0, .slice none 0 0, .int .i64 0, .slice none 0 0, .slice none 0 0] 53)) (madeCells #[.slice none 0 0, .int .i64 0, .bool false] (zxn * 3)) zxn (by simp) (by unfold maxLen; omega) (by rw [size_madeCells])
  simp only [World.size_alloc] at hown0
  have HO0 := hide hown0
  have HM0 := hide (M0.below ((Below.refl _ _).alloc (Nat.le_refl _) (.cells (madeCells #[.slice none 0 0, .int .i64 0, .bool false] (zxn * 3)) 122)))
  clear hown0 M0
  go_enter Tryz.func43, Tryz.ntmps43
  go_wp2
  go_loopw [13, 3] (fun i v wr => ∃ k : Nat, k ≤ zxn ∧ i = .int .i64 k ∧ X7r w (w.heap.size + 1 + 1) [(w.heap.size + 1, w.heap.size + 1 + 1, Cs (w.heap.size + 1) [.slice none 0 0, .slice none 0 0, .slice none 0 0, .slice none 0 0, .slice none 0 0, .int .i64 0, .int .i64 0, .slice none 0 0, .int .i64 0, .slice none 0 0, .slice none 0 0]), (w.heap.size, w.heap.size + 1, Cs w.heap.size [.slice za zn zc, .slice zta ztn ztc, .slice zda zdn zdc, .slice zwa zwn zwc, .slice zxa zxn zxc, .int .i64 D.ac, .int .i64 D.cz, .slice zla zln zlc, .int .i64 D.dv, .slice zoa zon zoc, .slice zga zgn zgc])] D.cs k v wr) (fun i _ _ => zxn - (intOf i).toNat)
  case atStart => exact ⟨0, Nat.zero_le _, rfl, _, _, _, _, CX.start D.cs HO0.out, HM0.out, by simp⟩
  case round =>
    clear HO0 HM0 hmk
    obtain ⟨k, hkn, rfl, la, lc, lb, xs, hcp, M, hB⟩ := hrel
    have HX := hide hcp
    have HM := hide M
    have h6 := M.bel
    clear hcp M
    by_cases hlt : k < zxn
    · obtain ⟨b, off, rfl, hb, hc⟩ := hxs.2 (by omega)
      obtain ⟨ra0, ll, rc0, hc0, hc1, hc2, hll, hsl⟩ := hc k hlt
      have hck0 := (h6.cell (p := ⟨b, off + k * 3, none⟩) hb).trans hc0
      have hck1 := (h6.cell (p := ⟨b, off + k * 3 + 1, none⟩) hb).trans hc1
      have hck2 := (h6.cell (p := ⟨b, off + k * 3 + 2, none⟩) hb).trans hc2
      have hzl : (gx D.cs k).1.length = ll := hsl.1
      have hl2 := gx_le D.cs k (by omega)
      have gW : Below wr.heap.size wr (wr.alloc (.cells #[.slice ra0 ll rc0, .int .i64 (gx D.cs k).2.1, .bool (gx D.cs k).2.2] 122)) := (Below.refl _ _).alloc (Nat.le_refl _) _
      have hsl2 := (hsl.below h6 (Nat.le_refl _)).below gW (Nat.le_refl _)
      clear hc hc0 hc1 hc2 hsl h6
      go_wp2_with fail
      refine (copiedContext_O ra0 ll rc0 (gx D.cs k).2.1 (gx D.cs k).2.2 (gx D.cs k).1 _ (by omega) hsl2).mono ?_
      rintro e wc ⟨rb, rd, rfl, os, gw⟩
      have hC : Below wr.heap.size wr wc := gW.trans (gw.mono gW.size)
      have HO : Hid (OS (InR wr.heap.size wc.heap.size) rb ll (gx D.cs k).1 wc) := OS.mono os (fun q hq => ⟨by have h1 := hq.1; simp at h1; omega, hq.2⟩)
      have HC := hide hC
      have HW2 := hide (owns_out HX.out.own hC)
      have hS1 : wr.heap.size ≤ wc.heap.size := hC.size
      have HN := hide (three_new (W := wc.alloc (.cells #[.slice rb ll rd, .int .i64 (gx D.cs k).2.1, .bool (gx D.cs k).2.2] 122)) (B := wc.heap.size) (u := .slice rb ll rd) (v := .int .i64 (gx D.cs k).2.1) (x := .bool (gx D.cs k).2.2) (by simp) (by simp) (by simp))
      clear os gw hC hck0 hck1 hck2 hsl2 gW
      go_wp2_with (first
        | (at_builtin; refine wpList_append_lies _ rfl _ _ 47 rfl (w.heap.size + 1 + 1) 122 ix (.agg #[.slice none 0 0, .int .i64 0, .bool false]) 3 40 Tryz.underlying47 hix hzx0 hzx1 hzx2 rfl (by decide) u3 k xs rfl (HW2.out.alloc _) ⟨wc.heap.size, 0, none⟩ 1 1 [.slice rb ll rd, .int .i64 (gx D.cs k).2.1, .bool (gx D.cs k).2.2] rfl rfl HN.out (by simp [Value.oneCell']) (by omega) (by unfold maxLen; omega) (by omega) (by simp; omega) (wc.heap.size + 1) (by simp) ?_)
        | go_in)
      intro g cp w3 hown1 hgrow hat _
      obtain ⟨la', lc', lb', hst⟩ := HX.out.step (HC.out.trans (((Below.refl _ _).alloc (Nat.le_refl _) _).mono HC.out.size)) hzl hB ((OS.loc.alloc HO.out _).mono (fun q hq => ⟨hq.1, Nat.lt_of_lt_of_le hq.2 (by simp)⟩)) hgrow (by rw [World.size_alloc]; exact hat) hown1
      have MG := HM.out.grown (HC.out.trans (((Below.refl _ _).alloc (Nat.le_refl _) _).mono HC.out.size)) hgrow (B := w.heap.size + 1 + 1) (by omega) hB (fun q e => (HX.out.own.lt q e).1) (by simp) (by simp <;> omega)
      have HMG := hide MG
      have HST2 := hide hst
      have hz3 := hgrow.size
      clear hown1 hgrow hat MG hst HX HM HO HC HW2 HN
      go_wp2
      go_roundw
      case rel => exact ⟨k + 1, by omega, by go_num, _, _, _, _, HST2.out, HMG.out, by simp at hz3; omega⟩
      case measure => simp [intOf]; omega
    · have ek : zxn = k := by omega
      subst ek
      obtain ⟨ya2, yc2, rfl, ox⟩ := HX.out.ox k4 (by omega)
      have M := HM.out
      have HK := hide (M.get 0 rfl)
      have a0 := (M.get 1 rfl).cell 0 rfl
      have a1 := (M.get 1 rfl).cell 1 rfl
      have a2 := (M.get 1 rfl).cell 2 rfl
      have a3 := (M.get 1 rfl).cell 3 rfl
      have a4 := (M.get 1 rfl).cell 4 rfl
      have a5 := (M.get 1 rfl).cell 5 rfl
      have a6 := (M.get 1 rfl).cell 6 rfl
      have a7 := (M.get 1 rfl).cell 7 rfl
      have a8 := (M.get 1 rfl).cell 8 rfl
      have a9 := (M.get 1 rfl).cell 9 rfl
      have a10 := (M.get 1 rfl).cell 10 rfl
      have HS0 : Hid (wr.drew.cell? ⟨w.heap.size, 0, none⟩ = some (.slice za zn zc) ∧ wr.drew.cell? ⟨w.heap.size, 1, none⟩ = some (.slice zta ztn ztc) ∧ wr.drew.cell? ⟨w.heap.size, 2, none⟩ = some (.slice zda zdn zdc) ∧ wr.drew.cell? ⟨w.heap.size, 3, none⟩ = some (.slice zwa zwn zwc) ∧ wr.drew.cell? ⟨w.heap.size, 4, none⟩ = some (.slice zxa zxn zxc) ∧ wr.drew.cell? ⟨w.heap.size, 5, none⟩ = some (.int .i64 D.ac) ∧ wr.drew.cell? ⟨w.heap.size, 6, none⟩ = some (.int .i64 D.cz) ∧ wr.drew.cell? ⟨w.heap.size, 7, none⟩ = some (.slice zla zln zlc) ∧ wr.drew.cell? ⟨w.heap.size, 8, none⟩ = some (.int .i64 D.dv) ∧ wr.drew.cell? ⟨w.heap.size, 9, none⟩ = some (.slice zoa zon zoc) ∧ wr.drew.cell? ⟨w.heap.size, 10, none⟩ = some (.slice zga zgn zgc) ∧ w.heap.size + 1 < wr.drew.heap.size ∧ Below w.heap.size w wr.drew) := ⟨a0, a1, a2, a3, a4, a5, a6, a7, a8, a9, a10, by show _ < wr.heap.size; omega, h6.drew⟩
      have HOX := hide ox
      clear HX HM hlt M ox h6 a0 a1 a2 a3 a4 a5 a6 a7 a8 a9 a10
      go_wp2_with fail
      go_region_held2 (fun w' => w'.cell? ⟨w.heap.size, 0, none⟩ = some (.slice za zn zc) ∧ w'.cell? ⟨w.heap.size, 1, none⟩ = some (.slice zta ztn ztc) ∧ w'.cell? ⟨w.heap.size, 2, none⟩ = some (.slice zda zdn zdc) ∧ w'.cell? ⟨w.heap.size, 3, none⟩ = some (.slice zwa zwn zwc) ∧ w'.cell? ⟨w.heap.size, 4, none⟩ = some (.slice zxa zxn zxc) ∧ w'.cell? ⟨w.heap.size, 5, none⟩ = some (.int .i64 D.ac) ∧ w'.cell? ⟨w.heap.size, 6, none⟩ = some (.int .i64 D.cz) ∧ w'.cell? ⟨w.heap.size, 7, none⟩ = some (.slice zla zln zlc) ∧ w'.cell? ⟨w.heap.size, 8, none⟩ = some (.int .i64 D.dv) ∧ w'.cell? ⟨w.heap.size, 9, none⟩ = some (.slice zoa zon zoc) ∧ w'.cell? ⟨w.heap.size, 10, none⟩ = some (.slice zga zgn zgc) ∧ w.heap.size + 1 < w'.heap.size ∧ Below w.heap.size w w')
        (first | with_reducible exact HS0.out | (repeat (first | with_reducible assumption | with_reducible refine e11_set ?_ _ _)))
        (first
          | (go_at_call 97; refine (copiedTables_O za zn zc D.ss zta ztn ztc D.ts zda zdn zdc D.ds _ (by omega) (by omega) (by omega) ?_).mono ?_; exact hrt.below (e11_bel HS0.out) (Nat.le_refl _); rintro e v1 ⟨ra, rc, xa, xc, ya, yc, rfl, o1, g1⟩; have h1 := e11_below HS0.out g1; have z1 := g1.size; (try simp only [World.size_drew] at z1 o1); have HK1 := hide (Cs.loc.below ((Below.refl wr.heap.size wr).drew.trans g1) HK.out); have HOX1 := hide (OX.loc.below ((Below.refl wr.heap.size wr).drew.trans g1) HOX.out); have HO1 := hide (o1.otk (Nat.le_refl _)); clear g1 o1)
          | (go_at_call 98; refine (copiedMemory_C zwa zwn zwc D.ws _ (by omega) ?_).mono ?_; exact hws.below (e11_bel h1) (Nat.le_refl _); rintro e v2 ⟨ma, rfl, o2, g2⟩; have h2 := e11_below h1 g2; have z2 := g2.size; have HK2 := hide (Cs.loc.below g2 HK1.out); have HOX2 := hide (OX.loc.below g2 HOX1.out); have HO12 := hide (OTK.loc.below g2 HO1.out); have HO2 := hide o2; clear g2 o2)
          | (go_at_call 99; refine (cloneL_calls zla zln zlc D.ls _ (by omega) ?_).mono ?_; exact hls.below (e11_bel h2) (Nat.le_refl _); rintro e v3 ⟨lv, rfl, own3, g3⟩; obtain ⟨ca, cc, rfl, _⟩ := own_ol (by omega) k5 own3; have h3 := e11_below h2 g3; have z3 := g3.size; have HK3 := hide (Cs.loc.below g3 HK2.out); have HOX3 := hide (OX.loc.below g3 HOX2.out); have HO13 := hide (OTK.loc.below g3 HO12.out); have HO23 := hide (OWd.loc.below g3 HO2.out); have HO3 := hide (own_ol2 (by omega) k5 own3); have HO3K : Hid (OLK (InR v2.heap.size v3.heap.size) ca zln cc D.ls v3) := ⟨HO3.out.1, owns_base own3, fun g e => own3.lt g e⟩; clear g3 own3)
          | (go_at_call 100; refine (clone_R zoa zon zoc D.os _ (by omega) ?_).mono ?_; exact hos.below (e11_bel h3) (Nat.le_refl _); rintro e v4 ⟨ob, oc, rfl, _, o4, g4⟩; have h4 := e11_below h3 g4; have z4 := g4.size; have HK4 := hide (Cs.loc.below g4 HK3.out); have HOX4 := hide (OX.loc.below g4 HOX3.out); have HO14 := hide (OTK.loc.below g4 HO13.out); have HO24 := hide (OWd.loc.below g4 HO23.out); have HO34 := hide (OLK.loc.below g4 HO3K.out); have HO4 := hide o4; clear g4 o4)
          | (go_at_call 101; refine (cloneG_calls zga zgn zgc D.gs _ (by omega) ?_).mono ?_; exact hgs.below (e11_bel h4) (Nat.le_refl _); rintro e v5 ⟨gv, rfl, own5, g5⟩; obtain ⟨ga2, gc2, rfl, og⟩ := own_owd (by omega) k7 own5; have h5 := e11_below h4 g5; have z5 := g5.size; have K5 := Cs.loc.below g5 HK4.out; have HK5 := hide K5; have HOX5 := hide (OX.loc.below g5 HOX4.out); have HO15 := hide (OTK.loc.below g5 HO14.out); have HO25 := hide (OWd.loc.below g5 HO24.out); have HO35 := hide (OLK.loc.below g5 HO34.out); have HO45 := hide (RW.loc.below g5 HO4.out); have HO5 := hide og; have d0 := K5.cell 0 rfl; have f0 := K5.fz 0 (by simp); have d1 := K5.cell 1 rfl; have f1 := K5.fz 1 (by simp); have d2 := K5.cell 2 rfl; have f2 := K5.fz 2 (by simp); have d3 := K5.cell 3 rfl; have f3 := K5.fz 3 (by simp); have d4 := K5.cell 4 rfl; have f4 := K5.fz 4 (by simp); have d5 := K5.cell 5 rfl; have f5 := K5.fz 5 (by simp); have d6 := K5.cell 6 rfl; have f6 := K5.fz 6 (by simp); have d7 := K5.cell 7 rfl; have f7 := K5.fz 7 (by simp); have d8 := K5.cell 8 rfl; have f8 := K5.fz 8 (by simp); have d9 := K5.cell 9 rfl; have f9 := K5.fz 9 (by simp); have d10 := K5.cell 10 rfl; have f10 := K5.fz 10 (by simp); clear g5 own5 og K5))
      have M5 : Mm w v5 [] [(v4.heap.size, v5.heap.size, OWd (InR v4.heap.size v5.heap.size) ga2 zgn D.gs), (v3.heap.size, v4.heap.size, RW (InR v3.heap.size v4.heap.size) ob zon oc D.os), (v2.heap.size, v3.heap.size, OLK (InR v2.heap.size v3.heap.size) ca zln cc D.ls), (w.heap.size + 1 + 1, wr.heap.size, OX (InR (w.heap.size + 1 + 1) wr.heap.size) ya2 zxn D.cs), (v1.heap.size, v2.heap.size, OWd (InR v1.heap.size v2.heap.size) ma zwn D.ws), (wr.heap.size, v1.heap.size, OTK (InR wr.heap.size v1.heap.size) ra zn rc D.ss xa ztn D.ts ya zdn D.ds), (w.heap.size + 1, w.heap.size + 1 + 1, Cs (w.heap.size + 1) [.slice none 0 0, .slice none 0 0, .slice none 0 0, .slice none 0 0, .slice none 0 0, .int .i64 0, .int .i64 0, .slice none 0 0, .int .i64 0, .slice none 0 0, .slice none 0 0])] := ((((((((Mm.start w).below (e11_bel h5)).fact Cs.loc HK5.out).fact OTK.loc HO15.out).fact OWd.loc HO25.out).fact OX.loc HOX5.out).fact OLK.loc HO35.out).fact RW.loc HO45.out).fact OWd.loc HO5.out
      have R_0 := M5.put 6 rfl 0 (by simp) (.slice ra zn rc) (by simp) (by simp) (by simp <;> omega)
      have R_1 := R_0.put 6 rfl 1 (by simp) (.slice xa ztn xc) (by simp) (by simp) (by simp <;> omega)
      have R_2 := R_1.put 6 rfl 2 (by simp) (.slice ya zdn yc) (by simp) (by simp) (by simp <;> omega)
      have R_3 := R_2.put 6 rfl 3 (by simp) (.slice ma zwn zwn) (by simp) (by simp) (by simp <;> omega)
      have R_4 := R_3.put 6 rfl 4 (by simp) (.slice ya2 zxn yc2) (by simp) (by simp) (by simp <;> omega)
      have R_5 := R_4.put 6 rfl 5 (by simp) (.int .i64 D.ac) (by simp) (by simp) (by simp <;> omega)
      have R_6 := R_5.put 6 rfl 6 (by simp) (.int .i64 D.cz) (by simp) (by simp) (by simp <;> omega)
      have R_7 := R_6.put 6 rfl 7 (by simp) (.slice ca zln cc) (by simp) (by simp) (by simp <;> omega)
      have R_8 := R_7.put 6 rfl 8 (by simp) (.int .i64 D.dv) (by simp) (by simp) (by simp <;> omega)
      have R_9 := R_8.put 6 rfl 9 (by simp) (.slice ob zon oc) (by simp) (by simp) (by simp <;> omega)
      have R_10 := R_9.put 6 rfl 10 (by simp) (.slice ga2 zgn gc2) (by simp) (by simp) (by simp <;> omega)
      have HR := hide R_10
      have hlk := HO3.out.2
      clear R_10 R_9 R_8 R_7 R_6 R_5 R_4 R_3 R_2 R_1 R_0 M5
      clear h1 h2 h3 h4 h5 HS0 HK HK1 HK2 HK3 HK4 HK5 HOX HOX1 HOX2 HOX3 HOX4 HOX5 HO1 HO12 HO13 HO14 HO15 HO2 HO23 HO24 HO25 HO3 HO3K HO34 HO35 HO4 HO45 HO5
      go_wp2
      have HF := HR.out
      simp only [List.set] at HF
      have y0 := (HF.get 6 rfl).cell 0 rfl
      have y1 := (HF.get 6 rfl).cell 1 rfl
      have y2 := (HF.get 6 rfl).cell 2 rfl
      have y3 := (HF.get 6 rfl).cell 3 rfl
      have y4 := (HF.get 6 rfl).cell 4 rfl
      have y5 := (HF.get 6 rfl).cell 5 rfl
      have y6 := (HF.get 6 rfl).cell 6 rfl
      have y7 := (HF.get 6 rfl).cell 7 rfl
      have y8 := (HF.get 6 rfl).cell 8 rfl
      have y9 := (HF.get 6 rfl).cell 9 rfl
      have y10 := (HF.get 6 rfl).cell 10 rfl
      refine bodyPost_ret (v := .agg #[.slice ra zn rc, .slice xa ztn xc, .slice ya zdn yc, .slice ma zwn zwn, .slice ya2 zxn yc2, .int .i64 D.ac, .int .i64 D.cz, .slice ca zln cc, .int .i64 D.dv, .slice ob zon oc, .slice ga2 zgn gc2]) (by simp [results, Tryz.results43, go_sem, y0, y1, y2, y3, y4, y5, y6, y7, y8, y9, y10]) rfl ⟨⟨ra, zn, rc, xa, ztn, xc, ya, zdn, yc, ma, zwn, zwn, ya2, zxn, yc2, ca, zln, cc, ob, zon, oc, ga2, zgn, gc2⟩, rfl, Nat.le_refl _, ?_, HF.bel⟩
      refine ⟨fun i => if i = 0 then InR (wr.heap.size) (v1.heap.size) else if i = 1 then InR (v1.heap.size) (v2.heap.size) else if i = 2 then InR (w.heap.size + 1 + 1) (wr.heap.size) else if i = 3 then InR (v2.heap.size) (v3.heap.size) else if i = 4 then InR (v3.heap.size) (v4.heap.size) else if i = 5 then InR (v4.heap.size) (v5.heap.size) else fun _ => False, fun i k hk => ?_, fun i j k hij h1 h2 => ?_, by unfold szY; dsimp only; omega, hlk, ⟨(HF.get 5 rfl).1, HF.get 4 rfl, HF.get 3 rfl, (HF.get 2 rfl).1, (HF.get 1 rfl).1, HF.get 0 rfl⟩, HF.get 1 rfl, (HF.get 2 rfl).2, (HF.get 5 rfl).2⟩
      · simp only [World.size_setCell]
        dsimp only at hk
        (repeat (split at hk; (have e1 := hk.1; have e2 := hk.2; exact ⟨by omega, by omega⟩)))
        exact hk.elim
      · dsimp only at h1 h2
        (repeat (split at h1; (have e1 := h1.1; have e2 := h1.2; (repeat (split at h2; first | omega | (have e3 := h2.1; have e4 := h2.2; omega))); exact h2)))
        exact h1

end Go.Proofs.YtcojgmecocjnkaaGreat
