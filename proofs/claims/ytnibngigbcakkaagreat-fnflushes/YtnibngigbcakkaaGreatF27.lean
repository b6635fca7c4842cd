import Derived.Test.YtnibngigbcakkaaGreatF26
import Derived.WalkKit
import Derived.ProofKit
import Derived.OpenShut
import Derived.ShutString
import Derived.ChangeOld
import Derived.Below
import Derived.WalkSpells
import Derived.Deep.QuietTactic
import Derived.BigQuiet
import Derived.Deep.RegionWith
import Derived.Deep.WholeRow
import Derived.Deep.DeepCutAuto
import Derived.Deep.RegionHeld2
import Derived.Deep.AppendLies
import Derived.Deep.RegionLaw
namespace Go.Proofs.YtnibngigbcakkaaGreat
open Go.ChangeShapes Go.WideShapes Go.ChangeAt Go.RowKit

/-- what l4Bent gives. -/
def BentC (p : Nat) (a : Option Addr) (len cap t : Nat) (w : World) (e : Ending) (w' : World) : Prop :=
  ∃ (s : Int) (ra : Option Addr) (n rc : Nat) (ls : List (Int × Int × Int)) (t' : Nat), e = .returned (.agg #[.int .i64 s, .slice ra n rc]) ∧ OL (InR (w.heap.size + 1) w'.heap.size) ra n ls w' ∧ n ≤ 7 ∧ n ≤ rc ∧ Src w' p a len cap t' ∧ t' ≤ t + 60 ∧ Outside p (p + 1) w w'

theorem BentC.mk {p : Nat} {a : Option Addr} {len cap t : Nat} {w w' : World} {s : Int} {ra : Option Addr} {n rc : Nat} {ls : List (Int × Int × Int)} {t' : Nat} (h1 : w'.ownsRow (w.heap.size + 1) 45 3 (.slice ra n rc) n (vs3 ls)) (h2 : ls.length = n) (h3 : n ≤ 7) (h5 : Src w' p a len cap t') (h6 : t' ≤ t + 60) (h7 : Outside p (p + 1) w w') :
    BentC p a len cap t w (.returned (.agg #[.int .i64 s, .slice ra n rc])) w' := by
  obtain ⟨a', c', e, ho⟩ := own_ol (by omega) h2 h1
  simp only [Value.slice.injEq, true_and] at e
  obtain ⟨rfl, _⟩ := e
  exact ⟨s, ra, n, rc, ls, t', rfl, ho, h3, own_cap h1, h5, h6, h7⟩

/-- a row's own memory is as it was where a cell of another block is written. -/
theorem own_set {w : World} {B m k : Nat} {e : TypeId} {v : Value} {L : List Value} (h : w.ownsRow B e m v k L) {q : Addr} (hq : v.ownBlock ≠ some q.block) (x : Value) : (w.setCell q x).ownsRow B e m v k L :=
  own_keep h (fun g hg => Below.heap_setCell _ _ _ _ (fun e => hq (by rw [hg, e])))

theorem Below.allocR {X Y : World} (h : Below X.heap.size X Y) (o : Obj) : Below X.heap.size X (Y.alloc o) := h.alloc h.size o

/-- what is kept while lines are bent. -/
structure KB (p : Nat) (a : Option Addr) (len cap : Nat) (w : World) (B P : Nat) (s : Int) (v : Value) (n : Nat) (ls : List (Int × Int × Int)) (t : Nat) (X : World) : Prop where
  src : Src X p a len cap t
  cv : CV X B P s v n ls
  mo : Mo p w X [(w.heap.size, 0, .int .i64 0), (w.heap.size, 1, .slice none 0 0)] []

theorem KB.below {p : Nat} {a : Option Addr} {len cap : Nat} {w : World} {B P : Nat} {s : Int} {v : Value} {n : Nat} {ls : List (Int × Int × Int)} {t : Nat} {X Y : World} (h : KB p a len cap w B P s v n ls t X) (hb : Below X.heap.size X Y) : KB p a len cap w B P s v n ls t Y := ⟨h.src.below hb, h.cv.below hb, h.mo.below hb⟩

theorem pickB {p : Nat} {a : Option Addr} {len cap : Nat} {w : World} {B P : Nat} {s : Int} {v : Value} {n : Nat} {ls : List (Int × Int × Int)} {t : Nat} {X : World} (g : Nat) (x y : Int) (h : KB p a len cap w B P s v n ls t X) (ht : t ≤ 1000000) (hB : p < B) (hg : p < g) (h0 : X.cell? ⟨g, 0, none⟩ = some (.int .i64 x)) (h1 : X.cell? ⟨g, 1, none⟩ = some (.int .i64 y)) :
    Calls Tryz.prog 21 #[.pointer (some ⟨p, 0, none⟩), .slice (some ⟨g, 0, none⟩) 2 2] X fun e w' => ∃ r : Int, e = .returned (.int .i64 r) ∧ KB p a len cap w B P s v n ls (t + 1) w' ∧ X.heap.size ≤ w'.heap.size ∧ ∀ b o, p < b → b < X.heap.size → w'.cell? ⟨b, o, none⟩ = X.cell? ⟨b, o, none⟩ := by
  refine (l1PickM_calls p a len cap t g 2 2 [x, y] X (by omega) (by omega) ht h.src hg (World.block_lt_of_cell? _ _ h0) rfl (fun i hi => ?_)).mono ?_
  · rcases (by omega : i = 0 ∨ i = 1) with rfl | rfl
    · exact h0
    · exact h1
  · rintro e w' ⟨j, _, rfl, s1, o1⟩
    exact ⟨_, rfl, ⟨s1, h.cv.outside o1 hB, h.mo.next o1⟩, o1.size, fun b o hb hl => World.cell?_of_block (a := ⟨b, o, none⟩) (o1.block b hl (.inr hb))⟩

/-- a line appended to the row of a cache's variable, where no draw is ahead of it. -/
theorem CV.app0 {X w1 : World} {B P : Nat} {s : Int} {v : Value} {n g cp : Nat} {ks : List (Int × Int × Int)} {x : Int × Int × Int} {o : Obj} (V : CV X B P s v n ks) (hg : (X.alloc o).grownBy w1 v.ownBlock)
    (hown : w1.ownsRow B 45 3 (.slice (some ⟨g, 0, none⟩) (n + 1) cp) (n + 1) (vs3 ks ++ vs3 [x])) (hat : v.ownBlock = some g ∨ g = X.heap.size + 1) :
    w1.cell? ⟨P, 0, none⟩ = some (.int .i64 s) ∧ w1.cell? ⟨P, 1, none⟩ = some v ∧ w1.frozen? ⟨P, 1, none⟩ = false ∧ w1.ownsRow B 45 3 (.slice (some ⟨g, 0, none⟩) (n + 1) cp) (n + 1) (vs3 (ks ++ [x])) ∧ g ≠ P ∧ Below B X w1 := by
  have hP := V.lt
  have al := (Below.refl X.heap.size X).alloc (Nat.le_refl _) o
  have V1 := V.below al
  have hP1 : P < (X.alloc o).heap.size := by simp; omega
  have hne : some P ≠ v.ownBlock := fun e => V.ne e.symm
  obtain ⟨a0, b0⟩ := grow_far hg (b := P) (o := 0) hP1 hne V1.c0 V1.f0
  obtain ⟨a1, b1⟩ := grow_far hg (b := P) (o := 1) hP1 hne V1.c1 V1.f1
  rw [← vs3_append] at hown
  refine ⟨a0, a1, b1, hown, fun e => ?_, ((Below.refl B X).alloc (by have := V.hB; omega) o).grown hg (by have := V.hB; simp; omega) (fun k hk => (V.own.lt k hk).1)⟩
  rcases hat with h | h
  · exact V.ne (by rw [h, e])
  · omega

def ops6 : Array Oper := #[{ dst := some 16, op := Go.Op.fieldAddr 26 (Go.Operand.tmp 3) 1, type := 0, pos := "l04_cache.go:162", after := #[], guard := none },
  { dst := some 17, op := Go.Op.load 24 (Go.Operand.tmp 16), type := 24, pos := "l04_cache.go:162", after := #[{ on := 0, ground := Go.Ground.data }], guard := none },
  { dst := some 18, op := Go.Op.move (Go.Operand.tmp 0), type := 50, pos := "l04_cache.go:162", after := #[], guard := none },
  { dst := some 19, op := Go.Op.buildSlice 38 2 #[(0, Go.Operand.const (Go.Value.int Go.IntKind.i64 0)), (1, Go.Operand.const (Go.Value.int Go.IntKind.i64 4))], type := 38, pos := "l04_cache.go:162", after := #[], guard := none },
  { dst := some 20, op := Go.Op.call { callee := Go.Callee.value (Go.Operand.func 21), args := #[Go.Operand.tmp 18, Go.Operand.tmp 19], argTypes := #[50, 38] }, type := 2, pos := "l04_cache.go:162", after := #[{ on := 2, ground := Go.Ground.data }, { on := 3, ground := Go.Ground.data }], guard := none },
  { dst := some 21, op := Go.Op.move (Go.Operand.tmp 0), type := 50, pos := "l04_cache.go:162", after := #[], guard := none },
  { dst := some 22, op := Go.Op.buildSlice 38 2 #[(0, Go.Operand.const (Go.Value.int Go.IntKind.i64 0)), (1, Go.Operand.const (Go.Value.int Go.IntKind.i64 7))], type := 38, pos := "l04_cache.go:162", after := #[], guard := none },
  { dst := some 23, op := Go.Op.call { callee := Go.Callee.value (Go.Operand.func 21), args := #[Go.Operand.tmp 21, Go.Operand.tmp 22], argTypes := #[50, 38] }, type := 2, pos := "l04_cache.go:162", after := #[{ on := 5, ground := Go.Ground.data }, { on := 6, ground := Go.Ground.data }, { on := 4, ground := Go.Ground.chain }], guard := none },
  { dst := some 24, op := Go.Op.move (Go.Operand.tmp 0), type := 50, pos := "l04_cache.go:162", after := #[], guard := none },
  { dst := some 25, op := Go.Op.buildSlice 38 2 #[(0, Go.Operand.const (Go.Value.int Go.IntKind.i64 7)), (1, Go.Operand.const (Go.Value.int Go.IntKind.i64 8))], type := 38, pos := "l04_cache.go:162", after := #[], guard := none },
  { dst := some 26, op := Go.Op.call { callee := Go.Callee.value (Go.Operand.func 21), args := #[Go.Operand.tmp 24, Go.Operand.tmp 25], argTypes := #[50, 38] }, type := 2, pos := "l04_cache.go:162", after := #[{ on := 8, ground := Go.Ground.data }, { on := 9, ground := Go.Ground.data }, { on := 7, ground := Go.Ground.chain }], guard := none },
  { dst := some 27, op := Go.Op.build 45 #[(0, Go.Operand.tmp 20), (1, Go.Operand.tmp 23), (2, Go.Operand.tmp 26)], type := 45, pos := "l04_cache.go:162", after := #[{ on := 4, ground := Go.Ground.data }, { on := 7, ground := Go.Ground.data }, { on := 10, ground := Go.Ground.data }], guard := none },
  { dst := some 28, op := Go.Op.buildSlice 24 1 #[(0, Go.Operand.tmp 27)], type := 24, pos := "l04_cache.go:162", after := #[{ on := 11, ground := Go.Ground.data }], guard := none },
  { dst := some 29, op := Go.Op.call { callee := Go.Callee.builtin Go.Builtin.append, args := #[Go.Operand.tmp 17, Go.Operand.tmp 28], argTypes := #[24, 24] }, type := 24, pos := "l04_cache.go:162", after := #[{ on := 1, ground := Go.Ground.data }, { on := 12, ground := Go.Ground.data }, { on := 10, ground := Go.Ground.chain }], guard := none },
  { dst := some 30, op := Go.Op.fieldAddr 26 (Go.Operand.tmp 3) 1, type := 0, pos := "l04_cache.go:162", after := #[{ on := 0, ground := Go.Ground.phase }, { on := 1, ground := Go.Ground.phase }, { on := 2, ground := Go.Ground.phase }, { on := 3, ground := Go.Ground.phase }, { on := 4, ground := Go.Ground.phase }, { on := 5, ground := Go.Ground.phase }, { on := 6, ground := Go.Ground.phase }, { on := 7, ground := Go.Ground.phase }, { on := 8, ground := Go.Ground.phase }, { on := 9, ground := Go.Ground.phase }, { on := 10, ground := Go.Ground.phase }, { on := 11, ground := Go.Ground.phase }, { on := 12, ground := Go.Ground.phase }, { on := 13, ground := Go.Ground.phase }], guard := none },
  { dst := none, op := Go.Op.store 24 (Go.Operand.tmp 30) (Go.Operand.tmp 29), type := 0, pos := "l04_cache.go:162", after := #[{ on := 14, ground := Go.Ground.data }, { on := 13, ground := Go.Ground.data }, { on := 13, ground := Go.Ground.chain }, { on := 0, ground := Go.Ground.phase }, { on := 1, ground := Go.Ground.phase }, { on := 2, ground := Go.Ground.phase }, { on := 3, ground := Go.Ground.phase }, { on := 4, ground := Go.Ground.phase }, { on := 5, ground := Go.Ground.phase }, { on := 6, ground := Go.Ground.phase }, { on := 7, ground := Go.Ground.phase }, { on := 8, ground := Go.Ground.phase }, { on := 9, ground := Go.Ground.phase }, { on := 10, ground := Go.Ground.phase }, { on := 11, ground := Go.Ground.phase }, { on := 12, ground := Go.Ground.phase }, { on := 13, ground := Go.Ground.phase }], guard := none }]

def Bu (p : Nat) (X : World) (g : Nat) (x y : Int) : Prop := p < g ∧ X.cell? ⟨g, 0, none⟩ = some (.int .i64 x) ∧ X.cell? ⟨g, 1, none⟩ = some (.int .i64 y)

theorem Bu.new {p : Nat} {X : World} (hp : p < X.heap.size) (x y : Int) (T : TypeId) : Bu p (X.alloc (.cells #[.int .i64 x, .int .i64 y] T)) X.heap.size x y := ⟨hp, by simp, by simp⟩

theorem Bu.alloc {p : Nat} {X : World} {g : Nat} {x y : Int} (h : Bu p X g x y) (o : Obj) : Bu p (X.alloc o) g x y :=
  ⟨h.1, by rw [World.cell?_alloc_some _ _ _ (by rw [h.2.1]; rfl)]; exact h.2.1, by rw [World.cell?_alloc_some _ _ _ (by rw [h.2.2]; rfl)]; exact h.2.2⟩

theorem Bu.keep {p : Nat} {X Y : World} {g : Nat} {x y : Int} (h : Bu p X g x y) (hc : ∀ b o, p < b → b < X.heap.size → Y.cell? ⟨b, o, none⟩ = X.cell? ⟨b, o, none⟩) : Bu p Y g x y := by
  have hl : g < X.heap.size := World.block_lt_of_cell? _ _ h.2.1
  exact ⟨h.1, (hc g 0 h.1 hl).trans h.2.1, (hc g 1 h.1 hl).trans h.2.2⟩

theorem KB.alloc {p : Nat} {a : Option Addr} {len cap : Nat} {w : World} {B P : Nat} {s : Int} {v : Value} {n : Nat} {ls : List (Int × Int × Int)} {t : Nat} {X : World} (h : KB p a len cap w B P s v n ls t X) (o : Obj) : KB p a len cap w B P s v n ls t (X.alloc o) := h.below ((Below.refl _ _).alloc (Nat.le_refl _) o)

section
variable {Q : Exit → Act → World → Prop} {p len cap n rc P B T0 : Nat} {a ra : Option Addr} {w : World} {s : Int} {ls : List (Int × Int × Int)} {h1 h2 h4 h5 h6 h7 h8 h9 h10 h11 h12 h13 h14 h15 x27 x28 x29 x30 x31 : Value}

theorem bent_fin (_hT : T0 ≤ 999000) (_hpB : p < B) (hn : n ≤ 6) (hpan : ∀ c (x y : Act) z, x.defers = y.defers → Q (.panic c) x z → Q (.panic c) y z) (hQ : ∀ (Y w5 : World) (y1 y2 y3 : Int) (g cp : Nat) (x19 x22 x25 : Value), KB p a len cap w B P s (.slice ra n rc) n ls (T0 + 1 + 1 + 1) Y → w5.cell? ⟨P, 0, none⟩ = some (.int .i64 s) → w5.cell? ⟨P, 1, none⟩ = some (.slice ra n rc) → w5.frozen? ⟨P, 1, none⟩ = false → w5.ownsRow B 45 3 (.slice (some ⟨g, 0, none⟩) (n + 1) cp) (n + 1) (vs3 (ls ++ [(y1, y2, y3)])) → g ≠ P → Below B Y w5 → Q .normal ⟨#[.pointer (some ⟨p, 0, none⟩), h1, h2, .pointer (some ⟨P, 0, none⟩), h4, h5, h6, h7, h8, h9, h10, h11, h12, h13, h14, h15, .pointer (some ⟨P, 1, none⟩), .slice ra n rc, .pointer (some ⟨p, 0, none⟩), x19, .int .i64 y1, .pointer (some ⟨p, 0, none⟩), x22, .int .i64 y2, .pointer (some ⟨p, 0, none⟩), x25, .int .i64 y3, .agg #[.int .i64 y1, .int .i64 y2, .int .i64 y3], .slice (some ⟨Y.heap.size, 0, none⟩) 1 1, .slice (some ⟨g, 0, none⟩) (n + 1) cp, .pointer (some ⟨P, 1, none⟩), x31], []⟩ (w5.setCell ⟨P, 1, none⟩ (.slice (some ⟨g, 0, none⟩) (n + 1) cp))) (Y : World) (hk : KB p a len cap w B P s (.slice ra n rc) n ls (T0 + 1 + 1 + 1) Y) (y1 y2 y3 : Int) (x19 x22 x25 : Value) (L : Array Bool) (hL : L = #[true, true, true, true, true, true, true, true, true, true, true, true, true, false, false, false]) :
    wpAny Tryz.prog .any ops6 Q 3 L ⟨#[.pointer (some ⟨p, 0, none⟩), h1, h2, .pointer (some ⟨P, 0, none⟩), h4, h5, h6, h7, h8, h9, h10, h11, h12, h13, h14, h15, .pointer (some ⟨P, 1, none⟩), .slice ra n rc, .pointer (some ⟨p, 0, none⟩), x19, .int .i64 y1, .pointer (some ⟨p, 0, none⟩), x22, .int .i64 y2, .pointer (some ⟨p, 0, none⟩), x25, .int .i64 y3, .agg #[.int .i64 y1, .int .i64 y2, .int .i64 y3], .slice (some ⟨Y.heap.size, 0, none⟩) 1 1, x29, x30, x31], []⟩ (Y.alloc (.cells #[.int .i64 y1, .int .i64 y2, .int .i64 y3] 45)) := by
  subst hL
  obtain ⟨i0, hi0, hz0, hz1, hz2⟩ := info_parts infoLine
  have hB1 := hk.cv.hB
  have hB2 := hk.cv.lt
  refine wpAny_ready (rs := [13]) (by kernel_rfl) (by simp) ?_
  refine AllReady.cons (o := { dst := some 29, op := Go.Op.call { callee := Go.Callee.builtin Go.Builtin.append, args := #[Go.Operand.tmp 17, Go.Operand.tmp 28], argTypes := #[24, 24] }, type := 24, pos := "l04_cache.go:162", after := #[{ on := 1, ground := Go.Ground.data }, { on := 12, ground := Go.Ground.data }, { on := 10, ground := Go.Ground.chain }], guard := none }) rfl (fun K hK => ?_) AllReady.nil
  refine step_append_lies _ rfl _ _ 24 rfl B 45 i0 (.agg #[.int .i64 0, .int .i64 0, .int .i64 0]) 3 24 Tryz.underlying24 hi0 hz0 hz1 hz2 rfl (by decide) _ n (vs3 ls) rfl (own_below hk.cv.own ((Below.refl _ _).alloc (Nat.le_refl _) _)) ⟨Y.heap.size, 0, none⟩ 1 1 (vs3 [(y1, y2, y3)]) rfl rfl (three_new (by go_simp) (by go_simp) (by go_simp)) ints_one (by omega) (by unfold maxLen; omega) (by omega) (by simp; omega) (Y.heap.size + 1) (by simp) ?_
  intro g cp w5 hown5 hgrow5 hat5 hlt5
  obtain ⟨k0, k1, k2, k3, k4, k5⟩ := CV.app0 hk.cv hgrow5 hown5 hat5
  have HF := hide (hQ Y w5 y1 y2 y3 g cp x19 x22 x25 hk k0 k1 k2 k3 k4 k5)
  clear hown5 hgrow5 hat5 hlt5 k3 k4 k5 hQ hk
  try go_simp
  refine hK _ _ ?_
  clear hK K
  refine wpAny_take (i := 14) (oi := { dst := some 30, op := Go.Op.fieldAddr 26 (Go.Operand.tmp 3) 1, type := 0, pos := "l04_cache.go:162", after := #[{ on := 0, ground := Go.Ground.phase }, { on := 1, ground := Go.Ground.phase }, { on := 2, ground := Go.Ground.phase }, { on := 3, ground := Go.Ground.phase }, { on := 4, ground := Go.Ground.phase }, { on := 5, ground := Go.Ground.phase }, { on := 6, ground := Go.Ground.phase }, { on := 7, ground := Go.Ground.phase }, { on := 8, ground := Go.Ground.phase }, { on := 9, ground := Go.Ground.phase }, { on := 10, ground := Go.Ground.phase }, { on := 11, ground := Go.Ground.phase }, { on := 12, ground := Go.Ground.phase }, { on := 13, ground := Go.Ground.phase }], guard := none }) (v := .pointer (some ⟨P, 1, none⟩)) rfl (by kernel_rfl) (by kernel_rfl) (by kernel_rfl) (fun _ _ _ h => hpan _ _ _ _ (by rfl) h) (Or.inl ⟨by rfl, ?_⟩) ?_
  · intro w
    go_simp
  show wpAny Tryz.prog .any ops6 Q 1 _ ⟨#[.pointer (some ⟨p, 0, none⟩), h1, h2, .pointer (some ⟨P, 0, none⟩), h4, h5, h6, h7, h8, h9, h10, h11, h12, h13, h14, h15, .pointer (some ⟨P, 1, none⟩), .slice ra n rc, .pointer (some ⟨p, 0, none⟩), x19, .int .i64 y1, .pointer (some ⟨p, 0, none⟩), x22, .int .i64 y2, .pointer (some ⟨p, 0, none⟩), x25, .int .i64 y3, .agg #[.int .i64 y1, .int .i64 y2, .int .i64 y3], .slice (some ⟨Y.heap.size, 0, none⟩) 1 1, .slice (some ⟨g, 0, none⟩) (n + 1) cp, .pointer (some ⟨P, 1, none⟩), x31], []⟩ _
  refine wpAny_ready (rs := [15]) (by kernel_rfl) (by simp) ?_
  refine AllReady.cons (o := { dst := none, op := Go.Op.store 24 (Go.Operand.tmp 30) (Go.Operand.tmp 29), type := 0, pos := "l04_cache.go:162", after := #[{ on := 14, ground := Go.Ground.data }, { on := 13, ground := Go.Ground.data }, { on := 13, ground := Go.Ground.chain }, { on := 0, ground := Go.Ground.phase }, { on := 1, ground := Go.Ground.phase }, { on := 2, ground := Go.Ground.phase }, { on := 3, ground := Go.Ground.phase }, { on := 4, ground := Go.Ground.phase }, { on := 5, ground := Go.Ground.phase }, { on := 6, ground := Go.Ground.phase }, { on := 7, ground := Go.Ground.phase }, { on := 8, ground := Go.Ground.phase }, { on := 9, ground := Go.Ground.phase }, { on := 10, ground := Go.Ground.phase }, { on := 11, ground := Go.Ground.phase }, { on := 12, ground := Go.Ground.phase }, { on := 13, ground := Go.Ground.phase }], guard := none }) rfl (fun K hK => ?_) AllReady.nil
  go_simp
  refine hK _ _ ?_
  refine wpAny_done (by kernel_rfl) ?_ _
  exact HF.out

theorem bent_3nL (hT : T0 ≤ 999000) (hpB : p < B) (hn : n ≤ 6) (hpan : ∀ c (x y : Act) z, x.defers = y.defers → Q (.panic c) x z → Q (.panic c) y z) (hQ : ∀ (Y w5 : World) (y1 y2 y3 : Int) (g cp : Nat) (x19 x22 x25 : Value), KB p a len cap w B P s (.slice ra n rc) n ls (T0 + 1 + 1 + 1) Y → w5.cell? ⟨P, 0, none⟩ = some (.int .i64 s) → w5.cell? ⟨P, 1, none⟩ = some (.slice ra n rc) → w5.frozen? ⟨P, 1, none⟩ = false → w5.ownsRow B 45 3 (.slice (some ⟨g, 0, none⟩) (n + 1) cp) (n + 1) (vs3 (ls ++ [(y1, y2, y3)])) → g ≠ P → Below B Y w5 → Q .normal ⟨#[.pointer (some ⟨p, 0, none⟩), h1, h2, .pointer (some ⟨P, 0, none⟩), h4, h5, h6, h7, h8, h9, h10, h11, h12, h13, h14, h15, .pointer (some ⟨P, 1, none⟩), .slice ra n rc, .pointer (some ⟨p, 0, none⟩), x19, .int .i64 y1, .pointer (some ⟨p, 0, none⟩), x22, .int .i64 y2, .pointer (some ⟨p, 0, none⟩), x25, .int .i64 y3, .agg #[.int .i64 y1, .int .i64 y2, .int .i64 y3], .slice (some ⟨Y.heap.size, 0, none⟩) 1 1, .slice (some ⟨g, 0, none⟩) (n + 1) cp, .pointer (some ⟨P, 1, none⟩), x31], []⟩ (w5.setCell ⟨P, 1, none⟩ (.slice (some ⟨g, 0, none⟩) (n + 1) cp))) (X : World) (hk : KB p a len cap w B P s (.slice ra n rc) n ls (T0 + 1 + 1 + 1) X) (y1 y2 y3 : Int) (x19 x22 x25 : Value) (L : Array Bool) (hL : L = #[true, true, true, true, true, true, true, true, true, true, true, false, false, false, false, false]) :
    wpAny Tryz.prog .any ops6 Q 5 L ⟨#[.pointer (some ⟨p, 0, none⟩), h1, h2, .pointer (some ⟨P, 0, none⟩), h4, h5, h6, h7, h8, h9, h10, h11, h12, h13, h14, h15, .pointer (some ⟨P, 1, none⟩), .slice ra n rc, .pointer (some ⟨p, 0, none⟩), x19, .int .i64 y1, .pointer (some ⟨p, 0, none⟩), x22, .int .i64 y2, .pointer (some ⟨p, 0, none⟩), x25, .int .i64 y3, x27, x28, x29, x30, x31], []⟩ X := by
  subst hL
  have hp : p < X.heap.size := hk.src.1
  refine wpAny_take (i := 11) (oi := { dst := some 27, op := Go.Op.build 45 #[(0, Go.Operand.tmp 20), (1, Go.Operand.tmp 23), (2, Go.Operand.tmp 26)], type := 45, pos := "l04_cache.go:162", after := #[{ on := 4, ground := Go.Ground.data }, { on := 7, ground := Go.Ground.data }, { on := 10, ground := Go.Ground.data }], guard := none }) (v := .agg #[.int .i64 y1, .int .i64 y2, .int .i64 y3]) rfl (by kernel_rfl) (by kernel_rfl) (by kernel_rfl) (fun _ _ _ h => hpan _ _ _ _ (by rfl) h) (Or.inl ⟨by rfl, ?_⟩) ?_
  · intro w
    go_simp
  show wpAny Tryz.prog .any ops6 Q 4 _ ⟨#[.pointer (some ⟨p, 0, none⟩), h1, h2, .pointer (some ⟨P, 0, none⟩), h4, h5, h6, h7, h8, h9, h10, h11, h12, h13, h14, h15, .pointer (some ⟨P, 1, none⟩), .slice ra n rc, .pointer (some ⟨p, 0, none⟩), x19, .int .i64 y1, .pointer (some ⟨p, 0, none⟩), x22, .int .i64 y2, .pointer (some ⟨p, 0, none⟩), x25, .int .i64 y3, .agg #[.int .i64 y1, .int .i64 y2, .int .i64 y3], x28, x29, x30, x31], []⟩ _
  refine wpAny_ready (rs := [12]) (by kernel_rfl) (by simp) ?_
  refine AllReady.cons (o := { dst := some 28, op := Go.Op.buildSlice 24 1 #[(0, Go.Operand.tmp 27)], type := 24, pos := "l04_cache.go:162", after := #[{ on := 11, ground := Go.Ground.data }], guard := none }) rfl (fun K hK => ?_) AllReady.nil
  go_simp
  refine hK _ _ ?_
  exact bent_fin hT hpB hn hpan hQ X hk _ _ _ _ _ _ _ (by kernel_rfl)

theorem bent_3nz (hT : T0 ≤ 999000) (hpB : p < B) (hn : n ≤ 6) (hpan : ∀ c (x y : Act) z, x.defers = y.defers → Q (.panic c) x z → Q (.panic c) y z) (hQ : ∀ (Y w5 : World) (y1 y2 y3 : Int) (g cp : Nat) (x19 x22 x25 : Value), KB p a len cap w B P s (.slice ra n rc) n ls (T0 + 1 + 1 + 1) Y → w5.cell? ⟨P, 0, none⟩ = some (.int .i64 s) → w5.cell? ⟨P, 1, none⟩ = some (.slice ra n rc) → w5.frozen? ⟨P, 1, none⟩ = false → w5.ownsRow B 45 3 (.slice (some ⟨g, 0, none⟩) (n + 1) cp) (n + 1) (vs3 (ls ++ [(y1, y2, y3)])) → g ≠ P → Below B Y w5 → Q .normal ⟨#[.pointer (some ⟨p, 0, none⟩), h1, h2, .pointer (some ⟨P, 0, none⟩), h4, h5, h6, h7, h8, h9, h10, h11, h12, h13, h14, h15, .pointer (some ⟨P, 1, none⟩), .slice ra n rc, .pointer (some ⟨p, 0, none⟩), x19, .int .i64 y1, .pointer (some ⟨p, 0, none⟩), x22, .int .i64 y2, .pointer (some ⟨p, 0, none⟩), x25, .int .i64 y3, .agg #[.int .i64 y1, .int .i64 y2, .int .i64 y3], .slice (some ⟨Y.heap.size, 0, none⟩) 1 1, .slice (some ⟨g, 0, none⟩) (n + 1) cp, .pointer (some ⟨P, 1, none⟩), x31], []⟩ (w5.setCell ⟨P, 1, none⟩ (.slice (some ⟨g, 0, none⟩) (n + 1) cp))) (X : World) (hk : KB p a len cap w B P s (.slice ra n rc) n ls (T0 + 1 + 1 + 1) X) (y1 y2 y3 : Int) (x17 x19 x22 x25 : Value) (L : Array Bool) (hL : L = #[true, false, true, true, true, true, true, true, true, true, true, false, false, false, false, false]) :
    wpAny Tryz.prog .any ops6 Q 6 L ⟨#[.pointer (some ⟨p, 0, none⟩), h1, h2, .pointer (some ⟨P, 0, none⟩), h4, h5, h6, h7, h8, h9, h10, h11, h12, h13, h14, h15, .pointer (some ⟨P, 1, none⟩), x17, .pointer (some ⟨p, 0, none⟩), x19, .int .i64 y1, .pointer (some ⟨p, 0, none⟩), x22, .int .i64 y2, .pointer (some ⟨p, 0, none⟩), x25, .int .i64 y3, x27, x28, x29, x30, x31], []⟩ X := by
  subst hL
  have hp : p < X.heap.size := hk.src.1
  refine wpAny_take (i := 11) (oi := { dst := some 27, op := Go.Op.build 45 #[(0, Go.Operand.tmp 20), (1, Go.Operand.tmp 23), (2, Go.Operand.tmp 26)], type := 45, pos := "l04_cache.go:162", after := #[{ on := 4, ground := Go.Ground.data }, { on := 7, ground := Go.Ground.data }, { on := 10, ground := Go.Ground.data }], guard := none }) (v := .agg #[.int .i64 y1, .int .i64 y2, .int .i64 y3]) rfl (by kernel_rfl) (by kernel_rfl) (by kernel_rfl) (fun _ _ _ h => hpan _ _ _ _ (by rfl) h) (Or.inl ⟨by rfl, ?_⟩) ?_
  · intro w
    go_simp
  show wpAny Tryz.prog .any ops6 Q 5 _ ⟨#[.pointer (some ⟨p, 0, none⟩), h1, h2, .pointer (some ⟨P, 0, none⟩), h4, h5, h6, h7, h8, h9, h10, h11, h12, h13, h14, h15, .pointer (some ⟨P, 1, none⟩), x17, .pointer (some ⟨p, 0, none⟩), x19, .int .i64 y1, .pointer (some ⟨p, 0, none⟩), x22, .int .i64 y2, .pointer (some ⟨p, 0, none⟩), x25, .int .i64 y3, .agg #[.int .i64 y1, .int .i64 y2, .int .i64 y3], x28, x29, x30, x31], []⟩ _
  have c1 := hk.cv.c1
  refine wpAny_ready (rs := [1, 12]) (by kernel_rfl) (by simp) ?_
  refine AllReady.cons (o := { dst := some 17, op := Go.Op.load 24 (Go.Operand.tmp 16), type := 24, pos := "l04_cache.go:162", after := #[{ on := 0, ground := Go.Ground.data }], guard := none }) rfl (fun K hK => ?_) ?_
  · go_simp
    refine hK _ _ ?_
    refine wpAny_ready (rs := [12]) (by kernel_rfl) (by simp) ?_
    refine AllReady.cons (o := { dst := some 28, op := Go.Op.buildSlice 24 1 #[(0, Go.Operand.tmp 27)], type := 24, pos := "l04_cache.go:162", after := #[{ on := 11, ground := Go.Ground.data }], guard := none }) rfl (fun K hK => ?_) AllReady.nil
    go_simp
    refine hK _ _ ?_
    exact bent_fin hT hpB hn hpan hQ X hk _ _ _ _ _ _ _ (by kernel_rfl)
  refine AllReady.cons (o := { dst := some 28, op := Go.Op.buildSlice 24 1 #[(0, Go.Operand.tmp 27)], type := 24, pos := "l04_cache.go:162", after := #[{ on := 11, ground := Go.Ground.data }], guard := none }) rfl (fun K hK => ?_) AllReady.nil
  have c2 := (hk.alloc (.cells #[.int .i64 y1, .int .i64 y2, .int .i64 y3] 45)).cv.c1
  go_simp
  refine hK _ _ ?_
  refine wpAny_ready (rs := [1]) (by kernel_rfl) (by simp) ?_
  refine AllReady.cons (o := { dst := some 17, op := Go.Op.load 24 (Go.Operand.tmp 16), type := 24, pos := "l04_cache.go:162", after := #[{ on := 0, ground := Go.Ground.data }], guard := none }) rfl (fun K hK => ?_) AllReady.nil
  go_simp
  refine hK _ _ ?_
  exact bent_fin hT hpB hn hpan hQ X hk _ _ _ _ _ _ _ (by kernel_rfl)

theorem bent_23L (hT : T0 ≤ 999000) (hpB : p < B) (hn : n ≤ 6) (hpan : ∀ c (x y : Act) z, x.defers = y.defers → Q (.panic c) x z → Q (.panic c) y z) (hQ : ∀ (Y w5 : World) (y1 y2 y3 : Int) (g cp : Nat) (x19 x22 x25 : Value), KB p a len cap w B P s (.slice ra n rc) n ls (T0 + 1 + 1 + 1) Y → w5.cell? ⟨P, 0, none⟩ = some (.int .i64 s) → w5.cell? ⟨P, 1, none⟩ = some (.slice ra n rc) → w5.frozen? ⟨P, 1, none⟩ = false → w5.ownsRow B 45 3 (.slice (some ⟨g, 0, none⟩) (n + 1) cp) (n + 1) (vs3 (ls ++ [(y1, y2, y3)])) → g ≠ P → Below B Y w5 → Q .normal ⟨#[.pointer (some ⟨p, 0, none⟩), h1, h2, .pointer (some ⟨P, 0, none⟩), h4, h5, h6, h7, h8, h9, h10, h11, h12, h13, h14, h15, .pointer (some ⟨P, 1, none⟩), .slice ra n rc, .pointer (some ⟨p, 0, none⟩), x19, .int .i64 y1, .pointer (some ⟨p, 0, none⟩), x22, .int .i64 y2, .pointer (some ⟨p, 0, none⟩), x25, .int .i64 y3, .agg #[.int .i64 y1, .int .i64 y2, .int .i64 y3], .slice (some ⟨Y.heap.size, 0, none⟩) 1 1, .slice (some ⟨g, 0, none⟩) (n + 1) cp, .pointer (some ⟨P, 1, none⟩), x31], []⟩ (w5.setCell ⟨P, 1, none⟩ (.slice (some ⟨g, 0, none⟩) (n + 1) cp))) (X : World) (hk : KB p a len cap w B P s (.slice ra n rc) n ls (T0 + 1 + 1) X) (y1 y2 : Int) (g3 : Nat) (b3 : Bu p X g3 7 8) (x19 x22 x26 : Value) (L : Array Bool) (hL : L = #[true, true, true, true, true, true, true, true, true, true, false, false, false, false, false, false]) :
    wpAny Tryz.prog .any ops6 Q 6 L ⟨#[.pointer (some ⟨p, 0, none⟩), h1, h2, .pointer (some ⟨P, 0, none⟩), h4, h5, h6, h7, h8, h9, h10, h11, h12, h13, h14, h15, .pointer (some ⟨P, 1, none⟩), .slice ra n rc, .pointer (some ⟨p, 0, none⟩), x19, .int .i64 y1, .pointer (some ⟨p, 0, none⟩), x22, .int .i64 y2, .pointer (some ⟨p, 0, none⟩), .slice (some ⟨g3, 0, none⟩) 2 2, x26, x27, x28, x29, x30, x31], []⟩ X := by
  subst hL
  have hp : p < X.heap.size := hk.src.1
  refine wpAny_ready (rs := [10]) (by kernel_rfl) (by simp) ?_
  refine AllReady.cons (o := { dst := some 26, op := Go.Op.call { callee := Go.Callee.value (Go.Operand.func 21), args := #[Go.Operand.tmp 24, Go.Operand.tmp 25], argTypes := #[50, 38] }, type := 2, pos := "l04_cache.go:162", after := #[{ on := 8, ground := Go.Ground.data }, { on := 9, ground := Go.Ground.data }, { on := 7, ground := Go.Ground.chain }], guard := none }) rfl (fun K hK => ?_) ?_
  · go_simp
    go_at_call 21
    refine (pickB g3 7 8 hk (by omega) hpB b3.1 b3.2.1 b3.2.2).mono ?_
    rintro e u ⟨y, rfl, kb, hz, hc⟩
    try go_simp
    refine hK _ _ ?_
    exact bent_3nL hT hpB hn hpan hQ _ kb _ _ _ _ _ _ _ (by kernel_rfl)
  exact AllReady.nil

theorem bent_23z (hT : T0 ≤ 999000) (hpB : p < B) (hn : n ≤ 6) (hpan : ∀ c (x y : Act) z, x.defers = y.defers → Q (.panic c) x z → Q (.panic c) y z) (hQ : ∀ (Y w5 : World) (y1 y2 y3 : Int) (g cp : Nat) (x19 x22 x25 : Value), KB p a len cap w B P s (.slice ra n rc) n ls (T0 + 1 + 1 + 1) Y → w5.cell? ⟨P, 0, none⟩ = some (.int .i64 s) → w5.cell? ⟨P, 1, none⟩ = some (.slice ra n rc) → w5.frozen? ⟨P, 1, none⟩ = false → w5.ownsRow B 45 3 (.slice (some ⟨g, 0, none⟩) (n + 1) cp) (n + 1) (vs3 (ls ++ [(y1, y2, y3)])) → g ≠ P → Below B Y w5 → Q .normal ⟨#[.pointer (some ⟨p, 0, none⟩), h1, h2, .pointer (some ⟨P, 0, none⟩), h4, h5, h6, h7, h8, h9, h10, h11, h12, h13, h14, h15, .pointer (some ⟨P, 1, none⟩), .slice ra n rc, .pointer (some ⟨p, 0, none⟩), x19, .int .i64 y1, .pointer (some ⟨p, 0, none⟩), x22, .int .i64 y2, .pointer (some ⟨p, 0, none⟩), x25, .int .i64 y3, .agg #[.int .i64 y1, .int .i64 y2, .int .i64 y3], .slice (some ⟨Y.heap.size, 0, none⟩) 1 1, .slice (some ⟨g, 0, none⟩) (n + 1) cp, .pointer (some ⟨P, 1, none⟩), x31], []⟩ (w5.setCell ⟨P, 1, none⟩ (.slice (some ⟨g, 0, none⟩) (n + 1) cp))) (X : World) (hk : KB p a len cap w B P s (.slice ra n rc) n ls (T0 + 1 + 1) X) (y1 y2 : Int) (g3 : Nat) (b3 : Bu p X g3 7 8) (x17 x19 x22 x26 : Value) (L : Array Bool) (hL : L = #[true, false, true, true, true, true, true, true, true, true, false, false, false, false, false, false]) :
    wpAny Tryz.prog .any ops6 Q 7 L ⟨#[.pointer (some ⟨p, 0, none⟩), h1, h2, .pointer (some ⟨P, 0, none⟩), h4, h5, h6, h7, h8, h9, h10, h11, h12, h13, h14, h15, .pointer (some ⟨P, 1, none⟩), x17, .pointer (some ⟨p, 0, none⟩), x19, .int .i64 y1, .pointer (some ⟨p, 0, none⟩), x22, .int .i64 y2, .pointer (some ⟨p, 0, none⟩), .slice (some ⟨g3, 0, none⟩) 2 2, x26, x27, x28, x29, x30, x31], []⟩ X := by
  subst hL
  have hp : p < X.heap.size := hk.src.1
  have c1 := hk.cv.c1
  refine wpAny_ready (rs := [1, 10]) (by kernel_rfl) (by simp) ?_
  refine AllReady.cons (o := { dst := some 17, op := Go.Op.load 24 (Go.Operand.tmp 16), type := 24, pos := "l04_cache.go:162", after := #[{ on := 0, ground := Go.Ground.data }], guard := none }) rfl (fun K hK => ?_) ?_
  · go_simp
    refine hK _ _ ?_
    exact bent_23L hT hpB hn hpan hQ X hk _ _ _ b3 _ _ _ _ (by kernel_rfl)
  refine AllReady.cons (o := { dst := some 26, op := Go.Op.call { callee := Go.Callee.value (Go.Operand.func 21), args := #[Go.Operand.tmp 24, Go.Operand.tmp 25], argTypes := #[50, 38] }, type := 2, pos := "l04_cache.go:162", after := #[{ on := 8, ground := Go.Ground.data }, { on := 9, ground := Go.Ground.data }, { on := 7, ground := Go.Ground.chain }], guard := none }) rfl (fun K hK => ?_) ?_
  · go_simp
    go_at_call 21
    refine (pickB g3 7 8 hk (by omega) hpB b3.1 b3.2.1 b3.2.2).mono ?_
    rintro e u ⟨y, rfl, kb, hz, hc⟩
    try go_simp
    refine hK _ _ ?_
    exact bent_3nz hT hpB hn hpan hQ _ kb _ _ _ _ _ _ _ _ (by kernel_rfl)
  exact AllReady.nil

theorem bent_2nL (hT : T0 ≤ 999000) (hpB : p < B) (hn : n ≤ 6) (hpan : ∀ c (x y : Act) z, x.defers = y.defers → Q (.panic c) x z → Q (.panic c) y z) (hQ : ∀ (Y w5 : World) (y1 y2 y3 : Int) (g cp : Nat) (x19 x22 x25 : Value), KB p a len cap w B P s (.slice ra n rc) n ls (T0 + 1 + 1 + 1) Y → w5.cell? ⟨P, 0, none⟩ = some (.int .i64 s) → w5.cell? ⟨P, 1, none⟩ = some (.slice ra n rc) → w5.frozen? ⟨P, 1, none⟩ = false → w5.ownsRow B 45 3 (.slice (some ⟨g, 0, none⟩) (n + 1) cp) (n + 1) (vs3 (ls ++ [(y1, y2, y3)])) → g ≠ P → Below B Y w5 → Q .normal ⟨#[.pointer (some ⟨p, 0, none⟩), h1, h2, .pointer (some ⟨P, 0, none⟩), h4, h5, h6, h7, h8, h9, h10, h11, h12, h13, h14, h15, .pointer (some ⟨P, 1, none⟩), .slice ra n rc, .pointer (some ⟨p, 0, none⟩), x19, .int .i64 y1, .pointer (some ⟨p, 0, none⟩), x22, .int .i64 y2, .pointer (some ⟨p, 0, none⟩), x25, .int .i64 y3, .agg #[.int .i64 y1, .int .i64 y2, .int .i64 y3], .slice (some ⟨Y.heap.size, 0, none⟩) 1 1, .slice (some ⟨g, 0, none⟩) (n + 1) cp, .pointer (some ⟨P, 1, none⟩), x31], []⟩ (w5.setCell ⟨P, 1, none⟩ (.slice (some ⟨g, 0, none⟩) (n + 1) cp))) (X : World) (hk : KB p a len cap w B P s (.slice ra n rc) n ls (T0 + 1 + 1) X) (y1 y2 : Int) (x19 x22 x25 x26 : Value) (L : Array Bool) (hL : L = #[true, true, true, true, true, true, true, true, true, false, false, false, false, false, false, false]) :
    wpAny Tryz.prog .any ops6 Q 7 L ⟨#[.pointer (some ⟨p, 0, none⟩), h1, h2, .pointer (some ⟨P, 0, none⟩), h4, h5, h6, h7, h8, h9, h10, h11, h12, h13, h14, h15, .pointer (some ⟨P, 1, none⟩), .slice ra n rc, .pointer (some ⟨p, 0, none⟩), x19, .int .i64 y1, .pointer (some ⟨p, 0, none⟩), x22, .int .i64 y2, .pointer (some ⟨p, 0, none⟩), x25, x26, x27, x28, x29, x30, x31], []⟩ X := by
  subst hL
  have hp : p < X.heap.size := hk.src.1
  refine wpAny_ready (rs := [9]) (by kernel_rfl) (by simp) ?_
  refine AllReady.cons (o := { dst := some 25, op := Go.Op.buildSlice 38 2 #[(0, Go.Operand.const (Go.Value.int Go.IntKind.i64 7)), (1, Go.Operand.const (Go.Value.int Go.IntKind.i64 8))], type := 38, pos := "l04_cache.go:162", after := #[], guard := none }) rfl (fun K hK => ?_) ?_
  · go_simp
    refine hK _ _ ?_
    exact bent_23L hT hpB hn hpan hQ _ (hk.alloc _) _ _ _ (Bu.new hp _ _ _) _ _ _ _ (by kernel_rfl)
  exact AllReady.nil

theorem bent_2nz (hT : T0 ≤ 999000) (hpB : p < B) (hn : n ≤ 6) (hpan : ∀ c (x y : Act) z, x.defers = y.defers → Q (.panic c) x z → Q (.panic c) y z) (hQ : ∀ (Y w5 : World) (y1 y2 y3 : Int) (g cp : Nat) (x19 x22 x25 : Value), KB p a len cap w B P s (.slice ra n rc) n ls (T0 + 1 + 1 + 1) Y → w5.cell? ⟨P, 0, none⟩ = some (.int .i64 s) → w5.cell? ⟨P, 1, none⟩ = some (.slice ra n rc) → w5.frozen? ⟨P, 1, none⟩ = false → w5.ownsRow B 45 3 (.slice (some ⟨g, 0, none⟩) (n + 1) cp) (n + 1) (vs3 (ls ++ [(y1, y2, y3)])) → g ≠ P → Below B Y w5 → Q .normal ⟨#[.pointer (some ⟨p, 0, none⟩), h1, h2, .pointer (some ⟨P, 0, none⟩), h4, h5, h6, h7, h8, h9, h10, h11, h12, h13, h14, h15, .pointer (some ⟨P, 1, none⟩), .slice ra n rc, .pointer (some ⟨p, 0, none⟩), x19, .int .i64 y1, .pointer (some ⟨p, 0, none⟩), x22, .int .i64 y2, .pointer (some ⟨p, 0, none⟩), x25, .int .i64 y3, .agg #[.int .i64 y1, .int .i64 y2, .int .i64 y3], .slice (some ⟨Y.heap.size, 0, none⟩) 1 1, .slice (some ⟨g, 0, none⟩) (n + 1) cp, .pointer (some ⟨P, 1, none⟩), x31], []⟩ (w5.setCell ⟨P, 1, none⟩ (.slice (some ⟨g, 0, none⟩) (n + 1) cp))) (X : World) (hk : KB p a len cap w B P s (.slice ra n rc) n ls (T0 + 1 + 1) X) (y1 y2 : Int) (x17 x19 x22 x25 x26 : Value) (L : Array Bool) (hL : L = #[true, false, true, true, true, true, true, true, true, false, false, false, false, false, false, false]) :
    wpAny Tryz.prog .any ops6 Q 8 L ⟨#[.pointer (some ⟨p, 0, none⟩), h1, h2, .pointer (some ⟨P, 0, none⟩), h4, h5, h6, h7, h8, h9, h10, h11, h12, h13, h14, h15, .pointer (some ⟨P, 1, none⟩), x17, .pointer (some ⟨p, 0, none⟩), x19, .int .i64 y1, .pointer (some ⟨p, 0, none⟩), x22, .int .i64 y2, .pointer (some ⟨p, 0, none⟩), x25, x26, x27, x28, x29, x30, x31], []⟩ X := by
  subst hL
  have hp : p < X.heap.size := hk.src.1
  have c1 := hk.cv.c1
  refine wpAny_ready (rs := [1, 9]) (by kernel_rfl) (by simp) ?_
  refine AllReady.cons (o := { dst := some 17, op := Go.Op.load 24 (Go.Operand.tmp 16), type := 24, pos := "l04_cache.go:162", after := #[{ on := 0, ground := Go.Ground.data }], guard := none }) rfl (fun K hK => ?_) ?_
  · go_simp
    refine hK _ _ ?_
    exact bent_2nL hT hpB hn hpan hQ X hk _ _ _ _ _ _ _ (by kernel_rfl)
  refine AllReady.cons (o := { dst := some 25, op := Go.Op.buildSlice 38 2 #[(0, Go.Operand.const (Go.Value.int Go.IntKind.i64 7)), (1, Go.Operand.const (Go.Value.int Go.IntKind.i64 8))], type := 38, pos := "l04_cache.go:162", after := #[], guard := none }) rfl (fun K hK => ?_) ?_
  · go_simp
    refine hK _ _ ?_
    exact bent_23z hT hpB hn hpan hQ _ (hk.alloc _) _ _ _ (Bu.new hp _ _ _) _ _ _ _ _ (by kernel_rfl)
  exact AllReady.nil

theorem bent_123L (hT : T0 ≤ 999000) (hpB : p < B) (hn : n ≤ 6) (hpan : ∀ c (x y : Act) z, x.defers = y.defers → Q (.panic c) x z → Q (.panic c) y z) (hQ : ∀ (Y w5 : World) (y1 y2 y3 : Int) (g cp : Nat) (x19 x22 x25 : Value), KB p a len cap w B P s (.slice ra n rc) n ls (T0 + 1 + 1 + 1) Y → w5.cell? ⟨P, 0, none⟩ = some (.int .i64 s) → w5.cell? ⟨P, 1, none⟩ = some (.slice ra n rc) → w5.frozen? ⟨P, 1, none⟩ = false → w5.ownsRow B 45 3 (.slice (some ⟨g, 0, none⟩) (n + 1) cp) (n + 1) (vs3 (ls ++ [(y1, y2, y3)])) → g ≠ P → Below B Y w5 → Q .normal ⟨#[.pointer (some ⟨p, 0, none⟩), h1, h2, .pointer (some ⟨P, 0, none⟩), h4, h5, h6, h7, h8, h9, h10, h11, h12, h13, h14, h15, .pointer (some ⟨P, 1, none⟩), .slice ra n rc, .pointer (some ⟨p, 0, none⟩), x19, .int .i64 y1, .pointer (some ⟨p, 0, none⟩), x22, .int .i64 y2, .pointer (some ⟨p, 0, none⟩), x25, .int .i64 y3, .agg #[.int .i64 y1, .int .i64 y2, .int .i64 y3], .slice (some ⟨Y.heap.size, 0, none⟩) 1 1, .slice (some ⟨g, 0, none⟩) (n + 1) cp, .pointer (some ⟨P, 1, none⟩), x31], []⟩ (w5.setCell ⟨P, 1, none⟩ (.slice (some ⟨g, 0, none⟩) (n + 1) cp))) (X : World) (hk : KB p a len cap w B P s (.slice ra n rc) n ls (T0 + 1) X) (y1 : Int) (g2 : Nat) (b2 : Bu p X g2 0 7) (g3 : Nat) (b3 : Bu p X g3 7 8) (x19 x23 x26 : Value) (L : Array Bool) (hL : L = #[true, true, true, true, true, true, true, false, true, true, false, false, false, false, false, false]) :
    wpAny Tryz.prog .any ops6 Q 7 L ⟨#[.pointer (some ⟨p, 0, none⟩), h1, h2, .pointer (some ⟨P, 0, none⟩), h4, h5, h6, h7, h8, h9, h10, h11, h12, h13, h14, h15, .pointer (some ⟨P, 1, none⟩), .slice ra n rc, .pointer (some ⟨p, 0, none⟩), x19, .int .i64 y1, .pointer (some ⟨p, 0, none⟩), .slice (some ⟨g2, 0, none⟩) 2 2, x23, .pointer (some ⟨p, 0, none⟩), .slice (some ⟨g3, 0, none⟩) 2 2, x26, x27, x28, x29, x30, x31], []⟩ X := by
  subst hL
  have hp : p < X.heap.size := hk.src.1
  refine wpAny_ready (rs := [7]) (by kernel_rfl) (by simp) ?_
  refine AllReady.cons (o := { dst := some 23, op := Go.Op.call { callee := Go.Callee.value (Go.Operand.func 21), args := #[Go.Operand.tmp 21, Go.Operand.tmp 22], argTypes := #[50, 38] }, type := 2, pos := "l04_cache.go:162", after := #[{ on := 5, ground := Go.Ground.data }, { on := 6, ground := Go.Ground.data }, { on := 4, ground := Go.Ground.chain }], guard := none }) rfl (fun K hK => ?_) ?_
  · go_simp
    go_at_call 21
    refine (pickB g2 0 7 hk (by omega) hpB b2.1 b2.2.1 b2.2.2).mono ?_
    rintro e u ⟨y, rfl, kb, hz, hc⟩
    try go_simp
    refine hK _ _ ?_
    exact bent_23L hT hpB hn hpan hQ _ kb _ _ _ (b3.keep hc) _ _ _ _ (by kernel_rfl)
  exact AllReady.nil

theorem bent_123z (hT : T0 ≤ 999000) (hpB : p < B) (hn : n ≤ 6) (hpan : ∀ c (x y : Act) z, x.defers = y.defers → Q (.panic c) x z → Q (.panic c) y z) (hQ : ∀ (Y w5 : World) (y1 y2 y3 : Int) (g cp : Nat) (x19 x22 x25 : Value), KB p a len cap w B P s (.slice ra n rc) n ls (T0 + 1 + 1 + 1) Y → w5.cell? ⟨P, 0, none⟩ = some (.int .i64 s) → w5.cell? ⟨P, 1, none⟩ = some (.slice ra n rc) → w5.frozen? ⟨P, 1, none⟩ = false → w5.ownsRow B 45 3 (.slice (some ⟨g, 0, none⟩) (n + 1) cp) (n + 1) (vs3 (ls ++ [(y1, y2, y3)])) → g ≠ P → Below B Y w5 → Q .normal ⟨#[.pointer (some ⟨p, 0, none⟩), h1, h2, .pointer (some ⟨P, 0, none⟩), h4, h5, h6, h7, h8, h9, h10, h11, h12, h13, h14, h15, .pointer (some ⟨P, 1, none⟩), .slice ra n rc, .pointer (some ⟨p, 0, none⟩), x19, .int .i64 y1, .pointer (some ⟨p, 0, none⟩), x22, .int .i64 y2, .pointer (some ⟨p, 0, none⟩), x25, .int .i64 y3, .agg #[.int .i64 y1, .int .i64 y2, .int .i64 y3], .slice (some ⟨Y.heap.size, 0, none⟩) 1 1, .slice (some ⟨g, 0, none⟩) (n + 1) cp, .pointer (some ⟨P, 1, none⟩), x31], []⟩ (w5.setCell ⟨P, 1, none⟩ (.slice (some ⟨g, 0, none⟩) (n + 1) cp))) (X : World) (hk : KB p a len cap w B P s (.slice ra n rc) n ls (T0 + 1) X) (y1 : Int) (g2 : Nat) (b2 : Bu p X g2 0 7) (g3 : Nat) (b3 : Bu p X g3 7 8) (x17 x19 x23 x26 : Value) (L : Array Bool) (hL : L = #[true, false, true, true, true, true, true, false, true, true, false, false, false, false, false, false]) :
    wpAny Tryz.prog .any ops6 Q 8 L ⟨#[.pointer (some ⟨p, 0, none⟩), h1, h2, .pointer (some ⟨P, 0, none⟩), h4, h5, h6, h7, h8, h9, h10, h11, h12, h13, h14, h15, .pointer (some ⟨P, 1, none⟩), x17, .pointer (some ⟨p, 0, none⟩), x19, .int .i64 y1, .pointer (some ⟨p, 0, none⟩), .slice (some ⟨g2, 0, none⟩) 2 2, x23, .pointer (some ⟨p, 0, none⟩), .slice (some ⟨g3, 0, none⟩) 2 2, x26, x27, x28, x29, x30, x31], []⟩ X := by
  subst hL
  have hp : p < X.heap.size := hk.src.1
  have c1 := hk.cv.c1
  refine wpAny_ready (rs := [1, 7]) (by kernel_rfl) (by simp) ?_
  refine AllReady.cons (o := { dst := some 17, op := Go.Op.load 24 (Go.Operand.tmp 16), type := 24, pos := "l04_cache.go:162", after := #[{ on := 0, ground := Go.Ground.data }], guard := none }) rfl (fun K hK => ?_) ?_
  · go_simp
    refine hK _ _ ?_
    exact bent_123L hT hpB hn hpan hQ X hk _ _ b2 _ b3 _ _ _ _ (by kernel_rfl)
  refine AllReady.cons (o := { dst := some 23, op := Go.Op.call { callee := Go.Callee.value (Go.Operand.func 21), args := #[Go.Operand.tmp 21, Go.Operand.tmp 22], argTypes := #[50, 38] }, type := 2, pos := "l04_cache.go:162", after := #[{ on := 5, ground := Go.Ground.data }, { on := 6, ground := Go.Ground.data }, { on := 4, ground := Go.Ground.chain }], guard := none }) rfl (fun K hK => ?_) ?_
  · go_simp
    go_at_call 21
    refine (pickB g2 0 7 hk (by omega) hpB b2.1 b2.2.1 b2.2.2).mono ?_
    rintro e u ⟨y, rfl, kb, hz, hc⟩
    try go_simp
    refine hK _ _ ?_
    exact bent_23z hT hpB hn hpan hQ _ kb _ _ _ (b3.keep hc) _ _ _ _ _ (by kernel_rfl)
  exact AllReady.nil

theorem bent_12L (hT : T0 ≤ 999000) (hpB : p < B) (hn : n ≤ 6) (hpan : ∀ c (x y : Act) z, x.defers = y.defers → Q (.panic c) x z → Q (.panic c) y z) (hQ : ∀ (Y w5 : World) (y1 y2 y3 : Int) (g cp : Nat) (x19 x22 x25 : Value), KB p a len cap w B P s (.slice ra n rc) n ls (T0 + 1 + 1 + 1) Y → w5.cell? ⟨P, 0, none⟩ = some (.int .i64 s) → w5.cell? ⟨P, 1, none⟩ = some (.slice ra n rc) → w5.frozen? ⟨P, 1, none⟩ = false → w5.ownsRow B 45 3 (.slice (some ⟨g, 0, none⟩) (n + 1) cp) (n + 1) (vs3 (ls ++ [(y1, y2, y3)])) → g ≠ P → Below B Y w5 → Q .normal ⟨#[.pointer (some ⟨p, 0, none⟩), h1, h2, .pointer (some ⟨P, 0, none⟩), h4, h5, h6, h7, h8, h9, h10, h11, h12, h13, h14, h15, .pointer (some ⟨P, 1, none⟩), .slice ra n rc, .pointer (some ⟨p, 0, none⟩), x19, .int .i64 y1, .pointer (some ⟨p, 0, none⟩), x22, .int .i64 y2, .pointer (some ⟨p, 0, none⟩), x25, .int .i64 y3, .agg #[.int .i64 y1, .int .i64 y2, .int .i64 y3], .slice (some ⟨Y.heap.size, 0, none⟩) 1 1, .slice (some ⟨g, 0, none⟩) (n + 1) cp, .pointer (some ⟨P, 1, none⟩), x31], []⟩ (w5.setCell ⟨P, 1, none⟩ (.slice (some ⟨g, 0, none⟩) (n + 1) cp))) (X : World) (hk : KB p a len cap w B P s (.slice ra n rc) n ls (T0 + 1) X) (y1 : Int) (g2 : Nat) (b2 : Bu p X g2 0 7) (x19 x23 x25 x26 : Value) (L : Array Bool) (hL : L = #[true, true, true, true, true, true, true, false, true, false, false, false, false, false, false, false]) :
    wpAny Tryz.prog .any ops6 Q 8 L ⟨#[.pointer (some ⟨p, 0, none⟩), h1, h2, .pointer (some ⟨P, 0, none⟩), h4, h5, h6, h7, h8, h9, h10, h11, h12, h13, h14, h15, .pointer (some ⟨P, 1, none⟩), .slice ra n rc, .pointer (some ⟨p, 0, none⟩), x19, .int .i64 y1, .pointer (some ⟨p, 0, none⟩), .slice (some ⟨g2, 0, none⟩) 2 2, x23, .pointer (some ⟨p, 0, none⟩), x25, x26, x27, x28, x29, x30, x31], []⟩ X := by
  subst hL
  have hp : p < X.heap.size := hk.src.1
  refine wpAny_ready (rs := [7, 9]) (by kernel_rfl) (by simp) ?_
  refine AllReady.cons (o := { dst := some 23, op := Go.Op.call { callee := Go.Callee.value (Go.Operand.func 21), args := #[Go.Operand.tmp 21, Go.Operand.tmp 22], argTypes := #[50, 38] }, type := 2, pos := "l04_cache.go:162", after := #[{ on := 5, ground := Go.Ground.data }, { on := 6, ground := Go.Ground.data }, { on := 4, ground := Go.Ground.chain }], guard := none }) rfl (fun K hK => ?_) ?_
  · go_simp
    go_at_call 21
    refine (pickB g2 0 7 hk (by omega) hpB b2.1 b2.2.1 b2.2.2).mono ?_
    rintro e u ⟨y, rfl, kb, hz, hc⟩
    try go_simp
    refine hK _ _ ?_
    exact bent_2nL hT hpB hn hpan hQ _ kb _ _ _ _ _ _ _ (by kernel_rfl)
  refine AllReady.cons (o := { dst := some 25, op := Go.Op.buildSlice 38 2 #[(0, Go.Operand.const (Go.Value.int Go.IntKind.i64 7)), (1, Go.Operand.const (Go.Value.int Go.IntKind.i64 8))], type := 38, pos := "l04_cache.go:162", after := #[], guard := none }) rfl (fun K hK => ?_) ?_
  · go_simp
    refine hK _ _ ?_
    exact bent_123L hT hpB hn hpan hQ _ (hk.alloc _) _ _ (b2.alloc _) _ (Bu.new hp _ _ _) _ _ _ _ (by kernel_rfl)
  exact AllReady.nil

theorem bent_12z (hT : T0 ≤ 999000) (hpB : p < B) (hn : n ≤ 6) (hpan : ∀ c (x y : Act) z, x.defers = y.defers → Q (.panic c) x z → Q (.panic c) y z) (hQ : ∀ (Y w5 : World) (y1 y2 y3 : Int) (g cp : Nat) (x19 x22 x25 : Value), KB p a len cap w B P s (.slice ra n rc) n ls (T0 + 1 + 1 + 1) Y → w5.cell? ⟨P, 0, none⟩ = some (.int .i64 s) → w5.cell? ⟨P, 1, none⟩ = some (.slice ra n rc) → w5.frozen? ⟨P, 1, none⟩ = false → w5.ownsRow B 45 3 (.slice (some ⟨g, 0, none⟩) (n + 1) cp) (n + 1) (vs3 (ls ++ [(y1, y2, y3)])) → g ≠ P → Below B Y w5 → Q .normal ⟨#[.pointer (some ⟨p, 0, none⟩), h1, h2, .pointer (some ⟨P, 0, none⟩), h4, h5, h6, h7, h8, h9, h10, h11, h12, h13, h14, h15, .pointer (some ⟨P, 1, none⟩), .slice ra n rc, .pointer (some ⟨p, 0, none⟩), x19, .int .i64 y1, .pointer (some ⟨p, 0, none⟩), x22, .int .i64 y2, .pointer (some ⟨p, 0, none⟩), x25, .int .i64 y3, .agg #[.int .i64 y1, .int .i64 y2, .int .i64 y3], .slice (some ⟨Y.heap.size, 0, none⟩) 1 1, .slice (some ⟨g, 0, none⟩) (n + 1) cp, .pointer (some ⟨P, 1, none⟩), x31], []⟩ (w5.setCell ⟨P, 1, none⟩ (.slice (some ⟨g, 0, none⟩) (n + 1) cp))) (X : World) (hk : KB p a len cap w B P s (.slice ra n rc) n ls (T0 + 1) X) (y1 : Int) (g2 : Nat) (b2 : Bu p X g2 0 7) (x17 x19 x23 x25 x26 : Value) (L : Array Bool) (hL : L = #[true, false, true, true, true, true, true, false, true, false, false, false, false, false, false, false]) :
    wpAny Tryz.prog .any ops6 Q 9 L ⟨#[.pointer (some ⟨p, 0, none⟩), h1, h2, .pointer (some ⟨P, 0, none⟩), h4, h5, h6, h7, h8, h9, h10, h11, h12, h13, h14, h15, .pointer (some ⟨P, 1, none⟩), x17, .pointer (some ⟨p, 0, none⟩), x19, .int .i64 y1, .pointer (some ⟨p, 0, none⟩), .slice (some ⟨g2, 0, none⟩) 2 2, x23, .pointer (some ⟨p, 0, none⟩), x25, x26, x27, x28, x29, x30, x31], []⟩ X := by
  subst hL
  have hp : p < X.heap.size := hk.src.1
  have c1 := hk.cv.c1
  refine wpAny_ready (rs := [1, 7, 9]) (by kernel_rfl) (by simp) ?_
  refine AllReady.cons (o := { dst := some 17, op := Go.Op.load 24 (Go.Operand.tmp 16), type := 24, pos := "l04_cache.go:162", after := #[{ on := 0, ground := Go.Ground.data }], guard := none }) rfl (fun K hK => ?_) ?_
  · go_simp
    refine hK _ _ ?_
    exact bent_12L hT hpB hn hpan hQ X hk _ _ b2 _ _ _ _ _ (by kernel_rfl)
  refine AllReady.cons (o := { dst := some 23, op := Go.Op.call { callee := Go.Callee.value (Go.Operand.func 21), args := #[Go.Operand.tmp 21, Go.Operand.tmp 22], argTypes := #[50, 38] }, type := 2, pos := "l04_cache.go:162", after := #[{ on := 5, ground := Go.Ground.data }, { on := 6, ground := Go.Ground.data }, { on := 4, ground := Go.Ground.chain }], guard := none }) rfl (fun K hK => ?_) ?_
  · go_simp
    go_at_call 21
    refine (pickB g2 0 7 hk (by omega) hpB b2.1 b2.2.1 b2.2.2).mono ?_
    rintro e u ⟨y, rfl, kb, hz, hc⟩
    try go_simp
    refine hK _ _ ?_
    exact bent_2nz hT hpB hn hpan hQ _ kb _ _ _ _ _ _ _ _ (by kernel_rfl)
  refine AllReady.cons (o := { dst := some 25, op := Go.Op.buildSlice 38 2 #[(0, Go.Operand.const (Go.Value.int Go.IntKind.i64 7)), (1, Go.Operand.const (Go.Value.int Go.IntKind.i64 8))], type := 38, pos := "l04_cache.go:162", after := #[], guard := none }) rfl (fun K hK => ?_) ?_
  · go_simp
    refine hK _ _ ?_
    exact bent_123z hT hpB hn hpan hQ _ (hk.alloc _) _ _ (b2.alloc _) _ (Bu.new hp _ _ _) _ _ _ _ _ (by kernel_rfl)
  exact AllReady.nil

theorem bent_13L (hT : T0 ≤ 999000) (hpB : p < B) (hn : n ≤ 6) (hpan : ∀ c (x y : Act) z, x.defers = y.defers → Q (.panic c) x z → Q (.panic c) y z) (hQ : ∀ (Y w5 : World) (y1 y2 y3 : Int) (g cp : Nat) (x19 x22 x25 : Value), KB p a len cap w B P s (.slice ra n rc) n ls (T0 + 1 + 1 + 1) Y → w5.cell? ⟨P, 0, none⟩ = some (.int .i64 s) → w5.cell? ⟨P, 1, none⟩ = some (.slice ra n rc) → w5.frozen? ⟨P, 1, none⟩ = false → w5.ownsRow B 45 3 (.slice (some ⟨g, 0, none⟩) (n + 1) cp) (n + 1) (vs3 (ls ++ [(y1, y2, y3)])) → g ≠ P → Below B Y w5 → Q .normal ⟨#[.pointer (some ⟨p, 0, none⟩), h1, h2, .pointer (some ⟨P, 0, none⟩), h4, h5, h6, h7, h8, h9, h10, h11, h12, h13, h14, h15, .pointer (some ⟨P, 1, none⟩), .slice ra n rc, .pointer (some ⟨p, 0, none⟩), x19, .int .i64 y1, .pointer (some ⟨p, 0, none⟩), x22, .int .i64 y2, .pointer (some ⟨p, 0, none⟩), x25, .int .i64 y3, .agg #[.int .i64 y1, .int .i64 y2, .int .i64 y3], .slice (some ⟨Y.heap.size, 0, none⟩) 1 1, .slice (some ⟨g, 0, none⟩) (n + 1) cp, .pointer (some ⟨P, 1, none⟩), x31], []⟩ (w5.setCell ⟨P, 1, none⟩ (.slice (some ⟨g, 0, none⟩) (n + 1) cp))) (X : World) (hk : KB p a len cap w B P s (.slice ra n rc) n ls (T0 + 1) X) (y1 : Int) (g3 : Nat) (b3 : Bu p X g3 7 8) (x19 x22 x23 x26 : Value) (L : Array Bool) (hL : L = #[true, true, true, true, true, true, false, false, true, true, false, false, false, false, false, false]) :
    wpAny Tryz.prog .any ops6 Q 8 L ⟨#[.pointer (some ⟨p, 0, none⟩), h1, h2, .pointer (some ⟨P, 0, none⟩), h4, h5, h6, h7, h8, h9, h10, h11, h12, h13, h14, h15, .pointer (some ⟨P, 1, none⟩), .slice ra n rc, .pointer (some ⟨p, 0, none⟩), x19, .int .i64 y1, .pointer (some ⟨p, 0, none⟩), x22, x23, .pointer (some ⟨p, 0, none⟩), .slice (some ⟨g3, 0, none⟩) 2 2, x26, x27, x28, x29, x30, x31], []⟩ X := by
  subst hL
  have hp : p < X.heap.size := hk.src.1
  refine wpAny_ready (rs := [6]) (by kernel_rfl) (by simp) ?_
  refine AllReady.cons (o := { dst := some 22, op := Go.Op.buildSlice 38 2 #[(0, Go.Operand.const (Go.Value.int Go.IntKind.i64 0)), (1, Go.Operand.const (Go.Value.int Go.IntKind.i64 7))], type := 38, pos := "l04_cache.go:162", after := #[], guard := none }) rfl (fun K hK => ?_) ?_
  · go_simp
    refine hK _ _ ?_
    exact bent_123L hT hpB hn hpan hQ _ (hk.alloc _) _ _ (Bu.new hp _ _ _) _ (b3.alloc _) _ _ _ _ (by kernel_rfl)
  exact AllReady.nil

theorem bent_13z (hT : T0 ≤ 999000) (hpB : p < B) (hn : n ≤ 6) (hpan : ∀ c (x y : Act) z, x.defers = y.defers → Q (.panic c) x z → Q (.panic c) y z) (hQ : ∀ (Y w5 : World) (y1 y2 y3 : Int) (g cp : Nat) (x19 x22 x25 : Value), KB p a len cap w B P s (.slice ra n rc) n ls (T0 + 1 + 1 + 1) Y → w5.cell? ⟨P, 0, none⟩ = some (.int .i64 s) → w5.cell? ⟨P, 1, none⟩ = some (.slice ra n rc) → w5.frozen? ⟨P, 1, none⟩ = false → w5.ownsRow B 45 3 (.slice (some ⟨g, 0, none⟩) (n + 1) cp) (n + 1) (vs3 (ls ++ [(y1, y2, y3)])) → g ≠ P → Below B Y w5 → Q .normal ⟨#[.pointer (some ⟨p, 0, none⟩), h1, h2, .pointer (some ⟨P, 0, none⟩), h4, h5, h6, h7, h8, h9, h10, h11, h12, h13, h14, h15, .pointer (some ⟨P, 1, none⟩), .slice ra n rc, .pointer (some ⟨p, 0, none⟩), x19, .int .i64 y1, .pointer (some ⟨p, 0, none⟩), x22, .int .i64 y2, .pointer (some ⟨p, 0, none⟩), x25, .int .i64 y3, .agg #[.int .i64 y1, .int .i64 y2, .int .i64 y3], .slice (some ⟨Y.heap.size, 0, none⟩) 1 1, .slice (some ⟨g, 0, none⟩) (n + 1) cp, .pointer (some ⟨P, 1, none⟩), x31], []⟩ (w5.setCell ⟨P, 1, none⟩ (.slice (some ⟨g, 0, none⟩) (n + 1) cp))) (X : World) (hk : KB p a len cap w B P s (.slice ra n rc) n ls (T0 + 1) X) (y1 : Int) (g3 : Nat) (b3 : Bu p X g3 7 8) (x17 x19 x22 x23 x26 : Value) (L : Array Bool) (hL : L = #[true, false, true, true, true, true, false, false, true, true, false, false, false, false, false, false]) :
    wpAny Tryz.prog .any ops6 Q 9 L ⟨#[.pointer (some ⟨p, 0, none⟩), h1, h2, .pointer (some ⟨P, 0, none⟩), h4, h5, h6, h7, h8, h9, h10, h11, h12, h13, h14, h15, .pointer (some ⟨P, 1, none⟩), x17, .pointer (some ⟨p, 0, none⟩), x19, .int .i64 y1, .pointer (some ⟨p, 0, none⟩), x22, x23, .pointer (some ⟨p, 0, none⟩), .slice (some ⟨g3, 0, none⟩) 2 2, x26, x27, x28, x29, x30, x31], []⟩ X := by
  subst hL
  have hp : p < X.heap.size := hk.src.1
  have c1 := hk.cv.c1
  refine wpAny_ready (rs := [1, 6]) (by kernel_rfl) (by simp) ?_
  refine AllReady.cons (o := { dst := some 17, op := Go.Op.load 24 (Go.Operand.tmp 16), type := 24, pos := "l04_cache.go:162", after := #[{ on := 0, ground := Go.Ground.data }], guard := none }) rfl (fun K hK => ?_) ?_
  · go_simp
    refine hK _ _ ?_
    exact bent_13L hT hpB hn hpan hQ X hk _ _ b3 _ _ _ _ _ (by kernel_rfl)
  refine AllReady.cons (o := { dst := some 22, op := Go.Op.buildSlice 38 2 #[(0, Go.Operand.const (Go.Value.int Go.IntKind.i64 0)), (1, Go.Operand.const (Go.Value.int Go.IntKind.i64 7))], type := 38, pos := "l04_cache.go:162", after := #[], guard := none }) rfl (fun K hK => ?_) ?_
  · go_simp
    refine hK _ _ ?_
    exact bent_123z hT hpB hn hpan hQ _ (hk.alloc _) _ _ (Bu.new hp _ _ _) _ (b3.alloc _) _ _ _ _ _ (by kernel_rfl)
  exact AllReady.nil

theorem bent_1nL (hT : T0 ≤ 999000) (hpB : p < B) (hn : n ≤ 6) (hpan : ∀ c (x y : Act) z, x.defers = y.defers → Q (.panic c) x z → Q (.panic c) y z) (hQ : ∀ (Y w5 : World) (y1 y2 y3 : Int) (g cp : Nat) (x19 x22 x25 : Value), KB p a len cap w B P s (.slice ra n rc) n ls (T0 + 1 + 1 + 1) Y → w5.cell? ⟨P, 0, none⟩ = some (.int .i64 s) → w5.cell? ⟨P, 1, none⟩ = some (.slice ra n rc) → w5.frozen? ⟨P, 1, none⟩ = false → w5.ownsRow B 45 3 (.slice (some ⟨g, 0, none⟩) (n + 1) cp) (n + 1) (vs3 (ls ++ [(y1, y2, y3)])) → g ≠ P → Below B Y w5 → Q .normal ⟨#[.pointer (some ⟨p, 0, none⟩), h1, h2, .pointer (some ⟨P, 0, none⟩), h4, h5, h6, h7, h8, h9, h10, h11, h12, h13, h14, h15, .pointer (some ⟨P, 1, none⟩), .slice ra n rc, .pointer (some ⟨p, 0, none⟩), x19, .int .i64 y1, .pointer (some ⟨p, 0, none⟩), x22, .int .i64 y2, .pointer (some ⟨p, 0, none⟩), x25, .int .i64 y3, .agg #[.int .i64 y1, .int .i64 y2, .int .i64 y3], .slice (some ⟨Y.heap.size, 0, none⟩) 1 1, .slice (some ⟨g, 0, none⟩) (n + 1) cp, .pointer (some ⟨P, 1, none⟩), x31], []⟩ (w5.setCell ⟨P, 1, none⟩ (.slice (some ⟨g, 0, none⟩) (n + 1) cp))) (X : World) (hk : KB p a len cap w B P s (.slice ra n rc) n ls (T0 + 1) X) (y1 : Int) (x19 x22 x23 x25 x26 : Value) (L : Array Bool) (hL : L = #[true, true, true, true, true, true, false, false, true, false, false, false, false, false, false, false]) :
    wpAny Tryz.prog .any ops6 Q 9 L ⟨#[.pointer (some ⟨p, 0, none⟩), h1, h2, .pointer (some ⟨P, 0, none⟩), h4, h5, h6, h7, h8, h9, h10, h11, h12, h13, h14, h15, .pointer (some ⟨P, 1, none⟩), .slice ra n rc, .pointer (some ⟨p, 0, none⟩), x19, .int .i64 y1, .pointer (some ⟨p, 0, none⟩), x22, x23, .pointer (some ⟨p, 0, none⟩), x25, x26, x27, x28, x29, x30, x31], []⟩ X := by
  subst hL
  have hp : p < X.heap.size := hk.src.1
  refine wpAny_ready (rs := [6, 9]) (by kernel_rfl) (by simp) ?_
  refine AllReady.cons (o := { dst := some 22, op := Go.Op.buildSlice 38 2 #[(0, Go.Operand.const (Go.Value.int Go.IntKind.i64 0)), (1, Go.Operand.const (Go.Value.int Go.IntKind.i64 7))], type := 38, pos := "l04_cache.go:162", after := #[], guard := none }) rfl (fun K hK => ?_) ?_
  · go_simp
    refine hK _ _ ?_
    exact bent_12L hT hpB hn hpan hQ _ (hk.alloc _) _ _ (Bu.new hp _ _ _) _ _ _ _ _ (by kernel_rfl)
  refine AllReady.cons (o := { dst := some 25, op := Go.Op.buildSlice 38 2 #[(0, Go.Operand.const (Go.Value.int Go.IntKind.i64 7)), (1, Go.Operand.const (Go.Value.int Go.IntKind.i64 8))], type := 38, pos := "l04_cache.go:162", after := #[], guard := none }) rfl (fun K hK => ?_) ?_
  · go_simp
    refine hK _ _ ?_
    exact bent_13L hT hpB hn hpan hQ _ (hk.alloc _) _ _ (Bu.new hp _ _ _) _ _ _ _ _ (by kernel_rfl)
  exact AllReady.nil

theorem bent_1nz (hT : T0 ≤ 999000) (hpB : p < B) (hn : n ≤ 6) (hpan : ∀ c (x y : Act) z, x.defers = y.defers → Q (.panic c) x z → Q (.panic c) y z) (hQ : ∀ (Y w5 : World) (y1 y2 y3 : Int) (g cp : Nat) (x19 x22 x25 : Value), KB p a len cap w B P s (.slice ra n rc) n ls (T0 + 1 + 1 + 1) Y → w5.cell? ⟨P, 0, none⟩ = some (.int .i64 s) → w5.cell? ⟨P, 1, none⟩ = some (.slice ra n rc) → w5.frozen? ⟨P, 1, none⟩ = false → w5.ownsRow B 45 3 (.slice (some ⟨g, 0, none⟩) (n + 1) cp) (n + 1) (vs3 (ls ++ [(y1, y2, y3)])) → g ≠ P → Below B Y w5 → Q .normal ⟨#[.pointer (some ⟨p, 0, none⟩), h1, h2, .pointer (some ⟨P, 0, none⟩), h4, h5, h6, h7, h8, h9, h10, h11, h12, h13, h14, h15, .pointer (some ⟨P, 1, none⟩), .slice ra n rc, .pointer (some ⟨p, 0, none⟩), x19, .int .i64 y1, .pointer (some ⟨p, 0, none⟩), x22, .int .i64 y2, .pointer (some ⟨p, 0, none⟩), x25, .int .i64 y3, .agg #[.int .i64 y1, .int .i64 y2, .int .i64 y3], .slice (some ⟨Y.heap.size, 0, none⟩) 1 1, .slice (some ⟨g, 0, none⟩) (n + 1) cp, .pointer (some ⟨P, 1, none⟩), x31], []⟩ (w5.setCell ⟨P, 1, none⟩ (.slice (some ⟨g, 0, none⟩) (n + 1) cp))) (X : World) (hk : KB p a len cap w B P s (.slice ra n rc) n ls (T0 + 1) X) (y1 : Int) (x17 x19 x22 x23 x25 x26 : Value) (L : Array Bool) (hL : L = #[true, false, true, true, true, true, false, false, true, false, false, false, false, false, false, false]) :
    wpAny Tryz.prog .any ops6 Q 10 L ⟨#[.pointer (some ⟨p, 0, none⟩), h1, h2, .pointer (some ⟨P, 0, none⟩), h4, h5, h6, h7, h8, h9, h10, h11, h12, h13, h14, h15, .pointer (some ⟨P, 1, none⟩), x17, .pointer (some ⟨p, 0, none⟩), x19, .int .i64 y1, .pointer (some ⟨p, 0, none⟩), x22, x23, .pointer (some ⟨p, 0, none⟩), x25, x26, x27, x28, x29, x30, x31], []⟩ X := by
  subst hL
  have hp : p < X.heap.size := hk.src.1
  have c1 := hk.cv.c1
  refine wpAny_ready (rs := [1, 6, 9]) (by kernel_rfl) (by simp) ?_
  refine AllReady.cons (o := { dst := some 17, op := Go.Op.load 24 (Go.Operand.tmp 16), type := 24, pos := "l04_cache.go:162", after := #[{ on := 0, ground := Go.Ground.data }], guard := none }) rfl (fun K hK => ?_) ?_
  · go_simp
    refine hK _ _ ?_
    exact bent_1nL hT hpB hn hpan hQ X hk _ _ _ _ _ _ _ (by kernel_rfl)
  refine AllReady.cons (o := { dst := some 22, op := Go.Op.buildSlice 38 2 #[(0, Go.Operand.const (Go.Value.int Go.IntKind.i64 0)), (1, Go.Operand.const (Go.Value.int Go.IntKind.i64 7))], type := 38, pos := "l04_cache.go:162", after := #[], guard := none }) rfl (fun K hK => ?_) ?_
  · go_simp
    refine hK _ _ ?_
    exact bent_12z hT hpB hn hpan hQ _ (hk.alloc _) _ _ (Bu.new hp _ _ _) _ _ _ _ _ _ (by kernel_rfl)
  refine AllReady.cons (o := { dst := some 25, op := Go.Op.buildSlice 38 2 #[(0, Go.Operand.const (Go.Value.int Go.IntKind.i64 7)), (1, Go.Operand.const (Go.Value.int Go.IntKind.i64 8))], type := 38, pos := "l04_cache.go:162", after := #[], guard := none }) rfl (fun K hK => ?_) ?_
  · go_simp
    refine hK _ _ ?_
    exact bent_13z hT hpB hn hpan hQ _ (hk.alloc _) _ _ (Bu.new hp _ _ _) _ _ _ _ _ _ (by kernel_rfl)
  exact AllReady.nil

theorem bent_0123L (hT : T0 ≤ 999000) (hpB : p < B) (hn : n ≤ 6) (hpan : ∀ c (x y : Act) z, x.defers = y.defers → Q (.panic c) x z → Q (.panic c) y z) (hQ : ∀ (Y w5 : World) (y1 y2 y3 : Int) (g cp : Nat) (x19 x22 x25 : Value), KB p a len cap w B P s (.slice ra n rc) n ls (T0 + 1 + 1 + 1) Y → w5.cell? ⟨P, 0, none⟩ = some (.int .i64 s) → w5.cell? ⟨P, 1, none⟩ = some (.slice ra n rc) → w5.frozen? ⟨P, 1, none⟩ = false → w5.ownsRow B 45 3 (.slice (some ⟨g, 0, none⟩) (n + 1) cp) (n + 1) (vs3 (ls ++ [(y1, y2, y3)])) → g ≠ P → Below B Y w5 → Q .normal ⟨#[.pointer (some ⟨p, 0, none⟩), h1, h2, .pointer (some ⟨P, 0, none⟩), h4, h5, h6, h7, h8, h9, h10, h11, h12, h13, h14, h15, .pointer (some ⟨P, 1, none⟩), .slice ra n rc, .pointer (some ⟨p, 0, none⟩), x19, .int .i64 y1, .pointer (some ⟨p, 0, none⟩), x22, .int .i64 y2, .pointer (some ⟨p, 0, none⟩), x25, .int .i64 y3, .agg #[.int .i64 y1, .int .i64 y2, .int .i64 y3], .slice (some ⟨Y.heap.size, 0, none⟩) 1 1, .slice (some ⟨g, 0, none⟩) (n + 1) cp, .pointer (some ⟨P, 1, none⟩), x31], []⟩ (w5.setCell ⟨P, 1, none⟩ (.slice (some ⟨g, 0, none⟩) (n + 1) cp))) (X : World) (hk : KB p a len cap w B P s (.slice ra n rc) n ls (T0) X) (g1 : Nat) (b1 : Bu p X g1 0 4) (g2 : Nat) (b2 : Bu p X g2 0 7) (g3 : Nat) (b3 : Bu p X g3 7 8) (x20 x23 x26 : Value) (L : Array Bool) (hL : L = #[true, true, true, true, false, true, true, false, true, true, false, false, false, false, false, false]) :
    wpAny Tryz.prog .any ops6 Q 8 L ⟨#[.pointer (some ⟨p, 0, none⟩), h1, h2, .pointer (some ⟨P, 0, none⟩), h4, h5, h6, h7, h8, h9, h10, h11, h12, h13, h14, h15, .pointer (some ⟨P, 1, none⟩), .slice ra n rc, .pointer (some ⟨p, 0, none⟩), .slice (some ⟨g1, 0, none⟩) 2 2, x20, .pointer (some ⟨p, 0, none⟩), .slice (some ⟨g2, 0, none⟩) 2 2, x23, .pointer (some ⟨p, 0, none⟩), .slice (some ⟨g3, 0, none⟩) 2 2, x26, x27, x28, x29, x30, x31], []⟩ X := by
  subst hL
  have hp : p < X.heap.size := hk.src.1
  refine wpAny_ready (rs := [4]) (by kernel_rfl) (by simp) ?_
  refine AllReady.cons (o := { dst := some 20, op := Go.Op.call { callee := Go.Callee.value (Go.Operand.func 21), args := #[Go.Operand.tmp 18, Go.Operand.tmp 19], argTypes := #[50, 38] }, type := 2, pos := "l04_cache.go:162", after := #[{ on := 2, ground := Go.Ground.data }, { on := 3, ground := Go.Ground.data }], guard := none }) rfl (fun K hK => ?_) ?_
  · go_simp
    go_at_call 21
    refine (pickB g1 0 4 hk (by omega) hpB b1.1 b1.2.1 b1.2.2).mono ?_
    rintro e u ⟨y, rfl, kb, hz, hc⟩
    try go_simp
    refine hK _ _ ?_
    exact bent_123L hT hpB hn hpan hQ _ kb _ _ (b2.keep hc) _ (b3.keep hc) _ _ _ _ (by kernel_rfl)
  exact AllReady.nil

theorem bent_0123z (hT : T0 ≤ 999000) (hpB : p < B) (hn : n ≤ 6) (hpan : ∀ c (x y : Act) z, x.defers = y.defers → Q (.panic c) x z → Q (.panic c) y z) (hQ : ∀ (Y w5 : World) (y1 y2 y3 : Int) (g cp : Nat) (x19 x22 x25 : Value), KB p a len cap w B P s (.slice ra n rc) n ls (T0 + 1 + 1 + 1) Y → w5.cell? ⟨P, 0, none⟩ = some (.int .i64 s) → w5.cell? ⟨P, 1, none⟩ = some (.slice ra n rc) → w5.frozen? ⟨P, 1, none⟩ = false → w5.ownsRow B 45 3 (.slice (some ⟨g, 0, none⟩) (n + 1) cp) (n + 1) (vs3 (ls ++ [(y1, y2, y3)])) → g ≠ P → Below B Y w5 → Q .normal ⟨#[.pointer (some ⟨p, 0, none⟩), h1, h2, .pointer (some ⟨P, 0, none⟩), h4, h5, h6, h7, h8, h9, h10, h11, h12, h13, h14, h15, .pointer (some ⟨P, 1, none⟩), .slice ra n rc, .pointer (some ⟨p, 0, none⟩), x19, .int .i64 y1, .pointer (some ⟨p, 0, none⟩), x22, .int .i64 y2, .pointer (some ⟨p, 0, none⟩), x25, .int .i64 y3, .agg #[.int .i64 y1, .int .i64 y2, .int .i64 y3], .slice (some ⟨Y.heap.size, 0, none⟩) 1 1, .slice (some ⟨g, 0, none⟩) (n + 1) cp, .pointer (some ⟨P, 1, none⟩), x31], []⟩ (w5.setCell ⟨P, 1, none⟩ (.slice (some ⟨g, 0, none⟩) (n + 1) cp))) (X : World) (hk : KB p a len cap w B P s (.slice ra n rc) n ls (T0) X) (g1 : Nat) (b1 : Bu p X g1 0 4) (g2 : Nat) (b2 : Bu p X g2 0 7) (g3 : Nat) (b3 : Bu p X g3 7 8) (x17 x20 x23 x26 : Value) (L : Array Bool) (hL : L = #[true, false, true, true, false, true, true, false, true, true, false, false, false, false, false, false]) :
    wpAny Tryz.prog .any ops6 Q 9 L ⟨#[.pointer (some ⟨p, 0, none⟩), h1, h2, .pointer (some ⟨P, 0, none⟩), h4, h5, h6, h7, h8, h9, h10, h11, h12, h13, h14, h15, .pointer (some ⟨P, 1, none⟩), x17, .pointer (some ⟨p, 0, none⟩), .slice (some ⟨g1, 0, none⟩) 2 2, x20, .pointer (some ⟨p, 0, none⟩), .slice (some ⟨g2, 0, none⟩) 2 2, x23, .pointer (some ⟨p, 0, none⟩), .slice (some ⟨g3, 0, none⟩) 2 2, x26, x27, x28, x29, x30, x31], []⟩ X := by
  subst hL
  have hp : p < X.heap.size := hk.src.1
  have c1 := hk.cv.c1
  refine wpAny_ready (rs := [1, 4]) (by kernel_rfl) (by simp) ?_
  refine AllReady.cons (o := { dst := some 17, op := Go.Op.load 24 (Go.Operand.tmp 16), type := 24, pos := "l04_cache.go:162", after := #[{ on := 0, ground := Go.Ground.data }], guard := none }) rfl (fun K hK => ?_) ?_
  · go_simp
    refine hK _ _ ?_
    exact bent_0123L hT hpB hn hpan hQ X hk _ b1 _ b2 _ b3 _ _ _ _ (by kernel_rfl)
  refine AllReady.cons (o := { dst := some 20, op := Go.Op.call { callee := Go.Callee.value (Go.Operand.func 21), args := #[Go.Operand.tmp 18, Go.Operand.tmp 19], argTypes := #[50, 38] }, type := 2, pos := "l04_cache.go:162", after := #[{ on := 2, ground := Go.Ground.data }, { on := 3, ground := Go.Ground.data }], guard := none }) rfl (fun K hK => ?_) ?_
  · go_simp
    go_at_call 21
    refine (pickB g1 0 4 hk (by omega) hpB b1.1 b1.2.1 b1.2.2).mono ?_
    rintro e u ⟨y, rfl, kb, hz, hc⟩
    try go_simp
    refine hK _ _ ?_
    exact bent_123z hT hpB hn hpan hQ _ kb _ _ (b2.keep hc) _ (b3.keep hc) _ _ _ _ _ (by kernel_rfl)
  exact AllReady.nil

theorem bent_012L (hT : T0 ≤ 999000) (hpB : p < B) (hn : n ≤ 6) (hpan : ∀ c (x y : Act) z, x.defers = y.defers → Q (.panic c) x z → Q (.panic c) y z) (hQ : ∀ (Y w5 : World) (y1 y2 y3 : Int) (g cp : Nat) (x19 x22 x25 : Value), KB p a len cap w B P s (.slice ra n rc) n ls (T0 + 1 + 1 + 1) Y → w5.cell? ⟨P, 0, none⟩ = some (.int .i64 s) → w5.cell? ⟨P, 1, none⟩ = some (.slice ra n rc) → w5.frozen? ⟨P, 1, none⟩ = false → w5.ownsRow B 45 3 (.slice (some ⟨g, 0, none⟩) (n + 1) cp) (n + 1) (vs3 (ls ++ [(y1, y2, y3)])) → g ≠ P → Below B Y w5 → Q .normal ⟨#[.pointer (some ⟨p, 0, none⟩), h1, h2, .pointer (some ⟨P, 0, none⟩), h4, h5, h6, h7, h8, h9, h10, h11, h12, h13, h14, h15, .pointer (some ⟨P, 1, none⟩), .slice ra n rc, .pointer (some ⟨p, 0, none⟩), x19, .int .i64 y1, .pointer (some ⟨p, 0, none⟩), x22, .int .i64 y2, .pointer (some ⟨p, 0, none⟩), x25, .int .i64 y3, .agg #[.int .i64 y1, .int .i64 y2, .int .i64 y3], .slice (some ⟨Y.heap.size, 0, none⟩) 1 1, .slice (some ⟨g, 0, none⟩) (n + 1) cp, .pointer (some ⟨P, 1, none⟩), x31], []⟩ (w5.setCell ⟨P, 1, none⟩ (.slice (some ⟨g, 0, none⟩) (n + 1) cp))) (X : World) (hk : KB p a len cap w B P s (.slice ra n rc) n ls (T0) X) (g1 : Nat) (b1 : Bu p X g1 0 4) (g2 : Nat) (b2 : Bu p X g2 0 7) (x20 x23 x25 x26 : Value) (L : Array Bool) (hL : L = #[true, true, true, true, false, true, true, false, true, false, false, false, false, false, false, false]) :
    wpAny Tryz.prog .any ops6 Q 9 L ⟨#[.pointer (some ⟨p, 0, none⟩), h1, h2, .pointer (some ⟨P, 0, none⟩), h4, h5, h6, h7, h8, h9, h10, h11, h12, h13, h14, h15, .pointer (some ⟨P, 1, none⟩), .slice ra n rc, .pointer (some ⟨p, 0, none⟩), .slice (some ⟨g1, 0, none⟩) 2 2, x20, .pointer (some ⟨p, 0, none⟩), .slice (some ⟨g2, 0, none⟩) 2 2, x23, .pointer (some ⟨p, 0, none⟩), x25, x26, x27, x28, x29, x30, x31], []⟩ X := by
  subst hL
  have hp : p < X.heap.size := hk.src.1
  refine wpAny_ready (rs := [4, 9]) (by kernel_rfl) (by simp) ?_
  refine AllReady.cons (o := { dst := some 20, op := Go.Op.call { callee := Go.Callee.value (Go.Operand.func 21), args := #[Go.Operand.tmp 18, Go.Operand.tmp 19], argTypes := #[50, 38] }, type := 2, pos := "l04_cache.go:162", after := #[{ on := 2, ground := Go.Ground.data }, { on := 3, ground := Go.Ground.data }], guard := none }) rfl (fun K hK => ?_) ?_
  · go_simp
    go_at_call 21
    refine (pickB g1 0 4 hk (by omega) hpB b1.1 b1.2.1 b1.2.2).mono ?_
    rintro e u ⟨y, rfl, kb, hz, hc⟩
    try go_simp
    refine hK _ _ ?_
    exact bent_12L hT hpB hn hpan hQ _ kb _ _ (b2.keep hc) _ _ _ _ _ (by kernel_rfl)
  refine AllReady.cons (o := { dst := some 25, op := Go.Op.buildSlice 38 2 #[(0, Go.Operand.const (Go.Value.int Go.IntKind.i64 7)), (1, Go.Operand.const (Go.Value.int Go.IntKind.i64 8))], type := 38, pos := "l04_cache.go:162", after := #[], guard := none }) rfl (fun K hK => ?_) ?_
  · go_simp
    refine hK _ _ ?_
    exact bent_0123L hT hpB hn hpan hQ _ (hk.alloc _) _ (b1.alloc _) _ (b2.alloc _) _ (Bu.new hp _ _ _) _ _ _ _ (by kernel_rfl)
  exact AllReady.nil

theorem bent_012z (hT : T0 ≤ 999000) (hpB : p < B) (hn : n ≤ 6) (hpan : ∀ c (x y : Act) z, x.defers = y.defers → Q (.panic c) x z → Q (.panic c) y z) (hQ : ∀ (Y w5 : World) (y1 y2 y3 : Int) (g cp : Nat) (x19 x22 x25 : Value), KB p a len cap w B P s (.slice ra n rc) n ls (T0 + 1 + 1 + 1) Y → w5.cell? ⟨P, 0, none⟩ = some (.int .i64 s) → w5.cell? ⟨P, 1, none⟩ = some (.slice ra n rc) → w5.frozen? ⟨P, 1, none⟩ = false → w5.ownsRow B 45 3 (.slice (some ⟨g, 0, none⟩) (n + 1) cp) (n + 1) (vs3 (ls ++ [(y1, y2, y3)])) → g ≠ P → Below B Y w5 → Q .normal ⟨#[.pointer (some ⟨p, 0, none⟩), h1, h2, .pointer (some ⟨P, 0, none⟩), h4, h5, h6, h7, h8, h9, h10, h11, h12, h13, h14, h15, .pointer (some ⟨P, 1, none⟩), .slice ra n rc, .pointer (some ⟨p, 0, none⟩), x19, .int .i64 y1, .pointer (some ⟨p, 0, none⟩), x22, .int .i64 y2, .pointer (some ⟨p, 0, none⟩), x25, .int .i64 y3, .agg #[.int .i64 y1, .int .i64 y2, .int .i64 y3], .slice (some ⟨Y.heap.size, 0, none⟩) 1 1, .slice (some ⟨g, 0, none⟩) (n + 1) cp, .pointer (some ⟨P, 1, none⟩), x31], []⟩ (w5.setCell ⟨P, 1, none⟩ (.slice (some ⟨g, 0, none⟩) (n + 1) cp))) (X : World) (hk : KB p a len cap w B P s (.slice ra n rc) n ls (T0) X) (g1 : Nat) (b1 : Bu p X g1 0 4) (g2 : Nat) (b2 : Bu p X g2 0 7) (x17 x20 x23 x25 x26 : Value) (L : Array Bool) (hL : L = #[true, false, true, true, false, true, true, false, true, false, false, false, false, false, false, false]) :
    wpAny Tryz.prog .any ops6 Q 10 L ⟨#[.pointer (some ⟨p, 0, none⟩), h1, h2, .pointer (some ⟨P, 0, none⟩), h4, h5, h6, h7, h8, h9, h10, h11, h12, h13, h14, h15, .pointer (some ⟨P, 1, none⟩), x17, .pointer (some ⟨p, 0, none⟩), .slice (some ⟨g1, 0, none⟩) 2 2, x20, .pointer (some ⟨p, 0, none⟩), .slice (some ⟨g2, 0, none⟩) 2 2, x23, .pointer (some ⟨p, 0, none⟩), x25, x26, x27, x28, x29, x30, x31], []⟩ X := by
  subst hL
  have hp : p < X.heap.size := hk.src.1
  have c1 := hk.cv.c1
  refine wpAny_ready (rs := [1, 4, 9]) (by kernel_rfl) (by simp) ?_
  refine AllReady.cons (o := { dst := some 17, op := Go.Op.load 24 (Go.Operand.tmp 16), type := 24, pos := "l04_cache.go:162", after := #[{ on := 0, ground := Go.Ground.data }], guard := none }) rfl (fun K hK => ?_) ?_
  · go_simp
    refine hK _ _ ?_
    exact bent_012L hT hpB hn hpan hQ X hk _ b1 _ b2 _ _ _ _ _ (by kernel_rfl)
  refine AllReady.cons (o := { dst := some 20, op := Go.Op.call { callee := Go.Callee.value (Go.Operand.func 21), args := #[Go.Operand.tmp 18, Go.Operand.tmp 19], argTypes := #[50, 38] }, type := 2, pos := "l04_cache.go:162", after := #[{ on := 2, ground := Go.Ground.data }, { on := 3, ground := Go.Ground.data }], guard := none }) rfl (fun K hK => ?_) ?_
  · go_simp
    go_at_call 21
    refine (pickB g1 0 4 hk (by omega) hpB b1.1 b1.2.1 b1.2.2).mono ?_
    rintro e u ⟨y, rfl, kb, hz, hc⟩
    try go_simp
    refine hK _ _ ?_
    exact bent_12z hT hpB hn hpan hQ _ kb _ _ (b2.keep hc) _ _ _ _ _ _ (by kernel_rfl)
  refine AllReady.cons (o := { dst := some 25, op := Go.Op.buildSlice 38 2 #[(0, Go.Operand.const (Go.Value.int Go.IntKind.i64 7)), (1, Go.Operand.const (Go.Value.int Go.IntKind.i64 8))], type := 38, pos := "l04_cache.go:162", after := #[], guard := none }) rfl (fun K hK => ?_) ?_
  · go_simp
    refine hK _ _ ?_
    exact bent_0123z hT hpB hn hpan hQ _ (hk.alloc _) _ (b1.alloc _) _ (b2.alloc _) _ (Bu.new hp _ _ _) _ _ _ _ _ (by kernel_rfl)
  exact AllReady.nil

theorem bent_013L (hT : T0 ≤ 999000) (hpB : p < B) (hn : n ≤ 6) (hpan : ∀ c (x y : Act) z, x.defers = y.defers → Q (.panic c) x z → Q (.panic c) y z) (hQ : ∀ (Y w5 : World) (y1 y2 y3 : Int) (g cp : Nat) (x19 x22 x25 : Value), KB p a len cap w B P s (.slice ra n rc) n ls (T0 + 1 + 1 + 1) Y → w5.cell? ⟨P, 0, none⟩ = some (.int .i64 s) → w5.cell? ⟨P, 1, none⟩ = some (.slice ra n rc) → w5.frozen? ⟨P, 1, none⟩ = false → w5.ownsRow B 45 3 (.slice (some ⟨g, 0, none⟩) (n + 1) cp) (n + 1) (vs3 (ls ++ [(y1, y2, y3)])) → g ≠ P → Below B Y w5 → Q .normal ⟨#[.pointer (some ⟨p, 0, none⟩), h1, h2, .pointer (some ⟨P, 0, none⟩), h4, h5, h6, h7, h8, h9, h10, h11, h12, h13, h14, h15, .pointer (some ⟨P, 1, none⟩), .slice ra n rc, .pointer (some ⟨p, 0, none⟩), x19, .int .i64 y1, .pointer (some ⟨p, 0, none⟩), x22, .int .i64 y2, .pointer (some ⟨p, 0, none⟩), x25, .int .i64 y3, .agg #[.int .i64 y1, .int .i64 y2, .int .i64 y3], .slice (some ⟨Y.heap.size, 0, none⟩) 1 1, .slice (some ⟨g, 0, none⟩) (n + 1) cp, .pointer (some ⟨P, 1, none⟩), x31], []⟩ (w5.setCell ⟨P, 1, none⟩ (.slice (some ⟨g, 0, none⟩) (n + 1) cp))) (X : World) (hk : KB p a len cap w B P s (.slice ra n rc) n ls (T0) X) (g1 : Nat) (b1 : Bu p X g1 0 4) (g3 : Nat) (b3 : Bu p X g3 7 8) (x20 x22 x23 x26 : Value) (L : Array Bool) (hL : L = #[true, true, true, true, false, true, false, false, true, true, false, false, false, false, false, false]) :
    wpAny Tryz.prog .any ops6 Q 9 L ⟨#[.pointer (some ⟨p, 0, none⟩), h1, h2, .pointer (some ⟨P, 0, none⟩), h4, h5, h6, h7, h8, h9, h10, h11, h12, h13, h14, h15, .pointer (some ⟨P, 1, none⟩), .slice ra n rc, .pointer (some ⟨p, 0, none⟩), .slice (some ⟨g1, 0, none⟩) 2 2, x20, .pointer (some ⟨p, 0, none⟩), x22, x23, .pointer (some ⟨p, 0, none⟩), .slice (some ⟨g3, 0, none⟩) 2 2, x26, x27, x28, x29, x30, x31], []⟩ X := by
  subst hL
  have hp : p < X.heap.size := hk.src.1
  refine wpAny_ready (rs := [4, 6]) (by kernel_rfl) (by simp) ?_
  refine AllReady.cons (o := { dst := some 20, op := Go.Op.call { callee := Go.Callee.value (Go.Operand.func 21), args := #[Go.Operand.tmp 18, Go.Operand.tmp 19], argTypes := #[50, 38] }, type := 2, pos := "l04_cache.go:162", after := #[{ on := 2, ground := Go.Ground.data }, { on := 3, ground := Go.Ground.data }], guard := none }) rfl (fun K hK => ?_) ?_
  · go_simp
    go_at_call 21
    refine (pickB g1 0 4 hk (by omega) hpB b1.1 b1.2.1 b1.2.2).mono ?_
    rintro e u ⟨y, rfl, kb, hz, hc⟩
    try go_simp
    refine hK _ _ ?_
    exact bent_13L hT hpB hn hpan hQ _ kb _ _ (b3.keep hc) _ _ _ _ _ (by kernel_rfl)
  refine AllReady.cons (o := { dst := some 22, op := Go.Op.buildSlice 38 2 #[(0, Go.Operand.const (Go.Value.int Go.IntKind.i64 0)), (1, Go.Operand.const (Go.Value.int Go.IntKind.i64 7))], type := 38, pos := "l04_cache.go:162", after := #[], guard := none }) rfl (fun K hK => ?_) ?_
  · go_simp
    refine hK _ _ ?_
    exact bent_0123L hT hpB hn hpan hQ _ (hk.alloc _) _ (b1.alloc _) _ (Bu.new hp _ _ _) _ (b3.alloc _) _ _ _ _ (by kernel_rfl)
  exact AllReady.nil

theorem bent_013z (hT : T0 ≤ 999000) (hpB : p < B) (hn : n ≤ 6) (hpan : ∀ c (x y : Act) z, x.defers = y.defers → Q (.panic c) x z → Q (.panic c) y z) (hQ : ∀ (Y w5 : World) (y1 y2 y3 : Int) (g cp : Nat) (x19 x22 x25 : Value), KB p a len cap w B P s (.slice ra n rc) n ls (T0 + 1 + 1 + 1) Y → w5.cell? ⟨P, 0, none⟩ = some (.int .i64 s) → w5.cell? ⟨P, 1, none⟩ = some (.slice ra n rc) → w5.frozen? ⟨P, 1, none⟩ = false → w5.ownsRow B 45 3 (.slice (some ⟨g, 0, none⟩) (n + 1) cp) (n + 1) (vs3 (ls ++ [(y1, y2, y3)])) → g ≠ P → Below B Y w5 → Q .normal ⟨#[.pointer (some ⟨p, 0, none⟩), h1, h2, .pointer (some ⟨P, 0, none⟩), h4, h5, h6, h7, h8, h9, h10, h11, h12, h13, h14, h15, .pointer (some ⟨P, 1, none⟩), .slice ra n rc, .pointer (some ⟨p, 0, none⟩), x19, .int .i64 y1, .pointer (some ⟨p, 0, none⟩), x22, .int .i64 y2, .pointer (some ⟨p, 0, none⟩), x25, .int .i64 y3, .agg #[.int .i64 y1, .int .i64 y2, .int .i64 y3], .slice (some ⟨Y.heap.size, 0, none⟩) 1 1, .slice (some ⟨g, 0, none⟩) (n + 1) cp, .pointer (some ⟨P, 1, none⟩), x31], []⟩ (w5.setCell ⟨P, 1, none⟩ (.slice (some ⟨g, 0, none⟩) (n + 1) cp))) (X : World) (hk : KB p a len cap w B P s (.slice ra n rc) n ls (T0) X) (g1 : Nat) (b1 : Bu p X g1 0 4) (g3 : Nat) (b3 : Bu p X g3 7 8) (x17 x20 x22 x23 x26 : Value) (L : Array Bool) (hL : L = #[true, false, true, true, false, true, false, false, true, true, false, false, false, false, false, false]) :
    wpAny Tryz.prog .any ops6 Q 10 L ⟨#[.pointer (some ⟨p, 0, none⟩), h1, h2, .pointer (some ⟨P, 0, none⟩), h4, h5, h6, h7, h8, h9, h10, h11, h12, h13, h14, h15, .pointer (some ⟨P, 1, none⟩), x17, .pointer (some ⟨p, 0, none⟩), .slice (some ⟨g1, 0, none⟩) 2 2, x20, .pointer (some ⟨p, 0, none⟩), x22, x23, .pointer (some ⟨p, 0, none⟩), .slice (some ⟨g3, 0, none⟩) 2 2, x26, x27, x28, x29, x30, x31], []⟩ X := by
  subst hL
  have hp : p < X.heap.size := hk.src.1
  have c1 := hk.cv.c1
  refine wpAny_ready (rs := [1, 4, 6]) (by kernel_rfl) (by simp) ?_
  refine AllReady.cons (o := { dst := some 17, op := Go.Op.load 24 (Go.Operand.tmp 16), type := 24, pos := "l04_cache.go:162", after := #[{ on := 0, ground := Go.Ground.data }], guard := none }) rfl (fun K hK => ?_) ?_
  · go_simp
    refine hK _ _ ?_
    exact bent_013L hT hpB hn hpan hQ X hk _ b1 _ b3 _ _ _ _ _ (by kernel_rfl)
  refine AllReady.cons (o := { dst := some 20, op := Go.Op.call { callee := Go.Callee.value (Go.Operand.func 21), args := #[Go.Operand.tmp 18, Go.Operand.tmp 19], argTypes := #[50, 38] }, type := 2, pos := "l04_cache.go:162", after := #[{ on := 2, ground := Go.Ground.data }, { on := 3, ground := Go.Ground.data }], guard := none }) rfl (fun K hK => ?_) ?_
  · go_simp
    go_at_call 21
    refine (pickB g1 0 4 hk (by omega) hpB b1.1 b1.2.1 b1.2.2).mono ?_
    rintro e u ⟨y, rfl, kb, hz, hc⟩
    try go_simp
    refine hK _ _ ?_
    exact bent_13z hT hpB hn hpan hQ _ kb _ _ (b3.keep hc) _ _ _ _ _ _ (by kernel_rfl)
  refine AllReady.cons (o := { dst := some 22, op := Go.Op.buildSlice 38 2 #[(0, Go.Operand.const (Go.Value.int Go.IntKind.i64 0)), (1, Go.Operand.const (Go.Value.int Go.IntKind.i64 7))], type := 38, pos := "l04_cache.go:162", after := #[], guard := none }) rfl (fun K hK => ?_) ?_
  · go_simp
    refine hK _ _ ?_
    exact bent_0123z hT hpB hn hpan hQ _ (hk.alloc _) _ (b1.alloc _) _ (Bu.new hp _ _ _) _ (b3.alloc _) _ _ _ _ _ (by kernel_rfl)
  exact AllReady.nil

theorem bent_023L (hT : T0 ≤ 999000) (hpB : p < B) (hn : n ≤ 6) (hpan : ∀ c (x y : Act) z, x.defers = y.defers → Q (.panic c) x z → Q (.panic c) y z) (hQ : ∀ (Y w5 : World) (y1 y2 y3 : Int) (g cp : Nat) (x19 x22 x25 : Value), KB p a len cap w B P s (.slice ra n rc) n ls (T0 + 1 + 1 + 1) Y → w5.cell? ⟨P, 0, none⟩ = some (.int .i64 s) → w5.cell? ⟨P, 1, none⟩ = some (.slice ra n rc) → w5.frozen? ⟨P, 1, none⟩ = false → w5.ownsRow B 45 3 (.slice (some ⟨g, 0, none⟩) (n + 1) cp) (n + 1) (vs3 (ls ++ [(y1, y2, y3)])) → g ≠ P → Below B Y w5 → Q .normal ⟨#[.pointer (some ⟨p, 0, none⟩), h1, h2, .pointer (some ⟨P, 0, none⟩), h4, h5, h6, h7, h8, h9, h10, h11, h12, h13, h14, h15, .pointer (some ⟨P, 1, none⟩), .slice ra n rc, .pointer (some ⟨p, 0, none⟩), x19, .int .i64 y1, .pointer (some ⟨p, 0, none⟩), x22, .int .i64 y2, .pointer (some ⟨p, 0, none⟩), x25, .int .i64 y3, .agg #[.int .i64 y1, .int .i64 y2, .int .i64 y3], .slice (some ⟨Y.heap.size, 0, none⟩) 1 1, .slice (some ⟨g, 0, none⟩) (n + 1) cp, .pointer (some ⟨P, 1, none⟩), x31], []⟩ (w5.setCell ⟨P, 1, none⟩ (.slice (some ⟨g, 0, none⟩) (n + 1) cp))) (X : World) (hk : KB p a len cap w B P s (.slice ra n rc) n ls (T0) X) (g2 : Nat) (b2 : Bu p X g2 0 7) (g3 : Nat) (b3 : Bu p X g3 7 8) (x19 x20 x23 x26 : Value) (L : Array Bool) (hL : L = #[true, true, true, false, false, true, true, false, true, true, false, false, false, false, false, false]) :
    wpAny Tryz.prog .any ops6 Q 9 L ⟨#[.pointer (some ⟨p, 0, none⟩), h1, h2, .pointer (some ⟨P, 0, none⟩), h4, h5, h6, h7, h8, h9, h10, h11, h12, h13, h14, h15, .pointer (some ⟨P, 1, none⟩), .slice ra n rc, .pointer (some ⟨p, 0, none⟩), x19, x20, .pointer (some ⟨p, 0, none⟩), .slice (some ⟨g2, 0, none⟩) 2 2, x23, .pointer (some ⟨p, 0, none⟩), .slice (some ⟨g3, 0, none⟩) 2 2, x26, x27, x28, x29, x30, x31], []⟩ X := by
  subst hL
  have hp : p < X.heap.size := hk.src.1
  refine wpAny_ready (rs := [3]) (by kernel_rfl) (by simp) ?_
  refine AllReady.cons (o := { dst := some 19, op := Go.Op.buildSlice 38 2 #[(0, Go.Operand.const (Go.Value.int Go.IntKind.i64 0)), (1, Go.Operand.const (Go.Value.int Go.IntKind.i64 4))], type := 38, pos := "l04_cache.go:162", after := #[], guard := none }) rfl (fun K hK => ?_) ?_
  · go_simp
    refine hK _ _ ?_
    exact bent_0123L hT hpB hn hpan hQ _ (hk.alloc _) _ (Bu.new hp _ _ _) _ (b2.alloc _) _ (b3.alloc _) _ _ _ _ (by kernel_rfl)
  exact AllReady.nil

theorem bent_023z (hT : T0 ≤ 999000) (hpB : p < B) (hn : n ≤ 6) (hpan : ∀ c (x y : Act) z, x.defers = y.defers → Q (.panic c) x z → Q (.panic c) y z) (hQ : ∀ (Y w5 : World) (y1 y2 y3 : Int) (g cp : Nat) (x19 x22 x25 : Value), KB p a len cap w B P s (.slice ra n rc) n ls (T0 + 1 + 1 + 1) Y → w5.cell? ⟨P, 0, none⟩ = some (.int .i64 s) → w5.cell? ⟨P, 1, none⟩ = some (.slice ra n rc) → w5.frozen? ⟨P, 1, none⟩ = false → w5.ownsRow B 45 3 (.slice (some ⟨g, 0, none⟩) (n + 1) cp) (n + 1) (vs3 (ls ++ [(y1, y2, y3)])) → g ≠ P → Below B Y w5 → Q .normal ⟨#[.pointer (some ⟨p, 0, none⟩), h1, h2, .pointer (some ⟨P, 0, none⟩), h4, h5, h6, h7, h8, h9, h10, h11, h12, h13, h14, h15, .pointer (some ⟨P, 1, none⟩), .slice ra n rc, .pointer (some ⟨p, 0, none⟩), x19, .int .i64 y1, .pointer (some ⟨p, 0, none⟩), x22, .int .i64 y2, .pointer (some ⟨p, 0, none⟩), x25, .int .i64 y3, .agg #[.int .i64 y1, .int .i64 y2, .int .i64 y3], .slice (some ⟨Y.heap.size, 0, none⟩) 1 1, .slice (some ⟨g, 0, none⟩) (n + 1) cp, .pointer (some ⟨P, 1, none⟩), x31], []⟩ (w5.setCell ⟨P, 1, none⟩ (.slice (some ⟨g, 0, none⟩) (n + 1) cp))) (X : World) (hk : KB p a len cap w B P s (.slice ra n rc) n ls (T0) X) (g2 : Nat) (b2 : Bu p X g2 0 7) (g3 : Nat) (b3 : Bu p X g3 7 8) (x17 x19 x20 x23 x26 : Value) (L : Array Bool) (hL : L = #[true, false, true, false, false, true, true, false, true, true, false, false, false, false, false, false]) :
    wpAny Tryz.prog .any ops6 Q 10 L ⟨#[.pointer (some ⟨p, 0, none⟩), h1, h2, .pointer (some ⟨P, 0, none⟩), h4, h5, h6, h7, h8, h9, h10, h11, h12, h13, h14, h15, .pointer (some ⟨P, 1, none⟩), x17, .pointer (some ⟨p, 0, none⟩), x19, x20, .pointer (some ⟨p, 0, none⟩), .slice (some ⟨g2, 0, none⟩) 2 2, x23, .pointer (some ⟨p, 0, none⟩), .slice (some ⟨g3, 0, none⟩) 2 2, x26, x27, x28, x29, x30, x31], []⟩ X := by
  subst hL
  have hp : p < X.heap.size := hk.src.1
  have c1 := hk.cv.c1
  refine wpAny_ready (rs := [1, 3]) (by kernel_rfl) (by simp) ?_
  refine AllReady.cons (o := { dst := some 17, op := Go.Op.load 24 (Go.Operand.tmp 16), type := 24, pos := "l04_cache.go:162", after := #[{ on := 0, ground := Go.Ground.data }], guard := none }) rfl (fun K hK => ?_) ?_
  · go_simp
    refine hK _ _ ?_
    exact bent_023L hT hpB hn hpan hQ X hk _ b2 _ b3 _ _ _ _ _ (by kernel_rfl)
  refine AllReady.cons (o := { dst := some 19, op := Go.Op.buildSlice 38 2 #[(0, Go.Operand.const (Go.Value.int Go.IntKind.i64 0)), (1, Go.Operand.const (Go.Value.int Go.IntKind.i64 4))], type := 38, pos := "l04_cache.go:162", after := #[], guard := none }) rfl (fun K hK => ?_) ?_
  · go_simp
    refine hK _ _ ?_
    exact bent_0123z hT hpB hn hpan hQ _ (hk.alloc _) _ (Bu.new hp _ _ _) _ (b2.alloc _) _ (b3.alloc _) _ _ _ _ _ (by kernel_rfl)
  exact AllReady.nil

theorem bent_01L (hT : T0 ≤ 999000) (hpB : p < B) (hn : n ≤ 6) (hpan : ∀ c (x y : Act) z, x.defers = y.defers → Q (.panic c) x z → Q (.panic c) y z) (hQ : ∀ (Y w5 : World) (y1 y2 y3 : Int) (g cp : Nat) (x19 x22 x25 : Value), KB p a len cap w B P s (.slice ra n rc) n ls (T0 + 1 + 1 + 1) Y → w5.cell? ⟨P, 0, none⟩ = some (.int .i64 s) → w5.cell? ⟨P, 1, none⟩ = some (.slice ra n rc) → w5.frozen? ⟨P, 1, none⟩ = false → w5.ownsRow B 45 3 (.slice (some ⟨g, 0, none⟩) (n + 1) cp) (n + 1) (vs3 (ls ++ [(y1, y2, y3)])) → g ≠ P → Below B Y w5 → Q .normal ⟨#[.pointer (some ⟨p, 0, none⟩), h1, h2, .pointer (some ⟨P, 0, none⟩), h4, h5, h6, h7, h8, h9, h10, h11, h12, h13, h14, h15, .pointer (some ⟨P, 1, none⟩), .slice ra n rc, .pointer (some ⟨p, 0, none⟩), x19, .int .i64 y1, .pointer (some ⟨p, 0, none⟩), x22, .int .i64 y2, .pointer (some ⟨p, 0, none⟩), x25, .int .i64 y3, .agg #[.int .i64 y1, .int .i64 y2, .int .i64 y3], .slice (some ⟨Y.heap.size, 0, none⟩) 1 1, .slice (some ⟨g, 0, none⟩) (n + 1) cp, .pointer (some ⟨P, 1, none⟩), x31], []⟩ (w5.setCell ⟨P, 1, none⟩ (.slice (some ⟨g, 0, none⟩) (n + 1) cp))) (X : World) (hk : KB p a len cap w B P s (.slice ra n rc) n ls (T0) X) (g1 : Nat) (b1 : Bu p X g1 0 4) (x20 x22 x23 x25 x26 : Value) (L : Array Bool) (hL : L = #[true, true, true, true, false, true, false, false, true, false, false, false, false, false, false, false]) :
    wpAny Tryz.prog .any ops6 Q 10 L ⟨#[.pointer (some ⟨p, 0, none⟩), h1, h2, .pointer (some ⟨P, 0, none⟩), h4, h5, h6, h7, h8, h9, h10, h11, h12, h13, h14, h15, .pointer (some ⟨P, 1, none⟩), .slice ra n rc, .pointer (some ⟨p, 0, none⟩), .slice (some ⟨g1, 0, none⟩) 2 2, x20, .pointer (some ⟨p, 0, none⟩), x22, x23, .pointer (some ⟨p, 0, none⟩), x25, x26, x27, x28, x29, x30, x31], []⟩ X := by
  subst hL
  have hp : p < X.heap.size := hk.src.1
  refine wpAny_ready (rs := [4, 6, 9]) (by kernel_rfl) (by simp) ?_
  refine AllReady.cons (o := { dst := some 20, op := Go.Op.call { callee := Go.Callee.value (Go.Operand.func 21), args := #[Go.Operand.tmp 18, Go.Operand.tmp 19], argTypes := #[50, 38] }, type := 2, pos := "l04_cache.go:162", after := #[{ on := 2, ground := Go.Ground.data }, { on := 3, ground := Go.Ground.data }], guard := none }) rfl (fun K hK => ?_) ?_
  · go_simp
    go_at_call 21
    refine (pickB g1 0 4 hk (by omega) hpB b1.1 b1.2.1 b1.2.2).mono ?_
    rintro e u ⟨y, rfl, kb, hz, hc⟩
    try go_simp
    refine hK _ _ ?_
    exact bent_1nL hT hpB hn hpan hQ _ kb _ _ _ _ _ _ _ (by kernel_rfl)
  refine AllReady.cons (o := { dst := some 22, op := Go.Op.buildSlice 38 2 #[(0, Go.Operand.const (Go.Value.int Go.IntKind.i64 0)), (1, Go.Operand.const (Go.Value.int Go.IntKind.i64 7))], type := 38, pos := "l04_cache.go:162", after := #[], guard := none }) rfl (fun K hK => ?_) ?_
  · go_simp
    refine hK _ _ ?_
    exact bent_012L hT hpB hn hpan hQ _ (hk.alloc _) _ (b1.alloc _) _ (Bu.new hp _ _ _) _ _ _ _ _ (by kernel_rfl)
  refine AllReady.cons (o := { dst := some 25, op := Go.Op.buildSlice 38 2 #[(0, Go.Operand.const (Go.Value.int Go.IntKind.i64 7)), (1, Go.Operand.const (Go.Value.int Go.IntKind.i64 8))], type := 38, pos := "l04_cache.go:162", after := #[], guard := none }) rfl (fun K hK => ?_) ?_
  · go_simp
    refine hK _ _ ?_
    exact bent_013L hT hpB hn hpan hQ _ (hk.alloc _) _ (b1.alloc _) _ (Bu.new hp _ _ _) _ _ _ _ _ (by kernel_rfl)
  exact AllReady.nil

theorem bent_01z (hT : T0 ≤ 999000) (hpB : p < B) (hn : n ≤ 6) (hpan : ∀ c (x y : Act) z, x.defers = y.defers → Q (.panic c) x z → Q (.panic c) y z) (hQ : ∀ (Y w5 : World) (y1 y2 y3 : Int) (g cp : Nat) (x19 x22 x25 : Value), KB p a len cap w B P s (.slice ra n rc) n ls (T0 + 1 + 1 + 1) Y → w5.cell? ⟨P, 0, none⟩ = some (.int .i64 s) → w5.cell? ⟨P, 1, none⟩ = some (.slice ra n rc) → w5.frozen? ⟨P, 1, none⟩ = false → w5.ownsRow B 45 3 (.slice (some ⟨g, 0, none⟩) (n + 1) cp) (n + 1) (vs3 (ls ++ [(y1, y2, y3)])) → g ≠ P → Below B Y w5 → Q .normal ⟨#[.pointer (some ⟨p, 0, none⟩), h1, h2, .pointer (some ⟨P, 0, none⟩), h4, h5, h6, h7, h8, h9, h10, h11, h12, h13, h14, h15, .pointer (some ⟨P, 1, none⟩), .slice ra n rc, .pointer (some ⟨p, 0, none⟩), x19, .int .i64 y1, .pointer (some ⟨p, 0, none⟩), x22, .int .i64 y2, .pointer (some ⟨p, 0, none⟩), x25, .int .i64 y3, .agg #[.int .i64 y1, .int .i64 y2, .int .i64 y3], .slice (some ⟨Y.heap.size, 0, none⟩) 1 1, .slice (some ⟨g, 0, none⟩) (n + 1) cp, .pointer (some ⟨P, 1, none⟩), x31], []⟩ (w5.setCell ⟨P, 1, none⟩ (.slice (some ⟨g, 0, none⟩) (n + 1) cp))) (X : World) (hk : KB p a len cap w B P s (.slice ra n rc) n ls (T0) X) (g1 : Nat) (b1 : Bu p X g1 0 4) (x17 x20 x22 x23 x25 x26 : Value) (L : Array Bool) (hL : L = #[true, false, true, true, false, true, false, false, true, false, false, false, false, false, false, false]) :
    wpAny Tryz.prog .any ops6 Q 11 L ⟨#[.pointer (some ⟨p, 0, none⟩), h1, h2, .pointer (some ⟨P, 0, none⟩), h4, h5, h6, h7, h8, h9, h10, h11, h12, h13, h14, h15, .pointer (some ⟨P, 1, none⟩), x17, .pointer (some ⟨p, 0, none⟩), .slice (some ⟨g1, 0, none⟩) 2 2, x20, .pointer (some ⟨p, 0, none⟩), x22, x23, .pointer (some ⟨p, 0, none⟩), x25, x26, x27, x28, x29, x30, x31], []⟩ X := by
  subst hL
  have hp : p < X.heap.size := hk.src.1
  have c1 := hk.cv.c1
  refine wpAny_ready (rs := [1, 4, 6, 9]) (by kernel_rfl) (by simp) ?_
  refine AllReady.cons (o := { dst := some 17, op := Go.Op.load 24 (Go.Operand.tmp 16), type := 24, pos := "l04_cache.go:162", after := #[{ on := 0, ground := Go.Ground.data }], guard := none }) rfl (fun K hK => ?_) ?_
  · go_simp
    refine hK _ _ ?_
    exact bent_01L hT hpB hn hpan hQ X hk _ b1 _ _ _ _ _ _ (by kernel_rfl)
  refine AllReady.cons (o := { dst := some 20, op := Go.Op.call { callee := Go.Callee.value (Go.Operand.func 21), args := #[Go.Operand.tmp 18, Go.Operand.tmp 19], argTypes := #[50, 38] }, type := 2, pos := "l04_cache.go:162", after := #[{ on := 2, ground := Go.Ground.data }, { on := 3, ground := Go.Ground.data }], guard := none }) rfl (fun K hK => ?_) ?_
  · go_simp
    go_at_call 21
    refine (pickB g1 0 4 hk (by omega) hpB b1.1 b1.2.1 b1.2.2).mono ?_
    rintro e u ⟨y, rfl, kb, hz, hc⟩
    try go_simp
    refine hK _ _ ?_
    exact bent_1nz hT hpB hn hpan hQ _ kb _ _ _ _ _ _ _ _ (by kernel_rfl)
  refine AllReady.cons (o := { dst := some 22, op := Go.Op.buildSlice 38 2 #[(0, Go.Operand.const (Go.Value.int Go.IntKind.i64 0)), (1, Go.Operand.const (Go.Value.int Go.IntKind.i64 7))], type := 38, pos := "l04_cache.go:162", after := #[], guard := none }) rfl (fun K hK => ?_) ?_
  · go_simp
    refine hK _ _ ?_
    exact bent_012z hT hpB hn hpan hQ _ (hk.alloc _) _ (b1.alloc _) _ (Bu.new hp _ _ _) _ _ _ _ _ _ (by kernel_rfl)
  refine AllReady.cons (o := { dst := some 25, op := Go.Op.buildSlice 38 2 #[(0, Go.Operand.const (Go.Value.int Go.IntKind.i64 7)), (1, Go.Operand.const (Go.Value.int Go.IntKind.i64 8))], type := 38, pos := "l04_cache.go:162", after := #[], guard := none }) rfl (fun K hK => ?_) ?_
  · go_simp
    refine hK _ _ ?_
    exact bent_013z hT hpB hn hpan hQ _ (hk.alloc _) _ (b1.alloc _) _ (Bu.new hp _ _ _) _ _ _ _ _ _ (by kernel_rfl)
  exact AllReady.nil

theorem bent_02L (hT : T0 ≤ 999000) (hpB : p < B) (hn : n ≤ 6) (hpan : ∀ c (x y : Act) z, x.defers = y.defers → Q (.panic c) x z → Q (.panic c) y z) (hQ : ∀ (Y w5 : World) (y1 y2 y3 : Int) (g cp : Nat) (x19 x22 x25 : Value), KB p a len cap w B P s (.slice ra n rc) n ls (T0 + 1 + 1 + 1) Y → w5.cell? ⟨P, 0, none⟩ = some (.int .i64 s) → w5.cell? ⟨P, 1, none⟩ = some (.slice ra n rc) → w5.frozen? ⟨P, 1, none⟩ = false → w5.ownsRow B 45 3 (.slice (some ⟨g, 0, none⟩) (n + 1) cp) (n + 1) (vs3 (ls ++ [(y1, y2, y3)])) → g ≠ P → Below B Y w5 → Q .normal ⟨#[.pointer (some ⟨p, 0, none⟩), h1, h2, .pointer (some ⟨P, 0, none⟩), h4, h5, h6, h7, h8, h9, h10, h11, h12, h13, h14, h15, .pointer (some ⟨P, 1, none⟩), .slice ra n rc, .pointer (some ⟨p, 0, none⟩), x19, .int .i64 y1, .pointer (some ⟨p, 0, none⟩), x22, .int .i64 y2, .pointer (some ⟨p, 0, none⟩), x25, .int .i64 y3, .agg #[.int .i64 y1, .int .i64 y2, .int .i64 y3], .slice (some ⟨Y.heap.size, 0, none⟩) 1 1, .slice (some ⟨g, 0, none⟩) (n + 1) cp, .pointer (some ⟨P, 1, none⟩), x31], []⟩ (w5.setCell ⟨P, 1, none⟩ (.slice (some ⟨g, 0, none⟩) (n + 1) cp))) (X : World) (hk : KB p a len cap w B P s (.slice ra n rc) n ls (T0) X) (g2 : Nat) (b2 : Bu p X g2 0 7) (x19 x20 x23 x25 x26 : Value) (L : Array Bool) (hL : L = #[true, true, true, false, false, true, true, false, true, false, false, false, false, false, false, false]) :
    wpAny Tryz.prog .any ops6 Q 10 L ⟨#[.pointer (some ⟨p, 0, none⟩), h1, h2, .pointer (some ⟨P, 0, none⟩), h4, h5, h6, h7, h8, h9, h10, h11, h12, h13, h14, h15, .pointer (some ⟨P, 1, none⟩), .slice ra n rc, .pointer (some ⟨p, 0, none⟩), x19, x20, .pointer (some ⟨p, 0, none⟩), .slice (some ⟨g2, 0, none⟩) 2 2, x23, .pointer (some ⟨p, 0, none⟩), x25, x26, x27, x28, x29, x30, x31], []⟩ X := by
  subst hL
  have hp : p < X.heap.size := hk.src.1
  refine wpAny_ready (rs := [3, 9]) (by kernel_rfl) (by simp) ?_
  refine AllReady.cons (o := { dst := some 19, op := Go.Op.buildSlice 38 2 #[(0, Go.Operand.const (Go.Value.int Go.IntKind.i64 0)), (1, Go.Operand.const (Go.Value.int Go.IntKind.i64 4))], type := 38, pos := "l04_cache.go:162", after := #[], guard := none }) rfl (fun K hK => ?_) ?_
  · go_simp
    refine hK _ _ ?_
    exact bent_012L hT hpB hn hpan hQ _ (hk.alloc _) _ (Bu.new hp _ _ _) _ (b2.alloc _) _ _ _ _ _ (by kernel_rfl)
  refine AllReady.cons (o := { dst := some 25, op := Go.Op.buildSlice 38 2 #[(0, Go.Operand.const (Go.Value.int Go.IntKind.i64 7)), (1, Go.Operand.const (Go.Value.int Go.IntKind.i64 8))], type := 38, pos := "l04_cache.go:162", after := #[], guard := none }) rfl (fun K hK => ?_) ?_
  · go_simp
    refine hK _ _ ?_
    exact bent_023L hT hpB hn hpan hQ _ (hk.alloc _) _ (b2.alloc _) _ (Bu.new hp _ _ _) _ _ _ _ _ (by kernel_rfl)
  exact AllReady.nil

theorem bent_02z (hT : T0 ≤ 999000) (hpB : p < B) (hn : n ≤ 6) (hpan : ∀ c (x y : Act) z, x.defers = y.defers → Q (.panic c) x z → Q (.panic c) y z) (hQ : ∀ (Y w5 : World) (y1 y2 y3 : Int) (g cp : Nat) (x19 x22 x25 : Value), KB p a len cap w B P s (.slice ra n rc) n ls (T0 + 1 + 1 + 1) Y → w5.cell? ⟨P, 0, none⟩ = some (.int .i64 s) → w5.cell? ⟨P, 1, none⟩ = some (.slice ra n rc) → w5.frozen? ⟨P, 1, none⟩ = false → w5.ownsRow B 45 3 (.slice (some ⟨g, 0, none⟩) (n + 1) cp) (n + 1) (vs3 (ls ++ [(y1, y2, y3)])) → g ≠ P → Below B Y w5 → Q .normal ⟨#[.pointer (some ⟨p, 0, none⟩), h1, h2, .pointer (some ⟨P, 0, none⟩), h4, h5, h6, h7, h8, h9, h10, h11, h12, h13, h14, h15, .pointer (some ⟨P, 1, none⟩), .slice ra n rc, .pointer (some ⟨p, 0, none⟩), x19, .int .i64 y1, .pointer (some ⟨p, 0, none⟩), x22, .int .i64 y2, .pointer (some ⟨p, 0, none⟩), x25, .int .i64 y3, .agg #[.int .i64 y1, .int .i64 y2, .int .i64 y3], .slice (some ⟨Y.heap.size, 0, none⟩) 1 1, .slice (some ⟨g, 0, none⟩) (n + 1) cp, .pointer (some ⟨P, 1, none⟩), x31], []⟩ (w5.setCell ⟨P, 1, none⟩ (.slice (some ⟨g, 0, none⟩) (n + 1) cp))) (X : World) (hk : KB p a len cap w B P s (.slice ra n rc) n ls (T0) X) (g2 : Nat) (b2 : Bu p X g2 0 7) (x17 x19 x20 x23 x25 x26 : Value) (L : Array Bool) (hL : L = #[true, false, true, false, false, true, true, false, true, false, false, false, false, false, false, false]) :
    wpAny Tryz.prog .any ops6 Q 11 L ⟨#[.pointer (some ⟨p, 0, none⟩), h1, h2, .pointer (some ⟨P, 0, none⟩), h4, h5, h6, h7, h8, h9, h10, h11, h12, h13, h14, h15, .pointer (some ⟨P, 1, none⟩), x17, .pointer (some ⟨p, 0, none⟩), x19, x20, .pointer (some ⟨p, 0, none⟩), .slice (some ⟨g2, 0, none⟩) 2 2, x23, .pointer (some ⟨p, 0, none⟩), x25, x26, x27, x28, x29, x30, x31], []⟩ X := by
  subst hL
  have hp : p < X.heap.size := hk.src.1
  have c1 := hk.cv.c1
  refine wpAny_ready (rs := [1, 3, 9]) (by kernel_rfl) (by simp) ?_
  refine AllReady.cons (o := { dst := some 17, op := Go.Op.load 24 (Go.Operand.tmp 16), type := 24, pos := "l04_cache.go:162", after := #[{ on := 0, ground := Go.Ground.data }], guard := none }) rfl (fun K hK => ?_) ?_
  · go_simp
    refine hK _ _ ?_
    exact bent_02L hT hpB hn hpan hQ X hk _ b2 _ _ _ _ _ _ (by kernel_rfl)
  refine AllReady.cons (o := { dst := some 19, op := Go.Op.buildSlice 38 2 #[(0, Go.Operand.const (Go.Value.int Go.IntKind.i64 0)), (1, Go.Operand.const (Go.Value.int Go.IntKind.i64 4))], type := 38, pos := "l04_cache.go:162", after := #[], guard := none }) rfl (fun K hK => ?_) ?_
  · go_simp
    refine hK _ _ ?_
    exact bent_012z hT hpB hn hpan hQ _ (hk.alloc _) _ (Bu.new hp _ _ _) _ (b2.alloc _) _ _ _ _ _ _ (by kernel_rfl)
  refine AllReady.cons (o := { dst := some 25, op := Go.Op.buildSlice 38 2 #[(0, Go.Operand.const (Go.Value.int Go.IntKind.i64 7)), (1, Go.Operand.const (Go.Value.int Go.IntKind.i64 8))], type := 38, pos := "l04_cache.go:162", after := #[], guard := none }) rfl (fun K hK => ?_) ?_
  · go_simp
    refine hK _ _ ?_
    exact bent_023z hT hpB hn hpan hQ _ (hk.alloc _) _ (b2.alloc _) _ (Bu.new hp _ _ _) _ _ _ _ _ _ (by kernel_rfl)
  exact AllReady.nil

theorem bent_03L (hT : T0 ≤ 999000) (hpB : p < B) (hn : n ≤ 6) (hpan : ∀ c (x y : Act) z, x.defers = y.defers → Q (.panic c) x z → Q (.panic c) y z) (hQ : ∀ (Y w5 : World) (y1 y2 y3 : Int) (g cp : Nat) (x19 x22 x25 : Value), KB p a len cap w B P s (.slice ra n rc) n ls (T0 + 1 + 1 + 1) Y → w5.cell? ⟨P, 0, none⟩ = some (.int .i64 s) → w5.cell? ⟨P, 1, none⟩ = some (.slice ra n rc) → w5.frozen? ⟨P, 1, none⟩ = false → w5.ownsRow B 45 3 (.slice (some ⟨g, 0, none⟩) (n + 1) cp) (n + 1) (vs3 (ls ++ [(y1, y2, y3)])) → g ≠ P → Below B Y w5 → Q .normal ⟨#[.pointer (some ⟨p, 0, none⟩), h1, h2, .pointer (some ⟨P, 0, none⟩), h4, h5, h6, h7, h8, h9, h10, h11, h12, h13, h14, h15, .pointer (some ⟨P, 1, none⟩), .slice ra n rc, .pointer (some ⟨p, 0, none⟩), x19, .int .i64 y1, .pointer (some ⟨p, 0, none⟩), x22, .int .i64 y2, .pointer (some ⟨p, 0, none⟩), x25, .int .i64 y3, .agg #[.int .i64 y1, .int .i64 y2, .int .i64 y3], .slice (some ⟨Y.heap.size, 0, none⟩) 1 1, .slice (some ⟨g, 0, none⟩) (n + 1) cp, .pointer (some ⟨P, 1, none⟩), x31], []⟩ (w5.setCell ⟨P, 1, none⟩ (.slice (some ⟨g, 0, none⟩) (n + 1) cp))) (X : World) (hk : KB p a len cap w B P s (.slice ra n rc) n ls (T0) X) (g3 : Nat) (b3 : Bu p X g3 7 8) (x19 x20 x22 x23 x26 : Value) (L : Array Bool) (hL : L = #[true, true, true, false, false, true, false, false, true, true, false, false, false, false, false, false]) :
    wpAny Tryz.prog .any ops6 Q 10 L ⟨#[.pointer (some ⟨p, 0, none⟩), h1, h2, .pointer (some ⟨P, 0, none⟩), h4, h5, h6, h7, h8, h9, h10, h11, h12, h13, h14, h15, .pointer (some ⟨P, 1, none⟩), .slice ra n rc, .pointer (some ⟨p, 0, none⟩), x19, x20, .pointer (some ⟨p, 0, none⟩), x22, x23, .pointer (some ⟨p, 0, none⟩), .slice (some ⟨g3, 0, none⟩) 2 2, x26, x27, x28, x29, x30, x31], []⟩ X := by
  subst hL
  have hp : p < X.heap.size := hk.src.1
  refine wpAny_ready (rs := [3, 6]) (by kernel_rfl) (by simp) ?_
  refine AllReady.cons (o := { dst := some 19, op := Go.Op.buildSlice 38 2 #[(0, Go.Operand.const (Go.Value.int Go.IntKind.i64 0)), (1, Go.Operand.const (Go.Value.int Go.IntKind.i64 4))], type := 38, pos := "l04_cache.go:162", after := #[], guard := none }) rfl (fun K hK => ?_) ?_
  · go_simp
    refine hK _ _ ?_
    exact bent_013L hT hpB hn hpan hQ _ (hk.alloc _) _ (Bu.new hp _ _ _) _ (b3.alloc _) _ _ _ _ _ (by kernel_rfl)
  refine AllReady.cons (o := { dst := some 22, op := Go.Op.buildSlice 38 2 #[(0, Go.Operand.const (Go.Value.int Go.IntKind.i64 0)), (1, Go.Operand.const (Go.Value.int Go.IntKind.i64 7))], type := 38, pos := "l04_cache.go:162", after := #[], guard := none }) rfl (fun K hK => ?_) ?_
  · go_simp
    refine hK _ _ ?_
    exact bent_023L hT hpB hn hpan hQ _ (hk.alloc _) _ (Bu.new hp _ _ _) _ (b3.alloc _) _ _ _ _ _ (by kernel_rfl)
  exact AllReady.nil

theorem bent_03z (hT : T0 ≤ 999000) (hpB : p < B) (hn : n ≤ 6) (hpan : ∀ c (x y : Act) z, x.defers = y.defers → Q (.panic c) x z → Q (.panic c) y z) (hQ : ∀ (Y w5 : World) (y1 y2 y3 : Int) (g cp : Nat) (x19 x22 x25 : Value), KB p a len cap w B P s (.slice ra n rc) n ls (T0 + 1 + 1 + 1) Y → w5.cell? ⟨P, 0, none⟩ = some (.int .i64 s) → w5.cell? ⟨P, 1, none⟩ = some (.slice ra n rc) → w5.frozen? ⟨P, 1, none⟩ = false → w5.ownsRow B 45 3 (.slice (some ⟨g, 0, none⟩) (n + 1) cp) (n + 1) (vs3 (ls ++ [(y1, y2, y3)])) → g ≠ P → Below B Y w5 → Q .normal ⟨#[.pointer (some ⟨p, 0, none⟩), h1, h2, .pointer (some ⟨P, 0, none⟩), h4, h5, h6, h7, h8, h9, h10, h11, h12, h13, h14, h15, .pointer (some ⟨P, 1, none⟩), .slice ra n rc, .pointer (some ⟨p, 0, none⟩), x19, .int .i64 y1, .pointer (some ⟨p, 0, none⟩), x22, .int .i64 y2, .pointer (some ⟨p, 0, none⟩), x25, .int .i64 y3, .agg #[.int .i64 y1, .int .i64 y2, .int .i64 y3], .slice (some ⟨Y.heap.size, 0, none⟩) 1 1, .slice (some ⟨g, 0, none⟩) (n + 1) cp, .pointer (some ⟨P, 1, none⟩), x31], []⟩ (w5.setCell ⟨P, 1, none⟩ (.slice (some ⟨g, 0, none⟩) (n + 1) cp))) (X : World) (hk : KB p a len cap w B P s (.slice ra n rc) n ls (T0) X) (g3 : Nat) (b3 : Bu p X g3 7 8) (x17 x19 x20 x22 x23 x26 : Value) (L : Array Bool) (hL : L = #[true, false, true, false, false, true, false, false, true, true, false, false, false, false, false, false]) :
    wpAny Tryz.prog .any ops6 Q 11 L ⟨#[.pointer (some ⟨p, 0, none⟩), h1, h2, .pointer (some ⟨P, 0, none⟩), h4, h5, h6, h7, h8, h9, h10, h11, h12, h13, h14, h15, .pointer (some ⟨P, 1, none⟩), x17, .pointer (some ⟨p, 0, none⟩), x19, x20, .pointer (some ⟨p, 0, none⟩), x22, x23, .pointer (some ⟨p, 0, none⟩), .slice (some ⟨g3, 0, none⟩) 2 2, x26, x27, x28, x29, x30, x31], []⟩ X := by
  subst hL
  have hp : p < X.heap.size := hk.src.1
  have c1 := hk.cv.c1
  refine wpAny_ready (rs := [1, 3, 6]) (by kernel_rfl) (by simp) ?_
  refine AllReady.cons (o := { dst := some 17, op := Go.Op.load 24 (Go.Operand.tmp 16), type := 24, pos := "l04_cache.go:162", after := #[{ on := 0, ground := Go.Ground.data }], guard := none }) rfl (fun K hK => ?_) ?_
  · go_simp
    refine hK _ _ ?_
    exact bent_03L hT hpB hn hpan hQ X hk _ b3 _ _ _ _ _ _ (by kernel_rfl)
  refine AllReady.cons (o := { dst := some 19, op := Go.Op.buildSlice 38 2 #[(0, Go.Operand.const (Go.Value.int Go.IntKind.i64 0)), (1, Go.Operand.const (Go.Value.int Go.IntKind.i64 4))], type := 38, pos := "l04_cache.go:162", after := #[], guard := none }) rfl (fun K hK => ?_) ?_
  · go_simp
    refine hK _ _ ?_
    exact bent_013z hT hpB hn hpan hQ _ (hk.alloc _) _ (Bu.new hp _ _ _) _ (b3.alloc _) _ _ _ _ _ _ (by kernel_rfl)
  refine AllReady.cons (o := { dst := some 22, op := Go.Op.buildSlice 38 2 #[(0, Go.Operand.const (Go.Value.int Go.IntKind.i64 0)), (1, Go.Operand.const (Go.Value.int Go.IntKind.i64 7))], type := 38, pos := "l04_cache.go:162", after := #[], guard := none }) rfl (fun K hK => ?_) ?_
  · go_simp
    refine hK _ _ ?_
    exact bent_023z hT hpB hn hpan hQ _ (hk.alloc _) _ (Bu.new hp _ _ _) _ (b3.alloc _) _ _ _ _ _ _ (by kernel_rfl)
  exact AllReady.nil

theorem bent_0nL (hT : T0 ≤ 999000) (hpB : p < B) (hn : n ≤ 6) (hpan : ∀ c (x y : Act) z, x.defers = y.defers → Q (.panic c) x z → Q (.panic c) y z) (hQ : ∀ (Y w5 : World) (y1 y2 y3 : Int) (g cp : Nat) (x19 x22 x25 : Value), KB p a len cap w B P s (.slice ra n rc) n ls (T0 + 1 + 1 + 1) Y → w5.cell? ⟨P, 0, none⟩ = some (.int .i64 s) → w5.cell? ⟨P, 1, none⟩ = some (.slice ra n rc) → w5.frozen? ⟨P, 1, none⟩ = false → w5.ownsRow B 45 3 (.slice (some ⟨g, 0, none⟩) (n + 1) cp) (n + 1) (vs3 (ls ++ [(y1, y2, y3)])) → g ≠ P → Below B Y w5 → Q .normal ⟨#[.pointer (some ⟨p, 0, none⟩), h1, h2, .pointer (some ⟨P, 0, none⟩), h4, h5, h6, h7, h8, h9, h10, h11, h12, h13, h14, h15, .pointer (some ⟨P, 1, none⟩), .slice ra n rc, .pointer (some ⟨p, 0, none⟩), x19, .int .i64 y1, .pointer (some ⟨p, 0, none⟩), x22, .int .i64 y2, .pointer (some ⟨p, 0, none⟩), x25, .int .i64 y3, .agg #[.int .i64 y1, .int .i64 y2, .int .i64 y3], .slice (some ⟨Y.heap.size, 0, none⟩) 1 1, .slice (some ⟨g, 0, none⟩) (n + 1) cp, .pointer (some ⟨P, 1, none⟩), x31], []⟩ (w5.setCell ⟨P, 1, none⟩ (.slice (some ⟨g, 0, none⟩) (n + 1) cp))) (X : World) (hk : KB p a len cap w B P s (.slice ra n rc) n ls (T0) X) (x19 x20 x22 x23 x25 x26 : Value) (L : Array Bool) (hL : L = #[true, true, true, false, false, true, false, false, true, false, false, false, false, false, false, false]) :
    wpAny Tryz.prog .any ops6 Q 11 L ⟨#[.pointer (some ⟨p, 0, none⟩), h1, h2, .pointer (some ⟨P, 0, none⟩), h4, h5, h6, h7, h8, h9, h10, h11, h12, h13, h14, h15, .pointer (some ⟨P, 1, none⟩), .slice ra n rc, .pointer (some ⟨p, 0, none⟩), x19, x20, .pointer (some ⟨p, 0, none⟩), x22, x23, .pointer (some ⟨p, 0, none⟩), x25, x26, x27, x28, x29, x30, x31], []⟩ X := by
  subst hL
  have hp : p < X.heap.size := hk.src.1
  refine wpAny_ready (rs := [3, 6, 9]) (by kernel_rfl) (by simp) ?_
  refine AllReady.cons (o := { dst := some 19, op := Go.Op.buildSlice 38 2 #[(0, Go.Operand.const (Go.Value.int Go.IntKind.i64 0)), (1, Go.Operand.const (Go.Value.int Go.IntKind.i64 4))], type := 38, pos := "l04_cache.go:162", after := #[], guard := none }) rfl (fun K hK => ?_) ?_
  · go_simp
    refine hK _ _ ?_
    exact bent_01L hT hpB hn hpan hQ _ (hk.alloc _) _ (Bu.new hp _ _ _) _ _ _ _ _ _ (by kernel_rfl)
  refine AllReady.cons (o := { dst := some 22, op := Go.Op.buildSlice 38 2 #[(0, Go.Operand.const (Go.Value.int Go.IntKind.i64 0)), (1, Go.Operand.const (Go.Value.int Go.IntKind.i64 7))], type := 38, pos := "l04_cache.go:162", after := #[], guard := none }) rfl (fun K hK => ?_) ?_
  · go_simp
    refine hK _ _ ?_
    exact bent_02L hT hpB hn hpan hQ _ (hk.alloc _) _ (Bu.new hp _ _ _) _ _ _ _ _ _ (by kernel_rfl)
  refine AllReady.cons (o := { dst := some 25, op := Go.Op.buildSlice 38 2 #[(0, Go.Operand.const (Go.Value.int Go.IntKind.i64 7)), (1, Go.Operand.const (Go.Value.int Go.IntKind.i64 8))], type := 38, pos := "l04_cache.go:162", after := #[], guard := none }) rfl (fun K hK => ?_) ?_
  · go_simp
    refine hK _ _ ?_
    exact bent_03L hT hpB hn hpan hQ _ (hk.alloc _) _ (Bu.new hp _ _ _) _ _ _ _ _ _ (by kernel_rfl)
  exact AllReady.nil

theorem bent_0nz (hT : T0 ≤ 999000) (hpB : p < B) (hn : n ≤ 6) (hpan : ∀ c (x y : Act) z, x.defers = y.defers → Q (.panic c) x z → Q (.panic c) y z) (hQ : ∀ (Y w5 : World) (y1 y2 y3 : Int) (g cp : Nat) (x19 x22 x25 : Value), KB p a len cap w B P s (.slice ra n rc) n ls (T0 + 1 + 1 + 1) Y → w5.cell? ⟨P, 0, none⟩ = some (.int .i64 s) → w5.cell? ⟨P, 1, none⟩ = some (.slice ra n rc) → w5.frozen? ⟨P, 1, none⟩ = false → w5.ownsRow B 45 3 (.slice (some ⟨g, 0, none⟩) (n + 1) cp) (n + 1) (vs3 (ls ++ [(y1, y2, y3)])) → g ≠ P → Below B Y w5 → Q .normal ⟨#[.pointer (some ⟨p, 0, none⟩), h1, h2, .pointer (some ⟨P, 0, none⟩), h4, h5, h6, h7, h8, h9, h10, h11, h12, h13, h14, h15, .pointer (some ⟨P, 1, none⟩), .slice ra n rc, .pointer (some ⟨p, 0, none⟩), x19, .int .i64 y1, .pointer (some ⟨p, 0, none⟩), x22, .int .i64 y2, .pointer (some ⟨p, 0, none⟩), x25, .int .i64 y3, .agg #[.int .i64 y1, .int .i64 y2, .int .i64 y3], .slice (some ⟨Y.heap.size, 0, none⟩) 1 1, .slice (some ⟨g, 0, none⟩) (n + 1) cp, .pointer (some ⟨P, 1, none⟩), x31], []⟩ (w5.setCell ⟨P, 1, none⟩ (.slice (some ⟨g, 0, none⟩) (n + 1) cp))) (X : World) (hk : KB p a len cap w B P s (.slice ra n rc) n ls (T0) X) (x17 x19 x20 x22 x23 x25 x26 : Value) (L : Array Bool) (hL : L = #[true, false, true, false, false, true, false, false, true, false, false, false, false, false, false, false]) :
    wpAny Tryz.prog .any ops6 Q 12 L ⟨#[.pointer (some ⟨p, 0, none⟩), h1, h2, .pointer (some ⟨P, 0, none⟩), h4, h5, h6, h7, h8, h9, h10, h11, h12, h13, h14, h15, .pointer (some ⟨P, 1, none⟩), x17, .pointer (some ⟨p, 0, none⟩), x19, x20, .pointer (some ⟨p, 0, none⟩), x22, x23, .pointer (some ⟨p, 0, none⟩), x25, x26, x27, x28, x29, x30, x31], []⟩ X := by
  subst hL
  have hp : p < X.heap.size := hk.src.1
  have c1 := hk.cv.c1
  refine wpAny_ready (rs := [1, 3, 6, 9]) (by kernel_rfl) (by simp) ?_
  refine AllReady.cons (o := { dst := some 17, op := Go.Op.load 24 (Go.Operand.tmp 16), type := 24, pos := "l04_cache.go:162", after := #[{ on := 0, ground := Go.Ground.data }], guard := none }) rfl (fun K hK => ?_) ?_
  · go_simp
    refine hK _ _ ?_
    exact bent_0nL hT hpB hn hpan hQ X hk _ _ _ _ _ _ _ (by kernel_rfl)
  refine AllReady.cons (o := { dst := some 19, op := Go.Op.buildSlice 38 2 #[(0, Go.Operand.const (Go.Value.int Go.IntKind.i64 0)), (1, Go.Operand.const (Go.Value.int Go.IntKind.i64 4))], type := 38, pos := "l04_cache.go:162", after := #[], guard := none }) rfl (fun K hK => ?_) ?_
  · go_simp
    refine hK _ _ ?_
    exact bent_01z hT hpB hn hpan hQ _ (hk.alloc _) _ (Bu.new hp _ _ _) _ _ _ _ _ _ _ (by kernel_rfl)
  refine AllReady.cons (o := { dst := some 22, op := Go.Op.buildSlice 38 2 #[(0, Go.Operand.const (Go.Value.int Go.IntKind.i64 0)), (1, Go.Operand.const (Go.Value.int Go.IntKind.i64 7))], type := 38, pos := "l04_cache.go:162", after := #[], guard := none }) rfl (fun K hK => ?_) ?_
  · go_simp
    refine hK _ _ ?_
    exact bent_02z hT hpB hn hpan hQ _ (hk.alloc _) _ (Bu.new hp _ _ _) _ _ _ _ _ _ _ (by kernel_rfl)
  refine AllReady.cons (o := { dst := some 25, op := Go.Op.buildSlice 38 2 #[(0, Go.Operand.const (Go.Value.int Go.IntKind.i64 7)), (1, Go.Operand.const (Go.Value.int Go.IntKind.i64 8))], type := 38, pos := "l04_cache.go:162", after := #[], guard := none }) rfl (fun K hK => ?_) ?_
  · go_simp
    refine hK _ _ ?_
    exact bent_03z hT hpB hn hpan hQ _ (hk.alloc _) _ (Bu.new hp _ _ _) _ _ _ _ _ _ _ (by kernel_rfl)
  exact AllReady.nil

theorem bent_region (hT : T0 ≤ 999000) (hpB : p < B) (hn : n ≤ 6) (hpan : ∀ c (x y : Act) z, x.defers = y.defers → Q (.panic c) x z → Q (.panic c) y z) (hQ : ∀ (Y w5 : World) (y1 y2 y3 : Int) (g cp : Nat) (x19 x22 x25 : Value), KB p a len cap w B P s (.slice ra n rc) n ls (T0 + 1 + 1 + 1) Y → w5.cell? ⟨P, 0, none⟩ = some (.int .i64 s) → w5.cell? ⟨P, 1, none⟩ = some (.slice ra n rc) → w5.frozen? ⟨P, 1, none⟩ = false → w5.ownsRow B 45 3 (.slice (some ⟨g, 0, none⟩) (n + 1) cp) (n + 1) (vs3 (ls ++ [(y1, y2, y3)])) → g ≠ P → Below B Y w5 → Q .normal ⟨#[.pointer (some ⟨p, 0, none⟩), h1, h2, .pointer (some ⟨P, 0, none⟩), h4, h5, h6, h7, h8, h9, h10, h11, h12, h13, h14, h15, .pointer (some ⟨P, 1, none⟩), .slice ra n rc, .pointer (some ⟨p, 0, none⟩), x19, .int .i64 y1, .pointer (some ⟨p, 0, none⟩), x22, .int .i64 y2, .pointer (some ⟨p, 0, none⟩), x25, .int .i64 y3, .agg #[.int .i64 y1, .int .i64 y2, .int .i64 y3], .slice (some ⟨Y.heap.size, 0, none⟩) 1 1, .slice (some ⟨g, 0, none⟩) (n + 1) cp, .pointer (some ⟨P, 1, none⟩), x31], []⟩ (w5.setCell ⟨P, 1, none⟩ (.slice (some ⟨g, 0, none⟩) (n + 1) cp))) (X : World) (hk : KB p a len cap w B P s (.slice ra n rc) n ls (T0) X) (x16 x17 x18 x19 x20 x21 x22 x23 x24 x25 x26 : Value) :
    (Code.region 6 ops6 true).wp Tryz.prog Q ⟨#[.pointer (some ⟨p, 0, none⟩), h1, h2, .pointer (some ⟨P, 0, none⟩), h4, h5, h6, h7, h8, h9, h10, h11, h12, h13, h14, h15, x16, x17, x18, x19, x20, x21, x22, x23, x24, x25, x26, x27, x28, x29, x30, x31], []⟩ X := by
  refine wp_region_any (by kernel_rfl) ?_
  change wpAny _ _ _ _ 16 _ _ (World.drew _)
  refine wpAny_take (i := 0) (oi := { dst := some 16, op := Go.Op.fieldAddr 26 (Go.Operand.tmp 3) 1, type := 0, pos := "l04_cache.go:162", after := #[], guard := none }) (v := .pointer (some ⟨P, 1, none⟩)) rfl (by kernel_rfl) (by kernel_rfl) (by kernel_rfl) (fun _ _ _ h => hpan _ _ _ _ (by rfl) h) (Or.inl ⟨by rfl, ?_⟩) ?_
  · intro w
    go_simp
  show wpAny Tryz.prog .any ops6 Q 15 _ ⟨#[.pointer (some ⟨p, 0, none⟩), h1, h2, .pointer (some ⟨P, 0, none⟩), h4, h5, h6, h7, h8, h9, h10, h11, h12, h13, h14, h15, .pointer (some ⟨P, 1, none⟩), x17, x18, x19, x20, x21, x22, x23, x24, x25, x26, x27, x28, x29, x30, x31], []⟩ _
  refine wpAny_take (i := 2) (oi := { dst := some 18, op := Go.Op.move (Go.Operand.tmp 0), type := 50, pos := "l04_cache.go:162", after := #[], guard := none }) (v := .pointer (some ⟨p, 0, none⟩)) rfl (by kernel_rfl) (by kernel_rfl) (by kernel_rfl) (fun _ _ _ h => hpan _ _ _ _ (by rfl) h) (Or.inl ⟨by rfl, ?_⟩) ?_
  · intro w
    go_simp
  show wpAny Tryz.prog .any ops6 Q 14 _ ⟨#[.pointer (some ⟨p, 0, none⟩), h1, h2, .pointer (some ⟨P, 0, none⟩), h4, h5, h6, h7, h8, h9, h10, h11, h12, h13, h14, h15, .pointer (some ⟨P, 1, none⟩), x17, .pointer (some ⟨p, 0, none⟩), x19, x20, x21, x22, x23, x24, x25, x26, x27, x28, x29, x30, x31], []⟩ _
  refine wpAny_take (i := 5) (oi := { dst := some 21, op := Go.Op.move (Go.Operand.tmp 0), type := 50, pos := "l04_cache.go:162", after := #[], guard := none }) (v := .pointer (some ⟨p, 0, none⟩)) rfl (by kernel_rfl) (by kernel_rfl) (by kernel_rfl) (fun _ _ _ h => hpan _ _ _ _ (by rfl) h) (Or.inl ⟨by rfl, ?_⟩) ?_
  · intro w
    go_simp
  show wpAny Tryz.prog .any ops6 Q 13 _ ⟨#[.pointer (some ⟨p, 0, none⟩), h1, h2, .pointer (some ⟨P, 0, none⟩), h4, h5, h6, h7, h8, h9, h10, h11, h12, h13, h14, h15, .pointer (some ⟨P, 1, none⟩), x17, .pointer (some ⟨p, 0, none⟩), x19, x20, .pointer (some ⟨p, 0, none⟩), x22, x23, x24, x25, x26, x27, x28, x29, x30, x31], []⟩ _
  refine wpAny_take (i := 8) (oi := { dst := some 24, op := Go.Op.move (Go.Operand.tmp 0), type := 50, pos := "l04_cache.go:162", after := #[], guard := none }) (v := .pointer (some ⟨p, 0, none⟩)) rfl (by kernel_rfl) (by kernel_rfl) (by kernel_rfl) (fun _ _ _ h => hpan _ _ _ _ (by rfl) h) (Or.inl ⟨by rfl, ?_⟩) ?_
  · intro w
    go_simp
  show wpAny Tryz.prog .any ops6 Q 12 _ ⟨#[.pointer (some ⟨p, 0, none⟩), h1, h2, .pointer (some ⟨P, 0, none⟩), h4, h5, h6, h7, h8, h9, h10, h11, h12, h13, h14, h15, .pointer (some ⟨P, 1, none⟩), x17, .pointer (some ⟨p, 0, none⟩), x19, x20, .pointer (some ⟨p, 0, none⟩), x22, x23, .pointer (some ⟨p, 0, none⟩), x25, x26, x27, x28, x29, x30, x31], []⟩ _
  exact bent_0nz hT hpB hn hpan hQ _ (hk.below (Below.refl _ _).drew) _ _ _ _ _ _ _ _ (by kernel_rfl)
end

end Go.Proofs.YtnibngigbcakkaaGreat
