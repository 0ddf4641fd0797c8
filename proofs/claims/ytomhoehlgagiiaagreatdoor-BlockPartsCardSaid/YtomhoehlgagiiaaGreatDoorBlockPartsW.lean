/-
  The walk of BlockParts.
-/
import Derived.Test.YtomhoehlgagiiaaGreatDoorRows
import Derived.Test.YtomhoehlgagiiaaGreatDoorDoor
import Derived.WalkKit
import Derived.ProofKit
import Derived.OpenShut
import Derived.ShutString
import Derived.ChangeOld
import Derived.Below
import Derived.Test.YtomhoehlgagiiaaGreatDoorAlive16
import Derived.Test.YtomhoehlgagiiaaGreatDoorTwn
import Derived.Test.YtomhoehlgagiiaaGreatDoorBkL
import Derived.Test.YtomhoehlgagiiaaGreatDoorRwJ
import Derived.Test.YtomhoehlgagiiaaGreatDoorHdL
import Derived.Test.YtomhoehlgagiiaaGreatDoorRefE
import Derived.Test.YtomhoehlgagiiaaGreatDoorRf6
import Derived.Test.YtomhoehlgagiiaaGreatDoorRf16
import Derived.Test.YtomhoehlgagiiaaGreatDoorTrM
import Derived.Test.YtomhoehlgagiiaaGreatDoorStX
namespace Go.Proofs.YtomhoehlgagiiaaGreatDoor.blockParts
open Go.ChangeShapes Go.WideShapes Go.ChangeAt Go.RowKit
open Go.ChangeMaps (open_string shut_string)
set_option linter.unusedVariables false

theorem own : ownKnob Tryz.prog.godebug = none := by kernel_rfl
theorem laidOut : laidOutB Tryz.prog = true := by kernel_rfl

/-- WHAT THE WALK IS TOLD OF A SLICE OF INTEGERS THAT CAME IN: it is nil; or it leads to a row of 'cap' cells, the numbers 'zs' (the first 'len' are its elements, the rest its spare room), each fitting its kind. -/
def IsRow (k : IntKind) (w : World) (a : Option Addr) (len cap : Nat) (zs : List Int) : Prop :=
  (a = none ∧ len = 0 ∧ cap = 0 ∧ zs = []) ∨
  ∃ x, a = some x ∧ len ≤ cap ∧ cap ≤ maxLen ∧ zs.length = cap ∧ (∀ i, i < zs.length → w.cell? (x.add i) = some (.int k (zs.getD i 0))) ∧ ∀ n ∈ zs, (Lit.int k n).wf = true

/-! ### the walk -/
open Go.Proofs.YtomhoehlgagiiaaGreatDoor
theorem Zf0 (w : World) (A : Option Addr) (n c : Nat) (root : Int) (l m q : List Value) (t u v y : TypeId) :
    BoxT ((((w.alloc (.cells #[.slice A n c, .int .i64 root] t)).alloc (.cells l.toArray u)).alloc (.cells m.toArray v)).alloc (.cells q.toArray y)) w.heap.size A n c root ∧
    ((((w.alloc (.cells #[.slice A n c, .int .i64 root] t)).alloc (.cells l.toArray u)).alloc (.cells m.toArray v)).alloc (.cells q.toArray y)).rangeAt (w.heap.size + 1) 0 l ∧
    ((((w.alloc (.cells #[.slice A n c, .int .i64 root] t)).alloc (.cells l.toArray u)).alloc (.cells m.toArray v)).alloc (.cells q.toArray y)).rangeAt (w.heap.size + 1 + 1) 0 m ∧
    ((((w.alloc (.cells #[.slice A n c, .int .i64 root] t)).alloc (.cells l.toArray u)).alloc (.cells m.toArray v)).alloc (.cells q.toArray y)).rangeAt (w.heap.size + 1 + 1 + 1) 0 q ∧
    Below w.heap.size w ((((w.alloc (.cells #[.slice A n c, .int .i64 root] t)).alloc (.cells l.toArray u)).alloc (.cells m.toArray v)).alloc (.cells q.toArray y)) := by
  have h1 := BoxT.new w A n c root t
  have b1 := Zad w (.cells #[.slice A n c, .int .i64 root] t)
  have h2 := Zae (heap_alloc_new (w.alloc (.cells #[.slice A n c, .int .i64 root] t)) (.cells l.toArray u))
  have h3 := Zae (heap_alloc_new ((w.alloc (.cells #[.slice A n c, .int .i64 root] t)).alloc (.cells l.toArray u)) (.cells m.toArray v))
  have h4 := Zae (heap_alloc_new (((w.alloc (.cells #[.slice A n c, .int .i64 root] t)).alloc (.cells l.toArray u)).alloc (.cells m.toArray v)) (.cells q.toArray y))
  simp only [World.size_alloc] at h2 h3 h4
  exact ⟨((h1.bel (Zad _ _)).bel (Zad _ _)).bel (Zad _ _), Zab (Zad _ _) (Zab (Zad _ _) h2), Zab (Zad _ _) h3, h4, Zag (Zag (Zag b1 (Zad _ _)) (Zad _ _)) (Zad _ _)⟩
theorem Zet {n m : Nat} (h : greatB n m = false) : n ≤ 20 ∧ m ≤ 20 := by
  unfold greatB bigB at h
  simp at h
  omega
theorem Yfw {F G : Nat → Prop} {w : World} {A : Option Addr} {xs : List Rc} (h : Row F w A xs) : Src G w A xs := fun hn => by
  obtain ⟨b, o, hA, -, -, hc⟩ := h hn
  exact ⟨b, o, hA, fun j x hx => by obtain ⟨vs, h1, h2⟩ := hc j x hx; exact ⟨vs, by obtain ⟨rfl, hok⟩ := Zr6 h1; exact Zh6 x hok, h2⟩⟩
theorem Ztr (A B : Option Addr) (n c m d : Nat) : Tryz.prog.built 36 [(0, .slice A n c), (1, .slice B m d)] = some #[.slice A n c, .slice B m d] := by kernel_rfl
theorem Zts (B : Option Addr) (m d : Nat) : Tryz.prog.built 36 [(1, .slice B m d)] = some #[.slice none 0 0, .slice B m d] := by kernel_rfl
/-- One body in two. -/
theorem YiE {t : Tr} {x : Hd} {ds : List Dp} {xs : List Tx} {box : Dg} {k : Nat} (hz : applyE t x ds xs box = 0) (hk : k ≤ xs.length) (hx : x.h + 2 ≤ 1073741824) (hl : t.ns.length ≤ 600) :
    applyE t x ds (xs.take k) box = 0 ∧ mayH (applyH t x ds (xs.take k) box) = true ∧ ∀ o, ApplyOk t x ds (xs.take k) box o → o.ns.length ≤ 45000 ∧ mayA o = true ∧ applyE o (applyH t x ds (xs.take k) box) [] (xs.drop k) box = 0 ∧ applyL o (applyH t x ds (xs.take k) box) [] (xs.drop k) box = applyL t x ds xs box ∧
      applyR t x ds xs box = applyR t x ds (xs.take k) box ++ applyR o (applyH t x ds (xs.take k) box) [] (xs.drop k) box ∧ follows (applyH o (applyH t x ds (xs.take k) box) [] (xs.drop k) box) (applyH t x ds (xs.take k) box) = true := by
  obtain ⟨h1, h2, h3, h4, h5, h6⟩ := ZeI hz
  have hp := (ZpP (box := box) (xs.take k) (xs.drop k) (giveAll (allT t) ds)).1 (by rw [List.take_append_drop]; exact h6)
  have z1 : applyE t x ds (xs.take k) box = 0 := by
    unfold applyE
    rw [if_pos h1, if_pos h2, if_neg (by rw [beq_iff_eq]; exact h3), if_neg (by rw [decide_eq_true_eq]; omega), if_neg (by rw [decide_eq_true_eq, List.length_take]; omega)]
    exact hp.1
  have e1 := Zbx z1
  have hm2 := h2
  unfold mayH at hm2
  have hm2 := of_decide_eq_true hm2
  have hL1 := ZgK z1
  rw [List.length_take] at hL1
  have hh1 : (applyH t x ds (xs.take k) box).h = x.h + 1 := by rw [e1.2.2]; rfl
  have hm1 : (applyH t x ds (xs.take k) box).m = ((applyR t x ds (xs.take k) box).length : Int) := by rw [e1.2.2, ← e1.2.1]; rfl
  have hM : mayH (applyH t x ds (xs.take k) box) = true := by
    unfold mayH
    rw [decide_eq_true_eq, hh1, hm1]
    omega
  refine ⟨z1, hM, fun o ho => ?_⟩
  obtain ⟨o1, o2, o3, -⟩ := Zc4 z1 ho
  rw [List.length_take] at o3
  have hl2 : o.ns.length ≤ 45000 := by
    have : 1200 * (min k xs.length) ≤ 1200 * 16 := Nat.mul_le_mul_left _ (by omega)
    omega
  have hg : giveAll (allT o) [] = payAll box (giveAll (allT t) ds) (xs.take k) := o2
  have z2 : applyE o (applyH t x ds (xs.take k) box) [] (xs.drop k) box = 0 := by
    unfold applyE
    rw [if_pos o1, if_pos hM, if_neg (by rw [beq_iff_eq, hh1]; omega), if_neg (by simp), if_neg (by rw [decide_eq_true_eq, List.length_drop]; omega)]
    unfold madeE
    rw [hg]
    exact hp.2
  have e2 := Zbx z2
  have e := Zbx hz
  have hL2 := ZgK z2
  rw [List.length_drop] at hL2
  refine ⟨hl2, o1, z2, ?_, ?_, ?_⟩
  · rw [e2.1, e.1, hg, ← Zk3, List.take_append_drop]
  · rw [e.2.1, e1.2.1, e2.2.1, hg]
    rw [List.append_assoc]
    congr 1
    show _ = payRs box (giveAll (allT t) ds) (xs.take k) ++ (giveRs (allT o) [] ++ payRs box (payAll box (giveAll (allT t) ds) (xs.take k)) (xs.drop k))
    rw [show giveRs (allT o) [] = [] from rfl, List.nil_append, ← Znr, List.take_append_drop]
  · have hh2 : (applyH o (applyH t x ds (xs.take k) box) [] (xs.drop k) box).h = (applyH t x ds (xs.take k) box).h + 1 := by rw [e2.2.2]; rfl
    have hp2 : (applyH o (applyH t x ds (xs.take k) box) [] (xs.drop k) box).p = nameD (applyH t x ds (xs.take k) box) := by rw [e2.2.2]; rfl
    have hm3 : (applyH o (applyH t x ds (xs.take k) box) [] (xs.drop k) box).m = ((applyR o (applyH t x ds (xs.take k) box) [] (xs.drop k) box).length : Int) := by rw [e2.2.2, ← e2.2.1]; rfl
    have hM2 : mayH (applyH o (applyH t x ds (xs.take k) box) [] (xs.drop k) box) = true := by
      unfold mayH
      rw [decide_eq_true_eq, hh2, hh1, hm3, hL2]
      simp
      omega
    unfold follows
    rw [hM2, hM, decide_eq_true hh2, decide_eq_true hp2]
    rfl
def gv (a : Act) (i : Nat) : Value := a.tmps.getD i undef
set_option maxRecDepth 100000 in
/-- Behind the first body of the two. -/
def BpM (w w5 : World) (k g12 : Nat) (R0 : Option Addr) (n0 q0 : Nat) (x : Hd) (rs : List Rc) (P : Tr → Prop) (a : Act) (W : World) : Prop := ∃ (g16 g17 : Nat) (o : Tr) (A : Option Addr) (c : Nat) (R : Option Addr) (q : Nat), a = { tmps := (List.toArray (gv a 0 :: gv a 1 :: gv a 2 :: gv a 3 :: .int .i64 (k : Int) :: .pointer (some ⟨w.heap.size, 0, none⟩) :: .pointer (some ⟨w.heap.size + 1, 0, none⟩) :: .pointer (some ⟨w.heap.size + 1 + 1, 0, none⟩) :: .pointer (some ⟨w.heap.size + 1 + 1 + 1, 0, none⟩) :: gv a 9 :: gv a 10 :: .bool true :: .pointer (some ⟨g12, 0, none⟩) :: .pointer (some ⟨g12 + 1, 0, none⟩) :: .slice R0 n0 q0 :: gv a 15 :: .pointer (some ⟨g16, 0, none⟩) :: .pointer (some ⟨g17, 0, none⟩) :: .slice R rs.length q :: .int .i64 0 :: gv a 20 :: gv a 21 :: gv a 22 :: gv a 23 :: gv a 24 :: gv a 25 :: gv a 26 :: gv a 27 :: gv a 28 :: gv a 29 :: gv a 30 :: gv a 31 :: gv a 32 :: gv a 33 :: gv a 34 :: gv a 35 :: gv a 36 :: gv a 37 :: gv a 38 :: gv a 39 :: gv a 40 :: gv a 41 :: gv a 42 :: gv a 43 :: gv a 44 :: gv a 45 :: gv a 46 :: gv a 47 :: gv a 48 :: gv a 49 :: gv a 50 :: gv a 51 :: gv a 52 :: gv a 53 :: gv a 54 :: gv a 55 :: gv a 56 :: gv a 57 :: gv a 58 :: gv a 59 :: gv a 60 :: gv a 61 :: gv a 62 :: gv a 63 :: gv a 64 :: gv a 65 :: gv a 66 :: gv a 67 :: gv a 68 :: gv a 69 :: gv a 70 :: gv a 71 :: gv a 72 :: gv a 73 :: gv a 74 :: gv a 75 :: gv a 76 :: gv a 77 :: gv a 78 :: gv a 79 :: gv a 80 :: gv a 81 :: gv a 82 :: gv a 83 :: gv a 84 :: gv a 85 :: gv a 86 :: gv a 87 :: gv a 88 :: gv a 89 :: gv a 90 :: gv a 91 :: gv a 92 :: gv a 93 :: gv a 94 :: gv a 95 :: gv a 96 :: gv a 97 :: gv a 98 :: gv a 99 :: gv a 100 :: gv a 101 :: gv a 102 :: gv a 103 :: gv a 104 :: gv a 105 :: gv a 106 :: gv a 107 :: gv a 108 :: gv a 109 :: gv a 110 :: gv a 111 :: gv a 112 :: gv a 113 :: gv a 114 :: gv a 115 :: gv a 116 :: gv a 117 :: gv a 118 :: gv a 119 :: gv a 120 :: gv a 121 :: gv a 122 :: gv a 123 :: gv a 124 :: gv a 125 :: gv a 126 :: gv a 127 :: gv a 128 :: gv a 129 :: gv a 130 :: gv a 131 :: gv a 132 :: gv a 133 :: gv a 134 :: gv a 135 :: gv a 136 :: gv a 137 :: gv a 138 :: gv a 139 :: gv a 140 :: gv a 141 :: gv a 142 :: gv a 143 :: gv a 144 :: gv a 145 :: [])), defers := [] } ∧
  W.heap[g16]? = some (.cells #[.slice A o.ns.length c, .int .i64 o.root] 24 (0, 0)) ∧ W.heap[g17]? = some (.cells (hdC x).toArray 28 (0, 0)) ∧ Row (fun _ => True) W A o.ns ∧ Row (fun _ => True) W R rs ∧ Below w5.heap.size w5 W ∧ P o
set_option maxRecDepth 100000 in
/-- Behind both. -/
def BpN (w w6 : World) (k g12 : Nat) (R0 : Option Addr) (n0 q0 g16 g17 : Nat) (R1 : Option Addr) (n1 q1 : Nat) (x : Hd) (rs : List Rc) (P : Tr → Prop) (a : Act) (W : World) : Prop := ∃ (g20 g21 : Nat) (o : Tr) (A : Option Addr) (c : Nat) (R : Option Addr) (q : Nat), a = { tmps := (List.toArray (gv a 0 :: gv a 1 :: gv a 2 :: gv a 3 :: .int .i64 (k : Int) :: .pointer (some ⟨w.heap.size, 0, none⟩) :: .pointer (some ⟨w.heap.size + 1, 0, none⟩) :: .pointer (some ⟨w.heap.size + 1 + 1, 0, none⟩) :: .pointer (some ⟨w.heap.size + 1 + 1 + 1, 0, none⟩) :: gv a 9 :: gv a 10 :: .bool true :: .pointer (some ⟨g12, 0, none⟩) :: .pointer (some ⟨g12 + 1, 0, none⟩) :: .slice R0 n0 q0 :: gv a 15 :: .pointer (some ⟨g16, 0, none⟩) :: .pointer (some ⟨g17, 0, none⟩) :: .slice R1 n1 q1 :: .int .i64 0 :: .pointer (some ⟨g20, 0, none⟩) :: .pointer (some ⟨g21, 0, none⟩) :: .slice R rs.length q :: .int .i64 0 :: gv a 24 :: gv a 25 :: gv a 26 :: gv a 27 :: gv a 28 :: gv a 29 :: gv a 30 :: gv a 31 :: gv a 32 :: gv a 33 :: gv a 34 :: gv a 35 :: gv a 36 :: gv a 37 :: gv a 38 :: gv a 39 :: gv a 40 :: gv a 41 :: gv a 42 :: gv a 43 :: gv a 44 :: gv a 45 :: gv a 46 :: gv a 47 :: gv a 48 :: gv a 49 :: gv a 50 :: gv a 51 :: gv a 52 :: gv a 53 :: gv a 54 :: gv a 55 :: gv a 56 :: gv a 57 :: gv a 58 :: gv a 59 :: gv a 60 :: gv a 61 :: gv a 62 :: gv a 63 :: gv a 64 :: gv a 65 :: gv a 66 :: gv a 67 :: gv a 68 :: gv a 69 :: gv a 70 :: gv a 71 :: gv a 72 :: gv a 73 :: gv a 74 :: gv a 75 :: gv a 76 :: gv a 77 :: gv a 78 :: gv a 79 :: gv a 80 :: gv a 81 :: gv a 82 :: gv a 83 :: gv a 84 :: gv a 85 :: gv a 86 :: gv a 87 :: gv a 88 :: gv a 89 :: gv a 90 :: gv a 91 :: gv a 92 :: gv a 93 :: gv a 94 :: gv a 95 :: gv a 96 :: gv a 97 :: gv a 98 :: gv a 99 :: gv a 100 :: gv a 101 :: gv a 102 :: gv a 103 :: gv a 104 :: gv a 105 :: gv a 106 :: gv a 107 :: gv a 108 :: gv a 109 :: gv a 110 :: gv a 111 :: gv a 112 :: gv a 113 :: gv a 114 :: gv a 115 :: gv a 116 :: gv a 117 :: gv a 118 :: gv a 119 :: gv a 120 :: gv a 121 :: gv a 122 :: gv a 123 :: gv a 124 :: gv a 125 :: gv a 126 :: gv a 127 :: gv a 128 :: gv a 129 :: gv a 130 :: gv a 131 :: gv a 132 :: gv a 133 :: gv a 134 :: gv a 135 :: gv a 136 :: gv a 137 :: gv a 138 :: gv a 139 :: gv a 140 :: gv a 141 :: gv a 142 :: gv a 143 :: gv a 144 :: gv a 145 :: [])), defers := [] } ∧
  W.heap[g20]? = some (.cells #[.slice A o.ns.length c, .int .i64 o.root] 24 (0, 0)) ∧ W.heap[g21]? = some (.cells (hdC x).toArray 28 (0, 0)) ∧ Row (fun _ => True) W A o.ns ∧ Row (fun _ => True) W R rs ∧ Below w6.heap.size w6 W ∧ P o
set_option linter.unusedSimpArgs false
set_option maxRecDepth 100000 in
set_option maxHeartbeats 16000000 in
theorem walk (x0 : Tr) (vs0 : List Value) (x1 : Hd) (vs1 : List Value) (x2 : Bd) (vs2 : List Value) (l3 : List UInt8) (a4 : Int) (w : World) (w0 : Enc.rep (fun b => b < w.heap.size) w x0 vs0) (w1 : Enc.rep (fun b => b < w.heap.size) w x1 vs1) (w2 : Enc.rep (fun b => b < w.heap.size) w x2 vs2) (w3 : l3.length = 32) (w4 : (Lit.int .i64 a4).wf = true) (hT : Tab w) :
    Calls Tryz.prog 7 #[.agg vs0.toArray, .agg vs1.toArray, .agg vs2.toArray, .agg (l3.map bv).toArray, .int .i64 a4] w fun e w' => e = .returned (.bool true) ∧ Below w.heap.size w w' := by
  obtain ⟨A0, c0, rfl, hc0, hm0, hr, hI⟩ := Zdz w0
  obtain ⟨ns, root⟩ := x0
  obtain ⟨rfl, hx⟩ := ZiR w1
  obtain ⟨D0, d0, X0, e0, rfl, ⟨hd1, hd2, hdr⟩, ⟨hx1, hx2, hxr⟩⟩ := Zvg w2
  obtain ⟨ds, xs⟩ := x2
  obtain ⟨box, rfl⟩ : ∃ k : Dg, l3 = k.1 := ⟨⟨l3, w3⟩, rfl⟩
  generalize x1 = xh at *
  dsimp only at *
  have hcm : ns.length ≤ 9223372036854775807 := by unfold maxLen at hm0; omega
  obtain ⟨T0, N0, B0, S0, W0⟩ := Zf0 w A0 ns.length c0 root (hdC xh) [.slice D0 ds.length d0, .slice X0 xs.length e0] (box.1.map bv) 24 28 36 26
  have hut := Tryz.underlying24
  have huh := Tryz.underlying28
  have hub := Tryz.underlying36
  have hu := Tryz.underlying26
  have hiT := hid (show (Tryz.prog.info? 24).map (·.size) = some ([Value.slice A0 ns.length c0, .int .i64 root]).length from Zah)
  have hiS := hid (Zaz box)
  have jxh := hid (Zbu xh)
  have jBd := hid (show (Tryz.prog.info? 36).map (·.size) = some ([Value.slice D0 ds.length d0, .slice X0 xs.length e0]).length from ZfA _ _)
  have R0 := hid (hr.bel W0)
  have P0 := hid (hdr.bel W0)
  have Q0 := hid (hxr.bel W0)
  have H0 := hid (hT.bel W0 hT.low)
  have hlow := hid hT.low
  obtain ⟨gb, hgb⟩ : ∃ gb, greatT ns 600 = gb := ⟨_, rfl⟩
  have hGr := fun W hW => ZaY (fun b => b < w.heap.size) A0 c0 600 ns root W hW hcm
  rw [hgb] at hGr
  replace hGr := hid hGr
  replace hgb := hid hgb
  obtain ⟨gc, hgc⟩ : ∃ gc, greatB ds.length xs.length = gc := ⟨_, rfl⟩
  have hGB := hid (fun W => hgc ▸ Zgi D0 d0 ds.length X0 e0 xs.length W)
  replace hgc := hid hgc
  replace T0 := hid T0
  replace N0 := hid N0
  replace B0 := hid B0
  replace S0 := hid S0
  replace W0 := hid W0
  clear hr hdr hxr w0 w1 w2 w3 hI
  generalize a4 = ct at *
  clear w4
  have hur := Tryz.underlying61
  have hAl := hid (fun W hT => Zg9 W hT)
  obtain ⟨cl, hcl⟩ : ∃ b, decide (ct < 0) = b := ⟨_, rfl⟩
  obtain ⟨cg, hcg⟩ : ∃ b, decide (ct > (xs.length : Int)) = b := ⟨_, rfl⟩
  have hcl2 := hcl
  have hcg2 := hcg
  replace hcl2 := hid hcl2
  replace hcg2 := hid hcg2
  go_enter Tryz.func7, Tryz.ntmps7
  go_wp2_with fail
  generalize (((w.alloc (.cells #[.slice A0 ns.length c0, .int .i64 root] 24)).alloc (.cells (hdC xh).toArray 28)).alloc (.cells #[.slice D0 ds.length d0, .slice X0 xs.length e0] 36)).alloc (.cells (box.1.map bv).toArray 26) = w0 at *
  refine (hAl.out _ H0.out).mono ?_
  rintro e w1 ⟨rfl, hb⟩
  have T1 := hid (T0.out.bel hb)
  have N1 := hid (Zab hb N0.out)
  have B1 := hid (Zab hb B0.out)
  have S1 := hid (Zab hb S0.out)
  have R1 := hid (R0.out.bel hb)
  have P1 := hid (P0.out.bel hb)
  have Q1 := hid (Q0.out.bel hb)
  have H1 := hid (H0.out.bel hb (Nat.lt_of_lt_of_le hlow.out W0.out.size))
  have W1 := hid (W0.out.trans (hb.mono W0.out.size))
  clear T0 N0 B0 S0 R0 P0 Q0 H0 W0
  clear hb hAl
  go_wp2_with (first
    | (with_reducible refine lDr T1.out.all hiT.out hut ?_ rfl rfl rfl rfl))
  refine (hGr.out _ R1.out).mono ?_
  rintro e w2 ⟨rfl, hb⟩
  have T2 := hid (T1.out.bel hb)
  have N2 := hid (Zab hb N1.out)
  have B2 := hid (Zab hb B1.out)
  have S2 := hid (Zab hb S1.out)
  have R2 := hid (R1.out.bel hb)
  have P2 := hid (P1.out.bel hb)
  have Q2 := hid (Q1.out.bel hb)
  have H2 := hid (H1.out.bel hb (Nat.lt_of_lt_of_le hlow.out W1.out.size))
  have W2 := hid (W1.out.trans (hb.mono W1.out.size))
  clear T1 N1 B1 S1 R1 P1 Q1 H1 W1
  clear hb hGr
  cases gb with
  | true =>
    go_wp2
    go_ret
    exact ⟨rfl, W2.out⟩
  | false =>
    go_wp2_with (first
      | (with_reducible refine lDr B2.out jBd.out hub ?_ rfl rfl rfl rfl))
    refine (hGB.out _).mono ?_
    rintro e w3 ⟨rfl, hb⟩
    have T3 := hid (T2.out.bel hb)
    have N3 := hid (Zab hb N2.out)
    have B3 := hid (Zab hb B2.out)
    have S3 := hid (Zab hb S2.out)
    have R3 := hid (R2.out.bel hb)
    have P3 := hid (P2.out.bel hb)
    have Q3 := hid (Q2.out.bel hb)
    have H3 := hid (H2.out.bel hb (Nat.lt_of_lt_of_le hlow.out W2.out.size))
    have W3 := hid (W2.out.trans (hb.mono W2.out.size))
    clear T2 N2 B2 S2 R2 P2 Q2 H2 W2
    clear hb hGB
    cases gc with
    | true =>
      go_wp2
      go_ret
      exact ⟨rfl, W3.out⟩
    | false =>
      have bx3 := B3.out 1 _ rfl
      cases cl with
      | true =>
        go_wp2
        go_ret
        exact ⟨rfl, W3.out⟩
      | false =>
      cases cg with
      | true =>
        go_wp2
        go_ret
        exact ⟨rfl, W3.out⟩
      | false =>
      obtain ⟨hlen, hvs⟩ := Zbi hgb.out
      obtain ⟨ld, lx⟩ := Zet hgc.out
      clear hgb hvs hgc bx3
      obtain ⟨k, rfl⟩ : ∃ k : Nat, ct = (k : Int) := ⟨ct.toNat, by have := of_decide_eq_false hcl2.out; omega⟩
      have hkl : k ≤ xs.length := by have := of_decide_eq_false hcg2.out; omega
      have bx3 := B3.out 1 _ rfl
      by_cases hz : applyE ⟨ns, root⟩ xh ds xs box = 0
      case neg =>
        have hAp := hid (fun W hW hD hX hT => Zd6 (fun b => b < w.heap.size) (fun b => b < w.heap.size) (fun b => b < w.heap.size) A0 c0 ns root xh D0 d0 ds X0 e0 xs box W hx hW (by omega) hD hX (by omega) (by omega) hT (applyE ⟨ns, root⟩ xh ds xs box) (applyH ⟨ns, root⟩ xh ds xs box) (applyR ⟨ns, root⟩ xh ds xs box) (fun _ => True) rfl rfl rfl (fun _ _ => trivial))
        have hzn : (applyE ⟨ns, root⟩ xh ds xs box != 0) = true := bne_iff_ne.2 hz
        have nhH := hid (ZbM (applyH ⟨ns, root⟩ xh ds xs box))
        have jhH := hid (Zbu (applyH ⟨ns, root⟩ xh ds xs box))
        have ahH := hid (Zbg (applyH ⟨ns, root⟩ xh ds xs box))
        have zhH := hid (Zbw (applyH ⟨ns, root⟩ xh ds xs box))
        obtain ⟨hH, hhH⟩ : ∃ y, applyH ⟨ns, root⟩ xh ds xs box = y := ⟨_, rfl⟩
        rw [hhH] at nhH jhH ahH zhH
        rw [hhH] at hAp
        generalize applyE ⟨ns, root⟩ xh ds xs box = pz at *
        generalize applyR ⟨ns, root⟩ xh ds xs box = rs at *
        clear hz hhH
        go_wp2_with (first
          | (with_reducible refine lDr T3.out.all hiT.out hut ?_ rfl rfl rfl rfl)
          | (with_reducible refine lDr N3.out jxh.out huh ?_ rfl rfl rfl rfl)
          | (with_reducible refine lDr B3.out jBd.out hub ?_ rfl rfl rfl rfl)
          | (with_reducible refine lDr S3.out hiS.out hu ?_ rfl rfl rfl rfl))
        refine (hAp.out _ R3.out P3.out Q3.out H3.out).mono ?_
        rintro e w4 ⟨⟨na4, ra4⟩, ad4, cd4, Rr4, rq4, rfl, ho, hq, hb, hok4⟩
        dsimp only at ho hok4 ⊢
        have T4 := hid (T3.out.bel hb)
        have N4 := hid (Zab hb N3.out)
        have B4 := hid (Zab hb B3.out)
        have S4 := hid (Zab hb S3.out)
        have R4 := hid (R3.out.bel hb)
        have P4 := hid (P3.out.bel hb)
        have Q4 := hid (Q3.out.bel hb)
        have H4 := hid (H3.out.bel hb (Nat.lt_of_lt_of_le hlow.out W3.out.size))
        have W4 := hid (W3.out.trans (hb.mono W3.out.size))
        clear T3 N3 B3 S3 R3 P3 Q3 H3 W3
        have E4 := hid (OwnR.row ho)
        have Y4 := hid (OwnR.row hq)
        replace hok4 := hid hok4
        clear hb ho hq hAp bx3
        have ea4 := hid (((Zad (w4.alloc (.cells zTrC 24)) (.cells zHdC 28)).block _ (by rw [World.size_alloc]; exact Nat.lt_succ_self _)).trans (heap_alloc_new w4 (.cells zTrC 24)))
        have eb4 := heap_alloc_new (w4.alloc (.cells zTrC 24)) (.cells zHdC 28)
        rw [World.size_alloc] at eb4
        replace eb4 := hid eb4
        have hW4 := hid (Zag (Zad w4 (.cells zTrC 24)) (Zad (w4.alloc (.cells zTrC 24)) (.cells zHdC 28)))
        have hiF := hid (show (Tryz.prog.info? 24).map (·.size) = some ([Value.slice ad4 na4.length cd4, .int .i64 ra4]).length from Zah)
        go_wp2_with (first
          | (with_reducible refine Zac rfl 24 rfl zTrC Zas ?_)
          | (with_reducible refine Zac rfl 28 rfl zHdC Za9 ?_)
          | ((with_reducible refine wpList_store_row rfl 24 (.tmp 12) (.tmp 57) rfl _ _ rfl rfl 24 zTrC ?_ ?_ ?_ ?_ ?_); exact ea4.out; exact Zah; rfl; exact Zat ad4 na4.length cd4 ra4; intro w5a g1 b1 s1; refine wpList_store_row rfl 28 (.tmp 13) (.tmp 58) rfl (w4.heap.size + 1) _ ?_ rfl 28 zHdC ?_ ?_ ?_ ?_ ?_; (first | rfl | (simp only [World.size_alloc]; rfl)); exact (b1.block _ (block_lt eb4.out) (by simp)).trans eb4.out; exact ahH.out; exact zhH.out; exact nhH.out; intro w5 g2 b2 s2; have X5a := hW4.out.grown b1 hW4.out.size (fun k e => by injection e with e; omega); have X5 := hid (X5a.grown b2 X5a.size (fun k e => by injection e with e; omega)); have F5 := hid (BoxT.of (Zae (l := [Value.slice ad4 na4.length cd4, .int .i64 ra4]) ((b2.block _ (block_lt g1) (by simp)).trans g1))); have G5 := hid (Zae (l := hdC hH) g2); clear g1 b1 s1 g2 b2 s2 X5a ea4 eb4 hW4; have T5 := hid (T4.out.bel X5.out); have N5 := hid (Zab X5.out N4.out); have B5 := hid (Zab X5.out B4.out); have S5 := hid (Zab X5.out S4.out); have R5 := hid (R4.out.bel X5.out); have P5 := hid (P4.out.bel X5.out); have Q5 := hid (Q4.out.bel X5.out); have H5 := hid (H4.out.bel X5.out (Nat.lt_of_lt_of_le hlow.out W4.out.size)); have W5 := hid (W4.out.trans (X5.out.mono W4.out.size)); have E5 := hid (E4.out.bel X5.out); have Y5 := hid (Y4.out.bel X5.out); clear T4 N4 B4 S4 R4 P4 Q4 H4 W4 E4 Y4))
        go_ret
        exact ⟨rfl, W5.out⟩
      case pos =>
        obtain ⟨hma, hmh, -, hl1, hl2, -⟩ := ZeI hz
        have hhm := hmh
        unfold mayH at hhm
        have hhm := of_decide_eq_true hhm
        have hAp := hid (fun W hW hD hX hT => Zd6 (fun b => b < w.heap.size) (fun b => b < w.heap.size) (fun b => b < w.heap.size) A0 c0 ns root xh D0 d0 ds X0 e0 xs box W hx hW (by omega) hD hX (by omega) (by omega) hT 0 (applyH ⟨ns, root⟩ xh ds xs box) (applyR ⟨ns, root⟩ xh ds xs box) (fun o => mayA o = true ∧ o.ns.length ≤ 100000 ∧ allT o = applyL ⟨ns, root⟩ xh ds xs box) hz rfl rfl (fun o ho => ⟨(Zc4 hz ho).1, by have := (Zc4 hz ho).2.2.1; (try dsimp only at this); omega, by rw [(Zc4 hz ho).2.1, (Zbx hz).1]⟩))
        have hin := fun (h : xh.h + 2 ≤ 1073741824) => YiE hz hkl h hlen
        have hrl := ZgK hz
        have wh : IntKind.i64.wrap (xh.h + 2) = xh.h + 2 := IntWalk.i64_in _ (by omega)
        obtain ⟨hb9, hhb⟩ : ∃ b, decide (xh.h + 2 > 1073741824) = b := ⟨_, rfl⟩
        have hhb2 := hid hhb
        have hL5 : (applyL ⟨ns, root⟩ xh ds xs box).length ≤ 262144 := by
          have := ZeH (Zft hma).1 (by dsimp only; omega)
          have h1 := Zf5 ds (allT ⟨ns, root⟩)
          have h2 := ZiA box xs (giveAll (allT ⟨ns, root⟩) ds)
          have h3 := (Zbp (Zft hma).1).2.2.1
          dsimp only at h3
          rw [(Zbx hz).1]
          omega
        have nhH := hid (ZbM (applyH ⟨ns, root⟩ xh ds xs box))
        have jhH := hid (Zbu (applyH ⟨ns, root⟩ xh ds xs box))
        have ahH := hid (Zbg (applyH ⟨ns, root⟩ xh ds xs box))
        have zhH := hid (Zbw (applyH ⟨ns, root⟩ xh ds xs box))
        obtain ⟨hH, hhH⟩ : ∃ y, applyH ⟨ns, root⟩ xh ds xs box = y := ⟨_, rfl⟩
        rw [hhH] at nhH jhH ahH zhH
        rw [hhH] at hAp
        generalize applyR ⟨ns, root⟩ xh ds xs box = rs at *
        generalize applyL ⟨ns, root⟩ xh ds xs box = L at *
        replace hin := hid hin
        replace hL5 := hid hL5
        replace hrl := hid hrl
        replace wh := hid wh
        clear hhH hz hmh hma hhm hhb
        cases hb9 with
        | true =>
          go_wp2_with (first
            | (with_reducible refine lDr T3.out.all hiT.out hut ?_ rfl rfl rfl rfl)
            | (with_reducible refine lDr N3.out jxh.out huh ?_ rfl rfl rfl rfl)
            | (with_reducible refine lDr B3.out jBd.out hub ?_ rfl rfl rfl rfl)
            | (with_reducible refine lDr S3.out hiS.out hu ?_ rfl rfl rfl rfl))
          refine (hAp.out _ R3.out P3.out Q3.out H3.out).mono ?_
          rintro e w4 ⟨⟨na4, ra4⟩, ad4, cd4, Rr4, rq4, rfl, ho, hq, hb, hok4⟩
          dsimp only at ho hok4 ⊢
          have T4 := hid (T3.out.bel hb)
          have N4 := hid (Zab hb N3.out)
          have B4 := hid (Zab hb B3.out)
          have S4 := hid (Zab hb S3.out)
          have R4 := hid (R3.out.bel hb)
          have P4 := hid (P3.out.bel hb)
          have Q4 := hid (Q3.out.bel hb)
          have H4 := hid (H3.out.bel hb (Nat.lt_of_lt_of_le hlow.out W3.out.size))
          have W4 := hid (W3.out.trans (hb.mono W3.out.size))
          clear T3 N3 B3 S3 R3 P3 Q3 H3 W3
          have E4 := hid (OwnR.row ho)
          have Y4 := hid (OwnR.row hq)
          replace hok4 := hid hok4
          clear hb ho hq hAp bx3
          have ea4 := hid (((Zad (w4.alloc (.cells zTrC 24)) (.cells zHdC 28)).block _ (by rw [World.size_alloc]; exact Nat.lt_succ_self _)).trans (heap_alloc_new w4 (.cells zTrC 24)))
          have eb4 := heap_alloc_new (w4.alloc (.cells zTrC 24)) (.cells zHdC 28)
          rw [World.size_alloc] at eb4
          replace eb4 := hid eb4
          have hW4 := hid (Zag (Zad w4 (.cells zTrC 24)) (Zad (w4.alloc (.cells zTrC 24)) (.cells zHdC 28)))
          have hiF := hid (show (Tryz.prog.info? 24).map (·.size) = some ([Value.slice ad4 na4.length cd4, .int .i64 ra4]).length from Zah)
          go_wp2_with (first
            | (with_reducible refine Zac rfl 24 rfl zTrC Zas ?_)
            | (with_reducible refine Zac rfl 28 rfl zHdC Za9 ?_)
            | ((with_reducible refine wpList_store_row rfl 24 (.tmp 12) (.tmp 57) rfl _ _ rfl rfl 24 zTrC ?_ ?_ ?_ ?_ ?_); exact ea4.out; exact Zah; rfl; exact Zat ad4 na4.length cd4 ra4; intro w5a g1 b1 s1; refine wpList_store_row rfl 28 (.tmp 13) (.tmp 58) rfl (w4.heap.size + 1) _ ?_ rfl 28 zHdC ?_ ?_ ?_ ?_ ?_; (first | rfl | (simp only [World.size_alloc]; rfl)); exact (b1.block _ (block_lt eb4.out) (by simp)).trans eb4.out; exact ahH.out; exact zhH.out; exact nhH.out; intro w5 g2 b2 s2; have X5a := hW4.out.grown b1 hW4.out.size (fun k e => by injection e with e; omega); have X5 := hid (X5a.grown b2 X5a.size (fun k e => by injection e with e; omega)); have F5 := hid (BoxT.of (Zae (l := [Value.slice ad4 na4.length cd4, .int .i64 ra4]) ((b2.block _ (block_lt g1) (by simp)).trans g1))); have G5 := hid (Zae (l := hdC hH) g2); clear g1 b1 s1 g2 b2 s2 X5a ea4 eb4 hW4; have T5 := hid (T4.out.bel X5.out); have N5 := hid (Zab X5.out N4.out); have B5 := hid (Zab X5.out B4.out); have S5 := hid (Zab X5.out S4.out); have R5 := hid (R4.out.bel X5.out); have P5 := hid (P4.out.bel X5.out); have Q5 := hid (Q4.out.bel X5.out); have H5 := hid (H4.out.bel X5.out (Nat.lt_of_lt_of_le hlow.out W4.out.size)); have W5 := hid (W4.out.trans (X5.out.mono W4.out.size)); have E5 := hid (E4.out.bel X5.out); have Y5 := hid (Y4.out.bel X5.out); clear T4 N4 B4 S4 R4 P4 Q4 H4 W4 E4 Y4; have hx5 := (BoxH.of N5.out).h; have wo := wh.out; have wb := hhb2.out))
          go_ret
          exact ⟨rfl, W5.out⟩
        | false =>
        go_wp2_with (first
          | (with_reducible refine lDr T3.out.all hiT.out hut ?_ rfl rfl rfl rfl)
          | (with_reducible refine lDr N3.out jxh.out huh ?_ rfl rfl rfl rfl)
          | (with_reducible refine lDr B3.out jBd.out hub ?_ rfl rfl rfl rfl)
          | (with_reducible refine lDr S3.out hiS.out hu ?_ rfl rfl rfl rfl))
        refine (hAp.out _ R3.out P3.out Q3.out H3.out).mono ?_
        rintro e w4 ⟨⟨na4, ra4⟩, ad4, cd4, Rr4, rq4, rfl, ho, hq, hb, hok4⟩
        dsimp only at ho hok4 ⊢
        have T4 := hid (T3.out.bel hb)
        have N4 := hid (Zab hb N3.out)
        have B4 := hid (Zab hb B3.out)
        have S4 := hid (Zab hb S3.out)
        have R4 := hid (R3.out.bel hb)
        have P4 := hid (P3.out.bel hb)
        have Q4 := hid (Q3.out.bel hb)
        have H4 := hid (H3.out.bel hb (Nat.lt_of_lt_of_le hlow.out W3.out.size))
        have W4 := hid (W3.out.trans (hb.mono W3.out.size))
        clear T3 N3 B3 S3 R3 P3 Q3 H3 W3
        have E4 := hid (OwnR.row ho)
        have Y4 := hid (OwnR.row hq)
        replace hok4 := hid hok4
        clear hb ho hq hAp bx3
        have ea4 := hid (((Zad (w4.alloc (.cells zTrC 24)) (.cells zHdC 28)).block _ (by rw [World.size_alloc]; exact Nat.lt_succ_self _)).trans (heap_alloc_new w4 (.cells zTrC 24)))
        have eb4 := heap_alloc_new (w4.alloc (.cells zTrC 24)) (.cells zHdC 28)
        rw [World.size_alloc] at eb4
        replace eb4 := hid eb4
        have hW4 := hid (Zag (Zad w4 (.cells zTrC 24)) (Zad (w4.alloc (.cells zTrC 24)) (.cells zHdC 28)))
        have hiF := hid (show (Tryz.prog.info? 24).map (·.size) = some ([Value.slice ad4 na4.length cd4, .int .i64 ra4]).length from Zah)
        go_wp2_with (first
          | (with_reducible refine Zac rfl 24 rfl zTrC Zas ?_)
          | (with_reducible refine Zac rfl 28 rfl zHdC Za9 ?_)
          | ((with_reducible refine wpList_store_row rfl 24 (.tmp 12) (.tmp 57) rfl _ _ rfl rfl 24 zTrC ?_ ?_ ?_ ?_ ?_); exact ea4.out; exact Zah; rfl; exact Zat ad4 na4.length cd4 ra4; intro w5a g1 b1 s1; refine wpList_store_row rfl 28 (.tmp 13) (.tmp 58) rfl (w4.heap.size + 1) _ ?_ rfl 28 zHdC ?_ ?_ ?_ ?_ ?_; (first | rfl | (simp only [World.size_alloc]; rfl)); exact (b1.block _ (block_lt eb4.out) (by simp)).trans eb4.out; exact ahH.out; exact zhH.out; exact nhH.out; intro w5 g2 b2 s2; have X5a := hW4.out.grown b1 hW4.out.size (fun k e => by injection e with e; omega); have X5 := hid (X5a.grown b2 X5a.size (fun k e => by injection e with e; omega)); have F5 := hid (BoxT.of (Zae (l := [Value.slice ad4 na4.length cd4, .int .i64 ra4]) ((b2.block _ (block_lt g1) (by simp)).trans g1))); have G5 := hid (Zae (l := hdC hH) g2); clear g1 b1 s1 g2 b2 s2 X5a ea4 eb4 hW4; have T5 := hid (T4.out.bel X5.out); have N5 := hid (Zab X5.out N4.out); have B5 := hid (Zab X5.out B4.out); have S5 := hid (Zab X5.out S4.out); have R5 := hid (R4.out.bel X5.out); have P5 := hid (P4.out.bel X5.out); have Q5 := hid (Q4.out.bel X5.out); have H5 := hid (H4.out.bel X5.out (Nat.lt_of_lt_of_le hlow.out W4.out.size)); have W5 := hid (W4.out.trans (X5.out.mono W4.out.size)); have E5 := hid (E4.out.bel X5.out); have Y5 := hid (Y4.out.bel X5.out); clear T4 N4 B4 S4 R4 P4 Q4 H4 W4 E4 Y4; have hx5 := (BoxH.of N5.out).h; have wo := wh.out; have wb := hhb2.out))
        clear G5
        clear hx5 wo wb
        obtain ⟨i1, i2, i3⟩ := hin.out (by have := of_decide_eq_false hhb2.out; omega)
        have lk : (xs.take k).length = k := by rw [List.length_take]; omega
        have lk2 : (xs.drop k).length = xs.length - k := List.length_drop
        have hh1o := ZkW i2
        have hA1 := fun W hW hD hX hT => Zd6 (fun b => b < w.heap.size) (fun b => b < w.heap.size) (fun b => b < w.heap.size) A0 c0 ns root xh D0 d0 ds X0 e0 (xs.take k) box W hx hW (by omega) hD hX (by omega) (by omega) hT 0 (applyH ⟨ns, root⟩ xh ds (xs.take k) box) (applyR ⟨ns, root⟩ xh ds (xs.take k) box) (fun o => ApplyOk ⟨ns, root⟩ xh ds (xs.take k) box o) i1 rfl rfl (fun o ho => ho)
        rw [lk] at hA1
        obtain ⟨h1, hh1⟩ : ∃ y, applyH ⟨ns, root⟩ xh ds (xs.take k) box = y := ⟨_, rfl⟩
        obtain ⟨rs1, hr1⟩ : ∃ y, applyR ⟨ns, root⟩ xh ds (xs.take k) box = y := ⟨_, rfl⟩
        rw [hh1] at hA1 i2 hh1o
        simp only [hh1] at i3
        rw [hr1] at hA1
        simp only [hr1] at i3
        replace hA1 := hid (fun W hW hD (hX : Row (fun b => b < w.heap.size) W X0 xs) hT => hA1 W hW hD (hX.take k) hT)
        have hA2 := hid (fun (o : Tr) (ho : ApplyOk ⟨ns, root⟩ xh ds (xs.take k) box o) A c W (hW : Row (fun _ => True) W A o.ns) (hX : Row (fun b => b < w.heap.size) W X0 xs) hT => (show Calls Tryz.prog 13 #[.agg #[.slice A o.ns.length c, .int .i64 o.root], .agg (hdC h1).toArray, .agg #[.slice none 0 0, .slice (cutA X0 e0 k 99) (xs.length - k) (e0 - k)], .agg (box.1.map bv).toArray] W (BkQ 0 (applyH o h1 [] (xs.drop k) box) (applyR o h1 [] (xs.drop k) box) (fun p => mayA p = true ∧ p.ns.length ≤ 100000 ∧ allT p = L) W) from by
          obtain ⟨j1, j2, j3, j4, -, -⟩ := i3 o ho
          have := Zd6 (fun _ => True) (fun _ => False) (fun b => b < w.heap.size) A c o.ns o.root h1 none 0 [] (cutA X0 e0 k 99) (e0 - k) (xs.drop k) box W hh1o hW (by omega) (Row.nil _ _ _) (hX.cutA k e0 hkl hx1) (by simp) (by omega) hT 0 (applyH o h1 [] (xs.drop k) box) (applyR o h1 [] (xs.drop k) box) (fun p => mayA p = true ∧ p.ns.length ≤ 100000 ∧ allT p = L) j3 rfl rfl (fun p hp => ⟨(Zc4 j3 hp).1, by have := (Zc4 j3 hp).2.2.1; (try dsimp only at this); rw [lk2] at this; simp only [List.length_nil, Nat.mul_zero, Nat.add_zero] at this; omega, by rw [(Zc4 j3 hp).2.1, ← (Zbx j3).1, j4]⟩)
          rw [lk2] at this
          exact this))
        have hI4 := hid (fun o (ho : ApplyOk ⟨ns, root⟩ xh ds (xs.take k) box o) => (i3 o ho).2.2.2.2)
        have hok1 := hid (fun o (ho : ApplyOk ⟨ns, root⟩ xh ds (xs.take k) box o) => (show mayH (applyH o h1 [] (xs.drop k) box) = true from (Zjg (i3 o ho).2.2.2.2.2).1))
        have hPr := hid (fun (o : Tr) (F : Nat → Prop) A c W (hW : Row F W A o.ns) (h1 : mayA o = true) (h2 : o.ns.length ≤ 100000) (h3 : allT o = L) => (show Calls Tryz.prog 33 #[.agg #[.slice A o.ns.length c, .int .i64 o.root]] W fun e w' => ∃ A' c', e = .returned (.tuple #[.slice A' L.length c', .int .i64 0]) ∧ OwnR 84 w' W.heap.size A' c' L ∧ Below W.heap.size W w' from by
          have := ZbN F A c o.ns o.root W hW (by omega)
          rw [show pairsM ⟨o.ns, o.root⟩ = L by unfold pairsM; rw [if_pos (Zft h1).1]; exact h3, if_pos (Zft h1).1] at this
          exact this))
        have hcut := hid (Zcl Zsp X0 xs.length e0 k (by omega))
        have hcuf := hid (Zc7 Zsp X0 xs.length e0 k hkl)
        have bB := hid (Ztr D0 X0 ds.length d0 k e0)
        have bX := hid (Zts (cutA X0 e0 k 99) (xs.length - k) (e0 - k))
        have nh1 := hid (ZbM (h1))
        have jh1 := hid (Zbu (h1))
        have ah1 := hid (Zbg (h1))
        have zh1 := hid (Zbw (h1))
        clear i1 i2 i3 hin hh1 lk lk2
        replace hr1 := hid hr1
        replace hh1o := hid hh1o
        have bw5 := B5.out
        go_wp2_with fail
        refine ZsN (BpM w w5 k w4.heap.size Rr4 rs.length rq4 h1 rs1 (fun o => ApplyOk ⟨ns, root⟩ xh ds (xs.take k) box o)) ?first ?rest
        case first =>
          have q : Twn w5.drew (fun _ => none) := Twn.nil _
          have c1 := bw5 0 _ rfl
          have c2 := bw5 1 _ rfl
          focus
            refine wp_region_noPanic ?_
            refine wp_region_held_drew (S := fun w' => Below w5.heap.size w5 w') (by kernel_rfl) ?_ (fun hHeld => ?_)
            · exact Zao w5
            refine' tkM 0 rfl (fun _ h => Zab h T5.out.all) hut hiT.out ?_
            try simp only [sQ]
            refine' tkM 1 rfl (fun _ h => Zab h N5.out) huh jxh.out ?_
            try simp only [sQ]
            refine' tkP 2 rfl ?_
            try simp only [sQ]
            refine' tkL 3 ?_ rfl ?_ ?_
            rotate_left
            · intro W hSw
              have hCell := (hSw.cell (World.block_lt_of_cell? _ _ c1)).trans c1
              go_simp
              first | done | (with_reducible rfl)
            try simp only [sQ]
            refine' tkP 4 rfl ?_
            try simp only [sQ]
            refine' tkL 5 ?_ rfl ?_ ?_
            rotate_left
            · intro W hSw
              have hCell := (hSw.cell (World.block_lt_of_cell? _ _ c2)).trans c2
              go_simp
              first | done | (with_reducible rfl)
            try simp only [sQ]
            refine' tkP 6 rfl ?_
            try simp only [sQ]
            refine' tkH 7 rfl (Yb2 (by rfl) _ _ _ _ _ rfl _ _ _ _ _ (hcut.out) rfl rfl rfl rfl) ?_
            try simp only [sQ]
            refine' tkH 8 rfl (Yb1 (by rfl) _ _ rfl _ _ (bB.out) rfl) ?_
            try simp only [sQ]
            refine' tkM 9 rfl (fun _ h => Zab h S5.out) hu hiS.out ?_
            try simp only [sQ]
            refine rdH3 10 16 17 rfl rfl rfl (fun K hK => ?_) (fun K hK => ?_) (fun K hK => ?_)
            focus
              go_simp
              refine (hA1.out _ (R5.out.bel hHeld) (P5.out.bel hHeld) (Q5.out.bel hHeld) (H5.out.bel hHeld (Nat.lt_of_lt_of_le hlow.out W5.out.size))).mono ?_
              rintro e v10 ⟨⟨na1, ra1⟩, ad1, cd1, R1, q1, rfl, ho, hq, hB, hk1⟩
              replace q := Twn.own2 q 0 hB ho hq
              go_wp2_with fail
              refine hK.out _ _ (hHeld.trans (hB.mono hHeld.size)) fun hHeld => ?_
              clear hK K
              try simp only [sQ]
              refine' tkP 11 rfl ?_
              try simp only [sQ]
              refine' tkP 12 rfl ?_
              try simp only [sQ]
              refine' tkP 13 rfl ?_
              try simp only [sQ]
              refine' tkP 14 rfl ?_
              try simp only [sQ]
              refine' tkP 15 rfl ?_
              try simp only [sQ]
              refine rdH2 16 17 rfl rfl (fun K hK => ?_) (fun K hK => ?_)
              focus
                refine Zar rfl 24 rfl zTrC Zas ?_
                intro g16 v16 b16 e16 hB
                have n16 := Nat.le_trans hHeld.size b16
                replace q := Twn.box q 1 hB b16 e16
                refine hK.out _ _ (hHeld.trans (hB.mono hHeld.size)) fun hHeld => ?_
                clear hK K
                try simp only [sQ]
                refine rdH 17 rfl fun K hK => ?_
                refine Zar rfl 28 rfl zHdC Za9 ?_
                intro g17 v17 b17 e17 hB
                have n17 := Nat.le_trans hHeld.size b17
                replace q := Twn.box q 2 hB b17 e17
                refine hK.out _ _ (hHeld.trans (hB.mono hHeld.size)) fun hHeld => ?_
                clear hK K
                try simp only [sQ]
              rotate_left
              focus
                refine Zar rfl 28 rfl zHdC Za9 ?_
                intro g17 v17 b17 e17 hB
                have n17 := Nat.le_trans hHeld.size b17
                replace q := Twn.box q 2 hB b17 e17
                refine hK.out _ _ (hHeld.trans (hB.mono hHeld.size)) fun hHeld => ?_
                clear hK K
                try simp only [sQ]
                refine rdH 16 rfl fun K hK => ?_
                refine Zar rfl 24 rfl zTrC Zas ?_
                intro g16 v16 b16 e16 hB
                have n16 := Nat.le_trans hHeld.size b16
                replace q := Twn.box q 1 hB b16 e16
                refine hK.out _ _ (hHeld.trans (hB.mono hHeld.size)) fun hHeld => ?_
                clear hK K
                try simp only [sQ]
            rotate_left 2
            focus
              refine Zar rfl 24 rfl zTrC Zas ?_
              intro g16 v16 b16 e16 hB
              have n16 := Nat.le_trans hHeld.size b16
              replace q := Twn.box q 1 hB b16 e16
              refine hK.out _ _ (hHeld.trans (hB.mono hHeld.size)) fun hHeld => ?_
              clear hK K
              try simp only [sQ]
              refine rdH2 10 17 rfl rfl (fun K hK => ?_) (fun K hK => ?_)
              focus
                go_simp
                refine (hA1.out _ (R5.out.bel hHeld) (P5.out.bel hHeld) (Q5.out.bel hHeld) (H5.out.bel hHeld (Nat.lt_of_lt_of_le hlow.out W5.out.size))).mono ?_
                rintro e v10 ⟨⟨na1, ra1⟩, ad1, cd1, R1, q1, rfl, ho, hq, hB, hk1⟩
                replace q := Twn.own2 q 0 hB ho hq
                go_wp2_with fail
                refine hK.out _ _ (hHeld.trans (hB.mono hHeld.size)) fun hHeld => ?_
                clear hK K
                try simp only [sQ]
                refine' tkP 11 rfl ?_
                try simp only [sQ]
                refine' tkP 12 rfl ?_
                try simp only [sQ]
                refine' tkP 13 rfl ?_
                try simp only [sQ]
                refine' tkP 14 rfl ?_
                try simp only [sQ]
                refine' tkP 15 rfl ?_
                try simp only [sQ]
                refine rdH 17 rfl fun K hK => ?_
                refine Zar rfl 28 rfl zHdC Za9 ?_
                intro g17 v17 b17 e17 hB
                have n17 := Nat.le_trans hHeld.size b17
                replace q := Twn.box q 2 hB b17 e17
                refine hK.out _ _ (hHeld.trans (hB.mono hHeld.size)) fun hHeld => ?_
                clear hK K
                try simp only [sQ]
              rotate_left
              focus
                refine Zar rfl 28 rfl zHdC Za9 ?_
                intro g17 v17 b17 e17 hB
                have n17 := Nat.le_trans hHeld.size b17
                replace q := Twn.box q 2 hB b17 e17
                refine hK.out _ _ (hHeld.trans (hB.mono hHeld.size)) fun hHeld => ?_
                clear hK K
                try simp only [sQ]
                refine rdH 10 rfl fun K hK => ?_
                go_simp
                refine (hA1.out _ (R5.out.bel hHeld) (P5.out.bel hHeld) (Q5.out.bel hHeld) (H5.out.bel hHeld (Nat.lt_of_lt_of_le hlow.out W5.out.size))).mono ?_
                rintro e v10 ⟨⟨na1, ra1⟩, ad1, cd1, R1, q1, rfl, ho, hq, hB, hk1⟩
                replace q := Twn.own2 q 0 hB ho hq
                go_wp2_with fail
                refine hK.out _ _ (hHeld.trans (hB.mono hHeld.size)) fun hHeld => ?_
                clear hK K
                try simp only [sQ]
                refine' tkP 11 rfl ?_
                try simp only [sQ]
                refine' tkP 12 rfl ?_
                try simp only [sQ]
                refine' tkP 13 rfl ?_
                try simp only [sQ]
                refine' tkP 14 rfl ?_
                try simp only [sQ]
                refine' tkP 15 rfl ?_
                try simp only [sQ]
            rotate_left 2
            focus
              refine Zar rfl 28 rfl zHdC Za9 ?_
              intro g17 v17 b17 e17 hB
              have n17 := Nat.le_trans hHeld.size b17
              replace q := Twn.box q 2 hB b17 e17
              refine hK.out _ _ (hHeld.trans (hB.mono hHeld.size)) fun hHeld => ?_
              clear hK K
              try simp only [sQ]
              refine rdH2 10 16 rfl rfl (fun K hK => ?_) (fun K hK => ?_)
              focus
                go_simp
                refine (hA1.out _ (R5.out.bel hHeld) (P5.out.bel hHeld) (Q5.out.bel hHeld) (H5.out.bel hHeld (Nat.lt_of_lt_of_le hlow.out W5.out.size))).mono ?_
                rintro e v10 ⟨⟨na1, ra1⟩, ad1, cd1, R1, q1, rfl, ho, hq, hB, hk1⟩
                replace q := Twn.own2 q 0 hB ho hq
                go_wp2_with fail
                refine hK.out _ _ (hHeld.trans (hB.mono hHeld.size)) fun hHeld => ?_
                clear hK K
                try simp only [sQ]
                refine' tkP 11 rfl ?_
                try simp only [sQ]
                refine' tkP 12 rfl ?_
                try simp only [sQ]
                refine' tkP 13 rfl ?_
                try simp only [sQ]
                refine' tkP 14 rfl ?_
                try simp only [sQ]
                refine' tkP 15 rfl ?_
                try simp only [sQ]
                refine rdH 16 rfl fun K hK => ?_
                refine Zar rfl 24 rfl zTrC Zas ?_
                intro g16 v16 b16 e16 hB
                have n16 := Nat.le_trans hHeld.size b16
                replace q := Twn.box q 1 hB b16 e16
                refine hK.out _ _ (hHeld.trans (hB.mono hHeld.size)) fun hHeld => ?_
                clear hK K
                try simp only [sQ]
              rotate_left
              focus
                refine Zar rfl 24 rfl zTrC Zas ?_
                intro g16 v16 b16 e16 hB
                have n16 := Nat.le_trans hHeld.size b16
                replace q := Twn.box q 1 hB b16 e16
                refine hK.out _ _ (hHeld.trans (hB.mono hHeld.size)) fun hHeld => ?_
                clear hK K
                try simp only [sQ]
                refine rdH 10 rfl fun K hK => ?_
                go_simp
                refine (hA1.out _ (R5.out.bel hHeld) (P5.out.bel hHeld) (Q5.out.bel hHeld) (H5.out.bel hHeld (Nat.lt_of_lt_of_le hlow.out W5.out.size))).mono ?_
                rintro e v10 ⟨⟨na1, ra1⟩, ad1, cd1, R1, q1, rfl, ho, hq, hB, hk1⟩
                replace q := Twn.own2 q 0 hB ho hq
                go_wp2_with fail
                refine hK.out _ _ (hHeld.trans (hB.mono hHeld.size)) fun hHeld => ?_
                clear hK K
                try simp only [sQ]
                refine' tkP 11 rfl ?_
                try simp only [sQ]
                refine' tkP 12 rfl ?_
                try simp only [sQ]
                refine' tkP 13 rfl ?_
                try simp only [sQ]
                refine' tkP 14 rfl ?_
                try simp only [sQ]
                refine' tkP 15 rfl ?_
                try simp only [sQ]
            all_goals
              refine rdH 18 rfl fun K hK => ?_
              refine Zaj rfl 24 (.tmp 16) (.tmp 82) rfl g16 _ rfl rfl 24 zTrC (Twn.get q 1 rfl).2.2 Zah rfl (Zat ad1 na1.length cd1 ra1) ?_
              intro v18 d18 hG
              replace q := Twn.store q 1 rfl hG d18
              refine hK.out _ _ (hHeld.grown hG hHeld.size (by intro k hk; injection hk with hk; subst hk; exact n16)) fun hHeld => ?_
              clear hK K
              try simp only [sQ]
              refine rdH 19 rfl fun K hK => ?_
              refine Zaj rfl 28 (.tmp 17) (.tmp 83) rfl g17 _ rfl rfl 28 zHdC (Twn.get q 2 rfl).2.2 ah1.out zh1.out nh1.out ?_
              intro v19 d19 hG
              replace q := Twn.store q 2 rfl hG d19
              refine hK.out _ _ (hHeld.grown hG hHeld.size (by intro k hk; injection hk with hk; subst hk; exact n17)) fun hHeld => ?_
              clear hK K
              try simp only [sQ]
              refine' tkP 20 rfl ?_
              try simp only [sQ]
              refine' tkP 21 rfl ?_
              try simp only [sQ]
              refine dnH ?_
              refine NoPanic.normal ?_
              exact ⟨g16, g17, ⟨na1, ra1⟩, ad1, cd1, R1, q1, rfl, (Twn.get q 1 rfl).2.2, (Twn.get q 2 rfl).2.2, (OwnR.row (OwnM.own (Twn.get q 0 rfl).1)).mono (fun _ _ _ => trivial), (OwnR.row (OwnM.own (Twn.get q 0 rfl).2)).mono (fun _ _ _ => trivial), hHeld, hk1⟩
        case rest =>
          rintro a w6 ⟨g16, g17, ⟨na6, ra6⟩, ad6, cd6, Rm6, q6, ha, h16, h17, r1, r2, hb, ho1⟩
          obtain ⟨y, hy⟩ : ∃ y : Nat → Value, ∀ i, gv a i = y i := ⟨_, fun _ => rfl⟩
          simp only [hy] at ha
          subst ha
          clear hy hA1 bB hcut bw5
          have T6 := hid (T5.out.bel hb)
          have N6 := hid (Zab hb N5.out)
          have B6 := hid (Zab hb B5.out)
          have S6 := hid (Zab hb S5.out)
          have R6 := hid (R5.out.bel hb)
          have P6 := hid (P5.out.bel hb)
          have Q6 := hid (Q5.out.bel hb)
          have H6 := hid (H5.out.bel hb (Nat.lt_of_lt_of_le hlow.out W5.out.size))
          have W6 := hid (W5.out.trans (hb.mono W5.out.size))
          have E6 := hid (E5.out.bel hb)
          have Y6 := hid (Y5.out.bel hb)
          have F6 := hid (F5.out.bel hb)
          clear T5 N5 B5 S5 R5 P5 Q5 H5 W5 E5 Y5 F5
          dsimp only at h16 r1
          have O6 := hid (BoxT.of (Zae (l := [Value.slice ad6 na6.length cd6, .int .i64 ra6]) h16))
          have V6 := hid (Zae (l := hdC h1) h17)
          have I6 := hid r1
          have M6 := hid r2
          have hiO := hid (show (Tryz.prog.info? 24).map (·.size) = some ([Value.slice ad6 na6.length cd6, .int .i64 ra6]).length from Zah)
          have hA3 := hid (fun W hW hX hT => hA2.out ⟨na6, ra6⟩ ho1 ad6 cd6 W hW hX hT)
          have hI5 := hI4.out ⟨na6, ra6⟩ ho1
          have hI6 := ZkW (hok1.out ⟨na6, ra6⟩ ho1)
          dsimp only at hA3 hI5
          unfold BkQ at hA3
          generalize applyR ⟨na6, ra6⟩ h1 [] (xs.drop k) box = rs2 at *
          generalize applyH ⟨na6, ra6⟩ h1 [] (xs.drop k) box = h2 at *
          obtain ⟨hrr, hfo⟩ := hI5
          replace hrr := hid hrr
          replace hfo := hid hfo
          replace hI6 := hid hI6
          clear h16 h17 r1 r2 hb hA2 hI4 hok1 ho1
          have nh2 := hid (ZbM (h2))
          have jh2 := hid (Zbu (h2))
          have ah2 := hid (Zbg (h2))
          have zh2 := hid (Zbw (h2))
          go_wp2_with fail
          refine ZsN (BpN w w6 k w4.heap.size Rr4 rs.length rq4 g16 g17 Rm6 rs1.length q6 h2 rs2 (fun p => mayA p = true ∧ p.ns.length ≤ 100000 ∧ allT p = L)) ?first ?rest
          case first =>
            have q : Twn w6.drew (fun _ => none) := Twn.nil _
            have c2 := B6.out 1 _ rfl
            focus
              refine wp_region_noPanic ?_
              refine wp_region_held_drew (S := fun w' => Below w6.heap.size w6 w') (by kernel_rfl) ?_ (fun hHeld => ?_)
              · exact Zao w6
              refine' tkM 0 rfl (fun _ h => Zab h O6.out.all) hut hiO.out ?_
              try simp only [sQ]
              refine' tkM 1 rfl (fun _ h => Zab h V6.out) huh jh1.out ?_
              try simp only [sQ]
              refine' tkP 2 rfl ?_
              try simp only [sQ]
              refine' tkL 3 ?_ rfl ?_ ?_
              rotate_left
              · intro W hSw
                have hCell := (hSw.cell (World.block_lt_of_cell? _ _ c2)).trans c2
                go_simp
                first | done | (with_reducible rfl)
              try simp only [sQ]
              refine' tkP 4 rfl ?_
              try simp only [sQ]
              refine' tkH 5 rfl (Yb2 (by rfl) _ _ _ _ _ rfl _ _ _ _ _ (hcuf.out) rfl rfl rfl rfl) ?_
              try simp only [sQ]
              refine' tkH 6 rfl (Yb1 (by rfl) _ _ rfl _ _ (bX.out) rfl) ?_
              try simp only [sQ]
              refine' tkM 7 rfl (fun _ h => Zab h S6.out) hu hiS.out ?_
              try simp only [sQ]
              refine rdH3 8 14 15 rfl rfl rfl (fun K hK => ?_) (fun K hK => ?_) (fun K hK => ?_)
              focus
                go_simp
                refine (hA3.out _ (I6.out.bel hHeld) (Q6.out.bel hHeld) (H6.out.bel hHeld (Nat.lt_of_lt_of_le hlow.out W6.out.size))).mono ?_
                rintro e v10 ⟨⟨na1, ra1⟩, ad1, cd1, R1, q1, rfl, ho, hq, hB, hk1⟩
                replace q := Twn.own2 q 0 hB ho hq
                go_wp2_with fail
                refine hK.out _ _ (hHeld.trans (hB.mono hHeld.size)) fun hHeld => ?_
                clear hK K
                try simp only [sQ]
                refine' tkP 9 rfl ?_
                try simp only [sQ]
                refine' tkP 10 rfl ?_
                try simp only [sQ]
                refine' tkP 11 rfl ?_
                try simp only [sQ]
                refine' tkP 12 rfl ?_
                try simp only [sQ]
                refine' tkP 13 rfl ?_
                try simp only [sQ]
                refine rdH2 14 15 rfl rfl (fun K hK => ?_) (fun K hK => ?_)
                focus
                  refine Zar rfl 24 rfl zTrC Zas ?_
                  intro g20 v16 b16 e16 hB
                  have n16 := Nat.le_trans hHeld.size b16
                  replace q := Twn.box q 1 hB b16 e16
                  refine hK.out _ _ (hHeld.trans (hB.mono hHeld.size)) fun hHeld => ?_
                  clear hK K
                  try simp only [sQ]
                  refine rdH 15 rfl fun K hK => ?_
                  refine Zar rfl 28 rfl zHdC Za9 ?_
                  intro g21 v17 b17 e17 hB
                  have n17 := Nat.le_trans hHeld.size b17
                  replace q := Twn.box q 2 hB b17 e17
                  refine hK.out _ _ (hHeld.trans (hB.mono hHeld.size)) fun hHeld => ?_
                  clear hK K
                  try simp only [sQ]
                rotate_left
                focus
                  refine Zar rfl 28 rfl zHdC Za9 ?_
                  intro g21 v17 b17 e17 hB
                  have n17 := Nat.le_trans hHeld.size b17
                  replace q := Twn.box q 2 hB b17 e17
                  refine hK.out _ _ (hHeld.trans (hB.mono hHeld.size)) fun hHeld => ?_
                  clear hK K
                  try simp only [sQ]
                  refine rdH 14 rfl fun K hK => ?_
                  refine Zar rfl 24 rfl zTrC Zas ?_
                  intro g20 v16 b16 e16 hB
                  have n16 := Nat.le_trans hHeld.size b16
                  replace q := Twn.box q 1 hB b16 e16
                  refine hK.out _ _ (hHeld.trans (hB.mono hHeld.size)) fun hHeld => ?_
                  clear hK K
                  try simp only [sQ]
              rotate_left 2
              focus
                refine Zar rfl 24 rfl zTrC Zas ?_
                intro g20 v16 b16 e16 hB
                have n16 := Nat.le_trans hHeld.size b16
                replace q := Twn.box q 1 hB b16 e16
                refine hK.out _ _ (hHeld.trans (hB.mono hHeld.size)) fun hHeld => ?_
                clear hK K
                try simp only [sQ]
                refine rdH2 8 15 rfl rfl (fun K hK => ?_) (fun K hK => ?_)
                focus
                  go_simp
                  refine (hA3.out _ (I6.out.bel hHeld) (Q6.out.bel hHeld) (H6.out.bel hHeld (Nat.lt_of_lt_of_le hlow.out W6.out.size))).mono ?_
                  rintro e v10 ⟨⟨na1, ra1⟩, ad1, cd1, R1, q1, rfl, ho, hq, hB, hk1⟩
                  replace q := Twn.own2 q 0 hB ho hq
                  go_wp2_with fail
                  refine hK.out _ _ (hHeld.trans (hB.mono hHeld.size)) fun hHeld => ?_
                  clear hK K
                  try simp only [sQ]
                  refine' tkP 9 rfl ?_
                  try simp only [sQ]
                  refine' tkP 10 rfl ?_
                  try simp only [sQ]
                  refine' tkP 11 rfl ?_
                  try simp only [sQ]
                  refine' tkP 12 rfl ?_
                  try simp only [sQ]
                  refine' tkP 13 rfl ?_
                  try simp only [sQ]
                  refine rdH 15 rfl fun K hK => ?_
                  refine Zar rfl 28 rfl zHdC Za9 ?_
                  intro g21 v17 b17 e17 hB
                  have n17 := Nat.le_trans hHeld.size b17
                  replace q := Twn.box q 2 hB b17 e17
                  refine hK.out _ _ (hHeld.trans (hB.mono hHeld.size)) fun hHeld => ?_
                  clear hK K
                  try simp only [sQ]
                rotate_left
                focus
                  refine Zar rfl 28 rfl zHdC Za9 ?_
                  intro g21 v17 b17 e17 hB
                  have n17 := Nat.le_trans hHeld.size b17
                  replace q := Twn.box q 2 hB b17 e17
                  refine hK.out _ _ (hHeld.trans (hB.mono hHeld.size)) fun hHeld => ?_
                  clear hK K
                  try simp only [sQ]
                  refine rdH 8 rfl fun K hK => ?_
                  go_simp
                  refine (hA3.out _ (I6.out.bel hHeld) (Q6.out.bel hHeld) (H6.out.bel hHeld (Nat.lt_of_lt_of_le hlow.out W6.out.size))).mono ?_
                  rintro e v10 ⟨⟨na1, ra1⟩, ad1, cd1, R1, q1, rfl, ho, hq, hB, hk1⟩
                  replace q := Twn.own2 q 0 hB ho hq
                  go_wp2_with fail
                  refine hK.out _ _ (hHeld.trans (hB.mono hHeld.size)) fun hHeld => ?_
                  clear hK K
                  try simp only [sQ]
                  refine' tkP 9 rfl ?_
                  try simp only [sQ]
                  refine' tkP 10 rfl ?_
                  try simp only [sQ]
                  refine' tkP 11 rfl ?_
                  try simp only [sQ]
                  refine' tkP 12 rfl ?_
                  try simp only [sQ]
                  refine' tkP 13 rfl ?_
                  try simp only [sQ]
              rotate_left 2
              focus
                refine Zar rfl 28 rfl zHdC Za9 ?_
                intro g21 v17 b17 e17 hB
                have n17 := Nat.le_trans hHeld.size b17
                replace q := Twn.box q 2 hB b17 e17
                refine hK.out _ _ (hHeld.trans (hB.mono hHeld.size)) fun hHeld => ?_
                clear hK K
                try simp only [sQ]
                refine rdH2 8 14 rfl rfl (fun K hK => ?_) (fun K hK => ?_)
                focus
                  go_simp
                  refine (hA3.out _ (I6.out.bel hHeld) (Q6.out.bel hHeld) (H6.out.bel hHeld (Nat.lt_of_lt_of_le hlow.out W6.out.size))).mono ?_
                  rintro e v10 ⟨⟨na1, ra1⟩, ad1, cd1, R1, q1, rfl, ho, hq, hB, hk1⟩
                  replace q := Twn.own2 q 0 hB ho hq
                  go_wp2_with fail
                  refine hK.out _ _ (hHeld.trans (hB.mono hHeld.size)) fun hHeld => ?_
                  clear hK K
                  try simp only [sQ]
                  refine' tkP 9 rfl ?_
                  try simp only [sQ]
                  refine' tkP 10 rfl ?_
                  try simp only [sQ]
                  refine' tkP 11 rfl ?_
                  try simp only [sQ]
                  refine' tkP 12 rfl ?_
                  try simp only [sQ]
                  refine' tkP 13 rfl ?_
                  try simp only [sQ]
                  refine rdH 14 rfl fun K hK => ?_
                  refine Zar rfl 24 rfl zTrC Zas ?_
                  intro g20 v16 b16 e16 hB
                  have n16 := Nat.le_trans hHeld.size b16
                  replace q := Twn.box q 1 hB b16 e16
                  refine hK.out _ _ (hHeld.trans (hB.mono hHeld.size)) fun hHeld => ?_
                  clear hK K
                  try simp only [sQ]
                rotate_left
                focus
                  refine Zar rfl 24 rfl zTrC Zas ?_
                  intro g20 v16 b16 e16 hB
                  have n16 := Nat.le_trans hHeld.size b16
                  replace q := Twn.box q 1 hB b16 e16
                  refine hK.out _ _ (hHeld.trans (hB.mono hHeld.size)) fun hHeld => ?_
                  clear hK K
                  try simp only [sQ]
                  refine rdH 8 rfl fun K hK => ?_
                  go_simp
                  refine (hA3.out _ (I6.out.bel hHeld) (Q6.out.bel hHeld) (H6.out.bel hHeld (Nat.lt_of_lt_of_le hlow.out W6.out.size))).mono ?_
                  rintro e v10 ⟨⟨na1, ra1⟩, ad1, cd1, R1, q1, rfl, ho, hq, hB, hk1⟩
                  replace q := Twn.own2 q 0 hB ho hq
                  go_wp2_with fail
                  refine hK.out _ _ (hHeld.trans (hB.mono hHeld.size)) fun hHeld => ?_
                  clear hK K
                  try simp only [sQ]
                  refine' tkP 9 rfl ?_
                  try simp only [sQ]
                  refine' tkP 10 rfl ?_
                  try simp only [sQ]
                  refine' tkP 11 rfl ?_
                  try simp only [sQ]
                  refine' tkP 12 rfl ?_
                  try simp only [sQ]
                  refine' tkP 13 rfl ?_
                  try simp only [sQ]
              all_goals
                refine rdH 16 rfl fun K hK => ?_
                refine Zaj rfl 24 (.tmp 20) (.tmp 96) rfl g20 _ rfl rfl 24 zTrC (Twn.get q 1 rfl).2.2 Zah rfl (Zat ad1 na1.length cd1 ra1) ?_
                intro v18 d18 hG
                replace q := Twn.store q 1 rfl hG d18
                refine hK.out _ _ (hHeld.grown hG hHeld.size (by intro k hk; injection hk with hk; subst hk; exact n16)) fun hHeld => ?_
                clear hK K
                try simp only [sQ]
                refine rdH 17 rfl fun K hK => ?_
                refine Zaj rfl 28 (.tmp 21) (.tmp 97) rfl g21 _ rfl rfl 28 zHdC (Twn.get q 2 rfl).2.2 ah2.out zh2.out nh2.out ?_
                intro v19 d19 hG
                replace q := Twn.store q 2 rfl hG d19
                refine hK.out _ _ (hHeld.grown hG hHeld.size (by intro k hk; injection hk with hk; subst hk; exact n17)) fun hHeld => ?_
                clear hK K
                try simp only [sQ]
                refine' tkP 18 rfl ?_
                try simp only [sQ]
                refine' tkP 19 rfl ?_
                try simp only [sQ]
                refine dnH ?_
                refine NoPanic.normal ?_
                exact ⟨g20, g21, ⟨na1, ra1⟩, ad1, cd1, R1, q1, rfl, (Twn.get q 1 rfl).2.2, (Twn.get q 2 rfl).2.2, (OwnR.row (OwnM.own (Twn.get q 0 rfl).1)).mono (fun _ _ _ => trivial), (OwnR.row (OwnM.own (Twn.get q 0 rfl).2)).mono (fun _ _ _ => trivial), hHeld, hk1⟩
          case rest =>
            rintro a w7 ⟨g20, g21, ⟨na7, ra7⟩, ad7, cd7, Rm7, q7, ha, h20, h21, r1, r2, hb, hp7⟩
            obtain ⟨y2, hy⟩ : ∃ y : Nat → Value, ∀ i, gv a i = y i := ⟨_, fun _ => rfl⟩
            simp only [hy] at ha
            subst ha
            clear hy hA3 bX hcuf
            clear O6
            clear I6
            have T7 := hid (T6.out.bel hb)
            have N7 := hid (Zab hb N6.out)
            have B7 := hid (Zab hb B6.out)
            have S7 := hid (Zab hb S6.out)
            have R7 := hid (R6.out.bel hb)
            have P7 := hid (P6.out.bel hb)
            have Q7 := hid (Q6.out.bel hb)
            have H7 := hid (H6.out.bel hb (Nat.lt_of_lt_of_le hlow.out W6.out.size))
            have W7 := hid (W6.out.trans (hb.mono W6.out.size))
            have E7 := hid (E6.out.bel hb)
            have Y7 := hid (Y6.out.bel hb)
            have F7 := hid (F6.out.bel hb)
            have V7 := hid (Zab hb V6.out)
            have M7 := hid (M6.out.bel hb)
            clear T6 N6 B6 S6 R6 P6 Q6 H6 W6 E6 Y6 F6 V6 M6
            dsimp only at h20 r1
            have K7 := hid (BoxT.of (Zae (l := [Value.slice ad7 na7.length cd7, .int .i64 ra7]) h20))
            have U7 := hid (Zae (l := hdC h2) h21)
            have J7 := hid r1
            have Z7 := hid r2
            have hiK := hid (show (Tryz.prog.info? 24).map (·.size) = some ([Value.slice ad7 na7.length cd7, .int .i64 ra7]).length from Zah)
            obtain ⟨p1, p2, p3⟩ := hok4.out
            obtain ⟨p4, p5, p6⟩ := hp7
            have hP1 := hid (fun F W hW => hPr.out ⟨na4, ra4⟩ F ad4 cd4 W hW p1 p2 p3)
            have hP2 := hid (fun F W hW => hPr.out ⟨na7, ra7⟩ F ad7 cd7 W hW p4 p5 p6)
            dsimp only at hP1 hP2
            have hSp := fun (K G : Nat → Prop) A5 c5 A6 c6 W hW hV => ZbH K G A5 A6 c5 c6 L.length L.length L L W hW hV rfl rfl (by have := hL5.out; omega) (by have := hL5.out; omega)
            rw [decide_eq_true (rfl : L = L)] at hSp
            have hSr := fun (F G : Nat → Prop) A D c d W hW hV => ZmC F G A D c d rs (([] ++ rs1) ++ rs2) W hW hV (by have := hrl.out; omega) (by rw [List.nil_append, ← hrr.out]; have := hrl.out; omega)
            rw [decide_eq_true (show rs = ([] ++ rs1) ++ rs2 by rw [List.nil_append]; exact hrr.out)] at hSr
            rw [show (((([] : List Rc) ++ rs1) ++ rs2 : List Rc)).length = rs1.length + rs2.length by rw [List.nil_append, List.length_append]] at hSr
            have hFo := fun W hT => Zcw h2 h1 hI6.out hh1o.out W hT
            rw [hfo.out] at hFo
            have hl9 : rs1.length + rs2.length ≤ 40 := by have := hrl.out; rw [hrr.out, List.length_append] at this; omega
            replace hSp := hid hSp
            replace hSr := hid hSr
            replace hFo := hid hFo
            replace hl9 := hid hl9
            clear h20 h21 r1 r2 hb p1 p2 p3 p4 p5 p6 hPr hok4 hrr
            go_wp2_with (first
              | (with_reducible refine lDr F7.out.all hiF.out hut ?_ rfl rfl rfl rfl))
            refine (hP1.out _ _ E7.out).mono ?_
            rintro e w8 ⟨A8, c8, rfl, ho8, hb⟩
            have T8 := hid (T7.out.bel hb)
            have N8 := hid (Zab hb N7.out)
            have B8 := hid (Zab hb B7.out)
            have S8 := hid (Zab hb S7.out)
            have R8 := hid (R7.out.bel hb)
            have P8 := hid (P7.out.bel hb)
            have Q8 := hid (Q7.out.bel hb)
            have H8 := hid (H7.out.bel hb (Nat.lt_of_lt_of_le hlow.out W7.out.size))
            have W8 := hid (W7.out.trans (hb.mono W7.out.size))
            have E8 := hid (E7.out.bel hb)
            have Y8 := hid (Y7.out.bel hb)
            have F8 := hid (F7.out.bel hb)
            have V8 := hid (Zab hb V7.out)
            have M8 := hid (M7.out.bel hb)
            have K8 := hid (K7.out.bel hb)
            have U8 := hid (Zab hb U7.out)
            have J8 := hid (J7.out.bel hb)
            have Z8 := hid (Z7.out.bel hb)
            clear T7 N7 B7 S7 R7 P7 Q7 H7 W7 E7 Y7 F7 V7 M7 K7 U7 J7 Z7
            have a8 := hid (OwnR.row ho8)
            clear hb ho8 hP1
            go_wp2_with (first
              | (with_reducible refine lDr K8.out.all hiK.out hut ?_ rfl rfl rfl rfl))
            refine (hP2.out _ _ J8.out).mono ?_
            rintro e w9 ⟨A9, c9, rfl, ho9, hb⟩
            have T9 := hid (T8.out.bel hb)
            have N9 := hid (Zab hb N8.out)
            have B9 := hid (Zab hb B8.out)
            have S9 := hid (Zab hb S8.out)
            have R9 := hid (R8.out.bel hb)
            have P9 := hid (P8.out.bel hb)
            have Q9 := hid (Q8.out.bel hb)
            have H9 := hid (H8.out.bel hb (Nat.lt_of_lt_of_le hlow.out W8.out.size))
            have W9 := hid (W8.out.trans (hb.mono W8.out.size))
            have E9 := hid (E8.out.bel hb)
            have Y9 := hid (Y8.out.bel hb)
            have F9 := hid (F8.out.bel hb)
            have V9 := hid (Zab hb V8.out)
            have M9 := hid (M8.out.bel hb)
            have K9 := hid (K8.out.bel hb)
            have U9 := hid (Zab hb U8.out)
            have J9 := hid (J8.out.bel hb)
            have Z9 := hid (Z8.out.bel hb)
            have a9 := hid (a8.out.bel hb)
            clear T8 N8 B8 S8 R8 P8 Q8 H8 W8 E8 Y8 F8 V8 M8 K8 U8 J8 Z8 a8
            have b9 := hid (OwnR.row ho9)
            clear hb ho9 hP2
            go_wp2_with fail
            refine (hSp.out _ _ A8 c8 A9 c9 _ a9.out b9.out).mono ?_
            rintro e w10 ⟨rfl, hb⟩
            have T10 := hid (T9.out.bel hb)
            have N10 := hid (Zab hb N9.out)
            have B10 := hid (Zab hb B9.out)
            have S10 := hid (Zab hb S9.out)
            have R10 := hid (R9.out.bel hb)
            have P10 := hid (P9.out.bel hb)
            have Q10 := hid (Q9.out.bel hb)
            have H10 := hid (H9.out.bel hb (Nat.lt_of_lt_of_le hlow.out W9.out.size))
            have W10 := hid (W9.out.trans (hb.mono W9.out.size))
            have E10 := hid (E9.out.bel hb)
            have Y10 := hid (Y9.out.bel hb)
            have F10 := hid (F9.out.bel hb)
            have V10 := hid (Zab hb V9.out)
            have M10 := hid (M9.out.bel hb)
            have K10 := hid (K9.out.bel hb)
            have U10 := hid (Zab hb U9.out)
            have J10 := hid (J9.out.bel hb)
            have Z10 := hid (Z9.out.bel hb)
            have a10 := hid (a9.out.bel hb)
            have b10 := hid (b9.out.bel hb)
            clear T9 N9 B9 S9 R9 P9 Q9 H9 W9 E9 Y9 F9 V9 M9 K9 U9 J9 Z9 a9 b9
            clear hb hSp
            clear a10
            clear b10
            clear F10
            clear K10
            clear E10
            clear J10
            have o0 := hid (show OwnR 61 (w10.alloc (.cells #[] 61)) w10.heap.size (some ⟨w10.heap.size, 0, none⟩) 0 ([] : List Rc) from ⟨fun _ => False, Zbo w10 _ (Nat.le_refl _) (fun h => h), fun b hf => hf.elim⟩)
            have s1 := hid (Yfw (G := fun _ => False) (M10.out.alloc (.cells #[] 61)))

            go_wp2_with (first
              | ((with_reducible refine Za0 Zkg ?_ rfl ?_); rfl; try simp only [sQ])
              | (at_builtin; refine ZbS Zkg (by rfl) (.tmp 134) (.tmp 135) rfl w10.heap.size w10.heap.size (some ⟨w10.heap.size, 0, none⟩) Rm6 0 rs1.length 0 q6 [] rs1 (fun _ => False) rfl rfl rfl rfl o0.out s1.out (fun b hb => hb.elim) (by have := hl9.out; simp only [List.length_nil]; omega) (by rw [World.size_alloc]; omega) ?_; intro A11 c11 w11 ho11 hb11 hg11; have X11 := hid ((Zad w10 (.cells #[] 61)).trans hb11); have O11 := hid ho11; have s2 := hid (Yfw (G := fun _ => False) (Z10.out.bel X11.out)); clear ho11 hb11 hg11; try simp only [sQ])
              | (at_builtin; refine ZbS Zkg (by rfl) (.tmp 136) (.tmp 137) rfl w10.heap.size w10.heap.size A11 Rm7 _ rs2.length c11 q7 ([] ++ rs1) rs2 (fun _ => False) rfl rfl rfl rfl O11.out s2.out (fun b hb => hb.elim) (by have := hl9.out; simp only [List.nil_append]; omega) X11.out.size ?_; intro A12 c12 w12 ho12 hb12 hg12; have L12 := hid ho12; have X12 := hid (X11.out.trans hb12); have T12 := hid (T10.out.bel X12.out); have N12 := hid (Zab X12.out N10.out); have B12 := hid (Zab X12.out B10.out); have S12 := hid (Zab X12.out S10.out); have R12 := hid (R10.out.bel X12.out); have P12 := hid (P10.out.bel X12.out); have Q12 := hid (Q10.out.bel X12.out); have H12 := hid (H10.out.bel X12.out (Nat.lt_of_lt_of_le hlow.out W10.out.size)); have W12 := hid (W10.out.trans (X12.out.mono W10.out.size)); have Y12 := hid (Y10.out.bel X12.out); have V12 := hid (Zab X12.out V10.out); have M12 := hid (M10.out.bel X12.out); have U12 := hid (Zab X12.out U10.out); have Z12 := hid (Z10.out.bel X12.out); clear ho12 hb12 hg12; try simp only [sQ]))
            clear o0 s1 s2 O11 X11 T10 N10 B10 S10 R10 P10 Q10 H10 W10 Y10 V10 M10 U10 Z10
            have C12 := hid (OwnR.row L12.out)
            refine (hSr.out _ _ Rr4 A12 rq4 c12 _ Y12.out C12.out).mono ?_
            rintro e w13 ⟨rfl, hb⟩
            have T13 := hid (T12.out.bel hb)
            have N13 := hid (Zab hb N12.out)
            have B13 := hid (Zab hb B12.out)
            have S13 := hid (Zab hb S12.out)
            have R13 := hid (R12.out.bel hb)
            have P13 := hid (P12.out.bel hb)
            have Q13 := hid (Q12.out.bel hb)
            have H13 := hid (H12.out.bel hb (Nat.lt_of_lt_of_le hlow.out W12.out.size))
            have W13 := hid (W12.out.trans (hb.mono W12.out.size))
            have Y13 := hid (Y12.out.bel hb)
            have V13 := hid (Zab hb V12.out)
            have M13 := hid (M12.out.bel hb)
            have U13 := hid (Zab hb U12.out)
            have Z13 := hid (Z12.out.bel hb)
            clear T12 N12 B12 S12 R12 P12 Q12 H12 W12 Y12 V12 M12 U12 Z12
            clear hb hSr L12 C12 X12
            go_wp2_with (first
              | (with_reducible refine lDr U13.out jh2.out huh ?_ rfl rfl rfl rfl)
              | (with_reducible refine lDr V13.out jh1.out huh ?_ rfl rfl rfl rfl))
            refine (hFo.out _ H13.out).mono ?_
            rintro e w14 ⟨rfl, hb⟩
            go_wp2
            go_ret
            exact ⟨rfl, W13.out.trans (hb.mono W13.out.size)⟩
end Go.Proofs.YtomhoehlgagiiaaGreatDoor.blockParts
