/-
  The Go function ClashTells returns true: two proofs' first unlike inputs, and those of a tree and a proof, or the errors, are the document's: any tree and two proofs; they stay; its arguments read afterwards as before.
  Conditions: none. The frame around the walk was written by program (proof-skeleton.mjs).
-/
import Derived.Test.YtapnhdpgogfceaaGreatDoorRows
import Derived.Test.YtapnhdpgogfceaaGreatDoorDoor
import Derived.WalkKit
import Derived.ProofKit
import Derived.OpenShut
import Derived.ShutString
import Derived.ChangeOld
import Derived.Below
import Derived.Test.YtapnhdpgogfceaaGreatDoorClF
import Derived.Test.YtapnhdpgogfceaaGreatDoorRf9
import Derived.Test.YtapnhdpgogfceaaGreatDoorRf6
import Derived.Test.YtapnhdpgogfceaaGreatDoorRef06f
import Derived.Test.YtapnhdpgogfceaaGreatDoorRef07a
import Derived.Test.YtapnhdpgogfceaaGreatDoorRef07b
import Derived.Test.YtapnhdpgogfceaaGreatDoorTreeB
import Derived.Test.YtapnhdpgogfceaaGreatDoorTrB
import Derived.Test.YtapnhdpgogfceaaGreatDoorMem
import Derived.Test.YtapnhdpgogfceaaGreatDoorClX
namespace Go.Proofs.YtapnhdpgogfceaaGreatDoor.clashTells
open Go.ChangeShapes Go.WideShapes Go.ChangeAt Go.RowKit
open Go.ChangeMaps (open_string shut_string)
set_option linter.unusedVariables false

theorem own : ownKnob Tryz.prog.godebug = none := by kernel_rfl
theorem laidOut : laidOutB Tryz.prog = true := by kernel_rfl

/-- WHAT THE WALK IS TOLD OF A SLICE OF INTEGERS THAT CAME IN: it is nil; or it leads to a row of 'cap' cells, the numbers 'zs' (the first 'len' are its elements, the rest its spare room), each fitting its kind. -/
def IsRow (k : IntKind) (w : World) (a : Option Addr) (len cap : Nat) (zs : List Int) : Prop :=
  (a = none ∧ len = 0 ∧ cap = 0 ∧ zs = []) ∨
  ∃ x, a = some x ∧ len ≤ cap ∧ cap ≤ maxLen ∧ zs.length = cap ∧ (∀ i, i < zs.length → w.cell? (x.add i) = some (.int k (zs.getD i 0))) ∧ ∀ n ∈ zs, (Lit.int k n).wf = true

/-! ### the walk -/
open Go.Proofs.YtapnhdpgogfceaaGreatDoor
set_option linter.unusedSimpArgs false
set_option maxRecDepth 100000 in
set_option maxHeartbeats 16000000 in
theorem walk (x0 : Tr) (vs0 : List Value) (x1 : Pf) (vs1 : List Value) (x2 : Pf) (vs2 : List Value) (w : World) (w0 : Enc.rep (fun b => b < w.heap.size) w x0 vs0) (w1 : Enc.rep (fun b => b < w.heap.size) w x1 vs1) (w2 : Enc.rep (fun b => b < w.heap.size) w x2 vs2) (hT : Tab w) :
    Calls Tryz.prog 3 #[.agg vs0.toArray, .agg vs1.toArray, .agg vs2.toArray] w fun e w' => e = .returned (.bool true) ∧ Below w.heap.size w w' := by
  obtain ⟨A0, c0, rfl, hc0, hm0, hr, hI⟩ := rep_tr w0
  obtain ⟨ns, root⟩ := x0
  obtain ⟨A1, c1, D1, d1, rfl, ⟨hc1, hm1, hv1⟩, ⟨hd1, hn1, hs1⟩⟩ := rep_pf w1
  obtain ⟨A2, c2, D2, d2, rfl, ⟨hc2, hm2, hv2⟩, ⟨hd2, hn2, hs2⟩⟩ := rep_pf w2
  dsimp only at *
  have hcm : ns.length ≤ 9223372036854775807 := by unfold maxLen at hm0; omega
  obtain ⟨X0, Y0, Z0, W0⟩ := boxes9 w A0 ns.length c0 root x1 A1 c1 D1 d1 x2 A2 c2 D2 d2
  have hut := Tryz.underlying24
  have hup := Tryz.underlying30
  have jT := hid (show (Tryz.prog.info? 24).map (·.size) = some ([Value.slice A0 ns.length c0, .int .i64 root]).length from sizeTr)
  have j1 := hid (sizePfC x1 A1 c1 D1 d1)
  have j2 := hid (sizePfC x2 A2 c2 D2 d2)
  replace X0 := hid X0
  replace Y0 := hid Y0
  replace Z0 := hid Z0
  have W0 := hid W0
  have hlow := hT.low
  have fl : Hid (∀ W, Below w.heap.size w W → Row (fun b => b < w.heap.size) W A0 ns ∧ Row (fun b => b < w.heap.size) W A1 x1.v ∧ Row (fun b => b < w.heap.size) W D1 x1.ss ∧ Row (fun b => b < w.heap.size) W A2 x2.v ∧ Row (fun b => b < w.heap.size) W D2 x2.ss ∧ Tab W) := hid fun W hb => ⟨hr.bel hb, hv1.bel hb, hs1.bel hb, hv2.bel hb, hs2.bel hb, hT.bel hb hlow⟩
  obtain ⟨g0, hg0⟩ : ∃ gb, greatT ns 600 = gb := ⟨_, rfl⟩
  obtain ⟨g1, hg1⟩ : ∃ g1, (decide (100 < x1.v.length) || decide (300 < x1.ss.length)) = g1 := ⟨_, rfl⟩
  obtain ⟨g2, hg2⟩ : ∃ g2, (decide (100 < x2.v.length) || decide (300 < x2.ss.length)) = g2 := ⟨_, rfl⟩
  have hG0 := fun W hW => RGreatT_any (fun b => b < w.heap.size) A0 c0 600 ns root W hW hcm
  rw [hg0] at hG0
  have hG1 := hid (fun W => RPfGreat_is x1 A1 c1 D1 d1 g1 W hg1)
  have hG2 := hid (fun W => RPfGreat_is x2 A2 c2 D2 d2 g2 W hg2)
  have k0 : Hid (g0 = false → ns.length ≤ 600 ∧ ∀ x ∈ ns, x.v.length ≤ 1000000) := hid fun h => by
    obtain ⟨hlen, hvs⟩ := greatT_no (hg0.trans h)
    exact ⟨hlen, fun x hx => Nat.le_trans (hvs x hx) (by decide)⟩
  have k1 : Hid (g1 = false → x1.v.length ≤ 100 ∧ x1.ss.length ≤ 300) := hid fun h => by rw [← hg1] at h; simp at h; exact h
  have k2 : Hid (g2 = false → x2.v.length ≤ 100 ∧ x2.ss.length ≤ 300) := hid fun h => by rw [← hg2] at h; simp at h; exact h
  have CT := fun (k : ns.length ≤ 600 ∧ ∀ x ∈ ns, x.v.length ≤ 1000000) W hW => RTwinT_any (fun b => b < w.heap.size) A0 c0 ns root W hW (by omega) k.2
  have CP := fun (k : x1.v.length ≤ 100 ∧ x1.ss.length ≤ 300) W (h1 : Row (fun b => b < w.heap.size) W A1 x1.v) (h2 : Row (fun b => b < w.heap.size) W D1 x1.ss) => RPfTwin_any _ x1 A1 c1 D1 d1 W h1.rd (by omega) h2 (by omega)
  have CS := fun F A c D d W (h1 : Rd W A x1.v) (a1 : x1.v.length ≤ c) (a2 : c ≤ maxLen) (h2 : Row F W D x1.ss) (h3 : Row (fun b => b < w.heap.size) W A2 x2.v) (h4 : Row (fun b => b < w.heap.size) W D2 x2.ss) (h5 : Tab W) => ClSeek_any F _ x1 x2 A A2 c c2 D D2 d d2 W h1 a1 a2 h2 h3.rd hc2 hm2 h4 h5
  have RS := fun W (h1 : Row (fun b => b < w.heap.size) W A1 x1.v) (h2 : Row (fun b => b < w.heap.size) W D1 x1.ss) (h3 : Row (fun b => b < w.heap.size) W A2 x2.v) (h4 : Row (fun b => b < w.heap.size) W D2 x2.ss) => RSeek_any _ _ x1 x2 A1 A2 c1 c2 D1 D2 d1 d2 W h1.rd hc1 hm1 h2 h3.rd hc2 hm2 h4
  have CO := fun (k : ns.length ≤ 600 ∧ ∀ x ∈ ns, x.v.length ≤ 1000000) E B e F A c D d W (h0 : Row E W B ns) (h1 : Rd W A x1.v) (a1 : x1.v.length ≤ c) (a2 : c ≤ maxLen) (h2 : Row F W D x1.ss) (h5 : Tab W) => ClOf_any E F B e ns root x1 A c D d W h0 (by omega) h1 a1 a2 h2 h5
  have RO := fun (k : ns.length ≤ 600 ∧ ∀ x ∈ ns, x.v.length ≤ 1000000) W (h0 : Row (fun b => b < w.heap.size) W A0 ns) (h1 : Row (fun b => b < w.heap.size) W A1 x1.v) (h2 : Row (fun b => b < w.heap.size) W D1 x1.ss) => ROf9_any _ _ A0 c0 ns root x1 A1 c1 D1 d1 W h0 (by omega) k.2 h1.rd hc1 hm1 h2
  have MT := hid (fun F A c W (h : Row F W A ns) (h2 : Row (fun b => b < w.heap.size) W A0 ns) => RSameT_eq F _ A A0 c c0 ns root W h h2 hcm)
  have MP := fun (k : x1.v.length ≤ 100 ∧ x1.ss.length ≤ 300) F A c D d W (h1 : Rd W A x1.v) (h2 : Row F W D x1.ss) (h3 : Row (fun b => b < w.heap.size) W A1 x1.v) (h4 : Row (fun b => b < w.heap.size) W D1 x1.ss) => RPfSame_is F _ x1 x1 A A1 c c1 D D1 d d1 true W h1 h3.rd h2 h4 (by omega) (by omega) (by omega) (by omega) (decide_eq_true rfl)
  have EQ := hid (fun (l : List UInt8) A c A' c' W (h1 : Txt W A c l) (h2 : Txt W A' c' l) => RSame01_is A A' c c' l l true W h1.1 h2.1 (decide_eq_true rfl))
  have s1 := fun A c D d => hid (sizePfC x1 A c D d)
  have s2 := fun A c D d => hid (sizePfS x1 A c D d)
  have s3 := fun A c D d => hid (show zPfC.size = (pfC x1 A c D d).toArray.size from Eq.trans (show zPfC.size = 67 from rfl) (by rw [List.size_toArray, len_pf]))
  have s4 := fun A c D d => hid (one_pf x1 A c D d)
  obtain ⟨fN, hfN⟩ : ∃ f, pfC x1 = f := ⟨_, rfl⟩
  rw [hfN] at CP CS CO MP s1 s2 s3 s4
  clear hg0 hg1 hg2 w0 w1 w2 hI hv1 hs1 hv2 hs2 hc0 hm0 hd1 hn1 hd2 hn2 hc1 hm1 hc2 hm2 hr hT
  generalize seekP x1 x2 = SP at *
  generalize seekE x1 x2 = SE at *
  generalize ofP ⟨ns, root⟩ x1 = OP at *
  generalize ofE ⟨ns, root⟩ x1 = OE at *
  generalize hcs1 : pfC x1 A1 c1 D1 d1 = cs1 at *
  generalize pfC x2 A2 c2 D2 d2 = cs2 at *
  have hf1 : fN A1 c1 D1 d1 = cs1 := by rw [← hfN]; exact hcs1
  replace hf1 := hid hf1
  clear hcs1 hfN
  have sd1 := hid (s1 A1 c1 D1 d1)
  obtain ⟨csT, hcsT⟩ : ∃ cs, [Value.slice A0 ns.length c0, .int .i64 root] = cs := ⟨_, rfl⟩
  have hcsA : #[Value.slice A0 ns.length c0, .int .i64 root] = csT.toArray := by rw [← hcsT]
  rw [hcsA] at W0 X0 Y0 Z0 hG0 CT RO
  rw [hcsA]
  rw [hcsT] at X0 jT
  replace hG0 := hid hG0
  replace CT := hid CT
  rw [hf1.out] at CP
  replace CP := hid CP
  replace CS := hid CS
  replace RS := hid RS
  replace CO := hid CO
  replace RO := hid RO
  replace MP := hid MP
  replace MT := MT
  have hcsA2 := hid hcsA
  clear hcsA hcsT
  have q1 : (SE == SE) = true := by simp
  have q2 : (OE == OE) = true := by simp
  have hlw := hid hlow
  clear hlow
  have jm := hid jT.out
  go_enter Tryz.func3, Tryz.ntmps3
  go_wp2_with (first
    | ((with_reducible refine wpList_load_rng ?_ 24 (.tmp 3) rfl w.heap.size 0 rfl csT _ ?_ hut rfl jT.out ?_); rfl; exact X0.out)
    | ((with_reducible refine wpList_load_rng ?_ 30 (.tmp 4) rfl (w.heap.size + 1) 0 rfl cs1 _ ?_ hup rfl j1.out ?_); rfl; exact Y0.out)
    | ((with_reducible refine wpList_load_rng ?_ 30 (.tmp 5) rfl (w.heap.size + 1 + 1) 0 rfl cs2 _ ?_ hup rfl j2.out ?_); rfl; exact Z0.out))
  refine (hG0.out _ (fl.out _ W0.out).1).mono ?_
  rintro e w1 ⟨rfl, hb⟩
  have W1 := hid (W0.out.trans (hb.mono W0.out.size))
  have X1 := hid (rangeBel2 hb X0.out)
  have Y1 := hid (rangeBel2 hb Y0.out)
  have Z1 := hid (rangeBel2 hb Z0.out)
  clear hb
  cases g0 with
  | true =>
    go_wp2_with (first
      | ((with_reducible refine wpList_load_rng ?_ 24 (.tmp 3) rfl w.heap.size 0 rfl csT _ ?_ hut rfl jT.out ?_); rfl; exact X1.out)
      | ((with_reducible refine wpList_load_rng ?_ 30 (.tmp 4) rfl (w.heap.size + 1) 0 rfl cs1 _ ?_ hup rfl j1.out ?_); rfl; exact Y1.out)
      | ((with_reducible refine wpList_load_rng ?_ 30 (.tmp 5) rfl (w.heap.size + 1 + 1) 0 rfl cs2 _ ?_ hup rfl j2.out ?_); rfl; exact Z1.out))
    go_ret
    exact ⟨rfl, W1.out⟩
  | false =>
  have k0' := k0.out rfl
  clear k0
  have k0 := hid k0'
  replace CT := hid (CT.out k0')
  replace CO := hid (CO.out k0')
  replace RO := hid (RO.out k0')
  clear k0'
  go_wp2_with (first
    | ((with_reducible refine wpList_load_rng ?_ 24 (.tmp 3) rfl w.heap.size 0 rfl csT _ ?_ hut rfl jT.out ?_); rfl; exact X1.out)
    | ((with_reducible refine wpList_load_rng ?_ 30 (.tmp 4) rfl (w.heap.size + 1) 0 rfl cs1 _ ?_ hup rfl j1.out ?_); rfl; exact Y1.out)
    | ((with_reducible refine wpList_load_rng ?_ 30 (.tmp 5) rfl (w.heap.size + 1 + 1) 0 rfl cs2 _ ?_ hup rfl j2.out ?_); rfl; exact Z1.out))
  refine (hG1.out _).mono ?_
  rintro e w2 ⟨rfl, hb⟩
  have W2 := hid (W1.out.trans (hb.mono W1.out.size))
  have X2 := hid (rangeBel2 hb X1.out)
  have Y2 := hid (rangeBel2 hb Y1.out)
  have Z2 := hid (rangeBel2 hb Z1.out)
  clear hb
  cases g1 with
  | true =>
    go_wp2_with (first
      | ((with_reducible refine wpList_load_rng ?_ 24 (.tmp 3) rfl w.heap.size 0 rfl csT _ ?_ hut rfl jT.out ?_); rfl; exact X2.out)
      | ((with_reducible refine wpList_load_rng ?_ 30 (.tmp 4) rfl (w.heap.size + 1) 0 rfl cs1 _ ?_ hup rfl j1.out ?_); rfl; exact Y2.out)
      | ((with_reducible refine wpList_load_rng ?_ 30 (.tmp 5) rfl (w.heap.size + 1 + 1) 0 rfl cs2 _ ?_ hup rfl j2.out ?_); rfl; exact Z2.out))
    go_ret
    exact ⟨rfl, W2.out⟩
  | false =>
  have k1' := k1.out rfl
  clear k1
  have k1 := hid k1'
  replace CP := hid (CP.out k1')
  replace MP := hid (MP.out k1')
  clear k1'
  go_wp2_with (first
    | ((with_reducible refine wpList_load_rng ?_ 24 (.tmp 3) rfl w.heap.size 0 rfl csT _ ?_ hut rfl jT.out ?_); rfl; exact X2.out)
    | ((with_reducible refine wpList_load_rng ?_ 30 (.tmp 4) rfl (w.heap.size + 1) 0 rfl cs1 _ ?_ hup rfl j1.out ?_); rfl; exact Y2.out)
    | ((with_reducible refine wpList_load_rng ?_ 30 (.tmp 5) rfl (w.heap.size + 1 + 1) 0 rfl cs2 _ ?_ hup rfl j2.out ?_); rfl; exact Z2.out))
  refine (hG2.out _).mono ?_
  rintro e w3 ⟨rfl, hb⟩
  have W3 := hid (W2.out.trans (hb.mono W2.out.size))
  have X3 := hid (rangeBel2 hb X2.out)
  have Y3 := hid (rangeBel2 hb Y2.out)
  have Z3 := hid (rangeBel2 hb Z2.out)
  clear hb
  cases g2 with
  | true =>
    go_wp2
    go_ret
    exact ⟨rfl, W3.out⟩
  | false =>
  go_wp2
  refine Code.wp_mono (Q := fun e a wn => e = Exit.normal ∧ ∃ g4 g5 A3 c3 A4 c4 D4 d4, a = { tmps := #[.agg csT.toArray, .agg cs1.toArray, .agg cs2.toArray, .pointer (some ⟨w.heap.size, 0, none⟩), .pointer (some ⟨w.heap.size + 1, 0, none⟩), .pointer (some ⟨w.heap.size + 1 + 1, 0, none⟩), .bool false, .pointer (some ⟨g4, 0, none⟩), .pointer (some ⟨g5, 0, none⟩), undef, undef, undef, undef, undef, undef, undef, undef, undef, undef, undef, undef, undef, undef, .agg csT.toArray, .bool false, .bool false, .agg cs1.toArray, .bool false, .bool false, .bool false, .agg cs2.toArray, .bool false, .bool false, .agg csT.toArray, .agg #[.slice A3 ns.length c3, .int .i64 root], .agg cs1.toArray, .agg (fN A4 c4 D4 d4).toArray, undef, undef, undef, undef, undef, undef, undef, undef, undef, undef, undef, undef, undef, undef, undef, undef, undef, undef, undef, undef, undef, undef, undef, undef, undef, undef, undef, undef, undef, undef, undef, undef, undef, undef, undef, undef, undef, undef, undef, undef, undef, undef, undef, undef, undef, undef, undef, undef, undef, undef, undef, undef, undef, undef, undef, undef, undef, undef, undef, undef, undef, undef, undef, undef, undef, undef, undef, undef], defers := [] } ∧ Below w3.heap.size w3 wn ∧ wn.rangeAt g4 0 [.slice A3 ns.length c3, .int .i64 root] ∧ wn.rangeAt g5 0 (fN A4 c4 D4 d4) ∧ Row (fun b => b ≠ g4 ∧ b ≠ g5) wn A3 ns ∧ Row (fun b => b ≠ g4 ∧ b ≠ g5) wn A4 x1.v ∧ Row (fun b => b ≠ g4 ∧ b ≠ g5) wn D4 x1.ss ∧ x1.v.length ≤ c4 ∧ c4 ≤ maxLen) ?_ ?_
  rotate_left
  · clear CS RS CO RO MP MT EQ q1 q2
    refine wp_region_noPanic ?_
    refine wp_region_held_drew (S := fun w' => Below w3.heap.size w3 w') (by kernel_rfl) ?_ (fun hHeld => ?_)
    · exact bel_drew w3
    refine' wpAnyH_take (i := 0) (oi := _) (v := _) rfl (by kernel_rfl) (by kernel_rfl) (by kernel_rfl) (fun _ _ _ h => h) (yieldsIf_load_mid (by rfl) _ _ rfl _ _ rfl _ _ (fun _ h => rangeBel2 h X3.out) hut rfl jT.out) (by assumption) ?_
    try simp only [Act.put, sQa, sQb, sQc, gQa, gQb, gQc]
    refine' wpAnyH_take (i := 2) (oi := _) (v := _) rfl (by kernel_rfl) (by kernel_rfl) (by kernel_rfl) (fun _ _ _ h => h) (yieldsIf_load_mid (by rfl) _ _ rfl _ _ rfl _ _ (fun _ h => rangeBel2 h Y3.out) hup rfl j1.out) (by assumption) ?_
    try simp only [Act.put, sQa, sQb, sQc, gQa, gQb, gQc]
    refine wpAnyH_ready (rs := [1, 4, 5]) (by kernel_rfl) (by simp) ?_
    refine AllReadyH.cons (o := _) rfl (fun K hK => ?_) ?_
    · skip
      go_simp
      refine (CT.out _ (fl.out _ (W3.out.trans (hHeld.mono W3.out.size))).1).mono ?_
      rintro e v1 ⟨A3, c3, rfl, ho, hB⟩
      go_wp2_with fail
      have R1 := hid ((OwnR.row ho).mono (G := fun b => 0 ≤ b) (fun b hb _ => by omega))
      refine hK.out _ _ ?_ (fun hHeld => ?_)
      · exact hHeld.trans (hB.mono hHeld.size)
      clear hK K
      try simp only [Act.put, sQa, sQb, sQc, gQa, gQb, gQc]
      refine wpAnyH_ready (rs := [3, 4, 5]) (by kernel_rfl) (by simp) ?_
      refine AllReadyH.cons (o := _) rfl (fun K hK => ?_) ?_
      · skip
        go_simp
        refine (CP.out _ (fl.out _ (W3.out.trans (hHeld.mono W3.out.size))).2.1 (fl.out _ (W3.out.trans (hHeld.mono W3.out.size))).2.2.1).mono ?_
        rintro e v2 ⟨A4, c4, D4, d4, M, rfl, ho, hq, hM, hA4, hB⟩
        go_wp2_with fail
        have R2 := hid (R1.out.bel hB)
        have P2 := hid ((ho.rd.row (fun a ha _ => (ho.blk a ha).1)).mono (G := fun b => 0 ≤ b) (fun b hb _ => by omega))
        have Q2 := hid ((OwnR.row hq).mono (G := fun b => 0 ≤ b) (fun b hb _ => by omega))
        have cp := hid ho.cap
        refine hK.out _ _ ?_ (fun hHeld => ?_)
        · exact hHeld.trans (hB.mono hHeld.size)
        clear hK K
        try simp only [Act.put, sQa, sQb, sQc, gQa, gQb, gQc]
        refine wpAnyH_ready (rs := [4, 5]) (by kernel_rfl) (by simp) ?_
        refine AllReadyH.cons (o := _) rfl (fun K hK => ?_) ?_
        · skip
          refine step_alloc_rowT (by rfl) 24 rfl zTrC zInfoTr ?_
          intro g4 v3 hge Eg4 hB
          have Eg4_3 := hid Eg4
          clear Eg4
          have hsg4 : w3.heap.size ≤ g4 := Nat.le_trans hHeld.size hge
          have R3 := hid ((R2.out.mono (G := fun b => b ≠ g4) (fun b hb hl => by omega)).bel hB)
          have P3 := hid ((P2.out.mono (G := fun b => b ≠ g4) (fun b hb hl => by omega)).bel hB)
          have Q3 := hid ((Q2.out.mono (G := fun b => b ≠ g4) (fun b hb hl => by omega)).bel hB)
          refine hK.out _ _ ?_ (fun hHeld => ?_)
          · exact hHeld.trans (hB.mono hHeld.size)
          clear hK K
          try simp only [Act.put, sQa, sQb, sQc, gQa, gQb, gQc]
          refine wpAnyH_ready (rs := [5]) (by kernel_rfl) (by simp) ?_
          refine AllReadyH.cons (o := _) rfl (fun K hK => ?_) AllReadyH.nil
          refine step_alloc_rowT (by rfl) 30 rfl zPfC zInfoPf ?_
          intro g5 v4 hge Eg5 hB
          have Eg5_4 := hid Eg5
          clear Eg5
          have hsg5 : w3.heap.size ≤ g5 := Nat.le_trans hHeld.size hge
          have lg4 := block_lt Eg4_3.out
          have ne45 : g4 ≠ g5 := by omega
          have Eg4_4 := hid ((hB.block _ lg4).trans Eg4_3.out)
          have R4 := hid ((R3.out.mono (G := fun b => b ≠ g4 ∧ b ≠ g5) (fun b hb hl => by omega)).bel hB)
          have P4 := hid ((P3.out.mono (G := fun b => b ≠ g4 ∧ b ≠ g5) (fun b hb hl => by omega)).bel hB)
          have Q4 := hid ((Q3.out.mono (G := fun b => b ≠ g4 ∧ b ≠ g5) (fun b hb hl => by omega)).bel hB)
          refine hK.out _ _ ?_ (fun hHeld => ?_)
          · exact hHeld.trans (hB.mono hHeld.size)
          clear hK K
          try simp only [Act.put, sQa, sQb, sQc, gQa, gQb, gQc]
          refine wpAnyH_ready (rs := [6]) (by kernel_rfl) (by simp) ?_
          refine AllReadyH.cons (o := _) rfl (fun K hK => ?_) AllReadyH.nil
          refine step_store_rowT (by rfl) 24 (.tmp 7) (.tmp 34) rfl g4 _ rfl rfl 24 zTrC Eg4_4.out sizeTr rfl (one_tr A3 ns.length c3 root) ?_
          intro v5 hg hG
          have lg5 := block_lt Eg5_4.out
          have R5 := hid (R4.out.kept (fun b hb hl => hG.block b hl (by simp; omega)) hG.size)
          have P5 := hid (P4.out.kept (fun b hb hl => hG.block b hl (by simp; omega)) hG.size)
          have Q5 := hid (Q4.out.kept (fun b hb hl => hG.block b hl (by simp; omega)) hG.size)
          have Eg5_5 := hid ((hG.block g5 lg5 (by simp; omega)).trans Eg5_4.out)
          have hN4 := hid hg
          refine hK.out _ _ ?_ (fun hHeld => ?_)
          · exact hHeld.grown hG hHeld.size (fun k e => by injection e with e; omega)
          clear hK K
          try simp only [Act.put, sQa, sQb, sQc, gQa, gQb, gQc]
          refine wpAnyH_ready (rs := [7]) (by kernel_rfl) (by simp) ?_
          refine AllReadyH.cons (o := _) rfl (fun K hK => ?_) AllReadyH.nil
          refine step_store_rowT (by rfl) 30 (.tmp 8) (.tmp 36) rfl g5 _ rfl rfl 30 zPfC Eg5_5.out (s2 A4 c4 D4 d4).out (s3 A4 c4 D4 d4).out (s4 A4 c4 D4 d4).out ?_
          intro v6 hg hG
          have lg4 := block_lt (show v5.heap[g4]? = _ from hN4.out)
          have R6 := hid (R5.out.kept (fun b hb hl => hG.block b hl (by simp; omega)) hG.size)
          have P6 := hid (P5.out.kept (fun b hb hl => hG.block b hl (by simp; omega)) hG.size)
          have Q6 := hid (Q5.out.kept (fun b hb hl => hG.block b hl (by simp; omega)) hG.size)
          have hN5 := (hG.block g4 lg4 (by simp; omega)).trans hN4.out
          refine hK.out _ _ ?_ (fun hHeld => ?_)
          · exact hHeld.grown hG hHeld.size (fun k e => by injection e with e; omega)
          clear hK K
          try simp only [Act.put, sQa, sQb, sQc, gQa, gQb, gQc]
          refine wpAnyH_done (by kernel_rfl) ?_ _
          refine NoPanic.normal ?_
          exact ⟨rfl, g4, g5, A3, c3, A4, c4, D4, d4, rfl, hHeld, rangeOf (l := [Value.slice A3 ns.length c3, .int .i64 root]) hN5, rangeOf hg, R6.out.mono (fun b hb _ => by omega), P6.out.mono (fun b hb _ => by omega), Q6.out.mono (fun b hb _ => by omega), cp.out.1, cp.out.2⟩
        refine AllReadyH.cons (o := _) rfl (fun K hK => ?_) ?_
        · skip
          refine step_alloc_rowT (by rfl) 30 rfl zPfC zInfoPf ?_
          intro g5 v3 hge Eg5 hB
          have Eg5_3 := hid Eg5
          clear Eg5
          have hsg5 : w3.heap.size ≤ g5 := Nat.le_trans hHeld.size hge
          have R3 := hid ((R2.out.mono (G := fun b => b ≠ g5) (fun b hb hl => by omega)).bel hB)
          have P3 := hid ((P2.out.mono (G := fun b => b ≠ g5) (fun b hb hl => by omega)).bel hB)
          have Q3 := hid ((Q2.out.mono (G := fun b => b ≠ g5) (fun b hb hl => by omega)).bel hB)
          refine hK.out _ _ ?_ (fun hHeld => ?_)
          · exact hHeld.trans (hB.mono hHeld.size)
          clear hK K
          try simp only [Act.put, sQa, sQb, sQc, gQa, gQb, gQc]
          refine wpAnyH_ready (rs := [4]) (by kernel_rfl) (by simp) ?_
          refine AllReadyH.cons (o := _) rfl (fun K hK => ?_) AllReadyH.nil
          refine step_alloc_rowT (by rfl) 24 rfl zTrC zInfoTr ?_
          intro g4 v4 hge Eg4 hB
          have Eg4_4 := hid Eg4
          clear Eg4
          have hsg4 : w3.heap.size ≤ g4 := Nat.le_trans hHeld.size hge
          have lg5 := block_lt Eg5_3.out
          have ne45 : g5 ≠ g4 := by omega
          have Eg5_4 := hid ((hB.block _ lg5).trans Eg5_3.out)
          have R4 := hid ((R3.out.mono (G := fun b => b ≠ g5 ∧ b ≠ g4) (fun b hb hl => by omega)).bel hB)
          have P4 := hid ((P3.out.mono (G := fun b => b ≠ g5 ∧ b ≠ g4) (fun b hb hl => by omega)).bel hB)
          have Q4 := hid ((Q3.out.mono (G := fun b => b ≠ g5 ∧ b ≠ g4) (fun b hb hl => by omega)).bel hB)
          refine hK.out _ _ ?_ (fun hHeld => ?_)
          · exact hHeld.trans (hB.mono hHeld.size)
          clear hK K
          try simp only [Act.put, sQa, sQb, sQc, gQa, gQb, gQc]
          refine wpAnyH_ready (rs := [6]) (by kernel_rfl) (by simp) ?_
          refine AllReadyH.cons (o := _) rfl (fun K hK => ?_) AllReadyH.nil
          refine step_store_rowT (by rfl) 24 (.tmp 7) (.tmp 34) rfl g4 _ rfl rfl 24 zTrC Eg4_4.out sizeTr rfl (one_tr A3 ns.length c3 root) ?_
          intro v5 hg hG
          have lg5 := block_lt Eg5_4.out
          have R5 := hid (R4.out.kept (fun b hb hl => hG.block b hl (by simp; omega)) hG.size)
          have P5 := hid (P4.out.kept (fun b hb hl => hG.block b hl (by simp; omega)) hG.size)
          have Q5 := hid (Q4.out.kept (fun b hb hl => hG.block b hl (by simp; omega)) hG.size)
          have Eg5_5 := hid ((hG.block g5 lg5 (by simp; omega)).trans Eg5_4.out)
          have hN4 := hid hg
          refine hK.out _ _ ?_ (fun hHeld => ?_)
          · exact hHeld.grown hG hHeld.size (fun k e => by injection e with e; omega)
          clear hK K
          try simp only [Act.put, sQa, sQb, sQc, gQa, gQb, gQc]
          refine wpAnyH_ready (rs := [7]) (by kernel_rfl) (by simp) ?_
          refine AllReadyH.cons (o := _) rfl (fun K hK => ?_) AllReadyH.nil
          refine step_store_rowT (by rfl) 30 (.tmp 8) (.tmp 36) rfl g5 _ rfl rfl 30 zPfC Eg5_5.out (s2 A4 c4 D4 d4).out (s3 A4 c4 D4 d4).out (s4 A4 c4 D4 d4).out ?_
          intro v6 hg hG
          have lg4 := block_lt (show v5.heap[g4]? = _ from hN4.out)
          have R6 := hid (R5.out.kept (fun b hb hl => hG.block b hl (by simp; omega)) hG.size)
          have P6 := hid (P5.out.kept (fun b hb hl => hG.block b hl (by simp; omega)) hG.size)
          have Q6 := hid (Q5.out.kept (fun b hb hl => hG.block b hl (by simp; omega)) hG.size)
          have hN5 := (hG.block g4 lg4 (by simp; omega)).trans hN4.out
          refine hK.out _ _ ?_ (fun hHeld => ?_)
          · exact hHeld.grown hG hHeld.size (fun k e => by injection e with e; omega)
          clear hK K
          try simp only [Act.put, sQa, sQb, sQc, gQa, gQb, gQc]
          refine wpAnyH_done (by kernel_rfl) ?_ _
          refine NoPanic.normal ?_
          exact ⟨rfl, g4, g5, A3, c3, A4, c4, D4, d4, rfl, hHeld, rangeOf (l := [Value.slice A3 ns.length c3, .int .i64 root]) hN5, rangeOf hg, R6.out.mono (fun b hb _ => by omega), P6.out.mono (fun b hb _ => by omega), Q6.out.mono (fun b hb _ => by omega), cp.out.1, cp.out.2⟩
        exact AllReadyH.nil
      refine AllReadyH.cons (o := _) rfl (fun K hK => ?_) ?_
      · skip
        refine step_alloc_rowT (by rfl) 24 rfl zTrC zInfoTr ?_
        intro g4 v2 hge Eg4 hB
        have Eg4_2 := hid Eg4
        clear Eg4
        have hsg4 : w3.heap.size ≤ g4 := Nat.le_trans hHeld.size hge
        have R2 := hid ((R1.out.mono (G := fun b => b ≠ g4) (fun b hb hl => by omega)).bel hB)
        refine hK.out _ _ ?_ (fun hHeld => ?_)
        · exact hHeld.trans (hB.mono hHeld.size)
        clear hK K
        try simp only [Act.put, sQa, sQb, sQc, gQa, gQb, gQc]
        refine wpAnyH_ready (rs := [3, 5]) (by kernel_rfl) (by simp) ?_
        refine AllReadyH.cons (o := _) rfl (fun K hK => ?_) ?_
        · skip
          go_simp
          refine (CP.out _ (fl.out _ (W3.out.trans (hHeld.mono W3.out.size))).2.1 (fl.out _ (W3.out.trans (hHeld.mono W3.out.size))).2.2.1).mono ?_
          rintro e v3 ⟨A4, c4, D4, d4, M, rfl, ho, hq, hM, hA4, hB⟩
          go_wp2_with fail
          have R3 := hid (R2.out.bel hB)
          have Eg4_3 := hid ((hB.block _ (block_lt Eg4_2.out)).trans Eg4_2.out)
          have lg4 := block_lt Eg4_2.out
          have P3 := hid ((ho.rd.row (fun a ha _ => (ho.blk a ha).1)).mono (G := fun b => b ≠ g4) (fun b hb _ => by omega))
          have Q3 := hid ((OwnR.row hq).mono (G := fun b => b ≠ g4) (fun b hb _ => by omega))
          have cp := hid ho.cap
          refine hK.out _ _ ?_ (fun hHeld => ?_)
          · exact hHeld.trans (hB.mono hHeld.size)
          clear hK K
          try simp only [Act.put, sQa, sQb, sQc, gQa, gQb, gQc]
          refine wpAnyH_ready (rs := [5]) (by kernel_rfl) (by simp) ?_
          refine AllReadyH.cons (o := _) rfl (fun K hK => ?_) AllReadyH.nil
          refine step_alloc_rowT (by rfl) 30 rfl zPfC zInfoPf ?_
          intro g5 v4 hge Eg5 hB
          have Eg5_4 := hid Eg5
          clear Eg5
          have hsg5 : w3.heap.size ≤ g5 := Nat.le_trans hHeld.size hge
          have lg4 := block_lt Eg4_3.out
          have ne45 : g4 ≠ g5 := by omega
          have Eg4_4 := hid ((hB.block _ lg4).trans Eg4_3.out)
          have R4 := hid ((R3.out.mono (G := fun b => b ≠ g4 ∧ b ≠ g5) (fun b hb hl => by omega)).bel hB)
          have P4 := hid ((P3.out.mono (G := fun b => b ≠ g4 ∧ b ≠ g5) (fun b hb hl => by omega)).bel hB)
          have Q4 := hid ((Q3.out.mono (G := fun b => b ≠ g4 ∧ b ≠ g5) (fun b hb hl => by omega)).bel hB)
          refine hK.out _ _ ?_ (fun hHeld => ?_)
          · exact hHeld.trans (hB.mono hHeld.size)
          clear hK K
          try simp only [Act.put, sQa, sQb, sQc, gQa, gQb, gQc]
          refine wpAnyH_ready (rs := [6]) (by kernel_rfl) (by simp) ?_
          refine AllReadyH.cons (o := _) rfl (fun K hK => ?_) AllReadyH.nil
          refine step_store_rowT (by rfl) 24 (.tmp 7) (.tmp 34) rfl g4 _ rfl rfl 24 zTrC Eg4_4.out sizeTr rfl (one_tr A3 ns.length c3 root) ?_
          intro v5 hg hG
          have lg5 := block_lt Eg5_4.out
          have R5 := hid (R4.out.kept (fun b hb hl => hG.block b hl (by simp; omega)) hG.size)
          have P5 := hid (P4.out.kept (fun b hb hl => hG.block b hl (by simp; omega)) hG.size)
          have Q5 := hid (Q4.out.kept (fun b hb hl => hG.block b hl (by simp; omega)) hG.size)
          have Eg5_5 := hid ((hG.block g5 lg5 (by simp; omega)).trans Eg5_4.out)
          have hN4 := hid hg
          refine hK.out _ _ ?_ (fun hHeld => ?_)
          · exact hHeld.grown hG hHeld.size (fun k e => by injection e with e; omega)
          clear hK K
          try simp only [Act.put, sQa, sQb, sQc, gQa, gQb, gQc]
          refine wpAnyH_ready (rs := [7]) (by kernel_rfl) (by simp) ?_
          refine AllReadyH.cons (o := _) rfl (fun K hK => ?_) AllReadyH.nil
          refine step_store_rowT (by rfl) 30 (.tmp 8) (.tmp 36) rfl g5 _ rfl rfl 30 zPfC Eg5_5.out (s2 A4 c4 D4 d4).out (s3 A4 c4 D4 d4).out (s4 A4 c4 D4 d4).out ?_
          intro v6 hg hG
          have lg4 := block_lt (show v5.heap[g4]? = _ from hN4.out)
          have R6 := hid (R5.out.kept (fun b hb hl => hG.block b hl (by simp; omega)) hG.size)
          have P6 := hid (P5.out.kept (fun b hb hl => hG.block b hl (by simp; omega)) hG.size)
          have Q6 := hid (Q5.out.kept (fun b hb hl => hG.block b hl (by simp; omega)) hG.size)
          have hN5 := (hG.block g4 lg4 (by simp; omega)).trans hN4.out
          refine hK.out _ _ ?_ (fun hHeld => ?_)
          · exact hHeld.grown hG hHeld.size (fun k e => by injection e with e; omega)
          clear hK K
          try simp only [Act.put, sQa, sQb, sQc, gQa, gQb, gQc]
          refine wpAnyH_done (by kernel_rfl) ?_ _
          refine NoPanic.normal ?_
          exact ⟨rfl, g4, g5, A3, c3, A4, c4, D4, d4, rfl, hHeld, rangeOf (l := [Value.slice A3 ns.length c3, .int .i64 root]) hN5, rangeOf hg, R6.out.mono (fun b hb _ => by omega), P6.out.mono (fun b hb _ => by omega), Q6.out.mono (fun b hb _ => by omega), cp.out.1, cp.out.2⟩
        refine AllReadyH.cons (o := _) rfl (fun K hK => ?_) ?_
        · skip
          refine step_alloc_rowT (by rfl) 30 rfl zPfC zInfoPf ?_
          intro g5 v3 hge Eg5 hB
          have Eg5_3 := hid Eg5
          clear Eg5
          have hsg5 : w3.heap.size ≤ g5 := Nat.le_trans hHeld.size hge
          have lg4 := block_lt Eg4_2.out
          have ne45 : g4 ≠ g5 := by omega
          have Eg4_3 := hid ((hB.block _ lg4).trans Eg4_2.out)
          have R3 := hid ((R2.out.mono (G := fun b => b ≠ g4 ∧ b ≠ g5) (fun b hb hl => by omega)).bel hB)
          refine hK.out _ _ ?_ (fun hHeld => ?_)
          · exact hHeld.trans (hB.mono hHeld.size)
          clear hK K
          try simp only [Act.put, sQa, sQb, sQc, gQa, gQb, gQc]
          refine wpAnyH_ready (rs := [3]) (by kernel_rfl) (by simp) ?_
          refine AllReadyH.cons (o := _) rfl (fun K hK => ?_) AllReadyH.nil
          go_simp
          refine (CP.out _ (fl.out _ (W3.out.trans (hHeld.mono W3.out.size))).2.1 (fl.out _ (W3.out.trans (hHeld.mono W3.out.size))).2.2.1).mono ?_
          rintro e v4 ⟨A4, c4, D4, d4, M, rfl, ho, hq, hM, hA4, hB⟩
          go_wp2_with fail
          have R4 := hid (R3.out.bel hB)
          have Eg4_4 := hid ((hB.block _ (block_lt Eg4_3.out)).trans Eg4_3.out)
          have lg4 := block_lt Eg4_3.out
          have Eg5_4 := hid ((hB.block _ (block_lt Eg5_3.out)).trans Eg5_3.out)
          have lg5 := block_lt Eg5_3.out
          have P4 := hid ((ho.rd.row (fun a ha _ => (ho.blk a ha).1)).mono (G := fun b => b ≠ g4 ∧ b ≠ g5) (fun b hb _ => by omega))
          have Q4 := hid ((OwnR.row hq).mono (G := fun b => b ≠ g4 ∧ b ≠ g5) (fun b hb _ => by omega))
          have cp := hid ho.cap
          refine hK.out _ _ ?_ (fun hHeld => ?_)
          · exact hHeld.trans (hB.mono hHeld.size)
          clear hK K
          try simp only [Act.put, sQa, sQb, sQc, gQa, gQb, gQc]
          refine wpAnyH_ready (rs := [6]) (by kernel_rfl) (by simp) ?_
          refine AllReadyH.cons (o := _) rfl (fun K hK => ?_) AllReadyH.nil
          refine step_store_rowT (by rfl) 24 (.tmp 7) (.tmp 34) rfl g4 _ rfl rfl 24 zTrC Eg4_4.out sizeTr rfl (one_tr A3 ns.length c3 root) ?_
          intro v5 hg hG
          have lg5 := block_lt Eg5_4.out
          have R5 := hid (R4.out.kept (fun b hb hl => hG.block b hl (by simp; omega)) hG.size)
          have P5 := hid (P4.out.kept (fun b hb hl => hG.block b hl (by simp; omega)) hG.size)
          have Q5 := hid (Q4.out.kept (fun b hb hl => hG.block b hl (by simp; omega)) hG.size)
          have Eg5_5 := hid ((hG.block g5 lg5 (by simp; omega)).trans Eg5_4.out)
          have hN4 := hid hg
          refine hK.out _ _ ?_ (fun hHeld => ?_)
          · exact hHeld.grown hG hHeld.size (fun k e => by injection e with e; omega)
          clear hK K
          try simp only [Act.put, sQa, sQb, sQc, gQa, gQb, gQc]
          refine wpAnyH_ready (rs := [7]) (by kernel_rfl) (by simp) ?_
          refine AllReadyH.cons (o := _) rfl (fun K hK => ?_) AllReadyH.nil
          refine step_store_rowT (by rfl) 30 (.tmp 8) (.tmp 36) rfl g5 _ rfl rfl 30 zPfC Eg5_5.out (s2 A4 c4 D4 d4).out (s3 A4 c4 D4 d4).out (s4 A4 c4 D4 d4).out ?_
          intro v6 hg hG
          have lg4 := block_lt (show v5.heap[g4]? = _ from hN4.out)
          have R6 := hid (R5.out.kept (fun b hb hl => hG.block b hl (by simp; omega)) hG.size)
          have P6 := hid (P5.out.kept (fun b hb hl => hG.block b hl (by simp; omega)) hG.size)
          have Q6 := hid (Q5.out.kept (fun b hb hl => hG.block b hl (by simp; omega)) hG.size)
          have hN5 := (hG.block g4 lg4 (by simp; omega)).trans hN4.out
          refine hK.out _ _ ?_ (fun hHeld => ?_)
          · exact hHeld.grown hG hHeld.size (fun k e => by injection e with e; omega)
          clear hK K
          try simp only [Act.put, sQa, sQb, sQc, gQa, gQb, gQc]
          refine wpAnyH_done (by kernel_rfl) ?_ _
          refine NoPanic.normal ?_
          exact ⟨rfl, g4, g5, A3, c3, A4, c4, D4, d4, rfl, hHeld, rangeOf (l := [Value.slice A3 ns.length c3, .int .i64 root]) hN5, rangeOf hg, R6.out.mono (fun b hb _ => by omega), P6.out.mono (fun b hb _ => by omega), Q6.out.mono (fun b hb _ => by omega), cp.out.1, cp.out.2⟩
        exact AllReadyH.nil
      refine AllReadyH.cons (o := _) rfl (fun K hK => ?_) ?_
      · skip
        refine step_alloc_rowT (by rfl) 30 rfl zPfC zInfoPf ?_
        intro g5 v2 hge Eg5 hB
        have Eg5_2 := hid Eg5
        clear Eg5
        have hsg5 : w3.heap.size ≤ g5 := Nat.le_trans hHeld.size hge
        have R2 := hid ((R1.out.mono (G := fun b => b ≠ g5) (fun b hb hl => by omega)).bel hB)
        refine hK.out _ _ ?_ (fun hHeld => ?_)
        · exact hHeld.trans (hB.mono hHeld.size)
        clear hK K
        try simp only [Act.put, sQa, sQb, sQc, gQa, gQb, gQc]
        refine wpAnyH_ready (rs := [3, 4]) (by kernel_rfl) (by simp) ?_
        refine AllReadyH.cons (o := _) rfl (fun K hK => ?_) ?_
        · skip
          go_simp
          refine (CP.out _ (fl.out _ (W3.out.trans (hHeld.mono W3.out.size))).2.1 (fl.out _ (W3.out.trans (hHeld.mono W3.out.size))).2.2.1).mono ?_
          rintro e v3 ⟨A4, c4, D4, d4, M, rfl, ho, hq, hM, hA4, hB⟩
          go_wp2_with fail
          have R3 := hid (R2.out.bel hB)
          have Eg5_3 := hid ((hB.block _ (block_lt Eg5_2.out)).trans Eg5_2.out)
          have lg5 := block_lt Eg5_2.out
          have P3 := hid ((ho.rd.row (fun a ha _ => (ho.blk a ha).1)).mono (G := fun b => b ≠ g5) (fun b hb _ => by omega))
          have Q3 := hid ((OwnR.row hq).mono (G := fun b => b ≠ g5) (fun b hb _ => by omega))
          have cp := hid ho.cap
          refine hK.out _ _ ?_ (fun hHeld => ?_)
          · exact hHeld.trans (hB.mono hHeld.size)
          clear hK K
          try simp only [Act.put, sQa, sQb, sQc, gQa, gQb, gQc]
          refine wpAnyH_ready (rs := [4]) (by kernel_rfl) (by simp) ?_
          refine AllReadyH.cons (o := _) rfl (fun K hK => ?_) AllReadyH.nil
          refine step_alloc_rowT (by rfl) 24 rfl zTrC zInfoTr ?_
          intro g4 v4 hge Eg4 hB
          have Eg4_4 := hid Eg4
          clear Eg4
          have hsg4 : w3.heap.size ≤ g4 := Nat.le_trans hHeld.size hge
          have lg5 := block_lt Eg5_3.out
          have ne45 : g5 ≠ g4 := by omega
          have Eg5_4 := hid ((hB.block _ lg5).trans Eg5_3.out)
          have R4 := hid ((R3.out.mono (G := fun b => b ≠ g5 ∧ b ≠ g4) (fun b hb hl => by omega)).bel hB)
          have P4 := hid ((P3.out.mono (G := fun b => b ≠ g5 ∧ b ≠ g4) (fun b hb hl => by omega)).bel hB)
          have Q4 := hid ((Q3.out.mono (G := fun b => b ≠ g5 ∧ b ≠ g4) (fun b hb hl => by omega)).bel hB)
          refine hK.out _ _ ?_ (fun hHeld => ?_)
          · exact hHeld.trans (hB.mono hHeld.size)
          clear hK K
          try simp only [Act.put, sQa, sQb, sQc, gQa, gQb, gQc]
          refine wpAnyH_ready (rs := [6]) (by kernel_rfl) (by simp) ?_
          refine AllReadyH.cons (o := _) rfl (fun K hK => ?_) AllReadyH.nil
          refine step_store_rowT (by rfl) 24 (.tmp 7) (.tmp 34) rfl g4 _ rfl rfl 24 zTrC Eg4_4.out sizeTr rfl (one_tr A3 ns.length c3 root) ?_
          intro v5 hg hG
          have lg5 := block_lt Eg5_4.out
          have R5 := hid (R4.out.kept (fun b hb hl => hG.block b hl (by simp; omega)) hG.size)
          have P5 := hid (P4.out.kept (fun b hb hl => hG.block b hl (by simp; omega)) hG.size)
          have Q5 := hid (Q4.out.kept (fun b hb hl => hG.block b hl (by simp; omega)) hG.size)
          have Eg5_5 := hid ((hG.block g5 lg5 (by simp; omega)).trans Eg5_4.out)
          have hN4 := hid hg
          refine hK.out _ _ ?_ (fun hHeld => ?_)
          · exact hHeld.grown hG hHeld.size (fun k e => by injection e with e; omega)
          clear hK K
          try simp only [Act.put, sQa, sQb, sQc, gQa, gQb, gQc]
          refine wpAnyH_ready (rs := [7]) (by kernel_rfl) (by simp) ?_
          refine AllReadyH.cons (o := _) rfl (fun K hK => ?_) AllReadyH.nil
          refine step_store_rowT (by rfl) 30 (.tmp 8) (.tmp 36) rfl g5 _ rfl rfl 30 zPfC Eg5_5.out (s2 A4 c4 D4 d4).out (s3 A4 c4 D4 d4).out (s4 A4 c4 D4 d4).out ?_
          intro v6 hg hG
          have lg4 := block_lt (show v5.heap[g4]? = _ from hN4.out)
          have R6 := hid (R5.out.kept (fun b hb hl => hG.block b hl (by simp; omega)) hG.size)
          have P6 := hid (P5.out.kept (fun b hb hl => hG.block b hl (by simp; omega)) hG.size)
          have Q6 := hid (Q5.out.kept (fun b hb hl => hG.block b hl (by simp; omega)) hG.size)
          have hN5 := (hG.block g4 lg4 (by simp; omega)).trans hN4.out
          refine hK.out _ _ ?_ (fun hHeld => ?_)
          · exact hHeld.grown hG hHeld.size (fun k e => by injection e with e; omega)
          clear hK K
          try simp only [Act.put, sQa, sQb, sQc, gQa, gQb, gQc]
          refine wpAnyH_done (by kernel_rfl) ?_ _
          refine NoPanic.normal ?_
          exact ⟨rfl, g4, g5, A3, c3, A4, c4, D4, d4, rfl, hHeld, rangeOf (l := [Value.slice A3 ns.length c3, .int .i64 root]) hN5, rangeOf hg, R6.out.mono (fun b hb _ => by omega), P6.out.mono (fun b hb _ => by omega), Q6.out.mono (fun b hb _ => by omega), cp.out.1, cp.out.2⟩
        refine AllReadyH.cons (o := _) rfl (fun K hK => ?_) ?_
        · skip
          refine step_alloc_rowT (by rfl) 24 rfl zTrC zInfoTr ?_
          intro g4 v3 hge Eg4 hB
          have Eg4_3 := hid Eg4
          clear Eg4
          have hsg4 : w3.heap.size ≤ g4 := Nat.le_trans hHeld.size hge
          have lg5 := block_lt Eg5_2.out
          have ne45 : g5 ≠ g4 := by omega
          have Eg5_3 := hid ((hB.block _ lg5).trans Eg5_2.out)
          have R3 := hid ((R2.out.mono (G := fun b => b ≠ g5 ∧ b ≠ g4) (fun b hb hl => by omega)).bel hB)
          refine hK.out _ _ ?_ (fun hHeld => ?_)
          · exact hHeld.trans (hB.mono hHeld.size)
          clear hK K
          try simp only [Act.put, sQa, sQb, sQc, gQa, gQb, gQc]
          refine wpAnyH_ready (rs := [3]) (by kernel_rfl) (by simp) ?_
          refine AllReadyH.cons (o := _) rfl (fun K hK => ?_) AllReadyH.nil
          go_simp
          refine (CP.out _ (fl.out _ (W3.out.trans (hHeld.mono W3.out.size))).2.1 (fl.out _ (W3.out.trans (hHeld.mono W3.out.size))).2.2.1).mono ?_
          rintro e v4 ⟨A4, c4, D4, d4, M, rfl, ho, hq, hM, hA4, hB⟩
          go_wp2_with fail
          have R4 := hid (R3.out.bel hB)
          have Eg5_4 := hid ((hB.block _ (block_lt Eg5_3.out)).trans Eg5_3.out)
          have lg5 := block_lt Eg5_3.out
          have Eg4_4 := hid ((hB.block _ (block_lt Eg4_3.out)).trans Eg4_3.out)
          have lg4 := block_lt Eg4_3.out
          have P4 := hid ((ho.rd.row (fun a ha _ => (ho.blk a ha).1)).mono (G := fun b => b ≠ g5 ∧ b ≠ g4) (fun b hb _ => by omega))
          have Q4 := hid ((OwnR.row hq).mono (G := fun b => b ≠ g5 ∧ b ≠ g4) (fun b hb _ => by omega))
          have cp := hid ho.cap
          refine hK.out _ _ ?_ (fun hHeld => ?_)
          · exact hHeld.trans (hB.mono hHeld.size)
          clear hK K
          try simp only [Act.put, sQa, sQb, sQc, gQa, gQb, gQc]
          refine wpAnyH_ready (rs := [6]) (by kernel_rfl) (by simp) ?_
          refine AllReadyH.cons (o := _) rfl (fun K hK => ?_) AllReadyH.nil
          refine step_store_rowT (by rfl) 24 (.tmp 7) (.tmp 34) rfl g4 _ rfl rfl 24 zTrC Eg4_4.out sizeTr rfl (one_tr A3 ns.length c3 root) ?_
          intro v5 hg hG
          have lg5 := block_lt Eg5_4.out
          have R5 := hid (R4.out.kept (fun b hb hl => hG.block b hl (by simp; omega)) hG.size)
          have P5 := hid (P4.out.kept (fun b hb hl => hG.block b hl (by simp; omega)) hG.size)
          have Q5 := hid (Q4.out.kept (fun b hb hl => hG.block b hl (by simp; omega)) hG.size)
          have Eg5_5 := hid ((hG.block g5 lg5 (by simp; omega)).trans Eg5_4.out)
          have hN4 := hid hg
          refine hK.out _ _ ?_ (fun hHeld => ?_)
          · exact hHeld.grown hG hHeld.size (fun k e => by injection e with e; omega)
          clear hK K
          try simp only [Act.put, sQa, sQb, sQc, gQa, gQb, gQc]
          refine wpAnyH_ready (rs := [7]) (by kernel_rfl) (by simp) ?_
          refine AllReadyH.cons (o := _) rfl (fun K hK => ?_) AllReadyH.nil
          refine step_store_rowT (by rfl) 30 (.tmp 8) (.tmp 36) rfl g5 _ rfl rfl 30 zPfC Eg5_5.out (s2 A4 c4 D4 d4).out (s3 A4 c4 D4 d4).out (s4 A4 c4 D4 d4).out ?_
          intro v6 hg hG
          have lg4 := block_lt (show v5.heap[g4]? = _ from hN4.out)
          have R6 := hid (R5.out.kept (fun b hb hl => hG.block b hl (by simp; omega)) hG.size)
          have P6 := hid (P5.out.kept (fun b hb hl => hG.block b hl (by simp; omega)) hG.size)
          have Q6 := hid (Q5.out.kept (fun b hb hl => hG.block b hl (by simp; omega)) hG.size)
          have hN5 := (hG.block g4 lg4 (by simp; omega)).trans hN4.out
          refine hK.out _ _ ?_ (fun hHeld => ?_)
          · exact hHeld.grown hG hHeld.size (fun k e => by injection e with e; omega)
          clear hK K
          try simp only [Act.put, sQa, sQb, sQc, gQa, gQb, gQc]
          refine wpAnyH_done (by kernel_rfl) ?_ _
          refine NoPanic.normal ?_
          exact ⟨rfl, g4, g5, A3, c3, A4, c4, D4, d4, rfl, hHeld, rangeOf (l := [Value.slice A3 ns.length c3, .int .i64 root]) hN5, rangeOf hg, R6.out.mono (fun b hb _ => by omega), P6.out.mono (fun b hb _ => by omega), Q6.out.mono (fun b hb _ => by omega), cp.out.1, cp.out.2⟩
        exact AllReadyH.nil
      exact AllReadyH.nil
    refine AllReadyH.cons (o := _) rfl (fun K hK => ?_) ?_
    · skip
      refine step_alloc_rowT (by rfl) 24 rfl zTrC zInfoTr ?_
      intro g4 v1 hge Eg4 hB
      have Eg4_1 := hid Eg4
      clear Eg4
      have hsg4 : w3.heap.size ≤ g4 := Nat.le_trans hHeld.size hge
      refine hK.out _ _ ?_ (fun hHeld => ?_)
      · exact hHeld.trans (hB.mono hHeld.size)
      clear hK K
      try simp only [Act.put, sQa, sQb, sQc, gQa, gQb, gQc]
      refine wpAnyH_ready (rs := [1, 5]) (by kernel_rfl) (by simp) ?_
      refine AllReadyH.cons (o := _) rfl (fun K hK => ?_) ?_
      · skip
        go_simp
        refine (CT.out _ (fl.out _ (W3.out.trans (hHeld.mono W3.out.size))).1).mono ?_
        rintro e v2 ⟨A3, c3, rfl, ho, hB⟩
        go_wp2_with fail
        have Eg4_2 := hid ((hB.block _ (block_lt Eg4_1.out)).trans Eg4_1.out)
        have lg4 := block_lt Eg4_1.out
        have R2 := hid ((OwnR.row ho).mono (G := fun b => b ≠ g4) (fun b hb _ => by omega))
        refine hK.out _ _ ?_ (fun hHeld => ?_)
        · exact hHeld.trans (hB.mono hHeld.size)
        clear hK K
        try simp only [Act.put, sQa, sQb, sQc, gQa, gQb, gQc]
        refine wpAnyH_ready (rs := [3, 5]) (by kernel_rfl) (by simp) ?_
        refine AllReadyH.cons (o := _) rfl (fun K hK => ?_) ?_
        · skip
          go_simp
          refine (CP.out _ (fl.out _ (W3.out.trans (hHeld.mono W3.out.size))).2.1 (fl.out _ (W3.out.trans (hHeld.mono W3.out.size))).2.2.1).mono ?_
          rintro e v3 ⟨A4, c4, D4, d4, M, rfl, ho, hq, hM, hA4, hB⟩
          go_wp2_with fail
          have R3 := hid (R2.out.bel hB)
          have Eg4_3 := hid ((hB.block _ (block_lt Eg4_2.out)).trans Eg4_2.out)
          have lg4 := block_lt Eg4_2.out
          have P3 := hid ((ho.rd.row (fun a ha _ => (ho.blk a ha).1)).mono (G := fun b => b ≠ g4) (fun b hb _ => by omega))
          have Q3 := hid ((OwnR.row hq).mono (G := fun b => b ≠ g4) (fun b hb _ => by omega))
          have cp := hid ho.cap
          refine hK.out _ _ ?_ (fun hHeld => ?_)
          · exact hHeld.trans (hB.mono hHeld.size)
          clear hK K
          try simp only [Act.put, sQa, sQb, sQc, gQa, gQb, gQc]
          refine wpAnyH_ready (rs := [5]) (by kernel_rfl) (by simp) ?_
          refine AllReadyH.cons (o := _) rfl (fun K hK => ?_) AllReadyH.nil
          refine step_alloc_rowT (by rfl) 30 rfl zPfC zInfoPf ?_
          intro g5 v4 hge Eg5 hB
          have Eg5_4 := hid Eg5
          clear Eg5
          have hsg5 : w3.heap.size ≤ g5 := Nat.le_trans hHeld.size hge
          have lg4 := block_lt Eg4_3.out
          have ne45 : g4 ≠ g5 := by omega
          have Eg4_4 := hid ((hB.block _ lg4).trans Eg4_3.out)
          have R4 := hid ((R3.out.mono (G := fun b => b ≠ g4 ∧ b ≠ g5) (fun b hb hl => by omega)).bel hB)
          have P4 := hid ((P3.out.mono (G := fun b => b ≠ g4 ∧ b ≠ g5) (fun b hb hl => by omega)).bel hB)
          have Q4 := hid ((Q3.out.mono (G := fun b => b ≠ g4 ∧ b ≠ g5) (fun b hb hl => by omega)).bel hB)
          refine hK.out _ _ ?_ (fun hHeld => ?_)
          · exact hHeld.trans (hB.mono hHeld.size)
          clear hK K
          try simp only [Act.put, sQa, sQb, sQc, gQa, gQb, gQc]
          refine wpAnyH_ready (rs := [6]) (by kernel_rfl) (by simp) ?_
          refine AllReadyH.cons (o := _) rfl (fun K hK => ?_) AllReadyH.nil
          refine step_store_rowT (by rfl) 24 (.tmp 7) (.tmp 34) rfl g4 _ rfl rfl 24 zTrC Eg4_4.out sizeTr rfl (one_tr A3 ns.length c3 root) ?_
          intro v5 hg hG
          have lg5 := block_lt Eg5_4.out
          have R5 := hid (R4.out.kept (fun b hb hl => hG.block b hl (by simp; omega)) hG.size)
          have P5 := hid (P4.out.kept (fun b hb hl => hG.block b hl (by simp; omega)) hG.size)
          have Q5 := hid (Q4.out.kept (fun b hb hl => hG.block b hl (by simp; omega)) hG.size)
          have Eg5_5 := hid ((hG.block g5 lg5 (by simp; omega)).trans Eg5_4.out)
          have hN4 := hid hg
          refine hK.out _ _ ?_ (fun hHeld => ?_)
          · exact hHeld.grown hG hHeld.size (fun k e => by injection e with e; omega)
          clear hK K
          try simp only [Act.put, sQa, sQb, sQc, gQa, gQb, gQc]
          refine wpAnyH_ready (rs := [7]) (by kernel_rfl) (by simp) ?_
          refine AllReadyH.cons (o := _) rfl (fun K hK => ?_) AllReadyH.nil
          refine step_store_rowT (by rfl) 30 (.tmp 8) (.tmp 36) rfl g5 _ rfl rfl 30 zPfC Eg5_5.out (s2 A4 c4 D4 d4).out (s3 A4 c4 D4 d4).out (s4 A4 c4 D4 d4).out ?_
          intro v6 hg hG
          have lg4 := block_lt (show v5.heap[g4]? = _ from hN4.out)
          have R6 := hid (R5.out.kept (fun b hb hl => hG.block b hl (by simp; omega)) hG.size)
          have P6 := hid (P5.out.kept (fun b hb hl => hG.block b hl (by simp; omega)) hG.size)
          have Q6 := hid (Q5.out.kept (fun b hb hl => hG.block b hl (by simp; omega)) hG.size)
          have hN5 := (hG.block g4 lg4 (by simp; omega)).trans hN4.out
          refine hK.out _ _ ?_ (fun hHeld => ?_)
          · exact hHeld.grown hG hHeld.size (fun k e => by injection e with e; omega)
          clear hK K
          try simp only [Act.put, sQa, sQb, sQc, gQa, gQb, gQc]
          refine wpAnyH_done (by kernel_rfl) ?_ _
          refine NoPanic.normal ?_
          exact ⟨rfl, g4, g5, A3, c3, A4, c4, D4, d4, rfl, hHeld, rangeOf (l := [Value.slice A3 ns.length c3, .int .i64 root]) hN5, rangeOf hg, R6.out.mono (fun b hb _ => by omega), P6.out.mono (fun b hb _ => by omega), Q6.out.mono (fun b hb _ => by omega), cp.out.1, cp.out.2⟩
        refine AllReadyH.cons (o := _) rfl (fun K hK => ?_) ?_
        · skip
          refine step_alloc_rowT (by rfl) 30 rfl zPfC zInfoPf ?_
          intro g5 v3 hge Eg5 hB
          have Eg5_3 := hid Eg5
          clear Eg5
          have hsg5 : w3.heap.size ≤ g5 := Nat.le_trans hHeld.size hge
          have lg4 := block_lt Eg4_2.out
          have ne45 : g4 ≠ g5 := by omega
          have Eg4_3 := hid ((hB.block _ lg4).trans Eg4_2.out)
          have R3 := hid ((R2.out.mono (G := fun b => b ≠ g4 ∧ b ≠ g5) (fun b hb hl => by omega)).bel hB)
          refine hK.out _ _ ?_ (fun hHeld => ?_)
          · exact hHeld.trans (hB.mono hHeld.size)
          clear hK K
          try simp only [Act.put, sQa, sQb, sQc, gQa, gQb, gQc]
          refine wpAnyH_ready (rs := [3]) (by kernel_rfl) (by simp) ?_
          refine AllReadyH.cons (o := _) rfl (fun K hK => ?_) AllReadyH.nil
          go_simp
          refine (CP.out _ (fl.out _ (W3.out.trans (hHeld.mono W3.out.size))).2.1 (fl.out _ (W3.out.trans (hHeld.mono W3.out.size))).2.2.1).mono ?_
          rintro e v4 ⟨A4, c4, D4, d4, M, rfl, ho, hq, hM, hA4, hB⟩
          go_wp2_with fail
          have R4 := hid (R3.out.bel hB)
          have Eg4_4 := hid ((hB.block _ (block_lt Eg4_3.out)).trans Eg4_3.out)
          have lg4 := block_lt Eg4_3.out
          have Eg5_4 := hid ((hB.block _ (block_lt Eg5_3.out)).trans Eg5_3.out)
          have lg5 := block_lt Eg5_3.out
          have P4 := hid ((ho.rd.row (fun a ha _ => (ho.blk a ha).1)).mono (G := fun b => b ≠ g4 ∧ b ≠ g5) (fun b hb _ => by omega))
          have Q4 := hid ((OwnR.row hq).mono (G := fun b => b ≠ g4 ∧ b ≠ g5) (fun b hb _ => by omega))
          have cp := hid ho.cap
          refine hK.out _ _ ?_ (fun hHeld => ?_)
          · exact hHeld.trans (hB.mono hHeld.size)
          clear hK K
          try simp only [Act.put, sQa, sQb, sQc, gQa, gQb, gQc]
          refine wpAnyH_ready (rs := [6]) (by kernel_rfl) (by simp) ?_
          refine AllReadyH.cons (o := _) rfl (fun K hK => ?_) AllReadyH.nil
          refine step_store_rowT (by rfl) 24 (.tmp 7) (.tmp 34) rfl g4 _ rfl rfl 24 zTrC Eg4_4.out sizeTr rfl (one_tr A3 ns.length c3 root) ?_
          intro v5 hg hG
          have lg5 := block_lt Eg5_4.out
          have R5 := hid (R4.out.kept (fun b hb hl => hG.block b hl (by simp; omega)) hG.size)
          have P5 := hid (P4.out.kept (fun b hb hl => hG.block b hl (by simp; omega)) hG.size)
          have Q5 := hid (Q4.out.kept (fun b hb hl => hG.block b hl (by simp; omega)) hG.size)
          have Eg5_5 := hid ((hG.block g5 lg5 (by simp; omega)).trans Eg5_4.out)
          have hN4 := hid hg
          refine hK.out _ _ ?_ (fun hHeld => ?_)
          · exact hHeld.grown hG hHeld.size (fun k e => by injection e with e; omega)
          clear hK K
          try simp only [Act.put, sQa, sQb, sQc, gQa, gQb, gQc]
          refine wpAnyH_ready (rs := [7]) (by kernel_rfl) (by simp) ?_
          refine AllReadyH.cons (o := _) rfl (fun K hK => ?_) AllReadyH.nil
          refine step_store_rowT (by rfl) 30 (.tmp 8) (.tmp 36) rfl g5 _ rfl rfl 30 zPfC Eg5_5.out (s2 A4 c4 D4 d4).out (s3 A4 c4 D4 d4).out (s4 A4 c4 D4 d4).out ?_
          intro v6 hg hG
          have lg4 := block_lt (show v5.heap[g4]? = _ from hN4.out)
          have R6 := hid (R5.out.kept (fun b hb hl => hG.block b hl (by simp; omega)) hG.size)
          have P6 := hid (P5.out.kept (fun b hb hl => hG.block b hl (by simp; omega)) hG.size)
          have Q6 := hid (Q5.out.kept (fun b hb hl => hG.block b hl (by simp; omega)) hG.size)
          have hN5 := (hG.block g4 lg4 (by simp; omega)).trans hN4.out
          refine hK.out _ _ ?_ (fun hHeld => ?_)
          · exact hHeld.grown hG hHeld.size (fun k e => by injection e with e; omega)
          clear hK K
          try simp only [Act.put, sQa, sQb, sQc, gQa, gQb, gQc]
          refine wpAnyH_done (by kernel_rfl) ?_ _
          refine NoPanic.normal ?_
          exact ⟨rfl, g4, g5, A3, c3, A4, c4, D4, d4, rfl, hHeld, rangeOf (l := [Value.slice A3 ns.length c3, .int .i64 root]) hN5, rangeOf hg, R6.out.mono (fun b hb _ => by omega), P6.out.mono (fun b hb _ => by omega), Q6.out.mono (fun b hb _ => by omega), cp.out.1, cp.out.2⟩
        exact AllReadyH.nil
      refine AllReadyH.cons (o := _) rfl (fun K hK => ?_) ?_
      · skip
        refine step_alloc_rowT (by rfl) 30 rfl zPfC zInfoPf ?_
        intro g5 v2 hge Eg5 hB
        have Eg5_2 := hid Eg5
        clear Eg5
        have hsg5 : w3.heap.size ≤ g5 := Nat.le_trans hHeld.size hge
        have lg4 := block_lt Eg4_1.out
        have ne45 : g4 ≠ g5 := by omega
        have Eg4_2 := hid ((hB.block _ lg4).trans Eg4_1.out)
        refine hK.out _ _ ?_ (fun hHeld => ?_)
        · exact hHeld.trans (hB.mono hHeld.size)
        clear hK K
        try simp only [Act.put, sQa, sQb, sQc, gQa, gQb, gQc]
        refine wpAnyH_ready (rs := [1]) (by kernel_rfl) (by simp) ?_
        refine AllReadyH.cons (o := _) rfl (fun K hK => ?_) AllReadyH.nil
        go_simp
        refine (CT.out _ (fl.out _ (W3.out.trans (hHeld.mono W3.out.size))).1).mono ?_
        rintro e v3 ⟨A3, c3, rfl, ho, hB⟩
        go_wp2_with fail
        have Eg4_3 := hid ((hB.block _ (block_lt Eg4_2.out)).trans Eg4_2.out)
        have lg4 := block_lt Eg4_2.out
        have Eg5_3 := hid ((hB.block _ (block_lt Eg5_2.out)).trans Eg5_2.out)
        have lg5 := block_lt Eg5_2.out
        have R3 := hid ((OwnR.row ho).mono (G := fun b => b ≠ g4 ∧ b ≠ g5) (fun b hb _ => by omega))
        refine hK.out _ _ ?_ (fun hHeld => ?_)
        · exact hHeld.trans (hB.mono hHeld.size)
        clear hK K
        try simp only [Act.put, sQa, sQb, sQc, gQa, gQb, gQc]
        refine wpAnyH_ready (rs := [3]) (by kernel_rfl) (by simp) ?_
        refine AllReadyH.cons (o := _) rfl (fun K hK => ?_) AllReadyH.nil
        go_simp
        refine (CP.out _ (fl.out _ (W3.out.trans (hHeld.mono W3.out.size))).2.1 (fl.out _ (W3.out.trans (hHeld.mono W3.out.size))).2.2.1).mono ?_
        rintro e v4 ⟨A4, c4, D4, d4, M, rfl, ho, hq, hM, hA4, hB⟩
        go_wp2_with fail
        have R4 := hid (R3.out.bel hB)
        have Eg4_4 := hid ((hB.block _ (block_lt Eg4_3.out)).trans Eg4_3.out)
        have lg4 := block_lt Eg4_3.out
        have Eg5_4 := hid ((hB.block _ (block_lt Eg5_3.out)).trans Eg5_3.out)
        have lg5 := block_lt Eg5_3.out
        have P4 := hid ((ho.rd.row (fun a ha _ => (ho.blk a ha).1)).mono (G := fun b => b ≠ g4 ∧ b ≠ g5) (fun b hb _ => by omega))
        have Q4 := hid ((OwnR.row hq).mono (G := fun b => b ≠ g4 ∧ b ≠ g5) (fun b hb _ => by omega))
        have cp := hid ho.cap
        refine hK.out _ _ ?_ (fun hHeld => ?_)
        · exact hHeld.trans (hB.mono hHeld.size)
        clear hK K
        try simp only [Act.put, sQa, sQb, sQc, gQa, gQb, gQc]
        refine wpAnyH_ready (rs := [6]) (by kernel_rfl) (by simp) ?_
        refine AllReadyH.cons (o := _) rfl (fun K hK => ?_) AllReadyH.nil
        refine step_store_rowT (by rfl) 24 (.tmp 7) (.tmp 34) rfl g4 _ rfl rfl 24 zTrC Eg4_4.out sizeTr rfl (one_tr A3 ns.length c3 root) ?_
        intro v5 hg hG
        have lg5 := block_lt Eg5_4.out
        have R5 := hid (R4.out.kept (fun b hb hl => hG.block b hl (by simp; omega)) hG.size)
        have P5 := hid (P4.out.kept (fun b hb hl => hG.block b hl (by simp; omega)) hG.size)
        have Q5 := hid (Q4.out.kept (fun b hb hl => hG.block b hl (by simp; omega)) hG.size)
        have Eg5_5 := hid ((hG.block g5 lg5 (by simp; omega)).trans Eg5_4.out)
        have hN4 := hid hg
        refine hK.out _ _ ?_ (fun hHeld => ?_)
        · exact hHeld.grown hG hHeld.size (fun k e => by injection e with e; omega)
        clear hK K
        try simp only [Act.put, sQa, sQb, sQc, gQa, gQb, gQc]
        refine wpAnyH_ready (rs := [7]) (by kernel_rfl) (by simp) ?_
        refine AllReadyH.cons (o := _) rfl (fun K hK => ?_) AllReadyH.nil
        refine step_store_rowT (by rfl) 30 (.tmp 8) (.tmp 36) rfl g5 _ rfl rfl 30 zPfC Eg5_5.out (s2 A4 c4 D4 d4).out (s3 A4 c4 D4 d4).out (s4 A4 c4 D4 d4).out ?_
        intro v6 hg hG
        have lg4 := block_lt (show v5.heap[g4]? = _ from hN4.out)
        have R6 := hid (R5.out.kept (fun b hb hl => hG.block b hl (by simp; omega)) hG.size)
        have P6 := hid (P5.out.kept (fun b hb hl => hG.block b hl (by simp; omega)) hG.size)
        have Q6 := hid (Q5.out.kept (fun b hb hl => hG.block b hl (by simp; omega)) hG.size)
        have hN5 := (hG.block g4 lg4 (by simp; omega)).trans hN4.out
        refine hK.out _ _ ?_ (fun hHeld => ?_)
        · exact hHeld.grown hG hHeld.size (fun k e => by injection e with e; omega)
        clear hK K
        try simp only [Act.put, sQa, sQb, sQc, gQa, gQb, gQc]
        refine wpAnyH_done (by kernel_rfl) ?_ _
        refine NoPanic.normal ?_
        exact ⟨rfl, g4, g5, A3, c3, A4, c4, D4, d4, rfl, hHeld, rangeOf (l := [Value.slice A3 ns.length c3, .int .i64 root]) hN5, rangeOf hg, R6.out.mono (fun b hb _ => by omega), P6.out.mono (fun b hb _ => by omega), Q6.out.mono (fun b hb _ => by omega), cp.out.1, cp.out.2⟩
      exact AllReadyH.nil
    refine AllReadyH.cons (o := _) rfl (fun K hK => ?_) ?_
    · skip
      refine step_alloc_rowT (by rfl) 30 rfl zPfC zInfoPf ?_
      intro g5 v1 hge Eg5 hB
      have Eg5_1 := hid Eg5
      clear Eg5
      have hsg5 : w3.heap.size ≤ g5 := Nat.le_trans hHeld.size hge
      refine hK.out _ _ ?_ (fun hHeld => ?_)
      · exact hHeld.trans (hB.mono hHeld.size)
      clear hK K
      try simp only [Act.put, sQa, sQb, sQc, gQa, gQb, gQc]
      refine wpAnyH_ready (rs := [1, 4]) (by kernel_rfl) (by simp) ?_
      refine AllReadyH.cons (o := _) rfl (fun K hK => ?_) ?_
      · skip
        go_simp
        refine (CT.out _ (fl.out _ (W3.out.trans (hHeld.mono W3.out.size))).1).mono ?_
        rintro e v2 ⟨A3, c3, rfl, ho, hB⟩
        go_wp2_with fail
        have Eg5_2 := hid ((hB.block _ (block_lt Eg5_1.out)).trans Eg5_1.out)
        have lg5 := block_lt Eg5_1.out
        have R2 := hid ((OwnR.row ho).mono (G := fun b => b ≠ g5) (fun b hb _ => by omega))
        refine hK.out _ _ ?_ (fun hHeld => ?_)
        · exact hHeld.trans (hB.mono hHeld.size)
        clear hK K
        try simp only [Act.put, sQa, sQb, sQc, gQa, gQb, gQc]
        refine wpAnyH_ready (rs := [3, 4]) (by kernel_rfl) (by simp) ?_
        refine AllReadyH.cons (o := _) rfl (fun K hK => ?_) ?_
        · skip
          go_simp
          refine (CP.out _ (fl.out _ (W3.out.trans (hHeld.mono W3.out.size))).2.1 (fl.out _ (W3.out.trans (hHeld.mono W3.out.size))).2.2.1).mono ?_
          rintro e v3 ⟨A4, c4, D4, d4, M, rfl, ho, hq, hM, hA4, hB⟩
          go_wp2_with fail
          have R3 := hid (R2.out.bel hB)
          have Eg5_3 := hid ((hB.block _ (block_lt Eg5_2.out)).trans Eg5_2.out)
          have lg5 := block_lt Eg5_2.out
          have P3 := hid ((ho.rd.row (fun a ha _ => (ho.blk a ha).1)).mono (G := fun b => b ≠ g5) (fun b hb _ => by omega))
          have Q3 := hid ((OwnR.row hq).mono (G := fun b => b ≠ g5) (fun b hb _ => by omega))
          have cp := hid ho.cap
          refine hK.out _ _ ?_ (fun hHeld => ?_)
          · exact hHeld.trans (hB.mono hHeld.size)
          clear hK K
          try simp only [Act.put, sQa, sQb, sQc, gQa, gQb, gQc]
          refine wpAnyH_ready (rs := [4]) (by kernel_rfl) (by simp) ?_
          refine AllReadyH.cons (o := _) rfl (fun K hK => ?_) AllReadyH.nil
          refine step_alloc_rowT (by rfl) 24 rfl zTrC zInfoTr ?_
          intro g4 v4 hge Eg4 hB
          have Eg4_4 := hid Eg4
          clear Eg4
          have hsg4 : w3.heap.size ≤ g4 := Nat.le_trans hHeld.size hge
          have lg5 := block_lt Eg5_3.out
          have ne45 : g5 ≠ g4 := by omega
          have Eg5_4 := hid ((hB.block _ lg5).trans Eg5_3.out)
          have R4 := hid ((R3.out.mono (G := fun b => b ≠ g5 ∧ b ≠ g4) (fun b hb hl => by omega)).bel hB)
          have P4 := hid ((P3.out.mono (G := fun b => b ≠ g5 ∧ b ≠ g4) (fun b hb hl => by omega)).bel hB)
          have Q4 := hid ((Q3.out.mono (G := fun b => b ≠ g5 ∧ b ≠ g4) (fun b hb hl => by omega)).bel hB)
          refine hK.out _ _ ?_ (fun hHeld => ?_)
          · exact hHeld.trans (hB.mono hHeld.size)
          clear hK K
          try simp only [Act.put, sQa, sQb, sQc, gQa, gQb, gQc]
          refine wpAnyH_ready (rs := [6]) (by kernel_rfl) (by simp) ?_
          refine AllReadyH.cons (o := _) rfl (fun K hK => ?_) AllReadyH.nil
          refine step_store_rowT (by rfl) 24 (.tmp 7) (.tmp 34) rfl g4 _ rfl rfl 24 zTrC Eg4_4.out sizeTr rfl (one_tr A3 ns.length c3 root) ?_
          intro v5 hg hG
          have lg5 := block_lt Eg5_4.out
          have R5 := hid (R4.out.kept (fun b hb hl => hG.block b hl (by simp; omega)) hG.size)
          have P5 := hid (P4.out.kept (fun b hb hl => hG.block b hl (by simp; omega)) hG.size)
          have Q5 := hid (Q4.out.kept (fun b hb hl => hG.block b hl (by simp; omega)) hG.size)
          have Eg5_5 := hid ((hG.block g5 lg5 (by simp; omega)).trans Eg5_4.out)
          have hN4 := hid hg
          refine hK.out _ _ ?_ (fun hHeld => ?_)
          · exact hHeld.grown hG hHeld.size (fun k e => by injection e with e; omega)
          clear hK K
          try simp only [Act.put, sQa, sQb, sQc, gQa, gQb, gQc]
          refine wpAnyH_ready (rs := [7]) (by kernel_rfl) (by simp) ?_
          refine AllReadyH.cons (o := _) rfl (fun K hK => ?_) AllReadyH.nil
          refine step_store_rowT (by rfl) 30 (.tmp 8) (.tmp 36) rfl g5 _ rfl rfl 30 zPfC Eg5_5.out (s2 A4 c4 D4 d4).out (s3 A4 c4 D4 d4).out (s4 A4 c4 D4 d4).out ?_
          intro v6 hg hG
          have lg4 := block_lt (show v5.heap[g4]? = _ from hN4.out)
          have R6 := hid (R5.out.kept (fun b hb hl => hG.block b hl (by simp; omega)) hG.size)
          have P6 := hid (P5.out.kept (fun b hb hl => hG.block b hl (by simp; omega)) hG.size)
          have Q6 := hid (Q5.out.kept (fun b hb hl => hG.block b hl (by simp; omega)) hG.size)
          have hN5 := (hG.block g4 lg4 (by simp; omega)).trans hN4.out
          refine hK.out _ _ ?_ (fun hHeld => ?_)
          · exact hHeld.grown hG hHeld.size (fun k e => by injection e with e; omega)
          clear hK K
          try simp only [Act.put, sQa, sQb, sQc, gQa, gQb, gQc]
          refine wpAnyH_done (by kernel_rfl) ?_ _
          refine NoPanic.normal ?_
          exact ⟨rfl, g4, g5, A3, c3, A4, c4, D4, d4, rfl, hHeld, rangeOf (l := [Value.slice A3 ns.length c3, .int .i64 root]) hN5, rangeOf hg, R6.out.mono (fun b hb _ => by omega), P6.out.mono (fun b hb _ => by omega), Q6.out.mono (fun b hb _ => by omega), cp.out.1, cp.out.2⟩
        refine AllReadyH.cons (o := _) rfl (fun K hK => ?_) ?_
        · skip
          refine step_alloc_rowT (by rfl) 24 rfl zTrC zInfoTr ?_
          intro g4 v3 hge Eg4 hB
          have Eg4_3 := hid Eg4
          clear Eg4
          have hsg4 : w3.heap.size ≤ g4 := Nat.le_trans hHeld.size hge
          have lg5 := block_lt Eg5_2.out
          have ne45 : g5 ≠ g4 := by omega
          have Eg5_3 := hid ((hB.block _ lg5).trans Eg5_2.out)
          have R3 := hid ((R2.out.mono (G := fun b => b ≠ g5 ∧ b ≠ g4) (fun b hb hl => by omega)).bel hB)
          refine hK.out _ _ ?_ (fun hHeld => ?_)
          · exact hHeld.trans (hB.mono hHeld.size)
          clear hK K
          try simp only [Act.put, sQa, sQb, sQc, gQa, gQb, gQc]
          refine wpAnyH_ready (rs := [3]) (by kernel_rfl) (by simp) ?_
          refine AllReadyH.cons (o := _) rfl (fun K hK => ?_) AllReadyH.nil
          go_simp
          refine (CP.out _ (fl.out _ (W3.out.trans (hHeld.mono W3.out.size))).2.1 (fl.out _ (W3.out.trans (hHeld.mono W3.out.size))).2.2.1).mono ?_
          rintro e v4 ⟨A4, c4, D4, d4, M, rfl, ho, hq, hM, hA4, hB⟩
          go_wp2_with fail
          have R4 := hid (R3.out.bel hB)
          have Eg5_4 := hid ((hB.block _ (block_lt Eg5_3.out)).trans Eg5_3.out)
          have lg5 := block_lt Eg5_3.out
          have Eg4_4 := hid ((hB.block _ (block_lt Eg4_3.out)).trans Eg4_3.out)
          have lg4 := block_lt Eg4_3.out
          have P4 := hid ((ho.rd.row (fun a ha _ => (ho.blk a ha).1)).mono (G := fun b => b ≠ g5 ∧ b ≠ g4) (fun b hb _ => by omega))
          have Q4 := hid ((OwnR.row hq).mono (G := fun b => b ≠ g5 ∧ b ≠ g4) (fun b hb _ => by omega))
          have cp := hid ho.cap
          refine hK.out _ _ ?_ (fun hHeld => ?_)
          · exact hHeld.trans (hB.mono hHeld.size)
          clear hK K
          try simp only [Act.put, sQa, sQb, sQc, gQa, gQb, gQc]
          refine wpAnyH_ready (rs := [6]) (by kernel_rfl) (by simp) ?_
          refine AllReadyH.cons (o := _) rfl (fun K hK => ?_) AllReadyH.nil
          refine step_store_rowT (by rfl) 24 (.tmp 7) (.tmp 34) rfl g4 _ rfl rfl 24 zTrC Eg4_4.out sizeTr rfl (one_tr A3 ns.length c3 root) ?_
          intro v5 hg hG
          have lg5 := block_lt Eg5_4.out
          have R5 := hid (R4.out.kept (fun b hb hl => hG.block b hl (by simp; omega)) hG.size)
          have P5 := hid (P4.out.kept (fun b hb hl => hG.block b hl (by simp; omega)) hG.size)
          have Q5 := hid (Q4.out.kept (fun b hb hl => hG.block b hl (by simp; omega)) hG.size)
          have Eg5_5 := hid ((hG.block g5 lg5 (by simp; omega)).trans Eg5_4.out)
          have hN4 := hid hg
          refine hK.out _ _ ?_ (fun hHeld => ?_)
          · exact hHeld.grown hG hHeld.size (fun k e => by injection e with e; omega)
          clear hK K
          try simp only [Act.put, sQa, sQb, sQc, gQa, gQb, gQc]
          refine wpAnyH_ready (rs := [7]) (by kernel_rfl) (by simp) ?_
          refine AllReadyH.cons (o := _) rfl (fun K hK => ?_) AllReadyH.nil
          refine step_store_rowT (by rfl) 30 (.tmp 8) (.tmp 36) rfl g5 _ rfl rfl 30 zPfC Eg5_5.out (s2 A4 c4 D4 d4).out (s3 A4 c4 D4 d4).out (s4 A4 c4 D4 d4).out ?_
          intro v6 hg hG
          have lg4 := block_lt (show v5.heap[g4]? = _ from hN4.out)
          have R6 := hid (R5.out.kept (fun b hb hl => hG.block b hl (by simp; omega)) hG.size)
          have P6 := hid (P5.out.kept (fun b hb hl => hG.block b hl (by simp; omega)) hG.size)
          have Q6 := hid (Q5.out.kept (fun b hb hl => hG.block b hl (by simp; omega)) hG.size)
          have hN5 := (hG.block g4 lg4 (by simp; omega)).trans hN4.out
          refine hK.out _ _ ?_ (fun hHeld => ?_)
          · exact hHeld.grown hG hHeld.size (fun k e => by injection e with e; omega)
          clear hK K
          try simp only [Act.put, sQa, sQb, sQc, gQa, gQb, gQc]
          refine wpAnyH_done (by kernel_rfl) ?_ _
          refine NoPanic.normal ?_
          exact ⟨rfl, g4, g5, A3, c3, A4, c4, D4, d4, rfl, hHeld, rangeOf (l := [Value.slice A3 ns.length c3, .int .i64 root]) hN5, rangeOf hg, R6.out.mono (fun b hb _ => by omega), P6.out.mono (fun b hb _ => by omega), Q6.out.mono (fun b hb _ => by omega), cp.out.1, cp.out.2⟩
        exact AllReadyH.nil
      refine AllReadyH.cons (o := _) rfl (fun K hK => ?_) ?_
      · skip
        refine step_alloc_rowT (by rfl) 24 rfl zTrC zInfoTr ?_
        intro g4 v2 hge Eg4 hB
        have Eg4_2 := hid Eg4
        clear Eg4
        have hsg4 : w3.heap.size ≤ g4 := Nat.le_trans hHeld.size hge
        have lg5 := block_lt Eg5_1.out
        have ne45 : g5 ≠ g4 := by omega
        have Eg5_2 := hid ((hB.block _ lg5).trans Eg5_1.out)
        refine hK.out _ _ ?_ (fun hHeld => ?_)
        · exact hHeld.trans (hB.mono hHeld.size)
        clear hK K
        try simp only [Act.put, sQa, sQb, sQc, gQa, gQb, gQc]
        refine wpAnyH_ready (rs := [1]) (by kernel_rfl) (by simp) ?_
        refine AllReadyH.cons (o := _) rfl (fun K hK => ?_) AllReadyH.nil
        go_simp
        refine (CT.out _ (fl.out _ (W3.out.trans (hHeld.mono W3.out.size))).1).mono ?_
        rintro e v3 ⟨A3, c3, rfl, ho, hB⟩
        go_wp2_with fail
        have Eg5_3 := hid ((hB.block _ (block_lt Eg5_2.out)).trans Eg5_2.out)
        have lg5 := block_lt Eg5_2.out
        have Eg4_3 := hid ((hB.block _ (block_lt Eg4_2.out)).trans Eg4_2.out)
        have lg4 := block_lt Eg4_2.out
        have R3 := hid ((OwnR.row ho).mono (G := fun b => b ≠ g5 ∧ b ≠ g4) (fun b hb _ => by omega))
        refine hK.out _ _ ?_ (fun hHeld => ?_)
        · exact hHeld.trans (hB.mono hHeld.size)
        clear hK K
        try simp only [Act.put, sQa, sQb, sQc, gQa, gQb, gQc]
        refine wpAnyH_ready (rs := [3]) (by kernel_rfl) (by simp) ?_
        refine AllReadyH.cons (o := _) rfl (fun K hK => ?_) AllReadyH.nil
        go_simp
        refine (CP.out _ (fl.out _ (W3.out.trans (hHeld.mono W3.out.size))).2.1 (fl.out _ (W3.out.trans (hHeld.mono W3.out.size))).2.2.1).mono ?_
        rintro e v4 ⟨A4, c4, D4, d4, M, rfl, ho, hq, hM, hA4, hB⟩
        go_wp2_with fail
        have R4 := hid (R3.out.bel hB)
        have Eg5_4 := hid ((hB.block _ (block_lt Eg5_3.out)).trans Eg5_3.out)
        have lg5 := block_lt Eg5_3.out
        have Eg4_4 := hid ((hB.block _ (block_lt Eg4_3.out)).trans Eg4_3.out)
        have lg4 := block_lt Eg4_3.out
        have P4 := hid ((ho.rd.row (fun a ha _ => (ho.blk a ha).1)).mono (G := fun b => b ≠ g5 ∧ b ≠ g4) (fun b hb _ => by omega))
        have Q4 := hid ((OwnR.row hq).mono (G := fun b => b ≠ g5 ∧ b ≠ g4) (fun b hb _ => by omega))
        have cp := hid ho.cap
        refine hK.out _ _ ?_ (fun hHeld => ?_)
        · exact hHeld.trans (hB.mono hHeld.size)
        clear hK K
        try simp only [Act.put, sQa, sQb, sQc, gQa, gQb, gQc]
        refine wpAnyH_ready (rs := [6]) (by kernel_rfl) (by simp) ?_
        refine AllReadyH.cons (o := _) rfl (fun K hK => ?_) AllReadyH.nil
        refine step_store_rowT (by rfl) 24 (.tmp 7) (.tmp 34) rfl g4 _ rfl rfl 24 zTrC Eg4_4.out sizeTr rfl (one_tr A3 ns.length c3 root) ?_
        intro v5 hg hG
        have lg5 := block_lt Eg5_4.out
        have R5 := hid (R4.out.kept (fun b hb hl => hG.block b hl (by simp; omega)) hG.size)
        have P5 := hid (P4.out.kept (fun b hb hl => hG.block b hl (by simp; omega)) hG.size)
        have Q5 := hid (Q4.out.kept (fun b hb hl => hG.block b hl (by simp; omega)) hG.size)
        have Eg5_5 := hid ((hG.block g5 lg5 (by simp; omega)).trans Eg5_4.out)
        have hN4 := hid hg
        refine hK.out _ _ ?_ (fun hHeld => ?_)
        · exact hHeld.grown hG hHeld.size (fun k e => by injection e with e; omega)
        clear hK K
        try simp only [Act.put, sQa, sQb, sQc, gQa, gQb, gQc]
        refine wpAnyH_ready (rs := [7]) (by kernel_rfl) (by simp) ?_
        refine AllReadyH.cons (o := _) rfl (fun K hK => ?_) AllReadyH.nil
        refine step_store_rowT (by rfl) 30 (.tmp 8) (.tmp 36) rfl g5 _ rfl rfl 30 zPfC Eg5_5.out (s2 A4 c4 D4 d4).out (s3 A4 c4 D4 d4).out (s4 A4 c4 D4 d4).out ?_
        intro v6 hg hG
        have lg4 := block_lt (show v5.heap[g4]? = _ from hN4.out)
        have R6 := hid (R5.out.kept (fun b hb hl => hG.block b hl (by simp; omega)) hG.size)
        have P6 := hid (P5.out.kept (fun b hb hl => hG.block b hl (by simp; omega)) hG.size)
        have Q6 := hid (Q5.out.kept (fun b hb hl => hG.block b hl (by simp; omega)) hG.size)
        have hN5 := (hG.block g4 lg4 (by simp; omega)).trans hN4.out
        refine hK.out _ _ ?_ (fun hHeld => ?_)
        · exact hHeld.grown hG hHeld.size (fun k e => by injection e with e; omega)
        clear hK K
        try simp only [Act.put, sQa, sQb, sQc, gQa, gQb, gQc]
        refine wpAnyH_done (by kernel_rfl) ?_ _
        refine NoPanic.normal ?_
        exact ⟨rfl, g4, g5, A3, c3, A4, c4, D4, d4, rfl, hHeld, rangeOf (l := [Value.slice A3 ns.length c3, .int .i64 root]) hN5, rangeOf hg, R6.out.mono (fun b hb _ => by omega), P6.out.mono (fun b hb _ => by omega), Q6.out.mono (fun b hb _ => by omega), cp.out.1, cp.out.2⟩
      exact AllReadyH.nil
    exact AllReadyH.nil
  rintro e a w4 ⟨rfl, g4, g5, A3, c3, A4, c4, D4, d4, rfl, hb, O4, N4, R4, P4, Q4, pc⟩
  replace O4 := hid O4
  replace N4 := hid N4
  replace R4 := hid R4
  replace P4 := hid P4
  replace Q4 := hid Q4
  have e45 := hid (show _ ∧ _ from pc)
  clear pc
  have W4 := hid (W3.out.trans (hb.mono W3.out.size))
  have X4 := hid (rangeBel2 hb X3.out)
  have Y4 := hid (rangeBel2 hb Y3.out)
  have Z4 := hid (rangeBel2 hb Z3.out)
  clear hb
  have jO := hid (show (Tryz.prog.info? 24).map (·.size) = some ([Value.slice A3 ns.length c3, .int .i64 root]).length from sizeTr)
  have jN := hid (s1 A4 c4 D4 d4).out
  replace CS := hid (fun F => CS.out F A4 c4 D4 d4)
  replace CO := hid (fun E F => CO.out E A3 c3 F A4 c4 D4 d4)
  replace MP := hid (fun F => MP.out F A4 c4 D4 d4)
  replace MT := hid (fun F => MT.out F A3 c3)
  rw [hf1.out] at MP
  generalize fN A4 c4 D4 d4 = csN at *
  obtain ⟨csO, hcsO⟩ : ∃ cs, [Value.slice A3 ns.length c3, .int .i64 root] = cs := ⟨_, rfl⟩
  have hcsB : #[Value.slice A3 ns.length c3, .int .i64 root] = csO.toArray := by rw [← hcsO]
  rw [hcsO] at O4 jO
  rw [hcsB] at CO MT
  rw [hcsA2.out] at MT
  rw [hcsB]
  clear hcsO hcsB s1 s2 s3 s4 sd1
  clear CT CP hG0 hG1 hG2
  go_wp2_with (first
    | ((with_reducible refine wpList_load_rng ?_ 30 (.tmp 8) rfl g5 0 rfl csN _ ?_ hup rfl jN.out ?_); rfl; exact N4.out)
    | ((with_reducible refine wpList_load_rng ?_ 30 (.tmp 5) rfl (w.heap.size + 1 + 1) 0 rfl cs2 _ ?_ hup rfl j2.out ?_); rfl; exact Z4.out))
  refine (CS.out _ _ P4.out.rd e45.out.1 e45.out.2 Q4.out (fl.out _ W4.out).2.2.2.1 (fl.out _ W4.out).2.2.2.2.1 (fl.out _ W4.out).2.2.2.2.2).mono ?_
  rintro e w5 ⟨B1, b1, B2, b2, rfl, t1, t2, hb⟩
  have M5 := hid t1
  have K5 := hid t2
  clear t1 t2
  have W5 := hid (W4.out.trans (hb.mono W4.out.size))
  have X5 := hid (rangeBel2 hb X4.out)
  have Y5 := hid (rangeBel2 hb Y4.out)
  have Z5 := hid (rangeBel2 hb Z4.out)
  have O5 := hid (rangeBel2 hb O4.out)
  have N5 := hid (rangeBel2 hb N4.out)
  have R5 := hid (R4.out.bel hb)
  have P5 := hid (P4.out.bel hb)
  have Q5 := hid (Q4.out.bel hb)
  clear hb
  go_wp2_with (first
    | ((with_reducible refine wpList_load_rng ?_ 30 (.tmp 4) rfl (w.heap.size + 1) 0 rfl cs1 _ ?_ hup rfl j1.out ?_); rfl; exact Y5.out)
    | ((with_reducible refine wpList_load_rng ?_ 30 (.tmp 5) rfl (w.heap.size + 1 + 1) 0 rfl cs2 _ ?_ hup rfl j2.out ?_); rfl; exact Z5.out))
  refine (RS.out _ (fl.out _ W5.out).2.1 (fl.out _ W5.out).2.2.1 (fl.out _ W5.out).2.2.2.1 (fl.out _ W5.out).2.2.2.2.1).mono ?_
  rintro e w6 ⟨B3, b3, B4, b4, rfl, t1, t2, hb⟩
  have M6' := hid t1
  have K6' := hid t2
  clear t1 t2
  have W6 := hid (W5.out.trans (hb.mono W5.out.size))
  have X6 := hid (rangeBel2 hb X5.out)
  have Y6 := hid (rangeBel2 hb Y5.out)
  have Z6 := hid (rangeBel2 hb Z5.out)
  have O6 := hid (rangeBel2 hb O5.out)
  have N6 := hid (rangeBel2 hb N5.out)
  have R6 := hid (R5.out.bel hb)
  have P6 := hid (P5.out.bel hb)
  have Q6 := hid (Q5.out.bel hb)
  have M6 := hid (M5.out.bel hb)
  have K6 := hid (K5.out.bel hb)
  clear hb
  have m6 := M6'
  have k6 := K6'
  go_wp2_with (first
    | ((with_reducible refine wpList_load_rng ?_ 24 (.tmp 7) rfl g4 0 rfl csO _ ?_ hut rfl jO.out ?_); rfl; exact O6.out)
    | ((with_reducible refine wpList_load_rng ?_ 30 (.tmp 8) rfl g5 0 rfl csN _ ?_ hup rfl jN.out ?_); rfl; exact N6.out))
  refine (CO.out _ _ _ R6.out P6.out.rd e45.out.1 e45.out.2 Q6.out (fl.out _ W6.out).2.2.2.2.2).mono ?_
  rintro e w7 ⟨B5, b5, B6, b6, rfl, t1, t2, hb⟩
  have i7 := hid t1
  have n7 := hid t2
  clear t1 t2
  have m7 := hid (m6.out.bel hb)
  have k7 := hid (k6.out.bel hb)
  have W7 := hid (W6.out.trans (hb.mono W6.out.size))
  have X7 := hid (rangeBel2 hb X6.out)
  have Y7 := hid (rangeBel2 hb Y6.out)
  have Z7 := hid (rangeBel2 hb Z6.out)
  have O7 := hid (rangeBel2 hb O6.out)
  have N7 := hid (rangeBel2 hb N6.out)
  have R7 := hid (R6.out.bel hb)
  have P7 := hid (P6.out.bel hb)
  have Q7 := hid (Q6.out.bel hb)
  have M7 := hid (M6.out.bel hb)
  have K7 := hid (K6.out.bel hb)
  clear hb
  go_wp2_with (first
    | ((with_reducible refine wpList_load_rng ?_ 24 (.tmp 3) rfl w.heap.size 0 rfl csT _ ?_ hut rfl jT.out ?_); rfl; exact X7.out)
    | ((with_reducible refine wpList_load_rng ?_ 30 (.tmp 4) rfl (w.heap.size + 1) 0 rfl cs1 _ ?_ hup rfl j1.out ?_); rfl; exact Y7.out))
  refine (RO.out _ (fl.out _ W7.out).1 (fl.out _ W7.out).2.1 (fl.out _ W7.out).2.2.1).mono ?_
  rintro e w8 ⟨B7, b7, B8, b8, rfl, t1, t2, hb⟩
  have y8 := hid t1
  have z8 := hid t2
  clear t1 t2
  have m8 := hid (m7.out.bel hb)
  have k8 := hid (k7.out.bel hb)
  have i8 := hid (i7.out.bel hb)
  have n8 := hid (n7.out.bel hb)
  have W8 := hid (W7.out.trans (hb.mono W7.out.size))
  have X8 := hid (rangeBel2 hb X7.out)
  have Y8 := hid (rangeBel2 hb Y7.out)
  have Z8 := hid (rangeBel2 hb Z7.out)
  have O8 := hid (rangeBel2 hb O7.out)
  have N8 := hid (rangeBel2 hb N7.out)
  have R8 := hid (R7.out.bel hb)
  have P8 := hid (P7.out.bel hb)
  have Q8 := hid (Q7.out.bel hb)
  have M8 := hid (M7.out.bel hb)
  have K8 := hid (K7.out.bel hb)
  clear hb
  go_wp2_with fail
  refine (EQ.out _ _ _ _ _ _ M8.out m8.out).mono ?_
  rintro e wz ⟨rfl, rfl⟩
  go_wp2_with fail
  refine (EQ.out _ _ _ _ _ _ K8.out k8.out).mono ?_
  rintro e wz ⟨rfl, rfl⟩
  go_wp2_with fail
  refine (EQ.out _ _ _ _ _ _ i8.out y8.out).mono ?_
  rintro e wz ⟨rfl, rfl⟩
  go_wp2_with fail
  refine (EQ.out _ _ _ _ _ _ n8.out z8.out).mono ?_
  rintro e wz ⟨rfl, rfl⟩
  go_wp2_with (first
    | ((with_reducible refine wpList_load_rng ?_ 24 (.tmp 7) rfl g4 0 rfl csO _ ?_ hut rfl jO.out ?_); rfl; exact O8.out)
    | ((with_reducible refine wpList_load_rng ?_ 24 (.tmp 3) rfl w.heap.size 0 rfl csT _ ?_ hut rfl jT.out ?_); rfl; exact X8.out))
  refine (MT.out _ _ R8.out (fl.out _ W8.out).1).mono ?_
  rintro e w9 ⟨rfl, hb⟩
  have W9 := hid (W8.out.trans (hb.mono W8.out.size))
  have X9 := hid (rangeBel2 hb X8.out)
  have Y9 := hid (rangeBel2 hb Y8.out)
  have Z9 := hid (rangeBel2 hb Z8.out)
  have O9 := hid (rangeBel2 hb O8.out)
  have N9 := hid (rangeBel2 hb N8.out)
  have R9 := hid (R8.out.bel hb)
  have P9 := hid (P8.out.bel hb)
  have Q9 := hid (Q8.out.bel hb)
  clear hb
  go_wp2_with (first
    | ((with_reducible refine wpList_load_rng ?_ 30 (.tmp 8) rfl g5 0 rfl csN _ ?_ hup rfl jN.out ?_); rfl; exact N9.out)
    | ((with_reducible refine wpList_load_rng ?_ 30 (.tmp 4) rfl (w.heap.size + 1) 0 rfl cs1 _ ?_ hup rfl j1.out ?_); rfl; exact Y9.out))
  refine (MP.out _ _ P9.out.rd Q9.out (fl.out _ W9.out).2.1 (fl.out _ W9.out).2.2.1).mono ?_
  rintro e w10 ⟨rfl, hb⟩
  go_wp2
  go_ret
  exact ⟨rfl, W9.out.trans (hb.mono W9.out.size)⟩

/-! ### WHAT THE WALK GIVES, FOR EVERY ARGUMENT AND EVERY WORLD THAT HOLDS THE TABLE -/
set_option maxRecDepth 100000 in
theorem contract (H : Type) (enc : TypeId × Value → H) (W : World) (base : Nat) (args : Array Value) (ds gs : List (DataW H)) (before : List MemPlace)
    (hval0 : ∀ (j : Nat) t v, Tryz.f3.params[j]? = some t → args[j]? = some v → Value.okWide Tryz.prog W .any base t v)
    (hW : DataW.Whole enc Tryz.prog Tryz.f3.params.toList Rows.clashTellsSpec.vars false W args.toList ds gs before) (hL : laidMetH Tryz.prog Rows.clashTellsRow.laid W) :
    Calls Tryz.prog 3 args W fun e W' => ∃ v, e = .returned v ∧ Rows.clashTellsSpec.post enc Tryz.prog Tryz.f3 false true false false W args v W' := by
  have hval : ∀ (j : Nat) t v, Tryz.f3.params[j]? = some t → args[j]? = some v → Value.okWide Tryz.prog W .any base t v := hval0
  have hW' := hW
  obtain ⟨p, q, hA0, hV, rfl, hfz, hnd⟩ := hW
  have hA : DataW.TrodAll enc Tryz.prog W 0 (fun _ => true) true Tryz.f3.params.toList args.toList ds p := hA0
  rw [Tryz.params3] at hA hval
  obtain ⟨v0, vs0, d0, ds0, p0, q0, hargs, rfl, rfl, h0, r0⟩ := trodAll_cons hA
  obtain ⟨v1, vs1, d1, ds1, p1, q1, rfl, rfl, rfl, h1, r1⟩ := trodAll_cons r0
  obtain ⟨v2, vs2, d2, ds2, p2, q2, rfl, rfl, rfl, h2, r2⟩ := trodAll_cons r1
  obtain ⟨rfl, rfl, rfl⟩ := trodAll_nil r2
  obtain rfl : args = #[v0, v1, v2] := by cases args; simp_all
  obtain ⟨rfl, rfl⟩ := trodVars_none hV
  have k0 := h0
  have lt0 : ∀ x ∈ p0, x.block < W.heap.size := by obtain ⟨m, hm⟩ := k0; exact DataW.trod_lt m _ _ _ hm
  obtain ⟨x0, vs0, rfl, w0⟩ := open_struct opensTr Tryz.underlying24 (hval 0 24 v0 rfl rfl) h0
  have k1 := h1
  have lt1 : ∀ x ∈ p1, x.block < W.heap.size := by obtain ⟨m, hm⟩ := k1; exact DataW.trod_lt m _ _ _ hm
  obtain ⟨x1, vs1, rfl, w1⟩ := open_struct opensPf Tryz.underlying30 (hval 1 30 v1 rfl rfl) h1
  have k2 := h2
  have lt2 : ∀ x ∈ p2, x.block < W.heap.size := by obtain ⟨m, hm⟩ := k2; exact DataW.trod_lt m _ _ _ hm
  obtain ⟨x2, vs2, rfl, w2⟩ := open_struct opensPf Tryz.underlying30 (hval 2 30 v2 rfl rfl) h2
  clear hA0 hval0
  refine (walk x0 vs0 x1 vs1 x2 vs2 W w0 w1 w2 (tab_of hL)).mono fun e W' ⟨he, bel⟩ => ?_
  subst he
  exact ⟨_, rfl, _, _, _, [], _, [], hW', trodAll_mk1 (shut_bool Tryz.underlying4 _), (trodAll_cons_mk (Below.trod laidOut (by kernel_rfl) (of_decide_eq_true (by kernel_rfl)) k0 bel lt0) (trodAll_cons_mk (Below.trod laidOut (by kernel_rfl) (of_decide_eq_true (by kernel_rfl)) k1 bel lt1) (trodAll_cons_mk (Below.trod laidOut (by kernel_rfl) (of_decide_eq_true (by kernel_rfl)) k2 bel lt2) trodAll_mk0))), rfl, bel.frame _, fun h => by cases h⟩

theorem laid_met (os : Os) : laidMet Tryz.prog Rows.clashTellsRow.laid ((laidWorld os).forCall (fun _ _ => 0) ⟨#[], #[.agg zTrC, .agg zPfC, .agg zPfC], []⟩).memory :=
  laidMet_of_run' 8 (by kernel_rfl) (by kernel_rfl)
theorem reads (os : Os) {H : Type} (enc : TypeId × Value → H) : ∃ places, DataW.whole enc Tryz.prog ((laidWorld os).forCall (fun _ _ => 0) ⟨#[], #[.agg zTrC, .agg zPfC, .agg zPfC], []⟩).memory Tryz.f3.params.toList Rows.clashTellsSpec.vars false (#[.agg zTrC, .agg zPfC, .agg zPfC] : Array Value).toList 8 = some ([.agg [.nil, .lit (.int .i64 0)], .agg [.agg (List.replicate 32 (.lit (.int .u8 0))), .lit (.int .u8 0), .agg (List.replicate 32 (.lit (.int .u8 0))), .nil, .nil], .agg [.agg (List.replicate 32 (.lit (.int .u8 0))), .lit (.int .u8 0), .agg (List.replicate 32 (.lit (.int .u8 0))), .nil, .nil]], [], places) :=
  ⟨[], by kernel_rfl⟩
set_option maxRecDepth 100000 in
theorem lifted (os : Os) (started : os.Started) (H : Type) (enc : TypeId × Value → H) (F : Stop.Interp) :
    ReturnsInHanded {} Tryz.checked os 3 .any ((OpenSpec.ofChange Rows.clashTellsSpec).preRow enc Tryz.prog Tryz.f3 Rows.clashTellsRow.domain false Rows.clashTellsRow.laid) (((OpenSpec.ofChange Rows.clashTellsSpec).at F).post enc Tryz.prog Tryz.f3 false true false false) := by
  obtain ⟨places, hx⟩ := reads os enc
  refine returnsInHanded_of_row (C := Tryz.checked) (s := OpenSpec.ofChange Rows.clashTellsSpec) own started (by kernel_rfl) Tryz.func3
    (witness_row_at (enc := enc) (C := Tryz.checked) false (laidWorld os) #[.agg zTrC, .agg zPfC, .agg zPfC] rfl (by kernel_rfl) (by kernel_rfl) (by kernel_rfl)
      (OpenSpec.preRow_of_cond 8 hx (by kernel_rfl) (fun k hk => by cases hk) (by kernel_rfl) (laid_met os))) ?_
  intro W base args ds gs before hval hW _ _ _ hL _ _
  exact contract H enc W base args ds gs before hval hW hL
theorem said : Rows.ClashTellsSaid :=
  OpenClaim.holds_of_cond 3 Tryz.f3 rfl rfl rfl rfl rfl rfl rfl ⟨rfl, rfl, rfl, rfl, rfl⟩ rfl rfl rfl rfl rfl (by kernel_rfl) Tryz.func3 (by kernel_rfl)
    (of_decide_eq_true (by kernel_rfl)) (by unfold Func.isWrapper; first | (rw [if_pos (by decide +kernel)]; kernel_rfl) | (rw [if_neg (by decide +kernel)]; exact ⟨rfl, rfl⟩))
    (fun os started H enc _ F => by rw [OpenClaim.pre_eq_preRow]; exact lifted os started H enc F)
set_option maxRecDepth 100000 in
/-- No parameter wants a stand-in; the program's own looks are off: what the card asks. -/
theorem plain (f : FuncId) (fn : Func) (hf : Tryz.pinned.checked.prog.funcNamed "beadroll/beadrolllaw09.ClashTells" = some f) (hfn : Tryz.pinned.checked.prog.funcs[f]? = some fn) :
    false = Tryz.pinned.checked.prog.looks [] ∧ ∀ (j : Nat) t, fn.params[j]? = some t → Tryz.pinned.checked.prog.wantsStandIn t = false := by
  obtain rfl : f = 3 := Option.some.inj ((show Tryz.prog.funcNamed "beadroll/beadrolllaw09.ClashTells" = some 3 by kernel_rfl).symm.trans hf) |>.symm
  obtain rfl : fn = Tryz.f3 := (Option.some.inj (Tryz.func3.symm.trans hfn)).symm
  refine ⟨by kernel_rfl, fun j t ht => ?_⟩
  rw [Tryz.params3] at ht
  have hm := Array.mem_of_getElem? ht
  simp only [List.mem_toArray, List.mem_cons, List.not_mem_nil, or_false] at hm
  rcases hm with rfl | rfl | rfl
  all_goals first | exact (show Tryz.prog.wantsStandIn 24 = false by kernel_rfl) | exact (show Tryz.prog.wantsStandIn 30 = false by kernel_rfl)
set_option maxRecDepth 100000 in
/-- ████ THE CARD ████ -/
theorem proved : Rows.ClashTellsCardSaid :=
  Claim7.holds_tied_plain_at .later [] _ _ _ _ said (fun _ h => by cases h) (by kernel_rfl) (fun _ h => by cases h) clashTells_row_tie rfl ⟨rfl, rfl⟩ (by kernel_rfl) rfl plain (by kernel_rfl)
#print axioms proved
end Go.Proofs.YtapnhdpgogfceaaGreatDoor.clashTells
