/-
  Texts laid together: Ref04t, Ref06a, Ref06c, Ref06b, Ref06d.
-/
import Derived.Test.YtgmlmkhiflnhdaaDoorBits
import Derived.Test.YtgmlmkhiflnhdaaDoorMem
import Derived.IntWalk
import Derived.Test.YtgmlmkhiflnhdaaDoorTreeB
import Derived.Test.YtgmlmkhiflnhdaaDoorRefE
import Derived.Test.YtgmlmkhiflnhdaaDoorPlain
set_option maxRecDepth 100000
/- (Ref04t)
  The document's answers for layer 4: Turn.
-/
namespace Go.Proofs.YtgmlmkhiflnhdaaDoor
open Go.RowKit
set_option linter.unusedVariables false
set_option linter.unusedSimpArgs false

theorem tbyte_nat : ∀ c : Fin 256, ∀ p : Fin 8, (tbyte (UInt8.ofNat c.val) p.val).toNat = (if c.val / 2 ^ (7 - p.val) % 2 = 1 then c.val - 2 ^ (7 - p.val) else c.val + 2 ^ (7 - p.val)) ∧ (c.val / 2 ^ (7 - p.val) % 2 = 1 → 2 ^ (7 - p.val) ≤ c.val) ∧ (c.val / 2 ^ (7 - p.val) % 2 ≠ 1 → c.val + 2 ^ (7 - p.val) < 256) := by decide +kernel

end Go.Proofs.YtgmlmkhiflnhdaaDoor

/- (Ref06a)
  The document's answers of layer 6: Great, one.
-/
namespace Go.Proofs.YtgmlmkhiflnhdaaDoor
open Go.RowKit
set_option linter.unusedVariables false
set_option linter.unusedSimpArgs false
set_option maxRecDepth 100000

def anyT (ns : List Nd) : Bool := ns.any fun x => decide (100 < x.v.length)
/-- Is a tree more than statements go through? -/
def greatT (ns : List Nd) (m : Nat) : Bool := anyT (ns.take (m + 1)) || decide (m < ns.length)
theorem anyT_take {ns : List Nd} {j : Nat} (hj : j < ns.length) : anyT (ns.take (j + 1)) = (anyT (ns.take j) || decide (100 < ns[j].v.length)) := by
  unfold anyT
  rw [List.take_succ_eq_append_getElem hj, List.any_append]
  simp
theorem anyT_part {ns : List Nd} {j m : Nat} (h : anyT (ns.take j) = true) (hj : j ≤ m) : anyT (ns.take m) = true := by
  unfold anyT at h ⊢
  rw [List.any_eq_true] at h ⊢
  obtain ⟨x, h1, h2⟩ := h
  refine ⟨x, ?_, h2⟩
  rw [show ns.take j = (ns.take m).take j by rw [List.take_take, Nat.min_eq_left hj]] at h1
  exact List.mem_of_mem_take h1
theorem greatT_no {ns : List Nd} {m : Nat} (h : greatT ns m = false) : ns.length ≤ m ∧ ∀ x ∈ ns, x.v.length ≤ 100 := by
  unfold greatT at h
  rw [Bool.or_eq_false_iff, decide_eq_false_iff_not] at h
  have hl : ns.length ≤ m := by omega
  refine ⟨hl, fun x hx => ?_⟩
  have h1 := h.1
  unfold anyT at h1
  rw [List.take_of_length_le (by omega), List.any_eq_false] at h1
  simpa using h1 x hx


end Go.Proofs.YtgmlmkhiflnhdaaDoor

/- (Ref06c)
  The document's answers of layer 6: Twin, SameDigests.
-/
namespace Go.Proofs.YtgmlmkhiflnhdaaDoor
open Go.RowKit
set_option linter.unusedVariables false
set_option linter.unusedSimpArgs false
set_option maxRecDepth 100000

theorem OwnQ.keptG {α : Type} [Enc α] {E : TypeId} {w w' : World} {B0 B g : Nat} {A : Option Addr} {c : Nat} {xs : List α} (h : OwnQ E w B0 B A c xs) (hk : ∀ b, b < w.heap.size → b ≠ g → w'.heap[b]? = w.heap[b]?) (h0 : g < B0) (h1 : g < B) : OwnQ E w' B0 B A c xs := by
  have hb := h.blk
  obtain ⟨F, k1, k2⟩ := h
  exact ⟨F, k1.kept (fun a ha hl => hk _ hl fun e => by have := (hb a ha).1; omega) (fun b hf hl => hk b hl fun e => by have := (k2 b hf).1; omega), fun b hf => ⟨(k2 b hf).1, (k2 b hf).2.kept (hk b (k2 b hf).2.lt fun e => by have := (k2 b hf).1; omega)⟩⟩
theorem rep_nd_own {E : TypeId} {w : World} {B : Nat} (x : Nd) {A : Option Addr} {c : Nat} (h : Own E w B A c x.v) (hl : I64 x.l) (hr : I64 x.r) : Enc.rep (fun b => ∃ a, A = some a ∧ b = a.block) w x (ndC x A c) :=
  rep_nd_mk x A c h.cap.1 h.cap.2 (h.rd.row fun a ha _ => ⟨a, ha, rfl⟩) hl hr
theorem nd_setR (x : Nd) (A A2 : Option Addr) (c c2 : Nat) : (ndC x A c).toArray.setIfInBounds 33 (.slice A2 x.v.length c2) = (ndC x A2 c2).toArray := by
  apply Array.ext'
  have hl : (x.k.1.map bv).length = 32 := by rw [List.length_map]; exact x.k.2
  simp only [Array.toList_setIfInBounds, ndC, List.cons_append, List.nil_append, List.set_cons_succ]
  rw [List.set_append_right _ _ (by omega), hl]
  rfl
theorem one_tr (A : Option Addr) (n c : Nat) (root : Int) : (#[Value.slice A n c, .int .i64 root] : Array Value).all (·.oneCell') = true := all_oneCell_toArray (cs := [Value.slice A n c, .int .i64 root]) fun u hu => by
  simp at hu
  rcases hu with rfl | rfl <;> rfl

theorem take_eq_succD {ps qs : List Dg} {j : Nat} (h1 : j < ps.length) (h2 : j < qs.length) (h : ps.take j = qs.take j) : ps.take (j + 1) = qs.take (j + 1) ↔ ps[j] = qs[j] := by
  rw [List.take_succ_eq_append_getElem h1, List.take_succ_eq_append_getElem h2, h]
  exact ⟨fun e => by have := List.append_cancel_left e; simpa using this, fun e => by rw [e]⟩
theorem row_dg {F : Nat → Prop} {w : World} {A : Option Addr} {xs : List Dg} (h : Row F w A xs) {j : Nat} (hj : j < xs.length) : ∃ b o, A = some ⟨b, o, none⟩ ∧ w.rangeAt b (o + j * 32) (xs[j].1.map bv) := by
  obtain ⟨b, o, rfl, _, _, h3⟩ := h (by omega)
  obtain ⟨vs, h1, h2⟩ := h3 j _ (List.getElem?_eq_getElem hj)
  have h1 : vs = xs[j].1.map bv := h1
  subst h1
  exact ⟨b, o, rfl, h2⟩
set_option maxHeartbeats 1000000 in
theorem RSameDg_any (F G : Nat → Prop) (A D : Option Addr) (c d : Nat) (ps qs : List Dg) (w : World) (hr : Row F w A ps) (hs : Row G w D qs) (hc : ps.length ≤ 9223372036854775807) (hd : qs.length ≤ 9223372036854775807) :
    Calls Tryd.prog 13 #[.slice A ps.length c, .slice D qs.length d] w fun e w' => e = .returned (.bool (decide (ps = qs))) ∧ Below w.heap.size w w' := by
  obtain ⟨ans, ha⟩ : ∃ ans, decide (ps = qs) = ans := ⟨_, rfl⟩
  rw [ha]
  replace ha := hid ha
  by_cases hl : ps.length = qs.length
  · have hl2 := hid hl
    rw [← hl] at hd ⊢
    replace hl := hl2
    clear hl2
    go_enter Tryd.func13, Tryd.ntmps13
    go_wp2
    go_loopw [5] (fun i wr => ∃ j : Nat, j ≤ ps.length ∧ i = .int .i64 j ∧ ps.take j = qs.take j ∧ Below w.heap.size w wr) (fun i _ => ps.length - (intOf i).toNat)
    case atStart => exact ⟨0, Nat.zero_le _, rfl, by simp, Below.refl _ _⟩
    case round =>
      obtain ⟨j, hj, rfl, hrel, hb⟩ := hrel
      by_cases hlt : j < ps.length
      · have hlt2 : j < qs.length := by rw [← hl.out]; exact hlt
        have E := hid (take_eq_succD hlt hlt2 hrel)
        replace hrel := hid hrel
        have hu := Tryd.underlying29
        obtain ⟨b, o, hA, r1⟩ := row_dg hr hlt
        obtain ⟨b', o', hD, r2⟩ := row_dg hs hlt2
        subst hA hD
        obtain ⟨eb, heb⟩ : ∃ eb, decide (ps[j] = qs[j]) = eb := ⟨_, rfl⟩
        have hE : ∀ W, (Op.equalIn 10000 29 (.agg (ps[j].1.map bv).toArray) (.agg (qs[j].1.map bv).toArray)).run Tryd.prog W = .ok eb W := fun W => eqd_is ps[j] qs[j] eb heb W
        have hno : eb = false → false = ans := by
          intro h
          rw [← ha.out]
          refine (decide_eq_false fun e => ?_).symm
          have := E.out.1 (by rw [e])
          rw [h] at heb; simp [this] at heb
        have hyes : eb = true → ps.take (j + 1) = qs.take (j + 1) := fun h1 => E.out.2 (by simpa [h1] using heb)
        have hi1 := hid (sizeDgT ps[j])
        have hi2 := hid (sizeDgT qs[j])
        clear heb E
        generalize ps[j].1.map bv = d1 at *
        generalize qs[j].1.map bv = d2 at *
        have q1 := hid r1
        have q2 := hid r2
        clear hlt2 r1 r2
        cases eb
        · replace hno := hid (hno rfl)
          clear hyes
          go_wp2
          refine wp_region_noPanic ?_
          refine wp_region_held_drew (S := fun w' => Below wr.heap.size wr w') (by kernel_rfl) ?_ (fun hHeld => ?_)
          · exact bel_drew wr
          refine' wpAnyH_take (i := 0) (oi := _) (v := ?_) rfl (by kernel_rfl) (by kernel_rfl) (by kernel_rfl) (fun _ _ _ h => h) (Or.inl ⟨by rfl, ?_⟩) (by assumption) ?_
          rotate_left
          · intro W hSw
            go_simp
            first | done | (with_reducible rfl)
          try simp only [Act.put, sQa, sQb, sQc, gQa, gQb, gQc]
          refine' wpAnyH_take (i := 1) (oi := _) (v := ?_) rfl (by kernel_rfl) (by kernel_rfl) (by kernel_rfl) (fun _ _ _ h => h) (Or.inl ⟨by rfl, ?_⟩) (by assumption) ?_
          rotate_left
          · intro W hSw
            go_simp
            first | done | (with_reducible rfl)
          try simp only [Act.put, sQa, sQb, sQc, gQa, gQb, gQc]
          refine' wpAnyH_take (i := 2) (oi := _) (v := ?_) rfl (by kernel_rfl) (by kernel_rfl) (by kernel_rfl) (fun _ _ _ h => h) (Or.inl ⟨by rfl, ?_⟩) (by assumption) ?_
          rotate_left
          · intro W hSw
            go_simp
            first | done | (with_reducible rfl)
          try simp only [Act.put, sQa, sQb, sQc, gQa, gQb, gQc]
          refine' wpAnyH_take (i := 3) (oi := _) (v := _) rfl (by kernel_rfl) (by kernel_rfl) (by kernel_rfl) (fun _ _ _ h => h) (yieldsIf_load_mid (by rfl) _ _ rfl _ _ rfl _ _ (fun _ h => rangeBel2 h (rangeBel2 hb q1.out)) hu rfl hi1.out) (by assumption) ?_
          try simp only [Act.put, sQa, sQb, sQc, gQa, gQb, gQc]
          refine' wpAnyH_take (i := 4) (oi := _) (v := ?_) rfl (by kernel_rfl) (by kernel_rfl) (by kernel_rfl) (fun _ _ _ h => h) (Or.inl ⟨by rfl, ?_⟩) (by assumption) ?_
          rotate_left
          · intro W hSw
            go_simp
            first | done | (with_reducible rfl)
          try simp only [Act.put, sQa, sQb, sQc, gQa, gQb, gQc]
          refine' wpAnyH_take (i := 5) (oi := _) (v := ?_) rfl (by kernel_rfl) (by kernel_rfl) (by kernel_rfl) (fun _ _ _ h => h) (Or.inl ⟨by rfl, ?_⟩) (by assumption) ?_
          rotate_left
          · intro W hSw
            go_simp
            first | done | (with_reducible rfl)
          try simp only [Act.put, sQa, sQb, sQc, gQa, gQb, gQc]
          refine' wpAnyH_take (i := 6) (oi := _) (v := ?_) rfl (by kernel_rfl) (by kernel_rfl) (by kernel_rfl) (fun _ _ _ h => h) (Or.inl ⟨by rfl, ?_⟩) (by assumption) ?_
          rotate_left
          · intro W hSw
            go_simp
            first | done | (with_reducible rfl)
          try simp only [Act.put, sQa, sQb, sQc, gQa, gQb, gQc]
          refine' wpAnyH_take (i := 7) (oi := _) (v := _) rfl (by kernel_rfl) (by kernel_rfl) (by kernel_rfl) (fun _ _ _ h => h) (yieldsIf_load_mid (by rfl) _ _ rfl _ _ rfl _ _ (fun _ h => rangeBel2 h (rangeBel2 hb q2.out)) hu rfl hi2.out) (by assumption) ?_
          try simp only [Act.put, sQa, sQb, sQc, gQa, gQb, gQc]
          refine' wpAnyH_take (i := 8) (oi := _) (v := ?_) rfl (by kernel_rfl) (by kernel_rfl) (by kernel_rfl) (fun _ _ _ h => h) (Or.inl ⟨by rfl, ?_⟩) (by assumption) ?_
          rotate_left
          · intro W hSw
            go_simp
            first | done | (with_reducible rfl)
          try simp only [Act.put, sQa, sQb, sQc, gQa, gQb, gQc]
          refine wpAnyH_done (by kernel_rfl) ?_ _
          refine NoPanic.normal ?_
          go_wp2
          go_ret
          exact ⟨ret_b hno.out, hb.trans (hHeld.mono hb.size)⟩
        · replace hyes := hid (hyes rfl)
          clear hno
          go_wp2
          refine wp_region_noPanic ?_
          refine wp_region_held_drew (S := fun w' => Below wr.heap.size wr w') (by kernel_rfl) ?_ (fun hHeld => ?_)
          · exact bel_drew wr
          refine' wpAnyH_take (i := 0) (oi := _) (v := ?_) rfl (by kernel_rfl) (by kernel_rfl) (by kernel_rfl) (fun _ _ _ h => h) (Or.inl ⟨by rfl, ?_⟩) (by assumption) ?_
          rotate_left
          · intro W hSw
            go_simp
            first | done | (with_reducible rfl)
          try simp only [Act.put, sQa, sQb, sQc, gQa, gQb, gQc]
          refine' wpAnyH_take (i := 1) (oi := _) (v := ?_) rfl (by kernel_rfl) (by kernel_rfl) (by kernel_rfl) (fun _ _ _ h => h) (Or.inl ⟨by rfl, ?_⟩) (by assumption) ?_
          rotate_left
          · intro W hSw
            go_simp
            first | done | (with_reducible rfl)
          try simp only [Act.put, sQa, sQb, sQc, gQa, gQb, gQc]
          refine' wpAnyH_take (i := 2) (oi := _) (v := ?_) rfl (by kernel_rfl) (by kernel_rfl) (by kernel_rfl) (fun _ _ _ h => h) (Or.inl ⟨by rfl, ?_⟩) (by assumption) ?_
          rotate_left
          · intro W hSw
            go_simp
            first | done | (with_reducible rfl)
          try simp only [Act.put, sQa, sQb, sQc, gQa, gQb, gQc]
          refine' wpAnyH_take (i := 3) (oi := _) (v := _) rfl (by kernel_rfl) (by kernel_rfl) (by kernel_rfl) (fun _ _ _ h => h) (yieldsIf_load_mid (by rfl) _ _ rfl _ _ rfl _ _ (fun _ h => rangeBel2 h (rangeBel2 hb q1.out)) hu rfl hi1.out) (by assumption) ?_
          try simp only [Act.put, sQa, sQb, sQc, gQa, gQb, gQc]
          refine' wpAnyH_take (i := 4) (oi := _) (v := ?_) rfl (by kernel_rfl) (by kernel_rfl) (by kernel_rfl) (fun _ _ _ h => h) (Or.inl ⟨by rfl, ?_⟩) (by assumption) ?_
          rotate_left
          · intro W hSw
            go_simp
            first | done | (with_reducible rfl)
          try simp only [Act.put, sQa, sQb, sQc, gQa, gQb, gQc]
          refine' wpAnyH_take (i := 5) (oi := _) (v := ?_) rfl (by kernel_rfl) (by kernel_rfl) (by kernel_rfl) (fun _ _ _ h => h) (Or.inl ⟨by rfl, ?_⟩) (by assumption) ?_
          rotate_left
          · intro W hSw
            go_simp
            first | done | (with_reducible rfl)
          try simp only [Act.put, sQa, sQb, sQc, gQa, gQb, gQc]
          refine' wpAnyH_take (i := 6) (oi := _) (v := ?_) rfl (by kernel_rfl) (by kernel_rfl) (by kernel_rfl) (fun _ _ _ h => h) (Or.inl ⟨by rfl, ?_⟩) (by assumption) ?_
          rotate_left
          · intro W hSw
            go_simp
            first | done | (with_reducible rfl)
          try simp only [Act.put, sQa, sQb, sQc, gQa, gQb, gQc]
          refine' wpAnyH_take (i := 7) (oi := _) (v := _) rfl (by kernel_rfl) (by kernel_rfl) (by kernel_rfl) (fun _ _ _ h => h) (yieldsIf_load_mid (by rfl) _ _ rfl _ _ rfl _ _ (fun _ h => rangeBel2 h (rangeBel2 hb q2.out)) hu rfl hi2.out) (by assumption) ?_
          try simp only [Act.put, sQa, sQb, sQc, gQa, gQb, gQc]
          refine' wpAnyH_take (i := 8) (oi := _) (v := ?_) rfl (by kernel_rfl) (by kernel_rfl) (by kernel_rfl) (fun _ _ _ h => h) (Or.inl ⟨by rfl, ?_⟩) (by assumption) ?_
          rotate_left
          · intro W hSw
            go_simp
            first | done | (with_reducible rfl)
          try simp only [Act.put, sQa, sQb, sQc, gQa, gQb, gQc]
          refine wpAnyH_done (by kernel_rfl) ?_ _
          refine NoPanic.normal ?_
          go_wp2
          go_roundw
          case rel => exact ⟨j + 1, by omega, by go_num, hyes.out, hb.trans (hHeld.mono hb.size)⟩
          case measure => simp [intOf]; omega
      · obtain rfl : j = ps.length := by omega
        have e1 : true = ans := by
          rw [← ha.out]
          refine (decide_eq_true ?_).symm
          rw [List.take_length] at hrel
          rw [hrel, hl.out, List.take_length]
        replace e1 := hid e1
        replace hrel := trivial
        go_wp2
        go_ret
        exact ⟨ret_b e1.out, hb⟩
  · have e1 : false = ans := by rw [← ha.out]; exact (decide_eq_false fun e => hl (by rw [e])).symm
    have hne : ((ps.length : Int) != (qs.length : Int)) = true := bne_iff_ne.2 (by omega)
    go_enter Tryd.func13, Tryd.ntmps13
    go_wp2
    go_ret
    exact ⟨ret_b e1, Below.refl _ _⟩
end Go.Proofs.YtgmlmkhiflnhdaaDoor

/- (Ref06b)
  The document's answers of layer 6: right, May, Check.
-/
namespace Go.Proofs.YtgmlmkhiflnhdaaDoor
open Go.RowKit
set_option linter.unusedVariables false
set_option linter.unusedSimpArgs false
set_option maxRecDepth 100000

theorem boxesTD (w : World) (A : Option Addr) (n c : Nat) (root : Int) (b : Dg) (t u : TypeId) :
    BoxT ((w.alloc (.cells #[.slice A n c, .int .i64 root] t)).alloc (.cells (b.1.map bv).toArray u)) w.heap.size A n c root ∧ ((w.alloc (.cells #[.slice A n c, .int .i64 root] t)).alloc (.cells (b.1.map bv).toArray u)).rangeAt (w.heap.size + 1) 0 (b.1.map bv) ∧
    Below w.heap.size w ((w.alloc (.cells #[.slice A n c, .int .i64 root] t)).alloc (.cells (b.1.map bv).toArray u)) := by
  have h1 := BoxT.new w A n c root t
  have h2 := rangeOf (heap_alloc_new (w.alloc (.cells #[.slice A n c, .int .i64 root] t)) (.cells (b.1.map bv).toArray u))
  rw [World.size_alloc] at h2
  exact ⟨h1.bel (ext_alloc _ _), h2, ext_trans (ext_alloc _ _) (ext_alloc _ _)⟩

theorem xnew_ {w0 w4 : World} {o : Obj} {k : Nat} (hk : k = w0.heap.size) (hb : (w0.alloc o).grownBy w4 (some k)) : Below w0.heap.size w0 w4 :=
  (ext_alloc w0 o).grown hb (ext_alloc w0 o).size (fun g e => by injection e with e; omega)

theorem ones_iff {ns : List Nd} : Ones ns ↔ ∀ i (h : i < ns.length), oneN ns[i] i = true := Iff.rfl
end Go.Proofs.YtgmlmkhiflnhdaaDoor

/- (Ref06d)
  The document's answers of layer 6: For.
-/
namespace Go.Proofs.YtgmlmkhiflnhdaaDoor
open Go.RowKit
set_option linter.unusedVariables false
set_option linter.unusedSimpArgs false
set_option maxRecDepth 100000

/-- One thing in a new block: a row of the call's own. -/
theorem OwnR.one {α : Type} [Enc α] {E : TypeId} {F : Nat → Prop} {w : World} {B : Nat} {x : α} {cs : List Value} (h : Enc.rep F w x cs) (hF : ∀ b, F b → B ≤ b ∧ Soft w b) (hB : B ≤ w.heap.size) :
    OwnR E (w.alloc (.cells cs.toArray E)) B (some ⟨w.heap.size, 0, none⟩) 1 [x] := by
  have hl := Enc.len h
  refine ⟨F, ⟨[cs], rfl, ⟨by simp [hl], .inr ⟨w.heap.size, 1, cs.toArray, rfl, hB, heap_alloc_new _ _, Nat.le_refl _, (by decide : 1 ≤ maxLen), by simp [hl], by simp [hl]; exact List.take_of_length_le (by omega)⟩⟩, ?_, ?_⟩, fun b hb => ⟨(hF b hb).1, (hF b hb).2.kept ((ext_alloc w _).block b (hF b hb).2.lt)⟩⟩
  · intro j y vs hy hv
    rcases j with _ | j
    · simp at hy hv
      subst hy hv
      exact Enc.bel h (ext_alloc _ _)
    · simp at hy
  · rintro a ha hf
    injection ha with ha
    subst ha
    exact absurd (hF _ hf).2.lt (Nat.lt_irrefl _)
end Go.Proofs.YtgmlmkhiflnhdaaDoor
