import Derived.RangeFuncNested
import Derived.RangeFuncBound
import Derived.RangeFuncCalls
import Derived.RangeFuncLeaves
import Derived.RangeFuncBox
import Derived.Shelf.Abstract
import Derived.Shelf.RegionOpen
import Derived.OwnWalkIn
import Derived.TacticsInMore
import Derived.LoopNIn
import Derived.LoopIn
import Derived.Maps.AppendAt
import Derived.Deep.RegionHeld3
import Derived.Test.YtbfmkehchddkoaaDoorLx11
namespace Go.Proofs.YtbfmkehchddkoaaDoor
open Go.RowKit Go.Shelf
attribute [local go_sem] Oper.semAt_some

structure Tok where
  kind : Nat
  text : ByteArray
  at_ : Nat

def tokV (t : Tok) : Value := .agg #[.int .i64 t.kind, .string t.text, .int .i64 t.at_]
def tokC (t : Tok) : List Value := [.int .i64 t.kind, .string t.text, .int .i64 t.at_]

/-- The tokens from a position on (behind blanks), and where they end. -/
def headL : Nat → List UInt8 → Nat → List Tok × Nat
  | 0, _, i => ([], i)
  | f + 1, l, i => if l = [] then ([⟨7, ⟨#[]⟩, i⟩], i) else if (tokL l).2 = 0 then ([], i) else
    let k := (tokL l).2 + skipL (l.drop (tokL l).2)
    (⟨(tokL l).1, ⟨(l.take (tokL l).2).toArray⟩, i⟩ :: (headL f (l.drop k) (i + k)).1, (headL f (l.drop k) (i + k)).2)
/-- The tokens of a source, and where they end. -/
def toksL (l : List UInt8) : List Tok × Nat := headL (l.length + 1) (l.drop (skipL l)) (skipL l)

theorem spanL_le (p : UInt8 → Bool) (l : List UInt8) : spanL p l ≤ l.length := (List.takeWhile_prefix p).length_le
theorem tokL_le (l : List UInt8) : (tokL l).2 ≤ l.length := by
  have h1 := spanL_le isRunB l
  have h2 := spanL_le isDig l
  have h3 := spanL_le isDig (l.drop 2)
  have h4 := spanL_le isAdr (l.drop 1)
  have hP : List.isPrefixOf [116, 35] l = true → 2 ≤ l.length := fun hp => by
    have := (List.isPrefixOf_iff_prefix.1 hp).length_le
    simpa using this
  simp only [List.length_drop] at h3 h4
  have h5 : spanL isAdr l.tail ≤ l.length - 1 := by have := spanL_le isAdr l.tail; simpa using this
  unfold tokL pickL
  split
  · have := hP (by assumption)
    unfold timeL; simp only; split <;> simp <;> omega
  · split
    · unfold runL; simp only; (repeat' split) <;> simp <;> omega
    · split
      · unfold numL; simp only; split <;> simp <;> omega
      · split
        · rename_i hpct
          have : 1 ≤ l.length := by
            cases l with
            | nil => simp [isPct] at hpct
            | cons c l => simp
          unfold adrL; simp only; split <;> simp <;> omega
        · unfold sgnL
          split
          · simp; omega
          · split
            · rename_i hsg
              have : 1 ≤ l.length := by
                cases l with
                | nil => exact absurd hsg (by decide +kernel)
                | cons c l => simp
              simpa using this
            · simp

theorem uponIn_yield {F : Fence} {n : Nat} {P : Program} {o : Oper} {a : Act} {next : Act → World → Prop} {Q : Exit → Act → World → Prop} {l : Nat} {args : Array Value} {W : World} {R : Ending → World → Prop}
    (hd : F.depth = none) (h : YieldAt F (n - 1) P l args W R)
    (hn : ∀ e W', R e W' → (match e, W' with
      | .returned v, w'' => next (a.put o.dst v) w''
      | .panicked chain, w'' => Q (.panic chain) a w''
      | .outgrown, _ => LetsOut Q)) : Oper.uponIn F n P o a next Q ((Instr.yield l args).run P W) := by
  obtain ⟨fn, tmps, assign, body, hy, hR⟩ := h
  rw [hy]
  exact ⟨by simp [hd], hR.mono hn⟩

theorem headL_end (f : Nat) (i : Nat) : headL (f + 1) [] i = ([⟨7, ⟨#[]⟩, i⟩], i) := by simp [headL]
theorem headL_stop {f i : Nat} {l : List UInt8} (hl : l ≠ []) (h : (tokL l).2 = 0) : headL (f + 1) l i = ([], i) := by simp [headL, hl, h]
theorem headL_go {f i kk ll : Nat} {l : List UInt8} (hl : l ≠ []) (h : tokL l = (kk, ll)) (h0 : ll ≠ 0) :
    headL (f + 1) l i = (⟨kk, ⟨(l.take ll).toArray⟩, i⟩ :: (headL f (l.drop (ll + skipL (l.drop ll))) (i + (ll + skipL (l.drop ll)))).1, (headL f (l.drop (ll + skipL (l.drop ll))) (i + (ll + skipL (l.drop ll)))).2) := by
  simp [headL, hl, h, h0]

theorem scan_step {L : List UInt8} {k kk ll k2 f : Nat} {pre : List Tok} {T : List Tok × Nat} (hk : k < L.length)
    (hE : T = (pre ++ (headL (f + 1) (L.drop k) k).1, (headL (f + 1) (L.drop k) k).2)) (hT : tokL (L.drop k) = (kk, ll)) (hz : ll ≠ 0) (hk2 : skipL (L.drop (k + ll)) = k2) :
    T = ((pre ++ [⟨kk, ⟨((L.drop k).take ll).toArray⟩, k⟩]) ++ (headL f (L.drop (k + ll + k2)) (k + ll + k2)).1, (headL f (L.drop (k + ll + k2)) (k + ll + k2)).2) := by
  have hne : L.drop k ≠ [] := by
    intro e
    have := congrArg List.length e
    simp at this; omega
  have e1 : (L.drop k).drop ll = L.drop (k + ll) := by rw [List.drop_drop]
  have e2 : (L.drop k).drop (ll + k2) = L.drop (k + ll + k2) := by rw [List.drop_drop]; congr 1; omega
  have e3 : k + (ll + k2) = k + ll + k2 := by omega
  rw [hE, headL_go hne hT hz, e1, hk2, e2, e3]
  simp [List.append_assoc]

set_option maxHeartbeats 2000000 in
theorem tokens_it (s : ByteArray) (b mb l : Nat) (w : World) (hs : s.size ≤ 8000) (h : Scn w b s 0 (.map (some mb))) (hm : w.heap[mb]? = some (.map signsE 22)) (hA : Amb w) (hmb : mb ≠ b) (hb9 : 5 ≤ b)
    (J : List Tok → World → Prop) (hJ : ∀ xs A B, J xs A → Kp [b] A B → J xs B) (h0 : J [] w)
    (hY : ∀ (pre : List Tok) (x : Tok) (W : World), J pre W → pre.length ≤ s.size → Scn W b s x.at_ (.map (some mb)) → YieldAt Fence.wide 0 Tryd.prog l #[tokV x] W fun e W' =>
      e = .returned (.bool true) ∧ J (pre ++ [x]) W' ∧ W'.heap[b]? = W.heap[b]? ∧ W'.heap[mb]? = W.heap[mb]? ∧ (Amb W → Amb W')) :
    CallsIn Fence.wide 0 Tryd.prog 33 #[.pointer (some ⟨b, 0, none⟩), .func (.yield l) #[] #[]] w fun e W' => (∃ v, e = .returned v) ∧ J (toksL s.data.toList).1 W' ∧ Scn W' b s (toksL s.data.toList).2 (.map (some mb)) := by
  refine callsIn_of_wp Tryd.func33 rfl trivial ?_ rfl
  simp only [Tryd.ntmps33, List.size_toArray, List.length_cons, List.length_nil, Nat.reduceAdd, Nat.reduceSub, Array.replicate_succ, Array.replicate_zero, List.push_toArray, List.append_toArray, List.nil_append, List.cons_append]
  have hmx : Tryd.prog.follows .mixedOrders = true := by kernel_rfl
  have hsz : s.data.toList.length = s.size := by simp
  have hsz := Lib.hid hsz
  gi_wp2_with fail
  refine ⟨trivial, rfl, callsIn_wide.2 ((skip_c s b 0 _ _ (by omega) (by omega) (by exact h)).mono ?_)⟩
  rintro e w1 ⟨⟨v, rfl⟩, hS1, hK1⟩
  simp only [Nat.zero_add, List.drop_zero] at hS1
  have hm1 := hK1.heap hm (by simpa using hmb)
  have hA1 := hA.kp hK1 (by simpa using hb9)
  have hJ1 := hJ _ _ _ h0 hK1
  have hk0 := skipC_le false s.data.toList
  rw [hsz.out] at hk0
  gi_wp2_with fail
  gi_loopw [4] (fun _ wr => ∃ (k f : Nat) (pre : List Tok), k ≤ s.size ∧ pre.length ≤ k ∧ s.size < k + f ∧ Scn wr b s k (.map (some mb)) ∧ wr.heap[mb]? = some (.map signsE 22) ∧ Amb wr ∧ J pre wr ∧
      Hid (toksL s.data.toList = (pre ++ (headL f (s.data.toList.drop k) k).1, (headL f (s.data.toList.drop k) k).2))) (fun _ wr => leftOf wr b s.size)
  case atStart => exact ⟨skipL s.data.toList, s.size + 1, [], hk0, by simp, by omega, hS1, hm1, hA1, hJ1, by show _ = _; rw [toksL, hsz.out]; rfl⟩
  case round =>
    obtain ⟨k, f, pre, hk, hpk, hf, hS, hM, hAm, hJp, hE⟩ := hrel
    have c0 := hS.c0
    have c1 := hS.c1
    obtain ⟨f, rfl⟩ : ∃ g, f = g + 1 := ⟨f - 1, by omega⟩
    by_cases hlt : k < s.size
    · have hlt' : decide ((k : Int) < (s.size : Int)) = true := by simp; omega
      gi_wp2_with fail
      refine wpIn_wide.2 ?_
      go_quiet (fail)
      obtain ⟨kk, ll, hT⟩ : ∃ kk ll, tokL (s.data.toList.drop k) = (kk, ll) := ⟨_, _, rfl⟩
      have hll : ll ≤ s.size - k := by have := tokL_le (s.data.toList.drop k); rw [hT] at this; simp at this; omega
      have hT := Lib.hid hT
      have htk : Calls Tryd.prog 56 #[.pointer (some ⟨b, 0, none⟩)] (wr.drewN nq) fun e w' => e = .returned (.tuple #[.int .i64 kk, .int .i64 ll]) ∧ Kp [] (wr.drewN nq) w' := by
        have := token_c s b k (wr.drewN nq) mb (by omega) (by omega) (by exact hS) (by exact hM) (by exact hAm.drewN nq)
        rw [hT.out] at this; exact this
      have htk := Lib.hid htk
      gi_wp2_with fail
      refine ⟨trivial, rfl, callsIn_wide.2 (htk.out.mono ?_)⟩
      rintro e w2 ⟨rfl, hK2⟩
      have hK2 := ((Kp.refl [] wr).drewN nq).trans hK2
      have hS2 : Scn w2 b s k (.map (some mb)) := Blk.kp hS hK2 (by simp)
      have hM2 := hK2.heap hM (by simp)
      have hAm2 := hAm.kp0 hK2
      have hJ2 := hJ _ _ _ hJp hK2.any
      by_cases hz : ll = 0
      · subst hz
        have hE2 : Hid (toksL s.data.toList = (pre, k)) := by
          show _ = _
          have hne : s.data.toList.drop k ≠ [] := by
            intro e
            have := congrArg List.length e
            simp at this; omega
          rw [hE.out, headL_stop hne (by rw [hT.out])]
          simp
        gi_wp2_with fail
        refine bodyPost_ret (results_none rfl _ _ _) rfl ?_
        refine ⟨⟨_, rfl⟩, ?_, ?_⟩
        · rw [hE2.out]; exact hJ2
        · rw [hE2.out]; exact hS2
      · have hz1 : ((ll : Int) == 0) = false := by simp; omega
        have c02 := hS2.c0
        have c12 := hS2.c1
        gi_wp2_with fail
        refine wpIn_wide.2 ?_
        have hblt : b < w2.heap.size := Blk.lt hS2
        go_region_held3 (fun w' => w'.cell? ⟨b, 0, none⟩ = some (.string s) ∧ w'.cell? ⟨b, 1, none⟩ = some (.int .i64 k))
          (first | go_keep | exact ⟨c02, c12⟩)
          ((go_at_call 57; refine (rest_r s k b _ (by first | exact c02 | exact (World.cell?_alloc_lt w2 _ ⟨b, 0, none⟩ hblt).trans c02) (by first | exact c12 | exact (World.cell?_alloc_lt w2 _ ⟨b, 1, none⟩ hblt).trans c12) (by omega) (by omega)).mono ?_; rintro e w' ⟨r, n, rfl, hr, hzr, rfl⟩; have hzr1 : ll ≤ r.size := by rw [hzr.out]; omega))
        all_goals
          have hx : Hid (r.extract 0 ll = ⟨((s.data.toList.drop k).take ll).toArray⟩) := by
            show _ = _
            rw [← hr.out, ← extract_to]
          obtain ⟨X, hX⟩ : ∃ X, Obj.cells #[.int .i64 kk, .string (r.extract 0 ll), .int .i64 k] 46 (0, 0) = X := ⟨_, rfl⟩
          have hJy : ∀ m, J pre ((w2.alloc X).drewN m) := fun m => hJ _ _ _ hJ2 (((Kp.refl _ w2).alloc X).drewN m)
          have hSy : ∀ m, Scn ((w2.alloc X).drewN m) b s k (.map (some mb)) := fun m => Blk.drewN (Blk.alloc hS2 X) m
          have hMy : ∀ m, ((w2.alloc X).drewN m).heap[mb]? = some (.map signsE 22) := fun m => (((Kp.refl [] w2).alloc X).drewN m).heap hM2 (by simp)
          have hAy : ∀ m, Amb ((w2.alloc X).drewN m) := fun m => hAm2.kp0 (((Kp.refl [] w2).alloc X).drewN m)
          have hJy := Lib.hid hJy
          have hSy := Lib.hid hSy
          have hMy := Lib.hid hMy
          have hAy := Lib.hid hAy
          subst hX
          gi_wp2_with fail
          refine uponIn_yield rfl (hY pre ⟨kk, r.extract 0 ll, k⟩ _ (by exact hJy.out _) (by omega) (by exact hSy.out _)) ?_
          rintro e W3 ⟨rfl, hJ3, hb3, hm3, hA3⟩
          have hS3 : Scn W3 b s k (.map (some mb)) := hb3.trans (hSy.out _)
          have hM3 := hm3.trans (hMy.out _)
          have hA3 := hA3 (hAy.out _)
          have c13 := hS3.c1
          have f13 := hS3.frozen 1
          have hS4 : Scn (W3.setCell ⟨b, 1, none⟩ (.int .i64 ((k : Int) + ll))) b s (k + ll) (.map (some mb)) := hS3.set _ (by omega)
          have hK4 : Kp [b] W3 (W3.setCell ⟨b, 1, none⟩ (.int .i64 ((k : Int) + ll))) := (Kp.refl _ _).setCell (.inl (by simp)) _
          obtain ⟨k2, hk2⟩ : ∃ k2, skipL (s.data.toList.drop (k + ll)) = k2 := ⟨_, rfl⟩
          have hk2l : k2 ≤ s.size - (k + ll) := by
            have := skipC_le false (s.data.toList.drop (k + ll))
            rw [← hk2, skipL]
            simpa using this
          have hE2 : Hid (toksL s.data.toList = ((pre ++ [⟨kk, r.extract 0 ll, k⟩]) ++ (headL f (s.data.toList.drop (k + ll + k2)) (k + ll + k2)).1, (headL f (s.data.toList.drop (k + ll + k2)) (k + ll + k2)).2)) := by
            show _ = _
            rw [hx.out]
            exact scan_step (by simpa using hlt) hE.out hT.out hz hk2
          have hk2 := Lib.hid hk2
          have hS4 := Lib.hid hS4
          have hK4 := Lib.hid hK4
          gi_wp2_with fail
          refine ⟨trivial, rfl, callsIn_wide.2 ((skip_c s b (k + ll) _ _ (by omega) (by omega) (by exact hS4.out)).mono ?_)⟩
          rintro e W5 ⟨⟨v5, rfl⟩, hS5, hK5⟩
          rw [hk2.out] at hS5
          have hK6 := hK4.out.trans hK5
          have hJ5 := hJ _ _ _ hJ3 hK6
          have hM5 := hK6.heap hM3 (by simpa using hmb)
          have hA5 := hA3.kp hK6 (by simpa using hb9)
          clear hK5 hK6
          gi_wp2_with fail
          go_roundw
          case rel => exact ⟨k + ll + k2, f, _, by omega, by simp; omega, by omega, hS5, hM5, hA5, hJ5, hE2⟩
          case measure => rw [hS5.left, hS.left]; omega
    · have hlt' : decide ((k : Int) < (s.size : Int)) = false := by simp; omega
      obtain rfl : k = s.size := by omega
      have hE2 : Hid (toksL s.data.toList = (pre ++ [⟨7, ⟨#[]⟩, s.size⟩], s.size)) := by
        show _ = _
        rw [hE.out, List.drop_of_length_le (by simp), headL_end]
      gi_wp2_with fail
      refine wpIn_wide.2 ?_
      go_quiet (fail)
      gi_wp2_with fail
      refine uponIn_yield rfl (hY pre ⟨7, ⟨#[]⟩, s.size⟩ _ (by exact hJ _ _ _ hJp ((Kp.refl _ wr).drewN nq)) (by omega) (by exact hS.drewN nq)) ?_
      rintro e W3 ⟨rfl, hJ3, hb3, hm3, hA3⟩
      have hS3 : Scn W3 b s s.size (.map (some mb)) := hb3.trans (hS.drewN nq)
      gi_wp2_with fail
      go_end0
      refine ⟨⟨_, rfl⟩, ?_, ?_⟩
      · rw [hE2.out]; exact hJ3
      · rw [hE2.out]; exact hS3
end Go.Proofs.YtbfmkehchddkoaaDoor
