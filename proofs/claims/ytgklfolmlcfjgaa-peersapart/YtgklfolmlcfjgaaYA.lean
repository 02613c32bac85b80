/- The second walk: functions that put something behind a slice that is handed to them, and hand it back. -/
import Derived.Test.YtgklfolmlcfjgaaYL
namespace Go.Proofs.Ytgklfolmlcfjgaa.Y
open Go.RowKit
set_option linter.unusedSimpArgs false
set_option linter.unusedVariables false
/-- The slice's name in such a function. -/
abbrev argL : Nat := 999999
def entA (e : Nat) (r0 : Row SV) (rest : List SV) : St := St.of ((0, .sl argL 0) :: entFr 1 rest) [(argL, .row 0 e r0)]
theorem flatAll {E E' : Env} {cs : List SV} {ws : List Value} (hf : ∀ c ∈ cs, c.flat0 = true) (h : All E cs ws) : All E' cs ws :=
  ⟨h.1, fun j x u hx hu => flat_is (hf x (List.mem_of_getElem? hx)) (h.2 j x u hx hu)⟩
theorem entryA_sim {n e : Nat} {r0 : Row SV} {rest : List SV} {w : World} {v : Value} {us vs : List Value} (he : e < 1000000) (hw : r0.Wf) (hfl : r0.flat = true) (hrf : rest.all SV.flat0 = true) (hG : GlbW w) (hX : ∀ b, v.ownBlock = some b → glbAt b = none)
    (ho : w.ownsRow 0 e r0.size v r0.len us) (hc : All (E0 w fun _ => False) r0.cells us) (hr : All (E0 w fun _ => False) rest vs) (hn : rest.length + 1 ≤ n) :
    Sim n ⟨w, fun b => v.ownBlock = some b, fun t => if t = 0 then some v else none⟩ (fun _ => False) (entA e r0 rest) ⟨(v :: vs).toArray ++ Array.replicate (n - (v :: vs).toArray.size) undef, []⟩ w := by
  obtain ⟨sd, rfl⟩ := own_val ho
  have hmem : ∀ d, (entA e r0 rest).mem d = if d = argL then .row 0 e r0 else .fresh := fun d => by
    simp only [entA, St.of, St.fl, memOf, lookN]
    split <;> rfl
  have hlook : ∀ t, lookN ((0, SV.sl argL 0) :: entFr 1 rest) t = (SV.sl argL 0 :: rest)[t]? := fun t => by
    simp only [lookN]
    by_cases h : t = 0
    · subst h; simp
    · rw [if_neg h, entFr_look, if_neg (by omega)]
      cases t with
      | zero => exact absurd rfl h
      | succ t => simp
  have hlen : vs.length = rest.length := hr.1
  refine ⟨fun _ => 0, fun _ => sd, ⟨by simp [hlen]; omega, fun t u hk => ?_⟩, rfl, ⟨rfl, rfl, rfl, Nat.le_refl _, fun _ _ _ => rfl⟩, fun t ht => ?_, fun d => ?_, fun d d' b hne h1 h2 => ?_, fun b hb => hb.elim, hG, fun g hg hx => ?_⟩
  · simp only at hk
    split at hk
    · rename_i h0
      subst h0
      simp only [Option.some.injEq] at hk
      subst hk
      rw [Array.getElem?_append_left (by simp)]
      simp
    · cases hk
  · cases hx : (SV.sl argL 0 :: rest)[t]? with
    | none => simp [entA, St.of, St.fl, hlook, hx] at ht
    | some x =>
      have hfr : (entA e r0 rest).fr t = x := by simp [entA, St.of, St.fl, hlook, hx]
      rw [hfr]
      have hval : ∀ u, (sd.val :: vs)[t]? = some u → ((sd.val :: vs).toArray ++ Array.replicate (n - (sd.val :: vs).toArray.size) undef)[t]? = some u := fun u hu => by
        have hlt : t < (sd.val :: vs).length := (List.getElem?_eq_some_iff.1 hu).1
        rw [Array.getElem?_append_left (by simpa using hlt)]
        simpa using hu
      cases t with
      | zero =>
        simp at hx
        subst hx
        refine ⟨sd.val, hval _ rfl, .sl argL 0 0 _ _ _ (by simp [env, hmem, Cel.ver]) (Nat.le_refl _) fun _ => rfl⟩
      | succ t =>
        have hx' : rest[t]? = some x := by simpa using hx
        obtain ⟨u, hu, hi⟩ := hr.get hx'
        exact ⟨u, hval u (by simpa using hu), flat_is ((List.all_eq_true.1 hrf) x (List.mem_of_getElem? hx')) hi⟩
  · rw [hmem d]
    by_cases hd : d = argL
    · subst hd
      rw [if_pos rfl]
      exact ⟨hw, fun b hb => .inr hb, us, ownsM_of he ho, flatAll (flat_cells hfl) hc⟩
    · rw [if_neg hd]; trivial
  · rw [hmem d] at h1
    rw [hmem d'] at h2
    by_cases hd : d = argL
    · by_cases hd' : d' = argL
      · exact hne (hd.trans hd'.symm)
      · rw [if_neg hd'] at h2; simp [wblk] at h2
    · rw [if_neg hd] at h1; simp [wblk] at h1
  · have := hX g hx
    exact hg this
/-- **Such a function's contract.** -/
theorem fun_soundA {P : Program} {Γ : Gam} (hΓ : GamOk P Γ) (hm : P.follows .mixedOrders = true) {f : Nat} {F : SF} (hF : cFunc P f = some F) {e : Nat} {r0 r1 : Row SV} {rest : List SV} (he : e < 1000000) (hw : r0.Wf) (hw1 : r1.Wf) (hfl : r0.flat = true) (hfl1 : r1.flat = true) (hrf : rest.all SV.flat0 = true)
    (hv : vc Γ F.body (entA e r0 rest) fun x s => match x with
      | .exit _ => False
      | .normal => vcRet (some 0) (fun v o => v = .sl 0 0 ∧ o = some (e, r1)) F.res s
      | .ret => vcRet (some 0) (fun v o => v = .sl 0 0 ∧ o = some (e, r1)) F.res s) (hn : rest.length + 1 ≤ F.n) : ApOk P f r0 rest e r1 := by
  unfold cFunc at hF
  split at hF
  case h_2 => cases hF
  rename_i fn hfn
  split at hF
  · cases hF
  rename_i hname
  split at hF
  case h_2 => cases hF
  rename_i c hc
  split at hF
  case h_2 => cases hF
  rename_i b0 rs hb0 hrs
  split at hF
  case h_2 => cases hF
  rename_i b hb
  simp only [Option.some.injEq] at hF
  subst hF
  refine ⟨⟨fn, hfn, hname, by rw [hc]; rfl⟩, hw1, fun w v us vs hG hX ho hcs hr => calls_of_wp hfn hc ?_⟩
  have hent : Sim fn.ntmps ⟨w, fun b => v.ownBlock = some b, fun _ => none⟩ (fun _ => False) (entA e r0 rest) ⟨(v :: vs).toArray ++ Array.replicate (fn.ntmps - (v :: vs).toArray.size) undef, []⟩ w := by
    obtain ⟨β, σ, h⟩ := entryA_sim he hw hfl hrf hG hX ho hcs hr hn
    exact ⟨β, σ, ⟨h.size.1, fun _ _ h => by cases h⟩, h.defers, ⟨h.bel.os, h.bel.tape, h.bel.output, h.bel.size, h.bel.block⟩, h.fr, fun d => by
      have := h.mem d
      cases hm : (entA e r0 rest).mem d <;> rw [hm] at this <;> exact this, h.sep, h.low⟩
  refine vc_sound (W := ⟨w, fun b => v.ownBlock = some b, fun _ => none⟩) (A0 := fun _ => False) hΓ hm c b hb (fun _ _ => rfl) _ _ _ _ _ hv hent fun x t a' w' hk hs' => ?_
  obtain ⟨β, σ, hs0⟩ := hs'
  have hend : vcRet (some 0) (fun v o => v = .sl 0 0 ∧ o = some (e, r1)) rs t → a'.defers = [] ∧ ∃ u, (results fn a'.tmps).run P w' = .ok u w' ∧ ∃ v', ∃ us' : List Value, Ending.returned u = .returned v' ∧ w'.ownsRow 0 e r1.size v' r1.len us' ∧ All (E0 w' fun _ => False) r1.cells us' ∧ w.grownBy w' v.ownBlock ∧ ∀ b, v'.ownBlock = some b → v.ownBlock = some b ∨ w.heap.size ≤ b := fun hret => by
    unfold vcRet at hret
    split at hret
    · rename_i r own hrr
      obtain ⟨rfl, rfl⟩ := hret
      obtain ⟨u, hu, out, hout, hT⟩ := results_run (P := P) hs0 hrs hrr
      obtain ⟨ov, us', o1, o2, o3, o4, o5, o6⟩ := hout
      subst o1
      have hT' : some ov = some u := hT
      simp only [Option.some.injEq] at hT'
      subst hT'
      refine ⟨hs0.defers, ov, hu, ov, us', rfl, o5, flatAll (flat_cells hfl1) o6, ⟨hs0.bel.os, hs0.bel.tape, hs0.bel.output, hs0.bel.size, fun k hk hne => hs0.bel.block k hk fun hx => hne hx.symm⟩, ?_⟩
      exact fun b hob => (o4 b hob).elim .inr .inl
    · exact hret.elim
  cases x with
  | normal => exact hend hk
  | ret => exact hend hk
  | exit i => exact hk.elim
/-- **A function that writes the slice that is handed to it.** -/
theorem fun_soundW {P : Program} {Γ : Gam} (hΓ : GamOk P Γ) (hm : P.follows .mixedOrders = true) {f : Nat} {F : SF} (hF : cFunc P f = some F) {r0 r1 : Row SV} (hw : r0.Wf) (hw1 : r1.Wf) (hfl : r0.flat = true) (hfl1 : r1.flat = true) (hd : F.body.dsts.contains 0 = false) (hres : F.res = [])
    (hv : ∀ e, vc Γ F.body (entA e r0 []) fun x s => match x with
      | .exit _ => False
      | .normal => s.fr 0 = .sl argL 0 ∧ s.mem argL = .row 0 e r1
      | .ret => s.fr 0 = .sl argL 0 ∧ s.mem argL = .row 0 e r1) (hn : 1 ≤ F.n) : WrOk P f r0 r1 := by
  unfold cFunc at hF
  split at hF
  case h_2 => cases hF
  rename_i fn hfn
  split at hF
  · cases hF
  rename_i hname
  split at hF
  case h_2 => cases hF
  rename_i c hc
  split at hF
  case h_2 => cases hF
  rename_i b0 rs hb0 hrs
  split at hF
  case h_2 => cases hF
  rename_i b hb
  simp only [Option.some.injEq] at hF
  subst hF
  refine ⟨⟨fn, hfn, hname, by rw [hc]; rfl⟩, hw1, fun base e w v us he hG hX ho hcs => ?_⟩
  have ho0 : w.ownsRow 0 e r0.size v r0.len us := ⟨ho.1, ho.2.imp id fun ⟨g, cap, cur, h1, h2, h3⟩ => ⟨g, cap, cur, h1, Nat.zero_le _, h3⟩⟩
  refine calls_of_wp hfn hc ?_
  refine vc_sound (W := ⟨w, fun b => v.ownBlock = some b, fun t => if t = 0 then some v else none⟩) (A0 := fun _ => False) hΓ hm c b hb (fun d hdd => by
    have hne : d ≠ 0 := fun h0 => by
      subst h0
      rw [List.contains_eq_mem, decide_eq_false_iff_not] at hd
      exact hd hdd
    simp [hne]) _ _ _ _ _ (hv e) (entryA_sim (rest := []) (vs := []) he hw hfl rfl hG hX ho0 hcs All.nil hn) fun x t a' w' hk hs' => ?_
  obtain ⟨β, σ, hs0⟩ := hs'
  have hr0 : rs = [] := hres
  have hfr : fn.results.toList = [] := by
    cases hq : fn.results.toList with
    | nil => rfl
    | cons q qs =>
      exfalso
      have := mapM_len hrs
      rw [hr0, hq] at this
      simp at this
  have hrun : (results fn a'.tmps).run P w' = .ok (.tuple #[]) w' := by
    have hdef : results fn a'.tmps = (do let vs ← fn.results.mapM (resSem a'.tmps); pure (if h : vs.size = 1 then vs[0] else .tuple vs)) := rfl
    rw [hdef, Sem.run_bind, Array.mapM_eq_mapM_toList, Sem.run_map, hfr]
    rfl
  have hend : (t.fr 0 = .sl argL 0 ∧ t.mem argL = .row 0 e r1) → a'.defers = [] ∧ ∃ u, (results fn a'.tmps).run P w' = .ok u w' ∧ (Ending.returned u = .returned (.tuple #[]) ∧ Only v w w' ∧ ∃ us' : List Value, w'.ownsRow base e r1.size v r1.len us' ∧ All (E0 w' fun _ => False) r1.cells us') := fun ⟨h1, h2⟩ => by
    have hk0 := hs0.size.2 0 v (by simp)
    obtain ⟨u, hu, hi⟩ := hs0.fr 0 (by rw [h1]; simp)
    rw [hk0] at hu
    simp only [Option.some.injEq] at hu
    subst hu
    rw [h1] at hi
    have hval := sl_val hs0 hi (by rw [h2]; rfl)
    have hcel := hs0.mem argL
    rw [h2] at hcel
    obtain ⟨_, hmn, us', hown, hall⟩ := hcel
    refine ⟨hs0.defers, _, hrun, rfl, ⟨hs0.bel.os, hs0.bel.tape, hs0.bel.output, hs0.bel.size, fun k hk hne => hs0.bel.block k hk fun hx => hne hx⟩, us', ?_, flatAll (flat_cells hfl1) hall⟩
    rw [hval]
    exact ownsM.row hown he fun b hb => by
      have hb' : (σ argL).val.ownBlock = some b := hb
      rw [← hval] at hb'
      exact (ho.lt b hb').1
  cases x with
  | normal => exact hend hk
  | ret => exact hend hk
  | exit i => exact hk.elim
end Go.Proofs.Ytgklfolmlcfjgaa.Y
